/-
  The exact law of SignsOf, walked: at every text the program answers as the model does; its answer owns its memory.
-/
import Derived.Test.YtmlopiphcnhcpaaCutI
import Derived.Test.YtmlopiphcnhcpaaMarkW
namespace Go.Proofs.Ytmlopiphcnhcpaa
open Go.RowKit

set_option maxHeartbeats 1000000 in
theorem signsI_any (s : ByteArray) (w : World) (hs : s.size ≤ 1048576) :
    Calls Try.prog 12 #[.string s] w fun e w' => ∃ v b L, e = .returned (.tuple #[v, .bool b]) ∧ OwnT w' w.heap.size v L ∧ Below w.heap.size w w' ∧ L.length ≤ 2000 ∧ Page s (L, b) := by
  by_cases hbig : 20000 < s.size
  · have HP : Hid (Page s ([], false)) := (by unfold Page; rw [if_neg (by omega)] : Page s ([], false))
    go_enter Try.func12, Try.ntmps12
    go_wp2
    go_ret2
    exact ⟨_, _, [], rfl, ownT_nil _ _, Below.refl _ _, by simp, HP.out⟩
  · go_enter Try.func12, Try.ntmps12
    go_wp2_with fail
    refine (cutSigns_any s _ (by omega)).mono ?_
    rintro e w1 ⟨v, b, L, rfl, hown, hb, hL, hC⟩
    have HP : Hid (Page s (L, b)) := (by unfold Page; rw [if_pos (by omega)]; exact hC : Page s (L, b))
    clear hC
    obtain ⟨a, cap, rfl⟩ := hown.shape
    go_wp2
    go_ret2
    exact ⟨_, _, L, rfl, hown, hb, hL, HP.out⟩

/-- The list stays through a call. -/
theorem IsT.call {w w' : World} {B : Nat} {v : Value} {L : List ByteArray} (h : IsT w B v L) (hb : Below w.heap.size w w') : IsT w' B v L := by
  rcases h with h | ⟨hne, g, cap, rfl, hB, hr⟩
  · exact Or.inl h
  · exact Or.inr ⟨hne, g, cap, rfl, hB, hr.call hb⟩

set_option maxHeartbeats 4000000 in
theorem lawSignsOf (s : ByteArray) (w : World) (_hs : s.size ≤ maxLen) :
    Calls Try.prog 6 #[.string s] w fun e w' => e = .returned (.bool true) ∧ Below w.heap.size w w' := by
  by_cases hbig : (1048576 : Int) < s.size
  · go_enter Try.func6, Try.ntmps6
    go_wp2
    go_ret
    exact ⟨rfl, Below.refl _ _⟩
  have hs1 : s.size ≤ 1048576 := by omega
  go_enter Try.func6, Try.ntmps6
  go_wp2_with fail
  refine (signsS_any s _ hs1).mono ?_
  rintro e w1 ⟨v1, b, L, rfl, ho1, hb1, hL, hP⟩
  by_cases hLe : L = []
  · subst hLe
    have h1 := ho1.is
    obtain ⟨a1, cap1, rfl⟩ := ho1.shape
    clear ho1 hL
    go_wp2_with fail
    refine (signsI_any s _ hs1).mono ?_
    rintro e w2 ⟨v2, b2, L2, rfl, ho2, hb2, hL2, hP2⟩
    obtain ⟨rfl, rfl⟩ := Prod.mk.inj (hP2.one hP)
    have h2 := ho2.is
    obtain ⟨a2, cap2, rfl⟩ := ho2.shape
    clear ho2 hP2 hL2
    replace h1 := h1.call hb2
    have hB2 := bstep hb1 hb2
    clear hb1 hb2
    go_wp2_with fail
    refine (eqStringS_same _ _ _ _ [] _ h2 h1 (by simp)).mono ?_
    rintro e w3 ⟨rfl, hb3⟩
    replace h1 := h1.call hb3
    have hB3 := bstep hB2 hb3
    clear hb3 hB2 h2
    go_wp2_with fail
    refine (markStringS_nil _ _ _).mono ?_
    rintro e w4 ⟨rfl, hw4⟩
    rw [hw4]
    clear hw4
    go_wp2_with fail
    refine (heldStringS_nil _ _ _).mono ?_
    rintro e w5 ⟨rfl, hw5⟩
    rw [hw5]
    clear hw5
    go_wp2_with fail
    refine (signsI_any s _ hs1).mono ?_
    rintro e w6 ⟨v6, b6, L6, rfl, ho6, hb6, hL6, hP6⟩
    obtain ⟨rfl, rfl⟩ := Prod.mk.inj (hP6.one hP)
    have h6 := ho6.is
    obtain ⟨a6, cap6, rfl⟩ := ho6.shape
    clear ho6 hP6 hL6
    replace h1 := h1.call hb6
    have hB6 := bstep hB3 hb6
    clear hb6 hB3
    go_wp2_with fail
    refine (eqStringS_same _ _ _ _ [] _ h6 h1 (by simp)).mono ?_
    rintro e w7 ⟨rfl, hb7⟩
    have hB7 := bstep hB6 hb7
    clear hb7 hB6 h6 h1
    go_wp2_with fail
    refine (heldStringS_nil _ _ _).mono ?_
    rintro e w8 ⟨rfl, hw8⟩
    rw [hw8]
    clear hw8
    go_wp2
    go_ret
    exact ⟨rfl, hB7⟩
  · obtain ⟨g1, cap1, hv1, hg1, hr1⟩ := (ho1.is.resolve_left fun h => hLe h.1).2
    subst hv1
    clear ho1
    have hlt1 := hr1.1
    go_wp2_with fail
    refine (signsI_any s _ hs1).mono ?_
    rintro e w2 ⟨v2, b2, L2, rfl, ho2, hb2, hL2, hP2⟩
    obtain ⟨rfl, rfl⟩ := Prod.mk.inj (hP2.one hP)
    obtain ⟨g, cap, hv2, hg, hr⟩ := (ho2.is.resolve_left fun h => hLe h.1).2
    subst hv2
    clear ho2 hP2 hL2
    have hng : g1 ≠ g := by omega
    have hzb := hb1.size
    have hwg : w.heap.size ≤ g := by omega
    replace hr1 := hr1.call hb2
    have hB2 := bstep hb1 hb2
    clear hb1 hb2
    go_wp2_with fail
    refine (eqStringS_same 0 0 _ _ L2 _ (Or.inr ⟨hLe, g, cap, rfl, Nat.zero_le _, hr⟩) (Or.inr ⟨hLe, g1, cap1, rfl, Nat.zero_le _, hr1⟩) (by omega)).mono ?_
    rintro e w3 ⟨rfl, hb3⟩
    replace hr1 := hr1.call hb3
    replace hr := hr.call hb3
    have hB3 := bstep hB2 hb3
    clear hb3 hB2
    go_wp2_with fail
    refine (markStringS_row g cap L2 _ hr (by omega)).mono ?_
    rintro e w4 ⟨rfl, hb4, hr4⟩
    replace hr1 := hr1.but hb4 hng
    have hB4 := But.below hB3 hwg hb4
    clear hb4 hB3 hr
    go_wp2_with fail
    refine (heldStringS_row g cap L2.length _ hr4 (by omega)).mono ?_
    rintro e w5 ⟨rfl, hb5⟩
    replace hr1 := hr1.call hb5
    replace hr4 := hr4.call hb5
    have hB5 := bstep hB4 hb5
    clear hb5 hB4
    go_wp2_with fail
    refine (signsI_any s _ hs1).mono ?_
    rintro e w6 ⟨v6, b6, L6, rfl, ho6, hb6, hL6, hP6⟩
    obtain ⟨rfl, rfl⟩ := Prod.mk.inj (hP6.one hP)
    obtain ⟨g6, cap6, hv6, hg6, hr6⟩ := (ho6.is.resolve_left fun h => hLe h.1).2
    subst hv6
    clear ho6 hP6 hL6
    replace hr1 := hr1.call hb6
    replace hr4 := hr4.call hb6
    have hB6 := bstep hB5 hb6
    clear hb6 hB5
    go_wp2_with fail
    refine (eqStringS_same 0 0 _ _ L6 _ (Or.inr ⟨hLe, g6, cap6, rfl, Nat.zero_le _, hr6⟩) (Or.inr ⟨hLe, g1, cap1, rfl, Nat.zero_le _, hr1⟩) (by omega)).mono ?_
    rintro e w7 ⟨rfl, hb7⟩
    replace hr4 := hr4.call hb7
    have hB7 := bstep hB6 hb7
    clear hb7 hB6 hr1 hr6
    go_wp2_with fail
    refine (heldStringS_row g cap L6.length _ hr4 (by omega)).mono ?_
    rintro e w8 ⟨rfl, hb8⟩
    have hB8 := bstep hB7 hb8
    clear hb8 hB7 hr4
    go_wp2
    go_ret
    exact ⟨rfl, hB8⟩

end Go.Proofs.Ytmlopiphcnhcpaa
