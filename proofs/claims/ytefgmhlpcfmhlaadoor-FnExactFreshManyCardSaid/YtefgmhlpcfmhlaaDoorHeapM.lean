/-
  Chapter 7, the program: names that wait in a heap: what lies in memory, and the heap's own five calls.
-/
import Derived.Test.YtefgmhlpcfmhlaaDoorHeapL
import Derived.Test.YtefgmhlpcfmhlaaDoorNxtW
import Derived.Test.YtefgmhlpcfmhlaaDoorAppW
import Derived.Shelf.Abstract
import Derived.RangeFuncBox
namespace Go.Proofs.YtefgmhlpcfmhlaaDoor
open Go.RowKit

theorem meth_len (B : Nat) (W : World) (v : Value) (h : W.cell? ⟨B, 0, none⟩ = some v) (n : Nat) : (method (n + 1) 40 (.pointer (some ⟨B, 0, none⟩)) "Len").run Tryd.prog W = .ok (30, v) W := by
  have e : (method (n + 1) 40 (.pointer (some ⟨B, 0, none⟩)) "Len").run Tryd.prog W = (do let v ← loadVar 43 ⟨B, 0, none⟩; pure (30, v)).run Tryd.prog W := by kernel_rfl
  rw [e]
  simp [go_sem, h]
theorem meth_less (B : Nat) (W : World) (v : Value) (h : W.cell? ⟨B, 0, none⟩ = some v) (n : Nat) : (method (n + 1) 40 (.pointer (some ⟨B, 0, none⟩)) "Less").run Tryd.prog W = .ok (75, v) W := by
  have e : (method (n + 1) 40 (.pointer (some ⟨B, 0, none⟩)) "Less").run Tryd.prog W = (do let v ← loadVar 43 ⟨B, 0, none⟩; pure (75, v)).run Tryd.prog W := by kernel_rfl
  rw [e]
  simp [go_sem, h]
theorem meth_swap (B : Nat) (W : World) (v : Value) (h : W.cell? ⟨B, 0, none⟩ = some v) (n : Nat) : (method (n + 1) 40 (.pointer (some ⟨B, 0, none⟩)) "Swap").run Tryd.prog W = .ok (78, v) W := by
  have e : (method (n + 1) 40 (.pointer (some ⟨B, 0, none⟩)) "Swap").run Tryd.prog W = (do let v ← loadVar 43 ⟨B, 0, none⟩; pure (78, v)).run Tryd.prog W := by kernel_rfl
  rw [e]
  simp [go_sem, h]
theorem meth_push (B : Nat) (W : World) (n : Nat) : (method (n + 1) 40 (.pointer (some ⟨B, 0, none⟩)) "Push").run Tryd.prog W = .ok (77, (.pointer (some ⟨B, 0, none⟩))) W := by kernel_rfl
theorem meth_pop (B : Nat) (W : World) (n : Nat) : (method (n + 1) 40 (.pointer (some ⟨B, 0, none⟩)) "Pop").run Tryd.prog W = .ok (76, (.pointer (some ⟨B, 0, none⟩))) W := by kernel_rfl

theorem ent_len : ∀ args W, (callFunc 30 args).run Tryd.prog W = .ok (.enter 30 args) W := enters_of Tryd.func30 (by kernel_rfl) rfl
theorem ent_less : ∀ args W, (callFunc 75 args).run Tryd.prog W = .ok (.enter 75 args) W := enters_of Tryd.func75 (by kernel_rfl) rfl
theorem ent_swap : ∀ args W, (callFunc 78 args).run Tryd.prog W = .ok (.enter 78 args) W := enters_of Tryd.func78 (by kernel_rfl) rfl
theorem ent_push : ∀ args W, (callFunc 77 args).run Tryd.prog W = .ok (.enter 77 args) W := enters_of Tryd.func77 (by kernel_rfl) rfl
theorem ent_pop : ∀ args W, (callFunc 76 args).run Tryd.prog W = .ok (.enter 76 args) W := enters_of Tryd.func76 (by kernel_rfl) rfl

/-- The names that wait: a box with a list, which lies in memory of the call's own. -/
structure HpS (n0 B g cp : Nat) (H : List ByteArray) (w : World) : Prop where
  box : Boxed w B 43 (.slice (some ⟨g, 0, none⟩) H.length cp)
  own : w.ownsRow n0 9 1 (.slice (some ⟨g, 0, none⟩) H.length cp) H.length (H.map Value.string)
  lo : n0 ≤ B
section
variable {n0 B g cp : Nat} {H : List ByteArray} {w w' : World}
theorem HpS.ne (h : HpS n0 B g cp H w) : B ≠ g := fun e => Boxed.not_row h.box (by decide) h.own (by rw [e]; rfl)
theorem HpS.lt (h : HpS n0 B g cp H w) : n0 ≤ g ∧ g < w.heap.size := World.ownsRow.lt h.own g rfl
theorem HpS.call (h : HpS n0 B g cp H w) (hb : Below w.heap.size w w') : HpS n0 B g cp H w' :=
  ⟨(hb.block B h.box.lt).trans h.box, own_kept h.own (fun k hk => hb.block k (World.ownsRow.lt h.own k hk).2), h.lo⟩
theorem HpS.cell (h : HpS n0 B g cp H w) {i : Nat} (hi : i < H.length) : w.cell? ⟨g, i, none⟩ = some (.string (gT H i)) := by
  have hc := World.ownsRow.cells h.own (g := g) rfl i (.string (gT H i)) (by rw [gT_get hi]; simp [hi])
  have hadd : (⟨g, 0, none⟩ : Addr).add i = ⟨g, i, none⟩ := by unfold Addr.add; split <;> simp_all
  rwa [hadd] at hc
theorem HpS.frozen (h : HpS n0 B g cp H w) (i : Nat) : w.frozen? ⟨g, i, none⟩ = false := World.ownsRow.frozenAt h.own i
theorem HpS.swap (h : HpS n0 B g cp H w) (i j : Nat) : HpS n0 B g cp (swp H i j) ((w.setCell ⟨g, i, none⟩ (.string (gT H j))).setCell ⟨g, j, none⟩ (.string (gT H i))) := by
  have h1 := (World.ownsRow.stored h.own i (.string (gT H j))).1
  have h2 := (World.ownsRow.stored h1 j (.string (gT H i))).1
  have e : ((H.map Value.string).set i (.string (gT H j))).set j (.string (gT H i)) = (swp H i j).map Value.string := by
    unfold swp
    rw [List.map_set, List.map_set]
  refine ⟨?_, ?_, h.lo⟩
  · rw [swp_len]
    have hne := h.ne
    exact (Below.heap_setCell _ _ _ _ hne).trans ((Below.heap_setCell _ _ _ _ hne).trans h.box)
  · rw [swp_len, ← e]
    exact h2
end
/-- What of memory is its own. -/
def HpF (B g : Nat) : Nat → Prop := fun k => k = B ∨ k = g
theorem nxt_swap (B g i j : Nat) (u v : Value) (w : World) : Nxt (HpF B g) (HpF B g) w ((w.setCell ⟨g, i, none⟩ u).setCell ⟨g, j, none⟩ v) := (Nxt.set (HpF B g) w u (Or.inr rfl)).trans (Nxt.set (HpF B g) _ v (Or.inr rfl))

theorem wlen_any (a : Option Addr) (n cp : Nat) (w : World) :
    Calls Tryd.prog 30 #[.slice a n cp] w fun e w' => e = .returned (.int .i64 (n : Int)) ∧ w = w' := by
  go_enter Tryd.func30, Tryd.ntmps30
  go_wp2
  go_ret
  exact ⟨rfl, rfl⟩

set_option maxHeartbeats 1000000 in
theorem wless_any (g n cp i j : Nat) (s t : ByteArray) (w : World) (hi : i < n) (hj : j < n) (h1 : w.cell? ⟨g, i, none⟩ = some (.string s)) (h2 : w.cell? ⟨g, j, none⟩ = some (.string t)) :
    Calls Tryd.prog 75 #[.slice (some ⟨g, 0, none⟩) n cp, .int .i64 (i : Int), .int .i64 (j : Int)] w fun e w' => e = .returned (.bool (ltB s t)) ∧ Below w.heap.size w w' := by
  go_enter Tryd.func75, Tryd.ntmps75
  go_wp2
  go_region
  go_wp2
  go_ret
  exact ⟨rfl, (Below.refl _ _).drew⟩

set_option maxHeartbeats 1000000 in
theorem wswap_any (g n cp i j : Nat) (s t : ByteArray) (w : World) (hi : i < n) (hj : j < n) (h1 : w.cell? ⟨g, i, none⟩ = some (.string s)) (h2 : w.cell? ⟨g, j, none⟩ = some (.string t)) (f1 : w.frozen? ⟨g, i, none⟩ = false) (f2 : w.frozen? ⟨g, j, none⟩ = false) :
    Calls Tryd.prog 78 #[.slice (some ⟨g, 0, none⟩) n cp, .int .i64 (i : Int), .int .i64 (j : Int)] w fun e w' => e = .returned (.tuple #[]) ∧ ∃ W, Below w.heap.size w W ∧ w' = (W.setCell ⟨g, i, none⟩ (.string t)).setCell ⟨g, j, none⟩ (.string s) := by
  have h3 : (w.setCell ⟨g, i, none⟩ (.string t)).cell? ⟨g, j, none⟩ = some (.string t) := by
    by_cases e : i = j
    · subst e
      exact World.cell?_setCell_same w _ _ h1
    · exact (World.cell?_setCell_other w ⟨g, i, none⟩ ⟨g, j, none⟩ _ (fun hh => e (by injection hh))).trans h2
  go_enter Tryd.func78, Tryd.ntmps78
  go_wp2
  go_region
  go_wp2
  go_end0
  exact ⟨rfl, w.drew, (Below.refl _ _).drew, rfl⟩

theorem hless_any {n0 B g cp i j : Nat} {H : List ByteArray} {w : World} (h : HpS n0 B g cp H w) (hi : i < H.length) (hj : j < H.length) :
    Calls Tryd.prog 75 #[.slice (some ⟨g, 0, none⟩) H.length cp, .int .i64 (i : Int), .int .i64 (j : Int)] w fun e w' => e = .returned (.bool (ltB (gT H i) (gT H j))) ∧ Below w.heap.size w w' :=
  wless_any g _ cp i j _ _ w hi hj (h.cell hi) (h.cell hj)
theorem hswap_any {n0 B g cp i j : Nat} {H : List ByteArray} {w : World} (h : HpS n0 B g cp H w) (hi : i < H.length) (hj : j < H.length) :
    Calls Tryd.prog 78 #[.slice (some ⟨g, 0, none⟩) H.length cp, .int .i64 (i : Int), .int .i64 (j : Int)] w fun e w' => e = .returned (.tuple #[]) ∧ HpS n0 B g cp (swp H i j) w' ∧ Nxt (HpF B g) (HpF B g) w w' := by
  refine (wswap_any g _ cp i j _ _ w hi hj (h.cell hi) (h.cell hj) (h.frozen i) (h.frozen j)).mono ?_
  rintro e w' ⟨rfl, W, hb, rfl⟩
  exact ⟨rfl, (h.call hb).swap i j, (Nxt.of_below _ hb).trans (nxt_swap B g i j _ _ W)⟩

set_option maxHeartbeats 2000000 in
theorem up_any (n0 B g cp j : Nat) (H : List ByteArray) (w : World) (h : HpS n0 B g cp H w) (hU : UpI H H.length j) (hj : j < H.length) (hl : H.length ≤ 9000000) :
    Calls Tryd.prog 45 #[.iface 40 (.pointer (some ⟨B, 0, none⟩)), .int .i64 (j : Int)] w fun e w' => e = .returned (.tuple #[]) ∧ ∃ K, K.length = H.length ∧ Hp K K.length ∧ (∀ s, s ∈ K ↔ s ∈ H) ∧ HpS n0 B g cp K w' ∧ Nxt (HpF B g) (HpF B g) w w' := by
  go_enter Tryd.func45, Tryd.ntmps45
  go_wp2
  go_loopw [1] (fun v1 wr => ∃ (k : Nat) (K : List ByteArray), v1 = .int .i64 (k : Int) ∧ k < H.length ∧ Hid (K.length = H.length) ∧ UpI K K.length k ∧ Hid (∀ s, s ∈ K ↔ s ∈ H) ∧ HpS n0 B g cp K wr ∧ Nxt (HpF B g) (HpF B g) w wr) (fun v1 _ => (intOf v1).toNat)
  case atStart => exact ⟨j, H, rfl, hj, rfl, hU, fun _ => Iff.rfl, h, Nxt.refl _ _⟩
  case round =>
    obtain ⟨k, K, rfl, hk, HL, hI, HM, hS, hN⟩ := hrel
    have hkK : k < K.length := by rw [HL.out]; exact hk
    have mL := meth_less B wr _ hS.box.cell
    have eL := ent_less
    by_cases h0 : k = 0
    · subst h0
      go_wp2
      go_end0
      exact ⟨rfl, K, HL.out, up_end hI (Or.inl rfl), HM.out, hS, hN⟩
    · obtain ⟨p, hp⟩ : ∃ p : Nat, p = (k - 1) / 2 := ⟨_, rfl⟩
      have hpk : p < k := by omega
      have hpi : ((k : Int) - 1).tdiv 2 = (p : Int) := by
        rw [Int.tdiv_eq_ediv_of_nonneg (by omega)]
        omega
      have hne : ¬ (p : Int) = (k : Int) := by omega
      have HP : Hid (p = (k - 1) / 2) := hp
      clear hp
      have HLs := hless_any hS hkK (show p < K.length by omega)
      cases hq : ltB (gT K k) (gT K p)
      · rw [hq] at HLs
        have HE : Hid (Hp K K.length) := up_end hI (Or.inr (by rw [← HP.out]; exact hq))
        clear hI hq
        go_wp2_with fail
        refine HLs.mono ?_
        rintro e w2 ⟨rfl, hb2⟩
        go_wp2
        go_end0
        exact ⟨rfl, K, HL.out, HE.out, HM.out, hS.call hb2, hN.trans (Nxt.of_below _ hb2)⟩
      · rw [hq] at HLs
        have HI : Hid (UpI (swp K p k) (swp K p k).length p) := by
          show UpI (swp K p k) (swp K p k).length p
          rw [swp_len, HP.out]
          exact up_step hI (Nat.le_refl _) (by omega) hkK (by rw [← HP.out]; exact hq)
        have HM2 : Hid (∀ s, s ∈ swp K p k ↔ s ∈ H) := fun s => by
          have h1 := has_swp (H := K) (i := p) (j := k) (n := K.length) (by omega) hkK (Nat.le_refl _) s
          have h2 := has_all (swp K p k) s
          rw [swp_len] at h2
          rw [← h2, h1, has_all]
          exact HM.out s
        clear hI hq
        go_wp2_with fail
        refine HLs.mono ?_
        rintro e w2 ⟨rfl, hb2⟩
        have hS2 := hS.call hb2
        have mS := meth_swap B w2 _ hS2.box.cell
        have eS := ent_swap
        clear mL eL
        go_wp2_with fail
        refine (hswap_any hS2 (show p < K.length by omega) hkK).mono ?_
        rintro e w3 ⟨rfl, hS3, hN3⟩
        clear mS eS HLs
        go_wp2
        go_roundw
        case rel => exact ⟨p, swp K p k, rfl, by omega, (by rw [swp_len]; exact HL.out : (swp K p k).length = H.length), HI.out, HM2.out, hS3, (hN.trans (Nxt.of_below _ hb2)).trans hN3⟩
        case measure => simp [intOf]; omega

end Go.Proofs.YtefgmhlpcfmhlaaDoor
