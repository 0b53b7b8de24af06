/-
  Chapter 7, the program: whether a name is among them, v and a number, the least number that nobody has.
-/
import Derived.Test.YtefgmhlpcfmhlaaDoorNmsW
import Derived.Test.YtefgmhlpcfmhlaaDoorPowT
import Derived.Shelf.Spec.SearchS
namespace Go.Proofs.YtefgmhlpcfmhlaaDoor
open Go.RowKit

/-- Where those that are ahead of it end. -/
theorem cut_of (s : ByteArray) : ∀ X : List ByteArray, Rise X → ∃ k, k ≤ X.length ∧ (∀ j (h : j < X.length), j < k → ltB X[j] s = true) ∧ (∀ j (h : j < X.length), k ≤ j → ltB X[j] s = false)
  | [], _ => ⟨0, Nat.le_refl _, fun j h => absurd h (Nat.not_lt_zero _), fun j h => absurd h (Nat.not_lt_zero _)⟩
  | x :: X, hR => by
    unfold Rise at hR
    rw [List.pairwise_cons] at hR
    cases hq : ltB x s
    · refine ⟨0, Nat.zero_le _, fun j _ hj => absurd hj (Nat.not_lt_zero _), fun j hj _ => ?_⟩
      cases j with
      | zero => exact hq
      | succ j =>
        have hj' : j < X.length := by simpa using hj
        show ltB X[j] s = false
        cases hz : ltB X[j] s
        · rfl
        · have := lt_trans' (hR.1 _ (List.getElem_mem hj')) hz
          rw [this] at hq
          cases hq
    · obtain ⟨k, h1, h2, h3⟩ := cut_of s X hR.2
      refine ⟨k + 1, by simpa using h1, fun j hj hk => ?_, fun j hj hk => ?_⟩
      · cases j with
        | zero => exact hq
        | succ j => exact h2 j (by simpa using hj) (by omega)
      · cases j with
        | zero => omega
        | succ j => exact h3 j (by simpa using hj) (by omega)
/-- What is looked at. -/
def seeN (X : List ByteArray) (s : ByteArray) (j : Nat) : ByteArray := if j < X.length then gT X j else s
theorem search_in (X : List ByteArray) (s : ByteArray) (hR : Rise X) : decide (Lib.bsGo (fun t => Op.bytesLess (seeN X s t).toList s.toList) X.length 0 X.length < X.length ∧ seeN X s (Lib.bsGo (fun t => Op.bytesLess (seeN X s t).toList s.toList) X.length 0 X.length) = s) = inB X s := by
  obtain ⟨k, h1, h2, h3⟩ := cut_of s X hR
  have e : Lib.bsGo (fun t => Op.bytesLess (seeN X s t).toList s.toList) X.length 0 X.length = k := by
    refine Lib.bsGo_spec _ k (fun t ht => ?_) (fun t ht => ?_) _ _ _ (by omega) (Nat.zero_le _) h1
    · show ltB (seeN X s t) s = true
      unfold seeN
      rw [if_pos (by omega), gT_get (by omega)]
      exact h2 t (by omega) ht
    · show ltB (seeN X s t) s = false
      unfold seeN
      by_cases hl : t < X.length
      · rw [if_pos hl, gT_get hl]
        exact h3 t hl ht
      · rw [if_neg hl]
        exact lt_irrefl' s
  rw [e]
  by_cases hm : s ∈ X
  · rw [(inB_iff X s).mpr hm, decide_eq_true_eq]
    obtain ⟨m, hml, hme⟩ := List.getElem_of_mem hm
    have hkm : k ≤ m := by
      by_cases hlt : m < k
      · have := h2 m hml hlt
        rw [hme, lt_irrefl'] at this
        cases this
      · omega
    have hk : k = m := by
      by_cases hlt : k < m
      · have a1 := List.pairwise_iff_getElem.mp hR k m (by omega) hml hlt
        rw [hme, h3 k (by omega) (Nat.le_refl _)] at a1
        cases a1
      · omega
    subst hk
    refine ⟨hml, ?_⟩
    unfold seeN
    rw [if_pos hml, gT_get hml]
    exact hme
  · have hf : inB X s = false := by
      cases hq : inB X s
      · rfl
      · exact absurd ((inB_iff X s).mp hq) hm
    rw [hf, decide_eq_false_iff_not]
    rintro ⟨a1, a2⟩
    unfold seeN at a2
    rw [if_pos a1, gT_get a1] at a2
    exact hm (by rw [← a2]; exact List.getElem_mem _)
theorem below_drewN (w : World) (q : Nat) : Below w.heap.size w (w.drewN q) := ⟨rfl, rfl, rfl, Nat.le_refl _, fun _ _ => rfl⟩

set_option maxHeartbeats 1000000 in
theorem isAmong_any (g n cp : Nat) (X : List ByteArray) (s : ByteArray) (w : World) (h : RowT w g X) (hR : Rise X) (hn : n = X.length) (hl : n ≤ 9000000) :
    Calls Tryd.prog 28 #[.slice (some ⟨g, 0, none⟩) n cp, .string s] w fun e w' => e = .returned (.bool (inB X s)) ∧ Below w.heap.size w w' := by
  have HS : Hid (∀ W, RowT W g X → Calls Tryd.prog 34 #[.slice (some ⟨g, 0, none⟩) n cp, .string s] W fun e w' => (∃ i, e = .returned (.tuple #[.int .i64 i, .bool (inB X s)])) ∧ Below W.heap.size W w') := fun W hW => by
    refine (Tryd.slices_BinarySearch_string g 0 n cp (seeN X s) s W (by omega) (fun j hj => ?_)).mono ?_
    · unfold seeN
      rw [if_pos (by omega), gT_get (by omega), Nat.zero_add]
      exact (hW.2 j (by omega)).1
    · rintro e w' ⟨rfl, q, rfl⟩
      rw [hn, search_in X s hR]
      exact ⟨⟨_, rfl⟩, below_drewN W q⟩
  clear hn
  go_enter Tryd.func28, Tryd.ntmps28
  go_wp2_with fail
  refine (HS.out _ h).mono ?_
  rintro e w1 ⟨⟨i, rfl⟩, hb⟩
  go_wp2
  go_ret
  exact ⟨rfl, hb⟩

set_option maxHeartbeats 1000000 in
theorem freshName_any (n : Nat) (w : World) (hn : n ≤ 999999999) (ht : Tab w) :
    Calls Tryd.prog 17 #[.int .i64 (n : Int)] w fun e w' => e = .returned (.string (vN n)) ∧ Below w.heap.size w w' := by
  have HI : Hid (Lib.itoa (n : Int) = Lib.decDigits n) := itoa_nat n
  have hl : ¬ 9223372036854775807 < 1 + (Lib.decDigits n).length := by
    have := dec_few n n (Nat.le_refl _)
    omega
  have HV : Hid ((⟨#[118]⟩ ++ ⟨(Lib.decDigits n).toArray⟩ : ByteArray) = vN n) := bytes_cons 118 _
  have h0 : (-999999999 : Int) ≤ (n : Int) := by omega
  have h1 : (n : Int) ≤ 999999999 := by omega
  go_enter Tryd.func17, Tryd.ntmps17
  go_wp2_with fail
  refine (format_any (n : Int) _ h0 h1 ht).mono ?_
  rintro e w1 ⟨rfl, hb⟩
  rw [HI.out]
  go_wp2
  go_ret
  exact ⟨by rw [← HV.out]; rfl, hb⟩

set_option maxHeartbeats 4000000 in
theorem freshNumber_any (g m cp : Nat) (X : List ByteArray) (n : Nat) (w : World) (h : RowT w g X) (hR : Rise X) (hm : m = X.length) (hX : X.length ≤ 2000000) (hn : n ≤ 900000000) (ht : Tab w) :
    Calls Tryd.prog 18 #[.slice (some ⟨g, 0, none⟩) m cp, .int .i64 (n : Int)] w fun e w' => e = .returned (.int .i64 (frN X n : Int)) ∧ Below w.heap.size w w' := by
  obtain ⟨f0, f1, f2, f3⟩ := fr_said X n
  have HA : Hid (∀ W s, RowT W g X → Calls Tryd.prog 28 #[.slice (some ⟨g, 0, none⟩) m cp, .string s] W fun e w' => e = .returned (.bool (inB X s)) ∧ Below W.heap.size W w') := fun W s hW => isAmong_any g m cp X s W hW hR hm (by omega)
  clear hm hR
  go_enter Tryd.func18, Tryd.ntmps18
  go_wp2
  go_loopw [5] (fun v5 wr => ∃ k : Nat, v5 = .int .i64 (k : Int) ∧ n ≤ k ∧ k ≤ frN X n ∧ Below w.heap.size w wr) (fun v5 _ => frN X n - (intOf v5).toNat)
  case atStart => exact ⟨n, rfl, Nat.le_refl _, f0, Below.refl _ _⟩
  case round =>
    obtain ⟨k, rfl, hk0, hk1, hB⟩ := hrel
    go_wp2_with fail
    refine (freshName_any k _ (by omega) (tab_call ht hB)).mono ?_
    rintro e w1 ⟨rfl, hb1⟩
    have hB1 := bstep hB hb1
    go_wp2_with fail
    refine (HA.out _ _ (h.call hB1)).mono ?_
    rintro e w2 ⟨rfl, hb2⟩
    have hB2 := bstep hB1 hb2
    by_cases hk : k < frN X n
    · rw [f3 k hk0 hk]
      go_wp2
      go_roundw
      case rel => exact ⟨k + 1, by go_num, by omega, by omega, hB2⟩
      case measure => simp [intOf]; omega
    · have e1 : k = frN X n := by omega
      have HE : Hid ((k : Int) = (frN X n : Int)) := (by rw [← e1] : (k : Int) = (frN X n : Int))
      have hz : inB X (vN k) = false := by rw [e1]; exact f2
      rw [hz]
      clear f2 f3 e1 hz
      go_wp2
      go_ret
      exact ⟨by rw [← HE.out]; rfl, hB2⟩

end Go.Proofs.YtefgmhlpcfmhlaaDoor
