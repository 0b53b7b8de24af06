/-
  ValueIn, the program's and the model's, each by a contract: both answer the same at every text.
-/
import Derived.Test.YtlmibonebiaocaaDoorReadW
import Derived.Test.YtlmibonebiaocaaDoorValS
namespace Go.Proofs.YtlmibonebiaocaaDoor
open Go.RowKit

set_option maxHeartbeats 400000 in
theorem textShapeV_any (s : ByteArray) (w : World) :
    Calls Tryd.prog 59 #[.agg #[.string s]] w fun e w' =>
      e = .returned (.agg #[.int .i64 2, .int .i64 0, .string s]) ∧ Below w.heap.size w w' := by
  go_enter Tryd.func59, Tryd.ntmps59
  go_wp2
  go_returns
  exact ⟨rfl, by go_grown⟩

set_option maxHeartbeats 1000000 in
theorem valueInI_any (s : ByteArray) (w : World) (hs : s.size ≤ maxLen) (ht : Tab w) :
    Calls Tryd.prog 52 #[.string s] w fun e w' => e = .returned (.tuple #[.agg #[.int .i64 (viK s), .int .i64 (viN s), .string (viT s)], .bool (viB s)]) ∧ Below w.heap.size w w' := by
  have hT : ∀ W : World, Below w.heap.size w W → Tab W := fun W hb => tab_call ht hb
  cases hn : numerB s
  · cases hq : quotB s
    · have HV : Hid (viK s = 0 ∧ viN s = 0 ∧ viT s = ⟨#[]⟩ ∧ viB s = (s.toList == [110, 111, 110, 101])) := vi_rest hn hq
      have H3 : Hid ((kindN s == 3) = false) := by
        show (kindN s == 3) = false
        rw [beq_eq_false_iff_ne]
        intro h
        rw [(numerB_iff s).mpr ((numer_iff s).mpr h)] at hn
        exact absurd hn (by decide)
      have H4 : Hid ((kindN s == 4) = false) := by
        show (kindN s == 4) = false
        rw [beq_eq_false_iff_ne]
        intro h
        rw [(quotB_iff s).mpr ((quot_iff s).mpr h)] at hq
        exact absurd hq (by decide)
      have HG : Hid (sgn 0 0 ⟨#[]⟩ = ⟨#[110, 111, 110, 101]⟩) := (by rw [sgn_other (by decide)]; simp [txt, okV, emB, ByteArray.toList_eq] : sgn 0 0 ⟨#[]⟩ = ⟨#[110, 111, 110, 101]⟩)
      clear hn hq
      go_enter Tryd.func52, Tryd.ntmps52
      go_wp2_with fail
      refine (signKind_any s _ hs).mono ?_
      rintro e w1 ⟨rfl, rfl⟩
      generalize kindN s = kd at H3 H4 ⊢
      have h3 := H3.out
      have h4 := H4.out
      go_wp2_with fail
      refine (signOfI_any 0 0 ⟨#[]⟩ _ (by decide) (hT _ (by repeat' (first | (with_reducible exact Below.refl _ _) | (with_reducible refine Below.drew ?_) | (with_reducible refine balloc ?_ _) | (with_reducible refine bset ?_ _ ?_) | (with_reducible refine bstep ?_ (by with_reducible assumption)) | go_size)))).mono ?_
      rintro e w2 ⟨rfl, hb2⟩
      rw [HG.out]
      obtain ⟨hc, hf⟩ := bcell hb2
      go_wp2
      exact bodyPost_ret (by simp [results, Tryd.results52, go_sem, hc]; rfl) rfl ⟨by rw [HV.out.1, HV.out.2.1, HV.out.2.2.1, HV.out.2.2.2], (by repeat' (first | (with_reducible exact Below.refl _ _) | (with_reducible refine Below.drew ?_) | (with_reducible refine balloc ?_ _) | (with_reducible refine bset ?_ _ ?_) | (with_reducible refine bstep ?_ (by with_reducible assumption)) | go_size))⟩
    · have HV : Hid (viK s = 2 ∧ viN s = 0 ∧ viT s = s.extract 1 (s.size - 1) ∧ viB s = true) := vi_quot hn hq
      have HK : Hid (kindN s = 4) := kind_quot ((quotB_iff s).mp hq)
      have h1 : 1 < s.size := ((quotB_iff s).mp hq).1
      clear hn hq
      unfold maxLen at hs
      go_enter Tryd.func52, Tryd.ntmps52
      go_wp2_with fail
      refine (signKind_any s _ hs).mono ?_
      rintro e w1 ⟨rfl, rfl⟩
      rw [HK.out]
      go_wp2_with fail
      refine (textShapeV_any _ _).mono ?_
      rintro e w2 ⟨rfl, hb2⟩
      obtain ⟨hc, hf⟩ := bcell hb2
      go_wp2
      exact bodyPost_ret (by simp [results, Tryd.results52, go_sem, hc]; rfl) rfl ⟨by rw [HV.out.1, HV.out.2.1, HV.out.2.2.1, HV.out.2.2.2], (by repeat' (first | (with_reducible exact Below.refl _ _) | (with_reducible refine Below.drew ?_) | (with_reducible refine balloc ?_ _) | (with_reducible refine bset ?_ _ ?_) | (with_reducible refine bstep ?_ (by with_reducible assumption)) | go_size))⟩
  · have HN : Hid (numerB s = true ∧ numN s = readN s) := num_yes hn rfl
    have HK : Hid (kindN s = 3) := kind_numer ((numerB_iff s).mp hn)
    have HV : Hid (viK s = 1 ∧ viN s = readN s ∧ viT s = ⟨#[]⟩ ∧ viB s = true) := vi_num hn
    clear hn
    go_enter Tryd.func52, Tryd.ntmps52
    go_wp2_with fail
    refine (signKind_any s _ hs).mono ?_
    rintro e w1 ⟨rfl, rfl⟩
    rw [HK.out]
    go_wp2_with fail
    refine (readNumberI_any s _ hs).mono ?_
    rintro e w2 ⟨rfl, hb2⟩
    rw [HN.out.1, HN.out.2]
    obtain ⟨hc, hf⟩ := bcell hb2
    have hz0 : w.heap.size < w2.heap.size := bsize hb2 _ (by simp)
    go_wp2_with fail
    refine (value_any _ _).mono ?_
    rintro e w3 ⟨rfl, hb3⟩
    obtain ⟨hc3, hf3⟩ := bcell hb3
    go_wp2
    exact bodyPost_ret (by simp [results, Tryd.results52, go_sem, hc, hz0, hc3]; rfl) rfl ⟨by rw [HV.out.1, HV.out.2.1, HV.out.2.2.1, HV.out.2.2.2], (by repeat' (first | (with_reducible exact Below.refl _ _) | (with_reducible refine Below.drew ?_) | (with_reducible refine balloc ?_ _) | (with_reducible refine bset ?_ _ ?_) | (with_reducible refine bstep ?_ (by with_reducible assumption)) | go_size))⟩

end Go.Proofs.YtlmibonebiaocaaDoor
