/-
  ReadNumber, SignOf and ValueIn, the program's and the model's, each by a contract: both answer the same.
-/
import Derived.Test.YtlmibonebiaocaaDoorSignK
import Derived.Test.YtlmibonebiaocaaDoorTexts
namespace Go.Proofs.YtlmibonebiaocaaDoor
open Go.RowKit

theorem parse_any (s : ByteArray) (w : World) (hs : s.size ≤ 60) (h : numerB s = true) :
    Calls Tryd.prog 63 #[.string s, .int .i64 10, .int .i64 64] w fun e w' => e = .returned (.tuple #[.int .i64 (readN s), .nilIface]) ∧ Below w.heap.size w w' := by
  refine (Tryd.strconv_ParseInt_10_at64_ok s (by omega) (readN s) (parse_numer ((numerB_iff s).mp h)).1 w).mono ?_
  rintro e w' ⟨rfl, rfl | ⟨t, rfl⟩⟩
  · exact ⟨rfl, Below.refl _ _⟩
  · exact ⟨rfl, ⟨rfl, rfl, rfl, by rw [Lib.bytesWorld_size]; omega, fun j hj => Lib.bytesWorld_at_old w _ t j hj⟩⟩

theorem numer_size {s : ByteArray} (h : numerB s = true) : s.size ≤ 10 := by
  have h1 := ((numerB_iff s).mp h).2.1
  have := fromD_le s
  omega

set_option maxHeartbeats 1000000 in
theorem readNumberI_any (s : ByteArray) (w : World) (hs : s.size ≤ maxLen) :
    Calls Tryd.prog 57 #[.string s] w fun e w' => e = .returned (.tuple #[.int .i64 (numN s), .bool (numerB s)]) ∧ Below w.heap.size w w' := by
  cases hn : numerB s
  · have HB : Hid (numerB s = false ∧ numN s = 0) := num_no hn
    have HK : Hid ((kindN s != 3) = true) := by
      show (kindN s != 3) = true
      rw [bne_iff_ne]
      intro h
      rw [(numerB_iff s).mpr ((numer_iff s).mpr h)] at hn
      exact absurd hn (by decide)
    clear hn
    go_enter Tryd.func57, Tryd.ntmps57
    go_wp2_with fail
    refine (signKind_any s _ hs).mono ?_
    rintro e w1 ⟨rfl, rfl⟩
    generalize kindN s = kd at HK ⊢
    have hk := HK.out
    go_wp2
    go_ret2
    exact ⟨by rw [HB.out.2]; rfl, Below.refl _ _⟩
  · have HB : Hid (numerB s = true ∧ numN s = readN s) := num_yes hn rfl
    have hz := numer_size hn
    have HK : Hid (kindN s = 3) := kind_numer ((numerB_iff s).mp hn)
    have HN : Hid (numerB s = true) := hn
    clear hn
    go_enter Tryd.func57, Tryd.ntmps57
    go_wp2_with fail
    refine (signKind_any s _ hs).mono ?_
    rintro e w1 ⟨rfl, rfl⟩
    rw [HK.out]
    go_wp2_with fail
    refine (parse_any s _ (by omega) HN.out).mono ?_
    rintro e w2 ⟨rfl, hb⟩
    go_wp2
    go_quiet (fail)
    go_wp2
    go_ret2
    exact ⟨by rw [HB.out.2]; rfl, ⟨hb.os, hb.tape, hb.output, hb.size, hb.block⟩⟩

/-- A text between two quotes. -/
def quo (s : ByteArray) : ByteArray := ⟨#[39]⟩ ++ s ++ ⟨#[39]⟩
/-- The sign of a Value. -/
def sgn (k n : Int) (s : ByteArray) : ByteArray := if txF k n s = 0 ∧ k = 2 then quo (txt k n s) else txt k n s

theorem sgn_text {n : Int} {s : ByteArray} (ho : okV 2 n s = true) : txt 2 n s = s ∧ txF 2 n s = 0 ∧ sgn 2 n s = quo s := by
  have h1 : txt 2 n s = s := by simp [txt, ho]
  have h2 : txF 2 n s = 0 := by simp [txF, ho]
  exact ⟨h1, h2, by unfold sgn; rw [if_pos ⟨h2, rfl⟩, h1]⟩
theorem sgn_other {k n : Int} {s : ByteArray} (hk : k ≠ 2) : sgn k n s = txt k n s := by unfold sgn; rw [if_neg (fun h => hk h.2)]
theorem sgn_bad {k n : Int} {s : ByteArray} (ho : okV k n s = false) : txt k n s = ⟨#[]⟩ ∧ txF k n s = 1 ∧ sgn k n s = ⟨#[]⟩ := by
  have h1 : txt k n s = ⟨#[]⟩ := by simp [txt, ho]
  have h2 : txF k n s = 1 := by simp [txF, ho]
  exact ⟨h1, h2, by unfold sgn; rw [if_neg (by rw [h2]; intro h; exact absurd h.1 (by decide)), h1]⟩

set_option maxHeartbeats 1000000 in
theorem signOfI_any (k n : Int) (s : ByteArray) (w : World) (hs : s.size ≤ maxLen) (ht : Tab w) :
    Calls Tryd.prog 40 #[.agg #[.int .i64 k, .int .i64 n, .string s]] w fun e w' => e = .returned (.string (sgn k n s)) ∧ Below w.heap.size w w' := by
  have hT : ∀ W : World, Below w.heap.size w W → Tab W := fun W hb => tab_call ht hb
  by_cases h2 : k = 2
  · subst h2
    cases ho : okV 2 n s
    · have HX : Hid (txt 2 n s = ⟨#[]⟩ ∧ txF 2 n s = 1 ∧ sgn 2 n s = ⟨#[]⟩) := sgn_bad ho
      clear ho
      go_enter Tryd.func40, Tryd.ntmps40
      go_wp2_with fail
      refine (textI_any 2 n s _ hs (hT _ (by repeat' (first | (with_reducible exact Below.refl _ _) | (with_reducible refine Below.drew ?_) | (with_reducible refine balloc ?_ _) | (with_reducible refine bset ?_ _ ?_) | (with_reducible refine bstep ?_ (by with_reducible assumption)) | go_size)))).mono ?_
      rintro e w1 ⟨rfl, hb1⟩
      rw [HX.out.1, HX.out.2.1]
      go_wp2
      go_ret
      exact ⟨by rw [HX.out.2.2]; rfl, (by repeat' (first | (with_reducible exact Below.refl _ _) | (with_reducible refine Below.drew ?_) | (with_reducible refine balloc ?_ _) | (with_reducible refine bset ?_ _ ?_) | (with_reducible refine bstep ?_ (by with_reducible assumption)) | go_size))⟩
    · have hz := okV_text ho
      have HX : Hid (txt 2 n s = s ∧ txF 2 n s = 0 ∧ sgn 2 n s = quo s) := sgn_text ho
      clear ho
      go_enter Tryd.func40, Tryd.ntmps40
      go_wp2_with fail
      refine (textI_any 2 n s _ hs (hT _ (by repeat' (first | (with_reducible exact Below.refl _ _) | (with_reducible refine Below.drew ?_) | (with_reducible refine balloc ?_ _) | (with_reducible refine bset ?_ _ ?_) | (with_reducible refine bstep ?_ (by with_reducible assumption)) | go_size)))).mono ?_
      rintro e w1 ⟨rfl, hb1⟩
      rw [HX.out.1, HX.out.2.1]
      obtain ⟨hc, hf⟩ := bcell hb1
      go_wp2
      go_ret
      exact ⟨by rw [HX.out.2.2]; rfl, (by repeat' (first | (with_reducible exact Below.refl _ _) | (with_reducible refine Below.drew ?_) | (with_reducible refine balloc ?_ _) | (with_reducible refine bset ?_ _ ?_) | (with_reducible refine bstep ?_ (by with_reducible assumption)) | go_size))⟩
  · have b2 : (k == 2) = false := by simpa using h2
    have HX : Hid (sgn k n s = txt k n s) := sgn_other h2
    have hor : Hid (txF k n s = 0 ∨ txF k n s = 1) := by unfold Hid txF; split <;> simp
    go_enter Tryd.func40, Tryd.ntmps40
    go_wp2_with fail
    refine (textI_any k n s _ hs (hT _ (by repeat' (first | (with_reducible exact Below.refl _ _) | (with_reducible refine Below.drew ?_) | (with_reducible refine balloc ?_ _) | (with_reducible refine bset ?_ _ ?_) | (with_reducible refine bstep ?_ (by with_reducible assumption)) | go_size)))).mono ?_
    rintro e w1 ⟨rfl, hb1⟩
    obtain ⟨hc, hf⟩ := bcell hb1
    rcases hor.out with q | q
    all_goals
      rw [q]
      generalize hx : txt k n s = tx at HX ⊢
      clear q hor hx
      go_wp2
      go_ret
      exact ⟨by rw [HX.out]; rfl, (by repeat' (first | (with_reducible exact Below.refl _ _) | (with_reducible refine Below.drew ?_) | (with_reducible refine balloc ?_ _) | (with_reducible refine bset ?_ _ ?_) | (with_reducible refine bstep ?_ (by with_reducible assumption)) | go_size))⟩

end Go.Proofs.YtlmibonebiaocaaDoor
