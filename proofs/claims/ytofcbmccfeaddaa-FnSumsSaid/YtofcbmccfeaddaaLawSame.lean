/-
  Same, the program's and the model's, by a contract each: 1 where the two Values are one, else 0; and the exact law of Same, walked.
-/
import Derived.Test.YtofcbmccfeaddaaReckon
import Derived.Test.YtofcbmccfeaddaaPair
namespace Go.Proofs.Ytofcbmccfeaddaa
open Go.RowKit

/-- Are the two Values one? -/
def sameB (k n : Int) (s : ByteArray) (k' n' : Int) (s' : ByteArray) : Bool := decide (k = k') && decide (n = n') && decide (s.toList = s'.toList)

set_option maxHeartbeats 1000000 in
theorem sameI_any (k n k' n' : Int) (s s' : ByteArray) (w : World) :
    Calls Try.prog 22 #[.agg #[.int .i64 k, .int .i64 n, .string s], .agg #[.int .i64 k', .int .i64 n', .string s']] w fun e w' =>
      e = .returned (.agg #[.int .i64 1, .int .i64 (bitN (sameB k n s k' n' s')), .string ⟨#[]⟩]) ∧ Below w.heap.size w w' := by
  by_cases h1 : k = k' <;> by_cases h2 : n = n' <;> by_cases h3 : s.toList = s'.toList
  all_goals
    have HV : Hid (sameB k n s k' n' s' = _) := (by simp only [Hid, sameB, h1, h2, h3, decide_true, decide_false, Bool.and_true, Bool.and_false]; rfl)
    go_enter Try.func22, Try.ntmps22
    go_wp2_with fail
    refine (oneOrNought_any _ _).mono ?_
    rintro e w' ⟨rfl, hb⟩
    obtain ⟨hc, hf⟩ := bcell hb
    go_wp2
    exact bodyPost_ret (by simp [results, Try.results22, go_sem, hc]; rfl) rfl ⟨by rw [HV.out], (by repeat' (first | (with_reducible exact Below.refl _ _) | (with_reducible refine Below.drew ?_) | (with_reducible refine balloc ?_ _) | (with_reducible refine bset ?_ _ ?_) | (with_reducible refine bstep ?_ (by with_reducible assumption)) | go_size))⟩

set_option maxHeartbeats 1000000 in
theorem sameS_any (k n k' n' : Int) (s s' : ByteArray) (w : World) :
    Calls Try.prog 23 #[.agg #[.int .i64 k, .int .i64 n, .string s], .agg #[.int .i64 k', .int .i64 n', .string s']] w fun e w' =>
      e = .returned (.agg #[.int .i64 1, .int .i64 (bitN (sameB k n s k' n' s')), .string ⟨#[]⟩]) ∧ Below w.heap.size w w' := by
  by_cases h1 : k = k' <;> by_cases h2 : n = n' <;> by_cases h3 : s.toList = s'.toList
  all_goals
    have HV : Hid (sameB k n s k' n' s' = _) := (by simp only [Hid, sameB, h1, h2, h3, decide_true, decide_false, Bool.and_true, Bool.and_false]; rfl)
    go_enter Try.func23, Try.ntmps23
    go_wp2_with fail
    refine (l1Bit_any _ _).mono ?_
    rintro e w' ⟨rfl, hb⟩
    obtain ⟨hc, hf⟩ := bcell hb
    go_wp2
    exact bodyPost_ret (by simp [results, Try.results23, go_sem, hc]; rfl) rfl ⟨by rw [HV.out], (by repeat' (first | (with_reducible exact Below.refl _ _) | (with_reducible refine Below.drew ?_) | (with_reducible refine balloc ?_ _) | (with_reducible refine bset ?_ _ ?_) | (with_reducible refine bstep ?_ (by with_reducible assumption)) | go_size))⟩

set_option maxHeartbeats 4000000 in
theorem lawSame (k n k' n' : Int) (s s' : ByteArray) (w : World) (hs : s.size ≤ maxLen) (hs' : s'.size ≤ maxLen) :
    Calls Try.prog 9 #[.agg #[.int .i64 k, .int .i64 n, .string s], .agg #[.int .i64 k', .int .i64 n', .string s']] w fun e w' => e = .returned (.bool true) ∧ Below w.heap.size w w' := by
  by_cases hbig : (1048576 : Int) < s.size
  · go_enter Try.func9, Try.ntmps9
    go_wp2_with fail
    refine (szValue_any k n 1048576 s _ hs (by decide) (by decide)).mono ?_
    rintro e w1 ⟨rfl, hb1⟩
    rw [if_pos hbig]
    go_wp2
    go_ret
    exact ⟨rfl, (by repeat' (first | (with_reducible exact Below.refl _ _) | (with_reducible refine Below.drew ?_) | (with_reducible refine balloc ?_ _) | (with_reducible refine bset ?_ _ ?_) | (with_reducible refine bstep ?_ (by with_reducible assumption)) | go_size))⟩
  by_cases hbig' : (1048576 : Int) - s.size < s'.size
  · go_enter Try.func9, Try.ntmps9
    go_wp2_with fail
    refine (szValue_any k n 1048576 s _ hs (by decide) (by decide)).mono ?_
    rintro e w1 ⟨rfl, hb1⟩
    rw [if_neg (by omega)]
    have hT1 := Two.call (two0 w (.int .i64 k) (.int .i64 n) (.string s) (.int .i64 k') (.int .i64 n') (.string s') 35) hb1
    obtain ⟨⟨p0, p1, p2, pz⟩, ⟨q0, q1, q2, qz⟩, pb⟩ := hT1
    go_wp2_with fail
    refine (szValue_any k' n' (1048576 - s.size) s' _ hs' (by omega) (by omega)).mono ?_
    rintro e w2 ⟨rfl, hb2⟩
    rw [if_pos (by omega)]
    go_wp2
    go_ret
    exact ⟨rfl, bstep pb hb2⟩
  go_enter Try.func9, Try.ntmps9
  go_wp2_with fail
  refine (szValue_any k n 1048576 s _ hs (by decide) (by decide)).mono ?_
  rintro e w1 ⟨rfl, hb1⟩
  rw [if_neg (by omega)]
  have hT1 := Two.call (two0 w (.int .i64 k) (.int .i64 n) (.string s) (.int .i64 k') (.int .i64 n') (.string s') 35) hb1
  obtain ⟨⟨p0, p1, p2, pz⟩, ⟨q0, q1, q2, qz⟩, pb⟩ := hT1
  go_wp2_with fail
  refine (szValue_any k' n' (1048576 - s.size) s' _ hs' (by omega) (by omega)).mono ?_
  rintro e w2 ⟨rfl, hb2⟩
  rw [if_neg (by omega)]
  have hT : Two w (.int .i64 k) (.int .i64 n) (.string s) (.int .i64 k') (.int .i64 n') (.string s') w2 := Two.call ⟨⟨p0, p1, p2, pz⟩, ⟨q0, q1, q2, qz⟩, pb⟩ hb2
  clear p0 p1 p2 pz q0 q1 q2 qz pb hb1 hb2
  have hlt := hT.lt
  go_upto_region 8 with fail
  go_cut [6] (fun v6 wc => ∃ B, v6 = .pointer (some ⟨B, 0, none⟩) ∧ Tri B (.int .i64 1) (.int .i64 (bitN (sameB k n s k' n' s'))) (.string ⟨#[]⟩) wc ∧ w.heap.size + 1 < B ∧ Two w (.int .i64 k) (.int .i64 n) (.string s) (.int .i64 k') (.int .i64 n') (.string s') wc)
  case first =>
    go_region_held3 (fun x => (x.cell? ⟨w.heap.size, 0, none⟩ = some (.int .i64 k) ∧ x.cell? ⟨w.heap.size, 1, none⟩ = some (.int .i64 n) ∧ x.cell? ⟨w.heap.size, 2, none⟩ = some (.string s) ∧ w.heap.size < x.heap.size) ∧ (x.cell? ⟨w.heap.size + 1, 0, none⟩ = some (.int .i64 k') ∧ x.cell? ⟨w.heap.size + 1, 1, none⟩ = some (.int .i64 n') ∧ x.cell? ⟨w.heap.size + 1, 2, none⟩ = some (.string s') ∧ w.heap.size + 1 < x.heap.size) ∧ Below w.heap.size w x)
      ((show Two w (.int .i64 k) (.int .i64 n) (.string s) (.int .i64 k') (.int .i64 n') (.string s') _; first | (with_reducible exact hT3) | (with_reducible exact Two.alloc hT3 _) | (with_reducible exact hT.drew) | (with_reducible exact (Two.alloc hT _).drew) | (with_reducible refine Two.set3 hT3 _ _ _ ?_; first | omega | (simp; omega))))
      (first
        | (go_at_call 29; refine (toValue_any _ _ _ _).mono ?_; rintro e w3 ⟨rfl, hb3⟩; (first | ((with_reducible have hO3 := Own.call hO3 hb3); obtain ⟨⟨x0, g0⟩, ⟨x1, g1⟩, ⟨x2, g2⟩, f0, f1, f2, fz⟩ := id hO3) | ((with_reducible have hO3 := Own.call (own0 _ _ _ _ _).drew hb3); obtain ⟨⟨x0, g0⟩, ⟨x1, g1⟩, ⟨x2, g2⟩, f0, f1, f2, fz⟩ := id hO3) | ((with_reducible have hO3 := Own.call (own0 _ _ _ _ _) hb3); obtain ⟨⟨x0, g0⟩, ⟨x1, g1⟩, ⟨x2, g2⟩, f0, f1, f2, fz⟩ := id hO3) | skip); (first | (with_reducible have hT3 := Two.call hT3 hb3) | (with_reducible have hT3 := Two.call (Two.alloc hT3 _) hb3) | (with_reducible have hT3 := Two.call hT.drew hb3) | (with_reducible have hT3 := Two.call (Two.alloc hT _).drew hb3)); have hlt3 := hT3.lt)
        | (go_at_call 23; refine (sameS_any k n k' n' s s' _).mono ?_; rintro e w3 ⟨rfl, hb3⟩; (first | ((with_reducible have hO3 := Own.call hO3 hb3); obtain ⟨⟨x0, g0⟩, ⟨x1, g1⟩, ⟨x2, g2⟩, f0, f1, f2, fz⟩ := id hO3) | ((with_reducible have hO3 := Own.call (own0 _ _ _ _ _).drew hb3); obtain ⟨⟨x0, g0⟩, ⟨x1, g1⟩, ⟨x2, g2⟩, f0, f1, f2, fz⟩ := id hO3) | ((with_reducible have hO3 := Own.call (own0 _ _ _ _ _) hb3); obtain ⟨⟨x0, g0⟩, ⟨x1, g1⟩, ⟨x2, g2⟩, f0, f1, f2, fz⟩ := id hO3) | skip); (first | (with_reducible have hT3 := Two.call hT3 hb3) | (with_reducible have hT3 := Two.call (Two.alloc hT3 _) hb3) | (with_reducible have hT3 := Two.call hT.drew hb3) | (with_reducible have hT3 := Two.call (Two.alloc hT _).drew hb3)); have hlt3 := hT3.lt))
    all_goals go_wp2_with fail
    all_goals go_meet
    all_goals
      refine ⟨_, rfl, ?_, ?_, ?_⟩
      · first | (with_reducible exact tri0 _ _ _ _ _) | (with_reducible exact hO3.set _ _ _)
      · first | omega | (simp; omega)
      · first | (with_reducible exact Two.alloc hT3 _) | (with_reducible refine Two.set3 hT3 _ _ _ ?_; omega)
  case rest =>
  clear hT hlt
  obtain ⟨B, rfl, hV, hB, hT0⟩ := hcut
  have hT : Thr w (.int .i64 k) (.int .i64 n) (.string s) (.int .i64 k') (.int .i64 n') (.string s') B (.int .i64 1) (.int .i64 (bitN (sameB k n s k' n' s'))) (.string ⟨#[]⟩) wc := ⟨hT0, hV⟩
  clear hV hT0
  have hlt := hT.lt
  go_upto_region 9 with fail
  go_cut [7] (fun v7 wc => ∃ D, v7 = .pointer (some ⟨D, 0, none⟩) ∧ Tri D (.int .i64 1) (.int .i64 (bitN (sameB k n s k' n' s'))) (.string ⟨#[]⟩) wc ∧ w.heap.size + 1 < D ∧ Thr w (.int .i64 k) (.int .i64 n) (.string s) (.int .i64 k') (.int .i64 n') (.string s') B (.int .i64 1) (.int .i64 (bitN (sameB k n s k' n' s'))) (.string ⟨#[]⟩) wc)
  case first =>
    go_region_held3 (fun x => ((x.cell? ⟨w.heap.size, 0, none⟩ = some (.int .i64 k) ∧ x.cell? ⟨w.heap.size, 1, none⟩ = some (.int .i64 n) ∧ x.cell? ⟨w.heap.size, 2, none⟩ = some (.string s) ∧ w.heap.size < x.heap.size) ∧ (x.cell? ⟨w.heap.size + 1, 0, none⟩ = some (.int .i64 k') ∧ x.cell? ⟨w.heap.size + 1, 1, none⟩ = some (.int .i64 n') ∧ x.cell? ⟨w.heap.size + 1, 2, none⟩ = some (.string s') ∧ w.heap.size + 1 < x.heap.size) ∧ Below w.heap.size w x) ∧ (x.cell? ⟨B, 0, none⟩ = some (.int .i64 1) ∧ x.cell? ⟨B, 1, none⟩ = some (.int .i64 (bitN (sameB k n s k' n' s'))) ∧ x.cell? ⟨B, 2, none⟩ = some (.string ⟨#[]⟩) ∧ B < x.heap.size))
      ((show Thr w (.int .i64 k) (.int .i64 n) (.string s) (.int .i64 k') (.int .i64 n') (.string s') B (.int .i64 1) (.int .i64 (bitN (sameB k n s k' n' s'))) (.string ⟨#[]⟩) _; first | (with_reducible exact hT3) | (with_reducible exact Thr.alloc hT3 _) | (with_reducible exact hT.drew) | (with_reducible exact (Thr.alloc hT _).drew) | (with_reducible refine Thr.set3 hT3 _ _ _ ?_; first | omega | (simp; omega))))
      (first
        | (go_at_call 29; refine (toValue_any _ _ _ _).mono ?_; rintro e w3 ⟨rfl, hb3⟩; (first | ((with_reducible have hO3 := Own.call hO3 hb3); obtain ⟨⟨x0, g0⟩, ⟨x1, g1⟩, ⟨x2, g2⟩, f0, f1, f2, fz⟩ := id hO3) | ((with_reducible have hO3 := Own.call (own0 _ _ _ _ _).drew hb3); obtain ⟨⟨x0, g0⟩, ⟨x1, g1⟩, ⟨x2, g2⟩, f0, f1, f2, fz⟩ := id hO3) | ((with_reducible have hO3 := Own.call (own0 _ _ _ _ _) hb3); obtain ⟨⟨x0, g0⟩, ⟨x1, g1⟩, ⟨x2, g2⟩, f0, f1, f2, fz⟩ := id hO3) | skip); (first | (with_reducible have hT3 := Thr.call hT3 hb3) | (with_reducible have hT3 := Thr.call (Thr.alloc hT3 _) hb3) | (with_reducible have hT3 := Thr.call hT.drew hb3) | (with_reducible have hT3 := Thr.call (Thr.alloc hT _).drew hb3)); have hlt3 := hT3.lt)
        | (go_at_call 22; refine (sameI_any k n k' n' s s' _).mono ?_; rintro e w3 ⟨rfl, hb3⟩; (first | ((with_reducible have hO3 := Own.call hO3 hb3); obtain ⟨⟨x0, g0⟩, ⟨x1, g1⟩, ⟨x2, g2⟩, f0, f1, f2, fz⟩ := id hO3) | ((with_reducible have hO3 := Own.call (own0 _ _ _ _ _).drew hb3); obtain ⟨⟨x0, g0⟩, ⟨x1, g1⟩, ⟨x2, g2⟩, f0, f1, f2, fz⟩ := id hO3) | ((with_reducible have hO3 := Own.call (own0 _ _ _ _ _) hb3); obtain ⟨⟨x0, g0⟩, ⟨x1, g1⟩, ⟨x2, g2⟩, f0, f1, f2, fz⟩ := id hO3) | skip); (first | (with_reducible have hT3 := Thr.call hT3 hb3) | (with_reducible have hT3 := Thr.call (Thr.alloc hT3 _) hb3) | (with_reducible have hT3 := Thr.call hT.drew hb3) | (with_reducible have hT3 := Thr.call (Thr.alloc hT _).drew hb3)); have hlt3 := hT3.lt))
    all_goals go_wp2_with fail
    all_goals go_meet
    all_goals
      refine ⟨_, rfl, ?_, ?_, ?_⟩
      · first | (with_reducible exact tri0 _ _ _ _ _) | (with_reducible exact hO3.set _ _ _)
      · first | omega | (simp; omega)
      · first | (with_reducible exact Thr.alloc hT3 _) | (with_reducible refine Thr.set3 hT3 _ _ _ ?_; omega)
  case rest =>
  clear hT hlt
  obtain ⟨D, rfl, ⟨d0, d1, d2, dz⟩, hD, ⟨⟨_, _, pb⟩, ⟨c0, c1, c2, cz⟩⟩⟩ := hcut
  go_wp2_with fail
  refine (eqValue_same _ _ _ _).mono ?_
  rintro e w9 ⟨rfl, hb9⟩
  go_wp2
  go_ret
  exact ⟨rfl, bstep pb hb9⟩

end Go.Proofs.Ytofcbmccfeaddaa
