/-
  The exact law of Joined, walked: at every two Values the program answers as the model does.
-/
import Derived.Test.YtofcbmccfeaddaaDoorJoin
import Derived.Test.YtofcbmccfeaddaaDoorPair
namespace Go.Proofs.YtofcbmccfeaddaaDoor
open Go.RowKit

theorem thr_below {w W : World} {a0 a1 a2 b0 b1 b2 c0 c1 c2 : Value} {B : Nat} (h : Thr w a0 a1 a2 b0 b1 b2 B c0 c1 c2 W) : Below w.heap.size w W := h.1.2.2

set_option maxHeartbeats 4000000 in
theorem lawJoined (k n k' n' : Int) (s s' : ByteArray) (w : World) (hs : s.size ≤ maxLen) (hs' : s'.size ≤ maxLen) (ht : Tab w) :
    Calls Tryd.prog 5 #[.agg #[.int .i64 k, .int .i64 n, .string s], .agg #[.int .i64 k', .int .i64 n', .string s']] w fun e w' => e = .returned (.bool true) ∧ Below w.heap.size w w' := by
  by_cases hbig : (1048576 : Int) < s.size
  · go_enter Tryd.func5, Tryd.ntmps5
    go_wp2_with fail
    refine (szValue_any k n 1048576 s _ hs (by decide) (by decide)).mono ?_
    rintro e w1 ⟨rfl, hb1⟩
    rw [if_pos hbig]
    go_wp2
    go_ret
    exact ⟨rfl, (by repeat' (first | (with_reducible exact Below.refl _ _) | (with_reducible refine Below.drew ?_) | (with_reducible refine balloc ?_ _) | (with_reducible refine bset ?_ _ ?_) | (with_reducible refine bstep ?_ (by with_reducible assumption)) | go_size))⟩
  by_cases hbig' : (1048576 : Int) - s.size < s'.size
  · go_enter Tryd.func5, Tryd.ntmps5
    go_wp2_with fail
    refine (szValue_any k n 1048576 s _ hs (by decide) (by decide)).mono ?_
    rintro e w1 ⟨rfl, hb1⟩
    rw [if_neg (by omega)]
    have hT1 := Two.call (two0 w (.int .i64 k) (.int .i64 n) (.string s) (.int .i64 k') (.int .i64 n') (.string s') 34) hb1
    obtain ⟨⟨p0, p1, p2, pz⟩, ⟨q0, q1, q2, qz⟩, pb⟩ := hT1
    go_wp2_with fail
    refine (szValue_any k' n' (1048576 - s.size) s' _ hs' (by omega) (by omega)).mono ?_
    rintro e w2 ⟨rfl, hb2⟩
    rw [if_pos (by omega)]
    go_wp2
    go_ret
    exact ⟨rfl, bstep pb hb2⟩
  go_enter Tryd.func5, Tryd.ntmps5
  go_wp2_with fail
  refine (szValue_any k n 1048576 s _ hs (by decide) (by decide)).mono ?_
  rintro e w1 ⟨rfl, hb1⟩
  rw [if_neg (by omega)]
  have hT1 := Two.call (two0 w (.int .i64 k) (.int .i64 n) (.string s) (.int .i64 k') (.int .i64 n') (.string s') 34) hb1
  obtain ⟨⟨p0, p1, p2, pz⟩, ⟨q0, q1, q2, qz⟩, pb⟩ := hT1
  go_wp2_with fail
  refine (szValue_any k' n' (1048576 - s.size) s' _ hs' (by omega) (by omega)).mono ?_
  rintro e w2 ⟨rfl, hb2⟩
  rw [if_neg (by omega)]
  have hT : Two w (.int .i64 k) (.int .i64 n) (.string s) (.int .i64 k') (.int .i64 n') (.string s') w2 := Two.call ⟨⟨p0, p1, p2, pz⟩, ⟨q0, q1, q2, qz⟩, pb⟩ hb2
  clear p0 p1 p2 pz q0 q1 q2 qz pb hb1 hb2
  have hlt := hT.lt
  go_upto_region 8 with fail
  go_cut [6, 7] (fun v6 v7 wc => ∃ B, v6 = .pointer (some ⟨B, 0, none⟩) ∧ v7 = .int .i64 (jF (txt k n s) (txt k' n' s') (txF k n s) (txF k' n' s')) ∧ Tri B (.int .i64 (jK (txt k n s) (txt k' n' s') (txF k n s) (txF k' n' s'))) (.int .i64 0) (.string (jT (txt k n s) (txt k' n' s') (txF k n s) (txF k' n' s'))) wc ∧ w.heap.size + 1 < B ∧ Two w (.int .i64 k) (.int .i64 n) (.string s) (.int .i64 k') (.int .i64 n') (.string s') wc)
  case first =>
    go_region_held3 (fun x => (x.cell? ⟨w.heap.size, 0, none⟩ = some (.int .i64 k) ∧ x.cell? ⟨w.heap.size, 1, none⟩ = some (.int .i64 n) ∧ x.cell? ⟨w.heap.size, 2, none⟩ = some (.string s) ∧ w.heap.size < x.heap.size) ∧ (x.cell? ⟨w.heap.size + 1, 0, none⟩ = some (.int .i64 k') ∧ x.cell? ⟨w.heap.size + 1, 1, none⟩ = some (.int .i64 n') ∧ x.cell? ⟨w.heap.size + 1, 2, none⟩ = some (.string s') ∧ w.heap.size + 1 < x.heap.size) ∧ Below w.heap.size w x)
      ((show Two w (.int .i64 k) (.int .i64 n) (.string s) (.int .i64 k') (.int .i64 n') (.string s') _; first | (with_reducible exact hT3) | (with_reducible exact Two.alloc hT3 _) | (with_reducible exact hT.drew) | (with_reducible exact (Two.alloc hT _).drew) | (with_reducible refine Two.set3 hT3 _ _ _ ?_; first | omega | (simp; omega))))
      (first
        | (go_at_call 15; refine (toValue_any _ _ _ _).mono ?_; rintro e w3 ⟨rfl, hb3⟩; (first | ((with_reducible have hO3 := Own.call hO3 hb3); obtain ⟨⟨x0, g0⟩, ⟨x1, g1⟩, ⟨x2, g2⟩, f0, f1, f2, fz⟩ := id hO3) | ((with_reducible have hO3 := Own.call (own0 _ _ _ _ _).drew hb3); obtain ⟨⟨x0, g0⟩, ⟨x1, g1⟩, ⟨x2, g2⟩, f0, f1, f2, fz⟩ := id hO3) | ((with_reducible have hO3 := Own.call (own0 _ _ _ _ _) hb3); obtain ⟨⟨x0, g0⟩, ⟨x1, g1⟩, ⟨x2, g2⟩, f0, f1, f2, fz⟩ := id hO3) | skip); (first | (with_reducible have hT3 := Two.call hT3 hb3) | (with_reducible have hT3 := Two.call (Two.alloc hT3 _) hb3) | (with_reducible have hT3 := Two.call hT.drew hb3) | (with_reducible have hT3 := Two.call (Two.alloc hT _).drew hb3)); have hlt3 := hT3.lt)
        | (go_at_call 11; refine (joinS_any k n k' n' s s' _ hs hs').mono ?_; rintro e w3 ⟨rfl, hb3⟩; (first | ((with_reducible have hO3 := Own.call hO3 hb3); obtain ⟨⟨x0, g0⟩, ⟨x1, g1⟩, ⟨x2, g2⟩, f0, f1, f2, fz⟩ := id hO3) | ((with_reducible have hO3 := Own.call (own0 _ _ _ _ _).drew hb3); obtain ⟨⟨x0, g0⟩, ⟨x1, g1⟩, ⟨x2, g2⟩, f0, f1, f2, fz⟩ := id hO3) | ((with_reducible have hO3 := Own.call (own0 _ _ _ _ _) hb3); obtain ⟨⟨x0, g0⟩, ⟨x1, g1⟩, ⟨x2, g2⟩, f0, f1, f2, fz⟩ := id hO3) | skip); (first | (with_reducible have hT3 := Two.call hT3 hb3) | (with_reducible have hT3 := Two.call (Two.alloc hT3 _) hb3) | (with_reducible have hT3 := Two.call hT.drew hb3) | (with_reducible have hT3 := Two.call (Two.alloc hT _).drew hb3)); have hlt3 := hT3.lt))
    all_goals go_wp2_with fail
    all_goals go_meet
    all_goals
      refine ⟨_, rfl, rfl, ?_, ?_, ?_⟩
      · first | (with_reducible exact tri0 _ _ _ _ _) | (with_reducible exact hO3.set _ _ _)
      · first | omega | (simp; omega)
      · first | (with_reducible exact Two.alloc hT3 _) | (with_reducible refine Two.set3 hT3 _ _ _ ?_; omega)
  case rest =>
  clear hT hlt
  obtain ⟨B, rfl, rfl, hV, hB, hT0⟩ := hcut
  have hT : Thr w (.int .i64 k) (.int .i64 n) (.string s) (.int .i64 k') (.int .i64 n') (.string s') B (.int .i64 (jK (txt k n s) (txt k' n' s') (txF k n s) (txF k' n' s'))) (.int .i64 0) (.string (jT (txt k n s) (txt k' n' s') (txF k n s) (txF k' n' s'))) wc := ⟨hT0, hV⟩
  clear hV hT0
  have hlt := hT.lt
  go_upto_region 9 with fail
  go_cut [8, 9] (fun v8 v9 wc => ∃ D, v8 = .pointer (some ⟨D, 0, none⟩) ∧ v9 = .int .i64 (jF (txt k n s) (txt k' n' s') (txF k n s) (txF k' n' s')) ∧ Tri D (.int .i64 (jK (txt k n s) (txt k' n' s') (txF k n s) (txF k' n' s'))) (.int .i64 0) (.string (jT (txt k n s) (txt k' n' s') (txF k n s) (txF k' n' s'))) wc ∧ w.heap.size + 1 < D ∧ Thr w (.int .i64 k) (.int .i64 n) (.string s) (.int .i64 k') (.int .i64 n') (.string s') B (.int .i64 (jK (txt k n s) (txt k' n' s') (txF k n s) (txF k' n' s'))) (.int .i64 0) (.string (jT (txt k n s) (txt k' n' s') (txF k n s) (txF k' n' s'))) wc)
  case first =>
    go_region_held3 (fun x => ((x.cell? ⟨w.heap.size, 0, none⟩ = some (.int .i64 k) ∧ x.cell? ⟨w.heap.size, 1, none⟩ = some (.int .i64 n) ∧ x.cell? ⟨w.heap.size, 2, none⟩ = some (.string s) ∧ w.heap.size < x.heap.size) ∧ (x.cell? ⟨w.heap.size + 1, 0, none⟩ = some (.int .i64 k') ∧ x.cell? ⟨w.heap.size + 1, 1, none⟩ = some (.int .i64 n') ∧ x.cell? ⟨w.heap.size + 1, 2, none⟩ = some (.string s') ∧ w.heap.size + 1 < x.heap.size) ∧ Below w.heap.size w x) ∧ (x.cell? ⟨B, 0, none⟩ = some (.int .i64 (jK (txt k n s) (txt k' n' s') (txF k n s) (txF k' n' s'))) ∧ x.cell? ⟨B, 1, none⟩ = some (.int .i64 0) ∧ x.cell? ⟨B, 2, none⟩ = some (.string (jT (txt k n s) (txt k' n' s') (txF k n s) (txF k' n' s'))) ∧ B < x.heap.size))
      ((show Thr w (.int .i64 k) (.int .i64 n) (.string s) (.int .i64 k') (.int .i64 n') (.string s') B (.int .i64 (jK (txt k n s) (txt k' n' s') (txF k n s) (txF k' n' s'))) (.int .i64 0) (.string (jT (txt k n s) (txt k' n' s') (txF k n s) (txF k' n' s'))) _; first | (with_reducible exact hT3) | (with_reducible exact Thr.alloc hT3 _) | (with_reducible exact hT.drew) | (with_reducible exact (Thr.alloc hT _).drew) | (with_reducible refine Thr.set3 hT3 _ _ _ ?_; first | omega | (simp; omega))))
      (first
        | (go_at_call 15; refine (toValue_any _ _ _ _).mono ?_; rintro e w3 ⟨rfl, hb3⟩; (first | ((with_reducible have hO3 := Own.call hO3 hb3); obtain ⟨⟨x0, g0⟩, ⟨x1, g1⟩, ⟨x2, g2⟩, f0, f1, f2, fz⟩ := id hO3) | ((with_reducible have hO3 := Own.call (own0 _ _ _ _ _).drew hb3); obtain ⟨⟨x0, g0⟩, ⟨x1, g1⟩, ⟨x2, g2⟩, f0, f1, f2, fz⟩ := id hO3) | ((with_reducible have hO3 := Own.call (own0 _ _ _ _ _) hb3); obtain ⟨⟨x0, g0⟩, ⟨x1, g1⟩, ⟨x2, g2⟩, f0, f1, f2, fz⟩ := id hO3) | skip); (first | (with_reducible have hT3 := Thr.call hT3 hb3) | (with_reducible have hT3 := Thr.call (Thr.alloc hT3 _) hb3) | (with_reducible have hT3 := Thr.call hT.drew hb3) | (with_reducible have hT3 := Thr.call (Thr.alloc hT _).drew hb3)); have hlt3 := hT3.lt)
        | (go_at_call 9; refine (joinI_any k n k' n' s s' _ hs hs' (tab_call ht (by first | (with_reducible exact (thr_below hT3)) | (with_reducible exact balloc (thr_below hT3) _)))).mono ?_; rintro e w3 ⟨rfl, hb3⟩; (first | ((with_reducible have hO3 := Own.call hO3 hb3); obtain ⟨⟨x0, g0⟩, ⟨x1, g1⟩, ⟨x2, g2⟩, f0, f1, f2, fz⟩ := id hO3) | ((with_reducible have hO3 := Own.call (own0 _ _ _ _ _).drew hb3); obtain ⟨⟨x0, g0⟩, ⟨x1, g1⟩, ⟨x2, g2⟩, f0, f1, f2, fz⟩ := id hO3) | ((with_reducible have hO3 := Own.call (own0 _ _ _ _ _) hb3); obtain ⟨⟨x0, g0⟩, ⟨x1, g1⟩, ⟨x2, g2⟩, f0, f1, f2, fz⟩ := id hO3) | skip); (first | (with_reducible have hT3 := Thr.call hT3 hb3) | (with_reducible have hT3 := Thr.call (Thr.alloc hT3 _) hb3) | (with_reducible have hT3 := Thr.call hT.drew hb3) | (with_reducible have hT3 := Thr.call (Thr.alloc hT _).drew hb3)); have hlt3 := hT3.lt))
    all_goals go_wp2_with fail
    all_goals go_meet
    all_goals
      refine ⟨_, rfl, rfl, ?_, ?_, ?_⟩
      · first | (with_reducible exact tri0 _ _ _ _ _) | (with_reducible exact hO3.set _ _ _)
      · first | omega | (simp; omega)
      · first | (with_reducible exact Thr.alloc hT3 _) | (with_reducible refine Thr.set3 hT3 _ _ _ ?_; omega)
  case rest =>
  clear hT hlt
  obtain ⟨D, rfl, rfl, ⟨d0, d1, d2, dz⟩, hD, ⟨⟨_, _, pb⟩, ⟨c0, c1, c2, cz⟩⟩⟩ := hcut
  go_wp2_with fail
  refine (eqValue_same _ _ _ _).mono ?_
  rintro e w9 ⟨rfl, hb9⟩
  go_wp2
  go_ret
  exact ⟨rfl, bstep pb hb9⟩

end Go.Proofs.YtofcbmccfeaddaaDoor
