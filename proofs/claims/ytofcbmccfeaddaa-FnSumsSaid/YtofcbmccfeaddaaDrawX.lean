/-
  The model's cursor is made of the bytes that came in; two Values are drawn; the draws of chapter 1 as the laws call them.
-/
import Derived.Test.YtofcbmccfeaddaaDrawW
import Derived.RegionTactic
import Derived.BigRegion
namespace Go.Proofs.Ytofcbmccfeaddaa
open Go.RowKit

set_option maxHeartbeats 1000000 in
theorem l1New_any (a : Option Addr) (len cap : Nat) (w : World) (hcode : Code w.heap.size a len w) (hlen : len ≤ 4096) :
    Calls Try.prog 31 #[.slice a len cap] w fun e w' => e = .returned (.pointer (some ⟨w.heap.size, 0, none⟩)) ∧ Below w.heap.size w w' ∧ Cur w.heap.size a len cap w' := by
  go_enter Try.func31, Try.ntmps31
  go_wp2
  go_loop [3, 4] (fun v3 v4 => ∃ (h : Int) (i : Nat), v3 = .int .i64 h ∧ v4 = .int .i64 (i : Int) ∧ i ≤ len) (fun _ v4 => len - (intOf v4).toNat)
  case atStart => exact ⟨_, 0, rfl, rfl, Nat.zero_le _⟩
  case round =>
    obtain ⟨h, i, rfl, rfl, hi⟩ := hrel
    by_cases hlt : i < len
    · obtain ⟨sb, off, x, rfl, hs, hx, hx0, hx1⟩ := hcode i hlt
      have hlt' : (i : Int) < (len : Int) := by omega
      go_wp2
      go_round
      case rel => exact ⟨_, i + 1, rfl, by go_num, by omega⟩
      case measure => simp [intOf]; omega
    · have hlt' : ¬ (i : Int) < (len : Int) := by omega
      go_wp2
      go_ret
      refine ⟨rfl, balloc (Below.refl _ _) _, 0, h, ?_, ?_, ?_, Nat.zero_le _, ?_, ?_, ?_, by simp, ?_⟩
      iterate 6 (simp [go_sem])
      intro j hj
      obtain ⟨sb, off, x, ha, hs, hx, hx0, hx1⟩ := hcode j hj
      exact ⟨sb, off, x, ha, hs, (((Below.refl w.heap.size w).alloc (Nat.le_refl _) _).cell (p := ⟨sb, off + j, none⟩) hs).trans hx, hx0, hx1⟩

theorem own_set {B : Nat} {w : World} (h : Own B w) {p : Addr} (v : Value) (hp : B ≠ p.block) : Own B (w.setCell p v) := by
  obtain ⟨⟨v0, h0⟩, ⟨v1, h1⟩, ⟨v2, h2⟩, f0, f1, f2, hz⟩ := h
  have hk : (w.setCell p v).heap[B]? = w.heap[B]? := Below.heap_setCell w p v B hp
  have hcell : ∀ o, (w.setCell p v).cell? ⟨B, o, none⟩ = w.cell? ⟨B, o, none⟩ := fun o => World.cell?_of_block (w := w) (a := ⟨B, o, none⟩) hk
  have hfr : ∀ o, (w.setCell p v).frozen? ⟨B, o, none⟩ = w.frozen? ⟨B, o, none⟩ := fun o => World.frozen?_of_block (w := w) (a := ⟨B, o, none⟩) hk
  exact ⟨⟨v0, (hcell 0).trans h0⟩, ⟨v1, (hcell 1).trans h1⟩, ⟨v2, (hcell 2).trans h2⟩, (hfr 0).trans f0, (hfr 1).trans f1, (hfr 2).trans f2, by simpa [World.setCell] using hz⟩
theorem own_set3 {B D : Nat} {w : World} (h : Own B w) (u0 u1 u2 : Value) (hp : B ≠ D) : Own B (((w.setCell ⟨D, 0, none⟩ u0).setCell ⟨D, 1, none⟩ u1).setCell ⟨D, 2, none⟩ u2) :=
  own_set (own_set (own_set h u0 hp) u1 hp) u2 hp
theorem own_self {B : Nat} {w : World} (h : Own B w) (u0 u1 u2 : Value) : Own B (((w.setCell ⟨B, 0, none⟩ u0).setCell ⟨B, 1, none⟩ u1).setCell ⟨B, 2, none⟩ u2) := by
  obtain ⟨a0, a1, a2, az⟩ := Own.set h u0 u1 u2
  obtain ⟨_, _, _, f0, f1, f2, _⟩ := h
  exact ⟨⟨_, a0⟩, ⟨_, a1⟩, ⟨_, a2⟩, by simp [go_sem, f0], by simp [go_sem, f1], by simp [go_sem, f2], az⟩

set_option maxHeartbeats 4000000 in
theorem l1DrawTwo_any (c : Nat) (a : Option Addr) (len cap : Nat) (w : World) (hcur : Cur c a len cap w) (hlen : len ≤ maxLen) :
    Calls Try.prog 32 #[.pointer (some ⟨c, 0, none⟩)] w fun e w' => ∃ v v' : Value, e = .returned (.tuple #[v, v']) ∧ SomeV v ∧ SomeV v' ∧ But c w w' ∧ Cur c a len cap w' := by
  have hcz := hcur.lt
  go_enter Try.func32, Try.ntmps32
  go_wp2_with fail
  refine (l1DrawAny_any c a len cap _ ((hcur.alloc _).alloc _) hlen).mono ?_
  rintro e w1 ⟨v, rfl, ⟨k, n, s, rfl, hsz⟩, hb1, hc1⟩
  have hO := ((own0 w (.int .i64 0) (.int .i64 0) (.string ⟨#[]⟩) 25).alloc _).but hb1 (by omega)
  have hP0 := own0 (w.alloc (.cells #[.int .i64 0, .int .i64 0, .string ⟨#[]⟩] 25)) (.int .i64 0) (.int .i64 0) (.string ⟨#[]⟩) 25
  rw [show (w.alloc (.cells #[.int .i64 0, .int .i64 0, .string ⟨#[]⟩] 25)).heap.size = w.heap.size + 1 from by simp] at hP0
  have hP := hP0.but hb1 (by omega)
  clear hP0
  have hz1 : w.heap.size + 1 < w1.heap.size := hP.2.2.2.2.2.2
  have hcz1 := hc1.lt
  go_wp2_with fail
  refine (l1DrawAny_any c a len cap _ (hc1.alloc _) hlen).mono ?_
  rintro e w2 ⟨v, rfl, ⟨k', n', s', rfl, hsz'⟩, hb2, hc2⟩
  have hV := (tri0 w1 (.int .i64 k) (.int .i64 n) (.string s) 25).but hb2 (by omega)
  replace hO := (hO.alloc _).but hb2 (by omega)
  replace hP := (hP.alloc _).but hb2 (by omega)
  have hz2 : w1.heap.size < w2.heap.size := hV.2.2.2
  have hcz2 := hc2.lt
  go_wp2_with fail
  go_loopw [6] (fun v6 wr => ∃ (j : Nat) (k' n' : Int) (s' : ByteArray), v6 = .int .i64 (j : Int) ∧ j ≤ 3 ∧ s'.size ≤ 61 ∧ Own w.heap.size wr ∧ Own (w.heap.size + 1) wr ∧ Tri w1.heap.size (.int .i64 k) (.int .i64 n) (.string s) wr ∧ Tri w2.heap.size (.int .i64 k') (.int .i64 n') (.string s') wr ∧ Own w2.heap.size wr ∧ But c w wr ∧ Cur c a len cap wr) (fun v6 _ => 3 - (intOf v6).toNat)
  case atStart => exact ⟨0, k', n', s', rfl, by omega, hsz', hO.alloc _, hP.alloc _, hV.alloc _, tri0 _ _ _ _ _, own0 _ _ _ _ _, (by repeat' (first | (with_reducible exact But.refl _ _) | (with_reducible refine But.drew ?_) | (with_reducible refine But.alloc ?_ _) | (with_reducible refine But.setNew ?_ _ ?_) | (with_reducible refine But.call ?_ (by with_reducible assumption)) | (with_reducible assumption) | go_size)), (by repeat' (first | (with_reducible assumption) | (with_reducible refine Cur.drew ?_) | (with_reducible refine Cur.alloc ?_ _) | (with_reducible refine Cur.set ?_ _ ?_) | (simp; omega) | omega))⟩
  case round =>
    clear hO hP hV hc1 hc2 hb1 hb2
    obtain ⟨j, k', n', s', rfl, hj, hsz', hO, hP, hV, hU, hU', hb, hc⟩ := hrel
    obtain ⟨t0, t1, t2, _⟩ := id hV
    obtain ⟨y0, y1, y2, hyz⟩ := id hU
    by_cases hlt : (j : Int) < 3
    · by_cases hk : k = k'
      · subst hk
        obtain ⟨⟨_, g0⟩, ⟨_, g1⟩, ⟨_, g2⟩, f0, f1, f2, _⟩ := id hO
        obtain ⟨⟨_, p0⟩, ⟨_, p1⟩, ⟨_, p2⟩, q0, q1, q2, _⟩ := id hP
        have n1 : w2.heap.size ≠ w.heap.size := by omega
        have n2 : w.heap.size ≠ w2.heap.size := by omega
        have n3 : w2.heap.size ≠ w.heap.size + 1 := by omega
        have n4 : w.heap.size + 1 ≠ w2.heap.size := by omega
        have n5 : w1.heap.size ≠ w.heap.size := by omega
        have n6 : w1.heap.size ≠ w.heap.size + 1 := by omega
        have n7 : w.heap.size ≠ w1.heap.size := by omega
        have n8 : w.heap.size + 1 ≠ w1.heap.size := by omega
        go_wp2_with fail
        go_region
        all_goals
          go_wp2
          refine bodyPost_ret (by simp [results, Try.results32, go_sem, g0, g1, g2, p0, p1, p2]; rfl) rfl ?_
          exact ⟨_, _, rfl, ⟨_, _, _, rfl, hsz⟩, ⟨_, _, _, rfl, hsz'⟩, (by repeat' (first | (with_reducible exact But.refl _ _) | (with_reducible refine But.drew ?_) | (with_reducible refine But.alloc ?_ _) | (with_reducible refine But.setNew ?_ _ ?_) | (with_reducible refine But.call ?_ (by with_reducible assumption)) | (with_reducible assumption) | go_size)), (by repeat' (first | (with_reducible assumption) | (with_reducible refine Cur.drew ?_) | (with_reducible refine Cur.alloc ?_ _) | (with_reducible refine Cur.set ?_ _ ?_) | (simp; omega) | omega))⟩
      · have hk' : (k != k') = true := by simpa using hk
        go_wp2_with fail
        refine (l1DrawValue_any c a len cap _ hc hlen).mono ?_
        rintro e w4 ⟨v, rfl, ⟨k3, n3, s3, rfl, hsz3⟩, hb4, hc4⟩
        replace hO := hO.but hb4 (by omega)
        replace hP := hP.but hb4 (by omega)
        replace hV := hV.but hb4 (by omega)
        replace hU' := hU'.but hb4 (by omega)
        obtain ⟨⟨_, x0⟩, ⟨_, x1⟩, ⟨_, x2⟩, z0, z1, z2, _⟩ := id hU'
        go_wp2
        refine ⟨⟨j + 1, k3, n3, s3, by go_num, by omega, hsz3, own_set3 hO _ _ _ (by omega), own_set3 hP _ _ _ (by omega), ((hV.set _ (by simp; omega)).set _ (by simp; omega)).set _ (by simp; omega), hU'.set _ _ _, own_self hU' _ _ _, (by repeat' (first | (with_reducible exact But.refl _ _) | (with_reducible refine But.drew ?_) | (with_reducible refine But.alloc ?_ _) | (with_reducible refine But.setNew ?_ _ ?_) | (with_reducible refine But.call ?_ (by with_reducible assumption)) | (with_reducible assumption) | go_size)), (by repeat' (first | (with_reducible assumption) | (with_reducible refine Cur.drew ?_) | (with_reducible refine Cur.alloc ?_ _) | (with_reducible refine Cur.set ?_ _ ?_) | (simp; omega) | omega))⟩, by simp [intOf]; omega⟩
    · have hlt' : ¬ (j : Int) < 3 := hlt
      obtain ⟨⟨_, g0⟩, ⟨_, g1⟩, ⟨_, g2⟩, f0, f1, f2, _⟩ := id hO
      obtain ⟨⟨_, p0⟩, ⟨_, p1⟩, ⟨_, p2⟩, q0, q1, q2, _⟩ := id hP
      have n1 : w2.heap.size ≠ w.heap.size := by omega
      have n2 : w.heap.size ≠ w2.heap.size := by omega
      have n3 : w2.heap.size ≠ w.heap.size + 1 := by omega
      have n4 : w.heap.size + 1 ≠ w2.heap.size := by omega
      have n5 : w1.heap.size ≠ w.heap.size := by omega
      have n6 : w1.heap.size ≠ w.heap.size + 1 := by omega
      have n7 : w.heap.size ≠ w1.heap.size := by omega
      have n8 : w.heap.size + 1 ≠ w1.heap.size := by omega
      go_wp2_with fail
      go_region
      all_goals
        go_wp2
        refine bodyPost_ret (by simp [results, Try.results32, go_sem, g0, g1, g2, p0, p1, p2]; rfl) rfl ?_
        exact ⟨_, _, rfl, ⟨_, _, _, rfl, hsz⟩, ⟨_, _, _, rfl, hsz'⟩, (by repeat' (first | (with_reducible exact But.refl _ _) | (with_reducible refine But.drew ?_) | (with_reducible refine But.alloc ?_ _) | (with_reducible refine But.setNew ?_ _ ?_) | (with_reducible refine But.call ?_ (by with_reducible assumption)) | (with_reducible assumption) | go_size)), (by repeat' (first | (with_reducible assumption) | (with_reducible refine Cur.drew ?_) | (with_reducible refine Cur.alloc ?_ _) | (with_reducible refine Cur.set ?_ _ ?_) | (simp; omega) | omega))⟩

theorem Code.up {B B' : Nat} {a : Option Addr} {len : Nat} {w w1 : World} (h : Code B a len w) (hB : B ≤ B') (hb : Below B w w1) : Code B' a len w1 := fun j hj => by
  obtain ⟨sb, off, x, ha, hs, hx, h0, h1⟩ := h j hj
  exact ⟨sb, off, x, ha, by omega, (hb.cell (p := ⟨sb, off + j, none⟩) hs).trans hx, h0, h1⟩

/-- laws.big. -/
theorem big_any (a : Option Addr) (len cap : Nat) (w : World) :
    Calls Try.prog 11 #[.slice a len cap] w fun e w' => e = .returned (.bool (decide ((4096 : Int) < len))) ∧ w' = w := by
  go_enter Try.func11, Try.ntmps11
  go_wp2
  go_ret
  exact ⟨rfl, rfl⟩

set_option maxHeartbeats 1000000 in
theorem DrawPlus_any (a : Option Addr) (len cap : Nat) (w : World) (hcode : Code w.heap.size a len w) (hlen : len ≤ 4096) :
    Calls Try.prog 12 #[.slice a len cap] w fun e w' => ∃ v v' : Value, e = .returned (.tuple #[v, v']) ∧ SomeV v ∧ SomeV v' ∧ Below w.heap.size w w' := by
  have hml : len ≤ maxLen := by unfold maxLen; omega
  have hO := (own0 w (.int .i64 0) (.int .i64 0) (.string ⟨#[]⟩) 25).alloc (.cells #[.int .i64 0, .int .i64 0, .string ⟨#[]⟩] 25)
  have hP := own0 (w.alloc (.cells #[.int .i64 0, .int .i64 0, .string ⟨#[]⟩] 25)) (.int .i64 0) (.int .i64 0) (.string ⟨#[]⟩) 25
  have es : ((w.alloc (.cells #[.int .i64 0, .int .i64 0, .string ⟨#[]⟩] 25)).alloc (.cells #[.int .i64 0, .int .i64 0, .string ⟨#[]⟩] 25)).heap.size = w.heap.size + 1 + 1 := by simp
  have HE : Hid (_ = _) := es
  rw [show (w.alloc (.cells #[.int .i64 0, .int .i64 0, .string ⟨#[]⟩] 25)).heap.size = w.heap.size + 1 from by simp] at hP
  have hB0 : Below w.heap.size w ((w.alloc (.cells #[.int .i64 0, .int .i64 0, .string ⟨#[]⟩] 25)).alloc (.cells #[.int .i64 0, .int .i64 0, .string ⟨#[]⟩] 25)) := balloc (balloc (Below.refl _ _) _) _
  clear es
  go_enter Try.func12, Try.ntmps12
  go_wp2_with fail
  refine (l1New_any a len cap _ (hcode.up hB0.size hB0) hlen).mono ?_
  rintro e w1 ⟨rfl, hb1, hc1⟩
  rw [HE.out] at hc1 ⊢
  replace hO := hO.call hb1
  replace hP := hP.call hb1
  have hz1 := hc1.lt
  have hB1 := bstep hB0 hb1
  go_wp2_with fail
  refine (l1DrawTwo_any _ a len cap _ hc1 hml).mono ?_
  rintro e w2 ⟨v, v', rfl, ⟨k, n, s, rfl, hsz⟩, ⟨k', n', s', rfl, hsz'⟩, hb2, hc2⟩
  replace hO := hO.but hb2 (by omega)
  replace hP := hP.but hb2 (by omega)
  have hB2 := But.below hB1 (by omega) hb2
  obtain ⟨⟨_, g0⟩, ⟨_, g1⟩, ⟨_, g2⟩, f0, f1, f2, _⟩ := id hO
  obtain ⟨⟨_, p0⟩, ⟨_, p1⟩, ⟨_, p2⟩, q0, q1, q2, _⟩ := id hP
  go_wp2
  refine bodyPost_ret (by simp [results, Try.results12, go_sem, g0, g1, g2, p0, p1, p2]; rfl) rfl ?_
  refine ⟨_, _, rfl, ⟨_, _, _, rfl, hsz⟩, ⟨_, _, _, rfl, hsz'⟩, ?_⟩
  repeat' (first | (with_reducible exact hB2) | (with_reducible refine bset ?_ _ ?_) | go_size)

set_option maxHeartbeats 1000000 in
theorem DrawValueOk_any (a : Option Addr) (len cap : Nat) (w : World) (hcode : Code w.heap.size a len w) (hlen : len ≤ 4096) :
    Calls Try.prog 36 #[.slice a len cap] w fun e w' => ∃ v : Value, e = .returned v ∧ SomeV v ∧ Below w.heap.size w w' := by
  have hml : len ≤ maxLen := by unfold maxLen; omega
  have hO := own0 w (.int .i64 0) (.int .i64 0) (.string ⟨#[]⟩) 25
  have HE : Hid ((w.alloc (.cells #[.int .i64 0, .int .i64 0, .string ⟨#[]⟩] 25)).heap.size = w.heap.size + 1) := by simp [Hid]
  have hB0 : Below w.heap.size w (w.alloc (.cells #[.int .i64 0, .int .i64 0, .string ⟨#[]⟩] 25)) := balloc (Below.refl _ _) _
  go_enter Try.func36, Try.ntmps36
  go_wp2_with fail
  refine (l1New_any a len cap _ (hcode.up hB0.size hB0) hlen).mono ?_
  rintro e w1 ⟨rfl, hb1, hc1⟩
  rw [HE.out] at hc1 ⊢
  replace hO := hO.call hb1
  have hz1 := hc1.lt
  have hB1 := bstep hB0 hb1
  go_wp2_with fail
  refine (l1DrawAny_any _ a len cap _ hc1 hml).mono ?_
  rintro e w2 ⟨v, rfl, ⟨k, n, s, rfl, hsz⟩, hb2, hc2⟩
  replace hO := hO.but hb2 (by omega)
  have hB2 := But.below hB1 (by omega) hb2
  obtain ⟨⟨_, g0⟩, ⟨_, g1⟩, ⟨_, g2⟩, f0, f1, f2, _⟩ := id hO
  go_wp2
  refine bodyPost_ret (by simp [results, Try.results36, go_sem, g0, g1, g2]; rfl) rfl ?_
  refine ⟨_, rfl, ⟨_, _, _, rfl, hsz⟩, ?_⟩
  repeat' (first | (with_reducible exact hB2) | (with_reducible refine bset ?_ _ ?_) | go_size)

set_option maxHeartbeats 1000000 in
theorem DrawTruth_any (a : Option Addr) (len cap : Nat) (w : World) (hcode : Code w.heap.size a len w) (hlen : len ≤ 4096) :
    Calls Try.prog 17 #[.slice a len cap] w fun e w' => ∃ v : Value, e = .returned v ∧ SomeV v ∧ Below w.heap.size w w' := by
  have hO := own0 w (.int .i64 0) (.int .i64 0) (.string ⟨#[]⟩) 25
  have hB0 : Below w.heap.size w (w.alloc (.cells #[.int .i64 0, .int .i64 0, .string ⟨#[]⟩] 25)) := balloc (Below.refl _ _) _
  go_enter Try.func17, Try.ntmps17
  go_wp2_with fail
  refine (DrawValueOk_any a len cap _ (hcode.up hB0.size hB0) hlen).mono ?_
  rintro e w1 ⟨v, rfl, ⟨k, n, s, rfl, hsz⟩, hb1⟩
  replace hO := hO.call hb1
  have hB1 := bstep hB0 hb1
  obtain ⟨⟨_, g0⟩, ⟨_, g1⟩, ⟨_, g2⟩, f0, f1, f2, _⟩ := id hO
  go_wp2
  refine bodyPost_ret (by simp [results, Try.results17, go_sem, g0, g1, g2]; rfl) rfl ?_
  refine ⟨_, rfl, ⟨_, _, _, rfl, hsz⟩, ?_⟩
  repeat' (first | (with_reducible exact hB1) | (with_reducible refine bset ?_ _ ?_) | go_size)

end Go.Proofs.Ytofcbmccfeaddaa
