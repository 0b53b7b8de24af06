/-
  The model's draws of any Value and of two Values: some Values; the cursor stays a cursor; nothing else has turned.
-/
import Derived.Test.YtmlopiphcnhcpaaDoorDrawV
namespace Go.Proofs.YtmlopiphcnhcpaaDoor
open Go.RowKit

set_option maxHeartbeats 4000000 in
theorem l1DrawAny_any (c : Nat) (a : Option Addr) (len cap : Nat) (w : World) (hcur : Cur c a len cap w) (hlen : len ≤ maxLen) :
    Calls Tryd.prog 48 #[.pointer (some ⟨c, 0, none⟩)] w fun e w' => ∃ v : Value, e = .returned v ∧ SomeV v ∧ But c w w' ∧ Cur c a len cap w' := by
  have hcz := hcur.lt
  go_enter Tryd.func48, Tryd.ntmps48
  go_wp2_with fail
  refine (l1DrawValue_any c a len cap _ (hcur.alloc _) hlen).mono ?_
  rintro e w1 ⟨v, rfl, ⟨k, n, s, rfl, hsz⟩, hb1, hc1⟩
  have hO := (own0 w (.int .i64 0) (.int .i64 0) (.string ⟨#[]⟩) 28).but hb1 (by omega)
  have hz1 : w.heap.size < w1.heap.size := hO.2.2.2.2.2.2
  have hcz1 := hc1.lt
  go_wp2_with fail
  refine (l1Once_any c a len cap 10 _ (hc1.alloc _) hlen (by decide) (by decide)).mono ?_
  rintro e w2 ⟨b, rfl, hb2, hc2⟩
  have hV := (tri0 w1 (.int .i64 k) (.int .i64 n) (.string s) 28).but hb2 (by omega)
  have hW := (own0 w1 (.int .i64 k) (.int .i64 n) (.string s) 28).but hb2 (by omega)
  replace hO := (hO.alloc _).but hb2 (by omega)
  have hz2 : w1.heap.size < w2.heap.size := hV.2.2.2
  cases b
  · obtain ⟨⟨_, g0⟩, ⟨_, g1⟩, ⟨_, g2⟩, f0, f1, f2, _⟩ := id hO
    obtain ⟨t0, t1, t2, _⟩ := id hV
    obtain ⟨_, _, _, v0, v1, v2, _⟩ := id hW
    go_wp2
    refine bodyPost_ret (by simp [results, Tryd.results48, go_sem, g0, g1, g2]; rfl) rfl ?_
    exact ⟨_, rfl, ⟨_, _, _, rfl, hsz⟩, (by repeat' (first | (with_reducible exact But.refl _ _) | (with_reducible refine But.drew ?_) | (with_reducible refine But.alloc ?_ _) | (with_reducible refine But.setNew ?_ _ ?_) | (with_reducible refine But.call ?_ (by with_reducible assumption)) | go_size)), (by repeat' (first | (with_reducible assumption) | (with_reducible refine Cur.drew ?_) | (with_reducible refine Cur.alloc ?_ _) | (with_reducible refine Cur.set ?_ _ ?_) | (simp; omega) | omega))⟩
  · go_wp2_with fail
    refine (l1Below_any c a len cap 3 _ hc2 hlen (by decide) (by decide)).mono ?_
    rintro e w3 ⟨x, rfl, hx0, hx1, hb3, hc3⟩
    replace hO := hO.but hb3 (by omega)
    replace hV := hV.but hb3 (by omega)
    replace hW := hW.but hb3 (by omega)
    have hz3 : w1.heap.size < w3.heap.size := hV.2.2.2
    obtain rfl | rfl | rfl : x = 0 ∨ x = 1 ∨ x = 2 := by omega
    · go_wp2_with fail
      refine (l1From_any c a len cap (-1) 6 _ hc3 hlen (by decide) (by decide) (by decide) (by decide)).mono ?_
      rintro e w4 ⟨y, rfl, hy0, hy1, hb4, hc4⟩
      replace hO := hO.but hb4 (by omega)
      replace hV := hV.but hb4 (by omega)
      replace hW := hW.but hb4 (by omega)
      obtain ⟨⟨_, g0⟩, ⟨_, g1⟩, ⟨_, g2⟩, f0, f1, f2, _⟩ := id hO
      obtain ⟨t0, t1, t2, _⟩ := id hV
      obtain ⟨_, _, _, v0, v1, v2, _⟩ := id hW
      go_wp2
      refine bodyPost_ret (by simp [results, Tryd.results48, go_sem, g0, g1, g2]; rfl) rfl ?_
      exact ⟨_, rfl, ⟨_, _, _, rfl, hsz⟩, (by repeat' (first | (with_reducible exact But.refl _ _) | (with_reducible refine But.drew ?_) | (with_reducible refine But.alloc ?_ _) | (with_reducible refine But.setNew ?_ _ ?_) | (with_reducible refine But.call ?_ (by with_reducible assumption)) | go_size)), (by repeat' (first | (with_reducible assumption) | (with_reducible refine Cur.drew ?_) | (with_reducible refine Cur.alloc ?_ _) | (with_reducible refine Cur.set ?_ _ ?_) | (simp; omega) | omega))⟩
    · go_wp2_with fail
      refine (l1Below_any c a len cap 4 _ (hc3.alloc _) hlen (by decide) (by decide)).mono ?_
      rintro e w4 ⟨y, rfl, hy0, hy1, hb4, hc4⟩
      replace hO := (hO.alloc _).but hb4 (by omega)
      replace hV := (hV.alloc _).but hb4 (by omega)
      replace hW := (hW.alloc _).but hb4 (by omega)
      obtain ⟨⟨_, g0⟩, ⟨_, g1⟩, ⟨_, g2⟩, f0, f1, f2, _⟩ := id hO
      obtain ⟨t0, t1, t2, _⟩ := id hV
      obtain ⟨_, _, _, v0, v1, v2, _⟩ := id hW
      have e0 := hb4.cell w3.heap.size 0 (by simp) (by have := hc3.lt; omega)
      have e1 := hb4.cell w3.heap.size 1 (by simp) (by have := hc3.lt; omega)
      have e2 := hb4.cell w3.heap.size 2 (by simp) (by have := hc3.lt; omega)
      have e3 := hb4.cell w3.heap.size 3 (by simp) (by have := hc3.lt; omega)
      simp [go_sem] at e0 e1 e2 e3
      obtain rfl | rfl | rfl | rfl : y = 0 ∨ y = 1 ∨ y = 2 ∨ y = 3 := by omega
      all_goals
        go_wp2
        refine bodyPost_ret (by simp [results, Tryd.results48, go_sem, g0, g1, g2]; rfl) rfl ?_
        exact ⟨_, rfl, ⟨_, _, _, rfl, hsz⟩, (by repeat' (first | (with_reducible exact But.refl _ _) | (with_reducible refine But.drew ?_) | (with_reducible refine But.alloc ?_ _) | (with_reducible refine But.setNew ?_ _ ?_) | (with_reducible refine But.call ?_ (by with_reducible assumption)) | go_size)), (by repeat' (first | (with_reducible assumption) | (with_reducible refine Cur.drew ?_) | (with_reducible refine Cur.alloc ?_ _) | (with_reducible refine Cur.set ?_ _ ?_) | (simp; omega) | omega))⟩
    · go_wp2_with fail
      refine (l1Below_any c a len cap 4 _ (hc3.alloc _) hlen (by decide) (by decide)).mono ?_
      rintro e w4 ⟨y, rfl, hy0, hy1, hb4, hc4⟩
      replace hO := (hO.alloc _).but hb4 (by omega)
      replace hV := (hV.alloc _).but hb4 (by omega)
      replace hW := (hW.alloc _).but hb4 (by omega)
      obtain ⟨⟨_, g0⟩, ⟨_, g1⟩, ⟨_, g2⟩, f0, f1, f2, _⟩ := id hO
      obtain ⟨t0, t1, t2, _⟩ := id hV
      obtain ⟨_, _, _, v0, v1, v2, _⟩ := id hW
      have e0 := hb4.cell w3.heap.size 0 (by simp) (by have := hc3.lt; omega)
      have e1 := hb4.cell w3.heap.size 1 (by simp) (by have := hc3.lt; omega)
      have e2 := hb4.cell w3.heap.size 2 (by simp) (by have := hc3.lt; omega)
      have e3 := hb4.cell w3.heap.size 3 (by simp) (by have := hc3.lt; omega)
      simp [go_sem] at e0 e1 e2 e3
      obtain rfl | rfl | rfl | rfl : y = 0 ∨ y = 1 ∨ y = 2 ∨ y = 3 := by omega
      all_goals
        go_wp2
        refine bodyPost_ret (by simp [results, Tryd.results48, go_sem, g0, g1, g2]; rfl) rfl ?_
        exact ⟨_, rfl, ⟨_, _, _, rfl, by decide⟩, (by repeat' (first | (with_reducible exact But.refl _ _) | (with_reducible refine But.drew ?_) | (with_reducible refine But.alloc ?_ _) | (with_reducible refine But.setNew ?_ _ ?_) | (with_reducible refine But.call ?_ (by with_reducible assumption)) | go_size)), (by repeat' (first | (with_reducible assumption) | (with_reducible refine Cur.drew ?_) | (with_reducible refine Cur.alloc ?_ _) | (with_reducible refine Cur.set ?_ _ ?_) | (simp; omega) | omega))⟩

end Go.Proofs.YtmlopiphcnhcpaaDoor
