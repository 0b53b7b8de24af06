/-
  The model's draws of Values: what is drawn is some Value with a text of at most 61 bytes; the cursor stays a cursor; nothing else has turned.
-/
import Derived.Test.YtmlopiphcnhcpaaDoorDrawB
namespace Go.Proofs.YtmlopiphcnhcpaaDoor
open Go.RowKit

/-- Some Value. -/
def SomeV (v : Value) : Prop := ∃ (k n : Int) (s : ByteArray), v = .agg #[.int .i64 k, .int .i64 n, .string s] ∧ s.size ≤ 61

set_option maxHeartbeats 2000000 in
theorem l1DrawValue_any (c : Nat) (a : Option Addr) (len cap : Nat) (w : World) (hcur : Cur c a len cap w) (hlen : len ≤ maxLen) :
    Calls Tryd.prog 63 #[.pointer (some ⟨c, 0, none⟩)] w fun e w' => ∃ v : Value, e = .returned v ∧ SomeV v ∧ But c w w' ∧ Cur c a len cap w' := by
  have hcz := hcur.lt
  go_enter Tryd.func63, Tryd.ntmps63
  go_wp2_with fail
  refine (l1Below_any c a len cap 8 _ (hcur.alloc _) hlen (by decide) (by decide)).mono ?_
  rintro e w1 ⟨x, rfl, hx0, hx1, hb1, hc1⟩
  have hO := (own0 w (.int .i64 0) (.int .i64 0) (.string ⟨#[]⟩) 28).but hb1 (by omega)
  have hz1 : w.heap.size < w1.heap.size := hO.2.2.2.2.2.2
  obtain rfl | h12 | rfl | rfl | h5 : x = 0 ∨ (x = 1 ∨ x = 2) ∨ x = 3 ∨ x = 4 ∨ 5 ≤ x := by omega
  · obtain ⟨⟨_, g0⟩, ⟨_, g1⟩, ⟨_, g2⟩, f0, f1, f2, _⟩ := id hO
    go_wp2
    refine bodyPost_ret (by simp [results, Tryd.results63, go_sem, g0, g1, g2]; rfl) rfl ?_
    exact ⟨_, rfl, ⟨_, _, _, rfl, by first | decide | simp⟩, (by repeat' (first | (with_reducible exact But.refl _ _) | (with_reducible refine But.drew ?_) | (with_reducible refine But.alloc ?_ _) | (with_reducible refine But.setNew ?_ _ ?_) | (with_reducible refine But.call ?_ (by with_reducible assumption)) | go_size)), (by repeat' (first | (with_reducible assumption) | (with_reducible refine Cur.drew ?_) | (with_reducible refine Cur.alloc ?_ _) | (with_reducible refine Cur.set ?_ _ ?_) | (simp; omega) | omega))⟩
  · rcases h12 with rfl | rfl
    all_goals
      go_wp2_with fail
      refine (l1Below_any c a len cap 4 _ (hc1.alloc _) hlen (by decide) (by decide)).mono ?_
      rintro e w2 ⟨y, rfl, hy0, hy1, hb2, hc2⟩
      replace hO := (hO.alloc _).but hb2 (by omega)
      obtain ⟨⟨_, g0⟩, ⟨_, g1⟩, ⟨_, g2⟩, f0, f1, f2, _⟩ := id hO
      have e0 := hb2.cell w1.heap.size 0 (by simp) (by omega)
      have e1 := hb2.cell w1.heap.size 1 (by simp) (by omega)
      have e2 := hb2.cell w1.heap.size 2 (by simp) (by omega)
      have e3 := hb2.cell w1.heap.size 3 (by simp) (by omega)
      simp [go_sem] at e0 e1 e2 e3
      obtain rfl | rfl | rfl | rfl : y = 0 ∨ y = 1 ∨ y = 2 ∨ y = 3 := by omega
      all_goals
        go_wp2
        refine bodyPost_ret (by simp [results, Tryd.results63, go_sem, g0, g1, g2]; rfl) rfl ?_
        exact ⟨_, rfl, ⟨_, _, _, rfl, by first | decide | simp⟩, (by repeat' (first | (with_reducible exact But.refl _ _) | (with_reducible refine But.drew ?_) | (with_reducible refine But.alloc ?_ _) | (with_reducible refine But.setNew ?_ _ ?_) | (with_reducible refine But.call ?_ (by with_reducible assumption)) | go_size)), (by repeat' (first | (with_reducible assumption) | (with_reducible refine Cur.drew ?_) | (with_reducible refine Cur.alloc ?_ _) | (with_reducible refine Cur.set ?_ _ ?_) | (simp; omega) | omega))⟩
  · go_wp2_with fail
    refine (l1Below_any c a len cap 3 _ hc1 hlen (by decide) (by decide)).mono ?_
    rintro e w2 ⟨y, rfl, hy0, hy1, hb2, hc2⟩
    replace hO := hO.but hb2 (by omega)
    go_wp2_with fail
    refine (l1Below_any c a len cap 3 _ hc2 hlen (by decide) (by decide)).mono ?_
    rintro e w3 ⟨y', rfl, hy0', hy1', hb3, hc3⟩
    replace hO := hO.but hb3 (by omega)
    obtain ⟨⟨_, g0⟩, ⟨_, g1⟩, ⟨_, g2⟩, f0, f1, f2, _⟩ := id hO
    go_wp2
    refine bodyPost_ret (by simp [results, Tryd.results63, go_sem, g0, g1, g2]; rfl) rfl ?_
    exact ⟨_, rfl, ⟨_, _, _, rfl, by first | decide | simp⟩, (by repeat' (first | (with_reducible exact But.refl _ _) | (with_reducible refine But.drew ?_) | (with_reducible refine But.alloc ?_ _) | (with_reducible refine But.setNew ?_ _ ?_) | (with_reducible refine But.call ?_ (by with_reducible assumption)) | go_size)), (by repeat' (first | (with_reducible assumption) | (with_reducible refine Cur.drew ?_) | (with_reducible refine Cur.alloc ?_ _) | (with_reducible refine Cur.set ?_ _ ?_) | (simp; omega) | omega))⟩
  · go_wp2_with fail
    refine (l1Below_any c a len cap 4 _ (hc1.alloc _) hlen (by decide) (by decide)).mono ?_
    rintro e w2 ⟨y, rfl, hy0, hy1, hb2, hc2⟩
    replace hO := (hO.alloc _).but hb2 (by omega)
    obtain ⟨⟨_, g0⟩, ⟨_, g1⟩, ⟨_, g2⟩, f0, f1, f2, _⟩ := id hO
    have e0 := hb2.cell w1.heap.size 0 (by simp) (by omega)
    have e1 := hb2.cell w1.heap.size 1 (by simp) (by omega)
    have e2 := hb2.cell w1.heap.size 2 (by simp) (by omega)
    have e3 := hb2.cell w1.heap.size 3 (by simp) (by omega)
    simp [go_sem] at e0 e1 e2 e3
    obtain rfl | rfl | rfl | rfl : y = 0 ∨ y = 1 ∨ y = 2 ∨ y = 3 := by omega
    all_goals
      go_wp2
      refine bodyPost_ret (by simp [results, Tryd.results63, go_sem, g0, g1, g2]; rfl) rfl ?_
      exact ⟨_, rfl, ⟨_, _, _, rfl, by first | decide | simp⟩, (by repeat' (first | (with_reducible exact But.refl _ _) | (with_reducible refine But.drew ?_) | (with_reducible refine But.alloc ?_ _) | (with_reducible refine But.setNew ?_ _ ?_) | (with_reducible refine But.call ?_ (by with_reducible assumption)) | go_size)), (by repeat' (first | (with_reducible assumption) | (with_reducible refine Cur.drew ?_) | (with_reducible refine Cur.alloc ?_ _) | (with_reducible refine Cur.set ?_ _ ?_) | (simp; omega) | omega))⟩
  · have n0 : (x == 0) = false := by simp; omega
    have n1 : (x == 1) = false := by simp; omega
    have n2 : (x == 2) = false := by simp; omega
    have n3 : (x == 3) = false := by simp; omega
    have n4 : (x == 4) = false := by simp; omega
    go_wp2_with fail
    refine (l1Below_any c a len cap 12 _ hc1 hlen (by decide) (by decide)).mono ?_
    rintro e w2 ⟨y, rfl, hy0, hy1, hb2, hc2⟩
    replace hO := hO.but hb2 (by omega)
    obtain ⟨⟨_, g0⟩, ⟨_, g1⟩, ⟨_, g2⟩, f0, f1, f2, _⟩ := id hO
    go_wp2
    refine bodyPost_ret (by simp [results, Tryd.results63, go_sem, g0, g1, g2]; rfl) rfl ?_
    exact ⟨_, rfl, ⟨_, _, _, rfl, by first | decide | simp⟩, (by repeat' (first | (with_reducible exact But.refl _ _) | (with_reducible refine But.drew ?_) | (with_reducible refine But.alloc ?_ _) | (with_reducible refine But.setNew ?_ _ ?_) | (with_reducible refine But.call ?_ (by with_reducible assumption)) | go_size)), (by repeat' (first | (with_reducible assumption) | (with_reducible refine Cur.drew ?_) | (with_reducible refine Cur.alloc ?_ _) | (with_reducible refine Cur.set ?_ _ ?_) | (simp; omega) | omega))⟩

end Go.Proofs.YtmlopiphcnhcpaaDoor
