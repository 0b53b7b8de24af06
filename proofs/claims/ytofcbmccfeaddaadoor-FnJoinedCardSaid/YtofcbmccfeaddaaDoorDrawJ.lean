/-
  The draw of the law of joining: two Values, whatever they are; nothing has turned that was there.
-/
import Derived.Test.YtofcbmccfeaddaaDoorDrawX
namespace Go.Proofs.YtofcbmccfeaddaaDoor
open Go.RowKit

/-- What the draw holds: the first Value, the two results' boxes, the cursor. -/
def Dj (w : World) (V : Nat) (v0 v1 v2 : Value) (c : Nat) (a : Option Addr) (len cap : Nat) (x : World) : Prop :=
  Tri V v0 v1 v2 x ∧ Own w.heap.size x ∧ Own (w.heap.size + 1) x ∧ Cur c a len cap x ∧ Below w.heap.size w x
theorem Dj.but {w : World} {V : Nat} {v0 v1 v2 : Value} {c : Nat} {a : Option Addr} {len cap : Nat} {W w1 : World} (h : Dj w V v0 v1 v2 c a len cap W) (hb : But c W w1) (hc : Cur c a len cap w1) (hV : V ≠ c) (hw : w.heap.size + 1 < c) : Dj w V v0 v1 v2 c a len cap w1 :=
  ⟨h.1.but hb hV, h.2.1.but hb (by omega), h.2.2.1.but hb (by omega), hc, But.below h.2.2.2.2 (by omega) hb⟩
theorem Dj.drew {w : World} {V : Nat} {v0 v1 v2 : Value} {c : Nat} {a : Option Addr} {len cap : Nat} {W : World} (h : Dj w V v0 v1 v2 c a len cap W) : Dj w V v0 v1 v2 c a len cap W.drew := ⟨h.1, h.2.1, h.2.2.1, h.2.2.2.1, h.2.2.2.2.drew⟩

set_option maxHeartbeats 4000000 in
theorem DrawJoined_any (a : Option Addr) (len cap : Nat) (w : World) (hcode : Code w.heap.size a len w) (hlen : len ≤ 4096) :
    Calls Tryd.prog 7 #[.slice a len cap] w fun e w' => ∃ v v' : Value, e = .returned (.tuple #[v, v']) ∧ SomeV v ∧ SomeV v' ∧ Below w.heap.size w w' := by
  have hml : len ≤ maxLen := by unfold maxLen; omega
  have hO := (own0 w (.int .i64 0) (.int .i64 0) (.string ⟨#[]⟩) 25).alloc (.cells #[.int .i64 0, .int .i64 0, .string ⟨#[]⟩] 25)
  have hP := own0 (w.alloc (.cells #[.int .i64 0, .int .i64 0, .string ⟨#[]⟩] 25)) (.int .i64 0) (.int .i64 0) (.string ⟨#[]⟩) 25
  have es : ((w.alloc (.cells #[.int .i64 0, .int .i64 0, .string ⟨#[]⟩] 25)).alloc (.cells #[.int .i64 0, .int .i64 0, .string ⟨#[]⟩] 25)).heap.size = w.heap.size + 1 + 1 := by simp
  have HE : Hid (_ = _) := es
  rw [show (w.alloc (.cells #[.int .i64 0, .int .i64 0, .string ⟨#[]⟩] 25)).heap.size = w.heap.size + 1 from by simp] at hP
  have hB0 : Below w.heap.size w ((w.alloc (.cells #[.int .i64 0, .int .i64 0, .string ⟨#[]⟩] 25)).alloc (.cells #[.int .i64 0, .int .i64 0, .string ⟨#[]⟩] 25)) := balloc (balloc (Below.refl _ _) _) _
  clear es
  go_enter Tryd.func7, Tryd.ntmps7
  go_wp2_with fail
  refine (l1New_any a len cap _ (hcode.up hB0.size hB0) hlen).mono ?_
  rintro e w1 ⟨rfl, hb1, hc1⟩
  rw [HE.out] at hc1 ⊢
  replace hO := hO.call hb1
  replace hP := hP.call hb1
  have hz1 := hc1.lt
  have hB1 := bstep hB0 hb1
  go_wp2_with fail
  refine (l1DrawAny_any _ a len cap _ hc1 hml).mono ?_
  rintro e w2 ⟨v, rfl, ⟨k, n, s, rfl, hsz⟩, hb2, hc2⟩
  replace hO := hO.but hb2 (by omega)
  replace hP := hP.but hb2 (by omega)
  have hB2 := But.below hB1 (by omega) hb2
  have hz2 := hc2.lt
  go_wp2_with fail
  refine (l1Once_any _ a len cap 5 _ (hc2.alloc _) hml (by decide) (by decide)).mono ?_
  rintro e w3 ⟨b, rfl, hb3, hc3⟩
  have hV := (tri0 w2 (.int .i64 k) (.int .i64 n) (.string s) 25).but hb3 (by omega)
  have hW := (own0 w2 (.int .i64 k) (.int .i64 n) (.string s) 25).but hb3 (by omega)
  replace hO := (hO.alloc _).but hb3 (by omega)
  replace hP := (hP.alloc _).but hb3 (by omega)
  have hB3 := But.below (balloc hB2 (.cells #[.int .i64 k, .int .i64 n, .string s] 25)) (by omega) hb3
  have hz3 := hc3.lt
  cases b
  · obtain ⟨t0, t1, t2, _⟩ := id hV
    have hT : Dj w w2.heap.size (.int .i64 k) (.int .i64 n) (.string s) (w.heap.size + 1 + 1) a len cap _ := ⟨hV, hO, hP, hc3, hB3⟩
    clear hO hP hV hW hB1 hB2 hB3 hc1 hc2 hb1 hb2 hb3
    have hcc := hT.2.2.2.1
    go_wp2_with fail
    first | go_region_with (go_at_call 18; refine (l1DrawAny_any _ a len cap _ hcc.drew hml).mono ?_; rintro e w4 ⟨u, rfl, ⟨k', n', s', rfl, hsz'⟩, hb4, hc4⟩; have hT4 := Dj.but hT.drew hb4 hc4 (by omega) (by omega); obtain ⟨⟨y0, y1, y2, _⟩, ⟨⟨_, g0⟩, ⟨_, g1⟩, ⟨_, g2⟩, f0, f1, f2, _⟩, ⟨⟨_, p0⟩, ⟨_, p1⟩, ⟨_, p2⟩, q0, q1, q2, _⟩, _, hB4⟩ := id hT4) | fail
    all_goals
      go_wp2
      refine bodyPost_ret (by simp [results, Tryd.results7, go_sem, g0, g1, g2, p0, p1, p2]; rfl) rfl ?_
      refine ⟨_, _, rfl, ⟨_, _, _, rfl, hsz⟩, ⟨_, _, _, rfl, hsz'⟩, ?_⟩
      repeat' (first | (with_reducible exact hB4) | (with_reducible refine bset ?_ _ ?_) | go_size)
  · obtain ⟨⟨_, t0⟩, ⟨_, t1⟩, ⟨_, t2⟩, v0, v1, v2, _⟩ := id hW
    have hT : Dj w w2.heap.size (.int .i64 2) (.int .i64 0) (.string ⟨#[48, 49, 50, 51, 52, 53, 54, 55, 56, 57, 48, 49, 50, 51, 52, 53, 54, 55, 56, 57, 48, 49, 50, 51, 52, 53, 54, 55, 56, 57, 48, 49, 50, 51, 52, 53, 54, 55, 56, 57, 48, 49, 50, 51, 52, 53, 54, 55, 56, 57, 48, 49, 50, 51, 52, 53, 54, 55]⟩) (w.heap.size + 1 + 1) a len cap _ := ⟨hW.set _ _ _, own_set3 hO _ _ _ (by omega), own_set3 hP _ _ _ (by omega), ((hc3.set _ (by simp; omega)).set _ (by simp; omega)).set _ (by simp; omega), bset (bset (bset hB3 _ (by simp; omega)) _ (by simp; omega)) _ (by simp; omega)⟩
    clear hO hP hV hW hB1 hB2 hB3 hc1 hc2 hb1 hb2 hb3
    have hcc := hT.2.2.2.1
    go_wp2_with fail
    first | go_region_with (go_at_call 18; refine (l1DrawAny_any _ a len cap _ hcc.drew hml).mono ?_; rintro e w4 ⟨u, rfl, ⟨k', n', s', rfl, hsz'⟩, hb4, hc4⟩; have hT4 := Dj.but hT.drew hb4 hc4 (by omega) (by omega); obtain ⟨⟨y0, y1, y2, _⟩, ⟨⟨_, g0⟩, ⟨_, g1⟩, ⟨_, g2⟩, f0, f1, f2, _⟩, ⟨⟨_, p0⟩, ⟨_, p1⟩, ⟨_, p2⟩, q0, q1, q2, _⟩, _, hB4⟩ := id hT4) | fail
    all_goals
      go_wp2
      refine bodyPost_ret (by simp [results, Tryd.results7, go_sem, g0, g1, g2, p0, p1, p2]; rfl) rfl ?_
      refine ⟨_, _, rfl, ⟨_, _, _, rfl, by decide⟩, ⟨_, _, _, rfl, hsz'⟩, ?_⟩
      repeat' (first | (with_reducible exact hB4) | (with_reducible refine bset ?_ _ ?_) | go_size)

end Go.Proofs.YtofcbmccfeaddaaDoor
