/-
  The law of sums, walked: whatever bytes it draws from, it answers true, and turns nothing that was there.
-/
import Derived.Test.YtofcbmccfeaddaaSumsC
namespace Go.Proofs.Ytofcbmccfeaddaa
open Go.RowKit

theorem keeps2 (w : World) (a0 a1 a2 b0 b1 b2 : Value) (T : TypeId) : Keeps [(w.heap.size + 1, b0, b1, b2), (w.heap.size, a0, a1, a2)] ((w.alloc (.cells #[a0, a1, a2] T)).alloc (.cells #[b0, b1, b2] T)) := fun t ht => by
  obtain ⟨h1, h2, _⟩ := two0 w a0 a1 a2 b0 b1 b2 T
  rcases List.mem_cons.1 ht with rfl | ht
  · exact h2
  · rcases List.mem_cons.1 ht with rfl | ht
    · exact h1
    · cases ht
/-- Four boxes of the law, and all of them. -/
def Qd (w : World) (a0 a1 a2 b0 b1 b2 : Value) (P : Nat) (p0 p1 p2 : Value) (Q : Nat) (q0 q1 q2 : Value) (L : List (Nat × Value × Value × Value)) (x : World) : Prop :=
  Tri w.heap.size a0 a1 a2 x ∧ Tri (w.heap.size + 1) b0 b1 b2 x ∧ Tri P p0 p1 p2 x ∧ Tri Q q0 q1 q2 x ∧ Keeps L x
section
variable {w W w1 : World} {a0 a1 a2 b0 b1 b2 p0 p1 p2 q0 q1 q2 : Value} {P Q : Nat} {L : List (Nat × Value × Value × Value)}
theorem Qd.call (h : Qd w a0 a1 a2 b0 b1 b2 P p0 p1 p2 Q q0 q1 q2 L W) (hb : Below W.heap.size W w1) : Qd w a0 a1 a2 b0 b1 b2 P p0 p1 p2 Q q0 q1 q2 L w1 := ⟨h.1.call hb, h.2.1.call hb, h.2.2.1.call hb, h.2.2.2.1.call hb, h.2.2.2.2.call hb⟩
theorem Qd.drew (h : Qd w a0 a1 a2 b0 b1 b2 P p0 p1 p2 Q q0 q1 q2 L W) : Qd w a0 a1 a2 b0 b1 b2 P p0 p1 p2 Q q0 q1 q2 L W.drew := h
end

theorem bdrewN {B : Nat} {w W : World} (h : Below B w W) (n : Nat) : Below B w (W.drewN n) := ⟨h.os, h.tape, h.output, h.size, h.block⟩
theorem truth_fault (k n : Int) (s : ByteArray) : (isN k n s && (n != 0)) = true → pick (isN k n s) 0 1 = 0 := by
  cases h : isN k n s
  · intro h; exact absurd h (by simp)
  · intro _; rfl
theorem numB_of {n : Int} (h0 : -999999999 ≤ n) (h1 : n ≤ 999999999) : numB n = true := by simp [numB, h0, h1]
theorem bits_lt {n n' : Int} (h : n < n') : bitN (decide (n < n')) = 1 := by rw [decide_eq_true h]; rfl
theorem bits_ge {n n' : Int} (h : n' < n) : bitN (decide (n < n')) = 0 := by rw [decide_eq_false (by omega)]; rfl
theorem bits_eq (n : Int) : bitN (decide (n < n)) = 0 := by rw [decide_eq_false (by omega)]; rfl
theorem same_yes (n : Int) : bitN (sameB 1 n ⟨#[]⟩ 1 n ⟨#[]⟩) = 1 := by simp [sameB, bitN]
theorem same_no {n n' : Int} (h : ¬ n = n') : bitN (sameB 1 n ⟨#[]⟩ 1 n' ⟨#[]⟩) = 0 := by simp [sameB, bitN, h]

set_option maxRecDepth 100000 in
set_option maxHeartbeats 40000000 in
theorem lawSums (a : Option Addr) (len cap : Nat) (w : World) (hcode : Code w.heap.size a len w) (_hml : len ≤ maxLen) :
    Calls Try.prog 3 #[.slice a len cap] w fun e w' => e = .returned (.bool true) ∧ Below w.heap.size w w' := by
  by_cases hbig : (4096 : Int) < len
  · go_enter Try.func3, Try.ntmps3
    go_wp2_with fail
    refine (big_any a len cap _).mono ?_
    rintro e w1 ⟨rfl, rfl⟩
    rw [decide_eq_true hbig]
    go_wp2
    go_ret
    exact ⟨rfl, Below.refl _ _⟩
  have hlen : len ≤ 4096 := by omega
  go_enter Try.func3, Try.ntmps3
  go_wp2_with fail
  refine (big_any a len cap _).mono ?_
  rintro e w0 ⟨rfl, hw0⟩
  rw [hw0]
  clear hw0
  rw [decide_eq_false (by omega)]
  go_wp2_with fail
  refine (DrawPlus_any a len cap _ hcode hlen).mono ?_
  rintro e w1 ⟨v, v', rfl, ⟨k, n, s, rfl, hs⟩, ⟨k', n', s', rfl, hs'⟩, hb1⟩
  replace hs : s.size ≤ maxLen := by unfold maxLen; omega
  replace hs' : s'.size ≤ maxLen := by unfold maxLen; omega
  cases h2 : two k n s k' n' s'
  · have H2 : Hid _ := h2
    clear h2
    have hK := keeps2 w1 (.int .i64 k) (.int .i64 n) (.string s) (.int .i64 k') (.int .i64 n') (.string s') 25
    have hB := balloc (balloc hb1 (.cells #[.int .i64 k, .int .i64 n, .string s] 25)) (.cells #[.int .i64 k', .int .i64 n', .string s'] 25)
    clear hb1
    go_wp2_with fail
    refine (plusI_no k n k' n' s s' _ hs hs' H2.out).mono ?_
    rintro e wp ⟨rfl, hb⟩
    replace hK := hK.call hb
    replace hB := bstep hB hb
    clear hb
    obtain ⟨a0, a1, a2, az⟩ := hK.get (.tail _ (.head _))
    obtain ⟨b0, b1, b2, bz⟩ := hK.get (.head _)
    replace hK := hK.push (.int .i64 0) (.int .i64 0) (.string ⟨#[]⟩) 25
    replace hB := balloc hB (.cells #[.int .i64 0, .int .i64 0, .string ⟨#[]⟩] 25)
    go_wp2_with fail
    refine (lessI_no k n k' n' s s' _ hs hs' H2.out).mono ?_
    rintro e wl ⟨rfl, hb⟩
    replace hK := hK.call hb
    replace hB := bstep hB hb
    clear hb
    clear a0 a1 a2 az
    obtain ⟨a0, a1, a2, az⟩ := hK.get (.tail _ (.tail _ (.head _)))
    clear b0 b1 b2 bz
    obtain ⟨b0, b1, b2, bz⟩ := hK.get (.tail _ (.head _))
    replace hK := hK.push (.int .i64 0) (.int .i64 0) (.string ⟨#[]⟩) 25
    replace hB := balloc hB (.cells #[.int .i64 0, .int .i64 0, .string ⟨#[]⟩] 25)
    go_wp2_with fail
    refine (timesI_no k n k' n' s s' _ hs hs' H2.out).mono ?_
    rintro e wt ⟨rfl, hb⟩
    replace hK := hK.call hb
    replace hB := bstep hB hb
    clear hb
    clear a0 a1 a2 az
    obtain ⟨a0, a1, a2, az⟩ := hK.get (.tail _ (.tail _ (.tail _ (.head _))))
    clear b0 b1 b2 bz
    obtain ⟨b0, b1, b2, bz⟩ := hK.get (.tail _ (.tail _ (.head _)))
    replace hK := hK.push (.int .i64 0) (.int .i64 0) (.string ⟨#[]⟩) 25
    replace hB := balloc hB (.cells #[.int .i64 0, .int .i64 0, .string ⟨#[]⟩] 25)
    go_wp2_with fail
    refine (belowI_no k n k' n' s s' _ hs hs' H2.out).mono ?_
    rintro e wb ⟨rfl, hb⟩
    replace hK := hK.call hb
    replace hB := bstep hB hb
    clear hb
    clear a0 a1 a2 az
    obtain ⟨a0, a1, a2, az⟩ := hK.get (.tail _ (.tail _ (.tail _ (.tail _ (.head _)))))
    clear b0 b1 b2 bz
    obtain ⟨b0, b1, b2, bz⟩ := hK.get (.tail _ (.tail _ (.tail _ (.head _))))
    replace hK := hK.push (.int .i64 0) (.int .i64 0) (.string ⟨#[]⟩) 25
    replace hB := balloc hB (.cells #[.int .i64 0, .int .i64 0, .string ⟨#[]⟩] 25)
    go_wp2_with fail
    refine (DrawTruth_any a len cap _ (hcode.up hB.size hB) hlen).mono ?_
    rintro e wv ⟨v, rfl, ⟨kv, nv, sv, rfl, hsv⟩, hb⟩
    have hsv' : sv.size ≤ maxLen := by unfold maxLen; omega
    replace hK := hK.call hb
    replace hB := bstep hB hb
    clear hb
    clear a0 a1 a2 az
    obtain ⟨a0, a1, a2, az⟩ := hK.get (.tail _ (.tail _ (.tail _ (.tail _ (.tail _ (.head _))))))
    clear b0 b1 b2 bz
    obtain ⟨b0, b1, b2, bz⟩ := hK.get (.tail _ (.tail _ (.tail _ (.tail _ (.head _)))))
    replace hK := hK.push (.int .i64 kv) (.int .i64 nv) (.string sv) 25
    replace hB := balloc hB (.cells #[.int .i64 kv, .int .i64 nv, .string sv] 25)
    go_wp2_with fail
    refine (truthI_any kv nv sv _ hsv').mono ?_
    rintro e wu ⟨rfl, hb⟩
    replace hK := hK.call hb
    replace hB := bstep hB hb
    clear hb
    clear a0 a1 a2 az
    obtain ⟨a0, a1, a2, az⟩ := hK.get (.tail _ (.tail _ (.tail _ (.tail _ (.tail _ (.tail _ (.head _)))))))
    clear b0 b1 b2 bz
    obtain ⟨b0, b1, b2, bz⟩ := hK.get (.tail _ (.tail _ (.tail _ (.tail _ (.tail _ (.head _))))))
    go_wp2_with fail
    refine (plusS_no k n k' n' s s' _ hs hs' H2.out).mono ?_
    rintro e ws ⟨rfl, hb⟩
    replace hK := hK.call hb
    replace hB := bstep hB hb
    clear hb
    clear a0 a1 a2 az
    obtain ⟨a0, a1, a2, az⟩ := hK.get (.tail _ (.tail _ (.tail _ (.tail _ (.tail _ (.tail _ (.head _)))))))
    clear b0 b1 b2 bz
    obtain ⟨b0, b1, b2, bz⟩ := hK.get (.tail _ (.tail _ (.tail _ (.tail _ (.tail _ (.head _))))))
    obtain ⟨p0, p1, p2, pz⟩ := hK.get (.tail _ (.tail _ (.tail _ (.tail _ (.head _)))))
    replace hK := hK.push (.int .i64 0) (.int .i64 0) (.string ⟨#[]⟩) 25
    replace hB := balloc hB (.cells #[.int .i64 0, .int .i64 0, .string ⟨#[]⟩] 25)
    have hT : Qd w1 (.int .i64 k) (.int .i64 n) (.string s) (.int .i64 k') (.int .i64 n') (.string s') wp.heap.size (.int .i64 0) (.int .i64 0) (.string ⟨#[]⟩) ws.heap.size (.int .i64 0) (.int .i64 0) (.string ⟨#[]⟩) [(ws.heap.size, .int .i64 0, .int .i64 0, .string ⟨#[]⟩), (wv.heap.size, .int .i64 kv, .int .i64 nv, .string sv), (wb.heap.size, .int .i64 0, .int .i64 0, .string ⟨#[]⟩), (wt.heap.size, .int .i64 0, .int .i64 0, .string ⟨#[]⟩), (wl.heap.size, .int .i64 0, .int .i64 0, .string ⟨#[]⟩), (wp.heap.size, .int .i64 0, .int .i64 0, .string ⟨#[]⟩), (w1.heap.size + 1, .int .i64 k', .int .i64 n', .string s'), (w1.heap.size, .int .i64 k, .int .i64 n, .string s)] _ := ⟨hK.get (.tail _ (.tail _ (.tail _ (.tail _ (.tail _ (.tail _ (.tail _ (.head _)))))))), hK.get (.tail _ (.tail _ (.tail _ (.tail _ (.tail _ (.tail _ (.head _))))))), hK.get (.tail _ (.tail _ (.tail _ (.tail _ (.tail _ (.head _)))))), hK.get (.head _), hK⟩
    have hTB := hB
    clear a0 a1 a2 az
    clear b0 b1 b2 bz
    clear p0 p1 p2 pz
    clear hK hB
    go_wp2_with fail
    go_region_held3 (fun x => (x.cell? ⟨w1.heap.size, 0, none⟩ = some (.int .i64 k) ∧ x.cell? ⟨w1.heap.size, 1, none⟩ = some (.int .i64 n) ∧ x.cell? ⟨w1.heap.size, 2, none⟩ = some (.string s) ∧ w1.heap.size < x.heap.size) ∧ (x.cell? ⟨(w1.heap.size + 1), 0, none⟩ = some (.int .i64 k') ∧ x.cell? ⟨(w1.heap.size + 1), 1, none⟩ = some (.int .i64 n') ∧ x.cell? ⟨(w1.heap.size + 1), 2, none⟩ = some (.string s') ∧ (w1.heap.size + 1) < x.heap.size) ∧ (x.cell? ⟨wp.heap.size, 0, none⟩ = some (.int .i64 0) ∧ x.cell? ⟨wp.heap.size, 1, none⟩ = some (.int .i64 0) ∧ x.cell? ⟨wp.heap.size, 2, none⟩ = some (.string ⟨#[]⟩) ∧ wp.heap.size < x.heap.size) ∧ (x.cell? ⟨ws.heap.size, 0, none⟩ = some (.int .i64 0) ∧ x.cell? ⟨ws.heap.size, 1, none⟩ = some (.int .i64 0) ∧ x.cell? ⟨ws.heap.size, 2, none⟩ = some (.string ⟨#[]⟩) ∧ ws.heap.size < x.heap.size) ∧ Keeps [(ws.heap.size, .int .i64 0, .int .i64 0, .string ⟨#[]⟩), (wv.heap.size, .int .i64 kv, .int .i64 nv, .string sv), (wb.heap.size, .int .i64 0, .int .i64 0, .string ⟨#[]⟩), (wt.heap.size, .int .i64 0, .int .i64 0, .string ⟨#[]⟩), (wl.heap.size, .int .i64 0, .int .i64 0, .string ⟨#[]⟩), (wp.heap.size, .int .i64 0, .int .i64 0, .string ⟨#[]⟩), (w1.heap.size + 1, .int .i64 k', .int .i64 n', .string s'), (w1.heap.size, .int .i64 k, .int .i64 n, .string s)] x)
      ((show Qd w1 (.int .i64 k) (.int .i64 n) (.string s) (.int .i64 k') (.int .i64 n') (.string s') wp.heap.size (.int .i64 0) (.int .i64 0) (.string ⟨#[]⟩) ws.heap.size (.int .i64 0) (.int .i64 0) (.string ⟨#[]⟩) [(ws.heap.size, .int .i64 0, .int .i64 0, .string ⟨#[]⟩), (wv.heap.size, .int .i64 kv, .int .i64 nv, .string sv), (wb.heap.size, .int .i64 0, .int .i64 0, .string ⟨#[]⟩), (wt.heap.size, .int .i64 0, .int .i64 0, .string ⟨#[]⟩), (wl.heap.size, .int .i64 0, .int .i64 0, .string ⟨#[]⟩), (wp.heap.size, .int .i64 0, .int .i64 0, .string ⟨#[]⟩), (w1.heap.size + 1, .int .i64 k', .int .i64 n', .string s'), (w1.heap.size, .int .i64 k, .int .i64 n, .string s)] _; first | (with_reducible exact hT3) | (with_reducible exact hT.drew)))
      (first
        | (go_at_call 20; refine (valueOk_any k n s _ hs).mono ?_; rintro e w3 ⟨rfl, hb3⟩; (first | (with_reducible have hT3 := Qd.call hT3 hb3) | (with_reducible have hT3 := Qd.call hT.drew hb3)); (first | (with_reducible have hB3 := bstep hB3 hb3) | (with_reducible have hB3 := bstep hTB.drew hb3)))
        | (go_at_call 21; refine (specOk_any k n s _ hs).mono ?_; rintro e w3 ⟨rfl, hb3⟩; (first | (with_reducible have hT3 := Qd.call hT3 hb3) | (with_reducible have hT3 := Qd.call hT.drew hb3)); (first | (with_reducible have hB3 := bstep hB3 hb3) | (with_reducible have hB3 := bstep hTB.drew hb3)))
        | (go_at_call 22; refine (sameI_any k n k' n' s s' _).mono ?_; rintro e w3 ⟨rfl, hb3⟩; (first | (with_reducible have hT3 := Qd.call hT3 hb3) | (with_reducible have hT3 := Qd.call hT.drew hb3)); (first | (with_reducible have hB3 := bstep hB3 hb3) | (with_reducible have hB3 := bstep hTB.drew hb3)))
        | (go_at_call 23; refine (sameS_any k n k' n' s s' _).mono ?_; rintro e w3 ⟨rfl, hb3⟩; (first | (with_reducible have hT3 := Qd.call hT3 hb3) | (with_reducible have hT3 := Qd.call hT.drew hb3)); (first | (with_reducible have hB3 := bstep hB3 hb3) | (with_reducible have hB3 := bstep hTB.drew hb3))))
    have hK := hT3.2.2.2.2
    have hB := hB3
    clear hT hTB
    obtain ⟨a0, a1, a2, az⟩ := hK.get (.tail _ (.tail _ (.tail _ (.tail _ (.tail _ (.tail _ (.tail _ (.head _))))))))
    obtain ⟨b0, b1, b2, bz⟩ := hK.get (.tail _ (.tail _ (.tail _ (.tail _ (.tail _ (.tail _ (.head _)))))))
    go_wp2_with fail
    refine (lessS_no k n k' n' s s' _ hs hs' H2.out).mono ?_
    rintro e ws2 ⟨rfl, hb⟩
    replace hK := hK.call hb
    replace hB := bstep hB hb
    clear hb
    clear a0 a1 a2 az
    obtain ⟨a0, a1, a2, az⟩ := hK.get (.tail _ (.tail _ (.tail _ (.tail _ (.tail _ (.tail _ (.tail _ (.head _))))))))
    clear b0 b1 b2 bz
    obtain ⟨b0, b1, b2, bz⟩ := hK.get (.tail _ (.tail _ (.tail _ (.tail _ (.tail _ (.tail _ (.head _)))))))
    obtain ⟨l0, l1, l2, lz⟩ := hK.get (.tail _ (.tail _ (.tail _ (.tail _ (.head _)))))
    replace hK := hK.push (.int .i64 0) (.int .i64 0) (.string ⟨#[]⟩) 25
    replace hB := balloc hB (.cells #[.int .i64 0, .int .i64 0, .string ⟨#[]⟩] 25)
    go_wp2_with fail
    refine (timesS_no k n k' n' s s' _ hs hs' H2.out).mono ?_
    rintro e ws3 ⟨rfl, hb⟩
    replace hK := hK.call hb
    replace hB := bstep hB hb
    clear hb
    clear a0 a1 a2 az
    obtain ⟨a0, a1, a2, az⟩ := hK.get (.tail _ (.tail _ (.tail _ (.tail _ (.tail _ (.tail _ (.tail _ (.tail _ (.head _)))))))))
    clear b0 b1 b2 bz
    obtain ⟨b0, b1, b2, bz⟩ := hK.get (.tail _ (.tail _ (.tail _ (.tail _ (.tail _ (.tail _ (.tail _ (.head _))))))))
    obtain ⟨t0, t1, t2, tz⟩ := hK.get (.tail _ (.tail _ (.tail _ (.tail _ (.head _)))))
    replace hK := hK.push (.int .i64 0) (.int .i64 0) (.string ⟨#[]⟩) 25
    replace hB := balloc hB (.cells #[.int .i64 0, .int .i64 0, .string ⟨#[]⟩] 25)
    go_wp2_with fail
    refine (belowS_no k n k' n' s s' _ hs hs' H2.out).mono ?_
    rintro e ws4 ⟨rfl, hb⟩
    replace hK := hK.call hb
    replace hB := bstep hB hb
    clear hb
    clear a0 a1 a2 az
    obtain ⟨a0, a1, a2, az⟩ := hK.get (.tail _ (.tail _ (.tail _ (.tail _ (.tail _ (.tail _ (.tail _ (.tail _ (.tail _ (.head _))))))))))
    clear b0 b1 b2 bz
    obtain ⟨b0, b1, b2, bz⟩ := hK.get (.tail _ (.tail _ (.tail _ (.tail _ (.tail _ (.tail _ (.tail _ (.tail _ (.head _)))))))))
    obtain ⟨x0, x1, x2, xz⟩ := hK.get (.tail _ (.tail _ (.tail _ (.tail _ (.head _)))))
    replace hK := hK.push (.int .i64 0) (.int .i64 0) (.string ⟨#[]⟩) 25
    replace hB := balloc hB (.cells #[.int .i64 0, .int .i64 0, .string ⟨#[]⟩] 25)
    obtain ⟨v0, v1, v2, vz⟩ := hK.get (.tail _ (.tail _ (.tail _ (.tail _ (.head _)))))
    go_wp2_with fail
    refine (truthS_any kv nv sv _ hsv').mono ?_
    rintro e wu2 ⟨rfl, hb⟩
    replace hK := hK.call hb
    replace hB := bstep hB hb
    clear hb
    obtain ⟨p0, p1, p2, pz⟩ := hK.get (.tail _ (.tail _ (.tail _ (.tail _ (.tail _ (.tail _ (.tail _ (.tail _ (.head _)))))))))
    clear l0 l1 l2 lz
    obtain ⟨l0, l1, l2, lz⟩ := hK.get (.tail _ (.tail _ (.tail _ (.tail _ (.tail _ (.tail _ (.tail _ (.head _))))))))
    clear t0 t1 t2 tz
    obtain ⟨t0, t1, t2, tz⟩ := hK.get (.tail _ (.tail _ (.tail _ (.tail _ (.tail _ (.tail _ (.head _)))))))
    clear x0 x1 x2 xz
    obtain ⟨x0, x1, x2, xz⟩ := hK.get (.tail _ (.tail _ (.tail _ (.tail _ (.tail _ (.head _))))))
    have htt : Hid ((isN kv nv sv && (nv != 0)) = true → pick (isN kv nv sv) 0 1 = 0) := truth_fault kv nv sv
    generalize (isN kv nv sv && (nv != 0)) = tb at htt ⊢
    generalize pick (isN kv nv sv) 0 1 = tf at htt ⊢
    clear a0 a1 a2 az
    clear b0 b1 b2 bz
    clear v0 v1 v2 vz
    cases tb
    · clear htt
      go_wp2
      go_ret
      exact ⟨rfl, hB⟩
    · obtain rfl := htt.out rfl
      go_wp2
      go_ret
      exact ⟨rfl, hB⟩
  · obtain ⟨rfl, rfl, ⟨a1', a2'⟩, rfl, rfl, ⟨b1', b2'⟩⟩ := two_yes h2
    clear h2
    have hK := keeps2 w1 (.int .i64 1) (.int .i64 n) (.string ⟨#[]⟩) (.int .i64 1) (.int .i64 n') (.string ⟨#[]⟩) 25
    have hB := balloc (balloc hb1 (.cells #[.int .i64 1, .int .i64 n, .string ⟨#[]⟩] 25)) (.cells #[.int .i64 1, .int .i64 n', .string ⟨#[]⟩] 25)
    clear hb1
    go_wp2_with fail
    refine (plusI_yes n n' _ a1' a2' b1' b2').mono ?_
    rintro e wp ⟨rfl, hb⟩
    replace hK := hK.call hb
    replace hB := bstep hB hb
    clear hb
    obtain ⟨a0, a1, a2, az⟩ := hK.get (.tail _ (.head _))
    obtain ⟨b0, b1, b2, bz⟩ := hK.get (.head _)
    replace hK := hK.push (.int .i64 (mK (n + n'))) (.int .i64 (mN (n + n'))) (.string ⟨#[]⟩) 25
    replace hB := balloc hB (.cells #[.int .i64 (mK (n + n')), .int .i64 (mN (n + n')), .string ⟨#[]⟩] 25)
    go_wp2_with fail
    refine (lessI_yes n n' _ a1' a2' b1' b2').mono ?_
    rintro e wl ⟨rfl, hb⟩
    replace hK := hK.call hb
    replace hB := bstep hB hb
    clear hb
    clear a0 a1 a2 az
    obtain ⟨a0, a1, a2, az⟩ := hK.get (.tail _ (.tail _ (.head _)))
    clear b0 b1 b2 bz
    obtain ⟨b0, b1, b2, bz⟩ := hK.get (.tail _ (.head _))
    replace hK := hK.push (.int .i64 (mK (n - n'))) (.int .i64 (mN (n - n'))) (.string ⟨#[]⟩) 25
    replace hB := balloc hB (.cells #[.int .i64 (mK (n - n')), .int .i64 (mN (n - n')), .string ⟨#[]⟩] 25)
    go_wp2_with fail
    refine (timesI_yes n n' _ a1' a2' b1' b2').mono ?_
    rintro e wt ⟨rfl, hb⟩
    replace hK := hK.call hb
    replace hB := bstep hB hb
    clear hb
    clear a0 a1 a2 az
    obtain ⟨a0, a1, a2, az⟩ := hK.get (.tail _ (.tail _ (.tail _ (.head _))))
    clear b0 b1 b2 bz
    obtain ⟨b0, b1, b2, bz⟩ := hK.get (.tail _ (.tail _ (.head _)))
    replace hK := hK.push (.int .i64 (mK (wrap64 (n * n')))) (.int .i64 (mN (wrap64 (n * n')))) (.string ⟨#[]⟩) 25
    replace hB := balloc hB (.cells #[.int .i64 (mK (wrap64 (n * n'))), .int .i64 (mN (wrap64 (n * n'))), .string ⟨#[]⟩] 25)
    go_wp2_with fail
    refine (belowI_yes n n' _ a1' a2' b1' b2').mono ?_
    rintro e wb ⟨rfl, hb⟩
    replace hK := hK.call hb
    replace hB := bstep hB hb
    clear hb
    clear a0 a1 a2 az
    obtain ⟨a0, a1, a2, az⟩ := hK.get (.tail _ (.tail _ (.tail _ (.tail _ (.head _)))))
    clear b0 b1 b2 bz
    obtain ⟨b0, b1, b2, bz⟩ := hK.get (.tail _ (.tail _ (.tail _ (.head _))))
    replace hK := hK.push (.int .i64 1) (.int .i64 (bitN (decide (n < n')))) (.string ⟨#[]⟩) 25
    replace hB := balloc hB (.cells #[.int .i64 1, .int .i64 (bitN (decide (n < n'))), .string ⟨#[]⟩] 25)
    go_wp2_with fail
    refine (DrawTruth_any a len cap _ (hcode.up hB.size hB) hlen).mono ?_
    rintro e wv ⟨v, rfl, ⟨kv, nv, sv, rfl, hsv⟩, hb⟩
    have hsv' : sv.size ≤ maxLen := by unfold maxLen; omega
    replace hK := hK.call hb
    replace hB := bstep hB hb
    clear hb
    clear a0 a1 a2 az
    obtain ⟨a0, a1, a2, az⟩ := hK.get (.tail _ (.tail _ (.tail _ (.tail _ (.tail _ (.head _))))))
    clear b0 b1 b2 bz
    obtain ⟨b0, b1, b2, bz⟩ := hK.get (.tail _ (.tail _ (.tail _ (.tail _ (.head _)))))
    replace hK := hK.push (.int .i64 kv) (.int .i64 nv) (.string sv) 25
    replace hB := balloc hB (.cells #[.int .i64 kv, .int .i64 nv, .string sv] 25)
    go_wp2_with fail
    refine (truthI_any kv nv sv _ hsv').mono ?_
    rintro e wu ⟨rfl, hb⟩
    replace hK := hK.call hb
    replace hB := bstep hB hb
    clear hb
    clear a0 a1 a2 az
    obtain ⟨a0, a1, a2, az⟩ := hK.get (.tail _ (.tail _ (.tail _ (.tail _ (.tail _ (.tail _ (.head _)))))))
    clear b0 b1 b2 bz
    obtain ⟨b0, b1, b2, bz⟩ := hK.get (.tail _ (.tail _ (.tail _ (.tail _ (.tail _ (.head _))))))
    go_wp2_with fail
    refine (plusS_yes n n' _ a1' a2' b1' b2').mono ?_
    rintro e ws ⟨rfl, hb⟩
    replace hK := hK.call hb
    replace hB := bstep hB hb
    clear hb
    clear a0 a1 a2 az
    obtain ⟨a0, a1, a2, az⟩ := hK.get (.tail _ (.tail _ (.tail _ (.tail _ (.tail _ (.tail _ (.head _)))))))
    clear b0 b1 b2 bz
    obtain ⟨b0, b1, b2, bz⟩ := hK.get (.tail _ (.tail _ (.tail _ (.tail _ (.tail _ (.head _))))))
    obtain ⟨p0, p1, p2, pz⟩ := hK.get (.tail _ (.tail _ (.tail _ (.tail _ (.head _)))))
    replace hK := hK.push (.int .i64 (mK (n + n'))) (.int .i64 (mN (n + n'))) (.string ⟨#[]⟩) 25
    replace hB := balloc hB (.cells #[.int .i64 (mK (n + n')), .int .i64 (mN (n + n')), .string ⟨#[]⟩] 25)
    have hT : Qd w1 (.int .i64 1) (.int .i64 n) (.string ⟨#[]⟩) (.int .i64 1) (.int .i64 n') (.string ⟨#[]⟩) wp.heap.size (.int .i64 (mK (n + n'))) (.int .i64 (mN (n + n'))) (.string ⟨#[]⟩) ws.heap.size (.int .i64 (mK (n + n'))) (.int .i64 (mN (n + n'))) (.string ⟨#[]⟩) [(ws.heap.size, .int .i64 (mK (n + n')), .int .i64 (mN (n + n')), .string ⟨#[]⟩), (wv.heap.size, .int .i64 kv, .int .i64 nv, .string sv), (wb.heap.size, .int .i64 1, .int .i64 (bitN (decide (n < n'))), .string ⟨#[]⟩), (wt.heap.size, .int .i64 (mK (wrap64 (n * n'))), .int .i64 (mN (wrap64 (n * n'))), .string ⟨#[]⟩), (wl.heap.size, .int .i64 (mK (n - n')), .int .i64 (mN (n - n')), .string ⟨#[]⟩), (wp.heap.size, .int .i64 (mK (n + n')), .int .i64 (mN (n + n')), .string ⟨#[]⟩), (w1.heap.size + 1, .int .i64 1, .int .i64 n', .string ⟨#[]⟩), (w1.heap.size, .int .i64 1, .int .i64 n, .string ⟨#[]⟩)] _ := ⟨hK.get (.tail _ (.tail _ (.tail _ (.tail _ (.tail _ (.tail _ (.tail _ (.head _)))))))), hK.get (.tail _ (.tail _ (.tail _ (.tail _ (.tail _ (.tail _ (.head _))))))), hK.get (.tail _ (.tail _ (.tail _ (.tail _ (.tail _ (.head _)))))), hK.get (.head _), hK⟩
    have hTB := hB
    clear a0 a1 a2 az
    clear b0 b1 b2 bz
    clear p0 p1 p2 pz
    clear hK hB
    go_wp2_with fail
    go_region_held3 (fun x => (x.cell? ⟨w1.heap.size, 0, none⟩ = some (.int .i64 1) ∧ x.cell? ⟨w1.heap.size, 1, none⟩ = some (.int .i64 n) ∧ x.cell? ⟨w1.heap.size, 2, none⟩ = some (.string ⟨#[]⟩) ∧ w1.heap.size < x.heap.size) ∧ (x.cell? ⟨(w1.heap.size + 1), 0, none⟩ = some (.int .i64 1) ∧ x.cell? ⟨(w1.heap.size + 1), 1, none⟩ = some (.int .i64 n') ∧ x.cell? ⟨(w1.heap.size + 1), 2, none⟩ = some (.string ⟨#[]⟩) ∧ (w1.heap.size + 1) < x.heap.size) ∧ (x.cell? ⟨wp.heap.size, 0, none⟩ = some (.int .i64 (mK (n + n'))) ∧ x.cell? ⟨wp.heap.size, 1, none⟩ = some (.int .i64 (mN (n + n'))) ∧ x.cell? ⟨wp.heap.size, 2, none⟩ = some (.string ⟨#[]⟩) ∧ wp.heap.size < x.heap.size) ∧ (x.cell? ⟨ws.heap.size, 0, none⟩ = some (.int .i64 (mK (n + n'))) ∧ x.cell? ⟨ws.heap.size, 1, none⟩ = some (.int .i64 (mN (n + n'))) ∧ x.cell? ⟨ws.heap.size, 2, none⟩ = some (.string ⟨#[]⟩) ∧ ws.heap.size < x.heap.size) ∧ Keeps [(ws.heap.size, .int .i64 (mK (n + n')), .int .i64 (mN (n + n')), .string ⟨#[]⟩), (wv.heap.size, .int .i64 kv, .int .i64 nv, .string sv), (wb.heap.size, .int .i64 1, .int .i64 (bitN (decide (n < n'))), .string ⟨#[]⟩), (wt.heap.size, .int .i64 (mK (wrap64 (n * n'))), .int .i64 (mN (wrap64 (n * n'))), .string ⟨#[]⟩), (wl.heap.size, .int .i64 (mK (n - n')), .int .i64 (mN (n - n')), .string ⟨#[]⟩), (wp.heap.size, .int .i64 (mK (n + n')), .int .i64 (mN (n + n')), .string ⟨#[]⟩), (w1.heap.size + 1, .int .i64 1, .int .i64 n', .string ⟨#[]⟩), (w1.heap.size, .int .i64 1, .int .i64 n, .string ⟨#[]⟩)] x)
      ((show Qd w1 (.int .i64 1) (.int .i64 n) (.string ⟨#[]⟩) (.int .i64 1) (.int .i64 n') (.string ⟨#[]⟩) wp.heap.size (.int .i64 (mK (n + n'))) (.int .i64 (mN (n + n'))) (.string ⟨#[]⟩) ws.heap.size (.int .i64 (mK (n + n'))) (.int .i64 (mN (n + n'))) (.string ⟨#[]⟩) [(ws.heap.size, .int .i64 (mK (n + n')), .int .i64 (mN (n + n')), .string ⟨#[]⟩), (wv.heap.size, .int .i64 kv, .int .i64 nv, .string sv), (wb.heap.size, .int .i64 1, .int .i64 (bitN (decide (n < n'))), .string ⟨#[]⟩), (wt.heap.size, .int .i64 (mK (wrap64 (n * n'))), .int .i64 (mN (wrap64 (n * n'))), .string ⟨#[]⟩), (wl.heap.size, .int .i64 (mK (n - n')), .int .i64 (mN (n - n')), .string ⟨#[]⟩), (wp.heap.size, .int .i64 (mK (n + n')), .int .i64 (mN (n + n')), .string ⟨#[]⟩), (w1.heap.size + 1, .int .i64 1, .int .i64 n', .string ⟨#[]⟩), (w1.heap.size, .int .i64 1, .int .i64 n, .string ⟨#[]⟩)] _; first | (with_reducible exact hT3) | (with_reducible exact hT.drew)))
      (first
        | (go_at_call 20; refine (valueOk_any 1 n ⟨#[]⟩ _ (by decide)).mono ?_; rintro e w3 ⟨rfl, hb3⟩; (first | (with_reducible have hT3 := Qd.call hT3 hb3) | (with_reducible have hT3 := Qd.call hT.drew hb3)); (first | (with_reducible have hB3 := bstep hB3 hb3) | (with_reducible have hB3 := bstep hTB.drew hb3)))
        | (go_at_call 21; refine (specOk_any 1 n ⟨#[]⟩ _ (by decide)).mono ?_; rintro e w3 ⟨rfl, hb3⟩; (first | (with_reducible have hT3 := Qd.call hT3 hb3) | (with_reducible have hT3 := Qd.call hT.drew hb3)); (first | (with_reducible have hB3 := bstep hB3 hb3) | (with_reducible have hB3 := bstep hTB.drew hb3)))
        | (go_at_call 22; refine (sameI_any 1 n 1 n' ⟨#[]⟩ ⟨#[]⟩ _).mono ?_; rintro e w3 ⟨rfl, hb3⟩; (first | (with_reducible have hT3 := Qd.call hT3 hb3) | (with_reducible have hT3 := Qd.call hT.drew hb3)); (first | (with_reducible have hB3 := bstep hB3 hb3) | (with_reducible have hB3 := bstep hTB.drew hb3)))
        | (go_at_call 23; refine (sameS_any 1 n 1 n' ⟨#[]⟩ ⟨#[]⟩ _).mono ?_; rintro e w3 ⟨rfl, hb3⟩; (first | (with_reducible have hT3 := Qd.call hT3 hb3) | (with_reducible have hT3 := Qd.call hT.drew hb3)); (first | (with_reducible have hB3 := bstep hB3 hb3) | (with_reducible have hB3 := bstep hTB.drew hb3))))
    have hK := hT3.2.2.2.2
    have hB := hB3
    clear hT hTB
    obtain ⟨a0, a1, a2, az⟩ := hK.get (.tail _ (.tail _ (.tail _ (.tail _ (.tail _ (.tail _ (.tail _ (.head _))))))))
    obtain ⟨b0, b1, b2, bz⟩ := hK.get (.tail _ (.tail _ (.tail _ (.tail _ (.tail _ (.tail _ (.head _)))))))
    go_wp2_with fail
    refine (lessS_yes n n' _ a1' a2' b1' b2').mono ?_
    rintro e ws2 ⟨rfl, hb⟩
    replace hK := hK.call hb
    replace hB := bstep hB hb
    clear hb
    clear a0 a1 a2 az
    obtain ⟨a0, a1, a2, az⟩ := hK.get (.tail _ (.tail _ (.tail _ (.tail _ (.tail _ (.tail _ (.tail _ (.head _))))))))
    clear b0 b1 b2 bz
    obtain ⟨b0, b1, b2, bz⟩ := hK.get (.tail _ (.tail _ (.tail _ (.tail _ (.tail _ (.tail _ (.head _)))))))
    obtain ⟨l0, l1, l2, lz⟩ := hK.get (.tail _ (.tail _ (.tail _ (.tail _ (.head _)))))
    replace hK := hK.push (.int .i64 (mK (n - n'))) (.int .i64 (mN (n - n'))) (.string ⟨#[]⟩) 25
    replace hB := balloc hB (.cells #[.int .i64 (mK (n - n')), .int .i64 (mN (n - n')), .string ⟨#[]⟩] 25)
    go_wp2_with fail
    refine (timesS_yes n n' _ a1' a2' b1' b2').mono ?_
    rintro e ws3 ⟨rfl, hb⟩
    replace hK := hK.call hb
    replace hB := bstep hB hb
    clear hb
    clear a0 a1 a2 az
    obtain ⟨a0, a1, a2, az⟩ := hK.get (.tail _ (.tail _ (.tail _ (.tail _ (.tail _ (.tail _ (.tail _ (.tail _ (.head _)))))))))
    clear b0 b1 b2 bz
    obtain ⟨b0, b1, b2, bz⟩ := hK.get (.tail _ (.tail _ (.tail _ (.tail _ (.tail _ (.tail _ (.tail _ (.head _))))))))
    obtain ⟨t0, t1, t2, tz⟩ := hK.get (.tail _ (.tail _ (.tail _ (.tail _ (.head _)))))
    replace hK := hK.push (.int .i64 (mK (wrap64 (n * n')))) (.int .i64 (mN (wrap64 (n * n')))) (.string ⟨#[]⟩) 25
    replace hB := balloc hB (.cells #[.int .i64 (mK (wrap64 (n * n'))), .int .i64 (mN (wrap64 (n * n'))), .string ⟨#[]⟩] 25)
    go_wp2_with fail
    refine (belowS_yes n n' _ a1' a2' b1' b2').mono ?_
    rintro e ws4 ⟨rfl, hb⟩
    replace hK := hK.call hb
    replace hB := bstep hB hb
    clear hb
    clear a0 a1 a2 az
    obtain ⟨a0, a1, a2, az⟩ := hK.get (.tail _ (.tail _ (.tail _ (.tail _ (.tail _ (.tail _ (.tail _ (.tail _ (.tail _ (.head _))))))))))
    clear b0 b1 b2 bz
    obtain ⟨b0, b1, b2, bz⟩ := hK.get (.tail _ (.tail _ (.tail _ (.tail _ (.tail _ (.tail _ (.tail _ (.tail _ (.head _)))))))))
    obtain ⟨x0, x1, x2, xz⟩ := hK.get (.tail _ (.tail _ (.tail _ (.tail _ (.head _)))))
    replace hK := hK.push (.int .i64 1) (.int .i64 (bitN (decide (n < n')))) (.string ⟨#[]⟩) 25
    replace hB := balloc hB (.cells #[.int .i64 1, .int .i64 (bitN (decide (n < n'))), .string ⟨#[]⟩] 25)
    obtain ⟨v0, v1, v2, vz⟩ := hK.get (.tail _ (.tail _ (.tail _ (.tail _ (.head _)))))
    go_wp2_with fail
    refine (truthS_any kv nv sv _ hsv').mono ?_
    rintro e wu2 ⟨rfl, hb⟩
    replace hK := hK.call hb
    replace hB := bstep hB hb
    clear hb
    obtain ⟨p0, p1, p2, pz⟩ := hK.get (.tail _ (.tail _ (.tail _ (.tail _ (.tail _ (.tail _ (.tail _ (.tail _ (.head _)))))))))
    clear a0 a1 a2 az
    obtain ⟨a0, a1, a2, az⟩ := hK.get (.tail _ (.tail _ (.tail _ (.tail _ (.tail _ (.tail _ (.tail _ (.tail _ (.tail _ (.tail _ (.head _)))))))))))
    clear b0 b1 b2 bz
    obtain ⟨b0, b1, b2, bz⟩ := hK.get (.tail _ (.tail _ (.tail _ (.tail _ (.tail _ (.tail _ (.tail _ (.tail _ (.tail _ (.head _))))))))))
    have htt : Hid ((isN kv nv sv && (nv != 0)) = true → pick (isN kv nv sv) 0 1 = 0) := truth_fault kv nv sv
    generalize (isN kv nv sv && (nv != 0)) = tb at htt ⊢
    generalize pick (isN kv nv sv) 0 1 = tf at htt ⊢
    clear l0 l1 l2 lz
    clear t0 t1 t2 tz
    clear x0 x1 x2 xz
    clear v0 v1 v2 vz
    have htt' : tb = true → tf = 0 := htt.out
    clear htt
    cases hs2 : numB (n + n')
    · obtain ⟨m1, m2, m3⟩ := made_no hs2
      rw [m1] at p0
      rw [m2] at p1
      rw [m1, m2, m3]
      clear m1 m2 m3 hs2
      rcases Bool.eq_false_or_eq_true tb with rfl | rfl
      · obtain rfl := htt' rfl
        clear htt'
        clear p0 p1 p2 pz
        go_wp2_with fail
        refine (belowI_yes n' n _ b1' b2' a1' a2').mono ?_
        rintro e wm ⟨rfl, hb⟩
        replace hK := hK.call hb
        replace hB := bstep hB hb
        clear hb
        clear a0 a1 a2 az
        obtain ⟨a0, a1, a2, az⟩ := hK.get (.tail _ (.tail _ (.tail _ (.tail _ (.tail _ (.tail _ (.tail _ (.tail _ (.tail _ (.tail _ (.head _)))))))))))
        clear b0 b1 b2 bz
        obtain ⟨b0, b1, b2, bz⟩ := hK.get (.tail _ (.tail _ (.tail _ (.tail _ (.tail _ (.tail _ (.tail _ (.tail _ (.tail _ (.head _))))))))))
        replace hK := hK.push (.int .i64 1) (.int .i64 (bitN (decide (n' < n)))) (.string ⟨#[]⟩) 25
        replace hB := balloc hB (.cells #[.int .i64 1, .int .i64 (bitN (decide (n' < n))), .string ⟨#[]⟩] 25)
        go_wp2_with fail
        refine (sameI_any 1 n 1 n' ⟨#[]⟩ ⟨#[]⟩ _).mono ?_
        rintro e wn ⟨rfl, hb⟩
        replace hK := hK.call hb
        replace hB := bstep hB hb
        clear hb
        clear a0 a1 a2 az
        obtain ⟨a0, a1, a2, az⟩ := hK.get (.tail _ (.tail _ (.tail _ (.tail _ (.tail _ (.tail _ (.tail _ (.tail _ (.tail _ (.tail _ (.tail _ (.head _))))))))))))
        clear b0 b1 b2 bz
        obtain ⟨b0, b1, b2, bz⟩ := hK.get (.tail _ (.tail _ (.tail _ (.tail _ (.tail _ (.tail _ (.tail _ (.tail _ (.tail _ (.tail _ (.head _)))))))))))
        obtain ⟨x0, x1, x2, xz⟩ := hK.get (.tail _ (.tail _ (.tail _ (.tail _ (.tail _ (.tail _ (.head _)))))))
        obtain ⟨m0, m1, m2, mz⟩ := hK.get (.head _)
        replace hK := hK.push (.int .i64 1) (.int .i64 (bitN (sameB 1 n ⟨#[]⟩ 1 n' ⟨#[]⟩))) (.string ⟨#[]⟩) 25
        replace hB := balloc hB (.cells #[.int .i64 1, .int .i64 (bitN (sameB 1 n ⟨#[]⟩ 1 n' ⟨#[]⟩)), .string ⟨#[]⟩] 25)
        obtain hlt | rfl | hgt : n < n' ∨ n = n' ∨ n' < n := by omega
        · rw [bits_lt hlt] at x1
          rw [bits_ge hlt] at m1
          rw [same_no (by omega)] at hB ⊢
          have hne : ¬ n = n' := by omega
          have hne' : (n == n') = false := by simpa using hne
          go_wp2_with fail
          go_quiet (fail)
          go_wp2
          go_ret
          exact ⟨rfl, bdrewN hB _⟩
        · rw [bits_eq n] at x1
          rw [bits_eq n] at m1
          rw [same_yes n] at hB ⊢
          go_wp2_with fail
          go_quiet (fail)
          go_wp2
          go_ret
          exact ⟨rfl, bdrewN hB _⟩
        · rw [bits_ge hgt] at x1
          rw [bits_lt hgt] at m1
          rw [same_no (by omega)] at hB ⊢
          have hne : ¬ n = n' := by omega
          have hne' : (n == n') = false := by simpa using hne
          go_wp2_with fail
          go_quiet (fail)
          go_wp2
          go_ret
          exact ⟨rfl, bdrewN hB _⟩
      · clear htt'
        clear p0 p1 p2 pz
        go_wp2_with fail
        refine (belowI_yes n' n _ b1' b2' a1' a2').mono ?_
        rintro e wm ⟨rfl, hb⟩
        replace hK := hK.call hb
        replace hB := bstep hB hb
        clear hb
        clear a0 a1 a2 az
        obtain ⟨a0, a1, a2, az⟩ := hK.get (.tail _ (.tail _ (.tail _ (.tail _ (.tail _ (.tail _ (.tail _ (.tail _ (.tail _ (.tail _ (.head _)))))))))))
        clear b0 b1 b2 bz
        obtain ⟨b0, b1, b2, bz⟩ := hK.get (.tail _ (.tail _ (.tail _ (.tail _ (.tail _ (.tail _ (.tail _ (.tail _ (.tail _ (.head _))))))))))
        replace hK := hK.push (.int .i64 1) (.int .i64 (bitN (decide (n' < n)))) (.string ⟨#[]⟩) 25
        replace hB := balloc hB (.cells #[.int .i64 1, .int .i64 (bitN (decide (n' < n))), .string ⟨#[]⟩] 25)
        go_wp2_with fail
        refine (sameI_any 1 n 1 n' ⟨#[]⟩ ⟨#[]⟩ _).mono ?_
        rintro e wn ⟨rfl, hb⟩
        replace hK := hK.call hb
        replace hB := bstep hB hb
        clear hb
        clear a0 a1 a2 az
        obtain ⟨a0, a1, a2, az⟩ := hK.get (.tail _ (.tail _ (.tail _ (.tail _ (.tail _ (.tail _ (.tail _ (.tail _ (.tail _ (.tail _ (.tail _ (.head _))))))))))))
        clear b0 b1 b2 bz
        obtain ⟨b0, b1, b2, bz⟩ := hK.get (.tail _ (.tail _ (.tail _ (.tail _ (.tail _ (.tail _ (.tail _ (.tail _ (.tail _ (.tail _ (.head _)))))))))))
        obtain ⟨x0, x1, x2, xz⟩ := hK.get (.tail _ (.tail _ (.tail _ (.tail _ (.tail _ (.tail _ (.head _)))))))
        obtain ⟨m0, m1, m2, mz⟩ := hK.get (.head _)
        replace hK := hK.push (.int .i64 1) (.int .i64 (bitN (sameB 1 n ⟨#[]⟩ 1 n' ⟨#[]⟩))) (.string ⟨#[]⟩) 25
        replace hB := balloc hB (.cells #[.int .i64 1, .int .i64 (bitN (sameB 1 n ⟨#[]⟩ 1 n' ⟨#[]⟩)), .string ⟨#[]⟩] 25)
        obtain hlt | rfl | hgt : n < n' ∨ n = n' ∨ n' < n := by omega
        · rw [bits_lt hlt] at x1
          rw [bits_ge hlt] at m1
          rw [same_no (by omega)] at hB ⊢
          have hne : ¬ n = n' := by omega
          have hne' : (n == n') = false := by simpa using hne
          go_wp2_with fail
          go_quiet (fail)
          go_wp2
          go_ret
          exact ⟨rfl, bdrewN hB _⟩
        · rw [bits_eq n] at x1
          rw [bits_eq n] at m1
          rw [same_yes n] at hB ⊢
          go_wp2_with fail
          go_quiet (fail)
          go_wp2
          go_ret
          exact ⟨rfl, bdrewN hB _⟩
        · rw [bits_ge hgt] at x1
          rw [bits_lt hgt] at m1
          rw [same_no (by omega)] at hB ⊢
          have hne : ¬ n = n' := by omega
          have hne' : (n == n') = false := by simpa using hne
          go_wp2_with fail
          go_quiet (fail)
          go_wp2
          go_ret
          exact ⟨rfl, bdrewN hB _⟩
    · obtain ⟨m1, m2, m3⟩ := made_yes hs2
      rw [m1] at p0
      rw [m2] at p1
      rw [m1, m2, m3]
      obtain ⟨s1', s2'⟩ : -999999999 ≤ n + n' ∧ n + n' ≤ 999999999 := by simpa [numB] using hs2
      clear m1 m2 m3 hs2
      rcases Bool.eq_false_or_eq_true tb with rfl | rfl
      · obtain rfl := htt' rfl
        clear htt'
        go_wp2_with fail
        refine (lessI_yes (n + n') n' _ s1' s2' b1' b2').mono ?_
        rintro e wq ⟨rfl, hb⟩
        replace hK := hK.call hb
        replace hB := bstep hB hb
        clear hb
        clear a0 a1 a2 az
        obtain ⟨a0, a1, a2, az⟩ := hK.get (.tail _ (.tail _ (.tail _ (.tail _ (.tail _ (.tail _ (.tail _ (.tail _ (.tail _ (.tail _ (.head _)))))))))))
        clear b0 b1 b2 bz
        obtain ⟨b0, b1, b2, bz⟩ := hK.get (.tail _ (.tail _ (.tail _ (.tail _ (.tail _ (.tail _ (.tail _ (.tail _ (.tail _ (.head _))))))))))
        clear p0 p1 p2 pz
        rw [show n + n' - n' = n from by omega, (made_yes (numB_of a1' a2')).1, (made_yes (numB_of a1' a2')).2.1, (made_yes (numB_of a1' a2')).2.2]
        replace hK := hK.push (.int .i64 1) (.int .i64 n) (.string ⟨#[]⟩) 25
        replace hB := balloc hB (.cells #[.int .i64 1, .int .i64 n, .string ⟨#[]⟩] 25)
        go_wp2_with fail
        refine (belowI_yes n' n _ b1' b2' a1' a2').mono ?_
        rintro e wm ⟨rfl, hb⟩
        replace hK := hK.call hb
        replace hB := bstep hB hb
        clear hb
        clear a0 a1 a2 az
        obtain ⟨a0, a1, a2, az⟩ := hK.get (.tail _ (.tail _ (.tail _ (.tail _ (.tail _ (.tail _ (.tail _ (.tail _ (.tail _ (.tail _ (.tail _ (.head _))))))))))))
        clear b0 b1 b2 bz
        obtain ⟨b0, b1, b2, bz⟩ := hK.get (.tail _ (.tail _ (.tail _ (.tail _ (.tail _ (.tail _ (.tail _ (.tail _ (.tail _ (.tail _ (.head _)))))))))))
        replace hK := hK.push (.int .i64 1) (.int .i64 (bitN (decide (n' < n)))) (.string ⟨#[]⟩) 25
        replace hB := balloc hB (.cells #[.int .i64 1, .int .i64 (bitN (decide (n' < n))), .string ⟨#[]⟩] 25)
        go_wp2_with fail
        refine (sameI_any 1 n 1 n' ⟨#[]⟩ ⟨#[]⟩ _).mono ?_
        rintro e wn ⟨rfl, hb⟩
        replace hK := hK.call hb
        replace hB := bstep hB hb
        clear hb
        clear a0 a1 a2 az
        obtain ⟨a0, a1, a2, az⟩ := hK.get (.tail _ (.tail _ (.tail _ (.tail _ (.tail _ (.tail _ (.tail _ (.tail _ (.tail _ (.tail _ (.tail _ (.tail _ (.head _)))))))))))))
        clear b0 b1 b2 bz
        obtain ⟨b0, b1, b2, bz⟩ := hK.get (.tail _ (.tail _ (.tail _ (.tail _ (.tail _ (.tail _ (.tail _ (.tail _ (.tail _ (.tail _ (.tail _ (.head _))))))))))))
        obtain ⟨x0, x1, x2, xz⟩ := hK.get (.tail _ (.tail _ (.tail _ (.tail _ (.tail _ (.tail _ (.tail _ (.head _))))))))
        obtain ⟨m0, m1, m2, mz⟩ := hK.get (.head _)
        replace hK := hK.push (.int .i64 1) (.int .i64 (bitN (sameB 1 n ⟨#[]⟩ 1 n' ⟨#[]⟩))) (.string ⟨#[]⟩) 25
        replace hB := balloc hB (.cells #[.int .i64 1, .int .i64 (bitN (sameB 1 n ⟨#[]⟩ 1 n' ⟨#[]⟩)), .string ⟨#[]⟩] 25)
        obtain hlt | rfl | hgt : n < n' ∨ n = n' ∨ n' < n := by omega
        · rw [bits_lt hlt] at x1
          rw [bits_ge hlt] at m1
          rw [same_no (by omega)] at hB ⊢
          have hne : ¬ n = n' := by omega
          have hne' : (n == n') = false := by simpa using hne
          go_wp2_with fail
          go_quiet (fail)
          go_wp2
          go_ret
          exact ⟨rfl, bdrewN hB _⟩
        · rw [bits_eq n] at x1
          rw [bits_eq n] at m1
          rw [same_yes n] at hB ⊢
          go_wp2_with fail
          go_quiet (fail)
          go_wp2
          go_ret
          exact ⟨rfl, bdrewN hB _⟩
        · rw [bits_ge hgt] at x1
          rw [bits_lt hgt] at m1
          rw [same_no (by omega)] at hB ⊢
          have hne : ¬ n = n' := by omega
          have hne' : (n == n') = false := by simpa using hne
          go_wp2_with fail
          go_quiet (fail)
          go_wp2
          go_ret
          exact ⟨rfl, bdrewN hB _⟩
      · clear htt'
        go_wp2_with fail
        refine (lessI_yes (n + n') n' _ s1' s2' b1' b2').mono ?_
        rintro e wq ⟨rfl, hb⟩
        replace hK := hK.call hb
        replace hB := bstep hB hb
        clear hb
        clear a0 a1 a2 az
        obtain ⟨a0, a1, a2, az⟩ := hK.get (.tail _ (.tail _ (.tail _ (.tail _ (.tail _ (.tail _ (.tail _ (.tail _ (.tail _ (.tail _ (.head _)))))))))))
        clear b0 b1 b2 bz
        obtain ⟨b0, b1, b2, bz⟩ := hK.get (.tail _ (.tail _ (.tail _ (.tail _ (.tail _ (.tail _ (.tail _ (.tail _ (.tail _ (.head _))))))))))
        clear p0 p1 p2 pz
        rw [show n + n' - n' = n from by omega, (made_yes (numB_of a1' a2')).1, (made_yes (numB_of a1' a2')).2.1, (made_yes (numB_of a1' a2')).2.2]
        replace hK := hK.push (.int .i64 1) (.int .i64 n) (.string ⟨#[]⟩) 25
        replace hB := balloc hB (.cells #[.int .i64 1, .int .i64 n, .string ⟨#[]⟩] 25)
        go_wp2_with fail
        refine (belowI_yes n' n _ b1' b2' a1' a2').mono ?_
        rintro e wm ⟨rfl, hb⟩
        replace hK := hK.call hb
        replace hB := bstep hB hb
        clear hb
        clear a0 a1 a2 az
        obtain ⟨a0, a1, a2, az⟩ := hK.get (.tail _ (.tail _ (.tail _ (.tail _ (.tail _ (.tail _ (.tail _ (.tail _ (.tail _ (.tail _ (.tail _ (.head _))))))))))))
        clear b0 b1 b2 bz
        obtain ⟨b0, b1, b2, bz⟩ := hK.get (.tail _ (.tail _ (.tail _ (.tail _ (.tail _ (.tail _ (.tail _ (.tail _ (.tail _ (.tail _ (.head _)))))))))))
        replace hK := hK.push (.int .i64 1) (.int .i64 (bitN (decide (n' < n)))) (.string ⟨#[]⟩) 25
        replace hB := balloc hB (.cells #[.int .i64 1, .int .i64 (bitN (decide (n' < n))), .string ⟨#[]⟩] 25)
        go_wp2_with fail
        refine (sameI_any 1 n 1 n' ⟨#[]⟩ ⟨#[]⟩ _).mono ?_
        rintro e wn ⟨rfl, hb⟩
        replace hK := hK.call hb
        replace hB := bstep hB hb
        clear hb
        clear a0 a1 a2 az
        obtain ⟨a0, a1, a2, az⟩ := hK.get (.tail _ (.tail _ (.tail _ (.tail _ (.tail _ (.tail _ (.tail _ (.tail _ (.tail _ (.tail _ (.tail _ (.tail _ (.head _)))))))))))))
        clear b0 b1 b2 bz
        obtain ⟨b0, b1, b2, bz⟩ := hK.get (.tail _ (.tail _ (.tail _ (.tail _ (.tail _ (.tail _ (.tail _ (.tail _ (.tail _ (.tail _ (.tail _ (.head _))))))))))))
        obtain ⟨x0, x1, x2, xz⟩ := hK.get (.tail _ (.tail _ (.tail _ (.tail _ (.tail _ (.tail _ (.tail _ (.head _))))))))
        obtain ⟨m0, m1, m2, mz⟩ := hK.get (.head _)
        replace hK := hK.push (.int .i64 1) (.int .i64 (bitN (sameB 1 n ⟨#[]⟩ 1 n' ⟨#[]⟩))) (.string ⟨#[]⟩) 25
        replace hB := balloc hB (.cells #[.int .i64 1, .int .i64 (bitN (sameB 1 n ⟨#[]⟩ 1 n' ⟨#[]⟩)), .string ⟨#[]⟩] 25)
        obtain hlt | rfl | hgt : n < n' ∨ n = n' ∨ n' < n := by omega
        · rw [bits_lt hlt] at x1
          rw [bits_ge hlt] at m1
          rw [same_no (by omega)] at hB ⊢
          have hne : ¬ n = n' := by omega
          have hne' : (n == n') = false := by simpa using hne
          go_wp2_with fail
          go_quiet (fail)
          go_wp2
          go_ret
          exact ⟨rfl, bdrewN hB _⟩
        · rw [bits_eq n] at x1
          rw [bits_eq n] at m1
          rw [same_yes n] at hB ⊢
          go_wp2_with fail
          go_quiet (fail)
          go_wp2
          go_ret
          exact ⟨rfl, bdrewN hB _⟩
        · rw [bits_ge hgt] at x1
          rw [bits_lt hgt] at m1
          rw [same_no (by omega)] at hB ⊢
          have hne : ¬ n = n' := by omega
          have hne' : (n == n') = false := by simpa using hne
          go_wp2_with fail
          go_quiet (fail)
          go_wp2
          go_ret
          exact ⟨rfl, bdrewN hB _⟩

end Go.Proofs.Ytofcbmccfeaddaa
