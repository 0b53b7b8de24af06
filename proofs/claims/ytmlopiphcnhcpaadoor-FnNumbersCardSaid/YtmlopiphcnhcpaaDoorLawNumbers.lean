/-
  The law of numbers, walked: whatever bytes it draws from, it answers true, and turns nothing that was there.
-/
import Derived.Test.YtmlopiphcnhcpaaDoorNumer2
import Derived.Test.YtmlopiphcnhcpaaDoorKeeps
import Derived.Test.YtmlopiphcnhcpaaDoorDrawS
namespace Go.Proofs.YtmlopiphcnhcpaaDoor
open Go.RowKit

theorem keepsNil (w : World) : Keeps [] w := fun t ht => by cases ht

theorem viT_size (s : ByteArray) (h : s.size ≤ 10) : (viT s).size ≤ maxLen := by
  unfold viT maxLen
  split
  · decide
  · split
    · simp; omega
    · decide

set_option maxRecDepth 100000 in
set_option maxHeartbeats 40000000 in
theorem lawNumbers (a : Option Addr) (len cap : Nat) (w : World) (hcode : Code w.heap.size a len w) (_hml : len ≤ maxLen) (ht : Tab w) :
    Calls Tryd.prog 3 #[.slice a len cap] w fun e w' => e = .returned (.bool true) ∧ Below w.heap.size w w' := by
  by_cases hbig : (4096 : Int) < len
  · go_enter Tryd.func3, Tryd.ntmps3
    go_wp2_with fail
    refine (big_any a len cap _).mono ?_
    rintro e w1 ⟨rfl, rfl⟩
    rw [decide_eq_true hbig]
    go_wp2
    go_ret
    exact ⟨rfl, Below.refl _ _⟩
  have hlen : len ≤ 4096 := by omega
  go_enter Tryd.func3, Tryd.ntmps3
  go_wp2_with fail
  refine (big_any a len cap _).mono ?_
  rintro e w0 ⟨rfl, hw0⟩
  rw [hw0]
  clear hw0
  rw [decide_eq_false (by omega)]
  go_wp2_with fail
  refine (DrawReadNumber_any a len cap _ hcode hlen).mono ?_
  rintro e w1 ⟨s, rfl, hs10, hB⟩
  have hss : s.size ≤ maxLen := by unfold maxLen; omega
  have hvt := viT_size s hs10
  have hK := keepsNil w1
  go_wp2_with fail
  refine (readNumberI_any s _ hss).mono ?_
  rintro e w2 ⟨rfl, hb⟩
  replace hB := bstep hB hb
  replace hK := hK.call hb
  clear hb
  cases hn : numerB s
  all_goals
    go_wp2_with fail
    refine (DrawSignOf_any a len cap _ (hcode.up hB.size hB) hlen).mono ?_
    rintro e w3 ⟨v, rfl, ⟨k, n, t, rfl, ht61⟩, hb⟩
    replace hB := bstep hB hb
    replace hK := hK.call hb
    clear hb
    have hts : t.size ≤ maxLen := by unfold maxLen; omega
    have hgs : (sgn k n t).size ≤ maxLen := by have := sgn_size k n t ht61; unfold maxLen; omega
    clear ht61
  · cases hv : viB s
    · cases ho : okV k n t
      · skip
        have HN : Hid (numerB s = false) := hn
        have HV : Hid (viB s = false) := hv
        have HF : Hid (sgn k n t = ⟨#[]⟩) := sgn_none (Or.inl ho)
        have HO : Hid (okV k n t = false) := ho
        clear ho
        clear hn hv
        replace hB := balloc hB (.cells #[(.int .i64 k), (.int .i64 n), (.string t)] 28)
        replace hK := hK.push (.int .i64 k) (.int .i64 n) (.string t) 28
        go_wp2_with fail
        refine (signOfI_any k n t _ hts (tab_call ht hB)).mono ?_
        rintro e w4 ⟨rfl, hb⟩
        replace hB := bstep hB hb
        replace hK := hK.call hb
        clear hb
        rw [HF.out]
        obtain ⟨g0, g1, g2, gz⟩ := hK.get (B := w3.heap.size) (v0 := (.int .i64 k)) (v1 := (.int .i64 n)) (v2 := (.string t)) (by simp)
        go_wp2_with fail
        refine (valueInI_any s _ hss (tab_call ht hB)).mono ?_
        rintro e w5 ⟨rfl, hb⟩
        replace hB := bstep hB hb
        replace hK := hK.call hb
        clear hb
        rw [HV.out]
        replace hB := balloc hB (.cells #[(.int .i64 (viK s)), (.int .i64 (viN s)), (.string (viT s))] 28)
        replace hK := hK.push (.int .i64 (viK s)) (.int .i64 (viN s)) (.string (viT s)) 28
        go_wp2_with fail
        refine (readNumberS_any s _ hss).mono ?_
        rintro e w6 ⟨rfl, rfl⟩
        rw [HN.out]
        obtain ⟨g0, g1, g2, gz⟩ := hK.get (B := w3.heap.size) (v0 := (.int .i64 k)) (v1 := (.int .i64 n)) (v2 := (.string t)) (by simp)
        go_wp2_with fail
        refine (signOfS_any k n t _ hts).mono ?_
        rintro e w7 ⟨rfl, hb⟩
        replace hB := bstep hB hb
        replace hK := hK.call hb
        clear hb
        rw [HF.out]
        skip
        go_wp2_with fail
        refine (nameOkI_any s _ hss).mono ?_
        rintro e w8 ⟨rfl, rfl⟩
        go_wp2_with fail
        refine (nameOkS_any s _ hss).mono ?_
        rintro e w8 ⟨rfl, rfl⟩
        go_wp2_with fail
        refine (signOkI_any s _ hss).mono ?_
        rintro e w8 ⟨rfl, rfl⟩
        go_wp2_with fail
        refine (signOkS_any s _ hss).mono ?_
        rintro e w9 ⟨rfl, hb⟩
        replace hB := bstep hB hb
        replace hK := hK.call hb
        clear hb
        go_wp2_with fail
        refine (valueInS_any s _ hss).mono ?_
        rintro e w10 ⟨rfl, hb⟩
        replace hB := bstep hB hb
        replace hK := hK.call hb
        clear hb
        rw [HV.out]
        obtain ⟨q0, q1, q2, qz⟩ := hK.get (B := w5.heap.size) (v0 := (.int .i64 (viK s))) (v1 := (.int .i64 (viN s))) (v2 := (.string (viT s))) (by simp)
        replace hB := balloc hB (.cells #[(.int .i64 (viK s)), (.int .i64 (viN s)), (.string (viT s))] 28)
        replace hK := hK.push (.int .i64 (viK s)) (.int .i64 (viN s)) (.string (viT s)) 28
        obtain ⟨g0, g1, g2, gz⟩ := hK.get (B := w3.heap.size) (v0 := (.int .i64 k)) (v1 := (.int .i64 n)) (v2 := (.string t)) (by simp)
        go_wp2_with fail
        refine (valueOk_any k n t _ hts).mono ?_
        rintro e w13 ⟨rfl, hb⟩
        replace hB := bstep hB hb
        replace hK := hK.call hb
        clear hb
        rw [HO.out]
        obtain ⟨g0, g1, g2, gz⟩ := hK.get (B := w3.heap.size) (v0 := (.int .i64 k)) (v1 := (.int .i64 n)) (v2 := (.string t)) (by simp)
        go_wp2
        go_ret
        exact ⟨rfl, hB⟩
      · by_cases hk : k < 3
        · skip
          have HN : Hid (numerB s = false) := hn
          have HV : Hid (viB s = false) := hv
          have HF : Hid (viK (sgn k n t) = k ∧ viN (sgn k n t) = n ∧ viT (sgn k n t) = t ∧ viB (sgn k n t) = true ∧ sgn k n t ≠ ⟨#[]⟩) := vi_sgn ho hk
          have hem : (sgn k n t).toList.isEmpty = false := by rw [← decide_eq_emptyBytes]; exact decide_eq_false fun h => HF.out.2.2.2.2 h
          clear ho hk
          clear hn hv
          replace hB := balloc hB (.cells #[(.int .i64 k), (.int .i64 n), (.string t)] 28)
          replace hK := hK.push (.int .i64 k) (.int .i64 n) (.string t) 28
          go_wp2_with fail
          refine (signOfI_any k n t _ hts (tab_call ht hB)).mono ?_
          rintro e w4 ⟨rfl, hb⟩
          replace hB := bstep hB hb
          replace hK := hK.call hb
          clear hb
          obtain ⟨g0, g1, g2, gz⟩ := hK.get (B := w3.heap.size) (v0 := (.int .i64 k)) (v1 := (.int .i64 n)) (v2 := (.string t)) (by simp)
          go_wp2_with fail
          refine (valueInI_any s _ hss (tab_call ht hB)).mono ?_
          rintro e w5 ⟨rfl, hb⟩
          replace hB := bstep hB hb
          replace hK := hK.call hb
          clear hb
          rw [HV.out]
          replace hB := balloc hB (.cells #[(.int .i64 (viK s)), (.int .i64 (viN s)), (.string (viT s))] 28)
          replace hK := hK.push (.int .i64 (viK s)) (.int .i64 (viN s)) (.string (viT s)) 28
          go_wp2_with fail
          refine (readNumberS_any s _ hss).mono ?_
          rintro e w6 ⟨rfl, rfl⟩
          rw [HN.out]
          obtain ⟨g0, g1, g2, gz⟩ := hK.get (B := w3.heap.size) (v0 := (.int .i64 k)) (v1 := (.int .i64 n)) (v2 := (.string t)) (by simp)
          go_wp2_with fail
          refine (signOfS_any k n t _ hts).mono ?_
          rintro e w7 ⟨rfl, hb⟩
          replace hB := bstep hB hb
          replace hK := hK.call hb
          clear hb
          skip
          go_wp2_with fail
          refine (nameOkI_any s _ hss).mono ?_
          rintro e w8 ⟨rfl, rfl⟩
          go_wp2_with fail
          refine (nameOkS_any s _ hss).mono ?_
          rintro e w8 ⟨rfl, rfl⟩
          go_wp2_with fail
          refine (signOkI_any s _ hss).mono ?_
          rintro e w8 ⟨rfl, rfl⟩
          go_wp2_with fail
          refine (signOkS_any s _ hss).mono ?_
          rintro e w9 ⟨rfl, hb⟩
          replace hB := bstep hB hb
          replace hK := hK.call hb
          clear hb
          go_wp2_with fail
          refine (valueInS_any s _ hss).mono ?_
          rintro e w10 ⟨rfl, hb⟩
          replace hB := bstep hB hb
          replace hK := hK.call hb
          clear hb
          rw [HV.out]
          obtain ⟨q0, q1, q2, qz⟩ := hK.get (B := w5.heap.size) (v0 := (.int .i64 (viK s))) (v1 := (.int .i64 (viN s))) (v2 := (.string (viT s))) (by simp)
          replace hB := balloc hB (.cells #[(.int .i64 (viK s)), (.int .i64 (viN s)), (.string (viT s))] 28)
          replace hK := hK.push (.int .i64 (viK s)) (.int .i64 (viN s)) (.string (viT s)) 28
          obtain ⟨g0, g1, g2, gz⟩ := hK.get (B := w3.heap.size) (v0 := (.int .i64 k)) (v1 := (.int .i64 n)) (v2 := (.string t)) (by simp)
          go_wp2_with fail
          refine (valueInI_any (sgn k n t) _ hgs (tab_call ht hB)).mono ?_
          rintro e w13 ⟨rfl, hb⟩
          replace hB := bstep hB hb
          replace hK := hK.call hb
          clear hb
          rw [HF.out.1, HF.out.2.1, HF.out.2.2.1, HF.out.2.2.2.1]
          obtain ⟨g0, g1, g2, gz⟩ := hK.get (B := w3.heap.size) (v0 := (.int .i64 k)) (v1 := (.int .i64 n)) (v2 := (.string t)) (by simp)
          replace hB := balloc hB (.cells #[(.int .i64 k), (.int .i64 n), (.string t)] 28)
          replace hK := hK.push (.int .i64 k) (.int .i64 n) (.string t) 28
          go_wp2
          go_ret
          exact ⟨rfl, hB⟩
        · have hk : 3 ≤ k := by omega
          have HN : Hid (numerB s = false) := hn
          have HV : Hid (viB s = false) := hv
          have HF : Hid (sgn k n t = ⟨#[]⟩) := sgn_none (Or.inr hk)
          have HO : Hid (okV k n t = true) := ho
          clear ho
          clear hn hv
          replace hB := balloc hB (.cells #[(.int .i64 k), (.int .i64 n), (.string t)] 28)
          replace hK := hK.push (.int .i64 k) (.int .i64 n) (.string t) 28
          go_wp2_with fail
          refine (signOfI_any k n t _ hts (tab_call ht hB)).mono ?_
          rintro e w4 ⟨rfl, hb⟩
          replace hB := bstep hB hb
          replace hK := hK.call hb
          clear hb
          rw [HF.out]
          obtain ⟨g0, g1, g2, gz⟩ := hK.get (B := w3.heap.size) (v0 := (.int .i64 k)) (v1 := (.int .i64 n)) (v2 := (.string t)) (by simp)
          go_wp2_with fail
          refine (valueInI_any s _ hss (tab_call ht hB)).mono ?_
          rintro e w5 ⟨rfl, hb⟩
          replace hB := bstep hB hb
          replace hK := hK.call hb
          clear hb
          rw [HV.out]
          replace hB := balloc hB (.cells #[(.int .i64 (viK s)), (.int .i64 (viN s)), (.string (viT s))] 28)
          replace hK := hK.push (.int .i64 (viK s)) (.int .i64 (viN s)) (.string (viT s)) 28
          go_wp2_with fail
          refine (readNumberS_any s _ hss).mono ?_
          rintro e w6 ⟨rfl, rfl⟩
          rw [HN.out]
          obtain ⟨g0, g1, g2, gz⟩ := hK.get (B := w3.heap.size) (v0 := (.int .i64 k)) (v1 := (.int .i64 n)) (v2 := (.string t)) (by simp)
          go_wp2_with fail
          refine (signOfS_any k n t _ hts).mono ?_
          rintro e w7 ⟨rfl, hb⟩
          replace hB := bstep hB hb
          replace hK := hK.call hb
          clear hb
          rw [HF.out]
          skip
          go_wp2_with fail
          refine (nameOkI_any s _ hss).mono ?_
          rintro e w8 ⟨rfl, rfl⟩
          go_wp2_with fail
          refine (nameOkS_any s _ hss).mono ?_
          rintro e w8 ⟨rfl, rfl⟩
          go_wp2_with fail
          refine (signOkI_any s _ hss).mono ?_
          rintro e w8 ⟨rfl, rfl⟩
          go_wp2_with fail
          refine (signOkS_any s _ hss).mono ?_
          rintro e w9 ⟨rfl, hb⟩
          replace hB := bstep hB hb
          replace hK := hK.call hb
          clear hb
          go_wp2_with fail
          refine (valueInS_any s _ hss).mono ?_
          rintro e w10 ⟨rfl, hb⟩
          replace hB := bstep hB hb
          replace hK := hK.call hb
          clear hb
          rw [HV.out]
          obtain ⟨q0, q1, q2, qz⟩ := hK.get (B := w5.heap.size) (v0 := (.int .i64 (viK s))) (v1 := (.int .i64 (viN s))) (v2 := (.string (viT s))) (by simp)
          replace hB := balloc hB (.cells #[(.int .i64 (viK s)), (.int .i64 (viN s)), (.string (viT s))] 28)
          replace hK := hK.push (.int .i64 (viK s)) (.int .i64 (viN s)) (.string (viT s)) 28
          obtain ⟨g0, g1, g2, gz⟩ := hK.get (B := w3.heap.size) (v0 := (.int .i64 k)) (v1 := (.int .i64 n)) (v2 := (.string t)) (by simp)
          go_wp2_with fail
          refine (valueOk_any k n t _ hts).mono ?_
          rintro e w13 ⟨rfl, hb⟩
          replace hB := bstep hB hb
          replace hK := hK.call hb
          clear hb
          rw [HO.out]
          obtain ⟨g0, g1, g2, gz⟩ := hK.get (B := w3.heap.size) (v0 := (.int .i64 k)) (v1 := (.int .i64 n)) (v2 := (.string t)) (by simp)
          go_wp2
          go_ret
          exact ⟨rfl, hB⟩
    · cases ho : okV k n t
      · skip
        have HN : Hid (numerB s = false) := hn
        have HV : Hid (viB s = true) := hv
        have HS : Hid (sgn (viK s) (viN s) (viT s) = s ∧ signB s = true) := sgn_vi hv
        have HF : Hid (sgn k n t = ⟨#[]⟩) := sgn_none (Or.inl ho)
        have HO : Hid (okV k n t = false) := ho
        clear ho
        clear hn hv
        replace hB := balloc hB (.cells #[(.int .i64 k), (.int .i64 n), (.string t)] 28)
        replace hK := hK.push (.int .i64 k) (.int .i64 n) (.string t) 28
        go_wp2_with fail
        refine (signOfI_any k n t _ hts (tab_call ht hB)).mono ?_
        rintro e w4 ⟨rfl, hb⟩
        replace hB := bstep hB hb
        replace hK := hK.call hb
        clear hb
        rw [HF.out]
        obtain ⟨g0, g1, g2, gz⟩ := hK.get (B := w3.heap.size) (v0 := (.int .i64 k)) (v1 := (.int .i64 n)) (v2 := (.string t)) (by simp)
        go_wp2_with fail
        refine (valueInI_any s _ hss (tab_call ht hB)).mono ?_
        rintro e w5 ⟨rfl, hb⟩
        replace hB := bstep hB hb
        replace hK := hK.call hb
        clear hb
        rw [HV.out]
        replace hB := balloc hB (.cells #[(.int .i64 (viK s)), (.int .i64 (viN s)), (.string (viT s))] 28)
        replace hK := hK.push (.int .i64 (viK s)) (.int .i64 (viN s)) (.string (viT s)) 28
        go_wp2_with fail
        refine (readNumberS_any s _ hss).mono ?_
        rintro e w6 ⟨rfl, rfl⟩
        rw [HN.out]
        obtain ⟨g0, g1, g2, gz⟩ := hK.get (B := w3.heap.size) (v0 := (.int .i64 k)) (v1 := (.int .i64 n)) (v2 := (.string t)) (by simp)
        go_wp2_with fail
        refine (signOfS_any k n t _ hts).mono ?_
        rintro e w7 ⟨rfl, hb⟩
        replace hB := bstep hB hb
        replace hK := hK.call hb
        clear hb
        rw [HF.out]
        skip
        go_wp2_with fail
        refine (nameOkI_any s _ hss).mono ?_
        rintro e w8 ⟨rfl, rfl⟩
        go_wp2_with fail
        refine (nameOkS_any s _ hss).mono ?_
        rintro e w8 ⟨rfl, rfl⟩
        go_wp2_with fail
        refine (signOkI_any s _ hss).mono ?_
        rintro e w8 ⟨rfl, rfl⟩
        go_wp2_with fail
        refine (signOkS_any s _ hss).mono ?_
        rintro e w9 ⟨rfl, hb⟩
        replace hB := bstep hB hb
        replace hK := hK.call hb
        clear hb
        go_wp2_with fail
        refine (valueInS_any s _ hss).mono ?_
        rintro e w10 ⟨rfl, hb⟩
        replace hB := bstep hB hb
        replace hK := hK.call hb
        clear hb
        rw [HV.out]
        obtain ⟨q0, q1, q2, qz⟩ := hK.get (B := w5.heap.size) (v0 := (.int .i64 (viK s))) (v1 := (.int .i64 (viN s))) (v2 := (.string (viT s))) (by simp)
        replace hB := balloc hB (.cells #[(.int .i64 (viK s)), (.int .i64 (viN s)), (.string (viT s))] 28)
        replace hK := hK.push (.int .i64 (viK s)) (.int .i64 (viN s)) (.string (viT s)) 28
        go_wp2_with fail
        refine (signOfI_any (viK s) (viN s) (viT s) _ hvt (tab_call ht hB)).mono ?_
        rintro e w11 ⟨rfl, hb⟩
        replace hB := bstep hB hb
        replace hK := hK.call hb
        clear hb
        rw [HS.out.1]
        go_wp2_with fail
        refine (signOkI_any s _ hss).mono ?_
        rintro e w12 ⟨rfl, rfl⟩
        rw [HS.out.2]
        obtain ⟨q0, q1, q2, qz⟩ := hK.get (B := w5.heap.size) (v0 := (.int .i64 (viK s))) (v1 := (.int .i64 (viN s))) (v2 := (.string (viT s))) (by simp)
        obtain ⟨g0, g1, g2, gz⟩ := hK.get (B := w3.heap.size) (v0 := (.int .i64 k)) (v1 := (.int .i64 n)) (v2 := (.string t)) (by simp)
        go_wp2_with fail
        refine (valueOk_any k n t _ hts).mono ?_
        rintro e w13 ⟨rfl, hb⟩
        replace hB := bstep hB hb
        replace hK := hK.call hb
        clear hb
        rw [HO.out]
        obtain ⟨g0, g1, g2, gz⟩ := hK.get (B := w3.heap.size) (v0 := (.int .i64 k)) (v1 := (.int .i64 n)) (v2 := (.string t)) (by simp)
        go_wp2
        go_ret
        exact ⟨rfl, hB⟩
      · by_cases hk : k < 3
        · skip
          have HN : Hid (numerB s = false) := hn
          have HV : Hid (viB s = true) := hv
          have HS : Hid (sgn (viK s) (viN s) (viT s) = s ∧ signB s = true) := sgn_vi hv
          have HF : Hid (viK (sgn k n t) = k ∧ viN (sgn k n t) = n ∧ viT (sgn k n t) = t ∧ viB (sgn k n t) = true ∧ sgn k n t ≠ ⟨#[]⟩) := vi_sgn ho hk
          have hem : (sgn k n t).toList.isEmpty = false := by rw [← decide_eq_emptyBytes]; exact decide_eq_false fun h => HF.out.2.2.2.2 h
          clear ho hk
          clear hn hv
          replace hB := balloc hB (.cells #[(.int .i64 k), (.int .i64 n), (.string t)] 28)
          replace hK := hK.push (.int .i64 k) (.int .i64 n) (.string t) 28
          go_wp2_with fail
          refine (signOfI_any k n t _ hts (tab_call ht hB)).mono ?_
          rintro e w4 ⟨rfl, hb⟩
          replace hB := bstep hB hb
          replace hK := hK.call hb
          clear hb
          obtain ⟨g0, g1, g2, gz⟩ := hK.get (B := w3.heap.size) (v0 := (.int .i64 k)) (v1 := (.int .i64 n)) (v2 := (.string t)) (by simp)
          go_wp2_with fail
          refine (valueInI_any s _ hss (tab_call ht hB)).mono ?_
          rintro e w5 ⟨rfl, hb⟩
          replace hB := bstep hB hb
          replace hK := hK.call hb
          clear hb
          rw [HV.out]
          replace hB := balloc hB (.cells #[(.int .i64 (viK s)), (.int .i64 (viN s)), (.string (viT s))] 28)
          replace hK := hK.push (.int .i64 (viK s)) (.int .i64 (viN s)) (.string (viT s)) 28
          go_wp2_with fail
          refine (readNumberS_any s _ hss).mono ?_
          rintro e w6 ⟨rfl, rfl⟩
          rw [HN.out]
          obtain ⟨g0, g1, g2, gz⟩ := hK.get (B := w3.heap.size) (v0 := (.int .i64 k)) (v1 := (.int .i64 n)) (v2 := (.string t)) (by simp)
          go_wp2_with fail
          refine (signOfS_any k n t _ hts).mono ?_
          rintro e w7 ⟨rfl, hb⟩
          replace hB := bstep hB hb
          replace hK := hK.call hb
          clear hb
          skip
          go_wp2_with fail
          refine (nameOkI_any s _ hss).mono ?_
          rintro e w8 ⟨rfl, rfl⟩
          go_wp2_with fail
          refine (nameOkS_any s _ hss).mono ?_
          rintro e w8 ⟨rfl, rfl⟩
          go_wp2_with fail
          refine (signOkI_any s _ hss).mono ?_
          rintro e w8 ⟨rfl, rfl⟩
          go_wp2_with fail
          refine (signOkS_any s _ hss).mono ?_
          rintro e w9 ⟨rfl, hb⟩
          replace hB := bstep hB hb
          replace hK := hK.call hb
          clear hb
          go_wp2_with fail
          refine (valueInS_any s _ hss).mono ?_
          rintro e w10 ⟨rfl, hb⟩
          replace hB := bstep hB hb
          replace hK := hK.call hb
          clear hb
          rw [HV.out]
          obtain ⟨q0, q1, q2, qz⟩ := hK.get (B := w5.heap.size) (v0 := (.int .i64 (viK s))) (v1 := (.int .i64 (viN s))) (v2 := (.string (viT s))) (by simp)
          replace hB := balloc hB (.cells #[(.int .i64 (viK s)), (.int .i64 (viN s)), (.string (viT s))] 28)
          replace hK := hK.push (.int .i64 (viK s)) (.int .i64 (viN s)) (.string (viT s)) 28
          go_wp2_with fail
          refine (signOfI_any (viK s) (viN s) (viT s) _ hvt (tab_call ht hB)).mono ?_
          rintro e w11 ⟨rfl, hb⟩
          replace hB := bstep hB hb
          replace hK := hK.call hb
          clear hb
          rw [HS.out.1]
          go_wp2_with fail
          refine (signOkI_any s _ hss).mono ?_
          rintro e w12 ⟨rfl, rfl⟩
          rw [HS.out.2]
          obtain ⟨q0, q1, q2, qz⟩ := hK.get (B := w5.heap.size) (v0 := (.int .i64 (viK s))) (v1 := (.int .i64 (viN s))) (v2 := (.string (viT s))) (by simp)
          obtain ⟨g0, g1, g2, gz⟩ := hK.get (B := w3.heap.size) (v0 := (.int .i64 k)) (v1 := (.int .i64 n)) (v2 := (.string t)) (by simp)
          go_wp2_with fail
          refine (valueInI_any (sgn k n t) _ hgs (tab_call ht hB)).mono ?_
          rintro e w13 ⟨rfl, hb⟩
          replace hB := bstep hB hb
          replace hK := hK.call hb
          clear hb
          rw [HF.out.1, HF.out.2.1, HF.out.2.2.1, HF.out.2.2.2.1]
          obtain ⟨g0, g1, g2, gz⟩ := hK.get (B := w3.heap.size) (v0 := (.int .i64 k)) (v1 := (.int .i64 n)) (v2 := (.string t)) (by simp)
          replace hB := balloc hB (.cells #[(.int .i64 k), (.int .i64 n), (.string t)] 28)
          replace hK := hK.push (.int .i64 k) (.int .i64 n) (.string t) 28
          go_wp2
          go_ret
          exact ⟨rfl, hB⟩
        · have hk : 3 ≤ k := by omega
          have HN : Hid (numerB s = false) := hn
          have HV : Hid (viB s = true) := hv
          have HS : Hid (sgn (viK s) (viN s) (viT s) = s ∧ signB s = true) := sgn_vi hv
          have HF : Hid (sgn k n t = ⟨#[]⟩) := sgn_none (Or.inr hk)
          have HO : Hid (okV k n t = true) := ho
          clear ho
          clear hn hv
          replace hB := balloc hB (.cells #[(.int .i64 k), (.int .i64 n), (.string t)] 28)
          replace hK := hK.push (.int .i64 k) (.int .i64 n) (.string t) 28
          go_wp2_with fail
          refine (signOfI_any k n t _ hts (tab_call ht hB)).mono ?_
          rintro e w4 ⟨rfl, hb⟩
          replace hB := bstep hB hb
          replace hK := hK.call hb
          clear hb
          rw [HF.out]
          obtain ⟨g0, g1, g2, gz⟩ := hK.get (B := w3.heap.size) (v0 := (.int .i64 k)) (v1 := (.int .i64 n)) (v2 := (.string t)) (by simp)
          go_wp2_with fail
          refine (valueInI_any s _ hss (tab_call ht hB)).mono ?_
          rintro e w5 ⟨rfl, hb⟩
          replace hB := bstep hB hb
          replace hK := hK.call hb
          clear hb
          rw [HV.out]
          replace hB := balloc hB (.cells #[(.int .i64 (viK s)), (.int .i64 (viN s)), (.string (viT s))] 28)
          replace hK := hK.push (.int .i64 (viK s)) (.int .i64 (viN s)) (.string (viT s)) 28
          go_wp2_with fail
          refine (readNumberS_any s _ hss).mono ?_
          rintro e w6 ⟨rfl, rfl⟩
          rw [HN.out]
          obtain ⟨g0, g1, g2, gz⟩ := hK.get (B := w3.heap.size) (v0 := (.int .i64 k)) (v1 := (.int .i64 n)) (v2 := (.string t)) (by simp)
          go_wp2_with fail
          refine (signOfS_any k n t _ hts).mono ?_
          rintro e w7 ⟨rfl, hb⟩
          replace hB := bstep hB hb
          replace hK := hK.call hb
          clear hb
          rw [HF.out]
          skip
          go_wp2_with fail
          refine (nameOkI_any s _ hss).mono ?_
          rintro e w8 ⟨rfl, rfl⟩
          go_wp2_with fail
          refine (nameOkS_any s _ hss).mono ?_
          rintro e w8 ⟨rfl, rfl⟩
          go_wp2_with fail
          refine (signOkI_any s _ hss).mono ?_
          rintro e w8 ⟨rfl, rfl⟩
          go_wp2_with fail
          refine (signOkS_any s _ hss).mono ?_
          rintro e w9 ⟨rfl, hb⟩
          replace hB := bstep hB hb
          replace hK := hK.call hb
          clear hb
          go_wp2_with fail
          refine (valueInS_any s _ hss).mono ?_
          rintro e w10 ⟨rfl, hb⟩
          replace hB := bstep hB hb
          replace hK := hK.call hb
          clear hb
          rw [HV.out]
          obtain ⟨q0, q1, q2, qz⟩ := hK.get (B := w5.heap.size) (v0 := (.int .i64 (viK s))) (v1 := (.int .i64 (viN s))) (v2 := (.string (viT s))) (by simp)
          replace hB := balloc hB (.cells #[(.int .i64 (viK s)), (.int .i64 (viN s)), (.string (viT s))] 28)
          replace hK := hK.push (.int .i64 (viK s)) (.int .i64 (viN s)) (.string (viT s)) 28
          go_wp2_with fail
          refine (signOfI_any (viK s) (viN s) (viT s) _ hvt (tab_call ht hB)).mono ?_
          rintro e w11 ⟨rfl, hb⟩
          replace hB := bstep hB hb
          replace hK := hK.call hb
          clear hb
          rw [HS.out.1]
          go_wp2_with fail
          refine (signOkI_any s _ hss).mono ?_
          rintro e w12 ⟨rfl, rfl⟩
          rw [HS.out.2]
          obtain ⟨q0, q1, q2, qz⟩ := hK.get (B := w5.heap.size) (v0 := (.int .i64 (viK s))) (v1 := (.int .i64 (viN s))) (v2 := (.string (viT s))) (by simp)
          obtain ⟨g0, g1, g2, gz⟩ := hK.get (B := w3.heap.size) (v0 := (.int .i64 k)) (v1 := (.int .i64 n)) (v2 := (.string t)) (by simp)
          go_wp2_with fail
          refine (valueOk_any k n t _ hts).mono ?_
          rintro e w13 ⟨rfl, hb⟩
          replace hB := bstep hB hb
          replace hK := hK.call hb
          clear hb
          rw [HO.out]
          obtain ⟨g0, g1, g2, gz⟩ := hK.get (B := w3.heap.size) (v0 := (.int .i64 k)) (v1 := (.int .i64 n)) (v2 := (.string t)) (by simp)
          go_wp2
          go_ret
          exact ⟨rfl, hB⟩
  · have hv : viB s = true := (vi_numer hn).1
    cases ho : okV k n t
    · skip
      have HN : Hid (numerB s = true) := hn
      have HV : Hid (viB s = true) := hv
      have HS : Hid (sgn (viK s) (viN s) (viT s) = s ∧ signB s = true) := sgn_vi hv
      have hne : (viN s != numN s) = false := by rw [(vi_numer hn).2]; simp
      have HF : Hid (sgn k n t = ⟨#[]⟩) := sgn_none (Or.inl ho)
      have HO : Hid (okV k n t = false) := ho
      clear ho
      clear hn hv
      replace hB := balloc hB (.cells #[(.int .i64 k), (.int .i64 n), (.string t)] 28)
      replace hK := hK.push (.int .i64 k) (.int .i64 n) (.string t) 28
      go_wp2_with fail
      refine (signOfI_any k n t _ hts (tab_call ht hB)).mono ?_
      rintro e w4 ⟨rfl, hb⟩
      replace hB := bstep hB hb
      replace hK := hK.call hb
      clear hb
      rw [HF.out]
      obtain ⟨g0, g1, g2, gz⟩ := hK.get (B := w3.heap.size) (v0 := (.int .i64 k)) (v1 := (.int .i64 n)) (v2 := (.string t)) (by simp)
      go_wp2_with fail
      refine (valueInI_any s _ hss (tab_call ht hB)).mono ?_
      rintro e w5 ⟨rfl, hb⟩
      replace hB := bstep hB hb
      replace hK := hK.call hb
      clear hb
      rw [HV.out]
      replace hB := balloc hB (.cells #[(.int .i64 (viK s)), (.int .i64 (viN s)), (.string (viT s))] 28)
      replace hK := hK.push (.int .i64 (viK s)) (.int .i64 (viN s)) (.string (viT s)) 28
      go_wp2_with fail
      refine (readNumberS_any s _ hss).mono ?_
      rintro e w6 ⟨rfl, rfl⟩
      rw [HN.out]
      obtain ⟨g0, g1, g2, gz⟩ := hK.get (B := w3.heap.size) (v0 := (.int .i64 k)) (v1 := (.int .i64 n)) (v2 := (.string t)) (by simp)
      go_wp2_with fail
      refine (signOfS_any k n t _ hts).mono ?_
      rintro e w7 ⟨rfl, hb⟩
      replace hB := bstep hB hb
      replace hK := hK.call hb
      clear hb
      rw [HF.out]
      skip
      go_wp2_with fail
      refine (nameOkI_any s _ hss).mono ?_
      rintro e w8 ⟨rfl, rfl⟩
      go_wp2_with fail
      refine (nameOkS_any s _ hss).mono ?_
      rintro e w8 ⟨rfl, rfl⟩
      go_wp2_with fail
      refine (signOkI_any s _ hss).mono ?_
      rintro e w8 ⟨rfl, rfl⟩
      go_wp2_with fail
      refine (signOkS_any s _ hss).mono ?_
      rintro e w9 ⟨rfl, hb⟩
      replace hB := bstep hB hb
      replace hK := hK.call hb
      clear hb
      go_wp2_with fail
      refine (valueInS_any s _ hss).mono ?_
      rintro e w10 ⟨rfl, hb⟩
      replace hB := bstep hB hb
      replace hK := hK.call hb
      clear hb
      rw [HV.out]
      obtain ⟨q0, q1, q2, qz⟩ := hK.get (B := w5.heap.size) (v0 := (.int .i64 (viK s))) (v1 := (.int .i64 (viN s))) (v2 := (.string (viT s))) (by simp)
      replace hB := balloc hB (.cells #[(.int .i64 (viK s)), (.int .i64 (viN s)), (.string (viT s))] 28)
      replace hK := hK.push (.int .i64 (viK s)) (.int .i64 (viN s)) (.string (viT s)) 28
      go_wp2_with fail
      refine (signOfI_any (viK s) (viN s) (viT s) _ hvt (tab_call ht hB)).mono ?_
      rintro e w11 ⟨rfl, hb⟩
      replace hB := bstep hB hb
      replace hK := hK.call hb
      clear hb
      rw [HS.out.1]
      go_wp2_with fail
      refine (signOkI_any s _ hss).mono ?_
      rintro e w12 ⟨rfl, rfl⟩
      rw [HS.out.2]
      obtain ⟨q0, q1, q2, qz⟩ := hK.get (B := w5.heap.size) (v0 := (.int .i64 (viK s))) (v1 := (.int .i64 (viN s))) (v2 := (.string (viT s))) (by simp)
      obtain ⟨g0, g1, g2, gz⟩ := hK.get (B := w3.heap.size) (v0 := (.int .i64 k)) (v1 := (.int .i64 n)) (v2 := (.string t)) (by simp)
      go_wp2_with fail
      refine (valueOk_any k n t _ hts).mono ?_
      rintro e w13 ⟨rfl, hb⟩
      replace hB := bstep hB hb
      replace hK := hK.call hb
      clear hb
      rw [HO.out]
      obtain ⟨g0, g1, g2, gz⟩ := hK.get (B := w3.heap.size) (v0 := (.int .i64 k)) (v1 := (.int .i64 n)) (v2 := (.string t)) (by simp)
      go_wp2
      go_ret
      exact ⟨rfl, hB⟩
    · by_cases hk : k < 3
      · skip
        have HN : Hid (numerB s = true) := hn
        have HV : Hid (viB s = true) := hv
        have HS : Hid (sgn (viK s) (viN s) (viT s) = s ∧ signB s = true) := sgn_vi hv
        have hne : (viN s != numN s) = false := by rw [(vi_numer hn).2]; simp
        have HF : Hid (viK (sgn k n t) = k ∧ viN (sgn k n t) = n ∧ viT (sgn k n t) = t ∧ viB (sgn k n t) = true ∧ sgn k n t ≠ ⟨#[]⟩) := vi_sgn ho hk
        have hem : (sgn k n t).toList.isEmpty = false := by rw [← decide_eq_emptyBytes]; exact decide_eq_false fun h => HF.out.2.2.2.2 h
        clear ho hk
        clear hn hv
        replace hB := balloc hB (.cells #[(.int .i64 k), (.int .i64 n), (.string t)] 28)
        replace hK := hK.push (.int .i64 k) (.int .i64 n) (.string t) 28
        go_wp2_with fail
        refine (signOfI_any k n t _ hts (tab_call ht hB)).mono ?_
        rintro e w4 ⟨rfl, hb⟩
        replace hB := bstep hB hb
        replace hK := hK.call hb
        clear hb
        obtain ⟨g0, g1, g2, gz⟩ := hK.get (B := w3.heap.size) (v0 := (.int .i64 k)) (v1 := (.int .i64 n)) (v2 := (.string t)) (by simp)
        go_wp2_with fail
        refine (valueInI_any s _ hss (tab_call ht hB)).mono ?_
        rintro e w5 ⟨rfl, hb⟩
        replace hB := bstep hB hb
        replace hK := hK.call hb
        clear hb
        rw [HV.out]
        replace hB := balloc hB (.cells #[(.int .i64 (viK s)), (.int .i64 (viN s)), (.string (viT s))] 28)
        replace hK := hK.push (.int .i64 (viK s)) (.int .i64 (viN s)) (.string (viT s)) 28
        go_wp2_with fail
        refine (readNumberS_any s _ hss).mono ?_
        rintro e w6 ⟨rfl, rfl⟩
        rw [HN.out]
        obtain ⟨g0, g1, g2, gz⟩ := hK.get (B := w3.heap.size) (v0 := (.int .i64 k)) (v1 := (.int .i64 n)) (v2 := (.string t)) (by simp)
        go_wp2_with fail
        refine (signOfS_any k n t _ hts).mono ?_
        rintro e w7 ⟨rfl, hb⟩
        replace hB := bstep hB hb
        replace hK := hK.call hb
        clear hb
        skip
        go_wp2_with fail
        refine (nameOkI_any s _ hss).mono ?_
        rintro e w8 ⟨rfl, rfl⟩
        go_wp2_with fail
        refine (nameOkS_any s _ hss).mono ?_
        rintro e w8 ⟨rfl, rfl⟩
        go_wp2_with fail
        refine (signOkI_any s _ hss).mono ?_
        rintro e w8 ⟨rfl, rfl⟩
        go_wp2_with fail
        refine (signOkS_any s _ hss).mono ?_
        rintro e w9 ⟨rfl, hb⟩
        replace hB := bstep hB hb
        replace hK := hK.call hb
        clear hb
        go_wp2_with fail
        refine (valueInS_any s _ hss).mono ?_
        rintro e w10 ⟨rfl, hb⟩
        replace hB := bstep hB hb
        replace hK := hK.call hb
        clear hb
        rw [HV.out]
        obtain ⟨q0, q1, q2, qz⟩ := hK.get (B := w5.heap.size) (v0 := (.int .i64 (viK s))) (v1 := (.int .i64 (viN s))) (v2 := (.string (viT s))) (by simp)
        replace hB := balloc hB (.cells #[(.int .i64 (viK s)), (.int .i64 (viN s)), (.string (viT s))] 28)
        replace hK := hK.push (.int .i64 (viK s)) (.int .i64 (viN s)) (.string (viT s)) 28
        go_wp2_with fail
        refine (signOfI_any (viK s) (viN s) (viT s) _ hvt (tab_call ht hB)).mono ?_
        rintro e w11 ⟨rfl, hb⟩
        replace hB := bstep hB hb
        replace hK := hK.call hb
        clear hb
        rw [HS.out.1]
        go_wp2_with fail
        refine (signOkI_any s _ hss).mono ?_
        rintro e w12 ⟨rfl, rfl⟩
        rw [HS.out.2]
        obtain ⟨q0, q1, q2, qz⟩ := hK.get (B := w5.heap.size) (v0 := (.int .i64 (viK s))) (v1 := (.int .i64 (viN s))) (v2 := (.string (viT s))) (by simp)
        obtain ⟨g0, g1, g2, gz⟩ := hK.get (B := w3.heap.size) (v0 := (.int .i64 k)) (v1 := (.int .i64 n)) (v2 := (.string t)) (by simp)
        go_wp2_with fail
        refine (valueInI_any (sgn k n t) _ hgs (tab_call ht hB)).mono ?_
        rintro e w13 ⟨rfl, hb⟩
        replace hB := bstep hB hb
        replace hK := hK.call hb
        clear hb
        rw [HF.out.1, HF.out.2.1, HF.out.2.2.1, HF.out.2.2.2.1]
        obtain ⟨g0, g1, g2, gz⟩ := hK.get (B := w3.heap.size) (v0 := (.int .i64 k)) (v1 := (.int .i64 n)) (v2 := (.string t)) (by simp)
        replace hB := balloc hB (.cells #[(.int .i64 k), (.int .i64 n), (.string t)] 28)
        replace hK := hK.push (.int .i64 k) (.int .i64 n) (.string t) 28
        go_wp2
        go_ret
        exact ⟨rfl, hB⟩
      · have hk : 3 ≤ k := by omega
        have HN : Hid (numerB s = true) := hn
        have HV : Hid (viB s = true) := hv
        have HS : Hid (sgn (viK s) (viN s) (viT s) = s ∧ signB s = true) := sgn_vi hv
        have hne : (viN s != numN s) = false := by rw [(vi_numer hn).2]; simp
        have HF : Hid (sgn k n t = ⟨#[]⟩) := sgn_none (Or.inr hk)
        have HO : Hid (okV k n t = true) := ho
        clear ho
        clear hn hv
        replace hB := balloc hB (.cells #[(.int .i64 k), (.int .i64 n), (.string t)] 28)
        replace hK := hK.push (.int .i64 k) (.int .i64 n) (.string t) 28
        go_wp2_with fail
        refine (signOfI_any k n t _ hts (tab_call ht hB)).mono ?_
        rintro e w4 ⟨rfl, hb⟩
        replace hB := bstep hB hb
        replace hK := hK.call hb
        clear hb
        rw [HF.out]
        obtain ⟨g0, g1, g2, gz⟩ := hK.get (B := w3.heap.size) (v0 := (.int .i64 k)) (v1 := (.int .i64 n)) (v2 := (.string t)) (by simp)
        go_wp2_with fail
        refine (valueInI_any s _ hss (tab_call ht hB)).mono ?_
        rintro e w5 ⟨rfl, hb⟩
        replace hB := bstep hB hb
        replace hK := hK.call hb
        clear hb
        rw [HV.out]
        replace hB := balloc hB (.cells #[(.int .i64 (viK s)), (.int .i64 (viN s)), (.string (viT s))] 28)
        replace hK := hK.push (.int .i64 (viK s)) (.int .i64 (viN s)) (.string (viT s)) 28
        go_wp2_with fail
        refine (readNumberS_any s _ hss).mono ?_
        rintro e w6 ⟨rfl, rfl⟩
        rw [HN.out]
        obtain ⟨g0, g1, g2, gz⟩ := hK.get (B := w3.heap.size) (v0 := (.int .i64 k)) (v1 := (.int .i64 n)) (v2 := (.string t)) (by simp)
        go_wp2_with fail
        refine (signOfS_any k n t _ hts).mono ?_
        rintro e w7 ⟨rfl, hb⟩
        replace hB := bstep hB hb
        replace hK := hK.call hb
        clear hb
        rw [HF.out]
        skip
        go_wp2_with fail
        refine (nameOkI_any s _ hss).mono ?_
        rintro e w8 ⟨rfl, rfl⟩
        go_wp2_with fail
        refine (nameOkS_any s _ hss).mono ?_
        rintro e w8 ⟨rfl, rfl⟩
        go_wp2_with fail
        refine (signOkI_any s _ hss).mono ?_
        rintro e w8 ⟨rfl, rfl⟩
        go_wp2_with fail
        refine (signOkS_any s _ hss).mono ?_
        rintro e w9 ⟨rfl, hb⟩
        replace hB := bstep hB hb
        replace hK := hK.call hb
        clear hb
        go_wp2_with fail
        refine (valueInS_any s _ hss).mono ?_
        rintro e w10 ⟨rfl, hb⟩
        replace hB := bstep hB hb
        replace hK := hK.call hb
        clear hb
        rw [HV.out]
        obtain ⟨q0, q1, q2, qz⟩ := hK.get (B := w5.heap.size) (v0 := (.int .i64 (viK s))) (v1 := (.int .i64 (viN s))) (v2 := (.string (viT s))) (by simp)
        replace hB := balloc hB (.cells #[(.int .i64 (viK s)), (.int .i64 (viN s)), (.string (viT s))] 28)
        replace hK := hK.push (.int .i64 (viK s)) (.int .i64 (viN s)) (.string (viT s)) 28
        go_wp2_with fail
        refine (signOfI_any (viK s) (viN s) (viT s) _ hvt (tab_call ht hB)).mono ?_
        rintro e w11 ⟨rfl, hb⟩
        replace hB := bstep hB hb
        replace hK := hK.call hb
        clear hb
        rw [HS.out.1]
        go_wp2_with fail
        refine (signOkI_any s _ hss).mono ?_
        rintro e w12 ⟨rfl, rfl⟩
        rw [HS.out.2]
        obtain ⟨q0, q1, q2, qz⟩ := hK.get (B := w5.heap.size) (v0 := (.int .i64 (viK s))) (v1 := (.int .i64 (viN s))) (v2 := (.string (viT s))) (by simp)
        obtain ⟨g0, g1, g2, gz⟩ := hK.get (B := w3.heap.size) (v0 := (.int .i64 k)) (v1 := (.int .i64 n)) (v2 := (.string t)) (by simp)
        go_wp2_with fail
        refine (valueOk_any k n t _ hts).mono ?_
        rintro e w13 ⟨rfl, hb⟩
        replace hB := bstep hB hb
        replace hK := hK.call hb
        clear hb
        rw [HO.out]
        obtain ⟨g0, g1, g2, gz⟩ := hK.get (B := w3.heap.size) (v0 := (.int .i64 k)) (v1 := (.int .i64 n)) (v2 := (.string t)) (by simp)
        go_wp2
        go_ret
        exact ⟨rfl, hB⟩

end Go.Proofs.YtmlopiphcnhcpaaDoor
