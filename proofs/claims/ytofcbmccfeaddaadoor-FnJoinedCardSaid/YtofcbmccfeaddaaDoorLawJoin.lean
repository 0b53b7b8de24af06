/-
  The law of joining, walked: whatever bytes it draws from, it answers true, and turns nothing that was there.
-/
import Derived.Test.YtofcbmccfeaddaaDoorJoinC
import Derived.Test.YtofcbmccfeaddaaDoorKeeps
import Derived.Test.YtofcbmccfeaddaaDoorDrawJ
namespace Go.Proofs.YtofcbmccfeaddaaDoor
open Go.RowKit

theorem jT_le (a b : ByteArray) (f g : Int) : (jT a b f g).size ≤ maxLen := by
  have := jT_size a b f g
  unfold maxLen
  omega

set_option maxRecDepth 100000 in
set_option maxHeartbeats 40000000 in
theorem lawJoin (a : Option Addr) (len cap : Nat) (w : World) (hcode : Code w.heap.size a len w) (_hml : len ≤ maxLen) (ht : Tab w) :
    Calls Tryd.prog 3 #[.slice a len cap] w fun e w' => e = .returned (.bool true) ∧ Below w.heap.size w w' := by
  by_cases hbig : (4096 : Int) < len
  · go_enter Tryd.func3, Tryd.ntmps3
    go_wp2_with fail
    refine (big_any a len cap _).mono ?_
    rintro e w1 ⟨rfl, rfl⟩
    rw [decide_eq_true hbig]
    go_wp2
    go_ret
    exact ⟨rfl, Below.refl _ _⟩
  have hlen : len ≤ 4096 := by omega
  go_enter Tryd.func3, Tryd.ntmps3
  go_wp2_with fail
  refine (big_any a len cap _).mono ?_
  rintro e w0 ⟨rfl, hw0⟩
  rw [hw0]
  clear hw0
  rw [decide_eq_false (by omega)]
  go_wp2_with fail
  refine (DrawJoined_any a len cap _ hcode hlen).mono ?_
  rintro e w1 ⟨v, v', rfl, ⟨k, n, s, rfl, hs⟩, ⟨k', n', s', rfl, hs'⟩, hb1⟩
  replace hs : s.size ≤ maxLen := by unfold maxLen; omega
  replace hs' : s'.size ≤ maxLen := by unfold maxLen; omega
  have z1 := txt_size k n s
  have z2 := txt_size k' n' s'
  rcases txF_two k n s with hf | hf <;> rcases txF_two k' n' s' with hg | hg
  · by_cases h60 : (txt k n s).size + (txt k' n' s').size ≤ 60
    · have HV : Hid (jK (txt k n s) (txt k' n' s') (txF k n s) (txF k' n' s') = 2 ∧ jT (txt k n s) (txt k' n' s') (txF k n s) (txF k' n' s') = (txt k n s) ++ (txt k' n' s') ∧ jF (txt k n s) (txt k' n' s') (txF k n s) (txF k' n' s') = 0) := j_yes hf hg h60
      have HF : Hid ((txF k n s) = 0) := hf
      have HG : Hid ((txF k' n' s') = 0) := hg
      have hX0 := join_ok (txt_plain hf) (txt_plain hg) h60
      have hXo : Hid (okV 2 0 ((txt k n s) ++ (txt k' n' s')) = true) := hX0
      have hX : Hid (txt 2 0 ((txt k n s) ++ (txt k' n' s')) = (txt k n s) ++ (txt k' n' s') ∧ txF 2 0 ((txt k n s) ++ (txt k' n' s')) = 0) := join_txt hX0
      have hxs : ((txt k n s) ++ (txt k' n' s')).size ≤ maxLen := by unfold maxLen; simp; omega
      have hcat : ¬ 9223372036854775807 < (txt k n s).size + (txt k' n' s').size := by omega
      clear hX0
      clear hf hg
      have hK := keeps2 w1 (.int .i64 k) (.int .i64 n) (.string s) (.int .i64 k') (.int .i64 n') (.string s') 25
      have hB := balloc (balloc hb1 (.cells #[.int .i64 k, .int .i64 n, .string s] 25)) (.cells #[.int .i64 k', .int .i64 n', .string s'] 25)
      clear hb1
      go_wp2_with fail
      refine (DrawTextOf_any a len cap _ (hcode.up hB.size hB) hlen).mono ?_
      rintro e w2 ⟨v, rfl, ⟨kc, nc, sc, rfl, hsc⟩, hb⟩
      replace hsc : sc.size ≤ maxLen := by unfold maxLen; omega
      replace hK := hK.call hb
      replace hB := bstep hB hb
      clear hb
      obtain ⟨a0, a1, a2, az⟩ := hK.get (.tail _ (.head _))
      obtain ⟨b0, b1, b2, bz⟩ := hK.get (.head _)
      replace hK := hK.push (.int .i64 kc) (.int .i64 nc) (.string sc) 25
      replace hB := balloc hB (.cells #[.int .i64 kc, .int .i64 nc, .string sc] 25)
      go_wp2_with fail
      refine (joinI_any k n k' n' s s' _ hs hs' (tab_call ht hB)).mono ?_
      rintro e w3 ⟨rfl, hb⟩
      replace hK := hK.call hb
      replace hB := bstep hB hb
      clear hb
      obtain ⟨c0, c1, c2, cz⟩ := hK.get (.head _)
      rw [HV.out.1, HV.out.2.1, HV.out.2.2]
      clear a0 a1 a2 az
      clear b0 b1 b2 bz
      replace hK := hK.push (.int .i64 2) (.int .i64 0) (.string ((txt k n s) ++ (txt k' n' s'))) 25
      replace hB := balloc hB (.cells #[.int .i64 2, .int .i64 0, .string ((txt k n s) ++ (txt k' n' s'))] 25)
      go_wp2_with fail
      refine (textI_any kc nc sc _ hsc (tab_call ht hB)).mono ?_
      rintro e w4 ⟨rfl, hb⟩
      replace hK := hK.call hb
      replace hB := bstep hB hb
      clear hb
      obtain ⟨a0, a1, a2, az⟩ := hK.get (.tail _ (.tail _ (.tail _ (.head _))))
      obtain ⟨b0, b1, b2, bz⟩ := hK.get (.tail _ (.tail _ (.head _)))
      clear c0 c1 c2 cz
      obtain ⟨c0, c1, c2, cz⟩ := hK.get (.tail _ (.head _))
      go_wp2_with fail
      refine (joinS_any k n k' n' s s' _ hs hs').mono ?_
      rintro e w5 ⟨rfl, hb⟩
      replace hK := hK.call hb
      replace hB := bstep hB hb
      clear hb
      clear c0 c1 c2 cz
      obtain ⟨c0, c1, c2, cz⟩ := hK.get (.tail _ (.head _))
      obtain ⟨x0, x1, x2, xz⟩ := hK.get (.head _)
      rw [HV.out.1, HV.out.2.1, HV.out.2.2]
      clear a0 a1 a2 az
      clear b0 b1 b2 bz
      replace hK := hK.push (.int .i64 2) (.int .i64 0) (.string ((txt k n s) ++ (txt k' n' s'))) 25
      replace hB := balloc hB (.cells #[.int .i64 2, .int .i64 0, .string ((txt k n s) ++ (txt k' n' s'))] 25)
      go_wp2_with fail
      refine (textS_any kc nc sc _ hsc).mono ?_
      rintro e w6 ⟨rfl, hb⟩
      replace hK := hK.call hb
      replace hB := bstep hB hb
      clear hb
      obtain ⟨a0, a1, a2, az⟩ := hK.get (.tail _ (.tail _ (.tail _ (.tail _ (.head _)))))
      obtain ⟨b0, b1, b2, bz⟩ := hK.get (.tail _ (.tail _ (.tail _ (.head _))))
      clear c0 c1 c2 cz
      obtain ⟨c0, c1, c2, cz⟩ := hK.get (.tail _ (.tail _ (.head _)))
      clear x0 x1 x2 xz
      obtain ⟨x0, x1, x2, xz⟩ := hK.get (.tail _ (.head _))
      generalize htc : (txt kc nc sc) = tc
      generalize hfc : (txF kc nc sc) = fc
      have HTC : Hid (_ = tc) := htc
      have HFC : Hid (_ = fc) := hfc
      clear htc hfc
      go_wp2_with fail
      refine (textS_any k n s _ hs).mono ?_
      rintro e w7 ⟨rfl, hb⟩
      replace hK := hK.call hb
      replace hB := bstep hB hb
      clear hb
      clear b0 b1 b2 bz
      obtain ⟨b0, b1, b2, bz⟩ := hK.get (.tail _ (.tail _ (.tail _ (.head _))))
      clear c0 c1 c2 cz
      obtain ⟨c0, c1, c2, cz⟩ := hK.get (.tail _ (.tail _ (.head _)))
      clear x0 x1 x2 xz
      obtain ⟨x0, x1, x2, xz⟩ := hK.get (.tail _ (.head _))
      clear a0 a1 a2 az
      obtain ⟨a0, a1, a2, az⟩ := hK.get (.tail _ (.tail _ (.tail _ (.tail _ (.head _)))))
      rw [HF.out]
      go_wp2_with fail
      refine (textS_any k' n' s' _ hs').mono ?_
      rintro e w8 ⟨rfl, hb⟩
      replace hK := hK.call hb
      replace hB := bstep hB hb
      clear hb
      clear a0 a1 a2 az
      obtain ⟨a0, a1, a2, az⟩ := hK.get (.tail _ (.tail _ (.tail _ (.tail _ (.head _)))))
      clear b0 b1 b2 bz
      obtain ⟨b0, b1, b2, bz⟩ := hK.get (.tail _ (.tail _ (.tail _ (.head _))))
      clear c0 c1 c2 cz
      obtain ⟨c0, c1, c2, cz⟩ := hK.get (.tail _ (.tail _ (.head _)))
      clear x0 x1 x2 xz
      obtain ⟨x0, x1, x2, xz⟩ := hK.get (.tail _ (.head _))
      rw [HG.out]
      rcases txF_two kc nc sc with hfc | hfc
      · have HC : Hid ((txF kc nc sc) = 0) := hfc
        clear hfc
        by_cases hfit : ((txt k n s) ++ (txt k' n' s')).size + (txt kc nc sc).size ≤ 60
        · have hms : ((txt k' n' s') ++ (txt kc nc sc)).size ≤ maxLen := by unfold maxLen; simp at hfit ⊢; omega
          have hfit2 : (txt k n s).size + (txt k' n' s').size + (txt kc nc sc).size ≤ 60 := by simpa using hfit
          have hM : Hid (txt 2 0 ((txt k' n' s') ++ (txt kc nc sc)) = (txt k' n' s') ++ (txt kc nc sc) ∧ txF 2 0 ((txt k' n' s') ++ (txt kc nc sc)) = 0) := join_txt (join_ok (txt_plain HG.out) (txt_plain HC.out) (by omega))
          go_wp2_with fail
          refine (joinI_any 2 0 kc nc ((txt k n s) ++ (txt k' n' s')) sc _ hxs hsc (tab_call ht hB)).mono ?_
          rintro e w9 ⟨rfl, hb⟩
          replace hK := hK.call hb
          replace hB := bstep hB hb
          clear hb
          clear b0 b1 b2 bz
          obtain ⟨b0, b1, b2, bz⟩ := hK.get (.tail _ (.tail _ (.tail _ (.head _))))
          clear c0 c1 c2 cz
          obtain ⟨c0, c1, c2, cz⟩ := hK.get (.tail _ (.tail _ (.head _)))
          clear a0 a1 a2 az
          obtain ⟨a0, a1, a2, az⟩ := hK.get (.tail _ (.tail _ (.tail _ (.tail _ (.head _)))))
          clear x0 x1 x2 xz
          obtain ⟨x0, x1, x2, xz⟩ := hK.get (.tail _ (.head _))
          rw [hX.out.1, hX.out.2]
          have L1 := j_yes (a := ((txt k n s) ++ (txt k' n' s'))) (b := (txt kc nc sc)) (f := 0) rfl HC.out hfit
          rw [L1.1, L1.2.1, L1.2.2]
          replace hK := hK.push (.int .i64 2) (.int .i64 0) (.string (((txt k n s) ++ (txt k' n' s')) ++ (txt kc nc sc))) 25
          replace hB := balloc hB (.cells #[.int .i64 2, .int .i64 0, .string (((txt k n s) ++ (txt k' n' s')) ++ (txt kc nc sc))] 25)
          clear L1
          go_wp2_with fail
          refine (joinI_any k' n' kc nc s' sc _ hs' hsc (tab_call ht hB)).mono ?_
          rintro e w10 ⟨rfl, hb⟩
          replace hK := hK.call hb
          replace hB := bstep hB hb
          clear hb
          clear a0 a1 a2 az
          obtain ⟨a0, a1, a2, az⟩ := hK.get (.tail _ (.tail _ (.tail _ (.tail _ (.tail _ (.head _))))))
          clear x0 x1 x2 xz
          obtain ⟨x0, x1, x2, xz⟩ := hK.get (.tail _ (.tail _ (.head _)))
          have L2 := j_yes (a := (txt k' n' s')) (b := (txt kc nc sc)) HG.out HC.out (by omega)
          rw [L2.1, L2.2.1, L2.2.2]
          clear L2
          replace hK := hK.push (.int .i64 2) (.int .i64 0) (.string ((txt k' n' s') ++ (txt kc nc sc))) 25
          replace hB := balloc hB (.cells #[.int .i64 2, .int .i64 0, .string ((txt k' n' s') ++ (txt kc nc sc))] 25)
          go_wp2_with fail
          refine (joinI_any k n 2 0 s ((txt k' n' s') ++ (txt kc nc sc)) _ hs hms (tab_call ht hB)).mono ?_
          rintro e w11 ⟨rfl, hb⟩
          replace hK := hK.call hb
          replace hB := bstep hB hb
          clear hb
          clear x0 x1 x2 xz
          obtain ⟨x0, x1, x2, xz⟩ := hK.get (.tail _ (.tail _ (.tail _ (.head _))))
          rw [hM.out.1, hM.out.2]
          have L3 := j_yes (a := (txt k n s)) (b := (txt k' n' s') ++ (txt kc nc sc)) (g := 0) HF.out rfl (by simp; omega)
          rw [L3.1, L3.2.1, L3.2.2]
          clear L3
          replace hK := hK.push (.int .i64 2) (.int .i64 0) (.string ((txt k n s) ++ ((txt k' n' s') ++ (txt kc nc sc)))) 25
          replace hB := balloc hB (.cells #[.int .i64 2, .int .i64 0, .string ((txt k n s) ++ ((txt k' n' s') ++ (txt kc nc sc)))] 25)
          clear a0 a1 a2 az
          clear b0 b1 b2 bz
          clear c0 c1 c2 cz
          go_wp2_with fail
          refine (valueOk_any 2 0 ((txt k n s) ++ (txt k' n' s')) _ hxs).mono ?_
          rintro e w12 ⟨rfl, hb⟩
          replace hK := hK.call hb
          replace hB := bstep hB hb
          clear hb
          clear x0 x1 x2 xz
          obtain ⟨x0, x1, x2, xz⟩ := hK.get (.tail _ (.tail _ (.tail _ (.tail _ (.head _)))))
          obtain ⟨y0, y1, y2, yz⟩ := hK.get (.tail _ (.tail _ (.head _)))
          obtain ⟨z0, z1, z2, zz⟩ := hK.get (.head _)
          rw [hXo.out]
          rw [ByteArray.append_assoc] at y2
          go_wp2
          go_ret
          exact ⟨rfl, hB⟩
        · have hover := hfit
          go_wp2_with fail
          refine (joinI_any 2 0 kc nc ((txt k n s) ++ (txt k' n' s')) sc _ hxs hsc (tab_call ht hB)).mono ?_
          rintro e w9 ⟨rfl, hb⟩
          replace hK := hK.call hb
          replace hB := bstep hB hb
          clear hb
          clear b0 b1 b2 bz
          obtain ⟨b0, b1, b2, bz⟩ := hK.get (.tail _ (.tail _ (.tail _ (.head _))))
          clear c0 c1 c2 cz
          obtain ⟨c0, c1, c2, cz⟩ := hK.get (.tail _ (.tail _ (.head _)))
          clear a0 a1 a2 az
          obtain ⟨a0, a1, a2, az⟩ := hK.get (.tail _ (.tail _ (.tail _ (.tail _ (.head _)))))
          clear x0 x1 x2 xz
          obtain ⟨x0, x1, x2, xz⟩ := hK.get (.tail _ (.head _))
          rw [hX.out.1, hX.out.2]
          have L1 := j_over (a := ((txt k n s) ++ (txt k' n' s'))) (b := (txt kc nc sc)) (f := 0) rfl HC.out hover
          rw [L1.1, L1.2.1, L1.2.2]
          replace hK := hK.push (.int .i64 0) (.int .i64 0) (.string ⟨#[]⟩) 25
          replace hB := balloc hB (.cells #[.int .i64 0, .int .i64 0, .string ⟨#[]⟩] 25)
          clear L1
          go_wp2_with fail
          refine (joinI_any k' n' kc nc s' sc _ hs' hsc (tab_call ht hB)).mono ?_
          rintro e w10 ⟨rfl, hb⟩
          replace hK := hK.call hb
          replace hB := bstep hB hb
          clear hb
          clear a0 a1 a2 az
          obtain ⟨a0, a1, a2, az⟩ := hK.get (.tail _ (.tail _ (.tail _ (.tail _ (.tail _ (.head _))))))
          clear x0 x1 x2 xz
          obtain ⟨x0, x1, x2, xz⟩ := hK.get (.tail _ (.tail _ (.head _)))
          replace hK := hK.push (.int .i64 (jK (txt k' n' s') (txt kc nc sc) (txF k' n' s') (txF kc nc sc))) (.int .i64 0) (.string (jT (txt k' n' s') (txt kc nc sc) (txF k' n' s') (txF kc nc sc))) 25
          replace hB := balloc hB (.cells #[.int .i64 (jK (txt k' n' s') (txt kc nc sc) (txF k' n' s') (txF kc nc sc)), .int .i64 0, .string (jT (txt k' n' s') (txt kc nc sc) (txF k' n' s') (txF kc nc sc))] 25)
          go_wp2_with fail
          refine (joinI_any k n (jK (txt k' n' s') (txt kc nc sc) (txF k' n' s') (txF kc nc sc)) 0 s (jT (txt k' n' s') (txt kc nc sc) (txF k' n' s') (txF kc nc sc)) _ hs (jT_le _ _ _ _) (tab_call ht hB)).mono ?_
          rintro e w11 ⟨rfl, hb⟩
          replace hK := hK.call hb
          replace hB := bstep hB hb
          clear hb
          clear x0 x1 x2 xz
          obtain ⟨x0, x1, x2, xz⟩ := hK.get (.tail _ (.tail _ (.tail _ (.head _))))
          replace hK := hK.push (.int .i64 (jK (txt k n s) (txt (jK (txt k' n' s') (txt kc nc sc) (txF k' n' s') (txF kc nc sc)) 0 (jT (txt k' n' s') (txt kc nc sc) (txF k' n' s') (txF kc nc sc))) (txF k n s) (txF (jK (txt k' n' s') (txt kc nc sc) (txF k' n' s') (txF kc nc sc)) 0 (jT (txt k' n' s') (txt kc nc sc) (txF k' n' s') (txF kc nc sc))))) (.int .i64 0) (.string (jT (txt k n s) (txt (jK (txt k' n' s') (txt kc nc sc) (txF k' n' s') (txF kc nc sc)) 0 (jT (txt k' n' s') (txt kc nc sc) (txF k' n' s') (txF kc nc sc))) (txF k n s) (txF (jK (txt k' n' s') (txt kc nc sc) (txF k' n' s') (txF kc nc sc)) 0 (jT (txt k' n' s') (txt kc nc sc) (txF k' n' s') (txF kc nc sc))))) 25
          replace hB := balloc hB (.cells #[.int .i64 (jK (txt k n s) (txt (jK (txt k' n' s') (txt kc nc sc) (txF k' n' s') (txF kc nc sc)) 0 (jT (txt k' n' s') (txt kc nc sc) (txF k' n' s') (txF kc nc sc))) (txF k n s) (txF (jK (txt k' n' s') (txt kc nc sc) (txF k' n' s') (txF kc nc sc)) 0 (jT (txt k' n' s') (txt kc nc sc) (txF k' n' s') (txF kc nc sc)))), .int .i64 0, .string (jT (txt k n s) (txt (jK (txt k' n' s') (txt kc nc sc) (txF k' n' s') (txF kc nc sc)) 0 (jT (txt k' n' s') (txt kc nc sc) (txF k' n' s') (txF kc nc sc))) (txF k n s) (txF (jK (txt k' n' s') (txt kc nc sc) (txF k' n' s') (txF kc nc sc)) 0 (jT (txt k' n' s') (txt kc nc sc) (txF k' n' s') (txF kc nc sc))))] 25)
          clear a0 a1 a2 az
          clear b0 b1 b2 bz
          clear c0 c1 c2 cz
          go_wp2_with fail
          refine (valueOk_any 2 0 ((txt k n s) ++ (txt k' n' s')) _ hxs).mono ?_
          rintro e w12 ⟨rfl, hb⟩
          replace hK := hK.call hb
          replace hB := bstep hB hb
          clear hb
          clear x0 x1 x2 xz
          obtain ⟨x0, x1, x2, xz⟩ := hK.get (.tail _ (.tail _ (.tail _ (.tail _ (.head _)))))
          rw [hXo.out]
          go_wp2
          go_ret
          exact ⟨rfl, hB⟩
      · have HC : Hid ((txF kc nc sc) = 1) := hfc
        clear hfc
        go_wp2_with fail
        refine (joinI_any 2 0 kc nc ((txt k n s) ++ (txt k' n' s')) sc _ hxs hsc (tab_call ht hB)).mono ?_
        rintro e w9 ⟨rfl, hb⟩
        replace hK := hK.call hb
        replace hB := bstep hB hb
        clear hb
        clear b0 b1 b2 bz
        obtain ⟨b0, b1, b2, bz⟩ := hK.get (.tail _ (.tail _ (.tail _ (.head _))))
        clear c0 c1 c2 cz
        obtain ⟨c0, c1, c2, cz⟩ := hK.get (.tail _ (.tail _ (.head _)))
        clear a0 a1 a2 az
        obtain ⟨a0, a1, a2, az⟩ := hK.get (.tail _ (.tail _ (.tail _ (.tail _ (.head _)))))
        clear x0 x1 x2 xz
        obtain ⟨x0, x1, x2, xz⟩ := hK.get (.tail _ (.head _))
        rw [hX.out.1, hX.out.2]
        have L1 := j_one ((txt k n s) ++ (txt k' n' s')) (txt kc nc sc) (f := 0) (.inr HC.out)
        rw [L1.1, L1.2.1, L1.2.2]
        replace hK := hK.push (.int .i64 0) (.int .i64 0) (.string ⟨#[]⟩) 25
        replace hB := balloc hB (.cells #[.int .i64 0, .int .i64 0, .string ⟨#[]⟩] 25)
        clear L1
        go_wp2_with fail
        refine (joinI_any k' n' kc nc s' sc _ hs' hsc (tab_call ht hB)).mono ?_
        rintro e w10 ⟨rfl, hb⟩
        replace hK := hK.call hb
        replace hB := bstep hB hb
        clear hb
        clear a0 a1 a2 az
        obtain ⟨a0, a1, a2, az⟩ := hK.get (.tail _ (.tail _ (.tail _ (.tail _ (.tail _ (.head _))))))
        clear x0 x1 x2 xz
        obtain ⟨x0, x1, x2, xz⟩ := hK.get (.tail _ (.tail _ (.head _)))
        replace hK := hK.push (.int .i64 (jK (txt k' n' s') (txt kc nc sc) (txF k' n' s') (txF kc nc sc))) (.int .i64 0) (.string (jT (txt k' n' s') (txt kc nc sc) (txF k' n' s') (txF kc nc sc))) 25
        replace hB := balloc hB (.cells #[.int .i64 (jK (txt k' n' s') (txt kc nc sc) (txF k' n' s') (txF kc nc sc)), .int .i64 0, .string (jT (txt k' n' s') (txt kc nc sc) (txF k' n' s') (txF kc nc sc))] 25)
        go_wp2_with fail
        refine (joinI_any k n (jK (txt k' n' s') (txt kc nc sc) (txF k' n' s') (txF kc nc sc)) 0 s (jT (txt k' n' s') (txt kc nc sc) (txF k' n' s') (txF kc nc sc)) _ hs (jT_le _ _ _ _) (tab_call ht hB)).mono ?_
        rintro e w11 ⟨rfl, hb⟩
        replace hK := hK.call hb
        replace hB := bstep hB hb
        clear hb
        clear x0 x1 x2 xz
        obtain ⟨x0, x1, x2, xz⟩ := hK.get (.tail _ (.tail _ (.tail _ (.head _))))
        replace hK := hK.push (.int .i64 (jK (txt k n s) (txt (jK (txt k' n' s') (txt kc nc sc) (txF k' n' s') (txF kc nc sc)) 0 (jT (txt k' n' s') (txt kc nc sc) (txF k' n' s') (txF kc nc sc))) (txF k n s) (txF (jK (txt k' n' s') (txt kc nc sc) (txF k' n' s') (txF kc nc sc)) 0 (jT (txt k' n' s') (txt kc nc sc) (txF k' n' s') (txF kc nc sc))))) (.int .i64 0) (.string (jT (txt k n s) (txt (jK (txt k' n' s') (txt kc nc sc) (txF k' n' s') (txF kc nc sc)) 0 (jT (txt k' n' s') (txt kc nc sc) (txF k' n' s') (txF kc nc sc))) (txF k n s) (txF (jK (txt k' n' s') (txt kc nc sc) (txF k' n' s') (txF kc nc sc)) 0 (jT (txt k' n' s') (txt kc nc sc) (txF k' n' s') (txF kc nc sc))))) 25
        replace hB := balloc hB (.cells #[.int .i64 (jK (txt k n s) (txt (jK (txt k' n' s') (txt kc nc sc) (txF k' n' s') (txF kc nc sc)) 0 (jT (txt k' n' s') (txt kc nc sc) (txF k' n' s') (txF kc nc sc))) (txF k n s) (txF (jK (txt k' n' s') (txt kc nc sc) (txF k' n' s') (txF kc nc sc)) 0 (jT (txt k' n' s') (txt kc nc sc) (txF k' n' s') (txF kc nc sc)))), .int .i64 0, .string (jT (txt k n s) (txt (jK (txt k' n' s') (txt kc nc sc) (txF k' n' s') (txF kc nc sc)) 0 (jT (txt k' n' s') (txt kc nc sc) (txF k' n' s') (txF kc nc sc))) (txF k n s) (txF (jK (txt k' n' s') (txt kc nc sc) (txF k' n' s') (txF kc nc sc)) 0 (jT (txt k' n' s') (txt kc nc sc) (txF k' n' s') (txF kc nc sc))))] 25)
        clear a0 a1 a2 az
        clear b0 b1 b2 bz
        clear c0 c1 c2 cz
        go_wp2_with fail
        refine (valueOk_any 2 0 ((txt k n s) ++ (txt k' n' s')) _ hxs).mono ?_
        rintro e w12 ⟨rfl, hb⟩
        replace hK := hK.call hb
        replace hB := bstep hB hb
        clear hb
        clear x0 x1 x2 xz
        obtain ⟨x0, x1, x2, xz⟩ := hK.get (.tail _ (.tail _ (.tail _ (.tail _ (.head _)))))
        rw [hXo.out]
        go_wp2
        go_ret
        exact ⟨rfl, hB⟩
    · have HV : Hid (jK (txt k n s) (txt k' n' s') (txF k n s) (txF k' n' s') = 0 ∧ jT (txt k n s) (txt k' n' s') (txF k n s) (txF k' n' s') = ⟨#[]⟩ ∧ jF (txt k n s) (txt k' n' s') (txF k n s) (txF k' n' s') = 2) := j_over hf hg h60
      have HF : Hid ((txF k n s) = 0) := hf
      have HG : Hid ((txF k' n' s') = 0) := hg
      have h60' : (60 : Int) < ((txt k n s).size : Int) + ((txt k' n' s').size : Int) := by omega
      clear hf hg
      have hK := keeps2 w1 (.int .i64 k) (.int .i64 n) (.string s) (.int .i64 k') (.int .i64 n') (.string s') 25
      have hB := balloc (balloc hb1 (.cells #[.int .i64 k, .int .i64 n, .string s] 25)) (.cells #[.int .i64 k', .int .i64 n', .string s'] 25)
      clear hb1
      go_wp2_with fail
      refine (DrawTextOf_any a len cap _ (hcode.up hB.size hB) hlen).mono ?_
      rintro e w2 ⟨v, rfl, ⟨kc, nc, sc, rfl, hsc⟩, hb⟩
      replace hsc : sc.size ≤ maxLen := by unfold maxLen; omega
      replace hK := hK.call hb
      replace hB := bstep hB hb
      clear hb
      obtain ⟨a0, a1, a2, az⟩ := hK.get (.tail _ (.head _))
      obtain ⟨b0, b1, b2, bz⟩ := hK.get (.head _)
      replace hK := hK.push (.int .i64 kc) (.int .i64 nc) (.string sc) 25
      replace hB := balloc hB (.cells #[.int .i64 kc, .int .i64 nc, .string sc] 25)
      go_wp2_with fail
      refine (joinI_any k n k' n' s s' _ hs hs' (tab_call ht hB)).mono ?_
      rintro e w3 ⟨rfl, hb⟩
      replace hK := hK.call hb
      replace hB := bstep hB hb
      clear hb
      obtain ⟨c0, c1, c2, cz⟩ := hK.get (.head _)
      rw [HV.out.1, HV.out.2.1, HV.out.2.2]
      clear a0 a1 a2 az
      clear b0 b1 b2 bz
      replace hK := hK.push (.int .i64 0) (.int .i64 0) (.string ⟨#[]⟩) 25
      replace hB := balloc hB (.cells #[.int .i64 0, .int .i64 0, .string ⟨#[]⟩] 25)
      go_wp2_with fail
      refine (textI_any kc nc sc _ hsc (tab_call ht hB)).mono ?_
      rintro e w4 ⟨rfl, hb⟩
      replace hK := hK.call hb
      replace hB := bstep hB hb
      clear hb
      obtain ⟨a0, a1, a2, az⟩ := hK.get (.tail _ (.tail _ (.tail _ (.head _))))
      obtain ⟨b0, b1, b2, bz⟩ := hK.get (.tail _ (.tail _ (.head _)))
      clear c0 c1 c2 cz
      obtain ⟨c0, c1, c2, cz⟩ := hK.get (.tail _ (.head _))
      go_wp2_with fail
      refine (joinS_any k n k' n' s s' _ hs hs').mono ?_
      rintro e w5 ⟨rfl, hb⟩
      replace hK := hK.call hb
      replace hB := bstep hB hb
      clear hb
      clear c0 c1 c2 cz
      obtain ⟨c0, c1, c2, cz⟩ := hK.get (.tail _ (.head _))
      obtain ⟨x0, x1, x2, xz⟩ := hK.get (.head _)
      rw [HV.out.1, HV.out.2.1, HV.out.2.2]
      clear a0 a1 a2 az
      clear b0 b1 b2 bz
      replace hK := hK.push (.int .i64 0) (.int .i64 0) (.string ⟨#[]⟩) 25
      replace hB := balloc hB (.cells #[.int .i64 0, .int .i64 0, .string ⟨#[]⟩] 25)
      go_wp2_with fail
      refine (textS_any kc nc sc _ hsc).mono ?_
      rintro e w6 ⟨rfl, hb⟩
      replace hK := hK.call hb
      replace hB := bstep hB hb
      clear hb
      obtain ⟨a0, a1, a2, az⟩ := hK.get (.tail _ (.tail _ (.tail _ (.tail _ (.head _)))))
      obtain ⟨b0, b1, b2, bz⟩ := hK.get (.tail _ (.tail _ (.tail _ (.head _))))
      clear c0 c1 c2 cz
      obtain ⟨c0, c1, c2, cz⟩ := hK.get (.tail _ (.tail _ (.head _)))
      clear x0 x1 x2 xz
      obtain ⟨x0, x1, x2, xz⟩ := hK.get (.tail _ (.head _))
      generalize htc : (txt kc nc sc) = tc
      generalize hfc : (txF kc nc sc) = fc
      have HTC : Hid (_ = tc) := htc
      have HFC : Hid (_ = fc) := hfc
      clear htc hfc
      go_wp2_with fail
      refine (textS_any k n s _ hs).mono ?_
      rintro e w7 ⟨rfl, hb⟩
      replace hK := hK.call hb
      replace hB := bstep hB hb
      clear hb
      clear b0 b1 b2 bz
      obtain ⟨b0, b1, b2, bz⟩ := hK.get (.tail _ (.tail _ (.tail _ (.head _))))
      clear c0 c1 c2 cz
      obtain ⟨c0, c1, c2, cz⟩ := hK.get (.tail _ (.tail _ (.head _)))
      clear x0 x1 x2 xz
      obtain ⟨x0, x1, x2, xz⟩ := hK.get (.tail _ (.head _))
      clear a0 a1 a2 az
      obtain ⟨a0, a1, a2, az⟩ := hK.get (.tail _ (.tail _ (.tail _ (.tail _ (.head _)))))
      rw [HF.out]
      go_wp2_with fail
      refine (textS_any k' n' s' _ hs').mono ?_
      rintro e w8 ⟨rfl, hb⟩
      replace hK := hK.call hb
      replace hB := bstep hB hb
      clear hb
      clear a0 a1 a2 az
      obtain ⟨a0, a1, a2, az⟩ := hK.get (.tail _ (.tail _ (.tail _ (.tail _ (.head _)))))
      clear b0 b1 b2 bz
      obtain ⟨b0, b1, b2, bz⟩ := hK.get (.tail _ (.tail _ (.tail _ (.head _))))
      clear c0 c1 c2 cz
      obtain ⟨c0, c1, c2, cz⟩ := hK.get (.tail _ (.tail _ (.head _)))
      clear x0 x1 x2 xz
      obtain ⟨x0, x1, x2, xz⟩ := hK.get (.tail _ (.head _))
      rw [HG.out]
      clear a0 a1 a2 az
      clear b0 b1 b2 bz
      clear c0 c1 c2 cz
      go_wp2
      go_ret
      exact ⟨rfl, hB⟩
  · have HV : Hid (jK (txt k n s) (txt k' n' s') (txF k n s) (txF k' n' s') = 0 ∧ jT (txt k n s) (txt k' n' s') (txF k n s) (txF k' n' s') = ⟨#[]⟩ ∧ jF (txt k n s) (txt k' n' s') (txF k n s) (txF k' n' s') = 1) := j_one _ _ (.inr hg)
    have HF : Hid ((txF k n s) = 0) := hf
    have HG : Hid ((txF k' n' s') = 1) := hg
    clear hf hg
    have hK := keeps2 w1 (.int .i64 k) (.int .i64 n) (.string s) (.int .i64 k') (.int .i64 n') (.string s') 25
    have hB := balloc (balloc hb1 (.cells #[.int .i64 k, .int .i64 n, .string s] 25)) (.cells #[.int .i64 k', .int .i64 n', .string s'] 25)
    clear hb1
    go_wp2_with fail
    refine (DrawTextOf_any a len cap _ (hcode.up hB.size hB) hlen).mono ?_
    rintro e w2 ⟨v, rfl, ⟨kc, nc, sc, rfl, hsc⟩, hb⟩
    replace hsc : sc.size ≤ maxLen := by unfold maxLen; omega
    replace hK := hK.call hb
    replace hB := bstep hB hb
    clear hb
    obtain ⟨a0, a1, a2, az⟩ := hK.get (.tail _ (.head _))
    obtain ⟨b0, b1, b2, bz⟩ := hK.get (.head _)
    replace hK := hK.push (.int .i64 kc) (.int .i64 nc) (.string sc) 25
    replace hB := balloc hB (.cells #[.int .i64 kc, .int .i64 nc, .string sc] 25)
    go_wp2_with fail
    refine (joinI_any k n k' n' s s' _ hs hs' (tab_call ht hB)).mono ?_
    rintro e w3 ⟨rfl, hb⟩
    replace hK := hK.call hb
    replace hB := bstep hB hb
    clear hb
    obtain ⟨c0, c1, c2, cz⟩ := hK.get (.head _)
    rw [HV.out.1, HV.out.2.1, HV.out.2.2]
    clear a0 a1 a2 az
    clear b0 b1 b2 bz
    replace hK := hK.push (.int .i64 0) (.int .i64 0) (.string ⟨#[]⟩) 25
    replace hB := balloc hB (.cells #[.int .i64 0, .int .i64 0, .string ⟨#[]⟩] 25)
    go_wp2_with fail
    refine (textI_any kc nc sc _ hsc (tab_call ht hB)).mono ?_
    rintro e w4 ⟨rfl, hb⟩
    replace hK := hK.call hb
    replace hB := bstep hB hb
    clear hb
    obtain ⟨a0, a1, a2, az⟩ := hK.get (.tail _ (.tail _ (.tail _ (.head _))))
    obtain ⟨b0, b1, b2, bz⟩ := hK.get (.tail _ (.tail _ (.head _)))
    clear c0 c1 c2 cz
    obtain ⟨c0, c1, c2, cz⟩ := hK.get (.tail _ (.head _))
    go_wp2_with fail
    refine (joinS_any k n k' n' s s' _ hs hs').mono ?_
    rintro e w5 ⟨rfl, hb⟩
    replace hK := hK.call hb
    replace hB := bstep hB hb
    clear hb
    clear c0 c1 c2 cz
    obtain ⟨c0, c1, c2, cz⟩ := hK.get (.tail _ (.head _))
    obtain ⟨x0, x1, x2, xz⟩ := hK.get (.head _)
    rw [HV.out.1, HV.out.2.1, HV.out.2.2]
    clear a0 a1 a2 az
    clear b0 b1 b2 bz
    replace hK := hK.push (.int .i64 0) (.int .i64 0) (.string ⟨#[]⟩) 25
    replace hB := balloc hB (.cells #[.int .i64 0, .int .i64 0, .string ⟨#[]⟩] 25)
    go_wp2_with fail
    refine (textS_any kc nc sc _ hsc).mono ?_
    rintro e w6 ⟨rfl, hb⟩
    replace hK := hK.call hb
    replace hB := bstep hB hb
    clear hb
    obtain ⟨a0, a1, a2, az⟩ := hK.get (.tail _ (.tail _ (.tail _ (.tail _ (.head _)))))
    obtain ⟨b0, b1, b2, bz⟩ := hK.get (.tail _ (.tail _ (.tail _ (.head _))))
    clear c0 c1 c2 cz
    obtain ⟨c0, c1, c2, cz⟩ := hK.get (.tail _ (.tail _ (.head _)))
    clear x0 x1 x2 xz
    obtain ⟨x0, x1, x2, xz⟩ := hK.get (.tail _ (.head _))
    generalize htc : (txt kc nc sc) = tc
    generalize hfc : (txF kc nc sc) = fc
    have HTC : Hid (_ = tc) := htc
    have HFC : Hid (_ = fc) := hfc
    clear htc hfc
    go_wp2_with fail
    refine (textS_any k n s _ hs).mono ?_
    rintro e w7 ⟨rfl, hb⟩
    replace hK := hK.call hb
    replace hB := bstep hB hb
    clear hb
    clear b0 b1 b2 bz
    obtain ⟨b0, b1, b2, bz⟩ := hK.get (.tail _ (.tail _ (.tail _ (.head _))))
    clear c0 c1 c2 cz
    obtain ⟨c0, c1, c2, cz⟩ := hK.get (.tail _ (.tail _ (.head _)))
    clear x0 x1 x2 xz
    obtain ⟨x0, x1, x2, xz⟩ := hK.get (.tail _ (.head _))
    clear a0 a1 a2 az
    obtain ⟨a0, a1, a2, az⟩ := hK.get (.tail _ (.tail _ (.tail _ (.tail _ (.head _)))))
    rw [HF.out]
    go_wp2_with fail
    refine (textS_any k' n' s' _ hs').mono ?_
    rintro e w8 ⟨rfl, hb⟩
    replace hK := hK.call hb
    replace hB := bstep hB hb
    clear hb
    clear a0 a1 a2 az
    obtain ⟨a0, a1, a2, az⟩ := hK.get (.tail _ (.tail _ (.tail _ (.tail _ (.head _)))))
    clear b0 b1 b2 bz
    obtain ⟨b0, b1, b2, bz⟩ := hK.get (.tail _ (.tail _ (.tail _ (.head _))))
    clear c0 c1 c2 cz
    obtain ⟨c0, c1, c2, cz⟩ := hK.get (.tail _ (.tail _ (.head _)))
    clear x0 x1 x2 xz
    obtain ⟨x0, x1, x2, xz⟩ := hK.get (.tail _ (.head _))
    rw [HG.out]
    clear a0 a1 a2 az
    clear b0 b1 b2 bz
    clear c0 c1 c2 cz
    go_wp2
    go_ret
    exact ⟨rfl, hB⟩
  · have HV : Hid (jK (txt k n s) (txt k' n' s') (txF k n s) (txF k' n' s') = 0 ∧ jT (txt k n s) (txt k' n' s') (txF k n s) (txF k' n' s') = ⟨#[]⟩ ∧ jF (txt k n s) (txt k' n' s') (txF k n s) (txF k' n' s') = 1) := j_one _ _ (.inl hf)
    have HF : Hid ((txF k n s) = 1) := hf
    have HG : Hid ((txF k' n' s') = 0) := hg
    clear hf hg
    have hK := keeps2 w1 (.int .i64 k) (.int .i64 n) (.string s) (.int .i64 k') (.int .i64 n') (.string s') 25
    have hB := balloc (balloc hb1 (.cells #[.int .i64 k, .int .i64 n, .string s] 25)) (.cells #[.int .i64 k', .int .i64 n', .string s'] 25)
    clear hb1
    go_wp2_with fail
    refine (DrawTextOf_any a len cap _ (hcode.up hB.size hB) hlen).mono ?_
    rintro e w2 ⟨v, rfl, ⟨kc, nc, sc, rfl, hsc⟩, hb⟩
    replace hsc : sc.size ≤ maxLen := by unfold maxLen; omega
    replace hK := hK.call hb
    replace hB := bstep hB hb
    clear hb
    obtain ⟨a0, a1, a2, az⟩ := hK.get (.tail _ (.head _))
    obtain ⟨b0, b1, b2, bz⟩ := hK.get (.head _)
    replace hK := hK.push (.int .i64 kc) (.int .i64 nc) (.string sc) 25
    replace hB := balloc hB (.cells #[.int .i64 kc, .int .i64 nc, .string sc] 25)
    go_wp2_with fail
    refine (joinI_any k n k' n' s s' _ hs hs' (tab_call ht hB)).mono ?_
    rintro e w3 ⟨rfl, hb⟩
    replace hK := hK.call hb
    replace hB := bstep hB hb
    clear hb
    obtain ⟨c0, c1, c2, cz⟩ := hK.get (.head _)
    rw [HV.out.1, HV.out.2.1, HV.out.2.2]
    clear a0 a1 a2 az
    clear b0 b1 b2 bz
    replace hK := hK.push (.int .i64 0) (.int .i64 0) (.string ⟨#[]⟩) 25
    replace hB := balloc hB (.cells #[.int .i64 0, .int .i64 0, .string ⟨#[]⟩] 25)
    go_wp2_with fail
    refine (textI_any kc nc sc _ hsc (tab_call ht hB)).mono ?_
    rintro e w4 ⟨rfl, hb⟩
    replace hK := hK.call hb
    replace hB := bstep hB hb
    clear hb
    obtain ⟨a0, a1, a2, az⟩ := hK.get (.tail _ (.tail _ (.tail _ (.head _))))
    obtain ⟨b0, b1, b2, bz⟩ := hK.get (.tail _ (.tail _ (.head _)))
    clear c0 c1 c2 cz
    obtain ⟨c0, c1, c2, cz⟩ := hK.get (.tail _ (.head _))
    go_wp2_with fail
    refine (joinS_any k n k' n' s s' _ hs hs').mono ?_
    rintro e w5 ⟨rfl, hb⟩
    replace hK := hK.call hb
    replace hB := bstep hB hb
    clear hb
    clear c0 c1 c2 cz
    obtain ⟨c0, c1, c2, cz⟩ := hK.get (.tail _ (.head _))
    obtain ⟨x0, x1, x2, xz⟩ := hK.get (.head _)
    rw [HV.out.1, HV.out.2.1, HV.out.2.2]
    clear a0 a1 a2 az
    clear b0 b1 b2 bz
    replace hK := hK.push (.int .i64 0) (.int .i64 0) (.string ⟨#[]⟩) 25
    replace hB := balloc hB (.cells #[.int .i64 0, .int .i64 0, .string ⟨#[]⟩] 25)
    go_wp2_with fail
    refine (textS_any kc nc sc _ hsc).mono ?_
    rintro e w6 ⟨rfl, hb⟩
    replace hK := hK.call hb
    replace hB := bstep hB hb
    clear hb
    obtain ⟨a0, a1, a2, az⟩ := hK.get (.tail _ (.tail _ (.tail _ (.tail _ (.head _)))))
    obtain ⟨b0, b1, b2, bz⟩ := hK.get (.tail _ (.tail _ (.tail _ (.head _))))
    clear c0 c1 c2 cz
    obtain ⟨c0, c1, c2, cz⟩ := hK.get (.tail _ (.tail _ (.head _)))
    clear x0 x1 x2 xz
    obtain ⟨x0, x1, x2, xz⟩ := hK.get (.tail _ (.head _))
    generalize htc : (txt kc nc sc) = tc
    generalize hfc : (txF kc nc sc) = fc
    have HTC : Hid (_ = tc) := htc
    have HFC : Hid (_ = fc) := hfc
    clear htc hfc
    go_wp2_with fail
    refine (textS_any k n s _ hs).mono ?_
    rintro e w7 ⟨rfl, hb⟩
    replace hK := hK.call hb
    replace hB := bstep hB hb
    clear hb
    clear b0 b1 b2 bz
    obtain ⟨b0, b1, b2, bz⟩ := hK.get (.tail _ (.tail _ (.tail _ (.head _))))
    clear c0 c1 c2 cz
    obtain ⟨c0, c1, c2, cz⟩ := hK.get (.tail _ (.tail _ (.head _)))
    clear x0 x1 x2 xz
    obtain ⟨x0, x1, x2, xz⟩ := hK.get (.tail _ (.head _))
    clear a0 a1 a2 az
    obtain ⟨a0, a1, a2, az⟩ := hK.get (.tail _ (.tail _ (.tail _ (.tail _ (.head _)))))
    rw [HF.out]
    go_wp2_with fail
    refine (textS_any k' n' s' _ hs').mono ?_
    rintro e w8 ⟨rfl, hb⟩
    replace hK := hK.call hb
    replace hB := bstep hB hb
    clear hb
    clear a0 a1 a2 az
    obtain ⟨a0, a1, a2, az⟩ := hK.get (.tail _ (.tail _ (.tail _ (.tail _ (.head _)))))
    clear b0 b1 b2 bz
    obtain ⟨b0, b1, b2, bz⟩ := hK.get (.tail _ (.tail _ (.tail _ (.head _))))
    clear c0 c1 c2 cz
    obtain ⟨c0, c1, c2, cz⟩ := hK.get (.tail _ (.tail _ (.head _)))
    clear x0 x1 x2 xz
    obtain ⟨x0, x1, x2, xz⟩ := hK.get (.tail _ (.head _))
    rw [HG.out]
    clear a0 a1 a2 az
    clear b0 b1 b2 bz
    clear c0 c1 c2 cz
    go_wp2
    go_ret
    exact ⟨rfl, hB⟩
  · have HV : Hid (jK (txt k n s) (txt k' n' s') (txF k n s) (txF k' n' s') = 0 ∧ jT (txt k n s) (txt k' n' s') (txF k n s) (txF k' n' s') = ⟨#[]⟩ ∧ jF (txt k n s) (txt k' n' s') (txF k n s) (txF k' n' s') = 1) := j_one _ _ (.inl hf)
    have HF : Hid ((txF k n s) = 1) := hf
    have HG : Hid ((txF k' n' s') = 1) := hg
    clear hf hg
    have hK := keeps2 w1 (.int .i64 k) (.int .i64 n) (.string s) (.int .i64 k') (.int .i64 n') (.string s') 25
    have hB := balloc (balloc hb1 (.cells #[.int .i64 k, .int .i64 n, .string s] 25)) (.cells #[.int .i64 k', .int .i64 n', .string s'] 25)
    clear hb1
    go_wp2_with fail
    refine (DrawTextOf_any a len cap _ (hcode.up hB.size hB) hlen).mono ?_
    rintro e w2 ⟨v, rfl, ⟨kc, nc, sc, rfl, hsc⟩, hb⟩
    replace hsc : sc.size ≤ maxLen := by unfold maxLen; omega
    replace hK := hK.call hb
    replace hB := bstep hB hb
    clear hb
    obtain ⟨a0, a1, a2, az⟩ := hK.get (.tail _ (.head _))
    obtain ⟨b0, b1, b2, bz⟩ := hK.get (.head _)
    replace hK := hK.push (.int .i64 kc) (.int .i64 nc) (.string sc) 25
    replace hB := balloc hB (.cells #[.int .i64 kc, .int .i64 nc, .string sc] 25)
    go_wp2_with fail
    refine (joinI_any k n k' n' s s' _ hs hs' (tab_call ht hB)).mono ?_
    rintro e w3 ⟨rfl, hb⟩
    replace hK := hK.call hb
    replace hB := bstep hB hb
    clear hb
    obtain ⟨c0, c1, c2, cz⟩ := hK.get (.head _)
    rw [HV.out.1, HV.out.2.1, HV.out.2.2]
    clear a0 a1 a2 az
    clear b0 b1 b2 bz
    replace hK := hK.push (.int .i64 0) (.int .i64 0) (.string ⟨#[]⟩) 25
    replace hB := balloc hB (.cells #[.int .i64 0, .int .i64 0, .string ⟨#[]⟩] 25)
    go_wp2_with fail
    refine (textI_any kc nc sc _ hsc (tab_call ht hB)).mono ?_
    rintro e w4 ⟨rfl, hb⟩
    replace hK := hK.call hb
    replace hB := bstep hB hb
    clear hb
    obtain ⟨a0, a1, a2, az⟩ := hK.get (.tail _ (.tail _ (.tail _ (.head _))))
    obtain ⟨b0, b1, b2, bz⟩ := hK.get (.tail _ (.tail _ (.head _)))
    clear c0 c1 c2 cz
    obtain ⟨c0, c1, c2, cz⟩ := hK.get (.tail _ (.head _))
    go_wp2_with fail
    refine (joinS_any k n k' n' s s' _ hs hs').mono ?_
    rintro e w5 ⟨rfl, hb⟩
    replace hK := hK.call hb
    replace hB := bstep hB hb
    clear hb
    clear c0 c1 c2 cz
    obtain ⟨c0, c1, c2, cz⟩ := hK.get (.tail _ (.head _))
    obtain ⟨x0, x1, x2, xz⟩ := hK.get (.head _)
    rw [HV.out.1, HV.out.2.1, HV.out.2.2]
    clear a0 a1 a2 az
    clear b0 b1 b2 bz
    replace hK := hK.push (.int .i64 0) (.int .i64 0) (.string ⟨#[]⟩) 25
    replace hB := balloc hB (.cells #[.int .i64 0, .int .i64 0, .string ⟨#[]⟩] 25)
    go_wp2_with fail
    refine (textS_any kc nc sc _ hsc).mono ?_
    rintro e w6 ⟨rfl, hb⟩
    replace hK := hK.call hb
    replace hB := bstep hB hb
    clear hb
    obtain ⟨a0, a1, a2, az⟩ := hK.get (.tail _ (.tail _ (.tail _ (.tail _ (.head _)))))
    obtain ⟨b0, b1, b2, bz⟩ := hK.get (.tail _ (.tail _ (.tail _ (.head _))))
    clear c0 c1 c2 cz
    obtain ⟨c0, c1, c2, cz⟩ := hK.get (.tail _ (.tail _ (.head _)))
    clear x0 x1 x2 xz
    obtain ⟨x0, x1, x2, xz⟩ := hK.get (.tail _ (.head _))
    generalize htc : (txt kc nc sc) = tc
    generalize hfc : (txF kc nc sc) = fc
    have HTC : Hid (_ = tc) := htc
    have HFC : Hid (_ = fc) := hfc
    clear htc hfc
    go_wp2_with fail
    refine (textS_any k n s _ hs).mono ?_
    rintro e w7 ⟨rfl, hb⟩
    replace hK := hK.call hb
    replace hB := bstep hB hb
    clear hb
    clear b0 b1 b2 bz
    obtain ⟨b0, b1, b2, bz⟩ := hK.get (.tail _ (.tail _ (.tail _ (.head _))))
    clear c0 c1 c2 cz
    obtain ⟨c0, c1, c2, cz⟩ := hK.get (.tail _ (.tail _ (.head _)))
    clear x0 x1 x2 xz
    obtain ⟨x0, x1, x2, xz⟩ := hK.get (.tail _ (.head _))
    clear a0 a1 a2 az
    obtain ⟨a0, a1, a2, az⟩ := hK.get (.tail _ (.tail _ (.tail _ (.tail _ (.head _)))))
    rw [HF.out]
    go_wp2_with fail
    refine (textS_any k' n' s' _ hs').mono ?_
    rintro e w8 ⟨rfl, hb⟩
    replace hK := hK.call hb
    replace hB := bstep hB hb
    clear hb
    clear a0 a1 a2 az
    obtain ⟨a0, a1, a2, az⟩ := hK.get (.tail _ (.tail _ (.tail _ (.tail _ (.head _)))))
    clear b0 b1 b2 bz
    obtain ⟨b0, b1, b2, bz⟩ := hK.get (.tail _ (.tail _ (.tail _ (.head _))))
    clear c0 c1 c2 cz
    obtain ⟨c0, c1, c2, cz⟩ := hK.get (.tail _ (.tail _ (.head _)))
    clear x0 x1 x2 xz
    obtain ⟨x0, x1, x2, xz⟩ := hK.get (.tail _ (.head _))
    rw [HG.out]
    clear a0 a1 a2 az
    clear b0 b1 b2 bz
    clear c0 c1 c2 cz
    go_wp2
    go_ret
    exact ⟨rfl, hB⟩

end Go.Proofs.YtofcbmccfeaddaaDoor
