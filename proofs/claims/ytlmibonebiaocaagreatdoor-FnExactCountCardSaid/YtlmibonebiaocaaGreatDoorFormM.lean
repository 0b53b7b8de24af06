/-
  Chapter 4, the model: many behind one another, so many sums, a PARAM; and all of them together, by so many steps.
-/
import Derived.Test.YtlmibonebiaocaaGreatDoorFormD
namespace Go.Proofs.YtlmibonebiaocaaGreatDoor
open Go.RowKit

section
variable {a : Option Addr} {cap : Nat} {L : List ByteArray} {n : Nat} {i : Int} {w : World}

theorem frm_many {q : Nat} (hq : q ≤ 3) : frm L (n + 1) (4 + q) i = manyS L (frm L n) q i := by
  obtain rfl | rfl | rfl | rfl : q = 0 ∨ q = 1 ∨ q = 2 ∨ q = 3 := by omega
  all_goals rfl
theorem frm_sums {q : Nat} : frm L (n + 1) (8 + q) i = sumsS (frm L n) q i := by
  unfold frm
  rw [if_neg (by omega), if_neg (by omega), if_neg (by omega), if_neg (by omega), if_neg (by omega), show 8 + q - 8 = q by omega]
theorem far_pos (h0 : 0 ≤ i) (h1 : i ≤ (L.length : Int) + 1) : 1 ≤ farN L i := by
  unfold farN
  rw [if_neg (by omega)]
  omega
theorem far_neg : farN L (-1) = 0 := rfl

set_option maxHeartbeats 4000000 in
theorem par_all (IH : Forms a cap L n) (hA : ArgT w a L) (hL : L.length ≤ 1048576) (hi : I64 i) (hn : 8 * farN L i + 1 ≤ n + 1) :
    Calls Tryz.prog 39 #[.slice a L.length cap, .int .i64 i] w fun e w' => e = .returned (.int .i64 (frm L (n + 1) 3 i)) ∧ Below w.heap.size w w' := by
  have HV : Hid (frm L (n + 1) 3 i = parS L (frm L n) i) := (rfl : frm L (n + 1) 3 i = parS L (frm L n) i)
  cases ho : isW (sgAt L i) [40]
  · have HP : Hid (parS L (frm L n) i = nmE L i) := (by unfold parS; rw [ho]; rfl : parS L (frm L n) i = nmE L i)
    have b40 : ((sgAt L i).toList == [40]) = false := ho
    clear ho
    go_enter Tryz.func39, Tryz.ntmps39
    go_wp2_with fail
    refine (l4Sign_any a cap L i _ hA hL hi).mono ?_
    rintro e w1 ⟨rfl, hb1⟩
    have hA1 := hA.call hb1
    generalize sgAt L i = t at b40
    go_wp2_with fail
    refine (l4NameEnd_any a cap L i _ hA1 hL hi).mono ?_
    rintro e w2 ⟨rfl, hb2⟩
    go_wp2
    go_ret
    exact ⟨by rw [HV.out, HP.out]; rfl, bstep hb1 hb2⟩
  · obtain ⟨h0, h1⟩ := sgAt_open ho
    have HP : Hid (parS L (frm L n) i = isE L (frm L n 0 (nmE L (i + 1))) [41]) := (by unfold parS; rw [ho]; rfl : parS L (frm L n) i = isE L (frm L n 0 (nmE L (i + 1))) [41])
    have HO : Hid (sgAt L i = ⟨#[40]⟩) := isW_eq ho
    have hr := frm_good L n
    have E1 : Ends L (i + 1) (nmE L (i + 1)) := nmE_ends (fw_at (by omega))
    have E2 : Ends L (i + 1) (frm L n 0 (nmE L (i + 1))) := hr.ends (by decide) E1.fw
    have s1 : -1 ≤ nmE L (i + 1) ∧ nmE L (i + 1) ≤ (L.length : Int) + 1 ∧ farN L (nmE L (i + 1)) + 1 ≤ farN L i := by
      have hp := far_pos (L := L) h0 (by omega)
      rcases far_ends E1 (by omega) with hf | ⟨hf, hz⟩
      · have : farN L (i + 1) ≤ farN L i := by unfold farN; rw [if_neg (by omega), if_neg (by omega)]; omega
        unfold Ends at E1
        omega
      · unfold Ends at E1
        omega
    have s2 : -1 ≤ frm L n 0 (nmE L (i + 1)) ∧ frm L n 0 (nmE L (i + 1)) ≤ (L.length : Int) + 1 := by unfold Ends at E2; omega
    clear ho E1 E2 hr
    go_enter Tryz.func39, Tryz.ntmps39
    go_wp2_with fail
    refine (l4Sign_any a cap L i _ hA hL hi).mono ?_
    rintro e w1 ⟨rfl, hb1⟩
    rw [HO.out]
    have hA1 := hA.call hb1
    go_wp2_with fail
    refine (l4NameEnd_any a cap L (i + 1) _ hA1 hL ⟨by omega, by omega⟩).mono ?_
    rintro e w2 ⟨rfl, hb2⟩
    have hA2 := hA1.call hb2
    have hB2 := bstep hb1 hb2
    go_wp2_with fail
    refine (IH.sum _ _ hA2 ⟨by omega, by omega⟩ (by omega)).mono ?_
    rintro e w3 ⟨rfl, hb3⟩
    have hA3 := hA2.call hb3
    have hB3 := bstep hB2 hb3
    go_wp2_with fail
    refine (l4Is_any a cap L _ [41] _ hA3 hL ⟨by omega, by omega⟩ (by decide)).mono ?_
    rintro e w4 ⟨rfl, hb4⟩
    go_wp2
    go_ret
    exact ⟨by rw [HV.out, HP.out]; rfl, bstep hB3 hb4⟩

set_option maxHeartbeats 4000000 in
theorem sums_all (q : Nat) (IH : ∀ m, m ≤ n → Forms a cap L m) (hA : ArgT w a L) (hq : q ≤ 3) (h0 : -1 ≤ i) (h1 : i ≤ (L.length : Int) + 1) (hL : L.length ≤ 1048576) (hn : 8 * farN L i + 2 + q ≤ n + 1) :
    Calls Tryz.prog 24 #[.slice a L.length cap, .int .i64 i, .int .i64 (q : Int)] w fun e w' => e = .returned (.int .i64 (frm L (n + 1) (8 + q) i)) ∧ Below w.heap.size w w' := by
  go_enter Tryz.func24, Tryz.ntmps24
  go_wp2
  go_loopw [1, 2] (fun v1 v2 wr => ∃ (m k : Nat) (x : Int), v1 = .int .i64 x ∧ v2 = .int .i64 (k : Int) ∧ m ≤ n ∧ k ≤ 3 ∧ -1 ≤ x ∧ x ≤ (L.length : Int) + 1 ∧ 8 * farN L x + 2 + k ≤ m + 1 ∧ Hid (frm L (m + 1) (8 + k) x = frm L (n + 1) (8 + q) i) ∧ Below w.heap.size w wr) (fun _ v2 _ => (intOf v2).toNat)
  case atStart => exact ⟨n, q, i, rfl, rfl, Nat.le_refl _, hq, h0, h1, hn, rfl, Below.refl _ _⟩
  case round =>
    obtain ⟨m, k, x, rfl, rfl, hm, hk, hx0, hx1, hf, HT, hB⟩ := hrel
    cases k with
    | zero =>
      have HE : Hid (frm L (n + 1) (8 + q) i = x) := (by rw [← HT.out, frm_sums]; rfl : frm L (n + 1) (8 + q) i = x)
      clear HT
      go_wp2
      go_ret
      exact ⟨by rw [HE.out]; rfl, hB⟩
    | succ j =>
      by_cases hneg : x < 0
      · have HE : Hid (frm L (n + 1) (8 + q) i = x) := (by rw [← HT.out, frm_sums]; show (if x < 0 then x else _) = x; rw [if_pos hneg] : frm L (n + 1) (8 + q) i = x)
        clear HT
        go_wp2
        go_ret
        exact ⟨by rw [HE.out]; rfl, hB⟩
      · have HE : Hid (frm L m (8 + j) (frm L m 0 x) = frm L (n + 1) (8 + q) i) := (by rw [← HT.out, frm_sums]; show _ = (if x < 0 then x else _); rw [if_neg hneg] : frm L m (8 + j) (frm L m 0 x) = frm L (n + 1) (8 + q) i)
        have hE := (frm_good L m).1 0 x (by decide)
        have hfe := far_ends hE hx1
        have hp := far_pos (L := L) (i := x) (by omega) hx1
        have hA' := hA.call hB
        clear HT
        go_wp2_with fail
        refine ((IH m hm).sum x _ hA' ⟨by omega, by omega⟩ (by omega)).mono ?_
        rintro e w1 ⟨rfl, hb1⟩
        have hB1 := bstep hB hb1
        generalize frm L m 0 x = y at HE hE hfe
        unfold Ends at hE
        cases m with
        | zero => omega
        | succ m' =>
          go_wp2
          go_roundw
          case rel => exact ⟨m', j, y, rfl, by go_num, by omega, by omega, by omega, by omega, by omega, HE.out, hB1⟩
          case measure => simp [intOf]

theorem many_stop {q : Nat} (hq : q ≤ 3) (h : i < 0 ∨ isW (sgAt L i) [41] = true) : frm L (n + 1) (4 + q) i = i := by
  rw [frm_many hq]
  unfold manyS
  rw [if_pos h]
theorem many_go {q : Nat} (hq : q ≤ 3) (h : ¬ (i < 0 ∨ isW (sgAt L i) [41] = true)) : frm L (n + 1) (4 + q) i = frm L n (4 + q) (oneS L (frm L n) q i) := by
  rw [frm_many hq]
  unfold manyS
  rw [if_neg h]

set_option maxHeartbeats 4000000 in
theorem many_all0 (IH : ∀ m, m ≤ n → Forms a cap L m) (hA : ArgT w a L) (h0 : -1 ≤ i) (h1 : i ≤ (L.length : Int) + 1) (hL : L.length ≤ 1048576) (hn : 8 * farN L i + 2 ≤ n + 1) :
    Calls Tryz.prog 25 #[.slice a L.length cap, .int .i64 i, .int .i64 0] w fun e w' => e = .returned (.int .i64 (frm L (n + 1) (4 + 0) i)) ∧ Below w.heap.size w w' := by
  go_enter Tryz.func25, Tryz.ntmps25
  go_wp2
  go_loopw [1] (fun v1 wr => ∃ (m : Nat) (x : Int), v1 = .int .i64 x ∧ m ≤ n ∧ -1 ≤ x ∧ x ≤ (L.length : Int) + 1 ∧ 8 * farN L x + 2 ≤ m + 1 ∧ Hid (frm L (m + 1) (4 + 0) x = frm L (n + 1) (4 + 0) i) ∧ Below w.heap.size w wr) (fun v1 _ => farN L (intOf v1))
  case atStart => exact ⟨n, i, rfl, Nat.le_refl _, h0, h1, hn, rfl, Below.refl _ _⟩
  case round =>
    obtain ⟨m, x, rfl, hm, hx0, hx1, hf, HT, hB⟩ := hrel
    by_cases hneg : x < 0
    · have HE : Hid (frm L (n + 1) (4 + 0) i = x) := (HT.out.symm.trans (many_stop (by decide) (Or.inl hneg)) : frm L (n + 1) (4 + 0) i = x)
      clear HT
      go_wp2
      go_ret
      exact ⟨by rw [HE.out]; rfl, hB⟩
    have hA' := hA.call hB
    cases hw : isW (sgAt L x) [41]
    · have HE : Hid (frm L m (4 + 0) (frm L m 0 x) = frm L (n + 1) (4 + 0) i) := ((HT.out.symm.trans (many_go (by decide) (by rw [hw]; simp; omega))).symm : frm L m (4 + 0) (frm L m 0 x) = frm L (n + 1) (4 + 0) i)
      have hE : Ends L x (frm L m 0 x) := oneS_ends (frm_good L m) 0 hx0
      have hfe := far_ends hE hx1
      have hp := far_pos (L := L) (i := x) (by omega) hx1
      have b41 : ((sgAt L x).toList == [41]) = false := hw
      clear HT hw
      go_wp2_with fail
      refine (l4Sign_any a cap L x _ hA' hL ⟨by omega, by omega⟩).mono ?_
      rintro e w1 ⟨rfl, hb1⟩
      have hA2 := hA'.call hb1
      have hB1 := bstep hB hb1
      generalize sgAt L x = t at b41
      go_wp2_with fail
      refine ((IH m hm).sum x _ hA2 ⟨by omega, by omega⟩ (by omega)).mono ?_
      rintro e w2 ⟨rfl, hb2⟩
      have hB2 := bstep hB1 hb2
      generalize frm L m 0 x = y at HE hE hfe
      unfold Ends at hE
      cases m with
      | zero => omega
      | succ m' =>
        go_wp2
        go_roundw
        case rel => exact ⟨m', y, rfl, by omega, by omega, by omega, by omega, HE.out, hB2⟩
        case measure => simp [intOf]; omega
    · have HE : Hid (frm L (n + 1) (4 + 0) i = x) := (HT.out.symm.trans (many_stop (by decide) (Or.inr hw)) : frm L (n + 1) (4 + 0) i = x)
      have HW : Hid (sgAt L x = ⟨#[41]⟩) := isW_eq hw
      clear HT hw
      go_wp2_with fail
      refine (l4Sign_any a cap L x _ hA' hL ⟨by omega, by omega⟩).mono ?_
      rintro e w1 ⟨rfl, hb1⟩
      rw [HW.out]
      go_wp2
      go_ret
      exact ⟨by rw [HE.out]; rfl, bstep hB hb1⟩

set_option maxHeartbeats 4000000 in
theorem many_all1 (_IH : ∀ m, m ≤ n → Forms a cap L m) (hA : ArgT w a L) (h0 : -1 ≤ i) (h1 : i ≤ (L.length : Int) + 1) (hL : L.length ≤ 1048576) (hn : 8 * farN L i + 2 ≤ n + 1) :
    Calls Tryz.prog 25 #[.slice a L.length cap, .int .i64 i, .int .i64 1] w fun e w' => e = .returned (.int .i64 (frm L (n + 1) (4 + 1) i)) ∧ Below w.heap.size w w' := by
  go_enter Tryz.func25, Tryz.ntmps25
  go_wp2
  go_loopw [1] (fun v1 wr => ∃ (m : Nat) (x : Int), v1 = .int .i64 x ∧ m ≤ n ∧ -1 ≤ x ∧ x ≤ (L.length : Int) + 1 ∧ 8 * farN L x + 2 ≤ m + 1 ∧ Hid (frm L (m + 1) (4 + 1) x = frm L (n + 1) (4 + 1) i) ∧ Below w.heap.size w wr) (fun v1 _ => farN L (intOf v1))
  case atStart => exact ⟨n, i, rfl, Nat.le_refl _, h0, h1, hn, rfl, Below.refl _ _⟩
  case round =>
    obtain ⟨m, x, rfl, hm, hx0, hx1, hf, HT, hB⟩ := hrel
    by_cases hneg : x < 0
    · have HE : Hid (frm L (n + 1) (4 + 1) i = x) := (HT.out.symm.trans (many_stop (by decide) (Or.inl hneg)) : frm L (n + 1) (4 + 1) i = x)
      clear HT
      go_wp2
      go_ret
      exact ⟨by rw [HE.out]; rfl, hB⟩
    have hA' := hA.call hB
    cases hw : isW (sgAt L x) [41]
    · have HE : Hid (frm L m (4 + 1) (nmE L x) = frm L (n + 1) (4 + 1) i) := ((HT.out.symm.trans (many_go (by decide) (by rw [hw]; simp; omega))).symm : frm L m (4 + 1) (nmE L x) = frm L (n + 1) (4 + 1) i)
      have hE : Ends L x (nmE L x) := oneS_ends (frm_good L m) 1 hx0
      have hfe := far_ends hE hx1
      have hp := far_pos (L := L) (i := x) (by omega) hx1
      have b41 : ((sgAt L x).toList == [41]) = false := hw
      clear HT hw
      go_wp2_with fail
      refine (l4Sign_any a cap L x _ hA' hL ⟨by omega, by omega⟩).mono ?_
      rintro e w1 ⟨rfl, hb1⟩
      have hA2 := hA'.call hb1
      have hB1 := bstep hB hb1
      generalize sgAt L x = t at b41
      go_wp2_with fail
      refine (l4NameEnd_any a cap L x _ hA2 hL ⟨by omega, by omega⟩).mono ?_
      rintro e w2 ⟨rfl, hb2⟩
      have hB2 := bstep hB1 hb2
      generalize nmE L x = y at HE hE hfe
      unfold Ends at hE
      cases m with
      | zero => omega
      | succ m' =>
        go_wp2
        go_roundw
        case rel => exact ⟨m', y, rfl, by omega, by omega, by omega, by omega, HE.out, hB2⟩
        case measure => simp [intOf]; omega
    · have HE : Hid (frm L (n + 1) (4 + 1) i = x) := (HT.out.symm.trans (many_stop (by decide) (Or.inr hw)) : frm L (n + 1) (4 + 1) i = x)
      have HW : Hid (sgAt L x = ⟨#[41]⟩) := isW_eq hw
      clear HT hw
      go_wp2_with fail
      refine (l4Sign_any a cap L x _ hA' hL ⟨by omega, by omega⟩).mono ?_
      rintro e w1 ⟨rfl, hb1⟩
      rw [HW.out]
      go_wp2
      go_ret
      exact ⟨by rw [HE.out]; rfl, bstep hB hb1⟩

set_option maxHeartbeats 4000000 in
theorem many_all2 (IH : ∀ m, m ≤ n → Forms a cap L m) (hA : ArgT w a L) (h0 : -1 ≤ i) (h1 : i ≤ (L.length : Int) + 1) (hL : L.length ≤ 1048576) (hn : 8 * farN L i + 2 ≤ n + 1) :
    Calls Tryz.prog 25 #[.slice a L.length cap, .int .i64 i, .int .i64 2] w fun e w' => e = .returned (.int .i64 (frm L (n + 1) (4 + 2) i)) ∧ Below w.heap.size w w' := by
  go_enter Tryz.func25, Tryz.ntmps25
  go_wp2
  go_loopw [1] (fun v1 wr => ∃ (m : Nat) (x : Int), v1 = .int .i64 x ∧ m ≤ n ∧ -1 ≤ x ∧ x ≤ (L.length : Int) + 1 ∧ 8 * farN L x + 2 ≤ m + 1 ∧ Hid (frm L (m + 1) (4 + 2) x = frm L (n + 1) (4 + 2) i) ∧ Below w.heap.size w wr) (fun v1 _ => farN L (intOf v1))
  case atStart => exact ⟨n, i, rfl, Nat.le_refl _, h0, h1, hn, rfl, Below.refl _ _⟩
  case round =>
    obtain ⟨m, x, rfl, hm, hx0, hx1, hf, HT, hB⟩ := hrel
    by_cases hneg : x < 0
    · have HE : Hid (frm L (n + 1) (4 + 2) i = x) := (HT.out.symm.trans (many_stop (by decide) (Or.inl hneg)) : frm L (n + 1) (4 + 2) i = x)
      clear HT
      go_wp2
      go_ret
      exact ⟨by rw [HE.out]; rfl, hB⟩
    have hA' := hA.call hB
    cases hw : isW (sgAt L x) [41]
    · have HE : Hid (frm L m (4 + 2) (frm L m 1 x) = frm L (n + 1) (4 + 2) i) := ((HT.out.symm.trans (many_go (by decide) (by rw [hw]; simp; omega))).symm : frm L m (4 + 2) (frm L m 1 x) = frm L (n + 1) (4 + 2) i)
      have hE : Ends L x (frm L m 1 x) := oneS_ends (frm_good L m) 2 hx0
      have hfe := far_ends hE hx1
      have hp := far_pos (L := L) (i := x) (by omega) hx1
      have b41 : ((sgAt L x).toList == [41]) = false := hw
      clear HT hw
      go_wp2_with fail
      refine (l4Sign_any a cap L x _ hA' hL ⟨by omega, by omega⟩).mono ?_
      rintro e w1 ⟨rfl, hb1⟩
      have hA2 := hA'.call hb1
      have hB1 := bstep hB hb1
      generalize sgAt L x = t at b41
      go_wp2_with fail
      refine ((IH m hm).deed x true _ hA2 ⟨by omega, by omega⟩ (by omega)).mono ?_
      rintro e w2 ⟨rfl, hb2⟩
      have hB2 := bstep hB1 hb2
      rw [show (if true = true then 1 else 2) = 1 from rfl]
      generalize frm L m 1 x = y at HE hE hfe
      unfold Ends at hE
      cases m with
      | zero => omega
      | succ m' =>
        go_wp2
        go_roundw
        case rel => exact ⟨m', y, rfl, by omega, by omega, by omega, by omega, HE.out, hB2⟩
        case measure => simp [intOf]; omega
    · have HE : Hid (frm L (n + 1) (4 + 2) i = x) := (HT.out.symm.trans (many_stop (by decide) (Or.inr hw)) : frm L (n + 1) (4 + 2) i = x)
      have HW : Hid (sgAt L x = ⟨#[41]⟩) := isW_eq hw
      clear HT hw
      go_wp2_with fail
      refine (l4Sign_any a cap L x _ hA' hL ⟨by omega, by omega⟩).mono ?_
      rintro e w1 ⟨rfl, hb1⟩
      rw [HW.out]
      go_wp2
      go_ret
      exact ⟨by rw [HE.out]; rfl, bstep hB hb1⟩

set_option maxHeartbeats 4000000 in
theorem many_all3 (IH : ∀ m, m ≤ n → Forms a cap L m) (hA : ArgT w a L) (h0 : -1 ≤ i) (h1 : i ≤ (L.length : Int) + 1) (hL : L.length ≤ 1048576) (hn : 8 * farN L i + 2 ≤ n + 1) :
    Calls Tryz.prog 25 #[.slice a L.length cap, .int .i64 i, .int .i64 3] w fun e w' => e = .returned (.int .i64 (frm L (n + 1) (4 + 3) i)) ∧ Below w.heap.size w w' := by
  go_enter Tryz.func25, Tryz.ntmps25
  go_wp2
  go_loopw [1] (fun v1 wr => ∃ (m : Nat) (x : Int), v1 = .int .i64 x ∧ m ≤ n ∧ -1 ≤ x ∧ x ≤ (L.length : Int) + 1 ∧ 8 * farN L x + 2 ≤ m + 1 ∧ Hid (frm L (m + 1) (4 + 3) x = frm L (n + 1) (4 + 3) i) ∧ Below w.heap.size w wr) (fun v1 _ => farN L (intOf v1))
  case atStart => exact ⟨n, i, rfl, Nat.le_refl _, h0, h1, hn, rfl, Below.refl _ _⟩
  case round =>
    obtain ⟨m, x, rfl, hm, hx0, hx1, hf, HT, hB⟩ := hrel
    by_cases hneg : x < 0
    · have HE : Hid (frm L (n + 1) (4 + 3) i = x) := (HT.out.symm.trans (many_stop (by decide) (Or.inl hneg)) : frm L (n + 1) (4 + 3) i = x)
      clear HT
      go_wp2
      go_ret
      exact ⟨by rw [HE.out]; rfl, hB⟩
    have hA' := hA.call hB
    cases hw : isW (sgAt L x) [41]
    · have HE : Hid (frm L m (4 + 3) (frm L m 3 x) = frm L (n + 1) (4 + 3) i) := ((HT.out.symm.trans (many_go (by decide) (by rw [hw]; simp; omega))).symm : frm L m (4 + 3) (frm L m 3 x) = frm L (n + 1) (4 + 3) i)
      have hE : Ends L x (frm L m 3 x) := oneS_ends (frm_good L m) 3 hx0
      have hfe := far_ends hE hx1
      have hp := far_pos (L := L) (i := x) (by omega) hx1
      have b41 : ((sgAt L x).toList == [41]) = false := hw
      clear HT hw
      go_wp2_with fail
      refine (l4Sign_any a cap L x _ hA' hL ⟨by omega, by omega⟩).mono ?_
      rintro e w1 ⟨rfl, hb1⟩
      have hA2 := hA'.call hb1
      have hB1 := bstep hB hb1
      generalize sgAt L x = t at b41
      go_wp2_with fail
      refine ((IH m hm).par x _ hA2 ⟨by omega, by omega⟩ (by omega)).mono ?_
      rintro e w2 ⟨rfl, hb2⟩
      have hB2 := bstep hB1 hb2
      generalize frm L m 3 x = y at HE hE hfe
      unfold Ends at hE
      cases m with
      | zero => omega
      | succ m' =>
        go_wp2
        go_roundw
        case rel => exact ⟨m', y, rfl, by omega, by omega, by omega, by omega, HE.out, hB2⟩
        case measure => simp [intOf]; omega
    · have HE : Hid (frm L (n + 1) (4 + 3) i = x) := (HT.out.symm.trans (many_stop (by decide) (Or.inr hw)) : frm L (n + 1) (4 + 3) i = x)
      have HW : Hid (sgAt L x = ⟨#[41]⟩) := isW_eq hw
      clear HT hw
      go_wp2_with fail
      refine (l4Sign_any a cap L x _ hA' hL ⟨by omega, by omega⟩).mono ?_
      rintro e w1 ⟨rfl, hb1⟩
      rw [HW.out]
      go_wp2
      go_ret
      exact ⟨by rw [HE.out]; rfl, bstep hB hb1⟩

end

/-- All of them, by as many steps as are enough. -/
theorem forms_all (a : Option Addr) (cap : Nat) (L : List ByteArray) (hL : L.length ≤ 1048576) (n : Nat) : Forms a cap L n := by
  induction n using Nat.strongRecOn with
  | ind n ih =>
    cases n with
    | zero => exact ⟨fun i w _ _ h => by omega, fun i f w _ _ h => by omega, fun i w _ _ h => by omega, fun q i w _ _ _ _ h => by omega, fun q i w _ _ _ _ h => by omega⟩
    | succ n =>
      have IH : ∀ m, m ≤ n → Forms a cap L m := fun m hm => ih m (by omega)
      refine ⟨fun i w hA hi hn => sum_all (IH n (Nat.le_refl _)) hA hL hi hn, fun i f w hA hi hn => deed_all f (IH n (Nat.le_refl _)) hA hL hi hn, fun i w hA hi hn => par_all (IH n (Nat.le_refl _)) hA hL hi hn, fun q i w hA hq h0 h1 hn => ?_, fun q i w hA hq h0 h1 hn => sums_all q IH hA hq h0 h1 hL hn⟩
      obtain rfl | rfl | rfl | rfl : q = 0 ∨ q = 1 ∨ q = 2 ∨ q = 3 := by omega
      · exact many_all0 IH hA h0 h1 hL hn
      · exact many_all1 IH hA h0 h1 hL hn
      · exact many_all2 IH hA h0 h1 hL hn
      · exact many_all3 IH hA h0 h1 hL hn

end Go.Proofs.YtlmibonebiaocaaGreatDoor
