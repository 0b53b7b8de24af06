/-
  Chapter 4, the model: where a sum ends.
-/
import Derived.Test.YtlmibonebiaocaaGreatDoorFormW
import Derived.Test.YtlmibonebiaocaaGreatDoorFormB
import Derived.Test.YtlmibonebiaocaaGreatDoorValS
namespace Go.Proofs.YtlmibonebiaocaaGreatDoor
open Go.RowKit

/-- The model's functions of chapter 4 answer so, where so many steps are enough. -/
structure Forms (a : Option Addr) (cap : Nat) (L : List ByteArray) (n : Nat) : Prop where
  sum : ∀ (i : Int) (w : World), ArgT w a L → I64 i → 8 * farN L i + 1 ≤ n → Calls Tryz.prog 8 #[.slice a L.length cap, .int .i64 i] w fun e w' => e = .returned (.int .i64 (frm L n 0 i)) ∧ Below w.heap.size w w'
  deed : ∀ (i : Int) (f : Bool) (w : World), ArgT w a L → I64 i → 8 * farN L i + 1 ≤ n → Calls Tryz.prog 29 #[.slice a L.length cap, .int .i64 i, .bool f] w fun e w' => e = .returned (.int .i64 (frm L n (if f then 1 else 2) i)) ∧ Below w.heap.size w w'
  par : ∀ (i : Int) (w : World), ArgT w a L → I64 i → 8 * farN L i + 1 ≤ n → Calls Tryz.prog 39 #[.slice a L.length cap, .int .i64 i] w fun e w' => e = .returned (.int .i64 (frm L n 3 i)) ∧ Below w.heap.size w w'
  many : ∀ (q : Nat) (i : Int) (w : World), ArgT w a L → q ≤ 3 → -1 ≤ i → i ≤ (L.length : Int) + 1 → 8 * farN L i + 2 ≤ n → Calls Tryz.prog 25 #[.slice a L.length cap, .int .i64 i, .int .i64 (q : Int)] w fun e w' => e = .returned (.int .i64 (frm L n (4 + q) i)) ∧ Below w.heap.size w w'
  sums : ∀ (q : Nat) (i : Int) (w : World), ArgT w a L → q ≤ 3 → -1 ≤ i → i ≤ (L.length : Int) + 1 → 8 * farN L i + 2 + q ≤ n → Calls Tryz.prog 24 #[.slice a L.length cap, .int .i64 i, .int .i64 (q : Int)] w fun e w' => e = .returned (.int .i64 (frm L n (8 + q) i)) ∧ Below w.heap.size w w'

theorem sub_of {L : List ByteArray} {i x : Int} (h0 : 0 ≤ i) (h1 : i < (L.length : Int)) (h : Fw L (i + 2) x) : -1 ≤ x ∧ x ≤ (L.length : Int) + 1 ∧ farN L x + 1 ≤ farN L i := by
  unfold Fw at h
  unfold farN
  rw [if_neg (show ¬ i < 0 by omega)]
  split <;> omega

section
variable {a : Option Addr} {cap : Nat} {L : List ByteArray} {n : Nat} {i : Int} {w : World}

set_option maxHeartbeats 4000000 in
theorem sum_flat (hA : ArgT w a L) (hL : L.length ≤ 1048576) (hi : I64 i) (ho : isW (sgAt L i) [40] = false) :
    Calls Tryz.prog 8 #[.slice a L.length cap, .int .i64 i] w fun e w' => e = .returned (.int .i64 (frm L (n + 1) 0 i)) ∧ Below w.heap.size w w' := by
  have hm := sgAt_size hA i
  cases hv : viB (sgAt L i)
  · cases hn : nmB (sgAt L i)
    · have HV : Hid (frm L (n + 1) 0 i = -1) := sumS_none ho (by show (viB (sgAt L i) || nmB (sgAt L i)) = false; rw [hv, hn]; rfl)
      have HB : Hid (viB (sgAt L i) = false) := hv
      have HN : Hid (nmB (sgAt L i) = false) := hn
      have b40 : ((sgAt L i).toList == [40]) = false := ho
      clear hv hn ho
      go_enter Tryz.func8, Tryz.ntmps8
      go_wp2_with fail
      refine (l4Sign_any a cap L i _ hA hL hi).mono ?_
      rintro e w1 ⟨rfl, hb1⟩
      generalize sgAt L i = t at hm HB HN b40
      go_wp2_with fail
      refine (valueInS_any t _ hm).mono ?_
      rintro e w2 ⟨rfl, hb2⟩
      rw [HB.out]
      go_wp2_with fail
      refine (l4Name_any t _ hm).mono ?_
      rintro e w3 ⟨rfl, hb3⟩
      rw [HN.out]
      go_wp2
      go_ret
      exact ⟨by rw [HV.out]; rfl, bstep (balloc (bstep hb1 hb2) _) hb3⟩
    · have HV : Hid (frm L (n + 1) 0 i = i + 1) := sumS_one ho (by show (viB (sgAt L i) || nmB (sgAt L i)) = true; rw [hv, hn]; rfl)
      have hin : 0 ≤ i ∧ i < (L.length : Int) := by
        by_cases hin : 0 ≤ i ∧ i < (L.length : Int)
        · exact hin
        · rw [sgAt_out hin] at hn
          exact absurd hn (by decide +kernel)
      obtain ⟨h0, h1⟩ := hin
      have HB : Hid (viB (sgAt L i) = false) := hv
      have HN : Hid (nmB (sgAt L i) = true) := hn
      have b40 : ((sgAt L i).toList == [40]) = false := ho
      clear hv hn ho
      go_enter Tryz.func8, Tryz.ntmps8
      go_wp2_with fail
      refine (l4Sign_any a cap L i _ hA hL hi).mono ?_
      rintro e w1 ⟨rfl, hb1⟩
      generalize sgAt L i = t at hm HB HN b40
      go_wp2_with fail
      refine (valueInS_any t _ hm).mono ?_
      rintro e w2 ⟨rfl, hb2⟩
      rw [HB.out]
      go_wp2_with fail
      refine (l4Name_any t _ hm).mono ?_
      rintro e w3 ⟨rfl, hb3⟩
      rw [HN.out]
      go_wp2
      go_ret
      exact ⟨by rw [HV.out]; rfl, bstep (balloc (bstep hb1 hb2) _) hb3⟩
  · have HV : Hid (frm L (n + 1) 0 i = i + 1) := sumS_one ho (by show (viB (sgAt L i) || nmB (sgAt L i)) = true; rw [hv]; rfl)
    have hin : 0 ≤ i ∧ i < (L.length : Int) := by
      by_cases hin : 0 ≤ i ∧ i < (L.length : Int)
      · exact hin
      · rw [sgAt_out hin] at hv
        exact absurd hv (by decide +kernel)
    obtain ⟨h0, h1⟩ := hin
    have HB : Hid (viB (sgAt L i) = true) := hv
    have b40 : ((sgAt L i).toList == [40]) = false := ho
    clear hv ho
    go_enter Tryz.func8, Tryz.ntmps8
    go_wp2_with fail
    refine (l4Sign_any a cap L i _ hA hL hi).mono ?_
    rintro e w1 ⟨rfl, hb1⟩
    generalize sgAt L i = t at hm HB b40
    go_wp2_with fail
    refine (valueInS_any t _ hm).mono ?_
    rintro e w2 ⟨rfl, hb2⟩
    rw [HB.out]
    go_wp2
    go_ret
    exact ⟨by rw [HV.out]; rfl, balloc (bstep hb1 hb2) _⟩

set_option maxHeartbeats 4000000 in
theorem sum_op (IH : Forms a cap L n) (hA : ArgT w a L) (hL : L.length ≤ 1048576) (hn : 8 * farN L i + 1 ≤ n + 1) (ho : isW (sgAt L i) [40] = true) (hh : opB (sgAt L (i + 1)) = true) :
    Calls Tryz.prog 8 #[.slice a L.length cap, .int .i64 i] w fun e w' => e = .returned (.int .i64 (frm L (n + 1) 0 i)) ∧ Below w.heap.size w w' := by
  obtain ⟨h0, h1⟩ := sgAt_open ho
  have hr := frm_good L n
  have HV : Hid (frm L (n + 1) 0 i = _) := sumS_op (r := frm L n) ho hh
  have HO : Hid (sgAt L i = ⟨#[40]⟩) := isW_eq ho
  have HH : Hid (opB (sgAt L (i + 1)) = true) := hh
  clear ho hh
  go_enter Tryz.func8, Tryz.ntmps8
  go_wp2_with fail
  refine (l4Sign_any a cap L i _ hA hL ⟨by omega, by omega⟩).mono ?_
  rintro e wa ⟨rfl, hba⟩
  rw [HO.out]
  have hAa := hA.call hba
  go_wp2_with fail
  refine (l4Sign_any a cap L (i + 1) _ hAa hL ⟨by omega, by omega⟩).mono ?_
  rintro e wb ⟨rfl, hbb⟩
  have hAb := hAa.call hbb
  have hBb := bstep hba hbb
  go_wp2_with fail
  refine (l2Ops_any _).mono ?_
  rintro e wc ⟨rfl, hT, hbc⟩
  have hAc := hAb.call hbc
  have hBc := bstep hBb hbc
  go_wp2_with fail
  refine (l1At_any _ 0 6 opsL (sgAt L (i + 1)) _ hT (by decide)).mono ?_
  rintro e w0 ⟨x, rfl, hx, rfl⟩
  have hx0 : 0 ≤ x := hx.mpr ((opB_iff _).mp HH.out)
  clear hx hT hba hbb hbc hA hAa hAb hBb HO HH
  have hA0 := hAc
  have hB0 := hBc
  have F0 : Fw L (i + 2) (i + 2) := fw_at (by omega)
  have s0 := sub_of h0 h1 F0
  go_wp2_with fail
  refine (IH.sums 2 (i + 2) _ hA0 (by decide) s0.1 s0.2.1 (by omega)).mono ?_
  rintro e w1 ⟨rfl, hb1⟩
  have hA1 := hA0.call hb1
  have hB1 := bstep hB0 hb1
  have F1 : Fw L (i + 2) (frm L n 10 (i + 2)) := hr.fw (by decide) F0
  clear hb1
  have s1 := sub_of h0 h1 F1
  go_wp2_with fail
  refine (l4Is_any a cap L (frm L n 10 (i + 2)) [41] _ hA1 hL ⟨by omega, by omega⟩ (by decide)).mono ?_
  rintro e w2 ⟨rfl, hb2⟩
  have hA2 := hA1.call hb2
  have hB2 := bstep hB1 hb2
  have F2 : Fw L (i + 2) (isE L (frm L n 10 (i + 2)) [41]) := (isE_ends (by decide) F1).fw
  clear hb2
  go_wp2
  go_ret
  exact ⟨by rw [HV.out]; rfl, hB2⟩

set_option maxHeartbeats 4000000 in
theorem sum_get (IH : Forms a cap L n) (hA : ArgT w a L) (hL : L.length ≤ 1048576) (hn : 8 * farN L i + 1 ≤ n + 1) (ho : isW (sgAt L i) [40] = true) (hh : sgAt L (i + 1) = ⟨#[103, 101, 116]⟩) :
    Calls Tryz.prog 8 #[.slice a L.length cap, .int .i64 i] w fun e w' => e = .returned (.int .i64 (frm L (n + 1) 0 i)) ∧ Below w.heap.size w w' := by
  obtain ⟨h0, h1⟩ := sgAt_open ho
  have hr := frm_good L n
  have HV : Hid (frm L (n + 1) 0 i = _) := sumS_get (r := frm L n) ho hh
  have HO : Hid (sgAt L i = ⟨#[40]⟩) := isW_eq ho
  have HH : Hid (sgAt L (i + 1) = ⟨#[103, 101, 116]⟩) := hh
  clear ho hh
  go_enter Tryz.func8, Tryz.ntmps8
  go_wp2_with fail
  refine (l4Sign_any a cap L i _ hA hL ⟨by omega, by omega⟩).mono ?_
  rintro e wa ⟨rfl, hba⟩
  rw [HO.out]
  have hAa := hA.call hba
  go_wp2_with fail
  refine (l4Sign_any a cap L (i + 1) _ hAa hL ⟨by omega, by omega⟩).mono ?_
  rintro e wb ⟨rfl, hbb⟩
  rw [HH.out]
  have hAb := hAa.call hbb
  have hBb := bstep hba hbb
  go_wp2_with fail
  refine (l2Ops_any _).mono ?_
  rintro e wc ⟨rfl, hT, hbc⟩
  have hAc := hAb.call hbc
  have hBc := bstep hBb hbc
  go_wp2_with fail
  refine (l1At_any _ 0 6 opsL ⟨#[103, 101, 116]⟩ _ hT (by decide)).mono ?_
  rintro e w0 ⟨x, rfl, hx, rfl⟩
  have hx0 : ¬ 0 ≤ x := fun h => by
    have hp := (opB_iff _).mpr (hx.mp h)
    rw [opB_lit] at hp
    exact absurd hp (by decide)
  clear hx hT hba hbb hbc hA hAa hAb hBb HO HH
  have hA0 := hAc
  have hB0 := hBc
  have F0 : Fw L (i + 2) (i + 2) := fw_at (by omega)
  have s0 := sub_of h0 h1 F0
  go_wp2_with fail
  refine (IH.sums 2 (i + 2) _ hA0 (by decide) s0.1 s0.2.1 (by omega)).mono ?_
  rintro e w1 ⟨rfl, hb1⟩
  have hA1 := hA0.call hb1
  have hB1 := bstep hB0 hb1
  have F1 : Fw L (i + 2) (frm L n 10 (i + 2)) := hr.fw (by decide) F0
  clear hb1
  have s1 := sub_of h0 h1 F1
  go_wp2_with fail
  refine (l4Is_any a cap L (frm L n 10 (i + 2)) [41] _ hA1 hL ⟨by omega, by omega⟩ (by decide)).mono ?_
  rintro e w2 ⟨rfl, hb2⟩
  have hA2 := hA1.call hb2
  have hB2 := bstep hB1 hb2
  have F2 : Fw L (i + 2) (isE L (frm L n 10 (i + 2)) [41]) := (isE_ends (by decide) F1).fw
  clear hb2
  go_wp2
  go_ret
  exact ⟨by rw [HV.out]; rfl, hB2⟩

set_option maxHeartbeats 4000000 in
theorem sum_tget (IH : Forms a cap L n) (hA : ArgT w a L) (hL : L.length ≤ 1048576) (hn : 8 * farN L i + 1 ≤ n + 1) (ho : isW (sgAt L i) [40] = true) (hh : sgAt L (i + 1) = ⟨#[116, 103, 101, 116]⟩) :
    Calls Tryz.prog 8 #[.slice a L.length cap, .int .i64 i] w fun e w' => e = .returned (.int .i64 (frm L (n + 1) 0 i)) ∧ Below w.heap.size w w' := by
  obtain ⟨h0, h1⟩ := sgAt_open ho
  have hr := frm_good L n
  have HV : Hid (frm L (n + 1) 0 i = _) := sumS_tget (r := frm L n) ho hh
  have HO : Hid (sgAt L i = ⟨#[40]⟩) := isW_eq ho
  have HH : Hid (sgAt L (i + 1) = ⟨#[116, 103, 101, 116]⟩) := hh
  clear ho hh
  go_enter Tryz.func8, Tryz.ntmps8
  go_wp2_with fail
  refine (l4Sign_any a cap L i _ hA hL ⟨by omega, by omega⟩).mono ?_
  rintro e wa ⟨rfl, hba⟩
  rw [HO.out]
  have hAa := hA.call hba
  go_wp2_with fail
  refine (l4Sign_any a cap L (i + 1) _ hAa hL ⟨by omega, by omega⟩).mono ?_
  rintro e wb ⟨rfl, hbb⟩
  rw [HH.out]
  have hAb := hAa.call hbb
  have hBb := bstep hba hbb
  go_wp2_with fail
  refine (l2Ops_any _).mono ?_
  rintro e wc ⟨rfl, hT, hbc⟩
  have hAc := hAb.call hbc
  have hBc := bstep hBb hbc
  go_wp2_with fail
  refine (l1At_any _ 0 6 opsL ⟨#[116, 103, 101, 116]⟩ _ hT (by decide)).mono ?_
  rintro e w0 ⟨x, rfl, hx, rfl⟩
  have hx0 : ¬ 0 ≤ x := fun h => by
    have hp := (opB_iff _).mpr (hx.mp h)
    rw [opB_lit] at hp
    exact absurd hp (by decide)
  clear hx hT hba hbb hbc hA hAa hAb hBb HO HH
  have hA0 := hAc
  have hB0 := hBc
  have F0 : Fw L (i + 2) (i + 2) := fw_at (by omega)
  have s0 := sub_of h0 h1 F0
  go_wp2_with fail
  refine (IH.sums 2 (i + 2) _ hA0 (by decide) s0.1 s0.2.1 (by omega)).mono ?_
  rintro e w1 ⟨rfl, hb1⟩
  have hA1 := hA0.call hb1
  have hB1 := bstep hB0 hb1
  have F1 : Fw L (i + 2) (frm L n 10 (i + 2)) := hr.fw (by decide) F0
  clear hb1
  have s1 := sub_of h0 h1 F1
  go_wp2_with fail
  refine (l4Is_any a cap L (frm L n 10 (i + 2)) [41] _ hA1 hL ⟨by omega, by omega⟩ (by decide)).mono ?_
  rintro e w2 ⟨rfl, hb2⟩
  have hA2 := hA1.call hb2
  have hB2 := bstep hB1 hb2
  have F2 : Fw L (i + 2) (isE L (frm L n 10 (i + 2)) [41]) := (isE_ends (by decide) F1).fw
  clear hb2
  go_wp2
  go_ret
  exact ⟨by rw [HV.out]; rfl, hB2⟩

set_option maxHeartbeats 4000000 in
theorem sum_fn (IH : Forms a cap L n) (hA : ArgT w a L) (hL : L.length ≤ 1048576) (hn : 8 * farN L i + 1 ≤ n + 1) (ho : isW (sgAt L i) [40] = true) (hh : sgAt L (i + 1) = ⟨#[102, 110]⟩) :
    Calls Tryz.prog 8 #[.slice a L.length cap, .int .i64 i] w fun e w' => e = .returned (.int .i64 (frm L (n + 1) 0 i)) ∧ Below w.heap.size w w' := by
  obtain ⟨h0, h1⟩ := sgAt_open ho
  have hr := frm_good L n
  have HV : Hid (frm L (n + 1) 0 i = _) := sumS_fn (r := frm L n) ho hh
  have HO : Hid (sgAt L i = ⟨#[40]⟩) := isW_eq ho
  have HH : Hid (sgAt L (i + 1) = ⟨#[102, 110]⟩) := hh
  clear ho hh
  go_enter Tryz.func8, Tryz.ntmps8
  go_wp2_with fail
  refine (l4Sign_any a cap L i _ hA hL ⟨by omega, by omega⟩).mono ?_
  rintro e wa ⟨rfl, hba⟩
  rw [HO.out]
  have hAa := hA.call hba
  go_wp2_with fail
  refine (l4Sign_any a cap L (i + 1) _ hAa hL ⟨by omega, by omega⟩).mono ?_
  rintro e wb ⟨rfl, hbb⟩
  rw [HH.out]
  have hAb := hAa.call hbb
  have hBb := bstep hba hbb
  go_wp2_with fail
  refine (l2Ops_any _).mono ?_
  rintro e wc ⟨rfl, hT, hbc⟩
  have hAc := hAb.call hbc
  have hBc := bstep hBb hbc
  go_wp2_with fail
  refine (l1At_any _ 0 6 opsL ⟨#[102, 110]⟩ _ hT (by decide)).mono ?_
  rintro e w0 ⟨x, rfl, hx, rfl⟩
  have hx0 : ¬ 0 ≤ x := fun h => by
    have hp := (opB_iff _).mpr (hx.mp h)
    rw [opB_lit] at hp
    exact absurd hp (by decide)
  clear hx hT hba hbb hbc hA hAa hAb hBb HO HH
  have hA0 := hAc
  have hB0 := hBc
  have F0 : Fw L (i + 2) (i + 2) := fw_at (by omega)
  have s0 := sub_of h0 h1 F0
  go_wp2_with fail
  refine (l4Is_any a cap L (i + 2) [40] _ hA0 hL ⟨by omega, by omega⟩ (by decide)).mono ?_
  rintro e w1 ⟨rfl, hb1⟩
  have hA1 := hA0.call hb1
  have hB1 := bstep hB0 hb1
  have F1 : Fw L (i + 2) (isE L (i + 2) [40]) := (isE_ends (by decide) F0).fw
  clear hb1
  have s1 := sub_of h0 h1 F1
  go_wp2_with fail
  refine (IH.many 3 (isE L (i + 2) [40]) _ hA1 (by decide) s1.1 s1.2.1 (by omega)).mono ?_
  rintro e w2 ⟨rfl, hb2⟩
  have hA2 := hA1.call hb2
  have hB2 := bstep hB1 hb2
  have F2 : Fw L (i + 2) (frm L n 7 (isE L (i + 2) [40])) := hr.fw (by decide) F1
  clear hb2
  have s2 := sub_of h0 h1 F2
  go_wp2_with fail
  refine (l4Is_any a cap L (frm L n 7 (isE L (i + 2) [40])) [41] _ hA2 hL ⟨by omega, by omega⟩ (by decide)).mono ?_
  rintro e w3 ⟨rfl, hb3⟩
  have hA3 := hA2.call hb3
  have hB3 := bstep hB2 hb3
  have F3 : Fw L (i + 2) (isE L (frm L n 7 (isE L (i + 2) [40])) [41]) := (isE_ends (by decide) F2).fw
  clear hb3
  have s3 := sub_of h0 h1 F3
  go_wp2_with fail
  refine (IH.many 2 (isE L (frm L n 7 (isE L (i + 2) [40])) [41]) _ hA3 (by decide) s3.1 s3.2.1 (by omega)).mono ?_
  rintro e w4 ⟨rfl, hb4⟩
  have hA4 := hA3.call hb4
  have hB4 := bstep hB3 hb4
  have F4 : Fw L (i + 2) (frm L n 6 (isE L (frm L n 7 (isE L (i + 2) [40])) [41])) := hr.fw (by decide) F3
  clear hb4
  have s4 := sub_of h0 h1 F4
  go_wp2_with fail
  refine (l4Is_any a cap L (frm L n 6 (isE L (frm L n 7 (isE L (i + 2) [40])) [41])) [41] _ hA4 hL ⟨by omega, by omega⟩ (by decide)).mono ?_
  rintro e w5 ⟨rfl, hb5⟩
  have hA5 := hA4.call hb5
  have hB5 := bstep hB4 hb5
  have F5 : Fw L (i + 2) (isE L (frm L n 6 (isE L (frm L n 7 (isE L (i + 2) [40])) [41])) [41]) := (isE_ends (by decide) F4).fw
  clear hb5
  go_wp2
  go_ret
  exact ⟨by rw [HV.out]; rfl, hB5⟩

set_option maxHeartbeats 4000000 in
theorem sum_call (IH : Forms a cap L n) (hA : ArgT w a L) (hL : L.length ≤ 1048576) (hn : 8 * farN L i + 1 ≤ n + 1) (ho : isW (sgAt L i) [40] = true) (hh : sgAt L (i + 1) = ⟨#[99, 97, 108, 108]⟩) :
    Calls Tryz.prog 8 #[.slice a L.length cap, .int .i64 i] w fun e w' => e = .returned (.int .i64 (frm L (n + 1) 0 i)) ∧ Below w.heap.size w w' := by
  obtain ⟨h0, h1⟩ := sgAt_open ho
  have hr := frm_good L n
  have HV : Hid (frm L (n + 1) 0 i = _) := sumS_call (r := frm L n) ho hh
  have HO : Hid (sgAt L i = ⟨#[40]⟩) := isW_eq ho
  have HH : Hid (sgAt L (i + 1) = ⟨#[99, 97, 108, 108]⟩) := hh
  clear ho hh
  go_enter Tryz.func8, Tryz.ntmps8
  go_wp2_with fail
  refine (l4Sign_any a cap L i _ hA hL ⟨by omega, by omega⟩).mono ?_
  rintro e wa ⟨rfl, hba⟩
  rw [HO.out]
  have hAa := hA.call hba
  go_wp2_with fail
  refine (l4Sign_any a cap L (i + 1) _ hAa hL ⟨by omega, by omega⟩).mono ?_
  rintro e wb ⟨rfl, hbb⟩
  rw [HH.out]
  have hAb := hAa.call hbb
  have hBb := bstep hba hbb
  go_wp2_with fail
  refine (l2Ops_any _).mono ?_
  rintro e wc ⟨rfl, hT, hbc⟩
  have hAc := hAb.call hbc
  have hBc := bstep hBb hbc
  go_wp2_with fail
  refine (l1At_any _ 0 6 opsL ⟨#[99, 97, 108, 108]⟩ _ hT (by decide)).mono ?_
  rintro e w0 ⟨x, rfl, hx, rfl⟩
  have hx0 : ¬ 0 ≤ x := fun h => by
    have hp := (opB_iff _).mpr (hx.mp h)
    rw [opB_lit] at hp
    exact absurd hp (by decide)
  clear hx hT hba hbb hbc hA hAa hAb hBb HO HH
  have hA0 := hAc
  have hB0 := hBc
  have F0 : Fw L (i + 2) (i + 2) := fw_at (by omega)
  have s0 := sub_of h0 h1 F0
  go_wp2_with fail
  refine (IH.sum (i + 2) _ hA0 ⟨by omega, by omega⟩ (by omega)).mono ?_
  rintro e w1 ⟨rfl, hb1⟩
  have hA1 := hA0.call hb1
  have hB1 := bstep hB0 hb1
  have F1 : Fw L (i + 2) (frm L n 0 (i + 2)) := (hr.ends (by decide) F0).fw
  clear hb1
  have s1 := sub_of h0 h1 F1
  go_wp2_with fail
  refine (IH.many 0 (frm L n 0 (i + 2)) _ hA1 (by decide) s1.1 s1.2.1 (by omega)).mono ?_
  rintro e w2 ⟨rfl, hb2⟩
  have hA2 := hA1.call hb2
  have hB2 := bstep hB1 hb2
  have F2 : Fw L (i + 2) (frm L n 4 (frm L n 0 (i + 2))) := hr.fw (by decide) F1
  clear hb2
  have s2 := sub_of h0 h1 F2
  go_wp2_with fail
  refine (l4Is_any a cap L (frm L n 4 (frm L n 0 (i + 2))) [41] _ hA2 hL ⟨by omega, by omega⟩ (by decide)).mono ?_
  rintro e w3 ⟨rfl, hb3⟩
  have hA3 := hA2.call hb3
  have hB3 := bstep hB2 hb3
  have F3 : Fw L (i + 2) (isE L (frm L n 4 (frm L n 0 (i + 2))) [41]) := (isE_ends (by decide) F2).fw
  clear hb3
  go_wp2
  go_ret
  exact ⟨by rw [HV.out]; rfl, hB3⟩

set_option maxHeartbeats 4000000 in
theorem sum_thing (IH : Forms a cap L n) (hA : ArgT w a L) (hL : L.length ≤ 1048576) (hn : 8 * farN L i + 1 ≤ n + 1) (ho : isW (sgAt L i) [40] = true) (hh : sgAt L (i + 1) = ⟨#[116, 104, 105, 110, 103]⟩) :
    Calls Tryz.prog 8 #[.slice a L.length cap, .int .i64 i] w fun e w' => e = .returned (.int .i64 (frm L (n + 1) 0 i)) ∧ Below w.heap.size w w' := by
  obtain ⟨h0, h1⟩ := sgAt_open ho
  have hr := frm_good L n
  have HV : Hid (frm L (n + 1) 0 i = _) := sumS_thing (r := frm L n) ho hh
  have HO : Hid (sgAt L i = ⟨#[40]⟩) := isW_eq ho
  have HH : Hid (sgAt L (i + 1) = ⟨#[116, 104, 105, 110, 103]⟩) := hh
  clear ho hh
  go_enter Tryz.func8, Tryz.ntmps8
  go_wp2_with fail
  refine (l4Sign_any a cap L i _ hA hL ⟨by omega, by omega⟩).mono ?_
  rintro e wa ⟨rfl, hba⟩
  rw [HO.out]
  have hAa := hA.call hba
  go_wp2_with fail
  refine (l4Sign_any a cap L (i + 1) _ hAa hL ⟨by omega, by omega⟩).mono ?_
  rintro e wb ⟨rfl, hbb⟩
  rw [HH.out]
  have hAb := hAa.call hbb
  have hBb := bstep hba hbb
  go_wp2_with fail
  refine (l2Ops_any _).mono ?_
  rintro e wc ⟨rfl, hT, hbc⟩
  have hAc := hAb.call hbc
  have hBc := bstep hBb hbc
  go_wp2_with fail
  refine (l1At_any _ 0 6 opsL ⟨#[116, 104, 105, 110, 103]⟩ _ hT (by decide)).mono ?_
  rintro e w0 ⟨x, rfl, hx, rfl⟩
  have hx0 : ¬ 0 ≤ x := fun h => by
    have hp := (opB_iff _).mpr (hx.mp h)
    rw [opB_lit] at hp
    exact absurd hp (by decide)
  clear hx hT hba hbb hbc hA hAa hAb hBb HO HH
  have hA0 := hAc
  have hB0 := hBc
  have F0 : Fw L (i + 2) (i + 2) := fw_at (by omega)
  have s0 := sub_of h0 h1 F0
  go_wp2_with fail
  refine (IH.many 0 (i + 2) _ hA0 (by decide) s0.1 s0.2.1 (by omega)).mono ?_
  rintro e w1 ⟨rfl, hb1⟩
  have hA1 := hA0.call hb1
  have hB1 := bstep hB0 hb1
  have F1 : Fw L (i + 2) (frm L n 4 (i + 2)) := hr.fw (by decide) F0
  clear hb1
  have s1 := sub_of h0 h1 F1
  go_wp2_with fail
  refine (l4Is_any a cap L (frm L n 4 (i + 2)) [41] _ hA1 hL ⟨by omega, by omega⟩ (by decide)).mono ?_
  rintro e w2 ⟨rfl, hb2⟩
  have hA2 := hA1.call hb2
  have hB2 := bstep hB1 hb2
  have F2 : Fw L (i + 2) (isE L (frm L n 4 (i + 2)) [41]) := (isE_ends (by decide) F1).fw
  clear hb2
  go_wp2
  go_ret
  exact ⟨by rw [HV.out]; rfl, hB2⟩

set_option maxHeartbeats 4000000 in
theorem sum_join (IH : Forms a cap L n) (hA : ArgT w a L) (hL : L.length ≤ 1048576) (hn : 8 * farN L i + 1 ≤ n + 1) (ho : isW (sgAt L i) [40] = true) (hh : sgAt L (i + 1) = ⟨#[106, 111, 105, 110]⟩) :
    Calls Tryz.prog 8 #[.slice a L.length cap, .int .i64 i] w fun e w' => e = .returned (.int .i64 (frm L (n + 1) 0 i)) ∧ Below w.heap.size w w' := by
  obtain ⟨h0, h1⟩ := sgAt_open ho
  have hr := frm_good L n
  have HV : Hid (frm L (n + 1) 0 i = _) := sumS_join (r := frm L n) ho hh
  have HO : Hid (sgAt L i = ⟨#[40]⟩) := isW_eq ho
  have HH : Hid (sgAt L (i + 1) = ⟨#[106, 111, 105, 110]⟩) := hh
  clear ho hh
  go_enter Tryz.func8, Tryz.ntmps8
  go_wp2_with fail
  refine (l4Sign_any a cap L i _ hA hL ⟨by omega, by omega⟩).mono ?_
  rintro e wa ⟨rfl, hba⟩
  rw [HO.out]
  have hAa := hA.call hba
  go_wp2_with fail
  refine (l4Sign_any a cap L (i + 1) _ hAa hL ⟨by omega, by omega⟩).mono ?_
  rintro e wb ⟨rfl, hbb⟩
  rw [HH.out]
  have hAb := hAa.call hbb
  have hBb := bstep hba hbb
  go_wp2_with fail
  refine (l2Ops_any _).mono ?_
  rintro e wc ⟨rfl, hT, hbc⟩
  have hAc := hAb.call hbc
  have hBc := bstep hBb hbc
  go_wp2_with fail
  refine (l1At_any _ 0 6 opsL ⟨#[106, 111, 105, 110]⟩ _ hT (by decide)).mono ?_
  rintro e w0 ⟨x, rfl, hx, rfl⟩
  have hx0 : ¬ 0 ≤ x := fun h => by
    have hp := (opB_iff _).mpr (hx.mp h)
    rw [opB_lit] at hp
    exact absurd hp (by decide)
  clear hx hT hba hbb hbc hA hAa hAb hBb HO HH
  have hA0 := hAc
  have hB0 := hBc
  have F0 : Fw L (i + 2) (i + 2) := fw_at (by omega)
  have s0 := sub_of h0 h1 F0
  go_wp2_with fail
  refine (IH.many 0 (i + 2) _ hA0 (by decide) s0.1 s0.2.1 (by omega)).mono ?_
  rintro e w1 ⟨rfl, hb1⟩
  have hA1 := hA0.call hb1
  have hB1 := bstep hB0 hb1
  have F1 : Fw L (i + 2) (frm L n 4 (i + 2)) := hr.fw (by decide) F0
  clear hb1
  have s1 := sub_of h0 h1 F1
  go_wp2_with fail
  refine (l4Is_any a cap L (frm L n 4 (i + 2)) [41] _ hA1 hL ⟨by omega, by omega⟩ (by decide)).mono ?_
  rintro e w2 ⟨rfl, hb2⟩
  have hA2 := hA1.call hb2
  have hB2 := bstep hB1 hb2
  have F2 : Fw L (i + 2) (isE L (frm L n 4 (i + 2)) [41]) := (isE_ends (by decide) F1).fw
  clear hb2
  go_wp2
  go_ret
  exact ⟨by rw [HV.out]; rfl, hB2⟩

set_option maxHeartbeats 4000000 in
theorem sum_table (_IH : Forms a cap L n) (hA : ArgT w a L) (hL : L.length ≤ 1048576) (_hn : 8 * farN L i + 1 ≤ n + 1) (ho : isW (sgAt L i) [40] = true) (hh : sgAt L (i + 1) = ⟨#[116, 97, 98, 108, 101]⟩) :
    Calls Tryz.prog 8 #[.slice a L.length cap, .int .i64 i] w fun e w' => e = .returned (.int .i64 (frm L (n + 1) 0 i)) ∧ Below w.heap.size w w' := by
  obtain ⟨h0, h1⟩ := sgAt_open ho
  have hr := frm_good L n
  have HV : Hid (frm L (n + 1) 0 i = _) := sumS_table (r := frm L n) ho hh
  have HO : Hid (sgAt L i = ⟨#[40]⟩) := isW_eq ho
  have HH : Hid (sgAt L (i + 1) = ⟨#[116, 97, 98, 108, 101]⟩) := hh
  clear ho hh
  go_enter Tryz.func8, Tryz.ntmps8
  go_wp2_with fail
  refine (l4Sign_any a cap L i _ hA hL ⟨by omega, by omega⟩).mono ?_
  rintro e wa ⟨rfl, hba⟩
  rw [HO.out]
  have hAa := hA.call hba
  go_wp2_with fail
  refine (l4Sign_any a cap L (i + 1) _ hAa hL ⟨by omega, by omega⟩).mono ?_
  rintro e wb ⟨rfl, hbb⟩
  rw [HH.out]
  have hAb := hAa.call hbb
  have hBb := bstep hba hbb
  go_wp2_with fail
  refine (l2Ops_any _).mono ?_
  rintro e wc ⟨rfl, hT, hbc⟩
  have hAc := hAb.call hbc
  have hBc := bstep hBb hbc
  go_wp2_with fail
  refine (l1At_any _ 0 6 opsL ⟨#[116, 97, 98, 108, 101]⟩ _ hT (by decide)).mono ?_
  rintro e w0 ⟨x, rfl, hx, rfl⟩
  have hx0 : ¬ 0 ≤ x := fun h => by
    have hp := (opB_iff _).mpr (hx.mp h)
    rw [opB_lit] at hp
    exact absurd hp (by decide)
  clear hx hT hba hbb hbc hA hAa hAb hBb HO HH
  have hA0 := hAc
  have hB0 := hBc
  have F0 : Fw L (i + 2) (i + 2) := fw_at (by omega)
  have s0 := sub_of h0 h1 F0
  go_wp2_with fail
  refine (l4Is_any a cap L (i + 2) [41] _ hA0 hL ⟨by omega, by omega⟩ (by decide)).mono ?_
  rintro e w1 ⟨rfl, hb1⟩
  have hA1 := hA0.call hb1
  have hB1 := bstep hB0 hb1
  have F1 : Fw L (i + 2) (isE L (i + 2) [41]) := (isE_ends (by decide) F0).fw
  clear hb1
  go_wp2
  go_ret
  exact ⟨by rw [HV.out]; rfl, hB1⟩

set_option maxHeartbeats 4000000 in
theorem sum_hget (IH : Forms a cap L n) (hA : ArgT w a L) (hL : L.length ≤ 1048576) (hn : 8 * farN L i + 1 ≤ n + 1) (ho : isW (sgAt L i) [40] = true) (hh : sgAt L (i + 1) = ⟨#[104, 103, 101, 116]⟩) :
    Calls Tryz.prog 8 #[.slice a L.length cap, .int .i64 i] w fun e w' => e = .returned (.int .i64 (frm L (n + 1) 0 i)) ∧ Below w.heap.size w w' := by
  obtain ⟨h0, h1⟩ := sgAt_open ho
  have hr := frm_good L n
  have HV : Hid (frm L (n + 1) 0 i = _) := sumS_hget (r := frm L n) ho hh
  have HO : Hid (sgAt L i = ⟨#[40]⟩) := isW_eq ho
  have HH : Hid (sgAt L (i + 1) = ⟨#[104, 103, 101, 116]⟩) := hh
  clear ho hh
  go_enter Tryz.func8, Tryz.ntmps8
  go_wp2_with fail
  refine (l4Sign_any a cap L i _ hA hL ⟨by omega, by omega⟩).mono ?_
  rintro e wa ⟨rfl, hba⟩
  rw [HO.out]
  have hAa := hA.call hba
  go_wp2_with fail
  refine (l4Sign_any a cap L (i + 1) _ hAa hL ⟨by omega, by omega⟩).mono ?_
  rintro e wb ⟨rfl, hbb⟩
  rw [HH.out]
  have hAb := hAa.call hbb
  have hBb := bstep hba hbb
  go_wp2_with fail
  refine (l2Ops_any _).mono ?_
  rintro e wc ⟨rfl, hT, hbc⟩
  have hAc := hAb.call hbc
  have hBc := bstep hBb hbc
  go_wp2_with fail
  refine (l1At_any _ 0 6 opsL ⟨#[104, 103, 101, 116]⟩ _ hT (by decide)).mono ?_
  rintro e w0 ⟨x, rfl, hx, rfl⟩
  have hx0 : ¬ 0 ≤ x := fun h => by
    have hp := (opB_iff _).mpr (hx.mp h)
    rw [opB_lit] at hp
    exact absurd hp (by decide)
  clear hx hT hba hbb hbc hA hAa hAb hBb HO HH
  have hA0 := hAc
  have hB0 := hBc
  have F0 : Fw L (i + 2) (i + 2) := fw_at (by omega)
  have s0 := sub_of h0 h1 F0
  go_wp2_with fail
  refine (l4NameEnd_any a cap L (i + 2) _ hA0 hL ⟨by omega, by omega⟩).mono ?_
  rintro e w1 ⟨rfl, hb1⟩
  have hA1 := hA0.call hb1
  have hB1 := bstep hB0 hb1
  have F1 : Fw L (i + 2) (nmE L (i + 2)) := (nmE_ends F0).fw
  clear hb1
  have s1 := sub_of h0 h1 F1
  go_wp2_with fail
  refine (IH.sum (nmE L (i + 2)) _ hA1 ⟨by omega, by omega⟩ (by omega)).mono ?_
  rintro e w2 ⟨rfl, hb2⟩
  have hA2 := hA1.call hb2
  have hB2 := bstep hB1 hb2
  have F2 : Fw L (i + 2) (frm L n 0 (nmE L (i + 2))) := (hr.ends (by decide) F1).fw
  clear hb2
  have s2 := sub_of h0 h1 F2
  go_wp2_with fail
  refine (l4Is_any a cap L (frm L n 0 (nmE L (i + 2))) [41] _ hA2 hL ⟨by omega, by omega⟩ (by decide)).mono ?_
  rintro e w3 ⟨rfl, hb3⟩
  have hA3 := hA2.call hb3
  have hB3 := bstep hB2 hb3
  have F3 : Fw L (i + 2) (isE L (frm L n 0 (nmE L (i + 2))) [41]) := (isE_ends (by decide) F2).fw
  clear hb3
  go_wp2
  go_ret
  exact ⟨by rw [HV.out]; rfl, hB3⟩

set_option maxHeartbeats 4000000 in
theorem sum_not (hA : ArgT w a L) (hL : L.length ≤ 1048576) (ho : isW (sgAt L i) [40] = true) (hop : opB (sgAt L (i + 1)) = false) (hget : sgAt L (i + 1) ≠ ⟨#[103, 101, 116]⟩) (htget : sgAt L (i + 1) ≠ ⟨#[116, 103, 101, 116]⟩) (hfn : sgAt L (i + 1) ≠ ⟨#[102, 110]⟩) (hcall : sgAt L (i + 1) ≠ ⟨#[99, 97, 108, 108]⟩) (hthing : sgAt L (i + 1) ≠ ⟨#[116, 104, 105, 110, 103]⟩) (hjoin : sgAt L (i + 1) ≠ ⟨#[106, 111, 105, 110]⟩) (htable : sgAt L (i + 1) ≠ ⟨#[116, 97, 98, 108, 101]⟩) (hhget : sgAt L (i + 1) ≠ ⟨#[104, 103, 101, 116]⟩) :
    Calls Tryz.prog 8 #[.slice a L.length cap, .int .i64 i] w fun e w' => e = .returned (.int .i64 (frm L (n + 1) 0 i)) ∧ Below w.heap.size w w' := by
  obtain ⟨h0, h1⟩ := sgAt_open ho
  have HV : Hid (frm L (n + 1) 0 i = -1) := sumS_not ho hop hget htget hfn hcall hthing hjoin htable hhget
  have HO : Hid (sgAt L i = ⟨#[40]⟩) := isW_eq ho
  have HH : Hid (opB (sgAt L (i + 1)) = false) := hop
  have qget : ((sgAt L (i + 1)).toList == [103, 101, 116]) = false := isW_no hget
  have qtget : ((sgAt L (i + 1)).toList == [116, 103, 101, 116]) = false := isW_no htget
  have qfn : ((sgAt L (i + 1)).toList == [102, 110]) = false := isW_no hfn
  have qcall : ((sgAt L (i + 1)).toList == [99, 97, 108, 108]) = false := isW_no hcall
  have qthing : ((sgAt L (i + 1)).toList == [116, 104, 105, 110, 103]) = false := isW_no hthing
  have qjoin : ((sgAt L (i + 1)).toList == [106, 111, 105, 110]) = false := isW_no hjoin
  have qtable : ((sgAt L (i + 1)).toList == [116, 97, 98, 108, 101]) = false := isW_no htable
  have qhget : ((sgAt L (i + 1)).toList == [104, 103, 101, 116]) = false := isW_no hhget
  clear ho hop hget htget hfn hcall hthing hjoin htable hhget
  go_enter Tryz.func8, Tryz.ntmps8
  go_wp2_with fail
  refine (l4Sign_any a cap L i _ hA hL ⟨by omega, by omega⟩).mono ?_
  rintro e wa ⟨rfl, hba⟩
  rw [HO.out]
  have hAa := hA.call hba
  go_wp2_with fail
  refine (l4Sign_any a cap L (i + 1) _ hAa hL ⟨by omega, by omega⟩).mono ?_
  rintro e wb ⟨rfl, hbb⟩
  have hBb := bstep hba hbb
  generalize sgAt L (i + 1) = t at HH qget qtget qfn qcall qthing qjoin qtable qhget
  go_wp2_with fail
  refine (l2Ops_any _).mono ?_
  rintro e wc ⟨rfl, hT, hbc⟩
  have hBc := bstep hBb hbc
  go_wp2_with fail
  refine (l1At_any _ 0 6 opsL t _ hT (by decide)).mono ?_
  rintro e w0 ⟨x, rfl, hx, rfl⟩
  have hx0 : ¬ 0 ≤ x := fun h => by
    have hp := (opB_iff _).mpr (hx.mp h)
    rw [HH.out] at hp
    exact absurd hp (by decide)
  clear hx hT hba hbb hbc HO HH
  go_wp2
  go_ret
  exact ⟨by rw [HV.out]; rfl, hBc⟩

theorem sum_all (IH : Forms a cap L n) (hA : ArgT w a L) (hL : L.length ≤ 1048576) (hi : I64 i) (hn : 8 * farN L i + 1 ≤ n + 1) :
    Calls Tryz.prog 8 #[.slice a L.length cap, .int .i64 i] w fun e w' => e = .returned (.int .i64 (frm L (n + 1) 0 i)) ∧ Below w.heap.size w w' := by
  cases ho : isW (sgAt L i) [40]
  · exact sum_flat hA hL hi ho
  by_cases hop' : opB (sgAt L (i + 1)) = true
  · exact sum_op IH hA hL hn ho hop'
  have hop : opB (sgAt L (i + 1)) = false := Bool.eq_false_iff.mpr hop'
  by_cases hget : sgAt L (i + 1) = ⟨#[103, 101, 116]⟩
  · exact sum_get IH hA hL hn ho hget
  by_cases htget : sgAt L (i + 1) = ⟨#[116, 103, 101, 116]⟩
  · exact sum_tget IH hA hL hn ho htget
  by_cases hfn : sgAt L (i + 1) = ⟨#[102, 110]⟩
  · exact sum_fn IH hA hL hn ho hfn
  by_cases hcall : sgAt L (i + 1) = ⟨#[99, 97, 108, 108]⟩
  · exact sum_call IH hA hL hn ho hcall
  by_cases hthing : sgAt L (i + 1) = ⟨#[116, 104, 105, 110, 103]⟩
  · exact sum_thing IH hA hL hn ho hthing
  by_cases hjoin : sgAt L (i + 1) = ⟨#[106, 111, 105, 110]⟩
  · exact sum_join IH hA hL hn ho hjoin
  by_cases htable : sgAt L (i + 1) = ⟨#[116, 97, 98, 108, 101]⟩
  · exact sum_table IH hA hL hn ho htable
  by_cases hhget : sgAt L (i + 1) = ⟨#[104, 103, 101, 116]⟩
  · exact sum_hget IH hA hL hn ho hhget
  exact sum_not hA hL ho hop hget htget hfn hcall hthing hjoin htable hhget
end

end Go.Proofs.YtlmibonebiaocaaGreatDoor
