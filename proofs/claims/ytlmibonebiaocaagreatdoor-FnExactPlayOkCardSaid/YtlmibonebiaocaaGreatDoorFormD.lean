/-
  Chapter 4, the model: where a deed ends.
-/
import Derived.Test.YtlmibonebiaocaaGreatDoorFormS
namespace Go.Proofs.YtlmibonebiaocaaGreatDoor
open Go.RowKit

section
variable {a : Option Addr} {cap : Nat} {L : List ByteArray} {n : Nat} {i : Int} {w : World}

theorem deedS_of {L : List ByteArray} {r : Nat → Int → Int} {f : Bool} {i : Int} {h : ByteArray} (ho : isW (sgAt L i) [40] = true) (hh : sgAt L (i + 1) = h) (hd : (decB h && !f) = false) : deedS L r f i = deedH L r h (i + 2) := by
  unfold deedS
  rw [if_pos ho, hh, hd]
  rfl
theorem deedS_bar {L : List ByteArray} {r : Nat → Int → Int} {i : Int} {h : ByteArray} (ho : isW (sgAt L i) [40] = true) (hh : sgAt L (i + 1) = h) (hd : decB h = true) : deedS L r false i = -1 := by
  unfold deedS
  rw [if_pos ho, hh, hd]
  rfl
theorem deedS_no {L : List ByteArray} {r : Nat → Int → Int} {f : Bool} {i : Int} (ho : isW (sgAt L i) [40] = false) : deedS L r f i = -1 := by
  unfold deedS
  rw [ho]
  rfl
theorem frm_deed (f : Bool) : frm L (n + 1) (if f then 1 else 2) i = deedS L (frm L n) f i := by cases f <;> rfl

set_option maxHeartbeats 1000000 in
theorem deed_no (f : Bool) (hA : ArgT w a L) (hL : L.length ≤ 1048576) (hi : I64 i) (ho : isW (sgAt L i) [40] = false) :
    Calls Tryz.prog 29 #[.slice a L.length cap, .int .i64 i, .bool f] w fun e w' => e = .returned (.int .i64 (frm L (n + 1) (if f then 1 else 2) i)) ∧ Below w.heap.size w w' := by
  rw [frm_deed, deedS_no ho]
  have b40 : ((sgAt L i).toList == [40]) = false := ho
  clear ho
  go_enter Tryz.func29, Tryz.ntmps29
  go_wp2_with fail
  refine (l4Sign_any a cap L i _ hA hL hi).mono ?_
  rintro e w1 ⟨rfl, hb1⟩
  generalize sgAt L i = t at b40
  go_wp2
  go_ret
  exact ⟨rfl, hb1⟩

set_option maxHeartbeats 4000000 in
theorem deed_let (IH : Forms a cap L n) (hA : ArgT w a L) (hL : L.length ≤ 1048576) (hn : 8 * farN L i + 1 ≤ n + 1) (ho : isW (sgAt L i) [40] = true) (hh : sgAt L (i + 1) = ⟨#[108, 101, 116]⟩) :
    Calls Tryz.prog 29 #[.slice a L.length cap, .int .i64 i, .bool true] w fun e w' => e = .returned (.int .i64 (frm L (n + 1) (if true then 1 else 2) i)) ∧ Below w.heap.size w w' := by
  obtain ⟨h0, h1⟩ := sgAt_open ho
  have hr := frm_good L n
  rw [frm_deed, deedS_of (f := true) ho hh (by rw [decB_let]; rfl), deedH_let]
  have HO : Hid (sgAt L i = ⟨#[40]⟩) := isW_eq ho
  have HH : Hid (sgAt L (i + 1) = ⟨#[108, 101, 116]⟩) := hh
  clear ho hh
  go_enter Tryz.func29, Tryz.ntmps29
  go_wp2_with fail
  refine (l4Sign_any a cap L i _ hA hL ⟨by omega, by omega⟩).mono ?_
  rintro e wa ⟨rfl, hba⟩
  rw [HO.out]
  have hAa := hA.call hba
  go_wp2_with fail
  refine (l4Sign_any a cap L (i + 1) _ hAa hL ⟨by omega, by omega⟩).mono ?_
  rintro e w0 ⟨rfl, hbb⟩
  rw [HH.out]
  have hA0 := hAa.call hbb
  have hB0 := bstep hba hbb
  clear hba hbb hA hAa HO HH
  have F0 : Fw L (i + 2) (i + 2) := fw_at (by omega)
  have s0 := sub_of h0 h1 F0
  go_wp2_with fail
  refine (l4NameEnd_any a cap L (i + 2) _ hA0 hL ⟨by omega, by omega⟩).mono ?_
  rintro e w1 ⟨rfl, hb1⟩
  have hA1 := hA0.call hb1
  have hB1 := bstep hB0 hb1
  have F1 : Fw L (i + 2) (nmE L (i + 2)) := (nmE_ends F0).fw
  clear hb1
  have s1 := sub_of h0 h1 F1
  go_wp2_with fail
  refine (IH.sum (nmE L (i + 2)) _ hA1 ⟨by omega, by omega⟩ (by omega)).mono ?_
  rintro e w2 ⟨rfl, hb2⟩
  have hA2 := hA1.call hb2
  have hB2 := bstep hB1 hb2
  have F2 : Fw L (i + 2) (frm L n 0 (nmE L (i + 2))) := (hr.ends (by decide) F1).fw
  clear hb2
  have s2 := sub_of h0 h1 F2
  go_wp2_with fail
  refine (l4Is_any a cap L (frm L n 0 (nmE L (i + 2))) [41] _ hA2 hL ⟨by omega, by omega⟩ (by decide)).mono ?_
  rintro e w3 ⟨rfl, hb3⟩
  have hA3 := hA2.call hb3
  have hB3 := bstep hB2 hb3
  have F3 : Fw L (i + 2) (isE L (frm L n 0 (nmE L (i + 2))) [41]) := (isE_ends (by decide) F2).fw
  clear hb3
  go_wp2
  go_ret
  exact ⟨rfl, hB3⟩

set_option maxHeartbeats 4000000 in
theorem deed_let_bar (hA : ArgT w a L) (hL : L.length ≤ 1048576) (ho : isW (sgAt L i) [40] = true) (hh : sgAt L (i + 1) = ⟨#[108, 101, 116]⟩) :
    Calls Tryz.prog 29 #[.slice a L.length cap, .int .i64 i, .bool false] w fun e w' => e = .returned (.int .i64 (frm L (n + 1) (if false then 1 else 2) i)) ∧ Below w.heap.size w w' := by
  obtain ⟨h0, h1⟩ := sgAt_open ho
  rw [frm_deed, deedS_bar ho hh decB_let]
  have HO : Hid (sgAt L i = ⟨#[40]⟩) := isW_eq ho
  have HH : Hid (sgAt L (i + 1) = ⟨#[108, 101, 116]⟩) := hh
  clear ho hh
  go_enter Tryz.func29, Tryz.ntmps29
  go_wp2_with fail
  refine (l4Sign_any a cap L i _ hA hL ⟨by omega, by omega⟩).mono ?_
  rintro e wa ⟨rfl, hba⟩
  rw [HO.out]
  have hAa := hA.call hba
  go_wp2_with fail
  refine (l4Sign_any a cap L (i + 1) _ hAa hL ⟨by omega, by omega⟩).mono ?_
  rintro e w0 ⟨rfl, hbb⟩
  rw [HH.out]
  have hB0 := bstep hba hbb
  go_wp2
  go_ret
  exact ⟨rfl, hB0⟩

set_option maxHeartbeats 4000000 in
theorem deed_set (f : Bool) (IH : Forms a cap L n) (hA : ArgT w a L) (hL : L.length ≤ 1048576) (hn : 8 * farN L i + 1 ≤ n + 1) (ho : isW (sgAt L i) [40] = true) (hh : sgAt L (i + 1) = ⟨#[115, 101, 116]⟩) :
    Calls Tryz.prog 29 #[.slice a L.length cap, .int .i64 i, .bool f] w fun e w' => e = .returned (.int .i64 (frm L (n + 1) (if f then 1 else 2) i)) ∧ Below w.heap.size w w' := by
  obtain ⟨h0, h1⟩ := sgAt_open ho
  have hr := frm_good L n
  rw [frm_deed, deedS_of (f := f) ho hh (by rw [decB_set]; rfl), deedH_set]
  have HO : Hid (sgAt L i = ⟨#[40]⟩) := isW_eq ho
  have HH : Hid (sgAt L (i + 1) = ⟨#[115, 101, 116]⟩) := hh
  clear ho hh
  go_enter Tryz.func29, Tryz.ntmps29
  go_wp2_with fail
  refine (l4Sign_any a cap L i _ hA hL ⟨by omega, by omega⟩).mono ?_
  rintro e wa ⟨rfl, hba⟩
  rw [HO.out]
  have hAa := hA.call hba
  go_wp2_with fail
  refine (l4Sign_any a cap L (i + 1) _ hAa hL ⟨by omega, by omega⟩).mono ?_
  rintro e w0 ⟨rfl, hbb⟩
  rw [HH.out]
  have hA0 := hAa.call hbb
  have hB0 := bstep hba hbb
  clear hba hbb hA hAa HO HH
  have F0 : Fw L (i + 2) (i + 2) := fw_at (by omega)
  have s0 := sub_of h0 h1 F0
  go_wp2_with fail
  refine (l4NameEnd_any a cap L (i + 2) _ hA0 hL ⟨by omega, by omega⟩).mono ?_
  rintro e w1 ⟨rfl, hb1⟩
  have hA1 := hA0.call hb1
  have hB1 := bstep hB0 hb1
  have F1 : Fw L (i + 2) (nmE L (i + 2)) := (nmE_ends F0).fw
  clear hb1
  have s1 := sub_of h0 h1 F1
  go_wp2_with fail
  refine (IH.sum (nmE L (i + 2)) _ hA1 ⟨by omega, by omega⟩ (by omega)).mono ?_
  rintro e w2 ⟨rfl, hb2⟩
  have hA2 := hA1.call hb2
  have hB2 := bstep hB1 hb2
  have F2 : Fw L (i + 2) (frm L n 0 (nmE L (i + 2))) := (hr.ends (by decide) F1).fw
  clear hb2
  have s2 := sub_of h0 h1 F2
  go_wp2_with fail
  refine (l4Is_any a cap L (frm L n 0 (nmE L (i + 2))) [41] _ hA2 hL ⟨by omega, by omega⟩ (by decide)).mono ?_
  rintro e w3 ⟨rfl, hb3⟩
  have hA3 := hA2.call hb3
  have hB3 := bstep hB2 hb3
  have F3 : Fw L (i + 2) (isE L (frm L n 0 (nmE L (i + 2))) [41]) := (isE_ends (by decide) F2).fw
  clear hb3
  go_wp2
  go_ret
  exact ⟨rfl, hB3⟩

set_option maxHeartbeats 4000000 in
theorem deed_take (IH : Forms a cap L n) (hA : ArgT w a L) (hL : L.length ≤ 1048576) (hn : 8 * farN L i + 1 ≤ n + 1) (ho : isW (sgAt L i) [40] = true) (hh : sgAt L (i + 1) = ⟨#[116, 97, 107, 101]⟩) :
    Calls Tryz.prog 29 #[.slice a L.length cap, .int .i64 i, .bool true] w fun e w' => e = .returned (.int .i64 (frm L (n + 1) (if true then 1 else 2) i)) ∧ Below w.heap.size w w' := by
  obtain ⟨h0, h1⟩ := sgAt_open ho
  have hr := frm_good L n
  rw [frm_deed, deedS_of (f := true) ho hh (by rw [decB_take]; rfl), deedH_take]
  have HO : Hid (sgAt L i = ⟨#[40]⟩) := isW_eq ho
  have HH : Hid (sgAt L (i + 1) = ⟨#[116, 97, 107, 101]⟩) := hh
  clear ho hh
  go_enter Tryz.func29, Tryz.ntmps29
  go_wp2_with fail
  refine (l4Sign_any a cap L i _ hA hL ⟨by omega, by omega⟩).mono ?_
  rintro e wa ⟨rfl, hba⟩
  rw [HO.out]
  have hAa := hA.call hba
  go_wp2_with fail
  refine (l4Sign_any a cap L (i + 1) _ hAa hL ⟨by omega, by omega⟩).mono ?_
  rintro e w0 ⟨rfl, hbb⟩
  rw [HH.out]
  have hA0 := hAa.call hbb
  have hB0 := bstep hba hbb
  clear hba hbb hA hAa HO HH
  have F0 : Fw L (i + 2) (i + 2) := fw_at (by omega)
  have s0 := sub_of h0 h1 F0
  go_wp2_with fail
  refine (l4Is_any a cap L (i + 2) [40] _ hA0 hL ⟨by omega, by omega⟩ (by decide)).mono ?_
  rintro e w1 ⟨rfl, hb1⟩
  have hA1 := hA0.call hb1
  have hB1 := bstep hB0 hb1
  have F1 : Fw L (i + 2) (isE L (i + 2) [40]) := (isE_ends (by decide) F0).fw
  clear hb1
  have s1 := sub_of h0 h1 F1
  go_wp2_with fail
  refine (l4NameEnd_any a cap L (isE L (i + 2) [40]) _ hA1 hL ⟨by omega, by omega⟩).mono ?_
  rintro e w2 ⟨rfl, hb2⟩
  have hA2 := hA1.call hb2
  have hB2 := bstep hB1 hb2
  have F2 : Fw L (i + 2) (nmE L (isE L (i + 2) [40])) := (nmE_ends F1).fw
  clear hb2
  have s2 := sub_of h0 h1 F2
  go_wp2_with fail
  refine (IH.many 1 (nmE L (isE L (i + 2) [40])) _ hA2 (by decide) s2.1 s2.2.1 (by omega)).mono ?_
  rintro e w3 ⟨rfl, hb3⟩
  have hA3 := hA2.call hb3
  have hB3 := bstep hB2 hb3
  have F3 : Fw L (i + 2) (frm L n 5 (nmE L (isE L (i + 2) [40]))) := hr.fw (by decide) F2
  clear hb3
  have s3 := sub_of h0 h1 F3
  go_wp2_with fail
  refine (l4Is_any a cap L (frm L n 5 (nmE L (isE L (i + 2) [40]))) [41] _ hA3 hL ⟨by omega, by omega⟩ (by decide)).mono ?_
  rintro e w4 ⟨rfl, hb4⟩
  have hA4 := hA3.call hb4
  have hB4 := bstep hB3 hb4
  have F4 : Fw L (i + 2) (isE L (frm L n 5 (nmE L (isE L (i + 2) [40]))) [41]) := (isE_ends (by decide) F3).fw
  clear hb4
  have s4 := sub_of h0 h1 F4
  go_wp2_with fail
  refine (IH.sum (isE L (frm L n 5 (nmE L (isE L (i + 2) [40]))) [41]) _ hA4 ⟨by omega, by omega⟩ (by omega)).mono ?_
  rintro e w5 ⟨rfl, hb5⟩
  have hA5 := hA4.call hb5
  have hB5 := bstep hB4 hb5
  have F5 : Fw L (i + 2) (frm L n 0 (isE L (frm L n 5 (nmE L (isE L (i + 2) [40]))) [41])) := (hr.ends (by decide) F4).fw
  clear hb5
  have s5 := sub_of h0 h1 F5
  go_wp2_with fail
  refine (l4Is_any a cap L (frm L n 0 (isE L (frm L n 5 (nmE L (isE L (i + 2) [40]))) [41])) [41] _ hA5 hL ⟨by omega, by omega⟩ (by decide)).mono ?_
  rintro e w6 ⟨rfl, hb6⟩
  have hA6 := hA5.call hb6
  have hB6 := bstep hB5 hb6
  have F6 : Fw L (i + 2) (isE L (frm L n 0 (isE L (frm L n 5 (nmE L (isE L (i + 2) [40]))) [41])) [41]) := (isE_ends (by decide) F5).fw
  clear hb6
  go_wp2
  go_ret
  exact ⟨rfl, hB6⟩

set_option maxHeartbeats 4000000 in
theorem deed_take_bar (hA : ArgT w a L) (hL : L.length ≤ 1048576) (ho : isW (sgAt L i) [40] = true) (hh : sgAt L (i + 1) = ⟨#[116, 97, 107, 101]⟩) :
    Calls Tryz.prog 29 #[.slice a L.length cap, .int .i64 i, .bool false] w fun e w' => e = .returned (.int .i64 (frm L (n + 1) (if false then 1 else 2) i)) ∧ Below w.heap.size w w' := by
  obtain ⟨h0, h1⟩ := sgAt_open ho
  rw [frm_deed, deedS_bar ho hh decB_take]
  have HO : Hid (sgAt L i = ⟨#[40]⟩) := isW_eq ho
  have HH : Hid (sgAt L (i + 1) = ⟨#[116, 97, 107, 101]⟩) := hh
  clear ho hh
  go_enter Tryz.func29, Tryz.ntmps29
  go_wp2_with fail
  refine (l4Sign_any a cap L i _ hA hL ⟨by omega, by omega⟩).mono ?_
  rintro e wa ⟨rfl, hba⟩
  rw [HO.out]
  have hAa := hA.call hba
  go_wp2_with fail
  refine (l4Sign_any a cap L (i + 1) _ hAa hL ⟨by omega, by omega⟩).mono ?_
  rintro e w0 ⟨rfl, hbb⟩
  rw [HH.out]
  have hB0 := bstep hba hbb
  go_wp2
  go_ret
  exact ⟨rfl, hB0⟩

set_option maxHeartbeats 4000000 in
theorem deed_hidden (IH : Forms a cap L n) (hA : ArgT w a L) (hL : L.length ≤ 1048576) (hn : 8 * farN L i + 1 ≤ n + 1) (ho : isW (sgAt L i) [40] = true) (hh : sgAt L (i + 1) = ⟨#[104, 105, 100, 100, 101, 110]⟩) :
    Calls Tryz.prog 29 #[.slice a L.length cap, .int .i64 i, .bool true] w fun e w' => e = .returned (.int .i64 (frm L (n + 1) (if true then 1 else 2) i)) ∧ Below w.heap.size w w' := by
  obtain ⟨h0, h1⟩ := sgAt_open ho
  have hr := frm_good L n
  rw [frm_deed, deedS_of (f := true) ho hh (by rw [decB_hidden]; rfl), deedH_hidden]
  have HO : Hid (sgAt L i = ⟨#[40]⟩) := isW_eq ho
  have HH : Hid (sgAt L (i + 1) = ⟨#[104, 105, 100, 100, 101, 110]⟩) := hh
  clear ho hh
  go_enter Tryz.func29, Tryz.ntmps29
  go_wp2_with fail
  refine (l4Sign_any a cap L i _ hA hL ⟨by omega, by omega⟩).mono ?_
  rintro e wa ⟨rfl, hba⟩
  rw [HO.out]
  have hAa := hA.call hba
  go_wp2_with fail
  refine (l4Sign_any a cap L (i + 1) _ hAa hL ⟨by omega, by omega⟩).mono ?_
  rintro e w0 ⟨rfl, hbb⟩
  rw [HH.out]
  have hA0 := hAa.call hbb
  have hB0 := bstep hba hbb
  clear hba hbb hA hAa HO HH
  have F0 : Fw L (i + 2) (i + 2) := fw_at (by omega)
  have s0 := sub_of h0 h1 F0
  go_wp2_with fail
  refine (IH.many 1 (i + 2) _ hA0 (by decide) s0.1 s0.2.1 (by omega)).mono ?_
  rintro e w1 ⟨rfl, hb1⟩
  have hA1 := hA0.call hb1
  have hB1 := bstep hB0 hb1
  have F1 : Fw L (i + 2) (frm L n 5 (i + 2)) := hr.fw (by decide) F0
  clear hb1
  have s1 := sub_of h0 h1 F1
  go_wp2_with fail
  refine (l4Is_any a cap L (frm L n 5 (i + 2)) [41] _ hA1 hL ⟨by omega, by omega⟩ (by decide)).mono ?_
  rintro e w2 ⟨rfl, hb2⟩
  have hA2 := hA1.call hb2
  have hB2 := bstep hB1 hb2
  have F2 : Fw L (i + 2) (isE L (frm L n 5 (i + 2)) [41]) := (isE_ends (by decide) F1).fw
  clear hb2
  go_wp2
  go_ret
  exact ⟨rfl, hB2⟩

set_option maxHeartbeats 4000000 in
theorem deed_hidden_bar (hA : ArgT w a L) (hL : L.length ≤ 1048576) (ho : isW (sgAt L i) [40] = true) (hh : sgAt L (i + 1) = ⟨#[104, 105, 100, 100, 101, 110]⟩) :
    Calls Tryz.prog 29 #[.slice a L.length cap, .int .i64 i, .bool false] w fun e w' => e = .returned (.int .i64 (frm L (n + 1) (if false then 1 else 2) i)) ∧ Below w.heap.size w w' := by
  obtain ⟨h0, h1⟩ := sgAt_open ho
  rw [frm_deed, deedS_bar ho hh decB_hidden]
  have HO : Hid (sgAt L i = ⟨#[40]⟩) := isW_eq ho
  have HH : Hid (sgAt L (i + 1) = ⟨#[104, 105, 100, 100, 101, 110]⟩) := hh
  clear ho hh
  go_enter Tryz.func29, Tryz.ntmps29
  go_wp2_with fail
  refine (l4Sign_any a cap L i _ hA hL ⟨by omega, by omega⟩).mono ?_
  rintro e wa ⟨rfl, hba⟩
  rw [HO.out]
  have hAa := hA.call hba
  go_wp2_with fail
  refine (l4Sign_any a cap L (i + 1) _ hAa hL ⟨by omega, by omega⟩).mono ?_
  rintro e w0 ⟨rfl, hbb⟩
  rw [HH.out]
  have hB0 := bstep hba hbb
  go_wp2
  go_ret
  exact ⟨rfl, hB0⟩

set_option maxHeartbeats 4000000 in
theorem deed_vars (IH : Forms a cap L n) (hA : ArgT w a L) (hL : L.length ≤ 1048576) (hn : 8 * farN L i + 1 ≤ n + 1) (ho : isW (sgAt L i) [40] = true) (hh : sgAt L (i + 1) = ⟨#[118, 97, 114, 115]⟩) :
    Calls Tryz.prog 29 #[.slice a L.length cap, .int .i64 i, .bool true] w fun e w' => e = .returned (.int .i64 (frm L (n + 1) (if true then 1 else 2) i)) ∧ Below w.heap.size w w' := by
  obtain ⟨h0, h1⟩ := sgAt_open ho
  have hr := frm_good L n
  rw [frm_deed, deedS_of (f := true) ho hh (by rw [decB_vars]; rfl), deedH_vars]
  have HO : Hid (sgAt L i = ⟨#[40]⟩) := isW_eq ho
  have HH : Hid (sgAt L (i + 1) = ⟨#[118, 97, 114, 115]⟩) := hh
  clear ho hh
  go_enter Tryz.func29, Tryz.ntmps29
  go_wp2_with fail
  refine (l4Sign_any a cap L i _ hA hL ⟨by omega, by omega⟩).mono ?_
  rintro e wa ⟨rfl, hba⟩
  rw [HO.out]
  have hAa := hA.call hba
  go_wp2_with fail
  refine (l4Sign_any a cap L (i + 1) _ hAa hL ⟨by omega, by omega⟩).mono ?_
  rintro e w0 ⟨rfl, hbb⟩
  rw [HH.out]
  have hA0 := hAa.call hbb
  have hB0 := bstep hba hbb
  clear hba hbb hA hAa HO HH
  have F0 : Fw L (i + 2) (i + 2) := fw_at (by omega)
  have s0 := sub_of h0 h1 F0
  go_wp2_with fail
  refine (IH.many 1 (i + 2) _ hA0 (by decide) s0.1 s0.2.1 (by omega)).mono ?_
  rintro e w1 ⟨rfl, hb1⟩
  have hA1 := hA0.call hb1
  have hB1 := bstep hB0 hb1
  have F1 : Fw L (i + 2) (frm L n 5 (i + 2)) := hr.fw (by decide) F0
  clear hb1
  have s1 := sub_of h0 h1 F1
  go_wp2_with fail
  refine (l4Is_any a cap L (frm L n 5 (i + 2)) [41] _ hA1 hL ⟨by omega, by omega⟩ (by decide)).mono ?_
  rintro e w2 ⟨rfl, hb2⟩
  have hA2 := hA1.call hb2
  have hB2 := bstep hB1 hb2
  have F2 : Fw L (i + 2) (isE L (frm L n 5 (i + 2)) [41]) := (isE_ends (by decide) F1).fw
  clear hb2
  go_wp2
  go_ret
  exact ⟨rfl, hB2⟩

set_option maxHeartbeats 4000000 in
theorem deed_vars_bar (hA : ArgT w a L) (hL : L.length ≤ 1048576) (ho : isW (sgAt L i) [40] = true) (hh : sgAt L (i + 1) = ⟨#[118, 97, 114, 115]⟩) :
    Calls Tryz.prog 29 #[.slice a L.length cap, .int .i64 i, .bool false] w fun e w' => e = .returned (.int .i64 (frm L (n + 1) (if false then 1 else 2) i)) ∧ Below w.heap.size w w' := by
  obtain ⟨h0, h1⟩ := sgAt_open ho
  rw [frm_deed, deedS_bar ho hh decB_vars]
  have HO : Hid (sgAt L i = ⟨#[40]⟩) := isW_eq ho
  have HH : Hid (sgAt L (i + 1) = ⟨#[118, 97, 114, 115]⟩) := hh
  clear ho hh
  go_enter Tryz.func29, Tryz.ntmps29
  go_wp2_with fail
  refine (l4Sign_any a cap L i _ hA hL ⟨by omega, by omega⟩).mono ?_
  rintro e wa ⟨rfl, hba⟩
  rw [HO.out]
  have hAa := hA.call hba
  go_wp2_with fail
  refine (l4Sign_any a cap L (i + 1) _ hAa hL ⟨by omega, by omega⟩).mono ?_
  rintro e w0 ⟨rfl, hbb⟩
  rw [HH.out]
  have hB0 := bstep hba hbb
  go_wp2
  go_ret
  exact ⟨rfl, hB0⟩

set_option maxHeartbeats 4000000 in
theorem deed_do (f : Bool) (IH : Forms a cap L n) (hA : ArgT w a L) (hL : L.length ≤ 1048576) (hn : 8 * farN L i + 1 ≤ n + 1) (ho : isW (sgAt L i) [40] = true) (hh : sgAt L (i + 1) = ⟨#[100, 111]⟩) :
    Calls Tryz.prog 29 #[.slice a L.length cap, .int .i64 i, .bool f] w fun e w' => e = .returned (.int .i64 (frm L (n + 1) (if f then 1 else 2) i)) ∧ Below w.heap.size w w' := by
  obtain ⟨h0, h1⟩ := sgAt_open ho
  have hr := frm_good L n
  rw [frm_deed, deedS_of (f := f) ho hh (by rw [decB_do]; rfl), deedH_do]
  have HO : Hid (sgAt L i = ⟨#[40]⟩) := isW_eq ho
  have HH : Hid (sgAt L (i + 1) = ⟨#[100, 111]⟩) := hh
  clear ho hh
  go_enter Tryz.func29, Tryz.ntmps29
  go_wp2_with fail
  refine (l4Sign_any a cap L i _ hA hL ⟨by omega, by omega⟩).mono ?_
  rintro e wa ⟨rfl, hba⟩
  rw [HO.out]
  have hAa := hA.call hba
  go_wp2_with fail
  refine (l4Sign_any a cap L (i + 1) _ hAa hL ⟨by omega, by omega⟩).mono ?_
  rintro e w0 ⟨rfl, hbb⟩
  rw [HH.out]
  have hA0 := hAa.call hbb
  have hB0 := bstep hba hbb
  clear hba hbb hA hAa HO HH
  have F0 : Fw L (i + 2) (i + 2) := fw_at (by omega)
  have s0 := sub_of h0 h1 F0
  go_wp2_with fail
  refine (IH.many 2 (i + 2) _ hA0 (by decide) s0.1 s0.2.1 (by omega)).mono ?_
  rintro e w1 ⟨rfl, hb1⟩
  have hA1 := hA0.call hb1
  have hB1 := bstep hB0 hb1
  have F1 : Fw L (i + 2) (frm L n 6 (i + 2)) := hr.fw (by decide) F0
  clear hb1
  have s1 := sub_of h0 h1 F1
  go_wp2_with fail
  refine (l4Is_any a cap L (frm L n 6 (i + 2)) [41] _ hA1 hL ⟨by omega, by omega⟩ (by decide)).mono ?_
  rintro e w2 ⟨rfl, hb2⟩
  have hA2 := hA1.call hb2
  have hB2 := bstep hB1 hb2
  have F2 : Fw L (i + 2) (isE L (frm L n 6 (i + 2)) [41]) := (isE_ends (by decide) F1).fw
  clear hb2
  go_wp2
  go_ret
  exact ⟨rfl, hB2⟩

set_option maxHeartbeats 4000000 in
theorem deed_if (f : Bool) (IH : Forms a cap L n) (hA : ArgT w a L) (hL : L.length ≤ 1048576) (hn : 8 * farN L i + 1 ≤ n + 1) (ho : isW (sgAt L i) [40] = true) (hh : sgAt L (i + 1) = ⟨#[105, 102]⟩) :
    Calls Tryz.prog 29 #[.slice a L.length cap, .int .i64 i, .bool f] w fun e w' => e = .returned (.int .i64 (frm L (n + 1) (if f then 1 else 2) i)) ∧ Below w.heap.size w w' := by
  obtain ⟨h0, h1⟩ := sgAt_open ho
  have hr := frm_good L n
  rw [frm_deed, deedS_of (f := f) ho hh (by rw [decB_if]; rfl), deedH_if]
  have HO : Hid (sgAt L i = ⟨#[40]⟩) := isW_eq ho
  have HH : Hid (sgAt L (i + 1) = ⟨#[105, 102]⟩) := hh
  clear ho hh
  go_enter Tryz.func29, Tryz.ntmps29
  go_wp2_with fail
  refine (l4Sign_any a cap L i _ hA hL ⟨by omega, by omega⟩).mono ?_
  rintro e wa ⟨rfl, hba⟩
  rw [HO.out]
  have hAa := hA.call hba
  go_wp2_with fail
  refine (l4Sign_any a cap L (i + 1) _ hAa hL ⟨by omega, by omega⟩).mono ?_
  rintro e w0 ⟨rfl, hbb⟩
  rw [HH.out]
  have hA0 := hAa.call hbb
  have hB0 := bstep hba hbb
  clear hba hbb hA hAa HO HH
  have F0 : Fw L (i + 2) (i + 2) := fw_at (by omega)
  have s0 := sub_of h0 h1 F0
  go_wp2_with fail
  refine (IH.sum (i + 2) _ hA0 ⟨by omega, by omega⟩ (by omega)).mono ?_
  rintro e w1 ⟨rfl, hb1⟩
  have hA1 := hA0.call hb1
  have hB1 := bstep hB0 hb1
  have F1 : Fw L (i + 2) (frm L n 0 (i + 2)) := (hr.ends (by decide) F0).fw
  clear hb1
  have s1 := sub_of h0 h1 F1
  go_wp2_with fail
  refine (IH.deed (frm L n 0 (i + 2)) false _ hA1 ⟨by omega, by omega⟩ (by omega)).mono ?_
  rintro e w2 ⟨rfl, hb2⟩
  have hA2 := hA1.call hb2
  have hB2 := bstep hB1 hb2
  have F2 : Fw L (i + 2) (frm L n 2 (frm L n 0 (i + 2))) := (hr.ends (by decide) F1).fw
  clear hb2
  have s2 := sub_of h0 h1 F2
  go_wp2_with fail
  refine (IH.deed (frm L n 2 (frm L n 0 (i + 2))) false _ hA2 ⟨by omega, by omega⟩ (by omega)).mono ?_
  rintro e w3 ⟨rfl, hb3⟩
  have hA3 := hA2.call hb3
  have hB3 := bstep hB2 hb3
  have F3 : Fw L (i + 2) (frm L n 2 (frm L n 2 (frm L n 0 (i + 2)))) := (hr.ends (by decide) F2).fw
  clear hb3
  have s3 := sub_of h0 h1 F3
  go_wp2_with fail
  refine (l4Is_any a cap L (frm L n 2 (frm L n 2 (frm L n 0 (i + 2)))) [41] _ hA3 hL ⟨by omega, by omega⟩ (by decide)).mono ?_
  rintro e w4 ⟨rfl, hb4⟩
  have hA4 := hA3.call hb4
  have hB4 := bstep hB3 hb4
  have F4 : Fw L (i + 2) (isE L (frm L n 2 (frm L n 2 (frm L n 0 (i + 2)))) [41]) := (isE_ends (by decide) F3).fw
  clear hb4
  go_wp2
  go_ret
  exact ⟨rfl, hB4⟩

set_option maxHeartbeats 4000000 in
theorem deed_while (f : Bool) (IH : Forms a cap L n) (hA : ArgT w a L) (hL : L.length ≤ 1048576) (hn : 8 * farN L i + 1 ≤ n + 1) (ho : isW (sgAt L i) [40] = true) (hh : sgAt L (i + 1) = ⟨#[119, 104, 105, 108, 101]⟩) :
    Calls Tryz.prog 29 #[.slice a L.length cap, .int .i64 i, .bool f] w fun e w' => e = .returned (.int .i64 (frm L (n + 1) (if f then 1 else 2) i)) ∧ Below w.heap.size w w' := by
  obtain ⟨h0, h1⟩ := sgAt_open ho
  have hr := frm_good L n
  rw [frm_deed, deedS_of (f := f) ho hh (by rw [decB_while]; rfl), deedH_while]
  have HO : Hid (sgAt L i = ⟨#[40]⟩) := isW_eq ho
  have HH : Hid (sgAt L (i + 1) = ⟨#[119, 104, 105, 108, 101]⟩) := hh
  clear ho hh
  go_enter Tryz.func29, Tryz.ntmps29
  go_wp2_with fail
  refine (l4Sign_any a cap L i _ hA hL ⟨by omega, by omega⟩).mono ?_
  rintro e wa ⟨rfl, hba⟩
  rw [HO.out]
  have hAa := hA.call hba
  go_wp2_with fail
  refine (l4Sign_any a cap L (i + 1) _ hAa hL ⟨by omega, by omega⟩).mono ?_
  rintro e w0 ⟨rfl, hbb⟩
  rw [HH.out]
  have hA0 := hAa.call hbb
  have hB0 := bstep hba hbb
  clear hba hbb hA hAa HO HH
  have F0 : Fw L (i + 2) (i + 2) := fw_at (by omega)
  have s0 := sub_of h0 h1 F0
  go_wp2_with fail
  refine (IH.sum (i + 2) _ hA0 ⟨by omega, by omega⟩ (by omega)).mono ?_
  rintro e w1 ⟨rfl, hb1⟩
  have hA1 := hA0.call hb1
  have hB1 := bstep hB0 hb1
  have F1 : Fw L (i + 2) (frm L n 0 (i + 2)) := (hr.ends (by decide) F0).fw
  clear hb1
  have s1 := sub_of h0 h1 F1
  go_wp2_with fail
  refine (IH.deed (frm L n 0 (i + 2)) false _ hA1 ⟨by omega, by omega⟩ (by omega)).mono ?_
  rintro e w2 ⟨rfl, hb2⟩
  have hA2 := hA1.call hb2
  have hB2 := bstep hB1 hb2
  have F2 : Fw L (i + 2) (frm L n 2 (frm L n 0 (i + 2))) := (hr.ends (by decide) F1).fw
  clear hb2
  have s2 := sub_of h0 h1 F2
  go_wp2_with fail
  refine (l4Is_any a cap L (frm L n 2 (frm L n 0 (i + 2))) [41] _ hA2 hL ⟨by omega, by omega⟩ (by decide)).mono ?_
  rintro e w3 ⟨rfl, hb3⟩
  have hA3 := hA2.call hb3
  have hB3 := bstep hB2 hb3
  have F3 : Fw L (i + 2) (isE L (frm L n 2 (frm L n 0 (i + 2))) [41]) := (isE_ends (by decide) F2).fw
  clear hb3
  go_wp2
  go_ret
  exact ⟨rfl, hB3⟩

set_option maxHeartbeats 4000000 in
theorem deed_for (f : Bool) (IH : Forms a cap L n) (hA : ArgT w a L) (hL : L.length ≤ 1048576) (hn : 8 * farN L i + 1 ≤ n + 1) (ho : isW (sgAt L i) [40] = true) (hh : sgAt L (i + 1) = ⟨#[102, 111, 114]⟩) :
    Calls Tryz.prog 29 #[.slice a L.length cap, .int .i64 i, .bool f] w fun e w' => e = .returned (.int .i64 (frm L (n + 1) (if f then 1 else 2) i)) ∧ Below w.heap.size w w' := by
  obtain ⟨h0, h1⟩ := sgAt_open ho
  have hr := frm_good L n
  rw [frm_deed, deedS_of (f := f) ho hh (by rw [decB_for]; rfl), deedH_for]
  have HO : Hid (sgAt L i = ⟨#[40]⟩) := isW_eq ho
  have HH : Hid (sgAt L (i + 1) = ⟨#[102, 111, 114]⟩) := hh
  clear ho hh
  go_enter Tryz.func29, Tryz.ntmps29
  go_wp2_with fail
  refine (l4Sign_any a cap L i _ hA hL ⟨by omega, by omega⟩).mono ?_
  rintro e wa ⟨rfl, hba⟩
  rw [HO.out]
  have hAa := hA.call hba
  go_wp2_with fail
  refine (l4Sign_any a cap L (i + 1) _ hAa hL ⟨by omega, by omega⟩).mono ?_
  rintro e w0 ⟨rfl, hbb⟩
  rw [HH.out]
  have hA0 := hAa.call hbb
  have hB0 := bstep hba hbb
  clear hba hbb hA hAa HO HH
  have F0 : Fw L (i + 2) (i + 2) := fw_at (by omega)
  have s0 := sub_of h0 h1 F0
  go_wp2_with fail
  refine (l4NameEnd_any a cap L (i + 2) _ hA0 hL ⟨by omega, by omega⟩).mono ?_
  rintro e w1 ⟨rfl, hb1⟩
  have hA1 := hA0.call hb1
  have hB1 := bstep hB0 hb1
  have F1 : Fw L (i + 2) (nmE L (i + 2)) := (nmE_ends F0).fw
  clear hb1
  have s1 := sub_of h0 h1 F1
  go_wp2_with fail
  refine (IH.sums 2 (nmE L (i + 2)) _ hA1 (by decide) s1.1 s1.2.1 (by omega)).mono ?_
  rintro e w2 ⟨rfl, hb2⟩
  have hA2 := hA1.call hb2
  have hB2 := bstep hB1 hb2
  have F2 : Fw L (i + 2) (frm L n 10 (nmE L (i + 2))) := hr.fw (by decide) F1
  clear hb2
  have s2 := sub_of h0 h1 F2
  go_wp2_with fail
  refine (IH.deed (frm L n 10 (nmE L (i + 2))) false _ hA2 ⟨by omega, by omega⟩ (by omega)).mono ?_
  rintro e w3 ⟨rfl, hb3⟩
  have hA3 := hA2.call hb3
  have hB3 := bstep hB2 hb3
  have F3 : Fw L (i + 2) (frm L n 2 (frm L n 10 (nmE L (i + 2)))) := (hr.ends (by decide) F2).fw
  clear hb3
  have s3 := sub_of h0 h1 F3
  go_wp2_with fail
  refine (l4Is_any a cap L (frm L n 2 (frm L n 10 (nmE L (i + 2)))) [41] _ hA3 hL ⟨by omega, by omega⟩ (by decide)).mono ?_
  rintro e w4 ⟨rfl, hb4⟩
  have hA4 := hA3.call hb4
  have hB4 := bstep hB3 hb4
  have F4 : Fw L (i + 2) (isE L (frm L n 2 (frm L n 10 (nmE L (i + 2)))) [41]) := (isE_ends (by decide) F3).fw
  clear hb4
  go_wp2
  go_ret
  exact ⟨rfl, hB4⟩

set_option maxHeartbeats 4000000 in
theorem deed_say (f : Bool) (IH : Forms a cap L n) (hA : ArgT w a L) (hL : L.length ≤ 1048576) (hn : 8 * farN L i + 1 ≤ n + 1) (ho : isW (sgAt L i) [40] = true) (hh : sgAt L (i + 1) = ⟨#[115, 97, 121]⟩) :
    Calls Tryz.prog 29 #[.slice a L.length cap, .int .i64 i, .bool f] w fun e w' => e = .returned (.int .i64 (frm L (n + 1) (if f then 1 else 2) i)) ∧ Below w.heap.size w w' := by
  obtain ⟨h0, h1⟩ := sgAt_open ho
  have hr := frm_good L n
  rw [frm_deed, deedS_of (f := f) ho hh (by rw [decB_say]; rfl), deedH_say]
  have HO : Hid (sgAt L i = ⟨#[40]⟩) := isW_eq ho
  have HH : Hid (sgAt L (i + 1) = ⟨#[115, 97, 121]⟩) := hh
  clear ho hh
  go_enter Tryz.func29, Tryz.ntmps29
  go_wp2_with fail
  refine (l4Sign_any a cap L i _ hA hL ⟨by omega, by omega⟩).mono ?_
  rintro e wa ⟨rfl, hba⟩
  rw [HO.out]
  have hAa := hA.call hba
  go_wp2_with fail
  refine (l4Sign_any a cap L (i + 1) _ hAa hL ⟨by omega, by omega⟩).mono ?_
  rintro e w0 ⟨rfl, hbb⟩
  rw [HH.out]
  have hA0 := hAa.call hbb
  have hB0 := bstep hba hbb
  clear hba hbb hA hAa HO HH
  have F0 : Fw L (i + 2) (i + 2) := fw_at (by omega)
  have s0 := sub_of h0 h1 F0
  go_wp2_with fail
  refine (IH.sum (i + 2) _ hA0 ⟨by omega, by omega⟩ (by omega)).mono ?_
  rintro e w1 ⟨rfl, hb1⟩
  have hA1 := hA0.call hb1
  have hB1 := bstep hB0 hb1
  have F1 : Fw L (i + 2) (frm L n 0 (i + 2)) := (hr.ends (by decide) F0).fw
  clear hb1
  have s1 := sub_of h0 h1 F1
  go_wp2_with fail
  refine (l4Is_any a cap L (frm L n 0 (i + 2)) [41] _ hA1 hL ⟨by omega, by omega⟩ (by decide)).mono ?_
  rintro e w2 ⟨rfl, hb2⟩
  have hA2 := hA1.call hb2
  have hB2 := bstep hB1 hb2
  have F2 : Fw L (i + 2) (isE L (frm L n 0 (i + 2)) [41]) := (isE_ends (by decide) F1).fw
  clear hb2
  go_wp2
  go_ret
  exact ⟨rfl, hB2⟩

set_option maxHeartbeats 4000000 in
theorem deed_back (f : Bool) (IH : Forms a cap L n) (hA : ArgT w a L) (hL : L.length ≤ 1048576) (hn : 8 * farN L i + 1 ≤ n + 1) (ho : isW (sgAt L i) [40] = true) (hh : sgAt L (i + 1) = ⟨#[98, 97, 99, 107]⟩) :
    Calls Tryz.prog 29 #[.slice a L.length cap, .int .i64 i, .bool f] w fun e w' => e = .returned (.int .i64 (frm L (n + 1) (if f then 1 else 2) i)) ∧ Below w.heap.size w w' := by
  obtain ⟨h0, h1⟩ := sgAt_open ho
  have hr := frm_good L n
  rw [frm_deed, deedS_of (f := f) ho hh (by rw [decB_back]; rfl), deedH_back]
  have HO : Hid (sgAt L i = ⟨#[40]⟩) := isW_eq ho
  have HH : Hid (sgAt L (i + 1) = ⟨#[98, 97, 99, 107]⟩) := hh
  clear ho hh
  go_enter Tryz.func29, Tryz.ntmps29
  go_wp2_with fail
  refine (l4Sign_any a cap L i _ hA hL ⟨by omega, by omega⟩).mono ?_
  rintro e wa ⟨rfl, hba⟩
  rw [HO.out]
  have hAa := hA.call hba
  go_wp2_with fail
  refine (l4Sign_any a cap L (i + 1) _ hAa hL ⟨by omega, by omega⟩).mono ?_
  rintro e w0 ⟨rfl, hbb⟩
  rw [HH.out]
  have hA0 := hAa.call hbb
  have hB0 := bstep hba hbb
  clear hba hbb hA hAa HO HH
  have F0 : Fw L (i + 2) (i + 2) := fw_at (by omega)
  have s0 := sub_of h0 h1 F0
  go_wp2_with fail
  refine (IH.sum (i + 2) _ hA0 ⟨by omega, by omega⟩ (by omega)).mono ?_
  rintro e w1 ⟨rfl, hb1⟩
  have hA1 := hA0.call hb1
  have hB1 := bstep hB0 hb1
  have F1 : Fw L (i + 2) (frm L n 0 (i + 2)) := (hr.ends (by decide) F0).fw
  clear hb1
  have s1 := sub_of h0 h1 F1
  go_wp2_with fail
  refine (l4Is_any a cap L (frm L n 0 (i + 2)) [41] _ hA1 hL ⟨by omega, by omega⟩ (by decide)).mono ?_
  rintro e w2 ⟨rfl, hb2⟩
  have hA2 := hA1.call hb2
  have hB2 := bstep hB1 hb2
  have F2 : Fw L (i + 2) (isE L (frm L n 0 (i + 2)) [41]) := (isE_ends (by decide) F1).fw
  clear hb2
  go_wp2
  go_ret
  exact ⟨rfl, hB2⟩

set_option maxHeartbeats 4000000 in
theorem deed_run (f : Bool) (IH : Forms a cap L n) (hA : ArgT w a L) (hL : L.length ≤ 1048576) (hn : 8 * farN L i + 1 ≤ n + 1) (ho : isW (sgAt L i) [40] = true) (hh : sgAt L (i + 1) = ⟨#[114, 117, 110]⟩) :
    Calls Tryz.prog 29 #[.slice a L.length cap, .int .i64 i, .bool f] w fun e w' => e = .returned (.int .i64 (frm L (n + 1) (if f then 1 else 2) i)) ∧ Below w.heap.size w w' := by
  obtain ⟨h0, h1⟩ := sgAt_open ho
  have hr := frm_good L n
  rw [frm_deed, deedS_of (f := f) ho hh (by rw [decB_run]; rfl), deedH_run]
  have HO : Hid (sgAt L i = ⟨#[40]⟩) := isW_eq ho
  have HH : Hid (sgAt L (i + 1) = ⟨#[114, 117, 110]⟩) := hh
  clear ho hh
  go_enter Tryz.func29, Tryz.ntmps29
  go_wp2_with fail
  refine (l4Sign_any a cap L i _ hA hL ⟨by omega, by omega⟩).mono ?_
  rintro e wa ⟨rfl, hba⟩
  rw [HO.out]
  have hAa := hA.call hba
  go_wp2_with fail
  refine (l4Sign_any a cap L (i + 1) _ hAa hL ⟨by omega, by omega⟩).mono ?_
  rintro e w0 ⟨rfl, hbb⟩
  rw [HH.out]
  have hA0 := hAa.call hbb
  have hB0 := bstep hba hbb
  clear hba hbb hA hAa HO HH
  have F0 : Fw L (i + 2) (i + 2) := fw_at (by omega)
  have s0 := sub_of h0 h1 F0
  go_wp2_with fail
  refine (IH.sum (i + 2) _ hA0 ⟨by omega, by omega⟩ (by omega)).mono ?_
  rintro e w1 ⟨rfl, hb1⟩
  have hA1 := hA0.call hb1
  have hB1 := bstep hB0 hb1
  have F1 : Fw L (i + 2) (frm L n 0 (i + 2)) := (hr.ends (by decide) F0).fw
  clear hb1
  have s1 := sub_of h0 h1 F1
  go_wp2_with fail
  refine (l4Is_any a cap L (frm L n 0 (i + 2)) [41] _ hA1 hL ⟨by omega, by omega⟩ (by decide)).mono ?_
  rintro e w2 ⟨rfl, hb2⟩
  have hA2 := hA1.call hb2
  have hB2 := bstep hB1 hb2
  have F2 : Fw L (i + 2) (isE L (frm L n 0 (i + 2)) [41]) := (isE_ends (by decide) F1).fw
  clear hb2
  go_wp2
  go_ret
  exact ⟨rfl, hB2⟩

set_option maxHeartbeats 4000000 in
theorem deed_leave (f : Bool) (_IH : Forms a cap L n) (hA : ArgT w a L) (hL : L.length ≤ 1048576) (_hn : 8 * farN L i + 1 ≤ n + 1) (ho : isW (sgAt L i) [40] = true) (hh : sgAt L (i + 1) = ⟨#[108, 101, 97, 118, 101]⟩) :
    Calls Tryz.prog 29 #[.slice a L.length cap, .int .i64 i, .bool f] w fun e w' => e = .returned (.int .i64 (frm L (n + 1) (if f then 1 else 2) i)) ∧ Below w.heap.size w w' := by
  obtain ⟨h0, h1⟩ := sgAt_open ho
  have hr := frm_good L n
  rw [frm_deed, deedS_of (f := f) ho hh (by rw [decB_leave]; rfl), deedH_leave]
  have HO : Hid (sgAt L i = ⟨#[40]⟩) := isW_eq ho
  have HH : Hid (sgAt L (i + 1) = ⟨#[108, 101, 97, 118, 101]⟩) := hh
  clear ho hh
  go_enter Tryz.func29, Tryz.ntmps29
  go_wp2_with fail
  refine (l4Sign_any a cap L i _ hA hL ⟨by omega, by omega⟩).mono ?_
  rintro e wa ⟨rfl, hba⟩
  rw [HO.out]
  have hAa := hA.call hba
  go_wp2_with fail
  refine (l4Sign_any a cap L (i + 1) _ hAa hL ⟨by omega, by omega⟩).mono ?_
  rintro e w0 ⟨rfl, hbb⟩
  rw [HH.out]
  have hA0 := hAa.call hbb
  have hB0 := bstep hba hbb
  clear hba hbb hA hAa HO HH
  have F0 : Fw L (i + 2) (i + 2) := fw_at (by omega)
  have s0 := sub_of h0 h1 F0
  go_wp2_with fail
  refine (l4Is_any a cap L (i + 2) [41] _ hA0 hL ⟨by omega, by omega⟩ (by decide)).mono ?_
  rintro e w1 ⟨rfl, hb1⟩
  have hA1 := hA0.call hb1
  have hB1 := bstep hB0 hb1
  have F1 : Fw L (i + 2) (isE L (i + 2) [41]) := (isE_ends (by decide) F0).fw
  clear hb1
  go_wp2
  go_ret
  exact ⟨rfl, hB1⟩

set_option maxHeartbeats 4000000 in
theorem deed_next (f : Bool) (_IH : Forms a cap L n) (hA : ArgT w a L) (hL : L.length ≤ 1048576) (_hn : 8 * farN L i + 1 ≤ n + 1) (ho : isW (sgAt L i) [40] = true) (hh : sgAt L (i + 1) = ⟨#[110, 101, 120, 116]⟩) :
    Calls Tryz.prog 29 #[.slice a L.length cap, .int .i64 i, .bool f] w fun e w' => e = .returned (.int .i64 (frm L (n + 1) (if f then 1 else 2) i)) ∧ Below w.heap.size w w' := by
  obtain ⟨h0, h1⟩ := sgAt_open ho
  have hr := frm_good L n
  rw [frm_deed, deedS_of (f := f) ho hh (by rw [decB_next]; rfl), deedH_next]
  have HO : Hid (sgAt L i = ⟨#[40]⟩) := isW_eq ho
  have HH : Hid (sgAt L (i + 1) = ⟨#[110, 101, 120, 116]⟩) := hh
  clear ho hh
  go_enter Tryz.func29, Tryz.ntmps29
  go_wp2_with fail
  refine (l4Sign_any a cap L i _ hA hL ⟨by omega, by omega⟩).mono ?_
  rintro e wa ⟨rfl, hba⟩
  rw [HO.out]
  have hAa := hA.call hba
  go_wp2_with fail
  refine (l4Sign_any a cap L (i + 1) _ hAa hL ⟨by omega, by omega⟩).mono ?_
  rintro e w0 ⟨rfl, hbb⟩
  rw [HH.out]
  have hA0 := hAa.call hbb
  have hB0 := bstep hba hbb
  clear hba hbb hA hAa HO HH
  have F0 : Fw L (i + 2) (i + 2) := fw_at (by omega)
  have s0 := sub_of h0 h1 F0
  go_wp2_with fail
  refine (l4Is_any a cap L (i + 2) [41] _ hA0 hL ⟨by omega, by omega⟩ (by decide)).mono ?_
  rintro e w1 ⟨rfl, hb1⟩
  have hA1 := hA0.call hb1
  have hB1 := bstep hB0 hb1
  have F1 : Fw L (i + 2) (isE L (i + 2) [41]) := (isE_ends (by decide) F0).fw
  clear hb1
  go_wp2
  go_ret
  exact ⟨rfl, hB1⟩

set_option maxHeartbeats 4000000 in
theorem deed_put (f : Bool) (IH : Forms a cap L n) (hA : ArgT w a L) (hL : L.length ≤ 1048576) (hn : 8 * farN L i + 1 ≤ n + 1) (ho : isW (sgAt L i) [40] = true) (hh : sgAt L (i + 1) = ⟨#[112, 117, 116]⟩) :
    Calls Tryz.prog 29 #[.slice a L.length cap, .int .i64 i, .bool f] w fun e w' => e = .returned (.int .i64 (frm L (n + 1) (if f then 1 else 2) i)) ∧ Below w.heap.size w w' := by
  obtain ⟨h0, h1⟩ := sgAt_open ho
  have hr := frm_good L n
  rw [frm_deed, deedS_of (f := f) ho hh (by rw [decB_put]; rfl), deedH_put]
  have HO : Hid (sgAt L i = ⟨#[40]⟩) := isW_eq ho
  have HH : Hid (sgAt L (i + 1) = ⟨#[112, 117, 116]⟩) := hh
  clear ho hh
  go_enter Tryz.func29, Tryz.ntmps29
  go_wp2_with fail
  refine (l4Sign_any a cap L i _ hA hL ⟨by omega, by omega⟩).mono ?_
  rintro e wa ⟨rfl, hba⟩
  rw [HO.out]
  have hAa := hA.call hba
  go_wp2_with fail
  refine (l4Sign_any a cap L (i + 1) _ hAa hL ⟨by omega, by omega⟩).mono ?_
  rintro e w0 ⟨rfl, hbb⟩
  rw [HH.out]
  have hA0 := hAa.call hbb
  have hB0 := bstep hba hbb
  clear hba hbb hA hAa HO HH
  have F0 : Fw L (i + 2) (i + 2) := fw_at (by omega)
  have s0 := sub_of h0 h1 F0
  go_wp2_with fail
  refine (IH.sums 3 (i + 2) _ hA0 (by decide) s0.1 s0.2.1 (by omega)).mono ?_
  rintro e w1 ⟨rfl, hb1⟩
  have hA1 := hA0.call hb1
  have hB1 := bstep hB0 hb1
  have F1 : Fw L (i + 2) (frm L n 11 (i + 2)) := hr.fw (by decide) F0
  clear hb1
  have s1 := sub_of h0 h1 F1
  go_wp2_with fail
  refine (l4Is_any a cap L (frm L n 11 (i + 2)) [41] _ hA1 hL ⟨by omega, by omega⟩ (by decide)).mono ?_
  rintro e w2 ⟨rfl, hb2⟩
  have hA2 := hA1.call hb2
  have hB2 := bstep hB1 hb2
  have F2 : Fw L (i + 2) (isE L (frm L n 11 (i + 2)) [41]) := (isE_ends (by decide) F1).fw
  clear hb2
  go_wp2
  go_ret
  exact ⟨rfl, hB2⟩

set_option maxHeartbeats 4000000 in
theorem deed_tput (f : Bool) (IH : Forms a cap L n) (hA : ArgT w a L) (hL : L.length ≤ 1048576) (hn : 8 * farN L i + 1 ≤ n + 1) (ho : isW (sgAt L i) [40] = true) (hh : sgAt L (i + 1) = ⟨#[116, 112, 117, 116]⟩) :
    Calls Tryz.prog 29 #[.slice a L.length cap, .int .i64 i, .bool f] w fun e w' => e = .returned (.int .i64 (frm L (n + 1) (if f then 1 else 2) i)) ∧ Below w.heap.size w w' := by
  obtain ⟨h0, h1⟩ := sgAt_open ho
  have hr := frm_good L n
  rw [frm_deed, deedS_of (f := f) ho hh (by rw [decB_tput]; rfl), deedH_tput]
  have HO : Hid (sgAt L i = ⟨#[40]⟩) := isW_eq ho
  have HH : Hid (sgAt L (i + 1) = ⟨#[116, 112, 117, 116]⟩) := hh
  clear ho hh
  go_enter Tryz.func29, Tryz.ntmps29
  go_wp2_with fail
  refine (l4Sign_any a cap L i _ hA hL ⟨by omega, by omega⟩).mono ?_
  rintro e wa ⟨rfl, hba⟩
  rw [HO.out]
  have hAa := hA.call hba
  go_wp2_with fail
  refine (l4Sign_any a cap L (i + 1) _ hAa hL ⟨by omega, by omega⟩).mono ?_
  rintro e w0 ⟨rfl, hbb⟩
  rw [HH.out]
  have hA0 := hAa.call hbb
  have hB0 := bstep hba hbb
  clear hba hbb hA hAa HO HH
  have F0 : Fw L (i + 2) (i + 2) := fw_at (by omega)
  have s0 := sub_of h0 h1 F0
  go_wp2_with fail
  refine (IH.sums 3 (i + 2) _ hA0 (by decide) s0.1 s0.2.1 (by omega)).mono ?_
  rintro e w1 ⟨rfl, hb1⟩
  have hA1 := hA0.call hb1
  have hB1 := bstep hB0 hb1
  have F1 : Fw L (i + 2) (frm L n 11 (i + 2)) := hr.fw (by decide) F0
  clear hb1
  have s1 := sub_of h0 h1 F1
  go_wp2_with fail
  refine (l4Is_any a cap L (frm L n 11 (i + 2)) [41] _ hA1 hL ⟨by omega, by omega⟩ (by decide)).mono ?_
  rintro e w2 ⟨rfl, hb2⟩
  have hA2 := hA1.call hb2
  have hB2 := bstep hB1 hb2
  have F2 : Fw L (i + 2) (isE L (frm L n 11 (i + 2)) [41]) := (isE_ends (by decide) F1).fw
  clear hb2
  go_wp2
  go_ret
  exact ⟨rfl, hB2⟩

set_option maxHeartbeats 4000000 in
theorem deed_hput (f : Bool) (IH : Forms a cap L n) (hA : ArgT w a L) (hL : L.length ≤ 1048576) (hn : 8 * farN L i + 1 ≤ n + 1) (ho : isW (sgAt L i) [40] = true) (hh : sgAt L (i + 1) = ⟨#[104, 112, 117, 116]⟩) :
    Calls Tryz.prog 29 #[.slice a L.length cap, .int .i64 i, .bool f] w fun e w' => e = .returned (.int .i64 (frm L (n + 1) (if f then 1 else 2) i)) ∧ Below w.heap.size w w' := by
  obtain ⟨h0, h1⟩ := sgAt_open ho
  have hr := frm_good L n
  rw [frm_deed, deedS_of (f := f) ho hh (by rw [decB_hput]; rfl), deedH_hput]
  have HO : Hid (sgAt L i = ⟨#[40]⟩) := isW_eq ho
  have HH : Hid (sgAt L (i + 1) = ⟨#[104, 112, 117, 116]⟩) := hh
  clear ho hh
  go_enter Tryz.func29, Tryz.ntmps29
  go_wp2_with fail
  refine (l4Sign_any a cap L i _ hA hL ⟨by omega, by omega⟩).mono ?_
  rintro e wa ⟨rfl, hba⟩
  rw [HO.out]
  have hAa := hA.call hba
  go_wp2_with fail
  refine (l4Sign_any a cap L (i + 1) _ hAa hL ⟨by omega, by omega⟩).mono ?_
  rintro e w0 ⟨rfl, hbb⟩
  rw [HH.out]
  have hA0 := hAa.call hbb
  have hB0 := bstep hba hbb
  clear hba hbb hA hAa HO HH
  have F0 : Fw L (i + 2) (i + 2) := fw_at (by omega)
  have s0 := sub_of h0 h1 F0
  go_wp2_with fail
  refine (l4NameEnd_any a cap L (i + 2) _ hA0 hL ⟨by omega, by omega⟩).mono ?_
  rintro e w1 ⟨rfl, hb1⟩
  have hA1 := hA0.call hb1
  have hB1 := bstep hB0 hb1
  have F1 : Fw L (i + 2) (nmE L (i + 2)) := (nmE_ends F0).fw
  clear hb1
  have s1 := sub_of h0 h1 F1
  go_wp2_with fail
  refine (IH.sums 2 (nmE L (i + 2)) _ hA1 (by decide) s1.1 s1.2.1 (by omega)).mono ?_
  rintro e w2 ⟨rfl, hb2⟩
  have hA2 := hA1.call hb2
  have hB2 := bstep hB1 hb2
  have F2 : Fw L (i + 2) (frm L n 10 (nmE L (i + 2))) := hr.fw (by decide) F1
  clear hb2
  have s2 := sub_of h0 h1 F2
  go_wp2_with fail
  refine (l4Is_any a cap L (frm L n 10 (nmE L (i + 2))) [41] _ hA2 hL ⟨by omega, by omega⟩ (by decide)).mono ?_
  rintro e w3 ⟨rfl, hb3⟩
  have hA3 := hA2.call hb3
  have hB3 := bstep hB2 hb3
  have F3 : Fw L (i + 2) (isE L (frm L n 10 (nmE L (i + 2))) [41]) := (isE_ends (by decide) F2).fw
  clear hb3
  go_wp2
  go_ret
  exact ⟨rfl, hB3⟩

set_option maxHeartbeats 4000000 in
theorem deed_not (f : Bool) (hA : ArgT w a L) (hL : L.length ≤ 1048576) (ho : isW (sgAt L i) [40] = true) (hlet : sgAt L (i + 1) ≠ ⟨#[108, 101, 116]⟩) (hset : sgAt L (i + 1) ≠ ⟨#[115, 101, 116]⟩) (htake : sgAt L (i + 1) ≠ ⟨#[116, 97, 107, 101]⟩) (hhidden : sgAt L (i + 1) ≠ ⟨#[104, 105, 100, 100, 101, 110]⟩) (hvars : sgAt L (i + 1) ≠ ⟨#[118, 97, 114, 115]⟩) (hdo : sgAt L (i + 1) ≠ ⟨#[100, 111]⟩) (hif : sgAt L (i + 1) ≠ ⟨#[105, 102]⟩) (hwhile : sgAt L (i + 1) ≠ ⟨#[119, 104, 105, 108, 101]⟩) (hfor : sgAt L (i + 1) ≠ ⟨#[102, 111, 114]⟩) (hsay : sgAt L (i + 1) ≠ ⟨#[115, 97, 121]⟩) (hback : sgAt L (i + 1) ≠ ⟨#[98, 97, 99, 107]⟩) (hrun : sgAt L (i + 1) ≠ ⟨#[114, 117, 110]⟩) (hleave : sgAt L (i + 1) ≠ ⟨#[108, 101, 97, 118, 101]⟩) (hnext : sgAt L (i + 1) ≠ ⟨#[110, 101, 120, 116]⟩) (hput : sgAt L (i + 1) ≠ ⟨#[112, 117, 116]⟩) (htput : sgAt L (i + 1) ≠ ⟨#[116, 112, 117, 116]⟩) (hhput : sgAt L (i + 1) ≠ ⟨#[104, 112, 117, 116]⟩) :
    Calls Tryz.prog 29 #[.slice a L.length cap, .int .i64 i, .bool f] w fun e w' => e = .returned (.int .i64 (frm L (n + 1) (if f then 1 else 2) i)) ∧ Below w.heap.size w w' := by
  obtain ⟨h0, h1⟩ := sgAt_open ho
  rw [frm_deed, deedS_of (f := f) ho rfl (by rw [decB_not hlet htake hhidden hvars]; rfl), deedH_not hlet hset htake hhidden hvars hdo hif hwhile hfor hsay hback hrun hleave hnext hput htput hhput]
  have HO : Hid (sgAt L i = ⟨#[40]⟩) := isW_eq ho
  have qlet : ((sgAt L (i + 1)).toList == [108, 101, 116]) = false := isW_no hlet
  have qset : ((sgAt L (i + 1)).toList == [115, 101, 116]) = false := isW_no hset
  have qtake : ((sgAt L (i + 1)).toList == [116, 97, 107, 101]) = false := isW_no htake
  have qhidden : ((sgAt L (i + 1)).toList == [104, 105, 100, 100, 101, 110]) = false := isW_no hhidden
  have qvars : ((sgAt L (i + 1)).toList == [118, 97, 114, 115]) = false := isW_no hvars
  have qdo : ((sgAt L (i + 1)).toList == [100, 111]) = false := isW_no hdo
  have qif : ((sgAt L (i + 1)).toList == [105, 102]) = false := isW_no hif
  have qwhile : ((sgAt L (i + 1)).toList == [119, 104, 105, 108, 101]) = false := isW_no hwhile
  have qfor : ((sgAt L (i + 1)).toList == [102, 111, 114]) = false := isW_no hfor
  have qsay : ((sgAt L (i + 1)).toList == [115, 97, 121]) = false := isW_no hsay
  have qback : ((sgAt L (i + 1)).toList == [98, 97, 99, 107]) = false := isW_no hback
  have qrun : ((sgAt L (i + 1)).toList == [114, 117, 110]) = false := isW_no hrun
  have qleave : ((sgAt L (i + 1)).toList == [108, 101, 97, 118, 101]) = false := isW_no hleave
  have qnext : ((sgAt L (i + 1)).toList == [110, 101, 120, 116]) = false := isW_no hnext
  have qput : ((sgAt L (i + 1)).toList == [112, 117, 116]) = false := isW_no hput
  have qtput : ((sgAt L (i + 1)).toList == [116, 112, 117, 116]) = false := isW_no htput
  have qhput : ((sgAt L (i + 1)).toList == [104, 112, 117, 116]) = false := isW_no hhput
  clear ho hlet hset htake hhidden hvars hdo hif hwhile hfor hsay hback hrun hleave hnext hput htput hhput
  go_enter Tryz.func29, Tryz.ntmps29
  go_wp2_with fail
  refine (l4Sign_any a cap L i _ hA hL ⟨by omega, by omega⟩).mono ?_
  rintro e wa ⟨rfl, hba⟩
  rw [HO.out]
  have hAa := hA.call hba
  go_wp2_with fail
  refine (l4Sign_any a cap L (i + 1) _ hAa hL ⟨by omega, by omega⟩).mono ?_
  rintro e w0 ⟨rfl, hbb⟩
  have hB0 := bstep hba hbb
  generalize sgAt L (i + 1) = t at qlet qset qtake qhidden qvars qdo qif qwhile qfor qsay qback qrun qleave qnext qput qtput qhput
  go_wp2
  go_ret
  exact ⟨rfl, hB0⟩

theorem deed_all (f : Bool) (IH : Forms a cap L n) (hA : ArgT w a L) (hL : L.length ≤ 1048576) (hi : I64 i) (hn : 8 * farN L i + 1 ≤ n + 1) :
    Calls Tryz.prog 29 #[.slice a L.length cap, .int .i64 i, .bool f] w fun e w' => e = .returned (.int .i64 (frm L (n + 1) (if f then 1 else 2) i)) ∧ Below w.heap.size w w' := by
  cases ho : isW (sgAt L i) [40]
  · exact deed_no f hA hL hi ho
  by_cases hlet : sgAt L (i + 1) = ⟨#[108, 101, 116]⟩
  · cases f
    · exact deed_let_bar hA hL ho hlet
    · exact deed_let IH hA hL hn ho hlet
  by_cases hset : sgAt L (i + 1) = ⟨#[115, 101, 116]⟩
  · exact deed_set f IH hA hL hn ho hset
  by_cases htake : sgAt L (i + 1) = ⟨#[116, 97, 107, 101]⟩
  · cases f
    · exact deed_take_bar hA hL ho htake
    · exact deed_take IH hA hL hn ho htake
  by_cases hhidden : sgAt L (i + 1) = ⟨#[104, 105, 100, 100, 101, 110]⟩
  · cases f
    · exact deed_hidden_bar hA hL ho hhidden
    · exact deed_hidden IH hA hL hn ho hhidden
  by_cases hvars : sgAt L (i + 1) = ⟨#[118, 97, 114, 115]⟩
  · cases f
    · exact deed_vars_bar hA hL ho hvars
    · exact deed_vars IH hA hL hn ho hvars
  by_cases hdo : sgAt L (i + 1) = ⟨#[100, 111]⟩
  · exact deed_do f IH hA hL hn ho hdo
  by_cases hif : sgAt L (i + 1) = ⟨#[105, 102]⟩
  · exact deed_if f IH hA hL hn ho hif
  by_cases hwhile : sgAt L (i + 1) = ⟨#[119, 104, 105, 108, 101]⟩
  · exact deed_while f IH hA hL hn ho hwhile
  by_cases hfor : sgAt L (i + 1) = ⟨#[102, 111, 114]⟩
  · exact deed_for f IH hA hL hn ho hfor
  by_cases hsay : sgAt L (i + 1) = ⟨#[115, 97, 121]⟩
  · exact deed_say f IH hA hL hn ho hsay
  by_cases hback : sgAt L (i + 1) = ⟨#[98, 97, 99, 107]⟩
  · exact deed_back f IH hA hL hn ho hback
  by_cases hrun : sgAt L (i + 1) = ⟨#[114, 117, 110]⟩
  · exact deed_run f IH hA hL hn ho hrun
  by_cases hleave : sgAt L (i + 1) = ⟨#[108, 101, 97, 118, 101]⟩
  · exact deed_leave f IH hA hL hn ho hleave
  by_cases hnext : sgAt L (i + 1) = ⟨#[110, 101, 120, 116]⟩
  · exact deed_next f IH hA hL hn ho hnext
  by_cases hput : sgAt L (i + 1) = ⟨#[112, 117, 116]⟩
  · exact deed_put f IH hA hL hn ho hput
  by_cases htput : sgAt L (i + 1) = ⟨#[116, 112, 117, 116]⟩
  · exact deed_tput f IH hA hL hn ho htput
  by_cases hhput : sgAt L (i + 1) = ⟨#[104, 112, 117, 116]⟩
  · exact deed_hput f IH hA hL hn ho hhput
  exact deed_not f hA hL ho hlet hset htake hhidden hvars hdo hif hwhile hfor hsay hback hrun hleave hnext hput htput hhput
end

end Go.Proofs.YtlmibonebiaocaaGreatDoor
