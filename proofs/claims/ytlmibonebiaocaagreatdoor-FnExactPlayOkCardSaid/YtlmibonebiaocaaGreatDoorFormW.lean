/-
  Chapter 4, the model's small functions: the words, a NAME, the sign at a place, the place behind a sign or a NAME.
-/
import Derived.Test.YtlmibonebiaocaaGreatDoorFormL
namespace Go.Proofs.YtlmibonebiaocaaGreatDoor
open Go.RowKit

set_option maxHeartbeats 4000000 in
set_option maxRecDepth 100000 in
theorem l4Words_any (w : World) :
    Calls Tryz.prog 67 #[] w fun e w' => e = .returned (.slice (some ⟨w.heap.size, 0, none⟩) 26 26) ∧ Txt w.heap.size 0 wordsL w' ∧ Below w.heap.size w w' := by
  go_enter Tryz.func67, Tryz.ntmps67
  go_wp2
  go_ret
  refine ⟨rfl, fun i hi => ?_, by go_grown⟩
  have h26 : i < 26 := hi
  match i, h26 with
  | 0, _ | 1, _ | 2, _ | 3, _ | 4, _ | 5, _ | 6, _ | 7, _ | 8, _ | 9, _ | 10, _ | 11, _ | 12, _ | 13, _ | 14, _ | 15, _ | 16, _ | 17, _ | 18, _ | 19, _ | 20, _ | 21, _ | 22, _ | 23, _ | 24, _ | 25, _ => simp [wordsL, go_sem]
  | n + 26, h => exact absurd h (by omega)

set_option maxHeartbeats 1000000 in
theorem reservedS_any (s : ByteArray) (w : World) :
    Calls Tryz.prog 38 #[.string s] w fun e w' => e = .returned (.bool (resB s)) ∧ Below w.heap.size w w' := by
  go_enter Tryz.func38, Tryz.ntmps38
  go_wp2_with fail
  refine (l4Words_any _).mono ?_
  rintro e w1 ⟨rfl, hT, hb⟩
  go_wp2_with fail
  refine (l1At_any _ 0 26 wordsL s _ hT (by decide)).mono ?_
  rintro e w2 ⟨x, rfl, hx, rfl⟩
  have HX : Hid (decide (0 ≤ x) = resB s) := by
    show decide (0 ≤ x) = resB s
    rw [Bool.eq_iff_iff, decide_eq_true_iff, resB_iff]
    exact hx
  clear hx
  go_wp2
  go_ret
  exact ⟨by rw [← HX.out]; rfl, hb⟩

set_option maxHeartbeats 1000000 in
theorem l4Name_any (s : ByteArray) (w : World) (hs : s.size ≤ maxLen) :
    Calls Tryz.prog 20 #[.string s] w fun e w' => e = .returned (.bool (nmB s)) ∧ Below w.heap.size w w' := by
  cases hn : nameB s
  · have HN : Hid (nameB s = false) := hn
    have HB : Hid (nmB s = false) := (by unfold nmB; rw [hn]; rfl : nmB s = false)
    clear hn
    go_enter Tryz.func20, Tryz.ntmps20
    go_wp2_with fail
    refine (nameOkS_any s _ hs).mono ?_
    rintro e w1 ⟨rfl, rfl⟩
    rw [HN.out]
    go_wp2
    go_ret
    exact ⟨by rw [HB.out]; rfl, Below.refl _ _⟩
  · have HN : Hid (nameB s = true) := hn
    have HB : Hid (nmB s = !resB s) := (by unfold nmB; rw [hn]; rfl : nmB s = !resB s)
    clear hn
    go_enter Tryz.func20, Tryz.ntmps20
    go_wp2_with fail
    refine (nameOkS_any s _ hs).mono ?_
    rintro e w1 ⟨rfl, rfl⟩
    rw [HN.out]
    go_wp2_with fail
    refine (reservedS_any s _).mono ?_
    rintro e w2 ⟨rfl, hb⟩
    generalize resB s = q at HB ⊢
    go_wp2
    go_ret
    exact ⟨by rw [HB.out]; rfl, hb⟩

/-- A place that fits. -/
def I64 (i : Int) : Prop := -9223372036854775808 ≤ i ∧ i ≤ 9223372036854775807

theorem sgAt_size {w : World} {a : Option Addr} {L : List ByteArray} (h : ArgT w a L) (i : Int) : (sgAt L i).size ≤ maxLen := by
  by_cases hin : 0 ≤ i ∧ i < (L.length : Int)
  · rw [sgAt_in hin.1 hin.2]
    obtain ⟨_, _, _, _, _, hm⟩ := h i.toNat (by omega)
    exact hm
  · rw [sgAt_out hin]
    exact Nat.zero_le _

set_option maxHeartbeats 1000000 in
theorem l4Sign_any (a : Option Addr) (cap : Nat) (L : List ByteArray) (i : Int) (w : World) (h : ArgT w a L) (_hL : L.length ≤ 1048576) (hi : I64 i) :
    Calls Tryz.prog 18 #[.slice a L.length cap, .int .i64 i] w fun e w' => e = .returned (.string (sgAt L i)) ∧ Below w.heap.size w w' := by
  obtain ⟨hi0, hi1⟩ := hi
  by_cases h0 : i < 0
  · have HS : Hid (sgAt L i = ⟨#[]⟩) := sgAt_out (by omega)
    go_enter Tryz.func18, Tryz.ntmps18
    go_wp2
    go_ret
    exact ⟨by rw [HS.out]; rfl, Below.refl _ _⟩
  by_cases h1 : (L.length : Int) ≤ i
  · have HS : Hid (sgAt L i = ⟨#[]⟩) := sgAt_out (by omega)
    go_enter Tryz.func18, Tryz.ntmps18
    go_wp2
    go_ret
    exact ⟨by rw [HS.out]; rfl, Below.refl _ _⟩
  obtain ⟨k, rfl⟩ : ∃ k : Nat, i = (k : Int) := ⟨i.toNat, by omega⟩
  have hk : k < L.length := by omega
  have HS : Hid (sgAt L (k : Int) = L[k]) := (by rw [sgAt_in (by omega) (by omega)]; rfl : sgAt L (k : Int) = L[k])
  obtain ⟨sb, off, rfl, hs, hc, hm⟩ := h k hk
  generalize L[k] = t at hc HS
  go_enter Tryz.func18, Tryz.ntmps18
  go_wp2
  go_ret
  exact ⟨by rw [HS.out]; rfl, Below.refl _ _⟩

set_option maxHeartbeats 1000000 in
theorem l4Is_any (a : Option Addr) (cap : Nat) (L : List ByteArray) (i : Int) (c : List UInt8) (w : World) (h : ArgT w a L) (hL : L.length ≤ 1048576) (hi : I64 i) (hc : c ≠ []) :
    Calls Tryz.prog 23 #[.slice a L.length cap, .int .i64 i, .string ⟨c.toArray⟩] w fun e w' => e = .returned (.int .i64 (isE L i c)) ∧ Below w.heap.size w w' := by
  have hcl : (⟨c.toArray⟩ : ByteArray).toList = c := by rw [ByteArray.toList_eq]
  cases hw : isW (sgAt L i) c
  · have HE : Hid (isE L i c = -1) := (by unfold isE; rw [hw]; rfl : isE L i c = -1)
    have hb : ((sgAt L i).toList == (⟨c.toArray⟩ : ByteArray).toList) = false := by rw [hcl]; exact hw
    clear hw hcl
    go_enter Tryz.func23, Tryz.ntmps23
    go_wp2_with fail
    refine (l4Sign_any a cap L i _ h hL hi).mono ?_
    rintro e w1 ⟨rfl, hb1⟩
    generalize sgAt L i = t at hb
    generalize (⟨c.toArray⟩ : ByteArray) = u at hb
    go_wp2
    go_ret
    exact ⟨by rw [HE.out]; rfl, hb1⟩
  · have hin : 0 ≤ i ∧ i < (L.length : Int) := by
      by_cases hin : 0 ≤ i ∧ i < (L.length : Int)
      · exact hin
      · rw [sgAt_out hin, isW_nil c hc] at hw
        exact absurd hw (by decide)
    obtain ⟨hin0, hin1⟩ := hin
    have HE : Hid (isE L i c = i + 1) := (by unfold isE; rw [hw]; rfl : isE L i c = i + 1)
    have HW : Hid (sgAt L i = ⟨c.toArray⟩) := isW_eq hw
    clear hw hcl
    go_enter Tryz.func23, Tryz.ntmps23
    go_wp2_with fail
    refine (l4Sign_any a cap L i _ h hL hi).mono ?_
    rintro e w1 ⟨rfl, hb1⟩
    rw [HW.out]
    generalize (⟨c.toArray⟩ : ByteArray) = u
    go_wp2
    go_ret
    exact ⟨by rw [HE.out]; rfl, hb1⟩

set_option maxHeartbeats 1000000 in
theorem l4NameEnd_any (a : Option Addr) (cap : Nat) (L : List ByteArray) (i : Int) (w : World) (h : ArgT w a L) (hL : L.length ≤ 1048576) (hi : I64 i) :
    Calls Tryz.prog 26 #[.slice a L.length cap, .int .i64 i] w fun e w' => e = .returned (.int .i64 (nmE L i)) ∧ Below w.heap.size w w' := by
  cases hw : nmB (sgAt L i)
  · have HE : Hid (nmE L i = -1) := (by unfold nmE; rw [hw]; rfl : nmE L i = -1)
    have HW : Hid (nmB (sgAt L i) = false) := hw
    clear hw
    go_enter Tryz.func26, Tryz.ntmps26
    go_wp2_with fail
    refine (l4Sign_any a cap L i _ h hL hi).mono ?_
    rintro e w1 ⟨rfl, hb1⟩
    go_wp2_with fail
    refine (l4Name_any (sgAt L i) _ (sgAt_size h i)).mono ?_
    rintro e w2 ⟨rfl, hb2⟩
    rw [HW.out]
    go_wp2
    go_ret
    exact ⟨by rw [HE.out]; rfl, bstep hb1 hb2⟩
  · have hin := nmE_ends (L := L) (i := 0) (x := i)
    have hin2 : 0 ≤ i ∧ i < (L.length : Int) := by
      by_cases hin : 0 ≤ i ∧ i < (L.length : Int)
      · exact hin
      · rw [sgAt_out hin] at hw
        unfold nmB at hw
        rw [nameB_nil] at hw
        exact absurd hw (by decide)
    obtain ⟨hin0, hin1⟩ := hin2
    clear hin
    have HE : Hid (nmE L i = i + 1) := (by unfold nmE; rw [hw]; rfl : nmE L i = i + 1)
    have HW : Hid (nmB (sgAt L i) = true) := hw
    clear hw
    go_enter Tryz.func26, Tryz.ntmps26
    go_wp2_with fail
    refine (l4Sign_any a cap L i _ h hL hi).mono ?_
    rintro e w1 ⟨rfl, hb1⟩
    go_wp2_with fail
    refine (l4Name_any (sgAt L i) _ (sgAt_size h i)).mono ?_
    rintro e w2 ⟨rfl, hb2⟩
    rw [HW.out]
    go_wp2
    go_ret
    exact ⟨by rw [HE.out]; rfl, bstep hb1 hb2⟩

end Go.Proofs.YtlmibonebiaocaaGreatDoor
