/-
  Chapter 4: what each function of the program's table tells of a place.
-/
import Derived.Test.YtlmibonebiaocaaGreatDoorTabL
namespace Go.Proofs.YtlmibonebiaocaaGreatDoor
open Go.RowKit

/-- What is asked for behind n parts, and whether it may be closed there. -/
def atN (t : List Nat × Option Nat) (n : Nat) : List Nat × Option Nat := (t.1.drop n, t.2)
/-- This function tells of these parts. -/
def LayC (f : Nat) (cap : Array Value) (t : List Nat × Option Nat) (W : World) : Prop := ∀ n : Nat, n ≤ 1048577 →
    Calls Tryz.prog f (#[.int .i64 (n : Int)] ++ cap) W fun e w' => e = .returned (.tuple #[.int .i64 (wantN (atN t n) : Int), .bool (mayB (atN t n))]) ∧ Below W.heap.size W w'

set_option maxHeartbeats 1000000 in
theorem lay_twoSums (W : World) : LayC 40 #[] ([1, 1], none) W := fun n hn => by
  show Calls Tryz.prog 40 #[.int .i64 (n : Int)] W _
  by_cases h0 : n = 0
  · subst h0
    go_enter Tryz.func40, Tryz.ntmps40
    go_wp2
    go_ret2
    exact ⟨rfl, by go_grown⟩
  by_cases h1 : n = 1
  · subst h1
    go_enter Tryz.func40, Tryz.ntmps40
    go_wp2
    go_ret2
    exact ⟨rfl, by go_grown⟩
  obtain ⟨m, rfl⟩ : ∃ m, n = m + 2 := ⟨n - 2, by omega⟩
  have HW : Hid (wantN (atN ([1, 1], none) (m + 2)) = 0 ∧ mayB (atN ([1, 1], none) (m + 2)) = true) := ⟨by simp [atN, wantN], by simp [atN, mayB]⟩
  rw [HW.out.1, HW.out.2]
  go_enter Tryz.func40, Tryz.ntmps40
  go_wp2
  go_ret2
  refine ⟨?_, by go_grown⟩
  first | rfl | (simp; omega)

set_option maxHeartbeats 1000000 in
theorem lay_threeSums (W : World) : LayC 53 #[] ([1, 1, 1], none) W := fun n hn => by
  show Calls Tryz.prog 53 #[.int .i64 (n : Int)] W _
  by_cases h0 : n = 0
  · subst h0
    go_enter Tryz.func53, Tryz.ntmps53
    go_wp2
    go_ret2
    exact ⟨rfl, by go_grown⟩
  by_cases h1 : n = 1
  · subst h1
    go_enter Tryz.func53, Tryz.ntmps53
    go_wp2
    go_ret2
    exact ⟨rfl, by go_grown⟩
  by_cases h2 : n = 2
  · subst h2
    go_enter Tryz.func53, Tryz.ntmps53
    go_wp2
    go_ret2
    exact ⟨rfl, by go_grown⟩
  obtain ⟨m, rfl⟩ : ∃ m, n = m + 3 := ⟨n - 3, by omega⟩
  have HW : Hid (wantN (atN ([1, 1, 1], none) (m + 3)) = 0 ∧ mayB (atN ([1, 1, 1], none) (m + 3)) = true) := ⟨by simp [atN, wantN], by simp [atN, mayB]⟩
  rw [HW.out.1, HW.out.2]
  go_enter Tryz.func53, Tryz.ntmps53
  go_wp2
  go_ret2
  refine ⟨?_, by go_grown⟩
  first | rfl | (simp; omega)

set_option maxHeartbeats 1000000 in
theorem lay_oneSum (W : World) : LayC 52 #[] ([1], none) W := fun n hn => by
  show Calls Tryz.prog 52 #[.int .i64 (n : Int)] W _
  by_cases h0 : n = 0
  · subst h0
    go_enter Tryz.func52, Tryz.ntmps52
    go_wp2
    go_ret2
    exact ⟨rfl, by go_grown⟩
  obtain ⟨m, rfl⟩ : ∃ m, n = m + 1 := ⟨n - 1, by omega⟩
  have HW : Hid (wantN (atN ([1], none) (m + 1)) = 0 ∧ mayB (atN ([1], none) (m + 1)) = true) := ⟨by simp [atN, wantN], by simp [atN, mayB]⟩
  rw [HW.out.1, HW.out.2]
  go_enter Tryz.func52, Tryz.ntmps52
  go_wp2
  go_ret2
  refine ⟨?_, by go_grown⟩
  first | rfl | (simp; omega)

set_option maxHeartbeats 1000000 in
theorem lay_nameSum (W : World) : LayC 45 #[] ([4, 1], none) W := fun n hn => by
  show Calls Tryz.prog 45 #[.int .i64 (n : Int)] W _
  by_cases h0 : n = 0
  · subst h0
    go_enter Tryz.func45, Tryz.ntmps45
    go_wp2
    go_ret2
    exact ⟨rfl, by go_grown⟩
  by_cases h1 : n = 1
  · subst h1
    go_enter Tryz.func45, Tryz.ntmps45
    go_wp2
    go_ret2
    exact ⟨rfl, by go_grown⟩
  obtain ⟨m, rfl⟩ : ∃ m, n = m + 2 := ⟨n - 2, by omega⟩
  have HW : Hid (wantN (atN ([4, 1], none) (m + 2)) = 0 ∧ mayB (atN ([4, 1], none) (m + 2)) = true) := ⟨by simp [atN, wantN], by simp [atN, mayB]⟩
  rw [HW.out.1, HW.out.2]
  go_enter Tryz.func45, Tryz.ntmps45
  go_wp2
  go_ret2
  refine ⟨?_, by go_grown⟩
  first | rfl | (simp; omega)

set_option maxHeartbeats 1000000 in
theorem lay_nameTwoSums (W : World) : LayC 54 #[] ([4, 1, 1], none) W := fun n hn => by
  show Calls Tryz.prog 54 #[.int .i64 (n : Int)] W _
  by_cases h0 : n = 0
  · subst h0
    go_enter Tryz.func54, Tryz.ntmps54
    go_wp2
    go_ret2
    exact ⟨rfl, by go_grown⟩
  by_cases h1 : n = 1
  · subst h1
    go_enter Tryz.func54, Tryz.ntmps54
    go_wp2
    go_ret2
    exact ⟨rfl, by go_grown⟩
  by_cases h2 : n = 2
  · subst h2
    go_enter Tryz.func54, Tryz.ntmps54
    go_wp2
    go_ret2
    exact ⟨rfl, by go_grown⟩
  obtain ⟨m, rfl⟩ : ∃ m, n = m + 3 := ⟨n - 3, by omega⟩
  have HW : Hid (wantN (atN ([4, 1, 1], none) (m + 3)) = 0 ∧ mayB (atN ([4, 1, 1], none) (m + 3)) = true) := ⟨by simp [atN, wantN], by simp [atN, mayB]⟩
  rw [HW.out.1, HW.out.2]
  go_enter Tryz.func54, Tryz.ntmps54
  go_wp2
  go_ret2
  refine ⟨?_, by go_grown⟩
  first | rfl | (simp; omega)

set_option maxHeartbeats 1000000 in
theorem lay_namesSum (W : World) : LayC 46 #[] ([5, 1], none) W := fun n hn => by
  show Calls Tryz.prog 46 #[.int .i64 (n : Int)] W _
  by_cases h0 : n = 0
  · subst h0
    go_enter Tryz.func46, Tryz.ntmps46
    go_wp2
    go_ret2
    exact ⟨rfl, by go_grown⟩
  by_cases h1 : n = 1
  · subst h1
    go_enter Tryz.func46, Tryz.ntmps46
    go_wp2
    go_ret2
    exact ⟨rfl, by go_grown⟩
  obtain ⟨m, rfl⟩ : ∃ m, n = m + 2 := ⟨n - 2, by omega⟩
  have HW : Hid (wantN (atN ([5, 1], none) (m + 2)) = 0 ∧ mayB (atN ([5, 1], none) (m + 2)) = true) := ⟨by simp [atN, wantN], by simp [atN, mayB]⟩
  rw [HW.out.1, HW.out.2]
  go_enter Tryz.func46, Tryz.ntmps46
  go_wp2
  go_ret2
  refine ⟨?_, by go_grown⟩
  first | rfl | (simp; omega)

set_option maxHeartbeats 1000000 in
theorem lay_sumDeed (W : World) : LayC 50 #[] ([1, 2], none) W := fun n hn => by
  show Calls Tryz.prog 50 #[.int .i64 (n : Int)] W _
  by_cases h0 : n = 0
  · subst h0
    go_enter Tryz.func50, Tryz.ntmps50
    go_wp2
    go_ret2
    exact ⟨rfl, by go_grown⟩
  by_cases h1 : n = 1
  · subst h1
    go_enter Tryz.func50, Tryz.ntmps50
    go_wp2
    go_ret2
    exact ⟨rfl, by go_grown⟩
  obtain ⟨m, rfl⟩ : ∃ m, n = m + 2 := ⟨n - 2, by omega⟩
  have HW : Hid (wantN (atN ([1, 2], none) (m + 2)) = 0 ∧ mayB (atN ([1, 2], none) (m + 2)) = true) := ⟨by simp [atN, wantN], by simp [atN, mayB]⟩
  rw [HW.out.1, HW.out.2]
  go_enter Tryz.func50, Tryz.ntmps50
  go_wp2
  go_ret2
  refine ⟨?_, by go_grown⟩
  first | rfl | (simp; omega)

set_option maxHeartbeats 1000000 in
theorem lay_sumTwoDeeds (W : World) : LayC 49 #[] ([1, 2, 2], none) W := fun n hn => by
  show Calls Tryz.prog 49 #[.int .i64 (n : Int)] W _
  by_cases h0 : n = 0
  · subst h0
    go_enter Tryz.func49, Tryz.ntmps49
    go_wp2
    go_ret2
    exact ⟨rfl, by go_grown⟩
  by_cases h1 : n = 1
  · subst h1
    go_enter Tryz.func49, Tryz.ntmps49
    go_wp2
    go_ret2
    exact ⟨rfl, by go_grown⟩
  by_cases h2 : n = 2
  · subst h2
    go_enter Tryz.func49, Tryz.ntmps49
    go_wp2
    go_ret2
    exact ⟨rfl, by go_grown⟩
  obtain ⟨m, rfl⟩ : ∃ m, n = m + 3 := ⟨n - 3, by omega⟩
  have HW : Hid (wantN (atN ([1, 2, 2], none) (m + 3)) = 0 ∧ mayB (atN ([1, 2, 2], none) (m + 3)) = true) := ⟨by simp [atN, wantN], by simp [atN, mayB]⟩
  rw [HW.out.1, HW.out.2]
  go_enter Tryz.func49, Tryz.ntmps49
  go_wp2
  go_ret2
  refine ⟨?_, by go_grown⟩
  first | rfl | (simp; omega)

set_option maxHeartbeats 1000000 in
theorem lay_nameTwoSumsDeed (W : World) : LayC 51 #[] ([4, 1, 1, 2], none) W := fun n hn => by
  show Calls Tryz.prog 51 #[.int .i64 (n : Int)] W _
  by_cases h0 : n = 0
  · subst h0
    go_enter Tryz.func51, Tryz.ntmps51
    go_wp2
    go_ret2
    exact ⟨rfl, by go_grown⟩
  by_cases h1 : n = 1
  · subst h1
    go_enter Tryz.func51, Tryz.ntmps51
    go_wp2
    go_ret2
    exact ⟨rfl, by go_grown⟩
  by_cases h2 : n = 2
  · subst h2
    go_enter Tryz.func51, Tryz.ntmps51
    go_wp2
    go_ret2
    exact ⟨rfl, by go_grown⟩
  by_cases h3 : n = 3
  · subst h3
    go_enter Tryz.func51, Tryz.ntmps51
    go_wp2
    go_ret2
    exact ⟨rfl, by go_grown⟩
  obtain ⟨m, rfl⟩ : ∃ m, n = m + 4 := ⟨n - 4, by omega⟩
  have HW : Hid (wantN (atN ([4, 1, 1, 2], none) (m + 4)) = 0 ∧ mayB (atN ([4, 1, 1, 2], none) (m + 4)) = true) := ⟨by simp [atN, wantN], by simp [atN, mayB]⟩
  rw [HW.out.1, HW.out.2]
  go_enter Tryz.func51, Tryz.ntmps51
  go_wp2
  go_ret2
  refine ⟨?_, by go_grown⟩
  first | rfl | (simp; omega)

set_option maxHeartbeats 1000000 in
theorem lay_noParts (W : World) : LayC 44 #[] ([], none) W := fun n hn => by
  show Calls Tryz.prog 44 #[.int .i64 (n : Int)] W _
  have HW : Hid (wantN (atN ([], none) n) = 0 ∧ mayB (atN ([], none) n) = true) := ⟨by simp [atN, wantN], by simp [atN, mayB]⟩
  rw [HW.out.1, HW.out.2]
  go_enter Tryz.func44, Tryz.ntmps44
  go_wp2
  go_ret2
  refine ⟨?_, by go_grown⟩
  first | rfl | (simp; omega)

set_option maxHeartbeats 1000000 in
theorem lay_anySums (W : World) : LayC 43 #[] ([], some 1) W := fun n hn => by
  show Calls Tryz.prog 43 #[.int .i64 (n : Int)] W _
  have HW : Hid (wantN (atN ([], some 1) n) = 1 ∧ mayB (atN ([], some 1) n) = true) := ⟨by simp [atN, wantN], by simp [atN, mayB]⟩
  rw [HW.out.1, HW.out.2]
  go_enter Tryz.func43, Tryz.ntmps43
  go_wp2
  go_ret2
  refine ⟨?_, by go_grown⟩
  first | rfl | (simp; omega)

set_option maxHeartbeats 1000000 in
theorem lay_someSums (W : World) : LayC 42 #[] ([1], some 1) W := fun n hn => by
  show Calls Tryz.prog 42 #[.int .i64 (n : Int)] W _
  by_cases h0 : n = 0
  · subst h0
    go_enter Tryz.func42, Tryz.ntmps42
    go_wp2
    go_ret2
    exact ⟨rfl, by go_grown⟩
  obtain ⟨m, rfl⟩ : ∃ m, n = m + 1 := ⟨n - 1, by omega⟩
  have HW : Hid (wantN (atN ([1], some 1) (m + 1)) = 1 ∧ mayB (atN ([1], some 1) (m + 1)) = true) := ⟨by simp [atN, wantN], by simp [atN, mayB]⟩
  rw [HW.out.1, HW.out.2]
  go_enter Tryz.func42, Tryz.ntmps42
  go_wp2
  go_ret2
  refine ⟨?_, by go_grown⟩
  first | rfl | (simp; omega)

set_option maxHeartbeats 1000000 in
theorem lay_anyNames (W : World) : LayC 47 #[] ([], some 4) W := fun n hn => by
  show Calls Tryz.prog 47 #[.int .i64 (n : Int)] W _
  have HW : Hid (wantN (atN ([], some 4) n) = 4 ∧ mayB (atN ([], some 4) n) = true) := ⟨by simp [atN, wantN], by simp [atN, mayB]⟩
  rw [HW.out.1, HW.out.2]
  go_enter Tryz.func47, Tryz.ntmps47
  go_wp2
  go_ret2
  refine ⟨?_, by go_grown⟩
  first | rfl | (simp; omega)

set_option maxHeartbeats 1000000 in
theorem lay_someNames (W : World) : LayC 55 #[] ([4], some 4) W := fun n hn => by
  show Calls Tryz.prog 55 #[.int .i64 (n : Int)] W _
  by_cases h0 : n = 0
  · subst h0
    go_enter Tryz.func55, Tryz.ntmps55
    go_wp2
    go_ret2
    exact ⟨rfl, by go_grown⟩
  obtain ⟨m, rfl⟩ : ∃ m, n = m + 1 := ⟨n - 1, by omega⟩
  have HW : Hid (wantN (atN ([4], some 4) (m + 1)) = 4 ∧ mayB (atN ([4], some 4) (m + 1)) = true) := ⟨by simp [atN, wantN], by simp [atN, mayB]⟩
  rw [HW.out.1, HW.out.2]
  go_enter Tryz.func55, Tryz.ntmps55
  go_wp2
  go_ret2
  refine ⟨?_, by go_grown⟩
  first | rfl | (simp; omega)

set_option maxHeartbeats 1000000 in
theorem lay_anyParams (W : World) : LayC 56 #[] ([], some 6) W := fun n hn => by
  show Calls Tryz.prog 56 #[.int .i64 (n : Int)] W _
  have HW : Hid (wantN (atN ([], some 6) n) = 6 ∧ mayB (atN ([], some 6) n) = true) := ⟨by simp [atN, wantN], by simp [atN, mayB]⟩
  rw [HW.out.1, HW.out.2]
  go_enter Tryz.func56, Tryz.ntmps56
  go_wp2
  go_ret2
  refine ⟨?_, by go_grown⟩
  first | rfl | (simp; omega)

set_option maxHeartbeats 1000000 in
theorem lay_anyDeeds (W : World) : LayC 48 #[] ([], some 3) W := fun n hn => by
  show Calls Tryz.prog 48 #[.int .i64 (n : Int)] W _
  have HW : Hid (wantN (atN ([], some 3) n) = 3 ∧ mayB (atN ([], some 3) n) = true) := ⟨by simp [atN, wantN], by simp [atN, mayB]⟩
  rw [HW.out.1, HW.out.2]
  go_enter Tryz.func48, Tryz.ntmps48
  go_wp2
  go_ret2
  refine ⟨?_, by go_grown⟩
  first | rfl | (simp; omega)

set_option maxHeartbeats 1000000 in
theorem lay_paramsThenDeeds (W : World) : LayC 41 #[] ([7], some 3) W := fun n hn => by
  show Calls Tryz.prog 41 #[.int .i64 (n : Int)] W _
  by_cases h0 : n = 0
  · subst h0
    go_enter Tryz.func41, Tryz.ntmps41
    go_wp2
    go_ret2
    exact ⟨rfl, by go_grown⟩
  obtain ⟨m, rfl⟩ : ∃ m, n = m + 1 := ⟨n - 1, by omega⟩
  have HW : Hid (wantN (atN ([7], some 3) (m + 1)) = 3 ∧ mayB (atN ([7], some 3) (m + 1)) = true) := ⟨by simp [atN, wantN], by simp [atN, mayB]⟩
  rw [HW.out.1, HW.out.2]
  go_enter Tryz.func41, Tryz.ntmps41
  go_wp2
  go_ret2
  refine ⟨?_, by go_grown⟩
  first | rfl | (simp; omega)

end Go.Proofs.YtlmibonebiaocaaGreatDoor
