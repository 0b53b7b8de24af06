/-
  Chapter 4: what each function of the program's table tells of a place.
-/
import Derived.Test.YtlmibonebiaocaaDoorTabL
namespace Go.Proofs.YtlmibonebiaocaaDoor
open Go.RowKit

/-- What is asked for behind n parts, and whether it may be closed there. -/
def atN (t : List Nat × Option Nat) (n : Nat) : List Nat × Option Nat := (t.1.drop n, t.2)
/-- This function tells of these parts. -/
def LayC (f : Nat) (cap : Array Value) (t : List Nat × Option Nat) (W : World) : Prop := ∀ n : Nat, n ≤ 1048577 →
    Calls Tryd.prog f (#[.int .i64 (n : Int)] ++ cap) W fun e w' => e = .returned (.tuple #[.int .i64 (wantN (atN t n) : Int), .bool (mayB (atN t n))]) ∧ Below W.heap.size W w'

set_option maxHeartbeats 1000000 in
theorem lay_twoSums (W : World) : LayC 23 #[] ([1, 1], none) W := fun n hn => by
  show Calls Tryd.prog 23 #[.int .i64 (n : Int)] W _
  by_cases h0 : n = 0
  · subst h0
    go_enter Tryd.func23, Tryd.ntmps23
    go_wp2
    go_ret2
    exact ⟨rfl, by go_grown⟩
  by_cases h1 : n = 1
  · subst h1
    go_enter Tryd.func23, Tryd.ntmps23
    go_wp2
    go_ret2
    exact ⟨rfl, by go_grown⟩
  obtain ⟨m, rfl⟩ : ∃ m, n = m + 2 := ⟨n - 2, by omega⟩
  have HW : Hid (wantN (atN ([1, 1], none) (m + 2)) = 0 ∧ mayB (atN ([1, 1], none) (m + 2)) = true) := ⟨by simp [atN, wantN], by simp [atN, mayB]⟩
  rw [HW.out.1, HW.out.2]
  go_enter Tryd.func23, Tryd.ntmps23
  go_wp2
  go_ret2
  refine ⟨?_, by go_grown⟩
  first | rfl | (simp; omega)

set_option maxHeartbeats 1000000 in
theorem lay_threeSums (W : World) : LayC 36 #[] ([1, 1, 1], none) W := fun n hn => by
  show Calls Tryd.prog 36 #[.int .i64 (n : Int)] W _
  by_cases h0 : n = 0
  · subst h0
    go_enter Tryd.func36, Tryd.ntmps36
    go_wp2
    go_ret2
    exact ⟨rfl, by go_grown⟩
  by_cases h1 : n = 1
  · subst h1
    go_enter Tryd.func36, Tryd.ntmps36
    go_wp2
    go_ret2
    exact ⟨rfl, by go_grown⟩
  by_cases h2 : n = 2
  · subst h2
    go_enter Tryd.func36, Tryd.ntmps36
    go_wp2
    go_ret2
    exact ⟨rfl, by go_grown⟩
  obtain ⟨m, rfl⟩ : ∃ m, n = m + 3 := ⟨n - 3, by omega⟩
  have HW : Hid (wantN (atN ([1, 1, 1], none) (m + 3)) = 0 ∧ mayB (atN ([1, 1, 1], none) (m + 3)) = true) := ⟨by simp [atN, wantN], by simp [atN, mayB]⟩
  rw [HW.out.1, HW.out.2]
  go_enter Tryd.func36, Tryd.ntmps36
  go_wp2
  go_ret2
  refine ⟨?_, by go_grown⟩
  first | rfl | (simp; omega)

set_option maxHeartbeats 1000000 in
theorem lay_oneSum (W : World) : LayC 35 #[] ([1], none) W := fun n hn => by
  show Calls Tryd.prog 35 #[.int .i64 (n : Int)] W _
  by_cases h0 : n = 0
  · subst h0
    go_enter Tryd.func35, Tryd.ntmps35
    go_wp2
    go_ret2
    exact ⟨rfl, by go_grown⟩
  obtain ⟨m, rfl⟩ : ∃ m, n = m + 1 := ⟨n - 1, by omega⟩
  have HW : Hid (wantN (atN ([1], none) (m + 1)) = 0 ∧ mayB (atN ([1], none) (m + 1)) = true) := ⟨by simp [atN, wantN], by simp [atN, mayB]⟩
  rw [HW.out.1, HW.out.2]
  go_enter Tryd.func35, Tryd.ntmps35
  go_wp2
  go_ret2
  refine ⟨?_, by go_grown⟩
  first | rfl | (simp; omega)

set_option maxHeartbeats 1000000 in
theorem lay_nameSum (W : World) : LayC 28 #[] ([4, 1], none) W := fun n hn => by
  show Calls Tryd.prog 28 #[.int .i64 (n : Int)] W _
  by_cases h0 : n = 0
  · subst h0
    go_enter Tryd.func28, Tryd.ntmps28
    go_wp2
    go_ret2
    exact ⟨rfl, by go_grown⟩
  by_cases h1 : n = 1
  · subst h1
    go_enter Tryd.func28, Tryd.ntmps28
    go_wp2
    go_ret2
    exact ⟨rfl, by go_grown⟩
  obtain ⟨m, rfl⟩ : ∃ m, n = m + 2 := ⟨n - 2, by omega⟩
  have HW : Hid (wantN (atN ([4, 1], none) (m + 2)) = 0 ∧ mayB (atN ([4, 1], none) (m + 2)) = true) := ⟨by simp [atN, wantN], by simp [atN, mayB]⟩
  rw [HW.out.1, HW.out.2]
  go_enter Tryd.func28, Tryd.ntmps28
  go_wp2
  go_ret2
  refine ⟨?_, by go_grown⟩
  first | rfl | (simp; omega)

set_option maxHeartbeats 1000000 in
theorem lay_nameTwoSums (W : World) : LayC 37 #[] ([4, 1, 1], none) W := fun n hn => by
  show Calls Tryd.prog 37 #[.int .i64 (n : Int)] W _
  by_cases h0 : n = 0
  · subst h0
    go_enter Tryd.func37, Tryd.ntmps37
    go_wp2
    go_ret2
    exact ⟨rfl, by go_grown⟩
  by_cases h1 : n = 1
  · subst h1
    go_enter Tryd.func37, Tryd.ntmps37
    go_wp2
    go_ret2
    exact ⟨rfl, by go_grown⟩
  by_cases h2 : n = 2
  · subst h2
    go_enter Tryd.func37, Tryd.ntmps37
    go_wp2
    go_ret2
    exact ⟨rfl, by go_grown⟩
  obtain ⟨m, rfl⟩ : ∃ m, n = m + 3 := ⟨n - 3, by omega⟩
  have HW : Hid (wantN (atN ([4, 1, 1], none) (m + 3)) = 0 ∧ mayB (atN ([4, 1, 1], none) (m + 3)) = true) := ⟨by simp [atN, wantN], by simp [atN, mayB]⟩
  rw [HW.out.1, HW.out.2]
  go_enter Tryd.func37, Tryd.ntmps37
  go_wp2
  go_ret2
  refine ⟨?_, by go_grown⟩
  first | rfl | (simp; omega)

set_option maxHeartbeats 1000000 in
theorem lay_namesSum (W : World) : LayC 29 #[] ([5, 1], none) W := fun n hn => by
  show Calls Tryd.prog 29 #[.int .i64 (n : Int)] W _
  by_cases h0 : n = 0
  · subst h0
    go_enter Tryd.func29, Tryd.ntmps29
    go_wp2
    go_ret2
    exact ⟨rfl, by go_grown⟩
  by_cases h1 : n = 1
  · subst h1
    go_enter Tryd.func29, Tryd.ntmps29
    go_wp2
    go_ret2
    exact ⟨rfl, by go_grown⟩
  obtain ⟨m, rfl⟩ : ∃ m, n = m + 2 := ⟨n - 2, by omega⟩
  have HW : Hid (wantN (atN ([5, 1], none) (m + 2)) = 0 ∧ mayB (atN ([5, 1], none) (m + 2)) = true) := ⟨by simp [atN, wantN], by simp [atN, mayB]⟩
  rw [HW.out.1, HW.out.2]
  go_enter Tryd.func29, Tryd.ntmps29
  go_wp2
  go_ret2
  refine ⟨?_, by go_grown⟩
  first | rfl | (simp; omega)

set_option maxHeartbeats 1000000 in
theorem lay_sumDeed (W : World) : LayC 33 #[] ([1, 2], none) W := fun n hn => by
  show Calls Tryd.prog 33 #[.int .i64 (n : Int)] W _
  by_cases h0 : n = 0
  · subst h0
    go_enter Tryd.func33, Tryd.ntmps33
    go_wp2
    go_ret2
    exact ⟨rfl, by go_grown⟩
  by_cases h1 : n = 1
  · subst h1
    go_enter Tryd.func33, Tryd.ntmps33
    go_wp2
    go_ret2
    exact ⟨rfl, by go_grown⟩
  obtain ⟨m, rfl⟩ : ∃ m, n = m + 2 := ⟨n - 2, by omega⟩
  have HW : Hid (wantN (atN ([1, 2], none) (m + 2)) = 0 ∧ mayB (atN ([1, 2], none) (m + 2)) = true) := ⟨by simp [atN, wantN], by simp [atN, mayB]⟩
  rw [HW.out.1, HW.out.2]
  go_enter Tryd.func33, Tryd.ntmps33
  go_wp2
  go_ret2
  refine ⟨?_, by go_grown⟩
  first | rfl | (simp; omega)

set_option maxHeartbeats 1000000 in
theorem lay_sumTwoDeeds (W : World) : LayC 32 #[] ([1, 2, 2], none) W := fun n hn => by
  show Calls Tryd.prog 32 #[.int .i64 (n : Int)] W _
  by_cases h0 : n = 0
  · subst h0
    go_enter Tryd.func32, Tryd.ntmps32
    go_wp2
    go_ret2
    exact ⟨rfl, by go_grown⟩
  by_cases h1 : n = 1
  · subst h1
    go_enter Tryd.func32, Tryd.ntmps32
    go_wp2
    go_ret2
    exact ⟨rfl, by go_grown⟩
  by_cases h2 : n = 2
  · subst h2
    go_enter Tryd.func32, Tryd.ntmps32
    go_wp2
    go_ret2
    exact ⟨rfl, by go_grown⟩
  obtain ⟨m, rfl⟩ : ∃ m, n = m + 3 := ⟨n - 3, by omega⟩
  have HW : Hid (wantN (atN ([1, 2, 2], none) (m + 3)) = 0 ∧ mayB (atN ([1, 2, 2], none) (m + 3)) = true) := ⟨by simp [atN, wantN], by simp [atN, mayB]⟩
  rw [HW.out.1, HW.out.2]
  go_enter Tryd.func32, Tryd.ntmps32
  go_wp2
  go_ret2
  refine ⟨?_, by go_grown⟩
  first | rfl | (simp; omega)

set_option maxHeartbeats 1000000 in
theorem lay_nameTwoSumsDeed (W : World) : LayC 34 #[] ([4, 1, 1, 2], none) W := fun n hn => by
  show Calls Tryd.prog 34 #[.int .i64 (n : Int)] W _
  by_cases h0 : n = 0
  · subst h0
    go_enter Tryd.func34, Tryd.ntmps34
    go_wp2
    go_ret2
    exact ⟨rfl, by go_grown⟩
  by_cases h1 : n = 1
  · subst h1
    go_enter Tryd.func34, Tryd.ntmps34
    go_wp2
    go_ret2
    exact ⟨rfl, by go_grown⟩
  by_cases h2 : n = 2
  · subst h2
    go_enter Tryd.func34, Tryd.ntmps34
    go_wp2
    go_ret2
    exact ⟨rfl, by go_grown⟩
  by_cases h3 : n = 3
  · subst h3
    go_enter Tryd.func34, Tryd.ntmps34
    go_wp2
    go_ret2
    exact ⟨rfl, by go_grown⟩
  obtain ⟨m, rfl⟩ : ∃ m, n = m + 4 := ⟨n - 4, by omega⟩
  have HW : Hid (wantN (atN ([4, 1, 1, 2], none) (m + 4)) = 0 ∧ mayB (atN ([4, 1, 1, 2], none) (m + 4)) = true) := ⟨by simp [atN, wantN], by simp [atN, mayB]⟩
  rw [HW.out.1, HW.out.2]
  go_enter Tryd.func34, Tryd.ntmps34
  go_wp2
  go_ret2
  refine ⟨?_, by go_grown⟩
  first | rfl | (simp; omega)

set_option maxHeartbeats 1000000 in
theorem lay_noParts (W : World) : LayC 27 #[] ([], none) W := fun n hn => by
  show Calls Tryd.prog 27 #[.int .i64 (n : Int)] W _
  have HW : Hid (wantN (atN ([], none) n) = 0 ∧ mayB (atN ([], none) n) = true) := ⟨by simp [atN, wantN], by simp [atN, mayB]⟩
  rw [HW.out.1, HW.out.2]
  go_enter Tryd.func27, Tryd.ntmps27
  go_wp2
  go_ret2
  refine ⟨?_, by go_grown⟩
  first | rfl | (simp; omega)

set_option maxHeartbeats 1000000 in
theorem lay_anySums (W : World) : LayC 26 #[] ([], some 1) W := fun n hn => by
  show Calls Tryd.prog 26 #[.int .i64 (n : Int)] W _
  have HW : Hid (wantN (atN ([], some 1) n) = 1 ∧ mayB (atN ([], some 1) n) = true) := ⟨by simp [atN, wantN], by simp [atN, mayB]⟩
  rw [HW.out.1, HW.out.2]
  go_enter Tryd.func26, Tryd.ntmps26
  go_wp2
  go_ret2
  refine ⟨?_, by go_grown⟩
  first | rfl | (simp; omega)

set_option maxHeartbeats 1000000 in
theorem lay_someSums (W : World) : LayC 25 #[] ([1], some 1) W := fun n hn => by
  show Calls Tryd.prog 25 #[.int .i64 (n : Int)] W _
  by_cases h0 : n = 0
  · subst h0
    go_enter Tryd.func25, Tryd.ntmps25
    go_wp2
    go_ret2
    exact ⟨rfl, by go_grown⟩
  obtain ⟨m, rfl⟩ : ∃ m, n = m + 1 := ⟨n - 1, by omega⟩
  have HW : Hid (wantN (atN ([1], some 1) (m + 1)) = 1 ∧ mayB (atN ([1], some 1) (m + 1)) = true) := ⟨by simp [atN, wantN], by simp [atN, mayB]⟩
  rw [HW.out.1, HW.out.2]
  go_enter Tryd.func25, Tryd.ntmps25
  go_wp2
  go_ret2
  refine ⟨?_, by go_grown⟩
  first | rfl | (simp; omega)

set_option maxHeartbeats 1000000 in
theorem lay_anyNames (W : World) : LayC 30 #[] ([], some 4) W := fun n hn => by
  show Calls Tryd.prog 30 #[.int .i64 (n : Int)] W _
  have HW : Hid (wantN (atN ([], some 4) n) = 4 ∧ mayB (atN ([], some 4) n) = true) := ⟨by simp [atN, wantN], by simp [atN, mayB]⟩
  rw [HW.out.1, HW.out.2]
  go_enter Tryd.func30, Tryd.ntmps30
  go_wp2
  go_ret2
  refine ⟨?_, by go_grown⟩
  first | rfl | (simp; omega)

set_option maxHeartbeats 1000000 in
theorem lay_someNames (W : World) : LayC 38 #[] ([4], some 4) W := fun n hn => by
  show Calls Tryd.prog 38 #[.int .i64 (n : Int)] W _
  by_cases h0 : n = 0
  · subst h0
    go_enter Tryd.func38, Tryd.ntmps38
    go_wp2
    go_ret2
    exact ⟨rfl, by go_grown⟩
  obtain ⟨m, rfl⟩ : ∃ m, n = m + 1 := ⟨n - 1, by omega⟩
  have HW : Hid (wantN (atN ([4], some 4) (m + 1)) = 4 ∧ mayB (atN ([4], some 4) (m + 1)) = true) := ⟨by simp [atN, wantN], by simp [atN, mayB]⟩
  rw [HW.out.1, HW.out.2]
  go_enter Tryd.func38, Tryd.ntmps38
  go_wp2
  go_ret2
  refine ⟨?_, by go_grown⟩
  first | rfl | (simp; omega)

set_option maxHeartbeats 1000000 in
theorem lay_anyParams (W : World) : LayC 39 #[] ([], some 6) W := fun n hn => by
  show Calls Tryd.prog 39 #[.int .i64 (n : Int)] W _
  have HW : Hid (wantN (atN ([], some 6) n) = 6 ∧ mayB (atN ([], some 6) n) = true) := ⟨by simp [atN, wantN], by simp [atN, mayB]⟩
  rw [HW.out.1, HW.out.2]
  go_enter Tryd.func39, Tryd.ntmps39
  go_wp2
  go_ret2
  refine ⟨?_, by go_grown⟩
  first | rfl | (simp; omega)

set_option maxHeartbeats 1000000 in
theorem lay_anyDeeds (W : World) : LayC 31 #[] ([], some 3) W := fun n hn => by
  show Calls Tryd.prog 31 #[.int .i64 (n : Int)] W _
  have HW : Hid (wantN (atN ([], some 3) n) = 3 ∧ mayB (atN ([], some 3) n) = true) := ⟨by simp [atN, wantN], by simp [atN, mayB]⟩
  rw [HW.out.1, HW.out.2]
  go_enter Tryd.func31, Tryd.ntmps31
  go_wp2
  go_ret2
  refine ⟨?_, by go_grown⟩
  first | rfl | (simp; omega)

set_option maxHeartbeats 1000000 in
theorem lay_paramsThenDeeds (W : World) : LayC 24 #[] ([7], some 3) W := fun n hn => by
  show Calls Tryd.prog 24 #[.int .i64 (n : Int)] W _
  by_cases h0 : n = 0
  · subst h0
    go_enter Tryd.func24, Tryd.ntmps24
    go_wp2
    go_ret2
    exact ⟨rfl, by go_grown⟩
  obtain ⟨m, rfl⟩ : ∃ m, n = m + 1 := ⟨n - 1, by omega⟩
  have HW : Hid (wantN (atN ([7], some 3) (m + 1)) = 3 ∧ mayB (atN ([7], some 3) (m + 1)) = true) := ⟨by simp [atN, wantN], by simp [atN, mayB]⟩
  rw [HW.out.1, HW.out.2]
  go_enter Tryd.func24, Tryd.ntmps24
  go_wp2
  go_ret2
  refine ⟨?_, by go_grown⟩
  first | rfl | (simp; omega)

end Go.Proofs.YtlmibonebiaocaaDoor
