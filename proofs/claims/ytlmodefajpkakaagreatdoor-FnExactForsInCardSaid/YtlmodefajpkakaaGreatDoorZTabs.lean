/-
  Tabs: TabL, TabF, TabA, in one text.
-/
import Derived.Test.YtlmodefajpkakaaGreatDoorZPlain
/-
  Chapter 4, the program's table of forms: what lies in it, and what each of its functions tells.
-/
namespace Go.Proofs.YtlmodefajpkakaaGreatDoor
open Go.RowKit

/-- The functions of the table, form by form. -/
def layF : List Nat := [27, 27, 27, 27, 27, 27, 28, 29, 30, 27, 30, 31, 27, 32, 32, 33, 34, 34, 32, 35, 36, 37, 38, 39, 39, 31, 31, 40, 39, 41, 40, 42, 43, 32]
def tabL : List ((List UInt8 × Nat × List Nat × Option Nat) × Nat) := formL.zip layF
theorem tab_len : tabL.length = 34 := rfl
theorem tab_fst : tabL.map Prod.fst = formL := rfl
def headV (x : (List UInt8 × Nat × List Nat × Option Nat) × Nat) : ByteArray := ⟨x.1.1.toArray⟩
/-- The table lies there. -/
def TabT (w : World) (g : Nat) : Prop := g < w.heap.size ∧ ∀ k (h : k < tabL.length), w.cell? ⟨g, k * 3, none⟩ = some (.string (headV tabL[k])) ∧ w.cell? ⟨g, k * 3 + 1, none⟩ = some (.int .i64 (tabL[k].1.2.1 : Int)) ∧ w.cell? ⟨g, k * 3 + 2, none⟩ = some (.func (.func tabL[k].2) #[] #[])
theorem TabT.call {w w' : World} {g : Nat} (h : TabT w g) (hb : Below w.heap.size w w') : TabT w' g :=
  ⟨Nat.lt_of_lt_of_le h.1 hb.size, fun k hk => ⟨(hb.cell (p := ⟨g, k * 3, none⟩) h.1).trans (h.2 k hk).1, (hb.cell (p := ⟨g, k * 3 + 1, none⟩) h.1).trans (h.2 k hk).2.1, (hb.cell (p := ⟨g, k * 3 + 2, none⟩) h.1).trans (h.2 k hk).2.2⟩⟩
theorem TabT.keep {w w' : World} {g B : Nat} (h : TabT w g) (hg : g < B) (hb : Below B w w') : TabT w' g :=
  ⟨Nat.lt_of_lt_of_le h.1 hb.size, fun k hk => ⟨(hb.cell (p := ⟨g, k * 3, none⟩) hg).trans (h.2 k hk).1, (hb.cell (p := ⟨g, k * 3 + 1, none⟩) hg).trans (h.2 k hk).2.1, (hb.cell (p := ⟨g, k * 3 + 2, none⟩) hg).trans (h.2 k hk).2.2⟩⟩

end Go.Proofs.YtlmodefajpkakaaGreatDoor

/-
  Chapter 4: what each function of the program's table tells of a place.
-/
namespace Go.Proofs.YtlmodefajpkakaaGreatDoor
open Go.RowKit

/-- What is asked for behind n parts, and whether it may be closed there. -/
def atN (t : List Nat × Option Nat) (n : Nat) : List Nat × Option Nat := (t.1.drop n, t.2)
/-- This function tells of these parts. -/
def LayC (f : Nat) (cap : Array Value) (t : List Nat × Option Nat) (W : World) : Prop := ∀ n : Nat, n ≤ 1048577 →
    Calls Tryz.prog f (#[.int .i64 (n : Int)] ++ cap) W fun e w' => e = .returned (.tuple #[.int .i64 (wantN (atN t n) : Int), .bool (mayB (atN t n))]) ∧ Below W.heap.size W w'

set_option maxHeartbeats 1000000 in
theorem lay_twoSums (W : World) : LayC 27 #[] ([1, 1], none) W := fun n hn => by
  show Calls Tryz.prog 27 #[.int .i64 (n : Int)] W _
  by_cases h0 : n = 0
  · subst h0
    go_enter Tryz.func27, Tryz.ntmps27
    go_wp2
    go_ret2
    exact ⟨rfl, by go_grown⟩
  by_cases h1 : n = 1
  · subst h1
    go_enter Tryz.func27, Tryz.ntmps27
    go_wp2
    go_ret2
    exact ⟨rfl, by go_grown⟩
  obtain ⟨m, rfl⟩ : ∃ m, n = m + 2 := ⟨n - 2, by omega⟩
  have HW : Hid (wantN (atN ([1, 1], none) (m + 2)) = 0 ∧ mayB (atN ([1, 1], none) (m + 2)) = true) := ⟨by simp [atN, wantN], by simp [atN, mayB]⟩
  rw [HW.out.1, HW.out.2]
  go_enter Tryz.func27, Tryz.ntmps27
  go_wp2
  go_ret2
  refine ⟨?_, by go_grown⟩
  first | rfl | (simp; omega)

set_option maxHeartbeats 1000000 in
theorem lay_threeSums (W : World) : LayC 40 #[] ([1, 1, 1], none) W := fun n hn => by
  show Calls Tryz.prog 40 #[.int .i64 (n : Int)] W _
  by_cases h0 : n = 0
  · subst h0
    go_enter Tryz.func40, Tryz.ntmps40
    go_wp2
    go_ret2
    exact ⟨rfl, by go_grown⟩
  by_cases h1 : n = 1
  · subst h1
    go_enter Tryz.func40, Tryz.ntmps40
    go_wp2
    go_ret2
    exact ⟨rfl, by go_grown⟩
  by_cases h2 : n = 2
  · subst h2
    go_enter Tryz.func40, Tryz.ntmps40
    go_wp2
    go_ret2
    exact ⟨rfl, by go_grown⟩
  obtain ⟨m, rfl⟩ : ∃ m, n = m + 3 := ⟨n - 3, by omega⟩
  have HW : Hid (wantN (atN ([1, 1, 1], none) (m + 3)) = 0 ∧ mayB (atN ([1, 1, 1], none) (m + 3)) = true) := ⟨by simp [atN, wantN], by simp [atN, mayB]⟩
  rw [HW.out.1, HW.out.2]
  go_enter Tryz.func40, Tryz.ntmps40
  go_wp2
  go_ret2
  refine ⟨?_, by go_grown⟩
  first | rfl | (simp; omega)

set_option maxHeartbeats 1000000 in
theorem lay_oneSum (W : World) : LayC 39 #[] ([1], none) W := fun n hn => by
  show Calls Tryz.prog 39 #[.int .i64 (n : Int)] W _
  by_cases h0 : n = 0
  · subst h0
    go_enter Tryz.func39, Tryz.ntmps39
    go_wp2
    go_ret2
    exact ⟨rfl, by go_grown⟩
  obtain ⟨m, rfl⟩ : ∃ m, n = m + 1 := ⟨n - 1, by omega⟩
  have HW : Hid (wantN (atN ([1], none) (m + 1)) = 0 ∧ mayB (atN ([1], none) (m + 1)) = true) := ⟨by simp [atN, wantN], by simp [atN, mayB]⟩
  rw [HW.out.1, HW.out.2]
  go_enter Tryz.func39, Tryz.ntmps39
  go_wp2
  go_ret2
  refine ⟨?_, by go_grown⟩
  first | rfl | (simp; omega)

set_option maxHeartbeats 1000000 in
theorem lay_nameSum (W : World) : LayC 32 #[] ([4, 1], none) W := fun n hn => by
  show Calls Tryz.prog 32 #[.int .i64 (n : Int)] W _
  by_cases h0 : n = 0
  · subst h0
    go_enter Tryz.func32, Tryz.ntmps32
    go_wp2
    go_ret2
    exact ⟨rfl, by go_grown⟩
  by_cases h1 : n = 1
  · subst h1
    go_enter Tryz.func32, Tryz.ntmps32
    go_wp2
    go_ret2
    exact ⟨rfl, by go_grown⟩
  obtain ⟨m, rfl⟩ : ∃ m, n = m + 2 := ⟨n - 2, by omega⟩
  have HW : Hid (wantN (atN ([4, 1], none) (m + 2)) = 0 ∧ mayB (atN ([4, 1], none) (m + 2)) = true) := ⟨by simp [atN, wantN], by simp [atN, mayB]⟩
  rw [HW.out.1, HW.out.2]
  go_enter Tryz.func32, Tryz.ntmps32
  go_wp2
  go_ret2
  refine ⟨?_, by go_grown⟩
  first | rfl | (simp; omega)

set_option maxHeartbeats 1000000 in
theorem lay_nameTwoSums (W : World) : LayC 41 #[] ([4, 1, 1], none) W := fun n hn => by
  show Calls Tryz.prog 41 #[.int .i64 (n : Int)] W _
  by_cases h0 : n = 0
  · subst h0
    go_enter Tryz.func41, Tryz.ntmps41
    go_wp2
    go_ret2
    exact ⟨rfl, by go_grown⟩
  by_cases h1 : n = 1
  · subst h1
    go_enter Tryz.func41, Tryz.ntmps41
    go_wp2
    go_ret2
    exact ⟨rfl, by go_grown⟩
  by_cases h2 : n = 2
  · subst h2
    go_enter Tryz.func41, Tryz.ntmps41
    go_wp2
    go_ret2
    exact ⟨rfl, by go_grown⟩
  obtain ⟨m, rfl⟩ : ∃ m, n = m + 3 := ⟨n - 3, by omega⟩
  have HW : Hid (wantN (atN ([4, 1, 1], none) (m + 3)) = 0 ∧ mayB (atN ([4, 1, 1], none) (m + 3)) = true) := ⟨by simp [atN, wantN], by simp [atN, mayB]⟩
  rw [HW.out.1, HW.out.2]
  go_enter Tryz.func41, Tryz.ntmps41
  go_wp2
  go_ret2
  refine ⟨?_, by go_grown⟩
  first | rfl | (simp; omega)

set_option maxHeartbeats 1000000 in
theorem lay_namesSum (W : World) : LayC 33 #[] ([5, 1], none) W := fun n hn => by
  show Calls Tryz.prog 33 #[.int .i64 (n : Int)] W _
  by_cases h0 : n = 0
  · subst h0
    go_enter Tryz.func33, Tryz.ntmps33
    go_wp2
    go_ret2
    exact ⟨rfl, by go_grown⟩
  by_cases h1 : n = 1
  · subst h1
    go_enter Tryz.func33, Tryz.ntmps33
    go_wp2
    go_ret2
    exact ⟨rfl, by go_grown⟩
  obtain ⟨m, rfl⟩ : ∃ m, n = m + 2 := ⟨n - 2, by omega⟩
  have HW : Hid (wantN (atN ([5, 1], none) (m + 2)) = 0 ∧ mayB (atN ([5, 1], none) (m + 2)) = true) := ⟨by simp [atN, wantN], by simp [atN, mayB]⟩
  rw [HW.out.1, HW.out.2]
  go_enter Tryz.func33, Tryz.ntmps33
  go_wp2
  go_ret2
  refine ⟨?_, by go_grown⟩
  first | rfl | (simp; omega)

set_option maxHeartbeats 1000000 in
theorem lay_sumDeed (W : World) : LayC 37 #[] ([1, 2], none) W := fun n hn => by
  show Calls Tryz.prog 37 #[.int .i64 (n : Int)] W _
  by_cases h0 : n = 0
  · subst h0
    go_enter Tryz.func37, Tryz.ntmps37
    go_wp2
    go_ret2
    exact ⟨rfl, by go_grown⟩
  by_cases h1 : n = 1
  · subst h1
    go_enter Tryz.func37, Tryz.ntmps37
    go_wp2
    go_ret2
    exact ⟨rfl, by go_grown⟩
  obtain ⟨m, rfl⟩ : ∃ m, n = m + 2 := ⟨n - 2, by omega⟩
  have HW : Hid (wantN (atN ([1, 2], none) (m + 2)) = 0 ∧ mayB (atN ([1, 2], none) (m + 2)) = true) := ⟨by simp [atN, wantN], by simp [atN, mayB]⟩
  rw [HW.out.1, HW.out.2]
  go_enter Tryz.func37, Tryz.ntmps37
  go_wp2
  go_ret2
  refine ⟨?_, by go_grown⟩
  first | rfl | (simp; omega)

set_option maxHeartbeats 1000000 in
theorem lay_sumTwoDeeds (W : World) : LayC 36 #[] ([1, 2, 2], none) W := fun n hn => by
  show Calls Tryz.prog 36 #[.int .i64 (n : Int)] W _
  by_cases h0 : n = 0
  · subst h0
    go_enter Tryz.func36, Tryz.ntmps36
    go_wp2
    go_ret2
    exact ⟨rfl, by go_grown⟩
  by_cases h1 : n = 1
  · subst h1
    go_enter Tryz.func36, Tryz.ntmps36
    go_wp2
    go_ret2
    exact ⟨rfl, by go_grown⟩
  by_cases h2 : n = 2
  · subst h2
    go_enter Tryz.func36, Tryz.ntmps36
    go_wp2
    go_ret2
    exact ⟨rfl, by go_grown⟩
  obtain ⟨m, rfl⟩ : ∃ m, n = m + 3 := ⟨n - 3, by omega⟩
  have HW : Hid (wantN (atN ([1, 2, 2], none) (m + 3)) = 0 ∧ mayB (atN ([1, 2, 2], none) (m + 3)) = true) := ⟨by simp [atN, wantN], by simp [atN, mayB]⟩
  rw [HW.out.1, HW.out.2]
  go_enter Tryz.func36, Tryz.ntmps36
  go_wp2
  go_ret2
  refine ⟨?_, by go_grown⟩
  first | rfl | (simp; omega)

set_option maxHeartbeats 1000000 in
theorem lay_nameTwoSumsDeed (W : World) : LayC 38 #[] ([4, 1, 1, 2], none) W := fun n hn => by
  show Calls Tryz.prog 38 #[.int .i64 (n : Int)] W _
  by_cases h0 : n = 0
  · subst h0
    go_enter Tryz.func38, Tryz.ntmps38
    go_wp2
    go_ret2
    exact ⟨rfl, by go_grown⟩
  by_cases h1 : n = 1
  · subst h1
    go_enter Tryz.func38, Tryz.ntmps38
    go_wp2
    go_ret2
    exact ⟨rfl, by go_grown⟩
  by_cases h2 : n = 2
  · subst h2
    go_enter Tryz.func38, Tryz.ntmps38
    go_wp2
    go_ret2
    exact ⟨rfl, by go_grown⟩
  by_cases h3 : n = 3
  · subst h3
    go_enter Tryz.func38, Tryz.ntmps38
    go_wp2
    go_ret2
    exact ⟨rfl, by go_grown⟩
  obtain ⟨m, rfl⟩ : ∃ m, n = m + 4 := ⟨n - 4, by omega⟩
  have HW : Hid (wantN (atN ([4, 1, 1, 2], none) (m + 4)) = 0 ∧ mayB (atN ([4, 1, 1, 2], none) (m + 4)) = true) := ⟨by simp [atN, wantN], by simp [atN, mayB]⟩
  rw [HW.out.1, HW.out.2]
  go_enter Tryz.func38, Tryz.ntmps38
  go_wp2
  go_ret2
  refine ⟨?_, by go_grown⟩
  first | rfl | (simp; omega)

set_option maxHeartbeats 1000000 in
theorem lay_noParts (W : World) : LayC 31 #[] ([], none) W := fun n hn => by
  show Calls Tryz.prog 31 #[.int .i64 (n : Int)] W _
  have HW : Hid (wantN (atN ([], none) n) = 0 ∧ mayB (atN ([], none) n) = true) := ⟨by simp [atN, wantN], by simp [atN, mayB]⟩
  rw [HW.out.1, HW.out.2]
  go_enter Tryz.func31, Tryz.ntmps31
  go_wp2
  go_ret2
  refine ⟨?_, by go_grown⟩
  first | rfl | (simp; omega)

set_option maxHeartbeats 1000000 in
theorem lay_anySums (W : World) : LayC 30 #[] ([], some 1) W := fun n hn => by
  show Calls Tryz.prog 30 #[.int .i64 (n : Int)] W _
  have HW : Hid (wantN (atN ([], some 1) n) = 1 ∧ mayB (atN ([], some 1) n) = true) := ⟨by simp [atN, wantN], by simp [atN, mayB]⟩
  rw [HW.out.1, HW.out.2]
  go_enter Tryz.func30, Tryz.ntmps30
  go_wp2
  go_ret2
  refine ⟨?_, by go_grown⟩
  first | rfl | (simp; omega)

set_option maxHeartbeats 1000000 in
theorem lay_someSums (W : World) : LayC 29 #[] ([1], some 1) W := fun n hn => by
  show Calls Tryz.prog 29 #[.int .i64 (n : Int)] W _
  by_cases h0 : n = 0
  · subst h0
    go_enter Tryz.func29, Tryz.ntmps29
    go_wp2
    go_ret2
    exact ⟨rfl, by go_grown⟩
  obtain ⟨m, rfl⟩ : ∃ m, n = m + 1 := ⟨n - 1, by omega⟩
  have HW : Hid (wantN (atN ([1], some 1) (m + 1)) = 1 ∧ mayB (atN ([1], some 1) (m + 1)) = true) := ⟨by simp [atN, wantN], by simp [atN, mayB]⟩
  rw [HW.out.1, HW.out.2]
  go_enter Tryz.func29, Tryz.ntmps29
  go_wp2
  go_ret2
  refine ⟨?_, by go_grown⟩
  first | rfl | (simp; omega)

set_option maxHeartbeats 1000000 in
theorem lay_anyNames (W : World) : LayC 34 #[] ([], some 4) W := fun n hn => by
  show Calls Tryz.prog 34 #[.int .i64 (n : Int)] W _
  have HW : Hid (wantN (atN ([], some 4) n) = 4 ∧ mayB (atN ([], some 4) n) = true) := ⟨by simp [atN, wantN], by simp [atN, mayB]⟩
  rw [HW.out.1, HW.out.2]
  go_enter Tryz.func34, Tryz.ntmps34
  go_wp2
  go_ret2
  refine ⟨?_, by go_grown⟩
  first | rfl | (simp; omega)

set_option maxHeartbeats 1000000 in
theorem lay_someNames (W : World) : LayC 42 #[] ([4], some 4) W := fun n hn => by
  show Calls Tryz.prog 42 #[.int .i64 (n : Int)] W _
  by_cases h0 : n = 0
  · subst h0
    go_enter Tryz.func42, Tryz.ntmps42
    go_wp2
    go_ret2
    exact ⟨rfl, by go_grown⟩
  obtain ⟨m, rfl⟩ : ∃ m, n = m + 1 := ⟨n - 1, by omega⟩
  have HW : Hid (wantN (atN ([4], some 4) (m + 1)) = 4 ∧ mayB (atN ([4], some 4) (m + 1)) = true) := ⟨by simp [atN, wantN], by simp [atN, mayB]⟩
  rw [HW.out.1, HW.out.2]
  go_enter Tryz.func42, Tryz.ntmps42
  go_wp2
  go_ret2
  refine ⟨?_, by go_grown⟩
  first | rfl | (simp; omega)

set_option maxHeartbeats 1000000 in
theorem lay_anyParams (W : World) : LayC 43 #[] ([], some 6) W := fun n hn => by
  show Calls Tryz.prog 43 #[.int .i64 (n : Int)] W _
  have HW : Hid (wantN (atN ([], some 6) n) = 6 ∧ mayB (atN ([], some 6) n) = true) := ⟨by simp [atN, wantN], by simp [atN, mayB]⟩
  rw [HW.out.1, HW.out.2]
  go_enter Tryz.func43, Tryz.ntmps43
  go_wp2
  go_ret2
  refine ⟨?_, by go_grown⟩
  first | rfl | (simp; omega)

set_option maxHeartbeats 1000000 in
theorem lay_anyDeeds (W : World) : LayC 35 #[] ([], some 3) W := fun n hn => by
  show Calls Tryz.prog 35 #[.int .i64 (n : Int)] W _
  have HW : Hid (wantN (atN ([], some 3) n) = 3 ∧ mayB (atN ([], some 3) n) = true) := ⟨by simp [atN, wantN], by simp [atN, mayB]⟩
  rw [HW.out.1, HW.out.2]
  go_enter Tryz.func35, Tryz.ntmps35
  go_wp2
  go_ret2
  refine ⟨?_, by go_grown⟩
  first | rfl | (simp; omega)

set_option maxHeartbeats 1000000 in
theorem lay_paramsThenDeeds (W : World) : LayC 28 #[] ([7], some 3) W := fun n hn => by
  show Calls Tryz.prog 28 #[.int .i64 (n : Int)] W _
  by_cases h0 : n = 0
  · subst h0
    go_enter Tryz.func28, Tryz.ntmps28
    go_wp2
    go_ret2
    exact ⟨rfl, by go_grown⟩
  obtain ⟨m, rfl⟩ : ∃ m, n = m + 1 := ⟨n - 1, by omega⟩
  have HW : Hid (wantN (atN ([7], some 3) (m + 1)) = 3 ∧ mayB (atN ([7], some 3) (m + 1)) = true) := ⟨by simp [atN, wantN], by simp [atN, mayB]⟩
  rw [HW.out.1, HW.out.2]
  go_enter Tryz.func28, Tryz.ntmps28
  go_wp2
  go_ret2
  refine ⟨?_, by go_grown⟩
  first | rfl | (simp; omega)

end Go.Proofs.YtlmodefajpkakaaGreatDoor

/-
  Chapter 4, the program's table of forms, made.
-/
namespace Go.Proofs.YtlmodefajpkakaaGreatDoor
open Go.RowKit

set_option maxHeartbeats 4000000 in
set_option maxRecDepth 100000 in
theorem allForms_any (w : World) :
    Calls Tryz.prog 18 #[] w fun e w' => e = .returned (.slice (some ⟨w.heap.size, 0, none⟩) 34 34) ∧ TabT w' w.heap.size ∧ Below w.heap.size w w' := by
  go_enter Tryz.func18, Tryz.ntmps18
  go_wp2
  go_ret
  refine ⟨rfl, ⟨by simp, fun k hk => ?_⟩, by go_grown⟩
  have h34 : k < 34 := hk
  match k, h34 with
  | 0, _ | 1, _ | 2, _ | 3, _ | 4, _ | 5, _ | 6, _ | 7, _ | 8, _ | 9, _ | 10, _ | 11, _ | 12, _ | 13, _ | 14, _ | 15, _ | 16, _ | 17, _ | 18, _ | 19, _ | 20, _ | 21, _ | 22, _ | 23, _ | 24, _ | 25, _ | 26, _ | 27, _ | 28, _ | 29, _ | 30, _ | 31, _ | 32, _ | 33, _ => refine ⟨?_, ?_, ?_⟩ <;> simp [tabL, formL, layF, headV, go_sem]
  | n + 34, h => exact absurd h (by omega)

end Go.Proofs.YtlmodefajpkakaaGreatDoor
