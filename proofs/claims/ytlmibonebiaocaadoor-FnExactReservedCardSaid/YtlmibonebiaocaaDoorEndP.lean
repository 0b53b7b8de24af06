/-
  Chapter 4: the program's list of open forms, as it lies in memory.
-/
import Derived.Test.YtlmibonebiaocaaDoorTabN
import Derived.Test.YtlmibonebiaocaaDoorTabA
import Derived.OwnWalk
import Derived.WalkSmall
namespace Go.Proofs.YtlmibonebiaocaaDoor
open Go.RowKit

/-- A function value that tells of these parts, in all worlds that come of W0. -/
def LayV (W0 : World) (v : Value) (t : List Nat × Option Nat) : Prop :=
  ∃ f cap, v = .func (.func f) #[] cap ∧ (∀ args w, (callFunc f args).run Tryd.prog w = .ok (.enter f args) w) ∧ ∀ w, Below W0.heap.size W0 w → LayC f cap t w

theorem lay_tab (W0 : World) (k : Nat) (hk : k < tabL.length) : LayV W0 (.func (.func tabL[k].2) #[] #[]) (tabL[k].1.2.2.1, tabL[k].1.2.2.2) := by
  have h34 : k < 34 := hk
  match k, h34 with
  | 0, _ | 1, _ | 2, _ | 3, _ | 4, _ | 5, _ | 9, _ | 12, _ => exact ⟨_, _, rfl, Tryd.call23, fun w _ => lay_twoSums w⟩
  | 6, _ => exact ⟨_, _, rfl, Tryd.call24, fun w _ => lay_paramsThenDeeds w⟩
  | 7, _ => exact ⟨_, _, rfl, Tryd.call25, fun w _ => lay_someSums w⟩
  | 8, _ | 10, _ => exact ⟨_, _, rfl, Tryd.call26, fun w _ => lay_anySums w⟩
  | 11, _ | 25, _ | 26, _ => exact ⟨_, _, rfl, Tryd.call27, fun w _ => lay_noParts w⟩
  | 13, _ | 14, _ | 18, _ | 33, _ => exact ⟨_, _, rfl, Tryd.call28, fun w _ => lay_nameSum w⟩
  | 15, _ => exact ⟨_, _, rfl, Tryd.call29, fun w _ => lay_namesSum w⟩
  | 16, _ | 17, _ => exact ⟨_, _, rfl, Tryd.call30, fun w _ => lay_anyNames w⟩
  | 19, _ => exact ⟨_, _, rfl, Tryd.call31, fun w _ => lay_anyDeeds w⟩
  | 20, _ => exact ⟨_, _, rfl, Tryd.call32, fun w _ => lay_sumTwoDeeds w⟩
  | 21, _ => exact ⟨_, _, rfl, Tryd.call33, fun w _ => lay_sumDeed w⟩
  | 22, _ => exact ⟨_, _, rfl, Tryd.call34, fun w _ => lay_nameTwoSumsDeed w⟩
  | 23, _ | 24, _ | 28, _ => exact ⟨_, _, rfl, Tryd.call35, fun w _ => lay_oneSum w⟩
  | 27, _ | 30, _ => exact ⟨_, _, rfl, Tryd.call36, fun w _ => lay_threeSums w⟩
  | 29, _ => exact ⟨_, _, rfl, Tryd.call37, fun w _ => lay_nameTwoSums w⟩
  | 31, _ => exact ⟨_, _, rfl, Tryd.call38, fun w _ => lay_someNames w⟩
  | 32, _ => exact ⟨_, _, rfl, Tryd.call39, fun w _ => lay_anyParams w⟩
  | n + 34, h => exact absurd h (by omega)

set_option maxHeartbeats 1000000 in
theorem lay_base (W : World) (B q : Nat) (hc : W.cell? ⟨B, 0, none⟩ = some (.int .i64 (q : Int))) : LayC 41 #[.pointer (some ⟨B, 0, none⟩)] ([q], none) W := fun n hn => by
  show Calls Tryd.prog 41 #[.int .i64 (n : Int), .pointer (some ⟨B, 0, none⟩)] W _
  by_cases h0 : n = 0
  · subst h0
    go_enter Tryd.func41, Tryd.ntmps41
    go_wp2
    go_ret2
    exact ⟨rfl, by go_grown⟩
  obtain ⟨m, rfl⟩ : ∃ m, n = m + 1 := ⟨n - 1, by omega⟩
  have HW : Hid (wantN (atN ([q], none) (m + 1)) = 0 ∧ mayB (atN ([q], none) (m + 1)) = true) := ⟨by simp [atN, wantN], by simp [atN, mayB]⟩
  rw [HW.out.1, HW.out.2]
  go_enter Tryd.func41, Tryd.ntmps41
  go_wp2
  go_ret2
  exact ⟨rfl, by go_grown⟩

/-- What lies in the list, the last one first. -/
def flatR : List (Value × Nat) → List Value
  | [] => []
  | x :: R => flatR R ++ [x.1, .int .i64 (x.2 : Int)]
theorem flatR_len : ∀ R, (flatR R).length = R.length * 2
  | [] => rfl
  | x :: R => by
    show (flatR R ++ [x.1, .int .i64 (x.2 : Int)]).length = (R.length + 1) * 2
    rw [List.length_append, flatR_len R]
    simp
    omega
/-- Each of them is open so far. -/
def StkR (W0 : World) : List (Value × Nat) → List (List Nat × Option Nat) → Prop
  | [], [] => True
  | x :: R, t :: S => (∃ l, LayV W0 x.1 l ∧ t = atN l x.2 ∧ okL l) ∧ StkR W0 R S
  | _, _ => False
theorem StkR.len {W0 : World} : ∀ {R S}, StkR W0 R S → R.length = S.length
  | [], [], _ => rfl
  | _ :: _, _ :: _, h => by simp [StkR.len h.2]
  | [], _ :: _, h => h.elim
  | _ :: _, [], h => h.elim
/-- The list lies in memory of the call's own. -/
def OwnS (w : World) (B : Nat) (v : Value) (R : List (Value × Nat)) : Prop := w.ownsRow B 53 2 v R.length (flatR R)
section
variable {w : World} {B g cap : Nat} {v : Value} {x : Value × Nat} {R : List (Value × Nat)}
theorem OwnS.shape (h : OwnS w B v (x :: R)) : ∃ g cap, v = .slice (some ⟨g, 0, none⟩) (R.length + 1) cap ∧ B ≤ g ∧ g < w.heap.size ∧ R.length + 1 ≤ cap ∧ cap ≤ maxLen := by
  rcases h.2 with ⟨rfl, hn⟩ | ⟨g, cap, cur, rfl, hb, hg, hnc, hcm, _⟩
  · simp at hn
  · exact ⟨g, cap, rfl, hb, (Array.getElem?_eq_some_iff.1 hg).1, hnc, hcm⟩
theorem OwnS.top (h : OwnS w B (.slice (some ⟨g, 0, none⟩) (R.length + 1) cap) (x :: R)) : w.cell? ⟨g, R.length * 2, none⟩ = some x.1 ∧ w.cell? ⟨g, R.length * 2 + 1, none⟩ = some (.int .i64 (x.2 : Int)) ∧ w.frozen? ⟨g, R.length * 2 + 1, none⟩ = false := by
  have hc := World.ownsRow.cells h (g := g) rfl
  have hl := flatR_len R
  have hadd : ∀ j, (⟨g, 0, none⟩ : Addr).add j = ⟨g, j, none⟩ := fun j => by unfold Addr.add; split <;> simp_all
  refine ⟨?_, ?_, World.ownsRow.frozenAt h _⟩
  · have := hc (R.length * 2) x.1 (by show (flatR R ++ [x.1, .int .i64 (x.2 : Int)])[R.length * 2]? = _; rw [List.getElem?_append_right (by omega), hl]; simp)
    rwa [hadd] at this
  · have := hc (R.length * 2 + 1) (.int .i64 (x.2 : Int)) (by show (flatR R ++ [x.1, .int .i64 (x.2 : Int)])[R.length * 2 + 1]? = _; rw [List.getElem?_append_right (by omega), hl]; simp)
    rwa [hadd] at this
theorem OwnS.count (h : OwnS w B (.slice (some ⟨g, 0, none⟩) (R.length + 1) cap) (x :: R)) (c : Nat) : OwnS (w.setCell ⟨g, R.length * 2 + 1, none⟩ (.int .i64 (c : Int))) B (.slice (some ⟨g, 0, none⟩) (R.length + 1) cap) ((x.1, c) :: R) ∧ w.grownBy (w.setCell ⟨g, R.length * 2 + 1, none⟩ (.int .i64 (c : Int))) (some g) := by
  have hs := World.ownsRow.stored h (R.length * 2 + 1) (.int .i64 (c : Int))
  refine ⟨?_, hs.2⟩
  have hl := flatR_len R
  have e : (flatR (x :: R)).set (R.length * 2 + 1) (.int .i64 (c : Int)) = flatR ((x.1, c) :: R) := by
    show (flatR R ++ [x.1, .int .i64 (x.2 : Int)]).set (R.length * 2 + 1) (.int .i64 (c : Int)) = flatR R ++ [x.1, .int .i64 (c : Int)]
    rw [List.set_append_right _ _ (by omega), hl, show R.length * 2 + 1 - R.length * 2 = 1 by omega]
    rfl
  have h1 := hs.1
  rw [e] at h1
  exact h1
theorem OwnS.pop (h : OwnS w B (.slice (some ⟨g, 0, none⟩) (R.length + 1) cap) (x :: R)) : OwnS w B (.slice (some ⟨g, 0, none⟩) R.length cap) R :=
  ownsRow_pop (flatR_len R) h
theorem OwnS.call {w' : World} (h : OwnS w B v R) (hb : Below w.heap.size w w') : OwnS w' B v R := by
  refine ⟨h.1, ?_⟩
  rcases h.2 with hn | ⟨g, cap, cur, rfl, hB, hg, rest⟩
  · exact .inl hn
  · have hlt : g < w.heap.size := (Array.getElem?_eq_some_iff.1 hg).1
    exact .inr ⟨g, cap, cur, rfl, hB, (hb.block g hlt).trans hg, rest⟩
end
theorem ownS_new (w : World) (F : Value) : OwnS (w.alloc (.cells #[F, .int .i64 0] 53)) w.heap.size (.slice (some ⟨w.heap.size, 0, none⟩) 1 1) [(F, 0)] :=
  ⟨rfl, .inr ⟨w.heap.size, 1, #[F, .int .i64 0], rfl, Nat.le_refl _, heap_alloc_new w _, Nat.le_refl _, by unfold maxLen; omega, rfl, rfl⟩⟩
theorem infoO : (Tryd.prog.info? 53).map (fun i => (i.zero, i.size, i.bytes)) = some (some (.agg #[.nilFunc, .int .i64 0]), 2, 16) := by kernel_rfl
theorem openP_none {h : List UInt8} {q : Nat} (hA : ∀ j (hj : j < tabL.length), hitB h q tabL[j].1 = false) : openF h q = none := by
  unfold openF
  rw [List.find?_eq_none]
  intro x hx
  rw [← tab_fst, List.mem_map] at hx
  obtain ⟨y, hy, rfl⟩ := hx
  obtain ⟨j, hj, rfl⟩ := List.getElem_of_mem hy
  rw [hA j hj]
  decide
theorem openP_some {h : List UInt8} {q k : Nat} (hk : k < tabL.length) (hh : hitB h q tabL[k].1 = true) (hA : ∀ j (hj : j < tabL.length), j < k → hitB h q tabL[j].1 = false) : openF h q = some tabL[k].1 := by
  unfold openF
  rw [List.find?_eq_some_iff_getElem]
  have hl : formL.length = tabL.length := rfl
  have hg : ∀ j (hj : j < tabL.length), formL[j]'(by rw [hl]; exact hj) = tabL[j].1 := fun j hj => by
    simp only [← tab_fst, List.getElem_map]
  refine ⟨hh, k, by rw [hl]; exact hk, hg k hk, fun j hj => ?_⟩
  rw [hg j (by omega), hA j (by omega) hj]
  rfl

end Go.Proofs.YtlmibonebiaocaaDoor
