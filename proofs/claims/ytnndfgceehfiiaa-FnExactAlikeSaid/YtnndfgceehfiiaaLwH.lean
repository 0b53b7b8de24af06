/-
  The law of Alike: from region 8 to impl.bothSides, and behind that to its end. (tools/genlwh.py)
-/
import Derived.Test.YtnndfgceehfiiaaLwF
import Derived.Test.YtnndfgceehfiiaaBsA
namespace Go.Proofs.Ytnndfgceehfiiaa
open Go.Conc Go.RowKit

theorem lawC8_eq : lawC8 = .seq (.region 8 ops8 true) lawC9 := by rfl

section
variable (W : World) (K L : List ByteArray) (f s g u : Int)
/-- At the entry of impl.bothSides; and what follows once that has answered. -/
def S1 (g' : Goroutine) (w' : World) : Prop :=
  ∃ (c : Frame) (cs : List Frame) (ga gb : Nat), K.length ≤ 1048576 ∧ L.length ≤ 1048576 ∧ g' = G ((base 18).at ⟨#[.agg #[.slice (some ⟨ga, 0, none⟩) K.length K.length, .int .i64 f, .int .i64 s], .agg #[.slice (some ⟨gb, 0, none⟩) L.length L.length, .int .i64 g, .int .i64 u], undef, undef, undef, undef, undef, undef, undef, undef, undef, undef, undef, undef, undef, undef, undef, undef], []⟩ [.code bothB]) (c :: cs) ∧ RowT w' ga K ∧ RowT w' gb L ∧ w'.heap.size = W.heap.size + 24 + alikeN f g ∧ Below W.heap.size W w' ∧
    ∀ (Bad : Nat → Prop) (X : World), (∀ b, b < w'.heap.size → ¬ Bad b) → (∀ i, i < 20 → ¬ Bad (X.heap.size + i)) → Below w'.heap.size w' X → ∃ n, Goes Try.prog true AtRel (DE (EvP Bad)) (AtEnd1 W) n (G (c.finish (.tuple #[.agg #[.bool false, .bool (endB f), .bool (begB K L)], .agg #[.bool true, .bool (endB g), .bool (begB L K)]])) cs) X
end

section
variable (Bad : Nat → Prop) (W : World) (K L : List ByteArray) (a0 a1 : Option Addr) (cap0 cap1 : Nat) (f s g u : Int)
set_option maxRecDepth 100000 in
set_option maxHeartbeats 4000000 in
theorem lawMid (hK1 : K.length ≤ 1048576) (hL1 : L.length ≤ 1048576) (hb0 : Nb Bad a0) (hb1 : Nb Bad a1) (h0 : ArgT W a0 K) (h1 : ArgT W a1 L) (hlt0 : ∀ sb off, a0 = some ⟨sb, off, none⟩ → sb < W.heap.size) (hlt1 : ∀ sb off, a1 = some ⟨sb, off, none⟩ → sb < W.heap.size) (hnb : ∀ b, b < W.heap.size + 24 + alikeN f g → ¬ Bad b) :
    ∃ n, ∀ (w : World) (v0 v1 v4 v5 v6 v7 v8 v9 v10 v11 v12 v13 v14 v15 v16 v17 v18 v19 v20 v21 v22 v23 v24 v25 v26 v27 v28 v29 v30 v31 v32 v33 v34 v35 v36 v37 v38 v39 v40 v41 v42 v43 v44 : Value), LawF W K L a0 cap0 f s a1 cap1 g u w → w.heap.size = W.heap.size + 4 →
      Goes Try.prog true AtRel (DE (EvP Bad)) (S1 W K L f s g u) n (G ((base 4).at ⟨#[v0, v1, .pointer (some ⟨W.heap.size, 0, none⟩), .pointer (some ⟨W.heap.size + 1, 0, none⟩), v4, v5, v6, v7, v8, v9, v10, v11, v12, v13, v14, v15, v16, v17, v18, v19, v20, v21, v22, v23, v24, v25, v26, v27, v28, v29, v30, v31, v32, v33, v34, v35, v36, v37, v38, v39, v40, v41, v42, v43, v44], []⟩ [.code lawC8]) []) w := by
  have A1 := at_cell
  have A2 := at_frozen
  have A3 := at_size
  have A4 := at_at
  have A5 := at_alloc
  have A6 := at_set
  have TP := termsP Bad
  have E1 := fun w es a m x => events_store Try.prog w es a (.int .i64 x) m rfl
  have E2 := fun w es a m p n c => events_store Try.prog w es a (.slice p n c) m rfl
  have haN : 4 ≤ alikeN f g := by unfold alikeN; split <;> omega
  have haM : alikeN f g ≤ 5 := by unfold alikeN; split <;> omega
  have nx0 : ¬ Bad W.heap.size := hnb _ (by omega)
  have nx1 : ¬ Bad (W.heap.size + 1) := hnb _ (by omega)
  obtain ⟨Z, hZ⟩ : ∃ Z, Hid (Z = W.heap.size + 12 + alikeN f g) := ⟨_, rfl⟩
  have hnz : ∀ i, i < 12 → ¬ Bad (Z + i) := fun i hi => hnb _ (by have : Z = W.heap.size + 12 + alikeN f g := hZ.out; omega)
  have nz4 : ¬ Bad (Z + 4) := hnz 4 (by omega)
  have nz9 : ¬ Bad (Z + 9) := hnz 9 (by omega)
  have nz10 : ¬ Bad (Z + 10) := hnz 10 (by omega)
  have nz11 : ¬ Bad (Z + 11) := hnz 11 (by omega)
  obtain ⟨n8, H8⟩ := reg8_any Bad W K L a0 a1 cap0 cap1 f s g u hK1 hL1 hb0 hb1 h0 h1 (fun b hb => hnb b (by omega))
  obtain ⟨nA, hA⟩ := toShow_c Bad K hK1 a0 cap0 hb0 f s
  obtain ⟨nB, hB⟩ := toShow_c Bad L hL1 a1 cap1 hb1 g u
  co_apply Exists.intro
  intro w v0 v1 v4 v5 v6 v7 v8 v9 v10 v11 v12 v13 v14 v15 v16 v17 v18 v19 v20 v21 v22 v23 v24 v25 v26 v27 v28 v29 v30 v31 v32 v33 v34 v35 v36 v37 v38 v39 v40 v41 v42 v43 v44 hF hz
  rw [lawC8_eq]
  co_apply Goes.step rfl
  intro _ h₁
  obtain ⟨_, rfl⟩ := h₁
  rw [stepG_seq]
  simp only [goes_go]
  refine ⟨fun e he => by simp at he, ?_⟩
  co_apply wpC_goes (H8 _ _ _ _ _ _ _ _ _ _ _ _ _ _ _ _ _ _ _ _ _ _ _ _ _ _ _ _ _ _ _ _ _ _ _ _ _ _ _ _ _ _ _ _ hF.at (sz_at hz)) rfl (by decide)
  clear hF hz
  rintro e a' w2 ⟨rfl, hF, hz, y20, y21, y22, y23, y24, rfl⟩
  rw [← show Z = W.heap.size + 12 + alikeN f g from hZ.out] at hz
  simp only [After, lawC9, lawC8, lawB, Try.f4, Option.getD_some]
  have ⟨p0, p1, p2, r0, r1, r2⟩ := hF.cells
  co_apply Goes.step rfl
  intro _ h₁
  obtain ⟨_, rfl⟩ := h₁
  rw [stepG_seq]
  simp only [goes_go]
  refine ⟨fun e he => by simp at he, ?_⟩
  co_apply Goes.step rfl
  intro _ h₁
  obtain ⟨_, rfl⟩ := h₁
  rw [stepG_region]
  simp only [goes_go, List.size_toArray, List.length_cons, List.length_nil, Nat.reduceAdd, Nat.zero_add, List.range, List.range.loop]
  refine ⟨fun e he => by simp at he, ?_⟩
  co_apply Goes.step rfl
  intro _ h₁
  obtain ⟨_, rfl⟩ := h₁
  refine goes_oper_k rfl rfl (by decide) (fun K1 hK1 => ?_)
  go_simp
  try (unfold stored; go_simp)
  refine hK1 _ _ ⟨?_, ?_⟩
  · intro e he
    have hm := mem_listed he
    simp [go_sem, *] at hm
    try (rcases hm with rfl | rfl | rfl <;> exact evP _ _ (by first | assumption | exact nz4 | exact nz9 | exact nz10 | exact nz11))
    try (subst hm; exact evP _ _ (by first | assumption | exact nz4 | exact nz9 | exact nz10 | exact nz11))
  clear hK1 K1
  try walk_nrm
  co_apply goes_callM TP rfl rfl (by decide) rfl
  · walk_nrm
    exact hA _ (by rw [at_size, hz]; exact hnz 0 (by omega)) (by rw [at_size, hz]; exact hnz 1 (by omega)) (by rw [at_size, hz]; exact hnz 2 (by omega)) (by rw [at_size, hz]; exact hnz 3 (by omega)) (h0.call (below_at hF.bel))
  rintro v w3 ⟨hv, hr0, hb', hz'⟩
  rw [at_size, hz] at hv hr0 hz'
  subst hv
  replace hF := hF.step hb'
  clear hb' hz p0 p1 p2 r0 r1 r2
  have hz : w3.heap.size = Z + 4 := hz'
  clear hz'
  walk_nrm
  co_apply Goes.step rfl
  intro _ h₁
  obtain ⟨_, rfl⟩ := h₁
  refine goes_oper_k rfl rfl (by decide) (fun K1 hK1 => ?_)
  go_simp
  try (unfold stored; go_simp)
  refine hK1 _ _ ⟨?_, ?_⟩
  · intro e he
    have hm := mem_listed he
    simp [go_sem, *] at hm
    try (rcases hm with rfl | rfl | rfl <;> exact evP _ _ (by first | assumption | exact nz4 | exact nz9 | exact nz10 | exact nz11))
    try (subst hm; exact evP _ _ (by first | assumption | exact nz4 | exact nz9 | exact nz10 | exact nz11))
  clear hK1 K1
  try walk_nrm
  co_apply Goes.step rfl
  intro _ h₁
  obtain ⟨_, rfl⟩ := h₁
  refine goes_oper_k rfl rfl (by decide) (fun K1 hK1 => ?_)
  go_simp
  try (unfold stored; go_simp)
  refine hK1 _ _ ⟨?_, ?_⟩
  · intro e he
    have hm := mem_listed he
    simp [go_sem, *] at hm
    try (rcases hm with rfl | rfl | rfl <;> exact evP _ _ (by first | assumption | exact nz4 | exact nz9 | exact nz10 | exact nz11))
    try (subst hm; exact evP _ _ (by first | assumption | exact nz4 | exact nz9 | exact nz10 | exact nz11))
  clear hK1 K1
  try walk_nrm
  co_apply Goes.step rfl
  intro _ h₁
  obtain ⟨_, rfl⟩ := h₁
  rw [stepG_region_end]
  simp only [goes_go]
  refine ⟨fun e he => by simp at he, ?_⟩
  obtain ⟨w4, hw4⟩ : ∃ w4, w4 = w3.alloc (.cells #[.slice (some ⟨Z + 3, 0, none⟩) K.length K.length, .int .i64 f, .int .i64 s] 30) := ⟨_, rfl⟩
  have hB4 : Below w3.heap.size w3 w4 := by rw [hw4]; exact balloc (Below.refl _ _) _
  have hX0 : RowF w4 (Z + 4) [.slice (some ⟨Z + 3, 0, none⟩) K.length K.length, .int .i64 f, .int .i64 s] := by rw [hw4, ← hz]; exact rowF_new w3 _ _
  have hz4 : w4.heap.size = Z + 5 := by rw [hw4]; simp [hz]
  rw [← hw4]
  clear hw4 hz
  have hz : w4.heap.size = Z + 5 := hz4
  clear hz4
  replace hF := hF.call hB4
  replace hr0 := hr0.call hB4
  clear hB4
  have ⟨p0, p1, p2, r0, r1, r2⟩ := hF.cells
  co_apply Goes.step rfl
  intro _ h₁
  obtain ⟨_, rfl⟩ := h₁
  rw [stepG_seq]
  simp only [goes_go]
  refine ⟨fun e he => by simp at he, ?_⟩
  co_apply Goes.step rfl
  intro _ h₁
  obtain ⟨_, rfl⟩ := h₁
  rw [stepG_region]
  simp only [goes_go, List.size_toArray, List.length_cons, List.length_nil, Nat.reduceAdd, Nat.zero_add, List.range, List.range.loop]
  refine ⟨fun e he => by simp at he, ?_⟩
  co_apply Goes.step rfl
  intro _ h₁
  obtain ⟨_, rfl⟩ := h₁
  refine goes_oper_k rfl rfl (by decide) (fun K1 hK1 => ?_)
  go_simp
  try (unfold stored; go_simp)
  refine hK1 _ _ ⟨?_, ?_⟩
  · intro e he
    have hm := mem_listed he
    simp [go_sem, *] at hm
    try (rcases hm with rfl | rfl | rfl <;> exact evP _ _ (by first | assumption | exact nz4 | exact nz9 | exact nz10 | exact nz11))
    try (subst hm; exact evP _ _ (by first | assumption | exact nz4 | exact nz9 | exact nz10 | exact nz11))
  clear hK1 K1
  try walk_nrm
  co_apply goes_callM TP rfl rfl (by decide) rfl
  · walk_nrm
    exact hB _ (by rw [at_size, hz]; exact hnz 5 (by omega)) (by rw [at_size, hz]; exact hnz 6 (by omega)) (by rw [at_size, hz]; exact hnz 7 (by omega)) (by rw [at_size, hz]; exact hnz 8 (by omega)) (h1.call (below_at hF.bel))
  rintro v w5 ⟨hv, hr1, hb', hz'⟩
  rw [at_size, hz] at hv hr1 hz'
  subst hv
  simp only [Nat.add_assoc, Nat.reduceAdd] at hr1 hz'
  replace hF := hF.step hb'
  replace hX0 := hX0.step hb'
  replace hr0 := hr0.step hb'
  clear hb' hz p0 p1 p2 r0 r1 r2
  have hz : w5.heap.size = Z + 9 := hz'
  clear hz'
  walk_nrm
  simp only [Nat.add_assoc, Nat.reduceAdd]
  co_apply Goes.step rfl
  intro _ h₁
  obtain ⟨_, rfl⟩ := h₁
  refine goes_oper_k rfl rfl (by decide) (fun K1 hK1 => ?_)
  go_simp
  try (unfold stored; go_simp)
  refine hK1 _ _ ⟨?_, ?_⟩
  · intro e he
    have hm := mem_listed he
    simp [go_sem, *] at hm
    try (rcases hm with rfl | rfl | rfl <;> exact evP _ _ (by first | assumption | exact nz4 | exact nz9 | exact nz10 | exact nz11))
    try (subst hm; exact evP _ _ (by first | assumption | exact nz4 | exact nz9 | exact nz10 | exact nz11))
  clear hK1 K1
  try walk_nrm
  co_apply Goes.step rfl
  intro _ h₁
  obtain ⟨_, rfl⟩ := h₁
  refine goes_oper_k rfl rfl (by decide) (fun K1 hK1 => ?_)
  go_simp
  try (unfold stored; go_simp)
  refine hK1 _ _ ⟨?_, ?_⟩
  · intro e he
    have hm := mem_listed he
    simp [go_sem, *] at hm
    try (rcases hm with rfl | rfl | rfl <;> exact evP _ _ (by first | assumption | exact nz4 | exact nz9 | exact nz10 | exact nz11))
    try (subst hm; exact evP _ _ (by first | assumption | exact nz4 | exact nz9 | exact nz10 | exact nz11))
  clear hK1 K1
  try walk_nrm
  co_apply Goes.step rfl
  intro _ h₁
  obtain ⟨_, rfl⟩ := h₁
  rw [stepG_region_end]
  simp only [goes_go]
  refine ⟨fun e he => by simp at he, ?_⟩
  obtain ⟨w6, hw4⟩ : ∃ w4, w4 = w5.alloc (.cells #[.slice (some ⟨Z + 8, 0, none⟩) L.length L.length, .int .i64 g, .int .i64 u] 30) := ⟨_, rfl⟩
  have hB4 : Below w5.heap.size w5 w6 := by rw [hw4]; exact balloc (Below.refl _ _) _
  have hX1 : RowF w6 (Z + 9) [.slice (some ⟨Z + 8, 0, none⟩) L.length L.length, .int .i64 g, .int .i64 u] := by rw [hw4, ← hz]; exact rowF_new w5 _ _
  have hz4 : w6.heap.size = Z + 10 := by rw [hw4]; simp [hz]
  rw [← hw4]
  clear hw4 hz
  have hz6 : w6.heap.size = Z + 10 := hz4
  clear hz4
  replace hF := hF.call hB4
  replace hX0 := hX0.call hB4
  replace hr0 := hr0.call hB4
  replace hr1 := hr1.call hB4
  clear hB4
  have ⟨p0, p1, p2, r0, r1, r2⟩ := hF.cells
  have x0 := (hX0.2 0 (by simp)).1
  have x1 := (hX0.2 1 (by simp)).1
  have x2 := (hX0.2 2 (by simp)).1
  have z0 := (hX1.2 0 (by simp)).1
  have z1 := (hX1.2 1 (by simp)).1
  have z2 := (hX1.2 2 (by simp)).1
  simp only [List.getElem_cons_zero, List.getElem_cons_succ] at x0 x1 x2 z0 z1 z2
  co_apply Goes.step rfl
  intro _ h₁
  obtain ⟨_, rfl⟩ := h₁
  rw [stepG_seq]
  simp only [goes_go]
  refine ⟨fun e he => by simp at he, ?_⟩
  co_apply Goes.step rfl
  intro _ h₁
  obtain ⟨_, rfl⟩ := h₁
  rw [stepG_region]
  simp only [goes_go, List.size_toArray, List.length_cons, List.length_nil, Nat.reduceAdd, Nat.zero_add, List.range, List.range.loop]
  refine ⟨fun e he => by simp at he, ?_⟩
  co_apply Goes.step rfl
  intro _ h₁
  obtain ⟨_, rfl⟩ := h₁
  refine goes_oper_k rfl rfl (by decide) (fun K1 hK1 => ?_)
  go_simp
  try (unfold stored; go_simp)
  refine hK1 _ _ ⟨?_, ?_⟩
  · intro e he
    have hm := mem_listed he
    simp [go_sem, *] at hm
    try (rcases hm with rfl | rfl | rfl <;> exact evP _ _ (by first | assumption | exact nz4 | exact nz9 | exact nz10 | exact nz11))
    try (subst hm; exact evP _ _ (by first | assumption | exact nz4 | exact nz9 | exact nz10 | exact nz11))
  clear hK1 K1
  try walk_nrm
  co_apply Goes.step rfl
  intro _ h₁
  obtain ⟨_, rfl⟩ := h₁
  refine goes_oper_k rfl rfl (by decide) (fun K1 hK1 => ?_)
  go_simp
  try (unfold stored; go_simp)
  refine hK1 _ _ ⟨?_, ?_⟩
  · intro e he
    have hm := mem_listed he
    simp [go_sem, *] at hm
    try (rcases hm with rfl | rfl | rfl <;> exact evP _ _ (by first | assumption | exact nz4 | exact nz9 | exact nz10 | exact nz11))
    try (subst hm; exact evP _ _ (by first | assumption | exact nz4 | exact nz9 | exact nz10 | exact nz11))
  clear hK1 K1
  try walk_nrm
  co_apply Goes.step rfl
  intro _ h₁
  obtain ⟨_, rfl⟩ := h₁
  refine goes_call rfl rfl (by decide) rfl Try.func13 (by rfl) rfl ⟨fun e he => by simp at he, ?_⟩
  walk_nrmf Try.f13
  co_apply Goes.step rfl
  intro _ h₁
  obtain ⟨_, rfl⟩ := h₁
  rw [stepG_seq]
  simp only [goes_go]
  refine ⟨fun e he => by simp at he, ?_⟩
  co_apply Goes.step rfl
  intro _ h₁
  obtain ⟨_, rfl⟩ := h₁
  rw [stepG_region]
  simp only [goes_go, List.size_toArray, List.length_cons, List.length_nil, Nat.reduceAdd, Nat.zero_add, List.range, List.range.loop]
  refine ⟨fun e he => by simp at he, ?_⟩
  co_apply Goes.step rfl
  intro _ h₁
  obtain ⟨_, rfl⟩ := h₁
  refine goes_oper_k rfl rfl (by decide) (fun K1 hK1 => ?_)
  go_simp
  try (unfold stored; go_simp)
  refine hK1 _ _ ⟨?_, ?_⟩
  · intro e he
    have hm := mem_listed he
    simp [go_sem, *] at hm
    try (rcases hm with rfl | rfl | rfl <;> exact evP _ _ (by first | assumption | exact nz4 | exact nz9 | exact nz10 | exact nz11))
    try (subst hm; exact evP _ _ (by first | assumption | exact nz4 | exact nz9 | exact nz10 | exact nz11))
  clear hK1 K1
  try walk_nrm
  co_apply Goes.step rfl
  intro _ h₁
  obtain ⟨_, rfl⟩ := h₁
  refine goes_oper_k rfl rfl (by decide) (fun K1 hK1 => ?_)
  go_simp
  try (unfold stored; go_simp)
  refine hK1 _ _ ⟨?_, ?_⟩
  · intro e he
    have hm := mem_listed he
    simp [go_sem, *] at hm
    try (rcases hm with rfl | rfl | rfl <;> exact evP _ _ (by first | assumption | exact nz4 | exact nz9 | exact nz10 | exact nz11))
    try (subst hm; exact evP _ _ (by first | assumption | exact nz4 | exact nz9 | exact nz10 | exact nz11))
  clear hK1 K1
  try walk_nrm
  co_apply Goes.step rfl
  intro _ h₁
  obtain ⟨_, rfl⟩ := h₁
  refine goes_oper_k rfl rfl (by decide) (fun K1 hK1 => ?_)
  go_simp
  try (unfold stored; go_simp)
  refine hK1 _ _ ⟨?_, ?_⟩
  · intro e he
    have hm := mem_listed he
    simp [go_sem, *] at hm
    try (rcases hm with rfl | rfl | rfl <;> exact evP _ _ (by first | assumption | exact nz4 | exact nz9 | exact nz10 | exact nz11))
    try (subst hm; exact evP _ _ (by first | assumption | exact nz4 | exact nz9 | exact nz10 | exact nz11))
  clear hK1 K1
  try walk_nrm
  co_apply Goes.step rfl
  intro _ h₁
  obtain ⟨_, rfl⟩ := h₁
  rw [stepG_region_end]
  simp only [goes_go]
  refine ⟨fun e he => by simp at he, ?_⟩
  clear x0 x1 x2 z0 z1 z2 p0 p1 p2 r0 r1 r2
  obtain ⟨w7, hw7⟩ : ∃ w7, w7 = (w6.alloc (.cells #[.slice (some ⟨Z + 3, 0, none⟩) K.length K.length, .int .i64 f, .int .i64 s] 30)).alloc (.cells #[.slice (some ⟨Z + 8, 0, none⟩) L.length L.length, .int .i64 g, .int .i64 u] 30) := ⟨_, rfl⟩
  have hB7 : Below w6.heap.size w6 w7 := by rw [hw7]; exact balloc (balloc (Below.refl _ _) _) _
  have hP2 : RowF w7 (Z + 10) [.slice (some ⟨Z + 3, 0, none⟩) K.length K.length, .int .i64 f, .int .i64 s] := by rw [hw7, ← hz6]; exact rowF_alloc (rowF_new w6 _ _) _
  have hP3 : RowF w7 (Z + 11) [.slice (some ⟨Z + 8, 0, none⟩) L.length L.length, .int .i64 g, .int .i64 u] := by
    have := rowF_new (w6.alloc (.cells #[.slice (some ⟨Z + 3, 0, none⟩) K.length K.length, .int .i64 f, .int .i64 s] 30)) [.slice (some ⟨Z + 8, 0, none⟩) L.length L.length, .int .i64 g, .int .i64 u] 30
    rw [World.size_alloc, hz6] at this
    rw [hw7]
    exact this
  have hz7 : w7.heap.size = Z + 12 := by rw [hw7]; simp [hz6]
  rw [← hw7]
  clear hw7
  replace hF := hF.call hB7
  replace hX0 := hX0.call hB7
  replace hX1 := hX1.call hB7
  replace hr0 := hr0.call hB7
  replace hr1 := hr1.call hB7
  clear hB7 hz6
  have x0 := (hP2.2 0 (by simp)).1
  have x1 := (hP2.2 1 (by simp)).1
  have x2 := (hP2.2 2 (by simp)).1
  have z0 := (hP3.2 0 (by simp)).1
  have z1 := (hP3.2 1 (by simp)).1
  have z2 := (hP3.2 2 (by simp)).1
  simp only [List.getElem_cons_zero, List.getElem_cons_succ] at x0 x1 x2 z0 z1 z2
  co_apply Goes.step rfl
  intro _ h₁
  obtain ⟨_, rfl⟩ := h₁
  rw [stepG_seq]
  simp only [goes_go]
  refine ⟨fun e he => by simp at he, ?_⟩
  co_apply Goes.step rfl
  intro _ h₁
  obtain ⟨_, rfl⟩ := h₁
  rw [stepG_region]
  simp only [goes_go, List.size_toArray, List.length_cons, List.length_nil, Nat.reduceAdd, Nat.zero_add, List.range, List.range.loop]
  refine ⟨fun e he => by simp at he, ?_⟩
  co_apply Goes.step rfl
  intro _ h₁
  obtain ⟨_, rfl⟩ := h₁
  refine goes_oper_k rfl rfl (by decide) (fun K1 hK1 => ?_)
  go_simp
  try (unfold stored; go_simp)
  refine hK1 _ _ ⟨?_, ?_⟩
  · intro e he
    have hm := mem_listed he
    simp [go_sem, *] at hm
    try (rcases hm with rfl | rfl | rfl <;> exact evP _ _ (by first | assumption | exact nz4 | exact nz9 | exact nz10 | exact nz11))
    try (subst hm; exact evP _ _ (by first | assumption | exact nz4 | exact nz9 | exact nz10 | exact nz11))
  clear hK1 K1
  try walk_nrm
  co_apply Goes.step rfl
  intro _ h₁
  obtain ⟨_, rfl⟩ := h₁
  refine goes_oper_k rfl rfl (by decide) (fun K1 hK1 => ?_)
  go_simp
  try (unfold stored; go_simp)
  refine hK1 _ _ ⟨?_, ?_⟩
  · intro e he
    have hm := mem_listed he
    simp [go_sem, *] at hm
    try (rcases hm with rfl | rfl | rfl <;> exact evP _ _ (by first | assumption | exact nz4 | exact nz9 | exact nz10 | exact nz11))
    try (subst hm; exact evP _ _ (by first | assumption | exact nz4 | exact nz9 | exact nz10 | exact nz11))
  clear hK1 K1
  try walk_nrm
  co_apply Goes.step rfl
  intro _ h₁
  obtain ⟨_, rfl⟩ := h₁
  refine goes_call rfl rfl (by decide) rfl Try.func18 (by rfl) rfl ⟨fun e he => by simp at he, ?_⟩
  walk_nrmf Try.f18
  clear x0 x1 x2 z0 z1 z2
  refine Goes.stop (n := 0) (fun _ h₁ => ?_)
  obtain ⟨_, rfl⟩ := h₁
  refine ⟨_, _, Z + 3, Z + 8, hK1, hL1, rfl, hr0, hr1, ?_, ⟨hF.bel.os, hF.bel.tape, hF.bel.output, hF.bel.size, hF.bel.block⟩, ?_⟩
  · have e : Z = W.heap.size + 12 + alikeN f g := hZ.out
    refine Eq.trans (show _ = w7.heap.size from rfl) ?_
    rw [hz7]
    omega
  intro Bad' X hB1 hB2 hbel
  have hbl : Below w7.heap.size w7 X := ⟨hbel.os, hbel.tape, hbel.output, hbel.size, hbel.block⟩
  clear hbel
  replace hF := hF.call hbl
  replace hX0 := hX0.call hbl
  replace hX1 := hX1.call hbl
  replace hr0 := hr0.call hbl
  replace hr1 := hr1.call hbl
  replace hP2 := hP2.call hbl
  replace hP3 := hP3.call hbl
  have lz : ∀ i, i < 12 → ¬ Bad' (Z + i) := fun i hi => hB1 _ (by show Z + i < w7.heap.size; omega)
  have lw : ∀ b, b < W.heap.size + 2 → ¬ Bad' b := fun b hb => hB1 _ (by have : Z = W.heap.size + 12 + alikeN f g := hZ.out; show b < w7.heap.size; omega)
  have m0 : ¬ Bad' X.heap.size := hB2 0 (by omega)
  have m1 : ¬ Bad' (X.heap.size + 1) := hB2 1 (by omega)
  obtain ⟨nT, HT⟩ := alikeTail Bad' (Z + 10) (Z + 11) X.heap.size (X.heap.size + 1) (endB f) (begB K L) (endB g) (begB L K) f g (lz 10 (by omega)) (lz 11 (by omega)) m0 m1
  obtain ⟨nL, HL⟩ := lawTail Bad' W K L a0 a1 cap0 cap1 f s g u (alikeB K f L g) (Z + 4) (Z + 3) (Z + 9) (Z + 8) (X.heap.size + 2) hK1 hL1 (fun sb off e => lw sb (by have := hlt0 sb off e; omega)) (fun sb off e => lw sb (by have := hlt1 sb off e; omega)) h0 h1 (lw _ (by omega)) (lw _ (by omega)) (lz 4 (by omega)) (lz 3 (by omega)) (lz 9 (by omega)) (lz 8 (by omega)) (fun i hi => by rw [Nat.add_assoc]; exact hB2 (2 + i) (by omega))
  clear hA hB H8 hnb hnz nz4 nz9 nz10 nz11 hbl hz7 lz lw TP
  have TP := termsP Bad'
  have E3 := fun w es a m (x : Bool) => events_store Try.prog w es a (.bool x) m rfl
  co_apply Exists.intro
  rw [Frame.finish_at]
  walk_nrm
  co_apply Goes.step rfl
  intro _ h₁
  obtain ⟨_, rfl⟩ := h₁
  refine goes_oper_k rfl rfl (by decide) (fun K1 hK1 => ?_)
  go_simp
  try (unfold stored; go_simp)
  refine hK1 _ _ ⟨?_, ?_⟩
  · intro e he
    have hm := mem_listed he
    simp [go_sem, *] at hm
    try (rcases hm with rfl | rfl | rfl <;> exact evP _ _ (by first | exact m0 | exact m1))
    try (subst hm; exact evP _ _ (by first | exact m0 | exact m1))
  clear hK1 K1
  try walk_nrm
  co_apply Goes.step rfl
  intro _ h₁
  obtain ⟨_, rfl⟩ := h₁
  refine goes_oper_k rfl rfl (by decide) (fun K1 hK1 => ?_)
  go_simp
  try (unfold stored; go_simp)
  refine hK1 _ _ ⟨?_, ?_⟩
  · intro e he
    have hm := mem_listed he
    simp [go_sem, *] at hm
    try (rcases hm with rfl | rfl | rfl <;> exact evP _ _ (by first | exact m0 | exact m1))
    try (subst hm; exact evP _ _ (by first | exact m0 | exact m1))
  clear hK1 K1
  try walk_nrm
  co_apply Goes.step rfl
  intro _ h₁
  obtain ⟨_, rfl⟩ := h₁
  refine goes_oper_k rfl rfl (by decide) (fun K1 hK1 => ?_)
  go_simp
  try (unfold stored; go_simp)
  refine hK1 _ _ ⟨?_, ?_⟩
  · intro e he
    have hm := mem_listed he
    simp [go_sem, *] at hm
    try (rcases hm with rfl | rfl | rfl <;> exact evP _ _ (by first | exact m0 | exact m1))
    try (subst hm; exact evP _ _ (by first | exact m0 | exact m1))
  clear hK1 K1
  try walk_nrm
  co_apply Goes.step rfl
  intro _ h₁
  obtain ⟨_, rfl⟩ := h₁
  refine goes_oper_k rfl rfl (by decide) (fun K1 hK1 => ?_)
  go_simp
  try (unfold stored; go_simp)
  refine hK1 _ _ ⟨?_, ?_⟩
  · intro e he
    have hm := mem_listed he
    simp [go_sem, *] at hm
    try (rcases hm with rfl | rfl | rfl <;> exact evP _ _ (by first | exact m0 | exact m1))
    try (subst hm; exact evP _ _ (by first | exact m0 | exact m1))
  clear hK1 K1
  try walk_nrm
  co_apply Goes.step rfl
  intro _ h₁
  obtain ⟨_, rfl⟩ := h₁
  refine goes_oper_k rfl rfl (by decide) (fun K1 hK1 => ?_)
  go_simp
  try (unfold stored; go_simp)
  refine hK1 _ _ ⟨?_, ?_⟩
  · intro e he
    have hm := mem_listed he
    simp [go_sem, *] at hm
    try (rcases hm with rfl | rfl | rfl <;> exact evP _ _ (by first | exact m0 | exact m1))
    try (subst hm; exact evP _ _ (by first | exact m0 | exact m1))
  clear hK1 K1
  try walk_nrm
  co_apply Goes.step rfl
  intro _ h₁
  obtain ⟨_, rfl⟩ := h₁
  refine goes_oper_k rfl rfl (by decide) (fun K1 hK1 => ?_)
  go_simp
  try (unfold stored; go_simp)
  refine hK1 _ _ ⟨?_, ?_⟩
  · intro e he
    have hm := mem_listed he
    simp [go_sem, *] at hm
    try (rcases hm with rfl | rfl | rfl <;> exact evP _ _ (by first | exact m0 | exact m1))
    try (subst hm; exact evP _ _ (by first | exact m0 | exact m1))
  clear hK1 K1
  try walk_nrm
  co_apply Goes.step rfl
  intro _ h₁
  obtain ⟨_, rfl⟩ := h₁
  refine goes_oper_k rfl rfl (by decide) (fun K1 hK1 => ?_)
  go_simp
  try (unfold stored; go_simp)
  refine hK1 _ _ ⟨?_, ?_⟩
  · intro e he
    have hm := mem_listed he
    simp [go_sem, *] at hm
    try (rcases hm with rfl | rfl | rfl <;> exact evP _ _ (by first | exact m0 | exact m1))
    try (subst hm; exact evP _ _ (by first | exact m0 | exact m1))
  clear hK1 K1
  try walk_nrm
  co_apply Goes.step rfl
  intro _ h₁
  obtain ⟨_, rfl⟩ := h₁
  rw [stepG_region_end]
  simp only [goes_go]
  refine ⟨fun e he => by simp at he, ?_⟩
  obtain ⟨U, hU⟩ : ∃ U, U = (X.alloc (.cells #[.bool false, .bool (endB f), .bool (begB K L)] 35)).alloc (.cells #[.bool true, .bool (endB g), .bool (begB L K)] 35) := ⟨_, rfl⟩
  have hBU : Below X.heap.size X U := by rw [hU]; exact balloc (balloc (Below.refl _ _) _) _
  have hSA : RowF U X.heap.size [.bool false, .bool (endB f), .bool (begB K L)] := by rw [hU]; exact rowF_alloc (rowF_new X _ _) _
  have hSB : RowF U (X.heap.size + 1) [.bool true, .bool (endB g), .bool (begB L K)] := by
    have := rowF_new (X.alloc (.cells #[.bool false, .bool (endB f), .bool (begB K L)] 35)) [.bool true, .bool (endB g), .bool (begB L K)] 35
    rw [World.size_alloc] at this
    rw [hU]
    exact this
  have hzU : U.heap.size = X.heap.size + 2 := by rw [hU]; simp
  rw [← hU]
  clear hU
  replace hF := hF.call hBU
  replace hX0 := hX0.call hBU
  replace hX1 := hX1.call hBU
  replace hr0 := hr0.call hBU
  replace hr1 := hr1.call hBU
  replace hP2 := hP2.call hBU
  replace hP3 := hP3.call hBU
  co_apply wpC_goes (HT _ _ _ _ _ _ _ _ _ _ _ _ _ _ _ _ _ _ _ _ _ _ _ _ _ _ _ _ _ _ _ _ _ _ _ _ _ _ _ _ _ _ _ _ _ _ (by exact (hSA.2 1 (by simp)).1) (by exact (hSA.2 2 (by simp)).1) (by exact (hSB.2 1 (by simp)).1) (by exact (hSB.2 2 (by simp)).1) (by exact (hP2.2 1 (by simp)).1) (by exact (hP3.2 1 (by simp)).1)) rfl (by decide)
  rintro e a' w8 ⟨rfl, hd, ⟨v, hr, rfl⟩, d8, rfl⟩
  intro todo
  co_apply Goes.step rfl
  intro _ h₁
  obtain ⟨_, rfl⟩ := h₁
  rw [stepG_leaveM rfl hd Try.func13 (hr _).1]
  simp only [goes_go]
  refine ⟨?_, ?_⟩
  · intro e he
    have hm := mem_seen he
    rw [(hr _).2] at hm
    simp at hm
  rw [Frame.finish_at, says_alike]
  walk_nrm
  co_apply Goes.step rfl
  intro _ h₁
  obtain ⟨_, rfl⟩ := h₁
  refine goes_oper_k rfl rfl (by decide) (fun K1 hK1 => ?_)
  go_simp
  try (unfold stored; go_simp)
  refine hK1 _ _ ⟨?_, ?_⟩
  · intro e he
    have hm := mem_listed he
    simp [go_sem, *] at hm
    try (rcases hm with rfl | rfl | rfl <;> exact evP _ _ (by first | exact m0 | exact m1))
    try (subst hm; exact evP _ _ (by first | exact m0 | exact m1))
  clear hK1 K1
  try walk_nrm
  co_apply Goes.step rfl
  intro _ h₁
  obtain ⟨_, rfl⟩ := h₁
  rw [stepG_region_end]
  simp only [goes_go]
  refine ⟨fun e he => by simp at he, ?_⟩
  co_apply wpC_goes (HL _ _ _ _ _ _ _ _ _ _ _ _ _ _ _ _ _ _ _ _ _ _ _ _ _ _ _ _ _ _ _ _ _ _ _ _ _ _ _ _ (by exact ⟨⟨hF.bel.os, hF.bel.tape, hF.bel.output, hF.bel.size, hF.bel.block⟩, hF.bx, hF.bY⟩) (by exact hX0) (by exact hr0) (by exact hX1) (by exact hr1) (by exact hzU)) rfl (by decide)
  rintro e a' w9 q
  obtain rfl := q.1
  intro todo
  refine Goes.stop (n := 0) (fun _ h₁ => ?_)
  obtain ⟨_, rfl⟩ := h₁
  exact atEnd1_of (e := .ret) ⟨rfl, q.2.1, q.2.2.1, below_at q.2.2.2⟩
end

end Go.Proofs.Ytnndfgceehfiiaa
