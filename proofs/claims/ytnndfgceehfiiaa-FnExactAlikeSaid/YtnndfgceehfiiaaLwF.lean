/-
  The law of Alike: from its entry to the copies. (tools/genlwf.py)
-/
import Derived.Test.YtnndfgceehfiiaaLwE
namespace Go.Proofs.Ytnndfgceehfiiaa
open Go.Conc Go.RowKit

/-- The outermost function returns. -/
theorem stepG_done {P : Program} {b : Frame} {a : Act} {w : World} {fn : Func} {todo : List Item} {v : Value} (hn : b.kind = .normal) (hd : a.defers = []) (hf : P.funcs[b.fn]? = some fn) (hi : P.inits.idxOf? b.fn = none) (hr : ResultsC P fn a.tmps v) :
    stepG P true (G { b.at a todo with mode := .returning } []) w = .ended (.done v) w #[] := by
  simp [G, stepG, unwind, doReturn, Frame.at, hn, hd, hf, hi, (hr w).1, (hr w).2, GStep.after, seen]

/-- It stands at its end: the law says true, what came in stays. -/
def AtEnd1 (W : World) (g' : Goroutine) (w' : World) : Prop := Below W.heap.size W w' ∧ ∀ d, g'.status = .running ∧ stepG Try.prog true g' (w'.at d) = .ended (.done (.bool true)) (w'.at d) #[]
theorem atEnd1_of {W w' : World} {a : Act} {todo : List Item} {e : Exit} (h : QT W e a w') : AtEnd1 W (G { (base 4).at a todo with mode := .returning } []) w' := by
  obtain ⟨_, hd, ⟨v, hr, rfl⟩, hb⟩ := h
  exact ⟨hb, fun d => ⟨rfl, stepG_done rfl hd Try.func4 (by kernel_rfl) hr⟩⟩

section
variable (Bad : Nat → Prop) (W : World) (K L : List ByteArray) (a0 a1 : Option Addr) (cap0 cap1 : Nat) (f s g u : Int)
set_option maxRecDepth 100000 in
set_option maxHeartbeats 4000000 in
/-- From its entry to region 8, or to its end. -/
theorem lawPre {Stop : Goroutine → World → Prop} {m : Nat} (hb0 : Nb Bad a0) (hb1 : Nb Bad a1) (h0 : ArgT W a0 K) (h1 : ArgT W a1 L) (hm0 : K.length ≤ maxLen) (hm1 : L.length ≤ maxLen) (hnb : ∀ b, b < W.heap.size + 4 → ¬ Bad b)
    (hE : ∀ g' w', AtEnd1 W g' w' → Stop g' w')
    (hK : K.length ≤ 1048576 → L.length ≤ 1048576 → ∀ w' v0 v1 v4 v5 v6 v7 v8 v9 v10 v11 v12 v13 v14 v15 v16 v17 v18 v19 v20 v21 v22 v23 v24 v25 v26 v27 v28 v29 v30 v31 v32 v33 v34 v35 v36 v37 v38 v39 v40 v41 v42 v43 v44, LawF W K L a0 cap0 f s a1 cap1 g u w' → w'.heap.size = W.heap.size + 4 → Goes Try.prog true AtRel (DE (EvP Bad)) Stop m (G ((base 4).at ⟨#[v0, v1, .pointer (some ⟨W.heap.size, 0, none⟩), .pointer (some ⟨W.heap.size + 1, 0, none⟩), v4, v5, v6, v7, v8, v9, v10, v11, v12, v13, v14, v15, v16, v17, v18, v19, v20, v21, v22, v23, v24, v25, v26, v27, v28, v29, v30, v31, v32, v33, v34, v35, v36, v37, v38, v39, v40, v41, v42, v43, v44], []⟩ [.code lawC8]) []) w') :
    ∃ n, Goes Try.prog true AtRel (DE (EvP Bad)) Stop n (G ((base 4).at ⟨#[.agg #[.slice a0 K.length cap0, .int .i64 f, .int .i64 s], .agg #[.slice a1 L.length cap1, .int .i64 g, .int .i64 u], undef, undef, undef, undef, undef, undef, undef, undef, undef, undef, undef, undef, undef, undef, undef, undef, undef, undef, undef, undef, undef, undef, undef, undef, undef, undef, undef, undef, undef, undef, undef, undef, undef, undef, undef, undef, undef, undef, undef, undef, undef, undef, undef], []⟩ [.code lawB]) []) W := by
  have A1 := at_cell
  have A2 := at_frozen
  have A3 := at_size
  have A4 := at_at
  have A5 := at_alloc
  have A6 := at_set
  have TP := termsP Bad
  have nx0 : ¬ Bad W.heap.size := hnb _ (by omega)
  have nx1 : ¬ Bad (W.heap.size + 1) := hnb _ (by omega)
  obtain ⟨nA, hA⟩ := szShow_c Bad K hm0 a0 cap0 hb0 f s
  obtain ⟨nB, hB⟩ := szShow_c Bad L hm1 a1 cap1 hb1 g u
  simp only [lawB, Try.f4, Option.getD_some]
  co_apply Exists.intro
  co_apply Goes.step rfl
  intro _ h₁
  obtain ⟨_, rfl⟩ := h₁
  rw [stepG_seq]
  simp only [goes_go]
  refine ⟨fun e he => by simp at he, ?_⟩
  co_apply Goes.step rfl
  intro _ h₁
  obtain ⟨_, rfl⟩ := h₁
  rw [stepG_region]
  simp only [goes_go, List.size_toArray, List.length_cons, List.length_nil, Nat.reduceAdd, Nat.zero_add, List.range, List.range.loop]
  refine ⟨fun e he => by simp at he, ?_⟩
  co_apply Goes.step rfl
  intro _ h₁
  obtain ⟨_, rfl⟩ := h₁
  refine goes_oper_k rfl rfl (by decide) (fun K1 hK1 => ?_)
  go_simp
  try (unfold stored; go_simp)
  refine hK1 _ _ ⟨?_, ?_⟩
  · intro e he
    have hm := mem_listed he
    simp [go_sem, *] at hm
    try (rcases hm with rfl | rfl | rfl <;> exact evP _ _ (by assumption))
    try (subst hm; exact evP _ _ (by assumption))
  clear hK1 K1
  try walk_nrm
  co_apply Goes.step rfl
  intro _ h₁
  obtain ⟨_, rfl⟩ := h₁
  refine goes_oper_k rfl rfl (by decide) (fun K1 hK1 => ?_)
  go_simp
  try (unfold stored; go_simp)
  refine hK1 _ _ ⟨?_, ?_⟩
  · intro e he
    have hm := mem_listed he
    simp [go_sem, *] at hm
    try (rcases hm with rfl | rfl | rfl <;> exact evP _ _ (by assumption))
    try (subst hm; exact evP _ _ (by assumption))
  clear hK1 K1
  try walk_nrm
  co_apply Goes.step rfl
  intro _ h₁
  obtain ⟨_, rfl⟩ := h₁
  refine goes_oper_k rfl rfl (by decide) (fun K1 hK1 => ?_)
  go_simp
  try (unfold stored; go_simp)
  refine hK1 _ _ ⟨?_, ?_⟩
  · intro e he
    have hm := mem_listed he
    simp [go_sem, *] at hm
    try (rcases hm with rfl | rfl | rfl <;> exact evP _ _ (by assumption))
    try (subst hm; exact evP _ _ (by assumption))
  clear hK1 K1
  try walk_nrm
  co_apply Goes.step rfl
  intro _ h₁
  obtain ⟨_, rfl⟩ := h₁
  rw [stepG_region_end]
  simp only [goes_go]
  refine ⟨fun e he => by simp at he, ?_⟩
  co_apply Goes.step rfl
  intro _ h₁
  obtain ⟨_, rfl⟩ := h₁
  rw [stepG_seq]
  simp only [goes_go]
  refine ⟨fun e he => by simp at he, ?_⟩
  co_apply Goes.step rfl
  intro _ h₁
  obtain ⟨_, rfl⟩ := h₁
  rw [stepG_region]
  simp only [goes_go, List.size_toArray, List.length_cons, List.length_nil, Nat.zero_add, List.range, List.range.loop]
  refine ⟨fun e he => by simp at he, ?_⟩
  co_apply Goes.step rfl
  intro _ h₁
  obtain ⟨_, rfl⟩ := h₁
  refine goes_oper_k rfl rfl (by decide) (fun K1 hK1 => ?_)
  go_simp
  try (unfold stored; go_simp)
  refine hK1 _ _ ⟨?_, ?_⟩
  · intro e he
    have hm := mem_listed he
    simp [go_sem, *] at hm
    try (rcases hm with rfl | rfl | rfl <;> exact evP _ _ (by assumption))
    try (subst hm; exact evP _ _ (by assumption))
  clear hK1 K1
  try walk_nrm
  co_apply Goes.step rfl
  intro _ h₁
  obtain ⟨_, rfl⟩ := h₁
  rw [stepG_region_end]
  simp only [goes_go]
  refine ⟨fun e he => by simp at he, ?_⟩
  obtain ⟨w1, hw1⟩ : ∃ w1, w1 = (W.alloc (.cells #[.slice a0 K.length cap0, .int .i64 f, .int .i64 s] 27)).alloc (.cells #[.slice a1 L.length cap1, .int .i64 g, .int .i64 u] 27) := ⟨_, rfl⟩
  have hF : LawF W K L a0 cap0 f s a1 cap1 g u w1 := by
    rw [hw1]
    refine ⟨balloc (balloc (Below.refl _ _) _) _, rowF_alloc (rowF_new W _ _) _, ?_⟩
    simpa using rowF_new (W.alloc (.cells #[.slice a0 K.length cap0, .int .i64 f, .int .i64 s] 27)) [.slice a1 L.length cap1, .int .i64 g, .int .i64 u] 27
  have hz : w1.heap.size = W.heap.size + 2 := by rw [hw1]; simp
  rw [← hw1]
  clear hw1
  have ⟨p0, p1, p2, r0, r1, r2⟩ := hF.cells
  co_apply Goes.step rfl
  intro _ h₁
  obtain ⟨_, rfl⟩ := h₁
  rw [stepG_seq]
  simp only [goes_go]
  refine ⟨fun e he => by simp at he, ?_⟩
  co_apply Goes.step rfl
  intro _ h₁
  obtain ⟨_, rfl⟩ := h₁
  rw [stepG_region]
  simp only [goes_go, List.size_toArray, List.length_cons, List.length_nil, Nat.reduceAdd, Nat.zero_add, List.range, List.range.loop]
  refine ⟨fun e he => by simp at he, ?_⟩
  co_apply Goes.step rfl
  intro _ h₁
  obtain ⟨_, rfl⟩ := h₁
  refine goes_oper_k rfl rfl (by decide) (fun K1 hK1 => ?_)
  go_simp
  try (unfold stored; go_simp)
  refine hK1 _ _ ⟨?_, ?_⟩
  · intro e he
    have hm := mem_listed he
    simp [go_sem, *] at hm
    try (rcases hm with rfl | rfl | rfl <;> exact evP _ _ (by assumption))
    try (subst hm; exact evP _ _ (by assumption))
  clear hK1 K1
  try walk_nrm
  co_apply Goes.step rfl
  intro _ h₁
  obtain ⟨_, rfl⟩ := h₁
  refine goes_oper_k rfl rfl (by decide) (fun K1 hK1 => ?_)
  go_simp
  try (unfold stored; go_simp)
  refine hK1 _ _ ⟨?_, ?_⟩
  · intro e he
    have hm := mem_listed he
    simp [go_sem, *] at hm
    try (rcases hm with rfl | rfl | rfl <;> exact evP _ _ (by assumption))
    try (subst hm; exact evP _ _ (by assumption))
  clear hK1 K1
  try walk_nrm
  co_apply Goes.call TP rfl rfl (by decide) rfl
  · walk_nrm
    exact hA _ _ (by rw [at_size, hz]; exact hnb _ (by omega)) (by decide) (by decide) (h0.call (below_at hF.bel))
  rintro v w2 ⟨x, rfl, hx1, hx2, hb2, hz2⟩
  rw [at_size, hz] at hz2
  replace hF := hF.step hb2
  clear hb2 hz p0 p1 p2 r0 r1 r2
  have ⟨p0, p1, p2, r0, r1, r2⟩ := hF.cells
  walk_nrm
  co_apply Goes.step rfl
  intro _ h₁
  obtain ⟨_, rfl⟩ := h₁
  refine goes_oper_k rfl rfl (by decide) (fun K1 hK1 => ?_)
  go_simp
  try (unfold stored; go_simp)
  refine hK1 _ _ ⟨?_, ?_⟩
  · intro e he
    have hm := mem_listed he
    simp [go_sem, *] at hm
    try (rcases hm with rfl | rfl | rfl <;> exact evP _ _ (by assumption))
    try (subst hm; exact evP _ _ (by assumption))
  clear hK1 K1
  try walk_nrm
  co_apply Goes.step rfl
  intro _ h₁
  obtain ⟨_, rfl⟩ := h₁
  rw [stepG_region_end]
  simp only [goes_go]
  refine ⟨fun e he => by simp at he, ?_⟩
  co_apply Goes.step rfl
  intro _ h₁
  obtain ⟨_, rfl⟩ := h₁
  rw [stepG_seq]
  simp only [goes_go]
  refine ⟨fun e he => by simp at he, ?_⟩
  co_apply Goes.step rfl
  intro _ h₁
  obtain ⟨_, rfl⟩ := h₁
  rw [stepG_seq]
  simp only [goes_go]
  refine ⟨fun e he => by simp at he, ?_⟩
  co_apply Goes.step rfl
  intro _ h₁
  obtain ⟨_, rfl⟩ := h₁
  rw [stepG_region]
  simp only [goes_go, List.size_toArray, List.length_cons, List.length_nil, Nat.reduceAdd, Nat.zero_add, List.range, List.range.loop]
  refine ⟨fun e he => by simp at he, ?_⟩
  co_apply Goes.step rfl
  intro _ h₁
  obtain ⟨_, rfl⟩ := h₁
  refine goes_oper_k rfl rfl (by decide) (fun K1 hK1 => ?_)
  go_simp
  try (unfold stored; go_simp)
  refine hK1 _ _ ⟨?_, ?_⟩
  · intro e he
    have hm := mem_listed he
    simp [go_sem, *] at hm
    try (rcases hm with rfl | rfl | rfl <;> exact evP _ _ (by assumption))
    try (subst hm; exact evP _ _ (by assumption))
  clear hK1 K1
  try walk_nrm
  co_apply Goes.step rfl
  intro _ h₁
  obtain ⟨_, rfl⟩ := h₁
  refine goes_oper_k rfl rfl (by decide) (fun K1 hK1 => ?_)
  go_simp
  try (unfold stored; go_simp)
  refine hK1 _ _ ⟨?_, ?_⟩
  · intro e he
    have hm := mem_listed he
    simp [go_sem, *] at hm
    try (rcases hm with rfl | rfl | rfl <;> exact evP _ _ (by assumption))
    try (subst hm; exact evP _ _ (by assumption))
  clear hK1 K1
  try walk_nrm
  co_apply Goes.step rfl
  intro _ h₁
  obtain ⟨_, rfl⟩ := h₁
  rw [stepG_region_end]
  simp only [goes_go]
  refine ⟨fun e he => by simp at he, ?_⟩
  have hx : x < 0 ∨ 0 ≤ x := by omega
  rcases hx with hx | hx
  · have hd : decide (x < 0) = true := decide_eq_true hx
    co_apply Goes.step rfl
    intro _ h₁
    obtain ⟨_, rfl⟩ := h₁
    rw [stepG_cond (t := true) (by first | rfl | simp [Act.eval, *])]
    simp only [goes_go, ↓reduceIte]
    refine ⟨fun e he => by simp at he, ?_⟩
    co_apply Goes.step rfl
    intro _ h₁
    obtain ⟨_, rfl⟩ := h₁
    rw [stepG_seq]
    simp only [goes_go]
    refine ⟨fun e he => by simp at he, ?_⟩
    co_apply Goes.step rfl
    intro _ h₁
    obtain ⟨_, rfl⟩ := h₁
    rw [stepG_region]
    simp only [goes_go, List.size_toArray, List.length_cons, List.length_nil, Nat.zero_add, List.range, List.range.loop]
    refine ⟨fun e he => by simp at he, ?_⟩
    co_apply Goes.step rfl
    intro _ h₁
    obtain ⟨_, rfl⟩ := h₁
    refine goes_oper_k rfl rfl (by decide) (fun K1 hK1 => ?_)
    go_simp
    try (unfold stored; go_simp)
    refine hK1 _ _ ⟨?_, ?_⟩
    · intro e he
      have hm := mem_listed he
      simp [go_sem, *] at hm
      try (rcases hm with rfl | rfl | rfl <;> exact evP _ _ (by assumption))
      try (subst hm; exact evP _ _ (by assumption))
    clear hK1 K1
    try walk_nrm
    co_apply Goes.step rfl
    intro _ h₁
    obtain ⟨_, rfl⟩ := h₁
    rw [stepG_region_end]
    simp only [goes_go]
    refine ⟨fun e he => by simp at he, ?_⟩
    co_apply Goes.step rfl
    intro _ h₁
    obtain ⟨_, rfl⟩ := h₁
    rw [stepG_ret']
    simp only [goes_go]
    refine ⟨fun e he => by simp at he, ?_⟩
    co_apply Goes.stop
    intro _ h₁
    obtain ⟨_, rfl⟩ := h₁
    exact hE _ _ (atEnd1_of ⟨rfl, rfl, ⟨_, resultsC_tmp (by rfl) _, rfl⟩, ⟨hF.bel.os, hF.bel.tape, hF.bel.output, hF.bel.size, hF.bel.block⟩⟩)
  have hd : decide (x < 0) = false := decide_eq_false (by omega)
  have hlK := hx2 hx
  co_apply Goes.step rfl
  intro _ h₁
  obtain ⟨_, rfl⟩ := h₁
  rw [stepG_cond (t := false) (by first | rfl | simp [Act.eval, *])]
  simp only [goes_go, Bool.false_eq_true, ↓reduceIte]
  refine ⟨fun e he => by simp at he, ?_⟩
  co_apply Goes.step rfl
  intro _ h₁
  obtain ⟨_, rfl⟩ := h₁
  rw [stepG_skip]
  simp only [goes_go]
  refine ⟨fun e he => by simp at he, ?_⟩
  clear hd
  co_apply Goes.step rfl
  intro _ h₁
  obtain ⟨_, rfl⟩ := h₁
  rw [stepG_seq]
  simp only [goes_go]
  refine ⟨fun e he => by simp at he, ?_⟩
  co_apply Goes.step rfl
  intro _ h₁
  obtain ⟨_, rfl⟩ := h₁
  rw [stepG_region]
  simp only [goes_go, List.size_toArray, List.length_cons, List.length_nil, Nat.reduceAdd, Nat.zero_add, List.range, List.range.loop]
  refine ⟨fun e he => by simp at he, ?_⟩
  co_apply Goes.step rfl
  intro _ h₁
  obtain ⟨_, rfl⟩ := h₁
  refine goes_oper_k rfl rfl (by decide) (fun K1 hK1 => ?_)
  go_simp
  try (unfold stored; go_simp)
  refine hK1 _ _ ⟨?_, ?_⟩
  · intro e he
    have hm := mem_listed he
    simp [go_sem, *] at hm
    try (rcases hm with rfl | rfl | rfl <;> exact evP _ _ (by assumption))
    try (subst hm; exact evP _ _ (by assumption))
  clear hK1 K1
  try walk_nrm
  co_apply Goes.step rfl
  intro _ h₁
  obtain ⟨_, rfl⟩ := h₁
  refine goes_oper_k rfl rfl (by decide) (fun K1 hK1 => ?_)
  go_simp
  try (unfold stored; go_simp)
  refine hK1 _ _ ⟨?_, ?_⟩
  · intro e he
    have hm := mem_listed he
    simp [go_sem, *] at hm
    try (rcases hm with rfl | rfl | rfl <;> exact evP _ _ (by assumption))
    try (subst hm; exact evP _ _ (by assumption))
  clear hK1 K1
  try walk_nrm
  co_apply Goes.call TP rfl rfl (by decide) rfl
  · walk_nrm
    exact hB _ _ (by rw [at_size, hz2]; exact hnb _ (by omega)) hx hx1 (h1.call (below_at hF.bel))
  rintro v w3 ⟨y, rfl, hy1, hy2, hb3, hz3⟩
  rw [at_size, hz2] at hz3
  replace hF := hF.step hb3
  clear hb3 p0 p1 p2 r0 r1 r2
  walk_nrm
  co_apply Goes.step rfl
  intro _ h₁
  obtain ⟨_, rfl⟩ := h₁
  refine goes_oper_k rfl rfl (by decide) (fun K1 hK1 => ?_)
  go_simp
  try (unfold stored; go_simp)
  refine hK1 _ _ ⟨?_, ?_⟩
  · intro e he
    have hm := mem_listed he
    simp [go_sem, *] at hm
    try (rcases hm with rfl | rfl | rfl <;> exact evP _ _ (by assumption))
    try (subst hm; exact evP _ _ (by assumption))
  clear hK1 K1
  try walk_nrm
  co_apply Goes.step rfl
  intro _ h₁
  obtain ⟨_, rfl⟩ := h₁
  rw [stepG_region_end]
  simp only [goes_go]
  refine ⟨fun e he => by simp at he, ?_⟩
  co_apply Goes.step rfl
  intro _ h₁
  obtain ⟨_, rfl⟩ := h₁
  rw [stepG_seq]
  simp only [goes_go]
  refine ⟨fun e he => by simp at he, ?_⟩
  co_apply Goes.step rfl
  intro _ h₁
  obtain ⟨_, rfl⟩ := h₁
  rw [stepG_seq]
  simp only [goes_go]
  refine ⟨fun e he => by simp at he, ?_⟩
  co_apply Goes.step rfl
  intro _ h₁
  obtain ⟨_, rfl⟩ := h₁
  rw [stepG_region]
  simp only [goes_go, List.size_toArray, List.length_cons, List.length_nil, Nat.reduceAdd, Nat.zero_add, List.range, List.range.loop]
  refine ⟨fun e he => by simp at he, ?_⟩
  co_apply Goes.step rfl
  intro _ h₁
  obtain ⟨_, rfl⟩ := h₁
  refine goes_oper_k rfl rfl (by decide) (fun K1 hK1 => ?_)
  go_simp
  try (unfold stored; go_simp)
  refine hK1 _ _ ⟨?_, ?_⟩
  · intro e he
    have hm := mem_listed he
    simp [go_sem, *] at hm
    try (rcases hm with rfl | rfl | rfl <;> exact evP _ _ (by assumption))
    try (subst hm; exact evP _ _ (by assumption))
  clear hK1 K1
  try walk_nrm
  co_apply Goes.step rfl
  intro _ h₁
  obtain ⟨_, rfl⟩ := h₁
  refine goes_oper_k rfl rfl (by decide) (fun K1 hK1 => ?_)
  go_simp
  try (unfold stored; go_simp)
  refine hK1 _ _ ⟨?_, ?_⟩
  · intro e he
    have hm := mem_listed he
    simp [go_sem, *] at hm
    try (rcases hm with rfl | rfl | rfl <;> exact evP _ _ (by assumption))
    try (subst hm; exact evP _ _ (by assumption))
  clear hK1 K1
  try walk_nrm
  co_apply Goes.step rfl
  intro _ h₁
  obtain ⟨_, rfl⟩ := h₁
  rw [stepG_region_end]
  simp only [goes_go]
  refine ⟨fun e he => by simp at he, ?_⟩
  have hy : y < 0 ∨ 0 ≤ y := by omega
  rcases hy with hy | hy
  · have hd : decide (y < 0) = true := decide_eq_true hy
    co_apply Goes.step rfl
    intro _ h₁
    obtain ⟨_, rfl⟩ := h₁
    rw [stepG_cond (t := true) (by first | rfl | simp [Act.eval, *])]
    simp only [goes_go, ↓reduceIte]
    refine ⟨fun e he => by simp at he, ?_⟩
    co_apply Goes.step rfl
    intro _ h₁
    obtain ⟨_, rfl⟩ := h₁
    rw [stepG_seq]
    simp only [goes_go]
    refine ⟨fun e he => by simp at he, ?_⟩
    co_apply Goes.step rfl
    intro _ h₁
    obtain ⟨_, rfl⟩ := h₁
    rw [stepG_region]
    simp only [goes_go, List.size_toArray, List.length_cons, List.length_nil, Nat.zero_add, List.range, List.range.loop]
    refine ⟨fun e he => by simp at he, ?_⟩
    co_apply Goes.step rfl
    intro _ h₁
    obtain ⟨_, rfl⟩ := h₁
    refine goes_oper_k rfl rfl (by decide) (fun K1 hK1 => ?_)
    go_simp
    try (unfold stored; go_simp)
    refine hK1 _ _ ⟨?_, ?_⟩
    · intro e he
      have hm := mem_listed he
      simp [go_sem, *] at hm
      try (rcases hm with rfl | rfl | rfl <;> exact evP _ _ (by assumption))
      try (subst hm; exact evP _ _ (by assumption))
    clear hK1 K1
    try walk_nrm
    co_apply Goes.step rfl
    intro _ h₁
    obtain ⟨_, rfl⟩ := h₁
    rw [stepG_region_end]
    simp only [goes_go]
    refine ⟨fun e he => by simp at he, ?_⟩
    co_apply Goes.step rfl
    intro _ h₁
    obtain ⟨_, rfl⟩ := h₁
    rw [stepG_ret']
    simp only [goes_go]
    refine ⟨fun e he => by simp at he, ?_⟩
    co_apply Goes.stop
    intro _ h₁
    obtain ⟨_, rfl⟩ := h₁
    exact hE _ _ (atEnd1_of ⟨rfl, rfl, ⟨_, resultsC_tmp (by rfl) _, rfl⟩, ⟨hF.bel.os, hF.bel.tape, hF.bel.output, hF.bel.size, hF.bel.block⟩⟩)
  have hd : decide (y < 0) = false := decide_eq_false (by omega)
  co_apply Goes.step rfl
  intro _ h₁
  obtain ⟨_, rfl⟩ := h₁
  rw [stepG_cond (t := false) (by first | rfl | simp [Act.eval, *])]
  simp only [goes_go, Bool.false_eq_true, ↓reduceIte]
  refine ⟨fun e he => by simp at he, ?_⟩
  co_apply Goes.step rfl
  intro _ h₁
  obtain ⟨_, rfl⟩ := h₁
  rw [stepG_skip]
  simp only [goes_go]
  refine ⟨fun e he => by simp at he, ?_⟩
  co_apply Goes.mono (hK hlK (hy2 hy) _ _ _ _ _ _ _ _ _ _ _ _ _ _ _ _ _ _ _ _ _ _ _ _ _ _ _ _ _ _ _ _ _ _ _ _ _ _ _ _ _ _ _ _ (by exact ⟨⟨hF.bel.os, hF.bel.tape, hF.bel.output, hF.bel.size, hF.bel.block⟩, hF.bx, hF.bY⟩) (by exact hz3))
  exact Nat.le_add_right m _
end

end Go.Proofs.Ytnndfgceehfiiaa
