/-
  The law of Alike: the two regions behind the call that draw their order. (tools/genlwb.py)
-/
import Derived.Test.YtnndfgceehfiiaaLwB
namespace Go.Proofs.Ytnndfgceehfiiaa
open Go.Conc Go.RowKit

section
variable (Bad : Nat → Prop) (W : World) (K L : List ByteArray) (a0 a1 : Option Addr) (cap0 cap1 : Nat) (f s g u : Int)

/-- Behind region 14. -/
def Q14 (b0 : Nat) (w : World) (v0 v1 v4 v5 v6 v8 v9 v10 v11 v12 v13 v14 v15 v16 v17 v18 v19 v20 v21 v22 v23 v24 v25 v26 v27 v28 v29 v30 v31 v32 v33 v34 v40 v41 v42 v43 v44 : Value) (e : Exit) (a' : Act) (w' : World) : Prop :=
  e = .normal ∧ Below w.heap.size w w' ∧ w'.heap.size = w.heap.size + 6 ∧ ∃ y35 y36 y37 y38 : Value, a' = { tmps := #[v0, v1, .pointer (some ⟨W.heap.size, 0, none⟩), .pointer (some ⟨W.heap.size + 1, 0, none⟩), v4, v5, v6, .pointer (some ⟨b0, 0, none⟩), v8, v9, v10, v11, v12, v13, v14, v15, v16, v17, v18, v19, v20, v21, v22, v23, v24, v25, v26, v27, v28, v29, v30, v31, v32, v33, v34, y35, y36, y37, y38, .bool false, v40, v41, v42, v43, v44], defers := [] }

set_option maxRecDepth 100000 in
set_option maxHeartbeats 4000000 in
theorem reg14_a (b0 g0 S : Nat) (hK1 : K.length ≤ 1048576) (hb : Nb Bad a0) (hA : ArgT W a0 K) (nbx : ¬ Bad (W.heap.size)) (nb0 : ¬ Bad b0) (ng0 : ¬ Bad g0) (hnb : ∀ i, i < 6 → ¬ Bad (S + i)) : ∃ n, ∀ (w : World) (v0 v1 v4 v5 v6 v8 v9 v10 v11 v12 v13 v14 v15 v16 v17 v18 v19 v20 v21 v22 v23 v24 v25 v26 v27 v28 v29 v30 v31 v32 v33 v34 v35 v36 v37 v38 v39 v40 v41 v42 v43 v44 : Value), LawF W K L a0 cap0 f s a1 cap1 g u w → RowF w b0 [.slice (some ⟨g0, 0, none⟩) K.length K.length, .int .i64 f, .int .i64 s] → RowT w g0 K → w.heap.size = S →
    OpsC Try.prog true AtRel (DE (EvP Bad)) 4 ops14 [0, 1, 2, 3, 4] n (Q14 W b0 w v0 v1 v4 v5 v6 v8 v9 v10 v11 v12 v13 v14 v15 v16 v17 v18 v19 v20 v21 v22 v23 v24 v25 v26 v27 v28 v29 v30 v31 v32 v33 v34 v40 v41 v42 v43 v44) { tmps := #[v0, v1, .pointer (some ⟨W.heap.size, 0, none⟩), .pointer (some ⟨W.heap.size + 1, 0, none⟩), v4, v5, v6, .pointer (some ⟨b0, 0, none⟩), v8, v9, v10, v11, v12, v13, v14, v15, v16, v17, v18, v19, v20, v21, v22, v23, v24, v25, v26, v27, v28, v29, v30, v31, v32, v33, v34, v35, v36, v37, v38, v39, v40, v41, v42, v43, v44], defers := [] } w := by
  have A1 := at_cell
  have A2 := at_frozen
  have A3 := at_size
  have A4 := at_at
  have A5 := at_alloc
  have A6 := at_set
  have TP := termsP Bad
  have hls := fun w es ty s => events_len_string (P := Try.prog) w es 9 ty s Try.underlying9
  obtain ⟨G1, hG1⟩ : ∃ G1, Hid (G1 = S + 3) := ⟨_, rfl⟩
  have ng1 : ¬ Bad G1 := by rw [show G1 = S + 3 from hG1.out]; exact hnb 3 (by omega)
  obtain ⟨nA, hT⟩ := toShow_c Bad K hK1 a0 cap0 hb f s
  obtain ⟨nE, hE⟩ := eqShow_c Bad K hK1 (some ⟨g0, 0, none⟩) (some ⟨G1, 0, none⟩) K.length K.length (nb_some ng0) (nb_some ng1) f s
  co_apply Exists.intro
  intro w v0 v1 v4 v5 v6 v8 v9 v10 v11 v12 v13 v14 v15 v16 v17 v18 v19 v20 v21 v22 v23 v24 v25 v26 v27 v28 v29 v30 v31 v32 v33 v34 v35 v36 v37 v38 v39 v40 v41 v42 v43 v44 hF hX hr0 hz
  simp only [ops14, lawC12, lawC9, lawC8, lawB, Try.f4, Option.getD_some]
  have ⟨p0, p1, p2, r0, r1, r2⟩ := hF.cells
  have x0 := (hX.2 0 (by simp)).1
  have x1 := (hX.2 1 (by simp)).1
  have x2 := (hX.2 2 (by simp)).1
  simp only [List.getElem_cons_zero, List.getElem_cons_succ] at x0 x1 x2
  repeat (first
    | co_reg TP
    | (co_apply opsC_cons_k rfl (by rfl)
       intro _ hR K1 hK1
       obtain ⟨_, rfl⟩ := hR
       go_simp
       refine hK1 _ _ ⟨?_, ?_⟩
       · intro e he
         have hm := mem_listed he
         simp [go_sem, *] at hm
         try (rcases hm with rfl | rfl | rfl <;> exact evP _ _ (by first | exact nbx | exact nb0))
         try (subst hm; exact evP _ _ (by first | exact nbx | exact nb0))
       clear hK1 K1
       try walk_nrm)
    | (co_apply opsC_unwanted TP rfl (by rfl)
       try walk_nrm)
    | (co_ctl TP; try co_then))
  co_apply opsC_callM TP rfl (by rfl) rfl
  · walk_nrm
    exact hT _ (by first | (rw [at_size, hz]; exact hnb 0 (by omega)) | (rw [hz]; exact hnb 0 (by omega))) (by first | (rw [at_size, hz]; exact hnb 1 (by omega)) | (rw [hz]; exact hnb 1 (by omega))) (by first | (rw [at_size, hz]; exact hnb 2 (by omega)) | (rw [hz]; exact hnb 2 (by omega))) (by first | (rw [at_size, hz]; exact hnb 3 (by omega)) | (rw [hz]; exact hnb 3 (by omega))) (hA.call (below_at hF.bel))
  rintro v w' ⟨hv, hr1, hb', hz'⟩
  first | rw [at_size, hz] at hv hr1 hz' | rw [hz] at hv hr1 hz'
  rw [← show G1 = S + 3 from hG1.out] at hv hr1
  clear p0 p1 p2 r0 r1 r2 x0 x1 x2
  subst hv
  have hB : Below w.heap.size w w' := below_of_at hb'
  replace hX := hX.call hB
  replace hr0 := hr0.call hB
  have x0 := (hX.2 0 (by simp)).1
  have x1 := (hX.2 1 (by simp)).1
  have x2 := (hX.2 2 (by simp)).1
  simp only [List.getElem_cons_zero, List.getElem_cons_succ] at x0 x1 x2
  clear hb' hF
  walk_nrm
  repeat (first
    | co_reg TP
    | (co_apply opsC_cons_k rfl (by rfl)
       intro _ hR K1 hK1
       obtain ⟨_, rfl⟩ := hR
       go_simp
       refine hK1 _ _ ⟨?_, ?_⟩
       · intro e he
         have hm := mem_listed he
         simp [go_sem, *] at hm
         try (rcases hm with rfl | rfl | rfl <;> exact evP _ _ (by first | exact nbx | exact nb0))
         try (subst hm; exact evP _ _ (by first | exact nbx | exact nb0))
       clear hK1 K1
       try walk_nrm)
    | (co_apply opsC_unwanted TP rfl (by rfl)
       try walk_nrm)
    | (co_ctl TP; try co_then))
  co_apply opsC_call TP rfl (by rfl) rfl
  · walk_nrm
    exact hE _ (by first | (rw [at_size, hz']; exact hnb 4 (by omega)) | (rw [hz']; exact hnb 4 (by omega))) (by first | (rw [at_size, hz']; exact hnb 5 (by omega)) | (rw [hz']; exact hnb 5 (by omega))) (rowT_at hr0 |>.arg hA.max) (rowT_at hr1 |>.arg hA.max)
  rintro v w3 ⟨hv, hb3, hz3⟩
  first | rw [at_size, hz'] at hz3 | rw [hz'] at hz3
  subst hv
  replace hB : Below w.heap.size w w3 := by first | exact bstep hB (below_of_at hb3) | exact bstep hB hb3
  clear hb3 x0 x1 x2
  walk_nrm
  repeat (first
    | co_reg TP
    | (co_apply opsC_cons_k rfl (by rfl)
       intro _ hR K1 hK1
       obtain ⟨_, rfl⟩ := hR
       go_simp
       refine hK1 _ _ ⟨?_, ?_⟩
       · intro e he
         have hm := mem_listed he
         simp [go_sem, *] at hm
         try (rcases hm with rfl | rfl | rfl <;> exact evP _ _ (by first | exact nbx | exact nb0))
         try (subst hm; exact evP _ _ (by first | exact nbx | exact nb0))
       clear hK1 K1
       try walk_nrm)
    | (co_apply opsC_unwanted TP rfl (by rfl)
       try walk_nrm)
    | (co_ctl TP; try co_then))
  exact ⟨rfl, below_at hB, by rw [at_size, hz3, hz], _, _, _, _, rfl⟩

set_option maxRecDepth 100000 in
set_option maxHeartbeats 4000000 in
theorem reg14_b (b0 g0 S : Nat) (hK1 : K.length ≤ 1048576) (hb : Nb Bad a0) (hA : ArgT W a0 K) (nbx : ¬ Bad (W.heap.size)) (nb0 : ¬ Bad b0) (ng0 : ¬ Bad g0) (hnb : ∀ i, i < 6 → ¬ Bad (S + i)) : ∃ n, ∀ (w : World) (v0 v1 v4 v5 v6 v8 v9 v10 v11 v12 v13 v14 v15 v16 v17 v18 v19 v20 v21 v22 v23 v24 v25 v26 v27 v28 v29 v30 v31 v32 v33 v34 v35 v36 v37 v38 v39 v40 v41 v42 v43 v44 : Value), LawF W K L a0 cap0 f s a1 cap1 g u w → RowF w b0 [.slice (some ⟨g0, 0, none⟩) K.length K.length, .int .i64 f, .int .i64 s] → RowT w g0 K → w.heap.size = S →
    OpsC Try.prog true AtRel (DE (EvP Bad)) 4 ops14 [1, 0, 2, 3, 4] n (Q14 W b0 w v0 v1 v4 v5 v6 v8 v9 v10 v11 v12 v13 v14 v15 v16 v17 v18 v19 v20 v21 v22 v23 v24 v25 v26 v27 v28 v29 v30 v31 v32 v33 v34 v40 v41 v42 v43 v44) { tmps := #[v0, v1, .pointer (some ⟨W.heap.size, 0, none⟩), .pointer (some ⟨W.heap.size + 1, 0, none⟩), v4, v5, v6, .pointer (some ⟨b0, 0, none⟩), v8, v9, v10, v11, v12, v13, v14, v15, v16, v17, v18, v19, v20, v21, v22, v23, v24, v25, v26, v27, v28, v29, v30, v31, v32, v33, v34, v35, v36, v37, v38, v39, v40, v41, v42, v43, v44], defers := [] } w := by
  have A1 := at_cell
  have A2 := at_frozen
  have A3 := at_size
  have A4 := at_at
  have A5 := at_alloc
  have A6 := at_set
  have TP := termsP Bad
  have hls := fun w es ty s => events_len_string (P := Try.prog) w es 9 ty s Try.underlying9
  obtain ⟨G1, hG1⟩ : ∃ G1, Hid (G1 = S + 3) := ⟨_, rfl⟩
  have ng1 : ¬ Bad G1 := by rw [show G1 = S + 3 from hG1.out]; exact hnb 3 (by omega)
  obtain ⟨nA, hT⟩ := toShow_c Bad K hK1 a0 cap0 hb f s
  obtain ⟨nE, hE⟩ := eqShow_c Bad K hK1 (some ⟨g0, 0, none⟩) (some ⟨G1, 0, none⟩) K.length K.length (nb_some ng0) (nb_some ng1) f s
  co_apply Exists.intro
  intro w v0 v1 v4 v5 v6 v8 v9 v10 v11 v12 v13 v14 v15 v16 v17 v18 v19 v20 v21 v22 v23 v24 v25 v26 v27 v28 v29 v30 v31 v32 v33 v34 v35 v36 v37 v38 v39 v40 v41 v42 v43 v44 hF hX hr0 hz
  simp only [ops14, lawC12, lawC9, lawC8, lawB, Try.f4, Option.getD_some]
  have ⟨p0, p1, p2, r0, r1, r2⟩ := hF.cells
  have x0 := (hX.2 0 (by simp)).1
  have x1 := (hX.2 1 (by simp)).1
  have x2 := (hX.2 2 (by simp)).1
  simp only [List.getElem_cons_zero, List.getElem_cons_succ] at x0 x1 x2
  repeat (first
    | co_reg TP
    | (co_apply opsC_cons_k rfl (by rfl)
       intro _ hR K1 hK1
       obtain ⟨_, rfl⟩ := hR
       go_simp
       refine hK1 _ _ ⟨?_, ?_⟩
       · intro e he
         have hm := mem_listed he
         simp [go_sem, *] at hm
         try (rcases hm with rfl | rfl | rfl <;> exact evP _ _ (by first | exact nbx | exact nb0))
         try (subst hm; exact evP _ _ (by first | exact nbx | exact nb0))
       clear hK1 K1
       try walk_nrm)
    | (co_apply opsC_unwanted TP rfl (by rfl)
       try walk_nrm)
    | (co_ctl TP; try co_then))
  co_apply opsC_callM TP rfl (by rfl) rfl
  · walk_nrm
    exact hT _ (by first | (rw [at_size, hz]; exact hnb 0 (by omega)) | (rw [hz]; exact hnb 0 (by omega))) (by first | (rw [at_size, hz]; exact hnb 1 (by omega)) | (rw [hz]; exact hnb 1 (by omega))) (by first | (rw [at_size, hz]; exact hnb 2 (by omega)) | (rw [hz]; exact hnb 2 (by omega))) (by first | (rw [at_size, hz]; exact hnb 3 (by omega)) | (rw [hz]; exact hnb 3 (by omega))) (hA.call (below_at hF.bel))
  rintro v w' ⟨hv, hr1, hb', hz'⟩
  first | rw [at_size, hz] at hv hr1 hz' | rw [hz] at hv hr1 hz'
  rw [← show G1 = S + 3 from hG1.out] at hv hr1
  clear p0 p1 p2 r0 r1 r2 x0 x1 x2
  subst hv
  have hB : Below w.heap.size w w' := below_of_at hb'
  replace hX := hX.call hB
  replace hr0 := hr0.call hB
  have x0 := (hX.2 0 (by simp)).1
  have x1 := (hX.2 1 (by simp)).1
  have x2 := (hX.2 2 (by simp)).1
  simp only [List.getElem_cons_zero, List.getElem_cons_succ] at x0 x1 x2
  clear hb' hF
  walk_nrm
  repeat (first
    | co_reg TP
    | (co_apply opsC_cons_k rfl (by rfl)
       intro _ hR K1 hK1
       obtain ⟨_, rfl⟩ := hR
       go_simp
       refine hK1 _ _ ⟨?_, ?_⟩
       · intro e he
         have hm := mem_listed he
         simp [go_sem, *] at hm
         try (rcases hm with rfl | rfl | rfl <;> exact evP _ _ (by first | exact nbx | exact nb0))
         try (subst hm; exact evP _ _ (by first | exact nbx | exact nb0))
       clear hK1 K1
       try walk_nrm)
    | (co_apply opsC_unwanted TP rfl (by rfl)
       try walk_nrm)
    | (co_ctl TP; try co_then))
  co_apply opsC_call TP rfl (by rfl) rfl
  · walk_nrm
    exact hE _ (by first | (rw [at_size, hz']; exact hnb 4 (by omega)) | (rw [hz']; exact hnb 4 (by omega))) (by first | (rw [at_size, hz']; exact hnb 5 (by omega)) | (rw [hz']; exact hnb 5 (by omega))) (rowT_at hr0 |>.arg hA.max) (rowT_at hr1 |>.arg hA.max)
  rintro v w3 ⟨hv, hb3, hz3⟩
  first | rw [at_size, hz'] at hz3 | rw [hz'] at hz3
  subst hv
  replace hB : Below w.heap.size w w3 := by first | exact bstep hB (below_of_at hb3) | exact bstep hB hb3
  clear hb3 x0 x1 x2
  walk_nrm
  repeat (first
    | co_reg TP
    | (co_apply opsC_cons_k rfl (by rfl)
       intro _ hR K1 hK1
       obtain ⟨_, rfl⟩ := hR
       go_simp
       refine hK1 _ _ ⟨?_, ?_⟩
       · intro e he
         have hm := mem_listed he
         simp [go_sem, *] at hm
         try (rcases hm with rfl | rfl | rfl <;> exact evP _ _ (by first | exact nbx | exact nb0))
         try (subst hm; exact evP _ _ (by first | exact nbx | exact nb0))
       clear hK1 K1
       try walk_nrm)
    | (co_apply opsC_unwanted TP rfl (by rfl)
       try walk_nrm)
    | (co_ctl TP; try co_then))
  exact ⟨rfl, below_at hB, by rw [at_size, hz3, hz], _, _, _, _, rfl⟩

set_option maxRecDepth 100000 in
set_option maxHeartbeats 4000000 in
theorem reg14_c (b0 g0 S : Nat) (hK1 : K.length ≤ 1048576) (hb : Nb Bad a0) (hA : ArgT W a0 K) (nbx : ¬ Bad (W.heap.size)) (nb0 : ¬ Bad b0) (ng0 : ¬ Bad g0) (hnb : ∀ i, i < 6 → ¬ Bad (S + i)) : ∃ n, ∀ (w : World) (v0 v1 v4 v5 v6 v8 v9 v10 v11 v12 v13 v14 v15 v16 v17 v18 v19 v20 v21 v22 v23 v24 v25 v26 v27 v28 v29 v30 v31 v32 v33 v34 v35 v36 v37 v38 v39 v40 v41 v42 v43 v44 : Value), LawF W K L a0 cap0 f s a1 cap1 g u w → RowF w b0 [.slice (some ⟨g0, 0, none⟩) K.length K.length, .int .i64 f, .int .i64 s] → RowT w g0 K → w.heap.size = S →
    OpsC Try.prog true AtRel (DE (EvP Bad)) 4 ops14 [1, 2, 0, 3, 4] n (Q14 W b0 w v0 v1 v4 v5 v6 v8 v9 v10 v11 v12 v13 v14 v15 v16 v17 v18 v19 v20 v21 v22 v23 v24 v25 v26 v27 v28 v29 v30 v31 v32 v33 v34 v40 v41 v42 v43 v44) { tmps := #[v0, v1, .pointer (some ⟨W.heap.size, 0, none⟩), .pointer (some ⟨W.heap.size + 1, 0, none⟩), v4, v5, v6, .pointer (some ⟨b0, 0, none⟩), v8, v9, v10, v11, v12, v13, v14, v15, v16, v17, v18, v19, v20, v21, v22, v23, v24, v25, v26, v27, v28, v29, v30, v31, v32, v33, v34, v35, v36, v37, v38, v39, v40, v41, v42, v43, v44], defers := [] } w := by
  have A1 := at_cell
  have A2 := at_frozen
  have A3 := at_size
  have A4 := at_at
  have A5 := at_alloc
  have A6 := at_set
  have TP := termsP Bad
  have hls := fun w es ty s => events_len_string (P := Try.prog) w es 9 ty s Try.underlying9
  obtain ⟨G1, hG1⟩ : ∃ G1, Hid (G1 = S + 3) := ⟨_, rfl⟩
  have ng1 : ¬ Bad G1 := by rw [show G1 = S + 3 from hG1.out]; exact hnb 3 (by omega)
  obtain ⟨nA, hT⟩ := toShow_c Bad K hK1 a0 cap0 hb f s
  obtain ⟨nE, hE⟩ := eqShow_c Bad K hK1 (some ⟨g0, 0, none⟩) (some ⟨G1, 0, none⟩) K.length K.length (nb_some ng0) (nb_some ng1) f s
  co_apply Exists.intro
  intro w v0 v1 v4 v5 v6 v8 v9 v10 v11 v12 v13 v14 v15 v16 v17 v18 v19 v20 v21 v22 v23 v24 v25 v26 v27 v28 v29 v30 v31 v32 v33 v34 v35 v36 v37 v38 v39 v40 v41 v42 v43 v44 hF hX hr0 hz
  simp only [ops14, lawC12, lawC9, lawC8, lawB, Try.f4, Option.getD_some]
  have ⟨p0, p1, p2, r0, r1, r2⟩ := hF.cells
  have x0 := (hX.2 0 (by simp)).1
  have x1 := (hX.2 1 (by simp)).1
  have x2 := (hX.2 2 (by simp)).1
  simp only [List.getElem_cons_zero, List.getElem_cons_succ] at x0 x1 x2
  repeat (first
    | co_reg TP
    | (co_apply opsC_cons_k rfl (by rfl)
       intro _ hR K1 hK1
       obtain ⟨_, rfl⟩ := hR
       go_simp
       refine hK1 _ _ ⟨?_, ?_⟩
       · intro e he
         have hm := mem_listed he
         simp [go_sem, *] at hm
         try (rcases hm with rfl | rfl | rfl <;> exact evP _ _ (by first | exact nbx | exact nb0))
         try (subst hm; exact evP _ _ (by first | exact nbx | exact nb0))
       clear hK1 K1
       try walk_nrm)
    | (co_apply opsC_unwanted TP rfl (by rfl)
       try walk_nrm)
    | (co_ctl TP; try co_then))
  co_apply opsC_callM TP rfl (by rfl) rfl
  · walk_nrm
    exact hT _ (by first | (rw [at_size, hz]; exact hnb 0 (by omega)) | (rw [hz]; exact hnb 0 (by omega))) (by first | (rw [at_size, hz]; exact hnb 1 (by omega)) | (rw [hz]; exact hnb 1 (by omega))) (by first | (rw [at_size, hz]; exact hnb 2 (by omega)) | (rw [hz]; exact hnb 2 (by omega))) (by first | (rw [at_size, hz]; exact hnb 3 (by omega)) | (rw [hz]; exact hnb 3 (by omega))) (hA.call (below_at hF.bel))
  rintro v w' ⟨hv, hr1, hb', hz'⟩
  first | rw [at_size, hz] at hv hr1 hz' | rw [hz] at hv hr1 hz'
  rw [← show G1 = S + 3 from hG1.out] at hv hr1
  clear p0 p1 p2 r0 r1 r2 x0 x1 x2
  subst hv
  have hB : Below w.heap.size w w' := below_of_at hb'
  replace hX := hX.call hB
  replace hr0 := hr0.call hB
  have x0 := (hX.2 0 (by simp)).1
  have x1 := (hX.2 1 (by simp)).1
  have x2 := (hX.2 2 (by simp)).1
  simp only [List.getElem_cons_zero, List.getElem_cons_succ] at x0 x1 x2
  clear hb' hF
  walk_nrm
  repeat (first
    | co_reg TP
    | (co_apply opsC_cons_k rfl (by rfl)
       intro _ hR K1 hK1
       obtain ⟨_, rfl⟩ := hR
       go_simp
       refine hK1 _ _ ⟨?_, ?_⟩
       · intro e he
         have hm := mem_listed he
         simp [go_sem, *] at hm
         try (rcases hm with rfl | rfl | rfl <;> exact evP _ _ (by first | exact nbx | exact nb0))
         try (subst hm; exact evP _ _ (by first | exact nbx | exact nb0))
       clear hK1 K1
       try walk_nrm)
    | (co_apply opsC_unwanted TP rfl (by rfl)
       try walk_nrm)
    | (co_ctl TP; try co_then))
  co_apply opsC_call TP rfl (by rfl) rfl
  · walk_nrm
    exact hE _ (by first | (rw [at_size, hz']; exact hnb 4 (by omega)) | (rw [hz']; exact hnb 4 (by omega))) (by first | (rw [at_size, hz']; exact hnb 5 (by omega)) | (rw [hz']; exact hnb 5 (by omega))) (rowT_at hr0 |>.arg hA.max) (rowT_at hr1 |>.arg hA.max)
  rintro v w3 ⟨hv, hb3, hz3⟩
  first | rw [at_size, hz'] at hz3 | rw [hz'] at hz3
  subst hv
  replace hB : Below w.heap.size w w3 := by first | exact bstep hB (below_of_at hb3) | exact bstep hB hb3
  clear hb3 x0 x1 x2
  walk_nrm
  repeat (first
    | co_reg TP
    | (co_apply opsC_cons_k rfl (by rfl)
       intro _ hR K1 hK1
       obtain ⟨_, rfl⟩ := hR
       go_simp
       refine hK1 _ _ ⟨?_, ?_⟩
       · intro e he
         have hm := mem_listed he
         simp [go_sem, *] at hm
         try (rcases hm with rfl | rfl | rfl <;> exact evP _ _ (by first | exact nbx | exact nb0))
         try (subst hm; exact evP _ _ (by first | exact nbx | exact nb0))
       clear hK1 K1
       try walk_nrm)
    | (co_apply opsC_unwanted TP rfl (by rfl)
       try walk_nrm)
    | (co_ctl TP; try co_then))
  exact ⟨rfl, below_at hB, by rw [at_size, hz3, hz], _, _, _, _, rfl⟩

theorem reg14_any (b0 g0 S : Nat) (hK1 : K.length ≤ 1048576) (hb : Nb Bad a0) (hA : ArgT W a0 K) (nbx : ¬ Bad (W.heap.size)) (nb0 : ¬ Bad b0) (ng0 : ¬ Bad g0) (hnb : ∀ i, i < 6 → ¬ Bad (S + i)) : ∃ n, ∀ (w : World) (v0 v1 v4 v5 v6 v8 v9 v10 v11 v12 v13 v14 v15 v16 v17 v18 v19 v20 v21 v22 v23 v24 v25 v26 v27 v28 v29 v30 v31 v32 v33 v34 v35 v36 v37 v38 v39 v40 v41 v42 v43 v44 : Value), LawF W K L a0 cap0 f s a1 cap1 g u w → RowF w b0 [.slice (some ⟨g0, 0, none⟩) K.length K.length, .int .i64 f, .int .i64 s] → RowT w g0 K → w.heap.size = S →
    (Code.region 14 ops14 true).wpC Try.prog true AtRel (DE (EvP Bad)) 4 n (Q14 W b0 w v0 v1 v4 v5 v6 v8 v9 v10 v11 v12 v13 v14 v15 v16 v17 v18 v19 v20 v21 v22 v23 v24 v25 v26 v27 v28 v29 v30 v31 v32 v33 v34 v40 v41 v42 v43 v44) { tmps := #[v0, v1, .pointer (some ⟨W.heap.size, 0, none⟩), .pointer (some ⟨W.heap.size + 1, 0, none⟩), v4, v5, v6, .pointer (some ⟨b0, 0, none⟩), v8, v9, v10, v11, v12, v13, v14, v15, v16, v17, v18, v19, v20, v21, v22, v23, v24, v25, v26, v27, v28, v29, v30, v31, v32, v33, v34, v35, v36, v37, v38, v39, v40, v41, v42, v43, v44], defers := [] } w := by
  obtain ⟨n1, H1⟩ := reg14_a Bad W K L a0 a1 cap0 cap1 f s g u b0 g0 S hK1 hb hA nbx nb0 ng0 hnb
  obtain ⟨n2, H2⟩ := reg14_b Bad W K L a0 a1 cap0 cap1 f s g u b0 g0 S hK1 hb hA nbx nb0 ng0 hnb
  obtain ⟨n3, H3⟩ := reg14_c Bad W K L a0 a1 cap0 cap1 f s g u b0 g0 S hK1 hb hA nbx nb0 ng0 hnb
  refine ⟨max n1 (max n2 n3) + 1, fun w v0 v1 v4 v5 v6 v8 v9 v10 v11 v12 v13 v14 v15 v16 v17 v18 v19 v20 v21 v22 v23 v24 v25 v26 v27 v28 v29 v30 v31 v32 v33 v34 v35 v36 v37 v38 v39 v40 v41 v42 v43 v44 hF hX hr hz => wpC_region_draw (draws _) fun w₁ hR t => ?_⟩
  obtain ⟨d, rfl⟩ := hR
  have hF' : LawF W K L a0 cap0 f s a1 cap1 g u (w.at (d + 1)) := hF.at
  have hz' : (w.at (d + 1)).heap.size = S := hz
  rcases sched14 t with e | e | e <;> rw [e]
  · exact opsC_more (opsC_post (H1 (w.at (d + 1)) v0 v1 v4 v5 v6 v8 v9 v10 v11 v12 v13 v14 v15 v16 v17 v18 v19 v20 v21 v22 v23 v24 v25 v26 v27 v28 v29 v30 v31 v32 v33 v34 v35 v36 v37 v38 v39 v40 v41 v42 v43 v44 hF' hX hr hz') fun _ _ _ q => ⟨q.1, below_of_at q.2.1, q.2.2.1, q.2.2.2⟩) (Nat.le_max_left _ _)
  · exact opsC_more (opsC_post (H2 (w.at (d + 1)) v0 v1 v4 v5 v6 v8 v9 v10 v11 v12 v13 v14 v15 v16 v17 v18 v19 v20 v21 v22 v23 v24 v25 v26 v27 v28 v29 v30 v31 v32 v33 v34 v35 v36 v37 v38 v39 v40 v41 v42 v43 v44 hF' hX hr hz') fun _ _ _ q => ⟨q.1, below_of_at q.2.1, q.2.2.1, q.2.2.2⟩) (Nat.le_trans (Nat.le_max_left _ _) (Nat.le_max_right _ _))
  · exact opsC_more (opsC_post (H3 (w.at (d + 1)) v0 v1 v4 v5 v6 v8 v9 v10 v11 v12 v13 v14 v15 v16 v17 v18 v19 v20 v21 v22 v23 v24 v25 v26 v27 v28 v29 v30 v31 v32 v33 v34 v35 v36 v37 v38 v39 v40 v41 v42 v43 v44 hF' hX hr hz') fun _ _ _ q => ⟨q.1, below_of_at q.2.1, q.2.2.1, q.2.2.2⟩) (Nat.le_trans (Nat.le_max_right _ _) (Nat.le_max_right _ _))

/-- Behind region 16. -/
def Q16 (b0 : Nat) (w : World) (v0 v1 v4 v5 v6 v7 v9 v10 v11 v12 v13 v14 v15 v16 v17 v18 v19 v20 v21 v22 v23 v24 v25 v26 v27 v28 v29 v30 v31 v32 v33 v34 v35 v36 v37 v38 v39 : Value) (e : Exit) (a' : Act) (w' : World) : Prop :=
  e = .normal ∧ Below w.heap.size w w' ∧ w'.heap.size = w.heap.size + 6 ∧ ∃ y40 y41 y42 y43 : Value, a' = { tmps := #[v0, v1, .pointer (some ⟨W.heap.size, 0, none⟩), .pointer (some ⟨W.heap.size + 1, 0, none⟩), v4, v5, v6, v7, .pointer (some ⟨b0, 0, none⟩), v9, v10, v11, v12, v13, v14, v15, v16, v17, v18, v19, v20, v21, v22, v23, v24, v25, v26, v27, v28, v29, v30, v31, v32, v33, v34, v35, v36, v37, v38, v39, y40, y41, y42, y43, .bool false], defers := [] }

set_option maxRecDepth 100000 in
set_option maxHeartbeats 4000000 in
theorem reg16_a (b0 g0 S : Nat) (hL1 : L.length ≤ 1048576) (hb : Nb Bad a1) (hA : ArgT W a1 L) (nbx : ¬ Bad (W.heap.size + 1)) (nb0 : ¬ Bad b0) (ng0 : ¬ Bad g0) (hnb : ∀ i, i < 6 → ¬ Bad (S + i)) : ∃ n, ∀ (w : World) (v0 v1 v4 v5 v6 v7 v9 v10 v11 v12 v13 v14 v15 v16 v17 v18 v19 v20 v21 v22 v23 v24 v25 v26 v27 v28 v29 v30 v31 v32 v33 v34 v35 v36 v37 v38 v39 v40 v41 v42 v43 v44 : Value), LawF W K L a0 cap0 f s a1 cap1 g u w → RowF w b0 [.slice (some ⟨g0, 0, none⟩) L.length L.length, .int .i64 g, .int .i64 u] → RowT w g0 L → w.heap.size = S →
    OpsC Try.prog true AtRel (DE (EvP Bad)) 4 ops16 [0, 1, 2, 3, 4] n (Q16 W b0 w v0 v1 v4 v5 v6 v7 v9 v10 v11 v12 v13 v14 v15 v16 v17 v18 v19 v20 v21 v22 v23 v24 v25 v26 v27 v28 v29 v30 v31 v32 v33 v34 v35 v36 v37 v38 v39) { tmps := #[v0, v1, .pointer (some ⟨W.heap.size, 0, none⟩), .pointer (some ⟨W.heap.size + 1, 0, none⟩), v4, v5, v6, v7, .pointer (some ⟨b0, 0, none⟩), v9, v10, v11, v12, v13, v14, v15, v16, v17, v18, v19, v20, v21, v22, v23, v24, v25, v26, v27, v28, v29, v30, v31, v32, v33, v34, v35, v36, v37, v38, v39, v40, v41, v42, v43, v44], defers := [] } w := by
  have A1 := at_cell
  have A2 := at_frozen
  have A3 := at_size
  have A4 := at_at
  have A5 := at_alloc
  have A6 := at_set
  have TP := termsP Bad
  have hls := fun w es ty s => events_len_string (P := Try.prog) w es 9 ty s Try.underlying9
  obtain ⟨G1, hG1⟩ : ∃ G1, Hid (G1 = S + 3) := ⟨_, rfl⟩
  have ng1 : ¬ Bad G1 := by rw [show G1 = S + 3 from hG1.out]; exact hnb 3 (by omega)
  obtain ⟨nA, hT⟩ := toShow_c Bad L hL1 a1 cap1 hb g u
  obtain ⟨nE, hE⟩ := eqShow_c Bad L hL1 (some ⟨g0, 0, none⟩) (some ⟨G1, 0, none⟩) L.length L.length (nb_some ng0) (nb_some ng1) g u
  co_apply Exists.intro
  intro w v0 v1 v4 v5 v6 v7 v9 v10 v11 v12 v13 v14 v15 v16 v17 v18 v19 v20 v21 v22 v23 v24 v25 v26 v27 v28 v29 v30 v31 v32 v33 v34 v35 v36 v37 v38 v39 v40 v41 v42 v43 v44 hF hX hr0 hz
  simp only [ops16, lawC12, lawC9, lawC8, lawB, Try.f4, Option.getD_some]
  have ⟨p0, p1, p2, r0, r1, r2⟩ := hF.cells
  have x0 := (hX.2 0 (by simp)).1
  have x1 := (hX.2 1 (by simp)).1
  have x2 := (hX.2 2 (by simp)).1
  simp only [List.getElem_cons_zero, List.getElem_cons_succ] at x0 x1 x2
  repeat (first
    | co_reg TP
    | (co_apply opsC_cons_k rfl (by rfl)
       intro _ hR K1 hK1
       obtain ⟨_, rfl⟩ := hR
       go_simp
       refine hK1 _ _ ⟨?_, ?_⟩
       · intro e he
         have hm := mem_listed he
         simp [go_sem, *] at hm
         try (rcases hm with rfl | rfl | rfl <;> exact evP _ _ (by first | exact nbx | exact nb0))
         try (subst hm; exact evP _ _ (by first | exact nbx | exact nb0))
       clear hK1 K1
       try walk_nrm)
    | (co_apply opsC_unwanted TP rfl (by rfl)
       try walk_nrm)
    | (co_ctl TP; try co_then))
  co_apply opsC_callM TP rfl (by rfl) rfl
  · walk_nrm
    exact hT _ (by first | (rw [at_size, hz]; exact hnb 0 (by omega)) | (rw [hz]; exact hnb 0 (by omega))) (by first | (rw [at_size, hz]; exact hnb 1 (by omega)) | (rw [hz]; exact hnb 1 (by omega))) (by first | (rw [at_size, hz]; exact hnb 2 (by omega)) | (rw [hz]; exact hnb 2 (by omega))) (by first | (rw [at_size, hz]; exact hnb 3 (by omega)) | (rw [hz]; exact hnb 3 (by omega))) (hA.call (below_at hF.bel))
  rintro v w' ⟨hv, hr1, hb', hz'⟩
  first | rw [at_size, hz] at hv hr1 hz' | rw [hz] at hv hr1 hz'
  rw [← show G1 = S + 3 from hG1.out] at hv hr1
  clear p0 p1 p2 r0 r1 r2 x0 x1 x2
  subst hv
  have hB : Below w.heap.size w w' := below_of_at hb'
  replace hX := hX.call hB
  replace hr0 := hr0.call hB
  have x0 := (hX.2 0 (by simp)).1
  have x1 := (hX.2 1 (by simp)).1
  have x2 := (hX.2 2 (by simp)).1
  simp only [List.getElem_cons_zero, List.getElem_cons_succ] at x0 x1 x2
  clear hb' hF
  walk_nrm
  repeat (first
    | co_reg TP
    | (co_apply opsC_cons_k rfl (by rfl)
       intro _ hR K1 hK1
       obtain ⟨_, rfl⟩ := hR
       go_simp
       refine hK1 _ _ ⟨?_, ?_⟩
       · intro e he
         have hm := mem_listed he
         simp [go_sem, *] at hm
         try (rcases hm with rfl | rfl | rfl <;> exact evP _ _ (by first | exact nbx | exact nb0))
         try (subst hm; exact evP _ _ (by first | exact nbx | exact nb0))
       clear hK1 K1
       try walk_nrm)
    | (co_apply opsC_unwanted TP rfl (by rfl)
       try walk_nrm)
    | (co_ctl TP; try co_then))
  co_apply opsC_call TP rfl (by rfl) rfl
  · walk_nrm
    exact hE _ (by first | (rw [at_size, hz']; exact hnb 4 (by omega)) | (rw [hz']; exact hnb 4 (by omega))) (by first | (rw [at_size, hz']; exact hnb 5 (by omega)) | (rw [hz']; exact hnb 5 (by omega))) (rowT_at hr0 |>.arg hA.max) (rowT_at hr1 |>.arg hA.max)
  rintro v w3 ⟨hv, hb3, hz3⟩
  first | rw [at_size, hz'] at hz3 | rw [hz'] at hz3
  subst hv
  replace hB : Below w.heap.size w w3 := by first | exact bstep hB (below_of_at hb3) | exact bstep hB hb3
  clear hb3 x0 x1 x2
  walk_nrm
  repeat (first
    | co_reg TP
    | (co_apply opsC_cons_k rfl (by rfl)
       intro _ hR K1 hK1
       obtain ⟨_, rfl⟩ := hR
       go_simp
       refine hK1 _ _ ⟨?_, ?_⟩
       · intro e he
         have hm := mem_listed he
         simp [go_sem, *] at hm
         try (rcases hm with rfl | rfl | rfl <;> exact evP _ _ (by first | exact nbx | exact nb0))
         try (subst hm; exact evP _ _ (by first | exact nbx | exact nb0))
       clear hK1 K1
       try walk_nrm)
    | (co_apply opsC_unwanted TP rfl (by rfl)
       try walk_nrm)
    | (co_ctl TP; try co_then))
  exact ⟨rfl, below_at hB, by rw [at_size, hz3, hz], _, _, _, _, rfl⟩

set_option maxRecDepth 100000 in
set_option maxHeartbeats 4000000 in
theorem reg16_b (b0 g0 S : Nat) (hL1 : L.length ≤ 1048576) (hb : Nb Bad a1) (hA : ArgT W a1 L) (nbx : ¬ Bad (W.heap.size + 1)) (nb0 : ¬ Bad b0) (ng0 : ¬ Bad g0) (hnb : ∀ i, i < 6 → ¬ Bad (S + i)) : ∃ n, ∀ (w : World) (v0 v1 v4 v5 v6 v7 v9 v10 v11 v12 v13 v14 v15 v16 v17 v18 v19 v20 v21 v22 v23 v24 v25 v26 v27 v28 v29 v30 v31 v32 v33 v34 v35 v36 v37 v38 v39 v40 v41 v42 v43 v44 : Value), LawF W K L a0 cap0 f s a1 cap1 g u w → RowF w b0 [.slice (some ⟨g0, 0, none⟩) L.length L.length, .int .i64 g, .int .i64 u] → RowT w g0 L → w.heap.size = S →
    OpsC Try.prog true AtRel (DE (EvP Bad)) 4 ops16 [1, 0, 2, 3, 4] n (Q16 W b0 w v0 v1 v4 v5 v6 v7 v9 v10 v11 v12 v13 v14 v15 v16 v17 v18 v19 v20 v21 v22 v23 v24 v25 v26 v27 v28 v29 v30 v31 v32 v33 v34 v35 v36 v37 v38 v39) { tmps := #[v0, v1, .pointer (some ⟨W.heap.size, 0, none⟩), .pointer (some ⟨W.heap.size + 1, 0, none⟩), v4, v5, v6, v7, .pointer (some ⟨b0, 0, none⟩), v9, v10, v11, v12, v13, v14, v15, v16, v17, v18, v19, v20, v21, v22, v23, v24, v25, v26, v27, v28, v29, v30, v31, v32, v33, v34, v35, v36, v37, v38, v39, v40, v41, v42, v43, v44], defers := [] } w := by
  have A1 := at_cell
  have A2 := at_frozen
  have A3 := at_size
  have A4 := at_at
  have A5 := at_alloc
  have A6 := at_set
  have TP := termsP Bad
  have hls := fun w es ty s => events_len_string (P := Try.prog) w es 9 ty s Try.underlying9
  obtain ⟨G1, hG1⟩ : ∃ G1, Hid (G1 = S + 3) := ⟨_, rfl⟩
  have ng1 : ¬ Bad G1 := by rw [show G1 = S + 3 from hG1.out]; exact hnb 3 (by omega)
  obtain ⟨nA, hT⟩ := toShow_c Bad L hL1 a1 cap1 hb g u
  obtain ⟨nE, hE⟩ := eqShow_c Bad L hL1 (some ⟨g0, 0, none⟩) (some ⟨G1, 0, none⟩) L.length L.length (nb_some ng0) (nb_some ng1) g u
  co_apply Exists.intro
  intro w v0 v1 v4 v5 v6 v7 v9 v10 v11 v12 v13 v14 v15 v16 v17 v18 v19 v20 v21 v22 v23 v24 v25 v26 v27 v28 v29 v30 v31 v32 v33 v34 v35 v36 v37 v38 v39 v40 v41 v42 v43 v44 hF hX hr0 hz
  simp only [ops16, lawC12, lawC9, lawC8, lawB, Try.f4, Option.getD_some]
  have ⟨p0, p1, p2, r0, r1, r2⟩ := hF.cells
  have x0 := (hX.2 0 (by simp)).1
  have x1 := (hX.2 1 (by simp)).1
  have x2 := (hX.2 2 (by simp)).1
  simp only [List.getElem_cons_zero, List.getElem_cons_succ] at x0 x1 x2
  repeat (first
    | co_reg TP
    | (co_apply opsC_cons_k rfl (by rfl)
       intro _ hR K1 hK1
       obtain ⟨_, rfl⟩ := hR
       go_simp
       refine hK1 _ _ ⟨?_, ?_⟩
       · intro e he
         have hm := mem_listed he
         simp [go_sem, *] at hm
         try (rcases hm with rfl | rfl | rfl <;> exact evP _ _ (by first | exact nbx | exact nb0))
         try (subst hm; exact evP _ _ (by first | exact nbx | exact nb0))
       clear hK1 K1
       try walk_nrm)
    | (co_apply opsC_unwanted TP rfl (by rfl)
       try walk_nrm)
    | (co_ctl TP; try co_then))
  co_apply opsC_callM TP rfl (by rfl) rfl
  · walk_nrm
    exact hT _ (by first | (rw [at_size, hz]; exact hnb 0 (by omega)) | (rw [hz]; exact hnb 0 (by omega))) (by first | (rw [at_size, hz]; exact hnb 1 (by omega)) | (rw [hz]; exact hnb 1 (by omega))) (by first | (rw [at_size, hz]; exact hnb 2 (by omega)) | (rw [hz]; exact hnb 2 (by omega))) (by first | (rw [at_size, hz]; exact hnb 3 (by omega)) | (rw [hz]; exact hnb 3 (by omega))) (hA.call (below_at hF.bel))
  rintro v w' ⟨hv, hr1, hb', hz'⟩
  first | rw [at_size, hz] at hv hr1 hz' | rw [hz] at hv hr1 hz'
  rw [← show G1 = S + 3 from hG1.out] at hv hr1
  clear p0 p1 p2 r0 r1 r2 x0 x1 x2
  subst hv
  have hB : Below w.heap.size w w' := below_of_at hb'
  replace hX := hX.call hB
  replace hr0 := hr0.call hB
  have x0 := (hX.2 0 (by simp)).1
  have x1 := (hX.2 1 (by simp)).1
  have x2 := (hX.2 2 (by simp)).1
  simp only [List.getElem_cons_zero, List.getElem_cons_succ] at x0 x1 x2
  clear hb' hF
  walk_nrm
  repeat (first
    | co_reg TP
    | (co_apply opsC_cons_k rfl (by rfl)
       intro _ hR K1 hK1
       obtain ⟨_, rfl⟩ := hR
       go_simp
       refine hK1 _ _ ⟨?_, ?_⟩
       · intro e he
         have hm := mem_listed he
         simp [go_sem, *] at hm
         try (rcases hm with rfl | rfl | rfl <;> exact evP _ _ (by first | exact nbx | exact nb0))
         try (subst hm; exact evP _ _ (by first | exact nbx | exact nb0))
       clear hK1 K1
       try walk_nrm)
    | (co_apply opsC_unwanted TP rfl (by rfl)
       try walk_nrm)
    | (co_ctl TP; try co_then))
  co_apply opsC_call TP rfl (by rfl) rfl
  · walk_nrm
    exact hE _ (by first | (rw [at_size, hz']; exact hnb 4 (by omega)) | (rw [hz']; exact hnb 4 (by omega))) (by first | (rw [at_size, hz']; exact hnb 5 (by omega)) | (rw [hz']; exact hnb 5 (by omega))) (rowT_at hr0 |>.arg hA.max) (rowT_at hr1 |>.arg hA.max)
  rintro v w3 ⟨hv, hb3, hz3⟩
  first | rw [at_size, hz'] at hz3 | rw [hz'] at hz3
  subst hv
  replace hB : Below w.heap.size w w3 := by first | exact bstep hB (below_of_at hb3) | exact bstep hB hb3
  clear hb3 x0 x1 x2
  walk_nrm
  repeat (first
    | co_reg TP
    | (co_apply opsC_cons_k rfl (by rfl)
       intro _ hR K1 hK1
       obtain ⟨_, rfl⟩ := hR
       go_simp
       refine hK1 _ _ ⟨?_, ?_⟩
       · intro e he
         have hm := mem_listed he
         simp [go_sem, *] at hm
         try (rcases hm with rfl | rfl | rfl <;> exact evP _ _ (by first | exact nbx | exact nb0))
         try (subst hm; exact evP _ _ (by first | exact nbx | exact nb0))
       clear hK1 K1
       try walk_nrm)
    | (co_apply opsC_unwanted TP rfl (by rfl)
       try walk_nrm)
    | (co_ctl TP; try co_then))
  exact ⟨rfl, below_at hB, by rw [at_size, hz3, hz], _, _, _, _, rfl⟩

set_option maxRecDepth 100000 in
set_option maxHeartbeats 4000000 in
theorem reg16_c (b0 g0 S : Nat) (hL1 : L.length ≤ 1048576) (hb : Nb Bad a1) (hA : ArgT W a1 L) (nbx : ¬ Bad (W.heap.size + 1)) (nb0 : ¬ Bad b0) (ng0 : ¬ Bad g0) (hnb : ∀ i, i < 6 → ¬ Bad (S + i)) : ∃ n, ∀ (w : World) (v0 v1 v4 v5 v6 v7 v9 v10 v11 v12 v13 v14 v15 v16 v17 v18 v19 v20 v21 v22 v23 v24 v25 v26 v27 v28 v29 v30 v31 v32 v33 v34 v35 v36 v37 v38 v39 v40 v41 v42 v43 v44 : Value), LawF W K L a0 cap0 f s a1 cap1 g u w → RowF w b0 [.slice (some ⟨g0, 0, none⟩) L.length L.length, .int .i64 g, .int .i64 u] → RowT w g0 L → w.heap.size = S →
    OpsC Try.prog true AtRel (DE (EvP Bad)) 4 ops16 [1, 2, 0, 3, 4] n (Q16 W b0 w v0 v1 v4 v5 v6 v7 v9 v10 v11 v12 v13 v14 v15 v16 v17 v18 v19 v20 v21 v22 v23 v24 v25 v26 v27 v28 v29 v30 v31 v32 v33 v34 v35 v36 v37 v38 v39) { tmps := #[v0, v1, .pointer (some ⟨W.heap.size, 0, none⟩), .pointer (some ⟨W.heap.size + 1, 0, none⟩), v4, v5, v6, v7, .pointer (some ⟨b0, 0, none⟩), v9, v10, v11, v12, v13, v14, v15, v16, v17, v18, v19, v20, v21, v22, v23, v24, v25, v26, v27, v28, v29, v30, v31, v32, v33, v34, v35, v36, v37, v38, v39, v40, v41, v42, v43, v44], defers := [] } w := by
  have A1 := at_cell
  have A2 := at_frozen
  have A3 := at_size
  have A4 := at_at
  have A5 := at_alloc
  have A6 := at_set
  have TP := termsP Bad
  have hls := fun w es ty s => events_len_string (P := Try.prog) w es 9 ty s Try.underlying9
  obtain ⟨G1, hG1⟩ : ∃ G1, Hid (G1 = S + 3) := ⟨_, rfl⟩
  have ng1 : ¬ Bad G1 := by rw [show G1 = S + 3 from hG1.out]; exact hnb 3 (by omega)
  obtain ⟨nA, hT⟩ := toShow_c Bad L hL1 a1 cap1 hb g u
  obtain ⟨nE, hE⟩ := eqShow_c Bad L hL1 (some ⟨g0, 0, none⟩) (some ⟨G1, 0, none⟩) L.length L.length (nb_some ng0) (nb_some ng1) g u
  co_apply Exists.intro
  intro w v0 v1 v4 v5 v6 v7 v9 v10 v11 v12 v13 v14 v15 v16 v17 v18 v19 v20 v21 v22 v23 v24 v25 v26 v27 v28 v29 v30 v31 v32 v33 v34 v35 v36 v37 v38 v39 v40 v41 v42 v43 v44 hF hX hr0 hz
  simp only [ops16, lawC12, lawC9, lawC8, lawB, Try.f4, Option.getD_some]
  have ⟨p0, p1, p2, r0, r1, r2⟩ := hF.cells
  have x0 := (hX.2 0 (by simp)).1
  have x1 := (hX.2 1 (by simp)).1
  have x2 := (hX.2 2 (by simp)).1
  simp only [List.getElem_cons_zero, List.getElem_cons_succ] at x0 x1 x2
  repeat (first
    | co_reg TP
    | (co_apply opsC_cons_k rfl (by rfl)
       intro _ hR K1 hK1
       obtain ⟨_, rfl⟩ := hR
       go_simp
       refine hK1 _ _ ⟨?_, ?_⟩
       · intro e he
         have hm := mem_listed he
         simp [go_sem, *] at hm
         try (rcases hm with rfl | rfl | rfl <;> exact evP _ _ (by first | exact nbx | exact nb0))
         try (subst hm; exact evP _ _ (by first | exact nbx | exact nb0))
       clear hK1 K1
       try walk_nrm)
    | (co_apply opsC_unwanted TP rfl (by rfl)
       try walk_nrm)
    | (co_ctl TP; try co_then))
  co_apply opsC_callM TP rfl (by rfl) rfl
  · walk_nrm
    exact hT _ (by first | (rw [at_size, hz]; exact hnb 0 (by omega)) | (rw [hz]; exact hnb 0 (by omega))) (by first | (rw [at_size, hz]; exact hnb 1 (by omega)) | (rw [hz]; exact hnb 1 (by omega))) (by first | (rw [at_size, hz]; exact hnb 2 (by omega)) | (rw [hz]; exact hnb 2 (by omega))) (by first | (rw [at_size, hz]; exact hnb 3 (by omega)) | (rw [hz]; exact hnb 3 (by omega))) (hA.call (below_at hF.bel))
  rintro v w' ⟨hv, hr1, hb', hz'⟩
  first | rw [at_size, hz] at hv hr1 hz' | rw [hz] at hv hr1 hz'
  rw [← show G1 = S + 3 from hG1.out] at hv hr1
  clear p0 p1 p2 r0 r1 r2 x0 x1 x2
  subst hv
  have hB : Below w.heap.size w w' := below_of_at hb'
  replace hX := hX.call hB
  replace hr0 := hr0.call hB
  have x0 := (hX.2 0 (by simp)).1
  have x1 := (hX.2 1 (by simp)).1
  have x2 := (hX.2 2 (by simp)).1
  simp only [List.getElem_cons_zero, List.getElem_cons_succ] at x0 x1 x2
  clear hb' hF
  walk_nrm
  repeat (first
    | co_reg TP
    | (co_apply opsC_cons_k rfl (by rfl)
       intro _ hR K1 hK1
       obtain ⟨_, rfl⟩ := hR
       go_simp
       refine hK1 _ _ ⟨?_, ?_⟩
       · intro e he
         have hm := mem_listed he
         simp [go_sem, *] at hm
         try (rcases hm with rfl | rfl | rfl <;> exact evP _ _ (by first | exact nbx | exact nb0))
         try (subst hm; exact evP _ _ (by first | exact nbx | exact nb0))
       clear hK1 K1
       try walk_nrm)
    | (co_apply opsC_unwanted TP rfl (by rfl)
       try walk_nrm)
    | (co_ctl TP; try co_then))
  co_apply opsC_call TP rfl (by rfl) rfl
  · walk_nrm
    exact hE _ (by first | (rw [at_size, hz']; exact hnb 4 (by omega)) | (rw [hz']; exact hnb 4 (by omega))) (by first | (rw [at_size, hz']; exact hnb 5 (by omega)) | (rw [hz']; exact hnb 5 (by omega))) (rowT_at hr0 |>.arg hA.max) (rowT_at hr1 |>.arg hA.max)
  rintro v w3 ⟨hv, hb3, hz3⟩
  first | rw [at_size, hz'] at hz3 | rw [hz'] at hz3
  subst hv
  replace hB : Below w.heap.size w w3 := by first | exact bstep hB (below_of_at hb3) | exact bstep hB hb3
  clear hb3 x0 x1 x2
  walk_nrm
  repeat (first
    | co_reg TP
    | (co_apply opsC_cons_k rfl (by rfl)
       intro _ hR K1 hK1
       obtain ⟨_, rfl⟩ := hR
       go_simp
       refine hK1 _ _ ⟨?_, ?_⟩
       · intro e he
         have hm := mem_listed he
         simp [go_sem, *] at hm
         try (rcases hm with rfl | rfl | rfl <;> exact evP _ _ (by first | exact nbx | exact nb0))
         try (subst hm; exact evP _ _ (by first | exact nbx | exact nb0))
       clear hK1 K1
       try walk_nrm)
    | (co_apply opsC_unwanted TP rfl (by rfl)
       try walk_nrm)
    | (co_ctl TP; try co_then))
  exact ⟨rfl, below_at hB, by rw [at_size, hz3, hz], _, _, _, _, rfl⟩

theorem reg16_any (b0 g0 S : Nat) (hL1 : L.length ≤ 1048576) (hb : Nb Bad a1) (hA : ArgT W a1 L) (nbx : ¬ Bad (W.heap.size + 1)) (nb0 : ¬ Bad b0) (ng0 : ¬ Bad g0) (hnb : ∀ i, i < 6 → ¬ Bad (S + i)) : ∃ n, ∀ (w : World) (v0 v1 v4 v5 v6 v7 v9 v10 v11 v12 v13 v14 v15 v16 v17 v18 v19 v20 v21 v22 v23 v24 v25 v26 v27 v28 v29 v30 v31 v32 v33 v34 v35 v36 v37 v38 v39 v40 v41 v42 v43 v44 : Value), LawF W K L a0 cap0 f s a1 cap1 g u w → RowF w b0 [.slice (some ⟨g0, 0, none⟩) L.length L.length, .int .i64 g, .int .i64 u] → RowT w g0 L → w.heap.size = S →
    (Code.region 16 ops16 true).wpC Try.prog true AtRel (DE (EvP Bad)) 4 n (Q16 W b0 w v0 v1 v4 v5 v6 v7 v9 v10 v11 v12 v13 v14 v15 v16 v17 v18 v19 v20 v21 v22 v23 v24 v25 v26 v27 v28 v29 v30 v31 v32 v33 v34 v35 v36 v37 v38 v39) { tmps := #[v0, v1, .pointer (some ⟨W.heap.size, 0, none⟩), .pointer (some ⟨W.heap.size + 1, 0, none⟩), v4, v5, v6, v7, .pointer (some ⟨b0, 0, none⟩), v9, v10, v11, v12, v13, v14, v15, v16, v17, v18, v19, v20, v21, v22, v23, v24, v25, v26, v27, v28, v29, v30, v31, v32, v33, v34, v35, v36, v37, v38, v39, v40, v41, v42, v43, v44], defers := [] } w := by
  obtain ⟨n1, H1⟩ := reg16_a Bad W K L a0 a1 cap0 cap1 f s g u b0 g0 S hL1 hb hA nbx nb0 ng0 hnb
  obtain ⟨n2, H2⟩ := reg16_b Bad W K L a0 a1 cap0 cap1 f s g u b0 g0 S hL1 hb hA nbx nb0 ng0 hnb
  obtain ⟨n3, H3⟩ := reg16_c Bad W K L a0 a1 cap0 cap1 f s g u b0 g0 S hL1 hb hA nbx nb0 ng0 hnb
  refine ⟨max n1 (max n2 n3) + 1, fun w v0 v1 v4 v5 v6 v7 v9 v10 v11 v12 v13 v14 v15 v16 v17 v18 v19 v20 v21 v22 v23 v24 v25 v26 v27 v28 v29 v30 v31 v32 v33 v34 v35 v36 v37 v38 v39 v40 v41 v42 v43 v44 hF hX hr hz => wpC_region_draw (draws _) fun w₁ hR t => ?_⟩
  obtain ⟨d, rfl⟩ := hR
  have hF' : LawF W K L a0 cap0 f s a1 cap1 g u (w.at (d + 1)) := hF.at
  have hz' : (w.at (d + 1)).heap.size = S := hz
  rcases sched16 t with e | e | e <;> rw [e]
  · exact opsC_more (opsC_post (H1 (w.at (d + 1)) v0 v1 v4 v5 v6 v7 v9 v10 v11 v12 v13 v14 v15 v16 v17 v18 v19 v20 v21 v22 v23 v24 v25 v26 v27 v28 v29 v30 v31 v32 v33 v34 v35 v36 v37 v38 v39 v40 v41 v42 v43 v44 hF' hX hr hz') fun _ _ _ q => ⟨q.1, below_of_at q.2.1, q.2.2.1, q.2.2.2⟩) (Nat.le_max_left _ _)
  · exact opsC_more (opsC_post (H2 (w.at (d + 1)) v0 v1 v4 v5 v6 v7 v9 v10 v11 v12 v13 v14 v15 v16 v17 v18 v19 v20 v21 v22 v23 v24 v25 v26 v27 v28 v29 v30 v31 v32 v33 v34 v35 v36 v37 v38 v39 v40 v41 v42 v43 v44 hF' hX hr hz') fun _ _ _ q => ⟨q.1, below_of_at q.2.1, q.2.2.1, q.2.2.2⟩) (Nat.le_trans (Nat.le_max_left _ _) (Nat.le_max_right _ _))
  · exact opsC_more (opsC_post (H3 (w.at (d + 1)) v0 v1 v4 v5 v6 v7 v9 v10 v11 v12 v13 v14 v15 v16 v17 v18 v19 v20 v21 v22 v23 v24 v25 v26 v27 v28 v29 v30 v31 v32 v33 v34 v35 v36 v37 v38 v39 v40 v41 v42 v43 v44 hF' hX hr hz') fun _ _ _ q => ⟨q.1, below_of_at q.2.1, q.2.2.1, q.2.2.2⟩) (Nat.le_trans (Nat.le_max_right _ _) (Nat.le_max_right _ _))
end

end Go.Proofs.Ytnndfgceehfiiaa
