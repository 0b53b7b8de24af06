/-
  The law of Alike: its regions that draw their order. (tools/genlwb.py)
-/
import Derived.Test.YtnndfgceehfiiaaLwA
namespace Go.Proofs.Ytnndfgceehfiiaa
open Go.Conc Go.RowKit

/-- What holds all through the law: what came in stays; its two boxes. -/
structure LawF (W : World) (K L : List ByteArray) (a0 : Option Addr) (cap0 : Nat) (f s : Int) (a1 : Option Addr) (cap1 : Nat) (g u : Int) (w : World) : Prop where
  bel : Below W.heap.size W w
  bx : RowF w W.heap.size [.slice a0 K.length cap0, .int .i64 f, .int .i64 s]
  bY : RowF w (W.heap.size + 1) [.slice a1 L.length cap1, .int .i64 g, .int .i64 u]
theorem below_of_at {X Y : World} {d : Nat} (hb : Below (X.at d).heap.size (X.at d) Y) : Below X.heap.size X Y := ⟨hb.os, hb.tape, hb.output, hb.size, hb.block⟩
section
variable {W X Y : World} {K L : List ByteArray} {a0 a1 : Option Addr} {cap0 cap1 : Nat} {f s g u : Int}
theorem LawF.call (h : LawF W K L a0 cap0 f s a1 cap1 g u X) (hb : Below X.heap.size X Y) : LawF W K L a0 cap0 f s a1 cap1 g u Y := ⟨bstep h.bel hb, h.bx.call hb, h.bY.call hb⟩
theorem LawF.step {d : Nat} (h : LawF W K L a0 cap0 f s a1 cap1 g u X) (hb : Below (X.at d).heap.size (X.at d) Y) : LawF W K L a0 cap0 f s a1 cap1 g u Y := h.call (below_of_at hb)
theorem LawF.at {d : Nat} (h : LawF W K L a0 cap0 f s a1 cap1 g u X) : LawF W K L a0 cap0 f s a1 cap1 g u (X.at d) := ⟨below_at h.bel, h.bx, h.bY⟩
theorem LawF.cells (h : LawF W K L a0 cap0 f s a1 cap1 g u X) :
    X.cell? ⟨W.heap.size, 0, none⟩ = some (.slice a0 K.length cap0) ∧ X.cell? ⟨W.heap.size, 1, none⟩ = some (.int .i64 f) ∧ X.cell? ⟨W.heap.size, 2, none⟩ = some (.int .i64 s) ∧ X.cell? ⟨W.heap.size + 1, 0, none⟩ = some (.slice a1 L.length cap1) ∧ X.cell? ⟨W.heap.size + 1, 1, none⟩ = some (.int .i64 g) ∧ X.cell? ⟨W.heap.size + 1, 2, none⟩ = some (.int .i64 u) :=
  ⟨(h.bx.2 0 (by simp)).1, (h.bx.2 1 (by simp)).1, (h.bx.2 2 (by simp)).1, (h.bY.2 0 (by simp)).1, (h.bY.2 1 (by simp)).1, (h.bY.2 2 (by simp)).1⟩
theorem RowT.step {d gg : Nat} (h : RowT X gg K) (hb : Below (X.at d).heap.size (X.at d) Y) : RowT Y gg K := h.call (below_of_at hb)
theorem RowF.step {d gg : Nat} {C : List Value} (h : RowF X gg C) (hb : Below (X.at d).heap.size (X.at d) Y) : RowF Y gg C := h.call (below_of_at hb)
theorem rowF_at {d gg : Nat} {C : List Value} (h : RowF X gg C) : RowF (X.at d) gg C := h
theorem sz_at {d S : Nat} (h : X.heap.size = S) : (X.at d).heap.size = S := h
theorem ArgT.max {a : Option Addr} (h : ArgT W a K) : ∀ i (hi : i < K.length), K[i].size ≤ maxLen := fun i hi => by obtain ⟨_, _, _, _, _, hm⟩ := h i hi; exact hm
end
theorem nb_some {Bad : Nat → Prop} {g : Nat} (h : ¬ Bad g) : Nb Bad (some ⟨g, 0, none⟩) := fun _ _ e => by cases e; exact h

section
variable (Bad : Nat → Prop) (W : World) (K L : List ByteArray) (a0 a1 : Option Addr) (cap0 cap1 : Nat) (f s g u : Int)

/-- Behind region 8. -/
def Q8 (v0 v1 v4 v5 v7 v8 v9 v10 v11 v12 v13 v14 v15 v16 v17 v18 v19 v25 v26 v27 v28 v29 v30 v31 v32 v33 v34 v35 v36 v37 v38 v39 v40 v41 v42 v43 v44 : Value) (e : Exit) (a' : Act) (w' : World) : Prop :=
  e = .normal ∧ LawF W K L a0 cap0 f s a1 cap1 g u w' ∧ w'.heap.size = W.heap.size + 12 + alikeN f g ∧ ∃ y20 y21 y22 y23 y24 : Value, a' = { tmps := #[v0, v1, .pointer (some ⟨W.heap.size, 0, none⟩), .pointer (some ⟨W.heap.size + 1, 0, none⟩), v4, v5, .bool (alikeB K f L g), v7, v8, v9, v10, v11, v12, v13, v14, v15, v16, v17, v18, v19, y20, y21, y22, y23, y24, v25, v26, v27, v28, v29, v30, v31, v32, v33, v34, v35, v36, v37, v38, v39, v40, v41, v42, v43, v44], defers := [] }

set_option maxRecDepth 100000 in
set_option maxHeartbeats 4000000 in
theorem reg8_a (hK1 : K.length ≤ 1048576) (hL1 : L.length ≤ 1048576) (hb0 : Nb Bad a0) (hb1 : Nb Bad a1) (h0 : ArgT W a0 K) (h1 : ArgT W a1 L) (hnb : ∀ b, b < W.heap.size + 17 → ¬ Bad b) : ∃ n, ∀ (w : World) (v0 v1 v4 v5 v6 v7 v8 v9 v10 v11 v12 v13 v14 v15 v16 v17 v18 v19 v20 v21 v22 v23 v24 v25 v26 v27 v28 v29 v30 v31 v32 v33 v34 v35 v36 v37 v38 v39 v40 v41 v42 v43 v44 : Value), LawF W K L a0 cap0 f s a1 cap1 g u w → w.heap.size = W.heap.size + 4 →
    OpsC Try.prog true AtRel (DE (EvP Bad)) 4 ops8 [0, 1, 2, 3, 4, 5] n (Q8 W K L a0 a1 cap0 cap1 f s g u v0 v1 v4 v5 v7 v8 v9 v10 v11 v12 v13 v14 v15 v16 v17 v18 v19 v25 v26 v27 v28 v29 v30 v31 v32 v33 v34 v35 v36 v37 v38 v39 v40 v41 v42 v43 v44) { tmps := #[v0, v1, .pointer (some ⟨W.heap.size, 0, none⟩), .pointer (some ⟨W.heap.size + 1, 0, none⟩), v4, v5, v6, v7, v8, v9, v10, v11, v12, v13, v14, v15, v16, v17, v18, v19, v20, v21, v22, v23, v24, v25, v26, v27, v28, v29, v30, v31, v32, v33, v34, v35, v36, v37, v38, v39, v40, v41, v42, v43, v44], defers := [] } w := by
  have A1 := at_cell
  have A2 := at_frozen
  have A3 := at_size
  have A4 := at_at
  have A5 := at_alloc
  have A6 := at_set
  have TP := termsP Bad
  have hls := fun w es ty s => events_len_string (P := Try.prog) w es 9 ty s Try.underlying9
  have nb0 : ¬ Bad W.heap.size := hnb _ (by omega)
  have nb1 : ¬ Bad (W.heap.size + 1) := hnb _ (by omega)
  obtain ⟨G0, hG0⟩ : ∃ G0, Hid (G0 = W.heap.size + 4 + 3) := ⟨_, rfl⟩
  obtain ⟨G1, hG1⟩ : ∃ G1, Hid (G1 = W.heap.size + 8 + 3) := ⟨_, rfl⟩
  have ng0 : ¬ Bad G0 := hnb _ (by have : G0 = W.heap.size + 4 + 3 := hG0.out; omega)
  have ng1 : ¬ Bad G1 := hnb _ (by have : G1 = W.heap.size + 8 + 3 := hG1.out; omega)
  obtain ⟨nA, hA⟩ := toShow_c Bad K hK1 a0 cap0 hb0 f s
  obtain ⟨nB, hB⟩ := toShow_c Bad L hL1 a1 cap1 hb1 g u
  obtain ⟨nS, hS⟩ := alikeS_c Bad K L hK1 hL1 (some ⟨G0, 0, none⟩) (some ⟨G1, 0, none⟩) (nb_some ng0) (nb_some ng1) f s g u
  co_apply Exists.intro
  intro w v0 v1 v4 v5 v6 v7 v8 v9 v10 v11 v12 v13 v14 v15 v16 v17 v18 v19 v20 v21 v22 v23 v24 v25 v26 v27 v28 v29 v30 v31 v32 v33 v34 v35 v36 v37 v38 v39 v40 v41 v42 v43 v44 hF hz
  simp only [ops8, lawC8, lawB, Try.f4, Option.getD_some]
  have ⟨p0, p1, p2, r0, r1, r2⟩ := hF.cells
  repeat (first
    | co_reg TP
    | (co_apply opsC_cons_k rfl (by rfl)
       intro _ hR K1 hK1
       obtain ⟨_, rfl⟩ := hR
       go_simp
       refine hK1 _ _ ⟨?_, ?_⟩
       · intro e he
         have hm := mem_listed he
         simp [go_sem, *] at hm
         try (rcases hm with rfl | rfl | rfl <;> exact evP _ _ (by first | exact nb0 | exact nb1))
         try (subst hm; exact evP _ _ (by first | exact nb0 | exact nb1))
       clear hK1 K1
       try walk_nrm)
    | (co_apply opsC_unwanted TP rfl (by rfl)
       try walk_nrm)
    | (co_ctl TP; try co_then))
  co_apply opsC_callM TP rfl (by rfl) rfl
  · walk_nrm
    exact hA _ (by first | (rw [at_size, hz]; exact hnb _ (by omega)) | (rw [hz]; exact hnb _ (by omega))) (by first | (rw [at_size, hz]; exact hnb _ (by omega)) | (rw [hz]; exact hnb _ (by omega))) (by first | (rw [at_size, hz]; exact hnb _ (by omega)) | (rw [hz]; exact hnb _ (by omega))) (by first | (rw [at_size, hz]; exact hnb _ (by omega)) | (rw [hz]; exact hnb _ (by omega))) (h0.call (below_at hF.bel))
  rintro v w' ⟨hv, hr0, hb', hz'⟩
  first | rw [at_size, hz] at hv hr0 hz' | rw [hz] at hv hr0 hz'
  have e0 : G0 = W.heap.size + 4 + 3 := hG0.out
  rw [← e0] at hv hr0
  clear e0 hz p0 p1 p2 r0 r1 r2
  subst hv
  replace hF : LawF W K L a0 cap0 f s a1 cap1 g u w' := by first | exact hF.step hb' | exact hF.call hb'
  clear hb'
  have hz : w'.heap.size = W.heap.size + 8 := hz'
  clear hz'
  walk_nrm
  have ⟨p0, p1, p2, r0, r1, r2⟩ := hF.cells
  repeat (first
    | co_reg TP
    | (co_apply opsC_cons_k rfl (by rfl)
       intro _ hR K1 hK1
       obtain ⟨_, rfl⟩ := hR
       go_simp
       refine hK1 _ _ ⟨?_, ?_⟩
       · intro e he
         have hm := mem_listed he
         simp [go_sem, *] at hm
         try (rcases hm with rfl | rfl | rfl <;> exact evP _ _ (by first | exact nb0 | exact nb1))
         try (subst hm; exact evP _ _ (by first | exact nb0 | exact nb1))
       clear hK1 K1
       try walk_nrm)
    | (co_apply opsC_unwanted TP rfl (by rfl)
       try walk_nrm)
    | (co_ctl TP; try co_then))
  co_apply opsC_callM TP rfl (by rfl) rfl
  · walk_nrm
    exact hB _ (by first | (rw [at_size, hz]; exact hnb _ (by omega)) | (rw [hz]; exact hnb _ (by omega))) (by first | (rw [at_size, hz]; exact hnb _ (by omega)) | (rw [hz]; exact hnb _ (by omega))) (by first | (rw [at_size, hz]; exact hnb _ (by omega)) | (rw [hz]; exact hnb _ (by omega))) (by first | (rw [at_size, hz]; exact hnb _ (by omega)) | (rw [hz]; exact hnb _ (by omega))) (h1.call (below_at hF.bel))
  rintro v w' ⟨hv, hr1, hb', hz'⟩
  first | rw [at_size, hz] at hv hr1 hz' | rw [hz] at hv hr1 hz'
  have e1 : G1 = W.heap.size + 8 + 3 := hG1.out
  rw [← e1] at hv hr1
  clear e1 hz p0 p1 p2 r0 r1 r2
  subst hv
  replace hF : LawF W K L a0 cap0 f s a1 cap1 g u w' := by first | exact hF.step hb' | exact hF.call hb'
  replace hr0 : RowT w' G0 K := by first | exact hr0.step hb' | exact hr0.call hb'
  clear hb'
  have hz : w'.heap.size = W.heap.size + 12 := hz'
  clear hz'
  walk_nrm
  have ⟨p0, p1, p2, r0, r1, r2⟩ := hF.cells
  repeat (first
    | co_reg TP
    | (co_apply opsC_cons_k rfl (by rfl)
       intro _ hR K1 hK1
       obtain ⟨_, rfl⟩ := hR
       go_simp
       refine hK1 _ _ ⟨?_, ?_⟩
       · intro e he
         have hm := mem_listed he
         simp [go_sem, *] at hm
         try (rcases hm with rfl | rfl | rfl <;> exact evP _ _ (by first | exact nb0 | exact nb1))
         try (subst hm; exact evP _ _ (by first | exact nb0 | exact nb1))
       clear hK1 K1
       try walk_nrm)
    | (co_apply opsC_unwanted TP rfl (by rfl)
       try walk_nrm)
    | (co_ctl TP; try co_then))
  co_apply opsC_call TP rfl (by rfl) rfl
  · walk_nrm
    exact hS _ (fun i hi => by first | (rw [at_size, hz]; exact hnb _ (by omega)) | (rw [hz]; exact hnb _ (by omega))) (rowT_at hr0 |>.arg h0.max) (rowT_at hr1 |>.arg h1.max)
  rintro v w' ⟨hv, hb', hz'⟩
  first | rw [at_size, hz] at hz' | rw [hz] at hz'
  subst hv
  replace hF : LawF W K L a0 cap0 f s a1 cap1 g u w' := by first | exact hF.step hb' | exact hF.call hb'
  clear hb' hz p0 p1 p2 r0 r1 r2
  walk_nrm
  repeat (first
    | co_reg TP
    | (co_apply opsC_cons_k rfl (by rfl)
       intro _ hR K1 hK1
       obtain ⟨_, rfl⟩ := hR
       go_simp
       refine hK1 _ _ ⟨?_, ?_⟩
       · intro e he
         have hm := mem_listed he
         simp [go_sem, *] at hm
         try (rcases hm with rfl | rfl | rfl <;> exact evP _ _ (by first | exact nb0 | exact nb1))
         try (subst hm; exact evP _ _ (by first | exact nb0 | exact nb1))
       clear hK1 K1
       try walk_nrm)
    | (co_apply opsC_unwanted TP rfl (by rfl)
       try walk_nrm)
    | (co_ctl TP; try co_then))
  exact ⟨rfl, hF.at, hz', _, _, _, _, _, rfl⟩

set_option maxRecDepth 100000 in
set_option maxHeartbeats 4000000 in
theorem reg8_b (hK1 : K.length ≤ 1048576) (hL1 : L.length ≤ 1048576) (hb0 : Nb Bad a0) (hb1 : Nb Bad a1) (h0 : ArgT W a0 K) (h1 : ArgT W a1 L) (hnb : ∀ b, b < W.heap.size + 17 → ¬ Bad b) : ∃ n, ∀ (w : World) (v0 v1 v4 v5 v6 v7 v8 v9 v10 v11 v12 v13 v14 v15 v16 v17 v18 v19 v20 v21 v22 v23 v24 v25 v26 v27 v28 v29 v30 v31 v32 v33 v34 v35 v36 v37 v38 v39 v40 v41 v42 v43 v44 : Value), LawF W K L a0 cap0 f s a1 cap1 g u w → w.heap.size = W.heap.size + 4 →
    OpsC Try.prog true AtRel (DE (EvP Bad)) 4 ops8 [0, 2, 1, 3, 4, 5] n (Q8 W K L a0 a1 cap0 cap1 f s g u v0 v1 v4 v5 v7 v8 v9 v10 v11 v12 v13 v14 v15 v16 v17 v18 v19 v25 v26 v27 v28 v29 v30 v31 v32 v33 v34 v35 v36 v37 v38 v39 v40 v41 v42 v43 v44) { tmps := #[v0, v1, .pointer (some ⟨W.heap.size, 0, none⟩), .pointer (some ⟨W.heap.size + 1, 0, none⟩), v4, v5, v6, v7, v8, v9, v10, v11, v12, v13, v14, v15, v16, v17, v18, v19, v20, v21, v22, v23, v24, v25, v26, v27, v28, v29, v30, v31, v32, v33, v34, v35, v36, v37, v38, v39, v40, v41, v42, v43, v44], defers := [] } w := by
  have A1 := at_cell
  have A2 := at_frozen
  have A3 := at_size
  have A4 := at_at
  have A5 := at_alloc
  have A6 := at_set
  have TP := termsP Bad
  have hls := fun w es ty s => events_len_string (P := Try.prog) w es 9 ty s Try.underlying9
  have nb0 : ¬ Bad W.heap.size := hnb _ (by omega)
  have nb1 : ¬ Bad (W.heap.size + 1) := hnb _ (by omega)
  obtain ⟨G0, hG0⟩ : ∃ G0, Hid (G0 = W.heap.size + 4 + 3) := ⟨_, rfl⟩
  obtain ⟨G1, hG1⟩ : ∃ G1, Hid (G1 = W.heap.size + 8 + 3) := ⟨_, rfl⟩
  have ng0 : ¬ Bad G0 := hnb _ (by have : G0 = W.heap.size + 4 + 3 := hG0.out; omega)
  have ng1 : ¬ Bad G1 := hnb _ (by have : G1 = W.heap.size + 8 + 3 := hG1.out; omega)
  obtain ⟨nA, hA⟩ := toShow_c Bad K hK1 a0 cap0 hb0 f s
  obtain ⟨nB, hB⟩ := toShow_c Bad L hL1 a1 cap1 hb1 g u
  obtain ⟨nS, hS⟩ := alikeS_c Bad K L hK1 hL1 (some ⟨G0, 0, none⟩) (some ⟨G1, 0, none⟩) (nb_some ng0) (nb_some ng1) f s g u
  co_apply Exists.intro
  intro w v0 v1 v4 v5 v6 v7 v8 v9 v10 v11 v12 v13 v14 v15 v16 v17 v18 v19 v20 v21 v22 v23 v24 v25 v26 v27 v28 v29 v30 v31 v32 v33 v34 v35 v36 v37 v38 v39 v40 v41 v42 v43 v44 hF hz
  simp only [ops8, lawC8, lawB, Try.f4, Option.getD_some]
  have ⟨p0, p1, p2, r0, r1, r2⟩ := hF.cells
  repeat (first
    | co_reg TP
    | (co_apply opsC_cons_k rfl (by rfl)
       intro _ hR K1 hK1
       obtain ⟨_, rfl⟩ := hR
       go_simp
       refine hK1 _ _ ⟨?_, ?_⟩
       · intro e he
         have hm := mem_listed he
         simp [go_sem, *] at hm
         try (rcases hm with rfl | rfl | rfl <;> exact evP _ _ (by first | exact nb0 | exact nb1))
         try (subst hm; exact evP _ _ (by first | exact nb0 | exact nb1))
       clear hK1 K1
       try walk_nrm)
    | (co_apply opsC_unwanted TP rfl (by rfl)
       try walk_nrm)
    | (co_ctl TP; try co_then))
  co_apply opsC_callM TP rfl (by rfl) rfl
  · walk_nrm
    exact hA _ (by first | (rw [at_size, hz]; exact hnb _ (by omega)) | (rw [hz]; exact hnb _ (by omega))) (by first | (rw [at_size, hz]; exact hnb _ (by omega)) | (rw [hz]; exact hnb _ (by omega))) (by first | (rw [at_size, hz]; exact hnb _ (by omega)) | (rw [hz]; exact hnb _ (by omega))) (by first | (rw [at_size, hz]; exact hnb _ (by omega)) | (rw [hz]; exact hnb _ (by omega))) (h0.call (below_at hF.bel))
  rintro v w' ⟨hv, hr0, hb', hz'⟩
  first | rw [at_size, hz] at hv hr0 hz' | rw [hz] at hv hr0 hz'
  have e0 : G0 = W.heap.size + 4 + 3 := hG0.out
  rw [← e0] at hv hr0
  clear e0 hz p0 p1 p2 r0 r1 r2
  subst hv
  replace hF : LawF W K L a0 cap0 f s a1 cap1 g u w' := by first | exact hF.step hb' | exact hF.call hb'
  clear hb'
  have hz : w'.heap.size = W.heap.size + 8 := hz'
  clear hz'
  walk_nrm
  have ⟨p0, p1, p2, r0, r1, r2⟩ := hF.cells
  repeat (first
    | co_reg TP
    | (co_apply opsC_cons_k rfl (by rfl)
       intro _ hR K1 hK1
       obtain ⟨_, rfl⟩ := hR
       go_simp
       refine hK1 _ _ ⟨?_, ?_⟩
       · intro e he
         have hm := mem_listed he
         simp [go_sem, *] at hm
         try (rcases hm with rfl | rfl | rfl <;> exact evP _ _ (by first | exact nb0 | exact nb1))
         try (subst hm; exact evP _ _ (by first | exact nb0 | exact nb1))
       clear hK1 K1
       try walk_nrm)
    | (co_apply opsC_unwanted TP rfl (by rfl)
       try walk_nrm)
    | (co_ctl TP; try co_then))
  co_apply opsC_callM TP rfl (by rfl) rfl
  · walk_nrm
    exact hB _ (by first | (rw [at_size, hz]; exact hnb _ (by omega)) | (rw [hz]; exact hnb _ (by omega))) (by first | (rw [at_size, hz]; exact hnb _ (by omega)) | (rw [hz]; exact hnb _ (by omega))) (by first | (rw [at_size, hz]; exact hnb _ (by omega)) | (rw [hz]; exact hnb _ (by omega))) (by first | (rw [at_size, hz]; exact hnb _ (by omega)) | (rw [hz]; exact hnb _ (by omega))) (h1.call (below_at hF.bel))
  rintro v w' ⟨hv, hr1, hb', hz'⟩
  first | rw [at_size, hz] at hv hr1 hz' | rw [hz] at hv hr1 hz'
  have e1 : G1 = W.heap.size + 8 + 3 := hG1.out
  rw [← e1] at hv hr1
  clear e1 hz p0 p1 p2 r0 r1 r2
  subst hv
  replace hF : LawF W K L a0 cap0 f s a1 cap1 g u w' := by first | exact hF.step hb' | exact hF.call hb'
  replace hr0 : RowT w' G0 K := by first | exact hr0.step hb' | exact hr0.call hb'
  clear hb'
  have hz : w'.heap.size = W.heap.size + 12 := hz'
  clear hz'
  walk_nrm
  have ⟨p0, p1, p2, r0, r1, r2⟩ := hF.cells
  repeat (first
    | co_reg TP
    | (co_apply opsC_cons_k rfl (by rfl)
       intro _ hR K1 hK1
       obtain ⟨_, rfl⟩ := hR
       go_simp
       refine hK1 _ _ ⟨?_, ?_⟩
       · intro e he
         have hm := mem_listed he
         simp [go_sem, *] at hm
         try (rcases hm with rfl | rfl | rfl <;> exact evP _ _ (by first | exact nb0 | exact nb1))
         try (subst hm; exact evP _ _ (by first | exact nb0 | exact nb1))
       clear hK1 K1
       try walk_nrm)
    | (co_apply opsC_unwanted TP rfl (by rfl)
       try walk_nrm)
    | (co_ctl TP; try co_then))
  co_apply opsC_call TP rfl (by rfl) rfl
  · walk_nrm
    exact hS _ (fun i hi => by first | (rw [at_size, hz]; exact hnb _ (by omega)) | (rw [hz]; exact hnb _ (by omega))) (rowT_at hr0 |>.arg h0.max) (rowT_at hr1 |>.arg h1.max)
  rintro v w' ⟨hv, hb', hz'⟩
  first | rw [at_size, hz] at hz' | rw [hz] at hz'
  subst hv
  replace hF : LawF W K L a0 cap0 f s a1 cap1 g u w' := by first | exact hF.step hb' | exact hF.call hb'
  clear hb' hz p0 p1 p2 r0 r1 r2
  walk_nrm
  repeat (first
    | co_reg TP
    | (co_apply opsC_cons_k rfl (by rfl)
       intro _ hR K1 hK1
       obtain ⟨_, rfl⟩ := hR
       go_simp
       refine hK1 _ _ ⟨?_, ?_⟩
       · intro e he
         have hm := mem_listed he
         simp [go_sem, *] at hm
         try (rcases hm with rfl | rfl | rfl <;> exact evP _ _ (by first | exact nb0 | exact nb1))
         try (subst hm; exact evP _ _ (by first | exact nb0 | exact nb1))
       clear hK1 K1
       try walk_nrm)
    | (co_apply opsC_unwanted TP rfl (by rfl)
       try walk_nrm)
    | (co_ctl TP; try co_then))
  exact ⟨rfl, hF.at, hz', _, _, _, _, _, rfl⟩

set_option maxRecDepth 100000 in
set_option maxHeartbeats 4000000 in
theorem reg8_c (hK1 : K.length ≤ 1048576) (hL1 : L.length ≤ 1048576) (hb0 : Nb Bad a0) (hb1 : Nb Bad a1) (h0 : ArgT W a0 K) (h1 : ArgT W a1 L) (hnb : ∀ b, b < W.heap.size + 17 → ¬ Bad b) : ∃ n, ∀ (w : World) (v0 v1 v4 v5 v6 v7 v8 v9 v10 v11 v12 v13 v14 v15 v16 v17 v18 v19 v20 v21 v22 v23 v24 v25 v26 v27 v28 v29 v30 v31 v32 v33 v34 v35 v36 v37 v38 v39 v40 v41 v42 v43 v44 : Value), LawF W K L a0 cap0 f s a1 cap1 g u w → w.heap.size = W.heap.size + 4 →
    OpsC Try.prog true AtRel (DE (EvP Bad)) 4 ops8 [2, 0, 1, 3, 4, 5] n (Q8 W K L a0 a1 cap0 cap1 f s g u v0 v1 v4 v5 v7 v8 v9 v10 v11 v12 v13 v14 v15 v16 v17 v18 v19 v25 v26 v27 v28 v29 v30 v31 v32 v33 v34 v35 v36 v37 v38 v39 v40 v41 v42 v43 v44) { tmps := #[v0, v1, .pointer (some ⟨W.heap.size, 0, none⟩), .pointer (some ⟨W.heap.size + 1, 0, none⟩), v4, v5, v6, v7, v8, v9, v10, v11, v12, v13, v14, v15, v16, v17, v18, v19, v20, v21, v22, v23, v24, v25, v26, v27, v28, v29, v30, v31, v32, v33, v34, v35, v36, v37, v38, v39, v40, v41, v42, v43, v44], defers := [] } w := by
  have A1 := at_cell
  have A2 := at_frozen
  have A3 := at_size
  have A4 := at_at
  have A5 := at_alloc
  have A6 := at_set
  have TP := termsP Bad
  have hls := fun w es ty s => events_len_string (P := Try.prog) w es 9 ty s Try.underlying9
  have nb0 : ¬ Bad W.heap.size := hnb _ (by omega)
  have nb1 : ¬ Bad (W.heap.size + 1) := hnb _ (by omega)
  obtain ⟨G0, hG0⟩ : ∃ G0, Hid (G0 = W.heap.size + 4 + 3) := ⟨_, rfl⟩
  obtain ⟨G1, hG1⟩ : ∃ G1, Hid (G1 = W.heap.size + 8 + 3) := ⟨_, rfl⟩
  have ng0 : ¬ Bad G0 := hnb _ (by have : G0 = W.heap.size + 4 + 3 := hG0.out; omega)
  have ng1 : ¬ Bad G1 := hnb _ (by have : G1 = W.heap.size + 8 + 3 := hG1.out; omega)
  obtain ⟨nA, hA⟩ := toShow_c Bad K hK1 a0 cap0 hb0 f s
  obtain ⟨nB, hB⟩ := toShow_c Bad L hL1 a1 cap1 hb1 g u
  obtain ⟨nS, hS⟩ := alikeS_c Bad K L hK1 hL1 (some ⟨G0, 0, none⟩) (some ⟨G1, 0, none⟩) (nb_some ng0) (nb_some ng1) f s g u
  co_apply Exists.intro
  intro w v0 v1 v4 v5 v6 v7 v8 v9 v10 v11 v12 v13 v14 v15 v16 v17 v18 v19 v20 v21 v22 v23 v24 v25 v26 v27 v28 v29 v30 v31 v32 v33 v34 v35 v36 v37 v38 v39 v40 v41 v42 v43 v44 hF hz
  simp only [ops8, lawC8, lawB, Try.f4, Option.getD_some]
  have ⟨p0, p1, p2, r0, r1, r2⟩ := hF.cells
  repeat (first
    | co_reg TP
    | (co_apply opsC_cons_k rfl (by rfl)
       intro _ hR K1 hK1
       obtain ⟨_, rfl⟩ := hR
       go_simp
       refine hK1 _ _ ⟨?_, ?_⟩
       · intro e he
         have hm := mem_listed he
         simp [go_sem, *] at hm
         try (rcases hm with rfl | rfl | rfl <;> exact evP _ _ (by first | exact nb0 | exact nb1))
         try (subst hm; exact evP _ _ (by first | exact nb0 | exact nb1))
       clear hK1 K1
       try walk_nrm)
    | (co_apply opsC_unwanted TP rfl (by rfl)
       try walk_nrm)
    | (co_ctl TP; try co_then))
  co_apply opsC_callM TP rfl (by rfl) rfl
  · walk_nrm
    exact hA _ (by first | (rw [at_size, hz]; exact hnb _ (by omega)) | (rw [hz]; exact hnb _ (by omega))) (by first | (rw [at_size, hz]; exact hnb _ (by omega)) | (rw [hz]; exact hnb _ (by omega))) (by first | (rw [at_size, hz]; exact hnb _ (by omega)) | (rw [hz]; exact hnb _ (by omega))) (by first | (rw [at_size, hz]; exact hnb _ (by omega)) | (rw [hz]; exact hnb _ (by omega))) (h0.call (below_at hF.bel))
  rintro v w' ⟨hv, hr0, hb', hz'⟩
  first | rw [at_size, hz] at hv hr0 hz' | rw [hz] at hv hr0 hz'
  have e0 : G0 = W.heap.size + 4 + 3 := hG0.out
  rw [← e0] at hv hr0
  clear e0 hz p0 p1 p2 r0 r1 r2
  subst hv
  replace hF : LawF W K L a0 cap0 f s a1 cap1 g u w' := by first | exact hF.step hb' | exact hF.call hb'
  clear hb'
  have hz : w'.heap.size = W.heap.size + 8 := hz'
  clear hz'
  walk_nrm
  have ⟨p0, p1, p2, r0, r1, r2⟩ := hF.cells
  repeat (first
    | co_reg TP
    | (co_apply opsC_cons_k rfl (by rfl)
       intro _ hR K1 hK1
       obtain ⟨_, rfl⟩ := hR
       go_simp
       refine hK1 _ _ ⟨?_, ?_⟩
       · intro e he
         have hm := mem_listed he
         simp [go_sem, *] at hm
         try (rcases hm with rfl | rfl | rfl <;> exact evP _ _ (by first | exact nb0 | exact nb1))
         try (subst hm; exact evP _ _ (by first | exact nb0 | exact nb1))
       clear hK1 K1
       try walk_nrm)
    | (co_apply opsC_unwanted TP rfl (by rfl)
       try walk_nrm)
    | (co_ctl TP; try co_then))
  co_apply opsC_callM TP rfl (by rfl) rfl
  · walk_nrm
    exact hB _ (by first | (rw [at_size, hz]; exact hnb _ (by omega)) | (rw [hz]; exact hnb _ (by omega))) (by first | (rw [at_size, hz]; exact hnb _ (by omega)) | (rw [hz]; exact hnb _ (by omega))) (by first | (rw [at_size, hz]; exact hnb _ (by omega)) | (rw [hz]; exact hnb _ (by omega))) (by first | (rw [at_size, hz]; exact hnb _ (by omega)) | (rw [hz]; exact hnb _ (by omega))) (h1.call (below_at hF.bel))
  rintro v w' ⟨hv, hr1, hb', hz'⟩
  first | rw [at_size, hz] at hv hr1 hz' | rw [hz] at hv hr1 hz'
  have e1 : G1 = W.heap.size + 8 + 3 := hG1.out
  rw [← e1] at hv hr1
  clear e1 hz p0 p1 p2 r0 r1 r2
  subst hv
  replace hF : LawF W K L a0 cap0 f s a1 cap1 g u w' := by first | exact hF.step hb' | exact hF.call hb'
  replace hr0 : RowT w' G0 K := by first | exact hr0.step hb' | exact hr0.call hb'
  clear hb'
  have hz : w'.heap.size = W.heap.size + 12 := hz'
  clear hz'
  walk_nrm
  have ⟨p0, p1, p2, r0, r1, r2⟩ := hF.cells
  repeat (first
    | co_reg TP
    | (co_apply opsC_cons_k rfl (by rfl)
       intro _ hR K1 hK1
       obtain ⟨_, rfl⟩ := hR
       go_simp
       refine hK1 _ _ ⟨?_, ?_⟩
       · intro e he
         have hm := mem_listed he
         simp [go_sem, *] at hm
         try (rcases hm with rfl | rfl | rfl <;> exact evP _ _ (by first | exact nb0 | exact nb1))
         try (subst hm; exact evP _ _ (by first | exact nb0 | exact nb1))
       clear hK1 K1
       try walk_nrm)
    | (co_apply opsC_unwanted TP rfl (by rfl)
       try walk_nrm)
    | (co_ctl TP; try co_then))
  co_apply opsC_call TP rfl (by rfl) rfl
  · walk_nrm
    exact hS _ (fun i hi => by first | (rw [at_size, hz]; exact hnb _ (by omega)) | (rw [hz]; exact hnb _ (by omega))) (rowT_at hr0 |>.arg h0.max) (rowT_at hr1 |>.arg h1.max)
  rintro v w' ⟨hv, hb', hz'⟩
  first | rw [at_size, hz] at hz' | rw [hz] at hz'
  subst hv
  replace hF : LawF W K L a0 cap0 f s a1 cap1 g u w' := by first | exact hF.step hb' | exact hF.call hb'
  clear hb' hz p0 p1 p2 r0 r1 r2
  walk_nrm
  repeat (first
    | co_reg TP
    | (co_apply opsC_cons_k rfl (by rfl)
       intro _ hR K1 hK1
       obtain ⟨_, rfl⟩ := hR
       go_simp
       refine hK1 _ _ ⟨?_, ?_⟩
       · intro e he
         have hm := mem_listed he
         simp [go_sem, *] at hm
         try (rcases hm with rfl | rfl | rfl <;> exact evP _ _ (by first | exact nb0 | exact nb1))
         try (subst hm; exact evP _ _ (by first | exact nb0 | exact nb1))
       clear hK1 K1
       try walk_nrm)
    | (co_apply opsC_unwanted TP rfl (by rfl)
       try walk_nrm)
    | (co_ctl TP; try co_then))
  exact ⟨rfl, hF.at, hz', _, _, _, _, _, rfl⟩

theorem reg8_any (hK1 : K.length ≤ 1048576) (hL1 : L.length ≤ 1048576) (hb0 : Nb Bad a0) (hb1 : Nb Bad a1) (h0 : ArgT W a0 K) (h1 : ArgT W a1 L) (hnb : ∀ b, b < W.heap.size + 17 → ¬ Bad b) : ∃ n, ∀ (w : World) (v0 v1 v4 v5 v6 v7 v8 v9 v10 v11 v12 v13 v14 v15 v16 v17 v18 v19 v20 v21 v22 v23 v24 v25 v26 v27 v28 v29 v30 v31 v32 v33 v34 v35 v36 v37 v38 v39 v40 v41 v42 v43 v44 : Value), LawF W K L a0 cap0 f s a1 cap1 g u w → w.heap.size = W.heap.size + 4 →
    (Code.region 8 ops8 true).wpC Try.prog true AtRel (DE (EvP Bad)) 4 n (Q8 W K L a0 a1 cap0 cap1 f s g u v0 v1 v4 v5 v7 v8 v9 v10 v11 v12 v13 v14 v15 v16 v17 v18 v19 v25 v26 v27 v28 v29 v30 v31 v32 v33 v34 v35 v36 v37 v38 v39 v40 v41 v42 v43 v44) { tmps := #[v0, v1, .pointer (some ⟨W.heap.size, 0, none⟩), .pointer (some ⟨W.heap.size + 1, 0, none⟩), v4, v5, v6, v7, v8, v9, v10, v11, v12, v13, v14, v15, v16, v17, v18, v19, v20, v21, v22, v23, v24, v25, v26, v27, v28, v29, v30, v31, v32, v33, v34, v35, v36, v37, v38, v39, v40, v41, v42, v43, v44], defers := [] } w := by
  obtain ⟨n1, H1⟩ := reg8_a Bad W K L a0 a1 cap0 cap1 f s g u hK1 hL1 hb0 hb1 h0 h1 hnb
  obtain ⟨n2, H2⟩ := reg8_b Bad W K L a0 a1 cap0 cap1 f s g u hK1 hL1 hb0 hb1 h0 h1 hnb
  obtain ⟨n3, H3⟩ := reg8_c Bad W K L a0 a1 cap0 cap1 f s g u hK1 hL1 hb0 hb1 h0 h1 hnb
  refine ⟨max n1 (max n2 n3) + 1, fun w v0 v1 v4 v5 v6 v7 v8 v9 v10 v11 v12 v13 v14 v15 v16 v17 v18 v19 v20 v21 v22 v23 v24 v25 v26 v27 v28 v29 v30 v31 v32 v33 v34 v35 v36 v37 v38 v39 v40 v41 v42 v43 v44 hF hz => wpC_region_draw (draws _) fun w₁ hR t => ?_⟩
  obtain ⟨d, rfl⟩ := hR
  have hF' : LawF W K L a0 cap0 f s a1 cap1 g u (w.at (d + 1)) := hF.at
  have hz' : (w.at (d + 1)).heap.size = W.heap.size + 4 := hz
  rcases sched8 t with e | e | e <;> rw [e]
  · exact opsC_more (H1 _ v0 v1 v4 v5 v6 v7 v8 v9 v10 v11 v12 v13 v14 v15 v16 v17 v18 v19 v20 v21 v22 v23 v24 v25 v26 v27 v28 v29 v30 v31 v32 v33 v34 v35 v36 v37 v38 v39 v40 v41 v42 v43 v44 hF' hz') (Nat.le_max_left _ _)
  · exact opsC_more (H2 _ v0 v1 v4 v5 v6 v7 v8 v9 v10 v11 v12 v13 v14 v15 v16 v17 v18 v19 v20 v21 v22 v23 v24 v25 v26 v27 v28 v29 v30 v31 v32 v33 v34 v35 v36 v37 v38 v39 v40 v41 v42 v43 v44 hF' hz') (Nat.le_trans (Nat.le_max_left _ _) (Nat.le_max_right _ _))
  · exact opsC_more (H3 _ v0 v1 v4 v5 v6 v7 v8 v9 v10 v11 v12 v13 v14 v15 v16 v17 v18 v19 v20 v21 v22 v23 v24 v25 v26 v27 v28 v29 v30 v31 v32 v33 v34 v35 v36 v37 v38 v39 v40 v41 v42 v43 v44 hF' hz') (Nat.le_trans (Nat.le_max_right _ _) (Nat.le_max_right _ _))
end

end Go.Proofs.Ytnndfgceehfiiaa
