/-
  impl.Alike, behind the call that asks both sides. (tools/genlwe.py)
-/
import Derived.Test.YtnndfgceehfiiaaLwD
namespace Go.Proofs.Ytnndfgceehfiiaa
open Go.Conc Go.RowKit

noncomputable def alikeBody : Code := Try.f13.body.getD .skip
noncomputable def alikeC2 : Code := match alikeBody with | .seq _ (.seq _ c) => c | _ => .skip

/-- What it says of two sides. -/
def saysB (e1 c1 e2 c2 : Bool) (f g : Int) : Bool := if e1 && e2 then c1 && c2 && (f == g) else if e1 then c2 else if e2 then c1 else c1 || c2
theorem same_begs (K L : List ByteArray) : sameB K L = (begB K L && begB L K) := by
  rw [Bool.eq_iff_iff]
  simp only [sameB, begB, Bool.and_eq_true, decide_eq_true_eq]
  constructor
  · rintro rfl
    simp
  · rintro ⟨h1, h2⟩
    have l1 := congrArg List.length h1
    have l2 := congrArg List.length h2
    simp only [List.length_take] at l1 l2
    rw [h1, List.take_of_length_le (by omega)]
theorem says_alike (K L : List ByteArray) (f g : Int) : saysB (endB f) (begB K L) (endB g) (begB L K) f g = alikeB K f L g := by
  simp only [saysB, alikeB, same_begs K L]

def QA (r : Bool) (w : World) (e : Exit) (a' : Act) (w' : World) : Prop := e = .ret ∧ a'.defers = [] ∧ (∃ v, ResultsC Try.prog Try.f13 a'.tmps v ∧ v = .bool r) ∧ AtRel w w'

set_option maxRecDepth 100000 in
set_option maxHeartbeats 4000000 in
theorem alikeTail (Bad : Nat → Prop) (p2 p3 p5 p6 : Nat) (e1 c1 e2 c2 : Bool) (f g : Int) (n2 : ¬ Bad p2) (n3 : ¬ Bad p3) (n5 : ¬ Bad p5) (n6 : ¬ Bad p6) : ∃ n, ∀ (w : World) (v0 v1 v4 v7 v8 v9 v10 v11 v12 v13 v14 v15 v16 v17 v18 v19 v20 v21 v22 v23 v24 v25 v26 v27 v28 v29 v30 v31 v32 v33 v34 v35 v36 v37 v38 v39 v40 v41 v42 v43 v44 v45 v46 v47 v48 : Value),
    w.cell? ⟨p5, 1, none⟩ = some (.bool e1) → w.cell? ⟨p5, 2, none⟩ = some (.bool c1) → w.cell? ⟨p6, 1, none⟩ = some (.bool e2) → w.cell? ⟨p6, 2, none⟩ = some (.bool c2) → w.cell? ⟨p2, 1, none⟩ = some (.int .i64 f) → w.cell? ⟨p3, 1, none⟩ = some (.int .i64 g) →
    alikeC2.wpC Try.prog true AtRel (DE (EvP Bad)) 13 n (QA (saysB e1 c1 e2 c2 f g) w) { tmps := #[v0, v1, .pointer (some ⟨p2, 0, none⟩), .pointer (some ⟨p3, 0, none⟩), v4, .pointer (some ⟨p5, 0, none⟩), .pointer (some ⟨p6, 0, none⟩), v7, v8, v9, v10, v11, v12, v13, v14, v15, v16, v17, v18, v19, v20, v21, v22, v23, v24, v25, v26, v27, v28, v29, v30, v31, v32, v33, v34, v35, v36, v37, v38, v39, v40, v41, v42, v43, v44, v45, v46, v47, v48], defers := [] } w := by
  have A1 := at_cell
  have A2 := at_frozen
  have A3 := at_size
  have A4 := at_at
  have A5 := at_alloc
  have A6 := at_set
  have TP := termsP Bad
  have hls := fun w es ty s => events_len_string (P := Try.prog) w es 9 ty s Try.underlying9
  cases e1 <;> cases e2
  · cases c1 <;> cases c2
    all_goals
      co_apply Exists.intro
      intro w v0 v1 v4 v7 v8 v9 v10 v11 v12 v13 v14 v15 v16 v17 v18 v19 v20 v21 v22 v23 v24 v25 v26 v27 v28 v29 v30 v31 v32 v33 v34 v35 v36 v37 v38 v39 v40 v41 v42 v43 v44 v45 v46 v47 v48 h1 h2 h3 h4 h5 h6
      simp only [alikeC2, alikeBody, Try.f13, Option.getD_some]
      repeat (first
        | co_reg TP
        | (co_apply opsC_cons_k rfl (by rfl)
           intro _ hR K1 hK1
           obtain ⟨_, rfl⟩ := hR
           go_simp
           refine hK1 _ _ ⟨?_, ?_⟩
           · intro e he
             have hm := mem_listed he
             simp [go_sem, *] at hm
             try (subst hm; exact evP _ _ (by assumption))
           clear hK1 K1
           try walk_nrm)
        | (co_apply opsC_unwanted TP rfl (by rfl)
           try walk_nrm)
        | (co_ctl TP; try co_then)
        | (co_apply wpC_condT TP
           · rfl)
        | (co_apply wpC_condF TP
           · rfl))
      exact ⟨rfl, rfl, ⟨_, resultsC_tmp (by rfl) _, by simp [saysB]⟩, _, rfl⟩
  · cases c1 <;> cases c2
    all_goals
      co_apply Exists.intro
      intro w v0 v1 v4 v7 v8 v9 v10 v11 v12 v13 v14 v15 v16 v17 v18 v19 v20 v21 v22 v23 v24 v25 v26 v27 v28 v29 v30 v31 v32 v33 v34 v35 v36 v37 v38 v39 v40 v41 v42 v43 v44 v45 v46 v47 v48 h1 h2 h3 h4 h5 h6
      simp only [alikeC2, alikeBody, Try.f13, Option.getD_some]
      co_apply wpC_seq TP (n₂ := 0)
      repeat (first
        | co_reg TP
        | (co_apply opsC_cons_k rfl (by rfl)
           intro _ hR K1 hK1
           obtain ⟨_, rfl⟩ := hR
           go_simp
           refine hK1 _ _ ⟨?_, ?_⟩
           · intro e he
             have hm := mem_listed he
             simp [go_sem, *] at hm
             try (subst hm; exact evP _ _ (by assumption))
           clear hK1 K1
           try walk_nrm)
        | (co_apply opsC_unwanted TP rfl (by rfl)
           try walk_nrm)
        | (co_ctl TP; try co_then)
        | (co_apply wpC_condT TP
           · rfl)
        | (co_apply wpC_condF TP
           · rfl))
      exact ⟨rfl, rfl, ⟨_, resultsC_tmp (by rfl) _, by simp [saysB]⟩, _, rfl⟩
  · cases c1 <;> cases c2
    all_goals
      co_apply Exists.intro
      intro w v0 v1 v4 v7 v8 v9 v10 v11 v12 v13 v14 v15 v16 v17 v18 v19 v20 v21 v22 v23 v24 v25 v26 v27 v28 v29 v30 v31 v32 v33 v34 v35 v36 v37 v38 v39 v40 v41 v42 v43 v44 v45 v46 v47 v48 h1 h2 h3 h4 h5 h6
      simp only [alikeC2, alikeBody, Try.f13, Option.getD_some]
      co_apply wpC_seq TP (n₂ := 0)
      repeat (first
        | co_reg TP
        | (co_apply opsC_cons_k rfl (by rfl)
           intro _ hR K1 hK1
           obtain ⟨_, rfl⟩ := hR
           go_simp
           refine hK1 _ _ ⟨?_, ?_⟩
           · intro e he
             have hm := mem_listed he
             simp [go_sem, *] at hm
             try (subst hm; exact evP _ _ (by assumption))
           clear hK1 K1
           try walk_nrm)
        | (co_apply opsC_unwanted TP rfl (by rfl)
           try walk_nrm)
        | (co_ctl TP; try co_then)
        | (co_apply wpC_condT TP
           · rfl)
        | (co_apply wpC_condF TP
           · rfl))
      exact ⟨rfl, rfl, ⟨_, resultsC_tmp (by rfl) _, by simp [saysB]⟩, _, rfl⟩
  · cases c1 <;> cases c2
    all_goals
      co_apply Exists.intro
      intro w v0 v1 v4 v7 v8 v9 v10 v11 v12 v13 v14 v15 v16 v17 v18 v19 v20 v21 v22 v23 v24 v25 v26 v27 v28 v29 v30 v31 v32 v33 v34 v35 v36 v37 v38 v39 v40 v41 v42 v43 v44 v45 v46 v47 v48 h1 h2 h3 h4 h5 h6
      simp only [alikeC2, alikeBody, Try.f13, Option.getD_some]
      co_apply wpC_seq TP (n₂ := 0)
      repeat (first
        | co_reg TP
        | (co_apply opsC_cons_k rfl (by rfl)
           intro _ hR K1 hK1
           obtain ⟨_, rfl⟩ := hR
           go_simp
           refine hK1 _ _ ⟨?_, ?_⟩
           · intro e he
             have hm := mem_listed he
             simp [go_sem, *] at hm
             try (subst hm; exact evP _ _ (by assumption))
           clear hK1 K1
           try walk_nrm)
        | (co_apply opsC_unwanted TP rfl (by rfl)
           try walk_nrm)
        | (co_ctl TP; try co_then)
        | (co_apply wpC_condT TP
           · rfl)
        | (co_apply wpC_condF TP
           · rfl))
      exact ⟨rfl, rfl, ⟨_, resultsC_tmp (by rfl) _, by simp [saysB]⟩, _, rfl⟩

end Go.Proofs.Ytnndfgceehfiiaa
