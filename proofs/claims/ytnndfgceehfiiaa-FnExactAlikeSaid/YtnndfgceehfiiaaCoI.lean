/-
  spec.Alike, beside goroutines that only leave. (tools/gencoi.py)
-/
import Derived.Test.YtnndfgceehfiiaaCoH
namespace Go.Proofs.Ytnndfgceehfiiaa
open Go.Conc Go.RowKit

/-- Are they alike? -/
def alikeB (K : List ByteArray) (f : Int) (L : List ByteArray) (g : Int) : Bool :=
  if endB f && endB g then sameB K L && (f == g) else if endB f then begB L K else if endB g then begB K L else begB K L || begB L K

/-- How many blocks spec.Alike makes. -/
def alikeN (f g : Int) : Nat := if endB f && endB g then 4 else 5

/-- Two boxes of three cells, behind all that was there; m blocks in all. -/
def TwoBx (w : World) (x0 x1 x2 y0 y1 y2 : Value) (m : Nat) (X : World) : Prop := RowF X w.heap.size [x0, x1, x2] ∧ RowF X (w.heap.size + 1) [y0, y1, y2] ∧ Below w.heap.size w X ∧ X.heap.size = w.heap.size + m
theorem TwoBx.new (w : World) (x0 x1 x2 y0 y1 y2 : Value) (t : TypeId) : TwoBx w x0 x1 x2 y0 y1 y2 2 ((w.alloc (.cells #[x0, x1, x2] t)).alloc (.cells #[y0, y1, y2] t)) :=
  ⟨rowF_alloc (rowF_new w [x0, x1, x2] t) _, by simpa using rowF_new (w.alloc (.cells #[x0, x1, x2] t)) [y0, y1, y2] t, balloc (balloc (Below.refl _ _) _) _, by simp⟩
theorem TwoBx.step0 {w : World} {x0 x1 x2 y0 y1 y2 : Value} {m : Nat} {X Y : World} {d : Nat} (h : TwoBx w x0 x1 x2 y0 y1 y2 m X) (hb : Below (X.at d).heap.size (X.at d) Y) (hz : Y.heap.size = (X.at d).heap.size) : TwoBx w x0 x1 x2 y0 y1 y2 m Y := by
  have hb' : Below X.heap.size X Y := ⟨hb.os, hb.tape, hb.output, hb.size, hb.block⟩
  exact ⟨h.1.call hb', h.2.1.call hb', bstep h.2.2.1 hb', hz.trans h.2.2.2⟩
theorem TwoBx.step {w : World} {x0 x1 x2 y0 y1 y2 : Value} {m : Nat} {X Y : World} {d : Nat} (h : TwoBx w x0 x1 x2 y0 y1 y2 m X) (hb : Below (X.at d).heap.size (X.at d) Y) (hz : Y.heap.size = (X.at d).heap.size + 1) : TwoBx w x0 x1 x2 y0 y1 y2 (m + 1) Y := by
  have hb' : Below X.heap.size X Y := ⟨hb.os, hb.tape, hb.output, hb.size, hb.block⟩
  exact ⟨h.1.call hb', h.2.1.call hb', bstep h.2.2.1 hb', by rw [hz, at_size, h.2.2.2]; rfl⟩
theorem TwoBx.cells {w : World} {x0 x1 x2 y0 y1 y2 : Value} {m : Nat} {X : World} (h : TwoBx w x0 x1 x2 y0 y1 y2 m X) :
    X.cell? ⟨w.heap.size, 0, none⟩ = some x0 ∧ X.cell? ⟨w.heap.size, 1, none⟩ = some x1 ∧ X.cell? ⟨w.heap.size, 2, none⟩ = some x2 ∧ X.cell? ⟨w.heap.size + 1, 0, none⟩ = some y0 ∧ X.cell? ⟨w.heap.size + 1, 1, none⟩ = some y1 ∧ X.cell? ⟨w.heap.size + 1, 2, none⟩ = some y2 :=
  ⟨(h.1.2 0 (by simp)).1, (h.1.2 1 (by simp)).1, (h.1.2 2 (by simp)).1, (h.2.1.2 0 (by simp)).1, (h.2.1.2 1 (by simp)).1, (h.2.1.2 2 (by simp)).1⟩

set_option maxRecDepth 100000 in
set_option maxHeartbeats 4000000 in
theorem alikeS_c (Bad : Nat → Prop) (K L : List ByteArray) (hK1 : K.length ≤ 1048576) (hL1 : L.length ≤ 1048576) (a a' : Option Addr) (hb : Nb Bad a) (hb' : Nb Bad a') (f s g u : Int) : ∃ n, ∀ (w : World), (∀ i, i < 5 → ¬ Bad (w.heap.size + i)) → ArgT w a K → ArgT w a' L →
    CallsC Try.prog true AtRel (DE (EvP Bad)) 11 #[.agg #[.slice a K.length K.length, .int .i64 f, .int .i64 s], .agg #[.slice a' L.length L.length, .int .i64 g, .int .i64 u]] n w fun v w' => v = .bool (alikeB K f L g) ∧ Below w.heap.size w w' ∧ w'.heap.size = w.heap.size + alikeN f g := by
  have A1 := at_cell
  have A2 := at_frozen
  have A3 := at_size
  have A4 := at_at
  have A5 := at_alloc
  have A6 := at_set
  have TP := termsP Bad
  have hls := fun w es ty s => events_len_string (P := Try.prog) w es 9 ty s Try.underlying9
  obtain ⟨nA, hEa⟩ := endedS_c Bad (.slice a K.length K.length) f s
  obtain ⟨nB, hEb⟩ := endedS_c Bad (.slice a' L.length L.length) g u
  obtain ⟨nS, hS⟩ := l11Same_c Bad K L hK1 a a' K.length L.length hb hb'
  obtain ⟨nK, hK⟩ := beginsS_c Bad K L hK1 a a' K.length L.length hb hb' (Nat.le_refl _)
  obtain ⟨nL, hL⟩ := beginsS_c Bad L K hL1 a' a L.length K.length hb' hb (Nat.le_refl _)
  cases hf : endB f <;> cases hg : endB g <;> rw [hf] at hEa <;> rw [hg] at hEb
  · cases hk : begB K L <;> rw [hk] at hK
    · cases hl : begB L K <;> rw [hl] at hL
      all_goals
        co_apply Exists.intro
        intro w hn h h'
        have n0 : ¬ Bad w.heap.size := hn 0 (by decide)
        have n1 : ¬ Bad (w.heap.size + 1) := hn 1 (by decide)
        co_apply callsC_of_wpC Try.func11 (by rfl) rfl
        simp only [Try.ntmps11, List.size_toArray, List.length_cons, List.length_nil, Nat.reduceAdd, Nat.reduceSub, Array.replicate_succ, Array.replicate_zero, List.push_toArray, List.append_toArray, List.nil_append, List.cons_append]
        co_apply wpC_seq TP
        co_reg TP
        first
          | (co_apply opsC_cons_k rfl (by rfl)
             intro _ hR K1 hK1
             obtain ⟨_, rfl⟩ := hR
             go_simp
             refine hK1 _ _ ⟨?_, ?_⟩
             · intro e he
               have hm := mem_listed he
               simp [go_sem, *] at hm
               try (subst hm; exact evP _ _ (by first | exact n0 | exact n1 | simpa using n0 | simpa using n1))
             clear hK1 K1
             try walk_nrm)
        first
          | (co_apply opsC_cons_k rfl (by rfl)
             intro _ hR K1 hK1
             obtain ⟨_, rfl⟩ := hR
             go_simp
             refine hK1 _ _ ⟨?_, ?_⟩
             · intro e he
               have hm := mem_listed he
               simp [go_sem, *] at hm
               try (subst hm; exact evP _ _ (by first | exact n0 | exact n1 | simpa using n0 | simpa using n1))
             clear hK1 K1
             try walk_nrm)
        first
          | (co_apply opsC_cons_k rfl (by rfl)
             intro _ hR K1 hK1
             obtain ⟨_, rfl⟩ := hR
             go_simp
             refine hK1 _ _ ⟨?_, ?_⟩
             · intro e he
               have hm := mem_listed he
               simp [go_sem, *] at hm
               try (subst hm; exact evP _ _ (by first | exact n0 | exact n1 | simpa using n0 | simpa using n1))
             clear hK1 K1
             try walk_nrm)
        co_apply opsC_nil TP
        co_then
        co_apply wpC_seq TP
        obtain ⟨W, hW⟩ : ∃ W, W = (w.alloc (.cells #[.slice a K.length K.length, .int .i64 f, .int .i64 s] 30)).alloc (.cells #[.slice a' L.length L.length, .int .i64 g, .int .i64 u] 30) := ⟨_, rfl⟩
        have hX : TwoBx w (.slice a K.length K.length) (.int .i64 f) (.int .i64 s) (.slice a' L.length L.length) (.int .i64 g) (.int .i64 u) 2 W := by rw [hW]; exact TwoBx.new _ _ _ _ _ _ _ _
        rw [← hW]
        clear hW
        have ⟨p0, p1, p2, r0, r1, r2⟩ := hX.cells
        repeat (first
          | co_reg TP
          | (co_apply opsC_cons_k rfl (by rfl)
             intro _ hR K1 hK1
             obtain ⟨_, rfl⟩ := hR
             go_simp
             refine hK1 _ _ ⟨?_, ?_⟩
             · intro e he
               have hm := mem_listed he
               simp [go_sem, *] at hm
               try (rcases hm with rfl | rfl | rfl <;> exact evP _ _ (by first | exact n0 | exact n1 | simpa using n0 | simpa using n1))
               try (subst hm; exact evP _ _ (by first | exact n0 | exact n1 | simpa using n0 | simpa using n1))
             clear hK1 K1
             try walk_nrm)
          | (co_apply opsC_unwanted TP rfl (by rfl)
             try walk_nrm)
          | (co_ctl TP; try co_then)
          | (co_apply wpC_condT TP
             · rfl)
          | (co_apply wpC_condF TP
             · rfl))
        co_apply opsC_call TP rfl (by rfl) rfl
        · walk_nrm
          exact (hEa _ (by simp only [at_size, hX.2.2.2]; exact hn 2 (by decide)))
        clear p0 p1 p2 r0 r1 r2
        rintro v w4 ⟨rfl, hb4, hz4⟩
        walk_nrm
        replace hX := hX.step hb4 hz4
        clear hb4 hz4
        have ⟨p0, p1, p2, r0, r1, r2⟩ := hX.cells
        repeat (first
          | co_reg TP
          | (co_apply opsC_cons_k rfl (by rfl)
             intro _ hR K1 hK1
             obtain ⟨_, rfl⟩ := hR
             go_simp
             refine hK1 _ _ ⟨?_, ?_⟩
             · intro e he
               have hm := mem_listed he
               simp [go_sem, *] at hm
               try (rcases hm with rfl | rfl | rfl <;> exact evP _ _ (by first | exact n0 | exact n1 | simpa using n0 | simpa using n1))
               try (subst hm; exact evP _ _ (by first | exact n0 | exact n1 | simpa using n0 | simpa using n1))
             clear hK1 K1
             try walk_nrm)
          | (co_apply opsC_unwanted TP rfl (by rfl)
             try walk_nrm)
          | (co_ctl TP; try co_then)
          | (co_apply wpC_condT TP
             · rfl)
          | (co_apply wpC_condF TP
             · rfl))
        co_apply opsC_call TP rfl (by rfl) rfl
        · walk_nrm
          exact (hEa _ (by simp only [at_size, hX.2.2.2]; exact hn 3 (by decide)))
        clear p0 p1 p2 r0 r1 r2
        rintro v w4 ⟨rfl, hb4, hz4⟩
        walk_nrm
        replace hX := hX.step hb4 hz4
        clear hb4 hz4
        have ⟨p0, p1, p2, r0, r1, r2⟩ := hX.cells
        repeat (first
          | co_reg TP
          | (co_apply opsC_cons_k rfl (by rfl)
             intro _ hR K1 hK1
             obtain ⟨_, rfl⟩ := hR
             go_simp
             refine hK1 _ _ ⟨?_, ?_⟩
             · intro e he
               have hm := mem_listed he
               simp [go_sem, *] at hm
               try (rcases hm with rfl | rfl | rfl <;> exact evP _ _ (by first | exact n0 | exact n1 | simpa using n0 | simpa using n1))
               try (subst hm; exact evP _ _ (by first | exact n0 | exact n1 | simpa using n0 | simpa using n1))
             clear hK1 K1
             try walk_nrm)
          | (co_apply opsC_unwanted TP rfl (by rfl)
             try walk_nrm)
          | (co_ctl TP; try co_then)
          | (co_apply wpC_condT TP
             · rfl)
          | (co_apply wpC_condF TP
             · rfl))
        co_apply opsC_call TP rfl (by rfl) rfl
        · walk_nrm
          exact (hEb _ (by simp only [at_size, hX.2.2.2]; exact hn 4 (by decide)))
        clear p0 p1 p2 r0 r1 r2
        rintro v w4 ⟨rfl, hb4, hz4⟩
        walk_nrm
        replace hX := hX.step hb4 hz4
        clear hb4 hz4
        have ⟨p0, p1, p2, r0, r1, r2⟩ := hX.cells
        repeat (first
          | co_reg TP
          | (co_apply opsC_cons_k rfl (by rfl)
             intro _ hR K1 hK1
             obtain ⟨_, rfl⟩ := hR
             go_simp
             refine hK1 _ _ ⟨?_, ?_⟩
             · intro e he
               have hm := mem_listed he
               simp [go_sem, *] at hm
               try (rcases hm with rfl | rfl | rfl <;> exact evP _ _ (by first | exact n0 | exact n1 | simpa using n0 | simpa using n1))
               try (subst hm; exact evP _ _ (by first | exact n0 | exact n1 | simpa using n0 | simpa using n1))
             clear hK1 K1
             try walk_nrm)
          | (co_apply opsC_unwanted TP rfl (by rfl)
             try walk_nrm)
          | (co_ctl TP; try co_then)
          | (co_apply wpC_condT TP
             · rfl)
          | (co_apply wpC_condF TP
             · rfl))
        co_apply opsC_call TP rfl (by rfl) rfl
        · walk_nrm
          exact (hK _ (h.call (below_at hX.2.2.1)) (h'.call (below_at hX.2.2.1)))
        clear p0 p1 p2 r0 r1 r2
        rintro v w4 ⟨rfl, hb4, hz4⟩
        walk_nrm
        replace hX := hX.step0 hb4 hz4
        clear hb4 hz4
        have ⟨p0, p1, p2, r0, r1, r2⟩ := hX.cells
        repeat (first
          | co_reg TP
          | (co_apply opsC_cons_k rfl (by rfl)
             intro _ hR K1 hK1
             obtain ⟨_, rfl⟩ := hR
             go_simp
             refine hK1 _ _ ⟨?_, ?_⟩
             · intro e he
               have hm := mem_listed he
               simp [go_sem, *] at hm
               try (rcases hm with rfl | rfl | rfl <;> exact evP _ _ (by first | exact n0 | exact n1 | simpa using n0 | simpa using n1))
               try (subst hm; exact evP _ _ (by first | exact n0 | exact n1 | simpa using n0 | simpa using n1))
             clear hK1 K1
             try walk_nrm)
          | (co_apply opsC_unwanted TP rfl (by rfl)
             try walk_nrm)
          | (co_ctl TP; try co_then)
          | (co_apply wpC_condT TP
             · rfl)
          | (co_apply wpC_condF TP
             · rfl))
        co_apply opsC_call TP rfl (by rfl) rfl
        · walk_nrm
          exact (hL _ (h'.call (below_at hX.2.2.1)) (h.call (below_at hX.2.2.1)))
        clear p0 p1 p2 r0 r1 r2
        rintro v w4 ⟨rfl, hb4, hz4⟩
        walk_nrm
        replace hX := hX.step0 hb4 hz4
        clear hb4 hz4
        have ⟨p0, p1, p2, r0, r1, r2⟩ := hX.cells
        repeat (first
          | co_reg TP
          | (co_apply opsC_cons_k rfl (by rfl)
             intro _ hR K1 hK1
             obtain ⟨_, rfl⟩ := hR
             go_simp
             refine hK1 _ _ ⟨?_, ?_⟩
             · intro e he
               have hm := mem_listed he
               simp [go_sem, *] at hm
               try (rcases hm with rfl | rfl | rfl <;> exact evP _ _ (by first | exact n0 | exact n1 | simpa using n0 | simpa using n1))
               try (subst hm; exact evP _ _ (by first | exact n0 | exact n1 | simpa using n0 | simpa using n1))
             clear hK1 K1
             try walk_nrm)
          | (co_apply opsC_unwanted TP rfl (by rfl)
             try walk_nrm)
          | (co_ctl TP; try co_then)
          | (co_apply wpC_condT TP
             · rfl)
          | (co_apply wpC_condF TP
             · rfl))
        exact ⟨rfl, _, resultsC_tmp (by rfl) _, by simp [alikeB, *], below_at hX.2.2.1, by simpa [alikeN, hf, hg, at_size] using hX.2.2.2⟩
    · skip
      co_apply Exists.intro
      intro w hn h h'
      have n0 : ¬ Bad w.heap.size := hn 0 (by decide)
      have n1 : ¬ Bad (w.heap.size + 1) := hn 1 (by decide)
      co_apply callsC_of_wpC Try.func11 (by rfl) rfl
      simp only [Try.ntmps11, List.size_toArray, List.length_cons, List.length_nil, Nat.reduceAdd, Nat.reduceSub, Array.replicate_succ, Array.replicate_zero, List.push_toArray, List.append_toArray, List.nil_append, List.cons_append]
      co_apply wpC_seq TP
      co_reg TP
      first
        | (co_apply opsC_cons_k rfl (by rfl)
           intro _ hR K1 hK1
           obtain ⟨_, rfl⟩ := hR
           go_simp
           refine hK1 _ _ ⟨?_, ?_⟩
           · intro e he
             have hm := mem_listed he
             simp [go_sem, *] at hm
             try (subst hm; exact evP _ _ (by first | exact n0 | exact n1 | simpa using n0 | simpa using n1))
           clear hK1 K1
           try walk_nrm)
      first
        | (co_apply opsC_cons_k rfl (by rfl)
           intro _ hR K1 hK1
           obtain ⟨_, rfl⟩ := hR
           go_simp
           refine hK1 _ _ ⟨?_, ?_⟩
           · intro e he
             have hm := mem_listed he
             simp [go_sem, *] at hm
             try (subst hm; exact evP _ _ (by first | exact n0 | exact n1 | simpa using n0 | simpa using n1))
           clear hK1 K1
           try walk_nrm)
      first
        | (co_apply opsC_cons_k rfl (by rfl)
           intro _ hR K1 hK1
           obtain ⟨_, rfl⟩ := hR
           go_simp
           refine hK1 _ _ ⟨?_, ?_⟩
           · intro e he
             have hm := mem_listed he
             simp [go_sem, *] at hm
             try (subst hm; exact evP _ _ (by first | exact n0 | exact n1 | simpa using n0 | simpa using n1))
           clear hK1 K1
           try walk_nrm)
      co_apply opsC_nil TP
      co_then
      co_apply wpC_seq TP
      obtain ⟨W, hW⟩ : ∃ W, W = (w.alloc (.cells #[.slice a K.length K.length, .int .i64 f, .int .i64 s] 30)).alloc (.cells #[.slice a' L.length L.length, .int .i64 g, .int .i64 u] 30) := ⟨_, rfl⟩
      have hX : TwoBx w (.slice a K.length K.length) (.int .i64 f) (.int .i64 s) (.slice a' L.length L.length) (.int .i64 g) (.int .i64 u) 2 W := by rw [hW]; exact TwoBx.new _ _ _ _ _ _ _ _
      rw [← hW]
      clear hW
      have ⟨p0, p1, p2, r0, r1, r2⟩ := hX.cells
      repeat (first
        | co_reg TP
        | (co_apply opsC_cons_k rfl (by rfl)
           intro _ hR K1 hK1
           obtain ⟨_, rfl⟩ := hR
           go_simp
           refine hK1 _ _ ⟨?_, ?_⟩
           · intro e he
             have hm := mem_listed he
             simp [go_sem, *] at hm
             try (rcases hm with rfl | rfl | rfl <;> exact evP _ _ (by first | exact n0 | exact n1 | simpa using n0 | simpa using n1))
             try (subst hm; exact evP _ _ (by first | exact n0 | exact n1 | simpa using n0 | simpa using n1))
           clear hK1 K1
           try walk_nrm)
        | (co_apply opsC_unwanted TP rfl (by rfl)
           try walk_nrm)
        | (co_ctl TP; try co_then)
        | (co_apply wpC_condT TP
           · rfl)
        | (co_apply wpC_condF TP
           · rfl))
      co_apply opsC_call TP rfl (by rfl) rfl
      · walk_nrm
        exact (hEa _ (by simp only [at_size, hX.2.2.2]; exact hn 2 (by decide)))
      clear p0 p1 p2 r0 r1 r2
      rintro v w4 ⟨rfl, hb4, hz4⟩
      walk_nrm
      replace hX := hX.step hb4 hz4
      clear hb4 hz4
      have ⟨p0, p1, p2, r0, r1, r2⟩ := hX.cells
      repeat (first
        | co_reg TP
        | (co_apply opsC_cons_k rfl (by rfl)
           intro _ hR K1 hK1
           obtain ⟨_, rfl⟩ := hR
           go_simp
           refine hK1 _ _ ⟨?_, ?_⟩
           · intro e he
             have hm := mem_listed he
             simp [go_sem, *] at hm
             try (rcases hm with rfl | rfl | rfl <;> exact evP _ _ (by first | exact n0 | exact n1 | simpa using n0 | simpa using n1))
             try (subst hm; exact evP _ _ (by first | exact n0 | exact n1 | simpa using n0 | simpa using n1))
           clear hK1 K1
           try walk_nrm)
        | (co_apply opsC_unwanted TP rfl (by rfl)
           try walk_nrm)
        | (co_ctl TP; try co_then)
        | (co_apply wpC_condT TP
           · rfl)
        | (co_apply wpC_condF TP
           · rfl))
      co_apply opsC_call TP rfl (by rfl) rfl
      · walk_nrm
        exact (hEa _ (by simp only [at_size, hX.2.2.2]; exact hn 3 (by decide)))
      clear p0 p1 p2 r0 r1 r2
      rintro v w4 ⟨rfl, hb4, hz4⟩
      walk_nrm
      replace hX := hX.step hb4 hz4
      clear hb4 hz4
      have ⟨p0, p1, p2, r0, r1, r2⟩ := hX.cells
      repeat (first
        | co_reg TP
        | (co_apply opsC_cons_k rfl (by rfl)
           intro _ hR K1 hK1
           obtain ⟨_, rfl⟩ := hR
           go_simp
           refine hK1 _ _ ⟨?_, ?_⟩
           · intro e he
             have hm := mem_listed he
             simp [go_sem, *] at hm
             try (rcases hm with rfl | rfl | rfl <;> exact evP _ _ (by first | exact n0 | exact n1 | simpa using n0 | simpa using n1))
             try (subst hm; exact evP _ _ (by first | exact n0 | exact n1 | simpa using n0 | simpa using n1))
           clear hK1 K1
           try walk_nrm)
        | (co_apply opsC_unwanted TP rfl (by rfl)
           try walk_nrm)
        | (co_ctl TP; try co_then)
        | (co_apply wpC_condT TP
           · rfl)
        | (co_apply wpC_condF TP
           · rfl))
      co_apply opsC_call TP rfl (by rfl) rfl
      · walk_nrm
        exact (hEb _ (by simp only [at_size, hX.2.2.2]; exact hn 4 (by decide)))
      clear p0 p1 p2 r0 r1 r2
      rintro v w4 ⟨rfl, hb4, hz4⟩
      walk_nrm
      replace hX := hX.step hb4 hz4
      clear hb4 hz4
      have ⟨p0, p1, p2, r0, r1, r2⟩ := hX.cells
      repeat (first
        | co_reg TP
        | (co_apply opsC_cons_k rfl (by rfl)
           intro _ hR K1 hK1
           obtain ⟨_, rfl⟩ := hR
           go_simp
           refine hK1 _ _ ⟨?_, ?_⟩
           · intro e he
             have hm := mem_listed he
             simp [go_sem, *] at hm
             try (rcases hm with rfl | rfl | rfl <;> exact evP _ _ (by first | exact n0 | exact n1 | simpa using n0 | simpa using n1))
             try (subst hm; exact evP _ _ (by first | exact n0 | exact n1 | simpa using n0 | simpa using n1))
           clear hK1 K1
           try walk_nrm)
        | (co_apply opsC_unwanted TP rfl (by rfl)
           try walk_nrm)
        | (co_ctl TP; try co_then)
        | (co_apply wpC_condT TP
           · rfl)
        | (co_apply wpC_condF TP
           · rfl))
      co_apply opsC_call TP rfl (by rfl) rfl
      · walk_nrm
        exact (hK _ (h.call (below_at hX.2.2.1)) (h'.call (below_at hX.2.2.1)))
      clear p0 p1 p2 r0 r1 r2
      rintro v w4 ⟨rfl, hb4, hz4⟩
      walk_nrm
      replace hX := hX.step0 hb4 hz4
      clear hb4 hz4
      have ⟨p0, p1, p2, r0, r1, r2⟩ := hX.cells
      repeat (first
        | co_reg TP
        | (co_apply opsC_cons_k rfl (by rfl)
           intro _ hR K1 hK1
           obtain ⟨_, rfl⟩ := hR
           go_simp
           refine hK1 _ _ ⟨?_, ?_⟩
           · intro e he
             have hm := mem_listed he
             simp [go_sem, *] at hm
             try (rcases hm with rfl | rfl | rfl <;> exact evP _ _ (by first | exact n0 | exact n1 | simpa using n0 | simpa using n1))
             try (subst hm; exact evP _ _ (by first | exact n0 | exact n1 | simpa using n0 | simpa using n1))
           clear hK1 K1
           try walk_nrm)
        | (co_apply opsC_unwanted TP rfl (by rfl)
           try walk_nrm)
        | (co_ctl TP; try co_then)
        | (co_apply wpC_condT TP
           · rfl)
        | (co_apply wpC_condF TP
           · rfl))
      exact ⟨rfl, _, resultsC_tmp (by rfl) _, by simp [alikeB, *], below_at hX.2.2.1, by simpa [alikeN, hf, hg, at_size] using hX.2.2.2⟩
  · skip
    co_apply Exists.intro
    intro w hn h h'
    have n0 : ¬ Bad w.heap.size := hn 0 (by decide)
    have n1 : ¬ Bad (w.heap.size + 1) := hn 1 (by decide)
    co_apply callsC_of_wpC Try.func11 (by rfl) rfl
    simp only [Try.ntmps11, List.size_toArray, List.length_cons, List.length_nil, Nat.reduceAdd, Nat.reduceSub, Array.replicate_succ, Array.replicate_zero, List.push_toArray, List.append_toArray, List.nil_append, List.cons_append]
    co_apply wpC_seq TP
    co_reg TP
    first
      | (co_apply opsC_cons_k rfl (by rfl)
         intro _ hR K1 hK1
         obtain ⟨_, rfl⟩ := hR
         go_simp
         refine hK1 _ _ ⟨?_, ?_⟩
         · intro e he
           have hm := mem_listed he
           simp [go_sem, *] at hm
           try (subst hm; exact evP _ _ (by first | exact n0 | exact n1 | simpa using n0 | simpa using n1))
         clear hK1 K1
         try walk_nrm)
    first
      | (co_apply opsC_cons_k rfl (by rfl)
         intro _ hR K1 hK1
         obtain ⟨_, rfl⟩ := hR
         go_simp
         refine hK1 _ _ ⟨?_, ?_⟩
         · intro e he
           have hm := mem_listed he
           simp [go_sem, *] at hm
           try (subst hm; exact evP _ _ (by first | exact n0 | exact n1 | simpa using n0 | simpa using n1))
         clear hK1 K1
         try walk_nrm)
    first
      | (co_apply opsC_cons_k rfl (by rfl)
         intro _ hR K1 hK1
         obtain ⟨_, rfl⟩ := hR
         go_simp
         refine hK1 _ _ ⟨?_, ?_⟩
         · intro e he
           have hm := mem_listed he
           simp [go_sem, *] at hm
           try (subst hm; exact evP _ _ (by first | exact n0 | exact n1 | simpa using n0 | simpa using n1))
         clear hK1 K1
         try walk_nrm)
    co_apply opsC_nil TP
    co_then
    co_apply wpC_seq TP (n₂ := 0)
    obtain ⟨W, hW⟩ : ∃ W, W = (w.alloc (.cells #[.slice a K.length K.length, .int .i64 f, .int .i64 s] 30)).alloc (.cells #[.slice a' L.length L.length, .int .i64 g, .int .i64 u] 30) := ⟨_, rfl⟩
    have hX : TwoBx w (.slice a K.length K.length) (.int .i64 f) (.int .i64 s) (.slice a' L.length L.length) (.int .i64 g) (.int .i64 u) 2 W := by rw [hW]; exact TwoBx.new _ _ _ _ _ _ _ _
    rw [← hW]
    clear hW
    have ⟨p0, p1, p2, r0, r1, r2⟩ := hX.cells
    repeat (first
      | co_reg TP
      | (co_apply opsC_cons_k rfl (by rfl)
         intro _ hR K1 hK1
         obtain ⟨_, rfl⟩ := hR
         go_simp
         refine hK1 _ _ ⟨?_, ?_⟩
         · intro e he
           have hm := mem_listed he
           simp [go_sem, *] at hm
           try (rcases hm with rfl | rfl | rfl <;> exact evP _ _ (by first | exact n0 | exact n1 | simpa using n0 | simpa using n1))
           try (subst hm; exact evP _ _ (by first | exact n0 | exact n1 | simpa using n0 | simpa using n1))
         clear hK1 K1
         try walk_nrm)
      | (co_apply opsC_unwanted TP rfl (by rfl)
         try walk_nrm)
      | (co_ctl TP; try co_then)
      | (co_apply wpC_condT TP
         · rfl)
      | (co_apply wpC_condF TP
         · rfl))
    co_apply opsC_call TP rfl (by rfl) rfl
    · walk_nrm
      exact (hEa _ (by simp only [at_size, hX.2.2.2]; exact hn 2 (by decide)))
    clear p0 p1 p2 r0 r1 r2
    rintro v w4 ⟨rfl, hb4, hz4⟩
    walk_nrm
    replace hX := hX.step hb4 hz4
    clear hb4 hz4
    have ⟨p0, p1, p2, r0, r1, r2⟩ := hX.cells
    repeat (first
      | co_reg TP
      | (co_apply opsC_cons_k rfl (by rfl)
         intro _ hR K1 hK1
         obtain ⟨_, rfl⟩ := hR
         go_simp
         refine hK1 _ _ ⟨?_, ?_⟩
         · intro e he
           have hm := mem_listed he
           simp [go_sem, *] at hm
           try (rcases hm with rfl | rfl | rfl <;> exact evP _ _ (by first | exact n0 | exact n1 | simpa using n0 | simpa using n1))
           try (subst hm; exact evP _ _ (by first | exact n0 | exact n1 | simpa using n0 | simpa using n1))
         clear hK1 K1
         try walk_nrm)
      | (co_apply opsC_unwanted TP rfl (by rfl)
         try walk_nrm)
      | (co_ctl TP; try co_then)
      | (co_apply wpC_condT TP
         · rfl)
      | (co_apply wpC_condF TP
         · rfl))
    co_apply opsC_call TP rfl (by rfl) rfl
    · walk_nrm
      exact (hEa _ (by simp only [at_size, hX.2.2.2]; exact hn 3 (by decide)))
    clear p0 p1 p2 r0 r1 r2
    rintro v w4 ⟨rfl, hb4, hz4⟩
    walk_nrm
    replace hX := hX.step hb4 hz4
    clear hb4 hz4
    have ⟨p0, p1, p2, r0, r1, r2⟩ := hX.cells
    repeat (first
      | co_reg TP
      | (co_apply opsC_cons_k rfl (by rfl)
         intro _ hR K1 hK1
         obtain ⟨_, rfl⟩ := hR
         go_simp
         refine hK1 _ _ ⟨?_, ?_⟩
         · intro e he
           have hm := mem_listed he
           simp [go_sem, *] at hm
           try (rcases hm with rfl | rfl | rfl <;> exact evP _ _ (by first | exact n0 | exact n1 | simpa using n0 | simpa using n1))
           try (subst hm; exact evP _ _ (by first | exact n0 | exact n1 | simpa using n0 | simpa using n1))
         clear hK1 K1
         try walk_nrm)
      | (co_apply opsC_unwanted TP rfl (by rfl)
         try walk_nrm)
      | (co_ctl TP; try co_then)
      | (co_apply wpC_condT TP
         · rfl)
      | (co_apply wpC_condF TP
         · rfl))
    co_apply opsC_call TP rfl (by rfl) rfl
    · walk_nrm
      exact (hEb _ (by simp only [at_size, hX.2.2.2]; exact hn 4 (by decide)))
    clear p0 p1 p2 r0 r1 r2
    rintro v w4 ⟨rfl, hb4, hz4⟩
    walk_nrm
    replace hX := hX.step hb4 hz4
    clear hb4 hz4
    have ⟨p0, p1, p2, r0, r1, r2⟩ := hX.cells
    repeat (first
      | co_reg TP
      | (co_apply opsC_cons_k rfl (by rfl)
         intro _ hR K1 hK1
         obtain ⟨_, rfl⟩ := hR
         go_simp
         refine hK1 _ _ ⟨?_, ?_⟩
         · intro e he
           have hm := mem_listed he
           simp [go_sem, *] at hm
           try (rcases hm with rfl | rfl | rfl <;> exact evP _ _ (by first | exact n0 | exact n1 | simpa using n0 | simpa using n1))
           try (subst hm; exact evP _ _ (by first | exact n0 | exact n1 | simpa using n0 | simpa using n1))
         clear hK1 K1
         try walk_nrm)
      | (co_apply opsC_unwanted TP rfl (by rfl)
         try walk_nrm)
      | (co_ctl TP; try co_then)
      | (co_apply wpC_condT TP
         · rfl)
      | (co_apply wpC_condF TP
         · rfl))
    co_apply opsC_call TP rfl (by rfl) rfl
    · walk_nrm
      exact (hK _ (h.call (below_at hX.2.2.1)) (h'.call (below_at hX.2.2.1)))
    clear p0 p1 p2 r0 r1 r2
    rintro v w4 ⟨rfl, hb4, hz4⟩
    walk_nrm
    replace hX := hX.step0 hb4 hz4
    clear hb4 hz4
    have ⟨p0, p1, p2, r0, r1, r2⟩ := hX.cells
    repeat (first
      | co_reg TP
      | (co_apply opsC_cons_k rfl (by rfl)
         intro _ hR K1 hK1
         obtain ⟨_, rfl⟩ := hR
         go_simp
         refine hK1 _ _ ⟨?_, ?_⟩
         · intro e he
           have hm := mem_listed he
           simp [go_sem, *] at hm
           try (rcases hm with rfl | rfl | rfl <;> exact evP _ _ (by first | exact n0 | exact n1 | simpa using n0 | simpa using n1))
           try (subst hm; exact evP _ _ (by first | exact n0 | exact n1 | simpa using n0 | simpa using n1))
         clear hK1 K1
         try walk_nrm)
      | (co_apply opsC_unwanted TP rfl (by rfl)
         try walk_nrm)
      | (co_ctl TP; try co_then)
      | (co_apply wpC_condT TP
         · rfl)
      | (co_apply wpC_condF TP
         · rfl))
    exact ⟨rfl, _, resultsC_tmp (by rfl) _, by simp [alikeB, *], below_at hX.2.2.1, by simpa [alikeN, hf, hg, at_size] using hX.2.2.2⟩
  · skip
    co_apply Exists.intro
    intro w hn h h'
    have n0 : ¬ Bad w.heap.size := hn 0 (by decide)
    have n1 : ¬ Bad (w.heap.size + 1) := hn 1 (by decide)
    co_apply callsC_of_wpC Try.func11 (by rfl) rfl
    simp only [Try.ntmps11, List.size_toArray, List.length_cons, List.length_nil, Nat.reduceAdd, Nat.reduceSub, Array.replicate_succ, Array.replicate_zero, List.push_toArray, List.append_toArray, List.nil_append, List.cons_append]
    co_apply wpC_seq TP
    co_reg TP
    first
      | (co_apply opsC_cons_k rfl (by rfl)
         intro _ hR K1 hK1
         obtain ⟨_, rfl⟩ := hR
         go_simp
         refine hK1 _ _ ⟨?_, ?_⟩
         · intro e he
           have hm := mem_listed he
           simp [go_sem, *] at hm
           try (subst hm; exact evP _ _ (by first | exact n0 | exact n1 | simpa using n0 | simpa using n1))
         clear hK1 K1
         try walk_nrm)
    first
      | (co_apply opsC_cons_k rfl (by rfl)
         intro _ hR K1 hK1
         obtain ⟨_, rfl⟩ := hR
         go_simp
         refine hK1 _ _ ⟨?_, ?_⟩
         · intro e he
           have hm := mem_listed he
           simp [go_sem, *] at hm
           try (subst hm; exact evP _ _ (by first | exact n0 | exact n1 | simpa using n0 | simpa using n1))
         clear hK1 K1
         try walk_nrm)
    first
      | (co_apply opsC_cons_k rfl (by rfl)
         intro _ hR K1 hK1
         obtain ⟨_, rfl⟩ := hR
         go_simp
         refine hK1 _ _ ⟨?_, ?_⟩
         · intro e he
           have hm := mem_listed he
           simp [go_sem, *] at hm
           try (subst hm; exact evP _ _ (by first | exact n0 | exact n1 | simpa using n0 | simpa using n1))
         clear hK1 K1
         try walk_nrm)
    co_apply opsC_nil TP
    co_then
    co_apply wpC_seq TP (n₂ := 0)
    obtain ⟨W, hW⟩ : ∃ W, W = (w.alloc (.cells #[.slice a K.length K.length, .int .i64 f, .int .i64 s] 30)).alloc (.cells #[.slice a' L.length L.length, .int .i64 g, .int .i64 u] 30) := ⟨_, rfl⟩
    have hX : TwoBx w (.slice a K.length K.length) (.int .i64 f) (.int .i64 s) (.slice a' L.length L.length) (.int .i64 g) (.int .i64 u) 2 W := by rw [hW]; exact TwoBx.new _ _ _ _ _ _ _ _
    rw [← hW]
    clear hW
    have ⟨p0, p1, p2, r0, r1, r2⟩ := hX.cells
    repeat (first
      | co_reg TP
      | (co_apply opsC_cons_k rfl (by rfl)
         intro _ hR K1 hK1
         obtain ⟨_, rfl⟩ := hR
         go_simp
         refine hK1 _ _ ⟨?_, ?_⟩
         · intro e he
           have hm := mem_listed he
           simp [go_sem, *] at hm
           try (rcases hm with rfl | rfl | rfl <;> exact evP _ _ (by first | exact n0 | exact n1 | simpa using n0 | simpa using n1))
           try (subst hm; exact evP _ _ (by first | exact n0 | exact n1 | simpa using n0 | simpa using n1))
         clear hK1 K1
         try walk_nrm)
      | (co_apply opsC_unwanted TP rfl (by rfl)
         try walk_nrm)
      | (co_ctl TP; try co_then)
      | (co_apply wpC_condT TP
         · rfl)
      | (co_apply wpC_condF TP
         · rfl))
    co_apply opsC_call TP rfl (by rfl) rfl
    · walk_nrm
      exact (hEa _ (by simp only [at_size, hX.2.2.2]; exact hn 2 (by decide)))
    clear p0 p1 p2 r0 r1 r2
    rintro v w4 ⟨rfl, hb4, hz4⟩
    walk_nrm
    replace hX := hX.step hb4 hz4
    clear hb4 hz4
    have ⟨p0, p1, p2, r0, r1, r2⟩ := hX.cells
    repeat (first
      | co_reg TP
      | (co_apply opsC_cons_k rfl (by rfl)
         intro _ hR K1 hK1
         obtain ⟨_, rfl⟩ := hR
         go_simp
         refine hK1 _ _ ⟨?_, ?_⟩
         · intro e he
           have hm := mem_listed he
           simp [go_sem, *] at hm
           try (rcases hm with rfl | rfl | rfl <;> exact evP _ _ (by first | exact n0 | exact n1 | simpa using n0 | simpa using n1))
           try (subst hm; exact evP _ _ (by first | exact n0 | exact n1 | simpa using n0 | simpa using n1))
         clear hK1 K1
         try walk_nrm)
      | (co_apply opsC_unwanted TP rfl (by rfl)
         try walk_nrm)
      | (co_ctl TP; try co_then)
      | (co_apply wpC_condT TP
         · rfl)
      | (co_apply wpC_condF TP
         · rfl))
    co_apply opsC_call TP rfl (by rfl) rfl
    · walk_nrm
      exact (hEb _ (by simp only [at_size, hX.2.2.2]; exact hn 3 (by decide)))
    clear p0 p1 p2 r0 r1 r2
    rintro v w4 ⟨rfl, hb4, hz4⟩
    walk_nrm
    replace hX := hX.step hb4 hz4
    clear hb4 hz4
    have ⟨p0, p1, p2, r0, r1, r2⟩ := hX.cells
    repeat (first
      | co_reg TP
      | (co_apply opsC_cons_k rfl (by rfl)
         intro _ hR K1 hK1
         obtain ⟨_, rfl⟩ := hR
         go_simp
         refine hK1 _ _ ⟨?_, ?_⟩
         · intro e he
           have hm := mem_listed he
           simp [go_sem, *] at hm
           try (rcases hm with rfl | rfl | rfl <;> exact evP _ _ (by first | exact n0 | exact n1 | simpa using n0 | simpa using n1))
           try (subst hm; exact evP _ _ (by first | exact n0 | exact n1 | simpa using n0 | simpa using n1))
         clear hK1 K1
         try walk_nrm)
      | (co_apply opsC_unwanted TP rfl (by rfl)
         try walk_nrm)
      | (co_ctl TP; try co_then)
      | (co_apply wpC_condT TP
         · rfl)
      | (co_apply wpC_condF TP
         · rfl))
    co_apply opsC_call TP rfl (by rfl) rfl
    · walk_nrm
      exact (hEa _ (by simp only [at_size, hX.2.2.2]; exact hn 4 (by decide)))
    clear p0 p1 p2 r0 r1 r2
    rintro v w4 ⟨rfl, hb4, hz4⟩
    walk_nrm
    replace hX := hX.step hb4 hz4
    clear hb4 hz4
    have ⟨p0, p1, p2, r0, r1, r2⟩ := hX.cells
    repeat (first
      | co_reg TP
      | (co_apply opsC_cons_k rfl (by rfl)
         intro _ hR K1 hK1
         obtain ⟨_, rfl⟩ := hR
         go_simp
         refine hK1 _ _ ⟨?_, ?_⟩
         · intro e he
           have hm := mem_listed he
           simp [go_sem, *] at hm
           try (rcases hm with rfl | rfl | rfl <;> exact evP _ _ (by first | exact n0 | exact n1 | simpa using n0 | simpa using n1))
           try (subst hm; exact evP _ _ (by first | exact n0 | exact n1 | simpa using n0 | simpa using n1))
         clear hK1 K1
         try walk_nrm)
      | (co_apply opsC_unwanted TP rfl (by rfl)
         try walk_nrm)
      | (co_ctl TP; try co_then)
      | (co_apply wpC_condT TP
         · rfl)
      | (co_apply wpC_condF TP
         · rfl))
    co_apply opsC_call TP rfl (by rfl) rfl
    · walk_nrm
      exact (hL _ (h'.call (below_at hX.2.2.1)) (h.call (below_at hX.2.2.1)))
    clear p0 p1 p2 r0 r1 r2
    rintro v w4 ⟨rfl, hb4, hz4⟩
    walk_nrm
    replace hX := hX.step0 hb4 hz4
    clear hb4 hz4
    have ⟨p0, p1, p2, r0, r1, r2⟩ := hX.cells
    repeat (first
      | co_reg TP
      | (co_apply opsC_cons_k rfl (by rfl)
         intro _ hR K1 hK1
         obtain ⟨_, rfl⟩ := hR
         go_simp
         refine hK1 _ _ ⟨?_, ?_⟩
         · intro e he
           have hm := mem_listed he
           simp [go_sem, *] at hm
           try (rcases hm with rfl | rfl | rfl <;> exact evP _ _ (by first | exact n0 | exact n1 | simpa using n0 | simpa using n1))
           try (subst hm; exact evP _ _ (by first | exact n0 | exact n1 | simpa using n0 | simpa using n1))
         clear hK1 K1
         try walk_nrm)
      | (co_apply opsC_unwanted TP rfl (by rfl)
         try walk_nrm)
      | (co_ctl TP; try co_then)
      | (co_apply wpC_condT TP
         · rfl)
      | (co_apply wpC_condF TP
         · rfl))
    exact ⟨rfl, _, resultsC_tmp (by rfl) _, by simp [alikeB, *], below_at hX.2.2.1, by simpa [alikeN, hf, hg, at_size] using hX.2.2.2⟩
  · cases hs : sameB K L <;> rw [hs] at hS
    all_goals
      co_apply Exists.intro
      intro w hn h h'
      have n0 : ¬ Bad w.heap.size := hn 0 (by decide)
      have n1 : ¬ Bad (w.heap.size + 1) := hn 1 (by decide)
      co_apply callsC_of_wpC Try.func11 (by rfl) rfl
      simp only [Try.ntmps11, List.size_toArray, List.length_cons, List.length_nil, Nat.reduceAdd, Nat.reduceSub, Array.replicate_succ, Array.replicate_zero, List.push_toArray, List.append_toArray, List.nil_append, List.cons_append]
      co_apply wpC_seq TP
      co_reg TP
      first
        | (co_apply opsC_cons_k rfl (by rfl)
           intro _ hR K1 hK1
           obtain ⟨_, rfl⟩ := hR
           go_simp
           refine hK1 _ _ ⟨?_, ?_⟩
           · intro e he
             have hm := mem_listed he
             simp [go_sem, *] at hm
             try (subst hm; exact evP _ _ (by first | exact n0 | exact n1 | simpa using n0 | simpa using n1))
           clear hK1 K1
           try walk_nrm)
      first
        | (co_apply opsC_cons_k rfl (by rfl)
           intro _ hR K1 hK1
           obtain ⟨_, rfl⟩ := hR
           go_simp
           refine hK1 _ _ ⟨?_, ?_⟩
           · intro e he
             have hm := mem_listed he
             simp [go_sem, *] at hm
             try (subst hm; exact evP _ _ (by first | exact n0 | exact n1 | simpa using n0 | simpa using n1))
           clear hK1 K1
           try walk_nrm)
      first
        | (co_apply opsC_cons_k rfl (by rfl)
           intro _ hR K1 hK1
           obtain ⟨_, rfl⟩ := hR
           go_simp
           refine hK1 _ _ ⟨?_, ?_⟩
           · intro e he
             have hm := mem_listed he
             simp [go_sem, *] at hm
             try (subst hm; exact evP _ _ (by first | exact n0 | exact n1 | simpa using n0 | simpa using n1))
           clear hK1 K1
           try walk_nrm)
      co_apply opsC_nil TP
      co_then
      co_apply wpC_seq TP (n₂ := 0)
      obtain ⟨W, hW⟩ : ∃ W, W = (w.alloc (.cells #[.slice a K.length K.length, .int .i64 f, .int .i64 s] 30)).alloc (.cells #[.slice a' L.length L.length, .int .i64 g, .int .i64 u] 30) := ⟨_, rfl⟩
      have hX : TwoBx w (.slice a K.length K.length) (.int .i64 f) (.int .i64 s) (.slice a' L.length L.length) (.int .i64 g) (.int .i64 u) 2 W := by rw [hW]; exact TwoBx.new _ _ _ _ _ _ _ _
      rw [← hW]
      clear hW
      have ⟨p0, p1, p2, r0, r1, r2⟩ := hX.cells
      repeat (first
        | co_reg TP
        | (co_apply opsC_cons_k rfl (by rfl)
           intro _ hR K1 hK1
           obtain ⟨_, rfl⟩ := hR
           go_simp
           refine hK1 _ _ ⟨?_, ?_⟩
           · intro e he
             have hm := mem_listed he
             simp [go_sem, *] at hm
             try (rcases hm with rfl | rfl | rfl <;> exact evP _ _ (by first | exact n0 | exact n1 | simpa using n0 | simpa using n1))
             try (subst hm; exact evP _ _ (by first | exact n0 | exact n1 | simpa using n0 | simpa using n1))
           clear hK1 K1
           try walk_nrm)
        | (co_apply opsC_unwanted TP rfl (by rfl)
           try walk_nrm)
        | (co_ctl TP; try co_then)
        | (co_apply wpC_condT TP
           · rfl)
        | (co_apply wpC_condF TP
           · rfl))
      co_apply opsC_call TP rfl (by rfl) rfl
      · walk_nrm
        exact (hEa _ (by simp only [at_size, hX.2.2.2]; exact hn 2 (by decide)))
      clear p0 p1 p2 r0 r1 r2
      rintro v w4 ⟨rfl, hb4, hz4⟩
      walk_nrm
      replace hX := hX.step hb4 hz4
      clear hb4 hz4
      have ⟨p0, p1, p2, r0, r1, r2⟩ := hX.cells
      repeat (first
        | co_reg TP
        | (co_apply opsC_cons_k rfl (by rfl)
           intro _ hR K1 hK1
           obtain ⟨_, rfl⟩ := hR
           go_simp
           refine hK1 _ _ ⟨?_, ?_⟩
           · intro e he
             have hm := mem_listed he
             simp [go_sem, *] at hm
             try (rcases hm with rfl | rfl | rfl <;> exact evP _ _ (by first | exact n0 | exact n1 | simpa using n0 | simpa using n1))
             try (subst hm; exact evP _ _ (by first | exact n0 | exact n1 | simpa using n0 | simpa using n1))
           clear hK1 K1
           try walk_nrm)
        | (co_apply opsC_unwanted TP rfl (by rfl)
           try walk_nrm)
        | (co_ctl TP; try co_then)
        | (co_apply wpC_condT TP
           · rfl)
        | (co_apply wpC_condF TP
           · rfl))
      co_apply opsC_call TP rfl (by rfl) rfl
      · walk_nrm
        exact (hEb _ (by simp only [at_size, hX.2.2.2]; exact hn 3 (by decide)))
      clear p0 p1 p2 r0 r1 r2
      rintro v w4 ⟨rfl, hb4, hz4⟩
      walk_nrm
      replace hX := hX.step hb4 hz4
      clear hb4 hz4
      have ⟨p0, p1, p2, r0, r1, r2⟩ := hX.cells
      repeat (first
        | co_reg TP
        | (co_apply opsC_cons_k rfl (by rfl)
           intro _ hR K1 hK1
           obtain ⟨_, rfl⟩ := hR
           go_simp
           refine hK1 _ _ ⟨?_, ?_⟩
           · intro e he
             have hm := mem_listed he
             simp [go_sem, *] at hm
             try (rcases hm with rfl | rfl | rfl <;> exact evP _ _ (by first | exact n0 | exact n1 | simpa using n0 | simpa using n1))
             try (subst hm; exact evP _ _ (by first | exact n0 | exact n1 | simpa using n0 | simpa using n1))
           clear hK1 K1
           try walk_nrm)
        | (co_apply opsC_unwanted TP rfl (by rfl)
           try walk_nrm)
        | (co_ctl TP; try co_then)
        | (co_apply wpC_condT TP
           · rfl)
        | (co_apply wpC_condF TP
           · rfl))
      co_apply opsC_call TP rfl (by rfl) rfl
      · walk_nrm
        exact (hS _ (h.call (below_at hX.2.2.1)) (h'.call (below_at hX.2.2.1)))
      clear p0 p1 p2 r0 r1 r2
      rintro v w4 ⟨rfl, hb4, hz4⟩
      walk_nrm
      replace hX := hX.step0 hb4 hz4
      clear hb4 hz4
      have ⟨p0, p1, p2, r0, r1, r2⟩ := hX.cells
      repeat (first
        | co_reg TP
        | (co_apply opsC_cons_k rfl (by rfl)
           intro _ hR K1 hK1
           obtain ⟨_, rfl⟩ := hR
           go_simp
           refine hK1 _ _ ⟨?_, ?_⟩
           · intro e he
             have hm := mem_listed he
             simp [go_sem, *] at hm
             try (rcases hm with rfl | rfl | rfl <;> exact evP _ _ (by first | exact n0 | exact n1 | simpa using n0 | simpa using n1))
             try (subst hm; exact evP _ _ (by first | exact n0 | exact n1 | simpa using n0 | simpa using n1))
           clear hK1 K1
           try walk_nrm)
        | (co_apply opsC_unwanted TP rfl (by rfl)
           try walk_nrm)
        | (co_ctl TP; try co_then)
        | (co_apply wpC_condT TP
           · rfl)
        | (co_apply wpC_condF TP
           · rfl))
      exact ⟨rfl, _, resultsC_tmp (by rfl) _, by simp [alikeB, *], below_at hX.2.2.1, by simpa [alikeN, hf, hg, at_size] using hX.2.2.2⟩

end Go.Proofs.Ytnndfgceehfiiaa
