/-
  impl.Ended, slices.Equal and impl.Begins in the company of another sender and of the starter. (tools/genwrk.py)
-/
import Derived.Test.YtnndfgceehfiiaaTwoA
import Derived.Test.YtnndfgceehfiiaaRegA
import Derived.Test.YtnndfgceehfiiaaBegW
import Derived.Conc.CompanyMem
import Derived.Conc.AppendWalk
import Derived.OwnWalk
namespace Go.Proofs.Ytnndfgceehfiiaa
open Go.Conc Go.ConcN Go.RowKit
open Go.ConcR (KK WgAt stA smA rd wr mk Payload DC0 Bk)

/-- Did it end, with that fault? -/
def endB (f : Int) : Bool := !decide (f = 4) && !decide (f = 5)

variable [Payload]
section
variable {ty : TypeId} {Wg Ch C N i k : Nat}
theorem termsV : Terms (RGW ty Wg Ch C N i) (DV Wg k) := ⟨fun _ _ _ h1 h2 => h1.trans h2, fun _ => ⟨Nat.le_refl _, by omega, fun _ _ => rfl, fun _ he => by simp at he, rfl, rfl, rfl⟩⟩
omit [Payload] in
theorem dv_quiet {Wg k : Nat} (w : World) {es : Array Event} (h : ∀ e ∈ es, ∃ a : Addr, e = ⟨.cell a, false, false⟩ ∧ a.block ≠ Wg) : DV Wg k w w es := ⟨Nat.le_refl _, by omega, fun _ _ => rfl, h, rfl, rfl, rfl⟩
omit [Payload] in
theorem dv_draw : LetsDraw (DV Wg k) := fun _ => ⟨Nat.le_refl _, by simp, fun _ _ => rfl, fun _ he => by simp at he, rfl, rfl, rfl⟩
omit [Payload] in
theorem dv_alloc (w : World) (o : Obj) {es : Array Event} (h : ∀ e ∈ es, False) : DV Wg k w (w.alloc o) es :=
  ⟨by simp, by simp, fun b hb => Below.heap_alloc _ _ _ hb, fun e he => (h e he).elim, rfl, rfl, rfl⟩
theorem rgw_draw (w : World) : RGW ty Wg Ch C N i w { w with drawn := w.drawn + 1 } := RGW.at w _

/-- What a worker holds of the world: it stays under the others' doing and where a block comes. -/
structure Held (ty : TypeId) (Wg Ch C N i : Nat) (F : World → Prop) : Prop where
  rely : ∀ w w₁, F w → RGW ty Wg Ch C N i w w₁ → F w₁
  alloc : ∀ w o, F w → F (w.alloc o)
  size : ∀ w, F w → Wg < w.heap.size

/-- .. with a box of its own beside it. -/
def Bx (F : World → Prop) (n : Nat) (v : Value) (w : World) : Prop := F w ∧ n < w.heap.size ∧ w.cell? ⟨n, 1, none⟩ = some v
theorem Bx.rely {F : World → Prop} (H : Held ty Wg Ch C N i F) {n : Nat} (hn : Wg < n) (G : Geo2 Wg Ch C N) {v : Value} {w w₁ : World} (h : Bx F n v w) (r : RGW ty Wg Ch C N i w w₁) : Bx F n v w₁ := by
  have g1 := G.cCh; have g2 := G.chW
  exact ⟨H.rely _ _ h.1 r, Nat.lt_of_lt_of_le h.2.1 r.rg.size, (cell_of_block (r.rg.old n (.inl h.2.1) (by omega) (by omega) (by omega)) 1).trans h.2.2⟩

theorem Bx.new {F : World → Prop} (H : Held ty Wg Ch C N i F) {w : World} (hF : F w) (v0 v1 v2 : Value) (t : TypeId) : Bx F w.heap.size v1 (w.alloc (.cells #[v0, v1, v2] t)) :=
  ⟨H.alloc _ _ hF, by simp, by rw [World.cell?_alloc_new]; rfl⟩

set_option maxRecDepth 100000 in
theorem endedI_c {F : World → Prop} (H : Held ty Wg Ch C N i F) (G : Geo2 Wg Ch C N) (v : Value) (f s : Int) : ∃ n, ∀ w, F w →
    CallsC Try.prog false (RGW ty Wg Ch C N i) (DV Wg k) 22 #[.agg #[v, .int .i64 f, .int .i64 s]] n w fun u w' => u = .bool (endB f) ∧ F w' := by
  have TV : Terms (RGW ty Wg Ch C N i) (DV Wg k) := termsV
  obtain rfl | rfl | ⟨h4, h5⟩ : f = 4 ∨ f = 5 ∨ (f ≠ 4 ∧ f ≠ 5) := by omega
  · co_apply Exists.intro
    intro w hF
    co_apply callsC_of_wpC Try.func22 (by rfl) rfl
    simp only [Try.ntmps22, List.size_toArray, List.length_cons, List.length_nil, Nat.reduceAdd, Nat.reduceSub, Array.replicate_succ, Array.replicate_zero, List.push_toArray, List.append_toArray, List.nil_append, List.cons_append]
    co_apply wpC_seq TV
    co_reg TV
    co_apply opsC_cons_k rfl (by rfl)
    intro _ hR K hK
    replace hF := H.rely _ _ hF hR
    clear hR
    go_simp
    refine hK _ _ ⟨?_, ?_⟩
    · refine dv_alloc _ _ fun e he => ?_
      have hm := mem_listed he
      simp [go_sem, *] at hm
    clear hK K
    try walk_nrm
    have hWs := H.size _ hF
    have hX := Bx.new H hF v (.int .i64 4) (.int .i64 s) 30
    clear hF
    repeat (first
      | co_reg TV
      | (co_apply opsC_cons_k rfl (by rfl)
         intro _ hR K hK
         replace hX := (Bx.rely H hWs G) hX hR
         clear hR
         have hc := hX.2.2
         go_simp
         refine hK _ _ ⟨?_, ?_⟩
         · (refine dv_quiet _ fun e he => ?_; have hm := mem_listed he; simp [go_sem, *] at hm; try (subst hm; exact ⟨_, rfl, by dsimp only; omega⟩))
         clear hK K
         try walk_nrm)
      | (co_apply opsC_unwanted TV rfl (by rfl)
         try walk_nrm)
      | (co_ctl TV; try co_then))
    exact ⟨rfl, _, resultsC_tmp (by rfl) _, by simp [endB, *], hX.1⟩
  · co_apply Exists.intro
    intro w hF
    co_apply callsC_of_wpC Try.func22 (by rfl) rfl
    simp only [Try.ntmps22, List.size_toArray, List.length_cons, List.length_nil, Nat.reduceAdd, Nat.reduceSub, Array.replicate_succ, Array.replicate_zero, List.push_toArray, List.append_toArray, List.nil_append, List.cons_append]
    co_apply wpC_seq TV
    co_reg TV
    co_apply opsC_cons_k rfl (by rfl)
    intro _ hR K hK
    replace hF := H.rely _ _ hF hR
    clear hR
    go_simp
    refine hK _ _ ⟨?_, ?_⟩
    · refine dv_alloc _ _ fun e he => ?_
      have hm := mem_listed he
      simp [go_sem, *] at hm
    clear hK K
    try walk_nrm
    have hWs := H.size _ hF
    have hX := Bx.new H hF v (.int .i64 5) (.int .i64 s) 30
    clear hF
    repeat (first
      | co_reg TV
      | (co_apply opsC_cons_k rfl (by rfl)
         intro _ hR K hK
         replace hX := (Bx.rely H hWs G) hX hR
         clear hR
         have hc := hX.2.2
         go_simp
         refine hK _ _ ⟨?_, ?_⟩
         · (refine dv_quiet _ fun e he => ?_; have hm := mem_listed he; simp [go_sem, *] at hm; try (subst hm; exact ⟨_, rfl, by dsimp only; omega⟩))
         clear hK K
         try walk_nrm)
      | (co_apply opsC_unwanted TV rfl (by rfl)
         try walk_nrm)
      | (co_ctl TV; try co_then))
    exact ⟨rfl, _, resultsC_tmp (by rfl) _, by simp [endB, *], hX.1⟩
  · have q4 : (f != 4) = true := by simp [h4]
    have q5 : (f != 5) = true := by simp [h5]
    co_apply Exists.intro
    intro w hF
    co_apply callsC_of_wpC Try.func22 (by rfl) rfl
    simp only [Try.ntmps22, List.size_toArray, List.length_cons, List.length_nil, Nat.reduceAdd, Nat.reduceSub, Array.replicate_succ, Array.replicate_zero, List.push_toArray, List.append_toArray, List.nil_append, List.cons_append]
    co_apply wpC_seq TV
    co_reg TV
    co_apply opsC_cons_k rfl (by rfl)
    intro _ hR K hK
    replace hF := H.rely _ _ hF hR
    clear hR
    go_simp
    refine hK _ _ ⟨?_, ?_⟩
    · refine dv_alloc _ _ fun e he => ?_
      have hm := mem_listed he
      simp [go_sem, *] at hm
    clear hK K
    try walk_nrm
    have hWs := H.size _ hF
    have hX := Bx.new H hF v (.int .i64 f) (.int .i64 s) 30
    clear hF
    repeat (first
      | co_reg TV
      | (co_apply opsC_cons_k rfl (by rfl)
         intro _ hR K hK
         replace hX := (Bx.rely H hWs G) hX hR
         clear hR
         have hc := hX.2.2
         go_simp
         refine hK _ _ ⟨?_, ?_⟩
         · (refine dv_quiet _ fun e he => ?_; have hm := mem_listed he; simp [go_sem, *] at hm; try (subst hm; exact ⟨_, rfl, by dsimp only; omega⟩))
         clear hK K
         try walk_nrm)
      | (co_apply opsC_unwanted TV rfl (by rfl)
         try walk_nrm)
      | (co_ctl TV; try co_then))
    exact ⟨rfl, _, resultsC_tmp (by rfl) _, by simp [endB, *], hX.1⟩

/-- Texts that lie in block g, one a cell. -/
def RowN (g : Nat) (L : List ByteArray) (w : World) : Prop := ∀ i (_ : i < L.length), w.cell? ⟨g, i, none⟩ = some (.string L[i])

/-- The loop's invariant in slices.Equal: the live slots: 0, 1 (the lists), 12 (how many), 13 (how far). -/
def EqInv (F : World → Prop) (ga gb cap cap' n : Nat) (Q : Nat → Prop) (x : Act) (w : World) : Prop :=
  ∃ (j : Nat) (v2 v3 v4 v5 v6 v7 v8 v9 v10 v11 v14 v15 v16 v17 v18 v19 v20 v21 v22 v23 v24 v25 : Value), j ≤ n ∧ Q j ∧ F w ∧
    x = { tmps := #[.slice (some ⟨ga, 0, none⟩) n cap, .slice (some ⟨gb, 0, none⟩) n cap', v2, v3, v4, v5, v6, v7, v8, v9, v10, v11, .int .i64 n, .int .i64 j, v14, v15, v16, v17, v18, v19, v20, v21, v22, v23, v24, v25], defers := [] }
def EqMu (n : Nat) (x : Act) (_ : World) : Nat := match x.tmps.getD 13 undef with | .int _ j => n - j.toNat | _ => 0

set_option maxRecDepth 100000 in
set_option maxHeartbeats 4000000 in
theorem equalI_c {F : World → Prop} (H : Held ty Wg Ch C N i F) (K L : List ByteArray) (ga gb cap cap' : Nat) (hsb : ga ≠ Wg) (hsb2 : gb ≠ Wg) (hK : K.length ≤ 1048576) (hA : ∀ w, F w → RowN ga K w) (hA' : ∀ w, F w → RowN gb L w) (hl : K.length = L.length) : ∃ n, ∀ w, F w →
    CallsC Try.prog false (RGW ty Wg Ch C N i) (DV Wg k) 16 #[.slice (some ⟨ga, 0, none⟩) K.length cap, .slice (some ⟨gb, 0, none⟩) L.length cap'] n w fun u w' => u = .bool (sameB K L) ∧ F w' := by
  have TV : Terms (RGW ty Wg Ch C N i) (DV Wg k) := termsV
  · rw [hl]
    obtain ⟨n, hn⟩ : ∃ n, L.length = n := ⟨_, rfl⟩
    have hKn : K.length = n := hl.trans hn
    have HS := fun (h : ∀ i (h1 : i < K.length) (h2 : i < L.length), K[i] = L[i]) => same_all hl h
    rw [hn]
    co_apply Exists.intro
    intro w hF
    co_apply callsC_of_wpC Try.func16 (by rfl) rfl
    simp only [Try.ntmps16, List.size_toArray, List.length_cons, List.length_nil, Nat.reduceAdd, Nat.reduceSub, Array.replicate_succ, Array.replicate_zero, List.push_toArray, List.append_toArray, List.nil_append, List.cons_append]
    repeat (first
      | co_reg TV
      | (co_apply opsC_cons_k rfl (by rfl)
         intro _ hR K hK
         replace hF := (fun h r => H.rely _ _ h r) hF hR
         clear hR
         skip
         go_simp
         refine hK _ _ ⟨?_, ?_⟩
         · (refine dv_quiet _ fun e he => ?_; have hm := mem_listed he; simp [go_sem, *] at hm; try (subst hm; exact ⟨_, rfl, by dsimp only; omega⟩))
         clear hK K
         try walk_nrm)
      | (co_apply opsC_unwanted TV rfl (by rfl)
         try walk_nrm)
      | (co_ctl TV; try co_then)
      | (co_apply wpC_condT TV
         · rfl)
      | (co_apply wpC_condF TV
         · rfl))
    co_apply wpC_loop TV (EqInv F ga gb cap cap' n (fun j => ∀ i (h1 : i < K.length) (h2 : i < L.length), i < j → K[i] = L[i])) (EqMu n) _ n
    · exact ⟨0, _, _, _, _, _, _, _, _, _, _, _, _, _, _, _, _, _, _, _, _, _, _, Nat.zero_le _, fun i _ _ h => absurd h (Nat.not_lt_zero _), hF, rfl⟩
    · simp [EqMu]
    · rintro x w' ⟨j, v2, v3, v4, v5, v6, v7, v8, v9, v10, v11, v14, v15, v16, v17, v18, v19, v20, v21, v22, v23, v24, v25, hj, hQ, hF, rfl⟩
      clear w
      repeat (first
        | co_reg TV
        | (co_apply opsC_cons_k rfl (by rfl)
           intro _ hR K hK
           replace hF := (fun h r => H.rely _ _ h r) hF hR
           clear hR
           skip
           go_simp
           refine hK _ _ ⟨?_, ?_⟩
           · (refine dv_quiet _ fun e he => ?_; have hm := mem_listed he; simp [go_sem, *] at hm; try (subst hm; exact ⟨_, rfl, by dsimp only; omega⟩))
           clear hK K
           try walk_nrm)
        | (co_apply opsC_unwanted TV rfl (by rfl)
           try walk_nrm)
        | (co_ctl TV; try co_then))
      co_split TV (decide ((j : Int) < (n : Int)))
      · intro hlt'
        replace hlt' : (j : Int) < (n : Int) := of_decide_eq_true hlt'
        have hlt : j < n := by omega
        have c1 : ∀ w, F w → w.cell? ⟨ga, j, none⟩ = some (.string (K[j]'(by omega))) := fun w h => hA w h j (by omega)
        have c2 : ∀ w, F w → w.cell? ⟨gb, j, none⟩ = some (.string (L[j]'(by omega))) := fun w h => hA' w h j (by omega)
        have hj0 : (0 : Int) ≤ (j : Int) := by omega
        have ew : IntKind.i64.wrap ((j : Int) + 1) = ((j + 1 : Nat) : Int) := by rw [IntKind.wrap_i64]; omega
        have HQ : Hid (K[j]'(by omega) = L[j]'(by omega) → ∀ i (h1 : i < K.length) (h2 : i < L.length), i < j + 1 → K[i] = L[i]) := fun he i h1 h2 h3 => by
          by_cases e : i = j
          · subst e; exact he
          · exact hQ i h1 h2 (by omega)
        have HN : Hid (K[j]'(by omega) ≠ L[j]'(by omega) → sameB K L = false) := fun he => same_not (by omega) (by omega) he
        clear hQ
        obtain ⟨t, ht⟩ : ∃ t, L[j]'(by omega) = t := ⟨_, rfl⟩
        obtain ⟨t', ht'⟩ : ∃ t', K[j]'(by omega) = t' := ⟨_, rfl⟩
        rw [ht, ht'] at HQ HN
        rw [ht] at c2
        rw [ht'] at c1
        clear ht ht'
        repeat (first
          | co_reg TV
          | (co_apply opsC_cons_k rfl (by rfl)
             intro _ hR K hK
             replace hF := (fun h r => H.rely _ _ h r) hF hR
             clear hR
             skip
             go_simp
             refine hK _ _ ⟨?_, ?_⟩
             · (refine dv_quiet _ fun e he => ?_; have hm := mem_listed he; simp [go_sem, *] at hm; try (subst hm; exact ⟨_, rfl, by dsimp only; omega⟩))
             clear hK K
             try walk_nrm)
          | (co_apply opsC_unwanted TV rfl (by rfl)
             try walk_nrm)
          | (co_ctl TV; try co_then))
        co_held TV dv_draw rgw_draw F (fun h r => H.rely _ _ h r) hF
        co_take 0 TV (fun h r => H.rely _ _ h r) hF hw (skip) (co_quiet TV)
        co_take 1 TV (fun h r => H.rely _ _ h r) hF hw (skip) (co_quiet TV)
        co_take 2 TV (fun h r => H.rely _ _ h r) hF hw (skip) (co_still TV)
        co_take 3 TV (fun h r => H.rely _ _ h r) hF hw (have hc := c1 _ hw) (refine dv_quiet _ ?_; co_evs (exact ⟨_, rfl, hsb⟩))
        co_take 4 TV (fun h r => H.rely _ _ h r) hF hw (skip) (co_quiet TV)
        co_take 5 TV (fun h r => H.rely _ _ h r) hF hw (skip) (co_quiet TV)
        co_take 6 TV (fun h r => H.rely _ _ h r) hF hw (skip) (co_still TV)
        co_take 7 TV (fun h r => H.rely _ _ h r) hF hw (have hc := c2 _ hw) (refine dv_quiet _ ?_; co_evs (exact ⟨_, rfl, hsb2⟩))
        co_take 8 TV (fun h r => H.rely _ _ h r) hF hw (skip) (co_quiet TV)
        co_done
        repeat (first
          | co_reg TV
          | (co_apply opsC_cons_k rfl (by rfl)
             intro _ hR K hK
             replace hF := (fun h r => H.rely _ _ h r) hF hR
             clear hR
             skip
             go_simp
             refine hK _ _ ⟨?_, ?_⟩
             · (refine dv_quiet _ fun e he => ?_; have hm := mem_listed he; simp [go_sem, *] at hm; try (subst hm; exact ⟨_, rfl, by dsimp only; omega⟩))
             clear hK K
             try walk_nrm)
          | (co_apply opsC_unwanted TV rfl (by rfl)
             try walk_nrm)
          | (co_ctl TV; try co_then))
        co_split TV (!(t'.toList == t.toList))
        · intro hne
          have hne' : t' ≠ t := fun e => by subst e; simp at hne
          clear hne
          repeat (first
            | co_reg TV
            | (co_apply opsC_cons_k rfl (by rfl)
               intro _ hR K hK
               replace hF := (fun h r => H.rely _ _ h r) hF hR
               clear hR
               skip
               go_simp
               refine hK _ _ ⟨?_, ?_⟩
               · (refine dv_quiet _ fun e he => ?_; have hm := mem_listed he; simp [go_sem, *] at hm; try (subst hm; exact ⟨_, rfl, by dsimp only; omega⟩))
               clear hK K
               try walk_nrm)
            | (co_apply opsC_unwanted TV rfl (by rfl)
               try walk_nrm)
            | (co_ctl TV; try co_then))
          exact ⟨rfl, _, resultsC_tmp (by rfl) _, by rw [HN.out hne']; rfl, hF⟩
        · intro heq
          have heq' : t' = t := Classical.byContradiction fun e => by rw [txt_ne' e] at heq; cases heq
          clear heq
          repeat (first
            | co_reg TV
            | (co_apply opsC_cons_k rfl (by rfl)
               intro _ hR K hK
               replace hF := (fun h r => H.rely _ _ h r) hF hR
               clear hR
               skip
               go_simp
               refine hK _ _ ⟨?_, ?_⟩
               · (refine dv_quiet _ fun e he => ?_; have hm := mem_listed he; simp [go_sem, *] at hm; try (subst hm; exact ⟨_, rfl, by dsimp only; omega⟩))
               clear hK K
               try walk_nrm)
            | (co_apply opsC_unwanted TV rfl (by rfl)
               try walk_nrm)
            | (co_ctl TV; try co_then))
          exact ⟨⟨j + 1, _, _, _, _, _, _, _, _, _, _, _, _, _, _, _, _, _, _, _, _, _, _, by omega, HQ.out heq', hF, rfl⟩, by simp [EqMu]; omega⟩
      · intro hge'
        have hge : ¬ (j : Int) < (n : Int) := of_decide_eq_false hge'
        have HN : Hid (sameB K L = true) := HS (fun i h1 h2 => hQ i h1 h2 (by omega))
        clear hQ hge'
        repeat (first
          | co_reg TV
          | (co_apply opsC_cons_k rfl (by rfl)
             intro _ hR K hK
             replace hF := (fun h r => H.rely _ _ h r) hF hR
             clear hR
             skip
             go_simp
             refine hK _ _ ⟨?_, ?_⟩
             · (refine dv_quiet _ fun e he => ?_; have hm := mem_listed he; simp [go_sem, *] at hm; try (subst hm; exact ⟨_, rfl, by dsimp only; omega⟩))
             clear hK K
             try walk_nrm)
          | (co_apply opsC_unwanted TV rfl (by rfl)
             try walk_nrm)
          | (co_ctl TV; try co_then))
        exact ⟨rfl, _, resultsC_tmp (by rfl) _, by rw [HN.out]; rfl, hF⟩
end

end Go.Proofs.Ytnndfgceehfiiaa
