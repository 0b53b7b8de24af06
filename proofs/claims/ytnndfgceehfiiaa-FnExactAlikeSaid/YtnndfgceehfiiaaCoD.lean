/-
  Are two lists of texts the same, beside goroutines that only leave. (tools/gencod.py)
-/
import Derived.Test.YtnndfgceehfiiaaCoB
namespace Go.Proofs.Ytnndfgceehfiiaa
open Go.Conc Go.RowKit

def SameInv (w : World) (a a' : Option Addr) (cap cap' n : Nat) (Q : Nat → Prop) (z : Act) (wr : World) : Prop :=
  ∃ (j : Nat) (v2 v3 v4 v6 v7 v8 v9 v10 v11 v12 v13 v14 v15 v16 v17 v18 v19 v20 v21 v22 v23 v24 v25 : Value), j ≤ n ∧ Q j ∧ (Below w.heap.size w wr ∧ wr.heap.size = w.heap.size) ∧
    z = { tmps := #[.slice a n cap, .slice a' n cap', v2, v3, v4, .int .i64 j, v6, v7, v8, v9, v10, v11, v12, v13, v14, v15, v16, v17, v18, v19, v20, v21, v22, v23, v24, v25], defers := [] }
def SameMu (n : Nat) (z : Act) (_ : World) : Nat := match z.tmps.getD 5 undef with | .int _ j => n - j.toNat | _ => 0
theorem de_draw (Bad : Nat → Prop) : LetsDraw (DE (EvP Bad)) := fun _ _ he => by simp at he
theorem at_draw (w : World) : AtRel w { w with drawn := w.drawn + 1 } := ⟨w.drawn + 1, rfl⟩
theorem low_rely {w X Y : World} (h : Below w.heap.size w X ∧ X.heap.size = w.heap.size) (r : AtRel X Y) : Below w.heap.size w Y ∧ Y.heap.size = w.heap.size := by
  obtain ⟨d, rfl⟩ := r
  exact ⟨below_at h.1, h.2⟩

set_option maxRecDepth 100000 in
set_option maxHeartbeats 4000000 in
theorem eqStringS_c (Bad : Nat → Prop) (K L : List ByteArray) (hK : K.length ≤ 1048576) (a a' : Option Addr) (cap cap' : Nat) (hb : Nb Bad a) (hb' : Nb Bad a') : ∃ n, ∀ (w : World), ArgT w a K → ArgT w a' L →
    CallsC Try.prog true AtRel (DE (EvP Bad)) 9 #[.slice a K.length cap, .slice a' L.length cap'] n w fun u w' => u = .bool (sameB K L) ∧ Below w.heap.size w w' ∧ w'.heap.size = w.heap.size := by
  have A1 := at_cell
  have A2 := at_frozen
  have A3 := at_size
  have A4 := at_at
  have A5 := at_alloc
  have A6 := at_set
  have TP := termsP Bad
  have hls := fun w es ty s => events_len_string (P := Try.prog) w es 9 ty s Try.underlying9
  co_apply Exists.intro
  intro w hA hA'
  co_apply callsC_of_wpC Try.func9 (by rfl) rfl
  simp only [Try.ntmps9, List.size_toArray, List.length_cons, List.length_nil, Nat.reduceAdd, Nat.reduceSub, Array.replicate_succ, Array.replicate_zero, List.push_toArray, List.append_toArray, List.nil_append, List.cons_append]
  repeat (first
    | co_reg TP
    | (co_apply opsC_cons_k rfl (by rfl)
       intro _ hR K1 hK1
       obtain ⟨_, rfl⟩ := hR
       go_simp
       refine hK1 _ _ ⟨?_, ?_⟩
       · intro e he
         have hm := mem_listed he
         simp [go_sem, *] at hm
         try (subst hm; exact evP _ _ (by first | assumption | simpa using hnb))
       clear hK1 K1
       try walk_nrm)
    | (co_apply opsC_unwanted TP rfl (by rfl)
       try walk_nrm)
    | (co_ctl TP; try co_then))
  co_split TP ((K.length : Int) != (L.length : Int))
  · intro hne
    have HN : Hid (sameB K L = false) := same_len (fun e => by simp [e] at hne)
    clear hne
    repeat (first
      | co_reg TP
      | (co_apply opsC_cons_k rfl (by rfl)
         intro _ hR K1 hK1
         obtain ⟨_, rfl⟩ := hR
         go_simp
         refine hK1 _ _ ⟨?_, ?_⟩
         · intro e he
           have hm := mem_listed he
           simp [go_sem, *] at hm
           try (subst hm; exact evP _ _ (by first | assumption | simpa using hnb))
         clear hK1 K1
         try walk_nrm)
      | (co_apply opsC_unwanted TP rfl (by rfl)
         try walk_nrm)
      | (co_ctl TP; try co_then))
    exact ⟨rfl, _, resultsC_tmp (by rfl) _, by rw [HN.out]; rfl, below_at (Below.refl _ _), rfl⟩
  · intro heq
    have hl : K.length = L.length := by simp at heq; omega
    clear heq
    obtain ⟨n, hn⟩ : ∃ n, L.length = n := ⟨_, rfl⟩
    have hKn : K.length = n := hl.trans hn
    have HS := fun (h : ∀ i (h1 : i < K.length) (h2 : i < L.length), K[i] = L[i]) => same_all hl h
    rw [hKn, hn]
    repeat (first
      | co_reg TP
      | (co_apply opsC_cons_k rfl (by rfl)
         intro _ hR K1 hK1
         obtain ⟨_, rfl⟩ := hR
         go_simp
         refine hK1 _ _ ⟨?_, ?_⟩
         · intro e he
           have hm := mem_listed he
           simp [go_sem, *] at hm
           try (subst hm; exact evP _ _ (by first | assumption | simpa using hnb))
         clear hK1 K1
         try walk_nrm)
      | (co_apply opsC_unwanted TP rfl (by rfl)
         try walk_nrm)
      | (co_ctl TP; try co_then))
    co_apply wpC_loop TP (SameInv w a a' cap cap' n (fun j => ∀ i (h1 : i < K.length) (h2 : i < L.length), i < j → K[i] = L[i])) (SameMu n) _ 1048576
    · exact ⟨0, _, _, _, _, _, _, _, _, _, _, _, _, _, _, _, _, _, _, _, _, _, _, _, Nat.zero_le _, fun i _ _ h => absurd h (Nat.not_lt_zero _), ⟨below_at (Below.refl _ _), rfl⟩, rfl⟩
    · simp [SameMu]; omega
    · rintro z wr ⟨j, v2, v3, v4, v6, v7, v8, v9, v10, v11, v12, v13, v14, v15, v16, v17, v18, v19, v20, v21, v22, v23, v24, v25, hj, hQ, hF, rfl⟩
      repeat (first
        | co_reg TP
        | (co_apply opsC_cons_k rfl (by rfl)
           intro _ hR K1 hK1
           obtain ⟨_, rfl⟩ := hR
           go_simp
           refine hK1 _ _ ⟨?_, ?_⟩
           · intro e he
             have hm := mem_listed he
             simp [go_sem, *] at hm
             try (subst hm; exact evP _ _ (by first | assumption | simpa using hnb))
           clear hK1 K1
           try walk_nrm)
        | (co_apply opsC_unwanted TP rfl (by rfl)
           try walk_nrm)
        | (co_ctl TP; try co_then))
      co_split TP (decide ((j : Int) < (n : Int)))
      · intro hlt'
        replace hlt' : (j : Int) < (n : Int) := of_decide_eq_true hlt'
        have hlt : j < n := by omega
        obtain ⟨sb, off, ea, hs, hc, _⟩ := hA j (by omega)
        obtain ⟨sb', off', ea', hs', hc', _⟩ := hA' j (by omega)
        have hnb := hb sb off ea
        have hnb' := hb' sb' off' ea'
        have c1 : ∀ X, Below w.heap.size w X ∧ X.heap.size = w.heap.size → X.cell? ⟨sb, off + j, none⟩ = some (.string (K[j]'(by omega))) := fun X h => (h.1.cell (p := ⟨sb, off + j, none⟩) hs).trans hc
        have c2 : ∀ X, Below w.heap.size w X ∧ X.heap.size = w.heap.size → X.cell? ⟨sb', off' + j, none⟩ = some (.string (L[j]'(by omega))) := fun X h => (h.1.cell (p := ⟨sb', off' + j, none⟩) hs').trans hc'
        clear hc hc'
        have hj0 : (0 : Int) ≤ (j : Int) := by omega
        have ew : IntKind.i64.wrap ((j : Int) + 1) = ((j + 1 : Nat) : Int) := by rw [IntKind.wrap_i64]; omega
        have HQ : Hid (K[j]'(by omega) = L[j]'(by omega) → ∀ i (h1 : i < K.length) (h2 : i < L.length), i < j + 1 → K[i] = L[i]) := fun he i h1 h2 h3 => by
          by_cases e : i = j
          · subst e; exact he
          · exact hQ i h1 h2 (by omega)
        have HN : Hid (K[j]'(by omega) ≠ L[j]'(by omega) → sameB K L = false) := fun he => same_not (by omega) (by omega) he
        clear hQ
        obtain ⟨t, ht⟩ : ∃ t, L[j]'(by omega) = t := ⟨_, rfl⟩
        obtain ⟨t', ht'⟩ : ∃ t', K[j]'(by omega) = t' := ⟨_, rfl⟩
        rw [ht, ht'] at HQ HN
        rw [ht] at c2
        rw [ht'] at c1
        clear ht ht'
        rw [ea, ea']
        repeat (first
          | co_reg TP
          | (co_apply opsC_cons_k rfl (by rfl)
             intro _ hR K1 hK1
             obtain ⟨_, rfl⟩ := hR
             go_simp
             refine hK1 _ _ ⟨?_, ?_⟩
             · intro e he
               have hm := mem_listed he
               simp [go_sem, *] at hm
               try (subst hm; exact evP _ _ (by first | assumption | simpa using hnb))
             clear hK1 K1
             try walk_nrm)
          | (co_apply opsC_unwanted TP rfl (by rfl)
             try walk_nrm)
          | (co_ctl TP; try co_then))
        co_apply wpC_region_held TP (de_draw Bad) (S := fun X => Below w.heap.size w X ∧ X.heap.size = w.heap.size) (by first | kernel_rfl | rfl)
        intro _ hR
        replace hF := low_rely (low_rely (low_rely hF ⟨_, rfl⟩) hR) (at_draw _)
        clear hR
        simp only [List.size_toArray, List.length_cons, List.length_nil, Nat.reduceAdd, Nat.zero_add]
        co_take 0 TP (fun h r => low_rely h r) hF hw (skip) (co_quiet TP)
        co_take 1 TP (fun h r => low_rely h r) hF hw (skip) (co_quiet TP)
        co_take 2 TP (fun h r => low_rely h r) hF hw (skip) (co_still TP)
        co_take 3 TP (fun h r => low_rely h r) hF hw (have hc := c1 _ hw) ((intro e he; have hm := mem_listed he; simp [go_sem, *] at hm; subst hm; exact evP _ _ (by first | assumption | simpa using hnb)))
        co_take 4 TP (fun h r => low_rely h r) hF hw (skip) (co_quiet TP)
        co_take 5 TP (fun h r => low_rely h r) hF hw (skip) (co_quiet TP)
        co_take 6 TP (fun h r => low_rely h r) hF hw (skip) (co_still TP)
        co_take 7 TP (fun h r => low_rely h r) hF hw (have hc := c2 _ hw) ((intro e he; have hm := mem_listed he; simp [go_sem, *] at hm; subst hm; exact evP _ _ (by first | assumption | simpa using hnb')))
        co_take 8 TP (fun h r => low_rely h r) hF hw (skip) (co_quiet TP)
        co_done
        repeat (first
          | co_reg TP
          | (co_apply opsC_cons_k rfl (by rfl)
             intro _ hR K1 hK1
             obtain ⟨_, rfl⟩ := hR
             go_simp
             refine hK1 _ _ ⟨?_, ?_⟩
             · intro e he
               have hm := mem_listed he
               simp [go_sem, *] at hm
               try (subst hm; exact evP _ _ (by first | assumption | simpa using hnb))
             clear hK1 K1
             try walk_nrm)
          | (co_apply opsC_unwanted TP rfl (by rfl)
             try walk_nrm)
          | (co_ctl TP; try co_then))
        co_split TP (!(t'.toList == t.toList))
        · intro hne
          have hne' : t' ≠ t := fun e => by subst e; simp at hne
          clear hne
          repeat (first
            | co_reg TP
            | (co_apply opsC_cons_k rfl (by rfl)
               intro _ hR K1 hK1
               obtain ⟨_, rfl⟩ := hR
               go_simp
               refine hK1 _ _ ⟨?_, ?_⟩
               · intro e he
                 have hm := mem_listed he
                 simp [go_sem, *] at hm
                 try (subst hm; exact evP _ _ (by first | assumption | simpa using hnb))
               clear hK1 K1
               try walk_nrm)
            | (co_apply opsC_unwanted TP rfl (by rfl)
               try walk_nrm)
            | (co_ctl TP; try co_then))
          exact ⟨rfl, _, resultsC_tmp (by rfl) _, by rw [HN.out hne']; rfl, below_at hF.1, hF.2⟩
        · intro heq
          have heq' : t' = t := Classical.byContradiction fun e => by rw [txt_ne' e] at heq; cases heq
          clear heq
          repeat (first
            | co_reg TP
            | (co_apply opsC_cons_k rfl (by rfl)
               intro _ hR K1 hK1
               obtain ⟨_, rfl⟩ := hR
               go_simp
               refine hK1 _ _ ⟨?_, ?_⟩
               · intro e he
                 have hm := mem_listed he
                 simp [go_sem, *] at hm
                 try (subst hm; exact evP _ _ (by first | assumption | simpa using hnb))
               clear hK1 K1
               try walk_nrm)
            | (co_apply opsC_unwanted TP rfl (by rfl)
               try walk_nrm)
            | (co_ctl TP; try co_then))
          exact ⟨⟨j + 1, _, _, _, _, _, _, _, _, _, _, _, _, _, _, _, _, _, _, _, _, _, _, _, by omega, HQ.out heq', ⟨below_at hF.1, hF.2⟩, rfl⟩, by simp [SameMu]; omega⟩
      · intro hge'
        have hge : ¬ (j : Int) < (n : Int) := of_decide_eq_false hge'
        have HN : Hid (sameB K L = true) := HS (fun i h1 h2 => hQ i h1 h2 (by omega))
        clear hQ hge'
        repeat (first
          | co_reg TP
          | (co_apply opsC_cons_k rfl (by rfl)
             intro _ hR K1 hK1
             obtain ⟨_, rfl⟩ := hR
             go_simp
             refine hK1 _ _ ⟨?_, ?_⟩
             · intro e he
               have hm := mem_listed he
               simp [go_sem, *] at hm
               try (subst hm; exact evP _ _ (by first | assumption | simpa using hnb))
             clear hK1 K1
             try walk_nrm)
          | (co_apply opsC_unwanted TP rfl (by rfl)
             try walk_nrm)
          | (co_ctl TP; try co_then))
        exact ⟨rfl, _, resultsC_tmp (by rfl) _, by rw [HN.out]; rfl, below_at hF.1, hF.2⟩

set_option maxRecDepth 100000 in
set_option maxHeartbeats 4000000 in
theorem l11Same_c (Bad : Nat → Prop) (K L : List ByteArray) (hK : K.length ≤ 1048576) (a a' : Option Addr) (cap cap' : Nat) (hb : Nb Bad a) (hb' : Nb Bad a') : ∃ n, ∀ (w : World), ArgT w a K → ArgT w a' L →
    CallsC Try.prog true AtRel (DE (EvP Bad)) 15 #[.slice a K.length cap, .slice a' L.length cap'] n w fun u w' => u = .bool (sameB K L) ∧ Below w.heap.size w w' ∧ w'.heap.size = w.heap.size := by
  have A1 := at_cell
  have A2 := at_frozen
  have A3 := at_size
  have A4 := at_at
  have A5 := at_alloc
  have A6 := at_set
  have TP := termsP Bad
  have hls := fun w es ty s => events_len_string (P := Try.prog) w es 9 ty s Try.underlying9
  co_apply Exists.intro
  intro w hA hA'
  co_apply callsC_of_wpC Try.func15 (by rfl) rfl
  simp only [Try.ntmps15, List.size_toArray, List.length_cons, List.length_nil, Nat.reduceAdd, Nat.reduceSub, Array.replicate_succ, Array.replicate_zero, List.push_toArray, List.append_toArray, List.nil_append, List.cons_append]
  repeat (first
    | co_reg TP
    | (co_apply opsC_cons_k rfl (by rfl)
       intro _ hR K1 hK1
       obtain ⟨_, rfl⟩ := hR
       go_simp
       refine hK1 _ _ ⟨?_, ?_⟩
       · intro e he
         have hm := mem_listed he
         simp [go_sem, *] at hm
         try (subst hm; exact evP _ _ (by first | assumption | simpa using hnb))
       clear hK1 K1
       try walk_nrm)
    | (co_apply opsC_unwanted TP rfl (by rfl)
       try walk_nrm)
    | (co_ctl TP; try co_then))
  co_split TP ((K.length : Int) != (L.length : Int))
  · intro hne
    have HN : Hid (sameB K L = false) := same_len (fun e => by simp [e] at hne)
    clear hne
    repeat (first
      | co_reg TP
      | (co_apply opsC_cons_k rfl (by rfl)
         intro _ hR K1 hK1
         obtain ⟨_, rfl⟩ := hR
         go_simp
         refine hK1 _ _ ⟨?_, ?_⟩
         · intro e he
           have hm := mem_listed he
           simp [go_sem, *] at hm
           try (subst hm; exact evP _ _ (by first | assumption | simpa using hnb))
         clear hK1 K1
         try walk_nrm)
      | (co_apply opsC_unwanted TP rfl (by rfl)
         try walk_nrm)
      | (co_ctl TP; try co_then))
    exact ⟨rfl, _, resultsC_tmp (by rfl) _, by rw [HN.out]; rfl, below_at (Below.refl _ _), rfl⟩
  · intro heq
    have hl : K.length = L.length := by simp at heq; omega
    clear heq
    obtain ⟨n, hn⟩ : ∃ n, L.length = n := ⟨_, rfl⟩
    have hKn : K.length = n := hl.trans hn
    have HS := fun (h : ∀ i (h1 : i < K.length) (h2 : i < L.length), K[i] = L[i]) => same_all hl h
    rw [hKn, hn]
    repeat (first
      | co_reg TP
      | (co_apply opsC_cons_k rfl (by rfl)
         intro _ hR K1 hK1
         obtain ⟨_, rfl⟩ := hR
         go_simp
         refine hK1 _ _ ⟨?_, ?_⟩
         · intro e he
           have hm := mem_listed he
           simp [go_sem, *] at hm
           try (subst hm; exact evP _ _ (by first | assumption | simpa using hnb))
         clear hK1 K1
         try walk_nrm)
      | (co_apply opsC_unwanted TP rfl (by rfl)
         try walk_nrm)
      | (co_ctl TP; try co_then))
    co_apply wpC_loop TP (SameInv w a a' cap cap' n (fun j => ∀ i (h1 : i < K.length) (h2 : i < L.length), i < j → K[i] = L[i])) (SameMu n) _ 1048576
    · exact ⟨0, _, _, _, _, _, _, _, _, _, _, _, _, _, _, _, _, _, _, _, _, _, _, _, Nat.zero_le _, fun i _ _ h => absurd h (Nat.not_lt_zero _), ⟨below_at (Below.refl _ _), rfl⟩, rfl⟩
    · simp [SameMu]; omega
    · rintro z wr ⟨j, v2, v3, v4, v6, v7, v8, v9, v10, v11, v12, v13, v14, v15, v16, v17, v18, v19, v20, v21, v22, v23, v24, v25, hj, hQ, hF, rfl⟩
      repeat (first
        | co_reg TP
        | (co_apply opsC_cons_k rfl (by rfl)
           intro _ hR K1 hK1
           obtain ⟨_, rfl⟩ := hR
           go_simp
           refine hK1 _ _ ⟨?_, ?_⟩
           · intro e he
             have hm := mem_listed he
             simp [go_sem, *] at hm
             try (subst hm; exact evP _ _ (by first | assumption | simpa using hnb))
           clear hK1 K1
           try walk_nrm)
        | (co_apply opsC_unwanted TP rfl (by rfl)
           try walk_nrm)
        | (co_ctl TP; try co_then))
      co_split TP (decide ((j : Int) < (n : Int)))
      · intro hlt'
        replace hlt' : (j : Int) < (n : Int) := of_decide_eq_true hlt'
        have hlt : j < n := by omega
        obtain ⟨sb, off, ea, hs, hc, _⟩ := hA j (by omega)
        obtain ⟨sb', off', ea', hs', hc', _⟩ := hA' j (by omega)
        have hnb := hb sb off ea
        have hnb' := hb' sb' off' ea'
        have c1 : ∀ X, Below w.heap.size w X ∧ X.heap.size = w.heap.size → X.cell? ⟨sb, off + j, none⟩ = some (.string (K[j]'(by omega))) := fun X h => (h.1.cell (p := ⟨sb, off + j, none⟩) hs).trans hc
        have c2 : ∀ X, Below w.heap.size w X ∧ X.heap.size = w.heap.size → X.cell? ⟨sb', off' + j, none⟩ = some (.string (L[j]'(by omega))) := fun X h => (h.1.cell (p := ⟨sb', off' + j, none⟩) hs').trans hc'
        clear hc hc'
        have hj0 : (0 : Int) ≤ (j : Int) := by omega
        have ew : IntKind.i64.wrap ((j : Int) + 1) = ((j + 1 : Nat) : Int) := by rw [IntKind.wrap_i64]; omega
        have HQ : Hid (K[j]'(by omega) = L[j]'(by omega) → ∀ i (h1 : i < K.length) (h2 : i < L.length), i < j + 1 → K[i] = L[i]) := fun he i h1 h2 h3 => by
          by_cases e : i = j
          · subst e; exact he
          · exact hQ i h1 h2 (by omega)
        have HN : Hid (K[j]'(by omega) ≠ L[j]'(by omega) → sameB K L = false) := fun he => same_not (by omega) (by omega) he
        clear hQ
        obtain ⟨t, ht⟩ : ∃ t, L[j]'(by omega) = t := ⟨_, rfl⟩
        obtain ⟨t', ht'⟩ : ∃ t', K[j]'(by omega) = t' := ⟨_, rfl⟩
        rw [ht, ht'] at HQ HN
        rw [ht] at c2
        rw [ht'] at c1
        clear ht ht'
        rw [ea, ea']
        repeat (first
          | co_reg TP
          | (co_apply opsC_cons_k rfl (by rfl)
             intro _ hR K1 hK1
             obtain ⟨_, rfl⟩ := hR
             go_simp
             refine hK1 _ _ ⟨?_, ?_⟩
             · intro e he
               have hm := mem_listed he
               simp [go_sem, *] at hm
               try (subst hm; exact evP _ _ (by first | assumption | simpa using hnb))
             clear hK1 K1
             try walk_nrm)
          | (co_apply opsC_unwanted TP rfl (by rfl)
             try walk_nrm)
          | (co_ctl TP; try co_then))
        co_apply wpC_region_held TP (de_draw Bad) (S := fun X => Below w.heap.size w X ∧ X.heap.size = w.heap.size) (by first | kernel_rfl | rfl)
        intro _ hR
        replace hF := low_rely (low_rely (low_rely hF ⟨_, rfl⟩) hR) (at_draw _)
        clear hR
        simp only [List.size_toArray, List.length_cons, List.length_nil, Nat.reduceAdd, Nat.zero_add]
        co_take 0 TP (fun h r => low_rely h r) hF hw (skip) (co_quiet TP)
        co_take 1 TP (fun h r => low_rely h r) hF hw (skip) (co_quiet TP)
        co_take 2 TP (fun h r => low_rely h r) hF hw (skip) (co_still TP)
        co_take 3 TP (fun h r => low_rely h r) hF hw (have hc := c1 _ hw) ((intro e he; have hm := mem_listed he; simp [go_sem, *] at hm; subst hm; exact evP _ _ (by first | assumption | simpa using hnb)))
        co_take 4 TP (fun h r => low_rely h r) hF hw (skip) (co_quiet TP)
        co_take 5 TP (fun h r => low_rely h r) hF hw (skip) (co_quiet TP)
        co_take 6 TP (fun h r => low_rely h r) hF hw (skip) (co_still TP)
        co_take 7 TP (fun h r => low_rely h r) hF hw (have hc := c2 _ hw) ((intro e he; have hm := mem_listed he; simp [go_sem, *] at hm; subst hm; exact evP _ _ (by first | assumption | simpa using hnb')))
        co_take 8 TP (fun h r => low_rely h r) hF hw (skip) (co_quiet TP)
        co_done
        repeat (first
          | co_reg TP
          | (co_apply opsC_cons_k rfl (by rfl)
             intro _ hR K1 hK1
             obtain ⟨_, rfl⟩ := hR
             go_simp
             refine hK1 _ _ ⟨?_, ?_⟩
             · intro e he
               have hm := mem_listed he
               simp [go_sem, *] at hm
               try (subst hm; exact evP _ _ (by first | assumption | simpa using hnb))
             clear hK1 K1
             try walk_nrm)
          | (co_apply opsC_unwanted TP rfl (by rfl)
             try walk_nrm)
          | (co_ctl TP; try co_then))
        co_split TP (!(t'.toList == t.toList))
        · intro hne
          have hne' : t' ≠ t := fun e => by subst e; simp at hne
          clear hne
          repeat (first
            | co_reg TP
            | (co_apply opsC_cons_k rfl (by rfl)
               intro _ hR K1 hK1
               obtain ⟨_, rfl⟩ := hR
               go_simp
               refine hK1 _ _ ⟨?_, ?_⟩
               · intro e he
                 have hm := mem_listed he
                 simp [go_sem, *] at hm
                 try (subst hm; exact evP _ _ (by first | assumption | simpa using hnb))
               clear hK1 K1
               try walk_nrm)
            | (co_apply opsC_unwanted TP rfl (by rfl)
               try walk_nrm)
            | (co_ctl TP; try co_then))
          exact ⟨rfl, _, resultsC_tmp (by rfl) _, by rw [HN.out hne']; rfl, below_at hF.1, hF.2⟩
        · intro heq
          have heq' : t' = t := Classical.byContradiction fun e => by rw [txt_ne' e] at heq; cases heq
          clear heq
          repeat (first
            | co_reg TP
            | (co_apply opsC_cons_k rfl (by rfl)
               intro _ hR K1 hK1
               obtain ⟨_, rfl⟩ := hR
               go_simp
               refine hK1 _ _ ⟨?_, ?_⟩
               · intro e he
                 have hm := mem_listed he
                 simp [go_sem, *] at hm
                 try (subst hm; exact evP _ _ (by first | assumption | simpa using hnb))
               clear hK1 K1
               try walk_nrm)
            | (co_apply opsC_unwanted TP rfl (by rfl)
               try walk_nrm)
            | (co_ctl TP; try co_then))
          exact ⟨⟨j + 1, _, _, _, _, _, _, _, _, _, _, _, _, _, _, _, _, _, _, _, _, _, _, _, by omega, HQ.out heq', ⟨below_at hF.1, hF.2⟩, rfl⟩, by simp [SameMu]; omega⟩
      · intro hge'
        have hge : ¬ (j : Int) < (n : Int) := of_decide_eq_false hge'
        have HN : Hid (sameB K L = true) := HS (fun i h1 h2 => hQ i h1 h2 (by omega))
        clear hQ hge'
        repeat (first
          | co_reg TP
          | (co_apply opsC_cons_k rfl (by rfl)
             intro _ hR K1 hK1
             obtain ⟨_, rfl⟩ := hR
             go_simp
             refine hK1 _ _ ⟨?_, ?_⟩
             · intro e he
               have hm := mem_listed he
               simp [go_sem, *] at hm
               try (subst hm; exact evP _ _ (by first | assumption | simpa using hnb))
             clear hK1 K1
             try walk_nrm)
          | (co_apply opsC_unwanted TP rfl (by rfl)
             try walk_nrm)
          | (co_ctl TP; try co_then))
        exact ⟨rfl, _, resultsC_tmp (by rfl) _, by rw [HN.out]; rfl, below_at hF.1, hF.2⟩

end Go.Proofs.Ytnndfgceehfiiaa
