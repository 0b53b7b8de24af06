/-
  spec.Ended, spec.Begins, szShow beside goroutines that only leave. (tools/gencoe.py)
-/
import Derived.Test.YtnndfgceehfiiaaCoD
import Derived.Test.YtnndfgceehfiiaaWrkA
namespace Go.Proofs.Ytnndfgceehfiiaa
open Go.Conc Go.RowKit

set_option maxRecDepth 100000 in
theorem endedS_c (Bad : Nat → Prop) (v : Value) (f s : Int) : ∃ n, ∀ (w : World), ¬ Bad w.heap.size →
    CallsC Try.prog true AtRel (DE (EvP Bad)) 17 #[.agg #[v, .int .i64 f, .int .i64 s]] n w fun u w' => u = .bool (endB f) ∧ Below w.heap.size w w' ∧ w'.heap.size = w.heap.size + 1 := by
  have A1 := at_cell
  have A2 := at_frozen
  have A3 := at_size
  have A4 := at_at
  have A5 := at_alloc
  have A6 := at_set
  have TP := termsP Bad
  have hls := fun w es ty s => events_len_string (P := Try.prog) w es 9 ty s Try.underlying9
  obtain rfl | rfl | ⟨h4, h5⟩ : f = 4 ∨ f = 5 ∨ (f ≠ 4 ∧ f ≠ 5) := by omega
  · co_apply Exists.intro
    intro w hnb
    co_apply callsC_of_wpC Try.func17 (by rfl) rfl
    simp only [Try.ntmps17, List.size_toArray, List.length_cons, List.length_nil, Nat.reduceAdd, Nat.reduceSub, Array.replicate_succ, Array.replicate_zero, List.push_toArray, List.append_toArray, List.nil_append, List.cons_append]
    repeat (first
      | co_reg TP
      | (co_apply opsC_cons_k rfl (by rfl)
         intro _ hR K1 hK1
         obtain ⟨_, rfl⟩ := hR
         go_simp
         refine hK1 _ _ ⟨?_, ?_⟩
         · intro e he
           have hm := mem_listed he
           simp [go_sem, *] at hm
           try (subst hm; exact evP _ _ (by first | assumption | simpa using hnb))
         clear hK1 K1
         try walk_nrm)
      | (co_apply opsC_unwanted TP rfl (by rfl)
         try walk_nrm)
      | (co_ctl TP; try co_then))
    exact ⟨rfl, _, resultsC_tmp (by rfl) _, by simp [endB, *], below_at (balloc (Below.refl _ _) _), by simp [World.at]⟩
  · co_apply Exists.intro
    intro w hnb
    co_apply callsC_of_wpC Try.func17 (by rfl) rfl
    simp only [Try.ntmps17, List.size_toArray, List.length_cons, List.length_nil, Nat.reduceAdd, Nat.reduceSub, Array.replicate_succ, Array.replicate_zero, List.push_toArray, List.append_toArray, List.nil_append, List.cons_append]
    repeat (first
      | co_reg TP
      | (co_apply opsC_cons_k rfl (by rfl)
         intro _ hR K1 hK1
         obtain ⟨_, rfl⟩ := hR
         go_simp
         refine hK1 _ _ ⟨?_, ?_⟩
         · intro e he
           have hm := mem_listed he
           simp [go_sem, *] at hm
           try (subst hm; exact evP _ _ (by first | assumption | simpa using hnb))
         clear hK1 K1
         try walk_nrm)
      | (co_apply opsC_unwanted TP rfl (by rfl)
         try walk_nrm)
      | (co_ctl TP; try co_then))
    exact ⟨rfl, _, resultsC_tmp (by rfl) _, by simp [endB, *], below_at (balloc (Below.refl _ _) _), by simp [World.at]⟩
  · have q4 : (f != 4) = true := by simp [h4]
    have q5 : (f != 5) = true := by simp [h5]
    co_apply Exists.intro
    intro w hnb
    co_apply callsC_of_wpC Try.func17 (by rfl) rfl
    simp only [Try.ntmps17, List.size_toArray, List.length_cons, List.length_nil, Nat.reduceAdd, Nat.reduceSub, Array.replicate_succ, Array.replicate_zero, List.push_toArray, List.append_toArray, List.nil_append, List.cons_append]
    repeat (first
      | co_reg TP
      | (co_apply opsC_cons_k rfl (by rfl)
         intro _ hR K1 hK1
         obtain ⟨_, rfl⟩ := hR
         go_simp
         refine hK1 _ _ ⟨?_, ?_⟩
         · intro e he
           have hm := mem_listed he
           simp [go_sem, *] at hm
           try (subst hm; exact evP _ _ (by first | assumption | simpa using hnb))
         clear hK1 K1
         try walk_nrm)
      | (co_apply opsC_unwanted TP rfl (by rfl)
         try walk_nrm)
      | (co_ctl TP; try co_then))
    exact ⟨rfl, _, resultsC_tmp (by rfl) _, by simp [endB, *], below_at (balloc (Below.refl _ _) _), by simp [World.at]⟩

set_option maxRecDepth 100000 in
set_option maxHeartbeats 4000000 in
theorem beginsS_c (Bad : Nat → Prop) (K L : List ByteArray) (hK : K.length ≤ 1048576) (a a' : Option Addr) (cap cap' : Nat) (hb : Nb Bad a) (hb' : Nb Bad a') (hcap : L.length ≤ cap') : ∃ n, ∀ (w : World), ArgT w a K → ArgT w a' L →
    CallsC Try.prog true AtRel (DE (EvP Bad)) 6 #[.slice a K.length cap, .slice a' L.length cap'] n w fun u w' => u = .bool (begB K L) ∧ Below w.heap.size w w' ∧ w'.heap.size = w.heap.size := by
  have A1 := at_cell
  have A2 := at_frozen
  have A3 := at_size
  have A4 := at_at
  have A5 := at_alloc
  have A6 := at_set
  have TP := termsP Bad
  have hls := fun w es ty s => events_len_string (P := Try.prog) w es 9 ty s Try.underlying9
  by_cases hle : K.length ≤ L.length
  · have htl : (L.take K.length).length = K.length := by rw [List.length_take]; omega
    obtain ⟨nE, hE⟩ := l11Same_c Bad K (L.take K.length) hK a a' cap cap' hb hb'
    rw [htl] at hE
    have HB : Hid (sameB K (L.take K.length) = begB K L) := rfl
    have h1 : (K.length : Int) ≤ (L.length : Int) := by omega
    have h2 : (0 : Int) ≤ (K.length : Int) := by omega
    have h3 : (K.length : Int) ≤ (cap' : Int) := by omega
    have hse := fun w es => events_slice_high (P := Try.prog) w es 22 9 a' L.length cap' .i64 (K.length : Int) Try.underlying22 h2 h3
    co_apply Exists.intro
    intro w hA hA'
    co_apply callsC_of_wpC Try.func6 (by rfl) rfl
    simp only [Try.ntmps6, List.size_toArray, List.length_cons, List.length_nil, Nat.reduceAdd, Nat.reduceSub, Array.replicate_succ, Array.replicate_zero, List.push_toArray, List.append_toArray, List.nil_append, List.cons_append]
    repeat (first
      | co_reg TP
      | (co_apply opsC_cons_k rfl (by rfl)
         intro _ hR K1 hK1
         obtain ⟨_, rfl⟩ := hR
         go_simp
         refine hK1 _ _ ⟨?_, ?_⟩
         · intro e he
           have hm := mem_listed he
           simp [go_sem, *] at hm
           try (subst hm; exact evP _ _ (by first | assumption | simpa using hnb))
         clear hK1 K1
         try walk_nrm)
      | (co_apply opsC_unwanted TP rfl (by rfl)
         try walk_nrm)
      | (co_ctl TP; try co_then))
    co_apply opsC_call TP rfl (by rfl) rfl
    · walk_nrm
      exact hE _ hA (hA'.take _)
    rintro v w' ⟨rfl, hB, hsz⟩
    walk_nrm
    repeat (first
      | co_reg TP
      | (co_apply opsC_cons_k rfl (by rfl)
         intro _ hR K1 hK1
         obtain ⟨_, rfl⟩ := hR
         go_simp
         refine hK1 _ _ ⟨?_, ?_⟩
         · intro e he
           have hm := mem_listed he
           simp [go_sem, *] at hm
           try (subst hm; exact evP _ _ (by first | assumption | simpa using hnb))
         clear hK1 K1
         try walk_nrm)
      | (co_apply opsC_unwanted TP rfl (by rfl)
         try walk_nrm)
      | (co_ctl TP; try co_then))
    exact ⟨rfl, _, resultsC_tmp (by rfl) _, by rw [← HB.out]; rfl, below_at (Below.trans (below_at (Below.refl _ _)) hB), hsz⟩
  · have HB : Hid (begB K L = false) := beg_long hle
    have h1 : ¬ (K.length : Int) ≤ (L.length : Int) := by omega
    co_apply Exists.intro
    intro w hA hA'
    co_apply callsC_of_wpC Try.func6 (by rfl) rfl
    simp only [Try.ntmps6, List.size_toArray, List.length_cons, List.length_nil, Nat.reduceAdd, Nat.reduceSub, Array.replicate_succ, Array.replicate_zero, List.push_toArray, List.append_toArray, List.nil_append, List.cons_append]
    repeat (first
      | co_reg TP
      | (co_apply opsC_cons_k rfl (by rfl)
         intro _ hR K1 hK1
         obtain ⟨_, rfl⟩ := hR
         go_simp
         refine hK1 _ _ ⟨?_, ?_⟩
         · intro e he
           have hm := mem_listed he
           simp [go_sem, *] at hm
           try (subst hm; exact evP _ _ (by first | assumption | simpa using hnb))
         clear hK1 K1
         try walk_nrm)
      | (co_apply opsC_unwanted TP rfl (by rfl)
         try walk_nrm)
      | (co_ctl TP; try co_then))
    exact ⟨rfl, _, resultsC_tmp (by rfl) _, by rw [HB.out]; rfl, below_at (Below.refl _ _), rfl⟩

set_option maxRecDepth 100000 in
set_option maxHeartbeats 4000000 in
theorem szShow_c (Bad : Nat → Prop) (L : List ByteArray) (hL : L.length ≤ maxLen) (a : Option Addr) (cap : Nat) (hb : Nb Bad a) (f s : Int) : ∃ n, ∀ (y : Int) (w : World), ¬ Bad w.heap.size → 0 ≤ y → y ≤ 1048576 → ArgT w a L →
    CallsC Try.prog true AtRel (DE (EvP Bad)) 10 #[.agg #[.slice a L.length cap, .int .i64 f, .int .i64 s], .int .i64 y] n w fun u w' => ∃ x : Int, u = .int .i64 x ∧ x ≤ 1048576 ∧ (0 ≤ x → L.length ≤ 1048576) ∧ Below w.heap.size w w' ∧ w'.heap.size = w.heap.size + 1 := by
  have A1 := at_cell
  have A2 := at_frozen
  have A3 := at_size
  have A4 := at_at
  have A5 := at_alloc
  have A6 := at_set
  have TP := termsP Bad
  have hls := fun w es ty s => events_len_string (P := Try.prog) w es 9 ty s Try.underlying9
  obtain ⟨nE, hE⟩ := szStringS_c Bad L hL a cap hb
  co_apply Exists.intro
  intro y w hnb hy0 hy1 hA
  co_apply callsC_of_wpC Try.func10 (by rfl) rfl
  simp only [Try.ntmps10, List.size_toArray, List.length_cons, List.length_nil, Nat.reduceAdd, Nat.reduceSub, Array.replicate_succ, Array.replicate_zero, List.push_toArray, List.append_toArray, List.nil_append, List.cons_append]
  repeat (first
    | co_reg TP
    | (co_apply opsC_cons_k rfl (by rfl)
       intro _ hR K1 hK1
       obtain ⟨_, rfl⟩ := hR
       go_simp
       refine hK1 _ _ ⟨?_, ?_⟩
       · intro e he
         have hm := mem_listed he
         simp [go_sem, *] at hm
         try (subst hm; exact evP _ _ (by first | assumption | simpa using hnb))
       clear hK1 K1
       try walk_nrm)
    | (co_apply opsC_unwanted TP rfl (by rfl)
       try walk_nrm)
    | (co_ctl TP; try co_then))
  co_apply opsC_call TP rfl (by rfl) rfl
  · walk_nrm
    exact hE _ _ hy0 hy1 (hA.call (below_at (balloc (Below.refl _ _) _)))
  rintro v w' ⟨x, rfl, hx1, hx2, hB, hsz⟩
  walk_nrm
  have hB2 := bstep (below_at (balloc (Below.refl _ _) _)) hB
  simp [World.at] at hsz
  repeat (first
    | co_reg TP
    | (co_apply opsC_cons_k rfl (by rfl)
       intro _ hR K1 hK1
       obtain ⟨_, rfl⟩ := hR
       go_simp
       refine hK1 _ _ ⟨?_, ?_⟩
       · intro e he
         have hm := mem_listed he
         simp [go_sem, *] at hm
         try (subst hm; exact evP _ _ (by first | assumption | simpa using hnb))
       clear hK1 K1
       try walk_nrm)
    | (co_apply opsC_unwanted TP rfl (by rfl)
       try walk_nrm)
    | (co_ctl TP; try co_then))
  co_split TP (decide (x < 0))
  · intro _
    repeat (first
      | co_reg TP
      | (co_apply opsC_cons_k rfl (by rfl)
         intro _ hR K1 hK1
         obtain ⟨_, rfl⟩ := hR
         go_simp
         refine hK1 _ _ ⟨?_, ?_⟩
         · intro e he
           have hm := mem_listed he
           simp [go_sem, *] at hm
           try (subst hm; exact evP _ _ (by first | assumption | simpa using hnb))
         clear hK1 K1
         try walk_nrm)
      | (co_apply opsC_unwanted TP rfl (by rfl)
         try walk_nrm)
      | (co_ctl TP; try co_then))
    exact ⟨rfl, _, resultsC_tmp (by rfl) _, _, rfl, by decide, fun h => absurd h (by decide), below_at hB2, hsz⟩
  · intro hge
    have hge' : ¬ x < 0 := of_decide_eq_false hge
    clear hge
    repeat (first
      | co_reg TP
      | (co_apply opsC_cons_k rfl (by rfl)
         intro _ hR K1 hK1
         obtain ⟨_, rfl⟩ := hR
         go_simp
         refine hK1 _ _ ⟨?_, ?_⟩
         · intro e he
           have hm := mem_listed he
           simp [go_sem, *] at hm
           try (subst hm; exact evP _ _ (by first | assumption | simpa using hnb))
         clear hK1 K1
         try walk_nrm)
      | (co_apply opsC_unwanted TP rfl (by rfl)
         try walk_nrm)
      | (co_ctl TP; try co_then))
    exact ⟨rfl, _, resultsC_tmp (by rfl) _, _, rfl, hx1, hx2, below_at hB2, hsz⟩

end Go.Proofs.Ytnndfgceehfiiaa
