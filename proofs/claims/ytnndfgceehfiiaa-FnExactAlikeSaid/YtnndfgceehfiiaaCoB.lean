/-
  How much a list of texts holds, beside goroutines that only leave. (tools/gencob.py)
-/
import Derived.Test.YtnndfgceehfiiaaCoA
import Derived.Test.YtnndfgceehfiiaaRegA
import Derived.Test.YtnndfgceehfiiaaBegW
namespace Go.Proofs.Ytnndfgceehfiiaa
open Go.Conc Go.RowKit

/-- The list lies in no bad block. -/
def Nb (Bad : Nat → Prop) (a : Option Addr) : Prop := ∀ sb off, a = some ⟨sb, off, none⟩ → ¬ Bad sb
theorem below_at {n : Nat} {w X : World} {d : Nat} (h : Below n w X) : Below n w (X.at d) := ⟨h.os, h.tape, h.output, h.size, h.block⟩

def SzInv (w : World) (a : Option Addr) (L : List ByteArray) (cap : Nat) (z : Act) (wr : World) : Prop :=
  ∃ (k : Nat) (x : Int) (v2 v3 v4 v6 v7 v8 v9 v10 v11 v12 v13 v14 v15 v16 v17 v18 v19 v20 v21 v22 v23 v24 v25 v26 v27 : Value), k ≤ L.length ∧ 0 ≤ x ∧ x ≤ 1048576 ∧ L.length ≤ 1048576 ∧ Below w.heap.size w wr ∧ wr.heap.size = w.heap.size ∧
    z = { tmps := #[.slice a L.length cap, .int .i64 x, v2, v3, v4, .int .i64 k, v6, v7, v8, v9, v10, v11, v12, v13, v14, v15, v16, v17, v18, v19, v20, v21, v22, v23, v24, v25, v26, v27], defers := [] }
def SzMu (L : List ByteArray) (z : Act) (_ : World) : Nat := match z.tmps.getD 5 undef with | .int _ j => L.length - j.toNat | _ => 0

set_option maxRecDepth 100000 in
set_option maxHeartbeats 4000000 in
theorem szStringS_c (Bad : Nat → Prop) (L : List ByteArray) (hL : L.length ≤ maxLen) (a : Option Addr) (cap : Nat) (hb : Nb Bad a) : ∃ n, ∀ (y : Int) (w : World), 0 ≤ y → y ≤ 1048576 → ArgT w a L →
    CallsC Try.prog true AtRel (DE (EvP Bad)) 5 #[.slice a L.length cap, .int .i64 y] n w fun u w' => ∃ x : Int, u = .int .i64 x ∧ x ≤ 1048576 ∧ (0 ≤ x → L.length ≤ 1048576) ∧ Below w.heap.size w w' ∧ w'.heap.size = w.heap.size := by
  have A1 := at_cell
  have A2 := at_frozen
  have A3 := at_size
  have A4 := at_at
  have A5 := at_alloc
  have A6 := at_set
  have TP := termsP Bad
  have hls := fun w es ty s => events_len_string (P := Try.prog) w es 9 ty s Try.underlying9
  unfold maxLen at hL
  co_apply Exists.intro
  intro y w hy0 hy1 hA
  have ey : IntKind.i64.wrap (y - (L.length : Int)) = y - (L.length : Int) := by rw [IntKind.wrap_i64]; omega
  co_apply callsC_of_wpC Try.func5 (by rfl) rfl
  simp only [Try.ntmps5, List.size_toArray, List.length_cons, List.length_nil, Nat.reduceAdd, Nat.reduceSub, Array.replicate_succ, Array.replicate_zero, List.push_toArray, List.append_toArray, List.nil_append, List.cons_append]
  repeat (first
    | co_reg TP
    | (co_apply opsC_cons_k rfl (by rfl)
       intro _ hR K1 hK1
       obtain ⟨_, rfl⟩ := hR
       go_simp
       refine hK1 _ _ ⟨?_, ?_⟩
       · intro e he
         have hm := mem_listed he
         simp [go_sem, *] at hm
         try (subst hm; exact evP _ _ (by first | assumption | simpa using hnb))
       clear hK1 K1
       try walk_nrm)
    | (co_apply opsC_unwanted TP rfl (by rfl)
       try walk_nrm)
    | (co_ctl TP; try co_then))
  co_split TP (decide (y - (L.length : Int) < 0))
  · intro _
    repeat (first
      | co_reg TP
      | (co_apply opsC_cons_k rfl (by rfl)
         intro _ hR K1 hK1
         obtain ⟨_, rfl⟩ := hR
         go_simp
         refine hK1 _ _ ⟨?_, ?_⟩
         · intro e he
           have hm := mem_listed he
           simp [go_sem, *] at hm
           try (subst hm; exact evP _ _ (by first | assumption | simpa using hnb))
         clear hK1 K1
         try walk_nrm)
      | (co_apply opsC_unwanted TP rfl (by rfl)
         try walk_nrm)
      | (co_ctl TP; try co_then))
    exact ⟨rfl, _, resultsC_tmp (by rfl) _, _, rfl, by decide, fun h => absurd h (by decide), below_at (Below.refl _ _), rfl⟩
  · intro hge
    have hge' : ¬ y - (L.length : Int) < 0 := of_decide_eq_false hge
    clear hge
    repeat (first
      | co_reg TP
      | (co_apply opsC_cons_k rfl (by rfl)
         intro _ hR K1 hK1
         obtain ⟨_, rfl⟩ := hR
         go_simp
         refine hK1 _ _ ⟨?_, ?_⟩
         · intro e he
           have hm := mem_listed he
           simp [go_sem, *] at hm
           try (subst hm; exact evP _ _ (by first | assumption | simpa using hnb))
         clear hK1 K1
         try walk_nrm)
      | (co_apply opsC_unwanted TP rfl (by rfl)
         try walk_nrm)
      | (co_ctl TP; try co_then))
    co_apply wpC_loop TP (SzInv w a L cap) (SzMu L) _ L.length
    · exact ⟨0, y - (L.length : Int), _, _, _, _, _, _, _, _, _, _, _, _, _, _, _, _, _, _, _, _, _, _, _, _, _, Nat.zero_le _, by omega, by omega, by omega, below_at (Below.refl _ _), rfl, rfl⟩
    · simp [SzMu]
    · rintro z wr ⟨k, x, v2, v3, v4, v6, v7, v8, v9, v10, v11, v12, v13, v14, v15, v16, v17, v18, v19, v20, v21, v22, v23, v24, v25, v26, v27, hk, hx0, hx1, hl1, hB, hsz, rfl⟩
      repeat (first
        | co_reg TP
        | (co_apply opsC_cons_k rfl (by rfl)
           intro _ hR K1 hK1
           obtain ⟨_, rfl⟩ := hR
           go_simp
           refine hK1 _ _ ⟨?_, ?_⟩
           · intro e he
             have hm := mem_listed he
             simp [go_sem, *] at hm
             try (subst hm; exact evP _ _ (by first | assumption | simpa using hnb))
           clear hK1 K1
           try walk_nrm)
        | (co_apply opsC_unwanted TP rfl (by rfl)
           try walk_nrm)
        | (co_ctl TP; try co_then))
      co_split TP (decide ((k : Int) < (L.length : Int)))
      · intro hlt0
        have hlt' : (k : Int) < (L.length : Int) := of_decide_eq_true hlt0
        clear hlt0
        have hlt : k < L.length := by omega
        obtain ⟨sb, off, ea, hs, hc, hm⟩ := hA k hlt
        have hc' := (hB.cell (p := ⟨sb, off + k, none⟩) hs).trans hc
        have hnb := hb sb off ea
        unfold maxLen at hm
        obtain ⟨t, ht⟩ : ∃ t, L[k] = t := ⟨_, rfl⟩
        rw [ht] at hc' hm
        clear hc ht
        have hk0 : (0 : Int) ≤ (k : Int) := by omega
        have ew : IntKind.i64.wrap ((k : Int) + 1) = ((k + 1 : Nat) : Int) := by rw [IntKind.wrap_i64]; omega
        have ex : IntKind.i64.wrap (x - (t.size : Int)) = x - (t.size : Int) := by rw [IntKind.wrap_i64]; omega
        repeat (first
          | co_reg TP
          | (co_apply opsC_cons_k rfl (by rfl)
             intro _ hR K1 hK1
             obtain ⟨_, rfl⟩ := hR
             go_simp
             refine hK1 _ _ ⟨?_, ?_⟩
             · intro e he
               have hm := mem_listed he
               simp [go_sem, *] at hm
               try (subst hm; exact evP _ _ (by first | assumption | simpa using hnb))
             clear hK1 K1
             try walk_nrm)
          | (co_apply opsC_unwanted TP rfl (by rfl)
             try walk_nrm)
          | (co_ctl TP; try co_then))
        co_split TP (decide (x - (t.size : Int) < 0))
        · intro _
          repeat (first
            | co_reg TP
            | (co_apply opsC_cons_k rfl (by rfl)
               intro _ hR K1 hK1
               obtain ⟨_, rfl⟩ := hR
               go_simp
               refine hK1 _ _ ⟨?_, ?_⟩
               · intro e he
                 have hm := mem_listed he
                 simp [go_sem, *] at hm
                 try (subst hm; exact evP _ _ (by first | assumption | simpa using hnb))
               clear hK1 K1
               try walk_nrm)
            | (co_apply opsC_unwanted TP rfl (by rfl)
               try walk_nrm)
            | (co_ctl TP; try co_then))
          exact ⟨rfl, _, resultsC_tmp (by rfl) _, _, rfl, by decide, fun h => absurd h (by decide), below_at hB, hsz⟩
        · intro hge
          have hge' : ¬ x - (t.size : Int) < 0 := of_decide_eq_false hge
          clear hge
          repeat (first
            | co_reg TP
            | (co_apply opsC_cons_k rfl (by rfl)
               intro _ hR K1 hK1
               obtain ⟨_, rfl⟩ := hR
               go_simp
               refine hK1 _ _ ⟨?_, ?_⟩
               · intro e he
                 have hm := mem_listed he
                 simp [go_sem, *] at hm
                 try (subst hm; exact evP _ _ (by first | assumption | simpa using hnb))
               clear hK1 K1
               try walk_nrm)
            | (co_apply opsC_unwanted TP rfl (by rfl)
               try walk_nrm)
            | (co_ctl TP; try co_then))
          exact ⟨⟨k + 1, x - (t.size : Int), _, _, _, _, _, _, _, _, _, _, _, _, _, _, _, _, _, _, _, _, _, _, _, _, _, by omega, by omega, by omega, hl1, below_at hB, hsz, by rw [ea]; rfl⟩, by simp [SzMu]; omega⟩
      · intro _
        repeat (first
          | co_reg TP
          | (co_apply opsC_cons_k rfl (by rfl)
             intro _ hR K1 hK1
             obtain ⟨_, rfl⟩ := hR
             go_simp
             refine hK1 _ _ ⟨?_, ?_⟩
             · intro e he
               have hm := mem_listed he
               simp [go_sem, *] at hm
               try (subst hm; exact evP _ _ (by first | assumption | simpa using hnb))
             clear hK1 K1
             try walk_nrm)
          | (co_apply opsC_unwanted TP rfl (by rfl)
             try walk_nrm)
          | (co_ctl TP; try co_then))
        exact ⟨rfl, _, resultsC_tmp (by rfl) _, x, rfl, hx1, fun _ => hl1, below_at hB, hsz⟩

end Go.Proofs.Ytnndfgceehfiiaa
