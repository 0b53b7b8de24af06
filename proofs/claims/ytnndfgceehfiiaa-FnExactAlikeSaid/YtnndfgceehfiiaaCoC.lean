/-
  A copy of a list of texts, beside goroutines that only leave. (tools/gencob.py)
-/
import Derived.Test.YtnndfgceehfiiaaCoB
namespace Go.Proofs.Ytnndfgceehfiiaa
open Go.Conc Go.RowKit

def ToInv (w : World) (a : Option Addr) (L : List ByteArray) (cap : Nat) (z : Act) (wr : World) : Prop :=
  ∃ (k : Nat) (v1 v2 v5 v6 v7 v8 v9 v10 v11 v12 v13 v14 v15 v16 v17 v18 v19 v20 v21 : Value), k ≤ L.length ∧ Fill wr w.heap.size L k ∧ Below w.heap.size w wr ∧ wr.heap.size = w.heap.size + 1 ∧
    z = { tmps := #[.slice a L.length cap, v1, v2, .slice (some ⟨w.heap.size, 0, none⟩) L.length L.length, .int .i64 k, v5, v6, v7, v8, v9, v10, v11, v12, v13, v14, v15, v16, v17, v18, v19, v20, v21], defers := [] }
def ToMu (L : List ByteArray) (z : Act) (_ : World) : Nat := match z.tmps.getD 4 undef with | .int _ j => L.length - j.toNat | _ => 0
theorem fill_at {X : World} {g : Nat} {L : List ByteArray} {k d : Nat} (h : Fill X g L k) : Fill (X.at d) g L k := h

set_option maxRecDepth 100000 in
set_option maxHeartbeats 4000000 in
theorem toStringS_c (Bad : Nat → Prop) (L : List ByteArray) (hL : L.length ≤ 1048576) (a : Option Addr) (cap : Nat) (hb : Nb Bad a) : ∃ n, ∀ (w : World), ¬ Bad w.heap.size → ArgT w a L →
    CallsC Try.prog true AtRel (DE (EvP Bad)) 7 #[.slice a L.length cap] n w fun u w' => u = .slice (some ⟨w.heap.size, 0, none⟩) L.length L.length ∧ RowT w' w.heap.size L ∧ Below w.heap.size w w' ∧ w'.heap.size = w.heap.size + 1 := by
  have A1 := at_cell
  have A2 := at_frozen
  have A3 := at_size
  have A4 := at_at
  have A5 := at_alloc
  have A6 := at_set
  have TP := termsP Bad
  have hls := fun w es ty s => events_len_string (P := Try.prog) w es 9 ty s Try.underlying9
  have E1 := fun w es a m s => events_store Try.prog w es a (.string s) m rfl
  have hmk := run_make_row' (P := Try.prog) 22 9 (.string ⟨#[]⟩) 16 Try.underlying22 infoT rfl .i64 .i64 L.length (by omega) (by omega)
  obtain ⟨i0, hi, hz0, hz1, hz2⟩ := info_parts infoT
  have hme := fun w es => events_make (P := Try.prog) w 22 9 i0 (.string ⟨#[]⟩) Try.underlying22 hi hz0 .i64 .i64 L.length L.length (by omega) (by omega) (by rw [hz2]; omega) (by omega) (by rw [hz2]; simp; omega) es
  clear hi hz0 hz1 hz2
  co_apply Exists.intro
  intro w hw hA
  co_apply callsC_of_wpC Try.func7 (by rfl) rfl
  simp only [Try.ntmps7, List.size_toArray, List.length_cons, List.length_nil, Nat.reduceAdd, Nat.reduceSub, Array.replicate_succ, Array.replicate_zero, List.push_toArray, List.append_toArray, List.nil_append, List.cons_append]
  repeat (first
    | co_reg TP
    | (co_apply opsC_cons_k rfl (by rfl)
       intro _ hR K1 hK1
       obtain ⟨_, rfl⟩ := hR
       go_simp
       try (unfold stored; go_simp)
       refine hK1 _ _ ⟨?_, ?_⟩
       · intro e he
         have hm := mem_listed he
         simp [go_sem, *] at hm
         try (subst hm; exact evP _ _ (by first | assumption | simpa using hnb))
       clear hK1 K1
       try walk_nrm)
    | (co_apply opsC_unwanted TP rfl (by rfl)
       try walk_nrm)
    | (co_ctl TP; try co_then))
  co_apply wpC_loop TP (ToInv w a L cap) (ToMu L) _ L.length
  · exact ⟨0, _, _, _, _, _, _, _, _, _, _, _, _, _, _, _, _, _, _, _, Nat.zero_le _, fill_at (fill_new w L), below_at (balloc (Below.refl _ _) _), by simp [World.at], rfl⟩
  · simp [ToMu]
  · rintro z wr ⟨k, v1, v2, v5, v6, v7, v8, v9, v10, v11, v12, v13, v14, v15, v16, v17, v18, v19, v20, v21, hk, hF, hB, hsz, rfl⟩
    repeat (first
      | co_reg TP
      | (co_apply opsC_cons_k rfl (by rfl)
         intro _ hR K1 hK1
         obtain ⟨_, rfl⟩ := hR
         go_simp
         try (unfold stored; go_simp)
         refine hK1 _ _ ⟨?_, ?_⟩
         · intro e he
           have hm := mem_listed he
           simp [go_sem, *] at hm
           try (subst hm; exact evP _ _ (by first | assumption | simpa using hnb))
         clear hK1 K1
         try walk_nrm)
      | (co_apply opsC_unwanted TP rfl (by rfl)
         try walk_nrm)
      | (co_ctl TP; try co_then))
    co_split TP (decide ((k : Int) < (L.length : Int)))
    · intro hlt0
      have hlt' : (k : Int) < (L.length : Int) := of_decide_eq_true hlt0
      clear hlt0
      have hlt : k < L.length := by omega
      obtain ⟨sb, off, ea, hs, hc, hm⟩ := hA k hlt
      have hc' := (hB.cell (p := ⟨sb, off + k, none⟩) hs).trans hc
      have hnb := hb sb off ea
      obtain ⟨⟨x, hx, _⟩, hfz⟩ := hF.2 k hlt
      have HF : Hid (Fill (wr.setCell ⟨w.heap.size, k, none⟩ (.string L[k])) w.heap.size L (k + 1)) := fill_set hF hlt
      obtain ⟨t, ht⟩ : ∃ t, L[k] = t := ⟨_, rfl⟩
      rw [ht] at hc' hm HF
      clear hc ht hF
      have hk0 : (0 : Int) ≤ (k : Int) := by omega
      have ew : IntKind.i64.wrap ((k : Int) + 1) = ((k + 1 : Nat) : Int) := by rw [IntKind.wrap_i64]; omega
      repeat (first
        | co_reg TP
        | (co_apply opsC_cons_k rfl (by rfl)
           intro _ hR K1 hK1
           obtain ⟨_, rfl⟩ := hR
           go_simp
           try (unfold stored; go_simp)
           refine hK1 _ _ ⟨?_, ?_⟩
           · intro e he
             have hm := mem_listed he
             simp [go_sem, *] at hm
             try (subst hm; exact evP _ _ (by first | assumption | simpa using hnb))
           clear hK1 K1
           try walk_nrm)
        | (co_apply opsC_unwanted TP rfl (by rfl)
           try walk_nrm)
        | (co_ctl TP; try co_then))
      exact ⟨⟨k + 1, _, _, _, _, _, _, _, _, _, _, _, _, _, _, _, _, _, _, _, by omega, fill_at HF.out, below_at (bset hB _ (Nat.le_refl _)), by simpa [World.at, World.setCell] using hsz, by rw [ea]; rfl⟩, by simp [ToMu]; omega⟩
    · intro hge
      have hge' : ¬ (k : Int) < (L.length : Int) := of_decide_eq_false hge
      have e : k = L.length := by omega
      have HR : Hid (RowT wr w.heap.size L) := fill_all (by rw [e] at hF; exact hF)
      clear hge hF
      repeat (first
        | co_reg TP
        | (co_apply opsC_cons_k rfl (by rfl)
           intro _ hR K1 hK1
           obtain ⟨_, rfl⟩ := hR
           go_simp
           try (unfold stored; go_simp)
           refine hK1 _ _ ⟨?_, ?_⟩
           · intro e he
             have hm := mem_listed he
             simp [go_sem, *] at hm
             try (subst hm; exact evP _ _ (by first | assumption | simpa using hnb))
           clear hK1 K1
           try walk_nrm)
        | (co_apply opsC_unwanted TP rfl (by rfl)
           try walk_nrm)
        | (co_ctl TP; try co_then))
      exact ⟨rfl, _, resultsC_tmp (by rfl) _, rfl, HR.out, below_at hB, hsz⟩

end Go.Proofs.Ytnndfgceehfiiaa
