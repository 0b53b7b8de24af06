/-
  impl.Begins in the company of another sender and of the starter. (tools/genwrk.py)
-/
import Derived.Test.YtnndfgceehfiiaaWrkA
namespace Go.Proofs.Ytnndfgceehfiiaa
open Go.Conc Go.ConcN Go.RowKit
open Go.ConcR (KK WgAt stA smA rd wr mk Payload DC0 Bk)
variable [Payload]
section
variable {ty : TypeId} {Wg Ch C N i k : Nat}

set_option maxRecDepth 100000 in
set_option maxHeartbeats 4000000 in
theorem beginsI_c {F : World → Prop} (H : Held ty Wg Ch C N i F) (K L : List ByteArray) (ga gb : Nat) (hsb : ga ≠ Wg) (hsb2 : gb ≠ Wg) (hK : K.length ≤ 1048576) (hA : ∀ w, F w → RowN ga K w) (hA' : ∀ w, F w → RowN gb L w) : ∃ n, ∀ w, F w →
    CallsC Try.prog false (RGW ty Wg Ch C N i) (DV Wg k) 8 #[.slice (some ⟨ga, 0, none⟩) K.length K.length, .slice (some ⟨gb, 0, none⟩) L.length L.length] n w fun u w' => u = .bool (begB K L) ∧ F w' := by
  have TV : Terms (RGW ty Wg Ch C N i) (DV Wg k) := termsV
  by_cases hle : K.length ≤ L.length
  · have htl : (L.take K.length).length = K.length := by rw [List.length_take]; omega
    obtain ⟨nE, hE⟩ := equalI_c (k := k) H K (L.take K.length) ga gb K.length L.length hsb hsb2 hK hA (fun w h i hi => by rw [List.getElem_take]; exact hA' w h i (by omega)) htl.symm
    rw [htl] at hE
    have HB : Hid (sameB K (L.take K.length) = begB K L) := rfl
    have h1 : (K.length : Int) ≤ (L.length : Int) := by omega
    have h2 : (0 : Int) ≤ (K.length : Int) := by omega
    have hse := fun w es => events_slice_high (P := Try.prog) w es 22 9 (some ⟨gb, 0, none⟩) L.length L.length .i64 (K.length : Int) Try.underlying22 h2 h1
    co_apply Exists.intro
    intro w hF
    co_apply callsC_of_wpC Try.func8 (by rfl) rfl
    simp only [Try.ntmps8, List.size_toArray, List.length_cons, List.length_nil, Nat.reduceAdd, Nat.reduceSub, Array.replicate_succ, Array.replicate_zero, List.push_toArray, List.append_toArray, List.nil_append, List.cons_append]
    repeat (first
      | co_reg TV
      | (co_apply opsC_cons_k rfl (by rfl)
         intro _ hR K hK
         replace hF := (fun h r => H.rely _ _ h r) hF hR
         clear hR
         skip
         go_simp
         refine hK _ _ ⟨?_, ?_⟩
         · (refine dv_quiet _ fun e he => ?_; have hm := mem_listed he; simp [go_sem, *] at hm; try (subst hm; exact ⟨_, rfl, by dsimp only; omega⟩))
         clear hK K
         try walk_nrm)
      | (co_apply opsC_unwanted TV rfl (by rfl)
         try walk_nrm)
      | (co_ctl TV; try co_then))
    co_apply opsC_call TV rfl (by rfl) rfl
    · walk_nrm
      exact hE _ hF
    rintro v w' ⟨rfl, hF⟩
    walk_nrm
    repeat (first
      | co_reg TV
      | (co_apply opsC_cons_k rfl (by rfl)
         intro _ hR K hK
         replace hF := (fun h r => H.rely _ _ h r) hF hR
         clear hR
         skip
         go_simp
         refine hK _ _ ⟨?_, ?_⟩
         · (refine dv_quiet _ fun e he => ?_; have hm := mem_listed he; simp [go_sem, *] at hm; try (subst hm; exact ⟨_, rfl, by dsimp only; omega⟩))
         clear hK K
         try walk_nrm)
      | (co_apply opsC_unwanted TV rfl (by rfl)
         try walk_nrm)
      | (co_ctl TV; try co_then))
    exact ⟨rfl, _, resultsC_tmp (by rfl) _, by rw [← HB.out]; rfl, hF⟩
  · have HB : Hid (begB K L = false) := by
      unfold begB
      exact decide_eq_false (fun e => by have := congrArg List.length e; rw [List.length_take] at this; omega)
    have h1 : ¬ (K.length : Int) ≤ (L.length : Int) := by omega
    co_apply Exists.intro
    intro w hF
    co_apply callsC_of_wpC Try.func8 (by rfl) rfl
    simp only [Try.ntmps8, List.size_toArray, List.length_cons, List.length_nil, Nat.reduceAdd, Nat.reduceSub, Array.replicate_succ, Array.replicate_zero, List.push_toArray, List.append_toArray, List.nil_append, List.cons_append]
    repeat (first
      | co_reg TV
      | (co_apply opsC_cons_k rfl (by rfl)
         intro _ hR K hK
         replace hF := (fun h r => H.rely _ _ h r) hF hR
         clear hR
         skip
         go_simp
         refine hK _ _ ⟨?_, ?_⟩
         · (refine dv_quiet _ fun e he => ?_; have hm := mem_listed he; simp [go_sem, *] at hm; try (subst hm; exact ⟨_, rfl, by dsimp only; omega⟩))
         clear hK K
         try walk_nrm)
      | (co_apply opsC_unwanted TV rfl (by rfl)
         try walk_nrm)
      | (co_ctl TV; try co_then))
    exact ⟨rfl, _, resultsC_tmp (by rfl) _, by rw [HB.out]; rfl, hF⟩
end

end Go.Proofs.Ytnndfgceehfiiaa
