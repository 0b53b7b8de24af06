/-
  impl.bothSides: from its entry to the first go statement. (tools/genbs.py)
-/
import Derived.Test.YtnndfgceehfiiaaBsB
namespace Go.Proofs.Ytnndfgceehfiiaa
open Go.Conc Go.ConcN Go.RowKit Go.Conc.Lib Go.ConcR.Gen Go.ConcN.Gen
open Go.ConcR (KK WgAt stA smA rd wr mk Payload DC0 Bk)
variable [Payload]
section
variable {K L : List ByteArray} {ga gb : Nat} {f s g u : Int} {w : World} {c : Frame} {cs : List Frame} {Low M : Nat} {W : World}

set_option maxRecDepth 100000 in
set_option maxHeartbeats 4000000 in
/-- From its entry on. -/
theorem bothStart (hety : Payload.ety = 35) (hK1 : K.length ≤ 1048576) (hL1 : L.length ≤ 1048576) (w : World) (hA : RowT w ga K) (hB : RowT w gb L) : ∃ W M Low n, BsF K L ga gb f s g u w 8589934592 W ∧ W.heap.size < Low ∧
    Goes Try.prog true Eq (DE (Ev0 (w.heap.size + 6) Own0 (Rd0 (w.heap.size + 6)) 0)) (AtMk Try.prog .disable fun a X => ∃ n, Goes Try.prog true Eq (DE (Ev0 (w.heap.size + 6) Own0 (Rd0 (w.heap.size + 6)) 0)) (AtMk Try.prog .enable fun a X => ∃ n, Goes Try.prog true Eq (DE (Ev0 (w.heap.size + 6) Own0 (Rd0 (w.heap.size + 6)) 0)) (AtGo1 Try.prog 48 (w.heap.size + 6) (w.heap.size + 4) (w.heap.size + 2) (w.heap.size + 7) Low (AnchB K L ga gb f s g u w c cs W) (sentV K L f g) (.bool false) M) n a X) n a X) n
      (G ((base 18).at ⟨#[.agg #[.slice (some ⟨ga, 0, none⟩) K.length K.length, .int .i64 f, .int .i64 s], .agg #[.slice (some ⟨gb, 0, none⟩) L.length L.length, .int .i64 g, .int .i64 u], undef, undef, undef, undef, undef, undef, undef, undef, undef, undef, undef, undef, undef, undef, undef, undef], []⟩ [.code bothB]) (c :: cs)) w := by
  obtain ⟨M1, H1⟩ := work1 (f := f) (s := s) (zv := .bool false) (geo2 w.heap.size) (low1 _ (w.heap.size + 5) (.inr (.inr rfl))) (low1 _ w.heap.size (by omega)) (low1 _ (w.heap.size + 1) (by omega)) (low1 _ ga (.inl (by have := hA.1; omega))) (low1 _ gb (.inl (by have := hB.1; omega))) (K := K) (L := L) hK1
  obtain ⟨M2, H2⟩ := work2 (f := g) (s := u) (zv := .bool false) (geo2 w.heap.size) (low1 _ (w.heap.size + 5) (.inr (.inr rfl))) (low1 _ (w.heap.size + 1) (by omega)) (low1 _ w.heap.size (by omega)) (low1 _ gb (.inl (by have := hB.1; omega))) (low1 _ ga (.inl (by have := hA.1; omega))) (K := L) (L := K) hL1
  have hf := bsF_new (w := w) (K := K) (L := L) (ga := ga) (gb := gb) (f := f) (s := s) (g := g) (u := u)
  have hf2 := hf.add
  obtain ⟨Low, hLow⟩ : ∃ Low, w.heap.size + 7 + max M1 M2 + max M1 M2 < Low := ⟨_, Nat.lt_succ_self _⟩
  have hG := bothGo1 (c := c) (cs := cs) (M := max M1 M2) (Low := Low) hety hf2 hA hB hLow (fun X h => (H1 X h).mono (Nat.le_max_left _ _)) (fun X h => (H2 X h).mono (Nat.le_max_right _ _))
  refine ⟨_, max M1 M2, Low, 40, hf2, by rw [hf2.size]; omega, ?_⟩
  clear hLow
  have mcr := chanRun
  have mce := chanEvs
  clear H1 H2
  generalize max M1 M2 = M at hG ⊢
  simp only [bothB, Try.f18, Option.getD_some]
  l_c stepG_seq
  l_reg
  refine Goes.step rfl (fun _ h₁ => ?_)
  subst h₁
  refine goes_oper_k rfl rfl (by decide) (fun K1 hK1 => ?_)
  go_simp
  try (unfold stored; go_simp)
  refine hK1 _ _ ⟨?_, ?_⟩
  · intro e he
    have hm := mem_listed he
    simp [go_sem, *] at hm
    try (subst hm; exact ev0_plain _ _ (by simp))
  clear hK1 K1
  try walk_nrm
  refine Goes.step rfl (fun _ h₁ => ?_)
  subst h₁
  refine goes_oper_k rfl rfl (by decide) (fun K1 hK1 => ?_)
  go_simp
  try (unfold stored; go_simp)
  refine hK1 _ _ ⟨?_, ?_⟩
  · intro e he
    have hm := mem_listed he
    simp [go_sem, *] at hm
    try (subst hm; exact ev0_plain _ _ (by simp))
  clear hK1 K1
  try walk_nrm
  refine Goes.step rfl (fun _ h₁ => ?_)
  subst h₁
  refine goes_oper_k rfl rfl (by decide) (fun K1 hK1 => ?_)
  go_simp
  try (unfold stored; go_simp)
  refine hK1 _ _ ⟨?_, ?_⟩
  · intro e he
    have hm := mem_listed he
    simp [go_sem, *] at hm
    try (subst hm; exact ev0_plain _ _ (by simp))
  clear hK1 K1
  try walk_nrm
  refine Goes.step rfl (fun _ h₁ => ?_)
  subst h₁
  refine goes_oper_k rfl rfl (by decide) (fun K1 hK1 => ?_)
  go_simp
  try (unfold stored; go_simp)
  refine hK1 _ _ ⟨?_, ?_⟩
  · intro e he
    have hm := mem_listed he
    simp [go_sem, *] at hm
    try (subst hm; exact ev0_plain _ _ (by simp))
  clear hK1 K1
  try walk_nrm
  l_c stepG_region_end
  l_c stepG_seq
  l_reg
  refine Goes.step rfl (fun _ h₁ => ?_)
  subst h₁
  refine goes_oper_k rfl rfl (by decide) (fun K1 hK1 => ?_)
  go_simp
  try (unfold stored; go_simp)
  refine hK1 _ _ ⟨?_, ?_⟩
  · intro e he
    have hm := mem_listed he
    simp [go_sem, *] at hm
    try (subst hm; exact ev0_plain _ _ (by simp))
  clear hK1 K1
  try walk_nrm
  refine Goes.step rfl (fun _ h₁ => ?_)
  subst h₁
  refine goes_oper_k rfl rfl (by decide) (fun K1 hK1 => ?_)
  go_simp
  try (unfold stored; go_simp)
  refine hK1 _ _ ⟨?_, ?_⟩
  · intro e he
    have hm := mem_listed he
    simp [go_sem, *] at hm
    try (subst hm; exact ev0_plain _ _ (by simp))
  clear hK1 K1
  try walk_nrm
  refine Goes.step rfl (fun _ h₁ => ?_)
  subst h₁
  refine goes_oper_k rfl rfl (by decide) (fun K1 hK1 => ?_)
  go_simp
  try (unfold stored; go_simp)
  refine hK1 _ _ ⟨?_, ?_⟩
  · intro e he
    have hm := mem_listed he
    simp [go_sem, *] at hm
    try (subst hm; exact ev0_plain _ _ (by simp))
  clear hK1 K1
  try walk_nrm
  l_c stepG_region_end
  l_c stepG_seq
  l_reg
  refine Goes.step rfl (fun _ h₁ => ?_)
  subst h₁
  refine goes_oper_k rfl rfl (by decide) (fun K1 hK1 => ?_)
  go_simp
  try (unfold stored; go_simp)
  refine hK1 _ _ ⟨?_, ?_⟩
  · intro e he
    have hm := mem_listed he
    simp [go_sem, *] at hm
    try (subst hm; exact ev0_plain _ _ (by simp))
  clear hK1 K1
  try walk_nrm
  l_c stepG_region_end
  l_c stepG_seq
  l_reg
  simp only [Nat.add_assoc, Nat.reduceAdd]
  refine Goes.step rfl (fun _ h₁ => ?_)
  subst h₁
  refine goes_call rfl rfl (by decide) rfl Try.func19 (nm_add wgl) rfl ⟨fun e he => by simp at he, ?_⟩
  walk_nrmf Try.f19
  have hT := @addTwo wgl (w.heap.size + 6)
  simp only [body_add, addFn, Option.getD_some] at hT
  exact (hT wgLib _ hf.wg hG).mono (by omega)
end

end Go.Proofs.Ytnndfgceehfiiaa
