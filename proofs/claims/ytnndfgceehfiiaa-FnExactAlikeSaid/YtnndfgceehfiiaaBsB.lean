/-
  impl.bothSides: its two go statements. (tools/genbs.py)
-/
import Derived.Test.YtnndfgceehfiiaaBsA
namespace Go.Proofs.Ytnndfgceehfiiaa
open Go.Conc Go.ConcN Go.RowKit Go.Conc.Lib Go.ConcR.Gen Go.ConcN.Gen
open Go.ConcR (KK WgAt stA smA rd wr mk Payload DC0 Bk)
variable [Payload]
section
variable {K L : List ByteArray} {ga gb : Nat} {f s g u : Int} {w : World} {c : Frame} {cs : List Frame} {Low M : Nat} {W : World}

theorem rs1_keep {X Y : World} (h : RS1 48 (w.heap.size + 6) (w.heap.size + 4) (w.heap.size + 2) (w.heap.size + 7) W X) (r : RS1 48 (w.heap.size + 6) (w.heap.size + 4) (w.heap.size + 2) (w.heap.size + 7) X Y) : RS1 48 (w.heap.size + 6) (w.heap.size + 4) (w.heap.size + 2) (w.heap.size + 7) W Y := h.trans r

set_option maxRecDepth 100000 in
set_option maxHeartbeats 4000000 in
/-- From behind the first go statement to the second one. -/
theorem bothGo2 {st : Int} (hf : BsF K L ga gb f s g u w st W) (hA : RowT w ga K) (hB : RowT w gb L)
    (hM : ∀ X, WkF 48 (w.heap.size + 6) (w.heap.size + 4) (w.heap.size + 2) (w.heap.size + 7) 1 (w.heap.size + 5) (w.heap.size + 1) w.heap.size gb ga L K g u (.bool false) X → Goes Try.prog false (RGW 48 (w.heap.size + 6) (w.heap.size + 4) (w.heap.size + 2) (w.heap.size + 7) 1) (DV (w.heap.size + 6) 2) (AtSnd Try.prog 48 (w.heap.size + 6) (w.heap.size + 4) (w.heap.size + 2) 2 (sentV K L f g 1) (.bool false)) M (born Try.prog (call2 (w.heap.size + 6) (w.heap.size + 5) (w.heap.size + 1) w.heap.size)) X)
    (X : World) (hF : RS1 48 (w.heap.size + 6) (w.heap.size + 4) (w.heap.size + 2) (w.heap.size + 7) W X) :
    Goes Try.prog true (RS1 48 (w.heap.size + 6) (w.heap.size + 4) (w.heap.size + 2) (w.heap.size + 7)) (DP (w.heap.size + 6) Own0 (Rd0 (w.heap.size + 6)) 1 Low) (SGo Try.prog 48 (w.heap.size + 6) (w.heap.size + 4) (w.heap.size + 2) (w.heap.size + 7) Low (AnchB K L ga gb f s g u w c cs W) (sentV K L f g 1) (.bool false) M) 6 (G ((base 18).at ⟨#[.agg #[.slice (some ⟨ga, 0, none⟩) K.length K.length, .int .i64 f, .int .i64 s], .agg #[.slice (some ⟨gb, 0, none⟩) L.length L.length, .int .i64 g, .int .i64 u], .pointer (some ⟨w.heap.size, 0, none⟩), .pointer (some ⟨w.heap.size + 1, 0, none⟩), .pointer (some ⟨w.heap.size + 2, 0, none⟩), .pointer (some ⟨w.heap.size + 3, 0, none⟩), .pointer (some ⟨w.heap.size + 5, 0, none⟩), .pointer (some ⟨w.heap.size + 6, 0, none⟩), .chan (some (w.heap.size + 4)), .tuple #[], .func (.func 20) #[] #[.pointer (some ⟨w.heap.size + 6, 0, none⟩), .pointer (some ⟨w.heap.size + 5, 0, none⟩), .pointer (some ⟨w.heap.size, 0, none⟩), .pointer (some ⟨w.heap.size + 1, 0, none⟩)], undef, undef, undef, undef, undef, undef, undef], []⟩ [.inRegion bs4 [], .code bothC5]) (c :: cs)) X := by
  rw [bothC5_eq]
  u_c stepG_region_end rs1_keep hF
  u_c stepG_seq rs1_keep hF
  u_reg rs1_keep hF
  refine Goes.step rfl (fun _ h₁ => ?_)
  replace hF := rs1_keep hF h₁
  clear h₁
  refine goes_oper_k (o := { dst := some 11, op := .makeFunc (.func 23) #[] #[.tmp 7, .tmp 6, .tmp 3, .tmp 2], type := _, pos := _, after := _, guard := none }) rfl rfl (by decide) (fun K1 hK1 => ?_)
  go_simp
  refine hK1 _ _ ⟨?_, ?_⟩
  · u_none
    intro e he
    have hm := mem_listed he
    simp [go_sem] at hm
  clear hK1 K1
  walk_nrm
  refine Goes.stop (fun X₁ h₁ => ?_)
  replace hF := rs1_keep hF h₁
  clear h₁
  refine ⟨rfl, ?g2, born Try.prog (call2 (w.heap.size + 6) (w.heap.size + 5) (w.heap.size + 1) w.heap.size), ?hs, ?h1, 8, ?h2⟩
  case hs =>
    refine (stepG_spawn (o := { dst := none, op := .go { callee := .value (.tmp 11), args := #[], argTypes := #[] }, type := _, pos := _, after := _, guard := none }) rfl rfl (by decide) rfl rfl).trans ?_
    rw [listed_nil (by rfl)]
    simp only [Array.map_empty, Array.append_empty]
    rfl
  case h1 => exact hM X₁ ((wkHeld (geo2 w.heap.size) (low1 _ _ (.inr (.inr rfl))) (low1 _ _ (by omega)) (low1 _ _ (by omega)) (low1 _ _ (.inl (by have := hB.1; omega))) (low1 _ _ (.inl (by have := hA.1; omega)))).rely W X₁ (hf.wk2 hA hB) ⟨hF.rs.rg, hF.one⟩)
  case h2 => exact bothWait X₁ ⟨hF.rs, hF.rs.rg.live ⟨_, _, hf.wg⟩⟩

set_option maxRecDepth 100000 in
set_option maxHeartbeats 4000000 in
/-- From behind Add to the first go statement. -/
theorem bothGo1 (hety : Payload.ety = 35) (hf : BsF K L ga gb f s g u w 8589934592 W) (hA : RowT w ga K) (hB : RowT w gb L) (hLow : w.heap.size + 7 + M + M < Low)
    (hM1 : ∀ X, WkF 48 (w.heap.size + 6) (w.heap.size + 4) (w.heap.size + 2) (w.heap.size + 7) 0 (w.heap.size + 5) w.heap.size (w.heap.size + 1) ga gb K L f s (.bool false) X → Goes Try.prog false (RGW 48 (w.heap.size + 6) (w.heap.size + 4) (w.heap.size + 2) (w.heap.size + 7) 0) (DV (w.heap.size + 6) 1) (AtSnd Try.prog 48 (w.heap.size + 6) (w.heap.size + 4) (w.heap.size + 2) 1 (sentV K L f g 0) (.bool false)) M (born Try.prog (call1 (w.heap.size + 6) (w.heap.size + 5) w.heap.size (w.heap.size + 1))) X)
    (hM2 : ∀ X, WkF 48 (w.heap.size + 6) (w.heap.size + 4) (w.heap.size + 2) (w.heap.size + 7) 1 (w.heap.size + 5) (w.heap.size + 1) w.heap.size gb ga L K g u (.bool false) X → Goes Try.prog false (RGW 48 (w.heap.size + 6) (w.heap.size + 4) (w.heap.size + 2) (w.heap.size + 7) 1) (DV (w.heap.size + 6) 2) (AtSnd Try.prog 48 (w.heap.size + 6) (w.heap.size + 4) (w.heap.size + 2) 2 (sentV K L f g 1) (.bool false)) M (born Try.prog (call2 (w.heap.size + 6) (w.heap.size + 5) (w.heap.size + 1) w.heap.size)) X) :
    Goes Try.prog true Eq (DE (Ev0 (w.heap.size + 6) Own0 (Rd0 (w.heap.size + 6)) 0)) (AtGo1 Try.prog 48 (w.heap.size + 6) (w.heap.size + 4) (w.heap.size + 2) (w.heap.size + 7) Low (AnchB K L ga gb f s g u w c cs W) (sentV K L f g) (.bool false) M) 6 (G ((base 18).at ⟨#[.agg #[.slice (some ⟨ga, 0, none⟩) K.length K.length, .int .i64 f, .int .i64 s], .agg #[.slice (some ⟨gb, 0, none⟩) L.length L.length, .int .i64 g, .int .i64 u], .pointer (some ⟨w.heap.size, 0, none⟩), .pointer (some ⟨w.heap.size + 1, 0, none⟩), .pointer (some ⟨w.heap.size + 2, 0, none⟩), .pointer (some ⟨w.heap.size + 3, 0, none⟩), .pointer (some ⟨w.heap.size + 5, 0, none⟩), .pointer (some ⟨w.heap.size + 6, 0, none⟩), .chan (some (w.heap.size + 4)), .tuple #[], undef, undef, undef, undef, undef, undef, undef, undef], []⟩ [.inRegion bs3 [], .code bothC4]) (c :: cs)) W := by
  rw [bothC4_eq]
  l_c stepG_region_end
  l_c stepG_seq
  l_reg
  refine Goes.step rfl (fun _ h₁ => ?_)
  subst h₁
  refine goes_oper_k (o := { dst := some 10, op := .makeFunc (.func 20) #[] #[.tmp 7, .tmp 6, .tmp 2, .tmp 3], type := _, pos := _, after := _, guard := none }) rfl rfl (by decide) (fun K1 hK1 => ?_)
  go_simp
  refine hK1 _ _ ⟨?_, ?_⟩
  · u_none
    intro e he
    have hm := mem_listed he
    simp [go_sem] at hm
  clear hK1 K1
  walk_nrm
  refine Goes.stop (fun _ h₁ => ?_)
  subst h₁
  refine ⟨rfl, ?g2, born Try.prog (call1 (w.heap.size + 6) (w.heap.size + 5) w.heap.size (w.heap.size + 1)), ?hs, ?h1, ?h2, hf.wg, ⟨_, by rw [hety]; exact hf.b2, rfl⟩, hf.ch, by rw [hf.size]; exact Nat.le_refl _, by rw [hf.size]; exact hLow⟩
  case hs =>
    refine (stepG_spawn (o := { dst := none, op := .go { callee := .value (.tmp 10), args := #[], argTypes := #[] }, type := _, pos := _, after := _, guard := none }) rfl rfl (by decide) rfl rfl).trans ?_
    rw [listed_nil (by rfl)]
    simp only [Array.map_empty, Array.append_empty]
    rfl
  case h1 => exact hM1 W (hf.wk1 hA hB)
  case h2 => exact ⟨6, bothGo2 hf hA hB hM2 W (RS1.refl W)⟩
end

end Go.Proofs.Ytnndfgceehfiiaa
