/-
  The two senders, whole. (tools/genwe.py)
-/
import Derived.Test.YtnndfgceehfiiaaWrkD
namespace Go.Proofs.Ytnndfgceehfiiaa
open Go.Conc Go.ConcN Go.RowKit Go.Conc.Lib Go.ConcR.Gen Go.ConcN.Gen
open Go.ConcR (KK WgAt stA smA rd wr mk Payload DC0 Bk)
variable [Payload]

set_option maxRecDepth 100000 in
set_option maxHeartbeats 4000000 in
/-- Behind the send: the deferred Done. -/
theorem tail1 {Wg Ch C S A B ga gb : Nat} {K L : List ByteArray} {f s : Int} {zv : Value} (w : World) (hK : WgLive wgl.tWg Wg w ∧ Has C (1 - 1) zv w) :
    Goes Try.prog false (RW wgl.tWg Wg C 3 Ch (1 - 1)) (DWs Wg Own0 Rd9 C 3 1) (AtR0 Try.prog wgl.tWg Wg C 3 Ch 1 zv) 26 (G (b1.at { tmps := #[.pointer (some ⟨Wg, 0, none⟩), .pointer (some ⟨S, 0, none⟩), .pointer (some ⟨A, 0, none⟩), .pointer (some ⟨B, 0, none⟩), .chan (some Ch), .agg #[.slice (some ⟨ga, 0, none⟩) K.length K.length, .int .i64 f, .int .i64 s], .bool (endB f), .pointer (some ⟨A, 0, none⟩), .slice (some ⟨ga, 0, none⟩) K.length K.length, .pointer (some ⟨B, 0, none⟩), .slice (some ⟨gb, 0, none⟩) L.length L.length, .bool (begB K L), .agg #[.bool false, .bool (endB f), .bool (begB K L)]], defers := [dcall 21 #[.pointer (some ⟨Wg, 0, none⟩)]] } (.inRegion ops1 [] :: [])) [bot1]) w := by
  u_c stepG_region_end kn_rely hK
  u_c stepG_end kn_rely hK
  u_in kn_rely hK
  rw [stepG_unwind_enter rfl Try.func21 (nm_done wgl) rfl]
  simp only [goes_go]
  refine ⟨by u_nil, ?_⟩
  walk_nrmf Try.f21
  have hA := @doneN _ wgl Try.prog wgLib Own0 Rd9 Wg C 3 Ch 1 zv
  simp only [body_done, doneFn, Option.getD_some] at hA
  exact hA rfl (quitsTail1 _) _ hK

set_option maxRecDepth 100000 in
theorem last1 {Wg Ch C N S A B ga gb : Nat} {K L : List ByteArray} {f s : Int} {zv : Value} (G2 : Geo2 Wg Ch C N) (w : World) (hF : WkF 48 Wg Ch C N 0 S A B ga gb K L f s zv w) :
    AtSnd Try.prog 48 Wg Ch C 1 (.agg #[.bool false, .bool (endB f), .bool (begB K L)]) zv (G (b1.at { tmps := #[.pointer (some ⟨Wg, 0, none⟩), .pointer (some ⟨S, 0, none⟩), .pointer (some ⟨A, 0, none⟩), .pointer (some ⟨B, 0, none⟩), .chan (some Ch), .agg #[.slice (some ⟨ga, 0, none⟩) K.length K.length, .int .i64 f, .int .i64 s], .bool (endB f), .pointer (some ⟨A, 0, none⟩), .slice (some ⟨ga, 0, none⟩) K.length K.length, .pointer (some ⟨B, 0, none⟩), .slice (some ⟨gb, 0, none⟩) L.length L.length, .bool (begB K L), .agg #[.bool false, .bool (endB f), .bool (begB K L)]], defers := [dcall 21 #[.pointer (some ⟨Wg, 0, none⟩)]] } (.inRegion ops1 [9] :: [])) [bot1]) w := by
  have g1 := G2.cCh; have g2 := G2.chW
  refine ⟨rfl, .tuple #[], 26, ?_, fun buf s' => ?_⟩
  · rw [stepG_comm (o := { dst := none, op := .send (.tmp 4) (.tmp 12), type := 0, pos := _, after := _, guard := none }) rfl rfl (by decide) rfl]
    unfold listed
    rw [show ∀ es, (execOp (Act.eval { tmps := #[.pointer (some ⟨Wg, 0, none⟩), .pointer (some ⟨S, 0, none⟩), .pointer (some ⟨A, 0, none⟩), .pointer (some ⟨B, 0, none⟩), .chan (some Ch), .agg #[.slice (some ⟨ga, 0, none⟩) K.length K.length, .int .i64 f, .int .i64 s], .bool (endB f), .pointer (some ⟨A, 0, none⟩), .slice (some ⟨ga, 0, none⟩) K.length K.length, .pointer (some ⟨B, 0, none⟩), .slice (some ⟨gb, 0, none⟩) L.length L.length, .bool (begB K L), .agg #[.bool false, .bool (endB f), .bool (begB K L)]], defers := [dcall 21 #[.pointer (some ⟨Wg, 0, none⟩)]] }) { dst := none, op := .send (.tmp 4) (.tmp 12), type := 0, pos := _, after := _, guard := none }).events Try.prog w es = es from fun _ => rfl, seen_none]
    rfl
  · obtain ⟨st, sm, hl⟩ := hF.live
    exact tail1 _ ⟨⟨st, sm, hl.of_block (setChan_block _ _ _ _ _ _ _ _ (by omega))⟩, (cell_of_block (setChan_block _ _ _ _ _ _ _ _ (by omega)) _).trans hF.has⟩

set_option maxRecDepth 100000 in
/-- From its birth to its send, in whatever order its operations come up. -/
theorem work1 {Wg Ch C N S A B ga gb : Nat} {K L : List ByteArray} {f s : Int} {zv : Value} (G2 : Geo2 Wg Ch C N) (hS : Low1 Wg Ch C N S) (hA : Low1 Wg Ch C N A) (hB : Low1 Wg Ch C N B) (hga : Low1 Wg Ch C N ga) (hgb : Low1 Wg Ch C N gb) (hK : K.length ≤ 1048576) :
    ∃ M, ∀ w, WkF 48 Wg Ch C N 0 S A B ga gb K L f s zv w → Goes Try.prog false (RGW 48 Wg Ch C N 0) (DV Wg 1) (AtSnd Try.prog 48 Wg Ch C 1 (.agg #[.bool false, .bool (endB f), .bool (begB K L)]) zv) M (born Try.prog (call1 Wg S A B)) w := by
  have H := wkHeld (ty := 48) (i := 0) (K := K) (L := L) (f := f) (s := s) (zv := zv) G2 hS hA hB hga hgb
  have TV : Terms (RGW 48 Wg Ch C N 0) (DV Wg 1) := termsV
  obtain ⟨nE, hE⟩ := endedI_c (k := 1) H G2 (.slice (some ⟨ga, 0, none⟩) K.length K.length) f s
  obtain ⟨nB, hBg⟩ := beginsI_c (k := 1) H K L ga gb hga.2.1 hgb.2.1 hK (fun w h => h.rowa) (fun w h => h.rowb)
  refine ⟨10 * (nE + nB + 4) + 0 + 1 + 1 + 1 + 1 + 1 + 1, fun w hF => ?_⟩
  refine goes_idle TV rfl (fun w => born_step1 Wg S A B w) ?_
  rw [ops1_eq]
  refine goes_idle TV rfl (fun _ => stepG_seq) ?_
  refine goes_idle TV rfl (fun _ => stepG_region) ?_
  refine goes_idle TV rfl (fun _ => stepG_defer rfl rfl (by decide) rfl) ?_
  refine goes_idle TV rfl (fun _ => stepG_region_end) ?_
  refine Goes.step rfl fun w₁ h₁ => ?_
  have hF₁ := H.rely _ _ (H.rely _ _ hF h₁) (rgw_draw w₁)
  rw [stepG_region_draw]
  refine ⟨dv_draw w₁, ?_⟩
  have hsch : ∀ t, Region.schedule (Try.prog.follows .mixedOrders) ops1 t = Region.linearise.go .any ops1 10 t (Array.replicate 10 false) [] := fun t => by
    unfold Region.schedule Region.linearise
    rw [dep1, sz1]
    simp
  rw [hsch]
  walk_nrm
  refine region_all (md := .any) (St1 48 Wg Ch C N S A B ga gb K L f s zv) (nE + nB + 4) 0 (fun l a w h => by rw [sz1]; exact h.1) (fun l a w h hall => ?_) top1 (regStep1 H hS.2.1 hA.2.1 hB.2.1 hE hBg (last1 G2)) 10 _ _ _ _ ?_ ?_ ?_
  · have := hall 9 (by rw [sz1]; decide)
    rw [h.2.1] at this
    cases this
  · decide
  · intro i o _ hl
    rw [none_up] at hl
    cases hl
  · exact ⟨by simp, by simp, hF₁, undef, undef, undef, undef, undef, undef, undef, undef, undef, by simp, by simp, by simp, by simp, by simp, by simp, by simp, by simp, by simp, rfl⟩

set_option maxRecDepth 100000 in
set_option maxHeartbeats 4000000 in
/-- Behind the send: the deferred Done. -/
theorem tail2 {Wg Ch C S A B ga gb : Nat} {K L : List ByteArray} {f s : Int} {zv : Value} (w : World) (hK : WgLive wgl.tWg Wg w ∧ Has C (2 - 1) zv w) :
    Goes Try.prog false (RW wgl.tWg Wg C 3 Ch (2 - 1)) (DWs Wg Own0 Rd9 C 3 2) (AtR0 Try.prog wgl.tWg Wg C 3 Ch 2 zv) 26 (G (b2.at { tmps := #[.pointer (some ⟨Wg, 0, none⟩), .pointer (some ⟨S, 0, none⟩), .pointer (some ⟨A, 0, none⟩), .pointer (some ⟨B, 0, none⟩), .chan (some Ch), .agg #[.slice (some ⟨ga, 0, none⟩) K.length K.length, .int .i64 f, .int .i64 s], .bool (endB f), .pointer (some ⟨A, 0, none⟩), .slice (some ⟨ga, 0, none⟩) K.length K.length, .pointer (some ⟨B, 0, none⟩), .slice (some ⟨gb, 0, none⟩) L.length L.length, .bool (begB K L), .agg #[.bool true, .bool (endB f), .bool (begB K L)]], defers := [dcall 21 #[.pointer (some ⟨Wg, 0, none⟩)]] } (.inRegion ops2 [] :: [])) [bot2]) w := by
  u_c stepG_region_end kn_rely hK
  u_c stepG_end kn_rely hK
  u_in kn_rely hK
  rw [stepG_unwind_enter rfl Try.func21 (nm_done wgl) rfl]
  simp only [goes_go]
  refine ⟨by u_nil, ?_⟩
  walk_nrmf Try.f21
  have hA := @doneN _ wgl Try.prog wgLib Own0 Rd9 Wg C 3 Ch 2 zv
  simp only [body_done, doneFn, Option.getD_some] at hA
  exact hA rfl (quitsTail2 _) _ hK

set_option maxRecDepth 100000 in
theorem last2 {Wg Ch C N S A B ga gb : Nat} {K L : List ByteArray} {f s : Int} {zv : Value} (G2 : Geo2 Wg Ch C N) (w : World) (hF : WkF 48 Wg Ch C N 1 S A B ga gb K L f s zv w) :
    AtSnd Try.prog 48 Wg Ch C 2 (.agg #[.bool true, .bool (endB f), .bool (begB K L)]) zv (G (b2.at { tmps := #[.pointer (some ⟨Wg, 0, none⟩), .pointer (some ⟨S, 0, none⟩), .pointer (some ⟨A, 0, none⟩), .pointer (some ⟨B, 0, none⟩), .chan (some Ch), .agg #[.slice (some ⟨ga, 0, none⟩) K.length K.length, .int .i64 f, .int .i64 s], .bool (endB f), .pointer (some ⟨A, 0, none⟩), .slice (some ⟨ga, 0, none⟩) K.length K.length, .pointer (some ⟨B, 0, none⟩), .slice (some ⟨gb, 0, none⟩) L.length L.length, .bool (begB K L), .agg #[.bool true, .bool (endB f), .bool (begB K L)]], defers := [dcall 21 #[.pointer (some ⟨Wg, 0, none⟩)]] } (.inRegion ops2 [9] :: [])) [bot2]) w := by
  have g1 := G2.cCh; have g2 := G2.chW
  refine ⟨rfl, .tuple #[], 26, ?_, fun buf s' => ?_⟩
  · rw [stepG_comm (o := { dst := none, op := .send (.tmp 4) (.tmp 12), type := 0, pos := _, after := _, guard := none }) rfl rfl (by decide) rfl]
    unfold listed
    rw [show ∀ es, (execOp (Act.eval { tmps := #[.pointer (some ⟨Wg, 0, none⟩), .pointer (some ⟨S, 0, none⟩), .pointer (some ⟨A, 0, none⟩), .pointer (some ⟨B, 0, none⟩), .chan (some Ch), .agg #[.slice (some ⟨ga, 0, none⟩) K.length K.length, .int .i64 f, .int .i64 s], .bool (endB f), .pointer (some ⟨A, 0, none⟩), .slice (some ⟨ga, 0, none⟩) K.length K.length, .pointer (some ⟨B, 0, none⟩), .slice (some ⟨gb, 0, none⟩) L.length L.length, .bool (begB K L), .agg #[.bool true, .bool (endB f), .bool (begB K L)]], defers := [dcall 21 #[.pointer (some ⟨Wg, 0, none⟩)]] }) { dst := none, op := .send (.tmp 4) (.tmp 12), type := 0, pos := _, after := _, guard := none }).events Try.prog w es = es from fun _ => rfl, seen_none]
    rfl
  · obtain ⟨st, sm, hl⟩ := hF.live
    exact tail2 _ ⟨⟨st, sm, hl.of_block (setChan_block _ _ _ _ _ _ _ _ (by omega))⟩, (cell_of_block (setChan_block _ _ _ _ _ _ _ _ (by omega)) _).trans hF.has⟩

set_option maxRecDepth 100000 in
/-- From its birth to its send, in whatever order its operations come up. -/
theorem work2 {Wg Ch C N S A B ga gb : Nat} {K L : List ByteArray} {f s : Int} {zv : Value} (G2 : Geo2 Wg Ch C N) (hS : Low1 Wg Ch C N S) (hA : Low1 Wg Ch C N A) (hB : Low1 Wg Ch C N B) (hga : Low1 Wg Ch C N ga) (hgb : Low1 Wg Ch C N gb) (hK : K.length ≤ 1048576) :
    ∃ M, ∀ w, WkF 48 Wg Ch C N 1 S A B ga gb K L f s zv w → Goes Try.prog false (RGW 48 Wg Ch C N 1) (DV Wg 2) (AtSnd Try.prog 48 Wg Ch C 2 (.agg #[.bool true, .bool (endB f), .bool (begB K L)]) zv) M (born Try.prog (call2 Wg S A B)) w := by
  have H := wkHeld (ty := 48) (i := 1) (K := K) (L := L) (f := f) (s := s) (zv := zv) G2 hS hA hB hga hgb
  have TV : Terms (RGW 48 Wg Ch C N 1) (DV Wg 2) := termsV
  obtain ⟨nE, hE⟩ := endedI_c (k := 2) H G2 (.slice (some ⟨ga, 0, none⟩) K.length K.length) f s
  obtain ⟨nB, hBg⟩ := beginsI_c (k := 2) H K L ga gb hga.2.1 hgb.2.1 hK (fun w h => h.rowa) (fun w h => h.rowb)
  refine ⟨10 * (nE + nB + 4) + 0 + 1 + 1 + 1 + 1 + 1 + 1, fun w hF => ?_⟩
  refine goes_idle TV rfl (fun w => born_step2 Wg S A B w) ?_
  rw [ops2_eq]
  refine goes_idle TV rfl (fun _ => stepG_seq) ?_
  refine goes_idle TV rfl (fun _ => stepG_region) ?_
  refine goes_idle TV rfl (fun _ => stepG_defer rfl rfl (by decide) rfl) ?_
  refine goes_idle TV rfl (fun _ => stepG_region_end) ?_
  refine Goes.step rfl fun w₁ h₁ => ?_
  have hF₁ := H.rely _ _ (H.rely _ _ hF h₁) (rgw_draw w₁)
  rw [stepG_region_draw]
  refine ⟨dv_draw w₁, ?_⟩
  have hsch : ∀ t, Region.schedule (Try.prog.follows .mixedOrders) ops2 t = Region.linearise.go .any ops2 10 t (Array.replicate 10 false) [] := fun t => by
    unfold Region.schedule Region.linearise
    rw [dep2, sz2]
    simp
  rw [hsch]
  walk_nrm
  refine region_all (md := .any) (St2 48 Wg Ch C N S A B ga gb K L f s zv) (nE + nB + 4) 0 (fun l a w h => by rw [sz2]; exact h.1) (fun l a w h hall => ?_) top2 (regStep2 H hS.2.1 hA.2.1 hB.2.1 hE hBg (last2 G2)) 10 _ _ _ _ ?_ ?_ ?_
  · have := hall 9 (by rw [sz2]; decide)
    rw [h.2.1] at this
    cases this
  · decide
  · intro i o _ hl
    rw [none_up] at hl
    cases hl
  · exact ⟨by simp, by simp, hF₁, undef, undef, undef, undef, undef, undef, undef, undef, undef, by simp, by simp, by simp, by simp, by simp, by simp, by simp, by simp, by simp, rfl⟩

end Go.Proofs.Ytnndfgceehfiiaa
