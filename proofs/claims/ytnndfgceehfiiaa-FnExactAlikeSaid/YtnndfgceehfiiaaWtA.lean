/-
  sync.WaitGroup's Wait in the company of two senders (which make memory): to the join, and behind it beside goroutines that only leave. (tools/genwt.py)
-/
import Derived.Test.YtnndfgceehfiiaaTwoA
import Derived.Test.YtnndfgceehfiiaaCoA
import Derived.Conc.WgGenN3
namespace Go.Proofs.Ytnndfgceehfiiaa
open Go.Conc Go.ConcN Go.RowKit Go.Conc.Lib Go.ConcR.Gen Go.ConcN.Gen
open Go.ConcR (KK WgAt stA smA rd wr mk Payload DC0 Bk)
variable [Payload] {L : WgLink}

theorem fw_rely {ty : TypeId} {Wg Ch C N : Nat} {F : World → Prop} (hF2 : ∀ w w', RS ty Wg Ch C N w w' → F w → F w') {w w₁ : World} (h : F w ∧ WgLive ty Wg w) (r : RS ty Wg Ch C N w w₁) : F w₁ ∧ WgLive ty Wg w₁ := ⟨hF2 _ _ r h.1, r.rg.live h.2⟩
/-- From a world on only the count of draws has turned. -/
def Fr (F : World → Prop) (W w : World) : Prop := F W ∧ AtRel W w
omit [Payload] in
theorem at_any {F : World → Prop} {W w w₁ : World} (h : Fr F W w) (r : AtRel w w₁) : Fr F W w₁ := ⟨h.1, by obtain ⟨_, rfl⟩ := h.2; obtain ⟨d, rfl⟩ := r; exact ⟨d, rfl⟩⟩

section
variable {Wg Ch C N Low : Nat} {F : World → Prop} {E : Event → Prop} {StopK : World → Goroutine → World → Prop}
  {b₀ : Frame} {a₀ : Act} {ops₀ : Array Oper} {i₀ : Nat} {rest₀ : List Nat} {k₀ : List Item} {cs : List Frame} {mT : Nat}

set_option maxRecDepth 100000 in
set_option maxHeartbeats 8000000 in
/-- From the head of Wait's loop. -/
theorem waitRound2 {P : Program} (H : WgLib P L) (G2 : Geo2 Wg Ch C N) (hF2 : ∀ w w', RS L.tWg Wg Ch C N w w' → F w → F w')
    (hT : ∀ W w, Fr F W w → Goes P true AtRel (DE E) (StopK W) mT (G (b₀.at (a₀.put ((ops₀[i₀]?).bind (·.dst)) (.tuple #[])) (.inRegion ops₀ rest₀ :: k₀)) cs) w)
    (g : Goroutine) (w : World) (h : AnchWN L F Wg (b₀.at a₀ (.inRegion ops₀ (i₀ :: rest₀) :: k₀)) cs g w) :
    ∃ m, Goes P true (RS L.tWg Wg Ch C N) (DP Wg Own0 (Rd0 Wg) 2 Low) (SW1 P L.tWg Wg Ch C N Low (fun g w => ∃ n, Goes P true AtRel (DE E) (StopK w) n g w) (AnchWN L F Wg (b₀.at a₀ (.inRegion ops₀ (i₀ :: rest₀) :: k₀)) cs)) m g w := by
  lib_facts
  obtain ⟨T, rfl, hT84, t0, hF⟩ := h
  obtain ⟨v0, v1, v2, v3, v4, v5, v6, v7, v8, v9, v10, v11, v12, v13, v14, v15, v16, v17, v18, v19, v20, v21, v22, v23, v24, v25, v26, v27, v28, v29, v30, v31, v32, v33, v34, v35, v36, v37, v38, v39, v40, v41, v42, v43, v44, v45, v46, v47, v48, v49, v50, v51, v52, v53, v54, v55, v56, v57, v58, v59, v60, v61, v62, v63, v64, v65, v66, v67, v68, v69, v70, v71, v72, v73, v74, v75, v76, v77, v78, v79, v80, v81, v82, v83, rfl⟩ := array84 T hT84
  simp only [List.getElem?_toArray, List.getElem?_cons_zero, Option.some.injEq] at t0
  subst t0
  refine ⟨60, ?_⟩
  simp only [L7, body_wait, waitFn, Option.getD_some]
  u_c stepG_block (fw_rely hF2) hF
  u_c stepG_seq (fw_rely hF2) hF
  u_reg (fw_rely hF2) hF
  u_op (fw_rely hF2) hF
  u_op (fw_rely hF2) hF
  u_op (fw_rely hF2) hF
  u_call H.f_uLoad (nm_uLoad L) uLoadFn (fw_rely hF2) hF
  u_c stepG_seq (fw_rely hF2) hF
  u_reg (fw_rely hF2) hF
  u_op (fw_rely hF2) hF
  u_c stepG_region_end (fw_rely hF2) hF
  u_c stepG_seq (fw_rely hF2) hF
  u_reg (fw_rely hF2) hF
  u_op (fw_rely hF2) hF
  u_op (fw_rely hF2) hF
  u_op (fw_rely hF2) hF
  refine Goes.stop (fun w₁ h₁ => ?_)
  replace hF := fw_rely hF2 hF h₁
  clear h₁
  refine ⟨rfl, fun v hv hw => ?_⟩
  rcases Nat.eq_zero_or_pos v with rfl | hvp
  · -- none is counted any more
    replace hw : WgAt L.tWg Wg w₁ 0 0 := by simpa using hw
    refine ⟨_, stepG_load_atomic (v := 0) rfl rfl (by k_ne) rfl H.f_loadU64 (x_loadU64_n L) (x_loadU64_b L) (x_loadU64_x L) .u64 (x_loadU64_f L) rfl hw.cellSt, fun _ => ⟨80, ?_⟩, fun h => absurd rfl h⟩
    clear hw
    walk_nrm
    u_op (fw_rely hF2) hF
    u_c stepG_region_end (fw_rely hF2) hF
    u_c stepG_ret' (fw_rely hF2) hF
    u_leave1 H.f_uLoad (fw_rely hF2) hF
    u_op (fw_rely hF2) hF
    u_c stepG_region_end (fw_rely hF2) hF
    u_c stepG_seq (fw_rely hF2) hF
    u_reg (fw_rely hF2) hF
    u_op (fw_rely hF2) hF
    u_op (fw_rely hF2) hF
    u_op (fw_rely hF2) hF
    u_op (fw_rely hF2) hF
    u_c stepG_region_end (fw_rely hF2) hF
    u_c stepG_seq (fw_rely hF2) hF
    u_reg (fw_rely hF2) hF
    u_op (fw_rely hF2) hF
    u_op (fw_rely hF2) hF
    u_op (fw_rely hF2) hF
    u_op (fw_rely hF2) hF
    u_c stepG_region_end (fw_rely hF2) hF
    u_c stepG_seq (fw_rely hF2) hF
    u_c stepG_seq (fw_rely hF2) hF
    u_reg (fw_rely hF2) hF
    u_op (fw_rely hF2) hF
    u_op (fw_rely hF2) hF
    u_c stepG_region_end (fw_rely hF2) hF
    u_cond true (fw_rely hF2) hF
    u_c stepG_seq (fw_rely hF2) hF
    u_cond true (fw_rely hF2) hF
    u_c stepG_seq (fw_rely hF2) hF
    u_reg (fw_rely hF2) hF
    refine Goes.stop (fun w₅ h₅ => ?_)
    replace hF := fw_rely hF2 hF h₅
    clear h₅
    refine ⟨rfl, _, stepG_mark0 .enable (by simp) rfl rfl (by k_ne) rfl H.f_enable (x_enable_n L) (x_enable_b L) (x_enable_x L) (x_enable_f L), 12, ?_⟩
    walk_nrm
    u_c stepG_region_end (fw_rely hF2) hF
    u_reg (fw_rely hF2) hF
    u_op (fw_rely hF2) hF
    u_conv H.underlying_tWgP H.room_tWg (WgLive.cell0 hF.2).choose_spec (fw_rely hF2) hF
    refine Goes.stop (fun w₆ h₆ => ?_)
    replace hF := fw_rely hF2 hF h₆
    clear h₆
    refine ⟨rfl, _, stepG_markAt .acquire (by simp) rfl rfl (by k_ne) rfl H.f_acquire (x_acquire_n L) (x_acquire_b L) (x_acquire_x L) (x_acquire_f L) (by simp [Act.eval, stA]), ⟨mT + 30, ?_⟩⟩
    walk_nrm
    replace hF := hF.1
    replace hF : Fr F w₆ w₆ := ⟨hF, ⟨w₆.drawn, rfl⟩⟩
    u_c stepG_region_end at_any hF
    u_c stepG_seq at_any hF
    u_c stepG_seq at_any hF
    u_reg at_any hF
    u_op at_any hF
    u_op at_any hF
    u_op at_any hF
    u_op at_any hF
    u_op at_any hF
    u_op at_any hF
    u_op at_any hF
    u_op at_any hF
    u_skip at_any hF
    u_skip at_any hF
    u_op at_any hF
    u_c stepG_region_end at_any hF
    u_cond false at_any hF
    u_c stepG_skip at_any hF
    u_c stepG_ret' at_any hF
    u_leave0 H.f_wait at_any hF
    exact (hT _ _ hF).mono (by omega)
  · -- some are counted
    obtain ⟨S, hS⟩ : ∃ S : Int, (v : Int) * KK = S := ⟨_, rfl⟩
    have a1 : S / 4294967296 = (v : Int) := by rw [← hS]; simp only [KK]; omega
    have b1 : bits .and .u64 S 2147483648 = 0 := by rw [← hS]; have := st_flag v 0 (by omega) (by omega); simpa [KK] using this
    have b2 : bits .and .u64 S 2147483647 = 0 := by rw [← hS]; have := st_waiters v 0 (by omega) (by omega); simpa [KK] using this
    have c1 : IntKind.i32.wrap (v : Int) = (v : Int) := by rw [IntKind.wrap_i32]; omega
    have w1 : IntKind.u64.wrap (S + 1) = S + 1 := by rw [IntKind.wrap_u64, ← hS]; simp only [KK]; omega
    have q3 : decide ((v : Int) < 0) = false := decide_eq_false (by omega)
    have q4 : decide (0 < (v : Int)) = true := decide_eq_true (by omega)
    have q5 : ((v : Int) == 0) = false := by simp; omega
    have q6 : decide ((v : Int) = 0) = false := decide_eq_false (by omega)
    rw [hS] at hw
    refine ⟨_, stepG_load_atomic (v := S) rfl rfl (by k_ne) rfl H.f_loadU64 (x_loadU64_n L) (x_loadU64_b L) (x_loadU64_x L) .u64 (x_loadU64_f L) rfl hw.cellSt, fun h0 => absurd h0 (by omega), fun _ => ⟨90, ?_⟩⟩
    clear hw
    walk_nrm
    u_op (fw_rely hF2) hF
    u_c stepG_region_end (fw_rely hF2) hF
    u_c stepG_ret' (fw_rely hF2) hF
    u_leave1 H.f_uLoad (fw_rely hF2) hF
    u_op (fw_rely hF2) hF
    u_c stepG_region_end (fw_rely hF2) hF
    u_c stepG_seq (fw_rely hF2) hF
    u_reg (fw_rely hF2) hF
    u_op (fw_rely hF2) hF
    u_op (fw_rely hF2) hF
    u_op (fw_rely hF2) hF
    u_op (fw_rely hF2) hF
    u_c stepG_region_end (fw_rely hF2) hF
    u_c stepG_seq (fw_rely hF2) hF
    u_reg (fw_rely hF2) hF
    u_op (fw_rely hF2) hF
    u_op (fw_rely hF2) hF
    u_op (fw_rely hF2) hF
    u_op (fw_rely hF2) hF
    u_c stepG_region_end (fw_rely hF2) hF
    u_c stepG_seq (fw_rely hF2) hF
    u_c stepG_seq (fw_rely hF2) hF
    u_reg (fw_rely hF2) hF
    u_op (fw_rely hF2) hF
    u_op (fw_rely hF2) hF
    u_c stepG_region_end (fw_rely hF2) hF
    u_cnd false (fw_rely hF2) hF
    u_c stepG_skip (fw_rely hF2) hF
    u_c stepG_seq (fw_rely hF2) hF
    u_reg (fw_rely hF2) hF
    u_op (fw_rely hF2) hF
    u_op (fw_rely hF2) hF
    u_op (fw_rely hF2) hF
    u_op (fw_rely hF2) hF
    u_op (fw_rely hF2) hF
    u_op (fw_rely hF2) hF
    u_call H.f_uCas (nm_uCas L) uCasFn (fw_rely hF2) hF
    u_c stepG_seq (fw_rely hF2) hF
    u_reg (fw_rely hF2) hF
    u_op (fw_rely hF2) hF
    u_c stepG_region_end (fw_rely hF2) hF
    u_c stepG_seq (fw_rely hF2) hF
    u_reg (fw_rely hF2) hF
    u_op (fw_rely hF2) hF
    u_op (fw_rely hF2) hF
    u_op (fw_rely hF2) hF
    u_op (fw_rely hF2) hF
    u_op (fw_rely hF2) hF
    refine Goes.stop (fun w₂ h₂ => ?_)
    replace hF := fw_rely hF2 hF h₂
    clear h₂
    refine ⟨rfl, fun v' hv' hw => ⟨fun e => ?_, fun e => ?_⟩⟩
    · -- the swap hits: it is registered
      subst e
      rw [hS] at hw ⊢
      refine ⟨_, (stepG_cas_hit (v := S) (n := S + 1) rfl rfl (by k_ne) rfl H.f_casU64 (x_casU64_n L) (x_casU64_b L) (x_casU64_x L) .u64 (x_casU64_f L) rfl rfl rfl hw.cellSt (hw.thaw 0)).trans (by rfl), 90, ?_⟩
      replace hF : F (w₂.setCell (stA Wg) (.int .u64 (S + 1))) ∧ WgLive L.tWg Wg (w₂.setCell (stA Wg) (.int .u64 (S + 1))) := ⟨hF2 _ _ (RS.of_wg G2 (aside_setCell w₂ (stA Wg) _) ⟨_, _, hw.setSt _⟩) hF.1, ⟨_, _, hw.setSt _⟩⟩
      clear hw
      walk_nrm
      u_op (fw_rely hF2) hF
      u_c stepG_region_end (fw_rely hF2) hF
      u_c stepG_ret' (fw_rely hF2) hF
      u_leave1 H.f_uCas (fw_rely hF2) hF
      u_c stepG_region_end (fw_rely hF2) hF
      u_cond true (fw_rely hF2) hF
      u_c stepG_seq (fw_rely hF2) hF
      u_c stepG_seq (fw_rely hF2) hF
      u_reg (fw_rely hF2) hF
      u_op (fw_rely hF2) hF
      u_op (fw_rely hF2) hF
      u_op (fw_rely hF2) hF
      u_op (fw_rely hF2) hF
      u_c stepG_region_end (fw_rely hF2) hF
      u_cond true (fw_rely hF2) hF
      u_reg (fw_rely hF2) hF
      u_op (fw_rely hF2) hF
      u_op (fw_rely hF2) hF
      u_op (fw_rely hF2) hF
      u_conv H.underlying_tPU32 H.room_tU32 (WgLive.cell1 hF.2).choose_spec (fw_rely hF2) hF
      u_wrn (fw_rely hF2) hF
      u_c stepG_region_end (fw_rely hF2) hF
      u_c stepG_seq (fw_rely hF2) hF
      u_reg (fw_rely hF2) hF
      u_op (fw_rely hF2) hF
      u_c stepG_region_end (fw_rely hF2) hF
      u_c stepG_seq (fw_rely hF2) hF
      u_c stepG_seq (fw_rely hF2) hF
      u_reg (fw_rely hF2) hF
      u_op (fw_rely hF2) hF
      u_op (fw_rely hF2) hF
      u_op (fw_rely hF2) hF
      u_op (fw_rely hF2) hF
      u_skip (fw_rely hF2) hF
      u_op (fw_rely hF2) hF
      u_c stepG_region_end (fw_rely hF2) hF
      u_cond false (fw_rely hF2) hF
      u_c stepG_skip (fw_rely hF2) hF
      u_c stepG_seq (fw_rely hF2) hF
      u_reg (fw_rely hF2) hF
      u_op (fw_rely hF2) hF
      u_op (fw_rely hF2) hF
      u_op (fw_rely hF2) hF
      u_op (fw_rely hF2) hF
      refine Goes.stop (fun w₃ h₃ => ?_)
      replace hF := fw_rely hF2 hF h₃
      clear h₃
      refine ⟨rfl, rfl, fun ⟨st, hw⟩ => stepG_semacquire_wait rfl rfl rfl H.f_semacquire (x_semacquire_n L) (x_semacquire_b L) (x_semacquire_x L) (x_semacquire_f L) (by simp [Act.eval, smA]) hw.cellSm, fun hf => ?_⟩
      refine ⟨_, (stepG_semacquire (n := 1) rfl rfl (by k_ne) rfl H.f_semacquire (x_semacquire_n L) (x_semacquire_b L) (x_semacquire_x L) (x_semacquire_f L) (by simp [Act.eval, smA]) hf.cellSm (by k_ne) (hf.thaw 1)).trans (by rfl), 90, ?_⟩
      replace hF : F (w₃.setCell (smA Wg) (.int .u32 0)) ∧ WgLive L.tWg Wg (w₃.setCell (smA Wg) (.int .u32 0)) := ⟨hF2 _ _ (RS.of_wg G2 (aside_setCell w₃ (smA Wg) _) ⟨_, _, hf.setSm 0⟩) hF.1, ⟨_, _, hf.setSm 0⟩⟩
      clear hf
      walk_nrm
      u_c stepG_region_end (fw_rely hF2) hF
      u_c stepG_seq (fw_rely hF2) hF
      u_reg (fw_rely hF2) hF
      u_op (fw_rely hF2) hF
      u_op (fw_rely hF2) hF
      u_op (fw_rely hF2) hF
      u_call H.f_uLoad (nm_uLoad L) uLoadFn (fw_rely hF2) hF
      u_c stepG_seq (fw_rely hF2) hF
      u_reg (fw_rely hF2) hF
      u_op (fw_rely hF2) hF
      u_c stepG_region_end (fw_rely hF2) hF
      u_c stepG_seq (fw_rely hF2) hF
      u_reg (fw_rely hF2) hF
      u_op (fw_rely hF2) hF
      u_op (fw_rely hF2) hF
      u_op (fw_rely hF2) hF
      refine Goes.stop (fun w₄ h₄ => ?_)
      replace hF := fw_rely hF2 hF h₄
      clear h₄
      refine ⟨rfl, fun hw => ?_⟩
      refine ⟨_, stepG_load_atomic (v := 0) rfl rfl (by k_ne) rfl H.f_loadU64 (x_loadU64_n L) (x_loadU64_b L) (x_loadU64_x L) .u64 (x_loadU64_f L) rfl hw.cellSt, 80, ?_⟩
      clear hw
      walk_nrm
      u_op (fw_rely hF2) hF
      u_c stepG_region_end (fw_rely hF2) hF
      u_c stepG_ret' (fw_rely hF2) hF
      u_leave1 H.f_uLoad (fw_rely hF2) hF
      u_op (fw_rely hF2) hF
      u_op (fw_rely hF2) hF
      u_c stepG_region_end (fw_rely hF2) hF
      u_c stepG_seq (fw_rely hF2) hF
      u_cond true (fw_rely hF2) hF
      u_c stepG_seq (fw_rely hF2) hF
      u_reg (fw_rely hF2) hF
      refine Goes.stop (fun w₅ h₅ => ?_)
      replace hF := fw_rely hF2 hF h₅
      clear h₅
      refine ⟨rfl, _, stepG_mark0 .enable (by simp) rfl rfl (by k_ne) rfl H.f_enable (x_enable_n L) (x_enable_b L) (x_enable_x L) (x_enable_f L), 12, ?_⟩
      walk_nrm
      u_c stepG_region_end (fw_rely hF2) hF
      u_reg (fw_rely hF2) hF
      u_op (fw_rely hF2) hF
      u_conv H.underlying_tWgP H.room_tWg (WgLive.cell0 hF.2).choose_spec (fw_rely hF2) hF
      refine Goes.stop (fun w₆ h₆ => ?_)
      replace hF := fw_rely hF2 hF h₆
      clear h₆
      refine ⟨rfl, _, stepG_markAt .acquire (by simp) rfl rfl (by k_ne) rfl H.f_acquire (x_acquire_n L) (x_acquire_b L) (x_acquire_x L) (x_acquire_f L) (by simp [Act.eval, stA]), ⟨mT + 30, ?_⟩⟩
      walk_nrm
      replace hF := hF.1
      replace hF : Fr F w₆ w₆ := ⟨hF, ⟨w₆.drawn, rfl⟩⟩
      u_c stepG_region_end at_any hF
      u_c stepG_seq at_any hF
      u_c stepG_seq at_any hF
      u_reg at_any hF
      u_op at_any hF
      u_c stepG_region_end at_any hF
      u_cond false at_any hF
      u_c stepG_skip at_any hF
      u_c stepG_ret' at_any hF
      u_leave0 H.f_wait at_any hF
      exact (hT _ _ hF).mono (by omega)
    · -- the swap misses
      obtain ⟨S', hS'⟩ : ∃ S' : Int, (v' : Int) * KK = S' := ⟨_, rfl⟩
      have hne : S' ≠ S := by rw [← hS, ← hS']; simp only [KK]; omega
      rw [hS'] at hw
      refine ⟨_, stepG_cas_miss (v := S') rfl rfl (by k_ne) rfl H.f_casU64 (x_casU64_n L) (x_casU64_b L) (x_casU64_x L) .u64 (x_casU64_f L) rfl rfl rfl hw.cellSt (hw.thaw 0) hne, 40, ?_⟩
      clear hw
      walk_nrm
      u_op (fw_rely hF2) hF
      u_c stepG_region_end (fw_rely hF2) hF
      u_c stepG_ret' (fw_rely hF2) hF
      u_leave1 H.f_uCas (fw_rely hF2) hF
      u_c stepG_region_end (fw_rely hF2) hF
      u_cond false (fw_rely hF2) hF
      u_c stepG_skip (fw_rely hF2) hF
      u_c stepG_inBlock (fw_rely hF2) hF
      u_c stepG_inLoop (fw_rely hF2) hF
      exact Goes.stop (fun w₃ h₃ => ⟨_, rfl, by simp, by simp, fw_rely hF2 hF h₃⟩)

set_option maxRecDepth 100000 in
/-- From Wait's entry to the loop's head. -/
theorem waitStart2 {P : Program} (H : WgLib P L) (hF2 : ∀ w w', RS L.tWg Wg Ch C N w w' → F w → F w') (w : World) (hF : F w ∧ WgLive L.tWg Wg w) :
    Goes P true (RS L.tWg Wg Ch C N) (DP Wg Own0 (Rd0 Wg) 2 Low) (SKd P L.tWg Wg Ch C N Low (AnchWN L F Wg (b₀.at a₀ (.inRegion ops₀ (i₀ :: rest₀) :: k₀)) cs)) 3
      (G ((base L.wait).at ⟨#[.pointer (some ⟨Wg, 0, none⟩), undef, undef, undef, undef, undef, undef, undef, undef, undef, undef, undef, undef, undef, undef, undef, undef, undef, undef, undef, undef, undef, undef, undef, undef, undef, undef, undef, undef, undef, undef, undef, undef, undef, undef, undef, undef, undef, undef, undef, undef, undef, undef, undef, undef, undef, undef, undef, undef, undef, undef, undef, undef, undef, undef, undef, undef, undef, undef, undef, undef, undef, undef, undef, undef, undef, undef, undef, undef, undef, undef, undef, undef, undef, undef, undef, undef, undef, undef, undef, undef, undef, undef, undef], []⟩ [.code (body_wait L)]) (b₀.at a₀ (.inRegion ops₀ (i₀ :: rest₀) :: k₀) :: cs)) w := by
  lib_facts
  simp only [body_wait, waitFn, Option.getD_some]
  u_c stepG_seq (fw_rely hF2) hF
  u_cond true (fw_rely hF2) hF
  u_reg (fw_rely hF2) hF
  refine Goes.stop (fun w₁ h₁ => ?_)
  replace hF := fw_rely hF2 hF h₁
  clear h₁
  refine ⟨rfl, _, stepG_mark0 .disable (by simp) rfl rfl (by k_ne) rfl H.f_disable (x_disable_n L) (x_disable_b L) (x_disable_x L) (x_disable_f L), 3, ?_⟩
  walk_nrm
  u_c stepG_region_end (fw_rely hF2) hF
  u_c stepG_block (fw_rely hF2) hF
  u_c stepG_loop (fw_rely hF2) hF
  exact Goes.stop (fun w₂ h₂ => ⟨_, rfl, by simp, by simp, fw_rely hF2 hF h₂⟩)
end

end Go.Proofs.Ytnndfgceehfiiaa
