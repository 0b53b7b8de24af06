/-
  sync.WaitGroup's Add(2), made alone, ahead of the go statements. (tools/genadd.py)
-/
import Derived.Test.YtnndfgceehfiiaaTwoE
import Derived.Conc.WgGenN2
namespace Go.Proofs.Ytnndfgceehfiiaa
open Go.Conc Go.ConcN Go.RowKit Go.Conc.Lib Go.ConcR.Gen Go.ConcN.Gen
open Go.ConcR (KK WgAt stA smA rd wr mk Payload DC0 Bk)

section
variable {L : WgLink} {Wg : Nat} {b₀ : Frame} {a₀ : Act} {ops₀ : Array Oper} {i₀ : Nat} {rest₀ : List Nat} {k₀ : List Item} {cs : List Frame} {StopG : Goroutine → World → Prop} {mT : Nat}

theorem ev0_atomic {j : Nat} (a : Addr) (x : Bool) (h : a.block = Wg) : Ev0 Wg Own0 (Rd0 Wg) j ⟨.cell a, x, true⟩ := by
  refine ⟨fun fn pos => ⟨rfl, fun y hy => ?_⟩, by simp, by simp, by simp⟩
  simp only [MemAct.ofEvent, MemAct.touch?, Option.some.injEq] at hy
  subst hy
  exact .inl ⟨⟨a, rfl, h⟩, by simp⟩
theorem ev0_plain (a : Addr) (x : Bool) (h : a.block ≠ Wg) : Ev0 Wg Own0 (Rd0 Wg) 0 ⟨.cell a, x, false⟩ := by
  refine ⟨fun fn pos => ⟨rfl, fun y hy => ?_⟩, by simp, by simp, by simp⟩
  simp only [MemAct.ofEvent, MemAct.touch?, Option.some.injEq] at hy
  subst hy
  exact .inr ⟨fun ⟨z, hz, hzb⟩ => by cases hz; exact h hzb, fun k h1 h2 => by omega, fun _ k h1 h2 => by omega⟩

set_option maxRecDepth 100000 in
set_option maxHeartbeats 8000000 in
theorem addTwo {P : Program} (H : WgLib P L) (w : World) (hw : WgAt L.tWg Wg w 0 0)
    (hT : Goes P true Eq (DE (Ev0 Wg Own0 (Rd0 Wg) 0)) StopG mT (G (b₀.at (a₀.put ((ops₀[i₀]?).bind (·.dst)) (.tuple #[])) (.inRegion ops₀ rest₀ :: k₀)) cs) (w.setCell (stA Wg) (.int .u64 8589934592))) :
    Goes P true Eq (DE (Ev0 Wg Own0 (Rd0 Wg) 0)) (AtMk P .disable fun a w => ∃ n, Goes P true Eq (DE (Ev0 Wg Own0 (Rd0 Wg) 0)) (AtMk P .enable fun a w => ∃ n, Goes P true Eq (DE (Ev0 Wg Own0 (Rd0 Wg) 0)) StopG n a w) n a w) 12
      (G ((base L.add).at ⟨#[.pointer (some ⟨Wg, 0, none⟩), .int .i64 2, undef, undef, undef, undef, undef, undef, undef, undef, undef, undef, undef, undef, undef, undef, undef, undef, undef, undef, undef, undef, undef, undef, undef, undef, undef, undef, undef, undef, undef, undef, undef, undef, undef, undef, undef, undef, undef, undef, undef, undef, undef, undef, undef, undef, undef, undef, undef, undef, undef, undef, undef, undef, undef, undef, undef, undef, undef, undef, undef, undef, undef, undef, undef, undef, undef, undef, undef, undef, undef, undef, undef, undef, undef, undef, undef, undef, undef, undef, undef, undef, undef, undef, undef, undef, undef, undef, undef, undef, undef, undef, undef, undef, undef, undef, undef, undef, undef, undef, undef, undef, undef, undef, undef, undef, undef, undef, undef, undef, undef, undef, undef, undef, undef, undef, undef], []⟩ [.code (body_add L)]) (b₀.at a₀ (.inRegion ops₀ (i₀ :: rest₀) :: k₀) :: cs)) w := by
  lib_facts
  simp only [body_add, addFn, Option.getD_some]
  l_c stepG_seq
  l_cond true
  l_c stepG_seq
  l_c stepG_seq
  l_reg
  l_op
  l_op
  l_c stepG_region_end
  l_cond false
  l_c stepG_skip
  l_c stepG_seq
  l_reg
  refine Goes.stop (fun _ h₁ => ?_)
  subst h₁
  refine ⟨rfl, _, stepG_mark0 .disable (by simp) rfl rfl (by k_ne) rfl H.f_disable (x_disable_n L) (x_disable_b L) (x_disable_x L) (x_disable_f L), 128, ?_⟩
  walk_nrm
  l_c stepG_region_end
  l_reg
  l_defer
  l_c stepG_region_end
  l_c stepG_seq
  l_reg
  l_op
  l_c stepG_region_end
  l_c stepG_seq
  l_c stepG_seq
  l_reg
  l_bub
  l_c stepG_region_end
  l_cond false
  l_c stepG_skip
  l_c stepG_seq
  l_reg
  l_op
  l_op
  l_op
  l_op
  l_op
  l_op
  l_call H.f_uAdd (nm_uAdd L) uAddFn
  l_c stepG_seq
  l_reg
  l_op
  l_c stepG_region_end
  l_c stepG_seq
  l_reg
  l_op
  l_op
  l_op
  l_op
  -- the atomic add
  l_in
  rw [stepG_add_atomic rfl rfl (by k_ne) rfl H.f_addU64 (x_addU64_n L) (x_addU64_b L) (x_addU64_x L) .u64 (x_addU64_f L) rfl rfl hw.cellSt (hw.thaw 0)]
  simp only [goes_go]
  refine ⟨fun e he => ?_, ?_⟩
  · simp at he
    rcases he with rfl | rfl <;> exact ev0_atomic _ _ rfl
  have e0 : IntKind.u64.wrap (0 + 8589934592) = 8589934592 := by decide
  have b1 : bits .and .u64 8589934592 2147483648 = 0 := by decide
  have b2 : bits .and .u64 8589934592 2147483647 = 0 := by decide
  rw [e0]
  replace hw := hw.setSt 8589934592
  walk_nrm
  l_op
  l_c stepG_region_end
  l_c stepG_ret'
  l_leave1 H.f_uAdd
  l_op
  l_c stepG_region_end
  l_c stepG_seq
  l_c stepG_seq
  l_reg
  l_op
  l_op
  l_op
  l_op
  l_skip
  l_skip
  l_op
  l_c stepG_region_end
  l_cond false
  l_c stepG_skip
  l_c stepG_seq
  l_reg
  l_op
  l_op
  l_op
  l_op
  l_c stepG_region_end
  l_c stepG_seq
  l_reg
  l_op
  l_op
  l_op
  l_op
  l_c stepG_region_end
  l_c stepG_seq
  l_c stepG_seq
  l_reg
  l_op
  l_op
  l_op
  l_op
  l_op
  l_op
  l_op
  l_op
  l_op
  l_op
  l_c stepG_region_end
  l_cond true
  l_reg
  l_op
  l_op
  l_op
  l_conv H.underlying_tPU32 H.room_tU32 (show World.cell? _ ⟨Wg, 1, none⟩ = some _ from hw.cellSm)
  -- race.Read of the semaphore
  l_in
  rw [stepG_markAt .read (by simp) rfl rfl (by k_ne) rfl H.f_raceRead (x_raceRead_n L) (x_raceRead_b L) (x_raceRead_x L) (x_raceRead_f L) (ad := ⟨Wg, 1, none⟩) (by simp [Act.eval])]
  simp only [goes_go]
  refine ⟨fun e he => ?_, ?_⟩
  · rw [Array.mem_singleton] at he
    subst he
    exact ev0_said_read _ rfl
  walk_nrm
  l_c stepG_region_end
  l_c stepG_seq
  l_c stepG_seq
  l_reg
  l_op
  l_op
  l_c stepG_region_end
  l_cond false
  l_c stepG_skip
  l_c stepG_seq
  l_c stepG_seq
  l_reg
  l_op
  l_op
  l_op
  l_skip
  l_skip
  l_op
  l_op
  l_skip
  l_skip
  l_skip
  l_skip
  l_op
  l_c stepG_region_end
  l_cond false
  l_c stepG_skip
  l_c stepG_seq
  l_c stepG_seq
  l_reg
  l_op
  l_op
  l_op
  l_skip
  l_skip
  l_op
  l_c stepG_region_end
  l_cond true
  l_c stepG_ret'
  refine Goes.stop (fun _ h₁ => ?_)
  subst h₁
  refine ⟨rfl, _, stepG_unwind_entry (v := .tuple #[]) (evs := #[mk .enable]) rfl H.f_enable (x_enable_n L) (x_enable_b L) (x_enable_x L) (x_enable_f L) (by simp [Extern.Race.none_]) (by simp [mk]) (by simp [mk]), mT + 1, ?_⟩
  l_leave0 H.f_add
  exact hT
end

end Go.Proofs.Ytnndfgceehfiiaa
