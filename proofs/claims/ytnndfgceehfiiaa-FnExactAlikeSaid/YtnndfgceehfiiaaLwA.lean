/-
  The law of Alike: its text in pieces; the orders that its regions can take.
-/
import Derived.Test.YtnndfgceehfiiaaCoI
namespace Go.Proofs.Ytnndfgceehfiiaa
open Go.Conc Go.RowKit

noncomputable def lawB : Code := Try.f4.body.getD .skip
noncomputable def lawC8 : Code := match lawB with | .seq _ (.seq _ (.seq _ (.seq _ (.seq _ (.seq _ c))))) => c | _ => .skip
noncomputable def lawC9 : Code := match lawC8 with | .seq _ c => c | _ => .skip
noncomputable def lawC12 : Code := match lawC9 with | .seq _ (.seq _ (.seq _ c)) => c | _ => .skip
noncomputable def ops8 : Array Oper := match lawC8 with | .seq (.region _ o _) _ => o | _ => #[]
noncomputable def ops14 : Array Oper := match lawC12 with | .seq _ (.seq (.seq (.region _ o _) _) _) => o | _ => #[]
noncomputable def ops16 : Array Oper := match lawC12 with | .seq _ (.seq _ (.seq (.seq (.region _ o _) _) _)) => o | _ => #[]

theorem draws (E : Event → Prop) : LetsDraw (DE E) := fun _ _ he => by simp at he
section
variable {P : Program} {main : Bool} {R : World → World → Prop} {D : World → World → Array Event → Prop} {fn : FuncId} {Q : Exit → Act → World → Prop} {a : Act} {w : World}
theorem opsC_more {ops : Array Oper} {todo : List Nat} {n n' : Nat} (h : OpsC P main R D fn ops todo n Q a w) (hn : n ≤ n') : OpsC P main R D fn ops todo n' Q a w :=
  fun b k cs Stop m hb hk hc => (h b k cs Stop m hb hk hc).mono (by omega)
theorem opsC_post {ops : Array Oper} {todo : List Nat} {n : Nat} {Q' : Exit → Act → World → Prop} (h : OpsC P main R D fn ops todo n Q a w) (hq : ∀ e a w, Q e a w → Q' e a w) : OpsC P main R D fn ops todo n Q' a w :=
  fun b k cs Stop m hb hk hc => h b k cs Stop m hb hk fun e a' w' q => hc e a' w' (hq e a' w' q)
end

/-- Two truths held against each other list nothing. -/
theorem events_neq_bool {P : Program} (w : World) (es : Array Event) (t : TypeId) (x y : Bool) (h : P.underlying t = some .bool) : (binOp .neq t (.bool x) (.bool y)).events P w es = es := by
  have e : binOp .neq t (.bool x) (.bool y) = (do pure (.bool (!(← Op.equalIn (9999 + 1) t (.bool x) (.bool y))))) := rfl
  have e2 : (Op.equalIn (9999 + 1) t (.bool x) (.bool y)).events P w es = es := by
    unfold Op.equalIn
    simp [run_underlying h]
  rw [e]
  simp only [Sem.events_bind, e2]
  simp [run_equalIn_bool w 9999 t x y h]

theorem lin_step {md : Region.Mode} {ops : Array Oper} {fuel t i : Nat} {l : Array Bool} {r : List Nat} (hr : Region.ready md ops l = r) (hi : r[t % r.length]? = some i) :
    Region.linearise.go md ops (fuel + 1) t l [] = i :: Region.linearise.go md ops fuel (t / r.length) (l.setIfInBounds i true) [] := by
  subst hr
  simp only [Region.linearise.go]
  change (match (Region.ready md ops l)[t % (Region.ready md ops l).length]? with | some i => Region.linearise.go md ops fuel (t / (Region.ready md ops l).length) (l.setIfInBounds i true) [i] | none => [].reverse) = _
  rw [hi]
  simp only []
  rw [linearise_go_acc, List.reverse_singleton, List.singleton_append]
theorem lin_end {md : Region.Mode} {ops : Array Oper} {t : Nat} {l : Array Bool} : Region.linearise.go md ops 0 t l [] = [] := rfl

theorem one_of_two (t x y : Nat) : [x, y][t % 2]? = some x ∨ [x, y][t % 2]? = some y := by
  rcases Nat.mod_two_eq_zero_or_one t with h | h <;> rw [h] <;> simp
theorem one_of_one (t x : Nat) : [x][t % 1]? = some x := by simp [Nat.mod_one]

theorem sched8 (t : Nat) : Region.schedule (Try.prog.follows .mixedOrders) ops8 t = [0, 1, 2, 3, 4, 5] ∨ Region.schedule (Try.prog.follows .mixedOrders) ops8 t = [0, 2, 1, 3, 4, 5] ∨ Region.schedule (Try.prog.follows .mixedOrders) ops8 t = [2, 0, 1, 3, 4, 5] := by
  have e : Region.schedule (Try.prog.follows .mixedOrders) ops8 t = Region.linearise.go .any ops8 6 t #[false, false, false, false, false, false] [] := by
    have d : Region.departs ops8 = false := by kernel_rfl
    have z : ops8.size = 6 := by kernel_rfl
    unfold Region.schedule Region.linearise
    rw [d, z]
    simp
    rfl
  rw [e]
  have r0 : Region.ready .any ops8 #[false, false, false, false, false, false] = [0, 2] := by kernel_rfl
  have r1 : Region.ready .any ops8 #[true, false, false, false, false, false] = [1, 2] := by kernel_rfl
  have r2 : Region.ready .any ops8 #[false, false, true, false, false, false] = [0] := by kernel_rfl
  have r3 : Region.ready .any ops8 #[true, true, false, false, false, false] = [2] := by kernel_rfl
  have r4 : Region.ready .any ops8 #[true, false, true, false, false, false] = [1] := by kernel_rfl
  have r5 : Region.ready .any ops8 #[true, true, true, false, false, false] = [3] := by kernel_rfl
  have r6 : Region.ready .any ops8 #[true, true, true, true, false, false] = [4] := by kernel_rfl
  have r7 : Region.ready .any ops8 #[true, true, true, true, true, false] = [5] := by kernel_rfl
  have fin : ∀ t, Region.linearise.go .any ops8 3 t #[true, true, true, false, false, false] [] = [3, 4, 5] := fun t => by
    rw [lin_step r5 (one_of_one t 3)]
    show 3 :: Region.linearise.go .any ops8 2 _ #[true, true, true, true, false, false] [] = _
    rw [lin_step r6 (one_of_one _ 4)]
    show 3 :: 4 :: Region.linearise.go .any ops8 1 _ #[true, true, true, true, true, false] [] = _
    rw [lin_step r7 (one_of_one _ 5), lin_end]
  rcases one_of_two t 0 2 with h | h
  · rw [lin_step r0 h]
    show 0 :: Region.linearise.go .any ops8 5 (t / 2) #[true, false, false, false, false, false] [] = _ ∨ 0 :: Region.linearise.go .any ops8 5 (t / 2) #[true, false, false, false, false, false] [] = _ ∨ 0 :: Region.linearise.go .any ops8 5 (t / 2) #[true, false, false, false, false, false] [] = _
    rcases one_of_two (t / 2) 1 2 with h' | h'
    · refine .inl ?_
      rw [lin_step r1 h']
      show 0 :: 1 :: Region.linearise.go .any ops8 4 _ #[true, true, false, false, false, false] [] = _
      rw [lin_step r3 (one_of_one _ 2)]
      show 0 :: 1 :: 2 :: Region.linearise.go .any ops8 3 _ #[true, true, true, false, false, false] [] = _
      rw [fin]
    · refine .inr (.inl ?_)
      rw [lin_step r1 h']
      show 0 :: 2 :: Region.linearise.go .any ops8 4 _ #[true, false, true, false, false, false] [] = _
      rw [lin_step r4 (one_of_one _ 1)]
      show 0 :: 2 :: 1 :: Region.linearise.go .any ops8 3 _ #[true, true, true, false, false, false] [] = _
      rw [fin]
  · refine .inr (.inr ?_)
    rw [lin_step r0 h]
    show 2 :: Region.linearise.go .any ops8 5 (t / 2) #[false, false, true, false, false, false] [] = _
    rw [lin_step r2 (one_of_one _ 0)]
    show 2 :: 0 :: Region.linearise.go .any ops8 4 _ #[true, false, true, false, false, false] [] = _
    rw [lin_step r4 (one_of_one _ 1)]
    show 2 :: 0 :: 1 :: Region.linearise.go .any ops8 3 _ #[true, true, true, false, false, false] [] = _
    rw [fin]

theorem sched14 (t : Nat) : Region.schedule (Try.prog.follows .mixedOrders) ops14 t = [0, 1, 2, 3, 4] ∨ Region.schedule (Try.prog.follows .mixedOrders) ops14 t = [1, 0, 2, 3, 4] ∨ Region.schedule (Try.prog.follows .mixedOrders) ops14 t = [1, 2, 0, 3, 4] := by
  have e : Region.schedule (Try.prog.follows .mixedOrders) ops14 t = Region.linearise.go .any ops14 5 t #[false, false, false, false, false] [] := by
    have d : Region.departs ops14 = false := by kernel_rfl
    have z : ops14.size = 5 := by kernel_rfl
    unfold Region.schedule Region.linearise
    rw [d, z]
    simp
    rfl
  rw [e]
  have r0 : Region.ready .any ops14 #[false, false, false, false, false] = [0, 1] := by kernel_rfl
  have r1 : Region.ready .any ops14 #[true, false, false, false, false] = [1] := by kernel_rfl
  have r2 : Region.ready .any ops14 #[false, true, false, false, false] = [0, 2] := by kernel_rfl
  have r3 : Region.ready .any ops14 #[true, true, false, false, false] = [2] := by kernel_rfl
  have r4 : Region.ready .any ops14 #[false, true, true, false, false] = [0] := by kernel_rfl
  have r5 : Region.ready .any ops14 #[true, true, true, false, false] = [3] := by kernel_rfl
  have r6 : Region.ready .any ops14 #[true, true, true, true, false] = [4] := by kernel_rfl
  have fin : ∀ t, Region.linearise.go .any ops14 2 t #[true, true, true, false, false] [] = [3, 4] := fun t => by
    rw [lin_step r5 (one_of_one t 3)]
    show 3 :: Region.linearise.go .any ops14 1 _ #[true, true, true, true, false] [] = _
    rw [lin_step r6 (one_of_one _ 4), lin_end]
  rcases one_of_two t 0 1 with h | h
  · refine .inl ?_
    rw [lin_step r0 h]
    show 0 :: Region.linearise.go .any ops14 4 _ #[true, false, false, false, false] [] = _
    rw [lin_step r1 (one_of_one _ 1)]
    show 0 :: 1 :: Region.linearise.go .any ops14 3 _ #[true, true, false, false, false] [] = _
    rw [lin_step r3 (one_of_one _ 2)]
    show 0 :: 1 :: 2 :: Region.linearise.go .any ops14 2 _ #[true, true, true, false, false] [] = _
    rw [fin]
  · rw [lin_step r0 h]
    show 1 :: Region.linearise.go .any ops14 4 (t / 2) #[false, true, false, false, false] [] = _ ∨ 1 :: Region.linearise.go .any ops14 4 (t / 2) #[false, true, false, false, false] [] = _ ∨ 1 :: Region.linearise.go .any ops14 4 (t / 2) #[false, true, false, false, false] [] = _
    rcases one_of_two (t / 2) 0 2 with h' | h'
    · refine .inr (.inl ?_)
      rw [lin_step r2 h']
      show 1 :: 0 :: Region.linearise.go .any ops14 3 _ #[true, true, false, false, false] [] = _
      rw [lin_step r3 (one_of_one _ 2)]
      show 1 :: 0 :: 2 :: Region.linearise.go .any ops14 2 _ #[true, true, true, false, false] [] = _
      rw [fin]
    · refine .inr (.inr ?_)
      rw [lin_step r2 h']
      show 1 :: 2 :: Region.linearise.go .any ops14 3 _ #[false, true, true, false, false] [] = _
      rw [lin_step r4 (one_of_one _ 0)]
      show 1 :: 2 :: 0 :: Region.linearise.go .any ops14 2 _ #[true, true, true, false, false] [] = _
      rw [fin]

theorem sched16 (t : Nat) : Region.schedule (Try.prog.follows .mixedOrders) ops16 t = [0, 1, 2, 3, 4] ∨ Region.schedule (Try.prog.follows .mixedOrders) ops16 t = [1, 0, 2, 3, 4] ∨ Region.schedule (Try.prog.follows .mixedOrders) ops16 t = [1, 2, 0, 3, 4] := by
  have e : Region.schedule (Try.prog.follows .mixedOrders) ops16 t = Region.linearise.go .any ops16 5 t #[false, false, false, false, false] [] := by
    have d : Region.departs ops16 = false := by kernel_rfl
    have z : ops16.size = 5 := by kernel_rfl
    unfold Region.schedule Region.linearise
    rw [d, z]
    simp
    rfl
  rw [e]
  have r0 : Region.ready .any ops16 #[false, false, false, false, false] = [0, 1] := by kernel_rfl
  have r1 : Region.ready .any ops16 #[true, false, false, false, false] = [1] := by kernel_rfl
  have r2 : Region.ready .any ops16 #[false, true, false, false, false] = [0, 2] := by kernel_rfl
  have r3 : Region.ready .any ops16 #[true, true, false, false, false] = [2] := by kernel_rfl
  have r4 : Region.ready .any ops16 #[false, true, true, false, false] = [0] := by kernel_rfl
  have r5 : Region.ready .any ops16 #[true, true, true, false, false] = [3] := by kernel_rfl
  have r6 : Region.ready .any ops16 #[true, true, true, true, false] = [4] := by kernel_rfl
  have fin : ∀ t, Region.linearise.go .any ops16 2 t #[true, true, true, false, false] [] = [3, 4] := fun t => by
    rw [lin_step r5 (one_of_one t 3)]
    show 3 :: Region.linearise.go .any ops16 1 _ #[true, true, true, true, false] [] = _
    rw [lin_step r6 (one_of_one _ 4), lin_end]
  rcases one_of_two t 0 1 with h | h
  · refine .inl ?_
    rw [lin_step r0 h]
    show 0 :: Region.linearise.go .any ops16 4 _ #[true, false, false, false, false] [] = _
    rw [lin_step r1 (one_of_one _ 1)]
    show 0 :: 1 :: Region.linearise.go .any ops16 3 _ #[true, true, false, false, false] [] = _
    rw [lin_step r3 (one_of_one _ 2)]
    show 0 :: 1 :: 2 :: Region.linearise.go .any ops16 2 _ #[true, true, true, false, false] [] = _
    rw [fin]
  · rw [lin_step r0 h]
    show 1 :: Region.linearise.go .any ops16 4 (t / 2) #[false, true, false, false, false] [] = _ ∨ 1 :: Region.linearise.go .any ops16 4 (t / 2) #[false, true, false, false, false] [] = _ ∨ 1 :: Region.linearise.go .any ops16 4 (t / 2) #[false, true, false, false, false] [] = _
    rcases one_of_two (t / 2) 0 2 with h' | h'
    · refine .inr (.inl ?_)
      rw [lin_step r2 h']
      show 1 :: 0 :: Region.linearise.go .any ops16 3 _ #[true, true, false, false, false] [] = _
      rw [lin_step r3 (one_of_one _ 2)]
      show 1 :: 0 :: 2 :: Region.linearise.go .any ops16 2 _ #[true, true, true, false, false] [] = _
      rw [fin]
    · refine .inr (.inr ?_)
      rw [lin_step r2 h']
      show 1 :: 2 :: Region.linearise.go .any ops16 3 _ #[false, true, true, false, false] [] = _
      rw [lin_step r4 (one_of_one _ 0)]
      show 1 :: 2 :: 0 :: Region.linearise.go .any ops16 2 _ #[true, true, true, false, false] [] = _
      rw [fin]

end Go.Proofs.Ytnndfgceehfiiaa
