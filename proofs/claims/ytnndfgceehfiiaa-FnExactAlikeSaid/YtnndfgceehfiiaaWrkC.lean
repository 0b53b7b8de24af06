/-
  The two senders: what each knows of the world. (tools/genwc.py)
-/
import Derived.Test.YtnndfgceehfiiaaWrkB
import Derived.Test.YtnndfgceehfiiaaWgL
namespace Go.Proofs.Ytnndfgceehfiiaa
open Go.Conc Go.ConcN Go.RowKit Go.Conc.Lib Go.ConcR.Gen Go.ConcN.Gen
open Go.ConcR (KK WgAt stA smA rd wr mk Payload DC0 Bk)

/-! ### worker 1 -/
def b1 : Frame := baseD 20
noncomputable def bot1 : Frame := { (default : Frame) with fn := Try.prog.funcs.size, defers := [], mode := .panicking [goexitEntry] }
noncomputable def body1 : Code := Try.f20.body.getD .skip
noncomputable def ops1 : Array Oper := match body1 with | .seq _ (.region _ o _) => o | _ => #[]
def call1 (Wg S A B : Nat) : Deferred := { target := .fn (.func 20) #[.pointer (some ⟨Wg, 0, none⟩), .pointer (some ⟨S, 0, none⟩), .pointer (some ⟨A, 0, none⟩), .pointer (some ⟨B, 0, none⟩)], args := #[] }

/-- The literal's own way out, once Done has left. -/
theorem quitsTail1 (T : Array Value) : QuitsD Try.prog 2 0 (G { b1.at ⟨T, []⟩ [] with mode := .returning } [bot1]) := by
  refine QuitsD.ctl (g' := G bot1 []) rfl (fun w => ?_) ?_
  · simp [G, stepG, unwind, doReturn, results, Frame.at, b1, baseD, bot1, Try.func20, Try.f20, seen, GStep.after, goexitEntry]
  refine QuitsD.ctl (g' := { G bot1 [] with status := .finished }) rfl (fun w => ?_) ⟨rfl, rfl⟩
  simp [G, stepG, unwind, bot1, goexitEntry, Frame.catches]
  rfl

theorem born_step1 (Wg S A B : Nat) (w : World) : stepG Try.prog false (born Try.prog (call1 Wg S A B)) w =
    .go (G (b1.at ⟨#[.pointer (some ⟨Wg, 0, none⟩), .pointer (some ⟨S, 0, none⟩), .pointer (some ⟨A, 0, none⟩), .pointer (some ⟨B, 0, none⟩), undef, undef, undef, undef, undef, undef, undef, undef, undef], []⟩ [.code body1]) [bot1]) w #[] := by
  simp [born, call1, stepG, unwind, callDeferred, invoke, callFunc, Try.func20, Try.f20, seen, GStep.after, G, Frame.enter, Frame.at, b1, baseD, bot1, body1]

theorem ops1_eq : body1 = .seq (.region 0 #[{ dst := none, op := .defer { callee := .value (.func 21), args := #[.tmp 0], argTypes := #[48] }, type := 0, pos := (match body1 with | .seq (.region _ o _) _ => (o[0]?.map (·.pos)).getD "" | _ => ""), after := #[], guard := none }] false) (.region 1 ops1 true) := by rfl

/-! ### worker 2 -/
def b2 : Frame := baseD 23
noncomputable def bot2 : Frame := { (default : Frame) with fn := Try.prog.funcs.size, defers := [], mode := .panicking [goexitEntry] }
noncomputable def body2 : Code := Try.f23.body.getD .skip
noncomputable def ops2 : Array Oper := match body2 with | .seq _ (.region _ o _) => o | _ => #[]
def call2 (Wg S A B : Nat) : Deferred := { target := .fn (.func 23) #[.pointer (some ⟨Wg, 0, none⟩), .pointer (some ⟨S, 0, none⟩), .pointer (some ⟨A, 0, none⟩), .pointer (some ⟨B, 0, none⟩)], args := #[] }

/-- The literal's own way out, once Done has left. -/
theorem quitsTail2 (T : Array Value) : QuitsD Try.prog 2 0 (G { b2.at ⟨T, []⟩ [] with mode := .returning } [bot2]) := by
  refine QuitsD.ctl (g' := G bot2 []) rfl (fun w => ?_) ?_
  · simp [G, stepG, unwind, doReturn, results, Frame.at, b2, baseD, bot2, Try.func23, Try.f23, seen, GStep.after, goexitEntry]
  refine QuitsD.ctl (g' := { G bot2 [] with status := .finished }) rfl (fun w => ?_) ⟨rfl, rfl⟩
  simp [G, stepG, unwind, bot2, goexitEntry, Frame.catches]
  rfl

theorem born_step2 (Wg S A B : Nat) (w : World) : stepG Try.prog false (born Try.prog (call2 Wg S A B)) w =
    .go (G (b2.at ⟨#[.pointer (some ⟨Wg, 0, none⟩), .pointer (some ⟨S, 0, none⟩), .pointer (some ⟨A, 0, none⟩), .pointer (some ⟨B, 0, none⟩), undef, undef, undef, undef, undef, undef, undef, undef, undef], []⟩ [.code body2]) [bot2]) w #[] := by
  simp [born, call2, stepG, unwind, callDeferred, invoke, callFunc, Try.func23, Try.f23, seen, GStep.after, G, Frame.enter, Frame.at, b2, baseD, bot2, body2]

theorem ops2_eq : body2 = .seq (.region 0 #[{ dst := none, op := .defer { callee := .value (.func 21), args := #[.tmp 0], argTypes := #[48] }, type := 0, pos := (match body2 with | .seq (.region _ o _) _ => (o[0]?.map (·.pos)).getD "" | _ => ""), after := #[], guard := none }] false) (.region 1 ops2 true) := by rfl

end Go.Proofs.Ytnndfgceehfiiaa
