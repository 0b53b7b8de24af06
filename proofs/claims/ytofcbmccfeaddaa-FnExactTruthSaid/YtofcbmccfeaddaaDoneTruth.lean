/-
  FnExactTruthSaid: at every input the exact law of this function holds: the program answers as the model does, and the arguments read behind the call as they read before. No condition.
-/
import Derived.Test.YtofcbmccfeaddaaRows
import Derived.Test.YtofcbmccfeaddaaLawTruth
import Derived.ProofKit
import Derived.OpenShut
import Derived.ShutString
import Derived.ChangeOld
import Derived.Below
import Derived.Lib.SmallJoins
namespace Go.Proofs.Ytofcbmccfeaddaa
open Go.ChangeShapes Go.WideShapes Go.ChangeAt Go.RowKit Go.Joins
open Go.ChangeMaps (open_string shut_string)

theorem fnExactTruth_own : ownKnob Try.prog.godebug = none := by kernel_rfl
theorem fnExactTruth_cells : Try.prog.cellsOf 35 = 3 := by kernel_rfl

set_option maxRecDepth 100000 in
theorem fnExactTruth_lifted (os : Os) (started : os.Started) (H : Type) (enc : TypeId × Value → H) :
    ReturnsInHanded {} Try.checked os 10 .any (Rows.fnExactTruthSpec.pre6 enc Try.prog Try.f10 Rows.fnExactTruthRow.domain false) (Rows.fnExactTruthSpec.post enc Try.prog Try.f10 false true false false) := by
  refine returnsInHanded_of_change (C := Try.checked) fnExactTruth_own started (by kernel_rfl) Try.func10
    (ChangeSpec.witness6 (enc := enc) (C := Try.checked) false ⟨#[], #[.agg #[.int .i64 0, .int .i64 0, .string ⟨#[]⟩]], []⟩ 8 (by kernel_rfl) (by kernel_rfl) (by kernel_rfl) (by kernel_rfl)) ?_
  intro W base args ds gs before hval0 hW hcnd _
  have hval : ∀ (j : Nat) t v, Try.f10.params[j]? = some t → args[j]? = some v → Value.okWide Try.prog W .any base t v := hval0
  have hW' := hW
  obtain ⟨p, q, hA0, hV, rfl, hfz, hnd⟩ := hW
  have hA : DataW.TrodAll enc Try.prog W 0 (fun _ => true) true Try.f10.params.toList args.toList ds p := hA0
  rw [Try.params10] at hA hval
  obtain ⟨v0, d0, rfl, rfl, h0⟩ := trodAll_one hA
  obtain ⟨rfl, rfl⟩ := trodVars_none hV
  obtain ⟨c00, c01, c02, y00, y01, y02, m0, rfl, rfl, rfl, hy00, hy01, hy02⟩ := open_agg3 Try.underlying35 (by kernel_rfl) fnExactTruth_cells (hval 0 35 v0 rfl rfl) h0
  obtain ⟨k0, e00, rfl, wk0⟩ := DataW.trod_int Try.underlying2 hy00
  obtain ⟨n0, e01, rfl, wn0⟩ := DataW.trod_int Try.underlying2 hy01
  obtain ⟨s0, e02, rfl, ws0⟩ := DataW.trod_string Try.underlying9 hy02
  simp at e00 e01 e02
  subst e00 e01 e02
  clear hA0 hval0
  simp only [List.append_nil] at hW'
  have reads0 : ∀ (W' : World) (sp : Nat → Bool), DataW.Trod enc Try.prog W' 0 sp true 35 (.agg #[.int .i64 k0, .int .i64 n0, .string s0]) (.agg [.lit (.int .i64 k0), .lit (.int .i64 n0), .lit (.string s0.data.toList)]) [] := fun W' sp =>
    shut_agg3 (y0 := (.lit (.int .i64 k0), [])) (y1 := (.lit (.int .i64 n0), [])) (y2 := (.lit (.string s0.data.toList), [])) Try.underlying35 (by kernel_rfl) fnExactTruth_cells ⟨1, by simp [DataW.trod, Try.underlying2, wk0]⟩ ⟨1, by simp [DataW.trod, Try.underlying2, wn0]⟩ ⟨1, by simp [DataW.trod, Try.underlying9, ws0]⟩
  refine (law10 k0 n0 s0 W ws0).mono fun e W' ⟨he, bel⟩ => ?_
  subst he
  exact ⟨_, rfl, _, _, _, [], [], [], hW', trodAll_mk1 (shut_bool Try.underlying4 _), trodAll_mk1 (reads0 _ _), rfl, bel.frame _, fun h => by cases h⟩

theorem fnExactTruth_holds : Rows.FnExactTruthSaid :=
  OpenClaim.holds_of_wide 10 Try.f10 rfl rfl rfl rfl rfl rfl rfl ⟨rfl, rfl, rfl, rfl, rfl⟩ rfl rfl rfl rfl rfl (by kernel_rfl) Try.func10 (by kernel_rfl)
    (of_decide_eq_true (by kernel_rfl)) (by unfold Func.isWrapper; first | (rw [if_pos (by decide +kernel)]; kernel_rfl) | (rw [if_neg (by decide +kernel)]; exact ⟨rfl, rfl⟩))
    (fun os started H enc _ => fnExactTruth_lifted os started H enc)
end Go.Proofs.Ytofcbmccfeaddaa
