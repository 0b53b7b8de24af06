/-
  FnExactAlikeSaid: at every input the law holds, on whatever tape: the program answers as the law asks, and the arguments read behind the call as they read before. No condition.
-/
import Derived.Test.YtnndfgceehfiiaaRows
import Derived.Test.YtnndfgceehfiiaaLwJ
import Derived.Test.YtnndfgceehfiiaaFrameS
import Derived.Conc.LeavingOf
namespace Go.Proofs.Ytnndfgceehfiiaa
open Go.ChangeShapes Go.WideShapes Go.ChangeAt Go.RowKit Go.Joins Go.Conc
open Go.ChangeMaps (open_string shut_string)

/-- A list that came in lies in a block that is there. -/
theorem cell_lt {W : World} {r : Reach} {b0 : Nat} {t : TypeId} {sb off len cap : Nat} (h : Cell.okWide Try.prog W r b0 t (.slice (some ⟨sb, off, none⟩) len cap)) : sb < W.heap.size := by
  have key : ∃ e n, W.has Try.prog r b0 ⟨sb, off, none⟩ e n := by
    unfold Cell.okWide at h
    cases hu : Try.prog.underlying t with
    | none => simp [Cell.ok, hu] at h
    | some d => cases d <;> simp [Cell.ok, hu] at h <;> exact ⟨_, _, h.2.2⟩
  obtain ⟨e, n, _, _, row, cells, hs, _⟩ := key
  rcases Nat.lt_or_ge sb W.heap.size with hl | hl
  · exact hl
  · have hn : W.heap[sb]? = none := Array.getElem?_eq_none hl
    simp [World.shape?, hn] at hs
theorem show_lt {W : World} {r : Reach} {b0 : Nat} {a : Option Addr} {len cap : Nat} {x y : Value} (h : Value.okWide Try.prog W r b0 27 (.agg #[.slice a len cap, x, y])) : ∀ sb off, a = some ⟨sb, off, none⟩ → sb < W.heap.size := by
  rintro sb off rfl
  unfold Value.okWide at h
  rw [Try.underlying27] at h
  obtain ⟨cs, hcs, _, ts, _, _, hall⟩ := h
  cases hcs
  obtain ⟨u, _, hu⟩ := hall 0 _ rfl
  exact cell_lt hu

set_option maxRecDepth 100000 in
theorem enter_law (v0 v1 : Value) : Frame.enter Try.prog 4 #[v0, v1] .normal = (base 4).at ⟨#[v0, v1, undef, undef, undef, undef, undef, undef, undef, undef, undef, undef, undef, undef, undef, undef, undef, undef, undef, undef, undef, undef, undef, undef, undef, undef, undef, undef, undef, undef, undef, undef, undef, undef, undef, undef, undef, undef, undef, undef, undef, undef, undef, undef, undef], []⟩ [.code lawB] := by
  simp [Frame.enter, Try.func4, Try.ntmps4, lawB, Frame.at, base]
  rfl

set_option maxRecDepth 100000 in
theorem fnExactAlike_lifted (os : Os) (started : os.Started) (H : Type) (enc : TypeId × Value → H) :
    ReturnsInLeavingWide {} Try.checked os 4 .any (Rows.fnExactAlikeSpec.pre6 enc Try.prog Try.f4 Rows.fnExactAlikeRow.domain false) (Rows.fnExactAlikeSpec.post enc Try.prog Try.f4 false true false false) := by
  refine returnsInLeavingWide_of_change_sized (C := Try.checked) frame_own started Try.func4
    (ChangeSpec.witness6 (enc := enc) (C := Try.checked) false ⟨#[], #[.agg #[.slice none 0 0, .int .i64 0, .int .i64 0], .agg #[.slice none 0 0, .int .i64 0, .int .i64 0]], []⟩ 8 (by kernel_rfl) (by kernel_rfl) (by kernel_rfl) (by kernel_rfl)) ?_
  intro W base args ds gs before hval0 hW _ _ _
  have hval : ∀ (j : Nat) t v, Try.f4.params[j]? = some t → args[j]? = some v → Value.okWide Try.prog W .any base t v := hval0
  have hW' := hW
  obtain ⟨p, q, hA0, hV, rfl, hfz, hnd⟩ := hW
  have hA : DataW.TrodAll enc Try.prog W 0 (fun _ => true) true Try.f4.params.toList args.toList ds p := hA0
  rw [Try.params4] at hA hval
  obtain ⟨v0, vs0, d0, ds0, p0, q0, hargs, rfl, rfl, h0, r0⟩ := trodAll_cons hA
  obtain ⟨v1, vs1, d1, ds1, p1, q1, rfl, rfl, rfl, h1, r1⟩ := trodAll_cons r0
  obtain ⟨rfl, rfl, rfl⟩ := trodAll_nil r1
  obtain rfl : args = #[v0, v1] := by cases args; simp_all
  obtain ⟨rfl, rfl⟩ := trodVars_none hV
  have k0 := h0
  have lt0 : ∀ x ∈ p0, x.block < W.heap.size := by obtain ⟨m, hm⟩ := k0; exact DataW.trod_lt m _ _ _ hm
  have k1 := h1
  have lt1 : ∀ x ∈ p1, x.block < W.heap.size := by obtain ⟨m, hm⟩ := k1; exact DataW.trod_lt m _ _ _ hm
  have ok0 := hval 0 27 v0 rfl rfl
  have ok1 := hval 1 27 v1 rfl rfl
  obtain ⟨a0, cap0, L0, f0, n0, rfl, hcd0, hml0, _⟩ := show_in ok0 h0
  obtain ⟨a1, cap1, L1, f1, n1, rfl, hcd1, hml1, _⟩ := show_in ok1 h1
  clear hA0 hval0
  obtain ⟨M, last, o, w', t', e1, e2, e3, e4⟩ := lawGood W L0 L1 a0 a1 cap0 cap1 f0 n0 f1 n1 hcd0 hcd1 hml0 hml1 (show_lt ok0) (show_lt ok1)
  refine ⟨M, last, o, w', t', ?_, ?_, e3, e4.mono fun v hp => ?_⟩
  · rw [show Try.checked.prog = Try.prog from rfl, enter_law]; exact e1
  · rw [show Try.checked.prog = Try.prog from rfl, enter_law]; exact e2
  obtain ⟨rfl, bel⟩ := hp
  exact ⟨_, _, _, [], _, [], hW', trodAll_mk1 (shut_bool Try.underlying4 _), (trodAll_cons_mk (Below.trod frame_laidOut (by kernel_rfl) (of_decide_eq_true (by kernel_rfl)) k0 bel lt0) (trodAll_cons_mk (Below.trod frame_laidOut (by kernel_rfl) (of_decide_eq_true (by kernel_rfl)) k1 bel lt1) trodAll_mk0)), rfl, bel.frame _, fun h => by cases h⟩

theorem fnExactAlike_holds : Rows.FnExactAlikeSaid :=
  OpenClaim.holds_of_wide_leaving 4 Try.f4 rfl rfl rfl rfl rfl rfl rfl ⟨rfl, rfl, rfl, rfl, rfl⟩ rfl rfl rfl rfl rfl (by kernel_rfl) Try.func4 (by kernel_rfl)
    (of_decide_eq_true (by kernel_rfl)) (by unfold Func.isWrapper; first | (rw [if_pos (by decide +kernel)]; kernel_rfl) | (rw [if_neg (by decide +kernel)]; exact ⟨rfl, rfl⟩))
    (fun os started H enc _ => fnExactAlike_lifted os started H enc)

end Go.Proofs.Ytnndfgceehfiiaa
