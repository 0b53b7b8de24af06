/-
  impl.bothSides, from its entry to the Wait: the starter of two senders. (tools/genbs.py)
-/
import Derived.Test.YtnndfgceehfiiaaAddT
import Derived.Test.YtnndfgceehfiiaaWtA
import Derived.Test.YtnndfgceehfiiaaWrkE
import Derived.Test.YtnndfgceehfiiaaCoG
import Derived.Conc.SmallLaws
import Derived.Conc.WgWords
namespace Go.Proofs.Ytnndfgceehfiiaa
open Go.Conc Go.ConcN Go.RowKit Go.Conc.Lib Go.ConcR.Gen Go.ConcN.Gen
open Go.ConcR (KK WgAt stA smA rd wr mk Payload DC0 Bk)

noncomputable def bothB : Code := Try.f18.body.getD .skip
noncomputable def bothC4 : Code := match bothB with | .seq _ (.seq _ (.seq _ (.seq _ c))) => c | _ => .skip
noncomputable def bothC5 : Code := match bothC4 with | .seq _ c => c | _ => .skip
noncomputable def bothC6 : Code := match bothC5 with | .seq _ c => c | _ => .skip
noncomputable def bothC7 : Code := match bothC6 with | .seq _ c => c | _ => .skip
noncomputable def bs3 : Array Oper := match bothB with | .seq _ (.seq _ (.seq _ (.seq (.region _ o _) _))) => o | _ => #[]
noncomputable def bs4 : Array Oper := match bothC4 with | .seq (.region _ o _) _ => o | _ => #[]
noncomputable def bs5 : Array Oper := match bothC5 with | .seq (.region _ o _) _ => o | _ => #[]
noncomputable def bs6 : Array Oper := match bothC6 with | .seq (.region _ o _) _ => o | _ => #[]
theorem bothC4_eq : bothC4 = .seq (.region 4 bs4 false) bothC5 := by rfl
theorem bothC5_eq : bothC5 = .seq (.region 5 bs5 false) bothC6 := by rfl
theorem bothC6_eq : bothC6 = .seq (.region 6 bs6 false) bothC7 := by rfl

theorem side_info : ∃ i, Try.prog.info? 35 = some i ∧ i.bytes = 3 := by
  have h : (Try.prog.info? 35).map (·.bytes) = some 3 := by kernel_rfl
  obtain ⟨i, hi, hb⟩ := Option.map_eq_some_iff.1 h
  exact ⟨i, hi, hb⟩
theorem chanRun (w : World) : (Instr.makeChan 38 (.int .i64 2)).run Try.prog w = .ok (.chan (some w.heap.size)) (w.alloc (.chan 2 #[] false 0 0 false)) := by
  obtain ⟨i, hi, hb⟩ := side_info
  exact run_makeChan (w := w) (P := Try.prog) Try.underlying38 hi .i64 2 (by decide) (by rw [hb]; decide)
theorem chanEvs (w : World) (es : Array Event) : (Instr.makeChan 38 (.int .i64 2)).events Try.prog w es = es := by
  obtain ⟨i, hi, hb⟩ := side_info
  exact events_makeChan (w := w) (P := Try.prog) Try.underlying38 hi .i64 2 (by decide) (by rw [hb]; decide) es

section
variable (K L : List ByteArray) (ga gb : Nat) (f s g u : Int)
/-- The seven blocks that it makes. -/
def bsW (w : World) : World := ((((((w.alloc (.cells #[.slice (some ⟨ga, 0, none⟩) K.length K.length, .int .i64 f, .int .i64 s] 30)).alloc (.cells #[.slice (some ⟨gb, 0, none⟩) L.length L.length, .int .i64 g, .int .i64 u] 30)).alloc (.cells #[.bool false, .bool false, .bool false] 35)).alloc (.cells #[.bool false, .bool false, .bool false] 35)).alloc (.chan 2 #[] false 0 0 false)).alloc (.cells #[.chan (some (w.heap.size + 4))] 38)).alloc (.cells #[.int .u64 0, .int .u32 0] 48)
structure BsF (w : World) (st : Int) (W : World) : Prop where
  size : W.heap.size = w.heap.size + 7
  b0 : W.heap[w.heap.size]? = some (.cells #[.slice (some ⟨ga, 0, none⟩) K.length K.length, .int .i64 f, .int .i64 s] 30)
  b1 : W.heap[w.heap.size + 1]? = some (.cells #[.slice (some ⟨gb, 0, none⟩) L.length L.length, .int .i64 g, .int .i64 u] 30)
  b2 : W.heap[w.heap.size + 2]? = some (.cells #[.bool false, .bool false, .bool false] 35)
  b3 : W.heap[w.heap.size + 3]? = some (.cells #[.bool false, .bool false, .bool false] 35)
  b5 : W.heap[w.heap.size + 5]? = some (.cells #[.chan (some (w.heap.size + 4))] 38)
  ch : ChAt (w.heap.size + 4) W #[]
  wg : WgAt 48 (w.heap.size + 6) W st 0
  bel : Below w.heap.size w W
/-- Behind the Wait. -/
noncomputable def gWait (c : Frame) (cs : List Frame) (w : World) (x9 x10 x11 x12 : Value) : Goroutine := (G ((base 18).at ⟨#[.agg #[.slice (some ⟨ga, 0, none⟩) K.length K.length, .int .i64 f, .int .i64 s], .agg #[.slice (some ⟨gb, 0, none⟩) L.length L.length, .int .i64 g, .int .i64 u], .pointer (some ⟨w.heap.size, 0, none⟩), .pointer (some ⟨w.heap.size + 1, 0, none⟩), .pointer (some ⟨w.heap.size + 2, 0, none⟩), .pointer (some ⟨w.heap.size + 3, 0, none⟩), .pointer (some ⟨w.heap.size + 5, 0, none⟩), .pointer (some ⟨w.heap.size + 6, 0, none⟩), .chan (some (w.heap.size + 4)), x9, x10, x11, x12, undef, undef, undef, undef, undef], []⟩ [.inRegion bs6 [], .code bothC7]) (c :: cs))
/-- What was sent by each. -/
def sentV (i : Nat) : Value := if i = 0 then .agg #[.bool false, .bool (endB f), .bool (begB K L)] else .agg #[.bool true, .bool (endB g), .bool (begB L K)]
end

section
variable {K L : List ByteArray} {ga gb : Nat} {f s g u : Int} {w : World}
theorem heap_al (w : World) (o : Obj) : (w.alloc o).heap = w.heap.push o := rfl
theorem push7 {α : Type} (h : Array α) (a0 a1 a2 a3 a4 a5 a6 : α) : (((((((h.push a0).push a1).push a2).push a3).push a4).push a5).push a6)[h.size]? = some a0 ∧ (((((((h.push a0).push a1).push a2).push a3).push a4).push a5).push a6)[h.size + 1]? = some a1 ∧ (((((((h.push a0).push a1).push a2).push a3).push a4).push a5).push a6)[h.size + 2]? = some a2 ∧ (((((((h.push a0).push a1).push a2).push a3).push a4).push a5).push a6)[h.size + 3]? = some a3 ∧ (((((((h.push a0).push a1).push a2).push a3).push a4).push a5).push a6)[h.size + 4]? = some a4 ∧ (((((((h.push a0).push a1).push a2).push a3).push a4).push a5).push a6)[h.size + 5]? = some a5 ∧ (((((((h.push a0).push a1).push a2).push a3).push a4).push a5).push a6)[h.size + 6]? = some a6 := by
  refine ⟨?_, ?_, ?_, ?_, ?_, ?_, ?_⟩
  all_goals
    simp only [Array.getElem?_push, Array.size_push]
    repeat (first | rw [if_pos trivial] | rw [if_pos (by omega)] | rw [if_neg (by omega)])
theorem bsF_new : BsF K L ga gb f s g u w 0 (bsW K L ga gb f s g u w) := by
  obtain ⟨h0, h1, h2, h3, h4, h5, h6⟩ := push7 w.heap (.cells #[.slice (some ⟨ga, 0, none⟩) K.length K.length, .int .i64 f, .int .i64 s] 30) (.cells #[.slice (some ⟨gb, 0, none⟩) L.length L.length, .int .i64 g, .int .i64 u] 30) (.cells #[.bool false, .bool false, .bool false] 35) (.cells #[.bool false, .bool false, .bool false] 35) (.chan 2 #[] false 0 0 false) (.cells #[.chan (some (w.heap.size + 4))] 38) (.cells #[.int .u64 0, .int .u32 0] 48)
  exact ⟨by simp [bsW], h0, h1, h2, h3, h5, h4, h6, by unfold bsW; exact balloc (balloc (balloc (balloc (balloc (balloc (balloc (Below.refl _ _) _) _) _) _) _) _) _⟩
theorem BsF.add {W : World} (h : BsF K L ga gb f s g u w 0 W) : BsF K L ga gb f s g u w 8589934592 (W.setCell (stA (w.heap.size + 6)) (.int .u64 8589934592)) := by
  have hA := aside_setCell W (stA (w.heap.size + 6)) (.int .u64 8589934592)
  have key : ∀ b, b ≠ w.heap.size + 6 → (W.setCell (stA (w.heap.size + 6)) (.int .u64 8589934592)).heap[b]? = W.heap[b]? := fun b hb => hA.block b hb
  exact ⟨hA.size.trans h.size, (key _ (by omega)).trans h.b0, (key _ (by omega)).trans h.b1, (key _ (by omega)).trans h.b2, (key _ (by omega)).trans h.b3, (key _ (by omega)).trans h.b5, (key _ (by omega)).trans h.ch, h.wg.setSt _,
    ⟨hA.os.trans h.bel.os, hA.tape.trans h.bel.tape, hA.output.trans h.bel.output, by rw [hA.size]; exact h.bel.size, fun b hb => (key b (by omega)).trans (h.bel.block b hb)⟩⟩
theorem geo2 (n : Nat) : Geo2 (n + 6) (n + 4) (n + 2) (n + 7) := ⟨by omega, by omega, by omega⟩
theorem low1 (n x : Nat) (h : x < n + 2 ∨ x = n + 3 ∨ x = n + 5) : Low1 (n + 6) (n + 4) (n + 2) (n + 7) x := ⟨by omega, by omega, by omega, by omega⟩
theorem rowN_of {W : World} {gg : Nat} {X : List ByteArray} (hb : Below w.heap.size w W) (h : RowT w gg X) : RowN gg X W := fun i hi => (hb.cell (p := ⟨gg, i, none⟩) h.1).trans (h.2 i hi).1
theorem BsF.wk1 {W : World} {st : Int} (h : BsF K L ga gb f s g u w st W) (hA : RowT w ga K) (hB : RowT w gb L) : WkF 48 (w.heap.size + 6) (w.heap.size + 4) (w.heap.size + 2) (w.heap.size + 7) 0 (w.heap.size + 5) w.heap.size (w.heap.size + 1) ga gb K L f s (.bool false) W :=
  ⟨by rw [h.size]; exact Nat.le_refl _, by simp [World.cell?, h.b5], by simp [World.cell?, h.b0], by simp [World.cell?, h.b0], by simp [World.cell?, h.b0], by simp [World.cell?, h.b1], rowN_of h.bel hA, rowN_of h.bel hB, ⟨_, _, h.wg⟩, by simp [Has, World.cell?, h.b2]⟩
theorem BsF.wk2 {W : World} {st : Int} (h : BsF K L ga gb f s g u w st W) (hA : RowT w ga K) (hB : RowT w gb L) : WkF 48 (w.heap.size + 6) (w.heap.size + 4) (w.heap.size + 2) (w.heap.size + 7) 1 (w.heap.size + 5) (w.heap.size + 1) w.heap.size gb ga L K g u (.bool false) W :=
  ⟨by rw [h.size]; exact Nat.le_refl _, by simp [World.cell?, h.b5], by simp [World.cell?, h.b1], by simp [World.cell?, h.b1], by simp [World.cell?, h.b1], by simp [World.cell?, h.b0], rowN_of h.bel hB, rowN_of h.bel hA, ⟨_, _, h.wg⟩, by simp [Has, World.cell?, h.b2]⟩
end

variable [Payload]
section
variable {K L : List ByteArray} {ga gb : Nat} {f s g u : Int} {w : World} {c : Frame} {cs : List Frame} {Low M : Nat} {W : World}

/-- Behind the join: it comes to stand behind the Wait, and the world is the join's. -/
def KW (K L : List ByteArray) (ga gb : Nat) (f s g u : Int) (w : World) (c : Frame) (cs : List Frame) (W : World) (g' : Goroutine) (w' : World) : Prop :=
  ∃ n, Goes Try.prog true AtRel (DE fun _ => False) (fun g'' X => (∃ x9 x10 x11 x12, g'' = gWait K L ga gb f s g u c cs w x9 x10 x11 x12) ∧ RS 48 (w.heap.size + 6) (w.heap.size + 4) (w.heap.size + 2) (w.heap.size + 7) W w' ∧ AtRel w' X) n g' w'
/-- At the head of Wait's loop. -/
noncomputable def AnchB (K L : List ByteArray) (ga gb : Nat) (f s g u : Int) (w : World) (c : Frame) (cs : List Frame) (W : World) : Goroutine → World → Prop := (AnchWN wgl (RS 48 (w.heap.size + 6) (w.heap.size + 4) (w.heap.size + 2) (w.heap.size + 7) W) (w.heap.size + 6) ((base 18).at ⟨#[.agg #[.slice (some ⟨ga, 0, none⟩) K.length K.length, .int .i64 f, .int .i64 s], .agg #[.slice (some ⟨gb, 0, none⟩) L.length L.length, .int .i64 g, .int .i64 u], .pointer (some ⟨w.heap.size, 0, none⟩), .pointer (some ⟨w.heap.size + 1, 0, none⟩), .pointer (some ⟨w.heap.size + 2, 0, none⟩), .pointer (some ⟨w.heap.size + 3, 0, none⟩), .pointer (some ⟨w.heap.size + 5, 0, none⟩), .pointer (some ⟨w.heap.size + 6, 0, none⟩), .chan (some (w.heap.size + 4)), .tuple #[], .func (.func 20) #[] #[.pointer (some ⟨w.heap.size + 6, 0, none⟩), .pointer (some ⟨w.heap.size + 5, 0, none⟩), .pointer (some ⟨w.heap.size, 0, none⟩), .pointer (some ⟨w.heap.size + 1, 0, none⟩)], .func (.func 23) #[] #[.pointer (some ⟨w.heap.size + 6, 0, none⟩), .pointer (some ⟨w.heap.size + 5, 0, none⟩), .pointer (some ⟨w.heap.size + 1, 0, none⟩), .pointer (some ⟨w.heap.size, 0, none⟩)], undef, undef, undef, undef, undef, undef], []⟩ [.inRegion bs6 [0], .code bothC7]) (c :: cs))
theorem rs_keep : ∀ X Y, RS 48 (w.heap.size + 6) (w.heap.size + 4) (w.heap.size + 2) (w.heap.size + 7) X Y → RS 48 (w.heap.size + 6) (w.heap.size + 4) (w.heap.size + 2) (w.heap.size + 7) W X → RS 48 (w.heap.size + 6) (w.heap.size + 4) (w.heap.size + 2) (w.heap.size + 7) W Y := fun _ _ h h' => h'.trans h
theorem anchB_run (g' : Goroutine) (X : World) (h : AnchB K L ga gb f s g u w c cs W g' X) : g'.status = .running := by
  obtain ⟨T, rfl, _⟩ := h
  rfl
theorem anchB_round (g' : Goroutine) (X : World) (h : AnchB K L ga gb f s g u w c cs W g' X) : ∃ m, Goes Try.prog true (RS 48 (w.heap.size + 6) (w.heap.size + 4) (w.heap.size + 2) (w.heap.size + 7)) (DP (w.heap.size + 6) Own0 (Rd0 (w.heap.size + 6)) 2 Low) (SW1 Try.prog 48 (w.heap.size + 6) (w.heap.size + 4) (w.heap.size + 2) (w.heap.size + 7) Low (KW K L ga gb f s g u w c cs W) (AnchB K L ga gb f s g u w c cs W)) m g' X :=
  waitRound2 (L := wgl) (E := fun _ => False) (mT := 0) (StopK := fun w' g'' X => (∃ x9 x10 x11 x12, g'' = gWait K L ga gb f s g u c cs w x9 x10 x11 x12) ∧ RS 48 (w.heap.size + 6) (w.heap.size + 4) (w.heap.size + 2) (w.heap.size + 7) W w' ∧ AtRel w' X) wgLib (geo2 w.heap.size) rs_keep
    (fun _ _ h => Goes.stop fun _ h₁ => ⟨⟨_, _, _, _, rfl⟩, h.1, (at_any h h₁).2⟩) g' X h

set_option maxRecDepth 100000 in
set_option maxHeartbeats 4000000 in
/-- From behind the second go statement to the Wait. -/
theorem bothWait (X : World) (hF : RS 48 (w.heap.size + 6) (w.heap.size + 4) (w.heap.size + 2) (w.heap.size + 7) W X ∧ WgLive 48 (w.heap.size + 6) X) :
    Goes Try.prog true (RS 48 (w.heap.size + 6) (w.heap.size + 4) (w.heap.size + 2) (w.heap.size + 7)) (DP (w.heap.size + 6) Own0 (Rd0 (w.heap.size + 6)) 2 Low) (SKd Try.prog 48 (w.heap.size + 6) (w.heap.size + 4) (w.heap.size + 2) (w.heap.size + 7) Low (AnchB K L ga gb f s g u w c cs W)) 8 (G ((base 18).at ⟨#[.agg #[.slice (some ⟨ga, 0, none⟩) K.length K.length, .int .i64 f, .int .i64 s], .agg #[.slice (some ⟨gb, 0, none⟩) L.length L.length, .int .i64 g, .int .i64 u], .pointer (some ⟨w.heap.size, 0, none⟩), .pointer (some ⟨w.heap.size + 1, 0, none⟩), .pointer (some ⟨w.heap.size + 2, 0, none⟩), .pointer (some ⟨w.heap.size + 3, 0, none⟩), .pointer (some ⟨w.heap.size + 5, 0, none⟩), .pointer (some ⟨w.heap.size + 6, 0, none⟩), .chan (some (w.heap.size + 4)), .tuple #[], .func (.func 20) #[] #[.pointer (some ⟨w.heap.size + 6, 0, none⟩), .pointer (some ⟨w.heap.size + 5, 0, none⟩), .pointer (some ⟨w.heap.size, 0, none⟩), .pointer (some ⟨w.heap.size + 1, 0, none⟩)], .func (.func 23) #[] #[.pointer (some ⟨w.heap.size + 6, 0, none⟩), .pointer (some ⟨w.heap.size + 5, 0, none⟩), .pointer (some ⟨w.heap.size + 1, 0, none⟩), .pointer (some ⟨w.heap.size, 0, none⟩)], undef, undef, undef, undef, undef, undef], []⟩ [.inRegion bs5 [], .code bothC6]) (c :: cs)) X := by
  rw [bothC6_eq]
  u_c stepG_region_end (fw_rely rs_keep) hF
  u_c stepG_seq (fw_rely rs_keep) hF
  u_reg (fw_rely rs_keep) hF
  refine Goes.step rfl (fun _ h₁ => ?_)
  replace hF := fw_rely rs_keep hF h₁
  clear h₁
  refine goes_call (o := { dst := some 12, op := .call { callee := .value (.func 24), args := #[.tmp 7], argTypes := _ }, type := _, pos := _, after := _, guard := none }) rfl rfl (by decide) rfl Try.func24 (nm_wait wgl) rfl ⟨by u_nil, ?_⟩
  walk_nrmf Try.f24
  have hA := @waitStart2 _ wgl (w.heap.size + 6) (w.heap.size + 4) (w.heap.size + 2) (w.heap.size + 7) Low (RS 48 (w.heap.size + 6) (w.heap.size + 4) (w.heap.size + 2) (w.heap.size + 7) W)
  simp only [body_wait, waitFn, Option.getD_some] at hA
  exact (hA wgLib rs_keep _ hF).mono (by omega)
end

end Go.Proofs.Ytnndfgceehfiiaa
