/-
  impl.bothSides behind the Wait. (tools/genbd.py)
-/
import Derived.Test.YtnndfgceehfiiaaBsC
import Derived.Test.YtnndfgceehfiiaaTwoF
import Derived.Test.YtnndfgceehfiiaaLwA
namespace Go.Proofs.Ytnndfgceehfiiaa
open Go.Conc Go.ConcN Go.RowKit Go.Conc.Lib
open Go.ConcR (Payload)

/-- What it may list: plain accesses of blocks that are not bad, and what the close lists. -/
def EvC (Bad : Nat → Prop) (Ch : Nat) (e : Event) : Prop := EvP Bad e ∨ e = ⟨.obj Ch, false, true⟩ ∨ e = ⟨.obj Ch, true, true⟩

/-- At a receive that nobody else takes part in. -/
def AtRv (P : Program) (Ch : Nat) (z : Value) (buf : Array Value) (r : Nat) (Next : Goroutine → World → Prop) (g : Goroutine) (w : World) : Prop :=
  g.status = .running ∧ (∀ d, stepG P true g (w.at d) = .comm g #[rcase Ch z] true (.recv true) (w.at d) #[]) ∧ w.heap[Ch]? = some (.chan 2 buf true 2 r false) ∧ Next g w

theorem setChan_at (X : World) (d c cap : Nat) (buf : Array Value) (cl : Bool) (s r : Nat) (tm : Bool) : (X.at d).setChan c cap buf cl s r tm = (X.setChan c cap buf cl s r tm).at d := rfl
theorem closeRun {X : World} {c : Nat} {buf : Array Value} (h : X.heap[c]? = some (.chan 2 buf false 2 0 false)) (ats : Array TypeId) (t : TypeId) (d : Nat) :
    (Builtin.close_ ats t #[.chan (some c)]).run Try.prog (X.at d) = .ok (.tuple #[]) ((X.setChan c 2 buf true 2 0 false).at d) := run_close_open (w := X.at d) (P := Try.prog) ats t (show (X.at d).heap[c]? = _ from h)
theorem closeEvs {X : World} {c : Nat} {buf : Array Value} (h : X.heap[c]? = some (.chan 2 buf false 2 0 false)) (ats : Array TypeId) (t : TypeId) (d : Nat) (es : Array Event) :
    (Builtin.close_ ats t #[.chan (some c)]).events Try.prog (X.at d) es = (es.push ⟨.obj c, false, true⟩).push ⟨.obj c, true, true⟩ := events_close_open (w := X.at d) (P := Try.prog) (es := es) ats t (show (X.at d).heap[c]? = _ from h)

theorem served_at {b : Frame} {a : Act} {ops : Array Oper} {i : Nat} {rest : List Nat} {k : List Item} {cs : List Frame} (v : Value) :
    Go.Conc.served (G (b.at a (.inRegion ops (i :: rest) :: k)) cs) v = G (b.at (a.put ((ops[i]?).bind (·.dst)) v) (.inRegion ops rest :: k)) cs := by
  have h := Frame.finish_at (b := b) (a := a) (ops := ops) (i := i) (rest := rest) (k := k) (v := v)
  simp only [Go.Conc.served, G]
  rw [h]

/-- While the sides are taken: four boxes behind all that was there; what was there stays but for the channel. -/
structure FsF (n0 : Nat) (X : World) (k : Nat) (A B : List Value) (buf : Array Value) (r : Nat) (Z : World) : Prop where
  size : Z.heap.size = X.heap.size + 4 + k
  s2 : RowF Z X.heap.size [.bool false, .bool false, .bool false]
  s3 : RowF Z (X.heap.size + 1) [.bool false, .bool false, .bool false]
  s4 : RowF Z (X.heap.size + 2) A
  s5 : RowF Z (X.heap.size + 3) B
  chn : Z.heap[n0 + 4]? = some (.chan 2 buf true 2 r false)
  old : ∀ b, b < X.heap.size → b ≠ n0 + 4 → Z.heap[b]? = X.heap[b]?
  str : Z.os = X.os ∧ Z.tape = X.tape ∧ Z.output = X.output
section
variable {n0 k r : Nat} {X Z : World} {A B : List Value} {buf : Array Value}
theorem rowF_chan {gg : Nat} {C : List Value} (h : RowF Z gg C) (c cap : Nat) (b : Array Value) (cl : Bool) (s r : Nat) (tm : Bool) (hc : gg ≠ c) : RowF (Z.setChan c cap b cl s r tm) gg C := by
  have hb := setChan_block Z c cap b cl s r tm hc
  exact ⟨by rw [setChan_size]; exact h.1, fun i hi => ⟨(World.cell?_of_block (w := Z) (a := ⟨gg, i, none⟩) hb).trans (h.2 i hi).1, (World.frozen?_of_block (w := Z) (a := ⟨gg, i, none⟩) hb).trans (h.2 i hi).2⟩⟩
theorem FsF.recv (h : FsF n0 X k A B buf r Z) (hn : n0 + 4 < X.heap.size) (buf' : Array Value) (r' : Nat) : FsF n0 X k A B buf' r' (Z.setChan (n0 + 4) 2 buf' true 2 r' false) :=
  ⟨by rw [setChan_size]; exact h.size, rowF_chan h.s2 _ _ _ _ _ _ _ (by omega), rowF_chan h.s3 _ _ _ _ _ _ _ (by omega), rowF_chan h.s4 _ _ _ _ _ _ _ (by omega), rowF_chan h.s5 _ _ _ _ _ _ _ (by omega),
    setChan_same _ _ _ _ _ _ _ _ (by rw [h.size]; omega), fun b hb hne => (setChan_block _ _ _ _ _ _ _ _ hne).trans (h.old b hb hne), h.str⟩
theorem FsF.alloc (h : FsF n0 X k A B buf r Z) (hn : n0 + 4 < X.heap.size) (o : Obj) : FsF n0 X (k + 1) A B buf r (Z.alloc o) :=
  ⟨by rw [World.size_alloc, h.size]; rfl, rowF_alloc h.s2 _, rowF_alloc h.s3 _, rowF_alloc h.s4 _, rowF_alloc h.s5 _, (Below.heap_alloc _ _ _ (by rw [h.size]; omega)).trans h.chn, fun b hb hne => (Below.heap_alloc _ _ _ (by rw [h.size]; omega)).trans (h.old b hb hne), h.str⟩
theorem FsF.at {d : Nat} (h : FsF n0 X k A B buf r Z) : FsF n0 X k A B buf r (Z.at d) := ⟨h.size, h.s2, h.s3, h.s4, h.s5, h.chn, h.old, h.str⟩
theorem set_block (w : World) (a : Addr) (v : Value) {b : Nat} (hb : b ≠ a.block) : (w.setCell a v).heap[b]? = w.heap[b]? := (aside_setCell w a v).block b hb
theorem rowF_set_ne {gg : Nat} {C : List Value} (h : RowF Z gg C) (a : Addr) (v : Value) (hb : gg ≠ a.block) : RowF (Z.setCell a v) gg C :=
  ⟨by rw [(aside_setCell Z a v).size]; exact h.1, fun i hi => ⟨(World.cell?_of_block (w := Z) (a := ⟨gg, i, none⟩) (set_block _ _ _ hb)).trans (h.2 i hi).1, (World.frozen?_of_block (w := Z) (a := ⟨gg, i, none⟩) (set_block _ _ _ hb)).trans (h.2 i hi).2⟩⟩
/-- Three cells written one after the other. -/
theorem rowF_set3 {gg : Nat} {x0 x1 x2 : Value} (h : RowF Z gg [x0, x1, x2]) (v0 v1 v2 : Value) : RowF (((Z.setCell ⟨gg, 0, none⟩ v0).setCell ⟨gg, 1, none⟩ v1).setCell ⟨gg, 2, none⟩ v2) gg [v0, v1, v2] := by
  have c0 := (h.2 0 (by simp)).1
  have c1 := (h.2 1 (by simp)).1
  have c2 := (h.2 2 (by simp)).1
  have f0 := (h.2 0 (by simp)).2
  have f1 := (h.2 1 (by simp)).2
  have f2 := (h.2 2 (by simp)).2
  simp only [List.getElem_cons_zero, List.getElem_cons_succ] at c0 c1 c2
  refine ⟨by simp only [(aside_setCell _ _ _).size]; exact h.1, fun i hi => ?_⟩
  match i, hi with
  | 0, _ => exact ⟨by simp [go_sem, *], by simp [go_sem, *]⟩
  | 1, _ => exact ⟨by simp [go_sem, *], by simp [go_sem, *]⟩
  | 2, _ => exact ⟨by simp [go_sem, *], by simp [go_sem, *]⟩
end

noncomputable def fsB : Code := Try.f25.body.getD .skip
noncomputable def fs8 : Array Oper := match fsB with | .seq _ (.seq _ (.seq _ (.seq (.region _ o _) _))) => o | _ => #[]
theorem sched25 (t : Nat) : Region.schedule (Try.prog.follows .mixedOrders) fs8 t = [0, 1, 2, 3] ∨ Region.schedule (Try.prog.follows .mixedOrders) fs8 t = [0, 2, 1, 3] ∨ Region.schedule (Try.prog.follows .mixedOrders) fs8 t = [1, 0, 2, 3] := by
  have e : Region.schedule (Try.prog.follows .mixedOrders) fs8 t = Region.linearise.go .any fs8 4 t #[false, false, false, false] [] := by
    have z : fs8.size = 4 := by kernel_rfl
    rw [show Try.prog.follows .mixedOrders = true from by kernel_rfl]
    unfold Region.schedule Region.linearise
    rw [z]
    simp
    rfl
  rw [e]
  have r0 : Region.ready .any fs8 #[false, false, false, false] = [0, 1] := by kernel_rfl
  have r1 : Region.ready .any fs8 #[true, false, false, false] = [1, 2] := by kernel_rfl
  have r2 : Region.ready .any fs8 #[false, true, false, false] = [0] := by kernel_rfl
  have r3 : Region.ready .any fs8 #[true, true, false, false] = [2] := by kernel_rfl
  have r4 : Region.ready .any fs8 #[true, true, true, false] = [3] := by kernel_rfl
  have r5 : Region.ready .any fs8 #[true, false, true, false] = [1] := by kernel_rfl
  have fin : ∀ t, Region.linearise.go .any fs8 2 t #[true, true, false, false] [] = [2, 3] := fun t => by
    rw [lin_step r3 (one_of_one t 2)]
    show 2 :: Region.linearise.go .any fs8 1 _ #[true, true, true, false] [] = _
    rw [lin_step r4 (one_of_one _ 3), lin_end]
  rcases one_of_two t 0 1 with h | h
  · rw [lin_step r0 h]
    show 0 :: Region.linearise.go .any fs8 3 (t / 2) #[true, false, false, false] [] = _ ∨ 0 :: Region.linearise.go .any fs8 3 (t / 2) #[true, false, false, false] [] = _ ∨ 0 :: Region.linearise.go .any fs8 3 (t / 2) #[true, false, false, false] [] = _
    rcases one_of_two (t / 2) 1 2 with h' | h'
    · refine .inl ?_
      rw [lin_step r1 h']
      show 0 :: 1 :: Region.linearise.go .any fs8 2 _ #[true, true, false, false] [] = _
      rw [fin]
    · refine .inr (.inl ?_)
      rw [lin_step r1 h']
      show 0 :: 2 :: Region.linearise.go .any fs8 2 _ #[true, false, true, false] [] = _
      rw [lin_step r5 (one_of_one _ 1)]
      show 0 :: 2 :: 1 :: Region.linearise.go .any fs8 1 _ #[true, true, true, false] [] = _
      rw [lin_step r4 (one_of_one _ 3), lin_end]
  · refine .inr (.inr ?_)
    rw [lin_step r0 h]
    show 1 :: Region.linearise.go .any fs8 3 _ #[false, true, false, false] [] = _
    rw [lin_step r2 (one_of_one _ 0)]
    show 1 :: 0 :: Region.linearise.go .any fs8 2 _ #[true, true, false, false] [] = _
    rw [fin]

section
variable {n0 k r : Nat} {X Y Z : World} {A B : List Value} {buf : Array Value} {x0 x1 x2 : Value}
def sdO : Obj := .cells #[.bool false, .bool false, .bool false] 35
theorem FsF.new (hn : n0 + 4 < X.heap.size) (yk : Aside (n0 + 4) X Y) (yc : Y.heap[n0 + 4]? = some (.chan 2 buf true 2 0 false)) :
    FsF n0 X 0 [.bool false, .bool false, .bool false] [.bool false, .bool false, .bool false] buf 0 ((((Y.alloc (.cells #[.bool false, .bool false, .bool false] 35)).alloc (.cells #[.bool false, .bool false, .bool false] 35)).alloc (.cells #[.bool false, .bool false, .bool false] 35)).alloc (.cells #[.bool false, .bool false, .bool false] 35)) := by
  have hz := yk.size
  have hb : Below Y.heap.size Y ((((Y.alloc (.cells #[.bool false, .bool false, .bool false] 35)).alloc (.cells #[.bool false, .bool false, .bool false] 35)).alloc (.cells #[.bool false, .bool false, .bool false] 35)).alloc (.cells #[.bool false, .bool false, .bool false] 35)) := balloc (balloc (balloc (balloc (Below.refl _ _) _) _) _) _
  refine ⟨by simp [hz], ?_, ?_, ?_, ?_, (hb.block _ (by omega)).trans yc, fun b hb' hne => (hb.block b (by omega)).trans (yk.block b hne), hb.os.trans yk.os, hb.tape.trans yk.tape, hb.output.trans yk.output⟩
  · rw [← hz]
    exact rowF_alloc (rowF_alloc (rowF_alloc (rowF_new Y _ _) _) _) _
  · rw [← hz]
    simpa using rowF_alloc (rowF_alloc (rowF_new (Y.alloc (.cells #[.bool false, .bool false, .bool false] 35)) [.bool false, .bool false, .bool false] 35) (.cells #[.bool false, .bool false, .bool false] 35)) (.cells #[.bool false, .bool false, .bool false] 35)
  · rw [← hz]
    simpa using rowF_alloc (rowF_new ((Y.alloc (.cells #[.bool false, .bool false, .bool false] 35)).alloc (.cells #[.bool false, .bool false, .bool false] 35)) [.bool false, .bool false, .bool false] 35) (.cells #[.bool false, .bool false, .bool false] 35)
  · rw [← hz]
    simpa using rowF_new (((Y.alloc (.cells #[.bool false, .bool false, .bool false] 35)).alloc (.cells #[.bool false, .bool false, .bool false] 35)).alloc (.cells #[.bool false, .bool false, .bool false] 35)) [.bool false, .bool false, .bool false] 35
theorem set3_ne (Z : World) (gg b : Nat) (v0 v1 v2 : Value) (hb : b ≠ gg) : (((Z.setCell ⟨gg, 0, none⟩ v0).setCell ⟨gg, 1, none⟩ v1).setCell ⟨gg, 2, none⟩ v2).heap[b]? = Z.heap[b]? :=
  (set_block _ _ _ hb).trans ((set_block _ _ _ hb).trans (set_block _ _ _ hb))
theorem rowF_set3_ne {gg b : Nat} {C : List Value} (h : RowF Z b C) (v0 v1 v2 : Value) (hb : b ≠ gg) : RowF (((Z.setCell ⟨gg, 0, none⟩ v0).setCell ⟨gg, 1, none⟩ v1).setCell ⟨gg, 2, none⟩ v2) b C := rowF_set_ne (rowF_set_ne (rowF_set_ne h _ _ hb) _ _ hb) _ _ hb
theorem set3_size (Z : World) (gg : Nat) (v0 v1 v2 : Value) : (((Z.setCell ⟨gg, 0, none⟩ v0).setCell ⟨gg, 1, none⟩ v1).setCell ⟨gg, 2, none⟩ v2).heap.size = Z.heap.size := by simp only [(aside_setCell _ _ _).size]
theorem set3_str (Z : World) (gg : Nat) (v0 v1 v2 : Value) : (((Z.setCell ⟨gg, 0, none⟩ v0).setCell ⟨gg, 1, none⟩ v1).setCell ⟨gg, 2, none⟩ v2).os = Z.os ∧ (((Z.setCell ⟨gg, 0, none⟩ v0).setCell ⟨gg, 1, none⟩ v1).setCell ⟨gg, 2, none⟩ v2).tape = Z.tape ∧ (((Z.setCell ⟨gg, 0, none⟩ v0).setCell ⟨gg, 1, none⟩ v1).setCell ⟨gg, 2, none⟩ v2).output = Z.output := ⟨rfl, rfl, rfl⟩
theorem FsF.set4 (h : FsF n0 X k [x0, x1, x2] B buf r Z) (hn : n0 + 4 < X.heap.size) (v0 v1 v2 : Value) : FsF n0 X k [v0, v1, v2] B buf r (((Z.setCell ⟨X.heap.size + 2, 0, none⟩ v0).setCell ⟨X.heap.size + 2, 1, none⟩ v1).setCell ⟨X.heap.size + 2, 2, none⟩ v2) :=
  ⟨by rw [set3_size]; exact h.size, rowF_set3_ne h.s2 _ _ _ (by omega), rowF_set3_ne h.s3 _ _ _ (by omega), rowF_set3 h.s4 _ _ _, rowF_set3_ne h.s5 _ _ _ (by omega), (set3_ne _ _ _ _ _ _ (by omega)).trans h.chn, fun b hb hne => (set3_ne _ _ _ _ _ _ (by omega)).trans (h.old b hb hne), h.str⟩
theorem FsF.set5 (h : FsF n0 X k A [x0, x1, x2] buf r Z) (hn : n0 + 4 < X.heap.size) (v0 v1 v2 : Value) : FsF n0 X k A [v0, v1, v2] buf r (((Z.setCell ⟨X.heap.size + 3, 0, none⟩ v0).setCell ⟨X.heap.size + 3, 1, none⟩ v1).setCell ⟨X.heap.size + 3, 2, none⟩ v2) :=
  ⟨by rw [set3_size]; exact h.size, rowF_set3_ne h.s2 _ _ _ (by omega), rowF_set3_ne h.s3 _ _ _ (by omega), rowF_set3_ne h.s4 _ _ _ (by omega), rowF_set3 h.s5 _ _ _, (set3_ne _ _ _ _ _ _ (by omega)).trans h.chn, fun b hb hne => (set3_ne _ _ _ _ _ _ (by omega)).trans (h.old b hb hne), h.str⟩
end

/-- Behind it all: the caller has both sides; what was there stays but for three blocks. -/
structure DoneF (n0 : Nat) (X w' : World) : Prop where
  size : w'.heap.size = X.heap.size + 6
  old : ∀ b, b < X.heap.size → b ≠ n0 + 4 → b ≠ n0 + 2 → b ≠ n0 + 3 → w'.heap[b]? = X.heap[b]?
  str : w'.os = X.os ∧ w'.tape = X.tape ∧ w'.output = X.output

end Go.Proofs.Ytnndfgceehfiiaa
