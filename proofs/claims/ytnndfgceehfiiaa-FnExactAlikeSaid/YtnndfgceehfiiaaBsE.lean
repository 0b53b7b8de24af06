/-
  impl.bothSides behind the Wait: the walk. (tools/genbd.py)
-/
import Derived.Test.YtnndfgceehfiiaaBsD
namespace Go.Proofs.Ytnndfgceehfiiaa
open Go.Conc Go.ConcN Go.RowKit Go.Conc.Lib
open Go.ConcR (Payload)

section
variable (Bad : Nat → Prop) (n0 : Nat) (c : Frame) (cs : List Frame) (rv : Value) (X : World)
def StopD (g' : Goroutine) (w' : World) : Prop := g' = G (c.finish rv) cs ∧ DoneF n0 X w'
def Rv3 : Goroutine → World → Prop := AtRv Try.prog (n0 + 4) (.agg #[.bool false, .bool false, .bool false]) #[] 2 fun g' w' => ∀ d, Goes Try.prog true AtRel (DE (EvC Bad (n0 + 4))) (StopD n0 c cs rv X) 60 (Go.Conc.served g' (.tuple #[.agg #[.bool false, .bool false, .bool false], .bool false])) (w'.at d)
def Rv2 (v2 : Value) : Goroutine → World → Prop := AtRv Try.prog (n0 + 4) (.agg #[.bool false, .bool false, .bool false]) #[v2] 1 fun g' w' => ∀ d, Goes Try.prog true AtRel (DE (EvC Bad (n0 + 4))) (Rv3 Bad n0 c cs rv X) 60 (Go.Conc.served g' (.tuple #[v2, .bool true])) ((w'.at d).setChan (n0 + 4) 2 #[] true 2 2 false)
def Rv1 (v1 v2 : Value) : Goroutine → World → Prop := AtRv Try.prog (n0 + 4) (.agg #[.bool false, .bool false, .bool false]) #[v1, v2] 0 fun g' w' => ∀ d, Goes Try.prog true AtRel (DE (EvC Bad (n0 + 4))) (Rv2 Bad n0 c cs rv X v2) 60 (Go.Conc.served g' (.tuple #[v1, .bool true])) ((w'.at d).setChan (n0 + 4) 2 #[v2] true 2 1 false)
end

section
variable {K L : List ByteArray} {ga gb : Nat} {f s g u : Int} {w : World} {c : Frame} {cs : List Frame} {Bad : Nat → Prop}
theorem rowF_old {X Z : World} {gg : Nat} {C : List Value} (h : RowF X gg C) (hz : gg < Z.heap.size) (hb : Z.heap[gg]? = X.heap[gg]?) : RowF Z gg C :=
  ⟨hz, fun i hi => ⟨(World.cell?_of_block (w := X) (a := ⟨gg, i, none⟩) hb).trans (h.2 i hi).1, (World.frozen?_of_block (w := X) (a := ⟨gg, i, none⟩) hb).trans (h.2 i hi).2⟩⟩

set_option maxRecDepth 100000 in
set_option maxHeartbeats 8000000 in
theorem after1 (e1 c1 e2 c2 : Bool) (X : World) (x9 x10 x11 x12 k0 k1 k2 : Value) (hn : w.heap.size + 4 < X.heap.size) (hn' : w.heap.size + 5 < X.heap.size) (hS : X.cell? ⟨w.heap.size + 5, 0, none⟩ = some (.chan (some (w.heap.size + 4)))) (hch : X.heap[w.heap.size + 4]? = some (.chan 2 #[.agg #[.bool false, .bool e1, .bool c1], .agg #[.bool true, .bool e2, .bool c2]] false 2 0 false))
    (hC : RowF X (w.heap.size + 2) [k0, k1, k2]) (hD : RowF X (w.heap.size + 3) [.bool false, .bool false, .bool false])
    (nS : ¬ Bad (w.heap.size + 5)) (n2 : ¬ Bad (w.heap.size + 2)) (n3 : ¬ Bad (w.heap.size + 3)) (hnb : ∀ i, i < 6 → ¬ Bad (X.heap.size + i)) :
    Goes Try.prog true AtRel (DE (EvC Bad (w.heap.size + 4))) (Rv1 Bad w.heap.size c cs (.tuple #[.agg #[.bool false, .bool e1, .bool c1], .agg #[.bool true, .bool e2, .bool c2]]) X (.agg #[.bool false, .bool e1, .bool c1]) (.agg #[.bool true, .bool e2, .bool c2])) 60 (gWait K L ga gb f s g u c cs w x9 x10 x11 x12) X := by
  have A1 := at_cell
  have A2 := at_frozen
  have A3 := at_size
  have A4 := at_at
  have A5 := at_alloc
  have A6 := at_set
  have E1 := fun w es a m (s : Bool) => events_store Try.prog w es a (.bool s) m rfl
  have cr := fun ats t d => closeRun hch ats t d
  have ce := fun ats t d es => closeEvs hch ats t d es
  have hn0 : ¬ Bad X.heap.size := hnb 0 (by omega)
  have hn1 : ¬ Bad (X.heap.size + 1) := hnb 1 (by omega)
  have hn2 : ¬ Bad (X.heap.size + 2) := hnb 2 (by omega)
  have hn3 : ¬ Bad (X.heap.size + 3) := hnb 3 (by omega)
  have hn4 : ¬ Bad (X.heap.size + 4) := hnb 4 (by omega)
  have hn5 : ¬ Bad (X.heap.size + 5) := hnb 5 (by omega)
  simp only [gWait, bothC7, bothC6, bothC5, bothC4, bothB, Try.f18, Option.getD_some]
  refine Goes.step rfl (fun _ h₁ => ?_)
  obtain ⟨_, rfl⟩ := h₁
  rw [stepG_region_end]
  simp only [goes_go]
  refine ⟨fun e he => by simp at he, ?_⟩
  refine Goes.step rfl (fun _ h₁ => ?_)
  obtain ⟨_, rfl⟩ := h₁
  rw [stepG_seq]
  simp only [goes_go]
  refine ⟨fun e he => by simp at he, ?_⟩
  refine Goes.step rfl (fun _ h₁ => ?_)
  obtain ⟨_, rfl⟩ := h₁
  rw [stepG_region]
  simp only [goes_go, List.size_toArray, List.length_cons, List.length_nil, Nat.reduceAdd, Nat.zero_add, List.range, List.range.loop]
  refine ⟨fun e he => by simp at he, ?_⟩
  refine Goes.step rfl (fun _ h₁ => ?_)
  obtain ⟨_, rfl⟩ := h₁
  refine goes_oper_k rfl rfl (by decide) (fun K1 hK1 => ?_)
  go_simp
  try (unfold stored; go_simp)
  refine hK1 _ _ ⟨?_, ?_⟩
  · intro e he
    have hm := mem_listed he
    simp [go_sem, *] at hm
    try (rcases hm with rfl | rfl | rfl <;> exact .inl (evP _ _ (by first | exact nS | exact n2 | exact n3 | exact hn0 | exact hn1 | exact hn2 | exact hn3 | exact hn4 | exact hn5)))
    try (subst hm; exact .inl (evP _ _ (by first | exact nS | exact n2 | exact n3 | exact hn0 | exact hn1 | exact hn2 | exact hn3 | exact hn4 | exact hn5)))
  clear hK1 K1
  try walk_nrm
  refine Goes.step rfl (fun _ h₁ => ?_)
  obtain ⟨_, rfl⟩ := h₁
  refine goes_oper_k rfl rfl (by decide) (fun K1 hK1 => ?_)
  go_simp
  refine hK1 _ _ ⟨?_, ?_⟩
  · intro e he
    have hm := mem_listed he
    simp [go_sem, *] at hm
    rcases hm with rfl | rfl
    · exact .inr (.inl rfl)
    · exact .inr (.inr rfl)
  clear hK1 K1 cr ce
  try walk_nrm
  obtain ⟨Y, hY⟩ : ∃ Y, Y = X.setChan (w.heap.size + 4) 2 #[.agg #[.bool false, .bool e1, .bool c1], .agg #[.bool true, .bool e2, .bool c2]] true 2 0 false := ⟨_, rfl⟩
  have yS : Y.cell? ⟨w.heap.size + 5, 0, none⟩ = some (.chan (some (w.heap.size + 4))) := by rw [hY]; exact (cell_of_block (setChan_block _ _ _ _ _ _ _ _ (by omega)) 0).trans hS
  have yz : Y.heap.size = X.heap.size := by rw [hY]; exact setChan_size ..
  have yc : Y.heap[w.heap.size + 4]? = some (.chan 2 #[.agg #[.bool false, .bool e1, .bool c1], .agg #[.bool true, .bool e2, .bool c2]] true 2 0 false) := by rw [hY]; exact setChan_same _ _ _ _ _ _ _ _ (Array.getElem?_eq_some_iff.1 hch).1
  have yk : Hid (Aside (w.heap.size + 4) X Y) := by rw [hY]; exact ⟨rfl, rfl, rfl, setChan_size .., fun k hk => setChan_block _ _ _ _ _ _ _ _ hk⟩
  rw [← hY]
  clear hY hS
  refine Goes.step rfl (fun _ h₁ => ?_)
  obtain ⟨_, rfl⟩ := h₁
  rw [stepG_region_end]
  simp only [goes_go]
  refine ⟨fun e he => by simp at he, ?_⟩
  refine Goes.step rfl (fun _ h₁ => ?_)
  obtain ⟨_, rfl⟩ := h₁
  rw [stepG_seq]
  simp only [goes_go]
  refine ⟨fun e he => by simp at he, ?_⟩
  refine Goes.step rfl (fun _ h₁ => ?_)
  obtain ⟨_, rfl⟩ := h₁
  rw [stepG_region]
  simp only [goes_go, List.size_toArray, List.length_cons, List.length_nil, Nat.reduceAdd, Nat.zero_add, List.range, List.range.loop]
  refine ⟨fun e he => by simp at he, ?_⟩
  refine Goes.step rfl (fun _ h₁ => ?_)
  obtain ⟨_, rfl⟩ := h₁
  refine goes_oper_k rfl rfl (by decide) (fun K1 hK1 => ?_)
  go_simp
  try (unfold stored; go_simp)
  refine hK1 _ _ ⟨?_, ?_⟩
  · intro e he
    have hm := mem_listed he
    simp [go_sem, *] at hm
    try (rcases hm with rfl | rfl | rfl <;> exact .inl (evP _ _ (by first | exact nS | exact n2 | exact n3 | exact hn0 | exact hn1 | exact hn2 | exact hn3 | exact hn4 | exact hn5)))
    try (subst hm; exact .inl (evP _ _ (by first | exact nS | exact n2 | exact n3 | exact hn0 | exact hn1 | exact hn2 | exact hn3 | exact hn4 | exact hn5)))
  clear hK1 K1
  try walk_nrm
  refine Goes.step rfl (fun _ h₁ => ?_)
  obtain ⟨_, rfl⟩ := h₁
  refine goes_call rfl rfl (by decide) rfl Try.func25 (by rfl) rfl ⟨fun e he => by simp at he, ?_⟩
  walk_nrmf Try.f25
  refine Goes.step rfl (fun _ h₁ => ?_)
  obtain ⟨_, rfl⟩ := h₁
  rw [stepG_seq]
  simp only [goes_go]
  refine ⟨fun e he => by simp at he, ?_⟩
  refine Goes.step rfl (fun _ h₁ => ?_)
  obtain ⟨_, rfl⟩ := h₁
  rw [stepG_region]
  simp only [goes_go, List.size_toArray, List.length_cons, List.length_nil, Nat.reduceAdd, Nat.zero_add, List.range, List.range.loop]
  refine ⟨fun e he => by simp at he, ?_⟩
  refine Goes.step rfl (fun _ h₁ => ?_)
  obtain ⟨_, rfl⟩ := h₁
  refine goes_oper_k rfl rfl (by decide) (fun K1 hK1 => ?_)
  go_simp
  try (unfold stored; go_simp)
  refine hK1 _ _ ⟨?_, ?_⟩
  · intro e he
    have hm := mem_listed he
    simp [go_sem, *] at hm
    try (rcases hm with rfl | rfl | rfl <;> exact .inl (evP _ _ (by first | exact nS | exact n2 | exact n3 | exact hn0 | exact hn1 | exact hn2 | exact hn3 | exact hn4 | exact hn5)))
    try (subst hm; exact .inl (evP _ _ (by first | exact nS | exact n2 | exact n3 | exact hn0 | exact hn1 | exact hn2 | exact hn3 | exact hn4 | exact hn5)))
  clear hK1 K1
  try walk_nrm
  refine Goes.step rfl (fun _ h₁ => ?_)
  obtain ⟨_, rfl⟩ := h₁
  refine goes_oper_k rfl rfl (by decide) (fun K1 hK1 => ?_)
  go_simp
  try (unfold stored; go_simp)
  refine hK1 _ _ ⟨?_, ?_⟩
  · intro e he
    have hm := mem_listed he
    simp [go_sem, *] at hm
    try (rcases hm with rfl | rfl | rfl <;> exact .inl (evP _ _ (by first | exact nS | exact n2 | exact n3 | exact hn0 | exact hn1 | exact hn2 | exact hn3 | exact hn4 | exact hn5)))
    try (subst hm; exact .inl (evP _ _ (by first | exact nS | exact n2 | exact n3 | exact hn0 | exact hn1 | exact hn2 | exact hn3 | exact hn4 | exact hn5)))
  clear hK1 K1
  try walk_nrm
  refine Goes.step rfl (fun _ h₁ => ?_)
  obtain ⟨_, rfl⟩ := h₁
  rw [stepG_region_end]
  simp only [goes_go]
  refine ⟨fun e he => by simp at he, ?_⟩
  refine Goes.step rfl (fun _ h₁ => ?_)
  obtain ⟨_, rfl⟩ := h₁
  rw [stepG_seq]
  simp only [goes_go]
  refine ⟨fun e he => by simp at he, ?_⟩
  refine Goes.step rfl (fun _ h₁ => ?_)
  obtain ⟨_, rfl⟩ := h₁
  rw [stepG_region]
  simp only [goes_go, List.size_toArray, List.length_cons, List.length_nil, Nat.reduceAdd, Nat.zero_add, List.range, List.range.loop]
  refine ⟨fun e he => by simp at he, ?_⟩
  refine Goes.step rfl (fun _ h₁ => ?_)
  obtain ⟨_, rfl⟩ := h₁
  refine goes_oper_k rfl rfl (by decide) (fun K1 hK1 => ?_)
  go_simp
  try (unfold stored; go_simp)
  refine hK1 _ _ ⟨?_, ?_⟩
  · intro e he
    have hm := mem_listed he
    simp [go_sem, *] at hm
    try (rcases hm with rfl | rfl | rfl <;> exact .inl (evP _ _ (by first | exact nS | exact n2 | exact n3 | exact hn0 | exact hn1 | exact hn2 | exact hn3 | exact hn4 | exact hn5)))
    try (subst hm; exact .inl (evP _ _ (by first | exact nS | exact n2 | exact n3 | exact hn0 | exact hn1 | exact hn2 | exact hn3 | exact hn4 | exact hn5)))
  clear hK1 K1
  try walk_nrm
  refine Goes.step rfl (fun _ h₁ => ?_)
  obtain ⟨_, rfl⟩ := h₁
  refine goes_oper_k rfl rfl (by decide) (fun K1 hK1 => ?_)
  go_simp
  try (unfold stored; go_simp)
  refine hK1 _ _ ⟨?_, ?_⟩
  · intro e he
    have hm := mem_listed he
    simp [go_sem, *] at hm
    try (rcases hm with rfl | rfl | rfl <;> exact .inl (evP _ _ (by first | exact nS | exact n2 | exact n3 | exact hn0 | exact hn1 | exact hn2 | exact hn3 | exact hn4 | exact hn5)))
    try (subst hm; exact .inl (evP _ _ (by first | exact nS | exact n2 | exact n3 | exact hn0 | exact hn1 | exact hn2 | exact hn3 | exact hn4 | exact hn5)))
  clear hK1 K1
  try walk_nrm
  refine Goes.step rfl (fun _ h₁ => ?_)
  obtain ⟨_, rfl⟩ := h₁
  rw [stepG_region_end]
  simp only [goes_go]
  refine ⟨fun e he => by simp at he, ?_⟩
  refine Goes.step rfl (fun _ h₁ => ?_)
  obtain ⟨_, rfl⟩ := h₁
  rw [stepG_seq]
  simp only [goes_go]
  refine ⟨fun e he => by simp at he, ?_⟩
  refine Goes.step rfl (fun _ h₁ => ?_)
  obtain ⟨_, rfl⟩ := h₁
  rw [stepG_seq]
  simp only [goes_go]
  refine ⟨fun e he => by simp at he, ?_⟩
  refine Goes.step rfl (fun _ h₁ => ?_)
  obtain ⟨_, rfl⟩ := h₁
  rw [stepG_region]
  simp only [goes_go, List.size_toArray, List.length_cons, List.length_nil, Nat.zero_add, List.range, List.range.loop]
  refine ⟨fun e he => by simp at he, ?_⟩
  refine Goes.step rfl (fun _ h₁ => ?_)
  obtain ⟨_, rfl⟩ := h₁
  refine goes_oper_k rfl rfl (by decide) (fun K1 hK1 => ?_)
  go_simp
  try (unfold stored; go_simp)
  refine hK1 _ _ ⟨?_, ?_⟩
  · intro e he
    have hm := mem_listed he
    simp [go_sem, *] at hm
    try (rcases hm with rfl | rfl | rfl <;> exact .inl (evP _ _ (by first | exact nS | exact n2 | exact n3 | exact hn0 | exact hn1 | exact hn2 | exact hn3 | exact hn4 | exact hn5)))
    try (subst hm; exact .inl (evP _ _ (by first | exact nS | exact n2 | exact n3 | exact hn0 | exact hn1 | exact hn2 | exact hn3 | exact hn4 | exact hn5)))
  clear hK1 K1
  try walk_nrm
  refine Goes.step rfl (fun _ h₁ => ?_)
  obtain ⟨_, rfl⟩ := h₁
  rw [stepG_region_end]
  simp only [goes_go]
  refine ⟨fun e he => by simp at he, ?_⟩
  refine Goes.step rfl (fun _ h₁ => ?_)
  obtain ⟨_, rfl⟩ := h₁
  rw [stepG_block]
  simp only [goes_go]
  refine ⟨fun e he => by simp at he, ?_⟩
  refine Goes.step rfl (fun _ h₁ => ?_)
  obtain ⟨_, rfl⟩ := h₁
  rw [stepG_loop]
  simp only [goes_go]
  refine ⟨fun e he => by simp at he, ?_⟩
  refine Goes.step rfl (fun _ h₁ => ?_)
  obtain ⟨_, rfl⟩ := h₁
  rw [stepG_seq]
  simp only [goes_go]
  refine ⟨fun e he => by simp at he, ?_⟩
  refine Goes.step rfl (fun _ h₁ => ?_)
  obtain ⟨_, rfl⟩ := h₁
  rw [stepG_region]
  simp only [goes_go, List.size_toArray, List.length_cons, List.length_nil, Nat.reduceAdd, Nat.zero_add, List.range, List.range.loop]
  refine ⟨fun e he => by simp at he, ?_⟩
  simp only [Nat.add_assoc, Nat.reduceAdd]
  obtain ⟨Z, hZ0⟩ : ∃ Z, Z = ((((Y.alloc (.cells #[.bool false, .bool false, .bool false] 35)).alloc (.cells #[.bool false, .bool false, .bool false] 35)).alloc (.cells #[.bool false, .bool false, .bool false] 35)).alloc (.cells #[.bool false, .bool false, .bool false] 35)) := ⟨_, rfl⟩
  have hZ := FsF.new hn yk.out yc
  rw [← hZ0] at hZ ⊢
  clear hZ0 yk yc yz yS Y hch
  refine Goes.stop (fun _ h₁ => ?_)
  obtain ⟨_, rfl⟩ := h₁
  refine ⟨rfl, fun d => ?_, hZ.chn, fun d => ?_⟩
  · rw [stepG_comm (o := { dst := some 8, op := .recv _ (.tmp 7) true, type := _, pos := _, after := _, guard := none }) rfl rfl (by decide) rfl, listed_nil (by rfl)]
    rfl
  rw [served_at]
  walk_nrm
  refine (?_ : Goes _ _ _ _ _ _ _ (World.at (World.setChan Z (w.heap.size + 4) 2 #[.agg #[.bool true, .bool e2, .bool c2]] true 2 1 false) d))
  obtain ⟨Z1, hZ1⟩ : ∃ Z1, Z1 = Z.setChan (w.heap.size + 4) 2 #[.agg #[.bool true, .bool e2, .bool c2]] true 2 1 false := ⟨_, rfl⟩
  rw [← hZ1]
  replace hZ := hZ.recv hn #[.agg #[.bool true, .bool e2, .bool c2]] 1
  rw [← hZ1] at hZ
  clear hZ1 Z
  have z1 : Z1.heap.size = X.heap.size + 4 := hZ.size
  refine Goes.step rfl (fun _ h₁ => ?_)
  obtain ⟨_, rfl⟩ := h₁
  refine goes_oper_k rfl rfl (by decide) (fun K1 hK1 => ?_)
  go_simp
  try (unfold stored; go_simp)
  refine hK1 _ _ ⟨?_, ?_⟩
  · intro e he
    have hm := mem_listed he
    simp [go_sem, *] at hm
    try (rcases hm with rfl | rfl | rfl <;> exact .inl (evP _ _ (by first | exact nS | exact n2 | exact n3 | exact hn0 | exact hn1 | exact hn2 | exact hn3 | exact hn4 | exact hn5)))
    try (subst hm; exact .inl (evP _ _ (by first | exact nS | exact n2 | exact n3 | exact hn0 | exact hn1 | exact hn2 | exact hn3 | exact hn4 | exact hn5)))
  clear hK1 K1
  try walk_nrm
  refine Goes.step rfl (fun _ h₁ => ?_)
  obtain ⟨_, rfl⟩ := h₁
  rw [stepG_region_end]
  simp only [goes_go]
  refine ⟨fun e he => by simp at he, ?_⟩
  refine Goes.step rfl (fun _ h₁ => ?_)
  obtain ⟨_, rfl⟩ := h₁
  rw [stepG_seq]
  simp only [goes_go]
  refine ⟨fun e he => by simp at he, ?_⟩
  refine Goes.step rfl (fun _ h₁ => ?_)
  obtain ⟨_, rfl⟩ := h₁
  rw [stepG_cond (t := true) rfl]
  simp only [goes_go, ↓reduceIte]
  refine ⟨fun e he => by simp at he, ?_⟩
  refine Goes.step rfl (fun _ h₁ => ?_)
  obtain ⟨_, rfl⟩ := h₁
  rw [stepG_skip]
  simp only [goes_go]
  refine ⟨fun e he => by simp at he, ?_⟩
  refine Goes.step rfl (fun _ h₁ => ?_)
  obtain ⟨_, rfl⟩ := h₁
  rw [stepG_block]
  simp only [goes_go]
  refine ⟨fun e he => by simp at he, ?_⟩
  refine Goes.step rfl (fun _ h₁ => ?_)
  obtain ⟨_, rfl⟩ := h₁
  rw [stepG_seq]
  simp only [goes_go]
  refine ⟨fun e he => by simp at he, ?_⟩
  refine Goes.step rfl (fun _ h₁ => ?_)
  obtain ⟨_, rfl⟩ := h₁
  rw [stepG_region]
  simp only [goes_go, List.size_toArray, List.length_cons, List.length_nil, Nat.reduceAdd, Nat.zero_add, List.range, List.range.loop]
  refine ⟨fun e he => by simp at he, ?_⟩
  refine Goes.step rfl (fun _ h₁ => ?_)
  obtain ⟨_, rfl⟩ := h₁
  refine goes_oper_k rfl rfl (by decide) (fun K1 hK1 => ?_)
  go_simp
  try (unfold stored; go_simp)
  refine hK1 _ _ ⟨?_, ?_⟩
  · intro e he
    have hm := mem_listed he
    simp [go_sem, *] at hm
    try (rcases hm with rfl | rfl | rfl <;> exact .inl (evP _ _ (by first | exact nS | exact n2 | exact n3 | exact hn0 | exact hn1 | exact hn2 | exact hn3 | exact hn4 | exact hn5)))
    try (subst hm; exact .inl (evP _ _ (by first | exact nS | exact n2 | exact n3 | exact hn0 | exact hn1 | exact hn2 | exact hn3 | exact hn4 | exact hn5)))
  clear hK1 K1
  try walk_nrm
  refine Goes.step rfl (fun _ h₁ => ?_)
  obtain ⟨_, rfl⟩ := h₁
  refine goes_oper_k rfl rfl (by decide) (fun K1 hK1 => ?_)
  go_simp
  try (unfold stored; go_simp)
  refine hK1 _ _ ⟨?_, ?_⟩
  · intro e he
    have hm := mem_listed he
    simp [go_sem, *] at hm
    try (rcases hm with rfl | rfl | rfl <;> exact .inl (evP _ _ (by first | exact nS | exact n2 | exact n3 | exact hn0 | exact hn1 | exact hn2 | exact hn3 | exact hn4 | exact hn5)))
    try (subst hm; exact .inl (evP _ _ (by first | exact nS | exact n2 | exact n3 | exact hn0 | exact hn1 | exact hn2 | exact hn3 | exact hn4 | exact hn5)))
  clear hK1 K1
  try walk_nrm
  refine Goes.step rfl (fun _ h₁ => ?_)
  obtain ⟨_, rfl⟩ := h₁
  refine goes_oper_k rfl rfl (by decide) (fun K1 hK1 => ?_)
  go_simp
  try (unfold stored; go_simp)
  refine hK1 _ _ ⟨?_, ?_⟩
  · intro e he
    have hm := mem_listed he
    simp [go_sem, *] at hm
    try (rcases hm with rfl | rfl | rfl <;> exact .inl (evP _ _ (by first | exact nS | exact n2 | exact n3 | exact hn0 | exact hn1 | exact hn2 | exact hn3 | exact hn4 | exact hn5)))
    try (subst hm; exact .inl (evP _ _ (by first | exact nS | exact n2 | exact n3 | exact hn0 | exact hn1 | exact hn2 | exact hn3 | exact hn4 | exact hn5)))
  clear hK1 K1
  try walk_nrm
  refine Goes.step rfl (fun _ h₁ => ?_)
  obtain ⟨_, rfl⟩ := h₁
  rw [stepG_region_end]
  simp only [goes_go]
  refine ⟨fun e he => by simp at he, ?_⟩
  obtain ⟨V, hV⟩ : ∃ V, V = Z1.alloc (.cells #[.bool false, .bool e1, .bool c1] 35) := ⟨_, rfl⟩
  have hN : RowF V (X.heap.size + 4) [.bool false, .bool e1, .bool c1] := by rw [hV, ← z1]; exact rowF_new Z1 _ _
  replace hZ := hZ.alloc hn (.cells #[.bool false, .bool e1, .bool c1] 35)
  rw [← hV] at hZ ⊢
  clear hV z1 Z1
  have u0 := (hN.2 0 (by simp)).1
  have u1 := (hN.2 1 (by simp)).1
  have u2 := (hN.2 2 (by simp)).1
  have fu0 := (hN.2 0 (by simp)).2
  have fu1 := (hN.2 1 (by simp)).2
  have fu2 := (hN.2 2 (by simp)).2
  simp only [List.getElem_cons_zero, List.getElem_cons_succ] at u0 u1 u2
  have q0 := (hZ.s4.2 0 (by simp)).1
  have q1 := (hZ.s4.2 1 (by simp)).1
  have q2 := (hZ.s4.2 2 (by simp)).1
  have fq0 := (hZ.s4.2 0 (by simp)).2
  have fq1 := (hZ.s4.2 1 (by simp)).2
  have fq2 := (hZ.s4.2 2 (by simp)).2
  simp only [List.getElem_cons_zero, List.getElem_cons_succ] at q0 q1 q2
  refine Goes.step rfl (fun _ h₁ => ?_)
  obtain ⟨_, rfl⟩ := h₁
  rw [stepG_seq]
  simp only [goes_go]
  refine ⟨fun e he => by simp at he, ?_⟩
  refine Goes.step rfl (fun _ h₁ => ?_)
  obtain ⟨_, rfl⟩ := h₁
  rw [stepG_region]
  simp only [goes_go, List.size_toArray, List.length_cons, List.length_nil, Nat.reduceAdd, Nat.zero_add, List.range, List.range.loop]
  refine ⟨fun e he => by simp at he, ?_⟩
  refine Goes.step rfl (fun _ h₁ => ?_)
  obtain ⟨_, rfl⟩ := h₁
  refine goes_oper_k rfl rfl (by decide) (fun K1 hK1 => ?_)
  go_simp
  try (unfold stored; go_simp)
  refine hK1 _ _ ⟨?_, ?_⟩
  · intro e he
    have hm := mem_listed he
    simp [go_sem, *] at hm
    try (rcases hm with rfl | rfl | rfl <;> exact .inl (evP _ _ (by first | exact nS | exact n2 | exact n3 | exact hn0 | exact hn1 | exact hn2 | exact hn3 | exact hn4 | exact hn5)))
    try (subst hm; exact .inl (evP _ _ (by first | exact nS | exact n2 | exact n3 | exact hn0 | exact hn1 | exact hn2 | exact hn3 | exact hn4 | exact hn5)))
  clear hK1 K1
  try walk_nrm
  refine Goes.step rfl (fun _ h₁ => ?_)
  obtain ⟨_, rfl⟩ := h₁
  refine goes_oper_k rfl rfl (by decide) (fun K1 hK1 => ?_)
  go_simp
  try (unfold stored; go_simp)
  refine hK1 _ _ ⟨?_, ?_⟩
  · intro e he
    have hm := mem_listed he
    simp [go_sem, *] at hm
    try (rcases hm with rfl | rfl | rfl <;> exact .inl (evP _ _ (by first | exact nS | exact n2 | exact n3 | exact hn0 | exact hn1 | exact hn2 | exact hn3 | exact hn4 | exact hn5)))
    try (subst hm; exact .inl (evP _ _ (by first | exact nS | exact n2 | exact n3 | exact hn0 | exact hn1 | exact hn2 | exact hn3 | exact hn4 | exact hn5)))
  clear hK1 K1
  try walk_nrm
  refine Goes.step rfl (fun _ h₁ => ?_)
  obtain ⟨_, rfl⟩ := h₁
  rw [stepG_region_end]
  simp only [goes_go]
  refine ⟨fun e he => by simp at he, ?_⟩
  refine Goes.step rfl (fun _ h₁ => ?_)
  obtain ⟨_, rfl⟩ := h₁
  rw [stepG_cond (t := false) rfl]
  simp only [goes_go, Bool.false_eq_true, ↓reduceIte]
  refine ⟨fun e he => by simp at he, ?_⟩
  refine Goes.step rfl (fun _ h₁ => ?_)
  obtain ⟨_, rfl⟩ := h₁
  rw [stepG_region]
  simp only [goes_go, List.size_toArray, List.length_cons, List.length_nil, Nat.reduceAdd, Nat.zero_add, List.range, List.range.loop]
  refine ⟨fun e he => by simp at he, ?_⟩
  refine Goes.step rfl (fun _ h₁ => ?_)
  obtain ⟨_, rfl⟩ := h₁
  refine goes_oper_k rfl rfl (by decide) (fun K1 hK1 => ?_)
  go_simp
  try (unfold stored; go_simp)
  refine hK1 _ _ ⟨?_, ?_⟩
  · intro e he
    have hm := mem_listed he
    simp [go_sem, *] at hm
    try (rcases hm with rfl | rfl | rfl <;> exact .inl (evP _ _ (by first | exact nS | exact n2 | exact n3 | exact hn0 | exact hn1 | exact hn2 | exact hn3 | exact hn4 | exact hn5)))
    try (subst hm; exact .inl (evP _ _ (by first | exact nS | exact n2 | exact n3 | exact hn0 | exact hn1 | exact hn2 | exact hn3 | exact hn4 | exact hn5)))
  clear hK1 K1
  try walk_nrm
  refine Goes.step rfl (fun _ h₁ => ?_)
  obtain ⟨_, rfl⟩ := h₁
  refine goes_oper_k rfl rfl (by decide) (fun K1 hK1 => ?_)
  go_simp
  try (unfold stored; go_simp)
  refine hK1 _ _ ⟨?_, ?_⟩
  · intro e he
    have hm := mem_listed he
    simp [go_sem, *] at hm
    try (rcases hm with rfl | rfl | rfl <;> exact .inl (evP _ _ (by first | exact nS | exact n2 | exact n3 | exact hn0 | exact hn1 | exact hn2 | exact hn3 | exact hn4 | exact hn5)))
    try (subst hm; exact .inl (evP _ _ (by first | exact nS | exact n2 | exact n3 | exact hn0 | exact hn1 | exact hn2 | exact hn3 | exact hn4 | exact hn5)))
  clear hK1 K1
  try walk_nrm
  refine Goes.step rfl (fun _ h₁ => ?_)
  obtain ⟨_, rfl⟩ := h₁
  rw [stepG_region_end]
  simp only [goes_go]
  refine ⟨fun e he => by simp at he, ?_⟩
  obtain ⟨Z, hZ2⟩ : ∃ Z, Z = ((V.setCell ⟨X.heap.size + 2, 0, none⟩ (.bool false)).setCell ⟨X.heap.size + 2, 1, none⟩ (.bool e1)).setCell ⟨X.heap.size + 2, 2, none⟩ (.bool c1) := ⟨_, rfl⟩
  replace hZ := hZ.set4 hn (.bool false) (.bool e1) (.bool c1)
  rw [← hZ2] at hZ ⊢
  clear u0 fu0 u1 fu1 u2 fu2
  clear q0 fq0 q1 fq1 q2 fq2
  clear hZ2 hN V
  refine Goes.step rfl (fun _ h₁ => ?_)
  obtain ⟨_, rfl⟩ := h₁
  rw [stepG_inBlock]
  simp only [goes_go]
  refine ⟨fun e he => by simp at he, ?_⟩
  refine Goes.step rfl (fun _ h₁ => ?_)
  obtain ⟨_, rfl⟩ := h₁
  rw [stepG_inLoop]
  simp only [goes_go]
  refine ⟨fun e he => by simp at he, ?_⟩
  refine Goes.step rfl (fun _ h₁ => ?_)
  obtain ⟨_, rfl⟩ := h₁
  rw [stepG_seq]
  simp only [goes_go]
  refine ⟨fun e he => by simp at he, ?_⟩
  refine Goes.step rfl (fun _ h₁ => ?_)
  obtain ⟨_, rfl⟩ := h₁
  rw [stepG_region]
  simp only [goes_go, List.size_toArray, List.length_cons, List.length_nil, Nat.reduceAdd, Nat.zero_add, List.range, List.range.loop]
  refine ⟨fun e he => by simp at he, ?_⟩
  refine Goes.stop (fun _ h₁ => ?_)
  obtain ⟨_, rfl⟩ := h₁
  refine ⟨rfl, fun d => ?_, hZ.chn, fun d => ?_⟩
  · rw [stepG_comm (o := { dst := some 8, op := .recv _ (.tmp 7) true, type := _, pos := _, after := _, guard := none }) rfl rfl (by decide) rfl, listed_nil (by rfl)]
    rfl
  rw [served_at]
  walk_nrm
  refine (?_ : Goes _ _ _ _ _ _ _ (World.at (World.setChan Z (w.heap.size + 4) 2 #[] true 2 2 false) d))
  obtain ⟨Z1, hZ1⟩ : ∃ Z1, Z1 = Z.setChan (w.heap.size + 4) 2 #[] true 2 2 false := ⟨_, rfl⟩
  rw [← hZ1]
  replace hZ := hZ.recv hn #[] 2
  rw [← hZ1] at hZ
  clear hZ1 Z
  have z1 : Z1.heap.size = X.heap.size + 5 := hZ.size
  refine Goes.step rfl (fun _ h₁ => ?_)
  obtain ⟨_, rfl⟩ := h₁
  refine goes_oper_k rfl rfl (by decide) (fun K1 hK1 => ?_)
  go_simp
  try (unfold stored; go_simp)
  refine hK1 _ _ ⟨?_, ?_⟩
  · intro e he
    have hm := mem_listed he
    simp [go_sem, *] at hm
    try (rcases hm with rfl | rfl | rfl <;> exact .inl (evP _ _ (by first | exact nS | exact n2 | exact n3 | exact hn0 | exact hn1 | exact hn2 | exact hn3 | exact hn4 | exact hn5)))
    try (subst hm; exact .inl (evP _ _ (by first | exact nS | exact n2 | exact n3 | exact hn0 | exact hn1 | exact hn2 | exact hn3 | exact hn4 | exact hn5)))
  clear hK1 K1
  try walk_nrm
  refine Goes.step rfl (fun _ h₁ => ?_)
  obtain ⟨_, rfl⟩ := h₁
  rw [stepG_region_end]
  simp only [goes_go]
  refine ⟨fun e he => by simp at he, ?_⟩
  refine Goes.step rfl (fun _ h₁ => ?_)
  obtain ⟨_, rfl⟩ := h₁
  rw [stepG_seq]
  simp only [goes_go]
  refine ⟨fun e he => by simp at he, ?_⟩
  refine Goes.step rfl (fun _ h₁ => ?_)
  obtain ⟨_, rfl⟩ := h₁
  rw [stepG_cond (t := true) rfl]
  simp only [goes_go, ↓reduceIte]
  refine ⟨fun e he => by simp at he, ?_⟩
  refine Goes.step rfl (fun _ h₁ => ?_)
  obtain ⟨_, rfl⟩ := h₁
  rw [stepG_skip]
  simp only [goes_go]
  refine ⟨fun e he => by simp at he, ?_⟩
  refine Goes.step rfl (fun _ h₁ => ?_)
  obtain ⟨_, rfl⟩ := h₁
  rw [stepG_block]
  simp only [goes_go]
  refine ⟨fun e he => by simp at he, ?_⟩
  refine Goes.step rfl (fun _ h₁ => ?_)
  obtain ⟨_, rfl⟩ := h₁
  rw [stepG_seq]
  simp only [goes_go]
  refine ⟨fun e he => by simp at he, ?_⟩
  refine Goes.step rfl (fun _ h₁ => ?_)
  obtain ⟨_, rfl⟩ := h₁
  rw [stepG_region]
  simp only [goes_go, List.size_toArray, List.length_cons, List.length_nil, Nat.reduceAdd, Nat.zero_add, List.range, List.range.loop]
  refine ⟨fun e he => by simp at he, ?_⟩
  refine Goes.step rfl (fun _ h₁ => ?_)
  obtain ⟨_, rfl⟩ := h₁
  refine goes_oper_k rfl rfl (by decide) (fun K1 hK1 => ?_)
  go_simp
  try (unfold stored; go_simp)
  refine hK1 _ _ ⟨?_, ?_⟩
  · intro e he
    have hm := mem_listed he
    simp [go_sem, *] at hm
    try (rcases hm with rfl | rfl | rfl <;> exact .inl (evP _ _ (by first | exact nS | exact n2 | exact n3 | exact hn0 | exact hn1 | exact hn2 | exact hn3 | exact hn4 | exact hn5)))
    try (subst hm; exact .inl (evP _ _ (by first | exact nS | exact n2 | exact n3 | exact hn0 | exact hn1 | exact hn2 | exact hn3 | exact hn4 | exact hn5)))
  clear hK1 K1
  try walk_nrm
  refine Goes.step rfl (fun _ h₁ => ?_)
  obtain ⟨_, rfl⟩ := h₁
  refine goes_oper_k rfl rfl (by decide) (fun K1 hK1 => ?_)
  go_simp
  try (unfold stored; go_simp)
  refine hK1 _ _ ⟨?_, ?_⟩
  · intro e he
    have hm := mem_listed he
    simp [go_sem, *] at hm
    try (rcases hm with rfl | rfl | rfl <;> exact .inl (evP _ _ (by first | exact nS | exact n2 | exact n3 | exact hn0 | exact hn1 | exact hn2 | exact hn3 | exact hn4 | exact hn5)))
    try (subst hm; exact .inl (evP _ _ (by first | exact nS | exact n2 | exact n3 | exact hn0 | exact hn1 | exact hn2 | exact hn3 | exact hn4 | exact hn5)))
  clear hK1 K1
  try walk_nrm
  refine Goes.step rfl (fun _ h₁ => ?_)
  obtain ⟨_, rfl⟩ := h₁
  refine goes_oper_k rfl rfl (by decide) (fun K1 hK1 => ?_)
  go_simp
  try (unfold stored; go_simp)
  refine hK1 _ _ ⟨?_, ?_⟩
  · intro e he
    have hm := mem_listed he
    simp [go_sem, *] at hm
    try (rcases hm with rfl | rfl | rfl <;> exact .inl (evP _ _ (by first | exact nS | exact n2 | exact n3 | exact hn0 | exact hn1 | exact hn2 | exact hn3 | exact hn4 | exact hn5)))
    try (subst hm; exact .inl (evP _ _ (by first | exact nS | exact n2 | exact n3 | exact hn0 | exact hn1 | exact hn2 | exact hn3 | exact hn4 | exact hn5)))
  clear hK1 K1
  try walk_nrm
  refine Goes.step rfl (fun _ h₁ => ?_)
  obtain ⟨_, rfl⟩ := h₁
  rw [stepG_region_end]
  simp only [goes_go]
  refine ⟨fun e he => by simp at he, ?_⟩
  obtain ⟨V, hV⟩ : ∃ V, V = Z1.alloc (.cells #[.bool true, .bool e2, .bool c2] 35) := ⟨_, rfl⟩
  have hN : RowF V (X.heap.size + 5) [.bool true, .bool e2, .bool c2] := by rw [hV, ← z1]; exact rowF_new Z1 _ _
  replace hZ := hZ.alloc hn (.cells #[.bool true, .bool e2, .bool c2] 35)
  rw [← hV] at hZ ⊢
  clear hV z1 Z1
  have u0 := (hN.2 0 (by simp)).1
  have u1 := (hN.2 1 (by simp)).1
  have u2 := (hN.2 2 (by simp)).1
  have fu0 := (hN.2 0 (by simp)).2
  have fu1 := (hN.2 1 (by simp)).2
  have fu2 := (hN.2 2 (by simp)).2
  simp only [List.getElem_cons_zero, List.getElem_cons_succ] at u0 u1 u2
  have q0 := (hZ.s5.2 0 (by simp)).1
  have q1 := (hZ.s5.2 1 (by simp)).1
  have q2 := (hZ.s5.2 2 (by simp)).1
  have fq0 := (hZ.s5.2 0 (by simp)).2
  have fq1 := (hZ.s5.2 1 (by simp)).2
  have fq2 := (hZ.s5.2 2 (by simp)).2
  simp only [List.getElem_cons_zero, List.getElem_cons_succ] at q0 q1 q2
  refine Goes.step rfl (fun _ h₁ => ?_)
  obtain ⟨_, rfl⟩ := h₁
  rw [stepG_seq]
  simp only [goes_go]
  refine ⟨fun e he => by simp at he, ?_⟩
  refine Goes.step rfl (fun _ h₁ => ?_)
  obtain ⟨_, rfl⟩ := h₁
  rw [stepG_region]
  simp only [goes_go, List.size_toArray, List.length_cons, List.length_nil, Nat.reduceAdd, Nat.zero_add, List.range, List.range.loop]
  refine ⟨fun e he => by simp at he, ?_⟩
  refine Goes.step rfl (fun _ h₁ => ?_)
  obtain ⟨_, rfl⟩ := h₁
  refine goes_oper_k rfl rfl (by decide) (fun K1 hK1 => ?_)
  go_simp
  try (unfold stored; go_simp)
  refine hK1 _ _ ⟨?_, ?_⟩
  · intro e he
    have hm := mem_listed he
    simp [go_sem, *] at hm
    try (rcases hm with rfl | rfl | rfl <;> exact .inl (evP _ _ (by first | exact nS | exact n2 | exact n3 | exact hn0 | exact hn1 | exact hn2 | exact hn3 | exact hn4 | exact hn5)))
    try (subst hm; exact .inl (evP _ _ (by first | exact nS | exact n2 | exact n3 | exact hn0 | exact hn1 | exact hn2 | exact hn3 | exact hn4 | exact hn5)))
  clear hK1 K1
  try walk_nrm
  refine Goes.step rfl (fun _ h₁ => ?_)
  obtain ⟨_, rfl⟩ := h₁
  refine goes_oper_k rfl rfl (by decide) (fun K1 hK1 => ?_)
  go_simp
  try (unfold stored; go_simp)
  refine hK1 _ _ ⟨?_, ?_⟩
  · intro e he
    have hm := mem_listed he
    simp [go_sem, *] at hm
    try (rcases hm with rfl | rfl | rfl <;> exact .inl (evP _ _ (by first | exact nS | exact n2 | exact n3 | exact hn0 | exact hn1 | exact hn2 | exact hn3 | exact hn4 | exact hn5)))
    try (subst hm; exact .inl (evP _ _ (by first | exact nS | exact n2 | exact n3 | exact hn0 | exact hn1 | exact hn2 | exact hn3 | exact hn4 | exact hn5)))
  clear hK1 K1
  try walk_nrm
  refine Goes.step rfl (fun _ h₁ => ?_)
  obtain ⟨_, rfl⟩ := h₁
  rw [stepG_region_end]
  simp only [goes_go]
  refine ⟨fun e he => by simp at he, ?_⟩
  refine Goes.step rfl (fun _ h₁ => ?_)
  obtain ⟨_, rfl⟩ := h₁
  rw [stepG_cond (t := true) rfl]
  simp only [goes_go, ↓reduceIte]
  refine ⟨fun e he => by simp at he, ?_⟩
  refine Goes.step rfl (fun _ h₁ => ?_)
  obtain ⟨_, rfl⟩ := h₁
  rw [stepG_region]
  simp only [goes_go, List.size_toArray, List.length_cons, List.length_nil, Nat.reduceAdd, Nat.zero_add, List.range, List.range.loop]
  refine ⟨fun e he => by simp at he, ?_⟩
  refine Goes.step rfl (fun _ h₁ => ?_)
  obtain ⟨_, rfl⟩ := h₁
  refine goes_oper_k rfl rfl (by decide) (fun K1 hK1 => ?_)
  go_simp
  try (unfold stored; go_simp)
  refine hK1 _ _ ⟨?_, ?_⟩
  · intro e he
    have hm := mem_listed he
    simp [go_sem, *] at hm
    try (rcases hm with rfl | rfl | rfl <;> exact .inl (evP _ _ (by first | exact nS | exact n2 | exact n3 | exact hn0 | exact hn1 | exact hn2 | exact hn3 | exact hn4 | exact hn5)))
    try (subst hm; exact .inl (evP _ _ (by first | exact nS | exact n2 | exact n3 | exact hn0 | exact hn1 | exact hn2 | exact hn3 | exact hn4 | exact hn5)))
  clear hK1 K1
  try walk_nrm
  refine Goes.step rfl (fun _ h₁ => ?_)
  obtain ⟨_, rfl⟩ := h₁
  refine goes_oper_k rfl rfl (by decide) (fun K1 hK1 => ?_)
  go_simp
  try (unfold stored; go_simp)
  refine hK1 _ _ ⟨?_, ?_⟩
  · intro e he
    have hm := mem_listed he
    simp [go_sem, *] at hm
    try (rcases hm with rfl | rfl | rfl <;> exact .inl (evP _ _ (by first | exact nS | exact n2 | exact n3 | exact hn0 | exact hn1 | exact hn2 | exact hn3 | exact hn4 | exact hn5)))
    try (subst hm; exact .inl (evP _ _ (by first | exact nS | exact n2 | exact n3 | exact hn0 | exact hn1 | exact hn2 | exact hn3 | exact hn4 | exact hn5)))
  clear hK1 K1
  try walk_nrm
  refine Goes.step rfl (fun _ h₁ => ?_)
  obtain ⟨_, rfl⟩ := h₁
  rw [stepG_region_end]
  simp only [goes_go]
  refine ⟨fun e he => by simp at he, ?_⟩
  obtain ⟨Z, hZ2⟩ : ∃ Z, Z = ((V.setCell ⟨X.heap.size + 3, 0, none⟩ (.bool true)).setCell ⟨X.heap.size + 3, 1, none⟩ (.bool e2)).setCell ⟨X.heap.size + 3, 2, none⟩ (.bool c2) := ⟨_, rfl⟩
  replace hZ := hZ.set5 hn (.bool true) (.bool e2) (.bool c2)
  rw [← hZ2] at hZ ⊢
  clear u0 fu0 u1 fu1 u2 fu2
  clear q0 fq0 q1 fq1 q2 fq2
  clear hZ2 hN V
  refine Goes.step rfl (fun _ h₁ => ?_)
  obtain ⟨_, rfl⟩ := h₁
  rw [stepG_inBlock]
  simp only [goes_go]
  refine ⟨fun e he => by simp at he, ?_⟩
  refine Goes.step rfl (fun _ h₁ => ?_)
  obtain ⟨_, rfl⟩ := h₁
  rw [stepG_inLoop]
  simp only [goes_go]
  refine ⟨fun e he => by simp at he, ?_⟩
  refine Goes.step rfl (fun _ h₁ => ?_)
  obtain ⟨_, rfl⟩ := h₁
  rw [stepG_seq]
  simp only [goes_go]
  refine ⟨fun e he => by simp at he, ?_⟩
  refine Goes.step rfl (fun _ h₁ => ?_)
  obtain ⟨_, rfl⟩ := h₁
  rw [stepG_region]
  simp only [goes_go, List.size_toArray, List.length_cons, List.length_nil, Nat.reduceAdd, Nat.zero_add, List.range, List.range.loop]
  refine ⟨fun e he => by simp at he, ?_⟩
  refine Goes.stop (fun _ h₁ => ?_)
  obtain ⟨_, rfl⟩ := h₁
  refine ⟨rfl, fun d => ?_, hZ.chn, fun d => ?_⟩
  · rw [stepG_comm (o := { dst := some 8, op := .recv _ (.tmp 7) true, type := _, pos := _, after := _, guard := none }) rfl rfl (by decide) rfl, listed_nil (by rfl)]
    rfl
  rw [served_at]
  walk_nrm
  refine (?_ : Goes _ _ _ _ _ _ _ (World.at Z d))
  refine Goes.step rfl (fun _ h₁ => ?_)
  obtain ⟨_, rfl⟩ := h₁
  refine goes_oper_k rfl rfl (by decide) (fun K1 hK1 => ?_)
  go_simp
  try (unfold stored; go_simp)
  refine hK1 _ _ ⟨?_, ?_⟩
  · intro e he
    have hm := mem_listed he
    simp [go_sem, *] at hm
    try (rcases hm with rfl | rfl | rfl <;> exact .inl (evP _ _ (by first | exact nS | exact n2 | exact n3 | exact hn0 | exact hn1 | exact hn2 | exact hn3 | exact hn4 | exact hn5)))
    try (subst hm; exact .inl (evP _ _ (by first | exact nS | exact n2 | exact n3 | exact hn0 | exact hn1 | exact hn2 | exact hn3 | exact hn4 | exact hn5)))
  clear hK1 K1
  try walk_nrm
  refine Goes.step rfl (fun _ h₁ => ?_)
  obtain ⟨_, rfl⟩ := h₁
  rw [stepG_region_end]
  simp only [goes_go]
  refine ⟨fun e he => by simp at he, ?_⟩
  refine Goes.step rfl (fun _ h₁ => ?_)
  obtain ⟨_, rfl⟩ := h₁
  rw [stepG_seq]
  simp only [goes_go]
  refine ⟨fun e he => by simp at he, ?_⟩
  refine Goes.step rfl (fun _ h₁ => ?_)
  obtain ⟨_, rfl⟩ := h₁
  rw [stepG_cond (t := false) rfl]
  simp only [goes_go, Bool.false_eq_true, ↓reduceIte]
  refine ⟨fun e he => by simp at he, ?_⟩
  refine Goes.step rfl (fun _ h₁ => ?_)
  obtain ⟨_, rfl⟩ := h₁
  rw [stepG_exit (k' := _) rfl]
  simp only [goes_go]
  refine ⟨fun e he => by simp at he, ?_⟩
  refine Goes.step rfl (fun _ h₁ => ?_)
  obtain ⟨_, rfl⟩ := h₁
  rw [stepG_seq]
  simp only [goes_go]
  refine ⟨fun e he => by simp at he, ?_⟩
  refine Goes.step rfl (fun _ h₁ => ?_)
  obtain ⟨_, rfl⟩ := h₁
  rw [stepG_region_draw]
  refine ⟨fun e he => by simp at he, ?_⟩
  generalize hs : Region.schedule _ _ _ = sc
  have hsc : sc = [0, 1, 2, 3] ∨ sc = [0, 2, 1, 3] ∨ sc = [1, 0, 2, 3] := by rw [← hs]; exact sched25 _
  clear hs
  refine (?_ : Goes _ _ _ _ _ _ _ (World.at Z _))
  have zc : RowF Z (w.heap.size + 2) [k0, k1, k2] := rowF_old hC (by rw [hZ.size]; omega) (hZ.old _ (by omega) (by omega))
  have zd : RowF Z (w.heap.size + 3) [.bool false, .bool false, .bool false] := rowF_old hD (by rw [hZ.size]; omega) (hZ.old _ (by omega) (by omega))
  have q0 := (hZ.s2.2 0 (by simp)).1
  have q1 := (hZ.s2.2 1 (by simp)).1
  have q2 := (hZ.s2.2 2 (by simp)).1
  have fq0 := (hZ.s2.2 0 (by simp)).2
  have fq1 := (hZ.s2.2 1 (by simp)).2
  have fq2 := (hZ.s2.2 2 (by simp)).2
  simp only [List.getElem_cons_zero, List.getElem_cons_succ] at q0 q1 q2
  have u0 := (hZ.s3.2 0 (by simp)).1
  have u1 := (hZ.s3.2 1 (by simp)).1
  have u2 := (hZ.s3.2 2 (by simp)).1
  have fu0 := (hZ.s3.2 0 (by simp)).2
  have fu1 := (hZ.s3.2 1 (by simp)).2
  have fu2 := (hZ.s3.2 2 (by simp)).2
  simp only [List.getElem_cons_zero, List.getElem_cons_succ] at u0 u1 u2
  have i0 := (hZ.s4.2 0 (by simp)).1
  have i1 := (hZ.s4.2 1 (by simp)).1
  have i2 := (hZ.s4.2 2 (by simp)).1
  have fi0 := (hZ.s4.2 0 (by simp)).2
  have fi1 := (hZ.s4.2 1 (by simp)).2
  have fi2 := (hZ.s4.2 2 (by simp)).2
  simp only [List.getElem_cons_zero, List.getElem_cons_succ] at i0 i1 i2
  have j0 := (hZ.s5.2 0 (by simp)).1
  have j1 := (hZ.s5.2 1 (by simp)).1
  have j2 := (hZ.s5.2 2 (by simp)).1
  have fj0 := (hZ.s5.2 0 (by simp)).2
  have fj1 := (hZ.s5.2 1 (by simp)).2
  have fj2 := (hZ.s5.2 2 (by simp)).2
  simp only [List.getElem_cons_zero, List.getElem_cons_succ] at j0 j1 j2
  rcases hsc with rfl | rfl | rfl
  all_goals
    refine Goes.step rfl (fun _ h₁ => ?_)
    obtain ⟨_, rfl⟩ := h₁
    refine goes_oper_k rfl rfl (by decide) (fun K1 hK1 => ?_)
    go_simp
    try (unfold stored; go_simp)
    refine hK1 _ _ ⟨?_, ?_⟩
    · intro e he
      have hm := mem_listed he
      simp [go_sem, *] at hm
      try (rcases hm with rfl | rfl | rfl <;> exact .inl (evP _ _ (by first | exact nS | exact n2 | exact n3 | exact hn0 | exact hn1 | exact hn2 | exact hn3 | exact hn4 | exact hn5)))
      try (subst hm; exact .inl (evP _ _ (by first | exact nS | exact n2 | exact n3 | exact hn0 | exact hn1 | exact hn2 | exact hn3 | exact hn4 | exact hn5)))
    clear hK1 K1
    try walk_nrm
    refine Goes.step rfl (fun _ h₁ => ?_)
    obtain ⟨_, rfl⟩ := h₁
    refine goes_oper_k rfl rfl (by decide) (fun K1 hK1 => ?_)
    go_simp
    try (unfold stored; go_simp)
    refine hK1 _ _ ⟨?_, ?_⟩
    · intro e he
      have hm := mem_listed he
      simp [go_sem, *] at hm
      try (rcases hm with rfl | rfl | rfl <;> exact .inl (evP _ _ (by first | exact nS | exact n2 | exact n3 | exact hn0 | exact hn1 | exact hn2 | exact hn3 | exact hn4 | exact hn5)))
      try (subst hm; exact .inl (evP _ _ (by first | exact nS | exact n2 | exact n3 | exact hn0 | exact hn1 | exact hn2 | exact hn3 | exact hn4 | exact hn5)))
    clear hK1 K1
    try walk_nrm
    refine Goes.step rfl (fun _ h₁ => ?_)
    obtain ⟨_, rfl⟩ := h₁
    refine goes_oper_k rfl rfl (by decide) (fun K1 hK1 => ?_)
    go_simp
    try (unfold stored; go_simp)
    refine hK1 _ _ ⟨?_, ?_⟩
    · intro e he
      have hm := mem_listed he
      simp [go_sem, *] at hm
      try (rcases hm with rfl | rfl | rfl <;> exact .inl (evP _ _ (by first | exact nS | exact n2 | exact n3 | exact hn0 | exact hn1 | exact hn2 | exact hn3 | exact hn4 | exact hn5)))
      try (subst hm; exact .inl (evP _ _ (by first | exact nS | exact n2 | exact n3 | exact hn0 | exact hn1 | exact hn2 | exact hn3 | exact hn4 | exact hn5)))
    clear hK1 K1
    try walk_nrm
    refine Goes.step rfl (fun _ h₁ => ?_)
    obtain ⟨_, rfl⟩ := h₁
    refine goes_oper_k rfl rfl (by decide) (fun K1 hK1 => ?_)
    go_simp
    try (unfold stored; go_simp)
    refine hK1 _ _ ⟨?_, ?_⟩
    · intro e he
      have hm := mem_listed he
      simp [go_sem, *] at hm
      try (rcases hm with rfl | rfl | rfl <;> exact .inl (evP _ _ (by first | exact nS | exact n2 | exact n3 | exact hn0 | exact hn1 | exact hn2 | exact hn3 | exact hn4 | exact hn5)))
      try (subst hm; exact .inl (evP _ _ (by first | exact nS | exact n2 | exact n3 | exact hn0 | exact hn1 | exact hn2 | exact hn3 | exact hn4 | exact hn5)))
    clear hK1 K1
    try walk_nrm
    refine Goes.step rfl (fun _ h₁ => ?_)
    obtain ⟨_, rfl⟩ := h₁
    rw [stepG_region_end]
    simp only [goes_go]
    refine ⟨fun e he => by simp at he, ?_⟩
    refine Goes.step rfl (fun _ h₁ => ?_)
    obtain ⟨_, rfl⟩ := h₁
    rw [stepG_ret']
    simp only [goes_go]
    refine ⟨fun e he => by simp at he, ?_⟩
    obtain ⟨V, hV⟩ : ∃ V, V = ((((((Z.setCell ⟨X.heap.size, 0, none⟩ (.bool false)).setCell ⟨X.heap.size, 1, none⟩ (.bool e1)).setCell ⟨X.heap.size, 2, none⟩ (.bool c1)).setCell ⟨X.heap.size + 1, 0, none⟩ (.bool true)).setCell ⟨X.heap.size + 1, 1, none⟩ (.bool e2)).setCell ⟨X.heap.size + 1, 2, none⟩ (.bool c2)) := ⟨_, rfl⟩
    have v2 : RowF V X.heap.size [.bool false, .bool e1, .bool c1] := by rw [hV]; exact rowF_set3_ne (rowF_set3 hZ.s2 _ _ _) _ _ _ (by omega)
    have v3 : RowF V (X.heap.size + 1) [.bool true, .bool e2, .bool c2] := by rw [hV]; exact rowF_set3 (rowF_set3_ne hZ.s3 _ _ _ (by omega)) _ _ _
    have v4 : RowF V (w.heap.size + 2) [k0, k1, k2] := by rw [hV]; exact rowF_set3_ne (rowF_set3_ne zc _ _ _ (by omega)) _ _ _ (by omega)
    have v5 : RowF V (w.heap.size + 3) [.bool false, .bool false, .bool false] := by rw [hV]; exact rowF_set3_ne (rowF_set3_ne zd _ _ _ (by omega)) _ _ _ (by omega)
    have vz : Hid (V.heap.size = X.heap.size + 6) := by rw [hV, set3_size, set3_size]; exact hZ.size
    have vo : Hid (∀ b, b < X.heap.size → b ≠ w.heap.size + 4 → V.heap[b]? = X.heap[b]?) := by
      rw [hV]
      exact fun b hb hne => (set3_ne _ _ _ _ _ _ (by omega)).trans ((set3_ne _ _ _ _ _ _ (by omega)).trans (hZ.old b hb hne))
    have vs : Hid (V.os = X.os ∧ V.tape = X.tape ∧ V.output = X.output) := by
      have a := set3_str Z X.heap.size (.bool false) (.bool e1) (.bool c1)
      have b := set3_str (((Z.setCell ⟨X.heap.size, 0, none⟩ (.bool false)).setCell ⟨X.heap.size, 1, none⟩ (.bool e1)).setCell ⟨X.heap.size, 2, none⟩ (.bool c1)) (X.heap.size + 1) (.bool true) (.bool e2) (.bool c2)
      rw [hV]
      exact ⟨b.1.trans (a.1.trans hZ.str.1), b.2.1.trans (a.2.1.trans hZ.str.2.1), b.2.2.trans (a.2.2.trans hZ.str.2.2)⟩
    rw [← hV]
    clear hV
    clear q0 fq0 q1 fq1 q2 fq2
    clear u0 fu0 u1 fu1 u2 fu2
    clear i0 fi0 i1 fi1 i2 fi2
    clear j0 fj0 j1 fj1 j2 fj2
    clear zc zd hZ Z
    have q0 := (v2.2 0 (by simp)).1
    have q1 := (v2.2 1 (by simp)).1
    have q2 := (v2.2 2 (by simp)).1
    have fq0 := (v2.2 0 (by simp)).2
    have fq1 := (v2.2 1 (by simp)).2
    have fq2 := (v2.2 2 (by simp)).2
    simp only [List.getElem_cons_zero, List.getElem_cons_succ] at q0 q1 q2
    have u0 := (v3.2 0 (by simp)).1
    have u1 := (v3.2 1 (by simp)).1
    have u2 := (v3.2 2 (by simp)).1
    have fu0 := (v3.2 0 (by simp)).2
    have fu1 := (v3.2 1 (by simp)).2
    have fu2 := (v3.2 2 (by simp)).2
    simp only [List.getElem_cons_zero, List.getElem_cons_succ] at u0 u1 u2
    have i0 := (v4.2 0 (by simp)).1
    have i1 := (v4.2 1 (by simp)).1
    have i2 := (v4.2 2 (by simp)).1
    have fi0 := (v4.2 0 (by simp)).2
    have fi1 := (v4.2 1 (by simp)).2
    have fi2 := (v4.2 2 (by simp)).2
    simp only [List.getElem_cons_zero, List.getElem_cons_succ] at i0 i1 i2
    have j0 := (v5.2 0 (by simp)).1
    have j1 := (v5.2 1 (by simp)).1
    have j2 := (v5.2 2 (by simp)).1
    have fj0 := (v5.2 0 (by simp)).2
    have fj1 := (v5.2 1 (by simp)).2
    have fj2 := (v5.2 2 (by simp)).2
    simp only [List.getElem_cons_zero, List.getElem_cons_succ] at j0 j1 j2
    have w4 : Hid (RowF V (w.heap.size + 2) [k0, k1, k2]) := v4
    have w5 : Hid (RowF V (w.heap.size + 3) [.bool false, .bool false, .bool false]) := v5
    clear v2 v3 v4 v5 hC hD hnb
    refine Goes.step rfl (fun _ h₁ => ?_)
    obtain ⟨_, rfl⟩ := h₁
    rw [stepG_leaveM (v := .tuple #[.agg #[.bool false, .bool e1, .bool c1], .agg #[.bool true, .bool e2, .bool c2]]) rfl rfl Try.func25 (by simp [results, Try.results25, go_sem, A1, q0, q1, q2, u0, u1, u2])]
    simp only [goes_go]
    refine ⟨?_, ?_⟩
    · intro e he
      have hm := mem_seen he
      simp [results, Try.results25, go_sem, A1, q0, q1, q2, u0, u1, u2] at hm
      rcases hm with rfl | rfl | rfl | rfl | rfl | rfl <;> exact .inl (evP _ _ (by first | exact nS | exact n2 | exact n3 | exact hn0 | exact hn1 | exact hn2 | exact hn3 | exact hn4 | exact hn5))
    rw [Frame.finish_at]
    walk_nrm
    refine Goes.step rfl (fun _ h₁ => ?_)
    obtain ⟨_, rfl⟩ := h₁
    refine goes_oper_k rfl rfl (by decide) (fun K1 hK1 => ?_)
    go_simp
    try (unfold stored; go_simp)
    refine hK1 _ _ ⟨?_, ?_⟩
    · intro e he
      have hm := mem_listed he
      simp [go_sem, *] at hm
      try (rcases hm with rfl | rfl | rfl <;> exact .inl (evP _ _ (by first | exact nS | exact n2 | exact n3 | exact hn0 | exact hn1 | exact hn2 | exact hn3 | exact hn4 | exact hn5)))
      try (subst hm; exact .inl (evP _ _ (by first | exact nS | exact n2 | exact n3 | exact hn0 | exact hn1 | exact hn2 | exact hn3 | exact hn4 | exact hn5)))
    clear hK1 K1
    try walk_nrm
    refine Goes.step rfl (fun _ h₁ => ?_)
    obtain ⟨_, rfl⟩ := h₁
    refine goes_oper_k rfl rfl (by decide) (fun K1 hK1 => ?_)
    go_simp
    try (unfold stored; go_simp)
    refine hK1 _ _ ⟨?_, ?_⟩
    · intro e he
      have hm := mem_listed he
      simp [go_sem, *] at hm
      try (rcases hm with rfl | rfl | rfl <;> exact .inl (evP _ _ (by first | exact nS | exact n2 | exact n3 | exact hn0 | exact hn1 | exact hn2 | exact hn3 | exact hn4 | exact hn5)))
      try (subst hm; exact .inl (evP _ _ (by first | exact nS | exact n2 | exact n3 | exact hn0 | exact hn1 | exact hn2 | exact hn3 | exact hn4 | exact hn5)))
    clear hK1 K1
    try walk_nrm
    refine Goes.step rfl (fun _ h₁ => ?_)
    obtain ⟨_, rfl⟩ := h₁
    refine goes_oper_k rfl rfl (by decide) (fun K1 hK1 => ?_)
    go_simp
    try (unfold stored; go_simp)
    refine hK1 _ _ ⟨?_, ?_⟩
    · intro e he
      have hm := mem_listed he
      simp [go_sem, *] at hm
      try (rcases hm with rfl | rfl | rfl <;> exact .inl (evP _ _ (by first | exact nS | exact n2 | exact n3 | exact hn0 | exact hn1 | exact hn2 | exact hn3 | exact hn4 | exact hn5)))
      try (subst hm; exact .inl (evP _ _ (by first | exact nS | exact n2 | exact n3 | exact hn0 | exact hn1 | exact hn2 | exact hn3 | exact hn4 | exact hn5)))
    clear hK1 K1
    try walk_nrm
    refine Goes.step rfl (fun _ h₁ => ?_)
    obtain ⟨_, rfl⟩ := h₁
    refine goes_oper_k rfl rfl (by decide) (fun K1 hK1 => ?_)
    go_simp
    try (unfold stored; go_simp)
    refine hK1 _ _ ⟨?_, ?_⟩
    · intro e he
      have hm := mem_listed he
      simp [go_sem, *] at hm
      try (rcases hm with rfl | rfl | rfl <;> exact .inl (evP _ _ (by first | exact nS | exact n2 | exact n3 | exact hn0 | exact hn1 | exact hn2 | exact hn3 | exact hn4 | exact hn5)))
      try (subst hm; exact .inl (evP _ _ (by first | exact nS | exact n2 | exact n3 | exact hn0 | exact hn1 | exact hn2 | exact hn3 | exact hn4 | exact hn5)))
    clear hK1 K1
    try walk_nrm
    refine Goes.step rfl (fun _ h₁ => ?_)
    obtain ⟨_, rfl⟩ := h₁
    rw [stepG_region_end]
    simp only [goes_go]
    refine ⟨fun e he => by simp at he, ?_⟩
    refine Goes.step rfl (fun _ h₁ => ?_)
    obtain ⟨_, rfl⟩ := h₁
    rw [stepG_ret']
    simp only [goes_go]
    refine ⟨fun e he => by simp at he, ?_⟩
    obtain ⟨U, hU⟩ : ∃ U, U = ((((((V.setCell ⟨w.heap.size + 2, 0, none⟩ (.bool false)).setCell ⟨w.heap.size + 2, 1, none⟩ (.bool e1)).setCell ⟨w.heap.size + 2, 2, none⟩ (.bool c1)).setCell ⟨w.heap.size + 3, 0, none⟩ (.bool true)).setCell ⟨w.heap.size + 3, 1, none⟩ (.bool e2)).setCell ⟨w.heap.size + 3, 2, none⟩ (.bool c2)) := ⟨_, rfl⟩
    have v4 : RowF U (w.heap.size + 2) [.bool false, .bool e1, .bool c1] := by rw [hU]; exact rowF_set3_ne (rowF_set3 w4.out _ _ _) _ _ _ (by omega)
    have v5 : RowF U (w.heap.size + 3) [.bool true, .bool e2, .bool c2] := by rw [hU]; exact rowF_set3 (rowF_set3_ne w5.out _ _ _ (by omega)) _ _ _
    have uz : Hid (U.heap.size = X.heap.size + 6) := by rw [hU, set3_size, set3_size]; exact vz.out
    have uo : Hid (∀ b, b < X.heap.size → b ≠ w.heap.size + 4 → b ≠ w.heap.size + 2 → b ≠ w.heap.size + 3 → U.heap[b]? = X.heap[b]?) := by
      rw [hU]
      exact fun b hb h4 h2 h3 => (set3_ne _ _ _ _ _ _ h3).trans ((set3_ne _ _ _ _ _ _ h2).trans (vo.out b hb h4))
    have us : Hid (U.os = X.os ∧ U.tape = X.tape ∧ U.output = X.output) := by
      have a := set3_str V (w.heap.size + 2) (.bool false) (.bool e1) (.bool c1)
      have b := set3_str (((V.setCell ⟨w.heap.size + 2, 0, none⟩ (.bool false)).setCell ⟨w.heap.size + 2, 1, none⟩ (.bool e1)).setCell ⟨w.heap.size + 2, 2, none⟩ (.bool c1)) (w.heap.size + 3) (.bool true) (.bool e2) (.bool c2)
      rw [hU]
      exact ⟨b.1.trans (a.1.trans vs.out.1), b.2.1.trans (a.2.1.trans vs.out.2.1), b.2.2.trans (a.2.2.trans vs.out.2.2)⟩
    rw [← hU]
    clear hU
    clear q0 fq0 q1 fq1 q2 fq2
    clear u0 fu0 u1 fu1 u2 fu2
    clear i0 fi0 i1 fi1 i2 fi2
    clear j0 fj0 j1 fj1 j2 fj2
    clear vz vo vs w4 w5 V
    have q0 := (v4.2 0 (by simp)).1
    have q1 := (v4.2 1 (by simp)).1
    have q2 := (v4.2 2 (by simp)).1
    have fq0 := (v4.2 0 (by simp)).2
    have fq1 := (v4.2 1 (by simp)).2
    have fq2 := (v4.2 2 (by simp)).2
    simp only [List.getElem_cons_zero, List.getElem_cons_succ] at q0 q1 q2
    have u0 := (v5.2 0 (by simp)).1
    have u1 := (v5.2 1 (by simp)).1
    have u2 := (v5.2 2 (by simp)).1
    have fu0 := (v5.2 0 (by simp)).2
    have fu1 := (v5.2 1 (by simp)).2
    have fu2 := (v5.2 2 (by simp)).2
    simp only [List.getElem_cons_zero, List.getElem_cons_succ] at u0 u1 u2
    clear v4 v5
    refine Goes.step rfl (fun _ h₁ => ?_)
    obtain ⟨_, rfl⟩ := h₁
    rw [stepG_leaveM (v := .tuple #[.agg #[.bool false, .bool e1, .bool c1], .agg #[.bool true, .bool e2, .bool c2]]) rfl rfl Try.func18 (by simp [results, Try.results18, go_sem, A1, q0, q1, q2, u0, u1, u2])]
    simp only [goes_go]
    refine ⟨?_, ?_⟩
    · intro e he
      have hm := mem_seen he
      simp [results, Try.results18, go_sem, A1, q0, q1, q2, u0, u1, u2] at hm
      rcases hm with rfl | rfl | rfl | rfl | rfl | rfl <;> exact .inl (evP _ _ (by first | exact nS | exact n2 | exact n3 | exact hn0 | exact hn1 | exact hn2 | exact hn3 | exact hn4 | exact hn5))
    exact Goes.stop fun _ h₁ => by
      obtain ⟨_, rfl⟩ := h₁
      exact ⟨rfl, uz.out, uo.out, us.out⟩
end

end Go.Proofs.Ytnndfgceehfiiaa
