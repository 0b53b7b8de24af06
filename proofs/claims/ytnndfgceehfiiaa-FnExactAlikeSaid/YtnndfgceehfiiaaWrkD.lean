/-
  The two senders: from the birth to the send, and behind it. (tools/genwd.py)
-/
import Derived.Test.YtnndfgceehfiiaaWrkC
namespace Go.Proofs.Ytnndfgceehfiiaa
open Go.Conc Go.ConcN Go.RowKit Go.Conc.Lib Go.ConcR.Gen Go.ConcN.Gen
open Go.ConcR (KK WgAt stA smA rd wr mk Payload DC0 Bk)

section
variable {P : Program} {main : Bool} {R : World → World → Prop} {D : World → World → Array Event → Prop} {Stop : Goroutine → World → Prop}
theorem goes_idle (T : Terms R D) {g g' : Goroutine} {n : Nat} {w : World} (hs : g.status = .running) (h : ∀ w, stepG P main g w = .go g' w #[]) (hg : Goes P main R D Stop n g' w) : Goes P main R D Stop (n + 1) g w :=
  Goes.step hs fun w₁ h₁ => by rw [h w₁]; exact ⟨T.idle _, hg.rely T.trans h₁⟩
end

variable [Payload]

/-- A block that stays: none of the three that turn. -/
def Low1 (Wg Ch C N x : Nat) : Prop := x < N ∧ x ≠ Wg ∧ x ≠ Ch ∧ x ≠ C
/-- What a sender knows of the world: the channel, its own Show and the other one's, the texts of both. -/
structure WkF (ty : TypeId) (Wg Ch C N i S A B ga gb : Nat) (K L : List ByteArray) (f s : Int) (zv : Value) (w : World) : Prop where
  base : N ≤ w.heap.size
  chn : w.cell? ⟨S, 0, none⟩ = some (.chan (some Ch))
  a0 : w.cell? ⟨A, 0, none⟩ = some (.slice (some ⟨ga, 0, none⟩) K.length K.length)
  a1 : w.cell? ⟨A, 1, none⟩ = some (.int .i64 f)
  a2 : w.cell? ⟨A, 2, none⟩ = some (.int .i64 s)
  b0 : w.cell? ⟨B, 0, none⟩ = some (.slice (some ⟨gb, 0, none⟩) L.length L.length)
  rowa : RowN ga K w
  rowb : RowN gb L w
  live : WgLive ty Wg w
  has : Has C i zv w
section
variable {ty : TypeId} {Wg Ch C N i k S A B ga gb : Nat} {K L : List ByteArray} {f s : Int} {zv : Value}
theorem wkHeld (G : Geo2 Wg Ch C N) (hS : Low1 Wg Ch C N S) (hA : Low1 Wg Ch C N A) (hB : Low1 Wg Ch C N B) (hga : Low1 Wg Ch C N ga) (hgb : Low1 Wg Ch C N gb) : Held ty Wg Ch C N i (WkF ty Wg Ch C N i S A B ga gb K L f s zv) := by
  refine ⟨fun w w₁ h r => ?_, fun w o h => ?_, fun w h => by have := h.base; have := G.wN; omega⟩
  · have key : ∀ x o, Low1 Wg Ch C N x → w₁.cell? ⟨x, o, none⟩ = w.cell? ⟨x, o, none⟩ := fun x o hx => cell_of_block (r.rg.old x (.inr hx.1) hx.2.1 hx.2.2.1 hx.2.2.2) o
    exact ⟨Nat.le_trans h.base r.rg.size, (key S 0 hS).trans h.chn, (key A 0 hA).trans h.a0, (key A 1 hA).trans h.a1, (key A 2 hA).trans h.a2, (key B 0 hB).trans h.b0, fun j hj => (key ga j hga).trans (h.rowa j hj), fun j hj => (key gb j hgb).trans (h.rowb j hj), r.rg.live h.live, r.cell.trans h.has⟩
  · have hN := h.base
    have g1 := G.cCh; have g2 := G.chW; have g3 := G.wN
    have key : ∀ x o', x < N → (w.alloc o).cell? ⟨x, o', none⟩ = w.cell? ⟨x, o', none⟩ := fun x o' hx => World.cell?_alloc_lt _ _ _ (by show x < _; omega)
    refine ⟨by rw [World.size_alloc]; omega, (key S 0 hS.1).trans h.chn, (key A 0 hA.1).trans h.a0, (key A 1 hA.1).trans h.a1, (key A 2 hA.1).trans h.a2, (key B 0 hB.1).trans h.b0, fun j hj => (key ga j hga.1).trans (h.rowa j hj), fun j hj => (key gb j hgb.1).trans (h.rowb j hj), ?_, (key C i (by omega)).trans h.has⟩
    obtain ⟨st, sm, hl⟩ := h.live
    exact ⟨st, sm, hl.of_block (Below.heap_alloc _ _ _ (by omega))⟩
end

/-- What holds while the region's operations come up. -/
def St1 (ty : TypeId) (Wg Ch C N S A B ga gb : Nat) (K L : List ByteArray) (f s : Int) (zv : Value) (l : Array Bool) (a : Act) (w : World) : Prop :=
  l.size = 10 ∧ l[9]? = some false ∧ WkF ty Wg Ch C N 0 S A B ga gb K L f s zv w ∧ ∃ x4 x5 x6 x7 x8 x9 x10 x11 x12 : Value, (l.getD 0 false = true → x4 = .chan (some Ch)) ∧ (l.getD 1 false = true → x5 = .agg #[.slice (some ⟨ga, 0, none⟩) K.length K.length, .int .i64 f, .int .i64 s]) ∧ (l.getD 2 false = true → x6 = .bool (endB f)) ∧ (l.getD 3 false = true → x7 = .pointer (some ⟨A, 0, none⟩)) ∧ (l.getD 4 false = true → x8 = .slice (some ⟨ga, 0, none⟩) K.length K.length) ∧ (l.getD 5 false = true → x9 = .pointer (some ⟨B, 0, none⟩)) ∧ (l.getD 6 false = true → x10 = .slice (some ⟨gb, 0, none⟩) L.length L.length) ∧ (l.getD 7 false = true → x11 = .bool (begB K L)) ∧ (l.getD 8 false = true → x12 = .agg #[.bool false, .bool (endB f), .bool (begB K L)]) ∧
    a = { tmps := #[.pointer (some ⟨Wg, 0, none⟩), .pointer (some ⟨S, 0, none⟩), .pointer (some ⟨A, 0, none⟩), .pointer (some ⟨B, 0, none⟩), x4, x5, x6, x7, x8, x9, x10, x11, x12], defers := [dcall 21 #[.pointer (some ⟨Wg, 0, none⟩)]] }

omit [Payload] in
theorem dep1 : Region.departs ops1 = false := by kernel_rfl
omit [Payload] in
theorem top1 : ∀ (i : Nat) (o : Oper), ops1[i]? = some o → ∀ e ∈ o.after, e.on < i := by
  have h : (ops1.toList.zipIdx.all fun x => x.1.after.all fun e => decide (e.on < x.2)) = true := by kernel_rfl
  intro i o ho e he
  rw [List.all_eq_true] at h
  have hm : (o, i) ∈ ops1.toList.zipIdx := by
    rw [List.mem_zipIdx_iff_getElem?]
    simpa using ho
  have := h (o, i) hm
  rw [Array.all_eq_true_iff_forall_mem] at this
  exact of_decide_eq_true (this e he)
omit [Payload] in
theorem sz1 : ops1.size = 10 := by kernel_rfl

set_option maxRecDepth 100000 in
set_option maxHeartbeats 4000000 in
theorem regStep1 {ty : TypeId} {Wg Ch C N S A B ga gb : Nat} {K L : List ByteArray} {f s : Int} {zv : Value} (H : Held ty Wg Ch C N 0 (WkF ty Wg Ch C N 0 S A B ga gb K L f s zv)) (hSw : S ≠ Wg) (hAw : A ≠ Wg) (hBw : B ≠ Wg) {nE nB : Nat}
    (hE : ∀ w, WkF ty Wg Ch C N 0 S A B ga gb K L f s zv w → CallsC Try.prog false (RGW ty Wg Ch C N 0) (DV Wg 1) 22 #[.agg #[.slice (some ⟨ga, 0, none⟩) K.length K.length, .int .i64 f, .int .i64 s]] nE w fun u w' => u = .bool (endB f) ∧ WkF ty Wg Ch C N 0 S A B ga gb K L f s zv w')
    (hB : ∀ w, WkF ty Wg Ch C N 0 S A B ga gb K L f s zv w → CallsC Try.prog false (RGW ty Wg Ch C N 0) (DV Wg 1) 8 #[.slice (some ⟨ga, 0, none⟩) K.length K.length, .slice (some ⟨gb, 0, none⟩) L.length L.length] nB w fun u w' => u = .bool (begB K L) ∧ WkF ty Wg Ch C N 0 S A B ga gb K L f s zv w')
    {Stop : Goroutine → World → Prop} {kk : List Item} {cs : List Frame}
    (hlast : ∀ w, WkF ty Wg Ch C N 0 S A B ga gb K L f s zv w → Stop (G (b1.at { tmps := #[.pointer (some ⟨Wg, 0, none⟩), .pointer (some ⟨S, 0, none⟩), .pointer (some ⟨A, 0, none⟩), .pointer (some ⟨B, 0, none⟩), .chan (some Ch), .agg #[.slice (some ⟨ga, 0, none⟩) K.length K.length, .int .i64 f, .int .i64 s], .bool (endB f), .pointer (some ⟨A, 0, none⟩), .slice (some ⟨ga, 0, none⟩) K.length K.length, .pointer (some ⟨B, 0, none⟩), .slice (some ⟨gb, 0, none⟩) L.length L.length, .bool (begB K L), .agg #[.bool false, .bool (endB f), .bool (begB K L)]], defers := [dcall 21 #[.pointer (some ⟨Wg, 0, none⟩)]] } (.inRegion ops1 [9] :: kk)) cs) w)
    (l : Array Bool) (a : Act) (w : World) (i : Nat) (hS : St1 ty Wg Ch C N S A B ga gb K L f s zv l a w) (hi : i ∈ Region.ready .any ops1 l) (hcl : Closed .any ops1 l) (rest : List Nat) (m : Nat) (hr : (∀ j, j < ops1.size → j ≠ i → l[j]? = some true) → rest = [])
    (hnext : ∀ a' w', St1 ty Wg Ch C N S A B ga gb K L f s zv (l.setIfInBounds i true) a' w' → Goes Try.prog false (RGW ty Wg Ch C N 0) (DV Wg 1) Stop m (G (b1.at a' (.inRegion ops1 rest :: kk)) cs) w') :
    Goes Try.prog false (RGW ty Wg Ch C N 0) (DV Wg 1) Stop (m + (nE + nB + 4)) (G (b1.at a (.inRegion ops1 (i :: rest) :: kk)) cs) w := by
  have TV : Terms (RGW ty Wg Ch C N 0) (DV Wg 1) := termsV
  have hlt := (ready_iff.1 hi).1
  rw [sz1] at hlt
  obtain rfl | rfl | rfl | rfl | rfl | rfl | rfl | rfl | rfl | rfl : i = 0 ∨ i = 1 ∨ i = 2 ∨ i = 3 ∨ i = 4 ∨ i = 5 ∨ i = 6 ∨ i = 7 ∨ i = 8 ∨ i = 9 := by omega
  · -- operation 0
    obtain ⟨hsz, h9, hF, x4, x5, x6, x7, x8, x9, x10, x11, x12, h0, h1, h2, h3, h4, h5, h6, h7, h8, rfl⟩ := hS
    refine Goes.mono (n := m + 1) (Goes.step rfl fun w₁ h₁ => ?_) (by omega)
    have hF₁ := H.rely _ _ hF h₁
    refine goes_oper_k (o := { dst := some 4, op := .load 38 (.tmp 1), type := 38, pos := _, after := _, guard := none }) rfl rfl (by decide) fun K1 hK1 => ?_
    have c0 := hF₁.chn
    go_simp
    refine hK1 _ _ ⟨dv_quiet _ fun e he => ?_, hnext _ _ ⟨by simpa using hsz, by rw [Array.getElem?_setIfInBounds_ne (by decide)]; exact h9, hF₁, _, x5, x6, x7, x8, x9, x10, x11, x12, fun _ => rfl, fun h => h1 (low_get h (by decide)), fun h => h2 (low_get h (by decide)), fun h => h3 (low_get h (by decide)), fun h => h4 (low_get h (by decide)), fun h => h5 (low_get h (by decide)), fun h => h6 (low_get h (by decide)), fun h => h7 (low_get h (by decide)), fun h => h8 (low_get h (by decide)), rfl⟩⟩
    have hm := mem_listed he
    simp [go_sem, *] at hm
    subst hm; exact ⟨_, rfl, hSw⟩
  · -- operation 1
    obtain ⟨hsz, h9, hF, x4, x5, x6, x7, x8, x9, x10, x11, x12, h0, h1, h2, h3, h4, h5, h6, h7, h8, rfl⟩ := hS
    refine Goes.mono (n := m + 1) (Goes.step rfl fun w₁ h₁ => ?_) (by omega)
    have hF₁ := H.rely _ _ hF h₁
    refine goes_oper_k (o := { dst := some 5, op := .load 30 (.tmp 2), type := 30, pos := _, after := _, guard := none }) rfl rfl (by decide) fun K1 hK1 => ?_
    have c0 := hF₁.a0
    have c1 := hF₁.a1
    have c2 := hF₁.a2
    go_simp
    refine hK1 _ _ ⟨dv_quiet _ fun e he => ?_, hnext _ _ ⟨by simpa using hsz, by rw [Array.getElem?_setIfInBounds_ne (by decide)]; exact h9, hF₁, x4, _, x6, x7, x8, x9, x10, x11, x12, fun h => h0 (low_get h (by decide)), fun _ => rfl, fun h => h2 (low_get h (by decide)), fun h => h3 (low_get h (by decide)), fun h => h4 (low_get h (by decide)), fun h => h5 (low_get h (by decide)), fun h => h6 (low_get h (by decide)), fun h => h7 (low_get h (by decide)), fun h => h8 (low_get h (by decide)), rfl⟩⟩
    have hm := mem_listed he
    simp [go_sem, *] at hm
    rcases hm with rfl | rfl | rfl <;> exact ⟨_, rfl, hAw⟩
  · -- operation 2
    obtain ⟨hsz, h9, hF, x4, x5, x6, x7, x8, x9, x10, x11, x12, h0, h1, h2, h3, h4, h5, h6, h7, h8, rfl⟩ := hS
    obtain rfl := h1 (ready_dep 2 0 1 hi (by kernel_rfl))
    refine (Goes.call (m := m) (nf := nE) (o := { dst := some 6, op := .call { callee := .value (.func 22), args := #[.tmp 5], argTypes := _ }, type := _, pos := _, after := _, guard := none }) TV rfl rfl (by decide) rfl (by walk_nrm; exact hE w hF) (fun v w₁ hp => ?_)).mono (by omega)
    obtain ⟨rfl, hF₁⟩ := hp
    exact hnext _ _ ⟨by simpa using hsz, by rw [Array.getElem?_setIfInBounds_ne (by decide)]; exact h9, hF₁, x4, _, _, x7, x8, x9, x10, x11, x12, fun h => h0 (low_get h (by decide)), fun h => h1 (low_get h (by decide)), fun _ => rfl, fun h => h3 (low_get h (by decide)), fun h => h4 (low_get h (by decide)), fun h => h5 (low_get h (by decide)), fun h => h6 (low_get h (by decide)), fun h => h7 (low_get h (by decide)), fun h => h8 (low_get h (by decide)), rfl⟩
  · -- operation 3
    obtain ⟨hsz, h9, hF, x4, x5, x6, x7, x8, x9, x10, x11, x12, h0, h1, h2, h3, h4, h5, h6, h7, h8, rfl⟩ := hS
    refine Goes.mono (n := m + 1) (Goes.step rfl fun w₁ h₁ => ?_) (by omega)
    have hF₁ := H.rely _ _ hF h₁
    refine goes_oper_k (o := { dst := some 7, op := .fieldAddr 30 (.tmp 2) 0, type := 0, pos := _, after := _, guard := none }) rfl rfl (by decide) fun K1 hK1 => ?_
    go_simp
    refine hK1 _ _ ⟨dv_quiet _ fun e he => ?_, hnext _ _ ⟨by simpa using hsz, by rw [Array.getElem?_setIfInBounds_ne (by decide)]; exact h9, hF₁, x4, x5, x6, _, x8, x9, x10, x11, x12, fun h => h0 (low_get h (by decide)), fun h => h1 (low_get h (by decide)), fun h => h2 (low_get h (by decide)), fun _ => rfl, fun h => h4 (low_get h (by decide)), fun h => h5 (low_get h (by decide)), fun h => h6 (low_get h (by decide)), fun h => h7 (low_get h (by decide)), fun h => h8 (low_get h (by decide)), rfl⟩⟩
    have hm := mem_listed he
    simp [go_sem, *] at hm
  · -- operation 4
    obtain ⟨hsz, h9, hF, x4, x5, x6, x7, x8, x9, x10, x11, x12, h0, h1, h2, h3, h4, h5, h6, h7, h8, rfl⟩ := hS
    obtain rfl := h3 (ready_dep 4 0 3 hi (by kernel_rfl))
    refine Goes.mono (n := m + 1) (Goes.step rfl fun w₁ h₁ => ?_) (by omega)
    have hF₁ := H.rely _ _ hF h₁
    refine goes_oper_k (o := { dst := some 8, op := .load 22 (.tmp 7), type := 22, pos := _, after := _, guard := none }) rfl rfl (by decide) fun K1 hK1 => ?_
    have c0 := hF₁.a0
    go_simp
    refine hK1 _ _ ⟨dv_quiet _ fun e he => ?_, hnext _ _ ⟨by simpa using hsz, by rw [Array.getElem?_setIfInBounds_ne (by decide)]; exact h9, hF₁, x4, x5, x6, _, _, x9, x10, x11, x12, fun h => h0 (low_get h (by decide)), fun h => h1 (low_get h (by decide)), fun h => h2 (low_get h (by decide)), fun h => h3 (low_get h (by decide)), fun _ => rfl, fun h => h5 (low_get h (by decide)), fun h => h6 (low_get h (by decide)), fun h => h7 (low_get h (by decide)), fun h => h8 (low_get h (by decide)), rfl⟩⟩
    have hm := mem_listed he
    simp [go_sem, *] at hm
    subst hm; exact ⟨_, rfl, hAw⟩
  · -- operation 5
    obtain ⟨hsz, h9, hF, x4, x5, x6, x7, x8, x9, x10, x11, x12, h0, h1, h2, h3, h4, h5, h6, h7, h8, rfl⟩ := hS
    refine Goes.mono (n := m + 1) (Goes.step rfl fun w₁ h₁ => ?_) (by omega)
    have hF₁ := H.rely _ _ hF h₁
    refine goes_oper_k (o := { dst := some 9, op := .fieldAddr 30 (.tmp 3) 0, type := 0, pos := _, after := _, guard := none }) rfl rfl (by decide) fun K1 hK1 => ?_
    go_simp
    refine hK1 _ _ ⟨dv_quiet _ fun e he => ?_, hnext _ _ ⟨by simpa using hsz, by rw [Array.getElem?_setIfInBounds_ne (by decide)]; exact h9, hF₁, x4, x5, x6, x7, x8, _, x10, x11, x12, fun h => h0 (low_get h (by decide)), fun h => h1 (low_get h (by decide)), fun h => h2 (low_get h (by decide)), fun h => h3 (low_get h (by decide)), fun h => h4 (low_get h (by decide)), fun _ => rfl, fun h => h6 (low_get h (by decide)), fun h => h7 (low_get h (by decide)), fun h => h8 (low_get h (by decide)), rfl⟩⟩
    have hm := mem_listed he
    simp [go_sem, *] at hm
  · -- operation 6
    obtain ⟨hsz, h9, hF, x4, x5, x6, x7, x8, x9, x10, x11, x12, h0, h1, h2, h3, h4, h5, h6, h7, h8, rfl⟩ := hS
    obtain rfl := h5 (ready_dep 6 0 5 hi (by kernel_rfl))
    refine Goes.mono (n := m + 1) (Goes.step rfl fun w₁ h₁ => ?_) (by omega)
    have hF₁ := H.rely _ _ hF h₁
    refine goes_oper_k (o := { dst := some 10, op := .load 22 (.tmp 9), type := 22, pos := _, after := _, guard := none }) rfl rfl (by decide) fun K1 hK1 => ?_
    have c0 := hF₁.b0
    go_simp
    refine hK1 _ _ ⟨dv_quiet _ fun e he => ?_, hnext _ _ ⟨by simpa using hsz, by rw [Array.getElem?_setIfInBounds_ne (by decide)]; exact h9, hF₁, x4, x5, x6, x7, x8, _, _, x11, x12, fun h => h0 (low_get h (by decide)), fun h => h1 (low_get h (by decide)), fun h => h2 (low_get h (by decide)), fun h => h3 (low_get h (by decide)), fun h => h4 (low_get h (by decide)), fun h => h5 (low_get h (by decide)), fun _ => rfl, fun h => h7 (low_get h (by decide)), fun h => h8 (low_get h (by decide)), rfl⟩⟩
    have hm := mem_listed he
    simp [go_sem, *] at hm
    subst hm; exact ⟨_, rfl, hBw⟩
  · -- operation 7
    obtain ⟨hsz, h9, hF, x4, x5, x6, x7, x8, x9, x10, x11, x12, h0, h1, h2, h3, h4, h5, h6, h7, h8, rfl⟩ := hS
    obtain rfl := h4 (ready_dep 7 0 4 hi (by kernel_rfl))
    obtain rfl := h6 (ready_dep 7 1 6 hi (by kernel_rfl))
    refine (Goes.call (m := m) (nf := nB) (o := { dst := some 11, op := .call { callee := .value (.func 8), args := #[.tmp 8, .tmp 10], argTypes := _ }, type := _, pos := _, after := _, guard := none }) TV rfl rfl (by decide) rfl (by walk_nrm; exact hB w hF) (fun v w₁ hp => ?_)).mono (by omega)
    obtain ⟨rfl, hF₁⟩ := hp
    exact hnext _ _ ⟨by simpa using hsz, by rw [Array.getElem?_setIfInBounds_ne (by decide)]; exact h9, hF₁, x4, x5, x6, x7, _, x9, _, _, x12, fun h => h0 (low_get h (by decide)), fun h => h1 (low_get h (by decide)), fun h => h2 (low_get h (by decide)), fun h => h3 (low_get h (by decide)), fun h => h4 (low_get h (by decide)), fun h => h5 (low_get h (by decide)), fun h => h6 (low_get h (by decide)), fun _ => rfl, fun h => h8 (low_get h (by decide)), rfl⟩
  · -- operation 8
    obtain ⟨hsz, h9, hF, x4, x5, x6, x7, x8, x9, x10, x11, x12, h0, h1, h2, h3, h4, h5, h6, h7, h8, rfl⟩ := hS
    obtain rfl := h2 (ready_dep 8 0 2 hi (by kernel_rfl))
    obtain rfl := h7 (ready_dep 8 1 7 hi (by kernel_rfl))
    refine Goes.mono (n := m + 1) (Goes.step rfl fun w₁ h₁ => ?_) (by omega)
    have hF₁ := H.rely _ _ hF h₁
    refine goes_oper_k (o := { dst := some 12, op := .build 35 #[(0, .const (.bool false)), (1, .tmp 6), (2, .tmp 11)], type := 35, pos := _, after := _, guard := none }) rfl rfl (by decide) fun K1 hK1 => ?_
    go_simp
    refine hK1 _ _ ⟨dv_quiet _ fun e he => ?_, hnext _ _ ⟨by simpa using hsz, by rw [Array.getElem?_setIfInBounds_ne (by decide)]; exact h9, hF₁, x4, x5, _, x7, x8, x9, x10, _, _, fun h => h0 (low_get h (by decide)), fun h => h1 (low_get h (by decide)), fun h => h2 (low_get h (by decide)), fun h => h3 (low_get h (by decide)), fun h => h4 (low_get h (by decide)), fun h => h5 (low_get h (by decide)), fun h => h6 (low_get h (by decide)), fun h => h7 (low_get h (by decide)), fun _ => rfl, rfl⟩⟩
    have hm := mem_listed he
    simp [go_sem, *] at hm
  · -- the send
    obtain ⟨hsz, _, hF, x4, x5, x6, x7, x8, x9, x10, x11, x12, h0, h1, h2, h3, h4, h5, h6, h7, h8, rfl⟩ := hS
    have d0 := ready_dep 9 0 0 hi (by kernel_rfl)
    have d8 := ready_dep 9 1 8 hi (by kernel_rfl)
    have d2 := closed_dep hcl 8 0 2 d8 (by kernel_rfl)
    have d7 := closed_dep hcl 8 1 7 d8 (by kernel_rfl)
    have d1 := closed_dep hcl 2 0 1 d2 (by kernel_rfl)
    have d4 := closed_dep hcl 7 0 4 d7 (by kernel_rfl)
    have d6 := closed_dep hcl 7 1 6 d7 (by kernel_rfl)
    have d3 := closed_dep hcl 4 0 3 d4 (by kernel_rfl)
    have d5 := closed_dep hcl 6 0 5 d6 (by kernel_rfl)
    have hrest : rest = [] := hr fun j hj hne => by
      rw [sz1] at hj
      have : l.getD j false = true := by
        obtain rfl | rfl | rfl | rfl | rfl | rfl | rfl | rfl | rfl : j = 0 ∨ j = 1 ∨ j = 2 ∨ j = 3 ∨ j = 4 ∨ j = 5 ∨ j = 6 ∨ j = 7 ∨ j = 8 := by omega
        all_goals assumption
      rw [Array.getElem?_eq_getElem (by omega)]
      simpa [Array.getD_eq_getD_getElem?, Array.getElem?_eq_getElem (show j < l.size by omega)] using this
    subst hrest
    obtain rfl := h0 d0
    obtain rfl := h1 d1
    obtain rfl := h2 d2
    obtain rfl := h3 d3
    obtain rfl := h4 d4
    obtain rfl := h5 d5
    obtain rfl := h6 d6
    obtain rfl := h7 d7
    obtain rfl := h8 d8
    exact Goes.stop fun w₁ h₁ => hlast w₁ (H.rely _ _ hF h₁)

/-- What holds while the region's operations come up. -/
def St2 (ty : TypeId) (Wg Ch C N S A B ga gb : Nat) (K L : List ByteArray) (f s : Int) (zv : Value) (l : Array Bool) (a : Act) (w : World) : Prop :=
  l.size = 10 ∧ l[9]? = some false ∧ WkF ty Wg Ch C N 1 S A B ga gb K L f s zv w ∧ ∃ x4 x5 x6 x7 x8 x9 x10 x11 x12 : Value, (l.getD 0 false = true → x4 = .chan (some Ch)) ∧ (l.getD 1 false = true → x5 = .agg #[.slice (some ⟨ga, 0, none⟩) K.length K.length, .int .i64 f, .int .i64 s]) ∧ (l.getD 2 false = true → x6 = .bool (endB f)) ∧ (l.getD 3 false = true → x7 = .pointer (some ⟨A, 0, none⟩)) ∧ (l.getD 4 false = true → x8 = .slice (some ⟨ga, 0, none⟩) K.length K.length) ∧ (l.getD 5 false = true → x9 = .pointer (some ⟨B, 0, none⟩)) ∧ (l.getD 6 false = true → x10 = .slice (some ⟨gb, 0, none⟩) L.length L.length) ∧ (l.getD 7 false = true → x11 = .bool (begB K L)) ∧ (l.getD 8 false = true → x12 = .agg #[.bool true, .bool (endB f), .bool (begB K L)]) ∧
    a = { tmps := #[.pointer (some ⟨Wg, 0, none⟩), .pointer (some ⟨S, 0, none⟩), .pointer (some ⟨A, 0, none⟩), .pointer (some ⟨B, 0, none⟩), x4, x5, x6, x7, x8, x9, x10, x11, x12], defers := [dcall 21 #[.pointer (some ⟨Wg, 0, none⟩)]] }

omit [Payload] in
theorem dep2 : Region.departs ops2 = false := by kernel_rfl
omit [Payload] in
theorem top2 : ∀ (i : Nat) (o : Oper), ops2[i]? = some o → ∀ e ∈ o.after, e.on < i := by
  have h : (ops2.toList.zipIdx.all fun x => x.1.after.all fun e => decide (e.on < x.2)) = true := by kernel_rfl
  intro i o ho e he
  rw [List.all_eq_true] at h
  have hm : (o, i) ∈ ops2.toList.zipIdx := by
    rw [List.mem_zipIdx_iff_getElem?]
    simpa using ho
  have := h (o, i) hm
  rw [Array.all_eq_true_iff_forall_mem] at this
  exact of_decide_eq_true (this e he)
omit [Payload] in
theorem sz2 : ops2.size = 10 := by kernel_rfl

set_option maxRecDepth 100000 in
set_option maxHeartbeats 4000000 in
theorem regStep2 {ty : TypeId} {Wg Ch C N S A B ga gb : Nat} {K L : List ByteArray} {f s : Int} {zv : Value} (H : Held ty Wg Ch C N 1 (WkF ty Wg Ch C N 1 S A B ga gb K L f s zv)) (hSw : S ≠ Wg) (hAw : A ≠ Wg) (hBw : B ≠ Wg) {nE nB : Nat}
    (hE : ∀ w, WkF ty Wg Ch C N 1 S A B ga gb K L f s zv w → CallsC Try.prog false (RGW ty Wg Ch C N 1) (DV Wg 2) 22 #[.agg #[.slice (some ⟨ga, 0, none⟩) K.length K.length, .int .i64 f, .int .i64 s]] nE w fun u w' => u = .bool (endB f) ∧ WkF ty Wg Ch C N 1 S A B ga gb K L f s zv w')
    (hB : ∀ w, WkF ty Wg Ch C N 1 S A B ga gb K L f s zv w → CallsC Try.prog false (RGW ty Wg Ch C N 1) (DV Wg 2) 8 #[.slice (some ⟨ga, 0, none⟩) K.length K.length, .slice (some ⟨gb, 0, none⟩) L.length L.length] nB w fun u w' => u = .bool (begB K L) ∧ WkF ty Wg Ch C N 1 S A B ga gb K L f s zv w')
    {Stop : Goroutine → World → Prop} {kk : List Item} {cs : List Frame}
    (hlast : ∀ w, WkF ty Wg Ch C N 1 S A B ga gb K L f s zv w → Stop (G (b2.at { tmps := #[.pointer (some ⟨Wg, 0, none⟩), .pointer (some ⟨S, 0, none⟩), .pointer (some ⟨A, 0, none⟩), .pointer (some ⟨B, 0, none⟩), .chan (some Ch), .agg #[.slice (some ⟨ga, 0, none⟩) K.length K.length, .int .i64 f, .int .i64 s], .bool (endB f), .pointer (some ⟨A, 0, none⟩), .slice (some ⟨ga, 0, none⟩) K.length K.length, .pointer (some ⟨B, 0, none⟩), .slice (some ⟨gb, 0, none⟩) L.length L.length, .bool (begB K L), .agg #[.bool true, .bool (endB f), .bool (begB K L)]], defers := [dcall 21 #[.pointer (some ⟨Wg, 0, none⟩)]] } (.inRegion ops2 [9] :: kk)) cs) w)
    (l : Array Bool) (a : Act) (w : World) (i : Nat) (hS : St2 ty Wg Ch C N S A B ga gb K L f s zv l a w) (hi : i ∈ Region.ready .any ops2 l) (hcl : Closed .any ops2 l) (rest : List Nat) (m : Nat) (hr : (∀ j, j < ops2.size → j ≠ i → l[j]? = some true) → rest = [])
    (hnext : ∀ a' w', St2 ty Wg Ch C N S A B ga gb K L f s zv (l.setIfInBounds i true) a' w' → Goes Try.prog false (RGW ty Wg Ch C N 1) (DV Wg 2) Stop m (G (b2.at a' (.inRegion ops2 rest :: kk)) cs) w') :
    Goes Try.prog false (RGW ty Wg Ch C N 1) (DV Wg 2) Stop (m + (nE + nB + 4)) (G (b2.at a (.inRegion ops2 (i :: rest) :: kk)) cs) w := by
  have TV : Terms (RGW ty Wg Ch C N 1) (DV Wg 2) := termsV
  have hlt := (ready_iff.1 hi).1
  rw [sz2] at hlt
  obtain rfl | rfl | rfl | rfl | rfl | rfl | rfl | rfl | rfl | rfl : i = 0 ∨ i = 1 ∨ i = 2 ∨ i = 3 ∨ i = 4 ∨ i = 5 ∨ i = 6 ∨ i = 7 ∨ i = 8 ∨ i = 9 := by omega
  · -- operation 0
    obtain ⟨hsz, h9, hF, x4, x5, x6, x7, x8, x9, x10, x11, x12, h0, h1, h2, h3, h4, h5, h6, h7, h8, rfl⟩ := hS
    refine Goes.mono (n := m + 1) (Goes.step rfl fun w₁ h₁ => ?_) (by omega)
    have hF₁ := H.rely _ _ hF h₁
    refine goes_oper_k (o := { dst := some 4, op := .load 38 (.tmp 1), type := 38, pos := _, after := _, guard := none }) rfl rfl (by decide) fun K1 hK1 => ?_
    have c0 := hF₁.chn
    go_simp
    refine hK1 _ _ ⟨dv_quiet _ fun e he => ?_, hnext _ _ ⟨by simpa using hsz, by rw [Array.getElem?_setIfInBounds_ne (by decide)]; exact h9, hF₁, _, x5, x6, x7, x8, x9, x10, x11, x12, fun _ => rfl, fun h => h1 (low_get h (by decide)), fun h => h2 (low_get h (by decide)), fun h => h3 (low_get h (by decide)), fun h => h4 (low_get h (by decide)), fun h => h5 (low_get h (by decide)), fun h => h6 (low_get h (by decide)), fun h => h7 (low_get h (by decide)), fun h => h8 (low_get h (by decide)), rfl⟩⟩
    have hm := mem_listed he
    simp [go_sem, *] at hm
    subst hm; exact ⟨_, rfl, hSw⟩
  · -- operation 1
    obtain ⟨hsz, h9, hF, x4, x5, x6, x7, x8, x9, x10, x11, x12, h0, h1, h2, h3, h4, h5, h6, h7, h8, rfl⟩ := hS
    refine Goes.mono (n := m + 1) (Goes.step rfl fun w₁ h₁ => ?_) (by omega)
    have hF₁ := H.rely _ _ hF h₁
    refine goes_oper_k (o := { dst := some 5, op := .load 30 (.tmp 2), type := 30, pos := _, after := _, guard := none }) rfl rfl (by decide) fun K1 hK1 => ?_
    have c0 := hF₁.a0
    have c1 := hF₁.a1
    have c2 := hF₁.a2
    go_simp
    refine hK1 _ _ ⟨dv_quiet _ fun e he => ?_, hnext _ _ ⟨by simpa using hsz, by rw [Array.getElem?_setIfInBounds_ne (by decide)]; exact h9, hF₁, x4, _, x6, x7, x8, x9, x10, x11, x12, fun h => h0 (low_get h (by decide)), fun _ => rfl, fun h => h2 (low_get h (by decide)), fun h => h3 (low_get h (by decide)), fun h => h4 (low_get h (by decide)), fun h => h5 (low_get h (by decide)), fun h => h6 (low_get h (by decide)), fun h => h7 (low_get h (by decide)), fun h => h8 (low_get h (by decide)), rfl⟩⟩
    have hm := mem_listed he
    simp [go_sem, *] at hm
    rcases hm with rfl | rfl | rfl <;> exact ⟨_, rfl, hAw⟩
  · -- operation 2
    obtain ⟨hsz, h9, hF, x4, x5, x6, x7, x8, x9, x10, x11, x12, h0, h1, h2, h3, h4, h5, h6, h7, h8, rfl⟩ := hS
    obtain rfl := h1 (ready_dep 2 0 1 hi (by kernel_rfl))
    refine (Goes.call (m := m) (nf := nE) (o := { dst := some 6, op := .call { callee := .value (.func 22), args := #[.tmp 5], argTypes := _ }, type := _, pos := _, after := _, guard := none }) TV rfl rfl (by decide) rfl (by walk_nrm; exact hE w hF) (fun v w₁ hp => ?_)).mono (by omega)
    obtain ⟨rfl, hF₁⟩ := hp
    exact hnext _ _ ⟨by simpa using hsz, by rw [Array.getElem?_setIfInBounds_ne (by decide)]; exact h9, hF₁, x4, _, _, x7, x8, x9, x10, x11, x12, fun h => h0 (low_get h (by decide)), fun h => h1 (low_get h (by decide)), fun _ => rfl, fun h => h3 (low_get h (by decide)), fun h => h4 (low_get h (by decide)), fun h => h5 (low_get h (by decide)), fun h => h6 (low_get h (by decide)), fun h => h7 (low_get h (by decide)), fun h => h8 (low_get h (by decide)), rfl⟩
  · -- operation 3
    obtain ⟨hsz, h9, hF, x4, x5, x6, x7, x8, x9, x10, x11, x12, h0, h1, h2, h3, h4, h5, h6, h7, h8, rfl⟩ := hS
    refine Goes.mono (n := m + 1) (Goes.step rfl fun w₁ h₁ => ?_) (by omega)
    have hF₁ := H.rely _ _ hF h₁
    refine goes_oper_k (o := { dst := some 7, op := .fieldAddr 30 (.tmp 2) 0, type := 0, pos := _, after := _, guard := none }) rfl rfl (by decide) fun K1 hK1 => ?_
    go_simp
    refine hK1 _ _ ⟨dv_quiet _ fun e he => ?_, hnext _ _ ⟨by simpa using hsz, by rw [Array.getElem?_setIfInBounds_ne (by decide)]; exact h9, hF₁, x4, x5, x6, _, x8, x9, x10, x11, x12, fun h => h0 (low_get h (by decide)), fun h => h1 (low_get h (by decide)), fun h => h2 (low_get h (by decide)), fun _ => rfl, fun h => h4 (low_get h (by decide)), fun h => h5 (low_get h (by decide)), fun h => h6 (low_get h (by decide)), fun h => h7 (low_get h (by decide)), fun h => h8 (low_get h (by decide)), rfl⟩⟩
    have hm := mem_listed he
    simp [go_sem, *] at hm
  · -- operation 4
    obtain ⟨hsz, h9, hF, x4, x5, x6, x7, x8, x9, x10, x11, x12, h0, h1, h2, h3, h4, h5, h6, h7, h8, rfl⟩ := hS
    obtain rfl := h3 (ready_dep 4 0 3 hi (by kernel_rfl))
    refine Goes.mono (n := m + 1) (Goes.step rfl fun w₁ h₁ => ?_) (by omega)
    have hF₁ := H.rely _ _ hF h₁
    refine goes_oper_k (o := { dst := some 8, op := .load 22 (.tmp 7), type := 22, pos := _, after := _, guard := none }) rfl rfl (by decide) fun K1 hK1 => ?_
    have c0 := hF₁.a0
    go_simp
    refine hK1 _ _ ⟨dv_quiet _ fun e he => ?_, hnext _ _ ⟨by simpa using hsz, by rw [Array.getElem?_setIfInBounds_ne (by decide)]; exact h9, hF₁, x4, x5, x6, _, _, x9, x10, x11, x12, fun h => h0 (low_get h (by decide)), fun h => h1 (low_get h (by decide)), fun h => h2 (low_get h (by decide)), fun h => h3 (low_get h (by decide)), fun _ => rfl, fun h => h5 (low_get h (by decide)), fun h => h6 (low_get h (by decide)), fun h => h7 (low_get h (by decide)), fun h => h8 (low_get h (by decide)), rfl⟩⟩
    have hm := mem_listed he
    simp [go_sem, *] at hm
    subst hm; exact ⟨_, rfl, hAw⟩
  · -- operation 5
    obtain ⟨hsz, h9, hF, x4, x5, x6, x7, x8, x9, x10, x11, x12, h0, h1, h2, h3, h4, h5, h6, h7, h8, rfl⟩ := hS
    refine Goes.mono (n := m + 1) (Goes.step rfl fun w₁ h₁ => ?_) (by omega)
    have hF₁ := H.rely _ _ hF h₁
    refine goes_oper_k (o := { dst := some 9, op := .fieldAddr 30 (.tmp 3) 0, type := 0, pos := _, after := _, guard := none }) rfl rfl (by decide) fun K1 hK1 => ?_
    go_simp
    refine hK1 _ _ ⟨dv_quiet _ fun e he => ?_, hnext _ _ ⟨by simpa using hsz, by rw [Array.getElem?_setIfInBounds_ne (by decide)]; exact h9, hF₁, x4, x5, x6, x7, x8, _, x10, x11, x12, fun h => h0 (low_get h (by decide)), fun h => h1 (low_get h (by decide)), fun h => h2 (low_get h (by decide)), fun h => h3 (low_get h (by decide)), fun h => h4 (low_get h (by decide)), fun _ => rfl, fun h => h6 (low_get h (by decide)), fun h => h7 (low_get h (by decide)), fun h => h8 (low_get h (by decide)), rfl⟩⟩
    have hm := mem_listed he
    simp [go_sem, *] at hm
  · -- operation 6
    obtain ⟨hsz, h9, hF, x4, x5, x6, x7, x8, x9, x10, x11, x12, h0, h1, h2, h3, h4, h5, h6, h7, h8, rfl⟩ := hS
    obtain rfl := h5 (ready_dep 6 0 5 hi (by kernel_rfl))
    refine Goes.mono (n := m + 1) (Goes.step rfl fun w₁ h₁ => ?_) (by omega)
    have hF₁ := H.rely _ _ hF h₁
    refine goes_oper_k (o := { dst := some 10, op := .load 22 (.tmp 9), type := 22, pos := _, after := _, guard := none }) rfl rfl (by decide) fun K1 hK1 => ?_
    have c0 := hF₁.b0
    go_simp
    refine hK1 _ _ ⟨dv_quiet _ fun e he => ?_, hnext _ _ ⟨by simpa using hsz, by rw [Array.getElem?_setIfInBounds_ne (by decide)]; exact h9, hF₁, x4, x5, x6, x7, x8, _, _, x11, x12, fun h => h0 (low_get h (by decide)), fun h => h1 (low_get h (by decide)), fun h => h2 (low_get h (by decide)), fun h => h3 (low_get h (by decide)), fun h => h4 (low_get h (by decide)), fun h => h5 (low_get h (by decide)), fun _ => rfl, fun h => h7 (low_get h (by decide)), fun h => h8 (low_get h (by decide)), rfl⟩⟩
    have hm := mem_listed he
    simp [go_sem, *] at hm
    subst hm; exact ⟨_, rfl, hBw⟩
  · -- operation 7
    obtain ⟨hsz, h9, hF, x4, x5, x6, x7, x8, x9, x10, x11, x12, h0, h1, h2, h3, h4, h5, h6, h7, h8, rfl⟩ := hS
    obtain rfl := h4 (ready_dep 7 0 4 hi (by kernel_rfl))
    obtain rfl := h6 (ready_dep 7 1 6 hi (by kernel_rfl))
    refine (Goes.call (m := m) (nf := nB) (o := { dst := some 11, op := .call { callee := .value (.func 8), args := #[.tmp 8, .tmp 10], argTypes := _ }, type := _, pos := _, after := _, guard := none }) TV rfl rfl (by decide) rfl (by walk_nrm; exact hB w hF) (fun v w₁ hp => ?_)).mono (by omega)
    obtain ⟨rfl, hF₁⟩ := hp
    exact hnext _ _ ⟨by simpa using hsz, by rw [Array.getElem?_setIfInBounds_ne (by decide)]; exact h9, hF₁, x4, x5, x6, x7, _, x9, _, _, x12, fun h => h0 (low_get h (by decide)), fun h => h1 (low_get h (by decide)), fun h => h2 (low_get h (by decide)), fun h => h3 (low_get h (by decide)), fun h => h4 (low_get h (by decide)), fun h => h5 (low_get h (by decide)), fun h => h6 (low_get h (by decide)), fun _ => rfl, fun h => h8 (low_get h (by decide)), rfl⟩
  · -- operation 8
    obtain ⟨hsz, h9, hF, x4, x5, x6, x7, x8, x9, x10, x11, x12, h0, h1, h2, h3, h4, h5, h6, h7, h8, rfl⟩ := hS
    obtain rfl := h2 (ready_dep 8 0 2 hi (by kernel_rfl))
    obtain rfl := h7 (ready_dep 8 1 7 hi (by kernel_rfl))
    refine Goes.mono (n := m + 1) (Goes.step rfl fun w₁ h₁ => ?_) (by omega)
    have hF₁ := H.rely _ _ hF h₁
    refine goes_oper_k (o := { dst := some 12, op := .build 35 #[(0, .const (.bool true)), (1, .tmp 6), (2, .tmp 11)], type := 35, pos := _, after := _, guard := none }) rfl rfl (by decide) fun K1 hK1 => ?_
    go_simp
    refine hK1 _ _ ⟨dv_quiet _ fun e he => ?_, hnext _ _ ⟨by simpa using hsz, by rw [Array.getElem?_setIfInBounds_ne (by decide)]; exact h9, hF₁, x4, x5, _, x7, x8, x9, x10, _, _, fun h => h0 (low_get h (by decide)), fun h => h1 (low_get h (by decide)), fun h => h2 (low_get h (by decide)), fun h => h3 (low_get h (by decide)), fun h => h4 (low_get h (by decide)), fun h => h5 (low_get h (by decide)), fun h => h6 (low_get h (by decide)), fun h => h7 (low_get h (by decide)), fun _ => rfl, rfl⟩⟩
    have hm := mem_listed he
    simp [go_sem, *] at hm
  · -- the send
    obtain ⟨hsz, _, hF, x4, x5, x6, x7, x8, x9, x10, x11, x12, h0, h1, h2, h3, h4, h5, h6, h7, h8, rfl⟩ := hS
    have d0 := ready_dep 9 0 0 hi (by kernel_rfl)
    have d8 := ready_dep 9 1 8 hi (by kernel_rfl)
    have d2 := closed_dep hcl 8 0 2 d8 (by kernel_rfl)
    have d7 := closed_dep hcl 8 1 7 d8 (by kernel_rfl)
    have d1 := closed_dep hcl 2 0 1 d2 (by kernel_rfl)
    have d4 := closed_dep hcl 7 0 4 d7 (by kernel_rfl)
    have d6 := closed_dep hcl 7 1 6 d7 (by kernel_rfl)
    have d3 := closed_dep hcl 4 0 3 d4 (by kernel_rfl)
    have d5 := closed_dep hcl 6 0 5 d6 (by kernel_rfl)
    have hrest : rest = [] := hr fun j hj hne => by
      rw [sz2] at hj
      have : l.getD j false = true := by
        obtain rfl | rfl | rfl | rfl | rfl | rfl | rfl | rfl | rfl : j = 0 ∨ j = 1 ∨ j = 2 ∨ j = 3 ∨ j = 4 ∨ j = 5 ∨ j = 6 ∨ j = 7 ∨ j = 8 := by omega
        all_goals assumption
      rw [Array.getElem?_eq_getElem (by omega)]
      simpa [Array.getD_eq_getD_getElem?, Array.getElem?_eq_getElem (show j < l.size by omega)] using this
    subst hrest
    obtain rfl := h0 d0
    obtain rfl := h1 d1
    obtain rfl := h2 d2
    obtain rfl := h3 d3
    obtain rfl := h4 d4
    obtain rfl := h5 d5
    obtain rfl := h6 d6
    obtain rfl := h7 d7
    obtain rfl := h8 d8
    exact Goes.stop fun w₁ h₁ => hlast w₁ (H.rely _ _ hF h₁)

end Go.Proofs.Ytnndfgceehfiiaa
