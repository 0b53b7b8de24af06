/-
  Chapter 3: where an item ends and how deep it is, by the program.
-/
import Derived.Test.YtlmibonebiaocaaGreatDoorMeasW
namespace Go.Proofs.YtlmibonebiaocaaGreatDoor
open Go.RowKit Go.Shelf
attribute [local go_sem] Oper.semAt_some

set_option maxHeartbeats 1000000 in
theorem signsFrom_in (n : Nat) (a : Option Addr) (len cap : Nat) (i : Int) (w : World) :
    CallsIn Fence.wide n Tryz.prog 72 #[.slice a len cap, .int .i64 i] w fun e w' => e = .returned (.func (.func 80) #[] #[.pointer (some ⟨w.heap.size + 1, 0, none⟩), .pointer (some ⟨w.heap.size, 0, none⟩)]) ∧ w' = (w.alloc (.cells #[.slice a len cap] 22)).alloc (.cells #[.int .i64 i] 2) := by
  refine callsIn_of_wp Tryz.func72 rfl trivial ?_ rfl
  simp only [Tryz.ntmps72, List.size_toArray, List.length_cons, List.length_nil, Nat.reduceAdd, Nat.reduceSub, Array.replicate_succ, Array.replicate_zero, List.push_toArray, List.append_toArray, List.nil_append, List.cons_append]
  gi_wp2
  go_ret
  exact ⟨rfl, rfl⟩

theorem kpL_t {n0 bl : Nat} {A B C : World} (h : KpL n0 bl A B) (k : KpL n0 bl B C) : KpL n0 bl A C := ⟨h.1.trans k.1, k.2.trans h.2⟩
theorem kpL_b {n0 bl : Nat} {w : World} (hn : n0 ≤ w.heap.size) (hb : bl < w.heap.size) (W : World) (l : Nat) (o o' : Obj) (hl : w.heap.size ≤ l) (h1 : W.heap[l]? = some o) (h2 : o.isCells = false) (h3 : o.isWalk = false) : KpL n0 bl W (W.putObj l o') := by
  refine ⟨belowK_b (w := w) hn W l o o' hl h1 h2 h3, ?_⟩
  exact World.cell?_of_block (w := W) (a := ⟨bl, 0, none⟩) (World.putObj_heap_other (fun e => by simp at e; omega))

theorem mostZ_snoc' (q : List Pl) (x : Pl) (d : Int) : mostZ (q.map (·.1) ++ [x].map (·.1)) d = max (mostZ (q.map (·.1)) d) x.1.2 := mostZ_snoc _ _ _
theorem measZ_seq (L : List ByteArray) (i : Int) : measZ L i = firstZ (seqZ L i) 0 := by
  unfold measZ seqZ
  split
  · rfl
  · rfl
theorem meas_none {L : List ByteArray} {i : Int} {ys : List Pl} (h : ys.map (·.1) = seqZ L i) (hne : ∀ y ∈ ys, y.1.2 ≠ 0) : measZ L i = (-1, -1) := by
  rw [measZ_seq, ← h, ← List.append_nil (ys.map (·.1)), firstZ_on _ _ _ (fun x hx => by obtain ⟨y, hy, rfl⟩ := List.mem_map.mp hx; exact hne y hy)]
  rfl
theorem meas_some {L : List ByteArray} {i : Int} {q : List Pl} {x : Pl} (h : (q ++ [x]).map (·.1) <+: seqZ L i) (hne : ∀ y ∈ q, y.1.2 ≠ 0) (hx : x.1.2 = 0) : measZ L i = (x.1.1 + 1, mostZ ((q ++ [x]).map (·.1)) 0) := by
  obtain ⟨r, hr⟩ := h
  rw [measZ_seq, ← hr, List.map_append, List.append_assoc, firstZ_on _ _ _ (fun z hz => by obtain ⟨y, hy, rfl⟩ := List.mem_map.mp hz; exact hne y hy), mostZ_snoc' ]
  show (if x.1.2 = 0 then (x.1.1 + 1, max (mostZ (q.map (·.1)) 0) x.1.2) else _) = _
  rw [if_pos hx]
theorem mostZ_pos : ∀ (xs : List (Int × Int)) (d : Int), 0 ≤ d → 0 ≤ mostZ xs d
  | [], _, h => h
  | x :: xs, d, h => mostZ_pos xs (max d x.2) (by omega)

set_option maxRecDepth 100000 in
set_option maxHeartbeats 4000000 in
theorem measured_in (a : Option Addr) (cap : Nat) (L : List ByteArray) (i : Int) (w : World) (h : ArgT w a L) (hL : L.length ≤ 1048576) :
    CallsIn Fence.wide 3 Tryz.prog 64 #[.slice a L.length cap, .int .i64 i] w fun e W' => e = .returned (.tuple #[.int .i64 (measZ L i).1, .int .i64 (measZ L i).2]) ∧ Below w.heap.size w W' := by
  have h1 : 1 ≤ 3 := by omega
  refine callsIn_of_wp_marks Tryz.func64 rfl trivial ?_ rfl
  simp only [Tryz.ntmps64, List.size_toArray, List.length_cons, List.length_nil, Nat.reduceAdd, Nat.reduceSub, Array.replicate_succ, Array.replicate_zero, List.push_toArray, List.append_toArray, List.nil_append, List.cons_append]
  gi_wp2_with (refine ⟨trivial, ?_⟩; gi_at_call 72; refine (signsFrom_in _ _ _ _ _ _).mono ?_; rintro e w' ⟨rfl, rfl⟩)
  obtain ⟨W0, hW0⟩ : ∃ W0, W0 = (((((w.alloc (.cells #[.int .i64 0] 2)).alloc (.cells #[.int .i64 0] 2)).alloc (.cells #[.int .i64 0] 2)).alloc (.cells #[.slice a L.length cap] 22)).alloc (.cells #[.int .i64 i] 2)) := ⟨_, rfl⟩
  have hB0 : Below w.heap.size w W0 := by rw [hW0]; exact balloc (balloc (balloc (balloc (balloc (Below.refl _ _) _) _) _) _) _
  have hsz : W0.heap.size = w.heap.size + 1 + 1 + 1 + 1 + 1 := by rw [hW0]; simp
  have c0 : W0.cell? ⟨w.heap.size, 0, none⟩ = some (.int .i64 0) ∧ W0.frozen? ⟨w.heap.size, 0, none⟩ = false := by rw [hW0]; constructor <;> simp [go_sem]
  have c1 : W0.cell? ⟨w.heap.size + 1, 0, none⟩ = some (.int .i64 0) ∧ W0.frozen? ⟨w.heap.size + 1, 0, none⟩ = false := by rw [hW0]; constructor <;> simp [go_sem]
  have c2 : W0.cell? ⟨w.heap.size + 1 + 1, 0, none⟩ = some (.int .i64 0) ∧ W0.frozen? ⟨w.heap.size + 1 + 1, 0, none⟩ = false := by rw [hW0]; constructor <;> simp [go_sem]
  have c3 : W0.cell? ⟨w.heap.size + 1 + 1 + 1, 0, none⟩ = some (.slice a L.length cap) := by rw [hW0]; simp [go_sem]
  have c4 : W0.cell? ⟨w.heap.size + 1 + 1 + 1 + 1, 0, none⟩ = some (.int .i64 i) := by rw [hW0]; simp [go_sem]
  rw [← hW0]
  clear hW0
  refine wpIn_rangeFunc_ownF rfl h1 (gf := 80) (lb := #[.pointer (some ⟨w.heap.size + 1 + 1 + 1 + 1, 0, none⟩), .pointer (some ⟨w.heap.size + 1 + 1 + 1, 0, none⟩)]) rfl trivial (enters_of Tryz.func80 (by kernel_rfl) rfl)
    (signs_stops 2 (by omega) (w.heap.size + 1 + 1 + 1 + 1) (w.heap.size + 1 + 1 + 1) w.heap.size a cap L i hL W0 (by omega) (by omega) (by omega) c4 c3 (h.low.keep hB0)) kpL_t (kpL_b (by omega) (by omega)) (Below.refl _ _) (fun _ => rfl)
    (fun pre W => ((∀ y ∈ pre, y.1.2 ≠ 0) ∧ W.cell? ⟨w.heap.size, 0, none⟩ = some (.int .i64 0) ∧ W.frozen? ⟨w.heap.size, 0, none⟩ = false ∧ W.cell? ⟨w.heap.size + 1, 0, none⟩ = some (.int .i64 0) ∧ W.frozen? ⟨w.heap.size + 1, 0, none⟩ = false ∧ W.cell? ⟨w.heap.size + 1 + 1, 0, none⟩ = some (.int .i64 (mostZ (pre.map (·.1)) 0)) ∧ W.frozen? ⟨w.heap.size + 1 + 1, 0, none⟩ = false) ∧ Below w.heap.size w W)
    (fun c pre W => (c = .ret ∧ (∃ q x, pre = q ++ [x] ∧ (∀ y ∈ q, y.1.2 ≠ 0) ∧ x.1.2 = 0 ∧ W.cell? ⟨w.heap.size, 0, none⟩ = some (.int .i64 (x.1.1 + 1)) ∧ W.cell? ⟨w.heap.size + 1, 0, none⟩ = some (.int .i64 (mostZ (pre.map (·.1)) 0)))) ∧ Below w.heap.size w W)
    (OwnFrom.and (Own.from (fun s A B row hs hg hr => ⟨hs.1, cell_kept hs.2.1 hg hr, (frozen_kept hs.2.1 hg hr).trans hs.2.2.1, cell_kept hs.2.2.2.1 hg hr, (frozen_kept hs.2.2.2.1 hg hr).trans hs.2.2.2.2.1, cell_kept hs.2.2.2.2.2.1 hg hr, (frozen_kept hs.2.2.2.2.2.1 hg hr).trans hs.2.2.2.2.2.2⟩) _) (ownFrom_below (Nat.le_refl _) (by omega)))
    (fun c => OwnFrom.and (Own.from (fun s A B row hs hg hr => ⟨hs.1, by obtain ⟨q, x, h1, h2, h3, h4, h5⟩ := hs.2; exact ⟨q, x, h1, h2, h3, cell_kept h4 hg hr, cell_kept h5 hg hr⟩⟩) _) (ownFrom_below (Nat.le_refl _) (by omega)))
    ⟨⟨by simp, c0.1, c0.2, c1.1, c1.2, c2.1, c2.2⟩, hB0⟩
    (fun x => { tmps := #[.slice a L.length cap, .int .i64 i, undef, undef, .pointer (some ⟨w.heap.size, 0, none⟩), .pointer (some ⟨w.heap.size + 1, 0, none⟩), .pointer (some ⟨w.heap.size + 1 + 1, 0, none⟩), .int .i64 x.1.1, .int .i64 x.1.2, .slice a L.length cap, .int .i64 i, .func (.func 80) #[] #[.pointer (some ⟨w.heap.size + 1 + 1 + 1 + 1, 0, none⟩), .pointer (some ⟨w.heap.size + 1 + 1 + 1, 0, none⟩)], .int .i64 x.1.1, .int .i64 x.1.2, undef, undef, undef, undef, undef, undef, undef, undef], defers := [] }) ?assign ?body ?done ?stop
  case assign =>
    intro l x W K hK
    simp only [encP]
    gi_wp2
    exact hK
  case body =>
    rintro l pre x W ⟨⟨hp, d0, f0, d1, f1, d2, f2⟩, hB⟩ _
    obtain ⟨⟨px, ox⟩, hx0, hx1, hx2, hx3⟩ := x
    simp only at hx0 hx1 hx2 hx3
    have HM : Hid (mostZ ((pre ++ [(⟨(px, ox), ⟨hx0, hx1, hx2, hx3⟩⟩ : Pl)]).map (·.1)) 0 = max (mostZ (pre.map (·.1)) 0) ox) := by
      show mostZ ((pre ++ [(⟨(px, ox), ⟨hx0, hx1, hx2, hx3⟩⟩ : Pl)]).map (·.1)) 0 = max (mostZ (pre.map (·.1)) 0) ox
      rw [List.map_append]
      exact mostZ_snoc _ _ _
    have hD0 := mostZ_pos (pre.map (·.1)) 0 (Int.le_refl _)
    generalize mostZ (pre.map (·.1)) 0 = D at d2 HM hD0
    have hmix : Tryz.prog.follows .mixedOrders = true := by kernel_rfl
    simp only
    by_cases hz : ox = 0
    · subst hz
      have HM2 : Hid (mostZ ((pre ++ [(⟨(px, 0), ⟨hx0, hx1, hx2, hx3⟩⟩ : Pl)]).map (·.1)) 0 = D) := HM.out.trans (by omega)
      clear HM
      have hwr : IntKind.i64.wrap (px + 1) = px + 1 := by rw [IntKind.wrap_i64]; omega
      gi_wp2
      all_goals gi_region_with_o (fail)
      all_goals gi_wp2
      all_goals refine ⟨(((KeepsOthers.setCell _ _ _).trans (KeepsOthers.setCell _ _ _)).trans (KeepsOthers.setCell _ _ _)).trans (KeepsOthers.drew _), ⟨rfl, pre, _, rfl, hp, rfl, ?_, ?_⟩, (((hB.setCell (by simp <;> omega) _).setCell (by simp <;> omega) _).setCell (by simp <;> omega) _).drew⟩
      all_goals first | (rw [HM2.out]; simp [go_sem, d1]; done) | (simp [go_sem, d0]; done)
    · have bz : (ox == 0) = false := by simpa using hz
      have hall : ∀ y ∈ pre ++ [(⟨(px, ox), ⟨hx0, hx1, hx2, hx3⟩⟩ : Pl)], y.1.2 ≠ 0 := fun y hy => by
        rcases List.mem_append.mp hy with hy | hy
        · exact hp y hy
        · rw [List.mem_singleton] at hy
          rw [hy]
          exact hz
      have HA : Hid (∀ y ∈ pre ++ [(⟨(px, ox), ⟨hx0, hx1, hx2, hx3⟩⟩ : Pl)], y.1.2 ≠ 0) := hall
      clear hall
      have hkp : ∀ v, KpL w.heap.size (w.heap.size + 1 + 1 + 1) W (W.setCell ⟨w.heap.size + 1 + 1, 0, none⟩ v) := fun v => ⟨(Below.refl _ _).setCell (p := ⟨w.heap.size + 1 + 1, 0, none⟩) (by simp; omega) v, by simp [go_sem]⟩
      gi_wp2
      all_goals refine ⟨KeepsOthers.setCell _ _ _, hkp _, ⟨?_, ?_, ?_, ?_, ?_, ?_, ?_⟩, hB.setCell (p := ⟨w.heap.size + 1 + 1, 0, none⟩) (by simp; omega) _⟩
      all_goals first | exact HA.out | exact fun y z b hm => HA.out ⟨(y, z), b⟩ hm | (rw [HM.out]; simp [go_sem, d2]; omega) | (simp [go_sem, d0]; done) | (simp [go_sem, d1]; done) | (simp [go_sem, f0]; done) | (simp [go_sem, f1]; done) | (simp [go_sem, f2]; done)
  case done =>
    rintro D ys W hD hys ⟨⟨hne, d0, f0, d1, f1, d2, f2⟩, hB⟩ hK
    have HZ : Hid (measZ L i = (-1, -1)) := meas_none hys hne
    gi_wp2
    have hK' := ((KeepsOthers.setCell W ⟨w.heap.size, 0, none⟩ (.int .i64 (-1))).trans (KeepsOthers.setCell _ ⟨w.heap.size + 1, 0, none⟩ (.int .i64 (-1)))).same D _ hK rfl
    refine ⟨by simp, .inl ⟨_, _, rfl, run_takeDeferred hK', ?_⟩⟩
    have e0 : ((W.setCell ⟨w.heap.size, 0, none⟩ (.int .i64 (-1))).setCell ⟨w.heap.size + 1, 0, none⟩ (.int .i64 (-1))).cell? ⟨w.heap.size, 0, none⟩ = some (.int .i64 (-1)) := by simp [go_sem, d0]
    have e1 : ((W.setCell ⟨w.heap.size, 0, none⟩ (.int .i64 (-1))).setCell ⟨w.heap.size + 1, 0, none⟩ (.int .i64 (-1))).cell? ⟨w.heap.size + 1, 0, none⟩ = some (.int .i64 (-1)) := by simp [go_sem, d1]
    have q0 := cell_kept e0 (grownBy_putObj' _ D (.deferred none)) (fun r e => by cases e; exact ⟨_, hK', rfl⟩)
    have q1 := cell_kept e1 (grownBy_putObj' _ D (.deferred none)) (fun r e => by cases e; exact ⟨_, hK', rfl⟩)
    refine ⟨.tuple #[.int .i64 (-1), .int .i64 (-1)], ?_, by rw [HZ.out], ((hB.setCell (p := ⟨w.heap.size, 0, none⟩) (by simp) _).setCell (p := ⟨w.heap.size + 1, 0, none⟩) (by simp) _).trans (belowK_b (w := w) (Nat.le_refl _) _ D _ _ (by omega) hK' rfl rfl)⟩
    simp [results, Tryz.results64, go_sem, q0, q1]
  case stop =>
    rintro D c pre W hD hpre ⟨⟨rfl, q, x, rfl, hq, hx, d0, d1⟩, hB⟩ hK
    have HZ : Hid (measZ L i = (x.1.1 + 1, mostZ ((q ++ [x]).map (·.1)) 0)) := meas_some hpre hq hx
    generalize mostZ ((q ++ [x]).map (·.1)) 0 = T at d1 HZ
    gi_wp2
    refine ⟨by simp, .inl ⟨_, _, rfl, run_takeDeferred hK, ?_⟩⟩
    have q0 := cell_kept d0 (grownBy_putObj' _ D (.deferred none)) (fun r e => by cases e; exact ⟨_, hK, rfl⟩)
    have q1 := cell_kept d1 (grownBy_putObj' _ D (.deferred none)) (fun r e => by cases e; exact ⟨_, hK, rfl⟩)
    refine ⟨.tuple #[.int .i64 (x.1.1 + 1), .int .i64 T], ?_, by rw [HZ.out], hB.trans (belowK_b (w := w) (Nat.le_refl _) W D _ _ (by omega) hK rfl rfl)⟩
    simp [results, Tryz.results64, go_sem, q0, q1]

theorem measured_any (a : Option Addr) (cap : Nat) (L : List ByteArray) (i : Int) (w : World) (h : ArgT w a L) (hL : L.length ≤ 1048576) :
    Calls Tryz.prog 64 #[.slice a L.length cap, .int .i64 i] w fun e W' => e = .returned (.tuple #[.int .i64 (measZ L i).1, .int .i64 (measZ L i).2]) ∧ Below w.heap.size w W' :=
  callsIn_wide.1 (measured_in a cap L i w h hL)

end Go.Proofs.YtlmibonebiaocaaGreatDoor
