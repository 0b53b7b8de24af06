/-
  RdTwo: ItmI, ItmP, in one text.
-/
import Derived.Test.YtdggghbeicmanaaGreatDoorRRZItems
import Derived.Test.YtdggghbeicmanaaGreatDoorRRZRdR
/-
  Chapter 3: ItemsIn, by the program; the items of a list, collected.
-/
namespace Go.Proofs.YtdggghbeicmanaaGreatDoorRR
open Go.RowKit Go.Shelf
attribute [local go_sem] Oper.semAt_some

set_option maxHeartbeats 1000000 in
theorem itemsFrom_in (n : Nat) (a : Option Addr) (len cap : Nat) (i : Int) (w : World) :
    CallsIn Fence.wide n Tryz.prog 57 #[.slice a len cap, .int .i64 i] w fun e w' => e = .returned (.func (.func 71) #[] #[.pointer (some ⟨w.heap.size + 1, 0, none⟩), .pointer (some ⟨w.heap.size, 0, none⟩)]) ∧ w' = (w.alloc (.cells #[.slice a len cap] 22)).alloc (.cells #[.int .i64 i] 2) := by
  refine callsIn_of_wp Tryz.func57 rfl trivial ?_ rfl
  simp only [Tryz.ntmps57, List.size_toArray, List.length_cons, List.length_nil, Nat.reduceAdd, Nat.reduceSub, Array.replicate_succ, Array.replicate_zero, List.push_toArray, List.append_toArray, List.nil_append, List.cons_append]
  gi_wp2
  go_ret
  exact ⟨rfl, rfl⟩

theorem own_shape' {w : World} {B : Nat} {e : TypeId} {sz n : Nat} {v : Value} {xs : List Value} (h : w.ownsRow B e sz v n xs) : ∃ av cv, v = .slice av n cv ∧ n ≤ cv ∧ cv ≤ maxLen ∧ (av = none → n = 0) ∧ ∀ p, av = some p → ∃ g, p = ⟨g, 0, none⟩ ∧ v.ownBlock = some g := by
  rcases h.2 with ⟨rfl, rfl⟩ | ⟨g, cap, cur, rfl, _, _, h1, h2, _⟩
  · exact ⟨none, 0, rfl, Nat.le_refl _, Nat.zero_le _, fun _ => rfl, fun p hp => by cases hp⟩
  · exact ⟨some ⟨g, 0, none⟩, cap, rfl, h1, h2, (fun h => by cases h), (fun p hp => by cases hp; exact ⟨g, rfl, rfl⟩)⟩
theorem kpH_t {n0 bl : Nat} {A B C : World} (h : KpH n0 bl A B) (k : KpH n0 bl B C) : KpH n0 bl A C := ⟨h.1.trans k.1, k.2.trans h.2⟩
theorem kpH_b {n0 bl : Nat} {w : World} (hn : n0 ≤ w.heap.size) (hb : bl < w.heap.size) (W : World) (l : Nat) (o o' : Obj) (hl : w.heap.size ≤ l) (h1 : W.heap[l]? = some o) (h2 : o.isCells = false) (h3 : o.isWalk = false) : KpH n0 bl W (W.putObj l o') :=
  ⟨belowK_b (w := w) hn W l o o' hl h1 h2 h3, World.putObj_heap_other (fun e => by omega)⟩

theorem itms_stops (n : Nat) (hn : 1 ≤ n) (ba bl n0 : Nat) (a : Option Addr) (cap : Nat) (L : List ByteArray) (i e : Int) (k : Nat) (hL : L.length ≤ 1048576) (hsg : signsB L = true) (hch : chI L k i e) (he0 : 0 ≤ e) (he : itemE L e = -1) (w : World) (hba : ba < w.heap.size) (hbl : bl < w.heap.size) (hn0 : n0 ≤ w.heap.size)
    (hca : w.cell? ⟨ba, 0, none⟩ = some (.int .i64 i)) (hcl : w.cell? ⟨bl, 0, none⟩ = some (.slice a L.length cap)) (hA : ArgB n0 w a L) :
    SeqStopsK Fence.wide n Tryz.prog 71 #[.pointer (some ⟨ba, 0, none⟩), .pointer (some ⟨bl, 0, none⟩)] encI (KpH n0 bl) (fun ys => ys = chainP L k i) (fun pre => pre <+: chainP L k i) k w := fun l J Jx W hW hJ _ hY h0 =>
  itms1_in n hn l ba bl n0 W.heap.size a cap L i e k hL hsg hch he0 he J Jx hJ hY W ((hW.cell (p := ⟨ba, 0, none⟩) hba).trans hca) ((hW.cell (p := ⟨bl, 0, none⟩) hbl).trans hcl) (Nat.lt_of_lt_of_le hba hW.size) (Nat.lt_of_lt_of_le hbl hW.size) (hA.keep (hW.mono hn0)) (Nat.le_trans hn0 hW.size) h0

theorem infoI : (Tryz.prog.info? 2).map (fun i => (i.zero, i.size, i.bytes)) = some (some (.int .i64 0), 1, 8) := by kernel_rfl
/-- Numbers in memory of the call's own. -/
def OwnI (w : World) (B : Nat) (v : Value) (X : List Int) : Prop := w.ownsRow B 2 1 v X.length (X.map fun x => .int .i64 x)
theorem OwnI.row {S : Nat → Prop} {w : World} {B : Nat} {v : Value} {X : List Int} (h : OwnI w B v X) (hS : ∀ k, S k → k < B) : ∃ av cv, v = .slice av X.length cv ∧ X.length ≤ cv ∧ RowI S w av X := by
  rcases h.2 with ⟨rfl, hn⟩ | ⟨g, cv, cur, rfl, hb, hg, h1, h2, _⟩
  · refine ⟨none, 0, by rw [hn], by omega, fun i hi => by omega⟩
  · refine ⟨_, cv, rfl, h1, fun i hi => ⟨g, 0, rfl, (Array.getElem?_eq_some_iff.1 hg).1, fun hs => by have := hS g hs; omega, ?_⟩⟩
    have hc := World.ownsRow.cells h (g := g) rfl i (.int .i64 X[i]) (by simp [hi])
    have hadd : (⟨g, 0, none⟩ : Addr).add i = ⟨g, i, none⟩ := by unfold Addr.add; split <;> simp_all
    rw [hadd] at hc
    rw [Nat.zero_add]
    exact hc
theorem chP_len (L : List ByteArray) : ∀ k i, (chainP L k i).length = k
  | 0, _ => rfl
  | k + 1, i => by
    show (i :: chainP L k (itemE L i)).length = k + 1
    rw [List.length_cons, chP_len L k]

set_option maxHeartbeats 1000000 in
theorem opensI_yes (a : Option Addr) (cap : Nat) (L : List ByteArray) (i : Int) (w : World) (h : ArgT w a L) (hL : L.length ≤ 1048576) (hs : signsB L = true) (ho : isW (sgAt L i) [40] = true) (hit : 0 ≤ itemE L i) :
    Calls Tryz.prog 23 #[.slice a L.length cap, .int .i64 i] w fun e w' => e = .returned (.bool true) ∧ Below w.heap.size w w' := by
  obtain ⟨h0, h1⟩ := sgAt_open ho
  obtain ⟨ii, rfl⟩ : ∃ ii : Nat, i = (ii : Int) := ⟨i.toNat, by omega⟩
  obtain ⟨sb, off, rfl, hsb, hc, _⟩ := h ii (by omega)
  have b40 : ((sgAt L (ii : Int)).toList == [40]) = true := ho
  have hg : sgAt L (ii : Int) = L[ii] := by rw [sgAt_in (by omega) (by omega)]; rfl
  rw [← hg] at hc
  go_enter Tryz.func23, Tryz.ntmps23
  go_wp2_with fail
  refine (itemEndI_any _ cap L (ii : Int) _ h hL hs).mono ?_
  rintro e w1 ⟨rfl, hb1⟩
  have hc1 := (hb1.cell (p := ⟨sb, off + ii, none⟩) hsb).trans hc
  generalize itemE L (ii : Int) = z at hit
  generalize sgAt L (ii : Int) = s at hc1 b40
  clear hc hg
  go_wp2
  go_ret
  exact ⟨rfl, hb1⟩

set_option maxRecDepth 100000 in
set_option maxHeartbeats 4000000 in
theorem itemsInI_in (a : Option Addr) (cap : Nat) (L : List ByteArray) (i e : Int) (k : Nat) (hL : L.length ≤ 1048576) (hsg : signsB L = true) (ho : isW (sgAt L i) [40] = true) (hit : 0 ≤ itemE L i) (hch : chI L k (i + 1) e) (he0 : 0 ≤ e) (he1 : e ≤ (L.length : Int)) (he : itemE L e = -1) (w : World) (hA : ArgT w a L) :
    CallsIn Fence.wide 3 Tryz.prog 24 #[.slice a L.length cap, .int .i64 i] w fun e W' => ∃ v, e = .returned v ∧ OwnI W' w.heap.size v (chainP L k (i + 1)) ∧ Below w.heap.size w W' := by
  have h1 : 1 ≤ 3 := by omega
  obtain ⟨hi0, hi1⟩ := sgAt_open ho
  have hkl : k ≤ 1048576 := by have := chI_ends k _ hch he0; omega
  obtain ⟨i0, hi, hz0, hz1, hz2⟩ := info_parts infoI
  refine callsIn_of_wp_marks Tryz.func24 rfl trivial ?_ rfl
  simp only [Tryz.ntmps24, List.size_toArray, List.length_cons, List.length_nil, Nat.reduceAdd, Nat.reduceSub, Array.replicate_succ, Array.replicate_zero, List.push_toArray, List.append_toArray, List.nil_append, List.cons_append]
  obtain ⟨Wa, hWa⟩ : ∃ Wa, Wa = (w.alloc (.cells #[] 2)).alloc (.cells #[.slice (some ⟨w.heap.size, 0, none⟩) 0 0] 29) := ⟨_, rfl⟩
  have hBa : Below w.heap.size w Wa := by rw [hWa]; exact balloc (balloc (Below.refl _ _) _) _
  have hza : Wa.heap.size = w.heap.size + 1 + 1 := by rw [hWa]; simp
  have hboxa : Boxed Wa (w.heap.size + 1) 29 (.slice (some ⟨w.heap.size, 0, none⟩) 0 0) := by
    have := Boxed.new (w.alloc (.cells #[] 2)) 29 (.slice (some ⟨w.heap.size, 0, none⟩) 0 0)
    rw [World.size_alloc] at this
    rw [hWa]
    exact this
  have hrowa : Wa.ownsRow w.heap.size 2 1 (.slice (some ⟨w.heap.size, 0, none⟩) 0 0) 0 [] := by
    rw [hWa]
    exact World.ownsRow.alloc (World.ownsRow_made w #[] 0 (Nat.le_refl _) (Nat.zero_le _) rfl) _
  gi_wp2_with fail
  rw [← hWa]
  clear hWa
  refine ⟨trivial, (callsIn_wide.2 (opensI_yes a cap L i _ (hA.call hBa) hL hsg ho hit)).mono ?_⟩
  rintro r w1 ⟨rfl, hb1⟩
  have hB1 := bstep hBa hb1
  have hbox1 : Boxed w1 (w.heap.size + 1) 29 (.slice (some ⟨w.heap.size, 0, none⟩) 0 0) := (hb1.block _ (by omega)).trans hboxa
  have hrow1 : w1.ownsRow w.heap.size 2 1 (.slice (some ⟨w.heap.size, 0, none⟩) 0 0) 0 [] := own_kept hrowa (fun g hg => hb1.block g (World.ownsRow.lt hrowa g hg).2)
  have hz1' : w.heap.size + 1 + 1 ≤ w1.heap.size := by have := hb1.size; omega
  clear hboxa hrowa hBa hza hb1
  have hwr : IntKind.i64.wrap (i + 1) = i + 1 := IntWalk.i64_in _ (by omega)
  gi_wp2_with fail
  refine ⟨trivial, (itemsFrom_in _ a L.length cap (i + 1) w1).mono ?_⟩
  rintro r w2 ⟨rfl, rfl⟩
  gi_wp2
  obtain ⟨W0, hW0⟩ : ∃ W0, W0 = (w1.alloc (.cells #[.slice a L.length cap] 22)).alloc (.cells #[.int .i64 (i + 1)] 2) := ⟨_, rfl⟩
  have hB0 : Below w.heap.size w W0 := by rw [hW0]; exact balloc (balloc hB1 _) _
  have hsz : W0.heap.size = w1.heap.size + 1 + 1 := by rw [hW0]; simp
  have hbox : Boxed W0 (w.heap.size + 1) 29 (.slice (some ⟨w.heap.size, 0, none⟩) 0 0) := by rw [hW0]; exact (hbox1.alloc _).alloc _
  have hrow0 : W0.ownsRow w.heap.size 2 1 (.slice (some ⟨w.heap.size, 0, none⟩) 0 0) 0 [] := by rw [hW0]; exact World.ownsRow.alloc (World.ownsRow.alloc hrow1 _) _
  have hbl0 : Boxed W0 w1.heap.size 22 (.slice a L.length cap) := by rw [hW0]; exact (Boxed.new w1 _ _).alloc _
  have hca0 : W0.cell? ⟨w1.heap.size + 1, 0, none⟩ = some (.int .i64 (i + 1)) := by
    have := Boxed.new (w1.alloc (.cells #[.slice a L.length cap] 22)) 2 (.int .i64 (i + 1))
    rw [World.size_alloc] at this
    rw [hW0]
    exact this.cell
  rw [← hW0]
  clear hW0 hbox1 hrow1
  refine wpIn_rangeFunc_ownF rfl h1 (gf := 71) (lb := #[.pointer (some ⟨w1.heap.size + 1, 0, none⟩), .pointer (some ⟨w1.heap.size, 0, none⟩)]) rfl trivial (enters_of Tryz.func71 (by kernel_rfl) rfl)
    (itms_stops 2 (by omega) (w1.heap.size + 1) w1.heap.size w.heap.size a cap L (i + 1) e k hL hsg hch he0 he W0 (by omega) (by omega) (by omega) hca0 hbl0.cell (hA.low.keep hB0)) kpH_t (kpH_b (by omega) (by omega)) (Below.refl _ _) (fun _ => rfl)
    (fun pre W => (∃ v, Boxed W (w.heap.size + 1) 29 v ∧ W.ownsRow w.heap.size 2 1 v pre.length (pre.map fun x => .int .i64 x) ∧ True) ∧ (Boxed W w1.heap.size 22 (.slice a L.length cap) ∧ Below w.heap.size w W))
    (fun _ _ _ => False)
    (OwnFrom.and (Own.from (holdsRow_own w.heap.size (w.heap.size + 1) 29 2 1 (fun pre : List Int => pre.length) (fun pre => pre.map fun x => .int .i64 x) (fun _ _ => True)) _) (OwnFrom.and (Own.from (boxed_own w1.heap.size 22 (fun _ : List Int => .slice a L.length cap)) _) (ownFrom_below (Nat.le_refl _) (by omega))))
    (fun c s A B row hs hg hr => hs)
    ⟨⟨_, hbox, hrow0, trivial⟩, hbl0, hB0⟩
    (fun x => { tmps := #[.slice a L.length cap, .int .i64 i, undef, undef, .slice none 0 0, .pointer (some ⟨w.heap.size + 1, 0, none⟩), .int .i64 x, .slice (some ⟨w.heap.size, 0, none⟩) 0 0, .slice a L.length cap, .int .i64 i, .bool true, .bool false, undef, .slice a L.length cap, .int .i64 i, .int .i64 (i + 1), .func (.func 71) #[] #[.pointer (some ⟨w1.heap.size + 1, 0, none⟩), .pointer (some ⟨w1.heap.size, 0, none⟩)], .int .i64 x, undef, undef, undef, undef, undef], defers := [] }) ?assign ?body ?done ?stop
  case assign =>
    intro l x W K hK
    simp only [encI]
    gi_wp2
    exact hK
  case body =>
    rintro l pre x W ⟨⟨v, hv, hrow, _⟩, hbx, hB⟩ hlen
    have hc := hv.cell
    have hf := hv.frozen
    have hz := hB.size
    have hb1 : pre.length + 1 ≤ maxLen := by unfold maxLen; omega
    have hb2 : (pre.length + 1) * 8 ≤ 140737488355328 := by omega
    have hb3 : w.heap.size ≤ (W.alloc (.cells #[.int .i64 x] 2)).heap.size := by simp; omega
    have hcc2 : ∀ u ∈ [Value.int .i64 x], u.oneCell' = true := fun u hu => by simp at hu; subst hu; rfl
    have hnr := hbx.not_row (by decide) hrow
    gi_wp2_with (gi_at_builtin; refine wpListIn_append_own _ rfl _ _ 29 rfl w.heap.size 2 i0 (.int .i64 0) 1 8 Tryz.underlying29 hi hz0 hz1 hz2 rfl (by decide) _ _ _ rfl (hrow.alloc _) ⟨W.heap.size, 0, none⟩ 1 1 [.int .i64 x] rfl rfl (cell_one_new _ _ _) hcc2 hb1 hb2 hb3 ?_; intro v' w3 hown' hgrow _; obtain ⟨g', cap', rfl⟩ := ownsRow_succ hown'; obtain ⟨hv1, hv2, hr2, hk2, hbb⟩ := hv.appended (by decide) hrow hB.size (Nat.le_succ _) hown' hgrow; have hbx3 := (hbx.alloc (.cells #[.int .i64 x] 2)).kept hgrow hnr; have hbx4 := hbx3.other (B' := w.heap.size + 1) (by omega) (.slice (some ⟨g', 0, none⟩) (pre.length + 1) cap'); have hc1 := hv1.cell; have hf1 := hv1.frozen)
    exact ⟨hk2, ⟨hbb, hbx4.trans hbx.symm⟩, ⟨_, hv2, by simpa using hr2, trivial⟩, hbx4, hB.trans hbb⟩
  case done =>
    rintro D ys W hD rfl ⟨⟨v, hv, hrow, _⟩, hbx, hB⟩ hK
    obtain ⟨av, cv, rfl, _, _, _, _⟩ := own_shape' hrow
    have hc := hv.cell
    gi_wp2
    refine ⟨by simp, .inl ⟨_, _, rfl, run_takeDeferred hK, ?_⟩⟩
    exact ⟨.slice av (chainP L k (i + 1)).length cv, by simp [results, Tryz.results24, go_sem], _, rfl, ownsRow_putObj hrow _ hK rfl, hB.trans (belowK_b (w := w) (Nat.le_refl _) W D _ _ (by omega) hK rfl rfl)⟩
  case stop =>
    rintro D c pre W _ _ h _
    exact h.elim
theorem itemsInI_any (a : Option Addr) (cap : Nat) (L : List ByteArray) (i e : Int) (k : Nat) (hL : L.length ≤ 1048576) (hsg : signsB L = true) (ho : isW (sgAt L i) [40] = true) (hit : 0 ≤ itemE L i) (hch : chI L k (i + 1) e) (he0 : 0 ≤ e) (he1 : e ≤ (L.length : Int)) (he : itemE L e = -1) (w : World) (hA : ArgT w a L) :
    Calls Tryz.prog 24 #[.slice a L.length cap, .int .i64 i] w fun e W' => ∃ v, e = .returned v ∧ OwnI W' w.heap.size v (chainP L k (i + 1)) ∧ Below w.heap.size w W' :=
  callsIn_wide.1 (itemsInI_in a cap L i e k hL hsg ho hit hch he0 he1 he w hA)
end Go.Proofs.YtdggghbeicmanaaGreatDoorRR

/-
  Chapter 5, the program: the parts of a form; what a deed declares.
-/
namespace Go.Proofs.YtdggghbeicmanaaGreatDoorRR
open Go.RowKit

section
variable {L : List ByteArray} {i e : Int}
/-- The word of a form is no bracket. -/
theorem ItV.plain (h : ItV L i) (ho : isW (sgAt L i) [40] = true) : plainS (sgAt L (i + 1)) := by
  obtain ⟨w, g, hw, hg, _, _⟩ := h.form ho
  have hm := List.mem_of_find?_eq_some hg
  have hh := List.find?_some hg
  unfold hitB at hh
  rw [Bool.and_eq_true] at hh
  have hh2 := hh.2
  unfold formL at hm
  simp only [List.mem_cons, List.not_mem_nil, or_false] at hm
  clear hg
  unfold plainS isW
  rcases hm with rfl | rfl | rfl | rfl | rfl | rfl | rfl | rfl | rfl | rfl | rfl | rfl | rfl | rfl | rfl | rfl | rfl | rfl | rfl | rfl | rfl | rfl | rfl | rfl | rfl | rfl | rfl | rfl | rfl | rfl | rfl | rfl | rfl | rfl
  all_goals first
    | (exfalso; rcases hw with rfl | rfl <;> exact absurd hh.1 (by decide))
    | (simp only [List.isEmpty, Bool.false_or, beq_iff_eq] at hh2; rw [← hh2]; decide)
/-- The parts of a form. -/
theorem ItV.parts (h : ItV L i) (ho : isW (sgAt L i) [40] = true) : itemE L (i + 1) = i + 2 ∧ ∃ k e, chI L k (i + 2) e ∧ 0 ≤ e ∧ e < (L.length : Int) ∧ isW (sgAt L e) [41] = true ∧ itemE L i = e + 1 := by
  have hp := h.plain ho
  obtain ⟨h0, h1⟩ := sgAt_open ho
  have hen := h.ends
  obtain ⟨k, e, h2, h3, h4, h5, h6⟩ := item_parts ho (by omega)
  have hie := chI_ends k _ h2 h3
  have hne : i + 1 ≠ e := fun e1 => by
    rw [← e1] at h5
    rw [hp.2] at h5
    cases h5
  have hit : itemE L (i + 1) = i + 2 := by rw [item_one (by omega) (by omega) hp]; omega
  obtain ⟨m, rfl, _, h8⟩ := chI_next h2 (by omega)
  rw [hit] at h8
  exact ⟨hit, m, e, h8, h3, h4, h5, h6⟩
theorem chainP_succ (L : List ByteArray) (k : Nat) (i : Int) : chainP L (k + 1) i = i :: chainP L k (itemE L i) := rfl
theorem parts_again (h : ItV L i) (ho : isW (sgAt L i) [40] = true) {k : Nat} (hch : chI L k (i + 2) e) : chI L (k + 1) (i + 1) e := by
  obtain ⟨hit, _⟩ := h.parts ho
  have h0 := sgAt_open ho
  exact ⟨by rw [hit]; omega, by rw [hit]; exact hch⟩
end
/-- Numbers that lie from block B on. -/
def RowN (B : Nat) (w : World) (a : Option Addr) (X : List Int) : Prop := ∀ i (h : i < X.length), ∃ sb off, a = some ⟨sb, off, none⟩ ∧ sb < w.heap.size ∧ B ≤ sb ∧ w.cell? ⟨sb, off + i, none⟩ = some (.int .i64 X[i])
theorem RowN.row {B : Nat} {S : Nat → Prop} {w : World} {a : Option Addr} {X : List Int} (h : RowN B w a X) (hS : ∀ k, S k → k < B) : RowI S w a X := fun i hi => by
  obtain ⟨sb, off, h1, h2, h3, h4⟩ := h i hi
  exact ⟨sb, off, h1, h2, fun hs => by have := hS sb hs; omega, h4⟩
theorem RowN.call {B : Nat} {w w' : World} {a : Option Addr} {X : List Int} (h : RowN B w a X) (hb : Below w.heap.size w w') : RowN B w' a X := fun i hi => by
  obtain ⟨sb, off, h1, h2, h3, h4⟩ := h i hi
  exact ⟨sb, off, h1, Nat.lt_of_lt_of_le h2 hb.size, h3, (hb.cell (p := ⟨sb, off + i, none⟩) h2).trans h4⟩
theorem RowN.tail {B g o : Nat} {w : World} {x : Int} {X : List Int} (h : RowN B w (some ⟨g, o, none⟩) (x :: X)) : RowN B w (some ⟨g, o + 1, none⟩) X := fun i hi => by
  obtain ⟨sb, off, h1, h2, h3, h4⟩ := h (i + 1) (by simp; omega)
  injection h1 with h1
  injection h1 with e1 e2 _
  subst e1 e2
  refine ⟨g, o + 1, rfl, h2, h3, ?_⟩
  rw [show o + 1 + i = o + (i + 1) by omega]
  simpa using h4
theorem OwnI.rowN {w : World} {B : Nat} {v : Value} {X : List Int} (h : OwnI w B v X) : ∃ av cv, v = .slice av X.length cv ∧ X.length ≤ cv ∧ RowN B w av X := by
  rcases h.2 with ⟨rfl, hn⟩ | ⟨g, cv, cur, rfl, hb, hg, h1, h2, _⟩
  · refine ⟨none, 0, by rw [hn], by omega, fun i hi => by omega⟩
  · refine ⟨_, cv, rfl, h1, fun i hi => ⟨g, 0, rfl, (Array.getElem?_eq_some_iff.1 hg).1, hb, ?_⟩⟩
    have hc := World.ownsRow.cells h (g := g) rfl i (.int .i64 X[i]) (by simp [hi])
    have hadd : (⟨g, 0, none⟩ : Addr).add i = ⟨g, i, none⟩ := by unfold Addr.add; split <;> simp_all
    rw [hadd] at hc
    rw [Nat.zero_add]
    exact hc

set_option maxHeartbeats 1000000 in
theorem partsOf_any (a : Option Addr) (cap : Nat) (L : List ByteArray) (i e : Int) (k : Nat) (hL : L.length ≤ 1048576) (hsg : signsB L = true) (hv : ItV L i) (ho : isW (sgAt L i) [40] = true) (hch : chI L k (i + 2) e) (he0 : 0 ≤ e) (he1 : e < (L.length : Int)) (he : isW (sgAt L e) [41] = true) (w : World) (hA : ArgT w a L) :
    Calls Tryz.prog 15 #[.slice a L.length cap, .int .i64 i] w fun r W' => ∃ av cv, r = .returned (.slice av k cv) ∧ k ≤ cv ∧ RowN w.heap.size W' av (chainP L k (i + 2)) ∧ Below w.heap.size w W' := by
  have hit := (hv.parts ho).1
  have hen := hv.ends
  have hk := chI_ends k _ hch he0
  go_enter Tryz.func15, Tryz.ntmps15
  go_wp2_with fail
  refine (itemsInI_any a cap L i e (k + 1) hL hsg ho (by omega) (parts_again hv ho hch) he0 (by omega) (itemE_none (Or.inr (Or.inr he))) _ hA).mono ?_
  rintro r w1 ⟨v, rfl, hO, hB⟩
  have hO' : w1.ownsRow w.heap.size 2 1 v (k + 1) ((chainP L (k + 1) (i + 1)).map fun x => .int .i64 x) := by
    have := hO
    unfold OwnI at this
    rwa [chP_len] at this
  obtain ⟨g, cv, rfl⟩ := ownsRow_succ hO'
  obtain ⟨_, _, hsh, hcv, hR⟩ := hO.rowN
  rw [chP_len] at hsh hcv
  injection hsh with ha hn hc
  subst ha hc
  have HR : Hid (RowN w.heap.size w1 (some ⟨g, 0, none⟩) (chainP L (k + 1) (i + 1))) := hR
  have hX : chainP L (k + 1) (i + 1) = (i + 1) :: chainP L k (i + 2) := by rw [chainP_succ, hit]
  rw [hX] at HR
  have h1 : (1 : Int) ≤ ((k + 1 : Nat) : Int) := by omega
  have h2 : ((k + 1 : Nat) : Int) ≤ (cv : Int) := by omega
  clear hO hO' hR hX
  by_cases hc1 : cv = 1
  · subst hc1
    have hk0 : k = 0 := by omega
    subst hk0
    go_wp2
    go_ret
    refine ⟨_, _, rfl, Nat.le_refl _, fun j hj => ?_, hB⟩
    exact absurd hj (Nat.not_lt_zero _)
  · go_wp2
    go_ret
    exact ⟨_, _, rfl, by omega, HR.out.tail, hB⟩
/-- Each word that declares, and the others. -/
theorem decl_words {L : List ByteArray} {p : Int} (hl : isW (sgAt L (p + 1)) [108, 101, 116] = false) (ht : isW (sgAt L (p + 1)) [116, 97, 107, 101] = false) (hv : isW (sgAt L (p + 1)) [118, 97, 114, 115] = false) (hh : isW (sgAt L (p + 1)) [104, 105, 100, 100, 101, 110] = false) : plcD L p = [] ∧ hidB L p = false := by
  refine ⟨?_, hh⟩
  unfold plcD
  rw [hl, ht, hv, hh]
  rfl
end Go.Proofs.YtdggghbeicmanaaGreatDoorRR
