/-
  RdTwo: ItmI, ItmP, RdE, RdF, RdG, in one text.
-/
import Derived.Test.YtcpnofagnnncoaaGreatDoorZItems
import Derived.Test.YtcpnofagnnncoaaGreatDoorZRdR
import Derived.Test.YtcpnofagnnncoaaGreatDoorZRdOne
/-
  Chapter 3: ItemsIn, by the program; the items of a list, collected.
-/
namespace Go.Proofs.YtcpnofagnnncoaaGreatDoor
open Go.RowKit Go.Shelf
attribute [local go_sem] Oper.semAt_some

set_option maxHeartbeats 1000000 in
theorem itemsFrom_in (n : Nat) (a : Option Addr) (len cap : Nat) (i : Int) (w : World) :
    CallsIn Fence.wide n Tryz.prog 88 #[.slice a len cap, .int .i64 i] w fun e w' => e = .returned (.func (.func 117) #[] #[.pointer (some ⟨w.heap.size + 1, 0, none⟩), .pointer (some ⟨w.heap.size, 0, none⟩)]) ∧ w' = (w.alloc (.cells #[.slice a len cap] 22)).alloc (.cells #[.int .i64 i] 2) := by
  refine callsIn_of_wp Tryz.func88 rfl trivial ?_ rfl
  simp only [Tryz.ntmps88, List.size_toArray, List.length_cons, List.length_nil, Nat.reduceAdd, Nat.reduceSub, Array.replicate_succ, Array.replicate_zero, List.push_toArray, List.append_toArray, List.nil_append, List.cons_append]
  gi_wp2
  go_ret
  exact ⟨rfl, rfl⟩

theorem own_shape' {w : World} {B : Nat} {e : TypeId} {sz n : Nat} {v : Value} {xs : List Value} (h : w.ownsRow B e sz v n xs) : ∃ av cv, v = .slice av n cv ∧ n ≤ cv ∧ cv ≤ maxLen ∧ (av = none → n = 0) ∧ ∀ p, av = some p → ∃ g, p = ⟨g, 0, none⟩ ∧ v.ownBlock = some g := by
  rcases h.2 with ⟨rfl, rfl⟩ | ⟨g, cap, cur, rfl, _, _, h1, h2, _⟩
  · exact ⟨none, 0, rfl, Nat.le_refl _, Nat.zero_le _, fun _ => rfl, fun p hp => by cases hp⟩
  · exact ⟨some ⟨g, 0, none⟩, cap, rfl, h1, h2, (fun h => by cases h), (fun p hp => by cases hp; exact ⟨g, rfl, rfl⟩)⟩
theorem kpH_t {n0 bl : Nat} {A B C : World} (h : KpH n0 bl A B) (k : KpH n0 bl B C) : KpH n0 bl A C := ⟨h.1.trans k.1, k.2.trans h.2⟩
theorem kpH_b {n0 bl : Nat} {w : World} (hn : n0 ≤ w.heap.size) (hb : bl < w.heap.size) (W : World) (l : Nat) (o o' : Obj) (hl : w.heap.size ≤ l) (h1 : W.heap[l]? = some o) (h2 : o.isCells = false) (h3 : o.isWalk = false) : KpH n0 bl W (W.putObj l o') :=
  ⟨belowK_b (w := w) hn W l o o' hl h1 h2 h3, World.putObj_heap_other (fun e => by omega)⟩

theorem itms_stops (n : Nat) (hn : 1 ≤ n) (ba bl n0 : Nat) (a : Option Addr) (cap : Nat) (L : List ByteArray) (i e : Int) (k : Nat) (hL : L.length ≤ 1048576) (hsg : signsB L = true) (hch : chI L k i e) (he0 : 0 ≤ e) (he : itemE L e = -1) (w : World) (hba : ba < w.heap.size) (hbl : bl < w.heap.size) (hn0 : n0 ≤ w.heap.size)
    (hca : w.cell? ⟨ba, 0, none⟩ = some (.int .i64 i)) (hcl : w.cell? ⟨bl, 0, none⟩ = some (.slice a L.length cap)) (hA : ArgB n0 w a L) :
    SeqStopsK Fence.wide n Tryz.prog 117 #[.pointer (some ⟨ba, 0, none⟩), .pointer (some ⟨bl, 0, none⟩)] encI (KpH n0 bl) (fun ys => ys = chainP L k i) (fun pre => pre <+: chainP L k i) k w := fun l J Jx W hW hJ _ hY h0 =>
  itms1_in n hn l ba bl n0 W.heap.size a cap L i e k hL hsg hch he0 he J Jx hJ hY W ((hW.cell (p := ⟨ba, 0, none⟩) hba).trans hca) ((hW.cell (p := ⟨bl, 0, none⟩) hbl).trans hcl) (Nat.lt_of_lt_of_le hba hW.size) (Nat.lt_of_lt_of_le hbl hW.size) (hA.keep (hW.mono hn0)) (Nat.le_trans hn0 hW.size) h0

theorem infoI : (Tryz.prog.info? 2).map (fun i => (i.zero, i.size, i.bytes)) = some (some (.int .i64 0), 1, 8) := by kernel_rfl
/-- Numbers in memory of the call's own. -/
def OwnI (w : World) (B : Nat) (v : Value) (X : List Int) : Prop := w.ownsRow B 2 1 v X.length (X.map fun x => .int .i64 x)
theorem OwnI.row {S : Nat → Prop} {w : World} {B : Nat} {v : Value} {X : List Int} (h : OwnI w B v X) (hS : ∀ k, S k → k < B) : ∃ av cv, v = .slice av X.length cv ∧ X.length ≤ cv ∧ RowI S w av X := by
  rcases h.2 with ⟨rfl, hn⟩ | ⟨g, cv, cur, rfl, hb, hg, h1, h2, _⟩
  · refine ⟨none, 0, by rw [hn], by omega, fun i hi => by omega⟩
  · refine ⟨_, cv, rfl, h1, fun i hi => ⟨g, 0, rfl, (Array.getElem?_eq_some_iff.1 hg).1, fun hs => by have := hS g hs; omega, ?_⟩⟩
    have hc := World.ownsRow.cells h (g := g) rfl i (.int .i64 X[i]) (by simp [hi])
    have hadd : (⟨g, 0, none⟩ : Addr).add i = ⟨g, i, none⟩ := by unfold Addr.add; split <;> simp_all
    rw [hadd] at hc
    rw [Nat.zero_add]
    exact hc
theorem chP_len (L : List ByteArray) : ∀ k i, (chainP L k i).length = k
  | 0, _ => rfl
  | k + 1, i => by
    show (i :: chainP L k (itemE L i)).length = k + 1
    rw [List.length_cons, chP_len L k]

set_option maxRecDepth 100000 in
set_option maxHeartbeats 4000000 in
theorem appendSeq_in (ba bl : Nat) (a : Option Addr) (cap : Nat) (L : List ByteArray) (i e : Int) (k : Nat) (hL : L.length ≤ 1048576) (hsg : signsB L = true) (hch : chI L k i e) (he0 : 0 ≤ e) (he1 : e ≤ (L.length : Int)) (he : itemE L e = -1) (w : World) (hba : ba < w.heap.size) (hbl : bl < w.heap.size)
    (hca : w.cell? ⟨ba, 0, none⟩ = some (.int .i64 i)) (hcl : w.cell? ⟨bl, 0, none⟩ = some (.slice a L.length cap)) (hA : ArgT w a L) :
    CallsIn Fence.wide 3 Tryz.prog 116 #[.slice none 0 0, .func (.func 117) #[] #[.pointer (some ⟨ba, 0, none⟩), .pointer (some ⟨bl, 0, none⟩)]] w fun e W' => ∃ v, e = .returned v ∧ OwnI W' w.heap.size v (chainP L k i) ∧ Below w.heap.size w W' := by
  have h1 : 1 ≤ 3 := by omega
  have hkl : k ≤ 1048576 := by have := chI_ends k i hch he0; omega
  obtain ⟨i0, hi, hz0, hz1, hz2⟩ := info_parts infoI
  refine callsIn_of_wp_marks Tryz.func116 rfl trivial ?_ rfl
  simp only [Tryz.ntmps116, List.size_toArray, List.length_cons, List.length_nil, Nat.reduceAdd, Nat.reduceSub, Array.replicate_succ, Array.replicate_zero, List.push_toArray, List.append_toArray, List.nil_append, List.cons_append]
  gi_wp2
  obtain ⟨W0, hW0⟩ : ∃ W0, W0 = w.alloc (.cells #[.slice none 0 0] 30) := ⟨_, rfl⟩
  have hB0 : Below w.heap.size w W0 := by rw [hW0]; exact balloc (Below.refl _ _) _
  have hsz : W0.heap.size = w.heap.size + 1 := by rw [hW0]; simp
  have hbox : Boxed W0 w.heap.size 30 (.slice none 0 0) := by rw [hW0]; exact Boxed.new w _ _
  rw [← hW0]
  clear hW0
  refine wpIn_rangeFunc_ownF rfl h1 (gf := 117) (lb := #[.pointer (some ⟨ba, 0, none⟩), .pointer (some ⟨bl, 0, none⟩)]) rfl trivial (enters_of Tryz.func117 (by kernel_rfl) rfl)
    (itms_stops 2 (by omega) ba bl w.heap.size a cap L i e k hL hsg hch he0 he W0 (by omega) (by omega) (by omega) ((hB0.cell (p := ⟨ba, 0, none⟩) hba).trans hca) ((hB0.cell (p := ⟨bl, 0, none⟩) hbl).trans hcl) (hA.low.keep hB0)) kpH_t (kpH_b (by omega) (by omega)) (Below.refl _ _) (fun _ => rfl)
    (fun pre W => (∃ v, Boxed W w.heap.size 30 v ∧ W.ownsRow w.heap.size 2 1 v pre.length (pre.map fun x => .int .i64 x) ∧ True) ∧ Below w.heap.size w W)
    (fun _ _ _ => False)
    (OwnFrom.and (Own.from (holdsRow_own w.heap.size w.heap.size 30 2 1 (fun pre : List Int => pre.length) (fun pre => pre.map fun x => .int .i64 x) (fun _ _ => True)) _) (ownFrom_below (Nat.le_refl _) (by omega)))
    (fun c s A B row hs hg hr => hs)
    ⟨⟨_, hbox, World.ownsRow_nil _ _ _ _, trivial⟩, hB0⟩
    (fun x => { tmps := #[.slice none 0 0, .func (.func 117) #[] #[.pointer (some ⟨ba, 0, none⟩), .pointer (some ⟨bl, 0, none⟩)], .pointer (some ⟨w.heap.size, 0, none⟩), undef, .slice none 0 0, .int .i64 x, .func (.func 117) #[] #[.pointer (some ⟨ba, 0, none⟩), .pointer (some ⟨bl, 0, none⟩)], .int .i64 x, undef, undef, undef, undef, undef], defers := [] }) ?assign ?body ?done ?stop
  case assign =>
    intro l x W K hK
    simp only [encI]
    gi_wp2
    exact hK
  case body =>
    rintro l pre x W ⟨⟨v, hv, hrow, _⟩, hB⟩ hlen
    have hc := hv.cell
    have hf := hv.frozen
    have hz := hB.size
    have hb1 : pre.length + 1 ≤ maxLen := by unfold maxLen; omega
    have hb2 : (pre.length + 1) * 8 ≤ 140737488355328 := by omega
    have hb3 : w.heap.size ≤ (W.alloc (.cells #[.int .i64 x] 2)).heap.size := by simp; omega
    have hcc2 : ∀ u ∈ [Value.int .i64 x], u.oneCell' = true := fun u hu => by simp at hu; subst hu; rfl
    gi_wp2_with (gi_at_builtin; refine wpListIn_append_own _ rfl _ _ 30 rfl w.heap.size 2 i0 (.int .i64 0) 1 8 Tryz.underlying30 hi hz0 hz1 hz2 rfl (by decide) _ _ _ rfl (hrow.alloc _) ⟨W.heap.size, 0, none⟩ 1 1 [.int .i64 x] rfl rfl (cell_one_new _ _ _) hcc2 hb1 hb2 hb3 ?_; intro v' w1 hown' hgrow _; obtain ⟨g', cap', rfl⟩ := ownsRow_succ hown'; obtain ⟨hv1, hv2, hr2, hk2, hbb⟩ := hv.appended (by decide) hrow hB.size (Nat.le_refl _) hown' hgrow; have hc1 := hv1.cell; have hf1 := hv1.frozen)
    exact ⟨hk2, ⟨hbb, hbb.block bl hbl⟩, ⟨_, hv2, by simpa using hr2, trivial⟩, hB.trans hbb⟩
  case done =>
    rintro D ys W hD rfl ⟨⟨v, hv, hrow, _⟩, hB⟩ hK
    obtain ⟨av, cv, rfl, _, _, _, _⟩ := own_shape' hrow
    have hc := hv.cell
    gi_wp2
    refine ⟨by simp, .inl ⟨_, _, rfl, run_takeDeferred hK, ?_⟩⟩
    exact ⟨.slice av (chainP L k i).length cv, by simp [results, Tryz.results116, go_sem], _, rfl, ownsRow_putObj hrow _ hK rfl, hB.trans (belowK_b (w := w) (Nat.le_refl _) W D _ _ (by omega) hK rfl rfl)⟩
  case stop =>
    rintro D c pre W _ _ h _
    exact h.elim

set_option maxHeartbeats 1000000 in
theorem collect_any (ba bl : Nat) (a : Option Addr) (cap : Nat) (L : List ByteArray) (i e : Int) (k : Nat) (hL : L.length ≤ 1048576) (hsg : signsB L = true) (hch : chI L k i e) (he0 : 0 ≤ e) (he1 : e ≤ (L.length : Int)) (he : itemE L e = -1) (w : World) (hba : ba < w.heap.size) (hbl : bl < w.heap.size)
    (hca : w.cell? ⟨ba, 0, none⟩ = some (.int .i64 i)) (hcl : w.cell? ⟨bl, 0, none⟩ = some (.slice a L.length cap)) (hA : ArgT w a L) :
    Calls Tryz.prog 87 #[.func (.func 117) #[] #[.pointer (some ⟨ba, 0, none⟩), .pointer (some ⟨bl, 0, none⟩)]] w fun e W' => ∃ v, e = .returned v ∧ OwnI W' w.heap.size v (chainP L k i) ∧ Below w.heap.size w W' := by
  go_enter Tryz.func87, Tryz.ntmps87
  go_wp2_with fail
  refine (callsIn_wide.1 (appendSeq_in ba bl a cap L i e k hL hsg hch he0 he1 he w hba hbl hca hcl hA)).mono ?_
  rintro r w1 ⟨v, rfl, hO, hB⟩
  go_wp2
  go_ret
  exact ⟨_, rfl, hO, hB⟩

set_option maxHeartbeats 1000000 in
theorem deedsOf_any (a : Option Addr) (cap : Nat) (L : List ByteArray) (k : Nat) (hL : L.length ≤ 1048576) (hsg : signsB L = true) (hch : chI L k 0 (L.length : Int)) (w : World) (hA : ArgT w a L) :
    Calls Tryz.prog 41 #[.slice a L.length cap] w fun e W' => ∃ v, e = .returned v ∧ OwnI W' w.heap.size v (chainP L k 0) ∧ Below w.heap.size w W' := by
  have hB2 : Below w.heap.size w ((w.alloc (.cells #[.slice a L.length cap] 22)).alloc (.cells #[.int .i64 0] 2)) := balloc (balloc (Below.refl _ _) _) _
  go_enter Tryz.func41, Tryz.ntmps41
  go_wp2_with fail
  refine (callsIn_wide.1 (itemsFrom_in 0 a L.length cap 0 w)).mono ?_
  rintro r w1 ⟨rfl, rfl⟩
  go_wp2_with fail
  refine (collect_any (w.heap.size + 1) w.heap.size a cap L 0 (L.length : Int) k hL hsg hch (by omega) (Int.le_refl _) (itemE_none (by omega)) _ (by simp) (by simp; omega) (by simp [go_sem]) (by simp [go_sem]) (hA.call hB2)).mono ?_
  rintro r w2 ⟨v, rfl, hO, hB⟩
  have hOw : OwnI w2 w.heap.size v (chainP L k 0) := by
    refine ⟨hO.1, ?_⟩
    rcases hO.2 with hn | ⟨g, cp, cur, hv, hb, rest⟩
    · exact .inl hn
    · exact .inr ⟨g, cp, cur, hv, Nat.le_trans hB2.size hb, rest⟩
  have hBw := bstep hB2 hB
  go_wp2
  go_ret
  exact ⟨_, rfl, hOw, hBw⟩

set_option maxHeartbeats 1000000 in
theorem opensI_yes (a : Option Addr) (cap : Nat) (L : List ByteArray) (i : Int) (w : World) (h : ArgT w a L) (hL : L.length ≤ 1048576) (hs : signsB L = true) (ho : isW (sgAt L i) [40] = true) (hit : 0 ≤ itemE L i) :
    Calls Tryz.prog 136 #[.slice a L.length cap, .int .i64 i] w fun e w' => e = .returned (.bool true) ∧ Below w.heap.size w w' := by
  obtain ⟨h0, h1⟩ := sgAt_open ho
  obtain ⟨ii, rfl⟩ : ∃ ii : Nat, i = (ii : Int) := ⟨i.toNat, by omega⟩
  obtain ⟨sb, off, rfl, hsb, hc, _⟩ := h ii (by omega)
  have b40 : ((sgAt L (ii : Int)).toList == [40]) = true := ho
  have hg : sgAt L (ii : Int) = L[ii] := by rw [sgAt_in (by omega) (by omega)]; rfl
  rw [← hg] at hc
  go_enter Tryz.func136, Tryz.ntmps136
  go_wp2_with fail
  refine (itemEndI_any _ cap L (ii : Int) _ h hL hs).mono ?_
  rintro e w1 ⟨rfl, hb1⟩
  have hc1 := (hb1.cell (p := ⟨sb, off + ii, none⟩) hsb).trans hc
  generalize itemE L (ii : Int) = z at hit
  generalize sgAt L (ii : Int) = s at hc1 b40
  clear hc hg
  go_wp2
  go_ret
  exact ⟨rfl, hb1⟩

set_option maxRecDepth 100000 in
set_option maxHeartbeats 4000000 in
theorem itemsInI_in (a : Option Addr) (cap : Nat) (L : List ByteArray) (i e : Int) (k : Nat) (hL : L.length ≤ 1048576) (hsg : signsB L = true) (ho : isW (sgAt L i) [40] = true) (hit : 0 ≤ itemE L i) (hch : chI L k (i + 1) e) (he0 : 0 ≤ e) (he1 : e ≤ (L.length : Int)) (he : itemE L e = -1) (w : World) (hA : ArgT w a L) :
    CallsIn Fence.wide 3 Tryz.prog 114 #[.slice a L.length cap, .int .i64 i] w fun e W' => ∃ v, e = .returned v ∧ OwnI W' w.heap.size v (chainP L k (i + 1)) ∧ Below w.heap.size w W' := by
  have h1 : 1 ≤ 3 := by omega
  obtain ⟨hi0, hi1⟩ := sgAt_open ho
  have hkl : k ≤ 1048576 := by have := chI_ends k _ hch he0; omega
  obtain ⟨i0, hi, hz0, hz1, hz2⟩ := info_parts infoI
  refine callsIn_of_wp_marks Tryz.func114 rfl trivial ?_ rfl
  simp only [Tryz.ntmps114, List.size_toArray, List.length_cons, List.length_nil, Nat.reduceAdd, Nat.reduceSub, Array.replicate_succ, Array.replicate_zero, List.push_toArray, List.append_toArray, List.nil_append, List.cons_append]
  obtain ⟨Wa, hWa⟩ : ∃ Wa, Wa = (w.alloc (.cells #[] 2)).alloc (.cells #[.slice (some ⟨w.heap.size, 0, none⟩) 0 0] 30) := ⟨_, rfl⟩
  have hBa : Below w.heap.size w Wa := by rw [hWa]; exact balloc (balloc (Below.refl _ _) _) _
  have hza : Wa.heap.size = w.heap.size + 1 + 1 := by rw [hWa]; simp
  have hboxa : Boxed Wa (w.heap.size + 1) 30 (.slice (some ⟨w.heap.size, 0, none⟩) 0 0) := by
    have := Boxed.new (w.alloc (.cells #[] 2)) 30 (.slice (some ⟨w.heap.size, 0, none⟩) 0 0)
    rw [World.size_alloc] at this
    rw [hWa]
    exact this
  have hrowa : Wa.ownsRow w.heap.size 2 1 (.slice (some ⟨w.heap.size, 0, none⟩) 0 0) 0 [] := by
    rw [hWa]
    exact World.ownsRow.alloc (World.ownsRow_made w #[] 0 (Nat.le_refl _) (Nat.zero_le _) rfl) _
  gi_wp2_with fail
  rw [← hWa]
  clear hWa
  refine ⟨trivial, (callsIn_wide.2 (opensI_yes a cap L i _ (hA.call hBa) hL hsg ho hit)).mono ?_⟩
  rintro r w1 ⟨rfl, hb1⟩
  have hB1 := bstep hBa hb1
  have hbox1 : Boxed w1 (w.heap.size + 1) 30 (.slice (some ⟨w.heap.size, 0, none⟩) 0 0) := (hb1.block _ (by omega)).trans hboxa
  have hrow1 : w1.ownsRow w.heap.size 2 1 (.slice (some ⟨w.heap.size, 0, none⟩) 0 0) 0 [] := own_kept hrowa (fun g hg => hb1.block g (World.ownsRow.lt hrowa g hg).2)
  have hz1' : w.heap.size + 1 + 1 ≤ w1.heap.size := by have := hb1.size; omega
  clear hboxa hrowa hBa hza hb1
  have hwr : IntKind.i64.wrap (i + 1) = i + 1 := IntWalk.i64_in _ (by omega)
  gi_wp2_with fail
  refine ⟨trivial, (itemsFrom_in _ a L.length cap (i + 1) w1).mono ?_⟩
  rintro r w2 ⟨rfl, rfl⟩
  gi_wp2
  obtain ⟨W0, hW0⟩ : ∃ W0, W0 = (w1.alloc (.cells #[.slice a L.length cap] 22)).alloc (.cells #[.int .i64 (i + 1)] 2) := ⟨_, rfl⟩
  have hB0 : Below w.heap.size w W0 := by rw [hW0]; exact balloc (balloc hB1 _) _
  have hsz : W0.heap.size = w1.heap.size + 1 + 1 := by rw [hW0]; simp
  have hbox : Boxed W0 (w.heap.size + 1) 30 (.slice (some ⟨w.heap.size, 0, none⟩) 0 0) := by rw [hW0]; exact (hbox1.alloc _).alloc _
  have hrow0 : W0.ownsRow w.heap.size 2 1 (.slice (some ⟨w.heap.size, 0, none⟩) 0 0) 0 [] := by rw [hW0]; exact World.ownsRow.alloc (World.ownsRow.alloc hrow1 _) _
  have hbl0 : Boxed W0 w1.heap.size 22 (.slice a L.length cap) := by rw [hW0]; exact (Boxed.new w1 _ _).alloc _
  have hca0 : W0.cell? ⟨w1.heap.size + 1, 0, none⟩ = some (.int .i64 (i + 1)) := by
    have := Boxed.new (w1.alloc (.cells #[.slice a L.length cap] 22)) 2 (.int .i64 (i + 1))
    rw [World.size_alloc] at this
    rw [hW0]
    exact this.cell
  rw [← hW0]
  clear hW0 hbox1 hrow1
  refine wpIn_rangeFunc_ownF rfl h1 (gf := 117) (lb := #[.pointer (some ⟨w1.heap.size + 1, 0, none⟩), .pointer (some ⟨w1.heap.size, 0, none⟩)]) rfl trivial (enters_of Tryz.func117 (by kernel_rfl) rfl)
    (itms_stops 2 (by omega) (w1.heap.size + 1) w1.heap.size w.heap.size a cap L (i + 1) e k hL hsg hch he0 he W0 (by omega) (by omega) (by omega) hca0 hbl0.cell (hA.low.keep hB0)) kpH_t (kpH_b (by omega) (by omega)) (Below.refl _ _) (fun _ => rfl)
    (fun pre W => (∃ v, Boxed W (w.heap.size + 1) 30 v ∧ W.ownsRow w.heap.size 2 1 v pre.length (pre.map fun x => .int .i64 x) ∧ True) ∧ (Boxed W w1.heap.size 22 (.slice a L.length cap) ∧ Below w.heap.size w W))
    (fun _ _ _ => False)
    (OwnFrom.and (Own.from (holdsRow_own w.heap.size (w.heap.size + 1) 30 2 1 (fun pre : List Int => pre.length) (fun pre => pre.map fun x => .int .i64 x) (fun _ _ => True)) _) (OwnFrom.and (Own.from (boxed_own w1.heap.size 22 (fun _ : List Int => .slice a L.length cap)) _) (ownFrom_below (Nat.le_refl _) (by omega))))
    (fun c s A B row hs hg hr => hs)
    ⟨⟨_, hbox, hrow0, trivial⟩, hbl0, hB0⟩
    (fun x => { tmps := #[.slice a L.length cap, .int .i64 i, undef, undef, .slice none 0 0, .pointer (some ⟨w.heap.size + 1, 0, none⟩), .int .i64 x, .slice (some ⟨w.heap.size, 0, none⟩) 0 0, .slice a L.length cap, .int .i64 i, .bool true, .bool false, undef, .slice a L.length cap, .int .i64 i, .int .i64 (i + 1), .func (.func 117) #[] #[.pointer (some ⟨w1.heap.size + 1, 0, none⟩), .pointer (some ⟨w1.heap.size, 0, none⟩)], .int .i64 x, undef, undef, undef, undef, undef], defers := [] }) ?assign ?body ?done ?stop
  case assign =>
    intro l x W K hK
    simp only [encI]
    gi_wp2
    exact hK
  case body =>
    rintro l pre x W ⟨⟨v, hv, hrow, _⟩, hbx, hB⟩ hlen
    have hc := hv.cell
    have hf := hv.frozen
    have hz := hB.size
    have hb1 : pre.length + 1 ≤ maxLen := by unfold maxLen; omega
    have hb2 : (pre.length + 1) * 8 ≤ 140737488355328 := by omega
    have hb3 : w.heap.size ≤ (W.alloc (.cells #[.int .i64 x] 2)).heap.size := by simp; omega
    have hcc2 : ∀ u ∈ [Value.int .i64 x], u.oneCell' = true := fun u hu => by simp at hu; subst hu; rfl
    have hnr := hbx.not_row (by decide) hrow
    gi_wp2_with (gi_at_builtin; refine wpListIn_append_own _ rfl _ _ 30 rfl w.heap.size 2 i0 (.int .i64 0) 1 8 Tryz.underlying30 hi hz0 hz1 hz2 rfl (by decide) _ _ _ rfl (hrow.alloc _) ⟨W.heap.size, 0, none⟩ 1 1 [.int .i64 x] rfl rfl (cell_one_new _ _ _) hcc2 hb1 hb2 hb3 ?_; intro v' w3 hown' hgrow _; obtain ⟨g', cap', rfl⟩ := ownsRow_succ hown'; obtain ⟨hv1, hv2, hr2, hk2, hbb⟩ := hv.appended (by decide) hrow hB.size (Nat.le_succ _) hown' hgrow; have hbx3 := (hbx.alloc (.cells #[.int .i64 x] 2)).kept hgrow hnr; have hbx4 := hbx3.other (B' := w.heap.size + 1) (by omega) (.slice (some ⟨g', 0, none⟩) (pre.length + 1) cap'); have hc1 := hv1.cell; have hf1 := hv1.frozen)
    exact ⟨hk2, ⟨hbb, hbx4.trans hbx.symm⟩, ⟨_, hv2, by simpa using hr2, trivial⟩, hbx4, hB.trans hbb⟩
  case done =>
    rintro D ys W hD rfl ⟨⟨v, hv, hrow, _⟩, hbx, hB⟩ hK
    obtain ⟨av, cv, rfl, _, _, _, _⟩ := own_shape' hrow
    have hc := hv.cell
    gi_wp2
    refine ⟨by simp, .inl ⟨_, _, rfl, run_takeDeferred hK, ?_⟩⟩
    exact ⟨.slice av (chainP L k (i + 1)).length cv, by simp [results, Tryz.results114, go_sem], _, rfl, ownsRow_putObj hrow _ hK rfl, hB.trans (belowK_b (w := w) (Nat.le_refl _) W D _ _ (by omega) hK rfl rfl)⟩
  case stop =>
    rintro D c pre W _ _ h _
    exact h.elim
theorem itemsInI_any (a : Option Addr) (cap : Nat) (L : List ByteArray) (i e : Int) (k : Nat) (hL : L.length ≤ 1048576) (hsg : signsB L = true) (ho : isW (sgAt L i) [40] = true) (hit : 0 ≤ itemE L i) (hch : chI L k (i + 1) e) (he0 : 0 ≤ e) (he1 : e ≤ (L.length : Int)) (he : itemE L e = -1) (w : World) (hA : ArgT w a L) :
    Calls Tryz.prog 114 #[.slice a L.length cap, .int .i64 i] w fun e W' => ∃ v, e = .returned v ∧ OwnI W' w.heap.size v (chainP L k (i + 1)) ∧ Below w.heap.size w W' :=
  callsIn_wide.1 (itemsInI_in a cap L i e k hL hsg ho hit hch he0 he1 he w hA)
end Go.Proofs.YtcpnofagnnncoaaGreatDoor

/-
  Chapter 5, the program: the parts of a form; what a deed declares.
-/
namespace Go.Proofs.YtcpnofagnnncoaaGreatDoor
open Go.RowKit

section
variable {L : List ByteArray} {i e : Int}
/-- The word of a form is no bracket. -/
theorem ItV.plain (h : ItV L i) (ho : isW (sgAt L i) [40] = true) : plainS (sgAt L (i + 1)) := by
  obtain ⟨w, g, hw, hg, _, _⟩ := h.form ho
  have hm := List.mem_of_find?_eq_some hg
  have hh := List.find?_some hg
  unfold hitB at hh
  rw [Bool.and_eq_true] at hh
  have hh2 := hh.2
  unfold formL at hm
  simp only [List.mem_cons, List.not_mem_nil, or_false] at hm
  clear hg
  unfold plainS isW
  rcases hm with rfl | rfl | rfl | rfl | rfl | rfl | rfl | rfl | rfl | rfl | rfl | rfl | rfl | rfl | rfl | rfl | rfl | rfl | rfl | rfl | rfl | rfl | rfl | rfl | rfl | rfl | rfl | rfl | rfl | rfl | rfl | rfl | rfl | rfl
  all_goals first
    | (exfalso; rcases hw with rfl | rfl <;> exact absurd hh.1 (by decide))
    | (simp only [List.isEmpty, Bool.false_or, beq_iff_eq] at hh2; rw [← hh2]; decide)
/-- The parts of a form. -/
theorem ItV.parts (h : ItV L i) (ho : isW (sgAt L i) [40] = true) : itemE L (i + 1) = i + 2 ∧ ∃ k e, chI L k (i + 2) e ∧ 0 ≤ e ∧ e < (L.length : Int) ∧ isW (sgAt L e) [41] = true ∧ itemE L i = e + 1 := by
  have hp := h.plain ho
  obtain ⟨h0, h1⟩ := sgAt_open ho
  have hen := h.ends
  obtain ⟨k, e, h2, h3, h4, h5, h6⟩ := item_parts ho (by omega)
  have hie := chI_ends k _ h2 h3
  have hne : i + 1 ≠ e := fun e1 => by
    rw [← e1] at h5
    rw [hp.2] at h5
    cases h5
  have hit : itemE L (i + 1) = i + 2 := by rw [item_one (by omega) (by omega) hp]; omega
  obtain ⟨m, rfl, _, h8⟩ := chI_next h2 (by omega)
  rw [hit] at h8
  exact ⟨hit, m, e, h8, h3, h4, h5, h6⟩
theorem chainP_succ (L : List ByteArray) (k : Nat) (i : Int) : chainP L (k + 1) i = i :: chainP L k (itemE L i) := rfl
theorem parts_again (h : ItV L i) (ho : isW (sgAt L i) [40] = true) {k : Nat} (hch : chI L k (i + 2) e) : chI L (k + 1) (i + 1) e := by
  obtain ⟨hit, _⟩ := h.parts ho
  have h0 := sgAt_open ho
  exact ⟨by rw [hit]; omega, by rw [hit]; exact hch⟩
end
/-- Numbers that lie from block B on. -/
def RowN (B : Nat) (w : World) (a : Option Addr) (X : List Int) : Prop := ∀ i (h : i < X.length), ∃ sb off, a = some ⟨sb, off, none⟩ ∧ sb < w.heap.size ∧ B ≤ sb ∧ w.cell? ⟨sb, off + i, none⟩ = some (.int .i64 X[i])
theorem RowN.row {B : Nat} {S : Nat → Prop} {w : World} {a : Option Addr} {X : List Int} (h : RowN B w a X) (hS : ∀ k, S k → k < B) : RowI S w a X := fun i hi => by
  obtain ⟨sb, off, h1, h2, h3, h4⟩ := h i hi
  exact ⟨sb, off, h1, h2, fun hs => by have := hS sb hs; omega, h4⟩
theorem RowN.call {B : Nat} {w w' : World} {a : Option Addr} {X : List Int} (h : RowN B w a X) (hb : Below w.heap.size w w') : RowN B w' a X := fun i hi => by
  obtain ⟨sb, off, h1, h2, h3, h4⟩ := h i hi
  exact ⟨sb, off, h1, Nat.lt_of_lt_of_le h2 hb.size, h3, (hb.cell (p := ⟨sb, off + i, none⟩) h2).trans h4⟩
theorem RowN.tail {B g o : Nat} {w : World} {x : Int} {X : List Int} (h : RowN B w (some ⟨g, o, none⟩) (x :: X)) : RowN B w (some ⟨g, o + 1, none⟩) X := fun i hi => by
  obtain ⟨sb, off, h1, h2, h3, h4⟩ := h (i + 1) (by simp; omega)
  injection h1 with h1
  injection h1 with e1 e2 _
  subst e1 e2
  refine ⟨g, o + 1, rfl, h2, h3, ?_⟩
  rw [show o + 1 + i = o + (i + 1) by omega]
  simpa using h4
theorem OwnI.rowN {w : World} {B : Nat} {v : Value} {X : List Int} (h : OwnI w B v X) : ∃ av cv, v = .slice av X.length cv ∧ X.length ≤ cv ∧ RowN B w av X := by
  rcases h.2 with ⟨rfl, hn⟩ | ⟨g, cv, cur, rfl, hb, hg, h1, h2, _⟩
  · refine ⟨none, 0, by rw [hn], by omega, fun i hi => by omega⟩
  · refine ⟨_, cv, rfl, h1, fun i hi => ⟨g, 0, rfl, (Array.getElem?_eq_some_iff.1 hg).1, hb, ?_⟩⟩
    have hc := World.ownsRow.cells h (g := g) rfl i (.int .i64 X[i]) (by simp [hi])
    have hadd : (⟨g, 0, none⟩ : Addr).add i = ⟨g, i, none⟩ := by unfold Addr.add; split <;> simp_all
    rw [hadd] at hc
    rw [Nat.zero_add]
    exact hc

set_option maxHeartbeats 1000000 in
theorem partsOf_any (a : Option Addr) (cap : Nat) (L : List ByteArray) (i e : Int) (k : Nat) (hL : L.length ≤ 1048576) (hsg : signsB L = true) (hv : ItV L i) (ho : isW (sgAt L i) [40] = true) (hch : chI L k (i + 2) e) (he0 : 0 ≤ e) (he1 : e < (L.length : Int)) (he : isW (sgAt L e) [41] = true) (w : World) (hA : ArgT w a L) :
    Calls Tryz.prog 113 #[.slice a L.length cap, .int .i64 i] w fun r W' => ∃ av cv, r = .returned (.slice av k cv) ∧ k ≤ cv ∧ RowN w.heap.size W' av (chainP L k (i + 2)) ∧ Below w.heap.size w W' := by
  have hit := (hv.parts ho).1
  have hen := hv.ends
  have hk := chI_ends k _ hch he0
  go_enter Tryz.func113, Tryz.ntmps113
  go_wp2_with fail
  refine (itemsInI_any a cap L i e (k + 1) hL hsg ho (by omega) (parts_again hv ho hch) he0 (by omega) (itemE_none (Or.inr (Or.inr he))) _ hA).mono ?_
  rintro r w1 ⟨v, rfl, hO, hB⟩
  have hO' : w1.ownsRow w.heap.size 2 1 v (k + 1) ((chainP L (k + 1) (i + 1)).map fun x => .int .i64 x) := by
    have := hO
    unfold OwnI at this
    rwa [chP_len] at this
  obtain ⟨g, cv, rfl⟩ := ownsRow_succ hO'
  obtain ⟨_, _, hsh, hcv, hR⟩ := hO.rowN
  rw [chP_len] at hsh hcv
  injection hsh with ha hn hc
  subst ha hc
  have HR : Hid (RowN w.heap.size w1 (some ⟨g, 0, none⟩) (chainP L (k + 1) (i + 1))) := hR
  have hX : chainP L (k + 1) (i + 1) = (i + 1) :: chainP L k (i + 2) := by rw [chainP_succ, hit]
  rw [hX] at HR
  have h1 : (1 : Int) ≤ ((k + 1 : Nat) : Int) := by omega
  have h2 : ((k + 1 : Nat) : Int) ≤ (cv : Int) := by omega
  clear hO hO' hR hX
  by_cases hc1 : cv = 1
  · subst hc1
    have hk0 : k = 0 := by omega
    subst hk0
    go_wp2
    go_ret
    refine ⟨_, _, rfl, Nat.le_refl _, fun j hj => ?_, hB⟩
    exact absurd hj (Nat.not_lt_zero _)
  · go_wp2
    go_ret
    exact ⟨_, _, rfl, by omega, HR.out.tail, hB⟩
/-- Each word that declares, and the others. -/
theorem decl_words {L : List ByteArray} {p : Int} (hl : isW (sgAt L (p + 1)) [108, 101, 116] = false) (ht : isW (sgAt L (p + 1)) [116, 97, 107, 101] = false) (hv : isW (sgAt L (p + 1)) [118, 97, 114, 115] = false) (hh : isW (sgAt L (p + 1)) [104, 105, 100, 100, 101, 110] = false) : plcD L p = [] ∧ hidB L p = false := by
  refine ⟨?_, hh⟩
  unfold plcD
  rw [hl, ht, hv, hh]
  rfl

set_option maxRecDepth 100000 in
set_option maxHeartbeats 2000000 in
theorem declaredBy_any (a : Option Addr) (cap : Nat) (L : List ByteArray) (p : Int) (hL : L.length ≤ 1048576) (hsg : signsB L = true) (hd : fm L 1 p ≠ -1) (w : World) (hA : ArgT w a L) :
    Calls Tryz.prog 83 #[.slice a L.length cap, .int .i64 p] w fun r W' => ∃ av n cv, r = .returned (.tuple #[.slice av n cv, .bool (hidB L p)]) ∧ n = (plcD L p).length ∧ RowN w.heap.size W' av (plcD L p) ∧ Below w.heap.size w W' := by
  have hv : ItV L p := Or.inr hd
  have ho := deed_open hd
  have hl := deed_long hd
  obtain ⟨hit, k, e, hch, he0, he1, he, hie⟩ := hv.parts ho
  have hk := chI_ends k _ hch he0
  obtain ⟨pp, rfl⟩ : ∃ pp : Nat, p = (pp : Int) := ⟨p.toNat, by omega⟩
  obtain ⟨sb, off, rfl, hsb, hc, hsm⟩ := hA (pp + 1) (by omega)
  have hg : sgAt L ((pp : Int) + 1) = L[pp + 1] := by rw [sgAt_in (by omega) (by omega)]; rfl
  rw [← hg] at hc hsm
  have hwr : IntKind.i64.wrap ((pp : Int) + 1) = (pp : Int) + 1 := IntWalk.i64_in _ (by omega)
  have hp0 : (0 : Int) ≤ (pp : Int) + 1 := by omega
  have hp1 : (pp : Int) + 1 < (L.length : Int) := by omega
  have hpn : ((pp : Int) + 1).toNat = pp + 1 := by omega
  have hPD := plcD_piece hd
  have HPP : Hid (∀ w, ArgT w (some ⟨sb, off, none⟩) L → Calls Tryz.prog 113 #[.slice (some ⟨sb, off, none⟩) L.length cap, .int .i64 (pp : Int)] w fun r W' => ∃ av cv, r = .returned (.slice av k cv) ∧ k ≤ cv ∧ RowN w.heap.size W' av (chainP L k ((pp : Int) + 2)) ∧ Below w.heap.size w W') := fun w hA => partsOf_any _ cap L _ e k hL hsg hv ho hch he0 he1 he w hA
  -- the four words
  cases hlet : isW (sgAt L ((pp : Int) + 1)) [108, 101, 116]
  · cases htk : isW (sgAt L ((pp : Int) + 1)) [116, 97, 107, 101]
    · cases hvr : isW (sgAt L ((pp : Int) + 1)) [118, 97, 114, 115]
      · cases hhd : isW (sgAt L ((pp : Int) + 1)) [104, 105, 100, 100, 101, 110]
        · have HD := decl_words hlet htk hvr hhd
          have HD' : Hid (plcD L (pp : Int) = [] ∧ hidB L (pp : Int) = false) := HD
          have b1 : ((sgAt L ((pp : Int) + 1)).toList == [108, 101, 116]) = false := hlet
          have b2 : ((sgAt L ((pp : Int) + 1)).toList == [116, 97, 107, 101]) = false := htk
          have b3 : ((sgAt L ((pp : Int) + 1)).toList == [118, 97, 114, 115]) = false := hvr
          have b4 : ((sgAt L ((pp : Int) + 1)).toList == [104, 105, 100, 100, 101, 110]) = false := hhd
          clear hlet htk hvr hhd HD hg
          generalize sgAt L ((pp : Int) + 1) = s at hc hsm b1 b2 b3 b4
          go_enter Tryz.func83, Tryz.ntmps83
          go_wp2_with fail
          refine (HPP.out _ hA).mono ?_
          rintro r w1 ⟨av, cv, rfl, hcv, hR, hB⟩
          have hc1 := (hB.cell (p := ⟨sb, off + (pp + 1), none⟩) hsb).trans hc
          go_wp2
          go_ret2
          exact ⟨none, 0, 0, by rw [HD'.out.2]; rfl, by rw [HD'.out.1]; rfl, by rw [HD'.out.1]; exact fun j hj => absurd hj (Nat.not_lt_zero _), hB⟩
        · obtain ⟨n1, n2, n3, n4, n5⟩ := names_at (c := [104, 105, 100, 100, 101, 110]) hd (isW_eq hhd) deedH_hidden
          obtain ⟨c1, c2, c3⟩ := chI_names (L := L) (fm L 5 ((pp : Int) + 2) - ((pp : Int) + 2)).toNat ((pp : Int) + 2) (by omega) (by omega) (fun j h6 h7 => n4 j h6 (by omega))
          have hkk := (chI_one _ _ _ hch c1 (itemE_none (Or.inr (Or.inr he))) (itemE_none (Or.inr (Or.inr (by rw [show (pp : Int) + 2 + (((fm L 5 ((pp : Int) + 2) - ((pp : Int) + 2)).toNat : Nat) : Int) = fm L 5 ((pp : Int) + 2) by omega]; exact n3))))).1
          have HD' : Hid (plcD L (pp : Int) = chainP L k ((pp : Int) + 2) ∧ hidB L (pp : Int) = true) := ⟨by unfold plcD; rw [hlet, htk, hvr, hhd, hkk]; rfl, hhd⟩
          clear c1 c2 c3 hkk n1 n2 n3 n4 n5
          have b1 : ((sgAt L ((pp : Int) + 1)).toList == [108, 101, 116]) = false := hlet
          have b2 : ((sgAt L ((pp : Int) + 1)).toList == [116, 97, 107, 101]) = false := htk
          have b3 : ((sgAt L ((pp : Int) + 1)).toList == [118, 97, 114, 115]) = false := hvr
          have b4 : ((sgAt L ((pp : Int) + 1)).toList == [104, 105, 100, 100, 101, 110]) = true := hhd
          clear hlet htk hvr hhd hg
          generalize sgAt L ((pp : Int) + 1) = s at hc hsm b1 b2 b3 b4
          go_enter Tryz.func83, Tryz.ntmps83
          go_wp2_with fail
          refine (HPP.out _ hA).mono ?_
          rintro r w1 ⟨av, cv, rfl, hcv, hR, hB⟩
          have hc1 := (hB.cell (p := ⟨sb, off + (pp + 1), none⟩) hsb).trans hc
          go_wp2
          go_ret2
          exact ⟨av, k, cv, by rw [HD'.out.2]; rfl, by rw [HD'.out.1, chP_len], by rw [HD'.out.1]; exact hR, hB⟩
      · obtain ⟨n1, n2, n3, n4, n5⟩ := names_at (c := [118, 97, 114, 115]) hd (isW_eq hvr) deedH_vars
        obtain ⟨c1, c2, c3⟩ := chI_names (L := L) (fm L 5 ((pp : Int) + 2) - ((pp : Int) + 2)).toNat ((pp : Int) + 2) (by omega) (by omega) (fun j h6 h7 => n4 j h6 (by omega))
        have hkk := (chI_one _ _ _ hch c1 (itemE_none (Or.inr (Or.inr he))) (itemE_none (Or.inr (Or.inr (by rw [show (pp : Int) + 2 + (((fm L 5 ((pp : Int) + 2) - ((pp : Int) + 2)).toNat : Nat) : Int) = fm L 5 ((pp : Int) + 2) by omega]; exact n3))))).1
        have HD' : Hid (plcD L (pp : Int) = chainP L k ((pp : Int) + 2) ∧ hidB L (pp : Int) = false) := ⟨by unfold plcD; rw [hlet, htk, hvr, hkk]; rfl, isW_other hvr (by decide)⟩
        clear c1 c2 c3 hkk n1 n2 n3 n4 n5
        have b1 : ((sgAt L ((pp : Int) + 1)).toList == [108, 101, 116]) = false := hlet
        have b2 : ((sgAt L ((pp : Int) + 1)).toList == [116, 97, 107, 101]) = false := htk
        have b3 : ((sgAt L ((pp : Int) + 1)).toList == [118, 97, 114, 115]) = true := hvr
        clear hlet htk hvr hg
        generalize sgAt L ((pp : Int) + 1) = s at hc hsm b1 b2 b3
        go_enter Tryz.func83, Tryz.ntmps83
        go_wp2_with fail
        refine (HPP.out _ hA).mono ?_
        rintro r w1 ⟨av, cv, rfl, hcv, hR, hB⟩
        have hc1 := (hB.cell (p := ⟨sb, off + (pp + 1), none⟩) hsb).trans hc
        go_wp2
        go_ret2
        exact ⟨av, k, cv, by rw [HD'.out.2]; rfl, by rw [HD'.out.1, chP_len], by rw [HD'.out.1]; exact hR, hB⟩
    · obtain ⟨n1, n2, n3, n4, n5, n6⟩ := take_at hd (isW_eq htk)
      obtain ⟨c1, c2, c3⟩ := chI_names (L := L) (fm L 5 ((pp : Int) + 4) - ((pp : Int) + 3)).toNat ((pp : Int) + 3) (by omega) (by omega) (fun j h6 h7 => n4 j h6 (by omega))
      have hce : (pp : Int) + 3 + (((fm L 5 ((pp : Int) + 4) - ((pp : Int) + 3)).toNat : Nat) : Int) = fm L 5 ((pp : Int) + 4) := by omega
      rw [hce] at c1
      have HD' : Hid (plcD L (pp : Int) = chainP L (fm L 5 ((pp : Int) + 4) - ((pp : Int) + 3)).toNat ((pp : Int) + 3) ∧ hidB L (pp : Int) = false) := ⟨by unfold plcD; rw [hlet, htk]; rfl, isW_other htk (by decide)⟩
      generalize (fm L 5 ((pp : Int) + 4) - ((pp : Int) + 3)).toNat = n at c1 HD'
      have hdi := deed_item hd
      obtain ⟨m, rfl, hit2, _⟩ := chI_next hch (by omega)
      have HIT : Hid (∀ w, ArgT w (some ⟨sb, off, none⟩) L → Calls Tryz.prog 114 #[.slice (some ⟨sb, off, none⟩) L.length cap, .int .i64 ((pp : Int) + 2)] w fun r W' => ∃ v, r = .returned v ∧ OwnI W' w.heap.size v (chainP L n ((pp : Int) + 3)) ∧ Below w.heap.size w W') := fun w hA => by
        have := itemsInI_any (some ⟨sb, off, none⟩) cap L ((pp : Int) + 2) (fm L 5 ((pp : Int) + 4)) n hL hsg n5 hit2 (by rw [show (pp : Int) + 2 + 1 = (pp : Int) + 3 by omega]; exact c1) (by omega) (by omega) (itemE_none (Or.inr (Or.inr n3))) w hA
        rw [show (pp : Int) + 2 + 1 = (pp : Int) + 3 by omega] at this
        exact this
      have b1 : ((sgAt L ((pp : Int) + 1)).toList == [108, 101, 116]) = false := hlet
      have b2 : ((sgAt L ((pp : Int) + 1)).toList == [116, 97, 107, 101]) = true := htk
      clear hlet htk hg c1 c2 c3 hce n1 n2 n3 n4 n5 n6 hit2 hPD
      generalize sgAt L ((pp : Int) + 1) = s at hc hsm b1 b2
      go_enter Tryz.func83, Tryz.ntmps83
      go_wp2_with fail
      refine (HPP.out _ hA).mono ?_
      rintro r w1 ⟨av, cv, rfl, hcv, hR, hB⟩
      have hc1 := (hB.cell (p := ⟨sb, off + (pp + 1), none⟩) hsb).trans hc
      obtain ⟨g, o, rfl, hgz, hgB, hg0⟩ := hR 0 (by rw [chP_len]; omega)
      have hg0' : w1.cell? ⟨g, o, none⟩ = some (.int .i64 ((pp : Int) + 2)) := hg0
      have hm0 : (0 : Int) < ((m + 1 : Nat) : Int) := by omega
      clear hR hg0 HPP
      go_wp2_with fail
      refine (HIT.out _ (hA.call hB)).mono ?_
      rintro r w2 ⟨v, rfl, hO, hB2⟩
      obtain ⟨av2, cv2, rfl, hcv2, hR2⟩ := hO.rowN
      have HR3 : Hid (RowN w.heap.size w2 av2 (chainP L n ((pp : Int) + 3))) := fun j hj => by
        obtain ⟨sb', off', q1, q2, q3, q4⟩ := hR2 j hj
        exact ⟨sb', off', q1, q2, Nat.le_trans hB.size q3, q4⟩
      clear hO hR2
      rw [chP_len] at hcv2 ⊢
      go_wp2
      go_ret2
      exact ⟨av2, n, cv2, by rw [HD'.out.2]; rfl, by rw [HD'.out.1, chP_len], by rw [HD'.out.1]; exact HR3.out, bstep hB hB2⟩
  · obtain ⟨n1, n2, n3⟩ := let_at hd (isW_eq hlet)
    have hdi := deed_item hd
    obtain ⟨m, rfl, hit2, _⟩ := chI_next hch (by omega)
    have HD' : Hid (plcD L (pp : Int) = [(pp : Int) + 2] ∧ hidB L (pp : Int) = false) := ⟨by unfold plcD; rw [hlet]; rfl, isW_other hlet (by decide)⟩
    have b1 : ((sgAt L ((pp : Int) + 1)).toList == [108, 101, 116]) = true := hlet
    clear hlet hg n1 n2 n3 hit2 hPD
    generalize sgAt L ((pp : Int) + 1) = s at hc hsm b1
    go_enter Tryz.func83, Tryz.ntmps83
    go_wp2_with fail
    refine (HPP.out _ hA).mono ?_
    rintro r w1 ⟨av, cv, rfl, hcv, hR, hB⟩
    have hc1 := (hB.cell (p := ⟨sb, off + (pp + 1), none⟩) hsb).trans hc
    obtain ⟨g, o, rfl, hgz, hgB, hg0⟩ := hR 0 (by rw [chP_len]; omega)
    have HR3 : Hid (RowN w.heap.size w1 (some ⟨g, o, none⟩) [(pp : Int) + 2]) := fun j hj => by
      have : j = 0 := by simpa using hj
      subst this
      exact ⟨g, o, rfl, hgz, hgB, hg0⟩
    have hm1 : (1 : Int) ≤ (cv : Int) := by omega
    clear hR hg0 HPP
    go_wp2
    go_ret2
    exact ⟨_, 1, _, by rw [HD'.out.2]; rfl, by rw [HD'.out.1]; rfl, by rw [HD'.out.1]; exact HR3.out, hB⟩
end Go.Proofs.YtcpnofagnnncoaaGreatDoor

/-
  Chapter 5, the program: what is asked of a reading; items one behind the other.
-/
namespace Go.Proofs.YtcpnofagnnncoaaGreatDoor
open Go.RowKit

/-- What is known where these blocks are open. -/
def knE (E : Blks) (lp : Bool) : Kn := ⟨knQ false E, knQ true E, lp⟩
theorem knQ_snoc (q : Bool) (E : Blks) (Z : List ByteArray × List ByteArray) : knQ q (E ++ [Z]) = knQ q E ++ sideL q Z.1 Z.2 := by simp [knQ]
theorem knE_snoc (E : Blks) (X Y : List ByteArray) (lp : Bool) : knE (E ++ [(X, Y)]) lp = addH (addN (knE E lp) X) Y := by
  unfold knE addH addN
  rw [knQ_snoc, knQ_snoc]
  rfl
theorem knE_names (E : Blks) (X : List ByteArray) (lp lq : Bool) : knE (E ++ [(X, [])]) lq = inLoop (addN (knE E lp) X) lq := by
  unfold knE inLoop addN
  rw [knQ_snoc, knQ_snoc]
  simp [sideL]
theorem usO_name (E : Blks) (lp : Bool) (s : ByteArray) : usO false E s = useO (knE E lp) s := rfl
theorem usO_hide (E : Blks) (lp : Bool) (s : ByteArray) : usO true E s = hideO (knE E lp) s := rfl
theorem badO_add (F : Ot) (a b : Bool) : (F.add (badO a)).add (badO b) = F.add (badO (a || b)) := by
  rw [Ot.add_assoc]
  congr 1
theorem badO_false (F : Ot) : F.add (badO false) = F := Ot.add_none F
theorem RowI.tail {S : Nat → Prop} {g o : Nat} {w : World} {x : Int} {X : List Int} (h : RowI S w (some ⟨g, o, none⟩) (x :: X)) : RowI S w (some ⟨g, o + 1, none⟩) X := fun i hi => by
  obtain ⟨sb, off, h1, h2, h3, h4⟩ := h (i + 1) (by simp; omega)
  injection h1 with h1
  injection h1 with e1 e2 _
  subst e1 e2
  refine ⟨g, o + 1, rfl, h2, h3, ?_⟩
  rw [show o + 1 + i = o + (i + 1) by omega]
  simpa using h4
/-- Items, each behind the one ahead of it. -/
def UpL (L : List ByteArray) : List Int → Int → Int → Prop
  | [], i, e => i ≤ e
  | p :: ps, i, e => i ≤ p ∧ ItV L p ∧ UpL L ps (itemE L p) e
theorem UpL.le {L : List ByteArray} {e : Int} : ∀ {ps : List Int} {i : Int}, UpL L ps i e → i ≤ e
  | [], _, h => h
  | p :: ps, i, h => by
    have h1 := h.1
    have h2 := h.2.1.ends
    have h3 := UpL.le h.2.2
    omega
theorem UpL.start {L : List ByteArray} {e : Int} {ps : List Int} {i j : Int} (h : UpL L ps i e) (hj : j ≤ i) : UpL L ps j e := by
  cases ps with
  | nil => exact Int.le_trans hj h
  | cons p ps => exact ⟨Int.le_trans hj h.1, h.2⟩
theorem UpL.more {L : List ByteArray} {e e' : Int} : ∀ {ps : List Int} {i : Int}, UpL L ps i e → e ≤ e' → UpL L ps i e'
  | [], _, h, he => Int.le_trans h he
  | _ :: _, _, h, he => ⟨h.1, h.2.1, UpL.more h.2.2 he⟩
theorem upL_chain {L : List ByteArray} {e : Int} : ∀ k i, chainV L k i e → UpL L (chainP L k i) i e
  | 0, i, h => by
    have : i = e := h
    show i ≤ e
    omega
  | k + 1, i, h => ⟨Int.le_refl _, h.1, upL_chain k _ h.2⟩
theorem UpL.drop {L : List ByteArray} {e : Int} : ∀ {ps : List Int} {i : Int} (m : Nat), UpL L ps i e → ∃ j, i ≤ j ∧ UpL L (ps.drop m) j e
  | ps, i, 0, h => ⟨i, Int.le_refl _, h⟩
  | [], i, m + 1, h => ⟨i, Int.le_refl _, h⟩
  | p :: ps, i, m + 1, h => by
    obtain ⟨j, h1, h2⟩ := UpL.drop m h.2.2
    have := h.1
    have := h.2.1.ends
    exact ⟨j, by omega, h2⟩
theorem outs_drop (f : Int → Ot) (ps : List Int) {m : Nat} (h : m < ps.length) : outs f (ps.drop m) = (f ps[m]).add (outs f (ps.drop (m + 1))) := by
  rw [List.drop_eq_getElem_cons h]
  rfl

theorem farR_lt {L : List ByteArray} {i j : Int} (h0 : 0 ≤ i) (h : i < j) (hj : j ≤ (L.length : Int) + 1) : farN L j + 1 ≤ farN L i := by
  unfold farN
  rw [if_neg (by omega), if_neg (by omega)]
  omega
theorem farR_le {L : List ByteArray} {i j : Int} (h0 : 0 ≤ i) (h : i ≤ j) : farN L j ≤ farN L i := by
  unfold farN
  rw [if_neg (by omega), if_neg (by omega)]
  omega

/-- What is asked of a reading of an item. -/
def ReadC (a : Option Addr) (cap : Nat) (L : List ByteArray) (c n : Nat) : Prop := ∀ (S : Nat → Prop) (E : Blks) (lp : Bool) (F : Ot) (U : Nat) (i : Int) (w : World), St S c a cap L E F U w → ItV L i → 2 * farN L i + 1 ≤ n → E.length + n ≤ 20000 → (U : Int) ≤ i →
  Calls Tryz.prog 115 #[.pointer (some ⟨c, 0, none⟩), .int .i64 i, .bool lp] w fun r w' => r = .returned (.tuple #[]) ∧ ∃ S' U', St S' c a cap L E (F.add (wk L n 0 false i (knE E lp))) U' w' ∧ Nxt S S' w w' ∧ (U' : Int) ≤ itemE L i
/-- .. of a block. -/
def RBlkC (a : Option Addr) (cap : Nat) (L : List ByteArray) (c n : Nat) : Prop := ∀ (S : Nat → Prop) (E : Blks) (lp v : Bool) (F : Ot) (U : Nat) (i e : Int) (k : Nat) (ad : Option Addr) (cd : Nat) (w : World), St S c a cap L E F U w → RowI S w ad (chainP L k i) → chainD L k i e → endB L e → 0 ≤ e → e ≤ (L.length : Int) → 2 * farN L i + 2 ≤ n → E.length + n ≤ 20000 → (U : Int) ≤ i →
  Calls Tryz.prog 40 #[.pointer (some ⟨c, 0, none⟩), .slice ad k cd, .bool v, .bool lp] w fun r w' => r = .returned (.tuple #[]) ∧ ∃ S' U', St S' c a cap L E (F.add (wk L n 1 v i (knE E lp))) U' w' ∧ Nxt S S' w w' ∧ (U' : Int) ≤ e

set_option maxHeartbeats 2000000 in
theorem readAll_any {a : Option Addr} {cap : Nat} {L : List ByteArray} {c n : Nat} (hR : ReadC a cap L c n) (S : Nat → Prop) (E : Blks) (lp : Bool) (F : Ot) (U : Nat) (i e : Int) (X : List Int) (ad : Option Addr) (kx cd : Nat) (w : World) (hkx : kx = X.length) (h : St S c a cap L E F U w) (hX : RowI S w ad X) (hup : UpL L X i e) (hi0 : 0 ≤ i) (hl : X.length ≤ 1048576) (hn : 2 * farN L i + 1 ≤ n) (hE : E.length + n ≤ 20000) (hU : (U : Int) ≤ i) :
    Calls Tryz.prog 85 #[.pointer (some ⟨c, 0, none⟩), .slice ad kx cd, .bool lp] w fun r w' => r = .returned (.tuple #[]) ∧ ∃ S' U', St S' c a cap L E (F.add (outs (fun p => wk L n 0 false p (knE E lp)) X)) U' w' ∧ Nxt S S' w w' ∧ (U' : Int) ≤ e := by
  subst hkx
  go_enter Tryz.func85, Tryz.ntmps85
  go_wp2
  go_loopw [10] (fun v10 wr => ∃ (m : Nat) (G : Ot) (Sr : Nat → Prop) (Ur : Nat) (j : Int), v10 = .int .i64 (m : Int) ∧ m ≤ X.length ∧ St Sr c a cap L E G Ur wr ∧ Nxt S Sr w wr ∧ i ≤ j ∧ (Ur : Int) ≤ j ∧ UpL L (X.drop m) j e ∧ Hid (G.add (outs (fun p => wk L n 0 false p (knE E lp)) (X.drop m)) = F.add (outs (fun p => wk L n 0 false p (knE E lp)) X))) (fun v10 _ => X.length - (intOf v10).toNat)
  case atStart => exact ⟨0, F, S, U, i, rfl, Nat.zero_le _, h, Nxt.refl S w, Int.le_refl _, hU, hup, rfl⟩
  case round =>
    obtain ⟨m, G, Sr, Ur, j, rfl, hm, hSt, hN, hij, hUj, hupm, HG⟩ := hrel
    by_cases hlt : m < X.length
    · obtain ⟨sb, off, rfl, hsb, _, hc⟩ := (hX.nxt hN) m hlt
      rw [List.drop_eq_getElem_cons hlt] at hupm
      obtain ⟨u1, u2, u3⟩ := hupm
      have hfar := farR_le (L := L) hi0 (by omega : i ≤ X[m])
      have HC := hR Sr E lp G Ur X[m] wr hSt u2 (by omega) hE (by omega)
      have HC' : Hid (Calls Tryz.prog 115 #[.pointer (some ⟨c, 0, none⟩), .int .i64 X[m], .bool lp] wr fun r w' => r = .returned (.tuple #[]) ∧ ∃ S' U', St S' c a cap L E (G.add (wk L n 0 false X[m] (knE E lp))) U' w' ∧ Nxt Sr S' wr w' ∧ (U' : Int) ≤ itemE L X[m]) := HC
      have HG2 : Hid ((G.add (wk L n 0 false X[m] (knE E lp))).add (outs (fun p => wk L n 0 false p (knE E lp)) (X.drop (m + 1))) = F.add (outs (fun p => wk L n 0 false p (knE E lp)) X)) := (by rw [← HG.out, outs_drop _ _ hlt, Ot.add_assoc] : (G.add (wk L n 0 false X[m] (knE E lp))).add (outs (fun p => wk L n 0 false p (knE E lp)) (X.drop (m + 1))) = F.add (outs (fun p => wk L n 0 false p (knE E lp)) X))
      have hends := u2.ends
      clear HC HG hfar
      generalize X[m] = p at *
      go_wp2_with fail
      refine HC'.out.mono ?_
      rintro r w2 ⟨rfl, S2, U2, hSt2, hN2, hU2⟩
      have hN3 := hN.trans hN2
      clear HC'
      go_wp2
      go_roundw
      case rel => exact ⟨m + 1, _, S2, U2, itemE L p, by go_num, by omega, hSt2, hN3, by omega, hU2, u3, HG2.out⟩
      case measure => simp [intOf]; omega
    · have e1 : m = X.length := by omega
      subst e1
      rw [List.drop_length] at hupm
      have hj : j ≤ e := hupm
      have HG2 : Hid (G = F.add (outs (fun p => wk L n 0 false p (knE E lp)) X)) := (by rw [← HG.out, List.drop_length]; exact (Ot.add_none G).symm : G = F.add (outs (fun p => wk L n 0 false p (knE E lp)) X))
      clear HG
      go_wp2
      go_end0
      exact ⟨rfl, Sr, Ur, by rw [← HG2.out]; exact hSt, hN, by omega⟩
end Go.Proofs.YtcpnofagnnncoaaGreatDoor

/-
  Chapter 5, the program: a block is read.
-/
namespace Go.Proofs.YtcpnofagnnncoaaGreatDoor
open Go.RowKit

/-- Is a vars not at its place? -/
def varB (L : List ByteArray) : Bool → List Int → Bool
  | _, [] => false
  | v, p :: ps => (isW (sgAt L (p + 1)) [118, 97, 114, 115] && !v) || varB L false ps
theorem blk_split (L : List ByteArray) (f : Int → Ot) : ∀ (v : Bool) (ps : List Int), blk L f v ps = (badO (varB L v ps)).add (outs f ps)
  | _, [] => rfl
  | v, p :: ps => by
    show (Ot.mk [] [] (isW (sgAt L (p + 1)) [118, 97, 114, 115] && !v)).add ((f p).add (blk L f false ps)) = (badO ((isW (sgAt L (p + 1)) [118, 97, 114, 115] && !v) || varB L false ps)).add ((f p).add (outs f ps))
    rw [blk_split L f false ps]
    simp only [Ot.add, badO, List.nil_append, Ot.mk.injEq, true_and]
    cases (isW (sgAt L (p + 1)) [118, 97, 114, 115] && !v) <;> cases (f p).bad <;> cases varB L false ps <;> simp
/-- More names in the innermost block. -/
def addZ (q : Bool) (Z : List ByteArray × List ByteArray) (N : List ByteArray) : List ByteArray × List ByteArray := if q then (Z.1, Z.2 ++ N) else (Z.1 ++ N, Z.2)
theorem addZ_put (q : Bool) (Z : List ByteArray × List ByteArray) (N : List ByteArray) (r : Nat) (h : r < N.length) : putE q (addZ q Z (N.take r)) N[r] = addZ q Z (N.take (r + 1)) := by
  rw [List.take_succ_eq_append_getElem h]
  cases q <;> simp [putE, addZ]
theorem addZ_nil (q : Bool) (Z : List ByteArray × List ByteArray) : addZ q Z [] = Z := by cases q <;> simp [addZ]
/-- Does a NAME stand there twice? -/
def twZ (Z : List ByteArray × List ByteArray) : Bool := twiceB Z.1 || twiceB Z.2
theorem twZ_put (q : Bool) (Z : List ByteArray × List ByteArray) (s : ByteArray) : twZ (putE q Z s) = (twZ Z || inB (sideL q Z.1 Z.2) s) := by
  unfold twZ putE sideL
  cases q
  · simp only [Bool.false_eq_true, if_false, twice_snoc]
    cases twiceB Z.1 <;> cases inB Z.1 s <;> cases twiceB Z.2 <;> rfl
  · simp only [if_true, twice_snoc]
    cases twiceB Z.1 <;> cases inB Z.2 s <;> cases twiceB Z.2 <;> rfl
theorem bool_swap (x y z : Bool) : ((x || y) || z) = ((x || z) || y) := by cases x <;> cases y <;> cases z <;> rfl
theorem addZ_piece (L : List ByteArray) (p : Int) (Z : List ByteArray × List ByteArray) : addZ (hidB L p) Z (pieceD L (hidB L p) p) = (Z.1 ++ pieceD L false p, Z.2 ++ pieceD L true p) := by
  cases h : hidB L p
  · rw [piece_not h]
    simp [addZ]
  · rw [piece_was h]
    simp [addZ]
/-- What the first m deeds declare. -/
noncomputable def decZ (L : List ByteArray) (ps : List Int) (m : Nat) : List ByteArray × List ByteArray := ((ps.take m).flatMap (pieceD L false), (ps.take m).flatMap (pieceD L true))
theorem decZ_succ (L : List ByteArray) (ps : List Int) {m : Nat} (h : m < ps.length) : decZ L ps (m + 1) = addZ (hidB L ps[m]) (decZ L ps m) (pieceD L (hidB L ps[m]) ps[m]) := by
  rw [addZ_piece]
  unfold decZ
  rw [List.take_succ_eq_append_getElem h, List.flatMap_append, List.flatMap_append]
  simp only [List.flatMap_cons, List.flatMap_nil, List.append_nil]
theorem varB_drop (L : List ByteArray) (v : Bool) (ps : List Int) {m : Nat} (h : m < ps.length) : varB L v (ps.drop m) = ((isW (sgAt L (ps[m] + 1)) [118, 97, 114, 115] && !v) || varB L false (ps.drop (m + 1))) := by
  rw [List.drop_eq_getElem_cons h]
  rfl
/-- May a vars stand at this place? -/
def vAt (v : Bool) (m : Nat) : Bool := v && decide (m = 0)
theorem chain_dl {L : List ByteArray} {e : Int} : ∀ k i, chainD L k i e → ∀ p ∈ chainP L k i, fm L 1 p ≠ -1 := fun k i h => (chain_deeds k i h).2
theorem blockO_said (L : List ByteArray) (n : Nat) (v : Bool) (i : Int) (E : Blks) (lp : Bool) (F : Ot) (ps : List Int) (hps : plc L i = ps) :
    (F.add (badO (twZ (decZ L ps ps.length) || varB L v ps))).add (outs (fun p => wk L n 0 false p (knE (E ++ [decZ L ps ps.length]) lp)) ps) = F.add (wk L (n + 1) 1 v i (knE E lp)) := by
  show _ = F.add (blockO L (wk L n) v i (knE E lp))
  unfold blockO
  rw [hps, blk_split, Ot.add_assoc]
  have e1 : decZ L ps ps.length = (ps.flatMap (pieceD L false), ps.flatMap (pieceD L true)) := by unfold decZ; rw [List.take_length]
  rw [e1, knE_snoc]
  congr 1
  rw [← Ot.add_assoc]
  congr 1

set_option maxRecDepth 100000 in
set_option maxHeartbeats 8000000 in
theorem readBlock_any {a : Option Addr} {cap : Nat} {L : List ByteArray} {c n : Nat} (hR : ReadC a cap L c n) (hL : L.length ≤ 2000) (hsg : signsB L = true) : RBlkC a cap L c (n + 1) := fun S E lp v F U i e k ad cd w h hX hch hend he0 he1 hn hE hU => by
  have hcv := (chain_deeds k i hch).1
  have hce := chainV_ends k i hcv he0
  have hup := upL_chain k i hcv
  have hlt := chainP_lt k i hcv he0
  have HDL : Hid (∀ p ∈ chainP L k i, fm L 1 p ≠ -1) := chain_dl k i hch
  have HPL : Hid (plc L i = chainP L k i) := plc_chain hcv he0 he1 hend
  have hkl := chP_len L k i
  have HSAID : Hid (∀ X, plc L i = X → (F.add (badO (twZ (decZ L X X.length) || varB L v X))).add (outs (fun p => wk L n 0 false p (knE (E ++ [decZ L X X.length]) lp)) X) = F.add (wk L (n + 1) 1 v i (knE E lp))) := fun X hX => blockO_said L n v i E lp F X hX
  obtain ⟨X, hXe⟩ : ∃ X, X = chainP L k i := ⟨_, rfl⟩
  rw [← hXe] at hX hup hlt HDL HPL hkl
  clear hXe hch hcv
  have HUP : Hid (UpL L X i e) := hup
  have HLT : Hid (∀ p ∈ X, i ≤ p ∧ p < e ∧ ItV L p ∧ itemE L p ≤ e) := hlt
  clear hup hlt
  have hkb : k ≤ 2000 := by omega
  go_enter Tryz.func40, Tryz.ntmps40
  go_wp2_with fail
  refine (openBlock_any S c a cap L E F U w h (by omega)).mono ?_
  rintro r w1 ⟨rfl, S1, hSt1, hN1⟩
  have hX1 := hX.nxt hN1
  clear h hX
  go_wp2
  go_loopw [18] (fun v18 wr => ∃ (m : Nat) (b : Bool) (Sr : Nat → Prop), v18 = .int .i64 (m : Int) ∧ m ≤ k ∧ St Sr c a cap L (E ++ [decZ L X m]) (F.add (badO (twZ (decZ L X m) || b))) U wr ∧ Nxt S1 Sr w1 wr ∧ Hid ((b || varB L (vAt v m) (X.drop m)) = varB L v X)) (fun v18 _ => k - (intOf v18).toNat)
  case atStart => exact ⟨0, false, S1, rfl, Nat.zero_le _, by rw [show F.add (badO (twZ (decZ L X 0) || false)) = F from Ot.add_none F]; exact hSt1, Nxt.refl S1 w1, by show (false || varB L (v && decide (0 = 0)) X) = varB L v X; simp⟩
  case round =>
    obtain ⟨m, b, Sr, rfl, hm, hSt, hN, HV⟩ := hrel
    by_cases hlt : m < k
    · have hmX : m < X.length := by omega
      obtain ⟨sb, off, rfl, hsb, _, hc⟩ := (hX1.nxt hN) m hmX
      have hpm := List.getElem_mem hmX
      obtain ⟨p1, p2, p3, p4⟩ := HLT.out _ hpm
      have hdl := HDL.out _ hpm
      have hlong := deed_long hdl
      obtain ⟨hpn, hpb⟩ := plcD_piece hdl
      obtain ⟨⟨x, hM, hS⟩, hA⟩ := id hSt
      obtain ⟨sa, oa, rfl, hac, ham, haz, _⟩ := hA.at (i := X[m] + 1) (by omega) (by omega)
      have hc0 := hM.c0
      have HST : Hid (St Sr c (some ⟨sa, oa, none⟩) cap L (E ++ [decZ L X m]) (F.add (badO (twZ (decZ L X m) || b))) U wr) := hSt
      have HDB : Hid (∀ W, ArgT W (some ⟨sa, oa, none⟩) L → Calls Tryz.prog 83 #[.slice (some ⟨sa, oa, none⟩) L.length cap, .int .i64 X[m]] W fun r W' => ∃ av n cv, r = .returned (.tuple #[.slice av n cv, .bool (hidB L X[m])]) ∧ n = (plcD L X[m]).length ∧ RowN W.heap.size W' av (plcD L X[m]) ∧ Below W.heap.size W W') := fun W hA => declaredBy_any _ cap L _ (by omega) hsg hdl W hA
      have HDZ : Hid (decZ L X (m + 1) = addZ (hidB L X[m]) (decZ L X m) ((plcD L X[m]).map (sgAt L))) := (by rw [decZ_succ L X hmX, hpn] : decZ L X (m + 1) = addZ (hidB L X[m]) (decZ L X m) ((plcD L X[m]).map (sgAt L)))
      have HV2 : Hid (((b || (isW (sgAt L (X[m] + 1)) [118, 97, 114, 115] && !vAt v m)) || varB L (vAt v (m + 1)) (X.drop (m + 1))) = varB L v X) := by
        show ((b || (isW (sgAt L (X[m] + 1)) [118, 97, 114, 115] && !vAt v m)) || varB L (vAt v (m + 1)) (X.drop (m + 1))) = varB L v X
        rw [← HV.out, varB_drop L (vAt v m) X hmX, Bool.or_assoc]
        congr 2
        unfold vAt
        simp
      have hYl : (plcD L X[m]).length ≤ 2000 := by
        have e1 : (plcD L X[m]).length = (pieceD L (hidB L X[m]) X[m]).length := by rw [← hpn, List.length_map]
        have e2 := piece_len (hidB L X[m]) hdl
        omega
      clear hSt hS hM HV hpn hdl hpm
      generalize X[m] = p at hc hac ham p1 p2 p3 p4 hlong hpb HDB HDZ HV2 hYl
      obtain ⟨pp, rfl⟩ : ∃ pp : Nat, p = (pp : Int) := ⟨p.toNat, by omega⟩
      have hwr : IntKind.i64.wrap ((pp : Int) + 1) = (pp : Int) + 1 := IntWalk.i64_in _ (by omega)
      have hp0 : (0 : Int) ≤ (pp : Int) + 1 := by omega
      have hp1 : (pp : Int) + 1 < (L.length : Int) := by omega
      have hpn : ((pp : Int) + 1).toNat = pp + 1 := by omega
      rw [hpn] at hac
      generalize sgAt L ((pp : Int) + 1) = s at hac ham HV2
      have hmk : (m : Int) < (k : Int) := by omega
      go_upto_region 4 with fail
      go_cut [39] from 23 to 38 (fun v39 wc => v39 = .bool (isW s [118, 97, 114, 115] && !vAt v m) ∧ wr = wc)
      case first =>
        cases hiv : isW s [118, 97, 114, 115]
        · have b1 : (s.toList == [118, 97, 114, 115]) = false := hiv
          have HIV : Hid (isW s [118, 97, 114, 115] = false) := hiv
          clear hiv
          go_wp2
          go_meet
          exact ⟨by rw [HIV.out]; rfl, rfl⟩
        · have b1 : (s.toList == [118, 97, 114, 115]) = true := hiv
          have HIV : Hid (isW s [118, 97, 114, 115] = true) := hiv
          clear hiv
          by_cases hm0 : m = 0
          · subst hm0
            have HVA : Hid (vAt v 0 = v) := (by simp [vAt] : vAt v 0 = v)
            cases v
            · go_wp2
              go_meet
              exact ⟨by rw [HIV.out, HVA.out]; rfl, rfl⟩
            · go_wp2
              go_meet
              exact ⟨by rw [HIV.out, HVA.out]; rfl, rfl⟩
          · have HVA : Hid (vAt v m = false) := (by simp [vAt, hm0] : vAt v m = false)
            have hpos : (0 : Int) < (m : Int) := by omega
            go_wp2
            go_meet
            exact ⟨by rw [HIV.out, HVA.out]; rfl, rfl⟩
      case rest =>
        obtain ⟨rfl, rfl⟩ := hcut
        generalize (isW s [118, 97, 114, 115] && !vAt v m) = fl at HV2 ⊢
        go_upto_if 39 with fail
        go_cut [39] from 40 to 43 (fun _ wc => St Sr c (some ⟨sa, oa, none⟩) cap L (E ++ [decZ L X m]) (F.add (badO (twZ (decZ L X m) || (b || fl)))) U wc ∧ Nxt Sr Sr wr wc)
        case first =>
          obtain ⟨⟨x, hM, hS⟩, hA⟩ := HST.out
          cases fl
          · have HF : Hid (St Sr c (some ⟨sa, oa, none⟩) cap L (E ++ [decZ L X m]) (F.add (badO (twZ (decZ L X m) || (b || false)))) U wr) := (by rw [Bool.or_false]; exact HST.out : St Sr c (some ⟨sa, oa, none⟩) cap L (E ++ [decZ L X m]) (F.add (badO (twZ (decZ L X m) || (b || false)))) U wr)
            go_wp2
            go_meet
            exact ⟨HF.out, Nxt.refl Sr wr⟩
          · have k7 := hM.c7
            have f7 := hM.fz 7
            have HF : Hid (St Sr c (some ⟨sa, oa, none⟩) cap L (E ++ [decZ L X m]) (F.add (badO (twZ (decZ L X m) || (b || true)))) U (wr.setCell ⟨c, 7, none⟩ (.bool true)) ∧ Nxt Sr Sr wr (wr.setCell ⟨c, 7, none⟩ (.bool true))) := by
              have hN7 := Nxt.set Sr wr (p := ⟨c, 7, none⟩) (.bool true) hM.own
              have hs7 := said_bad hS true { x with fv := true } rfl rfl (by simp)
              rw [badO_add, Bool.or_assoc] at hs7
              exact ⟨⟨⟨_, hM.flag7 true, hs7⟩, hA.nxt hN7⟩, hN7⟩
            go_wp2
            go_meet
            exact HF.out
        case rest =>
          obtain ⟨hStc, hNc⟩ := hcut
          have hNwc := hN.trans hNc
          clear HST hc0 hac ham haz hNc hN hc hsb
          obtain ⟨⟨x, hM, hS⟩, hA⟩ := id hStc
          have hc0 := hM.c0
          have hlow := hM.low
          go_wp2_with fail
          refine (HDB.out _ hA.arg).mono ?_
          rintro r w2 ⟨av, nn, cv, rfl, hnn, hRn, hB2⟩
          have hSt2 := hStc.call hB2
          have hN2 := hNwc.trans (Nxt.of_below Sr hB2)
          have hRI := hRn.row (fun k hk => (hlow k hk).2)
          have HNN : Hid (nn = (plcD L (pp : Int)).length) := hnn
          clear hStc hM hS hA hc0 hlow hRn hB2 hNwc HDB hnn
          generalize hidB L (pp : Int) = q at HDZ ⊢
          have hNb : ∀ y ∈ plcD L (pp : Int), 0 ≤ y ∧ y < (L.length : Int) := fun y hy => by have := hpb y hy; omega
          generalize plcD L (pp : Int) = Y at HDZ HNN hRI hNb hYl
          go_wp2
          go_loopw [55] (fun v55 wr => ∃ (t : Nat) (St' : Nat → Prop), v55 = .int .i64 (t : Int) ∧ t ≤ Y.length ∧ St St' c (some ⟨sa, oa, none⟩) cap L (E ++ [addZ q (decZ L X m) ((Y.map (sgAt L)).take t)]) (F.add (badO (twZ (addZ q (decZ L X m) ((Y.map (sgAt L)).take t)) || (b || fl)))) U wr ∧ Nxt Sr St' w2 wr) (fun v55 _ => Y.length - (intOf v55).toNat)
          case atStart =>
            refine ⟨0, Sr, rfl, Nat.zero_le _, ?_, Nxt.refl Sr w2⟩
            rw [List.take_zero, addZ_nil]
            exact hSt2
          case round =>
            obtain ⟨t, S3, rfl, ht, hSt3, hN3⟩ := hrel
            by_cases htl : t < Y.length
            · obtain ⟨sy, oy, rfl, hsy, _, hcy⟩ := (hRI.nxt hN3) t htl
              obtain ⟨y0, y1⟩ := hNb _ (List.getElem_mem htl)
              have HZ : Hid (addZ q (decZ L X m) ((Y.map (sgAt L)).take (t + 1)) = putE q (addZ q (decZ L X m) ((Y.map (sgAt L)).take t)) (sgAt L Y[t])) := by
                have := addZ_put q (decZ L X m) (Y.map (sgAt L)) t (by simpa using htl)
                rw [List.getElem_map] at this
                exact this.symm
              have HDE := declare_any S3 c (some ⟨sa, oa, none⟩) cap L E (addZ q (decZ L X m) ((Y.map (sgAt L)).take t)).1 (addZ q (decZ L X m) ((Y.map (sgAt L)).take t)).2 (F.add (badO (twZ (addZ q (decZ L X m) ((Y.map (sgAt L)).take t)) || (b || fl)))) U Y[t] q wr hSt3 y0 y1
              have HDE' : Hid (Calls Tryz.prog 84 #[.pointer (some ⟨c, 0, none⟩), .int .i64 Y[t], .bool q] wr fun e w' => e = .returned (.tuple #[]) ∧ St S3 c (some ⟨sa, oa, none⟩) cap L (E ++ [addZ q (decZ L X m) ((Y.map (sgAt L)).take (t + 1))]) (F.add (badO (twZ (addZ q (decZ L X m) ((Y.map (sgAt L)).take (t + 1))) || (b || fl)))) U w' ∧ Nxt S3 S3 wr w') := by
                rw [HZ.out, twZ_put]
                refine HDE.mono ?_
                rintro r w' ⟨h1, h2, h3⟩
                rw [badO_add] at h2
                refine ⟨h1, ?_, h3⟩
                rw [show ((twZ (addZ q (decZ L X m) ((Y.map (sgAt L)).take t)) || inB (sideL q (addZ q (decZ L X m) ((Y.map (sgAt L)).take t)).1 (addZ q (decZ L X m) ((Y.map (sgAt L)).take t)).2) (sgAt L Y[t])) || (b || fl)) = ((twZ (addZ q (decZ L X m) ((Y.map (sgAt L)).take t)) || (b || fl)) || inB (sideL q (addZ q (decZ L X m) ((Y.map (sgAt L)).take t)).1 (addZ q (decZ L X m) ((Y.map (sgAt L)).take t)).2) (sgAt L Y[t])) from bool_swap _ _ _]
                exact h2
              clear HDE HZ hSt3
              generalize Y[t] = y at hcy HDE' y0 y1
              have htk : (t : Int) < (nn : Int) := by rw [HNN.out]; omega
              go_wp2_with fail
              refine HDE'.out.mono ?_
              rintro r w4 ⟨rfl, hSt4, hN4⟩
              have hN5 := hN3.trans hN4
              clear HDE'
              go_wp2
              go_roundw
              case rel => exact ⟨t + 1, S3, by go_num, by omega, hSt4, hN5⟩
              case measure => simp [intOf]; omega
            · have e1 : t = Y.length := by omega
              have HT : Hid (St S3 c (some ⟨sa, oa, none⟩) cap L (E ++ [decZ L X (m + 1)]) (F.add (badO (twZ (decZ L X (m + 1)) || (b || fl)))) U wr) := by
                rw [e1, List.take_of_length_le (by simp), ← HDZ.out] at hSt3
                exact hSt3
              have hN5 := hN2.trans hN3
              have htk : ¬ (t : Int) < (nn : Int) := by rw [HNN.out]; omega
              clear hSt3 e1
              go_wp2
              go_roundw
              case rel => exact ⟨m + 1, b || fl, S3, by go_num, by omega, HT.out, hN5, HV2.out⟩
              case measure => simp [intOf]; omega
    · have e1 : m = k := by omega
      subst e1
      have HB : b = varB L v X := by
        have := HV.out
        rw [List.drop_of_length_le (by omega)] at this
        simpa [varB] using this
      rw [HB] at hSt
      clear HB HV
      have hXr := hX1.nxt hN
      have HSD := HSAID.out X HPL.out
      rw [hkl] at HSD
      have HSD' : Hid ((F.add (badO (twZ (decZ L X m) || varB L v X))).add (outs (fun p => wk L n 0 false p (knE (E ++ [decZ L X m]) lp)) X) = F.add (wk L (n + 1) 1 v i (knE E lp))) := HSD
      have hmk : ¬ (m : Int) < (m : Int) := by omega
      clear HSD
      go_wp2_with fail
      refine (readAll_any hR Sr (E ++ [decZ L X m]) lp _ U i e X ad m cd _ hkl.symm hSt hXr HUP.out (by omega) (by omega) (by omega) (by simp; omega) hU).mono ?_
      rintro r w2 ⟨rfl, S2, U2, hSt2, hN2, hU2⟩
      rw [HSD'.out] at hSt2
      have hNw := (hN1.trans hN).trans hN2
      go_wp2_with fail
      refine (closeBlock_any S2 c a cap L E _ _ U2 w2 hSt2).mono ?_
      rintro r w3 ⟨rfl, hSt3, hN3⟩
      have hNw3 := hNw.trans hN3
      go_wp2
      go_end0
      exact ⟨rfl, S2, U2, hSt3, hNw3, hU2⟩
end Go.Proofs.YtcpnofagnnncoaaGreatDoor

/-
  Chapter 5, the program: a turn and a function are read.
-/
namespace Go.Proofs.YtcpnofagnnncoaaGreatDoor
open Go.RowKit

theorem putE_first (s : ByteArray) : putE false ([], []) s = ([s], []) := rfl

set_option maxHeartbeats 2000000 in
theorem readTurn_any {a : Option Addr} {cap : Nat} {L : List ByteArray} {c n : Nat} (hR : ReadC a cap L c n) (S : Nat → Prop) (E : Blks) (F : Ot) (U : Nat) (y d : Int) (w : World) (h : St S c a cap L E F U w) (hy0 : 0 ≤ y) (hy1 : y < (L.length : Int)) (hd : ItV L d) (hn : 2 * farN L d + 1 ≤ n) (hE : E.length + (n + 1) ≤ 20000) (hU : (U : Int) ≤ d) :
    Calls Tryz.prog 140 #[.pointer (some ⟨c, 0, none⟩), .int .i64 y, .int .i64 d] w fun r w' => r = .returned (.tuple #[]) ∧ ∃ S' U', St S' c a cap L E (F.add (wk L n 0 false d (knE (E ++ [([sgAt L y], [])]) true))) U' w' ∧ Nxt S S' w w' ∧ (U' : Int) ≤ itemE L d := by
  go_enter Tryz.func140, Tryz.ntmps140
  go_wp2_with fail
  refine (openBlock_any S c a cap L E F U w h (by omega)).mono ?_
  rintro r w1 ⟨rfl, S1, hSt1, hN1⟩
  go_wp2_with fail
  refine (declare_any S1 c a cap L E [] [] F U y false w1 hSt1 hy0 hy1).mono ?_
  rintro r w2 ⟨rfl, hSt2, hN2⟩
  rw [putE_first, show F.add (badO (inB (sideL false [] []) (sgAt L y))) = F from Ot.add_none F] at hSt2
  have hN12 := hN1.trans hN2
  clear hSt1 hN1 hN2 h
  go_wp2_with fail
  refine (hR S1 (E ++ [([sgAt L y], [])]) true F U d w2 hSt2 hd hn (by simp; omega) hU).mono ?_
  rintro r w3 ⟨rfl, S3, U3, hSt3, hN3, hU3⟩
  have hN13 := hN12.trans hN3
  clear hSt2 hN12 hN3
  go_wp2_with fail
  refine (closeBlock_any S3 c a cap L E _ _ U3 w3 hSt3).mono ?_
  rintro r w4 ⟨rfl, hSt4, hN4⟩
  have hN14 := hN13.trans hN4
  go_wp2
  go_end0
  exact ⟨rfl, S3, U3, hSt4, hN14, hU3⟩

/-- The SUMs of the PARAMs that have one. -/
def givL (L : List ByteArray) : List Int → List Int
  | [] => []
  | p :: ps => if isW (sgAt L p) [40] then (p + 2) :: givL L ps else givL L ps
theorem givL_append (L : List ByteArray) : ∀ ps qs, givL L (ps ++ qs) = givL L ps ++ givL L qs
  | [], _ => rfl
  | p :: ps, qs => by
    show (if isW (sgAt L p) [40] then (p + 2) :: givL L (ps ++ qs) else givL L (ps ++ qs)) = (if isW (sgAt L p) [40] then (p + 2) :: givL L ps else givL L ps) ++ givL L qs
    rw [givL_append L ps qs]
    split <;> rfl
theorem givL_len (L : List ByteArray) : ∀ ps, (givL L ps).length ≤ ps.length
  | [] => Nat.le_refl _
  | p :: ps => by
    have := givL_len L ps
    unfold givL
    split <;> simp <;> omega
theorem outs_giv (L : List ByteArray) (f : Int → Ot) : ∀ ps, outs (parO L f) ps = outs f (givL L ps)
  | [] => rfl
  | p :: ps => by
    show (parO L f p).add (outs (parO L f) ps) = outs f (givL L (p :: ps))
    rw [outs_giv L f ps]
    show (if isW (sgAt L p) [40] then f (p + 2) else Ot.none).add (outs f (givL L ps)) = outs f (if isW (sgAt L p) [40] then (p + 2) :: givL L ps else givL L ps)
    split
    · rfl
    · exact Ot.none_add _
theorem giv_any (L : List ByteArray) : ∀ ps, (!ps.any fun p => isW (sgAt L p) [40]) = decide (((givL L ps).length : Int) = 0)
  | [] => rfl
  | p :: ps => by
    rw [List.any_cons]
    unfold givL
    cases h : isW (sgAt L p) [40]
    · rw [Bool.false_or, giv_any L ps]
      simp
    · simp
      omega
theorem upL_giv {L : List ByteArray} {e : Int} : ∀ k i, chainQ L k i e → 0 ≤ e → UpL L (givL L (chainP L k i)) i e
  | 0, i, h, _ => by
    have : i = e := h
    show i ≤ e
    omega
  | k + 1, i, h, he => by
    have ih := upL_giv k _ h.2 he
    have hpe := par_ends h.1
    show UpL L (if isW (sgAt L i) [40] then (i + 2) :: givL L (chainP L k (itemE L i)) else givL L (chainP L k (itemE L i))) i e
    obtain ⟨_, _, h1 | h1⟩ := par_at h.1
    · rw [h1.1, if_pos rfl]
      exact ⟨by omega, h1.2.2.2.1, ih.start (by omega)⟩
    · rw [h1.1]
      exact ih.start (by omega)
theorem Nxt.wide {S T : Nat → Prop} {w w' : World} (h : Nxt S S w w') (hT : ∀ k, S k → T k) : Nxt T T w w' := ⟨h.os, h.tape, h.output, h.size, fun k hk hn => h.block k hk (fun hs => hn (hT k hs)), fun _ hs => Or.inl hs⟩
theorem Nxt.grownNew {S : Nat → Prop} {w W W' : World} {row : Option Nat} (h : Nxt S S w W) (hg : W.grownBy W' row) (hr : ∀ k, row = some k → w.heap.size ≤ k) : Nxt S S w W' :=
  ⟨hg.os.trans h.os, hg.tape.trans h.tape, hg.output.trans h.output, Nat.le_trans h.size hg.size, fun k hk hn => (hg.block k (Nat.lt_of_lt_of_le hk h.size) (fun e => by have := hr k e.symm; omega)).trans (h.block k hk hn), fun _ hs => Or.inl hs⟩
theorem Nxt.callNew {S : Nat → Prop} {w W W' : World} (h : Nxt S S w W) (hb : Below W.heap.size W W') : Nxt S S w W' := h.trans (Nxt.of_below S hb)
theorem chainQ_all {L : List ByteArray} {e : Int} : ∀ k i, chainQ L k i e → 0 ≤ e → ∀ p ∈ chainP L k i, fm L 3 p ≠ -1 ∧ i ≤ p ∧ itemE L p ≤ e
  | 0, _, _, _, p, hp => by cases hp
  | k + 1, i, h, he, p, hp => by
    have hpe := par_ends h.1
    have h2 := chainQ_ends k _ h.2 he
    rcases List.mem_cons.mp hp with rfl | hp
    · exact ⟨h.1, Int.le_refl _, by omega⟩
    · obtain ⟨a1, a2, a3⟩ := chainQ_all k _ h.2 he p hp
      exact ⟨a1, by omega, a3⟩

theorem fnO_said (L : List ByteArray) (n : Nat) (i : Int) (E : Blks) (lp : Bool) (F : Ot) (ps : List Int) (b : Int) (hps : plc L (i + 3) = ps) (hb : bodyI L i = b) :
    ((F.add (badO (twiceB (ps.map (parN L))))).add (outs (fun p => wk L n 0 false p (knE (E ++ [(ps.map (parN L), [])]) false)) (givL L ps))).add (wk L n 1 (decide (((givL L ps).length : Int) = 0)) b (knE (E ++ [(ps.map (parN L), [])]) false)) = F.add (fnO L (wk L n) i (knE E lp)) := by
  unfold fnO
  rw [hps, hb, knE_names E (ps.map (parN L)) lp false, outs_giv, giv_any, Ot.add_assoc, Ot.add_assoc]
  rfl

set_option maxRecDepth 100000 in
set_option maxHeartbeats 8000000 in
theorem readFunction_any {a : Option Addr} {cap : Nat} {L : List ByteArray} {c n : Nat} (hR : ReadC a cap L c n) (hK : RBlkC a cap L c n) (hL : L.length ≤ 2000) (hsg : signsB L = true) (S : Nat → Prop) (E : Blks) (lp : Bool) (F : Ot) (U : Nat) (i e7 e6 : Int) (kq m : Nat) (ad : Option Addr) (cd : Nat) (w : World) (h : St S c a cap L E F U w) (hX : RowI S w ad (chainP L m (e7 + 1)))
    (hi0 : 0 ≤ i) (ho : isW (sgAt L (i + 2)) [40] = true) (hit : 0 ≤ itemE L (i + 2)) (hq : chainQ L kq (i + 3) e7) (h70 : 0 ≤ e7) (h71 : e7 < (L.length : Int)) (h7 : isW (sgAt L e7) [41] = true) (hbody : bodyI L i = e7 + 1) (hd : chainD L m (e7 + 1) e6) (h60 : 0 ≤ e6) (h61 : e6 < (L.length : Int)) (h6 : isW (sgAt L e6) [41] = true)
    (hn : 2 * farN L i + 1 ≤ n + 1) (hE : E.length + (n + 1) ≤ 20000) (hU : (U : Int) ≤ i) :
    Calls Tryz.prog 139 #[.pointer (some ⟨c, 0, none⟩), .int .i64 (i + 2), .slice ad m cd] w fun r w' => r = .returned (.tuple #[]) ∧ ∃ S' U', St S' c a cap L E (F.add (fnO L (wk L n) i (knE E lp))) U' w' ∧ Nxt S S' w w' ∧ (U' : Int) ≤ e6 := by
  obtain ⟨i0, hi, hz0, hz1, hz2⟩ := info_parts infoI
  have hqe := chainQ_ends kq _ hq h70
  have hme := chain_ends m _ hd h60
  have hf1 := farR_lt (L := L) hi0 (by omega : i < i + 3) (by omega)
  have hf2 := farR_lt (L := L) (by omega : 0 ≤ i + 3) (by omega : i + 3 < e7 + 1) (by omega)
  have hall := chainQ_all kq _ hq h70
  have hup := upL_giv kq _ hq h70
  have hkl := chP_len L kq (i + 3)
  have HSAID := fnO_said L n i E lp F (chainP L kq (i + 3)) (e7 + 1) (plc_par hq h70 h71 h7) hbody
  have HPI : Hid (∀ W, ArgT W a L → Calls Tryz.prog 114 #[.slice a L.length cap, .int .i64 (i + 2)] W fun e W' => ∃ v, e = .returned v ∧ OwnI W' W.heap.size v (chainP L kq (i + 3)) ∧ Below W.heap.size W W') := fun W hA => by
    have := itemsInI_any a cap L (i + 2) e7 kq (by omega) hsg ho hit (by rw [show i + 2 + 1 = i + 3 by omega]; exact chI_Q kq _ hq) h70 (by omega) (itemE_none (Or.inr (Or.inr h7))) W hA
    rw [show i + 2 + 1 = i + 3 by omega] at this
    exact this
  obtain ⟨P, hP⟩ : ∃ P, P = chainP L kq (i + 3) := ⟨_, rfl⟩
  rw [← hP] at hall hup hkl HSAID HPI
  have HSD : Hid (((F.add (badO (twiceB (P.map (parN L))))).add (outs (fun p => wk L n 0 false p (knE (E ++ [(P.map (parN L), [])]) false)) (givL L P))).add (wk L n 1 (decide (((givL L P).length : Int) = 0)) (e7 + 1) (knE (E ++ [(P.map (parN L), [])]) false)) = F.add (fnO L (wk L n) i (knE E lp))) := HSAID
  have HUP : Hid (UpL L (givL L P) (i + 3) e7) := hup
  clear HSAID hP hup hbody
  have fa : 0 ≤ i + 3 := by omega
  have fb : (givL L P).length ≤ 1048576 := by have := givL_len L P; omega
  have fc : 2 * farN L (i + 3) + 1 ≤ n := by omega
  have fd : (E ++ [(P.map (parN L), [])]).length + n ≤ 20000 := by simp; omega
  have fe : (U : Int) ≤ i + 3 := by omega
  have ff : 2 * farN L (e7 + 1) + 2 ≤ n := by omega
  have HF : Hid (0 ≤ i + 3 ∧ (givL L P).length ≤ 1048576 ∧ 2 * farN L (i + 3) + 1 ≤ n ∧ (E ++ [(P.map (parN L), [])]).length + n ≤ 20000 ∧ (U : Int) ≤ i + 3 ∧ 2 * farN L (e7 + 1) + 2 ≤ n) := ⟨fa, fb, fc, fd, fe, ff⟩
  clear fa fb fc fd fe ff
  go_enter Tryz.func139, Tryz.ntmps139
  go_wp2_with fail
  refine (openBlock_any S c a cap L E F U w h (by omega)).mono ?_
  rintro r w1 ⟨rfl, S1, hSt1, hN1⟩
  have hX1 := hX.nxt hN1
  have HA1 : Hid (ArgS S1 w1 a L) := hSt1.2
  have hlow : ∀ k, S1 k → k < w1.heap.size := by
    obtain ⟨⟨x, hM, _⟩, _⟩ := hSt1
    exact fun k hk => (hM.low k hk).2
  have HG0 : Hid (OwnI (w1.alloc (.cells #[] 2)) w1.heap.size (.slice (some ⟨w1.heap.size, 0, none⟩) 0 0) []) := World.ownsRow_made w1 #[] 0 (Nat.le_refl _) (Nat.zero_le _) rfl
  obtain ⟨W2, hW2⟩ : ∃ W2, W2 = w1.alloc (.cells #[] 2) := ⟨_, rfl⟩
  have hb2 : Below w1.heap.size w1 W2 := by rw [hW2]; exact balloc (Below.refl _ _) _
  have hz2' : W2.heap.size = w1.heap.size + 1 := by rw [hW2]; simp
  rw [← hW2] at HG0
  have hSt2 := hSt1.call hb2
  obtain ⟨⟨x, hM, hS⟩, hA⟩ := id hSt2
  have hc0 : (w1.alloc (.cells #[] 2)).cell? ⟨c, 0, none⟩ = some (.slice a L.length cap) := hW2 ▸ hM.c0
  clear h hX hSt1
  go_wp2_with fail
  rw [← hW2]
  refine (HPI.out _ hA.arg).mono ?_
  rintro r w3 ⟨vp, rfl, hOp, hb3⟩
  have hSt3 := hSt2.call hb3
  have hN3 : Nxt S1 S1 w1 w3 := (Nxt.of_below S1 hb2).trans (Nxt.of_below S1 hb3)
  have hG3 : OwnI w3 w1.heap.size (.slice (some ⟨w1.heap.size, 0, none⟩) 0 0) [] := own_kept HG0.out (fun g hg => hb3.block g (World.ownsRow.lt HG0.out g hg).2)
  obtain ⟨avp, cvp, rfl, hcvp, hRp⟩ := hOp.row (S := fun k => S1 k ∨ (Value.slice (some ⟨w1.heap.size, 0, none⟩) 0 0).ownBlock = some k) (fun k hk => by
    rcases hk with hk | hk
    · have := hlow k hk
      omega
    · have : w1.heap.size = k := by simpa [Value.ownBlock] using hk
      omega)
  clear hW2 hc0 hM hS hA hb3 hb2 hOp HG0 hSt2 HPI hz2'
  rw [hkl]
  rw [hkl] at hcvp
  have HALL : Hid (∀ p ∈ P, fm L 3 p ≠ -1 ∧ i + 3 ≤ p ∧ itemE L p ≤ e7) := hall
  clear hall
  go_wp2
  go_loopw [6, 20] (fun v6 v20 wr => ∃ (t : Nat) (a6 : Option Addr) (n6 cv6 : Nat), v20 = .int .i64 (t : Int) ∧ v6 = .slice a6 n6 cv6 ∧ n6 = (givL L (P.take t)).length ∧ t ≤ kq ∧ St S1 c a cap L (E ++ [((P.take t).map (parN L), [])]) (F.add (badO (twiceB ((P.take t).map (parN L))))) U wr ∧ OwnI wr w1.heap.size (.slice a6 n6 cv6) (givL L (P.take t)) ∧ Nxt S1 S1 w1 wr ∧ RowI (fun k => S1 k ∨ (Value.slice a6 n6 cv6).ownBlock = some k) wr avp P) (fun _ v20 _ => kq - (intOf v20).toNat)
  case atStart =>
    refine ⟨0, _, _, _, rfl, rfl, rfl, Nat.zero_le _, ?_, hG3, hN3, hRp⟩
    rw [List.take_zero, show F.add (badO (twiceB (([] : List Int).map (parN L)))) = F from Ot.add_none F]
    exact hSt3
  case round =>
    clear hSt3 hG3 hN3 hRp
    obtain ⟨t, a6, n6, cv6, rfl, rfl, hn6, ht, hSt, hG, hN, hRp⟩ := hrel
    by_cases htl : t < kq
    · have htP : t < P.length := by omega
      obtain ⟨sp, op, rfl, hspz, hspn, hpc⟩ := hRp t htP
      obtain ⟨hpar, hp3, hpe⟩ := HALL.out _ (List.getElem_mem htP)
      obtain ⟨hp0, hp1, hpc2⟩ := par_at hpar
      have HTK : Hid (P.take (t + 1) = P.take t ++ [P[t]]) := List.take_succ_eq_append_getElem htP
      generalize P[t] = p at hpc hpar hp3 hpe hp0 hp1 hpc2 HTK
      obtain ⟨⟨x, hM, hS⟩, hA⟩ := id hSt
      have hc0 := hM.c0
      obtain ⟨pp, rfl⟩ : ∃ pp : Nat, p = (pp : Int) := ⟨p.toNat, by omega⟩
      obtain ⟨sa, oa, rfl, hac, ham, haz, _⟩ := hA.at (i := (pp : Int)) hp0 hp1
      have hac' : wr.cell? ⟨sa, oa + pp, none⟩ = some (.string (sgAt L (pp : Int))) := hac
      have HO : Hid (OwnI wr w1.heap.size (.slice a6 n6 cv6) (givL L (P.take t))) := hG
      have hgl := givL_len L (P.take t)
      have hgl2 : n6 ≤ 2000 := by simp at hgl; omega
      have HN6 : Hid (n6 = (givL L (P.take t)).length) := hn6
      clear hn6 hgl
      have htk : (t : Int) < (kq : Int) := by omega
      clear hac hG
      rcases hpc2 with ⟨h40, hnm, hp2, hiv, hpe2⟩ | ⟨h40, hnm, hpe2⟩
      · have b40 : ((sgAt L (pp : Int)).toList == [40]) = true := h40
        have HPN : Hid (parN L (pp : Int) = sgAt L ((pp : Int) + 1)) := (by unfold parN; rw [h40]; rfl : parN L (pp : Int) = sgAt L ((pp : Int) + 1))
        have HGV : Hid (givL L (P.take (t + 1)) = givL L (P.take t) ++ [(pp : Int) + 2]) := (by rw [HTK.out, givL_append]; congr 1; unfold givL; rw [h40]; rfl : givL L (P.take (t + 1)) = givL L (P.take t) ++ [(pp : Int) + 2])
        have hie := hiv.ends
        obtain ⟨k2, e2, q1, q2, q3, q4, q5⟩ := item_parts h40 (by omega)
        have hit1 : itemE L ((pp : Int) + 1) = (pp : Int) + 2 := by rw [item_one (by omega) (by omega) (nm_plain hnm)]; omega
        have HIT : Hid (∀ W, ArgT W (some ⟨sa, oa, none⟩) L → Calls Tryz.prog 114 #[.slice (some ⟨sa, oa, none⟩) L.length cap, .int .i64 (pp : Int)] W fun r W' => ∃ v, r = .returned v ∧ OwnI W' W.heap.size v (chainP L k2 ((pp : Int) + 1)) ∧ Below W.heap.size W W') := fun W hA => itemsInI_any (some ⟨sa, oa, none⟩) cap L (pp : Int) e2 k2 (by omega) hsg h40 (by omega) q1 q2 (by omega) (itemE_none (Or.inr (Or.inr q4))) W hA
        obtain ⟨k3, rfl, _, q6⟩ := chI_next q1 (by omega)
        rw [hit1] at q6
        obtain ⟨k4, rfl, _, _⟩ := chI_next q6 (by omega)
        have HCH : Hid (chainP L (k4 + 1 + 1) ((pp : Int) + 1) = ((pp : Int) + 1) :: ((pp : Int) + 2) :: chainP L k4 (itemE L ((pp : Int) + 2))) := (by rw [chainP_succ, hit1, chainP_succ] : chainP L (k4 + 1 + 1) ((pp : Int) + 1) = ((pp : Int) + 1) :: ((pp : Int) + 2) :: chainP L k4 (itemE L ((pp : Int) + 2)))
        have HDE : Hid (∀ W, St S1 c (some ⟨sa, oa, none⟩) cap L (E ++ [((P.take t).map (parN L), [])]) (F.add (badO (twiceB ((P.take t).map (parN L))))) U W → Calls Tryz.prog 84 #[.pointer (some ⟨c, 0, none⟩), .int .i64 ((pp : Int) + 1), .bool false] W fun e w' => e = .returned (.tuple #[]) ∧ St S1 c (some ⟨sa, oa, none⟩) cap L (E ++ [((P.take (t + 1)).map (parN L), [])]) (F.add (badO (twiceB ((P.take (t + 1)).map (parN L))))) U w' ∧ Nxt S1 S1 W w') := fun W hW => by
          refine (declare_any S1 c (some ⟨sa, oa, none⟩) cap L E ((P.take t).map (parN L)) [] _ U ((pp : Int) + 1) false W hW (by omega) hp2).mono ?_
          rintro r w' ⟨h1, h2, h3⟩
          rw [badO_add] at h2
          refine ⟨h1, ?_, h3⟩
          rw [HTK.out, List.map_append, List.map_singleton, HPN.out, twice_snoc]
          exact h2
        have HST : Hid (St S1 c (some ⟨sa, oa, none⟩) cap L (E ++ [((P.take t).map (parN L), [])]) (F.add (badO (twiceB ((P.take t).map (parN L))))) U wr) := hSt
        have hAT := hA.arg
        clear hSt h40 hM hS hA q1 q2 q3 q4 q5 q6 hit1 hnm hiv hie
        generalize sgAt L (pp : Int) = s at hac' ham b40
        go_wp2_with fail
        refine (HIT.out _ hAT).mono ?_
        rintro r w4 ⟨vq, rfl, hOq, hb4⟩
        have hO4 : OwnI w4 w1.heap.size (.slice a6 n6 cv6) (givL L (P.take t)) := own_kept HO.out (fun g hg => hb4.block g (World.ownsRow.lt HO.out g hg).2)
        have hN4 := hN.callNew hb4
        have hR4 := hRp.call hb4
        have hSt4 := HST.out.call hb4
        rw [HCH.out] at hOq
        obtain ⟨avq, cvq, rfl, hcvq, hRq⟩ := hOq.row (S := fun k => S1 k ∨ (Value.slice a6 n6 cv6).ownBlock = some k) (fun k hk => by
          rcases hk with hk | hk
          · have := hlow k hk
            have := hN.size
            omega
          · exact (World.ownsRow.lt HO.out k hk).2)
        obtain ⟨gq, oq, rfl, hgz, hgn, hg0⟩ := hRq 0 (by simp)
        have hg0' : w4.cell? ⟨gq, oq, none⟩ = some (.int .i64 ((pp : Int) + 1)) := hg0
        have hlq : (1 : Int) < ((((pp : Int) + 1) :: ((pp : Int) + 2) :: chainP L k4 (itemE L ((pp : Int) + 2))).length : Int) := by simp; omega
        have HRQ : Hid (RowI (fun k => S1 k ∨ (Value.slice a6 n6 cv6).ownBlock = some k) w4 (some ⟨gq, oq, none⟩) (((pp : Int) + 1) :: ((pp : Int) + 2) :: chainP L k4 (itemE L ((pp : Int) + 2)))) := hRq
        generalize (((pp : Int) + 1) :: ((pp : Int) + 2) :: chainP L k4 (itemE L ((pp : Int) + 2))).length = lq at hlq hcvq
        clear HST hRp hN HO hb4 hOq hRq hg0 HIT hAT
        go_wp2_with fail
        refine (HDE.out _ hSt4).mono ?_
        rintro r w5 ⟨rfl, hSt5, hN5⟩
        have hwide := hN5.wide (T := fun k => S1 k ∨ (Value.slice a6 n6 cv6).ownBlock = some k) (fun k hk => Or.inl hk)
        have hR5 := hR4.nxt hwide
        have hO5 : OwnI w5 w1.heap.size (.slice a6 n6 cv6) (givL L (P.take t)) := own_kept hO4 (fun g hg => hN5.block g (World.ownsRow.lt hO4 g hg).2 (fun hs => by have := hlow g hs; have := (World.ownsRow.lt hO4 g hg).1; omega))
        have hN15 := hN4.trans hN5
        obtain ⟨gq2, oq2, hqa, hgz5, hgn5, hg5⟩ := (HRQ.out.nxt hwide) 1 (by simp)
        have hg5' : w5.cell? ⟨gq, oq + 1, none⟩ = some (.int .i64 ((pp : Int) + 2)) := by
          injection hqa with hqa
          injection hqa with e1 e2 _
          subst e1 e2
          exact hg5
        have hO5' : w5.ownsRow w1.heap.size 2 1 (.slice a6 n6 cv6) n6 ((givL L (P.take t)).map fun x => .int .i64 x) := by
          have := hO5
          unfold OwnI at this
          rwa [← HN6.out] at this
        have hz15 := hN15.size
        have hcc2 : ∀ u ∈ [Value.int .i64 ((pp : Int) + 2)], u.oneCell' = true := fun u hu => by simp at hu; subst hu; rfl
        have hcc3 : n6 + 1 ≤ maxLen := by unfold maxLen; omega
        have hcc4 : (n6 + 1) * 8 ≤ 140737488355328 := by omega
        have hcc5 : w1.heap.size ≤ (w5.alloc (.cells #[.int .i64 ((pp : Int) + 2)] 2)).heap.size := by simp; omega
        have HO5 : Hid (w5.ownsRow w1.heap.size 2 1 (.slice a6 n6 cv6) n6 ((givL L (P.take t)).map fun x => .int .i64 x)) := hO5'
        clear hO4 hN4 hR4 hSt4 HRQ hN5 hwide hqa hg5 hg0' HDE hO5'
        go_wp2_with (at_builtin; refine wpList_append_at _ rfl (.tmp 46) (.tmp 50) 30 rfl w1.heap.size 2 i0 (.int .i64 0) 1 8 Tryz.underlying30 hi hz0 hz1 hz2 rfl (by decide) _ _ _ rfl (World.ownsRow.alloc HO5.out _) ⟨w5.heap.size, 0, none⟩ 1 1 [.int .i64 ((pp : Int) + 2)] rfl rfl (cell_one_new _ _ _) hcc2 hcc3 hcc4 hcc5 ?_)
        intro v' w6 hown hgrow hwh
        obtain ⟨a7, cv7, rfl, _, _, _, _⟩ := own_shape hown
        have hO6 : OwnI w6 w1.heap.size (.slice a7 (n6 + 1) cv7) (givL L (P.take (t + 1))) := by
          rw [HGV.out]
          unfold OwnI
          rw [List.length_append, List.map_append, ← HN6.out]
          exact hown
        have hgk : ∀ k, k < w5.heap.size → (Value.slice a6 n6 cv6).ownBlock ≠ some k → w6.heap[k]? = w5.heap[k]? := fun k hk hne => (hgrow.block k (by simp; omega) (fun e => hne e.symm)).trans (Below.heap_alloc _ _ _ hk)
        have hlo6 : ∀ k, (Value.slice a6 n6 cv6).ownBlock = some k → w1.heap.size ≤ k := fun k hk => (World.ownsRow.lt HO5.out k hk).1
        have hN16 : Nxt S1 S1 w1 w6 := (hN15.callNew (balloc (Below.refl _ _) (.cells #[.int .i64 ((pp : Int) + 2)] 2))).grownNew hgrow hlo6
        have hR6 : RowI (fun k => S1 k ∨ (Value.slice a7 (n6 + 1) cv7).ownBlock = some k) w6 (some ⟨sp, op, none⟩) P := fun j hj => by
          obtain ⟨sb, off, r1, r2, r3, r4⟩ := hR5 j hj
          have hk6 := hgk sb r2 (fun e => r3 (Or.inr e))
          refine ⟨sb, off, r1, by have := hgrow.size; simp at this; omega, ?_, (World.cell?_of_block (w := w5) (a := ⟨sb, off + j, none⟩) hk6).trans r4⟩
          rintro (hs | hs)
          · exact r3 (Or.inl hs)
          · rcases hwh sb hs with e | e
            · exact r3 (Or.inr e)
            · omega
        have hSt6 : St S1 c (some ⟨sa, oa, none⟩) cap L (E ++ [((P.take (t + 1)).map (parN L), [])]) (F.add (badO (twiceB ((P.take (t + 1)).map (parN L))))) U w6 := by
          obtain ⟨⟨x, hM, hS⟩, _⟩ := hSt5
          refine ⟨⟨x, hM.keep (fun k hk => hgk k (by have := hlow k hk; omega) (fun e => by have := hlo6 k e; have := hlow k hk; omega)) (by have := hgrow.size; simp at this; omega), hS⟩, HA1.out.nxt hN16⟩
        clear hown hgrow hwh hgk hR5 hSt5 HO5 hO5 hN15
        go_wp2
        go_roundw
        case rel => exact ⟨t + 1, a7, n6 + 1, cv7, by go_num, rfl, by rw [HGV.out, List.length_append, ← HN6.out]; rfl, by omega, hSt6, hO6, hN16, hR6⟩
        case measure => simp [intOf]; omega
      · have b40 : ((sgAt L (pp : Int)).toList == [40]) = false := h40
        have HPN : Hid (parN L (pp : Int) = sgAt L (pp : Int)) := (by unfold parN; rw [h40]; rfl : parN L (pp : Int) = sgAt L (pp : Int))
        have HGV : Hid (givL L (P.take (t + 1)) = givL L (P.take t)) := (by rw [HTK.out, givL_append]; unfold givL; rw [h40]; exact List.append_nil _ : givL L (P.take (t + 1)) = givL L (P.take t))
        have HDE := declare_any S1 c (some ⟨sa, oa, none⟩) cap L E ((P.take t).map (parN L)) [] _ U (pp : Int) false wr hSt hp0 hp1
        have HDE' : Hid (Calls Tryz.prog 84 #[.pointer (some ⟨c, 0, none⟩), .int .i64 (pp : Int), .bool false] wr fun e w' => e = .returned (.tuple #[]) ∧ St S1 c (some ⟨sa, oa, none⟩) cap L (E ++ [((P.take (t + 1)).map (parN L), [])]) (F.add (badO (twiceB ((P.take (t + 1)).map (parN L))))) U w' ∧ Nxt S1 S1 wr w') := by
          refine HDE.mono ?_
          rintro r w' ⟨h1, h2, h3⟩
          rw [badO_add] at h2
          refine ⟨h1, ?_, h3⟩
          rw [HTK.out, List.map_append, List.map_singleton, HPN.out, twice_snoc]
          exact h2
        clear HDE hSt h40 hM hS hA
        generalize sgAt L (pp : Int) = s at hac' ham b40 HPN
        go_wp2_with fail
        refine HDE'.out.mono ?_
        rintro r w4 ⟨rfl, hSt4, hN4⟩
        have hO4 : OwnI w4 w1.heap.size (.slice a6 n6 cv6) (givL L (P.take (t + 1))) := by
          rw [HGV.out]
          exact own_kept HO.out (fun g hg => hN4.block g (World.ownsRow.lt HO.out g hg).2 (fun hs => by have := hlow g hs; have := (World.ownsRow.lt HO.out g hg).1; omega))
        have hN5 := hN.trans hN4
        have hR5 := hRp.nxt (hN4.wide (T := fun k => S1 k ∨ (Value.slice a6 n6 cv6).ownBlock = some k) (fun k hk => Or.inl hk))
        clear HDE' hRp hN hN4 HO
        go_wp2
        go_roundw
        case rel => exact ⟨t + 1, a6, n6, cv6, by go_num, rfl, by rw [HGV.out]; exact HN6.out, by omega, hSt4, hO4, hN5, hR5⟩
        case measure => simp [intOf]; omega
    · have e1 : t = kq := by omega
      subst e1
      have hPt : P.take t = P := List.take_of_length_le (by omega)
      rw [hPt] at hSt hG hn6
      obtain ⟨av6, cv6', hv6, _, hR6⟩ := hG.row (S := S1) hlow
      rw [← hn6] at hv6
      injection hv6 with ea _ ec
      subst ea ec
      have hgl := givL_len L P
      have HN6 : Hid (n6 = (givL L P).length) := hn6
      clear hn6
      have hXr := hX1.nxt hN
      have hNw := hN1.trans hN
      have htk : ¬ (t : Int) < (t : Int) := by omega
      clear hG hRp hPt hX1 hN1 hN
      go_wp2_with fail
      refine (readAll_any hR S1 (E ++ [(P.map (parN L), [])]) false _ U (i + 3) e7 (givL L P) a6 n6 cv6 _ HN6.out hSt hR6 HUP.out HF.out.1 HF.out.2.1 HF.out.2.2.1 HF.out.2.2.2.1 HF.out.2.2.2.2.1).mono ?_
      rintro r w4 ⟨rfl, S4, U4, hSt4, hN4, hU4⟩
      have hX4 := hXr.nxt hN4
      have hNw4 := hNw.trans hN4
      have HKB : Hid (∀ v, decide (((givL L P).length : Int) = 0) = v → Calls Tryz.prog 40 #[.pointer (some ⟨c, 0, none⟩), .slice ad m cd, .bool v, .bool false] w4 fun r w' => r = .returned (.tuple #[]) ∧ ∃ S' U', St S' c a cap L (E ++ [(P.map (parN L), [])]) (F.add (fnO L (wk L n) i (knE E lp))) U' w' ∧ Nxt S4 S' w4 w' ∧ (U' : Int) ≤ e6) := fun v hv => by
        subst hv
        rw [← HSD.out]
        exact hK S4 (E ++ [(P.map (parN L), [])]) false _ _ U4 (e7 + 1) e6 m ad cd w4 hSt4 hX4 hd (Or.inr h6) h60 (by omega) HF.out.2.2.2.2.2 HF.out.2.2.2.1 (by omega)
      clear hSt hR6 hXr hNw hSt4 hN4 hX4 HSD
      by_cases hz6 : n6 = 0
      · have bz : ((n6 : Int) == 0) = true := by simp [hz6]
        have HKB' := HKB.out true (by rw [← HN6.out, hz6]; rfl)
        have HKB'' : Hid (Calls Tryz.prog 40 #[.pointer (some ⟨c, 0, none⟩), .slice ad m cd, .bool true, .bool false] w4 fun r w' => r = .returned (.tuple #[]) ∧ ∃ S' U', St S' c a cap L (E ++ [(P.map (parN L), [])]) (F.add (fnO L (wk L n) i (knE E lp))) U' w' ∧ Nxt S4 S' w4 w' ∧ (U' : Int) ≤ e6) := HKB'
        clear hz6 HKB HKB'
        go_wp2_with fail
        refine HKB''.out.mono ?_
        rintro r w5 ⟨rfl, S5, U5, hSt5, hN5, hU5⟩
        have hNw5 := hNw4.trans hN5
        clear HKB''
        go_wp2_with fail
        refine (closeBlock_any S5 c a cap L E _ _ U5 w5 hSt5).mono ?_
        rintro r w6 ⟨rfl, hSt6, hN6⟩
        have hNw6 := hNw5.trans hN6
        go_wp2
        go_end0
        exact ⟨rfl, S5, U5, hSt6, hNw6, hU5⟩
      · have bz : ((n6 : Int) == 0) = false := by simp; omega
        have HKB' := HKB.out false (by rw [← HN6.out]; simp; omega)
        have HKB'' : Hid (Calls Tryz.prog 40 #[.pointer (some ⟨c, 0, none⟩), .slice ad m cd, .bool false, .bool false] w4 fun r w' => r = .returned (.tuple #[]) ∧ ∃ S' U', St S' c a cap L (E ++ [(P.map (parN L), [])]) (F.add (fnO L (wk L n) i (knE E lp))) U' w' ∧ Nxt S4 S' w4 w' ∧ (U' : Int) ≤ e6) := HKB'
        clear hz6 HKB HKB'
        go_wp2_with fail
        refine HKB''.out.mono ?_
        rintro r w5 ⟨rfl, S5, U5, hSt5, hN5, hU5⟩
        have hNw5 := hNw4.trans hN5
        clear HKB''
        go_wp2_with fail
        refine (closeBlock_any S5 c a cap L E _ _ U5 w5 hSt5).mono ?_
        rintro r w6 ⟨rfl, hSt6, hN6⟩
        have hNw6 := hNw5.trans hN6
        go_wp2
        go_end0
        exact ⟨rfl, S5, U5, hSt6, hNw6, hU5⟩
end Go.Proofs.YtcpnofagnnncoaaGreatDoor
