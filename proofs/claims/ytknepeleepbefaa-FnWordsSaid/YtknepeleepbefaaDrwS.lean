/-
  Chapter 10, the model's draws: a Show of some texts and a fault; the cursor stays a cursor; nothing else has turned.
-/
import Derived.Test.YtknepeleepbefaaDrawM
import Derived.Test.YtknepeleepbefaaOwnA
import Derived.Test.YtknepeleepbefaaAppW
import Derived.Test.YtknepeleepbefaaMemT
import Derived.Test.YtknepeleepbefaaListB
import Derived.Deep.QuietTactic
import Derived.BigQuiet
import Derived.Deep.RegionLaw
namespace Go.Proofs.Ytknepeleepbefaa
open Go.RowKit

/-- What is drawn from. -/
def fourL : List ByteArray := [⟨#[97]⟩, ⟨#[98]⟩, ⟨#[55]⟩, ⟨#[]⟩]
theorem four_at (k : Nat) (hk : k < 4) : ∃ t : ByteArray, (#[.string ⟨#[97]⟩, .string ⟨#[98]⟩, .string ⟨#[55]⟩, .string ⟨#[]⟩] : Array Value)[k]? = some (.string t) ∧ t ∈ fourL := by
  match k, hk with
  | 0, _ => exact ⟨_, rfl, by simp [fourL]⟩
  | 1, _ => exact ⟨_, rfl, by simp [fourL]⟩
  | 2, _ => exact ⟨_, rfl, by simp [fourL]⟩
  | 3, _ => exact ⟨_, rfl, by simp [fourL]⟩

theorem RowF.but {c g : Nat} {w w' : World} {C : List Value} (h : RowF w g C) (hb : But c w w') (hn : g ≠ c) : RowF w' g C :=
  ⟨Nat.lt_of_lt_of_le h.1 hb.2.2.2.1, fun i hi => ⟨(hb.cell g i h.1 hn).trans (h.2 i hi).1, (hb.frozen g i h.1 hn).trans (h.2 i hi).2⟩⟩
theorem OwnT.but {c : Nat} {w w' : World} {B : Nat} {v : Value} {L : List ByteArray} (h : OwnT w B v L) (hb : But c w w') (hn : c < B) : OwnT w' B v L :=
  own_kept h (fun k hk => by
    obtain ⟨h1, h2⟩ := World.ownsRow.lt h k hk
    exact hb.2.2.2.2 k h2 (by omega))
theorem But.grownB {c : Nat} {w W W' : World} {row : Option Nat} (h : But c w W) (hg : W.grownBy W' row) (hr : ∀ k, row = some k → w.heap.size ≤ k) : But c w W' :=
  ⟨hg.os.trans h.1, hg.tape.trans h.2.1, hg.output.trans h.2.2.1, Nat.le_trans h.2.2.2.1 hg.size, fun k hk hc => (hg.block k (Nat.lt_of_lt_of_le hk h.2.2.2.1) (fun e => by have := hr k e.symm; omega)).trans (h.2.2.2.2 k hk hc)⟩
theorem Cur.low {c : Nat} {a : Option Addr} {len cap : Nat} {w w1 : World} (h : Cur c a len cap w) (hb : Below (c + 1) w w1) : Cur c a len cap w1 := by
  obtain ⟨i, u, h0, h1, h2, hi, f0, f1, f2, hz, hc⟩ := h
  have hcell : ∀ b o, b < c + 1 → w1.cell? ⟨b, o, none⟩ = w.cell? ⟨b, o, none⟩ := fun b o hk => hb.cell (p := ⟨b, o, none⟩) hk
  have hfr : ∀ b o, b < c + 1 → w1.frozen? ⟨b, o, none⟩ = w.frozen? ⟨b, o, none⟩ := fun b o hk => hb.frozen (p := ⟨b, o, none⟩) hk
  refine ⟨i, u, (hcell c 0 (by omega)).trans h0, (hcell c 1 (by omega)).trans h1, (hcell c 2 (by omega)).trans h2, hi, (hfr c 0 (by omega)).trans f0, (hfr c 1 (by omega)).trans f1, (hfr c 2 (by omega)).trans f2, Nat.lt_of_lt_of_le hz hb.size, fun j hj => ?_⟩
  obtain ⟨sb, off, x, ha, hs, hx, hx0, hx1⟩ := hc j hj
  exact ⟨sb, off, x, ha, hs, (hcell sb _ (by omega)).trans hx, hx0, hx1⟩

/-- While a Show is drawn: the cursor, what has not turned, the box for the answer, the Show's own box, its texts so far. -/
structure DW (c : Nat) (a : Option Addr) (len cap : Nat) (w0 : World) (bs : Nat) (u v : Value) (f s : Int) (Y : List ByteArray) (y : World) : Prop where
  cur : Cur c a len cap y
  but : But c w0 y
  own : OwnT y (bs + 1) v Y
  lt : c < w0.heap.size
  low : w0.heap.size < bs
  res : RowF y w0.heap.size [.slice none 0 0, .int .i64 0, .int .i64 0]
  box : RowF y bs [u, .int .i64 f, .int .i64 s]
section
variable {c : Nat} {a : Option Addr} {len cap : Nat} {w0 : World} {bs : Nat} {u v : Value} {f s : Int} {Y : List ByteArray} {y y1 : World}
theorem DW.drew (h : DW c a len cap w0 bs u v f s Y y) : DW c a len cap w0 bs u v f s Y y.drew := ⟨h.cur.drew, h.but.drew, h.own, h.lt, h.low, h.res, h.box⟩
theorem DW.alloc (h : DW c a len cap w0 bs u v f s Y y) (o : Obj) : DW c a len cap w0 bs u v f s Y (y.alloc o) := ⟨h.cur.alloc o, h.but.alloc o, World.ownsRow.alloc h.own o, h.lt, h.low, rowF_alloc h.res o, rowF_alloc h.box o⟩
theorem DW.call (h : DW c a len cap w0 bs u v f s Y y) (hb : But c y y1) (hc : Cur c a len cap y1) : DW c a len cap w0 bs u v f s Y y1 := by
  have := h.lt
  have := h.low
  exact ⟨hc, h.but.call hb, h.own.but hb (by omega), h.lt, h.low, h.res.but hb (by omega), h.box.but hb (by omega)⟩
theorem DW.cells (h : DW c a len cap w0 bs u v f s Y y) : y.cell? ⟨bs, 0, none⟩ = some u ∧ y.cell? ⟨bs, 1, none⟩ = some (.int .i64 f) ∧ y.cell? ⟨bs, 2, none⟩ = some (.int .i64 s) ∧ y.frozen? ⟨bs, 0, none⟩ = false ∧ y.frozen? ⟨bs, 1, none⟩ = false :=
  ⟨(h.box.2 0 (by simp)).1, (h.box.2 1 (by simp)).1, (h.box.2 2 (by simp)).1, (h.box.2 0 (by simp)).2, (h.box.2 1 (by simp)).2⟩
/-- One text more. -/
theorem DW.more (h : DW c a len cap w0 bs u v f s Y y) (t : ByteArray) {v' : Value} {w4 : World} (ho : w4.ownsRow (bs + 1) 9 1 v' (Y.length + 1) (Y.map Value.string ++ [.string t])) (hg : (y.alloc (.cells #[.string t] 9)).grownBy w4 v.ownBlock) (hne : v' ≠ .slice none 0 0) :
    ∃ g5 c5, v' = .slice (some ⟨g5, 0, none⟩) (Y.length + 1) c5 ∧ DW c a len cap w0 bs u (.slice (some ⟨g5, 0, none⟩) (Y.length + 1) c5) f s (Y ++ [t]) w4 := by
  have h1 := h.lt
  have h2 := h.low
  have hbz := h.box.1
  have hB4 : Below (bs + 1) y w4 := by
    have h0 : Below (bs + 1) y (y.alloc (.cells #[.string t] 9)) := Below.alloc (Below.refl _ _) (by omega) _
    exact h0.grown hg (by simp; omega) (fun k hk => (World.ownsRow.lt h.own k hk).1)
  rcases id ho.2 with ⟨e, _⟩ | ⟨g5, c5, cur, e, _⟩
  · exact absurd e hne
  · refine ⟨g5, c5, e, h.cur.low (hB4.mono (by omega)), ?_, ?_, h.lt, h.low, ?_, ?_⟩
    · refine (h.but.alloc _).grownB hg (fun k hk => ?_)
      have := (World.ownsRow.lt h.own k hk).1
      omega
    · unfold OwnT
      rw [List.map_append, List.length_append, ← e]
      simpa using ho
    · exact ⟨Nat.lt_of_lt_of_le h.res.1 hB4.size, fun i hi => ⟨(hB4.cell (p := ⟨w0.heap.size, i, none⟩) (by show w0.heap.size < bs + 1; omega)).trans (h.res.2 i hi).1, (hB4.frozen (p := ⟨w0.heap.size, i, none⟩) (by show w0.heap.size < bs + 1; omega)).trans (h.res.2 i hi).2⟩⟩
    · exact ⟨Nat.lt_of_lt_of_le h.box.1 hB4.size, fun i hi => ⟨(hB4.cell (p := ⟨bs, i, none⟩) (by show bs < bs + 1; omega)).trans (h.box.2 i hi).1, (hB4.frozen (p := ⟨bs, i, none⟩) (by show bs < bs + 1; omega)).trans (h.box.2 i hi).2⟩⟩
/-- It is put into the Show's box. -/
theorem DW.put (h : DW c a len cap w0 bs u v f s Y y) : DW c a len cap w0 bs v v f s Y (y.setCell ⟨bs, 0, none⟩ v) := by
  have h1 := h.lt
  have h2 := h.low
  have hk : ∀ g, g ≠ bs → (y.setCell ⟨bs, 0, none⟩ v).heap[g]? = y.heap[g]? := fun g hg => Below.heap_setCell y ⟨bs, 0, none⟩ v g hg
  have hb : Below (c + 1) y (y.setCell ⟨bs, 0, none⟩ v) := Below.setCell (Below.refl _ _) (by show c + 1 ≤ bs; omega) _
  refine ⟨h.cur.low hb, h.but.setNew _ (by show w0.heap.size ≤ bs; omega), own_kept h.own (fun g hg => hk g (by have := (World.ownsRow.lt h.own g hg).1; omega)), h.lt, h.low, h.res.other (by omega), ?_⟩
  have := RowF.put (j := 0) (u := v) h.box
  simpa using this
end

/-- .. and no more than that: behind the last look at the boxes. -/
structure DV (c : Nat) (a : Option Addr) (len cap : Nat) (w0 : World) (bs : Nat) (v : Value) (Y : List ByteArray) (y : World) : Prop where
  cur : Cur c a len cap y
  but : But c w0 y
  own : OwnT y (bs + 1) v Y
  lt : c < w0.heap.size
  low : w0.heap.size < bs
theorem DW.dv {c : Nat} {a : Option Addr} {len cap : Nat} {w0 : World} {bs : Nat} {u v : Value} {f s : Int} {Y : List ByteArray} {y : World} (h : DW c a len cap w0 bs u v f s Y y) : DV c a len cap w0 bs v Y y := ⟨h.cur, h.but, h.own, h.lt, h.low⟩
theorem DV.set {c : Nat} {a : Option Addr} {len cap : Nat} {w0 : World} {bs : Nat} {v : Value} {Y : List ByteArray} {y : World} (h : DV c a len cap w0 bs v Y y) {b o : Nat} (u : Value) (hb : w0.heap.size ≤ b ∧ b ≤ bs) : DV c a len cap w0 bs v Y (y.setCell ⟨b, o, none⟩ u) := by
  have h1 := h.lt
  have h2 := h.low
  have hk : ∀ g, g ≠ b → (y.setCell ⟨b, o, none⟩ u).heap[g]? = y.heap[g]? := fun g hg => Below.heap_setCell y ⟨b, o, none⟩ u g hg
  have hB : Below (c + 1) y (y.setCell ⟨b, o, none⟩ u) := Below.setCell (Below.refl _ _) (by show c + 1 ≤ b; omega) _
  exact ⟨h.cur.low hB, h.but.setNew _ (by show w0.heap.size ≤ b; omega), own_kept h.own (fun g hg => hk g (by have := (World.ownsRow.lt h.own g hg).1; omega)), h.lt, h.low⟩
theorem OwnT.down {w : World} {B B' : Nat} {v : Value} {L : List ByteArray} (h : OwnT w B v L) (hB : B' ≤ B) : OwnT w B' v L := by
  refine ⟨h.1, ?_⟩
  rcases h.2 with hn | ⟨g, cap, cur, e, hb, rest⟩
  · exact .inl hn
  · exact .inr ⟨g, cap, cur, e, Nat.le_trans hB hb, rest⟩

theorem tx_new (W : World) (t : ByteArray) : ∀ j u, [Value.string t][j]? = some u → (W.alloc (.cells #[.string t] 9)).cell? ((⟨W.heap.size, 0, none⟩ : Addr).add j) = some u := fun j u hj => by
  match j, hj with
  | 0, hj => simp at hj; subst hj; simp [Addr.add]
theorem tx_one (t : ByteArray) : ∀ u ∈ [Value.string t], u.oneCell' = true := fun u hu => by simp at hu; subst hu; rfl

section
variable {c : Nat} {a : Option Addr} {len cap : Nat} {w0 : World} {bs : Nat} {u v : Value} {f s : Int} {Y : List ByteArray} {y : World} {k1 : Nat} {t : ByteArray}
theorem four_lit (hA : (#[.string ⟨#[97]⟩, .string ⟨#[98]⟩, .string ⟨#[55]⟩, .string ⟨#[]⟩] : Array Value)[k1]? = some (.string t)) : (y.alloc (.cells #[.string ⟨#[97]⟩, .string ⟨#[98]⟩, .string ⟨#[55]⟩, .string ⟨#[]⟩] 9)).cell? ⟨y.heap.size, k1, none⟩ = some (.string t) := (cell_new y _ 9 k1).trans hA
theorem four_lt : y.heap.size < (y.alloc (.cells #[.string ⟨#[97]⟩, .string ⟨#[98]⟩, .string ⟨#[55]⟩, .string ⟨#[]⟩] 9)).heap.size := by simp

theorem ds0 (hlen : len ≤ maxLen) (hS : DW c a len cap w0 bs u v f s Y y) : Calls Try.prog 27 #[.pointer (some ⟨c, 0, none⟩), .int .i64 4] y fun e z => ∃ (k1 : Nat) (t : ByteArray), e = .returned (.int .i64 (k1 : Int)) ∧ (k1 : Int) < 4 ∧ (#[.string ⟨#[97]⟩, .string ⟨#[98]⟩, .string ⟨#[55]⟩, .string ⟨#[]⟩] : Array Value)[k1]? = some (.string t) ∧ t ∈ fourL ∧ DW c a len cap w0 bs u v f s Y z := by
  refine (l1Below_any c a len cap 4 y hS.cur hlen (by decide) (by decide)).mono ?_
  rintro e z ⟨x, rfl, hx0, hx1, hb, hc⟩
  obtain ⟨k, rfl⟩ : ∃ k : Nat, x = (k : Int) := ⟨x.toNat, by omega⟩
  obtain ⟨t, hA, hts⟩ := four_at k (by omega)
  exact ⟨k, t, rfl, by omega, hA, hts, hS.call hb hc⟩

theorem ds1 (hlen : len ≤ maxLen) (hS : DW c a len cap w0 bs u v f s Y y) : Calls Try.prog 27 #[.pointer (some ⟨c, 0, none⟩), .int .i64 4] (y.alloc (.cells #[.string ⟨#[97]⟩, .string ⟨#[98]⟩, .string ⟨#[55]⟩, .string ⟨#[]⟩] 9)).drew fun e z => ∃ (k1 : Nat) (t : ByteArray), e = .returned (.int .i64 (k1 : Int)) ∧ (k1 : Int) < 4 ∧ (#[.string ⟨#[97]⟩, .string ⟨#[98]⟩, .string ⟨#[55]⟩, .string ⟨#[]⟩] : Array Value)[k1]? = some (.string t) ∧ t ∈ fourL ∧ DW c a len cap w0 bs u v f s Y z ∧ z.cell? ⟨y.heap.size, k1, none⟩ = some (.string t) ∧ y.heap.size < z.heap.size := by
  have hS' : DW c a len cap w0 bs u v f s Y (y.alloc (.cells #[.string ⟨#[97]⟩, .string ⟨#[98]⟩, .string ⟨#[55]⟩, .string ⟨#[]⟩] 9)).drew := (hS.alloc _).drew
  have hcz := hS.cur.lt
  refine (l1Below_any c a len cap 4 _ hS'.cur hlen (by decide) (by decide)).mono ?_
  rintro e z ⟨x, rfl, hx0, hx1, hb, hc⟩
  obtain ⟨k, rfl⟩ : ∃ k : Nat, x = (k : Int) := ⟨x.toNat, by omega⟩
  obtain ⟨t, hA, hts⟩ := four_at k (by omega)
  have hl : y.heap.size < (y.alloc (.cells #[.string ⟨#[97]⟩, .string ⟨#[98]⟩, .string ⟨#[55]⟩, .string ⟨#[]⟩] 9)).drew.heap.size := four_lt (y := y)
  exact ⟨k, t, rfl, by omega, hA, hts, hS'.call hb hc, (hb.cell y.heap.size k hl (by omega)).trans (four_lit hA), Nat.lt_of_lt_of_le hl hb.2.2.2.1⟩
end

set_option maxRecDepth 100000 in
set_option maxHeartbeats 4000000 in
theorem l10DrawShow_any (c : Nat) (a : Option Addr) (len cap : Nat) (w : World) (hcur : Cur c a len cap w) (hlen : len ≤ maxLen) :
    Calls Try.prog 18 #[.pointer (some ⟨c, 0, none⟩)] w fun e w' => ∃ (v : Value) (f s : Int) (Y : List ByteArray), e = .returned (.agg #[v, .int .i64 f, .int .i64 s]) ∧ OwnT w' w.heap.size v Y ∧ (∀ x ∈ Y, x ∈ fourL) ∧ Y.length ≤ 4 ∧ -1 ≤ f ∧ f ≤ 6 ∧ But c w w' ∧ Cur c a len cap w' := by
  obtain ⟨i0, hi, hz0, hz1, hz2⟩ := info_parts infoT
  have hcz := hcur.lt
  have hr0 : RowF (w.alloc (.cells #[.slice none 0 0, .int .i64 0, .int .i64 0] 26)) w.heap.size [.slice none 0 0, .int .i64 0, .int .i64 0] := rowF_new w [.slice none 0 0, .int .i64 0, .int .i64 0] 26
  have hb0 := (But.refl c w).alloc (.cells #[.slice none 0 0, .int .i64 0, .int .i64 0] 26)
  go_enter Try.func18, Try.ntmps18
  go_wp2_with fail
  refine (l1From_any c a len cap 0 5 _ (hcur.alloc _) hlen (by decide) (by decide) (by decide) (by decide)).mono ?_
  rintro e w1 ⟨f, rfl, hf0, hf1, hb1, hc1⟩
  have hr1 := hr0.but hb1 (by omega)
  have hB1 := hb0.call hb1
  clear hr0 hb0 hb1
  go_wp2_with fail
  refine (l1Below_any c a len cap 9 _ hc1 hlen (by decide) (by decide)).mono ?_
  rintro e w2 ⟨s, rfl, hs0, hs1, hb2, hc2⟩
  have hr2 := hr1.but hb2 (by omega)
  have hB2 := hB1.call hb2
  clear hr1 hB1 hb2 hc1
  have hlow : w.heap.size < w2.heap.size := hr2.1
  have hS2 : DW c a len cap w w2.heap.size (.slice none 0 0) (.slice none 0 0) f s [] (w2.alloc (.cells #[.slice none 0 0, .int .i64 f, .int .i64 s] 26)) :=
    ⟨hc2.alloc _, hB2.alloc _, ownT_nil _ _, hcz, hlow, rowF_alloc hr2 _, rowF_new w2 [.slice none 0 0, .int .i64 f, .int .i64 s] 26⟩
  go_wp2_with fail
  refine (l1Below_any c a len cap 4 _ hS2.cur hlen (by decide) (by decide)).mono ?_
  rintro e w3 ⟨x, rfl, hx0, hx1, hb3, hc3⟩
  have hS3 := hS2.call hb3 hc3
  obtain ⟨m, rfl⟩ : ∃ m : Nat, x = (m : Int) := ⟨x.toNat, by omega⟩
  clear hb3 hc3 hS2 hlow hB2 hr2 hc2
  generalize w2.heap.size = bs at hS3
  go_wp2
  go_loopw [4] (fun v4 wr => ∃ (k : Nat) (v : Value) (Y : List ByteArray), v4 = .int .i64 (k : Int) ∧ Y.length + k ≤ 4 ∧ DW c a len cap w bs v v f s Y wr ∧ Hid (∀ x ∈ Y, x ∈ fourL)) (fun v4 _ => (intOf v4).toNat)
  case atStart => exact ⟨m, _, [], rfl, by simp; omega, hS3, fun x hx => by cases hx⟩
  case round =>
    obtain ⟨k, v, Y, rfl, hnk, hS, HY⟩ := hrel
    clear hS3
    by_cases hlt : 0 < k
    · obtain ⟨m', rfl⟩ : ∃ m', k = m' + 1 := ⟨k - 1, by omega⟩
      have hc3 : Y.length + 1 ≤ maxLen := by unfold maxLen; omega
      have hc4 : (Y.length + 1) * 16 ≤ 140737488355328 := by omega
      obtain ⟨a1, c1, rfl⟩ := hS.own.shape
      have hSd := hS.drew
      have ⟨p0, _, _, _, _⟩ := hS.cells
      have ⟨q0, _, _, _, _⟩ := (hS.alloc (.cells #[.string ⟨#[97]⟩, .string ⟨#[98]⟩, .string ⟨#[55]⟩, .string ⟨#[]⟩] 9)).cells
      go_upto_region 5 with fail
      go_region_law (first
        | (refine step_append_at rfl (.tmp 17) (.tmp 23) 24 rfl (bs + 1) 9 i0 (.string ⟨#[]⟩) 1 16 Try.underlying24 hi hz0 hz1 hz2 rfl (by decide) (.slice a1 Y.length c1) Y.length (Y.map Value.string) (by simp [Act.eval]) (World.ownsRow.alloc hS1.own _) ⟨u1.heap.size, 0, none⟩ 1 1 [.string t] (by simp [Act.eval]) rfl (tx_new u1 t) (tx_one t) hc3 hc4 (Nat.le_trans hS1.box.1 (by simp)) ?_; intro v' w4 hown' hgrow hnil; obtain ⟨g5, c5, rfl, hS5⟩ := hS1.more t hown' hgrow (fun e => by have := hnil.mp e; simp at this); have ⟨x0, _, _, x3, _⟩ := hS5.cells; clear hown' hgrow hnil)
        | (refine step_append_at rfl (.tmp 17) (.tmp 23) 24 rfl (bs + 1) 9 i0 (.string ⟨#[]⟩) 1 16 Try.underlying24 hi hz0 hz1 hz2 rfl (by decide) (.slice a1 Y.length c1) Y.length (Y.map Value.string) (by simp [Act.eval]) (World.ownsRow.alloc (hS1.alloc (.cells #[.string ⟨#[97]⟩, .string ⟨#[98]⟩, .string ⟨#[55]⟩, .string ⟨#[]⟩] 9)).own _) ⟨(u1.alloc (.cells #[.string ⟨#[97]⟩, .string ⟨#[98]⟩, .string ⟨#[55]⟩, .string ⟨#[]⟩] 9)).heap.size, 0, none⟩ 1 1 [.string t] (by simp [Act.eval]) rfl (tx_new (u1.alloc (.cells #[.string ⟨#[97]⟩, .string ⟨#[98]⟩, .string ⟨#[55]⟩, .string ⟨#[]⟩] 9)) t) (tx_one t) hc3 hc4 (Nat.le_trans (hS1.alloc (.cells #[.string ⟨#[97]⟩, .string ⟨#[98]⟩, .string ⟨#[55]⟩, .string ⟨#[]⟩] 9)).box.1 (by simp)) ?_; intro v' w4 hown' hgrow hnil; obtain ⟨g5, c5, rfl, hS5⟩ := (hS1.alloc (.cells #[.string ⟨#[97]⟩, .string ⟨#[98]⟩, .string ⟨#[55]⟩, .string ⟨#[]⟩] 9)).more t hown' hgrow (fun e => by have := hnil.mp e; simp at this); have ⟨x0, _, _, x3, _⟩ := hS5.cells; clear hown' hgrow hnil)
        | (go_simp; go_wp2_with (
            go_at_call 27; first
            | (with_reducible show Calls _ _ _ (World.drew (World.alloc _ _)) _; refine (ds1 hlen hS).mono ?_; rintro e u1 ⟨k1, t, rfl, hk1, hA, hts, hS1, hT1, hB1⟩; have hk0 : (0 : Int) ≤ (k1 : Int) := (by omega); have ⟨y0, _, _, _, _⟩ := hS1.cells; have ⟨z0, _, _, _, _⟩ := (hS1.alloc (.cells #[.string t] 9)).cells)
            | (with_reducible show Calls _ _ _ (World.drew _) _; refine (ds0 hlen hSd).mono ?_; rintro e u1 ⟨k1, t, rfl, hk1, hA, hts, hS1⟩; have hk0 : (0 : Int) ≤ (k1 : Int) := (by omega); have hL1 := four_lit (y := u1) hA; have ⟨y0, _, _, _, _⟩ := hS1.cells; have ⟨z0, _, _, _, _⟩ := (hS1.alloc (.cells #[.string ⟨#[97]⟩, .string ⟨#[98]⟩, .string ⟨#[55]⟩, .string ⟨#[]⟩] 9)).cells; have ⟨z1, _, _, _, _⟩ := ((hS1.alloc (.cells #[.string ⟨#[97]⟩, .string ⟨#[98]⟩, .string ⟨#[55]⟩, .string ⟨#[]⟩] 9)).alloc (.cells #[.string t] 9)).cells))))
      all_goals
        have HY2 : Hid (∀ x ∈ Y ++ [t], x ∈ fourL) := fun x hx => by
          rcases List.mem_append.1 hx with hx | hx
          · exact HY.out x hx
          · rw [List.mem_singleton] at hx
            subst hx
            exact hts
        have hS6 := hS5.put
        have hl2 : (Y ++ [t]).length + m' ≤ 4 := by simp; omega
        clear hS5 hS1 hS hSd
        go_wp2
        exact ⟨⟨m', _, Y ++ [t], by go_num, hl2, hS6, HY2⟩, by simp [intOf]⟩
    · have e : k = 0 := by omega
      subst e
      have hY4 : Y.length ≤ 4 := by omega
      obtain ⟨a1, c1, rfl⟩ := hS.own.shape
      clear hnk hlt
      go_wp2_with fail
      refine (l1Once_any c a len cap 20 _ hS.cur hlen (by decide) (by decide)).mono ?_
      rintro e w4 ⟨b, rfl, hb4, hc4⟩
      have hS4 := hS.call hb4 hc4
      clear hb4 hc4 hS
      cases b
      · have ⟨p0, p1, p2, _, _⟩ := hS4.cells
        have r0 := hS4.res.2 0 (by simp)
        have r1 := hS4.res.2 1 (by simp)
        have r2 := hS4.res.2 2 (by simp)
        simp only [List.getElem_cons_zero, List.getElem_cons_succ] at r0 r1 r2
        obtain ⟨r0, g0⟩ := r0
        obtain ⟨r1, g1⟩ := r1
        obtain ⟨r2, g2⟩ := r2
        have hV := hS4.dv
        have hle := Nat.le_of_lt hS4.low
        have hV3 := ((hV.set (b := w.heap.size) (o := 0) (.slice a1 Y.length c1) ⟨Nat.le_refl _, hle⟩).set (b := w.heap.size) (o := 1) (.int .i64 f) ⟨Nat.le_refl _, hle⟩).set (b := w.heap.size) (o := 2) (.int .i64 s) ⟨Nat.le_refl _, hle⟩
        clear hS4 hV
        go_wp2
        refine bodyPost_ret (v := .agg #[.slice a1 Y.length c1, .int .i64 f, .int .i64 s]) (by simp [results, Try.results18, go_sem, r0, r1, r2]) rfl ?_
        exact ⟨_, f, s, Y, rfl, hV3.own.down (by omega), HY.out, hY4, by omega, by omega, hV3.but, hV3.cur⟩
      · go_wp2_with fail
        have hl0 : (w4.alloc (.cells #[.int .i64 (-1), .int .i64 6] 2)).cell? ⟨w4.heap.size, 0, none⟩ = some (.int .i64 (-1)) := cell_new w4 _ 2 0
        have hl1 : (w4.alloc (.cells #[.int .i64 (-1), .int .i64 6] 2)).cell? ⟨w4.heap.size, 1, none⟩ = some (.int .i64 6) := cell_new w4 _ 2 1
        have hlz : w4.heap.size < (w4.alloc (.cells #[.int .i64 (-1), .int .i64 6] 2)).heap.size := by simp
        have hcl := hS4.cur.lt
        refine (l1Below_any c a len cap 2 _ (hS4.alloc _).cur hlen (by decide) (by decide)).mono ?_
        rintro e w5 ⟨x, rfl, hx50, hx51, hb5, hc5⟩
        have hS5 := (hS4.alloc _).call hb5 hc5
        have l0 := (hb5.cell w4.heap.size 0 hlz (by omega)).trans hl0
        have l1 := (hb5.cell w4.heap.size 1 hlz (by omega)).trans hl1
        clear hl0 hl1 hlz hb5 hc5 hS4
        have ⟨p0, p1, p2, _, fz1⟩ := hS5.cells
        have r0 := hS5.res.2 0 (by simp)
        have r1 := hS5.res.2 1 (by simp)
        have r2 := hS5.res.2 2 (by simp)
        simp only [List.getElem_cons_zero, List.getElem_cons_succ] at r0 r1 r2
        obtain ⟨r0, g0⟩ := r0
        obtain ⟨r1, g1⟩ := r1
        obtain ⟨r2, g2⟩ := r2
        have hV := hS5.dv
        have hlo := hS5.low
        have hle := Nat.le_of_lt hS5.low
        have HV : Hid (∀ F : Int, DV c a len cap w bs (.slice a1 Y.length c1) Y ((((w5.setCell ⟨bs, 1, none⟩ (.int .i64 F)).setCell ⟨w.heap.size, 0, none⟩ (.slice a1 Y.length c1)).setCell ⟨w.heap.size, 1, none⟩ (.int .i64 F)).setCell ⟨w.heap.size, 2, none⟩ (.int .i64 s))) := fun F => (((hV.set (b := bs) (o := 1) (.int .i64 F) ⟨hle, Nat.le_refl _⟩).set (b := w.heap.size) (o := 0) (.slice a1 Y.length c1) ⟨Nat.le_refl _, hle⟩).set (b := w.heap.size) (o := 1) (.int .i64 F) ⟨Nat.le_refl _, hle⟩).set (b := w.heap.size) (o := 2) (.int .i64 s) ⟨Nat.le_refl _, hle⟩
        have hne : bs ≠ w.heap.size := by omega
        clear hS5 hV hle hlo
        obtain rfl | rfl : x = 0 ∨ x = 1 := by omega
        · go_wp2
          refine bodyPost_ret (v := .agg #[.slice a1 Y.length c1, .int .i64 (-1), .int .i64 s]) (by simp [results, Try.results18, go_sem, r0, r1, r2]) rfl ?_
          have hV3 := HV.out (-1)
          exact ⟨_, -1, s, Y, rfl, hV3.own.down (by have := hV3.low; omega), HY.out, hY4, by decide, by decide, hV3.but, hV3.cur⟩
        · go_wp2
          refine bodyPost_ret (v := .agg #[.slice a1 Y.length c1, .int .i64 6, .int .i64 s]) (by simp [results, Try.results18, go_sem, r0, r1, r2]) rfl ?_
          have hV3 := HV.out 6
          exact ⟨_, 6, s, Y, rfl, hV3.own.down (by have := hV3.low; omega), HY.out, hY4, by decide, by decide, hV3.but, hV3.cur⟩

set_option maxHeartbeats 1000000 in
/-- spec.DrawEnded. -/
theorem drawEnded_any (a : Option Addr) (len cap : Nat) (w : World) (hcode : Code w.heap.size a len w) (hlen : len ≤ 5000) :
    Calls Try.prog 8 #[.slice a len cap] w fun e w' => ∃ (v : Value) (f s : Int) (Y : List ByteArray), e = .returned (.agg #[v, .int .i64 f, .int .i64 s]) ∧ OwnT w' w.heap.size v Y ∧ (∀ x ∈ Y, x ∈ fourL) ∧ Y.length ≤ 4 ∧ -1 ≤ f ∧ f ≤ 6 ∧ Below w.heap.size w w' := by
  have hr0 : RowF (w.alloc (.cells #[.slice none 0 0, .int .i64 0, .int .i64 0] 26)) w.heap.size [.slice none 0 0, .int .i64 0, .int .i64 0] := rowF_new w [.slice none 0 0, .int .i64 0, .int .i64 0] 26
  have hBA : Below w.heap.size w (w.alloc (.cells #[.slice none 0 0, .int .i64 0, .int .i64 0] 26)) := balloc (Below.refl _ _) _
  have hz : w.heap.size < (w.alloc (.cells #[.slice none 0 0, .int .i64 0, .int .i64 0] 26)).heap.size := by simp
  go_enter Try.func8, Try.ntmps8
  go_wp2_with fail
  refine (l1New_more a len cap _ (hcode.up (Nat.le_of_lt hz) hBA) hlen).mono ?_
  rintro e w1 ⟨rfl, hb1, hc1⟩
  have hr1 := hr0.call hb1
  have hB1 := bstep hBA hb1
  have hl : len ≤ maxLen := by unfold maxLen; omega
  generalize (w.alloc (.cells #[.slice none 0 0, .int .i64 0, .int .i64 0] 26)).heap.size = c at hb1 hc1 hz
  clear hb1 hr0 hBA
  go_wp2_with fail
  refine (l10DrawShow_any c a len cap _ hc1 hl).mono ?_
  rintro e w2 ⟨v, f, s, Y, rfl, ho, hY, hYl, hf0, hf1, hb2, _⟩
  have hr2 := hr1.but hb2 (by omega)
  have hB2 := But.below hB1 (Nat.le_of_lt hz) hb2
  have hr1z := hr1.1
  have r0 := hr2.2 0 (by simp)
  have r1 := hr2.2 1 (by simp)
  have r2 := hr2.2 2 (by simp)
  simp only [List.getElem_cons_zero, List.getElem_cons_succ] at r0 r1 r2
  obtain ⟨r0, g0⟩ := r0
  obtain ⟨r1, g1⟩ := r1
  obtain ⟨r2, g2⟩ := r2
  obtain ⟨a1, c1, rfl⟩ := ho.shape
  have HO : Hid (OwnT (((w2.setCell ⟨w.heap.size, 0, none⟩ (.slice a1 Y.length c1)).setCell ⟨w.heap.size, 1, none⟩ (.int .i64 f)).setCell ⟨w.heap.size, 2, none⟩ (.int .i64 s)) w.heap.size (.slice a1 Y.length c1) Y) := by
    refine OwnT.down (own_kept ho (fun g hg => ?_)) (Nat.le_of_lt hr1z)
    have := (World.ownsRow.lt ho g hg).1
    iterate 3 rw [Below.heap_setCell _ _ _ _ (by dsimp only; omega)]
  clear hr1 hr2 ho hb2
  go_wp2
  refine bodyPost_ret (v := .agg #[.slice a1 Y.length c1, .int .i64 f, .int .i64 s]) (by simp [results, Try.results8, go_sem, r0, r1, r2]) rfl ?_
  refine ⟨_, f, s, Y, rfl, HO.out, hY, hYl, hf0, hf1, ?_⟩
  iterate 3 refine Below.setCell ?_ (by dsimp only; omega) _
  exact hB2

set_option maxHeartbeats 1000000 in
/-- spec.DrawWords. -/
theorem drawWords_any (a : Option Addr) (len cap : Nat) (w : World) (hcode : Code w.heap.size a len w) (hlen : len ≤ 5000) :
    Calls Try.prog 7 #[.slice a len cap] w fun e w' => ∃ (v : Value) (f s : Int) (Y : List ByteArray), e = .returned (.agg #[v, .int .i64 f, .int .i64 s]) ∧ OwnT w' w.heap.size v Y ∧ (∀ x ∈ Y, x ∈ fourL) ∧ Y.length ≤ 4 ∧ -1 ≤ f ∧ f ≤ 6 ∧ Below w.heap.size w w' := by
  have hr0 : RowF (w.alloc (.cells #[.slice none 0 0, .int .i64 0, .int .i64 0] 26)) w.heap.size [.slice none 0 0, .int .i64 0, .int .i64 0] := rowF_new w [.slice none 0 0, .int .i64 0, .int .i64 0] 26
  have hBA : Below w.heap.size w (w.alloc (.cells #[.slice none 0 0, .int .i64 0, .int .i64 0] 26)) := balloc (Below.refl _ _) _
  have hz : w.heap.size < (w.alloc (.cells #[.slice none 0 0, .int .i64 0, .int .i64 0] 26)).heap.size := by simp
  go_enter Try.func7, Try.ntmps7
  go_wp2_with fail
  refine (drawEnded_any a len cap _ (hcode.up (Nat.le_of_lt hz) hBA) hlen).mono ?_
  rintro e w2 ⟨v, f, s, Y, rfl, ho, hY, hYl, hf0, hf1, hb2⟩
  have hr2 := hr0.call hb2
  have hB2 := bstep hBA hb2
  have r0 := hr2.2 0 (by simp)
  have r1 := hr2.2 1 (by simp)
  have r2 := hr2.2 2 (by simp)
  simp only [List.getElem_cons_zero, List.getElem_cons_succ] at r0 r1 r2
  obtain ⟨r0, g0⟩ := r0
  obtain ⟨r1, g1⟩ := r1
  obtain ⟨r2, g2⟩ := r2
  obtain ⟨a1, c1, rfl⟩ := ho.shape
  have HO : Hid (OwnT (((w2.setCell ⟨w.heap.size, 0, none⟩ (.slice a1 Y.length c1)).setCell ⟨w.heap.size, 1, none⟩ (.int .i64 f)).setCell ⟨w.heap.size, 2, none⟩ (.int .i64 s)) w.heap.size (.slice a1 Y.length c1) Y) := by
    refine OwnT.down (own_kept ho (fun g hg => ?_)) (Nat.le_of_lt hz)
    have := (World.ownsRow.lt ho g hg).1
    iterate 3 rw [Below.heap_setCell _ _ _ _ (by dsimp only; omega)]
  clear hr0 hr2 ho hb2 hBA
  go_wp2
  refine bodyPost_ret (v := .agg #[.slice a1 Y.length c1, .int .i64 f, .int .i64 s]) (by simp [results, Try.results7, go_sem, r0, r1, r2]) rfl ?_
  refine ⟨_, f, s, Y, rfl, HO.out, hY, hYl, hf0, hf1, ?_⟩
  iterate 3 refine Below.setCell ?_ (by dsimp only; omega) _
  exact hB2

end Go.Proofs.Ytknepeleepbefaa
