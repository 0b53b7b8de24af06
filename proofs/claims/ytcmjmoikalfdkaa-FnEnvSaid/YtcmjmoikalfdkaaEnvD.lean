/-
  Chapter 9, the model's draws: an env of some Binds, in memory of the call's own; the cursor stays a cursor; nothing else has turned.
-/
import Derived.Test.YtcmjmoikalfdkaaEnvB
import Derived.Test.YtcmjmoikalfdkaaDrawN
namespace Go.Proofs.Ytcmjmoikalfdkaa
open Go.RowKit

theorem OwnB.but {c : Nat} {w w' : World} {B g n cp : Nat} {X : List Bd} (h : OwnB w B g n cp X) (hb : But c w w') (hn : g ≠ c) : OwnB w' B g n cp X :=
  own_kept h (fun k hk => by
    simp [Value.ownBlock] at hk
    subst hk
    exact hb.2.2.2.2 g (World.ownsRow.lt h g rfl).2 hn)
theorem But.grownB {c : Nat} {w W W' : World} {row : Option Nat} (h : But c w W) (hg : W.grownBy W' row) (hr : ∀ k, row = some k → w.heap.size ≤ k) : But c w W' :=
  ⟨hg.os.trans h.1, hg.tape.trans h.2.1, hg.output.trans h.2.2.1, Nat.le_trans h.2.2.2.1 hg.size, fun k hk hc => (hg.block k (Nat.lt_of_lt_of_le hk h.2.2.2.1) (fun e => by have := hr k e.symm; omega)).trans (h.2.2.2.2 k hk hc)⟩
theorem Cur.low {c : Nat} {a : Option Addr} {len cap : Nat} {w w1 : World} (h : Cur c a len cap w) (hb : Below (c + 1) w w1) : Cur c a len cap w1 := by
  obtain ⟨i, u, h0, h1, h2, hi, f0, f1, f2, hz, hc⟩ := h
  have hcell : ∀ b o, b < c + 1 → w1.cell? ⟨b, o, none⟩ = w.cell? ⟨b, o, none⟩ := fun b o hk => hb.cell (p := ⟨b, o, none⟩) hk
  have hfr : ∀ b o, b < c + 1 → w1.frozen? ⟨b, o, none⟩ = w.frozen? ⟨b, o, none⟩ := fun b o hk => hb.frozen (p := ⟨b, o, none⟩) hk
  refine ⟨i, u, (hcell c 0 (by omega)).trans h0, (hcell c 1 (by omega)).trans h1, (hcell c 2 (by omega)).trans h2, hi, (hfr c 0 (by omega)).trans f0, (hfr c 1 (by omega)).trans f1, (hfr c 2 (by omega)).trans f2, Nat.lt_of_lt_of_le hz hb.size, fun j hj => ?_⟩
  obtain ⟨sb, off, x, ha, hs, hx, hx0, hx1⟩ := hc j hj
  exact ⟨sb, off, x, ha, hs, (hcell sb _ (by omega)).trans hx, hx0, hx1⟩
/-- While Binds are drawn: the cursor, what has not turned, the Binds so far. -/
structure DS (c : Nat) (a : Option Addr) (len cap : Nat) (w0 : World) (g n cp : Nat) (Y : List Bd) (y : World) : Prop where
  cur : Cur c a len cap y
  but : But c w0 y
  own : OwnB y w0.heap.size g n cp Y
  lt : c < w0.heap.size
section
variable {c : Nat} {a : Option Addr} {len cap : Nat} {w0 : World} {g n cp : Nat} {Y : List Bd} {y y1 : World}
theorem DS.ne (h : DS c a len cap w0 g n cp Y y) : g ≠ c := by
  have := h.own.row.2
  have := h.lt
  omega
theorem DS.drew (h : DS c a len cap w0 g n cp Y y) : DS c a len cap w0 g n cp Y y.drew := ⟨h.cur.drew, h.but.drew, h.own, h.lt⟩
theorem DS.alloc (h : DS c a len cap w0 g n cp Y y) (o : Obj) : DS c a len cap w0 g n cp Y (y.alloc o) := ⟨h.cur.alloc o, h.but.alloc o, World.ownsRow.alloc h.own o, h.lt⟩
theorem DS.call (h : DS c a len cap w0 g n cp Y y) (hb : But c y y1) (hc : Cur c a len cap y1) : DS c a len cap w0 g n cp Y y1 := ⟨hc, h.but.call hb, h.own.but hb h.ne, h.lt⟩
/-- One Bind more. -/
theorem DS.more (h : DS c a len cap w0 g n cp Y y) (b : Bd) {v' : Value} {w4 : World} (ho : w4.ownsRow w0.heap.size 116 3 v' (n + 1) (Y.flatMap bC ++ bC b)) (hg : (y.alloc (.cells (bC b).toArray 116)).grownBy w4 (Value.slice (some ⟨g, 0, none⟩) n cp).ownBlock) (hne : v' ≠ .slice none 0 0) :
    ∃ g5 c5, v' = .slice (some ⟨g5, 0, none⟩) (n + 1) c5 ∧ DS c a len cap w0 g5 (n + 1) c5 (Y ++ [b]) w4 := by
  have hne2 := h.ne
  have hl := (World.ownsRow.lt h.own g rfl).2
  have hcb := h.cur.lt
  have hB4 : Below (c + 1) y w4 := by
    have h0 : Below (c + 1) y (y.alloc (.cells (bC b).toArray 116)) := Below.alloc (Below.refl _ _) (by omega) _
    refine h0.grown hg (by simp; omega) (fun k hk => ?_)
    simp [Value.ownBlock] at hk
    have := h.own.row.2
    have := h.lt
    omega
  rcases id ho.2 with ⟨e, _⟩ | ⟨g5, c5, cur, e, _⟩
  · exact absurd e hne
  · refine ⟨g5, c5, e, ?_, ?_, ?_, h.lt⟩
    · exact h.cur.low hB4
    · refine (h.but.alloc _).grownB hg (fun k hk => ?_)
      simp [Value.ownBlock] at hk
      have := h.own.row.2
      omega
    · unfold OwnB
      rw [List.flatMap_append, ← e]
      simpa using ho
end

theorem bd_new (W : World) (t : ByteArray) (b : Bool) (x : Int) : ∀ j u, [Value.string t, .bool b, .int .i64 x][j]? = some u → (W.alloc (.cells #[.string t, .bool b, .int .i64 x] 116)).cell? ((⟨W.heap.size, 0, none⟩ : Addr).add j) = some u := fun j u hj => by
  rw [add_zero_plain, cell_new]
  match j, hj with
  | 0, hj => exact hj
  | 1, hj => exact hj
  | 2, hj => exact hj
theorem bd_one (t : ByteArray) (b : Bool) (x : Int) : ∀ u ∈ [Value.string t, .bool b, .int .i64 x], u.oneCell' = true := fun u hu => by simp at hu; rcases hu with rfl | rfl | rfl <;> rfl
/-- The three names. -/
theorem three_at (k : Nat) (hk : k < 3) : ∃ t : ByteArray, (#[.string ⟨#[120]⟩, .string ⟨#[121]⟩, .string ⟨#[112]⟩] : Array Value)[k]? = some (.string t) ∧ t.size ≤ 10 := by
  match k, hk with
  | 0, _ => exact ⟨_, rfl, by decide⟩
  | 1, _ => exact ⟨_, rfl, by decide⟩
  | 2, _ => exact ⟨_, rfl, by decide⟩

section
variable {c : Nat} {a : Option Addr} {len cap : Nat} {w0 : World} {g n cp : Nat} {Y : List Bd} {y : World} {k1 : Nat} {t : ByteArray} {BB : Nat}
theorem lit_at (hA : (#[.string ⟨#[120]⟩, .string ⟨#[121]⟩, .string ⟨#[112]⟩] : Array Value)[k1]? = some (.string t)) : (y.alloc (.cells #[.string ⟨#[120]⟩, .string ⟨#[121]⟩, .string ⟨#[112]⟩] 9)).cell? ⟨y.heap.size, k1, none⟩ = some (.string t) := (cell_new y _ 9 k1).trans hA
theorem lit_lt : y.heap.size < (y.alloc (.cells #[.string ⟨#[120]⟩, .string ⟨#[121]⟩, .string ⟨#[112]⟩] 9)).heap.size := by simp

theorem dr0 (hlen : len ≤ maxLen) (hS : DS c a len cap w0 g n cp Y y) : Calls Try.prog 94 #[.pointer (some ⟨c, 0, none⟩), .int .i64 3] y fun e u => ∃ (k1 : Nat) (t : ByteArray), e = .returned (.int .i64 (k1 : Int)) ∧ (k1 : Int) < 3 ∧ (#[.string ⟨#[120]⟩, .string ⟨#[121]⟩, .string ⟨#[112]⟩] : Array Value)[k1]? = some (.string t) ∧ t.size ≤ 10 ∧ DS c a len cap w0 g n cp Y u := by
  refine (l1Below_any c a len cap 3 y hS.cur hlen (by decide) (by decide)).mono ?_
  rintro e u ⟨x, rfl, hx0, hx1, hb, hc⟩
  obtain ⟨k, rfl⟩ : ∃ k : Nat, x = (k : Int) := ⟨x.toNat, by omega⟩
  obtain ⟨t, hA, hts⟩ := three_at k (by omega)
  exact ⟨k, t, rfl, by omega, hA, hts, hS.call hb hc⟩

theorem dr1 (hlen : len ≤ maxLen) (hS : DS c a len cap w0 g n cp Y y) : Calls Try.prog 94 #[.pointer (some ⟨c, 0, none⟩), .int .i64 3] (y.alloc (.cells #[.string ⟨#[120]⟩, .string ⟨#[121]⟩, .string ⟨#[112]⟩] 9)).drew fun e u => ∃ (k1 : Nat) (t : ByteArray), e = .returned (.int .i64 (k1 : Int)) ∧ (k1 : Int) < 3 ∧ (#[.string ⟨#[120]⟩, .string ⟨#[121]⟩, .string ⟨#[112]⟩] : Array Value)[k1]? = some (.string t) ∧ t.size ≤ 10 ∧ DS c a len cap w0 g n cp Y u ∧ u.cell? ⟨y.heap.size, k1, none⟩ = some (.string t) ∧ y.heap.size < u.heap.size ∧ y.heap.size ≠ c := by
  have hS' : DS c a len cap w0 g n cp Y (y.alloc (.cells #[.string ⟨#[120]⟩, .string ⟨#[121]⟩, .string ⟨#[112]⟩] 9)).drew := (hS.alloc _).drew
  have hcz := hS.cur.lt
  refine (l1Below_any c a len cap 3 _ hS'.cur hlen (by decide) (by decide)).mono ?_
  rintro e u ⟨x, rfl, hx0, hx1, hb, hc⟩
  obtain ⟨k, rfl⟩ : ∃ k : Nat, x = (k : Int) := ⟨x.toNat, by omega⟩
  obtain ⟨t, hA, hts⟩ := three_at k (by omega)
  have hl : y.heap.size < (y.alloc (.cells #[.string ⟨#[120]⟩, .string ⟨#[121]⟩, .string ⟨#[112]⟩] 9)).drew.heap.size := lit_lt (y := y)
  exact ⟨k, t, rfl, by omega, hA, hts, hS'.call hb hc, (hb.cell y.heap.size k hl (by omega)).trans (lit_at hA), Nat.lt_of_lt_of_le hl hb.2.2.2.1, by omega⟩

theorem do0 (hlen : len ≤ maxLen) (hS : DS c a len cap w0 g n cp Y y) : Calls Try.prog 100 #[.pointer (some ⟨c, 0, none⟩), .int .i64 3] y fun e u => ∃ (b2 : Bool), e = .returned (.bool b2) ∧ DS c a len cap w0 g n cp Y u := by
  refine (l1Once_any c a len cap 3 y hS.cur hlen (by decide) (by decide)).mono ?_
  rintro e u ⟨b, rfl, hb, hc⟩
  exact ⟨b, rfl, hS.call hb hc⟩

theorem do1 (hlen : len ≤ maxLen) (hS : DS c a len cap w0 g n cp Y y) (hT : y.cell? ⟨BB, k1, none⟩ = some (.string t)) (hB : BB < y.heap.size) (hBc : BB ≠ c) : Calls Try.prog 100 #[.pointer (some ⟨c, 0, none⟩), .int .i64 3] y fun e u => ∃ (b2 : Bool), e = .returned (.bool b2) ∧ DS c a len cap w0 g n cp Y u ∧ u.cell? ⟨BB, k1, none⟩ = some (.string t) ∧ BB < u.heap.size := by
  refine (l1Once_any c a len cap 3 y hS.cur hlen (by decide) (by decide)).mono ?_
  rintro e u ⟨b, rfl, hb, hc⟩
  exact ⟨b, rfl, hS.call hb hc, (hb.cell BB k1 hB hBc).trans hT, Nat.lt_of_lt_of_le hB hb.2.2.2.1⟩

theorem do2 (hlen : len ≤ maxLen) (hS : DS c a len cap w0 g n cp Y y) (hA : (#[.string ⟨#[120]⟩, .string ⟨#[121]⟩, .string ⟨#[112]⟩] : Array Value)[k1]? = some (.string t)) : Calls Try.prog 100 #[.pointer (some ⟨c, 0, none⟩), .int .i64 3] (y.alloc (.cells #[.string ⟨#[120]⟩, .string ⟨#[121]⟩, .string ⟨#[112]⟩] 9)) fun e u => ∃ (b2 : Bool), e = .returned (.bool b2) ∧ DS c a len cap w0 g n cp Y u ∧ u.cell? ⟨y.heap.size, k1, none⟩ = some (.string t) ∧ y.heap.size < u.heap.size ∧ y.heap.size ≠ c := by
  have hcz := hS.cur.lt
  refine (l1Once_any c a len cap 3 _ (hS.alloc (.cells #[.string ⟨#[120]⟩, .string ⟨#[121]⟩, .string ⟨#[112]⟩] 9)).cur hlen (by decide) (by decide)).mono ?_
  rintro e u ⟨b, rfl, hb, hc⟩
  exact ⟨b, rfl, (hS.alloc (.cells #[.string ⟨#[120]⟩, .string ⟨#[121]⟩, .string ⟨#[112]⟩] 9)).call hb hc, (hb.cell y.heap.size k1 lit_lt (by omega)).trans (lit_at hA), Nat.lt_of_lt_of_le lit_lt hb.2.2.2.1, by omega⟩

theorem dn0 (hlen : len ≤ maxLen) (hS : DS c a len cap w0 g n cp Y y) : Calls Try.prog 94 #[.pointer (some ⟨c, 0, none⟩), .int .i64 9] y fun e u => ∃ (x3 : Int), e = .returned (.int .i64 x3) ∧ 0 ≤ x3 ∧ x3 < 9 ∧ DS c a len cap w0 g n cp Y u := by
  refine (l1Below_any c a len cap 9 y hS.cur hlen (by decide) (by decide)).mono ?_
  rintro e u ⟨b, rfl, hx0, hx1, hb, hc⟩
  exact ⟨b, rfl, hx0, hx1, hS.call hb hc⟩

theorem dn1 (hlen : len ≤ maxLen) (hS : DS c a len cap w0 g n cp Y y) (hT : y.cell? ⟨BB, k1, none⟩ = some (.string t)) (hB : BB < y.heap.size) (hBc : BB ≠ c) : Calls Try.prog 94 #[.pointer (some ⟨c, 0, none⟩), .int .i64 9] y fun e u => ∃ (x3 : Int), e = .returned (.int .i64 x3) ∧ 0 ≤ x3 ∧ x3 < 9 ∧ DS c a len cap w0 g n cp Y u ∧ u.cell? ⟨BB, k1, none⟩ = some (.string t) ∧ BB < u.heap.size := by
  refine (l1Below_any c a len cap 9 y hS.cur hlen (by decide) (by decide)).mono ?_
  rintro e u ⟨b, rfl, hx0, hx1, hb, hc⟩
  exact ⟨b, rfl, hx0, hx1, hS.call hb hc, (hb.cell BB k1 hB hBc).trans hT, Nat.lt_of_lt_of_le hB hb.2.2.2.1⟩

theorem dn2 (hlen : len ≤ maxLen) (hS : DS c a len cap w0 g n cp Y y) (hA : (#[.string ⟨#[120]⟩, .string ⟨#[121]⟩, .string ⟨#[112]⟩] : Array Value)[k1]? = some (.string t)) : Calls Try.prog 94 #[.pointer (some ⟨c, 0, none⟩), .int .i64 9] (y.alloc (.cells #[.string ⟨#[120]⟩, .string ⟨#[121]⟩, .string ⟨#[112]⟩] 9)) fun e u => ∃ (x3 : Int), e = .returned (.int .i64 x3) ∧ 0 ≤ x3 ∧ x3 < 9 ∧ DS c a len cap w0 g n cp Y u ∧ u.cell? ⟨y.heap.size, k1, none⟩ = some (.string t) ∧ y.heap.size < u.heap.size ∧ y.heap.size ≠ c := by
  have hcz := hS.cur.lt
  refine (l1Below_any c a len cap 9 _ (hS.alloc (.cells #[.string ⟨#[120]⟩, .string ⟨#[121]⟩, .string ⟨#[112]⟩] 9)).cur hlen (by decide) (by decide)).mono ?_
  rintro e u ⟨b, rfl, hx0, hx1, hb, hc⟩
  exact ⟨b, rfl, hx0, hx1, (hS.alloc (.cells #[.string ⟨#[120]⟩, .string ⟨#[121]⟩, .string ⟨#[112]⟩] 9)).call hb hc, (hb.cell y.heap.size k1 lit_lt (by omega)).trans (lit_at hA), Nat.lt_of_lt_of_le lit_lt hb.2.2.2.1, by omega⟩
end

set_option maxRecDepth 100000 in
set_option maxHeartbeats 8000000 in
theorem l9Draw_any (c : Nat) (a : Option Addr) (len cap : Nat) (w : World) (hcur : Cur c a len cap w) (hlen : len ≤ maxLen) :
    Calls Try.prog 99 #[.pointer (some ⟨c, 0, none⟩)] w fun e w' => ∃ g n cp X, e = .returned (.slice (some ⟨g, 0, none⟩) n cp) ∧ OwnB w' w.heap.size g n cp X ∧ (∀ x ∈ X, okBd x) ∧ X.length ≤ 500 ∧ But c w w' ∧ Cur c a len cap w' := by
  obtain ⟨i0, hi, hz0, hz1, hz2⟩ := info_parts infoBd
  have hcz := hcur.lt
  go_enter Try.func99, Try.ntmps99
  go_wp2_with fail
  refine (l1Below_any c a len cap 7 _ (hcur.alloc _) hlen (by decide) (by decide)).mono ?_
  rintro e w1 ⟨x, rfl, hx0, hx1, hb1, hc1⟩
  have hS0 : DS c a len cap w w.heap.size 0 0 [] w1 := DS.call ⟨hcur.alloc _, (But.refl c w).alloc _, ownB_new w w.heap.size (Nat.le_refl _), hcz⟩ hb1 hc1
  obtain ⟨m, rfl⟩ : ∃ m : Nat, x = (m : Int) := ⟨x.toNat, by omega⟩
  clear hb1 hc1
  go_wp2
  go_loopw [3, 4] (fun v3 v4 wr => ∃ (k g n cp : Nat) (Y : List Bd), v4 = .int .i64 (k : Int) ∧ k ≤ 7 ∧ n + k ≤ 7 ∧ v3 = .slice (some ⟨g, 0, none⟩) n cp ∧ DS c a len cap w g n cp Y wr ∧ Hid (∀ x ∈ Y, okBd x)) (fun _ v4 _ => (intOf v4).toNat)
  case atStart => exact ⟨m, w.heap.size, 0, 0, [], rfl, by omega, by omega, rfl, hS0, fun x hx => by cases hx⟩
  case round =>
    obtain ⟨k, g, n, cp, Y, rfl, hk, hnk, rfl, hS, HY⟩ := hrel
    clear hS0
    by_cases hlt : 0 < k
    · obtain ⟨m', rfl⟩ : ∃ m', k = m' + 1 := ⟨k - 1, by omega⟩
      have hc3 : n + 1 ≤ maxLen := by unfold maxLen; omega
      have hc4 : (n + 1) * 32 ≤ 140737488355328 := by omega
      have hSd := hS.drew
      go_upto_region 5 with fail
      go_region_law (first
        | (refine step_append_at rfl (.tmp 13) (.tmp 24) 42 rfl w.heap.size 116 i0 (.agg #[.string ⟨#[]⟩, .bool false, .int .i64 0]) 3 32 Try.underlying42 hi hz0 hz1 hz2 rfl (by decide) (.slice (some ⟨g, 0, none⟩) n cp) n (Y.flatMap bC) (by simp [Act.eval]) (World.ownsRow.alloc hS3.own _) ⟨u3.heap.size, 0, none⟩ 1 1 [.string t, .bool b2, .int .i64 x3] (by simp [Act.eval]) rfl (bd_new u3 t b2 x3) (bd_one t b2 x3) hc3 hc4 (Nat.le_trans hS3.but.2.2.2.1 (by simp)) ?_; intro v' w4 hown' hgrow hnil; obtain ⟨g5, c5, rfl, hS5⟩ := hS3.more ⟨t, b2, x3⟩ hown' hgrow (fun e => by have := hnil.mp e; simp at this); clear hown' hgrow hnil)
        | (refine step_append_at rfl (.tmp 13) (.tmp 24) 42 rfl w.heap.size 116 i0 (.agg #[.string ⟨#[]⟩, .bool false, .int .i64 0]) 3 32 Try.underlying42 hi hz0 hz1 hz2 rfl (by decide) (.slice (some ⟨g, 0, none⟩) n cp) n (Y.flatMap bC) (by simp [Act.eval]) (World.ownsRow.alloc (hS3.alloc (.cells #[.string ⟨#[120]⟩, .string ⟨#[121]⟩, .string ⟨#[112]⟩] 9)).own _) ⟨(u3.alloc (.cells #[.string ⟨#[120]⟩, .string ⟨#[121]⟩, .string ⟨#[112]⟩] 9)).heap.size, 0, none⟩ 1 1 [.string t, .bool b2, .int .i64 x3] (by simp [Act.eval]) rfl (bd_new (u3.alloc (.cells #[.string ⟨#[120]⟩, .string ⟨#[121]⟩, .string ⟨#[112]⟩] 9)) t b2 x3) (bd_one t b2 x3) hc3 hc4 (Nat.le_trans (hS3.alloc (.cells #[.string ⟨#[120]⟩, .string ⟨#[121]⟩, .string ⟨#[112]⟩] 9)).but.2.2.2.1 (by simp)) ?_; intro v' w4 hown' hgrow hnil; obtain ⟨g5, c5, rfl, hS5⟩ := (hS3.alloc (.cells #[.string ⟨#[120]⟩, .string ⟨#[121]⟩, .string ⟨#[112]⟩] 9)).more ⟨t, b2, x3⟩ hown' hgrow (fun e => by have := hnil.mp e; simp at this); clear hown' hgrow hnil)
        | (go_simp; go_wp2_with (first
          | (go_at_call 100; first
            | (with_reducible show Calls _ _ _ (World.alloc _ _) _; refine (do2 hlen hS1 hA).mono ?_; rintro e u2 ⟨b2, rfl, hS2, hT2, hB2, hBc⟩)
            | (refine (do1 hlen hS1 hT1 hB1 hBc).mono ?_; rintro e u2 ⟨b2, rfl, hS2, hT2, hB2⟩)
            | (refine (do0 hlen hS1).mono ?_; rintro e u2 ⟨b2, rfl, hS2⟩; have hL2 := lit_at (y := u2) hA))
          | (go_at_call 94; first
            | (with_reducible show Calls _ _ _ (World.drew (World.alloc _ _)) _; refine (dr1 hlen hS).mono ?_; rintro e u1 ⟨k1, t, rfl, hk1, hA, hts, hS1, hT1, hB1, hBc⟩; have hk0 : (0 : Int) ≤ (k1 : Int) := (by omega))
            | (with_reducible show Calls _ _ _ (World.drew _) _; refine (dr0 hlen hSd).mono ?_; rintro e u1 ⟨k1, t, rfl, hk1, hA, hts, hS1⟩; have hk0 : (0 : Int) ≤ (k1 : Int) := (by omega); have hL1 := lit_at (y := u1) hA)
            | (with_reducible show Calls _ _ _ (World.alloc _ _) _; refine (dn2 hlen hS2 hA).mono ?_; rintro e u3 ⟨x3, rfl, hx30, hx31, hS3, hT3, hB3, hBc⟩)
            | (refine (dn1 hlen hS2 hT2 hB2 hBc).mono ?_; rintro e u3 ⟨x3, rfl, hx30, hx31, hS3, hT3, hB3⟩)
            | (refine (dn0 hlen hS2).mono ?_; rintro e u3 ⟨x3, rfl, hx30, hx31, hS3⟩; have hL3 := lit_at (y := u3) hA)))))
      all_goals
        have HY2 : Hid (∀ x ∈ Y ++ [⟨t, b2, x3⟩], okBd x) := fun x hx => by
          rcases List.mem_append.1 hx with hx | hx
          · exact HY.out x hx
          · rw [List.mem_singleton] at hx
            subst hx
            exact ⟨by show t.size ≤ maxLen; unfold maxLen; omega, by show I64 x3; unfold I64; omega⟩
        go_wp2
        exact ⟨⟨m', g5, n + 1, c5, Y ++ [⟨t, b2, x3⟩], by go_num, by omega, by omega, rfl, hS5, HY2⟩, by simp [intOf]⟩
    · have e : k = 0 := by omega
      subst e
      have hn7 : n ≤ 8 := by omega
      clear hk hnk hlt
      go_wp2_with fail
      refine (l1Once_any c a len cap 10 _ hS.cur hlen (by decide) (by decide)).mono ?_
      rintro e w2 ⟨b, rfl, hb2, hc2⟩
      have hS2 := hS.call hb2 hc2
      clear hb2 hc2 hS
      cases b
      · obtain ⟨g6, n6, c6, Y6, eg, en, ec, hS6, HY6, hn6⟩ : ∃ g6 n6 c6 Y6, g = g6 ∧ n = n6 ∧ cp = c6 ∧ DS c a len cap w g6 n6 c6 Y6 w2 ∧ Hid (∀ x ∈ Y6, okBd x) ∧ n6 ≤ 9 := ⟨g, n, cp, Y, rfl, rfl, rfl, hS2, HY, by omega⟩
        rw [eg, en, ec]
        clear hS2 HY hn7 eg en ec
        go_wp2_with fail
        refine (l1Once_any c a len cap 40 _ hS6.cur hlen (by decide) (by decide)).mono ?_
        rintro e w7 ⟨b, rfl, hb7, hc7⟩
        have hS7 := hS6.call hb7 hc7
        clear hb7 hc7 hS6
        cases b
        · have hl : Y6.length ≤ 500 := by have := hS7.own.len; omega
          go_wp2
          go_ret
          exact ⟨g6, n6, c6, Y6, rfl, hS7.own, HY6.out, hl, hS7.but, hS7.cur⟩
        · have hS8 : DS c a len cap w w7.heap.size 0 0 [] (w7.alloc (.cells #[] 116)) := ⟨hS7.cur.alloc _, hS7.but.alloc _, ownB_new w7 w.heap.size hS7.but.2.2.2.1, hcz⟩
          clear HY6 hn6 hS7
          go_wp2_with fail
          refine (l1Below_any c a len cap 3 _ hS8.cur hlen (by decide) (by decide)).mono ?_
          rintro e w9 ⟨y9, rfl, hy0, hy1, hb9, hc9⟩
          have hS9 := hS8.call hb9 hc9
          clear hb9 hc9 hS8
          obtain ⟨q, rfl⟩ : ∃ q : Nat, y9 = (q : Int) := ⟨y9.toNat, by omega⟩
          go_wp2
          go_loopw [3, 5] (fun v3 v5 wr => ∃ (k g n cp : Nat) (Y : List Bd), v5 = .int .i64 (k : Int) ∧ n + k ≤ 402 ∧ v3 = .slice (some ⟨g, 0, none⟩) n cp ∧ DS c a len cap w g n cp Y wr ∧ Hid (∀ x ∈ Y, okBd x)) (fun _ v5 _ => (intOf v5).toNat)
          case atStart => exact ⟨399 + q, w7.heap.size, 0, 0, [], by go_num, by omega, rfl, hS9, fun x hx => by cases hx⟩
          case round =>
            obtain ⟨k, g, n, cp, Y, rfl, hnk, rfl, hS, HY⟩ := hrel
            clear hS9
            by_cases hlt : 0 < k
            · obtain ⟨m', rfl⟩ : ∃ m', k = m' + 1 := ⟨k - 1, by omega⟩
              have hcc3 : n + 1 ≤ maxLen := by unfold maxLen; omega
              have hcc4 : (n + 1) * 32 ≤ 140737488355328 := by omega
              have hcc5 : w.heap.size ≤ (wr.alloc (.cells #[.string ⟨#[120]⟩, .bool false, .int .i64 0] 116)).heap.size := Nat.le_trans hS.but.2.2.2.1 (by simp)
              go_wp2_with (at_builtin; refine wpList_append_own _ rfl _ _ 42 rfl w.heap.size 116 i0 (.agg #[.string ⟨#[]⟩, .bool false, .int .i64 0]) 3 32 Try.underlying42 hi hz0 hz1 hz2 rfl (by decide) _ _ _ rfl (World.ownsRow.alloc hS.own _) ⟨wr.heap.size, 0, none⟩ 1 1 [.string ⟨#[120]⟩, .bool false, .int .i64 0] rfl rfl (bd_new wr ⟨#[120]⟩ false 0) (bd_one ⟨#[120]⟩ false 0) hcc3 hcc4 hcc5 ?_)
              intro v' w10 hown' hgrow hnil
              obtain ⟨g5, c5, rfl, hS5⟩ := hS.more ⟨⟨#[120]⟩, false, 0⟩ hown' hgrow hnil
              have HY2 : Hid (∀ x ∈ Y ++ [⟨⟨#[120]⟩, false, 0⟩], okBd x) := fun x hx => by
                rcases List.mem_append.1 hx with hx | hx
                · exact HY.out x hx
                · rw [List.mem_singleton] at hx
                  subst hx
                  exact ⟨by decide, by unfold I64; decide⟩
              clear hown' hgrow hnil hcc3 hcc4 hcc5
              go_wp2
              exact ⟨⟨m', g5, n + 1, c5, _, by go_num, by omega, rfl, hS5, HY2⟩, by simp [intOf]⟩
            · have e : k = 0 := by omega
              subst e
              have hl : Y.length ≤ 500 := by have := hS.own.len; omega
              go_wp2
              go_ret
              exact ⟨g, n, cp, Y, rfl, hS.own, HY.out, hl, hS.but, hS.cur⟩
      · go_wp2_with fail
        refine (l2DrawAny_any c a len cap _ hS2.cur hlen).mono ?_
        rintro e w3 ⟨s2, rfl, hs2, hb3, hc3⟩
        have hS3 := hS2.call hb3 hc3
        clear hb3 hc3 hS2
        go_wp2_with fail
        refine (l1From_any c a len cap (-1) 2 _ hS3.cur hlen (by decide) (by decide) (by decide) (by decide)).mono ?_
        rintro e w4 ⟨x3, rfl, hx30, hx31, hb4, hc4⟩
        have hS4 := hS3.call hb4 hc4
        clear hb4 hc4 hS3
        have hcc3 : n + 1 ≤ maxLen := by unfold maxLen; omega
        have hcc4 : (n + 1) * 32 ≤ 140737488355328 := by omega
        have hcc5 : w.heap.size ≤ (w4.alloc (.cells #[.string s2, .bool false, .int .i64 x3] 116)).heap.size := Nat.le_trans hS4.but.2.2.2.1 (by simp)
        go_wp2_with (at_builtin; refine wpList_append_own _ rfl _ _ 42 rfl w.heap.size 116 i0 (.agg #[.string ⟨#[]⟩, .bool false, .int .i64 0]) 3 32 Try.underlying42 hi hz0 hz1 hz2 rfl (by decide) _ _ _ rfl (World.ownsRow.alloc hS4.own _) ⟨w4.heap.size, 0, none⟩ 1 1 [.string s2, .bool false, .int .i64 x3] rfl rfl (bd_new w4 s2 false x3) (bd_one s2 false x3) hcc3 hcc4 hcc5 ?_)
        intro v' w5 hown' hgrow hnil
        obtain ⟨g5, c5, rfl, hS5⟩ := hS4.more ⟨s2, false, x3⟩ hown' hgrow hnil
        have HY2 : Hid (∀ x ∈ Y ++ [⟨s2, false, x3⟩], okBd x) := fun x hx => by
          rcases List.mem_append.1 hx with hx | hx
          · exact HY.out x hx
          · rw [List.mem_singleton] at hx
            subst hx
            exact ⟨by show s2.size ≤ maxLen; unfold maxLen; omega, by show I64 x3; unfold I64; omega⟩
        clear hown' hgrow hnil hcc3 hcc4 hcc5 hS4
        obtain ⟨g6, n6, c6, Y6, eg, en, ec, hS6, HY6, hn6⟩ : ∃ g6 n6 c6 Y6, g5 = g6 ∧ n + 1 = n6 ∧ c5 = c6 ∧ DS c a len cap w g6 n6 c6 Y6 w5 ∧ Hid (∀ x ∈ Y6, okBd x) ∧ n6 ≤ 9 := ⟨g5, n + 1, c5, _, rfl, rfl, rfl, hS5, HY2, by omega⟩
        rw [eg, en, ec]
        clear hS5 HY2 HY hn7 eg en ec
        go_wp2_with fail
        refine (l1Once_any c a len cap 40 _ hS6.cur hlen (by decide) (by decide)).mono ?_
        rintro e w7 ⟨b, rfl, hb7, hc7⟩
        have hS7 := hS6.call hb7 hc7
        clear hb7 hc7 hS6
        cases b
        · have hl : Y6.length ≤ 500 := by have := hS7.own.len; omega
          go_wp2
          go_ret
          exact ⟨g6, n6, c6, Y6, rfl, hS7.own, HY6.out, hl, hS7.but, hS7.cur⟩
        · have hS8 : DS c a len cap w w7.heap.size 0 0 [] (w7.alloc (.cells #[] 116)) := ⟨hS7.cur.alloc _, hS7.but.alloc _, ownB_new w7 w.heap.size hS7.but.2.2.2.1, hcz⟩
          clear HY6 hn6 hS7
          go_wp2_with fail
          refine (l1Below_any c a len cap 3 _ hS8.cur hlen (by decide) (by decide)).mono ?_
          rintro e w9 ⟨y9, rfl, hy0, hy1, hb9, hc9⟩
          have hS9 := hS8.call hb9 hc9
          clear hb9 hc9 hS8
          obtain ⟨q, rfl⟩ : ∃ q : Nat, y9 = (q : Int) := ⟨y9.toNat, by omega⟩
          go_wp2
          go_loopw [3, 5] (fun v3 v5 wr => ∃ (k g n cp : Nat) (Y : List Bd), v5 = .int .i64 (k : Int) ∧ n + k ≤ 402 ∧ v3 = .slice (some ⟨g, 0, none⟩) n cp ∧ DS c a len cap w g n cp Y wr ∧ Hid (∀ x ∈ Y, okBd x)) (fun _ v5 _ => (intOf v5).toNat)
          case atStart => exact ⟨399 + q, w7.heap.size, 0, 0, [], by go_num, by omega, rfl, hS9, fun x hx => by cases hx⟩
          case round =>
            obtain ⟨k, g, n, cp, Y, rfl, hnk, rfl, hS, HY⟩ := hrel
            clear hS9
            by_cases hlt : 0 < k
            · obtain ⟨m', rfl⟩ : ∃ m', k = m' + 1 := ⟨k - 1, by omega⟩
              have hcc3 : n + 1 ≤ maxLen := by unfold maxLen; omega
              have hcc4 : (n + 1) * 32 ≤ 140737488355328 := by omega
              have hcc5 : w.heap.size ≤ (wr.alloc (.cells #[.string ⟨#[120]⟩, .bool false, .int .i64 0] 116)).heap.size := Nat.le_trans hS.but.2.2.2.1 (by simp)
              go_wp2_with (at_builtin; refine wpList_append_own _ rfl _ _ 42 rfl w.heap.size 116 i0 (.agg #[.string ⟨#[]⟩, .bool false, .int .i64 0]) 3 32 Try.underlying42 hi hz0 hz1 hz2 rfl (by decide) _ _ _ rfl (World.ownsRow.alloc hS.own _) ⟨wr.heap.size, 0, none⟩ 1 1 [.string ⟨#[120]⟩, .bool false, .int .i64 0] rfl rfl (bd_new wr ⟨#[120]⟩ false 0) (bd_one ⟨#[120]⟩ false 0) hcc3 hcc4 hcc5 ?_)
              intro v' w10 hown' hgrow hnil
              obtain ⟨g5, c5, rfl, hS5⟩ := hS.more ⟨⟨#[120]⟩, false, 0⟩ hown' hgrow hnil
              have HY2 : Hid (∀ x ∈ Y ++ [⟨⟨#[120]⟩, false, 0⟩], okBd x) := fun x hx => by
                rcases List.mem_append.1 hx with hx | hx
                · exact HY.out x hx
                · rw [List.mem_singleton] at hx
                  subst hx
                  exact ⟨by decide, by unfold I64; decide⟩
              clear hown' hgrow hnil hcc3 hcc4 hcc5
              go_wp2
              exact ⟨⟨m', g5, n + 1, c5, _, by go_num, by omega, rfl, hS5, HY2⟩, by simp [intOf]⟩
            · have e : k = 0 := by omega
              subst e
              have hl : Y.length ≤ 500 := by have := hS.own.len; omega
              go_wp2
              go_ret
              exact ⟨g, n, cp, Y, rfl, hS.own, HY.out, hl, hS.but, hS.cur⟩

end Go.Proofs.Ytcmjmoikalfdkaa
