/-
  Chapter 9 in plain words: who is who, and how it lies in memory.
-/
import Derived.Test.YtcmjmoikalfdkaaMemT
namespace Go.Proofs.Ytcmjmoikalfdkaa
open Go.RowKit

/-- A Bind. -/
structure Bd where
  n : ByteArray
  s : Bool
  a : Int
/-- What a Go value of this type may be. -/
def okBd (x : Bd) : Prop := x.n.size ≤ maxLen ∧ I64 x.a
/-- It lies there. -/
def BdAt (w : World) (sb o : Nat) (x : Bd) : Prop := w.cell? ⟨sb, o, none⟩ = some (.string x.n) ∧ w.cell? ⟨sb, o + 1, none⟩ = some (.bool x.s) ∧ w.cell? ⟨sb, o + 2, none⟩ = some (.int .i64 x.a)
theorem bd_stays : Stays BdAt := fun w w' sb o x hb hs h => by
  have key : ∀ j, w'.cell? ⟨sb, j, none⟩ = w.cell? ⟨sb, j, none⟩ := fun j => hb.cell (p := ⟨sb, j, none⟩) hs
  exact ⟨(key _).trans h.1, (key _).trans h.2.1, (key _).trans h.2.2⟩
/-- Cell by cell. -/
def bC (x : Bd) : List Value := [.string x.n, .bool x.s, .int .i64 x.a]
theorem rowB {w : World} {g : Nat} {X : List Bd} (h : RowF w g (X.flatMap bC)) : RowA BdAt 3 w (some ⟨g, 0, none⟩) X := fun i hi =>
  ⟨g, 0, rfl, h.1, row_at (f := bC) (fun _ => rfl) h hi (j := 0) (by decide) rfl, row_at (f := bC) (fun _ => rfl) h hi (j := 1) (by decide) rfl, row_at (f := bC) (fun _ => rfl) h hi (j := 2) (by decide) rfl⟩

theorem infoBd : (Try.prog.info? 116).map (fun i => (i.zero, i.size, i.bytes)) = some (some (.agg #[.string ⟨#[]⟩, .bool false, .int .i64 0]), 3, 32) := by kernel_rfl

set_option maxHeartbeats 400000 in
theorem szBd_any (x : Bd) (l : Int) (w : World) (hx : x.n.size ≤ maxLen) (h0 : 0 ≤ l) (h1 : l ≤ 1048576) :
    Calls Try.prog 145 #[.agg #[.string x.n, .bool x.s, .int .i64 x.a], .int .i64 l] w fun e w' => ∃ y : Int, e = .returned (.int .i64 y) ∧ -1 ≤ y ∧ y ≤ l ∧ Below w.heap.size w w' := by
  obtain ⟨n, s, a⟩ := x
  unfold maxLen at hx
  simp only at hx ⊢
  by_cases hneg : l - (n.size : Int) < 0
  · go_enter Try.func145, Try.ntmps145
    go_wp2
    go_ret
    exact ⟨_, rfl, by omega, by omega, balloc (Below.refl _ _) _⟩
  · go_enter Try.func145, Try.ntmps145
    go_wp2
    go_ret
    exact ⟨_, rfl, by omega, by omega, balloc (Below.refl _ _) _⟩

set_option maxHeartbeats 2000000 in
theorem szBindS_any (a : Option Addr) (cap : Nat) (X : List Bd) (l : Int) (w : World) (h : RowA BdAt 3 w a X) (hok : ∀ x ∈ X, okBd x) (hL : X.length ≤ maxLen) (h0 : 0 ≤ l) (h1 : l ≤ 1048576) :
    Calls Try.prog 76 #[.slice a X.length cap, .int .i64 l] w fun e w' => ∃ y : Int, e = .returned (.int .i64 y) ∧ -1 ≤ y ∧ y ≤ l ∧ (0 ≤ y → X.length ≤ 1048576) ∧ Below w.heap.size w w' := by
  unfold maxLen at hL
  by_cases hbig : l < (X.length : Int)
  · go_enter Try.func76, Try.ntmps76
    go_wp2
    go_ret
    exact ⟨_, rfl, by omega, by omega, fun h => absurd h (by decide), Below.refl _ _⟩
  go_enter Try.func76, Try.ntmps76
  go_wp2
  go_loopw [1, 5] (fun q i wr => ∃ (k : Nat) (x : Int), k ≤ X.length ∧ i = .int .i64 (k : Int) ∧ q = .int .i64 x ∧ 0 ≤ x ∧ x ≤ l ∧ Below w.heap.size w wr) (fun _ i _ => X.length - (intOf i).toNat)
  case atStart => exact ⟨0, l - (X.length : Int), Nat.zero_le _, rfl, rfl, by omega, by omega, Below.refl _ _⟩
  case round =>
    obtain ⟨k, x, hk, rfl, rfl, hx0, hx1, hB⟩ := hrel
    by_cases hlt : k < X.length
    · obtain ⟨sb, off, rfl, hs, hat⟩ := h k hlt
      have hat' := bd_stays w wr sb _ _ hB hs hat
      have ho := (hok _ (List.getElem_mem hlt)).1
      generalize X[k] = t at hat' ho
      obtain ⟨c1, c2, c3⟩ := hat'
      clear hat
      go_wp2_with fail
      refine (szBd_any t x _ ho hx0 (by omega)).mono ?_
      rintro e w2 ⟨y, rfl, hy0, hy1, hb2⟩
      have hB2 := bstep hB hb2
      clear hb2
      by_cases hneg : y < 0
      · go_wp2
        go_ret
        exact ⟨_, rfl, by omega, by omega, fun h => absurd h (by decide), hB2⟩
      · go_wp2
        go_roundw
        case rel => exact ⟨k + 1, y, by omega, by go_num, rfl, by omega, by omega, hB2⟩
        case measure => simp [intOf]; omega
    · go_wp2
      go_ret
      exact ⟨_, rfl, by omega, by omega, fun _ => by omega, hB⟩

set_option maxHeartbeats 1000000 in
theorem toBd_any (x : Bd) (w : World) :
    Calls Try.prog 146 #[.agg #[.string x.n, .bool x.s, .int .i64 x.a]] w fun e w' => e = .returned (.agg #[.string x.n, .bool x.s, .int .i64 x.a]) ∧ Below w.heap.size w w' := by
  obtain ⟨n, s, a⟩ := x
  simp only
  go_enter Try.func146, Try.ntmps146
  go_wp2
  refine bodyPost_ret (v := .agg #[.string n, .bool s, .int .i64 a]) (by simp [results, Try.results146, go_sem]) rfl ?_
  exact ⟨rfl, by
    repeat (first | exact Below.refl _ _ | refine balloc ?_ _ | refine Below.setCell ?_ (by simp) _)⟩

set_option maxHeartbeats 2000000 in
theorem toBindS_any (a : Option Addr) (cap : Nat) (X : List Bd) (w : World) (h : RowA BdAt 3 w a X) (hL : X.length ≤ 1048576) :
    Calls Try.prog 77 #[.slice a X.length cap] w fun e w' => e = .returned (.slice (some ⟨w.heap.size, 0, none⟩) X.length X.length) ∧ RowF w' w.heap.size (X.flatMap bC) ∧ Below w.heap.size w w' := by
  have hmk := run_make_any (P := Try.prog) 42 116 (.agg #[.string ⟨#[]⟩, .bool false, .int .i64 0]) 3 32 Try.underlying42 infoBd .i64 .i64 X.length (by omega) (by omega)
  have hfl := flat_size bC 3 (fun _ => rfl) X
  have hnew := fillC_new w ((.agg #[.string ⟨#[]⟩, .bool false, .int .i64 0]) : Value).cells (X.length * 3) (X.flatMap bC) 116
  have hB0 := balloc (Below.refl w.heap.size w) (.cells (madeCells ((.agg #[.string ⟨#[]⟩, .bool false, .int .i64 0]) : Value).cells (X.length * 3)) 116)
  go_enter Try.func77, Try.ntmps77
  go_wp2
  go_loopw [4] (fun i wr => ∃ k : Nat, k ≤ X.length ∧ i = .int .i64 (k : Int) ∧ FillC wr w.heap.size (X.length * 3) (X.flatMap bC) (k * 3) ∧ Below w.heap.size w wr) (fun i _ => X.length - (intOf i).toNat)
  case atStart => exact ⟨0, Nat.zero_le _, rfl, by rw [Nat.zero_mul]; exact hnew, hB0⟩
  case round =>
    obtain ⟨k, hk, rfl, hF, hB⟩ := hrel
    clear hnew hB0
    by_cases hlt : k < X.length
    · obtain ⟨sb, off, rfl, hs, hat⟩ := h k hlt
      have hat' := bd_stays w wr sb _ _ hB hs hat
      have HU : ∀ j u, j < 3 → (bC X[k])[j]? = some u → (X.flatMap bC)[k * 3 + j]? = some u := fun j u hj hu => (flat_at bC 3 (fun _ => rfl) X k j hlt hj).trans hu
      have HU' : Hid (∀ j u, j < 3 → (bC X[k])[j]? = some u → (X.flatMap bC)[k * 3 + j]? = some u) := HU
      have hmul : (k + 1) * 3 ≤ X.length * 3 := Nat.mul_le_mul_right _ hlt
      rw [Nat.succ_mul] at hmul
      clear hat HU
      generalize X[k] = t at hat' HU'
      obtain ⟨c1, c2, c3⟩ := hat'
      go_wp2_with fail
      refine (toBd_any t _).mono ?_
      rintro e w2 ⟨rfl, hb2⟩
      have hF2 := hF.call hb2
      have hB2 := bstep hB hb2
      clear hF hB hb2
      obtain ⟨⟨q0, oc0, _⟩, of0⟩ := hF2.2 (k * 3) (by omega)
      obtain ⟨⟨q1, oc1, _⟩, of1⟩ := hF2.2 (k * 3 + 1) (by omega)
      obtain ⟨⟨q2, oc2, _⟩, of2⟩ := hF2.2 (k * 3 + 2) (by omega)
      have HF : Hid (FillC (((w2.setCell ⟨w.heap.size, k * 3, none⟩ (.string t.n)).setCell ⟨w.heap.size, k * 3 + 1, none⟩ (.bool t.s)).setCell ⟨w.heap.size, k * 3 + 2, none⟩ (.int .i64 t.a)) w.heap.size (X.length * 3) (X.flatMap bC) (k * 3 + 3)) := (((hF2.set (j := k * 3) (u := .string t.n) (by omega) (HU'.out 0 _ (by decide) rfl)).set (j := k * 3 + 1) (u := .bool t.s) (by omega) (HU'.out 1 _ (by decide) rfl)).set (j := k * 3 + 2) (u := .int .i64 t.a) (by omega) (HU'.out 2 _ (by decide) rfl))
      clear hF2 HU'
      go_wp2
      go_roundw
      case rel => exact ⟨k + 1, by omega, by go_num, by rw [Nat.succ_mul]; exact HF.out, by
        iterate 3 refine Below.setCell ?_ (by dsimp only; omega) _
        exact hB2⟩
      case measure => simp [intOf]; omega
    · have e : k = X.length := by omega
      subst e
      rw [← hfl] at hF
      go_wp2
      go_ret
      exact ⟨rfl, hF.all, hB⟩

end Go.Proofs.Ytcmjmoikalfdkaa
