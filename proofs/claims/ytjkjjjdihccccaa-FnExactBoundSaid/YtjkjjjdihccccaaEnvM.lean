/-
  Chapter 9, the laws: Binds that are marked, and that still bear their marks.
-/
import Derived.Test.YtjkjjjdihccccaaEnvE
import Derived.Test.YtjkjjjdihccccaaMarkW
namespace Go.Proofs.Ytjkjjjdihccccaa
open Go.RowKit

theorem RowF.but {c : Nat} {w w' : World} {g : Nat} {C : List Value} (h : RowF w g C) (hb : But c w w') (hn : g ≠ c) : RowF w' g C :=
  ⟨Nat.lt_of_lt_of_le h.1 hb.2.2.2.1, fun i hi => ⟨(hb.cell g i h.1 hn).trans (h.2 i hi).1, (hb.frozen g i h.1 hn).trans (h.2 i hi).2⟩⟩
theorem fillC_row {w : World} {g : Nat} {D : List Value} (h : RowF w g D) (C : List Value) : FillC w g D.length C 0 :=
  ⟨h.1, fun i hi => ⟨⟨_, (h.2 i hi).1, fun h => absurd h (Nat.not_lt_zero _)⟩, (h.2 i hi).2⟩⟩
/-- The marks from 1 on. -/
def mkB (i : Nat) : Bd := ⟨markT (1 + 3 * i), false, 3 + 3 * (i : Int)⟩
def marksB (n : Nat) : List Bd := (List.range n).map mkB
theorem marksB_length (n : Nat) : (marksB n).length = n := by simp [marksB]
theorem marksB_get (n i : Nat) (h : i < (marksB n).length) : (marksB n)[i] = mkB i := by simp [marksB]

set_option maxHeartbeats 2000000 in
theorem markBindS_row (g cap : Nat) (X : List Bd) (w : World) (h : RowF w g (X.flatMap bC)) (hL : X.length ≤ 2097152) :
    Calls Try.prog 24 #[.slice (some ⟨g, 0, none⟩) X.length cap, .int .i64 1] w fun e w' => e = .returned (.int .i64 (1 + 3 * (X.length : Int))) ∧ But g w w' ∧ RowF w' g ((marksB X.length).flatMap bC) := by
  have hfl := flat_size bC 3 (fun _ => rfl) X
  have hfm := flat_size bC 3 (fun _ => rfl) (marksB X.length)
  rw [marksB_length] at hfm
  have hf0 := fillC_row h ((marksB X.length).flatMap bC)
  rw [hfl] at hf0
  go_enter Try.func24, Try.ntmps24
  go_wp2
  go_loopw [1, 5] (fun q i wr => ∃ j : Nat, j ≤ X.length ∧ i = .int .i64 (j : Int) ∧ q = .int .i64 (1 + 3 * (j : Int)) ∧ But g w wr ∧ FillC wr g (X.length * 3) ((marksB X.length).flatMap bC) (j * 3)) (fun _ i _ => X.length - (intOf i).toNat)
  case atStart => exact ⟨0, Nat.zero_le _, rfl, rfl, But.refl _ _, hf0⟩
  case round =>
    obtain ⟨j, hj, rfl, rfl, hB, hF⟩ := hrel
    by_cases hlt : j < X.length
    · have HU : Hid (∀ i u, i < 3 → (bC (mkB j))[i]? = some u → ((marksB X.length).flatMap bC)[j * 3 + i]? = some u) := fun i u hi hu => by
        have hl : j < (marksB X.length).length := by rw [marksB_length]; exact hlt
        rw [flat_at bC 3 (fun _ => rfl) (marksB X.length) j i hl hi, marksB_get _ _ hl]
        exact hu
      have hmul : (j + 1) * 3 ≤ X.length * 3 := Nat.mul_le_mul_right _ hlt
      rw [Nat.succ_mul] at hmul
      clear hfl hfm hf0
      have hmt := fun W => markText_any (1 + 3 * j) W (by omega) (by omega)
      go_wp2_with fail
      refine (hmt _).mono ?_
      rintro e w1 ⟨rfl, hb⟩
      replace hB := hB.call (But.of_below (c := g) hb)
      replace hF := hF.call hb
      obtain ⟨⟨x0, hx0, _⟩, hf0⟩ := hF.2 (j * 3) (by omega)
      obtain ⟨⟨x1, hx1, _⟩, hf1⟩ := hF.2 (j * 3 + 1) (by omega)
      obtain ⟨⟨x2, hx2, _⟩, hf2⟩ := hF.2 (j * 3 + 2) (by omega)
      have HF : Hid (FillC (((w1.setCell ⟨g, j * 3, none⟩ (.string (markT (1 + 3 * j)))).setCell ⟨g, j * 3 + 1, none⟩ (.bool false)).setCell ⟨g, j * 3 + 2, none⟩ (.int .i64 (3 + 3 * (j : Int)))) g (X.length * 3) ((marksB X.length).flatMap bC) (j * 3 + 3)) := (((hF.set (j := j * 3) (u := .string (markT (1 + 3 * j))) (by omega) (HU.out 0 _ (by decide) rfl)).set (j := j * 3 + 1) (u := .bool false) (by omega) (HU.out 1 _ (by decide) rfl)).set (j := j * 3 + 2) (u := .int .i64 (3 + 3 * (j : Int))) (by omega) (HU.out 2 _ (by decide) rfl))
      generalize markT (1 + 3 * j) = mk at HF ⊢
      clear hF HU hb hmt
      go_wp2
      have er : (((1 : Int) + 3 * (j : Int) + 1) % 3 == 0) = false := by
        rw [beq_eq_false_iff_ne]
        omega
      have ea : (1 : Int) + 3 * (j : Int) + 1 + 1 = 3 + 3 * (j : Int) := by omega
      rw [er, ea]
      refine ⟨⟨j + 1, by omega, by go_num, ?_, ((hB.setCur _ _).setCur _ _).setCur _ _, by rw [Nat.succ_mul]; exact HF.out⟩, by simp [intOf]; omega⟩
      congr 1
      omega
    · have e : j = X.length := by omega
      subst e
      rw [← hfm] at hF
      go_wp2
      go_ret
      exact ⟨rfl, hB, hF.all⟩

/-- What a look at a mark needs. -/
def HeldB (B : Nat) (w0 : World) (g k : Nat) (t : ByteArray) (z : Int) (x : World) : Prop := (x.cell? ⟨g, k, none⟩ = some (.string t) ∧ x.cell? ⟨g, k + 1, none⟩ = some (.bool false) ∧ x.cell? ⟨g, k + 2, none⟩ = some (.int .i64 z)) ∧ g < x.heap.size ∧ Below B w0 x
theorem HeldB.call {B g k : Nat} {w0 W w1 : World} {t : ByteArray} {z : Int} (h : HeldB B w0 g k t z W) (hBW : B ≤ W.heap.size) (hb : Below W.heap.size W w1) : HeldB B w0 g k t z w1 :=
  ⟨⟨(hb.cell (p := ⟨g, k, none⟩) h.2.1).trans h.1.1, (hb.cell (p := ⟨g, k + 1, none⟩) h.2.1).trans h.1.2.1, (hb.cell (p := ⟨g, k + 2, none⟩) h.2.1).trans h.1.2.2⟩, Nat.lt_of_lt_of_le h.2.1 hb.size, h.2.2.trans (hb.mono hBW)⟩
theorem HeldB.drew {B g k : Nat} {w0 W : World} {t : ByteArray} {z : Int} (h : HeldB B w0 g k t z W) : HeldB B w0 g k t z W.drew := ⟨h.1, h.2.1, h.2.2.drew⟩

set_option maxHeartbeats 2000000 in
theorem heldBindS_row (g cap n : Nat) (w : World) (h : RowF w g ((marksB n).flatMap bC)) (hn : n ≤ 2097152) :
    Calls Try.prog 26 #[.slice (some ⟨g, 0, none⟩) n cap, .int .i64 1] w fun e w' => e = .returned (.int .i64 (1 + 3 * (n : Int))) ∧ Below w.heap.size w w' := by
  have hg := h.1
  have hrow : ∀ i, i < n → BdAt w g (0 + i * 3) (mkB i) := fun i hi => by
    have hi' : i < (marksB n).length := by rw [marksB_length]; exact hi
    obtain ⟨sb, off, e, _, hat⟩ := rowB h i hi'
    rw [marksB_get n i hi'] at hat
    simp at e
    obtain ⟨rfl, rfl⟩ := e
    exact hat
  go_enter Try.func26, Try.ntmps26
  go_wp2
  go_loopw [1, 5] (fun q i wr => ∃ j : Nat, j ≤ n ∧ i = .int .i64 (j : Int) ∧ q = .int .i64 (1 + 3 * (j : Int)) ∧ Below w.heap.size w wr) (fun _ i _ => n - (intOf i).toNat)
  case atStart => exact ⟨0, Nat.zero_le _, rfl, rfl, Below.refl _ _⟩
  case round =>
    obtain ⟨j, hj, rfl, rfl, hB⟩ := hrel
    by_cases hlt : j < n
    · have hat := bd_stays w wr g _ _ hB hg (hrow j hlt)
      rw [Nat.zero_add] at hat
      have hsz := hB.size
      have hT : HeldB w.heap.size w g (j * 3) (markT (1 + 3 * j)) (3 + 3 * (j : Int)) wr := ⟨hat, by omega, hB⟩
      have hmt := fun W => markText_any (1 + 3 * j) W (by omega) (by omega)
      generalize markT (1 + 3 * j) = mk at hT hmt
      have er : ((1 : Int) + 3 * (j : Int) + 1) % 3 = 2 := by omega
      clear hat hrow
      go_upto_region 4 with fail
      go_region_held3 (fun x => (x.cell? ⟨g, j * 3, none⟩ = some (.string mk) ∧ x.cell? ⟨g, j * 3 + 1, none⟩ = some (.bool false) ∧ x.cell? ⟨g, j * 3 + 2, none⟩ = some (.int .i64 (3 + 3 * (j : Int)))) ∧ g < x.heap.size ∧ Below w.heap.size w x)
        ((show HeldB w.heap.size w g (j * 3) mk (3 + 3 * (j : Int)) _; first | (with_reducible exact hT3) | (with_reducible exact hT.drew)))
        (first
          | (go_at_call 43; refine (hmt _).mono ?_; rintro e w3 ⟨rfl, hb3⟩; have hT3 := HeldB.call hT.drew hsz hb3; clear hb3))
      all_goals
        rename_i hH
        clear hH
        obtain ⟨⟨y0, y1, y2⟩, y3, y4⟩ := id hT3
        go_wp2
        go_roundw
        case rel => exact ⟨j + 1, by omega, by go_num, by go_num, y4⟩
        case measure => simp [intOf]; omega
    · have ej : j = n := by omega
      subst ej
      go_wp2
      go_ret
      exact ⟨rfl, hB⟩

set_option maxHeartbeats 1000000 in
theorem markStringS_from (g cap : Nat) (L : List ByteArray) (c : Nat) (w : World) (h : RowT w g L) (hL : L.length ≤ 1048576) (h0 : 1 ≤ c) (h1 : c ≤ 9000000) :
    Calls Try.prog 25 #[.slice (some ⟨g, 0, none⟩) L.length cap, .int .i64 (c : Int)] w fun e w' => e = .returned (.int .i64 ((c : Int) + (L.length : Int))) ∧ But g w w' := by
  go_enter Try.func25, Try.ntmps25
  go_wp2
  go_loopw [1, 5] (fun q i wr => ∃ j : Nat, j ≤ L.length ∧ i = .int .i64 (j : Int) ∧ q = .int .i64 ((c : Int) + (j : Int)) ∧ But g w wr ∧ g < wr.heap.size ∧ ∀ i, i < L.length → (∃ x, wr.cell? ⟨g, i, none⟩ = some (.string x)) ∧ wr.frozen? ⟨g, i, none⟩ = false) (fun _ i _ => L.length - (intOf i).toNat)
  case atStart => exact ⟨0, Nat.zero_le _, rfl, by simp, But.refl _ _, h.1, fun i hi => ⟨⟨_, (h.2 i hi).1⟩, (h.2 i hi).2⟩⟩
  case round =>
    obtain ⟨j, hj, rfl, rfl, hB, hg, hH⟩ := hrel
    by_cases hlt : j < L.length
    · have hmt := fun W => markText_any (c + j) W (by omega) (by omega)
      rw [Int.natCast_add] at hmt
      go_wp2_with fail
      refine (hmt _).mono ?_
      rintro e w1 ⟨rfl, hb⟩
      replace hB := hB.call (But.of_below (c := g) hb)
      have hg1 : g < w1.heap.size := Nat.lt_of_lt_of_le hg hb.size
      have hH1 : ∀ i, i < L.length → (∃ x, w1.cell? ⟨g, i, none⟩ = some (.string x)) ∧ w1.frozen? ⟨g, i, none⟩ = false := fun i hi => by
        obtain ⟨⟨x, hx⟩, hf⟩ := hH i hi
        exact ⟨⟨x, (hb.cell (p := ⟨g, i, none⟩) hg).trans hx⟩, (hb.frozen (p := ⟨g, i, none⟩) hg).trans hf⟩
      generalize markT (c + j) = mk
      have HH : Hid (∀ i, i < L.length → (∃ x, (w1.setCell ⟨g, j, none⟩ (.string mk)).cell? ⟨g, i, none⟩ = some (.string x)) ∧ (w1.setCell ⟨g, j, none⟩ (.string mk)).frozen? ⟨g, i, none⟩ = false) := fun i hi => by
        obtain ⟨⟨x, hx⟩, hf⟩ := hH1 i hi
        refine ⟨?_, by simpa [go_sem] using hf⟩
        by_cases e : i = j
        · subst e
          exact ⟨_, World.cell?_setCell_same w1 _ _ hx⟩
        · exact ⟨x, (World.cell?_setCell_other w1 ⟨g, j, none⟩ ⟨g, i, none⟩ _ (fun hh => e (by injection hh with _ h2 _; exact h2.symm))).trans hx⟩
      obtain ⟨⟨x, hx⟩, hfz⟩ := hH1 j hlt
      clear hH hH1 hmt hb
      go_wp2
      go_roundw
      case rel => exact ⟨j + 1, by omega, by go_num, by go_num, hB.setCur _ _, by simpa [World.setCell] using hg1, HH.out⟩
      case measure => simp [intOf]; omega
    · have ej : j = L.length := by omega
      subst ej
      clear hH
      go_wp2
      go_ret
      exact ⟨rfl, hB⟩

set_option maxHeartbeats 2000000 in
theorem szStringS_from (a : Option Addr) (cap : Nat) (L : List ByteArray) (l : Int) (w : World) (h : ArgT w a L) (hL : L.length ≤ maxLen) (h0 : 0 ≤ l) (h1 : l ≤ 1048576) :
    Calls Try.prog 21 #[.slice a L.length cap, .int .i64 l] w fun e w' => ∃ x : Int, e = .returned (.int .i64 x) ∧ (0 ≤ x → L.length ≤ 1048576) ∧ Below w.heap.size w w' := by
  unfold maxLen at hL
  by_cases hbig : l < (L.length : Int)
  · go_enter Try.func21, Try.ntmps21
    go_wp2
    go_ret
    exact ⟨_, rfl, fun h => absurd h (by decide), Below.refl _ _⟩
  go_enter Try.func21, Try.ntmps21
  go_wp2
  go_loopw [1, 5] (fun q i wr => ∃ (k : Nat) (x : Int), k ≤ L.length ∧ i = .int .i64 (k : Int) ∧ q = .int .i64 x ∧ 0 ≤ x ∧ x ≤ l ∧ Below w.heap.size w wr) (fun _ i _ => L.length - (intOf i).toNat)
  case atStart => exact ⟨0, l - (L.length : Int), Nat.zero_le _, rfl, rfl, by omega, by omega, Below.refl _ _⟩
  case round =>
    obtain ⟨k, x, hk, rfl, rfl, hx0, hx1, hB⟩ := hrel
    by_cases hlt : k < L.length
    · obtain ⟨sb, off, rfl, hs, hc, hm⟩ := h k hlt
      have hc' := (hB.cell (p := ⟨sb, off + k, none⟩) hs).trans hc
      unfold maxLen at hm
      clear hc
      generalize L[k] = t at hc' hm
      by_cases hneg : x - (t.size : Int) < 0
      · go_wp2
        go_ret
        exact ⟨_, rfl, fun h => absurd h (by decide), hB⟩
      · go_wp2
        go_roundw
        case rel => exact ⟨k + 1, x - (t.size : Int), by omega, by go_num, rfl, by omega, by omega, hB⟩
        case measure => simp [intOf]; omega
    · go_wp2
      go_ret
      exact ⟨_, rfl, fun _ => by omega, hB⟩

end Go.Proofs.Ytjkjjjdihccccaa
