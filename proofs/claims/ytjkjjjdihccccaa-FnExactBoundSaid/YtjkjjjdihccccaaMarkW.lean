/-
  Lists of texts in memory of the call's own: that two are the same, that one is marked, that one still bears its marks.
-/
import Derived.Test.YtjkjjjdihccccaaCutS
import Derived.Test.YtjkjjjdihccccaaListC
import Derived.Test.YtjkjjjdihccccaaBut
import Derived.Test.YtjkjjjdihccccaaDigits
namespace Go.Proofs.Ytjkjjjdihccccaa
open Go.RowKit
attribute [local go_sem] conv1

theorem RowT.but {c : Nat} {w w' : World} {g : Nat} {L : List ByteArray} (h : RowT w g L) (hb : But c w w') (hn : g ≠ c) : RowT w' g L :=
  ⟨Nat.lt_of_lt_of_le h.1 hb.2.2.2.1, fun i hi => ⟨(hb.cell g i h.1 hn).trans (h.2 i hi).1, (hb.frozen g i h.1 hn).trans (h.2 i hi).2⟩⟩

/-- A value that is such a list: it is empty, or it begins at a block's head. -/
def IsT (w : World) (B : Nat) (v : Value) (L : List ByteArray) : Prop := (L = [] ∧ ∃ a cap, v = .slice a 0 cap) ∨ (L ≠ [] ∧ ∃ g cap, v = .slice (some ⟨g, 0, none⟩) L.length cap ∧ B ≤ g ∧ RowT w g L)
theorem OwnT.is {w : World} {B : Nat} {v : Value} {L : List ByteArray} (h : OwnT w B v L) : IsT w B v L := by
  by_cases hL : L = []
  · subst hL
    obtain ⟨a, cap, rfl⟩ := h.shape
    exact Or.inl ⟨rfl, a, cap, rfl⟩
  · right
    refine ⟨hL, ?_⟩
    rcases h.2 with ⟨_, hn⟩ | ⟨g, cap, cur, rfl, hB, hg, hcap, hmax, hsz, htake⟩
    · exact absurd (List.length_eq_zero_iff.mp hn) hL
    · refine ⟨g, cap, rfl, hB, (Array.getElem?_eq_some_iff.1 hg).1, fun i hi => ?_⟩
      have hi' : i < cur.size := by omega
      have e : cur[i] = .string L[i] := by
        have h1 : (cur.toList.take (L.length * 1))[i]? = (L.map Value.string)[i]? := by rw [htake]
        rw [List.getElem?_take_of_lt (by omega)] at h1
        simp [hi, hi'] at h1
        exact h1
      refine ⟨?_, ?_⟩
      · simp [World.cell?, hg, hi', e]
      · simp [World.frozen?, hg]

set_option maxHeartbeats 1000000 in
theorem eqStringS_same (B B' : Nat) (v v' : Value) (L : List ByteArray) (w : World) (h : IsT w B v L) (h' : IsT w B' v' L) (hL : L.length ≤ 1048576) :
    Calls Try.prog 23 #[v, v'] w fun e w' => e = .returned (.bool true) ∧ Below w.heap.size w w' := by
  rcases h with ⟨rfl, a, cap, rfl⟩ | ⟨hne, g, cap, rfl, _, hg, hrow⟩
  · rcases h' with ⟨_, a', cap', rfl⟩ | ⟨hne, _⟩
    · go_enter Try.func23, Try.ntmps23
      go_wp2
      refine wp_loop_rounds 1 ?_
      rw [rounds_succ]
      go_wp2
      go_ret
      exact ⟨rfl, Below.refl _ _⟩
    · exact absurd rfl hne
  · rcases h' with ⟨rfl, _⟩ | ⟨_, g', cap', rfl, _, hg', hrow'⟩
    · exact absurd rfl hne
    go_enter Try.func23, Try.ntmps23
    go_wp2
    go_loopw [5] (fun i wr => ∃ k : Nat, k ≤ L.length ∧ i = .int .i64 (k : Int) ∧ Below w.heap.size w wr) (fun i _ => L.length - (intOf i).toNat)
    case atStart => exact ⟨0, Nat.zero_le _, rfl, Below.refl _ _⟩
    case round =>
      obtain ⟨k, hk, rfl, hB⟩ := hrel
      by_cases hlt : k < L.length
      · have c1 := (hB.cell (p := ⟨g, k, none⟩) hg).trans (hrow k hlt).1
        have c2 := (hB.cell (p := ⟨g', k, none⟩) hg').trans (hrow' k hlt).1
        generalize L[k] = t at c1 c2
        go_wp2
        go_quiet (fail)
        go_wp2
        go_roundw
        case rel => exact ⟨k + 1, by omega, by go_num, ⟨hB.os, hB.tape, hB.output, hB.size, hB.block⟩⟩
        case measure => simp [intOf]; omega
      · go_wp2
        go_ret
        exact ⟨rfl, hB⟩

/-- The mark of a number. -/
def markT (m : Nat) : ByteArray := ⟨(109 :: Lib.decDigits m).toArray⟩

set_option maxHeartbeats 1000000 in
theorem markText_any (m : Nat) (w : World) (h1 : 1 ≤ m) (h2 : m ≤ 999999999) :
    Calls Try.prog 43 #[.int .i64 (m : Int)] w fun e w' => e = .returned (.string (markT m)) ∧ Below w.heap.size w w' := by
  have h0 : ¬ (m : Int) ≤ 0 := by omega
  go_enter Try.func43, Try.ntmps43
  go_wp2
  go_loopw [0, 3] (fun v0 v3 wr => ∃ (m' : Nat) (suf : List UInt8), v0 = .int .i64 (m' : Int) ∧ v3 = .string ⟨suf.toArray⟩ ∧ m' ≤ m ∧ Digs m m' suf ∧ (suf = [] → 1 ≤ m') ∧ Below w.heap.size w wr) (fun v0 _ _ => (intOf v0).toNat)
  case atStart => exact ⟨m, [], rfl, rfl, Nat.le_refl _, by simp [Digs], fun _ => h1, Below.refl _ _⟩
  case round =>
    obtain ⟨m', suf, rfl, rfl, hle, hp, hsuf, hbl⟩ := hrel
    cases suf with
    | nil =>
      have hpos := hsuf rfl
      clear hsuf
      go_wp2
      refine ⟨⟨m' / 10, [48 + UInt8.ofNat (m' % 10)], by go_num, by rw [bytes_cons0], by omega, digs_step hp (.inl rfl), (fun h => by cases h), balloc hbl _⟩, ?_⟩
      simp [intOf]
      omega
    | cons b r =>
      clear hsuf
      have hl : ¬ 9223372036854775807 < 1 + (r.length + 1) := by
        have := digs_len hp
        simp only [List.length_cons] at this
        omega
      by_cases hz : m' = 0
      · subst hz
        go_wp2
        go_ret
        exact ⟨by unfold markT; rw [← digs_end hp, ← bytes_cons]; rfl, hbl⟩
      · go_wp2
        refine ⟨⟨m' / 10, (48 + UInt8.ofNat (m' % 10)) :: b :: r, by go_num, by rw [bytes_cons], by omega, digs_step hp (.inr hz), (fun h => by cases h), balloc hbl _⟩, ?_⟩
        simp [intOf]
        omega

/-- The marks from 1 on. -/
def marksL (n : Nat) : List ByteArray := (List.range n).map fun i => markT (1 + i)
theorem marksL_length (n : Nat) : (marksL n).length = n := by simp [marksL]
theorem marksL_get (n i : Nat) (h : i < (marksL n).length) : (marksL n)[i] = markT (1 + i) := by simp [marksL]

/-- Of a list the first j are marked. -/
def Half (w : World) (g : Nat) (L : List ByteArray) (j : Nat) : Prop := g < w.heap.size ∧ ∀ i (_ : i < L.length), (∃ x, w.cell? ⟨g, i, none⟩ = some (.string x) ∧ (i < j → x = markT (1 + i))) ∧ w.frozen? ⟨g, i, none⟩ = false
theorem Half.call {w w' : World} {g j : Nat} {L : List ByteArray} (h : Half w g L j) (hb : Below w.heap.size w w') : Half w' g L j :=
  ⟨Nat.lt_of_lt_of_le h.1 hb.size, fun i hi => ⟨by
    obtain ⟨⟨x, hx, hm⟩, _⟩ := h.2 i hi
    exact ⟨x, (hb.cell (p := ⟨g, i, none⟩) h.1).trans hx, hm⟩, (hb.frozen (p := ⟨g, i, none⟩) h.1).trans (h.2 i hi).2⟩⟩
theorem half_zero {w : World} {g : Nat} {L : List ByteArray} (h : RowT w g L) : Half w g L 0 := ⟨h.1, fun i hi => ⟨⟨_, (h.2 i hi).1, fun h => by omega⟩, (h.2 i hi).2⟩⟩
theorem half_set {w : World} {g j : Nat} {L : List ByteArray} (h : Half w g L j) (hj : j < L.length) : Half (w.setCell ⟨g, j, none⟩ (.string (markT (1 + j)))) g L (j + 1) := by
  refine ⟨by simpa [World.setCell] using h.1, fun i hi => ⟨?_, ?_⟩⟩
  · obtain ⟨⟨x, hx, hm⟩, _⟩ := h.2 i hi
    by_cases e : i = j
    · subst e
      exact ⟨_, World.cell?_setCell_same w _ _ hx, fun _ => rfl⟩
    · refine ⟨x, (World.cell?_setCell_other w ⟨g, j, none⟩ ⟨g, i, none⟩ _ (fun hh => e (by injection hh with _ h2 _; exact h2.symm))).trans hx, fun hlt => hm (by omega)⟩
  · have := (h.2 i hi).2
    simpa [go_sem] using this
theorem half_all {w : World} {g : Nat} {L : List ByteArray} (h : Half w g L L.length) : RowT w g (marksL L.length) :=
  ⟨h.1, fun i hi => by
    rw [marksL_get]
    rw [marksL_length] at hi
    obtain ⟨⟨x, hx, hm⟩, hf⟩ := h.2 i hi
    rw [hm hi] at hx
    exact ⟨hx, hf⟩⟩

set_option maxHeartbeats 1000000 in
theorem markStringS_row (g cap : Nat) (L : List ByteArray) (w : World) (h : RowT w g L) (hL : L.length ≤ 1048576) :
    Calls Try.prog 25 #[.slice (some ⟨g, 0, none⟩) L.length cap, .int .i64 1] w fun e w' => e = .returned (.int .i64 (1 + (L.length : Int))) ∧ But g w w' ∧ RowT w' g (marksL L.length) := by
  go_enter Try.func25, Try.ntmps25
  go_wp2
  go_loopw [1, 5] (fun q i wr => ∃ j : Nat, j ≤ L.length ∧ i = .int .i64 (j : Int) ∧ q = .int .i64 (1 + (j : Int)) ∧ But g w wr ∧ Half wr g L j) (fun _ i _ => L.length - (intOf i).toNat)
  case atStart => exact ⟨0, Nat.zero_le _, rfl, rfl, But.refl _ _, half_zero h⟩
  case round =>
    obtain ⟨j, hj, rfl, rfl, hB, hH⟩ := hrel
    by_cases hlt : j < L.length
    · go_wp2_with fail
      refine (markText_any (1 + j) _ (by omega) (by omega)).mono ?_
      rintro e w1 ⟨rfl, hb⟩
      replace hB := hB.call (But.of_below (c := g) hb)
      replace hH := hH.call hb
      obtain ⟨⟨x, hx, _⟩, hfz⟩ := hH.2 j hlt
      generalize hmk : markT (1 + j) = mk
      have HM : Hid (markT (1 + j) = mk) := hmk
      clear hmk hb
      go_wp2
      go_roundw
      case rel => exact ⟨j + 1, by omega, by go_num, by go_num, hB.setCur _ _, by have := half_set hH hlt; rw [HM.out] at this; exact this⟩
      case measure => simp [intOf]; omega
    · have ej : j = L.length := by omega
      subst ej
      go_wp2
      go_ret
      exact ⟨rfl, hB, half_all hH⟩

/-- A text lies in its cell; below, all is as it was. -/
def HeldAt (B : Nat) (w0 : World) (g k : Nat) (t : ByteArray) (x : World) : Prop := x.cell? ⟨g, k, none⟩ = some (.string t) ∧ g < x.heap.size ∧ Below B w0 x
theorem HeldAt.call {B g k : Nat} {w0 W w1 : World} {t : ByteArray} (h : HeldAt B w0 g k t W) (hBW : B ≤ W.heap.size) (hb : Below W.heap.size W w1) : HeldAt B w0 g k t w1 :=
  ⟨(hb.cell (p := ⟨g, k, none⟩) h.2.1).trans h.1, Nat.lt_of_lt_of_le h.2.1 hb.size, h.2.2.trans (hb.mono hBW)⟩
theorem HeldAt.drew {B g k : Nat} {w0 W : World} {t : ByteArray} (h : HeldAt B w0 g k t W) : HeldAt B w0 g k t W.drew := ⟨h.1, h.2.1, h.2.2.drew⟩

set_option maxHeartbeats 400000 in
theorem markStringS_nil (a : Option Addr) (cap : Nat) (w : World) :
    Calls Try.prog 25 #[.slice a 0 cap, .int .i64 1] w fun e w' => e = .returned (.int .i64 1) ∧ w' = w := by
  go_enter Try.func25, Try.ntmps25
  go_wp2
  refine wp_loop_rounds 1 ?_
  rw [rounds_succ]
  go_wp2
  go_ret
  exact ⟨rfl, rfl⟩

end Go.Proofs.Ytjkjjjdihccccaa
