/-
  Chapter 11, Begins, the program's and the model's: a list of texts that begins another one.
-/
import Derived.Test.YtnndfgceehfiiaaListB
import Derived.WalkLawsBesides
import Derived.Handy
namespace Go.Proofs.Ytnndfgceehfiiaa
open Go.RowKit

set_option maxHeartbeats 1000000 in
/-- How much they hold, from a number that is left on. -/
theorem szStringS_from (a : Option Addr) (cap : Nat) (L : List ByteArray) (y : Int) (hy0 : 0 ≤ y) (hy1 : y ≤ 1048576) (w : World) (h : ArgT w a L) (hL : L.length ≤ maxLen) :
    Calls Try.prog 5 #[.slice a L.length cap, .int .i64 y] w fun e w' => ∃ x : Int, e = .returned (.int .i64 x) ∧ x ≤ 1048576 ∧ (0 ≤ x → L.length ≤ 1048576) ∧ Below w.heap.size w w' := by
  unfold maxLen at hL
  by_cases hbig : y < (L.length : Int)
  · go_enter Try.func5, Try.ntmps5
    go_wp2
    go_ret
    exact ⟨_, rfl, by decide, fun h => absurd h (by decide), Below.refl _ _⟩
  go_enter Try.func5, Try.ntmps5
  go_wp2
  go_loopw [1, 5] (fun q i wr => ∃ (k : Nat) (x : Int), k ≤ L.length ∧ i = .int .i64 (k : Int) ∧ q = .int .i64 x ∧ 0 ≤ x ∧ x ≤ 1048576 ∧ Below w.heap.size w wr) (fun _ i _ => L.length - (intOf i).toNat)
  case atStart => exact ⟨0, y - (L.length : Int), Nat.zero_le _, rfl, rfl, by omega, by omega, Below.refl _ _⟩
  case round =>
    obtain ⟨k, x, hk, rfl, rfl, hx0, hx1, hB⟩ := hrel
    by_cases hlt : k < L.length
    · obtain ⟨sb, off, rfl, hs, hc, hm⟩ := h k hlt
      have hc' := (hB.cell (p := ⟨sb, off + k, none⟩) hs).trans hc
      unfold maxLen at hm
      clear hc
      generalize L[k] = t at hc' hm
      by_cases hneg : x - (t.size : Int) < 0
      · go_wp2
        go_ret
        exact ⟨_, rfl, by decide, fun h => absurd h (by decide), hB⟩
      · go_wp2
        go_roundw
        case rel => exact ⟨k + 1, x - (t.size : Int), by omega, by go_num, rfl, by omega, by omega, hB⟩
        case measure => simp [intOf]; omega
    · have e : k = L.length := by omega
      subst e
      go_wp2
      go_ret
      exact ⟨_, rfl, hx1, fun _ => by omega, hB⟩

/-- Are the texts of two lists the same, from place k on? -/
def sameB (K L : List ByteArray) : Bool := decide (K = L)
/-- Does the first one begin the second? -/
def begB (K L : List ByteArray) : Bool := decide (K = L.take K.length)

theorem same_len {K L : List ByteArray} (h : K.length ≠ L.length) : sameB K L = false := by
  unfold sameB
  exact decide_eq_false (fun e => h (by rw [e]))
theorem same_all {K L : List ByteArray} (hl : K.length = L.length) (h : ∀ i (h1 : i < K.length) (h2 : i < L.length), K[i] = L[i]) : sameB K L = true := by
  unfold sameB
  exact decide_eq_true (List.ext_getElem hl h)
theorem same_not {K L : List ByteArray} {k : Nat} (h1 : k < K.length) (h2 : k < L.length) (h : K[k] ≠ L[k]) : sameB K L = false := by
  unfold sameB
  exact decide_eq_false (fun e => h (by subst e; rfl))
theorem txt_ne' {s t : ByteArray} (h : s ≠ t) : (s.toList == t.toList) = false := by
  rw [beq_eq_false_iff_ne]
  intro e
  apply h
  rw [ByteArray.toList_eq, ByteArray.toList_eq] at e
  exact ByteArray.ext (Array.toList_inj.1 e)

set_option maxHeartbeats 1000000 in
theorem l11Same_any (a a' : Option Addr) (cap cap' : Nat) (K L : List ByteArray) (w : World) (h : ArgT w a K) (h' : ArgT w a' L) (hK : K.length ≤ 1048576) :
    Calls Try.prog 15 #[.slice a K.length cap, .slice a' L.length cap'] w fun e w' => e = .returned (.bool (sameB K L)) ∧ Below w.heap.size w w' := by
  by_cases hl : K.length = L.length
  · go_enter Try.func15, Try.ntmps15
    rw [hl]
    go_wp2
    go_loopw [5] (fun i wr => ∃ k : Nat, k ≤ L.length ∧ i = .int .i64 (k : Int) ∧ (∀ i (h1 : i < K.length) (h2 : i < L.length), i < k → K[i] = L[i]) ∧ Below w.heap.size w wr) (fun i _ => L.length - (intOf i).toNat)
    case atStart => exact ⟨0, Nat.zero_le _, rfl, fun i _ _ h => absurd h (Nat.not_lt_zero _), Below.refl _ _⟩
    case round =>
      obtain ⟨k, hk, rfl, hsm, hB⟩ := hrel
      by_cases hlt : k < L.length
      · obtain ⟨sb, off, rfl, hs, hc, _⟩ := h k (by omega)
        obtain ⟨sb', off', rfl, hs', hc', _⟩ := h' k hlt
        have c1 := (hB.cell (p := ⟨sb, off + k, none⟩) hs).trans hc
        have c2 := (hB.cell (p := ⟨sb', off' + k, none⟩) hs').trans hc'
        clear hc hc'
        by_cases he : K[k]'(by omega) = L[k]
        · have HS : Hid (∀ i (h1 : i < K.length) (h2 : i < L.length), i < k + 1 → K[i] = L[i]) := fun i h1 h2 h3 => by
            by_cases e : i = k
            · subst e; exact he
            · exact hsm i h1 h2 (by omega)
          rw [he] at c1
          generalize L[k] = t at c1 c2
          clear he hsm
          go_wp2
          go_quiet (fail)
          go_wp2
          go_roundw
          case rel => exact ⟨k + 1, by omega, by go_num, HS.out, ⟨hB.os, hB.tape, hB.output, hB.size, hB.block⟩⟩
          case measure => simp [intOf]; omega
        · have HN : Hid (sameB K L = false) := same_not (by omega) hlt he
          have hne := txt_ne' he
          generalize L[k] = t at c2 hne
          generalize K[k]'(by omega) = t' at c1 hne
          clear he hsm
          go_wp2
          go_quiet (fail)
          go_wp2
          go_ret
          exact ⟨by rw [HN.out]; rfl, ⟨hB.os, hB.tape, hB.output, hB.size, hB.block⟩⟩
      · have HN : Hid (sameB K L = true) := same_all hl (fun i h1 h2 => hsm i h1 h2 (by omega))
        clear hsm
        go_wp2
        go_ret
        exact ⟨by rw [HN.out]; rfl, hB⟩
  · have HN : Hid (sameB K L = false) := same_len hl
    have hl' : ¬ ((K.length : Int) = (L.length : Int)) := by omega
    go_enter Try.func15, Try.ntmps15
    go_wp2
    go_ret
    exact ⟨by rw [HN.out]; rfl, Below.refl _ _⟩

set_option maxHeartbeats 1000000 in
theorem equalI_any (a a' : Option Addr) (cap cap' : Nat) (K L : List ByteArray) (w : World) (h : ArgT w a K) (h' : ArgT w a' L) (hK : K.length ≤ 1048576) :
    Calls Try.prog 16 #[.slice a K.length cap, .slice a' L.length cap'] w fun e w' => e = .returned (.bool (sameB K L)) ∧ Below w.heap.size w w' := by
  by_cases hl : K.length = L.length
  · go_enter Try.func16, Try.ntmps16
    rw [hl]
    go_wp2
    go_loopw [13] (fun i wr => ∃ k : Nat, k ≤ L.length ∧ i = .int .i64 (k : Int) ∧ (∀ i (h1 : i < K.length) (h2 : i < L.length), i < k → K[i] = L[i]) ∧ Below w.heap.size w wr) (fun i _ => L.length - (intOf i).toNat)
    case atStart => exact ⟨0, Nat.zero_le _, rfl, fun i _ _ h => absurd h (Nat.not_lt_zero _), Below.refl _ _⟩
    case round =>
      obtain ⟨k, hk, rfl, hsm, hB⟩ := hrel
      by_cases hlt : k < L.length
      · obtain ⟨sb, off, rfl, hs, hc, _⟩ := h k (by omega)
        obtain ⟨sb', off', rfl, hs', hc', _⟩ := h' k hlt
        have c1 := (hB.cell (p := ⟨sb, off + k, none⟩) hs).trans hc
        have c2 := (hB.cell (p := ⟨sb', off' + k, none⟩) hs').trans hc'
        clear hc hc'
        by_cases he : K[k]'(by omega) = L[k]
        · have HS : Hid (∀ i (h1 : i < K.length) (h2 : i < L.length), i < k + 1 → K[i] = L[i]) := fun i h1 h2 h3 => by
            by_cases e : i = k
            · subst e; exact he
            · exact hsm i h1 h2 (by omega)
          rw [he] at c1
          generalize L[k] = t at c1 c2
          clear he hsm
          go_wp2
          go_quiet (fail)
          go_wp2
          go_roundw
          case rel => exact ⟨k + 1, by omega, by go_num, HS.out, ⟨hB.os, hB.tape, hB.output, hB.size, hB.block⟩⟩
          case measure => simp [intOf]; omega
        · have HN : Hid (sameB K L = false) := same_not (by omega) hlt he
          have hne := txt_ne' he
          generalize L[k] = t at c2 hne
          generalize K[k]'(by omega) = t' at c1 hne
          clear he hsm
          go_wp2
          go_quiet (fail)
          go_wp2
          go_ret
          exact ⟨by rw [HN.out]; rfl, ⟨hB.os, hB.tape, hB.output, hB.size, hB.block⟩⟩
      · have HN : Hid (sameB K L = true) := same_all hl (fun i h1 h2 => hsm i h1 h2 (by omega))
        clear hsm
        go_wp2
        go_ret
        exact ⟨by rw [HN.out]; rfl, hB⟩
  · have HN : Hid (sameB K L = false) := same_len hl
    have hl' : ¬ ((K.length : Int) = (L.length : Int)) := by omega
    go_enter Try.func16, Try.ntmps16
    go_wp2
    go_ret
    exact ⟨by rw [HN.out]; rfl, Below.refl _ _⟩

theorem ArgT.take {w : World} {a : Option Addr} {L : List ByteArray} (h : ArgT w a L) (k : Nat) : ArgT w a (L.take k) := fun i hi => by
  have hi' : i < L.length := by simp at hi; omega
  obtain ⟨sb, off, ha, hs, hc, hm⟩ := h i hi'
  refine ⟨sb, off, ha, hs, ?_, ?_⟩
  · rw [List.getElem_take]; exact hc
  · rw [List.getElem_take]; exact hm
theorem beg_long {K L : List ByteArray} (h : ¬ K.length ≤ L.length) : begB K L = false := by
  unfold begB
  exact decide_eq_false (fun e => h (by have := congrArg List.length e; simp at this; omega))

set_option maxHeartbeats 1000000 in
theorem beginsS_any (a a' : Option Addr) (cap cap' : Nat) (K L : List ByteArray) (w : World) (h : ArgT w a K) (h' : ArgT w a' L) (hK : K.length ≤ 1048576) (hcap : L.length ≤ cap') :
    Calls Try.prog 6 #[.slice a K.length cap, .slice a' L.length cap'] w fun e w' => e = .returned (.bool (begB K L)) ∧ Below w.heap.size w w' := by
  by_cases hl : K.length ≤ L.length
  · have hs := l11Same_any a a' cap cap' K (L.take K.length) w h (h'.take _) hK
    have HE : Hid (sameB K (L.take K.length) = begB K L) := rfl
    have hlen : (L.take K.length).length = K.length := by simp; omega
    rw [hlen] at hs
    clear hlen
    have hc1 : (K.length : Int) ≤ (cap' : Int) := by omega
    have hl1 : (K.length : Int) ≤ (L.length : Int) := by omega
    go_enter Try.func6, Try.ntmps6
    go_wp2_with fail
    refine hs.mono ?_
    rintro e w1 ⟨rfl, hb⟩
    rw [HE.out]
    go_wp2
    go_ret
    exact ⟨rfl, hb⟩
  · have HN : Hid (begB K L = false) := beg_long hl
    go_enter Try.func6, Try.ntmps6
    go_wp2
    go_ret
    exact ⟨by rw [HN.out]; rfl, Below.refl _ _⟩

set_option maxHeartbeats 1000000 in
theorem beginsI_any (a a' : Option Addr) (cap cap' : Nat) (K L : List ByteArray) (w : World) (h : ArgT w a K) (h' : ArgT w a' L) (hK : K.length ≤ 1048576) (hcap : L.length ≤ cap') :
    Calls Try.prog 8 #[.slice a K.length cap, .slice a' L.length cap'] w fun e w' => e = .returned (.bool (begB K L)) ∧ Below w.heap.size w w' := by
  by_cases hl : K.length ≤ L.length
  · have hs := equalI_any a a' cap cap' K (L.take K.length) w h (h'.take _) hK
    have HE : Hid (sameB K (L.take K.length) = begB K L) := rfl
    have hlen : (L.take K.length).length = K.length := by simp; omega
    rw [hlen] at hs
    clear hlen
    have hc1 : (K.length : Int) ≤ (cap' : Int) := by omega
    have hl1 : (K.length : Int) ≤ (L.length : Int) := by omega
    go_enter Try.func8, Try.ntmps8
    go_wp2_with fail
    refine hs.mono ?_
    rintro e w1 ⟨rfl, hb⟩
    rw [HE.out]
    go_wp2
    go_ret
    exact ⟨rfl, hb⟩
  · have HN : Hid (begB K L = false) := beg_long hl
    go_enter Try.func8, Try.ntmps8
    go_wp2
    go_ret
    exact ⟨by rw [HN.out]; rfl, Below.refl _ _⟩

end Go.Proofs.Ytnndfgceehfiiaa
