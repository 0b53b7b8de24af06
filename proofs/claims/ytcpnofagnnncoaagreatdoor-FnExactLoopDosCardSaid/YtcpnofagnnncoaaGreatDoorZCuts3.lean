/-
  Cuts3: Cuts, CutE, CutS, in one text.
-/
import Derived.Test.YtcpnofagnnncoaaGreatDoorZSignA
import Derived.Test.YtcpnofagnnncoaaGreatDoorZSignC
import Derived.Test.YtcpnofagnnncoaaGreatDoorZOwnA
import Derived.WalkKit
import Derived.OwnWalk
/-
  A page cut into signs: what the pieces are, as a relation of its bytes; it gives one answer at most.
-/
namespace Go.Proofs.YtcpnofagnnncoaaGreatDoor
open Go.RowKit

/-- Bytes that part signs; bytes that end a word. -/
def blankB (c : Int) : Bool := decide (c = 32) || decide (c = 10)
def stopB (c : Int) : Bool := decide (c = 32) || decide (c = 10) || decide (c = 40) || decide (c = 41) || decide (c = 39)
def quoteB (c : Int) : Bool := decide (c = 39)

/-- The first place from j on at which f says yes, among m of them; behind them where none does. -/
def firstN (f : Int → Bool) (s : ByteArray) : Nat → Nat → Nat
  | 0, j => j
  | m + 1, j => if f (byt s j) then j else firstN f s m (j + 1)
theorem first_is (f : Int → Bool) (s : ByteArray) : ∀ m j e, j ≤ e → e ≤ j + m → (∀ i, j ≤ i → i < e → f (byt s i) = false) → (e = j + m ∨ f (byt s e) = true) → firstN f s m j = e
  | 0, j, e, h1, h2, _, _ => by show j = e; omega
  | m + 1, j, e, h1, h2, h3, h4 => by
    show (if f (byt s j) then j else firstN f s m (j + 1)) = e
    by_cases q : j = e
    · subst q
      rcases h4 with h4 | h4
      · omega
      · rw [if_pos h4]
    · rw [if_neg (by rw [h3 j (Nat.le_refl _) (by omega)]; decide)]
      exact first_is f s m (j + 1) e (by omega) (by omega) (fun i a b => h3 i (by omega) b) (h4.imp (fun h => by omega) id)

/-- The place behind the sign that begins at k. -/
def endN (s : ByteArray) (k : Nat) : Nat :=
  if byt s k = 40 ∨ byt s k = 41 then k + 1
  else if byt s k = 39 then (if firstN quoteB s (s.size - (k + 1)) (k + 1) < s.size then firstN quoteB s (s.size - (k + 1)) (k + 1) + 1 else s.size)
  else firstN stopB s (s.size - (k + 1)) (k + 1)

theorem end_paren {s : ByteArray} {k : Nat} (h : byt s k = 40 ∨ byt s k = 41) : endN s k = k + 1 := by unfold endN; rw [if_pos h]
theorem end_quote {s : ByteArray} {k q : Nat} (h : byt s k = 39) (h1 : k < q) (h2 : q < s.size) (h3 : byt s q = 39) (h4 : ∀ i, k < i → i < q → byt s i ≠ 39) : endN s k = q + 1 := by
  have e : firstN quoteB s (s.size - (k + 1)) (k + 1) = q := first_is _ _ _ _ _ (by omega) (by omega) (fun i a b => decide_eq_false (h4 i (by omega) b)) (Or.inr (decide_eq_true h3))
  unfold endN
  rw [if_neg (by omega), if_pos h, e, if_pos h2]
theorem end_open {s : ByteArray} {k : Nat} (h : byt s k = 39) (h1 : k < s.size) (h4 : ∀ i, k < i → i < s.size → byt s i ≠ 39) : endN s k = s.size := by
  have e : firstN quoteB s (s.size - (k + 1)) (k + 1) = s.size := first_is _ _ _ _ _ (by omega) (by omega) (fun i a b => decide_eq_false (h4 i (by omega) b)) (Or.inl (by omega))
  unfold endN
  rw [if_neg (by omega), if_pos h, e, if_neg (by omega)]
theorem end_word {s : ByteArray} {k e : Nat} (h : stopB (byt s k) = false) (h1 : k < e) (h2 : e ≤ s.size) (h3 : ∀ i, k ≤ i → i < e → stopB (byt s i) = false) (h4 : e = s.size ∨ stopB (byt s e) = true) : endN s k = e := by
  have e' : firstN stopB s (s.size - (k + 1)) (k + 1) = e := first_is _ _ _ _ _ (by omega) (by omega) (fun i a b => h3 i (by omega) b) (h4.imp (fun h => by omega) id)
  simp [stopB] at h
  unfold endN
  rw [if_neg (by omega), if_neg (by omega), e']

theorem first_ge (f : Int → Bool) (s : ByteArray) : ∀ m j, j ≤ firstN f s m j
  | 0, j => Nat.le_refl _
  | m + 1, j => by
    show j ≤ (if f (byt s j) then j else firstN f s m (j + 1))
    split
    · exact Nat.le_refl _
    · have := first_ge f s m (j + 1); omega
theorem first_le (f : Int → Bool) (s : ByteArray) : ∀ m j, firstN f s m j ≤ j + m
  | 0, j => Nat.le_refl _
  | m + 1, j => by
    show (if f (byt s j) then j else firstN f s m (j + 1)) ≤ j + (m + 1)
    split
    · omega
    · have := first_le f s m (j + 1); omega
theorem endN_bd {s : ByteArray} {k : Nat} (h : k < s.size) : k < endN s k ∧ endN s k ≤ s.size := by
  have g1 := first_ge quoteB s (s.size - (k + 1)) (k + 1)
  have g2 := first_ge stopB s (s.size - (k + 1)) (k + 1)
  have g3 := first_le stopB s (s.size - (k + 1)) (k + 1)
  unfold endN
  split
  · omega
  · split
    · split <;> omega
    · omega

/-- The pieces, with as many steps as f allows. -/
def cutF : Nat → ByteArray → Nat → List ByteArray → Option (List ByteArray × Bool)
  | 0, _, _, _ => none
  | f + 1, s, k, acc =>
    if s.size ≤ k then some (acc, true)
    else if blankB (byt s k) then cutF f s (k + 1) acc
    else if acc.length = 2000 ∨ signB (s.extract k (endN s k)) = false then some ([], false)
    else cutF f s (endN s k) (acc ++ [s.extract k (endN s k)])
/-- From place k on, behind the pieces acc, the page comes out as r. -/
def Cuts (s : ByteArray) (k : Nat) (acc : List ByteArray) (r : List ByteArray × Bool) : Prop := ∃ f, cutF f s k acc = some r

theorem cutF_more : ∀ f s k acc r, cutF f s k acc = some r → cutF (f + 1) s k acc = some r
  | 0, s, k, acc, r, h => by cases h
  | f + 1, s, k, acc, r, h => by
    unfold cutF at h
    unfold cutF
    split
    · rename_i q; rwa [if_pos q] at h
    · rename_i q
      rw [if_neg q] at h
      split
      · rename_i q2
        rw [if_pos q2] at h
        exact cutF_more f s (k + 1) acc r h
      · rename_i q2
        rw [if_neg q2] at h
        split
        · rename_i q3; rwa [if_pos q3] at h
        · rename_i q3
          rw [if_neg q3] at h
          exact cutF_more f s _ _ r h
theorem cutF_plus (f g : Nat) (s : ByteArray) (k : Nat) (acc : List ByteArray) (r : List ByteArray × Bool) (h : cutF f s k acc = some r) : cutF (f + g) s k acc = some r := by
  induction g with
  | zero => exact h
  | succ g ih => exact cutF_more _ _ _ _ _ ih
theorem Cuts.one {s : ByteArray} {k : Nat} {acc : List ByteArray} {r r' : List ByteArray × Bool} (h : Cuts s k acc r) (h' : Cuts s k acc r') : r = r' := by
  obtain ⟨f, hf⟩ := h
  obtain ⟨g, hg⟩ := h'
  have h1 := cutF_plus f g s k acc r hf
  have h2 := cutF_plus g f s k acc r' hg
  rw [Nat.add_comm] at h2
  rw [h1] at h2
  exact Option.some.inj h2
theorem cuts_end {s : ByteArray} {k : Nat} (acc : List ByteArray) (h : s.size ≤ k) : Cuts s k acc (acc, true) := ⟨1, by unfold cutF; rw [if_pos h]⟩
theorem cuts_blank {s : ByteArray} {k : Nat} {acc : List ByteArray} {r : List ByteArray × Bool} (h : k < s.size) (hb : blankB (byt s k) = true) (hc : Cuts s (k + 1) acc r) : Cuts s k acc r := by
  obtain ⟨f, hf⟩ := hc
  exact ⟨f + 1, by unfold cutF; rw [if_neg (by omega), if_pos hb]; exact hf⟩
theorem cuts_bad {s : ByteArray} {k : Nat} {acc : List ByteArray} (h : k < s.size) (hb : blankB (byt s k) = false) (hc : acc.length = 2000 ∨ signB (s.extract k (endN s k)) = false) : Cuts s k acc ([], false) :=
  ⟨1, by unfold cutF; rw [if_neg (by omega), if_neg (by rw [hb]; decide), if_pos hc]⟩
theorem cuts_piece {s : ByteArray} {k : Nat} {acc : List ByteArray} {r : List ByteArray × Bool} (h : k < s.size) (hb : blankB (byt s k) = false) (hl : acc.length ≠ 2000) (hs : signB (s.extract k (endN s k)) = true)
    (hc : Cuts s (endN s k) (acc ++ [s.extract k (endN s k)]) r) : Cuts s k acc r := by
  obtain ⟨f, hf⟩ := hc
  exact ⟨f + 1, by unfold cutF; rw [if_neg (by omega), if_neg (by rw [hb]; decide), if_neg (by rw [hs]; simp [hl])]; exact hf⟩

end Go.Proofs.YtcpnofagnnncoaaGreatDoor

/-
  Where a sign ends, by the model; which bytes end a word, by the program.
-/
namespace Go.Proofs.YtcpnofagnnncoaaGreatDoor
open Go.RowKit

end Go.Proofs.YtcpnofagnnncoaaGreatDoor

/-
  SignsOf, the model's: what it hands back are the pieces, in memory of its own.
-/
namespace Go.Proofs.YtcpnofagnnncoaaGreatDoor
open Go.RowKit

/-- What a page comes out as. -/
def Page (s : ByteArray) (r : List ByteArray × Bool) : Prop := if s.size ≤ 20000 then Cuts s 0 [] r else r = ([], false)
theorem Page.one {s : ByteArray} {r r' : List ByteArray × Bool} (h : Page s r) (h' : Page s r') : r = r' := by
  unfold Page at h h'
  split at h
  · rename_i q; rw [if_pos q] at h'; exact h.one h'
  · rename_i q; rw [if_neg q] at h'; rw [h, h']

theorem Tryz.infoS : (Tryz.prog.info? 9).map (fun i => (i.zero, i.size, i.bytes)) = some (some (.string ⟨#[]⟩), 1, 16) := by kernel_rfl

end Go.Proofs.YtcpnofagnnncoaaGreatDoor
