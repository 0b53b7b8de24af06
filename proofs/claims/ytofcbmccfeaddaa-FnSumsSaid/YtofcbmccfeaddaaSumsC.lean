/-
  What the law of sums goes through, at two Values of which one is no number, and at two numbers: the contracts of Plus, Less, Times and Below, written out.
-/
import Derived.Test.YtofcbmccfeaddaaLawSame
import Derived.Test.YtofcbmccfeaddaaDrawX
namespace Go.Proofs.Ytofcbmccfeaddaa
open Go.RowKit

/-- What the law has laid, block by block. -/
def Keeps (L : List (Nat × Value × Value × Value)) (x : World) : Prop := ∀ t ∈ L, Tri t.1 t.2.1 t.2.2.1 t.2.2.2 x
theorem Keeps.call {L : List (Nat × Value × Value × Value)} {W w1 : World} (h : Keeps L W) (hb : Below W.heap.size W w1) : Keeps L w1 := fun t ht => (h t ht).call hb
theorem Keeps.push {L : List (Nat × Value × Value × Value)} {W : World} (h : Keeps L W) (v0 v1 v2 : Value) (T : TypeId) : Keeps ((W.heap.size, v0, v1, v2) :: L) (W.alloc (.cells #[v0, v1, v2] T)) := fun t ht => by
  rcases List.mem_cons.1 ht with rfl | ht
  · exact tri0 W v0 v1 v2 T
  · exact (h t ht).alloc _
theorem Keeps.drew {L : List (Nat × Value × Value × Value)} {W : World} (h : Keeps L W) : Keeps L W.drew := h
theorem Keeps.get {L : List (Nat × Value × Value × Value)} {x : World} (h : Keeps L x) {B : Nat} {v0 v1 v2 : Value} (hm : (B, v0, v1, v2) ∈ L) : Tri B v0 v1 v2 x := h _ hm
theorem keeps0 (w : World) : Keeps [] w := fun t ht => by cases ht

theorem two_yes {k n k' n' : Int} {s s' : ByteArray} (h : two k n s k' n' s' = true) : k = 1 ∧ s = ⟨#[]⟩ ∧ (-999999999 ≤ n ∧ n ≤ 999999999) ∧ k' = 1 ∧ s' = ⟨#[]⟩ ∧ (-999999999 ≤ n' ∧ n' ≤ 999999999) := by
  simp only [two, Bool.and_eq_true] at h
  obtain ⟨h1, h2⟩ := h
  have b1 := isN_bd h1
  have b2 := isN_bd h2
  simp only [isN, Bool.and_eq_true, decide_eq_true_eq] at h1 h2
  obtain ⟨rfl, h1⟩ := h1
  obtain ⟨rfl, h2⟩ := h2
  simp only [okV, Int.reduceEq, if_false, if_true, Bool.and_eq_true] at h1 h2
  refine ⟨rfl, ?_, b1, rfl, ?_, b2⟩
  · rcases em_cases s with h | ⟨_, h⟩
    · exact h
    · rw [h] at h1; exact absurd h1.2 (by decide)
  · rcases em_cases s' with h | ⟨_, h⟩
    · exact h
    · rw [h] at h2; exact absurd h2.2 (by decide)

theorem two_num {n n' : Int} (h0 : -999999999 ≤ n) (h1 : n ≤ 999999999) (h2 : -999999999 ≤ n') (h3 : n' ≤ 999999999) : two 1 n ⟨#[]⟩ 1 n' ⟨#[]⟩ = true := by
  simp [two, isN, okV, emB, numB, h0, h1, h2, h3]
theorem okV_yes {n : Int} (h0 : -999999999 ≤ n) (h1 : n ≤ 999999999) : okV 1 n ⟨#[]⟩ = true := by
  simp [okV, emB, numB, h0, h1]

theorem plusI_no (k n k' n' : Int) (s s' : ByteArray) (w : World) (hs : s.size ≤ maxLen) (hs' : s'.size ≤ maxLen) (h : two k n s k' n' s' = false) :
    Calls Try.prog 13 #[.agg #[.int .i64 k, .int .i64 n, .string s], .agg #[.int .i64 k', .int .i64 n', .string s']] w fun e w' => e = .returned (.tuple #[.agg #[.int .i64 0, .int .i64 0, .string ⟨#[]⟩], .int .i64 1]) ∧ Below w.heap.size w w' := by
  have hh := plusI_any k n k' n' s s' w hs hs'
  rw [h] at hh
  exact hh
theorem plusI_yes (n n' : Int) (w : World) (h0 : -999999999 ≤ n) (h1 : n ≤ 999999999) (h2 : -999999999 ≤ n') (h3 : n' ≤ 999999999) :
    Calls Try.prog 13 #[.agg #[.int .i64 1, .int .i64 n, .string ⟨#[]⟩], .agg #[.int .i64 1, .int .i64 n', .string ⟨#[]⟩]] w fun e w' => e = .returned (.tuple #[.agg #[.int .i64 (mK (n + n')), .int .i64 (mN (n + n')), .string ⟨#[]⟩], .int .i64 (mF (n + n'))]) ∧ Below w.heap.size w w' := by
  have hh := plusI_any 1 n 1 n' ⟨#[]⟩ ⟨#[]⟩ w (by decide) (by decide)
  rw [two_num h0 h1 h2 h3] at hh
  exact hh
theorem plusS_no (k n k' n' : Int) (s s' : ByteArray) (w : World) (hs : s.size ≤ maxLen) (hs' : s'.size ≤ maxLen) (h : two k n s k' n' s' = false) :
    Calls Try.prog 19 #[.agg #[.int .i64 k, .int .i64 n, .string s], .agg #[.int .i64 k', .int .i64 n', .string s']] w fun e w' => e = .returned (.tuple #[.agg #[.int .i64 0, .int .i64 0, .string ⟨#[]⟩], .int .i64 1]) ∧ Below w.heap.size w w' := by
  have hh := plusS_any k n k' n' s s' w hs hs'
  rw [h] at hh
  exact hh
theorem plusS_yes (n n' : Int) (w : World) (h0 : -999999999 ≤ n) (h1 : n ≤ 999999999) (h2 : -999999999 ≤ n') (h3 : n' ≤ 999999999) :
    Calls Try.prog 19 #[.agg #[.int .i64 1, .int .i64 n, .string ⟨#[]⟩], .agg #[.int .i64 1, .int .i64 n', .string ⟨#[]⟩]] w fun e w' => e = .returned (.tuple #[.agg #[.int .i64 (mK (n + n')), .int .i64 (mN (n + n')), .string ⟨#[]⟩], .int .i64 (mF (n + n'))]) ∧ Below w.heap.size w w' := by
  have hh := plusS_any 1 n 1 n' ⟨#[]⟩ ⟨#[]⟩ w (by decide) (by decide)
  rw [two_num h0 h1 h2 h3] at hh
  exact hh
theorem lessI_no (k n k' n' : Int) (s s' : ByteArray) (w : World) (hs : s.size ≤ maxLen) (hs' : s'.size ≤ maxLen) (h : two k n s k' n' s' = false) :
    Calls Try.prog 14 #[.agg #[.int .i64 k, .int .i64 n, .string s], .agg #[.int .i64 k', .int .i64 n', .string s']] w fun e w' => e = .returned (.tuple #[.agg #[.int .i64 0, .int .i64 0, .string ⟨#[]⟩], .int .i64 1]) ∧ Below w.heap.size w w' := by
  have hh := lessI_any k n k' n' s s' w hs hs'
  rw [h] at hh
  exact hh
theorem lessI_yes (n n' : Int) (w : World) (h0 : -999999999 ≤ n) (h1 : n ≤ 999999999) (h2 : -999999999 ≤ n') (h3 : n' ≤ 999999999) :
    Calls Try.prog 14 #[.agg #[.int .i64 1, .int .i64 n, .string ⟨#[]⟩], .agg #[.int .i64 1, .int .i64 n', .string ⟨#[]⟩]] w fun e w' => e = .returned (.tuple #[.agg #[.int .i64 (mK (n - n')), .int .i64 (mN (n - n')), .string ⟨#[]⟩], .int .i64 (mF (n - n'))]) ∧ Below w.heap.size w w' := by
  have hh := lessI_any 1 n 1 n' ⟨#[]⟩ ⟨#[]⟩ w (by decide) (by decide)
  rw [two_num h0 h1 h2 h3] at hh
  exact hh
theorem lessS_no (k n k' n' : Int) (s s' : ByteArray) (w : World) (hs : s.size ≤ maxLen) (hs' : s'.size ≤ maxLen) (h : two k n s k' n' s' = false) :
    Calls Try.prog 24 #[.agg #[.int .i64 k, .int .i64 n, .string s], .agg #[.int .i64 k', .int .i64 n', .string s']] w fun e w' => e = .returned (.tuple #[.agg #[.int .i64 0, .int .i64 0, .string ⟨#[]⟩], .int .i64 1]) ∧ Below w.heap.size w w' := by
  have hh := lessS_any k n k' n' s s' w hs hs'
  rw [h] at hh
  exact hh
theorem lessS_yes (n n' : Int) (w : World) (h0 : -999999999 ≤ n) (h1 : n ≤ 999999999) (h2 : -999999999 ≤ n') (h3 : n' ≤ 999999999) :
    Calls Try.prog 24 #[.agg #[.int .i64 1, .int .i64 n, .string ⟨#[]⟩], .agg #[.int .i64 1, .int .i64 n', .string ⟨#[]⟩]] w fun e w' => e = .returned (.tuple #[.agg #[.int .i64 (mK (n - n')), .int .i64 (mN (n - n')), .string ⟨#[]⟩], .int .i64 (mF (n - n'))]) ∧ Below w.heap.size w w' := by
  have hh := lessS_any 1 n 1 n' ⟨#[]⟩ ⟨#[]⟩ w (by decide) (by decide)
  rw [two_num h0 h1 h2 h3] at hh
  exact hh
theorem timesI_no (k n k' n' : Int) (s s' : ByteArray) (w : World) (hs : s.size ≤ maxLen) (hs' : s'.size ≤ maxLen) (h : two k n s k' n' s' = false) :
    Calls Try.prog 15 #[.agg #[.int .i64 k, .int .i64 n, .string s], .agg #[.int .i64 k', .int .i64 n', .string s']] w fun e w' => e = .returned (.tuple #[.agg #[.int .i64 0, .int .i64 0, .string ⟨#[]⟩], .int .i64 1]) ∧ Below w.heap.size w w' := by
  have hh := timesI_any k n k' n' s s' w hs hs'
  rw [h] at hh
  exact hh
theorem timesI_yes (n n' : Int) (w : World) (h0 : -999999999 ≤ n) (h1 : n ≤ 999999999) (h2 : -999999999 ≤ n') (h3 : n' ≤ 999999999) :
    Calls Try.prog 15 #[.agg #[.int .i64 1, .int .i64 n, .string ⟨#[]⟩], .agg #[.int .i64 1, .int .i64 n', .string ⟨#[]⟩]] w fun e w' => e = .returned (.tuple #[.agg #[.int .i64 (mK (wrap64 (n * n'))), .int .i64 (mN (wrap64 (n * n'))), .string ⟨#[]⟩], .int .i64 (mF (wrap64 (n * n')))]) ∧ Below w.heap.size w w' := by
  have hh := timesI_any 1 n 1 n' ⟨#[]⟩ ⟨#[]⟩ w (by decide) (by decide)
  rw [two_num h0 h1 h2 h3] at hh
  exact hh
theorem timesS_no (k n k' n' : Int) (s s' : ByteArray) (w : World) (hs : s.size ≤ maxLen) (hs' : s'.size ≤ maxLen) (h : two k n s k' n' s' = false) :
    Calls Try.prog 25 #[.agg #[.int .i64 k, .int .i64 n, .string s], .agg #[.int .i64 k', .int .i64 n', .string s']] w fun e w' => e = .returned (.tuple #[.agg #[.int .i64 0, .int .i64 0, .string ⟨#[]⟩], .int .i64 1]) ∧ Below w.heap.size w w' := by
  have hh := timesS_any k n k' n' s s' w hs hs'
  rw [h] at hh
  exact hh
theorem timesS_yes (n n' : Int) (w : World) (h0 : -999999999 ≤ n) (h1 : n ≤ 999999999) (h2 : -999999999 ≤ n') (h3 : n' ≤ 999999999) :
    Calls Try.prog 25 #[.agg #[.int .i64 1, .int .i64 n, .string ⟨#[]⟩], .agg #[.int .i64 1, .int .i64 n', .string ⟨#[]⟩]] w fun e w' => e = .returned (.tuple #[.agg #[.int .i64 (mK (wrap64 (n * n'))), .int .i64 (mN (wrap64 (n * n'))), .string ⟨#[]⟩], .int .i64 (mF (wrap64 (n * n')))]) ∧ Below w.heap.size w w' := by
  have hh := timesS_any 1 n 1 n' ⟨#[]⟩ ⟨#[]⟩ w (by decide) (by decide)
  rw [two_num h0 h1 h2 h3] at hh
  exact hh
theorem belowI_no (k n k' n' : Int) (s s' : ByteArray) (w : World) (hs : s.size ≤ maxLen) (hs' : s'.size ≤ maxLen) (h : two k n s k' n' s' = false) :
    Calls Try.prog 16 #[.agg #[.int .i64 k, .int .i64 n, .string s], .agg #[.int .i64 k', .int .i64 n', .string s']] w fun e w' => e = .returned (.tuple #[.agg #[.int .i64 0, .int .i64 0, .string ⟨#[]⟩], .int .i64 1]) ∧ Below w.heap.size w w' := by
  have hh := belowI_any k n k' n' s s' w hs hs'
  rw [h] at hh
  exact hh
theorem belowI_yes (n n' : Int) (w : World) (h0 : -999999999 ≤ n) (h1 : n ≤ 999999999) (h2 : -999999999 ≤ n') (h3 : n' ≤ 999999999) :
    Calls Try.prog 16 #[.agg #[.int .i64 1, .int .i64 n, .string ⟨#[]⟩], .agg #[.int .i64 1, .int .i64 n', .string ⟨#[]⟩]] w fun e w' => e = .returned (.tuple #[.agg #[.int .i64 1, .int .i64 (bitN (decide (n < n'))), .string ⟨#[]⟩], .int .i64 0]) ∧ Below w.heap.size w w' := by
  have hh := belowI_any 1 n 1 n' ⟨#[]⟩ ⟨#[]⟩ w (by decide) (by decide)
  rw [two_num h0 h1 h2 h3] at hh
  exact hh
theorem belowS_no (k n k' n' : Int) (s s' : ByteArray) (w : World) (hs : s.size ≤ maxLen) (hs' : s'.size ≤ maxLen) (h : two k n s k' n' s' = false) :
    Calls Try.prog 26 #[.agg #[.int .i64 k, .int .i64 n, .string s], .agg #[.int .i64 k', .int .i64 n', .string s']] w fun e w' => e = .returned (.tuple #[.agg #[.int .i64 0, .int .i64 0, .string ⟨#[]⟩], .int .i64 1]) ∧ Below w.heap.size w w' := by
  have hh := belowS_any k n k' n' s s' w hs hs'
  rw [h] at hh
  exact hh
theorem belowS_yes (n n' : Int) (w : World) (h0 : -999999999 ≤ n) (h1 : n ≤ 999999999) (h2 : -999999999 ≤ n') (h3 : n' ≤ 999999999) :
    Calls Try.prog 26 #[.agg #[.int .i64 1, .int .i64 n, .string ⟨#[]⟩], .agg #[.int .i64 1, .int .i64 n', .string ⟨#[]⟩]] w fun e w' => e = .returned (.tuple #[.agg #[.int .i64 1, .int .i64 (bitN (decide (n < n'))), .string ⟨#[]⟩], .int .i64 0]) ∧ Below w.heap.size w w' := by
  have hh := belowS_any 1 n 1 n' ⟨#[]⟩ ⟨#[]⟩ w (by decide) (by decide)
  rw [two_num h0 h1 h2 h3] at hh
  exact hh

end Go.Proofs.Ytofcbmccfeaddaa
