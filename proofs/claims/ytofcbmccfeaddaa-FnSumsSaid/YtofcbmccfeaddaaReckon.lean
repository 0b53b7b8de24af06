/-
  Plus, Less, Times, Below and Truth, the program's and the model's, each by a contract: both return the same at every two Values.
-/
import Derived.Test.YtofcbmccfeaddaaNumbers
namespace Go.Proofs.Ytofcbmccfeaddaa
open Go.RowKit

theorem isN_bd {k n : Int} {s : ByteArray} (h : isN k n s = true) : -999999999 ≤ n ∧ n ≤ 999999999 := by
  simp only [isN, Bool.and_eq_true, decide_eq_true_eq] at h
  obtain ⟨rfl, h⟩ := h
  simp [okV, numB] at h
  exact h.1

set_option maxHeartbeats 400000 in
theorem numbersOf_yes_yes (k n k' n' : Int) (s s' : ByteArray) (w : World) (hs : s.size ≤ maxLen) (hs' : s'.size ≤ maxLen) (ha : isN k n s = true) (hb' : isN k' n' s' = true) :
    Calls Try.prog 33 #[.agg #[.int .i64 k, .int .i64 n, .string s], .agg #[.int .i64 k', .int .i64 n', .string s']] w fun e w' =>
      e = .returned (.tuple #[.int .i64 n, .int .i64 n', .bool true]) ∧ Below w.heap.size w w' := by
  have HA : Hid (isN k n s = _) := ha
  have HB : Hid (isN k' n' s' = _) := hb'
  clear ha hb'
  go_enter Try.func33, Try.ntmps33
  go_wp2_with fail
  refine (numberOf_yes k n s _ hs HA.out).mono ?_
  rintro e w' ⟨rfl, hb⟩
  obtain ⟨hc, hf⟩ := bcell hb
  go_wp2_with fail
  refine (numberOf_yes k' n' s' _ hs' HB.out).mono ?_
  rintro e w2 ⟨rfl, hb2⟩
  go_wp2
  go_ret3
  exact ⟨rfl, (by repeat' (first | (with_reducible exact Below.refl _ _) | (with_reducible refine Below.drew ?_) | (with_reducible refine balloc ?_ _) | (with_reducible refine bset ?_ _ ?_) | (with_reducible refine bstep ?_ (by with_reducible assumption)) | go_size))⟩

set_option maxHeartbeats 400000 in
theorem numbersOf_yes_no (k n k' n' : Int) (s s' : ByteArray) (w : World) (hs : s.size ≤ maxLen) (hs' : s'.size ≤ maxLen) (ha : isN k n s = true) (hb' : isN k' n' s' = false) :
    Calls Try.prog 33 #[.agg #[.int .i64 k, .int .i64 n, .string s], .agg #[.int .i64 k', .int .i64 n', .string s']] w fun e w' =>
      e = .returned (.tuple #[.int .i64 n, .int .i64 0, .bool false]) ∧ Below w.heap.size w w' := by
  have HA : Hid (isN k n s = _) := ha
  have HB : Hid (isN k' n' s' = _) := hb'
  clear ha hb'
  go_enter Try.func33, Try.ntmps33
  go_wp2_with fail
  refine (numberOf_yes k n s _ hs HA.out).mono ?_
  rintro e w' ⟨rfl, hb⟩
  obtain ⟨hc, hf⟩ := bcell hb
  go_wp2_with fail
  refine (numberOf_no k' n' s' _ hs' HB.out).mono ?_
  rintro e w2 ⟨rfl, hb2⟩
  go_wp2
  go_ret3
  exact ⟨rfl, (by repeat' (first | (with_reducible exact Below.refl _ _) | (with_reducible refine Below.drew ?_) | (with_reducible refine balloc ?_ _) | (with_reducible refine bset ?_ _ ?_) | (with_reducible refine bstep ?_ (by with_reducible assumption)) | go_size))⟩

set_option maxHeartbeats 400000 in
theorem numbersOf_no_yes (k n k' n' : Int) (s s' : ByteArray) (w : World) (hs : s.size ≤ maxLen) (hs' : s'.size ≤ maxLen) (ha : isN k n s = false) (hb' : isN k' n' s' = true) :
    Calls Try.prog 33 #[.agg #[.int .i64 k, .int .i64 n, .string s], .agg #[.int .i64 k', .int .i64 n', .string s']] w fun e w' =>
      e = .returned (.tuple #[.int .i64 0, .int .i64 n', .bool false]) ∧ Below w.heap.size w w' := by
  have HA : Hid (isN k n s = _) := ha
  have HB : Hid (isN k' n' s' = _) := hb'
  clear ha hb'
  go_enter Try.func33, Try.ntmps33
  go_wp2_with fail
  refine (numberOf_no k n s _ hs HA.out).mono ?_
  rintro e w' ⟨rfl, hb⟩
  obtain ⟨hc, hf⟩ := bcell hb
  go_wp2_with fail
  refine (numberOf_yes k' n' s' _ hs' HB.out).mono ?_
  rintro e w2 ⟨rfl, hb2⟩
  go_wp2
  go_ret3
  exact ⟨rfl, (by repeat' (first | (with_reducible exact Below.refl _ _) | (with_reducible refine Below.drew ?_) | (with_reducible refine balloc ?_ _) | (with_reducible refine bset ?_ _ ?_) | (with_reducible refine bstep ?_ (by with_reducible assumption)) | go_size))⟩

set_option maxHeartbeats 400000 in
theorem numbersOf_no_no (k n k' n' : Int) (s s' : ByteArray) (w : World) (hs : s.size ≤ maxLen) (hs' : s'.size ≤ maxLen) (ha : isN k n s = false) (hb' : isN k' n' s' = false) :
    Calls Try.prog 33 #[.agg #[.int .i64 k, .int .i64 n, .string s], .agg #[.int .i64 k', .int .i64 n', .string s']] w fun e w' =>
      e = .returned (.tuple #[.int .i64 0, .int .i64 0, .bool false]) ∧ Below w.heap.size w w' := by
  have HA : Hid (isN k n s = _) := ha
  have HB : Hid (isN k' n' s' = _) := hb'
  clear ha hb'
  go_enter Try.func33, Try.ntmps33
  go_wp2_with fail
  refine (numberOf_no k n s _ hs HA.out).mono ?_
  rintro e w' ⟨rfl, hb⟩
  obtain ⟨hc, hf⟩ := bcell hb
  go_wp2_with fail
  refine (numberOf_no k' n' s' _ hs' HB.out).mono ?_
  rintro e w2 ⟨rfl, hb2⟩
  go_wp2
  go_ret3
  exact ⟨rfl, (by repeat' (first | (with_reducible exact Below.refl _ _) | (with_reducible refine Below.drew ?_) | (with_reducible refine balloc ?_ _) | (with_reducible refine bset ?_ _ ?_) | (with_reducible refine bstep ?_ (by with_reducible assumption)) | go_size))⟩

/-- Are both numbers? -/
def two (k n : Int) (s : ByteArray) (k' n' : Int) (s' : ByteArray) : Bool := isN k n s && isN k' n' s'
/-- What is answered of two Values: x where both are numbers, else y. -/
def pick (b : Bool) (x y : Int) : Int := if b then x else y

set_option maxHeartbeats 1000000 in
theorem plusI_any (k n k' n' : Int) (s s' : ByteArray) (w : World) (hs : s.size ≤ maxLen) (hs' : s'.size ≤ maxLen) :
    Calls Try.prog 13 #[.agg #[.int .i64 k, .int .i64 n, .string s], .agg #[.int .i64 k', .int .i64 n', .string s']] w fun e w' =>
      e = .returned (.tuple #[.agg #[.int .i64 (pick (two k n s k' n' s') (mK (n + n')) 0), .int .i64 (pick (two k n s k' n' s') (mN (n + n')) 0), .string ⟨#[]⟩], .int .i64 (pick (two k n s k' n' s') (mF (n + n')) 1)]) ∧ Below w.heap.size w w' := by
  cases ha : isN k n s <;> cases hb' : isN k' n' s'
  · have HV : Hid ((two k n s k' n' s') = false) := by simp [Hid, two, ha, hb']
    have HA : Hid (isN k n s = _) := ha
    have HB : Hid (isN k' n' s' = _) := hb'
    clear ha hb'
    go_enter Try.func13, Try.ntmps13
    go_wp2_with fail
    refine (numbersOf_no_no k n k' n' s s' _ hs hs' HA.out HB.out).mono ?_
    rintro e w' ⟨rfl, hb⟩
    obtain ⟨hc, hf⟩ := bcell hb
    go_wp2
    exact bodyPost_ret (by simp [results, Try.results13, go_sem, hc]; rfl) rfl ⟨by rw [HV.out]; rfl, (by repeat' (first | (with_reducible exact Below.refl _ _) | (with_reducible refine Below.drew ?_) | (with_reducible refine balloc ?_ _) | (with_reducible refine bset ?_ _ ?_) | (with_reducible refine bstep ?_ (by with_reducible assumption)) | go_size))⟩
  · have HV : Hid ((two k n s k' n' s') = false) := by simp [Hid, two, ha, hb']
    have HA : Hid (isN k n s = _) := ha
    have HB : Hid (isN k' n' s' = _) := hb'
    clear ha hb'
    go_enter Try.func13, Try.ntmps13
    go_wp2_with fail
    refine (numbersOf_no_yes k n k' n' s s' _ hs hs' HA.out HB.out).mono ?_
    rintro e w' ⟨rfl, hb⟩
    obtain ⟨hc, hf⟩ := bcell hb
    go_wp2
    exact bodyPost_ret (by simp [results, Try.results13, go_sem, hc]; rfl) rfl ⟨by rw [HV.out]; rfl, (by repeat' (first | (with_reducible exact Below.refl _ _) | (with_reducible refine Below.drew ?_) | (with_reducible refine balloc ?_ _) | (with_reducible refine bset ?_ _ ?_) | (with_reducible refine bstep ?_ (by with_reducible assumption)) | go_size))⟩
  · have HV : Hid ((two k n s k' n' s') = false) := by simp [Hid, two, ha, hb']
    have HA : Hid (isN k n s = _) := ha
    have HB : Hid (isN k' n' s' = _) := hb'
    clear ha hb'
    go_enter Try.func13, Try.ntmps13
    go_wp2_with fail
    refine (numbersOf_yes_no k n k' n' s s' _ hs hs' HA.out HB.out).mono ?_
    rintro e w' ⟨rfl, hb⟩
    obtain ⟨hc, hf⟩ := bcell hb
    go_wp2
    exact bodyPost_ret (by simp [results, Try.results13, go_sem, hc]; rfl) rfl ⟨by rw [HV.out]; rfl, (by repeat' (first | (with_reducible exact Below.refl _ _) | (with_reducible refine Below.drew ?_) | (with_reducible refine balloc ?_ _) | (with_reducible refine bset ?_ _ ?_) | (with_reducible refine bstep ?_ (by with_reducible assumption)) | go_size))⟩
  · have HV : Hid ((two k n s k' n' s') = true) := by simp [Hid, two, ha, hb']
    have HA : Hid (isN k n s = _) := ha
    have HB : Hid (isN k' n' s' = _) := hb'
    obtain ⟨a1, a2⟩ := isN_bd ha
    obtain ⟨b1, b2⟩ := isN_bd hb'
    clear ha hb'
    go_enter Try.func13, Try.ntmps13
    go_wp2_with fail
    refine (numbersOf_yes_yes k n k' n' s s' _ hs hs' HA.out HB.out).mono ?_
    rintro e w' ⟨rfl, hb⟩
    obtain ⟨hc, hf⟩ := bcell hb
    go_wp2_with fail
    refine (reckoned_any _ _).mono ?_
    rintro e w2 ⟨rfl, hb2⟩
    obtain ⟨hc2, hf2⟩ := bcell hb2
    have hz0 : w.heap.size + 1 + 1 < w'.heap.size := bsize hb _ (by simp)
    have hz1 : w.heap.size + 1 < w'.heap.size := by omega
    have hz2 : w.heap.size < w'.heap.size := by omega
    go_wp2
    exact bodyPost_ret (by simp [results, Try.results13, go_sem, hc, hz0, hc2]; rfl) rfl ⟨by rw [HV.out]; rfl, (by repeat' (first | (with_reducible exact Below.refl _ _) | (with_reducible refine Below.drew ?_) | (with_reducible refine balloc ?_ _) | (with_reducible refine bset ?_ _ ?_) | (with_reducible refine bstep ?_ (by with_reducible assumption)) | go_size))⟩

set_option maxHeartbeats 1000000 in
theorem plusS_any (k n k' n' : Int) (s s' : ByteArray) (w : World) (hs : s.size ≤ maxLen) (hs' : s'.size ≤ maxLen) :
    Calls Try.prog 19 #[.agg #[.int .i64 k, .int .i64 n, .string s], .agg #[.int .i64 k', .int .i64 n', .string s']] w fun e w' =>
      e = .returned (.tuple #[.agg #[.int .i64 (pick (two k n s k' n' s') (mK (n + n')) 0), .int .i64 (pick (two k n s k' n' s') (mN (n + n')) 0), .string ⟨#[]⟩], .int .i64 (pick (two k n s k' n' s') (mF (n + n')) 1)]) ∧ Below w.heap.size w w' := by
  cases ha : isN k n s <;> cases hb' : isN k' n' s'
  · have HV : Hid ((two k n s k' n' s') = false) := by simp [Hid, two, ha, hb']
    have HA : Hid (isN k n s = _) := ha
    have HB : Hid (isN k' n' s' = _) := hb'
    clear ha hb'
    go_enter Try.func19, Try.ntmps19
    go_wp2_with fail
    refine (l1IsNumber_any k n s _ hs).mono ?_
    rintro e w' ⟨rfl, hb⟩
    rw [HA.out]
    obtain ⟨hc, hf⟩ := bcell hb
    have hz0 : w.heap.size + 1 + 1 < w'.heap.size := bsize hb _ (by simp)
    have hz1 : w.heap.size + 1 < w'.heap.size := by omega
    have hz2 : w.heap.size < w'.heap.size := by omega
    go_wp2
    exact bodyPost_ret (by simp [results, Try.results19, go_sem, hc]; rfl) rfl ⟨by rw [HV.out]; rfl, (by repeat' (first | (with_reducible exact Below.refl _ _) | (with_reducible refine Below.drew ?_) | (with_reducible refine balloc ?_ _) | (with_reducible refine bset ?_ _ ?_) | (with_reducible refine bstep ?_ (by with_reducible assumption)) | go_size))⟩
  · have HV : Hid ((two k n s k' n' s') = false) := by simp [Hid, two, ha, hb']
    have HA : Hid (isN k n s = _) := ha
    have HB : Hid (isN k' n' s' = _) := hb'
    clear ha hb'
    go_enter Try.func19, Try.ntmps19
    go_wp2_with fail
    refine (l1IsNumber_any k n s _ hs).mono ?_
    rintro e w' ⟨rfl, hb⟩
    rw [HA.out]
    obtain ⟨hc, hf⟩ := bcell hb
    have hz0 : w.heap.size + 1 + 1 < w'.heap.size := bsize hb _ (by simp)
    have hz1 : w.heap.size + 1 < w'.heap.size := by omega
    have hz2 : w.heap.size < w'.heap.size := by omega
    go_wp2
    exact bodyPost_ret (by simp [results, Try.results19, go_sem, hc]; rfl) rfl ⟨by rw [HV.out]; rfl, (by repeat' (first | (with_reducible exact Below.refl _ _) | (with_reducible refine Below.drew ?_) | (with_reducible refine balloc ?_ _) | (with_reducible refine bset ?_ _ ?_) | (with_reducible refine bstep ?_ (by with_reducible assumption)) | go_size))⟩
  · have HV : Hid ((two k n s k' n' s') = false) := by simp [Hid, two, ha, hb']
    have HA : Hid (isN k n s = _) := ha
    have HB : Hid (isN k' n' s' = _) := hb'
    clear ha hb'
    go_enter Try.func19, Try.ntmps19
    go_wp2_with fail
    refine (l1IsNumber_any k n s _ hs).mono ?_
    rintro e w' ⟨rfl, hb⟩
    rw [HA.out]
    obtain ⟨hc, hf⟩ := bcell hb
    have hz0 : w.heap.size + 1 + 1 < w'.heap.size := bsize hb _ (by simp)
    have hz1 : w.heap.size + 1 < w'.heap.size := by omega
    have hz2 : w.heap.size < w'.heap.size := by omega
    go_wp2_with fail
    refine (l1IsNumber_any k' n' s' _ hs').mono ?_
    rintro e w3 ⟨rfl, hb3⟩
    rw [HB.out]
    obtain ⟨hc3, hf3⟩ := bcell hb3
    have hy0 : w.heap.size + 1 + 1 < w3.heap.size := bsize hb3 _ hz0
    have hy1 : w.heap.size + 1 < w3.heap.size := by omega
    have hy2 : w.heap.size < w3.heap.size := by omega
    go_wp2
    exact bodyPost_ret (by simp [results, Try.results19, go_sem, hc, hz0, hc3]; rfl) rfl ⟨by rw [HV.out]; rfl, (by repeat' (first | (with_reducible exact Below.refl _ _) | (with_reducible refine Below.drew ?_) | (with_reducible refine balloc ?_ _) | (with_reducible refine bset ?_ _ ?_) | (with_reducible refine bstep ?_ (by with_reducible assumption)) | go_size))⟩
  · have HV : Hid ((two k n s k' n' s') = true) := by simp [Hid, two, ha, hb']
    have HA : Hid (isN k n s = _) := ha
    have HB : Hid (isN k' n' s' = _) := hb'
    obtain ⟨a1, a2⟩ := isN_bd ha
    obtain ⟨b1, b2⟩ := isN_bd hb'
    clear ha hb'
    go_enter Try.func19, Try.ntmps19
    go_wp2_with fail
    refine (l1IsNumber_any k n s _ hs).mono ?_
    rintro e w' ⟨rfl, hb⟩
    rw [HA.out]
    obtain ⟨hc, hf⟩ := bcell hb
    have hz0 : w.heap.size + 1 + 1 < w'.heap.size := bsize hb _ (by simp)
    have hz1 : w.heap.size + 1 < w'.heap.size := by omega
    have hz2 : w.heap.size < w'.heap.size := by omega
    go_wp2_with fail
    refine (l1IsNumber_any k' n' s' _ hs').mono ?_
    rintro e w3 ⟨rfl, hb3⟩
    rw [HB.out]
    obtain ⟨hc3, hf3⟩ := bcell hb3
    have hy0 : w.heap.size + 1 + 1 < w3.heap.size := bsize hb3 _ hz0
    have hy1 : w.heap.size + 1 < w3.heap.size := by omega
    have hy2 : w.heap.size < w3.heap.size := by omega
    go_wp2_with fail
    refine (l1Made_any _ _).mono ?_
    rintro e w2 ⟨rfl, hb2⟩
    obtain ⟨hc2, hf2⟩ := bcell hb2
    go_wp2
    exact bodyPost_ret (by simp [results, Try.results19, go_sem, hc, hz0, hc3, hy0, hc2]; rfl) rfl ⟨by rw [HV.out]; rfl, (by repeat' (first | (with_reducible exact Below.refl _ _) | (with_reducible refine Below.drew ?_) | (with_reducible refine balloc ?_ _) | (with_reducible refine bset ?_ _ ?_) | (with_reducible refine bstep ?_ (by with_reducible assumption)) | go_size))⟩

set_option maxHeartbeats 1000000 in
theorem lessI_any (k n k' n' : Int) (s s' : ByteArray) (w : World) (hs : s.size ≤ maxLen) (hs' : s'.size ≤ maxLen) :
    Calls Try.prog 14 #[.agg #[.int .i64 k, .int .i64 n, .string s], .agg #[.int .i64 k', .int .i64 n', .string s']] w fun e w' =>
      e = .returned (.tuple #[.agg #[.int .i64 (pick (two k n s k' n' s') (mK (n - n')) 0), .int .i64 (pick (two k n s k' n' s') (mN (n - n')) 0), .string ⟨#[]⟩], .int .i64 (pick (two k n s k' n' s') (mF (n - n')) 1)]) ∧ Below w.heap.size w w' := by
  cases ha : isN k n s <;> cases hb' : isN k' n' s'
  · have HV : Hid ((two k n s k' n' s') = false) := by simp [Hid, two, ha, hb']
    have HA : Hid (isN k n s = _) := ha
    have HB : Hid (isN k' n' s' = _) := hb'
    clear ha hb'
    go_enter Try.func14, Try.ntmps14
    go_wp2_with fail
    refine (numbersOf_no_no k n k' n' s s' _ hs hs' HA.out HB.out).mono ?_
    rintro e w' ⟨rfl, hb⟩
    obtain ⟨hc, hf⟩ := bcell hb
    go_wp2
    exact bodyPost_ret (by simp [results, Try.results14, go_sem, hc]; rfl) rfl ⟨by rw [HV.out]; rfl, (by repeat' (first | (with_reducible exact Below.refl _ _) | (with_reducible refine Below.drew ?_) | (with_reducible refine balloc ?_ _) | (with_reducible refine bset ?_ _ ?_) | (with_reducible refine bstep ?_ (by with_reducible assumption)) | go_size))⟩
  · have HV : Hid ((two k n s k' n' s') = false) := by simp [Hid, two, ha, hb']
    have HA : Hid (isN k n s = _) := ha
    have HB : Hid (isN k' n' s' = _) := hb'
    clear ha hb'
    go_enter Try.func14, Try.ntmps14
    go_wp2_with fail
    refine (numbersOf_no_yes k n k' n' s s' _ hs hs' HA.out HB.out).mono ?_
    rintro e w' ⟨rfl, hb⟩
    obtain ⟨hc, hf⟩ := bcell hb
    go_wp2
    exact bodyPost_ret (by simp [results, Try.results14, go_sem, hc]; rfl) rfl ⟨by rw [HV.out]; rfl, (by repeat' (first | (with_reducible exact Below.refl _ _) | (with_reducible refine Below.drew ?_) | (with_reducible refine balloc ?_ _) | (with_reducible refine bset ?_ _ ?_) | (with_reducible refine bstep ?_ (by with_reducible assumption)) | go_size))⟩
  · have HV : Hid ((two k n s k' n' s') = false) := by simp [Hid, two, ha, hb']
    have HA : Hid (isN k n s = _) := ha
    have HB : Hid (isN k' n' s' = _) := hb'
    clear ha hb'
    go_enter Try.func14, Try.ntmps14
    go_wp2_with fail
    refine (numbersOf_yes_no k n k' n' s s' _ hs hs' HA.out HB.out).mono ?_
    rintro e w' ⟨rfl, hb⟩
    obtain ⟨hc, hf⟩ := bcell hb
    go_wp2
    exact bodyPost_ret (by simp [results, Try.results14, go_sem, hc]; rfl) rfl ⟨by rw [HV.out]; rfl, (by repeat' (first | (with_reducible exact Below.refl _ _) | (with_reducible refine Below.drew ?_) | (with_reducible refine balloc ?_ _) | (with_reducible refine bset ?_ _ ?_) | (with_reducible refine bstep ?_ (by with_reducible assumption)) | go_size))⟩
  · have HV : Hid ((two k n s k' n' s') = true) := by simp [Hid, two, ha, hb']
    have HA : Hid (isN k n s = _) := ha
    have HB : Hid (isN k' n' s' = _) := hb'
    obtain ⟨a1, a2⟩ := isN_bd ha
    obtain ⟨b1, b2⟩ := isN_bd hb'
    clear ha hb'
    go_enter Try.func14, Try.ntmps14
    go_wp2_with fail
    refine (numbersOf_yes_yes k n k' n' s s' _ hs hs' HA.out HB.out).mono ?_
    rintro e w' ⟨rfl, hb⟩
    obtain ⟨hc, hf⟩ := bcell hb
    go_wp2_with fail
    refine (reckoned_any _ _).mono ?_
    rintro e w2 ⟨rfl, hb2⟩
    obtain ⟨hc2, hf2⟩ := bcell hb2
    have hz0 : w.heap.size + 1 + 1 < w'.heap.size := bsize hb _ (by simp)
    have hz1 : w.heap.size + 1 < w'.heap.size := by omega
    have hz2 : w.heap.size < w'.heap.size := by omega
    go_wp2
    exact bodyPost_ret (by simp [results, Try.results14, go_sem, hc, hz0, hc2]; rfl) rfl ⟨by rw [HV.out]; rfl, (by repeat' (first | (with_reducible exact Below.refl _ _) | (with_reducible refine Below.drew ?_) | (with_reducible refine balloc ?_ _) | (with_reducible refine bset ?_ _ ?_) | (with_reducible refine bstep ?_ (by with_reducible assumption)) | go_size))⟩

set_option maxHeartbeats 1000000 in
theorem lessS_any (k n k' n' : Int) (s s' : ByteArray) (w : World) (hs : s.size ≤ maxLen) (hs' : s'.size ≤ maxLen) :
    Calls Try.prog 24 #[.agg #[.int .i64 k, .int .i64 n, .string s], .agg #[.int .i64 k', .int .i64 n', .string s']] w fun e w' =>
      e = .returned (.tuple #[.agg #[.int .i64 (pick (two k n s k' n' s') (mK (n - n')) 0), .int .i64 (pick (two k n s k' n' s') (mN (n - n')) 0), .string ⟨#[]⟩], .int .i64 (pick (two k n s k' n' s') (mF (n - n')) 1)]) ∧ Below w.heap.size w w' := by
  cases ha : isN k n s <;> cases hb' : isN k' n' s'
  · have HV : Hid ((two k n s k' n' s') = false) := by simp [Hid, two, ha, hb']
    have HA : Hid (isN k n s = _) := ha
    have HB : Hid (isN k' n' s' = _) := hb'
    clear ha hb'
    go_enter Try.func24, Try.ntmps24
    go_wp2_with fail
    refine (l1IsNumber_any k n s _ hs).mono ?_
    rintro e w' ⟨rfl, hb⟩
    rw [HA.out]
    obtain ⟨hc, hf⟩ := bcell hb
    have hz0 : w.heap.size + 1 + 1 < w'.heap.size := bsize hb _ (by simp)
    have hz1 : w.heap.size + 1 < w'.heap.size := by omega
    have hz2 : w.heap.size < w'.heap.size := by omega
    go_wp2
    exact bodyPost_ret (by simp [results, Try.results24, go_sem, hc]; rfl) rfl ⟨by rw [HV.out]; rfl, (by repeat' (first | (with_reducible exact Below.refl _ _) | (with_reducible refine Below.drew ?_) | (with_reducible refine balloc ?_ _) | (with_reducible refine bset ?_ _ ?_) | (with_reducible refine bstep ?_ (by with_reducible assumption)) | go_size))⟩
  · have HV : Hid ((two k n s k' n' s') = false) := by simp [Hid, two, ha, hb']
    have HA : Hid (isN k n s = _) := ha
    have HB : Hid (isN k' n' s' = _) := hb'
    clear ha hb'
    go_enter Try.func24, Try.ntmps24
    go_wp2_with fail
    refine (l1IsNumber_any k n s _ hs).mono ?_
    rintro e w' ⟨rfl, hb⟩
    rw [HA.out]
    obtain ⟨hc, hf⟩ := bcell hb
    have hz0 : w.heap.size + 1 + 1 < w'.heap.size := bsize hb _ (by simp)
    have hz1 : w.heap.size + 1 < w'.heap.size := by omega
    have hz2 : w.heap.size < w'.heap.size := by omega
    go_wp2
    exact bodyPost_ret (by simp [results, Try.results24, go_sem, hc]; rfl) rfl ⟨by rw [HV.out]; rfl, (by repeat' (first | (with_reducible exact Below.refl _ _) | (with_reducible refine Below.drew ?_) | (with_reducible refine balloc ?_ _) | (with_reducible refine bset ?_ _ ?_) | (with_reducible refine bstep ?_ (by with_reducible assumption)) | go_size))⟩
  · have HV : Hid ((two k n s k' n' s') = false) := by simp [Hid, two, ha, hb']
    have HA : Hid (isN k n s = _) := ha
    have HB : Hid (isN k' n' s' = _) := hb'
    clear ha hb'
    go_enter Try.func24, Try.ntmps24
    go_wp2_with fail
    refine (l1IsNumber_any k n s _ hs).mono ?_
    rintro e w' ⟨rfl, hb⟩
    rw [HA.out]
    obtain ⟨hc, hf⟩ := bcell hb
    have hz0 : w.heap.size + 1 + 1 < w'.heap.size := bsize hb _ (by simp)
    have hz1 : w.heap.size + 1 < w'.heap.size := by omega
    have hz2 : w.heap.size < w'.heap.size := by omega
    go_wp2_with fail
    refine (l1IsNumber_any k' n' s' _ hs').mono ?_
    rintro e w3 ⟨rfl, hb3⟩
    rw [HB.out]
    obtain ⟨hc3, hf3⟩ := bcell hb3
    have hy0 : w.heap.size + 1 + 1 < w3.heap.size := bsize hb3 _ hz0
    have hy1 : w.heap.size + 1 < w3.heap.size := by omega
    have hy2 : w.heap.size < w3.heap.size := by omega
    go_wp2
    exact bodyPost_ret (by simp [results, Try.results24, go_sem, hc, hz0, hc3]; rfl) rfl ⟨by rw [HV.out]; rfl, (by repeat' (first | (with_reducible exact Below.refl _ _) | (with_reducible refine Below.drew ?_) | (with_reducible refine balloc ?_ _) | (with_reducible refine bset ?_ _ ?_) | (with_reducible refine bstep ?_ (by with_reducible assumption)) | go_size))⟩
  · have HV : Hid ((two k n s k' n' s') = true) := by simp [Hid, two, ha, hb']
    have HA : Hid (isN k n s = _) := ha
    have HB : Hid (isN k' n' s' = _) := hb'
    obtain ⟨a1, a2⟩ := isN_bd ha
    obtain ⟨b1, b2⟩ := isN_bd hb'
    clear ha hb'
    go_enter Try.func24, Try.ntmps24
    go_wp2_with fail
    refine (l1IsNumber_any k n s _ hs).mono ?_
    rintro e w' ⟨rfl, hb⟩
    rw [HA.out]
    obtain ⟨hc, hf⟩ := bcell hb
    have hz0 : w.heap.size + 1 + 1 < w'.heap.size := bsize hb _ (by simp)
    have hz1 : w.heap.size + 1 < w'.heap.size := by omega
    have hz2 : w.heap.size < w'.heap.size := by omega
    go_wp2_with fail
    refine (l1IsNumber_any k' n' s' _ hs').mono ?_
    rintro e w3 ⟨rfl, hb3⟩
    rw [HB.out]
    obtain ⟨hc3, hf3⟩ := bcell hb3
    have hy0 : w.heap.size + 1 + 1 < w3.heap.size := bsize hb3 _ hz0
    have hy1 : w.heap.size + 1 < w3.heap.size := by omega
    have hy2 : w.heap.size < w3.heap.size := by omega
    go_wp2_with fail
    refine (l1Made_any _ _).mono ?_
    rintro e w2 ⟨rfl, hb2⟩
    obtain ⟨hc2, hf2⟩ := bcell hb2
    go_wp2
    exact bodyPost_ret (by simp [results, Try.results24, go_sem, hc, hz0, hc3, hy0, hc2]; rfl) rfl ⟨by rw [HV.out]; rfl, (by repeat' (first | (with_reducible exact Below.refl _ _) | (with_reducible refine Below.drew ?_) | (with_reducible refine balloc ?_ _) | (with_reducible refine bset ?_ _ ?_) | (with_reducible refine bstep ?_ (by with_reducible assumption)) | go_size))⟩

set_option maxHeartbeats 1000000 in
theorem timesI_any (k n k' n' : Int) (s s' : ByteArray) (w : World) (hs : s.size ≤ maxLen) (hs' : s'.size ≤ maxLen) :
    Calls Try.prog 15 #[.agg #[.int .i64 k, .int .i64 n, .string s], .agg #[.int .i64 k', .int .i64 n', .string s']] w fun e w' =>
      e = .returned (.tuple #[.agg #[.int .i64 (pick (two k n s k' n' s') (mK (wrap64 (n * n'))) 0), .int .i64 (pick (two k n s k' n' s') (mN (wrap64 (n * n'))) 0), .string ⟨#[]⟩], .int .i64 (pick (two k n s k' n' s') (mF (wrap64 (n * n'))) 1)]) ∧ Below w.heap.size w w' := by
  cases ha : isN k n s <;> cases hb' : isN k' n' s'
  · have HV : Hid ((two k n s k' n' s') = false) := by simp [Hid, two, ha, hb']
    have HA : Hid (isN k n s = _) := ha
    have HB : Hid (isN k' n' s' = _) := hb'
    clear ha hb'
    go_enter Try.func15, Try.ntmps15
    go_wp2_with fail
    refine (numbersOf_no_no k n k' n' s s' _ hs hs' HA.out HB.out).mono ?_
    rintro e w' ⟨rfl, hb⟩
    obtain ⟨hc, hf⟩ := bcell hb
    go_wp2
    exact bodyPost_ret (by simp [results, Try.results15, go_sem, hc]; rfl) rfl ⟨by rw [HV.out]; rfl, (by repeat' (first | (with_reducible exact Below.refl _ _) | (with_reducible refine Below.drew ?_) | (with_reducible refine balloc ?_ _) | (with_reducible refine bset ?_ _ ?_) | (with_reducible refine bstep ?_ (by with_reducible assumption)) | go_size))⟩
  · have HV : Hid ((two k n s k' n' s') = false) := by simp [Hid, two, ha, hb']
    have HA : Hid (isN k n s = _) := ha
    have HB : Hid (isN k' n' s' = _) := hb'
    clear ha hb'
    go_enter Try.func15, Try.ntmps15
    go_wp2_with fail
    refine (numbersOf_no_yes k n k' n' s s' _ hs hs' HA.out HB.out).mono ?_
    rintro e w' ⟨rfl, hb⟩
    obtain ⟨hc, hf⟩ := bcell hb
    go_wp2
    exact bodyPost_ret (by simp [results, Try.results15, go_sem, hc]; rfl) rfl ⟨by rw [HV.out]; rfl, (by repeat' (first | (with_reducible exact Below.refl _ _) | (with_reducible refine Below.drew ?_) | (with_reducible refine balloc ?_ _) | (with_reducible refine bset ?_ _ ?_) | (with_reducible refine bstep ?_ (by with_reducible assumption)) | go_size))⟩
  · have HV : Hid ((two k n s k' n' s') = false) := by simp [Hid, two, ha, hb']
    have HA : Hid (isN k n s = _) := ha
    have HB : Hid (isN k' n' s' = _) := hb'
    clear ha hb'
    go_enter Try.func15, Try.ntmps15
    go_wp2_with fail
    refine (numbersOf_yes_no k n k' n' s s' _ hs hs' HA.out HB.out).mono ?_
    rintro e w' ⟨rfl, hb⟩
    obtain ⟨hc, hf⟩ := bcell hb
    go_wp2
    exact bodyPost_ret (by simp [results, Try.results15, go_sem, hc]; rfl) rfl ⟨by rw [HV.out]; rfl, (by repeat' (first | (with_reducible exact Below.refl _ _) | (with_reducible refine Below.drew ?_) | (with_reducible refine balloc ?_ _) | (with_reducible refine bset ?_ _ ?_) | (with_reducible refine bstep ?_ (by with_reducible assumption)) | go_size))⟩
  · have HV : Hid ((two k n s k' n' s') = true) := by simp [Hid, two, ha, hb']
    have HA : Hid (isN k n s = _) := ha
    have HB : Hid (isN k' n' s' = _) := hb'
    clear ha hb'
    go_enter Try.func15, Try.ntmps15
    go_wp2_with fail
    refine (numbersOf_yes_yes k n k' n' s s' _ hs hs' HA.out HB.out).mono ?_
    rintro e w' ⟨rfl, hb⟩
    obtain ⟨hc, hf⟩ := bcell hb
    go_wp2_with fail
    refine (reckoned_any _ _).mono ?_
    rintro e w2 ⟨rfl, hb2⟩
    obtain ⟨hc2, hf2⟩ := bcell hb2
    have hz0 : w.heap.size + 1 + 1 < w'.heap.size := bsize hb _ (by simp)
    have hz1 : w.heap.size + 1 < w'.heap.size := by omega
    have hz2 : w.heap.size < w'.heap.size := by omega
    go_wp2
    exact bodyPost_ret (by simp [results, Try.results15, go_sem, hc, hz0, hc2]; rfl) rfl ⟨by rw [HV.out]; rfl, (by repeat' (first | (with_reducible exact Below.refl _ _) | (with_reducible refine Below.drew ?_) | (with_reducible refine balloc ?_ _) | (with_reducible refine bset ?_ _ ?_) | (with_reducible refine bstep ?_ (by with_reducible assumption)) | go_size))⟩

set_option maxHeartbeats 1000000 in
theorem timesS_any (k n k' n' : Int) (s s' : ByteArray) (w : World) (hs : s.size ≤ maxLen) (hs' : s'.size ≤ maxLen) :
    Calls Try.prog 25 #[.agg #[.int .i64 k, .int .i64 n, .string s], .agg #[.int .i64 k', .int .i64 n', .string s']] w fun e w' =>
      e = .returned (.tuple #[.agg #[.int .i64 (pick (two k n s k' n' s') (mK (wrap64 (n * n'))) 0), .int .i64 (pick (two k n s k' n' s') (mN (wrap64 (n * n'))) 0), .string ⟨#[]⟩], .int .i64 (pick (two k n s k' n' s') (mF (wrap64 (n * n'))) 1)]) ∧ Below w.heap.size w w' := by
  cases ha : isN k n s <;> cases hb' : isN k' n' s'
  · have HV : Hid ((two k n s k' n' s') = false) := by simp [Hid, two, ha, hb']
    have HA : Hid (isN k n s = _) := ha
    have HB : Hid (isN k' n' s' = _) := hb'
    clear ha hb'
    go_enter Try.func25, Try.ntmps25
    go_wp2_with fail
    refine (l1IsNumber_any k n s _ hs).mono ?_
    rintro e w' ⟨rfl, hb⟩
    rw [HA.out]
    obtain ⟨hc, hf⟩ := bcell hb
    have hz0 : w.heap.size + 1 + 1 < w'.heap.size := bsize hb _ (by simp)
    have hz1 : w.heap.size + 1 < w'.heap.size := by omega
    have hz2 : w.heap.size < w'.heap.size := by omega
    go_wp2
    exact bodyPost_ret (by simp [results, Try.results25, go_sem, hc]; rfl) rfl ⟨by rw [HV.out]; rfl, (by repeat' (first | (with_reducible exact Below.refl _ _) | (with_reducible refine Below.drew ?_) | (with_reducible refine balloc ?_ _) | (with_reducible refine bset ?_ _ ?_) | (with_reducible refine bstep ?_ (by with_reducible assumption)) | go_size))⟩
  · have HV : Hid ((two k n s k' n' s') = false) := by simp [Hid, two, ha, hb']
    have HA : Hid (isN k n s = _) := ha
    have HB : Hid (isN k' n' s' = _) := hb'
    clear ha hb'
    go_enter Try.func25, Try.ntmps25
    go_wp2_with fail
    refine (l1IsNumber_any k n s _ hs).mono ?_
    rintro e w' ⟨rfl, hb⟩
    rw [HA.out]
    obtain ⟨hc, hf⟩ := bcell hb
    have hz0 : w.heap.size + 1 + 1 < w'.heap.size := bsize hb _ (by simp)
    have hz1 : w.heap.size + 1 < w'.heap.size := by omega
    have hz2 : w.heap.size < w'.heap.size := by omega
    go_wp2
    exact bodyPost_ret (by simp [results, Try.results25, go_sem, hc]; rfl) rfl ⟨by rw [HV.out]; rfl, (by repeat' (first | (with_reducible exact Below.refl _ _) | (with_reducible refine Below.drew ?_) | (with_reducible refine balloc ?_ _) | (with_reducible refine bset ?_ _ ?_) | (with_reducible refine bstep ?_ (by with_reducible assumption)) | go_size))⟩
  · have HV : Hid ((two k n s k' n' s') = false) := by simp [Hid, two, ha, hb']
    have HA : Hid (isN k n s = _) := ha
    have HB : Hid (isN k' n' s' = _) := hb'
    clear ha hb'
    go_enter Try.func25, Try.ntmps25
    go_wp2_with fail
    refine (l1IsNumber_any k n s _ hs).mono ?_
    rintro e w' ⟨rfl, hb⟩
    rw [HA.out]
    obtain ⟨hc, hf⟩ := bcell hb
    have hz0 : w.heap.size + 1 + 1 < w'.heap.size := bsize hb _ (by simp)
    have hz1 : w.heap.size + 1 < w'.heap.size := by omega
    have hz2 : w.heap.size < w'.heap.size := by omega
    go_wp2_with fail
    refine (l1IsNumber_any k' n' s' _ hs').mono ?_
    rintro e w3 ⟨rfl, hb3⟩
    rw [HB.out]
    obtain ⟨hc3, hf3⟩ := bcell hb3
    have hy0 : w.heap.size + 1 + 1 < w3.heap.size := bsize hb3 _ hz0
    have hy1 : w.heap.size + 1 < w3.heap.size := by omega
    have hy2 : w.heap.size < w3.heap.size := by omega
    go_wp2
    exact bodyPost_ret (by simp [results, Try.results25, go_sem, hc, hz0, hc3]; rfl) rfl ⟨by rw [HV.out]; rfl, (by repeat' (first | (with_reducible exact Below.refl _ _) | (with_reducible refine Below.drew ?_) | (with_reducible refine balloc ?_ _) | (with_reducible refine bset ?_ _ ?_) | (with_reducible refine bstep ?_ (by with_reducible assumption)) | go_size))⟩
  · have HV : Hid ((two k n s k' n' s') = true) := by simp [Hid, two, ha, hb']
    have HA : Hid (isN k n s = _) := ha
    have HB : Hid (isN k' n' s' = _) := hb'
    clear ha hb'
    go_enter Try.func25, Try.ntmps25
    go_wp2_with fail
    refine (l1IsNumber_any k n s _ hs).mono ?_
    rintro e w' ⟨rfl, hb⟩
    rw [HA.out]
    obtain ⟨hc, hf⟩ := bcell hb
    have hz0 : w.heap.size + 1 + 1 < w'.heap.size := bsize hb _ (by simp)
    have hz1 : w.heap.size + 1 < w'.heap.size := by omega
    have hz2 : w.heap.size < w'.heap.size := by omega
    go_wp2_with fail
    refine (l1IsNumber_any k' n' s' _ hs').mono ?_
    rintro e w3 ⟨rfl, hb3⟩
    rw [HB.out]
    obtain ⟨hc3, hf3⟩ := bcell hb3
    have hy0 : w.heap.size + 1 + 1 < w3.heap.size := bsize hb3 _ hz0
    have hy1 : w.heap.size + 1 < w3.heap.size := by omega
    have hy2 : w.heap.size < w3.heap.size := by omega
    go_wp2_with fail
    refine (l1Made_any _ _).mono ?_
    rintro e w2 ⟨rfl, hb2⟩
    obtain ⟨hc2, hf2⟩ := bcell hb2
    go_wp2
    exact bodyPost_ret (by simp [results, Try.results25, go_sem, hc, hz0, hc3, hy0, hc2]; rfl) rfl ⟨by rw [HV.out]; rfl, (by repeat' (first | (with_reducible exact Below.refl _ _) | (with_reducible refine Below.drew ?_) | (with_reducible refine balloc ?_ _) | (with_reducible refine bset ?_ _ ?_) | (with_reducible refine bstep ?_ (by with_reducible assumption)) | go_size))⟩

set_option maxHeartbeats 1000000 in
theorem belowI_any (k n k' n' : Int) (s s' : ByteArray) (w : World) (hs : s.size ≤ maxLen) (hs' : s'.size ≤ maxLen) :
    Calls Try.prog 16 #[.agg #[.int .i64 k, .int .i64 n, .string s], .agg #[.int .i64 k', .int .i64 n', .string s']] w fun e w' =>
      e = .returned (.tuple #[.agg #[.int .i64 (pick (two k n s k' n' s') 1 0), .int .i64 (pick (two k n s k' n' s') (bitN (decide (n < n'))) 0), .string ⟨#[]⟩], .int .i64 (pick (two k n s k' n' s') 0 1)]) ∧ Below w.heap.size w w' := by
  cases ha : isN k n s <;> cases hb' : isN k' n' s'
  · have HV : Hid ((two k n s k' n' s') = false) := by simp [Hid, two, ha, hb']
    have HA : Hid (isN k n s = _) := ha
    have HB : Hid (isN k' n' s' = _) := hb'
    clear ha hb'
    go_enter Try.func16, Try.ntmps16
    go_wp2_with fail
    refine (numbersOf_no_no k n k' n' s s' _ hs hs' HA.out HB.out).mono ?_
    rintro e w' ⟨rfl, hb⟩
    obtain ⟨hc, hf⟩ := bcell hb
    go_wp2
    exact bodyPost_ret (by simp [results, Try.results16, go_sem, hc]; rfl) rfl ⟨by rw [HV.out]; rfl, (by repeat' (first | (with_reducible exact Below.refl _ _) | (with_reducible refine Below.drew ?_) | (with_reducible refine balloc ?_ _) | (with_reducible refine bset ?_ _ ?_) | (with_reducible refine bstep ?_ (by with_reducible assumption)) | go_size))⟩
  · have HV : Hid ((two k n s k' n' s') = false) := by simp [Hid, two, ha, hb']
    have HA : Hid (isN k n s = _) := ha
    have HB : Hid (isN k' n' s' = _) := hb'
    clear ha hb'
    go_enter Try.func16, Try.ntmps16
    go_wp2_with fail
    refine (numbersOf_no_yes k n k' n' s s' _ hs hs' HA.out HB.out).mono ?_
    rintro e w' ⟨rfl, hb⟩
    obtain ⟨hc, hf⟩ := bcell hb
    go_wp2
    exact bodyPost_ret (by simp [results, Try.results16, go_sem, hc]; rfl) rfl ⟨by rw [HV.out]; rfl, (by repeat' (first | (with_reducible exact Below.refl _ _) | (with_reducible refine Below.drew ?_) | (with_reducible refine balloc ?_ _) | (with_reducible refine bset ?_ _ ?_) | (with_reducible refine bstep ?_ (by with_reducible assumption)) | go_size))⟩
  · have HV : Hid ((two k n s k' n' s') = false) := by simp [Hid, two, ha, hb']
    have HA : Hid (isN k n s = _) := ha
    have HB : Hid (isN k' n' s' = _) := hb'
    clear ha hb'
    go_enter Try.func16, Try.ntmps16
    go_wp2_with fail
    refine (numbersOf_yes_no k n k' n' s s' _ hs hs' HA.out HB.out).mono ?_
    rintro e w' ⟨rfl, hb⟩
    obtain ⟨hc, hf⟩ := bcell hb
    go_wp2
    exact bodyPost_ret (by simp [results, Try.results16, go_sem, hc]; rfl) rfl ⟨by rw [HV.out]; rfl, (by repeat' (first | (with_reducible exact Below.refl _ _) | (with_reducible refine Below.drew ?_) | (with_reducible refine balloc ?_ _) | (with_reducible refine bset ?_ _ ?_) | (with_reducible refine bstep ?_ (by with_reducible assumption)) | go_size))⟩
  · have HV : Hid ((two k n s k' n' s') = true) := by simp [Hid, two, ha, hb']
    have HA : Hid (isN k n s = _) := ha
    have HB : Hid (isN k' n' s' = _) := hb'
    clear ha hb'
    go_enter Try.func16, Try.ntmps16
    go_wp2_with fail
    refine (numbersOf_yes_yes k n k' n' s s' _ hs hs' HA.out HB.out).mono ?_
    rintro e w' ⟨rfl, hb⟩
    obtain ⟨hc, hf⟩ := bcell hb
    go_wp2_with fail
    refine (oneOrNought_any _ _).mono ?_
    rintro e w2 ⟨rfl, hb2⟩
    obtain ⟨hc2, hf2⟩ := bcell hb2
    have hz0 : w.heap.size + 1 + 1 < w'.heap.size := bsize hb _ (by simp)
    have hz1 : w.heap.size + 1 < w'.heap.size := by omega
    have hz2 : w.heap.size < w'.heap.size := by omega
    go_wp2
    exact bodyPost_ret (by simp [results, Try.results16, go_sem, hc, hz0, hc2]; rfl) rfl ⟨by rw [HV.out]; rfl, (by repeat' (first | (with_reducible exact Below.refl _ _) | (with_reducible refine Below.drew ?_) | (with_reducible refine balloc ?_ _) | (with_reducible refine bset ?_ _ ?_) | (with_reducible refine bstep ?_ (by with_reducible assumption)) | go_size))⟩

set_option maxHeartbeats 1000000 in
theorem belowS_any (k n k' n' : Int) (s s' : ByteArray) (w : World) (hs : s.size ≤ maxLen) (hs' : s'.size ≤ maxLen) :
    Calls Try.prog 26 #[.agg #[.int .i64 k, .int .i64 n, .string s], .agg #[.int .i64 k', .int .i64 n', .string s']] w fun e w' =>
      e = .returned (.tuple #[.agg #[.int .i64 (pick (two k n s k' n' s') 1 0), .int .i64 (pick (two k n s k' n' s') (bitN (decide (n < n'))) 0), .string ⟨#[]⟩], .int .i64 (pick (two k n s k' n' s') 0 1)]) ∧ Below w.heap.size w w' := by
  cases ha : isN k n s <;> cases hb' : isN k' n' s'
  · have HV : Hid ((two k n s k' n' s') = false) := by simp [Hid, two, ha, hb']
    have HA : Hid (isN k n s = _) := ha
    have HB : Hid (isN k' n' s' = _) := hb'
    clear ha hb'
    go_enter Try.func26, Try.ntmps26
    go_wp2_with fail
    refine (l1IsNumber_any k n s _ hs).mono ?_
    rintro e w' ⟨rfl, hb⟩
    rw [HA.out]
    obtain ⟨hc, hf⟩ := bcell hb
    have hz0 : w.heap.size + 1 + 1 < w'.heap.size := bsize hb _ (by simp)
    have hz1 : w.heap.size + 1 < w'.heap.size := by omega
    have hz2 : w.heap.size < w'.heap.size := by omega
    go_wp2
    exact bodyPost_ret (by simp [results, Try.results26, go_sem, hc]; rfl) rfl ⟨by rw [HV.out]; rfl, (by repeat' (first | (with_reducible exact Below.refl _ _) | (with_reducible refine Below.drew ?_) | (with_reducible refine balloc ?_ _) | (with_reducible refine bset ?_ _ ?_) | (with_reducible refine bstep ?_ (by with_reducible assumption)) | go_size))⟩
  · have HV : Hid ((two k n s k' n' s') = false) := by simp [Hid, two, ha, hb']
    have HA : Hid (isN k n s = _) := ha
    have HB : Hid (isN k' n' s' = _) := hb'
    clear ha hb'
    go_enter Try.func26, Try.ntmps26
    go_wp2_with fail
    refine (l1IsNumber_any k n s _ hs).mono ?_
    rintro e w' ⟨rfl, hb⟩
    rw [HA.out]
    obtain ⟨hc, hf⟩ := bcell hb
    have hz0 : w.heap.size + 1 + 1 < w'.heap.size := bsize hb _ (by simp)
    have hz1 : w.heap.size + 1 < w'.heap.size := by omega
    have hz2 : w.heap.size < w'.heap.size := by omega
    go_wp2
    exact bodyPost_ret (by simp [results, Try.results26, go_sem, hc]; rfl) rfl ⟨by rw [HV.out]; rfl, (by repeat' (first | (with_reducible exact Below.refl _ _) | (with_reducible refine Below.drew ?_) | (with_reducible refine balloc ?_ _) | (with_reducible refine bset ?_ _ ?_) | (with_reducible refine bstep ?_ (by with_reducible assumption)) | go_size))⟩
  · have HV : Hid ((two k n s k' n' s') = false) := by simp [Hid, two, ha, hb']
    have HA : Hid (isN k n s = _) := ha
    have HB : Hid (isN k' n' s' = _) := hb'
    clear ha hb'
    go_enter Try.func26, Try.ntmps26
    go_wp2_with fail
    refine (l1IsNumber_any k n s _ hs).mono ?_
    rintro e w' ⟨rfl, hb⟩
    rw [HA.out]
    obtain ⟨hc, hf⟩ := bcell hb
    have hz0 : w.heap.size + 1 + 1 < w'.heap.size := bsize hb _ (by simp)
    have hz1 : w.heap.size + 1 < w'.heap.size := by omega
    have hz2 : w.heap.size < w'.heap.size := by omega
    go_wp2_with fail
    refine (l1IsNumber_any k' n' s' _ hs').mono ?_
    rintro e w3 ⟨rfl, hb3⟩
    rw [HB.out]
    obtain ⟨hc3, hf3⟩ := bcell hb3
    have hy0 : w.heap.size + 1 + 1 < w3.heap.size := bsize hb3 _ hz0
    have hy1 : w.heap.size + 1 < w3.heap.size := by omega
    have hy2 : w.heap.size < w3.heap.size := by omega
    go_wp2
    exact bodyPost_ret (by simp [results, Try.results26, go_sem, hc, hz0, hc3]; rfl) rfl ⟨by rw [HV.out]; rfl, (by repeat' (first | (with_reducible exact Below.refl _ _) | (with_reducible refine Below.drew ?_) | (with_reducible refine balloc ?_ _) | (with_reducible refine bset ?_ _ ?_) | (with_reducible refine bstep ?_ (by with_reducible assumption)) | go_size))⟩
  · have HV : Hid ((two k n s k' n' s') = true) := by simp [Hid, two, ha, hb']
    have HA : Hid (isN k n s = _) := ha
    have HB : Hid (isN k' n' s' = _) := hb'
    clear ha hb'
    go_enter Try.func26, Try.ntmps26
    go_wp2_with fail
    refine (l1IsNumber_any k n s _ hs).mono ?_
    rintro e w' ⟨rfl, hb⟩
    rw [HA.out]
    obtain ⟨hc, hf⟩ := bcell hb
    have hz0 : w.heap.size + 1 + 1 < w'.heap.size := bsize hb _ (by simp)
    have hz1 : w.heap.size + 1 < w'.heap.size := by omega
    have hz2 : w.heap.size < w'.heap.size := by omega
    go_wp2_with fail
    refine (l1IsNumber_any k' n' s' _ hs').mono ?_
    rintro e w3 ⟨rfl, hb3⟩
    rw [HB.out]
    obtain ⟨hc3, hf3⟩ := bcell hb3
    have hy0 : w.heap.size + 1 + 1 < w3.heap.size := bsize hb3 _ hz0
    have hy1 : w.heap.size + 1 < w3.heap.size := by omega
    have hy2 : w.heap.size < w3.heap.size := by omega
    go_wp2_with fail
    refine (l1Bit_any _ _).mono ?_
    rintro e w2 ⟨rfl, hb2⟩
    obtain ⟨hc2, hf2⟩ := bcell hb2
    go_wp2
    exact bodyPost_ret (by simp [results, Try.results26, go_sem, hc, hz0, hc3, hy0, hc2]; rfl) rfl ⟨by rw [HV.out]; rfl, (by repeat' (first | (with_reducible exact Below.refl _ _) | (with_reducible refine Below.drew ?_) | (with_reducible refine balloc ?_ _) | (with_reducible refine bset ?_ _ ?_) | (with_reducible refine bstep ?_ (by with_reducible assumption)) | go_size))⟩

set_option maxHeartbeats 400000 in
theorem truthI_any (k n : Int) (s : ByteArray) (w : World) (hs : s.size ≤ maxLen) :
    Calls Try.prog 18 #[.agg #[.int .i64 k, .int .i64 n, .string s]] w fun e w' =>
      e = .returned (.tuple #[.bool (isN k n s && (n != 0)), .int .i64 (pick (isN k n s) 0 1)]) ∧ Below w.heap.size w w' := by
  cases ha : isN k n s
  · have HA : Hid (isN k n s = _) := ha
    clear ha
    go_enter Try.func18, Try.ntmps18
    go_wp2_with fail
    refine (numberOf_no k n s _ hs HA.out).mono ?_
    rintro e w' ⟨rfl, hb⟩
    obtain ⟨hc, hf⟩ := bcell hb
    go_wp2
    go_ret2
    exact ⟨rfl, (by repeat' (first | (with_reducible exact Below.refl _ _) | (with_reducible refine Below.drew ?_) | (with_reducible refine balloc ?_ _) | (with_reducible refine bset ?_ _ ?_) | (with_reducible refine bstep ?_ (by with_reducible assumption)) | go_size))⟩
  · have HA : Hid (isN k n s = _) := ha
    clear ha
    go_enter Try.func18, Try.ntmps18
    go_wp2_with fail
    refine (numberOf_yes k n s _ hs HA.out).mono ?_
    rintro e w' ⟨rfl, hb⟩
    obtain ⟨hc, hf⟩ := bcell hb
    go_wp2
    go_ret2
    exact ⟨rfl, (by repeat' (first | (with_reducible exact Below.refl _ _) | (with_reducible refine Below.drew ?_) | (with_reducible refine balloc ?_ _) | (with_reducible refine bset ?_ _ ?_) | (with_reducible refine bstep ?_ (by with_reducible assumption)) | go_size))⟩

set_option maxHeartbeats 400000 in
theorem truthS_any (k n : Int) (s : ByteArray) (w : World) (hs : s.size ≤ maxLen) :
    Calls Try.prog 27 #[.agg #[.int .i64 k, .int .i64 n, .string s]] w fun e w' =>
      e = .returned (.tuple #[.bool (isN k n s && (n != 0)), .int .i64 (pick (isN k n s) 0 1)]) ∧ Below w.heap.size w w' := by
  cases ha : isN k n s
  · have HA : Hid (isN k n s = _) := ha
    clear ha
    go_enter Try.func27, Try.ntmps27
    go_wp2_with fail
    refine (l1IsNumber_any k n s _ hs).mono ?_
    rintro e w' ⟨rfl, hb⟩
    rw [HA.out]
    obtain ⟨hc, hf⟩ := bcell hb
    go_wp2
    go_ret2
    exact ⟨rfl, (by repeat' (first | (with_reducible exact Below.refl _ _) | (with_reducible refine Below.drew ?_) | (with_reducible refine balloc ?_ _) | (with_reducible refine bset ?_ _ ?_) | (with_reducible refine bstep ?_ (by with_reducible assumption)) | go_size))⟩
  · have HA : Hid (isN k n s = _) := ha
    clear ha
    go_enter Try.func27, Try.ntmps27
    go_wp2_with fail
    refine (l1IsNumber_any k n s _ hs).mono ?_
    rintro e w' ⟨rfl, hb⟩
    rw [HA.out]
    obtain ⟨hc, hf⟩ := bcell hb
    go_wp2
    go_ret2
    exact ⟨rfl, (by repeat' (first | (with_reducible exact Below.refl _ _) | (with_reducible refine Below.drew ?_) | (with_reducible refine balloc ?_ _) | (with_reducible refine bset ?_ _ ?_) | (with_reducible refine bstep ?_ (by with_reducible assumption)) | go_size))⟩

end Go.Proofs.Ytofcbmccfeaddaa
