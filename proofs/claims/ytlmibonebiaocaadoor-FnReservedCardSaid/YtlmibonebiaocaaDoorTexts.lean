/-
  TextOf, the program's and the model's, each by a contract: both make the same text of every Value.
-/
import Derived.Test.YtlmibonebiaocaaDoorNumbers
import Derived.Test.YtlmibonebiaocaaDoorDigits
import Derived.Test.YtlmibonebiaocaaDoorShelf
import Derived.Lib.AppendIntMem
namespace Go.Proofs.YtlmibonebiaocaaDoor
open Go.RowKit
attribute [local go_sem] asNoneOfNone asNoneOfNumber asNoneOfText asNumberOfNone asNumberOfNumber asNumberOfText asTextOfNone asTextOfNumber asTextOfText asPlaceOfNone asPlaceOfNumber asPlaceOfText asWrongOfNone asWrongOfNumber asWrongOfText

/-- The library's table of the powers of ten is as the program's text lays it. -/
def Tab (w : World) : Prop := Lib.TabIs Tryd.prog w "internal/strconv.uint64pow10" .u64 Lib.pow10Tab
theorem tab_call {w w' : World} (h : Tab w) (hb : Below w.heap.size w w') : Tab w' := Lib.tabBelow_of_tabIs h w' hb

theorem below_grow (w : World) (k : Nat) (os : Array Obj) : Below w.heap.size w (Sort.grow (w.drewN k) os) :=
  ⟨rfl, rfl, rfl, by simp, fun j hj => Sort.heap_grow_old (w.drewN k) os hj⟩

/-- strconv.FormatInt at base 10. -/
theorem format_any (n : Int) (w : World) (h0 : -999999999 ≤ n) (h1 : n ≤ 999999999) (ht : Tab w) :
    Calls Tryd.prog 56 #[.int .i64 n, .int .i64 10] w fun e w' => e = .returned (.string ⟨(Lib.itoa n).toArray⟩) ∧ Below w.heap.size w w' := by
  refine (Tryd.strconv_FormatInt_10 n (by omega) (by omega) w ht).mono ?_
  rintro e w' ⟨rfl, k, os, rfl⟩
  exact ⟨rfl, below_grow w k os⟩

/-- The text of a Value, and its fault. -/
def txt (k n : Int) (s : ByteArray) : ByteArray :=
  if okV k n s then (if k = 0 then ⟨#[110, 111, 110, 101]⟩ else if k = 1 then ⟨(Lib.itoa n).toArray⟩ else if k = 2 then s else ⟨#[]⟩) else ⟨#[]⟩
def txF (k n : Int) (s : ByteArray) : Int := if okV k n s = true ∧ k < 3 then 0 else 1

theorem okV_lo {k n : Int} {s : ByteArray} (h : okV k n s = true) : 0 ≤ k ∧ k ≤ 5 := by
  unfold okV at h
  by_cases h0 : k = 0
  · omega
  rw [if_neg h0] at h
  by_cases h1 : k = 1
  · omega
  rw [if_neg h1] at h
  by_cases h2 : k = 2
  · omega
  rw [if_neg h2] at h
  by_cases h3 : 3 ≤ k ∧ k ≤ 5
  · omega
  rw [if_neg h3] at h
  exact absurd h (by decide)
theorem okV_num {n : Int} {s : ByteArray} (h : okV 1 n s = true) : -999999999 ≤ n ∧ n ≤ 999999999 := by
  simp [okV, numB] at h
  exact h.1
theorem okV_text {n : Int} {s : ByteArray} (h : okV 2 n s = true) : s.size ≤ 60 := by
  simp [okV, textB] at h
  exact h.1.2

set_option maxHeartbeats 1000000 in
theorem textI_any (k n : Int) (s : ByteArray) (w : World) (hs : s.size ≤ maxLen) (ht : Tab w) :
    Calls Tryd.prog 50 #[.agg #[.int .i64 k, .int .i64 n, .string s]] w fun e w' => e = .returned (.tuple #[.string (txt k n s), .int .i64 (txF k n s)]) ∧ Below w.heap.size w w' := by
  cases ho : okV k n s
  · have HX : Hid (txt k n s = ⟨#[]⟩ ∧ txF k n s = 1) := by simp [Hid, txt, txF, ho]
    have HS : Hid (shapeV k n s = .iface 81 (.agg #[])) := by simp [Hid, shapeV, ho]
    clear ho
    go_enter Tryd.func50, Tryd.ntmps50
    go_wp2_with fail
    refine (shapeOf_any k n s _ hs).mono ?_
    rintro e w' ⟨rfl, hb⟩
    rw [HS.out]
    go_wp2
    go_ret2
    exact ⟨by rw [HX.out.1, HX.out.2]; rfl, (by repeat' (first | (with_reducible exact Below.refl _ _) | (with_reducible refine Below.drew ?_) | (with_reducible refine balloc ?_ _) | (with_reducible refine bset ?_ _ ?_) | (with_reducible refine bstep ?_ (by with_reducible assumption)) | go_size))⟩
  obtain ⟨hk0, hk5⟩ := okV_lo ho
  by_cases h0 : k = 0
  · subst h0
    have HX : Hid (txt 0 n s = ⟨#[110, 111, 110, 101]⟩ ∧ txF 0 n s = 0) := by simp [Hid, txt, txF, ho]
    have HS : Hid (shapeV 0 n s = .iface 72 (.agg #[])) := by simp [Hid, shapeV, ho, kindV]
    clear ho
    go_enter Tryd.func50, Tryd.ntmps50
    go_wp2_with fail
    refine (shapeOf_any 0 n s _ hs).mono ?_
    rintro e w' ⟨rfl, hb⟩
    rw [HS.out]
    go_wp2
    go_ret2
    exact ⟨by rw [HX.out.1, HX.out.2]; rfl, (by repeat' (first | (with_reducible exact Below.refl _ _) | (with_reducible refine Below.drew ?_) | (with_reducible refine balloc ?_ _) | (with_reducible refine bset ?_ _ ?_) | (with_reducible refine bstep ?_ (by with_reducible assumption)) | go_size))⟩
  by_cases h1 : k = 1
  · subst h1
    obtain ⟨hn0, hn1⟩ := okV_num ho
    have HX : Hid (txt 1 n s = ⟨(Lib.itoa n).toArray⟩ ∧ txF 1 n s = 0) := by simp [Hid, txt, txF, ho]
    have HS : Hid (shapeV 1 n s = .iface 74 (.agg #[.int .i64 n])) := by simp [Hid, shapeV, ho, kindV]
    clear ho
    go_enter Tryd.func50, Tryd.ntmps50
    go_wp2_with fail
    refine (shapeOf_any 1 n s _ hs).mono ?_
    rintro e w' ⟨rfl, hb⟩
    rw [HS.out]
    go_wp2_with fail
    refine (format_any n _ hn0 hn1 (tab_call ht (by repeat' (first | (with_reducible exact Below.refl _ _) | (with_reducible refine Below.drew ?_) | (with_reducible refine balloc ?_ _) | (with_reducible refine bset ?_ _ ?_) | (with_reducible refine bstep ?_ (by with_reducible assumption)) | go_size)))).mono ?_
    rintro e w2 ⟨rfl, hb2⟩
    go_wp2
    go_ret2
    exact ⟨by rw [HX.out.1, HX.out.2]; rfl, (by repeat' (first | (with_reducible exact Below.refl _ _) | (with_reducible refine Below.drew ?_) | (with_reducible refine balloc ?_ _) | (with_reducible refine bset ?_ _ ?_) | (with_reducible refine bstep ?_ (by with_reducible assumption)) | go_size))⟩
  by_cases h2 : k = 2
  · subst h2
    have HX : Hid (txt 2 n s = s ∧ txF 2 n s = 0) := by simp [Hid, txt, txF, ho]
    have HS : Hid (shapeV 2 n s = .iface 77 (.agg #[.string s])) := by simp [Hid, shapeV, ho, kindV]
    clear ho
    go_enter Tryd.func50, Tryd.ntmps50
    go_wp2_with fail
    refine (shapeOf_any 2 n s _ hs).mono ?_
    rintro e w' ⟨rfl, hb⟩
    rw [HS.out]
    go_wp2
    go_ret2
    exact ⟨by rw [HX.out.1, HX.out.2]; rfl, (by repeat' (first | (with_reducible exact Below.refl _ _) | (with_reducible refine Below.drew ?_) | (with_reducible refine balloc ?_ _) | (with_reducible refine bset ?_ _ ?_) | (with_reducible refine bstep ?_ (by with_reducible assumption)) | go_size))⟩
  · have HX : Hid (txt k n s = ⟨#[]⟩ ∧ txF k n s = 1) := by
      unfold Hid txt txF
      rw [if_pos ho, if_neg h0, if_neg h1, if_neg h2, if_neg (by omega)]
      exact ⟨rfl, rfl⟩
    have HS : Hid (shapeV k n s = .iface 87 (.agg #[.int .i64 k, .int .i64 n])) := by
      unfold Hid shapeV kindV
      rw [if_pos ho, if_neg h0, if_neg h1, if_neg h2, if_pos ⟨by omega, by omega⟩]
    clear ho
    go_enter Tryd.func50, Tryd.ntmps50
    go_wp2_with fail
    refine (shapeOf_any k n s _ hs).mono ?_
    rintro e w' ⟨rfl, hb⟩
    rw [HS.out]
    go_wp2
    go_ret2
    exact ⟨by rw [HX.out.1, HX.out.2]; rfl, (by repeat' (first | (with_reducible exact Below.refl _ _) | (with_reducible refine Below.drew ?_) | (with_reducible refine balloc ?_ _) | (with_reducible refine bset ?_ _ ?_) | (with_reducible refine bstep ?_ (by with_reducible assumption)) | go_size))⟩

end Go.Proofs.YtlmibonebiaocaaDoor
