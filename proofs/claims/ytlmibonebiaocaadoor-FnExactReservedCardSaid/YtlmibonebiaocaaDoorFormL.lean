/-
  Chapter 4 in plain words: where a sum, a deed, a PARAM ends, some of them behind one another; by so many steps at most.
-/
import Derived.Test.YtlmibonebiaocaaDoorListC
namespace Go.Proofs.YtlmibonebiaocaaDoor
open Go.RowKit

/-- The text at a place; empty where there is none. -/
def sgAt (L : List ByteArray) (i : Int) : ByteArray := if 0 ≤ i ∧ i < (L.length : Int) then L.getD i.toNat ⟨#[]⟩ else ⟨#[]⟩
theorem sgAt_in {L : List ByteArray} {i : Int} (h0 : 0 ≤ i) (h1 : i < (L.length : Int)) : sgAt L i = L[i.toNat]'(by omega) := by
  unfold sgAt
  rw [if_pos ⟨h0, h1⟩]
  simp [List.getD, show i.toNat < L.length by omega]
theorem sgAt_out {L : List ByteArray} {i : Int} (h : ¬ (0 ≤ i ∧ i < (L.length : Int))) : sgAt L i = ⟨#[]⟩ := by
  unfold sgAt
  rw [if_neg h]
/-- Is it just these bytes? -/
def isW (s : ByteArray) (c : List UInt8) : Bool := s.toList == c
theorem isW_nil (c : List UInt8) (h : c ≠ []) : isW ⟨#[]⟩ c = false := by
  unfold isW
  rw [ByteArray.toList_eq]
  simpa using h
theorem isW_eq {s : ByteArray} {c : List UInt8} (h : isW s c = true) : s = ⟨c.toArray⟩ := by
  unfold isW at h
  rw [ByteArray.toList_eq, beq_iff_eq] at h
  exact bytes_ext h
theorem isW_same (c : List UInt8) : isW ⟨c.toArray⟩ c = true := by
  unfold isW
  rw [ByteArray.toList_eq]
  simp
/-- The words that stand first in a form, and none. -/
def wordsL : List ByteArray := [⟨#[110, 111, 110, 101]⟩, ⟨#[102, 110]⟩, ⟨#[99, 97, 108, 108]⟩, ⟨#[116, 104, 105, 110, 103]⟩, ⟨#[103, 101, 116]⟩, ⟨#[106, 111, 105, 110]⟩, ⟨#[116, 97, 98, 108, 101]⟩, ⟨#[116, 103, 101, 116]⟩, ⟨#[104, 103, 101, 116]⟩, ⟨#[108, 101, 116]⟩, ⟨#[116, 97, 107, 101]⟩, ⟨#[104, 105, 100, 100, 101, 110]⟩, ⟨#[118, 97, 114, 115]⟩, ⟨#[115, 101, 116]⟩, ⟨#[100, 111]⟩, ⟨#[105, 102]⟩, ⟨#[119, 104, 105, 108, 101]⟩, ⟨#[102, 111, 114]⟩, ⟨#[115, 97, 121]⟩, ⟨#[98, 97, 99, 107]⟩, ⟨#[108, 101, 97, 118, 101]⟩, ⟨#[110, 101, 120, 116]⟩, ⟨#[112, 117, 116]⟩, ⟨#[114, 117, 110]⟩, ⟨#[104, 112, 117, 116]⟩, ⟨#[116, 112, 117, 116]⟩]
/-- Is it one of them? -/
def resB (s : ByteArray) : Bool := wordsL.any fun x => x.toList == s.toList
theorem resB_iff (s : ByteArray) : resB s = true ↔ s ∈ wordsL := by
  unfold resB
  rw [List.any_eq_true]
  constructor
  · rintro ⟨x, hx, he⟩
    rw [ByteArray.toList_eq, ByteArray.toList_eq, beq_iff_eq] at he
    rw [← bytes_ext he]
    exact hx
  · intro h
    exact ⟨s, h, by simp⟩
/-- A NAME. -/
def nmB (s : ByteArray) : Bool := nameB s && !resB s
/-- One of the six marks. -/
def opB (s : ByteArray) : Bool := opsL.any fun x => x.toList == s.toList
theorem opB_iff (s : ByteArray) : opB s = true ↔ s ∈ opsL := by
  unfold opB
  rw [List.any_eq_true]
  constructor
  · rintro ⟨x, hx, he⟩
    rw [ByteArray.toList_eq, ByteArray.toList_eq, beq_iff_eq] at he
    rw [← bytes_ext he]
    exact hx
  · intro h
    exact ⟨s, h, by simp⟩
/-- A sum that is one sign. -/
def oneB (s : ByteArray) : Bool := numerB s || quotB s || isW s [110, 111, 110, 101] || nmB s

/-- Behind just that sign. -/
def isE (L : List ByteArray) (i : Int) (c : List UInt8) : Int := if isW (sgAt L i) c then i + 1 else -1
/-- Behind a NAME. -/
def nmE (L : List ByteArray) (i : Int) : Int := if nmB (sgAt L i) then i + 1 else -1

/-- A sum: r tells where others end (0: a sum, 1: a deed that may declare, 2: one that may not, 3: a PARAM, 4 to 7: many sums, NAMEs, deeds, PARAMs, 8 to 11: none to three sums). -/
def sumS (L : List ByteArray) (r : Nat → Int → Int) (i : Int) : Int :=
  if isW (sgAt L i) [40] then
    if opB (sgAt L (i + 1)) || isW (sgAt L (i + 1)) [103, 101, 116] || isW (sgAt L (i + 1)) [116, 103, 101, 116] then isE L (r 10 (i + 2)) [41]
    else if isW (sgAt L (i + 1)) [102, 110] then isE L (r 6 (isE L (r 7 (isE L (i + 2) [40])) [41])) [41]
    else if isW (sgAt L (i + 1)) [99, 97, 108, 108] then isE L (r 4 (r 0 (i + 2))) [41]
    else if isW (sgAt L (i + 1)) [116, 104, 105, 110, 103] || isW (sgAt L (i + 1)) [106, 111, 105, 110] then isE L (r 4 (i + 2)) [41]
    else if isW (sgAt L (i + 1)) [116, 97, 98, 108, 101] then isE L (i + 2) [41]
    else if isW (sgAt L (i + 1)) [104, 103, 101, 116] then isE L (r 0 (nmE L (i + 2))) [41]
    else -1
  else if oneB (sgAt L i) then i + 1 else -1
/-- May this word declare? -/
def decB (s : ByteArray) : Bool := isW s [108, 101, 116] || isW s [116, 97, 107, 101] || isW s [104, 105, 100, 100, 101, 110] || isW s [118, 97, 114, 115]
/-- A deed, its word being h, behind it i. -/
def deedH (L : List ByteArray) (r : Nat → Int → Int) (h : ByteArray) (i : Int) : Int :=
  if isW h [108, 101, 116] || isW h [115, 101, 116] then isE L (r 0 (nmE L i)) [41]
  else if isW h [116, 97, 107, 101] then isE L (r 0 (isE L (r 5 (nmE L (isE L i [40]))) [41])) [41]
  else if isW h [104, 105, 100, 100, 101, 110] || isW h [118, 97, 114, 115] then isE L (r 5 i) [41]
  else if isW h [100, 111] then isE L (r 6 i) [41]
  else if isW h [105, 102] then isE L (r 2 (r 2 (r 0 i))) [41]
  else if isW h [119, 104, 105, 108, 101] then isE L (r 2 (r 0 i)) [41]
  else if isW h [102, 111, 114] then isE L (r 2 (r 10 (nmE L i))) [41]
  else if isW h [115, 97, 121] || isW h [98, 97, 99, 107] || isW h [114, 117, 110] then isE L (r 0 i) [41]
  else if isW h [108, 101, 97, 118, 101] || isW h [110, 101, 120, 116] then isE L i [41]
  else if isW h [112, 117, 116] || isW h [116, 112, 117, 116] then isE L (r 11 i) [41]
  else if isW h [104, 112, 117, 116] then isE L (r 10 (nmE L i)) [41]
  else -1
def deedS (L : List ByteArray) (r : Nat → Int → Int) (free : Bool) (i : Int) : Int :=
  if isW (sgAt L i) [40] then (if decB (sgAt L (i + 1)) && !free then -1 else deedH L r (sgAt L (i + 1)) (i + 2)) else -1
def parS (L : List ByteArray) (r : Nat → Int → Int) (i : Int) : Int :=
  if isW (sgAt L i) [40] then isE L (r 0 (nmE L (i + 1))) [41] else nmE L i
/-- One more of many. -/
def oneS (L : List ByteArray) (r : Nat → Int → Int) (what : Nat) (i : Int) : Int :=
  if what = 0 then r 0 i else if what = 1 then nmE L i else if what = 2 then r 1 i else r 3 i
def manyS (L : List ByteArray) (r : Nat → Int → Int) (what : Nat) (i : Int) : Int :=
  if i < 0 ∨ isW (sgAt L i) [41] = true then i else r (4 + what) (oneS L r what i)
def sumsS (r : Nat → Int → Int) : Nat → Int → Int
  | 0, i => i
  | k + 1, i => if i < 0 then i else r (8 + k) (r 0 i)

/-- Where it ends, by so many steps at most. -/
def frm (L : List ByteArray) : Nat → Nat → Int → Int
  | 0, _, _ => -1
  | n + 1, m, i =>
    if m = 0 then sumS L (frm L n) i else if m = 1 then deedS L (frm L n) true i else if m = 2 then deedS L (frm L n) false i else if m = 3 then parS L (frm L n) i
    else if m < 8 then manyS L (frm L n) (m - 4) i else sumsS (frm L n) (m - 8) i

/-- It is nowhere, or behind i. -/
def Ends (L : List ByteArray) (i x : Int) : Prop := x = -1 ∨ (0 ≤ i ∧ i < x ∧ x ≤ (L.length : Int))
/-- .. or at i itself. -/
def Fw (L : List ByteArray) (i x : Int) : Prop := x = -1 ∨ (0 ≤ i ∧ i ≤ x ∧ (x ≤ i ∨ x ≤ (L.length : Int)))
section
variable {L : List ByteArray} {i x : Int}
theorem Ends.fw (h : Ends L i x) : Fw L i x := by unfold Ends at h; unfold Fw; omega
theorem fw_at (h : 0 ≤ i) : Fw L i i := by unfold Fw; omega
theorem isE_ends {c : List UInt8} (hc : c ≠ []) (h : Fw L i x) : Ends L i (isE L x c) := by
  unfold isE Ends
  split
  · rename_i hw
    right
    by_cases hin : 0 ≤ x ∧ x < (L.length : Int)
    · unfold Fw at h; omega
    · rw [sgAt_out hin, isW_nil c hc] at hw
      exact absurd hw (by decide)
  · left; rfl
theorem isE_neg {c : List UInt8} (hc : c ≠ []) (h : i < 0) : isE L i c = -1 := by
  unfold isE
  rw [sgAt_out (by omega), isW_nil c hc]
  rfl
theorem nameB_nil : nameB ⟨#[]⟩ = false := by decide
theorem nmE_ends (h : Fw L i x) : Ends L i (nmE L x) := by
  unfold nmE Ends
  split
  · rename_i hw
    right
    by_cases hin : 0 ≤ x ∧ x < (L.length : Int)
    · unfold Fw at h; omega
    · rw [sgAt_out hin] at hw
      unfold nmB at hw
      rw [nameB_nil] at hw
      exact absurd hw (by decide)
  · left; rfl
theorem Ends.mono {j : Int} (hj : 0 ≤ i) (hij : i ≤ j) (h : Ends L j x) : Ends L i x := by unfold Ends at h ⊢; omega
theorem ends_no : Ends L i (-1) := Or.inl rfl
theorem ends_ite {c : Prop} [Decidable c] {y : Int} (h1 : Ends L i x) (h2 : Ends L i y) : Ends L i (if c then x else y) := by split <;> assumption
end

/-- What is asked of r. -/
def Good (L : List ByteArray) (r : Nat → Int → Int) : Prop := (∀ m j, m < 4 → Ends L j (r m j)) ∧ ∀ m j, 4 ≤ m → -1 ≤ j → Fw L j (r m j)
section
variable {L : List ByteArray} {r : Nat → Int → Int} {i x : Int}
theorem Good.ends (hr : Good L r) {m : Nat} (hm : m < 4) (h : Fw L i x) : Ends L i (r m x) := by
  have := hr.1 m x hm
  unfold Fw at h
  unfold Ends at this ⊢
  omega
theorem Good.fw (hr : Good L r) {m : Nat} (hm : 4 ≤ m) (h : Fw L i x) : Fw L i (r m x) := by
  have := hr.2 m x hm (by unfold Fw at h; omega)
  unfold Fw at h this ⊢
  omega
theorem sgAt_open (h : isW (sgAt L i) [40] = true) : 0 ≤ i ∧ i < (L.length : Int) := by
  by_cases hin : 0 ≤ i ∧ i < (L.length : Int)
  · exact hin
  · rw [sgAt_out hin, isW_nil _ (by decide)] at h
    exact absurd h (by decide)
theorem oneB_nil : oneB ⟨#[]⟩ = false := by decide +kernel
theorem sumS_ends (hr : Good L r) (i : Int) : Ends L i (sumS L r i) := by
  unfold sumS
  split
  · rename_i ho
    obtain ⟨h0, h1⟩ := sgAt_open ho
    refine Ends.mono (j := i + 2) h0 (by omega) ?_
    have hs : Fw L (i + 2) (i + 2) := fw_at (by omega)
    repeat' (first | exact ends_no | with_reducible refine ends_ite ?_ ?_ | exact hs | refine isE_ends (by decide) ?_ | refine nmE_ends ?_ | refine hr.fw (by decide) ?_ | refine hr.ends (by decide) ?_ | refine Ends.fw ?_)
  · split
    · rename_i hw
      by_cases hin : 0 ≤ i ∧ i < (L.length : Int)
      · right; omega
      · rw [sgAt_out hin, oneB_nil] at hw
        exact absurd hw (by decide)
    · exact ends_no
theorem deedH_ends (hr : Good L r) (h : ByteArray) {i : Int} (h0 : 0 ≤ i) : Ends L i (deedH L r h i) := by
  unfold deedH
  have hs : Fw L i i := fw_at h0
  repeat' (first | exact ends_no | with_reducible refine ends_ite ?_ ?_ | exact hs | refine isE_ends (by decide) ?_ | refine nmE_ends ?_ | refine hr.fw (by decide) ?_ | refine hr.ends (by decide) ?_ | refine Ends.fw ?_)
theorem deedS_ends (hr : Good L r) (f : Bool) (i : Int) : Ends L i (deedS L r f i) := by
  unfold deedS
  split
  · rename_i ho
    obtain ⟨h0, h1⟩ := sgAt_open ho
    split
    · exact ends_no
    · exact Ends.mono (j := i + 2) h0 (by omega) (deedH_ends hr _ (by omega))
  · exact ends_no
theorem fw_any (h : -1 ≤ i) : Fw L i i := by unfold Fw; omega
theorem parS_ends (hr : Good L r) (i : Int) : Ends L i (parS L r i) := by
  unfold parS
  split
  · rename_i ho
    obtain ⟨h0, h1⟩ := sgAt_open ho
    refine Ends.mono (j := i + 1) h0 (by omega) ?_
    exact isE_ends (by decide) (Ends.fw (hr.ends (by decide) (Ends.fw (nmE_ends (fw_at (by omega))))))
  · by_cases h : -1 ≤ i
    · exact nmE_ends (fw_any h)
    · unfold nmE
      rw [sgAt_out (by omega)]
      left
      rfl
theorem oneS_ends (hr : Good L r) (what : Nat) {i : Int} (h : -1 ≤ i) : Ends L i (oneS L r what i) := by
  unfold oneS
  repeat' split
  · exact hr.1 0 i (by decide)
  · exact nmE_ends (fw_any h)
  · exact hr.1 1 i (by decide)
  · exact hr.1 3 i (by decide)
theorem manyS_fw (hr : Good L r) (what : Nat) {i : Int} (h : -1 ≤ i) : Fw L i (manyS L r what i) := by
  unfold manyS
  split
  · exact fw_any h
  · exact hr.fw (by omega) (oneS_ends hr what h).fw
theorem sumsS_fw (hr : Good L r) (k : Nat) {i : Int} (h : -1 ≤ i) : Fw L i (sumsS r k i) := by
  cases k with
  | zero => exact fw_any h
  | succ k =>
    show Fw L i (if i < 0 then i else r (8 + k) (r 0 i))
    split
    · exact fw_any h
    · exact hr.fw (by omega) (hr.1 0 i (by decide)).fw
end
theorem frm_good (L : List ByteArray) : ∀ n, Good L (frm L n)
  | 0 => ⟨fun _ _ _ => ends_no, fun _ _ _ _ => Or.inl rfl⟩
  | n + 1 => by
    have hr := frm_good L n
    refine ⟨fun m j hm => ?_, fun m j hm hj => ?_⟩
    · unfold frm
      obtain rfl | rfl | rfl | rfl : m = 0 ∨ m = 1 ∨ m = 2 ∨ m = 3 := by omega
      · exact sumS_ends hr j
      · exact deedS_ends hr true j
      · exact deedS_ends hr false j
      · exact parS_ends hr j
    · unfold frm
      rw [if_neg (by omega), if_neg (by omega), if_neg (by omega), if_neg (by omega)]
      split
      · exact manyS_fw hr _ hj
      · exact sumsS_fw hr _ hj

/-- How many steps are enough from here on. -/
def farN (L : List ByteArray) (i : Int) : Nat := if i < 0 then 0 else ((L.length : Int) + 2 - i).toNat
theorem far_ends {L : List ByteArray} {i x : Int} (h : Ends L i x) (hi : i ≤ (L.length : Int) + 1) : farN L x + 1 ≤ farN L i ∨ (x = -1 ∧ farN L x = 0) := by
  unfold farN
  unfold Ends at h
  rcases h with rfl | ⟨h0, h1, h2⟩
  · right; exact ⟨rfl, rfl⟩
  · left
    rw [if_neg (by omega), if_neg (by omega)]
    omega

end Go.Proofs.YtlmibonebiaocaaDoor
