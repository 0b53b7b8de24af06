/-
  Chapter 4, the program's way in plain words: forms that are open wait in a list; where it comes out is where the form ends.
-/
import Derived.Test.YtlmibonebiaocaaDoorFormF
namespace Go.Proofs.YtlmibonebiaocaaDoor
open Go.RowKit

/-- The forms: the word ahead, what it is, what stands in it: some in order, then any number of one, or the end. -/
def formL : List (List UInt8 × Nat × List Nat × Option Nat) := [
  ([43], 1, [1, 1], none), ([45], 1, [1, 1], none), ([42], 1, [1, 1], none), ([60], 1, [1, 1], none), ([61], 1, [1, 1], none), ([38], 1, [1, 1], none),
  ([102, 110], 1, [7], some 3), ([99, 97, 108, 108], 1, [1], some 1), ([116, 104, 105, 110, 103], 1, [], some 1), ([103, 101, 116], 1, [1, 1], none), ([106, 111, 105, 110], 1, [], some 1),
  ([116, 97, 98, 108, 101], 1, [], none), ([116, 103, 101, 116], 1, [1, 1], none), ([104, 103, 101, 116], 1, [4, 1], none),
  ([108, 101, 116], 3, [4, 1], none), ([116, 97, 107, 101], 3, [5, 1], none), ([104, 105, 100, 100, 101, 110], 3, [], some 4), ([118, 97, 114, 115], 3, [], some 4),
  ([115, 101, 116], 2, [4, 1], none), ([100, 111], 2, [], some 3), ([105, 102], 2, [1, 2, 2], none), ([119, 104, 105, 108, 101], 2, [1, 2], none), ([102, 111, 114], 2, [4, 1, 1, 2], none),
  ([115, 97, 121], 2, [1], none), ([98, 97, 99, 107], 2, [1], none), ([108, 101, 97, 118, 101], 2, [], none), ([110, 101, 120, 116], 2, [], none), ([112, 117, 116], 2, [1, 1, 1], none),
  ([114, 117, 110], 2, [1], none), ([104, 112, 117, 116], 2, [4, 1, 1], none), ([116, 112, 117, 116], 2, [1, 1, 1], none),
  ([], 5, [4], some 4), ([], 7, [], some 6), ([], 6, [4, 1], none)]
/-- A form of this kind may stand where that is asked for. -/
def fitB (k w : Nat) : Bool := k == w || (k == 2 && w == 3)
def hitB (h : List UInt8) (w : Nat) (f : List UInt8 × Nat × List Nat × Option Nat) : Bool := fitB f.2.1 w && (f.1.isEmpty || f.1 == h)
/-- The form that begins with ( and that word. -/
def openF (h : List UInt8) (w : Nat) : Option (List UInt8 × Nat × List Nat × Option Nat) := formL.find? (hitB h w)
/-- What may stand without a form. -/
def aloneB (s : ByteArray) (w : Nat) : Bool := if w = 1 then oneB s else if w = 4 ∨ w = 6 then nmB s else false
/-- What is asked for next, and whether the form may be closed. -/
def wantN (t : List Nat × Option Nat) : Nat := match t with | ([], none) => 0 | ([], some p) => p | (p :: _, _) => p
def mayB (t : List Nat × Option Nat) : Bool := t.1.isEmpty
def nextL (t : List Nat × Option Nat) : List Nat × Option Nat := (t.1.tail, t.2)

/-- The run from place i on: the form that was opened last, those around it. -/
def machF (L : List ByteArray) : Nat → Int → (List Nat × Option Nat) → List (List Nat × Option Nat) → Int
  | 0, _, _, _ => -1
  | f + 1, i, t, S =>
    if 0 ≤ i ∧ i < (L.length : Int) then
      if isW (sgAt L i) [41] then (if mayB t then (match S with | [] => -1 | [_] => i + 1 | u :: S' => machF L f (i + 1) u S') else -1)
      else if isW (sgAt L i) [40] then (match openF (sgAt L (i + 1)).toList (wantN t) with | none => -1 | some g => machF L f (if g.1.isEmpty then i + 1 else i + 2) (g.2.2.1, g.2.2.2) (nextL t :: S))
      else if aloneB (sgAt L i) (wantN t) then (match S with | [] => i + 1 | _ :: _ => machF L f (i + 1) (nextL t) S) else -1
    else -1
theorem mach_same (L : List ByteArray) : ∀ (f f' : Nat) (i : Int) (t : List Nat × Option Nat) (S : List (List Nat × Option Nat)), 0 ≤ i → (L.length : Int) - i < (f : Int) → (L.length : Int) - i < (f' : Int) → machF L f i t S = machF L f' i t S
  | 0, 0, _, _, _, _, _, _ => rfl
  | 0, f' + 1, i, t, S, h0, h, _ => by
    unfold machF
    rw [if_neg (by omega)]
  | f + 1, 0, i, t, S, h0, _, h => by
    unfold machF
    rw [if_neg (by omega)]
  | f + 1, f' + 1, i, t, S, h0, h, h' => by
    have IH := mach_same L f f'
    unfold machF
    split
    · split
      · split
        · match S with
          | [] => rfl
          | [_] => rfl
          | u :: v :: S' => exact IH (i + 1) u (v :: S') (by omega) (by omega) (by omega)
        · rfl
      · split
        · cases openF (sgAt L (i + 1)).toList (wantN t) with
          | none => rfl
          | some g =>
            show machF L f (if g.1.isEmpty then i + 1 else i + 2) _ _ = machF L f' (if g.1.isEmpty then i + 1 else i + 2) _ _
            split
            · exact IH _ _ _ (by omega) (by omega) (by omega)
            · exact IH _ _ _ (by omega) (by omega) (by omega)
        · split
          · match S with
            | [] => rfl
            | _ :: _ => exact IH _ _ _ (by omega) (by omega) (by omega)
          · rfl
    · rfl

theorem mach_ex (L : List ByteArray) : ∃ F : Int → (List Nat × Option Nat) → List (List Nat × Option Nat) → Int, F = machF L (L.length + 1) := ⟨_, rfl⟩
/-- .. with steps enough. -/
noncomputable def mach (L : List ByteArray) : Int → (List Nat × Option Nat) → List (List Nat × Option Nat) → Int := Classical.choose (mach_ex L)
theorem mach_fun (L : List ByteArray) : machF L (L.length + 1) = mach L := (Classical.choose_spec (mach_ex L)).symm
theorem mach_next (L : List ByteArray) {i : Int} (h0 : 0 ≤ i) (t : List Nat × Option Nat) (S : List (List Nat × Option Nat)) : mach L i t S = machF L (L.length + 1 + 1) i t S := by
  rw [← mach_fun]
  exact mach_same L _ _ i t S h0 (by omega) (by omega)
section
variable {L : List ByteArray} {i : Int} {t : List Nat × Option Nat} {S : List (List Nat × Option Nat)}
theorem mach_out (h : ¬ (0 ≤ i ∧ i < (L.length : Int))) : mach L i t S = -1 := by
  rw [← mach_fun]
  unfold machF
  rw [if_neg h]
theorem mach_no (h0 : 0 ≤ i) (h1 : i < (L.length : Int)) (hc : isW (sgAt L i) [41] = true) (hm : mayB t = false) : mach L i t S = -1 := by
  rw [mach_next L h0]
  unfold machF
  rw [if_pos ⟨h0, h1⟩, if_pos hc, hm]
  rfl
theorem mach_last {u : List Nat × Option Nat} (h0 : 0 ≤ i) (h1 : i < (L.length : Int)) (hc : isW (sgAt L i) [41] = true) (hm : mayB t = true) : mach L i t [u] = i + 1 := by
  rw [mach_next L h0]
  unfold machF
  rw [if_pos ⟨h0, h1⟩, if_pos hc, hm]
  rfl
theorem mach_shut {u v : List Nat × Option Nat} (h0 : 0 ≤ i) (h1 : i < (L.length : Int)) (hc : isW (sgAt L i) [41] = true) (hm : mayB t = true) : mach L i t (u :: v :: S) = mach L (i + 1) u (v :: S) := by
  rw [mach_next L h0]
  unfold machF
  rw [if_pos ⟨h0, h1⟩, if_pos hc, hm, mach_fun]
  rfl
theorem mach_bad (h0 : 0 ≤ i) (h1 : i < (L.length : Int)) (hc : isW (sgAt L i) [41] = false) (ho : isW (sgAt L i) [40] = true) (hn : openF (sgAt L (i + 1)).toList (wantN t) = none) : mach L i t S = -1 := by
  rw [mach_next L h0]
  unfold machF
  rw [if_pos ⟨h0, h1⟩, hc, ho, hn]
  rfl
theorem mach_open {g : List UInt8 × Nat × List Nat × Option Nat} (h0 : 0 ≤ i) (h1 : i < (L.length : Int)) (hc : isW (sgAt L i) [41] = false) (ho : isW (sgAt L i) [40] = true) (hn : openF (sgAt L (i + 1)).toList (wantN t) = some g) :
    mach L i t S = mach L (if g.1.isEmpty then i + 1 else i + 2) (g.2.2.1, g.2.2.2) (nextL t :: S) := by
  rw [mach_next L h0]
  unfold machF
  rw [if_pos ⟨h0, h1⟩, hc, ho, hn, mach_fun]
  rfl
theorem mach_not (h0 : 0 ≤ i) (h1 : i < (L.length : Int)) (hc : isW (sgAt L i) [41] = false) (ho : isW (sgAt L i) [40] = false) (ha : aloneB (sgAt L i) (wantN t) = false) : mach L i t S = -1 := by
  rw [mach_next L h0]
  unfold machF
  rw [if_pos ⟨h0, h1⟩, hc, ho, ha]
  rfl
theorem mach_one (h0 : 0 ≤ i) (h1 : i < (L.length : Int)) (hc : isW (sgAt L i) [41] = false) (ho : isW (sgAt L i) [40] = false) (ha : aloneB (sgAt L i) (wantN t) = true) : mach L i t [] = i + 1 := by
  rw [mach_next L h0]
  unfold machF
  rw [if_pos ⟨h0, h1⟩, hc, ho, ha]
  rfl
theorem mach_go {u : List Nat × Option Nat} (h0 : 0 ≤ i) (h1 : i < (L.length : Int)) (hc : isW (sgAt L i) [41] = false) (ho : isW (sgAt L i) [40] = false) (ha : aloneB (sgAt L i) (wantN t) = true) : mach L i t (u :: S) = mach L (i + 1) (nextL t) (u :: S) := by
  rw [mach_next L h0]
  unfold machF
  rw [if_pos ⟨h0, h1⟩, hc, ho, ha, mach_fun]
  rfl
end

/-- Where that which is asked for ends. -/
noncomputable def endW (L : List ByteArray) (w : Nat) (i : Int) : Int :=
  if w = 1 then fm L 0 i else if w = 2 then fm L 2 i else if w = 3 then fm L 1 i else if w = 4 then nmE L i
  else if w = 5 then isE L (fm L 5 (nmE L (isE L i [40]))) [41] else if w = 6 then fm L 3 i else if w = 7 then isE L (fm L 7 (isE L i [40])) [41] else -1
/-- Behind some in order. -/
noncomputable def partsE (L : List ByteArray) : List Nat → Int → Int
  | [], i => i
  | p :: ps, i => partsE L ps (endW L p i)
/-- Behind any number of one. -/
noncomputable def restE (L : List ByteArray) (r : Option Nat) (i : Int) : Int :=
  match r with
  | none => i
  | some p => if p = 1 then fm L 4 i else if p = 4 then fm L 5 i else if p = 3 then fm L 6 i else if p = 6 then fm L 7 i else -1
/-- Behind the ) that closes it. -/
noncomputable def closeE (L : List ByteArray) (t : List Nat × Option Nat) (i : Int) : Int := isE L (restE L t.2 (partsE L t.1 i)) [41]

section
variable {L : List ByteArray} {i : Int}
theorem endW_ends (w : Nat) (h : -1 ≤ i) : Ends L i (endW L w i) := by
  have hg := fm_good L
  unfold endW
  have hF : Fw L i i := fw_any h
  split
  · exact hg.1 0 i (by decide)
  split
  · exact hg.1 2 i (by decide)
  split
  · exact hg.1 1 i (by decide)
  split
  · exact nmE_ends hF
  split
  · exact isE_ends (by decide) (hg.fw (by decide) (nmE_ends (isE_ends (by decide) hF).fw).fw)
  split
  · exact hg.1 3 i (by decide)
  split
  · exact isE_ends (by decide) (hg.fw (by decide) (isE_ends (by decide) hF).fw)
  · exact ends_no
theorem endW_neg (w : Nat) : endW L w (-1) = -1 := by
  have := endW_ends (L := L) (i := -1) w (by decide)
  unfold Ends at this
  omega
theorem parts_neg : ∀ ps, partsE L ps (-1) = -1
  | [] => rfl
  | p :: ps => by
    unfold partsE
    rw [endW_neg]
    exact parts_neg ps
theorem rest_neg (r : Option Nat) : restE L r (-1) = -1 := by
  unfold restE
  have hg := fm_good L
  have key : ∀ m, 4 ≤ m → fm L m (-1) = -1 := fun m hm => by
    have := hg.2 m (-1) hm (by decide)
    unfold Fw at this
    omega
  match r with
  | none => rfl
  | some p =>
    show (if p = 1 then fm L 4 (-1) else if p = 4 then fm L 5 (-1) else if p = 3 then fm L 6 (-1) else if p = 6 then fm L 7 (-1) else -1) = -1
    rw [key 4 (by decide), key 5 (by decide), key 6 (by decide), key 7 (by decide)]
    simp only [ite_self]
theorem close_neg (t : List Nat × Option Nat) : closeE L t (-1) = -1 := by
  unfold closeE
  rw [parts_neg, rest_neg]
  exact isE_neg (by decide) (by decide)
theorem sgAt_shut (h : isW (sgAt L i) [41] = true) : 0 ≤ i ∧ i < (L.length : Int) := by
  by_cases hin : 0 ≤ i ∧ i < (L.length : Int)
  · exact hin
  · rw [sgAt_out hin, isW_nil _ (by decide)] at h
    exact absurd h (by decide)
theorem nmB_shut : nmB ⟨#[41]⟩ = false := by decide
theorem oneB_shut : oneB ⟨#[41]⟩ = false := by decide +kernel
theorem nmB_open : nmB ⟨#[40]⟩ = false := by decide
theorem nmE_open (h : isW (sgAt L i) [40] = true) : nmE L i = -1 := by
  unfold nmE
  rw [isW_eq h, nmB_open]
  rfl
theorem nmE_shut (h : isW (sgAt L i) [41] = true) : nmE L i = -1 := by
  unfold nmE
  rw [isW_eq h, nmB_shut]
  rfl
theorem open_shut (h : isW (sgAt L i) [41] = true) : isW (sgAt L i) [40] = false := by
  rw [isW_eq h]
  decide +kernel
theorem isE_not {c : List UInt8} (h : isW (sgAt L i) c = false) : isE L i c = -1 := by
  unfold isE
  rw [h]
  rfl
theorem isE_is {c : List UInt8} (h : isW (sgAt L i) c = true) : isE L i c = i + 1 := by
  unfold isE
  rw [h]
  rfl
theorem fm_neg (m : Nat) (hm : 4 ≤ m) : fm L m (-1) = -1 := by
  have := (fm_good L).2 m (-1) hm (by decide)
  unfold Fw at this
  omega
theorem nmE_neg : nmE L (-1) = -1 := by
  unfold nmE
  rw [sgAt_out (by omega)]
  rfl
/-- What is no ( and is not alone what is asked for ends nowhere. -/
theorem endW_alone (w : Nat) (ho : isW (sgAt L i) [40] = false) : endW L w i = if aloneB (sgAt L i) w then i + 1 else -1 := by
  match w with
  | 0 => rfl
  | 1 =>
    show fm L 0 i = if oneB (sgAt L i) then i + 1 else -1
    rw [fm_sum]
    unfold sumS
    rw [ho]
    rfl
  | 2 =>
    show fm L 2 i = -1
    rw [fm_deed2]
    unfold deedS
    rw [ho]
    rfl
  | 3 =>
    show fm L 1 i = -1
    rw [fm_deed]
    unfold deedS
    rw [ho]
    rfl
  | 4 => rfl
  | 5 =>
    show isE L (fm L 5 (nmE L (isE L i [40]))) [41] = -1
    rw [isE_not ho, nmE_neg, fm_neg 5 (by decide), isE_neg (by decide) (by decide)]
  | 6 =>
    show fm L 3 i = if nmB (sgAt L i) then i + 1 else -1
    rw [fm_par]
    unfold parS
    rw [ho]
    rfl
  | 7 =>
    show isE L (fm L 7 (isE L i [40])) [41] = -1
    rw [isE_not ho, fm_neg 7 (by decide), isE_neg (by decide) (by decide)]
  | k + 8 =>
    have hE : endW L (k + 8) i = -1 := by
      unfold endW
      repeat rw [if_neg (by omega)]
    have hA : aloneB (sgAt L i) (k + 8) = false := by
      unfold aloneB
      repeat rw [if_neg (by omega)]
    rw [hE, hA]
    rfl
theorem endW_shut (w : Nat) (h : isW (sgAt L i) [41] = true) : endW L w i = -1 := by
  rw [endW_alone w (open_shut h)]
  have : aloneB (sgAt L i) w = false := by
    rw [isW_eq h]
    unfold aloneB
    split
    · exact oneB_shut
    · split
      · exact nmB_shut
      · rfl
  rw [this]
  rfl
theorem rest_step {p : Nat} (hp : p = 1 ∨ p = 3 ∨ p = 4 ∨ p = 6) (h0 : 0 ≤ i) (h1 : i ≤ (L.length : Int) + 1) (hc : isW (sgAt L i) [41] = false) : restE L (some p) i = restE L (some p) (endW L p i) := by
  have hno : ¬ (i < 0 ∨ isW (sgAt L i) [41] = true) := by rw [hc]; simp; omega
  obtain rfl | rfl | rfl | rfl := hp
  · show fm L (4 + 0) i = fm L (4 + 0) (fm L 0 i)
    rw [fm_many 0 (by decide) (by omega) h1]
    unfold manyS
    rw [if_neg hno]
    rfl
  · show fm L (4 + 2) i = fm L (4 + 2) (fm L 1 i)
    rw [fm_many 2 (by decide) (by omega) h1]
    unfold manyS
    rw [if_neg hno]
    rfl
  · show fm L (4 + 1) i = fm L (4 + 1) (nmE L i)
    rw [fm_many 1 (by decide) (by omega) h1]
    unfold manyS
    rw [if_neg hno]
    rfl
  · show fm L (4 + 3) i = fm L (4 + 3) (fm L 3 i)
    rw [fm_many 3 (by decide) (by omega) h1]
    unfold manyS
    rw [if_neg hno]
    rfl
theorem rest_stop {p : Nat} (hp : p = 1 ∨ p = 3 ∨ p = 4 ∨ p = 6) (h0 : 0 ≤ i) (h1 : i ≤ (L.length : Int) + 1) (hc : isW (sgAt L i) [41] = true) : restE L (some p) i = i := by
  have hno : (i < 0 ∨ isW (sgAt L i) [41] = true) := Or.inr hc
  obtain rfl | rfl | rfl | rfl := hp
  · show fm L (4 + 0) i = i
    rw [fm_many 0 (by decide) (by omega) h1]
    unfold manyS
    rw [if_pos hno]
  · show fm L (4 + 2) i = i
    rw [fm_many 2 (by decide) (by omega) h1]
    unfold manyS
    rw [if_pos hno]
  · show fm L (4 + 1) i = i
    rw [fm_many 1 (by decide) (by omega) h1]
    unfold manyS
    rw [if_pos hno]
  · show fm L (4 + 3) i = i
    rw [fm_many 3 (by decide) (by omega) h1]
    unfold manyS
    rw [if_pos hno]
theorem sums_0 {j : Int} (h0 : -1 ≤ j) (h1 : j ≤ (L.length : Int) + 1) : fm L 8 j = j := by
  show fm L (8 + 0) j = j
  rw [fm_sums 0 (by decide) h0 h1]
  rfl
theorem sums_s (k : Nat) (hk : k + 1 ≤ 3) {j : Int} (h0 : -1 ≤ j) (h1 : j ≤ (L.length : Int) + 1) : fm L (8 + (k + 1)) j = fm L (8 + k) (fm L 0 j) := by
  rw [fm_sums (k + 1) hk h0 h1]
  show (if j < 0 then j else fm L (8 + k) (fm L 0 j)) = _
  split
  · have e : j = -1 := by omega
    subst e
    have h := endW_neg (L := L) 1
    unfold endW at h
    rw [if_pos rfl] at h
    rw [h, fm_neg (8 + k) (by omega)]
  · rfl
theorem sums_2 {j : Int} (h0 : -1 ≤ j) (h1 : j ≤ (L.length : Int) + 1) : fm L 10 j = fm L 0 (fm L 0 j) := by
  have e1 := (fm_good L).1 0 j (by decide)
  have e2 := (fm_good L).1 0 (fm L 0 j) (by decide)
  unfold Ends at e1 e2
  show fm L (8 + (1 + 1)) j = _
  rw [sums_s 1 (by decide) h0 h1]
  show fm L (8 + (0 + 1)) (fm L 0 j) = _
  rw [sums_s 0 (by decide) (by omega) (by omega)]
  exact sums_0 (by omega) (by omega)
theorem sums_3 {j : Int} (h0 : -1 ≤ j) (h1 : j ≤ (L.length : Int) + 1) : fm L 11 j = fm L 0 (fm L 0 (fm L 0 j)) := by
  have e1 := (fm_good L).1 0 j (by decide)
  unfold Ends at e1
  show fm L (8 + (2 + 1)) j = _
  rw [sums_s 2 (by decide) h0 h1]
  exact sums_2 (by omega) (by omega)
end
end Go.Proofs.YtlmibonebiaocaaDoor
