/-
  Chapter 4, the program's way in plain words: what begins with ( ends where the form of the word behind it closes.
-/
import Derived.Test.YtlmibonebiaocaaDoorMach
namespace Go.Proofs.YtlmibonebiaocaaDoor
open Go.RowKit

section
variable {L : List ByteArray} {i : Int}
/-- Where the form closes that begins there. -/
noncomputable def openE (L : List ByteArray) (i : Int) (g : Option (List UInt8 × Nat × List Nat × Option Nat)) : Int :=
  match g with
  | none => -1
  | some g => closeE L (g.2.2.1, g.2.2.2) (if g.1.isEmpty then i + 1 else i + 2)
theorem lit_list (c : List UInt8) : (⟨c.toArray⟩ : ByteArray).toList = c := by rw [ByteArray.toList_eq]
theorem ne_list {s : ByteArray} {c : List UInt8} (h : s ≠ ⟨c.toArray⟩) : (c == s.toList) = false := by
  cases e : (c == s.toList)
  · rfl
  · rw [beq_iff_eq] at e
    exact absurd (bytes_ext (by rw [e, ByteArray.toList_eq])) h

theorem open_sum (ho : isW (sgAt L i) [40] = true) : endW L 1 i = openE L i (openF (sgAt L (i + 1)).toList 1) := by
  obtain ⟨h0, h1⟩ := sgAt_open ho
  have b0 : (-1 : Int) ≤ i + 2 := by omega
  have b1 : i + 2 ≤ (L.length : Int) + 1 := by omega
  have e0 : endW L 1 i = sumS L (fm L) i := fm_sum L i
  rw [e0]
  by_cases hop : opB (sgAt L (i + 1)) = true
  · rw [sumS_op ho hop, sums_2 b0 b1]
    have hm := (opB_iff _).mp hop
    unfold opsL at hm
    simp only [List.mem_cons, List.not_mem_nil, or_false] at hm
    rcases hm with h | h | h | h | h | h <;> rw [h] <;> rw [show ∀ c : List UInt8, (⟨c.toArray⟩ : ByteArray).toList = c from lit_list] <;> rfl
  rw [Bool.not_eq_true] at hop
  by_cases hget : sgAt L (i + 1) = ⟨#[103, 101, 116]⟩
  · rw [sumS_get ho hget, hget, lit_list [103, 101, 116], sums_2 b0 b1]
    rfl
  by_cases htget : sgAt L (i + 1) = ⟨#[116, 103, 101, 116]⟩
  · rw [sumS_tget ho htget, htget, lit_list [116, 103, 101, 116], sums_2 b0 b1]
    rfl
  by_cases hfn : sgAt L (i + 1) = ⟨#[102, 110]⟩
  · rw [sumS_fn ho hfn, hfn, lit_list [102, 110]]
    rfl
  by_cases hcall : sgAt L (i + 1) = ⟨#[99, 97, 108, 108]⟩
  · rw [sumS_call ho hcall, hcall, lit_list [99, 97, 108, 108]]
    rfl
  by_cases hthing : sgAt L (i + 1) = ⟨#[116, 104, 105, 110, 103]⟩
  · rw [sumS_thing ho hthing, hthing, lit_list [116, 104, 105, 110, 103]]
    rfl
  by_cases hjoin : sgAt L (i + 1) = ⟨#[106, 111, 105, 110]⟩
  · rw [sumS_join ho hjoin, hjoin, lit_list [106, 111, 105, 110]]
    rfl
  by_cases htable : sgAt L (i + 1) = ⟨#[116, 97, 98, 108, 101]⟩
  · rw [sumS_table ho htable, htable, lit_list [116, 97, 98, 108, 101]]
    rfl
  by_cases hhget : sgAt L (i + 1) = ⟨#[104, 103, 101, 116]⟩
  · rw [sumS_hget ho hhget, hhget, lit_list [104, 103, 101, 116]]
    rfl
  rw [sumS_not ho hop hget htget hfn hcall hthing hjoin htable hhget]
  have hn : openF (sgAt L (i + 1)).toList 1 = none := by
    have hq : ∀ c ∈ opsL, sgAt L (i + 1) ≠ c := fun c hc e => by
      rw [(opB_iff _).mpr (e ▸ hc)] at hop
      exact absurd hop (by decide)
    have hplus : sgAt L (i + 1) ≠ ⟨#[43]⟩ := hq _ (by simp [opsL])
    have hminus : sgAt L (i + 1) ≠ ⟨#[45]⟩ := hq _ (by simp [opsL])
    have htimes : sgAt L (i + 1) ≠ ⟨#[42]⟩ := hq _ (by simp [opsL])
    have hless : sgAt L (i + 1) ≠ ⟨#[60]⟩ := hq _ (by simp [opsL])
    have hsame : sgAt L (i + 1) ≠ ⟨#[61]⟩ := hq _ (by simp [opsL])
    have hcat : sgAt L (i + 1) ≠ ⟨#[38]⟩ := hq _ (by simp [opsL])
    unfold openF
    rw [List.find?_eq_none]
    intro x hx
    unfold formL at hx
    simp only [List.mem_cons, List.not_mem_nil, or_false] at hx
    rcases hx with rfl | rfl | rfl | rfl | rfl | rfl | rfl | rfl | rfl | rfl | rfl | rfl | rfl | rfl | rfl | rfl | rfl | rfl | rfl | rfl | rfl | rfl | rfl | rfl | rfl | rfl | rfl | rfl | rfl | rfl | rfl | rfl | rfl | rfl <;> simp only [hitB, fitB, ne_list hplus (c := [43]), ne_list hminus (c := [45]), ne_list htimes (c := [42]), ne_list hless (c := [60]), ne_list hsame (c := [61]), ne_list hcat (c := [38]), ne_list hget (c := [103, 101, 116]), ne_list htget (c := [116, 103, 101, 116]), ne_list hfn (c := [102, 110]), ne_list hcall (c := [99, 97, 108, 108]), ne_list hthing (c := [116, 104, 105, 110, 103]), ne_list hjoin (c := [106, 111, 105, 110]), ne_list htable (c := [116, 97, 98, 108, 101]), ne_list hhget (c := [104, 103, 101, 116])] <;> first | exact Bool.false_ne_true | decide
  rw [hn]
  rfl

theorem open_rule (ho : isW (sgAt L i) [40] = true) : endW L 2 i = openE L i (openF (sgAt L (i + 1)).toList 2) := by
  obtain ⟨h0, h1⟩ := sgAt_open ho
  have b0 : (-1 : Int) ≤ i + 2 := by omega
  have b1 : i + 2 ≤ (L.length : Int) + 1 := by omega
  have hnm := nmE_ends (L := L) (fw_any b0)
  unfold Ends at hnm
  have n0 : -1 ≤ nmE L (i + 2) := by omega
  have n1 : nmE L (i + 2) ≤ (L.length : Int) + 1 := by omega
  clear hnm
  have e0 : endW L 2 i = deedS L (fm L) false i := fm_deed2 L i
  rw [e0]
  unfold deedS
  rw [if_pos ho]
  generalize sgAt L (i + 1) = s
  by_cases hlet : s = ⟨#[108, 101, 116]⟩
  · rw [hlet, decB_let, lit_list [108, 101, 116]]
    rfl
  by_cases htake : s = ⟨#[116, 97, 107, 101]⟩
  · rw [htake, decB_take, lit_list [116, 97, 107, 101]]
    rfl
  by_cases hhidden : s = ⟨#[104, 105, 100, 100, 101, 110]⟩
  · rw [hhidden, decB_hidden, lit_list [104, 105, 100, 100, 101, 110]]
    rfl
  by_cases hvars : s = ⟨#[118, 97, 114, 115]⟩
  · rw [hvars, decB_vars, lit_list [118, 97, 114, 115]]
    rfl
  by_cases hset : s = ⟨#[115, 101, 116]⟩
  · rw [hset, decB_set, deedH_set, lit_list [115, 101, 116]]
    rfl
  by_cases hdo : s = ⟨#[100, 111]⟩
  · rw [hdo, decB_do, deedH_do, lit_list [100, 111]]
    rfl
  by_cases hif : s = ⟨#[105, 102]⟩
  · rw [hif, decB_if, deedH_if, lit_list [105, 102]]
    rfl
  by_cases hwhile : s = ⟨#[119, 104, 105, 108, 101]⟩
  · rw [hwhile, decB_while, deedH_while, lit_list [119, 104, 105, 108, 101]]
    rfl
  by_cases hfor : s = ⟨#[102, 111, 114]⟩
  · rw [hfor, decB_for, deedH_for, lit_list [102, 111, 114], sums_2 n0 n1]
    rfl
  by_cases hsay : s = ⟨#[115, 97, 121]⟩
  · rw [hsay, decB_say, deedH_say, lit_list [115, 97, 121]]
    rfl
  by_cases hback : s = ⟨#[98, 97, 99, 107]⟩
  · rw [hback, decB_back, deedH_back, lit_list [98, 97, 99, 107]]
    rfl
  by_cases hleave : s = ⟨#[108, 101, 97, 118, 101]⟩
  · rw [hleave, decB_leave, deedH_leave, lit_list [108, 101, 97, 118, 101]]
    rfl
  by_cases hnext : s = ⟨#[110, 101, 120, 116]⟩
  · rw [hnext, decB_next, deedH_next, lit_list [110, 101, 120, 116]]
    rfl
  by_cases hput : s = ⟨#[112, 117, 116]⟩
  · rw [hput, decB_put, deedH_put, lit_list [112, 117, 116], sums_3 b0 b1]
    rfl
  by_cases hrun : s = ⟨#[114, 117, 110]⟩
  · rw [hrun, decB_run, deedH_run, lit_list [114, 117, 110]]
    rfl
  by_cases hhput : s = ⟨#[104, 112, 117, 116]⟩
  · rw [hhput, decB_hput, deedH_hput, lit_list [104, 112, 117, 116], sums_2 n0 n1]
    rfl
  by_cases htput : s = ⟨#[116, 112, 117, 116]⟩
  · rw [htput, decB_tput, deedH_tput, lit_list [116, 112, 117, 116], sums_3 b0 b1]
    rfl
  rw [deedH_not hlet hset htake hhidden hvars hdo hif hwhile hfor hsay hback hrun hleave hnext hput htput hhput, ite_self]
  have hn : openF s.toList 2 = none := by
    unfold openF
    rw [List.find?_eq_none]
    intro x hx
    unfold formL at hx
    simp only [List.mem_cons, List.not_mem_nil, or_false] at hx
    rcases hx with rfl | rfl | rfl | rfl | rfl | rfl | rfl | rfl | rfl | rfl | rfl | rfl | rfl | rfl | rfl | rfl | rfl | rfl | rfl | rfl | rfl | rfl | rfl | rfl | rfl | rfl | rfl | rfl | rfl | rfl | rfl | rfl | rfl | rfl <;> simp only [hitB, fitB, ne_list hlet (c := [108, 101, 116]), ne_list htake (c := [116, 97, 107, 101]), ne_list hhidden (c := [104, 105, 100, 100, 101, 110]), ne_list hvars (c := [118, 97, 114, 115]), ne_list hset (c := [115, 101, 116]), ne_list hdo (c := [100, 111]), ne_list hif (c := [105, 102]), ne_list hwhile (c := [119, 104, 105, 108, 101]), ne_list hfor (c := [102, 111, 114]), ne_list hsay (c := [115, 97, 121]), ne_list hback (c := [98, 97, 99, 107]), ne_list hleave (c := [108, 101, 97, 118, 101]), ne_list hnext (c := [110, 101, 120, 116]), ne_list hput (c := [112, 117, 116]), ne_list hrun (c := [114, 117, 110]), ne_list hhput (c := [104, 112, 117, 116]), ne_list htput (c := [116, 112, 117, 116])] <;> first | exact Bool.false_ne_true | decide
  rw [hn]
  rfl

theorem open_deed (ho : isW (sgAt L i) [40] = true) : endW L 3 i = openE L i (openF (sgAt L (i + 1)).toList 3) := by
  obtain ⟨h0, h1⟩ := sgAt_open ho
  have b0 : (-1 : Int) ≤ i + 2 := by omega
  have b1 : i + 2 ≤ (L.length : Int) + 1 := by omega
  have hnm := nmE_ends (L := L) (fw_any b0)
  unfold Ends at hnm
  have n0 : -1 ≤ nmE L (i + 2) := by omega
  have n1 : nmE L (i + 2) ≤ (L.length : Int) + 1 := by omega
  clear hnm
  have e0 : endW L 3 i = deedS L (fm L) true i := fm_deed L i
  rw [e0]
  unfold deedS
  rw [if_pos ho]
  generalize sgAt L (i + 1) = s
  by_cases hlet : s = ⟨#[108, 101, 116]⟩
  · rw [hlet, decB_let, deedH_let, lit_list [108, 101, 116]]
    rfl
  by_cases htake : s = ⟨#[116, 97, 107, 101]⟩
  · rw [htake, decB_take, deedH_take, lit_list [116, 97, 107, 101]]
    rfl
  by_cases hhidden : s = ⟨#[104, 105, 100, 100, 101, 110]⟩
  · rw [hhidden, decB_hidden, deedH_hidden, lit_list [104, 105, 100, 100, 101, 110]]
    rfl
  by_cases hvars : s = ⟨#[118, 97, 114, 115]⟩
  · rw [hvars, decB_vars, deedH_vars, lit_list [118, 97, 114, 115]]
    rfl
  by_cases hset : s = ⟨#[115, 101, 116]⟩
  · rw [hset, decB_set, deedH_set, lit_list [115, 101, 116]]
    rfl
  by_cases hdo : s = ⟨#[100, 111]⟩
  · rw [hdo, decB_do, deedH_do, lit_list [100, 111]]
    rfl
  by_cases hif : s = ⟨#[105, 102]⟩
  · rw [hif, decB_if, deedH_if, lit_list [105, 102]]
    rfl
  by_cases hwhile : s = ⟨#[119, 104, 105, 108, 101]⟩
  · rw [hwhile, decB_while, deedH_while, lit_list [119, 104, 105, 108, 101]]
    rfl
  by_cases hfor : s = ⟨#[102, 111, 114]⟩
  · rw [hfor, decB_for, deedH_for, lit_list [102, 111, 114], sums_2 n0 n1]
    rfl
  by_cases hsay : s = ⟨#[115, 97, 121]⟩
  · rw [hsay, decB_say, deedH_say, lit_list [115, 97, 121]]
    rfl
  by_cases hback : s = ⟨#[98, 97, 99, 107]⟩
  · rw [hback, decB_back, deedH_back, lit_list [98, 97, 99, 107]]
    rfl
  by_cases hleave : s = ⟨#[108, 101, 97, 118, 101]⟩
  · rw [hleave, decB_leave, deedH_leave, lit_list [108, 101, 97, 118, 101]]
    rfl
  by_cases hnext : s = ⟨#[110, 101, 120, 116]⟩
  · rw [hnext, decB_next, deedH_next, lit_list [110, 101, 120, 116]]
    rfl
  by_cases hput : s = ⟨#[112, 117, 116]⟩
  · rw [hput, decB_put, deedH_put, lit_list [112, 117, 116], sums_3 b0 b1]
    rfl
  by_cases hrun : s = ⟨#[114, 117, 110]⟩
  · rw [hrun, decB_run, deedH_run, lit_list [114, 117, 110]]
    rfl
  by_cases hhput : s = ⟨#[104, 112, 117, 116]⟩
  · rw [hhput, decB_hput, deedH_hput, lit_list [104, 112, 117, 116], sums_2 n0 n1]
    rfl
  by_cases htput : s = ⟨#[116, 112, 117, 116]⟩
  · rw [htput, decB_tput, deedH_tput, lit_list [116, 112, 117, 116], sums_3 b0 b1]
    rfl
  rw [deedH_not hlet hset htake hhidden hvars hdo hif hwhile hfor hsay hback hrun hleave hnext hput htput hhput, ite_self]
  have hn : openF s.toList 3 = none := by
    unfold openF
    rw [List.find?_eq_none]
    intro x hx
    unfold formL at hx
    simp only [List.mem_cons, List.not_mem_nil, or_false] at hx
    rcases hx with rfl | rfl | rfl | rfl | rfl | rfl | rfl | rfl | rfl | rfl | rfl | rfl | rfl | rfl | rfl | rfl | rfl | rfl | rfl | rfl | rfl | rfl | rfl | rfl | rfl | rfl | rfl | rfl | rfl | rfl | rfl | rfl | rfl | rfl <;> simp only [hitB, fitB, ne_list hlet (c := [108, 101, 116]), ne_list htake (c := [116, 97, 107, 101]), ne_list hhidden (c := [104, 105, 100, 100, 101, 110]), ne_list hvars (c := [118, 97, 114, 115]), ne_list hset (c := [115, 101, 116]), ne_list hdo (c := [100, 111]), ne_list hif (c := [105, 102]), ne_list hwhile (c := [119, 104, 105, 108, 101]), ne_list hfor (c := [102, 111, 114]), ne_list hsay (c := [115, 97, 121]), ne_list hback (c := [98, 97, 99, 107]), ne_list hleave (c := [108, 101, 97, 118, 101]), ne_list hnext (c := [110, 101, 120, 116]), ne_list hput (c := [112, 117, 116]), ne_list hrun (c := [114, 117, 110]), ne_list hhput (c := [104, 112, 117, 116]), ne_list htput (c := [116, 112, 117, 116])] <;> first | exact Bool.false_ne_true | decide
  rw [hn]
  rfl

theorem endW_open (w : Nat) (hw : w ≤ 7) (ho : isW (sgAt L i) [40] = true) : endW L w i = openE L i (openF (sgAt L (i + 1)).toList w) := by
  obtain rfl | rfl | rfl | rfl | rfl | rfl | rfl | rfl : w = 0 ∨ w = 1 ∨ w = 2 ∨ w = 3 ∨ w = 4 ∨ w = 5 ∨ w = 6 ∨ w = 7 := by omega
  · rfl
  · exact open_sum ho
  · exact open_rule ho
  · exact open_deed ho
  · exact nmE_open ho
  · show isE L (fm L 5 (nmE L (isE L i [40]))) [41] = _
    rw [isE_is ho]
    rfl
  · show fm L 3 i = _
    rw [fm_par]
    unfold parS
    rw [if_pos ho]
    rfl
  · show isE L (fm L 7 (isE L i [40])) [41] = _
    rw [isE_is ho]
    rfl
end

/-- Forms have such parts alone. -/
def okL (t : List Nat × Option Nat) : Prop := (∀ p ∈ t.1, p ≤ 7) ∧ (t.2 = none ∨ t.2 = some 1 ∨ t.2 = some 3 ∨ t.2 = some 4 ∨ t.2 = some 6)
theorem okL_next {t : List Nat × Option Nat} (h : okL t) : okL (nextL t) := ⟨fun p hp => h.1 p (List.mem_of_mem_tail hp), h.2⟩
theorem okL_want {t : List Nat × Option Nat} (h : okL t) : wantN t ≤ 7 := by
  obtain ⟨ps, r⟩ := t
  cases ps with
  | nil =>
    obtain h2 := h.2
    simp only at h2
    rcases h2 with rfl | rfl | rfl | rfl | rfl <;> decide
  | cons p ps => exact h.1 p (by simp)
theorem formL_ok : ∀ g ∈ formL, okL (g.2.2.1, g.2.2.2) := by
  intro g hg
  unfold formL at hg
  simp only [List.mem_cons, List.not_mem_nil, or_false] at hg
  rcases hg with rfl | rfl | rfl | rfl | rfl | rfl | rfl | rfl | rfl | rfl | rfl | rfl | rfl | rfl | rfl | rfl | rfl | rfl | rfl | rfl | rfl | rfl | rfl | rfl | rfl | rfl | rfl | rfl | rfl | rfl | rfl | rfl | rfl | rfl <;> exact ⟨by decide, by decide⟩
theorem openF_ok {h : List UInt8} {w : Nat} {g : List UInt8 × Nat × List Nat × Option Nat} (hg : openF h w = some g) : okL (g.2.2.1, g.2.2.2) := formL_ok g (List.mem_of_find?_eq_some hg)

section
variable {L : List ByteArray}
/-- What is left to do behind a part. -/
noncomputable def outE (L : List ByteArray) (e : Int) (t : List Nat × Option Nat) (S : List (List Nat × Option Nat)) : Int :=
  if e < 0 then -1 else match S with
    | [] => e
    | _ :: _ => mach L e t S
theorem outE_neg (t : List Nat × Option Nat) (S : List (List Nat × Option Nat)) : outE L (-1) t S = -1 := rfl
theorem close_out {i : Int} {t : List Nat × Option Nat} (ht : okL t) (h0 : 0 ≤ i) (hout : (L.length : Int) ≤ i) (hi : i ≤ (L.length : Int) + 1) : closeE L t i = -1 := by
  have hE : ∀ w, endW L w i = -1 := fun w => by
    have := endW_ends (L := L) (i := i) w (by omega)
    unfold Ends at this
    omega
  have hs : ∀ c : List UInt8, c ≠ [] → isW (sgAt L i) c = false := fun c hc => by rw [sgAt_out (by omega)]; exact isW_nil c hc
  obtain ⟨ps, r⟩ := t
  cases ps with
  | cons p ps =>
    show isE L (restE L r (partsE L ps (endW L p i))) [41] = -1
    rw [hE, parts_neg, rest_neg]
    exact isE_neg (by decide) (by decide)
  | nil =>
    show isE L (restE L r i) [41] = -1
    cases r with
    | none => exact isE_not (hs _ (by decide))
    | some p =>
      have hp : p = 1 ∨ p = 3 ∨ p = 4 ∨ p = 6 := by
        have := ht.2
        simpa using this
      rw [rest_step hp h0 hi (hs _ (by decide)), hE, rest_neg]
      exact isE_neg (by decide) (by decide)
theorem close_shut {i : Int} {t : List Nat × Option Nat} (ht : okL t) (hc : isW (sgAt L i) [41] = true) : closeE L t i = if mayB t then i + 1 else -1 := by
  obtain ⟨h0, h1⟩ := sgAt_shut hc
  obtain ⟨ps, r⟩ := t
  cases ps with
  | cons p ps =>
    show isE L (restE L r (partsE L ps (endW L p i))) [41] = -1
    rw [endW_shut p hc, parts_neg, rest_neg]
    exact isE_neg (by decide) (by decide)
  | nil =>
    show isE L (restE L r i) [41] = i + 1
    cases r with
    | none => exact isE_is hc
    | some p =>
      have hp : p = 1 ∨ p = 3 ∨ p = 4 ∨ p = 6 := by
        have := ht.2
        simpa using this
      rw [rest_stop hp h0 (by omega) hc]
      exact isE_is hc
theorem close_part {i : Int} {t : List Nat × Option Nat} (ht : okL t) (h0 : 0 ≤ i) (h1 : i < (L.length : Int)) (hc : isW (sgAt L i) [41] = false) : closeE L t i = closeE L (nextL t) (endW L (wantN t) i) := by
  obtain ⟨ps, r⟩ := t
  cases ps with
  | cons p ps => rfl
  | nil =>
    cases r with
    | none =>
      show isE L i [41] = isE L (-1) [41]
      rw [isE_not hc, isE_neg (by decide) (by decide)]
    | some p =>
      have hp : p = 1 ∨ p = 3 ∨ p = 4 ∨ p = 6 := by
        have := ht.2
        simpa using this
      show isE L (restE L (some p) i) [41] = isE L (restE L (some p) (endW L p i)) [41]
      rw [rest_step hp h0 (by omega) hc]
theorem mach_main : ∀ n : Nat,
    (∀ i t S, 0 ≤ i → i < (L.length : Int) → (L.length : Int) - i < (n : Int) → isW (sgAt L i) [41] = false → okL t → mach L i t S = outE L (endW L (wantN t) i) (nextL t) S) ∧
    (∀ i t u S, 0 ≤ i → i ≤ (L.length : Int) + 1 → (L.length : Int) - i < (n : Int) → okL t → mach L i t (u :: S) = outE L (closeE L t i) u S)
  | 0 => by
    refine ⟨fun i t S h0 h1 hn => by omega, fun i t u S h0 h1 hn ht => ?_⟩
    rw [mach_out (by omega), close_out ht h0 (by omega) h1]
    rfl
  | n + 1 => by
    obtain ⟨_, IC⟩ := mach_main n
    have part : ∀ i t S, 0 ≤ i → i < (L.length : Int) → (L.length : Int) - i < ((n + 1 : Nat) : Int) → isW (sgAt L i) [41] = false → okL t → mach L i t S = outE L (endW L (wantN t) i) (nextL t) S := fun i t S h0 h1 hn hc ht => by
      cases ho : isW (sgAt L i) [40]
      · rw [endW_alone _ ho]
        cases ha : aloneB (sgAt L i) (wantN t)
        · rw [mach_not h0 h1 hc ho ha]
          rfl
        · simp only [if_true]
          unfold outE
          rw [if_neg (by omega)]
          cases S with
          | nil => exact mach_one h0 h1 hc ho ha
          | cons u S => exact mach_go h0 h1 hc ho ha
      · rw [endW_open _ (okL_want ht) ho]
        cases hg : openF (sgAt L (i + 1)).toList (wantN t) with
        | none =>
          rw [mach_bad h0 h1 hc ho hg]
          rfl
        | some g =>
          rw [mach_open h0 h1 hc ho hg]
          have hl := openF_ok hg
          show _ = outE L (closeE L (g.2.2.1, g.2.2.2) (if g.1.isEmpty then i + 1 else i + 2)) (nextL t) S
          split
          · exact IC _ _ _ _ (by omega) (by omega) (by omega) hl
          · exact IC _ _ _ _ (by omega) (by omega) (by omega) hl
    refine ⟨part, fun i t u S h0 h1 hn ht => ?_⟩
    by_cases hin : i < (L.length : Int)
    · cases hc : isW (sgAt L i) [41]
      · rw [part i t (u :: S) h0 hin hn hc ht, close_part ht h0 hin hc]
        have hE := endW_ends (L := L) (i := i) (wantN t) (by omega)
        generalize endW L (wantN t) i = e at hE
        unfold Ends at hE
        by_cases he : e = -1
        · subst he
          rw [close_neg]
          rfl
        · unfold outE
          rw [if_neg (by omega)]
          exact IC e (nextL t) u S (by omega) (by omega) (by omega) (okL_next ht)
      · rw [close_shut ht hc]
        cases hm : mayB t
        · rw [mach_no h0 hin hc hm]
          rfl
        · simp only [if_true]
          unfold outE
          rw [if_neg (by omega)]
          cases S with
          | nil => exact mach_last h0 hin hc hm
          | cons v S => exact mach_shut h0 hin hc hm
    · rw [mach_out (by omega), close_out ht h0 (by omega) h1]
      rfl
/-- The run from the start: where what is asked for ends. -/
theorem mach_whole (w : Nat) (hw : w ≤ 7) (i : Int) (hi : w = 1 ∨ w = 3) : mach L i ([w], none) [] = endW L w i := by
  by_cases hin : 0 ≤ i ∧ i < (L.length : Int)
  · obtain ⟨h0, h1⟩ := hin
    cases hc : isW (sgAt L i) [41]
    · rw [(mach_main (L := L) (L.length + 1)).1 i ([w], none) [] h0 h1 (by omega) hc ⟨fun p hp => by rw [List.mem_singleton] at hp; omega, Or.inl rfl⟩]
      show outE L (endW L w i) _ [] = _
      have hE := endW_ends (L := L) (i := i) w (by omega)
      generalize endW L w i = e at hE
      unfold Ends at hE
      unfold outE
      split
      · omega
      · rfl
    · rw [mach_no h0 h1 hc rfl, endW_shut w hc]
  · rw [mach_out hin]
    have hE : Ends L i (endW L w i) := by
      rcases hi with rfl | rfl
      · exact (fm_good L).1 0 i (by decide)
      · exact (fm_good L).1 1 i (by decide)
    unfold Ends at hE
    omega
end
end Go.Proofs.YtlmibonebiaocaaDoor
