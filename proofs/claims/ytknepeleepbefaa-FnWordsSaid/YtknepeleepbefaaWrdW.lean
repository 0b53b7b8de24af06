/-
  Chapter 10, Ended and Words, the program's and the model's.
-/
import Derived.Test.YtknepeleepbefaaShwW
import Derived.Test.YtknepeleepbefaaShelf
import Derived.WalkSpells
import Derived.WalkLawsBesides
import Derived.Handy
import Derived.Deep.QuietTactic
import Derived.BigQuiet
namespace Go.Proofs.Ytknepeleepbefaa
open Go.RowKit

/-- Did it end, with that fault? -/
def endB (f : Int) : Bool := !decide (f = 4) && !decide (f = 5)

set_option maxHeartbeats 1000000 in
theorem endedI_any (v : Value) (f s : Int) (w : World) :
    Calls Try.prog 15 #[.agg #[v, .int .i64 f, .int .i64 s]] w fun e w' => e = .returned (.bool (endB f)) ∧ Below w.heap.size w w' := by
  go_each [f = 4, f = 5] => (
    go_enter Try.func15, Try.ntmps15
    go_wp2
    go_ret
    exact ⟨by simp [endB, *], balloc (Below.refl _ _) _⟩)

set_option maxHeartbeats 1000000 in
theorem endedS_any (v : Value) (f s : Int) (w : World) :
    Calls Try.prog 13 #[.agg #[v, .int .i64 f, .int .i64 s]] w fun e w' => e = .returned (.bool (endB f)) ∧ Below w.heap.size w w' := by
  go_each [f = 4, f = 5] => (
    go_enter Try.func13, Try.ntmps13
    go_wp2
    go_ret
    exact ⟨by simp [endB, *], balloc (Below.refl _ _) _⟩)

/-- The word of a fault, by its number. -/
def endL : List ByteArray := [⟨#[101, 110, 100]⟩, ⟨#[107, 105, 110, 100]⟩, ⟨#[111, 118, 101, 114]⟩, ⟨#[107, 101, 121]⟩, ⟨#[102, 117, 101, 108]⟩, ⟨#[109, 97, 110, 121]⟩]
/-- The word of a fault; empty of another one. -/
def endT (f : Int) : ByteArray := if 0 ≤ f ∧ f ≤ 5 then endL.getD f.toNat ⟨#[]⟩ else ⟨#[]⟩

set_option maxHeartbeats 1000000 in
theorem endWord_any (f : Int) (w : World) :
    Calls Try.prog 19 #[.int .i64 f] w fun e w' => e = .returned (.string (endT f)) ∧ w' = w := by
  by_cases h : 0 ≤ f ∧ f ≤ 5
  · obtain rfl | rfl | rfl | rfl | rfl | rfl : f = 0 ∨ f = 1 ∨ f = 2 ∨ f = 3 ∨ f = 4 ∨ f = 5 := by omega
    all_goals (
      go_enter Try.func19, Try.ntmps19
      go_wp2
      go_ret
      exact ⟨rfl, rfl⟩)
  · have HE : Hid (endT f = ⟨#[]⟩) := if_neg h
    have h0 : f ≠ 0 := by omega
    have h1 : f ≠ 1 := by omega
    have h2 : f ≠ 2 := by omega
    have h3 : f ≠ 3 := by omega
    have h4 : f ≠ 4 := by omega
    have h5 : f ≠ 5 := by omega
    clear h
    go_enter Try.func19, Try.ntmps19
    go_wp2
    go_ret
    exact ⟨by rw [HE.out]; rfl, rfl⟩

/-- The first k texts with a / between, as the model puts them together. -/
def wbT (L : List ByteArray) : Nat → ByteArray
  | 0 => ⟨#[]⟩
  | k + 1 => (if k = 0 then wbT L k else wbT L k ++ ⟨#[47]⟩) ++ L.getD k ⟨#[]⟩
theorem wb_one (L : List ByteArray) : wbT L 1 = wbT L 0 ++ L.getD 0 ⟨#[]⟩ := rfl
theorem wb_more (L : List ByteArray) (k : Nat) : wbT L (k + 1 + 1) = wbT L (k + 1) ++ ⟨#[47]⟩ ++ L.getD (k + 1) ⟨#[]⟩ := rfl
theorem getD_at {L : List ByteArray} {k : Nat} (h : k < L.length) : L.getD k ⟨#[]⟩ = L[k] := by simp [List.getD, h]
theorem wb_size (L : List ByteArray) : ∀ k, k ≤ L.length → (wbT L k).size ≤ roomN L k
  | 0, _ => Nat.zero_le _
  | 1, h => by
    rw [wb_one, ByteArray.size_append, getD_at (by omega), room_succ (by omega)]
    show 0 + _ ≤ _
    omega
  | k + 1 + 1, h => by
    have ih := wb_size L (k + 1) (by omega)
    rw [wb_more, ByteArray.size_append, ByteArray.size_append, getD_at (by omega), room_succ (by omega)]
    show _ + 1 + _ ≤ _
    omega

set_option maxHeartbeats 1000000 in
theorem l1Words_any (a : Option Addr) (cap : Nat) (L : List ByteArray) (w : World) (h : ArgT w a L) (hL : L.length ≤ 1048576) (hR : ∀ k, k ≤ L.length → roomN L k ≤ 3000000) :
    Calls Try.prog 21 #[.slice a L.length cap, .string ⟨#[47]⟩] w fun e w' => e = .returned (.string (wbT L L.length)) ∧ w' = w := by
  go_enter Try.func21, Try.ntmps21
  go_wp2
  go_loopw [5, 6] (fun q i wr => ∃ k : Nat, k ≤ L.length ∧ q = .string (wbT L k) ∧ i = .int .i64 (k : Int) ∧ wr = w) (fun _ i _ => L.length - (intOf i).toNat)
  case atStart => exact ⟨0, Nat.zero_le _, rfl, rfl, rfl⟩
  case round =>
    obtain ⟨k, hk, rfl, rfl, rfl⟩ := hrel
    by_cases hlt : k < L.length
    · obtain ⟨sb, off, rfl, hs, hc, hm⟩ := h k hlt
      have hz := wb_size L k hk
      have hr1 := hR k hk
      have hr2 := hR (k + 1) hlt
      rw [room_succ hlt] at hr2
      have HG : Hid (L.getD k ⟨#[]⟩ = L[k]) := getD_at hlt
      have hz2 : (wbT L k).size ≤ 3000000 := by omega
      have hm2 : L[k].size ≤ 3000000 := by omega
      clear hz hr1 hr2 hm
      cases k with
      | zero =>
        have HW : Hid (wbT L 1 = wbT L 0 ++ L[0]) := by show wbT L 1 = _; rw [wb_one, HG.out]
        generalize L[0] = t at hc hm2 HW
        generalize wbT L 0 = S at hz2 HW
        simp only [Nat.add_zero] at hc
        go_wp2
        go_roundw
        case rel => exact ⟨1, hlt, by rw [HW.out], by go_num, trivial⟩
        case measure => simp [intOf]; omega
      | succ j =>
        have HW : Hid (wbT L (j + 1 + 1) = wbT L (j + 1) ++ ⟨#[47]⟩ ++ L[j + 1]) := by show wbT L (j + 1 + 1) = _; rw [wb_more, HG.out]
        generalize L[j + 1] = t at hc hm2 HW
        generalize wbT L (j + 1) = S at hz2 HW
        go_wp2
        go_roundw
        case rel => exact ⟨j + 1 + 1, hlt, by rw [HW.out], by go_num, trivial⟩
        case measure => simp [intOf]; omega
    · have e : k = L.length := by omega
      subst e
      go_wp2
      go_ret
      exact ⟨rfl, rfl⟩

/-- What Words says: of texts and a fault. -/
def wordT (L : List ByteArray) (f : Int) : ByteArray := if 0 ≤ f ∧ f ≤ 5 then (if L.length = 0 then endT f else wbT L L.length ++ ⟨#[32]⟩ ++ endT f) else ⟨#[]⟩

theorem word_none {L : List ByteArray} {f : Int} (h : ¬ (0 ≤ f ∧ f ≤ 5)) : wordT L f = ⟨#[]⟩ := if_neg h
theorem word_end {L : List ByteArray} {f : Int} (h : 0 ≤ f ∧ f ≤ 5) (hL : L.length = 0) : wordT L f = endT f := by unfold wordT; rw [if_pos h, if_pos hL]
theorem word_said {L : List ByteArray} {f : Int} (h : 0 ≤ f ∧ f ≤ 5) (hL : L.length ≠ 0) : wordT L f = wbT L L.length ++ ⟨#[32]⟩ ++ endT f := by unfold wordT; rw [if_pos h, if_neg hL]
theorem empty_app (t : ByteArray) : (⟨#[]⟩ : ByteArray) ++ t = t := ByteArray.empty_append

set_option maxHeartbeats 1000000 in
theorem wordsS_any (a : Option Addr) (cap : Nat) (L : List ByteArray) (f s : Int) (w : World) (h : ArgT w a L) (hL : L.length ≤ 1048576) (hR : ∀ k, k ≤ L.length → roomN L k ≤ 3000000) :
    Calls Try.prog 10 #[.agg #[.slice a L.length cap, .int .i64 f, .int .i64 s]] w fun e w' => e = .returned (.string (wordT L f)) ∧ Below w.heap.size w w' := by
  have hT := bbox0 w (.slice a L.length cap) (.int .i64 f) (.int .i64 s) 26
  have hBA : Below w.heap.size w (w.alloc (.cells #[.slice a L.length cap, .int .i64 f, .int .i64 s] 26)) := balloc (Below.refl _ _) _
  have hcall := l1Words_any a cap L _ (h.call hBA) hL hR
  have hz : (wbT L L.length).size ≤ 3000000 := Nat.le_trans (wb_size L _ (Nat.le_refl _)) (hR _ (Nat.le_refl _))
  obtain ⟨c0, c1, c2, _⟩ := hT
  by_cases hf : 0 ≤ f ∧ f ≤ 5
  · by_cases h0 : L.length = 0
    · have HW : Hid (wordT L f = endT f) := word_end hf h0
      have HX : Hid (wbT L L.length = ⟨#[]⟩) := by show wbT L L.length = _; rw [h0]; rfl
      obtain rfl : L = [] := List.length_eq_zero_iff.1 h0
      clear h0 hz
      obtain rfl | rfl | rfl | rfl | rfl | rfl : f = 0 ∨ f = 1 ∨ f = 2 ∨ f = 3 ∨ f = 4 ∨ f = 5 := by omega
      all_goals (
        clear hf
        go_enter Try.func10, Try.ntmps10
        go_wp2_with fail
        refine hcall.mono ?_
        rintro e w1 ⟨rfl, rfl⟩
        rw [HX.out]
        go_wp2
        go_ret
        exact ⟨by rw [HW.out, empty_app]; rfl, balloc hBA _⟩)
    · have HW : Hid (wordT L f = wbT L L.length ++ ⟨#[32]⟩ ++ endT f) := word_said hf h0
      have hpos : 0 < L.length := by omega
      generalize wbT L L.length = S at hz HW hcall
      clear h0
      obtain rfl | rfl | rfl | rfl | rfl | rfl : f = 0 ∨ f = 1 ∨ f = 2 ∨ f = 3 ∨ f = 4 ∨ f = 5 := by omega
      all_goals (
        clear hf
        go_enter Try.func10, Try.ntmps10
        go_wp2_with fail
        refine hcall.mono ?_
        rintro e w1 ⟨rfl, rfl⟩
        go_wp2
        go_ret
        exact ⟨by rw [HW.out]; rfl, balloc hBA _⟩)
  · have HW : Hid (wordT L f = ⟨#[]⟩) := word_none hf
    by_cases h0 : 0 ≤ f
    · have h5 : decide (f ≤ 5) = false := decide_eq_false (by omega)
      clear hf
      by_cases hl : 0 < L.length
      all_goals (
        go_enter Try.func10, Try.ntmps10
        go_wp2_with fail
        refine hcall.mono ?_
        rintro e w1 ⟨rfl, rfl⟩
        generalize wbT L L.length = S at hz
        go_wp2
        go_ret
        exact ⟨by rw [HW.out]; rfl, hBA⟩)
    · clear hf
      by_cases hl : 0 < L.length
      all_goals (
        go_enter Try.func10, Try.ntmps10
        go_wp2_with fail
        refine hcall.mono ?_
        rintro e w1 ⟨rfl, rfl⟩
        generalize wbT L L.length = S at hz
        go_wp2
        go_ret
        exact ⟨by rw [HW.out]; rfl, hBA⟩)

/-- The texts with a / between, as the library puts them together. -/
theorem wb_join (x : ByteArray) (r : List ByteArray) : ∀ k, k ≤ r.length → (wbT (x :: r) (k + 1)).data.toList = x.data.toList ++ Lib.joinTail [47] ((r.map (·.data.toList)).take k)
  | 0, _ => by
    rw [wb_one]
    simp [wbT, Lib.joinTail, ByteArray.data_append]
  | k + 1, h => by
    have ih := wb_join x r k (by omega)
    rw [wb_more, Lib.joinTail_take_succ [47] _ k (r[k]'(by omega)).data.toList (by simp; exact ⟨r[k]'(by omega), by simp [List.getElem?_eq_getElem (by omega : k < r.length)], rfl⟩)]
    simp only [ByteArray.data_append, Array.toList_append, ih]
    simp [List.getD, (by omega : k < r.length)]
theorem wb_all (L : List ByteArray) : (⟨(Lib.join (L.map (·.data.toList)) [47]).toArray⟩ : ByteArray) = wbT L L.length := by
  cases L with
  | nil => rfl
  | cons x r =>
    have h := wb_join x r r.length (Nat.le_refl _)
    rw [List.take_of_length_le (by simp)] at h
    rw [List.map_cons, Lib.join_cons, ← h]
    rfl

theorem join_len (L : List ByteArray) : (Lib.join (L.map (·.data.toList)) [47]).length = (wbT L L.length).size := by rw [← wb_all]; simp [ByteArray.size]

theorem end_facts {f : Int} (h : 0 ≤ f ∧ f ≤ 5) : (endT f).toList.isEmpty = false ∧ (endT f).size ≤ 4 := by
  obtain rfl | rfl | rfl | rfl | rfl | rfl : f = 0 ∨ f = 1 ∨ f = 2 ∨ f = 3 ∨ f = 4 ∨ f = 5 := by omega
  all_goals (refine ⟨by decide +kernel, by decide⟩)

set_option maxHeartbeats 1000000 in
theorem wordsI_any (a : Option Addr) (cap : Nat) (L : List ByteArray) (f s : Int) (w : World) (h : ArgT w a L) (hcap : L.length ≤ cap) (hL : L.length ≤ 1048576) (hR : ∀ k, k ≤ L.length → roomN L k ≤ 3000000) :
    Calls Try.prog 9 #[.agg #[.slice a L.length cap, .int .i64 f, .int .i64 s]] w fun e w' => e = .returned (.string (wordT L f)) ∧ Below w.heap.size w w' := by
  have hT := bbox0 w (.slice a L.length cap) (.int .i64 f) (.int .i64 s) 26
  have hBA : Below w.heap.size w (w.alloc (.cells #[.slice a L.length cap, .int .i64 f, .int .i64 s] 26)) := balloc (Below.refl _ _) _
  have hz : (wbT L L.length).size ≤ 3000000 := Nat.le_trans (wb_size L _ (Nat.le_refl _)) (hR _ (Nat.le_refl _))
  obtain ⟨c0, c1, c2, _⟩ := hT
  by_cases hf : 0 ≤ f ∧ f ≤ 5
  · obtain ⟨hE, hEz⟩ := end_facts hf
    by_cases h0 : L.length = 0
    · have HW : Hid (wordT L f = endT f) := word_end hf h0
      obtain rfl : L = [] := List.length_eq_zero_iff.1 h0
      clear h0 hz
      go_enter Try.func9, Try.ntmps9
      go_wp2_with fail
      refine (endWord_any _ _).mono ?_
      rintro e w1 ⟨rfl, rfl⟩
      generalize endT f = E at hE hEz HW
      go_wp2
      go_ret
      exact ⟨by rw [HW.out]; rfl, hBA⟩
    · have HW : Hid (wordT L f = wbT L L.length ++ ⟨#[32]⟩ ++ endT f) := word_said hf h0
      have hpos : ¬ ((L.length : Int) = 0) := by omega
      obtain ⟨sb, off, rfl, hsb, _, _⟩ := h 0 (by omega)
      have hj := Try.strings_Join sb off cap L ⟨#[47]⟩ _ (fun j x hx => by
        obtain ⟨hjl, rfl⟩ := List.getElem?_eq_some_iff.1 hx
        obtain ⟨sb', off', he, _, hc, _⟩ := (h.call hBA) j hjl
        injection he with he
        injection he with e1 e2 _
        subst e1 e2
        exact hc) (Nat.lt_of_lt_of_le hsb hBA.size) (by omega) hcap (by
          have e := join_len L
          have e2 : (⟨#[47]⟩ : ByteArray).data.toList = [47] := rfl
          rw [e2]
          omega)
      rw [show (⟨#[47]⟩ : ByteArray).data.toList = [47] from rfl, wb_all] at hj
      have HJ : Hid (Calls Try.prog 20 #[.slice (some ⟨sb, off, none⟩) L.length cap, .string ⟨#[47]⟩] (w.alloc (.cells #[.slice (some ⟨sb, off, none⟩) L.length cap, .int .i64 f, .int .i64 s] 26)) fun e w' => e = .returned (.string (wbT L L.length)) ∧ Below (w.alloc (.cells #[.slice (some ⟨sb, off, none⟩) L.length cap, .int .i64 f, .int .i64 s] 26)).heap.size (w.alloc (.cells #[.slice (some ⟨sb, off, none⟩) L.length cap, .int .i64 f, .int .i64 s] 26)) w') := hj
      clear hj h0
      go_enter Try.func9, Try.ntmps9
      go_wp2_with fail
      refine (endWord_any _ _).mono ?_
      rintro e w1 ⟨rfl, rfl⟩
      generalize endT f = E at hE hEz HW
      go_wp2_with fail
      refine HJ.out.mono ?_
      rintro e w2 ⟨rfl, hb2⟩
      have hB2 := bstep hBA hb2
      generalize wbT L L.length = S at hz HW
      go_wp2
      go_ret
      exact ⟨by rw [HW.out]; rfl, hB2⟩
  · have HW : Hid (wordT L f = ⟨#[]⟩) := word_none hf
    have HE : Hid (endT f = ⟨#[]⟩) := if_neg hf
    clear hf
    go_enter Try.func9, Try.ntmps9
    go_wp2_with fail
    refine (endWord_any _ _).mono ?_
    rintro e w1 ⟨rfl, rfl⟩
    rw [HE.out]
    go_wp2
    go_ret
    exact ⟨by rw [HW.out]; rfl, hBA⟩

end Go.Proofs.Ytknepeleepbefaa
