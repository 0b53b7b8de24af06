/-
  The texts of chapter 1: which bytes and how many of them the program, and its model, take for a right text: both answer the same at every string.
-/
import Derived.Test.YtcmjmoikalfdkaaRows
import Derived.WalkKit
import Derived.WalkSpells
import Derived.WalkLawsBesides
import Derived.Handy
import Derived.Below
namespace Go.Proofs.Ytcmjmoikalfdkaa
open Go.RowKit
def byteB (c : Int) : Bool := (decide (97 ≤ c) && decide (c ≤ 122)) || (decide (48 ≤ c) && decide (c ≤ 57)) || decide (c = 45) || decide (c = 32)
def plainB (s : ByteArray) : Bool := s.data.toList.all fun c => byteB (c.toNat : Int)
def textB (s : ByteArray) : Bool := plainB s && decide (s.size ≤ 60)

theorem plain_no (s : ByteArray) (k : Nat) (h : k < s.size) (hb : byteB (s[k].toNat : Int) = false) : plainB s = false := by
  unfold plainB
  rw [List.all_eq_false]
  exact ⟨s[k], by simp [ByteArray.getElem_eq_getElem_data], by simp [hb]⟩
theorem plain_yes (s : ByteArray) (h : ∀ k (h : k < s.size), byteB (s[k].toNat : Int) = true) : plainB s = true := by
  unfold plainB
  rw [List.all_eq_true]
  intro c hc
  obtain ⟨i, hi, rfl⟩ := List.getElem_of_mem hc
  exact h i (by simpa using hi)

def PlainTo (s : ByteArray) (k : Nat) : Prop := ∀ j (h : j < s.size), j < k → byteB (s[j].toNat : Int) = true
theorem plainTo_succ {s : ByteArray} {k : Nat} (h : k < s.size) (hp : PlainTo s k) (hb : byteB (s[k].toNat : Int) = true) : PlainTo s (k + 1) := by
  intro j hj hlt
  by_cases e : j = k
  · subst e; exact hb
  · exact hp j hj (by omega)

theorem text_no (s : ByteArray) (k : Nat) (h : k < s.size) (hb : byteB (s[k].toNat : Int) = false) : textB s = false := by
  unfold textB; rw [plain_no s k h hb]; rfl

set_option maxHeartbeats 400000 in
theorem textByte_any (c : Int) (w : World) (h0 : 0 ≤ c) (h1 : c ≤ 255) :
    Calls Try.prog 189 #[.int .u8 c] w fun e w' => e = .returned (.bool (byteB c)) ∧ w' = w := by
  go_each [97 ≤ c, c ≤ 122, 48 ≤ c, c ≤ 57, c = 45, c = 32] => (
    go_enter Try.func189, Try.ntmps189
    go_wp2
    go_ret
    refine ⟨?_, rfl⟩
    first | (simp [byteB]; done) | (simp [byteB]; omega) | (simp [byteB]; rw [Bool.eq_iff_iff]; simp; omega))

set_option maxHeartbeats 400000 in
theorem l1Plain_any (s : ByteArray) (w : World) (hs : s.size ≤ maxLen) :
    Calls Try.prog 91 #[.string s] w fun e w' => e = .returned (.bool (textB s)) ∧ w' = w := by
  unfold maxLen at hs
  go_enter Try.func91, Try.ntmps91
  go_wp2
  go_loop [3] (fun i => ∃ k : Nat, k ≤ s.size ∧ i = .int .i64 k ∧ PlainTo s k) (fun i => s.size - (intOf i).toNat)
  case atStart => exact ⟨0, Nat.zero_le _, rfl, fun j _ hj => absurd hj (Nat.not_lt_zero _)⟩
  case round =>
    obtain ⟨k, hk, rfl, hp⟩ := hrel
    by_cases hlt : k < s.size
    · by_cases h45 : (s[k].toNat : Int) = 45
      · go_wp2
        exact ⟨⟨k + 1, by omega, by go_num, plainTo_succ hlt hp (by rw [h45]; rfl)⟩, by simp [intOf]; omega⟩
      by_cases h32 : (s[k].toNat : Int) = 32
      · go_wp2
        exact ⟨⟨k + 1, by omega, by go_num, plainTo_succ hlt hp (by rw [h32]; rfl)⟩, by simp [intOf]; omega⟩
      have b45 : ((s[k].toNat : Int) != 45) = true := by simpa using h45
      have b32 : ((s[k].toNat : Int) != 32) = true := by simpa using h32
      go_wp2
      all_goals first
        | (go_ret; refine ⟨?_, rfl⟩; rw [text_no s k hlt (by unfold byteB; simp; omega)]; rfl)
        | (refine ⟨⟨k + 1, by omega, by go_num, plainTo_succ hlt hp ?_⟩, by simp [intOf]; omega⟩; unfold byteB; simp; omega)
    · have hpl : textB s = decide ((s.size : Int) ≤ 60) := by
        unfold textB; rw [plain_yes s fun j hj => hp j hj (by omega)]; simp; omega
      have HP : Hid (textB s = decide ((s.size : Int) ≤ 60)) := hpl
      clear hpl
      go_wp2
      go_ret
      refine ⟨?_, rfl⟩
      rw [HP.out]
      rfl

set_option maxHeartbeats 400000 in
theorem textOk_any (s : ByteArray) (w : World) (hs : s.size ≤ maxLen) :
    Calls Try.prog 153 #[.string s] w fun e w' => e = .returned (.bool (textB s)) ∧ w' = w := by
  unfold maxLen at hs
  by_cases h60 : (60 : Int) < (s.size : Int)
  · have hpl : textB s = false := by unfold textB; rw [decide_eq_false (by omega)]; simp
    have HP : Hid (textB s = false) := hpl
    clear hpl
    go_enter Try.func153, Try.ntmps153
    go_wp2
    go_ret
    refine ⟨?_, rfl⟩
    rw [HP.out]
    rfl
  go_enter Try.func153, Try.ntmps153
  go_wp2
  go_loop [9] (fun i => ∃ k : Nat, k ≤ s.size ∧ i = .int .i64 k ∧ PlainTo s k) (fun i => s.size - (intOf i).toNat)
  case atStart => exact ⟨0, Nat.zero_le _, rfl, fun j _ hj => absurd hj (Nat.not_lt_zero _)⟩
  case round =>
    obtain ⟨k, hk, rfl, hp⟩ := hrel
    by_cases hlt : k < s.size
    · have hub : (s[k].toNat : Int) ≤ 255 := by have := s[k].toNat_lt; omega
      cases hb : byteB (s[k].toNat : Int)
      · have HB : Hid (byteB (s[k].toNat : Int) = _) := hb
        clear hb
        go_wp2_with fail
        refine (textByte_any _ _ (by omega) hub).mono ?_
        rintro e w' ⟨rfl, rfl⟩
        rw [HB.out]
        go_wp2
        go_ret
        refine ⟨?_, rfl⟩
        rw [text_no s k hlt HB.out]
        rfl
      · have HB : Hid (byteB (s[k].toNat : Int) = _) := hb
        clear hb
        go_wp2_with fail
        refine (textByte_any _ _ (by omega) hub).mono ?_
        rintro e w' ⟨rfl, rfl⟩
        rw [HB.out]
        go_wp2
        exact ⟨⟨k + 1, by omega, by go_num, plainTo_succ hlt hp HB.out⟩, by simp [intOf]; omega⟩
    · have hpl : textB s = true := by
        unfold textB; rw [plain_yes s fun j hj => hp j hj (by omega)]; simp; omega
      have HP : Hid (textB s = true) := hpl
      clear hpl
      go_wp2
      go_ret
      refine ⟨?_, rfl⟩
      rw [HP.out]
      rfl
end Go.Proofs.Ytcmjmoikalfdkaa
