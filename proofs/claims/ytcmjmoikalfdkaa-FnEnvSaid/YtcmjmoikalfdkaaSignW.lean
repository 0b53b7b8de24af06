/-
  The walks of chapter 2's leaves: bytes, names, numbers and texts between quotes, as the program and its model tell them.
-/
import Derived.Test.YtcmjmoikalfdkaaRows
import Derived.Test.YtcmjmoikalfdkaaText
import Derived.Test.YtcmjmoikalfdkaaSign
import Derived.WalkKit
import Derived.WalkSpells
import Derived.WalkLawsBesides
import Derived.Handy
import Derived.Below
namespace Go.Proofs.Ytcmjmoikalfdkaa
open Go.RowKit

set_option maxHeartbeats 400000 in
theorem letterByte_any (c : Int) (w : World) :
    Calls Try.prog 193 #[.int .u8 c] w fun e w' => e = .returned (.bool (letB c)) ∧ w' = w := by
  unfold letB
  by_cases h1 : 97 ≤ c <;> by_cases h2 : c ≤ 122
  all_goals
    go_enter Try.func193, Try.ntmps193
    go_wp2
    go_ret
    simp [h1, h2]

set_option maxHeartbeats 400000 in
theorem digitByte_any (c : Int) (w : World) :
    Calls Try.prog 194 #[.int .u8 c] w fun e w' => e = .returned (.bool (digB c)) ∧ w' = w := by
  unfold digB
  by_cases h1 : 48 ≤ c <;> by_cases h2 : c ≤ 57
  all_goals
    go_enter Try.func194, Try.ntmps194
    go_wp2
    go_ret
    simp [h1, h2]

/-- What a byte alone is. -/
def byteK (c : Int) : Int := if c = 40 ∨ c = 41 then 1 else if c = 43 ∨ c = 45 ∨ c = 42 ∨ c = 60 ∨ c = 61 ∨ c = 38 then 5 else 0

set_option maxHeartbeats 1000000 in
theorem byteKind_any (c : Int) (w : World) :
    Calls Try.prog 195 #[.int .u8 c] w fun e w' => e = .returned (.int .i64 (byteK c)) ∧ w' = w := by
  by_cases h1 : c = 40
  · subst h1
    go_enter Try.func195, Try.ntmps195
    go_wp2
    go_ret
    exact ⟨rfl, rfl⟩
  by_cases h2 : c = 41
  · subst h2
    go_enter Try.func195, Try.ntmps195
    go_wp2
    go_ret
    exact ⟨rfl, rfl⟩
  by_cases h3 : c = 43
  · subst h3
    go_enter Try.func195, Try.ntmps195
    go_wp2
    go_ret
    exact ⟨rfl, rfl⟩
  by_cases h4 : c = 45
  · subst h4
    go_enter Try.func195, Try.ntmps195
    go_wp2
    go_ret
    exact ⟨rfl, rfl⟩
  by_cases h5 : c = 42
  · subst h5
    go_enter Try.func195, Try.ntmps195
    go_wp2
    go_ret
    exact ⟨rfl, rfl⟩
  by_cases h6 : c = 60
  · subst h6
    go_enter Try.func195, Try.ntmps195
    go_wp2
    go_ret
    exact ⟨rfl, rfl⟩
  by_cases h7 : c = 61
  · subst h7
    go_enter Try.func195, Try.ntmps195
    go_wp2
    go_ret
    exact ⟨rfl, rfl⟩
  by_cases h8 : c = 38
  · subst h8
    go_enter Try.func195, Try.ntmps195
    go_wp2
    go_ret
    exact ⟨rfl, rfl⟩
  have HK : Hid (byteK c = 0) := (by simp [byteK, h1, h2, h3, h4, h5, h6, h7, h8] : byteK c = 0)
  go_enter Try.func195, Try.ntmps195
  go_wp2
  go_ret
  exact ⟨by rw [HK.out]; rfl, rfl⟩

set_option maxHeartbeats 400000 in
theorem l1In_any (x a b : Int) (w : World) :
    Calls Try.prog 109 #[.int .i64 x, .int .i64 a, .int .i64 b] w fun e w' => e = .returned (.bool (decide (a ≤ x) && decide (x ≤ b))) ∧ w' = w := by
  by_cases h1 : a ≤ x <;> by_cases h2 : x ≤ b
  all_goals
    go_enter Try.func109, Try.ntmps109
    go_wp2
    go_ret
    simp [h1, h2]

end Go.Proofs.Ytcmjmoikalfdkaa
