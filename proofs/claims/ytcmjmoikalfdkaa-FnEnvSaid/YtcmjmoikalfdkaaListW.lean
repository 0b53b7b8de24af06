/-
  Lists of texts that came in: their sum of sizes, and whether each is a sign.
-/
import Derived.Test.YtcmjmoikalfdkaaSignK
namespace Go.Proofs.Ytcmjmoikalfdkaa
open Go.RowKit

/-- Texts that lie behind one another at an address. -/
def ArgT (w : World) (a : Option Addr) (L : List ByteArray) : Prop := ∀ i (h : i < L.length), ∃ sb off, a = some ⟨sb, off, none⟩ ∧ sb < w.heap.size ∧ w.cell? ⟨sb, off + i, none⟩ = some (.string L[i]) ∧ L[i].size ≤ maxLen
theorem ArgT.call {w w' : World} {a : Option Addr} {L : List ByteArray} (h : ArgT w a L) (hb : Below w.heap.size w w') : ArgT w' a L := fun i hi => by
  obtain ⟨sb, off, ha, hs, hc, hm⟩ := h i hi
  exact ⟨sb, off, ha, Nat.lt_of_lt_of_le hs hb.size, (hb.cell (p := ⟨sb, off + i, none⟩) hs).trans hc, hm⟩

/-- Is each of them a sign? -/
def signsB (L : List ByteArray) : Bool := L.all signB
theorem signs_no {L : List ByteArray} {k : Nat} (h : k < L.length) (hb : signB L[k] = false) : signsB L = false := by
  unfold signsB
  rw [List.all_eq_false]
  exact ⟨L[k], List.getElem_mem h, by simp [hb]⟩
theorem signs_yes {L : List ByteArray} (h : ∀ k (h : k < L.length), signB L[k] = true) : signsB L = true := by
  unfold signsB
  rw [List.all_eq_true]
  intro x hx
  obtain ⟨i, hi, rfl⟩ := List.getElem_of_mem hx
  exact h i hi

set_option maxHeartbeats 1000000 in
theorem l2Signs_any (a : Option Addr) (cap : Nat) (L : List ByteArray) (w : World) (h : ArgT w a L) (hL : L.length ≤ 1048576) :
    Calls Try.prog 114 #[.slice a L.length cap] w fun e w' => e = .returned (.bool (signsB L)) ∧ Below w.heap.size w w' := by
  go_enter Try.func114, Try.ntmps114
  go_wp2
  go_loopw [3] (fun i wr => ∃ k : Nat, k ≤ L.length ∧ i = .int .i64 (k : Int) ∧ Below w.heap.size w wr ∧ Hid (∀ j (h : j < L.length), j < k → signB L[j] = true)) (fun i _ => L.length - (intOf i).toNat)
  case atStart => exact ⟨0, Nat.zero_le _, rfl, Below.refl _ _, fun j _ hj => absurd hj (Nat.not_lt_zero _)⟩
  case round =>
    obtain ⟨k, hk, rfl, hB, HA⟩ := hrel
    by_cases hlt : k < L.length
    · obtain ⟨sb, off, rfl, hs, hc, hm⟩ := h k hlt
      have hc' := (hB.cell (p := ⟨sb, off + k, none⟩) hs).trans hc
      cases hq : signB L[k]
      · have HS : Hid (signsB L = false) := signs_no hlt hq
        generalize L[k] = t at hc' hm hq
        have HQ : Hid (signB t = false) := hq
        clear hq hc
        go_wp2_with fail
        refine (signOkS_any t _ hm).mono ?_
        rintro e w1 ⟨rfl, hb⟩
        rw [HQ.out]
        go_wp2
        go_ret
        exact ⟨by rw [HS.out]; rfl, bstep hB hb⟩
      · have HN : Hid (∀ j (h : j < L.length), j < k + 1 → signB L[j] = true) := fun j hj hlt' => by
          by_cases e : j = k
          · subst e; exact hq
          · exact HA.out j hj (by omega)
        generalize L[k] = t at hc' hm hq
        have HQ : Hid (signB t = true) := hq
        clear hq hc
        go_wp2_with fail
        refine (signOkS_any t _ hm).mono ?_
        rintro e w1 ⟨rfl, hb⟩
        rw [HQ.out]
        have hB1 := bstep hB hb
        clear hb
        go_wp2
        go_roundw
        case rel => exact ⟨k + 1, by omega, by go_num, hB1, HN⟩
        case measure => simp [intOf]; omega
    · have HS : Hid (signsB L = true) := signs_yes fun j hj => HA.out j hj (by omega)
      go_wp2
      go_ret
      exact ⟨by rw [HS.out]; rfl, hB⟩

end Go.Proofs.Ytcmjmoikalfdkaa
