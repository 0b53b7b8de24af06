/-
  Chapter 3 as the model has it: where an item ends, how deep it is.
-/
import Derived.Test.YtlmibonebiaocaaGreatDoorFormL
namespace Go.Proofs.YtlmibonebiaocaaGreatDoor
open Go.RowKit

/-- From place i on, o being open: where the item ends. -/
def itemF (L : List ByteArray) : Nat → Nat → Nat → Int
  | 0, _, _ => -1
  | f + 1, i, o =>
    if i < L.length then
      if isW (L.getD i ⟨#[]⟩) [40] then itemF L f (i + 1) (o + 1)
      else if isW (L.getD i ⟨#[]⟩) [41] then (if o = 0 then -1 else if o = 1 then (i : Int) + 1 else itemF L f (i + 1) (o - 1))
      else if o = 0 then (i : Int) + 1 else itemF L f (i + 1) o
    else -1
/-- Where the item that begins at i ends. -/
def itemE (L : List ByteArray) (i : Int) : Int := if i < 0 then -1 else itemF L (L.length + 1) i.toNat 0

/-- The state of the model's loop: what comes out of it. -/
def Scan (L : List ByteArray) (r : Int) (first : Bool) (o : Nat) (x : Int) : Prop :=
  (first = true ∧ o = 0 ∧ itemE L x = r) ∨ (first = false ∧ 0 ≤ x ∧ ((o = 0 ∧ x = r) ∨ (1 ≤ o ∧ ∃ f : Nat, (L.length : Int) ≤ x + (f : Int) ∧ itemF L (f + 1) x.toNat o = r)))
section
variable {L : List ByteArray} {r x : Int} {first : Bool} {o : Nat}
theorem scan_out (h : Scan L r first o x) (hgo : first = true ∨ 1 ≤ o) (hx : x < 0 ∨ (L.length : Int) ≤ x) : r = -1 := by
  rcases h with ⟨_, _, h⟩ | ⟨h1, h0, ⟨h2, _⟩ | ⟨_, f, _, h⟩⟩
  · rw [← h]
    unfold itemE
    split
    · rfl
    · unfold itemF
      rw [if_neg (by omega)]
  · rcases hgo with hg | hg
    · rw [h1] at hg; exact absurd hg (by decide)
    · omega
  · rw [← h]
    unfold itemF
    rw [if_neg (by omega)]
theorem scan_done (h : Scan L r false 0 x) : r = x := by
  rcases h with ⟨h, _⟩ | ⟨_, _, ⟨_, h⟩ | ⟨h, _⟩⟩
  · exact absurd h (by decide)
  · exact h.symm
  · omega
/-- Where something is left to read: what it comes to. -/
theorem scan_in (h : Scan L r first o x) (hgo : first = true ∨ 1 ≤ o) (h0 : 0 ≤ x) : ∃ f : Nat, (L.length : Int) ≤ x + (f : Int) ∧ itemF L (f + 1) x.toNat o = r := by
  rcases h with ⟨_, h2, h⟩ | ⟨h3, _, ⟨h2, _⟩ | ⟨_, f, hf, h⟩⟩
  · refine ⟨L.length, by omega, ?_⟩
    subst h2
    unfold itemE at h
    rw [if_neg (by omega)] at h
    exact h
  · rcases hgo with hg | hg
    · rw [h3] at hg; exact absurd hg (by decide)
    · omega
  · exact ⟨f, hf, h⟩
theorem scan_open {k : Nat} (h : Scan L r first o (k : Int)) (hgo : first = true ∨ 1 ≤ o) (h1 : k < L.length) (hs : isW L[k] [40] = true) : Scan L r false (o + 1) ((k : Int) + 1) := by
  obtain ⟨f, hf, he⟩ := scan_in h hgo (by omega)
  right
  refine ⟨rfl, by omega, Or.inr ⟨by omega, ?_⟩⟩
  have hf1 : 1 ≤ f := by omega
  obtain ⟨g, rfl⟩ : ∃ g, f = g + 1 := ⟨f - 1, by omega⟩
  refine ⟨g, by omega, ?_⟩
  unfold itemF at he
  rw [Int.toNat_natCast, if_pos h1] at he
  simp only [List.getD, List.getElem?_eq_getElem h1, Option.getD_some, hs] at he
  rw [show ((k : Int) + 1).toNat = k + 1 by omega]
  exact he
theorem scan_shut {k : Nat} (h : Scan L r first o (k : Int)) (hgo : first = true ∨ 1 ≤ o) (h1 : k < L.length) (hn : isW L[k] [40] = false) (hs : isW L[k] [41] = true) : (o = 0 ∧ r = -1) ∨ (1 ≤ o ∧ Scan L r false (o - 1) ((k : Int) + 1)) := by
  obtain ⟨f, hf, he⟩ := scan_in h hgo (by omega)
  have hf1 : 1 ≤ f := by omega
  obtain ⟨g, rfl⟩ : ∃ g, f = g + 1 := ⟨f - 1, by omega⟩
  unfold itemF at he
  rw [Int.toNat_natCast, if_pos h1] at he
  simp only [List.getD, List.getElem?_eq_getElem h1, Option.getD_some, hs, hn] at he
  by_cases ho : o = 0
  · subst ho
    left
    exact ⟨rfl, he.symm⟩
  · right
    refine ⟨by omega, Or.inr ⟨rfl, by omega, ?_⟩⟩
    by_cases ho1 : o = 1
    · subst ho1
      left
      exact ⟨rfl, he⟩
    · right
      refine ⟨by omega, g, by omega, ?_⟩
      rw [show ((k : Int) + 1).toNat = k + 1 by omega]
      simpa [ho, ho1] using he
theorem scan_other {k : Nat} (h : Scan L r first o (k : Int)) (hgo : first = true ∨ 1 ≤ o) (h1 : k < L.length) (hn : isW L[k] [40] = false) (hs : isW L[k] [41] = false) : Scan L r false o ((k : Int) + 1) := by
  obtain ⟨f, hf, he⟩ := scan_in h hgo (by omega)
  have hf1 : 1 ≤ f := by omega
  obtain ⟨g, rfl⟩ : ∃ g, f = g + 1 := ⟨f - 1, by omega⟩
  unfold itemF at he
  rw [Int.toNat_natCast, if_pos h1] at he
  simp only [List.getD, List.getElem?_eq_getElem h1, Option.getD_some, hs, hn] at he
  refine Or.inr ⟨rfl, by omega, ?_⟩
  by_cases ho : o = 0
  · subst ho
    left
    exact ⟨rfl, he⟩
  · right
    refine ⟨by omega, g, by omega, ?_⟩
    rw [show ((k : Int) + 1).toNat = k + 1 by omega]
    simpa [ho] using he
end

set_option maxHeartbeats 2000000 in
theorem itemEndS_any (a : Option Addr) (cap : Nat) (L : List ByteArray) (i : Int) (w : World) (h : ArgT w a L) (hL : L.length ≤ 1048576) (hi : -9223372036854775808 ≤ i ∧ i ≤ 9223372036854775807) :
    Calls Tryz.prog 62 #[.slice a L.length cap, .int .i64 i] w fun e w' => e = .returned (.int .i64 (itemE L i)) ∧ Below w.heap.size w w' := by
  generalize hr : itemE L i = r
  have HR : Hid (itemE L i = r) := hr
  clear hr
  obtain ⟨hi0, hi1⟩ := hi
  go_enter Tryz.func62, Tryz.ntmps62
  go_wp2
  go_loopw [1, 6, 7] (fun v1 v5 v6 wr => ∃ (x : Int) (o : Nat) (b : Bool), v1 = .int .i64 x ∧ v5 = .int .i64 (o : Int) ∧ v6 = .bool b ∧ -9223372036854775808 ≤ x ∧ x ≤ 9223372036854775807 ∧ o ≤ 1048576 ∧ Hid (Scan L r b o x) ∧ (b = true ∨ (0 ≤ x ∧ (o : Int) ≤ x)) ∧ Below w.heap.size w wr) (fun v1 _ _ _ => L.length - (intOf v1).toNat)
  case atStart => exact ⟨i, 0, true, rfl, rfl, rfl, hi0, hi1, Nat.zero_le _, Or.inl ⟨rfl, rfl, HR.out⟩, Or.inl rfl, Below.refl _ _⟩
  case round =>
    obtain ⟨x, o, b, rfl, rfl, rfl, hx0, hx1, hoL, HS, hlo, hB⟩ := hrel
    by_cases hgo : b = true ∨ 1 ≤ o
    · by_cases hin : 0 ≤ x ∧ x < (L.length : Int)
      · obtain ⟨k, rfl⟩ : ∃ k : Nat, x = (k : Int) := ⟨x.toNat, by omega⟩
        have hk : k < L.length := by omega
        obtain ⟨sb, off, rfl, hs, hc, _⟩ := h k hk
        have hc' := (hB.cell (p := ⟨sb, off + k, none⟩) hs).trans hc
        have hok : o ≤ k := by
          rcases hlo with rfl | hlo
          · rcases HS.out with ⟨_, h2, _⟩ | ⟨h2, _⟩
            · omega
            · exact absurd h2 (by decide)
          · omega
        have hgoB : b = true ∨ (b = false ∧ 0 < (o : Int)) := by
          cases b
          · right; exact ⟨rfl, by rcases hgo with hg | hg <;> first | (exact absurd hg (by decide)) | omega⟩
          · left; rfl
        cases h40 : isW L[k] [40]
        · cases h41 : isW L[k] [41]
          · have HN : Hid (Scan L r false o ((k : Int) + 1)) := scan_other HS.out hgo hk h40 h41
            have b40 : (L[k].toList == [40]) = false := h40
            have b41 : (L[k].toList == [41]) = false := h41
            clear h40 h41 HS hc hgo hlo
            generalize L[k] = t at hc' b40 b41
            rcases hgoB with rfl | ⟨rfl, hg⟩
            all_goals
              go_wp2
              go_roundw
              case rel => exact ⟨(k : Int) + 1, o, false, rfl, rfl, rfl, by omega, by omega, hoL, HN.out, Or.inr ⟨by omega, by omega⟩, hB⟩
              case measure => simp [intOf]; omega
          · have b40 : (L[k].toList == [40]) = false := h40
            have b41 : (L[k].toList == [41]) = true := h41
            rcases scan_shut HS.out hgo hk h40 h41 with ⟨rfl, hr1⟩ | ⟨ho1, hN⟩
            · have HR1 : Hid (r = -1) := hr1
              clear h40 h41 HS hc hgo hlo hr1
              generalize L[k] = t at hc' b40 b41
              rcases hgoB with rfl | ⟨rfl, hg⟩
              · go_wp2
                go_ret
                exact ⟨by rw [HR1.out]; rfl, hB⟩
              · omega
            · have HN : Hid (Scan L r false (o - 1) ((k : Int) + 1)) := hN
              clear h40 h41 HS hc hgo hlo hN
              generalize L[k] = t at hc' b40 b41
              rcases hgoB with rfl | ⟨rfl, hg⟩
              all_goals
                go_wp2
                go_roundw
                case rel => exact ⟨(k : Int) + 1, o - 1, false, rfl, by congr 1; omega, rfl, by omega, by omega, by omega, HN.out, Or.inr ⟨by omega, by omega⟩, hB⟩
                case measure => simp [intOf]; omega
        · have HN : Hid (Scan L r false (o + 1) ((k : Int) + 1)) := scan_open HS.out hgo hk h40
          have b40 : (L[k].toList == [40]) = true := h40
          clear h40 HS hc hgo hlo
          generalize L[k] = t at hc' b40
          rcases hgoB with rfl | ⟨rfl, hg⟩
          all_goals
            go_wp2
            go_roundw
            case rel => exact ⟨(k : Int) + 1, o + 1, false, rfl, by go_num, rfl, by omega, by omega, by omega, HN.out, Or.inr ⟨by omega, by omega⟩, hB⟩
            case measure => simp [intOf]; omega
      · have HR1 : Hid (r = -1) := scan_out HS.out hgo (by omega)
        have hgoB : b = true ∨ (b = false ∧ 0 < (o : Int)) := by
          cases b
          · right; exact ⟨rfl, by rcases hgo with hg | hg <;> first | (exact absurd hg (by decide)) | omega⟩
          · left; rfl
        clear HS hgo hlo
        rcases hgoB with rfl | ⟨rfl, hg⟩
        all_goals
          by_cases hneg : x < 0
          · go_wp2
            go_ret
            exact ⟨by rw [HR1.out]; rfl, hB⟩
          · have hge : (L.length : Int) ≤ x := by omega
            go_wp2
            go_ret
            exact ⟨by rw [HR1.out]; rfl, hB⟩
    · have hb : b = false := by cases b <;> simp_all
      subst hb
      have ho : o = 0 := by omega
      subst ho
      have HR1 : Hid (r = x) := scan_done HS.out
      clear HS
      go_wp2
      go_ret
      exact ⟨by rw [HR1.out]; rfl, hB⟩

end Go.Proofs.YtlmibonebiaocaaGreatDoor
