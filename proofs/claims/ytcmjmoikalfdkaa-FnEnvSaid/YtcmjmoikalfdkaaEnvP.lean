/-
  Chapter 9: whether an env is right, the model and the program.
-/
import Derived.Test.YtcmjmoikalfdkaaEnvE
import Derived.Test.YtcmjmoikalfdkaaSignK
namespace Go.Proofs.Ytcmjmoikalfdkaa
open Go.RowKit

/-- Is it right? -/
def bdB (x : Bd) : Bool := nameB x.n && (decide (0 ≤ x.a) && decide (x.a ≤ 1000000000))
def envB (X : List Bd) : Bool := decide (X.length ≤ 400) && X.all bdB

set_option maxHeartbeats 2000000 in
theorem envOkS_any (a : Option Addr) (cap : Nat) (X : List Bd) (w : World) (h : RowA BdAt 3 w a X) (hok : ∀ x ∈ X, okBd x) (hL : X.length ≤ 2097152) :
    Calls Try.prog 46 #[.slice a X.length cap] w fun e w' => e = .returned (.bool (envB X)) ∧ Below w.heap.size w w' := by
  go_enter Try.func46, Try.ntmps46
  go_wp2
  go_loopw [3] (fun i wr => ∃ k : Nat, k ≤ X.length ∧ i = .int .i64 (k : Int) ∧ Hid (∀ j (h : j < X.length), j < k → bdB X[j] = true) ∧ Below w.heap.size w wr) (fun i _ => X.length - (intOf i).toNat)
  case atStart => exact ⟨0, Nat.zero_le _, rfl, fun j _ hj => absurd hj (Nat.not_lt_zero _), Below.refl _ _⟩
  case round =>
    obtain ⟨k, hk, rfl, HA, hB⟩ := hrel
    by_cases hlt : k < X.length
    · obtain ⟨sb, off, rfl, hs, hat⟩ := h k hlt
      have hat' := bd_stays w wr sb _ _ hB hs hat
      have ho := hok _ (List.getElem_mem hlt)
      have HN : Hid (bdB X[k] = true → ∀ j (h : j < X.length), j < k + 1 → bdB X[j] = true) := fun hq j hj hlt2 => by
        by_cases e : j = k
        · subst e; exact hq
        · exact HA.out j hj (by omega)
      have HF : Hid (bdB X[k] = false → envB X = false) := fun hq => by
        unfold envB
        rw [show X.all bdB = false by rw [List.all_eq_false]; exact ⟨_, List.getElem_mem hlt, by rw [hq]; decide⟩, Bool.and_false]
      clear hat
      generalize X[k] = t at hat' ho HN HF
      obtain ⟨c1, c2, c3⟩ := hat'
      have hl : ∀ W, Calls Try.prog 108 #[.string t.n] W fun e w' => e = .returned (.bool (nameB t.n)) ∧ w' = W := fun W => nameOkS_any t.n W ho.1
      cases hq : nameB t.n
      · have HE := HF.out (by unfold bdB; rw [hq]; rfl)
        rw [hq] at hl
        clear HN HF hq
        go_wp2_with fail
        refine (hl _).mono ?_
        rintro e w1 ⟨rfl, rfl⟩
        go_wp2
        go_ret
        exact ⟨by rw [HE]; rfl, hB⟩
      · have hi : ∀ W, Calls Try.prog 109 #[.int .i64 t.a, .int .i64 0, .int .i64 1000000000] W fun e w' => e = .returned (.bool (bdB t)) ∧ w' = W := fun W => by
          have := l1In_any t.a 0 1000000000 W
          unfold bdB
          rw [hq]
          exact this
        rw [hq] at hl
        clear hq
        go_wp2_with fail
        refine (hl _).mono ?_
        rintro e w1 ⟨rfl, rfl⟩
        go_wp2_with fail
        refine (hi _).mono ?_
        rintro e w2 ⟨rfl, rfl⟩
        cases hd : bdB t
        · have HE := HF.out hd
          clear HN HF hd hl hi
          go_wp2
          go_ret
          exact ⟨by rw [HE]; rfl, hB⟩
        · have HN' : Hid _ := HN.out hd
          clear HN HF hd hl hi
          go_wp2
          go_roundw
          case rel => exact ⟨k + 1, by omega, by go_num, HN', hB⟩
          case measure => simp [intOf]; omega
    · have HE : Hid (decide ((X.length : Int) ≤ 400) = envB X) := (by
        have h1 : X.all bdB = true := by
          rw [List.all_eq_true]
          intro x hx
          obtain ⟨j, hj, rfl⟩ := List.getElem_of_mem hx
          exact HA.out j hj (by omega)
        unfold envB
        rw [h1, Bool.and_true]
        exact decide_eq_decide.mpr (by omega) : decide ((X.length : Int) ≤ 400) = envB X)
      go_wp2
      go_ret
      exact ⟨by rw [← HE.out]; rfl, hB⟩

set_option maxHeartbeats 1000000 in
theorem bindOk_any (x : Bd) (w : World) (hx : x.n.size ≤ maxLen) :
    Calls Try.prog 103 #[.agg #[.string x.n, .bool x.s, .int .i64 x.a]] w fun e w' => e = .returned (.bool (bdB x)) ∧ Below w.heap.size w w' := by
  obtain ⟨n, s, a⟩ := x
  simp only at hx ⊢
  obtain ⟨W, hW⟩ : ∃ W, W = w.alloc (.cells #[.string n, .bool s, .int .i64 a] 116) := ⟨_, rfl⟩
  have hB : Below w.heap.size w W := by rw [hW]; exact balloc (Below.refl _ _) _
  have c2 : W.cell? ⟨w.heap.size, 2, none⟩ = some (.int .i64 a) := by rw [hW]; exact cell_new w #[.string n, .bool s, .int .i64 a] 116 2
  have hl : Calls Try.prog 159 #[.string n] W fun e w' => e = .returned (.bool (nameB n)) ∧ w' = W := nameOkI_any n W hx
  cases hq : nameB n
  · have HE : Hid (bdB ⟨n, s, a⟩ = false) := (by unfold bdB; rw [hq]; rfl : bdB ⟨n, s, a⟩ = false)
    rw [hq] at hl
    clear hq
    go_enter Try.func103, Try.ntmps103
    go_wp2_with fail
    rw [← hW]
    refine hl.mono ?_
    rintro e w1 ⟨rfl, rfl⟩
    clear hW
    go_wp2
    go_ret
    exact ⟨by rw [HE.out]; rfl, hB⟩
  · rw [hq] at hl
    by_cases h0 : 0 ≤ a
    · have HE : Hid (bdB ⟨n, s, a⟩ = decide (a ≤ 1000000000)) := (by unfold bdB; rw [hq]; simp [h0] : bdB ⟨n, s, a⟩ = decide (a ≤ 1000000000))
      clear hq
      go_enter Try.func103, Try.ntmps103
      go_wp2_with fail
      rw [← hW]
      refine hl.mono ?_
      rintro e w1 ⟨rfl, rfl⟩
      clear hW
      go_wp2
      go_ret
      exact ⟨by rw [HE.out]; rfl, hB⟩
    · have HE : Hid (bdB ⟨n, s, a⟩ = false) := (by unfold bdB; rw [hq]; simp [h0] : bdB ⟨n, s, a⟩ = false)
      clear hq
      go_enter Try.func103, Try.ntmps103
      go_wp2_with fail
      rw [← hW]
      refine hl.mono ?_
      rintro e w1 ⟨rfl, rfl⟩
      clear hW
      go_wp2
      go_ret
      exact ⟨by rw [HE.out]; rfl, hB⟩

set_option maxHeartbeats 2000000 in
theorem envOkI_any (a : Option Addr) (cap : Nat) (X : List Bd) (w : World) (h : RowA BdAt 3 w a X) (hok : ∀ x ∈ X, okBd x) (hL : X.length ≤ 2097152) :
    Calls Try.prog 45 #[.slice a X.length cap] w fun e w' => e = .returned (.bool (envB X)) ∧ Below w.heap.size w w' := by
  by_cases hbig : (400 : Int) < (X.length : Int)
  · have HE : Hid (envB X = false) := (by unfold envB; rw [show decide (X.length ≤ 400) = false from decide_eq_false (by omega)]; rfl : envB X = false)
    go_enter Try.func45, Try.ntmps45
    go_wp2
    go_ret
    exact ⟨by rw [HE.out]; rfl, Below.refl _ _⟩
  go_enter Try.func45, Try.ntmps45
  go_wp2
  go_loopw [10] (fun i wr => ∃ k : Nat, k ≤ X.length ∧ i = .int .i64 (k : Int) ∧ Hid (∀ j (h : j < X.length), j < k → bdB X[j] = true) ∧ Below w.heap.size w wr) (fun i _ => X.length - (intOf i).toNat)
  case atStart => exact ⟨0, Nat.zero_le _, rfl, fun j _ hj => absurd hj (Nat.not_lt_zero _), Below.refl _ _⟩
  case round =>
    obtain ⟨k, hk, rfl, HA, hB⟩ := hrel
    by_cases hlt : k < X.length
    · obtain ⟨sb, off, rfl, hs, hat⟩ := h k hlt
      have hat' := bd_stays w wr sb _ _ hB hs hat
      have ho := hok _ (List.getElem_mem hlt)
      have HN : Hid (bdB X[k] = true → ∀ j (h : j < X.length), j < k + 1 → bdB X[j] = true) := fun hq j hj hlt2 => by
        by_cases e : j = k
        · subst e; exact hq
        · exact HA.out j hj (by omega)
      have HF : Hid (bdB X[k] = false → envB X = false) := fun hq => by
        unfold envB
        rw [show X.all bdB = false by rw [List.all_eq_false]; exact ⟨_, List.getElem_mem hlt, by rw [hq]; decide⟩, Bool.and_false]
      clear hat
      generalize X[k] = t at hat' ho HN HF
      obtain ⟨c1, c2, c3⟩ := hat'
      go_wp2_with fail
      refine (bindOk_any t _ ho.1).mono ?_
      rintro e w2 ⟨rfl, hb2⟩
      have hB2 : Below w.heap.size w w2 := by
        refine bstep ?_ hb2
        repeat (first | exact hB | refine balloc ?_ _ | refine Below.setCell ?_ hB.size _)
      clear hb2
      cases hd : bdB t
      · have HE := HF.out hd
        clear HN HF hd
        go_wp2
        go_ret
        exact ⟨by rw [HE]; rfl, hB2⟩
      · have HN' : Hid _ := HN.out hd
        clear HN HF hd
        go_wp2
        go_roundw
        case rel => exact ⟨k + 1, by omega, by go_num, HN', hB2⟩
        case measure => simp [intOf]; omega
    · have HE : Hid (envB X = true) := (by
        have h1 : X.all bdB = true := by
          rw [List.all_eq_true]
          intro x hx
          obtain ⟨j, hj, rfl⟩ := List.getElem_of_mem hx
          exact HA.out j hj (by omega)
        unfold envB
        rw [h1, Bool.and_true]
        exact decide_eq_true (by omega) : envB X = true)
      go_wp2
      go_ret
      exact ⟨by rw [HE.out]; rfl, hB⟩

end Go.Proofs.Ytcmjmoikalfdkaa
