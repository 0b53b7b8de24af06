/-
  Chapter 9, the law: two envs that are alike, a name among others.
-/
import Derived.Test.YtcmjmoikalfdkaaEnvG
import Derived.Test.YtcmjmoikalfdkaaEnvF
import Derived.Deep.QuietTactic
import Derived.BigQuiet
namespace Go.Proofs.Ytcmjmoikalfdkaa
open Go.RowKit

/-- A world of that class. -/
structure InW (S : World → Prop) where
  x : World
  h : S x
section
variable {P : Program}
/-- A region whose operations keep a class of worlds, walked once. -/
theorem wp_region_in {S : World → Prop} {id : Nat} {Q : Exit → Act → World → Prop} {a : Act} {w : World} {l : List Oper} (hm : P.follows .mixedOrders = true) (hB : Region.lexB .any l.toArray = true) (hC : S w.drew)
    (h : wpQuiet P l.toArray (fun w' => ∃ y : InW S, w' = y.x) (fun a' => ∀ w', (∃ y : InW S, w' = y.x) → Q .normal a' w') l a) : (Code.region id l.toArray true).wp P Q a w :=
  wp_region_quiet (C := fun w' => ∃ y : InW S, w' = y.x) hm hB ⟨⟨_, hC⟩, rfl⟩ (by simpa using h)
end
/-- What the law looks at, behind its draws. -/
def EvW (w0 : World) (gz : Nat) (Z : List Bd) (g : Nat) (X : List Bd) (g2 : Nat) (T : List ByteArray) (y : World) : Prop := RowF y gz (Z.flatMap bC) ∧ RowF y g (X.flatMap bC) ∧ RowT y g2 T ∧ Below w0.heap.size w0 y
theorem EvW.drew {w0 : World} {gz g g2 : Nat} {Z X : List Bd} {T : List ByteArray} {y : World} (h : EvW w0 gz Z g X g2 T y) : EvW w0 gz Z g X g2 T y.drew := ⟨h.1, h.2.1, h.2.2.1, h.2.2.2.drew⟩
theorem EvW.call {w0 : World} {gz g g2 : Nat} {Z X : List Bd} {T : List ByteArray} {y y1 : World} (h : EvW w0 gz Z g X g2 T y) (hb : Below y.heap.size y y1) : EvW w0 gz Z g X g2 T y1 := ⟨h.1.call hb, h.2.1.call hb, h.2.2.1.call hb, bstep h.2.2.2 hb⟩

theorem neBd_run (x : Bd) (W : World) : (binOp .neq 116 (.agg #[.string x.n, .bool x.s, .int .i64 x.a]) (.agg #[.string x.n, .bool x.s, .int .i64 x.a])).run Try.prog W = .ok (.bool false) W := by
  simp [go_sem]

set_option maxRecDepth 100000 in
set_option maxHeartbeats 2000000 in
theorem likeEnv_same (a a' : Option Addr) (cap cap' : Nat) (X : List Bd) (w : World) (h : RowA BdAt 3 w a X) (h' : RowA BdAt 3 w a' X) (hL : X.length ≤ 2097152) :
    Calls Try.prog 41 #[.slice a X.length cap, .slice a' X.length cap'] w fun e w' => e = .returned (.bool true) ∧ Below w.heap.size w w' := by
  go_enter Try.func41, Try.ntmps41
  go_wp2
  go_loopw [5] (fun i wr => ∃ k : Nat, k ≤ X.length ∧ i = .int .i64 (k : Int) ∧ Below w.heap.size w wr) (fun i _ => X.length - (intOf i).toNat)
  case atStart => exact ⟨0, Nat.zero_le _, rfl, Below.refl _ _⟩
  case round =>
    obtain ⟨k, hk, rfl, hB⟩ := hrel
    by_cases hlt : k < X.length
    · obtain ⟨sb, off, rfl, hs, hat⟩ := h k hlt
      obtain ⟨sb', off', rfl, hs', hat2⟩ := h' k hlt
      obtain ⟨c0, c1, c2⟩ := bd_stays w wr sb _ _ hB hs hat
      obtain ⟨d0, d1, d2⟩ := bd_stays w wr sb' _ _ hB hs' hat2
      clear hat hat2
      generalize X[k] = t at c0 c1 c2 d0 d1 d2
      have hne := neBd_run t
      go_wp2
      go_quiet (fail)
      go_wp2
      go_roundw
      case rel => exact ⟨k + 1, by omega, by go_num, ⟨hB.os, hB.tape, hB.output, hB.size, hB.block⟩⟩
      case measure => simp [intOf]; omega
    · go_wp2
      go_ret
      exact ⟨rfl, hB⟩

/-- Is it among them? -/
def amB (T : List ByteArray) (t : ByteArray) : Bool := T.any fun x => x.toList == t.toList

set_option maxRecDepth 100000 in
set_option maxHeartbeats 2000000 in
theorem has_any (a : Option Addr) (cap : Nat) (T : List ByteArray) (t : ByteArray) (w : World) (h : ArgT w a T) (hL : T.length ≤ 1048576) :
    Calls Try.prog 47 #[.slice a T.length cap, .string t] w fun e w' => e = .returned (.bool (amB T t)) ∧ Below w.heap.size w w' := by
  go_enter Try.func47, Try.ntmps47
  go_wp2
  go_loopw [5] (fun i wr => ∃ k : Nat, k ≤ T.length ∧ i = .int .i64 (k : Int) ∧ Hid (∀ j (h : j < T.length), j < k → (T[j].toList == t.toList) = false) ∧ Below w.heap.size w wr) (fun i _ => T.length - (intOf i).toNat)
  case atStart => exact ⟨0, Nat.zero_le _, rfl, fun j _ hj => absurd hj (Nat.not_lt_zero _), Below.refl _ _⟩
  case round =>
    obtain ⟨k, hk, rfl, HA, hB⟩ := hrel
    by_cases hlt : k < T.length
    · obtain ⟨sb, off, rfl, hs, hc, _⟩ := h k hlt
      have hc' := (hB.cell (p := ⟨sb, off + k, none⟩) hs).trans hc
      have HN : Hid ((T[k].toList == t.toList) = false → ∀ j (h : j < T.length), j < k + 1 → (T[j].toList == t.toList) = false) := fun hq j hj hlt2 => by
        by_cases e : j = k
        · subst e; exact hq
        · exact HA.out j hj (by omega)
      have HF : Hid ((T[k].toList == t.toList) = true → amB T t = true) := fun hq => List.any_eq_true.mpr ⟨_, List.getElem_mem hlt, hq⟩
      clear hc
      generalize T[k] = x at hc' HN HF
      cases hq : (x.toList == t.toList)
      · have HN' : Hid _ := HN.out hq
        clear HN HF
        go_wp2
        go_roundw
        case rel => exact ⟨k + 1, by omega, by go_num, HN', hB⟩
        case measure => simp [intOf]; omega
      · have HF' : Hid (amB T t = true) := HF.out hq
        clear HN HF
        go_wp2
        go_ret
        exact ⟨by rw [HF'.out]; rfl, hB⟩
    · have HE : Hid (amB T t = false) := (by
        unfold amB
        rw [List.any_eq_false]
        intro x hx
        obtain ⟨j, hj, rfl⟩ := List.getElem_of_mem hx
        rw [HA.out j hj (by omega)]
        decide : amB T t = false)
      go_wp2
      go_ret
      exact ⟨by rw [HE.out]; rfl, hB⟩

/-- What is bound is looked up. -/
theorem lookR_skip (Y R : List Bd) (t : ByteArray) (s : Bool) (h : ∀ y ∈ Y, hitB y t s = false) : lookR (Y ++ R) t s = lookR R t s := by
  induction Y with
  | nil => rfl
  | cons y Y ih =>
    rw [List.cons_append]
    show (if hitB y t s then y.a else lookR (Y ++ R) t s) = _
    rw [h y (List.mem_cons_self ..)]
    exact ih (fun z hz => h z (List.mem_cons_of_mem _ hz))
theorem look_other (X : List Bd) (T : List ByteArray) (s : Bool) (F : Nat → Int) (k : Nat) (t : ByteArray) : lookR (X ++ news T s F k).reverse t (!s) = lookR X.reverse t (!s) := by
  rw [List.reverse_append]
  refine lookR_skip _ _ _ _ fun y hy => ?_
  rw [List.mem_reverse] at hy
  obtain ⟨i, _, rfl⟩ := List.mem_map.1 hy
  unfold hitB
  cases s <;> simp
theorem look_new (X : List Bd) (T : List ByteArray) (s : Bool) (F : Nat → Int) (i : Nat) (hi : i < T.length) (hn : amB (T.drop (i + 1)) T[i] = false) : lookR (X ++ news T s F T.length).reverse T[i] s = F i := by
  have hl : X.length + i < (X ++ news T s F T.length).length := by rw [List.length_append, news_length]; omega
  have he : ∀ j (h : X.length + j < (X ++ news T s F T.length).length) (hj : j < T.length), (X ++ news T s F T.length)[X.length + j] = ⟨T[j], s, F j⟩ := fun j h hj => by
    rw [List.getElem_append_right (by omega)]
    simp [news, hj]
  have hb := look_back (X ++ news T s F T.length) T[i] s (X.length + i) hl (fun j hj hlt => by
    obtain ⟨d, rfl⟩ : ∃ d, j = X.length + d := ⟨j - X.length, by omega⟩
    have hd : d < T.length := by rw [List.length_append, news_length] at hj; omega
    rw [he d hj hd]
    unfold hitB
    have hf := List.any_eq_false.mp hn T[d] (by
      rw [List.mem_iff_getElem]
      refine ⟨d - (i + 1), by simp; omega, ?_⟩
      rw [List.getElem_drop]
      congr 1
      omega)
    simp only
    rw [Bool.eq_false_iff.mpr hf, Bool.false_and])
  rw [hb, he i hl hi, if_pos]
  unfold hitB
  simp

end Go.Proofs.Ytcmjmoikalfdkaa
