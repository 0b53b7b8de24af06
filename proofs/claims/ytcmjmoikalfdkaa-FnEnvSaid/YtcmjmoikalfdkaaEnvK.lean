/-
  Chapter 9: Looked, the program: an env as a chain of values that embed one another. In this seat the model follows a method that is promoted through embedded interfaces far enough for 400 of them (it has more than 300 types).
-/
import Derived.Test.YtcmjmoikalfdkaaEnvP
namespace Go.Proofs.Ytcmjmoikalfdkaa
open Go.RowKit

/-- The chain: the last one ahead. -/
def chV : List Bd → Value
  | [] => .iface 193 (.agg #[])
  | b :: R => .iface (if b.s then 261 else 262) (.agg #[chV R, .string b.n, .bool b.s, .int .i64 b.a])
/-- At of the first one of that name that is Secret just so; -1: none. -/
def hitB (b : Bd) (t : ByteArray) (s : Bool) : Bool := (b.n.toList == t.toList) && (b.s == s)
def lookR : List Bd → ByteArray → Bool → Int
  | [], _, _ => -1
  | b :: R, t, s => if hitB b t s then b.a else lookR R t s

theorem chV_iface (R : List Bd) : ∃ T V, chV R = .iface T V := by cases R <;> exact ⟨_, _, rfl⟩

theorem cellOf_none (n : Nat) (W : World) : (method (n + 1) 193 (.agg #[]) "loop.example/g00544/impl.cellOf").run Try.prog W = .ok (260, .agg #[]) W := by kernel_rfl
theorem tableOf_none (n : Nat) (W : World) : (method (n + 1) 193 (.agg #[]) "loop.example/g00544/impl.tableOf").run Try.prog W = .ok (261, .agg #[]) W := by kernel_rfl
theorem cellOf_cell (x y z u : Value) (n : Nat) (W : World) : (method (n + 1) 262 (.agg #[x, y, z, u]) "loop.example/g00544/impl.cellOf").run Try.prog W = .ok (263, .agg #[x, y, z, u]) W := by kernel_rfl
theorem tableOf_table (x y z u : Value) (n : Nat) (W : World) : (method (n + 1) 261 (.agg #[x, y, z, u]) "loop.example/g00544/impl.tableOf").run Try.prog W = .ok (262, .agg #[x, y, z, u]) W := by kernel_rfl
theorem cellOf_table (T : TypeId) (V y z u : Value) (n : Nat) (W : World) : (method (n + 1) 261 (.agg #[.iface T V, y, z, u]) "loop.example/g00544/impl.cellOf").run Try.prog W = (method n T V "loop.example/g00544/impl.cellOf").run Try.prog W := by kernel_rfl
theorem tableOf_cell (T : TypeId) (V y z u : Value) (n : Nat) (W : World) : (method (n + 1) 262 (.agg #[.iface T V, y, z, u]) "loop.example/g00544/impl.tableOf").run Try.prog W = (method n T V "loop.example/g00544/impl.tableOf").run Try.prog W := by kernel_rfl

theorem look_back (X : List Bd) (t : ByteArray) (s : Bool) (k : Nat) (hk : k < X.length) (hn : ∀ j (h : j < X.length), k < j → hitB X[j] t s = false) : lookR X.reverse t s = if hitB X[k] t s then X[k].a else lookR (X.take k).reverse t s := by
  have key : ∀ (n : Nat) (Y : List Bd), (∀ y ∈ Y, hitB y t s = false) → Y.length = n → lookR (Y ++ X[k] :: (X.take k).reverse) t s = lookR (X[k] :: (X.take k).reverse) t s := by
    intro n
    induction n with
    | zero =>
      intro Y _ hY
      rw [List.eq_nil_of_length_eq_zero hY]
      rfl
    | succ m ih =>
      intro Y hy hY
      match Y, hY with
      | y :: Y', hY =>
        rw [List.cons_append]
        have h1 := hy y (List.mem_cons_self ..)
        unfold lookR
        rw [h1]
        exact ih Y' (fun z hz => hy z (List.mem_cons_of_mem _ hz)) (by simpa using hY)
  have e : X.reverse = (X.drop (k + 1)).reverse ++ X[k] :: (X.take k).reverse := by
    have e1 : X = (X.take k ++ [X[k]]) ++ X.drop (k + 1) := by
      rw [← List.take_succ_eq_append_getElem hk, List.take_append_drop]
    calc X.reverse = ((X.take k ++ [X[k]]) ++ X.drop (k + 1)).reverse := by rw [← e1]
      _ = _ := by simp
  rw [e]
  exact key _ _ (fun y hy => by
    rw [List.mem_reverse] at hy
    obtain ⟨j, hj, rfl⟩ := List.getElem_of_mem hy
    rw [List.getElem_drop]
    exact hn _ _ (by omega)) rfl
theorem look_none (X : List Bd) (t : ByteArray) (s : Bool) (hn : ∀ j (h : j < X.length), hitB X[j] t s = false) : lookR X.reverse t s = -1 := by
  have key : ∀ Y : List Bd, (∀ y ∈ Y, hitB y t s = false) → lookR Y t s = -1 := by
    intro Y
    induction Y with
    | nil => intro _; rfl
    | cons y Y ih =>
      intro hy
      unfold lookR
      rw [hy y (List.mem_cons_self ..)]
      exact ih (fun z hz => hy z (List.mem_cons_of_mem _ hz))
  refine key _ fun y hy => ?_
  rw [List.mem_reverse] at hy
  obtain ⟨j, hj, rfl⟩ := List.getElem_of_mem hy
  exact hn j hj

set_option maxHeartbeats 2000000 in
theorem l9Looked_any (a : Option Addr) (cap : Nat) (X : List Bd) (t : ByteArray) (s : Bool) (w : World) (h : RowA BdAt 3 w a X) (hL : X.length ≤ 2097152) :
    Calls Try.prog 107 #[.slice a X.length cap, .string t, .bool s] w fun e w' => e = .returned (.int .i64 (lookR X.reverse t s)) ∧ Below w.heap.size w w' := by
  go_enter Try.func107, Try.ntmps107
  go_wp2
  go_loopw [7] (fun i wr => ∃ k : Nat, k ≤ X.length ∧ i = .int .i64 ((k : Int) - 1) ∧ Hid (∀ j (h : j < X.length), k ≤ j → hitB X[j] t s = false) ∧ Below w.heap.size w wr) (fun i _ => (intOf i + 1).toNat)
  case atStart => exact ⟨X.length, Nat.le_refl _, rfl, fun j h hj => absurd h (by omega), Below.refl _ _⟩
  case round =>
    obtain ⟨k, hk, rfl, HA, hB⟩ := hrel
    by_cases hz : k = 0
    · subst hz
      have HE : Hid (lookR X.reverse t s = -1) := look_none X t s (fun j h => HA.out j h (Nat.zero_le _))
      go_wp2
      go_ret
      exact ⟨by rw [HE.out]; rfl, hB⟩
    · obtain ⟨m, rfl⟩ : ∃ m, k = m + 1 := ⟨k - 1, by omega⟩
      have hm : m < X.length := by omega
      obtain ⟨sb, off, rfl, hs, hat⟩ := h m hm
      have hat' := bd_stays w wr sb _ _ hB hs hat
      have HE : Hid (lookR X.reverse t s = if hitB X[m] t s then X[m].a else lookR (X.take m).reverse t s) := look_back X t s m hm (fun j h hj => HA.out j h hj)
      have HN : Hid (hitB X[m] t s = false → ∀ j (h : j < X.length), m ≤ j → hitB X[j] t s = false) := fun hq j hj hle => by
        by_cases e : j = m
        · subst e; exact hq
        · exact HA.out j hj (by omega)
      clear hat
      generalize X[m] = b at hat' HE HN
      obtain ⟨c1, c2, c3⟩ := hat'
      have i1 : ((m + 1 : Nat) : Int) - 1 = (m : Int) := by omega
      rw [i1]
      clear i1 hz
      cases hn : (b.n.toList == t.toList)
      · have HN' : Hid _ := HN.out (by unfold hitB; rw [hn]; rfl)
        clear HN HE
        go_wp2
        go_roundw
        case rel => exact ⟨m, by omega, rfl, HN', hB⟩
        case measure => simp [intOf]
      · cases hb : (b.s == s)
        · have HN' : Hid _ := HN.out (by unfold hitB; rw [hb, Bool.and_false])
          clear HN HE
          go_wp2
          go_roundw
          case rel => exact ⟨m, by omega, rfl, HN', hB⟩
          case measure => simp [intOf]
        · have HE' : Hid (lookR X.reverse t s = b.a) := (by rw [HE.out, if_pos (by unfold hitB; rw [hn, hb]; rfl)] : lookR X.reverse t s = b.a)
          clear HN HE
          go_wp2
          go_ret
          exact ⟨by rw [HE'.out]; rfl, hB⟩

/-- What Looked tells. -/
def lookE (X : List Bd) (t : ByteArray) (s : Bool) : Int := if envB X then lookR X.reverse t s else -1

set_option maxHeartbeats 1000000 in
theorem lookedS_any (a : Option Addr) (cap : Nat) (X : List Bd) (t : ByteArray) (s : Bool) (w : World) (h : RowA BdAt 3 w a X) (hok : ∀ x ∈ X, okBd x) (hL : X.length ≤ 2097152) :
    Calls Try.prog 44 #[.slice a X.length cap, .string t, .bool s] w fun e w' => e = .returned (.int .i64 (lookE X t s)) ∧ Below w.heap.size w w' := by
  have hl := envOkS_any a cap X w h hok hL
  cases hq : envB X
  · have HE : Hid (lookE X t s = -1) := (by unfold lookE; rw [hq]; rfl : lookE X t s = -1)
    rw [hq] at hl
    go_enter Try.func44, Try.ntmps44
    go_wp2_with fail
    refine hl.mono ?_
    rintro e w1 ⟨rfl, hb1⟩
    go_wp2
    go_ret
    exact ⟨by rw [HE.out]; rfl, hb1⟩
  · have HE : Hid (lookE X t s = lookR X.reverse t s) := (by unfold lookE; rw [hq]; rfl : lookE X t s = lookR X.reverse t s)
    rw [hq] at hl
    go_enter Try.func44, Try.ntmps44
    go_wp2_with fail
    refine hl.mono ?_
    rintro e w1 ⟨rfl, hb1⟩
    go_wp2_with fail
    refine (l9Looked_any a cap X t s w1 (h.call bd_stays hb1) hL).mono ?_
    rintro e w2 ⟨rfl, hb2⟩
    go_wp2
    go_ret
    exact ⟨by rw [HE.out]; rfl, bstep hb1 hb2⟩

set_option maxHeartbeats 1000000 in
theorem within_any (T : TypeId) (V : Value) (b : Bd) (w : World) :
    Calls Try.prog 160 #[.iface T V, .agg #[.string b.n, .bool b.s, .int .i64 b.a]] w fun e w' => e = .returned (.iface (if b.s then 261 else 262) (.agg #[.iface T V, .string b.n, .bool b.s, .int .i64 b.a])) ∧ Below w.heap.size w w' := by
  obtain ⟨n, s, a⟩ := b
  simp only
  cases s
  all_goals
    go_enter Try.func160, Try.ntmps160
    go_wp2
    go_ret
    exact ⟨rfl, balloc (Below.refl _ _) _⟩

set_option maxHeartbeats 2000000 in
theorem knownBy_any (a : Option Addr) (cap : Nat) (X : List Bd) (w : World) (h : RowA BdAt 3 w a X) (hL : X.length ≤ 400) :
    Calls Try.prog 106 #[.slice a X.length cap] w fun e w' => e = .returned (chV X.reverse) ∧ Below w.heap.size w w' := by
  go_enter Try.func106, Try.ntmps106
  go_wp2
  go_loopw [3, 10] (fun v i wr => ∃ k : Nat, k ≤ X.length ∧ i = .int .i64 (k : Int) ∧ v = chV (X.take k).reverse ∧ Below w.heap.size w wr) (fun _ i _ => X.length - (intOf i).toNat)
  case atStart => exact ⟨0, Nat.zero_le _, rfl, rfl, Below.refl _ _⟩
  case round =>
    obtain ⟨k, hk, rfl, rfl, hB⟩ := hrel
    by_cases hlt : k < X.length
    · obtain ⟨sb, off, rfl, hs, hat⟩ := h k hlt
      have hat' := bd_stays w wr sb _ _ hB hs hat
      have HC : Hid (chV (X.take (k + 1)).reverse = .iface (if X[k].s then 261 else 262) (.agg #[chV (X.take k).reverse, .string X[k].n, .bool X[k].s, .int .i64 X[k].a])) := (by
        rw [List.take_succ_eq_append_getElem hlt, List.reverse_append]
        rfl : chV (X.take (k + 1)).reverse = .iface (if X[k].s then 261 else 262) (.agg #[chV (X.take k).reverse, .string X[k].n, .bool X[k].s, .int .i64 X[k].a]))
      clear hat
      generalize X[k] = b at hat' HC
      obtain ⟨T, V, hV⟩ := chV_iface (X.take k).reverse
      rw [hV] at HC ⊢
      clear hV
      obtain ⟨c1, c2, c3⟩ := hat'
      go_wp2_with fail
      refine (within_any T V b _).mono ?_
      rintro e w2 ⟨rfl, hb2⟩
      have hB2 : Below w.heap.size w w2 := bstep (balloc hB _) hb2
      clear hb2
      rw [← HC.out]
      go_wp2
      go_roundw
      case rel => exact ⟨k + 1, by omega, by go_num, rfl, hB2⟩
      case measure => simp [intOf]; omega
    · have e : k = X.length := by omega
      subst e
      have HE : Hid (chV (X.take X.length).reverse = chV X.reverse) := (by rw [List.take_length] : chV (X.take X.length).reverse = chV X.reverse)
      generalize chV (X.take X.length).reverse = v at HE ⊢
      go_wp2
      go_ret
      exact ⟨by rw [← HE.out]; rfl, hB⟩

end Go.Proofs.Ytcmjmoikalfdkaa
