/-
  Chapter 9: Looked, the program: a call on a chain. The model follows a method that is promoted through embedded interfaces as many steps as the program has types, and 100 more: in this seat that is enough for 400 Binds.
-/
import Derived.Test.YtcmjmoikalfdkaaEnvK
import Derived.Shelf.Abstract
namespace Go.Proofs.Ytcmjmoikalfdkaa
open Go.RowKit

theorem ent_cellOf_none : ∀ args W, (callFunc 260 args).run Try.prog W = .ok (.enter 260 args) W := enters_of Try.func260 (by kernel_rfl) rfl
theorem ent_cellOf : ∀ args W, (callFunc 263 args).run Try.prog W = .ok (.enter 263 args) W := enters_of Try.func263 (by kernel_rfl) rfl

/-- Whom a call of cellOf on a chain comes to, and what that tells. -/
def Find_cellOf (t : ByteArray) (R : List Bd) (T : TypeId) (V : Value) : Prop := ∃ f v, (∀ n W, (method (n + R.length + 1) T V "loop.example/g00544/impl.cellOf").run Try.prog W = .ok (f, v) W) ∧ (∀ args W, (callFunc f args).run Try.prog W = .ok (.enter f args) W) ∧ ∀ w, Calls Try.prog f #[v, .string t] w fun e w' => e = .returned (.int .i64 (lookR R t false)) ∧ Below w.heap.size w w'

set_option maxHeartbeats 1000000 in
theorem cellOf_none_any (t : ByteArray) (w : World) : Calls Try.prog 260 #[.agg #[], .string t] w fun e w' => e = .returned (.int .i64 (-1)) ∧ Below w.heap.size w w' := by
  go_enter Try.func260, Try.ntmps260
  go_wp2
  go_ret
  exact ⟨rfl, by first | exact Below.refl _ _ | exact balloc (Below.refl _ _) _⟩

set_option maxHeartbeats 2000000 in
theorem cellOf_own_any (t : ByteArray) (R : List Bd) (b : Bd) (T : TypeId) (V : Value) (hl : R.length ≤ 400) (hF : Find_cellOf t R T V) (hs : b.s = false) (w : World) : Calls Try.prog 263 #[.agg #[.iface T V, .string b.n, .bool b.s, .int .i64 b.a], .string t] w fun e w' => e = .returned (.int .i64 (lookR (b :: R) t false)) ∧ Below w.heap.size w w' := by
  obtain ⟨f, v, hm, hen, hc⟩ := hF
  have hm' : ∀ n W, (method (n + 401) T V "loop.example/g00544/impl.cellOf").run Try.prog W = .ok (f, v) W := fun n W => by
    have := hm (n + 400 - R.length) W
    rwa [show n + 400 - R.length + R.length + 1 = n + 401 by omega] at this
  clear hm
  cases hn : (b.n.toList == t.toList)
  · have HE : Hid (lookR (b :: R) t false = lookR R t false) := (by show (if hitB b t false then b.a else lookR R t false) = _; rw [if_neg]; unfold hitB; rw [hn]; simp : lookR (b :: R) t false = lookR R t false)
    rw [HE.out]
    clear HE
    generalize lookR R t false = z at hc ⊢
    generalize b.s = bs
    clear hs
    go_enter Try.func263, Try.ntmps263
    go_wp2_with fail
    refine (hc _).mono ?_
    rintro e w2 ⟨rfl, hb2⟩
    have hB2 : Below w.heap.size w w2 := bstep (balloc (Below.refl _ _) _) hb2
    clear hb2 hm' hen hc
    go_wp2
    go_ret
    exact ⟨rfl, hB2⟩
  · have HE : Hid (lookR (b :: R) t false = b.a) := (by show (if hitB b t false then b.a else lookR R t false) = _; rw [if_pos]; unfold hitB; rw [hn, hs]; rfl : lookR (b :: R) t false = b.a)
    rw [HE.out]
    clear HE hm' hen hc
    generalize b.s = bs
    clear hs
    go_enter Try.func263, Try.ntmps263
    go_wp2
    go_ret
    exact ⟨rfl, balloc (Below.refl _ _) _⟩

theorem cellOf_find (t : ByteArray) : ∀ (R : List Bd), R.length ≤ 400 → ∃ T V, chV R = .iface T V ∧ Find_cellOf t R T V
  | [], _ => ⟨_, _, rfl, 260, .agg #[], fun n W => cellOf_none n W, ent_cellOf_none, fun w => cellOf_none_any t w⟩
  | b :: R, hl => by
    have hl' : R.length ≤ 400 := by simp at hl; omega
    obtain ⟨T, V, hV, hF⟩ := cellOf_find t R hl'
    have hc : chV (b :: R) = .iface (if b.s then 261 else 262) (.agg #[.iface T V, .string b.n, .bool b.s, .int .i64 b.a]) := by
      show Value.iface _ (.agg #[chV R, .string b.n, .bool b.s, .int .i64 b.a]) = _
      rw [hV]
    rw [hc]
    cases hs : b.s
    · refine ⟨_, _, rfl, 263, _, fun n W => cellOf_cell _ _ _ _ (n + R.length + 1) W, ent_cellOf, fun w => ?_⟩
      have := cellOf_own_any t R b T V hl' hF hs w
      rw [hs] at this
      exact this
    · obtain ⟨f, v, hm, hen, hw⟩ := hF
      have hk : lookR (b :: R) t false = lookR R t false := by
        show (if hitB b t false then b.a else lookR R t false) = _
        rw [if_neg]
        unfold hitB
        rw [hs]
        simp
      refine ⟨_, _, rfl, f, v, fun n W => ?_, hen, fun w => by rw [hk]; exact hw w⟩
      exact (cellOf_table T V _ _ _ (n + R.length + 1) W).trans (hm n W)

theorem ent_tableOf_none : ∀ args W, (callFunc 261 args).run Try.prog W = .ok (.enter 261 args) W := enters_of Try.func261 (by kernel_rfl) rfl
theorem ent_tableOf : ∀ args W, (callFunc 262 args).run Try.prog W = .ok (.enter 262 args) W := enters_of Try.func262 (by kernel_rfl) rfl

/-- Whom a call of tableOf on a chain comes to, and what that tells. -/
def Find_tableOf (t : ByteArray) (R : List Bd) (T : TypeId) (V : Value) : Prop := ∃ f v, (∀ n W, (method (n + R.length + 1) T V "loop.example/g00544/impl.tableOf").run Try.prog W = .ok (f, v) W) ∧ (∀ args W, (callFunc f args).run Try.prog W = .ok (.enter f args) W) ∧ ∀ w, Calls Try.prog f #[v, .string t] w fun e w' => e = .returned (.int .i64 (lookR R t true)) ∧ Below w.heap.size w w'

set_option maxHeartbeats 1000000 in
theorem tableOf_none_any (t : ByteArray) (w : World) : Calls Try.prog 261 #[.agg #[], .string t] w fun e w' => e = .returned (.int .i64 (-1)) ∧ Below w.heap.size w w' := by
  go_enter Try.func261, Try.ntmps261
  go_wp2
  go_ret
  exact ⟨rfl, by first | exact Below.refl _ _ | exact balloc (Below.refl _ _) _⟩

set_option maxHeartbeats 2000000 in
theorem tableOf_own_any (t : ByteArray) (R : List Bd) (b : Bd) (T : TypeId) (V : Value) (hl : R.length ≤ 400) (hF : Find_tableOf t R T V) (hs : b.s = true) (w : World) : Calls Try.prog 262 #[.agg #[.iface T V, .string b.n, .bool b.s, .int .i64 b.a], .string t] w fun e w' => e = .returned (.int .i64 (lookR (b :: R) t true)) ∧ Below w.heap.size w w' := by
  obtain ⟨f, v, hm, hen, hc⟩ := hF
  have hm' : ∀ n W, (method (n + 401) T V "loop.example/g00544/impl.tableOf").run Try.prog W = .ok (f, v) W := fun n W => by
    have := hm (n + 400 - R.length) W
    rwa [show n + 400 - R.length + R.length + 1 = n + 401 by omega] at this
  clear hm
  cases hn : (b.n.toList == t.toList)
  · have HE : Hid (lookR (b :: R) t true = lookR R t true) := (by show (if hitB b t true then b.a else lookR R t true) = _; rw [if_neg]; unfold hitB; rw [hn]; simp : lookR (b :: R) t true = lookR R t true)
    rw [HE.out]
    clear HE
    generalize lookR R t true = z at hc ⊢
    generalize b.s = bs
    clear hs
    go_enter Try.func262, Try.ntmps262
    go_wp2_with fail
    refine (hc _).mono ?_
    rintro e w2 ⟨rfl, hb2⟩
    have hB2 : Below w.heap.size w w2 := bstep (balloc (Below.refl _ _) _) hb2
    clear hb2 hm' hen hc
    go_wp2
    go_ret
    exact ⟨rfl, hB2⟩
  · have HE : Hid (lookR (b :: R) t true = b.a) := (by show (if hitB b t true then b.a else lookR R t true) = _; rw [if_pos]; unfold hitB; rw [hn, hs]; rfl : lookR (b :: R) t true = b.a)
    rw [HE.out]
    clear HE hm' hen hc
    generalize b.s = bs
    clear hs
    go_enter Try.func262, Try.ntmps262
    go_wp2
    go_ret
    exact ⟨rfl, balloc (Below.refl _ _) _⟩

theorem tableOf_find (t : ByteArray) : ∀ (R : List Bd), R.length ≤ 400 → ∃ T V, chV R = .iface T V ∧ Find_tableOf t R T V
  | [], _ => ⟨_, _, rfl, 261, .agg #[], fun n W => tableOf_none n W, ent_tableOf_none, fun w => tableOf_none_any t w⟩
  | b :: R, hl => by
    have hl' : R.length ≤ 400 := by simp at hl; omega
    obtain ⟨T, V, hV, hF⟩ := tableOf_find t R hl'
    have hc : chV (b :: R) = .iface (if b.s then 261 else 262) (.agg #[.iface T V, .string b.n, .bool b.s, .int .i64 b.a]) := by
      show Value.iface _ (.agg #[chV R, .string b.n, .bool b.s, .int .i64 b.a]) = _
      rw [hV]
    rw [hc]
    cases hs : b.s
    · obtain ⟨f, v, hm, hen, hw⟩ := hF
      have hk : lookR (b :: R) t true = lookR R t true := by
        show (if hitB b t true then b.a else lookR R t true) = _
        rw [if_neg]
        unfold hitB
        rw [hs]
        simp
      refine ⟨_, _, rfl, f, v, fun n W => ?_, hen, fun w => by rw [hk]; exact hw w⟩
      exact (tableOf_cell T V _ _ _ (n + R.length + 1) W).trans (hm n W)
    · refine ⟨_, _, rfl, 262, _, fun n W => tableOf_table _ _ _ _ (n + R.length + 1) W, ent_tableOf, fun w => ?_⟩
      have := tableOf_own_any t R b T V hl' hF hs w
      rw [hs] at this
      exact this

set_option maxHeartbeats 2000000 in
theorem lookedI_any (a : Option Addr) (cap : Nat) (X : List Bd) (t : ByteArray) (s : Bool) (w : World) (h : RowA BdAt 3 w a X) (hok : ∀ x ∈ X, okBd x) (hL : X.length ≤ 2097152) :
    Calls Try.prog 43 #[.slice a X.length cap, .string t, .bool s] w fun e w' => e = .returned (.int .i64 (lookE X t s)) ∧ Below w.heap.size w w' := by
  have hl := envOkI_any a cap X w h hok hL
  cases hq : envB X
  · have HE : Hid (lookE X t s = -1) := (by unfold lookE; rw [hq]; rfl : lookE X t s = -1)
    rw [hq] at hl
    go_enter Try.func43, Try.ntmps43
    go_wp2_with fail
    refine hl.mono ?_
    rintro e w1 ⟨rfl, hb1⟩
    go_wp2
    go_ret
    exact ⟨by rw [HE.out]; rfl, hb1⟩
  · have HE : Hid (lookE X t s = lookR X.reverse t s) := (by unfold lookE; rw [hq]; rfl : lookE X t s = lookR X.reverse t s)
    have h400 : X.length ≤ 400 := by
      unfold envB at hq
      rw [Bool.and_eq_true] at hq
      exact of_decide_eq_true hq.1
    rw [hq] at hl
    rw [HE.out]
    clear HE hq
    go_enter Try.func43, Try.ntmps43
    go_wp2_with fail
    refine hl.mono ?_
    rintro e w1 ⟨rfl, hb1⟩
    go_wp2_with fail
    refine (knownBy_any a cap X w1 (h.call bd_stays hb1) h400).mono ?_
    rintro e w2 ⟨rfl, hb2⟩
    have hB2 := bstep hb1 hb2
    clear hb1 hb2 hl
    cases s
    · obtain ⟨T, V, hV, f, v, hm, hen, hc⟩ := cellOf_find t X.reverse (by rw [List.length_reverse]; exact h400)
      rw [hV]
      have hm' : ∀ n W, (method (n + 401) T V "loop.example/g00544/impl.cellOf").run Try.prog W = .ok (f, v) W := fun n W => by
        have := hm (n + 400 - X.reverse.length) W
        rwa [show n + 400 - X.reverse.length + X.reverse.length + 1 = n + 401 by rw [List.length_reverse]; omega] at this
      clear hm hV
      go_wp2_with fail
      refine (hc _).mono ?_
      rintro e w3 ⟨rfl, hb3⟩
      have hB3 := bstep hB2 hb3
      clear hm' hen hc hb3
      go_wp2
      go_ret
      exact ⟨rfl, hB3⟩
    · obtain ⟨T, V, hV, f, v, hm, hen, hc⟩ := tableOf_find t X.reverse (by rw [List.length_reverse]; exact h400)
      rw [hV]
      have hm' : ∀ n W, (method (n + 401) T V "loop.example/g00544/impl.tableOf").run Try.prog W = .ok (f, v) W := fun n W => by
        have := hm (n + 400 - X.reverse.length) W
        rwa [show n + 400 - X.reverse.length + X.reverse.length + 1 = n + 401 by rw [List.length_reverse]; omega] at this
      clear hm hV
      go_wp2_with fail
      refine (hc _).mono ?_
      rintro e w3 ⟨rfl, hb3⟩
      have hB3 := bstep hB2 hb3
      clear hm' hen hc hb3
      go_wp2
      go_ret
      exact ⟨rfl, hB3⟩

end Go.Proofs.Ytcmjmoikalfdkaa
