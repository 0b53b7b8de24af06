/-
  Chapter 9: Bound, the program.
-/
import Derived.Test.YtcmjmoikalfdkaaEnvB
namespace Go.Proofs.Ytcmjmoikalfdkaa
open Go.RowKit

/-- What the program has found of the first ones. -/
def BSo (X : List Bd) (T : List ByteArray) (s : Bool) (f : Int) (k : Nat) : Prop := X.length + k ≤ 400 ∧ ∀ i, i < k → bdB ⟨T.getD i ⟨#[]⟩, s, atI f i⟩ = true
theorem BSo.all {X : List Bd} {T : List ByteArray} {s : Bool} {f : Int} (h : BSo X T s f T.length) (hq : envB X = true) : boundE X T s f = X ++ news T s (atI f) T.length := by
  unfold boundE
  rw [if_pos hq, if_pos]
  unfold envB at hq ⊢
  rw [Bool.and_eq_true] at hq ⊢
  refine ⟨decide_eq_true (by rw [List.length_append, news_length]; exact h.1), ?_⟩
  rw [List.all_append, hq.2, Bool.true_and, List.all_eq_true]
  intro x hx
  obtain ⟨i, hi, rfl⟩ := List.mem_map.1 hx
  exact h.2 i (List.mem_range.1 hi)
theorem bound_not {X : List Bd} {T : List ByteArray} {s : Bool} {f : Int} {k : Nat} (hk : k < T.length) (hq : envB X = true) (h : X.length + k = 400 ∨ bdB ⟨T[k], s, atI f k⟩ = false) : boundE X T s f = X := by
  unfold boundE
  rw [if_pos hq, if_neg]
  rw [Bool.not_eq_true]
  unfold envB
  rcases h with h | h
  · rw [decide_eq_false (by rw [List.length_append, news_length]; omega)]
    rfl
  · have : (X ++ news T s (atI f) T.length).all bdB = false := by
      rw [List.all_eq_false]
      refine ⟨⟨T.getD k ⟨#[]⟩, s, atI f k⟩, List.mem_append_right _ (List.mem_map.mpr ⟨k, by simpa using hk, rfl⟩), ?_⟩
      rw [List.getD_eq_getElem?_getD, List.getElem?_eq_getElem hk]
      simpa using h
    rw [this, Bool.and_false]

set_option maxRecDepth 100000 in
set_option maxHeartbeats 4000000 in
theorem boundI_any (g0 cap : Nat) (X : List Bd) (a : Option Addr) (cap2 : Nat) (T : List ByteArray) (s : Bool) (f : Int) (w : World) (h : RowF w g0 (X.flatMap bC)) (hok : ∀ x ∈ X, okBd x) (hL : X.length ≤ 1048576) (h2 : ArgT w a T) (hL2 : T.length ≤ 1048576) :
    Calls Try.prog 39 #[.slice (some ⟨g0, 0, none⟩) X.length cap, .slice a T.length cap2, .bool s, .int .i64 f] w fun e w' => ∃ g cp, e = .returned (.slice (some ⟨g, 0, none⟩) (boundE X T s f).length cp) ∧ OwnB w' w.heap.size g (boundE X T s f).length cp (boundE X T s f) ∧ Below w.heap.size w w' := by
  obtain ⟨i0, hi, hz0, hz1, hz2⟩ := info_parts infoBd
  have hl := envOkI_any (some ⟨g0, 0, none⟩) cap X w (rowB h) hok (by omega)
  cases hq : envB X
  · have HE : Hid (boundE X T s f = []) := (by unfold boundE; rw [hq]; rfl : boundE X T s f = [])
    rw [hq] at hl
    clear hq
    go_enter Try.func39, Try.ntmps39
    go_wp2_with fail
    refine hl.mono ?_
    rintro e w1 ⟨rfl, hb1⟩
    clear hl
    have hn := ownB_new w1 w.heap.size hb1.size
    go_wp2
    go_ret
    exact ⟨_, 0, by rw [HE.out]; rfl, by rw [HE.out]; exact hn, balloc hb1 _⟩
  · rw [hq] at hl
    go_enter Try.func39, Try.ntmps39
    go_wp2_with fail
    refine hl.mono ?_
    rintro e w1 ⟨rfl, hb1⟩
    clear hl
    have h1 := h.call hb1
    have hB0 := balloc hb1 (.cells #[] 116)
    have hn := ownB_new w1 w.heap.size hb1.size
    have hcc0 : (X.flatMap bC).length = X.length * 3 := flat_size bC 3 (fun _ => rfl) X
    have hcc1 : ∀ j u, (X.flatMap bC)[j]? = some u → (w1.alloc (.cells #[] 116)).cell? ((⟨g0, 0, none⟩ : Addr).add j) = some u := fun j u hu => by
      obtain ⟨hl, he⟩ := List.getElem?_eq_some_iff.1 hu
      rw [add_zero_plain, ((h.call hB0).2 j hl).1, he]
    have hcc2 : ∀ u ∈ X.flatMap bC, u.oneCell' = true := fun u hu => by
      obtain ⟨x, _, hx⟩ := List.mem_flatMap.1 hu
      simp [bC] at hx
      rcases hx with rfl | rfl | rfl <;> rfl
    have hcc3 : 0 + X.length ≤ maxLen := by unfold maxLen; omega
    have hcc4 : (0 + X.length) * 32 ≤ 140737488355328 := by omega
    have hcc5 : w.heap.size ≤ (w1.alloc (.cells #[] 116)).heap.size := by have := hb1.size; simp; omega
    go_wp2_with (at_builtin; refine wpList_append_own _ rfl _ _ 42 rfl w.heap.size 116 i0 (.agg #[.string ⟨#[]⟩, .bool false, .int .i64 0]) 3 32 Try.underlying42 hi hz0 hz1 hz2 rfl (by decide) _ _ _ rfl hn ⟨g0, 0, none⟩ X.length cap (X.flatMap bC) rfl hcc0 hcc1 hcc2 hcc3 hcc4 hcc5 ?_)
    intro v' w2 hown' hgrow hnil
    have hB2 : Below w.heap.size w w2 := hB0.grown hgrow hcc5 (fun k hk => (World.ownsRow.lt hn k hk).1)
    obtain ⟨g2, c2, rfl⟩ : ∃ g cp, v' = .slice (some ⟨g, 0, none⟩) X.length cp := by
      rcases hown'.2 with ⟨e, _⟩ | ⟨g, cp, cur, e, _⟩
      · exact absurd e hnil
      · exact ⟨g, cp, e⟩
    have ho2 : OwnB w2 w.heap.size g2 X.length c2 X := hown'
    clear hown' hgrow hnil hcc1 hcc5 h1 hn hb1 hB0
    go_wp2
    go_loopw [9, 22] (fun v9 v22 wr => ∃ (k g n cp : Nat), k ≤ T.length ∧ v22 = .int .i64 (k : Int) ∧ v9 = .slice (some ⟨g, 0, none⟩) n cp ∧ Hid (BSo X T s f k) ∧ OwnB wr w.heap.size g n cp (X ++ news T s (atI f) k) ∧ Below w.heap.size w wr) (fun _ v22 _ => T.length - (intOf v22).toNat)
    case atStart => exact ⟨0, g2, X.length, c2, Nat.zero_le _, rfl, rfl, (⟨by unfold envB at hq; rw [Bool.and_eq_true] at hq; exact of_decide_eq_true hq.1, fun i hi => absurd hi (Nat.not_lt_zero _)⟩ : BSo X T s f 0), by simpa [news] using ho2, hB2⟩
    case round =>
      obtain ⟨k, g, n, cp, hk, rfl, rfl, HB, hown, hB⟩ := hrel
      clear ho2 hB2
      have HN : Hid (n = X.length + k) := (by rw [hown.len, List.length_append, news_length] : n = X.length + k)
      have hn : n ≤ 400 := by rw [HN.out]; exact HB.out.1
      by_cases hlt : k < T.length
      · obtain ⟨sb, off, rfl, hs, hc, hm⟩ := h2 k hlt
        have hc' := (hB.cell (p := ⟨sb, off + k, none⟩) hs).trans hc
        have HNS : Hid (X ++ news T s (atI f) (k + 1) = (X ++ news T s (atI f) k) ++ [⟨T[k], s, atI f k⟩]) := (by rw [news_succ T s _ k hlt, List.append_assoc] : X ++ news T s (atI f) (k + 1) = (X ++ news T s (atI f) k) ++ [⟨T[k], s, atI f k⟩])
        have HNO : Hid (n = 400 ∨ bdB ⟨T[k], s, atI f k⟩ = false → boundE X T s f = X) := fun h => bound_not hlt hq (by rw [← HN.out]; exact h)
        have HYES : Hid (n ≠ 400 → bdB ⟨T[k], s, atI f k⟩ = true → BSo X T s f (k + 1)) := fun h1 h2 => by
          refine ⟨by have := HB.out.1; have := HN.out; omega, fun i hi => ?_⟩
          by_cases e : i = k
          · subst e
            rw [List.getD_eq_getElem?_getD, List.getElem?_eq_getElem hlt]
            exact h2
          · exact HB.out.2 i (by omega)
        clear hc
        generalize T[k] = t at hc' HNS hm HNO HYES
        obtain ⟨Y, hY⟩ : ∃ Y, Y = X ++ news T s (atI f) k := ⟨_, rfl⟩
        rw [← hY] at HNS hown
        clear hY
        have hzz : wrap64 (f + (k : Int)) = atI f k := by unfold atI wrap64; rw [IntKind.wrap_i64]
        generalize atI f k = z at hzz HNS HNO HYES
        by_cases h400 : n = 400
        · have HS' : Hid (boundE X T s f = X) := HNO.out (Or.inl h400)
          clear HNO HYES HNS HN HB
          have b400 : ((n : Int) == 400) = true := by simp; omega
          obtain ⟨WW, hWW⟩ : ∃ WW, WW = wr.alloc (.cells #[.string t, .bool s, .int .i64 z] 116) := ⟨_, rfl⟩
          have HBB : Below w.heap.size w WW := by rw [hWW]; exact balloc hB _
          clear h400 hn
          go_upto_region 8 with fail
          rw [hzz]
          rw [← hWW]
          clear hWW hzz
          have hB3 : Below w.heap.size w WW := HBB
          have hn3 := ownB_new WW w.heap.size hB3.size
          have hBn := balloc hB3 (.cells #[] 116)
          have hcc1 : ∀ j u, (X.flatMap bC)[j]? = some u → (WW.alloc (.cells #[] 116)).cell? ((⟨g0, 0, none⟩ : Addr).add j) = some u := fun j u hu => by
            obtain ⟨hl, he⟩ := List.getElem?_eq_some_iff.1 hu
            rw [add_zero_plain, ((h.call hBn).2 j hl).1, he]
          have hcc5 : w.heap.size ≤ (WW.alloc (.cells #[] 116)).heap.size := hBn.size
          go_wp2_with (at_builtin; refine wpList_append_own _ rfl _ _ 42 rfl w.heap.size 116 i0 (.agg #[.string ⟨#[]⟩, .bool false, .int .i64 0]) 3 32 Try.underlying42 hi hz0 hz1 hz2 rfl (by decide) _ _ _ rfl hn3 ⟨g0, 0, none⟩ X.length cap (X.flatMap bC) rfl hcc0 hcc1 hcc2 hcc3 hcc4 hcc5 ?_)
          intro v' w4 hown' hgrow hnil
          have hB4 : Below w.heap.size w w4 := hBn.grown hgrow hcc5 (fun k hk => (World.ownsRow.lt hn3 k hk).1)
          obtain ⟨g4, c4, rfl⟩ : ∃ g cp, v' = .slice (some ⟨g, 0, none⟩) X.length cp := by
            rcases hown'.2 with ⟨e, _⟩ | ⟨g, cp, cur, e, _⟩
            · exact absurd e hnil
            · exact ⟨g, cp, e⟩
          have hO4 : OwnB w4 w.heap.size g4 X.length c4 X := hown'
          clear hown' hgrow hnil hcc1 hcc5 hn3 hBn
          go_wp2
          go_ret
          exact ⟨g4, c4, by rw [HS'.out]; rfl, by rw [HS'.out]; exact hO4, hB4⟩
        · have b400 : ((n : Int) == 400) = false := beq_eq_false_iff_ne.mpr (by omega)
          have hbl := fun W => bindOk_any ⟨t, s, z⟩ W hm
          have hBw : Below w.heap.size w (wr.alloc (.cells #[.string t, .bool s, .int .i64 z] 116)) := balloc hB _
          have hbx := bbox0 wr (.string t) (.bool s) (.int .i64 z) 116
          have howW : OwnB (wr.alloc (.cells #[.string t, .bool s, .int .i64 z] 116)) w.heap.size g n cp Y := World.ownsRow.alloc hown _
          go_wp2_with fail
          clear hzz
          refine (hbl _).mono ?_
          rintro e w3 ⟨rfl, hb3⟩
          have HBB := bstep hBw hb3
          have hO3 := howW.call hb3
          obtain ⟨x0, x1, x2, x3⟩ := bbox hb3 hbx.2.2.2 hbx.1 hbx.2.1 hbx.2.2.1
          clear hb3 hBw howW hbx hbl
          cases hd : bdB ⟨t, s, z⟩
          · have HS' : Hid (boundE X T s f = X) := HNO.out (Or.inr hd)
            clear HNO HYES HNS HN HB hd
            obtain ⟨WW, hWW⟩ : ∃ WW, WW = w3 := ⟨_, rfl⟩
            rw [← hWW] at HBB x0 x1 x2 x3 ⊢
            clear hWW
            have hB3 : Below w.heap.size w WW := HBB
            have hn3 := ownB_new WW w.heap.size hB3.size
            have hBn := balloc hB3 (.cells #[] 116)
            have hcc1 : ∀ j u, (X.flatMap bC)[j]? = some u → (WW.alloc (.cells #[] 116)).cell? ((⟨g0, 0, none⟩ : Addr).add j) = some u := fun j u hu => by
              obtain ⟨hl, he⟩ := List.getElem?_eq_some_iff.1 hu
              rw [add_zero_plain, ((h.call hBn).2 j hl).1, he]
            have hcc5 : w.heap.size ≤ (WW.alloc (.cells #[] 116)).heap.size := hBn.size
            go_wp2_with (at_builtin; refine wpList_append_own _ rfl _ _ 42 rfl w.heap.size 116 i0 (.agg #[.string ⟨#[]⟩, .bool false, .int .i64 0]) 3 32 Try.underlying42 hi hz0 hz1 hz2 rfl (by decide) _ _ _ rfl hn3 ⟨g0, 0, none⟩ X.length cap (X.flatMap bC) rfl hcc0 hcc1 hcc2 hcc3 hcc4 hcc5 ?_)
            intro v' w4 hown' hgrow hnil
            have hB4 : Below w.heap.size w w4 := hBn.grown hgrow hcc5 (fun k hk => (World.ownsRow.lt hn3 k hk).1)
            obtain ⟨g4, c4, rfl⟩ : ∃ g cp, v' = .slice (some ⟨g, 0, none⟩) X.length cp := by
              rcases hown'.2 with ⟨e, _⟩ | ⟨g, cp, cur, e, _⟩
              · exact absurd e hnil
              · exact ⟨g, cp, e⟩
            have hO4 : OwnB w4 w.heap.size g4 X.length c4 X := hown'
            clear hown' hgrow hnil hcc1 hcc5 hn3 hBn
            go_wp2
            go_ret
            exact ⟨g4, c4, by rw [HS'.out]; rfl, by rw [HS'.out]; exact hO4, hB4⟩
          · have HB2 : Hid (BSo X T s f (k + 1)) := HYES.out h400 hd
            clear HNO HYES HB hd
            have hc3 : n + 1 ≤ maxLen := by unfold maxLen; omega
            have hc4 : (n + 1) * 32 ≤ 140737488355328 := by omega
            have hcB : ∀ j u, [Value.string t, .bool s, .int .i64 z][j]? = some u → (w3.alloc (.cells #[.string t, .bool s, .int .i64 z] 116)).cell? ((⟨w3.heap.size, 0, none⟩ : Addr).add j) = some u := fun j u hj => by
              rw [add_zero_plain, cell_new]
              match j, hj with
              | 0, hj => exact hj
              | 1, hj => exact hj
              | 2, hj => exact hj
            have hc2 : ∀ u ∈ [Value.string t, .bool s, .int .i64 z], u.oneCell' = true := fun u hu => by simp at hu; rcases hu with rfl | rfl | rfl <;> rfl
            have hBn := balloc HBB (.cells #[.string t, .bool s, .int .i64 z] 116)
            have hc5 : w.heap.size ≤ (w3.alloc (.cells #[.string t, .bool s, .int .i64 z] 116)).heap.size := hBn.size
            go_wp2_with (at_builtin; refine wpList_append_own _ rfl _ _ 42 rfl w.heap.size 116 i0 (.agg #[.string ⟨#[]⟩, .bool false, .int .i64 0]) 3 32 Try.underlying42 hi hz0 hz1 hz2 rfl (by decide) _ _ _ rfl (World.ownsRow.alloc hO3 _) ⟨w3.heap.size, 0, none⟩ 1 1 [.string t, .bool s, .int .i64 z] rfl rfl hcB hc2 hc3 hc4 hc5 ?_)
            intro v' w4 hown' hgrow hnil
            have hB4 : Below w.heap.size w w4 := hBn.grown hgrow hc5 (fun j hj => (World.ownsRow.lt hO3 j hj).1)
            obtain ⟨g4, c4, rfl, hO4⟩ : ∃ g4 c4, v' = .slice (some ⟨g4, 0, none⟩) (n + 1) c4 ∧ OwnB w4 w.heap.size g4 (n + 1) c4 (X ++ news T s (atI f) (k + 1)) := by
              rcases id hown'.2 with ⟨e, _⟩ | ⟨g, cp, cur, e, _⟩
              · exact absurd e hnil
              · refine ⟨g, cp, e, ?_⟩
                rw [HNS.out]
                unfold OwnB
                rw [List.flatMap_append, ← e]
                exact hown'
            clear hown' hgrow hnil hcB hc2 hc3 hc4 hc5 hBn HNS HN
            go_wp2
            go_roundw
            case rel => exact ⟨k + 1, g4, n + 1, c4, by omega, by go_num, rfl, HB2, hO4, hB4⟩
            case measure => simp [intOf]; omega
      · have e : k = T.length := by omega
        subst e
        have HS' : Hid (boundE X T s f = X ++ news T s (atI f) T.length) := HB.out.all hq
        have hl := hown.len
        obtain ⟨Y, hY⟩ : ∃ Y, Y = X ++ news T s (atI f) T.length := ⟨_, rfl⟩
        rw [← hY] at hown HS' hl
        clear hY HB HN
        subst hl
        go_wp2
        go_ret
        exact ⟨g, cp, by rw [HS'.out]; rfl, by rw [HS'.out]; exact hown, hB⟩

end Go.Proofs.Ytcmjmoikalfdkaa
