/-
  Chapter 9: Bound, the model and the program.
-/
import Derived.Test.YtcmjmoikalfdkaaEnvP
import Derived.Test.YtcmjmoikalfdkaaListC
import Derived.Test.YtcmjmoikalfdkaaAppW
import Derived.Deep.RegionLaw
namespace Go.Proofs.Ytcmjmoikalfdkaa
open Go.RowKit

/-- Binds in memory of the call's own. -/
def OwnB (w : World) (B g n cp : Nat) (X : List Bd) : Prop := w.ownsRow B 116 3 (.slice (some ⟨g, 0, none⟩) n cp) n (X.flatMap bC)
theorem add_zero_plain (g j : Nat) : (⟨g, 0, none⟩ : Addr).add j = ⟨g, j, none⟩ := by unfold Addr.add; split <;> simp_all
theorem OwnB.row {w : World} {B g n cp : Nat} {X : List Bd} (h : OwnB w B g n cp X) : RowF w g (X.flatMap bC) ∧ B ≤ g := by
  have hl := World.ownsRow.lt h g rfl
  refine ⟨⟨hl.2, fun i hi => ⟨?_, World.ownsRow.frozenAt h i⟩⟩, hl.1⟩
  have hc := World.ownsRow.cells h (g := g) rfl i (X.flatMap bC)[i] (List.getElem?_eq_getElem hi)
  rwa [add_zero_plain] at hc
theorem OwnB.len {w : World} {B g n cp : Nat} {X : List Bd} (h : OwnB w B g n cp X) : n = X.length := by
  have h1 := h.1
  rw [flat_size bC 3 (fun _ => rfl)] at h1
  omega
theorem OwnB.call {w w' : World} {B g n cp : Nat} {X : List Bd} (h : OwnB w B g n cp X) (hb : Below w.heap.size w w') : OwnB w' B g n cp X :=
  own_kept h (fun k hk => hb.block k (World.ownsRow.lt h k hk).2)
theorem ownB_new (w : World) (B : Nat) (h : B ≤ w.heap.size) : OwnB (w.alloc (.cells #[] 116)) B w.heap.size 0 0 [] := by
  exact World.ownsRow_made w #[] 0 h (by unfold maxLen; omega) rfl
theorem ownB_mono {w : World} {B B' g n cp : Nat} {X : List Bd} (h : OwnB w B g n cp X) (hb : B' ≤ B) : OwnB w B' g n cp X := by
  refine ⟨h.1, ?_⟩
  rcases h.2 with hn | ⟨g, cap, cur, e, hB, rest⟩
  · exact .inl hn
  · exact .inr ⟨g, cap, cur, e, Nat.le_trans hb hB, rest⟩

set_option maxHeartbeats 400000 in
theorem l1Max_any (x y : Int) (w : World) :
    Calls Try.prog 105 #[.int .i64 x, .int .i64 y] w fun e w' => e = .returned (.int .i64 (max x y)) ∧ w' = w := by
  by_cases h : y < x
  · have HM : Hid (max x y = x) := (by omega : max x y = x)
    go_enter Try.func105, Try.ntmps105
    go_wp2
    go_ret
    exact ⟨by rw [HM.out]; rfl, rfl⟩
  · have HM : Hid (max x y = y) := (by omega : max x y = y)
    go_enter Try.func105, Try.ntmps105
    go_wp2
    go_ret
    exact ⟨by rw [HM.out]; rfl, rfl⟩

set_option maxRecDepth 100000 in
set_option maxHeartbeats 2000000 in
theorem l9Copy_any (g0 cap : Nat) (X : List Bd) (w : World) (h : RowF w g0 (X.flatMap bC)) (hL : X.length ≤ 2097152) :
    Calls Try.prog 104 #[.slice (some ⟨g0, 0, none⟩) X.length cap] w fun e w' => ∃ g cp, e = .returned (.slice (some ⟨g, 0, none⟩) X.length cp) ∧ OwnB w' w.heap.size g X.length cp X ∧ Below w.heap.size w w' := by
  obtain ⟨i0, hi, hz0, hz1, hz2⟩ := info_parts infoBd
  have hn := ownB_new w w.heap.size (Nat.le_refl _)
  have hB0 := balloc (Below.refl w.heap.size w) (.cells #[] 116)
  have h' := h.call hB0
  have hcc0 : (X.flatMap bC).length = X.length * 3 := flat_size bC 3 (fun _ => rfl) X
  have hcc1 : ∀ j u, (X.flatMap bC)[j]? = some u → (w.alloc (.cells #[] 116)).cell? ((⟨g0, 0, none⟩ : Addr).add j) = some u := fun j u hu => by
    obtain ⟨hl, he⟩ := List.getElem?_eq_some_iff.1 hu
    rw [add_zero_plain, (h'.2 j hl).1, he]
  have hcc2 : ∀ u ∈ X.flatMap bC, u.oneCell' = true := fun u hu => by
    obtain ⟨x, _, hx⟩ := List.mem_flatMap.1 hu
    simp [bC] at hx
    rcases hx with rfl | rfl | rfl <;> rfl
  have hcc3 : 0 + X.length ≤ maxLen := by unfold maxLen; omega
  have hcc4 : (0 + X.length) * 32 ≤ 140737488355328 := by omega
  have hcc5 : w.heap.size ≤ (w.alloc (.cells #[] 116)).heap.size := by simp
  go_enter Try.func104, Try.ntmps104
  go_wp2_with (at_builtin; refine wpList_append_own _ rfl _ _ 42 rfl w.heap.size 116 i0 (.agg #[.string ⟨#[]⟩, .bool false, .int .i64 0]) 3 32 Try.underlying42 hi hz0 hz1 hz2 rfl (by decide) _ _ _ rfl hn ⟨g0, 0, none⟩ X.length cap (X.flatMap bC) rfl hcc0 hcc1 hcc2 hcc3 hcc4 hcc5 ?_)
  intro v' w3 hown' hgrow hnil
  have hB3 : Below w.heap.size w w3 := hB0.grown hgrow hcc5 (fun k hk => (World.ownsRow.lt hn k hk).1)
  obtain ⟨g, cp, rfl⟩ : ∃ g cp, v' = .slice (some ⟨g, 0, none⟩) X.length cp := by
    rcases hown'.2 with ⟨e, _⟩ | ⟨g, cp, cur, e, _⟩
    · exact absurd e hnil
    · exact ⟨g, cp, e⟩
  clear hgrow hnil hcc0 hcc1 hcc2 hcc3 hcc4 hcc5 h' hn
  go_wp2
  go_ret
  exact ⟨g, cp, rfl, hown', hB3⟩

/-- The new ones: so many, with these Ats. -/
def news (T : List ByteArray) (s : Bool) (F : Nat → Int) (k : Nat) : List Bd := (List.range k).map fun i => ⟨T.getD i ⟨#[]⟩, s, F i⟩
theorem news_length (T : List ByteArray) (s : Bool) (F : Nat → Int) (k : Nat) : (news T s F k).length = k := by simp [news]
theorem news_succ (T : List ByteArray) (s : Bool) (F : Nat → Int) (k : Nat) (hk : k < T.length) : news T s F (k + 1) = news T s F k ++ [⟨T[k], s, F k⟩] := by
  unfold news
  rw [List.range_succ, List.map_append]
  simp [hk]
/-- The Ats that the program and the model give. -/
def atI (f : Int) (i : Nat) : Int := IntKind.i64.wrap (f + (i : Int))
def atS (f : Int) (i : Nat) : Int := IntKind.i64.wrap (max f (-1) + (i : Int))
/-- What Bound tells. -/
def boundE (X : List Bd) (T : List ByteArray) (s : Bool) (f : Int) : List Bd := if envB X then (if envB (X ++ news T s (atI f) T.length) then X ++ news T s (atI f) T.length else X) else []
theorem bad_new (X : List Bd) (T : List ByteArray) (s : Bool) (F : Nat → Int) (hT : 0 < T.length) (hF : F 0 < 0 ∨ 1000000000 < F 0) : envB (X ++ news T s F T.length) = false := by
  unfold envB
  have : (X ++ news T s F T.length).all bdB = false := by
    rw [List.all_eq_false]
    refine ⟨⟨T.getD 0 ⟨#[]⟩, s, F 0⟩, List.mem_append_right _ (List.mem_map.mpr ⟨0, by simpa using hT, rfl⟩), ?_⟩
    simp [bdB]
    omega
  rw [this, Bool.and_false]
theorem wrap_in {x : Int} (h : I64 x) : IntKind.i64.wrap x = x := by
  unfold I64 at h
  rw [IntKind.wrap_i64]
  omega
theorem wrap_i64 (x : Int) : I64 (IntKind.i64.wrap x) := by
  unfold I64
  rw [IntKind.wrap_i64]
  omega
theorem bound_s (X : List Bd) (T : List ByteArray) (s : Bool) (f : Int) (hq : envB X = true) (hf : I64 f) : boundE X T s f = if envB (X ++ news T s (atS f) T.length) = true ∧ f ≤ 1000000000 then X ++ news T s (atS f) T.length else X := by
  unfold boundE
  rw [if_pos hq]
  rcases Nat.eq_zero_or_pos T.length with h0 | h0
  · rw [h0]
    simp [news]
  · have hw := wrap_in hf
    have e0 : atI f 0 = f := by unfold atI; simpa using hw
    by_cases h1 : -1 ≤ f
    · have e : atS f = atI f := by
        funext i
        unfold atS atI
        rw [show max f (-1) = f by omega]
      rw [e]
      by_cases h2 : f ≤ 1000000000
      · simp [h2]
      · rw [bad_new X T s (atI f) h0 (by rw [e0]; omega)]
        simp
    · have e1 : atS f 0 = -1 := by
        unfold atS
        rw [show max f (-1) = -1 by omega]
        exact wrap_in (by unfold I64; omega)
      rw [bad_new X T s (atI f) h0 (by rw [e0]; omega), bad_new X T s (atS f) h0 (by rw [e1]; omega)]
      simp
theorem news_ok (X : List Bd) (T : List ByteArray) (s : Bool) (F : Nat → Int) (k : Nat) (hX : ∀ x ∈ X, okBd x) (hT : ∀ i (h : i < T.length), T[i].size ≤ maxLen) (hk : k ≤ T.length) (hF : ∀ i, I64 (F i)) : ∀ x ∈ X ++ news T s F k, okBd x := fun x hx => by
  rcases List.mem_append.1 hx with hx | hx
  · exact hX x hx
  · obtain ⟨i, hi, rfl⟩ := List.mem_map.1 hx
    have hi' : i < T.length := by have := List.mem_range.1 hi; omega
    refine ⟨?_, hF i⟩
    show (T.getD i ⟨#[]⟩).size ≤ maxLen
    rw [List.getD_eq_getElem?_getD, List.getElem?_eq_getElem hi']
    exact hT i hi'

set_option maxRecDepth 100000 in
set_option maxHeartbeats 2000000 in
theorem boundS_any (g0 cap : Nat) (X : List Bd) (a : Option Addr) (cap2 : Nat) (T : List ByteArray) (s : Bool) (f : Int) (w : World) (h : RowF w g0 (X.flatMap bC)) (hok : ∀ x ∈ X, okBd x) (hL : X.length ≤ 1048576) (h2 : ArgT w a T) (hL2 : T.length ≤ 1048576) (hf : I64 f) :
    Calls Try.prog 42 #[.slice (some ⟨g0, 0, none⟩) X.length cap, .slice a T.length cap2, .bool s, .int .i64 f] w fun e w' => ∃ g cp, e = .returned (.slice (some ⟨g, 0, none⟩) (boundE X T s f).length cp) ∧ OwnB w' w.heap.size g (boundE X T s f).length cp (boundE X T s f) ∧ Below w.heap.size w w' := by
  obtain ⟨i0, hi, hz0, hz1, hz2⟩ := info_parts infoBd
  have hl := envOkS_any (some ⟨g0, 0, none⟩) cap X w (rowB h) hok (by omega)
  cases hq : envB X
  · have HE : Hid (boundE X T s f = []) := (by unfold boundE; rw [hq]; rfl : boundE X T s f = [])
    rw [hq] at hl
    clear hq
    go_enter Try.func42, Try.ntmps42
    go_wp2_with fail
    refine hl.mono ?_
    rintro e w1 ⟨rfl, hb1⟩
    clear hl
    have hn := ownB_new w1 w.heap.size hb1.size
    go_wp2
    go_ret
    exact ⟨_, 0, by rw [HE.out]; rfl, by rw [HE.out]; exact hn, balloc hb1 _⟩
  · rw [hq] at hl
    go_enter Try.func42, Try.ntmps42
    go_wp2_with fail
    refine hl.mono ?_
    rintro e w1 ⟨rfl, hb1⟩
    clear hl
    have h1 := h.call hb1
    go_wp2_with fail
    refine (l9Copy_any g0 cap X w1 h1 (by omega)).mono ?_
    rintro e w2 ⟨g2, c2, rfl, ho2, hb2⟩
    have hB2 := bstep hb1 hb2
    replace ho2 := ownB_mono ho2 hb1.size
    clear hb1 hb2 h1
    go_wp2
    go_loopw [9, 10] (fun v9 v10 wr => ∃ (k g n cp : Nat), k ≤ T.length ∧ v10 = .int .i64 (k : Int) ∧ v9 = .slice (some ⟨g, 0, none⟩) n cp ∧ OwnB wr w.heap.size g n cp (X ++ news T s (atS f) k) ∧ Below w.heap.size w wr) (fun _ v10 _ => T.length - (intOf v10).toNat)
    case atStart => exact ⟨0, g2, X.length, c2, Nat.zero_le _, rfl, rfl, by simpa [news] using ho2, hB2⟩
    case round =>
      obtain ⟨k, g, n, cp, hk, rfl, rfl, hown, hB⟩ := hrel
      clear ho2 hB2
      have HN : Hid (n = X.length + k) := (by rw [hown.len, List.length_append, news_length] : n = X.length + k)
      have hn : n ≤ 2097152 := by rw [HN.out]; omega
      by_cases hlt : k < T.length
      · obtain ⟨sb, off, rfl, hs, hc, hm⟩ := h2 k hlt
        have hc' := (hB.cell (p := ⟨sb, off + k, none⟩) hs).trans hc
        have HNS : Hid (X ++ news T s (atS f) (k + 1) = (X ++ news T s (atS f) k) ++ [⟨T[k], s, atS f k⟩]) := (by rw [news_succ T s _ k hlt, List.append_assoc] : X ++ news T s (atS f) (k + 1) = (X ++ news T s (atS f) k) ++ [⟨T[k], s, atS f k⟩])
        clear hc
        generalize T[k] = t at hc' HNS hm
        obtain ⟨Y, hY⟩ : ∃ Y, Y = X ++ news T s (atS f) k := ⟨_, rfl⟩
        rw [← hY] at HNS hown
        clear hY
        have hc3 : n + 1 ≤ maxLen := by unfold maxLen; omega
        have hc4 : (n + 1) * 32 ≤ 140737488355328 := by omega
        have hcA : ∀ (W : World) (v0 v1 v2 : Value), ∀ j u, [v0, v1, v2][j]? = some u → (W.alloc (.cells #[v0, v1, v2] 116)).cell? ((⟨W.heap.size, 0, none⟩ : Addr).add j) = some u := fun W v0 v1 v2 j u hj => by
          rw [add_zero_plain, cell_new]
          match j, hj with
          | 0, hj => exact hj
          | 1, hj => exact hj
          | 2, hj => exact hj
        have hcB := hcA wr.drew (.string t) (.bool s) (.int .i64 (atS f k))
        have hc2 : ∀ u ∈ [Value.string t, .bool s, .int .i64 (atS f k)], u.oneCell' = true := fun u hu => by simp at hu; rcases hu with rfl | rfl | rfl <;> rfl
        have hc5 : w.heap.size ≤ (wr.drew.alloc (.cells #[.string t, .bool s, .int .i64 (atS f k)] 116)).heap.size := by have := hB.size; simp; omega
        have hBd : Below w.heap.size w (wr.drew.alloc (.cells #[.string t, .bool s, .int .i64 (atS f k)] 116)) := balloc hB.drew _
        have HG : Hid (∀ (v' : Value) (w4 : World), w4.ownsRow w.heap.size 116 3 v' (n + 1) (Y.flatMap bC ++ [.string t, .bool s, .int .i64 (atS f k)]) → (wr.drew.alloc (.cells #[.string t, .bool s, .int .i64 (atS f k)] 116)).grownBy w4 (Value.slice (some ⟨g, 0, none⟩) n cp).ownBlock → v' ≠ .slice none 0 0 → ∃ g5 c5, v' = .slice (some ⟨g5, 0, none⟩) (n + 1) c5 ∧ OwnB w4 w.heap.size g5 (n + 1) c5 (X ++ news T s (atS f) (k + 1)) ∧ Below w.heap.size w w4) := by
          intro v' w4 ho hg hne
          have hB4 : Below w.heap.size w w4 := hBd.grown hg hc5 (fun j hj => (World.ownsRow.lt hown j hj).1)
          rcases id ho.2 with ⟨e, _⟩ | ⟨g5, c5, cur, e, _⟩
          · exact absurd e hne
          · refine ⟨g5, c5, e, ?_, hB4⟩
            rw [HNS.out]
            unfold OwnB
            rw [List.flatMap_append, ← e]
            exact ho
        clear hcA
        go_upto_region 7 with fail
        go_region_law (first
          | (refine step_append_at rfl (.tmp 23) (.tmp 34) 42 rfl w.heap.size 116 i0 (.agg #[.string ⟨#[]⟩, .bool false, .int .i64 0]) 3 32 Try.underlying42 hi hz0 hz1 hz2 rfl (by decide) (.slice (some ⟨g, 0, none⟩) n cp) n (Y.flatMap bC) (by simp [Act.eval]) (World.ownsRow.alloc (World.ownsRow.drew hown) _) ⟨wr.heap.size, 0, none⟩ 1 1 [.string t, .bool s, .int .i64 (atS f k)] (by simp [Act.eval]) rfl hcB hc2 hc3 hc4 hc5 ?_; intro v' w4 hown' hgrow hnil; have HR := HG.out v' w4 hown' hgrow (fun e => by have := hnil.mp e; simp at this); obtain ⟨g5, c5, rfl, hO5, hB5⟩ := HR; clear hown' hgrow hnil)
          | (go_simp; go_wp2_with (go_at_call 105; refine (l1Max_any f (-1) _).mono ?_; rintro e w3 ⟨rfl, hw3⟩; subst hw3)))
        all_goals go_wp2
        all_goals exact ⟨⟨k + 1, g5, n + 1, c5, by omega, by go_num, rfl, hO5, hB5⟩, by simp [intOf]; omega⟩
      · have e : k = T.length := by omega
        subst e
        have hT : ∀ i (h : i < T.length), T[i].size ≤ maxLen := fun i hi => by
          obtain ⟨_, _, _, _, _, hm⟩ := h2 i hi
          exact hm
        have HK : Hid (∀ x ∈ X ++ news T s (atS f) T.length, okBd x) := news_ok X T s (atS f) T.length hok hT (Nat.le_refl _) (fun i => wrap_i64 _)
        have HS := bound_s X T s f hq hf
        obtain ⟨Y, hY⟩ : ∃ Y, Y = X ++ news T s (atS f) T.length := ⟨_, rfl⟩
        rw [← hY] at hown HK HS
        clear hY
        have hl := hown.len
        subst hl
        have hl2 := envOkS_any (some ⟨g, 0, none⟩) cp Y wr (rowB hown.row.1) HK.out hn
        by_cases hv : envB Y = true ∧ f ≤ 1000000000
        · rw [if_pos hv] at HS
          have HS' : Hid (boundE X T s f = Y) := HS
          rw [hv.1] at hl2
          obtain ⟨_, hf9⟩ := hv
          clear HS HN
          go_wp2_with fail
          refine hl2.mono ?_
          rintro e w3 ⟨rfl, hb3⟩
          have hO3 := hown.call hb3
          have hB3 := bstep hB hb3
          clear hl2 hb3 hown
          go_wp2
          go_ret
          exact ⟨g, cp, by rw [HS'.out]; rfl, by rw [HS'.out]; exact hO3, hB3⟩
        · rw [if_neg hv] at HS
          have HS' : Hid (boundE X T s f = X) := HS
          have HV : Hid (envB Y = true → 1000000000 < f) := fun h => by
            rcases Int.lt_or_le 1000000000 f with h3 | h3
            · exact h3
            · exact absurd ⟨h, h3⟩ hv
          clear HS HN hv
          have hcopy : ∀ W, Below w.heap.size w W → Calls Try.prog 104 #[.slice (some ⟨g0, 0, none⟩) X.length cap] W fun e w' => ∃ g cp, e = .returned (.slice (some ⟨g, 0, none⟩) X.length cp) ∧ OwnB w' w.heap.size g X.length cp X ∧ Below w.heap.size w w' := fun W hW =>
            (l9Copy_any g0 cap X W (h.call hW) (by omega)).mono fun e w' ⟨g, cp, h1, h2, h3⟩ => ⟨g, cp, h1, ownB_mono h2 hW.size, bstep hW h3⟩
          cases hv : envB Y
          · rw [hv] at hl2
            clear HV hv
            go_wp2_with fail
            refine hl2.mono ?_
            rintro e w3 ⟨rfl, hb3⟩
            have hB3 := bstep hB hb3
            clear hl2 hb3 hown
            go_wp2_with fail
            refine (hcopy _ hB3).mono ?_
            rintro e w4 ⟨g4, c4, rfl, hO4, hB4⟩
            go_wp2
            go_ret
            exact ⟨g4, c4, by rw [HS'.out]; rfl, by rw [HS'.out]; exact hO4, hB4⟩
          · rw [hv] at hl2
            have hf9 := HV.out hv
            clear HV hv
            go_wp2_with fail
            refine hl2.mono ?_
            rintro e w3 ⟨rfl, hb3⟩
            have hB3 := bstep hB hb3
            clear hl2 hb3 hown
            go_wp2_with fail
            refine (hcopy _ hB3).mono ?_
            rintro e w4 ⟨g4, c4, rfl, hO4, hB4⟩
            go_wp2
            go_ret
            exact ⟨g4, c4, by rw [HS'.out]; rfl, by rw [HS'.out]; exact hO4, hB4⟩

end Go.Proofs.Ytcmjmoikalfdkaa
