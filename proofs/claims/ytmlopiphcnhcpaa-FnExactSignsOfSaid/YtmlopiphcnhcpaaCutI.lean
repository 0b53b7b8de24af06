/-
  impl.cutSigns: the pieces of a page, in memory of its own.
-/
import Derived.Test.YtmlopiphcnhcpaaFall
import Derived.Test.YtmlopiphcnhcpaaCutS
namespace Go.Proofs.Ytmlopiphcnhcpaa
open Go.RowKit

/-- The slots of cutSigns's frame of which nothing is asked. -/
structure CU where
  (u1 u2 u3 u7 u8 u9 u10 u11 u12 u13 u14 u15 u16 u17 u18 u19 u20 u21 u22 u23 u24 u25 u26 u27 u28 u29 u30 u31 u32 u33 u34 u35 u36 u37 u38 u39 u40 u41 u42 u43 u44 u45 u46 u47 u48 u49 u50 u51 u52 u53 u54 u55 u56 u57 u58 u59 u60 u61 u62 u63 u64 u65 u66 u67 u68 u69 : Value)
/-- A frame of cutSigns: its page, what it has, where its piece begins, where it is. -/
def cFrame (s : ByteArray) (v : Value) (x y : Int) (a : Act) : Prop := ∃ u : CU, a = { tmps := #[.string s, u.u1, u.u2, u.u3, v, .int .i64 x, .int .i64 y, u.u7, u.u8, u.u9, u.u10, u.u11, u.u12, u.u13, u.u14, u.u15, u.u16, u.u17, u.u18, u.u19, u.u20, u.u21, u.u22, u.u23, u.u24, u.u25, u.u26, u.u27, u.u28, u.u29, u.u30, u.u31, u.u32, u.u33, u.u34, u.u35, u.u36, u.u37, u.u38, u.u39, u.u40, u.u41, u.u42, u.u43, u.u44, u.u45, u.u46, u.u47, u.u48, u.u49, u.u50, u.u51, u.u52, u.u53, u.u54, u.u55, u.u56, u.u57, u.u58, u.u59, u.u60, u.u61, u.u62, u.u63, u.u64, u.u65, u.u66, u.u67, u.u68, u.u69], defers := [] }
theorem cFrame_mk {s : ByteArray} {v : Value} {x y : Int} (u1 u2 u3 u7 u8 u9 u10 u11 u12 u13 u14 u15 u16 u17 u18 u19 u20 u21 u22 u23 u24 u25 u26 u27 u28 u29 u30 u31 u32 u33 u34 u35 u36 u37 u38 u39 u40 u41 u42 u43 u44 u45 u46 u47 u48 u49 u50 u51 u52 u53 u54 u55 u56 u57 u58 u59 u60 u61 u62 u63 u64 u65 u66 u67 u68 u69 : Value) : cFrame s v x y { tmps := #[.string s, u1, u2, u3, v, .int .i64 x, .int .i64 y, u7, u8, u9, u10, u11, u12, u13, u14, u15, u16, u17, u18, u19, u20, u21, u22, u23, u24, u25, u26, u27, u28, u29, u30, u31, u32, u33, u34, u35, u36, u37, u38, u39, u40, u41, u42, u43, u44, u45, u46, u47, u48, u49, u50, u51, u52, u53, u54, u55, u56, u57, u58, u59, u60, u61, u62, u63, u64, u65, u66, u67, u68, u69], defers := [] } := ⟨⟨u1, u2, u3, u7, u8, u9, u10, u11, u12, u13, u14, u15, u16, u17, u18, u19, u20, u21, u22, u23, u24, u25, u26, u27, u28, u29, u30, u31, u32, u33, u34, u35, u36, u37, u38, u39, u40, u41, u42, u43, u44, u45, u46, u47, u48, u49, u50, u51, u52, u53, u54, u55, u56, u57, u58, u59, u60, u61, u62, u63, u64, u65, u66, u67, u68, u69⟩, rfl⟩
/-- What it has. -/
def cHas (s : ByteArray) (w : World) (v : Value) (L : List ByteArray) (w' : World) (f : Nat) : Prop := OwnT w' w.heap.size v L ∧ Below w.heap.size w w' ∧ L.length ≤ 2000 ∧ ∀ r, Cuts s f L r → Cuts s 0 [] r
/-- What holds at its labels. -/
def cJ (s : ByteArray) (w : World) : Nat → Act → World → Prop
  | 0, a, w' => ∃ v x y, cFrame s v x y a ∧ ∃ (k : Nat) (L : List ByteArray), y = k ∧ k ≤ s.size ∧ cHas s w v L w' k
  | 1, a, w' => ∃ v x y, cFrame s v x y a ∧ ∃ (f k : Nat) (L : List ByteArray), x = f ∧ y = k ∧ f ≤ k ∧ k < s.size ∧ cHas s w v L w' f ∧ blankB (byt s f) = false ∧ endN s f = k + 1
  | 2, a, w' => ∃ v x y, cFrame s v x y a ∧ ∃ (f k : Nat) (L : List ByteArray), x = f ∧ y = k ∧ f ≤ k ∧ k < s.size ∧ cHas s w v L w' f ∧ byt s f = 39 ∧ ∀ i, f < i → i ≤ k → byt s i ≠ 39
  | 3, a, w' => ∃ v x y, cFrame s v x y a ∧ ∃ (f k : Nat) (L : List ByteArray), x = f ∧ y = k ∧ f ≤ k ∧ k < s.size ∧ cHas s w v L w' f ∧ ∀ i, f ≤ i → i ≤ k → stopB (byt s i) = false
  | 4, a, w' => ∃ v x y, cFrame s v x y a ∧ ∃ (f e : Nat) (L : List ByteArray), x = f ∧ y = e ∧ f < e ∧ e ≤ s.size ∧ cHas s w v L w' f ∧ blankB (byt s f) = false ∧ endN s f = e
  | _, _, _ => False
def cRank : Nat → Nat
  | 0 => 6
  | 4 => 7
  | _ => 1
def cMu (s : ByteArray) (l : Nat) (a : Act) (_w : World) : Nat := (s.size - (intOf (a.tmps.getD 6 undef)).toNat) * 8 + cRank l

theorem stop_blank {c : Int} (h : stopB c = false) : blankB c = false := by simp [stopB] at h; simp [blankB, h]

set_option maxHeartbeats 8000000 in
set_option maxRecDepth 100000 in
theorem cutSigns_any (s : ByteArray) (w : World) (hs : s.size ≤ 20000) :
    Calls Try.prog 35 #[.string s] w fun e w' => ∃ v b L, e = .returned (.tuple #[v, .bool b]) ∧ OwnT w' w.heap.size v L ∧ Below w.heap.size w w' ∧ L.length ≤ 2000 ∧ Cuts s 0 [] (L, b) := by
  obtain ⟨i0, hi, hz0, hz1, hz2⟩ := info_parts Try.infoS
  go_enter Try.func35, Try.ntmps35
  go_wp2
  refine wp_scope_fall (cJ s w) (cMu s) rfl rfl rfl rfl rfl (fun _ _ _ h => h) ?first ?p0 ?p1 ?p2 ?p3 ?p4
  case first =>
    intro hF
    go_wp2
    refine wp_label ?_
    rename_i hKK
    refine hKK _ _ (hF _ _ ?_)
    refine ⟨_, _, _, cFrame_mk .., 0, [], rfl, Nat.zero_le _, ownT_new w _ (Nat.le_refl _), balloc (Below.refl _ _) _, by simp, fun r h => h⟩
  case p0 =>
    rintro a w' ⟨v, x, y, ⟨u, rfl⟩, k, L, rfl, hk, hH⟩ hF
    by_cases hlt : k < s.size
    · have hne : ((k : Int) == (s.size : Int)) = false := by simp; omega
      have eb := byt_eq hlt
      by_cases q32 : byt s k = 32
      · have HN : Hid (cHas s w v L w' (k + 1)) := ⟨hH.1, hH.2.1, hH.2.2.1, fun r h => hH.2.2.2 r (cuts_blank hlt (by rw [q32]; rfl) h)⟩
        have c32 : ((s[k].toNat : Int) == 32) = true := by simp; omega
        clear eb q32 hF hH
        go_wp2
        go_step3
        show cJ s _ 0 _ _ ∧ _ < _
        refine ⟨⟨_, _, _, cFrame_mk .., k + 1, L, ?_, by omega, HN.out⟩, ?_⟩
        · omega
        · simp [cMu, intOf]; omega
      have c32 : ((s[k].toNat : Int) == 32) = false := by simp; omega
      by_cases q10 : byt s k = 10
      · have HN : Hid (cHas s w v L w' (k + 1)) := ⟨hH.1, hH.2.1, hH.2.2.1, fun r h => hH.2.2.2 r (cuts_blank hlt (by rw [q10]; rfl) h)⟩
        have c10 : ((s[k].toNat : Int) == 10) = true := by simp; omega
        clear eb q32 q10 hF hH
        go_wp2
        go_step3
        show cJ s _ 0 _ _ ∧ _ < _
        refine ⟨⟨_, _, _, cFrame_mk .., k + 1, L, ?_, by omega, HN.out⟩, ?_⟩
        · omega
        · simp [cMu, intOf]; omega
      have c10 : ((s[k].toNat : Int) == 10) = false := by simp; omega
      have hbl : blankB (byt s k) = false := by simp [blankB, q32, q10]
      by_cases qp : byt s k = 40 ∨ byt s k = 41
      · have HN : Hid (cHas s w v L w' k ∧ blankB (byt s k) = false ∧ endN s k = k + 1) := ⟨hH, hbl, end_paren qp⟩
        have hor : ((s[k].toNat : Int) == 40) = true ∨ (((s[k].toNat : Int) == 40) = false ∧ ((s[k].toNat : Int) == 41) = true) := by
          by_cases c : (s[k].toNat : Int) = 40
          · left; simp; omega
          · right; simp; omega
        clear eb q32 q10 hF hH hbl qp
        rcases hor with c40 | ⟨c40, c41⟩
        all_goals
          go_wp2
          go_step3
          show cJ s _ 1 _ _ ∧ _ < _
          refine ⟨⟨_, _, _, cFrame_mk .., k, k, L, rfl, rfl, Nat.le_refl _, hlt, HN.out.1, HN.out.2.1, HN.out.2.2⟩, ?_⟩
          simp [cMu, intOf, cRank]
      have c40 : ((s[k].toNat : Int) == 40) = false := by simp; omega
      have c41 : ((s[k].toNat : Int) == 41) = false := by simp; omega
      by_cases q39 : byt s k = 39
      · have HN : Hid (cHas s w v L w' k ∧ byt s k = 39) := ⟨hH, q39⟩
        have c39 : ((s[k].toNat : Int) == 39) = true := by simp; omega
        clear eb q32 q10 hF hH hbl qp q39
        go_wp2
        go_step3
        show cJ s _ 2 _ _ ∧ _ < _
        refine ⟨⟨_, _, _, cFrame_mk .., k, k, L, rfl, rfl, Nat.le_refl _, hlt, HN.out.1, HN.out.2, fun i a b => by omega⟩, ?_⟩
        simp [cMu, intOf, cRank]
      · have c39 : ((s[k].toNat : Int) == 39) = false := by simp; omega
        have HN : Hid (cHas s w v L w' k ∧ stopB (byt s k) = false) := ⟨hH, by simp [stopB]; omega⟩
        clear eb q32 q10 hH hbl qp q39
        go_wp2
        refine wp_label ?_
        rename_i hKK
        refine hKK _ _ (hF _ _ ?_ ?_)
        · refine ⟨_, _, _, cFrame_mk .., k, k, L, rfl, rfl, Nat.le_refl _, hlt, HN.out.1, fun i a b => ?_⟩
          have : i = k := by omega
          rw [this]; exact HN.out.2
        · simp [cMu, intOf, cRank]
    · have hee : ((k : Int) == (s.size : Int)) = true := by simp; omega
      have HR : Hid (Cuts s 0 [] (L, true)) := hH.2.2.2 _ (cuts_end L (by omega))
      obtain ⟨hown, hB, hL, _⟩ := hH
      obtain ⟨ad, cap, rfl⟩ := hown.shape
      clear hF
      go_wp2
      rw [jumps_ret]
      go_ret2
      exact ⟨_, _, L, rfl, hown, hB, hL, HR.out⟩
  case p3 =>
    rintro a w' ⟨v, x, y, ⟨u, rfl⟩, f, k, L, rfl, rfl, hfk, hk, hH, hst⟩
    have hbl : blankB (byt s f) = false := stop_blank (hst f (Nat.le_refl _) hfk)
    by_cases hlt : k + 1 < s.size
    · have eb := byt_eq hlt
      cases hq : stopB (byt s (k + 1))
      · have HN : Hid (∀ i, f ≤ i → i ≤ k + 1 → stopB (byt s i) = false) := fun i a b => by
          by_cases e : i = k + 1
          · rw [e]; exact hq
          · exact hst i a (by omega)
        have HQ : Hid (stopB (s[k + 1].toNat : Int) = false) := by rw [← eb]; exact hq
        clear eb hq hst hbl
        go_wp2_with fail
        refine (endsWord_any _ _).mono ?_
        rintro e w1 ⟨rfl, rfl⟩
        rw [HQ.out]
        go_wp2
        go_step3
        show cJ s _ 3 _ _ ∧ _ < _
        refine ⟨⟨_, _, _, cFrame_mk .., f, k + 1, L, rfl, ?_, by omega, hlt, hH, HN.out⟩, ?_⟩
        · omega
        · simp [cMu, intOf, cRank]; omega
      · have HE : Hid (endN s f = k + 1) := end_word (hst f (Nat.le_refl _) hfk) (by omega) (by omega) (fun i a b => hst i a (by omega)) (Or.inr hq)
        have HQ : Hid (stopB (s[k + 1].toNat : Int) = true) := by rw [← eb]; exact hq
        have HB : Hid (blankB (byt s f) = false) := hbl
        clear eb hq hst hbl
        go_wp2_with fail
        refine (endsWord_any _ _).mono ?_
        rintro e w1 ⟨rfl, rfl⟩
        rw [HQ.out]
        go_wp2
        go_step3
        show cJ s _ 4 _ _ ∧ _ < _
        refine ⟨⟨_, _, _, cFrame_mk .., f, k + 1, L, rfl, ?_, by omega, by omega, hH, HB.out, HE.out⟩, ?_⟩
        · omega
        · simp [cMu, intOf, cRank]; omega
    · have HE : Hid (endN s f = k + 1) := end_word (hst f (Nat.le_refl _) hfk) (by omega) (by omega) (fun i a b => hst i a (by omega)) (Or.inl (by omega))
      have HB : Hid (blankB (byt s f) = false) := hbl
      clear hst hbl
      go_wp2
      go_step3
      show cJ s _ 4 _ _ ∧ _ < _
      refine ⟨⟨_, _, _, cFrame_mk .., f, k + 1, L, rfl, ?_, by omega, by omega, hH, HB.out, HE.out⟩, ?_⟩
      · omega
      · simp [cMu, intOf, cRank]; omega
  case p2 =>
    rintro a w' ⟨v, x, y, ⟨u, rfl⟩, f, k, L, rfl, rfl, hfk, hk, hH, h39, hno⟩ hF
    have HB : Hid (blankB (byt s f) = false) := (by rw [h39]; rfl : blankB (byt s f) = false)
    by_cases hend : k + 1 = s.size
    · have HE : Hid (endN s f = k + 1) := (by rw [hend]; exact end_open h39 (by omega) (fun i a b => hno i a (by omega)) : endN s f = k + 1)
      have hee : ((k : Int) + 1 == (s.size : Int)) = true := by simp; omega
      have hle : k + 1 ≤ s.size := by omega
      clear hF hno h39 hend
      go_wp2
      go_step3
      show cJ s _ 4 _ _ ∧ _ < _
      refine ⟨⟨_, _, _, cFrame_mk .., f, k + 1, L, rfl, ?_, by omega, hle, hH, HB.out, HE.out⟩, ?_⟩
      · omega
      · simp [cMu, intOf, cRank]; omega
    have hne : ((k : Int) + 1 == (s.size : Int)) = false := by simp; omega
    have hlt : k + 1 < s.size := by omega
    have eb := byt_eq hlt
    by_cases q : byt s (k + 1) = 39
    · have c39 : ((s[k + 1].toNat : Int) != 39) = false := by simp; omega
      have HE : Hid (endN s f = k + 1 + 1) := end_quote h39 (by omega) hlt q (fun i a b => hno i a (by omega))
      clear hno h39 eb q
      go_wp2
      refine wp_label ?_
      rename_i hKK
      refine hKK _ _ (hF _ _ ?_ ?_)
      · refine ⟨_, _, _, cFrame_mk .., f, k + 1, L, rfl, ?_, by omega, hlt, hH, HB.out, HE.out⟩
        omega
      · simp [cMu, intOf, cRank]; omega
    · have c39 : ((s[k + 1].toNat : Int) != 39) = true := by simp; omega
      have HN : Hid (byt s f = 39 ∧ ∀ i, f < i → i ≤ k + 1 → byt s i ≠ 39) := ⟨h39, fun i a b => by
        by_cases e : i = k + 1
        · rw [e]; exact q
        · exact hno i a (by omega)⟩
      clear hno h39 eb q hF
      go_wp2
      go_step3
      show cJ s _ 2 _ _ ∧ _ < _
      refine ⟨⟨_, _, _, cFrame_mk .., f, k + 1, L, rfl, ?_, by omega, hlt, hH, HN.out.1, HN.out.2⟩, ?_⟩
      · omega
      · simp [cMu, intOf, cRank]; omega
  case p1 =>
    rintro a w' ⟨v, x, y, ⟨u, rfl⟩, f, k, L, rfl, rfl, hfk, hk, hH, hbl, hE⟩ hF
    have HB : Hid (blankB (byt s f) = false ∧ endN s f = k + 1) := ⟨hbl, hE⟩
    clear hbl hE
    go_wp2
    refine wp_label ?_
    rename_i hKK
    refine hKK _ _ (hF _ _ ?_ ?_)
    · refine ⟨_, _, _, cFrame_mk .., f, k + 1, L, rfl, ?_, by omega, by omega, hH, HB.out.1, HB.out.2⟩
      omega
    · simp [cMu, intOf, cRank]; omega
  case p4 =>
    rintro a w' ⟨v, x, y, ⟨u, rfl⟩, f, e, L, rfl, rfl, hfe, he, hH, hbl, hE⟩
    have hf : f < s.size := by omega
    have hx : (s.extract f e).size ≤ maxLen := by unfold maxLen; simp; omega
    obtain ⟨hown, hB, hL, hC⟩ := hH
    obtain ⟨ad, cap, rfl⟩ := hown.shape
    have hbs := hB.size
    by_cases hfull : L.length = 2000
    · have HR : Hid (Cuts s 0 [] ([], false)) := hC _ (cuts_bad hf hbl (Or.inl hfull))
      have hf2 : ((L.length : Int) == 2000) = true := by simp; omega
      clear hbl hE hC hfull
      go_wp2
      rw [jumps_ret]
      go_ret2
      exact ⟨_, _, [], rfl, ownT_nil _ _, hB, by simp, HR.out⟩
    have hf2 : ((L.length : Int) == 2000) = false := by simp; omega
    have hL2 : L.length < 2000 := by omega
    cases hsg : signB (s.extract f e)
    · have HR : Hid (Cuts s 0 [] ([], false)) := hC _ (cuts_bad hf hbl (Or.inr (by rw [hE]; exact hsg)))
      have HS : Hid (signB (s.extract f e) = false) := hsg
      clear hbl hE hC hfull hsg
      go_wp2_with fail
      refine (signOkI_any _ _ hx).mono ?_
      rintro e1 w1 ⟨rfl, rfl⟩
      rw [HS.out]
      go_wp2
      rw [jumps_ret]
      go_ret2
      exact ⟨_, _, [], rfl, ownT_nil _ _, hB, by simp, HR.out⟩
    · have HN : Hid (∀ r, Cuts s e (L ++ [s.extract f e]) r → Cuts s 0 [] r) := fun r h => hC r (cuts_piece hf hbl hfull (by rw [hE]; exact hsg) (by rw [hE]; exact h))
      have HS : Hid (signB (s.extract f e) = true) := hsg
      clear hbl hE hC hfull hsg
      go_wp2_with fail
      refine (signOkI_any _ _ hx).mono ?_
      rintro e1 w1 ⟨rfl, rfl⟩
      rw [HS.out]
      go_wp2_with (at_builtin; refine wpList_append_own _ rfl (.tmp 63) (.tmp 68) 24 rfl w.heap.size 9 i0 (.string ⟨#[]⟩) 1 16 Try.underlying24 hi hz0 hz1 hz2 rfl (by decide) _ _ _ rfl (World.ownsRow.alloc hown _) ⟨w1.heap.size, 0, none⟩ 1 1 [.string (s.extract f e)] rfl rfl ?c1 ?c2 ?c3 ?c4 ?c5 ?_)
      case c1 =>
        intro j u hj
        match j, hj with
        | 0, hj => simp at hj; subst hj; simp [Addr.add]
      case c2 => intro u hu; simp at hu; subst hu; rfl
      case c3 => unfold maxLen; omega
      case c4 => omega
      case c5 => simp; omega
      intro v' w3 hown' hgrow _
      have hR : OwnT w3 w.heap.size v' (L ++ [s.extract f e]) := by
        unfold OwnT
        rw [List.map_append, List.length_append]
        exact hown'
      have hB3 : Below w.heap.size w w3 := (balloc hB _).grown hgrow (by simp; omega) (fun k hk => (World.ownsRow.lt hown k hk).1)
      clear hown' hgrow hown hB
      go_wp2
      go_step3
      show cJ s _ 0 _ _ ∧ _ < _
      refine ⟨⟨_, _, _, cFrame_mk .., e, L ++ [s.extract f e], rfl, he, hR, hB3, by simp; omega, HN.out⟩, ?_⟩
      simp [cMu, intOf, cRank]

end Go.Proofs.Ytmlopiphcnhcpaa
