/-
  Chapter 4 and chapter 3: a sum, a deed, a PARAM is an item: what ends a form ends the item that begins there.
-/
import Derived.Test.YtlmibonebiaocaaGreatDoorFormB
import Derived.Test.YtlmibonebiaocaaGreatDoorItemW
namespace Go.Proofs.YtlmibonebiaocaaGreatDoor
open Go.RowKit

/-- It is neither ( nor ). -/
def plainS (s : ByteArray) : Prop := isW s [40] = false ∧ isW s [41] = false
/-- What stands between i and e opens as much as it shuts. -/
def Skips (L : List ByteArray) (i e : Int) : Prop := 0 ≤ i ∧ i ≤ e ∧ e ≤ (L.length : Int) ∧ ∀ f o : Nat, 1 ≤ o → itemF L (f + (e - i).toNat) i.toNat o = itemF L f e.toNat o
section
variable {L : List ByteArray} {i j e x : Int}
theorem skips_at (h0 : 0 ≤ i) (h1 : i ≤ (L.length : Int)) : Skips L i i := ⟨h0, Int.le_refl _, h1, fun f o _ => by rw [Int.sub_self]; rfl⟩
theorem Skips.trans (h : Skips L i j) (k : Skips L j e) : Skips L i e := by
  obtain ⟨h0, h1, h2, h3⟩ := h
  obtain ⟨k0, k1, k2, k3⟩ := k
  refine ⟨h0, by omega, k2, fun f o ho => ?_⟩
  rw [show f + (e - i).toNat = (f + (e - j).toNat) + (j - i).toNat by omega, h3 _ _ ho, k3 _ _ ho]
theorem sgAt_getD (h0 : 0 ≤ i) (h1 : i < (L.length : Int)) : L.getD i.toNat ⟨#[]⟩ = sgAt L i := by
  unfold sgAt
  rw [if_pos ⟨h0, h1⟩]
theorem itemF_open {f o : Nat} (h0 : 0 ≤ i) (h1 : i < (L.length : Int)) (h : isW (sgAt L i) [40] = true) : itemF L (f + 1) i.toNat o = itemF L f (i + 1).toNat (o + 1) := by
  rw [itemF, if_pos (by omega), sgAt_getD h0 h1, h, show (i + 1).toNat = i.toNat + 1 by omega]
  rfl
theorem itemF_shut {f o : Nat} (h0 : 0 ≤ i) (h1 : i < (L.length : Int)) (hn : isW (sgAt L i) [40] = false) (h : isW (sgAt L i) [41] = true) (ho : 1 ≤ o) : itemF L (f + 1) i.toNat (o + 1) = itemF L f (i + 1).toNat o := by
  rw [itemF, if_pos (by omega), sgAt_getD h0 h1, hn, h, show (i + 1).toNat = i.toNat + 1 by omega]
  simp only [Bool.false_eq_true, if_false, if_true]
  rw [if_neg (by omega), if_neg (by omega)]
  rfl
theorem itemF_last {f : Nat} (h0 : 0 ≤ i) (h1 : i < (L.length : Int)) (hn : isW (sgAt L i) [40] = false) (h : isW (sgAt L i) [41] = true) : itemF L (f + 1) i.toNat 1 = i + 1 := by
  rw [itemF, if_pos (by omega), sgAt_getD h0 h1, hn, h]
  simp only [Bool.false_eq_true, if_false, if_true]
  rw [if_neg (by omega)]
  omega
theorem itemF_plain {f o : Nat} (h0 : 0 ≤ i) (h1 : i < (L.length : Int)) (h : plainS (sgAt L i)) (ho : 1 ≤ o) : itemF L (f + 1) i.toNat o = itemF L f (i + 1).toNat o := by
  rw [itemF, if_pos (by omega), sgAt_getD h0 h1, h.1, h.2, show (i + 1).toNat = i.toNat + 1 by omega]
  simp only [Bool.false_eq_true, if_false]
  rw [if_neg (by omega)]
theorem skips_one (h0 : 0 ≤ i) (h1 : i < (L.length : Int)) (h : plainS (sgAt L i)) : Skips L i (i + 1) :=
  ⟨h0, by omega, by omega, fun f o ho => by
    rw [show f + (i + 1 - i).toNat = f + 1 by omega]
    exact itemF_plain h0 h1 h ho⟩
theorem isW_other {s : ByteArray} {c d : List UInt8} (h : isW s c = true) (hcd : (c == d) = false) : isW s d = false := by rw [isW_eq h, isW_lit]; exact hcd
theorem skips_wrap (h0 : 0 ≤ i) (h1 : i < (L.length : Int)) (ho : isW (sgAt L i) [40] = true) (hs : Skips L (i + 1) x) (hx : x < (L.length : Int)) (hc : isW (sgAt L x) [41] = true) : Skips L i (x + 1) ∧ itemE L i = x + 1 := by
  obtain ⟨s0, s1, s2, s3⟩ := hs
  have hn := isW_other (d := [40]) hc (by decide)
  refine ⟨⟨h0, by omega, by omega, fun f o h => ?_⟩, ?_⟩
  · rw [show f + (x + 1 - i).toNat = ((f + 1) + (x - (i + 1)).toNat) + 1 by omega, itemF_open h0 h1 ho, s3 _ _ (by omega), itemF_shut (by omega) hx hn hc h]
  · unfold itemE
    rw [if_neg (by omega), show L.length + 1 = ((L.length - 1 - (x - (i + 1)).toNat) + 1 + (x - (i + 1)).toNat) + 1 by omega, itemF_open h0 h1 ho, s3 _ _ (by omega), itemF_last (by omega) hx hn hc]
theorem item_one (h0 : 0 ≤ i) (h1 : i < (L.length : Int)) (h : plainS (sgAt L i)) : itemE L i = i + 1 := by
  unfold itemE
  rw [if_neg (by omega), itemF, if_pos (by omega), sgAt_getD h0 h1, h.1, h.2]
  simp only [Bool.false_eq_true, if_false, if_true]
  omega
theorem isE_pos {c : List UInt8} (hc : c ≠ []) (h : isE L x c ≠ -1) : isE L x c = x + 1 ∧ 0 ≤ x ∧ x < (L.length : Int) ∧ isW (sgAt L x) c = true := by
  unfold isE at h ⊢
  split at h
  · rename_i hw
    rw [if_pos hw]
    by_cases hin : 0 ≤ x ∧ x < (L.length : Int)
    · exact ⟨rfl, hin.1, hin.2, hw⟩
    · rw [sgAt_out hin, isW_nil c hc] at hw
      exact absurd hw (by decide)
  · exact absurd rfl h
theorem name_plain {s : ByteArray} (h : nameB s = true) : plainS s := by
  constructor
  · refine Bool.eq_false_iff.mpr fun hw => ?_
    rw [isW_eq hw] at h
    exact absurd h (by decide +kernel)
  · refine Bool.eq_false_iff.mpr fun hw => ?_
    rw [isW_eq hw] at h
    exact absurd h (by decide +kernel)
theorem nmE_pos (h : nmE L x ≠ -1) : nmE L x = x + 1 ∧ 0 ≤ x ∧ x < (L.length : Int) ∧ nmB (sgAt L x) = true := by
  unfold nmE at h ⊢
  split at h
  · rename_i hw
    rw [if_pos hw]
    by_cases hin : 0 ≤ x ∧ x < (L.length : Int)
    · exact ⟨rfl, hin.1, hin.2, hw⟩
    · rw [sgAt_out hin] at hw
      unfold nmB at hw
      rw [nameB_nil] at hw
      exact absurd hw (by decide)
  · exact absurd rfl h
theorem nm_plain {s : ByteArray} (h : nmB s = true) : plainS s := by
  unfold nmB at h
  rw [Bool.and_eq_true] at h
  exact name_plain h.1
theorem one_plain {s : ByteArray} (hn : isW s [40] = false) (h : oneB s = true) : plainS s := by
  refine ⟨hn, Bool.eq_false_iff.mpr fun hw => ?_⟩
  rw [isW_eq hw] at h
  exact absurd h (by decide +kernel)

/-- Nowhere, too far, or behind what opens as much as it shuts. -/
def Ok (L : List ByteArray) (i x : Int) : Prop := x = -1 ∨ (L.length : Int) < x ∨ Skips L i x
/-- Nowhere, or behind the item that begins at i. -/
def Item (L : List ByteArray) (i x : Int) : Prop := x = -1 ∨ (Skips L i x ∧ itemE L i = x)
theorem Item.ok (h : Item L i x) : Ok L i x := h.elim Or.inl fun h => Or.inr (Or.inr h.1)
theorem ok_at (h0 : 0 ≤ i) : Ok L i i := by
  by_cases h : i ≤ (L.length : Int)
  · exact Or.inr (Or.inr (skips_at h0 h))
  · exact Or.inr (Or.inl (by omega))
theorem item_no : Item L i (-1) := Or.inl rfl
theorem item_ite {c : Prop} [Decidable c] {y : Int} (h1 : Item L i x) (h2 : Item L i y) : Item L i (if c then x else y) := by split <;> assumption
theorem ok_nm (h : Ok L i x) : Ok L i (nmE L x) := by
  by_cases hn : nmE L x = -1
  · exact Or.inl hn
  · obtain ⟨he, h0, h1, hb⟩ := nmE_pos hn
    rw [he]
    rcases h with h | h | h
    · omega
    · omega
    · exact Or.inr (Or.inr (h.trans (skips_one h0 h1 (nm_plain hb))))
/-- ( .. ) within. -/
theorem ok_paren {F : Int → Int} (hF : ∀ y, Ok L y (F y) ∨ y < 0) (hF1 : F (-1) = -1) (h : Ok L i x) : Ok L i (isE L (F (isE L x [40])) [41]) := by
  by_cases hn : isE L (F (isE L x [40])) [41] = -1
  · exact Or.inl hn
  · obtain ⟨he, h0, h1, hb⟩ := isE_pos (by decide) hn
    rw [he]
    by_cases hm : isE L x [40] = -1
    · rw [hm, hF1] at h0
      omega
    · obtain ⟨he2, h2, h3, hb2⟩ := isE_pos (by decide) hm
      rw [he2] at h0 h1 hb ⊢
      rcases hF (x + 1) with hf | hf
      · rcases hf with hf | hf | hf
        · omega
        · omega
        · rcases h with h | h | h
          · omega
          · omega
          · exact Or.inr (Or.inr (h.trans (skips_wrap h2 h3 hb2 hf h1 hb).1))
      · omega
/-- ( word .. ). -/
theorem item_form (ho : isW (sgAt L i) [40] = true) (hp : plainS (sgAt L (i + 1))) (h : Ok L (i + 2) x) : Item L i (isE L x [41]) := by
  obtain ⟨h0, h1⟩ := sgAt_open ho
  by_cases hn : isE L x [41] = -1
  · exact Or.inl hn
  · obtain ⟨he, h2, h3, hb⟩ := isE_pos (by decide) hn
    rw [he]
    rcases h with h | h | h
    · omega
    · omega
    · have h4 : i + 1 < (L.length : Int) := by obtain ⟨_, a, b, _⟩ := h; omega
      have hs := (skips_one (by omega) h4 hp).trans (by rw [show i + 1 + 1 = i + 2 by omega]; exact h)
      exact Or.inr (skips_wrap h0 h1 ho hs h3 hb)
end

/-- What is asked of r. -/
def Fine (L : List ByteArray) (r : Nat → Int → Int) : Prop := Good L r ∧ (∀ m j, m < 4 → Item L j (r m j)) ∧ ∀ m j, 4 ≤ m → 0 ≤ j → Ok L j (r m j)
section
variable {L : List ByteArray} {r : Nat → Int → Int} {i x : Int}
theorem Fine.ok (hr : Fine L r) (m : Nat) (h : Ok L i x) : Ok L i (r m x) := by
  by_cases hm : m < 4
  · have hE := hr.1.1 m x hm
    rcases h with rfl | h | h
    · unfold Ends at hE; left; omega
    · unfold Ends at hE; left; omega
    · rcases hr.2.1 m x hm with hk | hk
      · exact Or.inl hk
      · exact Or.inr (Or.inr (h.trans hk.1))
  · rcases h with rfl | h | h
    · have hE := hr.1.2 m (-1) (by omega) (by omega)
      unfold Fw at hE; left; omega
    · have hE := hr.1.2 m x (by omega) (by omega)
      unfold Fw at hE
      rcases hE with hE | hE
      · exact Or.inl hE
      · exact Or.inr (Or.inl (by omega))
    · rcases hr.2.2 m x (by omega) (by have := h.1; have := h.2.1; omega) with hk | hk | hk
      · exact Or.inl hk
      · exact Or.inr (Or.inl hk)
      · exact Or.inr (Or.inr (h.trans hk))
theorem Fine.any (hr : Fine L r) (m : Nat) (hm : 4 ≤ m) (y : Int) : Ok L y (r m y) ∨ y < 0 := by
  by_cases hy : 0 ≤ y
  · exact Or.inl (hr.2.2 m y hm hy)
  · exact Or.inr (by omega)
theorem Fine.none (hr : Fine L r) (m : Nat) (hm : 4 ≤ m) : r m (-1) = -1 := by
  have hE := hr.1.2 m (-1) hm (by omega)
  unfold Fw at hE
  omega
theorem op_plain {s : ByteArray} (h : opB s = true) : plainS s := by
  have hm := (opB_iff s).mp h
  simp only [opsL, List.mem_cons, List.not_mem_nil, or_false] at hm
  rcases hm with rfl | rfl | rfl | rfl | rfl | rfl <;> exact ⟨by rw [isW_lit]; decide, by rw [isW_lit]; decide⟩
theorem word_plain {s : ByteArray} {c : List UInt8} (h : isW s c = true) (h1 : (c == [40]) = false) (h2 : (c == [41]) = false) : plainS s := ⟨isW_other h h1, isW_other h h2⟩
theorem ok_name_paren (hr : Fine L r) (h : Ok L i x) : Ok L i (isE L (r 5 (nmE L (isE L x [40]))) [41]) :=
  ok_paren (F := fun y => r 5 (nmE L y)) (fun y => by
    by_cases hy : 0 ≤ y
    · exact Or.inl (hr.ok 5 (ok_nm (ok_at hy)))
    · exact Or.inr (by omega)) (by
      show r 5 (nmE L (-1)) = -1
      have : nmE L (-1) = -1 := by
        have := nmE_ends (L := L) (i := -1) (x := -1) (Or.inl rfl)
        unfold Ends at this; omega
      rw [this]; exact hr.none 5 (by decide)) h
theorem ok_many_paren (hr : Fine L r) (h : Ok L i x) : Ok L i (isE L (r 7 (isE L x [40])) [41]) :=
  ok_paren (F := r 7) (hr.any 7 (by decide)) (hr.none 7 (by decide)) h
theorem sumS_item (hr : Fine L r) (i : Int) : Item L i (sumS L r i) := by
  unfold sumS
  split
  · rename_i ho
    obtain ⟨h0, h1⟩ := sgAt_open ho
    have hs : Ok L (i + 2) (i + 2) := ok_at (by omega)
    split
    · rename_i hw
      refine item_form ho ?_ (hr.ok _ hs)
      rw [Bool.or_eq_true, Bool.or_eq_true] at hw
      rcases hw with (hw | hw) | hw
      · exact op_plain hw
      · exact word_plain hw (by decide) (by decide)
      · exact word_plain hw (by decide) (by decide)
    · split
      · rename_i hw
        exact item_form ho (word_plain hw (by decide) (by decide)) (hr.ok _ (ok_many_paren hr hs))
      · split
        · rename_i hw
          exact item_form ho (word_plain hw (by decide) (by decide)) (hr.ok _ (hr.ok _ hs))
        · split
          · rename_i hw
            rw [Bool.or_eq_true] at hw
            refine item_form ho ?_ (hr.ok _ hs)
            rcases hw with hw | hw <;> exact word_plain hw (by decide) (by decide)
          · split
            · rename_i hw
              exact item_form ho (word_plain hw (by decide) (by decide)) hs
            · split
              · rename_i hw
                exact item_form ho (word_plain hw (by decide) (by decide)) (hr.ok _ (ok_nm hs))
              · exact item_no
  · rename_i ho
    split
    · rename_i hw
      by_cases hin : 0 ≤ i ∧ i < (L.length : Int)
      · have hp := one_plain (Bool.eq_false_iff.mpr ho) hw
        exact Or.inr ⟨skips_one hin.1 hin.2 hp, item_one hin.1 hin.2 hp⟩
      · rw [sgAt_out hin, oneB_nil] at hw
        exact absurd hw (by decide)
    · exact item_no
theorem deedH_item (hr : Fine L r) (ho : isW (sgAt L i) [40] = true) : Item L i (deedH L r (sgAt L (i + 1)) (i + 2)) := by
  obtain ⟨h0, h1⟩ := sgAt_open ho
  have hs : Ok L (i + 2) (i + 2) := ok_at (by omega)
  by_cases hp : plainS (sgAt L (i + 1))
  · unfold deedH
    repeat' (first | exact item_no | with_reducible refine item_ite ?_ ?_ | (refine item_form ho hp ?_; repeat' (first | exact hs | refine ok_nm ?_ | refine ok_name_paren hr ?_ | refine hr.ok _ ?_)))
  · have hw : ∀ c : List UInt8, (c == [40]) = false → (c == [41]) = false → isW (sgAt L (i + 1)) c = false := fun c a b => Bool.eq_false_iff.mpr fun h => hp (word_plain h a b)
    unfold deedH
    rw [hw _ (by decide) (by decide), hw _ (by decide) (by decide), hw _ (by decide) (by decide), hw _ (by decide) (by decide), hw _ (by decide) (by decide), hw _ (by decide) (by decide), hw _ (by decide) (by decide), hw _ (by decide) (by decide), hw _ (by decide) (by decide), hw _ (by decide) (by decide), hw _ (by decide) (by decide), hw _ (by decide) (by decide), hw _ (by decide) (by decide), hw _ (by decide) (by decide), hw _ (by decide) (by decide), hw _ (by decide) (by decide), hw _ (by decide) (by decide)]
    exact item_no
theorem deedS_item (hr : Fine L r) (f : Bool) (i : Int) : Item L i (deedS L r f i) := by
  unfold deedS
  split
  · rename_i ho
    split
    · exact item_no
    · exact deedH_item hr ho
  · exact item_no
theorem nm_item (i : Int) : Item L i (nmE L i) := by
  by_cases hn : nmE L i = -1
  · exact Or.inl hn
  · obtain ⟨he, h0, h1, hb⟩ := nmE_pos hn
    rw [he]
    exact Or.inr ⟨skips_one h0 h1 (nm_plain hb), item_one h0 h1 (nm_plain hb)⟩
theorem parS_item (hr : Fine L r) (i : Int) : Item L i (parS L r i) := by
  unfold parS
  split
  · rename_i ho
    obtain ⟨h0, h1⟩ := sgAt_open ho
    by_cases hn : nmE L (i + 1) = -1
    · have hz : r 0 (-1) = -1 := by have := hr.1.1 0 (-1) (by decide); unfold Ends at this; omega
      rw [hn, hz]
      exact Or.inl (isE_neg (by decide) (by omega))
    · obtain ⟨he, _, _, hb⟩ := nmE_pos hn
      rw [he, show i + 1 + 1 = i + 2 by omega]
      exact item_form ho (nm_plain hb) (hr.ok _ (ok_at (by omega)))
  · exact nm_item i
theorem oneS_item (hr : Fine L r) (what : Nat) (i : Int) : Item L i (oneS L r what i) := by
  unfold oneS
  repeat' split
  · exact hr.2.1 0 i (by decide)
  · exact nm_item i
  · exact hr.2.1 1 i (by decide)
  · exact hr.2.1 3 i (by decide)
theorem manyS_ok (hr : Fine L r) (what : Nat) {i : Int} (h : 0 ≤ i) : Ok L i (manyS L r what i) := by
  unfold manyS
  split
  · exact ok_at h
  · exact hr.ok _ (oneS_item hr what i).ok
theorem sumsS_ok (hr : Fine L r) (k : Nat) {i : Int} (h : 0 ≤ i) : Ok L i (sumsS r k i) := by
  cases k with
  | zero => exact ok_at h
  | succ k =>
    show Ok L i (if i < 0 then i else r (8 + k) (r 0 i))
    rw [if_neg (by omega)]
    exact hr.ok _ (hr.2.1 0 i (by decide)).ok
end
theorem frm_fine (L : List ByteArray) : ∀ n, Fine L (frm L n)
  | 0 => ⟨frm_good L 0, fun _ _ _ => item_no, fun _ _ _ _ => Or.inl rfl⟩
  | n + 1 => by
    have hr := frm_fine L n
    refine ⟨frm_good L (n + 1), fun m j hm => ?_, fun m j hm hj => ?_⟩
    · unfold frm
      obtain rfl | rfl | rfl | rfl : m = 0 ∨ m = 1 ∨ m = 2 ∨ m = 3 := by omega
      · exact sumS_item hr j
      · exact deedS_item hr true j
      · exact deedS_item hr false j
      · exact parS_item hr j
    · unfold frm
      rw [if_neg (by omega), if_neg (by omega), if_neg (by omega), if_neg (by omega)]
      split
      · exact manyS_ok hr _ hj
      · exact sumsS_ok hr _ hj

end Go.Proofs.YtlmibonebiaocaaGreatDoor
