/-
  Chapter 4 and chapter 2: all that stands in a sum, a deed, a PARAM is a sign.
-/
import Derived.Test.YtlmibonebiaocaaGreatDoorFormI
namespace Go.Proofs.YtlmibonebiaocaaGreatDoor
open Go.RowKit

/-- Nowhere, or all from i up to it are signs. -/
def Sg (L : List ByteArray) (i x : Int) : Prop := x = -1 ∨ ∀ k, i ≤ k → k < x → signB (sgAt L k) = true
section
variable {L : List ByteArray} {i x : Int}
theorem sg_at : Sg L i i := Or.inr fun k h1 h2 => absurd h2 (by omega)
theorem sg_no : Sg L i (-1) := Or.inl rfl
theorem sg_ite {c : Prop} [Decidable c] {y : Int} (h1 : Sg L i x) (h2 : Sg L i y) : Sg L i (if c then x else y) := by split <;> assumption
theorem Sg.trans {y : Int} (h : Sg L i x) (hn : x = -1 → y = -1) (k : Sg L x y) : Sg L i y := by
  rcases h with h | h
  · exact Or.inl (hn h)
  · rcases k with k | k
    · exact Or.inl k
    · exact Or.inr fun j h1 h2 => if hj : j < x then h j h1 hj else k j (by omega) h2
theorem sg_isE {c : List UInt8} (hc : c ≠ []) (hs : signB ⟨c.toArray⟩ = true) (h : Sg L i x) : Sg L i (isE L x c) := by
  by_cases hn : isE L x c = -1
  · exact Or.inl hn
  · obtain ⟨he, h0, h1, hb⟩ := isE_pos hc hn
    rw [he]
    refine Or.inr fun k h2 h3 => ?_
    by_cases hk : k < x
    · rcases h with h | h
      · omega
      · exact h k h2 hk
    · have : k = x := by omega
      subst this
      rw [isW_eq hb]
      exact hs
theorem sign_name {s : ByteArray} (h : nameB s = true) : signB s = true := sign_yes (kind_name ((nameB_iff s).mp h)) (by decide)
theorem sign_nm {s : ByteArray} (h : nmB s = true) : signB s = true := by
  unfold nmB at h
  rw [Bool.and_eq_true] at h
  exact sign_name h.1
theorem sign_op {s : ByteArray} (h : opB s = true) : signB s = true := sign_yes (kind_mark ((mem_ops s).mp ((opB_iff s).mp h))) (by decide)
theorem sign_one {s : ByteArray} (h : oneB s = true) : signB s = true := by
  unfold oneB at h
  rw [Bool.or_eq_true, Bool.or_eq_true, Bool.or_eq_true] at h
  rcases h with ((h | h) | h) | h
  · exact sign_yes (kind_numer ((numerB_iff s).mp h)) (by decide)
  · exact sign_yes (kind_quot ((quotB_iff s).mp h)) (by decide)
  · rw [isW_eq h]
    decide +kernel
  · exact sign_nm h
theorem sg_nm (h : Sg L i x) : Sg L i (nmE L x) := by
  by_cases hn : nmE L x = -1
  · exact Or.inl hn
  · obtain ⟨he, h0, h1, hb⟩ := nmE_pos hn
    rw [he]
    refine Or.inr fun k h2 h3 => ?_
    by_cases hk : k < x
    · rcases h with h | h
      · omega
      · exact h k h2 hk
    · have : k = x := by omega
      subst this
      exact sign_nm hb
theorem sign40 : signB ⟨#[40]⟩ = true := by decide +kernel
theorem sign41 : signB ⟨#[41]⟩ = true := by decide +kernel
theorem sg_form (ho : isW (sgAt L i) [40] = true) (hp : signB (sgAt L (i + 1)) = true) (h : Sg L (i + 2) x) : Sg L i x := by
  rcases h with h | h
  · exact Or.inl h
  · refine Or.inr fun k h2 h3 => ?_
    by_cases h4 : k = i
    · subst h4
      rw [isW_eq ho]
      exact sign40
    · by_cases h5 : k = i + 1
      · subst h5; exact hp
      · exact h k (by omega) h3
end

/-- What is asked of r. -/
def Clean (L : List ByteArray) (r : Nat → Int → Int) : Prop := Good L r ∧ ∀ m j, -1 ≤ j → Sg L j (r m j)
section
variable {L : List ByteArray} {r : Nat → Int → Int} {i x : Int}
theorem Clean.none (hr : Clean L r) (m : Nat) : r m (-1) = -1 := by
  by_cases hm : m < 4
  · have hE := hr.1.1 m (-1) hm
    unfold Ends at hE
    omega
  · have hE := hr.1.2 m (-1) (by omega) (by omega)
    unfold Fw at hE
    omega
theorem Clean.sg (hr : Clean L r) (m : Nat) (hx : -1 ≤ x) (h : Sg L i x) : Sg L i (r m x) := h.trans (fun e => by rw [e]; exact hr.none m) (hr.2 m x hx)
theorem Clean.lo (hr : Clean L r) (m : Nat) (hx : -1 ≤ x) : -1 ≤ r m x := by
  by_cases hm : m < 4
  · have hE := hr.1.1 m x hm
    unfold Ends at hE
    omega
  · have hE := hr.1.2 m x (by omega) hx
    unfold Fw at hE
    omega
theorem isE_lo {c : List UInt8} (hx : -1 ≤ x) : -1 ≤ isE L x c := by unfold isE; split <;> omega
theorem nmE_lo (hx : -1 ≤ x) : -1 ≤ nmE L x := by unfold nmE; split <;> omega
theorem word_sign {s : ByteArray} {c : List UInt8} (h : isW s c = true) (hs : signB ⟨c.toArray⟩ = true) : signB s = true := by rw [isW_eq h]; exact hs
theorem sumS_sg (hr : Clean L r) (hi : -1 ≤ i) : Sg L i (sumS L r i) := by
  have hs : Sg L (i + 2) (i + 2) := sg_at
  have hl : -1 ≤ i + 2 := by omega
  unfold sumS
  split
  · rename_i ho
    split
    · rename_i hw
      rw [Bool.or_eq_true, Bool.or_eq_true] at hw
      refine sg_form ho ?_ (sg_isE (by decide) sign41 (hr.sg _ hl hs))
      rcases hw with (hw | hw) | hw
      · exact sign_op hw
      · exact word_sign hw (by decide +kernel)
      · exact word_sign hw (by decide +kernel)
    · split
      · rename_i hw
        refine sg_form ho (word_sign hw (by decide +kernel)) (sg_isE (by decide) sign41 (hr.sg _ (isE_lo (hr.lo _ (isE_lo hl))) (sg_isE (by decide) sign41 (hr.sg _ (isE_lo hl) (sg_isE (by decide) sign40 hs)))))
      · split
        · rename_i hw
          exact sg_form ho (word_sign hw (by decide +kernel)) (sg_isE (by decide) sign41 (hr.sg _ (hr.lo _ hl) (hr.sg _ hl hs)))
        · split
          · rename_i hw
            rw [Bool.or_eq_true] at hw
            refine sg_form ho ?_ (sg_isE (by decide) sign41 (hr.sg _ hl hs))
            rcases hw with hw | hw <;> exact word_sign hw (by decide +kernel)
          · split
            · rename_i hw
              exact sg_form ho (word_sign hw (by decide +kernel)) (sg_isE (by decide) sign41 hs)
            · split
              · rename_i hw
                exact sg_form ho (word_sign hw (by decide +kernel)) (sg_isE (by decide) sign41 (hr.sg _ (nmE_lo hl) (sg_nm hs)))
              · exact sg_no
  · split
    · rename_i hw
      refine Or.inr fun k h1 h2 => ?_
      have : k = i := by omega
      subst this
      exact sign_one hw
    · exact sg_no
theorem deedH_sg (hr : Clean L r) (ho : isW (sgAt L i) [40] = true) (hi : -1 ≤ i) (hp : signB (sgAt L (i + 1)) = true) : Sg L i (deedH L r (sgAt L (i + 1)) (i + 2)) := by
  have hs : Sg L (i + 2) (i + 2) := sg_at
  have hl : -1 ≤ i + 2 := by omega
  refine sg_form ho hp ?_
  unfold deedH
  repeat' (first | exact sg_no | with_reducible refine sg_ite ?_ ?_ | exact hs | exact hl | refine sg_isE (by decide) sign41 ?_ | refine sg_isE (by decide) sign40 ?_ | refine sg_nm ?_ | refine hr.sg _ ?_ ?_ | refine hr.lo _ ?_ | refine isE_lo ?_ | refine nmE_lo ?_)
theorem deedS_sg (hr : Clean L r) (f : Bool) (hi : -1 ≤ i) : Sg L i (deedS L r f i) := by
  unfold deedS
  split
  · rename_i ho
    split
    · exact sg_no
    · cases hp : signB (sgAt L (i + 1))
      · have hw : ∀ c : List UInt8, signB ⟨c.toArray⟩ = true → isW (sgAt L (i + 1)) c = false := fun c a => Bool.eq_false_iff.mpr fun h => by
          rw [word_sign h a] at hp
          exact absurd hp (by decide)
        unfold deedH
        rw [hw _ (by decide +kernel), hw _ (by decide +kernel), hw _ (by decide +kernel), hw _ (by decide +kernel), hw _ (by decide +kernel), hw _ (by decide +kernel), hw _ (by decide +kernel), hw _ (by decide +kernel), hw _ (by decide +kernel), hw _ (by decide +kernel), hw _ (by decide +kernel), hw _ (by decide +kernel), hw _ (by decide +kernel), hw _ (by decide +kernel), hw _ (by decide +kernel), hw _ (by decide +kernel), hw _ (by decide +kernel)]
        exact sg_no
      · exact deedH_sg hr ho hi hp
  · exact sg_no
theorem parS_sg (hr : Clean L r) (hi : -1 ≤ i) : Sg L i (parS L r i) := by
  unfold parS
  split
  · rename_i ho
    have h1 : Sg L i (i + 1) := Or.inr fun k h1 h2 => by
      have : k = i := by omega
      subst this
      rw [isW_eq ho]
      exact sign40
    exact sg_isE (by decide) sign41 (hr.sg _ (nmE_lo (by omega)) (sg_nm h1))
  · exact sg_nm sg_at
theorem oneS_sg (hr : Clean L r) (what : Nat) (hi : -1 ≤ i) : Sg L i (oneS L r what i) ∧ -1 ≤ oneS L r what i := by
  unfold oneS
  repeat' split
  · exact ⟨hr.2 0 i hi, hr.lo _ hi⟩
  · exact ⟨sg_nm sg_at, nmE_lo hi⟩
  · exact ⟨hr.2 1 i hi, hr.lo _ hi⟩
  · exact ⟨hr.2 3 i hi, hr.lo _ hi⟩
theorem manyS_sg (hr : Clean L r) (what : Nat) (hi : -1 ≤ i) : Sg L i (manyS L r what i) := by
  unfold manyS
  split
  · exact sg_at
  · exact hr.sg _ (oneS_sg hr what hi).2 (oneS_sg hr what hi).1
theorem sumsS_sg (hr : Clean L r) (k : Nat) (hi : -1 ≤ i) : Sg L i (sumsS r k i) := by
  cases k with
  | zero => exact sg_at
  | succ k =>
    show Sg L i (if i < 0 then i else r (8 + k) (r 0 i))
    split
    · exact sg_at
    · exact hr.sg _ (hr.lo _ hi) (hr.2 0 i hi)
end
theorem frm_clean (L : List ByteArray) : ∀ n, Clean L (frm L n)
  | 0 => ⟨frm_good L 0, fun _ _ _ => sg_no⟩
  | n + 1 => by
    have hr := frm_clean L n
    refine ⟨frm_good L (n + 1), fun m j hj => ?_⟩
    unfold frm
    by_cases h0 : m = 0
    · rw [if_pos h0]; exact sumS_sg hr hj
    by_cases h1 : m = 1
    · rw [if_neg h0, if_pos h1]; exact deedS_sg hr true hj
    by_cases h2 : m = 2
    · rw [if_neg h0, if_neg h1, if_pos h2]; exact deedS_sg hr false hj
    by_cases h3 : m = 3
    · rw [if_neg h0, if_neg h1, if_neg h2, if_pos h3]; exact parS_sg hr hj
    rw [if_neg h0, if_neg h1, if_neg h2, if_neg h3]
    split
    · exact manyS_sg hr _ hj
    · exact sumsS_sg hr _ hj

end Go.Proofs.YtlmibonebiaocaaGreatDoor
