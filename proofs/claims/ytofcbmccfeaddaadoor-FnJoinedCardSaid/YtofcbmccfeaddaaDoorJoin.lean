/-
  Joined, the program's and the model's, each by a contract: both return the same at every two Values.
-/
import Derived.Test.YtofcbmccfeaddaaDoorTexts
namespace Go.Proofs.YtofcbmccfeaddaaDoor
open Go.RowKit

theorem bsize {W w1 : World} (hb : Below W.heap.size W w1) (k : Nat) (h : k < W.heap.size) : k < w1.heap.size := Nat.lt_of_lt_of_le h hb.size

theorem txF_two (k n : Int) (s : ByteArray) : txF k n s = 0 ∨ txF k n s = 1 := by
  unfold txF
  split
  · exact .inl rfl
  · exact .inr rfl
theorem itoa_len (n : Int) (h0 : -999999999 ≤ n) (h1 : n ≤ 999999999) : (Lib.itoa n).length ≤ 1000000001 := by
  unfold Lib.itoa
  split
  · have := dec_len n.natAbs
    simp only [List.length_cons]
    omega
  · have := dec_len n.toNat
    omega
theorem txt_size (k n : Int) (s : ByteArray) : (txt k n s).size ≤ 1000000001 := by
  unfold txt
  by_cases ho : okV k n s = true
  · rw [if_pos ho]
    by_cases h0 : k = 0
    · rw [if_pos h0]; decide
    rw [if_neg h0]
    by_cases h1 : k = 1
    · subst h1
      obtain ⟨a, b⟩ := okV_num ho
      have := itoa_len n a b
      rw [if_pos rfl]
      simpa [ByteArray.size] using this
    rw [if_neg h1]
    by_cases h2 : k = 2
    · subst h2
      have := okV_text ho
      rw [if_pos rfl]; omega
    rw [if_neg h2]; decide
  · rw [if_neg ho]; decide

/-- What comes of two texts and their faults: the kind, the text, the fault. -/
def jOk (a b : ByteArray) (f g : Int) : Bool := decide (f = 0) && decide (g = 0) && decide (a.size + b.size ≤ 60)
def jK (a b : ByteArray) (f g : Int) : Int := if jOk a b f g then 2 else 0
def jT (a b : ByteArray) (f g : Int) : ByteArray := if jOk a b f g then a ++ b else ⟨#[]⟩
def jF (a b : ByteArray) (f g : Int) : Int := if f = 0 ∧ g = 0 then (if a.size + b.size ≤ 60 then 0 else 2) else 1
theorem j_one (a b : ByteArray) {f g : Int} (h : f = 1 ∨ g = 1) : jK a b f g = 0 ∧ jT a b f g = ⟨#[]⟩ ∧ jF a b f g = 1 := by
  have h2 : ¬ (f = 0 ∧ g = 0) := by omega
  have h3 : jOk a b f g = false := by
    unfold jOk
    rcases h with rfl | rfl <;> simp
  simp [jK, jT, jF, h2, h3]
theorem j_over {a b : ByteArray} {f g : Int} (hf : f = 0) (hg : g = 0) (h : ¬ a.size + b.size ≤ 60) : jK a b f g = 0 ∧ jT a b f g = ⟨#[]⟩ ∧ jF a b f g = 2 := by
  simp [jK, jT, jF, jOk, hf, hg, h]
theorem j_yes {a b : ByteArray} {f g : Int} (hf : f = 0) (hg : g = 0) (h : a.size + b.size ≤ 60) : jK a b f g = 2 ∧ jT a b f g = a ++ b ∧ jF a b f g = 0 := by
  simp [jK, jT, jF, jOk, hf, hg, h]

set_option maxHeartbeats 2000000 in
theorem joinI_any (k n k' n' : Int) (s s' : ByteArray) (w : World) (hs : s.size ≤ maxLen) (hs' : s'.size ≤ maxLen) (ht : Tab w) :
    Calls Tryd.prog 9 #[.agg #[.int .i64 k, .int .i64 n, .string s], .agg #[.int .i64 k', .int .i64 n', .string s']] w fun e w' => e = .returned (.tuple #[.agg #[.int .i64 (jK (txt k n s) (txt k' n' s') (txF k n s) (txF k' n' s')), .int .i64 0, .string (jT (txt k n s) (txt k' n' s') (txF k n s) (txF k' n' s'))], .int .i64 (jF (txt k n s) (txt k' n' s') (txF k n s) (txF k' n' s'))]) ∧ Below w.heap.size w w' := by
  rcases txF_two k n s with hf | hf
  rotate_left
  · have HV : Hid (jK (txt k n s) (txt k' n' s') (txF k n s) (txF k' n' s') = 0 ∧ jT (txt k n s) (txt k' n' s') (txF k n s) (txF k' n' s') = ⟨#[]⟩ ∧ jF (txt k n s) (txt k' n' s') (txF k n s) (txF k' n' s') = 1) := j_one _ _ (.inl hf)
    have HF : Hid ((txF k n s) = 1) := hf
    clear hf
    go_enter Tryd.func9, Tryd.ntmps9
    go_wp2_with fail
    refine (textI_any k n s _ hs (tab_call ht (by repeat' (first | (with_reducible exact Below.refl _ _) | (with_reducible refine Below.drew ?_) | (with_reducible refine balloc ?_ _) | (with_reducible refine bset ?_ _ ?_) | (with_reducible refine bstep ?_ (by with_reducible assumption)) | go_size)))).mono ?_
    rintro e w1 ⟨rfl, hb1⟩
    rw [HF.out]
    obtain ⟨hc1, hf1⟩ := bcell hb1
    have hz0 : w.heap.size + 1 + 1 < w1.heap.size := bsize hb1 _ (by simp)
    have hz1 : w.heap.size + 1 < w1.heap.size := by omega
    go_wp2
    exact bodyPost_ret (by simp [results, Tryd.results9, go_sem, hc1]; rfl) rfl ⟨by rw [HV.out.1, HV.out.2.1, HV.out.2.2], (by repeat' (first | (with_reducible exact Below.refl _ _) | (with_reducible refine Below.drew ?_) | (with_reducible refine balloc ?_ _) | (with_reducible refine bset ?_ _ ?_) | (with_reducible refine bstep ?_ (by with_reducible assumption)) | go_size))⟩
  rcases txF_two k' n' s' with hg | hg
  rotate_left
  · have HV : Hid (jK (txt k n s) (txt k' n' s') (txF k n s) (txF k' n' s') = 0 ∧ jT (txt k n s) (txt k' n' s') (txF k n s) (txF k' n' s') = ⟨#[]⟩ ∧ jF (txt k n s) (txt k' n' s') (txF k n s) (txF k' n' s') = 1) := j_one _ _ (.inr hg)
    have HF : Hid ((txF k n s) = 0) := hf
    have HG : Hid ((txF k' n' s') = 1) := hg
    clear hf hg
    go_enter Tryd.func9, Tryd.ntmps9
    go_wp2_with fail
    refine (textI_any k n s _ hs (tab_call ht (by repeat' (first | (with_reducible exact Below.refl _ _) | (with_reducible refine Below.drew ?_) | (with_reducible refine balloc ?_ _) | (with_reducible refine bset ?_ _ ?_) | (with_reducible refine bstep ?_ (by with_reducible assumption)) | go_size)))).mono ?_
    rintro e w1 ⟨rfl, hb1⟩
    rw [HF.out]
    obtain ⟨hc1, hf1⟩ := bcell hb1
    have hz0 : w.heap.size + 1 + 1 < w1.heap.size := bsize hb1 _ (by simp)
    have hz1 : w.heap.size + 1 < w1.heap.size := by omega
    go_wp2_with fail
    refine (textI_any k' n' s' _ hs' (tab_call ht (by repeat' (first | (with_reducible exact Below.refl _ _) | (with_reducible refine Below.drew ?_) | (with_reducible refine balloc ?_ _) | (with_reducible refine bset ?_ _ ?_) | (with_reducible refine bstep ?_ (by with_reducible assumption)) | go_size)))).mono ?_
    rintro e w2 ⟨rfl, hb2⟩
    rw [HG.out]
    obtain ⟨hc2, hf2⟩ := bcell hb2
    have hy0 : w.heap.size + 1 + 1 < w2.heap.size := bsize hb2 _ hz0
    go_wp2
    exact bodyPost_ret (by simp [results, Tryd.results9, go_sem, hc1, hz0, hc2]; rfl) rfl ⟨by rw [HV.out.1, HV.out.2.1, HV.out.2.2], (by repeat' (first | (with_reducible exact Below.refl _ _) | (with_reducible refine Below.drew ?_) | (with_reducible refine balloc ?_ _) | (with_reducible refine bset ?_ _ ?_) | (with_reducible refine bstep ?_ (by with_reducible assumption)) | go_size))⟩
  have b1 := txt_size k n s
  have b2 := txt_size k' n' s'
  by_cases h60 : (txt k n s).size + (txt k' n' s').size ≤ 60
  · have HV : Hid (jK (txt k n s) (txt k' n' s') (txF k n s) (txF k' n' s') = 2 ∧ jT (txt k n s) (txt k' n' s') (txF k n s) (txF k' n' s') = (txt k n s) ++ (txt k' n' s') ∧ jF (txt k n s) (txt k' n' s') (txF k n s) (txF k' n' s') = 0) := j_yes hf hg h60
    have HF : Hid ((txF k n s) = 0) := hf
    have HG : Hid ((txF k' n' s') = 0) := hg
    clear hf hg
    have hcat : ¬ 9223372036854775807 < (txt k n s).size + (txt k' n' s').size := by omega
    have h60' : ¬ (60 : Int) < ((txt k n s).size : Int) + ((txt k' n' s').size : Int) := by omega
    go_enter Tryd.func9, Tryd.ntmps9
    go_wp2_with fail
    refine (textI_any k n s _ hs (tab_call ht (by repeat' (first | (with_reducible exact Below.refl _ _) | (with_reducible refine Below.drew ?_) | (with_reducible refine balloc ?_ _) | (with_reducible refine bset ?_ _ ?_) | (with_reducible refine bstep ?_ (by with_reducible assumption)) | go_size)))).mono ?_
    rintro e w1 ⟨rfl, hb1⟩
    rw [HF.out]
    obtain ⟨hc1, hf1⟩ := bcell hb1
    have hz0 : w.heap.size + 1 + 1 < w1.heap.size := bsize hb1 _ (by simp)
    have hz1 : w.heap.size + 1 < w1.heap.size := by omega
    go_wp2_with fail
    refine (textI_any k' n' s' _ hs' (tab_call ht (by repeat' (first | (with_reducible exact Below.refl _ _) | (with_reducible refine Below.drew ?_) | (with_reducible refine balloc ?_ _) | (with_reducible refine bset ?_ _ ?_) | (with_reducible refine bstep ?_ (by with_reducible assumption)) | go_size)))).mono ?_
    rintro e w2 ⟨rfl, hb2⟩
    rw [HG.out]
    obtain ⟨hc2, hf2⟩ := bcell hb2
    have hy0 : w.heap.size + 1 + 1 < w2.heap.size := bsize hb2 _ hz0
    go_wp2_with fail
    refine (valueText_any _ _).mono ?_
    rintro e w3 ⟨rfl, hb3⟩
    obtain ⟨hc3, hf3⟩ := bcell hb3
    go_wp2
    exact bodyPost_ret (by simp [results, Tryd.results9, go_sem, hc1, hz0, hc2, hy0, hc3]; rfl) rfl ⟨by rw [HV.out.1, HV.out.2.1, HV.out.2.2], (by repeat' (first | (with_reducible exact Below.refl _ _) | (with_reducible refine Below.drew ?_) | (with_reducible refine balloc ?_ _) | (with_reducible refine bset ?_ _ ?_) | (with_reducible refine bstep ?_ (by with_reducible assumption)) | go_size))⟩
  · have HV : Hid (jK (txt k n s) (txt k' n' s') (txF k n s) (txF k' n' s') = 0 ∧ jT (txt k n s) (txt k' n' s') (txF k n s) (txF k' n' s') = ⟨#[]⟩ ∧ jF (txt k n s) (txt k' n' s') (txF k n s) (txF k' n' s') = 2) := j_over hf hg h60
    have HF : Hid ((txF k n s) = 0) := hf
    have HG : Hid ((txF k' n' s') = 0) := hg
    clear hf hg
    have h60' : (60 : Int) < ((txt k n s).size : Int) + ((txt k' n' s').size : Int) := by omega
    go_enter Tryd.func9, Tryd.ntmps9
    go_wp2_with fail
    refine (textI_any k n s _ hs (tab_call ht (by repeat' (first | (with_reducible exact Below.refl _ _) | (with_reducible refine Below.drew ?_) | (with_reducible refine balloc ?_ _) | (with_reducible refine bset ?_ _ ?_) | (with_reducible refine bstep ?_ (by with_reducible assumption)) | go_size)))).mono ?_
    rintro e w1 ⟨rfl, hb1⟩
    rw [HF.out]
    obtain ⟨hc1, hf1⟩ := bcell hb1
    have hz0 : w.heap.size + 1 + 1 < w1.heap.size := bsize hb1 _ (by simp)
    have hz1 : w.heap.size + 1 < w1.heap.size := by omega
    go_wp2_with fail
    refine (textI_any k' n' s' _ hs' (tab_call ht (by repeat' (first | (with_reducible exact Below.refl _ _) | (with_reducible refine Below.drew ?_) | (with_reducible refine balloc ?_ _) | (with_reducible refine bset ?_ _ ?_) | (with_reducible refine bstep ?_ (by with_reducible assumption)) | go_size)))).mono ?_
    rintro e w2 ⟨rfl, hb2⟩
    rw [HG.out]
    obtain ⟨hc2, hf2⟩ := bcell hb2
    have hy0 : w.heap.size + 1 + 1 < w2.heap.size := bsize hb2 _ hz0
    go_wp2
    exact bodyPost_ret (by simp [results, Tryd.results9, go_sem, hc1, hz0, hc2]; rfl) rfl ⟨by rw [HV.out.1, HV.out.2.1, HV.out.2.2], (by repeat' (first | (with_reducible exact Below.refl _ _) | (with_reducible refine Below.drew ?_) | (with_reducible refine balloc ?_ _) | (with_reducible refine bset ?_ _ ?_) | (with_reducible refine bstep ?_ (by with_reducible assumption)) | go_size))⟩

set_option maxHeartbeats 2000000 in
theorem joinS_any (k n k' n' : Int) (s s' : ByteArray) (w : World) (hs : s.size ≤ maxLen) (hs' : s'.size ≤ maxLen) :
    Calls Tryd.prog 11 #[.agg #[.int .i64 k, .int .i64 n, .string s], .agg #[.int .i64 k', .int .i64 n', .string s']] w fun e w' => e = .returned (.tuple #[.agg #[.int .i64 (jK (txt k n s) (txt k' n' s') (txF k n s) (txF k' n' s')), .int .i64 0, .string (jT (txt k n s) (txt k' n' s') (txF k n s) (txF k' n' s'))], .int .i64 (jF (txt k n s) (txt k' n' s') (txF k n s) (txF k' n' s'))]) ∧ Below w.heap.size w w' := by
  rcases txF_two k n s with hf | hf
  rotate_left
  · rcases txF_two k' n' s' with hg | hg
    all_goals
      have HV : Hid (jK (txt k n s) (txt k' n' s') (txF k n s) (txF k' n' s') = 0 ∧ jT (txt k n s) (txt k' n' s') (txF k n s) (txF k' n' s') = ⟨#[]⟩ ∧ jF (txt k n s) (txt k' n' s') (txF k n s) (txF k' n' s') = 1) := j_one _ _ (.inl hf)
      have HF : Hid ((txF k n s) = 1) := hf
      have HG : Hid ((txF k' n' s') = _) := hg
      clear hf hg
      go_enter Tryd.func11, Tryd.ntmps11
      go_wp2_with fail
      refine (textS_any k n s _ hs).mono ?_
      rintro e w1 ⟨rfl, hb1⟩
      rw [HF.out]
      obtain ⟨hc1, hf1⟩ := bcell hb1
      have hz0 : w.heap.size + 1 + 1 < w1.heap.size := bsize hb1 _ (by simp)
      have hz1 : w.heap.size + 1 < w1.heap.size := by omega
      go_wp2_with fail
      refine (textS_any k' n' s' _ hs').mono ?_
      rintro e w2 ⟨rfl, hb2⟩
      rw [HG.out]
      obtain ⟨hc2, hf2⟩ := bcell hb2
      have hy0 : w.heap.size + 1 + 1 < w2.heap.size := bsize hb2 _ hz0
      go_wp2
      exact bodyPost_ret (by simp [results, Tryd.results11, go_sem, hc1, hz0, hc2]; rfl) rfl ⟨by rw [HV.out.1, HV.out.2.1, HV.out.2.2], (by repeat' (first | (with_reducible exact Below.refl _ _) | (with_reducible refine Below.drew ?_) | (with_reducible refine balloc ?_ _) | (with_reducible refine bset ?_ _ ?_) | (with_reducible refine bstep ?_ (by with_reducible assumption)) | go_size))⟩
  rcases txF_two k' n' s' with hg | hg
  rotate_left
  · have HV : Hid (jK (txt k n s) (txt k' n' s') (txF k n s) (txF k' n' s') = 0 ∧ jT (txt k n s) (txt k' n' s') (txF k n s) (txF k' n' s') = ⟨#[]⟩ ∧ jF (txt k n s) (txt k' n' s') (txF k n s) (txF k' n' s') = 1) := j_one _ _ (.inr hg)
    have HF : Hid ((txF k n s) = 0) := hf
    have HG : Hid ((txF k' n' s') = 1) := hg
    clear hf hg
    go_enter Tryd.func11, Tryd.ntmps11
    go_wp2_with fail
    refine (textS_any k n s _ hs).mono ?_
    rintro e w1 ⟨rfl, hb1⟩
    rw [HF.out]
    obtain ⟨hc1, hf1⟩ := bcell hb1
    have hz0 : w.heap.size + 1 + 1 < w1.heap.size := bsize hb1 _ (by simp)
    have hz1 : w.heap.size + 1 < w1.heap.size := by omega
    go_wp2_with fail
    refine (textS_any k' n' s' _ hs').mono ?_
    rintro e w2 ⟨rfl, hb2⟩
    rw [HG.out]
    obtain ⟨hc2, hf2⟩ := bcell hb2
    have hy0 : w.heap.size + 1 + 1 < w2.heap.size := bsize hb2 _ hz0
    go_wp2
    exact bodyPost_ret (by simp [results, Tryd.results11, go_sem, hc1, hz0, hc2]; rfl) rfl ⟨by rw [HV.out.1, HV.out.2.1, HV.out.2.2], (by repeat' (first | (with_reducible exact Below.refl _ _) | (with_reducible refine Below.drew ?_) | (with_reducible refine balloc ?_ _) | (with_reducible refine bset ?_ _ ?_) | (with_reducible refine bstep ?_ (by with_reducible assumption)) | go_size))⟩
  have b1 := txt_size k n s
  have b2 := txt_size k' n' s'
  by_cases h60 : (txt k n s).size + (txt k' n' s').size ≤ 60
  · have HV : Hid (jK (txt k n s) (txt k' n' s') (txF k n s) (txF k' n' s') = 2 ∧ jT (txt k n s) (txt k' n' s') (txF k n s) (txF k' n' s') = (txt k n s) ++ (txt k' n' s') ∧ jF (txt k n s) (txt k' n' s') (txF k n s) (txF k' n' s') = 0) := j_yes hf hg h60
    have HF : Hid ((txF k n s) = 0) := hf
    have HG : Hid ((txF k' n' s') = 0) := hg
    clear hf hg
    have hcat : ¬ 9223372036854775807 < (txt k n s).size + (txt k' n' s').size := by omega
    have h60' : ¬ (60 : Int) < ((txt k n s).size : Int) + ((txt k' n' s').size : Int) := by omega
    go_enter Tryd.func11, Tryd.ntmps11
    go_wp2_with fail
    refine (textS_any k n s _ hs).mono ?_
    rintro e w1 ⟨rfl, hb1⟩
    rw [HF.out]
    obtain ⟨hc1, hf1⟩ := bcell hb1
    have hz0 : w.heap.size + 1 + 1 < w1.heap.size := bsize hb1 _ (by simp)
    have hz1 : w.heap.size + 1 < w1.heap.size := by omega
    go_wp2_with fail
    refine (textS_any k' n' s' _ hs').mono ?_
    rintro e w2 ⟨rfl, hb2⟩
    rw [HG.out]
    obtain ⟨hc2, hf2⟩ := bcell hb2
    have hy0 : w.heap.size + 1 + 1 < w2.heap.size := bsize hb2 _ hz0
    go_wp2
    exact bodyPost_ret (by simp [results, Tryd.results11, go_sem, hc1, hz0, hc2]; rfl) rfl ⟨by rw [HV.out.1, HV.out.2.1, HV.out.2.2], (by repeat' (first | (with_reducible exact Below.refl _ _) | (with_reducible refine Below.drew ?_) | (with_reducible refine balloc ?_ _) | (with_reducible refine bset ?_ _ ?_) | (with_reducible refine bstep ?_ (by with_reducible assumption)) | go_size))⟩
  · have HV : Hid (jK (txt k n s) (txt k' n' s') (txF k n s) (txF k' n' s') = 0 ∧ jT (txt k n s) (txt k' n' s') (txF k n s) (txF k' n' s') = ⟨#[]⟩ ∧ jF (txt k n s) (txt k' n' s') (txF k n s) (txF k' n' s') = 2) := j_over hf hg h60
    have HF : Hid ((txF k n s) = 0) := hf
    have HG : Hid ((txF k' n' s') = 0) := hg
    clear hf hg
    have h60' : (60 : Int) < ((txt k n s).size : Int) + ((txt k' n' s').size : Int) := by omega
    go_enter Tryd.func11, Tryd.ntmps11
    go_wp2_with fail
    refine (textS_any k n s _ hs).mono ?_
    rintro e w1 ⟨rfl, hb1⟩
    rw [HF.out]
    obtain ⟨hc1, hf1⟩ := bcell hb1
    have hz0 : w.heap.size + 1 + 1 < w1.heap.size := bsize hb1 _ (by simp)
    have hz1 : w.heap.size + 1 < w1.heap.size := by omega
    go_wp2_with fail
    refine (textS_any k' n' s' _ hs').mono ?_
    rintro e w2 ⟨rfl, hb2⟩
    rw [HG.out]
    obtain ⟨hc2, hf2⟩ := bcell hb2
    have hy0 : w.heap.size + 1 + 1 < w2.heap.size := bsize hb2 _ hz0
    go_wp2
    exact bodyPost_ret (by simp [results, Tryd.results11, go_sem, hc1, hz0, hc2]; rfl) rfl ⟨by rw [HV.out.1, HV.out.2.1, HV.out.2.2], (by repeat' (first | (with_reducible exact Below.refl _ _) | (with_reducible refine Below.drew ?_) | (with_reducible refine balloc ?_ _) | (with_reducible refine bset ?_ _ ?_) | (with_reducible refine bstep ?_ (by with_reducible assumption)) | go_size))⟩

end Go.Proofs.YtofcbmccfeaddaaDoor
