/-
  SignOk and NameOk, the program's and the model's.
-/
import Derived.Test.YtjkjjjdihccccaaSignS
import Derived.Test.YtjkjjjdihccccaaSignN
import Derived.Test.YtjkjjjdihccccaaBase
namespace Go.Proofs.Ytjkjjjdihccccaa
open Go.RowKit

set_option maxHeartbeats 400000 in
theorem nameOkI_any (s : ByteArray) (w : World) (hs : s.size ≤ maxLen) :
    Calls Try.prog 46 #[.string s] w fun e w' => e = .returned (.bool (nameB s)) ∧ w' = w := by
  have HB : Hid ((kindN s == 2) = nameB s) := by
    show (kindN s == 2) = nameB s
    rw [Bool.eq_iff_iff, beq_iff_eq, nameB_iff, name_iff]
  go_enter Try.func46, Try.ntmps46
  go_wp2_with fail
  refine (signKind_any s _ hs).mono ?_
  rintro e w1 ⟨rfl, rfl⟩
  generalize kindN s = kd at HB ⊢
  go_wp2
  go_ret
  exact ⟨by rw [← HB.out]; rfl, rfl⟩

theorem bytes_ext {a b : ByteArray} (h : a.data.toList = b.data.toList) : a = b := by
  apply ByteArray.ext
  exact Array.ext' h
theorem str_ne {a b : ByteArray} (h : a ≠ b) : (a.toList == b.toList) = false := by
  rw [ByteArray.toList_eq, ByteArray.toList_eq, beq_eq_false_iff_ne]
  exact fun e => h (bytes_ext e)
theorem str_eq {a b : ByteArray} (h : a = b) : (a.toList == b.toList) = true := by rw [h]; simp
theorem one_of {s : ByteArray} (c : UInt8) (h1 : s.size = 1) (h2 : byt s 0 = (c.toNat : Int)) : s = ⟨#[c]⟩ := by
  apply bytes_ext
  have h0 : 0 < s.size := by omega
  rw [byt_eq h0] at h2
  have hl : s.data.toList.length = 1 := by simpa using h1
  have e : s[0] = c := UInt8.toNat_inj.mp (by omega)
  match hm : s.data.toList, hl with
  | [x], _ =>
    have : s.data[0]'(by simpa using h0) = x := by
      have := Array.getElem_toList (xs := s.data) (i := 0) (by simpa using h0)
      rw [← this]; simp [hm]
    rw [ByteArray.getElem_eq_getElem_data, this] at e
    rw [e]

/-- Texts lie in block B from place off on. -/
def Txt (B off : Nat) (L : List ByteArray) (w : World) : Prop := ∀ i (h : i < L.length), w.cell? ⟨B, off + i, none⟩ = some (.string L[i])

theorem lit1 (s : ByteArray) (c : UInt8) : (s.toList == [c]) = decide (s.size = 1 ∧ byt s 0 = (c.toNat : Int)) := by
  rw [ByteArray.toList_eq, Bool.eq_iff_iff, beq_iff_eq, decide_eq_true_iff]
  constructor
  · intro h
    have hs : s = ⟨#[c]⟩ := bytes_ext h
    rw [hs]
    exact ⟨rfl, rfl⟩
  · rintro ⟨h1, h2⟩
    rw [one_of c h1 h2]

/-- The six marks. -/
def opsL : List ByteArray := [⟨#[43]⟩, ⟨#[45]⟩, ⟨#[42]⟩, ⟨#[60]⟩, ⟨#[61]⟩, ⟨#[38]⟩]
theorem mem_ops (s : ByteArray) : s ∈ opsL ↔ isMark s := by
  constructor
  · intro h
    simp only [opsL, List.mem_cons, List.not_mem_nil, or_false] at h
    rcases h with rfl | rfl | rfl | rfl | rfl | rfl
    · exact ⟨rfl, Or.inl rfl⟩
    · exact ⟨rfl, Or.inr (Or.inl rfl)⟩
    · exact ⟨rfl, Or.inr (Or.inr (Or.inl rfl))⟩
    · exact ⟨rfl, Or.inr (Or.inr (Or.inr (Or.inl rfl)))⟩
    · exact ⟨rfl, Or.inr (Or.inr (Or.inr (Or.inr (Or.inl rfl))))⟩
    · exact ⟨rfl, Or.inr (Or.inr (Or.inr (Or.inr (Or.inr rfl))))⟩
  · rintro ⟨h1, h | h | h | h | h | h⟩
    · rw [one_of 43 h1 h]; simp [opsL]
    · rw [one_of 45 h1 h]; simp [opsL]
    · rw [one_of 42 h1 h]; simp [opsL]
    · rw [one_of 60 h1 h]; simp [opsL]
    · rw [one_of 61 h1 h]; simp [opsL]
    · rw [one_of 38 h1 h]; simp [opsL]

theorem sign_yes {s : ByteArray} {k : Int} (h : kindN s = k) (hk : k ≠ 0) : signB s = true := by unfold signB; rw [h]; exact decide_eq_true hk

end Go.Proofs.Ytjkjjjdihccccaa
