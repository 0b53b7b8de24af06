/-
  ValueIn, the model's, by a contract.
-/
import Derived.Test.YtlmibonebiaocaaGreatDoorSignK
import Derived.Test.YtlmibonebiaocaaGreatDoorLeaf
namespace Go.Proofs.YtlmibonebiaocaaGreatDoor
open Go.RowKit

/-- Is it the word none? -/
def noneB (s : ByteArray) : Bool := s.toList == [110, 111, 110, 101]
theorem none_kind {s : ByteArray} (h : noneB s = true) : kindN s = 2 := by
  unfold noneB at h
  rw [ByteArray.toList_eq, beq_iff_eq] at h
  have hs : s = ⟨#[110, 111, 110, 101]⟩ := bytes_ext h
  rw [hs]
  rfl

/-- What a sign is read as: its kind, its number, its text, and whether it is read. -/
def viK (s : ByteArray) : Int := if numerB s then 1 else if quotB s then 2 else 0
def viN (s : ByteArray) : Int := if numerB s then readN s else 0
def viT (s : ByteArray) : ByteArray := if numerB s then ⟨#[]⟩ else if quotB s then s.extract 1 (s.size - 1) else ⟨#[]⟩
def viB (s : ByteArray) : Bool := numerB s || quotB s || noneB s
theorem vi_num {s : ByteArray} (h : numerB s = true) : viK s = 1 ∧ viN s = readN s ∧ viT s = ⟨#[]⟩ ∧ viB s = true := by simp [viK, viN, viT, viB, h]
theorem vi_quot {s : ByteArray} (h : numerB s = false) (hq : quotB s = true) : viK s = 2 ∧ viN s = 0 ∧ viT s = s.extract 1 (s.size - 1) ∧ viB s = true := by simp [viK, viN, viT, viB, h, hq]
theorem vi_rest {s : ByteArray} (h : numerB s = false) (hq : quotB s = false) : viK s = 0 ∧ viN s = 0 ∧ viT s = ⟨#[]⟩ ∧ viB s = noneB s := by simp [viK, viN, viT, viB, h, hq]
theorem numer_none {s : ByteArray} (h : noneB s = true) : numerB s = false ∧ quotB s = false := by
  have hk := none_kind h
  constructor
  · refine Bool.eq_false_iff.mpr fun hn => ?_
    rw [kind_numer ((numerB_iff s).mp hn)] at hk
    exact absurd hk (by decide)
  · refine Bool.eq_false_iff.mpr fun hn => ?_
    rw [kind_quot ((quotB_iff s).mp hn)] at hk
    exact absurd hk (by decide)

set_option maxHeartbeats 1000000 in
theorem valueInS_any (s : ByteArray) (w : World) (hs : s.size ≤ maxLen) :
    Calls Tryz.prog 19 #[.string s] w fun e w' => e = .returned (.tuple #[.agg #[.int .i64 (viK s), .int .i64 (viN s), .string (viT s)], .bool (viB s)]) ∧ Below w.heap.size w w' := by
  cases hn : numerB s
  · have HN : Hid (numerB s = false ∧ numN s = 0) := num_no hn
    cases ho : noneB s
    · have HO : (s.toList == [110, 111, 110, 101]) = false := ho
      cases hq : quotB s
      · have HQ : Hid (quotB s = _) := hq
        have HV : Hid (viK s = 0 ∧ viN s = 0 ∧ viT s = ⟨#[]⟩ ∧ viB s = false) := by
          obtain ⟨a, b, c, d⟩ := vi_rest hn hq
          exact ⟨a, b, c, d.trans ho⟩
        clear hn ho hq
        go_enter Tryz.func19, Tryz.ntmps19
        go_wp2_with fail
        refine (readNumberS_any s _ hs).mono ?_
        rintro e w1 ⟨rfl, rfl⟩
        rw [HN.out.1, HN.out.2]
        go_wp2_with fail
        refine (l2Quoted_any s _ hs).mono ?_
        rintro e w1 ⟨rfl, rfl⟩
        rw [HQ.out]
        go_wp2
        go_returns
        exact ⟨by rw [HV.out.1, HV.out.2.1, HV.out.2.2.1, HV.out.2.2.2], (by repeat' (first | (with_reducible exact Below.refl _ _) | (with_reducible refine Below.drew ?_) | (with_reducible refine balloc ?_ _) | (with_reducible refine bset ?_ _ ?_) | (with_reducible refine bstep ?_ (by with_reducible assumption)) | go_size))⟩
      · have HQ : Hid (quotB s = _) := hq
        have h1 : 1 < s.size := ((quotB_iff s).mp hq).1
        have HV : Hid (viK s = 2 ∧ viN s = 0 ∧ viT s = s.extract 1 (s.size - 1) ∧ viB s = true) := vi_quot hn hq
        clear hn ho hq
        unfold maxLen at hs
        go_enter Tryz.func19, Tryz.ntmps19
        go_wp2_with fail
        refine (readNumberS_any s _ hs).mono ?_
        rintro e w1 ⟨rfl, rfl⟩
        rw [HN.out.1, HN.out.2]
        go_wp2_with fail
        refine (l2Quoted_any s _ hs).mono ?_
        rintro e w1 ⟨rfl, rfl⟩
        rw [HQ.out]
        go_wp2
        go_returns
        exact ⟨by rw [HV.out.1, HV.out.2.1, HV.out.2.2.1, HV.out.2.2.2], (by repeat' (first | (with_reducible exact Below.refl _ _) | (with_reducible refine Below.drew ?_) | (with_reducible refine balloc ?_ _) | (with_reducible refine bset ?_ _ ?_) | (with_reducible refine bstep ?_ (by with_reducible assumption)) | go_size))⟩
    · have HO : (s.toList == [110, 111, 110, 101]) = true := ho
      have HV : Hid (viK s = 0 ∧ viN s = 0 ∧ viT s = ⟨#[]⟩ ∧ viB s = true) := by
        obtain ⟨a, b, c, d⟩ := vi_rest hn (numer_none ho).2
        exact ⟨a, b, c, d.trans ho⟩
      clear hn ho
      go_enter Tryz.func19, Tryz.ntmps19
      go_wp2_with fail
      refine (readNumberS_any s _ hs).mono ?_
      rintro e w1 ⟨rfl, rfl⟩
      rw [HN.out.1, HN.out.2]
      go_wp2
      go_returns
      exact ⟨by rw [HV.out.1, HV.out.2.1, HV.out.2.2.1, HV.out.2.2.2], (by repeat' (first | (with_reducible exact Below.refl _ _) | (with_reducible refine Below.drew ?_) | (with_reducible refine balloc ?_ _) | (with_reducible refine bset ?_ _ ?_) | (with_reducible refine bstep ?_ (by with_reducible assumption)) | go_size))⟩
  · have HN : Hid (numerB s = true ∧ numN s = readN s) := num_yes hn rfl
    have HV : Hid (viK s = 1 ∧ viN s = readN s ∧ viT s = ⟨#[]⟩ ∧ viB s = true) := vi_num hn
    clear hn
    go_enter Tryz.func19, Tryz.ntmps19
    go_wp2_with fail
    refine (readNumberS_any s _ hs).mono ?_
    rintro e w1 ⟨rfl, rfl⟩
    rw [HN.out.1, HN.out.2]
    go_wp2_with fail
    refine (l1Value_any (readN s) _).mono ?_
    rintro e w2 ⟨rfl, hb2⟩
    obtain ⟨hc, hf⟩ := bcell hb2
    go_wp2
    exact bodyPost_ret (by simp [results, Tryz.results19, go_sem, hc]; rfl) rfl ⟨by rw [HV.out.1, HV.out.2.1, HV.out.2.2.1, HV.out.2.2.2], (by repeat' (first | (with_reducible exact Below.refl _ _) | (with_reducible refine Below.drew ?_) | (with_reducible refine balloc ?_ _) | (with_reducible refine bset ?_ _ ?_) | (with_reducible refine bstep ?_ (by with_reducible assumption)) | go_size))⟩

end Go.Proofs.YtlmibonebiaocaaGreatDoor
