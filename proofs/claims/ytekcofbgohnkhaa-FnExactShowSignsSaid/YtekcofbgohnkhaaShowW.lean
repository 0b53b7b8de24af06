/-
  ShowSigns, the program's and the model's: the signs as one text.
-/
import Derived.Test.YtekcofbgohnkhaaListC
import Derived.Test.YtekcofbgohnkhaaBuildW
import Derived.Laws.IdiomStrings
import Derived.Deep.QuietTactic
import Derived.BigQuiet
namespace Go.Proofs.Ytekcofbgohnkhaa
open Go.RowKit

/-- Does a blank stand ahead of sign k? -/
def gapB (L : List ByteArray) (k : Nat) : Bool := decide (0 < k) && !((L.getD (k - 1) ⟨#[]⟩).toList == [40]) && !((L.getD k ⟨#[]⟩).toList == [41])
/-- What the first k signs show as. -/
def showL (L : List ByteArray) : Nat → List UInt8
  | 0 => []
  | k + 1 => showL L k ++ (if gapB L k then [32] else []) ++ (L.getD k ⟨#[]⟩).data.toList
/-- What they all show as. -/
def showB (L : List ByteArray) : ByteArray := if signsB L then ⟨(showL L L.length).toArray⟩ else ⟨#[]⟩
theorem show_gap {L : List ByteArray} {k : Nat} (h : gapB L k = true) : showL L (k + 1) = showL L k ++ [32] ++ (L.getD k ⟨#[]⟩).data.toList := by simp [showL, h]
theorem show_none {L : List ByteArray} {k : Nat} (h : gapB L k = false) : showL L (k + 1) = showL L k ++ (L.getD k ⟨#[]⟩).data.toList := by simp [showL, h]
theorem getD_at {L : List ByteArray} {k : Nat} (h : k < L.length) : L.getD k ⟨#[]⟩ = L[k] := by simp [List.getD, h]
theorem show_len (L : List ByteArray) : ∀ k, k ≤ L.length → (showL L k).length ≤ roomN L k
  | 0, _ => by simp [showL]
  | k + 1, h => by
    have ih := show_len L k (by omega)
    rw [room_succ (by omega)]
    have e : (L.getD k ⟨#[]⟩).data.toList.length = L[k].size := by rw [getD_at (by omega)]; simp
    cases hg : gapB L k
    · rw [show_none hg, List.length_append, e]; omega
    · rw [show_gap hg, List.length_append, List.length_append, e]; simp; omega
theorem byteCells_str (l : List UInt8) (s : ByteArray) : Lib.byteCells l ++ Lib.strCells s = Lib.byteCells (l ++ s.data.toList) := by
  simp [Lib.byteCells, Lib.strCells]

set_option maxHeartbeats 4000000 in
theorem showI_any (a : Option Addr) (cap : Nat) (L : List ByteArray) (w : World) (h : ArgT w a L) (hL : L.length ≤ 1048576) (hR : ∀ k, k ≤ L.length → roomN L k ≤ 3000000) :
    Calls Try.prog 10 #[.slice a L.length cap] w fun e w' => e = .returned (.string (showB L)) ∧ Below w.heap.size w w' := by
  go_enter Try.func10, Try.ntmps10
  go_wp2
  go_loopw [8] (fun i wr => ∃ k : Nat, k ≤ L.length ∧ i = .int .i64 (k : Int) ∧ Bld w.heap.size w.heap.size (Lib.byteCells (showL L k)) wr ∧ Below w.heap.size w wr ∧ Hid (∀ j (h : j < L.length), j < k → signB L[j] = true)) (fun i _ => L.length - (intOf i).toNat)
  case atStart => exact ⟨0, Nat.zero_le _, rfl, Lib.fresh_isBuilder _ _ w, balloc (Below.refl _ _) _, fun j _ hj => absurd hj (Nat.not_lt_zero _)⟩
  case round =>
    obtain ⟨k, hk, rfl, hI, hB, HA⟩ := hrel
    have hsz := hB.size
    by_cases hlt : k < L.length
    · obtain ⟨sb, off, rfl, hs, hc, hm⟩ := h k hlt
      have hc' := (hB.cell (p := ⟨sb, off + k, none⟩) hs).trans hc
      have hr1 := hR k hk
      have hr2 := hR (k + 1) hlt
      rw [room_succ hlt] at hr2
      have hl1 : (Lib.byteCells (showL L k)).length ≤ 3000000 := by rw [Lib.byteCells_length]; exact Nat.le_trans (show_len L k hk) hr1
      cases hq : signB L[k]
      · have HS : Hid (showB L = ⟨#[]⟩) := (by unfold showB; rw [signs_no hlt hq]; rfl : showB L = ⟨#[]⟩)
        have HQ : Hid (signB L[k] = false) := hq
        clear hq hc
        generalize L[k] = t at hc' hm HQ
        go_wp2_with fail
        refine (signOkI_any t _ hm).mono ?_
        rintro e w1 ⟨rfl, rfl⟩
        rw [HQ.out]
        go_wp2
        go_ret
        exact ⟨by rw [HS.out]; rfl, hB⟩
      · have HN : Hid (∀ j (h : j < L.length), j < k + 1 → signB L[j] = true) := fun j hj hlt' => by
          by_cases e : j = k
          · subst e; exact hq
          · exact HA.out j hj (by omega)
        have HQ : Hid (signB L[k] = true) := hq
        have HG : Hid (L.getD k ⟨#[]⟩ = L[k]) := getD_at hlt
        clear hq hc HA
        cases k with
        | zero =>
          have HSH : Hid (showL L 1 = showL L 0 ++ (L.getD 0 ⟨#[]⟩).data.toList) := show_none rfl
          have hm2 : L[0].size ≤ 4000000 := by omega
          generalize L[0] = t at hc' hm hm2 HQ HG
          simp only [Nat.add_zero] at hc'
          go_wp2_with fail
          refine (signOkI_any t _ hm).mono ?_
          rintro e w1 ⟨rfl, rfl⟩
          rw [HQ.out]
          go_wp2_with (go_at_call 39; refine (writeString_any w.heap.size w.heap.size _ t _ hI (by omega) hm2 hsz).mono ?_)
          rintro e w3 ⟨rfl, hI3, hb3⟩
          go_wp2
          go_roundw
          case rel => exact ⟨1, hlt, by go_num, by rw [HSH.out, HG.out, ← byteCells_str]; exact hI3, hB.trans hb3, HN⟩
          case measure => simp [intOf]; omega
        | succ j =>
          have hj : j < L.length := by omega
          obtain ⟨sb', off', hae, hs', hcj, _⟩ := h j hj
          injection hae with hae
          injection hae with e1 e2 _
          subst e1
          subst e2
          have hcj' := (hB.cell (p := ⟨sb, off + j, none⟩) hs').trans hcj
          have hm2 : L[j + 1].size ≤ 4000000 := by omega
          have HG0 : Hid (L.getD j ⟨#[]⟩ = L[j]) := getD_at hj
          have HGB : Hid (∀ x y, L[j] = x → L[j + 1] = y → gapB L (j + 1) = (!(x.toList == [40]) && !(y.toList == [41]))) := fun x y hx hy => by
            unfold gapB
            rw [HG.out, Nat.add_sub_cancel, HG0.out, hx, hy]
            simp
          clear hcj HG0
          generalize hp : L[j] = p at hcj'
          generalize ht : L[j + 1] = t at hc' hm hm2 HQ HG
          have HGC : Hid (gapB L (j + 1) = (!(p.toList == [40]) && !(t.toList == [41]))) := HGB.out p t hp ht
          clear HGB hp ht
          cases hp40 : (p.toList == [40])
          · cases ht41 : (t.toList == [41])
            · have HSH : Hid (showL L (j + 1 + 1) = showL L (j + 1) ++ [32] ++ (L.getD (j + 1) ⟨#[]⟩).data.toList) := show_gap (by rw [HGC.out, hp40, ht41]; rfl)
              go_wp2_with fail
              refine (signOkI_any t _ hm).mono ?_
              rintro e w1 ⟨rfl, rfl⟩
              rw [HQ.out]
              go_wp2_with (go_at_call 38; refine (writeByte_any w.heap.size w.heap.size _ 32 _ hI (by omega) hsz).mono ?_)
              rintro e w2 ⟨rfl, hI2, hb2⟩
              have hz2 : w.heap.size ≤ w2.heap.size := Nat.le_trans hsz hb2.size
              have hl2 : (Lib.byteCells (showL L (j + 1)) ++ [Value.int .u8 32]).length ≤ 4000000 := by
                rw [List.length_append, List.length_singleton]
                omega
              go_wp2_with (go_at_call 39; refine (writeString_any w.heap.size w.heap.size _ t _ hI2 hl2 hm2 hz2).mono ?_)
              rintro e w3 ⟨rfl, hI3, hb3⟩
              go_wp2
              go_roundw
              case rel => exact ⟨j + 1 + 1, hlt, by go_num, by rw [HSH.out, HG.out, ← byteCells_str, Lib.byteCells_append]; exact hI3, hB.trans (hb2.trans hb3), HN⟩
              case measure => simp [intOf]; omega
            · have HSH : Hid (showL L (j + 1 + 1) = showL L (j + 1) ++ (L.getD (j + 1) ⟨#[]⟩).data.toList) := show_none (by rw [HGC.out, hp40, ht41]; rfl)
              go_wp2_with fail
              refine (signOkI_any t _ hm).mono ?_
              rintro e w1 ⟨rfl, rfl⟩
              rw [HQ.out]
              go_wp2_with (go_at_call 39; refine (writeString_any w.heap.size w.heap.size _ t _ hI (by omega) hm2 hsz).mono ?_)
              rintro e w3 ⟨rfl, hI3, hb3⟩
              go_wp2
              go_roundw
              case rel => exact ⟨j + 1 + 1, hlt, by go_num, by rw [HSH.out, HG.out, ← byteCells_str]; exact hI3, hB.trans hb3, HN⟩
              case measure => simp [intOf]; omega
          · have HSH : Hid (showL L (j + 1 + 1) = showL L (j + 1) ++ (L.getD (j + 1) ⟨#[]⟩).data.toList) := show_none (by rw [HGC.out, hp40]; rfl)
            go_wp2_with fail
            refine (signOkI_any t _ hm).mono ?_
            rintro e w1 ⟨rfl, rfl⟩
            rw [HQ.out]
            go_wp2_with (go_at_call 39; refine (writeString_any w.heap.size w.heap.size _ t _ hI (by omega) hm2 hsz).mono ?_)
            rintro e w3 ⟨rfl, hI3, hb3⟩
            go_wp2
            go_roundw
            case rel => exact ⟨j + 1 + 1, hlt, by go_num, by rw [HSH.out, HG.out, ← byteCells_str]; exact hI3, hB.trans hb3, HN⟩
            case measure => simp [intOf]; omega
    · have HS : Hid (showB L = ⟨(showL L k).toArray⟩) := by
        show showB L = _
        have e : k = L.length := by omega
        unfold showB
        rw [signs_yes fun j hj => HA.out j hj (by omega), e]
        rfl
      go_wp2_with (go_at_call 40; refine (Try.Builder_String_any w.heap.size w.heap.size (showL L k) _ hI hsz).mono ?_)
      rintro e w1 ⟨rfl, hb⟩
      go_wp2
      go_ret
      exact ⟨by rw [HS.out]; rfl, hB.trans hb⟩

end Go.Proofs.Ytekcofbgohnkhaa
