/-
  Chapter 4: SumEnd, DeedEnd and Reserved, the program's: they answer as the model does.
-/
import Derived.Test.YtlmibonebiaocaaGreatDoorEndW
import Derived.Test.YtlmibonebiaocaaGreatDoorFormM
namespace Go.Proofs.YtlmibonebiaocaaGreatDoor
open Go.RowKit

set_option maxHeartbeats 1000000 in
theorem sumEndI_any (a : Option Addr) (cap : Nat) (L : List ByteArray) (i : Int) (w : World) (ht : Tab w) (h : ArgT w a L) (hL : L.length ≤ 1048576) :
    Calls Tryz.prog 10 #[.slice a L.length cap, .int .i64 i] w fun e w' => e = .returned (.int .i64 (fm L 0 i)) ∧ Below w.heap.size w w' := by
  have HE : Hid (endW L 1 i = fm L 0 i) := (rfl : endW L 1 i = fm L 0 i)
  go_enter Tryz.func10, Tryz.ntmps10
  go_wp2_with fail
  refine (allForms_any _).mono ?_
  rintro e w1 ⟨rfl, hT, hb1⟩
  go_wp2_with fail
  refine (endOfI_any w.heap.size a cap L i 1 w1 hT (tab_call ht hb1) (h.call hb1) hL (Or.inl rfl)).mono ?_
  rintro e w2 ⟨rfl, hb2⟩
  rw [HE.out]
  go_wp2
  go_ret
  exact ⟨rfl, bstep hb1 hb2⟩

set_option maxHeartbeats 1000000 in
theorem deedEndI_any (a : Option Addr) (cap : Nat) (L : List ByteArray) (i : Int) (w : World) (ht : Tab w) (h : ArgT w a L) (hL : L.length ≤ 1048576) :
    Calls Tryz.prog 13 #[.slice a L.length cap, .int .i64 i] w fun e w' => e = .returned (.int .i64 (fm L 1 i)) ∧ Below w.heap.size w w' := by
  have HE : Hid (endW L 3 i = fm L 1 i) := (rfl : endW L 3 i = fm L 1 i)
  go_enter Tryz.func13, Tryz.ntmps13
  go_wp2_with fail
  refine (allForms_any _).mono ?_
  rintro e w1 ⟨rfl, hT, hb1⟩
  go_wp2_with fail
  refine (endOfI_any w.heap.size a cap L i 3 w1 hT (tab_call ht hb1) (h.call hb1) hL (Or.inr rfl)).mono ?_
  rintro e w2 ⟨rfl, hb2⟩
  rw [HE.out]
  go_wp2
  go_ret
  exact ⟨rfl, bstep hb1 hb2⟩

theorem sumEndS_any (a : Option Addr) (cap : Nat) (L : List ByteArray) (i : Int) (w : World) (h : ArgT w a L) (hL : L.length ≤ 1048576) (hi : I64 i) :
    Calls Tryz.prog 8 #[.slice a L.length cap, .int .i64 i] w fun e w' => e = .returned (.int .i64 (fm L 0 i)) ∧ Below w.heap.size w w' := by
  have hn := need_le (L := L) 0 (by decide) i
  have hf := far_top L i
  have e := fm_of (L := L) (n := 8 * L.length + 40) (m := 0) (i := i) (by decide) (fun h => absurd h (by decide)) (by omega)
  rw [← e]
  exact (forms_all a cap L hL (8 * L.length + 40)).sum i w h hi (by omega)

set_option maxHeartbeats 1000000 in
theorem deedEndS_any (a : Option Addr) (cap : Nat) (L : List ByteArray) (i : Int) (w : World) (h : ArgT w a L) (hL : L.length ≤ 1048576) (hi : I64 i) :
    Calls Tryz.prog 12 #[.slice a L.length cap, .int .i64 i] w fun e w' => e = .returned (.int .i64 (fm L 1 i)) ∧ Below w.heap.size w w' := by
  have hn := need_le (L := L) 1 (by decide) i
  have hf := far_top L i
  have e := fm_of (L := L) (n := 8 * L.length + 40) (m := 1) (i := i) (by decide) (fun h => absurd h (by decide)) (by omega)
  have HE : Hid (frm L (8 * L.length + 40) 1 i = fm L 1 i) := e
  have hfar : 8 * farN L i + 1 ≤ 8 * L.length + 40 := by omega
  clear hn hf e
  go_enter Tryz.func12, Tryz.ntmps12
  go_wp2_with fail
  refine ((forms_all a cap L hL (8 * L.length + 40)).deed i true _ h hi hfar).mono ?_
  rintro e w1 ⟨rfl, hb1⟩
  rw [show (if true = true then 1 else 2) = 1 from rfl, HE.out]
  go_wp2
  go_ret
  exact ⟨rfl, hb1⟩

end Go.Proofs.YtlmibonebiaocaaGreatDoor
