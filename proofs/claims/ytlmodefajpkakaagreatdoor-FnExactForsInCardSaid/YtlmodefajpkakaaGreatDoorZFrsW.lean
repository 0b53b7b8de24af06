/-
  Chapter 16: how many fors there are in what is Scoped: the model's ForsIn, and the program's.
-/
import Derived.Test.YtlmodefajpkakaaGreatDoorZJnsW
namespace Go.Proofs.YtlmodefajpkakaaGreatDoor
open Go.RowKit

/-- for. -/
def frT : ByteArray := ⟨#[102, 111, 114]⟩

set_option maxHeartbeats 1000000 in
theorem forsInS_any (a : Option Addr) (cap : Nat) (L : List ByteArray) (w : World) (h : ArgT w a L) (hL : L.length ≤ 1048576) :
    Calls Tryz.prog 5 #[.slice a L.length cap] w fun e w' => e = .returned (.int .i64 (scnE L frT)) ∧ Below w.heap.size w w' := by
  go_enter Tryz.func5, Tryz.ntmps5
  go_wp2_with fail
  refine (l13Count_any a cap L frT _ h hL).mono ?_
  rintro e w1 ⟨rfl, hb1⟩
  go_wp2
  go_ret
  exact ⟨rfl, hb1⟩

set_option maxHeartbeats 1000000 in
theorem forsInI_any (a : Option Addr) (cap : Nat) (L : List ByteArray) (w : World) (ht : Tab w) (h : ArgT w a L) (hL : L.length ≤ 1048576) :
    Calls Tryz.prog 7 #[.slice a L.length cap] w fun e w' => e = .returned (.int .i64 (scnE L frT)) ∧ Below w.heap.size w w' := by
  have HSC : Hid (Calls Tryz.prog 10 #[.slice a L.length cap] w fun e w' => e = .returned (.bool (scopB L)) ∧ Below w.heap.size w w') := by
    have := scopedI_any a cap L w ht h hL
    rw [scop_same] at this
    exact this
  cases hp : scopB L
  · have HC : Hid (scnE L frT = -1) := scn_no hp
    have HP : Hid (scopB L = false) := hp
    clear hp
    go_enter Tryz.func7, Tryz.ntmps7
    go_wp2_with fail
    refine HSC.out.mono ?_
    rintro e w1 ⟨rfl, hb1⟩
    rw [HP.out]
    go_wp2
    go_ret
    exact ⟨by rw [HC.out]; rfl, hb1⟩
  · have HC : Hid (countE L frT = scnE L frT) := scn_count hp
    have HP : Hid (scopB L = true) := hp
    clear hp
    go_enter Tryz.func7, Tryz.ntmps7
    go_wp2_with fail
    refine HSC.out.mono ?_
    rintro e w1 ⟨rfl, hb1⟩
    rw [HP.out]
    clear HSC
    go_wp2_with fail
    refine (countI_any a cap L frT _ (tab_call ht hb1) (h.call hb1) hL).mono ?_
    rintro e w2 ⟨rfl, hb2⟩
    rw [HC.out]
    go_wp2
    go_ret
    exact ⟨rfl, bstep hb1 hb2⟩

end Go.Proofs.YtlmodefajpkakaaGreatDoor
