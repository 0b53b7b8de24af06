/-
  Chapters 13 to 18: how many ( with a word right behind them, of what is Scoped: the model's count, and the program's JoinsIn.
-/
import Derived.Test.YtlmodefajpkakaaGreatDoorZPlayI
import Derived.Test.YtlmodefajpkakaaGreatDoorZDefs
namespace Go.Proofs.YtlmodefajpkakaaGreatDoor
open Go.RowKit

theorem scop_play' {L : List ByteArray} (h : scopB L = true) : playB L = true := by
  unfold scopB at h
  rw [Bool.and_eq_true] at h
  exact h.1
/-- What is told: -1 where it is not Scoped. -/
noncomputable def scnE (L : List ByteArray) (hd : ByteArray) : Int := if scopB L then (cntF L hd (L.length - 1) : Int) else -1
theorem scn_no {L : List ByteArray} {hd : ByteArray} (h : scopB L = false) : scnE L hd = -1 := by
  unfold scnE
  rw [h]
  rfl
theorem scn_yes {L : List ByteArray} {hd : ByteArray} (h : scopB L = true) : scnE L hd = (cntF L hd (L.length - 1) : Int) := by
  unfold scnE
  rw [h]
  rfl
theorem scn_count {L : List ByteArray} {hd : ByteArray} (h : scopB L = true) : countE L hd = scnE L hd := by
  rw [scn_yes h]
  unfold countE
  rw [scop_play' h]
  rfl

set_option maxHeartbeats 1000000 in
theorem l13Count_any (a : Option Addr) (cap : Nat) (L : List ByteArray) (hd : ByteArray) (w : World) (h : ArgT w a L) (hL : L.length ≤ 1048576) :
    Calls Tryz.prog 9 #[.slice a L.length cap, .string hd] w fun e w' => e = .returned (.int .i64 (scnE L hd)) ∧ Below w.heap.size w w' := by
  cases hp : scopB L
  · have HC : Hid (scnE L hd = -1) := scn_no hp
    have HP : Hid (scopB L = false) := hp
    clear hp
    go_enter Tryz.func9, Tryz.ntmps9
    go_wp2_with fail
    refine (scopedS_any a cap L _ h hL).mono ?_
    rintro e w1 ⟨rfl, hb1⟩
    rw [HP.out]
    go_wp2
    go_ret
    exact ⟨by rw [HC.out]; rfl, hb1⟩
  · have HC : Hid (scnE L hd = (cntF L hd (L.length - 1) : Int)) := scn_yes hp
    have HP : Hid (scopB L = true) := hp
    clear hp
    go_enter Tryz.func9, Tryz.ntmps9
    go_wp2_with fail
    refine (scopedS_any a cap L _ h hL).mono ?_
    rintro e w1 ⟨rfl, hb1⟩
    rw [HP.out]
    go_wp2_with fail
    refine (l4Count_any a cap L hd _ (h.call hb1) hL).mono ?_
    rintro e w2 ⟨rfl, hb2⟩
    go_wp2
    go_ret
    exact ⟨by rw [HC.out]; rfl, bstep hb1 hb2⟩

/-- join. -/
def jnT : ByteArray := ⟨#[106, 111, 105, 110]⟩

end Go.Proofs.YtlmodefajpkakaaGreatDoor
