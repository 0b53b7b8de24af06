/-
  The law of Looked: program and model answer the same; what came in stays.
-/
import Derived.Test.YtcmjmoikalfdkaaEnvF
namespace Go.Proofs.Ytcmjmoikalfdkaa
open Go.RowKit

set_option maxHeartbeats 2000000 in
theorem lawLooked (a : Option Addr) (cap : Nat) (X : List Bd) (t : ByteArray) (s : Bool) (w : World) (h : RowA BdAt 3 w a X ∧ ∀ x ∈ X, okBd x) (hL : X.length ≤ maxLen) (_hs : t.size ≤ maxLen) :
    Calls Try.prog 14 #[.slice a X.length cap, .string t, .bool s] w fun e w' => e = .returned (.bool true) ∧ Below w.heap.size w w' := by
  obtain ⟨h, hok⟩ := h
  by_cases hbig : (1048576 : Int) < t.size
  · go_enter Try.func14, Try.ntmps14
    go_wp2
    go_ret
    exact ⟨rfl, Below.refl _ _⟩
  go_enter Try.func14, Try.ntmps14
  go_wp2_with fail
  refine (szBindS_any a cap X 1048576 _ h hok hL (by decide) (by decide)).mono ?_
  rintro e w1 ⟨x, rfl, _, _, hx, hb1⟩
  by_cases hneg : x < 0
  · go_wp2
    go_ret
    exact ⟨rfl, hb1⟩
  have hL2 := hx (by omega)
  have h1 := h.call bd_stays hb1
  clear hx
  go_wp2_with fail
  refine (toBindS_any a cap X _ h1 hL2).mono ?_
  rintro e w2 ⟨rfl, hr2, hb2⟩
  have h2 := h1.call bd_stays hb2
  have hB2 := bstep hb1 hb2
  go_wp2_with fail
  refine (lookedS_any _ _ X t s _ (rowB hr2) hok (by omega)).mono ?_
  rintro e w3 ⟨rfl, hb3⟩
  have h3 := h2.call bd_stays hb3
  have hB3 := bstep hB2 hb3
  go_wp2_with fail
  refine (toBindS_any a cap X _ h3 hL2).mono ?_
  rintro e w4 ⟨rfl, hr4, hb4⟩
  have h4 := h3.call bd_stays hb4
  have hB4 := bstep hB3 hb4
  go_wp2_with fail
  refine (lookedI_any _ _ X t s _ (rowB hr4) hok (by omega)).mono ?_
  rintro e w5 ⟨rfl, hb5⟩
  have h5 := h4.call bd_stays hb5
  have hr5 := hr4.call hb5
  have hB5 := bstep hB4 hb5
  generalize lookE X t s = T
  go_wp2_with fail
  refine (toBindS_any a cap X _ h5 hL2).mono ?_
  rintro e w6 ⟨rfl, hr6, hb6⟩
  have hr5' := hr5.call hb6
  have hB6 := bstep hB5 hb6
  go_wp2_with fail
  refine (eqBindS_same _ _ _ _ X _ (rowB hr5') (rowB hr6) (by omega)).mono ?_
  rintro e w7 ⟨rfl, hb7⟩
  go_wp2
  go_ret
  exact ⟨rfl, bstep hB6 hb7⟩

end Go.Proofs.Ytcmjmoikalfdkaa
