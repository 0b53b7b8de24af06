import Derived.Test.YtdgihicpjonjgaaGreatDoorZKepsB
namespace Go.Proofs.YtdgihicpjonjgaaGreatDoor
open Go.RowKit
set_option maxHeartbeats 2000000 in
theorem lawCaptured (a:Option Addr) (cap:Nat) (L:List ByteArray) (w:World) (ht:Tab w) (h:ArgT w a L) (hL:L.length≤maxLen) :
  Calls Tryz.prog 3 #[.slice a L.length cap] w fun e w'=>e=.returned (.bool true)∧Below w.heap.size w w':=by
 go_enter Tryz.func3,Tryz.ntmps3
 go_wp2_with fail
 refine (szStringS_any a cap L _ h hL).mono ?_
 rintro e w1 ⟨x,rfl,hx,hb1⟩
 by_cases hneg:x < 0
 ·go_wp2
  go_ret
  exact ⟨rfl,hb1⟩
 obtain ⟨hL2,hR2⟩:=hx (by omega)
 have hm:∀ i (h:i < L.length),L[i].size≤maxLen:=fun i hi=>by
  obtain ⟨_,_,_,_,_,hm⟩:=h i hi
  exact hm
 have h1:=h.call hb1
 clear hR2
 go_wp2_with fail
 refine (toStringS_any a cap L _ h1 hL2).mono ?_
 rintro e w2 ⟨rfl,hr2,hb2⟩
 have h2:=h1.call hb2
 have hB2:=bstep hb1 hb2
 go_wp2_with fail
 refine (capturedS_any _ _ L _ (hr2.arg hm) hL2).mono ?_
 rintro e w3 ⟨rfl,hb3⟩
 have h3:=h2.call hb3
 have hB3:=bstep hB2 hb3
 go_wp2_with fail
 refine (toStringS_any a cap L _ h3 hL2).mono ?_
 rintro e w4 ⟨rfl,hr4,hb4⟩
 have h4:=h3.call hb4
 have hB4:=bstep hB3 hb4
 go_wp2_with fail
 refine (capturedI_any _ _ L _ (tab_call ht hB4) (hr4.arg hm) hL2).mono ?_
 rintro e w5 ⟨rfl,hb5⟩
 have h5:=h4.call hb5
 have hr5:=hr4.call hb5
 have hB5:=bstep hB4 hb5
 generalize capE L=T
 go_wp2_with fail
 refine (toStringS_any a cap L _ h5 hL2).mono ?_
 rintro e w6 ⟨rfl,hr6,hb6⟩
 have hr5':=hr5.call hb6
 have hB6:=bstep hB5 hb6
 go_wp2_with fail
 refine (eqStringS_two _ _ _ _ L _ (hr5'.arg hm) (hr6.arg hm) hL2).mono ?_
 rintro e w7 ⟨rfl,hb7⟩
 go_wp2
 go_ret
 exact ⟨rfl,bstep hB6 hb7⟩
end Go.Proofs.YtdgihicpjonjgaaGreatDoor
