import Derived.Test.YtdgihicpjonjgaaGreatDoorZTabsN
import Derived.Test.YtdgihicpjonjgaaGreatDoorZTabs
import Derived.Test.YtdgihicpjonjgaaGreatDoorZFormZ
import Derived.OwnWalk
import Derived.WalkSmall
import Derived.Deep.RegionWith
import Derived.BigQuiet
import Derived.Deep.CutRange
namespace Go.Proofs.YtdgihicpjonjgaaGreatDoor
open Go.RowKit
def LayV (W0:World) (v:Value) (t:List Nat × Option Nat):Prop :=
 ∃ f cap,v=.func (.func f) #[] cap∧(∀ args w,(callFunc f args).run Tryz.prog w=.ok (.enter f args) w)∧∀ w,Below W0.heap.size W0 w→LayC f cap t w
theorem lay_tab (W0:World) (k:Nat) (hk:k < tabL.length):LayV W0 (.func (.func tabL[k].2) #[] #[]) (tabL[k].1.2.2.1,tabL[k].1.2.2.2):=by
 have h34:k < 34:=hk
 match k,h34 with
 | 0,_ | 1,_ | 2,_ | 3,_ | 4,_ | 5,_ | 9,_ | 12,_=>exact ⟨_,_,rfl,Tryz.call63,fun w _=>lay_twoSums w⟩
 | 6,_=>exact ⟨_,_,rfl,Tryz.call64,fun w _=>lay_paramsThenDeeds w⟩
 | 7,_=>exact ⟨_,_,rfl,Tryz.call65,fun w _=>lay_someSums w⟩
 | 8,_ | 10,_=>exact ⟨_,_,rfl,Tryz.call66,fun w _=>lay_anySums w⟩
 | 11,_ | 25,_ | 26,_=>exact ⟨_,_,rfl,Tryz.call67,fun w _=>lay_noParts w⟩
 | 13,_ | 14,_ | 18,_ | 33,_=>exact ⟨_,_,rfl,Tryz.call68,fun w _=>lay_nameSum w⟩
 | 15,_=>exact ⟨_,_,rfl,Tryz.call69,fun w _=>lay_namesSum w⟩
 | 16,_ | 17,_=>exact ⟨_,_,rfl,Tryz.call70,fun w _=>lay_anyNames w⟩
 | 19,_=>exact ⟨_,_,rfl,Tryz.call71,fun w _=>lay_anyDeeds w⟩
 | 20,_=>exact ⟨_,_,rfl,Tryz.call72,fun w _=>lay_sumTwoDeeds w⟩
 | 21,_=>exact ⟨_,_,rfl,Tryz.call73,fun w _=>lay_sumDeed w⟩
 | 22,_=>exact ⟨_,_,rfl,Tryz.call74,fun w _=>lay_nameTwoSumsDeed w⟩
 | 23,_ | 24,_ | 28,_=>exact ⟨_,_,rfl,Tryz.call75,fun w _=>lay_oneSum w⟩
 | 27,_ | 30,_=>exact ⟨_,_,rfl,Tryz.call76,fun w _=>lay_threeSums w⟩
 | 29,_=>exact ⟨_,_,rfl,Tryz.call77,fun w _=>lay_nameTwoSums w⟩
 | 31,_=>exact ⟨_,_,rfl,Tryz.call78,fun w _=>lay_someNames w⟩
 | 32,_=>exact ⟨_,_,rfl,Tryz.call79,fun w _=>lay_anyParams w⟩
 | n+34,h=>exact absurd h (by omega)
set_option maxHeartbeats 1000000 in
theorem lay_base (W:World) (B q:Nat) (hc:W.cell? ⟨B,0,none⟩=some (.int .i64 (q:Int))):LayC 80 #[.pointer (some ⟨B,0,none⟩)] ([q],none) W:=fun n hn=>by
 show Calls Tryz.prog 80 #[.int .i64 (n:Int),.pointer (some ⟨B,0,none⟩)] W _
 by_cases h0:n=0
 ·subst h0
  go_enter Tryz.func80,Tryz.ntmps80
  go_wp2
  go_ret2
  exact ⟨rfl,by go_grown⟩
 obtain ⟨m,rfl⟩:∃ m,n=m+1:=⟨n - 1,by omega⟩
 have HW:Hid (wantN (atN ([q],none) (m+1))=0∧mayB (atN ([q],none) (m+1))=true):=⟨by simp [atN,wantN],by simp [atN,mayB]⟩
 rw [HW.out.1,HW.out.2]
 go_enter Tryz.func80,Tryz.ntmps80
 go_wp2
 go_ret2
 exact ⟨rfl,by go_grown⟩
def flatR:List (Value × Nat)→List Value
 | []=>[]
 | x :: R=>flatR R++[x.1,.int .i64 (x.2:Int)]
theorem flatR_len:∀ R,(flatR R).length=R.length * 2
 | []=>rfl
 | x :: R=>by
  show (flatR R++[x.1,.int .i64 (x.2:Int)]).length=(R.length+1) * 2
  rw [List.length_append,flatR_len R]
  simp
  omega
def StkR (W0:World):List (Value × Nat)→List (List Nat × Option Nat)→Prop
 | [],[]=>True
 | x :: R,t :: S=>(∃ l,LayV W0 x.1 l∧t=atN l x.2∧okL l)∧StkR W0 R S
 | _,_=>False
theorem StkR.len {W0:World}:∀ {R S},StkR W0 R S→R.length=S.length
 | [],[],_=>rfl
 | _ :: _,_ :: _,h=>by simp [StkR.len h.2]
 | [],_ :: _,h=>h.elim
 | _ :: _,[],h=>h.elim
def OwnS (w:World) (B:Nat) (v:Value) (R:List (Value × Nat)):Prop:=w.ownsRow B 88 2 v R.length (flatR R)
section
variable {w:World} {B g cap:Nat} {v:Value} {x:Value × Nat} {R:List (Value × Nat)}
theorem OwnS.shape (h:OwnS w B v (x :: R)):∃ g cap,v=.slice (some ⟨g,0,none⟩) (R.length+1) cap∧B≤g∧g < w.heap.size∧R.length+1≤cap∧cap≤maxLen:=by
 rcases h.2 with ⟨rfl,hn⟩ | ⟨g,cap,cur,rfl,hb,hg,hnc,hcm,_⟩
 ·simp at hn
 ·exact ⟨g,cap,rfl,hb,(Array.getElem?_eq_some_iff.1 hg).1,hnc,hcm⟩
theorem OwnS.top (h:OwnS w B (.slice (some ⟨g,0,none⟩) (R.length+1) cap) (x :: R)):w.cell? ⟨g,R.length * 2,none⟩=some x.1∧w.cell? ⟨g,R.length * 2+1,none⟩=some (.int .i64 (x.2:Int))∧w.frozen? ⟨g,R.length * 2+1,none⟩=false:=by
 have hc:=World.ownsRow.cells h (g:=g) rfl
 have hl:=flatR_len R
 have hadd:∀ j,(⟨g,0,none⟩:Addr).add j=⟨g,j,none⟩:=fun j=>by unfold Addr.add;split <;> simp_all
 refine ⟨?_,?_,World.ownsRow.frozenAt h _⟩
 ·have:=hc (R.length * 2) x.1 (by show (flatR R++[x.1,.int .i64 (x.2:Int)])[R.length * 2]?=_;rw [List.getElem?_append_right (by omega),hl];simp)
  rwa [hadd] at this
 ·have:=hc (R.length * 2+1) (.int .i64 (x.2:Int)) (by show (flatR R++[x.1,.int .i64 (x.2:Int)])[R.length * 2+1]?=_;rw [List.getElem?_append_right (by omega),hl];simp)
  rwa [hadd] at this
theorem OwnS.count (h:OwnS w B (.slice (some ⟨g,0,none⟩) (R.length+1) cap) (x :: R)) (c:Nat):OwnS (w.setCell ⟨g,R.length * 2+1,none⟩ (.int .i64 (c:Int))) B (.slice (some ⟨g,0,none⟩) (R.length+1) cap) ((x.1,c) :: R)∧w.grownBy (w.setCell ⟨g,R.length * 2+1,none⟩ (.int .i64 (c:Int))) (some g):=by
 have hs:=World.ownsRow.stored h (R.length * 2+1) (.int .i64 (c:Int))
 refine ⟨?_,hs.2⟩
 have hl:=flatR_len R
 have e:(flatR (x :: R)).set (R.length * 2+1) (.int .i64 (c:Int))=flatR ((x.1,c) :: R):=by
  show (flatR R++[x.1,.int .i64 (x.2:Int)]).set (R.length * 2+1) (.int .i64 (c:Int))=flatR R++[x.1,.int .i64 (c:Int)]
  rw [List.set_append_right _ _ (by omega),hl,show R.length * 2+1 - R.length * 2=1 by omega]
  rfl
 have h1:=hs.1
 rw [e] at h1
 exact h1
theorem OwnS.pop (h:OwnS w B (.slice (some ⟨g,0,none⟩) (R.length+1) cap) (x :: R)):OwnS w B (.slice (some ⟨g,0,none⟩) R.length cap) R :=
 ownsRow_pop (flatR_len R) h
theorem OwnS.call {w':World} (h:OwnS w B v R) (hb:Below w.heap.size w w'):OwnS w' B v R:=by
 refine ⟨h.1,?_⟩
 rcases h.2 with hn | ⟨g,cap,cur,rfl,hB,hg,rest⟩
 ·exact .inl hn
 ·have hlt:g < w.heap.size:=(Array.getElem?_eq_some_iff.1 hg).1
  exact .inr ⟨g,cap,cur,rfl,hB,(hb.block g hlt).trans hg,rest⟩
end
theorem ownS_new (w:World) (F:Value):OwnS (w.alloc (.cells #[F,.int .i64 0] 88)) w.heap.size (.slice (some ⟨w.heap.size,0,none⟩) 1 1) [(F,0)] :=
 ⟨rfl,.inr ⟨w.heap.size,1,#[F,.int .i64 0],rfl,Nat.le_refl _,heap_alloc_new w _,Nat.le_refl _,by unfold maxLen;omega,rfl,rfl⟩⟩
theorem infoO:(Tryz.prog.info? 88).map (fun i=>(i.zero,i.size,i.bytes))=some (some (.agg #[.nilFunc,.int .i64 0]),2,16):=by kernel_rfl
theorem openP_none {h:List UInt8} {q:Nat} (hA:∀ j (hj:j < tabL.length),hitB h q tabL[j].1=false):openF h q=none:=by
 unfold openF
 rw [List.find?_eq_none]
 intro x hx
 rw [← tab_fst,List.mem_map] at hx
 obtain ⟨y,hy,rfl⟩:=hx
 obtain ⟨j,hj,rfl⟩:=List.getElem_of_mem hy
 rw [hA j hj]
 decide
theorem openP_some {h:List UInt8} {q k:Nat} (hk:k < tabL.length) (hh:hitB h q tabL[k].1=true) (hA:∀ j (hj:j < tabL.length),j < k→hitB h q tabL[j].1=false):openF h q=some tabL[k].1:=by
 unfold openF
 rw [List.find?_eq_some_iff_getElem]
 have hl:formL.length=tabL.length:=rfl
 have hg:∀ j (hj:j < tabL.length),formL[j]'(by rw [hl];exact hj)=tabL[j].1:=fun j hj=>by
  simp only [← tab_fst,List.getElem_map]
 refine ⟨hh,k,by rw [hl];exact hk,hg k hk,fun j hj=>?_⟩
 rw [hg j (by omega),hA j (by omega) hj]
 rfl
end Go.Proofs.YtdgihicpjonjgaaGreatDoor
namespace Go.Proofs.YtdgihicpjonjgaaGreatDoor
open Go.RowKit
theorem balloc' {B:Nat} {w W:World} (h:Below B w W) (o:Obj) (hB:B≤w.heap.size:=by first | exact Nat.le_refl _ | omega):Below B w (W.alloc o):=h.alloc (Nat.le_trans hB h.size) o
set_option maxHeartbeats 8000000 in
set_option maxRecDepth 100000 in
theorem endOf_any (g:Nat) (a:Option Addr) (cap:Nat) (L:List ByteArray) (at0:Nat) (q:Nat) (w:World) (hT:TabT w g) (ht:Tab w) (h:ArgT w a L) (hL:L.length≤1048576) (hq:q≤7) (hat:at0 < L.length) :
  Calls Tryz.prog 40 #[.slice (some ⟨g,0,none⟩) 34 34,.slice a L.length cap,.int .i64 (at0:Int),.int .i64 (q:Int)] w fun e w'=>e=.returned (.int .i64 (mach L (at0:Int) ([q],none) []))∧Below w.heap.size w w':=by
 have hg:=hT.1
 obtain ⟨i0,hi,hz0,hz1,hz2⟩:=info_parts infoO
 obtain ⟨W0,hW0⟩:∃ W0,W0=w.alloc (.cells #[.int .i64 (q:Int)] 2):=⟨_,rfl⟩
 have hsz:W0.heap.size=w.heap.size+1:=by rw [hW0];simp
 have hbw:Below w.heap.size w W0:=by rw [hW0];exact balloc (Below.refl _ _) _
 have hcq:W0.cell? ⟨w.heap.size,0,none⟩=some (.int .i64 (q:Int)):=by rw [hW0];simp [go_sem]
 have HB:Hid (∀ wr,Below W0.heap.size W0 wr→Below w.heap.size w wr):=fun wr hb=>bstep hbw hb
 have HL:Hid (LayV W0 (.func (.func 80) #[] #[.pointer (some ⟨w.heap.size,0,none⟩)]) ([q],none)) :=
  ⟨_,_,rfl,Tryz.call80,fun w' hb=>lay_base w' _ q ((hb.cell (p:=⟨w.heap.size,0,none⟩) (by rw [hsz];exact Nat.lt_succ_self _)).trans hcq)⟩
 have hgW:g < W0.heap.size:=by omega
 have HT0:Hid (TabT W0 g∧ArgT W0 a L∧Tab W0):=⟨hT.call hbw,h.call hbw,tab_call ht hbw⟩
 go_enter Tryz.func40,Tryz.ntmps40
 go_wp2
 rw [← hW0]
 have HZ:Hid (W0.heap.size=w.heap.size+1):=hsz
 clear hsz hbw hcq hW0
 go_loopw [9,10] (fun v9 v10 wr=>∃ (i:Nat) (R:List (Value × Nat)) (t:List Nat × Option Nat) (S:List (List Nat × Option Nat)),v10=.int .i64 (i:Int)∧OwnS wr W0.heap.size v9 R∧Hid (StkR W0 R (t :: S)∧∀ x∈R,x.2≤i)∧R.length≤i+1∧i≤L.length+1∧Below W0.heap.size W0 wr∧Hid (S=[]→t=([q],none))∧Hid (mach L (i:Int) t S=mach L (at0:Int) ([q],none) [])) (fun _ v10 _=>L.length+2 - (intOf v10).toNat)
 case atStart =>
  rw [← HZ.out]
  exact ⟨at0,[(_,0)],([q],none),[],rfl,ownS_new _ _,⟨⟨⟨_,HL.out,rfl,⟨fun p hp=>by rw [List.mem_singleton] at hp;omega,Or.inl rfl⟩⟩,trivial⟩,fun x hx=>by rw [List.mem_singleton] at hx;rw [hx];exact Nat.zero_le _⟩,by simp,by omega,balloc (Below.refl _ _) _,fun _=>rfl,rfl⟩
 case round =>
  obtain ⟨i,R,t,S,rfl,hO,HS,hR,hil,hB,HT,HM⟩:=hrel
  by_cases hlt:i < L.length
  ·obtain ⟨x,R',rfl⟩:∃ x R',R=x :: R':=by
    cases R with
    | nil=>exact HS.out.1.elim
    | cons x R'=>exact ⟨x,R',rfl⟩
   obtain ⟨F,c⟩:=x
   obtain ⟨⟨⟨l,hlv,htl,hok⟩,hst⟩,hcs⟩:=HS.out
   have hci:c≤i:=hcs _ (List.mem_cons_self ..)
   have hlv0:=hlv
   obtain ⟨f,cp,hFe,hcall,hlay⟩:=hlv
   simp only at hFe htl
   subst hFe
   obtain ⟨gb,cp2,rfl,hgB,hgz,hcap1,hcap2⟩:=hO.shape
   obtain ⟨hF,hc,hfz⟩:=hO.top
   have hlayC:=hlay wr.drew hB.drew c (by omega)
   simp only at hF hc
   rw [← htl] at hlayC
   have hRl:(R'.length:Int)+1 - 1=(R'.length:Int):=by omega
   simp only [List.length_cons] at hR
   have HTL:Hid (t=atN l c):=htl
   clear htl
   go_upto_region 6 with fail
   go_cut [12,13] from 20 to 101 (fun v12 v13 wc=>v12=.int .i64 (wantN t:Int)∧v13=.bool (mayB t)∧Below wr.heap.size wr wc)
   case first =>
    first | go_region_with (refine hlayC.mono ?_;rintro e w1 ⟨rfl,hb1⟩) | fail
    all_goals go_wp2_with fail
    all_goals go_meet
    all_goals exact ⟨rfl,rfl,⟨hb1.os,hb1.tape,hb1.output,hb1.size,hb1.block⟩⟩
   case rest =>
   obtain ⟨rfl,rfl,hbc⟩:=hcut
   have htl:=HTL.out
   clear HTL
   clear hlayC hlay hcall hF hc hfz
   have hO1:=hO.call hbc
   have hB1:Below W0.heap.size W0 wc:=hB.trans (hbc.mono hB.size)
   clear hO hB
   obtain ⟨hF,hc,hfz⟩:=hO1.top
   obtain ⟨hO2,hgr⟩:=hO1.count (c+1)
   simp only at hF hc
   have hcst:(((c+1:Nat):Int))=(c:Int)+1:=by omega
   rw [hcst] at hO2 hgr
   clear hcst
   obtain ⟨hT1,hA1,ht1⟩:=HT0.out
   obtain ⟨sb,off,rfl,hsb,hs0,hsm⟩:=hA1 i hlt
   have HSG:Hid (sgAt L (i:Int)=L[i]):=(by rw [sgAt_in (by omega) (by omega)];rfl:sgAt L (i:Int)=L[i])
   go_upto_region 8 with fail
   obtain ⟨w2,hw2⟩:∃ w2,w2=wc.setCell ⟨gb,R'.length * 2+1,none⟩ (.int .i64 ((c:Int)+1)):=⟨_,rfl⟩
   have hB2:Below W0.heap.size W0 w2:=by rw [hw2];exact hB1.setCell (p:=⟨gb,R'.length * 2+1,none⟩) hgB _
   rw [← hw2] at hO2
   have hs2:=(hB2.cell (p:=⟨sb,off+i,none⟩) hsb).trans hs0
   rw [← hw2]
   clear hw2 hF hc hfz hO1 hB1 hbc hgr hs0
   have hT2:=hT1.call hB2
   have ht2:=tab_call ht1 hB2
   have hbw2:=HB.out _ hB2
   have hh0:(0:Int)≤(i:Int):=by omega
   have hh1:(i:Int) < (L.length:Int):=by omega
   have HN:Hid (StkR W0 ((.func (.func f) #[] cp,c+1) :: R') (nextL t :: S)):=⟨⟨l,hlv0,by rw [htl];simp [nextL,atN],hok⟩,hst⟩
   have HC:Hid (∀ x∈(Value.func (.func f) #[] cp,c+1) :: R',x.2≤i+1):=fun x hx=>by
    rcases List.mem_cons.mp hx with rfl | hx
    ·show c+1≤i+1
     omega
    ·have:=hcs x (List.mem_cons_of_mem _ hx)
     omega
   have hlen:=StkR.len hst
   cases h41:isW L[i] [41]
   ·cases h40:isW L[i] [40]
    ·have b41:(L[i].toList == [41])=false:=h41
     have b40:(L[i].toList == [40])=false:=h40
     rw [← HSG.out] at h41 h40
     cases hal:aloneB L[i] (wantN t)
     ·have HE:Hid (mach L (at0:Int) ([q],none) []=-1):=(by rw [← HM.out];exact mach_not hh0 hh1 h41 h40 (by rw [HSG.out];exact hal):mach L (at0:Int) ([q],none) []=-1)
      have HA:Hid (aloneB L[i] (wantN t)=false):=hal
      clear hal HM HS h41 h40 HSG HT HN HC hst hok htl hcs
      generalize L[i]=sg at hs2 hsm b41 b40 HA
      go_wp2_with fail
      refine (fitsAlone_any g sg (wantN t) w2 hT2 ht2 hsm).mono ?_
      rintro e w3 ⟨rfl,hb3⟩
      rw [HA.out]
      go_wp2
      go_ret
      exact ⟨by rw [HE.out];rfl,bstep hbw2 hb3⟩
     ·have HA:Hid (aloneB L[i] (wantN t)=true):=hal
      cases hSS:S with
      | nil =>
       subst hSS
       have HE:Hid (mach L (at0:Int) ([q],none) []=(i:Int)+1):=(by rw [← HM.out];exact mach_one hh0 hh1 h41 h40 (by rw [HSG.out];exact hal):mach L (at0:Int) ([q],none) []=(i:Int)+1)
       have hr0:R'.length=0:=hlen
       have hl1:((R'.length:Int)+1 == 1)=true:=by simp;omega
       clear hal HM HS h41 h40 HSG HT HN HC hst hok htl hcs hlen hr0
       generalize L[i]=sg at hs2 hsm b41 b40 HA
       go_wp2_with fail
       refine (fitsAlone_any g sg (wantN t) w2 hT2 ht2 hsm).mono ?_
       rintro e w3 ⟨rfl,hb3⟩
       rw [HA.out]
       go_wp2
       go_ret
       exact ⟨by rw [HE.out];rfl,bstep hbw2 hb3⟩
      | cons u S' =>
       subst hSS
       have HE:Hid (mach L ((i+1:Nat):Int) (nextL t) (u :: S')=mach L (at0:Int) ([q],none) []):=(by rw [← HM.out,mach_go hh0 hh1 h41 h40 (by rw [HSG.out];exact hal)];rfl:mach L ((i+1:Nat):Int) (nextL t) (u :: S')=mach L (at0:Int) ([q],none) [])
       have hr0:R'.length=S'.length+1:=hlen
       have hl1:((R'.length:Int)+1 == 1)=false:=by simp;omega
       clear hal HM HS h41 h40 HSG HT hst hok htl hcs hlen hr0
       generalize L[i]=sg at hs2 hsm b41 b40 HA
       go_wp2_with fail
       refine (fitsAlone_any g sg (wantN t) w2 hT2 ht2 hsm).mono ?_
       rintro e w3 ⟨rfl,hb3⟩
       rw [HA.out]
       have hO3:=hO2.call hb3
       have hB3:Below W0.heap.size W0 w3:=hB2.trans (hb3.mono hB2.size)
       go_wp2
       go_roundw
       case rel =>
        exact ⟨i+1,_,nextL t,u :: S',by go_num,hO3,⟨HN.out,HC.out⟩,by simp only [List.length_cons];omega,by omega,hB3,fun h=>absurd h (by simp),HE.out⟩
       case measure=>simp [intOf];omega
    ·have b41:(L[i].toList == [41])=false:=h41
     have b40:(L[i].toList == [40])=true:=h40
     rw [← HSG.out] at h41 h40
     have hop1:i+1 < L.length→∃ sb' off',some (⟨sb,off,none⟩:Addr)=some ⟨sb',off',none⟩∧w2.cell? ⟨sb',off'+(i+1),none⟩=some (.string (sgAt L ((i:Int)+1)))∧sb' < w2.heap.size:=fun hl2=>by
      obtain ⟨sb',off',he',hs',hc',_⟩:=hA1 (i+1) hl2
      refine ⟨sb',off',he',?_,Nat.lt_of_lt_of_le hs' hB2.size⟩
      rw [show sgAt L ((i:Int)+1)=L[i+1] from by rw [sgAt_in (by omega) (by omega)];rfl]
      exact (hB2.cell (p:=⟨sb',off'+(i+1),none⟩) hs').trans hc'
     have hop2:¬ i+1 < L.length→sgAt L ((i:Int)+1)=⟨#[]⟩:=fun hl2=>sgAt_out (by omega)
     have hOP:=openedR_any g (some ⟨sb,off,none⟩) cap L.length i (wantN t) (sgAt L ((i:Int)+1)) w2 hT2 hL hlt hop1 hop2
     have HBad:Hid (openF (sgAt L ((i:Int)+1)).toList (wantN t)=none→mach L (at0:Int) ([q],none) []=-1):=fun hn=>by rw [← HM.out];exact mach_bad hh0 hh1 h41 h40 hn
     have HGood:Hid (∀ gg,openF (sgAt L ((i:Int)+1)).toList (wantN t)=some gg→mach L (if gg.1.isEmpty then (i:Int)+1 else (i:Int)+2) (gg.2.2.1,gg.2.2.2) (nextL t :: S)=mach L (at0:Int) ([q],none) []):=fun gg hn=>by rw [← HM.out];exact (mach_open hh0 hh1 h41 h40 hn).symm
     clear hop1 hop2 HM HS h41 h40 HSG HT hok htl hcs hlen
     generalize L[i]=sg at hs2 hsm b41 b40
     go_wp2_with fail
     refine hOP.mono ?_
     rintro e w3 ⟨v,rfl,hv,hb3⟩
     have hO3:=hO2.call hb3
     have hB3:Below W0.heap.size W0 w3:=hB2.trans (hb3.mono hB2.size)
     have hbw3:=bstep hbw2 hb3
     clear hOP hb3
     rcases hv with ⟨k,hk,hhit,hbef,rfl⟩ | ⟨hall,rfl⟩
     ·have HG2:=HGood.out _ (openP_some hk hhit hbef)
      have hLV:=lay_tab W0 k hk
      have hLO:okL (tabL[k].1.2.2.1,tabL[k].1.2.2.2):=openF_ok (openP_some hk hhit hbef)
      have HD:Hid ((headV tabL[k]).toList=tabL[k].1.1):=headV_list _
      have HNN:Hid (StkR W0 ((.func (.func tabL[k].2) #[] #[],0) :: (.func (.func f) #[] cp,c+1) :: R') ((tabL[k].1.2.2.1,tabL[k].1.2.2.2) :: nextL t :: S)):=⟨⟨_,hLV,rfl,hLO⟩,HN.out⟩
      clear hhit hbef HGood HBad hLV hLO
      generalize hhd:headV tabL[k]=hd at HD
      clear hhd
      generalize ((tabL[k].1.2.1:Nat):Int)=kk
      cases he:hd.toList.isEmpty
      ·rw [HD.out] at he
       rw [he] at HG2
       rw [← HD.out] at he
       have HE:Hid (mach L ((i+2:Nat):Int) (tabL[k].1.2.2.1,tabL[k].1.2.2.2) (nextL t :: S)=mach L (at0:Int) ([q],none) []):=HG2
       clear HG2 HD
       generalize tabL[k].2=fn at HNN
       have hz3:gb < w3.heap.size:=hO3.shape.elim fun _ ⟨_,e,_,hz,_⟩=>by cases e;exact hz
       have hzW:W0.heap.size≤w3.heap.size:=hB3.size
       have HO3:Hid (OwnS w3 W0.heap.size (.slice (some ⟨gb,0,none⟩) (R'.length+1) cp2) ((.func (.func f) #[] cp,c+1) :: R')):=hO3
       clear hO3
       go_wp2_with (at_builtin;refine wpList_append_own _ rfl (.tmp 86) (.tmp 90) 89 rfl W0.heap.size 88 i0 (.agg #[.nilFunc,.int .i64 0]) 2 16 Tryz.underlying89 hi hz0 hz1 hz2 rfl (by decide) _ _ _ rfl (World.ownsRow.alloc (World.ownsRow.alloc HO3.out _) _) ⟨w3.heap.size+1,0,none⟩ 1 1 [.func (.func fn) #[] #[],.int .i64 0] rfl rfl ?c1 ?c2 ?c3 ?c4 ?c5 ?_)
       case c1 =>
        intro j u hj
        match j,hj with
        | 0,hj=>simp at hj;subst hj;simp [Addr.add,go_sem]
        | 1,hj=>simp at hj;subst hj;simp [Addr.add,go_sem]
       case c2=>intro u hu;simp at hu;rcases hu with rfl | rfl <;> rfl
       case c3=>unfold maxLen;simp only [List.length_cons];omega
       case c4=>simp only [List.length_cons];omega
       case c5=>simp;omega
       intro v' w4 hown' hgrow _
       have hO4:OwnS w4 W0.heap.size v' ((.func (.func fn) #[] #[],0) :: (.func (.func f) #[] cp,c+1) :: R'):=hown'
       have hB4:Below W0.heap.size W0 w4:=(balloc' (balloc' hB3 _) _).grown hgrow (by simp;omega) (fun k hk=>by cases hk;exact hgB)
       have h14:w4.cell? ⟨w3.heap.size,0,none⟩=some (.string hd):=hgrow.cell (by simp [go_sem]) (by simp [Value.ownBlock];omega)
       obtain ⟨gb4,cap4,rfl,hgb4,hgz4,hc41,hc42⟩:=hO4.shape
       have hbw4:=HB.out _ hB4
       have hl1:((R'.length:Int)+1+1 == 1)=false:=by simp;omega
       clear hown' hgrow
       go_wp2
       go_roundw
       case rel =>
        exact ⟨i+2,_,_,nextL t :: S,by go_num,hO4,⟨HNN.out,fun x hx=>by
         rcases List.mem_cons.mp hx with rfl | hx
         ·exact Nat.zero_le _
         ·have:=HC.out x hx
          omega⟩,by simp only [List.length_cons];omega,by omega,hB4,fun h=>absurd h (by simp),HE.out⟩
       case measure=>simp [intOf];omega
      ·rw [HD.out] at he
       rw [he] at HG2
       rw [← HD.out] at he
       have HE:Hid (mach L ((i+1:Nat):Int) (tabL[k].1.2.2.1,tabL[k].1.2.2.2) (nextL t :: S)=mach L (at0:Int) ([q],none) []):=HG2
       clear HG2 HD
       generalize tabL[k].2=fn at HNN
       have hz3:gb < w3.heap.size:=hO3.shape.elim fun _ ⟨_,e,_,hz,_⟩=>by cases e;exact hz
       have hzW:W0.heap.size≤w3.heap.size:=hB3.size
       have HO3:Hid (OwnS w3 W0.heap.size (.slice (some ⟨gb,0,none⟩) (R'.length+1) cp2) ((.func (.func f) #[] cp,c+1) :: R')):=hO3
       clear hO3
       go_wp2_with (at_builtin;refine wpList_append_own _ rfl (.tmp 86) (.tmp 90) 89 rfl W0.heap.size 88 i0 (.agg #[.nilFunc,.int .i64 0]) 2 16 Tryz.underlying89 hi hz0 hz1 hz2 rfl (by decide) _ _ _ rfl (World.ownsRow.alloc (World.ownsRow.alloc HO3.out _) _) ⟨w3.heap.size+1,0,none⟩ 1 1 [.func (.func fn) #[] #[],.int .i64 0] rfl rfl ?c1 ?c2 ?c3 ?c4 ?c5 ?_)
       case c1 =>
        intro j u hj
        match j,hj with
        | 0,hj=>simp at hj;subst hj;simp [Addr.add,go_sem]
        | 1,hj=>simp at hj;subst hj;simp [Addr.add,go_sem]
       case c2=>intro u hu;simp at hu;rcases hu with rfl | rfl <;> rfl
       case c3=>unfold maxLen;simp only [List.length_cons];omega
       case c4=>simp only [List.length_cons];omega
       case c5=>simp;omega
       intro v' w4 hown' hgrow _
       have hO4:OwnS w4 W0.heap.size v' ((.func (.func fn) #[] #[],0) :: (.func (.func f) #[] cp,c+1) :: R'):=hown'
       have hB4:Below W0.heap.size W0 w4:=(balloc' (balloc' hB3 _) _).grown hgrow (by simp;omega) (fun k hk=>by cases hk;exact hgB)
       have h14:w4.cell? ⟨w3.heap.size,0,none⟩=some (.string hd):=hgrow.cell (by simp [go_sem]) (by simp [Value.ownBlock];omega)
       obtain ⟨gb4,cap4,rfl,hgb4,hgz4,hc41,hc42⟩:=hO4.shape
       have hbw4:=HB.out _ hB4
       have hl1:((R'.length:Int)+1+1 == 1)=false:=by simp;omega
       clear hown' hgrow
       go_wp2
       go_roundw
       case rel =>
        exact ⟨i+1,_,_,nextL t :: S,by go_num,hO4,⟨HNN.out,fun x hx=>by
         rcases List.mem_cons.mp hx with rfl | hx
         ·exact Nat.zero_le _
         ·have:=HC.out x hx
          omega⟩,by simp only [List.length_cons];omega,by omega,hB4,fun h=>absurd h (by simp),HE.out⟩
       case measure=>simp [intOf];omega
     ·have HE:Hid (mach L (at0:Int) ([q],none) []=-1):=HBad.out (openP_none hall)
      clear hall HGood HBad
      go_wp2
      go_ret
      exact ⟨by rw [HE.out];rfl,(by repeat' (first | (with_reducible exact Below.refl _ _) | (with_reducible refine Below.drew ?_) | (with_reducible refine balloc ?_ _) | (with_reducible refine bset ?_ _ ?_) | (with_reducible assumption) | (with_reducible refine bstep ?_ (by with_reducible assumption)) | go_size))⟩
   ·have b41:(L[i].toList == [41])=true:=h41
    rw [← HSG.out] at h41
    cases hm:mayB t
    ·have HE:Hid (mach L (at0:Int) ([q],none) []=-1):=(by rw [← HM.out];exact mach_no hh0 hh1 h41 hm:mach L (at0:Int) ([q],none) []=-1)
     clear HM HS h41 HSG HT HN HC hst hok htl hcs hm
     generalize L[i]=sg at hs2 hsm b41
     go_wp2
     go_ret
     exact ⟨by rw [HE.out];rfl,hbw2⟩
    ·cases hSS:S with
     | nil =>
      exfalso
      rw [HT.out hSS] at hm
      exact Bool.false_ne_true hm
     | cons u S' =>
      subst hSS
      have hO3:=hO2.pop
      cases hSS2:S' with
      | nil =>
       subst hSS2
       have HE:Hid (mach L (at0:Int) ([q],none) []=(i:Int)+1):=(by rw [← HM.out];exact mach_last hh0 hh1 h41 hm:mach L (at0:Int) ([q],none) []=(i:Int)+1)
       have hl1:((R'.length:Int) == 1)=true:=by simp at hlen;simp;omega
       clear HM HS h41 HSG HT HN HC hst hok htl hcs hlen hm
       generalize L[i]=sg at hs2 hsm b41
       go_wp2
       go_ret
       exact ⟨by rw [HE.out];rfl,hbw2⟩
      | cons v S'' =>
       subst hSS2
       have HE:Hid (mach L ((i+1:Nat):Int) u (v :: S'')=mach L (at0:Int) ([q],none) []):=(by rw [← HM.out,mach_shut hh0 hh1 h41 hm];rfl:mach L ((i+1:Nat):Int) u (v :: S'')=mach L (at0:Int) ([q],none) [])
       have hl1:((R'.length:Int) == 1)=false:=by simp at hlen;simp;omega
       have HP:Hid (StkR W0 R' (u :: v :: S'')):=hst
       have HC2:Hid (∀ x∈R',x.2≤i+1):=fun x hx=>HC.out x (List.mem_cons_of_mem _ hx)
       clear HM HS h41 HSG HT HN HC hst hok htl hcs hlen hm
       generalize L[i]=sg at hs2 hsm b41
       go_wp2
       go_roundw
       case rel =>
        exact ⟨i+1,R',u,v :: S'',by go_num,hO3,⟨HP.out,HC2.out⟩,by omega,by omega,hB2,fun h=>absurd h (by simp),HE.out⟩
       case measure=>simp [intOf];omega
  ·have HE:Hid (mach L (at0:Int) ([q],none) []=-1):=(by rw [← HM.out];exact mach_out (by omega):mach L (at0:Int) ([q],none) []=-1)
   have hbwr:=HB.out _ hB
   clear HM HS HT
   go_wp2
   go_ret
   exact ⟨by rw [HE.out];rfl,hbwr⟩
set_option maxHeartbeats 2000000 in
theorem endOfI_any (g:Nat) (a:Option Addr) (cap:Nat) (L:List ByteArray) (i:Int) (q:Nat) (w:World) (hT:TabT w g) (ht:Tab w) (h:ArgT w a L) (hL:L.length≤1048576) (hq:q=1∨q=3) :
  Calls Tryz.prog 40 #[.slice (some ⟨g,0,none⟩) 34 34,.slice a L.length cap,.int .i64 i,.int .i64 (q:Int)] w fun e w'=>e=.returned (.int .i64 (endW L q i))∧Below w.heap.size w w':=by
 rw [← mach_whole q (by omega) i hq]
 by_cases h0:0≤i
 ·by_cases h1:i < (L.length:Int)
  ·obtain ⟨n,rfl⟩:∃ n:Nat,i=(n:Int):=⟨i.toNat,by omega⟩
   exact endOf_any g a cap L n q w hT ht h hL (by omega) (by omega)
  ·have HE:Hid (mach L i ([q],none) []=-1):=mach_out (by omega)
   go_enter Tryz.func40,Tryz.ntmps40
   go_wp2
   refine wp_loop_rounds 1 ?_
   rw [rounds_succ]
   go_wp2
   go_ret
   exact ⟨by rw [HE.out];rfl,(by repeat' (first | (with_reducible exact Below.refl _ _) | (with_reducible refine balloc ?_ _)))⟩
 ·have HE:Hid (mach L i ([q],none) []=-1):=mach_out (by omega)
  go_enter Tryz.func40,Tryz.ntmps40
  go_wp2
  refine wp_loop_rounds 1 ?_
  rw [rounds_succ]
  go_wp2
  go_ret
  exact ⟨by rw [HE.out];rfl,(by repeat' (first | (with_reducible exact Below.refl _ _) | (with_reducible refine balloc ?_ _)))⟩
end Go.Proofs.YtdgihicpjonjgaaGreatDoor
namespace Go.Proofs.YtdgihicpjonjgaaGreatDoor
open Go.RowKit
end Go.Proofs.YtdgihicpjonjgaaGreatDoor
namespace Go.Proofs.YtdgihicpjonjgaaGreatDoor
open Go.RowKit
end Go.Proofs.YtdgihicpjonjgaaGreatDoor
