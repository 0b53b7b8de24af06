import Derived.Test.YtdojfommmpnbgaaGreatDoorKAM
import Derived.Shelf.Abstract
import Derived.RangeFuncBox
set_option maxHeartbeats 2000000
namespace Go.Proofs.YtdojfommmpnbgaaGreatDoor
open Go.RowKit Go.Proofs.Tryz
theorem BC(B : Nat)(W : World)(v : Value)(h : W.cell? ⟨B, 0, none⟩ = some v)(n : Nat) : (method (n + 1) 95 (.pointer (some ⟨B, 0, none⟩)) "Len").run prog W = .ok (69, v) W := by
 have e : (method (n + 1) 95 (.pointer (some ⟨B, 0, none⟩)) "Len").run prog W = (do let v ← loadVar 98 ⟨B, 0, none⟩; pure (69, v)).run prog W := by kernel_rfl
 rw[e];simp[go_sem,h]
theorem qY(B : Nat)(W : World)(v : Value)(h : W.cell? ⟨B, 0, none⟩ = some v)(n : Nat) : (method (n + 1) 95 (.pointer (some ⟨B, 0, none⟩)) "Less").run prog W = .ok (240, v) W := by
 have e : (method (n + 1) 95 (.pointer (some ⟨B, 0, none⟩)) "Less").run prog W = (do let v ← loadVar 98 ⟨B, 0, none⟩; pure (240, v)).run prog W := by kernel_rfl
 rw[e];simp[go_sem,h]
theorem qZ(B : Nat)(W : World)(v : Value)(h : W.cell? ⟨B, 0, none⟩ = some v)(n : Nat) : (method (n + 1) 95 (.pointer (some ⟨B, 0, none⟩)) "Swap").run prog W = .ok (243, v) W := by
 have e : (method (n + 1) 95 (.pointer (some ⟨B, 0, none⟩)) "Swap").run prog W = (do let v ← loadVar 98 ⟨B, 0, none⟩; pure (243, v)).run prog W := by kernel_rfl
 rw[e];simp[go_sem,h]
theorem I5(B : Nat)(W : World)(n : Nat) : (method (n + 1) 95 (.pointer (some ⟨B, 0, none⟩)) "Push").run prog W = .ok (242, (.pointer (some ⟨B, 0, none⟩))) W := by kernel_rfl
theorem I4(B : Nat)(W : World)(n : Nat) : (method (n + 1) 95 (.pointer (some ⟨B, 0, none⟩)) "Pop").run prog W = .ok (241, (.pointer (some ⟨B, 0, none⟩))) W := by kernel_rfl
theorem zJ:∀args W,(callFunc 69 args).run prog W=.ok (.enter 69 args) W:=enters_of func69 (by kernel_rfl) rfl
theorem qu:∀args W,(callFunc 240 args).run prog W=.ok (.enter 240 args) W:=enters_of func240 (by kernel_rfl) rfl
theorem qv:∀args W,(callFunc 243 args).run prog W=.ok (.enter 243 args) W:=enters_of func243 (by kernel_rfl) rfl
theorem Fa:∀args W,(callFunc 242 args).run prog W=.ok (.enter 242 args) W:=enters_of func242 (by kernel_rfl) rfl
theorem E9:∀args W,(callFunc 241 args).run prog W=.ok (.enter 241 args) W:=enters_of func241 (by kernel_rfl) rfl
structure cy (n0 B g cp:Nat) (H:af) (w:World):Prop where
 box:Boxed w B 98 (.slice (some ⟨g,0,none⟩) H.length cp)
 own:w.ownsRow n0 9 1 (.slice (some ⟨g,0,none⟩) H.length cp) H.length (H.map Value.string)
 lo:n0≤B
section
variable {n0 B g cp:Nat} {H:af} {w w':World}
theorem cy.ne(h:cy n0 B g cp H w):B≠g:=fun e=>Boxed.not_row h.box (by decide) h.own (by rw[e];rfl)
theorem cy.lt(h:cy n0 B g cp H w):n0≤g∧g<w.heap.size:=World.ownsRow.lt h.own g rfl
theorem cy.call(h:cy n0 B g cp H w)(hb:ai w w'):cy n0 B g cp H w' :=
 ⟨(hb.block B h.box.lt).trans h.box,cR h.own (fun k hk=>hb.block k (World.ownsRow.lt h.own k hk).2),h.lo⟩
theorem cy.cell(h:cy n0 B g cp H w){i:Nat}(hi:i<H.length):w.cell? ⟨g,i,none⟩=some (.string (gT H i)):=by
 have hc:=World.ownsRow.cells h.own (g:=g) rfl i (.string (gT H i)) (by rw[lU hi];simp[hi]);have hadd:(⟨g,0,none⟩:Addr).add i=⟨g,i,none⟩:=by unfold Addr.add;split<;>simp_all
 rwa [hadd]at hc
theorem cy.frozen(h:cy n0 B g cp H w)(i:Nat):w.frozen? ⟨g,i,none⟩=false:=World.ownsRow.frozenAt h.own i
theorem cy.swap(h:cy n0 B g cp H w)(i j:Nat):cy n0 B g cp (swp H i j) ((w.setCell ⟨g,i,none⟩ (.string (gT H j))).setCell ⟨g,j,none⟩ (.string (gT H i))):=by
 have h1:=(World.ownsRow.stored h.own i (.string (gT H j))).1;have h2:=(World.ownsRow.stored h1 j (.string (gT H i))).1;have e:((H.map Value.string).set i (.string (gT H j))).set j (.string (gT H i))=(swp H i j).map Value.string:=by
  unfold swp;rw[List.map_set,List.map_set]
 refine⟨?_,?_,h.lo⟩
 ·rw[mn];have hne:=h.ne;exact(Below.heap_setCell _ _ _ _ hne).trans ((Below.heap_setCell _ _ _ _ hne).trans h.box)
 ·rw[mn,←e];exact h2
end
def dO(B g:Nat):Nat→Prop:=fun k=>k=B∨k=g
theorem Js(B g i j:Nat)(u v:Value)(w:World):aE (dO B g) (dO B g) w ((w.setCell ⟨g,i,none⟩ u).setCell ⟨g,j,none⟩ v):=(aE.set (dO B g) w u (Or.inr rfl)).trans (aE.set (dO B g) _ v (Or.inr rfl))
theorem pT(a:Option Addr)(n cp:Nat)(w:World) :
  ah 69 #[.slice a n cp] w fun e w'=>e=.returned (.int .i64 n)∧w=w':=by
 go_enter func69,ntmps69;go_wp2;go_ret;exact⟨rfl,rfl⟩
theorem Og(g n cp i j:Nat)(s t:ByteArray)(w:World)(hi:i<n)(hj:j<n)(h1:w.cell? ⟨g,i,none⟩=some (.string s))(h2:w.cell? ⟨g,j,none⟩=some (.string t)) :
  ah 240 #[.slice (some ⟨g,0,none⟩) n cp,.int .i64 i,.int .i64 j] w (aA (.bool (cV s t)) w):=by
 go_enter func240,ntmps240;go_wp2;go_region;go_wp2;go_ret;exact⟨rfl,(Below.refl _ _).drew⟩
theorem OC(g n cp i j:Nat)(s t:ByteArray)(w:World)(hi:i<n)(hj:j<n)(h1:w.cell? ⟨g,i,none⟩=some (.string s))(h2:w.cell? ⟨g,j,none⟩=some (.string t))(f1:w.frozen? ⟨g,i,none⟩=false)(f2:w.frozen? ⟨g,j,none⟩=false) :
  ah 243 #[.slice (some ⟨g,0,none⟩) n cp,.int .i64 i,.int .i64 j] w fun e w'=>e=.returned (.tuple #[])∧∃W,ai w W∧w'=(W.setCell ⟨g,i,none⟩ (.string t)).setCell ⟨g,j,none⟩ (.string s):=by
 have h3:(w.setCell ⟨g,i,none⟩ (.string t)).cell? ⟨g,j,none⟩=some (.string t):=by
  by_cases e:i=j
  ·subst e;exact World.cell?_setCell_same w _ _ h1
  ·exact(World.cell?_setCell_other w ⟨g,i,none⟩ ⟨g,j,none⟩ _ (fun hh=>e (by injection hh))).trans h2
 go_enter func243,ntmps243;go_wp2;go_region;go_wp2;go_end0;exact⟨rfl,w.drew,(Below.refl _ _).drew,rfl⟩
theorem qK{n0 B g cp i j:Nat}{H:af}{w:World}(h:cy n0 B g cp H w)(hi:i<H.length)(hj:j<H.length) :
  ah 240 #[.slice (some ⟨g,0,none⟩) H.length cp,.int .i64 i,.int .i64 j] w (aA (.bool (cV (gT H i) (gT H j))) w) :=
 Og g _ cp i j _ _ w hi hj (h.cell hi) (h.cell hj)
theorem qL{n0 B g cp i j:Nat}{H:af}{w:World}(h:cy n0 B g cp H w)(hi:i<H.length)(hj:j<H.length) :
  ah 243 #[.slice (some ⟨g,0,none⟩) H.length cp,.int .i64 i,.int .i64 j] w fun e w'=>e=.returned (.tuple #[])∧cy n0 B g cp (swp H i j) w'∧aE (dO B g) (dO B g) w w':=by
 refine(OC g _ cp i j _ _ w hi hj (h.cell hi) (h.cell hj) (h.frozen i) (h.frozen j)).mono ?_;rintro e w' ⟨rfl,W,hb,rfl⟩;exact⟨rfl,(h.call hb).swap i j,(aE.j _ hb).trans (Js B g i j _ _ W)⟩
theorem Nt(n0 B g cp j:Nat)(H:af)(w:World)(h:cy n0 B g cp H w)(hU:lM H H.length j)(hj:j<H.length)(hl:H.length≤9000000) :
  ah 163 #[.iface 95 (.pointer (some ⟨B,0,none⟩)),.int .i64 j] w fun e w'=>e=.returned (.tuple #[])∧∃K,K.length=H.length∧Hp K K.length∧(∀s,s∈K↔s∈H)∧cy n0 B g cp K w'∧aE (dO B g) (dO B g) w w':=by
 go_enter func163,ntmps163;go_wp2;go_loopw [1] (fun v1 wr=>∃(k:Nat) (K:af),v1=.int .i64 (k:Int)∧k<H.length∧Hid (K.length=H.length)∧lM K K.length k∧Hid (∀s,s∈K↔s∈H)∧cy n0 B g cp K wr∧aE (dO B g) (dO B g) w wr) (fun v1 _=>(intOf v1).toNat)
 case atStart=>exact⟨j,H,rfl,hj,rfl,hU,fun _=>Iff.rfl,h,aE.refl _ _⟩
 case round =>
  obtain⟨k,K,rfl,hk,HL,hI,HM,hS,hN⟩:=hrel;have hkK:k<K.length:=by rw[HL.out];exact hk
  have mL:=qY B wr _ hS.box.cell;have eL:=qu;by_cases h0:k=0
  ·subst h0;go_wp2;go_end0;exact⟨rfl,K,HL.out,Dr hI (Or.inl rfl),HM.out,hS,hN⟩
  ·obtain⟨p,hp⟩:∃p:Nat,p=(k-1)/2:=⟨_,rfl⟩;have hpk:p<k:=by omega
   have hpi:((k:Int)-1).tdiv 2=(p:Int):=by
    rw[Int.tdiv_eq_ediv_of_nonneg (by omega)];omega
   have hne:¬(p:Int)=(k:Int):=by omega
   have HP:=aj hp;clear hp;have HLs:=qK hS hkK (show p<K.length by omega);cases hq:cV (gT K k) (gT K p)
   ·rw[hq]at HLs;have HE:Hid (Hp K K.length):=Dr hI (Or.inr (by rw[←HP.out];exact hq));clear hI hq;go_wp2_with fail;refine HLs.mono ?_;rintro e w2 ⟨rfl,hb2⟩;go_wp2;go_end0;exact⟨rfl,K,HL.out,HE.out,HM.out,hS.call hb2,hN.trans (aE.j _ hb2)⟩
   ·rw[hq]at HLs;have HI:Hid (lM (swp K p k) (swp K p k).length p):=by
     show lM (swp K p k) (swp K p k).length p;rw[mn,HP.out];exact Nv hI (Nat.le_refl _) (by omega) hkK (by rw[←HP.out];exact hq)
    have HM2:Hid (∀s,s∈swp K p k↔s∈H):=fun s=>by
     have h1:=qJ (H:=K) (i:=p) (j:=k) (n:=K.length) (by omega) hkK (Nat.le_refl _) s;have h2:=pb (swp K p k) s;rw[mn]at h2;rw[←h2,h1,pb];exact HM.out s
    clear hI hq;go_wp2_with fail;refine HLs.mono ?_;rintro e w2 ⟨rfl,hb2⟩;have hS2:=hS.call hb2;have mS:=qZ B w2 _ hS2.box.cell;have eS:=qv;clear mL eL;go_wp2_with fail;refine(qL hS2 (show p<K.length by omega) hkK).mono ?_;rintro e w3 ⟨rfl,hS3,hN3⟩;clear mS eS HLs;go_wp2;go_roundw
    case rel=>exact⟨p,swp K p k,rfl,by omega,(by rw[mn];exact HL.out:(swp K p k).length=H.length),HI.out,HM2.out,hS3,(hN.trans (aE.j _ hb2)).trans hN3⟩
    case measure=>simp[intOf];omega
set_option maxHeartbeats 4000000 in
theorem EX(n0 B g cp n:Nat)(H:af)(w:World)(h:cy n0 B g cp H w)(hD:kW H n 0)(hn:n≤H.length)(hl:H.length≤9000000) :
  ah 132 #[.iface 95 (.pointer (some ⟨B,0,none⟩)),.int .i64 0,.int .i64 n] w fun e w'=>(∃b,e=.returned (.bool b))∧∃K,K.length=H.length∧Hp K n∧(∀s,jt K n s↔jt H n s)∧cy n0 B g cp K w'∧aE (dO B g) (dO B g) w w':=by
 go_enter func132,ntmps132;go_wp2;go_loopw [7] (fun v7 wr=>∃(i:Nat) (K:af),v7=.int .i64 (i:Int)∧i≤n∧Hid (K.length=H.length)∧kW K n i∧Hid (∀s,jt K n s↔jt H n s)∧cy n0 B g cp K wr∧aE (dO B g) (dO B g) w wr) (fun v7 _=>n-(intOf v7).toNat)
 case atStart=>exact⟨0,H,rfl,Nat.zero_le _,rfl,hD,fun _=>Iff.rfl,h,aE.refl _ _⟩
 case round =>
  obtain⟨i,K,rfl,hi,HL,hI,HM,hS,hN⟩:=hrel;have hnK:n≤K.length:=by rw[HL.out];exact hn
  have hnb:n≤9000000:=by omega
  obtain⟨j1,hj1⟩:∃j1:Nat,j1=2*i+1:=⟨_,rfl⟩;have e1:2*(i:Int)+1=(j1:Int):=by omega
  have b1:i<j1:=by omega
  have b2:j1≤18000001:=by omega
  by_cases h1:n≤j1
  ·have HE:Hid (Hp K n):=so hI (fun c c0 c1 c2=>by omega);have h1':(n:Int)≤(j1:Int):=by omega
   clear hI hj1;go_wp2;go_ret;exact⟨⟨_,rfl⟩,K,HL.out,HE.out,HM.out,hS,hN⟩
  ·obtain⟨j2,hj2⟩:∃j2:Nat,j2=j1+1:=⟨_,rfl⟩;have e2:(j1:Int)+1=(j2:Int):=by omega
   have h1':¬(n:Int)≤(j1:Int):=by omega
   have h1'':¬(j1:Int)<0:=by omega
   have b3:i<j2:=by omega
   have HJ1:(j1-1)/2=i:=by omega
   have HJ2:(j2-1)/2=i:=by omega
   have HC:Hid (∀c,0<c→(c-1)/2=i→c=j1∨c=j2):=fun c c0 c2=>by omega
   have b4:j2≤18000002:=by omega
   have b5:0<j1:=by omega
   have b6:0<j2:=by omega
   clear hj1 hj2;by_cases h2:n≤j2
   ·have h2':¬(j2:Int)<(n:Int):=by omega
    have HMn:Hid (∀c,0<c→c<n→(c-1)/2=i→dR (gT K j1) (gT K c)):=fun c c0 c1 c2=>by
     rcases HC.out c c0 c2 with e|e
     ·rw[e];exact qV _
     ·omega
    have mL2:=qY B wr _ hS.box.cell;have eL2:=qu;have HLs:=qK hS (show j1<K.length by omega) (show i<K.length by omega);cases hq:cV (gT K j1) (gT K i)
    ·rw[hq]at HLs;have HE:Hid (Hp K n):=so hI (fun c c0 c1 c2=>pq (show dR (gT K i) (gT K j1)from hq) (HMn.out c c0 c1 c2));clear hI hq HMn;go_wp2_with fail;refine HLs.mono ?_;rintro e w5 ⟨rfl,hb5⟩;clear mL2 eL2 HLs;go_wp2;go_ret;exact⟨⟨_,rfl⟩,K,HL.out,HE.out,HM.out,hS.call hb5,hN.trans (aE.j _ hb5)⟩
    ·rw[hq]at HLs;have HI:Hid (kW (swp K i j1) n j1):=uJ hI (by rw[HL.out];exact hn) (by omega) (by omega) (by omega) HMn.out hq;have HM2:Hid (∀s,jt (swp K i j1) n s↔jt H n s):=fun s=>(qJ (H:=K) (i:=i) (j:=j1) (n:=n) (by omega) (by omega) (by rw[HL.out];exact hn) s).trans (HM.out s)
     clear hI hq HMn;go_wp2_with fail;refine HLs.mono ?_;rintro e w5 ⟨rfl,hb5⟩;have hS5:=hS.call hb5;have mS:=qZ B w5 _ hS5.box.cell;have eS:=qv;clear mL2 eL2 HLs;go_wp2_with fail;refine(qL hS5 (show i<K.length by omega) (show j1<K.length by omega)).mono ?_;rintro e w6 ⟨rfl,hS6,hN6⟩;clear mS eS;go_wp2;go_roundw
     case rel=>exact⟨j1,swp K i j1,rfl,by omega,(by rw[mn];exact HL.out:(swp K i j1).length=H.length),HI.out,HM2.out,hS6,(hN.trans (aE.j _ hb5)).trans hN6⟩
     case measure=>simp[intOf];omega
   ·have h2':(j2:Int)<(n:Int):=by omega
    have mL:=qY B wr _ hS.box.cell;have eL:=qu;have HL0:=qK hS (show j2<K.length by omega) (show j1<K.length by omega);cases hz:cV (gT K j2) (gT K j1)
    ·rw[hz]at HL0;have HMn:Hid (∀c,0<c→c<n→(c-1)/2=i→dR (gT K j1) (gT K c)):=fun c c0 c1 c2=>by
      rcases HC.out c c0 c2 with e|e
      ·rw[e];exact qV _
      ·rw[e];exact hz
     clear hz;go_wp2_with fail;refine HL0.mono ?_;rintro e w4 ⟨rfl,hb4⟩;have hS4:=hS.call hb4;have hN4:=hN.trans (aE.j _ hb4);clear mL eL HL0;have mL2:=qY B w4 _ hS4.box.cell;have eL2:=qu;have HLs:=qK hS4 (show j1<K.length by omega) (show i<K.length by omega);cases hq:cV (gT K j1) (gT K i)
     ·rw[hq]at HLs;have HE:Hid (Hp K n):=so hI (fun c c0 c1 c2=>pq (show dR (gT K i) (gT K j1)from hq) (HMn.out c c0 c1 c2));clear hI hq HMn;go_wp2_with fail;refine HLs.mono ?_;rintro e w5 ⟨rfl,hb5⟩;clear mL2 eL2 HLs;go_wp2;go_ret;exact⟨⟨_,rfl⟩,K,HL.out,HE.out,HM.out,hS4.call hb5,hN4.trans (aE.j _ hb5)⟩
     ·rw[hq]at HLs;have HI:Hid (kW (swp K i j1) n j1):=uJ hI (by rw[HL.out];exact hn) (by omega) (by omega) (by omega) HMn.out hq;have HM2:Hid (∀s,jt (swp K i j1) n s↔jt H n s):=fun s=>(qJ (H:=K) (i:=i) (j:=j1) (n:=n) (by omega) (by omega) (by rw[HL.out];exact hn) s).trans (HM.out s)
      clear hI hq HMn;go_wp2_with fail;refine HLs.mono ?_;rintro e w5 ⟨rfl,hb5⟩;have hS5:=hS4.call hb5;have mS:=qZ B w5 _ hS5.box.cell;have eS:=qv;clear mL2 eL2 HLs;go_wp2_with fail;refine(qL hS5 (show i<K.length by omega) (show j1<K.length by omega)).mono ?_;rintro e w6 ⟨rfl,hS6,hN6⟩;clear mS eS;go_wp2;go_roundw
      case rel=>exact⟨j1,swp K i j1,rfl,by omega,(by rw[mn];exact HL.out:(swp K i j1).length=H.length),HI.out,HM2.out,hS6,(hN4.trans (aE.j _ hb5)).trans hN6⟩
      case measure=>simp[intOf];omega
    ·rw[hz]at HL0;have HMn:Hid (∀c,0<c→c<n→(c-1)/2=i→dR (gT K j2) (gT K c)):=fun c c0 c1 c2=>by
      rcases HC.out c c0 c2 with e|e
      ·rw[e];exact qU hz
      ·rw[e];exact qV _
     clear hz;go_wp2_with fail;refine HL0.mono ?_;rintro e w4 ⟨rfl,hb4⟩;have hS4:=hS.call hb4;have hN4:=hN.trans (aE.j _ hb4);clear mL eL HL0;have mL2:=qY B w4 _ hS4.box.cell;have eL2:=qu;have HLs:=qK hS4 (show j2<K.length by omega) (show i<K.length by omega);cases hq:cV (gT K j2) (gT K i)
     ·rw[hq]at HLs;have HE:Hid (Hp K n):=so hI (fun c c0 c1 c2=>pq (show dR (gT K i) (gT K j2)from hq) (HMn.out c c0 c1 c2));clear hI hq HMn;go_wp2_with fail;refine HLs.mono ?_;rintro e w5 ⟨rfl,hb5⟩;clear mL2 eL2 HLs;go_wp2;go_ret;exact⟨⟨_,rfl⟩,K,HL.out,HE.out,HM.out,hS4.call hb5,hN4.trans (aE.j _ hb5)⟩
     ·rw[hq]at HLs;have HI:Hid (kW (swp K i j2) n j2):=uJ hI (by rw[HL.out];exact hn) (by omega) (by omega) (by omega) HMn.out hq;have HM2:Hid (∀s,jt (swp K i j2) n s↔jt H n s):=fun s=>(qJ (H:=K) (i:=i) (j:=j2) (n:=n) (by omega) (by omega) (by rw[HL.out];exact hn) s).trans (HM.out s)
      clear hI hq HMn;go_wp2_with fail;refine HLs.mono ?_;rintro e w5 ⟨rfl,hb5⟩;have hS5:=hS4.call hb5;have mS:=qZ B w5 _ hS5.box.cell;have eS:=qv;clear mL2 eL2 HLs;go_wp2_with fail;refine(qL hS5 (show i<K.length by omega) (show j2<K.length by omega)).mono ?_;rintro e w6 ⟨rfl,hS6,hN6⟩;clear mS eS;go_wp2;go_roundw
      case rel=>exact⟨j2,swp K i j2,rfl,by omega,(by rw[mn];exact HL.out:(swp K i j2).length=H.length),HI.out,HM2.out,hS6,(hN4.trans (aE.j _ hb5)).trans hN6⟩
      case measure=>simp[intOf];omega
end Go.Proofs.YtdojfommmpnbgaaGreatDoor
