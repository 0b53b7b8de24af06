import Derived.Test.YtdojfommmpnbgaaGreatDoorKAK
import Derived.RangeFuncNested
import Derived.RangeFuncBound
import Derived.RangeFuncCalls
import Derived.RangeFuncLeaves
import Derived.RangeFuncFrom
import Derived.Shelf.Abstract
import Derived.Shelf.RegionOpen
import Derived.WalkKit
import Derived.OwnWalkIn
import Derived.TacticsInMore
import Derived.LoopNIn
import Derived.LoopIn
import Derived.Maps.AppendAt
import Derived.RangeFuncBox
set_option maxHeartbeats 4000000
set_option maxRecDepth 100000
namespace Go.Proofs.YtdojfommmpnbgaaGreatDoor
open Go.RowKit Go.Shelf Go.Proofs.Tryz
attribute [local go_sem] Oper.semAt_some
abbrev Pl:={ x:Int × Int // 0≤x.1∧x.1≤1048576∧0≤x.2∧x.2≤1048577 }
def oR(x:Pl):Array Value:=#[.int .i64 x.1.1,.int .i64 x.1.2]
def nl(n0 bl:Nat)(A B:World):Prop:=Below n0 A B∧B.cell? ⟨bl,0,none⟩=A.cell? ⟨bl,0,none⟩
def jM(n0:Nat)(W:World)(a:Option Addr)(L:af):Prop:=∀i (h:i<L.length),∃sb off,a=some ⟨sb,off,none⟩∧sb<n0∧W.cell? ⟨sb,off+i,none⟩=some (.string L[i])∧L[i].size≤maxLen
theorem jM.R{n0:Nat}{W W':World}{a:Option Addr}{L:af}(h:jM n0 W a L)(hb:Below n0 W W'):jM n0 W' a L:=fun i hi=>by
 obtain⟨sb,off,ha,hs,hc,hm⟩:=h i hi;exact⟨sb,off,ha,hs,(hb.cell (p:=⟨sb,off+i,none⟩) hs).trans hc,hm⟩
theorem aD.low{w:World}{a:Option Addr}{L:af}(h:aD w a L):jM w.heap.size w a L:=fun i hi=>by
 obtain⟨sb,off,ha,hs,hc,hm⟩:=h i hi;exact⟨sb,off,ha,hs,hc,hm⟩
theorem Mf(n:Nat)(hn:1≤n)(l ba bl n0:Nat)(a:Option Addr)(cap:Nat)(L:af)(i0:Nat)(hL:L.length≤1048576)(J Jx:List Pl→World→Prop)
  (hY:∀pre x W,J pre W→pre.length<L.length→YieldAt Fence.wide (n-1) prog l (oR x) W fun e W' =>
   (e=.returned (.bool true)∧J (pre++[x]) W'∧nl n0 bl W W')∨(e=.returned (.bool false)∧Jx (pre++[x]) W'))
  (W:World) (hba:W.cell? ⟨ba,0,none⟩=some (.int .i64 i0)) (hbl:W.cell? ⟨bl,0,none⟩=some (.slice a L.length cap)) (hA:jM n0 W a L) (h0:J [] W) :
  CallsIn Fence.wide n prog 174 #[.func (.yield l) #[] #[],.pointer (some ⟨ba,0,none⟩),.pointer (some ⟨bl,0,none⟩)] W fun e W'=>(∃v,e=.returned v) ∧
   ((∃ys:List Pl,ys.map (·.1)=dX L (L.length+1) i0 0∧J ys W')∨(∃pre:List Pl,pre.map (·.1) <+: dX L (L.length+1) i0 0∧Jx pre W')):=by
 refine callsIn_of_wp func174 rfl trivial ?_ rfl;simp only[ntmps174,List.size_toArray,List.length_cons,List.length_nil,Nat.reduceAdd,Nat.reduceSub,Array.replicate_succ,Array.replicate_zero,List.push_toArray,List.append_toArray,List.nil_append,List.cons_append];gi_wp2
 gi_loopw [4,5] (fun v4 v5 wr=>∃(k:Nat) (o:Int) (f:Nat) (pre:List Pl),v4=.int .i64 o∧v5=.int .i64 (k:Int)∧0≤o∧o≤(k:Int)∧J pre wr∧wr.cell? ⟨bl,0,none⟩=some (.slice a L.length cap)∧jM n0 wr a L∧L.length<k+f∧Hid (pre.map (·.1)++dX L f k o=dX L (L.length+1) i0 0))
  (fun _ v5 _=>L.length+1-(intOf v5).toNat)
 case atStart=>exact⟨i0,0,L.length+1,[],rfl,rfl,Int.le_refl _,by omega,h0,hbl,hA,by omega,rfl⟩
 case round =>
  obtain⟨k,o,f,pre,rfl,rfl,ho0,ho1,hJ,hcl,hAr,hf,HS⟩:=hrel;by_cases hlt:k<L.length
  ·obtain⟨f,rfl⟩:∃g,f=g+1:=⟨f-1,by omega⟩;obtain⟨sb,off,rfl,hsb,hc,hm⟩:=hAr k hlt;have hG:L.getD k ⟨#[]⟩=L[k]:=by simp[List.getD,hlt]
   cases hsg:bT L[k]
   ·have HE:=aj (by rw[←HS.out,rC (by rw[hG,hsg];simp),List.append_nil]:pre.map (·.1)=dX L (L.length+1) i0 0);have HQ:Hid (bT L[k]=false):=hsg;clear HS hsg hG;generalize L[k]=sg at hc hm HQ;gi_wp2_with fail;refine⟨trivial,(callsIn_wide.2 (rG sg _ hm)).mono ?_⟩;rintro e w1 ⟨rfl,rfl⟩;rw[HQ.out];gi_wp2;go_end0;exact⟨⟨_,rfl⟩,.inl ⟨pre,HE.out,hJ⟩⟩
   ·cases h40:ae L[k] [40]
    ·cases h41:ae L[k] [41]
     ·have hop:eu L[k] o=o:=by unfold eu;rw[h40,h41];rfl
      have b40:(L[k].toList==[40])=false:=h40;have b41:(L[k].toList==[41])=false:=h41;clear h40 h41;have hx:0≤(k:Int)∧(k:Int)≤1048576∧0≤o∧o≤1048577:=by omega
      have HS2:Hid ((pre++[(⟨((k:Int),o),hx⟩:Pl)]).map (·.1)++dX L f (k+1) (o)=dX L (L.length+1) i0 0):=by
       show(pre++[(⟨((k:Int),o),hx⟩:Pl)]).map (·.1)++dX L f (k+1) (o)=dX L (L.length+1) i0 0;rw[←HS.out,mZ ⟨hlt,by rw[hG];exact hsg,by rw[hG,hop];omega⟩,hG,hop];simp
      have hpl:pre.length<L.length:=by
       have h1:=tF L (L.length+1) i0 0;rw[←HS2.out]at h1;simp only[List.length_append,List.length_map,List.length_cons]at h1;omega
      obtain⟨fn,tmps,assign,body,hy,hR⟩:=hY pre ⟨((k:Int),o),hx⟩ wr hJ hpl;dsimp only[oR]at hy;have HQ:Hid (bT L[k]=true):=hsg;clear HS hop hsg hG;generalize L[k]=sg at hc hm HQ b40 b41;gi_wp2_with fail;refine⟨trivial,(callsIn_wide.2 (rG sg _ hm)).mono ?_⟩;rintro e w1 ⟨rfl,rfl⟩;rw[HQ.out];gi_wp2;refine hR.mono ?_;rintro e W3 (⟨rfl,hJ3,hk3⟩|⟨rfl,hJx3⟩)
      ·have hcl3:=hk3.2.trans hcl;have hA3:=hAr.R hk3.1;gi_wp2;go_roundw
       case rel=>exact⟨k+1,o,f,_,rfl,by go_num,by omega,by omega,hJ3,hcl3,hA3,by omega,HS2.out⟩
       case measure=>simp[intOf];omega
      ·gi_wp2;refine bodyPost_ret (results_none rfl _ _ _) rfl ?_;exact⟨⟨_,rfl⟩,.inr ⟨_,⟨_,HS2.out⟩,hJx3⟩⟩
     ·have b40:(L[k].toList==[40])=false:=h40;have b41:(L[k].toList==[41])=true:=h41;have hop:eu L[k] o=o-1:=by unfold eu;rw[h40,h41];rfl
      clear h40 h41;by_cases ho:o=0
      ·have HE:=aj (by rw[←HS.out,rC (by rw[hG,hop];omega),List.append_nil]:pre.map (·.1)=dX L (L.length+1) i0 0);have HQ:Hid (bT L[k]=true):=hsg;subst ho;clear HS hsg hG hop;generalize L[k]=sg at hc hm HQ b40 b41;gi_wp2_with fail;refine⟨trivial,(callsIn_wide.2 (rG sg _ hm)).mono ?_⟩;rintro e w1 ⟨rfl,rfl⟩;rw[HQ.out];gi_wp2;refine⟨fun _ h=>(by cases h),?_⟩;gi_wp2;refine bodyPost_ret (results_none rfl _ _ _) rfl ?_;exact⟨⟨_,rfl⟩,.inl ⟨pre,HE.out,hJ⟩⟩
      ·have ho2:1≤o:=by omega
       clear ho;have hx:0≤(k:Int)∧(k:Int)≤1048576∧0≤o-1∧o-1≤1048577:=by omega
       have HS2:Hid ((pre++[(⟨((k:Int),o-1),hx⟩:Pl)]).map (·.1)++dX L f (k+1) (o-1)=dX L (L.length+1) i0 0):=by
        show(pre++[(⟨((k:Int),o-1),hx⟩:Pl)]).map (·.1)++dX L f (k+1) (o-1)=dX L (L.length+1) i0 0;rw[←HS.out,mZ ⟨hlt,by rw[hG];exact hsg,by rw[hG,hop];omega⟩,hG,hop];simp
       have hpl:pre.length<L.length:=by
        have h1:=tF L (L.length+1) i0 0;rw[←HS2.out]at h1;simp only[List.length_append,List.length_map,List.length_cons]at h1;omega
       obtain⟨fn,tmps,assign,body,hy,hR⟩:=hY pre ⟨((k:Int),o-1),hx⟩ wr hJ hpl;dsimp only[oR]at hy;have HQ:Hid (bT L[k]=true):=hsg;clear HS hop hsg hG;generalize L[k]=sg at hc hm HQ b40 b41;gi_wp2_with fail;refine⟨trivial,(callsIn_wide.2 (rG sg _ hm)).mono ?_⟩;rintro e w1 ⟨rfl,rfl⟩;rw[HQ.out];gi_wp2;refine hR.mono ?_;rintro e W3 (⟨rfl,hJ3,hk3⟩|⟨rfl,hJx3⟩)
       ·have hcl3:=hk3.2.trans hcl;have hA3:=hAr.R hk3.1;gi_wp2;go_roundw
        case rel=>exact⟨k+1,o-1,f,_,rfl,by go_num,by omega,by omega,hJ3,hcl3,hA3,by omega,HS2.out⟩
        case measure=>simp[intOf];omega
       ·gi_wp2;refine bodyPost_ret (results_none rfl _ _ _) rfl ?_;exact⟨⟨_,rfl⟩,.inr ⟨_,⟨_,HS2.out⟩,hJx3⟩⟩
    ·have hop:eu L[k] o=o+1:=by unfold eu;rw[h40];rfl
     have b40:(L[k].toList==[40])=true:=h40;have b41:True:=trivial;clear h40;have hx:0≤(k:Int)∧(k:Int)≤1048576∧0≤o+1∧o+1≤1048577:=by omega
     have HS2:Hid ((pre++[(⟨((k:Int),o+1),hx⟩:Pl)]).map (·.1)++dX L f (k+1) (o+1)=dX L (L.length+1) i0 0):=by
      show(pre++[(⟨((k:Int),o+1),hx⟩:Pl)]).map (·.1)++dX L f (k+1) (o+1)=dX L (L.length+1) i0 0;rw[←HS.out,mZ ⟨hlt,by rw[hG];exact hsg,by rw[hG,hop];omega⟩,hG,hop];simp
     have hpl:pre.length<L.length:=by
      have h1:=tF L (L.length+1) i0 0;rw[←HS2.out]at h1;simp only[List.length_append,List.length_map,List.length_cons]at h1;omega
     obtain⟨fn,tmps,assign,body,hy,hR⟩:=hY pre ⟨((k:Int),o+1),hx⟩ wr hJ hpl;dsimp only[oR]at hy;have HQ:Hid (bT L[k]=true):=hsg;clear HS hop hsg hG;generalize L[k]=sg at hc hm HQ b40;gi_wp2_with fail;refine⟨trivial,(callsIn_wide.2 (rG sg _ hm)).mono ?_⟩;rintro e w1 ⟨rfl,rfl⟩;rw[HQ.out];gi_wp2;refine hR.mono ?_;rintro e W3 (⟨rfl,hJ3,hk3⟩|⟨rfl,hJx3⟩)
     ·have hcl3:=hk3.2.trans hcl;have hA3:=hAr.R hk3.1;gi_wp2;go_roundw
      case rel=>exact⟨k+1,o+1,f,_,rfl,by go_num,by omega,by omega,hJ3,hcl3,hA3,by omega,HS2.out⟩
      case measure=>simp[intOf];omega
     ·gi_wp2;refine bodyPost_ret (results_none rfl _ _ _) rfl ?_;exact⟨⟨_,rfl⟩,.inr ⟨_,⟨_,HS2.out⟩,hJx3⟩⟩
  ·have HE:=aj (by rw[←HS.out,rC (fun h=>hlt h.1),List.append_nil]:pre.map (·.1)=dX L (L.length+1) i0 0);clear HS;gi_wp2;refine⟨trivial,?_⟩;gi_wp2;go_end0;exact⟨⟨_,rfl⟩,.inl ⟨pre,HE.out,hJ⟩⟩
theorem Mg(n:Nat)(l ba bl:Nat)(i:Int)(hi:i<0)(J:List Pl→World→Prop)(W:World)(hba:W.cell? ⟨ba,0,none⟩=some (.int .i64 i))(h0:J [] W) :
  CallsIn Fence.wide n prog 174 #[.func (.yield l) #[] #[],.pointer (some ⟨ba,0,none⟩),.pointer (some ⟨bl,0,none⟩)] W fun e W'=>(∃v,e=.returned v)∧J [] W':=by
 refine callsIn_of_wp func174 rfl trivial ?_ rfl;simp only[ntmps174,List.size_toArray,List.length_cons,List.length_nil,Nat.reduceAdd,Nat.reduceSub,Array.replicate_succ,Array.replicate_zero,List.push_toArray,List.append_toArray,List.nil_append,List.cons_append];gi_wp2;gi_loopw [5] (fun v5 wr=>v5=.int .i64 i∧J [] wr) (fun _ _=>0)
 case atStart=>exact⟨rfl,h0⟩
 case round =>
  obtain⟨rfl,hJ⟩:=hrel;gi_wp2;refine⟨trivial,?_⟩;gi_wp2;go_end0;exact⟨⟨_,rfl⟩,hJ⟩
def lC(L:af)(i:Int):List (Int × Int):=if i<0 then []else dX L (L.length+1) i.toNat 0
theorem Mj(n:Nat)(hn:1≤n)(ba bl n0:Nat)(a:Option Addr)(cap:Nat)(L:af)(i:Int)(hL:L.length≤1048576)(w:World)(hba:ba<w.heap.size)(hbl:bl<w.heap.size)(hn0:n0≤w.heap.size)
  (hca:w.cell? ⟨ba,0,none⟩=some (.int .i64 i)) (hcl:w.cell? ⟨bl,0,none⟩=some (.slice a L.length cap)) (hA:jM n0 w a L) :
  SeqStopsK Fence.wide n prog 174 #[.pointer (some ⟨ba,0,none⟩),.pointer (some ⟨bl,0,none⟩)] oR (nl n0 bl) (fun ys=>ys.map (·.1)=lC L i) (fun pre=>pre.map (·.1) <+: lC L i) L.length w:=fun l J Jx W hW _ _ hY h0=>by
 have hca':=(hW.cell (p:=⟨ba,0,none⟩) hba).trans hca;have hcl':=(hW.cell (p:=⟨bl,0,none⟩) hbl).trans hcl;have hA':=hA.R (hW.mono hn0);by_cases hi:i<0
 ·have e:lC L i=[]:=by unfold lC;rw[if_pos hi]
  rw[e];exact(Mg n l ba bl i hi J W hca' h0).mono fun e W' ⟨he,hj⟩=>⟨he,.inl ⟨[],rfl,hj⟩⟩
 ·obtain⟨k,rfl⟩:∃k:Nat,i=(k:Int):=⟨i.toNat,by omega⟩;have e:lC L (k:Int)=dX L (L.length+1) k 0:=by unfold lC;rw[if_neg hi];rfl
  rw[e];exact Mf n hn l ba bl n0 a cap L k hL J Jx hY W hca' hcl' hA' h0
attribute [local go_sem] Oper.semAt_some
theorem Mh(n:Nat)(a:Option Addr)(len cap:Nat)(i:Int)(w:World) :
  CallsIn Fence.wide n prog 139 #[.slice a len cap,.int .i64 i] w fun e w'=>e=.returned (.func (.func 174) #[] #[.pointer (some ⟨w.heap.size+1,0,none⟩),.pointer (some ⟨w.heap.size,0,none⟩)])∧w'=(w.alloc (.cells #[.slice a len cap] 22)).alloc (.cells #[.int .i64 i] 2):=by
 refine callsIn_of_wp func139 rfl trivial ?_ rfl;simp only[ntmps139,List.size_toArray,List.length_cons,List.length_nil,Nat.reduceAdd,Nat.reduceSub,Array.replicate_succ,Array.replicate_zero,List.push_toArray,List.append_toArray,List.nil_append,List.cons_append];gi_wp2;go_ret;exact⟨rfl,rfl⟩
theorem G7{n0 bl:Nat}{A B C:World}(h:nl n0 bl A B)(k:nl n0 bl B C):nl n0 bl A C:=⟨h.1.trans k.1,k.2.trans h.2⟩
theorem G6{n0 bl:Nat}{w:World}(hn:n0≤w.heap.size)(hb:bl<w.heap.size)(W:World)(l:Nat)(o o':Obj)(hl:w.heap.size≤l)(h1:W.heap[l]?=some o)(h2:o.isCells=false)(h3:o.isWalk=false):nl n0 bl W (W.putObj l o'):=by
 refine⟨belowK_b (w:=w) hn W l o o' hl h1 h2 h3,?_⟩;exact World.cell?_of_block (w:=W) (a:=⟨bl,0,none⟩) (World.putObj_heap_other (fun e=>by simp at e;omega))
theorem I6(q:List Pl)(x:Pl)(d:Int):gY (q.map (·.1)++[x].map (·.1)) d=max (gY (q.map (·.1)) d) x.1.2:=BF _ _ _
theorem Bz(L:af)(i:Int):gX L i=ko (lC L i) 0:=by
 unfold gX lC;split
 ·rfl
 ·rfl
theorem IX{L:af}{i:Int}{ys:List Pl}(h:ys.map (·.1)=lC L i)(hne:∀y∈ys,y.1.2≠0):gX L i=(-1,-1):=by
 rw[Bz,←h,←List.append_nil (ys.map (·.1)),uS _ _ _ (fun x hx=>by obtain⟨y,hy,rfl⟩:=List.mem_map.mp hx;exact hne y hy)];rfl
theorem IY{L:af}{i:Int}{q:List Pl}{x:Pl}(h:(q++[x]).map (·.1) <+: lC L i)(hne:∀y∈q,y.1.2≠0)(hx:x.1.2=0):gX L i=(x.1.1+1,gY ((q++[x]).map (·.1)) 0):=by
 obtain⟨r,hr⟩:=h;rw[Bz,←hr,List.map_append,List.append_assoc,uS _ _ _ (fun z hz=>by obtain⟨y,hy,rfl⟩:=List.mem_map.mp hz;exact hne y hy),I6 ];show(if x.1.2=0 then(x.1.1+1,max (gY (q.map (·.1)) 0) x.1.2)else _)=_;rw[if_pos hx]
theorem BE:∀(xs:List (Int × Int)) (d:Int),0≤d→0≤gY xs d
 |[],_,h=>h
 |x::xs,d,h=>BE xs (max d x.2) (by omega)
theorem IZ(a:Option Addr)(cap:Nat)(L:af)(i:Int)(w:World)(h:aD w a L)(hL:L.length≤1048576) :
  CallsIn Fence.wide 3 prog 79 #[.slice a L.length cap,.int .i64 i] w (aA (.tuple #[.int .i64 (gX L i).1,.int .i64 (gX L i).2]) w):=by
 have h1:1≤3:=by omega
 refine callsIn_of_wp_marks func79 rfl trivial ?_ rfl;simp only[ntmps79,List.size_toArray,List.length_cons,List.length_nil,Nat.reduceAdd,Nat.reduceSub,Array.replicate_succ,Array.replicate_zero,List.push_toArray,List.append_toArray,List.nil_append,List.cons_append];gi_wp2_with (refine⟨trivial,?_⟩;gi_at_call 139;refine(Mh _ _ _ _ _ _).mono ?_;rintro e w' ⟨rfl,rfl⟩);obtain⟨W0,hW0⟩:∃W0,W0=(((((w.alloc (.cells #[.int .i64 0] 2)).alloc (.cells #[.int .i64 0] 2)).alloc (.cells #[.int .i64 0] 2)).alloc (.cells #[.slice a L.length cap] 22)).alloc (.cells #[.int .i64 i] 2)):=⟨_,rfl⟩;have hB0:ai w W0:=by rw[hW0];exact ay (ay (ay (ay (ay (Below.refl _ _) _) _) _) _) _
 have hsz:W0.heap.size=w.heap.size+1+1+1+1+1:=by rw[hW0];simp
 have c0:W0.cell? ⟨w.heap.size,0,none⟩=some (.int .i64 0)∧W0.frozen? ⟨w.heap.size,0,none⟩=false:=by rw[hW0];constructor<;>simp[go_sem]
 have c1:W0.cell? ⟨w.heap.size+1,0,none⟩=some (.int .i64 0)∧W0.frozen? ⟨w.heap.size+1,0,none⟩=false:=by rw[hW0];constructor<;>simp[go_sem]
 have c2:W0.cell? ⟨w.heap.size+1+1,0,none⟩=some (.int .i64 0)∧W0.frozen? ⟨w.heap.size+1+1,0,none⟩=false:=by rw[hW0];constructor<;>simp[go_sem]
 have c3:W0.cell? ⟨w.heap.size+1+1+1,0,none⟩=some (.slice a L.length cap):=by rw[hW0];simp[go_sem]
 have c4:W0.cell? ⟨w.heap.size+1+1+1+1,0,none⟩=some (.int .i64 i):=by rw[hW0];simp[go_sem]
 rw[←hW0];clear hW0
 refine wpIn_rangeFunc_ownF rfl h1 (gf:=174) (lb:=#[.pointer (some ⟨w.heap.size+1+1+1+1,0,none⟩),.pointer (some ⟨w.heap.size+1+1+1,0,none⟩)]) rfl trivial (enters_of func174 (by kernel_rfl) rfl)
  (Mj 2 (by omega) (w.heap.size+1+1+1+1) (w.heap.size+1+1+1) w.heap.size a cap L i hL W0 (by omega) (by omega) (by omega) c4 c3 (h.low.R hB0)) G7 (G6 (by omega) (by omega)) (Below.refl _ _) (fun _=>rfl)
  (fun pre W=>((∀y∈pre,y.1.2≠0)∧W.cell? ⟨w.heap.size,0,none⟩=some (.int .i64 0)∧W.frozen? ⟨w.heap.size,0,none⟩=false∧W.cell? ⟨w.heap.size+1,0,none⟩=some (.int .i64 0)∧W.frozen? ⟨w.heap.size+1,0,none⟩=false∧W.cell? ⟨w.heap.size+1+1,0,none⟩=some (.int .i64 (gY (pre.map (·.1)) 0))∧W.frozen? ⟨w.heap.size+1+1,0,none⟩=false)∧ai w W)
  (fun c pre W=>(c=.ret∧(∃q x,pre=q++[x]∧(∀y∈q,y.1.2≠0)∧x.1.2=0∧W.cell? ⟨w.heap.size,0,none⟩=some (.int .i64 (x.1.1+1))∧W.cell? ⟨w.heap.size+1,0,none⟩=some (.int .i64 (gY (pre.map (·.1)) 0))))∧ai w W)
  (OwnFrom.and (Own.from (fun s A B row hs hg hr=>⟨hs.1,cell_kept hs.2.1 hg hr,(frozen_kept hs.2.1 hg hr).trans hs.2.2.1,cell_kept hs.2.2.2.1 hg hr,(frozen_kept hs.2.2.2.1 hg hr).trans hs.2.2.2.2.1,cell_kept hs.2.2.2.2.2.1 hg hr,(frozen_kept hs.2.2.2.2.2.1 hg hr).trans hs.2.2.2.2.2.2⟩) _) (ownFrom_below (Nat.le_refl _) (by omega)))
  (fun c=>OwnFrom.and (Own.from (fun s A B row hs hg hr=>⟨hs.1,by obtain⟨q,x,h1,h2,h3,h4,h5⟩:=hs.2;exact⟨q,x,h1,h2,h3,cell_kept h4 hg hr,cell_kept h5 hg hr⟩⟩) _) (ownFrom_below (Nat.le_refl _) (by omega)))
  ⟨⟨by simp,c0.1,c0.2,c1.1,c1.2,c2.1,c2.2⟩,hB0⟩
  (fun x=>{ tmps:=#[.slice a L.length cap,.int .i64 i,undef,undef,.pointer (some ⟨w.heap.size,0,none⟩),.pointer (some ⟨w.heap.size+1,0,none⟩),.pointer (some ⟨w.heap.size+1+1,0,none⟩),.int .i64 x.1.1,.int .i64 x.1.2,.slice a L.length cap,.int .i64 i,.func (.func 174) #[] #[.pointer (some ⟨w.heap.size+1+1+1+1,0,none⟩),.pointer (some ⟨w.heap.size+1+1+1,0,none⟩)],.int .i64 x.1.1,.int .i64 x.1.2,undef,undef,undef,undef,undef,undef,undef,undef],defers:=[] }) ?assign ?body ?done ?stop
 case assign =>
  intro l x W K hK;simp only[oR];gi_wp2;exact hK
 case body =>
  rintro l pre x W ⟨⟨hp,d0,f0,d1,f1,d2,f2⟩,hB⟩ _;obtain⟨⟨px,ox⟩,hx0,hx1,hx2,hx3⟩:=x;simp only at hx0 hx1 hx2 hx3;have HM:Hid (gY ((pre++[(⟨(px,ox),⟨hx0,hx1,hx2,hx3⟩⟩:Pl)]).map (·.1)) 0=max (gY (pre.map (·.1)) 0) ox):=by
   show gY ((pre++[(⟨(px,ox),⟨hx0,hx1,hx2,hx3⟩⟩:Pl)]).map (·.1)) 0=max (gY (pre.map (·.1)) 0) ox;rw[List.map_append];exact BF _ _ _
  have hD0:=BE (pre.map (·.1)) 0 (Int.le_refl _);generalize gY (pre.map (·.1)) 0=D at d2 HM hD0;have hmix:Tryz.prog.follows .mixedOrders=true:=by kernel_rfl
  simp only;by_cases hz:ox=0
  ·subst hz;have HM2:Hid (gY ((pre++[(⟨(px,0),⟨hx0,hx1,hx2,hx3⟩⟩:Pl)]).map (·.1)) 0=D):=HM.out.trans (by omega);clear HM;have hwr:IntKind.i64.wrap (px+1)=px+1:=by rw[IntKind.wrap_i64];omega
   gi_wp2;all_goals gi_region_with_o (fail)
   all_goals gi_wp2
   all_goals refine⟨(((KeepsOthers.setCell _ _ _).trans (KeepsOthers.setCell _ _ _)).trans (KeepsOthers.setCell _ _ _)).trans (KeepsOthers.drew _),⟨rfl,pre,_,rfl,hp,rfl,?_,?_⟩,(((hB.setCell (by simp<;>omega) _).setCell (by simp<;>omega) _).setCell (by simp<;>omega) _).drew⟩
   all_goals first|(rw[HM2.out];simp[go_sem,d1];done)|(simp[go_sem,d0];done)
  ·have bz:(ox==0)=false:=by simpa using hz
   have hall:∀y∈pre++[(⟨(px,ox),⟨hx0,hx1,hx2,hx3⟩⟩:Pl)],y.1.2≠0:=fun y hy=>by
    rcases List.mem_append.mp hy with hy|hy
    ·exact hp y hy
    ·rw[List.mem_singleton]at hy;rw[hy];exact hz
   have HA:=aj hall;clear hall;have hkp:∀v,nl w.heap.size (w.heap.size+1+1+1) W (W.setCell ⟨w.heap.size+1+1,0,none⟩ v):=fun v=>⟨(Below.refl _ _).setCell (p:=⟨w.heap.size+1+1,0,none⟩) (by simp;omega) v,by simp[go_sem]⟩
   gi_wp2;all_goals refine⟨KeepsOthers.setCell _ _ _,hkp _,⟨?_,?_,?_,?_,?_,?_,?_⟩,hB.setCell (p:=⟨w.heap.size+1+1,0,none⟩) (by simp;omega) _⟩
   all_goals first|exact HA.out|exact fun y z b hm=>HA.out ⟨(y,z),b⟩ hm|(rw[HM.out];simp[go_sem,d2];omega)|(simp[go_sem,d0];done)|(simp[go_sem,d1];done)|(simp[go_sem,f0];done)|(simp[go_sem,f1];done)|(simp[go_sem,f2];done)
 case done =>
  rintro D ys W hD hys ⟨⟨hne,d0,f0,d1,f1,d2,f2⟩,hB⟩ hK;have HZ:Hid (gX L i=(-1,-1)):=IX hys hne;gi_wp2;have hK':=((KeepsOthers.setCell W ⟨w.heap.size,0,none⟩ (.int .i64 (-1))).trans (KeepsOthers.setCell _ ⟨w.heap.size+1,0,none⟩ (.int .i64 (-1)))).same D _ hK rfl;refine⟨by simp,.inl ⟨_,_,rfl,run_takeDeferred hK',?_⟩⟩;have e0:((W.setCell ⟨w.heap.size,0,none⟩ (.int .i64 (-1))).setCell ⟨w.heap.size+1,0,none⟩ (.int .i64 (-1))).cell? ⟨w.heap.size,0,none⟩=some (.int .i64 (-1)):=by simp[go_sem,d0]
  have e1:((W.setCell ⟨w.heap.size,0,none⟩ (.int .i64 (-1))).setCell ⟨w.heap.size+1,0,none⟩ (.int .i64 (-1))).cell? ⟨w.heap.size+1,0,none⟩=some (.int .i64 (-1)):=by simp[go_sem,d1]
  have q0:=cell_kept e0 (grownBy_putObj' _ D (.deferred none)) (fun r e=>by cases e;exact⟨_,hK',rfl⟩);have q1:=cell_kept e1 (grownBy_putObj' _ D (.deferred none)) (fun r e=>by cases e;exact⟨_,hK',rfl⟩);refine⟨.tuple #[.int .i64 (-1),.int .i64 (-1)],?_,by rw[HZ.out],((hB.setCell (p:=⟨w.heap.size,0,none⟩) (by simp) _).setCell (p:=⟨w.heap.size+1,0,none⟩) (by simp) _).trans (belowK_b (w:=w) (Nat.le_refl _) _ D _ _ (by omega) hK' rfl rfl)⟩;simp[results,Tryz.results79,go_sem,q0,q1]
 case stop =>
  rintro D c pre W hD hpre ⟨⟨rfl,q,x,rfl,hq,hx,d0,d1⟩,hB⟩ hK;have HZ:Hid (gX L i=(x.1.1+1,gY ((q++[x]).map (·.1)) 0)):=IY hpre hq hx;generalize gY ((q++[x]).map (·.1)) 0=T at d1 HZ;gi_wp2;refine⟨by simp,.inl ⟨_,_,rfl,run_takeDeferred hK,?_⟩⟩;have q0:=cell_kept d0 (grownBy_putObj' _ D (.deferred none)) (fun r e=>by cases e;exact⟨_,hK,rfl⟩);have q1:=cell_kept d1 (grownBy_putObj' _ D (.deferred none)) (fun r e=>by cases e;exact⟨_,hK,rfl⟩);refine⟨.tuple #[.int .i64 (x.1.1+1),.int .i64 T],?_,by rw[HZ.out],hB.trans (belowK_b (w:=w) (Nat.le_refl _) W D _ _ (by omega) hK rfl rfl)⟩;simp[results,Tryz.results79,go_sem,q0,q1]
theorem BA(a:Option Addr)(cap:Nat)(L:af)(i:Int)(w:World)(h:aD w a L)(hL:L.length≤1048576) :
  ah 79 #[.slice a L.length cap,.int .i64 i] w (aA (.tuple #[.int .i64 (gX L i).1,.int .i64 (gX L i).2]) w) :=
 callsIn_wide.1 (IZ a cap L i w h hL)
attribute [local go_sem] Oper.semAt_some
theorem nO(a:Option Addr)(cap:Nat)(L:af)(i:Int)(w:World)(h:aD w a L)(hL:L.length≤1048576)(hs:bQ L=true) :
  ah 44 #[.slice a L.length cap,.int .i64 i] w (aA (.int .i64 (ag L i)) w):=by
 obtain⟨m1,m2,hM⟩:∃m1 m2,gX L i=(m1,m2):=⟨_,_,rfl⟩;have HE:=aj (by rw[←IW hs i,hM]:ag L i=m1);have HM:=aj hM;clear hM;rw[HE.out];go_enter func44,ntmps44;go_wp2_with fail;refine(BA a cap L i _ h hL).mono ?_;rintro e w1 ⟨rfl,hb1⟩;rw[HM.out];go_wp2;go_ret;exact⟨rfl,hb1⟩
def qt(x:Int):Array Value:=#[.int .i64 x]
def oG(n0 bl:Nat)(A B:World):Prop:=Below n0 A B∧B.heap[bl]?=A.heap[bl]?
theorem jM.arg{n0:Nat}{W:World}{a:Option Addr}{L:af}(h:jM n0 W a L)(hz:n0≤W.heap.size):aD W a L:=fun i hi=>by
 obtain⟨sb,off,ha,hs,hc,hm⟩:=h i hi;exact⟨sb,off,ha,by omega,hc,hm⟩
theorem xM{α:Type}{B0:Nat}{J:List α→World→Prop}(hJ:AbidesFrom B0 J){s:List α}{A B:World}(h:J s A)(hb:ai A B):J s B:=hJ s A B none h ⟨hb.os,hb.tape,hb.output,hb.size,fun k hk _=>hb.block k hk⟩ (fun r e=>by cases e)
theorem GY(n:Nat)(hn:1≤n)(l ba bl n0 B0:Nat)(a:Option Addr)(cap:Nat)(L:af)(i e:Int)(k:Nat)(hL:L.length≤1048576)(hsg:bQ L=true)(hch:bd L k i e)(he0:0≤e)(he:ag L e=-1)(J Jx:List Int→World→Prop)(hJ:AbidesFrom B0 J)
  (hY:∀pre x W,J pre W→pre.length<k→YieldAt Fence.wide (n-1) prog l (qt x) W fun e W' =>
   (e=.returned (.bool true)∧J (pre++[x]) W'∧oG n0 bl W W')∨(e=.returned (.bool false)∧Jx (pre++[x]) W'))
  (W:World) (hba:W.cell? ⟨ba,0,none⟩=some (.int .i64 i)) (hbl:W.cell? ⟨bl,0,none⟩=some (.slice a L.length cap)) (haz:ba<W.heap.size) (hlz:bl<W.heap.size) (hA:jM n0 W a L) (hnz:n0≤W.heap.size) (h0:J [] W) :
  CallsIn Fence.wide n prog 159 #[.func (.yield l) #[] #[],.pointer (some ⟨ba,0,none⟩),.pointer (some ⟨bl,0,none⟩)] W fun e W'=>(∃v,e=.returned v) ∧
   ((∃ys:List Int,ys=ar L k i∧J ys W')∨(∃pre:List Int,pre <+: ar L k i∧Jx pre W')):=by
 refine callsIn_of_wp func159 rfl trivial ?_ rfl;simp only[ntmps159,List.size_toArray,List.length_cons,List.length_nil,Nat.reduceAdd,Nat.reduceSub,Array.replicate_succ,Array.replicate_zero,List.push_toArray,List.append_toArray,List.nil_append,List.cons_append];have hAT:aD W.drew a L:=hA.arg hnz;have hmix:Tryz.prog.follows .mixedOrders=true:=by kernel_rfl
 gi_wp2;gi_region_with_o (refine⟨trivial,?_⟩;gi_at_call 44;refine(callsIn_wide.2 (nO a cap L i _ hAT hL hsg)).mono ?_;rintro e w1 ⟨rfl,hb1⟩;have q1:=(hb1.cell (p:=⟨ba,0,none⟩) haz).trans hba;have q2:=(hb1.cell (p:=⟨bl,0,none⟩) hlz).trans hbl)
 all_goals
  have hJ1:=xM hJ h0 (B:=w1) ⟨hb1.os,hb1.tape,hb1.output,hb1.size,hb1.block⟩
  have hA1:jM n0 w1 a L:=hA.R ⟨hb1.os,hb1.tape,hb1.output,hb1.size,fun k hk=>hb1.block k (Nat.lt_of_lt_of_le hk hnz)⟩
  have hl1:bl<w1.heap.size:=Nat.lt_of_lt_of_le hlz hb1.size
  have hn1:n0≤w1.heap.size:=Nat.le_trans hnz hb1.size
  clear hb1 q1
  go_simp
  gi_wp2
  gi_loopw [4,5] (fun v4 v5 wr=>∃(x:Int) (m:Nat) (pre:List Int),v4=.int .i64 x∧v5=.int .i64 (ag L x)∧bd L m x e∧J pre wr∧wr.cell? ⟨bl,0,none⟩=some (.slice a L.length cap)∧bl<wr.heap.size∧jM n0 wr a L∧n0≤wr.heap.size∧pre.length+m=k∧Hid (pre++ar L m x=ar L k i)) (fun v4 _ _=>(e-intOf v4).toNat)
  case atStart=>exact⟨i,k,[],rfl,rfl,hch,hJ1,q2,hl1,hA1,hn1,by simp,rfl⟩
  case round =>
   clear hJ1 hA1 hl1 hn1 q2 hba hbl hA hAT haz hlz hnz h0;obtain⟨x,m,pre,rfl,rfl,hm,hJr,hcl,hlr,hAr,hnr,hpl,HP⟩:=hrel;have hxe:=bK m x hm he0;cases m with
   |zero =>
    have ex:x=e:=hm;have HE:=aj (by rw[←HP.out];exact(List.append_nil _).symm:pre=ar L k i);have hz:ag L x=-1:=by rw[ex];exact he
    rw[hz];clear hz HP;gi_wp2;refine⟨fun _ h=>(by cases h),?_⟩;gi_wp2;go_end0;exact⟨⟨_,rfl⟩,.inl ⟨pre,HE.out,hJr⟩⟩
   |succ m =>
    obtain⟨hz,hm2⟩:=hm;have hup:=cZ hz;have HP2:=aj (by rw[←HP.out,List.append_assoc];rfl:(pre++[x])++ar L m (ag L x)=ar L k i);have HPX:Hid ((pre++[x]) <+: ar L k i):=⟨_,HP2.out⟩;clear HP;obtain⟨fn,tmps,assign,body,hy,hR⟩:=hY pre x wr hJr (by omega);dsimp only[qt]at hy;have hxe2:=bK m _ hm2 he0;generalize ag L x=z at hz hm2 hup HP2 hxe2;gi_wp2;refine hR.mono ?_;rintro e W3 (⟨rfl,hJ3,hk3⟩|⟨rfl,hJx3⟩)
    ·have hcl3:W3.cell? ⟨bl,0,none⟩=some (.slice a L.length cap):=(World.cell?_of_block (w:=wr) (a:=⟨bl,0,none⟩) hk3.2).trans hcl;have hA3:=hAr.R hk3.1;have hl3:bl<W3.heap.size:=Nat.lt_of_lt_of_le hlr hk3.1.size;have hn3:n0≤W3.heap.size:=Nat.le_trans hnr hk3.1.size;clear hy hR hY hk3 hcl hlr hAr hnr hJr;gi_wp2_with fail;refine⟨trivial,(callsIn_wide.2 (nO a cap L z _ (hA3.arg hn3) hL hsg)).mono ?_⟩;rintro e w4 ⟨rfl,hb4⟩;have hJ4:=xM hJ hJ3 hb4;have hcl4:=(hb4.cell (p:=⟨bl,0,none⟩) hl3).trans hcl3;have hA4:=hA3.R (hb4.mono hn3);have hl4:bl<w4.heap.size:=Nat.lt_of_lt_of_le hl3 hb4.size;have hn4:n0≤w4.heap.size:=Nat.le_trans hn3 hb4.size;gi_wp2;go_roundw
     case rel=>exact⟨z,m,_,rfl,rfl,hm2,hJ4,hcl4,hl4,hA4,hn4,by simp;omega,HP2.out⟩
     case measure=>simp[intOf];omega
    ·gi_wp2;go_end0;exact⟨⟨_,rfl⟩,.inr ⟨_,HPX.out,hJx3⟩⟩
end Go.Proofs.YtdojfommmpnbgaaGreatDoor
