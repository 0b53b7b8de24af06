import Derived.Test.YtdojfommmpnbgaaGreatDoorKAU
import Derived.Test.YtdojfommmpnbgaaGreatDoorKAO
import Derived.Test.YtdojfommmpnbgaaGreatDoorKAK
set_option maxHeartbeats 8000000
namespace Go.Proofs.YtdojfommmpnbgaaGreatDoor
open Go.RowKit Go.Proofs.Tryz
attribute [local go_sem] yF
theorem eW.but{c:Nat}{w w':World}{g:Nat}{L:af}(h:eW w g L)(hb:az c w w')(hn:g≠c):eW w' g L :=
 ⟨Nat.lt_of_lt_of_le h.1 hb.2.2.2.1,fun i hi=>⟨(hb.cell g i h.1 hn).trans (h.2 i hi).1,(hb.frozen g i h.1 hn).trans (h.2 i hi).2⟩⟩
def rP(w:World)(B:Nat)(v:Value)(L:af):Prop:=(L=[]∧∃a cap,v=.slice a 0 cap)∨(L≠[]∧∃g cap,v=.slice (some ⟨g,0,none⟩) L.length cap∧B≤g∧eW w g L)
theorem dq.is{w:World}{B:Nat}{v:Value}{L:af}(h:dq w B v L):rP w B v L:=by
 by_cases hL:L=[]
 ·subst hL;obtain⟨a,cap,rfl⟩:=h.shape;exact Or.inl ⟨rfl,a,cap,rfl⟩
 ·right;refine⟨hL,?_⟩;rcases h.2 with⟨_,hn⟩|⟨g,cap,cur,rfl,hB,hg,hcap,hmax,hsz,htake⟩
  ·exact absurd (List.length_eq_zero_iff.mp hn) hL
  ·refine⟨g,cap,rfl,hB,(Array.getElem?_eq_some_iff.1 hg).1,fun i hi=>?_⟩;have hi':i<cur.size:=by omega
   have e:cur[i]=.string L[i]:=by
    have h1:(cur.toList.take (L.length*1))[i]?=(L.map Value.string)[i]?:=by rw[htake]
    rw[List.getElem?_take_of_lt (by omega)]at h1;simp[hi,hi']at h1;exact h1
   refine⟨?_,?_⟩
   ·simp[World.cell?,hg,hi',e]
   ·simp[World.frozen?,hg]
theorem uP(B B':Nat)(v v':Value)(L:af)(w:World)(h:rP w B v L)(h':rP w B' v' L)(hL:L.length≤1048576) :
  ah 8 #[v,v'] w (aA (.bool true) w):=by
 rcases h with⟨rfl,a,cap,rfl⟩|⟨hne,g,cap,rfl,_,hg,hrow⟩
 ·rcases h' with⟨_,a',cap',rfl⟩|⟨hne,_⟩
  ·go_enter func8,ntmps8;go_wp2;refine wp_loop_rounds 1 ?_;rw[rounds_succ];go_wp2;go_ret;exact⟨rfl,Below.refl _ _⟩
  ·exact absurd rfl hne
 ·rcases h' with⟨rfl,_⟩|⟨_,g',cap',rfl,_,hg',hrow'⟩
  ·exact absurd rfl hne
  go_enter func8,ntmps8;go_wp2;go_loopw [5] (fun i wr=>∃k:Nat,k≤L.length∧i=.int .i64 (k:Int)∧ai w wr) (fun i _=>L.length-(intOf i).toNat)
  case atStart=>exact⟨0,Nat.zero_le _,rfl,Below.refl _ _⟩
  case round =>
   obtain⟨k,hk,rfl,hB⟩:=hrel;by_cases hlt:k<L.length
   ·have c1:=(hB.cell (p:=⟨g,k,none⟩) hg).trans (hrow k hlt).1;have c2:=(hB.cell (p:=⟨g',k,none⟩) hg').trans (hrow' k hlt).1;generalize L[k]=t at c1 c2;go_wp2;go_quiet (fail);go_wp2;go_roundw
    case rel=>exact⟨k+1,by omega,by go_num,⟨hB.os,hB.tape,hB.output,hB.size,hB.block⟩⟩
    case measure=>simp[intOf];omega
   ·go_wp2;go_ret;exact⟨rfl,hB⟩
def kS(m:Nat):ByteArray:=⟨(109::Lib.decDigits m).toArray⟩
theorem Bv(m:Nat)(w:World)(h1:1≤m)(h2:m≤999999999) :
  ah 24 #[.int .i64 m] w (aA (.string (kS m)) w):=by
 have h0:¬(m:Int)≤0:=by omega
 go_enter func24,ntmps24;go_wp2;go_loopw [0,3] (fun v0 v3 wr=>∃(m':Nat) (suf:List UInt8),v0=.int .i64 (m':Int)∧v3=.string ⟨suf.toArray⟩∧m'≤m∧jO m m' suf∧(suf=[]→1≤m')∧ai w wr) (fun v0 _ _=>(intOf v0).toNat)
 case atStart=>exact⟨m,[],rfl,rfl,Nat.le_refl _,by simp[jO],fun _=>h1,Below.refl _ _⟩
 case round =>
  obtain⟨m',suf,rfl,rfl,hle,hp,hsuf,hbl⟩:=hrel;cases suf with
  |nil =>
   have hpos:=hsuf rfl;clear hsuf;go_wp2;refine⟨⟨m'/10,[48+UInt8.ofNat (m'%10)],by go_num,by rw[qb],by omega,oP hp (.inl rfl),(fun h=>by cases h),ay hbl _⟩,?_⟩;simp[intOf];omega
  |cons b r =>
   clear hsuf;have hl:¬9223372036854775807<1+(r.length+1):=by
    have:=uI hp;simp only[List.length_cons]at this;omega
   by_cases hz:m'=0
   ·subst hz;go_wp2;go_ret;exact⟨by unfold kS;rw[←uH hp,←lO];rfl,hbl⟩
   ·go_wp2;refine⟨⟨m'/10,(48+UInt8.ofNat (m'%10))::b::r,by go_num,by rw[lO],by omega,oP hp (.inr hz),(fun h=>by cases h),ay hbl _⟩,?_⟩;simp[intOf];omega
def lZ(n:Nat):af:=(List.range n).map fun i=>kS (1+i)
theorem Bx(n:Nat):(lZ n).length=n:=by simp[lZ]
theorem Bw(n i:Nat)(h:i<(lZ n).length):(lZ n)[i]=kS (1+i):=by simp[lZ]
def mw(w:World)(g:Nat)(L:af)(j:Nat):Prop:=g<w.heap.size∧∀i (_:i<L.length),(∃x,w.cell? ⟨g,i,none⟩=some (.string x)∧(i<j→x=kS (1+i)))∧w.frozen? ⟨g,i,none⟩=false
theorem mw.call{w w':World}{g j:Nat}{L:af}(h:mw w g L j)(hb:ai w w'):mw w' g L j :=
 ⟨Nat.lt_of_lt_of_le h.1 hb.size,fun i hi=>⟨by
  obtain⟨⟨x,hx,hm⟩,_⟩:=h.2 i hi;exact⟨x,(hb.cell (p:=⟨g,i,none⟩) h.1).trans hx,hm⟩,(hb.frozen (p:=⟨g,i,none⟩) h.1).trans (h.2 i hi).2⟩⟩
theorem Gb{w:World}{g:Nat}{L:af}(h:eW w g L):mw w g L 0:=⟨h.1,fun i hi=>⟨⟨_,(h.2 i hi).1,fun h=>by omega⟩,(h.2 i hi).2⟩⟩
theorem Ga{w:World}{g j:Nat}{L:af}(h:mw w g L j)(hj:j<L.length):mw (w.setCell ⟨g,j,none⟩ (.string (kS (1+j)))) g L (j+1):=by
 refine⟨by simpa[World.setCell]using h.1,fun i hi=>⟨?_,?_⟩⟩
 ·obtain⟨⟨x,hx,hm⟩,_⟩:=h.2 i hi;by_cases e:i=j
  ·subst e;exact⟨_,World.cell?_setCell_same w _ _ hx,fun _=>rfl⟩
  ·refine⟨x,(World.cell?_setCell_other w ⟨g,j,none⟩ ⟨g,i,none⟩ _ (fun hh=>e (by injection hh with _ h2 _;exact h2.symm))).trans hx,fun hlt=>hm (by omega)⟩
 ·have:=(h.2 i hi).2;simpa[go_sem]using this
theorem F9{w:World}{g:Nat}{L:af}(h:mw w g L L.length):eW w g (lZ L.length) :=
 ⟨h.1,fun i hi=>by
  rw[Bw];rw[Bx]at hi;obtain⟨⟨x,hx,hm⟩,hf⟩:=h.2 i hi;rw[hm hi]at hx;exact⟨hx,hf⟩⟩
theorem Bu(g cap:Nat)(L:af)(w:World)(h:eW w g L)(hL:L.length≤1048576) :
  ah 9 #[.slice (some ⟨g,0,none⟩) L.length cap,.int .i64 1] w fun e w'=>e=.returned (.int .i64 (1+(L.length:Int)))∧az g w w'∧eW w' g (lZ L.length):=by
 go_enter func9,ntmps9;go_wp2;go_loopw [1,5] (fun q i wr=>∃j:Nat,j≤L.length∧i=.int .i64 (j:Int)∧q=.int .i64 (1+(j:Int))∧az g w wr∧mw wr g L j) (fun _ i _=>L.length-(intOf i).toNat)
 case atStart=>exact⟨0,Nat.zero_le _,rfl,rfl,az.refl _ _,Gb h⟩
 case round =>
  obtain⟨j,hj,rfl,rfl,hB,hH⟩:=hrel;by_cases hlt:j<L.length
  ·go_wp2_with fail;refine(Bv (1+j) _ (by omega) (by omega)).mono ?_;rintro e w1 ⟨rfl,hb⟩;replace hB:=hB.call (az.j (c:=g) hb);replace hH:=hH.call hb;obtain⟨⟨x,hx,_⟩,hfz⟩:=hH.2 j hlt;generalize hmk:kS (1+j)=mk;have HM:=aj hmk;clear hmk hb;go_wp2;go_roundw
   case rel=>exact⟨j+1,by omega,by go_num,by go_num,hB.setCur _ _,by have:=Ga hH hlt;rw[HM.out]at this;exact this⟩
   case measure=>simp[intOf];omega
  ·have ej:j=L.length:=by omega
   subst ej;go_wp2;go_ret;exact⟨rfl,hB,F9 hH⟩
def lI(B:Nat)(w0:World)(g k:Nat)(t:ByteArray)(x:World):Prop:=x.cell? ⟨g,k,none⟩=some (.string t)∧g<x.heap.size∧Below B w0 x
theorem lI.call{B g k:Nat}{w0 W w1:World}{t:ByteArray}(h:lI B w0 g k t W)(hBW:B≤W.heap.size)(hb:ai W w1):lI B w0 g k t w1 :=
 ⟨(hb.cell (p:=⟨g,k,none⟩) h.2.1).trans h.1,Nat.lt_of_lt_of_le h.2.1 hb.size,h.2.2.trans (hb.mono hBW)⟩
theorem lI.drew{B g k:Nat}{w0 W:World}{t:ByteArray}(h:lI B w0 g k t W):lI B w0 g k t W.drew:=⟨h.1,h.2.1,h.2.2.drew⟩
theorem Al(g cap n:Nat)(w:World)(h:eW w g (lZ n))(hn:n≤1048576) :
  ah 10 #[.slice (some ⟨g,0,none⟩) n cap,.int .i64 1] w (aA (.int .i64 (1+(n:Int))) w):=by
 obtain⟨hg,hrow0⟩:=h;have hrow:∀i,i<n→w.cell? ⟨g,i,none⟩=some (.string (kS (1+i))):=fun i hi=>by
  have hi':i<(lZ n).length:=by rw[Bx];exact hi
  have h1:=(hrow0 i hi').1;rwa [Bw n i hi']at h1
 clear hrow0;go_enter func10,ntmps10;go_wp2;go_loopw [1,5] (fun q i wr=>∃j:Nat,j≤n∧i=.int .i64 (j:Int)∧q=.int .i64 (1+(j:Int))∧ai w wr) (fun _ i _=>n-(intOf i).toNat)
 case atStart=>exact⟨0,Nat.zero_le _,rfl,rfl,Below.refl _ _⟩
 case round =>
  obtain⟨j,hj,rfl,rfl,hB⟩:=hrel;by_cases hlt:j<n
  ·have c1:=(hB.cell (p:=⟨g,j,none⟩) hg).trans (hrow j hlt);have hsz:=hB.size;have hT:lI w.heap.size w g j (kS (1+j)) wr:=⟨c1,by omega,hB⟩;clear c1;go_upto_region 4 with fail
   go_region_held3 (fun x=>x.cell? ⟨g,j,none⟩=some (.string (kS (1+j)))∧g<x.heap.size∧ai w x)
    ((show lI w.heap.size w g j (kS (1+j)) _;first|(with_reducible exact hT3)|(with_reducible exact hT.drew)))
    (first
     |(go_at_call 24;refine(Bv (1+j) _ (by omega) (by omega)).mono ?_;rintro e w3 ⟨rfl,hb3⟩;have hT3:=lI.call hT.drew hsz hb3))
   all_goals
    go_wp2
    go_roundw
    case rel=>exact⟨j+1,by omega,by go_num,by go_num,hT3.2.2⟩
    case measure=>simp[intOf];omega
  ·have ej:j=n:=by omega
   subst ej;go_wp2;go_ret;exact⟨rfl,hB⟩
def a8(w:World)(B:Nat)(v:Value)(L:af):Prop:=dq w B v L∧v≠.slice none 0 0
abbrev kf(X:af)(w:World)(e:Ending)(w':World):Prop:=∃v,e=.returned v∧a8 w' w.heap.size v X∧Below w.heap.size w w'
theorem a8.call{w w':World}{B:Nat}{v:Value}{L:af}(h:a8 w B v L)(hb:ai w w'):a8 w' B v L:=⟨h.1.call hb,h.2⟩
theorem a8.shape{w:World}{B:Nat}{v:Value}{L:af}(h:a8 w B v L):∃g cap,v=.slice (some ⟨g,0,none⟩) L.length cap:=by
 rcases h.1.2 with⟨hv,_⟩|⟨g,cap,cur,hv,_⟩
 ·exact absurd hv h.2
 ·exact⟨g,cap,hv⟩
theorem oe(w:World)(B:Nat)(h:B≤w.heap.size):a8 (w.alloc (.cells #[] 9)) B (.slice (some ⟨w.heap.size,0,none⟩) 0 0) []:=⟨Ki w B h,fun h=>by cases h⟩
theorem a8.cells{w:World}{B g n cap:Nat}{L:af}(h:a8 w B (.slice (some ⟨g,0,none⟩) n cap) L):∀j u,(L.map Value.string)[j]?=some u→w.cell? ((⟨g,0,none⟩:Addr).add j)=some u:=fun j u hu=>World.ownsRow.cells (w:=w) h.1 (g:=g) rfl j u hu
theorem mc{w:World}{B B':Nat}{v:Value}{L:af}(h:dq w B v L)(hb:B'≤B):dq w B' v L:=by
 refine⟨h.1,?_⟩;rcases h.2 with hn|⟨g,cap,cur,rfl,hB,rest⟩
 ·exact .inl hn
 ·exact .inr ⟨g,cap,cur,rfl,Nat.le_trans hb hB,rest⟩
def aG(w:World)(B:Nat)(g n cp:Nat)(X:af):Prop:=w.ownsRow B 9 1 (.slice (some ⟨g,0,none⟩) n cp) n (X.map Value.string)
theorem aG.row{w:World}{B g n cp:Nat}{X:af}(h:aG w B g n cp X):eW w g X∧B≤g:=by
 have hl:=World.ownsRow.lt h g rfl;refine⟨⟨hl.2,fun i hi=>⟨?_,World.ownsRow.frozenAt h i⟩⟩,hl.1⟩;have hc:=World.ownsRow.cells h (g:=g) rfl i (.string X[i]) (by simp[hi]);have hadd:(⟨g,0,none⟩:Addr).add i=⟨g,i,none⟩:=by unfold Addr.add;split<;>simp_all
 rwa [hadd]at hc
theorem a8.own{w:World}{B:Nat}{v:Value}{X:af}(h:a8 w B v X):∃g cp,v=.slice (some ⟨g,0,none⟩) X.length cp∧aG w B g X.length cp X:=by
 obtain⟨g,cp,rfl⟩:=h.shape;exact⟨g,cp,rfl,h.1⟩
theorem pg{w:World}{g cp:Nat}{X:af}(h:eW w g X):rP w 0 (.slice (some ⟨g,0,none⟩) X.length cp) X:=by
 by_cases hX:X=[]
 ·left;subst hX;exact⟨rfl,_,_,rfl⟩
 ·exact Or.inr ⟨hX,g,cp,rfl,Nat.zero_le _,h⟩
theorem vO(a:Option Addr)(cap:Nat)(L:af)(i x:Int)(w:World)(h:aD w a L)(hL:L.length≤1048576)(h0:0≤i)(h1:i≤x)(h2:x<(L.length:Int))(hx:ae (aa L x) [41]=true)(hn:∀k,i≤k→k<x→ae (aa L k) [41]=false) :
  ah 91 #[.slice a L.length cap,.int .i64 i] w (kf (dN L i x) w):=by
 obtain⟨i0,hi,hz0,hz1,hz2⟩:=info_parts Tryz.OJ;go_enter func91,ntmps91;go_wp2;go_loopw [1,5] (fun v1 v5 wr=>∃k:Nat,v1=.int .i64 (k:Int)∧i≤(k:Int)∧(k:Int)≤x∧a8 wr w.heap.size v5 (dN L i (k:Int))∧ai w wr) (fun v1 _ _=>x.toNat-(intOf v1).toNat)
 case atStart=>exact⟨i.toNat,by rw[Int.toNat_of_nonneg h0],by omega,by omega,by rw[Int.toNat_of_nonneg h0,C8];exact oe w _ (Nat.le_refl _),ay (Below.refl _ _) _⟩
 case round =>
  obtain⟨k,rfl,hk0,hk1,hown,hB⟩:=hrel;have hk:k<L.length:=by omega
  obtain⟨sb,off,rfl,hs,hc,_⟩:=h k hk;have hc':=(hB.cell (p:=⟨sb,off+k,none⟩) hs).trans hc;have HG:=aj (by rw[eT (by omega) (by omega)];rfl:aa L (k:Int)=L[k]);have hsz:=hB.size;have hlen:(dN L i (k:Int)).length≤1048576:=by unfold dN;simp;omega
  obtain⟨g,cp,rfl⟩:=hown.shape;by_cases hlt:(k:Int)<x
  ·have b41:(L[k].toList==[41])=false:=by rw[←HG.out];exact hn (k:Int) hk0 hlt
   have HSS:Hid (dN L i ((k:Int)+1)=dN L i (k:Int)++[L[k]]):=by
    show dN L i ((k:Int)+1)=_;rw[←HG.out];exact Mo h0 hk0 (by omega)
   clear hc HG;generalize L[k]=t at hc' b41 HSS;have hcc1:∀j u,[Value.string t][j]?=some u→(wr.alloc (.cells #[.string t] 9)).cell? ((⟨wr.heap.size,0,none⟩:Addr).add j)=some u:=fun j u hj=>by
    match j,hj with
    |0,hj=>simp at hj;subst hj;simp[Addr.add]
   have hcc2:∀u∈[Value.string t],u.oneCell'=true:=fun u hu=>by simp at hu;subst hu;rfl
   have hc3:(dN L i (k:Int)).length+1≤maxLen:=by unfold maxLen;omega
   have hc4:((dN L i (k:Int)).length+1)*16≤140737488355328:=by omega
   have hc5:w.heap.size≤(wr.alloc (.cells #[.string t] 9)).heap.size:=by simp;omega
   go_wp2_with (at_builtin;refine wpList_append_own _ rfl _ _ 22 rfl w.heap.size 9 i0 (.string ⟨#[]⟩) 1 16 Tryz.underlying22 hi hz0 hz1 hz2 rfl (by decide) _ _ _ rfl (World.ownsRow.alloc hown.1 _) ⟨wr.heap.size,0,none⟩ 1 1 [.string t] rfl rfl hcc1 hcc2 hc3 hc4 hc5 ?_)
   intro v' w3 hown' hgrow hnil;have hR:a8 w3 w.heap.size v' (dN L i ((k:Int)+1)):=by
    refine⟨?_,fun e=>?_⟩
    ·rw[HSS.out];unfold dq;rw[List.map_append,List.length_append];exact hown'
    ·exact hnil e
   have hB3:ai w w3:=(ay hB _).grown hgrow hc5 (fun k hk=>(World.ownsRow.lt hown.1 k hk).1);clear hown' hgrow hnil;go_wp2;go_roundw
   case rel=>exact⟨k+1,by go_num,by omega,by omega,hR,hB3⟩
   case measure=>simp[intOf];omega
  ·have ek:(k:Int)=x:=by omega
   have b41:(L[k].toList==[41])=true:=by rw[←HG.out,ek];exact hx
   have HE:=aj (by rw[←ek];exact hown:a8 wr w.heap.size (.slice (some ⟨g,0,none⟩) (dN L i (k:Int)).length cp) (dN L i x));clear hc HG hown ek;generalize L[k]=t at hc' b41;go_wp2;go_ret;exact⟨_,rfl,HE.out,hB⟩
theorem iA(a:Option Addr)(cap:Nat)(L:af)(i:Int)(w:World)(h:aD w a L)(_hL:L.length≤1048576)(h0:0≤i)(h1:i≤(L.length:Int)) :
  ah 15 #[.slice a L.length cap,.int .i64 i] w (aA (.bool (decide (i<(L.length:Int))&&!ae (aa L i) [41])) w):=by
 by_cases hlt:i<(L.length:Int)
 ·obtain⟨k,rfl⟩:∃k:Nat,i=(k:Int):=⟨i.toNat,by omega⟩;have hk:k<L.length:=by omega
  obtain⟨sb,off,rfl,hs,hc,_⟩:=h k hk;have HV:Hid ((decide ((k:Int)<(L.length:Int))&&!ae (aa L k) [41])=!(L[k].toList==[41])):=by
   show _=_;rw[decide_eq_true hlt,eT (by omega) hlt];rfl
  generalize L[k]=t at hc HV;go_enter func15,ntmps15;cases hb:(t.toList==[41])
  ·rw[hb]at HV;go_wp2;go_ret;exact⟨by rw[HV.out];rfl,Below.refl _ _⟩
  ·rw[hb]at HV;go_wp2;go_ret;exact⟨by rw[HV.out];rfl,Below.refl _ _⟩
 ·have HV:=aj (by rw[decide_eq_false hlt];rfl:(decide (i<(L.length:Int))&&!ae (aa L i) [41])=false);go_enter func15,ntmps15;go_wp2;go_ret;exact⟨by rw[HV.out];rfl,Below.refl _ _⟩
theorem KG{L:af}{i:Int}(h:aa L (i+1)=⟨#[118,97,114,115]⟩):aN L false i=dN L (i+2) (fm L 5 (i+2)):=by
 unfold aN;rw[h];simp only[aS];rfl
theorem KD{L:af}{i:Int}(h:aa L (i+1)=⟨#[108,101,116]⟩):aN L false i=[aa L (i+2)]:=by
 unfold aN;rw[h];simp only[aS];rfl
theorem KL{L:af}{i:Int}(h:aa L (i+1)=⟨#[116,97,107,101]⟩):aN L false i=dN L (i+3) (fm L 5 (i+4)):=by
 unfold aN;rw[h];simp only[aS];rfl
theorem KI{L:af}{i:Int}(h1:aa L (i+1)≠⟨#[118,97,114,115]⟩)(h2:aa L (i+1)≠⟨#[108,101,116]⟩)(h3:aa L (i+1)≠⟨#[116,97,107,101]⟩):aN L false i=[]:=by
 unfold aN;rw[dx (c:=[118,97,114,115]) h1,dx (c:=[108,101,116]) h2,dx (c:=[116,97,107,101]) h3];rfl
theorem KB{L:af}{i:Int}(h:aa L (i+1)=⟨#[104,105,100,100,101,110]⟩):aN L true i=dN L (i+2) (fm L 5 (i+2)):=by
 unfold aN;rw[h];simp only[aS];rfl
theorem KH{L:af}{i:Int}(h:aa L (i+1)≠⟨#[104,105,100,100,101,110]⟩):aN L true i=[]:=by
 unfold aN;rw[dx (c:=[104,105,100,100,101,110]) h];rfl
theorem we{L:af}{i:Int}(h:fm L 1 i≠-1):(decide (i<(L.length:Int))&&!ae (aa L i) [41])=true:=by
 have hl:=fR h;rw[decide_eq_true (by omega),aQ (d:=[41]) (lR h) (by decide)];rfl
theorem tb{L:af}{e:Int}(h:jj L e):(decide (e<(L.length:Int))&&!ae (aa L e) [41])=false:=by
 rcases h with h|h
 ·rw[decide_eq_false (by omega)];rfl
 ·rw[h];simp
theorem Ho(a:Option Addr)(cap:Nat)(L:af)(k0:Nat)(i e:Int)(w:World)(h:aD w a L)(hL:L.length≤1048576)(h0:0≤i)(he:e≤(L.length:Int))(h0e:0≤e)(hend:jj L e)(hch:ey L k0 i e) :
  ah 50 #[.slice a L.length cap,.int .i64 i,.bool true] w (kf (dA L true k0 i) w):=by
 obtain⟨i0,hi,hz0,hz1,hz2⟩:=info_parts Tryz.OJ;go_enter func50,ntmps50;go_wp2;go_loopw [1,7] (fun v1 v7 wr=>∃(j:Nat) (x:Int) (acc:af),v1=.int .i64 x∧i≤x∧ey L j x e∧a8 wr w.heap.size v7 acc∧Hid (acc++dA L true j x=dA L true k0 i)∧acc.length≤(x-i).toNat∧ai w wr) (fun v1 _ _=>L.length+1-(intOf v1).toNat)
 case atStart=>exact⟨k0,i,[],rfl,Int.le_refl _,hch,oe w _ (Nat.le_refl _),rfl,Nat.zero_le _,ay (Below.refl _ _) _⟩
 case round =>
  obtain⟨j,x,acc,rfl,hx0,hc,hown,HT,hacc,hB⟩:=hrel;have hxe:=gU j x hc h0e;have hA:=h.call hB;have hsz:=hB.size;obtain⟨g,cp,rfl⟩:=hown.shape;cases j with
  |zero =>
   have ex:x=e:=hc;have HM:=tb hend;rw[←ex]at HM;have HM':=aj HM;have HE:=aj (by have:=HT.out;simpa[dA]using this:acc=dA L true k0 i);clear HM HT hc ex;go_wp2_with fail;refine(iA a cap L x _ hA hL (by omega) (by omega)).mono ?_;rintro r w1 ⟨rfl,hb1⟩;rw[HM'.out];go_wp2;go_ret;exact⟨_,rfl,by rw[←HE.out];exact hown.call hb1,aw hB hb1⟩
  |succ j =>
   obtain⟨hd,hc⟩:=hc;have hl:=fR hd;have HM':Hid ((decide (x<(L.length:Int))&&!ae (aa L x) [41])=true):=we hd;have HI:Hid (ag L x=fm L 1 x):=iS hd;have hpl:=tp true hd;have HT2:=aj (by rw[List.append_assoc];exact HT.out:(acc++aN L true x)++dA L true j (fm L 1 x)=dA L true k0 i);have hxe2:=gU j _ hc h0e;obtain⟨k,rfl⟩:∃k:Nat,x=(k:Int):=⟨x.toNat,by omega⟩;have hk1:k+1<L.length:=by omega
   have hk2:k+2<L.length:=by omega
   have HG1:=aj (by rw[eT (by omega) (by omega)];simp only[show((k:Int)+1).toNat=k+1 by omega]:aa L ((k:Int)+1)=L[k+1]);have HG2:=aj (by rw[eT (by omega) (by omega)];simp only[show((k:Int)+2).toNat=k+2 by omega]:aa L ((k:Int)+2)=L[k+2]);clear HT;by_cases hhidden:aa L ((k:Int)+1)=⟨#[104,105,100,100,101,110]⟩
   ·have hw:=hhidden;clear hhidden;have hnm:=kT (c:=[104,105,100,100,101,110]) hd hw nB;have HP:Hid (aN L true (k:Int)=dN L ((k:Int)+2) (fm L 5 ((k:Int)+2))):=KB hw;have HW:Hid (L[k+1]=⟨#[104,105,100,100,101,110]⟩):=(HG1.out.symm.trans hw:L[k+1]=⟨#[104,105,100,100,101,110]⟩);clear hw;go_wp2_with fail;refine(iA _ cap L (k:Int) _ hA hL (by omega) (by omega)).mono ?_;rintro r w1 ⟨rfl,hb1⟩;rw[HM'.out];have hA1:=hA.call hb1;have hB1:=aw hB hb1;have hown1:=hown.call hb1;obtain⟨sb,off,rfl,hs1,hc1,_⟩:=hA1 (k+1) hk1;rw[HW.out]at hc1;clear hs1;generalize hY:(fm L 5 ((k:Int)+2))=Y at hnm HP;clear hY;go_wp2_with fail;refine(vO _ cap L ((k:Int)+2) Y _ hA1 hL (by omega) (by omega) hnm.2.1 hnm.2.2.1 (fun q q1 q2=>wj (hnm.2.2.2.1 q q1 q2))).mono ?_;rintro r w2 ⟨v2,rfl,hown2,hb2⟩;have hA2:=hA1.call hb2;have hB2:=aw hB1 hb2;have hown1':=hown1.call hb2;rw[←HP.out]at hown2;generalize aN L true (k:Int)=pc at hown2 hpl HT2;obtain⟨g2,cp2,rfl⟩:=hown2.shape;have hcc1:=hown2.cells;have hcc2:∀u∈pc.map Value.string,u.oneCell'=true:=fun u hu=>by
     obtain⟨z,_,rfl⟩:=List.mem_map.1 hu;rfl
    have hc0:(pc.map Value.string).length=pc.length*1:=by simp
    have hc3:acc.length+pc.length≤maxLen:=by unfold maxLen;omega
    have hc4:(acc.length+pc.length)*16≤140737488355328:=by omega
    have hc5:=hB2.size;go_wp2_with (at_builtin;refine wpList_append_own _ rfl _ _ 22 rfl w.heap.size 9 i0 (.string ⟨#[]⟩) 1 16 Tryz.underlying22 hi hz0 hz1 hz2 rfl (by decide) _ _ _ rfl hown1'.1 ⟨g2,0,none⟩ pc.length cp2 (pc.map Value.string) rfl hc0 hcc1 hcc2 hc3 hc4 hc5 ?_)
    intro v' w3 hown' hgrow hnil;have hR:a8 w3 w.heap.size v' (acc++pc):=by
     refine⟨?_,fun er=>?_⟩
     ·unfold dq;rw[List.map_append,List.length_append];exact hown'
     ·simp[er]at hnil
    have hB3:ai w w3:=hB2.grown hgrow hc5 (fun q hq=>(World.ownsRow.lt hown1'.1 q hq).1);have hA3:=h.call hB3;clear hown' hgrow hnil hcc1 hcc2 hown2 hown1';go_wp2_with fail;refine(dk _ cap L (k:Int) _ hA3 hL ⟨by omega,by omega⟩).mono ?_;rintro r w9 ⟨rfl,hb9⟩;rw[HI.out];have hB9:=aw hB3 hb9;have hown9:=hR.call hb9;generalize fm L 1 (k:Int)=y at hl HT2 hc hxe2 hpl;go_wp2;go_roundw
    case rel=>exact⟨j,y,acc++pc,rfl,by omega,hc,hown9,HT2,by first|omega|(rw[List.length_append];omega),hB9⟩
    case measure=>simp[intOf];omega
   have HP:Hid (aN L true (k:Int)=[]):=KH hhidden;have bw:(L[k+1].toList==[104,105,100,100,101,110])=false:=by rw[←HG1.out];exact dx (c:=[104,105,100,100,101,110]) hhidden
   clear hhidden;go_wp2_with fail;refine(iA _ cap L (k:Int) _ hA hL (by omega) (by omega)).mono ?_;rintro r w1 ⟨rfl,hb1⟩;rw[HM'.out];have hA1:=hA.call hb1;have hB1:=aw hB hb1;have hown1:=hown.call hb1;obtain⟨sb,off,rfl,hs1,hc1,_⟩:=hA1 (k+1) hk1;clear hs1 HG1 HG2;generalize L[k+1]=t at hc1 bw;rw[HP.out,List.append_nil]at HT2;clear HP;go_wp2_with fail;refine(dk _ cap L (k:Int) _ hA1 hL ⟨by omega,by omega⟩).mono ?_;rintro r w9 ⟨rfl,hb9⟩;rw[HI.out];have hB9:=aw hB1 hb9;have hown9:=hown1.call hb9;generalize fm L 1 (k:Int)=y at hl HT2 hc hxe2 hpl;go_wp2;go_roundw
   case rel=>exact⟨j,y,acc,rfl,by omega,hc,hown9,HT2,by first|omega|(rw[List.length_append];omega),hB9⟩
   case measure=>simp[intOf];omega
theorem sU(a:Option Addr)(cap:Nat)(L:af)(k0:Nat)(i e:Int)(w:World)(h:aD w a L)(hL:L.length≤1048576)(h0:0≤i)(he:e≤(L.length:Int))(h0e:0≤e)(hend:jj L e)(hch:ey L k0 i e) :
  ah 50 #[.slice a L.length cap,.int .i64 i,.bool false] w (kf (dA L false k0 i) w):=by
 obtain⟨i0,hi,hz0,hz1,hz2⟩:=info_parts Tryz.OJ;go_enter func50,ntmps50;go_wp2;go_loopw [1,7] (fun v1 v7 wr=>∃(j:Nat) (x:Int) (acc:af),v1=.int .i64 x∧i≤x∧ey L j x e∧a8 wr w.heap.size v7 acc∧Hid (acc++dA L false j x=dA L false k0 i)∧acc.length≤(x-i).toNat∧ai w wr) (fun v1 _ _=>L.length+1-(intOf v1).toNat)
 case atStart=>exact⟨k0,i,[],rfl,Int.le_refl _,hch,oe w _ (Nat.le_refl _),rfl,Nat.zero_le _,ay (Below.refl _ _) _⟩
 case round =>
  obtain⟨j,x,acc,rfl,hx0,hc,hown,HT,hacc,hB⟩:=hrel;have hxe:=gU j x hc h0e;have hA:=h.call hB;have hsz:=hB.size;obtain⟨g,cp,rfl⟩:=hown.shape;cases j with
  |zero =>
   have ex:x=e:=hc;have HM:=tb hend;rw[←ex]at HM;have HM':=aj HM;have HE:=aj (by have:=HT.out;simpa[dA]using this:acc=dA L false k0 i);clear HM HT hc ex;go_wp2_with fail;refine(iA a cap L x _ hA hL (by omega) (by omega)).mono ?_;rintro r w1 ⟨rfl,hb1⟩;rw[HM'.out];go_wp2;go_ret;exact⟨_,rfl,by rw[←HE.out];exact hown.call hb1,aw hB hb1⟩
  |succ j =>
   obtain⟨hd,hc⟩:=hc;have hl:=fR hd;have HM':Hid ((decide (x<(L.length:Int))&&!ae (aa L x) [41])=true):=we hd;have HI:Hid (ag L x=fm L 1 x):=iS hd;have hpl:=tp false hd;have HT2:=aj (by rw[List.append_assoc];exact HT.out:(acc++aN L false x)++dA L false j (fm L 1 x)=dA L false k0 i);have hxe2:=gU j _ hc h0e;obtain⟨k,rfl⟩:∃k:Nat,x=(k:Int):=⟨x.toNat,by omega⟩;have hk1:k+1<L.length:=by omega
   have hk2:k+2<L.length:=by omega
   have HG1:=aj (by rw[eT (by omega) (by omega)];simp only[show((k:Int)+1).toNat=k+1 by omega]:aa L ((k:Int)+1)=L[k+1]);have HG2:=aj (by rw[eT (by omega) (by omega)];simp only[show((k:Int)+2).toNat=k+2 by omega]:aa L ((k:Int)+2)=L[k+2]);clear HT;by_cases hvars:aa L ((k:Int)+1)=⟨#[118,97,114,115]⟩
   ·have hw:=hvars;clear hvars;have hnm:=kT (c:=[118,97,114,115]) hd hw nC;have HP:Hid (aN L false (k:Int)=dN L ((k:Int)+2) (fm L 5 ((k:Int)+2))):=KG hw;have HW:Hid (L[k+1]=⟨#[118,97,114,115]⟩):=(HG1.out.symm.trans hw:L[k+1]=⟨#[118,97,114,115]⟩);clear hw;go_wp2_with fail;refine(iA _ cap L (k:Int) _ hA hL (by omega) (by omega)).mono ?_;rintro r w1 ⟨rfl,hb1⟩;rw[HM'.out];have hA1:=hA.call hb1;have hB1:=aw hB hb1;have hown1:=hown.call hb1;obtain⟨sb,off,rfl,hs1,hc1,_⟩:=hA1 (k+1) hk1;rw[HW.out]at hc1;clear hs1;generalize hY:(fm L 5 ((k:Int)+2))=Y at hnm HP;clear hY;go_wp2_with fail;refine(vO _ cap L ((k:Int)+2) Y _ hA1 hL (by omega) (by omega) hnm.2.1 hnm.2.2.1 (fun q q1 q2=>wj (hnm.2.2.2.1 q q1 q2))).mono ?_;rintro r w2 ⟨v2,rfl,hown2,hb2⟩;have hA2:=hA1.call hb2;have hB2:=aw hB1 hb2;have hown1':=hown1.call hb2;rw[←HP.out]at hown2;generalize aN L false (k:Int)=pc at hown2 hpl HT2;obtain⟨g2,cp2,rfl⟩:=hown2.shape;have hcc1:=hown2.cells;have hcc2:∀u∈pc.map Value.string,u.oneCell'=true:=fun u hu=>by
     obtain⟨z,_,rfl⟩:=List.mem_map.1 hu;rfl
    have hc0:(pc.map Value.string).length=pc.length*1:=by simp
    have hc3:acc.length+pc.length≤maxLen:=by unfold maxLen;omega
    have hc4:(acc.length+pc.length)*16≤140737488355328:=by omega
    have hc5:=hB2.size;go_wp2_with (at_builtin;refine wpList_append_own _ rfl _ _ 22 rfl w.heap.size 9 i0 (.string ⟨#[]⟩) 1 16 Tryz.underlying22 hi hz0 hz1 hz2 rfl (by decide) _ _ _ rfl hown1'.1 ⟨g2,0,none⟩ pc.length cp2 (pc.map Value.string) rfl hc0 hcc1 hcc2 hc3 hc4 hc5 ?_)
    intro v' w3 hown' hgrow hnil;have hR:a8 w3 w.heap.size v' (acc++pc):=by
     refine⟨?_,fun er=>?_⟩
     ·unfold dq;rw[List.map_append,List.length_append];exact hown'
     ·simp[er]at hnil
    have hB3:ai w w3:=hB2.grown hgrow hc5 (fun q hq=>(World.ownsRow.lt hown1'.1 q hq).1);have hA3:=h.call hB3;clear hown' hgrow hnil hcc1 hcc2 hown2 hown1';go_wp2_with fail;refine(dk _ cap L (k:Int) _ hA3 hL ⟨by omega,by omega⟩).mono ?_;rintro r w9 ⟨rfl,hb9⟩;rw[HI.out];have hB9:=aw hB3 hb9;have hown9:=hR.call hb9;generalize fm L 1 (k:Int)=y at hl HT2 hc hxe2 hpl;go_wp2;go_roundw
    case rel=>exact⟨j,y,acc++pc,rfl,by omega,hc,hown9,HT2,by first|omega|(rw[List.length_append];omega),hB9⟩
    case measure=>simp[intOf];omega
   by_cases hlet:aa L ((k:Int)+1)=⟨#[108,101,116]⟩
   ·have hnm:=sV hd hlet;have HP:Hid (aN L false (k:Int)=[L[k+2]]):=((KD hlet).trans (by rw[HG2.out]):aN L false (k:Int)=[L[k+2]]);have HW:Hid (L[k+1]=⟨#[108,101,116]⟩):=(HG1.out.symm.trans hlet:L[k+1]=⟨#[108,101,116]⟩);clear hlet;go_wp2_with fail;refine(iA _ cap L (k:Int) _ hA hL (by omega) (by omega)).mono ?_;rintro r w1 ⟨rfl,hb1⟩;rw[HM'.out];have hA1:=hA.call hb1;have hB1:=aw hB hb1;have hown1:=hown.call hb1;obtain⟨sb,off,rfl,hs1,hc1,_⟩:=hA1 (k+1) hk1;obtain⟨sb2,off2,hae,hs2,hc2,_⟩:=hA1 (k+2) hk2;injection hae with hae;injection hae with ea eb _;subst ea;subst eb;rw[HW.out]at hc1;clear hs1 HG1 HG2;rw[HP.out]at HT2 hpl;clear HP HW;generalize L[k+2]=t at hc2 HT2 hpl;have hcc1:∀j u,[Value.string t][j]?=some u→(w1.alloc (.cells #[.string t] 9)).cell? ((⟨w1.heap.size,0,none⟩:Addr).add j)=some u:=fun j u hj=>by
     match j,hj with
     |0,hj=>simp at hj;subst hj;simp[Addr.add]
    have hcc2:∀u∈[Value.string t],u.oneCell'=true:=fun u hu=>by simp at hu;subst hu;rfl
    have hc3:acc.length+1≤maxLen:=by unfold maxLen;omega
    have hc4:(acc.length+1)*16≤140737488355328:=by omega
    have hb1s:=hB1.size;have hc5:w.heap.size≤(w1.alloc (.cells #[.string t] 9)).heap.size:=by simp;omega
    go_wp2_with (at_builtin;refine wpList_append_own _ rfl _ _ 22 rfl w.heap.size 9 i0 (.string ⟨#[]⟩) 1 16 Tryz.underlying22 hi hz0 hz1 hz2 rfl (by decide) _ _ _ rfl (World.ownsRow.alloc hown1.1 _) ⟨w1.heap.size,0,none⟩ 1 1 [.string t] rfl rfl hcc1 hcc2 hc3 hc4 hc5 ?_)
    intro v' w3 hown' hgrow hnil;have hR:a8 w3 w.heap.size v' (acc++[t]):=by
     refine⟨?_,fun er=>?_⟩
     ·unfold dq;rw[List.map_append,List.length_append];exact hown'
     ·exact hnil er
    have hB3:ai w w3:=(ay hB1 _).grown hgrow hc5 (fun q hq=>(World.ownsRow.lt hown1.1 q hq).1);have hA3:=h.call hB3;clear hown' hgrow hnil hcc1 hcc2;go_wp2_with fail;refine(dk _ cap L (k:Int) _ hA3 hL ⟨by omega,by omega⟩).mono ?_;rintro r w9 ⟨rfl,hb9⟩;rw[HI.out];have hB9:=aw hB3 hb9;have hown9:=hR.call hb9;generalize fm L 1 (k:Int)=y at hl HT2 hc hxe2 hpl;go_wp2;go_roundw
    case rel=>exact⟨j,y,acc++[t],rfl,by omega,hc,hown9,HT2,by first|omega|(rw[List.length_append];omega),hB9⟩
    case measure=>simp[intOf];omega
   by_cases htake:aa L ((k:Int)+1)=⟨#[116,97,107,101]⟩
   ·have hw:=htake;clear htake;have hnm:=mo hd hw;have HP:Hid (aN L false (k:Int)=dN L ((k:Int)+3) (fm L 5 ((k:Int)+4))):=KL hw;have HW:Hid (L[k+1]=⟨#[116,97,107,101]⟩):=(HG1.out.symm.trans hw:L[k+1]=⟨#[116,97,107,101]⟩);clear hw;go_wp2_with fail;refine(iA _ cap L (k:Int) _ hA hL (by omega) (by omega)).mono ?_;rintro r w1 ⟨rfl,hb1⟩;rw[HM'.out];have hA1:=hA.call hb1;have hB1:=aw hB hb1;have hown1:=hown.call hb1;obtain⟨sb,off,rfl,hs1,hc1,_⟩:=hA1 (k+1) hk1;rw[HW.out]at hc1;clear hs1;generalize hY:(fm L 5 ((k:Int)+4))=Y at hnm HP;clear hY;go_wp2_with fail;refine(vO _ cap L ((k:Int)+3) Y _ hA1 hL (by omega) (by omega) hnm.2.1 hnm.2.2.1 (fun q q1 q2=>wj (hnm.2.2.2.1 q q1 q2))).mono ?_;rintro r w2 ⟨v2,rfl,hown2,hb2⟩;have hA2:=hA1.call hb2;have hB2:=aw hB1 hb2;have hown1':=hown1.call hb2;rw[←HP.out]at hown2;generalize aN L false (k:Int)=pc at hown2 hpl HT2;obtain⟨g2,cp2,rfl⟩:=hown2.shape;have hcc1:=hown2.cells;have hcc2:∀u∈pc.map Value.string,u.oneCell'=true:=fun u hu=>by
     obtain⟨z,_,rfl⟩:=List.mem_map.1 hu;rfl
    have hc0:(pc.map Value.string).length=pc.length*1:=by simp
    have hc3:acc.length+pc.length≤maxLen:=by unfold maxLen;omega
    have hc4:(acc.length+pc.length)*16≤140737488355328:=by omega
    have hc5:=hB2.size;go_wp2_with (at_builtin;refine wpList_append_own _ rfl _ _ 22 rfl w.heap.size 9 i0 (.string ⟨#[]⟩) 1 16 Tryz.underlying22 hi hz0 hz1 hz2 rfl (by decide) _ _ _ rfl hown1'.1 ⟨g2,0,none⟩ pc.length cp2 (pc.map Value.string) rfl hc0 hcc1 hcc2 hc3 hc4 hc5 ?_)
    intro v' w3 hown' hgrow hnil;have hR:a8 w3 w.heap.size v' (acc++pc):=by
     refine⟨?_,fun er=>?_⟩
     ·unfold dq;rw[List.map_append,List.length_append];exact hown'
     ·simp[er]at hnil
    have hB3:ai w w3:=hB2.grown hgrow hc5 (fun q hq=>(World.ownsRow.lt hown1'.1 q hq).1);have hA3:=h.call hB3;clear hown' hgrow hnil hcc1 hcc2 hown2 hown1';go_wp2_with fail;refine(dk _ cap L (k:Int) _ hA3 hL ⟨by omega,by omega⟩).mono ?_;rintro r w9 ⟨rfl,hb9⟩;rw[HI.out];have hB9:=aw hB3 hb9;have hown9:=hR.call hb9;generalize fm L 1 (k:Int)=y at hl HT2 hc hxe2 hpl;go_wp2;go_roundw
    case rel=>exact⟨j,y,acc++pc,rfl,by omega,hc,hown9,HT2,by first|omega|(rw[List.length_append];omega),hB9⟩
    case measure=>simp[intOf];omega
   have HP:Hid (aN L false (k:Int)=[]):=KI hvars hlet htake;have bw1:(L[k+1].toList==[118,97,114,115])=false:=by rw[←HG1.out];exact dx (c:=[118,97,114,115]) hvars
   have bw2:(L[k+1].toList==[108,101,116])=false:=by rw[←HG1.out];exact dx (c:=[108,101,116]) hlet
   have bw3:(L[k+1].toList==[116,97,107,101])=false:=by rw[←HG1.out];exact dx (c:=[116,97,107,101]) htake
   clear hvars hlet htake;go_wp2_with fail;refine(iA _ cap L (k:Int) _ hA hL (by omega) (by omega)).mono ?_;rintro r w1 ⟨rfl,hb1⟩;rw[HM'.out];have hA1:=hA.call hb1;have hB1:=aw hB hb1;have hown1:=hown.call hb1;obtain⟨sb,off,rfl,hs1,hc1,_⟩:=hA1 (k+1) hk1;clear hs1 HG1 HG2;generalize L[k+1]=t at hc1 bw1 bw2 bw3;rw[HP.out,List.append_nil]at HT2;clear HP;go_wp2_with fail;refine(dk _ cap L (k:Int) _ hA1 hL ⟨by omega,by omega⟩).mono ?_;rintro r w9 ⟨rfl,hb9⟩;rw[HI.out];have hB9:=aw hB1 hb9;have hown9:=hown1.call hb9;generalize fm L 1 (k:Int)=y at hl HT2 hc hxe2 hpl;go_wp2;go_roundw
   case rel=>exact⟨j,y,acc,rfl,by omega,hc,hown9,HT2,by first|omega|(rw[List.length_append];omega),hB9⟩
   case measure=>simp[intOf];omega
end Go.Proofs.YtdojfommmpnbgaaGreatDoor
