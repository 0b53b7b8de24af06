import Derived.Test.YtdojfommmpnbgaaGreatDoorKAU
import Derived.Test.YtdojfommmpnbgaaGreatDoorKAR
import Derived.Laws.EntriesVeiled
import Derived.OwnWalk
import Derived.WalkSmall
import Derived.Deep.RegionWith
import Derived.BigQuiet
import Derived.Deep.CutRange
set_option maxHeartbeats 8000000
namespace Go.Proofs.YtdojfommmpnbgaaGreatDoor
open Go.RowKit Go.Proofs.Tryz
theorem nH(s:ByteArray)(k q:Nat)(F:Value)(w:World) :
  ah 152 #[.agg #[.string s,.int .i64 k,F],.int .i64 q] w (aA (.bool (gp k q)) w):=by
 by_cases h1:k=q
 ·have HF:=aj (by simp[gp,h1]:gp k q=true);have b1:((k:Int)==(q:Int))=true:=by simp[h1]
  clear h1;go_enter func152,ntmps152;go_wp2;go_ret;exact⟨by rw[HF.out];rfl,by go_grown⟩
 have b1:((k:Int)==(q:Int))=false:=by simp;omega
 by_cases h2:k=2
 ·have b2:((k:Int)==2)=true:=by simp;omega
  by_cases h3:q=3
  ·have HF:=aj (by simp[gp,h2,h3]:gp k q=true);have b3:((q:Int)==3)=true:=by simp;omega
   clear h1 h2 h3;go_enter func152,ntmps152;go_wp2;go_ret;exact⟨by rw[HF.out];rfl,by go_grown⟩
  ·have HF:=aj (by simp[gp,h2,h3];omega:gp k q=false);have b3:((q:Int)==3)=false:=by simp;omega
   clear h1 h2 h3;go_enter func152,ntmps152;go_wp2;go_ret;exact⟨by rw[HF.out];rfl,by go_grown⟩
 ·have HF:=aj (by simp[gp,h1,h2]:gp k q=false);have b2:((k:Int)==2)=false:=by simp;omega
  clear h1 h2;go_enter func152,ntmps152;go_wp2;go_ret;exact⟨by rw[HF.out];rfl,by go_grown⟩
def oH(h:List UInt8)(q:Nat)(v:Value):Prop :=
 (∃k,∃hk:k<aP.length,dF h q aP[k].1=true∧(∀j (hj:j<aP.length),j<k→dF h q aP[j].1=false)∧v=.tuple #[.agg #[.string (du aP[k]),.int .i64 (aP[k].1.2.1:Int),.func (.func aP[k].2) #[] #[]],.bool true]) ∨
 ((∀j (hj:j<aP.length),dF h q aP[j].1=false)∧v=.tuple #[.agg #[.string ⟨#[]⟩,.int .i64 0,.nilFunc],.bool false])
theorem vm(x:(List UInt8 × Nat × List Nat × Option Nat) × Nat):(du x).toList=x.1.1:=bE _
theorem An{h:List UInt8}{q:Nat}{x:(List UInt8 × Nat × List Nat × Option Nat) × Nat}(hf:gp x.1.2.1 q=false):dF h q x.1=false:=by
 unfold dF;rw[hf];rfl
theorem Am{h:List UInt8}{q:Nat}{x:(List UInt8 × Nat × List Nat × Option Nat) × Nat}(hf:gp x.1.2.1 q=true)(he:(du x).toList.isEmpty=true):dF h q x.1=true:=by
 rw[vm]at he;unfold dF;rw[hf,he];rfl
theorem Ao{h:List UInt8}{q:Nat}{x:(List UInt8 × Nat × List Nat × Option Nat) × Nat}(hf:gp x.1.2.1 q=true)(he:(du x).toList.isEmpty=false):dF h q x.1=((du x).toList==h):=by
 rw[vm]at he ⊢;unfold dF;rw[hf,he];rfl
theorem JY(g:Nat)(a:Option Addr)(cap len:Nat)(i q:Nat)(hd:ByteArray)(w:World)(hT:jx w g)(hL:len≤1048576)(hi:i<len)(hc:i+1<len→∃sb off,a=some ⟨sb,off,none⟩∧w.cell? ⟨sb,off+(i+1),none⟩=some (.string hd)∧sb<w.heap.size)(hn:¬i+1<len→hd=⟨#[]⟩) :
  ah 114 #[.slice (some ⟨g,0,none⟩) 34 34,.slice a len cap,.int .i64 i,.int .i64 q] w fun e w'=>∃v,e=.returned v∧oH hd.toList q v∧ai w w':=by
 have HR:Hid (∀k,∀hk:k<aP.length,(∀j (hj:j<aP.length),j<k→dF hd.toList q aP[j].1=false)→dF hd.toList q aP[k].1=false→∀j (hj:j<aP.length),j<k+1→dF hd.toList q aP[j].1=false):=fun k hk hA hq j hj hjk=>by
  by_cases e:j=k
  ·subst e;exact hq
  ·exact hA j hj (by omega)
 by_cases hlt:i+1<len
 ·obtain⟨sb,off,rfl,hc,hsb⟩:=hc hlt;have hdec:decide ((i:Int)+1<(len:Int))=true:=decide_eq_true (by omega);clear hn;go_enter func114,ntmps114;go_wp2;go_loopw [25] (fun v wr=>∃k:Nat,k≤34∧v=.int .i64 (k:Int)∧ai w wr∧Own w.heap.size wr∧Hid (∀j (hj:j<aP.length),j<k→dF hd.toList q aP[j].1=false)) (fun v _=>34-(intOf v).toNat)
  case atStart=>exact⟨0,by omega,rfl,by go_grown,wA _ _ _ _ _,fun j _ hj=>absurd hj (Nat.not_lt_zero _)⟩
  case round =>
   obtain⟨k,hk,rfl,hB,hO,HA⟩:=hrel;by_cases hkl:k<34
   ·obtain⟨c0,c1,c2⟩:=hT.2 k hkl;have hg:=hT.1;have d0:=(hB.cell (p:=⟨g,k*3,none⟩) hg).trans c0;have d1:=(hB.cell (p:=⟨g,k*3+1,none⟩) hg).trans c1;have d2:=(hB.cell (p:=⟨g,k*3+2,none⟩) hg).trans c2;clear c0 c1 c2;obtain⟨⟨r0,o0⟩,⟨r1,o1⟩,⟨r2,o2⟩,f0,f1,f2,hz⟩:=hO;have hO:Own w.heap.size wr:=⟨⟨r0,o0⟩,⟨r1,o1⟩,⟨r2,o2⟩,f0,f1,f2,hz⟩;cases hf:gp (aP[k]'hkl).1.2.1 q
    ·have HN:Hid (∀j (hj:j<aP.length),j<k+1→dF hd.toList q aP[j].1=false):=HR.out k hkl HA.out (An hf);have HF:Hid (gp (aP[k]'hkl).1.2.1 q=false):=hf;clear hf;generalize du (aP[k]'hkl)=s at d0;generalize (aP[k]'hkl).1.2.1=kk at d1 HF;generalize (aP[k]'hkl).2=fn at d2;go_wp2_with fail;refine(nH s kk q (.func (.func fn) #[] #[]) _).mono ?_;rintro e w1 ⟨rfl,hb1⟩;rw[HF.out];have hW:ai wr w1:=(by repeat' first|(with_reducible first|exact Below.refl _ _|refine Below.drew ?_|refine ay ?_ _|refine bf ?_ _ ?_|refine aw ?_ (by assumption))|go_size);clear hb1;go_wp2;go_roundw
     case rel =>
      exact⟨k+1,by omega,by go_num,aw hB hW,hO.call hW,HN.out⟩
     case measure=>simp[intOf];omega
    ·cases he:(du (aP[k]'hkl)).toList.isEmpty
     ·have hw:=Ao (h:=hd.toList) hf he;cases hq:((du (aP[k]'hkl)).toList==hd.toList)
      ·have HN:Hid (∀j (hj:j<aP.length),j<k+1→dF hd.toList q aP[j].1=false):=HR.out k hkl HA.out (hw.trans hq);have HF:Hid (gp (aP[k]'hkl).1.2.1 q=true):=hf;clear hf hw;generalize du (aP[k]'hkl)=s at d0 he hq;generalize (aP[k]'hkl).1.2.1=kk at d1 HF;generalize (aP[k]'hkl).2=fn at d2;go_wp2_with fail;refine(nH s kk q (.func (.func fn) #[] #[]) _).mono ?_;rintro e w1 ⟨rfl,hb1⟩;rw[HF.out];have hW:ai wr w1:=(by repeat' first|(with_reducible first|exact Below.refl _ _|refine Below.drew ?_|refine ay ?_ _|refine bf ?_ _ ?_|refine aw ?_ (by assumption))|go_size);obtain⟨hc1,hf1⟩:=ki hb1;go_wp2;go_roundw
       case rel=>exact⟨k+1,by omega,by go_num,aw hB hW,hO.call hW,HN.out⟩
       case measure=>simp[intOf];omega
      ·have HH:Hid (dF hd.toList q (aP[k]'hkl).1=true):=hw.trans hq;have HF:Hid (gp (aP[k]'hkl).1.2.1 q=true):=hf;have HE:Hid (∀v,v=.tuple #[.agg #[.string (du (aP[k]'hkl)),.int .i64 ((aP[k]'hkl).1.2.1:Int),.func (.func (aP[k]'hkl).2) #[] #[]],.bool true]→oH hd.toList q v):=fun v hv=>Or.inl ⟨k,hkl,HH.out,HA.out,hv⟩
       clear hf hw HH;generalize du (aP[k]'hkl)=s at d0 he hq HE;generalize (aP[k]'hkl).1.2.1=kk at d1 HF HE;generalize (aP[k]'hkl).2=fn at d2 HE;go_wp2_with fail;refine(nH s kk q (.func (.func fn) #[] #[]) _).mono ?_;rintro e w1 ⟨rfl,hb1⟩;rw[HF.out];have hW:ai wr w1:=(by repeat' first|(with_reducible first|exact Below.refl _ _|refine Below.drew ?_|refine ay ?_ _|refine bf ?_ _ ?_|refine aw ?_ (by assumption))|go_size);obtain⟨hc1,hf1⟩:=ki hb1;have hB1:=aw hB hW;have hz1:wr.heap.size<w1.heap.size:=r8 hb1 _ (by simp);obtain⟨⟨x0,y0⟩,⟨x1,y1⟩,⟨x2,y2⟩,g0,g1,g2,yz⟩:=hO.call hW;go_wp2;refine bodyPost_ret (v:=.tuple #[.agg #[.string s,.int .i64 kk,.func (.func fn) #[] #[]],.bool true]) (by simp[results,Tryz.results114,go_sem,y0,y1,y2]) rfl ?_;refine⟨_,rfl,HE.out _ rfl,?_⟩;exact(by repeat' first|(with_reducible first|exact Below.refl _ _|refine Below.drew ?_|refine ay ?_ _|refine bf ?_ _ ?_|refine aw ?_ (by assumption))|go_size)
     ·have HH:Hid (dF hd.toList q (aP[k]'hkl).1=true):=Am hf he;have HF:Hid (gp (aP[k]'hkl).1.2.1 q=true):=hf;have HE:Hid (∀v,v=.tuple #[.agg #[.string (du (aP[k]'hkl)),.int .i64 ((aP[k]'hkl).1.2.1:Int),.func (.func (aP[k]'hkl).2) #[] #[]],.bool true]→oH hd.toList q v):=fun v hv=>Or.inl ⟨k,hkl,HH.out,HA.out,hv⟩
      clear hf HH;generalize du (aP[k]'hkl)=s at d0 he HE;generalize (aP[k]'hkl).1.2.1=kk at d1 HF HE;generalize (aP[k]'hkl).2=fn at d2 HE;go_wp2_with fail;refine(nH s kk q (.func (.func fn) #[] #[]) _).mono ?_;rintro e w1 ⟨rfl,hb1⟩;rw[HF.out];have hW:ai wr w1:=(by repeat' first|(with_reducible first|exact Below.refl _ _|refine Below.drew ?_|refine ay ?_ _|refine bf ?_ _ ?_|refine aw ?_ (by assumption))|go_size);obtain⟨hc1,hf1⟩:=ki hb1;have hB1:=aw hB hW;have hz1:wr.heap.size<w1.heap.size:=r8 hb1 _ (by simp);obtain⟨⟨x0,y0⟩,⟨x1,y1⟩,⟨x2,y2⟩,g0,g1,g2,yz⟩:=hO.call hW;go_wp2;refine bodyPost_ret (v:=.tuple #[.agg #[.string s,.int .i64 kk,.func (.func fn) #[] #[]],.bool true]) (by simp[results,Tryz.results114,go_sem,y0,y1,y2]) rfl ?_;refine⟨_,rfl,HE.out _ rfl,?_⟩;exact(by repeat' first|(with_reducible first|exact Below.refl _ _|refine Below.drew ?_|refine ay ?_ _|refine bf ?_ _ ?_|refine aw ?_ (by assumption))|go_size)
   ·have HE:Hid (oH hd.toList q (.tuple #[.agg #[.string ⟨#[]⟩,.int .i64 0,.nilFunc],.bool false])):=Or.inr ⟨fun j hj=>HA.out j hj (by have:=xq;omega),rfl⟩;obtain⟨⟨r0,o0⟩,⟨r1,o1⟩,⟨r2,o2⟩,f0,f1,f2,hz⟩:=hO;go_wp2;refine bodyPost_ret (v:=.tuple #[.agg #[.string ⟨#[]⟩,.int .i64 0,.nilFunc],.bool false]) (by simp[results,Tryz.results114,go_sem,o0,o1,o2]) rfl ?_;refine⟨_,rfl,HE.out,?_⟩;exact(by repeat' first|(with_reducible first|exact Below.refl _ _|refine Below.drew ?_|refine ay ?_ _|refine bf ?_ _ ?_|refine aw ?_ (by assumption))|go_size)
 ·obtain rfl:=hn hlt;have hdec:decide ((i:Int)+1<(len:Int))=false:=decide_eq_false (by omega);clear hc hn;go_enter func114,ntmps114;go_wp2;go_loopw [25] (fun v wr=>∃k:Nat,k≤34∧v=.int .i64 (k:Int)∧ai w wr∧Own w.heap.size wr∧Hid (∀j (hj:j<aP.length),j<k→dF (⟨#[]⟩:ByteArray).toList q aP[j].1=false)) (fun v _=>34-(intOf v).toNat)
  case atStart=>exact⟨0,by omega,rfl,by go_grown,wA _ _ _ _ _,fun j _ hj=>absurd hj (Nat.not_lt_zero _)⟩
  case round =>
   obtain⟨k,hk,rfl,hB,hO,HA⟩:=hrel;by_cases hkl:k<34
   ·obtain⟨c0,c1,c2⟩:=hT.2 k hkl;have hg:=hT.1;have d0:=(hB.cell (p:=⟨g,k*3,none⟩) hg).trans c0;have d1:=(hB.cell (p:=⟨g,k*3+1,none⟩) hg).trans c1;have d2:=(hB.cell (p:=⟨g,k*3+2,none⟩) hg).trans c2;clear c0 c1 c2;obtain⟨⟨r0,o0⟩,⟨r1,o1⟩,⟨r2,o2⟩,f0,f1,f2,hz⟩:=hO;have hO:Own w.heap.size wr:=⟨⟨r0,o0⟩,⟨r1,o1⟩,⟨r2,o2⟩,f0,f1,f2,hz⟩;cases hf:gp (aP[k]'hkl).1.2.1 q
    ·have HN:Hid (∀j (hj:j<aP.length),j<k+1→dF (⟨#[]⟩:ByteArray).toList q aP[j].1=false):=HR.out k hkl HA.out (An hf);have HF:Hid (gp (aP[k]'hkl).1.2.1 q=false):=hf;clear hf;generalize du (aP[k]'hkl)=s at d0;generalize (aP[k]'hkl).1.2.1=kk at d1 HF;generalize (aP[k]'hkl).2=fn at d2;go_wp2_with fail;refine(nH s kk q (.func (.func fn) #[] #[]) _).mono ?_;rintro e w1 ⟨rfl,hb1⟩;rw[HF.out];have hW:ai wr w1:=(by repeat' first|(with_reducible first|exact Below.refl _ _|refine Below.drew ?_|refine ay ?_ _|refine bf ?_ _ ?_|refine aw ?_ (by assumption))|go_size);clear hb1;go_wp2;go_roundw
     case rel=>exact⟨k+1,by omega,by go_num,aw hB hW,hO.call hW,HN.out⟩
     case measure=>simp[intOf];omega
    ·cases he:(du (aP[k]'hkl)).toList.isEmpty
     ·have hw:=Ao (h:=(⟨#[]⟩:ByteArray).toList) hf he;cases hq:((du (aP[k]'hkl)).toList==(⟨#[]⟩:ByteArray).toList)
      ·have HN:Hid (∀j (hj:j<aP.length),j<k+1→dF (⟨#[]⟩:ByteArray).toList q aP[j].1=false):=HR.out k hkl HA.out (hw.trans hq);have HF:Hid (gp (aP[k]'hkl).1.2.1 q=true):=hf;clear hf hw;generalize du (aP[k]'hkl)=s at d0 he hq;generalize (aP[k]'hkl).1.2.1=kk at d1 HF;generalize (aP[k]'hkl).2=fn at d2;go_wp2_with fail;refine(nH s kk q (.func (.func fn) #[] #[]) _).mono ?_;rintro e w1 ⟨rfl,hb1⟩;rw[HF.out];have hW:ai wr w1:=(by repeat' first|(with_reducible first|exact Below.refl _ _|refine Below.drew ?_|refine ay ?_ _|refine bf ?_ _ ?_|refine aw ?_ (by assumption))|go_size);obtain⟨hc1,hf1⟩:=ki hb1;go_wp2;go_roundw
       case rel=>exact⟨k+1,by omega,by go_num,aw hB hW,hO.call hW,HN.out⟩
       case measure=>simp[intOf];omega
      ·exfalso;rw[beq_iff_eq]at hq;rw[hq]at he;rw[bE []]at he;exact absurd he (by decide)
     ·have HH:Hid (dF (⟨#[]⟩:ByteArray).toList q (aP[k]'hkl).1=true):=Am hf he;have HF:Hid (gp (aP[k]'hkl).1.2.1 q=true):=hf;have HE:Hid (∀v,v=.tuple #[.agg #[.string (du (aP[k]'hkl)),.int .i64 ((aP[k]'hkl).1.2.1:Int),.func (.func (aP[k]'hkl).2) #[] #[]],.bool true]→oH (⟨#[]⟩:ByteArray).toList q v):=fun v hv=>Or.inl ⟨k,hkl,HH.out,HA.out,hv⟩
      clear hf HH;generalize du (aP[k]'hkl)=s at d0 he HE;generalize (aP[k]'hkl).1.2.1=kk at d1 HF HE;generalize (aP[k]'hkl).2=fn at d2 HE;go_wp2_with fail;refine(nH s kk q (.func (.func fn) #[] #[]) _).mono ?_;rintro e w1 ⟨rfl,hb1⟩;rw[HF.out];have hW:ai wr w1:=(by repeat' first|(with_reducible first|exact Below.refl _ _|refine Below.drew ?_|refine ay ?_ _|refine bf ?_ _ ?_|refine aw ?_ (by assumption))|go_size);obtain⟨hc1,hf1⟩:=ki hb1;have hB1:=aw hB hW;have hz1:wr.heap.size<w1.heap.size:=r8 hb1 _ (by simp);obtain⟨⟨x0,y0⟩,⟨x1,y1⟩,⟨x2,y2⟩,g0,g1,g2,yz⟩:=hO.call hW;go_wp2;refine bodyPost_ret (v:=.tuple #[.agg #[.string s,.int .i64 kk,.func (.func fn) #[] #[]],.bool true]) (by simp[results,Tryz.results114,go_sem,y0,y1,y2]) rfl ?_;refine⟨_,rfl,HE.out _ rfl,?_⟩;exact(by repeat' first|(with_reducible first|exact Below.refl _ _|refine Below.drew ?_|refine ay ?_ _|refine bf ?_ _ ?_|refine aw ?_ (by assumption))|go_size)
   ·have HE:Hid (oH (⟨#[]⟩:ByteArray).toList q (.tuple #[.agg #[.string ⟨#[]⟩,.int .i64 0,.nilFunc],.bool false])):=Or.inr ⟨fun j hj=>HA.out j hj (by have:=xq;omega),rfl⟩;obtain⟨⟨r0,o0⟩,⟨r1,o1⟩,⟨r2,o2⟩,f0,f1,f2,hz⟩:=hO;go_wp2;refine bodyPost_ret (v:=.tuple #[.agg #[.string ⟨#[]⟩,.int .i64 0,.nilFunc],.bool false]) (by simp[results,Tryz.results114,go_sem,o0,o1,o2]) rfl ?_;refine⟨_,rfl,HE.out,?_⟩;exact(by repeat' first|(with_reducible first|exact Below.refl _ _|refine Below.drew ?_|refine ay ?_ _|refine bf ?_ _ ?_|refine aw ?_ (by assumption))|go_size)
theorem Oh:(pU.all fun x=>(x.toList==[110,111,110,101])||(bt x&&aP.any fun y=>(du y).toList==x.toList))=true:=by decide +kernel
theorem Ge:(aP.all fun y=>!bt (du y)||gB (du y))=true:=by decide +kernel
theorem CM{s:ByteArray}(h:(s.toList==[110,111,110,101])=true):gB s=true:=by
 have e:s=⟨#[110,111,110,101]⟩:=aZ h;rw[e];decide +kernel
theorem Lz{s:ByteArray}{k:Nat}(hk:k<aP.length)(h:((du aP[k]).toList==s.toList)=true)(hn:bt s=true):gB s=true:=by
 rw[beq_iff_eq,ByteArray.toList_eq,ByteArray.toList_eq]at h;have e:=jS h;have:=(List.all_eq_true.mp Ge) _ (List.getElem_mem hk);rw[e,hn]at this;simpa using this
theorem LA{s:ByteArray}(h0:(s.toList==[110,111,110,101])=false)(h:∀k (hk:k<aP.length),((du aP[k]).toList==s.toList&&bt s)=false):gB s=false:=by
 cases hr:gB s
 ·rfl
 ·have hm:=(CK s).mp hr;have:=(List.all_eq_true.mp Oh) _ hm;rw[h0,Bool.false_or,Bool.and_eq_true,List.any_eq_true]at this;obtain⟨hn,y,hy,he⟩:=this;obtain⟨k,hk,rfl⟩:=List.getElem_of_mem hy;have:=h k hk;rw[he,hn]at this;exact absurd this (by decide)
theorem L3:kA 0 0 ⟨#[]⟩=⟨#[110,111,110,101]⟩:=by rw[xb (by decide)];simp[eU,et,iV,ByteArray.toList_eq]
theorem LC(g:Nat)(s:ByteArray)(w:World)(hT:jx w g)(ht:dj w)(hs:s.size≤maxLen) :
  ah 184 #[.slice (some ⟨g,0,none⟩) 34 34,.string s] w (aA (.bool (gB s)) w):=by
 have HG:=aj L3;have hlit:(⟨#[110,111,110,101]⟩:ByteArray).toList=[110,111,110,101]:=bE [110,111,110,101];cases hq:(s.toList==[110,111,110,101])
 ·have hq2:(s.toList==(⟨#[110,111,110,101]⟩:ByteArray).toList)=false:=by rw[hlit];exact hq
  have HQ:=aj hq;clear hlit;go_enter func184,ntmps184;go_wp2_with fail;refine(xh 0 0 ⟨#[]⟩ _ (by decide) ht).mono ?_;rintro e w1 ⟨rfl,hb1⟩;rw[HG.out];have hT1:=hT.call hb1;go_wp2;go_loopw [13] (fun v wr=>∃k:Nat,k≤34∧v=.int .i64 (k:Int)∧ai w1 wr∧Hid (∀j (hj:j<aP.length),j<k→((du aP[j]).toList==s.toList&&bt s)=false)) (fun v _=>34-(intOf v).toNat)
  case atStart=>exact⟨0,by omega,rfl,Below.refl _ _,fun j _ hj=>absurd hj (Nat.not_lt_zero _)⟩
  case round =>
   obtain⟨k,hk,rfl,hB,HA⟩:=hrel;by_cases hkl:k<34
   ·obtain⟨c0,c1,c2⟩:=hT1.2 k hkl;have hg:=hT1.1;have d0:=(hB.cell (p:=⟨g,k*3,none⟩) hg).trans c0;have d1:=(hB.cell (p:=⟨g,k*3+1,none⟩) hg).trans c1;have d2:=(hB.cell (p:=⟨g,k*3+2,none⟩) hg).trans c2;clear c0 c1 c2 hq hq2;have HR:Hid (((du (aP[k]'hkl)).toList==s.toList&&bt s)=false→∀j (hj:j<aP.length),j<k+1→((du aP[j]).toList==s.toList&&bt s)=false):=fun hx j hj hjk=>by
     by_cases e:j=k
     ·subst e;exact hx
     ·exact HA.out j hj (by omega)
    have HY:Hid (((du (aP[k]'hkl)).toList==s.toList)=true→bt s=true→gB s=true):=fun h1 h2=>Lz hkl h1 h2
    generalize du (aP[k]'hkl)=x at d0 HR HY;generalize (aP[k]'hkl).1.2.1=kk at d1;generalize (aP[k]'hkl).2=fn at d2;cases he:(x.toList==s.toList)
    ·have HN:Hid (∀j (hj:j<aP.length),j<k+1→((du aP[j]).toList==s.toList&&bt s)=false):=HR.out (by rw[he];rfl);clear HR HY;go_wp2;go_roundw
     case rel=>exact⟨k+1,by omega,by go_num,(by repeat' (first|(with_reducible exact Below.refl _ _)|(with_reducible refine Below.drew ?_)|(with_reducible refine ay ?_ _)|(with_reducible refine bf ?_ _ ?_)|(with_reducible assumption)|(with_reducible refine aw ?_ (by with_reducible assumption))|go_size)),HN.out⟩
     case measure=>simp[intOf];omega
    ·cases hn:bt s
     ·have HM:=aj hn;clear HR HY hn;go_wp2_with fail;refine(py s _ hs).mono ?_;rintro e w2 ⟨rfl,rfl⟩;rw[HM.out];go_wp2;go_roundw
      case rel=>exact⟨k+1,by omega,by go_num,(by repeat' (first|(with_reducible exact Below.refl _ _)|(with_reducible refine Below.drew ?_)|(with_reducible refine ay ?_ _)|(with_reducible refine bf ?_ _ ?_)|(with_reducible assumption)|(with_reducible refine aw ?_ (by with_reducible assumption))|go_size)),fun j hj _=>Bool.and_false _⟩
      case measure=>simp[intOf];omega
     ·have HZ:Hid (gB s=true):=HY.out he hn;have HM:=aj hn;clear HR HY hn;go_wp2_with fail;refine(py s _ hs).mono ?_;rintro e w2 ⟨rfl,rfl⟩;rw[HM.out];go_wp2;go_ret;exact⟨by rw[HZ.out];rfl,(by repeat' first|(with_reducible first|exact Below.refl _ _|refine Below.drew ?_|refine ay ?_ _|refine bf ?_ _ ?_|refine aw ?_ (by assumption))|go_size)⟩
   ·have HZ:Hid (gB s=false):=LA HQ.out fun j hj=>HA.out j hj (by have:=xq;omega)
    clear hq hq2;go_wp2;go_ret;exact⟨by rw[HZ.out];rfl,aw hb1 hB⟩
 ·have hq2:(s.toList==(⟨#[110,111,110,101]⟩:ByteArray).toList)=true:=by rw[hlit];exact hq
  have HZ:Hid (gB s=true):=CM hq;clear hlit;go_enter func184,ntmps184;go_wp2_with fail;refine(xh 0 0 ⟨#[]⟩ _ (by decide) ht).mono ?_;rintro e w1 ⟨rfl,hb1⟩;rw[HG.out];go_wp2;go_ret;exact⟨by rw[HZ.out];rfl,hb1⟩
theorem wh(g:Nat)(s:ByteArray)(w:World)(hT:jx w g)(ht:dj w)(hs:s.size≤maxLen) :
  ah 154 #[.slice (some ⟨g,0,none⟩) 34 34,.string s] w (aA (.bool (aV s)) w):=by
 cases hn:bt s
 ·have HN:=aj hn;have HB:=aj (by unfold aV;rw[hn];rfl:aV s=false);clear hn;go_enter func154,ntmps154;go_wp2_with fail;refine(py s _ hs).mono ?_;rintro e w1 ⟨rfl,rfl⟩;rw[HN.out];go_wp2;go_ret;exact⟨by rw[HB.out];rfl,Below.refl _ _⟩
 ·have HN:=aj hn;have HB:=aj (by unfold aV;rw[hn];rfl:aV s=!gB s);clear hn;go_enter func154,ntmps154;go_wp2_with fail;refine(py s _ hs).mono ?_;rintro e w1 ⟨rfl,rfl⟩;rw[HN.out];go_wp2_with fail;refine(LC g s _ hT ht hs).mono ?_;rintro e w2 ⟨rfl,hb⟩;generalize gB s=q at HB ⊢;go_wp2;go_ret;exact⟨by rw[HB.out];rfl,hb⟩
theorem B2(s:ByteArray):ic s=(fq s||aV s):=by
 unfold ic fq nY ae;rfl
theorem uT(g:Nat)(s:ByteArray)(q:Nat)(w:World)(hT:jx w g)(ht:dj w)(hs:s.size≤maxLen) :
  ah 115 #[.slice (some ⟨g,0,none⟩) 34 34,.string s,.int .i64 q] w (aA (.bool (iu s q)) w):=by
 by_cases h1:q=1
 ·subst h1;have e1:=B2 s;cases hv:fq s
  ·have HA:=aj (by show ic s=aV s;rw[e1,hv];rfl:iu s 1=aV s);have HV:=aj hv;clear hv e1;go_enter func115,ntmps115;go_wp2_with fail;refine(tW s _ hs ht).mono ?_;rintro e w1 ⟨rfl,hb1⟩;rw[HV.out];generalize ik s=tk;generalize il s=tn;generalize im s=tt;have hW:ai w1 (w1.alloc (.cells #[.int .i64 tk,.int .i64 tn,.string tt] 171)):=ay (Below.refl _ _) _;have hB:=aw hb1 hW;go_wp2_with fail;refine(wh g s _ (hT.call hB) (ig ht hB) hs).mono ?_;rintro e w2 ⟨rfl,hb2⟩;generalize aV s=n at HA ⊢;go_wp2;go_ret;exact⟨by rw[HA.out];rfl,aw hB hb2⟩
  ·have HA:=aj (by show ic s=true;rw[e1,hv];rfl:iu s 1=true);have HV:=aj hv;clear hv e1;go_enter func115,ntmps115;go_wp2_with fail;refine(tW s _ hs ht).mono ?_;rintro e w1 ⟨rfl,hb1⟩;rw[HV.out];generalize ik s=tk;generalize il s=tn;generalize im s=tt;go_wp2;go_ret;exact⟨by rw[HA.out];rfl,(by repeat' (first|(with_reducible exact Below.refl _ _)|(with_reducible refine Below.drew ?_)|(with_reducible refine ay ?_ _)|(with_reducible refine bf ?_ _ ?_)|(with_reducible assumption)|(with_reducible refine aw ?_ (by with_reducible assumption))|go_size))⟩
 have b1:((q:Int)==1)=false:=by simp;omega
 by_cases h46:q=4∨q=6
 ·have HA:=aj (by unfold iu;rw[if_neg h1,if_pos h46]:iu s q=aV s);rcases h46 with rfl|rfl
  ·clear h1 b1;go_enter func115,ntmps115;go_wp2_with fail;refine(wh g s _ hT ht hs).mono ?_;rintro e w2 ⟨rfl,hb2⟩;generalize aV s=n at HA ⊢;go_wp2;go_ret;exact⟨by rw[HA.out];rfl,hb2⟩
  ·clear h1 b1;go_enter func115,ntmps115;go_wp2_with fail;refine(wh g s _ hT ht hs).mono ?_;rintro e w2 ⟨rfl,hb2⟩;generalize aV s=n at HA ⊢;go_wp2;go_ret;exact⟨by rw[HA.out];rfl,hb2⟩
 ·have HA:=aj (by unfold iu;rw[if_neg h1,if_neg h46]:iu s q=false);have b4:((q:Int)==4)=false:=by simp;omega
  have b6:((q:Int)==6)=false:=by simp;omega
  clear h1 h46;go_enter func115,ntmps115;go_wp2;go_ret;exact⟨by rw[HA.out];rfl,Below.refl _ _⟩
def ua(W0:World)(v:Value)(t:List Nat × Option Nat):Prop :=
 ∃f cap,v=.func (.func f) #[] cap∧(∀args w,(callFunc f args).run prog w=.ok (.enter f args) w)∧∀w,ai W0 w→gR f cap t w
theorem Im(W0:World)(k:Nat)(hk:k<aP.length):ua W0 (.func (.func aP[k].2) #[] #[]) (aP[k].1.2.2.1,aP[k].1.2.2.2):=by
 have h34:k<34:=hk;match k,h34 with
 |0,_|1,_|2,_|3,_|4,_|5,_|9,_|12,_=>exact⟨_,_,rfl,Tryz.call95,fun w _=>Ip w⟩
 |6,_=>exact⟨_,_,rfl,Tryz.call96,fun w _=>Ih w⟩
 |7,_=>exact⟨_,_,rfl,Tryz.call97,fun w _=>Ij w⟩
 |8,_|10,_=>exact⟨_,_,rfl,Tryz.call98,fun w _=>H7 w⟩
 |11,_|25,_|26,_=>exact⟨_,_,rfl,Tryz.call99,fun w _=>If w⟩
 |13,_|14,_|18,_|33,_=>exact⟨_,_,rfl,Tryz.call100,fun w _=>Ia w⟩
 |15,_=>exact⟨_,_,rfl,Tryz.call101,fun w _=>Ie w⟩
 |16,_|17,_=>exact⟨_,_,rfl,Tryz.call102,fun w _=>Hy w⟩
 |19,_=>exact⟨_,_,rfl,Tryz.call103,fun w _=>Hx w⟩
 |20,_=>exact⟨_,_,rfl,Tryz.call104,fun w _=>Il w⟩
 |21,_=>exact⟨_,_,rfl,Tryz.call105,fun w _=>Ik w⟩
 |22,_=>exact⟨_,_,rfl,Tryz.call106,fun w _=>Ic w⟩
 |23,_|24,_|28,_=>exact⟨_,_,rfl,Tryz.call107,fun w _=>Ig w⟩
 |27,_|30,_=>exact⟨_,_,rfl,Tryz.call108,fun w _=>Io w⟩
 |29,_=>exact⟨_,_,rfl,Tryz.call109,fun w _=>Ib w⟩
 |31,_=>exact⟨_,_,rfl,Tryz.call110,fun w _=>Ii w⟩
 |32,_=>exact⟨_,_,rfl,Tryz.call111,fun w _=>Hz w⟩
 |n+34,h=>exact absurd h (by omega)
theorem H9(W:World)(B q:Nat)(hc:W.cell? ⟨B,0,none⟩=some (.int .i64 q)):gR 112 #[.pointer (some ⟨B,0,none⟩)] ([q],none) W:=fun n hn=>by
 show ah 112 #[.int .i64 n,.pointer (some ⟨B,0,none⟩)] W _;by_cases h0:n=0
 ·subst h0;go_enter func112,ntmps112;go_wp2;go_ret2;exact⟨rfl,by go_grown⟩
 obtain⟨m,rfl⟩:∃m,n=m+1:=⟨n-1,by omega⟩;have HW:Hid (br (bh ([q],none) (m+1))=0∧cw (bh ([q],none) (m+1))=true):=⟨by simp[bh,br],by simp[bh,cw]⟩;rw[HW.out.1,HW.out.2];go_enter func112,ntmps112;go_wp2;go_ret2;exact⟨rfl,by go_grown⟩
def lj:List (Value × Nat)→List Value
 |[]=>[]
 |x::R=>lj R++[x.1,.int .i64 (x.2:Int)]
theorem sG:∀R,(lj R).length=R.length*2
 |[]=>rfl
 |x::R=>by
  show(lj R++[x.1,.int .i64 (x.2:Int)]).length=(R.length+1)*2;rw[List.length_append,sG R];simp;omega
def my(W0:World):List (Value × Nat)→List (List Nat × Option Nat)→Prop
 |[],[]=>True
 |x::R,t::S=>(∃l,ua W0 x.1 l∧t=bh l x.2∧jG l)∧my W0 R S
 |_,_=>False
theorem my.len{W0:World}:∀{R S},my W0 R S→R.length=S.length
 |[],[],_=>rfl
 |_::_,_::_,h=>by simp[my.len h.2]
 |[],_::_,h=>h.elim
 |_::_,[],h=>h.elim
def iD(w:World)(B:Nat)(v:Value)(R:List (Value × Nat)):Prop:=w.ownsRow B 123 2 v R.length (lj R)
section
variable {w:World} {B g cap:Nat} {v:Value} {x:Value × Nat} {R:List (Value × Nat)}
theorem iD.shape(h:iD w B v (x::R)):∃g cap,v=.slice (some ⟨g,0,none⟩) (R.length+1) cap∧B≤g∧g<w.heap.size∧R.length+1≤cap∧cap≤maxLen:=by
 rcases h.2 with⟨rfl,hn⟩|⟨g,cap,cur,rfl,hb,hg,hnc,hcm,_⟩
 ·simp at hn
 ·exact⟨g,cap,rfl,hb,(Array.getElem?_eq_some_iff.1 hg).1,hnc,hcm⟩
theorem iD.top(h:iD w B (.slice (some ⟨g,0,none⟩) (R.length+1) cap) (x::R)):w.cell? ⟨g,R.length*2,none⟩=some x.1∧w.cell? ⟨g,R.length*2+1,none⟩=some (.int .i64 (x.2:Int))∧w.frozen? ⟨g,R.length*2+1,none⟩=false:=by
 have hc:=World.ownsRow.cells h (g:=g) rfl;have hl:=sG R;have hadd:∀j,(⟨g,0,none⟩:Addr).add j=⟨g,j,none⟩:=fun j=>by unfold Addr.add;split<;>simp_all
 refine⟨?_,?_,World.ownsRow.frozenAt h _⟩
 ·have:=hc (R.length*2) x.1 (by show(lj R++[x.1,.int .i64 (x.2:Int)])[R.length*2]?=_;rw[List.getElem?_append_right (by omega),hl];simp);rwa [hadd]at this
 ·have:=hc (R.length*2+1) (.int .i64 (x.2:Int)) (by show(lj R++[x.1,.int .i64 (x.2:Int)])[R.length*2+1]?=_;rw[List.getElem?_append_right (by omega),hl];simp);rwa [hadd]at this
theorem iD.count(h:iD w B (.slice (some ⟨g,0,none⟩) (R.length+1) cap) (x::R))(c:Nat):iD (w.setCell ⟨g,R.length*2+1,none⟩ (.int .i64 c)) B (.slice (some ⟨g,0,none⟩) (R.length+1) cap) ((x.1,c)::R)∧w.grownBy (w.setCell ⟨g,R.length*2+1,none⟩ (.int .i64 c)) (some g):=by
 have hs:=World.ownsRow.stored h (R.length*2+1) (.int .i64 c);refine⟨?_,hs.2⟩;have hl:=sG R;have e:(lj (x::R)).set (R.length*2+1) (.int .i64 c)=lj ((x.1,c)::R):=by
  show(lj R++[x.1,.int .i64 (x.2:Int)]).set (R.length*2+1) (.int .i64 c)=lj R++[x.1,.int .i64 c];rw[List.set_append_right _ _ (by omega),hl,show R.length*2+1-R.length*2=1 by omega];rfl
 have h1:=hs.1;rw[e]at h1;exact h1
theorem iD.pop(h:iD w B (.slice (some ⟨g,0,none⟩) (R.length+1) cap) (x::R)):iD w B (.slice (some ⟨g,0,none⟩) R.length cap) R :=
 ownsRow_pop (sG R) h
theorem iD.call{w':World}(h:iD w B v R)(hb:ai w w'):iD w' B v R:=by
 refine⟨h.1,?_⟩;rcases h.2 with hn|⟨g,cap,cur,rfl,hB,hg,rest⟩
 ·exact .inl hn
 ·have hlt:g<w.heap.size:=(Array.getElem?_eq_some_iff.1 hg).1;exact .inr ⟨g,cap,cur,rfl,hB,(hb.block g hlt).trans hg,rest⟩
end
theorem Kh(w:World)(F:Value):iD (w.alloc (.cells #[F,.int .i64 0] 123)) w.heap.size (.slice (some ⟨w.heap.size,0,none⟩) 1 1) [(F,0)] :=
 ⟨rfl,.inr ⟨w.heap.size,1,#[F,.int .i64 0],rfl,Nat.le_refl _,heap_alloc_new w _,Nat.le_refl _,by unfold maxLen;omega,rfl,rfl⟩⟩
theorem Gp:(Tryz.prog.info? 123).map (fun i=>(i.zero,i.size,i.bytes))=some (some (.agg #[.nilFunc,.int .i64 0]),2,16):=by kernel_rfl
theorem JR{h:List UInt8}{q:Nat}(hA:∀j (hj:j<aP.length),dF h q aP[j].1=false):cP h q=none:=by
 unfold cP;rw[List.find?_eq_none];intro x hx;rw[←Dl,List.mem_map]at hx;obtain⟨y,hy,rfl⟩:=hx;obtain⟨j,hj,rfl⟩:=List.getElem_of_mem hy;rw[hA j hj];decide
theorem B3{h:List UInt8}{q k:Nat}(hk:k<aP.length)(hh:dF h q aP[k].1=true)(hA:∀j (hj:j<aP.length),j<k→dF h q aP[j].1=false):cP h q=some aP[k].1:=by
 unfold cP;rw[List.find?_eq_some_iff_getElem];have hl:iI.length=aP.length:=rfl;have hg:∀j (hj:j<aP.length),iI[j]'(by rw[hl];exact hj)=aP[j].1:=fun j hj=>by
  simp only[←Dl,List.getElem_map]
 refine⟨hh,k,by rw[hl];exact hk,hg k hk,fun j hj=>?_⟩;rw[hg j (by omega),hA j (by omega) hj];rfl
theorem r6{B:Nat}{w W:World}(h:Below B w W)(o:Obj)(hB:B≤w.heap.size:=by first|exact Nat.le_refl _|omega):Below B w (W.alloc o):=h.alloc (Nat.le_trans hB h.size) o
set_option maxRecDepth 100000 in
theorem E8(g:Nat)(a:Option Addr)(cap:Nat)(L:af)(at0:Nat)(q:Nat)(w:World)(hT:jx w g)(ht:dj w)(h:aD w a L)(hL:L.length≤1048576)(hq:q≤7)(hat:at0<L.length) :
  ah 59 #[.slice (some ⟨g,0,none⟩) 34 34,.slice a L.length cap,.int .i64 at0,.int .i64 q] w (aA (.int .i64 (de L (at0:Int) ([q],none) [])) w):=by
 have hg:=hT.1;obtain⟨i0,hi,hz0,hz1,hz2⟩:=info_parts Gp;obtain⟨W0,hW0⟩:∃W0,W0=w.alloc (.cells #[.int .i64 q] 2):=⟨_,rfl⟩;have hsz:W0.heap.size=w.heap.size+1:=by rw[hW0];simp
 have hbw:ai w W0:=by rw[hW0];exact ay (Below.refl _ _) _
 have hcq:W0.cell? ⟨w.heap.size,0,none⟩=some (.int .i64 q):=by rw[hW0];simp[go_sem]
 have HB:Hid (∀wr,ai W0 wr→ai w wr):=fun wr hb=>aw hbw hb
 have HL:Hid (ua W0 (.func (.func 112) #[] #[.pointer (some ⟨w.heap.size,0,none⟩)]) ([q],none)) :=
  ⟨_,_,rfl,Tryz.call112,fun w' hb=>H9 w' _ q ((hb.cell (p:=⟨w.heap.size,0,none⟩) (by rw[hsz];exact Nat.lt_succ_self _)).trans hcq)⟩
 have hgW:g<W0.heap.size:=by omega
 have HT0:Hid (jx W0 g∧aD W0 a L∧dj W0):=⟨hT.call hbw,h.call hbw,ig ht hbw⟩;go_enter func59,ntmps59;go_wp2;rw[←hW0];have HZ:=aj hsz;clear hsz hbw hcq hW0;go_loopw [9,10] (fun v9 v10 wr=>∃(i:Nat) (R:List (Value × Nat)) (t:List Nat × Option Nat) (S:List (List Nat × Option Nat)),v10=.int .i64 (i:Int)∧iD wr W0.heap.size v9 R∧Hid (my W0 R (t::S)∧∀x∈R,x.2≤i)∧R.length≤i+1∧i≤L.length+1∧ai W0 wr∧Hid (S=[]→t=([q],none))∧Hid (de L (i:Int) t S=de L (at0:Int) ([q],none) [])) (fun _ v10 _=>L.length+2-(intOf v10).toNat)
 case atStart =>
  rw[←HZ.out];exact⟨at0,[(_,0)],([q],none),[],rfl,Kh _ _,⟨⟨⟨_,HL.out,rfl,⟨fun p hp=>by rw[List.mem_singleton]at hp;omega,Or.inl rfl⟩⟩,trivial⟩,fun x hx=>by rw[List.mem_singleton]at hx;rw[hx];exact Nat.zero_le _⟩,by simp,by omega,ay (Below.refl _ _) _,fun _=>rfl,rfl⟩
 case round =>
  obtain⟨i,R,t,S,rfl,hO,HS,hR,hil,hB,HT,HM⟩:=hrel;by_cases hlt:i<L.length
  ·obtain⟨x,R',rfl⟩:∃x R',R=x::R':=by
    cases R with
    |nil=>exact HS.out.1.elim
    |cons x R'=>exact⟨x,R',rfl⟩
   obtain⟨F,c⟩:=x
   obtain⟨⟨⟨l,hlv,htl,hok⟩,hst⟩,hcs⟩:=HS.out
   have hci:c≤i:=hcs _ (List.mem_cons_self ..)
   have hlv0:=hlv
   obtain⟨f,cp,hFe,hcall,hlay⟩:=hlv
   simp only at hFe htl
   subst hFe
   obtain⟨gb,cp2,rfl,hgB,hgz,hcap1,hcap2⟩:=hO.shape
   obtain⟨hF,hc,hfz⟩:=hO.top
   have hlayC:=hlay wr.drew hB.drew c (by omega)
   simp only at hF hc
   rw[←htl]at hlayC
   have hRl:(R'.length:Int)+1-1=(R'.length:Int):=by omega
   simp only[List.length_cons]at hR
   have HTL:=aj htl
   clear htl
   go_upto_region 6 with fail
   go_cut [12,13]from 20 to 101 (fun v12 v13 wc=>v12=.int .i64 (br t:Int)∧v13=.bool (cw t)∧ai wr wc)
   case first =>
    first|go_region_with (refine hlayC.mono ?_;rintro e w1 ⟨rfl,hb1⟩)|fail
    all_goals go_wp2_with fail
    all_goals go_meet
    all_goals exact⟨rfl,rfl,⟨hb1.os,hb1.tape,hb1.output,hb1.size,hb1.block⟩⟩
   case rest =>
   obtain⟨rfl,rfl,hbc⟩:=hcut
   have htl:=HTL.out
   clear HTL
   clear hlayC hlay hcall hF hc hfz
   have hO1:=hO.call hbc
   have hB1:ai W0 wc:=hB.trans (hbc.mono hB.size)
   clear hO hB
   obtain⟨hF,hc,hfz⟩:=hO1.top
   obtain⟨hO2,hgr⟩:=hO1.count (c+1)
   simp only at hF hc
   have hcst:(((c+1:Nat):Int))=(c:Int)+1:=by omega
   rw[hcst]at hO2 hgr
   clear hcst
   obtain⟨hT1,hA1,ht1⟩:=HT0.out
   obtain⟨sb,off,rfl,hsb,hs0,hsm⟩:=hA1 i hlt
   have HSG:=aj (by rw[eT (by omega) (by omega)];rfl:aa L (i:Int)=L[i])
   go_upto_region 8 with fail
   obtain⟨w2,hw2⟩:∃w2,w2=wc.setCell ⟨gb,R'.length*2+1,none⟩ (.int .i64 ((c:Int)+1)):=⟨_,rfl⟩
   have hB2:ai W0 w2:=by rw[hw2];exact hB1.setCell (p:=⟨gb,R'.length*2+1,none⟩) hgB _
   rw[←hw2]at hO2
   have hs2:=(hB2.cell (p:=⟨sb,off+i,none⟩) hsb).trans hs0
   rw[←hw2]
   clear hw2 hF hc hfz hO1 hB1 hbc hgr hs0
   have hT2:=hT1.call hB2
   have ht2:=ig ht1 hB2
   have hbw2:=HB.out _ hB2
   have hh0:(0:Int)≤(i:Int):=by omega
   have hh1:(i:Int)<(L.length:Int):=by omega
   have HN:Hid (my W0 ((.func (.func f) #[] cp,c+1)::R') (gN t::S)):=⟨⟨l,hlv0,by rw[htl];simp[gN,bh],hok⟩,hst⟩
   have HC:Hid (∀x∈(Value.func (.func f) #[] cp,c+1)::R',x.2≤i+1):=fun x hx=>by
    rcases List.mem_cons.mp hx with rfl|hx
    ·show c+1≤i+1;omega
    ·have:=hcs x (List.mem_cons_of_mem _ hx);omega
   have hlen:=my.len hst
   cases h41:ae L[i] [41]
   ·cases h40:ae L[i] [40]
    ·have b41:(L[i].toList==[41])=false:=h41;have b40:(L[i].toList==[40])=false:=h40;rw[←HSG.out]at h41 h40;cases hal:iu L[i] (br t)
     ·have HE:=aj (by rw[←HM.out];exact Bm hh0 hh1 h41 h40 (by rw[HSG.out];exact hal):de L (at0:Int) ([q],none) []=-1);have HA:Hid (iu L[i] (br t)=false):=hal;clear hal HM HS h41 h40 HSG HT HN HC hst hok htl hcs;generalize L[i]=sg at hs2 hsm b41 b40 HA;go_wp2_with fail;refine(uT g sg (br t) w2 hT2 ht2 hsm).mono ?_;rintro e w3 ⟨rfl,hb3⟩;rw[HA.out];go_wp2;go_ret;exact⟨by rw[HE.out];rfl,aw hbw2 hb3⟩
     ·have HA:Hid (iu L[i] (br t)=true):=hal;cases hSS:S with
      |nil =>
       subst hSS;have HE:=aj (by rw[←HM.out];exact Bn hh0 hh1 h41 h40 (by rw[HSG.out];exact hal):de L (at0:Int) ([q],none) []=(i:Int)+1);have hr0:R'.length=0:=hlen;have hl1:((R'.length:Int)+1==1)=true:=by simp;omega
       clear hal HM HS h41 h40 HSG HT HN HC hst hok htl hcs hlen hr0;generalize L[i]=sg at hs2 hsm b41 b40 HA;go_wp2_with fail;refine(uT g sg (br t) w2 hT2 ht2 hsm).mono ?_;rintro e w3 ⟨rfl,hb3⟩;rw[HA.out];go_wp2;go_ret;exact⟨by rw[HE.out];rfl,aw hbw2 hb3⟩
      |cons u S' =>
       subst hSS;have HE:=aj (by rw[←HM.out,Bj hh0 hh1 h41 h40 (by rw[HSG.out];exact hal)];rfl:de L ((i+1:Nat):Int) (gN t) (u::S')=de L (at0:Int) ([q],none) []);have hr0:R'.length=S'.length+1:=hlen;have hl1:((R'.length:Int)+1==1)=false:=by simp;omega
       clear hal HM HS h41 h40 HSG HT hst hok htl hcs hlen hr0;generalize L[i]=sg at hs2 hsm b41 b40 HA;go_wp2_with fail;refine(uT g sg (br t) w2 hT2 ht2 hsm).mono ?_;rintro e w3 ⟨rfl,hb3⟩;rw[HA.out];have hO3:=hO2.call hb3;have hB3:ai W0 w3:=hB2.trans (hb3.mono hB2.size);go_wp2;go_roundw
       case rel =>
        exact⟨i+1,_,gN t,u::S',by go_num,hO3,⟨HN.out,HC.out⟩,by simp only[List.length_cons];omega,by omega,hB3,fun h=>absurd h (by simp),HE.out⟩
       case measure=>simp[intOf];omega
    ·have b41:(L[i].toList==[41])=false:=h41;have b40:(L[i].toList==[40])=true:=h40;rw[←HSG.out]at h41 h40;have hop1:i+1<L.length→∃sb' off',some (⟨sb,off,none⟩:Addr)=some ⟨sb',off',none⟩∧w2.cell? ⟨sb',off'+(i+1),none⟩=some (.string (aa L ((i:Int)+1)))∧sb'<w2.heap.size:=fun hl2=>by
      obtain⟨sb',off',he',hs',hc',_⟩:=hA1 (i+1) hl2;refine⟨sb',off',he',?_,Nat.lt_of_lt_of_le hs' hB2.size⟩;rw[show aa L ((i:Int)+1)=L[i+1]from by rw[eT (by omega) (by omega)];rfl];exact(hB2.cell (p:=⟨sb',off'+(i+1),none⟩) hs').trans hc'
     have hop2:¬i+1<L.length→aa L ((i:Int)+1)=⟨#[]⟩:=fun hl2=>fZ (by omega)
     have hOP:=JY g (some ⟨sb,off,none⟩) cap L.length i (br t) (aa L ((i:Int)+1)) w2 hT2 hL hlt hop1 hop2;have HBad:Hid (cP (aa L ((i:Int)+1)).toList (br t)=none→de L (at0:Int) ([q],none) []=-1):=fun hn=>by rw[←HM.out];exact Bh hh0 hh1 h41 h40 hn
     have HGood:Hid (∀gg,cP (aa L ((i:Int)+1)).toList (br t)=some gg→de L (if gg.1.isEmpty then(i:Int)+1 else(i:Int)+2) (gg.2.2.1,gg.2.2.2) (gN t::S)=de L (at0:Int) ([q],none) []):=fun gg hn=>by rw[←HM.out];exact(Bo hh0 hh1 h41 h40 hn).symm
     clear hop1 hop2 HM HS h41 h40 HSG HT hok htl hcs hlen;generalize L[i]=sg at hs2 hsm b41 b40;go_wp2_with fail;refine hOP.mono ?_;rintro e w3 ⟨v,rfl,hv,hb3⟩;have hO3:=hO2.call hb3;have hB3:ai W0 w3:=hB2.trans (hb3.mono hB2.size);have hbw3:=aw hbw2 hb3;clear hOP hb3;rcases hv with⟨k,hk,hhit,hbef,rfl⟩|⟨hall,rfl⟩
     ·have HG2:=HGood.out _ (B3 hk hhit hbef);have hLV:=Im W0 k hk;have hLO:jG (aP[k].1.2.2.1,aP[k].1.2.2.2):=wy (B3 hk hhit hbef);have HD:Hid ((du aP[k]).toList=aP[k].1.1):=vm _;have HNN:Hid (my W0 ((.func (.func aP[k].2) #[] #[],0)::(.func (.func f) #[] cp,c+1)::R') ((aP[k].1.2.2.1,aP[k].1.2.2.2)::gN t::S)):=⟨⟨_,hLV,rfl,hLO⟩,HN.out⟩;clear hhit hbef HGood HBad hLV hLO;generalize hhd:du aP[k]=hd at HD;clear hhd;generalize ((aP[k].1.2.1:Nat):Int)=kk;cases he:hd.toList.isEmpty
      ·rw[HD.out]at he;rw[he]at HG2;rw[←HD.out]at he;have HE:Hid (de L ((i+2:Nat):Int) (aP[k].1.2.2.1,aP[k].1.2.2.2) (gN t::S)=de L (at0:Int) ([q],none) []):=HG2;clear HG2 HD;generalize aP[k].2=fn at HNN;have hz3:gb<w3.heap.size:=hO3.shape.elim fun _ ⟨_,e,_,hz,_⟩=>by cases e;exact hz
       have hzW:W0.heap.size≤w3.heap.size:=hB3.size;have HO3:=aj hO3;clear hO3;go_wp2_with (at_builtin;refine wpList_append_own _ rfl (.tmp 86) (.tmp 90) 124 rfl W0.heap.size 123 i0 (.agg #[.nilFunc,.int .i64 0]) 2 16 Tryz.underlying124 hi hz0 hz1 hz2 rfl (by decide) _ _ _ rfl (World.ownsRow.alloc (World.ownsRow.alloc HO3.out _) _) ⟨w3.heap.size+1,0,none⟩ 1 1 [.func (.func fn) #[] #[],.int .i64 0] rfl rfl ?c1 ?c2 ?c3 ?c4 ?c5 ?_)
       case c1 =>
        intro j u hj;match j,hj with
        |0,hj=>simp at hj;subst hj;simp[Addr.add,go_sem]
        |1,hj=>simp at hj;subst hj;simp[Addr.add,go_sem]
       case c2=>intro u hu;simp at hu;rcases hu with rfl|rfl<;>rfl
       case c3=>unfold maxLen;simp only[List.length_cons];omega
       case c4=>simp only[List.length_cons];omega
       case c5=>simp;omega
       intro v' w4 hown' hgrow _;have hO4:iD w4 W0.heap.size v' ((.func (.func fn) #[] #[],0)::(.func (.func f) #[] cp,c+1)::R'):=hown';have hB4:ai W0 w4:=(r6 (r6 hB3 _) _).grown hgrow (by simp;omega) (fun k hk=>by cases hk;exact hgB);have h14:w4.cell? ⟨w3.heap.size,0,none⟩=some (.string hd):=hgrow.cell (by simp[go_sem]) (by simp[Value.ownBlock];omega);obtain⟨gb4,cap4,rfl,hgb4,hgz4,hc41,hc42⟩:=hO4.shape;have hbw4:=HB.out _ hB4;have hl1:((R'.length:Int)+1+1==1)=false:=by simp;omega
       clear hown' hgrow;go_wp2;go_roundw
       case rel =>
        exact⟨i+2,_,_,gN t::S,by go_num,hO4,⟨HNN.out,fun x hx=>by
         rcases List.mem_cons.mp hx with rfl|hx
         ·exact Nat.zero_le _
         ·have:=HC.out x hx;omega⟩,by simp only[List.length_cons];omega,by omega,hB4,fun h=>absurd h (by simp),HE.out⟩
       case measure=>simp[intOf];omega
      ·rw[HD.out]at he;rw[he]at HG2;rw[←HD.out]at he;have HE:Hid (de L ((i+1:Nat):Int) (aP[k].1.2.2.1,aP[k].1.2.2.2) (gN t::S)=de L (at0:Int) ([q],none) []):=HG2;clear HG2 HD;generalize aP[k].2=fn at HNN;have hz3:gb<w3.heap.size:=hO3.shape.elim fun _ ⟨_,e,_,hz,_⟩=>by cases e;exact hz
       have hzW:W0.heap.size≤w3.heap.size:=hB3.size;have HO3:=aj hO3;clear hO3;go_wp2_with (at_builtin;refine wpList_append_own _ rfl (.tmp 86) (.tmp 90) 124 rfl W0.heap.size 123 i0 (.agg #[.nilFunc,.int .i64 0]) 2 16 Tryz.underlying124 hi hz0 hz1 hz2 rfl (by decide) _ _ _ rfl (World.ownsRow.alloc (World.ownsRow.alloc HO3.out _) _) ⟨w3.heap.size+1,0,none⟩ 1 1 [.func (.func fn) #[] #[],.int .i64 0] rfl rfl ?c1 ?c2 ?c3 ?c4 ?c5 ?_)
       case c1 =>
        intro j u hj;match j,hj with
        |0,hj=>simp at hj;subst hj;simp[Addr.add,go_sem]
        |1,hj=>simp at hj;subst hj;simp[Addr.add,go_sem]
       case c2=>intro u hu;simp at hu;rcases hu with rfl|rfl<;>rfl
       case c3=>unfold maxLen;simp only[List.length_cons];omega
       case c4=>simp only[List.length_cons];omega
       case c5=>simp;omega
       intro v' w4 hown' hgrow _;have hO4:iD w4 W0.heap.size v' ((.func (.func fn) #[] #[],0)::(.func (.func f) #[] cp,c+1)::R'):=hown';have hB4:ai W0 w4:=(r6 (r6 hB3 _) _).grown hgrow (by simp;omega) (fun k hk=>by cases hk;exact hgB);have h14:w4.cell? ⟨w3.heap.size,0,none⟩=some (.string hd):=hgrow.cell (by simp[go_sem]) (by simp[Value.ownBlock];omega);obtain⟨gb4,cap4,rfl,hgb4,hgz4,hc41,hc42⟩:=hO4.shape;have hbw4:=HB.out _ hB4;have hl1:((R'.length:Int)+1+1==1)=false:=by simp;omega
       clear hown' hgrow;go_wp2;go_roundw
       case rel =>
        exact⟨i+1,_,_,gN t::S,by go_num,hO4,⟨HNN.out,fun x hx=>by
         rcases List.mem_cons.mp hx with rfl|hx
         ·exact Nat.zero_le _
         ·have:=HC.out x hx;omega⟩,by simp only[List.length_cons];omega,by omega,hB4,fun h=>absurd h (by simp),HE.out⟩
       case measure=>simp[intOf];omega
     ·have HE:Hid (de L (at0:Int) ([q],none) []=-1):=HBad.out (JR hall);clear hall HGood HBad;go_wp2;go_ret;exact⟨by rw[HE.out];rfl,(by repeat' (first|(with_reducible exact Below.refl _ _)|(with_reducible refine Below.drew ?_)|(with_reducible refine ay ?_ _)|(with_reducible refine bf ?_ _ ?_)|(with_reducible assumption)|(with_reducible refine aw ?_ (by with_reducible assumption))|go_size))⟩
   ·have b41:(L[i].toList==[41])=true:=h41;rw[←HSG.out]at h41;cases hm:cw t
    ·have HE:=aj (by rw[←HM.out];exact vT hh0 hh1 h41 hm:de L (at0:Int) ([q],none) []=-1);clear HM HS h41 HSG HT HN HC hst hok htl hcs hm;generalize L[i]=sg at hs2 hsm b41;go_wp2;go_ret;exact⟨by rw[HE.out];rfl,hbw2⟩
    ·cases hSS:S with
     |nil =>
      exfalso;rw[HT.out hSS]at hm;exact Bool.false_ne_true hm
     |cons u S' =>
      subst hSS;have hO3:=hO2.pop;cases hSS2:S' with
      |nil =>
       subst hSS2;have HE:=aj (by rw[←HM.out];exact Bk hh0 hh1 h41 hm:de L (at0:Int) ([q],none) []=(i:Int)+1);have hl1:((R'.length:Int)==1)=true:=by simp at hlen;simp;omega
       clear HM HS h41 HSG HT HN HC hst hok htl hcs hlen hm;generalize L[i]=sg at hs2 hsm b41;go_wp2;go_ret;exact⟨by rw[HE.out];rfl,hbw2⟩
      |cons v S'' =>
       subst hSS2;have HE:=aj (by rw[←HM.out,Bq hh0 hh1 h41 hm];rfl:de L ((i+1:Nat):Int) u (v::S'')=de L (at0:Int) ([q],none) []);have hl1:((R'.length:Int)==1)=false:=by simp at hlen;simp;omega
       have HP:=aj hst;have HC2:Hid (∀x∈R',x.2≤i+1):=fun x hx=>HC.out x (List.mem_cons_of_mem _ hx)
       clear HM HS h41 HSG HT HN HC hst hok htl hcs hlen hm;generalize L[i]=sg at hs2 hsm b41;go_wp2;go_roundw
       case rel =>
        exact⟨i+1,R',u,v::S'',by go_num,hO3,⟨HP.out,HC2.out⟩,by omega,by omega,hB2,fun h=>absurd h (by simp),HE.out⟩
       case measure=>simp[intOf];omega
  ·have HE:=aj (by rw[←HM.out];exact pw (by omega):de L (at0:Int) ([q],none) []=-1);have hbwr:=HB.out _ hB;clear HM HS HT;go_wp2;go_ret;exact⟨by rw[HE.out];rfl,hbwr⟩
theorem uO(g:Nat)(a:Option Addr)(cap:Nat)(L:af)(i:Int)(q:Nat)(w:World)(hT:jx w g)(ht:dj w)(h:aD w a L)(hL:L.length≤1048576)(hq:q=1∨q=3) :
  ah 59 #[.slice (some ⟨g,0,none⟩) 34 34,.slice a L.length cap,.int .i64 i,.int .i64 q] w (aA (.int .i64 (aJ L q i)) w):=by
 rw[←IL q (by omega) i hq];by_cases h0:0≤i
 ·by_cases h1:i<(L.length:Int)
  ·obtain⟨n,rfl⟩:∃n:Nat,i=(n:Int):=⟨i.toNat,by omega⟩;exact E8 g a cap L n q w hT ht h hL (by omega) (by omega)
  ·have HE:Hid (de L i ([q],none) []=-1):=pw (by omega);go_enter func59,ntmps59;go_wp2;refine wp_loop_rounds 1 ?_;rw[rounds_succ];go_wp2;go_ret;exact⟨by rw[HE.out];rfl,(by repeat' (first|(with_reducible exact Below.refl _ _)|(with_reducible refine ay ?_ _)))⟩
 ·have HE:Hid (de L i ([q],none) []=-1):=pw (by omega);go_enter func59,ntmps59;go_wp2;refine wp_loop_rounds 1 ?_;rw[rounds_succ];go_wp2;go_ret;exact⟨by rw[HE.out];rfl,(by repeat' (first|(with_reducible exact Below.refl _ _)|(with_reducible refine ay ?_ _)))⟩
end Go.Proofs.YtdojfommmpnbgaaGreatDoor
