import Derived.Test.YtdojfommmpnbgaaGreatDoorKAG
set_option maxHeartbeats 4000000
namespace Go.Proofs.YtdojfommmpnbgaaGreatDoor
open Go.RowKit Go.Proofs.Tryz
def aa(L:af)(i:Int):ByteArray:=if 0≤i∧i<(L.length:Int)then L.getD i.toNat ⟨#[]⟩else⟨#[]⟩
theorem eT{L:af}{i:Int}(h0:0≤i)(h1:i<(L.length:Int)):aa L i=L[i.toNat]'(by omega):=by
 unfold aa;rw[if_pos ⟨h0,h1⟩];simp[List.getD,show i.toNat<L.length by omega]
theorem fZ{L:af}{i:Int}(h:¬(0≤i∧i<(L.length:Int))):aa L i=⟨#[]⟩:=by
 unfold aa;rw[if_neg h]
def ae(s:ByteArray)(c:List UInt8):Bool:=s.toList==c
theorem aM{s:ByteArray}{c:List UInt8}{b:Bool}(h:ae s c=b):(s.toList==c)=b:=h
theorem nN(c:List UInt8)(h:c≠[]):ae ⟨#[]⟩ c=false:=by
 unfold ae;rw[ByteArray.toList_eq];simpa using h
theorem aZ{s:ByteArray}{c:List UInt8}(h:ae s c=true):s=⟨c.toArray⟩:=by
 unfold ae at h;rw[ByteArray.toList_eq,beq_iff_eq]at h;exact jS h
theorem kr(c:List UInt8):ae ⟨c.toArray⟩ c=true:=by
 unfold ae;rw[ByteArray.toList_eq];simp
def pU:af:=[⟨#[110,111,110,101]⟩,⟨#[102,110]⟩,⟨#[99,97,108,108]⟩,⟨#[116,104,105,110,103]⟩,⟨#[103,101,116]⟩,⟨#[106,111,105,110]⟩,⟨#[116,97,98,108,101]⟩,⟨#[116,103,101,116]⟩,⟨#[104,103,101,116]⟩,⟨#[108,101,116]⟩,⟨#[116,97,107,101]⟩,⟨#[104,105,100,100,101,110]⟩,⟨#[118,97,114,115]⟩,⟨#[115,101,116]⟩,⟨#[100,111]⟩,⟨#[105,102]⟩,⟨#[119,104,105,108,101]⟩,⟨#[102,111,114]⟩,⟨#[115,97,121]⟩,⟨#[98,97,99,107]⟩,⟨#[108,101,97,118,101]⟩,⟨#[110,101,120,116]⟩,⟨#[112,117,116]⟩,⟨#[114,117,110]⟩,⟨#[104,112,117,116]⟩,⟨#[116,112,117,116]⟩]
def gB(s:ByteArray):Bool:=pU.any fun x=>x.toList==s.toList
theorem CK(s:ByteArray):gB s=true↔s∈pU:=by
 unfold gB;rw[List.any_eq_true];constructor
 ·rintro⟨x,hx,he⟩;rw[ByteArray.toList_eq,ByteArray.toList_eq,beq_iff_eq]at he;rw[←jS he];exact hx
 ·intro h;exact⟨s,h,by simp⟩
def aV(s:ByteArray):Bool:=bt s&&!gB s
def kv(s:ByteArray):Bool:=dV.any fun x=>x.toList==s.toList
theorem re(s:ByteArray):kv s=true↔s∈dV:=by
 unfold kv;rw[List.any_eq_true];constructor
 ·rintro⟨x,hx,he⟩;rw[ByteArray.toList_eq,ByteArray.toList_eq,beq_iff_eq]at he;rw[←jS he];exact hx
 ·intro h;exact⟨s,h,by simp⟩
def ic(s:ByteArray):Bool:=da s||fY s||ae s [110,111,110,101]||aV s
def aK(L:af)(i:Int)(c:List UInt8):Int:=if ae (aa L i) c then i+1 else -1
def aU(L:af)(i:Int):Int:=if aV (aa L i)then i+1 else -1
def bR(L:af)(r:Nat→Int→Int)(i:Int):Int :=
 if ae (aa L i) [40]then
  if kv (aa L (i+1))||ae (aa L (i+1)) [103,101,116]||ae (aa L (i+1)) [116,103,101,116]then aK L (r 10 (i+2)) [41]
  else if ae (aa L (i+1)) [102,110]then aK L (r 6 (aK L (r 7 (aK L (i+2) [40])) [41])) [41]
  else if ae (aa L (i+1)) [99,97,108,108]then aK L (r 4 (r 0 (i+2))) [41]
  else if ae (aa L (i+1)) [116,104,105,110,103]||ae (aa L (i+1)) [106,111,105,110]then aK L (r 4 (i+2)) [41]
  else if ae (aa L (i+1)) [116,97,98,108,101]then aK L (i+2) [41]
  else if ae (aa L (i+1)) [104,103,101,116]then aK L (r 0 (aU L (i+2))) [41]
  else -1
 else if ic (aa L i)then i+1 else -1
def bS(s:ByteArray):Bool:=ae s [108,101,116]||ae s [116,97,107,101]||ae s [104,105,100,100,101,110]||ae s [118,97,114,115]
def bp(L:af)(r:Nat→Int→Int)(h:ByteArray)(i:Int):Int :=
 if ae h [108,101,116]||ae h [115,101,116]then aK L (r 0 (aU L i)) [41]
 else if ae h [116,97,107,101]then aK L (r 0 (aK L (r 5 (aU L (aK L i [40]))) [41])) [41]
 else if ae h [104,105,100,100,101,110]||ae h [118,97,114,115]then aK L (r 5 i) [41]
 else if ae h [100,111]then aK L (r 6 i) [41]
 else if ae h [105,102]then aK L (r 2 (r 2 (r 0 i))) [41]
 else if ae h [119,104,105,108,101]then aK L (r 2 (r 0 i)) [41]
 else if ae h [102,111,114]then aK L (r 2 (r 10 (aU L i))) [41]
 else if ae h [115,97,121]||ae h [98,97,99,107]||ae h [114,117,110]then aK L (r 0 i) [41]
 else if ae h [108,101,97,118,101]||ae h [110,101,120,116]then aK L i [41]
 else if ae h [112,117,116]||ae h [116,112,117,116]then aK L (r 11 i) [41]
 else if ae h [104,112,117,116]then aK L (r 10 (aU L i)) [41]
 else -1
def dB(L:af)(r:Nat→Int→Int)(free:Bool)(i:Int):Int :=
 if ae (aa L i) [40]then(if bS (aa L (i+1))&&!free then -1 else bp L r (aa L (i+1)) (i+2))else -1
def eG(L:af)(r:Nat→Int→Int)(i:Int):Int :=
 if ae (aa L i) [40]then aK L (r 0 (aU L (i+1))) [41]else aU L i
def fX(L:af)(r:Nat→Int→Int)(what:Nat)(i:Int):Int :=
 if what=0 then r 0 i else if what=1 then aU L i else if what=2 then r 1 i else r 3 i
def eC(L:af)(r:Nat→Int→Int)(what:Nat)(i:Int):Int :=
 if i<0∨ae (aa L i) [41]=true then i else r (4+what) (fX L r what i)
def oC(r:Nat→Int→Int):Nat→Int→Int
 |0,i=>i
 |k+1,i=>if i<0 then i else r (8+k) (r 0 i)
def aF(L:af):Nat→Nat→Int→Int
 |0,_,_=>-1
 |n+1,m,i =>
  if m=0 then bR L (aF L n) i else if m=1 then dB L (aF L n) true i else if m=2 then dB L (aF L n) false i else if m=3 then eG L (aF L n) i
  else if m<8 then eC L (aF L n) (m-4) i else oC (aF L n) (m-8) i
def Ends(L:af)(i x:Int):Prop:=x=-1∨(0≤i∧i<x∧x≤(L.length:Int))
def Fw(L:af)(i x:Int):Prop:=x=-1∨(0≤i∧i≤x∧(x≤i∨x≤(L.length:Int)))
section
variable {L:af} {i x:Int}
theorem Ends.I(h:Ends L i x):Fw L i x:=by unfold Ends at h;unfold Fw;omega
theorem iW(h:0≤i):Fw L i i:=by unfold Fw;omega
theorem fT{c:List UInt8}(hc:c≠[])(h:Fw L i x):Ends L i (aK L x c):=by
 unfold aK Ends;split
 ·rename_i hw;right;by_cases hin:0≤x∧x<(L.length:Int)
  ·unfold Fw at h;omega
  ·rw[fZ hin,nN c hc]at hw;exact absurd hw (by decide)
 ·left;rfl
theorem kN{c:List UInt8}(hc:c≠[])(h:i<0):aK L i c=-1:=by
 unfold aK;rw[fZ (by omega),nN c hc];rfl
theorem wg:bt ⟨#[]⟩=false:=by decide
theorem eD(h:Fw L i x):Ends L i (aU L x):=by
 unfold aU Ends;split
 ·rename_i hw;right;by_cases hin:0≤x∧x<(L.length:Int)
  ·unfold Fw at h;omega
  ·rw[fZ hin]at hw;unfold aV at hw;rw[wg]at hw;exact absurd hw (by decide)
 ·left;rfl
theorem Ends.mono{j:Int}(hj:0≤i)(hij:i≤j)(h:Ends L j x):Ends L i x:=by unfold Ends at h ⊢;omega
theorem nG:Ends L i (-1):=Or.inl rfl
theorem zI{c:Prop}[Decidable c]{y:Int}(h1:Ends L i x)(h2:Ends L i y):Ends L i (if c then x else y):=by split<;>assumption
end
def Good(L:af)(r:Nat→Int→Int):Prop:=(∀m j,m<4→Ends L j (r m j))∧∀m j,4≤m→-1≤j→Fw L j (r m j)
section
variable {L:af} {r:Nat→Int→Int} {i x:Int}
theorem Good.ends(hr:Good L r){m:Nat}(hm:m<4)(h:Fw L i x):Ends L i (r m x):=by
 have:=hr.1 m x hm;unfold Fw at h;unfold Ends at this ⊢;omega
theorem Good.I(hr:Good L r){m:Nat}(hm:4≤m)(h:Fw L i x):Fw L i (r m x):=by
 have:=hr.2 m x hm (by unfold Fw at h;omega);unfold Fw at h this ⊢;omega
theorem bF(h:ae (aa L i) [40]=true):0≤i∧i<(L.length:Int):=by
 by_cases hin:0≤i∧i<(L.length:Int)
 ·exact hin
 ·rw[fZ hin,nN _ (by decide)]at h;exact absurd h (by decide)
theorem BW:ic ⟨#[]⟩=false:=by decide +kernel
theorem MJ(hr:Good L r)(i:Int):Ends L i (bR L r i):=by
 unfold bR;split
 ·rename_i ho;obtain⟨h0,h1⟩:=bF ho;refine Ends.mono (j:=i+2) h0 (by omega) ?_;have hs:Fw L (i+2) (i+2):=iW (by omega);repeat' (first|exact nG|with_reducible refine zI ?_ ?_|exact hs|refine fT (by decide) ?_|refine eD ?_|refine hr.I (by decide) ?_|refine hr.ends (by decide) ?_|refine Ends.I ?_)
 ·split
  ·rename_i hw;by_cases hin:0≤i∧i<(L.length:Int)
   ·right;omega
   ·rw[fZ hin,BW]at hw;exact absurd hw (by decide)
  ·exact nG
theorem y8(hr:Good L r)(h:ByteArray){i:Int}(h0:0≤i):Ends L i (bp L r h i):=by
 unfold bp;have hs:Fw L i i:=iW h0;repeat' (first|exact nG|with_reducible refine zI ?_ ?_|exact hs|refine fT (by decide) ?_|refine eD ?_|refine hr.I (by decide) ?_|refine hr.ends (by decide) ?_|refine Ends.I ?_)
theorem zm(hr:Good L r)(f:Bool)(i:Int):Ends L i (dB L r f i):=by
 unfold dB;split
 ·rename_i ho;obtain⟨h0,h1⟩:=bF ho;split
  ·exact nG
  ·exact Ends.mono (j:=i+2) h0 (by omega) (y8 hr _ (by omega))
 ·exact nG
theorem mE(h:-1≤i):Fw L i i:=by unfold Fw;omega
theorem Kl(hr:Good L r)(i:Int):Ends L i (eG L r i):=by
 unfold eG;split
 ·rename_i ho;obtain⟨h0,h1⟩:=bF ho;refine Ends.mono (j:=i+1) h0 (by omega) ?_;exact fT (by decide) (Ends.I (hr.ends (by decide) (Ends.I (eD (iW (by omega))))))
 ·by_cases h:-1≤i
  ·exact eD (mE h)
  ·unfold aU;rw[fZ (by omega)];left;rfl
theorem mR(hr:Good L r)(what:Nat){i:Int}(h:-1≤i):Ends L i (fX L r what i):=by
 unfold fX;repeat' split
 ·exact hr.1 0 i (by decide)
 ·exact eD (mE h)
 ·exact hr.1 1 i (by decide)
 ·exact hr.1 3 i (by decide)
theorem IM(hr:Good L r)(what:Nat){i:Int}(h:-1≤i):Fw L i (eC L r what i):=by
 unfold eC;split
 ·exact mE h
 ·exact hr.I (by omega) (mR hr what h).I
theorem M5(hr:Good L r)(k:Nat){i:Int}(h:-1≤i):Fw L i (oC r k i):=by
 cases k with
 |zero=>exact mE h
 |succ k =>
  show Fw L i (if i<0 then i else r (8+k) (r 0 i));split
  ·exact mE h
  ·exact hr.I (by omega) (hr.1 0 i (by decide)).I
end
theorem gL(L:af):∀n,Good L (aF L n)
 |0=>⟨fun _ _ _=>nG,fun _ _ _ _=>Or.inl rfl⟩
 |n+1=>by
  have hr:=gL L n;refine⟨fun m j hm=>?_,fun m j hm hj=>?_⟩
  ·unfold aF;obtain rfl|rfl|rfl|rfl:m=0∨m=1∨m=2∨m=3:=by omega
   ·exact MJ hr j
   ·exact zm hr true j
   ·exact zm hr false j
   ·exact Kl hr j
  ·unfold aF;rw[if_neg (by omega),if_neg (by omega),if_neg (by omega),if_neg (by omega)];split
   ·exact IM hr _ hj
   ·exact M5 hr _ hj
def aB(L:af)(i:Int):Nat:=if i<0 then 0 else((L.length:Int)+2-i).toNat
theorem gV{L:af}{i x:Int}(h:Ends L i x)(hi:i≤(L.length:Int)+1):aB L x+1≤aB L i∨(x=-1∧aB L x=0):=by
 unfold aB;unfold Ends at h;rcases h with rfl|⟨h0,h1,h2⟩
 ·right;exact⟨rfl,rfl⟩
 ·left;rw[if_neg (by omega),if_neg (by omega)];omega
theorem aS(c d:List UInt8):ae ⟨c.toArray⟩ d=(c==d):=by
 unfold ae;rw[ByteArray.toList_eq]
theorem mT(c:List UInt8):kv ⟨c.toArray⟩=([[43],[45],[42],[60],[61],[38]]:List (List UInt8)).any fun x=>x==c:=by
 unfold kv dV;simp only[List.any_cons,List.any_nil,ByteArray.toList_eq]
theorem dx{s:ByteArray}{c:List UInt8}(h:s≠⟨c.toArray⟩):ae s c=false:=Bool.eq_false_iff.mpr fun hw=>h (aZ hw)
section
variable {L:af} {r:Nat→Int→Int} {i:Int}
theorem MV(ho:ae (aa L i) [40]=true)(h:kv (aa L (i+1))=true):bR L r i=aK L (r 10 (i+2)) [41]:=by
 unfold bR;rw[if_pos ho,h];rfl
theorem ML(ho:ae (aa L i) [40]=true)(h:aa L (i+1)=⟨#[103,101,116]⟩):bR L r i=aK L (r 10 (i+2)) [41]:=by
 unfold bR;rw[if_pos ho,h];simp only[aS,mT];rfl
theorem MZ(ho:ae (aa L i) [40]=true)(h:aa L (i+1)=⟨#[116,103,101,116]⟩):bR L r i=aK L (r 10 (i+2)) [41]:=by
 unfold bR;rw[if_pos ho,h];simp only[aS,mT];rfl
theorem MK(ho:ae (aa L i) [40]=true)(h:aa L (i+1)=⟨#[102,110]⟩):bR L r i=aK L (r 6 (aK L (r 7 (aK L (i+2) [40])) [41])) [41]:=by
 unfold bR;rw[if_pos ho,h];simp only[aS,mT];rfl
theorem MH(ho:ae (aa L i) [40]=true)(h:aa L (i+1)=⟨#[99,97,108,108]⟩):bR L r i=aK L (r 4 (r 0 (i+2))) [41]:=by
 unfold bR;rw[if_pos ho,h];simp only[aS,mT];rfl
theorem M0(ho:ae (aa L i) [40]=true)(h:aa L (i+1)=⟨#[116,104,105,110,103]⟩):bR L r i=aK L (r 4 (i+2)) [41]:=by
 unfold bR;rw[if_pos ho,h];simp only[aS,mT];rfl
theorem MS(ho:ae (aa L i) [40]=true)(h:aa L (i+1)=⟨#[106,111,105,110]⟩):bR L r i=aK L (r 4 (i+2)) [41]:=by
 unfold bR;rw[if_pos ho,h];simp only[aS,mT];rfl
theorem MY(ho:ae (aa L i) [40]=true)(h:aa L (i+1)=⟨#[116,97,98,108,101]⟩):bR L r i=aK L (i+2) [41]:=by
 unfold bR;rw[if_pos ho,h];simp only[aS,mT];rfl
theorem MQ(ho:ae (aa L i) [40]=true)(h:aa L (i+1)=⟨#[104,103,101,116]⟩):bR L r i=aK L (r 0 (aU L (i+2))) [41]:=by
 unfold bR;rw[if_pos ho,h];simp only[aS,mT];rfl
theorem MU(ho:ae (aa L i) [40]=true)(hop:kv (aa L (i+1))=false)(hget:aa L (i+1)≠⟨#[103,101,116]⟩)(htget:aa L (i+1)≠⟨#[116,103,101,116]⟩)(hfn:aa L (i+1)≠⟨#[102,110]⟩)(hcall:aa L (i+1)≠⟨#[99,97,108,108]⟩)(hthing:aa L (i+1)≠⟨#[116,104,105,110,103]⟩)(hjoin:aa L (i+1)≠⟨#[106,111,105,110]⟩)(htable:aa L (i+1)≠⟨#[116,97,98,108,101]⟩)(hhget:aa L (i+1)≠⟨#[104,103,101,116]⟩):bR L r i=-1:=by
 unfold bR;rw[if_pos ho,hop,dx (c:=[103,101,116]) hget,dx (c:=[116,103,101,116]) htget,dx (c:=[102,110]) hfn,dx (c:=[99,97,108,108]) hcall,dx (c:=[116,104,105,110,103]) hthing,dx (c:=[106,111,105,110]) hjoin,dx (c:=[116,97,98,108,101]) htable,dx (c:=[104,103,101,116]) hhget];rfl
theorem Dh(ho:ae (aa L i) [40]=false)(h:ic (aa L i)=true):bR L r i=i+1:=by
 unfold bR;rw[ho,h];rfl
theorem MT(ho:ae (aa L i) [40]=false)(h:ic (aa L i)=false):bR L r i=-1:=by
 unfold bR;rw[ho,h];rfl
theorem zd:bp L r ⟨#[108,101,116]⟩ i=aK L (r 0 (aU L i)) [41]:=by
 unfold bp;simp only[aS];rfl
theorem zj:bp L r ⟨#[115,101,116]⟩ i=aK L (r 0 (aU L i)) [41]:=by
 unfold bp;simp only[aS];rfl
theorem sj:bp L r ⟨#[116,97,107,101]⟩ i=aK L (r 0 (aK L (r 5 (aU L (aK L i [40]))) [41])) [41]:=by
 unfold bp;simp only[aS];rfl
theorem nB:bp L r ⟨#[104,105,100,100,101,110]⟩ i=aK L (r 5 i) [41]:=by
 unfold bp;simp only[aS];rfl
theorem nC:bp L r ⟨#[118,97,114,115]⟩ i=aK L (r 5 i) [41]:=by
 unfold bp;simp only[aS];rfl
theorem y7:bp L r ⟨#[100,111]⟩ i=aK L (r 6 i) [41]:=by
 unfold bp;simp only[aS];rfl
theorem zb:bp L r ⟨#[105,102]⟩ i=aK L (r 2 (r 2 (r 0 i))) [41]:=by
 unfold bp;simp only[aS];rfl
theorem zl:bp L r ⟨#[119,104,105,108,101]⟩ i=aK L (r 2 (r 0 i)) [41]:=by
 unfold bp;simp only[aS];rfl
theorem y9:bp L r ⟨#[102,111,114]⟩ i=aK L (r 2 (r 10 (aU L i))) [41]:=by
 unfold bp;simp only[aS];rfl
theorem zi:bp L r ⟨#[115,97,121]⟩ i=aK L (r 0 i) [41]:=by
 unfold bp;simp only[aS];rfl
theorem y6:bp L r ⟨#[98,97,99,107]⟩ i=aK L (r 0 i) [41]:=by
 unfold bp;simp only[aS];rfl
theorem zh:bp L r ⟨#[114,117,110]⟩ i=aK L (r 0 i) [41]:=by
 unfold bp;simp only[aS];rfl
theorem zc:bp L r ⟨#[108,101,97,118,101]⟩ i=aK L i [41]:=by
 unfold bp;simp only[aS];rfl
theorem ze:bp L r ⟨#[110,101,120,116]⟩ i=aK L i [41]:=by
 unfold bp;simp only[aS];rfl
theorem zg:bp L r ⟨#[112,117,116]⟩ i=aK L (r 11 i) [41]:=by
 unfold bp;simp only[aS];rfl
theorem zk:bp L r ⟨#[116,112,117,116]⟩ i=aK L (r 11 i) [41]:=by
 unfold bp;simp only[aS];rfl
theorem za:bp L r ⟨#[104,112,117,116]⟩ i=aK L (r 10 (aU L i)) [41]:=by
 unfold bp;simp only[aS];rfl
theorem zf{h:ByteArray}(hlet:h≠⟨#[108,101,116]⟩)(hset:h≠⟨#[115,101,116]⟩)(htake:h≠⟨#[116,97,107,101]⟩)(hhidden:h≠⟨#[104,105,100,100,101,110]⟩)(hvars:h≠⟨#[118,97,114,115]⟩)(hdo:h≠⟨#[100,111]⟩)(hif:h≠⟨#[105,102]⟩)(hwhile:h≠⟨#[119,104,105,108,101]⟩)(hfor:h≠⟨#[102,111,114]⟩)(hsay:h≠⟨#[115,97,121]⟩)(hback:h≠⟨#[98,97,99,107]⟩)(hrun:h≠⟨#[114,117,110]⟩)(hleave:h≠⟨#[108,101,97,118,101]⟩)(hnext:h≠⟨#[110,101,120,116]⟩)(hput:h≠⟨#[112,117,116]⟩)(htput:h≠⟨#[116,112,117,116]⟩)(hhput:h≠⟨#[104,112,117,116]⟩):bp L r h i=-1:=by
 unfold bp;rw[dx (c:=[108,101,116]) hlet,dx (c:=[115,101,116]) hset,dx (c:=[116,97,107,101]) htake,dx (c:=[104,105,100,100,101,110]) hhidden,dx (c:=[118,97,114,115]) hvars,dx (c:=[100,111]) hdo,dx (c:=[105,102]) hif,dx (c:=[119,104,105,108,101]) hwhile,dx (c:=[102,111,114]) hfor,dx (c:=[115,97,121]) hsay,dx (c:=[98,97,99,107]) hback,dx (c:=[114,117,110]) hrun,dx (c:=[108,101,97,118,101]) hleave,dx (c:=[110,101,120,116]) hnext,dx (c:=[112,117,116]) hput,dx (c:=[116,112,117,116]) htput,dx (c:=[104,112,117,116]) hhput];rfl
theorem yP:bS ⟨#[108,101,116]⟩=true:=by
 unfold bS;simp only[aS];rfl
theorem yU:bS ⟨#[115,101,116]⟩=false:=by
 unfold bS;simp only[aS];rfl
theorem yV:bS ⟨#[116,97,107,101]⟩=true:=by
 unfold bS;simp only[aS];rfl
theorem yL:bS ⟨#[104,105,100,100,101,110]⟩=true:=by
 unfold bS;simp only[aS];rfl
theorem yX:bS ⟨#[118,97,114,115]⟩=true:=by
 unfold bS;simp only[aS];rfl
theorem yJ:bS ⟨#[100,111]⟩=false:=by
 unfold bS;simp only[aS];rfl
theorem yN:bS ⟨#[105,102]⟩=false:=by
 unfold bS;simp only[aS];rfl
theorem yY:bS ⟨#[119,104,105,108,101]⟩=false:=by
 unfold bS;simp only[aS];rfl
theorem yK:bS ⟨#[102,111,114]⟩=false:=by
 unfold bS;simp only[aS];rfl
theorem yT:bS ⟨#[115,97,121]⟩=false:=by
 unfold bS;simp only[aS];rfl
theorem yI:bS ⟨#[98,97,99,107]⟩=false:=by
 unfold bS;simp only[aS];rfl
theorem yS:bS ⟨#[114,117,110]⟩=false:=by
 unfold bS;simp only[aS];rfl
theorem yO:bS ⟨#[108,101,97,118,101]⟩=false:=by
 unfold bS;simp only[aS];rfl
theorem yQ:bS ⟨#[110,101,120,116]⟩=false:=by
 unfold bS;simp only[aS];rfl
theorem yR:bS ⟨#[112,117,116]⟩=false:=by
 unfold bS;simp only[aS];rfl
theorem yW:bS ⟨#[116,112,117,116]⟩=false:=by
 unfold bS;simp only[aS];rfl
theorem yM:bS ⟨#[104,112,117,116]⟩=false:=by
 unfold bS;simp only[aS];rfl
end
section
variable {L:af} {r r':Nat→Int→Int} {i x:Int}
def pX(L:af)(j:Int)(r r':Nat→Int→Int):Prop:=∀m x,m≤11→Fw L j x→r m x=r' m x
theorem MW(hr:Good L r)(hs:0≤i→i<(L.length:Int)→pX L (i+2) r r'):bR L r i=bR L r' i:=by
 unfold bR;cases ho:ae (aa L i) [40]
 ·rfl
 ·obtain⟨h0,h1⟩:=bF ho;have hs:=hs h0 h1;have F0:Fw L (i+2) (i+2):=iW (by omega);have e10:=hs 10 (i+2) (by decide) F0;have e4:=hs 4 (i+2) (by decide) F0;have e0:=hs 0 (i+2) (by decide) F0;have e40:=hs 4 (r 0 (i+2)) (by decide) (hr.ends (by decide) F0).I;have en:=hs 0 (aU L (i+2)) (by decide) (eD F0).I;have F7:=(fT (c:=[40]) (by decide) F0).I;have e7:=hs 7 _ (by decide) F7;have F6:=(fT (c:=[41]) (by decide) (hr.I (m:=7) (by decide) F7)).I;have e6:=hs 6 _ (by decide) F6;simp only[if_true];rw[e10,e4,en];rw[e40,e0,e6,e7]
theorem EK(hr:Good L r)(h:ByteArray)(h0:0≤i)(hs:pX L i r r'):bp L r h i=bp L r' h i:=by
 have F0:Fw L i i:=iW h0;have e0:=hs 0 i (by decide) F0;have e5:=hs 5 i (by decide) F0;have e6:=hs 6 i (by decide) F0;have e11:=hs 11 i (by decide) F0;have Fn:=(eD (L:=L) F0).I;have en:=hs 0 _ (by decide) Fn;have e10:=hs 10 _ (by decide) Fn;have F1:=(hr.ends (m:=0) (by decide) F0).I;have e2:=hs 2 _ (by decide) F1;have F2:=(hr.ends (m:=2) (by decide) F1).I;have e22:=hs 2 _ (by decide) F2;have e210:=hs 2 _ (by decide) (hr.I (m:=10) (by decide) Fn);have F5:=(eD (L:=L) (fT (c:=[40]) (by decide) F0).I).I;have e5t:=hs 5 _ (by decide) F5;have e0t:=hs 0 _ (by decide) (fT (c:=[41]) (by decide) (hr.I (m:=5) (by decide) F5)).I;unfold bp;rw[en,e0t,e5t,e5,e6,e22,e2,e210,e10,e0,e11]
theorem zq(hr:Good L r)(f:Bool)(hs:0≤i→i<(L.length:Int)→pX L (i+2) r r'):dB L r f i=dB L r' f i:=by
 unfold dB;cases ho:ae (aa L i) [40]
 ·rfl
 ·obtain⟨h0,h1⟩:=bF ho;rw[EK hr _ (by omega) (hs h0 h1)]
theorem Kq(hs:0≤i→i<(L.length:Int)→pX L (i+1) r r'):eG L r i=eG L r' i:=by
 unfold eG;cases ho:ae (aa L i) [40]
 ·rfl
 ·obtain⟨h0,h1⟩:=bF ho;have F0:Fw L (i+1) (i+1):=iW (by omega);rw[hs h0 h1 0 _ (by decide) (eD F0).I]
end
def cM(L:af)(m:Nat)(i:Int):Nat:=8*aB L i+(if m<4 then 1 else if m<8 then 2 else m-6)
theorem sD{L:af}{i j x:Int}(h0:0≤i)(h1:i≤(L.length:Int)+1)(hj:i<j)(h:Fw L j x):aB L x+1≤aB L i:=by
 unfold Fw at h;unfold aB;rw[if_neg (show ¬i<0 by omega)];split<;>omega
theorem iL{L:af}(m:Nat)(hm:m≤11)(i:Int):8*aB L i+1≤cM L m i∧cM L m i≤8*aB L i+5:=by
 unfold cM;split
 ·omega
 ·split<;>omega
theorem Aa(L:af):∀n n' m i,m≤11→(4≤m→-1≤i∧i≤(L.length:Int)+1)→cM L m i≤n→cM L m i≤n'→aF L n m i=aF L n' m i
 |0,n',m,i,hm,_,h,_=>by have:=(iL (L:=L) m hm i).1;omega
 |n+1,0,m,i,hm,_,_,h=>by have:=(iL (L:=L) m hm i).1;omega
 |n+1,n'+1,m,i,hm,hi,h,h'=>by
  have IH:=Aa L n;have hg:=gL L n;have hnl:=iL (L:=L) m hm i;have key:∀j,i<j→j≤i+2→0≤i→i<(L.length:Int)→pX L j (aF L n) (aF L n'):=fun j hj hj2 h0 h1 q x hq hF=>by
   have hf:=sD h0 (by omega) hj hF;have hq':=iL (L:=L) q hq x;refine IH n' q x hq (fun _=>?_) (by omega) (by omega);unfold Fw at hF;omega
  by_cases c0:m=0
  ·subst c0;exact MW hg (key (i+2) (by omega) (by omega))
  by_cases c1:m=1
  ·subst c1;exact zq hg true (key (i+2) (by omega) (by omega))
  by_cases c2:m=2
  ·subst c2;exact zq hg false (key (i+2) (by omega) (by omega))
  by_cases c3:m=3
  ·subst c3;exact Kq (key (i+1) (by omega) (by omega))
  obtain⟨i0,i1⟩:=hi (by omega);unfold aF;rw[if_neg c0,if_neg c1,if_neg c2,if_neg c3,if_neg c0,if_neg c1,if_neg c2,if_neg c3];by_cases c8:m<8
  ·rw[if_pos c8,if_pos c8];obtain⟨q,rfl⟩:∃q,m=4+q:=⟨m-4,by omega⟩;rw[show 4+q-4=q by omega];unfold cM at h h';rw[if_neg (by omega),if_pos (by omega)]at h h';unfold eC;split
   ·rfl
   ·rename_i hgo;have hpos:1≤aB L i:=by unfold aB;rw[if_neg (by omega)];omega
    have hin:∀t,t<4→aF L n t i=aF L n' t i:=fun t ht=>IH n' t i (by omega) (fun h4=>by omega) (by unfold cM;rw[if_pos ht];omega) (by unfold cM;rw[if_pos ht];omega)
    have ho:fX L (aF L n) q i=fX L (aF L n') q i:=by
     unfold fX;rw[hin 0 (by decide),hin 1 (by decide),hin 3 (by decide)]
    rw[←ho];have hE:=mR hg q i0;generalize fX L (aF L n) q i=y at hE;have hfe:=gV hE i1;unfold Ends at hE;exact IH n' (4+q) y hm (fun _=>by omega) (by unfold cM;rw[if_neg (by omega),if_pos (by omega)];omega) (by unfold cM;rw[if_neg (by omega),if_pos (by omega)];omega)
  ·rw[if_neg c8,if_neg c8];obtain⟨k,rfl⟩:∃k,m=8+k:=⟨m-8,by omega⟩;rw[show 8+k-8=k by omega];unfold cM at h h';rw[if_neg (by omega),if_neg (by omega)]at h h';cases k with
   |zero=>rfl
   |succ k =>
    show(if i<0 then i else aF L n (8+k) (aF L n 0 i))=(if i<0 then i else aF L n' (8+k) (aF L n' 0 i));split
    ·rfl
    ·have h0':aF L n 0 i=aF L n' 0 i:=IH n' 0 i (by decide) (fun h4=>by omega) (by unfold cM;rw[if_pos (by decide)];omega) (by unfold cM;rw[if_pos (by decide)];omega);rw[←h0'];have hE:=hg.1 0 i (by decide);generalize aF L n 0 i=y at hE;have hfe:=gV hE i1;unfold Ends at hE;exact IH n' (8+k) y (by omega) (fun _=>by omega) (by unfold cM;rw[if_neg (by omega),if_neg (by omega)];omega) (by unfold cM;rw[if_neg (by omega),if_neg (by omega)];omega)
theorem zT(L:af):∃F:Nat→Int→Int,F=aF L (8*L.length+40):=⟨_,rfl⟩
noncomputable def fm(L:af):Nat→Int→Int:=Classical.choose (zT L)
theorem jl(L:af):aF L (8*L.length+40)=fm L:=(Classical.choose_spec (zT L)).symm
theorem mC(L:af)(i:Int):aB L i≤L.length+2:=by
 unfold aB;split<;>omega
theorem Fu{L:af}{n m:Nat}{i:Int}(hm:m≤11)(hi:4≤m→-1≤i∧i≤(L.length:Int)+1)(hn:cM L m i≤n):aF L n m i=fm L m i:=by
 rw[←jl];refine Aa L n _ m i hm hi hn ?_;have:=iL (L:=L) m hm i;have:=mC L i;omega
theorem oV{L:af}{m:Nat}{i:Int}(hm:m≤11)(hi:4≤m→-1≤i∧i≤(L.length:Int)+1):fm L m i=aF L (8*L.length+40+1) m i:=by
 refine(Fu hm hi ?_).symm;have:=iL (L:=L) m hm i;have:=mC L i;omega
theorem FK(L:af)(n:Nat)(i:Int):aF L (n+1) 0 i=bR L (aF L n) i:=rfl
theorem FL(L:af)(n:Nat)(i:Int):aF L (n+1) 1 i=dB L (aF L n) true i:=rfl
theorem FM(L:af)(n:Nat)(i:Int):aF L (n+1) 2 i=dB L (aF L n) false i:=rfl
theorem FN(L:af)(n:Nat)(i:Int):aF L (n+1) 3 i=eG L (aF L n) i:=rfl
theorem FO(L:af)(n q:Nat)(hq:q≤3)(i:Int):aF L (n+1) (4+q) i=eC L (aF L n) q i:=by
 obtain rfl|rfl|rfl|rfl:q=0∨q=1∨q=2∨q=3:=by omega
 all_goals rfl
theorem FP(L:af)(n q:Nat)(i:Int):aF L (n+1) (8+q) i=oC (aF L n) q i:=by
 unfold aF;rw[if_neg (by omega),if_neg (by omega),if_neg (by omega),if_neg (by omega),if_neg (by omega),show 8+q-8=q by omega]
theorem ln(L:af)(i:Int):fm L 0 i=bR L (fm L) i:=by rw[oV (by decide) (fun h=>absurd h (by decide)),FK,jl]
theorem ll(L:af)(i:Int):fm L 1 i=dB L (fm L) true i:=by rw[oV (by decide) (fun h=>absurd h (by decide)),FL,jl]
theorem nJ(L:af)(i:Int):fm L 2 i=dB L (fm L) false i:=by rw[oV (by decide) (fun h=>absurd h (by decide)),FM,jl]
theorem nK(L:af)(i:Int):fm L 3 i=eG L (fm L) i:=by rw[oV (by decide) (fun h=>absurd h (by decide)),FN,jl]
theorem jB{L:af}{i:Int}(q:Nat)(hq:q≤3)(h0:-1≤i)(h1:i≤(L.length:Int)+1):fm L (4+q) i=eC L (fm L) q i:=by
 rw[oV (by omega) (fun _=>⟨h0,h1⟩),FO L _ q hq,jl]
theorem qB{L:af}{i:Int}(q:Nat)(hq:q≤3)(h0:-1≤i)(h1:i≤(L.length:Int)+1):fm L (8+q) i=oC (fm L) q i:=by
 rw[oV (by omega) (fun _=>⟨h0,h1⟩),FP,jl]
theorem gr(L:af):Good L (fm L):=by rw[←jl];exact gL L _
def cU(L:af):Nat→Nat→Nat→Int
 |0,_,_=>-1
 |f+1,i,o =>
  if i<L.length then
   if ae (L.getD i ⟨#[]⟩) [40]then cU L f (i+1) (o+1)
   else if ae (L.getD i ⟨#[]⟩) [41]then(if o=0 then -1 else if o=1 then(i:Int)+1 else cU L f (i+1) (o-1))
   else if o=0 then(i:Int)+1 else cU L f (i+1) o
  else -1
def ag(L:af)(i:Int):Int:=if i<0 then -1 else cU L (L.length+1) i.toNat 0
def kh(L:af)(r:Int)(first:Bool)(o:Nat)(x:Int):Prop :=
 (first=true∧o=0∧ag L x=r)∨(first=false∧0≤x∧((o=0∧x=r)∨(1≤o∧∃f:Nat,(L.length:Int)≤x+(f:Int)∧cU L (f+1) x.toNat o=r)))
section
variable {L:af} {r x:Int} {first:Bool} {o:Nat}
theorem LS(h:kh L r first o x)(hgo:first=true∨1≤o)(hx:x<0∨(L.length:Int)≤x):r=-1:=by
 rcases h with⟨_,_,h⟩|⟨h1,h0,⟨h2,_⟩|⟨_,f,_,h⟩⟩
 ·rw[←h];unfold ag;split
  ·rfl
  ·unfold cU;rw[if_neg (by omega)]
 ·rcases hgo with hg|hg
  ·rw[h1]at hg;exact absurd hg (by decide)
  ·omega
 ·rw[←h];unfold cU;rw[if_neg (by omega)]
theorem LP(h:kh L r false 0 x):r=x:=by
 rcases h with⟨h,_⟩|⟨_,_,⟨_,h⟩|⟨h,_⟩⟩
 ·exact absurd h (by decide)
 ·exact h.symm
 ·omega
theorem wX(h:kh L r first o x)(hgo:first=true∨1≤o)(h0:0≤x):∃f:Nat,(L.length:Int)≤x+(f:Int)∧cU L (f+1) x.toNat o=r:=by
 rcases h with⟨_,h2,h⟩|⟨h3,_,⟨h2,_⟩|⟨_,f,hf,h⟩⟩
 ·refine⟨L.length,by omega,?_⟩;subst h2;unfold ag at h;rw[if_neg (by omega)]at h;exact h
 ·rcases hgo with hg|hg
  ·rw[h3]at hg;exact absurd hg (by decide)
  ·omega
 ·exact⟨f,hf,h⟩
theorem LQ{k:Nat}(h:kh L r first o (k:Int))(hgo:first=true∨1≤o)(h1:k<L.length)(hs:ae L[k] [40]=true):kh L r false (o+1) ((k:Int)+1):=by
 obtain⟨f,hf,he⟩:=wX h hgo (by omega);right;refine⟨rfl,by omega,Or.inr ⟨by omega,?_⟩⟩;have hf1:1≤f:=by omega
 obtain⟨g,rfl⟩:∃g,f=g+1:=⟨f-1,by omega⟩;refine⟨g,by omega,?_⟩;unfold cU at he;rw[Int.toNat_natCast,if_pos h1]at he;simp only[List.getD,List.getElem?_eq_getElem h1,Option.getD_some,hs]at he;rw[show((k:Int)+1).toNat=k+1 by omega];exact he
theorem LU{k:Nat}(h:kh L r first o (k:Int))(hgo:first=true∨1≤o)(h1:k<L.length)(hn:ae L[k] [40]=false)(hs:ae L[k] [41]=true):(o=0∧r=-1)∨(1≤o∧kh L r false (o-1) ((k:Int)+1)):=by
 obtain⟨f,hf,he⟩:=wX h hgo (by omega);have hf1:1≤f:=by omega
 obtain⟨g,rfl⟩:∃g,f=g+1:=⟨f-1,by omega⟩;unfold cU at he;rw[Int.toNat_natCast,if_pos h1]at he;simp only[List.getD,List.getElem?_eq_getElem h1,Option.getD_some,hs,hn]at he;by_cases ho:o=0
 ·subst ho;left;exact⟨rfl,he.symm⟩
 ·right;refine⟨by omega,Or.inr ⟨rfl,by omega,?_⟩⟩;by_cases ho1:o=1
  ·subst ho1;left;exact⟨rfl,he⟩
  ·right;refine⟨by omega,g,by omega,?_⟩;rw[show((k:Int)+1).toNat=k+1 by omega];simpa[ho,ho1]using he
theorem LR{k:Nat}(h:kh L r first o (k:Int))(hgo:first=true∨1≤o)(h1:k<L.length)(hn:ae L[k] [40]=false)(hs:ae L[k] [41]=false):kh L r false o ((k:Int)+1):=by
 obtain⟨f,hf,he⟩:=wX h hgo (by omega);have hf1:1≤f:=by omega
 obtain⟨g,rfl⟩:∃g,f=g+1:=⟨f-1,by omega⟩;unfold cU at he;rw[Int.toNat_natCast,if_pos h1]at he;simp only[List.getD,List.getElem?_eq_getElem h1,Option.getD_some,hs,hn]at he;refine Or.inr ⟨rfl,by omega,?_⟩;by_cases ho:o=0
 ·subst ho;left;exact⟨rfl,he⟩
 ·right;refine⟨by omega,g,by omega,?_⟩;rw[show((k:Int)+1).toNat=k+1 by omega];simpa[ho]using he
end
theorem dk(a:Option Addr)(cap:Nat)(L:af)(i:Int)(w:World)(h:aD w a L)(hL:L.length≤1048576)(hi:-9223372036854775808≤i∧i≤9223372036854775807) :
  ah 16 #[.slice a L.length cap,.int .i64 i] w (aA (.int .i64 (ag L i)) w):=by
 generalize hr:ag L i=r;have HR:=aj hr;clear hr;obtain⟨hi0,hi1⟩:=hi;go_enter func16,ntmps16;go_wp2;go_loopw [1,6,7] (fun v1 v5 v6 wr=>∃(x:Int) (o:Nat) (b:Bool),v1=.int .i64 x∧v5=.int .i64 (o:Int)∧v6=.bool b∧-9223372036854775808≤x∧x≤9223372036854775807∧o≤1048576∧Hid (kh L r b o x)∧(b=true∨(0≤x∧(o:Int)≤x))∧ai w wr) (fun v1 _ _ _=>L.length-(intOf v1).toNat)
 case atStart=>exact⟨i,0,true,rfl,rfl,rfl,hi0,hi1,Nat.zero_le _,Or.inl ⟨rfl,rfl,HR.out⟩,Or.inl rfl,Below.refl _ _⟩
 case round =>
  obtain⟨x,o,b,rfl,rfl,rfl,hx0,hx1,hoL,HS,hlo,hB⟩:=hrel;by_cases hgo:b=true∨1≤o
  ·by_cases hin:0≤x∧x<(L.length:Int)
   ·obtain⟨k,rfl⟩:∃k:Nat,x=(k:Int):=⟨x.toNat,by omega⟩;have hk:k<L.length:=by omega
    obtain⟨sb,off,rfl,hs,hc,_⟩:=h k hk;have hc':=(hB.cell (p:=⟨sb,off+k,none⟩) hs).trans hc;have hok:o≤k:=by
     rcases hlo with rfl|hlo
     ·rcases HS.out with⟨_,h2,_⟩|⟨h2,_⟩
      ·omega
      ·exact absurd h2 (by decide)
     ·omega
    have hgoB:b=true∨(b=false∧0<(o:Int)):=by
     cases b
     ·right;exact⟨rfl,by rcases hgo with hg|hg<;>first|(exact absurd hg (by decide))|omega⟩
     ·left;rfl
    cases h40:ae L[k] [40]
    ·cases h41:ae L[k] [41]
     ·have HN:Hid (kh L r false o ((k:Int)+1)):=LR HS.out hgo hk h40 h41;have b40:(L[k].toList==[40])=false:=h40;have b41:(L[k].toList==[41])=false:=h41;clear h40 h41 HS hc hgo hlo;generalize L[k]=t at hc' b40 b41;rcases hgoB with rfl|⟨rfl,hg⟩
      all_goals
       go_wp2
       go_roundw
       case rel=>exact⟨(k:Int)+1,o,false,rfl,rfl,rfl,by omega,by omega,hoL,HN.out,Or.inr ⟨by omega,by omega⟩,hB⟩
       case measure=>simp[intOf];omega
     ·have b40:(L[k].toList==[40])=false:=h40;have b41:(L[k].toList==[41])=true:=h41;rcases LU HS.out hgo hk h40 h41 with⟨rfl,hr1⟩|⟨ho1,hN⟩
      ·have HR1:=aj hr1;clear h40 h41 HS hc hgo hlo hr1;generalize L[k]=t at hc' b40 b41;rcases hgoB with rfl|⟨rfl,hg⟩
       ·go_wp2;go_ret;exact⟨by rw[HR1.out];rfl,hB⟩
       ·omega
      ·have HN:=aj hN;clear h40 h41 HS hc hgo hlo hN;generalize L[k]=t at hc' b40 b41;rcases hgoB with rfl|⟨rfl,hg⟩
       all_goals
        go_wp2
        go_roundw
        case rel=>exact⟨(k:Int)+1,o-1,false,rfl,by congr 1;omega,rfl,by omega,by omega,by omega,HN.out,Or.inr ⟨by omega,by omega⟩,hB⟩
        case measure=>simp[intOf];omega
    ·have HN:Hid (kh L r false (o+1) ((k:Int)+1)):=LQ HS.out hgo hk h40;have b40:(L[k].toList==[40])=true:=h40;clear h40 HS hc hgo hlo;generalize L[k]=t at hc' b40;rcases hgoB with rfl|⟨rfl,hg⟩
     all_goals
      go_wp2
      go_roundw
      case rel=>exact⟨(k:Int)+1,o+1,false,rfl,by go_num,rfl,by omega,by omega,by omega,HN.out,Or.inr ⟨by omega,by omega⟩,hB⟩
      case measure=>simp[intOf];omega
   ·have HR1:Hid (r=-1):=LS HS.out hgo (by omega);have hgoB:b=true∨(b=false∧0<(o:Int)):=by
     cases b
     ·right;exact⟨rfl,by rcases hgo with hg|hg<;>first|(exact absurd hg (by decide))|omega⟩
     ·left;rfl
    clear HS hgo hlo;rcases hgoB with rfl|⟨rfl,hg⟩
    all_goals
     by_cases hneg:x<0
     ·go_wp2;go_ret;exact⟨by rw[HR1.out];rfl,hB⟩
     ·have hge:(L.length:Int)≤x:=by omega
      go_wp2;go_ret;exact⟨by rw[HR1.out];rfl,hB⟩
  ·have hb:b=false:=by cases b<;>simp_all
   subst hb;have ho:o=0:=by omega
   subst ho;have HR1:Hid (r=x):=LP HS.out;clear HS;go_wp2;go_ret;exact⟨by rw[HR1.out];rfl,hB⟩
def bB(s:ByteArray):Prop:=ae s [40]=false∧ae s [41]=false
def jw(L:af)(i e:Int):Prop:=0≤i∧i≤e∧e≤(L.length:Int)∧∀f o:Nat,1≤o→cU L (f+(e-i).toNat) i.toNat o=cU L f e.toNat o
section
variable {L:af} {i j e x:Int}
theorem tI(h0:0≤i)(h1:i≤(L.length:Int)):jw L i i:=⟨h0,Int.le_refl _,h1,fun f o _=>by rw[Int.sub_self];rfl⟩
theorem jw.trans(h:jw L i j)(k:jw L j e):jw L i e:=by
 obtain⟨h0,h1,h2,h3⟩:=h;obtain⟨k0,k1,k2,k3⟩:=k;refine⟨h0,by omega,k2,fun f o ho=>?_⟩;rw[show f+(e-i).toNat=(f+(e-j).toNat)+(j-i).toNat by omega,h3 _ _ ho,k3 _ _ ho]
theorem pL(h0:0≤i)(h1:i<(L.length:Int)):L.getD i.toNat ⟨#[]⟩=aa L i:=by
 unfold aa;rw[if_pos ⟨h0,h1⟩]
theorem sN{f o:Nat}(h0:0≤i)(h1:i<(L.length:Int))(h:ae (aa L i) [40]=true):cU L (f+1) i.toNat o=cU L f (i+1).toNat (o+1):=by
 rw[cU,if_pos (by omega),pL h0 h1,h,show(i+1).toNat=i.toNat+1 by omega];rfl
theorem Aw{f o:Nat}(h0:0≤i)(h1:i<(L.length:Int))(hn:ae (aa L i) [40]=false)(h:ae (aa L i) [41]=true)(ho:1≤o):cU L (f+1) i.toNat (o+1)=cU L f (i+1).toNat o:=by
 rw[cU,if_pos (by omega),pL h0 h1,hn,h,show(i+1).toNat=i.toNat+1 by omega];simp only[Bool.false_eq_true,if_false,if_true];rw[if_neg (by omega),if_neg (by omega)];rfl
theorem Au{f:Nat}(h0:0≤i)(h1:i<(L.length:Int))(hn:ae (aa L i) [40]=false)(h:ae (aa L i) [41]=true):cU L (f+1) i.toNat 1=i+1:=by
 rw[cU,if_pos (by omega),pL h0 h1,hn,h];simp only[Bool.false_eq_true,if_false,if_true];rw[if_neg (by omega)];omega
theorem Av{f o:Nat}(h0:0≤i)(h1:i<(L.length:Int))(h:bB (aa L i))(ho:1≤o):cU L (f+1) i.toNat o=cU L f (i+1).toNat o:=by
 rw[cU,if_pos (by omega),pL h0 h1,h.1,h.2,show(i+1).toNat=i.toNat+1 by omega];simp only[Bool.false_eq_true,if_false];rw[if_neg (by omega)]
theorem oB(h0:0≤i)(h1:i<(L.length:Int))(h:bB (aa L i)):jw L i (i+1) :=
 ⟨h0,by omega,by omega,fun f o ho=>by
  rw[show f+(i+1-i).toNat=f+1 by omega];exact Av h0 h1 h ho⟩
theorem aQ{s:ByteArray}{c d:List UInt8}(h:ae s c=true)(hcd:(c==d)=false):ae s d=false:=by rw[aZ h,aS];exact hcd
theorem aC{s:ByteArray}{c:List UInt8}(h:ae s c=true)(d:List UInt8)(e:(c==d)=false:=by decide):(s.toList==d)=false:=aQ h e
theorem na(h0:0≤i)(h1:i<(L.length:Int))(ho:ae (aa L i) [40]=true)(hs:jw L (i+1) x)(hx:x<(L.length:Int))(hc:ae (aa L x) [41]=true):jw L i (x+1)∧ag L i=x+1:=by
 obtain⟨s0,s1,s2,s3⟩:=hs;have hn:=aQ (d:=[40]) hc (by decide);refine⟨⟨h0,by omega,by omega,fun f o h=>?_⟩,?_⟩
 ·rw[show f+(x+1-i).toNat=((f+1)+(x-(i+1)).toNat)+1 by omega,sN h0 h1 ho,s3 _ _ (by omega),Aw (by omega) hx hn hc h]
 ·unfold ag;rw[if_neg (by omega),show L.length+1=((L.length-1-(x-(i+1)).toNat)+1+(x-(i+1)).toNat)+1 by omega,sN h0 h1 ho,s3 _ _ (by omega),Au (by omega) hx hn hc]
theorem gw(h0:0≤i)(h1:i<(L.length:Int))(h:bB (aa L i)):ag L i=i+1:=by
 unfold ag;rw[if_neg (by omega),cU,if_pos (by omega),pL h0 h1,h.1,h.2];simp only[Bool.false_eq_true,if_false,if_true];omega
theorem gM{c:List UInt8}(hc:c≠[])(h:aK L x c≠-1):aK L x c=x+1∧0≤x∧x<(L.length:Int)∧ae (aa L x) c=true:=by
 unfold aK at h ⊢;split at h
 ·rename_i hw;rw[if_pos hw];by_cases hin:0≤x∧x<(L.length:Int)
  ·exact⟨rfl,hin.1,hin.2,hw⟩
  ·rw[fZ hin,nN c hc]at hw;exact absurd hw (by decide)
 ·exact absurd rfl h
theorem Jb{s:ByteArray}(h:bt s=true):bB s:=by
 constructor
 ·refine Bool.eq_false_iff.mpr fun hw=>?_
  rw[aZ hw]at h;exact absurd h (by decide +kernel)
 ·refine Bool.eq_false_iff.mpr fun hw=>?_
  rw[aZ hw]at h;exact absurd h (by decide +kernel)
theorem jF(h:aU L x≠-1):aU L x=x+1∧0≤x∧x<(L.length:Int)∧aV (aa L x)=true:=by
 unfold aU at h ⊢;split at h
 ·rename_i hw;rw[if_pos hw];by_cases hin:0≤x∧x<(L.length:Int)
  ·exact⟨rfl,hin.1,hin.2,hw⟩
  ·rw[fZ hin]at hw;unfold aV at hw;rw[wg]at hw;exact absurd hw (by decide)
 ·exact absurd rfl h
theorem dD{s:ByteArray}(h:aV s=true):bB s:=by
 unfold aV at h;rw[Bool.and_eq_true]at h;exact Jb h.1
theorem JP{s:ByteArray}(hn:ae s [40]=false)(h:ic s=true):bB s:=by
 refine⟨hn,Bool.eq_false_iff.mpr fun hw=>?_⟩;rw[aZ hw]at h;exact absurd h (by decide +kernel)
def Ok(L:af)(i x:Int):Prop:=x=-1∨(L.length:Int)<x∨jw L i x
def Item(L:af)(i x:Int):Prop:=x=-1∨(jw L i x∧ag L i=x)
theorem Item.ok(h:Item L i x):Ok L i x:=h.elim Or.inl fun h=>Or.inr (Or.inr h.1)
theorem pB(h0:0≤i):Ok L i i:=by
 by_cases h:i≤(L.length:Int)
 ·exact Or.inr (Or.inr (tI h0 h))
 ·exact Or.inr (Or.inl (by omega))
theorem nP:Item L i (-1):=Or.inl rfl
theorem GL{c:Prop}[Decidable c]{y:Int}(h1:Item L i x)(h2:Item L i y):Item L i (if c then x else y):=by split<;>assumption
theorem wv(h:Ok L i x):Ok L i (aU L x):=by
 by_cases hn:aU L x=-1
 ·exact Or.inl hn
 ·obtain⟨he,h0,h1,hb⟩:=jF hn;rw[he];rcases h with h|h|h
  ·omega
  ·omega
  ·exact Or.inr (Or.inr (h.trans (oB h0 h1 (dD hb))))
theorem BV{F:Int→Int}(hF:∀y,Ok L y (F y)∨y<0)(hF1:F (-1)=-1)(h:Ok L i x):Ok L i (aK L (F (aK L x [40])) [41]):=by
 by_cases hn:aK L (F (aK L x [40])) [41]=-1
 ·exact Or.inl hn
 ·obtain⟨he,h0,h1,hb⟩:=gM (by decide) hn;rw[he];by_cases hm:aK L x [40]=-1
  ·rw[hm,hF1]at h0;omega
  ·obtain⟨he2,h2,h3,hb2⟩:=gM (by decide) hm;rw[he2]at h0 h1 hb ⊢;rcases hF (x+1)with hf|hf
   ·rcases hf with hf|hf|hf
    ·omega
    ·omega
    ·rcases h with h|h|h
     ·omega
     ·omega
     ·exact Or.inr (Or.inr (h.trans (na h2 h3 hb2 hf h1 hb).1))
   ·omega
theorem mF(ho:ae (aa L i) [40]=true)(hp:bB (aa L (i+1)))(h:Ok L (i+2) x):Item L i (aK L x [41]):=by
 obtain⟨h0,h1⟩:=bF ho;by_cases hn:aK L x [41]=-1
 ·exact Or.inl hn
 ·obtain⟨he,h2,h3,hb⟩:=gM (by decide) hn;rw[he];rcases h with h|h|h
  ·omega
  ·omega
  ·have h4:i+1<(L.length:Int):=by obtain⟨_,a,b,_⟩:=h;omega
   have hs:=(oB (by omega) h4 hp).trans (by rw[show i+1+1=i+2 by omega];exact h);exact Or.inr (na h0 h1 ho hs h3 hb)
end
def iC(L:af)(r:Nat→Int→Int):Prop:=Good L r∧(∀m j,m<4→Item L j (r m j))∧∀m j,4≤m→0≤j→Ok L j (r m j)
section
variable {L:af} {r:Nat→Int→Int} {i x:Int}
theorem iC.ok(hr:iC L r)(m:Nat)(h:Ok L i x):Ok L i (r m x):=by
 by_cases hm:m<4
 ·have hE:=hr.1.1 m x hm;rcases h with rfl|h|h
  ·unfold Ends at hE;left;omega
  ·unfold Ends at hE;left;omega
  ·rcases hr.2.1 m x hm with hk|hk
   ·exact Or.inl hk
   ·exact Or.inr (Or.inr (h.trans hk.1))
 ·rcases h with rfl|h|h
  ·have hE:=hr.1.2 m (-1) (by omega) (by omega);unfold Fw at hE;left;omega
  ·have hE:=hr.1.2 m x (by omega) (by omega);unfold Fw at hE;rcases hE with hE|hE
   ·exact Or.inl hE
   ·exact Or.inr (Or.inl (by omega))
  ·rcases hr.2.2 m x (by omega) (by have:=h.1;have:=h.2.1;omega)with hk|hk|hk
   ·exact Or.inl hk
   ·exact Or.inr (Or.inl hk)
   ·exact Or.inr (Or.inr (h.trans hk))
theorem iC.any(hr:iC L r)(m:Nat)(hm:4≤m)(y:Int):Ok L y (r m y)∨y<0:=by
 by_cases hy:0≤y
 ·exact Or.inl (hr.2.2 m y hm hy)
 ·exact Or.inr (by omega)
theorem iC.none(hr:iC L r)(m:Nat)(hm:4≤m):r m (-1)=-1:=by
 have hE:=hr.1.2 m (-1) hm (by omega);unfold Fw at hE;omega
theorem JQ{s:ByteArray}(h:kv s=true):bB s:=by
 have hm:=(re s).mp h;simp only[dV,List.mem_cons,List.not_mem_nil,or_false]at hm;rcases hm with rfl|rfl|rfl|rfl|rfl|rfl<;>exact⟨by rw[aS];decide,by rw[aS];decide⟩
theorem ni{s:ByteArray}{c:List UInt8}(h:ae s c=true)(h1:(c==[40])=false)(h2:(c==[41])=false):bB s:=⟨aQ h h1,aQ h h2⟩
theorem JJ(hr:iC L r)(h:Ok L i x):Ok L i (aK L (r 5 (aU L (aK L x [40]))) [41]) :=
 BV (F:=fun y=>r 5 (aU L y)) (fun y=>by
  by_cases hy:0≤y
  ·exact Or.inl (hr.ok 5 (wv (pB hy)))
  ·exact Or.inr (by omega)) (by
   show r 5 (aU L (-1))=-1;have:aU L (-1)=-1:=by
    have:=eD (L:=L) (i:=-1) (x:=-1) (Or.inl rfl);unfold Ends at this;omega
   rw[this];exact hr.none 5 (by decide)) h
theorem JI(hr:iC L r)(h:Ok L i x):Ok L i (aK L (r 7 (aK L x [40])) [41]) :=
 BV (F:=r 7) (hr.any 7 (by decide)) (hr.none 7 (by decide)) h
theorem MR(hr:iC L r)(i:Int):Item L i (bR L r i):=by
 unfold bR;split
 ·rename_i ho;obtain⟨h0,h1⟩:=bF ho;have hs:Ok L (i+2) (i+2):=pB (by omega);split
  ·rename_i hw;refine mF ho ?_ (hr.ok _ hs);rw[Bool.or_eq_true,Bool.or_eq_true]at hw;rcases hw with(hw|hw)|hw
   ·exact JQ hw
   ·exact ni hw (by decide) (by decide)
   ·exact ni hw (by decide) (by decide)
  ·split
   ·rename_i hw;exact mF ho (ni hw (by decide) (by decide)) (hr.ok _ (JI hr hs))
   ·split
    ·rename_i hw;exact mF ho (ni hw (by decide) (by decide)) (hr.ok _ (hr.ok _ hs))
    ·split
     ·rename_i hw;rw[Bool.or_eq_true]at hw;refine mF ho ?_ (hr.ok _ hs);rcases hw with hw|hw<;>exact ni hw (by decide) (by decide)
     ·split
      ·rename_i hw;exact mF ho (ni hw (by decide) (by decide)) hs
      ·split
       ·rename_i hw;exact mF ho (ni hw (by decide) (by decide)) (hr.ok _ (wv hs))
       ·exact nP
 ·rename_i ho;split
  ·rename_i hw;by_cases hin:0≤i∧i<(L.length:Int)
   ·have hp:=JP (Bool.eq_false_iff.mpr ho) hw;exact Or.inr ⟨oB hin.1 hin.2 hp,gw hin.1 hin.2 hp⟩
   ·rw[fZ hin,BW]at hw;exact absurd hw (by decide)
  ·exact nP
theorem EJ(hr:iC L r)(ho:ae (aa L i) [40]=true):Item L i (bp L r (aa L (i+1)) (i+2)):=by
 obtain⟨h0,h1⟩:=bF ho;have hs:Ok L (i+2) (i+2):=pB (by omega);by_cases hp:bB (aa L (i+1))
 ·unfold bp;repeat' (first|exact nP|with_reducible refine GL ?_ ?_|(refine mF ho hp ?_;repeat' (first|exact hs|refine wv ?_|refine JJ hr ?_|refine hr.ok _ ?_)))
 ·have hw:∀c:List UInt8,(c==[40])=false→(c==[41])=false→ae (aa L (i+1)) c=false:=fun c a b=>Bool.eq_false_iff.mpr fun h=>hp (ni h a b)
  unfold bp;rw[hw _ (by decide) (by decide),hw _ (by decide) (by decide),hw _ (by decide) (by decide),hw _ (by decide) (by decide),hw _ (by decide) (by decide),hw _ (by decide) (by decide),hw _ (by decide) (by decide),hw _ (by decide) (by decide),hw _ (by decide) (by decide),hw _ (by decide) (by decide),hw _ (by decide) (by decide),hw _ (by decide) (by decide),hw _ (by decide) (by decide),hw _ (by decide) (by decide),hw _ (by decide) (by decide),hw _ (by decide) (by decide),hw _ (by decide) (by decide)];exact nP
theorem zp(hr:iC L r)(f:Bool)(i:Int):Item L i (dB L r f i):=by
 unfold dB;split
 ·rename_i ho;split
  ·exact nP
  ·exact EJ hr ho
 ·exact nP
theorem BQ(i:Int):Item L i (aU L i):=by
 by_cases hn:aU L i=-1
 ·exact Or.inl hn
 ·obtain⟨he,h0,h1,hb⟩:=jF hn;rw[he];exact Or.inr ⟨oB h0 h1 (dD hb),gw h0 h1 (dD hb)⟩
theorem Kp(hr:iC L r)(i:Int):Item L i (eG L r i):=by
 unfold eG;split
 ·rename_i ho;obtain⟨h0,h1⟩:=bF ho;by_cases hn:aU L (i+1)=-1
  ·have hz:r 0 (-1)=-1:=by have:=hr.1.1 0 (-1) (by decide);unfold Ends at this;omega
   rw[hn,hz];exact Or.inl (kN (by decide) (by omega))
  ·obtain⟨he,_,_,hb⟩:=jF hn;rw[he,show i+1+1=i+2 by omega];exact mF ho (dD hb) (hr.ok _ (pB (by omega)))
 ·exact BQ i
theorem JO(hr:iC L r)(what:Nat)(i:Int):Item L i (fX L r what i):=by
 unfold fX;repeat' split
 ·exact hr.2.1 0 i (by decide)
 ·exact BQ i
 ·exact hr.2.1 1 i (by decide)
 ·exact hr.2.1 3 i (by decide)
theorem IN(hr:iC L r)(what:Nat){i:Int}(h:0≤i):Ok L i (eC L r what i):=by
 unfold eC;split
 ·exact pB h
 ·exact hr.ok _ (JO hr what i).ok
theorem M6(hr:iC L r)(k:Nat){i:Int}(h:0≤i):Ok L i (oC r k i):=by
 cases k with
 |zero=>exact pB h
 |succ k =>
  show Ok L i (if i<0 then i else r (8+k) (r 0 i));rw[if_neg (by omega)];exact hr.ok _ (hr.2.1 0 i (by decide)).ok
end
theorem uY(L:af):∀n,iC L (aF L n)
 |0=>⟨gL L 0,fun _ _ _=>nP,fun _ _ _ _=>Or.inl rfl⟩
 |n+1=>by
  have hr:=uY L n;refine⟨gL L (n+1),fun m j hm=>?_,fun m j hm hj=>?_⟩
  ·unfold aF;obtain rfl|rfl|rfl|rfl:m=0∨m=1∨m=2∨m=3:=by omega
   ·exact MR hr j
   ·exact zp hr true j
   ·exact zp hr false j
   ·exact Kp hr j
  ·unfold aF;rw[if_neg (by omega),if_neg (by omega),if_neg (by omega),if_neg (by omega)];split
   ·exact IN hr _ hj
   ·exact M6 hr _ hj
set_option maxRecDepth 100000 in
theorem Hm(w:World) :
  ah 200 #[] w fun e w'=>e=.returned (.slice (some ⟨w.heap.size,0,none⟩) 26 26)∧oJ w.heap.size 0 pU w'∧ai w w':=by
 go_enter func200,ntmps200;go_wp2;go_ret;refine⟨rfl,fun i hi=>?_,by go_grown⟩;have h26:i<26:=hi;match i,h26 with
 |0,_|1,_|2,_|3,_|4,_|5,_|6,_|7,_|8,_|9,_|10,_|11,_|12,_|13,_|14,_|15,_|16,_|17,_|18,_|19,_|20,_|21,_|22,_|23,_|24,_|25,_=>simp[pU,go_sem]
 |n+26,h=>exact absurd h (by omega)
theorem LB(s:ByteArray)(w:World) :
  ah 178 #[.string s] w (aA (.bool (gB s)) w):=by
 go_enter func178,ntmps178;go_wp2_with fail;refine(Hm _).mono ?_;rintro e w1 ⟨rfl,hT,hb⟩;go_wp2_with fail;refine(qT _ 0 26 pU s _ hT (by decide)).mono ?_;rintro e w2 ⟨x,rfl,hx,rfl⟩;have HX:Hid (decide (0≤x)=gB s):=by
  show decide (0≤x)=gB s;rw[Bool.eq_iff_iff,decide_eq_true_iff,CK];exact hx
 clear hx;go_wp2;go_ret;exact⟨by rw[←HX.out];rfl,hb⟩
theorem po(s:ByteArray)(w:World)(hs:s.size≤maxLen) :
  ah 144 #[.string s] w (aA (.bool (aV s)) w):=by
 cases hn:bt s
 ·have HN:=aj hn;have HB:=aj (by unfold aV;rw[hn];rfl:aV s=false);clear hn;go_enter func144,ntmps144;go_wp2_with fail;refine(nV s _ hs).mono ?_;rintro e w1 ⟨rfl,rfl⟩;rw[HN.out];go_wp2;go_ret;exact⟨by rw[HB.out];rfl,Below.refl _ _⟩
 ·have HN:=aj hn;have HB:=aj (by unfold aV;rw[hn];rfl:aV s=!gB s);clear hn;go_enter func144,ntmps144;go_wp2_with fail;refine(nV s _ hs).mono ?_;rintro e w1 ⟨rfl,rfl⟩;rw[HN.out];go_wp2_with fail;refine(LB s _).mono ?_;rintro e w2 ⟨rfl,hb⟩;generalize gB s=q at HB ⊢;go_wp2;go_ret;exact⟨by rw[HB.out];rfl,hb⟩
theorem xa{w:World}{a:Option Addr}{L:af}(h:aD w a L)(i:Int):(aa L i).size≤maxLen:=by
 by_cases hin:0≤i∧i<(L.length:Int)
 ·rw[eT hin.1 hin.2];obtain⟨_,_,_,_,_,hm⟩:=h i.toNat (by omega);exact hm
 ·rw[fZ hin];exact Nat.zero_le _
theorem fU(a:Option Addr)(cap:Nat)(L:af)(i:Int)(w:World)(h:aD w a L)(_hL:L.length≤1048576)(hi:ka i) :
  ah 82 #[.slice a L.length cap,.int .i64 i] w (aA (.string (aa L i)) w):=by
 obtain⟨hi0,hi1⟩:=hi;by_cases h0:i<0
 ·have HS:Hid (aa L i=⟨#[]⟩):=fZ (by omega);go_enter func82,ntmps82;go_wp2;go_ret;exact⟨by rw[HS.out];rfl,Below.refl _ _⟩
 by_cases h1:(L.length:Int)≤i
 ·have HS:Hid (aa L i=⟨#[]⟩):=fZ (by omega);go_enter func82,ntmps82;go_wp2;go_ret;exact⟨by rw[HS.out];rfl,Below.refl _ _⟩
 obtain⟨k,rfl⟩:∃k:Nat,i=(k:Int):=⟨i.toNat,by omega⟩;have hk:k<L.length:=by omega
 have HS:=aj (by rw[eT (by omega) (by omega)];rfl:aa L (k:Int)=L[k]);obtain⟨sb,off,rfl,hs,hc,hm⟩:=h k hk;generalize L[k]=t at hc HS;go_enter func82,ntmps82;go_wp2;go_ret;exact⟨by rw[HS.out];rfl,Below.refl _ _⟩
theorem A6(a:Option Addr)(cap:Nat)(L:af)(i:Int)(c:List UInt8)(w:World)(h:aD w a L)(hL:L.length≤1048576)(hi:ka i)(hc:c≠[]) :
  ah 83 #[.slice a L.length cap,.int .i64 i,.string ⟨c.toArray⟩] w (aA (.int .i64 (aK L i c)) w):=by
 have hcl:(⟨c.toArray⟩:ByteArray).toList=c:=by rw[ByteArray.toList_eq]
 cases hw:ae (aa L i) c
 ·have HE:=aj (by unfold aK;rw[hw];rfl:aK L i c=-1);have hb:((aa L i).toList==(⟨c.toArray⟩:ByteArray).toList)=false:=by rw[hcl];exact hw
  clear hw hcl;go_enter func83,ntmps83;go_wp2_with fail;refine(fU a cap L i _ h hL hi).mono ?_;rintro e w1 ⟨rfl,hb1⟩;generalize aa L i=t at hb;generalize (⟨c.toArray⟩:ByteArray)=u at hb;go_wp2;go_ret;exact⟨by rw[HE.out];rfl,hb1⟩
 ·have hin:0≤i∧i<(L.length:Int):=by
   by_cases hin:0≤i∧i<(L.length:Int)
   ·exact hin
   ·rw[fZ hin,nN c hc]at hw;exact absurd hw (by decide)
  obtain⟨hin0,hin1⟩:=hin
  have HE:=aj (by unfold aK;rw[hw];rfl:aK L i c=i+1)
  have HW:Hid (aa L i=⟨c.toArray⟩):=aZ hw
  clear hw hcl
  go_enter func83,ntmps83
  go_wp2_with fail
  refine(fU a cap L i _ h hL hi).mono ?_
  rintro e w1 ⟨rfl,hb1⟩
  rw[HW.out]
  generalize (⟨c.toArray⟩:ByteArray)=u
  go_wp2
  go_ret
  exact⟨by rw[HE.out];rfl,hb1⟩
theorem sT(a:Option Addr)(cap:Nat)(L:af)(i:Int)(w:World)(h:aD w a L)(hL:L.length≤1048576)(hi:ka i) :
  ah 85 #[.slice a L.length cap,.int .i64 i] w (aA (.int .i64 (aU L i)) w):=by
 cases hw:aV (aa L i)
 ·have HE:=aj (by unfold aU;rw[hw];rfl:aU L i=-1);have HW:=aj hw;clear hw;go_enter func85,ntmps85;go_wp2_with fail;refine(fU a cap L i _ h hL hi).mono ?_;rintro e w1 ⟨rfl,hb1⟩;go_wp2_with fail;refine(po (aa L i) _ (xa h i)).mono ?_;rintro e w2 ⟨rfl,hb2⟩;rw[HW.out];go_wp2;go_ret;exact⟨by rw[HE.out];rfl,aw hb1 hb2⟩
 ·have hin:=eD (L:=L) (i:=0) (x:=i);have hin2:0≤i∧i<(L.length:Int):=by
   by_cases hin:0≤i∧i<(L.length:Int)
   ·exact hin
   ·rw[fZ hin]at hw;unfold aV at hw;rw[wg]at hw;exact absurd hw (by decide)
  obtain⟨hin0,hin1⟩:=hin2;clear hin;have HE:=aj (by unfold aU;rw[hw];rfl:aU L i=i+1);have HW:=aj hw;clear hw;go_enter func85,ntmps85;go_wp2_with fail;refine(fU a cap L i _ h hL hi).mono ?_;rintro e w1 ⟨rfl,hb1⟩;go_wp2_with fail;refine(po (aa L i) _ (xa h i)).mono ?_;rintro e w2 ⟨rfl,hb2⟩;rw[HW.out];go_wp2;go_ret;exact⟨by rw[HE.out];rfl,aw hb1 hb2⟩
def Sg(L:af)(i x:Int):Prop:=x=-1∨∀k,i≤k→k<x→bT (aa L k)=true
section
variable {L:af} {i x:Int}
theorem om:Sg L i i:=Or.inr fun k h1 h2=>absurd h2 (by omega)
theorem ou:Sg L i (-1):=Or.inl rfl
theorem L1{c:Prop}[Decidable c]{y:Int}(h1:Sg L i x)(h2:Sg L i y):Sg L i (if c then x else y):=by split<;>assumption
theorem Sg.trans{y:Int}(h:Sg L i x)(hn:x=-1→y=-1)(k:Sg L x y):Sg L i y:=by
 rcases h with h|h
 ·exact Or.inl (hn h)
 ·rcases k with k|k
  ·exact Or.inl k
  ·exact Or.inr fun j h1 h2=>if hj:j<x then h j h1 hj else k j (by omega) h2
theorem kU{c:List UInt8}(hc:c≠[])(hs:bT ⟨c.toArray⟩=true)(h:Sg L i x):Sg L i (aK L x c):=by
 by_cases hn:aK L x c=-1
 ·exact Or.inl hn
 ·obtain⟨he,h0,h1,hb⟩:=gM hc hn;rw[he];refine Or.inr fun k h2 h3=>?_
  by_cases hk:k<x
  ·rcases h with h|h
   ·omega
   ·exact h k h2 hk
  ·have:k=x:=by omega
   subst this;rw[aZ hb];exact hs
theorem Mc{s:ByteArray}(h:bt s=true):bT s=true:=lD (qS ((iY s).mp h)) (by decide)
theorem C2{s:ByteArray}(h:aV s=true):bT s=true:=by
 unfold aV at h;rw[Bool.and_eq_true]at h;exact Mc h.1
theorem Me{s:ByteArray}(h:kv s=true):bT s=true:=lD (vA ((vW s).mp ((re s).mp h))) (by decide)
theorem Md{s:ByteArray}(h:ic s=true):bT s=true:=by
 unfold ic at h;rw[Bool.or_eq_true,Bool.or_eq_true,Bool.or_eq_true]at h;rcases h with((h|h)|h)|h
 ·exact lD (mJ ((fk s).mp h)) (by decide)
 ·exact lD (nR ((jI s).mp h)) (by decide)
 ·rw[aZ h];decide +kernel
 ·exact C2 h
theorem rE(h:Sg L i x):Sg L i (aU L x):=by
 by_cases hn:aU L x=-1
 ·exact Or.inl hn
 ·obtain⟨he,h0,h1,hb⟩:=jF hn;rw[he];refine Or.inr fun k h2 h3=>?_
  by_cases hk:k<x
  ·rcases h with h|h
   ·omega
   ·exact h k h2 hk
  ·have:k=x:=by omega
   subst this;exact C2 hb
theorem tG:bT ⟨#[40]⟩=true:=by decide +kernel
theorem mi:bT ⟨#[41]⟩=true:=by decide +kernel
theorem ot(ho:ae (aa L i) [40]=true)(hp:bT (aa L (i+1))=true)(h:Sg L (i+2) x):Sg L i x:=by
 rcases h with h|h
 ·exact Or.inl h
 ·refine Or.inr fun k h2 h3=>?_
  by_cases h4:k=i
  ·subst h4;rw[aZ ho];exact tG
  ·by_cases h5:k=i+1
   ·subst h5;exact hp
   ·exact h k (by omega) h3
end
def Clean(L:af)(r:Nat→Int→Int):Prop:=Good L r∧∀m j,-1≤j→Sg L j (r m j)
section
variable {L:af} {r:Nat→Int→Int} {i x:Int}
theorem Clean.none(hr:Clean L r)(m:Nat):r m (-1)=-1:=by
 by_cases hm:m<4
 ·have hE:=hr.1.1 m (-1) hm;unfold Ends at hE;omega
 ·have hE:=hr.1.2 m (-1) (by omega) (by omega);unfold Fw at hE;omega
theorem Clean.J(hr:Clean L r)(m:Nat)(hx:-1≤x)(h:Sg L i x):Sg L i (r m x):=h.trans (fun e=>by rw[e];exact hr.none m) (hr.2 m x hx)
theorem Clean.lo(hr:Clean L r)(m:Nat)(hx:-1≤x):-1≤r m x:=by
 by_cases hm:m<4
 ·have hE:=hr.1.1 m x hm;unfold Ends at hE;omega
 ·have hE:=hr.1.2 m x (by omega) hx;unfold Fw at hE;omega
theorem sL{c:List UInt8}(hx:-1≤x):-1≤aK L x c:=by unfold aK;split<;>omega
theorem td(hx:-1≤x):-1≤aU L x:=by unfold aU;split<;>omega
theorem nj{s:ByteArray}{c:List UInt8}(h:ae s c=true)(hs:bT ⟨c.toArray⟩=true):bT s=true:=by rw[aZ h];exact hs
theorem MX(hr:Clean L r)(hi:-1≤i):Sg L i (bR L r i):=by
 have hs:Sg L (i+2) (i+2):=om;have hl:-1≤i+2:=by omega
 unfold bR;split
 ·rename_i ho;split
  ·rename_i hw;rw[Bool.or_eq_true,Bool.or_eq_true]at hw;refine ot ho ?_ (kU (by decide) mi (hr.J _ hl hs));rcases hw with(hw|hw)|hw
   ·exact Me hw
   ·exact nj hw (by decide +kernel)
   ·exact nj hw (by decide +kernel)
  ·split
   ·rename_i hw;refine ot ho (nj hw (by decide +kernel)) (kU (by decide) mi (hr.J _ (sL (hr.lo _ (sL hl))) (kU (by decide) mi (hr.J _ (sL hl) (kU (by decide) tG hs)))))
   ·split
    ·rename_i hw;exact ot ho (nj hw (by decide +kernel)) (kU (by decide) mi (hr.J _ (hr.lo _ hl) (hr.J _ hl hs)))
    ·split
     ·rename_i hw;rw[Bool.or_eq_true]at hw;refine ot ho ?_ (kU (by decide) mi (hr.J _ hl hs));rcases hw with hw|hw<;>exact nj hw (by decide +kernel)
     ·split
      ·rename_i hw;exact ot ho (nj hw (by decide +kernel)) (kU (by decide) mi hs)
      ·split
       ·rename_i hw;exact ot ho (nj hw (by decide +kernel)) (kU (by decide) mi (hr.J _ (td hl) (rE hs)))
       ·exact ou
 ·split
  ·rename_i hw;refine Or.inr fun k h1 h2=>?_
   have:k=i:=by omega
   subst this;exact Md hw
  ·exact ou
theorem EL(hr:Clean L r)(ho:ae (aa L i) [40]=true)(hi:-1≤i)(hp:bT (aa L (i+1))=true):Sg L i (bp L r (aa L (i+1)) (i+2)):=by
 have hs:Sg L (i+2) (i+2):=om;have hl:-1≤i+2:=by omega
 refine ot ho hp ?_;unfold bp;repeat' (first|exact ou|with_reducible refine L1 ?_ ?_|exact hs|exact hl|refine kU (by decide) mi ?_|refine kU (by decide) tG ?_|refine rE ?_|refine hr.J _ ?_ ?_|refine hr.lo _ ?_|refine sL ?_|refine td ?_)
theorem zr(hr:Clean L r)(f:Bool)(hi:-1≤i):Sg L i (dB L r f i):=by
 unfold dB;split
 ·rename_i ho;split
  ·exact ou
  ·cases hp:bT (aa L (i+1))
   ·have hw:∀c:List UInt8,bT ⟨c.toArray⟩=true→ae (aa L (i+1)) c=false:=fun c a=>Bool.eq_false_iff.mpr fun h=>by
     rw[nj h a]at hp;exact absurd hp (by decide)
    unfold bp
    rw[hw _ (by decide +kernel),hw _ (by decide +kernel),hw _ (by decide +kernel),hw _ (by decide +kernel),hw _ (by decide +kernel),hw _ (by decide +kernel),hw _ (by decide +kernel),hw _ (by decide +kernel),hw _ (by decide +kernel),hw _ (by decide +kernel),hw _ (by decide +kernel),hw _ (by decide +kernel),hw _ (by decide +kernel),hw _ (by decide +kernel),hw _ (by decide +kernel),hw _ (by decide +kernel),hw _ (by decide +kernel)]
    exact ou
   ·exact EL hr ho hi hp
 ·exact ou
theorem Ks(hr:Clean L r)(hi:-1≤i):Sg L i (eG L r i):=by
 unfold eG;split
 ·rename_i ho;have h1:Sg L i (i+1):=Or.inr fun k h1 h2=>by
   have:k=i:=by omega
   subst this;rw[aZ ho];exact tG
  exact kU (by decide) mi (hr.J _ (td (by omega)) (rE h1))
 ·exact rE om
theorem BX(hr:Clean L r)(what:Nat)(hi:-1≤i):Sg L i (fX L r what i)∧-1≤fX L r what i:=by
 unfold fX;repeat' split
 ·exact⟨hr.2 0 i hi,hr.lo _ hi⟩
 ·exact⟨rE om,td hi⟩
 ·exact⟨hr.2 1 i hi,hr.lo _ hi⟩
 ·exact⟨hr.2 3 i hi,hr.lo _ hi⟩
theorem IP(hr:Clean L r)(what:Nat)(hi:-1≤i):Sg L i (eC L r what i):=by
 unfold eC;split
 ·exact om
 ·exact hr.J _ (BX hr what hi).2 (BX hr what hi).1
theorem M7(hr:Clean L r)(k:Nat)(hi:-1≤i):Sg L i (oC r k i):=by
 cases k with
 |zero=>exact om
 |succ k =>
  show Sg L i (if i<0 then i else r (8+k) (r 0 i));split
  ·exact om
  ·exact hr.J _ (hr.lo _ hi) (hr.2 0 i hi)
end
theorem z6(L:af):∀n,Clean L (aF L n)
 |0=>⟨gL L 0,fun _ _ _=>ou⟩
 |n+1=>by
  have hr:=z6 L n;refine⟨gL L (n+1),fun m j hj=>?_⟩;unfold aF;by_cases h0:m=0
  ·rw[if_pos h0];exact MX hr hj
  by_cases h1:m=1
  ·rw[if_neg h0,if_pos h1];exact zr hr true hj
  by_cases h2:m=2
  ·rw[if_neg h0,if_neg h1,if_pos h2];exact zr hr false hj
  by_cases h3:m=3
  ·rw[if_neg h0,if_neg h1,if_neg h2,if_pos h3];exact Ks hr hj
  rw[if_neg h0,if_neg h1,if_neg h2,if_neg h3];split
  ·exact IP hr _ hj
  ·exact M7 hr _ hj
end Go.Proofs.YtdojfommmpnbgaaGreatDoor
