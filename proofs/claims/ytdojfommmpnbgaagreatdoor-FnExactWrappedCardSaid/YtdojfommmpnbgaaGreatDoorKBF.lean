import Derived.Test.YtdojfommmpnbgaaGreatDoorKAS
import Derived.WalkSmall
import Derived.BigRegion
import Derived.RegionTactic
import Derived.Deep.QuietTactic
import Derived.BigQuiet
import Derived.Deep.RegionLaw
import Derived.Maps.Own
import Derived.Deep.CutRange
import Derived.Deep.Cut
set_option maxHeartbeats 8000000
set_option maxRecDepth 100000
namespace Go.Proofs.YtdojfommmpnbgaaGreatDoor
open Go.RowKit Go.Proofs.Tryz
namespace Q
abbrev bj:=List (List Int × List Int)
def bC(q:Bool)(X Y:List Int):List Int:=if q then Y else X
def cA(x s:ByteArray):Bool:=x.toList==s.toList
def bD(L:af)(X:List Int)(s:ByteArray):Int:=(X.find? fun p=>cA (aa L p) s).getD (-1)
def bX(L:af)(q:Bool)(E:bj)(s:ByteArray):Int:=E.foldl (fun m Z=>if 0≤bD L (bC q Z.1 Z.2) s then bD L (bC q Z.1 Z.2) s else m) (-1)
theorem CL(L:af)(q:Bool)(E:bj)(Z:List Int × List Int)(s:ByteArray):bX L q (E++[Z]) s=if 0≤bD L (bC q Z.1 Z.2) s then bD L (bC q Z.1 Z.2) s else bX L q E s:=by
 unfold bX;rw[List.foldl_append];rfl
structure Ot where
 us:List (Int × Int × Bool)
 bad:Bool
def Ot.none:Ot:=⟨[],false⟩
def Ot.add(a b:Ot):Ot:=⟨a.us++b.us,a.bad||b.bad⟩
theorem Ot.Pc(a:Ot):Ot.none.add a=a:=by cases a;simp[Ot.none,Ot.add]
theorem Ot.OT(a:Ot):a.add Ot.none=a:=by cases a;simp[Ot.none,Ot.add]
theorem Ot.add_assoc(a b c:Ot):(a.add b).add c=a.add (b.add c):=by simp[Ot.add,List.append_assoc,Bool.or_assoc]
structure Kn where
 E:bj
 lp:Bool
def aO(E:bj)(lp:Bool):Kn:=⟨E,lp⟩
def oK(K:Kn)(X Y:List Int):Kn:={ K with E:=K.E++[(X,Y)] }
def cz(K:Kn)(X:List Int):Kn:=oK K X []
def cj(K:Kn)(b:Bool):Kn:={ K with lp:=b }
def gE(L:af)(q:Bool)(E:bj)(i:Int):Ot:=⟨[(i,bX L q E (aa L i),q)],false⟩
def df(L:af)(K:Kn)(i:Int):Ot:=gE L false K.E i
def dw(L:af)(K:Kn)(i:Int):Ot:=gE L true K.E i
def cB(b:Bool):Ot:=⟨[],b⟩
theorem rZ(F:Ot)(a b:Bool):(F.add (cB a)).add (cB b)=F.add (cB (a||b)):=by simp[Ot.add,cB,Bool.or_assoc]
def gC(L:af)(X:List Int):Bool:=db (X.map (aa L))
theorem tP(L:af)(X:List Int)(n:Int):gC L (X++[n])=(gC L X||bc (X.map (aa L)) (aa L n)):=by
 unfold gC;rw[List.map_append,List.map_singleton,Nq]
def gO(L:af):Bool→List Int→Bool
 |_,[]=>false
 |v,p::ps=>(ae (aa L (p+1)) [118,97,114,115]&&!v)||gO L false ps
def aW(f:Int→Ot):List Int→Ot
 |[]=>Ot.none
 |p::ps=>(f p).add (aW f ps)
def be(L:af)(p:Int):Int:=if ae (aa L p) [40]then p+1 else p
def eE(L:af)(f:Int→Ot)(p:Int):Ot:=if ae (aa L p) [40]then f (p+2)else Ot.none
noncomputable def aN(L:af)(hid:Bool)(i:Int):List Int:=if cY L i=hid then dm L i else []
noncomputable def jQ(L:af)(r:Nat→Bool→Int→Kn→Ot)(v:Bool)(i:Int)(K:Kn):Ot :=
 (cB ((gC L ((aT L i).flatMap (aN L false))||gC L ((aT L i).flatMap (aN L true)))||gO L v (aT L i))).add (aW (fun p=>r 0 false p (oK K ((aT L i).flatMap (aN L false)) ((aT L i).flatMap (aN L true)))) (aT L i))
noncomputable def fD(L:af)(r:Nat→Bool→Int→Kn→Ot)(i:Int)(K:Kn):Ot :=
 (cB (gC L ((aT L (i+3)).map (be L)))).add
  ((aW (eE L fun p=>r 0 false p (cj (cz K ((aT L (i+3)).map (be L))) false)) (aT L (i+3))).add
   (r 1 (!(aT L (i+3)).any fun p=>ae (aa L p) [40]) (jR L i) (cj (cz K ((aT L (i+3)).map (be L))) false)))
noncomputable def cH(L:af)(r:Nat→Bool→Int→Kn→Ot)(i:Int)(K:Kn):Ot :=
 if ae (aa L i) [40]=false then(if aV (aa L i)then df L K i else Ot.none)
 else if ae (aa L (i+1)) [102,110]then fD L r i K
 else if ae (aa L (i+1)) [100,111]then r 1 false (i+2) K
 else if ae (aa L (i+1)) [108,101,116]then r 0 false (i+3) K
 else if ae (aa L (i+1)) [115,101,116]then(df L K (i+2)).add (r 0 false (i+3) K)
 else if ae (aa L (i+1)) [116,97,107,101]then r 0 false (ag L (i+2)) K
 else if ae (aa L (i+1)) [104,103,101,116]||ae (aa L (i+1)) [104,112,117,116]then(dw L K (i+2)).add (aW (fun p=>r 0 false p K) (aT L (i+3)))
 else if ae (aa L (i+1)) [104,105,100,100,101,110]||ae (aa L (i+1)) [118,97,114,115]then Ot.none
 else if ae (aa L (i+1)) [108,101,97,118,101]||ae (aa L (i+1)) [110,101,120,116]then cB (!K.lp)
 else if ae (aa L (i+1)) [119,104,105,108,101]then(r 0 false (i+2) K).add (r 0 false (ag L (i+2)) (cj K true))
 else if ae (aa L (i+1)) [102,111,114]then(r 0 false (i+3) K).add ((r 0 false (ag L (i+3)) K).add (r 0 false (ag L (ag L (i+3))) (cz (cj K true) [i+2])))
 else aW (fun p=>r 0 false p K) (aT L (i+2))
noncomputable def wk(L:af):Nat→Nat→Bool→Int→Kn→Ot
 |0,_,_,_,_=>Ot.none
 |n+1,m,v,i,K=>if m=0 then cH L (wk L n) i K else jQ L (wk L n) v i K
noncomputable def eO(L:af):Ot:=wk L (8*L.length+40) 1 true 0 ⟨[],false⟩
section
variable {L:af}
theorem qD{X:List Int}{s:ByteArray}(hX:∀p∈X,0≤p):(0≤bD L X s∧∃p,X.find? (fun p=>cA (aa L p) s)=some p∧bD L X s=p)∨(bD L X s=-1∧X.find? (fun p=>cA (aa L p) s)=none):=by
 unfold bD;cases h:X.find? fun p=>cA (aa L p) s with
 |none=>exact Or.inr ⟨rfl,rfl⟩
 |some p=>exact Or.inl ⟨hX p (List.mem_of_find?_eq_some h),p,rfl,rfl⟩
theorem vd{X:List Int}{s:ByteArray}{n:Int}(hX:∀p∈X,0≤p):bD L (X++[n]) s=if 0≤bD L X s then bD L X s else if cA (aa L n) s then n else -1:=by
 rcases qD (L:=L) (s:=s) hX with⟨h0,p,h1,h2⟩|⟨h0,h1⟩
 ·rw[if_pos h0,h2];unfold bD;rw[List.find?_append,h1];rfl
 ·rw[if_neg (by omega)];unfold bD;rw[List.find?_append,h1];cases h:cA (aa L n) s<;>simp[List.find?,h]
theorem FU(s:ByteArray):bD L [] s=-1:=rfl
theorem qx{x s:ByteArray}:cA x s=true↔x=s:=by
 unfold cA;constructor
 ·intro h;have h1:=eq_of_beq h;rw[ByteArray.toList_eq,ByteArray.toList_eq]at h1;exact jS h1
 ·rintro rfl;simp
theorem mD{X:List Int}(hX:∀p∈X,0≤p)(s:ByteArray):bc (X.map (aa L)) s=decide (0≤bD L X s):=by
 unfold bc;rw[List.any_map];rcases qD (L:=L) (s:=s) hX with⟨h0,p,h1,_⟩|⟨h0,h1⟩
 ·rw[decide_eq_true h0,List.any_eq_true];exact⟨p,List.mem_of_find?_eq_some h1,List.find?_some h1⟩
 ·rw[decide_eq_false (by omega),List.any_eq_false];exact fun p hp=>List.find?_eq_none.mp h1 p hp
def rO(L:af)(es:List MapEntry)(X Y:List Int):Prop:=(∀e∈es,∃s q,e.key=dG s q∧s.size≤maxLen∧e.val=.int .i64 (bD L (bC q X Y) s))∧(∀s q,(∃e∈es,e.key=dG s q)↔0≤bD L (bC q X Y) s)∧(∀p∈X,0≤p)∧∀p∈Y,0≤p
def ct(L:af)(w:World)(b:Nat)(X Y:List Int):Prop:=∃es clock,w.heap[b]?=some (.map es clock)∧rO L es.toList X Y
variable {w w':World} {b:Nat} {X Y:List Int}
theorem ct.R(h:ct L w b X Y)(hk:w'.heap[b]?=w.heap[b]?):ct L w' b X Y:=by
 obtain⟨es,clock,h1,h2⟩:=h;exact⟨es,clock,hk.trans h1,h2⟩
theorem ct.lt(h:ct L w b X Y):b<w.heap.size:=by
 obtain⟨es,clock,h1,_⟩:=h;exact(Array.getElem?_eq_some_iff.1 h1).1
theorem zK:rO L (#[]:Array MapEntry).toList [] []:=by
 refine⟨fun _ h=>by simp at h,fun s q=>?_,fun p h=>?_,fun p h=>?_⟩
 ·cases q<;>simp[bC,FU]
 ·cases h
 ·cases h
theorem ov(h:(∀p∈X,0≤p)∧∀p∈Y,0≤p)(q:Bool):∀p∈bC q X Y,0≤p:=by
 cases q
 ·exact h.1
 ·exact h.2
theorem ct.inb(h:ct L w b X Y)(s:ByteArray)(q:Bool):bc ((bC q X Y).map (aa L)) s=decide (0≤bD L (bC q X Y) s):=by
 obtain⟨_,_,_,h2⟩:=h;exact mD (ov h2.2.2 q) s
theorem ct.look(h:ct L w b X Y)(s:ByteArray)(q:Bool)(hs:s.size≤maxLen) :
  ∃n:Int,(0≤bD L (bC q X Y) s→n=bD L (bC q X Y) s)∧∀W:World,W.heap[b]?=w.heap[b]?→(Instr.lookup 178 (.map (some b)) (.agg #[.string s,.bool q]) true).run prog W=.ok (.tuple #[.int .i64 n,.bool (decide (0≤bD L (bC q X Y) s))]) W:=by
 obtain⟨es,clock,hb,hE,hm,hp⟩:=h;obtain⟨l,hl⟩:=pj s q hs;have hkeys:∀e∈es.toList,∃l,keyOf prog 181 e.key=some l:=fun e he=>by
  obtain⟨s',q',hk,hs',_⟩:=hE e he;rw[hk];exact pj s' q' hs'
 by_cases hin:0≤bD L (bC q X Y) s
 ·have hyes:=(hm s q).mpr hin;refine⟨bD L (bC q X Y) s,fun _=>rfl,fun W hW=>?_⟩;rw[decide_eq_true hin];rcases mO.find W hl es.toList hkeys with⟨_,hf⟩|⟨j2,e2,hf,hj2,hk2⟩
  ·obtain⟨e,he,hk⟩:=hyes;exact absurd hk (hf e he)
  ·have hck:=mO.check W es.isEmpty hl;obtain⟨s',q',hk',_,hv⟩:=hE e2 (List.mem_of_getElem? hj2);obtain⟨rfl,rfl⟩:=vX (hk2.symm.trans hk');unfold dG at hck hf;simp[Instr.lookup,run_underlying Tryz.underlying178,MapKept.run_getObj_map (hW.trans hb),hck,hf,hv,Result.andThen]
 ·refine⟨0,fun h=>absurd h hin,fun W hW=>?_⟩;rw[decide_eq_false hin];rcases mO.find W hl es.toList hkeys with⟨hf,_⟩|⟨j,e,_,hj,hk⟩
  ·have hck:=mO.check W es.isEmpty hl;unfold dG at hck hf;simp[Instr.lookup,run_underlying Tryz.underlying178,MapKept.run_getObj_map (hW.trans hb),hck,hf,Result.andThen]
  ·exact absurd ((hm s q).mp ⟨e,List.mem_of_getElem? hj,hk⟩) hin
def lA(q:Bool)(Z:List Int × List Int)(n:Int):List Int × List Int:=(if q then Z.1 else Z.1++[n],if q then Z.2++[n]else Z.2)
theorem xg(q q':Bool)(n:Int):bC q' (if q then X else X++[n]) (if q then Y++[n]else Y)=if q'=q then bC q' X Y++[n]else bC q' X Y:=by
 cases q<;>cases q'<;>rfl
theorem ct.again(h:ct L w b X Y)(n:Int)(q:Bool)(hn:0≤n)(hin:0≤bD L (bC q X Y) (aa L n)):ct L w b (if q then X else X++[n]) (if q then Y++[n]else Y):=by
 obtain⟨es,clock,hb,hE,hm,hp⟩:=h;have key:∀s q',bD L (bC q' (if q then X else X++[n]) (if q then Y++[n]else Y)) s=bD L (bC q' X Y) s:=fun s q'=>by
  rw[xg];split
  ·rename_i hq;subst hq;rw[vd (ov hp q')];split
   ·rfl
   ·rename_i h0;split
    ·rename_i h1;rw[qx]at h1;rw[h1]at hin;exact absurd hin h0
    ·rcases qD (L:=L) (s:=s) (ov hp q')with h2|h2
     ·exact absurd h2.1 h0
     ·exact h2.1.symm
  ·rfl
 refine⟨es,clock,hb,fun e he=>?_,fun s q'=>by rw[key];exact hm s q',?_,?_⟩
 ·obtain⟨s,q',h1,h2,h3⟩:=hE e he;exact⟨s,q',h1,h2,by rw[key];exact h3⟩
 ·intro p hpm;cases q
  ·rcases List.mem_append.mp hpm with hpm|hpm
   ·exact hp.1 p hpm
   ·rw[List.mem_singleton]at hpm;omega
  ·exact hp.1 p hpm
 ·intro p hpm;cases q
  ·exact hp.2 p hpm
  ·rcases List.mem_append.mp hpm with hpm|hpm
   ·exact hp.2 p hpm
   ·rw[List.mem_singleton]at hpm;omega
theorem ct.put(h:ct L w b X Y)(n:Int)(q:Bool)(hs:(aa L n).size≤maxLen)(hn:0≤n)(hno:¬0≤bD L (bC q X Y) (aa L n)) :
  ∃w',(Instr.mapUpdate 178 (.map (some b)) (.agg #[.string (aa L n),.bool q]) (.int .i64 n)).run prog w=.ok () w'∧ct L w' b (if q then X else X++[n]) (if q then Y++[n]else Y)∧w.grownBy w' (some b):=by
 obtain⟨es,clock,hb,hE,hm,hp⟩:=h;obtain⟨l,hl⟩:=pj (aa L n) q hs;have hkeys:∀e∈es.toList,∃l,keyOf prog 181 e.key=some l:=fun e he=>by
  obtain⟨s',q',hk,hs',_⟩:=hE e he;rw[hk];exact pj s' q' hs'
 have hnot:∀e∈es.toList,e.key≠dG (aa L n) q:=fun e he hk=>hno ((hm (aa L n) q).mp ⟨e,he,hk⟩)
 have hmine:bD L (bC q (if q then X else X++[n]) (if q then Y++[n]else Y)) (aa L n)=n:=by
  rw[xg,if_pos rfl,vd (ov hp q),if_neg hno,if_pos (qx.2 rfl)]
 have hother:∀s q',dG (aa L n) q≠dG s q'→bD L (bC q' (if q then X else X++[n]) (if q then Y++[n]else Y)) s=bD L (bC q' X Y) s:=fun s q' hne=>by
  rw[xg];split
  ·rename_i hq;subst hq;rw[vd (ov hp q')];split
   ·rfl
   ·rename_i h0;rw[if_neg (fun h1=>hne (by rw[qx.1 h1]))];rcases qD (L:=L) (s:=s) (ov hp q')with h2|h2
    ·exact absurd h2.1 h0
    ·exact h2.1.symm
  ·rfl
 rcases mO.find w hl es.toList hkeys with⟨hf,_⟩|⟨j,e,_,hj,hk⟩
 ·have hck:=mO.check w false hl;refine⟨{ w with heap:=w.heap.setIfInBounds b (.map (es.push { key:=dG (aa L n) q,val:=.int .i64 n,born:=clock }) (clock+1)) },?_,⟨es.push { key:=dG (aa L n) q,val:=.int .i64 n,born:=clock },clock+1,?_,?_,?_,?_,?_⟩,⟨rfl,rfl,rfl,by simp,fun k hk hkb=>?_⟩⟩
  ·unfold dG at hck hf;simp[Instr.mapUpdate,run_underlying Tryz.underlying178,MapKept.run_getObj_map hb,hck,hf,MapKept.run_setObj_map _ hb,Result.andThen,dG]
  ·have hlt:b<w.heap.size:=(Array.getElem?_eq_some_iff.1 hb).1;simp[hlt]
  ·intro e he;rw[Array.toList_push,List.mem_append,List.mem_singleton]at he;rcases he with he|rfl
   ·obtain⟨s,q',h1,h2,h3⟩:=hE e he;refine⟨s,q',h1,h2,?_⟩;rw[hother s q' (fun hh=>hnot e he (h1.trans hh.symm))];exact h3
   ·exact⟨aa L n,q,rfl,hs,by rw[hmine]⟩
  ·intro s q';rw[Array.toList_push];by_cases hk:dG (aa L n) q=dG s q'
   ·obtain⟨h1,h2⟩:=vX hk;subst h2;rw[←h1,hmine];exact⟨fun _=>hn,fun _=>⟨_,List.mem_append.mpr (Or.inr (List.mem_singleton.mpr rfl)),rfl⟩⟩
   ·rw[hother s q' hk,←hm s q'];constructor
    ·rintro⟨e,he,hke⟩;rcases List.mem_append.mp he with he|he
     ·exact⟨e,he,hke⟩
     ·rw[List.mem_singleton]at he;rw[he]at hke;exact absurd hke hk
    ·rintro⟨e,he,hke⟩;exact⟨e,List.mem_append.mpr (Or.inl he),hke⟩
  ·intro p hpm;cases q
   ·rcases List.mem_append.mp hpm with hpm|hpm
    ·exact hp.1 p hpm
    ·rw[List.mem_singleton]at hpm;omega
   ·exact hp.1 p hpm
  ·intro p hpm;cases q
   ·exact hp.2 p hpm
   ·rcases List.mem_append.mp hpm with hpm|hpm
    ·exact hp.2 p hpm
    ·rw[List.mem_singleton]at hpm;omega
  ·simp[Array.getElem?_setIfInBounds];intro hbk;exact absurd (by rw[hbk]) hkb
 ·exact absurd hk (hnot e (List.mem_of_getElem? hj))
end
end Q
namespace Q
structure bq (L:af) (S:Nat→Prop) (c:Nat) (va:Value) (x:fA) (E:bj) (w:World):Prop where
 lt:c<w.heap.size
 own:S c
 c0:w.cell? ⟨c,0,none⟩=some va
 c1:w.cell? ⟨c,1,none⟩=some x.vb
 c2:w.cell? ⟨c,2,none⟩=some (.int .i64 (E.length:Int))
 c3:w.cell? ⟨c,3,none⟩=some x.vu
 c4:w.cell? ⟨c,4,none⟩=some (.bool x.fu)
 c5:w.cell? ⟨c,5,none⟩=some (.bool x.ft)
 c6:w.cell? ⟨c,6,none⟩=some (.bool x.fo)
 c7:w.cell? ⟨c,7,none⟩=some (.bool x.fv)
 fz:∀o,w.frozen? ⟨c,o,none⟩=false
 rowB:w.ownsRow (c+1) 178 1 x.vb x.bs.length (x.bs.map fun b=>.map (some b))
 rowU:w.ownsRow (c+1) 142 3 x.vu x.us.length (gW x.us)
 inb:∀g,x.vb.ownBlock=some g→S g
 inu:∀g,x.vu.ownBlock=some g→S g
 apart:∀g,x.vb.ownBlock=some g→x.vu.ownBlock≠some g
 maps:∀j (h:j<x.bs.length),S x.bs[j]∧ct L w x.bs[j] (E.getD j ([],[])).1 (E.getD j ([],[])).2
 nodup:x.bs.Nodup
 enough:E.length≤x.bs.length
 low:∀k,S k→c≤k∧k<w.heap.size
 few:x.bs.length≤20000
structure la (L:af) (x:fA) (F:Ot) (U:Nat):Prop where
 us:x.us=F.us
 unk:x.fu=F.us.any fun u=>u.2.1 == -1
 bad:(x.ft||(x.fo||x.fv))=F.bad
 cnt:x.us.length≤U
 inL:∀u∈x.us,0≤u.1∧u.1<(L.length:Int)
def St(S:Nat→Prop)(c:Nat)(a:Option Addr)(cap:Nat)(L:af)(E:bj)(F:Ot)(U:Nat)(w:World):Prop:=(∃x,bq L S c (.slice a L.length cap) x E w∧la L x F U)∧j9 S w a L
section
variable {L:af} {S:Nat→Prop} {c:Nat} {va:Value} {x:fA} {E:bj} {w w':World}
theorem bq.R(h:bq L S c va x E w)(hk:∀k,S k→w'.heap[k]?=w.heap[k]?)(hz:w.heap.size≤w'.heap.size):bq L S c va x E w':=by
 have hc:=hk c h.own;have hcell:∀o,w'.cell? ⟨c,o,none⟩=w.cell? ⟨c,o,none⟩:=fun o=>World.cell?_of_block (w:=w) (a:=⟨c,o,none⟩) hc
 have hfz:∀o,w'.frozen? ⟨c,o,none⟩=w.frozen? ⟨c,o,none⟩:=fun o=>World.frozen?_of_block (w:=w) (a:=⟨c,o,none⟩) hc
 exact { lt:=Nat.lt_of_lt_of_le h.lt hz,own:=h.own,c0:=(hcell 0).trans h.c0,c1:=(hcell 1).trans h.c1,c2:=(hcell 2).trans h.c2,c3:=(hcell 3).trans h.c3,c4:=(hcell 4).trans h.c4,c5:=(hcell 5).trans h.c5,c6:=(hcell 6).trans h.c6,c7:=(hcell 7).trans h.c7,fz:=fun o=>(hfz o).trans (h.fz o),rowB:=cR h.rowB (fun g hg=>hk g (h.inb g hg)),rowU:=cR h.rowU (fun g hg=>hk g (h.inu g hg)),inb:=h.inb,inu:=h.inu,apart:=h.apart,maps:=fun j hj=>⟨(h.maps j hj).1,(h.maps j hj).2.R (hk _ (h.maps j hj).1)⟩,nodup:=h.nodup,enough:=h.enough,low:=fun k hs=>⟨(h.low k hs).1,Nat.lt_of_lt_of_le (h.low k hs).2 hz⟩,few:=h.few }
theorem bq.call(h:bq L S c va x E w)(hb:ai w w'):bq L S c va x E w':=h.R (fun k hs=>hb.block k (h.low k hs).2) hb.size
theorem St.call{a:Option Addr}{cap:Nat}{F:Ot}{U:Nat}(h:St S c a cap L E F U w)(hb:ai w w'):St S c a cap L E F U w':=by
 obtain⟨⟨x,hM,hS⟩,hA⟩:=h;exact⟨⟨x,hM.call hb,hS⟩,hA.OH (aE.j S hb)⟩
theorem cK{o o':Nat}(w:World)(c:Nat)(u:Value)(h:o≠o'):(w.setCell ⟨c,o,none⟩ u).cell? ⟨c,o',none⟩=w.cell? ⟨c,o',none⟩:=World.cell?_setCell_other w ⟨c,o,none⟩ ⟨c,o',none⟩ u (fun hh=>h (by injection hh))
theorem bq.OR{B:Nat}{e:TypeId}{sz n:Nat}{v:Value}{xs:List Value}(h:w.ownsRow B e sz v n xs)(hB:c<B)(o:Nat)(u:Value):(w.setCell ⟨c,o,none⟩ u).ownsRow B e sz v n xs :=
 cR h (fun g hg=>Below.heap_setCell w ⟨c,o,none⟩ u g (by have:=(World.ownsRow.lt h g hg).1;show g≠c;omega))
theorem ct.OS{b:Nat}{X Y:List Int}{v:Value}(h:ct L w b X Y)(hc:w.cell? ⟨c,0,none⟩=some v):b≠c:=by
 rintro rfl;obtain⟨es,clock,hb,_⟩:=h;simp[World.cell?,hb]at hc
theorem ct.set{b:Nat}{X Y:List Int}{v:Value}(h:ct L w b X Y)(hc:w.cell? ⟨c,0,none⟩=some v)(o:Nat)(u:Value):ct L (w.setCell ⟨c,o,none⟩ u) b X Y :=
 h.R (Below.heap_setCell w ⟨c,o,none⟩ u b (h.OS hc))
theorem tj{B:Nat}{e:TypeId}{sz n b g:Nat}{v:Value}{xs:List Value}{X Y:List Int}(h:w.ownsRow B e sz v n xs)(hm:ct L w b X Y)(hg:v.ownBlock=some g):b≠g:=by
 rintro rfl;obtain⟨es,clock,hb,_⟩:=hm;rcases h.2 with⟨rfl,_⟩|⟨g',cap,cur,rfl,_,hgg,_⟩
 ·simp[Value.ownBlock]at hg
 ·simp[Value.ownBlock]at hg;subst hg;rw[hb]at hgg;cases hgg
end
end Q
namespace Q
theorem Gn:(Tryz.prog.info? 178).map (fun i=>(i.zero,i.size,i.bytes))=some (some (.map none),1,8):=by kernel_rfl
theorem Gr:(Tryz.prog.info? 142).map (fun i=>(i.zero,i.size,i.bytes))=some (some (.agg #[.int .i64 0,.int .i64 0,.bool false]),3,24):=by kernel_rfl
section
variable {L:af} {S:Nat→Prop} {c:Nat} {va:Value} {x:fA} {E:bj} {w:World}
theorem iM{w:World}{B:Nat}{e:TypeId}{sz n:Nat}{v:Value}{xs:List Value}(h:w.ownsRow B e sz v n xs):∃av cv,v=.slice av n cv∧n≤cv∧cv≤maxLen∧(av=none→n=0)∧∀p,av=some p→∃g,p=⟨g,0,none⟩∧v.ownBlock=some g:=by
 rcases h.2 with⟨rfl,rfl⟩|⟨g,cap,cur,rfl,_,_,h1,h2,_⟩
 ·exact⟨none,0,rfl,Nat.le_refl _,Nat.zero_le _,fun _=>rfl,fun p hp=>by cases hp⟩
 ·exact⟨some ⟨g,0,none⟩,cap,rfl,h1,h2,(fun h=>by cases h),(fun p hp=>by cases hp;exact⟨g,rfl,rfl⟩)⟩
theorem Ae(E:bj)(j:Nat):(E++[([],[])]).getD j ([],[])=E.getD j ([],[]):=by
 simp only[List.getD];by_cases h:j<E.length
 ·rw[List.getElem?_append_left h]
 ·rw[List.getElem?_append_right (by omega)];by_cases h2:j=E.length
  ·subst h2;simp
  ·rw[List.getElem?_eq_none (by simp;omega),List.getElem?_eq_none (by omega)]
theorem JT(h:bq L S c va x E w)(hE:E.length=x.bs.length)(hf:x.bs.length<20000){T:TypeId}{w3:World}{v':Value}
  (hown:w3.ownsRow (c+1) 178 1 v' (x.bs.length+1) ((x.bs.map fun b=>Value.map (some b))++[.map (some w.heap.size)]))
  (hg:((w.alloc (.map #[] 0)).alloc (.cells #[.map (some w.heap.size)] T)).grownBy w3 x.vb.ownBlock) (hwh:∀g,v'.ownBlock=some g→x.vb.ownBlock=some g∨g=w.heap.size+2) :
  ∃S',bq L S' c va { x with vb:=v',bs:=x.bs++[w.heap.size] } (E++[([],[])]) ((w3.setCell ⟨c,1,none⟩ v').setCell ⟨c,2,none⟩ (.int .i64 ((E.length:Int)+1)))∧aE S S' w ((w3.setCell ⟨c,1,none⟩ v').setCell ⟨c,2,none⟩ (.int .i64 ((E.length:Int)+1))):=by
 have hlt:=h.lt;have hvb:∀g,x.vb.ownBlock=some g→c<g∧g<w.heap.size:=fun g hg=>by have:=World.ownsRow.lt h.rowB g hg;omega
 have hW:∀k,k<w.heap.size→((w.alloc (.map #[] 0)).alloc (.cells #[.map (some w.heap.size)] T)).heap[k]?=w.heap[k]?:=fun k hk=>by
  rw[Below.heap_alloc _ _ _ (by simp;omega),Below.heap_alloc _ _ _ hk]
 have hz3:w.heap.size+2≤w3.heap.size:=by have:=hg.size;simpa using this
 have hk3:∀k,k<w.heap.size→x.vb.ownBlock≠some k→w3.heap[k]?=w.heap[k]?:=fun k hk hn=>(hg.block k (by simp;omega) (fun e=>hn e.symm)).trans (hW k hk)
 have hc3:w3.heap[c]?=w.heap[c]?:=hk3 c hlt (fun e=>by have:=(hvb c e).1;omega);have hm3:w3.heap[w.heap.size]?=some (.map #[] 0):=by
  rw[hg.block _ (by simp;omega) (fun e=>by have:=(hvb _ e.symm).2;omega),Below.heap_alloc _ _ _ (by simp)];exact heap_alloc_new w _
 obtain⟨wf,hwf⟩:∃wf,wf=(w3.setCell ⟨c,1,none⟩ v').setCell ⟨c,2,none⟩ (.int .i64 ((E.length:Int)+1)):=⟨_,rfl⟩;have hkf:∀k,k≠c→wf.heap[k]?=w3.heap[k]?:=fun k hk=>by
  rw[hwf,Below.heap_setCell _ _ _ _ hk,Below.heap_setCell _ _ _ _ hk]
 have hzf:wf.heap.size=w3.heap.size:=by rw[hwf];simp[World.setCell]
 have hcell:∀o,o≠1→o≠2→wf.cell? ⟨c,o,none⟩=w.cell? ⟨c,o,none⟩:=fun o h1 h2=>by
  rw[hwf,cK _ _ _ (Ne.symm h2),cK _ _ _ (Ne.symm h1)];exact World.cell?_of_block (w:=w) (a:=⟨c,o,none⟩) hc3
 have hfz:∀o,wf.frozen? ⟨c,o,none⟩=false:=fun o=>by
  rw[hwf,World.frozen?_setCell,World.frozen?_setCell];exact(World.frozen?_of_block (w:=w) (a:=⟨c,o,none⟩) hc3).trans (h.fz o)
 have hc1:wf.cell? ⟨c,1,none⟩=some v':=by
  rw[hwf,cK _ _ _ (by decide)];exact World.cell?_setCell_same _ _ _ ((World.cell?_of_block (w:=w) (a:=⟨c,1,none⟩) hc3).trans h.c1)
 have hc2:wf.cell? ⟨c,2,none⟩=some (.int .i64 ((E.length:Int)+1)):=by
  rw[hwf];refine World.cell?_setCell_same _ _ _ (?_:_=some (.int .i64 (E.length:Int)));rw[cK _ _ _ (by decide)];exact(World.cell?_of_block (w:=w) (a:=⟨c,2,none⟩) hc3).trans h.c2
 rw[←hwf];refine⟨fun k=>S k∨k=w.heap.size∨v'.ownBlock=some k,?_,?_⟩
 ·refine { lt:=by omega,own:=Or.inl h.own,c0:=(hcell 0 (by decide) (by decide)).trans h.c0,c1:=hc1,c2:=by rw[hc2];simp,c3:=(hcell 3 (by decide) (by decide)).trans h.c3,c4:=(hcell 4 (by decide) (by decide)).trans h.c4,c5:=(hcell 5 (by decide) (by decide)).trans h.c5,c6:=(hcell 6 (by decide) (by decide)).trans h.c6,c7:=(hcell 7 (by decide) (by decide)).trans h.c7,fz:=hfz,rowB:=?_,rowU:=?_,inb:=fun g hg=>Or.inr (Or.inr hg),inu:=fun g hg=>Or.inl (h.inu g hg),apart:=?_,maps:=?_,nodup:=?_,enough:=by simp;omega,low:=?_,few:=by simp;omega }
  ·have:=cR hown (w':=wf) (fun g hg=>hkf g (by have:=World.ownsRow.lt hown g hg;omega));simpa using this
  ·exact cR h.rowU (fun g hg=>(hkf g (by have:=World.ownsRow.lt h.rowU g hg;omega)).trans (hk3 g (World.ownsRow.lt h.rowU g hg).2 (fun e=>h.apart g e hg)))
  ·intro g hg hu;rcases hwh g hg with e|e
   ·exact h.apart g e hu
   ·have:=(World.ownsRow.lt h.rowU g hu).2;omega
  ·intro j hj;rw[Ae];simp only[List.length_append,List.length_singleton]at hj;by_cases hjl:j<x.bs.length
   ·simp only[List.getElem_append_left hjl];obtain⟨m1,m2⟩:=h.maps j hjl;exact⟨Or.inl m1,m2.R ((hkf _ (m2.OS h.c0)).trans (hk3 _ m2.lt (fun e=>tj h.rowB m2 e rfl)))⟩
   ·obtain rfl:j=x.bs.length:=by omega
    simp only[List.getElem_append_right (Nat.le_refl _),Nat.sub_self,List.getElem_singleton];refine⟨by simp,?_⟩;have e:E.getD x.bs.length ([],[])=([],[]):=by simp[List.getD,hE]
    rw[e];exact⟨#[],0,(hkf _ (by omega)).trans hm3,zK⟩
  ·rw[List.nodup_append];refine⟨h.nodup,by simp,fun a ha b hb=>?_⟩;rw[List.mem_singleton]at hb;rw[hb];obtain⟨j,hj,rfl⟩:=List.getElem_of_mem ha;have:=(h.maps j hj).2.lt;omega
  ·rintro k (hs|rfl|hv)
   ·have:=h.low k hs;omega
   ·omega
   ·have:=World.ownsRow.lt hown k hv;omega
 ·refine⟨?_,?_,?_,by omega,fun k hk hn=>(hkf k (fun e=>hn (e▸h.own))).trans (hk3 k hk (fun e=>hn (h.inb k e))),?_⟩
  ·rw[hwf];exact hg.os
  ·rw[hwf];exact hg.tape
  ·rw[hwf];exact hg.output
  ·rintro k (hs|rfl|hv)
   ·exact Or.inl hs
   ·exact Or.inr (Nat.le_refl _)
   ·rcases hwh k hv with e|e
    ·exact Or.inl (h.inb k e)
    ·exact Or.inr (by omega)
theorem JU(h:bq L S c va x E w)(hE:E.length<x.bs.length):bq L S c va x (E++[([],[])]) (w.setCell ⟨c,2,none⟩ (.int .i64 ((E.length:Int)+1)))∧aE S S w (w.setCell ⟨c,2,none⟩ (.int .i64 ((E.length:Int)+1))):=by
 refine⟨?_,aE.set S w _ h.own⟩;have hz:(w.setCell ⟨c,2,none⟩ (.int .i64 ((E.length:Int)+1))).heap.size=w.heap.size:=by simp[World.setCell]
 exact { lt:=by rw[hz];exact h.lt,own:=h.own,c0:=(cK w c _ (by decide)).trans h.c0,c1:=(cK w c _ (by decide)).trans h.c1,c2:=by rw[World.cell?_setCell_same _ _ _ h.c2];simp,c3:=(cK w c _ (by decide)).trans h.c3,c4:=(cK w c _ (by decide)).trans h.c4,c5:=(cK w c _ (by decide)).trans h.c5,c6:=(cK w c _ (by decide)).trans h.c6,c7:=(cK w c _ (by decide)).trans h.c7,fz:=fun o=>by rw[World.frozen?_setCell];exact h.fz o,rowB:=bq.OR h.rowB (Nat.lt_succ_self c) 2 _,rowU:=bq.OR h.rowU (Nat.lt_succ_self c) 2 _,inb:=h.inb,inu:=h.inu,apart:=h.apart,maps:=fun j hj=>by rw[Ae];exact⟨(h.maps j hj).1,(h.maps j hj).2.set h.c0 2 _⟩,nodup:=h.nodup,enough:=by simp;omega,low:=fun k hs=>by rw[hz];exact h.low k hs,few:=h.few }
end
theorem aE.drewN(S:Nat→Prop)(w:World)(n:Nat):aE S S w (w.drewN n):=⟨rfl,rfl,rfl,Nat.le_refl _,fun _ _ _=>rfl,fun _ h=>Or.inl h⟩
theorem bq.drewN{L:af}{S:Nat→Prop}{c:Nat}{va:Value}{x:fA}{E:bj}{w:World}(h:bq L S c va x E w)(n:Nat):bq L S c va x E (w.drewN n):=h.R (fun _ _=>rfl) (Nat.le_refl _)
theorem wx(S:Nat→Prop)(c:Nat)(a:Option Addr)(cap:Nat)(L:af)(E:bj)(F:Ot)(U:Nat)(w:World)(h:St S c a cap L E F U w)(hE:E.length<20000) :
  ah 116 #[.pointer (some ⟨c,0,none⟩)] w fun e w'=>e=.returned (.tuple #[])∧∃S',St S' c a cap L (E++[([],[])]) F U w'∧aE S S' w w':=by
 obtain⟨⟨x,hM,hS⟩,hA⟩:=h;obtain⟨i0,hi,hz0,hz1,hz2⟩:=info_parts Gn;obtain⟨av,cv,hvb,hcv,hcm,hn0,hsh⟩:=iM hM.rowB;have hmm:=@run_makeMap prog;have hEf:=hM.few;by_cases hEq:E.length=x.bs.length
 ·have hq:(((E.length:Nat):Int)==(x.bs.length:Int))=true:=by simp[hEq]
  have HM:=aj hM;have HEq:=aj hEq;have HVB:=aj hvb;have hc1:w.cell? ⟨c,1,none⟩=some (.slice av x.bs.length cv):=hvb▸hM.c1;have hc2:=hM.c2;have hbl:x.bs.length<20000:=by omega
  have hbe:((E.length:Nat):Int)<20000:=by omega
  clear hM hEq hvb hn0 hsh hcv hcm hEf;go_enter func116,ntmps116;go_wp2_with fail;go_quiet (fail);have HM1:Hid (bq L S c (.slice a L.length cap) x E (w.drewN nq)):=HM.out.drewN nq;have HN1:Hid (aE S S w (w.drewN nq)):=aE.drewN S w nq;have hc1:(w.drewN nq).cell? ⟨c,1,none⟩=some (.slice av x.bs.length cv):=hc1;clear hc2;generalize w.drewN nq=W at *;have hf1:=HM1.out.fz 1;have hlt:=HM1.out.lt;have HO:Hid (W.ownsRow (c+1) 178 1 (.slice av x.bs.length cv) x.bs.length (x.bs.map fun b=>.map (some b))):=HVB.out▸HM1.out.rowB;have hcc1:∀j u,[Value.map (some W.heap.size)][j]?=some u→((W.alloc (.map #[] 0)).alloc (.cells #[.map (some W.heap.size)] 178)).cell? ((⟨W.heap.size+1,0,none⟩:Addr).add j)=some u:=fun j u hj=>by
   match j,hj with
   |0,hj =>
    simp at hj;subst hj;have e:(W.alloc (.map #[] 0)).heap.size=W.heap.size+1:=by simp
    rw[←e];simp[Addr.add]
  have hcc2:∀u∈[Value.map (some W.heap.size)],u.oneCell'=true:=fun u hu=>by simp at hu;subst hu;rfl
  have hcc3:x.bs.length+1≤maxLen:=by unfold maxLen;omega
  have hcc4:(x.bs.length+1)*8≤140737488355328:=by omega
  have hcc5:c+1≤((W.alloc (.map #[] 0)).alloc (.cells #[.map (some W.heap.size)] 178)).heap.size:=by simp;omega
  go_wp2_with (at_builtin;refine j7 _ rfl (.tmp 16) (.tmp 18) 53 rfl (c+1) 178 i0 (.map none) 1 8 Tryz.underlying53 hi hz0 hz1 hz2 rfl (by decide) _ _ _ rfl (World.ownsRow.alloc (World.ownsRow.alloc HO.out _) _) ⟨W.heap.size+1,0,none⟩ 1 1 [.map (some W.heap.size)] rfl rfl hcc1 hcc2 hcc3 hcc4 hcc5 ?_)
  intro v' w3 hown hgrow hwh;obtain⟨av',cv',rfl,_,_,_,_⟩:=iM hown;have hgk:∀o,w3.cell? ⟨c,o,none⟩=W.cell? ⟨c,o,none⟩∧w3.frozen? ⟨c,o,none⟩=W.frozen? ⟨c,o,none⟩:=fun o=>by
   have hb:w3.heap[c]?=W.heap[c]?:=by
    rw[hgrow.block c (by simp;omega) (fun e=>by have:=(World.ownsRow.lt HO.out c e.symm).1;omega),Below.heap_alloc _ _ _ (by simp;omega),Below.heap_alloc _ _ _ hlt]
   exact⟨World.cell?_of_block (w:=W) (a:=⟨c,o,none⟩) hb,World.frozen?_of_block (w:=W) (a:=⟨c,o,none⟩) hb⟩
  have k1:=(hgk 1).1.trans HM1.out.c1;have k2:=(hgk 2).1.trans HM1.out.c2;have z1:=(hgk 1).2.trans (HM1.out.fz 1);have z2:=(hgk 2).2.trans (HM1.out.fz 2);have HF:Hid (∃S',bq L S' c (.slice a L.length cap) { x with vb:=.slice av' (x.bs.length+1) cv',bs:=x.bs++[W.heap.size] } (E++[([],[])]) ((w3.setCell ⟨c,1,none⟩ (.slice av' (x.bs.length+1) cv')).setCell ⟨c,2,none⟩ (.int .i64 ((E.length:Int)+1)))∧aE S S' W ((w3.setCell ⟨c,1,none⟩ (.slice av' (x.bs.length+1) cv')).setCell ⟨c,2,none⟩ (.int .i64 ((E.length:Int)+1)))) :=
   JT HM1.out HEq.out hbl hown (HVB.out▸hgrow) (fun g hg=>by have:=hwh g hg;rw[HVB.out];simpa using this)
  clear hown hgrow hwh hgk hcc1 hcc2 hcc3 hcc4 hcc5 HO;go_wp2;go_end0;obtain⟨S',h1,h2⟩:=HF.out;exact⟨rfl,S',⟨⟨_,h1,⟨hS.us,hS.unk,hS.bad,hS.cnt,hS.inL⟩⟩,hA.OH (HN1.out.trans h2)⟩,HN1.out.trans h2⟩
 ·have hq:(((E.length:Nat):Int)==(x.bs.length:Int))=false:=by simp;omega
  have HM:=aj hM;have hlt:E.length<x.bs.length:=by have:=hM.enough;omega
  have hc1:w.cell? ⟨c,1,none⟩=some (.slice av x.bs.length cv):=hvb▸hM.c1;have hc2:=hM.c2;have hbe:((E.length:Nat):Int)<20000:=by omega
  clear hM hEq hvb hn0 hsh hcv hcm hEf;go_enter func116,ntmps116;go_wp2_with fail;go_quiet (fail);have HM1:Hid (bq L S c (.slice a L.length cap) x E (w.drewN nq)):=HM.out.drewN nq;have HN1:Hid (aE S S w (w.drewN nq)):=aE.drewN S w nq;clear hc2 hc1;generalize w.drewN nq=W at *;have hc2:=HM1.out.c2;have hf2:=HM1.out.fz 2;have HF:=JU HM1.out hlt;have HF':=aj HF;clear HF;go_wp2;go_end0;obtain⟨h1,h2⟩:=HF'.out;exact⟨rfl,S,⟨⟨_,h1,hS⟩,hA.OH (HN1.out.trans h2)⟩,HN1.out.trans h2⟩
end Q
namespace Q
theorem ct.Ph{L:af}{w:World}{b:Nat}{X Y:List Int}(h:ct L w b X Y):∃clock,(∀(W:World) (ty:TypeId),W.heap[b]?=w.heap[b]?→(Builtin.clear_ #[178] ty #[.map (some b)]).run prog W=.ok (.tuple #[]) (lh W b clock)∧ct L (lh W b clock) b [] []∧W.grownBy (lh W b clock) (some b)):=by
 obtain⟨es,clock,hb,_⟩:=h;refine⟨clock,fun W ty hW=>⟨?_,⟨#[],clock,?_,zK⟩,⟨rfl,rfl,rfl,by simp[lh],fun k hk hkb=>?_⟩⟩⟩
 ·simp[Builtin.clear_,run_underlying Tryz.underlying178,MapKept.run_getObj_map (hW.trans hb),MapKept.run_setObj_map _ (hW.trans hb),Result.andThen,lh]
 ·have hlt:b<W.heap.size:=(Array.getElem?_eq_some_iff.1 (hW.trans hb)).1;simp[lh,hlt]
 ·simp[lh,Array.getElem?_setIfInBounds];intro hbk;exact absurd (by rw[hbk]) hkb
section
variable {L:af} {S:Nat→Prop} {c:Nat} {va:Value} {x:fA} {E:bj} {w:World}
theorem BR{l:List Nat}(h:l.Nodup){i j:Nat}(hi:i<l.length)(hj:j<l.length)(e:l[i]=l[j]):i=j:=by
 have hp:=List.pairwise_iff_getElem.mp h;rcases Nat.lt_trichotomy i j with hl|hl|hl
 ·exact absurd e (hp i j hi hj hl)
 ·exact hl
 ·exact absurd e.symm (hp j i hj hi hl)
theorem ve(E:bj)(Z:List Int × List Int)(j:Nat)(h:j≠E.length):(E++[Z]).getD j ([],[])=E.getD j ([],[]):=by
 simp only[List.getD];by_cases h1:j<E.length
 ·rw[List.getElem?_append_left h1]
 ·rw[List.getElem?_eq_none (by simp;omega),List.getElem?_eq_none (by omega)]
theorem Ad(E:bj)(Z:List Int × List Int):(E++[Z]).getD E.length ([],[])=Z:=by simp[List.getD]
theorem Er{Z:List Int × List Int}(h:bq L S c va x (E++[Z]) w){b:Nat}(hj:E.length<x.bs.length)(hb:x.bs[E.length]=b){wf:World}(hg:(w.setCell ⟨c,2,none⟩ (.int .i64 (E.length:Int))).grownBy wf (some b))(hm:ct L wf b [] []):bq L S c va x E wf∧aE S S w wf:=by
 obtain⟨W,hW⟩:∃W,W=w.setCell ⟨c,2,none⟩ (.int .i64 (E.length:Int)):=⟨_,rfl⟩;have hbm:=(h.maps E.length hj).2;have hbs:=(h.maps E.length hj).1;rw[hb]at hbm hbs;have hbc:b≠c:=hbm.OS h.c0;have hz:W.heap.size=w.heap.size:=by rw[hW];simp[World.setCell]
 rw[←hW]at hg;have hNW:aE S S w W:=by rw[hW];exact aE.set S w _ h.own
 have hlt:=h.lt;have hkc:wf.heap[c]?=W.heap[c]?:=hg.block c (by omega) (fun e=>hbc (by injection e with e;exact e.symm));have hcell:∀o,wf.cell? ⟨c,o,none⟩=W.cell? ⟨c,o,none⟩:=fun o=>World.cell?_of_block (w:=W) (a:=⟨c,o,none⟩) hkc
 have hfz:∀o,wf.frozen? ⟨c,o,none⟩=W.frozen? ⟨c,o,none⟩:=fun o=>World.frozen?_of_block (w:=W) (a:=⟨c,o,none⟩) hkc
 have hco:∀o,o≠2→wf.cell? ⟨c,o,none⟩=w.cell? ⟨c,o,none⟩:=fun o ho=>by rw[hcell,hW,cK _ _ _ (Ne.symm ho)]
 have hk:∀k,k<w.heap.size→k≠c→k≠b→wf.heap[k]?=w.heap[k]?:=fun k h1 h2 h3=>by
  rw[hg.block k (by omega) (fun e=>h3 (by injection e)),hW,Below.heap_setCell _ _ _ _ h2]
 have hrow:∀{B:Nat} {e:TypeId} {sz n:Nat} {v:Value} {xs:List Value},w.ownsRow B e sz v n xs→c<B→wf.ownsRow B e sz v n xs:=fun hr hB =>
  cR hr (fun g hg'=>hk g (World.ownsRow.lt hr g hg').2 (by have:=(World.ownsRow.lt hr g hg').1;omega) (fun e=>tj hr hbm hg' e.symm))
 refine⟨?_,hNW.trans (aE.grown S hg (fun k e=>by injection e with e;rw[←e];exact hbs))⟩;refine { lt:=by have:=hg.size;omega,own:=h.own,c0:=(hco 0 (by decide)).trans h.c0,c1:=(hco 1 (by decide)).trans h.c1,c2:=?_,c3:=(hco 3 (by decide)).trans h.c3,c4:=(hco 4 (by decide)).trans h.c4,c5:=(hco 5 (by decide)).trans h.c5,c6:=(hco 6 (by decide)).trans h.c6,c7:=(hco 7 (by decide)).trans h.c7,fz:=fun o=>by rw[hfz,hW,World.frozen?_setCell];exact h.fz o,rowB:=hrow h.rowB (Nat.lt_succ_self c),rowU:=hrow h.rowU (Nat.lt_succ_self c),inb:=h.inb,inu:=h.inu,apart:=h.apart,maps:=?_,nodup:=h.nodup,enough:=by omega,low:=fun k hs=>by have:=h.low k hs;have:=hg.size;omega,few:=h.few }
 ·rw[hcell,hW];exact World.cell?_setCell_same _ _ _ h.c2
 ·intro j hj2;obtain⟨m1,m2⟩:=h.maps j hj2;refine⟨m1,?_⟩;by_cases e:j=E.length
  ·subst e;rw[show E.getD E.length ([],[])=([],[]) by simp[List.getD],hb];exact hm
  ·rw[ve E Z j e]at m2;refine m2.R (hk _ m2.lt (m2.OS h.c0) (fun e2=>e ?_));rw[←hb]at e2;exact BR h.nodup hj2 hj e2
theorem wC{w:World}{B:Nat}{e:TypeId}{n g cv:Nat}{bs:List Nat}(h:w.ownsRow B e 1 (.slice (some ⟨g,0,none⟩) n cv) n (bs.map fun b=>.map (some b)))(j:Nat)(hj:j<bs.length):w.cell? ⟨g,j,none⟩=some (.map (some bs[j])):=by
 have hc:=World.ownsRow.cells h (g:=g) rfl j (.map (some bs[j])) (by simp[hj]);have hadd:(⟨g,0,none⟩:Addr).add j=⟨g,j,none⟩:=by unfold Addr.add;split<;>simp_all
 rwa [hadd]at hc
end
theorem sd(S:Nat→Prop)(c:Nat)(a:Option Addr)(cap:Nat)(L:af)(E:bj)(Z:List Int × List Int)(F:Ot)(U:Nat)(w:World)(h:St S c a cap L (E++[Z]) F U w) :
  ah 120 #[.pointer (some ⟨c,0,none⟩)] w fun e w'=>e=.returned (.tuple #[])∧St S c a cap L E F U w'∧aE S S w w':=by
 obtain⟨⟨x,hM,hS⟩,hA⟩:=h;obtain⟨av,cv,hvb,hcv,hcm,hn0,hsh⟩:=iM hM.rowB;have hen:=hM.enough;have hfew:=hM.few;simp only[List.length_append,List.length_singleton]at hen;have hj:E.length<x.bs.length:=by omega
 obtain⟨g,rfl⟩:∃g,av=some ⟨g,0,none⟩:=by
  cases av with
  |none=>exact absurd (hn0 rfl) (by omega)
  |some p=>obtain⟨g,rfl,_⟩:=hsh p rfl;exact⟨g,rfl⟩
 have hcg:c<g∧g<w.heap.size:=by have:=World.ownsRow.lt hM.rowB g (by rw[hvb];rfl);omega
 have hbm:=(hM.maps E.length hj).2;obtain⟨b,hb⟩:∃b,b=x.bs[E.length]:=⟨_,rfl⟩;rw[←hb]at hbm;have hbc:b≠c:=hbm.OS hM.c0;obtain⟨clock,hcl⟩:=hbm.Ph;have hc1:w.cell? ⟨c,1,none⟩=some (.slice (some ⟨g,0,none⟩) x.bs.length cv):=hvb▸hM.c1;have hc2:w.cell? ⟨c,2,none⟩=some (.int .i64 ((E.length:Int)+1)):=by have:=hM.c2;simpa using this
 have hf2:=hM.fz 2;have hgj:w.cell? ⟨g,E.length,none⟩=some (.map (some b)):=by rw[hb];exact wC (hvb▸hM.rowB) E.length hj
 obtain⟨W,hW⟩:∃W,W=w.setCell ⟨c,2,none⟩ (.int .i64 (E.length:Int)):=⟨_,rfl⟩;have k1:W.cell? ⟨c,1,none⟩=some (.slice (some ⟨g,0,none⟩) x.bs.length cv):=by rw[hW,cK _ _ _ (by decide)];exact hc1
 have k2:W.cell? ⟨c,2,none⟩=some (.int .i64 (E.length:Int)):=by rw[hW];exact World.cell?_setCell_same _ _ _ hc2
 have kg:W.cell? ⟨g,E.length,none⟩=some (.map (some b)):=by
  rw[hW];exact(World.cell?_of_block (w:=w) (a:=⟨g,E.length,none⟩) (Below.heap_setCell w ⟨c,2,none⟩ _ g (by show g≠c;omega))).trans hgj
 have kb:W.heap[b]?=w.heap[b]?:=by rw[hW];exact Below.heap_setCell w ⟨c,2,none⟩ _ b hbc
 have HFIN:Hid (∀wf,W.grownBy wf (some b)→ct L wf b [] []→bq L S c (.slice a L.length cap) x E wf∧aE S S w wf):=fun wf hg hm=>Er hM hj hb.symm (hW▸hg) hm
 have hrun:∀ty,(Builtin.clear_ #[178] ty #[.map (some b)]).run prog W.drew=.ok (.tuple #[]) (lh W.drew b clock):=fun ty=>(hcl W.drew ty kb).1
 have HG:Hid (W.grownBy (lh W.drew b clock) (some b)∧ct L (lh W.drew b clock) b [] []):=by
  obtain⟨_,h2,h3⟩:=hcl W.drew 0 kb;exact⟨⟨h3.os,h3.tape,h3.output,h3.size,h3.block⟩,h2⟩
 have hEl:(E.length:Int)<(x.bs.length:Int):=by omega
 have hE0:(0:Int)≤(E.length:Int):=by omega
 have hE2:((E.length:Int)+1)-1=(E.length:Int):=by omega
 have hE3:(E.length:Int)<20000:=by omega
 clear hcl kb hgj hM hvb hbm hb hcm hn0 hsh hen hfew hj;go_enter func120,ntmps120;go_wp2;rw[←hW];clear hW hc1 hc2 hf2;go_region
 all_goals
  obtain⟨h1,h2⟩:=HG.out
  obtain⟨h3,h4⟩:=HFIN.out _ h1 h2
  go_end0
  exact⟨rfl,⟨⟨_,h3,hS⟩,hA.OH h4⟩,h4⟩
end Q
namespace Q
section
variable {L:af} {S:Nat→Prop} {c:Nat} {va:Value} {x:fA} {E:bj} {w:World}
theorem bq.O7(h:bq L S c va x E w)(v:Bool):bq L S c va { x with fu:=v } E (w.setCell ⟨c,4,none⟩ (.bool v)) :=
 have hz:(w.setCell ⟨c,4,none⟩ (.bool v)).heap.size=w.heap.size:=by simp[World.setCell]
 { lt:=by rw[hz];exact h.lt,own:=h.own,c0:=(cK w c _ (by decide)).trans h.c0,c1:=(cK w c _ (by decide)).trans h.c1,c2:=(cK w c _ (by decide)).trans h.c2,c3:=(cK w c _ (by decide)).trans h.c3,c4:=World.cell?_setCell_same _ _ _ h.c4,c5:=(cK w c _ (by decide)).trans h.c5,c6:=(cK w c _ (by decide)).trans h.c6,c7:=(cK w c _ (by decide)).trans h.c7,fz:=fun o=>by rw[World.frozen?_setCell];exact h.fz o,rowB:=bq.OR h.rowB (Nat.lt_succ_self c) 4 _,rowU:=bq.OR h.rowU (Nat.lt_succ_self c) 4 _,inb:=h.inb,inu:=h.inu,apart:=h.apart,maps:=fun j hj=>⟨(h.maps j hj).1,(h.maps j hj).2.set h.c0 4 _⟩,nodup:=h.nodup,enough:=h.enough,low:=fun k hs=>by rw[hz];exact h.low k hs,few:=h.few }
theorem bq.Pj(h:bq L S c va x E w)(v:Bool):bq L S c va { x with ft:=v } E (w.setCell ⟨c,5,none⟩ (.bool v)) :=
 have hz:(w.setCell ⟨c,5,none⟩ (.bool v)).heap.size=w.heap.size:=by simp[World.setCell]
 { lt:=by rw[hz];exact h.lt,own:=h.own,c0:=(cK w c _ (by decide)).trans h.c0,c1:=(cK w c _ (by decide)).trans h.c1,c2:=(cK w c _ (by decide)).trans h.c2,c3:=(cK w c _ (by decide)).trans h.c3,c4:=(cK w c _ (by decide)).trans h.c4,c5:=World.cell?_setCell_same _ _ _ h.c5,c6:=(cK w c _ (by decide)).trans h.c6,c7:=(cK w c _ (by decide)).trans h.c7,fz:=fun o=>by rw[World.frozen?_setCell];exact h.fz o,rowB:=bq.OR h.rowB (Nat.lt_succ_self c) 5 _,rowU:=bq.OR h.rowU (Nat.lt_succ_self c) 5 _,inb:=h.inb,inu:=h.inu,apart:=h.apart,maps:=fun j hj=>⟨(h.maps j hj).1,(h.maps j hj).2.set h.c0 5 _⟩,nodup:=h.nodup,enough:=h.enough,low:=fun k hs=>by rw[hz];exact h.low k hs,few:=h.few }
theorem bq.O8(h:bq L S c va x E w)(v:Bool):bq L S c va { x with fo:=v } E (w.setCell ⟨c,6,none⟩ (.bool v)) :=
 have hz:(w.setCell ⟨c,6,none⟩ (.bool v)).heap.size=w.heap.size:=by simp[World.setCell]
 { lt:=by rw[hz];exact h.lt,own:=h.own,c0:=(cK w c _ (by decide)).trans h.c0,c1:=(cK w c _ (by decide)).trans h.c1,c2:=(cK w c _ (by decide)).trans h.c2,c3:=(cK w c _ (by decide)).trans h.c3,c4:=(cK w c _ (by decide)).trans h.c4,c5:=(cK w c _ (by decide)).trans h.c5,c6:=World.cell?_setCell_same _ _ _ h.c6,c7:=(cK w c _ (by decide)).trans h.c7,fz:=fun o=>by rw[World.frozen?_setCell];exact h.fz o,rowB:=bq.OR h.rowB (Nat.lt_succ_self c) 6 _,rowU:=bq.OR h.rowU (Nat.lt_succ_self c) 6 _,inb:=h.inb,inu:=h.inu,apart:=h.apart,maps:=fun j hj=>⟨(h.maps j hj).1,(h.maps j hj).2.set h.c0 6 _⟩,nodup:=h.nodup,enough:=h.enough,low:=fun k hs=>by rw[hz];exact h.low k hs,few:=h.few }
theorem bq.Pk(h:bq L S c va x E w)(v:Bool):bq L S c va { x with fv:=v } E (w.setCell ⟨c,7,none⟩ (.bool v)) :=
 have hz:(w.setCell ⟨c,7,none⟩ (.bool v)).heap.size=w.heap.size:=by simp[World.setCell]
 { lt:=by rw[hz];exact h.lt,own:=h.own,c0:=(cK w c _ (by decide)).trans h.c0,c1:=(cK w c _ (by decide)).trans h.c1,c2:=(cK w c _ (by decide)).trans h.c2,c3:=(cK w c _ (by decide)).trans h.c3,c4:=(cK w c _ (by decide)).trans h.c4,c5:=(cK w c _ (by decide)).trans h.c5,c6:=(cK w c _ (by decide)).trans h.c6,c7:=World.cell?_setCell_same _ _ _ h.c7,fz:=fun o=>by rw[World.frozen?_setCell];exact h.fz o,rowB:=bq.OR h.rowB (Nat.lt_succ_self c) 7 _,rowU:=bq.OR h.rowU (Nat.lt_succ_self c) 7 _,inb:=h.inb,inu:=h.inu,apart:=h.apart,maps:=fun j hj=>⟨(h.maps j hj).1,(h.maps j hj).2.set h.c0 7 _⟩,nodup:=h.nodup,enough:=h.enough,low:=fun k hs=>by rw[hz];exact h.low k hs,few:=h.few }
theorem Bs{Z Z':List Int × List Int}(h:bq L S c va x (E++[Z]) w){b:Nat}(hj:E.length<x.bs.length)(hb:x.bs[E.length]=b){wf:World}(hg:w.grownBy wf (some b))(hm:ct L wf b Z'.1 Z'.2):bq L S c va x (E++[Z']) wf∧aE S S w wf:=by
 have hbm:=(h.maps E.length hj).2;have hbs:=(h.maps E.length hj).1;rw[hb]at hbm hbs;have hbc:b≠c:=hbm.OS h.c0;have hlt:=h.lt;have hkc:wf.heap[c]?=w.heap[c]?:=hg.block c hlt (fun e=>hbc (by injection e with e;exact e.symm));have hcell:∀o,wf.cell? ⟨c,o,none⟩=w.cell? ⟨c,o,none⟩:=fun o=>World.cell?_of_block (w:=w) (a:=⟨c,o,none⟩) hkc
 have hfz:∀o,wf.frozen? ⟨c,o,none⟩=w.frozen? ⟨c,o,none⟩:=fun o=>World.frozen?_of_block (w:=w) (a:=⟨c,o,none⟩) hkc
 have hk:∀k,k<w.heap.size→k≠b→wf.heap[k]?=w.heap[k]?:=fun k h1 h3=>hg.block k h1 (fun e=>h3 (by injection e))
 have hrow:∀{B:Nat} {e:TypeId} {sz n:Nat} {v:Value} {xs:List Value},w.ownsRow B e sz v n xs→wf.ownsRow B e sz v n xs:=fun hr =>
  cR hr (fun g hg'=>hk g (World.ownsRow.lt hr g hg').2 (fun e=>tj hr hbm hg' e.symm))
 have h2:=h.c2;have hen:=h.enough;simp only[List.length_append,List.length_singleton]at h2 hen;refine⟨?_,aE.grown S hg (fun k e=>by injection e with e;rw[←e];exact hbs)⟩;refine { lt:=by have:=hg.size;omega,own:=h.own,c0:=(hcell 0).trans h.c0,c1:=(hcell 1).trans h.c1,c2:=by rw[hcell,h2];simp,c3:=(hcell 3).trans h.c3,c4:=(hcell 4).trans h.c4,c5:=(hcell 5).trans h.c5,c6:=(hcell 6).trans h.c6,c7:=(hcell 7).trans h.c7,fz:=fun o=>by rw[hfz];exact h.fz o,rowB:=hrow h.rowB,rowU:=hrow h.rowU,inb:=h.inb,inu:=h.inu,apart:=h.apart,maps:=?_,nodup:=h.nodup,enough:=by simp;omega,low:=fun k hs=>by have:=h.low k hs;have:=hg.size;omega,few:=h.few };intro j hj2;obtain⟨m1,m2⟩:=h.maps j hj2;refine⟨m1,?_⟩;by_cases e:j=E.length
 ·subst e;rw[Ad,hb];exact hm
 ·rw[ve E Z j e]at m2;rw[ve E Z' j e];refine m2.R (hk _ m2.lt (fun e2=>e ?_));rw[←hb]at e2;exact BR h.nodup hj2 hj e2
theorem IV{Z Z':List Int × List Int}(h:bq L S c va x (E++[Z]) w)(hj:E.length<x.bs.length)(hm:ct L w x.bs[E.length] Z'.1 Z'.2):bq L S c va x (E++[Z']) w :=
 (Bs (Z':=Z') h hj rfl ⟨rfl,rfl,rfl,Nat.le_refl _,fun _ _ _=>rfl⟩ hm).1
end
theorem rB{L:af}{x:fA}{F:Ot}{U:Nat}(h:la L x F U)(b:Bool)(y:fA)(h1:y.us=x.us)(h2:y.fu=x.fu)(h3:(y.ft||(y.fo||y.fv))=((x.ft||(x.fo||x.fv))||b)):la L y (F.add (cB b)) U :=
 ⟨by rw[h1,h.us];exact(List.append_nil _).symm,by rw[h2,h.unk];simp[Ot.add,cB],by rw[h3,h.bad];rfl,by rw[h1];exact h.cnt,by rw[h1];exact h.inL⟩
theorem si(S:Nat→Prop)(c:Nat)(a:Option Addr)(cap:Nat)(L:af)(E:bj)(X Y:List Int)(F:Ot)(U:Nat)(i:Int)(q:Bool)(w:World)(h:St S c a cap L (E++[(X,Y)]) F U w)(hi0:0≤i)(hi1:i<(L.length:Int)) :
  ah 118 #[.pointer (some ⟨c,0,none⟩),.int .i64 i,.bool q] w fun e w'=>e=.returned (.tuple #[])∧St S c a cap L (E++[lA q (X,Y) i]) (F.add (cB (bc ((bC q X Y).map (aa L)) (aa L i)))) U w'∧aE S S w w':=by
 obtain⟨⟨x,hM,hS⟩,hA⟩:=h;obtain⟨sb,off,rfl,hsc,hsm,hsz,hsn⟩:=hA.at hi0 hi1;obtain⟨av,cv,hvb,hcv,hcm,hn0,hsh⟩:=iM hM.rowB;have hen:=hM.enough;have hfew:=hM.few;simp only[List.length_append,List.length_singleton]at hen;have hj:E.length<x.bs.length:=by omega
 obtain⟨g,rfl⟩:∃g,av=some ⟨g,0,none⟩:=by
  cases av with
  |none=>exact absurd (hn0 rfl) (by omega)
  |some p=>obtain⟨g,rfl,_⟩:=hsh p rfl;exact⟨g,rfl⟩
 obtain⟨b,hb⟩:∃b,b=x.bs[E.length]:=⟨_,rfl⟩;have hc0:=hM.c0;have hc1:w.cell? ⟨c,1,none⟩=some (.slice (some ⟨g,0,none⟩) x.bs.length cv):=hvb▸hM.c1;have hc2:w.cell? ⟨c,2,none⟩=some (.int .i64 ((E.length:Int)+1)):=by have:=hM.c2;simpa using this
 have hgj:w.cell? ⟨g,E.length,none⟩=some (.map (some b)):=by rw[hb];exact wC (hvb▸hM.rowB) E.length hj
 have hEl:(E.length:Int)<(x.bs.length:Int):=by omega
 have hE0:(0:Int)≤(E.length:Int):=by omega
 have hE2:((E.length:Int)+1)-1=(E.length:Int):=by omega
 have hE3:(E.length:Int)<20000:=by omega
 obtain⟨ii,hii⟩:∃ii:Nat,i=(ii:Int):=⟨i.toNat,by omega⟩;subst hii;have hsc':w.cell? ⟨sb,off+ii,none⟩=some (.string (aa L ii)):=hsc;generalize hsg:aa L (ii:Int)=s at *;have HM:=aj hM;have HJ:=aj hj;have HB:Hid (b=x.bs[E.length]):=hb;clear hM hvb hcm hn0 hsh hen hfew hj hsc hb;have hlt:=HM.out.lt;have hwr:IntKind.i64.wrap (E.length:Int)=(E.length:Int):=IntWalk.i64_in _ (by omega);have hgz:=World.block_lt_of_cell? w _ hgj;have kk:∀(p:Addr) (v:Value),w.cell? p=some v→(w.alloc (.cells #[.string ⟨#[]⟩,.bool false] 181)).cell? p=some v:=fun p v hp=>by
  rw[←hp];exact World.cell?_of_block (w:=w) (a:=p) (Below.heap_alloc w _ _ (World.block_lt_of_cell? w p hp))
 have k0:=kk _ _ hc0;have k1:=kk _ _ hc1;have k2:=kk _ _ hc2;have k3:=kk _ _ hgj;have k4:=kk _ _ hsc';clear kk;go_enter func118,ntmps118;go_upto_region 0 with fail;go_cut [6,7]from 10 to 43 (fun v6 v7 wc=>v6=.map (some b)∧v7=.pointer (some ⟨w.heap.size,0,none⟩)∧ai w wc∧wc.cell? ⟨w.heap.size,0,none⟩=some (.string s)∧wc.cell? ⟨w.heap.size,1,none⟩=some (.bool q))
 case first =>
  go_region;all_goals go_wp2_with fail
  all_goals go_meet
  all_goals exact⟨rfl,rfl,((Below.refl _ _).alloc (Nat.le_refl _) _).drew,by simp[go_sem],by simp[go_sem]⟩
 case rest =>
  obtain⟨rfl,rfl,hB,m0,m1⟩:=hcut;clear k0 k1 k2 k3 k4 hc0 hc1 hc2 hgj hsc';have HN:Hid (aE S S w wc):=aE.j S hB;have HM2:Hid (bq L S c (.slice (some ⟨sb,off,none⟩) L.length cap) x (E++[(X,Y)]) wc):=HM.out.call hB;have hbm:ct L wc b X Y:=by
   have h:=(HM2.out.maps E.length HJ.out).2;rw[Ad]at h;rw[show b=x.bs[E.length]'HJ.out from HB.out];exact h
  obtain⟨n,hn,hlk⟩:=hbm.look s q hsm;have hlook:=hlk wc rfl;clear hlk hB;have hib:=hbm.inb s q;by_cases hin:0≤bD L (bC q X Y) s;rotate_left
  ·obtain⟨w4,hrun,hm4,hg4⟩:=hbm.put (ii:Int) q (by rw[hsg];exact hsm) hi0 (by rw[hsg];exact hin);rw[hsg]at hrun;have HF:Hid (bq L S c (.slice (some ⟨sb,off,none⟩) L.length cap) x (E++[lA q (X,Y) (ii:Int)]) w4∧aE S S wc w4):=Bs HM2.out HJ.out HB.out.symm hg4 hm4;have HIB:Hid (bc ((bC q X Y).map (aa L)) s=false):=hib.trans (decide_eq_false hin);rw[decide_eq_false hin]at hlook;clear hib hbm hm4 hg4 hn;go_wp2;go_end0;obtain⟨h1,h2⟩:=HF.out;exact⟨rfl,⟨⟨_,h1,by rw[HIB.out];exact rB hS _ _ rfl rfl (by simp)⟩,hA.OH (HN.out.trans h2)⟩,HN.out.trans h2⟩
  ·have hm4:=hbm.again (ii:Int) q hi0 (by rw[hsg];exact hin);have HF:Hid (bq L S c (.slice (some ⟨sb,off,none⟩) L.length cap) x (E++[lA q (X,Y) (ii:Int)]) wc):=IV HM2.out HJ.out (by rw[show x.bs[E.length]'HJ.out=b from HB.out.symm];exact hm4);have k5:=HF.out.c5;have f5:=HF.out.fz 5;have HF2:Hid (bq L S c (.slice (some ⟨sb,off,none⟩) L.length cap) { x with ft:=true } (E++[lA q (X,Y) (ii:Int)]) (wc.setCell ⟨c,5,none⟩ (.bool true))∧aE S S wc (wc.setCell ⟨c,5,none⟩ (.bool true))):=⟨HF.out.Pj true,aE.set S wc _ HF.out.own⟩;have HIB:Hid (bc ((bC q X Y).map (aa L)) s=true):=hib.trans (decide_eq_true hin);rw[decide_eq_true hin]at hlook;clear hib hbm hm4 hn HF;go_wp2;refine bodyPost_ret (results_none rfl _ _ _) rfl ?_;obtain⟨h1,h2⟩:=HF2.out;exact⟨rfl,⟨⟨_,h1,by rw[HIB.out];exact rB hS _ _ rfl rfl (by simp)⟩,hA.OH (HN.out.trans h2)⟩,HN.out.trans h2⟩
end Q
namespace Q
theorem EH(L:af)(S:Nat→Prop)(c:Nat)(va:Value)(x:fA)(E:bj)(s:ByteArray)(q:Bool)(w:World)(hM:bq L S c va x E w)(hs:s.size≤maxLen) :
  ah 203 #[.pointer (some ⟨c,0,none⟩),.agg #[.string s,.bool q]] w (aA (.int .i64 (bX L q E s)) w):=by
 obtain⟨av,cv,hvb,hcv,hcm,hn0,hsh⟩:=iM hM.rowB;have hen:=hM.enough;have hfew:=hM.few;have hlt:=hM.lt;obtain⟨w1,hw1⟩:∃w1,w1=w.alloc (.cells #[.string s,.bool q] 181):=⟨_,rfl⟩;have hb1:ai w w1:=by rw[hw1];exact ay (Below.refl _ _) _
 have hz1:w1.heap.size=w.heap.size+1:=by rw[hw1];simp
 have hM1:=hM.call hb1;have b0:w1.cell? ⟨w.heap.size,0,none⟩=some (.string s):=by rw[hw1];simp[go_sem]
 have b1:w1.cell? ⟨w.heap.size,1,none⟩=some (.bool q):=by rw[hw1];simp[go_sem]
 have c2:=hM1.c2;have HB1:=aj hb1;have hE3:(E.length:Int)≤20000:=by omega
 go_enter func203,ntmps203;clear hb1 hM;subst hw1;go_wp2;go_loopw [5] (fun v5 wr=>∃k:Nat,v5=.int .i64 ((k:Int)-1)∧k≤E.length∧Below (w.alloc (.cells #[.string s,.bool q] 181)).heap.size (w.alloc (.cells #[.string s,.bool q] 181)) wr∧Hid (bX L q (E.take k) s=bX L q E s)) (fun v5 _=>(intOf v5+1).toNat)
 case atStart=>exact⟨E.length,rfl,Nat.le_refl _,Below.refl _ _,by rw[List.take_length];rfl⟩
 case round =>
  obtain⟨k,rfl,hk,hB,HA⟩:=hrel;have HBw:Hid (ai w wr):=HB1.out.trans (hB.mono (by omega));cases k with
  |zero =>
   have HE:Hid (bX L q E s=-1):=HA.out.symm;have h0:((0:Nat):Int)-1=-1:=rfl;rw[h0];go_wp2;go_ret;exact⟨by rw[HE.out];rfl,HBw.out⟩
  |succ k =>
   have hMr:=hM1.call hB;have hj:k<x.bs.length:=by omega
   obtain⟨g,rfl⟩:∃g,av=some ⟨g,0,none⟩:=by
    cases av with
    |none=>exact absurd (hn0 rfl) (by omega)
    |some p=>obtain⟨g,rfl,_⟩:=hsh p rfl;exact⟨g,rfl⟩
   have hmap:=(hMr.maps k hj).2;have hc1:wr.cell? ⟨c,1,none⟩=some (.slice (some ⟨g,0,none⟩) x.bs.length cv):=hvb▸hMr.c1;have hgj:wr.cell? ⟨g,k,none⟩=some (.map (some x.bs[k])):=wC (hvb▸hMr.rowB) k hj;have m0:=(hB.cell (p:=⟨w.heap.size,0,none⟩) (by show w.heap.size<_;omega)).trans b0;have m1:=(hB.cell (p:=⟨w.heap.size,1,none⟩) (by show w.heap.size<_;omega)).trans b1;generalize x.bs[k]=b at hmap hgj;obtain⟨n,hn,hlk⟩:=hmap.look s q hs;have hlook:=hlk wr rfl;have hlookd:∀m,_:=fun m=>hlk (wr.drewN m) rfl
   have e1:(((k+1:Nat):Int)-1)=(k:Int):=by omega
   rw[e1];have hk0:(0:Int)≤(k:Int):=by omega
   have hk1:(k:Int)<(x.bs.length:Int):=by omega
   clear hmap hlk hMr e1;have HT:Hid (bX L q E s=if 0≤bD L (bC q (E.getD k ([],[])).1 (E.getD k ([],[])).2) s then bD L (bC q (E.getD k ([],[])).1 (E.getD k ([],[])).2) s else bX L q (E.take k) s):=by
    show _=_;rw[←HA.out,List.take_succ_eq_append_getElem (by omega:k<E.length),CL,show E.getD k ([],[])=E[k] by simp[List.getD,(by omega:k<E.length)]]
   by_cases hin:0≤bD L (bC q (E.getD k ([],[])).1 (E.getD k ([],[])).2) s;rotate_left
   ·rw[decide_eq_false hin]at hlook;simp only[decide_eq_false hin]at hlookd;have HA2:=aj (by rw[HT.out,if_neg hin]:bX L q (E.take k) s=bX L q E s);clear hin hn HA HT;go_wp2_with fail;go_quiet (fail);go_wp2;go_roundw
    case rel=>exact⟨k,by go_num,by omega,⟨hB.os,hB.tape,hB.output,hB.size,hB.block⟩,HA2.out⟩
    case measure=>simp[intOf]
   ·have HE:=aj (by rw[HT.out,if_pos hin];exact hn hin:n=bX L q E s);rw[decide_eq_true hin]at hlook;simp only[decide_eq_true hin]at hlookd;clear hin hn HA HT;go_wp2_with fail;go_quiet (fail);go_wp2;go_ret;have hBx:=HBw.out;exact⟨by rw[←HE.out];rfl,⟨hBx.os,hBx.tape,hBx.output,hBx.size,hBx.block⟩⟩
section
variable {L:af} {S:Nat→Prop} {c:Nat} {va:Value} {x:fA} {E:bj} {w:World}
theorem NI(h:bq L S c va x E w){u:Int × Int × Bool}{T:TypeId}{w3:World}{v':Value}
  (hown:w3.ownsRow (c+1) 142 3 v' (x.us.length+1) (gW x.us++[.int .i64 u.1,.int .i64 u.2.1,.bool u.2.2]))
  (hg:(w.alloc (.cells #[.int .i64 u.1,.int .i64 u.2.1,.bool u.2.2] T)).grownBy w3 x.vu.ownBlock) (hwh:∀g,v'.ownBlock=some g→x.vu.ownBlock=some g∨g=w.heap.size+1) :
  ∃S',bq L S' c va { x with vu:=v',us:=x.us++[u] } E (w3.setCell ⟨c,3,none⟩ v')∧aE S S' w (w3.setCell ⟨c,3,none⟩ v'):=by
 have hlt:=h.lt;have hvu:∀g,x.vu.ownBlock=some g→c<g∧g<w.heap.size:=fun g hg=>by have:=World.ownsRow.lt h.rowU g hg;omega
 have hz3:w.heap.size+1≤w3.heap.size:=by have:=hg.size;simpa using this
 have hk3:∀k,k<w.heap.size→x.vu.ownBlock≠some k→w3.heap[k]?=w.heap[k]?:=fun k hk hn=>(hg.block k (by simp;omega) (fun e=>hn e.symm)).trans (Below.heap_alloc _ _ _ hk)
 have hc3:w3.heap[c]?=w.heap[c]?:=hk3 c hlt (fun e=>by have:=(hvu c e).1;omega);obtain⟨wf,hwf⟩:∃wf,wf=w3.setCell ⟨c,3,none⟩ v':=⟨_,rfl⟩;have hkf:∀k,k≠c→wf.heap[k]?=w3.heap[k]?:=fun k hk=>by rw[hwf,Below.heap_setCell _ _ _ _ hk]
 have hzf:wf.heap.size=w3.heap.size:=by rw[hwf];simp[World.setCell]
 have hcell:∀o,o≠3→wf.cell? ⟨c,o,none⟩=w.cell? ⟨c,o,none⟩:=fun o h1=>by
  rw[hwf,cK _ _ _ (Ne.symm h1)];exact World.cell?_of_block (w:=w) (a:=⟨c,o,none⟩) hc3
 have hfz:∀o,wf.frozen? ⟨c,o,none⟩=false:=fun o=>by
  rw[hwf,World.frozen?_setCell];exact(World.frozen?_of_block (w:=w) (a:=⟨c,o,none⟩) hc3).trans (h.fz o)
 have hc1:wf.cell? ⟨c,3,none⟩=some v':=by
  rw[hwf];exact World.cell?_setCell_same _ _ _ ((World.cell?_of_block (w:=w) (a:=⟨c,3,none⟩) hc3).trans h.c3)
 rw[←hwf];refine⟨fun k=>S k∨v'.ownBlock=some k,?_,?_⟩
 ·refine { lt:=by omega,own:=Or.inl h.own,c0:=(hcell 0 (by decide)).trans h.c0,c1:=(hcell 1 (by decide)).trans h.c1,c2:=(hcell 2 (by decide)).trans h.c2,c3:=hc1,c4:=(hcell 4 (by decide)).trans h.c4,c5:=(hcell 5 (by decide)).trans h.c5,c6:=(hcell 6 (by decide)).trans h.c6,c7:=(hcell 7 (by decide)).trans h.c7,fz:=hfz,rowB:=?_,rowU:=?_,inb:=fun g hg=>Or.inl (h.inb g hg),inu:=fun g hg=>Or.inr hg,apart:=?_,maps:=?_,nodup:=h.nodup,enough:=h.enough,low:=?_,few:=h.few }
  ·exact cR h.rowB (fun g hg=>(hkf g (by have:=World.ownsRow.lt h.rowB g hg;omega)).trans (hk3 g (World.ownsRow.lt h.rowB g hg).2 (fun e=>h.apart g hg e)))
  ·have:=cR hown (w':=wf) (fun g hg=>hkf g (by have:=World.ownsRow.lt hown g hg;omega));rw[Fp];simpa using this
  ·intro g hg hu;rcases hwh g hu with e|e
   ·exact h.apart g hg e
   ·have:=(World.ownsRow.lt h.rowB g hg).2;omega
  ·intro j hj;obtain⟨m1,m2⟩:=h.maps j hj;exact⟨Or.inl m1,m2.R ((hkf _ (m2.OS h.c0)).trans (hk3 _ m2.lt (fun e=>tj h.rowU m2 e rfl)))⟩
  ·rintro k (hs|hv)
   ·have:=h.low k hs;omega
   ·have:=World.ownsRow.lt hown k hv;omega
 ·refine⟨?_,?_,?_,by omega,fun k hk hn=>(hkf k (fun e=>hn (e▸h.own))).trans (hk3 k hk (fun e=>hn (h.inu k e))),?_⟩
  ·rw[hwf];exact hg.os
  ·rw[hwf];exact hg.tape
  ·rw[hwf];exact hg.output
  ·rintro k (hs|hv)
   ·exact Or.inl hs
   ·rcases hwh k hv with e|e
    ·exact Or.inl (h.inu k e)
    ·exact Or.inr (by omega)
theorem LO{F:Ot}{U:Nat}{i n:Int}{q:Bool}(h:la L x F U)(h0:0≤i)(h1:i<(L.length:Int))(hn:n=bX L q E (aa L i))(y:fA)(hu:y.us=x.us++[(i,n,q)])(hf:y.fu=(x.fu||n == -1))(hb:(y.ft||(y.fo||y.fv))=(x.ft||(x.fo||x.fv))):la L y (F.add (gE L q E i)) (U+1):=by
 have hc:=h.cnt;refine⟨?_,?_,?_,by rw[hu];simp;omega,fun u hm=>?_⟩
 ·rw[hu,h.us,hn];rfl
 ·rw[hf,h.unk,hn];simp[Ot.add,gE]
 ·rw[hb,h.bad];simp[Ot.add,gE]
 ·rw[hu]at hm;rcases List.mem_append.mp hm with hm|hm
  ·exact h.inL u hm
  ·rw[List.mem_singleton]at hm;subst hm;exact⟨h0,h1⟩
end
theorem tS(S:Nat→Prop)(c:Nat)(a:Option Addr)(cap:Nat)(L:af)(E:bj)(F:Ot)(U:Nat)(i:Int)(q:Bool)(w:World)(h:St S c a cap L E F U w)(hi0:0≤i)(hi1:i<(L.length:Int))(hU:U≤2000) :
  ah 187 #[.pointer (some ⟨c,0,none⟩),.int .i64 i,.bool q] w fun e w'=>e=.returned (.tuple #[])∧∃S',St S' c a cap L E (F.add (gE L q E i)) (U+1) w'∧aE S S' w w':=by
 obtain⟨⟨x,hM,hS⟩,hA⟩:=h;obtain⟨sb,off,rfl,hsc,hsm,hsz,hsn⟩:=hA.at hi0 hi1;obtain⟨i0,hi,hz0,hz1,hz2⟩:=info_parts Gr;obtain⟨ii,hii⟩:∃ii:Nat,i=(ii:Int):=⟨i.toNat,by omega⟩;subst hii;have hsc':w.cell? ⟨sb,off+ii,none⟩=some (.string (aa L ii)):=hsc;have hc0:=hM.c0;clear hsc;obtain⟨s,hs⟩:∃s,s=aa L (ii:Int):=⟨_,rfl⟩;rw[←hs]at hsc' hsm;have HS:=aj hs;have hcnt:=hS.cnt;clear hs;go_enter func187,ntmps187;go_wp2_with fail;refine(EH L S c _ x E s q _ hM hsm).mono ?_;rintro e w1 ⟨rfl,hb1⟩;obtain⟨n,hnr⟩:∃n,n=bX L q E s:=⟨_,rfl⟩;rw[←hnr];have HM1:Hid (bq L S c (.slice (some ⟨sb,off,none⟩) L.length cap) x E w1):=hM.call hb1;have HN1:Hid (aE S S w w1):=aE.j S hb1;rw[HS.out]at hnr;have HNR:=aj hnr;clear hnr hM hc0 hsc' hb1;obtain⟨av,cv,hvu,hcv,hcm,hn0,hsh⟩:=iM HM1.out.rowU;have HVU:=aj hvu;clear hvu hcv hcm hn0 hsh
 have hrest:∀(y:fA) (W:World),y.us=x.us→y.vu=x.vu→(y.ft||(y.fo||y.fv))=(x.ft||(x.fo||x.fv))→y.fu=(x.fu||n == -1)→bq L S c (.slice (some ⟨sb,off,none⟩) L.length cap) y E W→aE S S w W→Hid (∀w3 v',w3.ownsRow (c+1) 142 3 v' (x.us.length+1) (gW x.us++[.int .i64 ii,.int .i64 n,.bool q])→(W.alloc (.cells #[.int .i64 ii,.int .i64 n,.bool q] 142)).grownBy w3 (Value.slice av x.us.length cv).ownBlock→(∀g,v'.ownBlock=some g→(Value.slice av x.us.length cv).ownBlock=some g∨g=W.heap.size+1) →
   ∃S',St S' c (some ⟨sb,off,none⟩) cap L E (F.add (gE L q E (ii:Int))) (U+1) (w3.setCell ⟨c,3,none⟩ v')∧aE S S' w (w3.setCell ⟨c,3,none⟩ v')):=fun y W e1 e2 e3 e4 hMy hNy w3 v' h1 h2 h3=>by
  obtain⟨S',k1,k2⟩:=NI (u:=((ii:Int),n,q)) hMy (by rw[e1];exact h1) (by rw[e2,HVU.out];exact h2) (by rw[e2,HVU.out];exact h3);exact⟨S',⟨⟨_,k1,LO hS hi0 hi1 HNR.out _ (by rw[e1]) e4 e3⟩,hA.OH (hNy.trans k2)⟩,hNy.trans k2⟩
 have hcc:∀(W:World) (v0 v1 v2:Value),∀j u,[v0,v1,v2][j]?=some u→(W.alloc (.cells #[v0,v1,v2] 142)).cell? ((⟨W.heap.size,0,none⟩:Addr).add j)=some u:=fun W v0 v1 v2 j u hj=>by
  obtain⟨t0,t1,t2,_⟩:=kF W v0 v1 v2 142;have hadd:∀j,(⟨W.heap.size,0,none⟩:Addr).add j=⟨W.heap.size,j,none⟩:=fun j=>by unfold Addr.add;split<;>simp_all
  rw[hadd];match j,hj with
  |0,hj=>simp at hj;subst hj;exact t0
  |1,hj=>simp at hj;subst hj;exact t1
  |2,hj=>simp at hj;subst hj;exact t2
 have hgk:∀(W w3:World) (v0 v1 v2:Value),c<W.heap.size→(∀g,(Value.slice av x.us.length cv).ownBlock=some g→c+1≤g)→(W.alloc (.cells #[v0,v1,v2] 142)).grownBy w3 (Value.slice av x.us.length cv).ownBlock→w3.cell? ⟨c,3,none⟩=W.cell? ⟨c,3,none⟩∧w3.frozen? ⟨c,3,none⟩=W.frozen? ⟨c,3,none⟩:=fun W w3 v0 v1 v2 hlt hlo hg=>by
  have hb:w3.heap[c]?=W.heap[c]?:=by
   rw[hg.block c (by simp;omega) (fun e=>by have:=hlo c e.symm;omega),Below.heap_alloc _ _ _ hlt]
  exact⟨World.cell?_of_block (w:=W) (a:=⟨c,3,none⟩) hb,World.frozen?_of_block (w:=W) (a:=⟨c,3,none⟩) hb⟩
 have HCC:Hid (∀(W:World) (v0 v1 v2:Value),∀j u,[v0,v1,v2][j]?=some u→(W.alloc (.cells #[v0,v1,v2] 142)).cell? ((⟨W.heap.size,0,none⟩:Addr).add j)=some u):=hcc;have HGK:=aj hgk;have HLO:Hid (∀g,(Value.slice av x.us.length cv).ownBlock=some g→c+1≤g):=fun g hg=>(World.ownsRow.lt HM1.out.rowU g (by rw[HVU.out];exact hg)).1
 have hcc2:∀u∈[Value.int .i64 ii,.int .i64 n,.bool q],u.oneCell'=true:=fun u hu=>by simp at hu;rcases hu with rfl|rfl|rfl<;>rfl
 have hcc3:x.us.length+1≤maxLen:=by unfold maxLen;omega
 have hcc4:(x.us.length+1)*24≤140737488355328:=by omega
 clear hcc hgk;by_cases hn:n=-1
 ·subst hn;have k4:=HM1.out.c4;have f4:=HM1.out.fz 4;have HR:=hrest { x with fu:=true } (w1.setCell ⟨c,4,none⟩ (.bool true)) rfl rfl rfl (by simp) (HM1.out.O7 true) (HN1.out.trans (aE.set S w1 _ HM1.out.own));have HMW:Hid (bq L S c (.slice (some ⟨sb,off,none⟩) L.length cap) { x with fu:=true } E (w1.setCell ⟨c,4,none⟩ (.bool true))):=HM1.out.O7 true;go_upto_region 3 with fail;obtain⟨W,hW⟩:∃W,W=w1.setCell ⟨c,4,none⟩ (.bool true):=⟨_,rfl⟩;rw[←hW]at HR HMW ⊢;clear hW k4 f4;have k3:W.cell? ⟨c,3,none⟩=some (.slice av x.us.length cv):=HVU.out▸HMW.out.c3;have f3:=HMW.out.fz 3;have hlt:=HMW.out.lt;have HO:Hid (W.ownsRow (c+1) 142 3 (.slice av x.us.length cv) x.us.length (gW x.us)):=HVU.out▸HMW.out.rowU;have hcc1:=HCC.out W (.int .i64 ii) (.int .i64 (-1)) (.bool q);have hcc5:c+1≤(W.alloc (.cells #[.int .i64 ii,.int .i64 (-1),.bool q] 142)).heap.size:=by simp;omega
  clear hrest;go_wp2_with (at_builtin;refine j7 _ rfl (.tmp 28) (.tmp 33) 54 rfl (c+1) 142 i0 (.agg #[.int .i64 0,.int .i64 0,.bool false]) 3 24 Tryz.underlying54 hi hz0 hz1 hz2 rfl (by decide) _ _ _ rfl (World.ownsRow.alloc HO.out _) ⟨W.heap.size,0,none⟩ 1 1 [.int .i64 ii,.int .i64 (-1),.bool q] rfl rfl hcc1 hcc2 hcc3 hcc4 hcc5 ?_)
  intro v' w3 hown hgrow hwh;obtain⟨av',cv',rfl,_,_,_,_⟩:=iM hown;obtain⟨g1,g2⟩:=HGK.out W w3 _ _ _ hlt HLO.out hgrow;have p3:=g1.trans k3;have q3:=g2.trans f3;have HFIN:Hid (∃S',St S' c (some ⟨sb,off,none⟩) cap L E (F.add (gE L q E (ii:Int))) (U+1) (w3.setCell ⟨c,3,none⟩ (.slice av' (x.us.length+1) cv'))∧aE S S' w (w3.setCell ⟨c,3,none⟩ (.slice av' (x.us.length+1) cv'))):=HR.out w3 _ hown hgrow (fun g hg=>by have:=hwh g hg;simpa using this);clear HR hown hgrow hwh g1 g2 hcc1 hcc2 hcc3 hcc4 hcc5 HO HMW k3 f3;go_wp2;go_end0;exact⟨rfl,HFIN.out⟩
 ·have hne:(n == -1)=false:=by simp[hn]
  have HR:=hrest x w1 rfl rfl rfl (by simp[hn]) HM1.out HN1.out;have HMW:Hid (bq L S c (.slice (some ⟨sb,off,none⟩) L.length cap) x E w1):=HM1.out;have k3:w1.cell? ⟨c,3,none⟩=some (.slice av x.us.length cv):=HVU.out▸HMW.out.c3;have f3:=HMW.out.fz 3;have hlt:=HMW.out.lt;have HO:Hid (w1.ownsRow (c+1) 142 3 (.slice av x.us.length cv) x.us.length (gW x.us)):=HVU.out▸HMW.out.rowU;have hcc1:=HCC.out w1 (.int .i64 ii) (.int .i64 n) (.bool q);have hcc5:c+1≤(w1.alloc (.cells #[.int .i64 ii,.int .i64 n,.bool q] 142)).heap.size:=by simp;omega
  clear hrest;go_wp2_with (at_builtin;refine j7 _ rfl (.tmp 28) (.tmp 33) 54 rfl (c+1) 142 i0 (.agg #[.int .i64 0,.int .i64 0,.bool false]) 3 24 Tryz.underlying54 hi hz0 hz1 hz2 rfl (by decide) _ _ _ rfl (World.ownsRow.alloc HO.out _) ⟨w1.heap.size,0,none⟩ 1 1 [.int .i64 ii,.int .i64 n,.bool q] rfl rfl hcc1 hcc2 hcc3 hcc4 hcc5 ?_)
  intro v' w3 hown hgrow hwh;obtain⟨av',cv',rfl,_,_,_,_⟩:=iM hown;obtain⟨g1,g2⟩:=HGK.out w1 w3 _ _ _ hlt HLO.out hgrow;have p3:=g1.trans k3;have q3:=g2.trans f3;have HFIN:Hid (∃S',St S' c (some ⟨sb,off,none⟩) cap L E (F.add (gE L q E (ii:Int))) (U+1) (w3.setCell ⟨c,3,none⟩ (.slice av' (x.us.length+1) cv'))∧aE S S' w (w3.setCell ⟨c,3,none⟩ (.slice av' (x.us.length+1) cv'))):=HR.out w3 _ hown hgrow (fun g hg=>by have:=hwh g hg;simpa using this);clear HR hown hgrow hwh g1 g2 hcc1 hcc2 hcc3 hcc4 hcc5 HO HMW k3 f3;go_wp2;go_end0;exact⟨rfl,HFIN.out⟩
end Q
end Go.Proofs.YtdojfommmpnbgaaGreatDoor
