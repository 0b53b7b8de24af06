import Derived.Test.YtdojfommmpnbgaaGreatDoorKAK
import Derived.Maps.Keyed
import Derived.DeepKeys4
import Derived.MapKept
import Derived.Laws.AppendOwn
import Derived.OwnWalk
set_option maxHeartbeats 4000000
namespace Go.Proofs.YtdojfommmpnbgaaGreatDoor
open Go.RowKit Go.Proofs.Tryz
def dG(s:ByteArray)(q:Bool):Value:=.agg #[.string s,.bool q]
theorem mO:WideMaps.KeyLaw prog 181:=deep_law (m:=3) (by omega) (by kernel_rfl) (by kernel_rfl) (by kernel_rfl)
theorem BB:Tryz.prog.cellsOf 181=2:=by kernel_rfl
theorem I3:Tryz.prog.keyType 181=true:=by kernel_rfl
theorem I2:∃n,Tryz.prog.types.size+1=n+1+1:=by
 have h:1≤Tryz.prog.types.size:=of_decide_eq_true (by kernel_rfl);generalize Tryz.prog.types.size=m at h;exact⟨m-1,by omega⟩
theorem En:Tryz.prog.cellsOf 9=1:=by kernel_rfl
theorem Em:Tryz.prog.cellsOf 4=1:=by kernel_rfl
theorem Iq(n:Nat)(s:ByteArray)(q:Bool)(hs:s.size≤maxLen):Tryz.prog.keyLits (n+1+1) 181 [.string s,.bool q]=some [.string s.data.toList,.bool q]:=by
 unfold Program.keyLits;rw[Tryz.underlying181];simp[Program.keyLits,BB,En,Em,Tryz.underlying9,Tryz.underlying4,hs]
theorem pj(s:ByteArray)(q:Bool)(hs:s.size≤maxLen):∃l,keyOf prog 181 (dG s q)=some l:=by
 have hf:(dG s q).formed prog 181=true:=by
  unfold dG Value.formed;rw[Tryz.underlying181];simp[BB]
 refine⟨.string (keyBytes [.string s.data.toList,.bool q]),?_⟩;obtain⟨n,hn⟩:=I2;have hc:(dG s q).cells.toList=[.string s,.bool q]:=rfl;unfold keyOf;rw[Tryz.underlying181];dsimp only;rw[I3,hf,hc,hn,Iq n s q hs];rfl
def bC(q:Bool)(X Y:af):af:=if q then Y else X
def rO(es:List MapEntry)(X Y:af):Prop:=(∀e∈es,∃s q n,e.key=dG s q∧s.size≤maxLen∧e.val=.int .i64 n∧0≤n)∧(∀e∈es,∀e'∈es,e.key=e'.key→e.val=e'.val)∧∀s q,(∃e∈es,e.key=dG s q)↔s∈bC q X Y
def ct(w:World)(b:Nat)(X Y:af):Prop:=∃es clock,w.heap[b]?=some (.map es clock)∧rO es.toList X Y
theorem ct.R{w w':World}{b:Nat}{X Y:af}(h:ct w b X Y)(hk:w'.heap[b]?=w.heap[b]?):ct w' b X Y:=by
 obtain⟨es,clock,h1,h2⟩:=h;exact⟨es,clock,hk.trans h1,h2⟩
theorem ct.lt{w:World}{b:Nat}{X Y:af}(h:ct w b X Y):b<w.heap.size:=by
 obtain⟨es,clock,h1,_⟩:=h;exact(Array.getElem?_eq_some_iff.1 h1).1
theorem vX{s s':ByteArray}{q q':Bool}(h:dG s q=dG s' q'):s=s'∧q=q':=by
 unfold dG at h;injection h with h;simp at h;exact h
theorem ct.put{w:World}{b:Nat}{X Y:af}(h:ct w b X Y)(s:ByteArray)(q:Bool)(n:Int)(hs:s.size≤maxLen)(hn:0≤n)(hno:bc (bC q X Y) s=false) :
  ∃w',(Instr.mapUpdate 178 (.map (some b)) (.agg #[.string s,.bool q]) (.int .i64 n)).run prog w=.ok () w'∧ct w' b (if q then X else X++[s]) (if q then Y++[s]else Y)∧w.grownBy w' (some b):=by
 obtain⟨es,clock,hb,hE,hU,hm⟩:=h;obtain⟨l,hl⟩:=pj s q hs;have hkeys:∀e∈es.toList,∃l,keyOf prog 181 e.key=some l:=fun e he=>by
  obtain⟨s',q',n,hk,hs',_⟩:=hE e he;rw[hk];exact pj s' q' hs'
 have hnot:∀e∈es.toList,e.key≠dG s q:=fun e he hk=>by
  have:=(pd _ _).mpr ((hm s q).mp ⟨e,he,hk⟩);rw[hno]at this;cases this
 rcases mO.find w hl es.toList hkeys with⟨hf,_⟩|⟨j,e,_,hj,hk⟩
 ·have hck:=mO.check w false hl;refine⟨{ w with heap:=w.heap.setIfInBounds b (.map (es.push { key:=dG s q,val:=.int .i64 n,born:=clock }) (clock+1)) },?_,⟨es.push { key:=dG s q,val:=.int .i64 n,born:=clock },clock+1,?_,?_,?_,?_⟩,⟨rfl,rfl,rfl,by simp,fun k hk hkb=>?_⟩⟩
  ·unfold dG at hck hf;simp[Instr.mapUpdate,run_underlying Tryz.underlying178,MapKept.run_getObj_map hb,hck,hf,MapKept.run_setObj_map _ hb,Result.andThen,dG]
  ·have hlt:b<w.heap.size:=(Array.getElem?_eq_some_iff.1 hb).1;simp[hlt]
  ·intro e he;rw[Array.toList_push,List.mem_append,List.mem_singleton]at he;rcases he with he|rfl
   ·exact hE e he
   ·exact⟨s,q,n,rfl,hs,rfl,hn⟩
  ·intro e he e' he' hee;rw[Array.toList_push,List.mem_append,List.mem_singleton]at he he';rcases he with he|rfl
   ·rcases he' with he'|rfl
    ·exact hU e he e' he' hee
    ·exact absurd hee (hnot e he)
   ·rcases he' with he'|rfl
    ·exact absurd hee.symm (hnot e' he')
    ·rfl
  ·intro s' q';rw[Array.toList_push];have h1:(∃e∈es.toList++[({ key:=dG s q,val:=.int .i64 n,born:=clock }:MapEntry)],e.key=dG s' q')↔(∃e∈es.toList,e.key=dG s' q')∨dG s q=dG s' q':=by
    constructor
    ·rintro⟨e,he,hk⟩;rcases List.mem_append.mp he with he|he
     ·exact Or.inl ⟨e,he,hk⟩
     ·rw[List.mem_singleton]at he;rw[he]at hk;exact Or.inr hk
    ·rintro(⟨e,he,hk⟩|hk)
     ·exact⟨e,List.mem_append.mpr (Or.inl he),hk⟩
     ·exact⟨_,List.mem_append.mpr (Or.inr (List.mem_singleton.mpr rfl)),hk⟩
   rw[h1,hm s' q'];constructor
   ·rintro(hx|hx)
    ·cases q<;>cases q'<;>simp[bC]at hx ⊢<;>first|exact hx|exact Or.inl hx
    ·obtain⟨rfl,rfl⟩:=vX hx;cases q<;>simp[bC]
   ·intro hx;cases q<;>cases q'<;>simp[bC]at hx ⊢
    ·rcases hx with hx|rfl
     ·exact Or.inl hx
     ·exact Or.inr rfl
    ·exact Or.inl hx
    ·exact Or.inl hx
    ·rcases hx with hx|rfl
     ·exact Or.inl hx
     ·exact Or.inr rfl
  ·simp[Array.getElem?_setIfInBounds];intro hbk;exact absurd (by rw[hbk]) hkb
 ·exact absurd hk (hnot e (List.mem_of_getElem? hj))
section
variable {P:Program}
theorem CU(w:World)(base:Nat)(t ty e:TypeId)(i:TypeInfo)(z:Value)(size bytes:Nat)(ht:P.underlying t=some (.slice e))(hi:P.info? e=some i)(hz:i.zero=some z)
  (hsize:i.size=size) (hby:i.bytes=bytes) (hzs:z.cells.size=size) (hsz:0<size)
  (v:Value) (n:Nat) (xs:List Value) (hown:w.ownsRow base e size v n xs)
  (a:Addr) (m c:Nat) (news:List Value) (hl:news.length=m*size) (hnews:∀j u,news[j]?=some u→w.cell? (a.add j)=some u) (h1:∀u∈news,u.oneCell'=true)
  (h63:n+m≤maxLen) (hbytes:(n+m)*bytes≤140737488355328) (hbase:base≤w.heap.size) :
  ∃v' w',(Builtin.append_ #[t,t] ty #[v,.slice (some a) m c]).run P w=.ok v' w'∧w'.ownsRow base e size v' (n+m) (xs++news)∧w.grownBy w' v.ownBlock ∧
   ∀g,v'.ownBlock=some g→v.ownBlock=some g∨g=w.heap.size:=by
 obtain⟨v',w',hr,h2,h3,h4⟩:=run_append_own (P:=P) w base t ty e i z size bytes ht hi hz hsize hby hzs hsz v n xs hown a m c news hl hnews h1 h63 hbytes hbase;refine⟨v',w',hr,h2,h3,?_⟩;subst hsize;subst hby
 have hsmall:n+m≤9223372036854775807:=by simp only[maxLen]at h63;omega
 rcases hown.2 with⟨rfl,rfl⟩|⟨g,cap,cur,rfl,hbg,hg,hnc,hcm,hcs,htake⟩
 ·have hx:xs=[]:=List.eq_nil_of_length_eq_zero (by simpa using hown.1);subst hx;by_cases hm:m=0
  ·rw[h4.mpr ⟨rfl,hm⟩];intro g hg;simp[Value.ownBlock]at hg
  ·have hr2:=run_append_nil (P:=P) w t ty e i z ht hi hz a m c news hl hnews (by omega) (by omega) (by have hb:=hbytes;simp only[Nat.zero_add]at hb;omega);have:=hr.symm.trans hr2;injection this with e1 e2;rw[e1];intro g hg;simp[Value.ownBlock]at hg;exact Or.inr hg.symm
 ·by_cases hroom:n+m≤cap
  ·have hfit:n*i.size+news.length≤cur.size:=by rw[hl,hcs,←Nat.add_mul];exact Nat.mul_le_mul_right _ hroom
   have hr2:=run_append_room (P:=P) w t ty e i ht hi g n cap cur hg a m c news hl hnews h1 hroom hfit;have:=hr.symm.trans hr2;injection this with e1 e2;rw[e1];intro g' hg';exact Or.inl hg'
  ·have holds:∀j u,xs[j]?=some u→w.cell? ((⟨g,0,none⟩:Addr).add j)=some u:=hown.cells (g:=g) rfl;have hr2:=run_append_grow (P:=P) w t ty e i z ht hi hz ⟨g,0,none⟩ n cap xs hown.1 holds a m c news hl hnews (by omega) (by omega) (growslice_fits (by omega) hbytes);have:=hr.symm.trans hr2;injection this with e1 e2;rw[e1];intro g' hg';simp[Value.ownBlock]at hg';exact Or.inr hg'.symm
theorem j7(w:World){ops:Array Oper}{rest:List Oper}{o:Oper}{a:Act}{Q:Exit→Act→World→Prop}(hgd:o.guard=none)(s x:Operand)(t:TypeId)
  (ho:o.op=.call { callee:=.builtin .append,args:=#[s,x],argTypes:=#[t,t] })
  (base:Nat) (e:TypeId) (i:TypeInfo) (z:Value) (size bytes:Nat) (ht:P.underlying t=some (.slice e)) (hi:P.info? e=some i) (hz:i.zero=some z)
  (hsize:i.size=size) (hby:i.bytes=bytes) (hzs:z.cells.size=size) (hsz:0<size)
  (v:Value) (n:Nat) (xs:List Value) (hs:a.eval s=v) (hown:w.ownsRow base e size v n xs)
  (ad:Addr) (m c:Nat) (news:List Value) (hx:a.eval x=.slice (some ad) m c) (hl:news.length=m*size) (hnews:∀j u,news[j]?=some u→w.cell? (ad.add j)=some u) (h1:∀u∈news,u.oneCell'=true)
  (h63:n+m≤maxLen) (hbytes:(n+m)*bytes≤140737488355328) (hbase:base≤w.heap.size)
  (h:∀v' w',w'.ownsRow base e size v' (n+m) (xs++news)→w.grownBy w' v.ownBlock→(∀g,v'.ownBlock=some g→v.ownBlock=some g∨g=w.heap.size)→wpList P ops Q rest (a.put o.dst v') w'):wpList P ops Q (o::rest) a w:=by
 refine wpList_plain hgd fun K' hK'=>?_
 obtain⟨v',w',hr,h2,h3,h4⟩:=CU (P:=P) w base t o.type e i z size bytes ht hi hz hsize hby hzs hsz v n xs hown ad m c news hl hnews h1 h63 hbytes hbase;unfold Oper.wp execOp;simp only[ho,resolve,invoke,builtin,Sem.run_bind,Sem.run_pure,Result.andThen_ok,List.map_toArray,List.map_cons,List.map_nil,hs,hx,hr];exact hK' _ _ (h v' w' h2 h3 h4)
end
theorem cR{w w':World}{B:Nat}{e:TypeId}{sz n:Nat}{v:Value}{xs:List Value}(h:w.ownsRow B e sz v n xs)(hk:∀g,v.ownBlock=some g→w'.heap[g]?=w.heap[g]?):w'.ownsRow B e sz v n xs:=by
 refine⟨h.1,?_⟩;rcases h.2 with hn|⟨g,cap,cur,rfl,hb,hgg,rest⟩
 ·exact .inl hn
 ·exact .inr ⟨g,cap,cur,rfl,hb,(hk g rfl).trans hgg,rest⟩
def Bc:List Nat:=[95,95,95,95,95,95,96,97,98,95,98,99,95,100,100,101,102,102,100,103,104,105,106,107,107,99,99,108,107,109,108,110,111,100]
def aP:List ((List UInt8 × Nat × List Nat × Option Nat) × Nat):=iI.zip Bc
theorem xq:aP.length=34:=rfl
theorem Dl:aP.map Prod.fst=iI:=rfl
def du(x:(List UInt8 × Nat × List Nat × Option Nat) × Nat):ByteArray:=⟨x.1.1.toArray⟩
def jx(w:World)(g:Nat):Prop:=g<w.heap.size∧∀k (h:k<aP.length),w.cell? ⟨g,k*3,none⟩=some (.string (du aP[k]))∧w.cell? ⟨g,k*3+1,none⟩=some (.int .i64 (aP[k].1.2.1:Int))∧w.cell? ⟨g,k*3+2,none⟩=some (.func (.func aP[k].2) #[] #[])
theorem jx.call{w w':World}{g:Nat}(h:jx w g)(hb:ai w w'):jx w' g :=
 ⟨Nat.lt_of_lt_of_le h.1 hb.size,fun k hk=>⟨(hb.cell (p:=⟨g,k*3,none⟩) h.1).trans (h.2 k hk).1,(hb.cell (p:=⟨g,k*3+1,none⟩) h.1).trans (h.2 k hk).2.1,(hb.cell (p:=⟨g,k*3+2,none⟩) h.1).trans (h.2 k hk).2.2⟩⟩
theorem jx.R{w w':World}{g B:Nat}(h:jx w g)(hg:g<B)(hb:Below B w w'):jx w' g :=
 ⟨Nat.lt_of_lt_of_le h.1 hb.size,fun k hk=>⟨(hb.cell (p:=⟨g,k*3,none⟩) hg).trans (h.2 k hk).1,(hb.cell (p:=⟨g,k*3+1,none⟩) hg).trans (h.2 k hk).2.1,(hb.cell (p:=⟨g,k*3+2,none⟩) hg).trans (h.2 k hk).2.2⟩⟩
def bh(t:List Nat × Option Nat)(n:Nat):List Nat × Option Nat:=(t.1.drop n,t.2)
def gR(f:Nat)(cap:Array Value)(t:List Nat × Option Nat)(W:World):Prop:=∀n:Nat,n≤1048577 →
  ah f (#[.int .i64 n]++cap) W (aA (.tuple #[.int .i64 (br (bh t n):Int),.bool (cw (bh t n))]) W)
theorem Ip(W:World):gR 95 #[] ([1,1],none) W:=fun n hn=>by
 show ah 95 #[.int .i64 n] W _;by_cases h0:n=0
 ·subst h0;go_enter func95,ntmps95;go_wp2;go_ret2;exact⟨rfl,by go_grown⟩
 by_cases h1:n=1
 ·subst h1;go_enter func95,ntmps95;go_wp2;go_ret2;exact⟨rfl,by go_grown⟩
 obtain⟨m,rfl⟩:∃m,n=m+2:=⟨n-2,by omega⟩;have HW:Hid (br (bh ([1,1],none) (m+2))=0∧cw (bh ([1,1],none) (m+2))=true):=⟨by simp[bh,br],by simp[bh,cw]⟩;rw[HW.out.1,HW.out.2];go_enter func95,ntmps95;go_wp2;go_ret2;refine⟨?_,by go_grown⟩;first|rfl|(simp;omega)
theorem Io(W:World):gR 108 #[] ([1,1,1],none) W:=fun n hn=>by
 show ah 108 #[.int .i64 n] W _;by_cases h0:n=0
 ·subst h0;go_enter func108,ntmps108;go_wp2;go_ret2;exact⟨rfl,by go_grown⟩
 by_cases h1:n=1
 ·subst h1;go_enter func108,ntmps108;go_wp2;go_ret2;exact⟨rfl,by go_grown⟩
 by_cases h2:n=2
 ·subst h2;go_enter func108,ntmps108;go_wp2;go_ret2;exact⟨rfl,by go_grown⟩
 obtain⟨m,rfl⟩:∃m,n=m+3:=⟨n-3,by omega⟩;have HW:Hid (br (bh ([1,1,1],none) (m+3))=0∧cw (bh ([1,1,1],none) (m+3))=true):=⟨by simp[bh,br],by simp[bh,cw]⟩;rw[HW.out.1,HW.out.2];go_enter func108,ntmps108;go_wp2;go_ret2;refine⟨?_,by go_grown⟩;first|rfl|(simp;omega)
theorem Ig(W:World):gR 107 #[] ([1],none) W:=fun n hn=>by
 show ah 107 #[.int .i64 n] W _;by_cases h0:n=0
 ·subst h0;go_enter func107,ntmps107;go_wp2;go_ret2;exact⟨rfl,by go_grown⟩
 obtain⟨m,rfl⟩:∃m,n=m+1:=⟨n-1,by omega⟩;have HW:Hid (br (bh ([1],none) (m+1))=0∧cw (bh ([1],none) (m+1))=true):=⟨by simp[bh,br],by simp[bh,cw]⟩;rw[HW.out.1,HW.out.2];go_enter func107,ntmps107;go_wp2;go_ret2;refine⟨?_,by go_grown⟩;first|rfl|(simp;omega)
theorem Ia(W:World):gR 100 #[] ([4,1],none) W:=fun n hn=>by
 show ah 100 #[.int .i64 n] W _;by_cases h0:n=0
 ·subst h0;go_enter func100,ntmps100;go_wp2;go_ret2;exact⟨rfl,by go_grown⟩
 by_cases h1:n=1
 ·subst h1;go_enter func100,ntmps100;go_wp2;go_ret2;exact⟨rfl,by go_grown⟩
 obtain⟨m,rfl⟩:∃m,n=m+2:=⟨n-2,by omega⟩;have HW:Hid (br (bh ([4,1],none) (m+2))=0∧cw (bh ([4,1],none) (m+2))=true):=⟨by simp[bh,br],by simp[bh,cw]⟩;rw[HW.out.1,HW.out.2];go_enter func100,ntmps100;go_wp2;go_ret2;refine⟨?_,by go_grown⟩;first|rfl|(simp;omega)
theorem Ib(W:World):gR 109 #[] ([4,1,1],none) W:=fun n hn=>by
 show ah 109 #[.int .i64 n] W _;by_cases h0:n=0
 ·subst h0;go_enter func109,ntmps109;go_wp2;go_ret2;exact⟨rfl,by go_grown⟩
 by_cases h1:n=1
 ·subst h1;go_enter func109,ntmps109;go_wp2;go_ret2;exact⟨rfl,by go_grown⟩
 by_cases h2:n=2
 ·subst h2;go_enter func109,ntmps109;go_wp2;go_ret2;exact⟨rfl,by go_grown⟩
 obtain⟨m,rfl⟩:∃m,n=m+3:=⟨n-3,by omega⟩;have HW:Hid (br (bh ([4,1,1],none) (m+3))=0∧cw (bh ([4,1,1],none) (m+3))=true):=⟨by simp[bh,br],by simp[bh,cw]⟩;rw[HW.out.1,HW.out.2];go_enter func109,ntmps109;go_wp2;go_ret2;refine⟨?_,by go_grown⟩;first|rfl|(simp;omega)
theorem Ie(W:World):gR 101 #[] ([5,1],none) W:=fun n hn=>by
 show ah 101 #[.int .i64 n] W _;by_cases h0:n=0
 ·subst h0;go_enter func101,ntmps101;go_wp2;go_ret2;exact⟨rfl,by go_grown⟩
 by_cases h1:n=1
 ·subst h1;go_enter func101,ntmps101;go_wp2;go_ret2;exact⟨rfl,by go_grown⟩
 obtain⟨m,rfl⟩:∃m,n=m+2:=⟨n-2,by omega⟩;have HW:Hid (br (bh ([5,1],none) (m+2))=0∧cw (bh ([5,1],none) (m+2))=true):=⟨by simp[bh,br],by simp[bh,cw]⟩;rw[HW.out.1,HW.out.2];go_enter func101,ntmps101;go_wp2;go_ret2;refine⟨?_,by go_grown⟩;first|rfl|(simp;omega)
theorem Ik(W:World):gR 105 #[] ([1,2],none) W:=fun n hn=>by
 show ah 105 #[.int .i64 n] W _;by_cases h0:n=0
 ·subst h0;go_enter func105,ntmps105;go_wp2;go_ret2;exact⟨rfl,by go_grown⟩
 by_cases h1:n=1
 ·subst h1;go_enter func105,ntmps105;go_wp2;go_ret2;exact⟨rfl,by go_grown⟩
 obtain⟨m,rfl⟩:∃m,n=m+2:=⟨n-2,by omega⟩;have HW:Hid (br (bh ([1,2],none) (m+2))=0∧cw (bh ([1,2],none) (m+2))=true):=⟨by simp[bh,br],by simp[bh,cw]⟩;rw[HW.out.1,HW.out.2];go_enter func105,ntmps105;go_wp2;go_ret2;refine⟨?_,by go_grown⟩;first|rfl|(simp;omega)
theorem Il(W:World):gR 104 #[] ([1,2,2],none) W:=fun n hn=>by
 show ah 104 #[.int .i64 n] W _;by_cases h0:n=0
 ·subst h0;go_enter func104,ntmps104;go_wp2;go_ret2;exact⟨rfl,by go_grown⟩
 by_cases h1:n=1
 ·subst h1;go_enter func104,ntmps104;go_wp2;go_ret2;exact⟨rfl,by go_grown⟩
 by_cases h2:n=2
 ·subst h2;go_enter func104,ntmps104;go_wp2;go_ret2;exact⟨rfl,by go_grown⟩
 obtain⟨m,rfl⟩:∃m,n=m+3:=⟨n-3,by omega⟩;have HW:Hid (br (bh ([1,2,2],none) (m+3))=0∧cw (bh ([1,2,2],none) (m+3))=true):=⟨by simp[bh,br],by simp[bh,cw]⟩;rw[HW.out.1,HW.out.2];go_enter func104,ntmps104;go_wp2;go_ret2;refine⟨?_,by go_grown⟩;first|rfl|(simp;omega)
theorem Ic(W:World):gR 106 #[] ([4,1,1,2],none) W:=fun n hn=>by
 show ah 106 #[.int .i64 n] W _;by_cases h0:n=0
 ·subst h0;go_enter func106,ntmps106;go_wp2;go_ret2;exact⟨rfl,by go_grown⟩
 by_cases h1:n=1
 ·subst h1;go_enter func106,ntmps106;go_wp2;go_ret2;exact⟨rfl,by go_grown⟩
 by_cases h2:n=2
 ·subst h2;go_enter func106,ntmps106;go_wp2;go_ret2;exact⟨rfl,by go_grown⟩
 by_cases h3:n=3
 ·subst h3;go_enter func106,ntmps106;go_wp2;go_ret2;exact⟨rfl,by go_grown⟩
 obtain⟨m,rfl⟩:∃m,n=m+4:=⟨n-4,by omega⟩;have HW:Hid (br (bh ([4,1,1,2],none) (m+4))=0∧cw (bh ([4,1,1,2],none) (m+4))=true):=⟨by simp[bh,br],by simp[bh,cw]⟩;rw[HW.out.1,HW.out.2];go_enter func106,ntmps106;go_wp2;go_ret2;refine⟨?_,by go_grown⟩;first|rfl|(simp;omega)
theorem If(W:World):gR 99 #[] ([],none) W:=fun n hn=>by
 show ah 99 #[.int .i64 n] W _;have HW:Hid (br (bh ([],none) n)=0∧cw (bh ([],none) n)=true):=⟨by simp[bh,br],by simp[bh,cw]⟩;rw[HW.out.1,HW.out.2];go_enter func99,ntmps99;go_wp2;go_ret2;refine⟨?_,by go_grown⟩;first|rfl|(simp;omega)
theorem H7(W:World):gR 98 #[] ([],some 1) W:=fun n hn=>by
 show ah 98 #[.int .i64 n] W _;have HW:Hid (br (bh ([],some 1) n)=1∧cw (bh ([],some 1) n)=true):=⟨by simp[bh,br],by simp[bh,cw]⟩;rw[HW.out.1,HW.out.2];go_enter func98,ntmps98;go_wp2;go_ret2;refine⟨?_,by go_grown⟩;first|rfl|(simp;omega)
theorem Ij(W:World):gR 97 #[] ([1],some 1) W:=fun n hn=>by
 show ah 97 #[.int .i64 n] W _;by_cases h0:n=0
 ·subst h0;go_enter func97,ntmps97;go_wp2;go_ret2;exact⟨rfl,by go_grown⟩
 obtain⟨m,rfl⟩:∃m,n=m+1:=⟨n-1,by omega⟩;have HW:Hid (br (bh ([1],some 1) (m+1))=1∧cw (bh ([1],some 1) (m+1))=true):=⟨by simp[bh,br],by simp[bh,cw]⟩;rw[HW.out.1,HW.out.2];go_enter func97,ntmps97;go_wp2;go_ret2;refine⟨?_,by go_grown⟩;first|rfl|(simp;omega)
theorem Hy(W:World):gR 102 #[] ([],some 4) W:=fun n hn=>by
 show ah 102 #[.int .i64 n] W _;have HW:Hid (br (bh ([],some 4) n)=4∧cw (bh ([],some 4) n)=true):=⟨by simp[bh,br],by simp[bh,cw]⟩;rw[HW.out.1,HW.out.2];go_enter func102,ntmps102;go_wp2;go_ret2;refine⟨?_,by go_grown⟩;first|rfl|(simp;omega)
theorem Ii(W:World):gR 110 #[] ([4],some 4) W:=fun n hn=>by
 show ah 110 #[.int .i64 n] W _;by_cases h0:n=0
 ·subst h0;go_enter func110,ntmps110;go_wp2;go_ret2;exact⟨rfl,by go_grown⟩
 obtain⟨m,rfl⟩:∃m,n=m+1:=⟨n-1,by omega⟩;have HW:Hid (br (bh ([4],some 4) (m+1))=4∧cw (bh ([4],some 4) (m+1))=true):=⟨by simp[bh,br],by simp[bh,cw]⟩;rw[HW.out.1,HW.out.2];go_enter func110,ntmps110;go_wp2;go_ret2;refine⟨?_,by go_grown⟩;first|rfl|(simp;omega)
theorem Hz(W:World):gR 111 #[] ([],some 6) W:=fun n hn=>by
 show ah 111 #[.int .i64 n] W _;have HW:Hid (br (bh ([],some 6) n)=6∧cw (bh ([],some 6) n)=true):=⟨by simp[bh,br],by simp[bh,cw]⟩;rw[HW.out.1,HW.out.2];go_enter func111,ntmps111;go_wp2;go_ret2;refine⟨?_,by go_grown⟩;first|rfl|(simp;omega)
theorem Hx(W:World):gR 103 #[] ([],some 3) W:=fun n hn=>by
 show ah 103 #[.int .i64 n] W _;have HW:Hid (br (bh ([],some 3) n)=3∧cw (bh ([],some 3) n)=true):=⟨by simp[bh,br],by simp[bh,cw]⟩;rw[HW.out.1,HW.out.2];go_enter func103,ntmps103;go_wp2;go_ret2;refine⟨?_,by go_grown⟩;first|rfl|(simp;omega)
theorem Ih(W:World):gR 96 #[] ([7],some 3) W:=fun n hn=>by
 show ah 96 #[.int .i64 n] W _;by_cases h0:n=0
 ·subst h0;go_enter func96,ntmps96;go_wp2;go_ret2;exact⟨rfl,by go_grown⟩
 obtain⟨m,rfl⟩:∃m,n=m+1:=⟨n-1,by omega⟩;have HW:Hid (br (bh ([7],some 3) (m+1))=3∧cw (bh ([7],some 3) (m+1))=true):=⟨by simp[bh,br],by simp[bh,cw]⟩;rw[HW.out.1,HW.out.2];go_enter func96,ntmps96;go_wp2;go_ret2;refine⟨?_,by go_grown⟩;first|rfl|(simp;omega)
set_option maxRecDepth 100000 in
theorem DP(w:World) :
  ah 58 #[] w fun e w'=>e=.returned (.slice (some ⟨w.heap.size,0,none⟩) 34 34)∧jx w' w.heap.size∧ai w w':=by
 go_enter func58,ntmps58;go_wp2;go_ret;refine⟨rfl,⟨by simp,fun k hk=>?_⟩,by go_grown⟩;have h34:k<34:=hk;match k,h34 with
 |0,_|1,_|2,_|3,_|4,_|5,_|6,_|7,_|8,_|9,_|10,_|11,_|12,_|13,_|14,_|15,_|16,_|17,_|18,_|19,_|20,_|21,_|22,_|23,_|24,_|25,_|26,_|27,_|28,_|29,_|30,_|31,_|32,_|33,_=>refine⟨?_,?_,?_⟩<;>simp[aP,iI,Bc,du,go_sem]
 |n+34,h=>exact absurd h (by omega)
end Go.Proofs.YtdojfommmpnbgaaGreatDoor
namespace Go.Proofs.YtdojfommmpnbgaaGreatDoor
open Go.RowKit
def dR(a b:ByteArray):Prop:=cV b a=false
theorem qV(a:ByteArray):dR a a:=nU a
theorem qU{a b:ByteArray}(h:cV a b=true):dR a b:=by
 unfold dR;cases hq:cV b a
 ·rfl
 ·have:=qW h hq;rw[nU]at this;cases this
theorem pq{a b c:ByteArray}(h:dR a b)(k:dR b c):dR a c:=by
 unfold dR at h k ⊢;cases hq:cV c a
 ·rfl
 ·by_cases e:b=a
  ·rw[e,hq]at k;cases k
  ·rcases vS e with h1|h1
   ·rw[h1]at h;cases h
   ·rw[qW hq h1]at k;cases k
theorem Bf{a b:ByteArray}(h:dR a b)(hne:a≠b):cV a b=true:=by
 rcases vS hne with h1|h1
 ·exact h1
 ·unfold dR at h;rw[h1]at h;cases h
def gT(H:af)(i:Nat):ByteArray:=H.getD i ⟨#[]⟩
theorem lU{H:af}{i:Nat}(h:i<H.length):gT H i=H[i]:=by
 unfold gT;simp[List.getD,h]
def swp(H:af)(i j:Nat):af:=(H.set i (gT H j)).set j (gT H i)
theorem mn(H:af)(i j:Nat):(swp H i j).length=H.length:=by unfold swp;simp
theorem rI{H:af}{i j:Nat}(hi:i<H.length)(hj:j<H.length)(k:Nat):gT (swp H i j) k=if k=j then gT H i else if k=i then gT H j else gT H k:=by
 unfold swp;by_cases h1:k=j
 ·subst h1;rw[if_pos rfl];unfold gT;simp[List.getD,hj]
 ·rw[if_neg h1];by_cases h2:k=i
  ·subst h2;rw[if_pos rfl];have:¬j=k:=fun e=>h1 e.symm
   unfold gT;simp[List.getD,hi,this]
  ·rw[if_neg h2];have a1:¬j=k:=fun e=>h1 e.symm
   have a2:¬i=k:=fun e=>h2 e.symm
   unfold gT;simp[List.getD,a1,a2]
def jt(H:af)(n:Nat)(s:ByteArray):Prop:=∃k,k<n∧gT H k=s
theorem pb(H:af)(s:ByteArray):jt H H.length s↔s∈H:=by
 constructor
 ·rintro⟨k,hk,e⟩;rw[lU hk]at e;rw[←e];exact List.getElem_mem hk
 ·intro h;obtain⟨k,hk,e⟩:=List.getElem_of_mem h;exact⟨k,hk,by rw[lU hk];exact e⟩
theorem qJ{H:af}{i j n:Nat}(hi:i<n)(hj:j<n)(hn:n≤H.length)(s:ByteArray):jt (swp H i j) n s↔jt H n s:=by
 have hS:=rI (H:=H) (i:=i) (j:=j) (by omega) (by omega);constructor
 ·rintro⟨k,hk,e⟩;rw[hS k]at e;split at e
  ·exact⟨i,hi,e⟩
  ·split at e
   ·exact⟨j,hj,e⟩
   ·exact⟨k,hk,e⟩
 ·rintro⟨k,hk,e⟩;by_cases h1:k=i
  ·refine⟨j,hj,?_⟩;rw[hS j,if_pos rfl,←h1];exact e
  ·by_cases h2:k=j
   ·refine⟨i,hi,?_⟩;rw[hS i];by_cases h3:i=j
    ·rw[if_pos h3,←e,h2,h3]
    ·rw[if_neg h3,if_pos rfl,←h2];exact e
   ·refine⟨k,hk,?_⟩;rw[hS k,if_neg h2,if_neg h1];exact e
def Hp(H:af)(n:Nat):Prop:=∀c,0<c→c<n→dR (gT H ((c-1)/2)) (gT H c)
theorem Ap{H:af}{n:Nat}(h:Hp H n):∀m c,c≤m→c<n→dR (gT H 0) (gT H c)
 |m,c,hm,hc=>by
  by_cases h0:c=0
  ·rw[h0];exact qV _
  ·obtain⟨m',rfl⟩:∃m',m=m'+1:=⟨m-1,by omega⟩;exact pq (Ap h m' ((c-1)/2) (by omega) (by omega)) (h c (by omega) hc)
def lM(H:af)(n j:Nat):Prop:=(∀c,0<c→c<n→c≠j→dR (gT H ((c-1)/2)) (gT H c))∧(∀c,0<c→c<n→(c-1)/2=j→0<j→dR (gT H ((j-1)/2)) (gT H c))
theorem Nu{H:af}(h:Hp H H.length)(x:ByteArray):lM (H++[x]) (H++[x]).length H.length:=by
 have hg:∀k,k<H.length→gT (H++[x]) k=gT H k:=fun k hk=>by
  unfold gT;simp[List.getD,List.getElem?_append,hk]
 rw[List.length_append];refine⟨fun c h0 h1 h2=>?_,fun c h0 h1 h2 h3=>?_⟩
 ·simp at h1;rw[hg _ (by omega),hg _ (by omega)];exact h c h0 (by omega)
 ·simp at h1;omega
theorem Nv{H:af}{n j:Nat}(h:lM H n j)(hn:n≤H.length)(h0:0<j)(hj:j<n)(hl:cV (gT H j) (gT H ((j-1)/2))=true):lM (swp H ((j-1)/2) j) n ((j-1)/2):=by
 obtain⟨p,hp⟩:∃p,p=(j-1)/2:=⟨_,rfl⟩;rw[←hp]at hl ⊢;have hpj:p<j:=by omega
 have hS:=rI (H:=H) (i:=p) (j:=j) (by omega) (by omega);obtain⟨hA,hC⟩:=h;refine⟨fun c c0 c1 c2=>?_,fun c c0 c1 c2 c3=>?_⟩
 ·rw[hS c];by_cases e1:c=j
  ·rw[if_pos e1,hS,e1,←hp,if_neg (by omega),if_pos rfl];exact qU hl
  ·rw[if_neg e1,if_neg c2,hS];by_cases e2:(c-1)/2=j
   ·rw[if_pos e2,hp];exact hC c c0 c1 e2 h0
   ·rw[if_neg e2];by_cases e3:(c-1)/2=p
    ·rw[if_pos e3];have:=hA c c0 c1 e1;rw[e3]at this;exact pq (qU hl) this
    ·rw[if_neg e3];exact hA c c0 c1 e1
 ·have hpp:dR (gT H ((p-1)/2)) (gT H p):=hA p c3 (by omega) (by omega);rw[hS ((p-1)/2),if_neg (by omega),if_neg (by omega),hS c];by_cases e1:c=j
  ·rw[if_pos e1];exact hpp
  ·rw[if_neg e1,if_neg (by omega)];have:=hA c c0 c1 e1;rw[c2]at this;exact pq hpp this
theorem Dr{H:af}{n j:Nat}(h:lM H n j)(he:j=0∨cV (gT H j) (gT H ((j-1)/2))=false):Hp H n:=fun c c0 c1=>by
 by_cases e:c=j
 ·rcases he with h0|h0
  ·omega
  ·rw[e];exact h0
 ·exact h.1 c c0 c1 e
def kW(H:af)(n i:Nat):Prop:=(∀c,0<c→c<n→(c-1)/2≠i→dR (gT H ((c-1)/2)) (gT H c))∧(∀c,0<c→c<n→(c-1)/2=i→0<i→dR (gT H ((i-1)/2)) (gT H c))
theorem ET{H:af}{n:Nat}(h:Hp H (n+1))(hn:n+1=H.length):kW (swp H 0 n) n 0:=by
 have hS:=rI (H:=H) (i:=0) (j:=n) (by omega) (by omega);refine⟨fun c c0 c1 c2=>?_,fun c c0 c1 c2 c3=>by omega⟩;rw[hS c,if_neg (by omega),if_neg (by omega),hS,if_neg (by omega),if_neg c2];exact h c c0 (by omega)
theorem uJ{H:af}{n i j:Nat}(h:kW H n i)(hn:n≤H.length)(hj:j<n)(hij:(j-1)/2=i)(h0:0<j)(hm:∀c,0<c→c<n→(c-1)/2=i→dR (gT H j) (gT H c))(hl:cV (gT H j) (gT H i)=true):kW (swp H i j) n j:=by
 have hS:=rI (H:=H) (i:=i) (j:=j) (by omega) (by omega);obtain⟨hA,hC⟩:=h;refine⟨fun c c0 c1 c2=>?_,fun c c0 c1 c2 c3=>?_⟩
 ·rw[hS c];by_cases e1:c=j
  ·rw[if_pos e1,hS,e1,hij,if_neg (by omega),if_pos rfl];exact qU hl
  ·rw[if_neg e1];by_cases e2:c=i
   ·rw[if_pos e2,hS,if_neg c2,if_neg (by omega),e2];exact hC j h0 hj hij (by omega)
   ·rw[if_neg e2,hS,if_neg c2];by_cases e3:(c-1)/2=i
    ·rw[if_pos e3];exact hm c c0 c1 e3
    ·rw[if_neg e3];exact hA c c0 c1 e3
 ·rw[hij,hS i,if_neg (by omega),if_pos rfl,hS c,if_neg (by omega),if_neg (by omega)];have:=hA c c0 c1 (by omega);rw[c2]at this;exact this
theorem so{H:af}{n i:Nat}(h:kW H n i)(he:∀c,0<c→c<n→(c-1)/2=i→dR (gT H i) (gT H c)):Hp H n:=fun c c0 c1=>by
 by_cases e:(c-1)/2=i
 ·rw[e];exact he c c0 c1 e
 ·exact h.1 c c0 c1 e
structure lL (X H:af):Prop where
 rise:iE X
 ahead:∀a∈X,∀b∈H,dR a b
theorem LH{X:af}{z:ByteArray}(h:iE (X++[z])):∀a∈X++[z],dR a z:=fun a ha=>by
 rcases List.mem_append.mp ha with h1|h1
 ·exact qU ((List.pairwise_append.mp h).2.2 a h1 z (List.mem_singleton.mpr rfl))
 ·rw[List.mem_singleton.mp h1];exact qV _
def jK(X:af)(x:ByteArray):af:=if X.getLast?=some x then X else X++[x]
theorem tN(X:af)(x s:ByteArray):s∈jK X x↔s∈X∨s=x:=by
 unfold jK;split
 ·rename_i h;constructor
  ·exact Or.inl
  ·rintro(h1|h1)
   ·exact h1
   ·rw[h1];exact List.mem_of_getLast? h
 ·rw[List.mem_append,List.mem_singleton]
theorem xu{X H K:af}{x:ByteArray}(h:lL X H)(hx:x∈H)(hmin:∀b∈H,dR x b)(hK:∀b∈K,b∈H):lL (jK X x) K:=by
 have hall:∀a∈X,dR a x:=fun a ha=>h.ahead a ha x hx
 refine⟨?_,fun a ha b hb=>?_⟩
 ·unfold jK;split
  ·exact h.rise
  ·rename_i hne;refine List.pairwise_append.mpr ⟨h.rise,List.pairwise_singleton ..,fun a ha b hb=>?_⟩;rw[List.mem_singleton.mp hb];refine Bf (hall a ha) (fun e=>?_);subst e;refine hne ?_;rcases List.eq_nil_or_concat X with h0|⟨Y,z,h0⟩
   ·rw[h0]at ha;cases ha
   ·rw[List.concat_eq_append]at h0;subst h0;have h1:=hall z (by simp);have h2:=LH h.rise a ha;have:z=a:=Classical.byContradiction fun hz=>by
     have h3:=Bf h1 hz;unfold dR at h2;rw[h3]at h2;cases h2
    rw[this];simp
 ·rcases (tN X x a).mp ha with h1|h1
  ·exact h.ahead a h1 b (hK b hb)
  ·rw[h1];exact hmin b (hK b hb)
end Go.Proofs.YtdojfommmpnbgaaGreatDoor
