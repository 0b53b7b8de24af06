import Derived.Test.YtdgihicpjonjgaaGreatDoorZForms
import Derived.Test.YtdgihicpjonjgaaGreatDoorZFormZ
import Derived.Test.YtdgihicpjonjgaaGreatDoorZPutL
namespace Go.Proofs.YtdgihicpjonjgaaGreatDoor
open Go.RowKit
def chainD (L:List ByteArray):Nat→Int→Int→Prop
 | 0,i,e=>i=e
 | k+1,i,e=>fm L 1 i≠-1∧chainD L k (fm L 1 i) e
def endB (L:List ByteArray) (e:Int):Prop:=e=(L.length:Int)∨isW (sgAt L e) [41]=true
section
variable {L:List ByteArray} {i x e:Int}
theorem fm_ends (m:Nat) (hm:m < 4) (i:Int):Ends L i (fm L m i):=(fm_good L).1 m i hm
theorem fm_none (m:Nat) (_hm:m≤11):fm L m (-1)=-1:=by
 by_cases h4:m < 4
 ·have:=fm_ends (L:=L) m h4 (-1)
  unfold Ends at this
  omega
 ·have:=(fm_good L).2 m (-1) (by omega) (by omega)
  unfold Fw at this
  omega
theorem fm_fine (L:List ByteArray):Fine L (fm L):=by rw [← fm_fun];exact frm_fine L _
theorem deed_item (h:fm L 1 i≠-1):itemE L i=fm L 1 i:=by
 rcases (fm_fine L).2.1 1 i (by decide) with hk | hk
 ·exact absurd hk h
 ·exact hk.2
theorem deed_open (h:fm L 1 i≠-1):isW (sgAt L i) [40]=true:=by
 rw [fm_deed] at h
 unfold deedS at h
 cases ho:isW (sgAt L i) [40]
 ·rw [ho] at h
  exact absurd rfl h
 ·rfl
theorem chain_ends:∀ k i,chainD L k i e→0≤e→0≤i∧i≤e
 | 0,i,h,he=>by
  have:i=e:=h
  omega
 | k+1,i,h,he=>by
  have h1:=fm_ends (L:=L) 1 (by decide) i
  have h2:=chain_ends k _ h.2 he
  have h3:=h.1
  unfold Ends at h1
  omega
theorem play_chain:∀ f i,playF L f i=true→∃ k,chainD L k i (L.length:Int)
 | 0,i,h=>⟨0,(of_decide_eq_true h:i=(L.length:Int))⟩
 | f+1,i,h=>by
  by_cases hin:0≤i∧i < (L.length:Int)
  ·by_cases hd:60 < depE L i
   ·rw [playF_deep hin hd] at h
    exact absurd h (by decide)
   ·rw [playF_go hin hd,fm_fun] at h
    have hne:fm L 1 i≠-1:=fun hn=>by
     rw [hn,playF_end (by omega)] at h
     have:=of_decide_eq_true h
     omega
    obtain ⟨k,hk⟩:=play_chain f (fm L 1 i) h
    exact ⟨k+1,hne,hk⟩
  ·rw [playF_end hin] at h
   exact ⟨0,(of_decide_eq_true h:i=(L.length:Int))⟩
theorem play_deeds (h:playB L=true):∃ k,chainD L k 0 (L.length:Int):=by
 unfold playB at h
 rw [Bool.and_eq_true,Bool.and_eq_true] at h
 exact play_chain _ _ h.2.2
theorem many_chain:∀ n i,farN L i≤n→0≤i→i≤(L.length:Int)+1→fm L 6 i≠-1→isW (sgAt L (fm L 6 i)) [41]=true∧∃ k,chainD L k i (fm L 6 i)
 | 0,i,hf,h0,h1,_=>by have:=far_pos (L:=L) h0 h1;omega
 | n+1,i,hf,h0,h1,h=>by
  have hm:=fm_many (L:=L) (i:=i) 2 (by decide) (by omega) h1
  rw [show 4+2=6 from rfl] at hm
  unfold manyS at hm
  split at hm
  ·rename_i hs
   rw [hm]
   rcases hs with hs | hs
   ·omega
   ·exact ⟨hs,0,rfl⟩
  ·have ho:oneS L (fm L) 2 i=fm L 1 i:=rfl
   rw [ho,show 4+2=6 from rfl] at hm
   have hne:fm L 1 i≠-1:=fun hn=>by
    rw [hm,hn,fm_none 6 (by decide)] at h
    exact absurd rfl h
   have hE:=fm_ends (L:=L) 1 (by decide) i
   have hfe:=far_ends hE h1
   unfold Ends at hE
   rw [hm] at h ⊢
   obtain ⟨a,k,hk⟩:=many_chain n (fm L 1 i) (by omega) (by omega) (by omega) h
   exact ⟨a,k+1,hne,hk⟩
theorem names_to:∀ n i,farN L i≤n→0≤i→i≤(L.length:Int)+1→fm L 5 i≠-1→i≤fm L 5 i∧isW (sgAt L (fm L 5 i)) [41]=true∧∀ k,i≤k→k < fm L 5 i→nmB (sgAt L k)=true
 | 0,i,hf,h0,h1,_=>by have:=far_pos (L:=L) h0 h1;omega
 | n+1,i,hf,h0,h1,h=>by
  have hm:=fm_many (L:=L) (i:=i) 1 (by decide) (by omega) h1
  rw [show 4+1=5 from rfl] at hm
  unfold manyS at hm
  split at hm
  ·rename_i hs
   rw [hm]
   rcases hs with hs | hs
   ·omega
   ·exact ⟨Int.le_refl _,hs,fun k a b=>by omega⟩
  ·have ho:oneS L (fm L) 1 i=nmE L i:=rfl
   rw [ho,show 4+1=5 from rfl] at hm
   have hne:nmE L i≠-1:=fun hn=>by
    rw [hm,hn,fm_none 5 (by decide)] at h
    exact absurd rfl h
   obtain ⟨he,a0,a1,hb⟩:=nmE_pos hne
   rw [he] at hm
   have hfe:farN L (i+1)+1≤farN L i:=by unfold farN;rw [if_neg (by omega),if_neg (by omega)];omega
   rw [hm] at h ⊢
   obtain ⟨c0,c1,c2⟩:=names_to n (i+1) (by omega) (by omega) (by omega) h
   refine ⟨by omega,c1,fun k d1 d2=>?_⟩
   by_cases hk:k=i
   ·subst hk;exact hb
   ·exact c2 k (by omega) d2
end
def slc (L:List ByteArray) (i x:Int):List ByteArray:=(L.drop i.toNat).take (x - i).toNat
theorem slc_nil (L:List ByteArray) (i:Int):slc L i i=[]:=by simp [slc]
theorem slc_succ {L:List ByteArray} {i x:Int} (h0:0≤i) (h1:i≤x) (h2:x < (L.length:Int)):slc L i (x+1)=slc L i x++[sgAt L x]:=by
 unfold slc
 rw [show (x+1 - i).toNat=(x - i).toNat+1 by omega,List.take_succ_eq_append_getElem (by simp;omega)]
 congr 1
 rw [sgAt_in (by omega) h2,List.getElem_drop]
 congr 1
 simp only [show i.toNat+(x - i).toNat=x.toNat by omega]
noncomputable def pieceD (L:List ByteArray) (hid:Bool) (i:Int):List ByteArray :=
 if hid then (if isW (sgAt L (i+1)) [104,105,100,100,101,110] then slc L (i+2) (fm L 5 (i+2)) else [])
 else if isW (sgAt L (i+1)) [118,97,114,115] then slc L (i+2) (fm L 5 (i+2))
 else if isW (sgAt L (i+1)) [108,101,116] then [sgAt L (i+2)]
 else if isW (sgAt L (i+1)) [116,97,107,101] then slc L (i+3) (fm L 5 (i+4))
 else []
noncomputable def dcl (L:List ByteArray) (hid:Bool):Nat→Int→List ByteArray
 | 0,_=>[]
 | k+1,i=>pieceD L hid i++dcl L hid k (fm L 1 i)
section
variable {L:List ByteArray} {i:Int}
theorem isE_m1:isE L (-1) [41]=-1:=isE_neg (by decide) (by decide)
theorem deed_long (h:fm L 1 i≠-1):0≤i∧i+3≤fm L 1 i∧fm L 1 i≤(L.length:Int):=by
 have ho:=deed_open h
 obtain ⟨h0,h1⟩:=sgAt_open ho
 rw [fm_deed] at h ⊢
 unfold deedS at h ⊢
 rw [if_pos ho] at h ⊢
 split at h
 ·exact absurd rfl h
 ·rename_i hd
  rw [if_neg hd]
  have hE:=deedH_ends (fm_good L) (sgAt L (i+1)) (i:=i+2) (by omega)
  unfold Ends at hE
  omega
theorem deed_at (h:fm L 1 i≠-1):fm L 1 i=deedH L (fm L) (sgAt L (i+1)) (i+2):=by
 have ho:=deed_open h
 rw [fm_deed]
 unfold deedS
 rw [if_pos ho]
 simp
theorem names_at {c:List UInt8} (h:fm L 1 i≠-1) (hc:sgAt L (i+1)=⟨c.toArray⟩) (hd:deedH L (fm L) ⟨c.toArray⟩ (i+2)=isE L (fm L 5 (i+2)) [41]) :
  i+2≤fm L 5 (i+2)∧fm L 5 (i+2) < (L.length:Int)∧isW (sgAt L (fm L 5 (i+2))) [41]=true∧(∀ k,i+2≤k→k < fm L 5 (i+2)→nmB (sgAt L k)=true)∧fm L 1 i=fm L 5 (i+2)+1:=by
 have hl:=deed_long h
 have he:=deed_at h
 rw [hc,hd] at he
 rw [he] at h
 obtain ⟨e1,e2,e3,e4⟩:=isE_pos (by decide) h
 have hn:=names_to (L:=L) _ (i+2) (Nat.le_refl _) (by omega) (by omega) (fun hx=>by rw [hx] at e2;omega)
 exact ⟨hn.1,e3,hn.2.1,hn.2.2,by rw [he,e1]⟩
theorem take_at (h:fm L 1 i≠-1) (hc:sgAt L (i+1)=⟨#[116,97,107,101]⟩) :
  i+4≤fm L 5 (i+4)∧fm L 5 (i+4) < (L.length:Int)∧isW (sgAt L (fm L 5 (i+4))) [41]=true∧(∀ k,i+3≤k→k < fm L 5 (i+4)→nmB (sgAt L k)=true)∧isW (sgAt L (i+2)) [40]=true∧fm L 5 (i+4)+1 < fm L 1 i:=by
 have hl:=deed_long h
 have he:=deed_at h
 rw [hc,deedH_take] at he
 have hq:isE L (i+2) [40]≠-1:=fun hx=>by
  rw [hx,show nmE L (-1)=-1 from by have:=nmE_ends (L:=L) (i:=-1) (x:=-1) (Or.inl rfl);unfold Ends at this;omega,fm_none 5 (by decide),isE_m1,fm_none 0 (by decide),isE_m1] at he
  exact h he
 obtain ⟨q1,q2,q3,q4⟩:=isE_pos (by decide) hq
 rw [q1] at he
 have hm:nmE L (i+2+1)≠-1:=fun hx=>by
  rw [hx,fm_none 5 (by decide),isE_m1,fm_none 0 (by decide),isE_m1] at he
  exact h he
 obtain ⟨m1,m2,m3,m4⟩:=nmE_pos hm
 rw [m1,show i+2+1+1=i+4 by omega] at he
 have hp:isE L (fm L 5 (i+4)) [41]≠-1:=fun hx=>by
  rw [hx,fm_none 0 (by decide),isE_m1] at he
  exact h he
 obtain ⟨p1,p2,p3,p4⟩:=isE_pos (by decide) hp
 have hn:=names_to (L:=L) _ (i+4) (Nat.le_refl _) (by omega) (by omega) (fun hx=>by rw [hx] at p2;omega)
 refine ⟨hn.1,p3,p4,fun k k1 k2=>?_,q4,?_⟩
 ·by_cases hk:k=i+3
  ·rw [hk,show i+3=i+2+1 by omega]
   exact m4
  ·exact hn.2.2 k (by omega) k2
 ·rw [p1] at he
  have hz:=fm_ends (L:=L) 0 (by decide) (fm L 5 (i+4)+1)
  rw [he] at h
  obtain ⟨z1,z2,z3,z4⟩:=isE_pos (by decide) h
  rw [he,z1]
  unfold Ends at hz
  omega
theorem let_at (h:fm L 1 i≠-1) (hc:sgAt L (i+1)=⟨#[108,101,116]⟩):nmB (sgAt L (i+2))=true∧i+2 < (L.length:Int)∧i+3 < fm L 1 i:=by
 have hl:=deed_long h
 have he:=deed_at h
 rw [hc,deedH_let] at he
 have hm:nmE L (i+2)≠-1:=fun hx=>by
  rw [hx,fm_none 0 (by decide),isE_m1] at he
  exact h he
 obtain ⟨m1,m2,m3,m4⟩:=nmE_pos hm
 refine ⟨m4,m3,?_⟩
 rw [m1] at he
 have hz:=fm_ends (L:=L) 0 (by decide) (i+2+1)
 rw [he] at h
 obtain ⟨z1,z2,z3,z4⟩:=isE_pos (by decide) h
 rw [he,z1]
 unfold Ends at hz
 omega
theorem slc_len {L:List ByteArray} {a b:Int}:(slc L a b).length≤(b - a).toNat:=by
 unfold slc
 simp
 omega
theorem piece_len (hid:Bool) (h:fm L 1 i≠-1):(pieceD L hid i).length≤(fm L 1 i - i).toNat:=by
 have hl:=deed_long h
 have hs1:=slc_len (L:=L) (a:=i+2) (b:=fm L 5 (i+2))
 have hs2:=slc_len (L:=L) (a:=i+3) (b:=fm L 5 (i+4))
 unfold pieceD
 split
 ·split
  ·rename_i hw
   have:=names_at (c:=[104,105,100,100,101,110]) h (isW_eq hw) deedH_hidden
   omega
  ·simp
 ·split
  ·rename_i hw
   have:=names_at (c:=[118,97,114,115]) h (isW_eq hw) deedH_vars
   omega
  ·split
   ·simp;omega
   ·split
    ·rename_i hw
     have:=take_at h (isW_eq hw)
     omega
    ·simp
theorem nm_not41 {s:ByteArray} (h:nmB s=true):isW s [41]=false:=(nm_plain h).2
end
end Go.Proofs.YtdgihicpjonjgaaGreatDoor
namespace Go.Proofs.YtdgihicpjonjgaaGreatDoor
open Go.RowKit
structure Ot where
 fr:List ByteArray
 sc:List ByteArray
 bad:Bool
def Ot.none:Ot:=⟨[],[],false⟩
def Ot.add (a b:Ot):Ot:=⟨a.fr++b.fr,a.sc++b.sc,a.bad || b.bad⟩
structure Kn where
 nm:List ByteArray
 hd:List ByteArray
 lp:Bool
def useO (K:Kn) (s:ByteArray):Ot:=if inB K.nm s then Ot.none else ⟨[s],[],false⟩
def hideO (K:Kn) (s:ByteArray):Ot:=if inB K.hd s then Ot.none else ⟨[],[s],false⟩
def twiceB (X:List ByteArray):Bool:=(List.range X.length).any fun i=>inB (X.take i) (X.getD i ⟨#[]⟩)
theorem twice_yes {X:List ByteArray} {i:Nat} (h:i < X.length) (hb:inB (X.take i) X[i]=true):twiceB X=true:=by
 unfold twiceB
 rw [List.any_eq_true]
 exact ⟨i,List.mem_range.2 h,by rw [show X.getD i ⟨#[]⟩=X[i] by simp [List.getD,h]];exact hb⟩
theorem twice_no {X:List ByteArray} (h:∀ i (h:i < X.length),inB (X.take i) X[i]=false):twiceB X=false:=by
 unfold twiceB
 rw [List.any_eq_false]
 intro i hi
 have hl:=List.mem_range.1 hi
 rw [show X.getD i ⟨#[]⟩=X[i] by simp [List.getD,hl],h i hl]
 decide
def plcs (L:List ByteArray):Nat→Int→List Int
 | 0,_=>[]
 | f+1,i=>if 0≤i∧i < (L.length:Int)∧isW (sgAt L i) [41]=false then i :: plcs L f (itemE L i) else []
def plc (L:List ByteArray) (i:Int):List Int:=plcs L (L.length+2) i
def outs (f:Int→Ot):List Int→Ot
 | []=>Ot.none
 | p :: ps=>(f p).add (outs f ps)
def blk (L:List ByteArray) (f:Int→Ot):Bool→List Int→Ot
 | _,[]=>Ot.none
 | v,p :: ps=>(Ot.mk [] [] (isW (sgAt L (p+1)) [118,97,114,115] && !v)).add ((f p).add (blk L f false ps))
def parN (L:List ByteArray) (p:Int):ByteArray:=if isW (sgAt L p) [40] then sgAt L (p+1) else sgAt L p
def parO (L:List ByteArray) (f:Int→Ot) (p:Int):Ot:=if isW (sgAt L p) [40] then f (p+2) else Ot.none
def addN (K:Kn) (X:List ByteArray):Kn:={ K with nm:=K.nm++X }
def addH (K:Kn) (X:List ByteArray):Kn:={ K with hd:=K.hd++X }
def inLoop (K:Kn) (b:Bool):Kn:={ K with lp:=b }
noncomputable def blockO (L:List ByteArray) (r:Nat→Bool→Int→Kn→Ot) (v:Bool) (i:Int) (K:Kn):Ot :=
 (Ot.mk [] [] (twiceB ((plc L i).flatMap (pieceD L false)) || twiceB ((plc L i).flatMap (pieceD L true)))).add
  (blk L (fun p=>r 0 false p (addH (addN K ((plc L i).flatMap (pieceD L false))) ((plc L i).flatMap (pieceD L true)))) v (plc L i))
noncomputable def bodyI (L:List ByteArray) (i:Int):Int:=fm L 7 (i+3)+1
noncomputable def fnO (L:List ByteArray) (r:Nat→Bool→Int→Kn→Ot) (i:Int) (K:Kn):Ot :=
 (Ot.mk [] [] (twiceB ((plc L (i+3)).map (parN L)))).add
  ((outs (parO L fun p=>r 0 false p (inLoop (addN K ((plc L (i+3)).map (parN L))) false)) (plc L (i+3))).add
   (r 1 (!(plc L (i+3)).any fun p=>isW (sgAt L p) [40]) (bodyI L i) (inLoop (addN K ((plc L (i+3)).map (parN L))) false)))
noncomputable def itemO (L:List ByteArray) (r:Nat→Bool→Int→Kn→Ot) (i:Int) (K:Kn):Ot :=
 if isW (sgAt L i) [40]=false then (if nmB (sgAt L i) then useO K (sgAt L i) else Ot.none)
 else if isW (sgAt L (i+1)) [102,110] then fnO L r i K
 else if isW (sgAt L (i+1)) [100,111] then r 1 false (i+2) K
 else if isW (sgAt L (i+1)) [108,101,116] then r 0 false (i+3) K
 else if isW (sgAt L (i+1)) [115,101,116] then (useO K (sgAt L (i+2))).add (r 0 false (i+3) K)
 else if isW (sgAt L (i+1)) [116,97,107,101] then r 0 false (itemE L (i+2)) K
 else if isW (sgAt L (i+1)) [104,103,101,116] || isW (sgAt L (i+1)) [104,112,117,116] then (hideO K (sgAt L (i+2))).add (outs (fun p=>r 0 false p K) (plc L (i+3)))
 else if isW (sgAt L (i+1)) [104,105,100,100,101,110] || isW (sgAt L (i+1)) [118,97,114,115] then Ot.none
 else if isW (sgAt L (i+1)) [108,101,97,118,101] || isW (sgAt L (i+1)) [110,101,120,116] then Ot.mk [] [] (!K.lp)
 else if isW (sgAt L (i+1)) [119,104,105,108,101] then (r 0 false (i+2) K).add (r 0 false (itemE L (i+2)) (inLoop K true))
 else if isW (sgAt L (i+1)) [102,111,114] then (r 0 false (i+3) K).add ((r 0 false (itemE L (i+3)) K).add (r 0 false (itemE L (itemE L (i+3))) (addN (inLoop K true) [sgAt L (i+2)])))
 else outs (fun p=>r 0 false p K) (plc L (i+2))
noncomputable def wk (L:List ByteArray):Nat→Nat→Bool→Int→Kn→Ot
 | 0,_,_,_,_=>Ot.none
 | n+1,m,v,i,K=>if m=0 then itemO L (wk L n) i K else blockO L (wk L n) v i K
noncomputable def findO (L:List ByteArray):Ot:=wk L (8 * L.length+40) 1 true 0 ⟨[],[],false⟩
def Ot.plus (F o:Ot):Ot:=⟨putAll F.fr o.fr,putAll F.sc o.sc,F.bad || o.bad⟩
theorem Ot.plus_add (F a b:Ot):F.plus (a.add b)=(F.plus a).plus b:=by simp [Ot.plus,Ot.add,putAll_append,Bool.or_assoc]
theorem Ot.plus_none (F:Ot):F.plus Ot.none=F:=by cases F;simp [Ot.plus,Ot.none,putAll]
end Go.Proofs.YtdgihicpjonjgaaGreatDoor
namespace Go.Proofs.YtdgihicpjonjgaaGreatDoor
open Go.RowKit
def formL:List (List UInt8 × Nat × List Nat × Option Nat):=[
 ([43],1,[1,1],none),([45],1,[1,1],none),([42],1,[1,1],none),([60],1,[1,1],none),([61],1,[1,1],none),([38],1,[1,1],none),
 ([102,110],1,[7],some 3),([99,97,108,108],1,[1],some 1),([116,104,105,110,103],1,[],some 1),([103,101,116],1,[1,1],none),([106,111,105,110],1,[],some 1),
 ([116,97,98,108,101],1,[],none),([116,103,101,116],1,[1,1],none),([104,103,101,116],1,[4,1],none),
 ([108,101,116],3,[4,1],none),([116,97,107,101],3,[5,1],none),([104,105,100,100,101,110],3,[],some 4),([118,97,114,115],3,[],some 4),
 ([115,101,116],2,[4,1],none),([100,111],2,[],some 3),([105,102],2,[1,2,2],none),([119,104,105,108,101],2,[1,2],none),([102,111,114],2,[4,1,1,2],none),
 ([115,97,121],2,[1],none),([98,97,99,107],2,[1],none),([108,101,97,118,101],2,[],none),([110,101,120,116],2,[],none),([112,117,116],2,[1,1,1],none),
 ([114,117,110],2,[1],none),([104,112,117,116],2,[4,1,1],none),([116,112,117,116],2,[1,1,1],none),
 ([],5,[4],some 4),([],7,[],some 6),([],6,[4,1],none)]
def fitB (k w:Nat):Bool:=k == w || (k == 2 && w == 3)
def hitB (h:List UInt8) (w:Nat) (f:List UInt8 × Nat × List Nat × Option Nat):Bool:=fitB f.2.1 w && (f.1.isEmpty || f.1 == h)
def openF (h:List UInt8) (w:Nat):Option (List UInt8 × Nat × List Nat × Option Nat):=formL.find? (hitB h w)
def aloneB (s:ByteArray) (w:Nat):Bool:=if w=1 then oneB s else if w=4∨w=6 then nmB s else false
def wantN (t:List Nat × Option Nat):Nat:=match t with | ([],none)=>0 | ([],some p)=>p | (p :: _,_)=>p
def mayB (t:List Nat × Option Nat):Bool:=t.1.isEmpty
def nextL (t:List Nat × Option Nat):List Nat × Option Nat:=(t.1.tail,t.2)
def machF (L:List ByteArray):Nat→Int→(List Nat × Option Nat)→List (List Nat × Option Nat)→Int
 | 0,_,_,_=>-1
 | f+1,i,t,S =>
  if 0≤i∧i < (L.length:Int) then
   if isW (sgAt L i) [41] then (if mayB t then (match S with | []=>-1 | [_]=>i+1 | u :: S'=>machF L f (i+1) u S') else -1)
   else if isW (sgAt L i) [40] then (match openF (sgAt L (i+1)).toList (wantN t) with | none=>-1 | some g=>machF L f (if g.1.isEmpty then i+1 else i+2) (g.2.2.1,g.2.2.2) (nextL t :: S))
   else if aloneB (sgAt L i) (wantN t) then (match S with | []=>i+1 | _ :: _=>machF L f (i+1) (nextL t) S) else -1
  else -1
theorem mach_same (L:List ByteArray):∀ (f f':Nat) (i:Int) (t:List Nat × Option Nat) (S:List (List Nat × Option Nat)),0≤i→(L.length:Int) - i < (f:Int)→(L.length:Int) - i < (f':Int)→machF L f i t S=machF L f' i t S
 | 0,0,_,_,_,_,_,_=>rfl
 | 0,f'+1,i,t,S,h0,h,_=>by
  unfold machF
  rw [if_neg (by omega)]
 | f+1,0,i,t,S,h0,_,h=>by
  unfold machF
  rw [if_neg (by omega)]
 | f+1,f'+1,i,t,S,h0,h,h'=>by
  have IH:=mach_same L f f'
  unfold machF
  split
  ·split
   ·split
    ·match S with
     | []=>rfl
     | [_]=>rfl
     | u :: v :: S'=>exact IH (i+1) u (v :: S') (by omega) (by omega) (by omega)
    ·rfl
   ·split
    ·cases openF (sgAt L (i+1)).toList (wantN t) with
     | none=>rfl
     | some g =>
      show machF L f (if g.1.isEmpty then i+1 else i+2) _ _=machF L f' (if g.1.isEmpty then i+1 else i+2) _ _
      split
      ·exact IH _ _ _ (by omega) (by omega) (by omega)
      ·exact IH _ _ _ (by omega) (by omega) (by omega)
    ·split
     ·match S with
      | []=>rfl
      | _ :: _=>exact IH _ _ _ (by omega) (by omega) (by omega)
     ·rfl
  ·rfl
theorem mach_ex (L:List ByteArray):∃ F:Int→(List Nat × Option Nat)→List (List Nat × Option Nat)→Int,F=machF L (L.length+1):=⟨_,rfl⟩
noncomputable def mach (L:List ByteArray):Int→(List Nat × Option Nat)→List (List Nat × Option Nat)→Int:=Classical.choose (mach_ex L)
theorem mach_fun (L:List ByteArray):machF L (L.length+1)=mach L:=(Classical.choose_spec (mach_ex L)).symm
theorem mach_next (L:List ByteArray) {i:Int} (h0:0≤i) (t:List Nat × Option Nat) (S:List (List Nat × Option Nat)):mach L i t S=machF L (L.length+1+1) i t S:=by
 rw [← mach_fun]
 exact mach_same L _ _ i t S h0 (by omega) (by omega)
section
variable {L:List ByteArray} {i:Int} {t:List Nat × Option Nat} {S:List (List Nat × Option Nat)}
theorem mach_out (h:¬ (0≤i∧i < (L.length:Int))):mach L i t S=-1:=by
 rw [← mach_fun]
 unfold machF
 rw [if_neg h]
theorem mach_no (h0:0≤i) (h1:i < (L.length:Int)) (hc:isW (sgAt L i) [41]=true) (hm:mayB t=false):mach L i t S=-1:=by
 rw [mach_next L h0]
 unfold machF
 rw [if_pos ⟨h0,h1⟩,if_pos hc,hm]
 rfl
theorem mach_last {u:List Nat × Option Nat} (h0:0≤i) (h1:i < (L.length:Int)) (hc:isW (sgAt L i) [41]=true) (hm:mayB t=true):mach L i t [u]=i+1:=by
 rw [mach_next L h0]
 unfold machF
 rw [if_pos ⟨h0,h1⟩,if_pos hc,hm]
 rfl
theorem mach_shut {u v:List Nat × Option Nat} (h0:0≤i) (h1:i < (L.length:Int)) (hc:isW (sgAt L i) [41]=true) (hm:mayB t=true):mach L i t (u :: v :: S)=mach L (i+1) u (v :: S):=by
 rw [mach_next L h0]
 unfold machF
 rw [if_pos ⟨h0,h1⟩,if_pos hc,hm,mach_fun]
 rfl
theorem mach_bad (h0:0≤i) (h1:i < (L.length:Int)) (hc:isW (sgAt L i) [41]=false) (ho:isW (sgAt L i) [40]=true) (hn:openF (sgAt L (i+1)).toList (wantN t)=none):mach L i t S=-1:=by
 rw [mach_next L h0]
 unfold machF
 rw [if_pos ⟨h0,h1⟩,hc,ho,hn]
 rfl
theorem mach_open {g:List UInt8 × Nat × List Nat × Option Nat} (h0:0≤i) (h1:i < (L.length:Int)) (hc:isW (sgAt L i) [41]=false) (ho:isW (sgAt L i) [40]=true) (hn:openF (sgAt L (i+1)).toList (wantN t)=some g) :
  mach L i t S=mach L (if g.1.isEmpty then i+1 else i+2) (g.2.2.1,g.2.2.2) (nextL t :: S):=by
 rw [mach_next L h0]
 unfold machF
 rw [if_pos ⟨h0,h1⟩,hc,ho,hn,mach_fun]
 rfl
theorem mach_not (h0:0≤i) (h1:i < (L.length:Int)) (hc:isW (sgAt L i) [41]=false) (ho:isW (sgAt L i) [40]=false) (ha:aloneB (sgAt L i) (wantN t)=false):mach L i t S=-1:=by
 rw [mach_next L h0]
 unfold machF
 rw [if_pos ⟨h0,h1⟩,hc,ho,ha]
 rfl
theorem mach_one (h0:0≤i) (h1:i < (L.length:Int)) (hc:isW (sgAt L i) [41]=false) (ho:isW (sgAt L i) [40]=false) (ha:aloneB (sgAt L i) (wantN t)=true):mach L i t []=i+1:=by
 rw [mach_next L h0]
 unfold machF
 rw [if_pos ⟨h0,h1⟩,hc,ho,ha]
 rfl
theorem mach_go {u:List Nat × Option Nat} (h0:0≤i) (h1:i < (L.length:Int)) (hc:isW (sgAt L i) [41]=false) (ho:isW (sgAt L i) [40]=false) (ha:aloneB (sgAt L i) (wantN t)=true):mach L i t (u :: S)=mach L (i+1) (nextL t) (u :: S):=by
 rw [mach_next L h0]
 unfold machF
 rw [if_pos ⟨h0,h1⟩,hc,ho,ha,mach_fun]
 rfl
end
noncomputable def endW (L:List ByteArray) (w:Nat) (i:Int):Int :=
 if w=1 then fm L 0 i else if w=2 then fm L 2 i else if w=3 then fm L 1 i else if w=4 then nmE L i
 else if w=5 then isE L (fm L 5 (nmE L (isE L i [40]))) [41] else if w=6 then fm L 3 i else if w=7 then isE L (fm L 7 (isE L i [40])) [41] else -1
noncomputable def partsE (L:List ByteArray):List Nat→Int→Int
 | [],i=>i
 | p :: ps,i=>partsE L ps (endW L p i)
noncomputable def restE (L:List ByteArray) (r:Option Nat) (i:Int):Int :=
 match r with
 | none=>i
 | some p=>if p=1 then fm L 4 i else if p=4 then fm L 5 i else if p=3 then fm L 6 i else if p=6 then fm L 7 i else -1
noncomputable def closeE (L:List ByteArray) (t:List Nat × Option Nat) (i:Int):Int:=isE L (restE L t.2 (partsE L t.1 i)) [41]
section
variable {L:List ByteArray} {i:Int}
theorem endW_ends (w:Nat) (h:-1≤i):Ends L i (endW L w i):=by
 have hg:=fm_good L
 unfold endW
 have hF:Fw L i i:=fw_any h
 split
 ·exact hg.1 0 i (by decide)
 split
 ·exact hg.1 2 i (by decide)
 split
 ·exact hg.1 1 i (by decide)
 split
 ·exact nmE_ends hF
 split
 ·exact isE_ends (by decide) (hg.fw (by decide) (nmE_ends (isE_ends (by decide) hF).fw).fw)
 split
 ·exact hg.1 3 i (by decide)
 split
 ·exact isE_ends (by decide) (hg.fw (by decide) (isE_ends (by decide) hF).fw)
 ·exact ends_no
theorem endW_neg (w:Nat):endW L w (-1)=-1:=by
 have:=endW_ends (L:=L) (i:=-1) w (by decide)
 unfold Ends at this
 omega
theorem parts_neg:∀ ps,partsE L ps (-1)=-1
 | []=>rfl
 | p :: ps=>by
  unfold partsE
  rw [endW_neg]
  exact parts_neg ps
theorem rest_neg (r:Option Nat):restE L r (-1)=-1:=by
 unfold restE
 have hg:=fm_good L
 have key:∀ m,4≤m→fm L m (-1)=-1:=fun m hm=>by
  have:=hg.2 m (-1) hm (by decide)
  unfold Fw at this
  omega
 match r with
 | none=>rfl
 | some p =>
  show (if p=1 then fm L 4 (-1) else if p=4 then fm L 5 (-1) else if p=3 then fm L 6 (-1) else if p=6 then fm L 7 (-1) else -1)=-1
  rw [key 4 (by decide),key 5 (by decide),key 6 (by decide),key 7 (by decide)]
  simp only [ite_self]
theorem close_neg (t:List Nat × Option Nat):closeE L t (-1)=-1:=by
 unfold closeE
 rw [parts_neg,rest_neg]
 exact isE_neg (by decide) (by decide)
theorem sgAt_shut (h:isW (sgAt L i) [41]=true):0≤i∧i < (L.length:Int):=by
 by_cases hin:0≤i∧i < (L.length:Int)
 ·exact hin
 ·rw [sgAt_out hin,isW_nil _ (by decide)] at h
  exact absurd h (by decide)
theorem nmB_shut:nmB ⟨#[41]⟩=false:=by decide
theorem oneB_shut:oneB ⟨#[41]⟩=false:=by decide +kernel
theorem nmB_open:nmB ⟨#[40]⟩=false:=by decide
theorem nmE_open (h:isW (sgAt L i) [40]=true):nmE L i=-1:=by
 unfold nmE
 rw [isW_eq h,nmB_open]
 rfl
theorem open_shut (h:isW (sgAt L i) [41]=true):isW (sgAt L i) [40]=false:=by
 rw [isW_eq h]
 decide +kernel
theorem isE_not {c:List UInt8} (h:isW (sgAt L i) c=false):isE L i c=-1:=by
 unfold isE
 rw [h]
 rfl
theorem isE_is {c:List UInt8} (h:isW (sgAt L i) c=true):isE L i c=i+1:=by
 unfold isE
 rw [h]
 rfl
theorem fm_neg (m:Nat) (hm:4≤m):fm L m (-1)=-1:=by
 have:=(fm_good L).2 m (-1) hm (by decide)
 unfold Fw at this
 omega
theorem nmE_neg:nmE L (-1)=-1:=by
 unfold nmE
 rw [sgAt_out (by omega)]
 rfl
theorem endW_alone (w:Nat) (ho:isW (sgAt L i) [40]=false):endW L w i=if aloneB (sgAt L i) w then i+1 else -1:=by
 match w with
 | 0=>rfl
 | 1 =>
  show fm L 0 i=if oneB (sgAt L i) then i+1 else -1
  rw [fm_sum]
  unfold sumS
  rw [ho]
  rfl
 | 2 =>
  show fm L 2 i=-1
  rw [fm_deed2]
  unfold deedS
  rw [ho]
  rfl
 | 3 =>
  show fm L 1 i=-1
  rw [fm_deed]
  unfold deedS
  rw [ho]
  rfl
 | 4=>rfl
 | 5 =>
  show isE L (fm L 5 (nmE L (isE L i [40]))) [41]=-1
  rw [isE_not ho,nmE_neg,fm_neg 5 (by decide),isE_neg (by decide) (by decide)]
 | 6 =>
  show fm L 3 i=if nmB (sgAt L i) then i+1 else -1
  rw [fm_par]
  unfold parS
  rw [ho]
  rfl
 | 7 =>
  show isE L (fm L 7 (isE L i [40])) [41]=-1
  rw [isE_not ho,fm_neg 7 (by decide),isE_neg (by decide) (by decide)]
 | k+8 =>
  have hE:endW L (k+8) i=-1:=by
   unfold endW
   repeat rw [if_neg (by omega)]
  have hA:aloneB (sgAt L i) (k+8)=false:=by
   unfold aloneB
   repeat rw [if_neg (by omega)]
  rw [hE,hA]
  rfl
theorem endW_shut (w:Nat) (h:isW (sgAt L i) [41]=true):endW L w i=-1:=by
 rw [endW_alone w (open_shut h)]
 have:aloneB (sgAt L i) w=false:=by
  rw [isW_eq h]
  unfold aloneB
  split
  ·exact oneB_shut
  ·split
   ·exact nmB_shut
   ·rfl
 rw [this]
 rfl
theorem rest_step {p:Nat} (hp:p=1∨p=3∨p=4∨p=6) (h0:0≤i) (h1:i≤(L.length:Int)+1) (hc:isW (sgAt L i) [41]=false):restE L (some p) i=restE L (some p) (endW L p i):=by
 have hno:¬ (i < 0∨isW (sgAt L i) [41]=true):=by rw [hc];simp;omega
 obtain rfl | rfl | rfl | rfl:=hp
 ·show fm L (4+0) i=fm L (4+0) (fm L 0 i)
  rw [fm_many 0 (by decide) (by omega) h1]
  unfold manyS
  rw [if_neg hno]
  rfl
 ·show fm L (4+2) i=fm L (4+2) (fm L 1 i)
  rw [fm_many 2 (by decide) (by omega) h1]
  unfold manyS
  rw [if_neg hno]
  rfl
 ·show fm L (4+1) i=fm L (4+1) (nmE L i)
  rw [fm_many 1 (by decide) (by omega) h1]
  unfold manyS
  rw [if_neg hno]
  rfl
 ·show fm L (4+3) i=fm L (4+3) (fm L 3 i)
  rw [fm_many 3 (by decide) (by omega) h1]
  unfold manyS
  rw [if_neg hno]
  rfl
theorem rest_stop {p:Nat} (hp:p=1∨p=3∨p=4∨p=6) (h0:0≤i) (h1:i≤(L.length:Int)+1) (hc:isW (sgAt L i) [41]=true):restE L (some p) i=i:=by
 have hno:(i < 0∨isW (sgAt L i) [41]=true):=Or.inr hc
 obtain rfl | rfl | rfl | rfl:=hp
 ·show fm L (4+0) i=i
  rw [fm_many 0 (by decide) (by omega) h1]
  unfold manyS
  rw [if_pos hno]
 ·show fm L (4+2) i=i
  rw [fm_many 2 (by decide) (by omega) h1]
  unfold manyS
  rw [if_pos hno]
 ·show fm L (4+1) i=i
  rw [fm_many 1 (by decide) (by omega) h1]
  unfold manyS
  rw [if_pos hno]
 ·show fm L (4+3) i=i
  rw [fm_many 3 (by decide) (by omega) h1]
  unfold manyS
  rw [if_pos hno]
theorem sums_0 {j:Int} (h0:-1≤j) (h1:j≤(L.length:Int)+1):fm L 8 j=j:=by
 show fm L (8+0) j=j
 rw [fm_sums 0 (by decide) h0 h1]
 rfl
theorem sums_s (k:Nat) (hk:k+1≤3) {j:Int} (h0:-1≤j) (h1:j≤(L.length:Int)+1):fm L (8+(k+1)) j=fm L (8+k) (fm L 0 j):=by
 rw [fm_sums (k+1) hk h0 h1]
 show (if j < 0 then j else fm L (8+k) (fm L 0 j))=_
 split
 ·have e:j=-1:=by omega
  subst e
  have h:=endW_neg (L:=L) 1
  unfold endW at h
  rw [if_pos rfl] at h
  rw [h,fm_neg (8+k) (by omega)]
 ·rfl
theorem sums_2 {j:Int} (h0:-1≤j) (h1:j≤(L.length:Int)+1):fm L 10 j=fm L 0 (fm L 0 j):=by
 have e1:=(fm_good L).1 0 j (by decide)
 have e2:=(fm_good L).1 0 (fm L 0 j) (by decide)
 unfold Ends at e1 e2
 show fm L (8+(1+1)) j=_
 rw [sums_s 1 (by decide) h0 h1]
 show fm L (8+(0+1)) (fm L 0 j)=_
 rw [sums_s 0 (by decide) (by omega) (by omega)]
 exact sums_0 (by omega) (by omega)
theorem sums_3 {j:Int} (h0:-1≤j) (h1:j≤(L.length:Int)+1):fm L 11 j=fm L 0 (fm L 0 (fm L 0 j)):=by
 have e1:=(fm_good L).1 0 j (by decide)
 unfold Ends at e1
 show fm L (8+(2+1)) j=_
 rw [sums_s 2 (by decide) h0 h1]
 exact sums_2 (by omega) (by omega)
end
end Go.Proofs.YtdgihicpjonjgaaGreatDoor
namespace Go.Proofs.YtdgihicpjonjgaaGreatDoor
open Go.RowKit
section
variable {L:List ByteArray} {i:Int}
noncomputable def openE (L:List ByteArray) (i:Int) (g:Option (List UInt8 × Nat × List Nat × Option Nat)):Int :=
 match g with
 | none=>-1
 | some g=>closeE L (g.2.2.1,g.2.2.2) (if g.1.isEmpty then i+1 else i+2)
theorem lit_list (c:List UInt8):(⟨c.toArray⟩:ByteArray).toList=c:=by rw [ByteArray.toList_eq]
theorem ne_list {s:ByteArray} {c:List UInt8} (h:s≠⟨c.toArray⟩):(c == s.toList)=false:=by
 cases e:(c == s.toList)
 ·rfl
 ·rw [beq_iff_eq] at e
  exact absurd (bytes_ext (by rw [e,ByteArray.toList_eq])) h
theorem open_sum (ho:isW (sgAt L i) [40]=true):endW L 1 i=openE L i (openF (sgAt L (i+1)).toList 1):=by
 obtain ⟨h0,h1⟩:=sgAt_open ho
 have b0:(-1:Int)≤i+2:=by omega
 have b1:i+2≤(L.length:Int)+1:=by omega
 have e0:endW L 1 i=sumS L (fm L) i:=fm_sum L i
 rw [e0]
 by_cases hop:opB (sgAt L (i+1))=true
 ·rw [sumS_op ho hop,sums_2 b0 b1]
  have hm:=(opB_iff _).mp hop
  unfold opsL at hm
  simp only [List.mem_cons,List.not_mem_nil,or_false] at hm
  rcases hm with h | h | h | h | h | h <;> rw [h] <;> rw [show ∀ c:List UInt8,(⟨c.toArray⟩:ByteArray).toList=c from lit_list] <;> rfl
 rw [Bool.not_eq_true] at hop
 by_cases hget:sgAt L (i+1)=⟨#[103,101,116]⟩
 ·rw [sumS_get ho hget,hget,lit_list [103,101,116],sums_2 b0 b1]
  rfl
 by_cases htget:sgAt L (i+1)=⟨#[116,103,101,116]⟩
 ·rw [sumS_tget ho htget,htget,lit_list [116,103,101,116],sums_2 b0 b1]
  rfl
 by_cases hfn:sgAt L (i+1)=⟨#[102,110]⟩
 ·rw [sumS_fn ho hfn,hfn,lit_list [102,110]]
  rfl
 by_cases hcall:sgAt L (i+1)=⟨#[99,97,108,108]⟩
 ·rw [sumS_call ho hcall,hcall,lit_list [99,97,108,108]]
  rfl
 by_cases hthing:sgAt L (i+1)=⟨#[116,104,105,110,103]⟩
 ·rw [sumS_thing ho hthing,hthing,lit_list [116,104,105,110,103]]
  rfl
 by_cases hjoin:sgAt L (i+1)=⟨#[106,111,105,110]⟩
 ·rw [sumS_join ho hjoin,hjoin,lit_list [106,111,105,110]]
  rfl
 by_cases htable:sgAt L (i+1)=⟨#[116,97,98,108,101]⟩
 ·rw [sumS_table ho htable,htable,lit_list [116,97,98,108,101]]
  rfl
 by_cases hhget:sgAt L (i+1)=⟨#[104,103,101,116]⟩
 ·rw [sumS_hget ho hhget,hhget,lit_list [104,103,101,116]]
  rfl
 rw [sumS_not ho hop hget htget hfn hcall hthing hjoin htable hhget]
 have hn:openF (sgAt L (i+1)).toList 1=none:=by
  have hq:∀ c∈opsL,sgAt L (i+1)≠c:=fun c hc e=>by
   rw [(opB_iff _).mpr (e▸hc)] at hop
   exact absurd hop (by decide)
  have hplus:sgAt L (i+1)≠⟨#[43]⟩:=hq _ (by simp [opsL])
  have hminus:sgAt L (i+1)≠⟨#[45]⟩:=hq _ (by simp [opsL])
  have htimes:sgAt L (i+1)≠⟨#[42]⟩:=hq _ (by simp [opsL])
  have hless:sgAt L (i+1)≠⟨#[60]⟩:=hq _ (by simp [opsL])
  have hsame:sgAt L (i+1)≠⟨#[61]⟩:=hq _ (by simp [opsL])
  have hcat:sgAt L (i+1)≠⟨#[38]⟩:=hq _ (by simp [opsL])
  unfold openF
  rw [List.find?_eq_none]
  intro x hx
  unfold formL at hx
  simp only [List.mem_cons,List.not_mem_nil,or_false] at hx
  rcases hx with rfl | rfl | rfl | rfl | rfl | rfl | rfl | rfl | rfl | rfl | rfl | rfl | rfl | rfl | rfl | rfl | rfl | rfl | rfl | rfl | rfl | rfl | rfl | rfl | rfl | rfl | rfl | rfl | rfl | rfl | rfl | rfl | rfl | rfl <;> simp only [hitB,fitB,ne_list hplus (c:=[43]),ne_list hminus (c:=[45]),ne_list htimes (c:=[42]),ne_list hless (c:=[60]),ne_list hsame (c:=[61]),ne_list hcat (c:=[38]),ne_list hget (c:=[103,101,116]),ne_list htget (c:=[116,103,101,116]),ne_list hfn (c:=[102,110]),ne_list hcall (c:=[99,97,108,108]),ne_list hthing (c:=[116,104,105,110,103]),ne_list hjoin (c:=[106,111,105,110]),ne_list htable (c:=[116,97,98,108,101]),ne_list hhget (c:=[104,103,101,116])] <;> first | exact Bool.false_ne_true | decide
 rw [hn]
 rfl
theorem open_rule (ho:isW (sgAt L i) [40]=true):endW L 2 i=openE L i (openF (sgAt L (i+1)).toList 2):=by
 obtain ⟨h0,h1⟩:=sgAt_open ho
 have b0:(-1:Int)≤i+2:=by omega
 have b1:i+2≤(L.length:Int)+1:=by omega
 have hnm:=nmE_ends (L:=L) (fw_any b0)
 unfold Ends at hnm
 have n0:-1≤nmE L (i+2):=by omega
 have n1:nmE L (i+2)≤(L.length:Int)+1:=by omega
 clear hnm
 have e0:endW L 2 i=deedS L (fm L) false i:=fm_deed2 L i
 rw [e0]
 unfold deedS
 rw [if_pos ho]
 generalize sgAt L (i+1)=s
 by_cases hlet:s=⟨#[108,101,116]⟩
 ·rw [hlet,decB_let,lit_list [108,101,116]]
  rfl
 by_cases htake:s=⟨#[116,97,107,101]⟩
 ·rw [htake,decB_take,lit_list [116,97,107,101]]
  rfl
 by_cases hhidden:s=⟨#[104,105,100,100,101,110]⟩
 ·rw [hhidden,decB_hidden,lit_list [104,105,100,100,101,110]]
  rfl
 by_cases hvars:s=⟨#[118,97,114,115]⟩
 ·rw [hvars,decB_vars,lit_list [118,97,114,115]]
  rfl
 by_cases hset:s=⟨#[115,101,116]⟩
 ·rw [hset,decB_set,deedH_set,lit_list [115,101,116]]
  rfl
 by_cases hdo:s=⟨#[100,111]⟩
 ·rw [hdo,decB_do,deedH_do,lit_list [100,111]]
  rfl
 by_cases hif:s=⟨#[105,102]⟩
 ·rw [hif,decB_if,deedH_if,lit_list [105,102]]
  rfl
 by_cases hwhile:s=⟨#[119,104,105,108,101]⟩
 ·rw [hwhile,decB_while,deedH_while,lit_list [119,104,105,108,101]]
  rfl
 by_cases hfor:s=⟨#[102,111,114]⟩
 ·rw [hfor,decB_for,deedH_for,lit_list [102,111,114],sums_2 n0 n1]
  rfl
 by_cases hsay:s=⟨#[115,97,121]⟩
 ·rw [hsay,decB_say,deedH_say,lit_list [115,97,121]]
  rfl
 by_cases hback:s=⟨#[98,97,99,107]⟩
 ·rw [hback,decB_back,deedH_back,lit_list [98,97,99,107]]
  rfl
 by_cases hleave:s=⟨#[108,101,97,118,101]⟩
 ·rw [hleave,decB_leave,deedH_leave,lit_list [108,101,97,118,101]]
  rfl
 by_cases hnext:s=⟨#[110,101,120,116]⟩
 ·rw [hnext,decB_next,deedH_next,lit_list [110,101,120,116]]
  rfl
 by_cases hput:s=⟨#[112,117,116]⟩
 ·rw [hput,decB_put,deedH_put,lit_list [112,117,116],sums_3 b0 b1]
  rfl
 by_cases hrun:s=⟨#[114,117,110]⟩
 ·rw [hrun,decB_run,deedH_run,lit_list [114,117,110]]
  rfl
 by_cases hhput:s=⟨#[104,112,117,116]⟩
 ·rw [hhput,decB_hput,deedH_hput,lit_list [104,112,117,116],sums_2 n0 n1]
  rfl
 by_cases htput:s=⟨#[116,112,117,116]⟩
 ·rw [htput,decB_tput,deedH_tput,lit_list [116,112,117,116],sums_3 b0 b1]
  rfl
 rw [deedH_not hlet hset htake hhidden hvars hdo hif hwhile hfor hsay hback hrun hleave hnext hput htput hhput,ite_self]
 have hn:openF s.toList 2=none:=by
  unfold openF
  rw [List.find?_eq_none]
  intro x hx
  unfold formL at hx
  simp only [List.mem_cons,List.not_mem_nil,or_false] at hx
  rcases hx with rfl | rfl | rfl | rfl | rfl | rfl | rfl | rfl | rfl | rfl | rfl | rfl | rfl | rfl | rfl | rfl | rfl | rfl | rfl | rfl | rfl | rfl | rfl | rfl | rfl | rfl | rfl | rfl | rfl | rfl | rfl | rfl | rfl | rfl <;> simp only [hitB,fitB,ne_list hlet (c:=[108,101,116]),ne_list htake (c:=[116,97,107,101]),ne_list hhidden (c:=[104,105,100,100,101,110]),ne_list hvars (c:=[118,97,114,115]),ne_list hset (c:=[115,101,116]),ne_list hdo (c:=[100,111]),ne_list hif (c:=[105,102]),ne_list hwhile (c:=[119,104,105,108,101]),ne_list hfor (c:=[102,111,114]),ne_list hsay (c:=[115,97,121]),ne_list hback (c:=[98,97,99,107]),ne_list hleave (c:=[108,101,97,118,101]),ne_list hnext (c:=[110,101,120,116]),ne_list hput (c:=[112,117,116]),ne_list hrun (c:=[114,117,110]),ne_list hhput (c:=[104,112,117,116]),ne_list htput (c:=[116,112,117,116])] <;> first | exact Bool.false_ne_true | decide
 rw [hn]
 rfl
theorem open_deed (ho:isW (sgAt L i) [40]=true):endW L 3 i=openE L i (openF (sgAt L (i+1)).toList 3):=by
 obtain ⟨h0,h1⟩:=sgAt_open ho
 have b0:(-1:Int)≤i+2:=by omega
 have b1:i+2≤(L.length:Int)+1:=by omega
 have hnm:=nmE_ends (L:=L) (fw_any b0)
 unfold Ends at hnm
 have n0:-1≤nmE L (i+2):=by omega
 have n1:nmE L (i+2)≤(L.length:Int)+1:=by omega
 clear hnm
 have e0:endW L 3 i=deedS L (fm L) true i:=fm_deed L i
 rw [e0]
 unfold deedS
 rw [if_pos ho]
 generalize sgAt L (i+1)=s
 by_cases hlet:s=⟨#[108,101,116]⟩
 ·rw [hlet,decB_let,deedH_let,lit_list [108,101,116]]
  rfl
 by_cases htake:s=⟨#[116,97,107,101]⟩
 ·rw [htake,decB_take,deedH_take,lit_list [116,97,107,101]]
  rfl
 by_cases hhidden:s=⟨#[104,105,100,100,101,110]⟩
 ·rw [hhidden,decB_hidden,deedH_hidden,lit_list [104,105,100,100,101,110]]
  rfl
 by_cases hvars:s=⟨#[118,97,114,115]⟩
 ·rw [hvars,decB_vars,deedH_vars,lit_list [118,97,114,115]]
  rfl
 by_cases hset:s=⟨#[115,101,116]⟩
 ·rw [hset,decB_set,deedH_set,lit_list [115,101,116]]
  rfl
 by_cases hdo:s=⟨#[100,111]⟩
 ·rw [hdo,decB_do,deedH_do,lit_list [100,111]]
  rfl
 by_cases hif:s=⟨#[105,102]⟩
 ·rw [hif,decB_if,deedH_if,lit_list [105,102]]
  rfl
 by_cases hwhile:s=⟨#[119,104,105,108,101]⟩
 ·rw [hwhile,decB_while,deedH_while,lit_list [119,104,105,108,101]]
  rfl
 by_cases hfor:s=⟨#[102,111,114]⟩
 ·rw [hfor,decB_for,deedH_for,lit_list [102,111,114],sums_2 n0 n1]
  rfl
 by_cases hsay:s=⟨#[115,97,121]⟩
 ·rw [hsay,decB_say,deedH_say,lit_list [115,97,121]]
  rfl
 by_cases hback:s=⟨#[98,97,99,107]⟩
 ·rw [hback,decB_back,deedH_back,lit_list [98,97,99,107]]
  rfl
 by_cases hleave:s=⟨#[108,101,97,118,101]⟩
 ·rw [hleave,decB_leave,deedH_leave,lit_list [108,101,97,118,101]]
  rfl
 by_cases hnext:s=⟨#[110,101,120,116]⟩
 ·rw [hnext,decB_next,deedH_next,lit_list [110,101,120,116]]
  rfl
 by_cases hput:s=⟨#[112,117,116]⟩
 ·rw [hput,decB_put,deedH_put,lit_list [112,117,116],sums_3 b0 b1]
  rfl
 by_cases hrun:s=⟨#[114,117,110]⟩
 ·rw [hrun,decB_run,deedH_run,lit_list [114,117,110]]
  rfl
 by_cases hhput:s=⟨#[104,112,117,116]⟩
 ·rw [hhput,decB_hput,deedH_hput,lit_list [104,112,117,116],sums_2 n0 n1]
  rfl
 by_cases htput:s=⟨#[116,112,117,116]⟩
 ·rw [htput,decB_tput,deedH_tput,lit_list [116,112,117,116],sums_3 b0 b1]
  rfl
 rw [deedH_not hlet hset htake hhidden hvars hdo hif hwhile hfor hsay hback hrun hleave hnext hput htput hhput,ite_self]
 have hn:openF s.toList 3=none:=by
  unfold openF
  rw [List.find?_eq_none]
  intro x hx
  unfold formL at hx
  simp only [List.mem_cons,List.not_mem_nil,or_false] at hx
  rcases hx with rfl | rfl | rfl | rfl | rfl | rfl | rfl | rfl | rfl | rfl | rfl | rfl | rfl | rfl | rfl | rfl | rfl | rfl | rfl | rfl | rfl | rfl | rfl | rfl | rfl | rfl | rfl | rfl | rfl | rfl | rfl | rfl | rfl | rfl <;> simp only [hitB,fitB,ne_list hlet (c:=[108,101,116]),ne_list htake (c:=[116,97,107,101]),ne_list hhidden (c:=[104,105,100,100,101,110]),ne_list hvars (c:=[118,97,114,115]),ne_list hset (c:=[115,101,116]),ne_list hdo (c:=[100,111]),ne_list hif (c:=[105,102]),ne_list hwhile (c:=[119,104,105,108,101]),ne_list hfor (c:=[102,111,114]),ne_list hsay (c:=[115,97,121]),ne_list hback (c:=[98,97,99,107]),ne_list hleave (c:=[108,101,97,118,101]),ne_list hnext (c:=[110,101,120,116]),ne_list hput (c:=[112,117,116]),ne_list hrun (c:=[114,117,110]),ne_list hhput (c:=[104,112,117,116]),ne_list htput (c:=[116,112,117,116])] <;> first | exact Bool.false_ne_true | decide
 rw [hn]
 rfl
theorem endW_open (w:Nat) (hw:w≤7) (ho:isW (sgAt L i) [40]=true):endW L w i=openE L i (openF (sgAt L (i+1)).toList w):=by
 obtain rfl | rfl | rfl | rfl | rfl | rfl | rfl | rfl:w=0∨w=1∨w=2∨w=3∨w=4∨w=5∨w=6∨w=7:=by omega
 ·rfl
 ·exact open_sum ho
 ·exact open_rule ho
 ·exact open_deed ho
 ·exact nmE_open ho
 ·show isE L (fm L 5 (nmE L (isE L i [40]))) [41]=_
  rw [isE_is ho]
  rfl
 ·show fm L 3 i=_
  rw [fm_par]
  unfold parS
  rw [if_pos ho]
  rfl
 ·show isE L (fm L 7 (isE L i [40])) [41]=_
  rw [isE_is ho]
  rfl
end
def okL (t:List Nat × Option Nat):Prop:=(∀ p∈t.1,p≤7)∧(t.2=none∨t.2=some 1∨t.2=some 3∨t.2=some 4∨t.2=some 6)
theorem okL_next {t:List Nat × Option Nat} (h:okL t):okL (nextL t):=⟨fun p hp=>h.1 p (List.mem_of_mem_tail hp),h.2⟩
theorem okL_want {t:List Nat × Option Nat} (h:okL t):wantN t≤7:=by
 obtain ⟨ps,r⟩:=t
 cases ps with
 | nil =>
  obtain h2:=h.2
  simp only at h2
  rcases h2 with rfl | rfl | rfl | rfl | rfl <;> decide
 | cons p ps=>exact h.1 p (by simp)
theorem formL_ok:∀ g∈formL,okL (g.2.2.1,g.2.2.2):=by
 intro g hg
 unfold formL at hg
 simp only [List.mem_cons,List.not_mem_nil,or_false] at hg
 rcases hg with rfl | rfl | rfl | rfl | rfl | rfl | rfl | rfl | rfl | rfl | rfl | rfl | rfl | rfl | rfl | rfl | rfl | rfl | rfl | rfl | rfl | rfl | rfl | rfl | rfl | rfl | rfl | rfl | rfl | rfl | rfl | rfl | rfl | rfl <;> exact ⟨by decide,by decide⟩
theorem openF_ok {h:List UInt8} {w:Nat} {g:List UInt8 × Nat × List Nat × Option Nat} (hg:openF h w=some g):okL (g.2.2.1,g.2.2.2):=formL_ok g (List.mem_of_find?_eq_some hg)
section
variable {L:List ByteArray}
noncomputable def outE (L:List ByteArray) (e:Int) (t:List Nat × Option Nat) (S:List (List Nat × Option Nat)):Int :=
 if e < 0 then -1 else match S with
  | []=>e
  | _ :: _=>mach L e t S
theorem close_out {i:Int} {t:List Nat × Option Nat} (ht:okL t) (h0:0≤i) (hout:(L.length:Int)≤i) (hi:i≤(L.length:Int)+1):closeE L t i=-1:=by
 have hE:∀ w,endW L w i=-1:=fun w=>by
  have:=endW_ends (L:=L) (i:=i) w (by omega)
  unfold Ends at this
  omega
 have hs:∀ c:List UInt8,c≠[]→isW (sgAt L i) c=false:=fun c hc=>by rw [sgAt_out (by omega)];exact isW_nil c hc
 obtain ⟨ps,r⟩:=t
 cases ps with
 | cons p ps =>
  show isE L (restE L r (partsE L ps (endW L p i))) [41]=-1
  rw [hE,parts_neg,rest_neg]
  exact isE_neg (by decide) (by decide)
 | nil =>
  show isE L (restE L r i) [41]=-1
  cases r with
  | none=>exact isE_not (hs _ (by decide))
  | some p =>
   have hp:p=1∨p=3∨p=4∨p=6:=by
    have:=ht.2
    simpa using this
   rw [rest_step hp h0 hi (hs _ (by decide)),hE,rest_neg]
   exact isE_neg (by decide) (by decide)
theorem close_shut {i:Int} {t:List Nat × Option Nat} (ht:okL t) (hc:isW (sgAt L i) [41]=true):closeE L t i=if mayB t then i+1 else -1:=by
 obtain ⟨h0,h1⟩:=sgAt_shut hc
 obtain ⟨ps,r⟩:=t
 cases ps with
 | cons p ps =>
  show isE L (restE L r (partsE L ps (endW L p i))) [41]=-1
  rw [endW_shut p hc,parts_neg,rest_neg]
  exact isE_neg (by decide) (by decide)
 | nil =>
  show isE L (restE L r i) [41]=i+1
  cases r with
  | none=>exact isE_is hc
  | some p =>
   have hp:p=1∨p=3∨p=4∨p=6:=by
    have:=ht.2
    simpa using this
   rw [rest_stop hp h0 (by omega) hc]
   exact isE_is hc
theorem close_part {i:Int} {t:List Nat × Option Nat} (ht:okL t) (h0:0≤i) (h1:i < (L.length:Int)) (hc:isW (sgAt L i) [41]=false):closeE L t i=closeE L (nextL t) (endW L (wantN t) i):=by
 obtain ⟨ps,r⟩:=t
 cases ps with
 | cons p ps=>rfl
 | nil =>
  cases r with
  | none =>
   show isE L i [41]=isE L (-1) [41]
   rw [isE_not hc,isE_neg (by decide) (by decide)]
  | some p =>
   have hp:p=1∨p=3∨p=4∨p=6:=by
    have:=ht.2
    simpa using this
   show isE L (restE L (some p) i) [41]=isE L (restE L (some p) (endW L p i)) [41]
   rw [rest_step hp h0 (by omega) hc]
theorem mach_main:∀ n:Nat,
  (∀ i t S,0≤i→i < (L.length:Int)→(L.length:Int) - i < (n:Int)→isW (sgAt L i) [41]=false→okL t→mach L i t S=outE L (endW L (wantN t) i) (nextL t) S) ∧
  (∀ i t u S,0≤i→i≤(L.length:Int)+1→(L.length:Int) - i < (n:Int)→okL t→mach L i t (u :: S)=outE L (closeE L t i) u S)
 | 0=>by
  refine ⟨fun i t S h0 h1 hn=>by omega,fun i t u S h0 h1 hn ht=>?_⟩
  rw [mach_out (by omega),close_out ht h0 (by omega) h1]
  rfl
 | n+1=>by
  obtain ⟨_,IC⟩:=mach_main n
  have part:∀ i t S,0≤i→i < (L.length:Int)→(L.length:Int) - i < ((n+1:Nat):Int)→isW (sgAt L i) [41]=false→okL t→mach L i t S=outE L (endW L (wantN t) i) (nextL t) S:=fun i t S h0 h1 hn hc ht=>by
   cases ho:isW (sgAt L i) [40]
   ·rw [endW_alone _ ho]
    cases ha:aloneB (sgAt L i) (wantN t)
    ·rw [mach_not h0 h1 hc ho ha]
     rfl
    ·simp only [if_true]
     unfold outE
     rw [if_neg (by omega)]
     cases S with
     | nil=>exact mach_one h0 h1 hc ho ha
     | cons u S=>exact mach_go h0 h1 hc ho ha
   ·rw [endW_open _ (okL_want ht) ho]
    cases hg:openF (sgAt L (i+1)).toList (wantN t) with
    | none =>
     rw [mach_bad h0 h1 hc ho hg]
     rfl
    | some g =>
     rw [mach_open h0 h1 hc ho hg]
     have hl:=openF_ok hg
     show _=outE L (closeE L (g.2.2.1,g.2.2.2) (if g.1.isEmpty then i+1 else i+2)) (nextL t) S
     split
     ·exact IC _ _ _ _ (by omega) (by omega) (by omega) hl
     ·exact IC _ _ _ _ (by omega) (by omega) (by omega) hl
  refine ⟨part,fun i t u S h0 h1 hn ht=>?_⟩
  by_cases hin:i < (L.length:Int)
  ·cases hc:isW (sgAt L i) [41]
   ·rw [part i t (u :: S) h0 hin hn hc ht,close_part ht h0 hin hc]
    have hE:=endW_ends (L:=L) (i:=i) (wantN t) (by omega)
    generalize endW L (wantN t) i=e at hE
    unfold Ends at hE
    by_cases he:e=-1
    ·subst he
     rw [close_neg]
     rfl
    ·unfold outE
     rw [if_neg (by omega)]
     exact IC e (nextL t) u S (by omega) (by omega) (by omega) (okL_next ht)
   ·rw [close_shut ht hc]
    cases hm:mayB t
    ·rw [mach_no h0 hin hc hm]
     rfl
    ·simp only [if_true]
     unfold outE
     rw [if_neg (by omega)]
     cases S with
     | nil=>exact mach_last h0 hin hc hm
     | cons v S=>exact mach_shut h0 hin hc hm
  ·rw [mach_out (by omega),close_out ht h0 (by omega) h1]
   rfl
theorem mach_whole (w:Nat) (hw:w≤7) (i:Int) (hi:w=1∨w=3):mach L i ([w],none) []=endW L w i:=by
 by_cases hin:0≤i∧i < (L.length:Int)
 ·obtain ⟨h0,h1⟩:=hin
  cases hc:isW (sgAt L i) [41]
  ·rw [(mach_main (L:=L) (L.length+1)).1 i ([w],none) [] h0 h1 (by omega) hc ⟨fun p hp=>by rw [List.mem_singleton] at hp;omega,Or.inl rfl⟩]
   show outE L (endW L w i) _ []=_
   have hE:=endW_ends (L:=L) (i:=i) w (by omega)
   generalize endW L w i=e at hE
   unfold Ends at hE
   unfold outE
   split
   ·omega
   ·rfl
  ·rw [mach_no h0 h1 hc rfl,endW_shut w hc]
 ·rw [mach_out hin]
  have hE:Ends L i (endW L w i):=by
   rcases hi with rfl | rfl
   ·exact (fm_good L).1 0 i (by decide)
   ·exact (fm_good L).1 1 i (by decide)
  unfold Ends at hE
  omega
end
end Go.Proofs.YtdgihicpjonjgaaGreatDoor
namespace Go.Proofs.YtdgihicpjonjgaaGreatDoor
open Go.RowKit
def ItV (L:List ByteArray) (i:Int):Prop:=fm L 0 i≠-1∨fm L 1 i≠-1
section
variable {L:List ByteArray} {i j e x:Int}
theorem sum_item (h:fm L 0 i≠-1):itemE L i=fm L 0 i:=by
 rcases (fm_fine L).2.1 0 i (by decide) with hk | hk
 ·exact absurd hk h
 ·exact hk.2
theorem par_item (h:fm L 3 i≠-1):itemE L i=fm L 3 i:=by
 rcases (fm_fine L).2.1 3 i (by decide) with hk | hk
 ·exact absurd hk h
 ·exact hk.2
theorem rule_deed (h:fm L 2 i≠-1):fm L 1 i=fm L 2 i:=by
 rw [fm_deed2] at h ⊢
 rw [fm_deed]
 unfold deedS at h ⊢
 split
 ·rename_i ho
  rw [if_pos ho] at h
  by_cases hd:(decB (sgAt L (i+1)) && !false)=true
  ·rw [if_pos hd] at h
   exact absurd rfl h
  ·rw [if_neg hd,if_neg (by simp)]
 ·rename_i ho
  rw [if_neg ho] at h
theorem ItV.ends (h:ItV L i):0≤i∧i < itemE L i∧itemE L i≤(L.length:Int):=by
 rcases h with h | h
 ·have hE:=fm_ends (L:=L) 0 (by decide) i
  rw [sum_item h]
  unfold Ends at hE
  omega
 ·have hE:=fm_ends (L:=L) 1 (by decide) i
  rw [deed_item h]
  unfold Ends at hE
  omega
theorem ItV.not41 (h:ItV L i):isW (sgAt L i) [41]=false:=by
 cases hc:isW (sgAt L i) [41]
 ·rfl
 ·exfalso
  rcases h with h | h
  ·exact h (endW_shut 1 hc)
  ·exact h (endW_shut 3 hc)
theorem endW_it {w:Nat} (hw:w=1∨w=2∨w=3) (h:endW L w i≠-1):ItV L i∧itemE L i=endW L w i:=by
 rcases hw with rfl | rfl | rfl
 ·exact ⟨Or.inl h,sum_item h⟩
 ·have h2:fm L 2 i≠-1:=h
  have h1:=rule_deed h2
  exact ⟨Or.inr (by rw [h1];exact h2),by rw [deed_item (by rw [h1];exact h2),h1];rfl⟩
 ·exact ⟨Or.inr h,deed_item h⟩
end
def chainV (L:List ByteArray):Nat→Int→Int→Prop
 | 0,i,e=>i=e
 | k+1,i,e=>ItV L i∧chainV L k (itemE L i) e
def chainP (L:List ByteArray):Nat→Int→List Int
 | 0,_=>[]
 | k+1,i=>i :: chainP L k (itemE L i)
section
variable {L:List ByteArray} {i j e x:Int}
theorem chainV_ends:∀ k i,chainV L k i e→0≤e→0≤i∧i+(k:Int)≤e
 | 0,i,h,he=>by
  have:i=e:=h
  omega
 | k+1,i,h,he=>by
  have h1:=h.1.ends
  have h2:=chainV_ends k _ h.2 he
  omega
theorem chainV_more:∀ k m i j,chainV L k i j→chainV L m j e→chainV L (k+m) i e
 | 0,m,i,j,h,g=>by
  have:i=j:=h
  subst this
  rw [Nat.zero_add]
  exact g
 | k+1,m,i,j,h,g=>by
  rw [show k+1+m=(k+m)+1 by omega]
  exact ⟨h.1,chainV_more k m _ j h.2 g⟩
theorem chain_deeds:∀ k i,chainD L k i e→chainV L k i e∧∀ p∈chainP L k i,fm L 1 p≠-1
 | 0,i,h=>⟨h,fun p hp=>by cases hp⟩
 | k+1,i,h=>by
  have h1:=chain_deeds k _ h.2
  have he:=deed_item h.1
  refine ⟨⟨Or.inr h.1,by rw [he];exact h1.1⟩,fun p hp=>?_⟩
  rcases List.mem_cons.mp hp with rfl | hp
  ·exact h.1
  ·rw [he] at hp
   exact h1.2 p hp
theorem plcs_chain:∀ k f i,chainV L k i e→0≤e→e≤(L.length:Int)→endB L e→k≤f→plcs L f i=chainP L k i
 | 0,f,i,h,he,_,hb,hk=>by
  have hi:i=e:=h
  subst hi
  cases f with
  | zero=>rfl
  | succ f =>
   unfold plcs
   rw [if_neg]
   ·rfl
   ·rintro ⟨a,b,c⟩
    rcases hb with hb | hb
    ·omega
    ·rw [hb] at c
     exact absurd c (by decide)
 | k+1,f,i,h,he,hl,hb,hk=>by
  obtain ⟨f,rfl⟩:∃ g,f=g+1:=⟨f - 1,by omega⟩
  have h1:=h.1.ends
  unfold plcs
  rw [if_pos ⟨h1.1,by omega,h.1.not41⟩,plcs_chain k f _ h.2 he hl hb (by omega)]
  rfl
theorem plc_chain {k:Nat} (h:chainV L k i e) (he:0≤e) (hl:e≤(L.length:Int)) (hb:endB L e):plc L i=chainP L k i:=by
 have h1:=chainV_ends k i h he
 exact plcs_chain k _ i h he hl hb (by omega)
theorem chainP_lt:∀ k i,chainV L k i e→0≤e→∀ p∈chainP L k i,i≤p∧p < e∧ItV L p∧itemE L p≤e
 | 0,i,_,_,p,hp=>by cases hp
 | k+1,i,h,he,p,hp=>by
  have h1:=h.1.ends
  have h2:=chainV_ends k _ h.2 he
  rcases List.mem_cons.mp hp with rfl | hp
  ·exact ⟨Int.le_refl _,by omega,h.1,by omega⟩
  ·have:=chainP_lt k _ h.2 he p hp
   exact ⟨by omega,this.2⟩
theorem parts_chain:∀ (ps:List Nat) (i:Int),(∀ p∈ps,p=1∨p=2∨p=3)→partsE L ps i≠-1→chainV L ps.length i (partsE L ps i)
 | [],i,_,_=>rfl
 | p :: ps,i,hp,h=>by
  have hne:endW L p i≠-1:=fun he=>by
   have:partsE L (p :: ps) i=partsE L ps (endW L p i):=rfl
   rw [this,he,parts_neg] at h
   exact h rfl
  have h1:=endW_it (hp p (by simp)) hne
  refine ⟨h1.1,?_⟩
  rw [h1.2]
  exact parts_chain ps _ (fun q hq=>hp q (by simp [hq])) h
theorem rest_chain {p:Nat} (hp:p=1∨p=3):∀ n i,farN L i≤n→0≤i→i≤(L.length:Int)+1→restE L (some p) i≠-1→∃ k,chainV L k i (restE L (some p) i)
 | 0,i,hf,h0,h1,_=>by have:=far_pos (L:=L) h0 h1;omega
 | n+1,i,hf,h0,h1,h=>by
  have hp4:p=1∨p=3∨p=4∨p=6:=by omega
  cases hc:isW (sgAt L i) [41]
  ·rw [rest_step hp4 h0 h1 hc] at h ⊢
   have hne:endW L p i≠-1:=fun he=>by
    rw [he,rest_neg] at h
    exact h rfl
   have hE:=endW_ends (L:=L) (i:=i) p (by omega)
   have hfe:=far_ends hE h1
   have h2:=endW_it (by omega) hne
   unfold Ends at hE
   obtain ⟨k,hk⟩:=rest_chain hp n (endW L p i) (by omega) (by omega) (by omega) h
   exact ⟨k+1,h2.1,by rw [h2.2];exact hk⟩
  ·rw [rest_stop hp4 h0 h1 hc]
   exact ⟨0,rfl⟩
theorem close_pos {t:List Nat × Option Nat} (h:closeE L t i≠-1):closeE L t i=restE L t.2 (partsE L t.1 i)+1∧0≤restE L t.2 (partsE L t.1 i)∧restE L t.2 (partsE L t.1 i) < (L.length:Int)∧isW (sgAt L (restE L t.2 (partsE L t.1 i))) [41]=true :=
 isE_pos (by decide) h
theorem ItV.form (h:ItV L i) (ho:isW (sgAt L i) [40]=true):∃ w g,(w=1∨w=3)∧openF (sgAt L (i+1)).toList w=some g∧closeE L (g.2.2.1,g.2.2.2) (i+2)≠-1∧itemE L i=closeE L (g.2.2.1,g.2.2.2) (i+2):=by
 have key:∀ w,(w=1∨w=3)→endW L w i≠-1→itemE L i=endW L w i→∃ w g,(w=1∨w=3)∧openF (sgAt L (i+1)).toList w=some g∧closeE L (g.2.2.1,g.2.2.2) (i+2)≠-1∧itemE L i=closeE L (g.2.2.1,g.2.2.2) (i+2):=fun w hw hne hit=>by
  have he:=endW_open w (by omega) ho
  cases hg:openF (sgAt L (i+1)).toList w with
  | none =>
   rw [hg] at he
   exact absurd he hne
  | some g =>
   rw [hg] at he
   have hne1:g.1.isEmpty=false:=by
    have hm:=List.mem_of_find?_eq_some hg
    have hh:=List.find?_some hg
    cases hq:g.1.isEmpty
    ·rfl
    ·exfalso
     unfold hitB at hh
     rw [Bool.and_eq_true] at hh
     unfold formL at hm
     simp only [List.mem_cons,List.not_mem_nil,or_false] at hm
     rcases hm with rfl | rfl | rfl | rfl | rfl | rfl | rfl | rfl | rfl | rfl | rfl | rfl | rfl | rfl | rfl | rfl | rfl | rfl | rfl | rfl | rfl | rfl | rfl | rfl | rfl | rfl | rfl | rfl | rfl | rfl | rfl | rfl | rfl | rfl
     all_goals first | exact absurd hq (by decide) | (rcases hw with rfl | rfl <;> exact absurd hh.1 (by decide))
   have he2:endW L w i=closeE L (g.2.2.1,g.2.2.2) (i+2):=by
    rw [he]
    show closeE L (g.2.2.1,g.2.2.2) (if g.1.isEmpty then i+1 else i+2)=_
    rw [hne1]
    rfl
   exact ⟨w,g,hw,hg,by rw [← he2];exact hne,by rw [hit,he2]⟩
 rcases h with h | h
 ·exact key 1 (Or.inl rfl) h (sum_item h)
 ·exact key 3 (Or.inr rfl) h (deed_item h)
theorem ItV.word (h:ItV L i) (ho:isW (sgAt L i) [40]=true) (c:List UInt8) (t:List Nat × Option Nat) (hc:isW (sgAt L (i+1)) c=true) (h1:(openF c 1).map (fun g=>(g.2.2.1,g.2.2.2))=some t∨openF c 1=none) (h3:(openF c 3).map (fun g=>(g.2.2.1,g.2.2.2))=some t∨openF c 3=none):closeE L t (i+2)≠-1∧itemE L i=closeE L t (i+2):=by
 obtain ⟨w,g,hw,hg,hne,hit⟩:=h.form ho
 rw [isW_eq hc,lit_list] at hg
 have:(g.2.2.1,g.2.2.2)=t:=by
  rcases hw with rfl | rfl
  ·rcases h1 with h1 | h1
   ·rw [hg] at h1
    exact Option.some.inj h1
   ·rw [hg] at h1
    cases h1
  ·rcases h3 with h3 | h3
   ·rw [hg] at h3
    exact Option.some.inj h3
   ·rw [hg] at h3
    cases h3
 rw [this] at hne hit
 exact ⟨hne,hit⟩
theorem nm_pos (h:endW L 4 i≠-1):endW L 4 i=i+1∧nmB (sgAt L i)=true∧0≤i∧i < (L.length:Int):=by
 have:=nmE_pos (L:=L) (x:=i) h
 exact ⟨this.1,this.2.2.2,this.2.1,this.2.2.1⟩
end
end Go.Proofs.YtdgihicpjonjgaaGreatDoor
namespace Go.Proofs.YtdgihicpjonjgaaGreatDoor
open Go.RowKit
def chainQ (L:List ByteArray):Nat→Int→Int→Prop
 | 0,i,e=>i=e
 | k+1,i,e=>fm L 3 i≠-1∧chainQ L k (itemE L i) e
section
variable {L:List ByteArray} {i j e x:Int}
theorem skips_names:∀ (n:Nat) (a b:Int),b - a=(n:Int)→0≤a→b≤(L.length:Int)→(∀ k,a≤k→k < b→nmB (sgAt L k)=true)→Skips L a b
 | 0,a,b,hn,h0,hb,_=>by
  have:a=b:=by omega
  subst this
  exact skips_at h0 hb
 | n+1,a,b,hn,h0,hb,h=>by
  have h1:=skips_one h0 (by omega) (nm_plain (h a (Int.le_refl _) (by omega)))
  exact h1.trans (skips_names n (a+1) b (by omega) (by omega) hb fun k k1 k2=>h k (by omega) k2)
theorem ItV.name_sum (h:ItV L i) (ho:isW (sgAt L i) [40]=true) (c:List UInt8) (hc:isW (sgAt L (i+1)) c=true) (hcs:c=[108,101,116]∨c=[115,101,116]) :
  nmB (sgAt L (i+2))=true∧i+2 < (L.length:Int)∧ItV L (i+3)∧itemE L (i+3) < itemE L i:=by
 have hw:closeE L ([4,1],none) (i+2)≠-1∧itemE L i=closeE L ([4,1],none) (i+2):=by
  rcases hcs with rfl | rfl
  ·exact h.word ho _ _ hc (Or.inr rfl) (Or.inl rfl)
  ·exact h.word ho _ _ hc (Or.inr rfl) (Or.inl rfl)
 obtain ⟨c1,c2,c3,c4⟩:=close_pos hw.1
 have e1:restE L none (partsE L [4,1] (i+2))=endW L 1 (endW L 4 (i+2)):=rfl
 simp only at c1 c2 c3 c4
 rw [e1] at c1 c2 c3 c4
 have hn:endW L 4 (i+2)≠-1:=fun he=>by rw [he,endW_neg] at c2;omega
 have hp:=nm_pos hn
 rw [hp.1,show i+2+1=i+3 by omega] at c1 c2 c3 c4
 have hs:=endW_it (L:=L) (i:=i+3) (w:=1) (Or.inl rfl) (by omega)
 exact ⟨hp.2.1,hp.2.2.2,hs.1,by rw [hs.2,hw.2,c1];omega⟩
theorem ItV.take_sum (h:ItV L i) (ho:isW (sgAt L i) [40]=true) (hc:isW (sgAt L (i+1)) [116,97,107,101]=true) :
  isW (sgAt L (i+2)) [40]=true∧i+2 < itemE L (i+2)∧ItV L (itemE L (i+2))∧itemE L (itemE L (i+2)) < itemE L i:=by
 have hd:fm L 1 i≠-1:=by
  rcases h with h | h
  ·exfalso
   have:=endW_open (L:=L) (i:=i) 1 (by decide) ho
   rw [isW_eq hc,lit_list] at this
   exact h this
  ·exact h
 have ht:=take_at hd (isW_eq hc)
 obtain ⟨t1,t2,t3,t4,t5,t6⟩:=ht
 have hk:=skips_names (L:=L) (fm L 5 (i+4) - (i+3)).toNat (i+3) (fm L 5 (i+4)) (by omega) (by have:=(deed_long hd).1;omega) (by omega) t4
 obtain ⟨o0,o1⟩:=sgAt_open t5
 have hit:=(skips_wrap (i:=i+2) (x:=fm L 5 (i+4)) o0 o1 t5 (by rw [show i+2+1=i+3 by omega];exact hk) t2 t3).2
 have hw:=h.word ho _ ([5,1],none) hc (Or.inr rfl) (Or.inl rfl)
 obtain ⟨c1,c2,c3,c4⟩:=close_pos hw.1
 have e1:restE L none (partsE L [5,1] (i+2))=endW L 1 (endW L 5 (i+2)):=rfl
 simp only at c1 c2 c3 c4
 rw [e1] at c1 c2 c3 c4
 have e2:endW L 5 (i+2)=fm L 5 (i+4)+1:=by
  show isE L (fm L 5 (nmE L (isE L (i+2) [40]))) [41]=_
  have hnm:nmE L (i+2+1)=i+4:=by
   unfold nmE
   rw [show i+2+1=i+3 by omega,t4 (i+3) (Int.le_refl _) (by omega)]
   simp
   omega
  rw [isE_is t5,hnm,isE_is t3]
 rw [e2,← hit] at c1 c2 c3 c4
 have hs:=endW_it (L:=L) (i:=itemE L (i+2)) (w:=1) (Or.inl rfl) (by omega)
 exact ⟨t5,by rw [hit];omega,hs.1,by rw [hs.2,hw.2,c1];omega⟩
theorem ItV.deeds (h:ItV L i) (ho:isW (sgAt L i) [40]=true) (hc:isW (sgAt L (i+1)) [100,111]=true):∃ k e,chainD L k (i+2) e∧isW (sgAt L e) [41]=true∧itemE L i=e+1:=by
 have hw:=h.word ho _ ([],some 3) hc (Or.inr rfl) (Or.inl rfl)
 obtain ⟨c1,c2,c3,c4⟩:=close_pos hw.1
 have e1:restE L (some 3) (partsE L [] (i+2))=fm L 6 (i+2):=rfl
 simp only at c1 c2 c3 c4
 rw [e1] at c1 c2 c3 c4
 have h0:=sgAt_open ho
 obtain ⟨a,k,hk⟩:=many_chain (L:=L) _ (i+2) (Nat.le_refl _) (by omega) (by omega) (by omega)
 exact ⟨k,_,hk,a,by rw [hw.2,c1]⟩
theorem ItV.sum_deed (h:ItV L i) (ho:isW (sgAt L i) [40]=true) (hc:isW (sgAt L (i+1)) [119,104,105,108,101]=true):ItV L (i+2)∧ItV L (itemE L (i+2))∧itemE L (itemE L (i+2)) < itemE L i:=by
 have hw:=h.word ho _ ([1,2],none) hc (Or.inr rfl) (Or.inl rfl)
 obtain ⟨c1,c2,c3,c4⟩:=close_pos hw.1
 have d1:closeE L ([1,2],none) (i+2)=partsE L [1,2] (i+2)+1:=c1
 have d2:0≤partsE L [1,2] (i+2):=c2
 have hch:chainV L 2 (i+2) (partsE L [1,2] (i+2)):=parts_chain [1,2] (i+2) (by decide) (by omega)
 generalize partsE L [1,2] (i+2)=z at d1 d2 hch
 obtain ⟨p1,p2,p3⟩:=hch
 have p4:itemE L (itemE L (i+2))=z:=p3
 exact ⟨p1,p2,by rw [p4,hw.2,d1];omega⟩
theorem ItV.name_three (h:ItV L i) (ho:isW (sgAt L i) [40]=true) (hc:isW (sgAt L (i+1)) [102,111,114]=true):nmB (sgAt L (i+2))=true∧i+2 < (L.length:Int)∧ItV L (i+3)∧ItV L (itemE L (i+3))∧ItV L (itemE L (itemE L (i+3)))∧itemE L (itemE L (itemE L (i+3))) < itemE L i:=by
 have hw:=h.word ho _ ([4,1,1,2],none) hc (Or.inr rfl) (Or.inl rfl)
 obtain ⟨c1,c2,c3,c4⟩:=close_pos hw.1
 have d1:closeE L ([4,1,1,2],none) (i+2)=partsE L [1,1,2] (endW L 4 (i+2))+1:=c1
 have d2:0≤partsE L [1,1,2] (endW L 4 (i+2)):=c2
 have hn:endW L 4 (i+2)≠-1:=fun he=>by rw [he,parts_neg] at d2;omega
 have hp:=nm_pos hn
 rw [hp.1,show i+2+1=i+3 by omega] at d1 d2
 have hch:chainV L 3 (i+3) (partsE L [1,1,2] (i+3)):=parts_chain [1,1,2] (i+3) (by decide) (by omega)
 generalize partsE L [1,1,2] (i+3)=z at d1 d2 hch
 obtain ⟨p1,p2,p3,p4⟩:=hch
 have p5:itemE L (itemE L (itemE L (i+3)))=z:=p4
 exact ⟨hp.2.1,hp.2.2.2,p1,p2,p3,by rw [p5,hw.2,d1];omega⟩
theorem ItV.name_sums (h:ItV L i) (ho:isW (sgAt L i) [40]=true) (c:List UInt8) (hc:isW (sgAt L (i+1)) c=true) (hcs:c=[104,103,101,116]∨c=[104,112,117,116]) :
  i+2 < (L.length:Int)∧nmB (sgAt L (i+2))=true∧∃ k e,chainV L k (i+3) e∧isW (sgAt L e) [41]=true∧itemE L i=e+1:=by
 have key:∀ ps:List Nat,(∀ p∈ps,p=1∨p=2∨p=3)→closeE L (4 :: ps,none) (i+2)≠-1∧itemE L i=closeE L (4 :: ps,none) (i+2)→i+2 < (L.length:Int)∧nmB (sgAt L (i+2))=true∧∃ k e,chainV L k (i+3) e∧isW (sgAt L e) [41]=true∧itemE L i=e+1:=fun ps hps hw=>by
  obtain ⟨c1,c2,c3,c4⟩:=close_pos hw.1
  have e1:restE L none (partsE L (4 :: ps) (i+2))=partsE L ps (endW L 4 (i+2)):=rfl
  simp only at c1 c2 c3 c4
  rw [e1] at c1 c2 c3 c4
  have hn:endW L 4 (i+2)≠-1:=fun he=>by rw [he,parts_neg] at c2;omega
  have hp:=nm_pos hn
  rw [hp.1,show i+2+1=i+3 by omega] at c1 c2 c3 c4
  exact ⟨hp.2.2.2,hp.2.1,ps.length,_,parts_chain ps (i+3) hps (by omega),c4,by rw [hw.2,c1]⟩
 rcases hcs with rfl | rfl
 ·exact key [1] (by decide) (h.word ho _ _ hc (Or.inl rfl) (Or.inr rfl))
 ·exact key [1,1] (by decide) (h.word ho _ _ hc (Or.inr rfl) (Or.inl rfl))
theorem ItV.items (h:ItV L i) (ho:isW (sgAt L i) [40]=true) (hfn:isW (sgAt L (i+1)) [102,110]=false) (hdo:isW (sgAt L (i+1)) [100,111]=false) (hlet:isW (sgAt L (i+1)) [108,101,116]=false) (hset:isW (sgAt L (i+1)) [115,101,116]=false) (htake:isW (sgAt L (i+1)) [116,97,107,101]=false)
  (hhget:isW (sgAt L (i+1)) [104,103,101,116]=false) (hhput:isW (sgAt L (i+1)) [104,112,117,116]=false) (hhid:isW (sgAt L (i+1)) [104,105,100,100,101,110]=false) (hvars:isW (sgAt L (i+1)) [118,97,114,115]=false) (hfor:isW (sgAt L (i+1)) [102,111,114]=false) :
  ∃ k e,chainV L k (i+2) e∧isW (sgAt L e) [41]=true∧itemE L i=e+1:=by
 obtain ⟨w,g,hw,hg,hne,hit⟩:=h.form ho
 have h0:=sgAt_open ho
 have hm:=List.mem_of_find?_eq_some hg
 have hh:=List.find?_some hg
 obtain ⟨c1,c2,c3,c4⟩:=close_pos hne
 have key:(∀ p∈g.2.2.1,p=1∨p=2∨p=3)→(g.2.2.2=none∨g.2.2.2=some 1)→∃ k e,chainV L k (i+2) e∧isW (sgAt L e) [41]=true∧itemE L i=e+1:=fun hps hr=>by
  simp only at c1 c2 c3 c4
  have hpn:partsE L g.2.2.1 (i+2)≠-1:=fun he=>by rw [he,rest_neg] at c2;omega
  have hc1:=parts_chain g.2.2.1 (i+2) hps hpn
  rw [c1] at hit
  rcases hr with hr | hr
  ·rw [hr] at hit c2 c3 c4
   exact ⟨_,_,hc1,c4,hit⟩
  ·rw [hr] at hit c2 c3 c4
   have hpl:0≤partsE L g.2.2.1 (i+2)∧partsE L g.2.2.1 (i+2)≤(L.length:Int)+1:=by
    cases hq:g.2.2.1 with
    | nil =>
     show 0≤i+2∧i+2≤(L.length:Int)+1
     omega
    | cons p ps =>
     rw [← hq]
     have h4:∀ (qs:List Nat) (y:Int),-1≤y→partsE L qs y≠-1→qs≠[]→0≤partsE L qs y∧partsE L qs y≤(L.length:Int)+1:=fun qs=>by
      induction qs with
      | nil=>exact fun y _ _ h=>absurd rfl h
      | cons q qs ih =>
       intro y hy hne _
       have hE:=endW_ends (L:=L) (i:=y) q hy
       unfold Ends at hE
       show 0≤partsE L qs (endW L q y)∧partsE L qs (endW L q y)≤(L.length:Int)+1
       have hne2:partsE L qs (endW L q y)≠-1:=hne
       have hq2:endW L q y≠-1:=fun he=>by rw [he,parts_neg] at hne2;exact hne2 rfl
       by_cases hz:qs=[]
       ·subst hz
        show 0≤endW L q y∧endW L q y≤(L.length:Int)+1
        omega
       ·exact ih _ (by omega) hne2 hz
     exact h4 _ _ (by omega) hpn (by rw [hq];simp)
   obtain ⟨k,hk⟩:=rest_chain (p:=1) (Or.inl rfl) _ _ (Nat.le_refl _) hpl.1 hpl.2 (by omega)
   exact ⟨_,_,chainV_more _ _ _ _ hc1 hk,c4,hit⟩
 unfold hitB at hh
 rw [Bool.and_eq_true] at hh
 have hh2:=hh.2
 unfold isW at hfn hdo hlet hset htake hhget hhput hhid hvars hfor
 unfold formL at hm
 simp only [List.mem_cons,List.not_mem_nil,or_false] at hm
 clear hg hne hit c1 c2 c3 c4
 rcases hm with rfl | rfl | rfl | rfl | rfl | rfl | rfl | rfl | rfl | rfl | rfl | rfl | rfl | rfl | rfl | rfl | rfl | rfl | rfl | rfl | rfl | rfl | rfl | rfl | rfl | rfl | rfl | rfl | rfl | rfl | rfl | rfl | rfl | rfl
 all_goals first
  | exact key (by decide) (by decide)
  | (exfalso;rcases hw with rfl | rfl <;> exact absurd hh.1 (by decide))
  | (exfalso;simp only [List.isEmpty,Bool.false_or,beq_iff_eq] at hh2;rw [← hh2] at hfn hdo hlet hset htake hhget hhput hhid hvars hfor;first | exact absurd hfn (by decide) | exact absurd hdo (by decide) | exact absurd hlet (by decide) | exact absurd hset (by decide) | exact absurd htake (by decide) | exact absurd hhget (by decide) | exact absurd hhput (by decide) | exact absurd hhid (by decide) | exact absurd hvars (by decide) | exact absurd hfor (by decide))
theorem many_par:∀ n i,farN L i≤n→0≤i→i≤(L.length:Int)+1→fm L 7 i≠-1→isW (sgAt L (fm L 7 i)) [41]=true∧∃ k,chainQ L k i (fm L 7 i)
 | 0,i,hf,h0,h1,_=>by have:=far_pos (L:=L) h0 h1;omega
 | n+1,i,hf,h0,h1,h=>by
  have hm:=fm_many (L:=L) (i:=i) 3 (by decide) (by omega) h1
  rw [show 4+3=7 from rfl] at hm
  unfold manyS at hm
  split at hm
  ·rename_i hs
   rw [hm]
   rcases hs with hs | hs
   ·omega
   ·exact ⟨hs,0,rfl⟩
  ·have ho:oneS L (fm L) 3 i=fm L 3 i:=rfl
   rw [ho,show 4+3=7 from rfl] at hm
   have hne:fm L 3 i≠-1:=fun hn=>by
    rw [hm,hn,fm_none 7 (by decide)] at h
    exact absurd rfl h
   have hE:=fm_ends (L:=L) 3 (by decide) i
   have hfe:=far_ends hE h1
   unfold Ends at hE
   rw [hm] at h ⊢
   obtain ⟨a,k,hk⟩:=many_par n (fm L 3 i) (by omega) (by omega) (by omega) h
   exact ⟨a,k+1,hne,by rw [par_item hne];exact hk⟩
theorem par_at (h:fm L 3 i≠-1):0≤i∧i < (L.length:Int)∧((isW (sgAt L i) [40]=true∧nmB (sgAt L (i+1))=true∧i+1 < (L.length:Int)∧ItV L (i+2)∧itemE L i=itemE L (i+2)+1)∨(isW (sgAt L i) [40]=false∧nmB (sgAt L i)=true∧itemE L i=i+1)):=by
 have hit:=par_item h
 rw [fm_par] at h hit
 unfold parS at h hit
 cases ho:isW (sgAt L i) [40]
 ·rw [ho] at h hit
  obtain ⟨a,b,c,d⟩:=nmE_pos (L:=L) (x:=i) h
  exact ⟨b,c,Or.inr ⟨rfl,d,by rw [hit];exact a⟩⟩
 ·rw [ho] at h hit
  simp only [if_true] at h hit
  obtain ⟨h0,h1⟩:=sgAt_open ho
  obtain ⟨a,b,c,d⟩:=isE_pos (by decide) h
  have hn:nmE L (i+1)≠-1:=fun he=>by rw [he,fm_none 0 (by decide)] at b;omega
  obtain ⟨n1,n2,n3,n4⟩:=nmE_pos hn
  rw [n1,show i+1+1=i+2 by omega] at a b c d hit
  have hs:fm L 0 (i+2)≠-1:=by omega
  exact ⟨h0,h1,Or.inl ⟨rfl,n4,n3,Or.inl hs,by rw [hit,a,sum_item hs]⟩⟩
theorem par_not41 (h:fm L 3 i≠-1):isW (sgAt L i) [41]=false:=by
 rcases (par_at h).2.2 with h1 | h1
 ·exact isW_other h1.1 (by decide)
 ·exact (nm_plain h1.2.1).2
theorem par_ends (h:fm L 3 i≠-1):0≤i∧i < itemE L i∧itemE L i≤(L.length:Int):=by
 have hE:=fm_ends (L:=L) 3 (by decide) i
 rw [par_item h]
 unfold Ends at hE
 omega
theorem chainQ_ends:∀ k i,chainQ L k i e→0≤e→0≤i∧i+(k:Int)≤e
 | 0,i,h,he=>by
  have:i=e:=h
  omega
 | k+1,i,h,he=>by
  have h1:=par_ends h.1
  have h2:=chainQ_ends k _ h.2 he
  omega
theorem plcs_par:∀ k f i,chainQ L k i e→0≤e→e < (L.length:Int)→isW (sgAt L e) [41]=true→k≤f→plcs L f i=chainP L k i
 | 0,f,i,h,he,_,hb,hk=>by
  have hi:i=e:=h
  subst hi
  cases f with
  | zero=>rfl
  | succ f =>
   unfold plcs
   rw [if_neg]
   ·rfl
   ·rintro ⟨a,b,c⟩
    rw [hb] at c
    exact absurd c (by decide)
 | k+1,f,i,h,he,hl,hb,hk=>by
  obtain ⟨f,rfl⟩:∃ g,f=g+1:=⟨f - 1,by omega⟩
  have h1:=par_ends h.1
  unfold plcs
  rw [if_pos ⟨h1.1,by omega,par_not41 h.1⟩,plcs_par k f _ h.2 he hl hb (by omega)]
  rfl
theorem plc_par {k:Nat} (h:chainQ L k i e) (he:0≤e) (hl:e < (L.length:Int)) (hb:isW (sgAt L e) [41]=true):plc L i=chainP L k i:=by
 have h1:=chainQ_ends k i h he
 exact plcs_par k _ i h he hl hb (by omega)
theorem ItV.fn (h:ItV L i) (ho:isW (sgAt L i) [40]=true) (hc:isW (sgAt L (i+1)) [102,110]=true) :
  isW (sgAt L (i+2)) [40]=true∧∃ k e7 m e6,chainQ L k (i+3) e7∧0≤e7∧e7 < (L.length:Int)∧isW (sgAt L e7) [41]=true∧bodyI L i=e7+1∧chainD L m (e7+1) e6∧0≤e6∧e6 < (L.length:Int)∧isW (sgAt L e6) [41]=true∧itemE L i=e6+1:=by
 have hw:=h.word ho _ ([7],some 3) hc (Or.inl rfl) (Or.inr rfl)
 obtain ⟨c1,c2,c3,c4⟩:=close_pos hw.1
 have e1:restE L (some 3) (partsE L [7] (i+2))=fm L 6 (isE L (fm L 7 (isE L (i+2) [40])) [41]):=rfl
 simp only at c1 c2 c3 c4
 rw [e1] at c1 c2 c3 c4
 have h0:=sgAt_open ho
 have hp:isE L (fm L 7 (isE L (i+2) [40])) [41]≠-1:=fun he=>by rw [he,fm_none 6 (by decide)] at c2;omega
 obtain ⟨p1,p2,p3,p4⟩:=isE_pos (by decide) hp
 have hq:isE L (i+2) [40]≠-1:=fun he=>by rw [he,fm_none 7 (by decide)] at p2;omega
 obtain ⟨q1,q2,q3,q4⟩:=isE_pos (by decide) hq
 rw [q1,show i+2+1=i+3 by omega] at p1 p2 p3 p4
 rw [q1,show i+2+1=i+3 by omega,p1] at c1 c2 c3 c4
 obtain ⟨a,k,hk⟩:=many_par (L:=L) _ (i+3) (Nat.le_refl _) (by omega) (by omega) (by omega)
 obtain ⟨b,m,hm⟩:=many_chain (L:=L) _ (fm L 7 (i+3)+1) (Nat.le_refl _) (by omega) (by omega) (by omega)
 exact ⟨q4,k,_,m,_,hk,p2,p3,a,rfl,hm,c2,c3,c4,by rw [hw.2,c1]⟩
end
def Cap (o:Ot) (m:Int):Prop:=(o.fr.length:Int)≤m∧(o.sc.length:Int)≤m
theorem cap_none {m:Int} (h:0≤m):Cap Ot.none m:=⟨by simpa [Ot.none] using h,by simpa [Ot.none] using h⟩
theorem cap_bad {m:Int} (b:Bool) (h:0≤m):Cap ⟨[],[],b⟩ m:=⟨by simpa using h,by simpa using h⟩
theorem cap_add {a b:Ot} {m n:Int} (ha:Cap a m) (hb:Cap b n):Cap (a.add b) (m+n):=by
 unfold Cap at ha hb ⊢
 simp only [Ot.add,List.length_append]
 omega
theorem Cap.mono {a:Ot} {m n:Int} (h:Cap a m) (hmn:m≤n):Cap a n:=by
 unfold Cap at h ⊢
 omega
theorem cap_use (K:Kn) (s:ByteArray):Cap (useO K s) 1:=by
 unfold useO
 split
 ·exact cap_none (by decide)
 ·exact ⟨by simp,by simp⟩
theorem cap_hide (K:Kn) (s:ByteArray):Cap (hideO K s) 1:=by
 unfold hideO
 split
 ·exact cap_none (by decide)
 ·exact ⟨by simp,by simp⟩
section
variable {L:List ByteArray} {i e:Int}
theorem cap_outs (f:Int→Ot):∀ k i,chainV L k i e→0≤e→(∀ p,ItV L p→i≤p→Cap (f p) (itemE L p - p))→Cap (outs f (chainP L k i)) (e - i)
 | 0,i,h,he,_=>by
  have:i=e:=h
  exact cap_none (by omega)
 | k+1,i,h,he,hf=>by
  have h1:=h.1.ends
  have h2:=cap_outs f k _ h.2 he (fun p hp hl=>hf p hp (by omega))
  exact (cap_add (hf i h.1 (Int.le_refl _)) h2).mono (by omega)
theorem cap_par (f:Int→Ot):∀ k i,chainQ L k i e→0≤e→(∀ p,ItV L p→i≤p→Cap (f p) (itemE L p - p))→Cap (outs (parO L f) (chainP L k i)) (e - i)
 | 0,i,h,he,_=>by
  have:i=e:=h
  exact cap_none (by omega)
 | k+1,i,h,he,hf=>by
  have h1:=par_ends h.1
  have h2:=cap_par f k _ h.2 he (fun p hp hl=>hf p hp (by omega))
  refine (cap_add (m:=itemE L i - i) ?_ h2).mono (by omega)
  unfold parO
  rcases (par_at h.1).2.2 with h3 | h3
  ·rw [if_pos h3.1]
   exact (hf (i+2) h3.2.2.2.1 (by omega)).mono (by omega)
  ·rw [if_neg (by rw [h3.1];decide)]
   exact cap_none (by omega)
theorem cap_blk (f:Int→Ot):∀ k i v,chainV L k i e→0≤e→(∀ p,ItV L p→i≤p→Cap (f p) (itemE L p - p))→Cap (blk L f v (chainP L k i)) (e - i)
 | 0,i,v,h,he,_=>by
  have:i=e:=h
  exact cap_none (by omega)
 | k+1,i,v,h,he,hf=>by
  have h1:=h.1.ends
  have h2:=cap_blk f k _ false h.2 he (fun p hp hl=>hf p hp (by omega))
  exact (cap_add (cap_bad _ (Int.le_refl 0)) (cap_add (hf i h.1 (Int.le_refl _)) h2)).mono (by omega)
theorem endB_shut (h:isW (sgAt L e) [41]=true):endB L e:=Or.inr h
end
theorem wk_cap (L:List ByteArray):∀ n,(∀ i K v,ItV L i→Cap (wk L n 0 v i K) (itemE L i - i))∧(∀ i K v k e,chainD L k i e→endB L e→0≤e→e≤(L.length:Int)→Cap (wk L n 1 v i K) (e - i))
 | 0=>⟨fun i K v h=>cap_none (by have:=h.ends;omega),fun i K v k e h hb h0 h1=>cap_none (by have:=chain_ends k i h h0;omega)⟩
 | n+1=>by
  obtain ⟨I0,I1⟩:=wk_cap L n
  have B1:∀ i K v k e,chainD L k i e→endB L e→0≤e→e≤(L.length:Int)→Cap (wk L (n+1) 1 v i K) (e - i):=fun i K v k e h hb h0 h1=>by
   show Cap (blockO L (wk L n) v i K) (e - i)
   have hv:=(chain_deeds k i h).1
   unfold blockO
   rw [plc_chain hv h0 h1 hb]
   exact (cap_add (cap_bad _ (Int.le_refl 0)) (cap_blk _ k i v hv h0 (fun p hp _=>I0 p _ false hp))).mono (by omega)
  refine ⟨fun i K v h=>?_,B1⟩
  show Cap (itemO L (wk L n) i K) (itemE L i - i)
  have hE:=h.ends
  unfold itemO
  cases ho:isW (sgAt L i) [40]
  ·rw [if_pos rfl]
   split
   ·exact (cap_use _ _).mono (by omega)
   ·exact cap_none (by omega)
  rw [if_neg (by decide)]
  by_cases hfn:isW (sgAt L (i+1)) [102,110]=true
  ·rw [if_pos hfn]
   obtain ⟨_,k,e7,m,e6,q1,q2,q3,q4,q5,q6,q7,q8,q9,q10⟩:=h.fn ho hfn
   have qe:=chainQ_ends k _ q1 q2
   have he:=chain_ends m _ q6 q7
   unfold fnO
   rw [q5,plc_par q1 q2 q3 q4]
   refine (cap_add (cap_bad _ (Int.le_refl 0)) (cap_add (cap_par _ k _ q1 q2 (fun p hp _=>I0 p _ false hp)) (I1 _ _ _ m e6 q6 (endB_shut q9) q7 (by omega)))).mono (by omega)
  rw [if_neg hfn]
  by_cases hdo:isW (sgAt L (i+1)) [100,111]=true
  ·rw [if_pos hdo]
   obtain ⟨k,e,q1,q2,q3⟩:=h.deeds ho hdo
   have he:=sgAt_shut q2
   exact (I1 _ _ _ k e q1 (endB_shut q2) he.1 (by omega)).mono (by omega)
  rw [if_neg hdo]
  by_cases hlet:isW (sgAt L (i+1)) [108,101,116]=true
  ·rw [if_pos hlet]
   have hq:=h.name_sum ho _ hlet (Or.inl rfl)
   exact (I0 _ _ _ hq.2.2.1).mono (by omega)
  rw [if_neg hlet]
  by_cases hset:isW (sgAt L (i+1)) [115,101,116]=true
  ·rw [if_pos hset]
   have hq:=h.name_sum ho _ hset (Or.inr rfl)
   exact (cap_add (cap_use _ _) (I0 _ _ _ hq.2.2.1)).mono (by omega)
  rw [if_neg hset]
  by_cases htake:isW (sgAt L (i+1)) [116,97,107,101]=true
  ·rw [if_pos htake]
   have hq:=h.take_sum ho htake
   exact (I0 _ _ _ hq.2.2.1).mono (by omega)
  rw [if_neg htake]
  by_cases hh:(isW (sgAt L (i+1)) [104,103,101,116] || isW (sgAt L (i+1)) [104,112,117,116])=true
  ·rw [if_pos hh]
   have hq:i+2 < (L.length:Int)∧nmB (sgAt L (i+2))=true∧∃ k e,chainV L k (i+3) e∧isW (sgAt L e) [41]=true∧itemE L i=e+1:=by
    rcases Bool.or_eq_true _ _ |>.mp hh with hx | hx
    ·exact h.name_sums ho _ hx (Or.inl rfl)
    ·exact h.name_sums ho _ hx (Or.inr rfl)
   obtain ⟨_,_,k,e,q1,q2,q3⟩:=hq
   have he:=sgAt_shut q2
   rw [plc_chain q1 he.1 (by omega) (endB_shut q2)]
   exact (cap_add (cap_hide _ _) (cap_outs _ k _ q1 he.1 (fun p hp _=>I0 p _ false hp))).mono (by omega)
  rw [if_neg hh]
  by_cases hv:(isW (sgAt L (i+1)) [104,105,100,100,101,110] || isW (sgAt L (i+1)) [118,97,114,115])=true
  ·rw [if_pos hv]
   exact cap_none (by omega)
  rw [if_neg hv]
  by_cases hl:(isW (sgAt L (i+1)) [108,101,97,118,101] || isW (sgAt L (i+1)) [110,101,120,116])=true
  ·rw [if_pos hl]
   exact cap_bad _ (by omega)
  rw [if_neg hl]
  by_cases hwh:isW (sgAt L (i+1)) [119,104,105,108,101]=true
  ·rw [if_pos hwh]
   have hq:=h.sum_deed ho hwh
   have e1:=hq.1.ends
   exact (cap_add (I0 _ _ _ hq.1) (I0 _ _ _ hq.2.1)).mono (by omega)
  rw [if_neg hwh]
  by_cases hfor:isW (sgAt L (i+1)) [102,111,114]=true
  ·rw [if_pos hfor]
   have hq:=h.name_three ho hfor
   have e1:=hq.2.2.1.ends
   have e2:=hq.2.2.2.1.ends
   exact (cap_add (I0 _ _ _ hq.2.2.1) (cap_add (I0 _ _ _ hq.2.2.2.1) (I0 _ _ _ hq.2.2.2.2.1))).mono (by omega)
  rw [if_neg hfor]
  simp only [Bool.or_eq_true,not_or,Bool.not_eq_true] at hfn hdo hlet hset htake hh hv hl hwh hfor
  obtain ⟨k,e,q1,q2,q3⟩:=h.items ho hfn hdo hlet hset htake hh.1 hh.2 hv.1 hv.2 hfor
  have he:=sgAt_shut q2
  rw [plc_chain q1 he.1 (by omega) (endB_shut q2)]
  exact (cap_outs _ k _ q1 he.1 (fun p hp _=>I0 p _ false hp)).mono (by omega)
theorem find_cap {L:List ByteArray} (h:playB L=true):Cap (findO L) (L.length:Int):=by
 obtain ⟨k,hk⟩:=play_deeds h
 exact ((wk_cap L _).2 0 _ true k _ hk (Or.inl rfl) (by omega) (Int.le_refl _)).mono (by omega)
end Go.Proofs.YtdgihicpjonjgaaGreatDoor
namespace Go.Proofs.YtdgihicpjonjgaaGreatDoor
open Go.RowKit
def opN (s:ByteArray) (o:Int):Int:=if isW s [40] then o+1 else if isW s [41] then o - 1 else o
def seqF (L:List ByteArray):Nat→Nat→Int→List (Int × Int)
 | 0,_,_=>[]
 | f+1,i,o=>if i < L.length∧signB (L.getD i ⟨#[]⟩)=true∧0≤opN (L.getD i ⟨#[]⟩) o then ((i:Int),opN (L.getD i ⟨#[]⟩) o) :: seqF L f (i+1) (opN (L.getD i ⟨#[]⟩) o) else []
def firstZ:List (Int × Int)→Int→Int × Int
 | [],_=>(-1,-1)
 | x :: xs,d=>if x.2=0 then (x.1+1,max d x.2) else firstZ xs (max d x.2)
def mostZ (xs:List (Int × Int)) (d:Int):Int:=xs.foldl (fun d x=>max d x.2) d
theorem mostZ_snoc (xs:List (Int × Int)) (x:Int × Int) (d:Int):mostZ (xs++[x]) d=max (mostZ xs d) x.2:=by
 unfold mostZ
 rw [List.foldl_append]
 rfl
theorem firstZ_on:∀ (xs ys:List (Int × Int)) (d:Int),(∀ x∈xs,x.2≠0)→firstZ (xs++ys) d=firstZ ys (mostZ xs d)
 | [],_,_,_=>rfl
 | x :: xs,ys,d,h=>by
  show (if x.2=0 then (x.1+1,max d x.2) else firstZ (xs++ys) (max d x.2))=_
  rw [if_neg (h x (by simp)),firstZ_on xs ys _ fun y hy=>h y (by simp [hy])]
  rfl
def measZ (L:List ByteArray) (i:Int):Int × Int:=if i < 0 then (-1,-1) else firstZ (seqF L (L.length+1) i.toNat 0) 0
theorem seqF_out {L:List ByteArray} {f i:Nat} {o:Int} (h:¬ (i < L.length∧signB (L.getD i ⟨#[]⟩)=true∧0≤opN (L.getD i ⟨#[]⟩) o)):seqF L f i o=[]:=by
 cases f with
 | zero=>rfl
 | succ f =>
  unfold seqF
  rw [if_neg h]
theorem seqF_in {L:List ByteArray} {f i:Nat} {o:Int} (h:i < L.length∧signB (L.getD i ⟨#[]⟩)=true∧0≤opN (L.getD i ⟨#[]⟩) o):seqF L (f+1) i o=((i:Int),opN (L.getD i ⟨#[]⟩) o) :: seqF L f (i+1) (opN (L.getD i ⟨#[]⟩) o):=by
 show (if _ then _ else _)=_
 rw [if_pos h]
theorem seqF_len (L:List ByteArray):∀ f i o,(seqF L f i o).length≤L.length - i
 | 0,_,_=>Nat.zero_le _
 | f+1,i,o=>by
  by_cases h:i < L.length∧signB (L.getD i ⟨#[]⟩)=true∧0≤opN (L.getD i ⟨#[]⟩) o
  ·rw [seqF_in h]
   have:=seqF_len L f (i+1) (opN (L.getD i ⟨#[]⟩) o)
   simp only [List.length_cons]
   omega
  ·rw [seqF_out h]
   exact Nat.zero_le _
theorem firstZ_item (L:List ByteArray):∀ (f:Nat) (i o:Nat) (d e:Int),itemF L f i o=e→0≤e→(∀ k,i≤k→(k:Int) < e→signB (L.getD k ⟨#[]⟩)=true)→0≤d→(o:Int)≤d→firstZ (seqF L f i (o:Int)) d=(e,dpF L (e - (i:Int)).toNat i (o:Int) d)
 | 0,i,o,d,e,h,he,_,_,_=>by
  have:(-1:Int)=e:=h
  omega
 | f+1,i,o,d,e,h,he,hs,hd,hod=>by
  have hends:=itemF_ends L (f+1) i o
  rw [h] at hends
  have hie:(i:Int) < e:=by omega
  have hil:i < L.length:=by omega
  have hsi:=hs i (Nat.le_refl _) hie
  have hstep:(e - (i:Int)).toNat=(e - ((i+1:Nat):Int)).toNat+1:=by omega
  have hs':∀ k,i+1≤k→(k:Int) < e→signB (L.getD k ⟨#[]⟩)=true:=fun k h1 h2=>hs k (by omega) h2
  have IH:=firstZ_item L f (i+1)
  unfold itemF at h
  rw [if_pos hil] at h
  rw [hstep]
  unfold dpF
  cases h40:isW (L.getD i ⟨#[]⟩) [40]
  ·rw [h40] at h
   cases h41:isW (L.getD i ⟨#[]⟩) [41]
   ·rw [h41] at h
    have hop:opN (L.getD i ⟨#[]⟩) (o:Int)=(o:Int):=by unfold opN;rw [h40,h41];rfl
    rw [seqF_in ⟨hil,hsi,by rw [hop];omega⟩,hop]
    simp only [firstZ]
    simp only [Bool.false_eq_true,if_false] at h ⊢
    have hmx:max d (o:Int)=d:=by omega
    rw [hmx]
    by_cases ho:o=0
    ·rw [if_pos ho] at h
     rw [if_pos (by omega),show (e - ((i+1:Nat):Int)).toNat=0 by omega]
     rw [h]
     rfl
    ·rw [if_neg ho] at h
     rw [if_neg (by omega)]
     exact IH o d e h he hs' hd hod
   ·rw [h41] at h
    have hop:opN (L.getD i ⟨#[]⟩) (o:Int)=(o:Int) - 1:=by unfold opN;rw [h40,h41];rfl
    simp only [Bool.false_eq_true,if_false,if_true] at h ⊢
    by_cases ho:o=0
    ·rw [if_pos ho] at h
     omega
    ·rw [if_neg ho] at h
     rw [seqF_in ⟨hil,hsi,by rw [hop];omega⟩,hop]
     simp only [firstZ]
     have hmx:max d ((o:Int) - 1)=d:=by omega
     rw [hmx]
     by_cases ho1:o=1
     ·rw [if_pos ho1] at h
      rw [if_pos (by omega),show (e - ((i+1:Nat):Int)).toNat=0 by omega]
      rw [h]
      rfl
     ·rw [if_neg ho1] at h
      rw [if_neg (by omega)]
      have hc:((o - 1:Nat):Int)=(o:Int) - 1:=by omega
      have:=IH (o - 1) d e h he hs' hd (by omega)
      rw [hc] at this
      exact this
  ·rw [h40] at h
   have hop:opN (L.getD i ⟨#[]⟩) (o:Int)=(o:Int)+1:=by unfold opN;rw [h40];rfl
   rw [seqF_in ⟨hil,hsi,by rw [hop];omega⟩,hop]
   simp only [firstZ]
   simp only [if_true] at h ⊢
   rw [if_neg (by omega)]
   have hc:((o+1:Nat):Int)=(o:Int)+1:=by omega
   have:=IH (o+1) (max d ((o:Int)+1)) e h he hs' (by omega) (by omega)
   rw [hc] at this
   exact this
theorem measZ_item {L:List ByteArray} {i:Int} (h:0≤itemE L i) (hs:∀ k,i≤k→k < itemE L i→signB (sgAt L k)=true):measZ L i=(itemE L i,depE L i):=by
 have hE:=itemE_ends L i
 unfold Ends at hE
 have h0:¬ i < 0:=by omega
 unfold measZ depE
 rw [if_neg h0,if_neg (by omega)]
 have he:itemF L (L.length+1) i.toNat 0=itemE L i:=by unfold itemE;rw [if_neg h0]
 have:=firstZ_item L (L.length+1) i.toNat 0 0 (itemE L i) he h (fun k h1 h2=>by
  have hk:=hs (k:Int) (by omega) h2
  rw [sgAt_in (by omega) (by omega)] at hk
  have hkl:k < L.length:=by omega
  simpa [List.getD,hkl] using hk) (by omega) (by omega)
 rw [show ((i.toNat:Nat):Int)=i by omega] at this
 exact this
end Go.Proofs.YtdgihicpjonjgaaGreatDoor
namespace Go.Proofs.YtdgihicpjonjgaaGreatDoor
open Go.RowKit
def chI (L:List ByteArray):Nat→Int→Int→Prop
 | 0,i,e=>i=e
 | k+1,i,e=>0≤itemE L i∧chI L k (itemE L i) e
section
variable {L:List ByteArray} {i j e x:Int}
theorem itemE_none (h:i < 0∨(L.length:Int)≤i∨isW (sgAt L i) [41]=true):itemE L i=-1:=by
 unfold itemE
 split
 ·rfl
 ·rename_i h0
  unfold itemF
  by_cases hl:i.toNat < L.length
  ·rw [if_pos hl,sgAt_getD (by omega) (by omega)]
   have h41:isW (sgAt L i) [41]=true:=by
    rcases h with h | h | h
    ·omega
    ·omega
    ·exact h
   rw [isW_other h41 (by decide),h41]
   rfl
  ·rw [if_neg hl]
theorem itemE_up (h:0≤itemE L i):0≤i∧i < itemE L i∧itemE L i≤(L.length:Int):=by
 have:=itemE_ends L i
 unfold Ends at this
 omega
theorem chI_ends:∀ k i,chI L k i e→0≤e→0≤i∧i+(k:Int)≤e
 | 0,i,h,he=>by
  have:i=e:=h
  omega
 | k+1,i,h,he=>by
  have h1:=chI_ends k _ h.2 he
  have h2:=itemE_up h.1
  omega
theorem chI_next {k:Nat} (h:chI L k i e) (hlt:i < e):∃ m,k=m+1∧0≤itemE L i∧chI L m (itemE L i) e:=by
 cases k with
 | zero =>
  have:i=e:=h
  omega
 | succ m=>exact ⟨m,rfl,h.1,h.2⟩
theorem chI_one:∀ k m i,chI L k i e→chI L m i x→itemE L e=-1→itemE L x=-1→k=m∧e=x
 | 0,0,i,h1,h2,_,_=>⟨rfl,(h1:i=e).symm.trans h2⟩
 | 0,m+1,i,h1,h2,he,_=>by
  have e1:i=e:=h1
  have:=h2.1
  rw [e1,he] at this
  omega
 | k+1,0,i,h1,h2,_,hx=>by
  have e1:i=x:=h2
  have:=h1.1
  rw [e1,hx] at this
  omega
 | k+1,m+1,i,h1,h2,he,hx=>by
  obtain ⟨a,b⟩:=chI_one k m _ h1.2 h2.2 he hx
  exact ⟨by rw [a],b⟩
theorem chI_V:∀ k i,chainV L k i e→chI L k i e
 | 0,_,h=>h
 | k+1,i,h=>⟨by have:=h.1.ends;omega,chI_V k _ h.2⟩
theorem chI_Q:∀ k i,chainQ L k i e→chI L k i e
 | 0,_,h=>h
 | k+1,i,h=>⟨by have:=par_ends h.1;omega,chI_Q k _ h.2⟩
theorem chI_names:∀ (n:Nat) (i:Int),0≤i→i+(n:Int)≤(L.length:Int)→(∀ k,i≤k→k < i+(n:Int)→nmB (sgAt L k)=true)→chI L n i (i+(n:Int))∧(chainP L n i).map (sgAt L)=slc L i (i+(n:Int))∧∀ p∈chainP L n i,i≤p∧p < i+(n:Int)
 | 0,i,_,_,_=>⟨by show i=i+((0:Nat):Int);omega,by rw [show i+((0:Nat):Int)=i by omega,slc_nil];rfl,fun p hp=>by cases hp⟩
 | n+1,i,h0,h1,hn=>by
  have hit:itemE L i=i+1:=item_one h0 (by omega) (nm_plain (hn i (Int.le_refl _) (by omega)))
  obtain ⟨a,b,c⟩:=chI_names n (i+1) (by omega) (by omega) (fun k h2 h3=>hn k (by omega) (by omega))
  have he:i+1+(n:Int)=i+((n+1:Nat):Int):=by omega
  rw [he] at a b c
  have hP:chainP L (n+1) i=i :: chainP L n (i+1):=by
   show i :: chainP L n (itemE L i)=_
   rw [hit]
  refine ⟨⟨by omega,by rw [hit];exact a⟩,?_,fun p hp=>?_⟩
  ·rw [hP,List.map_cons,b]
   unfold slc
   have hl:i.toNat < L.length:=by omega
   rw [List.drop_eq_getElem_cons hl,sgAt_in h0 (by omega),show (i+1).toNat=i.toNat+1 by omega,show (i+((n+1:Nat):Int) - i).toNat=n+1 by omega,show (i+((n+1:Nat):Int) - (i+1)).toNat=n by omega,List.take_succ_cons]
  ·rw [hP] at hp
   rcases List.mem_cons.mp hp with rfl | hp
   ·omega
   ·have:=c p hp
    omega
theorem parts_of (L:List ByteArray):∀ (n f:Nat),f≤n→∀ (j o:Nat) (r:Int),1≤o→itemF L f j o=r→0≤r→∃ k e,chI L k (j:Int) e∧Skips L (j:Int) e∧0≤e∧e < (L.length:Int)∧isW (sgAt L e) [41]=true∧((o=1∧r=e+1)∨(2≤o∧∃ g,g < f∧itemF L g (e+1).toNat (o - 1)=r))
 | _,0,_,j,o,r,_,h,hr=>by
  have:(-1:Int)=r:=h
  omega
 | 0,f+1,hf,_,_,_,_,_,_=>by omega
 | n+1,f+1,hf,j,o,r,ho,h,hr=>by
  by_cases hj:j < L.length
  ·have hj0:(0:Int)≤(j:Int):=by omega
   have hj1:(j:Int) < (L.length:Int):=by omega
   have hjn:((j:Int)).toNat=j:=by omega
   cases h40:isW (sgAt L (j:Int)) [40]
   ·cases h41:isW (sgAt L (j:Int)) [41]
    ·have hp:plainS (sgAt L (j:Int)):=⟨h40,h41⟩
     have hq:=itemF_plain (L:=L) (f:=f) (o:=o) hj0 hj1 hp ho
     rw [hjn] at hq
     rw [hq,show ((j:Int)+1).toNat=j+1 by omega] at h
     obtain ⟨k,e,h1,h2,h3,h4,h5,h6⟩:=parts_of L n f (by omega) (j+1) o r ho h hr
     rw [show ((j+1:Nat):Int)=(j:Int)+1 by omega] at h1 h2
     have hit:=item_one hj0 hj1 hp
     refine ⟨k+1,e,⟨by omega,by rw [hit];exact h1⟩,(skips_one hj0 hj1 hp).trans h2,h3,h4,h5,?_⟩
     rcases h6 with h6 | ⟨a,g,hg,h6⟩
     ·exact Or.inl h6
     ·exact Or.inr ⟨a,g,by omega,h6⟩
    ·refine ⟨0,(j:Int),rfl,skips_at hj0 (by omega),hj0,hj1,h41,?_⟩
     by_cases ho1:o=1
     ·subst ho1
      have hq:=itemF_last (L:=L) (f:=f) hj0 hj1 h40 h41
      rw [hjn] at hq
      exact Or.inl ⟨rfl,by rw [← h,hq]⟩
     ·obtain ⟨o',rfl⟩:∃ q,o=q+1:=⟨o - 1,by omega⟩
      have hq:=itemF_shut (L:=L) (f:=f) (o:=o') hj0 hj1 h40 h41 (by omega)
      rw [hjn] at hq
      rw [hq] at h
      exact Or.inr ⟨by omega,f,by omega,h⟩
   ·have hq:=itemF_open (L:=L) (f:=f) (o:=o) hj0 hj1 h40
    rw [hjn] at hq
    rw [hq,show ((j:Int)+1).toNat=j+1 by omega] at h
    obtain ⟨k,e,h1,h2,h3,h4,h5,h6⟩:=parts_of L n f (by omega) (j+1) (o+1) r (by omega) h hr
    rw [show ((j+1:Nat):Int)=(j:Int)+1 by omega] at h1 h2
    obtain ⟨hs,hit⟩:=skips_wrap hj0 hj1 h40 h2 h4 h5
    rcases h6 with ⟨a,_⟩ | ⟨_,g,hg,h6⟩
    ·omega
    ·rw [show o+1 - 1=o by omega] at h6
     obtain ⟨k',e',h1',h2',h3',h4',h5',h6'⟩:=parts_of L n g (by omega) (e+1).toNat o r ho h6 hr
     rw [show (((e+1).toNat:Nat):Int)=e+1 by omega] at h1' h2'
     refine ⟨k'+1,e',⟨by omega,by rw [hit];exact h1'⟩,hs.trans h2',h3',h4',h5',?_⟩
     rcases h6' with h6' | ⟨a,g',hg',h6'⟩
     ·exact Or.inl h6'
     ·exact Or.inr ⟨a,g',by omega,h6'⟩
  ·exfalso
   unfold itemF at h
   rw [if_neg hj] at h
   omega
theorem item_parts (ho:isW (sgAt L i) [40]=true) (h:0≤itemE L i):∃ k e,chI L k (i+1) e∧0≤e∧e < (L.length:Int)∧isW (sgAt L e) [41]=true∧itemE L i=e+1:=by
 obtain ⟨h0,h1⟩:=sgAt_open ho
 have hq:=itemF_open (L:=L) (f:=L.length) (o:=0) h0 h1 ho
 have he:itemE L i=itemF L (L.length+1) i.toNat 0:=by unfold itemE;rw [if_neg (by omega)]
 obtain ⟨k,e,a,_,b,c,d,r⟩:=parts_of L _ _ (Nat.le_refl _) (i+1).toNat 1 (itemE L i) (Nat.le_refl _) (by rw [he,hq]) h
 rw [show (((i+1).toNat:Nat):Int)=i+1 by omega] at a
 rcases r with ⟨_,r⟩ | ⟨r,_⟩
 ·exact ⟨k,e,a,b,c,d,r⟩
 ·omega
theorem firstZ_no (L:List ByteArray):∀ (f i o:Nat) (d:Int),itemF L f i o=-1→(firstZ (seqF L f i (o:Int)) d).1=-1
 | 0,_,_,_,_=>rfl
 | f+1,i,o,d,h=>by
  by_cases hc:i < L.length∧signB (L.getD i ⟨#[]⟩)=true∧0≤opN (L.getD i ⟨#[]⟩) (o:Int)
  ·rw [seqF_in hc]
   simp only [firstZ]
   unfold itemF at h
   rw [if_pos hc.1] at h
   have hop:=hc.2.2
   cases h40:isW (L.getD i ⟨#[]⟩) [40]
   ·rw [h40] at h
    cases h41:isW (L.getD i ⟨#[]⟩) [41]
    ·rw [h41] at h
     have e1:opN (L.getD i ⟨#[]⟩) (o:Int)=(o:Int):=by unfold opN;rw [h40,h41];rfl
     rw [e1]
     simp only [Bool.false_eq_true,if_false] at h
     by_cases ho:o=0
     ·rw [if_pos ho] at h
      omega
     ·rw [if_neg ho] at h
      rw [if_neg (by omega)]
      exact firstZ_no L f (i+1) o _ h
    ·rw [h41] at h
     have e1:opN (L.getD i ⟨#[]⟩) (o:Int)=(o:Int) - 1:=by unfold opN;rw [h40,h41];rfl
     rw [e1] at hop ⊢
     simp only [Bool.false_eq_true,if_false,if_true] at h
     rw [if_neg (by omega)] at h
     by_cases ho:o=1
     ·rw [if_pos ho] at h
      omega
     ·rw [if_neg ho] at h
      rw [if_neg (by omega),show (o:Int) - 1=((o - 1:Nat):Int) by omega]
      exact firstZ_no L f (i+1) (o - 1) _ h
   ·rw [h40] at h
    have e1:opN (L.getD i ⟨#[]⟩) (o:Int)=((o+1:Nat):Int):=by unfold opN;rw [h40];rfl
    rw [e1]
    simp only [if_true] at h
    rw [if_neg (by omega)]
    exact firstZ_no L f (i+1) (o+1) _ h
  ·rw [seqF_out hc]
   rfl
theorem sgAt_sign (hs:signsB L=true) (h0:0≤i) (h1:i < (L.length:Int)):signB (sgAt L i)=true:=by
 rw [sgAt_in h0 h1]
 unfold signsB at hs
 exact List.all_eq_true.mp hs _ (List.getElem_mem _)
theorem meas_it (hs:signsB L=true) (i:Int):(measZ L i).1=itemE L i:=by
 have hE:=itemE_ends L i
 unfold Ends at hE
 rcases hE with hE | hE
 ·rw [hE]
  unfold measZ
  split
  ·rfl
  ·rename_i h0
   refine firstZ_no L _ _ 0 _ ?_
   rw [← hE]
   unfold itemE
   rw [if_neg h0]
 ·rw [measZ_item (by omega) (fun k h1 h2=>sgAt_sign hs (by omega) (by omega))]
end
theorem inB_append (X Y:List ByteArray) (s:ByteArray):inB (X++Y) s=(inB X s || inB Y s):=by simp [inB]
theorem any_same {α:Type} (f g:α→Bool):∀ l:List α,(∀ x∈l,f x=g x)→l.any f=l.any g
 | [],_=>rfl
 | x :: l,h=>by
  rw [List.any_cons,List.any_cons,h x (List.mem_cons_self ..),any_same f g l fun y hy=>h y (List.mem_cons_of_mem _ hy)]
theorem twice_snoc (X:List ByteArray) (s:ByteArray):twiceB (X++[s])=(twiceB X || inB X s):=by
 unfold twiceB
 rw [List.length_append,List.length_singleton,List.range_succ,List.any_append]
 congr 1
 ·refine any_same _ _ _ fun i hi=>?_
  have hl:=List.mem_range.1 hi
  rw [List.take_append_of_le_length (by omega)]
  congr 1
  simp [List.getD,List.getElem?_append_left hl]
 ·simp
noncomputable def plcD (L:List ByteArray) (i:Int):List Int :=
 if isW (sgAt L (i+1)) [108,101,116] then [i+2]
 else if isW (sgAt L (i+1)) [116,97,107,101] then chainP L (fm L 5 (i+4) - (i+3)).toNat (i+3)
 else if isW (sgAt L (i+1)) [118,97,114,115] || isW (sgAt L (i+1)) [104,105,100,100,101,110] then chainP L (fm L 5 (i+2) - (i+2)).toNat (i+2)
 else []
def hidB (L:List ByteArray) (i:Int):Bool:=isW (sgAt L (i+1)) [104,105,100,100,101,110]
section
variable {L:List ByteArray} {i:Int}
theorem piece_hid (b:Bool) (h:b≠hidB L i):pieceD L b i=[]∨hidB L i=false:=by
 cases hb:hidB L i
 ·exact Or.inr rfl
 ·left
  rw [hb] at h
  have e:b=false:=by cases b <;> simp_all
  subst e
  unfold hidB at hb
  have h1:isW (sgAt L (i+1)) [118,97,114,115]=false:=isW_other hb (by decide)
  have h2:isW (sgAt L (i+1)) [108,101,116]=false:=isW_other hb (by decide)
  have h3:isW (sgAt L (i+1)) [116,97,107,101]=false:=isW_other hb (by decide)
  unfold pieceD
  rw [h1,h2,h3]
  rfl
theorem piece_not (h:hidB L i=false):pieceD L true i=[]:=by
 unfold hidB at h
 unfold pieceD
 rw [h]
 rfl
theorem piece_was (h:hidB L i=true):pieceD L false i=[]:=(piece_hid false (by rw [h];decide)).resolve_right (by rw [h];decide)
theorem plcD_piece (h:fm L 1 i≠-1):(plcD L i).map (sgAt L)=pieceD L (hidB L i) i∧∀ p∈plcD L i,i < p∧p < fm L 1 i:=by
 have hl:=deed_long h
 unfold plcD
 cases hlet:isW (sgAt L (i+1)) [108,101,116]
 ·cases htk:isW (sgAt L (i+1)) [116,97,107,101]
  ·cases hv:isW (sgAt L (i+1)) [118,97,114,115]
   ·cases hh:isW (sgAt L (i+1)) [104,105,100,100,101,110]
    ·refine ⟨?_,fun p hp=>by cases hp⟩
     unfold hidB pieceD
     rw [hh,hlet,htk,hv]
     rfl
    ·have hq:=names_at (c:=[104,105,100,100,101,110]) h (isW_eq hh) deedH_hidden
     obtain ⟨h1,h2,h3,h4,h5⟩:=hq
     obtain ⟨a,b,c⟩:=chI_names (L:=L) (fm L 5 (i+2) - (i+2)).toNat (i+2) (by omega) (by omega) (fun k h6 h7=>h4 k h6 (by omega))
     rw [show i+2+((fm L 5 (i+2) - (i+2)).toNat:Int)=fm L 5 (i+2) by omega] at b c
     refine ⟨?_,fun p hp=>?_⟩
     ·unfold hidB pieceD
      rw [hh]
      exact b
     ·have:=c p hp
      omega
   ·have hq:=names_at (c:=[118,97,114,115]) h (isW_eq hv) deedH_vars
    obtain ⟨h1,h2,h3,h4,h5⟩:=hq
    obtain ⟨a,b,c⟩:=chI_names (L:=L) (fm L 5 (i+2) - (i+2)).toNat (i+2) (by omega) (by omega) (fun k h6 h7=>h4 k h6 (by omega))
    rw [show i+2+((fm L 5 (i+2) - (i+2)).toNat:Int)=fm L 5 (i+2) by omega] at b c
    refine ⟨?_,fun p hp=>?_⟩
    ·unfold hidB pieceD
     have h6:isW (sgAt L (i+1)) [104,105,100,100,101,110]=false:=isW_other hv (by decide)
     rw [hv,h6]
     exact b
    ·have:=c p hp
     omega
  ·obtain ⟨h1,h2,h3,h4,h5,h6⟩:=take_at h (isW_eq htk)
   obtain ⟨a,b,c⟩:=chI_names (L:=L) (fm L 5 (i+4) - (i+3)).toNat (i+3) (by omega) (by omega) (fun k h7 h8=>h4 k h7 (by omega))
   rw [show i+3+((fm L 5 (i+4) - (i+3)).toNat:Int)=fm L 5 (i+4) by omega] at b c
   refine ⟨?_,fun p hp=>?_⟩
   ·unfold hidB pieceD
    have h7:isW (sgAt L (i+1)) [104,105,100,100,101,110]=false:=isW_other htk (by decide)
    have h8:isW (sgAt L (i+1)) [118,97,114,115]=false:=isW_other htk (by decide)
    rw [htk,hlet,h7,h8]
    exact b
   ·have:=c p hp
    omega
 ·obtain ⟨h1,h2,h3⟩:=let_at h (isW_eq hlet)
  refine ⟨?_,fun p hp=>?_⟩
  ·unfold hidB pieceD
   have h7:isW (sgAt L (i+1)) [104,105,100,100,101,110]=false:=isW_other hlet (by decide)
   have h8:isW (sgAt L (i+1)) [118,97,114,115]=false:=isW_other hlet (by decide)
   rw [hlet,h7,h8]
   rfl
  ·have hp':p∈[i+2]:=hp
   rw [List.mem_singleton] at hp'
   omega
end
end Go.Proofs.YtdgihicpjonjgaaGreatDoor
namespace Go.Proofs.YtdgihicpjonjgaaGreatDoor
open Go.RowKit
theorem putL_cons (x s:ByteArray) (X:List ByteArray):putL (x :: X) s=if ltB x s=true then x :: putL X s else if (x.toList == s.toList)=true then x :: X else s :: x :: X:=by
 by_cases h:ltB x s=true
 ·rw [if_pos h]
  have e:posN (x :: X) s=posN X s+1:=by unfold posN;simp [h]
  unfold putL
  rw [e]
  have e2:(x :: X).getD (posN X s+1) ⟨#[]⟩=X.getD (posN X s) ⟨#[]⟩:=by simp [List.getD]
  have e3:decide (posN X s+1 < (x :: X).length)=decide (posN X s < X.length):=by simp
  rw [e2,e3]
  split
  ·rfl
  ·rfl
 ·rw [if_neg h]
  have e:posN (x :: X) s=0:=by unfold posN;simp [h]
  unfold putL
  rw [e]
  have e2:(x :: X).getD 0 ⟨#[]⟩=x:=rfl
  have e3:decide (0 < (x :: X).length)=true:=by simp
  rw [e2,e3,Bool.and_true]
  split
  ·rfl
  ·rfl
theorem putL_mem:∀ (X:List ByteArray) (s t:ByteArray),t∈putL X s↔t=s∨t∈X
 | [],s,t=>by
  have:putL [] s=[s]:=by unfold putL posN;simp
  rw [this]
  simp
 | x :: X,s,t=>by
  rw [putL_cons]
  split
  ·rw [List.mem_cons,putL_mem X s t,List.mem_cons]
   constructor
   ·rintro (h | h | h)
    ·exact Or.inr (Or.inl h)
    ·exact Or.inl h
    ·exact Or.inr (Or.inr h)
   ·rintro (h | h | h)
    ·exact Or.inr (Or.inl h)
    ·exact Or.inl h
    ·exact Or.inr (Or.inr h)
  ·split
   ·rename_i h1
    have e:x=s:=by
     rw [ByteArray.toList_eq,ByteArray.toList_eq,beq_iff_eq] at h1
     exact bytes_ext h1
    constructor
    ·exact fun h=>Or.inr h
    ·rintro (h | h)
     ·rw [h,e];exact List.mem_cons_self ..
     ·exact h
   ·rw [List.mem_cons]
theorem putAll_mem:∀ (Y X:List ByteArray) (t:ByteArray),t∈putAll X Y↔t∈X∨t∈Y
 | [],X,t=>by simp [putAll]
 | y :: Y,X,t=>by
  have e:putAll X (y :: Y)=putAll (putL X y) Y:=rfl
  rw [e,putAll_mem Y (putL X y) t,putL_mem,List.mem_cons]
  constructor
  ·rintro ((h | h) | h)
   ·exact Or.inr (Or.inl h)
   ·exact Or.inl h
   ·exact Or.inr (Or.inr h)
  ·rintro (h | h | h)
   ·exact Or.inl (Or.inr h)
   ·exact Or.inl (Or.inl h)
   ·exact Or.inr h
end Go.Proofs.YtdgihicpjonjgaaGreatDoor
