import Derived.Test.YtdojfommmpnbgaaGreatDoorKAK
import Derived.Lib.ItoaNum
namespace Go.Proofs.YtdojfommmpnbgaaGreatDoor
open Go.RowKit
def bJ(L:af):af:=dp [] (L.filter bt)
theorem Jj(L:af)(s:ByteArray):s∈bJ L↔s∈L∧bt s=true:=by
 unfold bJ;rw[rq,List.mem_filter];simp
def vN(n:Nat):ByteArray:=⟨(118::Lib.decDigits n).toArray⟩
theorem yZ:∀(n a b:Nat),a≤n→Lib.decDigits a=Lib.decDigits b→a=b
 |n,a,b,ha,h=>by
  have hs:∀x y:Nat,x<10→y<10→UInt8.ofNat (48+x)=UInt8.ofNat (48+y)→x=y:=fun x y hx hy e=>by
   have:=congrArg UInt8.toNat e;simp at this;omega
  have hl:∀u,(Lib.decDigits u).length≥1:=fun u=>by rw[Lib.decDigits_length];exact Lib.nDigits_pos u
  by_cases h1:a<10
  ·by_cases h2:b<10
   ·rw[Lib.decDigits_one h1,Lib.decDigits_one h2]at h;injection h with h _;exact hs a b h1 h2 h
   ·rw[Lib.decDigits_one h1,Lib.decDigits,dif_neg h2]at h;have:=congrArg List.length h;have h3:=hl (b/10);simp at this;rw[this]at h3;simp at h3
  ·by_cases h2:b<10
   ·rw[Lib.decDigits_one h2,Lib.decDigits,dif_neg h1]at h;have:=congrArg List.length h;have h3:=hl (a/10);simp at this;rw[this]at h3;simp at h3
   ·rw[Lib.decDigits,dif_neg h1,Lib.decDigits.eq_def b,dif_neg h2]at h;obtain⟨e1,e2⟩:=List.append_inj' h rfl;injection e2 with e2 _;have e3:=hs _ _ (Nat.mod_lt _ (by decide)) (Nat.mod_lt _ (by decide)) e2;obtain⟨m,rfl⟩:∃m,n=m+1:=⟨n-1,by omega⟩;have e4:=yZ m (a/10) (b/10) (by omega) e1;omega
theorem uE:∀n u,u≤n→(Lib.decDigits u).length≤u+1
 |n,u,hu=>by
  rw[Lib.decDigits_length];by_cases h:u<10
  ·rw[Lib.nDigits_small h];omega
  ·rw[Lib.nDigits_big h];obtain⟨m,rfl⟩:∃m,n=m+1:=⟨n-1,by omega⟩;have:=uE m (u/10) (by omega);rw[Lib.decDigits_length]at this;omega
theorem N1{a b:Nat}(h:vN a=vN b):a=b:=by
 unfold vN at h;injection h with h;have h2:=congrArg Array.toList h;injection h2 with _ h3;exact yZ a a b (Nat.le_refl _) h3
theorem zL:∀(A X:af),A.Nodup→(∀a∈A,a∈X)→A.length≤X.length
 |[],X,_,_=>Nat.zero_le _
 |a::A,X,hn,hs=>by
  rw[List.nodup_cons]at hn;obtain⟨P,Q,rfl⟩:=List.append_of_mem (hs a (List.mem_cons_self ..));have:=zL A (P++Q) hn.2 (fun b hb=>by
   have hb':=hs b (List.mem_cons_of_mem _ hb);have hne:b≠a:=fun e=>hn.1 (by rw[←e];exact hb)
   rw[List.mem_append,List.mem_cons]at hb';rw[List.mem_append];rcases hb' with h|h|h
   ·exact Or.inl h
   ·exact absurd h hne
   ·exact Or.inr h)
  simp only[List.length_append,List.length_cons]at this ⊢;omega
theorem NZ(X:af)(n:Nat):∃m,n≤m∧m≤n+X.length∧bc X (vN m)=false:=by
 by_cases h:∃m,n≤m∧m≤n+X.length∧bc X (vN m)=false
 ·exact h
 ·exfalso;have hall:∀a∈(List.range (X.length+1)).map (fun i=>vN (n+i)),a∈X:=fun a ha=>by
   obtain⟨i,hi,rfl⟩:=List.mem_map.mp ha;rw[List.mem_range]at hi;cases hq:bc X (vN (n+i))
   ·exact absurd ⟨n+i,by omega,by omega,hq⟩ h
   ·exact(pd X _).mp hq
  have hnd:((List.range (X.length+1)).map (fun i=>vN (n+i))).Nodup:=by
   rw[List.nodup_iff_pairwise_ne,List.pairwise_map];refine List.Pairwise.imp ?_ (List.nodup_iff_pairwise_ne.mp List.nodup_range);intro a b hab he;have:=N1 he;omega
  have:=zL _ X hnd hall;rw[List.length_map,List.length_range]at this;omega
def nM(X:af):Nat→Nat→Nat
 |0,n=>n
 |f+1,n=>if bc X (vN n)then nM X f (n+1)else n
def cO(X:af)(n:Nat):Nat:=nM X (X.length+1) n
theorem zV(X:af):∀f n m,n≤m→m<n+f→bc X (vN m)=false→n≤nM X f n∧nM X f n≤m∧bc X (vN (nM X f n))=false∧∀k,n≤k→k<nM X f n→bc X (vN k)=true
 |0,n,m,h1,h2,_=>by omega
 |f+1,n,m,h1,h2,h3=>by
  unfold nM;cases hq:bc X (vN n)
  ·simp only[Bool.false_eq_true,if_false];exact⟨Nat.le_refl _,h1,hq,fun k a b=>by omega⟩
  ·simp only[if_true];have hne:n≠m:=fun e=>by rw[e,h3]at hq;cases hq
   obtain⟨a,b,c,d⟩:=zV X f (n+1) m (by omega) (by omega) h3;refine⟨by omega,b,c,fun k e1 e2=>?_⟩;by_cases hk:k=n
   ·rw[hk];exact hq
   ·exact d k (by omega) e2
theorem qC(X:af)(n:Nat):n≤cO X n∧cO X n≤n+X.length∧bc X (vN (cO X n))=false∧∀k,n≤k→k<cO X n→bc X (vN k)=true:=by
 obtain⟨m,h1,h2,h3⟩:=NZ X n;obtain⟨a,b,c,d⟩:=zV X (X.length+1) n m h1 (by omega) h3;exact⟨a,Nat.le_trans b h2,c,d⟩
def bL(X:af):Nat→Nat→af
 |0,_=>[]
 |k+1,n=>vN (cO X n)::bL X k (cO X n+1)
theorem oW(X:af):∀k n,(bL X k n).length=k
 |0,_=>rfl
 |k+1,n=>by
  show(bL X k (cO X n+1)).length+1=k+1;rw[oW X k]
end Go.Proofs.YtdojfommmpnbgaaGreatDoor
