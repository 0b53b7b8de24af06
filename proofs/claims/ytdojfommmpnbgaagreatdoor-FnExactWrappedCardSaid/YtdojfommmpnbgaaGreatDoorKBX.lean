import Derived.Test.YtdojfommmpnbgaaGreatDoorKBT
namespace Go.Proofs.YtdojfommmpnbgaaGreatDoor
open Go.RowKit
theorem BI:∀k u:Nat,u<10^(k+1)→Lib.nDigits u≤k+1
 |0,u,h=>by rw[Lib.nDigits_small (by simpa using h)];omega
 |k+1,u,h=>by
  by_cases h1:u<10
  ·rw[Lib.nDigits_small h1];omega
  ·rw[Lib.nDigits_big h1];have:=BI k (u/10) (by rw[Nat.pow_succ]at h;omega);omega
theorem N0(n:Nat)(h:n<10000000):Gs (vN n):=by
 have hl:=BI 6 n (by simpa using h);have hz:(vN n).size=Lib.nDigits n+1:=by
  show(118::Lib.decDigits n).toArray.size=_;rw[List.size_toArray,List.length_cons,Lib.decDigits_length]
 have h0:aI (vN n) 0=118:=by
  rw[fP (by omega)];rfl
 have hd:∀j,1≤j→j<(vN n).size→ir (aI (vN n) j)=true:=fun j h1 h2=>by
  obtain⟨k,rfl⟩:∃k,j=k+1:=⟨j-1,by omega⟩;have hk:k<(Lib.decDigits n).length:=by rw[Lib.decDigits_length];omega
  obtain⟨x,hx⟩:∃x,x=(Lib.decDigits n)[k]:=⟨_,rfl⟩;have hb:aI (vN n) (k+1)=(x.toNat:Int):=by
   rw[fP h2,hx];rfl
  have hm:x∈Lib.decDigits n:=by rw[hx];exact List.getElem_mem hk
  rw[Lib.decDigits_eq]at hm;obtain⟨t,_,ht⟩:=List.mem_map.mp hm;have hv:(x.toNat:Int)=48+((n/10^(Lib.nDigits n-1-t)%10:Nat):Int):=by
   rw[←ht];show((UInt8.ofNat (48+n/10^(Lib.nDigits n-1-t)%10)).toNat:Int)=_;rw[UInt8.toNat_ofNat'];omega
  rw[hb,hv];unfold ir bI;rw[Bool.or_eq_true];right;rw[Bool.and_eq_true,decide_eq_true_eq,decide_eq_true_eq];omega
 have hn:bt (vN n)=true:=by
  unfold bt;rw[h0,hz,Bool.and_eq_true,Bool.and_eq_true,Bool.and_eq_true];refine⟨⟨⟨decide_eq_true (by omega),decide_eq_true (by omega)⟩,rfl⟩,?_⟩;rw[uh];intro j _ hj;by_cases hj0:j=0
  ·rw[hj0,h0];rfl
  ·exact hd j (by omega) (by omega)
 refine⟨?_,by unfold maxLen;omega⟩;unfold bT bn;rw[hn];rfl
theorem zW(X:af):∀k n,n+k*(X.length+1)<10000000→∀s∈bL X k n,Gs s
 |0,_,_,s,h=>by cases h
 |k+1,n,hn,s,h=>by
  obtain⟨f0,f1,_,_⟩:=qC X n;rw[Nat.succ_mul]at hn;rcases List.mem_cons.mp h with rfl|h
  ·exact N0 _ (by omega)
  ·exact zW X k _ (by omega) s h
theorem zE(L:af)(hL:L.length≤2000)(d:Int):bB (ji L d)∧Gs (ji L d):=by
 refine⟨EY L d,?_⟩;unfold ji;cases h:(bL (bJ L) 2001 0)[aX (aL L) d]? with
 |none=>exact pr _ (by simp[lY])
 |some s =>
  have hx:=wm L;have h2:2001*((bJ L).length+1)≤2001*2001:=Nat.mul_le_mul_left _ (by omega);exact zW _ _ _ (by omega) _ (List.mem_of_getElem? h)
end Go.Proofs.YtdojfommmpnbgaaGreatDoor
