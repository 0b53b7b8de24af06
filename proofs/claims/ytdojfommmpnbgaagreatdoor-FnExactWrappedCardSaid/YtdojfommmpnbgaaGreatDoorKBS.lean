import Derived.Test.YtdojfommmpnbgaaGreatDoorKBR
import Derived.Test.YtdojfommmpnbgaaGreatDoorKAQ
import Derived.Shelf.Spec.SearchS
set_option maxHeartbeats 4000000
namespace Go.Proofs.YtdojfommmpnbgaaGreatDoor
open Go.RowKit Go.Proofs.Tryz
theorem yH(s:ByteArray):∀X:af,iE X→∃k,k≤X.length∧(∀j (h:j<X.length),j<k→cV X[j] s=true)∧(∀j (h:j<X.length),k≤j→cV X[j] s=false)
 |[],_=>⟨0,Nat.le_refl _,fun j h=>absurd h (Nat.not_lt_zero _),fun j h=>absurd h (Nat.not_lt_zero _)⟩
 |x::X,hR=>by
  unfold iE at hR;rw[List.pairwise_cons]at hR;cases hq:cV x s
  ·refine⟨0,Nat.zero_le _,fun j _ hj=>absurd hj (Nat.not_lt_zero _),fun j hj _=>?_⟩;cases j with
   |zero=>exact hq
   |succ j =>
    have hj':j<X.length:=by simpa using hj
    show cV X[j] s=false;cases hz:cV X[j] s
    ·rfl
    ·have:=qW (hR.1 _ (List.getElem_mem hj')) hz;rw[this]at hq;cases hq
  ·obtain⟨k,h1,h2,h3⟩:=yH s X hR.2;refine⟨k+1,by simpa using h1,fun j hj hk=>?_,fun j hj hk=>?_⟩
   ·cases j with
    |zero=>exact hq
    |succ j=>exact h2 j (by simpa using hj) (by omega)
   ·cases j with
    |zero=>omega
    |succ j=>exact h3 j (by simpa using hj) (by omega)
def kz(X:af)(s:ByteArray)(j:Nat):ByteArray:=if j<X.length then gT X j else s
theorem LY(X:af)(s:ByteArray)(hR:iE X):decide (Lib.bsGo (fun t=>Op.bytesLess (kz X s t).toList s.toList) X.length 0 X.length<X.length∧kz X s (Lib.bsGo (fun t=>Op.bytesLess (kz X s t).toList s.toList) X.length 0 X.length)=s)=bc X s:=by
 obtain⟨k,h1,h2,h3⟩:=yH s X hR;have e:Lib.bsGo (fun t=>Op.bytesLess (kz X s t).toList s.toList) X.length 0 X.length=k:=by
  refine Lib.bsGo_spec _ k (fun t ht=>?_) (fun t ht=>?_) _ _ _ (by omega) (Nat.zero_le _) h1
  ·show cV (kz X s t) s=true;unfold kz;rw[if_pos (by omega),lU (by omega)];exact h2 t (by omega) ht
  ·show cV (kz X s t) s=false;unfold kz;by_cases hl:t<X.length
   ·rw[if_pos hl,lU hl];exact h3 t hl ht
   ·rw[if_neg hl];exact nU s
 rw[e];by_cases hm:s∈X
 ·rw[(pd X s).mpr hm,decide_eq_true_eq];obtain⟨m,hml,hme⟩:=List.getElem_of_mem hm;have hkm:k≤m:=by
   by_cases hlt:m<k
   ·have:=h2 m hml hlt;rw[hme,nU]at this;cases this
   ·omega
  have hk:k=m:=by
   by_cases hlt:k<m
   ·have a1:=List.pairwise_iff_getElem.mp hR k m (by omega) hml hlt;rw[hme,h3 k (by omega) (Nat.le_refl _)]at a1;cases a1
   ·omega
  subst hk;refine⟨hml,?_⟩;unfold kz;rw[if_pos hml,lU hml];exact hme
 ·have hf:bc X s=false:=by
   cases hq:bc X s
   ·rfl
   ·exact absurd ((pd X s).mp hq) hm
  rw[hf,decide_eq_false_iff_not]
  rintro⟨a1,a2⟩
  unfold kz at a2
  rw[if_pos a1,lU a1]at a2
  exact hm (by rw[←a2];exact List.getElem_mem _)
theorem below_drewN(w:World)(q:Nat):ai w (w.drewN q):=⟨rfl,rfl,rfl,Nat.le_refl _,fun _ _=>rfl⟩
theorem Gv(g n cp:Nat)(X:af)(s:ByteArray)(w:World)(h:eW w g X)(hR:iE X)(hn:n=X.length)(hl:n≤9000000) :
  ah 71 #[.slice (some ⟨g,0,none⟩) n cp,.string s] w (aA (.bool (bc X s)) w):=by
 have HS:Hid (∀W,eW W g X→ah 133 #[.slice (some ⟨g,0,none⟩) n cp,.string s] W fun e w'=>(∃i,e=.returned (.tuple #[.int .i64 i,.bool (bc X s)]))∧ai W w'):=fun W hW=>by
  refine(Tryz.slices_BinarySearch_string g 0 n cp (kz X s) s W (by omega) (fun j hj=>?_)).mono ?_
  ·unfold kz;rw[if_pos (by omega),lU (by omega),Nat.zero_add];exact(hW.2 j (by omega)).1
  ·rintro e w' ⟨rfl,q,rfl⟩;rw[hn,LY X s hR];exact⟨⟨_,rfl⟩,below_drewN W q⟩
 clear hn;go_enter func71,ntmps71;go_wp2_with fail;refine(HS.out _ h).mono ?_;rintro e w1 ⟨⟨i,rfl⟩,hb⟩;go_wp2;go_ret;exact⟨rfl,hb⟩
theorem zZ(n:Nat)(w:World)(hn:n≤999999999)(ht:dj w) :
  ah 41 #[.int .i64 n] w (aA (.string (vN n)) w):=by
 have HI:Hid (Lib.itoa (n:Int)=Lib.decDigits n):=Az n;have hl:¬9223372036854775807<1+(Lib.decDigits n).length:=by
  have:=uE n n (Nat.le_refl _);omega
 have HV:Hid ((⟨#[118]⟩++⟨(Lib.decDigits n).toArray⟩:ByteArray)=vN n):=lO 118 _;have h0:(-999999999:Int)≤(n:Int):=by omega
 have h1:(n:Int)≤999999999:=by omega
 go_enter func41,ntmps41;go_wp2_with fail;refine(zU (n:Int) _ h0 h1 ht).mono ?_;rintro e w1 ⟨rfl,hb⟩;rw[HI.out];go_wp2;go_ret;exact⟨by rw[←HV.out];rfl,hb⟩
theorem FJ(g m cp:Nat)(X:af)(n:Nat)(w:World)(h:eW w g X)(hR:iE X)(hm:m=X.length)(hX:X.length≤2000000)(hn:n≤900000000)(ht:dj w) :
  ah 40 #[.slice (some ⟨g,0,none⟩) m cp,.int .i64 n] w (aA (.int .i64 (cO X n:Int)) w):=by
 obtain⟨f0,f1,f2,f3⟩:=qC X n;have HA:Hid (∀W s,eW W g X→ah 71 #[.slice (some ⟨g,0,none⟩) m cp,.string s] W (aA (.bool (bc X s)) W)):=fun W s hW=>Gv g m cp X s W hW hR hm (by omega)
 clear hm hR;go_enter func40,ntmps40;go_wp2;go_loopw [5] (fun v5 wr=>∃k:Nat,v5=.int .i64 (k:Int)∧n≤k∧k≤cO X n∧ai w wr) (fun v5 _=>cO X n-(intOf v5).toNat)
 case atStart=>exact⟨n,rfl,Nat.le_refl _,f0,Below.refl _ _⟩
 case round =>
  obtain⟨k,rfl,hk0,hk1,hB⟩:=hrel;go_wp2_with fail;refine(zZ k _ (by omega) (ig ht hB)).mono ?_;rintro e w1 ⟨rfl,hb1⟩;have hB1:=aw hB hb1;go_wp2_with fail;refine(HA.out _ _ (h.call hB1)).mono ?_;rintro e w2 ⟨rfl,hb2⟩;have hB2:=aw hB1 hb2;by_cases hk:k<cO X n
  ·rw[f3 k hk0 hk];go_wp2;go_roundw
   case rel=>exact⟨k+1,by go_num,by omega,by omega,hB2⟩
   case measure=>simp[intOf];omega
  ·have e1:k=cO X n:=by omega
   have HE:=aj (by rw[←e1]:(k:Int)=(cO X n:Int));have hz:bc X (vN k)=false:=by rw[e1];exact f2
   rw[hz];clear f2 f3 e1 hz;go_wp2;go_ret;exact⟨by rw[←HE.out];rfl,hB2⟩
theorem Jk(L:af):iE (bJ L):=wM _ _ List.Pairwise.nil
set_option maxHeartbeats 4000000 in
theorem FI(a:Option Addr)(cap:Nat)(L:af)(N:Nat)(w:World)(ht:dj w)(h:aD w a L)(hL:L.length≤1048576)(hn:N*(L.length+1)≤900000000) :
  ah 21 #[.slice a L.length cap,.int .i64 N] w fun e w'=>∃g n cp,e=.returned (.slice (some ⟨g,0,none⟩) n cp)∧n=(bL (bJ L) N 0).length∧aG w' w.heap.size g n cp (bL (bJ L) N 0)∧ai w w':=by
 obtain⟨i0,hi,hz0,hz1,hz2⟩:=info_parts Tryz.OJ;have hB0:=ay (Below.refl w.heap.size w) (.cells #[] 9);have hO0:(w.alloc (.cells #[] 9)).ownsRow w.heap.size 9 1 (.slice (some ⟨w.heap.size,0,none⟩) 0 0) 0 []:=World.ownsRow_made w #[] 0 (Nat.le_refl _) (Nat.zero_le _) rfl;have hxl:=wm L;have hri:=Jk L;have hN1:N≤900000000:=Nat.le_trans (Nat.le_mul_of_pos_right N (by omega)) hn;have hT:0+N*((bJ L).length+1)≤900000000:=by
  have:=Nat.mul_le_mul_left N (show(bJ L).length+1≤L.length+1 by omega);omega
 have HNI:Hid (∀W,aD W a L→ah 39 #[.slice a L.length cap] W fun e w'=>∃g n cp,e=.returned (.slice (some ⟨g,0,none⟩) n cp)∧n=(bJ L).length∧aG w' W.heap.size g n cp (bJ L)∧ai W w'):=fun W hA=>Jc a cap L W hA hL
 generalize bJ L=X at hxl hT HNI hri ⊢;have hNl:=oW X N 0;obtain⟨M,hM⟩:∃M,M=bL X N 0:=⟨_,rfl⟩;have HM:Hid ([]++bL X N 0=M):=by
  show []++bL X N 0=M;rw[hM];rfl
 rw[←hM]at hNl ⊢;have HMl:=aj hNl;have HRi:=aj hri;clear hM hn hNl hri;go_enter func21,ntmps21;go_wp2_with fail;refine(HNI.out _ (h.call hB0)).mono ?_;rintro e w1 ⟨vg,vn,vc,rfl,hvn,hG1,hb1⟩;have hB1:=aw hB0 hb1;have hO1:=cR hO0 (fun k hk=>hb1.block k (World.ownsRow.lt hO0 k hk).2);obtain⟨hR1,hvg⟩:=hG1.row;have hvg':w.heap.size<vg:=by simp at hvg;omega
 have hvz:=hR1.1;have HVN:=aj hvn;clear hvn hG1 hb1 hO0 hB0 HNI hvg;go_wp2;go_loopw [5,7,12] (fun v5 v7 v12 wr=>∃(j m p g cp n5:Nat) (Y:af),v12=.int .i64 (j:Int)∧j+m=N∧v7=.int .i64 (p:Int)∧v5=.slice (some ⟨g,0,none⟩) n5 cp∧Hid (n5=Y.length)∧p+m*(X.length+1)≤900000000∧Hid (wr.ownsRow w.heap.size 9 1 (.slice (some ⟨g,0,none⟩) n5 cp) n5 (Y.map Value.string))∧Y.length+m≤N∧Hid (Y++bL X m p=M)∧eW wr vg X∧g≠vg∧ai w wr) (fun _ _ v12 _=>N-(intOf v12).toNat)
 case atStart=>exact⟨0,N,0,w.heap.size,0,0,[],rfl,by omega,rfl,rfl,rfl,hT,hO1,by simp,HM.out,hR1,by omega,hB1⟩
 case round =>
  obtain⟨j,m,p,g,cp,n5,Y,rfl,hjm,rfl,rfl,HN5,hp,HO,hY,HR,hR,hne,hB⟩:=hrel;have hvz:vg<wr.heap.size:=hR.1;cases m with
  |zero =>
   have e1:Y=M:=by rw[←HR.out];show Y=Y++[];rw[List.append_nil]
   have HE:Hid (n5=M.length∧aG wr w.heap.size g n5 cp M):=by
    refine⟨by rw[HN5.out,e1],?_⟩;rw[←e1];exact HO.out
   have hj:¬(j:Int)<(N:Int):=by omega
   clear e1 HO hR;go_wp2;go_ret;exact⟨g,n5,cp,rfl,HE.out.1,HE.out.2,hB⟩
  |succ m =>
   obtain⟨f0,f1,_,_⟩:=qC X p;rw[Nat.succ_mul]at hp;have hsz:=hB.size;have HR2:Hid (Y++[vN (cO X p)]++bL X m (cO X p+1)=M):=by
    show Y++[vN (cO X p)]++bL X m (cO X p+1)=M;rw[←HR.out,List.append_assoc];rfl
   have hp2:cO X p+1+m*(X.length+1)≤900000000:=by omega
   have hfr:cO X p≤900000000:=by omega
   have hj:(j:Int)<(N:Int):=by omega
   have HF:Hid (∀W,eW W vg X→dj W→ah 40 #[.slice (some ⟨vg,0,none⟩) vn vc,.int .i64 p] W (aA (.int .i64 (cO X p:Int)) W)):=fun W hW hT=>FJ vg vn vc X p W hW HRi.out HVN.out (by omega) (by omega) hT
   go_wp2_with fail;refine(HF.out _ hR (ig ht hB)).mono ?_;rintro e w2 ⟨rfl,hb2⟩;have hB2:=aw hB hb2;have hR2:=hR.call hb2;have HO2:Hid (w2.ownsRow w.heap.size 9 1 (.slice (some ⟨g,0,none⟩) n5 cp) n5 (Y.map Value.string)):=cR HO.out (fun g hg=>hb2.block g (World.ownsRow.lt HO.out g hg).2);clear HF hR HO hB;generalize cO X p=q at HR2 hp2 hfr ⊢;go_wp2_with fail;refine(zZ q _ (by omega) (ig ht hB2)).mono ?_;rintro e w3 ⟨rfl,hb3⟩;have hB3:=aw hB2 hb3;have hR3:=hR2.call hb3;have HO3:Hid (w3.ownsRow w.heap.size 9 1 (.slice (some ⟨g,0,none⟩) n5 cp) n5 (Y.map Value.string)):=cR HO2.out (fun g hg=>hb3.block g (World.ownsRow.lt HO2.out g hg).2);generalize vN q=t at HR2 ⊢;clear HO2 hR2 hb2 hb3 hB2 HR f0 f1 hp;have hcc2:∀u∈[Value.string t],u.oneCell'=true:=fun u hu=>by simp at hu;subst hu;rfl
   have hn51:n5+1≤900000001:=by rw[HN5.out];omega
   have hcc3:n5+1≤maxLen:=by unfold maxLen;omega
   have hcc4:(n5+1)*16≤140737488355328:=by omega
   have hsz3:=hB3.size;have hcc5:w.heap.size≤(w3.alloc (.cells #[.string t] 9)).heap.size:=by simp;omega
   have hvz3:vg<w3.heap.size:=hR3.1;go_wp2_with (at_builtin;refine j7 _ rfl _ _ 22 rfl w.heap.size 9 i0 (.string ⟨#[]⟩) 1 16 Tryz.underlying22 hi hz0 hz1 hz2 rfl (by decide) _ _ _ rfl (World.ownsRow.alloc HO3.out _) ⟨w3.heap.size,0,none⟩ 1 1 [.string t] rfl rfl (cell_one_new _ _ _) hcc2 hcc3 hcc4 hcc5 ?_)
   intro v' w5 hown' hgrow hwh;obtain⟨g5,c7,rfl⟩:=ownsRow_succ hown';have hw5:g5≠vg:=by
    rcases hwh g5 rfl with e|e
    ·have e2:g=g5:=by simpa[Value.ownBlock]using e
     omega
    ·omega
   have hR5:eW w5 vg X:=by
    have hA:=hR3.call (ay (Below.refl _ _) (.cells #[.string t] 9));have hk:=hgrow.block vg hA.1 (fun e=>hne (by simpa[Value.ownBlock]using e.symm));refine⟨Nat.lt_of_lt_of_le hA.1 hgrow.size,fun i hi=>⟨(World.cell?_of_block (a:=⟨vg,i,none⟩) hk).trans (hA.2 i hi).1,(World.frozen?_of_block (a:=⟨vg,i,none⟩) hk).trans (hA.2 i hi).2⟩⟩
   have HO5:Hid (w5.ownsRow w.heap.size 9 1 (.slice (some ⟨g5,0,none⟩) (n5+1) c7) (n5+1) ((Y++[t]).map Value.string)):=by
    show w5.ownsRow w.heap.size 9 1 (.slice (some ⟨g5,0,none⟩) (n5+1) c7) (n5+1) ((Y++[t]).map Value.string);rw[List.map_append];exact hown'
   have hB5:ai w w5:=(hB3.alloc hB3.size (.cells #[.string t] 9)).grown hgrow (by simp;omega) (fun k hk=>(World.ownsRow.lt HO3.out k hk).1);clear hown' hgrow hwh hcc2 hcc3 hcc4 hcc5 hR3 HO3 hB3;go_wp2;go_roundw
   case rel=>exact⟨j+1,m,q+1,g5,c7,n5+1,Y++[t],by go_num,by omega,by go_num,rfl,(by rw[HN5.out,List.length_append];rfl:n5+1=(Y++[t]).length),hp2,HO5.out,by simp;omega,HR2.out,hR5,hw5,hB5⟩
   case measure=>simp[intOf];omega
end Go.Proofs.YtdojfommmpnbgaaGreatDoor
