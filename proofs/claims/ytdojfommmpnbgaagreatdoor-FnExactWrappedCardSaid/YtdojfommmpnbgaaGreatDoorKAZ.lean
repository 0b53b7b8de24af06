import Derived.Test.YtdojfommmpnbgaaGreatDoorKAX
import Derived.Test.YtdojfommmpnbgaaGreatDoorKAY
import Derived.Deep.RegionWith
set_option maxHeartbeats 2000000
namespace Go.Proofs.YtdojfommmpnbgaaGreatDoor
open Go.RowKit
section
variable {L:af} {i:Int} (r:Nat→Bool→Int→Kn→Ot) (K:Kn)
end
theorem DQ{L:af}{i:Int}(h:aH L i)(ho:ae (aa L i) [40]=false):ic (aa L i)=true:=by
 rcases h with h|h
 ·rw[ln]at h;unfold bR at h;rw[ho]at h;by_cases h1:ic (aa L i)=true
  ·exact h1
  ·rw[if_neg (by decide),if_neg h1]at h;exact absurd rfl h
 ·have:=lR h;rw[ho]at this;cases this
theorem N4{s:ByteArray}(h:fq s=true):aV s=false:=by
 have key:bt s=true→gB s=true:=fun hn=>by
  have h2:=qS ((iY s).mp hn);unfold fq at h;rw[Bool.or_eq_true,Bool.or_eq_true]at h;rcases h with(h|h)|h
  ·have:=mJ ((fk s).mp h);omega
  ·have:=nR ((jI s).mp h);omega
  ·exact CM h
 unfold aV;cases hn:bt s
 ·rfl
 ·rw[key hn];rfl
end Go.Proofs.YtdojfommmpnbgaaGreatDoor
namespace Go.Proofs.YtdojfommmpnbgaaGreatDoor
open Go.RowKit Go.Proofs.Tryz
theorem EM{L:af}{i:Int}(h:fm L 1 i≠-1):ag L i=fm L 1 i:=by
 have hf:=(uY L (8*L.length+40)).2.1 1 i (by decide);rw[jl]at hf;rcases hf with hf|hf
 ·exact absurd hf h
 ·exact hf.2
theorem zt{L:af}{i:Int}(hi:-1≤i)(h:fm L 1 i≠-1):∀k,i≤k→k<fm L 1 i→bT (aa L k)=true:=by
 have hf:=(z6 L (8*L.length+40)).2 1 i hi;rw[jl]at hf;rcases hf with hf|hf
 ·exact absurd hf h
 ·exact hf
theorem EO{L:af}{i:Int}(hi:0≤i)(h:fm L 1 i≠-1):gX L i=(fm L 1 i,eA L i):=by
 have he:=EM h;have hE:=(gr L).1 1 i (by decide);unfold Ends at hE;have hm:=By (L:=L) (i:=i) (by omega) (fun k h1 h2=>zt (by omega) h k h1 (by omega));rw[hm,he]
def jn(L:af):Nat→Int→Bool
 |0,_=>true
 |f+1,i=>if i<(L.length:Int)then(if aF L (8*L.length+40) 1 i<0∨60<eA L i then false else jn L f (aF L (8*L.length+40) 1 i))else true
theorem KO{L:af}{f:Nat}{i:Int}(h:i<(L.length:Int))(hp:0≤fm L 1 i)(hd:¬60<eA L i):jn L (f+1) i=jn L f (fm L 1 i):=by
 show(if i<(L.length:Int)then(if aF L (8*L.length+40) 1 i<0∨60<eA L i then false else jn L f (aF L (8*L.length+40) 1 i))else true)=_;rw[if_pos h,jl,if_neg (by omega)]
theorem KP{L:af}{f:Nat}{i:Int}(h:¬i<(L.length:Int)):jn L f i=true:=by
 cases f with
 |zero=>rfl
 |succ f =>
  unfold jn;rw[if_neg h]
theorem Co(L:af):∀(f:Nat) (i:Int),0≤i→i≤(L.length:Int)→(L.length:Int)<i+f→jn L f i=iN L f i
 |0,i,_,h1,h2=>by omega
 |f+1,i,h0,h1,h2=>by
  by_cases hin:i<(L.length:Int)
  ·unfold jn;rw[if_pos hin];have hE:=(gL L (8*L.length+40)).1 1 i (by decide);by_cases hd:60<eA L i
   ·rw[if_pos (Or.inr hd),tw ⟨h0,hin⟩ hd]
   ·rw[tA ⟨h0,hin⟩ hd];generalize aF L (8*L.length+40) 1 i=y at hE;unfold Ends at hE;by_cases hy:y<0
    ·rw[if_pos (Or.inl hy),oj (by omega)];exact(decide_eq_false (by omega)).symm
    ·rw[if_neg (by omega)];exact Co L f y (by omega) (by omega) (by omega)
  ·unfold jn;rw[if_neg hin,oj (by omega)];exact(decide_eq_true (by omega)).symm
theorem Cn(L:af):∀(f:Nat) (i:Int),0≤i→iN L f i=true→∀k,i≤k→k<(L.length:Int)→bT (aa L k)=true
 |0,i,_,h,k,h1,h2=>by
  have:=of_decide_eq_true h;omega
 |f+1,i,h0,h,k,h1,h2=>by
  by_cases hin:i<(L.length:Int)
  ·by_cases hd:60<eA L i
   ·rw[tw ⟨h0,hin⟩ hd]at h;exact absurd h (by decide)
   ·rw[tA ⟨h0,hin⟩ hd]at h;have hE:=(gL L (8*L.length+40)).1 1 i (by decide);rw[jl]at h hE;unfold Ends at hE;have hne:fm L 1 i≠-1:=fun e=>by
     rw[e,oj (by omega)]at h;have:=of_decide_eq_true h;omega
    by_cases hk:k<fm L 1 i
    ·exact zt (by omega) hne k h1 hk
    ·exact Cn L f (fm L 1 i) (by omega) h k (by omega) h2
  ·omega
theorem KS{L:af}(h:L.length≤2000):aR L=jn L (L.length+1) 0:=by
 rw[Co L (L.length+1) 0 (Int.le_refl _) (by omega) (by omega)];unfold aR;rw[decide_eq_true h,Bool.true_and];cases hp:iN L (L.length+1) 0
 ·rw[Bool.and_false]
 ·rw[Bool.and_true];refine C3 fun k hk=>?_
  have:=Cn L (L.length+1) 0 (Int.le_refl _) hp (k:Int) (by omega) (by omega);rwa [eT (by omega) (by omega)]at this
theorem zw(a:Option Addr)(cap:Nat)(L:af)(i:Int)(w:World)(h:aD w a L)(hL:L.length≤1048576) :
  ah 60 #[.slice a L.length cap,.int .i64 i] w (aA (.int .i64 (gX L i).2) w):=by
 obtain⟨m1,m2,hM⟩:∃m1 m2,gX L i=(m1,m2):=⟨_,_,rfl⟩;have HM:=aj hM;clear hM;rw[HM.out];go_enter func60,ntmps60;go_wp2_with fail;refine(BA a cap L i _ h hL).mono ?_;rintro e w1 ⟨rfl,hb1⟩;rw[HM.out];go_wp2;go_ret;exact⟨rfl,hb1⟩
theorem wI(a:Option Addr)(cap:Nat)(L:af)(w:World)(ht:dj w)(h:aD w a L)(hL:L.length≤1048576) :
  ah 33 #[.slice a L.length cap] w (aA (.bool (aR L)) w):=by
 by_cases hbig:2000<L.length
 ·have HP:=aj (by unfold aR;rw[decide_eq_false (by omega)];rfl:aR L=false);go_enter func33,ntmps33;go_wp2;go_ret;exact⟨by rw[HP.out];rfl,Below.refl _ _⟩
 have HP:Hid (aR L=jn L (L.length+1) 0):=KS (by omega);go_enter func33,ntmps33;go_wp2_with fail;refine(DP _).mono ?_;rintro e w1 ⟨rfl,hT1,hb1⟩;go_wp2;go_loopw [4] (fun v wr=>∃(f:Nat) (x:Int),v=.int .i64 x∧0≤x∧x≤(L.length:Int)∧(L.length:Int)<x+f∧Hid (jn L f x=aR L)∧ai w1 wr) (fun v _=>aB L (intOf v))
 case atStart=>exact⟨L.length+1,0,rfl,by omega,by omega,by omega,HP.out.symm,Below.refl _ _⟩
 case round =>
  obtain⟨f,x,rfl,hx0,hx1,hf,HT,hB⟩:=hrel;have hBw:=aw hb1 hB;by_cases hin:x<(L.length:Int)
  ·obtain⟨f,rfl⟩:∃g,f=g+1:=⟨f-1,by omega⟩;have hA:=h.call hBw;have hTr:=hT1.call hB;have htr:=ig ht hBw;have HEn:Hid (aJ L 3 x=fm L 1 x):=(rfl:aJ L 3 x=fm L 1 x);have hE:=(gr L).1 1 x (by decide);have hfe:=gV hE (by omega);have hp:=gm (L:=L) (i:=x) hx0 (by omega);by_cases hneg:fm L 1 x=-1
   ·have HE:=aj (by rw[←HT.out];unfold jn;rw[if_pos hin,if_pos (Or.inl (by rw[jl,hneg];decide))]:aR L=false);have HX:=aj hneg;clear HT HP hneg hE hfe hp;go_wp2_with fail;refine(uO w.heap.size a cap L x 3 _ hTr htr hA hL (Or.inr rfl)).mono ?_;rintro e w2 ⟨rfl,hb2⟩;rw[HEn.out,HX.out];go_wp2;go_ret;exact⟨by rw[HE.out];rfl,aw hBw hb2⟩
   ·have HM:=aj (by rw[EO hx0 hneg]:(gX L x).2=eA L x);unfold Ends at hE;have hpos:0≤fm L 1 x:=by omega
    by_cases hd:60<eA L x
    ·have HE:=aj (by rw[←HT.out];unfold jn;rw[if_pos hin,if_pos (Or.inr hd)]:aR L=false);clear HT HP hneg hE hfe hp;go_wp2_with fail;refine(uO w.heap.size a cap L x 3 _ hTr htr hA hL (Or.inr rfl)).mono ?_;rintro e w2 ⟨rfl,hb2⟩;rw[HEn.out];clear HEn;generalize fm L 1 x=y at hpos;go_wp2_with fail;refine(zw a cap L x _ (hA.call hb2) hL).mono ?_;rintro e w3 ⟨rfl,hb3⟩;rw[HM.out];clear HM;generalize eA L x=D at hd;go_wp2;go_ret;exact⟨by rw[HE.out];rfl,aw (aw hBw hb2) hb3⟩
    ·have HE:Hid (jn L f (fm L 1 x)=aR L):=(HT.out.symm.trans (KO hin hpos hd)).symm;clear HT HP hneg;go_wp2_with fail;refine(uO w.heap.size a cap L x 3 _ hTr htr hA hL (Or.inr rfl)).mono ?_;rintro e w2 ⟨rfl,hb2⟩;rw[HEn.out];clear HEn;generalize fm L 1 x=y at hpos HE hE hfe;go_wp2_with fail;refine(zw a cap L x _ (hA.call hb2) hL).mono ?_;rintro e w3 ⟨rfl,hb3⟩;rw[HM.out];clear HM;generalize eA L x=D at hd;have hB3:ai w1 w3:=aw (aw hB hb2) hb3;go_wp2;go_roundw
     case rel=>exact⟨f,y,rfl,by omega,by omega,by omega,HE.out,hB3⟩
     case measure=>simp[intOf];omega
  ·have HE:Hid (aR L=true):=HT.out.symm.trans (KP hin);clear HT HP;go_wp2;go_ret;exact⟨by rw[HE.out];rfl,hBw⟩
end Go.Proofs.YtdojfommmpnbgaaGreatDoor
namespace Go.Proofs.YtdojfommmpnbgaaGreatDoor
open Go.RowKit
end Go.Proofs.YtdojfommmpnbgaaGreatDoor
