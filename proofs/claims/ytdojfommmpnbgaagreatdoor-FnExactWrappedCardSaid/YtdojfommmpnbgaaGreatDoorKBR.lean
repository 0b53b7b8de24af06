import Derived.Test.YtdojfommmpnbgaaGreatDoorKBP
import Derived.Test.YtdojfommmpnbgaaGreatDoorKBQ
import Derived.OneCell
set_option maxHeartbeats 4000000
set_option maxRecDepth 100000
namespace Go.Proofs.YtdojfommmpnbgaaGreatDoor
open Go.RowKit Go.Proofs.Tryz
theorem D8(s:ByteArray)(W:World):(Instr.typeAssert (.iface 9 (.string s)) 20 9 true).run prog W=.ok (.tuple #[.string s,.bool true]) W:=by kernel_rfl
theorem On(n0 B g cp:Nat)(H:af)(s:ByteArray)(w:World)(h:cy n0 B g cp H w)(hl:H.length≤9000000)(hn0:n0≤w.heap.size) :
  ah 242 #[.pointer (some ⟨B,0,none⟩),.iface 9 (.string s)] w fun e w'=>e=.returned (.tuple #[])∧∃g' cp',cy n0 B g' cp' (H++[s]) w'∧aE (dO B g) (dO B g') w w':=by
 obtain⟨i0,hi,hz0,hz1,hz2⟩:=info_parts Tryz.OJ;have hta:=D8 s;have hbx:=h.box.cell;have hbf:=h.box.frozen;have hne:=h.ne;have hlo:=h.lo;have HB:Hid (Boxed w B 98 (.slice (some ⟨g,0,none⟩) H.length cp)):=h.box;have HO:Hid (w.ownsRow n0 9 1 (.slice (some ⟨g,0,none⟩) H.length cp) H.length (H.map Value.string)):=h.own;have HN:Hid ((H++[s]).length=H.length+1):=List.length_append ..;have HMp:Hid ((H++[s]).map Value.string=H.map Value.string++[.string s]):=List.map_append ..;obtain⟨XS,hXS⟩:∃X,X=H++[s]:=⟨_,rfl⟩;rw[←hXS]at HN HMp ⊢;have hBz:=h.box.lt;clear hXS h;generalize H.length=n at *;have hcc2:∀u∈[Value.string s],u.oneCell'=true:=fun u hu=>by simp at hu;subst hu;rfl
 have hcc3:n+1≤maxLen:=by unfold maxLen;omega
 have hcc4:(n+1)*16≤140737488355328:=by omega
 have hcc5:n0≤(w.alloc (.cells #[.string s] 9)).heap.size:=by simp;omega
 go_enter func242,ntmps242;go_wp2_with (at_builtin;refine j7 _ rfl _ _ 98 rfl n0 9 i0 (.string ⟨#[]⟩) 1 16 Tryz.underlying98 hi hz0 hz1 hz2 rfl (by decide) _ _ _ rfl (World.ownsRow.alloc HO.out _) ⟨w.heap.size,0,none⟩ 1 1 [.string s] rfl rfl (cell_one_new _ _ _) hcc2 hcc3 hcc4 hcc5 ?_)
 intro v' w5 hown' hgrow hwh;obtain⟨g5,c5,rfl⟩:=ownsRow_succ hown';have hB1:Boxed w5 B 98 (.slice (some ⟨g,0,none⟩) n cp):=(HB.out.alloc _).kept hgrow (fun e=>hne (by simpa[Value.ownBlock]using e));have hb5:=hB1.cell;have hf5:=hB1.frozen;have HB5:=hB1.set (.slice (some ⟨g5,0,none⟩) (n+1) c5);have hne5:g5≠B:=fun e=>Boxed.not_row hB1 (by decide) hown' (by rw[←e];rfl)
 have HO5:=ownsRow_setCell_other hown' (a:=⟨B,0,none⟩) (fun e=>hne5 (by simpa[Value.ownBlock]using e)) (.slice (some ⟨g5,0,none⟩) (n+1) c5);have HNx:Hid (aE (dO B g) (dO B g5) w (w5.setCell ⟨B,0,none⟩ (.slice (some ⟨g5,0,none⟩) (n+1) c5))):=by
  have n1:aE (dO B g) (dO B g) w (w.alloc (.cells #[.string s] 9)):=aE.j _ (ay (Below.refl _ _) _);have n2:=aE.grown (dO B g) hgrow (fun k hk=>Or.inr (by simpa[Value.ownBlock]using hk.symm));have n3:=aE.set (dO B g) w5 (p:=⟨B,0,none⟩) (.slice (some ⟨g5,0,none⟩) (n+1) c5) (Or.inl rfl);have n4:=(n1.trans n2).trans n3;refine⟨n4.os,n4.tape,n4.output,n4.size,n4.block,fun k hk=>?_⟩;rcases hk with e|e
  ·exact Or.inl (Or.inl e)
  ·rcases hwh g5 rfl with h1|h1
   ·have h2:g=g5:=by simpa[Value.ownBlock]using h1
    exact Or.inl (Or.inr (by rw[e,←h2]))
   ·exact Or.inr (by omega)
 have HS5:Hid (cy n0 B g5 c5 XS (w5.setCell ⟨B,0,none⟩ (.slice (some ⟨g5,0,none⟩) (n+1) c5))):=by
  refine⟨?_,?_,hlo⟩
  ·rw[HN.out];exact HB5
  ·rw[HN.out,HMp.out];exact HO5
 clear hown' hgrow hwh hB1 HB5 HO5 hcc2 hcc3 hcc4 hcc5 hbx hbf hta;go_wp2;go_end0;exact⟨rfl,g5,c5,HS5.out,HNx.out⟩
theorem Kj{w:World}{B g n m cap:Nat}{e:TypeId}{xs:List Value}(h:w.ownsRow B e 1 (.slice (some ⟨g,0,none⟩) n cap) n xs)(hm:m≤n):w.ownsRow B e 1 (.slice (some ⟨g,0,none⟩) m cap) m (xs.take m)∧n≤cap:=by
 rcases h.2 with⟨hv,_⟩|⟨g',cap',cur,hv,hB,hg,hcap,hmax,hsz,htake⟩
 ·cases hv
 ·injection hv with ha _ hc;injection ha with ha;injection ha with e1 _ _;subst e1 hc;have h1:=h.1;refine⟨⟨by rw[List.length_take];omega,Or.inr ⟨g,cap,cur,rfl,hB,hg,by omega,hmax,hsz,?_⟩⟩,hcap⟩;rw[←htake,List.take_take];congr 1;omega
theorem Om(n0 B g cp n:Nat)(H:af)(w:World)(h:cy n0 B g cp H w)(hn:H.length=n+1)(hl:H.length≤9000000) :
  ah 241 #[.pointer (some ⟨B,0,none⟩)] w fun e w'=>(∃v,e=.returned v)∧cy n0 B g cp (H.take n) w'∧aE (dO B g) (dO B g) w w':=by
 obtain⟨ht,hcap⟩:=Kj h.own (show n≤H.length by omega);have hbx:=h.box.cell;have hbf:=h.box.frozen;have hc:=h.cell (show n<H.length by omega);have HS:Hid (cy n0 B g cp (H.take n) (w.setCell ⟨B,0,none⟩ (.slice (some ⟨g,0,none⟩) n cp))):=by
  have hlen:(H.take n).length=n:=by rw[List.length_take];omega
  have hne:=h.ne;refine⟨?_,?_,h.lo⟩
  ·rw[hlen];exact h.box.set _
  ·rw[hlen,List.map_take];exact ownsRow_setCell_other ht (a:=⟨B,0,none⟩) (fun e=>hne (by simpa[Value.ownBlock]using e.symm)) _
 have HX:Hid (aE (dO B g) (dO B g) w (w.setCell ⟨B,0,none⟩ (.slice (some ⟨g,0,none⟩) n cp))):=aE.set _ _ _ (Or.inl rfl);rw[hn]at hbx hl hcap;generalize gT H n=s at hc;clear ht h hn;have c1:(n:Int)≤(cp:Int):=by omega
 go_enter func241,ntmps241;go_wp2;go_ret;exact⟨⟨_,rfl⟩,HS.out,HX.out⟩
theorem KZ(n0 B g cp:Nat)(H:af)(s:ByteArray)(w:World)(h:cy n0 B g cp H w)(hH:Hp H H.length)(hl:H.length≤8000000)(hn0:n0≤w.heap.size) :
  ah 131 #[.iface 95 (.pointer (some ⟨B,0,none⟩)),.iface 9 (.string s)] w fun e w'=>e=.returned (.tuple #[])∧∃g' cp' K,K.length=H.length+1∧Hp K K.length∧(∀t,t∈K↔t∈H∨t=s)∧cy n0 B g' cp' K w'∧aE (dO B g) (dO B g') w w':=by
 have mP:=I5 B w;have eP:=Fa;have HU:Hid (lM (H++[s]) (H++[s]).length H.length):=Nu hH s;have HL:Hid ((H++[s]).length=H.length+1):=by simp[Hid]
 have HM:Hid (∀t,t∈H++[s]↔t∈H∨t=s):=fun t=>by rw[List.mem_append,List.mem_singleton]
 have HPu:=On n0 B g cp H s w h (by omega) hn0;generalize H++[s]=XS at HU HL HM HPu;generalize hm:H.length=m at *;clear hm;go_enter func131,ntmps131;go_wp2_with fail;refine HPu.mono ?_;rintro e w1 ⟨rfl,g',cp',hS1,hN1⟩;have mN:=BC B w1 _ hS1.box.cell;have eN:=zJ;rw[HL.out]at mN;clear mP eP HPu;go_wp2_with fail;refine(pT _ _ _ _).mono ?_;rintro e w2 ⟨rfl,rfl⟩;clear mN eN;go_wp2_with fail;refine(Nt n0 B g' cp' m XS _ hS1 HU.out (by rw[HL.out];omega) (by rw[HL.out];omega)).mono ?_;rintro e w3 ⟨rfl,K,hK1,hK2,hK3,hK4,hK5⟩;have HK:Hid (K.length=m+1):=hK1.trans HL.out;clear hK1;go_wp2;go_end0;exact⟨rfl,g',cp',K,HK.out,hK2,fun t=>(hK3 t).trans (HM.out t),hK4,hN1.trans hK5⟩
theorem wK(n0 B g cp n:Nat)(H:af)(w:World)(h:cy n0 B g cp H w)(hH:Hp H H.length)(hn:H.length=n+1)(hl:H.length≤8000000) :
  ah 70 #[.iface 95 (.pointer (some ⟨B,0,none⟩))] w fun e w'=>(∃v,e=.returned v)∧∃K,K.length=n∧Hp K K.length∧(∀t,t∈K→t∈H)∧(∀t,t∈H→t∈K∨t=gT H 0)∧cy n0 B g cp K w'∧aE (dO B g) (dO B g) w w':=by
 have mN:=BC B w _ h.box.cell;have eN:=zJ;rw[hn]at mN;have HSw:=qL h (show 0<H.length by omega) (show n<H.length by omega);have HD:Hid (kW (swp H 0 n) n 0):=ET (by rw[←hn];exact hH) hn.symm;have HL:=aj (by rw[mn];exact hn:(swp H 0 n).length=n+1);have HA:Hid (∀t,t∈H↔jt (swp H 0 n) n t∨t=gT H 0):=fun t=>by
  have h1:=qJ (H:=H) (i:=0) (j:=n) (n:=n+1) (by omega) (by omega) (by omega) t;rw[←pb,hn,←h1];have h2:gT (swp H 0 n) n=gT H 0:=by rw[rI (by omega) (by omega),if_pos rfl]
  constructor
  ·rintro⟨k,hk,e⟩;by_cases hkn:k<n
   ·exact Or.inl ⟨k,hkn,e⟩
   ·obtain rfl:k=n:=by omega
    exact Or.inr (by rw[←h2,e])
  ·rintro(⟨k,hk,e⟩|e)
   ·exact⟨k,by omega,e⟩
   ·exact⟨n,by omega,by rw[h2,e]⟩
 have mS0:=fun W (hb:W.cell? ⟨B,0,none⟩=some (.slice (some ⟨g,0,none⟩) (n+1) cp))=>qZ B W _ hb
 have HX:=h.box.cell;rw[hn]at hl HX HSw;generalize swp H 0 n=XS at HSw HD HL HA;clear hH hn;go_enter func70,ntmps70;go_wp2_with fail;refine(pT _ _ _ _).mono ?_;rintro e w1 ⟨rfl,rfl⟩;have mS:=mS0 _ HX;have eS:=qv;clear mN eN mS0;go_wp2_with fail;refine HSw.mono ?_;rintro e w2 ⟨rfl,hS2,hN2⟩;clear mS eS HSw h HX;go_wp2_with fail;refine(EX n0 B g cp n XS _ hS2 HD.out (by rw[HL.out];omega) (by rw[HL.out];omega)).mono ?_;rintro e w3 ⟨⟨b,rfl⟩,K,hK1,hK2,hK3,hK4,hK5⟩;have HK:Hid (K.length=n+1):=hK1.trans HL.out;have mP:=I4 B w3;have eP:=E9;clear hK1;go_wp2_with fail;refine(Om n0 B g cp n K _ hK4 HK.out (by rw[HK.out];omega)).mono ?_;rintro e w4 ⟨⟨v,rfl⟩,hS4,hN4⟩;have HT:Hid ((K.take n).length=n):=by
  have:=HK.out;show(K.take n).length=n;rw[List.length_take];omega
 have HG:Hid (∀k,k<n→gT (K.take n) k=gT K k):=fun k hk=>by
  unfold gT;simp[List.getD,hk]
 clear mP eP;go_wp2;go_ret;refine⟨⟨_,rfl⟩,K.take n,HT.out,?_,?_,?_,hS4,(hN2.trans hK5).trans hN4⟩
 ·rw[HT.out];intro c c0 c1;rw[HG.out _ (by omega),HG.out _ c1];exact hK2 c c0 c1
 ·intro t ht;rw[←pb,HT.out]at ht;obtain⟨k,hk,e⟩:=ht;exact(HA.out t).mpr (Or.inl ((hK3 t).mp ⟨k,hk,by rw[←HG.out k hk];exact e⟩))
 ·intro t ht;rcases (HA.out t).mp ht with h1|h1
  ·obtain⟨k,hk,e⟩:=(hK3 t).mpr h1;refine Or.inl ?_;rw[←pb,HT.out];exact⟨k,hk,by rw[HG.out k hk];exact e⟩
  ·exact Or.inr h1
theorem Gf(w:World):cy w.heap.size (w.heap.size+1) w.heap.size 0 [] ((w.alloc (.cells #[] 9)).alloc (.cells #[.slice (some ⟨w.heap.size,0,none⟩) 0 0] 98)):=by
 refine⟨?_,?_,by omega⟩
 ·have:=Boxed.new (w.alloc (.cells #[] 9)) 98 (.slice (some ⟨w.heap.size,0,none⟩) 0 0);rw[World.size_alloc]at this;exact this
 ·exact World.ownsRow.alloc (World.ownsRow_made w #[] 0 (Nat.le_refl _) (Nat.zero_le _) rfl) _
theorem Fk{L:af}{k:Nat}(h:k<L.length)(hq:bt L[k]=true)(t:ByteArray):t∈(L.take (k+1)).filter bt↔t∈(L.take k).filter bt∨t=L[k]:=by
 rw[uR h,if_pos hq,List.mem_append,List.mem_singleton]
theorem Fl{L:af}{k:Nat}(h:k<L.length)(hq:bt L[k]=false):(L.take (k+1)).filter bt=(L.take k).filter bt:=by
 rw[uR h,hq];simp
theorem N5(a:Option Addr)(cap:Nat)(L:af)(w:World)(h:aD w a L)(hL:L.length≤1048576) :
  ah 68 #[.slice a L.length cap] w fun e w'=>∃B g cp H,e=.returned (.pointer (some ⟨B,0,none⟩))∧cy w.heap.size B g cp H w'∧Hp H H.length∧(∀t,t∈H↔t∈L.filter bt)∧H.length≤L.length∧ai w w':=by
 have hS0:=Gf w;have hB0:ai w ((w.alloc (.cells #[] 9)).alloc (.cells #[.slice (some ⟨w.heap.size,0,none⟩) 0 0] 98)):=ay (ay (Below.refl _ _) _) _;go_enter func68,ntmps68;go_wp2;go_loopw [10] (fun v10 wr=>∃(k g cp:Nat) (H:af),v10=.int .i64 (k:Int)∧k≤L.length∧cy w.heap.size (w.heap.size+1) g cp H wr∧Hid (Hp H H.length)∧Hid (∀t,t∈H↔t∈(L.take k).filter bt)∧H.length≤k∧ai w wr) (fun v10 _=>L.length-(intOf v10).toNat)
 case atStart=>exact⟨0,_,_,[],rfl,Nat.zero_le _,hS0,fun c c0 c1=>absurd c1 (Nat.not_lt_zero _),fun t=>by simp,Nat.le_refl _,hB0⟩
 case round =>
  obtain⟨k,g,cp,H,rfl,hk,hS,HH,HM,hlen,hB⟩:=hrel;clear hS0 hB0;have hsz:=hB.size;by_cases hlt:k<L.length
  ·obtain⟨sb,off,rfl,hs,hc,hmx⟩:=h k hlt;have hc':=(hB.cell (p:=⟨sb,off+k,none⟩) hs).trans hc;cases hq:bt L[k]
   ·have HN:=Fl hlt hq;rw[←HN]at HM;have HQ:Hid (bt L[k]=false):=hq;clear hq hc HN;generalize L[k]=t at hc' hmx HQ;go_wp2_with fail;refine(py t _ hmx).mono ?_;rintro e w2 ⟨rfl,rfl⟩;rw[HQ.out];go_wp2;go_roundw
    case rel=>exact⟨k+1,g,cp,H,by go_num,by omega,hS,HH.out,HM.out,by omega,hB⟩
    case measure=>simp[intOf];omega
   ·have HN:Hid (∀t,t∈(L.take (k+1)).filter bt↔t∈(L.take k).filter bt∨t=L[k]):=Fk hlt hq;have HQ:Hid (bt L[k]=true):=hq;clear hq hc;generalize L[k]=t at hc' hmx HQ HN;go_wp2_with fail;refine(py t _ hmx).mono ?_;rintro e w2 ⟨rfl,rfl⟩;rw[HQ.out];go_wp2_with fail;refine(KZ w.heap.size (w.heap.size+1) g cp H t _ hS HH.out (by omega) hsz).mono ?_;rintro e w3 ⟨rfl,g',cp',K,hK1,hK2,hK3,hK4,hK5⟩;have HM2:Hid (∀u,u∈K↔u∈(L.take (k+1)).filter bt):=fun u=>by rw[hK3,HN.out,HM.out]
    have hB3:ai w w3:=hB.trans (hK5.below (fun q hq=>by
     rcases hq with e|e
     ·omega
     ·rw[e];exact hS.lt.1) hsz)
    have hKl:K.length≤k+1:=by omega
    have HK2:=aj hK2;clear hK1 hK2 hK3 hK5;go_wp2;go_roundw
    case rel=>exact⟨k+1,g',cp',K,by go_num,by omega,hK4,HK2.out,HM2.out,hKl,hB3⟩
    case measure=>simp[intOf];omega
  ·have e1:k=L.length:=by omega
   subst e1;rw[List.take_length]at HM;go_wp2;go_ret;exact⟨_,g,cp,H,rfl,hS,HH.out,HM.out,hlen,hB⟩
theorem Nj(x:ByteArray):jK [] x=[x]:=by simp[jK]
theorem Dm(Y:af)(z x:ByteArray):jK (Y++[z]) x=if z=x then Y++[z]else Y++[z]++[x]:=by
 unfold jK;simp
theorem cy.grown{n0 B g cp:Nat}{H:af}{w w':World}{row:Option Nat}(h:cy n0 B g cp H w)(hg:w.grownBy w' row)(h1:some B≠row)(h2:some g≠row):cy n0 B g cp H w' :=
 ⟨h.box.kept hg h1,World.ownsRow.kept h.own hg (Or.inr h2),h.lo⟩
def jf(B:Nat)(w:World):Nat:=match w.cell? ⟨B,0,none⟩with|some (.slice _ n _)=>n|_=>0
theorem cy.boxN{n0 B g cp:Nat}{H:af}{w:World}(h:cy n0 B g cp H w):jf B w=H.length:=by
 unfold YtdojfommmpnbgaaGreatDoor.jf;rw[h.box.cell]
theorem Jc(a:Option Addr)(cap:Nat)(L:af)(w:World)(h:aD w a L)(hL:L.length≤1048576) :
  ah 39 #[.slice a L.length cap] w fun e w'=>∃g n cp,e=.returned (.slice (some ⟨g,0,none⟩) n cp)∧n=(bJ L).length∧aG w' w.heap.size g n cp (bJ L)∧ai w w':=by
 obtain⟨i0,hi,hz0,hz1,hz2⟩:=info_parts Tryz.OJ;have hB0:=ay (Below.refl w.heap.size w) (.cells #[] 9);have hO0:(w.alloc (.cells #[] 9)).ownsRow w.heap.size 9 1 (.slice (some ⟨w.heap.size,0,none⟩) 0 0) 0 []:=World.ownsRow_made w #[] 0 (Nat.le_refl _) (Nat.zero_le _) rfl;go_enter func39,ntmps39;go_wp2_with fail;refine(N5 a cap L _ (h.call hB0) hL).mono ?_;rintro e w1 ⟨B,g,cp,H0,rfl,hS0,hH0,hM0,hl0,hb1⟩;have hB1:=aw hB0 hb1;have hO1:=cR hO0 (fun k hk=>hb1.block k (World.ownsRow.lt hO0 k hk).2);have HH0:=aj hH0;have HM0:=aj hM0;have hBlo:w.heap.size<B:=by have:=hS0.lo;simp at this;omega
 have hglo:w.heap.size<g:=by have:=hS0.lt.1;simp at this;omega
 have hS0':cy (w.heap.size+1) B g cp H0 w1:=by rw[World.size_alloc]at hS0;exact hS0
 clear hH0 hM0 hO0 hB0 hS0 hb1;go_wp2
 go_loopw [3] (fun v3 wr=>∃(X H:af) (gx nx cx:Nat),v3=.slice (some ⟨gx,0,none⟩) nx cx∧Hid (nx=X.length)∧Hid (wr.ownsRow w.heap.size 9 1 (.slice (some ⟨gx,0,none⟩) nx cx) nx (X.map Value.string))∧gx≠B∧gx≠g ∧
  cy (w.heap.size+1) B g cp H wr∧Hid (Hp H H.length)∧Hid (lL X H)∧Hid (∀t,t∈L.filter bt↔t∈X∨t∈H)∧nx+H.length≤L.length∧ai w wr) (fun _ wr=>jf B wr)
 case atStart=>exact⟨[],H0,w.heap.size,0,0,rfl,rfl,hO1,by omega,by omega,hS0',HH0.out,⟨List.Pairwise.nil,fun a ha=>by cases ha⟩,fun t=>by rw[HM0.out];simp,by omega,hB1⟩
 case round =>
  obtain⟨X,H,gx,nx,cx,rfl,HNX,HO,hx1,hx2,hS,HH,HT,HM,hlen,hB⟩:=hrel;have hbx:=hS.box.cell;cases hn:H.length with
  |zero =>
   have e0:H=[]:=List.eq_nil_of_length_eq_zero hn;have HX:Hid (X=bJ L):=by
    refine K1 HT.out.rise (fun t=>?_);rw[HM.out,e0];simp
   rw[hn]at hbx;clear hn;go_wp2_with fail;refine(pT _ _ _ _).mono ?_;rintro e w2 ⟨rfl,rfl⟩;go_wp2;go_ret;exact⟨gx,nx,cx,rfl,by rw[HNX.out,HX.out],by rw[←HX.out];exact HO.out,hB⟩
  |succ n =>
   have HX0:Hid (gT H 0∈H):=by
    show gT H 0∈H;rw[lU (by omega)];exact List.getElem_mem _
   have HMin:Hid (∀b∈H,dR (gT H 0) b):=fun b hb=>by
    obtain⟨k,hk,e⟩:=(pb H b).mpr hb;rw[←e];exact Ap HH.out k k (Nat.le_refl _) hk
   have hc0:=hS.cell (show 0<H.length by omega);have HS:=aj hS;have HNh:=aj hn;have hlen':nx+(n+1)≤L.length:=by omega
   have hwz:=hB.size;rw[hn]at hbx;clear hn hS hlen;generalize hx0:gT H 0=x at hc0 HX0 HMin;have HX1:=aj hx0;clear hx0;have hn1:(0:Int)<((n+1:Nat):Int):=by omega
   rcases List.eq_nil_or_concat X with hX|⟨Y,z,hX⟩
   ·have HTel:Hid (jK X x=X++[x]):=by
     show jK X x=X++[x];rw[hX,Nj];rfl
    have hnx:nx=0:=by rw[HNX.out,hX];rfl
    have HLen:Hid (0+1=(X++[x]).length):=by
     show 0+1=(X++[x]).length;rw[hX];rfl
    subst hnx
    clear hX
    go_wp2_with fail
    refine(pT _ _ _ _).mono ?_
    rintro e w2 ⟨rfl,rfl⟩
    have hcc2:∀u∈[Value.string x],u.oneCell'=true:=fun u hu=>by simp at hu;subst hu;rfl
    have hcc3:0+1≤maxLen:=by unfold maxLen;omega
    have hcc4:(0+1)*16≤140737488355328:=by omega
    have hcc5:w.heap.size≤(wr.alloc (.cells #[.string x] 9)).heap.size:=by simp;omega
    go_wp2_with (at_builtin;refine j7 _ rfl _ _ 22 rfl w.heap.size 9 i0 (.string ⟨#[]⟩) 1 16 Tryz.underlying22 hi hz0 hz1 hz2 rfl (by decide) _ _ _ rfl (World.ownsRow.alloc HO.out _) ⟨wr.heap.size,0,none⟩ 1 1 [.string x] rfl rfl (cell_one_new _ _ _) hcc2 hcc3 hcc4 hcc5 ?_)
    intro v' w5 hown' hgrow hwh
    obtain⟨g5,c5,rfl⟩:=ownsRow_succ hown'
    have hS5:cy (w.heap.size+1) B g cp H w5:=(HS.out.call (ay (Below.refl _ _) _)).grown hgrow (fun e=>hx1 (by simpa[Value.ownBlock]using e.symm)) (fun e=>hx2 (by simpa[Value.ownBlock]using e.symm))
    have hBz:=HS.out.box.lt
    have hgz:=HS.out.lt.2
    have n5:g5=gx∨wr.heap.size<g5:=by
     rcases hwh g5 rfl with e|e
     ·exact Or.inl (by simpa[Value.ownBlock]using e.symm)
     ·exact Or.inr (by omega)
    have n5B:g5≠B:=by omega
    have n5g:g5≠g:=by omega
    have HO5:Hid (w5.ownsRow w.heap.size 9 1 (.slice (some ⟨g5,0,none⟩) (0+1) c5) (0+1) ((X++[x]).map Value.string)):=by
     show w5.ownsRow w.heap.size 9 1 (.slice (some ⟨g5,0,none⟩) (0+1) c5) (0+1) ((X++[x]).map Value.string);rw[List.map_append];exact hown'
    have hB5:ai w w5:=(hB.alloc hB.size (.cells #[.string x] 9)).grown hgrow (by simp;omega) (fun k hk=>(World.ownsRow.lt HO.out k hk).1)
    clear hown' hgrow hwh hcc2 hcc3 hcc4 hcc5 n5 hbx hc0 hBz hgz
    go_wp2_with fail
    refine(wK (w.heap.size+1) B g cp n H _ hS5 HH.out HNh.out (by rw[HNh.out];omega)).mono ?_
    rintro e w6 ⟨⟨v6,rfl⟩,K,hK1,hK2,hK3,hK4,hS6,hN6⟩
    have HO6:Hid (w6.ownsRow w.heap.size 9 1 (.slice (some ⟨g5,0,none⟩) 1 c5) 1 ((X++[x]).map Value.string)):=cR HO5.out (fun k hk=>by
     have e:g5=k:=by simpa[Value.ownBlock]using hk
     subst e;exact hN6.block _ (World.ownsRow.lt HO5.out _ rfl).2 (fun hh=>hh.elim n5B n5g))
    have hB6:ai w w6:=hB5.trans (hN6.below (fun k hk=>by
     rcases hk with e|e
     ·have:=hS5.lo;omega
     ·have:=hS5.lt.1;omega) hB5.size)
    have HT6:Hid (lL (X++[x]) K):=by
     show lL (X++[x]) K;have hh:=xu HT.out HX0.out HMin.out hK3;rw[HTel.out]at hh;exact hh
    have HM6:Hid (∀t,t∈L.filter bt↔t∈(X++[x])∨t∈K):=fun t=>by
     have hm:=tN X x t;rw[HTel.out]at hm;constructor
     ·intro hh;rcases (HM.out t).mp hh with h1|h1
      ·exact Or.inl (hm.mpr (Or.inl h1))
      ·rcases hK4 t h1 with h2|h2
       ·exact Or.inr h2
       ·exact Or.inl (hm.mpr (Or.inr (h2.trans HX1.out)))
     ·rintro(h1|h1)
      ·rcases hm.mp h1 with h2|h2
       ·exact(HM.out t).mpr (Or.inl h2)
       ·exact(HM.out t).mpr (Or.inr (by rw[h2];exact HX0.out))
      ·exact(HM.out t).mpr (Or.inr (hK3 t h1))
    have HK2:=aj hK2
    have HKn:=aj hK1
    have HBs:Hid (jf B w6<jf B wr):=by
     show jf B w6<jf B wr;rw[hS6.boxN,HS.out.boxN,HNh.out,hK1];omega
    clear hK1 hK2 hK3 hK4 hN6 hS5 HO5 hB5 HS HT HM HO HX0 HMin
    go_wp2
    go_roundw
    case rel=>exact⟨(X++[x]),K,g5,1,c5,rfl,HLen.out,HO6.out,n5B,n5g,hS6,HK2.out,HT6.out,HM6.out,by rw[HKn.out];omega,hB6⟩
    case measure=>exact HBs.out
   ·rw[List.concat_eq_append]at hX;have hnx:nx=Y.length+1:=by rw[HNX.out,hX];simp
    have hcz:wr.cell? ⟨gx,nx-1,none⟩=some (.string z):=by
     have hc:=World.ownsRow.cells HO.out (g:=gx) rfl (nx-1) (.string z) (by rw[hX,hnx];simp);have hadd:(⟨gx,0,none⟩:Addr).add (nx-1)=⟨gx,nx-1,none⟩:=by unfold Addr.add;split<;>simp_all
     rwa [hadd]at hc
    have h1:¬(nx:Int)=0:=by omega
    have h1n:¬nx=0:=by omega
    have h2:(0:Int)≤(nx:Int)-1:=by omega
    have h3:((nx:Int)-1).toNat=nx-1:=by omega
    have h4:nx-1<nx:=by omega
    by_cases hzx:z=x
    ·have HTel:Hid (jK X x=X):=by
      show jK X x=X;rw[hX,Dm,if_pos hzx]
     have HLen:Hid (nx=X.length):=HNX.out
     have hzb:(z.toList==x.toList)=true:=by rw[hzx];exact beq_self_eq_true _
     clear hX hnx
     have n5B:=hx1
     have n5g:=hx2
     have hS5:=HS.out
     have HO5:=HO
     have hB5:=hB
     go_wp2_with fail
     refine(pT _ _ _ _).mono ?_
     rintro e w2 ⟨rfl,rfl⟩
     go_wp2_with fail
     refine(wK (w.heap.size+1) B g cp n H _ hS5 HH.out HNh.out (by rw[HNh.out];omega)).mono ?_
     rintro e w6 ⟨⟨v6,rfl⟩,K,hK1,hK2,hK3,hK4,hS6,hN6⟩
     have HO6:Hid (w6.ownsRow w.heap.size 9 1 (.slice (some ⟨gx,0,none⟩) nx cx) nx (X.map Value.string)):=cR HO5.out (fun k hk=>by
      have e:gx=k:=by simpa[Value.ownBlock]using hk
      subst e;exact hN6.block _ (World.ownsRow.lt HO5.out _ rfl).2 (fun hh=>hh.elim n5B n5g))
     have hB6:ai w w6:=hB5.trans (hN6.below (fun k hk=>by
      rcases hk with e|e
      ·have:=hS5.lo;omega
      ·have:=hS5.lt.1;omega) hB5.size)
     have HT6:Hid (lL X K):=by
      show lL X K;have hh:=xu HT.out HX0.out HMin.out hK3;rw[HTel.out]at hh;exact hh
     have HM6:Hid (∀t,t∈L.filter bt↔t∈X∨t∈K):=fun t=>by
      have hm:=tN X x t;rw[HTel.out]at hm;constructor
      ·intro hh;rcases (HM.out t).mp hh with h1|h1
       ·exact Or.inl (hm.mpr (Or.inl h1))
       ·rcases hK4 t h1 with h2|h2
        ·exact Or.inr h2
        ·exact Or.inl (hm.mpr (Or.inr (h2.trans HX1.out)))
      ·rintro(h1|h1)
       ·rcases hm.mp h1 with h2|h2
        ·exact(HM.out t).mpr (Or.inl h2)
        ·exact(HM.out t).mpr (Or.inr (by rw[h2];exact HX0.out))
       ·exact(HM.out t).mpr (Or.inr (hK3 t h1))
     have HK2:=aj hK2
     have HKn:=aj hK1
     have HBs:Hid (jf B w6<jf B wr):=by
      show jf B w6<jf B wr;rw[hS6.boxN,HS.out.boxN,HNh.out,hK1];omega
     clear hK1 hK2 hK3 hK4 hN6 hS5 HO5 hB5 HS HT HM HO HX0 HMin
     go_wp2
     go_roundw
     case rel=>exact⟨X,K,gx,nx,cx,rfl,HLen.out,HO6.out,n5B,n5g,hS6,HK2.out,HT6.out,HM6.out,by rw[HKn.out];omega,hB6⟩
     case measure=>exact HBs.out
    ·have HTel:Hid (jK X x=X++[x]):=by
      show jK X x=X++[x];rw[hX,Dm,if_neg hzx]
     have HLen:Hid (nx+1=(X++[x]).length):=by
      show nx+1=(X++[x]).length;rw[HNX.out,List.length_append];rfl
     have hzb:(z.toList==x.toList)=false:=Df hzx
     clear hX hnx
     go_wp2_with fail
     refine(pT _ _ _ _).mono ?_
     rintro e w2 ⟨rfl,rfl⟩
     have hcc2:∀u∈[Value.string x],u.oneCell'=true:=fun u hu=>by simp at hu;subst hu;rfl
     have hcc3:nx+1≤maxLen:=by unfold maxLen;omega
     have hcc4:(nx+1)*16≤140737488355328:=by omega
     have hcc5:w.heap.size≤(wr.alloc (.cells #[.string x] 9)).heap.size:=by simp;omega
     go_wp2_with (at_builtin;refine j7 _ rfl _ _ 22 rfl w.heap.size 9 i0 (.string ⟨#[]⟩) 1 16 Tryz.underlying22 hi hz0 hz1 hz2 rfl (by decide) _ _ _ rfl (World.ownsRow.alloc HO.out _) ⟨wr.heap.size,0,none⟩ 1 1 [.string x] rfl rfl (cell_one_new _ _ _) hcc2 hcc3 hcc4 hcc5 ?_)
     intro v' w5 hown' hgrow hwh
     obtain⟨g5,c5,rfl⟩:=ownsRow_succ hown'
     have hS5:cy (w.heap.size+1) B g cp H w5:=(HS.out.call (ay (Below.refl _ _) _)).grown hgrow (fun e=>hx1 (by simpa[Value.ownBlock]using e.symm)) (fun e=>hx2 (by simpa[Value.ownBlock]using e.symm))
     have hBz:=HS.out.box.lt
     have hgz:=HS.out.lt.2
     have n5:g5=gx∨wr.heap.size<g5:=by
      rcases hwh g5 rfl with e|e
      ·exact Or.inl (by simpa[Value.ownBlock]using e.symm)
      ·exact Or.inr (by omega)
     have n5B:g5≠B:=by omega
     have n5g:g5≠g:=by omega
     have HO5:Hid (w5.ownsRow w.heap.size 9 1 (.slice (some ⟨g5,0,none⟩) (nx+1) c5) (nx+1) ((X++[x]).map Value.string)):=by
      show w5.ownsRow w.heap.size 9 1 (.slice (some ⟨g5,0,none⟩) (nx+1) c5) (nx+1) ((X++[x]).map Value.string);rw[List.map_append];exact hown'
     have hB5:ai w w5:=(hB.alloc hB.size (.cells #[.string x] 9)).grown hgrow (by simp;omega) (fun k hk=>(World.ownsRow.lt HO.out k hk).1)
     clear hown' hgrow hwh hcc2 hcc3 hcc4 hcc5 n5 hbx hc0 hBz hgz
     go_wp2_with fail
     refine(wK (w.heap.size+1) B g cp n H _ hS5 HH.out HNh.out (by rw[HNh.out];omega)).mono ?_
     rintro e w6 ⟨⟨v6,rfl⟩,K,hK1,hK2,hK3,hK4,hS6,hN6⟩
     have HO6:Hid (w6.ownsRow w.heap.size 9 1 (.slice (some ⟨g5,0,none⟩) (nx+1) c5) (nx+1) ((X++[x]).map Value.string)):=cR HO5.out (fun k hk=>by
      have e:g5=k:=by simpa[Value.ownBlock]using hk
      subst e;exact hN6.block _ (World.ownsRow.lt HO5.out _ rfl).2 (fun hh=>hh.elim n5B n5g))
     have hB6:ai w w6:=hB5.trans (hN6.below (fun k hk=>by
      rcases hk with e|e
      ·have:=hS5.lo;omega
      ·have:=hS5.lt.1;omega) hB5.size)
     have HT6:Hid (lL (X++[x]) K):=by
      show lL (X++[x]) K;have hh:=xu HT.out HX0.out HMin.out hK3;rw[HTel.out]at hh;exact hh
     have HM6:Hid (∀t,t∈L.filter bt↔t∈(X++[x])∨t∈K):=fun t=>by
      have hm:=tN X x t;rw[HTel.out]at hm;constructor
      ·intro hh;rcases (HM.out t).mp hh with h1|h1
       ·exact Or.inl (hm.mpr (Or.inl h1))
       ·rcases hK4 t h1 with h2|h2
        ·exact Or.inr h2
        ·exact Or.inl (hm.mpr (Or.inr (h2.trans HX1.out)))
      ·rintro(h1|h1)
       ·rcases hm.mp h1 with h2|h2
        ·exact(HM.out t).mpr (Or.inl h2)
        ·exact(HM.out t).mpr (Or.inr (by rw[h2];exact HX0.out))
       ·exact(HM.out t).mpr (Or.inr (hK3 t h1))
     have HK2:=aj hK2
     have HKn:=aj hK1
     have HBs:Hid (jf B w6<jf B wr):=by
      show jf B w6<jf B wr;rw[hS6.boxN,HS.out.boxN,HNh.out,hK1];omega
     clear hK1 hK2 hK3 hK4 hN6 hS5 HO5 hB5 HS HT HM HO HX0 HMin
     go_wp2
     go_roundw
     case rel=>exact⟨(X++[x]),K,g5,(nx+1),c5,rfl,HLen.out,HO6.out,n5B,n5g,hS6,HK2.out,HT6.out,HM6.out,by rw[HKn.out];omega,hB6⟩
     case measure=>exact HBs.out
end Go.Proofs.YtdojfommmpnbgaaGreatDoor
