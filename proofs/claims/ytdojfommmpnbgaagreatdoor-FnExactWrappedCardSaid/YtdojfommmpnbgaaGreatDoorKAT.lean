import Derived.Test.YtdojfommmpnbgaaGreatDoorKAL
import Derived.Test.YtdojfommmpnbgaaGreatDoorKAS
set_option maxHeartbeats 4000000
set_option maxRecDepth 100000
namespace Go.Proofs.YtdojfommmpnbgaaGreatDoor
open Go.RowKit Go.Shelf Go.Proofs.Tryz
attribute [local go_sem] Oper.semAt_some
theorem Ax(n:Nat)(a:Option Addr)(len cap:Nat)(i:Int)(w:World) :
  CallsIn Fence.wide n prog 122 #[.slice a len cap,.int .i64 i] w fun e w'=>e=.returned (.func (.func 159) #[] #[.pointer (some ⟨w.heap.size+1,0,none⟩),.pointer (some ⟨w.heap.size,0,none⟩)])∧w'=(w.alloc (.cells #[.slice a len cap] 22)).alloc (.cells #[.int .i64 i] 2):=by
 refine callsIn_of_wp func122 rfl trivial ?_ rfl;simp only[ntmps122,List.size_toArray,List.length_cons,List.length_nil,Nat.reduceAdd,Nat.reduceSub,Array.replicate_succ,Array.replicate_zero,List.push_toArray,List.append_toArray,List.nil_append,List.cons_append];gi_wp2;go_ret;exact⟨rfl,rfl⟩
theorem pE{w:World}{B:Nat}{e:TypeId}{sz n:Nat}{v:Value}{xs:List Value}(h:w.ownsRow B e sz v n xs):∃av cv,v=.slice av n cv∧n≤cv∧cv≤maxLen∧(av=none→n=0)∧∀p,av=some p→∃g,p=⟨g,0,none⟩∧v.ownBlock=some g:=by
 rcases h.2 with⟨rfl,rfl⟩|⟨g,cap,cur,rfl,_,_,h1,h2,_⟩
 ·exact⟨none,0,rfl,Nat.le_refl _,Nat.zero_le _,fun _=>rfl,fun p hp=>by cases hp⟩
 ·exact⟨some ⟨g,0,none⟩,cap,rfl,h1,h2,(fun h=>by cases h),(fun p hp=>by cases hp;exact⟨g,rfl,rfl⟩)⟩
theorem AY{n0 bl:Nat}{A B C:World}(h:oG n0 bl A B)(k:oG n0 bl B C):oG n0 bl A C:=⟨h.1.trans k.1,k.2.trans h.2⟩
theorem AX{n0 bl:Nat}{w:World}(hn:n0≤w.heap.size)(hb:bl<w.heap.size)(W:World)(l:Nat)(o o':Obj)(hl:w.heap.size≤l)(h1:W.heap[l]?=some o)(h2:o.isCells=false)(h3:o.isWalk=false):oG n0 bl W (W.putObj l o') :=
 ⟨belowK_b (w:=w) hn W l o o' hl h1 h2 h3,World.putObj_heap_other (fun e=>by omega)⟩
theorem Ay(n:Nat)(hn:1≤n)(ba bl n0:Nat)(a:Option Addr)(cap:Nat)(L:af)(i e:Int)(k:Nat)(hL:L.length≤1048576)(hsg:bQ L=true)(hch:bd L k i e)(he0:0≤e)(he:ag L e=-1)(w:World)(hba:ba<w.heap.size)(hbl:bl<w.heap.size)(hn0:n0≤w.heap.size)
  (hca:w.cell? ⟨ba,0,none⟩=some (.int .i64 i)) (hcl:w.cell? ⟨bl,0,none⟩=some (.slice a L.length cap)) (hA:jM n0 w a L) :
  SeqStopsK Fence.wide n prog 159 #[.pointer (some ⟨ba,0,none⟩),.pointer (some ⟨bl,0,none⟩)] qt (oG n0 bl) (fun ys=>ys=ar L k i) (fun pre=>pre <+: ar L k i) k w:=fun l J Jx W hW hJ _ hY h0 =>
 GY n hn l ba bl n0 W.heap.size a cap L i e k hL hsg hch he0 he J Jx hJ hY W ((hW.cell (p:=⟨ba,0,none⟩) hba).trans hca) ((hW.cell (p:=⟨bl,0,none⟩) hbl).trans hcl) (Nat.lt_of_lt_of_le hba hW.size) (Nat.lt_of_lt_of_le hbl hW.size) (hA.R (hW.mono hn0)) (Nat.le_trans hn0 hW.size) h0
theorem qM:(Tryz.prog.info? 2).map (fun i=>(i.zero,i.size,i.bytes))=some (some (.int .i64 0),1,8):=by kernel_rfl
def bY(w:World)(B:Nat)(v:Value)(X:List Int):Prop:=w.ownsRow B 2 1 v X.length (X.map fun x=>.int .i64 x)
theorem bY.row{S:Nat→Prop}{w:World}{B:Nat}{v:Value}{X:List Int}(h:bY w B v X)(hS:∀k,S k→k<B):∃av cv,v=.slice av X.length cv∧X.length≤cv∧di S w av X:=by
 rcases h.2 with⟨rfl,hn⟩|⟨g,cv,cur,rfl,hb,hg,h1,h2,_⟩
 ·refine⟨none,0,by rw[hn],by omega,fun i hi=>by omega⟩
 ·refine⟨_,cv,rfl,h1,fun i hi=>⟨g,0,rfl,(Array.getElem?_eq_some_iff.1 hg).1,fun hs=>by have:=hS g hs;omega,?_⟩⟩;have hc:=World.ownsRow.cells h (g:=g) rfl i (.int .i64 X[i]) (by simp[hi]);have hadd:(⟨g,0,none⟩:Addr).add i=⟨g,i,none⟩:=by unfold Addr.add;split<;>simp_all
  rw[hadd]at hc;rw[Nat.zero_add];exact hc
theorem iR(L:af):∀k i,(ar L k i).length=k
 |0,_=>rfl
 |k+1,i=>by
  show(i::ar L k (ag L i)).length=k+1;rw[List.length_cons,iR L k]
theorem DT(ba bl:Nat)(a:Option Addr)(cap:Nat)(L:af)(i e:Int)(k:Nat)(hL:L.length≤1048576)(hsg:bQ L=true)(hch:bd L k i e)(he0:0≤e)(he1:e≤(L.length:Int))(he:ag L e=-1)(w:World)(hba:ba<w.heap.size)(hbl:bl<w.heap.size)
  (hca:w.cell? ⟨ba,0,none⟩=some (.int .i64 i)) (hcl:w.cell? ⟨bl,0,none⟩=some (.slice a L.length cap)) (hA:aD w a L) :
  CallsIn Fence.wide 3 prog 158 #[.slice none 0 0,.func (.func 159) #[] #[.pointer (some ⟨ba,0,none⟩),.pointer (some ⟨bl,0,none⟩)]] w fun e W'=>∃v,e=.returned v∧bY W' w.heap.size v (ar L k i)∧ai w W':=by
 have h1:1≤3:=by omega
 have hkl:k≤1048576:=by have:=bK k i hch he0;omega
 obtain⟨i0,hi,hz0,hz1,hz2⟩:=info_parts qM;refine callsIn_of_wp_marks func158 rfl trivial ?_ rfl;simp only[ntmps158,List.size_toArray,List.length_cons,List.length_nil,Nat.reduceAdd,Nat.reduceSub,Array.replicate_succ,Array.replicate_zero,List.push_toArray,List.append_toArray,List.nil_append,List.cons_append];gi_wp2;obtain⟨W0,hW0⟩:∃W0,W0=w.alloc (.cells #[.slice none 0 0] 38):=⟨_,rfl⟩;have hB0:ai w W0:=by rw[hW0];exact ay (Below.refl _ _) _
 have hsz:W0.heap.size=w.heap.size+1:=by rw[hW0];simp
 have hbox:Boxed W0 w.heap.size 38 (.slice none 0 0):=by rw[hW0];exact Boxed.new w _ _
 rw[←hW0];clear hW0
 refine wpIn_rangeFunc_ownF rfl h1 (gf:=159) (lb:=#[.pointer (some ⟨ba,0,none⟩),.pointer (some ⟨bl,0,none⟩)]) rfl trivial (enters_of func159 (by kernel_rfl) rfl)
  (Ay 2 (by omega) ba bl w.heap.size a cap L i e k hL hsg hch he0 he W0 (by omega) (by omega) (by omega) ((hB0.cell (p:=⟨ba,0,none⟩) hba).trans hca) ((hB0.cell (p:=⟨bl,0,none⟩) hbl).trans hcl) (hA.low.R hB0)) AY (AX (by omega) (by omega)) (Below.refl _ _) (fun _=>rfl)
  (fun pre W=>(∃v,Boxed W w.heap.size 38 v∧W.ownsRow w.heap.size 2 1 v pre.length (pre.map fun x=>.int .i64 x)∧True)∧ai w W)
  (fun _ _ _=>False)
  (OwnFrom.and (Own.from (holdsRow_own w.heap.size w.heap.size 38 2 1 (fun pre:List Int=>pre.length) (fun pre=>pre.map fun x=>.int .i64 x) (fun _ _=>True)) _) (ownFrom_below (Nat.le_refl _) (by omega)))
  (fun c s A B row hs hg hr=>hs)
  ⟨⟨_,hbox,World.ownsRow_nil _ _ _ _,trivial⟩,hB0⟩
  (fun x=>{ tmps:=#[.slice none 0 0,.func (.func 159) #[] #[.pointer (some ⟨ba,0,none⟩),.pointer (some ⟨bl,0,none⟩)],.pointer (some ⟨w.heap.size,0,none⟩),undef,.slice none 0 0,.int .i64 x,.func (.func 159) #[] #[.pointer (some ⟨ba,0,none⟩),.pointer (some ⟨bl,0,none⟩)],.int .i64 x,undef,undef,undef,undef,undef],defers:=[] }) ?assign ?body ?done ?stop
 case assign =>
  intro l x W K hK;simp only[qt];gi_wp2;exact hK
 case body =>
  rintro l pre x W ⟨⟨v,hv,hrow,_⟩,hB⟩ hlen;have hc:=hv.cell;have hf:=hv.frozen;have hz:=hB.size;have hb1:pre.length+1≤maxLen:=by unfold maxLen;omega
  have hb2:(pre.length+1)*8≤140737488355328:=by omega
  have hb3:w.heap.size≤(W.alloc (.cells #[.int .i64 x] 2)).heap.size:=by simp;omega
  have hcc2:∀u∈[Value.int .i64 x],u.oneCell'=true:=fun u hu=>by simp at hu;subst hu;rfl
  gi_wp2_with (gi_at_builtin;refine wpListIn_append_own _ rfl _ _ 38 rfl w.heap.size 2 i0 (.int .i64 0) 1 8 Tryz.underlying38 hi hz0 hz1 hz2 rfl (by decide) _ _ _ rfl (hrow.alloc _) ⟨W.heap.size,0,none⟩ 1 1 [.int .i64 x] rfl rfl (cell_one_new _ _ _) hcc2 hb1 hb2 hb3 ?_;intro v' w1 hown' hgrow _;obtain⟨g',cap',rfl⟩:=ownsRow_succ hown';obtain⟨hv1,hv2,hr2,hk2,hbb⟩:=hv.appended (by decide) hrow hB.size (Nat.le_refl _) hown' hgrow;have hc1:=hv1.cell;have hf1:=hv1.frozen);exact⟨hk2,⟨hbb,hbb.block bl hbl⟩,⟨_,hv2,by simpa using hr2,trivial⟩,hB.trans hbb⟩
 case done =>
  rintro D ys W hD rfl ⟨⟨v,hv,hrow,_⟩,hB⟩ hK;obtain⟨av,cv,rfl,_,_,_,_⟩:=pE hrow;have hc:=hv.cell;gi_wp2;refine⟨by simp,.inl ⟨_,_,rfl,run_takeDeferred hK,?_⟩⟩;exact⟨.slice av (ar L k i).length cv,by simp[results,Tryz.results158,go_sem],_,rfl,ownsRow_putObj hrow _ hK rfl,hB.trans (belowK_b (w:=w) (Nat.le_refl _) W D _ _ (by omega) hK rfl rfl)⟩
 case stop =>
  rintro D c pre W _ _ h _;exact h.elim
theorem Ew(ba bl:Nat)(a:Option Addr)(cap:Nat)(L:af)(i e:Int)(k:Nat)(hL:L.length≤1048576)(hsg:bQ L=true)(hch:bd L k i e)(he0:0≤e)(he1:e≤(L.length:Int))(he:ag L e=-1)(w:World)(hba:ba<w.heap.size)(hbl:bl<w.heap.size)
  (hca:w.cell? ⟨ba,0,none⟩=some (.int .i64 i)) (hcl:w.cell? ⟨bl,0,none⟩=some (.slice a L.length cap)) (hA:aD w a L) :
  ah 121 #[.func (.func 159) #[] #[.pointer (some ⟨ba,0,none⟩),.pointer (some ⟨bl,0,none⟩)]] w fun e W'=>∃v,e=.returned v∧bY W' w.heap.size v (ar L k i)∧ai w W':=by
 go_enter func121,ntmps121;go_wp2_with fail;refine(callsIn_wide.1 (DT ba bl a cap L i e k hL hsg hch he0 he1 he w hba hbl hca hcl hA)).mono ?_;rintro r w1 ⟨v,rfl,hO,hB⟩;go_wp2;go_ret;exact⟨_,rfl,hO,hB⟩
theorem EP(a:Option Addr)(cap:Nat)(L:af)(k:Nat)(hL:L.length≤1048576)(hsg:bQ L=true)(hch:bd L k 0 (L.length:Int))(w:World)(hA:aD w a L) :
  ah 62 #[.slice a L.length cap] w fun e W'=>∃v,e=.returned v∧bY W' w.heap.size v (ar L k 0)∧ai w W':=by
 have hB2:ai w ((w.alloc (.cells #[.slice a L.length cap] 22)).alloc (.cells #[.int .i64 0] 2)):=ay (ay (Below.refl _ _) _) _;go_enter func62,ntmps62;go_wp2_with fail;refine(callsIn_wide.1 (Ax 0 a L.length cap 0 w)).mono ?_;rintro r w1 ⟨rfl,rfl⟩;go_wp2_with fail;refine(Ew (w.heap.size+1) w.heap.size a cap L 0 (L.length:Int) k hL hsg hch (by omega) (Int.le_refl _) (eo (by omega)) _ (by simp) (by simp;omega) (by simp[go_sem]) (by simp[go_sem]) (hA.call hB2)).mono ?_;rintro r w2 ⟨v,rfl,hO,hB⟩;have hOw:bY w2 w.heap.size v (ar L k 0):=by
  refine⟨hO.1,?_⟩;rcases hO.2 with hn|⟨g,cp,cur,hv,hb,rest⟩
  ·exact .inl hn
  ·exact .inr ⟨g,cp,cur,hv,Nat.le_trans hB2.size hb,rest⟩
 have hBw:=aw hB2 hB;go_wp2;go_ret;exact⟨_,rfl,hOw,hBw⟩
theorem JZ(a:Option Addr)(cap:Nat)(L:af)(i:Int)(w:World)(h:aD w a L)(hL:L.length≤1048576)(hs:bQ L=true)(ho:ae (aa L i) [40]=true)(hit:0≤ag L i) :
  ah 185 #[.slice a L.length cap,.int .i64 i] w (aA (.bool true) w):=by
 obtain⟨h0,h1⟩:=bF ho;obtain⟨ii,rfl⟩:∃ii:Nat,i=(ii:Int):=⟨i.toNat,by omega⟩;obtain⟨sb,off,rfl,hsb,hc,_⟩:=h ii (by omega);have b40:=aM ho;have hg:aa L (ii:Int)=L[ii]:=by rw[eT (by omega) (by omega)];rfl
 rw[←hg]at hc;go_enter func185,ntmps185;go_wp2_with fail;refine(nO _ cap L (ii:Int) _ h hL hs).mono ?_;rintro e w1 ⟨rfl,hb1⟩;have hc1:=(hb1.cell (p:=⟨sb,off+ii,none⟩) hsb).trans hc;generalize ag L (ii:Int)=z at hit;generalize aa L (ii:Int)=s at hc1 b40;clear hc hg;go_wp2;go_ret;exact⟨rfl,hb1⟩
theorem GX(a:Option Addr)(cap:Nat)(L:af)(i e:Int)(k:Nat)(hL:L.length≤1048576)(hsg:bQ L=true)(ho:ae (aa L i) [40]=true)(hit:0≤ag L i)(hch:bd L k (i+1) e)(he0:0≤e)(he1:e≤(L.length:Int))(he:ag L e=-1)(w:World)(hA:aD w a L) :
  CallsIn Fence.wide 3 prog 156 #[.slice a L.length cap,.int .i64 i] w fun e W'=>∃v,e=.returned v∧bY W' w.heap.size v (ar L k (i+1))∧ai w W':=by
 have h1:1≤3:=by omega
 obtain⟨hi0,hi1⟩:=bF ho;have hkl:k≤1048576:=by have:=bK k _ hch he0;omega
 obtain⟨i0,hi,hz0,hz1,hz2⟩:=info_parts qM;refine callsIn_of_wp_marks func156 rfl trivial ?_ rfl;simp only[ntmps156,List.size_toArray,List.length_cons,List.length_nil,Nat.reduceAdd,Nat.reduceSub,Array.replicate_succ,Array.replicate_zero,List.push_toArray,List.append_toArray,List.nil_append,List.cons_append];obtain⟨Wa,hWa⟩:∃Wa,Wa=(w.alloc (.cells #[] 2)).alloc (.cells #[.slice (some ⟨w.heap.size,0,none⟩) 0 0] 38):=⟨_,rfl⟩;have hBa:ai w Wa:=by rw[hWa];exact ay (ay (Below.refl _ _) _) _
 have hza:Wa.heap.size=w.heap.size+1+1:=by rw[hWa];simp
 have hboxa:Boxed Wa (w.heap.size+1) 38 (.slice (some ⟨w.heap.size,0,none⟩) 0 0):=by
  have:=Boxed.new (w.alloc (.cells #[] 2)) 38 (.slice (some ⟨w.heap.size,0,none⟩) 0 0);rw[World.size_alloc]at this;rw[hWa];exact this
 have hrowa:Wa.ownsRow w.heap.size 2 1 (.slice (some ⟨w.heap.size,0,none⟩) 0 0) 0 []:=by
  rw[hWa];exact World.ownsRow.alloc (World.ownsRow_made w #[] 0 (Nat.le_refl _) (Nat.zero_le _) rfl) _
 gi_wp2_with fail;rw[←hWa];clear hWa;refine⟨trivial,(callsIn_wide.2 (JZ a cap L i _ (hA.call hBa) hL hsg ho hit)).mono ?_⟩;rintro r w1 ⟨rfl,hb1⟩;have hB1:=aw hBa hb1;have hbox1:Boxed w1 (w.heap.size+1) 38 (.slice (some ⟨w.heap.size,0,none⟩) 0 0):=(hb1.block _ (by omega)).trans hboxa;have hrow1:w1.ownsRow w.heap.size 2 1 (.slice (some ⟨w.heap.size,0,none⟩) 0 0) 0 []:=cR hrowa (fun g hg=>hb1.block g (World.ownsRow.lt hrowa g hg).2);have hz1':w.heap.size+1+1≤w1.heap.size:=by have:=hb1.size;omega
 clear hboxa hrowa hBa hza hb1;have hwr:IntKind.i64.wrap (i+1)=i+1:=IntWalk.i64_in _ (by omega);gi_wp2_with fail;refine⟨trivial,(Ax _ a L.length cap (i+1) w1).mono ?_⟩;rintro r w2 ⟨rfl,rfl⟩;gi_wp2;obtain⟨W0,hW0⟩:∃W0,W0=(w1.alloc (.cells #[.slice a L.length cap] 22)).alloc (.cells #[.int .i64 (i+1)] 2):=⟨_,rfl⟩;have hB0:ai w W0:=by rw[hW0];exact ay (ay hB1 _) _
 have hsz:W0.heap.size=w1.heap.size+1+1:=by rw[hW0];simp
 have hbox:Boxed W0 (w.heap.size+1) 38 (.slice (some ⟨w.heap.size,0,none⟩) 0 0):=by rw[hW0];exact(hbox1.alloc _).alloc _
 have hrow0:W0.ownsRow w.heap.size 2 1 (.slice (some ⟨w.heap.size,0,none⟩) 0 0) 0 []:=by rw[hW0];exact World.ownsRow.alloc (World.ownsRow.alloc hrow1 _) _
 have hbl0:Boxed W0 w1.heap.size 22 (.slice a L.length cap):=by rw[hW0];exact(Boxed.new w1 _ _).alloc _
 have hca0:W0.cell? ⟨w1.heap.size+1,0,none⟩=some (.int .i64 (i+1)):=by
  have:=Boxed.new (w1.alloc (.cells #[.slice a L.length cap] 22)) 2 (.int .i64 (i+1));rw[World.size_alloc]at this;rw[hW0];exact this.cell
 rw[←hW0];clear hW0 hbox1 hrow1
 refine wpIn_rangeFunc_ownF rfl h1 (gf:=159) (lb:=#[.pointer (some ⟨w1.heap.size+1,0,none⟩),.pointer (some ⟨w1.heap.size,0,none⟩)]) rfl trivial (enters_of func159 (by kernel_rfl) rfl)
  (Ay 2 (by omega) (w1.heap.size+1) w1.heap.size w.heap.size a cap L (i+1) e k hL hsg hch he0 he W0 (by omega) (by omega) (by omega) hca0 hbl0.cell (hA.low.R hB0)) AY (AX (by omega) (by omega)) (Below.refl _ _) (fun _=>rfl)
  (fun pre W=>(∃v,Boxed W (w.heap.size+1) 38 v∧W.ownsRow w.heap.size 2 1 v pre.length (pre.map fun x=>.int .i64 x)∧True)∧(Boxed W w1.heap.size 22 (.slice a L.length cap)∧ai w W))
  (fun _ _ _=>False)
  (OwnFrom.and (Own.from (holdsRow_own w.heap.size (w.heap.size+1) 38 2 1 (fun pre:List Int=>pre.length) (fun pre=>pre.map fun x=>.int .i64 x) (fun _ _=>True)) _) (OwnFrom.and (Own.from (boxed_own w1.heap.size 22 (fun _:List Int=>.slice a L.length cap)) _) (ownFrom_below (Nat.le_refl _) (by omega))))
  (fun c s A B row hs hg hr=>hs)
  ⟨⟨_,hbox,hrow0,trivial⟩,hbl0,hB0⟩
  (fun x=>{ tmps:=#[.slice a L.length cap,.int .i64 i,undef,undef,.slice none 0 0,.pointer (some ⟨w.heap.size+1,0,none⟩),.int .i64 x,.slice (some ⟨w.heap.size,0,none⟩) 0 0,.slice a L.length cap,.int .i64 i,.bool true,.bool false,undef,.slice a L.length cap,.int .i64 i,.int .i64 (i+1),.func (.func 159) #[] #[.pointer (some ⟨w1.heap.size+1,0,none⟩),.pointer (some ⟨w1.heap.size,0,none⟩)],.int .i64 x,undef,undef,undef,undef,undef],defers:=[] }) ?assign ?body ?done ?stop
 case assign =>
  intro l x W K hK;simp only[qt];gi_wp2;exact hK
 case body =>
  rintro l pre x W ⟨⟨v,hv,hrow,_⟩,hbx,hB⟩ hlen;have hc:=hv.cell;have hf:=hv.frozen;have hz:=hB.size;have hb1:pre.length+1≤maxLen:=by unfold maxLen;omega
  have hb2:(pre.length+1)*8≤140737488355328:=by omega
  have hb3:w.heap.size≤(W.alloc (.cells #[.int .i64 x] 2)).heap.size:=by simp;omega
  have hcc2:∀u∈[Value.int .i64 x],u.oneCell'=true:=fun u hu=>by simp at hu;subst hu;rfl
  have hnr:=hbx.not_row (by decide) hrow;gi_wp2_with (gi_at_builtin;refine wpListIn_append_own _ rfl _ _ 38 rfl w.heap.size 2 i0 (.int .i64 0) 1 8 Tryz.underlying38 hi hz0 hz1 hz2 rfl (by decide) _ _ _ rfl (hrow.alloc _) ⟨W.heap.size,0,none⟩ 1 1 [.int .i64 x] rfl rfl (cell_one_new _ _ _) hcc2 hb1 hb2 hb3 ?_;intro v' w3 hown' hgrow _;obtain⟨g',cap',rfl⟩:=ownsRow_succ hown';obtain⟨hv1,hv2,hr2,hk2,hbb⟩:=hv.appended (by decide) hrow hB.size (Nat.le_succ _) hown' hgrow;have hbx3:=(hbx.alloc (.cells #[.int .i64 x] 2)).kept hgrow hnr;have hbx4:=hbx3.other (B':=w.heap.size+1) (by omega) (.slice (some ⟨g',0,none⟩) (pre.length+1) cap');have hc1:=hv1.cell;have hf1:=hv1.frozen);exact⟨hk2,⟨hbb,hbx4.trans hbx.symm⟩,⟨_,hv2,by simpa using hr2,trivial⟩,hbx4,hB.trans hbb⟩
 case done =>
  rintro D ys W hD rfl ⟨⟨v,hv,hrow,_⟩,hbx,hB⟩ hK;obtain⟨av,cv,rfl,_,_,_,_⟩:=pE hrow;have hc:=hv.cell;gi_wp2;refine⟨by simp,.inl ⟨_,_,rfl,run_takeDeferred hK,?_⟩⟩;exact⟨.slice av (ar L k (i+1)).length cv,by simp[results,Tryz.results156,go_sem],_,rfl,ownsRow_putObj hrow _ hK rfl,hB.trans (belowK_b (w:=w) (Nat.le_refl _) W D _ _ (by omega) hK rfl rfl)⟩
 case stop =>
  rintro D c pre W _ _ h _;exact h.elim
theorem sO(a:Option Addr)(cap:Nat)(L:af)(i e:Int)(k:Nat)(hL:L.length≤1048576)(hsg:bQ L=true)(ho:ae (aa L i) [40]=true)(hit:0≤ag L i)(hch:bd L k (i+1) e)(he0:0≤e)(he1:e≤(L.length:Int))(he:ag L e=-1)(w:World)(hA:aD w a L) :
  ah 156 #[.slice a L.length cap,.int .i64 i] w fun e W'=>∃v,e=.returned v∧bY W' w.heap.size v (ar L k (i+1))∧ai w W' :=
 callsIn_wide.1 (GX a cap L i e k hL hsg ho hit hch he0 he1 he w hA)
section
variable {L:af} {i e:Int}
theorem aH.plain(h:aH L i)(ho:ae (aa L i) [40]=true):bB (aa L (i+1)):=by
 obtain⟨w,g,hw,hg,_,_⟩:=h.form ho;have hm:=List.mem_of_find?_eq_some hg;have hh:=List.find?_some hg;unfold dF at hh;rw[Bool.and_eq_true]at hh;have hh2:=hh.2;unfold iI at hm;simp only[List.mem_cons,List.not_mem_nil,or_false]at hm;clear hg;unfold bB ae;rcases hm with rfl|rfl|rfl|rfl|rfl|rfl|rfl|rfl|rfl|rfl|rfl|rfl|rfl|rfl|rfl|rfl|rfl|rfl|rfl|rfl|rfl|rfl|rfl|rfl|rfl|rfl|rfl|rfl|rfl|rfl|rfl|rfl|rfl|rfl
 all_goals first
  |(exfalso;rcases hw with rfl|rfl<;>exact absurd hh.1 (by decide))
  |(simp only[List.isEmpty,Bool.false_or,beq_iff_eq]at hh2;rw[←hh2];decide)
theorem aH.parts(h:aH L i)(ho:ae (aa L i) [40]=true):ag L (i+1)=i+2∧∃k e,bd L k (i+2) e∧0≤e∧e<(L.length:Int)∧ae (aa L e) [41]=true∧ag L i=e+1:=by
 have hp:=h.plain ho;obtain⟨h0,h1⟩:=bF ho;have hen:=h.ends;obtain⟨k,e,h2,h3,h4,h5,h6⟩:=iz ho (by omega);have hie:=bK k _ h2 h3;have hne:i+1≠e:=fun e1=>by
  rw[←e1]at h5;rw[hp.2]at h5;cases h5
 have hit:ag L (i+1)=i+2:=by rw[gw (by omega) (by omega) hp];omega
 obtain⟨m,rfl,_,h8⟩:=gk h2 (by omega);rw[hit]at h8;exact⟨hit,m,e,h8,h3,h4,h5,h6⟩
theorem iw(L:af)(k:Nat)(i:Int):ar L (k+1) i=i::ar L k (ag L i):=rfl
theorem Kz(h:aH L i)(ho:ae (aa L i) [40]=true){k:Nat}(hch:bd L k (i+2) e):bd L (k+1) (i+1) e:=by
 obtain⟨hit,_⟩:=h.parts ho;have h0:=bF ho;exact⟨by rw[hit];omega,by rw[hit];exact hch⟩
end
def dz(B:Nat)(w:World)(a:Option Addr)(X:List Int):Prop:=∀i (h:i<X.length),∃sb off,a=some ⟨sb,off,none⟩∧sb<w.heap.size∧B≤sb∧w.cell? ⟨sb,off+i,none⟩=some (.int .i64 X[i])
theorem dz.row{B:Nat}{S:Nat→Prop}{w:World}{a:Option Addr}{X:List Int}(h:dz B w a X)(hS:∀k,S k→k<B):di S w a X:=fun i hi=>by
 obtain⟨sb,off,h1,h2,h3,h4⟩:=h i hi;exact⟨sb,off,h1,h2,fun hs=>by have:=hS sb hs;omega,h4⟩
theorem dz.call{B:Nat}{w w':World}{a:Option Addr}{X:List Int}(h:dz B w a X)(hb:ai w w'):dz B w' a X:=fun i hi=>by
 obtain⟨sb,off,h1,h2,h3,h4⟩:=h i hi;exact⟨sb,off,h1,Nat.lt_of_lt_of_le h2 hb.size,h3,(hb.cell (p:=⟨sb,off+i,none⟩) h2).trans h4⟩
theorem dz.tail{B g o:Nat}{w:World}{x:Int}{X:List Int}(h:dz B w (some ⟨g,o,none⟩) (x::X)):dz B w (some ⟨g,o+1,none⟩) X:=fun i hi=>by
 obtain⟨sb,off,h1,h2,h3,h4⟩:=h (i+1) (by simp;omega);injection h1 with h1;injection h1 with e1 e2 _;subst e1 e2;refine⟨g,o+1,rfl,h2,h3,?_⟩;rw[show o+1+i=o+(i+1) by omega];simpa using h4
theorem bY.O2{w:World}{B:Nat}{v:Value}{X:List Int}(h:bY w B v X):∃av cv,v=.slice av X.length cv∧X.length≤cv∧dz B w av X:=by
 rcases h.2 with⟨rfl,hn⟩|⟨g,cv,cur,rfl,hb,hg,h1,h2,_⟩
 ·refine⟨none,0,by rw[hn],by omega,fun i hi=>by omega⟩
 ·refine⟨_,cv,rfl,h1,fun i hi=>⟨g,0,rfl,(Array.getElem?_eq_some_iff.1 hg).1,hb,?_⟩⟩;have hc:=World.ownsRow.cells h (g:=g) rfl i (.int .i64 X[i]) (by simp[hi]);have hadd:(⟨g,0,none⟩:Addr).add i=⟨g,i,none⟩:=by unfold Addr.add;split<;>simp_all
  rw[hadd]at hc;rw[Nat.zero_add];exact hc
theorem iZ(a:Option Addr)(cap:Nat)(L:af)(i e:Int)(k:Nat)(hL:L.length≤1048576)(hsg:bQ L=true)(hv:aH L i)(ho:ae (aa L i) [40]=true)(hch:bd L k (i+2) e)(he0:0≤e)(he1:e<(L.length:Int))(he:ae (aa L e) [41]=true)(w:World)(hA:aD w a L) :
  ah 155 #[.slice a L.length cap,.int .i64 i] w fun r W'=>∃av cv,r=.returned (.slice av k cv)∧k≤cv∧dz w.heap.size W' av (ar L k (i+2))∧ai w W':=by
 have hit:=(hv.parts ho).1;have hen:=hv.ends;have hk:=bK k _ hch he0;go_enter func155,ntmps155;go_wp2_with fail;refine(sO a cap L i e (k+1) hL hsg ho (by omega) (Kz hv ho hch) he0 (by omega) (eo (Or.inr (Or.inr he))) _ hA).mono ?_;rintro r w1 ⟨v,rfl,hO,hB⟩;have hO':w1.ownsRow w.heap.size 2 1 v (k+1) ((ar L (k+1) (i+1)).map fun x=>.int .i64 x):=by
  have:=hO;unfold bY at this;rwa [iR]at this
 obtain⟨g,cv,rfl⟩:=ownsRow_succ hO';obtain⟨_,_,hsh,hcv,hR⟩:=hO.O2;rw[iR]at hsh hcv;injection hsh with ha hn hc;subst ha hc;have HR:=aj hR;have hX:ar L (k+1) (i+1)=(i+1)::ar L k (i+2):=by rw[iw,hit]
 rw[hX]at HR;have h1:(1:Int)≤((k+1:Nat):Int):=by omega
 have h2:((k+1:Nat):Int)≤(cv:Int):=by omega
 clear hO hO' hR hX;by_cases hc1:cv=1
 ·subst hc1;have hk0:k=0:=by omega
  subst hk0;go_wp2;go_ret;refine⟨_,_,rfl,Nat.le_refl _,fun j hj=>?_,hB⟩;exact absurd hj (Nat.not_lt_zero _)
 ·go_wp2;go_ret;exact⟨_,_,rfl,by omega,HR.out.tail,hB⟩
theorem EG{L:af}{p:Int}(hl:ae (aa L (p+1)) [108,101,116]=false)(ht:ae (aa L (p+1)) [116,97,107,101]=false)(hv:ae (aa L (p+1)) [118,97,114,115]=false)(hh:ae (aa L (p+1)) [104,105,100,100,101,110]=false):dm L p=[]∧cY L p=false:=by
 refine⟨?_,hh⟩;unfold dm;rw[hl,ht,hv,hh];rfl
theorem y5(a:Option Addr)(cap:Nat)(L:af)(p:Int)(hL:L.length≤1048576)(hsg:bQ L=true)(hd:fm L 1 p≠-1)(w:World)(hA:aD w a L) :
  ah 117 #[.slice a L.length cap,.int .i64 p] w fun r W'=>∃av n cv,r=.returned (.tuple #[.slice av n cv,.bool (cY L p)])∧n=(dm L p).length∧dz w.heap.size W' av (dm L p)∧ai w W':=by
 have hv:aH L p:=Or.inr hd;have ho:=lR hd;have hl:=fR hd;obtain⟨hit,k,e,hch,he0,he1,he,hie⟩:=hv.parts ho;have hk:=bK k _ hch he0;obtain⟨pp,rfl⟩:∃pp:Nat,p=(pp:Int):=⟨p.toNat,by omega⟩;obtain⟨sb,off,rfl,hsb,hc,hsm⟩:=hA (pp+1) (by omega);have hg:aa L ((pp:Int)+1)=L[pp+1]:=by rw[eT (by omega) (by omega)];rfl
 rw[←hg]at hc hsm;have hwr:IntKind.i64.wrap ((pp:Int)+1)=(pp:Int)+1:=IntWalk.i64_in _ (by omega);have hp0:(0:Int)≤(pp:Int)+1:=by omega
 have hp1:(pp:Int)+1<(L.length:Int):=by omega
 have hpn:((pp:Int)+1).toNat=pp+1:=by omega
 have hPD:=mh hd;have HPP:Hid (∀w,aD w (some ⟨sb,off,none⟩) L→ah 155 #[.slice (some ⟨sb,off,none⟩) L.length cap,.int .i64 pp] w fun r W'=>∃av cv,r=.returned (.slice av k cv)∧k≤cv∧dz w.heap.size W' av (ar L k ((pp:Int)+2))∧ai w W'):=fun w hA=>iZ _ cap L _ e k hL hsg hv ho hch he0 he1 he w hA
 cases hlet:ae (aa L ((pp:Int)+1)) [108,101,116]
 ·cases htk:ae (aa L ((pp:Int)+1)) [116,97,107,101]
  ·cases hvr:ae (aa L ((pp:Int)+1)) [118,97,114,115]
   ·cases hhd:ae (aa L ((pp:Int)+1)) [104,105,100,100,101,110]
    ·have HD:=EG hlet htk hvr hhd;have HD':=aj HD;have b1:((aa L ((pp:Int)+1)).toList==[108,101,116])=false:=hlet;have b2:((aa L ((pp:Int)+1)).toList==[116,97,107,101])=false:=htk;have b3:((aa L ((pp:Int)+1)).toList==[118,97,114,115])=false:=hvr;have b4:((aa L ((pp:Int)+1)).toList==[104,105,100,100,101,110])=false:=hhd;clear hlet htk hvr hhd HD hg;generalize aa L ((pp:Int)+1)=s at hc hsm b1 b2 b3 b4;go_enter func117,ntmps117;go_wp2_with fail;refine(HPP.out _ hA).mono ?_;rintro r w1 ⟨av,cv,rfl,hcv,hR,hB⟩;have hc1:=(hB.cell (p:=⟨sb,off+(pp+1),none⟩) hsb).trans hc;go_wp2;go_ret2;exact⟨none,0,0,by rw[HD'.out.2];rfl,by rw[HD'.out.1];rfl,by rw[HD'.out.1];exact fun j hj=>absurd hj (Nat.not_lt_zero _),hB⟩
    ·obtain⟨n1,n2,n3,n4,n5⟩:=kT (c:=[104,105,100,100,101,110]) hd (aZ hhd) nB;obtain⟨c1,c2,c3⟩:=lP (L:=L) (fm L 5 ((pp:Int)+2)-((pp:Int)+2)).toNat ((pp:Int)+2) (by omega) (by omega) (fun j h6 h7=>n4 j h6 (by omega));have hkk:=(jh _ _ _ hch c1 (eo (Or.inr (Or.inr he))) (eo (Or.inr (Or.inr (by rw[show(pp:Int)+2+(((fm L 5 ((pp:Int)+2)-((pp:Int)+2)).toNat:Nat):Int)=fm L 5 ((pp:Int)+2) by omega];exact n3))))).1;have HD':Hid (dm L (pp:Int)=ar L k ((pp:Int)+2)∧cY L (pp:Int)=true):=⟨by unfold dm;rw[hlet,htk,hvr,hhd,hkk];rfl,hhd⟩;clear c1 c2 c3 hkk n1 n2 n3 n4 n5;have b1:((aa L ((pp:Int)+1)).toList==[108,101,116])=false:=hlet;have b2:((aa L ((pp:Int)+1)).toList==[116,97,107,101])=false:=htk;have b3:((aa L ((pp:Int)+1)).toList==[118,97,114,115])=false:=hvr;have b4:((aa L ((pp:Int)+1)).toList==[104,105,100,100,101,110])=true:=hhd;clear hlet htk hvr hhd hg;generalize aa L ((pp:Int)+1)=s at hc hsm b1 b2 b3 b4;go_enter func117,ntmps117;go_wp2_with fail;refine(HPP.out _ hA).mono ?_;rintro r w1 ⟨av,cv,rfl,hcv,hR,hB⟩;have hc1:=(hB.cell (p:=⟨sb,off+(pp+1),none⟩) hsb).trans hc;go_wp2;go_ret2;exact⟨av,k,cv,by rw[HD'.out.2];rfl,by rw[HD'.out.1,iR],by rw[HD'.out.1];exact hR,hB⟩
   ·obtain⟨n1,n2,n3,n4,n5⟩:=kT (c:=[118,97,114,115]) hd (aZ hvr) nC;obtain⟨c1,c2,c3⟩:=lP (L:=L) (fm L 5 ((pp:Int)+2)-((pp:Int)+2)).toNat ((pp:Int)+2) (by omega) (by omega) (fun j h6 h7=>n4 j h6 (by omega));have hkk:=(jh _ _ _ hch c1 (eo (Or.inr (Or.inr he))) (eo (Or.inr (Or.inr (by rw[show(pp:Int)+2+(((fm L 5 ((pp:Int)+2)-((pp:Int)+2)).toNat:Nat):Int)=fm L 5 ((pp:Int)+2) by omega];exact n3))))).1;have HD':Hid (dm L (pp:Int)=ar L k ((pp:Int)+2)∧cY L (pp:Int)=false):=⟨by unfold dm;rw[hlet,htk,hvr,hkk];rfl,aQ hvr (by decide)⟩;clear c1 c2 c3 hkk n1 n2 n3 n4 n5;have b1:((aa L ((pp:Int)+1)).toList==[108,101,116])=false:=hlet;have b2:((aa L ((pp:Int)+1)).toList==[116,97,107,101])=false:=htk;have b3:((aa L ((pp:Int)+1)).toList==[118,97,114,115])=true:=hvr;clear hlet htk hvr hg;generalize aa L ((pp:Int)+1)=s at hc hsm b1 b2 b3;go_enter func117,ntmps117;go_wp2_with fail;refine(HPP.out _ hA).mono ?_;rintro r w1 ⟨av,cv,rfl,hcv,hR,hB⟩;have hc1:=(hB.cell (p:=⟨sb,off+(pp+1),none⟩) hsb).trans hc;go_wp2;go_ret2;exact⟨av,k,cv,by rw[HD'.out.2];rfl,by rw[HD'.out.1,iR],by rw[HD'.out.1];exact hR,hB⟩
  ·obtain⟨n1,n2,n3,n4,n5,n6⟩:=mo hd (aZ htk);obtain⟨c1,c2,c3⟩:=lP (L:=L) (fm L 5 ((pp:Int)+4)-((pp:Int)+3)).toNat ((pp:Int)+3) (by omega) (by omega) (fun j h6 h7=>n4 j h6 (by omega));have hce:(pp:Int)+3+(((fm L 5 ((pp:Int)+4)-((pp:Int)+3)).toNat:Nat):Int)=fm L 5 ((pp:Int)+4):=by omega
   rw[hce]at c1;have HD':Hid (dm L (pp:Int)=ar L (fm L 5 ((pp:Int)+4)-((pp:Int)+3)).toNat ((pp:Int)+3)∧cY L (pp:Int)=false):=⟨by unfold dm;rw[hlet,htk];rfl,aQ htk (by decide)⟩;generalize (fm L 5 ((pp:Int)+4)-((pp:Int)+3)).toNat=n at c1 HD';have hdi:=iS hd;obtain⟨m,rfl,hit2,_⟩:=gk hch (by omega);have HIT:Hid (∀w,aD w (some ⟨sb,off,none⟩) L→ah 156 #[.slice (some ⟨sb,off,none⟩) L.length cap,.int .i64 ((pp:Int)+2)] w fun r W'=>∃v,r=.returned v∧bY W' w.heap.size v (ar L n ((pp:Int)+3))∧ai w W'):=fun w hA=>by
    have:=sO (some ⟨sb,off,none⟩) cap L ((pp:Int)+2) (fm L 5 ((pp:Int)+4)) n hL hsg n5 hit2 (by rw[show(pp:Int)+2+1=(pp:Int)+3 by omega];exact c1) (by omega) (by omega) (eo (Or.inr (Or.inr n3))) w hA;rw[show(pp:Int)+2+1=(pp:Int)+3 by omega]at this;exact this
   have b1:((aa L ((pp:Int)+1)).toList==[108,101,116])=false:=hlet;have b2:((aa L ((pp:Int)+1)).toList==[116,97,107,101])=true:=htk;clear hlet htk hg c1 c2 c3 hce n1 n2 n3 n4 n5 n6 hit2 hPD;generalize aa L ((pp:Int)+1)=s at hc hsm b1 b2;go_enter func117,ntmps117;go_wp2_with fail;refine(HPP.out _ hA).mono ?_;rintro r w1 ⟨av,cv,rfl,hcv,hR,hB⟩;have hc1:=(hB.cell (p:=⟨sb,off+(pp+1),none⟩) hsb).trans hc;obtain⟨g,o,rfl,hgz,hgB,hg0⟩:=hR 0 (by rw[iR];omega);have hg0':w1.cell? ⟨g,o,none⟩=some (.int .i64 ((pp:Int)+2)):=hg0;have hm0:(0:Int)<((m+1:Nat):Int):=by omega
   clear hR hg0 HPP;go_wp2_with fail;refine(HIT.out _ (hA.call hB)).mono ?_;rintro r w2 ⟨v,rfl,hO,hB2⟩;obtain⟨av2,cv2,rfl,hcv2,hR2⟩:=hO.O2;have HR3:Hid (dz w.heap.size w2 av2 (ar L n ((pp:Int)+3))):=fun j hj=>by
    obtain⟨sb',off',q1,q2,q3,q4⟩:=hR2 j hj;exact⟨sb',off',q1,q2,Nat.le_trans hB.size q3,q4⟩
   clear hO hR2;rw[iR]at hcv2 ⊢;go_wp2;go_ret2;exact⟨av2,n,cv2,by rw[HD'.out.2];rfl,by rw[HD'.out.1,iR],by rw[HD'.out.1];exact HR3.out,aw hB hB2⟩
 ·obtain⟨n1,n2,n3⟩:=sV hd (aZ hlet);have hdi:=iS hd;obtain⟨m,rfl,hit2,_⟩:=gk hch (by omega);have HD':Hid (dm L (pp:Int)=[(pp:Int)+2]∧cY L (pp:Int)=false):=⟨by unfold dm;rw[hlet];rfl,aQ hlet (by decide)⟩;have b1:((aa L ((pp:Int)+1)).toList==[108,101,116])=true:=hlet;clear hlet hg n1 n2 n3 hit2 hPD;generalize aa L ((pp:Int)+1)=s at hc hsm b1;go_enter func117,ntmps117;go_wp2_with fail;refine(HPP.out _ hA).mono ?_;rintro r w1 ⟨av,cv,rfl,hcv,hR,hB⟩;have hc1:=(hB.cell (p:=⟨sb,off+(pp+1),none⟩) hsb).trans hc;obtain⟨g,o,rfl,hgz,hgB,hg0⟩:=hR 0 (by rw[iR];omega);have HR3:Hid (dz w.heap.size w1 (some ⟨g,o,none⟩) [(pp:Int)+2]):=fun j hj=>by
   have:j=0:=by simpa using hj
   subst this;exact⟨g,o,rfl,hgz,hgB,hg0⟩
  have hm1:(1:Int)≤(cv:Int):=by omega
  clear hR hg0 HPP;go_wp2;go_ret2;exact⟨_,1,_,by rw[HD'.out.2];rfl,by rw[HD'.out.1];rfl,by rw[HD'.out.1];exact HR3.out,hB⟩
theorem di.tail{S:Nat→Prop}{g o:Nat}{w:World}{x:Int}{X:List Int}(h:di S w (some ⟨g,o,none⟩) (x::X)):di S w (some ⟨g,o+1,none⟩) X:=fun i hi=>by
 obtain⟨sb,off,h1,h2,h3,h4⟩:=h (i+1) (by simp;omega);injection h1 with h1;injection h1 with e1 e2 _;subst e1 e2;refine⟨g,o+1,rfl,h2,h3,?_⟩;rw[show o+1+i=o+(i+1) by omega];simpa using h4
def fE(L:af):List Int→Int→Int→Prop
 |[],i,e=>i≤e
 |p::ps,i,e=>i≤p∧aH L p∧fE L ps (ag L p) e
theorem fE.le{L:af}{e:Int}:∀{ps:List Int} {i:Int},fE L ps i e→i≤e
 |[],_,h=>h
 |p::ps,i,h=>by
  have h1:=h.1;have h2:=h.2.1.ends;have h3:=fE.le h.2.2;omega
theorem fE.start{L:af}{e:Int}{ps:List Int}{i j:Int}(h:fE L ps i e)(hj:j≤i):fE L ps j e:=by
 cases ps with
 |nil=>exact Int.le_trans hj h
 |cons p ps=>exact⟨Int.le_trans hj h.1,h.2⟩
theorem fE.more{L:af}{e e':Int}:∀{ps:List Int} {i:Int},fE L ps i e→e≤e'→fE L ps i e'
 |[],_,h,he=>Int.le_trans h he
 |_::_,_,h,he=>⟨h.1,h.2.1,fE.more h.2.2 he⟩
theorem rJ{L:af}{e:Int}:∀k i,dd L k i e→fE L (ar L k i) i e
 |0,i,h=>by
  have:i=e:=h;show i≤e;omega
 |k+1,i,h=>⟨Int.le_refl _,h.1,rJ k _ h.2⟩
theorem fE.drop{L:af}{e:Int}:∀{ps:List Int} {i:Int} (m:Nat),fE L ps i e→∃j,i≤j∧fE L (ps.drop m) j e
 |ps,i,0,h=>⟨i,Int.le_refl _,h⟩
 |[],i,m+1,h=>⟨i,Int.le_refl _,h⟩
 |p::ps,i,m+1,h=>by
  obtain⟨j,h1,h2⟩:=fE.drop m h.2.2;have:=h.1;have:=h.2.1.ends;exact⟨j,by omega,h2⟩
theorem jW{L:af}{i j:Int}(h0:0≤i)(h:i<j)(hj:j≤(L.length:Int)+1):aB L j+1≤aB L i:=by
 unfold aB;rw[if_neg (by omega),if_neg (by omega)];omega
theorem Ff{L:af}{i j:Int}(h0:0≤i)(h:i≤j):aB L j≤aB L i:=by
 unfold aB;rw[if_neg (by omega),if_neg (by omega)];omega
theorem Ed(x y z:Bool):((x||y)||z)=((x||z)||y):=by cases x<;>cases y<;>cases z<;>rfl
def j6(v:Bool)(m:Nat):Bool:=v&&decide (m=0)
theorem Ep{L:af}{e:Int}:∀k i,ey L k i e→∀p∈ar L k i,fm L 1 p≠-1:=fun k i h=>(eK k i h).2
def ca(L:af):List Int→List Int
 |[]=>[]
 |p::ps=>if ae (aa L p) [40]then(p+2)::ca L ps else ca L ps
theorem vi(L:af):∀ps qs,ca L (ps++qs)=ca L ps++ca L qs
 |[],_=>rfl
 |p::ps,qs=>by
  show(if ae (aa L p) [40]then(p+2)::ca L (ps++qs)else ca L (ps++qs))=(if ae (aa L p) [40]then(p+2)::ca L ps else ca L ps)++ca L qs;rw[vi L ps qs];split<;>rfl
theorem sH(L:af):∀ps,(ca L ps).length≤ps.length
 |[]=>Nat.le_refl _
 |p::ps=>by
  have:=sH L ps;unfold ca;split<;>simp<;>omega
theorem Af(L:af):∀ps,(!ps.any fun p=>ae (aa L p) [40])=decide (((ca L ps).length:Int)=0)
 |[]=>rfl
 |p::ps=>by
  rw[List.any_cons];unfold ca;cases h:ae (aa L p) [40]
  ·rw[Bool.false_or,Af L ps];simp
  ·simp;omega
theorem xy{L:af}{e:Int}:∀k i,iy L k i e→0≤e→fE L (ca L (ar L k i)) i e
 |0,i,h,_=>by
  have:i=e:=h;show i≤e;omega
 |k+1,i,h,he=>by
  have ih:=xy k _ h.2 he;have hpe:=lx h.1;show fE L (if ae (aa L i) [40]then(i+2)::ca L (ar L k (ag L i))else ca L (ar L k (ag L i))) i e;obtain⟨_,_,h1|h1⟩:=jY h.1
  ·rw[h1.1,if_pos rfl];exact⟨by omega,h1.2.2.2.1,ih.start (by omega)⟩
  ·rw[h1.1];exact ih.start (by omega)
theorem aE.wide{S T:Nat→Prop}{w w':World}(h:aE S S w w')(hT:∀k,S k→T k):aE T T w w':=⟨h.os,h.tape,h.output,h.size,fun k hk hn=>h.block k hk (fun hs=>hn (hT k hs)),fun _ hs=>Or.inl hs⟩
theorem aE.Pm{S:Nat→Prop}{w W W':World}{row:Option Nat}(h:aE S S w W)(hg:W.grownBy W' row)(hr:∀k,row=some k→w.heap.size≤k):aE S S w W' :=
 ⟨hg.os.trans h.os,hg.tape.trans h.tape,hg.output.trans h.output,Nat.le_trans h.size hg.size,fun k hk hn=>(hg.block k (Nat.lt_of_lt_of_le hk h.size) (fun e=>by have:=hr k e.symm;omega)).trans (h.block k hk hn),fun _ hs=>Or.inl hs⟩
theorem aE.O6{S:Nat→Prop}{w W W':World}(h:aE S S w W)(hb:ai W W'):aE S S w W':=h.trans (aE.j S hb)
theorem uv{L:af}{e:Int}:∀k i,iy L k i e→0≤e→∀p∈ar L k i,fm L 3 p≠-1∧i≤p∧ag L p≤e
 |0,_,_,_,p,hp=>by cases hp
 |k+1,i,h,he,p,hp=>by
  have hpe:=lx h.1;have h2:=gJ k _ h.2 he;rcases List.mem_cons.mp hp with rfl|hp
  ·exact⟨h.1,Int.le_refl _,by omega⟩
  ·obtain⟨a1,a2,a3⟩:=uv k _ h.2 he p hp;exact⟨a1,by omega,a3⟩
end Go.Proofs.YtdojfommmpnbgaaGreatDoor
