import Derived.Test.YtdgihicpjonjgaaGreatDoorZItems
import Derived.Test.YtdgihicpjonjgaaGreatDoorZRdR
import Derived.Test.YtdgihicpjonjgaaGreatDoorZRdOne
namespace Go.Proofs.YtdgihicpjonjgaaGreatDoor
open Go.RowKit Go.Shelf
attribute [local go_sem] Oper.semAt_some
set_option maxHeartbeats 1000000 in
theorem itemsFrom_in (n:Nat) (a:Option Addr) (len cap:Nat) (i:Int) (w:World) :
  CallsIn Fence.wide n Tryz.prog 91 #[.slice a len cap,.int .i64 i] w fun e w'=>e=.returned (.func (.func 122) #[] #[.pointer (some ⟨w.heap.size+1,0,none⟩),.pointer (some ⟨w.heap.size,0,none⟩)])∧w'=(w.alloc (.cells #[.slice a len cap] 22)).alloc (.cells #[.int .i64 i] 2):=by
 refine callsIn_of_wp Tryz.func91 rfl trivial ?_ rfl
 simp only [Tryz.ntmps91,List.size_toArray,List.length_cons,List.length_nil,Nat.reduceAdd,Nat.reduceSub,Array.replicate_succ,Array.replicate_zero,List.push_toArray,List.append_toArray,List.nil_append,List.cons_append]
 gi_wp2
 go_ret
 exact ⟨rfl,rfl⟩
theorem own_shape' {w:World} {B:Nat} {e:TypeId} {sz n:Nat} {v:Value} {xs:List Value} (h:w.ownsRow B e sz v n xs):∃ av cv,v=.slice av n cv∧n≤cv∧cv≤maxLen∧(av=none→n=0)∧∀ p,av=some p→∃ g,p=⟨g,0,none⟩∧v.ownBlock=some g:=by
 rcases h.2 with ⟨rfl,rfl⟩ | ⟨g,cap,cur,rfl,_,_,h1,h2,_⟩
 ·exact ⟨none,0,rfl,Nat.le_refl _,Nat.zero_le _,fun _=>rfl,fun p hp=>by cases hp⟩
 ·exact ⟨some ⟨g,0,none⟩,cap,rfl,h1,h2,(fun h=>by cases h),(fun p hp=>by cases hp;exact ⟨g,rfl,rfl⟩)⟩
theorem kpH_t {n0 bl:Nat} {A B C:World} (h:KpH n0 bl A B) (k:KpH n0 bl B C):KpH n0 bl A C:=⟨h.1.trans k.1,k.2.trans h.2⟩
theorem kpH_b {n0 bl:Nat} {w:World} (hn:n0≤w.heap.size) (hb:bl < w.heap.size) (W:World) (l:Nat) (o o':Obj) (hl:w.heap.size≤l) (h1:W.heap[l]?=some o) (h2:o.isCells=false) (h3:o.isWalk=false):KpH n0 bl W (W.putObj l o') :=
 ⟨belowK_b (w:=w) hn W l o o' hl h1 h2 h3,World.putObj_heap_other (fun e=>by omega)⟩
theorem itms_stops (n:Nat) (hn:1≤n) (ba bl n0:Nat) (a:Option Addr) (cap:Nat) (L:List ByteArray) (i e:Int) (k:Nat) (hL:L.length≤1048576) (hsg:signsB L=true) (hch:chI L k i e) (he0:0≤e) (he:itemE L e=-1) (w:World) (hba:ba < w.heap.size) (hbl:bl < w.heap.size) (hn0:n0≤w.heap.size)
  (hca:w.cell? ⟨ba,0,none⟩=some (.int .i64 i)) (hcl:w.cell? ⟨bl,0,none⟩=some (.slice a L.length cap)) (hA:ArgB n0 w a L) :
  SeqStopsK Fence.wide n Tryz.prog 122 #[.pointer (some ⟨ba,0,none⟩),.pointer (some ⟨bl,0,none⟩)] encI (KpH n0 bl) (fun ys=>ys=chainP L k i) (fun pre=>pre <+: chainP L k i) k w:=fun l J Jx W hW hJ _ hY h0 =>
 itms1_in n hn l ba bl n0 W.heap.size a cap L i e k hL hsg hch he0 he J Jx hJ hY W ((hW.cell (p:=⟨ba,0,none⟩) hba).trans hca) ((hW.cell (p:=⟨bl,0,none⟩) hbl).trans hcl) (Nat.lt_of_lt_of_le hba hW.size) (Nat.lt_of_lt_of_le hbl hW.size) (hA.keep (hW.mono hn0)) (Nat.le_trans hn0 hW.size) h0
theorem infoI:(Tryz.prog.info? 2).map (fun i=>(i.zero,i.size,i.bytes))=some (some (.int .i64 0),1,8):=by kernel_rfl
def OwnI (w:World) (B:Nat) (v:Value) (X:List Int):Prop:=w.ownsRow B 2 1 v X.length (X.map fun x=>.int .i64 x)
theorem OwnI.row {S:Nat→Prop} {w:World} {B:Nat} {v:Value} {X:List Int} (h:OwnI w B v X) (hS:∀ k,S k→k < B):∃ av cv,v=.slice av X.length cv∧X.length≤cv∧RowI S w av X:=by
 rcases h.2 with ⟨rfl,hn⟩ | ⟨g,cv,cur,rfl,hb,hg,h1,h2,_⟩
 ·refine ⟨none,0,by rw [hn],by omega,fun i hi=>by omega⟩
 ·refine ⟨_,cv,rfl,h1,fun i hi=>⟨g,0,rfl,(Array.getElem?_eq_some_iff.1 hg).1,fun hs=>by have:=hS g hs;omega,?_⟩⟩
  have hc:=World.ownsRow.cells h (g:=g) rfl i (.int .i64 X[i]) (by simp [hi])
  have hadd:(⟨g,0,none⟩:Addr).add i=⟨g,i,none⟩:=by unfold Addr.add;split <;> simp_all
  rw [hadd] at hc
  rw [Nat.zero_add]
  exact hc
theorem chP_len (L:List ByteArray):∀ k i,(chainP L k i).length=k
 | 0,_=>rfl
 | k+1,i=>by
  show (i :: chainP L k (itemE L i)).length=k+1
  rw [List.length_cons,chP_len L k]
set_option maxRecDepth 100000 in
set_option maxHeartbeats 4000000 in
theorem appendSeq_in (ba bl:Nat) (a:Option Addr) (cap:Nat) (L:List ByteArray) (i e:Int) (k:Nat) (hL:L.length≤1048576) (hsg:signsB L=true) (hch:chI L k i e) (he0:0≤e) (he1:e≤(L.length:Int)) (he:itemE L e=-1) (w:World) (hba:ba < w.heap.size) (hbl:bl < w.heap.size)
  (hca:w.cell? ⟨ba,0,none⟩=some (.int .i64 i)) (hcl:w.cell? ⟨bl,0,none⟩=some (.slice a L.length cap)) (hA:ArgT w a L) :
  CallsIn Fence.wide 3 Tryz.prog 121 #[.slice none 0 0,.func (.func 122) #[] #[.pointer (some ⟨ba,0,none⟩),.pointer (some ⟨bl,0,none⟩)]] w fun e W'=>∃ v,e=.returned v∧OwnI W' w.heap.size v (chainP L k i)∧Below w.heap.size w W':=by
 have h1:1≤3:=by omega
 have hkl:k≤1048576:=by have:=chI_ends k i hch he0;omega
 obtain ⟨i0,hi,hz0,hz1,hz2⟩:=info_parts infoI
 refine callsIn_of_wp_marks Tryz.func121 rfl trivial ?_ rfl
 simp only [Tryz.ntmps121,List.size_toArray,List.length_cons,List.length_nil,Nat.reduceAdd,Nat.reduceSub,Array.replicate_succ,Array.replicate_zero,List.push_toArray,List.append_toArray,List.nil_append,List.cons_append]
 gi_wp2
 obtain ⟨W0,hW0⟩:∃ W0,W0=w.alloc (.cells #[.slice none 0 0] 29):=⟨_,rfl⟩
 have hB0:Below w.heap.size w W0:=by rw [hW0];exact balloc (Below.refl _ _) _
 have hsz:W0.heap.size=w.heap.size+1:=by rw [hW0];simp
 have hbox:Boxed W0 w.heap.size 29 (.slice none 0 0):=by rw [hW0];exact Boxed.new w _ _
 rw [← hW0]
 clear hW0
 refine wpIn_rangeFunc_ownF rfl h1 (gf:=122) (lb:=#[.pointer (some ⟨ba,0,none⟩),.pointer (some ⟨bl,0,none⟩)]) rfl trivial (enters_of Tryz.func122 (by kernel_rfl) rfl)
  (itms_stops 2 (by omega) ba bl w.heap.size a cap L i e k hL hsg hch he0 he W0 (by omega) (by omega) (by omega) ((hB0.cell (p:=⟨ba,0,none⟩) hba).trans hca) ((hB0.cell (p:=⟨bl,0,none⟩) hbl).trans hcl) (hA.low.keep hB0)) kpH_t (kpH_b (by omega) (by omega)) (Below.refl _ _) (fun _=>rfl)
  (fun pre W=>(∃ v,Boxed W w.heap.size 29 v∧W.ownsRow w.heap.size 2 1 v pre.length (pre.map fun x=>.int .i64 x)∧True)∧Below w.heap.size w W)
  (fun _ _ _=>False)
  (OwnFrom.and (Own.from (holdsRow_own w.heap.size w.heap.size 29 2 1 (fun pre:List Int=>pre.length) (fun pre=>pre.map fun x=>.int .i64 x) (fun _ _=>True)) _) (ownFrom_below (Nat.le_refl _) (by omega)))
  (fun c s A B row hs hg hr=>hs)
  ⟨⟨_,hbox,World.ownsRow_nil _ _ _ _,trivial⟩,hB0⟩
  (fun x=>{ tmps:=#[.slice none 0 0,.func (.func 122) #[] #[.pointer (some ⟨ba,0,none⟩),.pointer (some ⟨bl,0,none⟩)],.pointer (some ⟨w.heap.size,0,none⟩),undef,.slice none 0 0,.int .i64 x,.func (.func 122) #[] #[.pointer (some ⟨ba,0,none⟩),.pointer (some ⟨bl,0,none⟩)],.int .i64 x,undef,undef,undef,undef,undef],defers:=[] }) ?assign ?body ?done ?stop
 case assign =>
  intro l x W K hK
  simp only [encI]
  gi_wp2
  exact hK
 case body =>
  rintro l pre x W ⟨⟨v,hv,hrow,_⟩,hB⟩ hlen
  have hc:=hv.cell
  have hf:=hv.frozen
  have hz:=hB.size
  have hb1:pre.length+1≤maxLen:=by unfold maxLen;omega
  have hb2:(pre.length+1) * 8≤140737488355328:=by omega
  have hb3:w.heap.size≤(W.alloc (.cells #[.int .i64 x] 2)).heap.size:=by simp;omega
  have hcc2:∀ u∈[Value.int .i64 x],u.oneCell'=true:=fun u hu=>by simp at hu;subst hu;rfl
  gi_wp2_with (gi_at_builtin;refine wpListIn_append_own _ rfl _ _ 29 rfl w.heap.size 2 i0 (.int .i64 0) 1 8 Tryz.underlying29 hi hz0 hz1 hz2 rfl (by decide) _ _ _ rfl (hrow.alloc _) ⟨W.heap.size,0,none⟩ 1 1 [.int .i64 x] rfl rfl (cell_one_new _ _ _) hcc2 hb1 hb2 hb3 ?_;intro v' w1 hown' hgrow _;obtain ⟨g',cap',rfl⟩:=ownsRow_succ hown';obtain ⟨hv1,hv2,hr2,hk2,hbb⟩:=hv.appended (by decide) hrow hB.size (Nat.le_refl _) hown' hgrow;have hc1:=hv1.cell;have hf1:=hv1.frozen)
  exact ⟨hk2,⟨hbb,hbb.block bl hbl⟩,⟨_,hv2,by simpa using hr2,trivial⟩,hB.trans hbb⟩
 case done =>
  rintro D ys W hD rfl ⟨⟨v,hv,hrow,_⟩,hB⟩ hK
  obtain ⟨av,cv,rfl,_,_,_,_⟩:=own_shape' hrow
  have hc:=hv.cell
  gi_wp2
  refine ⟨by simp,.inl ⟨_,_,rfl,run_takeDeferred hK,?_⟩⟩
  exact ⟨.slice av (chainP L k i).length cv,by simp [results,Tryz.results121,go_sem],_,rfl,ownsRow_putObj hrow _ hK rfl,hB.trans (belowK_b (w:=w) (Nat.le_refl _) W D _ _ (by omega) hK rfl rfl)⟩
 case stop =>
  rintro D c pre W _ _ h _
  exact h.elim
set_option maxHeartbeats 1000000 in
theorem collect_any (ba bl:Nat) (a:Option Addr) (cap:Nat) (L:List ByteArray) (i e:Int) (k:Nat) (hL:L.length≤1048576) (hsg:signsB L=true) (hch:chI L k i e) (he0:0≤e) (he1:e≤(L.length:Int)) (he:itemE L e=-1) (w:World) (hba:ba < w.heap.size) (hbl:bl < w.heap.size)
  (hca:w.cell? ⟨ba,0,none⟩=some (.int .i64 i)) (hcl:w.cell? ⟨bl,0,none⟩=some (.slice a L.length cap)) (hA:ArgT w a L) :
  Calls Tryz.prog 90 #[.func (.func 122) #[] #[.pointer (some ⟨ba,0,none⟩),.pointer (some ⟨bl,0,none⟩)]] w fun e W'=>∃ v,e=.returned v∧OwnI W' w.heap.size v (chainP L k i)∧Below w.heap.size w W':=by
 go_enter Tryz.func90,Tryz.ntmps90
 go_wp2_with fail
 refine (callsIn_wide.1 (appendSeq_in ba bl a cap L i e k hL hsg hch he0 he1 he w hba hbl hca hcl hA)).mono ?_
 rintro r w1 ⟨v,rfl,hO,hB⟩
 go_wp2
 go_ret
 exact ⟨_,rfl,hO,hB⟩
set_option maxHeartbeats 1000000 in
theorem deedsOf_any (a:Option Addr) (cap:Nat) (L:List ByteArray) (k:Nat) (hL:L.length≤1048576) (hsg:signsB L=true) (hch:chI L k 0 (L.length:Int)) (w:World) (hA:ArgT w a L) :
  Calls Tryz.prog 43 #[.slice a L.length cap] w fun e W'=>∃ v,e=.returned v∧OwnI W' w.heap.size v (chainP L k 0)∧Below w.heap.size w W':=by
 have hB2:Below w.heap.size w ((w.alloc (.cells #[.slice a L.length cap] 22)).alloc (.cells #[.int .i64 0] 2)):=balloc (balloc (Below.refl _ _) _) _
 go_enter Tryz.func43,Tryz.ntmps43
 go_wp2_with fail
 refine (callsIn_wide.1 (itemsFrom_in 0 a L.length cap 0 w)).mono ?_
 rintro r w1 ⟨rfl,rfl⟩
 go_wp2_with fail
 refine (collect_any (w.heap.size+1) w.heap.size a cap L 0 (L.length:Int) k hL hsg hch (by omega) (Int.le_refl _) (itemE_none (by omega)) _ (by simp) (by simp;omega) (by simp [go_sem]) (by simp [go_sem]) (hA.call hB2)).mono ?_
 rintro r w2 ⟨v,rfl,hO,hB⟩
 have hOw:OwnI w2 w.heap.size v (chainP L k 0):=by
  refine ⟨hO.1,?_⟩
  rcases hO.2 with hn | ⟨g,cp,cur,hv,hb,rest⟩
  ·exact .inl hn
  ·exact .inr ⟨g,cp,cur,hv,Nat.le_trans hB2.size hb,rest⟩
 have hBw:=bstep hB2 hB
 go_wp2
 go_ret
 exact ⟨_,rfl,hOw,hBw⟩
set_option maxHeartbeats 1000000 in
theorem opensI_yes (a:Option Addr) (cap:Nat) (L:List ByteArray) (i:Int) (w:World) (h:ArgT w a L) (hL:L.length≤1048576) (hs:signsB L=true) (ho:isW (sgAt L i) [40]=true) (hit:0≤itemE L i) :
  Calls Tryz.prog 141 #[.slice a L.length cap,.int .i64 i] w fun e w'=>e=.returned (.bool true)∧Below w.heap.size w w':=by
 obtain ⟨h0,h1⟩:=sgAt_open ho
 obtain ⟨ii,rfl⟩:∃ ii:Nat,i=(ii:Int):=⟨i.toNat,by omega⟩
 obtain ⟨sb,off,rfl,hsb,hc,_⟩:=h ii (by omega)
 have b40:((sgAt L (ii:Int)).toList == [40])=true:=ho
 have hg:sgAt L (ii:Int)=L[ii]:=by rw [sgAt_in (by omega) (by omega)];rfl
 rw [← hg] at hc
 go_enter Tryz.func141,Tryz.ntmps141
 go_wp2_with fail
 refine (itemEndI_any _ cap L (ii:Int) _ h hL hs).mono ?_
 rintro e w1 ⟨rfl,hb1⟩
 have hc1:=(hb1.cell (p:=⟨sb,off+ii,none⟩) hsb).trans hc
 generalize itemE L (ii:Int)=z at hit
 generalize sgAt L (ii:Int)=s at hc1 b40
 clear hc hg
 go_wp2
 go_ret
 exact ⟨rfl,hb1⟩
set_option maxRecDepth 100000 in
set_option maxHeartbeats 4000000 in
theorem itemsInI_in (a:Option Addr) (cap:Nat) (L:List ByteArray) (i e:Int) (k:Nat) (hL:L.length≤1048576) (hsg:signsB L=true) (ho:isW (sgAt L i) [40]=true) (hit:0≤itemE L i) (hch:chI L k (i+1) e) (he0:0≤e) (he1:e≤(L.length:Int)) (he:itemE L e=-1) (w:World) (hA:ArgT w a L) :
  CallsIn Fence.wide 3 Tryz.prog 119 #[.slice a L.length cap,.int .i64 i] w fun e W'=>∃ v,e=.returned v∧OwnI W' w.heap.size v (chainP L k (i+1))∧Below w.heap.size w W':=by
 have h1:1≤3:=by omega
 obtain ⟨hi0,hi1⟩:=sgAt_open ho
 have hkl:k≤1048576:=by have:=chI_ends k _ hch he0;omega
 obtain ⟨i0,hi,hz0,hz1,hz2⟩:=info_parts infoI
 refine callsIn_of_wp_marks Tryz.func119 rfl trivial ?_ rfl
 simp only [Tryz.ntmps119,List.size_toArray,List.length_cons,List.length_nil,Nat.reduceAdd,Nat.reduceSub,Array.replicate_succ,Array.replicate_zero,List.push_toArray,List.append_toArray,List.nil_append,List.cons_append]
 obtain ⟨Wa,hWa⟩:∃ Wa,Wa=(w.alloc (.cells #[] 2)).alloc (.cells #[.slice (some ⟨w.heap.size,0,none⟩) 0 0] 29):=⟨_,rfl⟩
 have hBa:Below w.heap.size w Wa:=by rw [hWa];exact balloc (balloc (Below.refl _ _) _) _
 have hza:Wa.heap.size=w.heap.size+1+1:=by rw [hWa];simp
 have hboxa:Boxed Wa (w.heap.size+1) 29 (.slice (some ⟨w.heap.size,0,none⟩) 0 0):=by
  have:=Boxed.new (w.alloc (.cells #[] 2)) 29 (.slice (some ⟨w.heap.size,0,none⟩) 0 0)
  rw [World.size_alloc] at this
  rw [hWa]
  exact this
 have hrowa:Wa.ownsRow w.heap.size 2 1 (.slice (some ⟨w.heap.size,0,none⟩) 0 0) 0 []:=by
  rw [hWa]
  exact World.ownsRow.alloc (World.ownsRow_made w #[] 0 (Nat.le_refl _) (Nat.zero_le _) rfl) _
 gi_wp2_with fail
 rw [← hWa]
 clear hWa
 refine ⟨trivial,(callsIn_wide.2 (opensI_yes a cap L i _ (hA.call hBa) hL hsg ho hit)).mono ?_⟩
 rintro r w1 ⟨rfl,hb1⟩
 have hB1:=bstep hBa hb1
 have hbox1:Boxed w1 (w.heap.size+1) 29 (.slice (some ⟨w.heap.size,0,none⟩) 0 0):=(hb1.block _ (by omega)).trans hboxa
 have hrow1:w1.ownsRow w.heap.size 2 1 (.slice (some ⟨w.heap.size,0,none⟩) 0 0) 0 []:=own_kept hrowa (fun g hg=>hb1.block g (World.ownsRow.lt hrowa g hg).2)
 have hz1':w.heap.size+1+1≤w1.heap.size:=by have:=hb1.size;omega
 clear hboxa hrowa hBa hza hb1
 have hwr:IntKind.i64.wrap (i+1)=i+1:=IntWalk.i64_in _ (by omega)
 gi_wp2_with fail
 refine ⟨trivial,(itemsFrom_in _ a L.length cap (i+1) w1).mono ?_⟩
 rintro r w2 ⟨rfl,rfl⟩
 gi_wp2
 obtain ⟨W0,hW0⟩:∃ W0,W0=(w1.alloc (.cells #[.slice a L.length cap] 22)).alloc (.cells #[.int .i64 (i+1)] 2):=⟨_,rfl⟩
 have hB0:Below w.heap.size w W0:=by rw [hW0];exact balloc (balloc hB1 _) _
 have hsz:W0.heap.size=w1.heap.size+1+1:=by rw [hW0];simp
 have hbox:Boxed W0 (w.heap.size+1) 29 (.slice (some ⟨w.heap.size,0,none⟩) 0 0):=by rw [hW0];exact (hbox1.alloc _).alloc _
 have hrow0:W0.ownsRow w.heap.size 2 1 (.slice (some ⟨w.heap.size,0,none⟩) 0 0) 0 []:=by rw [hW0];exact World.ownsRow.alloc (World.ownsRow.alloc hrow1 _) _
 have hbl0:Boxed W0 w1.heap.size 22 (.slice a L.length cap):=by rw [hW0];exact (Boxed.new w1 _ _).alloc _
 have hca0:W0.cell? ⟨w1.heap.size+1,0,none⟩=some (.int .i64 (i+1)):=by
  have:=Boxed.new (w1.alloc (.cells #[.slice a L.length cap] 22)) 2 (.int .i64 (i+1))
  rw [World.size_alloc] at this
  rw [hW0]
  exact this.cell
 rw [← hW0]
 clear hW0 hbox1 hrow1
 refine wpIn_rangeFunc_ownF rfl h1 (gf:=122) (lb:=#[.pointer (some ⟨w1.heap.size+1,0,none⟩),.pointer (some ⟨w1.heap.size,0,none⟩)]) rfl trivial (enters_of Tryz.func122 (by kernel_rfl) rfl)
  (itms_stops 2 (by omega) (w1.heap.size+1) w1.heap.size w.heap.size a cap L (i+1) e k hL hsg hch he0 he W0 (by omega) (by omega) (by omega) hca0 hbl0.cell (hA.low.keep hB0)) kpH_t (kpH_b (by omega) (by omega)) (Below.refl _ _) (fun _=>rfl)
  (fun pre W=>(∃ v,Boxed W (w.heap.size+1) 29 v∧W.ownsRow w.heap.size 2 1 v pre.length (pre.map fun x=>.int .i64 x)∧True)∧(Boxed W w1.heap.size 22 (.slice a L.length cap)∧Below w.heap.size w W))
  (fun _ _ _=>False)
  (OwnFrom.and (Own.from (holdsRow_own w.heap.size (w.heap.size+1) 29 2 1 (fun pre:List Int=>pre.length) (fun pre=>pre.map fun x=>.int .i64 x) (fun _ _=>True)) _) (OwnFrom.and (Own.from (boxed_own w1.heap.size 22 (fun _:List Int=>.slice a L.length cap)) _) (ownFrom_below (Nat.le_refl _) (by omega))))
  (fun c s A B row hs hg hr=>hs)
  ⟨⟨_,hbox,hrow0,trivial⟩,hbl0,hB0⟩
  (fun x=>{ tmps:=#[.slice a L.length cap,.int .i64 i,undef,undef,.slice none 0 0,.pointer (some ⟨w.heap.size+1,0,none⟩),.int .i64 x,.slice (some ⟨w.heap.size,0,none⟩) 0 0,.slice a L.length cap,.int .i64 i,.bool true,.bool false,undef,.slice a L.length cap,.int .i64 i,.int .i64 (i+1),.func (.func 122) #[] #[.pointer (some ⟨w1.heap.size+1,0,none⟩),.pointer (some ⟨w1.heap.size,0,none⟩)],.int .i64 x,undef,undef,undef,undef,undef],defers:=[] }) ?assign ?body ?done ?stop
 case assign =>
  intro l x W K hK
  simp only [encI]
  gi_wp2
  exact hK
 case body =>
  rintro l pre x W ⟨⟨v,hv,hrow,_⟩,hbx,hB⟩ hlen
  have hc:=hv.cell
  have hf:=hv.frozen
  have hz:=hB.size
  have hb1:pre.length+1≤maxLen:=by unfold maxLen;omega
  have hb2:(pre.length+1) * 8≤140737488355328:=by omega
  have hb3:w.heap.size≤(W.alloc (.cells #[.int .i64 x] 2)).heap.size:=by simp;omega
  have hcc2:∀ u∈[Value.int .i64 x],u.oneCell'=true:=fun u hu=>by simp at hu;subst hu;rfl
  have hnr:=hbx.not_row (by decide) hrow
  gi_wp2_with (gi_at_builtin;refine wpListIn_append_own _ rfl _ _ 29 rfl w.heap.size 2 i0 (.int .i64 0) 1 8 Tryz.underlying29 hi hz0 hz1 hz2 rfl (by decide) _ _ _ rfl (hrow.alloc _) ⟨W.heap.size,0,none⟩ 1 1 [.int .i64 x] rfl rfl (cell_one_new _ _ _) hcc2 hb1 hb2 hb3 ?_;intro v' w3 hown' hgrow _;obtain ⟨g',cap',rfl⟩:=ownsRow_succ hown';obtain ⟨hv1,hv2,hr2,hk2,hbb⟩:=hv.appended (by decide) hrow hB.size (Nat.le_succ _) hown' hgrow;have hbx3:=(hbx.alloc (.cells #[.int .i64 x] 2)).kept hgrow hnr;have hbx4:=hbx3.other (B':=w.heap.size+1) (by omega) (.slice (some ⟨g',0,none⟩) (pre.length+1) cap');have hc1:=hv1.cell;have hf1:=hv1.frozen)
  exact ⟨hk2,⟨hbb,hbx4.trans hbx.symm⟩,⟨_,hv2,by simpa using hr2,trivial⟩,hbx4,hB.trans hbb⟩
 case done =>
  rintro D ys W hD rfl ⟨⟨v,hv,hrow,_⟩,hbx,hB⟩ hK
  obtain ⟨av,cv,rfl,_,_,_,_⟩:=own_shape' hrow
  have hc:=hv.cell
  gi_wp2
  refine ⟨by simp,.inl ⟨_,_,rfl,run_takeDeferred hK,?_⟩⟩
  exact ⟨.slice av (chainP L k (i+1)).length cv,by simp [results,Tryz.results119,go_sem],_,rfl,ownsRow_putObj hrow _ hK rfl,hB.trans (belowK_b (w:=w) (Nat.le_refl _) W D _ _ (by omega) hK rfl rfl)⟩
 case stop =>
  rintro D c pre W _ _ h _
  exact h.elim
theorem itemsInI_any (a:Option Addr) (cap:Nat) (L:List ByteArray) (i e:Int) (k:Nat) (hL:L.length≤1048576) (hsg:signsB L=true) (ho:isW (sgAt L i) [40]=true) (hit:0≤itemE L i) (hch:chI L k (i+1) e) (he0:0≤e) (he1:e≤(L.length:Int)) (he:itemE L e=-1) (w:World) (hA:ArgT w a L) :
  Calls Tryz.prog 119 #[.slice a L.length cap,.int .i64 i] w fun e W'=>∃ v,e=.returned v∧OwnI W' w.heap.size v (chainP L k (i+1))∧Below w.heap.size w W' :=
 callsIn_wide.1 (itemsInI_in a cap L i e k hL hsg ho hit hch he0 he1 he w hA)
end Go.Proofs.YtdgihicpjonjgaaGreatDoor
namespace Go.Proofs.YtdgihicpjonjgaaGreatDoor
open Go.RowKit
section
variable {L:List ByteArray} {i e:Int}
theorem ItV.plain (h:ItV L i) (ho:isW (sgAt L i) [40]=true):plainS (sgAt L (i+1)):=by
 obtain ⟨w,g,hw,hg,_,_⟩:=h.form ho
 have hm:=List.mem_of_find?_eq_some hg
 have hh:=List.find?_some hg
 unfold hitB at hh
 rw [Bool.and_eq_true] at hh
 have hh2:=hh.2
 unfold formL at hm
 simp only [List.mem_cons,List.not_mem_nil,or_false] at hm
 clear hg
 unfold plainS isW
 rcases hm with rfl | rfl | rfl | rfl | rfl | rfl | rfl | rfl | rfl | rfl | rfl | rfl | rfl | rfl | rfl | rfl | rfl | rfl | rfl | rfl | rfl | rfl | rfl | rfl | rfl | rfl | rfl | rfl | rfl | rfl | rfl | rfl | rfl | rfl
 all_goals first
  | (exfalso;rcases hw with rfl | rfl <;> exact absurd hh.1 (by decide))
  | (simp only [List.isEmpty,Bool.false_or,beq_iff_eq] at hh2;rw [← hh2];decide)
theorem ItV.parts (h:ItV L i) (ho:isW (sgAt L i) [40]=true):itemE L (i+1)=i+2∧∃ k e,chI L k (i+2) e∧0≤e∧e < (L.length:Int)∧isW (sgAt L e) [41]=true∧itemE L i=e+1:=by
 have hp:=h.plain ho
 obtain ⟨h0,h1⟩:=sgAt_open ho
 have hen:=h.ends
 obtain ⟨k,e,h2,h3,h4,h5,h6⟩:=item_parts ho (by omega)
 have hie:=chI_ends k _ h2 h3
 have hne:i+1≠e:=fun e1=>by
  rw [← e1] at h5
  rw [hp.2] at h5
  cases h5
 have hit:itemE L (i+1)=i+2:=by rw [item_one (by omega) (by omega) hp];omega
 obtain ⟨m,rfl,_,h8⟩:=chI_next h2 (by omega)
 rw [hit] at h8
 exact ⟨hit,m,e,h8,h3,h4,h5,h6⟩
theorem chainP_succ (L:List ByteArray) (k:Nat) (i:Int):chainP L (k+1) i=i :: chainP L k (itemE L i):=rfl
theorem parts_again (h:ItV L i) (ho:isW (sgAt L i) [40]=true) {k:Nat} (hch:chI L k (i+2) e):chI L (k+1) (i+1) e:=by
 obtain ⟨hit,_⟩:=h.parts ho
 have h0:=sgAt_open ho
 exact ⟨by rw [hit];omega,by rw [hit];exact hch⟩
end
def RowN (B:Nat) (w:World) (a:Option Addr) (X:List Int):Prop:=∀ i (h:i < X.length),∃ sb off,a=some ⟨sb,off,none⟩∧sb < w.heap.size∧B≤sb∧w.cell? ⟨sb,off+i,none⟩=some (.int .i64 X[i])
theorem RowN.row {B:Nat} {S:Nat→Prop} {w:World} {a:Option Addr} {X:List Int} (h:RowN B w a X) (hS:∀ k,S k→k < B):RowI S w a X:=fun i hi=>by
 obtain ⟨sb,off,h1,h2,h3,h4⟩:=h i hi
 exact ⟨sb,off,h1,h2,fun hs=>by have:=hS sb hs;omega,h4⟩
theorem RowN.call {B:Nat} {w w':World} {a:Option Addr} {X:List Int} (h:RowN B w a X) (hb:Below w.heap.size w w'):RowN B w' a X:=fun i hi=>by
 obtain ⟨sb,off,h1,h2,h3,h4⟩:=h i hi
 exact ⟨sb,off,h1,Nat.lt_of_lt_of_le h2 hb.size,h3,(hb.cell (p:=⟨sb,off+i,none⟩) h2).trans h4⟩
theorem RowN.tail {B g o:Nat} {w:World} {x:Int} {X:List Int} (h:RowN B w (some ⟨g,o,none⟩) (x :: X)):RowN B w (some ⟨g,o+1,none⟩) X:=fun i hi=>by
 obtain ⟨sb,off,h1,h2,h3,h4⟩:=h (i+1) (by simp;omega)
 injection h1 with h1
 injection h1 with e1 e2 _
 subst e1 e2
 refine ⟨g,o+1,rfl,h2,h3,?_⟩
 rw [show o+1+i=o+(i+1) by omega]
 simpa using h4
theorem OwnI.rowN {w:World} {B:Nat} {v:Value} {X:List Int} (h:OwnI w B v X):∃ av cv,v=.slice av X.length cv∧X.length≤cv∧RowN B w av X:=by
 rcases h.2 with ⟨rfl,hn⟩ | ⟨g,cv,cur,rfl,hb,hg,h1,h2,_⟩
 ·refine ⟨none,0,by rw [hn],by omega,fun i hi=>by omega⟩
 ·refine ⟨_,cv,rfl,h1,fun i hi=>⟨g,0,rfl,(Array.getElem?_eq_some_iff.1 hg).1,hb,?_⟩⟩
  have hc:=World.ownsRow.cells h (g:=g) rfl i (.int .i64 X[i]) (by simp [hi])
  have hadd:(⟨g,0,none⟩:Addr).add i=⟨g,i,none⟩:=by unfold Addr.add;split <;> simp_all
  rw [hadd] at hc
  rw [Nat.zero_add]
  exact hc
set_option maxHeartbeats 1000000 in
theorem partsOf_any (a:Option Addr) (cap:Nat) (L:List ByteArray) (i e:Int) (k:Nat) (hL:L.length≤1048576) (hsg:signsB L=true) (hv:ItV L i) (ho:isW (sgAt L i) [40]=true) (hch:chI L k (i+2) e) (he0:0≤e) (he1:e < (L.length:Int)) (he:isW (sgAt L e) [41]=true) (w:World) (hA:ArgT w a L) :
  Calls Tryz.prog 118 #[.slice a L.length cap,.int .i64 i] w fun r W'=>∃ av cv,r=.returned (.slice av k cv)∧k≤cv∧RowN w.heap.size W' av (chainP L k (i+2))∧Below w.heap.size w W':=by
 have hit:=(hv.parts ho).1
 have hen:=hv.ends
 have hk:=chI_ends k _ hch he0
 go_enter Tryz.func118,Tryz.ntmps118
 go_wp2_with fail
 refine (itemsInI_any a cap L i e (k+1) hL hsg ho (by omega) (parts_again hv ho hch) he0 (by omega) (itemE_none (Or.inr (Or.inr he))) _ hA).mono ?_
 rintro r w1 ⟨v,rfl,hO,hB⟩
 have hO':w1.ownsRow w.heap.size 2 1 v (k+1) ((chainP L (k+1) (i+1)).map fun x=>.int .i64 x):=by
  have:=hO
  unfold OwnI at this
  rwa [chP_len] at this
 obtain ⟨g,cv,rfl⟩:=ownsRow_succ hO'
 obtain ⟨_,_,hsh,hcv,hR⟩:=hO.rowN
 rw [chP_len] at hsh hcv
 injection hsh with ha hn hc
 subst ha hc
 have HR:Hid (RowN w.heap.size w1 (some ⟨g,0,none⟩) (chainP L (k+1) (i+1))):=hR
 have hX:chainP L (k+1) (i+1)=(i+1) :: chainP L k (i+2):=by rw [chainP_succ,hit]
 rw [hX] at HR
 have h1:(1:Int)≤((k+1:Nat):Int):=by omega
 have h2:((k+1:Nat):Int)≤(cv:Int):=by omega
 clear hO hO' hR hX
 by_cases hc1:cv=1
 ·subst hc1
  have hk0:k=0:=by omega
  subst hk0
  go_wp2
  go_ret
  refine ⟨_,_,rfl,Nat.le_refl _,fun j hj=>?_,hB⟩
  exact absurd hj (Nat.not_lt_zero _)
 ·go_wp2
  go_ret
  exact ⟨_,_,rfl,by omega,HR.out.tail,hB⟩
theorem decl_words {L:List ByteArray} {p:Int} (hl:isW (sgAt L (p+1)) [108,101,116]=false) (ht:isW (sgAt L (p+1)) [116,97,107,101]=false) (hv:isW (sgAt L (p+1)) [118,97,114,115]=false) (hh:isW (sgAt L (p+1)) [104,105,100,100,101,110]=false):plcD L p=[]∧hidB L p=false:=by
 refine ⟨?_,hh⟩
 unfold plcD
 rw [hl,ht,hv,hh]
 rfl
set_option maxRecDepth 100000 in
set_option maxHeartbeats 2000000 in
theorem declaredBy_any (a:Option Addr) (cap:Nat) (L:List ByteArray) (p:Int) (hL:L.length≤1048576) (hsg:signsB L=true) (hd:fm L 1 p≠-1) (w:World) (hA:ArgT w a L) :
  Calls Tryz.prog 86 #[.slice a L.length cap,.int .i64 p] w fun r W'=>∃ av n cv,r=.returned (.tuple #[.slice av n cv,.bool (hidB L p)])∧n=(plcD L p).length∧RowN w.heap.size W' av (plcD L p)∧Below w.heap.size w W':=by
 have hv:ItV L p:=Or.inr hd
 have ho:=deed_open hd
 have hl:=deed_long hd
 obtain ⟨hit,k,e,hch,he0,he1,he,hie⟩:=hv.parts ho
 have hk:=chI_ends k _ hch he0
 obtain ⟨pp,rfl⟩:∃ pp:Nat,p=(pp:Int):=⟨p.toNat,by omega⟩
 obtain ⟨sb,off,rfl,hsb,hc,hsm⟩:=hA (pp+1) (by omega)
 have hg:sgAt L ((pp:Int)+1)=L[pp+1]:=by rw [sgAt_in (by omega) (by omega)];rfl
 rw [← hg] at hc hsm
 have hwr:IntKind.i64.wrap ((pp:Int)+1)=(pp:Int)+1:=IntWalk.i64_in _ (by omega)
 have hp0:(0:Int)≤(pp:Int)+1:=by omega
 have hp1:(pp:Int)+1 < (L.length:Int):=by omega
 have hpn:((pp:Int)+1).toNat=pp+1:=by omega
 have hPD:=plcD_piece hd
 have HPP:Hid (∀ w,ArgT w (some ⟨sb,off,none⟩) L→Calls Tryz.prog 118 #[.slice (some ⟨sb,off,none⟩) L.length cap,.int .i64 (pp:Int)] w fun r W'=>∃ av cv,r=.returned (.slice av k cv)∧k≤cv∧RowN w.heap.size W' av (chainP L k ((pp:Int)+2))∧Below w.heap.size w W'):=fun w hA=>partsOf_any _ cap L _ e k hL hsg hv ho hch he0 he1 he w hA
 -- the four words
 cases hlet:isW (sgAt L ((pp:Int)+1)) [108,101,116]
 ·cases htk:isW (sgAt L ((pp:Int)+1)) [116,97,107,101]
  ·cases hvr:isW (sgAt L ((pp:Int)+1)) [118,97,114,115]
   ·cases hhd:isW (sgAt L ((pp:Int)+1)) [104,105,100,100,101,110]
    ·have HD:=decl_words hlet htk hvr hhd
     have HD':Hid (plcD L (pp:Int)=[]∧hidB L (pp:Int)=false):=HD
     have b1:((sgAt L ((pp:Int)+1)).toList == [108,101,116])=false:=hlet
     have b2:((sgAt L ((pp:Int)+1)).toList == [116,97,107,101])=false:=htk
     have b3:((sgAt L ((pp:Int)+1)).toList == [118,97,114,115])=false:=hvr
     have b4:((sgAt L ((pp:Int)+1)).toList == [104,105,100,100,101,110])=false:=hhd
     clear hlet htk hvr hhd HD hg
     generalize sgAt L ((pp:Int)+1)=s at hc hsm b1 b2 b3 b4
     go_enter Tryz.func86,Tryz.ntmps86
     go_wp2_with fail
     refine (HPP.out _ hA).mono ?_
     rintro r w1 ⟨av,cv,rfl,hcv,hR,hB⟩
     have hc1:=(hB.cell (p:=⟨sb,off+(pp+1),none⟩) hsb).trans hc
     go_wp2
     go_ret2
     exact ⟨none,0,0,by rw [HD'.out.2];rfl,by rw [HD'.out.1];rfl,by rw [HD'.out.1];exact fun j hj=>absurd hj (Nat.not_lt_zero _),hB⟩
    ·obtain ⟨n1,n2,n3,n4,n5⟩:=names_at (c:=[104,105,100,100,101,110]) hd (isW_eq hhd) deedH_hidden
     obtain ⟨c1,c2,c3⟩:=chI_names (L:=L) (fm L 5 ((pp:Int)+2) - ((pp:Int)+2)).toNat ((pp:Int)+2) (by omega) (by omega) (fun j h6 h7=>n4 j h6 (by omega))
     have hkk:=(chI_one _ _ _ hch c1 (itemE_none (Or.inr (Or.inr he))) (itemE_none (Or.inr (Or.inr (by rw [show (pp:Int)+2+(((fm L 5 ((pp:Int)+2) - ((pp:Int)+2)).toNat:Nat):Int)=fm L 5 ((pp:Int)+2) by omega];exact n3))))).1
     have HD':Hid (plcD L (pp:Int)=chainP L k ((pp:Int)+2)∧hidB L (pp:Int)=true):=⟨by unfold plcD;rw [hlet,htk,hvr,hhd,hkk];rfl,hhd⟩
     clear c1 c2 c3 hkk n1 n2 n3 n4 n5
     have b1:((sgAt L ((pp:Int)+1)).toList == [108,101,116])=false:=hlet
     have b2:((sgAt L ((pp:Int)+1)).toList == [116,97,107,101])=false:=htk
     have b3:((sgAt L ((pp:Int)+1)).toList == [118,97,114,115])=false:=hvr
     have b4:((sgAt L ((pp:Int)+1)).toList == [104,105,100,100,101,110])=true:=hhd
     clear hlet htk hvr hhd hg
     generalize sgAt L ((pp:Int)+1)=s at hc hsm b1 b2 b3 b4
     go_enter Tryz.func86,Tryz.ntmps86
     go_wp2_with fail
     refine (HPP.out _ hA).mono ?_
     rintro r w1 ⟨av,cv,rfl,hcv,hR,hB⟩
     have hc1:=(hB.cell (p:=⟨sb,off+(pp+1),none⟩) hsb).trans hc
     go_wp2
     go_ret2
     exact ⟨av,k,cv,by rw [HD'.out.2];rfl,by rw [HD'.out.1,chP_len],by rw [HD'.out.1];exact hR,hB⟩
   ·obtain ⟨n1,n2,n3,n4,n5⟩:=names_at (c:=[118,97,114,115]) hd (isW_eq hvr) deedH_vars
    obtain ⟨c1,c2,c3⟩:=chI_names (L:=L) (fm L 5 ((pp:Int)+2) - ((pp:Int)+2)).toNat ((pp:Int)+2) (by omega) (by omega) (fun j h6 h7=>n4 j h6 (by omega))
    have hkk:=(chI_one _ _ _ hch c1 (itemE_none (Or.inr (Or.inr he))) (itemE_none (Or.inr (Or.inr (by rw [show (pp:Int)+2+(((fm L 5 ((pp:Int)+2) - ((pp:Int)+2)).toNat:Nat):Int)=fm L 5 ((pp:Int)+2) by omega];exact n3))))).1
    have HD':Hid (plcD L (pp:Int)=chainP L k ((pp:Int)+2)∧hidB L (pp:Int)=false):=⟨by unfold plcD;rw [hlet,htk,hvr,hkk];rfl,isW_other hvr (by decide)⟩
    clear c1 c2 c3 hkk n1 n2 n3 n4 n5
    have b1:((sgAt L ((pp:Int)+1)).toList == [108,101,116])=false:=hlet
    have b2:((sgAt L ((pp:Int)+1)).toList == [116,97,107,101])=false:=htk
    have b3:((sgAt L ((pp:Int)+1)).toList == [118,97,114,115])=true:=hvr
    clear hlet htk hvr hg
    generalize sgAt L ((pp:Int)+1)=s at hc hsm b1 b2 b3
    go_enter Tryz.func86,Tryz.ntmps86
    go_wp2_with fail
    refine (HPP.out _ hA).mono ?_
    rintro r w1 ⟨av,cv,rfl,hcv,hR,hB⟩
    have hc1:=(hB.cell (p:=⟨sb,off+(pp+1),none⟩) hsb).trans hc
    go_wp2
    go_ret2
    exact ⟨av,k,cv,by rw [HD'.out.2];rfl,by rw [HD'.out.1,chP_len],by rw [HD'.out.1];exact hR,hB⟩
  ·obtain ⟨n1,n2,n3,n4,n5,n6⟩:=take_at hd (isW_eq htk)
   obtain ⟨c1,c2,c3⟩:=chI_names (L:=L) (fm L 5 ((pp:Int)+4) - ((pp:Int)+3)).toNat ((pp:Int)+3) (by omega) (by omega) (fun j h6 h7=>n4 j h6 (by omega))
   have hce:(pp:Int)+3+(((fm L 5 ((pp:Int)+4) - ((pp:Int)+3)).toNat:Nat):Int)=fm L 5 ((pp:Int)+4):=by omega
   rw [hce] at c1
   have HD':Hid (plcD L (pp:Int)=chainP L (fm L 5 ((pp:Int)+4) - ((pp:Int)+3)).toNat ((pp:Int)+3)∧hidB L (pp:Int)=false):=⟨by unfold plcD;rw [hlet,htk];rfl,isW_other htk (by decide)⟩
   generalize (fm L 5 ((pp:Int)+4) - ((pp:Int)+3)).toNat=n at c1 HD'
   have hdi:=deed_item hd
   obtain ⟨m,rfl,hit2,_⟩:=chI_next hch (by omega)
   have HIT:Hid (∀ w,ArgT w (some ⟨sb,off,none⟩) L→Calls Tryz.prog 119 #[.slice (some ⟨sb,off,none⟩) L.length cap,.int .i64 ((pp:Int)+2)] w fun r W'=>∃ v,r=.returned v∧OwnI W' w.heap.size v (chainP L n ((pp:Int)+3))∧Below w.heap.size w W'):=fun w hA=>by
    have:=itemsInI_any (some ⟨sb,off,none⟩) cap L ((pp:Int)+2) (fm L 5 ((pp:Int)+4)) n hL hsg n5 hit2 (by rw [show (pp:Int)+2+1=(pp:Int)+3 by omega];exact c1) (by omega) (by omega) (itemE_none (Or.inr (Or.inr n3))) w hA
    rw [show (pp:Int)+2+1=(pp:Int)+3 by omega] at this
    exact this
   have b1:((sgAt L ((pp:Int)+1)).toList == [108,101,116])=false:=hlet
   have b2:((sgAt L ((pp:Int)+1)).toList == [116,97,107,101])=true:=htk
   clear hlet htk hg c1 c2 c3 hce n1 n2 n3 n4 n5 n6 hit2 hPD
   generalize sgAt L ((pp:Int)+1)=s at hc hsm b1 b2
   go_enter Tryz.func86,Tryz.ntmps86
   go_wp2_with fail
   refine (HPP.out _ hA).mono ?_
   rintro r w1 ⟨av,cv,rfl,hcv,hR,hB⟩
   have hc1:=(hB.cell (p:=⟨sb,off+(pp+1),none⟩) hsb).trans hc
   obtain ⟨g,o,rfl,hgz,hgB,hg0⟩:=hR 0 (by rw [chP_len];omega)
   have hg0':w1.cell? ⟨g,o,none⟩=some (.int .i64 ((pp:Int)+2)):=hg0
   have hm0:(0:Int) < ((m+1:Nat):Int):=by omega
   clear hR hg0 HPP
   go_wp2_with fail
   refine (HIT.out _ (hA.call hB)).mono ?_
   rintro r w2 ⟨v,rfl,hO,hB2⟩
   obtain ⟨av2,cv2,rfl,hcv2,hR2⟩:=hO.rowN
   have HR3:Hid (RowN w.heap.size w2 av2 (chainP L n ((pp:Int)+3))):=fun j hj=>by
    obtain ⟨sb',off',q1,q2,q3,q4⟩:=hR2 j hj
    exact ⟨sb',off',q1,q2,Nat.le_trans hB.size q3,q4⟩
   clear hO hR2
   rw [chP_len] at hcv2 ⊢
   go_wp2
   go_ret2
   exact ⟨av2,n,cv2,by rw [HD'.out.2];rfl,by rw [HD'.out.1,chP_len],by rw [HD'.out.1];exact HR3.out,bstep hB hB2⟩
 ·obtain ⟨n1,n2,n3⟩:=let_at hd (isW_eq hlet)
  have hdi:=deed_item hd
  obtain ⟨m,rfl,hit2,_⟩:=chI_next hch (by omega)
  have HD':Hid (plcD L (pp:Int)=[(pp:Int)+2]∧hidB L (pp:Int)=false):=⟨by unfold plcD;rw [hlet];rfl,isW_other hlet (by decide)⟩
  have b1:((sgAt L ((pp:Int)+1)).toList == [108,101,116])=true:=hlet
  clear hlet hg n1 n2 n3 hit2 hPD
  generalize sgAt L ((pp:Int)+1)=s at hc hsm b1
  go_enter Tryz.func86,Tryz.ntmps86
  go_wp2_with fail
  refine (HPP.out _ hA).mono ?_
  rintro r w1 ⟨av,cv,rfl,hcv,hR,hB⟩
  have hc1:=(hB.cell (p:=⟨sb,off+(pp+1),none⟩) hsb).trans hc
  obtain ⟨g,o,rfl,hgz,hgB,hg0⟩:=hR 0 (by rw [chP_len];omega)
  have HR3:Hid (RowN w.heap.size w1 (some ⟨g,o,none⟩) [(pp:Int)+2]):=fun j hj=>by
   have:j=0:=by simpa using hj
   subst this
   exact ⟨g,o,rfl,hgz,hgB,hg0⟩
  have hm1:(1:Int)≤(cv:Int):=by omega
  clear hR hg0 HPP
  go_wp2
  go_ret2
  exact ⟨_,1,_,by rw [HD'.out.2];rfl,by rw [HD'.out.1];rfl,by rw [HD'.out.1];exact HR3.out,hB⟩
end Go.Proofs.YtdgihicpjonjgaaGreatDoor
namespace Go.Proofs.YtdgihicpjonjgaaGreatDoor
open Go.RowKit
theorem RowI.tail {S:Nat→Prop} {g o:Nat} {w:World} {x:Int} {X:List Int} (h:RowI S w (some ⟨g,o,none⟩) (x :: X)):RowI S w (some ⟨g,o+1,none⟩) X:=fun i hi=>by
 obtain ⟨sb,off,h1,h2,h3,h4⟩:=h (i+1) (by simp;omega)
 injection h1 with h1
 injection h1 with e1 e2 _
 subst e1 e2
 refine ⟨g,o+1,rfl,h2,h3,?_⟩
 rw [show o+1+i=o+(i+1) by omega]
 simpa using h4
def UpL (L:List ByteArray):List Int→Int→Int→Prop
 | [],i,e=>i≤e
 | p :: ps,i,e=>i≤p∧ItV L p∧UpL L ps (itemE L p) e
theorem UpL.le {L:List ByteArray} {e:Int}:∀ {ps:List Int} {i:Int},UpL L ps i e→i≤e
 | [],_,h=>h
 | p :: ps,i,h=>by
  have h1:=h.1
  have h2:=h.2.1.ends
  have h3:=UpL.le h.2.2
  omega
theorem UpL.start {L:List ByteArray} {e:Int} {ps:List Int} {i j:Int} (h:UpL L ps i e) (hj:j≤i):UpL L ps j e:=by
 cases ps with
 | nil=>exact Int.le_trans hj h
 | cons p ps=>exact ⟨Int.le_trans hj h.1,h.2⟩
theorem UpL.more {L:List ByteArray} {e e':Int}:∀ {ps:List Int} {i:Int},UpL L ps i e→e≤e'→UpL L ps i e'
 | [],_,h,he=>Int.le_trans h he
 | _ :: _,_,h,he=>⟨h.1,h.2.1,UpL.more h.2.2 he⟩
theorem upL_chain {L:List ByteArray} {e:Int}:∀ k i,chainV L k i e→UpL L (chainP L k i) i e
 | 0,i,h=>by
  have:i=e:=h
  show i≤e
  omega
 | k+1,i,h=>⟨Int.le_refl _,h.1,upL_chain k _ h.2⟩
theorem UpL.drop {L:List ByteArray} {e:Int}:∀ {ps:List Int} {i:Int} (m:Nat),UpL L ps i e→∃ j,i≤j∧UpL L (ps.drop m) j e
 | ps,i,0,h=>⟨i,Int.le_refl _,h⟩
 | [],i,m+1,h=>⟨i,Int.le_refl _,h⟩
 | p :: ps,i,m+1,h=>by
  obtain ⟨j,h1,h2⟩:=UpL.drop m h.2.2
  have:=h.1
  have:=h.2.1.ends
  exact ⟨j,by omega,h2⟩
theorem farR_lt {L:List ByteArray} {i j:Int} (h0:0≤i) (h:i < j) (hj:j≤(L.length:Int)+1):farN L j+1≤farN L i:=by
 unfold farN
 rw [if_neg (by omega),if_neg (by omega)]
 omega
theorem farR_le {L:List ByteArray} {i j:Int} (h0:0≤i) (h:i≤j):farN L j≤farN L i:=by
 unfold farN
 rw [if_neg (by omega),if_neg (by omega)]
 omega
end Go.Proofs.YtdgihicpjonjgaaGreatDoor
namespace Go.Proofs.YtdgihicpjonjgaaGreatDoor
open Go.RowKit
theorem bool_swap (x y z:Bool):((x || y) || z)=((x || z) || y):=by cases x <;> cases y <;> cases z <;> rfl
def vAt (v:Bool) (m:Nat):Bool:=v && decide (m=0)
theorem chain_dl {L:List ByteArray} {e:Int}:∀ k i,chainD L k i e→∀ p∈chainP L k i,fm L 1 p≠-1:=fun k i h=>(chain_deeds k i h).2
end Go.Proofs.YtdgihicpjonjgaaGreatDoor
namespace Go.Proofs.YtdgihicpjonjgaaGreatDoor
open Go.RowKit
def givL (L:List ByteArray):List Int→List Int
 | []=>[]
 | p :: ps=>if isW (sgAt L p) [40] then (p+2) :: givL L ps else givL L ps
theorem givL_append (L:List ByteArray):∀ ps qs,givL L (ps++qs)=givL L ps++givL L qs
 | [],_=>rfl
 | p :: ps,qs=>by
  show (if isW (sgAt L p) [40] then (p+2) :: givL L (ps++qs) else givL L (ps++qs))=(if isW (sgAt L p) [40] then (p+2) :: givL L ps else givL L ps)++givL L qs
  rw [givL_append L ps qs]
  split <;> rfl
theorem givL_len (L:List ByteArray):∀ ps,(givL L ps).length≤ps.length
 | []=>Nat.le_refl _
 | p :: ps=>by
  have:=givL_len L ps
  unfold givL
  split <;> simp <;> omega
theorem giv_any (L:List ByteArray):∀ ps,(!ps.any fun p=>isW (sgAt L p) [40])=decide (((givL L ps).length:Int)=0)
 | []=>rfl
 | p :: ps=>by
  rw [List.any_cons]
  unfold givL
  cases h:isW (sgAt L p) [40]
  ·rw [Bool.false_or,giv_any L ps]
   simp
  ·simp
   omega
theorem upL_giv {L:List ByteArray} {e:Int}:∀ k i,chainQ L k i e→0≤e→UpL L (givL L (chainP L k i)) i e
 | 0,i,h,_=>by
  have:i=e:=h
  show i≤e
  omega
 | k+1,i,h,he=>by
  have ih:=upL_giv k _ h.2 he
  have hpe:=par_ends h.1
  show UpL L (if isW (sgAt L i) [40] then (i+2) :: givL L (chainP L k (itemE L i)) else givL L (chainP L k (itemE L i))) i e
  obtain ⟨_,_,h1 | h1⟩:=par_at h.1
  ·rw [h1.1,if_pos rfl]
   exact ⟨by omega,h1.2.2.2.1,ih.start (by omega)⟩
  ·rw [h1.1]
   exact ih.start (by omega)
theorem Nxt.wide {S T:Nat→Prop} {w w':World} (h:Nxt S S w w') (hT:∀ k,S k→T k):Nxt T T w w':=⟨h.os,h.tape,h.output,h.size,fun k hk hn=>h.block k hk (fun hs=>hn (hT k hs)),fun _ hs=>Or.inl hs⟩
theorem Nxt.grownNew {S:Nat→Prop} {w W W':World} {row:Option Nat} (h:Nxt S S w W) (hg:W.grownBy W' row) (hr:∀ k,row=some k→w.heap.size≤k):Nxt S S w W' :=
 ⟨hg.os.trans h.os,hg.tape.trans h.tape,hg.output.trans h.output,Nat.le_trans h.size hg.size,fun k hk hn=>(hg.block k (Nat.lt_of_lt_of_le hk h.size) (fun e=>by have:=hr k e.symm;omega)).trans (h.block k hk hn),fun _ hs=>Or.inl hs⟩
theorem Nxt.callNew {S:Nat→Prop} {w W W':World} (h:Nxt S S w W) (hb:Below W.heap.size W W'):Nxt S S w W':=h.trans (Nxt.of_below S hb)
theorem chainQ_all {L:List ByteArray} {e:Int}:∀ k i,chainQ L k i e→0≤e→∀ p∈chainP L k i,fm L 3 p≠-1∧i≤p∧itemE L p≤e
 | 0,_,_,_,p,hp=>by cases hp
 | k+1,i,h,he,p,hp=>by
  have hpe:=par_ends h.1
  have h2:=chainQ_ends k _ h.2 he
  rcases List.mem_cons.mp hp with rfl | hp
  ·exact ⟨h.1,Int.le_refl _,by omega⟩
  ·obtain ⟨a1,a2,a3⟩:=chainQ_all k _ h.2 he p hp
   exact ⟨a1,by omega,a3⟩
end Go.Proofs.YtdgihicpjonjgaaGreatDoor
