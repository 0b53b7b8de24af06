import Derived.Test.YtdojfommmpnbgaaGreatDoorKAD
import Derived.Deep.OwnRows
import Derived.Deep.QuietTactic
import Derived.BigQuiet
set_option maxHeartbeats 1000000
namespace Go.Proofs.YtdojfommmpnbgaaGreatDoor
open Go.RowKit Go.Proofs.Tryz
def pJ(L:af)(k:Nat):Nat:=((L.take k).map fun s=>s.size+1).sum
theorem LJ{L:af}{k:Nat}(h:k<L.length):pJ L (k+1)=pJ L k+(L[k].size+1):=by
 unfold pJ;rw[List.take_succ_eq_append_getElem h,List.map_append,List.sum_append];simp only[List.map_cons,List.map_nil,List.sum_cons,List.sum_nil,Nat.add_zero]
theorem Ni(a:Option Addr)(cap:Nat)(L:af)(w:World)(h:aD w a L)(hL:L.length≤maxLen) :
  ah 4 #[.slice a L.length cap,.int .i64 1048576] w fun e w'=>∃x:Int,e=.returned (.int .i64 x)∧(0≤x→L.length≤1048576∧pJ L L.length≤1048576)∧ai w w':=by
 unfold maxLen at hL;by_cases hbig:1048576<L.length
 ·go_enter func4,ntmps4;go_wp2;go_ret;exact⟨_,rfl,fun h=>absurd h (by decide),Below.refl _ _⟩
 go_enter func4,ntmps4;go_wp2;go_loopw [1,5] (fun q i wr=>∃(k:Nat) (x:Int),k≤L.length∧i=.int .i64 (k:Int)∧q=.int .i64 x∧0≤x∧x≤1048576∧x+(L.length:Int)+(pJ L k:Int)=1048576+(k:Int)∧ai w wr) (fun _ i _=>L.length-(intOf i).toNat)
 case atStart=>exact⟨0,1048576-(L.length:Int),Nat.zero_le _,rfl,rfl,by omega,by omega,by simp[pJ],Below.refl _ _⟩
 case round =>
  obtain⟨k,x,hk,rfl,rfl,hx0,hx1,hsum,hB⟩:=hrel;by_cases hlt:k<L.length
  ·obtain⟨sb,off,rfl,hs,hc,hm⟩:=h k hlt;have hc':=(hB.cell (p:=⟨sb,off+k,none⟩) hs).trans hc;have hr:=LJ hlt;unfold maxLen at hm;clear hc;generalize L[k]=t at hc' hm hr;by_cases hneg:x-(t.size:Int)<0
   ·go_wp2;go_ret;exact⟨_,rfl,fun h=>absurd h (by decide),hB⟩
   ·go_wp2;go_roundw
    case rel=>exact⟨k+1,x-(t.size:Int),by omega,by go_num,rfl,by omega,by omega,by omega,hB⟩
    case measure=>simp[intOf];omega
  ·have e:k=L.length:=by omega
   subst e;go_wp2;go_ret;exact⟨_,rfl,fun _=>⟨by omega,by omega⟩,hB⟩
def eW(w:World)(g:Nat)(L:af):Prop:=g<w.heap.size∧∀i (h:i<L.length),w.cell? ⟨g,i,none⟩=some (.string L[i])∧w.frozen? ⟨g,i,none⟩=false
theorem eW.call{w w':World}{g:Nat}{L:af}(h:eW w g L)(hb:ai w w'):eW w' g L :=
 ⟨Nat.lt_of_lt_of_le h.1 hb.size,fun i hi=>⟨(hb.cell (p:=⟨g,i,none⟩) h.1).trans (h.2 i hi).1,(hb.frozen (p:=⟨g,i,none⟩) h.1).trans (h.2 i hi).2⟩⟩
theorem eW.arg{w:World}{g:Nat}{L:af}(h:eW w g L)(hm:∀i (h:i<L.length),L[i].size≤maxLen):aD w (some ⟨g,0,none⟩) L :=
 fun i hi=>⟨g,0,rfl,h.1,by rw[Nat.zero_add];exact(h.2 i hi).1,hm i hi⟩
def oF(w:World)(g:Nat)(L:af)(j:Nat):Prop:=g<w.heap.size∧∀i (h:i<L.length),(∃x,w.cell? ⟨g,i,none⟩=some (.string x)∧(i<j→x=L[i]))∧w.frozen? ⟨g,i,none⟩=false
theorem Fj{w:World}{g j:Nat}{L:af}(h:oF w g L j)(hj:j<L.length):oF (w.setCell ⟨g,j,none⟩ (.string L[j])) g L (j+1):=by
 refine⟨by simpa[World.setCell]using h.1,fun i hi=>⟨?_,?_⟩⟩
 ·obtain⟨⟨x,hx,hm⟩,_⟩:=h.2 i hi;by_cases e:i=j
  ·subst e;exact⟨_,World.cell?_setCell_same w _ _ hx,fun _=>rfl⟩
  ·refine⟨x,(World.cell?_setCell_other w ⟨g,j,none⟩ ⟨g,i,none⟩ _ (fun hh=>e (by injection hh with _ h2 _;exact h2.symm))).trans hx,fun hlt=>hm (by omega)⟩
 ·have:=(h.2 i hi).2;simpa[go_sem]using this
theorem Fh{w:World}{g:Nat}{L:af}(h:oF w g L L.length):eW w g L :=
 ⟨h.1,fun i hi=>by
  obtain⟨⟨x,hx,hm⟩,hf⟩:=h.2 i hi;rw[hm hi]at hx;exact⟨hx,hf⟩⟩
theorem Fi(w:World)(L:af):oF (w.alloc (.cells (madeCells #[.string ⟨#[]⟩] L.length) 9)) w.heap.size L 0:=by
 refine⟨by simp,fun i hi=>⟨⟨⟨#[]⟩,?_,fun h=>absurd h (Nat.not_lt_zero _)⟩,?_⟩⟩
 ·have e:(madeCells #[Value.string ⟨#[]⟩] L.length)[i]?=some (.string ⟨#[]⟩):=by
   rw[←Array.getElem?_toList,toList_madeCells_one];simp[hi]
  have hh:=heap_alloc_new w (.cells (madeCells #[Value.string ⟨#[]⟩] L.length) 9)
  simp only[World.cell?]
  rw[hh]
  exact e
 ·simp[go_sem]
theorem Gq:(Tryz.prog.info? 9).map (fun i=>(i.zero,i.size,i.bytes))=some (some (.string ⟨#[]⟩),1,16):=by kernel_rfl
theorem tO(a:Option Addr)(cap:Nat)(L:af)(w:World)(h:aD w a L)(hL:L.length≤1048576) :
  ah 6 #[.slice a L.length cap] w fun e w'=>e=.returned (.slice (some ⟨w.heap.size,0,none⟩) L.length L.length)∧eW w' w.heap.size L∧ai w w':=by
 have hmk:=run_make_row' (P:=prog) 22 9 (.string ⟨#[]⟩) 16 Tryz.underlying22 Gq rfl .i64 .i64 L.length (by omega) (by omega);go_enter func6,ntmps6;go_wp2;go_loopw [4] (fun i wr=>∃k:Nat,k≤L.length∧i=.int .i64 (k:Int)∧oF wr w.heap.size L k∧ai w wr) (fun i _=>L.length-(intOf i).toNat)
 case atStart=>exact⟨0,Nat.zero_le _,rfl,Fi w L,ay (Below.refl _ _) _⟩
 case round =>
  obtain⟨k,hk,rfl,hF,hB⟩:=hrel;by_cases hlt:k<L.length
  ·obtain⟨sb,off,rfl,hs,hc,hm⟩:=h k hlt;have hc':=(hB.cell (p:=⟨sb,off+k,none⟩) hs).trans hc;obtain⟨⟨x,hx,_⟩,hfz⟩:=hF.2 k hlt;have HF:Hid (oF (wr.setCell ⟨w.heap.size,k,none⟩ (.string L[k])) w.heap.size L (k+1)):=Fj hF hlt;clear hc hF;generalize L[k]=t at hc' hm HF;go_wp2;go_roundw
   case rel=>exact⟨k+1,by omega,by go_num,HF.out,bf hB _ (Nat.le_refl _)⟩
   case measure=>simp[intOf];omega
  ·have e:k=L.length:=by omega
   subst e;go_wp2;go_ret;exact⟨rfl,Fh hF,hB⟩
theorem Fc(a a':Option Addr)(cap cap':Nat)(L:af)(w:World)(h:aD w a L)(h':aD w a' L)(hL:L.length≤1048576) :
  ah 8 #[.slice a L.length cap,.slice a' L.length cap'] w (aA (.bool true) w):=by
 go_enter func8,ntmps8;go_wp2;go_loopw [5] (fun i wr=>∃k:Nat,k≤L.length∧i=.int .i64 (k:Int)∧ai w wr) (fun i _=>L.length-(intOf i).toNat)
 case atStart=>exact⟨0,Nat.zero_le _,rfl,Below.refl _ _⟩
 case round =>
  obtain⟨k,hk,rfl,hB⟩:=hrel;by_cases hlt:k<L.length
  ·obtain⟨sb,off,rfl,hs,hc,_⟩:=h k hlt;obtain⟨sb',off',rfl,hs',hc',_⟩:=h' k hlt;have c1:=(hB.cell (p:=⟨sb,off+k,none⟩) hs).trans hc;have c2:=(hB.cell (p:=⟨sb',off'+k,none⟩) hs').trans hc';clear hc hc';generalize L[k]=t at c1 c2;go_wp2;go_quiet (fail);go_wp2;go_roundw
   case rel=>exact⟨k+1,by omega,by go_num,⟨hB.os,hB.tape,hB.output,hB.size,hB.block⟩⟩
   case measure=>simp[intOf];omega
  ·go_wp2;go_ret;exact⟨rfl,hB⟩
end Go.Proofs.YtdojfommmpnbgaaGreatDoor
