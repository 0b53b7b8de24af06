import Derived.Test.YtdgihicpjonjgaaGreatDoorZPlain
namespace Go.Proofs.YtdgihicpjonjgaaGreatDoor
open Go.RowKit
def layF:List Nat:=[63,63,63,63,63,63,64,65,66,63,66,67,63,68,68,69,70,70,68,71,72,73,74,75,75,67,67,76,75,77,76,78,79,68]
def tabL:List ((List UInt8 × Nat × List Nat × Option Nat) × Nat):=formL.zip layF
theorem tab_len:tabL.length=34:=rfl
theorem tab_fst:tabL.map Prod.fst=formL:=rfl
def headV (x:(List UInt8 × Nat × List Nat × Option Nat) × Nat):ByteArray:=⟨x.1.1.toArray⟩
def TabT (w:World) (g:Nat):Prop:=g < w.heap.size∧∀ k (h:k < tabL.length),w.cell? ⟨g,k * 3,none⟩=some (.string (headV tabL[k]))∧w.cell? ⟨g,k * 3+1,none⟩=some (.int .i64 (tabL[k].1.2.1:Int))∧w.cell? ⟨g,k * 3+2,none⟩=some (.func (.func tabL[k].2) #[] #[])
theorem TabT.call {w w':World} {g:Nat} (h:TabT w g) (hb:Below w.heap.size w w'):TabT w' g :=
 ⟨Nat.lt_of_lt_of_le h.1 hb.size,fun k hk=>⟨(hb.cell (p:=⟨g,k * 3,none⟩) h.1).trans (h.2 k hk).1,(hb.cell (p:=⟨g,k * 3+1,none⟩) h.1).trans (h.2 k hk).2.1,(hb.cell (p:=⟨g,k * 3+2,none⟩) h.1).trans (h.2 k hk).2.2⟩⟩
theorem TabT.keep {w w':World} {g B:Nat} (h:TabT w g) (hg:g < B) (hb:Below B w w'):TabT w' g :=
 ⟨Nat.lt_of_lt_of_le h.1 hb.size,fun k hk=>⟨(hb.cell (p:=⟨g,k * 3,none⟩) hg).trans (h.2 k hk).1,(hb.cell (p:=⟨g,k * 3+1,none⟩) hg).trans (h.2 k hk).2.1,(hb.cell (p:=⟨g,k * 3+2,none⟩) hg).trans (h.2 k hk).2.2⟩⟩
end Go.Proofs.YtdgihicpjonjgaaGreatDoor
namespace Go.Proofs.YtdgihicpjonjgaaGreatDoor
open Go.RowKit
def atN (t:List Nat × Option Nat) (n:Nat):List Nat × Option Nat:=(t.1.drop n,t.2)
def LayC (f:Nat) (cap:Array Value) (t:List Nat × Option Nat) (W:World):Prop:=∀ n:Nat,n≤1048577 →
  Calls Tryz.prog f (#[.int .i64 (n:Int)]++cap) W fun e w'=>e=.returned (.tuple #[.int .i64 (wantN (atN t n):Int),.bool (mayB (atN t n))])∧Below W.heap.size W w'
set_option maxHeartbeats 1000000 in
theorem lay_twoSums (W:World):LayC 63 #[] ([1,1],none) W:=fun n hn=>by
 show Calls Tryz.prog 63 #[.int .i64 (n:Int)] W _
 by_cases h0:n=0
 ·subst h0
  go_enter Tryz.func63,Tryz.ntmps63
  go_wp2
  go_ret2
  exact ⟨rfl,by go_grown⟩
 by_cases h1:n=1
 ·subst h1
  go_enter Tryz.func63,Tryz.ntmps63
  go_wp2
  go_ret2
  exact ⟨rfl,by go_grown⟩
 obtain ⟨m,rfl⟩:∃ m,n=m+2:=⟨n - 2,by omega⟩
 have HW:Hid (wantN (atN ([1,1],none) (m+2))=0∧mayB (atN ([1,1],none) (m+2))=true):=⟨by simp [atN,wantN],by simp [atN,mayB]⟩
 rw [HW.out.1,HW.out.2]
 go_enter Tryz.func63,Tryz.ntmps63
 go_wp2
 go_ret2
 refine ⟨?_,by go_grown⟩
 first | rfl | (simp;omega)
set_option maxHeartbeats 1000000 in
theorem lay_threeSums (W:World):LayC 76 #[] ([1,1,1],none) W:=fun n hn=>by
 show Calls Tryz.prog 76 #[.int .i64 (n:Int)] W _
 by_cases h0:n=0
 ·subst h0
  go_enter Tryz.func76,Tryz.ntmps76
  go_wp2
  go_ret2
  exact ⟨rfl,by go_grown⟩
 by_cases h1:n=1
 ·subst h1
  go_enter Tryz.func76,Tryz.ntmps76
  go_wp2
  go_ret2
  exact ⟨rfl,by go_grown⟩
 by_cases h2:n=2
 ·subst h2
  go_enter Tryz.func76,Tryz.ntmps76
  go_wp2
  go_ret2
  exact ⟨rfl,by go_grown⟩
 obtain ⟨m,rfl⟩:∃ m,n=m+3:=⟨n - 3,by omega⟩
 have HW:Hid (wantN (atN ([1,1,1],none) (m+3))=0∧mayB (atN ([1,1,1],none) (m+3))=true):=⟨by simp [atN,wantN],by simp [atN,mayB]⟩
 rw [HW.out.1,HW.out.2]
 go_enter Tryz.func76,Tryz.ntmps76
 go_wp2
 go_ret2
 refine ⟨?_,by go_grown⟩
 first | rfl | (simp;omega)
set_option maxHeartbeats 1000000 in
theorem lay_oneSum (W:World):LayC 75 #[] ([1],none) W:=fun n hn=>by
 show Calls Tryz.prog 75 #[.int .i64 (n:Int)] W _
 by_cases h0:n=0
 ·subst h0
  go_enter Tryz.func75,Tryz.ntmps75
  go_wp2
  go_ret2
  exact ⟨rfl,by go_grown⟩
 obtain ⟨m,rfl⟩:∃ m,n=m+1:=⟨n - 1,by omega⟩
 have HW:Hid (wantN (atN ([1],none) (m+1))=0∧mayB (atN ([1],none) (m+1))=true):=⟨by simp [atN,wantN],by simp [atN,mayB]⟩
 rw [HW.out.1,HW.out.2]
 go_enter Tryz.func75,Tryz.ntmps75
 go_wp2
 go_ret2
 refine ⟨?_,by go_grown⟩
 first | rfl | (simp;omega)
set_option maxHeartbeats 1000000 in
theorem lay_nameSum (W:World):LayC 68 #[] ([4,1],none) W:=fun n hn=>by
 show Calls Tryz.prog 68 #[.int .i64 (n:Int)] W _
 by_cases h0:n=0
 ·subst h0
  go_enter Tryz.func68,Tryz.ntmps68
  go_wp2
  go_ret2
  exact ⟨rfl,by go_grown⟩
 by_cases h1:n=1
 ·subst h1
  go_enter Tryz.func68,Tryz.ntmps68
  go_wp2
  go_ret2
  exact ⟨rfl,by go_grown⟩
 obtain ⟨m,rfl⟩:∃ m,n=m+2:=⟨n - 2,by omega⟩
 have HW:Hid (wantN (atN ([4,1],none) (m+2))=0∧mayB (atN ([4,1],none) (m+2))=true):=⟨by simp [atN,wantN],by simp [atN,mayB]⟩
 rw [HW.out.1,HW.out.2]
 go_enter Tryz.func68,Tryz.ntmps68
 go_wp2
 go_ret2
 refine ⟨?_,by go_grown⟩
 first | rfl | (simp;omega)
set_option maxHeartbeats 1000000 in
theorem lay_nameTwoSums (W:World):LayC 77 #[] ([4,1,1],none) W:=fun n hn=>by
 show Calls Tryz.prog 77 #[.int .i64 (n:Int)] W _
 by_cases h0:n=0
 ·subst h0
  go_enter Tryz.func77,Tryz.ntmps77
  go_wp2
  go_ret2
  exact ⟨rfl,by go_grown⟩
 by_cases h1:n=1
 ·subst h1
  go_enter Tryz.func77,Tryz.ntmps77
  go_wp2
  go_ret2
  exact ⟨rfl,by go_grown⟩
 by_cases h2:n=2
 ·subst h2
  go_enter Tryz.func77,Tryz.ntmps77
  go_wp2
  go_ret2
  exact ⟨rfl,by go_grown⟩
 obtain ⟨m,rfl⟩:∃ m,n=m+3:=⟨n - 3,by omega⟩
 have HW:Hid (wantN (atN ([4,1,1],none) (m+3))=0∧mayB (atN ([4,1,1],none) (m+3))=true):=⟨by simp [atN,wantN],by simp [atN,mayB]⟩
 rw [HW.out.1,HW.out.2]
 go_enter Tryz.func77,Tryz.ntmps77
 go_wp2
 go_ret2
 refine ⟨?_,by go_grown⟩
 first | rfl | (simp;omega)
set_option maxHeartbeats 1000000 in
theorem lay_namesSum (W:World):LayC 69 #[] ([5,1],none) W:=fun n hn=>by
 show Calls Tryz.prog 69 #[.int .i64 (n:Int)] W _
 by_cases h0:n=0
 ·subst h0
  go_enter Tryz.func69,Tryz.ntmps69
  go_wp2
  go_ret2
  exact ⟨rfl,by go_grown⟩
 by_cases h1:n=1
 ·subst h1
  go_enter Tryz.func69,Tryz.ntmps69
  go_wp2
  go_ret2
  exact ⟨rfl,by go_grown⟩
 obtain ⟨m,rfl⟩:∃ m,n=m+2:=⟨n - 2,by omega⟩
 have HW:Hid (wantN (atN ([5,1],none) (m+2))=0∧mayB (atN ([5,1],none) (m+2))=true):=⟨by simp [atN,wantN],by simp [atN,mayB]⟩
 rw [HW.out.1,HW.out.2]
 go_enter Tryz.func69,Tryz.ntmps69
 go_wp2
 go_ret2
 refine ⟨?_,by go_grown⟩
 first | rfl | (simp;omega)
set_option maxHeartbeats 1000000 in
theorem lay_sumDeed (W:World):LayC 73 #[] ([1,2],none) W:=fun n hn=>by
 show Calls Tryz.prog 73 #[.int .i64 (n:Int)] W _
 by_cases h0:n=0
 ·subst h0
  go_enter Tryz.func73,Tryz.ntmps73
  go_wp2
  go_ret2
  exact ⟨rfl,by go_grown⟩
 by_cases h1:n=1
 ·subst h1
  go_enter Tryz.func73,Tryz.ntmps73
  go_wp2
  go_ret2
  exact ⟨rfl,by go_grown⟩
 obtain ⟨m,rfl⟩:∃ m,n=m+2:=⟨n - 2,by omega⟩
 have HW:Hid (wantN (atN ([1,2],none) (m+2))=0∧mayB (atN ([1,2],none) (m+2))=true):=⟨by simp [atN,wantN],by simp [atN,mayB]⟩
 rw [HW.out.1,HW.out.2]
 go_enter Tryz.func73,Tryz.ntmps73
 go_wp2
 go_ret2
 refine ⟨?_,by go_grown⟩
 first | rfl | (simp;omega)
set_option maxHeartbeats 1000000 in
theorem lay_sumTwoDeeds (W:World):LayC 72 #[] ([1,2,2],none) W:=fun n hn=>by
 show Calls Tryz.prog 72 #[.int .i64 (n:Int)] W _
 by_cases h0:n=0
 ·subst h0
  go_enter Tryz.func72,Tryz.ntmps72
  go_wp2
  go_ret2
  exact ⟨rfl,by go_grown⟩
 by_cases h1:n=1
 ·subst h1
  go_enter Tryz.func72,Tryz.ntmps72
  go_wp2
  go_ret2
  exact ⟨rfl,by go_grown⟩
 by_cases h2:n=2
 ·subst h2
  go_enter Tryz.func72,Tryz.ntmps72
  go_wp2
  go_ret2
  exact ⟨rfl,by go_grown⟩
 obtain ⟨m,rfl⟩:∃ m,n=m+3:=⟨n - 3,by omega⟩
 have HW:Hid (wantN (atN ([1,2,2],none) (m+3))=0∧mayB (atN ([1,2,2],none) (m+3))=true):=⟨by simp [atN,wantN],by simp [atN,mayB]⟩
 rw [HW.out.1,HW.out.2]
 go_enter Tryz.func72,Tryz.ntmps72
 go_wp2
 go_ret2
 refine ⟨?_,by go_grown⟩
 first | rfl | (simp;omega)
set_option maxHeartbeats 1000000 in
theorem lay_nameTwoSumsDeed (W:World):LayC 74 #[] ([4,1,1,2],none) W:=fun n hn=>by
 show Calls Tryz.prog 74 #[.int .i64 (n:Int)] W _
 by_cases h0:n=0
 ·subst h0
  go_enter Tryz.func74,Tryz.ntmps74
  go_wp2
  go_ret2
  exact ⟨rfl,by go_grown⟩
 by_cases h1:n=1
 ·subst h1
  go_enter Tryz.func74,Tryz.ntmps74
  go_wp2
  go_ret2
  exact ⟨rfl,by go_grown⟩
 by_cases h2:n=2
 ·subst h2
  go_enter Tryz.func74,Tryz.ntmps74
  go_wp2
  go_ret2
  exact ⟨rfl,by go_grown⟩
 by_cases h3:n=3
 ·subst h3
  go_enter Tryz.func74,Tryz.ntmps74
  go_wp2
  go_ret2
  exact ⟨rfl,by go_grown⟩
 obtain ⟨m,rfl⟩:∃ m,n=m+4:=⟨n - 4,by omega⟩
 have HW:Hid (wantN (atN ([4,1,1,2],none) (m+4))=0∧mayB (atN ([4,1,1,2],none) (m+4))=true):=⟨by simp [atN,wantN],by simp [atN,mayB]⟩
 rw [HW.out.1,HW.out.2]
 go_enter Tryz.func74,Tryz.ntmps74
 go_wp2
 go_ret2
 refine ⟨?_,by go_grown⟩
 first | rfl | (simp;omega)
set_option maxHeartbeats 1000000 in
theorem lay_noParts (W:World):LayC 67 #[] ([],none) W:=fun n hn=>by
 show Calls Tryz.prog 67 #[.int .i64 (n:Int)] W _
 have HW:Hid (wantN (atN ([],none) n)=0∧mayB (atN ([],none) n)=true):=⟨by simp [atN,wantN],by simp [atN,mayB]⟩
 rw [HW.out.1,HW.out.2]
 go_enter Tryz.func67,Tryz.ntmps67
 go_wp2
 go_ret2
 refine ⟨?_,by go_grown⟩
 first | rfl | (simp;omega)
set_option maxHeartbeats 1000000 in
theorem lay_anySums (W:World):LayC 66 #[] ([],some 1) W:=fun n hn=>by
 show Calls Tryz.prog 66 #[.int .i64 (n:Int)] W _
 have HW:Hid (wantN (atN ([],some 1) n)=1∧mayB (atN ([],some 1) n)=true):=⟨by simp [atN,wantN],by simp [atN,mayB]⟩
 rw [HW.out.1,HW.out.2]
 go_enter Tryz.func66,Tryz.ntmps66
 go_wp2
 go_ret2
 refine ⟨?_,by go_grown⟩
 first | rfl | (simp;omega)
set_option maxHeartbeats 1000000 in
theorem lay_someSums (W:World):LayC 65 #[] ([1],some 1) W:=fun n hn=>by
 show Calls Tryz.prog 65 #[.int .i64 (n:Int)] W _
 by_cases h0:n=0
 ·subst h0
  go_enter Tryz.func65,Tryz.ntmps65
  go_wp2
  go_ret2
  exact ⟨rfl,by go_grown⟩
 obtain ⟨m,rfl⟩:∃ m,n=m+1:=⟨n - 1,by omega⟩
 have HW:Hid (wantN (atN ([1],some 1) (m+1))=1∧mayB (atN ([1],some 1) (m+1))=true):=⟨by simp [atN,wantN],by simp [atN,mayB]⟩
 rw [HW.out.1,HW.out.2]
 go_enter Tryz.func65,Tryz.ntmps65
 go_wp2
 go_ret2
 refine ⟨?_,by go_grown⟩
 first | rfl | (simp;omega)
set_option maxHeartbeats 1000000 in
theorem lay_anyNames (W:World):LayC 70 #[] ([],some 4) W:=fun n hn=>by
 show Calls Tryz.prog 70 #[.int .i64 (n:Int)] W _
 have HW:Hid (wantN (atN ([],some 4) n)=4∧mayB (atN ([],some 4) n)=true):=⟨by simp [atN,wantN],by simp [atN,mayB]⟩
 rw [HW.out.1,HW.out.2]
 go_enter Tryz.func70,Tryz.ntmps70
 go_wp2
 go_ret2
 refine ⟨?_,by go_grown⟩
 first | rfl | (simp;omega)
set_option maxHeartbeats 1000000 in
theorem lay_someNames (W:World):LayC 78 #[] ([4],some 4) W:=fun n hn=>by
 show Calls Tryz.prog 78 #[.int .i64 (n:Int)] W _
 by_cases h0:n=0
 ·subst h0
  go_enter Tryz.func78,Tryz.ntmps78
  go_wp2
  go_ret2
  exact ⟨rfl,by go_grown⟩
 obtain ⟨m,rfl⟩:∃ m,n=m+1:=⟨n - 1,by omega⟩
 have HW:Hid (wantN (atN ([4],some 4) (m+1))=4∧mayB (atN ([4],some 4) (m+1))=true):=⟨by simp [atN,wantN],by simp [atN,mayB]⟩
 rw [HW.out.1,HW.out.2]
 go_enter Tryz.func78,Tryz.ntmps78
 go_wp2
 go_ret2
 refine ⟨?_,by go_grown⟩
 first | rfl | (simp;omega)
set_option maxHeartbeats 1000000 in
theorem lay_anyParams (W:World):LayC 79 #[] ([],some 6) W:=fun n hn=>by
 show Calls Tryz.prog 79 #[.int .i64 (n:Int)] W _
 have HW:Hid (wantN (atN ([],some 6) n)=6∧mayB (atN ([],some 6) n)=true):=⟨by simp [atN,wantN],by simp [atN,mayB]⟩
 rw [HW.out.1,HW.out.2]
 go_enter Tryz.func79,Tryz.ntmps79
 go_wp2
 go_ret2
 refine ⟨?_,by go_grown⟩
 first | rfl | (simp;omega)
set_option maxHeartbeats 1000000 in
theorem lay_anyDeeds (W:World):LayC 71 #[] ([],some 3) W:=fun n hn=>by
 show Calls Tryz.prog 71 #[.int .i64 (n:Int)] W _
 have HW:Hid (wantN (atN ([],some 3) n)=3∧mayB (atN ([],some 3) n)=true):=⟨by simp [atN,wantN],by simp [atN,mayB]⟩
 rw [HW.out.1,HW.out.2]
 go_enter Tryz.func71,Tryz.ntmps71
 go_wp2
 go_ret2
 refine ⟨?_,by go_grown⟩
 first | rfl | (simp;omega)
set_option maxHeartbeats 1000000 in
theorem lay_paramsThenDeeds (W:World):LayC 64 #[] ([7],some 3) W:=fun n hn=>by
 show Calls Tryz.prog 64 #[.int .i64 (n:Int)] W _
 by_cases h0:n=0
 ·subst h0
  go_enter Tryz.func64,Tryz.ntmps64
  go_wp2
  go_ret2
  exact ⟨rfl,by go_grown⟩
 obtain ⟨m,rfl⟩:∃ m,n=m+1:=⟨n - 1,by omega⟩
 have HW:Hid (wantN (atN ([7],some 3) (m+1))=3∧mayB (atN ([7],some 3) (m+1))=true):=⟨by simp [atN,wantN],by simp [atN,mayB]⟩
 rw [HW.out.1,HW.out.2]
 go_enter Tryz.func64,Tryz.ntmps64
 go_wp2
 go_ret2
 refine ⟨?_,by go_grown⟩
 first | rfl | (simp;omega)
end Go.Proofs.YtdgihicpjonjgaaGreatDoor
namespace Go.Proofs.YtdgihicpjonjgaaGreatDoor
open Go.RowKit
set_option maxHeartbeats 4000000 in
set_option maxRecDepth 100000 in
theorem allForms_any (w:World) :
  Calls Tryz.prog 39 #[] w fun e w'=>e=.returned (.slice (some ⟨w.heap.size,0,none⟩) 34 34)∧TabT w' w.heap.size∧Below w.heap.size w w':=by
 go_enter Tryz.func39,Tryz.ntmps39
 go_wp2
 go_ret
 refine ⟨rfl,⟨by simp,fun k hk=>?_⟩,by go_grown⟩
 have h34:k < 34:=hk
 match k,h34 with
 | 0,_ | 1,_ | 2,_ | 3,_ | 4,_ | 5,_ | 6,_ | 7,_ | 8,_ | 9,_ | 10,_ | 11,_ | 12,_ | 13,_ | 14,_ | 15,_ | 16,_ | 17,_ | 18,_ | 19,_ | 20,_ | 21,_ | 22,_ | 23,_ | 24,_ | 25,_ | 26,_ | 27,_ | 28,_ | 29,_ | 30,_ | 31,_ | 32,_ | 33,_=>refine ⟨?_,?_,?_⟩ <;> simp [tabL,formL,layF,headV,go_sem]
 | n+34,h=>exact absurd h (by omega)
end Go.Proofs.YtdgihicpjonjgaaGreatDoor
