import Derived.Test.YtdgihicpjonjgaaGreatDoorZListC
namespace Go.Proofs.YtdgihicpjonjgaaGreatDoor
open Go.RowKit
def sgAt (L:List ByteArray) (i:Int):ByteArray:=if 0≤i∧i < (L.length:Int) then L.getD i.toNat ⟨#[]⟩ else ⟨#[]⟩
theorem sgAt_in {L:List ByteArray} {i:Int} (h0:0≤i) (h1:i < (L.length:Int)):sgAt L i=L[i.toNat]'(by omega):=by
 unfold sgAt
 rw [if_pos ⟨h0,h1⟩]
 simp [List.getD,show i.toNat < L.length by omega]
theorem sgAt_out {L:List ByteArray} {i:Int} (h:¬ (0≤i∧i < (L.length:Int))):sgAt L i=⟨#[]⟩:=by
 unfold sgAt
 rw [if_neg h]
def isW (s:ByteArray) (c:List UInt8):Bool:=s.toList == c
theorem isW_nil (c:List UInt8) (h:c≠[]):isW ⟨#[]⟩ c=false:=by
 unfold isW
 rw [ByteArray.toList_eq]
 simpa using h
theorem isW_eq {s:ByteArray} {c:List UInt8} (h:isW s c=true):s=⟨c.toArray⟩:=by
 unfold isW at h
 rw [ByteArray.toList_eq,beq_iff_eq] at h
 exact bytes_ext h
def wordsL:List ByteArray:=[⟨#[110,111,110,101]⟩,⟨#[102,110]⟩,⟨#[99,97,108,108]⟩,⟨#[116,104,105,110,103]⟩,⟨#[103,101,116]⟩,⟨#[106,111,105,110]⟩,⟨#[116,97,98,108,101]⟩,⟨#[116,103,101,116]⟩,⟨#[104,103,101,116]⟩,⟨#[108,101,116]⟩,⟨#[116,97,107,101]⟩,⟨#[104,105,100,100,101,110]⟩,⟨#[118,97,114,115]⟩,⟨#[115,101,116]⟩,⟨#[100,111]⟩,⟨#[105,102]⟩,⟨#[119,104,105,108,101]⟩,⟨#[102,111,114]⟩,⟨#[115,97,121]⟩,⟨#[98,97,99,107]⟩,⟨#[108,101,97,118,101]⟩,⟨#[110,101,120,116]⟩,⟨#[112,117,116]⟩,⟨#[114,117,110]⟩,⟨#[104,112,117,116]⟩,⟨#[116,112,117,116]⟩]
def resB (s:ByteArray):Bool:=wordsL.any fun x=>x.toList == s.toList
theorem resB_iff (s:ByteArray):resB s=true↔s∈wordsL:=by
 unfold resB
 rw [List.any_eq_true]
 constructor
 ·rintro ⟨x,hx,he⟩
  rw [ByteArray.toList_eq,ByteArray.toList_eq,beq_iff_eq] at he
  rw [← bytes_ext he]
  exact hx
 ·intro h
  exact ⟨s,h,by simp⟩
def nmB (s:ByteArray):Bool:=nameB s && !resB s
def opB (s:ByteArray):Bool:=opsL.any fun x=>x.toList == s.toList
theorem opB_iff (s:ByteArray):opB s=true↔s∈opsL:=by
 unfold opB
 rw [List.any_eq_true]
 constructor
 ·rintro ⟨x,hx,he⟩
  rw [ByteArray.toList_eq,ByteArray.toList_eq,beq_iff_eq] at he
  rw [← bytes_ext he]
  exact hx
 ·intro h
  exact ⟨s,h,by simp⟩
def oneB (s:ByteArray):Bool:=numerB s || quotB s || isW s [110,111,110,101] || nmB s
def isE (L:List ByteArray) (i:Int) (c:List UInt8):Int:=if isW (sgAt L i) c then i+1 else -1
def nmE (L:List ByteArray) (i:Int):Int:=if nmB (sgAt L i) then i+1 else -1
def sumS (L:List ByteArray) (r:Nat→Int→Int) (i:Int):Int :=
 if isW (sgAt L i) [40] then
  if opB (sgAt L (i+1)) || isW (sgAt L (i+1)) [103,101,116] || isW (sgAt L (i+1)) [116,103,101,116] then isE L (r 10 (i+2)) [41]
  else if isW (sgAt L (i+1)) [102,110] then isE L (r 6 (isE L (r 7 (isE L (i+2) [40])) [41])) [41]
  else if isW (sgAt L (i+1)) [99,97,108,108] then isE L (r 4 (r 0 (i+2))) [41]
  else if isW (sgAt L (i+1)) [116,104,105,110,103] || isW (sgAt L (i+1)) [106,111,105,110] then isE L (r 4 (i+2)) [41]
  else if isW (sgAt L (i+1)) [116,97,98,108,101] then isE L (i+2) [41]
  else if isW (sgAt L (i+1)) [104,103,101,116] then isE L (r 0 (nmE L (i+2))) [41]
  else -1
 else if oneB (sgAt L i) then i+1 else -1
def decB (s:ByteArray):Bool:=isW s [108,101,116] || isW s [116,97,107,101] || isW s [104,105,100,100,101,110] || isW s [118,97,114,115]
def deedH (L:List ByteArray) (r:Nat→Int→Int) (h:ByteArray) (i:Int):Int :=
 if isW h [108,101,116] || isW h [115,101,116] then isE L (r 0 (nmE L i)) [41]
 else if isW h [116,97,107,101] then isE L (r 0 (isE L (r 5 (nmE L (isE L i [40]))) [41])) [41]
 else if isW h [104,105,100,100,101,110] || isW h [118,97,114,115] then isE L (r 5 i) [41]
 else if isW h [100,111] then isE L (r 6 i) [41]
 else if isW h [105,102] then isE L (r 2 (r 2 (r 0 i))) [41]
 else if isW h [119,104,105,108,101] then isE L (r 2 (r 0 i)) [41]
 else if isW h [102,111,114] then isE L (r 2 (r 10 (nmE L i))) [41]
 else if isW h [115,97,121] || isW h [98,97,99,107] || isW h [114,117,110] then isE L (r 0 i) [41]
 else if isW h [108,101,97,118,101] || isW h [110,101,120,116] then isE L i [41]
 else if isW h [112,117,116] || isW h [116,112,117,116] then isE L (r 11 i) [41]
 else if isW h [104,112,117,116] then isE L (r 10 (nmE L i)) [41]
 else -1
def deedS (L:List ByteArray) (r:Nat→Int→Int) (free:Bool) (i:Int):Int :=
 if isW (sgAt L i) [40] then (if decB (sgAt L (i+1)) && !free then -1 else deedH L r (sgAt L (i+1)) (i+2)) else -1
def parS (L:List ByteArray) (r:Nat→Int→Int) (i:Int):Int :=
 if isW (sgAt L i) [40] then isE L (r 0 (nmE L (i+1))) [41] else nmE L i
def oneS (L:List ByteArray) (r:Nat→Int→Int) (what:Nat) (i:Int):Int :=
 if what=0 then r 0 i else if what=1 then nmE L i else if what=2 then r 1 i else r 3 i
def manyS (L:List ByteArray) (r:Nat→Int→Int) (what:Nat) (i:Int):Int :=
 if i < 0∨isW (sgAt L i) [41]=true then i else r (4+what) (oneS L r what i)
def sumsS (r:Nat→Int→Int):Nat→Int→Int
 | 0,i=>i
 | k+1,i=>if i < 0 then i else r (8+k) (r 0 i)
def frm (L:List ByteArray):Nat→Nat→Int→Int
 | 0,_,_=>-1
 | n+1,m,i =>
  if m=0 then sumS L (frm L n) i else if m=1 then deedS L (frm L n) true i else if m=2 then deedS L (frm L n) false i else if m=3 then parS L (frm L n) i
  else if m < 8 then manyS L (frm L n) (m - 4) i else sumsS (frm L n) (m - 8) i
def Ends (L:List ByteArray) (i x:Int):Prop:=x=-1∨(0≤i∧i < x∧x≤(L.length:Int))
def Fw (L:List ByteArray) (i x:Int):Prop:=x=-1∨(0≤i∧i≤x∧(x≤i∨x≤(L.length:Int)))
section
variable {L:List ByteArray} {i x:Int}
theorem Ends.fw (h:Ends L i x):Fw L i x:=by unfold Ends at h;unfold Fw;omega
theorem fw_at (h:0≤i):Fw L i i:=by unfold Fw;omega
theorem isE_ends {c:List UInt8} (hc:c≠[]) (h:Fw L i x):Ends L i (isE L x c):=by
 unfold isE Ends
 split
 ·rename_i hw
  right
  by_cases hin:0≤x∧x < (L.length:Int)
  ·unfold Fw at h;omega
  ·rw [sgAt_out hin,isW_nil c hc] at hw
   exact absurd hw (by decide)
 ·left;rfl
theorem isE_neg {c:List UInt8} (hc:c≠[]) (h:i < 0):isE L i c=-1:=by
 unfold isE
 rw [sgAt_out (by omega),isW_nil c hc]
 rfl
theorem nameB_nil:nameB ⟨#[]⟩=false:=by decide
theorem nmE_ends (h:Fw L i x):Ends L i (nmE L x):=by
 unfold nmE Ends
 split
 ·rename_i hw
  right
  by_cases hin:0≤x∧x < (L.length:Int)
  ·unfold Fw at h;omega
  ·rw [sgAt_out hin] at hw
   unfold nmB at hw
   rw [nameB_nil] at hw
   exact absurd hw (by decide)
 ·left;rfl
theorem Ends.mono {j:Int} (hj:0≤i) (hij:i≤j) (h:Ends L j x):Ends L i x:=by unfold Ends at h ⊢;omega
theorem ends_no:Ends L i (-1):=Or.inl rfl
theorem ends_ite {c:Prop} [Decidable c] {y:Int} (h1:Ends L i x) (h2:Ends L i y):Ends L i (if c then x else y):=by split <;> assumption
end
def Good (L:List ByteArray) (r:Nat→Int→Int):Prop:=(∀ m j,m < 4→Ends L j (r m j))∧∀ m j,4≤m→-1≤j→Fw L j (r m j)
section
variable {L:List ByteArray} {r:Nat→Int→Int} {i x:Int}
theorem Good.ends (hr:Good L r) {m:Nat} (hm:m < 4) (h:Fw L i x):Ends L i (r m x):=by
 have:=hr.1 m x hm
 unfold Fw at h
 unfold Ends at this ⊢
 omega
theorem Good.fw (hr:Good L r) {m:Nat} (hm:4≤m) (h:Fw L i x):Fw L i (r m x):=by
 have:=hr.2 m x hm (by unfold Fw at h;omega)
 unfold Fw at h this ⊢
 omega
theorem sgAt_open (h:isW (sgAt L i) [40]=true):0≤i∧i < (L.length:Int):=by
 by_cases hin:0≤i∧i < (L.length:Int)
 ·exact hin
 ·rw [sgAt_out hin,isW_nil _ (by decide)] at h
  exact absurd h (by decide)
theorem oneB_nil:oneB ⟨#[]⟩=false:=by decide +kernel
theorem sumS_ends (hr:Good L r) (i:Int):Ends L i (sumS L r i):=by
 unfold sumS
 split
 ·rename_i ho
  obtain ⟨h0,h1⟩:=sgAt_open ho
  refine Ends.mono (j:=i+2) h0 (by omega) ?_
  have hs:Fw L (i+2) (i+2):=fw_at (by omega)
  repeat' (first | exact ends_no | with_reducible refine ends_ite ?_ ?_ | exact hs | refine isE_ends (by decide) ?_ | refine nmE_ends ?_ | refine hr.fw (by decide) ?_ | refine hr.ends (by decide) ?_ | refine Ends.fw ?_)
 ·split
  ·rename_i hw
   by_cases hin:0≤i∧i < (L.length:Int)
   ·right;omega
   ·rw [sgAt_out hin,oneB_nil] at hw
    exact absurd hw (by decide)
  ·exact ends_no
theorem deedH_ends (hr:Good L r) (h:ByteArray) {i:Int} (h0:0≤i):Ends L i (deedH L r h i):=by
 unfold deedH
 have hs:Fw L i i:=fw_at h0
 repeat' (first | exact ends_no | with_reducible refine ends_ite ?_ ?_ | exact hs | refine isE_ends (by decide) ?_ | refine nmE_ends ?_ | refine hr.fw (by decide) ?_ | refine hr.ends (by decide) ?_ | refine Ends.fw ?_)
theorem deedS_ends (hr:Good L r) (f:Bool) (i:Int):Ends L i (deedS L r f i):=by
 unfold deedS
 split
 ·rename_i ho
  obtain ⟨h0,h1⟩:=sgAt_open ho
  split
  ·exact ends_no
  ·exact Ends.mono (j:=i+2) h0 (by omega) (deedH_ends hr _ (by omega))
 ·exact ends_no
theorem fw_any (h:-1≤i):Fw L i i:=by unfold Fw;omega
theorem parS_ends (hr:Good L r) (i:Int):Ends L i (parS L r i):=by
 unfold parS
 split
 ·rename_i ho
  obtain ⟨h0,h1⟩:=sgAt_open ho
  refine Ends.mono (j:=i+1) h0 (by omega) ?_
  exact isE_ends (by decide) (Ends.fw (hr.ends (by decide) (Ends.fw (nmE_ends (fw_at (by omega))))))
 ·by_cases h:-1≤i
  ·exact nmE_ends (fw_any h)
  ·unfold nmE
   rw [sgAt_out (by omega)]
   left
   rfl
theorem oneS_ends (hr:Good L r) (what:Nat) {i:Int} (h:-1≤i):Ends L i (oneS L r what i):=by
 unfold oneS
 repeat' split
 ·exact hr.1 0 i (by decide)
 ·exact nmE_ends (fw_any h)
 ·exact hr.1 1 i (by decide)
 ·exact hr.1 3 i (by decide)
theorem manyS_fw (hr:Good L r) (what:Nat) {i:Int} (h:-1≤i):Fw L i (manyS L r what i):=by
 unfold manyS
 split
 ·exact fw_any h
 ·exact hr.fw (by omega) (oneS_ends hr what h).fw
theorem sumsS_fw (hr:Good L r) (k:Nat) {i:Int} (h:-1≤i):Fw L i (sumsS r k i):=by
 cases k with
 | zero=>exact fw_any h
 | succ k =>
  show Fw L i (if i < 0 then i else r (8+k) (r 0 i))
  split
  ·exact fw_any h
  ·exact hr.fw (by omega) (hr.1 0 i (by decide)).fw
end
theorem frm_good (L:List ByteArray):∀ n,Good L (frm L n)
 | 0=>⟨fun _ _ _=>ends_no,fun _ _ _ _=>Or.inl rfl⟩
 | n+1=>by
  have hr:=frm_good L n
  refine ⟨fun m j hm=>?_,fun m j hm hj=>?_⟩
  ·unfold frm
   obtain rfl | rfl | rfl | rfl:m=0∨m=1∨m=2∨m=3:=by omega
   ·exact sumS_ends hr j
   ·exact deedS_ends hr true j
   ·exact deedS_ends hr false j
   ·exact parS_ends hr j
  ·unfold frm
   rw [if_neg (by omega),if_neg (by omega),if_neg (by omega),if_neg (by omega)]
   split
   ·exact manyS_fw hr _ hj
   ·exact sumsS_fw hr _ hj
def farN (L:List ByteArray) (i:Int):Nat:=if i < 0 then 0 else ((L.length:Int)+2 - i).toNat
theorem far_ends {L:List ByteArray} {i x:Int} (h:Ends L i x) (hi:i≤(L.length:Int)+1):farN L x+1≤farN L i∨(x=-1∧farN L x=0):=by
 unfold farN
 unfold Ends at h
 rcases h with rfl | ⟨h0,h1,h2⟩
 ·right;exact ⟨rfl,rfl⟩
 ·left
  rw [if_neg (by omega),if_neg (by omega)]
  omega
end Go.Proofs.YtdgihicpjonjgaaGreatDoor
namespace Go.Proofs.YtdgihicpjonjgaaGreatDoor
open Go.RowKit
theorem isW_lit (c d:List UInt8):isW ⟨c.toArray⟩ d=(c == d):=by
 unfold isW
 rw [ByteArray.toList_eq]
theorem opB_lit (c:List UInt8):opB ⟨c.toArray⟩=([[43],[45],[42],[60],[61],[38]]:List (List UInt8)).any fun x=>x == c:=by
 unfold opB opsL
 simp only [List.any_cons,List.any_nil,ByteArray.toList_eq]
theorem isW_no {s:ByteArray} {c:List UInt8} (h:s≠⟨c.toArray⟩):isW s c=false:=Bool.eq_false_iff.mpr fun hw=>h (isW_eq hw)
section
variable {L:List ByteArray} {r:Nat→Int→Int} {i:Int}
theorem sumS_op (ho:isW (sgAt L i) [40]=true) (h:opB (sgAt L (i+1))=true):sumS L r i=isE L (r 10 (i+2)) [41]:=by
 unfold sumS
 rw [if_pos ho,h]
 rfl
theorem sumS_get (ho:isW (sgAt L i) [40]=true) (h:sgAt L (i+1)=⟨#[103,101,116]⟩):sumS L r i=isE L (r 10 (i+2)) [41]:=by
 unfold sumS
 rw [if_pos ho,h]
 simp only [isW_lit,opB_lit]
 rfl
theorem sumS_tget (ho:isW (sgAt L i) [40]=true) (h:sgAt L (i+1)=⟨#[116,103,101,116]⟩):sumS L r i=isE L (r 10 (i+2)) [41]:=by
 unfold sumS
 rw [if_pos ho,h]
 simp only [isW_lit,opB_lit]
 rfl
theorem sumS_fn (ho:isW (sgAt L i) [40]=true) (h:sgAt L (i+1)=⟨#[102,110]⟩):sumS L r i=isE L (r 6 (isE L (r 7 (isE L (i+2) [40])) [41])) [41]:=by
 unfold sumS
 rw [if_pos ho,h]
 simp only [isW_lit,opB_lit]
 rfl
theorem sumS_call (ho:isW (sgAt L i) [40]=true) (h:sgAt L (i+1)=⟨#[99,97,108,108]⟩):sumS L r i=isE L (r 4 (r 0 (i+2))) [41]:=by
 unfold sumS
 rw [if_pos ho,h]
 simp only [isW_lit,opB_lit]
 rfl
theorem sumS_thing (ho:isW (sgAt L i) [40]=true) (h:sgAt L (i+1)=⟨#[116,104,105,110,103]⟩):sumS L r i=isE L (r 4 (i+2)) [41]:=by
 unfold sumS
 rw [if_pos ho,h]
 simp only [isW_lit,opB_lit]
 rfl
theorem sumS_join (ho:isW (sgAt L i) [40]=true) (h:sgAt L (i+1)=⟨#[106,111,105,110]⟩):sumS L r i=isE L (r 4 (i+2)) [41]:=by
 unfold sumS
 rw [if_pos ho,h]
 simp only [isW_lit,opB_lit]
 rfl
theorem sumS_table (ho:isW (sgAt L i) [40]=true) (h:sgAt L (i+1)=⟨#[116,97,98,108,101]⟩):sumS L r i=isE L (i+2) [41]:=by
 unfold sumS
 rw [if_pos ho,h]
 simp only [isW_lit,opB_lit]
 rfl
theorem sumS_hget (ho:isW (sgAt L i) [40]=true) (h:sgAt L (i+1)=⟨#[104,103,101,116]⟩):sumS L r i=isE L (r 0 (nmE L (i+2))) [41]:=by
 unfold sumS
 rw [if_pos ho,h]
 simp only [isW_lit,opB_lit]
 rfl
theorem sumS_not (ho:isW (sgAt L i) [40]=true) (hop:opB (sgAt L (i+1))=false) (hget:sgAt L (i+1)≠⟨#[103,101,116]⟩) (htget:sgAt L (i+1)≠⟨#[116,103,101,116]⟩) (hfn:sgAt L (i+1)≠⟨#[102,110]⟩) (hcall:sgAt L (i+1)≠⟨#[99,97,108,108]⟩) (hthing:sgAt L (i+1)≠⟨#[116,104,105,110,103]⟩) (hjoin:sgAt L (i+1)≠⟨#[106,111,105,110]⟩) (htable:sgAt L (i+1)≠⟨#[116,97,98,108,101]⟩) (hhget:sgAt L (i+1)≠⟨#[104,103,101,116]⟩):sumS L r i=-1:=by
 unfold sumS
 rw [if_pos ho,hop,isW_no (c:=[103,101,116]) hget,isW_no (c:=[116,103,101,116]) htget,isW_no (c:=[102,110]) hfn,isW_no (c:=[99,97,108,108]) hcall,isW_no (c:=[116,104,105,110,103]) hthing,isW_no (c:=[106,111,105,110]) hjoin,isW_no (c:=[116,97,98,108,101]) htable,isW_no (c:=[104,103,101,116]) hhget]
 rfl
theorem sumS_one (ho:isW (sgAt L i) [40]=false) (h:oneB (sgAt L i)=true):sumS L r i=i+1:=by
 unfold sumS
 rw [ho,h]
 rfl
theorem sumS_none (ho:isW (sgAt L i) [40]=false) (h:oneB (sgAt L i)=false):sumS L r i=-1:=by
 unfold sumS
 rw [ho,h]
 rfl
theorem deedH_let:deedH L r ⟨#[108,101,116]⟩ i=isE L (r 0 (nmE L i)) [41]:=by
 unfold deedH
 simp only [isW_lit]
 rfl
theorem deedH_set:deedH L r ⟨#[115,101,116]⟩ i=isE L (r 0 (nmE L i)) [41]:=by
 unfold deedH
 simp only [isW_lit]
 rfl
theorem deedH_take:deedH L r ⟨#[116,97,107,101]⟩ i=isE L (r 0 (isE L (r 5 (nmE L (isE L i [40]))) [41])) [41]:=by
 unfold deedH
 simp only [isW_lit]
 rfl
theorem deedH_hidden:deedH L r ⟨#[104,105,100,100,101,110]⟩ i=isE L (r 5 i) [41]:=by
 unfold deedH
 simp only [isW_lit]
 rfl
theorem deedH_vars:deedH L r ⟨#[118,97,114,115]⟩ i=isE L (r 5 i) [41]:=by
 unfold deedH
 simp only [isW_lit]
 rfl
theorem deedH_do:deedH L r ⟨#[100,111]⟩ i=isE L (r 6 i) [41]:=by
 unfold deedH
 simp only [isW_lit]
 rfl
theorem deedH_if:deedH L r ⟨#[105,102]⟩ i=isE L (r 2 (r 2 (r 0 i))) [41]:=by
 unfold deedH
 simp only [isW_lit]
 rfl
theorem deedH_while:deedH L r ⟨#[119,104,105,108,101]⟩ i=isE L (r 2 (r 0 i)) [41]:=by
 unfold deedH
 simp only [isW_lit]
 rfl
theorem deedH_for:deedH L r ⟨#[102,111,114]⟩ i=isE L (r 2 (r 10 (nmE L i))) [41]:=by
 unfold deedH
 simp only [isW_lit]
 rfl
theorem deedH_say:deedH L r ⟨#[115,97,121]⟩ i=isE L (r 0 i) [41]:=by
 unfold deedH
 simp only [isW_lit]
 rfl
theorem deedH_back:deedH L r ⟨#[98,97,99,107]⟩ i=isE L (r 0 i) [41]:=by
 unfold deedH
 simp only [isW_lit]
 rfl
theorem deedH_run:deedH L r ⟨#[114,117,110]⟩ i=isE L (r 0 i) [41]:=by
 unfold deedH
 simp only [isW_lit]
 rfl
theorem deedH_leave:deedH L r ⟨#[108,101,97,118,101]⟩ i=isE L i [41]:=by
 unfold deedH
 simp only [isW_lit]
 rfl
theorem deedH_next:deedH L r ⟨#[110,101,120,116]⟩ i=isE L i [41]:=by
 unfold deedH
 simp only [isW_lit]
 rfl
theorem deedH_put:deedH L r ⟨#[112,117,116]⟩ i=isE L (r 11 i) [41]:=by
 unfold deedH
 simp only [isW_lit]
 rfl
theorem deedH_tput:deedH L r ⟨#[116,112,117,116]⟩ i=isE L (r 11 i) [41]:=by
 unfold deedH
 simp only [isW_lit]
 rfl
theorem deedH_hput:deedH L r ⟨#[104,112,117,116]⟩ i=isE L (r 10 (nmE L i)) [41]:=by
 unfold deedH
 simp only [isW_lit]
 rfl
theorem deedH_not {h:ByteArray} (hlet:h≠⟨#[108,101,116]⟩) (hset:h≠⟨#[115,101,116]⟩) (htake:h≠⟨#[116,97,107,101]⟩) (hhidden:h≠⟨#[104,105,100,100,101,110]⟩) (hvars:h≠⟨#[118,97,114,115]⟩) (hdo:h≠⟨#[100,111]⟩) (hif:h≠⟨#[105,102]⟩) (hwhile:h≠⟨#[119,104,105,108,101]⟩) (hfor:h≠⟨#[102,111,114]⟩) (hsay:h≠⟨#[115,97,121]⟩) (hback:h≠⟨#[98,97,99,107]⟩) (hrun:h≠⟨#[114,117,110]⟩) (hleave:h≠⟨#[108,101,97,118,101]⟩) (hnext:h≠⟨#[110,101,120,116]⟩) (hput:h≠⟨#[112,117,116]⟩) (htput:h≠⟨#[116,112,117,116]⟩) (hhput:h≠⟨#[104,112,117,116]⟩):deedH L r h i=-1:=by
 unfold deedH
 rw [isW_no (c:=[108,101,116]) hlet,isW_no (c:=[115,101,116]) hset,isW_no (c:=[116,97,107,101]) htake,isW_no (c:=[104,105,100,100,101,110]) hhidden,isW_no (c:=[118,97,114,115]) hvars,isW_no (c:=[100,111]) hdo,isW_no (c:=[105,102]) hif,isW_no (c:=[119,104,105,108,101]) hwhile,isW_no (c:=[102,111,114]) hfor,isW_no (c:=[115,97,121]) hsay,isW_no (c:=[98,97,99,107]) hback,isW_no (c:=[114,117,110]) hrun,isW_no (c:=[108,101,97,118,101]) hleave,isW_no (c:=[110,101,120,116]) hnext,isW_no (c:=[112,117,116]) hput,isW_no (c:=[116,112,117,116]) htput,isW_no (c:=[104,112,117,116]) hhput]
 rfl
theorem decB_let:decB ⟨#[108,101,116]⟩=true:=by
 unfold decB
 simp only [isW_lit]
 rfl
theorem decB_set:decB ⟨#[115,101,116]⟩=false:=by
 unfold decB
 simp only [isW_lit]
 rfl
theorem decB_take:decB ⟨#[116,97,107,101]⟩=true:=by
 unfold decB
 simp only [isW_lit]
 rfl
theorem decB_hidden:decB ⟨#[104,105,100,100,101,110]⟩=true:=by
 unfold decB
 simp only [isW_lit]
 rfl
theorem decB_vars:decB ⟨#[118,97,114,115]⟩=true:=by
 unfold decB
 simp only [isW_lit]
 rfl
theorem decB_do:decB ⟨#[100,111]⟩=false:=by
 unfold decB
 simp only [isW_lit]
 rfl
theorem decB_if:decB ⟨#[105,102]⟩=false:=by
 unfold decB
 simp only [isW_lit]
 rfl
theorem decB_while:decB ⟨#[119,104,105,108,101]⟩=false:=by
 unfold decB
 simp only [isW_lit]
 rfl
theorem decB_for:decB ⟨#[102,111,114]⟩=false:=by
 unfold decB
 simp only [isW_lit]
 rfl
theorem decB_say:decB ⟨#[115,97,121]⟩=false:=by
 unfold decB
 simp only [isW_lit]
 rfl
theorem decB_back:decB ⟨#[98,97,99,107]⟩=false:=by
 unfold decB
 simp only [isW_lit]
 rfl
theorem decB_run:decB ⟨#[114,117,110]⟩=false:=by
 unfold decB
 simp only [isW_lit]
 rfl
theorem decB_leave:decB ⟨#[108,101,97,118,101]⟩=false:=by
 unfold decB
 simp only [isW_lit]
 rfl
theorem decB_next:decB ⟨#[110,101,120,116]⟩=false:=by
 unfold decB
 simp only [isW_lit]
 rfl
theorem decB_put:decB ⟨#[112,117,116]⟩=false:=by
 unfold decB
 simp only [isW_lit]
 rfl
theorem decB_tput:decB ⟨#[116,112,117,116]⟩=false:=by
 unfold decB
 simp only [isW_lit]
 rfl
theorem decB_hput:decB ⟨#[104,112,117,116]⟩=false:=by
 unfold decB
 simp only [isW_lit]
 rfl
theorem decB_not {h:ByteArray} (hlet:h≠⟨#[108,101,116]⟩) (htake:h≠⟨#[116,97,107,101]⟩) (hhidden:h≠⟨#[104,105,100,100,101,110]⟩) (hvars:h≠⟨#[118,97,114,115]⟩):decB h=false:=by
 unfold decB
 rw [isW_no (c:=[108,101,116]) hlet,isW_no (c:=[116,97,107,101]) htake,isW_no (c:=[104,105,100,100,101,110]) hhidden,isW_no (c:=[118,97,114,115]) hvars]
 rfl
end
end Go.Proofs.YtdgihicpjonjgaaGreatDoor
namespace Go.Proofs.YtdgihicpjonjgaaGreatDoor
open Go.RowKit
section
variable {L:List ByteArray} {r r':Nat→Int→Int} {i x:Int}
def Same (L:List ByteArray) (j:Int) (r r':Nat→Int→Int):Prop:=∀ m x,m≤11→Fw L j x→r m x=r' m x
theorem sumS_same (hr:Good L r) (hs:0≤i→i < (L.length:Int)→Same L (i+2) r r'):sumS L r i=sumS L r' i:=by
 unfold sumS
 cases ho:isW (sgAt L i) [40]
 ·rfl
 ·obtain ⟨h0,h1⟩:=sgAt_open ho
  have hs:=hs h0 h1
  have F0:Fw L (i+2) (i+2):=fw_at (by omega)
  have e10:=hs 10 (i+2) (by decide) F0
  have e4:=hs 4 (i+2) (by decide) F0
  have e0:=hs 0 (i+2) (by decide) F0
  have e40:=hs 4 (r 0 (i+2)) (by decide) (hr.ends (by decide) F0).fw
  have en:=hs 0 (nmE L (i+2)) (by decide) (nmE_ends F0).fw
  have F7:=(isE_ends (c:=[40]) (by decide) F0).fw
  have e7:=hs 7 _ (by decide) F7
  have F6:=(isE_ends (c:=[41]) (by decide) (hr.fw (m:=7) (by decide) F7)).fw
  have e6:=hs 6 _ (by decide) F6
  simp only [if_true]
  rw [e10,e4,en]
  rw [e40,e0,e6,e7]
theorem deedH_same (hr:Good L r) (h:ByteArray) (h0:0≤i) (hs:Same L i r r'):deedH L r h i=deedH L r' h i:=by
 have F0:Fw L i i:=fw_at h0
 have e0:=hs 0 i (by decide) F0
 have e5:=hs 5 i (by decide) F0
 have e6:=hs 6 i (by decide) F0
 have e11:=hs 11 i (by decide) F0
 have Fn:=(nmE_ends (L:=L) F0).fw
 have en:=hs 0 _ (by decide) Fn
 have e10:=hs 10 _ (by decide) Fn
 have F1:=(hr.ends (m:=0) (by decide) F0).fw
 have e2:=hs 2 _ (by decide) F1
 have F2:=(hr.ends (m:=2) (by decide) F1).fw
 have e22:=hs 2 _ (by decide) F2
 have e210:=hs 2 _ (by decide) (hr.fw (m:=10) (by decide) Fn)
 have F5:=(nmE_ends (L:=L) (isE_ends (c:=[40]) (by decide) F0).fw).fw
 have e5t:=hs 5 _ (by decide) F5
 have e0t:=hs 0 _ (by decide) (isE_ends (c:=[41]) (by decide) (hr.fw (m:=5) (by decide) F5)).fw
 unfold deedH
 rw [en,e0t,e5t,e5,e6,e22,e2,e210,e10,e0,e11]
theorem deedS_same (hr:Good L r) (f:Bool) (hs:0≤i→i < (L.length:Int)→Same L (i+2) r r'):deedS L r f i=deedS L r' f i:=by
 unfold deedS
 cases ho:isW (sgAt L i) [40]
 ·rfl
 ·obtain ⟨h0,h1⟩:=sgAt_open ho
  rw [deedH_same hr _ (by omega) (hs h0 h1)]
theorem parS_same (hs:0≤i→i < (L.length:Int)→Same L (i+1) r r'):parS L r i=parS L r' i:=by
 unfold parS
 cases ho:isW (sgAt L i) [40]
 ·rfl
 ·obtain ⟨h0,h1⟩:=sgAt_open ho
  have F0:Fw L (i+1) (i+1):=fw_at (by omega)
  rw [hs h0 h1 0 _ (by decide) (nmE_ends F0).fw]
end
def needN (L:List ByteArray) (m:Nat) (i:Int):Nat:=8 * farN L i+(if m < 4 then 1 else if m < 8 then 2 else m - 6)
theorem far_fw {L:List ByteArray} {i j x:Int} (h0:0≤i) (h1:i≤(L.length:Int)+1) (hj:i < j) (h:Fw L j x):farN L x+1≤farN L i:=by
 unfold Fw at h
 unfold farN
 rw [if_neg (show ¬ i < 0 by omega)]
 split <;> omega
theorem need_le {L:List ByteArray} (m:Nat) (hm:m≤11) (i:Int):8 * farN L i+1≤needN L m i∧needN L m i≤8 * farN L i+5:=by
 unfold needN
 split
 ·omega
 ·split <;> omega
theorem frm_same (L:List ByteArray):∀ n n' m i,m≤11→(4≤m→-1≤i∧i≤(L.length:Int)+1)→needN L m i≤n→needN L m i≤n'→frm L n m i=frm L n' m i
 | 0,n',m,i,hm,_,h,_=>by have:=(need_le (L:=L) m hm i).1;omega
 | n+1,0,m,i,hm,_,_,h=>by have:=(need_le (L:=L) m hm i).1;omega
 | n+1,n'+1,m,i,hm,hi,h,h'=>by
  have IH:=frm_same L n
  have hg:=frm_good L n
  have hnl:=need_le (L:=L) m hm i
  have key:∀ j,i < j→j≤i+2→0≤i→i < (L.length:Int)→Same L j (frm L n) (frm L n'):=fun j hj hj2 h0 h1 q x hq hF=>by
   have hf:=far_fw h0 (by omega) hj hF
   have hq':=need_le (L:=L) q hq x
   refine IH n' q x hq (fun _=>?_) (by omega) (by omega)
   unfold Fw at hF
   omega
  by_cases c0:m=0
  ·subst c0
   exact sumS_same hg (key (i+2) (by omega) (by omega))
  by_cases c1:m=1
  ·subst c1
   exact deedS_same hg true (key (i+2) (by omega) (by omega))
  by_cases c2:m=2
  ·subst c2
   exact deedS_same hg false (key (i+2) (by omega) (by omega))
  by_cases c3:m=3
  ·subst c3
   exact parS_same (key (i+1) (by omega) (by omega))
  obtain ⟨i0,i1⟩:=hi (by omega)
  unfold frm
  rw [if_neg c0,if_neg c1,if_neg c2,if_neg c3,if_neg c0,if_neg c1,if_neg c2,if_neg c3]
  by_cases c8:m < 8
  ·rw [if_pos c8,if_pos c8]
   obtain ⟨q,rfl⟩:∃ q,m=4+q:=⟨m - 4,by omega⟩
   rw [show 4+q - 4=q by omega]
   unfold needN at h h'
   rw [if_neg (by omega),if_pos (by omega)] at h h'
   unfold manyS
   split
   ·rfl
   ·rename_i hgo
    have hpos:1≤farN L i:=by unfold farN;rw [if_neg (by omega)];omega
    have hin:∀ t,t < 4→frm L n t i=frm L n' t i:=fun t ht=>IH n' t i (by omega) (fun h4=>by omega) (by unfold needN;rw [if_pos ht];omega) (by unfold needN;rw [if_pos ht];omega)
    have ho:oneS L (frm L n) q i=oneS L (frm L n') q i:=by
     unfold oneS
     rw [hin 0 (by decide),hin 1 (by decide),hin 3 (by decide)]
    rw [← ho]
    have hE:=oneS_ends hg q i0
    generalize oneS L (frm L n) q i=y at hE
    have hfe:=far_ends hE i1
    unfold Ends at hE
    exact IH n' (4+q) y hm (fun _=>by omega) (by unfold needN;rw [if_neg (by omega),if_pos (by omega)];omega) (by unfold needN;rw [if_neg (by omega),if_pos (by omega)];omega)
  ·rw [if_neg c8,if_neg c8]
   obtain ⟨k,rfl⟩:∃ k,m=8+k:=⟨m - 8,by omega⟩
   rw [show 8+k - 8=k by omega]
   unfold needN at h h'
   rw [if_neg (by omega),if_neg (by omega)] at h h'
   cases k with
   | zero=>rfl
   | succ k =>
    show (if i < 0 then i else frm L n (8+k) (frm L n 0 i))=(if i < 0 then i else frm L n' (8+k) (frm L n' 0 i))
    split
    ·rfl
    ·have h0':frm L n 0 i=frm L n' 0 i:=IH n' 0 i (by decide) (fun h4=>by omega) (by unfold needN;rw [if_pos (by decide)];omega) (by unfold needN;rw [if_pos (by decide)];omega)
     rw [← h0']
     have hE:=hg.1 0 i (by decide)
     generalize frm L n 0 i=y at hE
     have hfe:=far_ends hE i1
     unfold Ends at hE
     exact IH n' (8+k) y (by omega) (fun _=>by omega) (by unfold needN;rw [if_neg (by omega),if_neg (by omega)];omega) (by unfold needN;rw [if_neg (by omega),if_neg (by omega)];omega)
theorem fm_ex (L:List ByteArray):∃ F:Nat→Int→Int,F=frm L (8 * L.length+40):=⟨_,rfl⟩
noncomputable def fm (L:List ByteArray):Nat→Int→Int:=Classical.choose (fm_ex L)
theorem fm_fun (L:List ByteArray):frm L (8 * L.length+40)=fm L:=(Classical.choose_spec (fm_ex L)).symm
theorem far_top (L:List ByteArray) (i:Int):farN L i≤L.length+2:=by
 unfold farN
 split <;> omega
theorem fm_of {L:List ByteArray} {n m:Nat} {i:Int} (hm:m≤11) (hi:4≤m→-1≤i∧i≤(L.length:Int)+1) (hn:needN L m i≤n):frm L n m i=fm L m i:=by
 rw [← fm_fun]
 refine frm_same L n _ m i hm hi hn ?_
 have:=need_le (L:=L) m hm i
 have:=far_top L i
 omega
theorem fm_next {L:List ByteArray} {m:Nat} {i:Int} (hm:m≤11) (hi:4≤m→-1≤i∧i≤(L.length:Int)+1):fm L m i=frm L (8 * L.length+40+1) m i:=by
 refine (fm_of hm hi ?_).symm
 have:=need_le (L:=L) m hm i
 have:=far_top L i
 omega
theorem frm_0 (L:List ByteArray) (n:Nat) (i:Int):frm L (n+1) 0 i=sumS L (frm L n) i:=rfl
theorem frm_1 (L:List ByteArray) (n:Nat) (i:Int):frm L (n+1) 1 i=deedS L (frm L n) true i:=rfl
theorem frm_2 (L:List ByteArray) (n:Nat) (i:Int):frm L (n+1) 2 i=deedS L (frm L n) false i:=rfl
theorem frm_3 (L:List ByteArray) (n:Nat) (i:Int):frm L (n+1) 3 i=parS L (frm L n) i:=rfl
theorem frm_4 (L:List ByteArray) (n q:Nat) (hq:q≤3) (i:Int):frm L (n+1) (4+q) i=manyS L (frm L n) q i:=by
 obtain rfl | rfl | rfl | rfl:q=0∨q=1∨q=2∨q=3:=by omega
 all_goals rfl
theorem frm_8 (L:List ByteArray) (n q:Nat) (i:Int):frm L (n+1) (8+q) i=sumsS (frm L n) q i:=by
 unfold frm
 rw [if_neg (by omega),if_neg (by omega),if_neg (by omega),if_neg (by omega),if_neg (by omega),show 8+q - 8=q by omega]
theorem fm_sum (L:List ByteArray) (i:Int):fm L 0 i=sumS L (fm L) i:=by rw [fm_next (by decide) (fun h=>absurd h (by decide)),frm_0,fm_fun]
theorem fm_deed (L:List ByteArray) (i:Int):fm L 1 i=deedS L (fm L) true i:=by rw [fm_next (by decide) (fun h=>absurd h (by decide)),frm_1,fm_fun]
theorem fm_deed2 (L:List ByteArray) (i:Int):fm L 2 i=deedS L (fm L) false i:=by rw [fm_next (by decide) (fun h=>absurd h (by decide)),frm_2,fm_fun]
theorem fm_par (L:List ByteArray) (i:Int):fm L 3 i=parS L (fm L) i:=by rw [fm_next (by decide) (fun h=>absurd h (by decide)),frm_3,fm_fun]
theorem fm_many {L:List ByteArray} {i:Int} (q:Nat) (hq:q≤3) (h0:-1≤i) (h1:i≤(L.length:Int)+1):fm L (4+q) i=manyS L (fm L) q i:=by
 rw [fm_next (by omega) (fun _=>⟨h0,h1⟩),frm_4 L _ q hq,fm_fun]
theorem fm_sums {L:List ByteArray} {i:Int} (q:Nat) (hq:q≤3) (h0:-1≤i) (h1:i≤(L.length:Int)+1):fm L (8+q) i=sumsS (fm L) q i:=by
 rw [fm_next (by omega) (fun _=>⟨h0,h1⟩),frm_8,fm_fun]
theorem fm_good (L:List ByteArray):Good L (fm L):=by rw [← fm_fun];exact frm_good L _
end Go.Proofs.YtdgihicpjonjgaaGreatDoor
namespace Go.Proofs.YtdgihicpjonjgaaGreatDoor
open Go.RowKit
def itemF (L:List ByteArray):Nat→Nat→Nat→Int
 | 0,_,_=>-1
 | f+1,i,o =>
  if i < L.length then
   if isW (L.getD i ⟨#[]⟩) [40] then itemF L f (i+1) (o+1)
   else if isW (L.getD i ⟨#[]⟩) [41] then (if o=0 then -1 else if o=1 then (i:Int)+1 else itemF L f (i+1) (o - 1))
   else if o=0 then (i:Int)+1 else itemF L f (i+1) o
  else -1
def itemE (L:List ByteArray) (i:Int):Int:=if i < 0 then -1 else itemF L (L.length+1) i.toNat 0
def Scan (L:List ByteArray) (r:Int) (first:Bool) (o:Nat) (x:Int):Prop :=
 (first=true∧o=0∧itemE L x=r)∨(first=false∧0≤x∧((o=0∧x=r)∨(1≤o∧∃ f:Nat,(L.length:Int)≤x+(f:Int)∧itemF L (f+1) x.toNat o=r)))
section
variable {L:List ByteArray} {r x:Int} {first:Bool} {o:Nat}
theorem scan_out (h:Scan L r first o x) (hgo:first=true∨1≤o) (hx:x < 0∨(L.length:Int)≤x):r=-1:=by
 rcases h with ⟨_,_,h⟩ | ⟨h1,h0,⟨h2,_⟩ | ⟨_,f,_,h⟩⟩
 ·rw [← h]
  unfold itemE
  split
  ·rfl
  ·unfold itemF
   rw [if_neg (by omega)]
 ·rcases hgo with hg | hg
  ·rw [h1] at hg;exact absurd hg (by decide)
  ·omega
 ·rw [← h]
  unfold itemF
  rw [if_neg (by omega)]
theorem scan_done (h:Scan L r false 0 x):r=x:=by
 rcases h with ⟨h,_⟩ | ⟨_,_,⟨_,h⟩ | ⟨h,_⟩⟩
 ·exact absurd h (by decide)
 ·exact h.symm
 ·omega
theorem scan_in (h:Scan L r first o x) (hgo:first=true∨1≤o) (h0:0≤x):∃ f:Nat,(L.length:Int)≤x+(f:Int)∧itemF L (f+1) x.toNat o=r:=by
 rcases h with ⟨_,h2,h⟩ | ⟨h3,_,⟨h2,_⟩ | ⟨_,f,hf,h⟩⟩
 ·refine ⟨L.length,by omega,?_⟩
  subst h2
  unfold itemE at h
  rw [if_neg (by omega)] at h
  exact h
 ·rcases hgo with hg | hg
  ·rw [h3] at hg;exact absurd hg (by decide)
  ·omega
 ·exact ⟨f,hf,h⟩
theorem scan_open {k:Nat} (h:Scan L r first o (k:Int)) (hgo:first=true∨1≤o) (h1:k < L.length) (hs:isW L[k] [40]=true):Scan L r false (o+1) ((k:Int)+1):=by
 obtain ⟨f,hf,he⟩:=scan_in h hgo (by omega)
 right
 refine ⟨rfl,by omega,Or.inr ⟨by omega,?_⟩⟩
 have hf1:1≤f:=by omega
 obtain ⟨g,rfl⟩:∃ g,f=g+1:=⟨f - 1,by omega⟩
 refine ⟨g,by omega,?_⟩
 unfold itemF at he
 rw [Int.toNat_natCast,if_pos h1] at he
 simp only [List.getD,List.getElem?_eq_getElem h1,Option.getD_some,hs] at he
 rw [show ((k:Int)+1).toNat=k+1 by omega]
 exact he
theorem scan_shut {k:Nat} (h:Scan L r first o (k:Int)) (hgo:first=true∨1≤o) (h1:k < L.length) (hn:isW L[k] [40]=false) (hs:isW L[k] [41]=true):(o=0∧r=-1)∨(1≤o∧Scan L r false (o - 1) ((k:Int)+1)):=by
 obtain ⟨f,hf,he⟩:=scan_in h hgo (by omega)
 have hf1:1≤f:=by omega
 obtain ⟨g,rfl⟩:∃ g,f=g+1:=⟨f - 1,by omega⟩
 unfold itemF at he
 rw [Int.toNat_natCast,if_pos h1] at he
 simp only [List.getD,List.getElem?_eq_getElem h1,Option.getD_some,hs,hn] at he
 by_cases ho:o=0
 ·subst ho
  left
  exact ⟨rfl,he.symm⟩
 ·right
  refine ⟨by omega,Or.inr ⟨rfl,by omega,?_⟩⟩
  by_cases ho1:o=1
  ·subst ho1
   left
   exact ⟨rfl,he⟩
  ·right
   refine ⟨by omega,g,by omega,?_⟩
   rw [show ((k:Int)+1).toNat=k+1 by omega]
   simpa [ho,ho1] using he
theorem scan_other {k:Nat} (h:Scan L r first o (k:Int)) (hgo:first=true∨1≤o) (h1:k < L.length) (hn:isW L[k] [40]=false) (hs:isW L[k] [41]=false):Scan L r false o ((k:Int)+1):=by
 obtain ⟨f,hf,he⟩:=scan_in h hgo (by omega)
 have hf1:1≤f:=by omega
 obtain ⟨g,rfl⟩:∃ g,f=g+1:=⟨f - 1,by omega⟩
 unfold itemF at he
 rw [Int.toNat_natCast,if_pos h1] at he
 simp only [List.getD,List.getElem?_eq_getElem h1,Option.getD_some,hs,hn] at he
 refine Or.inr ⟨rfl,by omega,?_⟩
 by_cases ho:o=0
 ·subst ho
  left
  exact ⟨rfl,he⟩
 ·right
  refine ⟨by omega,g,by omega,?_⟩
  rw [show ((k:Int)+1).toNat=k+1 by omega]
  simpa [ho] using he
end
set_option maxHeartbeats 2000000 in
theorem itemEndS_any (a:Option Addr) (cap:Nat) (L:List ByteArray) (i:Int) (w:World) (h:ArgT w a L) (hL:L.length≤1048576) (hi:-9223372036854775808≤i∧i≤9223372036854775807) :
  Calls Tryz.prog 25 #[.slice a L.length cap,.int .i64 i] w fun e w'=>e=.returned (.int .i64 (itemE L i))∧Below w.heap.size w w':=by
 generalize hr:itemE L i=r
 have HR:Hid (itemE L i=r):=hr
 clear hr
 obtain ⟨hi0,hi1⟩:=hi
 go_enter Tryz.func25,Tryz.ntmps25
 go_wp2
 go_loopw [1,6,7] (fun v1 v5 v6 wr=>∃ (x:Int) (o:Nat) (b:Bool),v1=.int .i64 x∧v5=.int .i64 (o:Int)∧v6=.bool b∧-9223372036854775808≤x∧x≤9223372036854775807∧o≤1048576∧Hid (Scan L r b o x)∧(b=true∨(0≤x∧(o:Int)≤x))∧Below w.heap.size w wr) (fun v1 _ _ _=>L.length - (intOf v1).toNat)
 case atStart=>exact ⟨i,0,true,rfl,rfl,rfl,hi0,hi1,Nat.zero_le _,Or.inl ⟨rfl,rfl,HR.out⟩,Or.inl rfl,Below.refl _ _⟩
 case round =>
  obtain ⟨x,o,b,rfl,rfl,rfl,hx0,hx1,hoL,HS,hlo,hB⟩:=hrel
  by_cases hgo:b=true∨1≤o
  ·by_cases hin:0≤x∧x < (L.length:Int)
   ·obtain ⟨k,rfl⟩:∃ k:Nat,x=(k:Int):=⟨x.toNat,by omega⟩
    have hk:k < L.length:=by omega
    obtain ⟨sb,off,rfl,hs,hc,_⟩:=h k hk
    have hc':=(hB.cell (p:=⟨sb,off+k,none⟩) hs).trans hc
    have hok:o≤k:=by
     rcases hlo with rfl | hlo
     ·rcases HS.out with ⟨_,h2,_⟩ | ⟨h2,_⟩
      ·omega
      ·exact absurd h2 (by decide)
     ·omega
    have hgoB:b=true∨(b=false∧0 < (o:Int)):=by
     cases b
     ·right;exact ⟨rfl,by rcases hgo with hg | hg <;> first | (exact absurd hg (by decide)) | omega⟩
     ·left;rfl
    cases h40:isW L[k] [40]
    ·cases h41:isW L[k] [41]
     ·have HN:Hid (Scan L r false o ((k:Int)+1)):=scan_other HS.out hgo hk h40 h41
      have b40:(L[k].toList == [40])=false:=h40
      have b41:(L[k].toList == [41])=false:=h41
      clear h40 h41 HS hc hgo hlo
      generalize L[k]=t at hc' b40 b41
      rcases hgoB with rfl | ⟨rfl,hg⟩
      all_goals
       go_wp2
       go_roundw
       case rel=>exact ⟨(k:Int)+1,o,false,rfl,rfl,rfl,by omega,by omega,hoL,HN.out,Or.inr ⟨by omega,by omega⟩,hB⟩
       case measure=>simp [intOf];omega
     ·have b40:(L[k].toList == [40])=false:=h40
      have b41:(L[k].toList == [41])=true:=h41
      rcases scan_shut HS.out hgo hk h40 h41 with ⟨rfl,hr1⟩ | ⟨ho1,hN⟩
      ·have HR1:Hid (r=-1):=hr1
       clear h40 h41 HS hc hgo hlo hr1
       generalize L[k]=t at hc' b40 b41
       rcases hgoB with rfl | ⟨rfl,hg⟩
       ·go_wp2
        go_ret
        exact ⟨by rw [HR1.out];rfl,hB⟩
       ·omega
      ·have HN:Hid (Scan L r false (o - 1) ((k:Int)+1)):=hN
       clear h40 h41 HS hc hgo hlo hN
       generalize L[k]=t at hc' b40 b41
       rcases hgoB with rfl | ⟨rfl,hg⟩
       all_goals
        go_wp2
        go_roundw
        case rel=>exact ⟨(k:Int)+1,o - 1,false,rfl,by congr 1;omega,rfl,by omega,by omega,by omega,HN.out,Or.inr ⟨by omega,by omega⟩,hB⟩
        case measure=>simp [intOf];omega
    ·have HN:Hid (Scan L r false (o+1) ((k:Int)+1)):=scan_open HS.out hgo hk h40
     have b40:(L[k].toList == [40])=true:=h40
     clear h40 HS hc hgo hlo
     generalize L[k]=t at hc' b40
     rcases hgoB with rfl | ⟨rfl,hg⟩
     all_goals
      go_wp2
      go_roundw
      case rel=>exact ⟨(k:Int)+1,o+1,false,rfl,by go_num,rfl,by omega,by omega,by omega,HN.out,Or.inr ⟨by omega,by omega⟩,hB⟩
      case measure=>simp [intOf];omega
   ·have HR1:Hid (r=-1):=scan_out HS.out hgo (by omega)
    have hgoB:b=true∨(b=false∧0 < (o:Int)):=by
     cases b
     ·right;exact ⟨rfl,by rcases hgo with hg | hg <;> first | (exact absurd hg (by decide)) | omega⟩
     ·left;rfl
    clear HS hgo hlo
    rcases hgoB with rfl | ⟨rfl,hg⟩
    all_goals
     by_cases hneg:x < 0
     ·go_wp2
      go_ret
      exact ⟨by rw [HR1.out];rfl,hB⟩
     ·have hge:(L.length:Int)≤x:=by omega
      go_wp2
      go_ret
      exact ⟨by rw [HR1.out];rfl,hB⟩
  ·have hb:b=false:=by cases b <;> simp_all
   subst hb
   have ho:o=0:=by omega
   subst ho
   have HR1:Hid (r=x):=scan_done HS.out
   clear HS
   go_wp2
   go_ret
   exact ⟨by rw [HR1.out];rfl,hB⟩
end Go.Proofs.YtdgihicpjonjgaaGreatDoor
namespace Go.Proofs.YtdgihicpjonjgaaGreatDoor
open Go.RowKit
def plainS (s:ByteArray):Prop:=isW s [40]=false∧isW s [41]=false
def Skips (L:List ByteArray) (i e:Int):Prop:=0≤i∧i≤e∧e≤(L.length:Int)∧∀ f o:Nat,1≤o→itemF L (f+(e - i).toNat) i.toNat o=itemF L f e.toNat o
section
variable {L:List ByteArray} {i j e x:Int}
theorem skips_at (h0:0≤i) (h1:i≤(L.length:Int)):Skips L i i:=⟨h0,Int.le_refl _,h1,fun f o _=>by rw [Int.sub_self];rfl⟩
theorem Skips.trans (h:Skips L i j) (k:Skips L j e):Skips L i e:=by
 obtain ⟨h0,h1,h2,h3⟩:=h
 obtain ⟨k0,k1,k2,k3⟩:=k
 refine ⟨h0,by omega,k2,fun f o ho=>?_⟩
 rw [show f+(e - i).toNat=(f+(e - j).toNat)+(j - i).toNat by omega,h3 _ _ ho,k3 _ _ ho]
theorem sgAt_getD (h0:0≤i) (h1:i < (L.length:Int)):L.getD i.toNat ⟨#[]⟩=sgAt L i:=by
 unfold sgAt
 rw [if_pos ⟨h0,h1⟩]
theorem itemF_open {f o:Nat} (h0:0≤i) (h1:i < (L.length:Int)) (h:isW (sgAt L i) [40]=true):itemF L (f+1) i.toNat o=itemF L f (i+1).toNat (o+1):=by
 rw [itemF,if_pos (by omega),sgAt_getD h0 h1,h,show (i+1).toNat=i.toNat+1 by omega]
 rfl
theorem itemF_shut {f o:Nat} (h0:0≤i) (h1:i < (L.length:Int)) (hn:isW (sgAt L i) [40]=false) (h:isW (sgAt L i) [41]=true) (ho:1≤o):itemF L (f+1) i.toNat (o+1)=itemF L f (i+1).toNat o:=by
 rw [itemF,if_pos (by omega),sgAt_getD h0 h1,hn,h,show (i+1).toNat=i.toNat+1 by omega]
 simp only [Bool.false_eq_true,if_false,if_true]
 rw [if_neg (by omega),if_neg (by omega)]
 rfl
theorem itemF_last {f:Nat} (h0:0≤i) (h1:i < (L.length:Int)) (hn:isW (sgAt L i) [40]=false) (h:isW (sgAt L i) [41]=true):itemF L (f+1) i.toNat 1=i+1:=by
 rw [itemF,if_pos (by omega),sgAt_getD h0 h1,hn,h]
 simp only [Bool.false_eq_true,if_false,if_true]
 rw [if_neg (by omega)]
 omega
theorem itemF_plain {f o:Nat} (h0:0≤i) (h1:i < (L.length:Int)) (h:plainS (sgAt L i)) (ho:1≤o):itemF L (f+1) i.toNat o=itemF L f (i+1).toNat o:=by
 rw [itemF,if_pos (by omega),sgAt_getD h0 h1,h.1,h.2,show (i+1).toNat=i.toNat+1 by omega]
 simp only [Bool.false_eq_true,if_false]
 rw [if_neg (by omega)]
theorem skips_one (h0:0≤i) (h1:i < (L.length:Int)) (h:plainS (sgAt L i)):Skips L i (i+1) :=
 ⟨h0,by omega,by omega,fun f o ho=>by
  rw [show f+(i+1 - i).toNat=f+1 by omega]
  exact itemF_plain h0 h1 h ho⟩
theorem isW_other {s:ByteArray} {c d:List UInt8} (h:isW s c=true) (hcd:(c == d)=false):isW s d=false:=by rw [isW_eq h,isW_lit];exact hcd
theorem skips_wrap (h0:0≤i) (h1:i < (L.length:Int)) (ho:isW (sgAt L i) [40]=true) (hs:Skips L (i+1) x) (hx:x < (L.length:Int)) (hc:isW (sgAt L x) [41]=true):Skips L i (x+1)∧itemE L i=x+1:=by
 obtain ⟨s0,s1,s2,s3⟩:=hs
 have hn:=isW_other (d:=[40]) hc (by decide)
 refine ⟨⟨h0,by omega,by omega,fun f o h=>?_⟩,?_⟩
 ·rw [show f+(x+1 - i).toNat=((f+1)+(x - (i+1)).toNat)+1 by omega,itemF_open h0 h1 ho,s3 _ _ (by omega),itemF_shut (by omega) hx hn hc h]
 ·unfold itemE
  rw [if_neg (by omega),show L.length+1=((L.length - 1 - (x - (i+1)).toNat)+1+(x - (i+1)).toNat)+1 by omega,itemF_open h0 h1 ho,s3 _ _ (by omega),itemF_last (by omega) hx hn hc]
theorem item_one (h0:0≤i) (h1:i < (L.length:Int)) (h:plainS (sgAt L i)):itemE L i=i+1:=by
 unfold itemE
 rw [if_neg (by omega),itemF,if_pos (by omega),sgAt_getD h0 h1,h.1,h.2]
 simp only [Bool.false_eq_true,if_false,if_true]
 omega
theorem isE_pos {c:List UInt8} (hc:c≠[]) (h:isE L x c≠-1):isE L x c=x+1∧0≤x∧x < (L.length:Int)∧isW (sgAt L x) c=true:=by
 unfold isE at h ⊢
 split at h
 ·rename_i hw
  rw [if_pos hw]
  by_cases hin:0≤x∧x < (L.length:Int)
  ·exact ⟨rfl,hin.1,hin.2,hw⟩
  ·rw [sgAt_out hin,isW_nil c hc] at hw
   exact absurd hw (by decide)
 ·exact absurd rfl h
theorem name_plain {s:ByteArray} (h:nameB s=true):plainS s:=by
 constructor
 ·refine Bool.eq_false_iff.mpr fun hw=>?_
  rw [isW_eq hw] at h
  exact absurd h (by decide +kernel)
 ·refine Bool.eq_false_iff.mpr fun hw=>?_
  rw [isW_eq hw] at h
  exact absurd h (by decide +kernel)
theorem nmE_pos (h:nmE L x≠-1):nmE L x=x+1∧0≤x∧x < (L.length:Int)∧nmB (sgAt L x)=true:=by
 unfold nmE at h ⊢
 split at h
 ·rename_i hw
  rw [if_pos hw]
  by_cases hin:0≤x∧x < (L.length:Int)
  ·exact ⟨rfl,hin.1,hin.2,hw⟩
  ·rw [sgAt_out hin] at hw
   unfold nmB at hw
   rw [nameB_nil] at hw
   exact absurd hw (by decide)
 ·exact absurd rfl h
theorem nm_plain {s:ByteArray} (h:nmB s=true):plainS s:=by
 unfold nmB at h
 rw [Bool.and_eq_true] at h
 exact name_plain h.1
theorem one_plain {s:ByteArray} (hn:isW s [40]=false) (h:oneB s=true):plainS s:=by
 refine ⟨hn,Bool.eq_false_iff.mpr fun hw=>?_⟩
 rw [isW_eq hw] at h
 exact absurd h (by decide +kernel)
def Ok (L:List ByteArray) (i x:Int):Prop:=x=-1∨(L.length:Int) < x∨Skips L i x
def Item (L:List ByteArray) (i x:Int):Prop:=x=-1∨(Skips L i x∧itemE L i=x)
theorem Item.ok (h:Item L i x):Ok L i x:=h.elim Or.inl fun h=>Or.inr (Or.inr h.1)
theorem ok_at (h0:0≤i):Ok L i i:=by
 by_cases h:i≤(L.length:Int)
 ·exact Or.inr (Or.inr (skips_at h0 h))
 ·exact Or.inr (Or.inl (by omega))
theorem item_no:Item L i (-1):=Or.inl rfl
theorem item_ite {c:Prop} [Decidable c] {y:Int} (h1:Item L i x) (h2:Item L i y):Item L i (if c then x else y):=by split <;> assumption
theorem ok_nm (h:Ok L i x):Ok L i (nmE L x):=by
 by_cases hn:nmE L x=-1
 ·exact Or.inl hn
 ·obtain ⟨he,h0,h1,hb⟩:=nmE_pos hn
  rw [he]
  rcases h with h | h | h
  ·omega
  ·omega
  ·exact Or.inr (Or.inr (h.trans (skips_one h0 h1 (nm_plain hb))))
theorem ok_paren {F:Int→Int} (hF:∀ y,Ok L y (F y)∨y < 0) (hF1:F (-1)=-1) (h:Ok L i x):Ok L i (isE L (F (isE L x [40])) [41]):=by
 by_cases hn:isE L (F (isE L x [40])) [41]=-1
 ·exact Or.inl hn
 ·obtain ⟨he,h0,h1,hb⟩:=isE_pos (by decide) hn
  rw [he]
  by_cases hm:isE L x [40]=-1
  ·rw [hm,hF1] at h0
   omega
  ·obtain ⟨he2,h2,h3,hb2⟩:=isE_pos (by decide) hm
   rw [he2] at h0 h1 hb ⊢
   rcases hF (x+1) with hf | hf
   ·rcases hf with hf | hf | hf
    ·omega
    ·omega
    ·rcases h with h | h | h
     ·omega
     ·omega
     ·exact Or.inr (Or.inr (h.trans (skips_wrap h2 h3 hb2 hf h1 hb).1))
   ·omega
theorem item_form (ho:isW (sgAt L i) [40]=true) (hp:plainS (sgAt L (i+1))) (h:Ok L (i+2) x):Item L i (isE L x [41]):=by
 obtain ⟨h0,h1⟩:=sgAt_open ho
 by_cases hn:isE L x [41]=-1
 ·exact Or.inl hn
 ·obtain ⟨he,h2,h3,hb⟩:=isE_pos (by decide) hn
  rw [he]
  rcases h with h | h | h
  ·omega
  ·omega
  ·have h4:i+1 < (L.length:Int):=by obtain ⟨_,a,b,_⟩:=h;omega
   have hs:=(skips_one (by omega) h4 hp).trans (by rw [show i+1+1=i+2 by omega];exact h)
   exact Or.inr (skips_wrap h0 h1 ho hs h3 hb)
end
def Fine (L:List ByteArray) (r:Nat→Int→Int):Prop:=Good L r∧(∀ m j,m < 4→Item L j (r m j))∧∀ m j,4≤m→0≤j→Ok L j (r m j)
section
variable {L:List ByteArray} {r:Nat→Int→Int} {i x:Int}
theorem Fine.ok (hr:Fine L r) (m:Nat) (h:Ok L i x):Ok L i (r m x):=by
 by_cases hm:m < 4
 ·have hE:=hr.1.1 m x hm
  rcases h with rfl | h | h
  ·unfold Ends at hE;left;omega
  ·unfold Ends at hE;left;omega
  ·rcases hr.2.1 m x hm with hk | hk
   ·exact Or.inl hk
   ·exact Or.inr (Or.inr (h.trans hk.1))
 ·rcases h with rfl | h | h
  ·have hE:=hr.1.2 m (-1) (by omega) (by omega)
   unfold Fw at hE;left;omega
  ·have hE:=hr.1.2 m x (by omega) (by omega)
   unfold Fw at hE
   rcases hE with hE | hE
   ·exact Or.inl hE
   ·exact Or.inr (Or.inl (by omega))
  ·rcases hr.2.2 m x (by omega) (by have:=h.1;have:=h.2.1;omega) with hk | hk | hk
   ·exact Or.inl hk
   ·exact Or.inr (Or.inl hk)
   ·exact Or.inr (Or.inr (h.trans hk))
theorem Fine.any (hr:Fine L r) (m:Nat) (hm:4≤m) (y:Int):Ok L y (r m y)∨y < 0:=by
 by_cases hy:0≤y
 ·exact Or.inl (hr.2.2 m y hm hy)
 ·exact Or.inr (by omega)
theorem Fine.none (hr:Fine L r) (m:Nat) (hm:4≤m):r m (-1)=-1:=by
 have hE:=hr.1.2 m (-1) hm (by omega)
 unfold Fw at hE
 omega
theorem op_plain {s:ByteArray} (h:opB s=true):plainS s:=by
 have hm:=(opB_iff s).mp h
 simp only [opsL,List.mem_cons,List.not_mem_nil,or_false] at hm
 rcases hm with rfl | rfl | rfl | rfl | rfl | rfl <;> exact ⟨by rw [isW_lit];decide,by rw [isW_lit];decide⟩
theorem word_plain {s:ByteArray} {c:List UInt8} (h:isW s c=true) (h1:(c == [40])=false) (h2:(c == [41])=false):plainS s:=⟨isW_other h h1,isW_other h h2⟩
theorem ok_name_paren (hr:Fine L r) (h:Ok L i x):Ok L i (isE L (r 5 (nmE L (isE L x [40]))) [41]) :=
 ok_paren (F:=fun y=>r 5 (nmE L y)) (fun y=>by
  by_cases hy:0≤y
  ·exact Or.inl (hr.ok 5 (ok_nm (ok_at hy)))
  ·exact Or.inr (by omega)) (by
   show r 5 (nmE L (-1))=-1
   have:nmE L (-1)=-1:=by
    have:=nmE_ends (L:=L) (i:=-1) (x:=-1) (Or.inl rfl)
    unfold Ends at this;omega
   rw [this];exact hr.none 5 (by decide)) h
theorem ok_many_paren (hr:Fine L r) (h:Ok L i x):Ok L i (isE L (r 7 (isE L x [40])) [41]) :=
 ok_paren (F:=r 7) (hr.any 7 (by decide)) (hr.none 7 (by decide)) h
theorem sumS_item (hr:Fine L r) (i:Int):Item L i (sumS L r i):=by
 unfold sumS
 split
 ·rename_i ho
  obtain ⟨h0,h1⟩:=sgAt_open ho
  have hs:Ok L (i+2) (i+2):=ok_at (by omega)
  split
  ·rename_i hw
   refine item_form ho ?_ (hr.ok _ hs)
   rw [Bool.or_eq_true,Bool.or_eq_true] at hw
   rcases hw with (hw | hw) | hw
   ·exact op_plain hw
   ·exact word_plain hw (by decide) (by decide)
   ·exact word_plain hw (by decide) (by decide)
  ·split
   ·rename_i hw
    exact item_form ho (word_plain hw (by decide) (by decide)) (hr.ok _ (ok_many_paren hr hs))
   ·split
    ·rename_i hw
     exact item_form ho (word_plain hw (by decide) (by decide)) (hr.ok _ (hr.ok _ hs))
    ·split
     ·rename_i hw
      rw [Bool.or_eq_true] at hw
      refine item_form ho ?_ (hr.ok _ hs)
      rcases hw with hw | hw <;> exact word_plain hw (by decide) (by decide)
     ·split
      ·rename_i hw
       exact item_form ho (word_plain hw (by decide) (by decide)) hs
      ·split
       ·rename_i hw
        exact item_form ho (word_plain hw (by decide) (by decide)) (hr.ok _ (ok_nm hs))
       ·exact item_no
 ·rename_i ho
  split
  ·rename_i hw
   by_cases hin:0≤i∧i < (L.length:Int)
   ·have hp:=one_plain (Bool.eq_false_iff.mpr ho) hw
    exact Or.inr ⟨skips_one hin.1 hin.2 hp,item_one hin.1 hin.2 hp⟩
   ·rw [sgAt_out hin,oneB_nil] at hw
    exact absurd hw (by decide)
  ·exact item_no
theorem deedH_item (hr:Fine L r) (ho:isW (sgAt L i) [40]=true):Item L i (deedH L r (sgAt L (i+1)) (i+2)):=by
 obtain ⟨h0,h1⟩:=sgAt_open ho
 have hs:Ok L (i+2) (i+2):=ok_at (by omega)
 by_cases hp:plainS (sgAt L (i+1))
 ·unfold deedH
  repeat' (first | exact item_no | with_reducible refine item_ite ?_ ?_ | (refine item_form ho hp ?_;repeat' (first | exact hs | refine ok_nm ?_ | refine ok_name_paren hr ?_ | refine hr.ok _ ?_)))
 ·have hw:∀ c:List UInt8,(c == [40])=false→(c == [41])=false→isW (sgAt L (i+1)) c=false:=fun c a b=>Bool.eq_false_iff.mpr fun h=>hp (word_plain h a b)
  unfold deedH
  rw [hw _ (by decide) (by decide),hw _ (by decide) (by decide),hw _ (by decide) (by decide),hw _ (by decide) (by decide),hw _ (by decide) (by decide),hw _ (by decide) (by decide),hw _ (by decide) (by decide),hw _ (by decide) (by decide),hw _ (by decide) (by decide),hw _ (by decide) (by decide),hw _ (by decide) (by decide),hw _ (by decide) (by decide),hw _ (by decide) (by decide),hw _ (by decide) (by decide),hw _ (by decide) (by decide),hw _ (by decide) (by decide),hw _ (by decide) (by decide)]
  exact item_no
theorem deedS_item (hr:Fine L r) (f:Bool) (i:Int):Item L i (deedS L r f i):=by
 unfold deedS
 split
 ·rename_i ho
  split
  ·exact item_no
  ·exact deedH_item hr ho
 ·exact item_no
theorem nm_item (i:Int):Item L i (nmE L i):=by
 by_cases hn:nmE L i=-1
 ·exact Or.inl hn
 ·obtain ⟨he,h0,h1,hb⟩:=nmE_pos hn
  rw [he]
  exact Or.inr ⟨skips_one h0 h1 (nm_plain hb),item_one h0 h1 (nm_plain hb)⟩
theorem parS_item (hr:Fine L r) (i:Int):Item L i (parS L r i):=by
 unfold parS
 split
 ·rename_i ho
  obtain ⟨h0,h1⟩:=sgAt_open ho
  by_cases hn:nmE L (i+1)=-1
  ·have hz:r 0 (-1)=-1:=by have:=hr.1.1 0 (-1) (by decide);unfold Ends at this;omega
   rw [hn,hz]
   exact Or.inl (isE_neg (by decide) (by omega))
  ·obtain ⟨he,_,_,hb⟩:=nmE_pos hn
   rw [he,show i+1+1=i+2 by omega]
   exact item_form ho (nm_plain hb) (hr.ok _ (ok_at (by omega)))
 ·exact nm_item i
theorem oneS_item (hr:Fine L r) (what:Nat) (i:Int):Item L i (oneS L r what i):=by
 unfold oneS
 repeat' split
 ·exact hr.2.1 0 i (by decide)
 ·exact nm_item i
 ·exact hr.2.1 1 i (by decide)
 ·exact hr.2.1 3 i (by decide)
theorem manyS_ok (hr:Fine L r) (what:Nat) {i:Int} (h:0≤i):Ok L i (manyS L r what i):=by
 unfold manyS
 split
 ·exact ok_at h
 ·exact hr.ok _ (oneS_item hr what i).ok
theorem sumsS_ok (hr:Fine L r) (k:Nat) {i:Int} (h:0≤i):Ok L i (sumsS r k i):=by
 cases k with
 | zero=>exact ok_at h
 | succ k =>
  show Ok L i (if i < 0 then i else r (8+k) (r 0 i))
  rw [if_neg (by omega)]
  exact hr.ok _ (hr.2.1 0 i (by decide)).ok
end
theorem frm_fine (L:List ByteArray):∀ n,Fine L (frm L n)
 | 0=>⟨frm_good L 0,fun _ _ _=>item_no,fun _ _ _ _=>Or.inl rfl⟩
 | n+1=>by
  have hr:=frm_fine L n
  refine ⟨frm_good L (n+1),fun m j hm=>?_,fun m j hm hj=>?_⟩
  ·unfold frm
   obtain rfl | rfl | rfl | rfl:m=0∨m=1∨m=2∨m=3:=by omega
   ·exact sumS_item hr j
   ·exact deedS_item hr true j
   ·exact deedS_item hr false j
   ·exact parS_item hr j
  ·unfold frm
   rw [if_neg (by omega),if_neg (by omega),if_neg (by omega),if_neg (by omega)]
   split
   ·exact manyS_ok hr _ hj
   ·exact sumsS_ok hr _ hj
end Go.Proofs.YtdgihicpjonjgaaGreatDoor
namespace Go.Proofs.YtdgihicpjonjgaaGreatDoor
open Go.RowKit
set_option maxHeartbeats 4000000 in
set_option maxRecDepth 100000 in
theorem l4Words_any (w:World) :
  Calls Tryz.prog 146 #[] w fun e w'=>e=.returned (.slice (some ⟨w.heap.size,0,none⟩) 26 26)∧Txt w.heap.size 0 wordsL w'∧Below w.heap.size w w':=by
 go_enter Tryz.func146,Tryz.ntmps146
 go_wp2
 go_ret
 refine ⟨rfl,fun i hi=>?_,by go_grown⟩
 have h26:i < 26:=hi
 match i,h26 with
 | 0,_ | 1,_ | 2,_ | 3,_ | 4,_ | 5,_ | 6,_ | 7,_ | 8,_ | 9,_ | 10,_ | 11,_ | 12,_ | 13,_ | 14,_ | 15,_ | 16,_ | 17,_ | 18,_ | 19,_ | 20,_ | 21,_ | 22,_ | 23,_ | 24,_ | 25,_=>simp [wordsL,go_sem]
 | n+26,h=>exact absurd h (by omega)
set_option maxHeartbeats 1000000 in
theorem reservedS_any (s:ByteArray) (w:World) :
  Calls Tryz.prog 128 #[.string s] w fun e w'=>e=.returned (.bool (resB s))∧Below w.heap.size w w':=by
 go_enter Tryz.func128,Tryz.ntmps128
 go_wp2_with fail
 refine (l4Words_any _).mono ?_
 rintro e w1 ⟨rfl,hT,hb⟩
 go_wp2_with fail
 refine (l1At_any _ 0 26 wordsL s _ hT (by decide)).mono ?_
 rintro e w2 ⟨x,rfl,hx,rfl⟩
 have HX:Hid (decide (0≤x)=resB s):=by
  show decide (0≤x)=resB s
  rw [Bool.eq_iff_iff,decide_eq_true_iff,resB_iff]
  exact hx
 clear hx
 go_wp2
 go_ret
 exact ⟨by rw [← HX.out];rfl,hb⟩
set_option maxHeartbeats 1000000 in
theorem l4Name_any (s:ByteArray) (w:World) (hs:s.size≤maxLen) :
  Calls Tryz.prog 105 #[.string s] w fun e w'=>e=.returned (.bool (nmB s))∧Below w.heap.size w w':=by
 cases hn:nameB s
 ·have HN:Hid (nameB s=false):=hn
  have HB:Hid (nmB s=false):=(by unfold nmB;rw [hn];rfl:nmB s=false)
  clear hn
  go_enter Tryz.func105,Tryz.ntmps105
  go_wp2_with fail
  refine (nameOkS_any s _ hs).mono ?_
  rintro e w1 ⟨rfl,rfl⟩
  rw [HN.out]
  go_wp2
  go_ret
  exact ⟨by rw [HB.out];rfl,Below.refl _ _⟩
 ·have HN:Hid (nameB s=true):=hn
  have HB:Hid (nmB s=!resB s):=(by unfold nmB;rw [hn];rfl:nmB s=!resB s)
  clear hn
  go_enter Tryz.func105,Tryz.ntmps105
  go_wp2_with fail
  refine (nameOkS_any s _ hs).mono ?_
  rintro e w1 ⟨rfl,rfl⟩
  rw [HN.out]
  go_wp2_with fail
  refine (reservedS_any s _).mono ?_
  rintro e w2 ⟨rfl,hb⟩
  generalize resB s=q at HB ⊢
  go_wp2
  go_ret
  exact ⟨by rw [HB.out];rfl,hb⟩
theorem sgAt_size {w:World} {a:Option Addr} {L:List ByteArray} (h:ArgT w a L) (i:Int):(sgAt L i).size≤maxLen:=by
 by_cases hin:0≤i∧i < (L.length:Int)
 ·rw [sgAt_in hin.1 hin.2]
  obtain ⟨_,_,_,_,_,hm⟩:=h i.toNat (by omega)
  exact hm
 ·rw [sgAt_out hin]
  exact Nat.zero_le _
set_option maxHeartbeats 1000000 in
theorem l4Sign_any (a:Option Addr) (cap:Nat) (L:List ByteArray) (i:Int) (w:World) (h:ArgT w a L) (_hL:L.length≤1048576) (hi:I64 i) :
  Calls Tryz.prog 52 #[.slice a L.length cap,.int .i64 i] w fun e w'=>e=.returned (.string (sgAt L i))∧Below w.heap.size w w':=by
 obtain ⟨hi0,hi1⟩:=hi
 by_cases h0:i < 0
 ·have HS:Hid (sgAt L i=⟨#[]⟩):=sgAt_out (by omega)
  go_enter Tryz.func52,Tryz.ntmps52
  go_wp2
  go_ret
  exact ⟨by rw [HS.out];rfl,Below.refl _ _⟩
 by_cases h1:(L.length:Int)≤i
 ·have HS:Hid (sgAt L i=⟨#[]⟩):=sgAt_out (by omega)
  go_enter Tryz.func52,Tryz.ntmps52
  go_wp2
  go_ret
  exact ⟨by rw [HS.out];rfl,Below.refl _ _⟩
 obtain ⟨k,rfl⟩:∃ k:Nat,i=(k:Int):=⟨i.toNat,by omega⟩
 have hk:k < L.length:=by omega
 have HS:Hid (sgAt L (k:Int)=L[k]):=(by rw [sgAt_in (by omega) (by omega)];rfl:sgAt L (k:Int)=L[k])
 obtain ⟨sb,off,rfl,hs,hc,hm⟩:=h k hk
 generalize L[k]=t at hc HS
 go_enter Tryz.func52,Tryz.ntmps52
 go_wp2
 go_ret
 exact ⟨by rw [HS.out];rfl,Below.refl _ _⟩
set_option maxHeartbeats 1000000 in
theorem l4Is_any (a:Option Addr) (cap:Nat) (L:List ByteArray) (i:Int) (c:List UInt8) (w:World) (h:ArgT w a L) (hL:L.length≤1048576) (hi:I64 i) (hc:c≠[]) :
  Calls Tryz.prog 53 #[.slice a L.length cap,.int .i64 i,.string ⟨c.toArray⟩] w fun e w'=>e=.returned (.int .i64 (isE L i c))∧Below w.heap.size w w':=by
 have hcl:(⟨c.toArray⟩:ByteArray).toList=c:=by rw [ByteArray.toList_eq]
 cases hw:isW (sgAt L i) c
 ·have HE:Hid (isE L i c=-1):=(by unfold isE;rw [hw];rfl:isE L i c=-1)
  have hb:((sgAt L i).toList == (⟨c.toArray⟩:ByteArray).toList)=false:=by rw [hcl];exact hw
  clear hw hcl
  go_enter Tryz.func53,Tryz.ntmps53
  go_wp2_with fail
  refine (l4Sign_any a cap L i _ h hL hi).mono ?_
  rintro e w1 ⟨rfl,hb1⟩
  generalize sgAt L i=t at hb
  generalize (⟨c.toArray⟩:ByteArray)=u at hb
  go_wp2
  go_ret
  exact ⟨by rw [HE.out];rfl,hb1⟩
 ·have hin:0≤i∧i < (L.length:Int):=by
   by_cases hin:0≤i∧i < (L.length:Int)
   ·exact hin
   ·rw [sgAt_out hin,isW_nil c hc] at hw
    exact absurd hw (by decide)
  obtain ⟨hin0,hin1⟩:=hin
  have HE:Hid (isE L i c=i+1):=(by unfold isE;rw [hw];rfl:isE L i c=i+1)
  have HW:Hid (sgAt L i=⟨c.toArray⟩):=isW_eq hw
  clear hw hcl
  go_enter Tryz.func53,Tryz.ntmps53
  go_wp2_with fail
  refine (l4Sign_any a cap L i _ h hL hi).mono ?_
  rintro e w1 ⟨rfl,hb1⟩
  rw [HW.out]
  generalize (⟨c.toArray⟩:ByteArray)=u
  go_wp2
  go_ret
  exact ⟨by rw [HE.out];rfl,hb1⟩
set_option maxHeartbeats 1000000 in
theorem l4NameEnd_any (a:Option Addr) (cap:Nat) (L:List ByteArray) (i:Int) (w:World) (h:ArgT w a L) (hL:L.length≤1048576) (hi:I64 i) :
  Calls Tryz.prog 55 #[.slice a L.length cap,.int .i64 i] w fun e w'=>e=.returned (.int .i64 (nmE L i))∧Below w.heap.size w w':=by
 cases hw:nmB (sgAt L i)
 ·have HE:Hid (nmE L i=-1):=(by unfold nmE;rw [hw];rfl:nmE L i=-1)
  have HW:Hid (nmB (sgAt L i)=false):=hw
  clear hw
  go_enter Tryz.func55,Tryz.ntmps55
  go_wp2_with fail
  refine (l4Sign_any a cap L i _ h hL hi).mono ?_
  rintro e w1 ⟨rfl,hb1⟩
  go_wp2_with fail
  refine (l4Name_any (sgAt L i) _ (sgAt_size h i)).mono ?_
  rintro e w2 ⟨rfl,hb2⟩
  rw [HW.out]
  go_wp2
  go_ret
  exact ⟨by rw [HE.out];rfl,bstep hb1 hb2⟩
 ·have hin:=nmE_ends (L:=L) (i:=0) (x:=i)
  have hin2:0≤i∧i < (L.length:Int):=by
   by_cases hin:0≤i∧i < (L.length:Int)
   ·exact hin
   ·rw [sgAt_out hin] at hw
    unfold nmB at hw
    rw [nameB_nil] at hw
    exact absurd hw (by decide)
  obtain ⟨hin0,hin1⟩:=hin2
  clear hin
  have HE:Hid (nmE L i=i+1):=(by unfold nmE;rw [hw];rfl:nmE L i=i+1)
  have HW:Hid (nmB (sgAt L i)=true):=hw
  clear hw
  go_enter Tryz.func55,Tryz.ntmps55
  go_wp2_with fail
  refine (l4Sign_any a cap L i _ h hL hi).mono ?_
  rintro e w1 ⟨rfl,hb1⟩
  go_wp2_with fail
  refine (l4Name_any (sgAt L i) _ (sgAt_size h i)).mono ?_
  rintro e w2 ⟨rfl,hb2⟩
  rw [HW.out]
  go_wp2
  go_ret
  exact ⟨by rw [HE.out];rfl,bstep hb1 hb2⟩
end Go.Proofs.YtdgihicpjonjgaaGreatDoor
namespace Go.Proofs.YtdgihicpjonjgaaGreatDoor
open Go.RowKit
def Sg (L:List ByteArray) (i x:Int):Prop:=x=-1∨∀ k,i≤k→k < x→signB (sgAt L k)=true
section
variable {L:List ByteArray} {i x:Int}
theorem sg_at:Sg L i i:=Or.inr fun k h1 h2=>absurd h2 (by omega)
theorem sg_no:Sg L i (-1):=Or.inl rfl
theorem sg_ite {c:Prop} [Decidable c] {y:Int} (h1:Sg L i x) (h2:Sg L i y):Sg L i (if c then x else y):=by split <;> assumption
theorem Sg.trans {y:Int} (h:Sg L i x) (hn:x=-1→y=-1) (k:Sg L x y):Sg L i y:=by
 rcases h with h | h
 ·exact Or.inl (hn h)
 ·rcases k with k | k
  ·exact Or.inl k
  ·exact Or.inr fun j h1 h2=>if hj:j < x then h j h1 hj else k j (by omega) h2
theorem sg_isE {c:List UInt8} (hc:c≠[]) (hs:signB ⟨c.toArray⟩=true) (h:Sg L i x):Sg L i (isE L x c):=by
 by_cases hn:isE L x c=-1
 ·exact Or.inl hn
 ·obtain ⟨he,h0,h1,hb⟩:=isE_pos hc hn
  rw [he]
  refine Or.inr fun k h2 h3=>?_
  by_cases hk:k < x
  ·rcases h with h | h
   ·omega
   ·exact h k h2 hk
  ·have:k=x:=by omega
   subst this
   rw [isW_eq hb]
   exact hs
theorem sign_name {s:ByteArray} (h:nameB s=true):signB s=true:=sign_yes (kind_name ((nameB_iff s).mp h)) (by decide)
theorem sign_nm {s:ByteArray} (h:nmB s=true):signB s=true:=by
 unfold nmB at h
 rw [Bool.and_eq_true] at h
 exact sign_name h.1
theorem sign_op {s:ByteArray} (h:opB s=true):signB s=true:=sign_yes (kind_mark ((mem_ops s).mp ((opB_iff s).mp h))) (by decide)
theorem sign_one {s:ByteArray} (h:oneB s=true):signB s=true:=by
 unfold oneB at h
 rw [Bool.or_eq_true,Bool.or_eq_true,Bool.or_eq_true] at h
 rcases h with ((h | h) | h) | h
 ·exact sign_yes (kind_numer ((numerB_iff s).mp h)) (by decide)
 ·exact sign_yes (kind_quot ((quotB_iff s).mp h)) (by decide)
 ·rw [isW_eq h]
  decide +kernel
 ·exact sign_nm h
theorem sg_nm (h:Sg L i x):Sg L i (nmE L x):=by
 by_cases hn:nmE L x=-1
 ·exact Or.inl hn
 ·obtain ⟨he,h0,h1,hb⟩:=nmE_pos hn
  rw [he]
  refine Or.inr fun k h2 h3=>?_
  by_cases hk:k < x
  ·rcases h with h | h
   ·omega
   ·exact h k h2 hk
  ·have:k=x:=by omega
   subst this
   exact sign_nm hb
theorem sign40:signB ⟨#[40]⟩=true:=by decide +kernel
theorem sign41:signB ⟨#[41]⟩=true:=by decide +kernel
theorem sg_form (ho:isW (sgAt L i) [40]=true) (hp:signB (sgAt L (i+1))=true) (h:Sg L (i+2) x):Sg L i x:=by
 rcases h with h | h
 ·exact Or.inl h
 ·refine Or.inr fun k h2 h3=>?_
  by_cases h4:k=i
  ·subst h4
   rw [isW_eq ho]
   exact sign40
  ·by_cases h5:k=i+1
   ·subst h5;exact hp
   ·exact h k (by omega) h3
end
def Clean (L:List ByteArray) (r:Nat→Int→Int):Prop:=Good L r∧∀ m j,-1≤j→Sg L j (r m j)
section
variable {L:List ByteArray} {r:Nat→Int→Int} {i x:Int}
theorem Clean.none (hr:Clean L r) (m:Nat):r m (-1)=-1:=by
 by_cases hm:m < 4
 ·have hE:=hr.1.1 m (-1) hm
  unfold Ends at hE
  omega
 ·have hE:=hr.1.2 m (-1) (by omega) (by omega)
  unfold Fw at hE
  omega
theorem Clean.sg (hr:Clean L r) (m:Nat) (hx:-1≤x) (h:Sg L i x):Sg L i (r m x):=h.trans (fun e=>by rw [e];exact hr.none m) (hr.2 m x hx)
theorem Clean.lo (hr:Clean L r) (m:Nat) (hx:-1≤x):-1≤r m x:=by
 by_cases hm:m < 4
 ·have hE:=hr.1.1 m x hm
  unfold Ends at hE
  omega
 ·have hE:=hr.1.2 m x (by omega) hx
  unfold Fw at hE
  omega
theorem isE_lo {c:List UInt8} (hx:-1≤x):-1≤isE L x c:=by unfold isE;split <;> omega
theorem nmE_lo (hx:-1≤x):-1≤nmE L x:=by unfold nmE;split <;> omega
theorem word_sign {s:ByteArray} {c:List UInt8} (h:isW s c=true) (hs:signB ⟨c.toArray⟩=true):signB s=true:=by rw [isW_eq h];exact hs
theorem sumS_sg (hr:Clean L r) (hi:-1≤i):Sg L i (sumS L r i):=by
 have hs:Sg L (i+2) (i+2):=sg_at
 have hl:-1≤i+2:=by omega
 unfold sumS
 split
 ·rename_i ho
  split
  ·rename_i hw
   rw [Bool.or_eq_true,Bool.or_eq_true] at hw
   refine sg_form ho ?_ (sg_isE (by decide) sign41 (hr.sg _ hl hs))
   rcases hw with (hw | hw) | hw
   ·exact sign_op hw
   ·exact word_sign hw (by decide +kernel)
   ·exact word_sign hw (by decide +kernel)
  ·split
   ·rename_i hw
    refine sg_form ho (word_sign hw (by decide +kernel)) (sg_isE (by decide) sign41 (hr.sg _ (isE_lo (hr.lo _ (isE_lo hl))) (sg_isE (by decide) sign41 (hr.sg _ (isE_lo hl) (sg_isE (by decide) sign40 hs)))))
   ·split
    ·rename_i hw
     exact sg_form ho (word_sign hw (by decide +kernel)) (sg_isE (by decide) sign41 (hr.sg _ (hr.lo _ hl) (hr.sg _ hl hs)))
    ·split
     ·rename_i hw
      rw [Bool.or_eq_true] at hw
      refine sg_form ho ?_ (sg_isE (by decide) sign41 (hr.sg _ hl hs))
      rcases hw with hw | hw <;> exact word_sign hw (by decide +kernel)
     ·split
      ·rename_i hw
       exact sg_form ho (word_sign hw (by decide +kernel)) (sg_isE (by decide) sign41 hs)
      ·split
       ·rename_i hw
        exact sg_form ho (word_sign hw (by decide +kernel)) (sg_isE (by decide) sign41 (hr.sg _ (nmE_lo hl) (sg_nm hs)))
       ·exact sg_no
 ·split
  ·rename_i hw
   refine Or.inr fun k h1 h2=>?_
   have:k=i:=by omega
   subst this
   exact sign_one hw
  ·exact sg_no
theorem deedH_sg (hr:Clean L r) (ho:isW (sgAt L i) [40]=true) (hi:-1≤i) (hp:signB (sgAt L (i+1))=true):Sg L i (deedH L r (sgAt L (i+1)) (i+2)):=by
 have hs:Sg L (i+2) (i+2):=sg_at
 have hl:-1≤i+2:=by omega
 refine sg_form ho hp ?_
 unfold deedH
 repeat' (first | exact sg_no | with_reducible refine sg_ite ?_ ?_ | exact hs | exact hl | refine sg_isE (by decide) sign41 ?_ | refine sg_isE (by decide) sign40 ?_ | refine sg_nm ?_ | refine hr.sg _ ?_ ?_ | refine hr.lo _ ?_ | refine isE_lo ?_ | refine nmE_lo ?_)
theorem deedS_sg (hr:Clean L r) (f:Bool) (hi:-1≤i):Sg L i (deedS L r f i):=by
 unfold deedS
 split
 ·rename_i ho
  split
  ·exact sg_no
  ·cases hp:signB (sgAt L (i+1))
   ·have hw:∀ c:List UInt8,signB ⟨c.toArray⟩=true→isW (sgAt L (i+1)) c=false:=fun c a=>Bool.eq_false_iff.mpr fun h=>by
     rw [word_sign h a] at hp
     exact absurd hp (by decide)
    unfold deedH
    rw [hw _ (by decide +kernel),hw _ (by decide +kernel),hw _ (by decide +kernel),hw _ (by decide +kernel),hw _ (by decide +kernel),hw _ (by decide +kernel),hw _ (by decide +kernel),hw _ (by decide +kernel),hw _ (by decide +kernel),hw _ (by decide +kernel),hw _ (by decide +kernel),hw _ (by decide +kernel),hw _ (by decide +kernel),hw _ (by decide +kernel),hw _ (by decide +kernel),hw _ (by decide +kernel),hw _ (by decide +kernel)]
    exact sg_no
   ·exact deedH_sg hr ho hi hp
 ·exact sg_no
theorem parS_sg (hr:Clean L r) (hi:-1≤i):Sg L i (parS L r i):=by
 unfold parS
 split
 ·rename_i ho
  have h1:Sg L i (i+1):=Or.inr fun k h1 h2=>by
   have:k=i:=by omega
   subst this
   rw [isW_eq ho]
   exact sign40
  exact sg_isE (by decide) sign41 (hr.sg _ (nmE_lo (by omega)) (sg_nm h1))
 ·exact sg_nm sg_at
theorem oneS_sg (hr:Clean L r) (what:Nat) (hi:-1≤i):Sg L i (oneS L r what i)∧-1≤oneS L r what i:=by
 unfold oneS
 repeat' split
 ·exact ⟨hr.2 0 i hi,hr.lo _ hi⟩
 ·exact ⟨sg_nm sg_at,nmE_lo hi⟩
 ·exact ⟨hr.2 1 i hi,hr.lo _ hi⟩
 ·exact ⟨hr.2 3 i hi,hr.lo _ hi⟩
theorem manyS_sg (hr:Clean L r) (what:Nat) (hi:-1≤i):Sg L i (manyS L r what i):=by
 unfold manyS
 split
 ·exact sg_at
 ·exact hr.sg _ (oneS_sg hr what hi).2 (oneS_sg hr what hi).1
theorem sumsS_sg (hr:Clean L r) (k:Nat) (hi:-1≤i):Sg L i (sumsS r k i):=by
 cases k with
 | zero=>exact sg_at
 | succ k =>
  show Sg L i (if i < 0 then i else r (8+k) (r 0 i))
  split
  ·exact sg_at
  ·exact hr.sg _ (hr.lo _ hi) (hr.2 0 i hi)
end
theorem frm_clean (L:List ByteArray):∀ n,Clean L (frm L n)
 | 0=>⟨frm_good L 0,fun _ _ _=>sg_no⟩
 | n+1=>by
  have hr:=frm_clean L n
  refine ⟨frm_good L (n+1),fun m j hj=>?_⟩
  unfold frm
  by_cases h0:m=0
  ·rw [if_pos h0];exact sumS_sg hr hj
  by_cases h1:m=1
  ·rw [if_neg h0,if_pos h1];exact deedS_sg hr true hj
  by_cases h2:m=2
  ·rw [if_neg h0,if_neg h1,if_pos h2];exact deedS_sg hr false hj
  by_cases h3:m=3
  ·rw [if_neg h0,if_neg h1,if_neg h2,if_pos h3];exact parS_sg hr hj
  rw [if_neg h0,if_neg h1,if_neg h2,if_neg h3]
  split
  ·exact manyS_sg hr _ hj
  ·exact sumsS_sg hr _ hj
end Go.Proofs.YtdgihicpjonjgaaGreatDoor
