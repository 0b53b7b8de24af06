import Derived.Test.YtdgihicpjonjgaaGreatDoorZBase
import Derived.Laws.OwnMore
namespace Go.Proofs.YtdgihicpjonjgaaGreatDoor
open Go.RowKit
structure Nxt (S S':Nat→Prop) (w w':World):Prop where
  os:w'.os=w.os
  tape:w'.tape=w.tape
  output:w'.output=w.output
  size:w.heap.size≤w'.heap.size
  block:∀ k,k < w.heap.size→¬ S k→w'.heap[k]?=w.heap[k]?
  sub:∀ k,S' k→S k∨w.heap.size≤k
section
variable {S S' S'':Nat→Prop} {w w' w'':World}
theorem Nxt.refl (S:Nat→Prop) (w:World):Nxt S S w w:=⟨rfl,rfl,rfl,Nat.le_refl _,fun _ _ _=>rfl,fun _ h=>Or.inl h⟩
theorem Nxt.trans (h:Nxt S S' w w') (k:Nxt S' S'' w' w''):Nxt S S'' w w'' :=
  ⟨k.os.trans h.os,k.tape.trans h.tape,k.output.trans h.output,Nat.le_trans h.size k.size,
   fun i hi hn=>(k.block i (Nat.lt_of_lt_of_le hi h.size) (fun hs=>(h.sub i hs).elim hn (fun hx=>by omega))).trans (h.block i hi hn),
   fun i hs=>(k.sub i hs).elim (fun hx=>h.sub i hx) (fun hx=>Or.inr (Nat.le_trans h.size hx))⟩
theorem Nxt.of_below (S:Nat→Prop) (h:Below w.heap.size w w'):Nxt S S w w':=⟨h.os,h.tape,h.output,h.size,fun k hk _=>h.block k hk,fun _ hs=>Or.inl hs⟩
theorem Nxt.cell (h:Nxt S S' w w') {b:Nat} (o:Nat) (hb:b < w.heap.size) (hn:¬ S b):w'.cell? ⟨b,o,none⟩=w.cell? ⟨b,o,none⟩:=World.cell?_of_block (w:=w) (a:=⟨b,o,none⟩) (h.block b hb hn)
theorem Nxt.frozen (h:Nxt S S' w w') {b:Nat} (o:Nat) (hb:b < w.heap.size) (hn:¬ S b):w'.frozen? ⟨b,o,none⟩=w.frozen? ⟨b,o,none⟩:=World.frozen?_of_block (w:=w) (a:=⟨b,o,none⟩) (h.block b hb hn)
theorem Nxt.not (h:Nxt S S' w w') {b:Nat} (hb:b < w.heap.size) (hn:¬ S b):¬ S' b:=fun hs=>(h.sub b hs).elim hn (fun hx=>by omega)
theorem Nxt.grown (S:Nat→Prop) {row:Option Nat} (hg:w.grownBy w' row) (hr:∀ k,row=some k→S k):Nxt S S w w' :=
  ⟨hg.os,hg.tape,hg.output,hg.size,fun k hk hn=>hg.block k hk (fun e=>hn (hr k e.symm)),fun _ hs=>Or.inl hs⟩
theorem Nxt.set (S:Nat→Prop) (w:World) {p:Addr} (u:Value) (hp:S p.block):Nxt S S w (w.setCell p u) :=
  ⟨rfl,rfl,rfl,by simp [World.setCell],fun k _ hn=>Below.heap_setCell w p u k (fun e=>hn (by rw [e];exact hp)),fun _ hs=>Or.inl hs⟩
theorem Nxt.below {n0:Nat} (h:Nxt S S' w w') (hl:∀ k,S k→n0≤k) (hz:n0≤w.heap.size):Below n0 w w':=⟨h.os,h.tape,h.output,h.size,fun k hk=>h.block k (by omega) (fun hs=>by have:=hl k hs;omega)⟩
theorem Nxt.mono {T:Nat→Prop} (h:Nxt S S' w w') (hT:∀ k,T k→S' k):Nxt S T w w':=⟨h.os,h.tape,h.output,h.size,h.block,fun k hk=>h.sub k (hT k hk)⟩
end
end Go.Proofs.YtdgihicpjonjgaaGreatDoor
