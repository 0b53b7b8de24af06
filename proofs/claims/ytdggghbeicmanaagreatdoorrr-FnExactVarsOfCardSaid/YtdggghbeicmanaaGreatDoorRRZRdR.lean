/-
  What a step may turn in memory; texts and numbers that lie somewhere else.
-/
import Derived.Test.YtdggghbeicmanaaGreatDoorRRZPlain
import Derived.Test.YtdggghbeicmanaaGreatDoorRRZMaps
import Derived.Test.YtdggghbeicmanaaGreatDoorRRZReadV
import Derived.Laws.OwnMore
namespace Go.Proofs.YtdggghbeicmanaaGreatDoorRR
open Go.RowKit

/-- Of what was there only what is in S has turned; what is in S' is of S, or new. -/
structure Nxt (S S' : Nat → Prop) (w w' : World) : Prop where
  os : w'.os = w.os
  tape : w'.tape = w.tape
  output : w'.output = w.output
  size : w.heap.size ≤ w'.heap.size
  block : ∀ k, k < w.heap.size → ¬ S k → w'.heap[k]? = w.heap[k]?
  sub : ∀ k, S' k → S k ∨ w.heap.size ≤ k
section
variable {S S' S'' : Nat → Prop} {w w' w'' : World}
theorem Nxt.refl (S : Nat → Prop) (w : World) : Nxt S S w w := ⟨rfl, rfl, rfl, Nat.le_refl _, fun _ _ _ => rfl, fun _ h => Or.inl h⟩
theorem Nxt.trans (h : Nxt S S' w w') (k : Nxt S' S'' w' w'') : Nxt S S'' w w'' :=
  ⟨k.os.trans h.os, k.tape.trans h.tape, k.output.trans h.output, Nat.le_trans h.size k.size,
   fun i hi hn => (k.block i (Nat.lt_of_lt_of_le hi h.size) (fun hs => (h.sub i hs).elim hn (fun hx => by omega))).trans (h.block i hi hn),
   fun i hs => (k.sub i hs).elim (fun hx => h.sub i hx) (fun hx => Or.inr (Nat.le_trans h.size hx))⟩
theorem Nxt.of_below (S : Nat → Prop) (h : Below w.heap.size w w') : Nxt S S w w' := ⟨h.os, h.tape, h.output, h.size, fun k hk _ => h.block k hk, fun _ hs => Or.inl hs⟩
theorem Nxt.cell (h : Nxt S S' w w') {b : Nat} (o : Nat) (hb : b < w.heap.size) (hn : ¬ S b) : w'.cell? ⟨b, o, none⟩ = w.cell? ⟨b, o, none⟩ := World.cell?_of_block (w := w) (a := ⟨b, o, none⟩) (h.block b hb hn)
theorem Nxt.frozen (h : Nxt S S' w w') {b : Nat} (o : Nat) (hb : b < w.heap.size) (hn : ¬ S b) : w'.frozen? ⟨b, o, none⟩ = w.frozen? ⟨b, o, none⟩ := World.frozen?_of_block (w := w) (a := ⟨b, o, none⟩) (h.block b hb hn)
theorem Nxt.not (h : Nxt S S' w w') {b : Nat} (hb : b < w.heap.size) (hn : ¬ S b) : ¬ S' b := fun hs => (h.sub b hs).elim hn (fun hx => by omega)
theorem Nxt.grown (S : Nat → Prop) {row : Option Nat} (hg : w.grownBy w' row) (hr : ∀ k, row = some k → S k) : Nxt S S w w' :=
  ⟨hg.os, hg.tape, hg.output, hg.size, fun k hk hn => hg.block k hk (fun e => hn (hr k e.symm)), fun _ hs => Or.inl hs⟩
theorem Nxt.set (S : Nat → Prop) (w : World) {p : Addr} (u : Value) (hp : S p.block) : Nxt S S w (w.setCell p u) :=
  ⟨rfl, rfl, rfl, by simp [World.setCell], fun k _ hn => Below.heap_setCell w p u k (fun e => hn (by rw [e]; exact hp)), fun _ hs => Or.inl hs⟩
theorem Nxt.below {n0 : Nat} (h : Nxt S S' w w') (hl : ∀ k, S k → n0 ≤ k) (hz : n0 ≤ w.heap.size) : Below n0 w w' := ⟨h.os, h.tape, h.output, h.size, fun k hk => h.block k (by omega) (fun hs => by have := hl k hs; omega)⟩
theorem Nxt.mono {T : Nat → Prop} (h : Nxt S S' w w') (hT : ∀ k, T k → S' k) : Nxt S T w w' := ⟨h.os, h.tape, h.output, h.size, h.block, fun k hk => h.sub k (hT k hk)⟩
end

/-- Texts that lie somewhere else; the library's tables, too. -/
def ArgS (S : Nat → Prop) (w : World) (a : Option Addr) (L : List ByteArray) : Prop := (∀ i (h : i < L.length), ∃ sb off, a = some ⟨sb, off, none⟩ ∧ sb < w.heap.size ∧ ¬ S sb ∧ w.cell? ⟨sb, off + i, none⟩ = some (.string L[i]) ∧ L[i].size ≤ maxLen) ∧ ∀ S' W, Nxt S S' w W → Tab W
theorem ArgS.nxt {S S' : Nat → Prop} {w w' : World} {a : Option Addr} {L : List ByteArray} (h : ArgS S w a L) (hb : Nxt S S' w w') : ArgS S' w' a L := ⟨fun i hi => by
  obtain ⟨sb, off, ha, hs, hn, hc, hm⟩ := h.1 i hi
  exact ⟨sb, off, ha, Nat.lt_of_lt_of_le hs hb.size, hb.not hs hn, (hb.cell _ hs hn).trans hc, hm⟩, fun S'' W hW => h.2 S'' W (hb.trans hW)⟩
theorem ArgS.tab {S : Nat → Prop} {w : World} {a : Option Addr} {L : List ByteArray} (h : ArgS S w a L) : Tab w := h.2 S w (Nxt.refl S w)
theorem ArgS.arg {S : Nat → Prop} {w : World} {a : Option Addr} {L : List ByteArray} (h : ArgS S w a L) : ArgT w a L := fun i hi => by
  obtain ⟨sb, off, ha, hs, hn, hc, hm⟩ := h.1 i hi
  exact ⟨sb, off, ha, hs, hc, hm⟩
theorem ArgS.at {S : Nat → Prop} {w : World} {a : Option Addr} {L : List ByteArray} (h : ArgS S w a L) {i : Int} (h0 : 0 ≤ i) (h1 : i < (L.length : Int)) : ∃ sb off, a = some ⟨sb, off, none⟩ ∧ w.cell? ⟨sb, off + i.toNat, none⟩ = some (.string (sgAt L i)) ∧ (sgAt L i).size ≤ maxLen ∧ sb < w.heap.size ∧ ¬ S sb := by
  obtain ⟨sb, off, ha, hs, hn, hc, hm⟩ := h.1 i.toNat (by omega)
  rw [sgAt_in h0 h1]
  exact ⟨sb, off, ha, hc, hm, hs, hn⟩
/-- Numbers that lie somewhere else. -/
def RowI (S : Nat → Prop) (w : World) (a : Option Addr) (X : List Int) : Prop := ∀ i (h : i < X.length), ∃ sb off, a = some ⟨sb, off, none⟩ ∧ sb < w.heap.size ∧ ¬ S sb ∧ w.cell? ⟨sb, off + i, none⟩ = some (.int .i64 X[i])
theorem RowI.nxt {S S' : Nat → Prop} {w w' : World} {a : Option Addr} {X : List Int} (h : RowI S w a X) (hb : Nxt S S' w w') : RowI S' w' a X := fun i hi => by
  obtain ⟨sb, off, ha, hs, hn, hc⟩ := h i hi
  exact ⟨sb, off, ha, Nat.lt_of_lt_of_le hs hb.size, hb.not hs hn, (hb.cell _ hs hn).trans hc⟩
theorem RowI.call {S : Nat → Prop} {w w' : World} {a : Option Addr} {X : List Int} (h : RowI S w a X) (hb : Below w.heap.size w w') : RowI S w' a X := h.nxt (Nxt.of_below S hb)

theorem own_kept {w w' : World} {B : Nat} {e : TypeId} {sz n : Nat} {v : Value} {xs : List Value} (h : w.ownsRow B e sz v n xs) (hk : ∀ g, v.ownBlock = some g → w'.heap[g]? = w.heap[g]?) : w'.ownsRow B e sz v n xs := by
  refine ⟨h.1, ?_⟩
  rcases h.2 with hn | ⟨g, cap, cur, rfl, hb, hgg, rest⟩
  · exact .inl hn
  · exact .inr ⟨g, cap, cur, rfl, hb, (hk g rfl).trans hgg, rest⟩

end Go.Proofs.YtdggghbeicmanaaGreatDoorRR
