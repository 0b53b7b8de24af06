/-
  SignsOf, the model's: what it hands back are the pieces, in memory of its own.
-/
import Derived.Test.YtjkjjjdihccccaaCutE
import Derived.OwnWalk
namespace Go.Proofs.Ytjkjjjdihccccaa
open Go.RowKit

/-- What a page comes out as. -/
def Page (s : ByteArray) (r : List ByteArray × Bool) : Prop := if s.size ≤ 20000 then Cuts s 0 [] r else r = ([], false)
theorem Page.one {s : ByteArray} {r r' : List ByteArray × Bool} (h : Page s r) (h' : Page s r') : r = r' := by
  unfold Page at h h'
  split at h
  · rename_i q; rw [if_pos q] at h'; exact h.one h'
  · rename_i q; rw [if_neg q] at h'; rw [h, h']

/-- A list of texts that lies in memory of the call's own. -/
def OwnT (w : World) (B : Nat) (v : Value) (L : List ByteArray) : Prop := w.ownsRow B 9 1 v L.length (L.map Value.string)
theorem OwnT.call {w w' : World} {B : Nat} {v : Value} {L : List ByteArray} (h : OwnT w B v L) (hb : Below w.heap.size w w') : OwnT w' B v L := by
  refine ⟨h.1, ?_⟩
  rcases h.2 with hn | ⟨g, cap, cur, rfl, hB, hg, rest⟩
  · exact .inl hn
  · have hlt : g < w.heap.size := (Array.getElem?_eq_some_iff.1 hg).1
    exact .inr ⟨g, cap, cur, rfl, hB, (hb.block g hlt).trans hg, rest⟩
theorem OwnT.shape {w : World} {B : Nat} {v : Value} {L : List ByteArray} (h : OwnT w B v L) : ∃ a cap, v = .slice a L.length cap := by
  rcases h.2 with ⟨rfl, hn⟩ | ⟨g, cap, cur, rfl, _⟩
  · exact ⟨none, 0, by rw [hn]⟩
  · exact ⟨_, cap, rfl⟩
theorem ownT_nil (w : World) (B : Nat) : OwnT w B (.slice none 0 0) [] := World.ownsRow_nil _ _ _ _
theorem ownT_new (w : World) (B : Nat) (h : B ≤ w.heap.size) : OwnT (w.alloc (.cells #[] 9)) B (.slice (some ⟨w.heap.size, 0, none⟩) 0 0) [] :=
  World.ownsRow_made w #[] 0 h (by unfold maxLen; omega) rfl

theorem Try.infoS : (Try.prog.info? 9).map (fun i => (i.zero, i.size, i.bytes)) = some (some (.string ⟨#[]⟩), 1, 16) := by kernel_rfl

end Go.Proofs.Ytjkjjjdihccccaa
