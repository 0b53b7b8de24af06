/-
  The boxes that a law has laid, block by block: they stay as they are through calls and new blocks.
-/
import Derived.Test.YtmlopiphcnhcpaaDoorPair
namespace Go.Proofs.YtmlopiphcnhcpaaDoor
open Go.RowKit

/-- What the law has laid, block by block. -/
def Keeps (L : List (Nat × Value × Value × Value)) (x : World) : Prop := ∀ t ∈ L, Tri t.1 t.2.1 t.2.2.1 t.2.2.2 x
theorem Keeps.call {L : List (Nat × Value × Value × Value)} {W w1 : World} (h : Keeps L W) (hb : Below W.heap.size W w1) : Keeps L w1 := fun t ht => (h t ht).call hb
theorem Keeps.push {L : List (Nat × Value × Value × Value)} {W : World} (h : Keeps L W) (v0 v1 v2 : Value) (T : TypeId) : Keeps ((W.heap.size, v0, v1, v2) :: L) (W.alloc (.cells #[v0, v1, v2] T)) := fun t ht => by
  rcases List.mem_cons.1 ht with rfl | ht
  · exact tri0 W v0 v1 v2 T
  · exact (h t ht).alloc _
theorem Keeps.get {L : List (Nat × Value × Value × Value)} {x : World} (h : Keeps L x) {B : Nat} {v0 v1 v2 : Value} (hm : (B, v0, v1, v2) ∈ L) : Tri B v0 v1 v2 x := h _ hm
theorem keeps2 (w : World) (a0 a1 a2 b0 b1 b2 : Value) (T : TypeId) : Keeps [(w.heap.size + 1, b0, b1, b2), (w.heap.size, a0, a1, a2)] ((w.alloc (.cells #[a0, a1, a2] T)).alloc (.cells #[b0, b1, b2] T)) := fun t ht => by
  obtain ⟨h1, h2, _⟩ := two0 w a0 a1 a2 b0 b1 b2 T
  rcases List.mem_cons.1 ht with rfl | ht
  · exact h2
  · rcases List.mem_cons.1 ht with rfl | ht
    · exact h1
    · cases ht
end Go.Proofs.YtmlopiphcnhcpaaDoor
