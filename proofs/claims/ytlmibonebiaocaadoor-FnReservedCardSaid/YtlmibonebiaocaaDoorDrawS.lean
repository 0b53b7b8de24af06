/-
  The model's draws of texts that may be signs: some short text; the cursor stays a cursor; nothing else has turned.
-/
import Derived.Test.YtlmibonebiaocaaDoorDrawX
import Derived.Test.YtlmibonebiaocaaDoorSignK
namespace Go.Proofs.YtlmibonebiaocaaDoor
open Go.RowKit

theorem Txt.but {c B off : Nat} {L : List ByteArray} {w w1 : World} (h : Txt B off L w) (hB : B < w.heap.size) (hn : B ≠ c) (hb : But c w w1) : Txt B off L w1 := fun i hi => (hb.cell B _ hB hn).trans (h i hi)

/-- What l2DrawSign draws from. -/
def drawL : List ByteArray := [⟨#[40]⟩, ⟨#[41]⟩, ⟨#[120]⟩, ⟨#[118, 49, 50]⟩, ⟨#[110, 111, 110, 101]⟩, ⟨#[55]⟩, ⟨#[45, 53]⟩, ⟨#[39, 97, 98, 39]⟩, ⟨#[39, 39]⟩, ⟨#[43]⟩, ⟨#[45]⟩, ⟨#[38]⟩, ⟨#[108, 101, 116]⟩, ⟨#[102, 110]⟩, ⟨#[39, 97, 32, 98, 39]⟩]
theorem drawL_size : ∀ i (h : i < drawL.length), drawL[i].size ≤ 10 := by decide
/-- What l2DrawAny draws from. -/
def drawM : List ByteArray := [⟨#[]⟩, ⟨#[65]⟩, ⟨#[120, 95, 121]⟩, ⟨#[48, 48, 55]⟩, ⟨#[39, 97]⟩, ⟨#[97, 98, 99, 100, 101, 102, 103, 104]⟩, ⟨#[97, 98, 99, 100, 101, 102, 103, 104, 105]⟩, ⟨#[45]⟩, ⟨#[45, 45]⟩, ⟨#[39, 65, 39]⟩, ⟨#[49, 97]⟩, ⟨#[49, 48, 48, 48, 48, 48, 48, 48, 48, 48]⟩]
theorem drawM_size : ∀ i (h : i < drawM.length), drawM[i].size ≤ 10 := by decide

theorem txt_new (w : World) (L : List ByteArray) (T : TypeId) : Txt w.heap.size 0 L (w.alloc (.cells (L.map Value.string).toArray T)) := fun i hi => by
  simp [go_sem, hi]

set_option maxHeartbeats 1000000 in
theorem l2DrawSign_any (c : Nat) (a : Option Addr) (len cap : Nat) (w : World) (hcur : Cur c a len cap w) (hlen : len ≤ maxLen) :
    Calls Tryd.prog 22 #[.pointer (some ⟨c, 0, none⟩)] w fun e w' => ∃ s : ByteArray, e = .returned (.string s) ∧ s.size ≤ 10 ∧ But c w w' ∧ Cur c a len cap w' := by
  have hcz := hcur.lt
  have hT := txt_new w drawL 9
  have hz : w.heap.size < (w.alloc (.cells (drawL.map Value.string).toArray 9)).heap.size := by simp
  go_enter Tryd.func22, Tryd.ntmps22
  go_wp2_with fail
  refine (l1Below_any c a len cap 15 _ (hcur.alloc _) hlen (by decide) (by decide)).mono ?_
  rintro e w1 ⟨x, rfl, hx0, hx1, hb, hc⟩
  replace hT := hT.but hz (by omega) hb
  obtain ⟨k, rfl⟩ : ∃ k : Nat, x = k := ⟨x.toNat, by omega⟩
  have hk : k < drawL.length := by show k < 15; omega
  have hcell := hT k hk
  rw [Nat.zero_add] at hcell
  have hsz := drawL_size k hk
  generalize drawL[k] = t at hcell hsz
  clear hT hz hk
  go_wp2
  go_ret
  exact ⟨_, rfl, hsz, ((But.refl c w).alloc _).call hb, hc⟩

set_option maxHeartbeats 1000000 in
theorem l2DrawAny_any (c : Nat) (a : Option Addr) (len cap : Nat) (w : World) (hcur : Cur c a len cap w) (hlen : len ≤ maxLen) :
    Calls Tryd.prog 15 #[.pointer (some ⟨c, 0, none⟩)] w fun e w' => ∃ s : ByteArray, e = .returned (.string s) ∧ s.size ≤ 10 ∧ But c w w' ∧ Cur c a len cap w' := by
  go_enter Tryd.func15, Tryd.ntmps15
  go_wp2_with fail
  refine (l1Once_any c a len cap 6 _ hcur hlen (by decide) (by decide)).mono ?_
  rintro e w1 ⟨b, rfl, hb1, hc1⟩
  have hcz := hc1.lt
  cases b
  · go_wp2_with fail
    refine (l2DrawSign_any c a len cap _ hc1 hlen).mono ?_
    rintro e w2 ⟨s, rfl, hs, hb2, hc2⟩
    go_wp2
    go_ret
    exact ⟨_, rfl, hs, hb1.call hb2, hc2⟩
  · have hT := txt_new w1 drawM 9
    have hz : w1.heap.size < (w1.alloc (.cells (drawM.map Value.string).toArray 9)).heap.size := by simp
    go_wp2_with fail
    refine (l1Below_any c a len cap 12 _ (hc1.alloc _) hlen (by decide) (by decide)).mono ?_
    rintro e w2 ⟨x, rfl, hx0, hx1, hb, hc⟩
    replace hT := hT.but hz (by omega) hb
    obtain ⟨k, rfl⟩ : ∃ k : Nat, x = k := ⟨x.toNat, by omega⟩
    have hk : k < drawM.length := by show k < 12; omega
    have hcell := hT k hk
    rw [Nat.zero_add] at hcell
    have hsz := drawM_size k hk
    generalize drawM[k] = t at hcell hsz
    clear hT hz hk
    go_wp2
    go_ret
    exact ⟨_, rfl, hsz, (hb1.alloc _).call hb, hc⟩

end Go.Proofs.YtlmibonebiaocaaDoor
