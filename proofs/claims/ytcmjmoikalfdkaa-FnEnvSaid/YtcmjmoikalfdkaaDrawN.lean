/-
  The cursor of a law that draws, and its draws of texts that may be signs (parted from DrawX and DrawS, for seats without chapter 1).
-/
import Derived.Test.YtcmjmoikalfdkaaDrawB
import Derived.Test.YtcmjmoikalfdkaaSignK
import Derived.RegionTactic
import Derived.BigRegion
namespace Go.Proofs.Ytcmjmoikalfdkaa
open Go.RowKit

set_option maxHeartbeats 1000000 in
theorem l1New_any (a : Option Addr) (len cap : Nat) (w : World) (hcode : Code w.heap.size a len w) (hlen : len ≤ 4096) :
    Calls Try.prog 79 #[.slice a len cap] w fun e w' => e = .returned (.pointer (some ⟨w.heap.size, 0, none⟩)) ∧ Below w.heap.size w w' ∧ Cur w.heap.size a len cap w' := by
  go_enter Try.func79, Try.ntmps79
  go_wp2
  go_loop [3, 4] (fun v3 v4 => ∃ (h : Int) (i : Nat), v3 = .int .i64 h ∧ v4 = .int .i64 (i : Int) ∧ i ≤ len) (fun _ v4 => len - (intOf v4).toNat)
  case atStart => exact ⟨_, 0, rfl, rfl, Nat.zero_le _⟩
  case round =>
    obtain ⟨h, i, rfl, rfl, hi⟩ := hrel
    by_cases hlt : i < len
    · obtain ⟨sb, off, x, rfl, hs, hx, hx0, hx1⟩ := hcode i hlt
      have hlt' : (i : Int) < (len : Int) := by omega
      go_wp2
      go_round
      case rel => exact ⟨_, i + 1, rfl, by go_num, by omega⟩
      case measure => simp [intOf]; omega
    · have hlt' : ¬ (i : Int) < (len : Int) := by omega
      go_wp2
      go_ret
      refine ⟨rfl, balloc (Below.refl _ _) _, 0, h, ?_, ?_, ?_, Nat.zero_le _, ?_, ?_, ?_, by simp, ?_⟩
      iterate 6 (simp [go_sem])
      intro j hj
      obtain ⟨sb, off, x, ha, hs, hx, hx0, hx1⟩ := hcode j hj
      exact ⟨sb, off, x, ha, hs, (((Below.refl w.heap.size w).alloc (Nat.le_refl _) _).cell (p := ⟨sb, off + j, none⟩) hs).trans hx, hx0, hx1⟩

theorem Code.up {B B' : Nat} {a : Option Addr} {len : Nat} {w w1 : World} (h : Code B a len w) (hB : B ≤ B') (hb : Below B w w1) : Code B' a len w1 := fun j hj => by
  obtain ⟨sb, off, x, ha, hs, hx, h0, h1⟩ := h j hj
  exact ⟨sb, off, x, ha, by omega, (hb.cell (p := ⟨sb, off + j, none⟩) hs).trans hx, h0, h1⟩

/-- laws.big. -/
theorem big_any (a : Option Addr) (len cap : Nat) (w : World) :
    Calls Try.prog 15 #[.slice a len cap] w fun e w' => e = .returned (.bool (decide ((4096 : Int) < len))) ∧ w' = w := by
  go_enter Try.func15, Try.ntmps15
  go_wp2
  go_ret
  exact ⟨rfl, rfl⟩

theorem Txt.but {c B off : Nat} {L : List ByteArray} {w w1 : World} (h : Txt B off L w) (hB : B < w.heap.size) (hn : B ≠ c) (hb : But c w w1) : Txt B off L w1 := fun i hi => (hb.cell B _ hB hn).trans (h i hi)

/-- What l2DrawSign draws from. -/
def drawL : List ByteArray := [⟨#[40]⟩, ⟨#[41]⟩, ⟨#[120]⟩, ⟨#[118, 49, 50]⟩, ⟨#[110, 111, 110, 101]⟩, ⟨#[55]⟩, ⟨#[45, 53]⟩, ⟨#[39, 97, 98, 39]⟩, ⟨#[39, 39]⟩, ⟨#[43]⟩, ⟨#[45]⟩, ⟨#[38]⟩, ⟨#[108, 101, 116]⟩, ⟨#[102, 110]⟩, ⟨#[39, 97, 32, 98, 39]⟩]
theorem drawL_size : ∀ i (h : i < drawL.length), drawL[i].size ≤ 10 := by decide
/-- What l2DrawAny draws from. -/
def drawM : List ByteArray := [⟨#[]⟩, ⟨#[65]⟩, ⟨#[120, 95, 121]⟩, ⟨#[48, 48, 55]⟩, ⟨#[39, 97]⟩, ⟨#[97, 98, 99, 100, 101, 102, 103, 104]⟩, ⟨#[97, 98, 99, 100, 101, 102, 103, 104, 105]⟩, ⟨#[45]⟩, ⟨#[45, 45]⟩, ⟨#[39, 65, 39]⟩, ⟨#[49, 97]⟩, ⟨#[49, 48, 48, 48, 48, 48, 48, 48, 48, 48]⟩]
theorem drawM_size : ∀ i (h : i < drawM.length), drawM[i].size ≤ 10 := by decide

theorem txt_new (w : World) (L : List ByteArray) (T : TypeId) : Txt w.heap.size 0 L (w.alloc (.cells (L.map Value.string).toArray T)) := fun i hi => by
  simp [go_sem, hi]

set_option maxHeartbeats 1000000 in
theorem l2DrawSign_any (c : Nat) (a : Option Addr) (len cap : Nat) (w : World) (hcur : Cur c a len cap w) (hlen : len ≤ maxLen) :
    Calls Try.prog 95 #[.pointer (some ⟨c, 0, none⟩)] w fun e w' => ∃ s : ByteArray, e = .returned (.string s) ∧ s.size ≤ 10 ∧ But c w w' ∧ Cur c a len cap w' := by
  have hcz := hcur.lt
  have hT := txt_new w drawL 9
  have hz : w.heap.size < (w.alloc (.cells (drawL.map Value.string).toArray 9)).heap.size := by simp
  go_enter Try.func95, Try.ntmps95
  go_wp2_with fail
  refine (l1Below_any c a len cap 15 _ (hcur.alloc _) hlen (by decide) (by decide)).mono ?_
  rintro e w1 ⟨x, rfl, hx0, hx1, hb, hc⟩
  replace hT := hT.but hz (by omega) hb
  obtain ⟨k, rfl⟩ : ∃ k : Nat, x = k := ⟨x.toNat, by omega⟩
  have hk : k < drawL.length := by show k < 15; omega
  have hcell := hT k hk
  rw [Nat.zero_add] at hcell
  have hsz := drawL_size k hk
  generalize drawL[k] = t at hcell hsz
  clear hT hz hk
  go_wp2
  go_ret
  exact ⟨_, rfl, hsz, ((But.refl c w).alloc _).call hb, hc⟩

set_option maxHeartbeats 1000000 in
theorem l2DrawAny_any (c : Nat) (a : Option Addr) (len cap : Nat) (w : World) (hcur : Cur c a len cap w) (hlen : len ≤ maxLen) :
    Calls Try.prog 101 #[.pointer (some ⟨c, 0, none⟩)] w fun e w' => ∃ s : ByteArray, e = .returned (.string s) ∧ s.size ≤ 10 ∧ But c w w' ∧ Cur c a len cap w' := by
  go_enter Try.func101, Try.ntmps101
  go_wp2_with fail
  refine (l1Once_any c a len cap 6 _ hcur hlen (by decide) (by decide)).mono ?_
  rintro e w1 ⟨b, rfl, hb1, hc1⟩
  have hcz := hc1.lt
  cases b
  · go_wp2_with fail
    refine (l2DrawSign_any c a len cap _ hc1 hlen).mono ?_
    rintro e w2 ⟨s, rfl, hs, hb2, hc2⟩
    go_wp2
    go_ret
    exact ⟨_, rfl, hs, hb1.call hb2, hc2⟩
  · have hT := txt_new w1 drawM 9
    have hz : w1.heap.size < (w1.alloc (.cells (drawM.map Value.string).toArray 9)).heap.size := by simp
    go_wp2_with fail
    refine (l1Below_any c a len cap 12 _ (hc1.alloc _) hlen (by decide) (by decide)).mono ?_
    rintro e w2 ⟨x, rfl, hx0, hx1, hb, hc⟩
    replace hT := hT.but hz (by omega) hb
    obtain ⟨k, rfl⟩ : ∃ k : Nat, x = k := ⟨x.toNat, by omega⟩
    have hk : k < drawM.length := by show k < 12; omega
    have hcell := hT k hk
    rw [Nat.zero_add] at hcell
    have hsz := drawM_size k hk
    generalize drawM[k] = t at hcell hsz
    clear hT hz hk
    go_wp2
    go_ret
    exact ⟨_, rfl, hsz, (hb1.alloc _).call hb, hc⟩

end Go.Proofs.Ytcmjmoikalfdkaa
