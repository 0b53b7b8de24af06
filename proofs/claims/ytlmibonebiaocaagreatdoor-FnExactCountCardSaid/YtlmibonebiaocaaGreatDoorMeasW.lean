/-
  Chapter 3: the program's iterator over the signs from a place on.
-/
import Derived.Test.YtlmibonebiaocaaGreatDoorMeasP
import Derived.RangeFuncNested
import Derived.RangeFuncBound
import Derived.RangeFuncCalls
import Derived.RangeFuncLeaves
import Derived.RangeFuncFrom
import Derived.Shelf.Abstract
import Derived.Shelf.RegionOpen
import Derived.WalkKit
import Derived.OwnWalkIn
import Derived.TacticsInMore
import Derived.LoopNIn
import Derived.LoopIn
namespace Go.Proofs.YtlmibonebiaocaaGreatDoor
open Go.RowKit Go.Shelf
attribute [local go_sem] Oper.semAt_some

/-- A place and how many are open behind it. -/
abbrev Pl := { x : Int × Int // 0 ≤ x.1 ∧ x.1 ≤ 1048576 ∧ 0 ≤ x.2 ∧ x.2 ≤ 1048577 }
def encP (x : Pl) : Array Value := #[.int .i64 x.1.1, .int .i64 x.1.2]
/-- What a round keeps: all below n0, and the box of the list. -/
def KpL (n0 bl : Nat) (A B : World) : Prop := Below n0 A B ∧ B.cell? ⟨bl, 0, none⟩ = A.cell? ⟨bl, 0, none⟩
/-- Texts that lie below n0. -/
def ArgB (n0 : Nat) (W : World) (a : Option Addr) (L : List ByteArray) : Prop := ∀ i (h : i < L.length), ∃ sb off, a = some ⟨sb, off, none⟩ ∧ sb < n0 ∧ W.cell? ⟨sb, off + i, none⟩ = some (.string L[i]) ∧ L[i].size ≤ maxLen
theorem ArgB.keep {n0 : Nat} {W W' : World} {a : Option Addr} {L : List ByteArray} (h : ArgB n0 W a L) (hb : Below n0 W W') : ArgB n0 W' a L := fun i hi => by
  obtain ⟨sb, off, ha, hs, hc, hm⟩ := h i hi
  exact ⟨sb, off, ha, hs, (hb.cell (p := ⟨sb, off + i, none⟩) hs).trans hc, hm⟩
theorem ArgT.low {w : World} {a : Option Addr} {L : List ByteArray} (h : ArgT w a L) : ArgB w.heap.size w a L := fun i hi => by
  obtain ⟨sb, off, ha, hs, hc, hm⟩ := h i hi
  exact ⟨sb, off, ha, hs, hc, hm⟩

set_option maxRecDepth 100000 in
set_option maxHeartbeats 4000000 in
theorem signs1_in (n : Nat) (hn : 1 ≤ n) (l ba bl n0 : Nat) (a : Option Addr) (cap : Nat) (L : List ByteArray) (i0 : Nat) (hL : L.length ≤ 1048576) (J Jx : List Pl → World → Prop)
    (hY : ∀ pre x W, J pre W → pre.length < L.length → YieldAt Fence.wide (n - 1) Tryz.prog l (encP x) W fun e W' =>
      (e = .returned (.bool true) ∧ J (pre ++ [x]) W' ∧ KpL n0 bl W W') ∨ (e = .returned (.bool false) ∧ Jx (pre ++ [x]) W'))
    (W : World) (hba : W.cell? ⟨ba, 0, none⟩ = some (.int .i64 (i0 : Int))) (hbl : W.cell? ⟨bl, 0, none⟩ = some (.slice a L.length cap)) (hA : ArgB n0 W a L) (h0 : J [] W) :
    CallsIn Fence.wide n Tryz.prog 80 #[.func (.yield l) #[] #[], .pointer (some ⟨ba, 0, none⟩), .pointer (some ⟨bl, 0, none⟩)] W fun e W' => (∃ v, e = .returned v) ∧
      ((∃ ys : List Pl, ys.map (·.1) = seqF L (L.length + 1) i0 0 ∧ J ys W') ∨ (∃ pre : List Pl, pre.map (·.1) <+: seqF L (L.length + 1) i0 0 ∧ Jx pre W')) := by
  refine callsIn_of_wp Tryz.func80 rfl trivial ?_ rfl
  simp only [Tryz.ntmps80, List.size_toArray, List.length_cons, List.length_nil, Nat.reduceAdd, Nat.reduceSub, Array.replicate_succ, Array.replicate_zero, List.push_toArray, List.append_toArray, List.nil_append, List.cons_append]
  gi_wp2
  gi_loopw [4, 5] (fun v4 v5 wr => ∃ (k : Nat) (o : Int) (f : Nat) (pre : List Pl), v4 = .int .i64 o ∧ v5 = .int .i64 (k : Int) ∧ 0 ≤ o ∧ o ≤ (k : Int) ∧ J pre wr ∧ wr.cell? ⟨bl, 0, none⟩ = some (.slice a L.length cap) ∧ ArgB n0 wr a L ∧ L.length < k + f ∧ Hid (pre.map (·.1) ++ seqF L f k o = seqF L (L.length + 1) i0 0))
    (fun _ v5 _ => L.length + 1 - (intOf v5).toNat)
  case atStart => exact ⟨i0, 0, L.length + 1, [], rfl, rfl, Int.le_refl _, by omega, h0, hbl, hA, by omega, rfl⟩
  case round =>
    obtain ⟨k, o, f, pre, rfl, rfl, ho0, ho1, hJ, hcl, hAr, hf, HS⟩ := hrel
    by_cases hlt : k < L.length
    · obtain ⟨f, rfl⟩ : ∃ g, f = g + 1 := ⟨f - 1, by omega⟩
      obtain ⟨sb, off, rfl, hsb, hc, hm⟩ := hAr k hlt
      have hG : L.getD k ⟨#[]⟩ = L[k] := by simp [List.getD, hlt]
      cases hsg : signB L[k]
      · have HE : Hid (pre.map (·.1) = seqF L (L.length + 1) i0 0) := (by rw [← HS.out, seqF_out (by rw [hG, hsg]; simp), List.append_nil] : pre.map (·.1) = seqF L (L.length + 1) i0 0)
        have HQ : Hid (signB L[k] = false) := hsg
        clear HS hsg hG
        generalize L[k] = sg at hc hm HQ
        gi_wp2_with fail
        refine ⟨trivial, (callsIn_wide.2 (signOkI_any sg _ hm)).mono ?_⟩
        rintro e w1 ⟨rfl, rfl⟩
        rw [HQ.out]
        gi_wp2
        go_end0
        exact ⟨⟨_, rfl⟩, .inl ⟨pre, HE.out, hJ⟩⟩
      · cases h40 : isW L[k] [40]
        · cases h41 : isW L[k] [41]
          · have hop : opN L[k] o = o := by unfold opN; rw [h40, h41]; rfl
            have b40 : (L[k].toList == [40]) = false := h40
            have b41 : (L[k].toList == [41]) = false := h41
            clear h40 h41
            have hx : 0 ≤ (k : Int) ∧ (k : Int) ≤ 1048576 ∧ 0 ≤ o ∧ o ≤ 1048577 := by omega
            have HS2 : Hid ((pre ++ [(⟨((k : Int), o), hx⟩ : Pl)]).map (·.1) ++ seqF L f (k + 1) (o) = seqF L (L.length + 1) i0 0) := by
              show (pre ++ [(⟨((k : Int), o), hx⟩ : Pl)]).map (·.1) ++ seqF L f (k + 1) (o) = seqF L (L.length + 1) i0 0
              rw [← HS.out, seqF_in ⟨hlt, by rw [hG]; exact hsg, by rw [hG, hop]; omega⟩, hG, hop]
              simp
            have hpl : pre.length < L.length := by
              have h1 := seqF_len L (L.length + 1) i0 0
              rw [← HS2.out] at h1
              simp only [List.length_append, List.length_map, List.length_cons] at h1
              omega
            obtain ⟨fn, tmps, assign, body, hy, hR⟩ := hY pre ⟨((k : Int), o), hx⟩ wr hJ hpl
            dsimp only [encP] at hy
            have HQ : Hid (signB L[k] = true) := hsg

            clear HS hop hsg hG
            generalize L[k] = sg at hc hm HQ b40 b41
            gi_wp2_with fail
            refine ⟨trivial, (callsIn_wide.2 (signOkI_any sg _ hm)).mono ?_⟩
            rintro e w1 ⟨rfl, rfl⟩
            rw [HQ.out]
            gi_wp2
            refine hR.mono ?_
            rintro e W3 (⟨rfl, hJ3, hk3⟩ | ⟨rfl, hJx3⟩)
            · have hcl3 := hk3.2.trans hcl
              have hA3 := hAr.keep hk3.1
              gi_wp2
              go_roundw
              case rel => exact ⟨k + 1, o, f, _, rfl, by go_num, by omega, by omega, hJ3, hcl3, hA3, by omega, HS2.out⟩
              case measure => simp [intOf]; omega
            · gi_wp2
              refine bodyPost_ret (results_none rfl _ _ _) rfl ?_
              exact ⟨⟨_, rfl⟩, .inr ⟨_, ⟨_, HS2.out⟩, hJx3⟩⟩
          · have b40 : (L[k].toList == [40]) = false := h40
            have b41 : (L[k].toList == [41]) = true := h41
            have hop : opN L[k] o = o - 1 := by unfold opN; rw [h40, h41]; rfl
            clear h40 h41
            by_cases ho : o = 0
            · have HE : Hid (pre.map (·.1) = seqF L (L.length + 1) i0 0) := (by rw [← HS.out, seqF_out (by rw [hG, hop]; omega), List.append_nil] : pre.map (·.1) = seqF L (L.length + 1) i0 0)
              have HQ : Hid (signB L[k] = true) := hsg
              subst ho
              clear HS hsg hG hop
              generalize L[k] = sg at hc hm HQ b40 b41
              gi_wp2_with fail
              refine ⟨trivial, (callsIn_wide.2 (signOkI_any sg _ hm)).mono ?_⟩
              rintro e w1 ⟨rfl, rfl⟩
              rw [HQ.out]
              gi_wp2
              refine ⟨fun _ h => (by cases h), ?_⟩
              gi_wp2
              refine bodyPost_ret (results_none rfl _ _ _) rfl ?_
              exact ⟨⟨_, rfl⟩, .inl ⟨pre, HE.out, hJ⟩⟩
            · have ho2 : 1 ≤ o := by omega
              clear ho
              have hx : 0 ≤ (k : Int) ∧ (k : Int) ≤ 1048576 ∧ 0 ≤ o - 1 ∧ o - 1 ≤ 1048577 := by omega
              have HS2 : Hid ((pre ++ [(⟨((k : Int), o - 1), hx⟩ : Pl)]).map (·.1) ++ seqF L f (k + 1) (o - 1) = seqF L (L.length + 1) i0 0) := by
                show (pre ++ [(⟨((k : Int), o - 1), hx⟩ : Pl)]).map (·.1) ++ seqF L f (k + 1) (o - 1) = seqF L (L.length + 1) i0 0
                rw [← HS.out, seqF_in ⟨hlt, by rw [hG]; exact hsg, by rw [hG, hop]; omega⟩, hG, hop]
                simp
              have hpl : pre.length < L.length := by
                have h1 := seqF_len L (L.length + 1) i0 0
                rw [← HS2.out] at h1
                simp only [List.length_append, List.length_map, List.length_cons] at h1
                omega
              obtain ⟨fn, tmps, assign, body, hy, hR⟩ := hY pre ⟨((k : Int), o - 1), hx⟩ wr hJ hpl
              dsimp only [encP] at hy
              have HQ : Hid (signB L[k] = true) := hsg

              clear HS hop hsg hG
              generalize L[k] = sg at hc hm HQ b40 b41
              gi_wp2_with fail
              refine ⟨trivial, (callsIn_wide.2 (signOkI_any sg _ hm)).mono ?_⟩
              rintro e w1 ⟨rfl, rfl⟩
              rw [HQ.out]
              gi_wp2
              refine hR.mono ?_
              rintro e W3 (⟨rfl, hJ3, hk3⟩ | ⟨rfl, hJx3⟩)
              · have hcl3 := hk3.2.trans hcl
                have hA3 := hAr.keep hk3.1
                gi_wp2
                go_roundw
                case rel => exact ⟨k + 1, o - 1, f, _, rfl, by go_num, by omega, by omega, hJ3, hcl3, hA3, by omega, HS2.out⟩
                case measure => simp [intOf]; omega
              · gi_wp2
                refine bodyPost_ret (results_none rfl _ _ _) rfl ?_
                exact ⟨⟨_, rfl⟩, .inr ⟨_, ⟨_, HS2.out⟩, hJx3⟩⟩
        · have hop : opN L[k] o = o + 1 := by unfold opN; rw [h40]; rfl
          have b40 : (L[k].toList == [40]) = true := h40
          have b41 : True := trivial
          clear h40
          have hx : 0 ≤ (k : Int) ∧ (k : Int) ≤ 1048576 ∧ 0 ≤ o + 1 ∧ o + 1 ≤ 1048577 := by omega
          have HS2 : Hid ((pre ++ [(⟨((k : Int), o + 1), hx⟩ : Pl)]).map (·.1) ++ seqF L f (k + 1) (o + 1) = seqF L (L.length + 1) i0 0) := by
            show (pre ++ [(⟨((k : Int), o + 1), hx⟩ : Pl)]).map (·.1) ++ seqF L f (k + 1) (o + 1) = seqF L (L.length + 1) i0 0
            rw [← HS.out, seqF_in ⟨hlt, by rw [hG]; exact hsg, by rw [hG, hop]; omega⟩, hG, hop]
            simp
          have hpl : pre.length < L.length := by
            have h1 := seqF_len L (L.length + 1) i0 0
            rw [← HS2.out] at h1
            simp only [List.length_append, List.length_map, List.length_cons] at h1
            omega
          obtain ⟨fn, tmps, assign, body, hy, hR⟩ := hY pre ⟨((k : Int), o + 1), hx⟩ wr hJ hpl
          dsimp only [encP] at hy
          have HQ : Hid (signB L[k] = true) := hsg

          clear HS hop hsg hG
          generalize L[k] = sg at hc hm HQ b40
          gi_wp2_with fail
          refine ⟨trivial, (callsIn_wide.2 (signOkI_any sg _ hm)).mono ?_⟩
          rintro e w1 ⟨rfl, rfl⟩
          rw [HQ.out]
          gi_wp2
          refine hR.mono ?_
          rintro e W3 (⟨rfl, hJ3, hk3⟩ | ⟨rfl, hJx3⟩)
          · have hcl3 := hk3.2.trans hcl
            have hA3 := hAr.keep hk3.1
            gi_wp2
            go_roundw
            case rel => exact ⟨k + 1, o + 1, f, _, rfl, by go_num, by omega, by omega, hJ3, hcl3, hA3, by omega, HS2.out⟩
            case measure => simp [intOf]; omega
          · gi_wp2
            refine bodyPost_ret (results_none rfl _ _ _) rfl ?_
            exact ⟨⟨_, rfl⟩, .inr ⟨_, ⟨_, HS2.out⟩, hJx3⟩⟩
    · have HE : Hid (pre.map (·.1) = seqF L (L.length + 1) i0 0) := (by rw [← HS.out, seqF_out (fun h => hlt h.1), List.append_nil] : pre.map (·.1) = seqF L (L.length + 1) i0 0)
      clear HS
      gi_wp2
      refine ⟨trivial, ?_⟩
      gi_wp2
      go_end0
      exact ⟨⟨_, rfl⟩, .inl ⟨pre, HE.out, hJ⟩⟩

set_option maxRecDepth 100000 in
set_option maxHeartbeats 1000000 in
theorem signs1_neg (n : Nat) (l ba bl : Nat) (i : Int) (hi : i < 0) (J : List Pl → World → Prop) (W : World) (hba : W.cell? ⟨ba, 0, none⟩ = some (.int .i64 i)) (h0 : J [] W) :
    CallsIn Fence.wide n Tryz.prog 80 #[.func (.yield l) #[] #[], .pointer (some ⟨ba, 0, none⟩), .pointer (some ⟨bl, 0, none⟩)] W fun e W' => (∃ v, e = .returned v) ∧ J [] W' := by
  refine callsIn_of_wp Tryz.func80 rfl trivial ?_ rfl
  simp only [Tryz.ntmps80, List.size_toArray, List.length_cons, List.length_nil, Nat.reduceAdd, Nat.reduceSub, Array.replicate_succ, Array.replicate_zero, List.push_toArray, List.append_toArray, List.nil_append, List.cons_append]
  gi_wp2
  gi_loopw [5] (fun v5 wr => v5 = .int .i64 i ∧ J [] wr) (fun _ _ => 0)
  case atStart => exact ⟨rfl, h0⟩
  case round =>
    obtain ⟨rfl, hJ⟩ := hrel
    gi_wp2
    refine ⟨trivial, ?_⟩
    gi_wp2
    go_end0
    exact ⟨⟨_, rfl⟩, hJ⟩

/-- The signs from place i on, as they come. -/
def seqZ (L : List ByteArray) (i : Int) : List (Int × Int) := if i < 0 then [] else seqF L (L.length + 1) i.toNat 0

theorem signs_stops (n : Nat) (hn : 1 ≤ n) (ba bl n0 : Nat) (a : Option Addr) (cap : Nat) (L : List ByteArray) (i : Int) (hL : L.length ≤ 1048576) (w : World) (hba : ba < w.heap.size) (hbl : bl < w.heap.size) (hn0 : n0 ≤ w.heap.size)
    (hca : w.cell? ⟨ba, 0, none⟩ = some (.int .i64 i)) (hcl : w.cell? ⟨bl, 0, none⟩ = some (.slice a L.length cap)) (hA : ArgB n0 w a L) :
    SeqStopsK Fence.wide n Tryz.prog 80 #[.pointer (some ⟨ba, 0, none⟩), .pointer (some ⟨bl, 0, none⟩)] encP (KpL n0 bl) (fun ys => ys.map (·.1) = seqZ L i) (fun pre => pre.map (·.1) <+: seqZ L i) L.length w := fun l J Jx W hW _ _ hY h0 => by
  have hca' := (hW.cell (p := ⟨ba, 0, none⟩) hba).trans hca
  have hcl' := (hW.cell (p := ⟨bl, 0, none⟩) hbl).trans hcl
  have hA' := hA.keep (hW.mono hn0)
  by_cases hi : i < 0
  · have e : seqZ L i = [] := by unfold seqZ; rw [if_pos hi]
    rw [e]
    exact (signs1_neg n l ba bl i hi J W hca' h0).mono fun e W' ⟨he, hj⟩ => ⟨he, .inl ⟨[], rfl, hj⟩⟩
  · obtain ⟨k, rfl⟩ : ∃ k : Nat, i = (k : Int) := ⟨i.toNat, by omega⟩
    have e : seqZ L (k : Int) = seqF L (L.length + 1) k 0 := by unfold seqZ; rw [if_neg hi]; rfl
    rw [e]
    exact signs1_in n hn l ba bl n0 a cap L k hL J Jx hY W hca' hcl' hA' h0

end Go.Proofs.YtlmibonebiaocaaGreatDoor
