/-
  SignsOf, the model's: what it hands back are the pieces, in memory of its own.
-/
import Derived.Test.YtmlopiphcnhcpaaCutE
import Derived.OwnWalk
namespace Go.Proofs.Ytmlopiphcnhcpaa
open Go.RowKit

/-- What a page comes out as. -/
def Page (s : ByteArray) (r : List ByteArray × Bool) : Prop := if s.size ≤ 20000 then Cuts s 0 [] r else r = ([], false)
theorem Page.one {s : ByteArray} {r r' : List ByteArray × Bool} (h : Page s r) (h' : Page s r') : r = r' := by
  unfold Page at h h'
  split at h
  · rename_i q; rw [if_pos q] at h'; exact h.one h'
  · rename_i q; rw [if_neg q] at h'; rw [h, h']

/-- A list of texts that lies in memory of the call's own. -/
def OwnT (w : World) (B : Nat) (v : Value) (L : List ByteArray) : Prop := w.ownsRow B 9 1 v L.length (L.map Value.string)
theorem OwnT.call {w w' : World} {B : Nat} {v : Value} {L : List ByteArray} (h : OwnT w B v L) (hb : Below w.heap.size w w') : OwnT w' B v L := by
  refine ⟨h.1, ?_⟩
  rcases h.2 with hn | ⟨g, cap, cur, rfl, hB, hg, rest⟩
  · exact .inl hn
  · have hlt : g < w.heap.size := (Array.getElem?_eq_some_iff.1 hg).1
    exact .inr ⟨g, cap, cur, rfl, hB, (hb.block g hlt).trans hg, rest⟩
theorem OwnT.shape {w : World} {B : Nat} {v : Value} {L : List ByteArray} (h : OwnT w B v L) : ∃ a cap, v = .slice a L.length cap := by
  rcases h.2 with ⟨rfl, hn⟩ | ⟨g, cap, cur, rfl, _⟩
  · exact ⟨none, 0, by rw [hn]⟩
  · exact ⟨_, cap, rfl⟩
theorem ownT_nil (w : World) (B : Nat) : OwnT w B (.slice none 0 0) [] := World.ownsRow_nil _ _ _ _
theorem ownT_new (w : World) (B : Nat) (h : B ≤ w.heap.size) : OwnT (w.alloc (.cells #[] 9)) B (.slice (some ⟨w.heap.size, 0, none⟩) 0 0) [] :=
  World.ownsRow_made w #[] 0 h (by unfold maxLen; omega) rfl

theorem Try.infoS : (Try.prog.info? 9).map (fun i => (i.zero, i.size, i.bytes)) = some (some (.string ⟨#[]⟩), 1, 16) := by kernel_rfl

set_option maxHeartbeats 4000000 in
theorem signsS_any (s : ByteArray) (w : World) (hs : s.size ≤ 1048576) :
    Calls Try.prog 13 #[.string s] w fun e w' => ∃ v b L, e = .returned (.tuple #[v, .bool b]) ∧ OwnT w' w.heap.size v L ∧ Below w.heap.size w w' ∧ L.length ≤ 2000 ∧ Page s (L, b) := by
  have hml : s.size ≤ maxLen := by unfold maxLen; omega
  by_cases hbig : 20000 < s.size
  · have HP : Hid (Page s ([], false)) := (by unfold Page; rw [if_neg (by omega)] : Page s ([], false))
    have h0 : ((0 : Int) == (s.size : Int)) = false := by simp; omega
    go_enter Try.func13, Try.ntmps13
    go_wp2
    refine wp_loop_rounds 1 ?_
    rw [rounds_succ]
    go_wp2
    go_ret2
    exact ⟨_, _, [], rfl, ownT_new w _ (Nat.le_refl _), balloc (Below.refl _ _) _, by simp, HP.out⟩
  have HPG : Hid (∀ r, Cuts s 0 [] r → Page s r) := fun r h => by unfold Page; rw [if_pos (by omega)]; exact h
  have hsz : s.size ≤ 20000 := by omega
  obtain ⟨i0, hi, hz0, hz1, hz2⟩ := info_parts Try.infoS
  go_enter Try.func13, Try.ntmps13
  go_wp2
  go_loopw [4, 5] (fun v i wr => ∃ (k : Nat) (L : List ByteArray), k ≤ s.size ∧ i = .int .i64 (k : Int) ∧ L.length ≤ 2000 ∧ OwnT wr w.heap.size v L ∧ Below w.heap.size w wr ∧ Hid (∀ r, Cuts s k L r → Cuts s 0 [] r)) (fun _ i _ => s.size - (intOf i).toNat)
  case atStart => exact ⟨0, [], Nat.zero_le _, rfl, by simp, ownT_new w _ (Nat.le_refl _), balloc (Below.refl _ _) _, fun r h => h⟩
  case round =>
    obtain ⟨k, L, hk, rfl, hL, hown, hB, HC⟩ := hrel
    obtain ⟨a, cap, rfl⟩ := hown.shape
    have hbs := hB.size
    by_cases hlt : k < s.size
    · have eb := byt_eq hlt
      cases hbl : blankB (byt s k)
      · obtain ⟨he0, he1⟩ := endN_bd hlt
        have n1 : ((s[k].toNat : Int) == 32) = false := by simp [blankB] at hbl; simp; omega
        have n2 : ((s[k].toNat : Int) == 10) = false := by simp [blankB] at hbl; simp; omega
        have hx : (s.extract k (endN s k)).size ≤ maxLen := by unfold maxLen; simp; omega
        cases hsg : signB (s.extract k (endN s k))
        · have HR : Hid (Page s ([], false)) := HPG.out _ (HC.out _ (cuts_bad hlt hbl (Or.inr hsg)))
          have HS : Hid (signB (s.extract k (endN s k)) = false) := hsg
          clear eb hsg
          go_wp2_with fail
          refine (l2End_any s k _ hs hlt hbl).mono ?_
          rintro e w1 ⟨rfl, rfl⟩
          clear hbl
          generalize hE : endN s k = E at *
          clear hE
          go_wp2_with fail
          refine (signOkS_any _ _ hx).mono ?_
          rintro e w2 ⟨rfl, hb⟩
          rw [HS.out]
          go_wp2
          go_ret2
          have hB2 := bstep hB hb
          exact ⟨_, _, [], rfl, ownT_new _ _ hB2.size, balloc hB2 _, by simp, HR.out⟩
        · have HS : Hid (signB (s.extract k (endN s k)) = true) := hsg
          clear eb hsg
          by_cases hfull : L.length = 2000
          · have HR : Hid (Page s ([], false)) := HPG.out _ (HC.out _ (cuts_bad hlt hbl (Or.inl hfull)))
            have hf2 : ((L.length : Int) == 2000) = true := by simp; omega
            go_wp2_with fail
            refine (l2End_any s k _ hs hlt hbl).mono ?_
            rintro e w1 ⟨rfl, rfl⟩
            clear hbl hfull
            generalize hE : endN s k = E at *
            clear hE
            go_wp2_with fail
            refine (signOkS_any _ _ hx).mono ?_
            rintro e w2 ⟨rfl, hb⟩
            rw [HS.out]
            go_wp2
            go_ret2
            have hB2 := bstep hB hb
            exact ⟨_, _, [], rfl, ownT_new _ _ hB2.size, balloc hB2 _, by simp, HR.out⟩
          · have HN : Hid (∀ r, Cuts s (endN s k) (L ++ [s.extract k (endN s k)]) r → Cuts s 0 [] r) := fun r h => HC.out r (cuts_piece hlt hbl hfull HS.out h)
            have hf2 : ((L.length : Int) == 2000) = false := by simp; omega
            have hL2 : L.length < 2000 := by omega
            go_wp2_with fail
            refine (l2End_any s k _ hs hlt hbl).mono ?_
            rintro e w1 ⟨rfl, rfl⟩
            clear hbl hfull HC
            generalize hE : endN s k = E at *
            clear hE
            go_wp2_with fail
            refine (signOkS_any _ _ hx).mono ?_
            rintro e w2 ⟨rfl, hb⟩
            rw [HS.out]
            have hB2 := bstep hB hb
            have hown2 := hown.call hb
            have hz2' := hB2.size
            clear hb hown hB
            go_wp2_with (at_builtin; refine wpList_append_own _ rfl (.tmp 44) (.tmp 49) 24 rfl w.heap.size 9 i0 (.string ⟨#[]⟩) 1 16 Try.underlying24 hi hz0 hz1 hz2 rfl (by decide) _ _ _ rfl (World.ownsRow.alloc hown2 _) ⟨w2.heap.size, 0, none⟩ 1 1 [.string (s.extract k E)] rfl rfl ?c1 ?c2 ?c3 ?c4 ?c5 ?_)
            case c1 =>
              intro j u hj
              match j, hj with
              | 0, hj => simp at hj; subst hj; simp [Addr.add]
            case c2 => intro u hu; simp at hu; subst hu; rfl
            case c3 => unfold maxLen; omega
            case c4 => omega
            case c5 => simp; omega
            intro v' w3 hown' hgrow _
            have hR : OwnT w3 w.heap.size v' (L ++ [s.extract k E]) := by
              unfold OwnT
              rw [List.map_append, List.length_append]
              exact hown'
            have hB3 : Below w.heap.size w w3 := (balloc hB2 _).grown hgrow (by simp; omega) (fun k hk => (World.ownsRow.lt hown2 k hk).1)
            clear hown' hgrow hown2 hB2
            go_wp2
            go_roundw
            case rel => exact ⟨E, L ++ [s.extract k E], he1, rfl, by simp; omega, hR, hB3, HN⟩
            case measure => simp [intOf]; omega
      · have HN : Hid (∀ r, Cuts s (k + 1) L r → Cuts s 0 [] r) := fun r h => HC.out r (cuts_blank hlt hbl h)
        have hor : (((s[k].toNat : Int) == 32) = true) ∨ (((s[k].toNat : Int) == 32) = false ∧ ((s[k].toNat : Int) == 10) = true) := by
          simp [blankB] at hbl
          by_cases c : (s[k].toNat : Int) = 32
          · left; simp; omega
          · right; simp; omega
        clear eb hbl HC
        rcases hor with n1 | ⟨n1, n2⟩
        all_goals
          go_wp2
          go_roundw
          case rel => exact ⟨k + 1, L, by omega, by go_num, hL, hown, hB, HN⟩
          case measure => simp [intOf]; omega
    · have ek : k = s.size := by omega
      have HR : Hid (Page s (L, true)) := HPG.out _ (HC.out _ (cuts_end L (by omega)))
      have he : ((k : Int) == (s.size : Int)) = true := by simp; omega
      clear HC ek
      go_wp2
      go_ret2
      exact ⟨_, _, L, rfl, hown, hB, hL, HR.out⟩

end Go.Proofs.Ytmlopiphcnhcpaa
