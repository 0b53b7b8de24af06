/-
  The law of Alike, whole: on whatever tape the machine comes to its end, and all is well.
-/
import Derived.Test.YtnndfgceehfiiaaLwH
import Derived.Test.YtnndfgceehfiiaaBsG
namespace Go.Proofs.Ytnndfgceehfiiaa
open Go.Conc Go.ConcN Go.RowKit
open Go.ConcR (Payload)

section
variable {P : Program} {Stop Stop' : Goroutine → World → Prop} {E E' : Event → Prop}
/-- Alone: nobody turns anything between two steps. -/
theorem goes_eq (hE : ∀ e, E e → E' e) (hS : ∀ g w, Stop g w → Stop' g w) : ∀ (n : Nat) (g : Goroutine) (w : World), Goes P true AtRel (DE E) Stop n g w → Goes P true Eq (DE E') Stop' n g w := by
  intro n
  induction n with
  | zero => exact fun g w h => Goes.stop fun w₁ h₁ => by subst h₁; exact hS _ _ (h w (atRel_refl w))
  | succ n ih =>
    intro g w h
    rcases h with h | ⟨hr, h⟩
    · exact Goes.stop fun w₁ h₁ => by subst h₁; exact hS _ _ (h w (atRel_refl w))
    · refine Goes.step hr fun w₁ h₁ => ?_
      subst h₁
      have hs := h w (atRel_refl w)
      cases hgo : stepG P true g w with
      | go a' w' es =>
        rw [hgo, goes_go] at hs
        rw [goes_go]
        exact ⟨fun e he => hE e (hs.1 e he), ih _ _ hs.2⟩
      | _ => rw [hgo] at hs; exact hs.elim
theorem goes_post {R : World → World → Prop} {D : World → World → Array Event → Prop} (hS : ∀ g w, Stop g w → Stop' g w) : ∀ (n : Nat) (g : Goroutine) (w : World), Goes P true R D Stop n g w → Goes P true R D Stop' n g w := by
  intro n
  induction n with
  | zero => exact fun g w h => Goes.stop fun w₁ h₁ => hS _ _ (h w₁ h₁)
  | succ n ih =>
    intro g w h
    rcases h with h | ⟨hr, h⟩
    · exact Goes.stop fun w₁ h₁ => hS _ _ (h w₁ h₁)
    · refine Goes.step hr fun w₁ h₁ => ?_
      have hs := h w₁ h₁
      cases hgo : stepG P true g w₁ with
      | go a' w' es =>
        rw [hgo, goes_go] at hs
        rw [goes_go]
        exact ⟨hs.1, ih _ _ hs.2⟩
      | _ => rw [hgo] at hs; exact hs.elim
end

/-- One who was alone all the time. -/
theorem pre_past {Wg : Nat} {t : Trace} (h : Pre Wg 0 t) : ∃ B, Past (fun _ => False) B t := by
  obtain ⟨B, hB⟩ := trace_low t
  refine ⟨B, fun said => h.ct.nr said, fun i a ha _ => .inl ?_, fun i g hg hne => ?_, h.deaf, hB⟩
  · obtain ⟨x, hx, _⟩ := touch_of ha
    have := knows_own hx
    rwa [show x.g = 0 from Nat.le_zero.1 (h.ct.gs i x hx)] at this
  · obtain ⟨op, ho, rfl⟩ := Option.map_eq_some_iff.1 hg
    exact absurd (Nat.le_zero.1 (h.ct.gs i op ho)) hne
theorem pre_leavers {P : Program} {Wg : Nat} {t : Trace} (h : Pre Wg 0 t) (a : Goroutine) : Leavers P t #[a] (fun _ => 0) :=
  ⟨fun i g hi hg => by
    have : i < 1 := by simpa using (Array.getElem?_eq_some_iff.1 hg).1
    omega, fun j hj => Deaf_absent fun b op hb e => by
    have := h.ct.gs b op hb
    have : 1 ≤ j := by simpa using hj
    omega⟩

/-- What is listed behind the join is let by. -/
theorem evL_of {Wg Ch B Q : Nat} {e : Event} (hQ : Q ≤ B) (hC : Ch < B) (h : EvC (fun b => b = Wg ∨ Q ≤ b) Ch e) : EvL (ShN Wg) B e := by
  rcases h with ⟨a, x, rfl, hb⟩ | rfl | rfl
  · refine evL_cell a x (fun ⟨z, hz, hzb⟩ => by cases hz; exact hb (.inl hzb)) ?_
    have : ¬ Q ≤ a.block := fun h => hb (.inr h)
    omega
  · exact ⟨fun x hx hs => (by obtain ⟨z, hz, _⟩ := hs; simp [MemAct.ofEvent, MemAct.touch?] at hx; subst hx; cases hz), by simp, by simp, hC⟩
  · exact ⟨fun x hx _ => (by simp [MemAct.ofEvent, MemAct.touch?] at hx), by simp, by simp, hC⟩

theorem rowF_of_block {w : World} {gg : Nat} {C : List Value} {ty : TypeId} (h : w.heap[gg]? = some (.cells C.toArray ty)) : RowF w gg C :=
  ⟨(Array.getElem?_eq_some_iff.1 h).1, fun i hi => ⟨by simp [World.cell?, h, hi], by simp [World.frozen?, h]⟩⟩

section
variable {Bad : Nat → Prop} {n0 Q B : Nat} {c : Frame} {cs : List Frame} {rv : Value} {X : World}
/-- Three receives, one after the other, beside goroutines that only leave. -/
theorem recv_chain {v1 v2 : Value} {n : Nat} {gs : Array Goroutine} {a : Goroutine} {sl : Option (Nat × Nat)} {t : Trace} {q : Nat → Nat} (hQ : Q ≤ B) (hC : n0 + 4 < B)
    (hG : Goes Try.prog true AtRel (DE (EvC (fun b => b = n0 + 6 ∨ Q ≤ b) (n0 + 4))) (Rv1 (fun b => b = n0 + 6 ∨ Q ≤ b) n0 c cs rv X v1 v2) n a X) (h0 : gs[0]? = some a) (hL : Leavers Try.prog t gs q) (hP : Past (ShN (n0 + 6)) B t) :
    ∃ (N : Nat) (gs' : Array Goroutine) (w' : World) (sl' : Option (Nat × Nat)) (t' : Trace) (q' : Nat → Nat),
      runNT Try.prog N (crowd gs X sl) t = (.next (crowd gs' w' sl'), t') ∧ gs'[0]? = some (G (c.finish rv) cs) ∧ DoneF n0 X w' ∧ Leavers Try.prog t' gs' q' ∧ Past (ShN (n0 + 6)) B t' := by
  have hD : ∀ w w' es, DE (EvC (fun b => b = n0 + 6 ∨ Q ≤ b) (n0 + 4)) w w' es → ∀ e ∈ es, EvL (ShN (n0 + 6)) B e := fun _ _ es h e he => evL_of hQ hC (h e he)
  obtain ⟨N1, gs1, a1, w1, sl1, t1, q1, r1, _, h1, ⟨s1, st1, c1, k1⟩, hL1, hP1⟩ := walk_beside hD _ n gs a X sl t q (Nat.le_refl _) h0 hL hP hG
  obtain ⟨N2, gs2, d2, sl2, t2, q2, r2, h2, hL2, hP2⟩ := beside_recv (sl := sl1) s1 st1 c1 (by simp) hC h1 hL1 hP1
  obtain ⟨N3, gs3, a3, w3, sl3, t3, q3, r3, _, h3, ⟨s3, st3, c3, k3⟩, hL3, hP3⟩ := walk_beside hD _ 60 gs2 _ _ sl2 t2 q2 (Nat.le_refl _) h2 hL2 hP2 (k1 d2)
  obtain ⟨N4, gs4, d4, sl4, t4, q4, r4, h4, hL4, hP4⟩ := beside_recv (sl := sl3) s3 st3 c3 (by simp) hC h3 hL3 hP3
  obtain ⟨N5, gs5, a5, w5, sl5, t5, q5, r5, _, h5, ⟨s5, st5, c5, k5⟩, hL5, hP5⟩ := walk_beside hD _ 60 gs4 _ _ sl4 t4 q4 (Nat.le_refl _) h4 hL4 hP4 (k3 d4)
  obtain ⟨N6, gs6, d6, sl6, t6, q6, r6, h6, hL6, hP6⟩ := beside_recv_closed (sl := sl5) s5 st5 c5 hC h5 hL5 hP5
  obtain ⟨N7, gs7, a7, w7, sl7, t7, q7, r7, _, h7, ⟨rfl, hdone⟩, hL7, hP7⟩ := walk_beside hD _ 60 gs6 _ _ sl6 t6 q6 (Nat.le_refl _) h6 hL6 hP6 (k5 d6)
  refine ⟨N1 + (N2 + (N3 + (N4 + (N5 + (N6 + N7))))), gs7, w7, sl7, t7, q7, ?_, h7, hdone, hL7, hP7⟩
  rw [runNT_add, r1]
  show runNT _ _ (crowd gs1 w1 sl1) t1 = _
  rw [runNT_add, r2]
  show runNT _ _ (crowd gs2 ((w1.at d2).setChan (n0 + 4) 2 #[v2] true 2 1 false) sl2) t2 = _
  rw [runNT_add, r3]
  show runNT _ _ (crowd gs3 w3 sl3) t3 = _
  rw [runNT_add, r4]
  show runNT _ _ (crowd gs4 ((w3.at d4).setChan (n0 + 4) 2 #[] true 2 2 false) sl4) t4 = _
  rw [runNT_add, r5]
  show runNT _ _ (crowd gs5 w5 sl5) t5 = _
  rw [runNT_add, r6]
  exact r7
end

end Go.Proofs.Ytnndfgceehfiiaa
