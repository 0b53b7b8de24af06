/-
  Two senders and their starter: a worker's step keeps what holds, and lowers the measure.
-/
import Derived.Test.YtnndfgceehfiiaaTwoB
namespace Go.Proofs.Ytnndfgceehfiiaa
open Go.Conc Go.ConcN
open Go.ConcR (KK WgAt stA smA rd wr mk Payload DC0 Bk g_of_ofEvents bk_of_mute ofEvent_loc_mark)

theorem cap7_low {s' : Nat} (D : Nat → WD) (i m' dd' : Nat) (h : s' ≤ 7) : cap7 (upd D i ⟨s', m', dd'⟩) = upd (cap7 D) i ⟨s', m', dd'⟩ := by
  rw [cap7_upd]; simp only [Nat.min_eq_left h]
theorem mode_same {j i : Nat} {D : Nat → WD} {tag : CTag} {st sm : Int} (h : Go.ConcN.Mode j (cap7 D) tag st sm) {s' : Nat} (hs : min s' 7 = min (D i).stage 7) (m' dd' : Nat) : Go.ConcN.Mode j (cap7 (upd D i ⟨s', m', dd'⟩)) tag st sm := by
  rw [cap7_upd]
  have := h.same (i := i) m' dd'
  have e : (cap7 D i).stage = min s' 7 := hs.symm
  rw [e] at this
  exact this
theorem okW_more {Wg k : Nat} {op : MemOp} (h : OkW (ShN Wg) Own0 Rd9 k op) : OkW (ShN Wg) Own0 (Rd0 Wg) k op :=
  ⟨h.1, fun x hx => (h.2 x hx).imp id fun y => y.elim (fun z => z.elim) (fun z => z.1.elim)⟩
theorem atom_of_okW {Wg k : Nat} {op : MemOp} (h : OkW (ShN Wg) Own0 Rd9 k op) (x : Touch) (hx : op.act.touch? = some x) (_ : x.kind = .atomic) : ShN Wg x.loc :=
  (h.2 x hx).elim (fun y => y.1) fun y => y.elim (fun z => z.elim) (fun z => z.1.elim)
theorem size_aside {c : Nat} {w w' : World} (h : Aside c w w') : w'.heap.size = w.heap.size := h.size

variable [Payload]
section
variable {P : Program} {ty : TypeId} {Wg Ch C N Low : Nat} {K AnchW : Goroutine → World → Prop} {val : Nat → Value} {zv : Value} {M : Nat}
  {gs : Array Goroutine} {w : World} {sl : Option (Nat × Nat)} {j : Nat} {D : Nat → WD} {tag : CTag} {f0 d0 : Nat} {a : Goroutine} {t : Trace} {st sm : Int}

/-- Nobody waits for a value: at the channel a send meets none. -/
theorem no_takers (ha : gs[0]? = some a) (hcs : CS P ty Wg Ch C N Low K AnchW (val 1) zv M tag j f0 d0 a w) (hAr : ∀ g w, AnchW g w → g.status = .running) (hcom : Com2 P ty Wg Ch C N Low val zv M j gs w t D d0) (i : Nat) (send : Bool) :
    partners (gs.setIfInBounds i ph) Ch send = [] := by
  refine partners_nil fun k g hk => ?_
  rcases getElem?_stand gs i k g hk with ⟨_, rfl⟩ | ⟨_, hg⟩
  · exact offersAt_ph Ch send
  · cases k with
    | zero =>
      rw [ha] at hg; cases hg
      rcases hcs.status hAr with ⟨hs, _⟩ | ⟨_, rfl⟩
      · exact offersAt_of_not_blocked (by rw [hs]; simp) _ _
      · obtain ⟨_, _, _, g0, rfl, hb⟩ := hcs
        have h3 := hb w (.refl w)
        simp [offersAt, h3.2.1]
    | succ k =>
      have hlt : k < j := by have := (Array.getElem?_eq_some_iff.1 hg).1; rw [hcom.size] at this; omega
      obtain ⟨g', hg', hs⟩ := hcom.wk k hlt
      rw [hg] at hg'; cases hg'
      exact offersAt_of_not_blocked (by rcases hs.status with h | h <;> rw [h] <;> simp) _ _

set_option maxHeartbeats 1600000 in
theorem stepW2 (G : Geo2 Wg Ch C N) (hAr : ∀ g w, AnchW g w → g.status = .running)
    (ha : gs[0]? = some a) (hcs : CS P ty Wg Ch C N Low K AnchW (val 1) zv M tag j f0 d0 a w) (hcom : Com2 P ty Wg Ch C N Low val zv M j gs w t D d0) (hwg : WgAt ty Wg w st sm) (hmode : Go.ConcN.Mode j (cap7 D) tag st sm)
    {i : Nat} (hi : i < j) {g : Goroutine} (hg : gs[i + 1]? = some g) (hrun : g.status = .running) :
    ∃ m₁ ops μ', runT P (crowd gs w sl) (i + 1) = (.next m₁, ops) ∧ Lt2 μ' (phi 2 (Vc j (cap7 D)) tag + Ssum j D, f0 + 2 * Fsum j D) ∧ Inv2 P ty Wg Ch C N Low K AnchW val zv M μ' m₁ (t ++ ops) := by
  obtain ⟨g₁, hg₁, hs⟩ := hcom.wk i hi
  obtain rfl : g = g₁ := by rw [hg] at hg₁; exact Option.some.inj hg₁
  generalize hst : (D i).stage = s at hs
  generalize hfu : (D i).fuel = m at hs
  generalize hde : (D i).deaf = dd at hs
  have hj2 : j ≤ 2 := by rcases hcs.two with ⟨h1, _⟩ | ⟨h1, _⟩ <;> omega
  have hb : j + pend tag ≤ 2 := by
    rcases hcs.two with ⟨h1, h2, _⟩ | ⟨h1, h2⟩
    · rw [h2]; simp [pend]; omega
    · omega
  have hi2 : i < 2 := by omega
  have hVj := Vc_le j (cap7 D)
  have hdk : Deaf t (i + 1) = dd := by rw [hcom.deafW i hi, hde]
  have hstc : (cap7 D i).stage = min s 7 := by simp only [cap7, hst]
  have gC : C ≠ Wg := by have := G.cCh; have := G.chW; omega
  have gCh : Ch ≠ Wg := by have := G.chW; omega
  have gChC : Ch ≠ C := by have := G.cCh; omega
  -- a step of the library's bookkeeping: at most the group's block turns
  have bookG : ∀ {g' : Goroutine} {w' : World} {es : Array Event} {s' m' dd' : Nat} {st' sm' : Int}, stepG P false g w = .go g' w' es → Aside Wg w w' → WgAt ty Wg w' st' sm' → (∀ e ∈ es, Bk Wg e) →
      (∀ jx e, es[jx]? = some e → (MemAct.ofEvent e).touch? = none ∨ 0 < deafBehind dd (es.extract 0 jx)) → WSit P ty Wg C 3 Own0 Rd9 Ch (i + 1) zv s' m' dd' g' w' → deafBehind dd es = dd' → s ≤ 6 →
      (∀ tag', (tag' = tag ∨ (tag = .blk ∧ tag' = .w3)) → (mayWake P g = true → g'.status = .running → tag' ≠ .blk) → Go.ConcN.Mode j (cap7 (upd D i ⟨s', m', dd'⟩)) tag' st' sm') → ((s' < s ∧ cnt ⟨s', m', dd'⟩ ≤ cnt (D i)) ∨ (s' = s ∧ m' + 1 = m)) →
      ∃ m₁ ops μ', runT P (crowd gs w sl) (i + 1) = (.next m₁, ops) ∧ Lt2 μ' (phi 2 (Vc j (cap7 D)) tag + Ssum j D, f0 + 2 * Fsum j D) ∧ Inv2 P ty Wg Ch C N Low K AnchW val zv M μ' m₁ (t ++ ops) := by
    intro g' w' es s' m' dd' st' sm' hgo hAs hwg' hbk hd hs' hdd h6 hmode' hlt
    obtain ⟨cs, hcs1, hcs2⟩ := hcom.pay
    have h7 := (wsit_le hs').1
    exact workerGo G hAr ha hcs hcom hi hg hgo (RS.of_wg G hAs ⟨_, _, hwg'⟩) (fun _ => (RGW.of_wg (i := 1) G hAs ⟨_, _, hwg'⟩).cell) (fun i' _ _ => RGW.of_wg G hAs ⟨_, _, hwg'⟩) (.inr hs') (fun op hop => okW_more (okW_of_Bk hbk op hop)) (fun op hop x hx hk => atom_of_okW (okW_of_Bk (Own := Own0) (Rd := Rd9) hbk op hop) x hx hk) (norel_of_Bk hbk) (by rw [hde]; exact hdd)
      (fun _ => let ⟨r, hr⟩ := hcom.rel i hi (by omega); ⟨r, hr.book hdk _ _ hbk hd⟩) ⟨cs, (hAs.block C gC).trans hcs1, hcs2⟩ (hAs.block Ch gCh) (by omega) (by simp only [fuel8, hst, if_neg (show ¬ 8 ≤ s' by omega), if_neg (show ¬ 8 ≤ s by omega), hAs.size]; omega) hwg' hmode'
      (by rw [hst, hfu]; exact hlt)
  have book : ∀ {g' : Goroutine} {w' : World} {es : Array Event} {s' m' dd' : Nat} {st' sm' : Int}, stepG P false g w = .go g' w' es → Aside Wg w w' → WgAt ty Wg w' st' sm' → (∀ e ∈ es, Bk Wg e) →
      (∀ jx e, es[jx]? = some e → (MemAct.ofEvent e).touch? = none ∨ 0 < deafBehind dd (es.extract 0 jx)) → WSit P ty Wg C 3 Own0 Rd9 Ch (i + 1) zv s' m' dd' g' w' → deafBehind dd es = dd' → s ≤ 6 →
      Go.ConcN.Mode j (cap7 (upd D i ⟨s', m', dd'⟩)) tag st' sm' → ((s' < s ∧ cnt ⟨s', m', dd'⟩ ≤ cnt (D i)) ∨ (s' = s ∧ m' + 1 = m)) →
      ∃ m₁ ops μ', runT P (crowd gs w sl) (i + 1) = (.next m₁, ops) ∧ Lt2 μ' (phi 2 (Vc j (cap7 D)) tag + Ssum j D, f0 + 2 * Fsum j D) ∧ Inv2 P ty Wg Ch C N Low K AnchW val zv M μ' m₁ (t ++ ops) :=
    fun hgo hAs hwg' hbk hd hs' hdd h6 hmode' hlt => bookG hgo hAs hwg' hbk hd hs' hdd h6 (fun _ ht _ => hmode'.retag ht) hlt
  -- an idle step behind the release: nothing turns, nothing is listed
  have idle : ∀ {g' : Goroutine} {m' : Nat}, stepG P false g w = .go g' w #[] → WSit P ty Wg C 3 Own0 Rd9 Ch (i + 1) zv s m' dd g' w → m' + 1 = m → s ≤ 6 →
      ∃ m₁ ops μ', runT P (crowd gs w sl) (i + 1) = (.next m₁, ops) ∧ Lt2 μ' (phi 2 (Vc j (cap7 D)) tag + Ssum j D, f0 + 2 * Fsum j D) ∧ Inv2 P ty Wg Ch C N Low K AnchW val zv M μ' m₁ (t ++ ops) := by
    intro g' m' hgo hs' hm h6
    exact book hgo (.refl Wg w) hwg (by simp) (by simp) hs' rfl h6 (mode_same hmode (by rw [hst]) m' dd) (.inr ⟨rfl, hm⟩)
  rcases hs with ⟨h8, hd0, h⟩ | hs
  · -- on its way to its send
    rcases Goes.cases h with hstop | ⟨m', rfl, hstep⟩
    · obtain ⟨_, z, m₂, hcm, hnext⟩ := hstop w (RGW.refl w)
      obtain ⟨buf, hbuf, hok⟩ := hcom.ch
      have hsend : buf.size < 2 ∧ BufOk val (upd D i ⟨7, m₂, 0⟩ 0).stage (upd D i ⟨7, m₂, 0⟩ 1).stage (buf.push (val i)) := by
        obtain rfl | rfl : i = 0 ∨ i = 1 := by omega
        · rw [upd_same, upd_ne D _ (by decide)]; exact hok.send0 (by omega)
        · rw [upd_same, upd_ne D _ (by decide)]; exact hok.send1 (by omega)
      have hrunT := crowd_send_room (P := P) (sl := sl) (i := i + 1) hg (by simpa using hcm) hbuf hsend.1 (no_takers ha hcs hAr hcom _ _)
      rw [show MemOp.ofEvents (i + 1) g.frame.fn g.frame.place #[] = #[] from rfl, Array.empty_append, finishComm_send] at hrunT
      have hN := hcom.base
      have gN := G.wN; have g2 := G.chW; have g1 := G.cCh
      have hs1 : buf.size + 1 = (buf.push (val i)).size := by simp
      rw [hs1] at hrunT
      have hrg : ∀ i', RGW ty Wg Ch C N i' w (w.setChan Ch 2 (buf.push (val i)) false (buf.push (val i)).size 0 false) := fun i' => RGW.of_send G hN _
      refine ⟨_, _, _, hrunT, lt_worker (f' := f0) (s' := 7) (m' := m₂) (dd' := 0) hi (.inl rfl) (by omega) (.inl ⟨by omega, by simp [cnt, hst, h8]⟩), _, _, sl, j, upd D i ⟨7, m₂, 0⟩, tag, f0, d0, a, st, sm, rfl,
        by rw [Array.getElem?_setIfInBounds_ne (by omega)]; exact ha, hcs.rely (RS.of_send G hN _) (fun _ => (hrg 1).cell), ?_, hwg.of_block (setChan_block _ _ _ _ _ _ _ _ (by omega)), mode_same hmode (by rw [hst, h8]; rfl) m₂ 0, rfl⟩
      obtain ⟨cs, hcs1, hcs2⟩ := hcom.pay
      have hopg : ∀ op ∈ #[({ g := i + 1, fn := g.frame.fn, pos := g.frame.place, act := .send Ch buf.size } : MemOp), { g := i + 1, fn := g.frame.fn, pos := g.frame.place, act := .sendDone Ch buf.size }], op.g = i + 1 ∧ op.act.touch? = none ∧ (∀ m, op.act ≠ .mark m) := by
        intro op hop
        simp only [List.mem_toArray, List.mem_cons, List.not_mem_nil, or_false] at hop
        rcases hop with rfl | rfl <;> exact ⟨rfl, rfl, fun _ => by simp⟩
      refine hcom.stepW G hi (by simp) (Array.getElem?_setIfInBounds_self_of_lt (by rw [hcom.size]; omega)) (fun b hb _ => Array.getElem?_setIfInBounds_ne (fun e => hb e.symm)) (fun op hop => (hopg op hop).1) (fun i' _ _ => hrg i') (.inr (.r0 (hnext _ _)))
        (fun op hop => ⟨(hopg op hop).1, fun x hx => by rw [(hopg op hop).2.1] at hx; cases hx⟩) (fun op hop x hx => by rw [(hopg op hop).2.1] at hx; cases hx) (fun op hop => (hopg op hop).2.2 _)
        (by rw [Deaf_still t _ _ (fun op hop => ⟨(hopg op hop).2.2 _, (hopg op hop).2.2 _⟩), hdk, hd0]) (fun h => by omega)
        ⟨cs, (setChan_block _ _ _ _ _ _ _ _ gChC.symm).trans hcs1, hcs2⟩ ⟨_, setChan_same _ _ _ _ _ _ _ _ (by omega), hsend.2⟩ (by rw [setChan_size]; exact hN) (by rw [setChan_size]; simp [fuel8]) hi2
    · obtain ⟨g', w', es, hgo, hdv, hg'⟩ := hstep w (RGW.refl w)
      have hN := hcom.base
      have gN := G.wN; have g2 := G.chW; have g1 := G.cCh
      have hrg : ∀ i', RGW ty Wg Ch C N i' w w' := fun i' => RGW.of_old G hN hdv.size hdv.old
      obtain ⟨cs, hcs1, hcs2⟩ := hcom.pay
      have hev : ∀ op ∈ MemOp.ofEvents (i + 1) g.frame.fn g.frame.place es, op.g = i + 1 ∧ ∃ ad : Addr, op.act = .access ⟨.cell ad, false, false⟩ ∧ ad.block ≠ Wg := by
        intro op hop
        rw [ofEvents_eq] at hop
        obtain ⟨e, he, rfl⟩ := Array.mem_map.1 hop
        obtain ⟨ad, rfl, hne⟩ := hdv.evs e he
        exact ⟨rfl, ad, rfl, hne⟩
      have hnm : ∀ e ∈ es, ∀ mm, e.loc ≠ .mark mm := by
        intro e he mm
        obtain ⟨ad, rfl, _⟩ := hdv.evs e he
        simp
      exact workerGo G hAr ha hcs hcom hi hg hgo (RS.of_dv G hN hdv) (fun _ => (hrg 1).cell) (fun i' _ _ => hrg i') (.inl ⟨rfl, rfl, hg'⟩)
        (fun op hop => by
          obtain ⟨h1, ad, h2, h3⟩ := hev op hop
          refine ⟨h1, fun x hx => .inr (.inr ?_)⟩
          rw [h2] at hx
          simp only [MemAct.touch?, Option.some.injEq] at hx
          subst hx
          exact ⟨fun ⟨b, hb1, hb2⟩ => h3 (by cases hb1; exact hb2), rfl⟩)
        (fun op hop x hx hk => by
          obtain ⟨h1, ad, h2, h3⟩ := hev op hop
          rw [h2] at hx
          simp only [MemAct.touch?, Option.some.injEq] at hx
          subst hx
          cases hk)
        (fun e he => hnm e he _) (by rw [hde, hd0]; exact deafBehind_idle (fun e he => ⟨hnm e he _, hnm e he _⟩) 0) (fun h => by omega) ⟨cs, (hdv.old C (by omega)).trans hcs1, hcs2⟩ (hdv.old Ch (by omega)) (by omega)
        (by have := hdv.few; simp only [fuel8, hst, h8, hfu]; simp; omega) (hwg.of_block (hdv.old Wg (by omega)))
        (fun _ ht _ => Go.ConcN.Mode.retag (mode_same hmode (by rw [hst, h8]) _ _) ht) (.inr ⟨by omega, by omega⟩)
  · have hle := wsit_le hs
    cases hs with
    | r0 h =>
      rcases Goes.cases h with hstop | ⟨m', rfl, hstep⟩
      · obtain ⟨_, _, g', hgo, m₂, hk⟩ := hstop w (RW.refl w)
        refine workerGo G hAr ha hcs hcom hi hg hgo (.refl w) (fun _ => rfl) (fun _ _ _ => RGW.refl w) (.inr (.k1 hk)) (fun op hop => okW_more (okW_none (by intro e he; simp at he; subst he; rfl) op hop)) (fun op hop x hx hk => atom_of_okW (okW_none (Own := Own0) (Rd := Rd9) (Wg := Wg) (by intro e he; simp at he; subst he; rfl) op hop) x hx hk) (by intro e he; simp at he; subst he; simp [mk]) (by rw [hde]; rfl)
          (fun _ => ⟨t.size, RelBy.new hdk _ _⟩) hcom.pay rfl (by omega) (by simp only [fuel8, hst]; simp) hwg (fun _ ht _ => ?_) (.inl ⟨by omega, by simp [cnt, hst]⟩)
        rw [cap7_low _ _ _ _ (by omega)]
        exact (hmode.counted hi (by rw [hstc]; decide) (.inl rfl) _ _).retag ht
      · obtain ⟨g', w', es, hgo, ⟨hac, hev⟩, hg'⟩ := hstep w (RW.refl w)
        simp only [Nat.add_sub_cancel] at hac
        exact workerGo G hAr ha hcs hcom hi hg hgo (RS.of_cell G hac) (fun e => hac.cells 1 (by omega)) (fun i' _ e => RGW.of_cell G hac e) (.inr (.r0 hg')) (fun op hop => okW_more (okW_of_EvW hev op hop)) (fun op hop x hx hk => atom_of_okW (okW_of_EvW hev op hop) x hx hk) (fun e he => (hev e he).2.2.2)
          (by rw [hde]; exact deafBehind_idle (fun e he => ⟨(hev e he).2.1, (hev e he).2.2.1⟩) 0) (fun h => by omega) (hac.pay hcom.pay) (hac.block Ch gChC) (by omega) (by simp only [fuel8, hst, hac.size]; simp) (hwg.of_block (hac.block Wg (Ne.symm gC)))
          (fun _ ht _ => Go.ConcN.Mode.retag (mode_same hmode (by rw [hst]) _ _) ht) (.inr ⟨hst.symm, by omega⟩)
    | k1 h =>
      rcases Goes.cases h with hstop | ⟨m', rfl, hstep⟩
      · obtain ⟨_, g', hgo, m₂, hk⟩ := hstop w (RW.refl w)
        refine book hgo (.refl Wg w) hwg (by intro e he; simp at he; subst he; exact .inl rfl) (by intro jx e he; exact .inl (by have := Array.mem_of_getElem? he; simp at this; subst this; rfl)) (.d1 hk) rfl (by omega)
          ?_ (.inl ⟨by omega, by simp [cnt, hst]⟩)
        rw [cap7_low _ _ _ _ (by omega)]
        exact hmode.counted hi (by rw [hstc]; decide) (.inr rfl) _ _
      · obtain ⟨g', w', es, hgo, ⟨rfl, rfl⟩, hg'⟩ := hstep w (RW.refl w)
        exact idle hgo (.k1 hg') rfl (by omega)
    | d1 h =>
      rcases Goes.cases h with hstop | ⟨m', rfl, hstep⟩
      · obtain ⟨_, hall⟩ := hstop w (RW.refl w)
        have hc1 : cnt (cap7 D i) = 1 := by rw [cnt_cap7]; simp [cnt, hst]
        have hV1 : 1 ≤ Vc j (cap7 D) := by have := le_sumTo (f := fun x => cnt (cap7 D x)) hi; simp only [Vc]; omega
        have bk2 : ∀ e ∈ #[rd (stA Wg), wr (stA Wg)], Bk Wg e := bk_rw
        have df2 : ∀ jx e, (#[rd (stA Wg), wr (stA Wg)] : Array Event)[jx]? = some e → (MemAct.ofEvent e).touch? = none ∨ 0 < deafBehind 1 ((#[rd (stA Wg), wr (stA Wg)] : Array Event).extract 0 jx) := by
          intro jx e he
          match jx, he with
          | 0, _ => exact .inr (by simp [deafBehind])
          | 1, _ => exact .inr (by simp [deafBehind, rd])
          | jx + 2, he => simp at he
        have hq0 : ∀ q, cnt (⟨1, q, 1⟩ : WD) = 0 := fun _ => rfl
        have opq : ∀ q, OpenSt j (cap7 D) → OpenSt j (upd (cap7 D) i ⟨1, q, 1⟩) := fun q h a ha => by
          by_cases e : a = i
          · subst e; rw [upd_same]; simp
          · rw [upd_ne _ _ e]; exact h a ha
        cases hmode with
        | opn h1 h2 h3 =>
          obtain ⟨v, hv⟩ : ∃ v, Vc j (cap7 D) + pend tag = v + 1 := ⟨Vc j (cap7 D) + pend tag - 1, by omega⟩
          rw [hv] at hwg
          have hw1 : WgAt ty Wg w (((v : Nat) + 1) * KK + ((0 : Nat) : Int)) 0 := by simpa using hwg
          obtain ⟨g', hgo, _, hq⟩ := hall v 0 (by omega) (by omega) hw1
          obtain ⟨q, hq⟩ := hq (by omega)
          have hv' : Vc j (upd (cap7 D) i ⟨1, q, 1⟩) + pend tag = v := by have := Vc_upd (cap7 D) (⟨1, q, 1⟩ : WD) hi; have := hq0 q; omega
          refine book hgo (aside_setCell w (stA Wg) _) (hwg.setSt _) bk2 df2 (.quit hq) rfl (by omega) ?_ (.inl ⟨by omega, by simp [cnt]⟩)
          have e : ((v : Nat) : Int) * KK + ((0 : Nat) : Int) = ((Vc j (upd (cap7 D) i ⟨1, q, 1⟩) + pend tag : Nat) : Int) * KK := by rw [hv']; simp
          rw [e, cap7_low _ _ _ _ (by omega)]
          exact .opn h1 (opq q h2) (fun vs ev => by have := h3 vs ev; omega)
        | reg h1 h2 h3 =>
          obtain ⟨v, hv⟩ : ∃ v, Vc j (cap7 D) = v + 1 := ⟨Vc j (cap7 D) - 1, by omega⟩
          rw [hv] at hwg
          have hp : pend tag = 0 := by cases tag <;> first | rfl | exact h1.elim
          have hw1 : WgAt ty Wg w (((v : Nat) + 1) * KK + ((1 : Nat) : Int)) 0 := by simpa using hwg
          obtain ⟨g', hgo, hl, hq⟩ := hall v 1 (by omega) (by omega) hw1
          by_cases hv0 : v = 0
          · subst hv0
            obtain ⟨m₂, hk⟩ := hl ⟨rfl, rfl⟩
            refine book hgo (aside_setCell w (stA Wg) _) (hwg.setSt _) bk2 df2 (.d2 hk) rfl (by omega) ?_ (.inl ⟨by omega, by simp [cnt]⟩)
            have hoth : ∀ a, a < j → a ≠ i → (cap7 D a).stage = 1 := fun a ha e => by
              have c0 := others_uncounted hi hv hc1 a ha e
              have := h2 a ha
              simp only [cnt] at c0
              split at c0 <;> omega
            have := Go.ConcN.Mode.last (j := j) (D := upd (cap7 D) i ⟨4, m₂, 1⟩) (tag := tag) i h1 hi (by rw [upd_same]; simp) (fun a ha e => by rw [upd_ne _ _ e]; exact hoth a ha e)
            rw [upd_same] at this
            rw [cap7_low _ _ _ _ (by omega)]
            simpa using this
          · obtain ⟨q, hq⟩ := hq (by omega)
            have hv' : Vc j (upd (cap7 D) i ⟨1, q, 1⟩) = v := by have := Vc_upd (cap7 D) (⟨1, q, 1⟩ : WD) hi; have := hq0 q; omega
            refine book hgo (aside_setCell w (stA Wg) _) (hwg.setSt _) bk2 df2 (.quit hq) rfl (by omega) ?_ (.inl ⟨by omega, by simp [cnt]⟩)
            have e : ((v : Nat) : Int) * KK + ((1 : Nat) : Int) = ((Vc j (upd (cap7 D) i ⟨1, q, 1⟩) : Nat) : Int) * KK + 1 := by rw [hv']; simp
            rw [e, cap7_low _ _ _ _ (by omega)]
            exact .reg h1 (opq q h2) (by omega)
        | last L _ h2 h3 h4 =>
          by_cases e : i = L
          · subst e; rw [hstc] at h3; simp at h3
          · have := h4 i hi e; rw [hstc] at this; simp at this
        | sema h2 => have := h2 i hi; rw [hstc] at this; simp at this
        | fin _ h2 => have := h2 i hi; rw [hstc] at this; simp at this
      · obtain ⟨g', w', es, hgo, ⟨rfl, rfl⟩, hg'⟩ := hstep w (RW.refl w)
        exact idle hgo (.d1 hg') rfl (by omega)
    | d2 h =>
      rcases Goes.cases h with hstop | ⟨m', rfl, hstep⟩
      · obtain ⟨_, hx⟩ := hstop w (RW.refl w)
        obtain ⟨hW3, hoth, rfl, rfl⟩ := hmode.isLast hi (by rw [hstc]; decide)
        simp only [hstc] at hwg
        obtain ⟨g', hgo, m₂, hk⟩ := hx (by simpa using hwg)
        refine book hgo (.refl Wg w) hwg bk_rd (by intro jx e he; match jx, he with | 0, _ => exact .inr (by simp [deafBehind]) | jx + 1, he => simp at he) (.d3 hk) rfl (by omega) ?_ (.inl ⟨by omega, by simp [cnt]⟩)
        have := Go.ConcN.Mode.last (j := j) (D := upd (cap7 D) i ⟨3, m₂, 1⟩) (tag := tag) i hW3 hi (by rw [upd_same]; simp) (fun a ha e => by rw [upd_ne _ _ e]; exact hoth a ha e)
        rw [upd_same] at this
        rw [cap7_low _ _ _ _ (by omega)]
        simpa using this
      · obtain ⟨g', w', es, hgo, ⟨rfl, rfl⟩, hg'⟩ := hstep w (RW.refl w)
        exact idle hgo (.d2 hg') rfl (by omega)
    | d3 h =>
      rcases Goes.cases h with hstop | ⟨m', rfl, hstep⟩
      · obtain ⟨_, hx⟩ := hstop w (RW.refl w)
        obtain ⟨hW3, hoth, rfl, rfl⟩ := hmode.isLast hi (by rw [hstc]; decide)
        simp only [hstc] at hwg
        obtain ⟨g', hgo, m₂, hk⟩ := hx (by simpa using hwg)
        refine book hgo (aside_setCell w (stA Wg) _) (hwg.setSt 0) (by intro e he; simp at he; subst he; exact bk_cell _ _ rfl) (by intro jx e he; match jx, he with | 0, _ => exact .inr (by simp [deafBehind]) | jx + 1, he => simp at he) (.d4 hk) rfl (by omega) ?_ (.inl ⟨by omega, by simp [cnt]⟩)
        have := Go.ConcN.Mode.last (j := j) (D := upd (cap7 D) i ⟨2, m₂, 1⟩) (tag := tag) i hW3 hi (by rw [upd_same]; simp) (fun a ha e => by rw [upd_ne _ _ e]; exact hoth a ha e)
        rw [upd_same] at this
        rw [cap7_low _ _ _ _ (by omega)]
        simpa using this
      · obtain ⟨g', w', es, hgo, ⟨rfl, rfl⟩, hg'⟩ := hstep w (RW.refl w)
        exact idle hgo (.d3 hg') rfl (by omega)
    | d4 h =>
      rcases Goes.cases h with hstop | ⟨m', rfl, hstep⟩
      · obtain ⟨_, hmw, hx⟩ := hstop w (RW.refl w)
        obtain ⟨hW3, hoth, rfl, rfl⟩ := hmode.isLast hi (by rw [hstc]; decide)
        simp only [hstc] at hwg
        obtain ⟨g', hgo, q, hq⟩ := hx (by simpa using hwg)
        have hrun' : g'.status = .running := by
          cases q with
          | zero => exact absurd hq.2 (by decide)
          | succ q => exact hq.elim (fun x => absurd x.2 (by decide)) (fun x => x.1)
        refine bookG hgo (aside_setCell w (smA Wg) _) (hwg.setSm 1) (es := semEvents (smA Wg)) bk_sem ?_ (.quit hq) (by simp [deafBehind, semEvents]) (by omega) ?_ (.inl ⟨by omega, by simp [cnt]⟩)
        · intro jx e he
          match jx, he with
          | 0, he => simp [semEvents] at he; subst he; exact .inl rfl
          | 1, _ => exact .inr (by simp [deafBehind, semEvents])
          | 2, _ => exact .inr (by simp [deafBehind, semEvents])
          | 3, he => simp [semEvents] at he; subst he; exact .inl rfl
          | jx + 4, he => simp [semEvents] at he
        · intro tag' ht hw
          have hnb := hw hmw hrun'
          have e3 : tag' = .w3 := by
            rcases ht with rfl | ⟨_, rfl⟩
            · cases tag' <;> first | rfl | exact hW3.elim | exact absurd rfl hnb
            · rfl
          subst e3
          rw [cap7_low _ _ _ _ (by omega)]
          have : Go.ConcN.Mode j (upd (cap7 D) i ⟨1, q, 1⟩) .w3 0 1 := .sema fun a ha => by
            by_cases e : a = i
            · subst e; rw [upd_same]
            · rw [upd_ne _ _ e]; exact hoth a ha e
          simpa [hstc] using this
      · obtain ⟨g', w', es, hgo, ⟨rfl, rfl⟩, hg'⟩ := hstep w (RW.refl w)
        exact idle hgo (.d4 hg') rfl (by omega)
    | quit h =>
      cases m with
      | zero => rw [h.1] at hrun; cases hrun
      | succ q =>
        rcases h with ⟨hf, _⟩ | ⟨_, g', es, hmute, hstep, hq⟩
        · rw [hf] at hrun; cases hrun
        · have hbk : ∀ e ∈ es, Bk Wg e := fun e he => bk_of_mute (hmute e he)
          have hno : ∀ jx e, es[jx]? = some e → (MemAct.ofEvent e).touch? = none ∨ 0 < deafBehind dd (es.extract 0 jx) := fun jx e he => .inl (touch_mute (hmute e (Array.mem_of_getElem? he)))
          exact book (hstep w) (.refl Wg w) hwg hbk hno (.quit hq) rfl (by omega) (mode_same hmode (by rw [hst]) _ _) (.inr ⟨rfl, rfl⟩)
end

end Go.Proofs.Ytnndfgceehfiiaa
