/-
  Two goroutines that each send one value into a channel with room for both and say Done; their starter waits. What each suffers of the others, and where each stands.
-/
import Derived.Conc.CrowdStepC2
import Derived.Conc.Beside
import Derived.Conc.CrowdComm
namespace Go.Proofs.Ytnndfgceehfiiaa
open Go.Conc Go.ConcN
open Go.ConcR (KK WgAt stA smA rd wr mk Payload DC0 Bk)

/-- The channel: room for two, open, with what was sent so far. -/
def ChAt (Ch : Nat) (w : World) (buf : Array Value) : Prop := w.heap[Ch]? = some (.chan 2 buf false buf.size 0 false)
/-- No place is a worker's own; each place but the group's cells may be read by everybody. -/
def Own0 : Nat → Loc → Prop := fun _ _ => False
def Rd0 (Wg : Nat) : Nat → Loc → Prop := fun _ l => ¬ ShN Wg l
/-- No place at all. -/
def Rd9 : Nat → Loc → Prop := fun _ _ => False

theorem apart0 (Wg : Nat) : Apart (ShN Wg) Own0 (Rd0 Wg) := ⟨fun _ _ _ h => h.elim, fun _ _ _ h => h.elim, fun _ _ h => h.elim, fun _ _ h => h⟩

/-- Where the blocks lie: the group's payload (two cells that nobody needs), the channel, the group. -/
structure Geo2 (Wg Ch C N : Nat) : Prop where
  cCh : C < Ch
  chW : Ch < Wg
  wN : Wg < N

variable [Payload]

/-- What everybody suffers: each block that is there stays but three; the group stays one, the channel an open one, the payload its cells. -/
structure RG (ty : TypeId) (Wg Ch C N : Nat) (w w₁ : World) : Prop where
  size : w.heap.size ≤ w₁.heap.size
  old : ∀ b, (b < w.heap.size ∨ b < N) → b ≠ Wg → b ≠ Ch → b ≠ C → w₁.heap[b]? = w.heap[b]?
  live : WgLive ty Wg w → WgLive ty Wg w₁
  pay : PayAt C 3 w → PayAt C 3 w₁
  chan : (∃ buf, ChAt Ch w buf) → ∃ buf, ChAt Ch w₁ buf
structure RGW (ty : TypeId) (Wg Ch C N i : Nat) (w w₁ : World) : Prop where
  rg : RG ty Wg Ch C N w w₁
  cell : w₁.cell? ⟨C, i, none⟩ = w.cell? ⟨C, i, none⟩

section
variable {ty : TypeId} {Wg Ch C N i : Nat} {w w₁ w₂ : World}
theorem RG.refl (w : World) : RG ty Wg Ch C N w w := ⟨Nat.le_refl _, fun _ _ _ _ _ => rfl, id, id, id⟩
theorem RG.trans (h : RG ty Wg Ch C N w w₁) (h' : RG ty Wg Ch C N w₁ w₂) : RG ty Wg Ch C N w w₂ :=
  ⟨Nat.le_trans h.size h'.size, fun b hb h1 h2 h3 => (h'.old b (hb.imp (fun x => Nat.lt_of_lt_of_le x h.size) id) h1 h2 h3).trans (h.old b hb h1 h2 h3), h'.live ∘ h.live, h'.pay ∘ h.pay, h'.chan ∘ h.chan⟩
theorem RG.at (w : World) (d : Nat) : RG ty Wg Ch C N w (w.at d) := ⟨Nat.le_refl _, fun _ _ _ _ _ => rfl, id, id, id⟩
theorem RGW.refl (w : World) : RGW ty Wg Ch C N i w w := ⟨.refl w, rfl⟩
theorem RGW.trans (h : RGW ty Wg Ch C N i w w₁) (h' : RGW ty Wg Ch C N i w₁ w₂) : RGW ty Wg Ch C N i w w₂ := ⟨h.rg.trans h'.rg, h'.cell.trans h.cell⟩
theorem RGW.at (w : World) (d : Nat) : RGW ty Wg Ch C N i w (w.at d) := ⟨.at w d, rfl⟩
theorem RGW.toRW (G : Geo2 Wg Ch C N) (h : RGW ty Wg Ch C N i w w₁) : RW ty Wg C 3 Ch i w w₁ :=
  ⟨fun b hb h1 h2 => h.rg.old b (.inr (by have := G.chW; have := G.wN; omega)) h1 (by omega) h2, h.rg.live, h.rg.pay, h.cell⟩
/-- A turn of the group's block. -/
theorem RGW.of_wg (G : Geo2 Wg Ch C N) (h : Aside Wg w w₁) (hl : WgLive ty Wg w₁) : RGW ty Wg Ch C N i w w₁ := by
  have hC : C ≠ Wg := by have := G.cCh; have := G.chW; omega
  have hCh : Ch ≠ Wg := by have := G.chW; omega
  exact ⟨⟨Nat.le_of_eq h.size.symm, fun b _ hb _ _ => h.block b hb, fun _ => hl, fun ⟨cs, hc, hn⟩ => ⟨cs, (h.block C hC).trans hc, hn⟩, fun ⟨buf, hb⟩ => ⟨buf, (h.block Ch hCh).trans hb⟩⟩, cell_of_block (h.block C hC) i⟩
/-- Another worker's step on its way to its release. -/
theorem RGW.of_cell (G : Geo2 Wg Ch C N) {i' : Nat} (h : AsideCell C 3 i' w w₁) (hne : i ≠ i') : RGW ty Wg Ch C N i w w₁ := by
  have hC : Wg ≠ C := by have := G.cCh; have := G.chW; omega
  have hCh : Ch ≠ C := by have := G.cCh; omega
  exact ⟨⟨Nat.le_of_eq h.size.symm, fun b _ _ _ hb => h.block b hb, fun ⟨st, sm, hl⟩ => ⟨st, sm, hl.of_block (h.block Wg hC)⟩, h.pay, fun ⟨buf, hb⟩ => ⟨buf, (h.block Ch hCh).trans hb⟩⟩, h.cells i hne⟩
theorem RG.of_cell (G : Geo2 Wg Ch C N) {i' : Nat} (h : AsideCell C 3 i' w w₁) : RG ty Wg Ch C N w w₁ := (RGW.of_cell G (i := i' + 1) h (by omega)).rg
/-- A step that leaves all that is there. -/
theorem RGW.of_old (G : Geo2 Wg Ch C N) (hN : N ≤ w.heap.size) (hs : w.heap.size ≤ w₁.heap.size) (h : ∀ b, b < w.heap.size → w₁.heap[b]? = w.heap[b]?) : RGW ty Wg Ch C N i w w₁ := by
  have g1 := G.cCh; have g2 := G.chW; have g3 := G.wN
  exact ⟨⟨hs, fun b hb _ _ _ => h b (by omega), fun ⟨st, sm, hl⟩ => ⟨st, sm, hl.of_block (h Wg (by omega))⟩, fun ⟨cs, hc, hn⟩ => ⟨cs, (h C (by omega)).trans hc, hn⟩, fun ⟨buf, hb⟩ => ⟨buf, (h Ch (by omega)).trans hb⟩⟩, cell_of_block (h C (by omega)) i⟩
omit [Payload] in
theorem setChan_block (w : World) (c cap : Nat) (buf : Array Value) (cl : Bool) (s r : Nat) (tm : Bool) {b : Nat} (hb : b ≠ c) : (w.setChan c cap buf cl s r tm).heap[b]? = w.heap[b]? := by
  simp only [World.setChan]
  exact Array.getElem?_setIfInBounds_ne (fun e => hb e.symm)
omit [Payload] in
theorem setChan_size (w : World) (c cap : Nat) (buf : Array Value) (cl : Bool) (s r : Nat) (tm : Bool) : (w.setChan c cap buf cl s r tm).heap.size = w.heap.size := by
  simp [World.setChan]
omit [Payload] in
theorem setChan_same (w : World) (c cap : Nat) (buf : Array Value) (cl : Bool) (s r : Nat) (tm : Bool) (hc : c < w.heap.size) : (w.setChan c cap buf cl s r tm).heap[c]? = some (.chan cap buf cl s r tm) := by
  simp [World.setChan, hc]
/-- A send. -/
theorem RGW.of_send (G : Geo2 Wg Ch C N) (hN : N ≤ w.heap.size) (buf : Array Value) : RGW ty Wg Ch C N i w (w.setChan Ch 2 buf false buf.size 0 false) := by
  have g1 := G.cCh; have g2 := G.chW; have g3 := G.wN
  exact ⟨⟨Nat.le_of_eq (setChan_size ..).symm, fun b _ _ hb _ => setChan_block _ _ _ _ _ _ _ _ hb, fun ⟨st, sm, hl⟩ => ⟨st, sm, hl.of_block (setChan_block _ _ _ _ _ _ _ _ (by omega))⟩,
    fun ⟨cs, hc, hn⟩ => ⟨cs, (setChan_block _ _ _ _ _ _ _ _ (by omega)).trans hc, hn⟩, fun _ => ⟨buf, setChan_same _ _ _ _ _ _ _ _ (by omega)⟩⟩, cell_of_block (setChan_block _ _ _ _ _ _ _ _ (by omega)) i⟩
end

/-- What a worker does on its way to its send: all that is there stays, a block may come behind; it only reads, and not the group's cells. -/
structure DV (Wg k : Nat) (w w' : World) (es : Array Event) : Prop where
  size : w.heap.size ≤ w'.heap.size
  few : w'.heap.size ≤ w.heap.size + 1
  old : ∀ b, b < w.heap.size → w'.heap[b]? = w.heap[b]?
  evs : ∀ e ∈ es, ∃ a : Addr, e = ⟨.cell a, false, false⟩ ∧ a.block ≠ Wg
  str : w'.os = w.os ∧ w'.tape = w.tape ∧ w'.output = w.output

section
variable (P : Program) (ty : TypeId) (Wg Ch C N : Nat)

/-- A worker at its send, and what follows it. -/
def AtSnd (k : Nat) (v zv : Value) (g : Goroutine) (w : World) : Prop :=
  g.status = .running ∧ ∃ z m, stepG P false g w = .comm g #[scase Ch v z] true .send w #[] ∧
    ∀ buf s, Goes P false (RW ty Wg C 3 Ch (k - 1)) (DWs Wg Own0 Rd9 C 3 k) (AtR0 P ty Wg C 3 Ch k zv) m (Go.Conc.served g undef) (w.setChan Ch 2 buf false s 0 false)

/-- Where a worker stands: 8: on its way to the send; 7 to 1: as the library has it. -/
def WS (k : Nat) (v zv : Value) (s m d : Nat) (g : Goroutine) (w : World) : Prop :=
  (s = 8 ∧ d = 0 ∧ Goes P false (RGW ty Wg Ch C N (k - 1)) (DV Wg k) (AtSnd P ty Wg Ch C k v zv) m g w) ∨ WSit P ty Wg C 3 Own0 Rd9 Ch k zv s m d g w
end

section
variable {P : Program} {ty : TypeId} {Wg Ch C N k : Nat} {v zv : Value} {s m d : Nat} {g : Goroutine} {w w₁ : World}
theorem wsit_le (h : WSit P ty Wg C 3 Own0 Rd9 Ch k zv s m d g w) : s ≤ 7 ∧ 1 ≤ s := by cases h <;> decide
theorem WS.rely (G : Geo2 Wg Ch C N) (h : WS P ty Wg Ch C N k v zv s m d g w) (hr : RGW ty Wg Ch C N (k - 1) w w₁) : WS P ty Wg Ch C N k v zv s m d g w₁ :=
  h.imp (fun ⟨h1, h2, h⟩ => ⟨h1, h2, Goes.rely (fun _ _ _ h1 h2 => h1.trans h2) h hr⟩) (fun h => h.rely (hr.toRW G))
theorem WS.status (h : WS P ty Wg Ch C N k v zv s m d g w) : g.status = .running ∨ g.status = .finished :=
  h.elim (fun ⟨_, _, h⟩ => .inl (Goes.running (fun _ _ x => x.1) w (RGW.refl w) h)) (fun h => h.status)
theorem WS.woken (h : WS P ty Wg Ch C N k v zv s m d g w) (a a' : Goroutine) (w' : World) : woken P a a' w' g = g := by
  unfold Go.Conc.woken
  split
  · exact again_running _ h.status
  · rfl
theorem WS.running_of (h : WS P ty Wg Ch C N k v zv s m d g w) (hs : s ≠ 1) : g.status = .running := by
  rcases h with ⟨_, _, h⟩ | h
  · exact Goes.running (fun _ _ x => x.1) w (RGW.refl w) h
  · cases h with
    | r0 h => exact Goes.running (fun _ _ x => x.1) w (RW.refl w) h
    | k1 h => exact Goes.running (fun _ _ x => x.1) w (RW.refl w) h
    | d1 h => exact Goes.running (fun _ _ x => x.1) w (RW.refl w) h
    | d2 h => exact Goes.running (fun _ _ x => x.1) w (RW.refl w) h
    | d3 h => exact Goes.running (fun _ _ x => x.1) w (RW.refl w) h
    | d4 h => exact Goes.running (fun _ _ x => x.1) w (RW.refl w) h
    | quit _ => exact absurd rfl hs
end

/-- What the starter suffers: the streams stay, too. -/
structure RS (ty : TypeId) (Wg Ch C N : Nat) (w w₁ : World) : Prop where
  rg : RG ty Wg Ch C N w w₁
  os : w₁.os = w.os
  tape : w₁.tape = w.tape
  output : w₁.output = w.output

section
variable {ty : TypeId} {Wg Ch C N : Nat} {w w₁ w₂ : World}
theorem RS.refl (w : World) : RS ty Wg Ch C N w w := ⟨.refl w, rfl, rfl, rfl⟩
theorem RS.trans (h : RS ty Wg Ch C N w w₁) (h' : RS ty Wg Ch C N w₁ w₂) : RS ty Wg Ch C N w w₂ := ⟨h.rg.trans h'.rg, h'.os.trans h.os, h'.tape.trans h.tape, h'.output.trans h.output⟩
theorem RS.at (w : World) (d : Nat) : RS ty Wg Ch C N w (w.at d) := ⟨.at w d, rfl, rfl, rfl⟩
theorem RS.of_wg (G : Geo2 Wg Ch C N) (h : Aside Wg w w₁) (hl : WgLive ty Wg w₁) : RS ty Wg Ch C N w w₁ := ⟨(RGW.of_wg (i := 0) G h hl).rg, h.os, h.tape, h.output⟩
theorem RS.of_cell (G : Geo2 Wg Ch C N) {i' : Nat} (h : AsideCell C 3 i' w w₁) : RS ty Wg Ch C N w w₁ := ⟨.of_cell G h, h.os, h.tape, h.output⟩
theorem RS.of_send (G : Geo2 Wg Ch C N) (hN : N ≤ w.heap.size) (buf : Array Value) : RS ty Wg Ch C N w (w.setChan Ch 2 buf false buf.size 0 false) := ⟨(RGW.of_send (i := 0) G hN buf).rg, rfl, rfl, rfl⟩
/-- What it suffers while the first sender alone is started: the second one's cell stays, too. -/
structure RS1 (ty : TypeId) (Wg Ch C N : Nat) (w w₁ : World) : Prop where
  rs : RS ty Wg Ch C N w w₁
  one : w₁.cell? ⟨C, 1, none⟩ = w.cell? ⟨C, 1, none⟩
theorem RS1.refl (w : World) : RS1 ty Wg Ch C N w w := ⟨.refl w, rfl⟩
theorem RS1.trans (h : RS1 ty Wg Ch C N w w₁) (h' : RS1 ty Wg Ch C N w₁ w₂) : RS1 ty Wg Ch C N w w₂ := ⟨h.rs.trans h'.rs, h'.one.trans h.one⟩
theorem RS.of_dv (G : Geo2 Wg Ch C N) (hN : N ≤ w.heap.size) {k : Nat} {es : Array Event} (h : DV Wg k w w₁ es) : RS ty Wg Ch C N w w₁ := ⟨(RGW.of_old (i := 0) G hN h.size h.old).rg, h.str.1, h.str.2.1, h.str.2.2⟩
end

/-! ### the starter -/
section
variable (P : Program) (ty : TypeId) (Wg Ch C N Low : Nat) (K AnchW : Goroutine → World → Prop)
/-- It takes the others' releases: from here on they only leave. -/
def SAcq (g : Goroutine) (w : World) : Prop := g.status = .running ∧ ∃ g', stepG P true g w = .go g' w #[mk (.acquire (stA Wg))] ∧ K g' w
def SKe (g : Goroutine) (w : World) : Prop := g.status = .running ∧ ∃ g', stepG P true g w = .go g' w #[mk .enable] ∧ ∃ m, Goes P true (RS ty Wg Ch C N) (DP Wg Own0 (Rd0 Wg) 2 Low) (SAcq P Wg K) m g' w
def SW4 (g : Goroutine) (w : World) : Prop := g.status = .running ∧ (WgAt ty Wg w 0 0 → ∃ g', stepG P true g w = .go g' w #[rd (stA Wg)] ∧ ∃ m, Goes P true (RS ty Wg Ch C N) (DP Wg Own0 (Rd0 Wg) 2 Low) (SKe P ty Wg Ch C N Low K) m g' w)
def SW3 (g : Goroutine) (w : World) : Prop := g.status = .running ∧ g.offers = none ∧
  ((∃ st, WgAt ty Wg w st 0) → stepG P true g w = .go { g with status := .blocked } w #[]) ∧
  (WgAt ty Wg w 0 1 → ∃ g', stepG P true g w = .go g' (w.setCell (smA Wg) (.int .u32 0)) (semEvents (smA Wg)) ∧ ∃ m, Goes P true (RS ty Wg Ch C N) (DP Wg Own0 (Rd0 Wg) 2 Low) (SW4 P ty Wg Ch C N Low K) m g' (w.setCell (smA Wg) (.int .u32 0)))
def SW2 (vs : Nat) (g : Goroutine) (w : World) : Prop := g.status = .running ∧ ∀ v : Nat, v < 2147483648 → WgAt ty Wg w (v * KK) 0 →
  (v = vs → ∃ g', stepG P true g w = .go g' (w.setCell (stA Wg) (.int .u64 (v * KK + 1))) #[rd (stA Wg), wr (stA Wg)] ∧ ∃ m, Goes P true (RS ty Wg Ch C N) (DP Wg Own0 (Rd0 Wg) 2 Low) (SW3 P ty Wg Ch C N Low K) m g' (w.setCell (stA Wg) (.int .u64 (v * KK + 1)))) ∧
  (v ≠ vs → ∃ g', stepG P true g w = .go g' w #[rd (stA Wg)] ∧ ∃ m, Goes P true (RS ty Wg Ch C N) (DP Wg Own0 (Rd0 Wg) 2 Low) AnchW m g' w)
def SW1 (g : Goroutine) (w : World) : Prop := g.status = .running ∧ ∀ v : Nat, v < 2147483648 → WgAt ty Wg w (v * KK) 0 → ∃ g', stepG P true g w = .go g' w #[rd (stA Wg)] ∧
  (v = 0 → ∃ m, Goes P true (RS ty Wg Ch C N) (DP Wg Own0 (Rd0 Wg) 2 Low) (SKe P ty Wg Ch C N Low K) m g' w) ∧ (v ≠ 0 → ∃ m, Goes P true (RS ty Wg Ch C N) (DP Wg Own0 (Rd0 Wg) 2 Low) (SW2 P ty Wg Ch C N Low K AnchW v) m g' w)
def SKd (g : Goroutine) (w : World) : Prop := g.status = .running ∧ ∃ g', stepG P true g w = .go g' w #[mk .disable] ∧ ∃ m, Goes P true (RS ty Wg Ch C N) (DP Wg Own0 (Rd0 Wg) 2 Low) AnchW m g' w
/-- The second go statement: the child is on its way to its send within M steps. -/
def SGo (v2 zv : Value) (M : Nat) (g : Goroutine) (w : World) : Prop := g.status = .running ∧ ∃ g' child, stepG P true g w = .spawn g' child w #[] ∧
  Goes P false (RGW ty Wg Ch C N 1) (DV Wg 2) (AtSnd P ty Wg Ch C 2 v2 zv) M child w ∧ ∃ m, Goes P true (RS ty Wg Ch C N) (DP Wg Own0 (Rd0 Wg) 2 Low) (SKd P ty Wg Ch C N Low AnchW) m g' w

/-- Where the starter stands: tag, how many are started, fuel, deafness. -/
def CS (v2 zv : Value) (M : Nat) (tag : CTag) (j f d : Nat) (a : Goroutine) (w : World) : Prop :=
  match tag with
  | .sp r s => r = 0 ∧ s = 2 ∧ j = 1 ∧ d = 0 ∧ Goes P true (RS1 ty Wg Ch C N) (DP Wg Own0 (Rd0 Wg) 1 Low) (SGo P ty Wg Ch C N Low AnchW v2 zv M) f a w
  | .kd => j = 2 ∧ d = 0 ∧ Goes P true (RS ty Wg Ch C N) (DP Wg Own0 (Rd0 Wg) 2 Low) (SKd P ty Wg Ch C N Low AnchW) f a w
  | .anch => j = 2 ∧ d = 1 ∧ Goes P true (RS ty Wg Ch C N) (DP Wg Own0 (Rd0 Wg) 2 Low) AnchW f a w
  | .w1 => j = 2 ∧ d = 1 ∧ Goes P true (RS ty Wg Ch C N) (DP Wg Own0 (Rd0 Wg) 2 Low) (SW1 P ty Wg Ch C N Low K AnchW) f a w
  | .w2 vs => j = 2 ∧ d = 1 ∧ Goes P true (RS ty Wg Ch C N) (DP Wg Own0 (Rd0 Wg) 2 Low) (SW2 P ty Wg Ch C N Low K AnchW vs) f a w
  | .w3 => j = 2 ∧ d = 1 ∧ ∃ m, f = m + 1 ∧ Goes P true (RS ty Wg Ch C N) (DP Wg Own0 (Rd0 Wg) 2 Low) (SW3 P ty Wg Ch C N Low K) m a w
  | .blk => j = 2 ∧ d = 1 ∧ f = 0 ∧ ∃ g, a = { g with status := .blocked } ∧ ∀ w₁, RS ty Wg Ch C N w w₁ → SW3 P ty Wg Ch C N Low K g w₁
  | .w4 => j = 2 ∧ d = 1 ∧ Goes P true (RS ty Wg Ch C N) (DP Wg Own0 (Rd0 Wg) 2 Low) (SW4 P ty Wg Ch C N Low K) f a w
  | .ke => j = 2 ∧ d = 1 ∧ Goes P true (RS ty Wg Ch C N) (DP Wg Own0 (Rd0 Wg) 2 Low) (SKe P ty Wg Ch C N Low K) f a w
  | .acq => j = 2 ∧ d = 0 ∧ Goes P true (RS ty Wg Ch C N) (DP Wg Own0 (Rd0 Wg) 2 Low) (SAcq P Wg K) f a w
  | .ret => False
end

section
variable {P : Program} {ty : TypeId} {Wg Ch C N Low : Nat} {K AnchW : Goroutine → World → Prop} {v2 zv : Value} {M : Nat} {tag : CTag} {j f d : Nat} {a : Goroutine} {w w' : World}
theorem CS.rely (h : CS P ty Wg Ch C N Low K AnchW v2 zv M tag j f d a w) (hr : RS ty Wg Ch C N w w') (h1 : j = 1 → w'.cell? ⟨C, 1, none⟩ = w.cell? ⟨C, 1, none⟩) : CS P ty Wg Ch C N Low K AnchW v2 zv M tag j f d a w' := by
  have tr : ∀ x y z, RS ty Wg Ch C N x y → RS ty Wg Ch C N y z → RS ty Wg Ch C N x z := fun _ _ _ h1 h2 => h1.trans h2
  cases tag with
  | sp r s => obtain ⟨k1, k2, k3, k4, h⟩ := h; exact ⟨k1, k2, k3, k4, Goes.rely (fun _ _ _ x y => x.trans y) h ⟨hr, h1 k3⟩⟩
  | w3 => obtain ⟨h1, h2, m, h3, h⟩ := h; exact ⟨h1, h2, m, h3, Goes.rely tr h hr⟩
  | blk => obtain ⟨h1, h2, h3, g, h4, h⟩ := h; exact ⟨h1, h2, h3, g, h4, fun w₂ h₂ => h w₂ (hr.trans h₂)⟩
  | ret => exact h.elim
  | _ => obtain ⟨h1, h2, h⟩ := h; exact ⟨h1, h2, Goes.rely tr h hr⟩
theorem CS.status (hAr : ∀ g w, AnchW g w → g.status = .running) (h : CS P ty Wg Ch C N Low K AnchW v2 zv M tag j f d a w) : (a.status = .running ∧ tag ≠ .blk) ∨ (a.status = .blocked ∧ tag = .blk) := by
  cases tag with
  | sp r s => obtain ⟨_, _, _, _, h⟩ := h; exact .inl ⟨Goes.running (fun _ _ x => x.1) w (.refl w) h, by simp⟩
  | w3 => obtain ⟨_, _, m, _, h⟩ := h; exact .inl ⟨Goes.running (fun _ _ x => x.1) w (.refl w) h, by simp⟩
  | blk => obtain ⟨_, _, _, g, rfl, _⟩ := h; exact .inr ⟨rfl, rfl⟩
  | ret => exact h.elim
  | anch => obtain ⟨_, _, h⟩ := h; exact .inl ⟨Goes.running hAr w (.refl w) h, by simp⟩
  | _ => obtain ⟨_, _, h⟩ := h; exact .inl ⟨Goes.running (fun _ _ x => x.1) w (.refl w) h, by simp⟩
/-- Under another's step: as it stood; or, blocked, it is let try again. -/
theorem CS.wokenBy (hAr : ∀ g w, AnchW g w → g.status = .running) (h : CS P ty Wg Ch C N Low K AnchW v2 zv M tag j f d a w) (hr : RS ty Wg Ch C N w w') (h1 : j = 1 → w'.cell? ⟨C, 1, none⟩ = w.cell? ⟨C, 1, none⟩) (g g' : Goroutine) :
    ∃ tag' f', CS P ty Wg Ch C N Low K AnchW v2 zv M tag' j f' d (woken P g g' w' a) w' ∧ f' ≤ f + 1 ∧ (tag' = tag ∨ (tag = .blk ∧ tag' = .w3)) ∧ (mayWake P g = true → g'.status = .running → tag' ≠ .blk) := by
  have h' := h.rely hr h1
  clear h1
  unfold Go.Conc.woken
  split
  · rcases h'.status hAr with ⟨hs, hne⟩ | ⟨_, rfl⟩
    · exact ⟨tag, f, by rw [again_running _ (.inl hs)]; exact h', by omega, .inl rfl, fun _ _ => hne⟩
    · obtain ⟨h1, h2, _, g0, rfl, hb⟩ := h'
      have h3 := hb w' (.refl w')
      exact ⟨.w3, 0 + 1, by rw [Go.ConcR.again_blocked h3.1 h3.2.1]; exact ⟨h1, h2, 0, rfl, Goes.stop hb⟩, by omega, .inr ⟨rfl, rfl⟩, fun _ _ => by simp⟩
  · rename_i hc
    exact ⟨tag, f, h', by omega, .inl rfl, fun h1 h2 => absurd (by simp [h1, h2]) hc⟩
theorem CS.two (h : CS P ty Wg Ch C N Low K AnchW v2 zv M tag j f d a w) : (j = 1 ∧ tag = .sp 0 2 ∧ d = 0) ∨ (j = 2 ∧ pend tag = 0) := by
  cases tag with
  | sp r s => obtain ⟨rfl, rfl, h1, h2, _⟩ := h; exact .inl ⟨h1, rfl, h2⟩
  | ret => exact h.elim
  | _ => exact .inr ⟨h.1, rfl⟩
end

end Go.Proofs.Ytnndfgceehfiiaa
