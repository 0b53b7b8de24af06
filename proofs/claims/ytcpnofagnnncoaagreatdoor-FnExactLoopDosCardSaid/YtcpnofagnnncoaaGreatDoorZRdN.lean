/-
  Chapter 5, the program: a play is read; Scoped.
-/
import Derived.Test.YtcpnofagnnncoaaGreatDoorZRdThree
import Derived.Test.YtcpnofagnnncoaaGreatDoorZOlds
import Derived.Test.YtcpnofagnnncoaaGreatDoorZPlayI
namespace Go.Proofs.YtcpnofagnnncoaaGreatDoor
open Go.RowKit

/-- The reader as it begins. -/
theorem st_first {w : World} {a : Option Addr} {cap : Nat} {L : List ByteArray} (ht : Tab w) (hA : ArgT w a L) (z : Array Value) :
    St (fun k => k = w.heap.size + 1) (w.heap.size + 1) a cap L [] Ot.none 0 ((w.alloc (.cells z 51)).alloc (.cells #[.slice a L.length cap, .slice none 0 0, .int .i64 0, .slice none 0 0, .bool false, .bool false, .bool false, .bool false] 51)) := by
  obtain ⟨W, hW⟩ : ∃ W, W = w.alloc (.cells z 51) := ⟨_, rfl⟩
  have hz : W.heap.size = w.heap.size + 1 := by rw [hW]; simp
  have hBW : Below w.heap.size w W := by rw [hW]; exact balloc (Below.refl _ _) _
  rw [← hW, ← hz]
  obtain ⟨W2, hW2⟩ : ∃ W2, W2 = W.alloc (.cells #[.slice a L.length cap, .slice none 0 0, .int .i64 0, .slice none 0 0, .bool false, .bool false, .bool false, .bool false] 51) := ⟨_, rfl⟩
  have hnew : W2.heap[W.heap.size]? = some (.cells #[.slice a L.length cap, .slice none 0 0, .int .i64 0, .slice none 0 0, .bool false, .bool false, .bool false, .bool false] 51) := by rw [hW2]; exact heap_alloc_new W _
  have hz2 : W2.heap.size = W.heap.size + 1 := by rw [hW2]; simp
  have hB2 : Below W.heap.size W W2 := by rw [hW2]; exact balloc (Below.refl _ _) _
  rw [← hW2]
  have hcell : ∀ o, W2.cell? ⟨W.heap.size, o, none⟩ = #[Value.slice a L.length cap, .slice none 0 0, .int .i64 0, .slice none 0 0, .bool false, .bool false, .bool false, .bool false][o]? := fun o => by simp [World.cell?, hnew]
  have hBw := bstep hBW hB2
  refine ⟨⟨⟨.slice none 0 0, .slice none 0 0, [], [], false, false, false, false⟩, ?_, ?_⟩, ?_, ?_⟩
  · exact { lt := by omega, own := rfl, c0 := hcell 0, c1 := hcell 1, c2 := hcell 2, c3 := hcell 3, c4 := hcell 4, c5 := hcell 5, c6 := hcell 6, c7 := hcell 7, fz := fun o => by simp [World.frozen?, hnew],
            rowB := World.ownsRow_nil _ _ _ _, rowU := World.ownsRow_nil _ _ _ _, inb := fun g hg => by simp [Value.ownBlock] at hg, inu := fun g hg => by simp [Value.ownBlock] at hg, apart := fun g hg => by simp [Value.ownBlock] at hg,
            maps := fun j hj => absurd hj (Nat.not_lt_zero _), nodup := List.nodup_nil, enough := Nat.le_refl _, low := fun k hk => by omega, few := Nat.zero_le _ }
  · exact ⟨rfl, rfl, rfl, rfl, Nat.le_refl _, fun u hu => by cases hu⟩
  · intro i hi
    obtain ⟨sb, off, h1, h2, h3, h4⟩ := hA i hi
    exact ⟨sb, off, h1, by have := hBw.size; omega, by omega, (hBw.cell (p := ⟨sb, off + i, none⟩) h2).trans h3, h4⟩
  · intro S' W' hN
    have hb := hN.below (n0 := w.heap.size) (fun k hk => by omega) (by omega)
    exact tab_call ht (hBw.trans hb)

set_option maxRecDepth 100000 in
set_option maxHeartbeats 4000000 in
theorem readPlay_any (a : Option Addr) (cap : Nat) (L : List ByteArray) (w : World) (ht : Tab w) (hA : ArgT w a L) (hp : playB L = true) :
    Calls Tryz.prog 26 #[.slice a L.length cap] w fun r w' => ∃ (x : RdX) (U : Nat), r = .returned (.agg #[.slice a L.length cap, x.vb, .int .i64 0, x.vu, .bool x.fu, .bool x.ft, .bool x.fo, .bool x.fv]) ∧ w'.ownsRow w.heap.size 108 3 x.vu x.us.length (flatU x.us) ∧ SaidR L x (findO L) U ∧ U ≤ L.length ∧ Below w.heap.size w w' := by
  have hL := play_len' hp
  have hsg := play_signs hp
  obtain ⟨k, hch⟩ := play_deeds hp
  have hcI := chI_V k 0 (chain_deeds k 0 hch).1
  have hK := (reads_any (a := a) (cap := cap) (c := w.heap.size + 1) hL hsg (8 * L.length + 40)).2
  have hfz := far_zero L
  have HK : Hid (∀ ad cd (S : Nat → Prop) W, St S (w.heap.size + 1) a cap L [] Ot.none 0 W → RowI S W ad (chainP L k 0) → Calls Tryz.prog 40 #[.pointer (some ⟨w.heap.size + 1, 0, none⟩), .slice ad k cd, .bool true, .bool false] W fun r w' => r = .returned (.tuple #[]) ∧ ∃ S' U', St S' (w.heap.size + 1) a cap L [] (findO L) U' w' ∧ Nxt S S' W w' ∧ (U' : Int) ≤ (L.length : Int)) := fun ad cd S W hW hX => by
    have := hK S [] false true Ot.none 0 0 (L.length : Int) k ad cd W hW hX hch (Or.inl rfl) (by omega) (Int.le_refl _) (by omega) (by simp; omega) (by omega)
    rw [Ot.none_add] at this
    exact this
  have HDO : Hid (∀ W, ArgT W a L → Calls Tryz.prog 41 #[.slice a L.length cap] W fun e W' => ∃ v, e = .returned v ∧ OwnI W' W.heap.size v (chainP L k 0) ∧ Below W.heap.size W W') := fun W hA => deedsOf_any a cap L k (by omega) hsg hcI W hA
  have hzr : (zeroValue 51).run Tryz.prog w = .ok (.agg #[.slice none 0 0, .slice none 0 0, .int .i64 0, .slice none 0 0, .bool false, .bool false, .bool false, .bool false]) w := by kernel_rfl
  obtain ⟨W2, hW2⟩ : ∃ W2, W2 = (w.alloc (.cells #[.slice none 0 0, .slice none 0 0, .int .i64 0, .slice none 0 0, .bool false, .bool false, .bool false, .bool false] 51)).alloc (.cells #[.slice a L.length cap, .slice none 0 0, .int .i64 0, .slice none 0 0, .bool false, .bool false, .bool false, .bool false] 51) := ⟨_, rfl⟩
  have hSt2 := st_first (cap := cap) ht hA #[.slice none 0 0, .slice none 0 0, .int .i64 0, .slice none 0 0, .bool false, .bool false, .bool false, .bool false]
  rw [← hW2] at hSt2
  have hB2 : Below w.heap.size w W2 := by rw [hW2]; exact balloc (balloc (Below.refl _ _) _) _
  have hz2 : W2.heap.size = w.heap.size + 2 := by rw [hW2]; simp
  have hbox : ∀ o, o < 8 → ∃ v, W2.cell? ⟨w.heap.size, o, none⟩ = some v := fun o ho => by
    have hh : W2.heap[w.heap.size]? = some (.cells #[.slice none 0 0, .slice none 0 0, .int .i64 0, .slice none 0 0, .bool false, .bool false, .bool false, .bool false] 51) := by rw [hW2, Below.heap_alloc _ _ _ (by simp)]; exact heap_alloc_new w _
    simp only [World.cell?, hh]
    match o, ho with
    | 0, _ | 1, _ | 2, _ | 3, _ | 4, _ | 5, _ | 6, _ | 7, _ => exact ⟨_, rfl⟩
  have hboxf : ∀ o, W2.frozen? ⟨w.heap.size, o, none⟩ = false := fun o => by
    have hh : W2.heap[w.heap.size]? = some (.cells #[.slice none 0 0, .slice none 0 0, .int .i64 0, .slice none 0 0, .bool false, .bool false, .bool false, .bool false] 51) := by rw [hW2, Below.heap_alloc _ _ _ (by simp)]; exact heap_alloc_new w _
    simp [World.frozen?, hh]
  clear hK hch hcI
  go_enter Tryz.func26, Tryz.ntmps26
  go_wp2_with fail
  rw [← hW2]
  clear hW2
  refine (HDO.out _ (hA.call hB2)).mono ?_
  rintro r w3 ⟨v, rfl, hO, hb3⟩
  obtain ⟨av, cv, rfl, hcv, hRI⟩ := hO.row (S := fun k => k = w.heap.size + 1) (fun k hk => by omega)
  rw [chP_len] at hcv ⊢
  have hSt3 := hSt2.call hb3
  clear HDO hO hSt2
  go_wp2_with fail
  refine (HK.out _ _ _ _ hSt3 hRI).mono ?_
  rintro r w4 ⟨rfl, S4, U4, hSt4, hN4, hU4⟩
  have hkeep : w4.heap[w.heap.size]? = W2.heap[w.heap.size]? := (hN4.block w.heap.size (by have := hb3.size; omega) (by omega)).trans (hb3.block _ (by omega))
  have hc4 : ∀ o, o < 8 → ∃ v, w4.cell? ⟨w.heap.size, o, none⟩ = some v := fun o ho => by rw [World.cell?_of_block (w := W2) (a := ⟨w.heap.size, o, none⟩) hkeep]; exact hbox o ho
  have hf4 : ∀ o, w4.frozen? ⟨w.heap.size, o, none⟩ = false := fun o => by rw [World.frozen?_of_block (w := W2) (a := ⟨w.heap.size, o, none⟩) hkeep]; exact hboxf o
  have hB4 : Below w.heap.size w w4 := (bstep hB2 hb3).trans (hN4.below (fun k hk => by omega) (by have := hb3.size; omega))
  obtain ⟨⟨x, hM, hS⟩, hA4⟩ := hSt4
  clear hbox hboxf hkeep HK hRI hSt3 hN4 hb3 hB2 hA4
  obtain ⟨u0, k0⟩ := hc4 0 (by decide)
  obtain ⟨u1, k1⟩ := hc4 1 (by decide)
  obtain ⟨u2, k2⟩ := hc4 2 (by decide)
  obtain ⟨u3, k3⟩ := hc4 3 (by decide)
  obtain ⟨u4, k4⟩ := hc4 4 (by decide)
  obtain ⟨u5, k5⟩ := hc4 5 (by decide)
  obtain ⟨u6, k6⟩ := hc4 6 (by decide)
  obtain ⟨u7, k7⟩ := hc4 7 (by decide)
  have f0 := hf4 0
  have f1 := hf4 1
  have f2 := hf4 2
  have f3 := hf4 3
  have f4 := hf4 4
  have f5 := hf4 5
  have f6 := hf4 6
  have f7 := hf4 7
  have c0 := hM.c0
  have c1 := hM.c1
  have c2 : w4.cell? ⟨w.heap.size + 1, 2, none⟩ = some (.int .i64 0) := hM.c2
  have c3 := hM.c3
  have c4 := hM.c4
  have c5 := hM.c5
  have c6 := hM.c6
  have c7 := hM.c7
  have HO : Hid (w4.ownsRow (w.heap.size + 1 + 1) 108 3 x.vu x.us.length (flatU x.us)) := hM.rowU
  obtain ⟨ab, cb, hvb, _, _, _, _⟩ := own_shape hM.rowB
  obtain ⟨au, cu, hvu, _, _, _, _⟩ := own_shape hM.rowU
  have HVB : Hid (x.vb = .slice ab x.bs.length cb) := hvb
  have HVU : Hid (x.vu = .slice au x.us.length cu) := hvu
  rw [hvb] at c1
  rw [hvu] at c3
  clear hc4 hf4 hM hvb hvu
  go_wp2
  refine bodyPost_ret (v := .agg #[.slice a L.length cap, .slice ab x.bs.length cb, .int .i64 0, .slice au x.us.length cu, .bool x.fu, .bool x.ft, .bool x.fo, .bool x.fv]) (by simp [results, Tryz.results26, go_sem, k0, k1, k2, k3, k4, k5, k6, k7]) rfl ?_
  refine ⟨x, U4, by rw [HVB.out, HVU.out], ?_, hS, by omega, ?_⟩
  · refine own_low (own_kept HO.out (fun g hg => ?_)) (by omega)
    have hne : g ≠ w.heap.size := by have := (World.ownsRow.lt HO.out g hg).1; omega
    simp only [Below.heap_setCell _ _ _ _ (show g ≠ (⟨w.heap.size, _, none⟩ : Addr).block from hne)]
  · exact (((((((hB4.setCell (p := ⟨w.heap.size, 0, none⟩) (Nat.le_refl _) _).setCell (p := ⟨w.heap.size, 1, none⟩) (Nat.le_refl _) _).setCell (p := ⟨w.heap.size, 2, none⟩) (Nat.le_refl _) _).setCell (p := ⟨w.heap.size, 3, none⟩) (Nat.le_refl _) _).setCell (p := ⟨w.heap.size, 4, none⟩) (Nat.le_refl _) _).setCell (p := ⟨w.heap.size, 5, none⟩) (Nat.le_refl _) _).setCell (p := ⟨w.heap.size, 6, none⟩) (Nat.le_refl _) _).setCell (p := ⟨w.heap.size, 7, none⟩) (Nat.le_refl _) _

/-- Is something not as it is to be? -/
theorem said_scoped {L : List ByteArray} {x : RdX} {F : Ot} {U : Nat} (h : SaidR L x F U) : (!x.fu && (!x.ft && (!x.fo && !x.fv))) = (F.fr.isEmpty && (F.sc.isEmpty && !F.bad)) := by
  rw [h.unk, ← h.bad]
  cases F.fr.isEmpty <;> cases F.sc.isEmpty <;> cases x.ft <;> cases x.fo <;> cases x.fv <;> rfl

set_option maxRecDepth 100000 in
set_option maxHeartbeats 4000000 in
theorem scopedI_any (a : Option Addr) (cap : Nat) (L : List ByteArray) (w : World) (ht : Tab w) (h : ArgT w a L) (hL : L.length ≤ 1048576) :
    Calls Tryz.prog 14 #[.slice a L.length cap] w fun e w' => e = .returned (.bool (playB L && ((findO L).fr.isEmpty && ((findO L).sc.isEmpty && !(findO L).bad)))) ∧ Below w.heap.size w w' := by
  cases hp : playB L
  · have HP : Hid (playB L = false) := hp
    clear hp
    go_enter Tryz.func14, Tryz.ntmps14
    go_wp2_with fail
    refine (playOkI_any a cap L _ ht h hL).mono ?_
    rintro e w1 ⟨rfl, hb1⟩
    rw [HP.out]
    go_wp2
    go_ret
    exact ⟨rfl, hb1⟩
  · have HP : Hid (playB L = true) := hp
    have HRP : Hid (∀ W, Tab W → ArgT W a L → Calls Tryz.prog 26 #[.slice a L.length cap] W fun r w' => ∃ (x : RdX) (U : Nat), r = .returned (.agg #[.slice a L.length cap, x.vb, .int .i64 0, x.vu, .bool x.fu, .bool x.ft, .bool x.fo, .bool x.fv]) ∧ w'.ownsRow W.heap.size 108 3 x.vu x.us.length (flatU x.us) ∧ SaidR L x (findO L) U ∧ U ≤ L.length ∧ Below W.heap.size W w') := fun W h1 h2 => readPlay_any a cap L W h1 h2 hp
    clear hp
    go_enter Tryz.func14, Tryz.ntmps14
    go_wp2_with fail
    refine (playOkI_any a cap L _ ht h hL).mono ?_
    rintro e w1 ⟨rfl, hb1⟩
    rw [HP.out]
    go_wp2_with fail
    refine (HRP.out _ (tab_call ht hb1) (h.call hb1)).mono ?_
    rintro r w2 ⟨x, U, rfl, _, hS, _, hb2⟩
    have HB : Hid ((true && ((findO L).fr.isEmpty && ((findO L).sc.isEmpty && !(findO L).bad))) = (!x.fu && (!x.ft && (!x.fo && !x.fv)))) := (said_scoped hS).symm
    have hfd : ∀ W, (Instr.field 51 (.agg #[.slice a L.length cap, x.vb, .int .i64 0, x.vu, .bool x.fu, .bool x.ft, .bool x.fo, .bool x.fv]) 4).run Tryz.prog W = .ok (.agg #[.bool x.fu, .bool x.ft, .bool x.fo, .bool x.fv]) W := fun _ => by kernel_rfl
    have hB := bstep hb1 hb2
    clear hS HRP
    generalize x.fu = b1 at hfd HB ⊢
    generalize x.ft = b2 at hfd HB ⊢
    generalize x.fo = b3 at hfd HB ⊢
    generalize x.fv = b4 at hfd HB ⊢
    cases b1 <;> cases b2 <;> cases b3 <;> cases b4
    all_goals go_wp2
    all_goals go_ret
    all_goals exact ⟨by rw [HB.out]; rfl, hB⟩
end Go.Proofs.YtcpnofagnnncoaaGreatDoor
