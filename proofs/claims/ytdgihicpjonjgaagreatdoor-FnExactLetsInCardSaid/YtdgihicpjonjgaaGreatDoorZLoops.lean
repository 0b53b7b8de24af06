import Derived.Test.YtdgihicpjonjgaaGreatDoorZRdTwo
import Derived.Test.YtdgihicpjonjgaaGreatDoorZFreeA
import Derived.Test.YtdgihicpjonjgaaGreatDoorZDefs
namespace Go.Proofs.YtdgihicpjonjgaaGreatDoor
open Go.RowKit
def dwB (s:ByteArray):Bool:=isW s [100,111] || (isW s [119,104,105,108,101] || isW s [102,111,114])
def dvW:List (List UInt8):=[[100,111],[119,104,105,108,101],[102,111,114],[108,101,116],[116,97,107,101],[118,97,114,115],[104,105,100,100,101,110]]
def dvB (s:ByteArray):Bool:=dvW.any (isW s)
theorem dv_in {s:ByteArray} {c:List UInt8} (h:isW s c=true) (hc:c∈dvW):dvB s=true:=List.any_eq_true.2 ⟨c,hc,h⟩
theorem dw_dv {s:ByteArray} (h:dwB s=true):dvB s=true:=by
  unfold dwB at h
  rw [Bool.or_eq_true,Bool.or_eq_true] at h
  rcases h with h | h | h <;> exact dv_in h (by decide)
theorem dv_dw {s:ByteArray} (h:dvB s=false):dwB s=false:=by
  cases hc:dwB s
  · rfl
  · rw [dw_dv hc] at h
    cases h
theorem dv_not {s:ByteArray} {c:List UInt8} (h:isW s c=true) (hc:dvW.any (c == ·)=false):dvB s=false :=
  List.any_eq_false.2 fun d hd=>by rw [isW_other h (by simpa using List.any_eq_false.1 hc d hd)];decide
def Gd (L:List ByteArray) (k:Int):Prop:=dvB (sgAt L k)=true→fm L 1 (k - 1)≠-1
def Gy (L:List ByteArray) (i x:Int):Prop:=x=-1∨∀ k,i≤k→k < x→Gd L k
section
variable {L:List ByteArray} {i j x:Int}
theorem gd_not (h:dvB (sgAt L i)=false):Gd L i:=fun hd=>by rw [h] at hd;cases hd
theorem one_dv {s:ByteArray} (h:oneB s=true):dvB s=false:=by
  cases hc:dvB s
  · rfl
  · obtain ⟨c,h1,h2⟩:=List.any_eq_true.1 hc
    rw [isW_eq h2,(by decide +kernel:∀ c∈dvW,oneB ⟨c.toArray⟩=false) c h1] at h
    cases h
theorem nm_dv {s:ByteArray} (h:nmB s=true):dvB s=false:=one_dv (by unfold oneB;rw [h,Bool.or_true])
theorem nm_dw {s:ByteArray} (h:nmB s=true):dwB s=false:=dv_dw (nm_dv h)
theorem gy_at:Gy L i i:=Or.inr fun k h1 h2=>absurd h2 (by omega)
theorem gy_no:Gy L i (-1):=Or.inl rfl
theorem gy_ite {c:Prop} [Decidable c] {y:Int} (h1:Gy L i x) (h2:Gy L i y):Gy L i (if c then x else y):=by split <;> assumption
theorem Gy.trans {y:Int} (h:Gy L i x) (hn:x=-1→y=-1) (k:Gy L x y):Gy L i y:=by
  rcases h with h | h
  · exact Or.inl (hn h)
  · rcases k with k | k
    · exact Or.inl k
    · exact Or.inr fun j h1 h2=>if hj:j < x then h j h1 hj else k j (by omega) h2
theorem gy_more (h:Gy L i x) (hx:x≠-1) (hg:Gd L x):Gy L i (x+1):=by
  rcases h with h | h
  · exact absurd h hx
  · refine Or.inr fun k h2 h3=>?_
    by_cases hk:k < x
    · exact h k h2 hk
    · have:k=x:=by omega
      subst this
      exact hg
theorem gy_isE (h:Gy L i x):Gy L i (isE L x [41]):=by
  by_cases hn:isE L x [41]=-1
  · exact Or.inl hn
  · obtain ⟨he,h0,h1,hb⟩:=isE_pos (by decide) hn
    rw [he]
    exact gy_more h (by omega) (gd_not (dv_not hb (by decide)))
theorem gy_isO (h:Gy L i x):Gy L i (isE L x [40]):=by
  by_cases hn:isE L x [40]=-1
  · exact Or.inl hn
  · obtain ⟨he,h0,h1,hb⟩:=isE_pos (by decide) hn
    rw [he]
    exact gy_more h (by omega) (gd_not (dv_not hb (by decide)))
theorem gy_nm (h:Gy L i x):Gy L i (nmE L x):=by
  by_cases hn:nmE L x=-1
  · exact Or.inl hn
  · obtain ⟨he,h0,h1,hb⟩:=nmE_pos hn
    rw [he]
    exact gy_more h (by omega) (gd_not (nm_dv hb))
theorem gy_form (hG:Gd L i) (hp:Gd L (i+1)) (h:Gy L (i+2) x):Gy L i x:=by
  rcases h with h | h
  · exact Or.inl h
  · refine Or.inr fun k h2 h3=>?_
    by_cases h4:k=i
    · subst h4;exact hG
    · by_cases h5:k=i+1
      · subst h5;exact hp
      · exact h k (by omega) h3
def Cd (L:List ByteArray) (j:Int):Prop:=∀ m x,m≤11→Fw L j x→Gy L x (fm L m x)
theorem Cd.go (hr:Cd L j) {m:Nat} (hm:m≤11) (hF:Fw L j x) (h:Gy L i x):Gy L i (fm L m x):=h.trans (fun e=>by rw [e];exact fm_none m hm) (hr m x hm hF)
theorem gd_it (ho:isW (sgAt L i) [40]=true) (hf:dvB (sgAt L (i+1))=true→fm L 1 i≠-1):Gd L i∧Gd L (i+1) :=
  ⟨gd_not (dv_not ho (by decide)),fun h=>by rw [show i+1 - 1=i by omega];exact hf h⟩
theorem sum_not_dv (h:fm L 0 i≠-1) (ho:isW (sgAt L i) [40]=true):dvB (sgAt L (i+1))=false:=by
  cases hc:dvB (sgAt L (i+1))
  · rfl
  · exfalso
    have he:=endW_open (L:=L) (i:=i) 1 (by decide) ho
    obtain ⟨c,h1,h2⟩:=List.any_eq_true.1 hc
    rw [isW_eq h2,lit_list] at he
    simp only [dvW,List.mem_cons,List.not_mem_nil,or_false] at h1
    rcases h1 with rfl | rfl | rfl | rfl | rfl | rfl | rfl <;> exact h he
theorem sum_not_dw (h:fm L 0 i≠-1) (ho:isW (sgAt L i) [40]=true):dwB (sgAt L (i+1))=false:=dv_dw (sum_not_dv h ho)
theorem sumS_gy (hr:Cd L (i+2)):Gy L i (sumS L (fm L) i):=by
  by_cases hne:sumS L (fm L) i=-1
  · exact Or.inl hne
  rw [← fm_sum] at hne
  have hv:ItV L i:=Or.inl hne
  cases ho:isW (sgAt L i) [40]
  · unfold sumS
    rw [ho]
    simp only [Bool.false_eq_true,if_false]
    split
    · rename_i h1
      exact gy_more gy_at (by have:=hv.ends;omega) (gd_not (one_dv h1))
    · exact gy_no
  · obtain ⟨g0,g1⟩:=gd_it ho (fun hf=>by rw [sum_not_dv hne ho] at hf;cases hf)
    obtain ⟨h0,h1⟩:=sgAt_open ho
    refine gy_form g0 g1 ?_
    have hg:=fm_good L
    have hs:Fw L (i+2) (i+2):=fw_at (by omega)
    have ha:Gy L (i+2) (i+2):=gy_at
    unfold sumS
    rw [ho]
    simp only [if_true]
    split
    · exact gy_isE (hr.go (by decide) hs ha)
    · split
      · have F7:=(isE_ends (c:=[40]) (by decide) hs).fw
        have F6:=(isE_ends (c:=[41]) (by decide) (hg.fw (m:=7) (by decide) F7)).fw
        exact gy_isE (hr.go (by decide) F6 (gy_isE (hr.go (by decide) F7 (gy_isO ha))))
      · split
        · exact gy_isE (hr.go (by decide) (hg.ends (m:=0) (by decide) hs).fw (hr.go (by decide) hs ha))
        · split
          · exact gy_isE (hr.go (by decide) hs ha)
          · split
            · exact gy_isE ha
            · split
              · exact gy_isE (hr.go (by decide) (nmE_ends hs).fw (gy_nm ha))
              · exact gy_no
theorem deedS_gy (f:Bool) (hr:Cd L (i+2)):Gy L i (deedS L (fm L) f i):=by
  by_cases hne:deedS L (fm L) f i=-1
  · exact Or.inl hne
  have hd:fm L 1 i≠-1:=by
    cases f
    · rw [← fm_deed2] at hne
      rw [rule_deed hne]
      exact hne
    · rw [← fm_deed] at hne
      exact hne
  have ho:=deed_open hd
  obtain ⟨h0,h1⟩:=sgAt_open ho
  obtain ⟨g0,g1⟩:=gd_it ho (fun _=>hd)
  have hg:=fm_good L
  have hs:Fw L (i+2) (i+2):=fw_at (by omega)
  have ha:Gy L (i+2) (i+2):=gy_at
  refine gy_form g0 g1 ?_
  unfold deedS
  rw [if_pos ho]
  split
  · exact gy_no
  · cases ht:isW (sgAt L (i+1)) [116,97,107,101]
    · unfold deedH
      rw [ht]
      simp only [Bool.false_eq_true,if_false]
      repeat' (first | exact gy_no | with_reducible refine gy_ite ?_ ?_ | exact hs | exact ha | refine gy_isE ?_ | refine gy_nm ?_ | refine hr.go (by decide) ?_ ?_ | refine hg.fw (by decide) ?_ | refine hg.ends (by decide) ?_ | refine isE_ends (by decide) ?_ | refine nmE_ends ?_ | refine Ends.fw ?_)
    · rw [isW_eq ht,deedH_take]
      have F4:=(isE_ends (c:=[40]) (by decide) hs).fw
      have F5:=(nmE_ends (L:=L) F4).fw
      have F0:=(isE_ends (c:=[41]) (by decide) (hg.fw (m:=5) (by decide) F5)).fw
      exact gy_isE (hr.go (by decide) F0 (gy_isE (hr.go (by decide) F5 (gy_nm (gy_isO ha)))))
theorem parS_gy (hr:Cd L (i+1)):Gy L i (parS L (fm L) i):=by
  by_cases hne:parS L (fm L) i=-1
  · exact Or.inl hne
  rw [← fm_par] at hne
  obtain ⟨h0,h1,hpp⟩:=par_at hne
  unfold parS
  rcases hpp with ⟨q1,q2,q3,_⟩ | ⟨q1,q2,_⟩
  · rw [if_pos q1]
    have hs:Fw L (i+1) (i+1):=fw_at (by omega)
    have ha:Gy L i (i+1):=gy_more gy_at (by omega) (gd_not (dv_not q1 (by decide)))
    exact gy_isE (hr.go (by decide) (nmE_ends hs).fw (gy_nm ha))
  · rw [if_neg (by rw [q1];decide)]
    exact gy_nm gy_at
end
theorem all_gy (L:List ByteArray):∀ n m i,m≤11→-1≤i→i≤(L.length:Int)+1→needN L m i≤n→Gy L i (fm L m i)
  | 0,m,i,hm,_,_,h=>by have:=(need_le (L:=L) m hm i).1;omega
  | n+1,m,i,hm,i0,i1,h=>by
    have IH:=all_gy L n
    have hg:=fm_good L
    have hnl:=need_le (L:=L) m hm i
    have key:∀ j,i < j→j≤i+2→0≤i→i < (L.length:Int)→Cd L j:=fun j hj hj2 h0 h1 q x hq hF=>by
      have hf:=far_fw h0 (by omega) hj hF
      have hq':=need_le (L:=L) q hq x
      refine IH q x hq ?_ ?_ (by omega)
      all_goals unfold Fw at hF;omega
    by_cases hin:0≤i∧i < (L.length:Int)
    · obtain ⟨h0,h1⟩:=hin
      by_cases c0:m=0
      · subst c0
        rw [fm_sum]
        exact sumS_gy (key (i+2) (by omega) (by omega) h0 h1)
      by_cases c1:m=1
      · subst c1
        rw [fm_deed]
        exact deedS_gy true (key (i+2) (by omega) (by omega) h0 h1)
      by_cases c2:m=2
      · subst c2
        rw [fm_deed2]
        exact deedS_gy false (key (i+2) (by omega) (by omega) h0 h1)
      by_cases c3:m=3
      · subst c3
        rw [fm_par]
        exact parS_gy (key (i+1) (by omega) (by omega) h0 h1)
      by_cases c8:m < 8
      · obtain ⟨q,rfl⟩:∃ q,m=4+q:=⟨m - 4,by omega⟩
        unfold needN at h
        rw [if_neg (by omega),if_pos (by omega)] at h
        rw [fm_many q (by omega) i0 i1]
        unfold manyS
        split
        · exact gy_at
        · have hpos:1≤farN L i:=by unfold farN;rw [if_neg (by omega)];omega
          have ho:Gy L i (oneS L (fm L) q i):=by
            unfold oneS
            split
            · exact IH 0 i (by decide) i0 i1 (by unfold needN;rw [if_pos (by decide)];omega)
            · split
              · exact gy_nm gy_at
              · split
                · exact IH 1 i (by decide) i0 i1 (by unfold needN;rw [if_pos (by decide)];omega)
                · exact IH 3 i (by decide) i0 i1 (by unfold needN;rw [if_pos (by decide)];omega)
          have hE:=oneS_ends hg q i0
          generalize oneS L (fm L) q i=y at ho hE
          have hfe:=far_ends hE i1
          unfold Ends at hE
          exact ho.trans (fun e=>by rw [e];exact fm_none _ hm) (IH (4+q) y hm (by omega) (by omega) (by unfold needN;rw [if_neg (by omega),if_pos (by omega)];omega))
      · obtain ⟨k,rfl⟩:∃ k,m=8+k:=⟨m - 8,by omega⟩
        unfold needN at h
        rw [if_neg (by omega),if_neg (by omega)] at h
        rw [fm_sums k (by omega) i0 i1]
        cases k with
        | zero=>exact gy_at
        | succ k =>
          show Gy L i (if i < 0 then i else fm L (8+k) (fm L 0 i))
          rw [if_neg (by omega)]
          have ho:=IH 0 i (by decide) i0 i1 (by unfold needN;rw [if_pos (by decide)];omega)
          have hE:=hg.1 0 i (by decide)
          generalize fm L 0 i=y at ho hE
          have hfe:=far_ends hE i1
          unfold Ends at hE
          exact ho.trans (fun e=>by rw [e];exact fm_none _ (by omega)) (IH (8+k) y (by omega) (by omega) (by omega) (by unfold needN;rw [if_neg (by omega),if_neg (by omega)];omega))
    · have hx:fm L m i=-1∨fm L m i=i:=by
        by_cases h4:m < 4
        · have hE:=hg.1 m i h4
          unfold Ends at hE
          omega
        · have hE:=hg.2 m i (by omega) i0
          unfold Fw at hE
          omega
      rcases hx with hx | hx
      · rw [hx];exact gy_no
      · rw [hx];exact gy_at
theorem deeds_gd {L:List ByteArray} {e:Int}:∀ k i,chainD L k i e→0≤e→∀ j,i≤j→j < e→Gd L j
  | 0,i,h,_,j,h1,h2=>by
    have:i=e:=h
    omega
  | k+1,i,h,he,j,h1,h2=>by
    have hl:=deed_long h.1
    by_cases hj:j < fm L 1 i
    · have hn:=need_le (L:=L) 1 (by decide) i
      rcases all_gy L _ 1 i (by decide) (by omega) (by omega) (Nat.le_refl _) with hx | hx
      · exact absurd hx h.1
      · exact hx j h1 hj
    · exact deeds_gd k _ h.2 he j (by omega) h2
theorem play_gd {L:List ByteArray} (h:playB L=true) (j:Int) (h0:0≤j) (h1:j < (L.length:Int)):Gd L j:=by
  obtain ⟨k,hk⟩:=play_deeds h
  exact deeds_gd k 0 hk (by omega) j h0 h1
theorem play_dv {L:List ByteArray} (h:playB L=true) {j:Int} (hd:dvB (sgAt L (j+1))=true):fm L 1 j≠-1:=by
  by_cases hj:0≤j+1∧j+1 < (L.length:Int)
  · have:=play_gd h (j+1) hj.1 hj.2 hd
    rwa [show j+1 - 1=j by omega] at this
  · rw [show sgAt L (j+1)=⟨#[]⟩ from sgAt_out (by omega)] at hd
    exact absurd hd (by decide +kernel)
def Cx (L:List ByteArray) (i x:Int):Prop:=x=-1∨∀ p,i≤p→p < x→isW (sgAt L p) [40]=true→isW (sgAt L (p+1)) [100,111]=true→∃ q,i≤q∧q < p∧p < itemE L q∧isW (sgAt L q) [40]=true∧isW (sgAt L (q+1)) [102,110]=true
section
variable {L:List ByteArray} {i j x:Int}
theorem cx_at:Cx L i i:=Or.inr fun k h1 h2=>absurd h2 (by omega)
theorem cx_no:Cx L i (-1):=Or.inl rfl
theorem Cx.trans {y:Int} (h:Cx L i x) (hn:x=-1→y=-1) (hix:x≠-1→i≤x) (k:Cx L x y):Cx L i y:=by
  by_cases hx:x=-1
  · exact Or.inl (hn hx)
  · rcases h with h | h
    · exact absurd h hx
    · rcases k with k | k
      · exact Or.inl k
      · refine Or.inr fun p h1 h2 h3 h4=>?_
        by_cases hp:p < x
        · exact h p h1 hp h3 h4
        · obtain ⟨q,a,b⟩:=k p (by omega) h2 h3 h4
          have:=hix hx
          exact ⟨q,by omega,b⟩
theorem cx_more (h:Cx L i x) (hx:x≠-1) (hg:isW (sgAt L x) [40]=false):Cx L i (x+1):=by
  rcases h with h | h
  · exact absurd h hx
  · refine Or.inr fun p h1 h2 h3 h4=>?_
    by_cases hp:p < x
    · exact h p h1 hp h3 h4
    · have:p=x:=by omega
      subst this
      rw [hg] at h3
      cases h3
theorem cx_isE (h:Cx L i x):Cx L i (isE L x [41]):=by
  by_cases hn:isE L x [41]=-1
  · exact Or.inl hn
  · obtain ⟨he,h0,h1,hb⟩:=isE_pos (by decide) hn
    rw [he]
    exact cx_more h (by omega) (isW_other hb (by decide))
theorem cx_nm (h:Cx L i x):Cx L i (nmE L x):=by
  by_cases hn:nmE L x=-1
  · exact Or.inl hn
  · obtain ⟨he,h0,h1,hb⟩:=nmE_pos hn
    rw [he]
    exact cx_more h (by omega) (nm_plain hb).1
def suM (m:Nat):Prop:=m=0∨m=4∨(8≤m∧m≤11)
def Cq (L:List ByteArray) (j:Int):Prop:=∀ m x,suM m→Fw L j x→Cx L x (fm L m x)
theorem Cq.go (hr:Cq L j) {m:Nat} (hm:suM m) (hF:Fw L j x) (hij:i≤j) (h:Cx L i x):Cx L i (fm L m x):=h.trans (fun e=>by rw [e];exact fm_none m (by unfold suM at hm;omega)) (fun hx=>by unfold Fw at hF;omega) (hr m x hm hF)
theorem cx_form (hd:dwB (sgAt L (i+1))=false) (hp:isW (sgAt L (i+1)) [40]=false) (h:Cx L (i+2) x):Cx L i x:=by
  rcases h with h | h
  · exact Or.inl h
  · refine Or.inr fun p h1 h2 h3 h4=>?_
    by_cases c1:p=i
    · subst c1
      unfold dwB at hd
      rw [h4] at hd
      cases hd
    · by_cases c2:p=i+1
      · subst c2
        rw [hp] at h3
        cases h3
      · obtain ⟨q,a,b⟩:=h p (by omega) h2 h3 h4
        exact ⟨q,by omega,b⟩
theorem sumS_cx (hr:Cq L (i+2)):Cx L i (sumS L (fm L) i):=by
  by_cases hne:sumS L (fm L) i=-1
  · exact Or.inl hne
  rw [← fm_sum] at hne
  have hv:ItV L i:=Or.inl hne
  cases ho:isW (sgAt L i) [40]
  · unfold sumS
    rw [ho]
    simp only [Bool.false_eq_true,if_false]
    split
    · exact cx_more cx_at (by have:=hv.ends;omega) ho
    · exact cx_no
  · obtain ⟨h0,h1⟩:=sgAt_open ho
    have hnd:=sum_not_dw hne ho
    cases hf:isW (sgAt L (i+1)) [102,110]
    · refine cx_form hnd (hv.plain ho).1 ?_
      have hg:=fm_good L
      have hs:Fw L (i+2) (i+2):=fw_at (by omega)
      have ha:Cx L (i+2) (i+2):=cx_at
      unfold sumS
      rw [ho,hf]
      simp only [if_true,Bool.false_eq_true,if_false]
      split
      · exact cx_isE (hr.go (Or.inr (Or.inr (by decide))) hs (Int.le_refl _) ha)
      · split
        · exact cx_isE (hr.go (Or.inr (Or.inl rfl)) (hg.ends (m:=0) (by decide) hs).fw (Int.le_refl _) (hr.go (Or.inl rfl) hs (Int.le_refl _) ha))
        · split
          · exact cx_isE (hr.go (Or.inr (Or.inl rfl)) hs (Int.le_refl _) ha)
          · split
            · exact cx_isE ha
            · split
              · exact cx_isE (hr.go (Or.inl rfl) (nmE_ends hs).fw (Int.le_refl _) (cx_nm ha))
              · exact cx_no
    · rw [← fm_sum,← sum_item hne]
      refine Or.inr fun p h1 h2 h3 h4=>?_
      refine ⟨i,Int.le_refl _,?_,h2,ho,hf⟩
      by_cases c1:p=i
      · subst c1
        rw [isW_other hf (by decide)] at h4
        cases h4
      · omega
end
theorem all_cx (L:List ByteArray):∀ n m i,suM m→-1≤i→i≤(L.length:Int)+1→needN L m i≤n→Cx L i (fm L m i)
  | 0,m,i,hm,_,_,h=>by have:=(need_le (L:=L) m (by unfold suM at hm;omega) i).1;omega
  | n+1,m,i,hm,i0,i1,h=>by
    have IH:=all_cx L n
    have hg:=fm_good L
    have hm11:m≤11:=by unfold suM at hm;omega
    have hnl:=need_le (L:=L) m hm11 i
    have key:∀ j,i < j→j≤i+2→0≤i→i < (L.length:Int)→Cq L j:=fun j hj hj2 h0 h1 q x hq hF=>by
      have hf:=far_fw h0 (by omega) hj hF
      have hq':=need_le (L:=L) q (by unfold suM at hq;omega) x
      refine IH q x hq ?_ ?_ (by omega)
      all_goals unfold Fw at hF;omega
    by_cases hin:0≤i∧i < (L.length:Int)
    · obtain ⟨h0,h1⟩:=hin
      by_cases c0:m=0
      · subst c0
        rw [fm_sum]
        exact sumS_cx (key (i+2) (by omega) (by omega) h0 h1)
      by_cases c8:m < 8
      · have c4:m=4:=by unfold suM at hm;omega
        subst c4
        unfold needN at h
        rw [if_neg (by omega),if_pos (by omega)] at h
        rw [show (4:Nat)=4+0 from rfl,fm_many 0 (by omega) i0 i1]
        unfold manyS
        split
        · exact cx_at
        · have hpos:1≤farN L i:=by unfold farN;rw [if_neg (by omega)];omega
          have ho:Cx L i (fm L 0 i):=IH 0 i (Or.inl rfl) i0 i1 (by unfold needN;rw [if_pos (by decide)];omega)
          have hE:=hg.1 0 i (by decide)
          show Cx L i (fm L (4+0) (fm L 0 i))
          generalize fm L 0 i=y at ho hE
          have hfe:=far_ends hE i1
          unfold Ends at hE
          exact ho.trans (fun e=>by rw [e];exact fm_none _ hm11) (fun hx=>by omega) (IH 4 y hm (by omega) (by omega) (by unfold needN;rw [if_neg (by omega),if_pos (by omega)];omega))
      · obtain ⟨k,rfl⟩:∃ k,m=8+k:=⟨m - 8,by omega⟩
        unfold needN at h
        rw [if_neg (by omega),if_neg (by omega)] at h
        rw [fm_sums k (by omega) i0 i1]
        cases k with
        | zero=>exact cx_at
        | succ k =>
          show Cx L i (if i < 0 then i else fm L (8+k) (fm L 0 i))
          rw [if_neg (by omega)]
          have ho:=IH 0 i (Or.inl rfl) i0 i1 (by unfold needN;rw [if_pos (by decide)];omega)
          have hE:=hg.1 0 i (by decide)
          generalize fm L 0 i=y at ho hE
          have hfe:=far_ends hE i1
          unfold Ends at hE
          exact ho.trans (fun e=>by rw [e];exact fm_none _ (by omega)) (fun hx=>by omega) (IH (8+k) y (Or.inr (Or.inr (by omega))) (by omega) (by omega) (by unfold needN;rw [if_neg (by omega),if_neg (by omega)];omega))
    · have hx:fm L m i=-1∨fm L m i=i:=by
        by_cases h4:m < 4
        · have hE:=hg.1 m i h4
          unfold Ends at hE
          omega
        · have hE:=hg.2 m i (by omega) i0
          unfold Fw at hE
          omega
      rcases hx with hx | hx
      · rw [hx];exact cx_no
      · rw [hx];exact cx_at
def Calm (L:List ByteArray) (i:Int):Prop:=∀ p,i≤p→p < itemE L i→isW (sgAt L p) [40]=true→isW (sgAt L (p+1)) [100,111]=true→∃ q,i≤q∧q < p∧p < itemE L q∧isW (sgAt L q) [40]=true∧isW (sgAt L (q+1)) [102,110]=true
theorem sum_calm {L:List ByteArray} {i:Int} (h:fm L 0 i≠-1):Calm L i:=by
  have hE:=fm_ends (L:=L) 0 (by decide) i
  unfold Ends at hE
  rcases all_cx L _ 0 i (Or.inl rfl) (by omega) (by omega) (Nat.le_refl _) with hx | hx
  · exact absurd hx h
  · unfold Calm
    rw [sum_item h]
    exact hx
theorem plain_calm {L:List ByteArray} {i:Int} (h0:0≤i) (h1:i < (L.length:Int)) (h:plainS (sgAt L i)):Calm L i:=fun p p1 p2 p3 _=>by
  rw [item_one h0 h1 h] at p2
  have:p=i:=by omega
  subst this
  rw [h.1] at p3
  cases p3
end Go.Proofs.YtdgihicpjonjgaaGreatDoor
namespace Go.Proofs.YtdgihicpjonjgaaGreatDoor
open Go.RowKit
section
variable {L:List ByteArray} {i j e x q k:Int}
theorem not41 (h:0≤itemE L i):isW (sgAt L i) [41]=false:=by
  cases hc:isW (sgAt L i) [41]
  · rfl
  · have:=itemE_none (L:=L) (i:=i) (Or.inr (Or.inr hc))
    omega
theorem item_plain (h:0≤itemE L i) (hn:isW (sgAt L i) [40]=false):itemE L i=i+1:=by
  have h1:=itemE_up h
  exact item_one h1.1 (by omega) ⟨hn,not41 h⟩
theorem chI_find:∀ k i,chI L k i e→i≤q→q < e→∃ c,c∈chainP L k i∧c≤q∧q < itemE L c∧0≤itemE L c
  | 0,i,h,h1,h2=>by
    have:i=e:=h
    omega
  | k+1,i,h,h1,h2=>by
    by_cases hq:q < itemE L i
    · exact ⟨i,List.mem_cons_self ..,h1,hq,h.1⟩
    · obtain ⟨c,a,b⟩:=chI_find k _ h.2 (by omega) h2
      exact ⟨c,List.mem_cons_of_mem _ a,b⟩
theorem chI_in:∀ k i,chI L k i e→0≤e→∀ c∈chainP L k i,i≤c∧c < e∧0≤itemE L c∧itemE L c≤e
  | 0,i,_,_,p,hp=>by cases hp
  | k+1,i,h,he,p,hp=>by
    have h1:=itemE_up h.1
    have h2:=chI_ends k _ h.2 he
    rcases List.mem_cons.mp hp with rfl | hp
    · exact ⟨Int.le_refl _,by omega,h.1,by omega⟩
    · have:=chI_in k _ h.2 he p hp
      exact ⟨by omega,this.2⟩
theorem chI_before:∀ m i,chI L m i e→0≤e→k∈chainP L m i→i≤q→q < k→∃ c,0≤itemE L c∧c≤q∧q < itemE L c∧itemE L c≤k
  | 0,i,_,_,hk,_,_=>by cases hk
  | m+1,i,h,he,hk,h1,h2=>by
    rcases List.mem_cons.mp hk with rfl | hk
    · omega
    · by_cases hq:q < itemE L i
      · have:=chI_in m _ h.2 he k hk
        exact ⟨i,h.1,h1,hq,this.1⟩
      · exact chI_before m _ h.2 he hk (by omega) h2
theorem plcs_chI:∀ k f i,chI L k i e→0≤e→e≤(L.length:Int)→endB L e→k≤f→plcs L f i=chainP L k i
  | 0,f,i,h,he,_,hb,hk=>by
    have hi:i=e:=h
    subst hi
    cases f with
    | zero=>rfl
    | succ f =>
      unfold plcs
      rw [if_neg]
      · rfl
      · rintro ⟨a,b,c⟩
        rcases hb with hb | hb
        · omega
        · rw [hb] at c
          exact absurd c (by decide)
  | k+1,f,i,h,he,hl,hb,hk=>by
    obtain ⟨f,rfl⟩:∃ g,f=g+1:=⟨f - 1,by omega⟩
    have h1:=itemE_up h.1
    have h2:=chI_ends k _ h.2 he
    unfold plcs
    rw [if_pos ⟨h1.1,by omega,not41 h.1⟩,plcs_chI k f _ h.2 he hl hb (by omega)]
    rfl
theorem plc_chI {m:Nat} (h:chI L m i e) (he:0≤e) (hl:e≤(L.length:Int)) (hb:endB L e):plc L i=chainP L m i:=by
  have h1:=chI_ends m i h he
  exact plcs_chI m _ i h he hl hb (by omega)
theorem nest:∀ (n:Nat) (i q:Int),(itemE L i - i).toNat≤n→isW (sgAt L i) [40]=true→0≤itemE L i→i < q→q < itemE L i→isW (sgAt L q) [41]=false→q < itemE L q∧itemE L q < itemE L i
  | 0,i,q,hn,_,h0,h1,h2,_=>by omega
  | n+1,i,q,hn,ho,h0,h1,h2,h3=>by
    obtain ⟨k,e,hc,he0,hel,he,hit⟩:=item_parts ho h0
    have hqe:q < e:=by
      by_cases hq:q=e
      · rw [hq,he] at h3
        cases h3
      · omega
    obtain ⟨c,hm,c1,c2,c3⟩:=chI_find k _ hc (by omega) hqe
    obtain ⟨d1,d2,d3,d4⟩:=chI_in k _ hc he0 c hm
    by_cases hqc:q=c
    · subst hqc
      exact ⟨c2,by omega⟩
    · have hco:isW (sgAt L c) [40]=true:=by
        cases hz:isW (sgAt L c) [40]
        · have:=item_plain c3 hz
          omega
        · rfl
      have:=nest n c q (by omega) hco c3 (by omega) c2 h3
      omega
def Anc (L:List ByteArray) (q k:Int):Prop:=isW (sgAt L q) [40]=true∧q < k∧k < itemE L q
theorem anc_child {m:Nat} (ho:isW (sgAt L i) [40]=true) (hc:chI L m (i+1) e) (he0:0≤e) (hit:itemE L i=e+1) (hk:k∈chainP L m (i+1)):Anc L q k↔(Anc L q i∨q=i):=by
  obtain ⟨d1,d2,d3,d4⟩:=chI_in m _ hc he0 k hk
  constructor
  · rintro ⟨a,b,c⟩
    by_cases h1:q < i
    · exact Or.inl ⟨a,h1,by omega⟩
    · by_cases h2:q=i
      · exact Or.inr h2
      · exfalso
        obtain ⟨z,z0,z1,z2,z3⟩:=chI_before m _ hc he0 hk (by omega:i+1≤q) b
        by_cases hz:q=z
        · subst hz
          omega
        · have hzo:isW (sgAt L z) [40]=true:=by
            cases hy:isW (sgAt L z) [40]
            · have:=item_plain z0 hy
              omega
            · rfl
          have:=nest _ z q (Nat.le_refl _) hzo z0 (by omega) z2 (isW_other a (by decide))
          omega
  · rintro (⟨a,b,c⟩ | rfl)
    · have h0:0≤itemE L q:=by have:=sgAt_open a;omega
      have:=nest _ q i (Nat.le_refl _) a h0 b c (isW_other ho (by decide))
      exact ⟨a,by omega,by omega⟩
    · exact ⟨ho,by omega,by omega⟩
theorem anc_top {m:Nat} (hc:chI L m 0 e) (he0:0≤e) (hk:k∈chainP L m 0):¬ Anc L q k:=by
  rintro ⟨a,b,c⟩
  have ha:=sgAt_open a
  obtain ⟨z,z0,z1,z2,z3⟩:=chI_before m _ hc he0 hk ha.1 b
  by_cases hz:q=z
  · subst hz
    omega
  · have hzo:isW (sgAt L z) [40]=true:=by
      cases hy:isW (sgAt L z) [40]
      · have:=item_plain z0 hy
        omega
      · rfl
    have:=nest _ z q (Nat.le_refl _) hzo z0 (by omega) z2 (isW_other a (by decide))
    omega
end
def fnB (L:List ByteArray) (q:Int):Bool:=isW (sgAt L (q+1)) [102,110]
def lopB (L:List ByteArray) (q:Int):Bool:=isW (sgAt L (q+1)) [119,104,105,108,101] || isW (sgAt L (q+1)) [102,111,114]
def doB (L:List ByteArray) (q:Int):Bool:=isW (sgAt L q) [40] && isW (sgAt L (q+1)) [100,111]
def Lp (L:List ByteArray) (p:Int):Prop:=∃ q,Anc L q p∧lopB L q=true∧∀ q',Anc L q' p→fnB L q'=true→q' < q
open Classical in
noncomputable def lpB (L:List ByteArray) (p:Int):Bool:=decide (Lp L p)
section
variable {L:List ByteArray} {i j e x q k:Int}
theorem lp_yes (h:Lp L i):lpB L i=true:=by
  unfold lpB
  simpa using h
theorem lp_no (h:¬ Lp L i):lpB L i=false:=by
  unfold lpB
  simpa using h
theorem lp_same (h:Lp L i↔Lp L k):lpB L i=lpB L k:=by
  by_cases hc:Lp L i
  · rw [lp_yes hc,lp_yes (h.1 hc)]
  · rw [lp_no hc,lp_no (fun hk=>hc (h.2 hk))]
theorem fn_not_lop (h:fnB L i=true):lopB L i=false:=by
  unfold fnB at h
  unfold lopB
  rw [isW_other h (by decide),isW_other h (by decide)]
  rfl
theorem lop_not_fn (h:lopB L i=true):fnB L i=false:=by
  cases hc:fnB L i
  · rfl
  · rw [fn_not_lop hc] at h
    cases h
variable {m:Nat} (ho:isW (sgAt L i) [40]=true) (hc:chI L m (i+1) e) (he0:0≤e) (hit:itemE L i=e+1) (hk:k∈chainP L m (i+1))
include ho hc he0 hit hk
theorem lp_fn (hf:fnB L i=true):lpB L k=false:=by
  refine lp_no ?_
  rintro ⟨q,a,b,c⟩
  have h1:=c i ((anc_child ho hc he0 hit hk).2 (Or.inr rfl)) hf
  rcases (anc_child ho hc he0 hit hk).1 a with h2 | rfl
  · have:=h2.2.1
    omega
  · omega
theorem lp_lop (hf:lopB L i=true):lpB L k=true:=by
  refine lp_yes ⟨i,(anc_child ho hc he0 hit hk).2 (Or.inr rfl),hf,fun q' a b=>?_⟩
  rcases (anc_child ho hc he0 hit hk).1 a with h2 | rfl
  · exact h2.2.1
  · rw [lop_not_fn hf] at b
    cases b
theorem lp_else (hf:fnB L i=false) (hl:lopB L i=false):lpB L k=lpB L i:=by
  refine lp_same ⟨?_,?_⟩
  · rintro ⟨q,a,b,c⟩
    rcases (anc_child ho hc he0 hit hk).1 a with h2 | rfl
    · exact ⟨q,h2,b,fun q' a' b'=>c q' ((anc_child ho hc he0 hit hk).2 (Or.inl a')) b'⟩
    · rw [hl] at b
      cases b
  · rintro ⟨q,a,b,c⟩
    refine ⟨q,(anc_child ho hc he0 hit hk).2 (Or.inl a),b,fun q' a' b'=>?_⟩
    rcases (anc_child ho hc he0 hit hk).1 a' with h2 | rfl
    · exact c q' h2 b'
    · rw [hf] at b'
      cases b'
theorem calm_child (hcm:Calm L i) (hf:fnB L i=false):Calm L k:=by
  obtain ⟨d1,d2,d3,d4⟩:=chI_in m _ hc he0 k hk
  intro p p1 p2 p3 p4
  obtain ⟨q,a,b,c,d,f⟩:=hcm p (by omega) (by omega) p3 p4
  by_cases h1:k≤q
  · exact ⟨q,h1,b,c,d,f⟩
  · exfalso
    rcases (anc_child ho hc he0 hit hk).1 ⟨d,by omega,by omega⟩ with h2 | rfl
    · have:=h2.2.1
      omega
    · unfold fnB at hf
      rw [f] at hf
      cases hf
end
theorem lp_top {L:List ByteArray} {e k:Int} {m:Nat} (hc:chI L m 0 e) (he0:0≤e) (hk:k∈chainP L m 0):lpB L k=false :=
  lp_no fun ⟨_,a,_⟩=>anc_top hc he0 hk a
def rngS (f:Int→Int):Nat→Int→Int
  | 0,_=>0
  | n+1,a=>f a+rngS f n (a+1)
theorem rng_add (f:Int→Int):∀ n m a,rngS f (n+m) a=rngS f n a+rngS f m (a+(n:Int))
  | 0,m,a=>by
    rw [Nat.zero_add]
    show _=0+rngS f m (a+((0:Nat):Int))
    rw [show a+((0:Nat):Int)=a by omega]
    omega
  | n+1,m,a=>by
    rw [show n+1+m=(n+m)+1 by omega]
    show f a+rngS f (n+m) (a+1)=f a+rngS f n (a+1)+rngS f m (a+((n+1:Nat):Int))
    rw [rng_add f n m (a+1),show a+1+(n:Int)=a+((n+1:Nat):Int) by omega]
    omega
def sumI:List Int→Int
  | []=>0
  | x :: xs=>x+sumI xs
theorem sumI_same {α:Type} (f g:α→Int):∀ l:List α,(∀ x∈l,f x=g x)→sumI (l.map f)=sumI (l.map g)
  | [],_=>rfl
  | x :: l,h=>by
    show f x+sumI (l.map f)=g x+sumI (l.map g)
    rw [h x (List.mem_cons_self ..),sumI_same f g l fun y hy=>h y (List.mem_cons_of_mem _ hy)]
section
variable {L:List ByteArray} {i j e x q k:Int}
theorem rng_chain (f:Int→Int):∀ m a,chI L m a e→0≤e→rngS f (e - a).toNat a=sumI ((chainP L m a).map fun k=>rngS f (itemE L k - k).toNat k)
  | 0,a,h,_=>by
    have:a=e:=h
    subst this
    rw [Int.sub_self]
    rfl
  | m+1,a,h,he=>by
    have h1:=itemE_up h.1
    have h2:=chI_ends m _ h.2 he
    show _=rngS f (itemE L a - a).toNat a+sumI ((chainP L m (itemE L a)).map fun k=>rngS f (itemE L k - k).toNat k)
    rw [← rng_chain f m _ h.2 he,show (e - a).toNat=(itemE L a - a).toNat+(e - itemE L a).toNat by omega,rng_add]
    rw [show a+(((itemE L a - a).toNat:Nat):Int)=itemE L a by omega]
end
def inrB (L:List ByteArray) (i k:Int) (loop:Bool):Bool:=if fnB L i then false else if lopB L i then itemE L k == itemE L i - 1 else loop
def dosF (L:List ByteArray) (g:Int→Int):Nat→Int→Bool→Int
  | 0,_,_=>0
  | n+1,i,loop=>if isW (sgAt L i) [40]=false then 0 else (if loop && isW (sgAt L (i+1)) [100,111] then g i else 0)+sumI ((plc L (i+1)).map fun k=>dosF L g n k (inrB L i k loop))
noncomputable def wtF (L:List ByteArray) (g:Int→Int) (p:Int):Int:=if doB L p && lpB L p then g p else 0
def Reg (L:List ByteArray):Prop:=∀ i m e,isW (sgAt L i) [40]=true→lopB L i=true→chI L m (i+1) e→0≤e→itemE L i=e+1→∀ k∈chainP L m (i+1),itemE L k≠e→Calm L k
theorem dos_rng {L:List ByteArray} (hR:Reg L) (g:Int→Int):∀ n i loop,(itemE L i - i).toNat≤n→0≤itemE L i→(loop=lpB L i∨Calm L i)→dosF L g n i loop=rngS (wtF L g) (itemE L i - i).toNat i
  | 0,i,loop,hn,h0,_=>by
    have:=itemE_up h0
    omega
  | n+1,i,loop,hn,h0,hok=>by
    unfold dosF
    have hu:=itemE_up h0
    cases ho:isW (sgAt L i) [40]
    · rw [if_pos rfl,item_plain h0 ho,show (i+1 - i).toNat=0+1 by omega]
      show 0=wtF L g i+0
      unfold wtF doB
      rw [ho]
      rfl
    · rw [if_neg (by decide)]
      obtain ⟨m,e,hc,he0,hel,he,hit⟩:=item_parts ho h0
      have hce:=chI_ends m _ hc he0
      rw [plc_chI hc he0 (by omega) (endB_shut he)]
      have hsum:sumI ((chainP L m (i+1)).map fun k=>dosF L g n k (inrB L i k loop))=rngS (wtF L g) (e - (i+1)).toNat (i+1):=by
        rw [rng_chain (wtF L g) m _ hc he0]
        refine sumI_same _ _ _ fun k hk=>?_
        obtain ⟨d1,d2,d3,d4⟩:=chI_in m _ hc he0 k hk
        refine dos_rng hR g n k _ (by omega) d3 ?_
        unfold inrB
        cases hf:fnB L i
        · rw [if_neg (by decide)]
          cases hl:lopB L i
          · rw [if_neg (by decide),lp_else ho hc he0 hit hk hf hl]
            exact hok.imp id fun hcm=>calm_child ho hc he0 hit hk hcm hf
          · rw [if_pos rfl,lp_lop ho hc he0 hit hk hl]
            by_cases hz:itemE L k=e
            · left
              rw [hz,hit]
              simp
            · right
              exact hR i m e ho hl hc he0 hit k hk hz
        · rw [if_pos rfl,lp_fn ho hc he0 hit hk hf]
          exact Or.inl rfl
      rw [hsum,show (itemE L i - i).toNat=((e - (i+1)).toNat+1)+1 by omega]
      show _=wtF L g i+rngS (wtF L g) ((e - (i+1)).toNat+1) (i+1)
      rw [rng_add,show i+1+(((e - (i+1)).toNat:Nat):Int)=e by omega]
      have hwe:rngS (wtF L g) 1 e=0:=by
        show wtF L g e+0=0
        unfold wtF doB
        rw [isW_other he (by decide)]
        rfl
      have hwi:(if loop && isW (sgAt L (i+1)) [100,111] then g i else 0)=wtF L g i:=by
        unfold wtF doB
        rw [ho]
        cases hd:isW (sgAt L (i+1)) [100,111]
        · rw [Bool.and_false,Bool.and_false,Bool.false_and]
        · rw [Bool.and_true,Bool.and_true,Bool.true_and]
          rcases hok with hok | hok
          · rw [hok]
          · obtain ⟨q,a,b,_⟩:=hok i (Int.le_refl _) (by omega) ho hd
            omega
      rw [hwe,hwi]
      omega
theorem dos_le {L:List ByteArray} {g:Int→Int} (hg:∀ p,0≤g p∧g p≤1):∀ n i loop,0≤itemE L i→0≤dosF L g n i loop∧dosF L g n i loop≤itemE L i - i
  | 0,i,loop,h0=>by
    have:=itemE_up h0
    show 0≤(0:Int)∧(0:Int)≤_
    omega
  | n+1,i,loop,h0=>by
    unfold dosF
    have hu:=itemE_up h0
    cases ho:isW (sgAt L i) [40]
    · rw [if_pos rfl]
      omega
    · rw [if_neg (by decide)]
      obtain ⟨m,e,hc,he0,hel,he,hit⟩:=item_parts ho h0
      rw [plc_chI hc he0 (by omega) (endB_shut he)]
      have key:∀ m a,chI L m a e→0≤sumI ((chainP L m a).map fun k=>dosF L g n k (inrB L i k loop))∧sumI ((chainP L m a).map fun k=>dosF L g n k (inrB L i k loop))≤e - a:=fun m=>by
        induction m with
        | zero =>
          intro a h
          have:a=e:=h
          show 0≤(0:Int)∧(0:Int)≤_
          omega
        | succ m ih =>
          intro a h
          have h1:=ih _ h.2
          have h2:=dos_le hg n a (inrB L i a loop) h.1
          show 0≤dosF L g n a (inrB L i a loop)+sumI _∧dosF L g n a (inrB L i a loop)+sumI _≤e - a
          omega
      have h1:=key m _ hc
      have h2:=hg i
      split <;> omega
theorem play_reg {L:List ByteArray} (h:playB L=true):Reg L:=by
  intro i m e ho hl hc he0 hit k hk hne
  obtain ⟨h0,h1⟩:=sgAt_open ho
  have hdw:dwB (sgAt L (i+1))=true:=by
    unfold lopB at hl
    unfold dwB
    rw [hl,Bool.or_true]
  have hd:=play_dv h (dw_dv hdw)
  have hv:ItV L i:=Or.inr hd
  have hp:=hv.plain ho
  have hit1:=(hv.parts ho).1
  have hw1:i+1 < (L.length:Int):=by
    have:=(deed_long hd).2
    omega
  have he41:itemE L e=-1:=by
    obtain ⟨m2,e2,hc2,_,_,he2,hit2⟩:=item_parts ho (by omega:0≤itemE L i)
    have:e=e2:=by omega
    rw [this]
    exact itemE_none (Or.inr (Or.inr he2))
  unfold lopB at hl
  rw [Bool.or_eq_true] at hl
  rcases hl with hl | hl
  · have hw:=hv.word ho _ ([1,2],none) hl (Or.inr rfl) (Or.inl rfl)
    obtain ⟨c1,c2,c3,c4⟩:=close_pos hw.1
    have d1:closeE L ([1,2],none) (i+2)=endW L 2 (endW L 1 (i+2))+1:=c1
    have d2:0≤endW L 2 (endW L 1 (i+2)):=c2
    have hs:fm L 0 (i+2)≠-1:=fun hz=>by
      have:endW L 1 (i+2)=-1:=hz
      rw [this,endW_neg] at d2
      omega
    have e1:itemE L (i+2)=endW L 1 (i+2):=sum_item hs
    have e2:=endW_it (L:=L) (i:=endW L 1 (i+2)) (w:=2) (Or.inr (Or.inl rfl)) (by omega)
    have z1:=fm_ends (L:=L) 0 (by decide) (i+2)
    have y1:endW L 1 (i+2)=fm L 0 (i+2):=rfl
    unfold Ends at z1
    have hch:chI L 3 (i+1) e:=by
      refine ⟨by omega,?_⟩
      rw [hit1]
      refine ⟨by omega,?_⟩
      rw [e1]
      refine ⟨by omega,?_⟩
      show itemE L (endW L 1 (i+2))=e
      rw [e2.2]
      rw [hw.2,d1] at hit
      omega
    obtain ⟨rfl,_⟩:=chI_one m 3 _ hc hch he41 he41
    have hP:chainP L 3 (i+1)=[i+1,i+2,itemE L (i+2)]:=by
      show [i+1,itemE L (i+1),itemE L (itemE L (i+1))]=_
      rw [hit1]
    rw [hP] at hk
    simp only [List.mem_cons,List.not_mem_nil,or_false] at hk
    rcases hk with rfl | rfl | rfl
    · exact plain_calm (by omega) hw1 hp
    · exact sum_calm hs
    · exfalso
      apply hne
      rw [e1,e2.2]
      rw [hw.2,d1] at hit
      omega
  · have hw:=hv.word ho _ ([4,1,1,2],none) hl (Or.inr rfl) (Or.inl rfl)
    obtain ⟨c1,c2,c3,c4⟩:=close_pos hw.1
    have d1:closeE L ([4,1,1,2],none) (i+2)=endW L 2 (endW L 1 (endW L 1 (endW L 4 (i+2))))+1:=c1
    have d2:0≤endW L 2 (endW L 1 (endW L 1 (endW L 4 (i+2)))):=c2
    have hn:endW L 4 (i+2)≠-1:=fun hz=>by
      rw [hz,endW_neg,endW_neg,endW_neg] at d2
      omega
    have hnp:=nm_pos hn
    rw [hnp.1,show i+2+1=i+3 by omega] at d1 d2
    have hs:fm L 0 (i+3)≠-1:=fun hz=>by
      have:endW L 1 (i+3)=-1:=hz
      rw [this,endW_neg,endW_neg] at d2
      omega
    have e1:itemE L (i+3)=endW L 1 (i+3):=sum_item hs
    have hs2:fm L 0 (endW L 1 (i+3))≠-1:=fun hz=>by
      have:endW L 1 (endW L 1 (i+3))=-1:=hz
      rw [this,endW_neg] at d2
      omega
    have e12:itemE L (endW L 1 (i+3))=endW L 1 (endW L 1 (i+3)):=sum_item hs2
    have e2:=endW_it (L:=L) (i:=endW L 1 (endW L 1 (i+3))) (w:=2) (Or.inr (Or.inl rfl)) (by omega)
    have hnm:itemE L (i+2)=i+3:=by
      rw [item_one (by omega) hnp.2.2.2 (nm_plain hnp.2.1)]
      omega
    have z1:=fm_ends (L:=L) 0 (by decide) (i+3)
    have z2:=fm_ends (L:=L) 0 (by decide) (endW L 1 (i+3))
    have y1:endW L 1 (i+3)=fm L 0 (i+3):=rfl
    have y2:endW L 1 (endW L 1 (i+3))=fm L 0 (endW L 1 (i+3)):=rfl
    unfold Ends at z1 z2
    have hch:chI L 5 (i+1) e:=by
      refine ⟨by omega,?_⟩
      rw [hit1]
      refine ⟨by omega,?_⟩
      rw [hnm]
      refine ⟨by omega,?_⟩
      rw [e1]
      refine ⟨by omega,?_⟩
      rw [e12]
      refine ⟨by omega,?_⟩
      show itemE L (endW L 1 (endW L 1 (i+3)))=e
      rw [e2.2]
      rw [hw.2,d1] at hit
      omega
    obtain ⟨rfl,_⟩:=chI_one m 5 _ hc hch he41 he41
    have hP:chainP L 5 (i+1)=[i+1,i+2,i+3,endW L 1 (i+3),endW L 1 (endW L 1 (i+3))]:=by
      show [i+1,itemE L (i+1),itemE L (itemE L (i+1)),itemE L (itemE L (itemE L (i+1))),itemE L (itemE L (itemE L (itemE L (i+1))))]=_
      rw [hit1,hnm,e1,e12]
    rw [hP] at hk
    simp only [List.mem_cons,List.not_mem_nil,or_false] at hk
    rcases hk with rfl | rfl | rfl | rfl | rfl
    · exact plain_calm (by omega) hw1 hp
    · exact plain_calm (by omega) hnp.2.2.2 (nm_plain hnp.2.1)
    · exact sum_calm hs
    · exact sum_calm hs2
    · exfalso
      apply hne
      rw [e2.2]
      rw [hw.2,d1] at hit
      omega
end Go.Proofs.YtdgihicpjonjgaaGreatDoor
namespace Go.Proofs.YtdgihicpjonjgaaGreatDoor
open Go.RowKit
def eqS (x s:ByteArray):Bool:=x.toList == s.toList
noncomputable def decN (L:List ByteArray) (i:Int):List ByteArray:=(plc L i).flatMap (pieceD L false)
noncomputable def usI (L:List ByteArray) (F:Nat→Bool) (r:Nat→Int→ByteArray→Bool→Bool) (i:Int) (s:ByteArray) (fn:Bool):Bool :=
  if isW (sgAt L i) [40]=false then fn && eqS (sgAt L i) s
  else if isW (sgAt L (i+1)) [102,110] then
    (if inB ((plc L (i+3)).map (parN L)) s then false
     else if (plc L (i+3)).any (fun p=>isW (sgAt L p) [40] && r 0 (p+2) s true) then true
     else if inB (decN L (bodyI L i)) s then false else r 1 (bodyI L i) s true)
  else if isW (sgAt L (i+1)) [100,111] then (if inB (decN L (i+2)) s then false else r 1 (i+2) s (fn || F i.toNat))
  else if isW (sgAt L (i+1)) [108,101,116] || (isW (sgAt L (i+1)) [104,103,101,116] || isW (sgAt L (i+1)) [104,112,117,116]) then r 1 (i+3) s fn
  else if isW (sgAt L (i+1)) [115,101,116] then (if fn && eqS (sgAt L (i+2)) s then true else r 1 (i+3) s fn)
  else if isW (sgAt L (i+1)) [116,97,107,101] then r 1 (itemE L (i+2)) s fn
  else if isW (sgAt L (i+1)) [104,105,100,100,101,110] || isW (sgAt L (i+1)) [118,97,114,115] then false
  else if isW (sgAt L (i+1)) [102,111,114] then
    (if r 0 (i+3) s fn || r 0 (itemE L (i+3)) s fn then true else !eqS (sgAt L (i+2)) s && r 0 (itemE L (itemE L (i+3))) s fn)
  else r 1 (i+2) s fn
noncomputable def us (L:List ByteArray) (F:Nat→Bool):Nat→Nat→Int→ByteArray→Bool→Bool
  | 0,_,_,_,_=>false
  | n+1,m,i,s,fn=>if m=0 then usI L F (us L F n) i s fn else (plc L i).any fun p=>us L F n 0 p s fn
section
variable {L:List ByteArray} {i j e x:Int}
theorem dec_chain {k:Nat} (hch:chainD L k i e) (he:0≤e) (hl:e≤(L.length:Int)) (hb:endB L e):dcl L false k i=decN L i:=by
  unfold decN
  rw [plc_chain (chain_deeds k i hch).1 he hl hb,dcl_flat L false k i hch]
theorem decN_len {k:Nat} (hch:chainD L k i e) (he:0≤e) (hl:e≤(L.length:Int)) (hb:endB L e):((decN L i).length:Int)≤e - i:=by
  rw [← dec_chain hch he hl hb]
  exact dcl_len L false k i hch he
theorem ItV.name_end (h:ItV L i) (ho:isW (sgAt L i) [40]=true) (c:List UInt8) (hc:isW (sgAt L (i+1)) c=true) (hcs:c=[108,101,116]∨c=[115,101,116]) :
    i+2 < (L.length:Int)∧∃ k e,chainV L k (i+3) e∧isW (sgAt L e) [41]=true∧itemE L i=e+1:=by
  have hw:closeE L ([4,1],none) (i+2)≠-1∧itemE L i=closeE L ([4,1],none) (i+2):=by
    rcases hcs with rfl | rfl
    · exact h.word ho _ _ hc (Or.inr rfl) (Or.inl rfl)
    · exact h.word ho _ _ hc (Or.inr rfl) (Or.inl rfl)
  obtain ⟨c1,c2,c3,c4⟩:=close_pos hw.1
  have e1:restE L none (partsE L [4,1] (i+2))=endW L 1 (endW L 4 (i+2)):=rfl
  simp only at c1 c2 c3 c4
  rw [e1] at c1 c2 c3 c4
  have hn:endW L 4 (i+2)≠-1:=fun he=>by rw [he,endW_neg] at c2;omega
  have hp:=nm_pos hn
  rw [hp.1,show i+2+1=i+3 by omega] at c1 c2 c3 c4
  have hs:=endW_it (L:=L) (i:=i+3) (w:=1) (Or.inl rfl) (by omega)
  exact ⟨hp.2.2.2,1,_,⟨hs.1,hs.2⟩,c4,by rw [hw.2,c1]⟩
theorem ItV.take_end (h:ItV L i) (ho:isW (sgAt L i) [40]=true) (hc:isW (sgAt L (i+1)) [116,97,107,101]=true) :
    i+2 < itemE L (i+2)∧∃ k e,chainV L k (itemE L (i+2)) e∧isW (sgAt L e) [41]=true∧itemE L i=e+1:=by
  obtain ⟨t1,t2,t3,t4⟩:=h.take_sum ho hc
  have hw:=h.word ho _ ([5,1],none) hc (Or.inr rfl) (Or.inl rfl)
  obtain ⟨c1,c2,c3,c4⟩:=close_pos hw.1
  have d1:closeE L ([5,1],none) (i+2)=endW L 1 (endW L 5 (i+2))+1:=c1
  have d2:0≤endW L 1 (endW L 5 (i+2)):=c2
  have hs0:endW L 5 (i+2)≠-1:=fun hz=>by rw [hz,endW_neg] at d2;omega
  have e5:endW L 5 (i+2)=itemE L (i+2):=by
    have hd:fm L 1 i≠-1:=by
      rcases h with h | h
      · exfalso
        have:=endW_open (L:=L) (i:=i) 1 (by decide) ho
        rw [isW_eq hc,lit_list] at this
        exact h this
      · exact h
    obtain ⟨t1,t2,t3,t4,t5,t6⟩:=take_at hd (isW_eq hc)
    have hk:=skips_names (L:=L) (fm L 5 (i+4) - (i+3)).toNat (i+3) (fm L 5 (i+4)) (by omega) (by have:=(deed_long hd).1;omega) (by omega) t4
    obtain ⟨o0,o1⟩:=sgAt_open t5
    have hit:=(skips_wrap (i:=i+2) (x:=fm L 5 (i+4)) o0 o1 t5 (by rw [show i+2+1=i+3 by omega];exact hk) t2 t3).2
    rw [hit]
    show isE L (fm L 5 (nmE L (isE L (i+2) [40]))) [41]=_
    have hnm:nmE L (i+2+1)=i+4:=by
      unfold nmE
      rw [show i+2+1=i+3 by omega,t4 (i+3) (Int.le_refl _) (by omega)]
      simp
      omega
    rw [isE_is t5,hnm,isE_is t3]
  rw [e5] at d1 d2
  have hs:=endW_it (L:=L) (i:=itemE L (i+2)) (w:=1) (Or.inl rfl) (by omega)
  have c4':isW (sgAt L (endW L 1 (endW L 5 (i+2)))) [41]=true:=c4
  rw [e5] at c4'
  exact ⟨t2,1,_,⟨hs.1,hs.2⟩,c4',by rw [hw.2,d1]⟩
end
def FlgA (w:World) (g n:Nat) (F:Nat→Bool):Prop:=g < w.heap.size∧∀ k,k < n→w.cell? ⟨g,k,none⟩=some (.bool (F k))
theorem FlgA.call {w w':World} {g n:Nat} {F:Nat→Bool} (h:FlgA w g n F) (hb:Below w.heap.size w w'):FlgA w' g n F :=
  ⟨Nat.lt_of_lt_of_le h.1 hb.size,fun k hk=>(hb.cell (p:=⟨g,k,none⟩) h.1).trans (h.2 k hk)⟩
theorem ArgT.sg {w:World} {a:Option Addr} {L:List ByteArray} (h:ArgT w a L) {i:Nat} (hi:i < L.length):∃ sb off,a=some ⟨sb,off,none⟩∧w.cell? ⟨sb,off+i,none⟩=some (.string (sgAt L (i:Int)))∧sb < w.heap.size:=by
  obtain ⟨sb,off,ha,hs,hc,_⟩:=h i hi
  refine ⟨sb,off,ha,?_,hs⟩
  rw [sgAt_in (by omega) (by omega)]
  exact hc
theorem l1At_own (B:Nat) (v:Value) (X:List ByteArray) (s:ByteArray) (w:World) (h:OwnN w B v X) (hl:X.length≤5000000) :
    Calls Tryz.prog 102 #[v,.string s] w fun e w'=>∃ x:Int,e=.returned (.int .i64 x)∧(0≤x↔inB X s=true)∧w'=w:=by
  obtain ⟨g,cap,rfl⟩:=h.shape
  have ht:Txt g 0 X w:=fun i hi=>by
    have:=h.cells i (.string X[i]) (by simp [hi])
    by_cases h0:i=0
    · subst h0
      simpa [Addr.add] using this
    · simpa [Addr.add,h0] using this
  refine (l1At_any g 0 cap X s w ht hl).mono ?_
  rintro e w' ⟨x,rfl,hx,rfl⟩
  exact ⟨x,rfl,hx.trans (inB_iff X s).symm,rfl⟩
def UseC (a:Option Addr) (cap:Nat) (L:List ByteArray) (g fc:Nat) (F:Nat→Bool) (n:Nat):Prop:=∀ (i:Int) (s:ByteArray) (fn:Bool) (W:World),ArgT W a L→FlgA W g L.length F→ItV L i→2 * farN L i≤n →
  Calls Tryz.prog 112 #[.slice a L.length cap,.slice (some ⟨g,0,none⟩) L.length fc,.int .i64 i,.string s,.bool fn] W fun e w'=>e=.returned (.bool (us L F n 0 i s fn))∧Below W.heap.size W w'
def AnyC (a:Option Addr) (cap:Nat) (L:List ByteArray) (g fc:Nat) (F:Nat→Bool) (n:Nat):Prop:=∀ (i e:Int) (k:Nat) (s:ByteArray) (fn:Bool) (W:World),ArgT W a L→FlgA W g L.length F→chainV L k i e→0≤e→e≤(L.length:Int)→endB L e→2 * farN L i+1≤n →
  Calls Tryz.prog 62 #[.slice a L.length cap,.slice (some ⟨g,0,none⟩) L.length fc,.int .i64 i,.string s,.bool fn] W fun e w'=>e=.returned (.bool (us L F n 1 i s fn))∧Below W.heap.size W w'
set_option maxHeartbeats 2000000 in
theorem l17Any_any {a:Option Addr} {cap:Nat} {L:List ByteArray} {g fc:Nat} {F:Nat→Bool} {n:Nat} (hU:UseC a cap L g fc F n) (hL:L.length≤2000):AnyC a cap L g fc F (n+1):=by
  intro i e k s fn w h hF hch he0 he1 hend hn
  have hce:=chainV_ends k i hch he0
  have HT:Hid (us L F (n+1) 1 i s fn=(chainP L k i).any fun p=>us L F n 0 p s fn):=(by
    show (plc L i).any _=_
    rw [plc_chain hch he0 he1 hend]:us L F (n+1) 1 i s fn=(chainP L k i).any fun p=>us L F n 0 p s fn)
  rw [HT.out]
  clear HT
  obtain ⟨f,hf⟩:∃ f:Int→Bool,f=fun p=>us L F n 0 p s fn:=⟨_,rfl⟩
  rw [← hf]
  have HF:Hid (∀ p,us L F n 0 p s fn=f p):=fun p=>by rw [hf]
  clear hf
  go_enter Tryz.func62,Tryz.ntmps62
  go_wp2
  go_loopw [2] (fun v2 wr=>∃ (x m:Nat),v2=.int .i64 (x:Int)∧i≤(x:Int)∧chainV L m (x:Int) e∧Below w.heap.size w wr∧Hid ((chainP L m (x:Int)).any f=(chainP L k i).any f)) (fun v2 _=>e.toNat - (intOf v2).toNat)
  case atStart =>
    obtain ⟨q,hq⟩:∃ q:Nat,i=(q:Int):=⟨i.toNat,by omega⟩
    subst hq
    exact ⟨q,k,rfl,Int.le_refl _,hch,Below.refl _ _,rfl⟩
  case round =>
    obtain ⟨x,m,rfl,hix,hm,hB,HP⟩:=hrel
    have hxe:=chainV_ends m _ hm he0
    have hA:=h.call hB
    have hFr:=hF.call hB
    cases m with
    | zero =>
      have ex:(x:Int)=e:=hm
      have HM:Hid ((decide ((x:Int) < (L.length:Int)) && !isW (sgAt L (x:Int)) [41])=false):=(by rw [ex];exact more_no hend:(decide ((x:Int) < (L.length:Int)) && !isW (sgAt L (x:Int)) [41])=false)
      have HE:Hid ((chainP L k i).any f=false):=(by rw [← HP.out];rfl:(chainP L k i).any f=false)
      clear HP ex hm
      go_wp2_with fail
      refine (l5More_any a cap L (x:Int) _ hA (by omega) (by omega) (by omega)).mono ?_
      rintro r w1 ⟨rfl,hb1⟩
      rw [HM.out]
      go_wp2
      go_ret
      exact ⟨by rw [HE.out];rfl,bstep hB hb1⟩
    | succ m =>
      obtain ⟨hv,hm2⟩:=hm
      have hve:=hv.ends
      have hq:=chainV_ends m _ hm2 he0
      have hfar:=far_le (L:=L) (by omega:0≤i) hix
      have HM:Hid ((decide ((x:Int) < (L.length:Int)) && !isW (sgAt L (x:Int)) [41])=true):=(by rw [hv.not41,decide_eq_true (by omega)];rfl:(decide ((x:Int) < (L.length:Int)) && !isW (sgAt L (x:Int)) [41])=true)
      have HPx:Hid ((f (x:Int) || (chainP L m (itemE L (x:Int))).any f)=(chainP L k i).any f):=HP.out
      have HC:Hid (∀ W:World,ArgT W a L→FlgA W g L.length F→Calls Tryz.prog 112 #[.slice a L.length cap,.slice (some ⟨g,0,none⟩) L.length fc,.int .i64 (x:Int),.string s,.bool fn] W fun e w'=>e=.returned (.bool (f (x:Int)))∧Below W.heap.size W w'):=fun W hW hG=>by
        have:=hU (x:Int) s fn W hW hG hv (by omega)
        rw [HF.out] at this
        exact this
      clear HP
      obtain ⟨z,hz⟩:∃ z:Nat,itemE L (x:Int)=(z:Int):=⟨(itemE L (x:Int)).toNat,by omega⟩
      have HZ:Hid (itemE L (x:Int)=(z:Int)):=hz
      rw [hz] at HPx hm2 hve hq
      clear hz
      generalize f (x:Int)=o at HC HPx
      go_wp2_with fail
      refine (l5More_any a cap L (x:Int) _ hA (by omega) (by omega) (by omega)).mono ?_
      rintro r w1 ⟨rfl,hb1⟩
      rw [HM.out]
      have hB1:=bstep hB hb1
      go_wp2_with fail
      refine (HC.out _ (h.call hB1) (hF.call hB1)).mono ?_
      rintro r w2 ⟨rfl,hb2⟩
      have hB2:=bstep hB1 hb2
      clear HC
      cases o
      · go_wp2_with fail
        refine (itemEndS_any a cap L (x:Int) _ (h.call hB2) (by omega) ⟨by omega,by omega⟩).mono ?_
        rintro r w3 ⟨rfl,hb3⟩
        have hB3:=bstep hB2 hb3
        rw [HZ.out]
        go_wp2
        go_roundw
        case rel=>exact ⟨z,m,rfl,by omega,hm2,hB3,HPx.out⟩
        case measure=>simp [intOf];omega
      · have HE:Hid ((chainP L k i).any f=true):=HPx.out.symm
        go_wp2
        go_ret
        exact ⟨by rw [HE.out];rfl,hB2⟩
end Go.Proofs.YtdgihicpjonjgaaGreatDoor
namespace Go.Proofs.YtdgihicpjonjgaaGreatDoor
open Go.RowKit
def spnB (L:List ByteArray) (H:List ByteArray) (p:Int):Bool:=isW (sgAt L p) [40] && H.any fun x=>eqS (sgAt L (p+1)) x
def spn (L:List ByteArray) (H:List ByteArray):Nat→List (Int × Int)
  | 0=>[]
  | k+1=>spn L H k++(if spnB L H (k:Int) then [((k:Int),itemE L (k:Int))] else [])
def flatS (S:List (Int × Int)):List Value:=S.flatMap fun s=>[.int .i64 s.1,.int .i64 s.2]
theorem flatS_snoc (S:List (Int × Int)) (s:Int × Int):flatS (S++[s])=flatS S++[.int .i64 s.1,.int .i64 s.2]:=by
  unfold flatS
  rw [List.flatMap_append]
  rfl
theorem flatS_at:∀ (S:List (Int × Int)) (k:Nat) (h:k < S.length),(flatS S)[k * 2]?=some (.int .i64 S[k].1)∧(flatS S)[k * 2+1]?=some (.int .i64 S[k].2)
  | [],k,h=>absurd h (Nat.not_lt_zero _)
  | s :: S,0,_=>⟨rfl,rfl⟩
  | s :: S,k+1,h=>by
    have ih:=flatS_at S k (by simpa using h)
    have e:flatS (s :: S)=.int .i64 s.1 :: .int .i64 s.2 :: flatS S:=rfl
    rw [e,show (k+1) * 2=k * 2+1+1 by omega,show k * 2+1+1+1=(k * 2+1)+1+1 by omega]
    simpa using ih
theorem spn_len (L H:List ByteArray):∀ k,(spn L H k).length≤k
  | 0=>Nat.le_refl _
  | k+1=>by
    have:=spn_len L H k
    show (spn L H k++_).length≤k+1
    rw [List.length_append]
    split <;> simp <;> omega
theorem spn_mem (L H:List ByteArray) (s:Int × Int):∀ k,s∈spn L H k↔(0≤s.1∧s.1 < (k:Int)∧spnB L H s.1=true∧s.2=itemE L s.1)
  | 0=>by
    constructor
    · intro h
      cases h
    · rintro ⟨a,b,_⟩
      omega
  | k+1=>by
    show s∈spn L H k++_↔_
    rw [List.mem_append,spn_mem L H s k]
    constructor
    · rintro (⟨a,b,c,d⟩ | h)
      · exact ⟨a,by omega,c,d⟩
      · split at h
        · rename_i hb
          rw [List.mem_singleton] at h
          subst h
          exact ⟨by omega,by omega,hb,rfl⟩
        · cases h
    · rintro ⟨a,b,c,d⟩
      by_cases hk:s.1 < (k:Int)
      · exact Or.inl ⟨a,hk,c,d⟩
      · right
        have e:s.1=(k:Int):=by omega
        rw [e] at c d
        rw [if_pos c,List.mem_singleton]
        exact Prod.ext e d
def arnB (s:Int × Int) (at_:Int):Bool:=decide (s.1 < at_) && decide (at_ < s.2)
def inm (at_:Int):List (Int × Int)→Int→Int
  | [],m=>m
  | s :: S,m=>inm at_ S (if arnB s at_ then max m s.1 else m)
theorem inm_spec (at_:Int):∀ (S:List (Int × Int)) (m:Int),m≤inm at_ S m∧(inm at_ S m=m∨∃ s∈S,s.1=inm at_ S m∧arnB s at_=true)∧∀ s∈S,arnB s at_=true→s.1≤inm at_ S m
  | [],m=>⟨Int.le_refl _,Or.inl rfl,fun s h=>by cases h⟩
  | s :: S,m=>by
    obtain ⟨h1,h2,h3⟩:=inm_spec at_ S (if arnB s at_ then max m s.1 else m)
    show m≤inm at_ S _∧(inm at_ S _=m∨∃ t∈s :: S,t.1=inm at_ S _∧arnB t at_=true)∧∀ t∈s :: S,arnB t at_=true→t.1≤inm at_ S _
    generalize inm at_ S (if arnB s at_ then max m s.1 else m)=r at h1 h2 h3
    cases hb:arnB s at_
    · rw [hb] at h1 h2
      simp only [Bool.false_eq_true,if_false] at h1 h2
      refine ⟨h1,?_,fun t ht hta=>?_⟩
      · rcases h2 with h2 | ⟨t,a,b⟩
        · exact Or.inl h2
        · exact Or.inr ⟨t,List.mem_cons_of_mem _ a,b⟩
      · rcases List.mem_cons.mp ht with rfl | ht
        · rw [hb] at hta
          cases hta
        · exact h3 t ht hta
    · rw [hb] at h1 h2
      simp only [if_true] at h1 h2
      refine ⟨by omega,?_,fun t ht hta=>?_⟩
      · rcases h2 with h2 | ⟨t,a,b⟩
        · by_cases hm:s.1≤m
          · left
            omega
          · right
            exact ⟨s,List.mem_cons_self ..,by omega,hb⟩
        · exact Or.inr ⟨t,List.mem_cons_of_mem _ a,b⟩
      · rcases List.mem_cons.mp ht with rfl | ht
        · omega
        · exact h3 t ht hta
def fnT:ByteArray:=⟨#[102,110]⟩
def whT:ByteArray:=⟨#[119,104,105,108,101]⟩
def foT:ByteArray:=⟨#[102,111,114]⟩
def doT:ByteArray:=⟨#[100,111]⟩
def lopS (L:List ByteArray):List (Int × Int):=spn L [whT,foT] L.length
def fnS (L:List ByteArray):List (Int × Int):=spn L [fnT] L.length
def doS (L:List ByteArray):List (Int × Int):=spn L [doT] L.length
theorem eqS_lit (s:ByteArray) (c:List UInt8):eqS s ⟨c.toArray⟩=isW s c:=by
  show (s.toList == (⟨c.toArray⟩:ByteArray).toList)=(s.toList == c)
  rw [show (⟨c.toArray⟩:ByteArray).toList=c from lit_list c]
theorem spn_lop (L:List ByteArray) (p:Int):spnB L [whT,foT] p=(isW (sgAt L p) [40] && lopB L p):=by
  unfold spnB lopB
  simp only [List.any_cons,List.any_nil,Bool.or_false]
  rw [show whT=⟨([119,104,105,108,101]:List UInt8).toArray⟩ from rfl,show foT=⟨([102,111,114]:List UInt8).toArray⟩ from rfl,eqS_lit,eqS_lit]
theorem spn_fn (L:List ByteArray) (p:Int):spnB L [fnT] p=(isW (sgAt L p) [40] && fnB L p):=by
  unfold spnB fnB
  simp only [List.any_cons,List.any_nil,Bool.or_false]
  rw [show fnT=⟨([102,110]:List UInt8).toArray⟩ from rfl,eqS_lit]
theorem spn_do (L:List ByteArray) (p:Int):spnB L [doT] p=doB L p:=by
  unfold spnB doB
  simp only [List.any_cons,List.any_nil,Bool.or_false]
  rw [show doT=⟨([100,111]:List UInt8).toArray⟩ from rfl,eqS_lit]
theorem arn_iff (s:Int × Int) (p:Int):arnB s p=true↔(s.1 < p∧p < s.2):=by
  unfold arnB
  rw [Bool.and_eq_true,decide_eq_true_iff,decide_eq_true_iff]
theorem spn_anc {L H:List ByteArray} {q p:Int} (ha:Anc L q p) (hb:spnB L H q=true):(q,itemE L q)∈spn L H L.length∧arnB (q,itemE L q) p=true:=by
  have h0:=sgAt_open ha.1
  exact ⟨(spn_mem L H _ _).2 ⟨h0.1,h0.2,hb,rfl⟩,(arn_iff _ _).2 ⟨ha.2.1,ha.2.2⟩⟩
theorem anc_spn {L H:List ByteArray} {s:Int × Int} {p:Int} (hm:s∈spn L H L.length) (hb:arnB s p=true):Anc L s.1 p∧spnB L H s.1=true∧0≤s.1:=by
  obtain ⟨h0,h1,h2,h3⟩:=(spn_mem L H _ _).1 hm
  obtain ⟨h4,h5⟩:=(arn_iff _ _).1 hb
  have ho:isW (sgAt L s.1) [40]=true:=by
    unfold spnB at h2
    rw [Bool.and_eq_true] at h2
    exact h2.1
  exact ⟨⟨ho,h4,by rw [← h3];exact h5⟩,h2,h0⟩
theorem inm_lp (L:List ByteArray) (p:Int):decide (inm p (fnS L) (-1) < inm p (lopS L) (-1))=lpB L p:=by
  obtain ⟨f1,f2,f3⟩:=inm_spec p (fnS L) (-1)
  obtain ⟨l1,l2,l3⟩:=inm_spec p (lopS L) (-1)
  by_cases hc:inm p (fnS L) (-1) < inm p (lopS L) (-1)
  · rw [decide_eq_true hc]
    rcases l2 with l2 | ⟨s,a,b,c⟩
    · omega
    · obtain ⟨d1,d2,d3⟩:=anc_spn a c
      rw [spn_lop,Bool.and_eq_true] at d2
      refine (lp_yes ⟨s.1,d1,d2.2,fun q' hq hf=>?_⟩).symm
      obtain ⟨e1,e2⟩:=spn_anc (H:=[fnT]) hq (by rw [spn_fn,hq.1,hf];rfl)
      have:=f3 _ e1 e2
      simp only at this
      omega
  · rw [decide_eq_false hc]
    refine (lp_no ?_).symm
    rintro ⟨q,a,b,c⟩
    obtain ⟨e1,e2⟩:=spn_anc (H:=[whT,foT]) a (by rw [spn_lop,a.1,b];rfl)
    have h1:=l3 _ e1 e2
    simp only at h1
    rcases f2 with f2 | ⟨s,d1,d2,d3⟩
    · have:=(sgAt_open a.1).1
      omega
    · obtain ⟨g1,g2,g3⟩:=anc_spn d1 d3
      rw [spn_fn,Bool.and_eq_true] at g2
      have:=c s.1 g1 g2.2
      omega
end Go.Proofs.YtdgihicpjonjgaaGreatDoor
