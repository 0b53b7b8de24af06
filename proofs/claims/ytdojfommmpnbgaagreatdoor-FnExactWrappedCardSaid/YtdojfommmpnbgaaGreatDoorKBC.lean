import Derived.Test.YtdojfommmpnbgaaGreatDoorKBB
namespace Go.Proofs.YtdojfommmpnbgaaGreatDoor
open Go.RowKit Go.Proofs.Tryz
def iU(s:ByteArray):Bool:=ae s [100,111]||(ae s [119,104,105,108,101]||ae s [102,111,114])
def oQ:List (List UInt8):=[[100,111],[119,104,105,108,101],[102,111,114],[108,101,116],[116,97,107,101],[118,97,114,115],[104,105,100,100,101,110]]
def jA(s:ByteArray):Bool:=oQ.any (ae s)
theorem mA{s:ByteArray}{c:List UInt8}(h:ae s c=true)(hc:c∈oQ):jA s=true:=List.any_eq_true.2 ⟨c,hc,h⟩
theorem zF{s:ByteArray}(h:iU s=true):jA s=true:=by
  unfold iU at h;rw[Bool.or_eq_true,Bool.or_eq_true]at h;rcases h with h|h|h<;>exact mA h (by decide)
theorem zC{s:ByteArray}(h:jA s=false):iU s=false:=by
  cases hc:iU s
  · rfl
  · rw[zF hc]at h
    cases h
theorem sr{s:ByteArray}{c:List UInt8}(h:ae s c=true)(hc:oQ.any (c==·)=false):jA s=false :=
  List.any_eq_false.2 fun d hd=>by rw[aQ h (by simpa using List.any_eq_false.1 hc d hd)];decide
def Gd(L:af)(k:Int):Prop:=jA (aa L k)=true→fm L 1 (k-1)≠-1
def Gy(L:af)(i x:Int):Prop:=x=-1∨∀k,i≤k→k<x→Gd L k
section
variable {L:af} {i j x:Int}
theorem oY(h:jA (aa L i)=false):Gd L i:=fun hd=>by rw[h]at hd;cases hd
theorem BZ{s:ByteArray}(h:ic s=true):jA s=false:=by
  cases hc:jA s
  · rfl
  · obtain⟨c,h1,h2⟩:=List.any_eq_true.1 hc
    rw[aZ h2,(by decide +kernel:∀c∈oQ,ic ⟨c.toArray⟩=false) c h1]at h
    cases h
theorem BN{s:ByteArray}(h:aV s=true):jA s=false:=BZ (by unfold ic;rw[h,Bool.or_true])
theorem BO{s:ByteArray}(h:aV s=true):iU s=false:=zC (BN h)
theorem lW:Gy L i i:=Or.inr fun k h1 h2=>absurd h2 (by omega)
theorem qI:Gy L i (-1):=Or.inl rfl
theorem F8{c:Prop}[Decidable c]{y:Int}(h1:Gy L i x)(h2:Gy L i y):Gy L i (if c then x else y):=by split<;>assumption
theorem Gy.trans{y:Int}(h:Gy L i x)(hn:x=-1→y=-1)(k:Gy L x y):Gy L i y:=by
  rcases h with h|h
  · exact Or.inl (hn h)
  · rcases k with k|k
    · exact Or.inl k
    · exact Or.inr fun j h1 h2=>if hj:j<x then h j h1 hj else k j (by omega) h2
theorem qH(h:Gy L i x)(hx:x≠-1)(hg:Gd L x):Gy L i (x+1):=by
  rcases h with h|h
  · exact absurd h hx
  · refine Or.inr fun k h2 h3=>?_
    by_cases hk:k<x
    · exact h k h2 hk
    · have:k=x:=by omega
      subst this
      exact hg
theorem kM(h:Gy L i x):Gy L i (aK L x [41]):=by
  by_cases hn:aK L x [41]=-1
  · exact Or.inl hn
  · obtain⟨he,h0,h1,hb⟩:=gM (by decide) hn
    rw[he]
    exact qH h (by omega) (oY (sr hb (by decide)))
theorem Ak(h:Gy L i x):Gy L i (aK L x [40]):=by
  by_cases hn:aK L x [40]=-1
  · exact Or.inl hn
  · obtain⟨he,h0,h1,hb⟩:=gM (by decide) hn
    rw[he]
    exact qH h (by omega) (oY (sr hb (by decide)))
theorem pa(h:Gy L i x):Gy L i (aU L x):=by
  by_cases hn:aU L x=-1
  · exact Or.inl hn
  · obtain⟨he,h0,h1,hb⟩:=jF hn
    rw[he]
    exact qH h (by omega) (oY (BN hb))
theorem Aj(hG:Gd L i)(hp:Gd L (i+1))(h:Gy L (i+2) x):Gy L i x:=by
  rcases h with h|h
  · exact Or.inl h
  · refine Or.inr fun k h2 h3=>?_
    by_cases h4:k=i
    · subst h4;exact hG
    · by_cases h5:k=i+1
      · subst h5;exact hp
      · exact h k (by omega) h3
def Cd(L:af)(j:Int):Prop:=∀m x,m≤11→Fw L j x→Gy L x (fm L m x)
theorem Cd.go(hr:Cd L j){m:Nat}(hm:m≤11)(hF:Fw L j x)(h:Gy L i x):Gy L i (fm L m x):=h.trans (fun e=>by rw[e];exact gu m hm) (hr m x hm hF)
theorem Ac(ho:ae (aa L i) [40]=true)(hf:jA (aa L (i+1))=true→fm L 1 i≠-1):Gd L i∧Gd L (i+1) :=
  ⟨oY (sr ho (by decide)),fun h=>by rw[show i+1-1=i by omega];exact hf h⟩
theorem Di(h:fm L 0 i≠-1)(ho:ae (aa L i) [40]=true):jA (aa L (i+1))=false:=by
  cases hc:jA (aa L (i+1))
  · rfl
  · exfalso
    have he:=mB (L:=L) (i:=i) 1 (by decide) ho
    obtain⟨c,h1,h2⟩:=List.any_eq_true.1 hc
    rw[aZ h2,bE]at he
    simp only[oQ,List.mem_cons,List.not_mem_nil,or_false]at h1
    rcases h1 with rfl|rfl|rfl|rfl|rfl|rfl|rfl<;>exact h he
theorem M4(h:fm L 0 i≠-1)(ho:ae (aa L i) [40]=true):iU (aa L (i+1))=false:=zC (Di h ho)
theorem MP(hr:Cd L (i+2)):Gy L i (bR L (fm L) i):=by
  by_cases hne:bR L (fm L) i=-1
  · exact Or.inl hne
  rw[←ln]at hne;have hv:aH L i:=Or.inl hne;cases ho:ae (aa L i) [40]
  · unfold bR
    rw[ho]
    simp only[Bool.false_eq_true,if_false]
    split
    · rename_i h1
      exact qH lW (by have:=hv.ends;omega) (oY (BZ h1))
    · exact qI
  · obtain⟨g0,g1⟩:=Ac ho (fun hf=>by rw[Di hne ho]at hf;cases hf)
    obtain⟨h0,h1⟩:=bF ho
    refine Aj g0 g1 ?_
    have hg:=gr L
    have hs:Fw L (i+2) (i+2):=iW (by omega)
    have ha:Gy L (i+2) (i+2):=lW
    unfold bR
    rw[ho]
    simp only[if_true]
    split
    · exact kM (hr.go (by decide) hs ha)
    · split
      · have F7:=(fT (c:=[40]) (by decide) hs).I
        have F6:=(fT (c:=[41]) (by decide) (hg.I (m:=7) (by decide) F7)).I
        exact kM (hr.go (by decide) F6 (kM (hr.go (by decide) F7 (Ak ha))))
      · split
        · exact kM (hr.go (by decide) (hg.ends (m:=0) (by decide) hs).I (hr.go (by decide) hs ha))
        · split
          · exact kM (hr.go (by decide) hs ha)
          · split
            · exact kM ha
            · split
              · exact kM (hr.go (by decide) (eD hs).I (pa ha))
              · exact qI
theorem zo(f:Bool)(hr:Cd L (i+2)):Gy L i (dB L (fm L) f i):=by
  by_cases hne:dB L (fm L) f i=-1
  · exact Or.inl hne
  have hd:fm L 1 i≠-1:=by
    cases f
    · rw[←nJ]at hne
      rw[wU hne]
      exact hne
    · rw[←ll]at hne
      exact hne
  have ho:=lR hd;obtain⟨h0,h1⟩:=bF ho;obtain⟨g0,g1⟩:=Ac ho (fun _=>hd);have hg:=gr L;have hs:Fw L (i+2) (i+2):=iW (by omega);have ha:Gy L (i+2) (i+2):=lW;refine Aj g0 g1 ?_;unfold dB;rw[if_pos ho];split
  · exact qI
  · cases ht:ae (aa L (i+1)) [116,97,107,101]
    · unfold bp
      rw[ht]
      simp only[Bool.false_eq_true,if_false]
      repeat' (first|exact qI|with_reducible refine F8 ?_ ?_|exact hs|exact ha|refine kM ?_|refine pa ?_|refine hr.go (by decide) ?_ ?_|refine hg.I (by decide) ?_|refine hg.ends (by decide) ?_|refine fT (by decide) ?_|refine eD ?_|refine Ends.I ?_)
    · rw[aZ ht,sj]
      have F4:=(fT (c:=[40]) (by decide) hs).I
      have F5:=(eD (L:=L) F4).I
      have F0:=(fT (c:=[41]) (by decide) (hg.I (m:=5) (by decide) F5)).I
      exact kM (hr.go (by decide) F0 (kM (hr.go (by decide) F5 (pa (Ak ha)))))
theorem Ko(hr:Cd L (i+1)):Gy L i (eG L (fm L) i):=by
  by_cases hne:eG L (fm L) i=-1
  · exact Or.inl hne
  rw[←nK]at hne;obtain⟨h0,h1,hpp⟩:=jY hne;unfold eG;rcases hpp with⟨q1,q2,q3,_⟩|⟨q1,q2,_⟩
  · rw[if_pos q1]
    have hs:Fw L (i+1) (i+1):=iW (by omega)
    have ha:Gy L i (i+1):=qH lW (by omega) (oY (sr q1 (by decide)))
    exact kM (hr.go (by decide) (eD hs).I (pa ha))
  · rw[if_neg (by rw[q1];decide)]
    exact pa lW
end
theorem xP(L:af):∀n m i,m≤11→-1≤i→i≤(L.length:Int)+1→cM L m i≤n→Gy L i (fm L m i)
  |0,m,i,hm,_,_,h=>by have:=(iL (L:=L) m hm i).1;omega
  |n+1,m,i,hm,i0,i1,h=>by
    have IH:=xP L n;have hg:=gr L;have hnl:=iL (L:=L) m hm i;have key:∀j,i<j→j≤i+2→0≤i→i<(L.length:Int)→Cd L j:=fun j hj hj2 h0 h1 q x hq hF=>by
      have hf:=sD h0 (by omega) hj hF;have hq':=iL (L:=L) q hq x;refine IH q x hq ?_ ?_ (by omega);all_goals unfold Fw at hF;omega
    by_cases hin:0≤i∧i<(L.length:Int)
    · obtain⟨h0,h1⟩:=hin
      by_cases c0:m=0
      · subst c0
        rw[ln]
        exact MP (key (i+2) (by omega) (by omega) h0 h1)
      by_cases c1:m=1
      · subst c1
        rw[ll]
        exact zo true (key (i+2) (by omega) (by omega) h0 h1)
      by_cases c2:m=2
      · subst c2
        rw[nJ]
        exact zo false (key (i+2) (by omega) (by omega) h0 h1)
      by_cases c3:m=3
      · subst c3
        rw[nK]
        exact Ko (key (i+1) (by omega) (by omega) h0 h1)
      by_cases c8:m<8
      · obtain⟨q,rfl⟩:∃q,m=4+q:=⟨m-4,by omega⟩
        unfold cM at h
        rw[if_neg (by omega),if_pos (by omega)]at h
        rw[jB q (by omega) i0 i1]
        unfold eC
        split
        · exact lW
        · have hpos:1≤aB L i:=by unfold aB;rw[if_neg (by omega)];omega
          have ho:Gy L i (fX L (fm L) q i):=by
            unfold fX;split
            · exact IH 0 i (by decide) i0 i1 (by unfold cM;rw[if_pos (by decide)];omega)
            · split
              · exact pa lW
              · split
                · exact IH 1 i (by decide) i0 i1 (by unfold cM;rw[if_pos (by decide)];omega)
                · exact IH 3 i (by decide) i0 i1 (by unfold cM;rw[if_pos (by decide)];omega)
          have hE:=mR hg q i0
          generalize fX L (fm L) q i=y at ho hE
          have hfe:=gV hE i1
          unfold Ends at hE
          exact ho.trans (fun e=>by rw[e];exact gu _ hm) (IH (4+q) y hm (by omega) (by omega) (by unfold cM;rw[if_neg (by omega),if_pos (by omega)];omega))
      · obtain⟨k,rfl⟩:∃k,m=8+k:=⟨m-8,by omega⟩
        unfold cM at h
        rw[if_neg (by omega),if_neg (by omega)]at h
        rw[qB k (by omega) i0 i1]
        cases k with
        |zero=>exact lW
        |succ k =>
          show Gy L i (if i<0 then i else fm L (8+k) (fm L 0 i));rw[if_neg (by omega)];have ho:=IH 0 i (by decide) i0 i1 (by unfold cM;rw[if_pos (by decide)];omega);have hE:=hg.1 0 i (by decide);generalize fm L 0 i=y at ho hE;have hfe:=gV hE i1;unfold Ends at hE;exact ho.trans (fun e=>by rw[e];exact gu _ (by omega)) (IH (8+k) y (by omega) (by omega) (by omega) (by unfold cM;rw[if_neg (by omega),if_neg (by omega)];omega))
    · have hx:fm L m i=-1∨fm L m i=i:=by
        by_cases h4:m<4
        · have hE:=hg.1 m i h4
          unfold Ends at hE
          omega
        · have hE:=hg.2 m i (by omega) i0
          unfold Fw at hE
          omega
      rcases hx with hx|hx
      · rw[hx];exact qI
      · rw[hx];exact lW
theorem zu{L:af}{e:Int}:∀k i,ey L k i e→0≤e→∀j,i≤j→j<e→Gd L j
  |0,i,h,_,j,h1,h2=>by
    have:i=e:=h;omega
  |k+1,i,h,he,j,h1,h2=>by
    have hl:=fR h.1;by_cases hj:j<fm L 1 i
    · have hn:=iL (L:=L) 1 (by decide) i
      rcases xP L _ 1 i (by decide) (by omega) (by omega) (Nat.le_refl _)with hx|hx
      · exact absurd hx h.1
      · exact hx j h1 hj
    · exact zu k _ h.2 he j (by omega) h2
theorem KQ{L:af}(h:aR L=true)(j:Int)(h0:0≤j)(h1:j<(L.length:Int)):Gd L j:=by
  obtain⟨k,hk⟩:=mX h;exact zu k 0 hk (by omega) j h0 h1
theorem mg{L:af}(h:aR L=true){j:Int}(hd:jA (aa L (j+1))=true):fm L 1 j≠-1:=by
  by_cases hj:0≤j+1∧j+1<(L.length:Int)
  · have:=KQ h (j+1) hj.1 hj.2 hd
    rwa [show j+1-1=j by omega]at this
  · rw[show aa L (j+1)=⟨#[]⟩from fZ (by omega)]at hd
    exact absurd hd (by decide +kernel)
def Cx(L:af)(i x:Int):Prop:=x=-1∨∀p,i≤p→p<x→ae (aa L p) [40]=true→ae (aa L (p+1)) [100,111]=true→∃q,i≤q∧q<p∧p<ag L q∧ae (aa L q) [40]=true∧ae (aa L (q+1)) [102,110]=true
section
variable {L:af} {i j x:Int}
theorem qk:Cx L i i:=Or.inr fun k h1 h2=>absurd h2 (by omega)
theorem uC:Cx L i (-1):=Or.inl rfl
theorem Cx.trans{y:Int}(h:Cx L i x)(hn:x=-1→y=-1)(hix:x≠-1→i≤x)(k:Cx L x y):Cx L i y:=by
  by_cases hx:x=-1
  · exact Or.inl (hn hx)
  · rcases h with h|h
    · exact absurd h hx
    · rcases k with k|k
      · exact Or.inl k
      · refine Or.inr fun p h1 h2 h3 h4=>?_
        by_cases hp:p<x
        · exact h p h1 hp h3 h4
        · obtain⟨q,a,b⟩:=k p (by omega) h2 h3 h4
          have:=hix hx
          exact⟨q,by omega,b⟩
theorem uB(h:Cx L i x)(hx:x≠-1)(hg:ae (aa L x) [40]=false):Cx L i (x+1):=by
  rcases h with h|h
  · exact absurd h hx
  · refine Or.inr fun p h1 h2 h3 h4=>?_
    by_cases hp:p<x
    · exact h p h1 hp h3 h4
    · have:p=x:=by omega
      subst this
      rw[hg]at h3
      cases h3
theorem ql(h:Cx L i x):Cx L i (aK L x [41]):=by
  by_cases hn:aK L x [41]=-1
  · exact Or.inl hn
  · obtain⟨he,h0,h1,hb⟩:=gM (by decide) hn
    rw[he]
    exact uB h (by omega) (aQ hb (by decide))
theorem ED(h:Cx L i x):Cx L i (aU L x):=by
  by_cases hn:aU L x=-1
  · exact Or.inl hn
  · obtain⟨he,h0,h1,hb⟩:=jF hn
    rw[he]
    exact uB h (by omega) (dD hb).1
def nd(m:Nat):Prop:=m=0∨m=4∨(8≤m∧m≤11)
def Cq(L:af)(j:Int):Prop:=∀m x,nd m→Fw L j x→Cx L x (fm L m x)
theorem Cq.go(hr:Cq L j){m:Nat}(hm:nd m)(hF:Fw L j x)(hij:i≤j)(h:Cx L i x):Cx L i (fm L m x):=h.trans (fun e=>by rw[e];exact gu m (by unfold nd at hm;omega)) (fun hx=>by unfold Fw at hF;omega) (hr m x hm hF)
theorem EC(hd:iU (aa L (i+1))=false)(hp:ae (aa L (i+1)) [40]=false)(h:Cx L (i+2) x):Cx L i x:=by
  rcases h with h|h
  · exact Or.inl h
  · refine Or.inr fun p h1 h2 h3 h4=>?_
    by_cases c1:p=i
    · subst c1
      unfold iU at hd
      rw[h4]at hd
      cases hd
    · by_cases c2:p=i+1
      · subst c2
        rw[hp]at h3
        cases h3
      · obtain⟨q,a,b⟩:=h p (by omega) h2 h3 h4
        exact⟨q,by omega,b⟩
theorem MI(hr:Cq L (i+2)):Cx L i (bR L (fm L) i):=by
  by_cases hne:bR L (fm L) i=-1
  · exact Or.inl hne
  rw[←ln]at hne;have hv:aH L i:=Or.inl hne;cases ho:ae (aa L i) [40]
  · unfold bR
    rw[ho]
    simp only[Bool.false_eq_true,if_false]
    split
    · exact uB qk (by have:=hv.ends;omega) ho
    · exact uC
  · obtain⟨h0,h1⟩:=bF ho
    have hnd:=M4 hne ho
    cases hf:ae (aa L (i+1)) [102,110]
    · refine EC hnd (hv.plain ho).1 ?_
      have hg:=gr L
      have hs:Fw L (i+2) (i+2):=iW (by omega)
      have ha:Cx L (i+2) (i+2):=qk
      unfold bR
      rw[ho,hf]
      simp only[if_true,Bool.false_eq_true,if_false]
      split
      · exact ql (hr.go (Or.inr (Or.inr (by decide))) hs (Int.le_refl _) ha)
      · split
        · exact ql (hr.go (Or.inr (Or.inl rfl)) (hg.ends (m:=0) (by decide) hs).I (Int.le_refl _) (hr.go (Or.inl rfl) hs (Int.le_refl _) ha))
        · split
          · exact ql (hr.go (Or.inr (Or.inl rfl)) hs (Int.le_refl _) ha)
          · split
            · exact ql ha
            · split
              · exact ql (hr.go (Or.inl rfl) (eD hs).I (Int.le_refl _) (ED ha))
              · exact uC
    · rw[←ln,←lF hne]
      refine Or.inr fun p h1 h2 h3 h4=>?_
      refine⟨i,Int.le_refl _,?_,h2,ho,hf⟩
      by_cases c1:p=i
      · subst c1
        rw[aQ hf (by decide)]at h4
        cases h4
      · omega
end
theorem xN(L:af):∀n m i,nd m→-1≤i→i≤(L.length:Int)+1→cM L m i≤n→Cx L i (fm L m i)
  |0,m,i,hm,_,_,h=>by have:=(iL (L:=L) m (by unfold nd at hm;omega) i).1;omega
  |n+1,m,i,hm,i0,i1,h=>by
    have IH:=xN L n;have hg:=gr L;have hm11:m≤11:=by unfold nd at hm;omega
    have hnl:=iL (L:=L) m hm11 i;have key:∀j,i<j→j≤i+2→0≤i→i<(L.length:Int)→Cq L j:=fun j hj hj2 h0 h1 q x hq hF=>by
      have hf:=sD h0 (by omega) hj hF;have hq':=iL (L:=L) q (by unfold nd at hq;omega) x;refine IH q x hq ?_ ?_ (by omega);all_goals unfold Fw at hF;omega
    by_cases hin:0≤i∧i<(L.length:Int)
    · obtain⟨h0,h1⟩:=hin
      by_cases c0:m=0
      · subst c0
        rw[ln]
        exact MI (key (i+2) (by omega) (by omega) h0 h1)
      by_cases c8:m<8
      · have c4:m=4:=by unfold nd at hm;omega
        subst c4
        unfold cM at h
        rw[if_neg (by omega),if_pos (by omega)]at h
        rw[show(4:Nat)=4+0 from rfl,jB 0 (by omega) i0 i1]
        unfold eC
        split
        · exact qk
        · have hpos:1≤aB L i:=by unfold aB;rw[if_neg (by omega)];omega
          have ho:Cx L i (fm L 0 i):=IH 0 i (Or.inl rfl) i0 i1 (by unfold cM;rw[if_pos (by decide)];omega)
          have hE:=hg.1 0 i (by decide)
          show Cx L i (fm L (4+0) (fm L 0 i))
          generalize fm L 0 i=y at ho hE
          have hfe:=gV hE i1
          unfold Ends at hE
          exact ho.trans (fun e=>by rw[e];exact gu _ hm11) (fun hx=>by omega) (IH 4 y hm (by omega) (by omega) (by unfold cM;rw[if_neg (by omega),if_pos (by omega)];omega))
      · obtain⟨k,rfl⟩:∃k,m=8+k:=⟨m-8,by omega⟩
        unfold cM at h
        rw[if_neg (by omega),if_neg (by omega)]at h
        rw[qB k (by omega) i0 i1]
        cases k with
        |zero=>exact qk
        |succ k =>
          show Cx L i (if i<0 then i else fm L (8+k) (fm L 0 i));rw[if_neg (by omega)];have ho:=IH 0 i (Or.inl rfl) i0 i1 (by unfold cM;rw[if_pos (by decide)];omega);have hE:=hg.1 0 i (by decide);generalize fm L 0 i=y at ho hE;have hfe:=gV hE i1;unfold Ends at hE;exact ho.trans (fun e=>by rw[e];exact gu _ (by omega)) (fun hx=>by omega) (IH (8+k) y (Or.inr (Or.inr (by omega))) (by omega) (by omega) (by unfold cM;rw[if_neg (by omega),if_neg (by omega)];omega))
    · have hx:fm L m i=-1∨fm L m i=i:=by
        by_cases h4:m<4
        · have hE:=hg.1 m i h4
          unfold Ends at hE
          omega
        · have hE:=hg.2 m i (by omega) i0
          unfold Fw at hE
          omega
      rcases hx with hx|hx
      · rw[hx];exact uC
      · rw[hx];exact qk
def Calm(L:af)(i:Int):Prop:=∀p,i≤p→p<ag L i→ae (aa L p) [40]=true→ae (aa L (p+1)) [100,111]=true→∃q,i≤q∧q<p∧p<ag L q∧ae (aa L q) [40]=true∧ae (aa L (q+1)) [102,110]=true
theorem M2{L:af}{i:Int}(h:fm L 0 i≠-1):Calm L i:=by
  have hE:=jX (L:=L) 0 (by decide) i;unfold Ends at hE;rcases xN L _ 0 i (Or.inl rfl) (by omega) (by omega) (Nat.le_refl _)with hx|hx
  · exact absurd hx h
  · unfold Calm
    rw[lF h]
    exact hx
theorem KM{L:af}{i:Int}(h0:0≤i)(h1:i<(L.length:Int))(h:bB (aa L i)):Calm L i:=fun p p1 p2 p3 _=>by
  rw[gw h0 h1 h]at p2;have:p=i:=by omega
  subst this;rw[h.1]at p3;cases p3
section
variable {L:af} {i j e x q k:Int}
theorem l7(h:0≤ag L i):ae (aa L i) [41]=false:=by
  cases hc:ae (aa L i) [41]
  · rfl
  · have:=eo (L:=L) (i:=i) (Or.inr (Or.inr hc))
    omega
theorem mG(h:0≤ag L i)(hn:ae (aa L i) [40]=false):ag L i=i+1:=by
  have h1:=cZ h;exact gw h1.1 (by omega) ⟨hn,l7 h⟩
theorem mz:∀k i,bd L k i e→i≤q→q<e→∃c,c∈ar L k i∧c≤q∧q<ag L c∧0≤ag L c
  |0,i,h,h1,h2=>by
    have:i=e:=h;omega
  |k+1,i,h,h1,h2=>by
    by_cases hq:q<ag L i
    · exact⟨i,List.mem_cons_self ..,h1,hq,h.1⟩
    · obtain⟨c,a,b⟩:=mz k _ h.2 (by omega) h2
      exact⟨c,List.mem_cons_of_mem _ a,b⟩
theorem fQ:∀k i,bd L k i e→0≤e→∀c∈ar L k i,i≤c∧c<e∧0≤ag L c∧ag L c≤e
  |0,i,_,_,p,hp=>by cases hp
  |k+1,i,h,he,p,hp=>by
    have h1:=cZ h.1;have h2:=bK k _ h.2 he;rcases List.mem_cons.mp hp with rfl|hp
    · exact⟨Int.le_refl _,by omega,h.1,by omega⟩
    · have:=fQ k _ h.2 he p hp
      exact⟨by omega,this.2⟩
theorem uu:∀m i,bd L m i e→0≤e→k∈ar L m i→i≤q→q<k→∃c,0≤ag L c∧c≤q∧q<ag L c∧ag L c≤k
  |0,i,_,_,hk,_,_=>by cases hk
  |m+1,i,h,he,hk,h1,h2=>by
    rcases List.mem_cons.mp hk with rfl|hk
    · omega
    · by_cases hq:q<ag L i
      · have:=fQ m _ h.2 he k hk
        exact⟨i,h.1,h1,hq,this.1⟩
      · exact uu m _ h.2 he hk (by omega) h2
theorem Ct:∀k f i,bd L k i e→0≤e→e≤(L.length:Int)→jj L e→k≤f→jZ L f i=ar L k i
  |0,f,i,h,he,_,hb,hk=>by
    have hi:i=e:=h;subst hi;cases f with
    |zero=>rfl
    |succ f =>
      unfold jZ;rw[if_neg]
      · rfl
      · rintro⟨a,b,c⟩
        rcases hb with hb|hb
        · omega
        · rw[hb]at c
          exact absurd c (by decide)
  |k+1,f,i,h,he,hl,hb,hk=>by
    obtain⟨f,rfl⟩:∃g,f=g+1:=⟨f-1,by omega⟩;have h1:=cZ h.1;have h2:=bK k _ h.2 he;unfold jZ;rw[if_pos ⟨h1.1,by omega,l7 h.1⟩,Ct k f _ h.2 he hl hb (by omega)];rfl
theorem ly{m:Nat}(h:bd L m i e)(he:0≤e)(hl:e≤(L.length:Int))(hb:jj L e):aT L i=ar L m i:=by
  have h1:=bK m i h he;exact Ct m _ i h he hl hb (by omega)
theorem nW:∀(n:Nat) (i q:Int),(ag L i-i).toNat≤n→ae (aa L i) [40]=true→0≤ag L i→i<q→q<ag L i→ae (aa L q) [41]=false→q<ag L q∧ag L q<ag L i
  |0,i,q,hn,_,h0,h1,h2,_=>by omega
  |n+1,i,q,hn,ho,h0,h1,h2,h3=>by
    obtain⟨k,e,hc,he0,hel,he,hit⟩:=iz ho h0;have hqe:q<e:=by
      by_cases hq:q=e
      · rw[hq,he]at h3
        cases h3
      · omega
    obtain⟨c,hm,c1,c2,c3⟩:=mz k _ hc (by omega) hqe;obtain⟨d1,d2,d3,d4⟩:=fQ k _ hc he0 c hm;by_cases hqc:q=c
    · subst hqc
      exact⟨c2,by omega⟩
    · have hco:ae (aa L c) [40]=true:=by
        cases hz:ae (aa L c) [40]
        · have:=mG c3 hz
          omega
        · rfl
      have:=nW n c q (by omega) hco c3 (by omega) c2 h3
      omega
def bH(L:af)(q k:Int):Prop:=ae (aa L q) [40]=true∧q<k∧k<ag L q
theorem eg{m:Nat}(ho:ae (aa L i) [40]=true)(hc:bd L m (i+1) e)(he0:0≤e)(hit:ag L i=e+1)(hk:k∈ar L m (i+1)):bH L q k↔(bH L q i∨q=i):=by
  obtain⟨d1,d2,d3,d4⟩:=fQ m _ hc he0 k hk;constructor
  · rintro⟨a,b,c⟩
    by_cases h1:q<i
    · exact Or.inl ⟨a,h1,by omega⟩
    · by_cases h2:q=i
      · exact Or.inr h2
      · exfalso
        obtain⟨z,z0,z1,z2,z3⟩:=uu m _ hc he0 hk (by omega:i+1≤q) b
        by_cases hz:q=z
        · subst hz
          omega
        · have hzo:ae (aa L z) [40]=true:=by
            cases hy:ae (aa L z) [40]
            · have:=mG z0 hy
              omega
            · rfl
          have:=nW _ z q (Nat.le_refl _) hzo z0 (by omega) z2 (aQ a (by decide))
          omega
  · rintro(⟨a,b,c⟩|rfl)
    · have h0:0≤ag L q:=by have:=bF a;omega
      have:=nW _ q i (Nat.le_refl _) a h0 b c (aQ ho (by decide))
      exact⟨a,by omega,by omega⟩
    · exact⟨ho,by omega,by omega⟩
theorem ui{m:Nat}(hc:bd L m 0 e)(he0:0≤e)(hk:k∈ar L m 0):¬bH L q k:=by
  rintro⟨a,b,c⟩;have ha:=bF a;obtain⟨z,z0,z1,z2,z3⟩:=uu m _ hc he0 hk ha.1 b;by_cases hz:q=z
  · subst hz
    omega
  · have hzo:ae (aa L z) [40]=true:=by
      cases hy:ae (aa L z) [40]
      · have:=mG z0 hy
        omega
      · rfl
    have:=nW _ z q (Nat.le_refl _) hzo z0 (by omega) z2 (aQ a (by decide))
    omega
end
def dt(L:af)(q:Int):Bool:=ae (aa L (q+1)) [102,110]
def dS(L:af)(q:Int):Bool:=ae (aa L (q+1)) [119,104,105,108,101]||ae (aa L (q+1)) [102,111,114]
def bU(L:af)(q:Int):Bool:=ae (aa L q) [40]&&ae (aa L (q+1)) [100,111]
def Lp(L:af)(p:Int):Prop:=∃q,bH L q p∧dS L q=true∧∀q',bH L q' p→dt L q'=true→q'<q
open Classical in
noncomputable def iK(L:af)(p:Int):Bool:=decide (Lp L p)
section
variable {L:af} {i j e x q k:Int}
theorem sY(h:Lp L i):iK L i=true:=by
  unfold iK;simpa using h
theorem sX(h:¬Lp L i):iK L i=false:=by
  unfold iK;simpa using h
theorem IA(h:Lp L i↔Lp L k):iK L i=iK L k:=by
  by_cases hc:Lp L i
  · rw[sY hc,sY (h.1 hc)]
  · rw[sX hc,sX (fun hk=>hc (h.2 hk))]
theorem FC(h:dt L i=true):dS L i=false:=by
  unfold dt at h;unfold dS;rw[aQ h (by decide),aQ h (by decide)];rfl
theorem Iu(h:dS L i=true):dt L i=false:=by
  cases hc:dt L i
  · rfl
  · rw[FC hc]at h
    cases h
variable {m:Nat} (ho:ae (aa L i) [40]=true) (hc:bd L m (i+1) e) (he0:0≤e) (hit:ag L i=e+1) (hk:k∈ar L m (i+1))
include ho hc he0 hit hk
theorem Iy(hf:dt L i=true):iK L k=false:=by
  refine sX ?_;rintro⟨q,a,b,c⟩;have h1:=c i ((eg ho hc he0 hit hk).2 (Or.inr rfl)) hf;rcases (eg ho hc he0 hit hk).1 a with h2|rfl
  · have:=h2.2.1
    omega
  · omega
theorem Iz(hf:dS L i=true):iK L k=true:=by
  refine sY ⟨i,(eg ho hc he0 hit hk).2 (Or.inr rfl),hf,fun q' a b=>?_⟩;rcases (eg ho hc he0 hit hk).1 a with h2|rfl
  · exact h2.2.1
  · rw[Iu hf]at b
    cases b
theorem Ix(hf:dt L i=false)(hl:dS L i=false):iK L k=iK L i:=by
  refine IA ⟨?_,?_⟩
  · rintro⟨q,a,b,c⟩
    rcases (eg ho hc he0 hit hk).1 a with h2|rfl
    · exact⟨q,h2,b,fun q' a' b'=>c q' ((eg ho hc he0 hit hk).2 (Or.inl a')) b'⟩
    · rw[hl]at b
      cases b
  · rintro⟨q,a,b,c⟩
    refine⟨q,(eg ho hc he0 hit hk).2 (Or.inl a),b,fun q' a' b'=>?_⟩
    rcases (eg ho hc he0 hit hk).1 a' with h2|rfl
    · exact c q' h2 b'
    · rw[hf]at b'
      cases b'
theorem yr(hcm:Calm L i)(hf:dt L i=false):Calm L k:=by
  obtain⟨d1,d2,d3,d4⟩:=fQ m _ hc he0 k hk;intro p p1 p2 p3 p4;obtain⟨q,a,b,c,d,f⟩:=hcm p (by omega) (by omega) p3 p4;by_cases h1:k≤q
  · exact⟨q,h1,b,c,d,f⟩
  · exfalso
    rcases (eg ho hc he0 hit hk).1 ⟨d,by omega,by omega⟩with h2|rfl
    · have:=h2.2.1
      omega
    · unfold dt at hf
      rw[f]at hf
      cases hf
end
theorem IB{L:af}{e k:Int}{m:Nat}(hc:bd L m 0 e)(he0:0≤e)(hk:k∈ar L m 0):iK L k=false :=
  sX fun ⟨_,a,_⟩=>ui hc he0 hk a
def fp(f:Int→Int):Nat→Int→Int
  |0,_=>0
  |n+1,a=>f a+fp f n (a+1)
theorem wS(f:Int→Int):∀n m a,fp f (n+m) a=fp f n a+fp f m (a+(n:Int))
  |0,m,a=>by
    rw[Nat.zero_add];show _=0+fp f m (a+((0:Nat):Int));rw[show a+((0:Nat):Int)=a by omega];omega
  |n+1,m,a=>by
    rw[show n+1+m=(n+m)+1 by omega];show f a+fp f (n+m) (a+1)=f a+fp f n (a+1)+fp f m (a+((n+1:Nat):Int));rw[wS f n m (a+1),show a+1+(n:Int)=a+((n+1:Nat):Int) by omega];omega
def eI:List Int→Int
  |[]=>0
  |x::xs=>x+eI xs
theorem xn{α:Type}(f g:α→Int):∀l:List α,(∀x∈l,f x=g x)→eI (l.map f)=eI (l.map g)
  |[],_=>rfl
  |x::l,h=>by
    show f x+eI (l.map f)=g x+eI (l.map g);rw[h x (List.mem_cons_self ..),xn f g l fun y hy=>h y (List.mem_cons_of_mem _ hy)]
section
variable {L:af} {i j e x q k:Int}
theorem wT(f:Int→Int):∀m a,bd L m a e→0≤e→fp f (e-a).toNat a=eI ((ar L m a).map fun k=>fp f (ag L k-k).toNat k)
  |0,a,h,_=>by
    have:a=e:=h;subst this;rw[Int.sub_self];rfl
  |m+1,a,h,he=>by
    have h1:=cZ h.1;have h2:=bK m _ h.2 he;show _=fp f (ag L a-a).toNat a+eI ((ar L m (ag L a)).map fun k=>fp f (ag L k-k).toNat k);rw[←wT f m _ h.2 he,show(e-a).toNat=(ag L a-a).toNat+(e-ag L a).toNat by omega,wS];rw[show a+(((ag L a-a).toNat:Nat):Int)=ag L a by omega]
end
def dK(L:af)(i k:Int)(loop:Bool):Bool:=if dt L i then false else if dS L i then ag L k==ag L i-1 else loop
def eY(L:af)(g:Int→Int):Nat→Int→Bool→Int
  |0,_,_=>0
  |n+1,i,loop=>if ae (aa L i) [40]=false then 0 else(if loop&&ae (aa L (i+1)) [100,111]then g i else 0)+eI ((aT L (i+1)).map fun k=>eY L g n k (dK L i k loop))
noncomputable def gG(L:af)(g:Int→Int)(p:Int):Int:=if bU L p&&iK L p then g p else 0
def xK(L:af):Prop:=∀i m e,ae (aa L i) [40]=true→dS L i=true→bd L m (i+1) e→0≤e→ag L i=e+1→∀k∈ar L m (i+1),ag L k≠e→Calm L k
theorem zB{L:af}(hR:xK L)(g:Int→Int):∀n i loop,(ag L i-i).toNat≤n→0≤ag L i→(loop=iK L i∨Calm L i)→eY L g n i loop=fp (gG L g) (ag L i-i).toNat i
  |0,i,loop,hn,h0,_=>by
    have:=cZ h0;omega
  |n+1,i,loop,hn,h0,hok=>by
    unfold eY;have hu:=cZ h0;cases ho:ae (aa L i) [40]
    · rw[if_pos rfl,mG h0 ho,show(i+1-i).toNat=0+1 by omega]
      show 0=gG L g i+0
      unfold gG bU
      rw[ho]
      rfl
    · rw[if_neg (by decide)]
      obtain⟨m,e,hc,he0,hel,he,hit⟩:=iz ho h0
      have hce:=bK m _ hc he0
      rw[ly hc he0 (by omega) (bP he)]
      have hsum:eI ((ar L m (i+1)).map fun k=>eY L g n k (dK L i k loop))=fp (gG L g) (e-(i+1)).toNat (i+1):=by
        rw[wT (gG L g) m _ hc he0];refine xn _ _ _ fun k hk=>?_
        obtain⟨d1,d2,d3,d4⟩:=fQ m _ hc he0 k hk;refine zB hR g n k _ (by omega) d3 ?_;unfold dK;cases hf:dt L i
        · rw[if_neg (by decide)]
          cases hl:dS L i
          · rw[if_neg (by decide),Ix ho hc he0 hit hk hf hl]
            exact hok.imp id fun hcm=>yr ho hc he0 hit hk hcm hf
          · rw[if_pos rfl,Iz ho hc he0 hit hk hl]
            by_cases hz:ag L k=e
            · left
              rw[hz,hit]
              simp
            · right
              exact hR i m e ho hl hc he0 hit k hk hz
        · rw[if_pos rfl,Iy ho hc he0 hit hk hf]
          exact Or.inl rfl
      rw[hsum,show(ag L i-i).toNat=((e-(i+1)).toNat+1)+1 by omega]
      show _=gG L g i+fp (gG L g) ((e-(i+1)).toNat+1) (i+1)
      rw[wS,show i+1+(((e-(i+1)).toNat:Nat):Int)=e by omega]
      have hwe:fp (gG L g) 1 e=0:=by
        show gG L g e+0=0;unfold gG bU;rw[aQ he (by decide)];rfl
      have hwi:(if loop&&ae (aa L (i+1)) [100,111]then g i else 0)=gG L g i:=by
        unfold gG bU;rw[ho];cases hd:ae (aa L (i+1)) [100,111]
        · rw[Bool.and_false,Bool.and_false,Bool.false_and]
        · rw[Bool.and_true,Bool.and_true,Bool.true_and]
          rcases hok with hok|hok
          · rw[hok]
          · obtain⟨q,a,b,_⟩:=hok i (Int.le_refl _) (by omega) ho hd
            omega
      rw[hwe,hwi]
      omega
theorem qn{L:af}{g:Int→Int}(hg:∀p,0≤g p∧g p≤1):∀n i loop,0≤ag L i→0≤eY L g n i loop∧eY L g n i loop≤ag L i-i
  |0,i,loop,h0=>by
    have:=cZ h0;show 0≤(0:Int)∧(0:Int)≤_;omega
  |n+1,i,loop,h0=>by
    unfold eY;have hu:=cZ h0;cases ho:ae (aa L i) [40]
    · rw[if_pos rfl]
      omega
    · rw[if_neg (by decide)]
      obtain⟨m,e,hc,he0,hel,he,hit⟩:=iz ho h0
      rw[ly hc he0 (by omega) (bP he)]
      have key:∀m a,bd L m a e→0≤eI ((ar L m a).map fun k=>eY L g n k (dK L i k loop))∧eI ((ar L m a).map fun k=>eY L g n k (dK L i k loop))≤e-a:=fun m=>by
        induction m with
        |zero =>
          intro a h;have:a=e:=h;show 0≤(0:Int)∧(0:Int)≤_;omega
        |succ m ih =>
          intro a h;have h1:=ih _ h.2;have h2:=qn hg n a (dK L i a loop) h.1;show 0≤eY L g n a (dK L i a loop)+eI _∧eY L g n a (dK L i a loop)+eI _≤e-a;omega
      have h1:=key m _ hc
      have h2:=hg i
      split<;>omega
theorem Cs{L:af}(h:aR L=true):∀i m e,ae (aa L i) [40]=true→dS L i=true→bd L m (i+1) e→0≤e→ag L i=e+1→∀k∈ar L m (i+1),ag L k≠e→(0≤k∧k<(L.length:Int)∧bB (aa L k))∨fm L 0 k≠-1:=by
  intro i m e ho hl hc he0 hit k hk hne;obtain⟨h0,h1⟩:=bF ho;have hdw:iU (aa L (i+1))=true:=by
    unfold dS at hl;unfold iU;rw[hl,Bool.or_true]
  have hd:=mg h (zF hdw);have hv:aH L i:=Or.inr hd;have hp:=hv.plain ho;have hit1:=(hv.parts ho).1;have hw1:i+1<(L.length:Int):=by
    have:=(fR hd).2;omega
  have he41:ag L e=-1:=by
    obtain⟨m2,e2,hc2,_,_,he2,hit2⟩:=iz ho (by omega:0≤ag L i);have:e=e2:=by omega
    rw[this];exact eo (Or.inr (Or.inr he2))
  unfold dS at hl;rw[Bool.or_eq_true]at hl;rcases hl with hl|hl
  · have hw:=hv.word ho _ ([1,2],none) hl (Or.inr rfl) (Or.inl rfl)
    obtain⟨c1,c2,c3,c4⟩:=gK hw.1
    have d1:cC L ([1,2],none) (i+2)=aJ L 2 (aJ L 1 (i+2))+1:=c1
    have d2:0≤aJ L 2 (aJ L 1 (i+2)):=c2
    have hs:fm L 0 (i+2)≠-1:=fun hz=>by
      have:aJ L 1 (i+2)=-1:=hz;rw[this,jV]at d2;omega
    have e1:ag L (i+2)=aJ L 1 (i+2):=lF hs
    have e2:=jU (L:=L) (i:=aJ L 1 (i+2)) (w:=2) (Or.inr (Or.inl rfl)) (by omega)
    have z1:=jX (L:=L) 0 (by decide) (i+2)
    have y1:aJ L 1 (i+2)=fm L 0 (i+2):=rfl
    unfold Ends at z1
    have hch:bd L 3 (i+1) e:=by
      refine⟨by omega,?_⟩;rw[hit1];refine⟨by omega,?_⟩;rw[e1];refine⟨by omega,?_⟩;show ag L (aJ L 1 (i+2))=e;rw[e2.2];rw[hw.2,d1]at hit;omega
    obtain⟨rfl,_⟩:=jh m 3 _ hc hch he41 he41
    have hP:ar L 3 (i+1)=[i+1,i+2,ag L (i+2)]:=by
      show [i+1,ag L (i+1),ag L (ag L (i+1))]=_;rw[hit1]
    rw[hP]at hk
    simp only[List.mem_cons,List.not_mem_nil,or_false]at hk
    rcases hk with rfl|rfl|rfl
    · exact Or.inl ⟨by omega,hw1,hp⟩
    · exact Or.inr hs
    · exfalso
      apply hne
      rw[e1,e2.2]
      rw[hw.2,d1]at hit
      omega
  · have hw:=hv.word ho _ ([4,1,1,2],none) hl (Or.inr rfl) (Or.inl rfl)
    obtain⟨c1,c2,c3,c4⟩:=gK hw.1
    have d1:cC L ([4,1,1,2],none) (i+2)=aJ L 2 (aJ L 1 (aJ L 1 (aJ L 4 (i+2))))+1:=c1
    have d2:0≤aJ L 2 (aJ L 1 (aJ L 1 (aJ L 4 (i+2)))):=c2
    have hn:aJ L 4 (i+2)≠-1:=fun hz=>by
      rw[hz,jV,jV,jV]at d2;omega
    have hnp:=lv hn
    rw[hnp.1,show i+2+1=i+3 by omega]at d1 d2
    have hs:fm L 0 (i+3)≠-1:=fun hz=>by
      have:aJ L 1 (i+3)=-1:=hz;rw[this,jV,jV]at d2;omega
    have e1:ag L (i+3)=aJ L 1 (i+3):=lF hs
    have hs2:fm L 0 (aJ L 1 (i+3))≠-1:=fun hz=>by
      have:aJ L 1 (aJ L 1 (i+3))=-1:=hz;rw[this,jV]at d2;omega
    have e12:ag L (aJ L 1 (i+3))=aJ L 1 (aJ L 1 (i+3)):=lF hs2
    have e2:=jU (L:=L) (i:=aJ L 1 (aJ L 1 (i+3))) (w:=2) (Or.inr (Or.inl rfl)) (by omega)
    have hnm:ag L (i+2)=i+3:=by
      rw[gw (by omega) hnp.2.2.2 (dD hnp.2.1)];omega
    have z1:=jX (L:=L) 0 (by decide) (i+3)
    have z2:=jX (L:=L) 0 (by decide) (aJ L 1 (i+3))
    have y1:aJ L 1 (i+3)=fm L 0 (i+3):=rfl
    have y2:aJ L 1 (aJ L 1 (i+3))=fm L 0 (aJ L 1 (i+3)):=rfl
    unfold Ends at z1 z2
    have hch:bd L 5 (i+1) e:=by
      refine⟨by omega,?_⟩;rw[hit1];refine⟨by omega,?_⟩;rw[hnm];refine⟨by omega,?_⟩;rw[e1];refine⟨by omega,?_⟩;rw[e12];refine⟨by omega,?_⟩;show ag L (aJ L 1 (aJ L 1 (i+3)))=e;rw[e2.2];rw[hw.2,d1]at hit;omega
    obtain⟨rfl,_⟩:=jh m 5 _ hc hch he41 he41
    have hP:ar L 5 (i+1)=[i+1,i+2,i+3,aJ L 1 (i+3),aJ L 1 (aJ L 1 (i+3))]:=by
      show [i+1,ag L (i+1),ag L (ag L (i+1)),ag L (ag L (ag L (i+1))),ag L (ag L (ag L (ag L (i+1))))]=_;rw[hit1,hnm,e1,e12]
    rw[hP]at hk
    simp only[List.mem_cons,List.not_mem_nil,or_false]at hk
    rcases hk with rfl|rfl|rfl|rfl|rfl
    · exact Or.inl ⟨by omega,hw1,hp⟩
    · exact Or.inl ⟨by omega,hnp.2.2.2,dD hnp.2.1⟩
    · exact Or.inr hs
    · exact Or.inr hs2
    · exfalso
      apply hne
      rw[e2.2]
      rw[hw.2,d1]at hit
      omega
theorem Cr{L:af}(h:aR L=true):xK L:=fun i m e ho hl hc he0 hit k hk hne=>by
  rcases Cs h i m e ho hl hc he0 hit k hk hne with⟨a,b,c⟩|a
  · exact KM a b c
  · exact M2 a
def dJ(x s:ByteArray):Bool:=x.toList==s.toList
noncomputable def dI(L:af)(i:Int):af:=(aT L i).flatMap (aN L false)
noncomputable def dE(L:af)(F:Nat→Bool)(r:Nat→Int→ByteArray→Bool→Bool)(i:Int)(s:ByteArray)(fn:Bool):Bool :=
  if ae (aa L i) [40]=false then fn&&dJ (aa L i) s
  else if ae (aa L (i+1)) [102,110]then
    (if bc ((aT L (i+3)).map (be L)) s then false
     else if(aT L (i+3)).any (fun p=>ae (aa L p) [40]&&r 0 (p+2) s true)then true
     else if bc (dI L (jR L i)) s then false else r 1 (jR L i) s true)
  else if ae (aa L (i+1)) [100,111]then(if bc (dI L (i+2)) s then false else r 1 (i+2) s (fn||F i.toNat))
  else if ae (aa L (i+1)) [108,101,116]||(ae (aa L (i+1)) [104,103,101,116]||ae (aa L (i+1)) [104,112,117,116])then r 1 (i+3) s fn
  else if ae (aa L (i+1)) [115,101,116]then(if fn&&dJ (aa L (i+2)) s then true else r 1 (i+3) s fn)
  else if ae (aa L (i+1)) [116,97,107,101]then r 1 (ag L (i+2)) s fn
  else if ae (aa L (i+1)) [104,105,100,100,101,110]||ae (aa L (i+1)) [118,97,114,115]then false
  else if ae (aa L (i+1)) [102,111,114]then
    (if r 0 (i+3) s fn||r 0 (ag L (i+3)) s fn then true else !dJ (aa L (i+2)) s&&r 0 (ag L (ag L (i+3))) s fn)
  else r 1 (i+2) s fn
noncomputable def us(L:af)(F:Nat→Bool):Nat→Nat→Int→ByteArray→Bool→Bool
  |0,_,_,_,_=>false
  |n+1,m,i,s,fn=>if m=0 then dE L F (us L F n) i s fn else(aT L i).any fun p=>us L F n 0 p s fn
section
variable {L:af} {i j e x:Int}
theorem sh{k:Nat}(hch:ey L k i e)(he:0≤e)(hl:e≤(L.length:Int))(hb:jj L e):dA L false k i=dI L i:=by
  unfold dI;rw[ef (eK k i hch).1 he hl hb,oO L false k i hch]
theorem qm{k:Nat}(hch:ey L k i e)(he:0≤e)(hl:e≤(L.length:Int))(hb:jj L e):((dI L i).length:Int)≤e-i:=by
  rw[←sh hch he hl hb];exact se L false k i hch he
theorem aH.Pb(h:aH L i)(ho:ae (aa L i) [40]=true)(c:List UInt8)(hc:ae (aa L (i+1)) c=true)(hcs:c=[108,101,116]∨c=[115,101,116]) :
    i+2<(L.length:Int)∧∃k e,dd L k (i+3) e∧ae (aa L e) [41]=true∧ag L i=e+1:=by
  have hw:cC L ([4,1],none) (i+2)≠-1∧ag L i=cC L ([4,1],none) (i+2):=by
    rcases hcs with rfl|rfl
    · exact h.word ho _ _ hc (Or.inr rfl) (Or.inl rfl)
    · exact h.word ho _ _ hc (Or.inr rfl) (Or.inl rfl)
  obtain⟨c1,c2,c3,c4⟩:=gK hw.1;have e1:eH L none (bW L [4,1] (i+2))=aJ L 1 (aJ L 4 (i+2)):=rfl;simp only at c1 c2 c3 c4;rw[e1]at c1 c2 c3 c4;have hn:aJ L 4 (i+2)≠-1:=fun he=>by rw[he,jV]at c2;omega
  have hp:=lv hn;rw[hp.1,show i+2+1=i+3 by omega]at c1 c2 c3 c4;have hs:=jU (L:=L) (i:=i+3) (w:=1) (Or.inl rfl) (by omega);exact⟨hp.2.2.2,1,_,⟨hs.1,hs.2⟩,c4,by rw[hw.2,c1]⟩
theorem aH.PC(h:aH L i)(ho:ae (aa L i) [40]=true)(hc:ae (aa L (i+1)) [116,97,107,101]=true) :
    i+2<ag L (i+2)∧∃k e,dd L k (ag L (i+2)) e∧ae (aa L e) [41]=true∧ag L i=e+1:=by
  obtain⟨t1,t2,t3,t4⟩:=h.OY ho hc;have hw:=h.word ho _ ([5,1],none) hc (Or.inr rfl) (Or.inl rfl);obtain⟨c1,c2,c3,c4⟩:=gK hw.1;have d1:cC L ([5,1],none) (i+2)=aJ L 1 (aJ L 5 (i+2))+1:=c1;have d2:0≤aJ L 1 (aJ L 5 (i+2)):=c2;have hs0:aJ L 5 (i+2)≠-1:=fun hz=>by rw[hz,jV]at d2;omega
  have e5:aJ L 5 (i+2)=ag L (i+2):=by
    have hd:fm L 1 i≠-1:=by
      rcases h with h|h
      · exfalso
        have:=mB (L:=L) (i:=i) 1 (by decide) ho
        rw[aZ hc,bE]at this
        exact h this
      · exact h
    obtain⟨t1,t2,t3,t4,t5,t6⟩:=mo hd (aZ hc);have hk:=rH (L:=L) (fm L 5 (i+4)-(i+3)).toNat (i+3) (fm L 5 (i+4)) (by omega) (by have:=(fR hd).1;omega) (by omega) t4;obtain⟨o0,o1⟩:=bF t5;have hit:=(na (i:=i+2) (x:=fm L 5 (i+4)) o0 o1 t5 (by rw[show i+2+1=i+3 by omega];exact hk) t2 t3).2;rw[hit];show aK L (fm L 5 (aU L (aK L (i+2) [40]))) [41]=_;have hnm:aU L (i+2+1)=i+4:=by
      unfold aU;rw[show i+2+1=i+3 by omega,t4 (i+3) (Int.le_refl _) (by omega)];simp;omega
    rw[ls t5,hnm,ls t3]
  rw[e5]at d1 d2;have hs:=jU (L:=L) (i:=ag L (i+2)) (w:=1) (Or.inl rfl) (by omega);have c4':ae (aa L (aJ L 1 (aJ L 5 (i+2)))) [41]=true:=c4;rw[e5]at c4';exact⟨t2,1,_,⟨hs.1,hs.2⟩,c4',by rw[hw.2,d1]⟩
end
def cG(w:World)(g n:Nat)(F:Nat→Bool):Prop:=g<w.heap.size∧∀k,k<n→w.cell? ⟨g,k,none⟩=some (.bool (F k))
theorem cG.call{w w':World}{g n:Nat}{F:Nat→Bool}(h:cG w g n F)(hb:ai w w'):cG w' g n F :=
  ⟨Nat.lt_of_lt_of_le h.1 hb.size,fun k hk=>(hb.cell (p:=⟨g,k,none⟩) h.1).trans (h.2 k hk)⟩
theorem aD.J{w:World}{a:Option Addr}{L:af}(h:aD w a L){i:Nat}(hi:i<L.length):∃sb off,a=some ⟨sb,off,none⟩∧w.cell? ⟨sb,off+i,none⟩=some (.string (aa L i))∧sb<w.heap.size:=by
  obtain⟨sb,off,ha,hs,hc,_⟩:=h i hi;refine⟨sb,off,ha,?_,hs⟩;rw[eT (by omega) (by omega)];exact hc
theorem vL(B:Nat)(v:Value)(X:af)(s:ByteArray)(w:World)(h:a8 w B v X)(hl:X.length≤5000000) :
    ah 54 #[v,.string s] w fun e w'=>∃x:Int,e=.returned (.int .i64 x)∧(0≤x↔bc X s=true)∧w'=w:=by
  obtain⟨g,cap,rfl⟩:=h.shape;have ht:oJ g 0 X w:=fun i hi=>by
    have:=h.cells i (.string X[i]) (by simp[hi]);by_cases h0:i=0
    · subst h0
      simpa[Addr.add]using this
    · simpa[Addr.add,h0]using this
  refine(qT g 0 cap X s w ht hl).mono ?_;rintro e w' ⟨x,rfl,hx,rfl⟩;exact⟨x,rfl,hx.trans (pd X s).symm,rfl⟩
def jP(a:Option Addr)(cap:Nat)(L:af)(g fc:Nat)(F:Nat→Bool)(n:Nat):Prop:=∀(i:Int) (s:ByteArray) (fn:Bool) (W:World),aD W a L→cG W g L.length F→aH L i→2*aB L i≤n →
  ah 92 #[.slice a L.length cap,.slice (some ⟨g,0,none⟩) L.length fc,.int .i64 i,.string s,.bool fn] W (aA (.bool (us L F n 0 i s fn)) W)
def j8(a:Option Addr)(cap:Nat)(L:af)(g fc:Nat)(F:Nat→Bool)(n:Nat):Prop:=∀(i e:Int) (k:Nat) (s:ByteArray) (fn:Bool) (W:World),aD W a L→cG W g L.length F→dd L k i e→0≤e→e≤(L.length:Int)→jj L e→2*aB L i+1≤n →
  ah 51 #[.slice a L.length cap,.slice (some ⟨g,0,none⟩) L.length fc,.int .i64 i,.string s,.bool fn] W (aA (.bool (us L F n 1 i s fn)) W)
set_option maxHeartbeats 2000000 in
theorem Hd{a:Option Addr}{cap:Nat}{L:af}{g fc:Nat}{F:Nat→Bool}{n:Nat}(hU:jP a cap L g fc F n)(hL:L.length≤2000):j8 a cap L g fc F (n+1):=by
  intro i e k s fn w h hF hch he0 he1 hend hn;have hce:=eX k i hch he0;have HT:Hid (us L F (n+1) 1 i s fn=(ar L k i).any fun p=>us L F n 0 p s fn):=(by
    show(aT L i).any _=_;rw[ef hch he0 he1 hend]:us L F (n+1) 1 i s fn=(ar L k i).any fun p=>us L F n 0 p s fn)
  rw[HT.out];clear HT;obtain⟨f,hf⟩:∃f:Int→Bool,f=fun p=>us L F n 0 p s fn:=⟨_,rfl⟩
  rw[←hf];have HF:Hid (∀p,us L F n 0 p s fn=f p):=fun p=>by rw[hf]
  clear hf;go_enter func51,ntmps51;go_wp2;go_loopw [2] (fun v2 wr=>∃(x m:Nat),v2=.int .i64 (x:Int)∧i≤(x:Int)∧dd L m (x:Int) e∧ai w wr∧Hid ((ar L m (x:Int)).any f=(ar L k i).any f)) (fun v2 _=>e.toNat-(intOf v2).toNat)
  case atStart =>
    obtain⟨q,hq⟩:∃q:Nat,i=(q:Int):=⟨i.toNat,by omega⟩;subst hq;exact⟨q,k,rfl,Int.le_refl _,hch,Below.refl _ _,rfl⟩
  case round =>
    obtain⟨x,m,rfl,hix,hm,hB,HP⟩:=hrel;have hxe:=eX m _ hm he0;have hA:=h.call hB;have hFr:=hF.call hB;cases m with
    |zero =>
      have ex:(x:Int)=e:=hm;have HM:=aj (by rw[ex];exact tb hend:(decide ((x:Int)<(L.length:Int))&&!ae (aa L x) [41])=false);have HE:=aj (by rw[←HP.out];rfl:(ar L k i).any f=false);clear HP ex hm;go_wp2_with fail;refine(iA a cap L (x:Int) _ hA (by omega) (by omega) (by omega)).mono ?_;rintro r w1 ⟨rfl,hb1⟩;rw[HM.out];go_wp2;go_ret;exact⟨by rw[HE.out];rfl,aw hB hb1⟩
    |succ m =>
      obtain⟨hv,hm2⟩:=hm;have hve:=hv.ends;have hq:=eX m _ hm2 he0;have hfar:=uQ (L:=L) (by omega:0≤i) hix;have HM:=aj (by rw[hv.not41,decide_eq_true (by omega)];rfl:(decide ((x:Int)<(L.length:Int))&&!ae (aa L x) [41])=true);have HPx:Hid ((f (x:Int)||(ar L m (ag L x)).any f)=(ar L k i).any f):=HP.out;have HC:Hid (∀W:World,aD W a L→cG W g L.length F→ah 92 #[.slice a L.length cap,.slice (some ⟨g,0,none⟩) L.length fc,.int .i64 x,.string s,.bool fn] W (aA (.bool (f (x:Int))) W)):=fun W hW hG=>by
        have:=hU (x:Int) s fn W hW hG hv (by omega);rw[HF.out]at this;exact this
      clear HP;obtain⟨z,hz⟩:∃z:Nat,ag L (x:Int)=(z:Int):=⟨(ag L x).toNat,by omega⟩;have HZ:=aj hz;rw[hz]at HPx hm2 hve hq;clear hz;generalize f (x:Int)=o at HC HPx;go_wp2_with fail;refine(iA a cap L (x:Int) _ hA (by omega) (by omega) (by omega)).mono ?_;rintro r w1 ⟨rfl,hb1⟩;rw[HM.out];have hB1:=aw hB hb1;go_wp2_with fail;refine(HC.out _ (h.call hB1) (hF.call hB1)).mono ?_;rintro r w2 ⟨rfl,hb2⟩;have hB2:=aw hB1 hb2;clear HC;cases o
      · go_wp2_with fail
        refine(dk a cap L (x:Int) _ (h.call hB2) (by omega) ⟨by omega,by omega⟩).mono ?_
        rintro r w3 ⟨rfl,hb3⟩
        have hB3:=aw hB2 hb3
        rw[HZ.out]
        go_wp2
        go_roundw
        case rel=>exact⟨z,m,rfl,by omega,hm2,hB3,HPx.out⟩
        case measure=>simp[intOf];omega
      · have HE:Hid ((ar L k i).any f=true):=HPx.out.symm
        go_wp2
        go_ret
        exact⟨by rw[HE.out];rfl,hB2⟩
def ie(L:af)(H:af)(p:Int):Bool:=ae (aa L p) [40]&&H.any fun x=>dJ (aa L (p+1)) x
def bN(L:af)(H:af):Nat→List (Int × Int)
  |0=>[]
  |k+1=>bN L H k++(if ie L H (k:Int)then [((k:Int),ag L k)]else [])
def jk(S:List (Int × Int)):List Value:=S.flatMap fun s=>[.int .i64 s.1,.int .i64 s.2]
theorem qy(S:List (Int × Int))(s:Int × Int):jk (S++[s])=jk S++[.int .i64 s.1,.int .i64 s.2]:=by
  unfold jk;rw[List.flatMap_append];rfl
theorem zP:∀(S:List (Int × Int)) (k:Nat) (h:k<S.length),(jk S)[k*2]?=some (.int .i64 S[k].1)∧(jk S)[k*2+1]?=some (.int .i64 S[k].2)
  |[],k,h=>absurd h (Nat.not_lt_zero _)
  |s::S,0,_=>⟨rfl,rfl⟩
  |s::S,k+1,h=>by
    have ih:=zP S k (by simpa using h);have e:jk (s::S)=.int .i64 s.1::.int .i64 s.2::jk S:=rfl;rw[e,show(k+1)*2=k*2+1+1 by omega,show k*2+1+1+1=(k*2+1)+1+1 by omega];simpa using ih
theorem nc(L H:af):∀k,(bN L H k).length≤k
  |0=>Nat.le_refl _
  |k+1=>by
    have:=nc L H k;show(bN L H k++_).length≤k+1;rw[List.length_append];split<;>simp<;>omega
theorem j5(L H:af)(s:Int × Int):∀k,s∈bN L H k↔(0≤s.1∧s.1<(k:Int)∧ie L H s.1=true∧s.2=ag L s.1)
  |0=>by
    constructor
    · intro h
      cases h
    · rintro⟨a,b,_⟩
      omega
  |k+1=>by
    show s∈bN L H k++_↔_;rw[List.mem_append,j5 L H s k];constructor
    · rintro(⟨a,b,c,d⟩|h)
      · exact⟨a,by omega,c,d⟩
      · split at h
        · rename_i hb
          rw[List.mem_singleton]at h
          subst h
          exact⟨by omega,by omega,hb,rfl⟩
        · cases h
    · rintro⟨a,b,c,d⟩
      by_cases hk:s.1<(k:Int)
      · exact Or.inl ⟨a,hk,c,d⟩
      · right
        have e:s.1=(k:Int):=by omega
        rw[e]at c d
        rw[if_pos c,List.mem_singleton]
        exact Prod.ext e d
def fF(s:Int × Int)(at_:Int):Bool:=decide (s.1<at_)&&decide (at_<s.2)
def bM(at_:Int):List (Int × Int)→Int→Int
  |[],m=>m
  |s::S,m=>bM at_ S (if fF s at_ then max m s.1 else m)
theorem sK(at_:Int):∀(S:List (Int × Int)) (m:Int),m≤bM at_ S m∧(bM at_ S m=m∨∃s∈S,s.1=bM at_ S m∧fF s at_=true)∧∀s∈S,fF s at_=true→s.1≤bM at_ S m
  |[],m=>⟨Int.le_refl _,Or.inl rfl,fun s h=>by cases h⟩
  |s::S,m=>by
    obtain⟨h1,h2,h3⟩:=sK at_ S (if fF s at_ then max m s.1 else m);show m≤bM at_ S _∧(bM at_ S _=m∨∃t∈s::S,t.1=bM at_ S _∧fF t at_=true)∧∀t∈s::S,fF t at_=true→t.1≤bM at_ S _;generalize bM at_ S (if fF s at_ then max m s.1 else m)=r at h1 h2 h3;cases hb:fF s at_
    · rw[hb]at h1 h2
      simp only[Bool.false_eq_true,if_false]at h1 h2
      refine⟨h1,?_,fun t ht hta=>?_⟩
      · rcases h2 with h2|⟨t,a,b⟩
        · exact Or.inl h2
        · exact Or.inr ⟨t,List.mem_cons_of_mem _ a,b⟩
      · rcases List.mem_cons.mp ht with rfl|ht
        · rw[hb]at hta
          cases hta
        · exact h3 t ht hta
    · rw[hb]at h1 h2
      simp only[if_true]at h1 h2
      refine⟨by omega,?_,fun t ht hta=>?_⟩
      · rcases h2 with h2|⟨t,a,b⟩
        · by_cases hm:s.1≤m
          · left
            omega
          · right
            exact⟨s,List.mem_cons_self ..,by omega,hb⟩
        · exact Or.inr ⟨t,List.mem_cons_of_mem _ a,b⟩
      · rcases List.mem_cons.mp ht with rfl|ht
        · omega
        · exact h3 t ht hta
theorem Aq(at_:Int)(s:Int × Int):∀(S:List (Int × Int)) (m:Int),bM at_ (S++[s]) m=(if fF s at_ then max (bM at_ S m) s.1 else bM at_ S m)
  |[],_=>rfl
  |_::S,_=>Aq at_ s S _
def bG:ByteArray:=⟨#[102,110]⟩
def mr:ByteArray:=⟨#[119,104,105,108,101]⟩
def lT:ByteArray:=⟨#[102,111,114]⟩
def bx:ByteArray:=⟨#[100,111]⟩
def fi(L:af):List (Int × Int):=bN L [mr,lT] L.length
def eQ(L:af):List (Int × Int):=bN L [bG] L.length
def dQ(L:af):List (Int × Int):=bN L [bx] L.length
theorem sC(s:ByteArray)(c:List UInt8):dJ s ⟨c.toArray⟩=ae s c:=by
  show(s.toList==(⟨c.toArray⟩:ByteArray).toList)=(s.toList==c);rw[show(⟨c.toArray⟩:ByteArray).toList=c from bE c]
theorem Db(L:af)(p:Int):ie L [mr,lT] p=(ae (aa L p) [40]&&dS L p):=by
  unfold ie dS;simp only[List.any_cons,List.any_nil,Bool.or_false];rw[show mr=⟨([119,104,105,108,101]:List UInt8).toArray⟩from rfl,show lT=⟨([102,111,114]:List UInt8).toArray⟩from rfl,sC,sC]
theorem tL(L:af)(p:Int):ie L [bG] p=(ae (aa L p) [40]&&dt L p):=by
  unfold ie dt;simp only[List.any_cons,List.any_nil,Bool.or_false];rw[show bG=⟨([102,110]:List UInt8).toArray⟩from rfl,sC]
theorem pO(L:af)(p:Int):ie L [bx] p=bU L p:=by
  unfold ie bU;simp only[List.any_cons,List.any_nil,Bool.or_false];rw[show bx=⟨([100,111]:List UInt8).toArray⟩from rfl,sC]
theorem rY(s:Int × Int)(p:Int):fF s p=true↔(s.1<p∧p<s.2):=by
  unfold fF;rw[Bool.and_eq_true,decide_eq_true_iff,decide_eq_true_iff]
theorem tK{L H:af}{q p:Int}(ha:bH L q p)(hb:ie L H q=true):(q,ag L q)∈bN L H L.length∧fF (q,ag L q) p=true:=by
  have h0:=bF ha.1;exact⟨(j5 L H _ _).2 ⟨h0.1,h0.2,hb,rfl⟩,(rY _ _).2 ⟨ha.2.1,ha.2.2⟩⟩
theorem p8{L H:af}{s:Int × Int}{p:Int}(hm:s∈bN L H L.length)(hb:fF s p=true):bH L s.1 p∧ie L H s.1=true∧0≤s.1:=by
  obtain⟨h0,h1,h2,h3⟩:=(j5 L H _ _).1 hm;obtain⟨h4,h5⟩:=(rY _ _).1 hb;have ho:ae (aa L s.1) [40]=true:=by
    unfold ie at h2;rw[Bool.and_eq_true]at h2;exact h2.1
  exact⟨⟨ho,h4,by rw[←h3];exact h5⟩,h2,h0⟩
end Go.Proofs.YtdojfommmpnbgaaGreatDoor
