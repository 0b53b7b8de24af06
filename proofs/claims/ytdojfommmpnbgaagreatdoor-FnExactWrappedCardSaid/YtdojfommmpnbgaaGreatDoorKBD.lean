import Derived.Test.YtdojfommmpnbgaaGreatDoorKBC
set_option maxHeartbeats 16000000
set_option maxRecDepth 100000
namespace Go.Proofs.YtdojfommmpnbgaaGreatDoor
open Go.RowKit Go.Proofs.Tryz
section
variable {a:Option Addr} {cap:Nat} {L:af} {g fc:Nat} {F:Nat→Bool} {n:Nat}
theorem NH(hU:jP a cap L g fc F n)(hA:j8 a cap L g fc F n)(hL:L.length≤2000)(x:Nat)(s:ByteArray)(fn:Bool)(w:World)(h:aD w a L)(hF:cG w g L.length F)(hv:aH L x)(hn:2*aB L (x:Int)≤n+1)(ho:ae (aa L x) [40]=true)(hw:ae (aa L ((x:Int)+1)) [108,101,116]=true) :
  ah 92 #[.slice a L.length cap,.slice (some ⟨g,0,none⟩) L.length fc,.int .i64 x,.string s,.bool fn] w (aA (.bool (us L F n 1 ((x:Int)+3) s fn)) w):=by
 have hve:=hv.ends;obtain⟨q0,k,e,q1,q2,q3⟩:=hv.Pb ho _ hw (Or.inl rfl);have qe:=dH q2;have qc:=eX k _ q1 qe.1;have hfar:=dC (L:=L) (i:=(x:Int)) (j:=(x:Int)+3) hve.1 (by omega) (by omega);obtain⟨sb,off,rfl,s0,hsb⟩:=h.J (i:=x) (by omega);have b40:=aM ho;obtain⟨sb1,off1,ha1,s1,_⟩:=h.J (i:=x+1) (by omega);injection ha1 with ha1;injection ha1 with e1 f1 _;subst e1;subst f1;rw[show((x+1:Nat):Int)=(x:Int)+1 by omega]at s1;have hxu:x+1<L.length:=by omega
 have b_fn:=aC hw [102,110];have b_do:=aC hw [100,111];have b_let:=aM hw;have HC:Hid (∀W:World,aD W (some ⟨sb,off,none⟩) L→cG W g L.length F→ah 51 #[.slice (some ⟨sb,off,none⟩) L.length cap,.slice (some ⟨g,0,none⟩) L.length fc,.int .i64 ((x:Int)+3),.string s,.bool fn] W (aA (.bool (us L F n 1 ((x:Int)+3) s fn)) W)):=fun W hW hG=>hA _ e k s fn W hW hG q1 qe.1 (by omega) (bP q2) (by omega)
 generalize us L F n 1 ((x:Int)+3) s fn=o1 at HC ⊢;clear hU hA;generalize aa L ((x:Int))=y0 at s0 b40;generalize aa L ((x:Int)+1)=y1 at s1 b_fn b_do b_let;go_enter func92,ntmps92;go_wp2_with fail;refine(HC.out _ h hF).mono ?_;rintro r w8 ⟨rfl,hb8⟩;go_wp2;go_ret;exact⟨rfl,hb8⟩
theorem NC(hU:jP a cap L g fc F n)(hA:j8 a cap L g fc F n)(hL:L.length≤2000)(x:Nat)(s:ByteArray)(fn:Bool)(w:World)(h:aD w a L)(hF:cG w g L.length F)(hv:aH L x)(hn:2*aB L (x:Int)≤n+1)(ho:ae (aa L x) [40]=true)(hw:ae (aa L ((x:Int)+1)) [104,103,101,116]=true) :
  ah 92 #[.slice a L.length cap,.slice (some ⟨g,0,none⟩) L.length fc,.int .i64 x,.string s,.bool fn] w (aA (.bool (us L F n 1 ((x:Int)+3) s fn)) w):=by
 have hve:=hv.ends;obtain⟨q0,_,k,e,q1,q2,q3⟩:=hv.OQ ho _ hw (Or.inl rfl);have qe:=dH q2;have qc:=eX k _ q1 qe.1;have hfar:=dC (L:=L) (i:=(x:Int)) (j:=(x:Int)+3) hve.1 (by omega) (by omega);obtain⟨sb,off,rfl,s0,hsb⟩:=h.J (i:=x) (by omega);have b40:=aM ho;obtain⟨sb1,off1,ha1,s1,_⟩:=h.J (i:=x+1) (by omega);injection ha1 with ha1;injection ha1 with e1 f1 _;subst e1;subst f1;rw[show((x+1:Nat):Int)=(x:Int)+1 by omega]at s1;have hxu:x+1<L.length:=by omega
 have b_fn:=aC hw [102,110];have b_do:=aC hw [100,111];have b_let:=aC hw [108,101,116];have b_hget:=aM hw;have HC:Hid (∀W:World,aD W (some ⟨sb,off,none⟩) L→cG W g L.length F→ah 51 #[.slice (some ⟨sb,off,none⟩) L.length cap,.slice (some ⟨g,0,none⟩) L.length fc,.int .i64 ((x:Int)+3),.string s,.bool fn] W (aA (.bool (us L F n 1 ((x:Int)+3) s fn)) W)):=fun W hW hG=>hA _ e k s fn W hW hG q1 qe.1 (by omega) (bP q2) (by omega)
 generalize us L F n 1 ((x:Int)+3) s fn=o1 at HC ⊢;clear hU hA;generalize aa L ((x:Int))=y0 at s0 b40;generalize aa L ((x:Int)+1)=y1 at s1 b_fn b_do b_let b_hget;go_enter func92,ntmps92;go_wp2_with fail;refine(HC.out _ h hF).mono ?_;rintro r w8 ⟨rfl,hb8⟩;go_wp2;go_ret;exact⟨rfl,hb8⟩
theorem NF(hU:jP a cap L g fc F n)(hA:j8 a cap L g fc F n)(hL:L.length≤2000)(x:Nat)(s:ByteArray)(fn:Bool)(w:World)(h:aD w a L)(hF:cG w g L.length F)(hv:aH L x)(hn:2*aB L (x:Int)≤n+1)(ho:ae (aa L x) [40]=true)(hw:ae (aa L ((x:Int)+1)) [104,112,117,116]=true) :
  ah 92 #[.slice a L.length cap,.slice (some ⟨g,0,none⟩) L.length fc,.int .i64 x,.string s,.bool fn] w (aA (.bool (us L F n 1 ((x:Int)+3) s fn)) w):=by
 have hve:=hv.ends;obtain⟨q0,_,k,e,q1,q2,q3⟩:=hv.OQ ho _ hw (Or.inr rfl);have qe:=dH q2;have qc:=eX k _ q1 qe.1;have hfar:=dC (L:=L) (i:=(x:Int)) (j:=(x:Int)+3) hve.1 (by omega) (by omega);obtain⟨sb,off,rfl,s0,hsb⟩:=h.J (i:=x) (by omega);have b40:=aM ho;obtain⟨sb1,off1,ha1,s1,_⟩:=h.J (i:=x+1) (by omega);injection ha1 with ha1;injection ha1 with e1 f1 _;subst e1;subst f1;rw[show((x+1:Nat):Int)=(x:Int)+1 by omega]at s1;have hxu:x+1<L.length:=by omega
 have b_fn:=aC hw [102,110];have b_do:=aC hw [100,111];have b_let:=aC hw [108,101,116];have b_hget:=aC hw [104,103,101,116];have b_hput:=aM hw;have HC:Hid (∀W:World,aD W (some ⟨sb,off,none⟩) L→cG W g L.length F→ah 51 #[.slice (some ⟨sb,off,none⟩) L.length cap,.slice (some ⟨g,0,none⟩) L.length fc,.int .i64 ((x:Int)+3),.string s,.bool fn] W (aA (.bool (us L F n 1 ((x:Int)+3) s fn)) W)):=fun W hW hG=>hA _ e k s fn W hW hG q1 qe.1 (by omega) (bP q2) (by omega)
 generalize us L F n 1 ((x:Int)+3) s fn=o1 at HC ⊢;clear hU hA;generalize aa L ((x:Int))=y0 at s0 b40;generalize aa L ((x:Int)+1)=y1 at s1 b_fn b_do b_let b_hget b_hput;go_enter func92,ntmps92;go_wp2_with fail;refine(HC.out _ h hF).mono ?_;rintro r w8 ⟨rfl,hb8⟩;go_wp2;go_ret;exact⟨rfl,hb8⟩
theorem NJ(hU:jP a cap L g fc F n)(hA:j8 a cap L g fc F n)(hL:L.length≤2000)(x:Nat)(s:ByteArray)(fn:Bool)(w:World)(h:aD w a L)(hF:cG w g L.length F)(hv:aH L x)(hn:2*aB L (x:Int)≤n+1)(ho:ae (aa L x) [40]=true)(hw:ae (aa L ((x:Int)+1)) [115,101,116]=true) :
  ah 92 #[.slice a L.length cap,.slice (some ⟨g,0,none⟩) L.length fc,.int .i64 x,.string s,.bool fn] w (aA (.bool (if fn&&dJ (aa L ((x:Int)+2)) s then true else us L F n 1 ((x:Int)+3) s fn)) w):=by
 have hve:=hv.ends;obtain⟨q0,k,e,q1,q2,q3⟩:=hv.Pb ho _ hw (Or.inr rfl);have qe:=dH q2;have qc:=eX k _ q1 qe.1;have hfar:=dC (L:=L) (i:=(x:Int)) (j:=(x:Int)+3) hve.1 (by omega) (by omega);obtain⟨sb,off,rfl,s0,hsb⟩:=h.J (i:=x) (by omega);have b40:=aM ho;obtain⟨sb1,off1,ha1,s1,_⟩:=h.J (i:=x+1) (by omega);injection ha1 with ha1;injection ha1 with e1 f1 _;subst e1;subst f1;rw[show((x+1:Nat):Int)=(x:Int)+1 by omega]at s1;obtain⟨sb2,off2,ha2,s2,_⟩:=h.J (i:=x+2) (by omega);injection ha2 with ha2;injection ha2 with e2 f2 _;subst e2;subst f2;rw[show((x+2:Nat):Int)=(x:Int)+2 by omega]at s2;have hxu:x+2<L.length:=by omega
 have b_fn:=aC hw [102,110];have b_do:=aC hw [100,111];have b_let:=aC hw [108,101,116];have b_hget:=aC hw [104,103,101,116];have b_hput:=aC hw [104,112,117,116];have b_set:=aM hw;have HC:Hid (∀W:World,aD W (some ⟨sb,off,none⟩) L→cG W g L.length F→ah 51 #[.slice (some ⟨sb,off,none⟩) L.length cap,.slice (some ⟨g,0,none⟩) L.length fc,.int .i64 ((x:Int)+3),.string s,.bool fn] W (aA (.bool (us L F n 1 ((x:Int)+3) s fn)) W)):=fun W hW hG=>hA _ e k s fn W hW hG q1 qe.1 (by omega) (bP q2) (by omega)
 generalize us L F n 1 ((x:Int)+3) s fn=o1 at HC ⊢;clear hU hA;generalize aa L ((x:Int))=y0 at s0 b40;generalize aa L ((x:Int)+1)=y1 at s1 b_fn b_do b_let b_hget b_hput b_set;generalize aa L ((x:Int)+2)=y2 at s2 ⊢;unfold dJ;cases fn
 ·go_enter func92,ntmps92;go_wp2_with fail;refine(HC.out _ h hF).mono ?_;rintro r w8 ⟨rfl,hb8⟩;go_wp2;go_ret;exact⟨rfl,hb8⟩
 ·cases hq:(y2.toList==s.toList)
  ·go_enter func92,ntmps92;go_wp2_with fail;refine(HC.out _ h hF).mono ?_;rintro r w8 ⟨rfl,hb8⟩;go_wp2;go_ret;exact⟨rfl,hb8⟩
  ·go_enter func92,ntmps92;go_wp2;go_ret;exact⟨rfl,Below.refl _ _⟩
theorem NK(hU:jP a cap L g fc F n)(hA:j8 a cap L g fc F n)(hL:L.length≤2000)(x:Nat)(s:ByteArray)(fn:Bool)(w:World)(h:aD w a L)(hF:cG w g L.length F)(hv:aH L x)(hn:2*aB L (x:Int)≤n+1)(ho:ae (aa L x) [40]=true)(hw:ae (aa L ((x:Int)+1)) [116,97,107,101]=true) :
  ah 92 #[.slice a L.length cap,.slice (some ⟨g,0,none⟩) L.length fc,.int .i64 x,.string s,.bool fn] w (aA (.bool (us L F n 1 (ag L ((x:Int)+2)) s fn)) w):=by
 have hve:=hv.ends;obtain⟨q0,k,e,q1,q2,q3⟩:=hv.PC ho hw;have qe:=dH q2;have qc:=eX k _ q1 qe.1;have hfar:=dC (L:=L) (i:=(x:Int)) (j:=ag L ((x:Int)+2)) hve.1 (by omega) (by omega);obtain⟨sb,off,rfl,s0,hsb⟩:=h.J (i:=x) (by omega);have b40:=aM ho;obtain⟨sb1,off1,ha1,s1,_⟩:=h.J (i:=x+1) (by omega);injection ha1 with ha1;injection ha1 with e1 f1 _;subst e1;subst f1;rw[show((x+1:Nat):Int)=(x:Int)+1 by omega]at s1;have hxu:x+1<L.length:=by omega
 have b_fn:=aC hw [102,110];have b_do:=aC hw [100,111];have b_let:=aC hw [108,101,116];have b_hget:=aC hw [104,103,101,116];have b_hput:=aC hw [104,112,117,116];have b_set:=aC hw [115,101,116];have b_take:=aM hw;have HI:Hid (∀W:World,aD W (some ⟨sb,off,none⟩) L→ah 16 #[.slice (some ⟨sb,off,none⟩) L.length cap,.int .i64 ((x:Int)+2)] W (aA (.int .i64 (ag L ((x:Int)+2))) W)):=fun W hW=>dk _ cap L ((x:Int)+2) W hW (by omega) ⟨by omega,by omega⟩
 have HC:Hid (∀W:World,aD W (some ⟨sb,off,none⟩) L→cG W g L.length F→ah 51 #[.slice (some ⟨sb,off,none⟩) L.length cap,.slice (some ⟨g,0,none⟩) L.length fc,.int .i64 (ag L ((x:Int)+2)),.string s,.bool fn] W (aA (.bool (us L F n 1 (ag L ((x:Int)+2)) s fn)) W)):=fun W hW hG=>hA _ e k s fn W hW hG q1 qe.1 (by omega) (bP q2) (by omega)
 generalize us L F n 1 (ag L ((x:Int)+2)) s fn=o1 at HC ⊢;generalize ag L ((x:Int)+2)=z at HC HI;clear hU hA q0 q1 qc hfar;generalize aa L ((x:Int))=y0 at s0 b40;generalize aa L ((x:Int)+1)=y1 at s1 b_fn b_do b_let b_hget b_hput b_set b_take;go_enter func92,ntmps92;go_wp2_with fail;refine(HI.out _ h).mono ?_;rintro r w7 ⟨rfl,hb7⟩;go_wp2_with fail;refine(HC.out _ (h.call hb7) (hF.call hb7)).mono ?_;rintro r w8 ⟨rfl,hb8⟩;go_wp2;go_ret;exact⟨rfl,aw hb7 hb8⟩
theorem ND(hL:L.length≤2000)(x:Nat)(s:ByteArray)(fn:Bool)(w:World)(h:aD w a L)(ho:ae (aa L x) [40]=true)(hw:ae (aa L ((x:Int)+1)) [104,105,100,100,101,110]=true)(hx:x+1<L.length) :
  ah 92 #[.slice a L.length cap,.slice (some ⟨g,0,none⟩) L.length fc,.int .i64 x,.string s,.bool fn] w (aA (.bool (false)) w):=by
 obtain⟨sb,off,rfl,s0,hsb⟩:=h.J (i:=x) (by omega);have b40:=aM ho;obtain⟨sb1,off1,ha1,s1,_⟩:=h.J (i:=x+1) (by omega);injection ha1 with ha1;injection ha1 with e1 f1 _;subst e1;subst f1;rw[show((x+1:Nat):Int)=(x:Int)+1 by omega]at s1;have hxu:x+1<L.length:=by omega
 have b_fn:=aC hw [102,110];have b_do:=aC hw [100,111];have b_let:=aC hw [108,101,116];have b_hget:=aC hw [104,103,101,116];have b_hput:=aC hw [104,112,117,116];have b_set:=aC hw [115,101,116];have b_take:=aC hw [116,97,107,101];have b_hidden:=aM hw;generalize aa L ((x:Int))=y0 at s0 b40;generalize aa L ((x:Int)+1)=y1 at s1 b_fn b_do b_let b_hget b_hput b_set b_take b_hidden;go_enter func92,ntmps92;go_wp2;go_ret;exact⟨rfl,Below.refl _ _⟩
theorem NL(hL:L.length≤2000)(x:Nat)(s:ByteArray)(fn:Bool)(w:World)(h:aD w a L)(ho:ae (aa L x) [40]=true)(hw:ae (aa L ((x:Int)+1)) [118,97,114,115]=true)(hx:x+1<L.length) :
  ah 92 #[.slice a L.length cap,.slice (some ⟨g,0,none⟩) L.length fc,.int .i64 x,.string s,.bool fn] w (aA (.bool (false)) w):=by
 obtain⟨sb,off,rfl,s0,hsb⟩:=h.J (i:=x) (by omega);have b40:=aM ho;obtain⟨sb1,off1,ha1,s1,_⟩:=h.J (i:=x+1) (by omega);injection ha1 with ha1;injection ha1 with e1 f1 _;subst e1;subst f1;rw[show((x+1:Nat):Int)=(x:Int)+1 by omega]at s1;have hxu:x+1<L.length:=by omega
 have b_fn:=aC hw [102,110];have b_do:=aC hw [100,111];have b_let:=aC hw [108,101,116];have b_hget:=aC hw [104,103,101,116];have b_hput:=aC hw [104,112,117,116];have b_set:=aC hw [115,101,116];have b_take:=aC hw [116,97,107,101];have b_hidden:=aC hw [104,105,100,100,101,110];have b_vars:=aM hw;generalize aa L ((x:Int))=y0 at s0 b40;generalize aa L ((x:Int)+1)=y1 at s1 b_fn b_do b_let b_hget b_hput b_set b_take b_hidden b_vars;go_enter func92,ntmps92;go_wp2;go_ret;exact⟨rfl,Below.refl _ _⟩
theorem Ny(hU:jP a cap L g fc F n)(hA:j8 a cap L g fc F n)(hL:L.length≤2000)(x:Nat)(s:ByteArray)(fn:Bool)(w:World)(h:aD w a L)(hF:cG w g L.length F)(hv:aH L x)(hn:2*aB L (x:Int)≤n+1)(ho:ae (aa L x) [40]=true)(hw:ae (aa L ((x:Int)+1)) [100,111]=true) :
  ah 92 #[.slice a L.length cap,.slice (some ⟨g,0,none⟩) L.length fc,.int .i64 x,.string s,.bool fn] w (aA (.bool (if bc (dI L ((x:Int)+2)) s then false else us L F n 1 ((x:Int)+2) s (fn||F x))) w):=by
 have hve:=hv.ends;obtain⟨k,e,q1d,q2,q3⟩:=hv.OK ho hw;have qe:=dH q2;have qc:=gU k _ q1d qe.1;have q1:=(eK k _ q1d).1;have hdc:=sh q1d qe.1 (by omega) (bP q2);have hdl:=qm q1d qe.1 (by omega) (bP q2);have hfar:=dC (L:=L) (i:=(x:Int)) (j:=(x:Int)+2) hve.1 (by omega) (by omega);obtain⟨sb,off,rfl,s0,hsb⟩:=h.J (i:=x) (by omega);have b40:=aM ho;obtain⟨sb1,off1,ha1,s1,_⟩:=h.J (i:=x+1) (by omega);injection ha1 with ha1;injection ha1 with e1 f1 _;subst e1;subst f1;rw[show((x+1:Nat):Int)=(x:Int)+1 by omega]at s1;have hxu:x+1<L.length:=by omega
 have b_fn:=aC hw [102,110];have b_do:=aM hw;obtain⟨f,hf⟩:∃f:Bool→Bool,∀b,us L F n 1 ((x:Int)+2) s b=f b:=⟨_,fun _=>rfl⟩;rw[hf];have HC:Hid (∀(b:Bool) (W:World),aD W (some ⟨sb,off,none⟩) L→cG W g L.length F→ah 51 #[.slice (some ⟨sb,off,none⟩) L.length cap,.slice (some ⟨g,0,none⟩) L.length fc,.int .i64 ((x:Int)+2),.string s,.bool b] W (aA (.bool (f b)) W)):=fun b W hW hG=>by rw[←hf];exact hA _ e k s b W hW hG q1 qe.1 (by omega) (bP q2) (by omega)
 have HD:Hid (ah 50 #[.slice (some ⟨sb,off,none⟩) L.length cap,.int .i64 ((x:Int)+2),.bool false] w (kf (dI L ((x:Int)+2)) w)):=by
  have:=sU _ cap L k _ e w h (by omega) (by omega) (by omega) qe.1 (bP q2) q1d;rw[hdc]at this;exact this
 have hXl:(dI L ((x:Int)+2)).length≤5000000:=by omega
 clear hf hU hA hdc hdl;generalize dI L ((x:Int)+2)=X at HD hXl ⊢;generalize hR:(if bc X s then false else f (fn||F x))=R;have HR:=aj hR;clear hR;generalize aa L ((x:Int))=y0 at s0 b40;generalize aa L ((x:Int)+1)=y1 at s1 b_fn b_do;go_enter func92,ntmps92;go_wp2_with fail;refine HD.out.mono ?_;rintro r w1 ⟨v,rfl,hN,hb1⟩;have h1:=h.call hb1;have hF1:=hF.call hb1;have f1:=hF1.2 x (by omega);clear HD;go_wp2_with fail;refine(vL _ v X s _ hN hXl).mono ?_;rintro r w2 ⟨y,rfl,hy,rfl⟩;cases hq:bc X s
 ·have hy0:¬0≤y:=fun hh=>by
   have:=hy.mp hh;rw[hq]at this;cases this
  have HQ:=aj (by rw[←HR.out,hq];rfl:R=f (fn||F x))
  clear hy hq HR
  generalize F x=fx at f1 HQ
  cases fn
  ·go_wp2_with fail;refine(HC.out fx _ h1 hF1).mono ?_;rintro r w8 ⟨rfl,hb8⟩;go_wp2;go_ret;exact⟨by rw[HQ.out];rfl,aw hb1 hb8⟩
  ·go_wp2_with fail;refine(HC.out true _ h1 hF1).mono ?_;rintro r w8 ⟨rfl,hb8⟩;go_wp2;go_ret;exact⟨by rw[HQ.out];rfl,aw hb1 hb8⟩
 ·have hy0:0≤y:=hy.mpr hq;have HQ:=aj (by rw[←HR.out,hq];rfl:R=false);clear hy hq HR;go_wp2;go_ret;exact⟨by rw[HQ.out];rfl,hb1⟩
theorem NB(hU:jP a cap L g fc F n)(hA:j8 a cap L g fc F n)(hL:L.length≤2000)(x:Nat)(s:ByteArray)(fn:Bool)(w:World)(h:aD w a L)(hF:cG w g L.length F)(hv:aH L x)(hn:2*aB L (x:Int)≤n+1)(ho:ae (aa L x) [40]=true)(hw:ae (aa L ((x:Int)+1)) [102,111,114]=true) :
  ah 92 #[.slice a L.length cap,.slice (some ⟨g,0,none⟩) L.length fc,.int .i64 x,.string s,.bool fn] w (aA (.bool (if us L F n 0 ((x:Int)+3) s fn||us L F n 0 (ag L ((x:Int)+3)) s fn then true else !dJ (aa L ((x:Int)+2)) s&&us L F n 0 (ag L (ag L ((x:Int)+3))) s fn)) w):=by
 have hve:=hv.ends;obtain⟨_,q0,q1,q2,q3,q4⟩:=hv.OZ ho hw;have z1:=q1.ends;have z2:=q2.ends;have z3:=q3.ends;have hfar:=dC (L:=L) (i:=(x:Int)) (j:=(x:Int)+3) hve.1 (by omega) (by omega);have hfar2:=dC (L:=L) (i:=(x:Int)) (j:=ag L ((x:Int)+3)) hve.1 (by omega) (by omega);have hfar3:=dC (L:=L) (i:=(x:Int)) (j:=ag L (ag L ((x:Int)+3))) hve.1 (by omega) (by omega);obtain⟨sb,off,rfl,s0,hsb⟩:=h.J (i:=x) (by omega);have b40:=aM ho;obtain⟨sb1,off1,ha1,s1,_⟩:=h.J (i:=x+1) (by omega);injection ha1 with ha1;injection ha1 with e1 f1 _;subst e1;subst f1;rw[show((x+1:Nat):Int)=(x:Int)+1 by omega]at s1;obtain⟨sb2,off2,ha2,s2,_⟩:=h.J (i:=x+2) (by omega);injection ha2 with ha2;injection ha2 with e2 f2 _;subst e2;subst f2;rw[show((x+2:Nat):Int)=(x:Int)+2 by omega]at s2;have hxu:x+2<L.length:=by omega
 have b_fn:=aC hw [102,110];have b_do:=aC hw [100,111];have b_let:=aC hw [108,101,116];have b_hget:=aC hw [104,103,101,116];have b_hput:=aC hw [104,112,117,116];have b_set:=aC hw [115,101,116];have b_take:=aC hw [116,97,107,101];have b_hidden:=aC hw [104,105,100,100,101,110];have b_vars:=aC hw [118,97,114,115];have b_for:=aM hw;have HU1:Hid (∀W:World,aD W (some ⟨sb,off,none⟩) L→cG W g L.length F→ah 92 #[.slice (some ⟨sb,off,none⟩) L.length cap,.slice (some ⟨g,0,none⟩) L.length fc,.int .i64 ((x:Int)+3),.string s,.bool fn] W (aA (.bool (us L F n 0 ((x:Int)+3) s fn)) W)):=fun W hW hG=>hU _ s fn W hW hG (by assumption) (by omega)
 have HU2:Hid (∀W:World,aD W (some ⟨sb,off,none⟩) L→cG W g L.length F→ah 92 #[.slice (some ⟨sb,off,none⟩) L.length cap,.slice (some ⟨g,0,none⟩) L.length fc,.int .i64 (ag L ((x:Int)+3)),.string s,.bool fn] W (aA (.bool (us L F n 0 (ag L ((x:Int)+3)) s fn)) W)):=fun W hW hG=>hU _ s fn W hW hG (by assumption) (by omega)
 have HU3:Hid (∀W:World,aD W (some ⟨sb,off,none⟩) L→cG W g L.length F→ah 92 #[.slice (some ⟨sb,off,none⟩) L.length cap,.slice (some ⟨g,0,none⟩) L.length fc,.int .i64 (ag L (ag L ((x:Int)+3))),.string s,.bool fn] W (aA (.bool (us L F n 0 (ag L (ag L ((x:Int)+3))) s fn)) W)):=fun W hW hG=>hU _ s fn W hW hG (by assumption) (by omega)
 have HI1:Hid (∀W:World,aD W (some ⟨sb,off,none⟩) L→ah 16 #[.slice (some ⟨sb,off,none⟩) L.length cap,.int .i64 ((x:Int)+3)] W (aA (.int .i64 (ag L ((x:Int)+3))) W)):=fun W hW=>dk _ cap L ((x:Int)+3) W hW (by omega) ⟨by omega,by omega⟩
 have HI2:Hid (∀W:World,aD W (some ⟨sb,off,none⟩) L→ah 16 #[.slice (some ⟨sb,off,none⟩) L.length cap,.int .i64 (ag L ((x:Int)+3))] W (aA (.int .i64 (ag L (ag L ((x:Int)+3)))) W)):=fun W hW=>dk _ cap L (ag L ((x:Int)+3)) W hW (by omega) ⟨by omega,by omega⟩
 generalize us L F n 0 ((x:Int)+3) s fn=o1 at HU1 ⊢;generalize us L F n 0 (ag L ((x:Int)+3)) s fn=o2 at HU2 ⊢;generalize us L F n 0 (ag L (ag L ((x:Int)+3))) s fn=o3 at HU3 ⊢;generalize ag L (ag L ((x:Int)+3))=u3 at HU3 HI2;generalize ag L ((x:Int)+3)=u2 at HU2 HI1 HI2;clear hU hA q1 q2 q3 q4 z1 z2 z3 hfar hfar2 hfar3;generalize aa L ((x:Int))=y0 at s0 b40;generalize aa L ((x:Int)+1)=y1 at s1 b_fn b_do b_let b_hget b_hput b_set b_take b_hidden b_vars b_for;generalize aa L ((x:Int)+2)=y2 at s2 ⊢;generalize hR:(if o1||o2 then true else !dJ y2 s&&o3)=R;have HR:=aj hR;clear hR;unfold dJ at HR;go_enter func92,ntmps92;go_wp2_with fail;refine(HI1.out _ h).mono ?_;rintro r w1 ⟨rfl,hb1⟩;go_wp2_with fail;refine(HU1.out _ (h.call hb1) (hF.call hb1)).mono ?_;rintro r w2 ⟨rfl,hb2⟩;have hB2:=aw hb1 hb2;clear HI1 HU1;cases o1
 ·go_wp2_with fail;refine(HU2.out _ (h.call hB2) (hF.call hB2)).mono ?_;rintro r w3 ⟨rfl,hb3⟩;have hB3:=aw hB2 hb3;clear HU2;cases o2
  ·have s2':=(hB3.cell (p:=⟨sb,off+(x+2),none⟩) hsb).trans s2;cases hq:(y2.toList==s.toList)
   ·go_wp2_with fail;refine(HI2.out _ (h.call hB3)).mono ?_;rintro r w4 ⟨rfl,hb4⟩;have hB4:=aw hB3 hb4;go_wp2_with fail;refine(HU3.out _ (h.call hB4) (hF.call hB4)).mono ?_;rintro r w5 ⟨rfl,hb5⟩;go_wp2;go_ret;exact⟨by rw[←HR.out,hq];cases o3<;>rfl,aw hB4 hb5⟩
   ·go_wp2;go_ret;exact⟨by rw[←HR.out,hq];rfl,hB3⟩
  ·go_wp2;go_ret;exact⟨by rw[←HR.out];rfl,hB3⟩
 ·go_wp2;go_ret;exact⟨by rw[←HR.out];rfl,hB2⟩
theorem NG(x:Nat)(s:ByteArray)(fn:Bool)(w:World)(h:aD w a L)(hv:aH L x)(ho:ae (aa L x) [40]=false) :
  ah 92 #[.slice a L.length cap,.slice (some ⟨g,0,none⟩) L.length fc,.int .i64 x,.string s,.bool fn] w (aA (.bool (fn&&dJ (aa L x) s)) w):=by
 have hve:=hv.ends;obtain⟨sb,off,rfl,s0,hsb⟩:=h.J (i:=x) (by omega);have b40:=aM ho;generalize aa L (x:Int)=y0 at s0 b40 ⊢;unfold dJ;cases fn
 ·go_enter func92,ntmps92;go_wp2;go_ret;exact⟨rfl,Below.refl _ _⟩
 ·cases hq:(y0.toList==s.toList)
  ·go_enter func92,ntmps92;go_wp2;go_ret;exact⟨rfl,Below.refl _ _⟩
  ·go_enter func92,ntmps92;go_wp2;go_ret;exact⟨rfl,Below.refl _ _⟩
theorem Nz(hU:jP a cap L g fc F n)(hA:j8 a cap L g fc F n)(hL:L.length≤2000)(x:Nat)(s:ByteArray)(fn:Bool)(w:World)(h:aD w a L)(hF:cG w g L.length F)(hv:aH L x)(hn:2*aB L (x:Int)≤n+1)(ho:ae (aa L x) [40]=true)(h_fn:ae (aa L ((x:Int)+1)) [102,110]=false)(h_do:ae (aa L ((x:Int)+1)) [100,111]=false)(h_let:ae (aa L ((x:Int)+1)) [108,101,116]=false)(h_hget:ae (aa L ((x:Int)+1)) [104,103,101,116]=false)(h_hput:ae (aa L ((x:Int)+1)) [104,112,117,116]=false)(h_set:ae (aa L ((x:Int)+1)) [115,101,116]=false)(h_take:ae (aa L ((x:Int)+1)) [116,97,107,101]=false)(h_hidden:ae (aa L ((x:Int)+1)) [104,105,100,100,101,110]=false)(h_vars:ae (aa L ((x:Int)+1)) [118,97,114,115]=false)(h_for:ae (aa L ((x:Int)+1)) [102,111,114]=false) :
  ah 92 #[.slice a L.length cap,.slice (some ⟨g,0,none⟩) L.length fc,.int .i64 x,.string s,.bool fn] w (aA (.bool (us L F n 1 ((x:Int)+2) s fn)) w):=by
 have hve:=hv.ends;obtain⟨k,e,q1,q2,q3⟩:=hv.items ho h_fn h_do h_let h_set h_take h_hget h_hput h_hidden h_vars h_for;have qe:=dH q2;have qc:=eX k _ q1 qe.1;have hfar:=dC (L:=L) (i:=(x:Int)) (j:=(x:Int)+2) hve.1 (by omega) (by omega);obtain⟨sb,off,rfl,s0,hsb⟩:=h.J (i:=x) (by omega);have b40:=aM ho;obtain⟨sb1,off1,ha1,s1,_⟩:=h.J (i:=x+1) (by omega);injection ha1 with ha1;injection ha1 with e1 f1 _;subst e1;subst f1;rw[show((x+1:Nat):Int)=(x:Int)+1 by omega]at s1;have hxu:x+1<L.length:=by omega
 have b_fn:=aM h_fn;have b_do:=aM h_do;have b_let:=aM h_let;have b_hget:=aM h_hget;have b_hput:=aM h_hput;have b_set:=aM h_set;have b_take:=aM h_take;have b_hidden:=aM h_hidden;have b_vars:=aM h_vars;have b_for:=aM h_for;have HC:Hid (∀W:World,aD W (some ⟨sb,off,none⟩) L→cG W g L.length F→ah 51 #[.slice (some ⟨sb,off,none⟩) L.length cap,.slice (some ⟨g,0,none⟩) L.length fc,.int .i64 ((x:Int)+2),.string s,.bool fn] W (aA (.bool (us L F n 1 ((x:Int)+2) s fn)) W)):=fun W hW hG=>hA _ e k s fn W hW hG q1 qe.1 (by omega) (bP q2) (by omega)
 generalize us L F n 1 ((x:Int)+2) s fn=o1 at HC ⊢;clear hU hA h_fn h_do h_let h_hget h_hput h_set h_take h_hidden h_vars h_for;generalize aa L ((x:Int))=y0 at s0 b40;generalize aa L ((x:Int)+1)=y1 at s1 b_fn b_do b_let b_hget b_hput b_set b_take b_hidden b_vars b_for;go_enter func92,ntmps92;go_wp2_with fail;refine(HC.out _ h hF).mono ?_;rintro r w8 ⟨rfl,hb8⟩;go_wp2;go_ret;exact⟨rfl,hb8⟩
theorem NA(hU:jP a cap L g fc F n)(hA:j8 a cap L g fc F n)(hL:L.length≤2000)(x:Nat)(s:ByteArray)(fn:Bool)(w:World)(h:aD w a L)(hF:cG w g L.length F)(hv:aH L x)(hn:2*aB L (x:Int)≤n+1)(ho:ae (aa L x) [40]=true)(hw:ae (aa L ((x:Int)+1)) [102,110]=true) :
  ah 92 #[.slice a L.length cap,.slice (some ⟨g,0,none⟩) L.length fc,.int .i64 x,.string s,.bool fn] w (aA (.bool (if bc ((aT L ((x:Int)+3)).map (be L)) s then false else if(aT L ((x:Int)+3)).any (fun p=>ae (aa L p) [40]&&us L F n 0 (p+2) s true)then true else if bc (dI L (jR L (x:Int))) s then false else us L F n 1 (jR L (x:Int)) s true)) w):=by
 have hve:=hv.ends;obtain⟨hb,kk,e7,m7,e,c1,c2,c3,c4,c5,c6,c7,c8,c9,c10⟩:=hv.fn ho hw;have ce:=gJ kk _ c1 c2;have cd:=gU m7 _ c6 c7;have q1:=(eK m7 _ c6).1;have hdc:=sh c6 c7 (by omega) (bP c9);have hdl:=qm c6 c7 (by omega) (bP c9);rw[rp c1 c2 c3 c4,c5];have hfar:=dC (L:=L) (i:=(x:Int)) (j:=e7+1) hve.1 (by omega) (by omega);obtain⟨sb,off,rfl,s0,hsb⟩:=h.J (i:=x) (by omega);have b40:=aM ho;obtain⟨sb1,off1,ha1,s1,_⟩:=h.J (i:=x+1) (by omega);injection ha1 with ha1;injection ha1 with e1 f1 _;subst e1;subst f1;rw[show((x+1:Nat):Int)=(x:Int)+1 by omega]at s1;have hxu:x+1<L.length:=by omega
 have b_fn:=aM hw;have HP:Hid (ah 150 #[.slice (some ⟨sb,off,none⟩) L.length cap,.int .i64 x] w fun e w'=>∃v,e=.returned (.tuple #[v,.int .i64 (e7+1)])∧a8 w' w.heap.size v ((ar L kk ((x:Int)+3)).map (be L))∧ai w w'):=A8 _ cap L (x:Int) e7 kk w h (by omega) (by omega) c1 c2 c3 c4;have HC:Hid (∀W:World,aD W (some ⟨sb,off,none⟩) L→cG W g L.length F→ah 51 #[.slice (some ⟨sb,off,none⟩) L.length cap,.slice (some ⟨g,0,none⟩) L.length fc,.int .i64 (e7+1),.string s,.bool true] W (aA (.bool (us L F n 1 (e7+1) s true)) W)):=fun W hW hG=>hA _ e m7 s true W hW hG q1 c7 (by omega) (bP c9) (by omega)
 have HD:Hid (∀W:World,aD W (some ⟨sb,off,none⟩) L→ah 50 #[.slice (some ⟨sb,off,none⟩) L.length cap,.int .i64 (e7+1),.bool false] W (kf (dI L (e7+1)) W)):=fun W hW=>by
  have:=sU _ cap L m7 _ e W hW (by omega) (by omega) (by omega) c7 (bP c9) c6;rw[hdc]at this;exact this
 have hYl:(dI L (e7+1)).length≤5000000:=by omega
 have hXl:((ar L kk ((x:Int)+3)).map (be L)).length≤5000000:=by
  have:∀k i,(ar L k i).length=k:=fun k=>by
   induction k with
   |zero=>intro i;rfl
   |succ k ih=>intro i;show(ar L k (ag L i)).length+1=k+1;rw[ih]
  rw[List.length_map,this];omega
 clear hA hdc hdl q1;generalize us L F n 1 (e7+1) s true=o4 at HC ⊢;generalize dI L (e7+1)=Y at HD hYl ⊢;generalize (ar L kk ((x:Int)+3)).map (be L)=X at HP hXl ⊢;obtain⟨f,hf⟩:∃f:Int→Bool,∀p,us L F n 0 p s true=f p:=⟨_,fun _=>rfl⟩;obtain⟨ff,hff⟩:∃ff:Int→Bool,ff=fun p=>ae (aa L p) [40]&&us L F n 0 (p+2) s true:=⟨_,rfl⟩
 rw[←hff];have HFF:Hid (∀p,ff p=(ae (aa L p) [40]&&f (p+2))):=fun p=>by rw[hff];show(ae (aa L p) [40]&&us L F n 0 (p+2) s true)=_;rw[hf]
 have HU:Hid (∀(p:Int) (W:World),aD W (some ⟨sb,off,none⟩) L→cG W g L.length F→aH L p→2*aB L p≤n→ah 92 #[.slice (some ⟨sb,off,none⟩) L.length cap,.slice (some ⟨g,0,none⟩) L.length fc,.int .i64 p,.string s,.bool true] W (aA (.bool (f p)) W)):=fun p W hW hG hI hn=>by rw[←hf];exact hU p s true W hW hG hI hn
 clear hU hf hff;obtain⟨T,hT⟩:∃T,(ar L kk ((x:Int)+3)).any ff=T:=⟨_,rfl⟩;have HT2:=aj hT;rw[hT];clear hT;generalize hR:(if bc X s then false else if T then true else if bc Y s then false else o4)=R;have HR:=aj hR;clear hR;generalize aa L ((x:Int))=y0 at s0 b40;generalize aa L ((x:Int)+1)=y1 at s1 b_fn;go_enter func92,ntmps92;go_wp2_with fail;refine HP.out.mono ?_;rintro r w1 ⟨v,rfl,hN,hb1⟩;have h1:=h.call hb1;have hF1:=hF.call hb1;clear HP;go_wp2_with fail;refine(vL _ v X s _ hN hXl).mono ?_;rintro r w2 ⟨y,rfl,hy,rfl⟩;cases hq:bc X s
 ·have hy0:¬0≤y:=fun hh=>by
   have:=hy.mp hh;rw[hq]at this;cases this
  have HR1:=aj (by rw[←HR.out,hq];rfl:(if T then true else if bc Y s then false else o4)=R)
  clear hy hq hN hXl HR
  go_wp2
  go_loopw [14] (fun v14 wr=>∃(z m:Nat),v14=.int .i64 (z:Int)∧(x:Int)+3≤(z:Int)∧iy L m (z:Int) e7∧ai w wr∧Hid ((ar L m (z:Int)).any ff=T)) (fun v14 _=>e7.toNat-(intOf v14).toNat)
  case atStart =>
   have hc3:((x+3:Nat):Int)=(x:Int)+3:=by omega
   exact⟨x+3,kk,by go_num,by omega,by rw[hc3];exact c1,hb1,by rw[hc3];exact HT2.out⟩
  case round =>
   obtain⟨z,m,rfl,hxz,hm,hB,HZ⟩:=hrel;have hze:=gJ m _ hm c2;have hAr:=h.call hB;have hFr:=hF.call hB;obtain⟨sb',off',ha',sz,_⟩:=hAr.J (i:=z) (by omega);injection ha' with ha';injection ha' with ea fa _;subst ea;subst fa;cases m with
   |zero =>
    have ez:(z:Int)=e7:=hm;have b41:((aa L z).toList==[41])=true:=by rw[ez];exact c4
    have hTf:T=false:=by rw[←HZ.out];rfl
    have HR2:=aj (by rw[←HR1.out,hTf];rfl:(if bc Y s then false else o4)=R);clear hTf HR1;clear HZ ez hm HU HFF HT2;generalize aa L (z:Int)=yz at sz b41;go_wp2_with fail;refine(HD.out _ hAr).mono ?_;rintro r w3 ⟨v3,rfl,hN3,hb3⟩;have hB3:=aw hB hb3;go_wp2_with fail;refine(vL _ v3 Y s _ hN3 hYl).mono ?_;rintro r w4 ⟨y3,rfl,hy3,rfl⟩;cases hq3:bc Y s
    ·have hy30:¬0≤y3:=fun hh=>by
      have:=hy3.mp hh;rw[hq3]at this;cases this
     have HQ:=aj (by rw[←HR2.out,hq3];rfl:R=o4)
     clear hy3 hq3
     go_wp2_with fail
     refine(HC.out _ (h.call hB3) (hF.call hB3)).mono ?_
     rintro r w8 ⟨rfl,hb8⟩
     go_wp2
     go_ret
     exact⟨by rw[HQ.out];rfl,aw hB3 hb8⟩
    ·have hy30:0≤y3:=hy3.mpr hq3;have HQ:=aj (by rw[←HR2.out,hq3];rfl:R=false);clear hy3 hq3;go_wp2;go_ret;exact⟨by rw[HQ.out];rfl,hB3⟩
   |succ m =>
    obtain⟨hp,hm2⟩:=hm;obtain⟨p0,p1,hpp⟩:=jY hp;have hpe:=lx hp;have hq:=gJ m _ hm2 c2;have b41:((aa L z).toList==[41])=false:=rh hp;have HZx:Hid ((ff (z:Int)||(ar L m (ag L z)).any ff)=T):=HZ.out;have HFz:=HFF.out (z:Int);clear HZ;obtain⟨z2,hz2⟩:∃z2:Nat,ag L (z:Int)=(z2:Int):=⟨(ag L z).toNat,by omega⟩;have HZ2:=aj hz2;rw[hz2]at HZx hm2 hpe hq hpp;clear hz2;rcases hpp with⟨r1,r2,r3,r4,r5⟩|⟨r1,r2,r3⟩
    ·have b40z:=aM r1;have r4e:=r4.ends;have hfz:=dC (L:=L) (i:=(x:Int)) (j:=(z:Int)+2) hve.1 (by omega) (by omega);have HCz:Hid (∀(W:World),aD W (some ⟨sb,off,none⟩) L→cG W g L.length F→ah 92 #[.slice (some ⟨sb,off,none⟩) L.length cap,.slice (some ⟨g,0,none⟩) L.length fc,.int .i64 ((z:Int)+2),.string s,.bool true] W (aA (.bool (f ((z:Int)+2))) W)):=fun W hW hG=>HU.out _ W hW hG r4 (by omega)
     rw[r1,Bool.true_and]at HFz;rw[HFz]at HZx;clear r5 HFz r1;generalize f ((z:Int)+2)=o at HCz HZx;generalize aa L (z:Int)=yz at sz b41 b40z;go_wp2_with fail;refine(HCz.out _ hAr hFr).mono ?_;rintro r w3 ⟨rfl,hb3⟩;have hB3:=aw hB hb3;clear HCz;cases o
     ·go_wp2_with fail;refine(dk _ cap L (z:Int) _ (h.call hB3) (by omega) ⟨by omega,by omega⟩).mono ?_;rintro r w4 ⟨rfl,hb4⟩;rw[HZ2.out];go_wp2;go_roundw
      case rel=>exact⟨z2,m,rfl,by omega,hm2,aw hB3 hb4,HZx.out⟩
      case measure=>simp[intOf];omega
     ·have hTt:T=true:=HZx.out.symm;have HQ:=aj (by rw[←HR1.out,hTt];rfl:R=true);go_wp2;go_ret;exact⟨by rw[HQ.out];rfl,hB3⟩
    ·have b40z:=aM r1;rw[r1,Bool.false_and]at HFz;rw[HFz]at HZx;clear HFz r1 r3;generalize aa L (z:Int)=yz at sz b41 b40z;go_wp2_with fail;refine(dk _ cap L (z:Int) _ hAr (by omega) ⟨by omega,by omega⟩).mono ?_;rintro r w4 ⟨rfl,hb4⟩;rw[HZ2.out];go_wp2;go_roundw
     case rel=>exact⟨z2,m,rfl,by omega,hm2,aw hB hb4,HZx.out⟩
     case measure=>simp[intOf];omega
 ·have hy0:0≤y:=hy.mpr hq;have HQ:=aj (by rw[←HR.out,hq];rfl:R=false);clear hy hq;go_wp2;go_ret;exact⟨by rw[HQ.out];rfl,hb1⟩
theorem Hg(hU:jP a cap L g fc F n)(hA:j8 a cap L g fc F n)(hL:L.length≤2000):jP a cap L g fc F (n+1):=by
 intro i s fn w h hF hv hn;have hve:=hv.ends;obtain⟨x,rfl⟩:∃x:Nat,i=(x:Int):=⟨i.toNat,by omega⟩;show ah 92 _ w (aA (.bool (dE L F (us L F n) (x:Int) s fn)) w);unfold dE;cases ho:ae (aa L x) [40]
 ·rw[if_pos rfl];exact NG x s fn w h hv ho
 rw[if_neg (by decide)];have hx1:x+1<L.length:=by
  obtain⟨m,e,hc,he0,hel,he,hit⟩:=iz ho (by omega:0≤ag L x);have hk:=bK m _ hc he0;omega
 cases h_fn:ae (aa L ((x:Int)+1)) [102,110];rotate_left
 ·rw[if_pos rfl];exact NA hU hA hL x s fn w h hF hv hn ho h_fn
 rw[if_neg (by decide)];cases h_do:ae (aa L ((x:Int)+1)) [100,111];rotate_left
 ·rw[if_pos rfl];exact Ny hU hA hL x s fn w h hF hv hn ho h_do
 rw[if_neg (by decide)];cases h_let:ae (aa L ((x:Int)+1)) [108,101,116];rotate_left
 ·rw[Bool.true_or,if_pos rfl];exact NH hU hA hL x s fn w h hF hv hn ho h_let
 cases h_hget:ae (aa L ((x:Int)+1)) [104,103,101,116];rotate_left
 ·rw[Bool.true_or,Bool.or_true,if_pos rfl];exact NC hU hA hL x s fn w h hF hv hn ho h_hget
 cases h_hput:ae (aa L ((x:Int)+1)) [104,112,117,116];rotate_left
 ·rw[Bool.or_true,Bool.or_true,if_pos rfl];exact NF hU hA hL x s fn w h hF hv hn ho h_hput
 rw[Bool.or_false,Bool.or_false,if_neg (by decide)];cases h_set:ae (aa L ((x:Int)+1)) [115,101,116];rotate_left
 ·rw[if_pos rfl];exact NJ hU hA hL x s fn w h hF hv hn ho h_set
 rw[if_neg (by decide)];cases h_take:ae (aa L ((x:Int)+1)) [116,97,107,101];rotate_left
 ·rw[if_pos rfl];exact NK hU hA hL x s fn w h hF hv hn ho h_take
 rw[if_neg (by decide)];cases h_hidden:ae (aa L ((x:Int)+1)) [104,105,100,100,101,110];rotate_left
 ·rw[Bool.true_or,if_pos rfl];exact ND hL x s fn w h ho h_hidden hx1
 cases h_vars:ae (aa L ((x:Int)+1)) [118,97,114,115];rotate_left
 ·rw[Bool.or_true,if_pos rfl];exact NL hL x s fn w h ho h_vars hx1
 rw[Bool.or_false,if_neg (by decide)];cases h_for:ae (aa L ((x:Int)+1)) [102,111,114];rotate_left
 ·rw[if_pos rfl];exact NB hU hA hL x s fn w h hF hv hn ho h_for
 rw[if_neg (by decide)];exact Nz hU hA hL x s fn w h hF hv hn ho h_fn h_do h_let h_hget h_hput h_set h_take h_hidden h_vars h_for
end
theorem tT{a:Option Addr}{cap:Nat}{L:af}{g fc:Nat}{F:Nat→Bool}(hL:L.length≤2000):∀n,jP a cap L g fc F n∧j8 a cap L g fc F n
 |0=>⟨fun i s fn w _ _ hv hn=>absurd hn (by have:=gm (L:=L) hv.ends.1 (by have:=hv.ends;omega);omega),fun i e k s fn w _ _ _ _ _ _ hn=>absurd hn (by omega)⟩
 |n+1=>⟨Hg (tT hL n).1 (tT hL n).2 hL,Hd (tT hL n).1 hL⟩
noncomputable def kP(L:af)(F:Nat→Bool)(i:Int):Bool:=(dI L (i+2)).any fun s=>us L F (2*L.length+10) 1 (i+2) s false
theorem a8.txt{w:World}{B g n cp:Nat}{X:af}(h:a8 w B (.slice (some ⟨g,0,none⟩) n cp) X):oJ g 0 X w:=fun i hi=>by
 have:=h.cells i (.string X[i]) (by simp[hi]);by_cases h0:i=0
 ·subst h0;simpa[Addr.add]using this
 ·simpa[Addr.add,h0]using this
theorem Hf(a:Option Addr)(cap:Nat)(L:af)(g fc:Nat)(F:Nat→Bool)(x:Nat)(w:World)(h:aD w a L)(hF:cG w g L.length F)(hL:L.length≤2000)(hv:aH L x)(ho:ae (aa L x) [40]=true)(hw:ae (aa L ((x:Int)+1)) [100,111]=true) :
  ah 28 #[.slice a L.length cap,.slice (some ⟨g,0,none⟩) L.length fc,.int .i64 x] w (aA (.bool (kP L F (x:Int))) w):=by
 have hve:=hv.ends;obtain⟨k,e,q1d,q2,q3⟩:=hv.OK ho hw;have qe:=dH q2;have qc:=gU k _ q1d qe.1;have q1:=(eK k _ q1d).1;have hdc:=sh q1d qe.1 (by omega) (bP q2);have hdl:=qm q1d qe.1 (by omega) (bP q2);have hft:=mC L ((x:Int)+2);have HC:Hid (∀(s:ByteArray) (W:World),aD W a L→cG W g L.length F→ah 51 #[.slice a L.length cap,.slice (some ⟨g,0,none⟩) L.length fc,.int .i64 ((x:Int)+2),.string s,.bool false] W (aA (.bool (us L F (2*L.length+10) 1 ((x:Int)+2) s false)) W)):=fun s W hW hG=>(tT hL _).2 _ e k s false W hW hG q1 qe.1 (by omega) (bP q2) (by omega)
 have HD:Hid (ah 50 #[.slice a L.length cap,.int .i64 ((x:Int)+2),.bool false] w (kf (dI L ((x:Int)+2)) w)):=by
  have:=sU _ cap L k _ e w h (by omega) (by omega) (by omega) qe.1 (bP q2) q1d;rw[hdc]at this;exact this
 have hXl:(dI L ((x:Int)+2)).length≤5000000:=by omega
 unfold kP;obtain⟨f,hf⟩:∃f:ByteArray→Bool,f=fun s=>us L F (2*L.length+10) 1 ((x:Int)+2) s false:=⟨_,rfl⟩
 rw[←hf];have HC2:Hid (∀(s:ByteArray) (W:World),aD W a L→cG W g L.length F→ah 51 #[.slice a L.length cap,.slice (some ⟨g,0,none⟩) L.length fc,.int .i64 ((x:Int)+2),.string s,.bool false] W (aA (.bool (f s)) W)):=by
  rw[hf];exact HC.out
 clear HC hf hdc hdl;generalize dI L ((x:Int)+2)=X at HD hXl ⊢;obtain⟨T,hT⟩:∃T,X.any f=T:=⟨_,rfl⟩;have HT:=aj hT;rw[hT];clear hT;go_enter func28,ntmps28;go_wp2_with fail;refine HD.out.mono ?_;rintro r w1 ⟨v,rfl,hN,hb1⟩;clear HD;obtain⟨gx,cp,rfl⟩:=hN.shape;have hgx:=hN.txt;have hgz:gx<w1.heap.size:=(World.ownsRow.lt hN.1 gx (by simp[Value.ownBlock])).2;go_wp2;go_loopw [8] (fun v8 wr=>∃k:Nat,k≤X.length∧v8=.int .i64 (k:Int)∧ai w1 wr∧Hid ((X.drop k).any f=T)) (fun v8 _=>X.length-(intOf v8).toNat)
 case atStart=>exact⟨0,Nat.zero_le _,rfl,Below.refl _ _,HT.out⟩
 case round =>
  obtain⟨k,hk,rfl,hB,HK⟩:=hrel;have hBB:=aw hb1 hB;by_cases hlt:k<X.length
  ·have hc:=(hB.cell (p:=⟨gx,0+k,none⟩) hgz).trans (hgx k hlt);have HK2:=aj (by rw[←HK.out,List.drop_eq_getElem_cons hlt];rfl:(f X[k]||(X.drop (k+1)).any f)=T);clear HK;generalize X[k]=s at hc HK2;have HCs:Hid (∀(W:World),aD W a L→cG W g L.length F→ah 51 #[.slice a L.length cap,.slice (some ⟨g,0,none⟩) L.length fc,.int .i64 ((x:Int)+2),.string s,.bool false] W (aA (.bool (f s)) W)):=HC2.out s;generalize f s=o at HCs HK2;rw[Nat.zero_add]at hc;go_wp2_with fail;refine(HCs.out _ (h.call hBB) (hF.call hBB)).mono ?_;rintro r w2 ⟨rfl,hb2⟩;have hB2:=aw hB hb2;cases o
   ·go_wp2;go_roundw
    case rel=>exact⟨k+1,by omega,by go_num,hB2,HK2.out⟩
    case measure=>simp[intOf];omega
   ·have hTt:T=true:=HK2.out.symm;go_wp2;go_ret;exact⟨by rw[hTt];rfl,aw hb1 hB2⟩
  ·have hTf:T=false:=by
    rw[←HK.out,List.drop_eq_nil_of_le (by omega)];rfl
   clear HK
   go_wp2
   go_ret
   exact⟨by rw[hTf];rfl,hBB⟩
noncomputable def eZ(L:af):Nat→Nat→Bool
 |0,_=>false
 |k+1,p=>if p+k+2=L.length then(bU L p&&kP L (eZ L k) (p:Int))else eZ L k p
theorem zR(L:af):∀k p,p+k+1<L.length→eZ L k p=false
 |0,_,_=>rfl
 |k+1,p,h=>by
  show(if p+k+2=L.length then _ else eZ L k p)=false;rw[if_neg (by omega)];exact zR L k p (by omega)
noncomputable def fG(L:af):Nat→Bool:=eZ L (L.length-1)
def jr(w:World)(g n:Nat)(F:Nat→Bool):Prop:=cG w g n F∧∀k,k<n→w.frozen? ⟨g,k,none⟩=false
theorem jr.call{w w':World}{g n:Nat}{F:Nat→Bool}(h:jr w g n F)(hb:ai w w'):jr w' g n F :=
 ⟨h.1.call hb,fun k hk=>(hb.frozen (p:=⟨g,k,none⟩) h.1.1).trans (h.2 k hk)⟩
theorem jr.set{w:World}{g n x:Nat}{F G:Nat→Bool}{b:Bool}(h:jr w g n F)(hx:x<n)(hG:∀p,p<n→G p=if p=x then b else F p):jr (w.setCell ⟨g,x,none⟩ (.bool b)) g n G:=by
 refine⟨⟨by simpa[World.setCell]using h.1.1,fun k hk=>?_⟩,fun k hk=>by simpa[go_sem]using h.2 k hk⟩;rw[hG k hk];by_cases e:k=x
 ·subst e;rw[if_pos rfl];exact World.cell?_setCell_same w _ _ (h.1.2 k hk)
 ·rw[if_neg e];exact(World.cell?_setCell_other w ⟨g,x,none⟩ ⟨g,k,none⟩ _ (fun hh=>e (by injection hh with _ h2 _;exact h2.symm))).trans (h.1.2 k hk)
theorem jr.same{w:World}{g n:Nat}{F G:Nat→Bool}(h:jr w g n F)(hG:∀p,p<n→G p=F p):jr w g n G :=
 ⟨⟨h.1.1,fun k hk=>by rw[hG k hk];exact h.1.2 k hk⟩,h.2⟩
theorem Fs(w:World)(n:Nat):jr (w.alloc (.cells (madeCells #[Value.bool false] n) 4)) w.heap.size n (fun _=>false):=by
 refine⟨⟨by simp,fun i hi=>?_⟩,fun i hi=>by simp[go_sem]⟩;have e:(madeCells #[Value.bool false] n)[i]?=some (.bool false):=by
  rw[←Array.getElem?_toList,toList_madeCells_one];simp[hi]
 have hh:=heap_alloc_new w (.cells (madeCells #[Value.bool false] n) 4);simp only[World.cell?];rw[hh];exact e
theorem Gm:(Tryz.prog.info? 4).map (fun i=>(i.zero,i.size,i.bytes))=some (some (.bool false),1,1):=by kernel_rfl
theorem A2(a:Option Addr)(cap:Nat)(L:af)(w:World)(h:aD w a L)(hp:aR L=true) :
  ah 13 #[.slice a L.length cap] w fun e w'=>e=.returned (.slice (some ⟨w.heap.size,0,none⟩) L.length L.length)∧cG w' w.heap.size L.length (fG L)∧ai w w':=by
 have hL:=gy hp;have hmk:=run_make_row' (P:=prog) 29 4 (.bool false) 1 Tryz.underlying29 Gm rfl .i64 .i64 L.length (by omega) (by omega);go_enter func13,ntmps13;go_wp2;go_loopw [4] (fun v4 wr=>∃k:Nat,v4=.int .i64 ((L.length:Int)-2-(k:Int))∧(k=0∨k+1≤L.length)∧jr wr w.heap.size L.length (eZ L k)∧ai w wr) (fun v4 _=>(intOf v4+2).toNat)
 case atStart=>exact⟨0,by go_num,Or.inl rfl,Fs w L.length,ay (Below.refl _ _) _⟩
 case round =>
  obtain⟨k,rfl,hk,hFl,hB⟩:=hrel;by_cases hge:0≤(L.length:Int)-2-(k:Int)
  ·obtain⟨x,hx⟩:∃x:Nat,(L.length:Int)-2-(k:Int)=(x:Int):=⟨((L.length:Int)-2-(k:Int)).toNat,by omega⟩;rw[hx];have hxk:x+k+2=L.length:=by omega
   have hA:=h.call hB;obtain⟨sb,off,rfl,s0,hsb⟩:=hA.J (i:=x) (by omega);obtain⟨sb1,off1,ha1,s1,_⟩:=hA.J (i:=x+1) (by omega);injection ha1 with ha1;injection ha1 with e1 f1 _;subst e1;subst f1;rw[show((x+1:Nat):Int)=(x:Int)+1 by omega]at s1;have hN:((x:Int)-1)=(L.length:Int)-2-((k+1:Nat):Int):=by omega
   have HNO:Hid (bU L (x:Int)=false→jr wr w.heap.size L.length (eZ L (k+1))):=fun hd=>hFl.same fun p _=>by
    show(if p+k+2=L.length then(bU L p&&kP L (eZ L k) (p:Int))else eZ L k p)=eZ L k p;split
    ·have:p=x:=by omega
     subst this;rw[hd,zR L k p (by omega)];rfl
    ·rfl
   cases ho:ae (aa L x) [40]
   ·have b40:=aM ho;have hS:=HNO.out (by unfold bU;rw[ho];rfl);clear HNO;generalize aa L (x:Int)=y0 at s0 b40;go_wp2;go_roundw
    case rel=>exact⟨k+1,by rw[←hN];go_num,Or.inr (by omega),hS,hB⟩
    case measure=>simp[intOf];omega
   ·have b40:=aM ho;cases hd:ae (aa L ((x:Int)+1)) [100,111]
    ·have bdo:=aM hd;have hS:=HNO.out (by unfold bU;rw[hd,Bool.and_false]);clear HNO;generalize aa L (x:Int)=y0 at s0 b40;generalize aa L ((x:Int)+1)=y1 at s1 bdo;go_wp2;go_roundw
     case rel=>exact⟨k+1,by rw[←hN];go_num,Or.inr (by omega),hS,hB⟩
     case measure=>simp[intOf];omega
    ·have bdo:=aM hd;have hv:aH L (x:Int):=Or.inr (mg hp (mA hd (by decide)));have HC:Hid (ah 28 #[.slice (some ⟨sb,off,none⟩) L.length cap,.slice (some ⟨w.heap.size,0,none⟩) L.length L.length,.int .i64 x] wr (aA (.bool (kP L (eZ L k) (x:Int))) wr)):=Hf _ cap L _ _ (eZ L k) x wr hA hFl.1 hL hv ho hd;have HS:Hid (∀W,jr W w.heap.size L.length (eZ L k)→jr (W.setCell ⟨w.heap.size,x,none⟩ (.bool (kP L (eZ L k) (x:Int)))) w.heap.size L.length (eZ L (k+1))):=fun W hW=>hW.set (by omega) fun p _=>by
      show(if p+k+2=L.length then(bU L p&&kP L (eZ L k) (p:Int))else eZ L k p)=_;by_cases hpx:p=x
      ·subst hpx;rw[if_pos (by omega),if_pos rfl];unfold bU;rw[ho,hd];rfl
      ·rw[if_neg (by omega),if_neg hpx]
     clear HNO;generalize kP L (eZ L k) (x:Int)=o at HC HS;generalize aa L (x:Int)=y0 at s0 b40;generalize aa L ((x:Int)+1)=y1 at s1 bdo;go_wp2_with fail;refine HC.out.mono ?_;rintro r w2 ⟨rfl,hb2⟩;have hF2:=hFl.call hb2;have c2:=hF2.1.2 x (by omega);have z2:=hF2.2 x (by omega);have hB2:=aw hB hb2;have hS:=HS.out w2 hF2;go_wp2;go_roundw
     case rel=>exact⟨k+1,by rw[←hN];go_num,Or.inr (by omega),hS,bf hB2 _ (Nat.le_refl _)⟩
     case measure=>simp[intOf];omega
  ·have HK:Hid (eZ L k=fG L):=(by
    unfold fG;congr 1;omega:eZ L k=fG L)
   go_wp2
   go_ret
   exact⟨rfl,by rw[←HK.out];exact hFl.1,hB⟩
theorem vK(a:Option Addr)(cap:Nat)(L:af)(i k:Nat)(loop:Bool)(w:World)(h:aD w a L)(hL:L.length≤1048576)(hi:i+1<L.length)(hk:k<L.length) :
  ah 49 #[.slice a L.length cap,.int .i64 i,.int .i64 k,.bool loop] w (aA (.bool (dK L (i:Int) (k:Int) loop)) w):=by
 obtain⟨sb,off,rfl,s1,hsb⟩:=h.J (i:=i+1) (by omega);rw[show((i+1:Nat):Int)=(i:Int)+1 by omega]at s1;have z1:=ph L (i:Int);have z2:=ph L (k:Int);unfold Ends at z1 z2;have HI1:Hid (∀W:World,aD W (some ⟨sb,off,none⟩) L→ah 16 #[.slice (some ⟨sb,off,none⟩) L.length cap,.int .i64 k] W (aA (.int .i64 (ag L k)) W)):=fun W hW=>dk _ cap L (k:Int) W hW (by omega) ⟨by omega,by omega⟩
 have HI2:Hid (∀W:World,aD W (some ⟨sb,off,none⟩) L→ah 16 #[.slice (some ⟨sb,off,none⟩) L.length cap,.int .i64 i] W (aA (.int .i64 (ag L i)) W)):=fun W hW=>dk _ cap L (i:Int) W hW (by omega) ⟨by omega,by omega⟩
 unfold dK dt dS;generalize ag L (k:Int)=ek at *;generalize ag L (i:Int)=ei at *;cases hf:ae (aa L ((i:Int)+1)) [102,110]
 ·have b_fn:=aM hf;cases hw:ae (aa L ((i:Int)+1)) [119,104,105,108,101]
  ·have b_wh:=aM hw;cases hr:ae (aa L ((i:Int)+1)) [102,111,114]
   ·have b_fo:=aM hr;clear hf hw hr;generalize aa L ((i:Int)+1)=y1 at s1 b_fn b_wh b_fo;go_enter func49,ntmps49;go_wp2;go_ret;exact⟨rfl,Below.refl _ _⟩
   ·have b_fo:=aM hr;clear hf hw hr;generalize aa L ((i:Int)+1)=y1 at s1 b_fn b_wh b_fo;go_enter func49,ntmps49;go_wp2_with fail;refine(HI1.out _ h).mono ?_;rintro r w1 ⟨rfl,hb1⟩;go_wp2_with fail;refine(HI2.out _ (h.call hb1)).mono ?_;rintro r w2 ⟨rfl,hb2⟩;go_wp2;go_ret;exact⟨rfl,aw hb1 hb2⟩
  ·have b_wh:=aM hw;clear hf hw;generalize aa L ((i:Int)+1)=y1 at s1 b_fn b_wh;go_enter func49,ntmps49;go_wp2_with fail;refine(HI1.out _ h).mono ?_;rintro r w1 ⟨rfl,hb1⟩;go_wp2_with fail;refine(HI2.out _ (h.call hb1)).mono ?_;rintro r w2 ⟨rfl,hb2⟩;go_wp2;go_ret;exact⟨rfl,aw hb1 hb2⟩
 ·have b_fn:=aM hf;clear hf;generalize aa L ((i:Int)+1)=y1 at s1 b_fn;go_enter func49,ntmps49;go_wp2;go_ret;exact⟨rfl,Below.refl _ _⟩
def g1(_:Int):Int:=1
def gF(F:Nat→Bool)(p:Int):Int:=if F p.toNat then 1 else 0
theorem Ab(p:Int):0≤g1 p∧g1 p≤1:=by unfold g1;omega
theorem qE(F:Nat→Bool)(p:Int):0≤gF F p∧gF F p≤1:=by unfold gF;split<;>omega
def rN(a:Option Addr)(cap:Nat)(L:af)(g fc:Nat)(F:Nat→Bool)(n:Nat):Prop:=∀(i:Int) (loop:Bool) (W:World),aD W a L→cG W g L.length F→0≤ag L i→aB L i≤n →
 ah 27 #[.slice a L.length cap,.slice (some ⟨g,0,none⟩) L.length fc,.int .i64 i,.bool loop] W (aA (.tuple #[.int .i64 (eY L g1 n i loop),.int .i64 (eY L (gF F) n i loop)]) W)
theorem EW{a:Option Addr}{cap:Nat}{L:af}{g fc:Nat}{F:Nat→Bool}{n:Nat}(hD:rN a cap L g fc F n)(hL:L.length≤2000)(x:Nat)(w:World)(lp:Bool)(h:aD w a L)(hF:cG w g L.length F)(h0:0≤ag L x)(hn:aB L (x:Int)≤n+1)(ho:ae (aa L x) [40]=true) :
  ah 27 #[.slice a L.length cap,.slice (some ⟨g,0,none⟩) L.length fc,.int .i64 x,.bool lp] w (aA (.tuple #[.int .i64 (eY L g1 (n+1) (x:Int) lp),.int .i64 (eY L (gF F) (n+1) (x:Int) lp)]) w):=by
 obtain⟨mm,e,hc,he0,hel,he,hit⟩:=iz ho h0;have hce:=bK mm _ hc he0;have hplc:=ly hc he0 (by omega) (bP he);obtain⟨f1,hf1⟩:∃f1:Int→Int,f1=fun k=>eY L g1 n k (dK L (x:Int) k lp):=⟨_,rfl⟩
 obtain⟨f2,hf2⟩:∃f2:Int→Int,f2=fun k=>eY L (gF F) n k (dK L (x:Int) k lp):=⟨_,rfl⟩
 obtain⟨T1,hT1⟩:∃T,eY L g1 (n+1) (x:Int) lp=T:=⟨_,rfl⟩;obtain⟨T2,hT2⟩:∃T,eY L (gF F) (n+1) (x:Int) lp=T:=⟨_,rfl⟩;have HT:∀gg:Int→Int,eY L gg (n+1) (x:Int) lp=(if(lp&&ae (aa L ((x:Int)+1)) [100,111])=true then gg (x:Int)else 0)+eI ((ar L mm ((x:Int)+1)).map fun k=>eY L gg n k (dK L (x:Int) k lp)):=fun gg=>by
  show(if ae (aa L x) [40]=false then 0 else _)=_;rw[ho,if_neg (by decide),hplc]
 have HT1:=aj (by rw[←hT1,hf1,HT];rfl:(if(lp&&ae (aa L ((x:Int)+1)) [100,111])=true then 1 else 0)+eI ((ar L mm ((x:Int)+1)).map f1)=T1);have HT2:=aj (by rw[←hT2,hf2,HT];rfl:(if(lp&&ae (aa L ((x:Int)+1)) [100,111])=true then(if F x then 1 else 0)else 0)+eI ((ar L mm ((x:Int)+1)).map f2)=T2);have HLE:Hid (∀k,0≤ag L k→0≤f1 k∧f1 k≤ag L k-k∧0≤f2 k∧f2 k≤ag L k-k):=fun k hk=>by
  rw[hf1,hf2];have e1:=qn Ab n k (dK L (x:Int) k lp) hk;have e2:=qn (qE F) n k (dK L (x:Int) k lp) hk;exact⟨e1.1,e1.2,e2.1,e2.2⟩
 obtain⟨ibF,hib⟩:∃G:Int→Bool,G=fun k=>dK L (x:Int) k lp:=⟨_,rfl⟩
 have HC:Hid (∀(k:Int) (W:World),aD W a L→cG W g L.length F→0≤ag L k→aB L k≤n→ah 27 #[.slice a L.length cap,.slice (some ⟨g,0,none⟩) L.length fc,.int .i64 k,.bool (ibF k)] W (aA (.tuple #[.int .i64 (f1 k),.int .i64 (f2 k)]) W)):=fun k W hW hG hk hkn=>by
  rw[hf1,hf2,hib];exact hD k _ W hW hG hk hkn
 have HI:Hid (∀(z:Nat) (W:World),aD W a L→z<L.length→ah 49 #[.slice a L.length cap,.int .i64 x,.int .i64 z,.bool lp] W (aA (.bool (ibF (z:Int))) W)):=fun z W hW hz=>by
  rw[hib];exact vK _ cap L x z lp W hW (by omega) (by omega) hz
 rw[hT1,hT2];obtain⟨sb,off,rfl,s0,hsb⟩:=h.J (i:=x) (by omega);have b40:=aM ho;obtain⟨sb1,off1,ha1,s1,_⟩:=h.J (i:=x+1) (by omega);injection ha1 with ha1;injection ha1 with e1 f1' _;subst e1;subst f1';rw[show((x+1:Nat):Int)=(x:Int)+1 by omega]at s1;have c1:=hF.2 x (by omega);have hcs:∃(d:Bool) (A0 B0:Int) (f:Bool),ae (aa L ((x:Int)+1)) [100,111]=d∧F x=f∧(if(lp&&d)=true then 1 else 0)=A0∧(if(lp&&d)=true then(if f then 1 else 0)else 0)=B0∧((lp=false∧A0=0∧B0=0)∨(lp=true∧d=false∧A0=0∧B0=0)∨(lp=true∧d=true∧f=false∧A0=1∧B0=0)∨(lp=true∧d=true∧f=true∧A0=1∧B0=(1:Int))):=⟨_,_,_,_,rfl,rfl,rfl,rfl,by cases lp<;>cases ae (aa L ((x:Int)+1)) [100,111]<;>cases F x<;>simp⟩;obtain⟨d,A0,B0,f,hd,hf,hA0,hB0,hcs⟩:=hcs;rw[hd,hA0]at HT1;rw[hd,hf,hB0]at HT2;rw[hf]at c1;have b_do:((aa L ((x:Int)+1)).toList==[100,111])=d:=hd;clear hD hT1 hT2 hf1 hf2 hib hplc hd HT hA0 hB0 hf;generalize aa L (x:Int)=y0 at s0 b40;generalize aa L ((x:Int)+1)=y1 at s1 b_do;rcases hcs with⟨rfl,rfl,rfl⟩|⟨rfl,rfl,rfl,rfl⟩|⟨rfl,rfl,rfl,rfl,rfl⟩|⟨rfl,rfl,rfl,rfl,rfl⟩
 all_goals
  go_enter func27,ntmps27
  go_wp2
  go_loopw [10,11,12,13,14] (fun v10 v11 v12 _ _ wr=>∃(z m:Nat) (A B:Int),v10=.int .i64 A∧v11=.int .i64 B∧v12=.int .i64 (z:Int)∧(x:Int)+1≤(z:Int)∧bd L m (z:Int) e∧0≤A∧A≤(z:Int)-x∧0≤B∧B≤(z:Int)-x∧ai w wr∧Hid (A+eI ((ar L m (z:Int)).map f1)=T1)∧Hid (B+eI ((ar L m (z:Int)).map f2)=T2)) (fun _ _ v12 _ _ _=>e.toNat-(intOf v12).toNat)
  case atStart =>
   have hc1:((x+1:Nat):Int)=(x:Int)+1:=by omega
   exact⟨x+1,mm,_,_,rfl,rfl,by go_num,by omega,by rw[hc1];exact hc,by omega,by omega,by omega,by omega,Below.refl _ _,by rw[hc1];exact HT1.out,by rw[hc1];exact HT2.out⟩
  case round =>
   obtain⟨z,m,A,B,rfl,rfl,rfl,hxz,hm,hA0,hA1,hB0,hB1,hB,HS1,HS2⟩:=hrel;have hze:=bK m _ hm he0;have hAr:=h.call hB;obtain⟨sbz,offz,haz,sz,_⟩:=hAr.J (i:=z) (by omega);injection haz with haz;injection haz with ez fz _;subst ez;subst fz;cases m with
   |zero =>
    have eqz:(z:Int)=e:=hm;have b41:((aa L z).toList==[41])=true:=by rw[eqz];exact he
    have HE1:=aj (by rw[←HS1.out];show A=A+0;omega:A=T1);have HE2:=aj (by rw[←HS2.out];show B=B+0;omega:B=T2);clear HS1 HS2 eqz hm;generalize aa L (z:Int)=yz at sz b41;go_wp2;go_ret2;exact⟨by rw[←HE1.out,←HE2.out];rfl,hB⟩
   |succ m =>
    obtain⟨hz0,hm2⟩:=hm;have hzu:=cZ hz0;have hq:=bK m _ hm2 he0;have b41:((aa L z).toList==[41])=false:=l7 hz0;have HS1x:Hid (A+(f1 (z:Int)+eI ((ar L m (ag L z)).map f1))=T1):=HS1.out;have HS2x:Hid (B+(f2 (z:Int)+eI ((ar L m (ag L z)).map f2))=T2):=HS2.out;obtain⟨hl1,hl2,hl3,hl4⟩:=HLE.out (z:Int) hz0;have hfz:=dC (L:=L) (i:=(x:Int)) (j:=(z:Int)) (by omega) (by omega) (by omega);have HCz:Hid (∀W:World,aD W (some ⟨sb,off,none⟩) L→cG W g L.length F→ah 27 #[.slice (some ⟨sb,off,none⟩) L.length cap,.slice (some ⟨g,0,none⟩) L.length fc,.int .i64 z,.bool (ibF (z:Int))] W (aA (.tuple #[.int .i64 (f1 (z:Int)),.int .i64 (f2 (z:Int))]) W)):=fun W hW hG=>HC.out (z:Int) W hW hG hz0 (by omega)
    have HIz:Hid (∀W:World,aD W (some ⟨sb,off,none⟩) L→ah 49 #[.slice (some ⟨sb,off,none⟩) L.length cap,.int .i64 x,.int .i64 z,.bool _] W (aA (.bool (ibF (z:Int))) W)):=fun W hW=>HI.out z W hW (by omega)
    clear HS1 HS2;obtain⟨z2,hz2⟩:∃z2:Nat,ag L (z:Int)=(z2:Int):=⟨(ag L z).toNat,by omega⟩;have HZ2:=aj hz2;rw[hz2]at HS1x HS2x hm2 hzu hq hl2 hl4;clear hz2;generalize f1 (z:Int)=d1 at HCz HS1x hl1 hl2;generalize f2 (z:Int)=d2 at HCz HS2x hl3 hl4;generalize ibF (z:Int)=ib at HCz HIz;generalize aa L (z:Int)=yz at sz b41;go_wp2_with fail;refine(HIz.out _ hAr).mono ?_;rintro r w2 ⟨rfl,hb2⟩;have hB2:=aw hB hb2;go_wp2_with fail;refine(HCz.out _ (h.call hB2) (hF.call hB2)).mono ?_;rintro r w3 ⟨rfl,hb3⟩;have hB3:=aw hB2 hb3;go_wp2_with fail;refine(dk _ cap L (z:Int) _ (h.call hB3) (by omega) ⟨by omega,by omega⟩).mono ?_;rintro r w4 ⟨rfl,hb4⟩;rw[HZ2.out];go_wp2;go_roundw
    case rel=>exact⟨z2,m,A+d1,B+d2,by go_num,by go_num,rfl,by omega,hm2,by omega,by omega,by omega,by omega,aw hB3 hb4,by rw[←HS1x.out];show _=_;omega,by rw[←HS2x.out];show _=_;omega⟩
    case measure=>simp[intOf];omega
theorem He{a:Option Addr}{cap:Nat}{L:af}{g fc:Nat}{F:Nat→Bool}{n:Nat}(hD:rN a cap L g fc F n)(hL:L.length≤2000):rN a cap L g fc F (n+1):=by
 intro i loop w h hF h0 hn;have hu:=cZ h0;obtain⟨x,rfl⟩:∃x:Nat,i=(x:Int):=⟨i.toNat,by omega⟩;cases ho:ae (aa L x) [40]
 ·have HE:Hid (∀g,eY L g (n+1) (x:Int) loop=0):=fun g=>by
   show(if ae (aa L x) [40]=false then 0 else _)=0;rw[ho];rfl
  rw[HE.out,HE.out]
  obtain⟨sb,off,rfl,s0,hsb⟩:=h.J (i:=x) (by omega)
  have b40:=aM ho
  clear HE hD
  generalize aa L (x:Int)=y0 at s0 b40
  go_enter func27,ntmps27
  go_wp2
  go_ret2
  exact⟨rfl,Below.refl _ _⟩
 ·exact EW hD hL x w loop h hF h0 hn ho
theorem zA{a:Option Addr}{cap:Nat}{L:af}{g fc:Nat}{F:Nat→Bool}(hL:L.length≤2000):∀n,rN a cap L g fc F n
 |0=>fun i loop w _ _ h0 hn=>absurd hn (by have hu:=cZ h0;have:=gm (L:=L) hu.1 (by omega);omega)
 |n+1=>He (zA hL n) hL
noncomputable def pt(L:af):Int:=fp (gG L g1) L.length 0
noncomputable def kQ(L:af):Int:=fp (gG L (gF (fG L))) L.length 0
theorem Hc(a:Option Addr)(cap:Nat)(L:af)(w:World)(h:aD w a L)(hp:aR L=true) :
  ah 12 #[.slice a L.length cap] w (aA (.tuple #[.int .i64 (pt L),.int .i64 (kQ L)]) w):=by
 have hL:=gy hp;obtain⟨mm,hkd⟩:=mX hp;have hc:=iv mm 0 (eK mm 0 hkd).1;have hR:=Cr hp;obtain⟨f1,hf1⟩:∃f1:Int→Int,f1=fun k=>eY L g1 (L.length+2) k false:=⟨_,rfl⟩
 obtain⟨f2,hf2⟩:∃f2:Int→Int,f2=fun k=>eY L (gF (fG L)) (L.length+2) k false:=⟨_,rfl⟩
 have key:∀g:Int→Int,eI ((ar L mm 0).map fun k=>eY L g (L.length+2) k false)=fp (gG L g) L.length 0:=fun g=>by
  have hr:=wT (gG L g) mm 0 hc (by omega);rw[show((L.length:Int)-0).toNat=L.length by omega]at hr;rw[hr];refine xn _ _ _ fun k hk=>?_
  obtain⟨d1,d2,d3,d4⟩:=fQ mm _ hc (by omega) k hk;exact zB hR g _ k false (by omega) d3 (Or.inl (IB hc (by omega) hk).symm)
 have HT1:=aj (by rw[hf1,key];unfold pt;omega:0+eI ((ar L mm 0).map f1)=pt L);have HT2:=aj (by rw[hf2,key];unfold kQ;omega:0+eI ((ar L mm 0).map f2)=kQ L);have HC:Hid (∀(g k:Int) (gg:Nat) (W:World),aD W a L→cG W gg L.length (fG L)→0≤ag L k→ah 27 #[.slice a L.length cap,.slice (some ⟨gg,0,none⟩) L.length L.length,.int .i64 k,.bool false] W (aA (.tuple #[.int .i64 (f1 k),.int .i64 (f2 k)]) W)):=fun _ k gg W hW hG hk=>by
  rw[hf1,hf2];exact zA hL _ k false W hW hG hk (mC L k)
 have HLE:Hid (∀k,0≤ag L k→0≤f1 k∧f1 k≤ag L k-k∧0≤f2 k∧f2 k≤ag L k-k):=fun k hk=>by
  rw[hf1,hf2];have e1:=qn Ab (L.length+2) k false hk;have e2:=qn (qE (fG L)) (L.length+2) k false hk;exact⟨e1.1,e1.2,e2.1,e2.2⟩
 clear hf1 hf2 key hR hkd;generalize pt L=T1 at HT1 ⊢;generalize kQ L=T2 at HT2 ⊢;go_enter func12,ntmps12;go_wp2_with fail;refine(A2 a cap L _ h hp).mono ?_;rintro r w1 ⟨rfl,hF,hb1⟩;go_wp2;go_loopw [5,6,7,8,9] (fun v5 v6 v7 _ _ wr=>∃(z m:Nat) (A B:Int),v5=.int .i64 A∧v6=.int .i64 B∧v7=.int .i64 (z:Int)∧bd L m (z:Int) (L.length:Int)∧0≤A∧A≤(z:Int)∧0≤B∧B≤(z:Int)∧ai w1 wr∧Hid (A+eI ((ar L m (z:Int)).map f1)=T1)∧Hid (B+eI ((ar L m (z:Int)).map f2)=T2)) (fun _ _ v7 _ _ _=>L.length-(intOf v7).toNat)
 case atStart=>exact⟨0,mm,0,0,rfl,rfl,rfl,hc,by omega,by omega,by omega,by omega,Below.refl _ _,HT1.out,HT2.out⟩
 case round =>
  obtain⟨z,m,A,B,rfl,rfl,rfl,hm,hA0,hA1,hB0,hB1,hB,HS1,HS2⟩:=hrel;have hze:=bK m _ hm (by omega);have hBB:=aw hb1 hB;have hAr:=h.call hBB;cases m with
  |zero =>
   have eqz:(z:Int)=(L.length:Int):=hm;have HM:=aj (by rw[decide_eq_false (by omega)];rfl:(decide ((z:Int)<(L.length:Int))&&!ae (aa L z) [41])=false);have HE1:=aj (by rw[←HS1.out];show A=A+0;omega:A=T1);have HE2:=aj (by rw[←HS2.out];show B=B+0;omega:B=T2);clear HS1 HS2 eqz hm;go_wp2_with fail;refine(iA a cap L (z:Int) _ hAr (by omega) (by omega) (by omega)).mono ?_;rintro r w2 ⟨rfl,hb2⟩;rw[HM.out];go_wp2;go_ret2;exact⟨by rw[←HE1.out,←HE2.out];rfl,aw hBB hb2⟩
  |succ m =>
   obtain⟨hz0,hm2⟩:=hm;have hzu:=cZ hz0;have hq:=bK m _ hm2 (by omega);have HM:=aj (by rw[l7 hz0,decide_eq_true (by omega)];rfl:(decide ((z:Int)<(L.length:Int))&&!ae (aa L z) [41])=true);have HS1x:Hid (A+(f1 (z:Int)+eI ((ar L m (ag L z)).map f1))=T1):=HS1.out;have HS2x:Hid (B+(f2 (z:Int)+eI ((ar L m (ag L z)).map f2))=T2):=HS2.out;obtain⟨hl1,hl2,hl3,hl4⟩:=HLE.out (z:Int) hz0;have HCz:Hid (∀W:World,aD W a L→cG W w.heap.size L.length (fG L)→ah 27 #[.slice a L.length cap,.slice (some ⟨w.heap.size,0,none⟩) L.length L.length,.int .i64 z,.bool false] W (aA (.tuple #[.int .i64 (f1 (z:Int)),.int .i64 (f2 (z:Int))]) W)):=fun W hW hG=>HC.out 0 (z:Int) _ W hW hG hz0
   clear HS1 HS2;obtain⟨z2,hz2⟩:∃z2:Nat,ag L (z:Int)=(z2:Int):=⟨(ag L z).toNat,by omega⟩;have HZ2:=aj hz2;rw[hz2]at HS1x HS2x hm2 hzu hq hl2 hl4;clear hz2;generalize f1 (z:Int)=d1 at HCz HS1x hl1 hl2;generalize f2 (z:Int)=d2 at HCz HS2x hl3 hl4;go_wp2_with fail;refine(iA a cap L (z:Int) _ hAr (by omega) (by omega) (by omega)).mono ?_;rintro r w2 ⟨rfl,hb2⟩;rw[HM.out];have hB2:=aw hB hb2;go_wp2_with fail;refine(HCz.out _ (h.call (aw hb1 hB2)) (hF.call hB2)).mono ?_;rintro r w3 ⟨rfl,hb3⟩;have hB3:=aw hB2 hb3;go_wp2_with fail;refine(dk _ cap L (z:Int) _ (h.call (aw hb1 hB3)) (by omega) ⟨by omega,by omega⟩).mono ?_;rintro r w4 ⟨rfl,hb4⟩;rw[HZ2.out];go_wp2;go_roundw
   case rel=>exact⟨z2,m,A+d1,B+d2,by go_num,by go_num,rfl,hm2,by omega,by omega,by omega,by omega,aw hB3 hb4,by rw[←HS1x.out];show _=_;omega,by rw[←HS2x.out];show _=_;omega⟩
   case measure=>simp[intOf];omega
theorem CY{L:af}(h:iO L=true):aR L=true:=by
 unfold iO at h;rw[Bool.and_eq_true]at h;exact h.1
end Go.Proofs.YtdojfommmpnbgaaGreatDoor
