import Derived.Test.YtdojfommmpnbgaaGreatDoorKAT
import Derived.Test.YtdojfommmpnbgaaGreatDoorKAV
namespace Go.Proofs.YtdojfommmpnbgaaGreatDoor
open Go.RowKit
theorem KR{L:af}(h:aR L=true):L.length≤2000:=by
 unfold aR at h;rw[Bool.and_eq_true]at h;exact of_decide_eq_true h.1
theorem rn{L:af}(h:aR L=true):bQ L=true:=by
 unfold aR at h;rw[Bool.and_eq_true,Bool.and_eq_true]at h;exact h.2.1
theorem dW{w:World}{B B':Nat}{e:TypeId}{sz n:Nat}{v:Value}{xs:List Value}(h:w.ownsRow B e sz v n xs)(hb:B'≤B):w.ownsRow B' e sz v n xs:=by
 refine⟨h.1,?_⟩;rcases h.2 with hn|⟨g,cap,cur,hv,hB,rest⟩
 ·exact .inl hn
 ·exact .inr ⟨g,cap,cur,hv,Nat.le_trans hb hB,rest⟩
theorem Fg(L:af):aB L 0=L.length+2:=by
 unfold aB;rw[if_neg (by decide)];omega
theorem dz.one{B g:Nat}{w:World}{a:Option Addr}{X:List Int}(h:dz B w a X)(hg:g<B):di (fun k=>k=g) w a X:=fun i hi=>by
 obtain⟨sb,off,h1,h2,h3,h4⟩:=h i hi;exact⟨sb,off,h1,h2,by omega,h4⟩
end Go.Proofs.YtdojfommmpnbgaaGreatDoor
