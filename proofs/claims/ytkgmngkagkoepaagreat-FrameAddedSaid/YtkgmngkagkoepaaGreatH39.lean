/- A point that is put into a frame where the straight between its neighbours has a whole breadth leaves all breadths and the area as they were, and the girth but for one at most; for every input of the row, in whatever order its goroutines run; the row asks that it be calm. -/
import Derived.Test.YtkgmngkagkoepaaGreatH23
import Derived.Test.YtkgmngkagkoepaaGreatH24
import Derived.Test.YtkgmngkagkoepaaGreatH34
import Derived.Test.YtkgmngkagkoepaaGreatH36
import Derived.Test.YtkgmngkagkoepaaGreatH37
import Derived.Test.YtkgmngkagkoepaaGreatH38
set_option linter.all false
section
set_option maxRecDepth 10000
namespace Go.Am
open Go.Proofs
theorem afN{f:Machine->Outcome->World->Trace->Prop}{b:Frame}{g:List Frame}{F:Nat->Prop}{d:World}{m:Machine}{t:Trace}(S:bW Tryz.prog aA (b::g) F d .idle ⟨ak.enter Tryz.prog 5 #[],[],h0⟩ m t):Go.Ren.aG Tryz.prog f (Back Tryz.prog b g F d (.bool true)) m t:=by
 have K:=Xc
 have KF:=Xd
 have H:=Xb
 have j:=Xa
 replace S:bW Tryz.prog aA (b::g) F d .idle YN m t:=S
 refine(bW.step K KF afF S).bind fun m t S=>?_
 refine(bW.step K KF afG S).bind fun m t S=>?_
 refine(bW.parts K KF abE (by omega) (fun i e=>match i,e with|0,_=>YT|1,_=>YU|2,_=>YV|3,_=>YW|4,_=>YX|n+5,h=>absurd h (by omega)) S).bind fun m t S=>?_
 refine(bW.step K KF afH S).bind fun m t S=>?_
 refine(bW.step K KF afI S).bind fun m t S=>?_
 refine(bW.step K KF afJ S).bind fun m t S=>?_
 refine(bW.step K KF afK S).bind fun m t S=>?_
 refine(bW.step K KF afL S).bind fun m t S=>?_
 refine(bW.parts K KF abG (by omega) (fun i e=>match i,e with|0,_=>YY|1,_=>YZ|2,_=>Y0|3,_=>Y1|4,_=>Y2|n+5,h=>absurd h (by omega)) S).bind fun m t S=>?_
 refine(bW.step K KF abH S).bind fun m t S=>?_
 refine(bW.parts K KF Y3 (by omega) (fun i e=>match i,e with|0,_=>TM|1,_=>TN|2,_=>TP|3,_=>TQ|4,_=>TR|n+5,h=>absurd h (by omega)) S).bind fun m t S=>?_
 refine(bW.step K KF abI S).bind fun m t S=>?_
 refine(bW.parts K KF Y4 (by omega) (fun i e=>match i,e with|0,_=>TS|1,_=>TT|2,_=>TW|3,_=>TY|4,_=>TZ|n+5,h=>absurd h (by omega)) S).bind fun m t S=>?_
 refine(bW.step K KF abJ S).bind fun m t S=>?_
 refine(bW.ae0 j H (n:=16) (by omega) abK TL (bK (r:=15) (n:=16) (ws:=kM.1) (s':=kM.2) Y5 (dh (k:=0) (m:=16) K KF (by omega) Y6) (bK (r:=14) (n:=16) (ws:=kN.1) (s':=kN.2) Y7 (dh (k:=1) (m:=16) K KF (by omega) Y8) (bK (r:=13) (n:=16) (ws:=kP.1) (s':=kP.2) Y9 (dh (k:=2) (m:=16) K KF (by omega) Za) (bK (r:=12) (n:=16) (ws:=kQ.1) (s':=kQ.2) Zb (dh (k:=3) (m:=16) K KF (by omega) Zc) (bK (r:=11) (n:=16) (ws:=kR.1) (s':=kR.2) Zd (dh (k:=4) (m:=16) K KF (by omega) Ze) (bK (r:=10) (n:=16) (ws:=kS.1) (s':=kS.2) Zf (dh (k:=5) (m:=16) K KF (by omega) Zg) (bK (r:=9) (n:=16) (ws:=kT.1) (s':=kT.2) Zh (dh (k:=6) (m:=16) K KF (by omega) Zi) (bK (r:=8) (n:=16) (ws:=kV.1) (s':=kV.2) Zj (dh (k:=7) (m:=16) K KF (by omega) Zk) (bK (r:=7) (n:=16) (ws:=kW.1) (s':=kW.2) Zl (dh (k:=8) (m:=16) K KF (by omega) Zm) (bK (r:=6) (n:=16) (ws:=kX.1) (s':=kX.2) Zo (dh (k:=9) (m:=16) K KF (by omega) Zq) (bK (r:=5) (n:=16) (ws:=ji.1) (s':=ji.2) Ua (dh (k:=10) (m:=16) K KF (by omega) Ub) (bK (r:=4) (n:=16) (ws:=jk.1) (s':=jk.2) Uc (dh (k:=11) (m:=16) K KF (by omega) Ud) (bK (r:=3) (n:=16) (ws:=jl.1) (s':=jl.2) Ue (dh (k:=12) (m:=16) K KF (by omega) Uf) (bK (r:=2) (n:=16) (ws:=jm.1) (s':=jm.2) Ug (dh (k:=13) (m:=16) K KF (by omega) Uh) (bK (r:=1) (n:=16) (ws:=jo.1) (s':=jo.2) Ui (dh (k:=14) (m:=16) K KF (by omega) Uj) (bK (r:=0) (n:=16) (ws:=pg.1) (s':=pg.2) Uk (dh (k:=15) (m:=16) K KF (by omega) Ul) (Ja abL))))))))))))))))) S).bind fun m t S=>?_
 exact bW.last K KF afM S
end Go.Am
end
namespace Go.Proofs.YtkgmngkagkoepaaGreat
theorem frameAdded_holds:Rows.FrameAddedSaid:=over fun a=>fun S=>Go.Am.afN S
#print axioms frameAdded_holds
end Go.Proofs.YtkgmngkagkoepaaGreat
