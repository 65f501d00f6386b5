/- A frame that is broader at each of its points is broader at each height, has no lesser area and no narrower inside, for every input of the row, in whatever order its goroutines run; the row asks that it be calm. -/
import Derived.Test.YtbpcjpbcgeccbaaGreatH23
import Derived.Test.YtbpcjpbcgeccbaaGreatH24
import Derived.Test.YtbpcjpbcgeccbaaGreatH31
import Derived.Test.YtbpcjpbcgeccbaaGreatH33
import Derived.Test.YtbpcjpbcgeccbaaGreatH34
import Derived.Test.YtbpcjpbcgeccbaaGreatH35
set_option linter.unusedVariables false
set_option linter.unusedSectionVars false
set_option linter.unusedSimpArgs false
section
set_option maxRecDepth 10000
namespace Go.Am
open Go.Proofs
theorem Tryz.all{aZ:Machine→Outcome→World→Trace→Prop}{b:Frame}{bs:List Frame}{F:Nat→Prop}{w₀:World}{m:Machine}{t:Trace}(S:bg Tryz.prog Tryz.link (b :: bs) F w₀ .idle ⟨aB.enter Tryz.prog 5 #[],[],h0⟩ m t):Go.Ren.aC Tryz.prog aZ (Back Tryz.prog b bs F w₀ (.bool true)) m t:=by
 have K:=Tryz.tOk
 have KF:=Tryz.fOk
 have H:=Tryz.waits
 have HM:=Tryz.aeH
 replace S:bg Tryz.prog Tryz.link (b :: bs) F w₀ .idle Tryz.st0 m t:=S
 refine (bg.step K KF Tryz.to1 S).bind fun m t S=>?_
 refine (bg.step K KF Tryz.to2 S).bind fun m t S=>?_
 refine (bg.parts K KF Tryz.akh (by omega) (fun i hi=>match i,hi with|0,_=>Tryz.afC|1,_=>Tryz.afD|2,_=>Tryz.afE|3,_=>Tryz.afF|4,_=>Tryz.afG|n+5,h=>absurd h (by omega)) S).bind fun m t S=>?_
 refine (bg.step K KF Tryz.to4 S).bind fun m t S=>?_
 refine (bg.step K KF Tryz.Y6 S).bind fun m t S=>?_
 refine (bg.step K KF Tryz.to6 S).bind fun m t S=>?_
 refine (bg.step K KF Tryz.to7 S).bind fun m t S=>?_
 refine (bg.step K KF Tryz.to8 S).bind fun m t S=>?_
 refine (bg.parts K KF Tryz.aki (by omega) (fun i hi=>match i,hi with|0,_=>Tryz.afH|1,_=>Tryz.afI|2,_=>Tryz.afJ|3,_=>Tryz.afK|4,_=>Tryz.afL|n+5,h=>absurd h (by omega)) S).bind fun m t S=>?_
 refine (bg.step K KF Tryz.akj S).bind fun m t S=>?_
 refine (bg.parts K KF Tryz.afM (by omega) (fun i hi=>match i,hi with|0,_=>Tryz.abC|1,_=>Tryz.abD|2,_=>Tryz.abE|3,_=>Tryz.abG|4,_=>Tryz.abH|n+5,h=>absurd h (by omega)) S).bind fun m t S=>?_
 refine (bg.step K KF Tryz.akk S).bind fun m t S=>?_
 refine (bg.parts K KF Tryz.afN (by omega) (fun i hi=>match i,hi with|0,_=>Tryz.abI|1,_=>Tryz.abJ|2,_=>Tryz.abK|3,_=>Tryz.abL|4,_=>Tryz.abM|n+5,h=>absurd h (by omega)) S).bind fun m t S=>?_
 refine (bg.step K KF Tryz.akl S).bind fun m t S=>?_
 refine (bg.aaX HM H (n:=16) (by omega) Tryz.akm Tryz.abB (aX (r:=15) (n:=16) (ws:=Tryz.zy.1) (s' :=Tryz.zy.2) Tryz.afO (bD (k:=0) (m:=16) K KF (by omega) Tryz.afP) (aX (r:=14) (n:=16) (ws:=Tryz.zB.1) (s' :=Tryz.zB.2) Tryz.afQ (bD (k:=1) (m:=16) K KF (by omega) Tryz.afR) (aX (r:=13) (n:=16) (ws:=Tryz.zC.1) (s' :=Tryz.zC.2) Tryz.afS (bD (k:=2) (m:=16) K KF (by omega) Tryz.afT) (aX (r:=12) (n:=16) (ws:=Tryz.zD.1) (s' :=Tryz.zD.2) Tryz.afU (bD (k:=3) (m:=16) K KF (by omega) Tryz.afV) (aX (r:=11) (n:=16) (ws:=Tryz.zF.1) (s' :=Tryz.zF.2) Tryz.afW (bD (k:=4) (m:=16) K KF (by omega) Tryz.afX) (aX (r:=10) (n:=16) (ws:=Tryz.zG.1) (s' :=Tryz.zG.2) Tryz.afY (bD (k:=5) (m:=16) K KF (by omega) Tryz.afZ) (aX (r:=9) (n:=16) (ws:=Tryz.zH.1) (s' :=Tryz.zH.2) Tryz.af0 (bD (k:=6) (m:=16) K KF (by omega) Tryz.af1) (aX (r:=8) (n:=16) (ws:=Tryz.zI.1) (s' :=Tryz.zI.2) Tryz.af2 (bD (k:=7) (m:=16) K KF (by omega) Tryz.af4) (aX (r:=7) (n:=16) (ws:=Tryz.zJ.1) (s' :=Tryz.zJ.2) Tryz.af5 (bD (k:=8) (m:=16) K KF (by omega) Tryz.af6) (aX (r:=6) (n:=16) (ws:=Tryz.zL.1) (s' :=Tryz.zL.2) Tryz.af7 (bD (k:=9) (m:=16) K KF (by omega) Tryz.af8) (aX (r:=5) (n:=16) (ws:=Tryz.sJ.1) (s' :=Tryz.sJ.2) Tryz.abN (bD (k:=10) (m:=16) K KF (by omega) Tryz.abO) (aX (r:=4) (n:=16) (ws:=Tryz.sK.1) (s' :=Tryz.sK.2) Tryz.abP (bD (k:=11) (m:=16) K KF (by omega) Tryz.abQ) (aX (r:=3) (n:=16) (ws:=Tryz.sN.1) (s' :=Tryz.sN.2) Tryz.abR (bD (k:=12) (m:=16) K KF (by omega) Tryz.abS) (aX (r:=2) (n:=16) (ws:=Tryz.sO.1) (s' :=Tryz.sO.2) Tryz.abT (bD (k:=13) (m:=16) K KF (by omega) Tryz.abU) (aX (r:=1) (n:=16) (ws:=Tryz.sS.1) (s' :=Tryz.sS.2) Tryz.abV (bD (k:=14) (m:=16) K KF (by omega) Tryz.abW) (aX (r:=0) (n:=16) (ws:=Tryz.Di.1) (s' :=Tryz.Di.2) Tryz.abX (bD (k:=15) (m:=16) K KF (by omega) Tryz.abY) (Jp Tryz.akn))))))))))))))))) S).bind fun m t S=>?_
 exact bg.last K KF Tryz.fin S
end Go.Am
end
namespace Go.Proofs.YtbpcjpbcgeccbaaGreat
theorem frameBroader_holds:Rows.FrameBroaderSaid:=over fun Post=>fun S=>Go.Am.Tryz.all S
#print axioms frameBroader_holds
end Go.Proofs.YtbpcjpbcgeccbaaGreat
