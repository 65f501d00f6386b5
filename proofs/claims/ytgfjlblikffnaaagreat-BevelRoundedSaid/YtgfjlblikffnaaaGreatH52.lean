/- A bevel is what its rise makes of it, rounded down, for every input of the row, in whatever order its goroutines run; no other condition. -/
import Derived.Test.YtgfjlblikffnaaaGreatH19
import Derived.Test.YtgfjlblikffnaaaGreatH21
import Derived.Test.YtgfjlblikffnaaaGreatH30
import Derived.Test.YtgfjlblikffnaaaGreatH32
import Derived.Test.YtgfjlblikffnaaaGreatH33
import Derived.Test.YtgfjlblikffnaaaGreatH34
import Derived.Test.YtgfjlblikffnaaaGreatH35
import Derived.Test.YtgfjlblikffnaaaGreatH36
import Derived.Test.YtgfjlblikffnaaaGreatH37
import Derived.Test.YtgfjlblikffnaaaGreatH38
import Derived.Test.YtgfjlblikffnaaaGreatH39
import Derived.Test.YtgfjlblikffnaaaGreatH40
import Derived.Test.YtgfjlblikffnaaaGreatH41
import Derived.Test.YtgfjlblikffnaaaGreatH42
import Derived.Test.YtgfjlblikffnaaaGreatH43
import Derived.Test.YtgfjlblikffnaaaGreatH44
import Derived.Test.YtgfjlblikffnaaaGreatH45
import Derived.Test.YtgfjlblikffnaaaGreatH46
import Derived.Test.YtgfjlblikffnaaaGreatH47
import Derived.Test.YtgfjlblikffnaaaGreatH48
import Derived.Test.YtgfjlblikffnaaaGreatH49
import Derived.Test.YtgfjlblikffnaaaGreatH50
import Derived.Test.YtgfjlblikffnaaaGreatH51
set_option linter.unusedVariables false
set_option linter.unusedSectionVars false
set_option linter.unusedSimpArgs false
section
set_option maxRecDepth 10000
namespace Go.Am
open Go.Proofs
theorem Tryz.all{bJ:Machine→Outcome→World→Trace→Prop}{b:Frame}{bs:List Frame}{F:Nat→Prop}{w₀:World}{m:Machine}{t:Trace}(S:aJ Tryz.prog Tryz.link (b :: bs) F w₀ .idle ⟨aF.enter Tryz.prog 5 #[],[],h0⟩ m t):Go.Ren.aA Tryz.prog bJ (Back Tryz.prog b bs F w₀ (.bool true)) m t:=by
 have K:=Tryz.tOk
 have KF:=Tryz.fOk
 have H:=Tryz.waits
 replace S:aJ Tryz.prog Tryz.link (b :: bs) F w₀ .idle Tryz.st0 m t:=S
 refine (aJ.step K KF Tryz.to1 S).bind fun m t S=>?_
 refine (aJ.step K KF Tryz.to2 S).bind fun m t S=>?_
 refine (aJ.yL K KF Tryz.afr (by omega) Tryz.afs (by omega) (fun i hi=>match i,hi with|0,_=>P2.app (a:=[0,1,2]) (b:=[3,4]) Tryz.abe Tryz.abf|1,_=>P2.app (a:=[0,1,2]) (b:=[3,4]) Tryz.abg Tryz.abh|2,_=>P2.app (a:=[0,1,2]) (b:=[3,4]) Tryz.abj Tryz.abk|3,_=>P2.app (a:=[0,1,2]) (b:=[3,4]) Tryz.abl Tryz.abm|4,_=>P2.app (a:=[0,1,2]) (b:=[3,4]) Tryz.abn Tryz.abo|5,_=>P2.app (a:=[0,1,2]) (b:=[3,4]) Tryz.abp Tryz.abq|n+6,h=>absurd h (by omega)) S).bind fun m t S=>?_
 refine (aJ.step K KF Tryz.Yx S).bind fun m t S=>?_
 refine (aJ.yL K KF Tryz.aft (by omega) Tryz.afu (by omega) (fun i hi=>match i,hi with|0,_=>P2.app (a:=[0,1,2]) (b:=[3,4]) Tryz.abr Tryz.abt|1,_=>P2.app (a:=[0,1,2]) (b:=[3,4]) Tryz.abu Tryz.abv|2,_=>P2.app (a:=[0,1,2]) (b:=[3,4]) Tryz.abw Tryz.abx|3,_=>P2.app (a:=[0,1,2]) (b:=[3,4]) Tryz.aby Tryz.abz|4,_=>P2.app (a:=[0,1,2]) (b:=[3,4]) Tryz.abA Tryz.abB|5,_=>P2.app (a:=[0,1,2]) (b:=[3,4]) Tryz.abC Tryz.abD|n+6,h=>absurd h (by omega)) S).bind fun m t S=>?_
 refine (aJ.step K KF Tryz.to6 S).bind fun m t S=>?_
 refine (aJ.step K KF Tryz.to7 S).bind fun m t S=>?_
 refine (aJ.step K KF Tryz.to8 S).bind fun m t S=>?_
 refine (aJ.step K KF Tryz.to9 S).bind fun m t S=>?_
 refine (aJ.uX H Tryz.afv S).bind fun m t S=>?_
 refine (aJ.Mc H (gm Tryz.adi (gp K KF Tryz.adl) (gm Tryz.adm (gp K KF Tryz.adn) (gm Tryz.ado (gp K KF Tryz.adp) (gm Tryz.adq (gp K KF Tryz.adr) (yK Tryz.afw))))) (by decide) (by decide) S).bind fun m t S=>?_
 refine (aJ.uX H Tryz.afx S).bind fun m t S=>?_
 replace S:=aJ.kF Tryz.afy S
 refine (aJ.step K KF Tryz.afz S).bind fun m t S=>?_
 refine (aJ.uX H Tryz.afA S).bind fun m t S=>?_
 refine (aJ.Mc H (gm Tryz.adw (gp K KF Tryz.adx) (gm Tryz.ady (gp K KF Tryz.adz) (gm Tryz.adA (gp K KF Tryz.adB) (gm Tryz.adC (gp K KF Tryz.adD) (yK Tryz.afB))))) (by decide) (by decide) S).bind fun m t S=>?_
 refine (aJ.uX H Tryz.afC S).bind fun m t S=>?_
 replace S:=aJ.kF Tryz.afD S
 refine (aJ.step K KF Tryz.afE S).bind fun m t S=>?_
 refine (aJ.parts K KF Tryz.adE (by omega) (fun i hi=>match i,hi with|0,_=>Tryz.abI|1,_=>Tryz.abJ|2,_=>Tryz.abK|3,_=>Tryz.abL|4,_=>Tryz.abM|5,_=>Tryz.abN|n+6,h=>absurd h (by omega)) S).bind fun m t S=>?_
 refine (aJ.step K KF Tryz.afF S).bind fun m t S=>?_
 refine (aJ.yL K KF Tryz.adF (by omega) Tryz.adG (by omega) (fun i hi=>match i,hi with|0,_=>P2.app (a:=[0,1,2]) (b:=[3,4]) Tryz.YC Tryz.YD|1,_=>P2.app (a:=[0,1,2]) (b:=[3,4]) Tryz.YE Tryz.YF|2,_=>P2.app (a:=[0,1,2]) (b:=[3,4]) Tryz.YG Tryz.YH|3,_=>P2.app (a:=[0,1,2]) (b:=[3,4]) Tryz.YI Tryz.YJ|4,_=>P2.app (a:=[0,1,2]) (b:=[3,4]) Tryz.YK Tryz.YL|5,_=>P2.app (a:=[0,1,2]) (b:=[3,4]) Tryz.YM Tryz.YN|n+6,h=>absurd h (by omega)) S).bind fun m t S=>?_
 refine (aJ.step K KF Tryz.afG S).bind fun m t S=>?_
 refine (aJ.yL K KF Tryz.adH (by omega) Tryz.adI (by omega) (fun i hi=>match i,hi with|0,_=>P2.app (a:=[0,1,2]) (b:=[3,4]) Tryz.YO Tryz.YP|1,_=>P2.app (a:=[0,1,2]) (b:=[3,4]) Tryz.YQ Tryz.YR|2,_=>P2.app (a:=[0,1,2]) (b:=[3,4]) Tryz.YS Tryz.YT|3,_=>P2.app (a:=[0,1,2]) (b:=[3,4]) Tryz.YU Tryz.YV|4,_=>P2.app (a:=[0,1,2]) (b:=[3,4]) Tryz.YW Tryz.YX|5,_=>P2.app (a:=[0,1,2]) (b:=[3,4]) Tryz.YY Tryz.YZ|n+6,h=>absurd h (by omega)) S).bind fun m t S=>?_
 refine (aJ.step K KF Tryz.afH S).bind fun m t S=>?_
 refine (aJ.yL K KF Tryz.adJ (by omega) Tryz.adK (by omega) (fun i hi=>match i,hi with|0,_=>P2.app (a:=[0,1,2]) (b:=[3,4]) Tryz.Y0 Tryz.Y1|1,_=>P2.app (a:=[0,1,2]) (b:=[3,4]) Tryz.Y2 Tryz.Y3|2,_=>P2.app (a:=[0,1,2]) (b:=[3,4]) Tryz.Y4 Tryz.Y5|3,_=>P2.app (a:=[0,1,2]) (b:=[3,4]) Tryz.Y6 Tryz.Y7|4,_=>P2.app (a:=[0,1,2]) (b:=[3,4]) Tryz.Y8 Tryz.Y9|5,_=>P2.app (a:=[0,1,2]) (b:=[3,4]) Tryz.Za Tryz.Zb|n+6,h=>absurd h (by omega)) S).bind fun m t S=>?_
 refine (aJ.step K KF Tryz.afN S).bind fun m t S=>?_
 exact aJ.last K KF Tryz.fin S
end Go.Am
end
namespace Go.Proofs.YtgfjlblikffnaaaGreat
theorem bevelRounded_holds:Rows.BevelRoundedSaid:=over fun Post=>fun S=>Go.Am.Tryz.all S
#print axioms bevelRounded_holds
end Go.Proofs.YtgfjlblikffnaaaGreat
