/- Three points of a frame at equal distances bend by as much as the middle one lies off the straight, for every input of the row, in whatever order its goroutines run; the row asks that it be calm. -/
import Derived.Test.YtghfookpaompmaaGreatH23
import Derived.Test.YtghfookpaompmaaGreatH24
import Derived.Test.YtghfookpaompmaaGreatH30
import Derived.Test.YtghfookpaompmaaGreatH32
import Derived.Test.YtghfookpaompmaaGreatH33
import Derived.Test.YtghfookpaompmaaGreatH34
set_option linter.unusedVariables false
set_option linter.unusedSectionVars false
set_option linter.unusedSimpArgs false
section
set_option maxRecDepth 10000
namespace Go.Am
open Go.Proofs
theorem Tryz.all{FinP:Machine→Outcome→World→Trace→Prop}{b:Frame}{bs:List Frame}{F:Nat→Prop}{w₀:World}{m:Machine}{t:Trace}(S:Stand Tryz.prog Tryz.link (b :: bs) F w₀ .idle ⟨AFr.enter Tryz.prog 5 #[],[],h0⟩ m t):Go.Ren.Leads Tryz.prog FinP (Back Tryz.prog b bs F w₀ (.bool true)) m t:=by
 have K:=Tryz.tOk
 have KF:=Tryz.fOk
 have H:=Tryz.waits
 have HM:=Tryz.mxLib
 replace S:Stand Tryz.prog Tryz.link (b :: bs) F w₀ .idle Tryz.st0 m t:=S
 refine (Stand.step K KF Tryz.to1 S).bind fun m t S=>?_
 refine (Stand.step K KF Tryz.to2 S).bind fun m t S=>?_
 refine (Stand.parts K KF Tryz.to3q (by omega) (fun i hi=>match i,hi with|0,_=>Tryz.to3p0|1,_=>Tryz.to3p1|2,_=>Tryz.to3p2|3,_=>Tryz.to3p3|4,_=>Tryz.to3p4|n+5,h=>absurd h (by omega)) S).bind fun m t S=>?_
 refine (Stand.step K KF Tryz.to4 S).bind fun m t S=>?_
 refine (Stand.step K KF Tryz.to5 S).bind fun m t S=>?_
 refine (Stand.step K KF Tryz.to6 S).bind fun m t S=>?_
 refine (Stand.step K KF Tryz.to7 S).bind fun m t S=>?_
 refine (Stand.step K KF Tryz.to8 S).bind fun m t S=>?_
 refine (Stand.parts K KF Tryz.to9q (by omega) (fun i hi=>match i,hi with|0,_=>Tryz.to9p0|1,_=>Tryz.to9p1|2,_=>Tryz.to9p2|3,_=>Tryz.to9p3|4,_=>Tryz.to9p4|n+5,h=>absurd h (by omega)) S).bind fun m t S=>?_
 refine (Stand.step K KF Tryz.to10 S).bind fun m t S=>?_
 refine (Stand.parts K KF Tryz.to11q (by omega) (fun i hi=>match i,hi with|0,_=>Tryz.to11p0|1,_=>Tryz.to11p1|2,_=>Tryz.to11p2|3,_=>Tryz.to11p3|4,_=>Tryz.to11p4|n+5,h=>absurd h (by omega)) S).bind fun m t S=>?_
 refine (Stand.step K KF Tryz.to12 S).bind fun m t S=>?_
 refine (Stand.parts K KF Tryz.to13q (by omega) (fun i hi=>match i,hi with|0,_=>Tryz.to13p0|1,_=>Tryz.to13p1|2,_=>Tryz.to13p2|3,_=>Tryz.to13p3|4,_=>Tryz.to13p4|n+5,h=>absurd h (by omega)) S).bind fun m t S=>?_
 refine (Stand.step K KF Tryz.to14 S).bind fun m t S=>?_
 refine (Stand.underM HM H (n:=16) (by omega) Tryz.to15 Tryz.fold14 (spawnM_cons (r:=15) (n:=16) (ws:=Tryz.g15_0.1) (s' :=Tryz.g15_0.2) Tryz.e15_0 (workM_some (k:=0) (m:=16) K KF (by omega) Tryz.w15_0) (spawnM_cons (r:=14) (n:=16) (ws:=Tryz.g15_1.1) (s' :=Tryz.g15_1.2) Tryz.e15_1 (workM_some (k:=1) (m:=16) K KF (by omega) Tryz.w15_1) (spawnM_cons (r:=13) (n:=16) (ws:=Tryz.g15_2.1) (s' :=Tryz.g15_2.2) Tryz.e15_2 (workM_some (k:=2) (m:=16) K KF (by omega) Tryz.w15_2) (spawnM_cons (r:=12) (n:=16) (ws:=Tryz.g15_3.1) (s' :=Tryz.g15_3.2) Tryz.e15_3 (workM_some (k:=3) (m:=16) K KF (by omega) Tryz.w15_3) (spawnM_cons (r:=11) (n:=16) (ws:=Tryz.g15_4.1) (s' :=Tryz.g15_4.2) Tryz.e15_4 (workM_some (k:=4) (m:=16) K KF (by omega) Tryz.w15_4) (spawnM_cons (r:=10) (n:=16) (ws:=Tryz.g15_5.1) (s' :=Tryz.g15_5.2) Tryz.e15_5 (workM_some (k:=5) (m:=16) K KF (by omega) Tryz.w15_5) (spawnM_cons (r:=9) (n:=16) (ws:=Tryz.g15_6.1) (s' :=Tryz.g15_6.2) Tryz.e15_6 (workM_some (k:=6) (m:=16) K KF (by omega) Tryz.w15_6) (spawnM_cons (r:=8) (n:=16) (ws:=Tryz.g15_7.1) (s' :=Tryz.g15_7.2) Tryz.e15_7 (workM_some (k:=7) (m:=16) K KF (by omega) Tryz.w15_7) (spawnM_cons (r:=7) (n:=16) (ws:=Tryz.g15_8.1) (s' :=Tryz.g15_8.2) Tryz.e15_8 (workM_some (k:=8) (m:=16) K KF (by omega) Tryz.w15_8) (spawnM_cons (r:=6) (n:=16) (ws:=Tryz.g15_9.1) (s' :=Tryz.g15_9.2) Tryz.e15_9 (workM_some (k:=9) (m:=16) K KF (by omega) Tryz.w15_9) (spawnM_cons (r:=5) (n:=16) (ws:=Tryz.g15_10.1) (s' :=Tryz.g15_10.2) Tryz.e15_10 (workM_some (k:=10) (m:=16) K KF (by omega) Tryz.w15_10) (spawnM_cons (r:=4) (n:=16) (ws:=Tryz.g15_11.1) (s' :=Tryz.g15_11.2) Tryz.e15_11 (workM_some (k:=11) (m:=16) K KF (by omega) Tryz.w15_11) (spawnM_cons (r:=3) (n:=16) (ws:=Tryz.g15_12.1) (s' :=Tryz.g15_12.2) Tryz.e15_12 (workM_some (k:=12) (m:=16) K KF (by omega) Tryz.w15_12) (spawnM_cons (r:=2) (n:=16) (ws:=Tryz.g15_13.1) (s' :=Tryz.g15_13.2) Tryz.e15_13 (workM_some (k:=13) (m:=16) K KF (by omega) Tryz.w15_13) (spawnM_cons (r:=1) (n:=16) (ws:=Tryz.g15_14.1) (s' :=Tryz.g15_14.2) Tryz.e15_14 (workM_some (k:=14) (m:=16) K KF (by omega) Tryz.w15_14) (spawnM_cons (r:=0) (n:=16) (ws:=Tryz.g15_15.1) (s' :=Tryz.g15_15.2) Tryz.e15_15 (workM_some (k:=15) (m:=16) K KF (by omega) Tryz.w15_15) (spawnM_last Tryz.to16))))))))))))))))) S).bind fun m t S=>?_
 exact Stand.last K KF Tryz.fin S
end Go.Am
end
namespace Go.Proofs.YtghfookpaompmaaGreat
theorem frameBent_holds:Rows.FrameBentSaid:=over fun Post=>fun S=>Go.Am.Tryz.all S
#print axioms frameBent_holds
end Go.Proofs.YtghfookpaompmaaGreat
