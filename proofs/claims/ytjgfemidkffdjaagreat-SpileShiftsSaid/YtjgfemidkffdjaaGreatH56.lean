/- The gaps of a plank's edge lie on the board just if they are shifted by a number that Shifts tells; gaps that are all greater by the same are shifted by as much less; there are no more such numbers than Room says is left; for every input of the row, in whatever order its goroutines run; the row asks that it be calm. -/
import Derived.Test.YtjgfemidkffdjaaGreatH23
import Derived.Test.YtjgfemidkffdjaaGreatH25
import Derived.Test.YtjgfemidkffdjaaGreatH31
import Derived.Test.YtjgfemidkffdjaaGreatH33
import Derived.Test.YtjgfemidkffdjaaGreatH34
import Derived.Test.YtjgfemidkffdjaaGreatH35
import Derived.Test.YtjgfemidkffdjaaGreatH36
import Derived.Test.YtjgfemidkffdjaaGreatH37
import Derived.Test.YtjgfemidkffdjaaGreatH38
import Derived.Test.YtjgfemidkffdjaaGreatH39
import Derived.Test.YtjgfemidkffdjaaGreatH40
import Derived.Test.YtjgfemidkffdjaaGreatH41
import Derived.Test.YtjgfemidkffdjaaGreatH42
import Derived.Test.YtjgfemidkffdjaaGreatH43
import Derived.Test.YtjgfemidkffdjaaGreatH44
import Derived.Test.YtjgfemidkffdjaaGreatH45
import Derived.Test.YtjgfemidkffdjaaGreatH46
import Derived.Test.YtjgfemidkffdjaaGreatH47
import Derived.Test.YtjgfemidkffdjaaGreatH48
import Derived.Test.YtjgfemidkffdjaaGreatH49
import Derived.Test.YtjgfemidkffdjaaGreatH50
import Derived.Test.YtjgfemidkffdjaaGreatH51
import Derived.Test.YtjgfemidkffdjaaGreatH52
import Derived.Test.YtjgfemidkffdjaaGreatH53
import Derived.Test.YtjgfemidkffdjaaGreatH54
import Derived.Test.YtjgfemidkffdjaaGreatH55
set_option linter.all false
section
set_option maxRecDepth 10000
namespace Go.Am
open Go.Proofs
theorem agv{e:Machine->Outcome->World->Trace->Prop}{b:Frame}{j:List Frame}{F:Nat->Prop}{d:World}{m:Machine}{t:Trace}(S:bK Tryz.prog bD (b::j) F d .idle ⟨aN.enter Tryz.prog 5 #[],[],h0⟩ m t):Go.Ren.aH Tryz.prog e (Back Tryz.prog b j F d (.bool true)) m t:=by
 have K:=Zk
 have KF:=Zl
 have H:=Zj
 have l:=Zi
 replace S:bK Tryz.prog bD (b::j) F d .idle aau m t:=S
 refine(bK.step K KF agf S).bind fun m t S=>?_
 refine(bK.step K KF agh S).bind fun m t S=>?_
 refine(bK.step K KF agi S).bind fun m t S=>?_
 refine(bK.way (Way.wI K KF acQ (by omega) acR (by omega) (fun i c=>match i,c with|0,_=>(P2.app (a:=[0,1]) (b:=[2,3,4]) VW (P2.app (a:=[2,3]) (b:=[4]) VX VY))|1,_=>(P2.app (a:=[0,1]) (b:=[2,3,4]) VZ (P2.app (a:=[2,3]) (b:=[4]) V3 V4))|2,_=>(P2.app (a:=[0,1]) (b:=[2,3,4]) V5 (P2.app (a:=[2,3]) (b:=[4]) V6 V7))|3,_=>(P2.app (a:=[0,1]) (b:=[2,3,4]) V8 (P2.app (a:=[2,3]) (b:=[4]) V9 We))|4,_=>(P2.app (a:=[0,1]) (b:=[2,3,4]) Wh (P2.app (a:=[2,3]) (b:=[4]) Wi Wj))|5,_=>(P2.app (a:=[0,1]) (b:=[2,3,4]) Wl (P2.app (a:=[2,3]) (b:=[4]) Wn Wp))|n+6,h=>absurd h (by omega))) S).bind fun m t S=>?_
 refine(bK.step K KF agj S).bind fun m t S=>?_
 refine(bK.way (Way.wI K KF acS (by omega) acT (by omega) (fun i c=>match i,c with|0,_=>(P2.app (a:=[0,1]) (b:=[2,3,4]) Wq (P2.app (a:=[2,3]) (b:=[4]) Ws Wu))|1,_=>(P2.app (a:=[0,1]) (b:=[2,3,4]) Wv (P2.app (a:=[2,3]) (b:=[4]) Wx Wy))|2,_=>(P2.app (a:=[0,1]) (b:=[2,3,4]) WA (P2.app (a:=[2,3]) (b:=[4]) WB WC))|3,_=>(P2.app (a:=[0,1]) (b:=[2,3,4]) WE (P2.app (a:=[2,3]) (b:=[4]) WG WH))|4,_=>(P2.app (a:=[0,1]) (b:=[2,3,4]) WI (P2.app (a:=[2,3]) (b:=[4]) WJ WL))|5,_=>(P2.app (a:=[0,1]) (b:=[2,3,4]) WM (P2.app (a:=[2,3]) (b:=[4]) WN WO))|n+6,h=>absurd h (by omega))) S).bind fun m t S=>?_
 refine(bK.step K KF agk S).bind fun m t S=>?_
 refine(bK.step K KF agl S).bind fun m t S=>?_
 refine(bK.muG agm S).bind fun m t S=>?_
 refine(dh.on (Way.stepS K KF acU) S).bind fun m t S=>?_
 refine(dh.on (Way.wI K KF aaz (by omega) aaA (by omega) (fun i c=>match i,c with|0,_=>(P2.app (a:=[0]) (b:=[1,2,3]) Pg (P2.app (a:=[1]) (b:=[2,3]) Pj (P2.app (a:=[2]) (b:=[3]) Pm Pn)))|1,_=>(P2.app (a:=[0]) (b:=[1,2,3]) Po (P2.app (a:=[1]) (b:=[2,3]) Pq (P2.app (a:=[2]) (b:=[3]) Pv Px)))|2,_=>(P2.app (a:=[0]) (b:=[1,2,3]) Py (P2.app (a:=[1]) (b:=[2,3]) Pz (P2.app (a:=[2]) (b:=[3]) PD PE)))|3,_=>(P2.app (a:=[0]) (b:=[1,2,3]) PG (P2.app (a:=[1]) (b:=[2,3]) PI (P2.app (a:=[2]) (b:=[3]) PK PL)))|4,_=>(P2.app (a:=[0]) (b:=[1,2,3]) PM (P2.app (a:=[1]) (b:=[2,3]) PN (P2.app (a:=[2]) (b:=[3]) PO PR)))|n+5,h=>absurd h (by omega))) S).bind fun m t S=>?_
 refine(dh.on (Way.stepS K KF acV) S).bind fun m t S=>?_
 refine(dh.phase l H (n:=3) (by omega) acW VV (jV (r:=2) (n:=3) (ws:=mg.1) (s':=mg.2) aaB (kX K KF L9 (Way.then (Way.yY K KF JG (by omega) (fun i c=>match i,c with|0,_=>⟨_,Fj⟩|1,_=>⟨_,Fp⟩|2,_=>⟨_,Fq⟩|3,_=>⟨_,Fv⟩|4,_=>⟨_,Fz⟩|n+5,h=>absurd h (by omega))) (kY (k:=0) (m:=3) K KF (by omega) aaC))) (jV (r:=1) (n:=3) (ws:=mD.1) (s':=mD.2) aaD (kX K KF Mc (Way.then (Way.yY K KF JH (by omega) (fun i c=>match i,c with|0,_=>⟨_,FC⟩|1,_=>⟨_,FH⟩|2,_=>⟨_,FI⟩|3,_=>⟨_,FM⟩|4,_=>⟨_,FN⟩|n+5,h=>absurd h (by omega))) (kY (k:=1) (m:=3) K KF (by omega) aaG))) (jV (r:=0) (n:=3) (ws:=uu.1) (s':=uu.2) aaH (kX K KF MC (Way.then (Way.yY K KF JP (by omega) (fun i c=>match i,c with|0,_=>⟨_,FP⟩|1,_=>⟨_,FQ⟩|2,_=>⟨_,FU⟩|3,_=>⟨_,FV⟩|4,_=>⟨_,FW⟩|n+5,h=>absurd h (by omega))) (kY (k:=2) (m:=3) K KF (by omega) aaI))) (AA acX)))) S).bind fun m t S=>?_
 refine(bK.step K KF acY S).bind fun m t S=>?_
 refine(bK.muG acZ S).bind fun m t S=>?_
 refine(dh.on (Way.stepS K KF ac0) S).bind fun m t S=>?_
 refine(dh.on (Way.wI K KF aaJ (by omega) aaK (by omega) (fun i c=>match i,c with|0,_=>(P2.app (a:=[0]) (b:=[1,2,3]) PU (P2.app (a:=[1]) (b:=[2,3]) PV (P2.app (a:=[2]) (b:=[3]) PW PX)))|1,_=>(P2.app (a:=[0]) (b:=[1,2,3]) PY (P2.app (a:=[1]) (b:=[2,3]) PZ (P2.app (a:=[2]) (b:=[3]) P5 P6)))|2,_=>(P2.app (a:=[0]) (b:=[1,2,3]) P7 (P2.app (a:=[1]) (b:=[2,3]) P8 (P2.app (a:=[2]) (b:=[3]) P9 Qa)))|3,_=>(P2.app (a:=[0]) (b:=[1,2,3]) Qb (P2.app (a:=[1]) (b:=[2,3]) Qc (P2.app (a:=[2]) (b:=[3]) Qd Qe)))|4,_=>(P2.app (a:=[0]) (b:=[1,2,3]) Qg (P2.app (a:=[1]) (b:=[2,3]) Qh (P2.app (a:=[2]) (b:=[3]) Qi Qj)))|n+5,h=>absurd h (by omega))) S).bind fun m t S=>?_
 refine(dh.on (Way.stepS K KF ac1) S).bind fun m t S=>?_
 refine(dh.phase l H (n:=3) (by omega) ac2 VU (jV (r:=2) (n:=3) (ws:=mF.1) (s':=mF.2) aaL (kX K KF MF (Way.then (Way.yY K KF JQ (by omega) (fun i c=>match i,c with|0,_=>⟨_,FX⟩|1,_=>⟨_,FY⟩|2,_=>⟨_,FZ⟩|3,_=>⟨_,F5⟩|4,_=>⟨_,F6⟩|n+5,h=>absurd h (by omega))) (kY (k:=0) (m:=3) K KF (by omega) aaM))) (jV (r:=1) (n:=3) (ws:=mG.1) (s':=mG.2) aaN (kX K KF MG (Way.then (Way.yY K KF JR (by omega) (fun i c=>match i,c with|0,_=>⟨_,F7⟩|1,_=>⟨_,F8⟩|2,_=>⟨_,F9⟩|3,_=>⟨_,Gf⟩|4,_=>⟨_,Gg⟩|n+5,h=>absurd h (by omega))) (kY (k:=1) (m:=3) K KF (by omega) aaO))) (jV (r:=0) (n:=3) (ws:=uw.1) (s':=uw.2) aaP (kX K KF MH (Way.then (Way.yY K KF JS (by omega) (fun i c=>match i,c with|0,_=>⟨_,Gh⟩|1,_=>⟨_,Gi⟩|2,_=>⟨_,Gj⟩|3,_=>⟨_,Gl⟩|4,_=>⟨_,Gm⟩|n+5,h=>absurd h (by omega))) (kY (k:=2) (m:=3) K KF (by omega) aaQ))) (AA ac3)))) S).bind fun m t S=>?_
 refine(bK.step K KF ac4 S).bind fun m t S=>?_
 refine(bK.way (Way.wI K KF aaR (by omega) aaS (by omega) (fun i c=>match i,c with|0,_=>(P2.app (a:=[0,1]) (b:=[2,3,4]) Qk (P2.app (a:=[2,3]) (b:=[4]) Ql Qm))|1,_=>(P2.app (a:=[0,1]) (b:=[2,3,4]) Qn (P2.app (a:=[2,3]) (b:=[4]) Qo Qp))|2,_=>(P2.app (a:=[0,1]) (b:=[2,3,4]) Qq (P2.app (a:=[2,3]) (b:=[4]) Qr Qs))|3,_=>(P2.app (a:=[0,1]) (b:=[2,3,4]) Qu (P2.app (a:=[2,3]) (b:=[4]) Qv Qw))|4,_=>(P2.app (a:=[0,1]) (b:=[2,3,4]) Qx (P2.app (a:=[2,3]) (b:=[4]) Qy Qz))|5,_=>(P2.app (a:=[0,1]) (b:=[2,3,4]) QA (P2.app (a:=[2,3]) (b:=[4]) QB QC))|n+6,h=>absurd h (by omega))) S).bind fun m t S=>?_
 refine(bK.step K KF ac5 S).bind fun m t S=>?_
 refine(bK.way (Way.wI K KF aaT (by omega) aaU (by omega) (fun i c=>match i,c with|0,_=>(P2.app (a:=[0,1]) (b:=[2,3,4]) QD (P2.app (a:=[2,3]) (b:=[4]) QE QF))|1,_=>(P2.app (a:=[0,1]) (b:=[2,3,4]) QG (P2.app (a:=[2,3]) (b:=[4]) QH QI))|2,_=>(P2.app (a:=[0,1]) (b:=[2,3,4]) QJ (P2.app (a:=[2,3]) (b:=[4]) QK QL))|3,_=>(P2.app (a:=[0,1]) (b:=[2,3,4]) QM (P2.app (a:=[2,3]) (b:=[4]) QN QO))|4,_=>(P2.app (a:=[0,1]) (b:=[2,3,4]) QS (P2.app (a:=[2,3]) (b:=[4]) QT QU))|5,_=>(P2.app (a:=[0,1]) (b:=[2,3,4]) QV (P2.app (a:=[2,3]) (b:=[4]) QW QX))|n+6,h=>absurd h (by omega))) S).bind fun m t S=>?_
 refine(bK.step K KF ac6 S).bind fun m t S=>?_
 refine(bK.way (Way.wI K KF aaV (by omega) aaW (by omega) (fun i c=>match i,c with|0,_=>(P2.app (a:=[0,1]) (b:=[2,3,4]) QY (P2.app (a:=[2,3]) (b:=[4]) QZ Q3))|1,_=>(P2.app (a:=[0,1]) (b:=[2,3,4]) Q4 (P2.app (a:=[2,3]) (b:=[4]) Q5 Q7))|2,_=>(P2.app (a:=[0,1]) (b:=[2,3,4]) Q8 (P2.app (a:=[2,3]) (b:=[4]) Q9 Rf))|3,_=>(P2.app (a:=[0,1]) (b:=[2,3,4]) Rh (P2.app (a:=[2,3]) (b:=[4]) Ri Rj))|4,_=>(P2.app (a:=[0,1]) (b:=[2,3,4]) Rk (P2.app (a:=[2,3]) (b:=[4]) Rl Rn))|5,_=>(P2.app (a:=[0,1]) (b:=[2,3,4]) Ro (P2.app (a:=[2,3]) (b:=[4]) Rq Rt))|n+6,h=>absurd h (by omega))) S).bind fun m t S=>?_
 refine(bK.step K KF ac7 S).bind fun m t S=>?_
 refine(bK.step K KF ac8 S).bind fun m t S=>?_
 exact bK.last K KF agu S
end Go.Am
end
namespace Go.Proofs.YtjgfemidkffdjaaGreat
theorem spileShifts_holds:Rows.SpileShiftsSaid:=over fun a=>fun S=>Go.Am.agv S
#print axioms spileShifts_holds
end Go.Proofs.YtjgfemidkffdjaaGreat
