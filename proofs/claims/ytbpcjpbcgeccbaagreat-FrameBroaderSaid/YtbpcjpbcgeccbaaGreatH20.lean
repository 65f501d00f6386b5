import Derived.Test.YtbpcjpbcgeccbaaGreatH17
import Derived.Test.YtbpcjpbcgeccbaaGreatH19
set_option linter.unusedVariables false
set_option linter.unusedSectionVars false
set_option linter.unusedSimpArgs false
namespace Go.Mx
open Go.Ren Go.Sy
open Go.Conc hiding Goes
open Go.Conc.Locks
open Go.ConcR (stA smA)
def KZ(L:ah):Code:=(unlockFn L.mu).body.getD .skip
def Uc(L:ah):Code:=(iunlockFn L.mu).body.getD .skip
def zX(nz l w s n0 n1:Bool):Tab:=(.bin .neq (.v 4) (.i .i32 0),.b nz) :: oz l w s n0 n1
def TV:Tab:=zX true false false false false false
def ulE(L:ah):S:=fresh [(0,some (.v 0))] [.code (KZ L)]
def PY(L:ah):S:=fresh [(4,some (.v 1))] (run 6 I4 200 (ulE L)).todo
def iuE(L:ah):S:=fresh [(0,some (.v 0))] [.code (Uc L)]
def ulL(L:ah):S:=fresh [(0,some (.v 0)),(5,some (.v 1))] (run 21 TV 200 (iuE L)).todo
def ulV(L:ah):S:=fresh [(0,some (.v 0)),(7,some (.v 0))] (run 21 TV 200 (next (ulL L) none)).todo
def ulR(L:ah):S:=fresh [(0,some (.v 0)),(8,some (.v 0))] (run 21 TV 200 (next (ulV L) (some (.v 0)))).todo
def ulD(L:ah):S:=fresh [(0,some (.v 0))] (run 21 TV 200 (next (ulR L) none)).todo
def YA(L:ah):S:=fresh [(0,some (.v 0)),(13,some (.v 1))] (run 21 TV 200 (next (ulD L) none)).todo
def ulU(L:ah):S:=fresh [(0,some (.v 0)),(17,some (.v 0)),(18,some (.v 4))] (run 21 TV 200 (next (YA L) (some (.v 4)))).todo
def ulN(L:ah):S:=fresh [(0,some (.v 0))] (run 21 TV 200 (next (ulU L) none)).todo
def ra:List (E×E):=[(.v 0,.v 0),(.v 1,.v 1),(.v 1,.v 0),(.v 4,.v 4)]
section
variable(L:ah)
theorem ah8:To L.mu.tMutex 6 I4 200 1 (ulE L) (PY L) rp:=⟨by kernel_rfl,by kernel_rfl,by kernel_rfl⟩
theorem ah9:To L.mu.tMutex 6 I4 200 0 (next (PY L) none) PR rp:=⟨by kernel_rfl,by kernel_rfl,by kernel_rfl⟩
theorem YB:aQ 6 (PY L)=some (L.mu.iunlock,[some (.v 1)]):=by kernel_rfl
section
variable(nz l w s n0 n1:Bool)
theorem aia:To L.mu.tIMutex 21 (zX nz l w s n0 n1) 200 1 (iuE L) (ulL L) ra:=⟨by kernel_rfl,by kernel_rfl,by kernel_rfl⟩
theorem aib:To L.mu.tIMutex 21 (zX nz l w s n0 n1) 200 0 (next (ulL L) none) (ulV L) ra:=⟨by kernel_rfl,by kernel_rfl,by kernel_rfl⟩
theorem aic:To L.mu.tIMutex 21 (zX nz l w s n0 n1) 200 0 (next (ulV L) (some (.v 0))) (ulR L) ra:=⟨by kernel_rfl,by kernel_rfl,by kernel_rfl⟩
theorem aid:To L.mu.tIMutex 21 (zX nz l w s n0 n1) 200 0 (next (ulR L) none) (ulD L) ra:=⟨by kernel_rfl,by kernel_rfl,by kernel_rfl⟩
theorem aie:To L.mu.tIMutex 21 (zX nz l w s n0 n1) 200 1 (next (ulD L) none) (YA L) ra:=⟨by kernel_rfl,by kernel_rfl,by kernel_rfl⟩
theorem aif:To L.mu.tIMutex 21 (zX true l w s n0 n1) 200 0 (next (YA L) (some (.v 4))) (ulU L) ra:=⟨by kernel_rfl,by kernel_rfl,by kernel_rfl⟩
theorem aih:To L.mu.tIMutex 21 (zX false l w s n0 n1) 200 0 (next (YA L) (some (.v 4))) (ulN L) ra:=⟨by kernel_rfl,by kernel_rfl,by kernel_rfl⟩
theorem aii:To L.mu.tIMutex 21 (zX nz l w s n0 n1) 200 0 (next (ulU L) none) (ulN L) ra:=⟨by kernel_rfl,by kernel_rfl,by kernel_rfl⟩
theorem aij:To L.mu.tIMutex 21 (zX nz l w s n0 n1) 200 0 (next (ulN L) none) PR ra:=⟨by kernel_rfl,by kernel_rfl,by kernel_rfl⟩
end
theorem ad4:loadAt 21 (ulL L)=some (21,some (.v 1)):=by kernel_rfl
theorem ad5:vH 21 (ulV L)=some (L.mu.tPIMutex,L.mu.tUP,some (.v 0)):=by kernel_rfl
theorem ad6:aQ 21 (ulR L)=some (L.mu.relMerge,[some (.v 0)]):=by kernel_rfl
theorem ad7:aQ 21 (ulD L)=some (L.mu.disable,[]):=by kernel_rfl
theorem ad8:aQ 21 (YA L)=some (L.mu.add32,[some (.v 1),some (.i .i32 (-1))]):=by kernel_rfl
theorem YC:aQ 21 (ulU L)=some (L.mu.unlockSlow,[some (.v 0),some (.v 4)]):=by kernel_rfl
theorem ad9:aQ 21 (ulN L)=some (L.mu.enable,[]):=by kernel_rfl
theorem aik:(unlockFn L.mu).body=some (KZ L):=by kernel_rfl
theorem ail:(iunlockFn L.mu).body=some (Uc L):=by kernel_rfl
theorem aim:(iH L).body=some (Tv L):=by kernel_rfl
theorem ain:((iunlockFn L.mu).name == "runtime.NumGoroutine")=false:=by kernel_rfl
theorem aio:((iH L).name == "runtime.NumGoroutine")=false:=by kernel_rfl
theorem aea:(iunlockFn L.mu).results = #[]:=by kernel_rfl
theorem aeb:(iH L).results = #[]:=by kernel_rfl
theorem PZ:(some (iunlockFn L.mu)).any (·.norace)=true:=by kernel_rfl
end
end Go.Mx
namespace Go.Mx
open Go.Ren Go.Sy
open Go.Conc hiding Goes
open Go.Conc.Locks
open Go.ConcR (stA smA)
section
variable{P:Program}{L:ah}{I I':World→Prop}{tM:TypeId}{Mu B:Nat}{X:Goroutine→Prop}{o:Wd}
def UeQ(P:Program)(I:World→Prop)(X:Goroutine→Prop)(d:Nat)(g:Goroutine):Prop:=d=1∧Says P false I #[Go.ConcR.mk .enable] X g
def DsQ(P:Program)(I:World→Prop)(tM:TypeId)(Mu B:Nat)(X:Goroutine→Prop)(d:Nat)(g:Goroutine):Prop:=d=0∧Says P false I #[Go.ConcR.mk .disable] (gG P I tM Mu B (ag P false I X0 (UeQ P I X)) .own 1) g
def RlQ(P:Program)(I:World→Prop)(tM:TypeId)(Mu B:Nat)(X:Goroutine→Prop)(d:Nat)(g:Goroutine):Prop:=d=0∧Says P false I #[Go.ConcR.mk (.releaseMerge (stA Mu))] (ag P false I X0 (DsQ P I tM Mu B X) 0) g
def Reads(I:World→Prop)(Mu:Nat):Prop:=∀w,I w→∃v:Int,w.cell? (mA Mu)=some (.int .i32 v)
theorem wZ:∀p∈ra,p.1.den (nu Mu 0 0 0 o 0)=p.2.den (nu Mu 0 0 0 o 0):=by
 intro p hp
 simp only [ra,List.mem_cons,List.not_mem_nil,or_false] at hp
 rcases hp with rfl|rfl|rfl|rfl
 · rfl
 · rfl
 · exact jI.trans jC.symm
 · rfl
theorem Oh(H:dQ P L)(ho:Small o):aW P L.mu.tIMutex (nu Mu 0 0 0 o 0) (zX (o.num != 0) (fl o.L) (fl o.W) (fl o.S) (o.n == 0) (o.n == 1)):=by
 unfold aW zX
 simp only [List.forall_mem_cons]
 refine ⟨rP (a:=(o.num:Int)) (b:=0) rQ rfl ?_,wR H ho.1 ho.2⟩
 show Value.bool (o.num != 0)=Value.bool ((o.num:Int) != ((0:Nat):Int))
 have:=Ak o.num 0
 unfold bne
 rw [this]
theorem aip{b:Frame}{ds:List Deferred}{cs:List Frame}{sz:Nat}{o':Wd}{s:S}{g:Goroutine}(hs:(Go.Sy.sub s.env s.env).all (kY r4)=true)(h:Behind (nu Mu 0 0 0 o 0) sz b ds cs s g):Behind (nu Mu 0 0 0 o' 0) sz b ds cs s g:=by
 obtain ⟨A,hz,ha,rfl⟩:=h
 exact ⟨A,hz,qj r4 hs Ey ha,rfl⟩
theorem WM(L:ah):(Go.Sy.sub (ulN L).env (ulN L).env).all (kY r4)=true:=by kernel_rfl
theorem WN(L:ah):(Go.Sy.sub (YA L).env (YA L).env).all (kY r4)=true:=by kernel_rfl
theorem YD{m:Wd}(hm:m.Bits)(hn:m.n < 63)(hL:m.L=1):IntKind.i32.wrap ((m.num:Int) + -1)=((⟨0,m.W,m.S,m.n⟩:Wd).num:Nat):=by
 have e:(m.num:Int) + -1=((⟨0,m.W,m.S,m.n⟩:Wd).num:Nat):=by unfold Wd.num;dsimp only;omega
 rw [e]
 exact Td ⟨Nat.zero_le _,hm.W,hm.S⟩ (by dsimp only;omega)
theorem P5(H:dQ P L)(hB:B < 63)(hI:Reads I Mu){b:Frame}{cs:List Frame}(hk:b.kind ≠ .early)(hX:∀g,ag P false I' X0 (fun d g=>d=0∧Behind (n0 Mu) 6 b [] cs PR g) 0 g→X g){g:Goroutine}(hg:Behind (n0 Mu) 6 b [] cs (ulE L) g) :
   ag P false I X0 (RlQ P I tM Mu B X) 0 g:=by
 have JY:=Oh (Mu:=Mu) H sm0
 have hTM:=Oc (Mu:=Mu) H
 have k2:(base L.mu.iunlock).kind ≠ .early:=by simp [base]
 refine (ah8 L).walk hTM oV hk hg fun g2 b2=>?_
 obtain ⟨A2,hz2,ha2,rfl⟩:=b2
 refine rU (YB L) hz2 ha2 hk H.lib.f_iunlock (ain L) (ail L) (by show 1≤21;omega) fun g3 b3=>?_
 have b3':Behind (n0 Mu) 21 (base L.mu.iunlock) [] (b.at ⟨A2,[]⟩ (PY L).todo :: cs) (iuE L) g3:=by
   obtain ⟨A,hz,ha,rfl⟩:=b3
   exact ⟨A,hz,uf (ρ:=rp) ha (by kernel_rfl) oV,rfl⟩
 refine (aia L _ _ _ _ _ _).walk JY wZ k2 b3' fun g4 b4=>?_
 obtain ⟨A4,hz4,ha4,rfl⟩:=b4
 have ld:=fun v:Int=>Aj (P:=P) (m:=false) (b:=base L.mu.iunlock) (ds:=[]) (cs:=b.at ⟨A2,[]⟩ (PY L).todo :: cs) (z:=none) H.lib.runUnderlying_t21 H.lib.sizeOf_t21 H.lib.isAgg_t21 (ad4 L) hz4 ha4 k2 (by show (P.funcs[L.mu.iunlock]?).any (·.norace)=true;rw [H.lib.f_iunlock];exact PZ L) (ad:=mA Mu) jI (v:=v) (fun u hu=>by cases hu)
 have hw:∀w:World,∃g',I w→Behind (n0 Mu) 21 (base L.mu.iunlock) [] (b.at ⟨A2,[]⟩ (PY L).todo :: cs) (next (ulL L) none) g' ∧ stepG P false (G ((base L.mu.iunlock).at ⟨A4,[]⟩ (ulL L).todo) (b.at ⟨A2,[]⟩ (PY L).todo :: cs)) w = .go g' w #[]:=fun w=>by
   by_cases hw:I w
   ·obtain ⟨v,hv⟩:=hI w hw
    obtain ⟨g',h1,h2⟩:=ld v
    exact ⟨g',fun _=>⟨h1,h2 w hv⟩⟩
   ·exact ⟨G (base 0) [],fun h=>absurd h hw⟩
 refine .step rfl (fun w=>Classical.choose (hw w)) (fun _=>#[]) (fun w hi=>⟨(Classical.choose_spec (hw w) hi).2,by simp⟩) fun w hi=>?_
 have b5:=(Classical.choose_spec (hw w) hi).1
 generalize Classical.choose (hw w)=g5 at b5
 show ag P false I X0 _ 0 g5
 refine (aib L _ _ _ _ _ _).walk JY wZ k2 b5 fun g6 b6=>?_
 obtain ⟨A6,hz6,ha6,rfl⟩:=b6
 obtain ⟨g7,b7,s7⟩:=NZ (P:=P) (m:=false) (b:=base L.mu.iunlock) (ds:=[]) (cs:=b.at ⟨A2,[]⟩ (PY L).todo :: cs) (ad5 L) hz6 ha6 k2 H.lib.underlying_tPIMutex H.lib.underlying_tUP H.lib.room_tIMutex (ad:=mA Mu) jC
 refine .step rfl (fun _=>g7) (fun _=>#[]) (fun w hi=>⟨?_,by simp⟩) fun w _=>?_
 · obtain ⟨v,hv⟩:=hI w hi
   exact s7 w _ hv
 show ag P false I X0 _ 0 g7
 refine (aic L _ _ _ _ _ _).walk JY wZ k2 b7 fun g8 b8=>.stop ⟨rfl,?_⟩
 obtain ⟨A8,hz8,ha8,rfl⟩:=b8
 obtain ⟨g9,b9,s9⟩:=Es (P:=P) (m:=false) (b:=base L.mu.iunlock) (ds:=[]) (cs:=b.at ⟨A2,[]⟩ (PY L).todo :: cs) .releaseMerge (by simp) (z:=none) rfl (ad6 L) hz8 ha8 k2 H.lib.f_relMerge (aaq L) (aar L) (aas L) (aat L) (ad:=mA Mu) jC
 refine ⟨rfl,g9,fun w _=>s9 w,?_⟩
 refine (aid L _ _ _ _ _ _).walk JY wZ k2 b9 fun g10 b10=>.stop ⟨rfl,?_⟩
 obtain ⟨A10,aiq,air,rfl⟩:=b10
 obtain ⟨g11,b11,s11⟩:=wQ (P:=P) (m:=false) (b:=base L.mu.iunlock) (ds:=[]) (cs:=b.at ⟨A2,[]⟩ (PY L).todo :: cs) .disable (by simp) (z:=none) rfl (ad7 L) aiq air k2 H.lib.f_disable (N7 L) (N8 L) (N9 L) (Oa L)
 refine ⟨rfl,g11,fun w _=>s11 w,gG.idle ?_⟩
 refine (aie L _ _ _ _ _ _).walk JY wZ k2 b11 fun g12 b12=>.stop ?_
 obtain ⟨A12,ais,ait,rfl⟩:=b12
 have fin:∀ {o:Wd} {g},Behind (nu Mu 0 0 0 o 0) 21 (base L.mu.iunlock) [] (b.at ⟨A2,[]⟩ (PY L).todo :: cs) (ulN L) g→ag P false I X0 (UeQ P I X) 1 g:=fun {o} {g} hg=>by
   have hg:=aip (o' :=o0) (WM L) hg
   obtain ⟨A,hz,ha,rfl⟩:=hg
   obtain ⟨g',hb,hst⟩:=wQ (P:=P) (m:=false) (b:=base L.mu.iunlock) (ds:=[]) (cs:=b.at ⟨A2,[]⟩ (PY L).todo :: cs) .enable (by simp) (z:=none) rfl (ad9 L) hz ha k2 H.lib.f_enable (TC L) (TD L) (TE L) (TF L)
   refine .stop ⟨rfl,rfl,g',fun w _=>hst w,hX _ ?_⟩
   refine (aij L _ _ _ _ _ _).walk JY wZ k2 hb fun g1 b1=>?_
   obtain ⟨A',_,_,rfl⟩:=b1
   refine rV (YB L) hz2 ha2 H.lib.f_iunlock (aea L) (.inl rfl) fun g1 b1=>?_
   exact (ah9 L).walk hTM oV hk b1 fun g2 b2=>.stop ⟨rfl,b2⟩
 refine ⟨rfl,rfl,rfl,fun e=>(by cases e),fun w m q hw hm hf=>.inr ?_⟩
 obtain ⟨eP,hnB,hq1,hwf,hL⟩:=hf
 obtain ⟨v,hv⟩:∃v:Wd,v=⟨0,m.W,m.S,m.n⟩:=⟨_,rfl⟩
 have hvs:Small v:=by rw [hv];exact ⟨⟨Nat.zero_le _,eP.W,eP.S⟩,by dsimp only;omega⟩
 have hTv:=Oh (Mu:=Mu) H hvs
 have hTu:=wR H (Mu:=Mu) (nw:=0) hvs.1 hvs.2
 have aee:Agree (nu Mu 0 0 0 v 0) (YA L).env A12:=qj r4 (WN L) Ey ait
 have hval:Value.int .i32 (IntKind.i32.wrap ((m.num:Int) + -1))=(E.v 4).den (nu Mu 0 0 0 v 0):=by
   rw [YD eP (by omega) hL,←hv];exact rQ.symm
 obtain ⟨g',hb,hst⟩:=SY (P:=P) (m:=false) (b:=base L.mu.iunlock) (ds:=[]) (cs:=b.at ⟨A2,[]⟩ (PY L).todo :: cs) (z:=some (.v 4)) (v:=(m.num:Int)) (ad8 L) ais aee k2 H.lib.f_add32 (NH L) (NI L) (NJ L) (NK L) (ad:=mA Mu) jI PM (fun y hy=>by cases hy;exact hval)
 have hgo:=hst w hm.state (hm.thaw 0)
 have hset:=hm.setState (m' :=v) (v:=IntKind.i32.wrap ((m.num:Int) + -1)) (by rw [YD eP (by omega) hL,hv])
 have hS:=eP.S
 have hW:=eP.W
 have slow:∀ {E:Nat→Goroutine→Prop},v.num≠0→(∀g,(∃Ud,(∀g,AtR L Ud 1 g→ag P false I X0 (UeQ P I X) 1 g)∧BhU L Ud (nu Mu 0 0 0 v 0) (WC L) g)→ag P false I X0 E 1 g)→ag P false I X0 E 1 g' :=fun {E} hnz kk=>by
   have e1:(v.num != 0)=true:=by simpa using hnz
   rw [e1] at hTv
   refine (aif L _ _ _ _ _).walk hTv wZ k2 hb fun g1 b1=>?_
   obtain ⟨A1,hz1,ha1,rfl⟩:=b1
   refine rU (YC L) hz1 ha1 k2 H.qg (aio L) (aim L) (by show 2≤43;omega) fun g2 b2=>kk _ ⟨_,fun g hg=>?_,b2⟩
   obtain ⟨_,A',t,ht,rfl⟩:=hg
   refine rV (YC L) hz1 ha1 H.qg (aeb L) (I5 ht) fun g3 b3=>?_
   exact (aii L _ _ _ _ _ _).walk hTv wZ k2 b3 fun g4 b4=>fin b4
 by_cases h1:m.S=0∧(m.W=1∨m.n=0)
 · refine ⟨.done,v,q,g',_,_,by rw [hv];exact .u0d h1,hgo,hset,uM _,DJ,fun e=>(by cases e),?_⟩
   rw [DK]
   show ag P false I X0 (UeQ P I X) 1 g'
   by_cases hz:v.num=0
   ·have e1:(v.num != 0)=false:=by simpa using hz
    rw [e1] at hTv
    exact (aih L _ _ _ _ _).walk hTv wZ k2 hb fun g1 b1=>fin b1
   ·refine slow hz fun g ⟨Ud,hx,hbx⟩=>?_
    have vL:v.L=0:=by rw [hv]
    have vS:v.S=0:=by rw [hv];exact h1.1
    by_cases hw1:m.W=1
    ·have vW:v.W=1:=by rw [hv];exact hw1
     have hT' :=hTu
     rw [lN (n1:=false) (vG vL) (DL vW) (vG vS) rfl] at hT'
     refine (ahx L _ _).walk (Ap :=nu Mu 0 0 0 v 0) hT' oU kU hbx fun g1 b1=>?_
     obtain ⟨A',_,_,rfl⟩:=b1
     exact hx _ ⟨rfl,A',_,TA L,rfl⟩
    ·have vn:v.n=0:=by rw [hv];exact h1.2.resolve_left hw1
     have hT' :=hTu
     rw [lN (n1:=false) (vG vL) rfl (vG vS) (show (v.n == 0)=true from by simpa using vn)] at hT'
     refine (ahy L _ _).walk (Ap :=nu Mu 0 0 0 v 0) hT' oU kU hbx fun g1 b1=>?_
     obtain ⟨A',_,_,rfl⟩:=b1
     exact hx _ ⟨rfl,A',_,TA L,rfl⟩
 · have Ue:∀ {y:Lk},(∀Ud g,BhU L Ud (nu Mu 0 0 0 v 0) (WC L) g→ag P false I X0 (AtU L Mu Ud y) 1 g)→v.num≠0→gG P I tM Mu B (ag P false I X0 (UeQ P I X)) y 1 g' :=fun {y} hy hnz=>by
    refine gG.pre (slow hnz fun g ⟨Ud,hx,hbx⟩=>.stop ?_)
    exact ⟨RU P L I Mu Ud,fun y d g hr=>hr.mono fun d g k=>WE H hB hx k,hy Ud g hbx⟩
   have vL:v.L=0:=by rw [hv]
   by_cases hs1:m.S=1
   ·have vS:v.S=1:=by rw [hv];exact hs1
    have hnz:v.num≠0:=by unfold Wd.num;omega
    refine ⟨.us,v,q,g',_,_,by rw [hv];exact .u0s hs1,hgo,hset,uM _,DJ,fun e=>(by cases e),?_⟩
    rw [DK]
    refine Ue (y:=.us) (fun Ud g hbx=>?_) hnz
    have hT' :=hTu
    rw [lN (n1:=false) (vG vL) rfl (DL vS) rfl] at hT'
    exact (ahA L _ _ _).walk (Ap :=nu Mu 0 0 0 v 0) hT' oU kU hbx fun g1 b1=>.stop ⟨rfl,v,hvs,.inr b1⟩
   ·have hs0:m.S=0:=by omega
    have hw0:m.W=0∧0 < m.n:=by
     refine ⟨?_,?_⟩
     ·have:¬m.W=1:=fun e=>h1 ⟨hs0,.inl e⟩
      omega
     ·have:¬m.n=0:=fun e=>h1 ⟨hs0,.inr e⟩
      omega
    have vS:v.S=0:=by rw [hv];exact hs0
    have vW:v.W=0:=by rw [hv];exact hw0.1
    have vn:0 < v.n:=by rw [hv];exact hw0.2
    have hnz:v.num≠0:=by unfold Wd.num;omega
    refine ⟨.uc v,v,q,g',_,_,by rw [hv];exact .u0c ⟨hs0,hw0⟩,hgo,hset,uM _,DJ,fun e=>(by cases e),?_⟩
    rw [DK]
    refine Ue (y:=.uc v) (fun Ud g hbx=>?_) hnz
    have hT' :=hTu
    rw [lN (n1:=false) (vG vL) (vG vW) (vG vS) (show (v.n == 0)=false from by simp;omega)] at hT'
    exact (ahz L _).walk (Ap :=nu Mu 0 0 0 v 0) hT' oU kU hbx fun g1 b1=>.stop ⟨rfl,hvs,b1⟩
end
end Go.Mx
namespace Go.Mx
open Go.Ren
open Go.Conc hiding Goes mem_ofEvents
open Go.ConcN (sumTo upd upd_same upd_ne RelBy get_map_set get_map_set_same WgLive PermW)
open Go.Conc.Lib (WgLink)
open Go.ConcR (KK WgAt stA smA rd wr g_of_ofEvents loc_of_ofEvent)
section
variable{C Mu n n0 B:Nat}{t u:Trace}{W:Nat→Prop}{O D:Nat→Nat→Prop}{i:Nat}{fr:Prop}
def FreeTok(C Mu n0:Nat)(t:Trace)(n:Nat):Prop:=∀i x,touchAt t i=some x→inB (· = C) x.loc→(∀g,g < n→(g=0∨n0≤g)→Knows t g i)∨∃r,t.act? r=some (.mark (.releaseMerge (stA Mu)))∧t.heard r∧Before t i r
theorem BJ{z:MemOp}(hn:z.act.touch? = none){i:Nat}{x:Touch}(h:touchAt (t ++ #[z]) i=some x):touchAt t i=some x:=by
 obtain ⟨y,hy,hyx⟩:=touch_of h
 rcases getElem?_append_cases hy with ⟨_,h1⟩|⟨_,h1⟩
 · rw [touchAt_of h1];exact hyx
 · simp at h1;subst h1;rw [hn] at hyx;cases hyx
theorem FreeTok.app(h:FreeTok C Mu n0 t n)(hu:∀op∈u,∀x,op.act.touch? = some x→¬inB (· = C) x.loc):FreeTok C Mu n0 (t ++ u) n:=by
 intro i x hx hl
 obtain ⟨y,hy,hyx⟩:=touch_of hx
 rcases getElem?_append_cases hy with ⟨hi,h1⟩|⟨_,h1⟩
 · rcases h i x (by rw [touchAt_of h1];exact hyx) hl with k|⟨r,h2,h3,h4⟩
   ·exact .inl fun g hg h0=>(k g hg h0).app u
   ·have hr:=lt_of_act? h2
    exact .inr ⟨r,by rw [act?_old hr];exact h2,(heard_old hr).2 h3,h4.app u⟩
 · exact absurd hl (hu y h1 x hyx)
theorem FreeTok.acquire(h:FreeTok C Mu n0 t n){z:MemOp}(hg:z.g < n)(hg0:n0≤z.g)(hz:z.act = .mark (.acquire (stA Mu)))(hd:Go.Conc.Deaf t z.g=0)(hr:NoRelease (stA Mu) t):∀l,inB (· = C) l→Perm (t ++ #[z]) z.g l:=by
 intro l hl i x hx e
 have hn:z.act.touch? = none:=by rw [hz];rfl
 have hq:(t ++ #[z])[t.size]? = some z:=by simp
 have hnr:NoRelease (stA Mu) (t ++ #[z]):=hr.app fun op hop=>by simp at hop;subst hop;rw [hz];simp
 rcases h i x (BJ hn hx) (e ▸ hl) with hk|⟨p,h1,h2,h3⟩
 · exact (hk z.g hg (.inr hg0)).app _
 · have hp:=lt_of_act? h1
   have edge:HappensBefore (t ++ #[z]) p t.size:=.single (.inr ⟨.marked hp (.inr (by rw [act?_old hp];exact h1)) (by rw [act?_of hq,hz]) (fun k _ _=>hnr k),(heard_old hp).2 h2,
    ⟨z.g,by simp [Trace.g?],by rw [deaf_old (Nat.le_refl _)];exact hd⟩⟩)
   exact ⟨t.size,z,hq,rfl,.inr ((h3.app #[z]).hb edge)⟩
theorem FreeTok.release{y:MemOp}(hP:∀l,inB (· = C) l→Perm t y.g l)(hy:y.act = .mark (.releaseMerge (stA Mu)))(hd:Go.Conc.Deaf t y.g=0):FreeTok C Mu n0 (t ++ #[y]) n:=by
 intro i x hx hl
 have hn:y.act.touch? = none:=by rw [hy];rfl
 have hq:(t ++ #[y])[t.size]? = some y:=by simp
 refine .inr ⟨t.size,by rw [act?_of hq,hy],⟨y.g,by simp [Trace.g?],by rw [deaf_old (Nat.le_refl _)];exact hd⟩,.inr ?_⟩
 exact (hP x.loc hl i x (BJ hn hx) rfl).hb_new (Nat.le_refl _) hq rfl
theorem FreeTok.fork(h:FreeTok C Mu n0 t n)(hn:0 < n){x y:MemOp}(hx:x.g=0∧x.act = .go n)(hy:y.g=n∧y.act = .start)(h0:Go.Conc.Deaf t 0=0)(hk:Go.Conc.Deaf t n=0):FreeTok C Mu n0 (t ++ #[x,y]) (n+1):=by
 have hnt:∀op ∈ #[x,y],∀b,op.act.touch? = some b→False:=fun op hop b hb=>by rw [BK hx.2 hy.2 hop] at hb;cases hb
 intro i a ha hl
 obtain ⟨z,hz,hza⟩:=touch_of ha
 rcases getElem?_append_cases hz with ⟨_,hz'⟩|⟨_,hzu⟩
 · rcases h i a (by rw [touchAt_of hz'];exact hza) hl with k|⟨r,h2,h3,h4⟩
   ·refine .inl fun g hg h00=>?_
    by_cases e:g=n
    ·subst e;exact Go.ConcN.fork_knows hx hy h0 hk (k 0 hn (.inl rfl))
    ·exact (k g (by omega) h00).app _
   ·have hr:=lt_of_act? h2
    exact .inr ⟨r,by rw [act?_old hr];exact h2,(heard_old hr).2 h3,h4.app _⟩
 · exact (hnt z hzu a hza).elim
theorem FreeTok.one(h:∀l,inB (· = C) l→Perm t 0 l):FreeTok C Mu n0 t n0:=fun i x hx hl=>.inl fun g hg h0=>by
 obtain rfl:g=0:=by omega
 exact h x.loc hl i x hx rfl
def EJ(O:Nat→Nat→Prop)(i C:Nat)(k b:Nat):Prop:=O k b∨(k=i∧b=C)
def Ja(O:Nat→Nat→Prop)(i C:Nat)(k b:Nat):Prop:=O k b∧¬(k=i∧b=C)
theorem TI.take(h:TI W O D n B t)(hP:∀l,inB (· = C) l→Perm t i l):TI W (EJ O i C) D n B t:=by
 refine ⟨h.quiet,fun k hk l hl=>?_,h.rd,h.nr,h.gs,h.low⟩
 rcases BL (T:=O k) (U:=fun b=>k=i∧b=C) (fun b hb=>hb) hl with h1|h1
 · exact h.own k hk l h1
 · have:k=i∧inB (· = C) l:=by
    cases l<;>first|exact h1|exact h1.elim
   obtain ⟨rfl,h2⟩:=this
   exact hP l h2
theorem TI.give(i:Nat)(h:TI W O D n B t):TI W (Ja O i C) D n B t:=⟨h.quiet,fun k hk l hl=>h.own k hk l (gZ (fun b hb=>hb.1) hl),h.rd,h.nr,h.gs,h.low⟩
theorem Own.take(h:Own (fun b=>W b∨(True∧b=C)) O D n B)(hi:i < n)(hW:¬W C)(fr:Prop)(hf:¬fr):Own (fun b=>W b∨(fr∧b=C)) (EJ O i C) D n B:=by
 have hC:∀k,k < n→¬O k C:=fun k hk x=>h.ow k C hk x (.inr ⟨trivial,rfl⟩)
 refine ⟨?_,?_,?_,fun k b hk hd hx=>?_,?_,h.Uf,fun b hb=>?_⟩
 · rintro a c b ha hc (x|⟨e1,e2⟩) (y|⟨e3,e4⟩)
   ·exact h.oo a c b ha hc x y
   ·exact absurd (e4 ▸ x) (hC a ha)
   ·exact absurd (e2 ▸ y) (hC c hc)
   ·exact e1.trans e3.symm
 · rintro a c b ha hc (x|⟨rfl,rfl⟩) hd
   ·exact h.od a c b ha hc x hd
   ·exact h.dw c b hc hd (.inr ⟨trivial,rfl⟩)
 · rintro a b ha (x|⟨rfl,rfl⟩) (y|⟨y,_⟩)
   ·exact h.ow a b ha x (.inl y)
   ·exact hf y
   ·exact hW y
   ·exact hf y
 · exact h.dw k b hk hd (hx.imp id fun y=>⟨trivial,y.2⟩)
 · rintro a b ha (x|⟨rfl,rfl⟩)
   ·exact h.EK a b ha x
   ·exact h.vP b (.inr ⟨trivial,rfl⟩)
 · exact h.vP b (hb.imp id fun y=>⟨trivial,y.2⟩)
theorem Own.give(h:Own (fun b=>W b∨(False∧b=C)) O D n B)(hi:i < n)(hO:O i C)(hlt:C < B)(fr:Prop):Own (fun b=>W b∨(fr∧b=C)) (Ja O i C) D n B:=by
 refine ⟨fun a c b ha hc x y=>h.oo a c b ha hc x.1 y.1,fun a c b ha hc x=>h.od a c b ha hc x.1,fun a b ha x y=>?_,fun a b ha hd y=>?_,fun a b ha x=>h.EK a b ha x.1,h.Uf,fun b hb=>?_⟩
 · rcases y with y|⟨_,y⟩
   ·exact h.ow a b ha x.1 (.inl y)
   ·subst y
    exact x.2 ⟨h.oo a i _ ha hi x.1 hO,rfl⟩
 · rcases y with y|⟨_,rfl⟩
   ·exact h.dw a b ha hd (.inl y)
   ·exact h.od i a b hi ha hO hd
 · rcases hb with y|⟨_,rfl⟩
   ·exact h.vP b (.inl y)
   ·exact hlt
end
def free(j:Nat)(wt:Nat→WT):Prop:=∀i,i < j→¬holds (wt i)
namespace Ph
variable(p:Ph)
def fold(order:List Nat):dA:=order.foldl (fun a k=>p.f k a) p.v0
def Cell(j:Nat)(wt:Nat→WT)(w:World):Prop:=∃order:List Nat,order.Nodup∧(∀k,k∈order↔k < j∧p.locks k=true∧past (wt k))∧p.V (p.fold order)∧(∀k,k < j→∀v,wt k = .cr v→v=p.fold order) ∧
 ((∀k,k < j→∀v,wt k ≠ .cr v)→CellIs p.oe p.C (p.fold order) w)
def locking:WT→Prop
 | .work | .fin _=>False
 | _=>True
def uJ(i:Nat)(wt:WT)(x:Pos):Prop:=(∃sv,wt = .IL (.s1 sv))∧p.St i wt x x.d x.g
structure dH(W:Nat→Prop)(j:Nat)(tag:dZ)(x0:Pos)(bl:Bool)(wt:Nat→WT)(bw:Nat→Bool)(xs ls:Nat→Pos)(O D:Nat→Nat→Prop)(gs:Array Goroutine)(w:World)(t:Trace):Prop where
 hn0:1≤p.n0
 size:gs.size=p.n0+j
 main:gs[0]? = some (if bl then { x0.g with status:=.blocked } else x0.g)
 blk:bl=true→(∃gT,tag = .w3 gT∧M3 p.P p.L p.Wg gT x0.d x0.g)∧∃i,i < j∧2≤fH (wt i)
 seat:p.jY tag x0
 O0:x0.O=O 0
 D0:x0.D=D 0
 rely:au x0.O x0.D x0.w w
 deaf:Go.Conc.Deaf t 0=x0.d
 wk:∀i,i < j→gs[p.n0+i]? = some (if bw i then { (xs i).g with status:=.blocked } else (xs i).g)∧p.dh i (wt i) (xs i)∧Go.Conc.Deaf t (p.n0+i)=(xs i).d
 bs:∀i,i < j→bw i=true→p.uJ i (wt i) (xs i)
 wO:∀i,i < j→early (wt i)→(xs i).O=O (p.n0+i)∧(xs i).D=D (p.n0+i)∧au (O (p.n0+i)) (D (p.n0+i)) (xs i).w w
 H6:∀i,i < j→locking (wt i)→p.locks i=true
 ph:∀i,i < j→phase (wt i)
 lv:∀k,1≤k→k < p.n0→gs[k]? = some (ls k).g∧(∃q,QuitsD p.P q (ls k).d (ls k).g)∧Go.Conc.Deaf t k=(ls k).d∧Gone W t k
 ti:TI W O D (p.n0+j) w.heap.size t
 own:Own (fun b=>W b∨(free j wt∧b=p.C)) O D (p.n0+j) w.heap.size
 hW:W p.Wg∧W p.Mu∧p.Wg≠p.Mu∧¬W p.C∧p.C < w.heap.size
 tok:free j wt→FreeTok p.C p.Mu p.n0 t (p.n0+j)
 hold:∀i,i < j→holds (wt i)→O (p.n0+i) p.C
 cell:p.Cell j wt w
 over:∀i,i < j→fH (wt i)≤5→∃r,Over (stA p.Wg) W t (p.n0+i) r
 norel:∀a,NoRelease a t
 mi:∃m q,MuAt p.tM p.Mu w m q∧MI p.B j (fun i=>dW (wt i)) m q∧∀i,i < j→bw i=true→q=0
 md:∃a b,WgAt p.L.tWg p.Wg w a b∧Md j (fun i=>fH (wt i)) tag a b
 left:BM p.n j tag
variable{p}{W:Nat→Prop}{j:Nat}{tag:dZ}{x0:Pos}{bl:Bool}{wt:Nat→WT}{bw:Nat→Bool}{xs ls:Nat→Pos}{O D:Nat→Nat→Prop}{gs:Array Goroutine}{w w':World}{sl:Option (Nat×Nat)}{t:Trace}
theorem dH.yx(h:p.dH W j tag x0 bl wt bw xs ls O D gs w t):Own W O D (p.n0+j) w.heap.size:=h.own.less fun _=>.inl
theorem dH.inv(h:p.dH W j tag x0 bl wt bw xs ls O D gs w t):p.I w:=by
 obtain ⟨a,b,h1,_⟩:=h.md
 obtain ⟨m,q,h2,_⟩:=h.mi
 exact ⟨⟨a,b,h1⟩,_,_,h2⟩
theorem kD{i:Nat}{s:WT}{x:Pos}{d:Nat}{g:Goroutine}(h:p.St i s x d g):g.status = .running:=by
 cases s<;>first|exact h.2.1|exact h.2.1.1|exact h.elim
theorem qA{i:Nat}{s:WT}{x:Pos}(h:p.dh i s x):(x.g.status = .running∧2≤fH s)∨((x.g.status = .running∨x.g.status = .finished)∧s = .fin 1):=by
 match s,h with
 | .work,h=>exact .inl ⟨dM.status (fun _ _ _ _ x=>x.1) h,by simp [fH]⟩
 | .cr v,h=>exact .inl ⟨dM.status (fun _ _ _ _ x=>x.2.1) h,by simp [fH]⟩
 | .fin 7,h=>exact .inl ⟨ag.status (fun _ _ x=>x.2.1) h,by simp [fH]⟩
 | .fin 5,h=>exact .inl ⟨ag.status (fun _ _ x=>x.2.1) h,by simp [fH]⟩
 | .fin 4,h=>exact .inl ⟨ag.status (fun _ _ x=>x.2.1) h,by simp [fH]⟩
 | .fin 3,h=>exact .inl ⟨ag.status (fun _ _ x=>x.2.1) h,by simp [fH]⟩
 | .fin 2,h=>exact .inl ⟨ag.status (fun _ _ x=>x.2.1) h,by simp [fH]⟩
 | .fin 1,h=>obtain ⟨q,hq⟩:=h;exact .inr ⟨hq.status,rfl⟩
 | .fin 0,h=>exact h.elim
 | .fin 6,h=>exact h.elim
 | .fin (s+8),h=>exact h.elim
 | .IL y,h=>exact .inl ⟨ag.status (fun _ _ x=>kD (i:=i) (s:=.IL y) x) h,by simp [fH]⟩
 | .en,h=>exact .inl ⟨ag.status (fun _ _ x=>kD (i:=i) (s:=.en) x) h,by simp [fH]⟩
 | .ac,h=>exact .inl ⟨ag.status (fun _ _ x=>kD (i:=i) (s:=.ac) x) h,by simp [fH]⟩
 | .rl,h=>exact .inl ⟨ag.status (fun _ _ z=>kD (i:=i) (s:=.rl) (x:=x) z) h,by simp [fH]⟩
 | .ds,h=>exact .inl ⟨ag.status (fun _ _ z=>kD (i:=i) (s:=.ds) (x:=x) z) h,by simp [fH]⟩
 | .Nu y,h=>exact .inl ⟨ag.status (fun _ _ z=>kD (i:=i) (s:=.Nu y) (x:=x) z) h,by simp [fH]⟩
 | .ue,h=>exact .inl ⟨ag.status (fun _ _ z=>kD (i:=i) (s:=.ue) (x:=x) z) h,by simp [fH]⟩
theorem jL{tag:dZ}{x:Pos}(h:p.jY tag x):x.g.status = .running:=by
 cases tag with
 | sp r s=>
   rcases r with _|r
   ·rcases s with _|_|s
    ·exact h.elim
    ·exact dM.status (fun _ _ _ _ x=>xe x) h
    ·exact h.elim
   ·rcases s with _|_|s
    ·exact dM.status (fun _ _ _ _ x=>x.2.1) h
    ·exact dM.status (fun _ _ _ _ x=>x.2.1) h
    ·exact h.elim
 | w1 v gT A=>exact ag.status (fun _ _ x=>x.2.1) h.2.2
 | w2 v gT A=>exact ag.status (fun _ _ x=>x.2.1) h.2.2
 | w3 gT=>exact ag.status (fun _ _ x=>x.2.1) h.2
 | w4 gT=>exact ag.status (fun _ _ x=>x.2.1) h.2
 | acq gT=>exact ag.status (fun _ _ x=>x.2.1) h.2
theorem dH.at(h:p.dH W j tag x0 bl wt bw xs ls O D gs w t)(d:Nat):p.dH W j tag x0 bl wt bw xs ls O D gs (w.at d) t:=
 ⟨h.hn0,h.size,h.main,h.blk,h.seat,h.O0,h.D0,h.rely.trans (.draw w d),h.deaf,h.wk,h.bs,fun i hi hs=>let ⟨x,y,z⟩:=h.wO i hi hs;⟨x,y,z.trans (.draw w d)⟩,h.H6,h.ph,h.lv,h.ti,h.own,h.hW,h.tok,h.hold,h.cell,h.over,h.norel,h.mi,h.md,h.left⟩
theorem dH.awake(h:p.dH W j tag x0 bl wt bw xs ls O D gs w t):∀g∈gs,awake g:=by
 intro g hg
 obtain ⟨k,hk⟩:=Array.mem_iff_getElem?.1 hg
 rcases Nat.eq_zero_or_pos k with rfl|hpos
 · rw [h.main] at hk
   cases hk
   intro tm
   cases bl with
   |true=>simp
   |false=>simp [jL h.seat]
 · have hlt:k < p.n0+j:=by rw [←h.size];exact (Array.getElem?_eq_some_iff.1 hk).1
   rcases Nat.lt_or_ge k p.n0 with h1|h1
   ·obtain ⟨h2,⟨q,h3⟩,_⟩:=h.lv k hpos h1
    rw [h2] at hk
    cases hk
    intro tm
    rcases h3.status with e|e<;>rw [e]<;>simp
   ·obtain ⟨i,rfl⟩:∃i,k=p.n0+i:=⟨k - p.n0,by omega⟩
    obtain ⟨h2,h3,_⟩:=h.wk i (by omega)
    rw [h2] at hk
    cases hk
    intro tm
    cases bw i with
    |true=>simp
    |false=>
     simp only [Bool.false_eq_true,if_false]
     rcases qA h3 with ⟨e,_⟩|⟨e|e,_⟩<;>rw [e]<;>simp
theorem dH.WO(h:p.dH W j tag x0 bl wt bw xs ls O D gs w t):∃(i:Nat) (g:Goroutine),gs[i]? = some g∧g.status = .running:=by
 cases hb:bl with
 | false=>
   have:=h.main
   rw [hb] at this
   exact ⟨0,_,this,jL h.seat⟩
 | true=>
   obtain ⟨_,i,hi,h2⟩:=h.blk hb
   have go:∀k,k < j→2≤fH (wt k)→bw k=false→∃(i:Nat) (g:Goroutine),gs[i]? = some g∧g.status = .running:=by
    intro k hk h2 hf
    obtain ⟨h3,h4,_⟩:=h.wk k hk
    rw [hf] at h3
    rcases qA h4 with ⟨e,_⟩|⟨_,e⟩
    ·exact ⟨_,_,h3,e⟩
    ·rw [e] at h2;simp [fH] at h2
   cases hbi:bw i with
   |false=>exact go i hi h2 hbi
   |true=>
    obtain ⟨⟨sv,e1⟩,_⟩:=h.bs i hi hbi
    obtain ⟨m,q,_,BN,hq⟩:=h.mi
    have hq0:=hq i hi hbi
    subst hq0
    obtain ⟨k,hk,ha⟩:=BN.alive hi (sv:=sv) (by rw [e1];rfl)
    refine go k hk ?_ ?_
    ·revert ha;cases wt k<;>simp [dW,act,fH]
    ·cases hbk:bw k with
     |false=>rfl
     |true=>
      obtain ⟨⟨sv',e2⟩,_⟩:=h.bs k hk hbk
      rw [e2] at ha
      exact ha.elim
theorem dH.pick(h:p.dH W j tag x0 bl wt bw xs ls O D gs w t):∃(i:Nat) (g:Goroutine) (d:Nat) (sl':Option (Nat×Nat)),gs[i]? = some g∧g.status = .running∧stepT p.P (crowd gs w sl)=runT p.P (crowd gs (w.at d) sl') i:=
 crowd_pick h.awake h.WO
theorem P6{s:WT}(h:holds s):cO (dW s)=1:=by cases s<;>first|rfl|exact h.elim
theorem dH.one(h:p.dH W j tag x0 bl wt bw xs ls O D gs w t){i k:Nat}(hi:i < j)(hk:k < j)(h1:cO (dW (wt i))=1)(h2:cO (dW (wt k))=1):i=k:=by
 obtain ⟨m,q,_,BN,_⟩:=h.mi
 have hL:=BN.bits.L
 have ho:=BN.own
 apply Classical.byContradiction
 intro hne
 have e:=iV (lk:=fun i=>dW (wt i)) cO .out hi
 have l:=mV (lk:=upd (fun i=>dW (wt i)) i .out) cO hk
 rw [upd_ne _ _ (fun e=>hne e.symm)] at l
 rw [h1] at e
 rw [h2] at l
 simp only [cO] at e
 omega
end Ph
end Go.Mx
namespace Go.Mx
open Go.Ren
open Go.Conc hiding Goes mem_ofEvents
open Go.ConcN (sumTo upd upd_same upd_ne RelBy get_map_set get_map_set_same WgLive PermW)
open Go.Conc.Lib (WgLink)
open Go.ConcR (KK WgAt stA smA rd wr g_of_ofEvents loc_of_ofEvent)
theorem uk{W:Nat→Prop}{C:Nat}{a b:Prop}(h:a↔b):(fun x=>W x∨(a∧x=C))=fun x=>W x∨(b∧x=C):=by
 funext x
 rw [propext h]
theorem Ug{W O D:Nat→Prop}{B k C:Nat}{es:Array Event}{fn:FuncId}{pos:String}(hev:∀e∈es,fK (Gt W k) B O D e)(h1:¬W C)(h2:¬O C)(h3:¬D C) :
   ∀op∈MemOp.ofEvents k fn pos es,∀x,op.act.touch? = some x→¬inB (· = C) x.loc:=by
 intro op hop x hx hl
 rw [ofEvents_eq] at hop
 obtain ⟨e,he,rfl⟩:=Array.mem_map.1 hop
 rcases hev e he with ⟨k1,_⟩|k1
 · obtain ⟨b,b1,b2⟩:=jM (k1 x hx).1 hl
   exact h1 (b2 ▸ b1)
 · obtain ⟨loc,wr,sy⟩:=e
   cases loc with
   |cell a=>
    simp only [MemAct.ofEvent,MemAct.touch?,Option.some.injEq] at hx
    subst hx
    have hl':a.block=C:=hl
    rcases k1 with k1|⟨k1,_⟩
    ·exact h2 (hl' ▸ k1)
    ·exact h3 (hl' ▸ k1)
   |obj r=>
    have hr:x.loc = .obj r:=by
     cases wr<;>cases sy<;>simp only [MemAct.ofEvent,MemAct.touch?,Option.some.injEq,reduceCtorEq] at hx
     all_goals (subst hx;rfl)
    rw [hr] at hl
    have hl':r=C:=hl
    rcases k1 with k1|⟨k1,_⟩
    ·exact h2 (hl' ▸ k1)
    ·exact h3 (hl' ▸ k1)
   |mark m=>
    have hm:uQ m=true:=k1
    cases m<;>first|(simp [MemAct.ofEvent,MemAct.touch?] at hx;done)|cases hm
   |output=>
    simp only [MemAct.ofEvent,MemAct.touch?,Option.some.injEq] at hx
    subst hx
    exact hl
   |_=>exact absurd k1 id
namespace Ph
variable{p:Ph}{W:Nat→Prop}{j:Nat}{tag:dZ}{x0:Pos}{bl:Bool}{wt:Nat→WT}{bw:Nat→Bool}{xs ls:Nat→Pos}{O D:Nat→Nat→Prop}{gs:Array Goroutine}{w w':World}{sl:Option (Nat×Nat)}{t:Trace}
theorem BO(h:p.dH W j tag x0 bl wt bw xs ls O D gs w t):bl=true→x0.g.offers=none:=fun e=>by
 obtain ⟨⟨gT,_,h1⟩,_⟩:=h.blk e
 exact h1.2.2.1
theorem Gu{i:Nat}{s:WT}{x:Pos}(h:p.uJ i s x):x.g.status = .running∧x.g.offers=none:=by
 obtain ⟨⟨sv,rfl⟩,h2⟩:=h
 exact ⟨h2.2.1,h2.2.2.1⟩
theorem dH.sleepers(h:p.dH W j tag x0 bl wt bw xs ls O D gs w t)(g g':Goroutine)(w':World):∃gy:Nat→Bool,∀k,k < j→woken p.P g g' w' (if bw k then { (xs k).g with status:=.blocked } else (xs k).g)=(if gy k then { (xs k).g with status:=.blocked } else (xs k).g)∧(gy k=true→bw k=true) ∧
   (mayWake p.P g=true→(g'.status = .running∨g'.status = .finished)→gy k=false):=by
 have:∀k,∃b':Bool,k < j→woken p.P g g' w' (if bw k then { (xs k).g with status:=.blocked } else (xs k).g)=(if b' then { (xs k).g with status:=.blocked } else (xs k).g)∧(b' = true→bw k=true) ∧
   (mayWake p.P g=true→(g'.status = .running∨g'.status = .finished)→b' = false):=by
   intro k
   by_cases hk:k < j
   ·cases hb:bw k with
    |true=>
     obtain ⟨h1,h2⟩:=Gu (h.bs k hk hb)
     obtain ⟨b',k1,k2,k3⟩:=La (P:=p.P) (w' :=w') (g:=g) (g' :=g') (x:=(xs k).g) (bl:=true) h1 (fun _=>h2)
     exact ⟨b',fun _=>⟨k1,k2,k3⟩⟩
    |false=>
     refine ⟨false,fun _=>⟨?_,fun x=>(by cases x),fun _ _=>rfl⟩⟩
     simp only [Bool.false_eq_true,if_false]
     obtain ⟨_,h2,_⟩:=h.wk k hk
     rw [woken_rf]
     rcases qA h2 with ⟨x,_⟩|⟨x,_⟩
     ·exact .inl x
     ·exact x
   ·exact ⟨false,fun x=>absurd x hk⟩
 exact ⟨fun k=>Classical.choose (this k),fun k hk=>Classical.choose_spec (this k) hk⟩
theorem dH.Gv(h:p.dH W j tag x0 bl wt bw xs ls O D gs w t){i:Nat}(hi:i < j)(hbi:bw i=false){x':Pos}{es:Array Event}{s':WT}{O':Nat→Nat→Prop}
   (hgo:stepG p.P false (xs i).g w = .go x'.g w' es) (hd:x'.d=deafBehind (xs i).d es) (aA:p.dh i s' x') (hsize:w.heap.size≤w'.heap.size)
   (hrel:∀k,k < p.n0+j→k≠p.n0+i→au (O k) (D k) w w') (hO:∀k,k≠p.n0+i→O' k=O k)
   (hti:TI W O' D (p.n0+j) w'.heap.size (t ++ MemOp.ofEvents (p.n0+i) (xs i).g.frame.fn (xs i).g.frame.place es)) (hown:Own (fun b=>W b∨(free j (upd wt i s')∧b=p.C)) O' D (p.n0+j) w'.heap.size)
   (Lc:early s' → x'.O=O' (p.n0+i)∧x'.D=D (p.n0+i)∧au (O' (p.n0+i)) (D (p.n0+i)) x'.w w') (BP:locking s' → p.locks i=true) (hph:phase s')
   (htok:free j (upd wt i s')→FreeTok p.C p.Mu p.n0 (t ++ MemOp.ofEvents (p.n0+i) (xs i).g.frame.fn (xs i).g.frame.place es) (p.n0+j)) (Oi:holds s' → O' (p.n0+i) p.C) (hcell:p.Cell j (upd wt i s') w')
   (Jb:fH s' ≤ 5→∃r,Over (stA p.Wg) W (t ++ MemOp.ofEvents (p.n0+i) (xs i).g.frame.fn (xs i).g.frame.place es) (p.n0+i) r)
   (hnr:∀e∈es,∀a,e.loc ≠ .mark (.release a))
   (BN:∃m q,MuAt p.tM p.Mu w' m q∧MI p.B j (fun k=>dW (upd wt i s' k)) m q∧(q=0∨(mayWake p.P (xs i).g=true∧x'.g.status = .running)∨∀k,k < j→bw k=false))
   (hmd:∃a b,WgAt p.L.tWg p.Wg w' a b∧Md j (fun k=>fH (upd wt i s' k)) tag a b)
   (hbl:∀gz:Bool,bl=true→(mayWake p.P (xs i).g=true→(x'.g.status = .running∨x'.g.status = .finished)→gz = false)→gz = true→∃k,k < j∧2≤fH (upd wt i s' k)) :
   ∃gs' gz gy,runT p.P (crowd gs w sl) (p.n0+i)=(.next (crowd gs' w' sl),MemOp.ofEvents (p.n0+i) (xs i).g.frame.fn (xs i).g.frame.place es) ∧
    p.dH W j tag x0 gz (upd wt i s') gy (upd xs i x') ls O' D gs' w' (t ++ MemOp.ofEvents (p.n0+i) (xs i).g.frame.fn (xs i).g.frame.place es):=by
 obtain ⟨hgi,hsi,hdi⟩:=h.wk i hi
 rw [hbi] at hgi
 simp only [Bool.false_eq_true,if_false] at hgi
 have hsz:=h.size
 have hpos:p.n0+i≠0:=by have:=h.hn0;omega
 have hgo':stepG p.P ((p.n0+i) == 0) (xs i).g w = .go x'.g w' es:=by
   have:((p.n0+i) == 0)=false:=by simp;omega
   rw [this];exact hgo
 have hrun:=runT_crowd_go (P:=p.P) (sl:=sl) hgi hgo'
 obtain ⟨gz,hw1,hw2,hw3⟩:=La (P:=p.P) (w' :=w') (g:=(xs i).g) (g' :=x'.g) (jL h.seat) (BO h)
 obtain ⟨gy,hbw⟩:=h.sleepers (xs i).g x'.g w'
 have hops:∀op∈MemOp.ofEvents (p.n0+i) (xs i).g.frame.fn (xs i).g.frame.place es,op.g=p.n0+i:=g_of_ofEvents
 have aef:gy i=false:=by
   cases e:gy i with
   |false=>rfl
   |true=>have:=(hbw i hi).2.1 e;rw [hbi] at this;cases this
 refine ⟨_,gz,gy,hrun,h.hn0,by simpa using hsz,?_,fun e=>?_,h.seat,by rw [hO 0 hpos.symm];exact h.O0,h.D0,h.rely.trans (by rw [h.O0,h.D0];exact hrel 0 (by have:=h.hn0;omega) hpos.symm),?_,fun k hk=>?_,fun k hk hb=>?_,fun k hk hs=>?_,fun k hk hs=>?_,fun k hk=>?_,fun k h1 h2=>?_,hti,hown,⟨h.hW.1,h.hW.2.1,h.hW.2.2.1,h.hW.2.2.2.1,Nat.lt_of_lt_of_le h.hW.2.2.2.2 hsize⟩,htok,fun k hk hs=>?_,hcell,fun k hk hs=>?_,oZ h.norel hnr,?_,hmd,h.left⟩
 · rw [get_map_set _ _ _ _ hpos,h.main,Option.map_some,hw1]
 · obtain ⟨h1,_⟩:=h.blk (hw2 e)
   exact ⟨h1,hbl gz (hw2 e) hw3 e⟩
 · rw [Deaf_other t hpos _ hops];exact h.deaf
 · by_cases e:k=i
   ·subst e
    rw [upd_same,upd_same,aef]
    simp only [Bool.false_eq_true,if_false]
    exact ⟨get_map_set_same _ _ _ (by rw [hsz];omega),aA,by rw [Deaf_own,hdi];exact hd.symm⟩
   ·obtain ⟨h1,h2,h3⟩:=h.wk k hk
    rw [upd_ne xs _ e,upd_ne wt _ e]
    refine ⟨?_,h2,by rw [Deaf_other t (by omega) _ hops];exact h3⟩
    rw [get_map_set _ _ _ _ (by omega),h1,Option.map_some,(hbw k hk).1]
 · by_cases e:k=i
   ·subst e;rw [aef] at hb;cases hb
   ·rw [upd_ne xs _ e,upd_ne wt _ e]
    exact h.bs k hk ((hbw k hk).2.1 hb)
 · by_cases e:k=i
   ·subst e
    rw [upd_same] at hs
    rw [upd_same]
    exact Lc hs
   ·rw [upd_ne wt _ e] at hs
    obtain ⟨a1,a2,a3⟩:=h.wO k hk hs
    rw [upd_ne xs _ e,hO _ (by omega)]
    exact ⟨a1,a2,a3.trans (hrel _ (by omega) (by omega))⟩
 · by_cases e:k=i
   ·subst e;rw [upd_same] at hs;exact BP hs
   ·rw [upd_ne wt _ e] at hs;exact h.H6 k hk hs
 · by_cases e:k=i
   ·subst e;rw [upd_same];exact hph
   ·rw [upd_ne wt _ e];exact h.ph k hk
 · obtain ⟨a1,⟨q,a2⟩,a3,a4⟩:=h.lv k h1 h2
   refine ⟨?_,⟨q,a2⟩,by rw [Deaf_other t (by omega) _ hops];exact a3,a4.appNot fun op hop e=>by rw [hops op hop] at e;omega⟩
   rw [get_map_set _ _ _ _ (by omega),a1,Option.map_some,woken_rf a2.status]
 · by_cases e:k=i
   ·subst e;rw [upd_same] at hs;exact Oi hs
   ·rw [upd_ne wt _ e] at hs
    rw [hO _ (by omega)]
    exact h.hold k hk hs
 · by_cases e:k=i
   ·subst e
    rw [upd_same] at hs
    exact Jb hs
   ·rw [upd_ne wt _ e] at hs
    obtain ⟨r,hr⟩:=h.over k hk hs
    exact ⟨r,hr.appNot fun op hop e'=>by rw [hops op hop] at e';omega⟩
 · obtain ⟨m,q,h1,h2,h3⟩:=BN
   refine ⟨m,q,h1,h2,fun k hk hb=>?_⟩
   rcases h3 with h3|⟨h3,h4⟩|h3
   ·exact h3
   ·have:=(hbw k hk).2.2 h3 (.inl h4);rw [this] at hb;cases hb
   ·have:=(hbw k hk).2.1 hb;rw [h3 k hk] at this;cases this
theorem Cell.same{p:Ph}{j:Nat}{wt:Nat→WT}{w w':World}{i:Nat}{s':WT}(h:p.Cell j wt w)(hi:i < j)(hp:p.locks i=true→(past s' ↔ past (wt i)))(hc:∀v,s' = .cr v↔wt i = .cr v)
   (hw:(∃v,wt i = .cr v)∨w'.heap[p.C]? = w.heap[p.C]?):p.Cell j (upd wt i s') w' :=by
 obtain ⟨order,h1,h2,h3,h4,h5⟩:=h
 refine ⟨order,h1,fun k=>?_,h3,fun k hk v e=>?_,fun hn=>?_⟩
 · rw [h2]
   by_cases e:k=i
   ·subst e
    rw [upd_same]
    exact ⟨fun ⟨a,b,c⟩=>⟨a,b,(hp b).2 c⟩,fun ⟨a,b,c⟩=>⟨a,b,(hp b).1 c⟩⟩
   ·rw [upd_ne wt _ e]
 · by_cases e':k=i
   ·subst e'
    rw [upd_same] at e
    exact h4 k hk v ((hc v).1 e)
   ·rw [upd_ne wt _ e'] at e
    exact h4 k hk v e
 · have hno:∀k,k < j→∀v,wt k ≠ .cr v:=fun k hk v e=>by
    by_cases e':k=i
    ·subst e';exact hn k hk v (by rw [upd_same];exact (hc v).2 e)
    ·exact hn k hk v (by rw [upd_ne wt _ e'];exact e)
   rcases hw with ⟨v,e⟩|hw
   ·exact absurd e (hno i hi v)
   ·unfold CellIs;rw [hw];exact h5 hno
theorem Jc{j i:Nat}{wt:Nat→WT}{s':WT}(hi:i < j)(h:holds s' ↔ holds (wt i)):free j (upd wt i s')↔free j wt:=by
 unfold free
 refine ⟨fun x k hk=>?_,fun x k hk=>?_⟩
 · by_cases e:k=i
   ·subst e;have:=x k hk;rw [upd_same] at this;exact fun y=>this (h.2 y)
   ·have:=x k hk;rw [upd_ne wt _ e] at this;exact this
 · by_cases e:k=i
   ·subst e;rw [upd_same];exact fun y=>x k hk (h.1 y)
   ·rw [upd_ne wt _ e];exact x k hk
theorem lS{φ:Type}(g:WT→φ)(wt:Nat→WT)(i:Nat)(s':WT):(fun k=>g (upd wt i s' k))=upd (fun k=>g (wt k)) i (g s'):=by
 funext k
 by_cases e:k=i
 · subst e;rw [upd_same,upd_same]
 · rw [upd_ne _ _ e,upd_ne _ _ e]
theorem dH.worker(h:p.dH W j tag x0 bl wt bw xs ls O D gs w t){i:Nat}(hi:i < j)(hbi:bw i=false){x':Pos}{es:Array Event}{s':WT}
   (hgo:stepG p.P false (xs i).g w = .go x'.g w' es) (hG:ng (Gt W (p.n0+i)) W (O (p.n0+i)) (D (p.n0+i)) w w' es) (hd:x'.d=deafBehind (xs i).d es) (aA:p.dh i s' x') (hh:holds s' ↔ holds (wt i))
   (Lc:early s' → x'.O=grow (O (p.n0+i)) w w' ∧ x'.D=D (p.n0+i)∧au x'.O x'.D x'.w w') (BP:locking s' → p.locks i=true) (hph:phase s') (hcell:p.Cell j (upd wt i s') w')
   (Jb:fH s' ≤ 5→∃r,Over (stA p.Wg) W (t ++ MemOp.ofEvents (p.n0+i) (xs i).g.frame.fn (xs i).g.frame.place es) (p.n0+i) r)
   (hnr:∀e∈es,∀a,e.loc ≠ .mark (.release a))
   (BN:∃m q,MuAt p.tM p.Mu w' m q∧MI p.B j (fun k=>dW (upd wt i s' k)) m q∧(q=0∨(mayWake p.P (xs i).g=true∧x'.g.status = .running)∨∀k,k < j→bw k=false))
   (hmd:∃a b,WgAt p.L.tWg p.Wg w' a b∧Md j (fun k=>fH (upd wt i s' k)) tag a b)
   (hbl:∀gz:Bool,bl=true→(mayWake p.P (xs i).g=true→(x'.g.status = .running∨x'.g.status = .finished)→gz = false)→gz = true→∃k,k < j∧2≤fH (upd wt i s' k)) :
   ∃gs' gz gy O',runT p.P (crowd gs w sl) (p.n0+i)=(.next (crowd gs' w' sl),MemOp.ofEvents (p.n0+i) (xs i).g.frame.fn (xs i).g.frame.place es) ∧
    p.dH W j tag x0 gz (upd wt i s') gy (upd xs i x') ls O' D gs' w' (t ++ MemOp.ofEvents (p.n0+i) (xs i).g.frame.fn (xs i).g.frame.place es):=by
 obtain ⟨hgi,_,_⟩:=h.wk i hi
 rw [hbi] at hgi
 simp only [Bool.false_eq_true,if_false] at hgi
 have hsz:=h.size
 have hn0:=h.hn0
 have hgo':stepG p.P ((p.n0+i) == 0) (xs i).g w = .go x'.g w' es:=by
   have:((p.n0+i) == 0)=false:=by simp;omega
   rw [this];exact hgo
 have hti:=h.ti
 have hown:=h.yx
 rw [←hsz] at hti hown
 have hown' :=h.own.grow (i:=p.n0+i) (by omega) hG.size
 obtain ⟨_,ni,_⟩:=kE (sl:=sl) hgi hgo' hti hown hG
 rw [hsz] at ni
 have hself:with_ O (p.n0+i) w.heap.size w'.heap.size (p.n0+i)=grow (O (p.n0+i)) w w' :=um O (p.n0+i) w w'
 have hfr:=Jc hi hh
 have htok:free j (upd wt i s')→FreeTok p.C p.Mu p.n0 (t ++ MemOp.ofEvents (p.n0+i) (xs i).g.frame.fn (xs i).g.frame.place es) (p.n0+j):=fun hf=>by
   have hf' :=hfr.1 hf
   refine (h.tok hf').app (Ug hG.ev h.hW.2.2.2.1 ?_ ?_)
   ·have how:=hown'.ow (p.n0+i) p.C (by omega)
    rw [hself] at how
    exact fun x=>how x (.inr ⟨hf',rfl⟩)
   ·exact fun x=>h.own.dw (p.n0+i) p.C (by omega) x (.inr ⟨hf',rfl⟩)
 obtain ⟨gs',gz,gy,k1,k2⟩:=h.Gv (sl:=sl) hi hbi hgo hd aA hG.size (fun k hk hne=>hG.rely h.yx (by omega) hk hne) (fun k hk=>BQ hk _ _) ni
   (by rw [uk hfr];exact hown') (fun he=>by rw [hself];obtain ⟨a,b,c⟩:=Lc he;exact ⟨a,b,by rw [←a,←b];exact c⟩) BP hph htok (fun hs=>.inl (h.hold i hi (hh.1 hs))) hcell Jb hnr BN hmd hbl
 exact ⟨gs',gz,gy,_,k1,k2⟩
end Ph
end Go.Mx
namespace Go.Mx
open Go.Ren
open Go.Conc hiding Goes mem_ofEvents
open Go.ConcN (sumTo upd upd_same upd_ne RelBy get_map_set get_map_set_same WgLive PermW)
open Go.Conc.Lib (WgLink)
open Go.ConcR (KK WgAt stA smA rd wr g_of_ofEvents loc_of_ofEvent)
theorem yz(k:Nat)(fn:FuncId)(pos:String)(m:Mark):MemOp.ofEvents k fn pos #[Go.ConcR.mk m] = #[(⟨k,fn,pos,.mark m⟩:MemOp)]:=by rw [ofEvents_eq];simp [Go.ConcR.ofEvent_mk]
theorem qB{P:Program}{m:Bool}{I:World→Prop}{w:World}{S:Nat→Goroutine→Prop}{d:Nat}{g:Goroutine}(h:ag P m I X0 S d g)(hl:I w):S d g∨(¬S d g∧∃g',stepG P m g w = .go g' w #[]∧ag P m I X0 S d g'):=by
 by_cases hS:S d g
 · exact .inl hS
 · cases h with
   |stop h=>exact absurd h hS
   |step hs f es h k=>
    have h1:=h w hl
    have he:es w = #[]:=Array.eq_empty_iff_forall_not_mem.2 fun e he=>(h1.2 e he).1
    have h2:=k w hl
    rw [he] at h1 h2
    exact .inr ⟨hS,_,h1.1,h2⟩
theorem rJ.refl(Mu:Nat)(w:World):rJ Mu w w:=⟨rfl,fun _ _=>rfl,.rfl,rfl,rfl⟩
namespace Ph
variable{p:Ph}{W:Nat→Prop}{j:Nat}{tag:dZ}{x0:Pos}{bl:Bool}{wt:Nat→WT}{bw:Nat→Bool}{xs ls:Nat→Pos}{O D:Nat→Nat→Prop}{gs:Array Goroutine}{w w':World}{sl:Option (Nat×Nat)}{t:Trace}
def Gw(p:Ph)(j:Nat)(wt:Nat→WT)(xs:Nat→Pos)(w:World)(i:Nat)(s':WT)(x':Pos)(w':World):Prop:=
 ∃m q m' q',MuAt p.tM p.Mu w m q∧m.Bits∧MuAt p.tM p.Mu w' m' q' ∧ m'.Bits∧(Hz j (fun k=>dW (upd wt i s' k)) q' < Hz j (fun k=>dW (wt k)) q ∨
   (m' = m∧Hz j (fun k=>dW (upd wt i s' k)) q' = Hz j (fun k=>dW (wt k)) q∧(DF m s' < DF m (wt i)∨(s' = wt i∧p.VI i (wt i) x' (xs i)))))
def xg(p:Ph)(W:Nat→Prop)(j:Nat)(tag:dZ)(x0:Pos)(wt:Nat→WT)(xs ls:Nat→Pos)(D:Nat→Nat→Prop)(t:Trace)(w:World)(i:Nat)(r:Stepped×Array MemOp)(sl:Option (Nat×Nat)):Prop:=
 ∃gs' w' gz gy s' x' O',r.1 = .next (crowd gs' w' sl)∧p.dh i s' x' ∧ Gw p j wt xs w i s' x' w' ∧ p.dH W j tag x0 gz (upd wt i s') gy (upd xs i x') ls O' D gs' w' (t ++ r.2)
theorem dH.jn(h:p.dH W j tag x0 bl wt bw xs ls O D gs w t):j≤p.n:=by
 have:=h.left
 cases tag<;>simp only [BM] at this<;>omega
theorem EL(h:p.dH W j tag x0 bl wt bw xs ls O D gs w t){i:Nat}(hi:i < j){s':WT}(h5:5≤fH (wt i))(hs:fH s' = 8∨fH s' = 7∨fH s' = 5)(hw:w'.heap[p.Wg]? = w.heap[p.Wg]?):∃a b,WgAt p.L.tWg p.Wg w' a b∧Md j (fun k=>fH (upd wt i s' k)) tag a b:=by
 obtain ⟨a,b,m1,m2⟩:=h.md
 refine ⟨a,b,by unfold WgAt at m1 ⊢;rw [hw];exact m1,?_⟩
 rw [lS]
 exact m2.counted hi h5 hs
theorem BU(h:p.dH W j tag x0 bl wt bw xs ls O D gs w t){i:Nat}(hi:i < j){s':WT}(hs:2≤fH (wt i)→2≤fH s'):bl=true→∃k,k < j∧2≤fH (upd wt i s' k):=fun e=>by
 obtain ⟨_,k,h1,h2⟩:=h.blk e
 refine ⟨k,h1,?_⟩
 by_cases e:k=i
 · subst e;rw [upd_same];exact hs h2
 · rw [upd_ne wt _ e];exact h2
theorem Oj{i:Nat}{s':WT}(he:dW s' = dW (wt i)):(fun k=>dW (upd wt i s' k))=fun k=>dW (wt k):=by
 rw [lS dW]
 funext k
 by_cases e:k=i
 · subst e;rw [upd_same];exact he
 · rw [upd_ne _ _ e]
theorem qC(h:p.dH W j tag x0 bl wt bw xs ls O D gs w t){i:Nat}{s':WT}{x':Pos}(he:dW s' = dW (wt i))(hw:w'.heap[p.Mu]? = w.heap[p.Mu]?) :
   ∃m q,MuAt p.tM p.Mu w' m q∧MI p.B j (fun k=>dW (upd wt i s' k)) m q∧(q=0∨(mayWake p.P (xs i).g=true∧x'.g.status = .running)∨∀k,k < j→bw k=false):=by
 obtain ⟨m,q,h1,h2,h3⟩:=h.mi
 refine ⟨m,q,by unfold MuAt at h1 ⊢;rw [hw];exact h1,by rw [Oj he];exact h2,?_⟩
 rcases Nat.eq_zero_or_pos q with e|e
 · exact .inl e
 · refine .inr (.inr fun k hk=>?_)
   cases hb:bw k with
   |false=>rfl
   |true=>have:=h3 k hk hb;omega
theorem kF(h:p.dH W j tag x0 bl wt bw xs ls O D gs w t){i:Nat}{s':WT}{x':Pos}(he:dW s' = dW (wt i))(hw:w'.heap[p.Mu]? = w.heap[p.Mu]?)(hr:(∀m,DF m s' < DF m (wt i))∨(s' = wt i∧p.VI i (wt i) x' (xs i))):Gw p j wt xs w i s' x' w' :=by
 obtain ⟨m,q,h1,h2,_⟩:=h.mi
 refine ⟨m,q,m,q,h1,h2.bits,by unfold MuAt at h1 ⊢;rw [hw];exact h1,h2.bits,.inr ⟨rfl,by rw [Oj he],hr.imp (fun x=>x m) id⟩⟩
theorem xh{k:Nat}{es:Array Event}(hW:W p.Mu)(hlt:p.Mu < w.heap.size)(he:rJ p.Mu w w')(hes:∀e∈es,iM p.Mu e):ng (Gt W k) W (O k) (D k) w w' es:=
 ⟨by rw [he.size];exact Nat.le_refl _,fun c _ _ hc=>he.heap c fun e=>hc (e ▸ hW),he.os,he.output,he.tape,fun e h=>.inl (by have:=xk (k:=k) hW hlt (hes e h);exact ⟨this.1,by rw [he.size];exact this.2⟩)⟩
theorem dH.quiet(h:p.dH W j tag x0 bl wt bw xs ls O D gs w t){i:Nat}(hi:i < j)(hbi:bw i=false){g':Goroutine}{es:Array Event}{s':WT}
   (hgo:stepG p.P false (xs i).g w = .go g' w' es) (he:rJ p.Mu w w') (hes:∀e∈es,iM p.Mu e) (aA:p.dh i s' { xs i with d:=deafBehind (xs i).d es,g:=g' }) (hh:holds s' ↔ holds (wt i)) (hea:early s' → early (wt i)) (BP:locking s' → p.locks i=true) (hph:phase s')
   (hp:p.locks i=true→(past s' ↔ past (wt i))) (hc:∀v,s' = .cr v↔wt i = .cr v) (h5:5≤fH (wt i)) (hs:fH s' = 8∨fH s' = 7)
   (BN:∃m q,MuAt p.tM p.Mu w' m q∧MI p.B j (fun k=>dW (upd wt i s' k)) m q∧(q=0∨(mayWake p.P (xs i).g=true∧g'.status = .running)∨∀k,k < j→bw k=false)) :
   ∃gs' gz gy O',runT p.P (crowd gs w sl) (p.n0+i)=(.next (crowd gs' w' sl),MemOp.ofEvents (p.n0+i) (xs i).g.frame.fn (xs i).g.frame.place es) ∧
    p.dH W j tag x0 gz (upd wt i s') gy (upd xs i { xs i with d:=deafBehind (xs i).d es,g:=g' }) ls O' D gs' w' (t ++ MemOp.ofEvents (p.n0+i) (xs i).g.frame.fn (xs i).g.frame.place es):=by
 have hlt:p.Mu < w.heap.size:=h.own.vP _ (.inl h.hW.2.1)
 have hCM:p.C≠p.Mu:=fun e=>h.hW.2.2.2.1 (e ▸ h.hW.2.1)
 refine h.worker (sl:=sl) hi hbi (x' :={ xs i with d:=deafBehind (xs i).d es,g:=g' }) hgo (xh h.hW.2.1 hlt he hes) rfl aA hh (fun e=>?_) BP hph (Cell.same h.cell hi hp hc (.inr (he.heap _ hCM))) (fun e=>by omega) (fun e he=>fJ (hes e he)) BN
   (EL h hi h5 (by omega) (he.heap _ h.hW.2.2.1)) (fun gz hb _ _=>BU h hi (fun _=>by omega) hb)
 obtain ⟨a,b,c⟩:=h.wO i hi (hea e)
 refine ⟨by rw [Ol he.size];exact a,b,?_⟩
 show au (xs i).O (xs i).D (xs i).w w'
 rw [a,b]
 refine c.trans ⟨by rw [he.size];exact Nat.le_refl _,fun b hb=>he.heap b fun e=>h.yx.ow _ b (by omega) hb (e ▸ h.hW.2.1),fun b hb=>he.heap b fun e=>h.yx.dw _ b (by omega) hb (e ▸ h.hW.2.1),he.os,he.output,he.tape⟩
theorem dH.aaA(h:p.dH W j tag x0 bl wt bw xs ls O D gs w t){i:Nat}(hi:i < j)(hbi:bw i=false)(hw:p.uJ i (wt i) (xs i))(hq:∀m q,MuAt p.tM p.Mu w m q→q=0)(hgo:stepG p.P false (xs i).g w = .go { (xs i).g with status:=.blocked } w #[]) :
   ∃gs' ops,runT p.P (crowd gs w sl) (p.n0+i)=(.next (crowd gs' w sl),ops)∧p.dH W j tag x0 bl wt (upd bw i true) xs ls O D gs' w (t ++ ops):=by
 obtain ⟨hgi,hsi,hdi⟩:=h.wk i hi
 rw [hbi] at hgi
 simp only [Bool.false_eq_true,if_false] at hgi
 have hsz:=h.size
 have hpos:p.n0+i≠0:=by have:=h.hn0;omega
 have hgo':stepG p.P ((p.n0+i) == 0) (xs i).g w = .go { (xs i).g with status:=.blocked } w #[]:=by
   have:((p.n0+i) == 0)=false:=by simp;omega
   rw [this];exact hgo
 have hrun:=runT_crowd_go (P:=p.P) (sl:=sl) hgi hgo'
 have ew:woken p.P (xs i).g { (xs i).g with status:=.blocked } w=id:=by funext o;simp [woken]
 rw [ew,Array.map_id] at hrun
 have e0:t ++ MemOp.ofEvents (p.n0+i) (xs i).g.frame.fn (xs i).g.frame.place #[]=t:=by simp [MemOp.ofEvents]
 refine ⟨_,_,hrun,?_⟩
 rw [e0]
 refine ⟨h.hn0,by simpa using hsz,by rw [Array.getElem?_setIfInBounds_ne (by omega)];exact h.main,h.blk,h.seat,h.O0,h.D0,h.rely,h.deaf,fun k hk=>?_,fun k hk hb=>?_,h.wO,h.H6,h.ph,fun k h1 h2=>?_,h.ti,h.own,h.hW,h.tok,h.hold,h.cell,h.over,h.norel,?_,h.md,h.left⟩
 · obtain ⟨a1,a2⟩:=h.wk k hk
   refine ⟨?_,a2⟩
   by_cases e:k=i
   ·subst e
    rw [upd_same]
    rw [Array.getElem?_setIfInBounds_self_of_lt (by rw [hsz];omega)]
    rfl
   ·rw [upd_ne bw _ e,Array.getElem?_setIfInBounds_ne (by omega)]
    exact a1
 · by_cases e:k=i
   ·subst e;exact hw
   ·rw [upd_ne bw _ e] at hb;exact h.bs k hk hb
 · obtain ⟨a1,a2⟩:=h.lv k h1 h2
   exact ⟨by rw [Array.getElem?_setIfInBounds_ne (by omega)];exact a1,a2⟩
 · obtain ⟨m,q,h1,h2,_⟩:=h.mi
   exact ⟨m,q,h1,h2,fun _ _ _=>hq m q h1⟩
theorem dH.take(h:p.dH W j tag x0 bl wt bw xs ls O D gs w t){i:Nat}(hi:i < j)(hbi:bw i=false)(hs:wt i = .ac)(hd0:(xs i).d=0){g':Goroutine}
   (hgo:stepG p.P false (xs i).g w = .go g' w #[Go.ConcR.mk (.acquire (stA p.Mu))]) (hT:p.Pz i (xs i).O (xs i).D (xs i).w g') :
   ∃gs' gz gy v x' O' ops,runT p.P (crowd gs w sl) (p.n0+i)=(.next (crowd gs' w sl),ops)∧p.dh i (.cr v) x' ∧ p.dH W j tag x0 gz (upd wt i (.cr v)) gy (upd xs i x') ls O' D gs' w (t ++ ops):=by
 obtain ⟨hgi,hsi,hdi⟩:=h.wk i hi
 have Uh :=hdi
 rw [hd0] at Uh
 rw [hbi] at hgi
 simp only [Bool.false_eq_true,if_false] at hgi
 have hsz:=h.size
 have hn0:=h.hn0
 have hlt:p.Mu < w.heap.size:=h.own.vP _ (.inl h.hW.2.1)
 have hfr:free j wt:=fun k hk hh=>by
   have:=h.one hi hk (by rw [hs];rfl) (P6 hh)
   subst this
   rw [hs] at hh
   exact hh
 obtain ⟨order,c1,c2,c3,c4,c5⟩:=h.cell
 have hcell:=c5 fun k hk v e=>hfr k hk (by rw [e];trivial)
 obtain ⟨a,b,c⟩:=h.wO i hi (by rw [hs];trivial)
 have hnO:¬O (p.n0+i) p.C:=fun x=>h.own.ow _ _ (by omega) x (.inr ⟨hfr,rfl⟩)
 have hnD:¬D (p.n0+i) p.C:=fun x=>h.own.dw _ _ (by omega) x (.inr ⟨hfr,rfl⟩)
 have hwk:=hT w (p.fold order) (by rw [a,b];exact c) c3 hcell (by rw [a];exact hnO) (by rw [b];exact hnD) h.hW.2.2.2.2
 have hes:∀e ∈ #[Go.ConcR.mk (.acquire (stA p.Mu))],iM p.Mu e:=by intro e he;rw [Array.mem_singleton] at he;exact .inr (.inr (.inr (.inl he)))
 have hG:=xh (p:=p) (k:=p.n0+i) (O:=O) (D:=D) h.hW.2.1 hlt (rJ.refl p.Mu w) hes
 have hti:=h.ti
 have hown:=h.yx
 rw [←hsz] at hti hown
 have hgo':stepG p.P ((p.n0+i) == 0) (xs i).g w = .go g' w #[Go.ConcR.mk (.acquire (stA p.Mu))]:=by
   have:((p.n0+i) == 0)=false:=by simp;omega
   rw [this];exact hgo
 obtain ⟨_,ni,_⟩:=kE (sl:=sl) hgi hgo' hti hown hG
 rw [hsz,uo] at ni
 have e1:=yz (p.n0+i) (xs i).g.frame.fn (xs i).g.frame.place (.acquire (stA p.Mu))
 have hperm:∀l,inB (· = p.C) l→Perm (t ++ MemOp.ofEvents (p.n0+i) (xs i).g.frame.fn (xs i).g.frame.place #[Go.ConcR.mk (.acquire (stA p.Mu))]) (p.n0+i) l:=by
   rw [e1]
   exact (h.tok hfr).acquire (z:=⟨p.n0+i,(xs i).g.frame.fn,(xs i).g.frame.place,.mark (.acquire (stA p.Mu))⟩) (by show p.n0+i < p.n0+j;omega) (Nat.le_add_right _ _) rfl Uh (h.norel _)
 have hnf:¬free j (upd wt i (.cr (p.fold order))):=fun hf=>hf i hi (by rw [upd_same];trivial)
 have hown1:Own (fun b=>W b∨(True∧b=p.C)) O D (p.n0+j) w.heap.size:=by
   have:=h.own
   rw [uk (iff_true_intro hfr)] at this
   exact this
 have et:EJ O (p.n0+i) p.C (p.n0+i)=fun b=>O (p.n0+i) b∨b=p.C:=by
   funext b
   unfold EJ
   exact propext ⟨fun x=>x.imp id fun y=>y.2,fun x=>x.imp id fun y=>⟨rfl,y⟩⟩
 have aA:p.dh i (.cr (p.fold order)) ⟨fun b=>(xs i).O b∨b=p.C,(xs i).D,0,g',w⟩:=hwk
 have hcell':p.Cell j (upd wt i (.cr (p.fold order))) w:=by
   refine ⟨order,c1,fun k=>?_,c3,fun k hk v e=>?_,fun hn=>absurd (upd_same wt i _) (hn i hi _)⟩
   ·rw [c2]
    by_cases e:k=i
    ·subst e
     rw [upd_same,hs]
     exact ⟨fun x=>x.2.2.elim,fun x=>x.2.2.elim⟩
    ·rw [upd_ne wt _ e]
   ·by_cases e':k=i
    ·subst e';rw [upd_same] at e;cases e;rfl
    ·rw [upd_ne wt _ e'] at e
     exact absurd (show holds (wt k) by rw [e];trivial) (hfr k hk)
 obtain ⟨gs',gz,gy,k1,k2⟩:=h.Gv (sl:=sl) hi hbi (x' :=⟨fun b=>(xs i).O b∨b=p.C,(xs i).D,0,g',w⟩) (es:=#[Go.ConcR.mk (.acquire (stA p.Mu))]) (w' :=w) (s' :=.cr (p.fold order)) (O' :=EJ O (p.n0+i) p.C) hgo
   (by rw [hd0];rfl) aA (Nat.le_refl _) (fun k hk hne=>.refl _) (fun k hk=>by funext b;unfold EJ;exact propext ⟨fun x=>x.resolve_right fun y=>hk y.1,.inl⟩) (Go.Mx.TI.take ni hperm) (Go.Mx.Own.take hown1 (by omega) h.hW.2.2.2.1 _ hnf)
   (fun _=>⟨by show (fun b=>(xs i).O b∨b=p.C)=_;rw [et,a],b,.refl _⟩) (fun _=>h.H6 i hi (by rw [hs];trivial)) trivial (fun hf=>absurd hf hnf) (fun _=>.inr ⟨rfl,rfl⟩) hcell' (fun e=>by simp [fH] at e) (fun e he=>fJ (hes e he))
   (qC h (by rw [hs];rfl) rfl) (EL h hi (by rw [hs];simp [fH]) (.inl rfl) rfl) (fun gz hb _ _=>BU h hi (fun _=>by simp [fH]) hb)
 exact ⟨gs',gz,gy,_,_,_,_,k1,aA,k2⟩
theorem dH.give(h:p.dH W j tag x0 bl wt bw xs ls O D gs w t){i:Nat}(hi:i < j)(hbi:bw i=false)(hs:wt i = .rl)(hd0:(xs i).d=0){g':Goroutine}
   (hgo:stepG p.P false (xs i).g w = .go g' w #[Go.ConcR.mk (.releaseMerge (stA p.Mu))]) (aA:p.dh i .ds { xs i with d:=0,g:=g' }) :
   ∃gs' gz gy O' ops,runT p.P (crowd gs w sl) (p.n0+i)=(.next (crowd gs' w sl),ops)∧p.dH W j tag x0 gz (upd wt i .ds) gy (upd xs i { xs i with d:=0,g:=g' }) ls O' D gs' w (t ++ ops):=by
 obtain ⟨hgi,hsi,hdi⟩:=h.wk i hi
 have Uh :=hdi
 rw [hd0] at Uh
 rw [hbi] at hgi
 simp only [Bool.false_eq_true,if_false] at hgi
 have hsz:=h.size
 have hn0:=h.hn0
 have hlt:p.Mu < w.heap.size:=h.own.vP _ (.inl h.hW.2.1)
 have Oi:=h.hold i hi (by rw [hs];trivial)
 have aiu:¬free j wt:=fun hf=>hf i hi (by rw [hs];trivial)
 have hes:∀e ∈ #[Go.ConcR.mk (.releaseMerge (stA p.Mu))],iM p.Mu e:=by intro e he;rw [Array.mem_singleton] at he;exact .inr (.inr (.inl he))
 have hG:=xh (p:=p) (k:=p.n0+i) (O:=O) (D:=D) h.hW.2.1 hlt (rJ.refl p.Mu w) hes
 have hti:=h.ti
 have hown:=h.yx
 rw [←hsz] at hti hown
 have hgo':stepG p.P ((p.n0+i) == 0) (xs i).g w = .go g' w #[Go.ConcR.mk (.releaseMerge (stA p.Mu))]:=by
   have:((p.n0+i) == 0)=false:=by simp;omega
   rw [this];exact hgo
 obtain ⟨_,ni,_⟩:=kE (sl:=sl) hgi hgo' hti hown hG
 rw [hsz,uo] at ni
 have e1:=yz (p.n0+i) (xs i).g.frame.fn (xs i).g.frame.place (.releaseMerge (stA p.Mu))
 have hown1:Own (fun b=>W b∨(False∧b=p.C)) O D (p.n0+j) w.heap.size:=by
   have:=h.own
   rw [uk (iff_false_intro aiu)] at this
   exact this
 have hO':∀k,k≠p.n0+i→Ja O (p.n0+i) p.C k=O k:=fun k hk=>by
   funext b
   unfold Ja
   exact propext ⟨fun x=>x.1,fun x=>⟨x,fun e=>hk e.1⟩⟩
 have htok:free j (upd wt i .ds)→FreeTok p.C p.Mu p.n0 (t ++ MemOp.ofEvents (p.n0+i) (xs i).g.frame.fn (xs i).g.frame.place #[Go.ConcR.mk (.releaseMerge (stA p.Mu))]) (p.n0+j):=fun _=>by
   rw [e1]
   exact FreeTok.release (y:=⟨p.n0+i,(xs i).g.frame.fn,(xs i).g.frame.place,.mark (.releaseMerge (stA p.Mu))⟩) (fun l hl=>h.ti.own (p.n0+i) (by omega) l (gZ (fun b (hb:b=p.C)=>hb ▸ Oi) hl)) rfl Uh
 have hcell':p.Cell j (upd wt i .ds) w:=Cell.same h.cell hi (fun _=>by rw [hs];exact ⟨fun _=>trivial,fun _=>trivial⟩) (fun v=>by rw [hs];exact ⟨fun e=>(by cases e),fun e=>(by cases e)⟩) (.inr rfl)
 obtain ⟨gs',gz,gy,k1,k2⟩:=h.Gv (sl:=sl) hi hbi (x' :={ xs i with d:=0,g:=g' }) (es:=#[Go.ConcR.mk (.releaseMerge (stA p.Mu))]) (w' :=w) (s' :=.ds) (O' :=Ja O (p.n0+i) p.C) hgo
   (by rw [hd0];rfl) aA (Nat.le_refl _) (fun k hk hne=>.refl _) hO' (Go.Mx.TI.give (p.n0+i) ni) (Go.Mx.Own.give hown1 (i:=p.n0+i) (by omega) Oi h.hW.2.2.2.2 _)
   (fun e=>e.elim) (fun _=>h.H6 i hi (by rw [hs];trivial)) trivial htok (fun e=>e.elim) hcell' (fun e=>by simp [fH] at e) (fun e he=>fJ (hes e he))
   (qC h (by rw [hs];rfl) rfl) (EL h hi (by rw [hs];simp [fH]) (.inl rfl) rfl) (fun gz hb _ _=>BU h hi (fun _=>by simp [fH]) hb)
 exact ⟨gs',gz,gy,_,_,k1,k2⟩
end Ph
end Go.Mx
