import Derived.Test.YtkgmngkagkoepaaGreatH17
import Derived.Test.YtkgmngkagkoepaaGreatH19
set_option linter.all false
namespace Go.Mx
open Go.Ren Go.Sy
open Go.Conc hiding Goes
open Go.Conc.Locks
open Go.ConcR (stA smA)
def KR(L:ah):Code:=(unlockFn L.mu).body.getD .skip
def V6(L:ah):Code:=(iunlockFn L.mu).body.getD .skip
def zU(a l w s n0 c:Bool):Tab:=(.bin .neq (.v 4) (.i .i32 0),.b a)::nZ l w s n0 c
def TV:Tab:=zU true false false false false false
def ulE(L:ah):S:=fresh [(0,some (.v 0))] [.code (KR L)]
def QE(L:ah):S:=fresh [(4,some (.v 1))] (run 6 IP 200 (ulE L)).todo
def iuE(L:ah):S:=fresh [(0,some (.v 0))] [.code (V6 L)]
def ulL(L:ah):S:=fresh [(0,some (.v 0)),(5,some (.v 1))] (run 21 TV 200 (iuE L)).todo
def ulV(L:ah):S:=fresh [(0,some (.v 0)),(7,some (.v 0))] (run 21 TV 200 (next (ulL L) none)).todo
def ulR(L:ah):S:=fresh [(0,some (.v 0)),(8,some (.v 0))] (run 21 TV 200 (next (ulV L) (some (.v 0)))).todo
def ulD(L:ah):S:=fresh [(0,some (.v 0))] (run 21 TV 200 (next (ulR L) none)).todo
def ulA(L:ah):S:=fresh [(0,some (.v 0)),(13,some (.v 1))] (run 21 TV 200 (next (ulD L) none)).todo
def ulU(L:ah):S:=fresh [(0,some (.v 0)),(17,some (.v 0)),(18,some (.v 4))] (run 21 TV 200 (next (ulA L) (some (.v 4)))).todo
def ulN(L:ah):S:=fresh [(0,some (.v 0))] (run 21 TV 200 (next (ulU L) none)).todo
def ra:List (E×E):=[(.v 0,.v 0),(.v 1,.v 1),(.v 1,.v 0),(.v 4,.v 4)]
section
variable(L:ah)
theorem akj:To L.mu.tMutex 6 IP 200 1 (ulE L) (QE L) rp:=⟨by kernel_rfl,by kernel_rfl,by kernel_rfl⟩
theorem akk:To L.mu.tMutex 6 IP 200 0 (next (QE L) none) Qx rp:=⟨by kernel_rfl,by kernel_rfl,by kernel_rfl⟩
theorem acp:aV 6 (QE L)=some (L.mu.iunlock,[some (.v 1)]):=by kernel_rfl
section
variable(a l w s n0 n1:Bool)
theorem akl:To L.mu.tIMutex 21 (zU a l w s n0 n1) 200 1 (iuE L) (ulL L) ra:=⟨by kernel_rfl,by kernel_rfl,by kernel_rfl⟩
theorem akm:To L.mu.tIMutex 21 (zU a l w s n0 n1) 200 0 (next (ulL L) none) (ulV L) ra:=⟨by kernel_rfl,by kernel_rfl,by kernel_rfl⟩
theorem akn:To L.mu.tIMutex 21 (zU a l w s n0 n1) 200 0 (next (ulV L) (some (.v 0))) (ulR L) ra:=⟨by kernel_rfl,by kernel_rfl,by kernel_rfl⟩
theorem ako:To L.mu.tIMutex 21 (zU a l w s n0 n1) 200 0 (next (ulR L) none) (ulD L) ra:=⟨by kernel_rfl,by kernel_rfl,by kernel_rfl⟩
theorem akp:To L.mu.tIMutex 21 (zU a l w s n0 n1) 200 1 (next (ulD L) none) (ulA L) ra:=⟨by kernel_rfl,by kernel_rfl,by kernel_rfl⟩
theorem akq:To L.mu.tIMutex 21 (zU true l w s n0 n1) 200 0 (next (ulA L) (some (.v 4))) (ulU L) ra:=⟨by kernel_rfl,by kernel_rfl,by kernel_rfl⟩
theorem akr:To L.mu.tIMutex 21 (zU false l w s n0 n1) 200 0 (next (ulA L) (some (.v 4))) (ulN L) ra:=⟨by kernel_rfl,by kernel_rfl,by kernel_rfl⟩
theorem aks:To L.mu.tIMutex 21 (zU a l w s n0 n1) 200 0 (next (ulU L) none) (ulN L) ra:=⟨by kernel_rfl,by kernel_rfl,by kernel_rfl⟩
theorem akt:To L.mu.tIMutex 21 (zU a l w s n0 n1) 200 0 (next (ulN L) none) Qx ra:=⟨by kernel_rfl,by kernel_rfl,by kernel_rfl⟩
end
theorem ahr:loadAt 21 (ulL L)=some (21,some (.v 1)):=by kernel_rfl
theorem ahs:vI 21 (ulV L)=some (L.mu.tPIMutex,L.mu.tUP,some (.v 0)):=by kernel_rfl
theorem aht:aV 21 (ulR L)=some (L.mu.relMerge,[some (.v 0)]):=by kernel_rfl
theorem ahu:aV 21 (ulD L)=some (L.mu.disable,[]):=by kernel_rfl
theorem ahv:aV 21 (ulA L)=some (L.mu.add32,[some (.v 1),some (.i .i32 (-1))]):=by kernel_rfl
theorem acr:aV 21 (ulU L)=some (L.mu.unlockSlow,[some (.v 0),some (.v 4)]):=by kernel_rfl
theorem ahw:aV 21 (ulN L)=some (L.mu.enable,[]):=by kernel_rfl
theorem aku:(unlockFn L.mu).body=some (KR L):=by kernel_rfl
theorem akv:(iunlockFn L.mu).body=some (V6 L):=by kernel_rfl
theorem akw:(iK L).body=some (VG L):=by kernel_rfl
theorem akx:((iunlockFn L.mu).name== "runtime.NumGoroutine")=false:=by kernel_rfl
theorem aky:((iK L).name== "runtime.NumGoroutine")=false:=by kernel_rfl
theorem ahx:(iunlockFn L.mu).results=#[]:=by kernel_rfl
theorem ahy:(iK L).results=#[]:=by kernel_rfl
theorem QF:(some (iunlockFn L.mu)).any (·.norace)=true:=by kernel_rfl
end
end Go.Mx
namespace Go.Mx
open Go.Ren Go.Sy
open Go.Conc hiding Goes
open Go.Conc.Locks
open Go.ConcR (stA smA)
section
variable{P:Program}{L:ah}{I I':World->Prop}{tM:TypeId}{Mu B:Nat}{X:Goroutine->Prop}{o:Wd}
def UeQ(P:Program)(I:World->Prop)(X:Goroutine->Prop)(d:Nat)(g:Goroutine):Prop:=d=1/\Says P false I #[Go.ConcR.mk .enable] X g
def DsQ(P:Program)(I:World->Prop)(tM:TypeId)(Mu B:Nat)(X:Goroutine->Prop)(d:Nat)(g:Goroutine):Prop:=d=0/\Says P false I #[Go.ConcR.mk .disable] (gX P I tM Mu B (af P false I X0 (UeQ P I X)) .own 1) g
def RlQ(P:Program)(I:World->Prop)(tM:TypeId)(Mu B:Nat)(X:Goroutine->Prop)(d:Nat)(g:Goroutine):Prop:=d=0/\Says P false I #[Go.ConcR.mk (.releaseMerge (stA Mu))] (af P false I X0 (DsQ P I tM Mu B X) 0) g
def Reads(I:World->Prop)(Mu:Nat):Prop:=∀w,I w->∃v:Int,w.cell? (mA Mu)=some (.int .i32 v)
theorem xh:∀p∈ra,p.1.den (nu Mu 0 0 0 o 0)=p.2.den (nu Mu 0 0 0 o 0):=by
 intro p a;simp only[ra,List.mem_cons,List.not_mem_nil,or_false]at a;rcases a with rfl|rfl|rfl|rfl
 · rfl
 · rfl
 · exact jE.trans jq.symm
 · rfl
theorem O1(H:dX P L)(c:Small o):bF P L.mu.tIMutex (nu Mu 0 0 0 o 0) (zU (o.num !=0) (fl o.L) (fl o.W) (fl o.S) (o.n==0) (o.n==1)):=by
 unfold bF zU;simp only[List.forall_mem_cons]
 refine⟨sF (a:=(o.num:Int)) (b:=0) sG rfl ?_,wV H c.1 c.2⟩;show Value.bool (o.num !=0)=Value.bool ((o.num:Int)!=((0:Nat):Int))
 have:=Ah o.num 0
 unfold bne;rw[this]
theorem akz{b:Frame}{ds:List Deferred}{cs:List Frame}{a:Nat}{o':Wd}{s:S}{g:Goroutine}(c:(Go.Sy.sub s.env s.env).all (lg r4)=true)(h:Behind (nu Mu 0 0 0 o 0) a b ds cs s g):Behind (nu Mu 0 0 0 o' 0) a b ds cs s g:=by
 obtain⟨A,d,e,rfl⟩:=h
 exact⟨A,d,pX r4 c Es e,rfl⟩
theorem aas(L:ah):(Go.Sy.sub (ulN L).env (ulN L).env).all (lg r4)=true:=by kernel_rfl
theorem aat(L:ah):(Go.Sy.sub (ulA L).env (ulA L).env).all (lg r4)=true:=by kernel_rfl
theorem acs{m:Wd}(a:m.Bits)(b:m.n<63)(c:m.L=1):IntKind.i32.wrap ((m.num:Int)+-1)=((⟨0,m.W,m.S,m.n⟩:Wd).num:Nat):=by
 have e:(m.num:Int)+-1=((⟨0,m.W,m.S,m.n⟩:Wd).num:Nat):=by unfold Wd.num;dsimp only;omega
 rw[e];exact Vy ⟨Nat.zero_le _,a.W,a.S⟩ (by dsimp only;omega)
theorem QG(H:dX P L)(hB:B<63)(hI:Reads I Mu){b:Frame}{cs:List Frame}(hk:b.kind≠.early)(hX:∀g,af P false I' X0 (fun d g=>d=0/\Behind (n0 Mu) 6 b [] cs Qx g) 0 g->X g){g:Goroutine}(T:Behind (n0 Mu) 6 b [] cs (ulE L) g):
   af P false I X0 (RlQ P I tM Mu B X) 0 g:=by
 have x:=O1 (Mu:=Mu) H sm0
 have a3:=OX (Mu:=Mu) H
 have l:(base L.mu.iunlock).kind≠.early:=by simp[base]
 refine(akj L).walk a3 oN hk T fun g2 b2=>?_
 obtain⟨M,a4,a5,rfl⟩:=b2
 refine sH (acp L) a4 a5 hk H.lib.f_iunlock (akx L) (akv L) (by show 1<=21;omega) fun g3 b3=>?_
 have c5:Behind (n0 Mu) 21 (base L.mu.iunlock) [] (b.at ⟨M,[]⟩ (QE L).todo::cs) (iuE L) g3:=by
   obtain⟨A,hz,ha,rfl⟩:=b3
   exact⟨A,hz,uh (ρ:=rp) ha (by kernel_rfl) oN,rfl⟩
 refine(akl L _ _ _ _ _ _).walk x xh l c5 fun g4 b4=>?_
 obtain⟨A4,c6,c7,rfl⟩:=b4
 have ld:=fun v:Int=>Af (P:=P) (m:=false) (b:=base L.mu.iunlock) (ds:=[]) (cs:=b.at ⟨M,[]⟩ (QE L).todo::cs) (z:=none) H.lib.runUnderlying_t21 H.lib.sizeOf_t21 H.lib.isAgg_t21 (ahr L) c6 c7 l (by show(P.funcs[L.mu.iunlock]?).any (·.norace)=true;rw[H.lib.f_iunlock];exact QF L) (ad:=mA Mu) jE (v:=v) (fun u hu=>by cases hu)
 have Q:∀w:World,∃C,I w->Behind (n0 Mu) 21 (base L.mu.iunlock) [] (b.at ⟨M,[]⟩ (QE L).todo::cs) (next (ulL L) none) C/\stepG P false (G ((base L.mu.iunlock).at ⟨A4,[]⟩ (ulL L).todo) (b.at ⟨M,[]⟩ (QE L).todo::cs)) w=.go C w #[]:=fun w=>by
   by_cases Q:I w
   ·obtain⟨v,i⟩:=hI w Q
    obtain⟨C,U,h2⟩:=ld v
    exact⟨C,fun _=>⟨U,h2 w i⟩⟩
   ·exact⟨G (base 0) [],fun h=>absurd h Q⟩
 refine .step rfl (fun w=>Classical.choose (Q w)) (fun _=>#[]) (fun w hi=>⟨(Classical.choose_spec (Q w) hi).2,by simp⟩) fun w hi=>?_
 have b5:=(Classical.choose_spec (Q w) hi).1;generalize Classical.choose (Q w)=g5 at b5
 show af P false I X0 _ 0 g5;refine(akm L _ _ _ _ _ _).walk x xh l b5 fun g6 b6=>?_
 obtain⟨A6,c8,c9,rfl⟩:=b6
 obtain⟨g7,b7,s7⟩:=OM (P:=P) (m:=false) (b:=base L.mu.iunlock) (ds:=[]) (cs:=b.at ⟨M,[]⟩ (QE L).todo::cs) (ahs L) c8 c9 l H.lib.underlying_tPIMutex H.lib.underlying_tUP H.lib.room_tIMutex (ad:=mA Mu) jq
 refine .step rfl (fun _=>g7) (fun _=>#[]) (fun w hi=>⟨?_,by simp⟩) fun w _=>?_
 · obtain⟨v,i⟩:=hI w hi
   exact s7 w _ i
 show af P false I X0 _ 0 g7;refine(akn L _ _ _ _ _ _).walk x xh l b7 fun g8 b8=>.stop ⟨rfl,?_⟩;obtain⟨A8,d0,d1,rfl⟩:=b8
 obtain⟨g9,b9,s9⟩:=Em (P:=P) (m:=false) (b:=base L.mu.iunlock) (ds:=[]) (cs:=b.at ⟨M,[]⟩ (QE L).todo::cs) .releaseMerge (by simp) (z:=none) rfl (aht L) d0 d1 l H.lib.f_relMerge (aeC L) (aeD L) (aeE L) (aeF L) (ad:=mA Mu) jq;refine⟨rfl,g9,fun w _=>s9 w,?_⟩;refine(ako L _ _ _ _ _ _).walk x xh l b9 fun e0 d4=>.stop ⟨rfl,?_⟩;obtain⟨e2,a6,a7,rfl⟩:=d4
 obtain⟨d5,d6,d7⟩:=wU (P:=P) (m:=false) (b:=base L.mu.iunlock) (ds:=[]) (cs:=b.at ⟨M,[]⟩ (QE L).todo::cs) .disable (by simp) (z:=none) rfl (ahu L) a6 a7 l H.lib.f_disable (OQ L) (OT L) (OU L) (OV L);refine⟨rfl,d5,fun w _=>d7 w,gX.idle ?_⟩;refine(akp L _ _ _ _ _ _).walk x xh l d6 fun e3 d8=>.stop ?_;obtain⟨d9,a8,a9,rfl⟩:=d8
 have b0:∀{o:Wd} {g},Behind (nu Mu 0 0 0 o 0) 21 (base L.mu.iunlock) [] (b.at ⟨M,[]⟩ (QE L).todo::cs) (ulN L) g->af P false I X0 (UeQ P I X) 1 g:=fun{o} {g} T=>by
   have T:=akz (o':=o0) (aas L) T
   obtain⟨A,hz,ha,rfl⟩:=T
   obtain⟨C,hb,V⟩:=wU (P:=P) (m:=false) (b:=base L.mu.iunlock) (ds:=[]) (cs:=b.at ⟨M,[]⟩ (QE L).todo::cs) .enable (by simp) (z:=none) rfl (ahw L) hz ha l H.lib.f_enable (VK L) (VL L) (VM L) (VN L);refine .stop ⟨rfl,rfl,C,fun w _=>V w,hX _ ?_⟩;refine(akt L _ _ _ _ _ _).walk x xh l hb fun Y p=>?_
   obtain⟨A',_,_,rfl⟩:=p
   refine sJ (acp L) a4 a5 H.lib.f_iunlock (ahx L) (.inl rfl) fun Y p=>?_
   exact(akk L).walk a3 oN hk p fun g2 b2=>.stop ⟨rfl,b2⟩
 refine⟨rfl,rfl,rfl,fun e=>(by cases e),fun w m q Q hm hf=>.inr ?_⟩;obtain⟨a,e4,e5,e6,hL⟩:=hf
 obtain⟨v,i⟩:∃v:Wd,v=⟨0,m.W,m.S,m.n⟩:=⟨_,rfl⟩
 have D:Small v:=by rw[i];exact⟨⟨Nat.zero_le _,a.W,a.S⟩,by dsimp only;omega⟩
 have F:=O1 (Mu:=Mu) H D
 have N:=wV H (Mu:=Mu) (nw:=0) D.1 D.2;have Z:Agree (nu Mu 0 0 0 v 0) (ulA L).env d9:=pX r4 (aat L) Es a9
 have c0:Value.int .i32 (IntKind.i32.wrap ((m.num:Int)+-1))=(E.v 4).den (nu Mu 0 0 0 v 0):=by rw[acs a (by omega) hL,←i];exact sG.symm
 obtain⟨C,hb,V⟩:=Vu (P:=P) (m:=false) (b:=base L.mu.iunlock) (ds:=[]) (cs:=b.at ⟨M,[]⟩ (QE L).todo::cs) (z:=some (.v 4)) (v:=(m.num:Int)) (ahv L) a8 Z l H.lib.f_add32 (Ov L) (Ox L) (Oy L) (Oz L) (ad:=mA Mu) jE Qu (fun y hy=>by cases hy;exact c0)
 have a0:=V w hm.state (hm.thaw 0)
 have J:=hm.setState (m':=v) (v:=IntKind.i32.wrap ((m.num:Int)+-1)) (by rw[acs a (by omega) hL,i])
 have hS:=a.S
 have hW:=a.W
 have R:∀{E:Nat->Goroutine->Prop},v.num≠0->(∀g,(∃c,(∀g,AtR L c 1 g->af P false I X0 (UeQ P I X) 1 g)/\BhU L c (nu Mu 0 0 0 v 0) (uEn L) g)->af P false I X0 E 1 g)->af P false I X0 E 1 C:=fun{E} r kk=>by
   have e1:(v.num !=0)=true:=by simpa using r
   rw[e1]at F;refine(akq L _ _ _ _ _).walk F xh l hb fun Y p=>?_
   obtain⟨A1,c1,c2,rfl⟩:=p
   refine sH (acr L) c1 c2 l H.pU (aky L) (akw L) (by show 2<=43;omega) fun g2 b2=>kk _ ⟨_,fun g T=>?_,b2⟩
   obtain⟨_,A',t,ht,rfl⟩:=T
   refine sJ (acr L) c1 c2 H.pU (ahy L) (IQ ht) fun g3 b3=>?_
   exact(aks L _ _ _ _ _ _).walk F xh l b3 fun g4 b4=>b0 b4
 by_cases U:m.S=0/\(m.W=1∨m.n=0)
 · refine⟨.done,v,q,C,_,_,by rw[i];exact .u0d U,a0,J,uP _,Dl,fun e=>(by cases e),?_⟩;rw[Dn];show af P false I X0 (UeQ P I X) 1 C;by_cases hz:v.num=0
   ·have e1:(v.num !=0)=false:=by simpa using hz
    rw[e1]at F;exact(akr L _ _ _ _ _).walk F xh l hb fun Y p=>b0 p
   ·refine R hz fun g ⟨c,hx,j⟩=>?_
    have vL:v.L=0:=by rw[i]
    have vS:v.S=0:=by rw[i];exact U.1
    by_cases c3:m.W=1
    ·have vW:v.W=1:=by rw[i];exact c3
     have f:=N
     rw[lX (n1:=false) (vH vL) (Dp vW) (vH vS) rfl]at f;refine(ajJ L _ _).walk (Ai:=nu Mu 0 0 0 v 0) f oM kU j fun Y p=>?_
     obtain⟨A',_,_,rfl⟩:=p
     exact hx _ ⟨rfl,A',_,VI L,rfl⟩
    ·have vn:v.n=0:=by rw[i];exact U.2.resolve_left c3
     have f:=N
     rw[lX (n1:=false) (vH vL) rfl (vH vS) (show(v.n==0)=true from by simpa using vn)]at f;refine(ajK L _ _).walk (Ai:=nu Mu 0 0 0 v 0) f oM kU j fun Y p=>?_
     obtain⟨A',_,_,rfl⟩:=p
     exact hx _ ⟨rfl,A',_,VI L,rfl⟩
 · have s:∀{y:Lk},(∀c g,BhU L c (nu Mu 0 0 0 v 0) (uEn L) g->af P false I X0 (AtU L Mu c y) 1 g)->v.num≠0->gX P I tM Mu B (af P false I X0 (UeQ P I X)) y 1 C:=fun{y} hy r=>by refine gX.pre (R r fun g ⟨c,hx,j⟩=>.stop ?_);exact⟨RU P L I Mu c,fun y d g hr=>hr.mono fun d g k=>aam H hB hx k,hy c g j⟩
   have vL:v.L=0:=by rw[i]
   by_cases c4:m.S=1
   ·have vS:v.S=1:=by rw[i];exact c4
    have r:v.num≠0:=by unfold Wd.num;omega
    refine⟨.us,v,q,C,_,_,by rw[i];exact .u0s c4,a0,J,uP _,Dl,fun e=>(by cases e),?_⟩;rw[Dn];refine s (y:=.us) (fun c g j=>?_) r;have f:=N
    rw[lX (n1:=false) (vH vL) rfl (Dp vS) rfl]at f;exact(ajM L _ _ _).walk (Ai:=nu Mu 0 0 0 v 0) f oM kU j fun Y p=>.stop ⟨rfl,v,D,.inr p⟩
   ·have O:m.S=0:=by omega
    have a2:m.W=0/\0<m.n:=by
     refine⟨?_,?_⟩
     ·have:¬m.W=1:=fun e=>U ⟨O,.inl e⟩
      omega
     ·have:¬m.n=0:=fun e=>U ⟨O,.inr e⟩
      omega
    have vS:v.S=0:=by rw[i];exact O
    have vW:v.W=0:=by rw[i];exact a2.1
    have vn:0<v.n:=by rw[i];exact a2.2
    have r:v.num≠0:=by unfold Wd.num;omega
    refine⟨.uc v,v,q,C,_,_,by rw[i];exact .u0c ⟨O,a2⟩,a0,J,uP _,Dl,fun e=>(by cases e),?_⟩;rw[Dn];refine s (y:=.uc v) (fun c g j=>?_) r;have f:=N
    rw[lX (n1:=false) (vH vL) (vH vW) (vH vS) (show(v.n==0)=false from by simp;omega)]at f;exact(ajL L _).walk (Ai:=nu Mu 0 0 0 v 0) f oM kU j fun Y p=>.stop ⟨rfl,D,p⟩
end
end Go.Mx
namespace Go.Mx
open Go.Ren
open Go.Conc hiding Goes mem_ofEvents
open Go.ConcN (sumTo upd upd_same upd_ne RelBy get_map_set get_map_set_same WgLive PermW)
open Go.Conc.Lib (WgLink)
open Go.ConcR (KK WgAt stA smA rd wr g_of_ofEvents loc_of_ofEvent)
section
variable{C Mu n n0 B:Nat}{t u:Trace}{W:Nat->Prop}{O D:Nat->Nat->Prop}{i:Nat}{d:Prop}
def FreeTok(C Mu n0:Nat)(t:Trace)(n:Nat):Prop:=∀i x,touchAt t i=some x->inB (· =C) x.loc->(∀g,g<n->(g=0∨n0<=g)->Knows t g i)∨∃r,t.act? r=some (.mark (.releaseMerge (stA Mu)))/\t.heard r/\Before t i r
theorem BG{z:MemOp}(c:z.act.touch?=none){i:Nat}{x:Touch}(h:touchAt (t++#[z]) i=some x):touchAt t i=some x:=by
 obtain⟨y,e,a⟩:=touch_of h
 rcases getElem?_append_cases e with⟨_,b⟩|⟨_,b⟩
 · rw[touchAt_of b];exact a
 · simp at b;subst b;rw[c]at a;cases a
theorem FreeTok.app(h:FreeTok C Mu n0 t n)(j:∀op∈u,∀x,op.act.touch?=some x->¬inB (· =C) x.loc):FreeTok C Mu n0 (t++u) n:=by
 intro i x l c;obtain⟨y,m,a⟩:=touch_of l
 rcases getElem?_append_cases m with⟨s,b⟩|⟨_,b⟩
 · rcases h i x (by rw[touchAt_of b];exact a) c with k|⟨r,e,o,p⟩
   ·exact .inl fun g q h0=>(k g q h0).app u
   ·have f:=lt_of_act? e
    exact .inr ⟨r,by rw[act?_old f];exact e,(heard_old f).2 o,p.app u⟩
 · exact absurd c (j y b x a)
theorem FreeTok.acquire(h:FreeTok C Mu n0 t n){z:MemOp}(r:z.g<n)(c:n0<=z.g)(f:z.act=.mark (.acquire (stA Mu)))(hd:Go.Conc.Deaf t z.g=0)(s:NoRelease (stA Mu) t):∀l,inB (· =C) l->Perm (t++#[z]) z.g l:=by
 intro l v i x w e;have y:z.act.touch?=none:=by rw[f];rfl
 have o:(t++#[z])[t.size]?=some z:=by simp
 have j:NoRelease (stA Mu) (t++#[z]):=s.app fun op a=>by simp at a;subst a;rw[f];simp
 rcases h i x (BG y w) (e▸v)with A|⟨p,q,E,F⟩
 · exact(A z.g r (.inr c)).app _
 · have m:=lt_of_act? q
   have b:HappensBefore (t++#[z]) p t.size:=.single (.inr ⟨.marked m (.inr (by rw[act?_old m];exact q)) (by rw[act?_of o,f]) (fun k _ _=>j k),(heard_old m).2 E,
    ⟨z.g,by simp[Trace.g?],by rw[deaf_old (Nat.le_refl _)];exact hd⟩⟩)
   exact⟨t.size,z,o,rfl,.inr ((F.app #[z]).hb b)⟩
theorem FreeTok.release{y:MemOp}(c:∀l,inB (· =C) l->Perm t y.g l)(a:y.act=.mark (.releaseMerge (stA Mu)))(hd:Go.Conc.Deaf t y.g=0):FreeTok C Mu n0 (t++#[y]) n:=by
 intro i x e f;have h:y.act.touch?=none:=by rw[a];rfl
 have b:(t++#[y])[t.size]?=some y:=by simp
 refine .inr ⟨t.size,by rw[act?_of b,a],⟨y.g,by simp[Trace.g?],by rw[deaf_old (Nat.le_refl _)];exact hd⟩,.inr ?_⟩;exact(c x.loc f i x (BG h e) rfl).hb_new (Nat.le_refl _) b rfl
theorem FreeTok.fork(h:FreeTok C Mu n0 t n)(A:0<n){x y:MemOp}(p:x.g=0/\x.act=.go n)(q:y.g=n/\y.act=.start)(h0:Go.Conc.Deaf t 0=0)(E:Go.Conc.Deaf t n=0):FreeTok C Mu n0 (t++#[x,y]) (n+1):=by
 have f:∀op∈#[x,y],∀b,op.act.touch?=some b->False:=fun op j b s=>by rw[BH p.2 q.2 j]at s;cases s
 intro i a F H;obtain⟨z,J,c⟩:=touch_of F
 rcases getElem?_append_cases J with⟨_,l⟩|⟨_,m⟩
 · rcases h i a (by rw[touchAt_of l];exact c) H with k|⟨r,v,L,M⟩
   ·refine .inl fun g N o=>?_
    by_cases e:g=n
    ·subst e;exact Go.ConcN.fork_knows p q h0 E (k 0 A (.inl rfl))
    ·exact(k g (by omega) o).app _
   ·have w:=lt_of_act? v
    exact .inr ⟨r,by rw[act?_old w];exact v,(heard_old w).2 L,M.app _⟩
 · exact(f z m a c).elim
theorem FreeTok.one(h:∀l,inB (· =C) l->Perm t 0 l):FreeTok C Mu n0 t n0:=fun i x a b=>.inl fun g c h0=>by
 obtain rfl:g=0:=by omega
 exact h x.loc b i x a rfl
def EF(O:Nat->Nat->Prop)(i C:Nat)(k b:Nat):Prop:=O k b∨(k=i/\b=C)
def IX(O:Nat->Nat->Prop)(i C:Nat)(k b:Nat):Prop:=O k b/\¬(k=i/\b=C)
theorem TI.take(h:TI W O D n B t)(c:∀l,inB (· =C) l->Perm t i l):TI W (EF O i C) D n B t:=by
 refine⟨h.quiet,fun k e l f=>?_,h.rd,h.nr,h.gs,h.low⟩;rcases BI (T:=O k) (U:=fun b=>k=i/\b=C) (fun b g=>g) f with a|a
 · exact h.own k e l a
 · have:k=i/\inB (· =C) l:=by cases l<;>first|exact a|exact a.elim
   obtain⟨rfl,j⟩:=this
   exact c l j
theorem TI.give(i:Nat)(h:TI W O D n B t):TI W (IX O i C) D n B t:=⟨h.quiet,fun k a l c=>h.own k a l (iC (fun b e=>e.1) c),h.rd,h.nr,h.gs,h.low⟩
theorem Own.take(h:Own (fun b=>W b∨(True/\b=C)) O D n B)(w:i<n)(m:¬W C)(d:Prop)(j:¬d):Own (fun b=>W b∨(d/\b=C)) (EF O i C) D n B:=by
 have l:∀k,k<n->¬O k C:=fun k g x=>h.ow k C g x (.inr ⟨trivial,rfl⟩)
 refine⟨?_,?_,?_,fun k b g hd o=>?_,?_,h.V7,fun b p=>?_⟩
 · rintro a c b e f (x|⟨q,r⟩) (y|⟨s,v⟩)
   ·exact h.oo a c b e f x y
   ·exact absurd (v▸x) (l a e)
   ·exact absurd (r▸y) (l c f)
   ·exact q.trans s.symm
 · rintro a c b e f (x|⟨rfl,rfl⟩) hd
   ·exact h.od a c b e f x hd
   ·exact h.dw c b f hd (.inr ⟨trivial,rfl⟩)
 · rintro a b e (x|⟨rfl,rfl⟩) (y|⟨y,_⟩)
   ·exact h.ow a b e x (.inl y)
   ·exact j y
   ·exact m y
   ·exact j y
 · exact h.dw k b g hd (o.imp id fun y=>⟨trivial,y.2⟩)
 · rintro a b e (x|⟨rfl,rfl⟩)
   ·exact h.EG a b e x
   ·exact h.vZ b (.inr ⟨trivial,rfl⟩)
 · exact h.vZ b (p.imp id fun y=>⟨trivial,y.2⟩)
theorem Own.give(h:Own (fun b=>W b∨(False/\b=C)) O D n B)(j:i<n)(k:O i C)(f:C<B)(d:Prop):Own (fun b=>W b∨(d/\b=C)) (IX O i C) D n B:=by
 refine⟨fun a c b e g x y=>h.oo a c b e g x.1 y.1,fun a c b e g x=>h.od a c b e g x.1,fun a b e x y=>?_,fun a b e hd y=>?_,fun a b e x=>h.EG a b e x.1,h.V7,fun b l=>?_⟩
 · rcases y with y|⟨_,y⟩
   ·exact h.ow a b e x.1 (.inl y)
   ·subst y;exact x.2 ⟨h.oo a i _ e j x.1 k,rfl⟩
 · rcases y with y|⟨_,rfl⟩
   ·exact h.dw a b e hd (.inl y)
   ·exact h.od i a b j e k hd
 · rcases l with y|⟨_,rfl⟩
   ·exact h.vZ b (.inl y)
   ·exact f
end
def free(j:Nat)(a:Nat->WT):Prop:=∀i,i<j->¬holds (a i)
namespace Ph
variable(p:Ph)
def fold(order:List Nat):dH:=order.foldl (fun a k=>p.f k a) p.v0
def Cell(j:Nat)(wt:Nat->WT)(w:World):Prop:=∃order:List Nat,order.Nodup/\(∀k,k∈order↔k<j/\p.locks k=true/\past (wt k))/\p.V (p.fold order)/\(∀k,k<j->∀v,wt k=.cr v->v=p.fold order)/\
 ((∀k,k<j->∀v,wt k≠.cr v)->CellIs p.oe p.C (p.fold order) w)
def locking:WT->Prop
 | .work|.fin _=>False
 | _=>True
def uN(i:Nat)(a:WT)(x:Pos):Prop:=(∃b,a=.IA (.s1 b))/\p.St i a x x.d x.g
structure dP(W:Nat->Prop)(j:Nat)(tag:eP)(c:Pos)(bl:Bool)(wt:Nat->WT)(u:Nat->Bool)(xs E:Nat->Pos)(O D:Nat->Nat->Prop)(o:Array Goroutine)(w:World)(t:Trace):Prop where
 hn0:1<=p.n0
 size:o.size=p.n0+j
 main:o[0]?=some (if bl then{c.g with status:=.blocked}else c.g)
 blk:bl=true->(∃gT,tag=.w3 gT/\M3 p.P p.L p.Wg gT c.d c.g)/\∃i,i<j/\2<=gm (wt i)
 seat:p.jR tag c
 O0:c.O=O 0
 D0:c.D=D 0
 rely:az c.O c.D c.w w
 deaf:Go.Conc.Deaf t 0=c.d
 wk:∀i,i<j->o[p.n0+i]?=some (if u i then{(xs i).g with status:=.blocked}else(xs i).g)/\p.dF i (wt i) (xs i)/\Go.Conc.Deaf t (p.n0+i)=(xs i).d
 bs:∀i,i<j->u i=true->p.uN i (wt i) (xs i)
 wO:∀i,i<j->early (wt i)->(xs i).O=O (p.n0+i)/\(xs i).D=D (p.n0+i)/\az (O (p.n0+i)) (D (p.n0+i)) (xs i).w w
 Hq:∀i,i<j->locking (wt i)->p.locks i=true
 ph:∀i,i<j->phase (wt i)
 lv:∀k,1<=k->k<p.n0->o[k]?=some (E k).g/\(∃q,QuitsD p.P q (E k).d (E k).g)/\Go.Conc.Deaf t k=(E k).d/\Gone W t k
 ti:TI W O D (p.n0+j) w.heap.size t
 own:Own (fun b=>W b∨(free j wt/\b=p.C)) O D (p.n0+j) w.heap.size
 hW:W p.Wg/\W p.Mu/\p.Wg≠p.Mu/\¬W p.C/\p.C<w.heap.size
 tok:free j wt->FreeTok p.C p.Mu p.n0 t (p.n0+j)
 hold:∀i,i<j->holds (wt i)->O (p.n0+i) p.C
 cell:p.Cell j wt w
 over:∀i,i<j->gm (wt i)<=5->∃r,Over (stA p.Wg) W t (p.n0+i) r
 norel:∀a,NoRelease a t
 mi:∃m q,MuAt p.tM p.Mu w m q/\MI p.B j (fun i=>eG (wt i)) m q/\∀i,i<j->u i=true->q=0
 md:∃a b,WgAt p.L.tWg p.Wg w a b/\Md j (fun i=>gm (wt i)) tag a b
 left:BJ p.n j tag
variable{p}{W:Nat->Prop}{j:Nat}{tag:eP}{c:Pos}{bl:Bool}{wt:Nat->WT}{u:Nat->Bool}{xs E:Nat->Pos}{O D:Nat->Nat->Prop}{o:Array Goroutine}{w w':World}{sl:Option (Nat×Nat)}{t:Trace}
theorem dP.yz(h:p.dP W j tag c bl wt u xs E O D o w t):Own W O D (p.n0+j) w.heap.size:=h.own.less fun _=>.inl
theorem dP.inv(h:p.dP W j tag c bl wt u xs E O D o w t):p.I w:=by
 obtain⟨a,b,d,_⟩:=h.md
 obtain⟨m,q,e,_⟩:=h.mi
 exact⟨⟨a,b,d⟩,_,_,e⟩
theorem jX{i:Nat}{s:WT}{x:Pos}{d:Nat}{g:Goroutine}(h:p.St i s x d g):g.status=.running:=by
 cases s<;>first|exact h.2.1|exact h.2.1.1|exact h.elim
theorem ql{i:Nat}{s:WT}{x:Pos}(h:p.dF i s x):(x.g.status=.running/\2<=gm s)∨((x.g.status=.running∨x.g.status=.finished)/\s=.fin 1):=by
 match s,h with
 | .work,h=>exact .inl ⟨dU.status (fun _ _ _ _ x=>x.1) h,by simp[gm]⟩
 | .cr v,h=>exact .inl ⟨dU.status (fun _ _ _ _ x=>x.2.1) h,by simp[gm]⟩
 | .fin 7,h=>exact .inl ⟨af.status (fun _ _ x=>x.2.1) h,by simp[gm]⟩
 | .fin 5,h=>exact .inl ⟨af.status (fun _ _ x=>x.2.1) h,by simp[gm]⟩
 | .fin 4,h=>exact .inl ⟨af.status (fun _ _ x=>x.2.1) h,by simp[gm]⟩
 | .fin 3,h=>exact .inl ⟨af.status (fun _ _ x=>x.2.1) h,by simp[gm]⟩
 | .fin 2,h=>exact .inl ⟨af.status (fun _ _ x=>x.2.1) h,by simp[gm]⟩
 | .fin 1,h=>obtain⟨q,a⟩:=h;exact .inr ⟨a.status,rfl⟩
 | .fin 0,h=>exact h.elim
 | .fin 6,h=>exact h.elim
 | .fin (s+8),h=>exact h.elim
 | .IA y,h=>exact .inl ⟨af.status (fun _ _ x=>jX (i:=i) (s:=.IA y) x) h,by simp[gm]⟩
 | .en,h=>exact .inl ⟨af.status (fun _ _ x=>jX (i:=i) (s:=.en) x) h,by simp[gm]⟩
 | .ac,h=>exact .inl ⟨af.status (fun _ _ x=>jX (i:=i) (s:=.ac) x) h,by simp[gm]⟩
 | .rl,h=>exact .inl ⟨af.status (fun _ _ z=>jX (i:=i) (s:=.rl) (x:=x) z) h,by simp[gm]⟩
 | .ds,h=>exact .inl ⟨af.status (fun _ _ z=>jX (i:=i) (s:=.ds) (x:=x) z) h,by simp[gm]⟩
 | .Oh y,h=>exact .inl ⟨af.status (fun _ _ z=>jX (i:=i) (s:=.Oh y) (x:=x) z) h,by simp[gm]⟩
 | .ue,h=>exact .inl ⟨af.status (fun _ _ z=>jX (i:=i) (s:=.ue) (x:=x) z) h,by simp[gm]⟩
theorem jH{tag:eP}{x:Pos}(h:p.jR tag x):x.g.status=.running:=by
 cases tag with
 | sp r s=>
   rcases r with _|r
   ·rcases s with _|_|s
    ·exact h.elim
    ·exact dU.status (fun _ _ _ _ x=>xk x) h
    ·exact h.elim
   ·rcases s with _|_|s
    ·exact dU.status (fun _ _ _ _ x=>x.2.1) h
    ·exact dU.status (fun _ _ _ _ x=>x.2.1) h
    ·exact h.elim
 | w1 v a A=>exact af.status (fun _ _ x=>x.2.1) h.2.2
 | w2 v a A=>exact af.status (fun _ _ x=>x.2.1) h.2.2
 | w3 a=>exact af.status (fun _ _ x=>x.2.1) h.2
 | w4 a=>exact af.status (fun _ _ x=>x.2.1) h.2
 | acq a=>exact af.status (fun _ _ x=>x.2.1) h.2
theorem dP.at(h:p.dP W j tag c bl wt u xs E O D o w t)(d:Nat):p.dP W j tag c bl wt u xs E O D o (w.at d) t:=
 ⟨h.hn0,h.size,h.main,h.blk,h.seat,h.O0,h.D0,h.rely.trans (.draw w d),h.deaf,h.wk,h.bs,fun i a b=>let⟨x,y,z⟩:=h.wO i a b;⟨x,y,z.trans (.draw w d)⟩,h.Hq,h.ph,h.lv,h.ti,h.own,h.hW,h.tok,h.hold,h.cell,h.over,h.norel,h.mi,h.md,h.left⟩
theorem dP.awake(h:p.dP W j tag c bl wt u xs E O D o w t):∀g∈o,awake g:=by
 intro g n;obtain⟨k,a⟩:=Array.mem_iff_getElem?.1 n;rcases Nat.eq_zero_or_pos k with rfl|b
 · rw[h.main]at a;cases a;intro l;cases bl with
   |true=>simp
   |false=>simp[jH h.seat]
 · have r:k<p.n0+j:=by rw[←h.size];exact(Array.getElem?_eq_some_iff.1 a).1
   rcases Nat.lt_or_ge k p.n0 with m|m
   ·obtain⟨d,⟨q,f⟩,_⟩:=h.lv k b m
    rw[d]at a;cases a;intro l;rcases f.status with e|e<;>rw[e]<;>simp
   ·obtain⟨i,rfl⟩:∃i,k=p.n0+i:=⟨k-p.n0,by omega⟩
    obtain⟨d,f,_⟩:=h.wk i (by omega)
    rw[d]at a;cases a;intro l;cases u i with
    |true=>simp
    |false=>
     simp only[Bool.false_eq_true,if_false]
     rcases ql f with⟨e,_⟩|⟨e|e,_⟩<;>rw[e]<;>simp
theorem dP.aau(h:p.dP W j tag c bl wt u xs E O D o w t):∃(i:Nat) (g:Goroutine),o[i]?=some g/\g.status=.running:=by
 cases v:bl with
 | false=>
   have:=h.main
   rw[v]at this;exact⟨0,_,this,jH h.seat⟩
 | true=>
   obtain⟨_,i,b,d⟩:=h.blk v
   have x:∀k,k<j->2<=gm (wt k)->u k=false->∃(i:Nat) (g:Goroutine),o[i]?=some g/\g.status=.running:=by
    intro k f d A;obtain⟨y,B,_⟩:=h.wk k f
    rw[A]at y;rcases ql B with⟨e,_⟩|⟨_,e⟩
    ·exact⟨_,_,y,e⟩
    ·rw[e]at d;simp[gm]at d
   cases a:u i with
   |false=>exact x i b d a
   |true=>
    obtain⟨⟨z,C⟩,_⟩:=h.bs i b a
    obtain⟨m,q,_,l,F⟩:=h.mi
    have n:=F i b a
    subst n;obtain⟨k,f,r⟩:=l.alive b (sv:=z) (by rw[C];rfl)
    refine x k f ?_ ?_
    ·revert r;cases wt k<;>simp[eG,act,gm]
    ·cases s:u k with
     |false=>rfl
     |true=>
      obtain⟨⟨H,J⟩,_⟩:=h.bs k f s
      rw[J]at r;exact r.elim
theorem dP.pick(h:p.dP W j tag c bl wt u xs E O D o w t):∃(i:Nat) (g:Goroutine) (d:Nat) (a:Option (Nat×Nat)),o[i]?=some g/\g.status=.running/\stepT p.P (crowd o w sl)=runT p.P (crowd o (w.at d) a) i:=
 crowd_pick h.awake h.aau
theorem QH{s:WT}(h:holds s):cO (eG s)=1:=by cases s<;>first|rfl|exact h.elim
theorem dP.one(h:p.dP W j tag c bl wt u xs E O D o w t){i k:Nat}(d:i<j)(f:k<j)(g:cO (eG (wt i))=1)(n:cO (eG (wt k))=1):i=k:=by
 obtain⟨m,q,_,a,_⟩:=h.mi
 have s:=a.bits.L
 have v:=a.own
 apply Classical.byContradiction;intro b;have e:=iT (lk:=fun i=>eG (wt i)) cO .out d;have l:=mW (lk:=upd (fun i=>eG (wt i)) i .out) cO f
 rw[upd_ne _ _ (fun e=>b e.symm)]at l;rw[g]at e;rw[n]at l;simp only[cO]at e;omega
end Ph
end Go.Mx
namespace Go.Mx
open Go.Ren
open Go.Conc hiding Goes mem_ofEvents
open Go.ConcN (sumTo upd upd_same upd_ne RelBy get_map_set get_map_set_same WgLive PermW)
open Go.Conc.Lib (WgLink)
open Go.ConcR (KK WgAt stA smA rd wr g_of_ofEvents loc_of_ofEvent)
theorem um{W:Nat->Prop}{C:Nat}{a b:Prop}(h:a↔b):(fun x=>W x∨(a/\x=C))=fun x=>W x∨(b/\x=C):=by
 funext x;rw[propext h]
theorem V8{W O D:Nat->Prop}{B k C:Nat}{j:Array Event}{p:FuncId}{pos:String}(i:∀e∈j,gp (Gj W k) B O D e)(q:¬W C)(l:¬O C)(n:¬D C):
   ∀op∈MemOp.ofEvents k p pos j,∀x,op.act.touch?=some x->¬inB (· =C) x.loc:=by
 intro op g x f h;rw[ofEvents_eq]at g;obtain⟨e,s,rfl⟩:=Array.mem_map.1 g;rcases i e s with⟨c,_⟩|c
 · obtain⟨b,t,u⟩:=jI (c x f).1 h;exact q (u▸t)
 · obtain⟨loc,wr,v⟩:=e
   cases loc with
   |cell a=>
    simp only[MemAct.ofEvent,MemAct.touch?,Option.some.injEq]at f;subst f;have d:a.block=C:=h
    rcases c with c|⟨c,_⟩
    ·exact l (d▸c)
    ·exact n (d▸c)
   |obj r=>
    have y:x.loc=.obj r:=by
     cases wr<;>cases v<;>simp only[MemAct.ofEvent,MemAct.touch?,Option.some.injEq,reduceCtorEq]at f
     all_goals (subst f;rfl)
    rw[y]at h;have d:r=C:=h
    rcases c with c|⟨c,_⟩
    ·exact l (d▸c)
    ·exact n (d▸c)
   |mark m=>
    have z:uT m=true:=c
    cases m<;>first|(simp[MemAct.ofEvent,MemAct.touch?]at f;done)|cases z
   |output=>simp only[MemAct.ofEvent,MemAct.touch?,Option.some.injEq]at f;subst f;exact h
   |_=>exact absurd c id
namespace Ph
variable{p:Ph}{W:Nat->Prop}{j:Nat}{tag:eP}{l:Pos}{bl:Bool}{wt:Nat->WT}{f:Nat->Bool}{xs n:Nat->Pos}{O D:Nat->Nat->Prop}{o:Array Goroutine}{w w':World}{sl:Option (Nat×Nat)}{t:Trace}
theorem BK(h:p.dP W j tag l bl wt f xs n O D o w t):bl=true->l.g.offers=none:=fun e=>by
 obtain⟨⟨b,_,a⟩,_⟩:=h.blk e
 exact a.2.2.1
theorem Gl{i:Nat}{s:WT}{x:Pos}(h:p.uN i s x):x.g.status=.running/\x.g.offers=none:=by
 obtain⟨⟨b,rfl⟩,a⟩:=h
 exact⟨a.2.1,a.2.2.1⟩
theorem dP.sleepers(h:p.dP W j tag l bl wt f xs n O D o w t)(g g':Goroutine)(w':World):∃a:Nat->Bool,∀k,k<j->woken p.P g g' w' (if f k then{(xs k).g with status:=.blocked}else(xs k).g)=(if a k then{(xs k).g with status:=.blocked}else(xs k).g)/\(a k=true->f k=true)/\
   (mayWake p.P g=true->(g'.status=.running∨g'.status=.finished)->a k=false):=by
 have:∀k,∃b:Bool,k<j->woken p.P g g' w' (if f k then{(xs k).g with status:=.blocked}else(xs k).g)=(if b then{(xs k).g with status:=.blocked}else(xs k).g)/\(b=true->f k=true)/\
   (mayWake p.P g=true->(g'.status=.running∨g'.status=.finished)->b=false):=by
   intro k;by_cases c:k<j
   ·cases e:f k with
    |true=>
     obtain⟨i,d⟩:=Gl (h.bs k c e)
     obtain⟨b,m,q,r⟩:=KT (P:=p.P) (w':=w') (g:=g) (g':=g') (x:=(xs k).g) (bl:=true) i (fun _=>d)
     exact⟨b,fun _=>⟨m,q,r⟩⟩
    |false=>
     refine⟨false,fun _=>⟨?_,fun x=>(by cases x),fun _ _=>rfl⟩⟩;simp only[Bool.false_eq_true,if_false]
     obtain⟨_,d,_⟩:=h.wk k c
     rw[woken_rf];rcases ql d with⟨x,_⟩|⟨x,_⟩
     ·exact .inl x
     ·exact x
   ·exact⟨false,fun x=>absurd x c⟩
 exact⟨fun k=>Classical.choose (this k),fun k c=>Classical.choose_spec (this k) c⟩
theorem dP.Gm(h:p.dP W j tag l bl wt f xs n O D o w t){i:Nat}(hi:i<j)(Y:f i=false){x':Pos}{es:Array Event}{s':WT}{O':Nat->Nat->Prop}
   (b1:stepG p.P false (xs i).g w=.go x'.g w' es) (hd:x'.d=deafBehind (xs i).d es) (J:p.dF i s' x') (M:w.heap.size<=w'.heap.size)
   (F:∀k,k<p.n0+j->k≠p.n0+i->az (O k) (D k) w w') (hO:∀k,k≠p.n0+i->O' k=O k)
   (b2:TI W O' D (p.n0+j) w'.heap.size (t++MemOp.ofEvents (p.n0+i) (xs i).g.frame.fn (xs i).g.frame.place es)) (Z:Own (fun b=>W b∨(free j (upd wt i s')/\b=p.C)) O' D (p.n0+j) w'.heap.size)
   (A:early s'->x'.O=O' (p.n0+i)/\x'.D=D (p.n0+i)/\az (O' (p.n0+i)) (D (p.n0+i)) x'.w w') (a0:locking s'->p.locks i=true) (b3:phase s')
   (a5:free j (upd wt i s')->FreeTok p.C p.Mu p.n0 (t++MemOp.ofEvents (p.n0+i) (xs i).g.frame.fn (xs i).g.frame.place es) (p.n0+j)) (N:holds s'->O' (p.n0+i) p.C) (Q:p.Cell j (upd wt i s') w')
   (R:gm s'<=5->∃r,Over (stA p.Wg) W (t++MemOp.ofEvents (p.n0+i) (xs i).g.frame.fn (xs i).g.frame.place es) (p.n0+i) r)
   (b4:∀e∈es,∀a,e.loc≠.mark (.release a))
   (b5:∃m q,MuAt p.tM p.Mu w' m q/\MI p.B j (fun k=>eG (upd wt i s' k)) m q/\(q=0∨(mayWake p.P (xs i).g=true/\x'.g.status=.running)∨∀k,k<j->f k=false))
   (b6:∃a b,WgAt p.L.tWg p.Wg w' a b/\Md j (fun k=>gm (upd wt i s' k)) tag a b)
   (b7:∀v:Bool,bl=true->(mayWake p.P (xs i).g=true->(x'.g.status=.running∨x'.g.status=.finished)->v=false)->v=true->∃k,k<j/\2<=gm (upd wt i s' k)):
   ∃a6 v y,runT p.P (crowd o w sl) (p.n0+i)=(.next (crowd a6 w' sl),MemOp.ofEvents (p.n0+i) (xs i).g.frame.fn (xs i).g.frame.place es)/\
    p.dP W j tag l v (upd wt i s') y (upd xs i x') n O' D a6 w' (t++MemOp.ofEvents (p.n0+i) (xs i).g.frame.fn (xs i).g.frame.place es):=by
 obtain⟨T,c1,b8⟩:=h.wk i hi
 rw[Y]at T;simp only[Bool.false_eq_true,if_false]at T;have a7:=h.size
 have x:p.n0+i≠0:=by have:=h.hn0;omega
 have a8:stepG p.P ((p.n0+i)==0) (xs i).g w=.go x'.g w' es:=by
   have:((p.n0+i)==0)=false:=by simp;omega
   rw[this];exact b1
 have a9:=runT_crowd_go (P:=p.P) (sl:=sl) T a8
 obtain⟨v,b9,b0,c0⟩:=KT (P:=p.P) (w':=w') (g:=(xs i).g) (g':=x'.g) (jH h.seat) (BK h)
 obtain⟨y,z⟩:=h.sleepers (xs i).g x'.g w';have u:∀op∈MemOp.ofEvents (p.n0+i) (xs i).g.frame.fn (xs i).g.frame.place es,op.g=p.n0+i:=g_of_ofEvents
 have H:y i=false:=by
   cases e:y i with
   |false=>rfl
   |true=>have:=(z i hi).2.1 e;rw[Y]at this;cases this
 refine⟨_,v,y,a9,h.hn0,by simpa using a7,?_,fun e=>?_,h.seat,by rw[hO 0 x.symm];exact h.O0,h.D0,h.rely.trans (by rw[h.O0,h.D0];exact F 0 (by have:=h.hn0;omega) x.symm),?_,fun k c=>?_,fun k c U=>?_,fun k c s=>?_,fun k c s=>?_,fun k c=>?_,fun k V h2=>?_,b2,Z,⟨h.hW.1,h.hW.2.1,h.hW.2.2.1,h.hW.2.2.2.1,Nat.lt_of_lt_of_le h.hW.2.2.2.2 M⟩,a5,fun k c s=>?_,Q,fun k c s=>?_,oP h.norel b4,?_,b6,h.left⟩
 · rw[get_map_set _ _ _ _ x,h.main,Option.map_some,b9]
 · obtain⟨V,_⟩:=h.blk (b0 e)
   exact⟨V,b7 v (b0 e) c0 e⟩
 · rw[Deaf_other t x _ u];exact h.deaf
 · by_cases e:k=i
   ·subst e;rw[upd_same,upd_same,H];simp only[Bool.false_eq_true,if_false]
    exact⟨get_map_set_same _ _ _ (by rw[a7];omega),J,by rw[Deaf_own,b8];exact hd.symm⟩
   ·obtain⟨V,h2,E⟩:=h.wk k c
    rw[upd_ne xs _ e,upd_ne wt _ e];refine⟨?_,h2,by rw[Deaf_other t (by omega) _ u];exact E⟩;rw[get_map_set _ _ _ _ (by omega),V,Option.map_some,(z k c).1]
 · by_cases e:k=i
   ·subst e;rw[H]at U;cases U
   ·rw[upd_ne xs _ e,upd_ne wt _ e];exact h.bs k c ((z k c).2.1 U)
 · by_cases e:k=i
   ·subst e;rw[upd_same]at s;rw[upd_same];exact A s
   ·rw[upd_ne wt _ e]at s;obtain⟨a1,a2,a3⟩:=h.wO k c s
    rw[upd_ne xs _ e,hO _ (by omega)];exact⟨a1,a2,a3.trans (F _ (by omega) (by omega))⟩
 · by_cases e:k=i
   ·subst e;rw[upd_same]at s;exact a0 s
   ·rw[upd_ne wt _ e]at s;exact h.Hq k c s
 · by_cases e:k=i
   ·subst e;rw[upd_same];exact b3
   ·rw[upd_ne wt _ e];exact h.ph k c
 · obtain⟨a1,⟨q,a2⟩,a3,a4⟩:=h.lv k V h2
   refine⟨?_,⟨q,a2⟩,by rw[Deaf_other t (by omega) _ u];exact a3,a4.appNot fun op X e=>by rw[u op X]at e;omega⟩;rw[get_map_set _ _ _ _ (by omega),a1,Option.map_some,woken_rf a2.status]
 · by_cases e:k=i
   ·subst e;rw[upd_same]at s;exact N s
   ·rw[upd_ne wt _ e]at s;rw[hO _ (by omega)];exact h.hold k c s
 · by_cases e:k=i
   ·subst e;rw[upd_same]at s;exact R s
   ·rw[upd_ne wt _ e]at s;obtain⟨r,hr⟩:=h.over k c s
    exact⟨r,hr.appNot fun op X e'=>by rw[u op X]at e';omega⟩
 · obtain⟨m,q,V,h2,E⟩:=b5
   refine⟨m,q,V,h2,fun k c U=>?_⟩;rcases E with E|⟨E,h4⟩|E
   ·exact E
   ·have:=(z k c).2.2 E (.inl h4);rw[this]at U;cases U
   ·have:=(z k c).2.1 U;rw[E k c]at this;cases this
theorem Cell.same{p:Ph}{j:Nat}{wt:Nat->WT}{w w':World}{i:Nat}{s':WT}(h:p.Cell j wt w)(y:i<j)(r:p.locks i=true->(past s'↔past (wt i)))(s:∀v,s'=.cr v↔wt i=.cr v)
   (q:(∃v,wt i=.cr v)∨w'.heap[p.C]?=w.heap[p.C]?):p.Cell j (upd wt i s') w':=by
 obtain⟨order,z,A,B,u,E⟩:=h
 refine⟨order,z,fun k=>?_,B,fun k d v e=>?_,fun x=>?_⟩
 · rw[A];by_cases e:k=i
   ·subst e;rw[upd_same];exact⟨fun⟨a,b,c⟩=>⟨a,b,(r b).2 c⟩,fun⟨a,b,c⟩=>⟨a,b,(r b).1 c⟩⟩
   ·rw[upd_ne wt _ e]
 · by_cases g:k=i
   ·subst g;rw[upd_same]at e;exact u k d v ((s v).1 e)
   ·rw[upd_ne wt _ g]at e;exact u k d v e
 · have m:∀k,k<j->∀v,wt k≠.cr v:=fun k d v e=>by
    by_cases g:k=i
    ·subst g;exact x k d v (by rw[upd_same];exact(s v).2 e)
    ·exact x k d v (by rw[upd_ne wt _ g];exact e)
   rcases q with⟨v,e⟩|q
   ·exact absurd e (m i y v)
   ·unfold CellIs;rw[q];exact E m
theorem IY{j i:Nat}{wt:Nat->WT}{s':WT}(b:i<j)(h:holds s'↔holds (wt i)):free j (upd wt i s')↔free j wt:=by
 unfold free;refine⟨fun x k a=>?_,fun x k a=>?_⟩
 · by_cases e:k=i
   ·subst e;have:=x k a;rw[upd_same]at this;exact fun y=>this (h.2 y)
   ·have:=x k a;rw[upd_ne wt _ e]at this;exact this
 · by_cases e:k=i
   ·subst e;rw[upd_same];exact fun y=>x k a (h.1 y)
   ·rw[upd_ne wt _ e];exact x k a
theorem lZ{a:Type}(g:WT->a)(wt:Nat->WT)(i:Nat)(s':WT):(fun k=>g (upd wt i s' k))=upd (fun k=>g (wt k)) i (g s'):=by
 funext k;by_cases e:k=i
 · subst e;rw[upd_same,upd_same]
 · rw[upd_ne _ _ e,upd_ne _ _ e]
theorem dP.worker(h:p.dP W j tag l bl wt f xs n O D o w t){i:Nat}(hi:i<j)(R:f i=false){x':Pos}{es:Array Event}{s':WT}
   (T:stepG p.P false (xs i).g w=.go x'.g w' es) (U:ni (Gj W (p.n0+i)) W (O (p.n0+i)) (D (p.n0+i)) w w' es) (hd:x'.d=deafBehind (xs i).d es) (F:p.dF i s' x') (hh:holds s'↔holds (wt i))
   (y:early s'->x'.O=grow (O (p.n0+i)) w w'/\x'.D=D (p.n0+i)/\az x'.O x'.D x'.w w') (V:locking s'->p.locks i=true) (a3:phase s') (H:p.Cell j (upd wt i s') w')
   (J:gm s'<=5->∃r,Over (stA p.Wg) W (t++MemOp.ofEvents (p.n0+i) (xs i).g.frame.fn (xs i).g.frame.place es) (p.n0+i) r)
   (a4:∀e∈es,∀a,e.loc≠.mark (.release a))
   (a5:∃m q,MuAt p.tM p.Mu w' m q/\MI p.B j (fun k=>eG (upd wt i s' k)) m q/\(q=0∨(mayWake p.P (xs i).g=true/\x'.g.status=.running)∨∀k,k<j->f k=false))
   (a6:∃a b,WgAt p.L.tWg p.Wg w' a b/\Md j (fun k=>gm (upd wt i s' k)) tag a b)
   (a7:∀s:Bool,bl=true->(mayWake p.P (xs i).g=true->(x'.g.status=.running∨x'.g.status=.finished)->s=false)->s=true->∃k,k<j/\2<=gm (upd wt i s' k)):
   ∃z s M O',runT p.P (crowd o w sl) (p.n0+i)=(.next (crowd z w' sl),MemOp.ofEvents (p.n0+i) (xs i).g.frame.fn (xs i).g.frame.place es)/\
    p.dP W j tag l s (upd wt i s') M (upd xs i x') n O' D z w' (t++MemOp.ofEvents (p.n0+i) (xs i).g.frame.fn (xs i).g.frame.place es):=by
 obtain⟨N,_,_⟩:=h.wk i hi
 rw[R]at N;simp only[Bool.false_eq_true,if_false]at N;have X:=h.size
 have a9:=h.hn0
 have Y:stepG p.P ((p.n0+i)==0) (xs i).g w=.go x'.g w' es:=by
   have:((p.n0+i)==0)=false:=by simp;omega
   rw[this];exact T
 have Z:=h.ti
 have A:=h.yz
 rw[←X]at Z A;have u:=h.own.grow (i:=p.n0+i) (by omega) U.size
 obtain⟨_,E,_⟩:=jY (sl:=sl) N Y Z A U
 rw[X]at E;have v:with_ O (p.n0+i) w.heap.size w'.heap.size (p.n0+i)=grow (O (p.n0+i)) w w':=uo O (p.n0+i) w w'
 have a0:=IY hi hh
 have a1:free j (upd wt i s')->FreeTok p.C p.Mu p.n0 (t++MemOp.ofEvents (p.n0+i) (xs i).g.frame.fn (xs i).g.frame.place es) (p.n0+j):=fun hf=>by
   have Q:=a0.1 hf;refine(h.tok Q).app (V8 U.ev h.hW.2.2.2.1 ?_ ?_)
   ·have a2:=u.ow (p.n0+i) p.C (by omega)
    rw[v]at a2;exact fun x=>a2 x (.inr ⟨Q,rfl⟩)
   ·exact fun x=>h.own.dw (p.n0+i) p.C (by omega) x (.inr ⟨Q,rfl⟩)
 obtain⟨z,s,M,k1,k2⟩:=h.Gm (sl:=sl) hi R T hd F U.size (fun k hk a8=>U.rely h.yz (by omega) hk a8) (fun k hk=>BL hk _ _) E
   (by rw[um a0];exact u) (fun he=>by rw[v];obtain⟨a,b,c⟩:=y he;exact⟨a,b,by rw[←a,←b];exact c⟩) V a3 a1 (fun hs=>.inl (h.hold i hi (hh.1 hs))) H J a4 a5 a6 a7
 exact⟨z,s,M,_,k1,k2⟩
end Ph
end Go.Mx
namespace Go.Mx
open Go.Ren
open Go.Conc hiding Goes mem_ofEvents
open Go.ConcN (sumTo upd upd_same upd_ne RelBy get_map_set get_map_set_same WgLive PermW)
open Go.Conc.Lib (WgLink)
open Go.ConcR (KK WgAt stA smA rd wr g_of_ofEvents loc_of_ofEvent)
theorem yB(k:Nat)(a:FuncId)(pos:String)(m:Mark):MemOp.ofEvents k a pos #[Go.ConcR.mk m]=#[(⟨k,a,pos,.mark m⟩:MemOp)]:=by rw[ofEvents_eq];simp[Go.ConcR.ofEvent_mk]
theorem qm{P:Program}{m:Bool}{I:World->Prop}{w:World}{S:Nat->Goroutine->Prop}{d:Nat}{g:Goroutine}(h:af P m I X0 S d g)(i:I w):S d g∨(¬S d g/\∃j,stepG P m g w=.go j w #[]/\af P m I X0 S d j):=by
 by_cases a:S d g
 · exact .inl a
 · cases h with
   |stop h=>exact absurd h a
   |step o f n h k=>
    have b:=h w i
    have c:n w=#[]:=Array.eq_empty_iff_forall_not_mem.2 fun e c=>(b.2 e c).1;have l:=k w i
    rw[c]at b l;exact .inr ⟨a,_,b.1,l⟩
theorem rZ.refl(Mu:Nat)(w:World):rZ Mu w w:=⟨rfl,fun _ _=>rfl,.rfl,rfl,rfl⟩
namespace Ph
variable{p:Ph}{W:Nat->Prop}{j:Nat}{tag:eP}{s:Pos}{E:Bool}{wt:Nat->WT}{f:Nat->Bool}{xs u:Nat->Pos}{O D:Nat->Nat->Prop}{A:Array Goroutine}{w w':World}{sl:Option (Nat×Nat)}{t:Trace}
def Gn(p:Ph)(j:Nat)(wt:Nat->WT)(xs:Nat->Pos)(w:World)(i:Nat)(a:WT)(d:Pos)(w':World):Prop:=
 ∃m q b c,MuAt p.tM p.Mu w m q/\m.Bits/\MuAt p.tM p.Mu w' b c/\b.Bits/\(Hl j (fun k=>eG (upd wt i a k)) c<Hl j (fun k=>eG (wt k)) q∨
   (b=m/\Hl j (fun k=>eG (upd wt i a k)) c=Hl j (fun k=>eG (wt k)) q/\(Dj m a<Dj m (wt i)∨(a=wt i/\p.ZE i (wt i) d (xs i)))))
def xm(p:Ph)(W:Nat->Prop)(j:Nat)(tag:eP)(s:Pos)(wt:Nat->WT)(xs u:Nat->Pos)(D:Nat->Nat->Prop)(t:Trace)(w:World)(i:Nat)(r:Stepped×Array MemOp)(sl:Option (Nat×Nat)):Prop:=
 ∃a w' b c d e g,r.1=.next (crowd a w' sl)/\p.dF i d e/\Gn p j wt xs w i d e w'/\p.dP W j tag s b (upd wt i d) c (upd xs i e) u g D a w' (t++r.2)
theorem dP.jn(h:p.dP W j tag s E wt f xs u O D A w t):j<=p.n:=by
 have:=h.left
 cases tag<;>simp only[BJ]at this<;>omega
theorem EH(h:p.dP W j tag s E wt f xs u O D A w t){i:Nat}(d:i<j){s':WT}(e:5<=gm (wt i))(g:gm s'=8∨gm s'=7∨gm s'=5)(l:w'.heap[p.Wg]?=w.heap[p.Wg]?):∃a b,WgAt p.L.tWg p.Wg w' a b/\Md j (fun k=>gm (upd wt i s' k)) tag a b:=by
 obtain⟨a,b,c,m⟩:=h.md
 refine⟨a,b,by unfold WgAt at c⊢;rw[l];exact c,?_⟩;rw[lZ];exact m.counted d e g
theorem BM(h:p.dP W j tag s E wt f xs u O D A w t){i:Nat}(d:i<j){s':WT}(b:2<=gm (wt i)->2<=gm s'):E=true->∃k,k<j/\2<=gm (upd wt i s' k):=fun e=>by
 obtain⟨_,k,c,a⟩:=h.blk e
 refine⟨k,c,?_⟩;by_cases e:k=i
 · subst e;rw[upd_same];exact b a
 · rw[upd_ne wt _ e];exact a
theorem O3{i:Nat}{a:WT}(b:eG a=eG (wt i)):(fun k=>eG (upd wt i a k))=fun k=>eG (wt k):=by
 rw[lZ eG];funext k;by_cases e:k=i
 · subst e;rw[upd_same];exact b
 · rw[upd_ne _ _ e]
theorem qo(h:p.dP W j tag s E wt f xs u O D A w t){i:Nat}{s':WT}{x':Pos}(b:eG s'=eG (wt i))(c:w'.heap[p.Mu]?=w.heap[p.Mu]?):
   ∃m q,MuAt p.tM p.Mu w' m q/\MI p.B j (fun k=>eG (upd wt i s' k)) m q/\(q=0∨(mayWake p.P (xs i).g=true/\x'.g.status=.running)∨∀k,k<j->f k=false):=by
 obtain⟨m,q,a,d,l⟩:=h.mi
 refine⟨m,q,by unfold MuAt at a⊢;rw[c];exact a,by rw[O3 b];exact d,?_⟩;rcases Nat.eq_zero_or_pos q with e|e
 · exact .inl e
 · refine .inr (.inr fun k n=>?_);cases o:f k with
   |false=>rfl
   |true=>have:=l k n o;omega
theorem jZ(h:p.dP W j tag s E wt f xs u O D A w t){i:Nat}{s':WT}{x':Pos}(c:eG s'=eG (wt i))(d:w'.heap[p.Mu]?=w.heap[p.Mu]?)(e:(∀m,Dj m s'<Dj m (wt i))∨(s'=wt i/\p.ZE i (wt i) x' (xs i))):Gn p j wt xs w i s' x' w':=by
 obtain⟨m,q,a,b,_⟩:=h.mi
 refine⟨m,q,m,q,a,b.bits,by unfold MuAt at a⊢;rw[d];exact a,b.bits,.inr ⟨rfl,by rw[O3 c],e.imp (fun x=>x m) id⟩⟩
theorem xq{k:Nat}{es:Array Event}(g:W p.Mu)(b:p.Mu<w.heap.size)(a:rZ p.Mu w w')(d:∀e∈es,iO p.Mu e):ni (Gj W k) W (O k) (D k) w w' es:=
 ⟨by rw[a.size];exact Nat.le_refl _,fun c _ _ i=>a.heap c fun e=>i (e▸g),a.os,a.output,a.tape,fun e h=>.inl (by have:=xu (k:=k) g b (d e h);exact⟨this.1,by rw[a.size];exact this.2⟩)⟩
theorem dP.quiet(h:p.dP W j tag s E wt f xs u O D A w t){i:Nat}(r:i<j)(L:f i=false){x:Goroutine}{n:Array Event}{s':WT}
   (M:stepG p.P false (xs i).g w=.go x w' n) (l:rZ p.Mu w w') (y:∀e∈n,iO p.Mu e) (o:p.dF i s' {xs i with d:=deafBehind (xs i).d n,g:=x}) (X:holds s'↔holds (wt i)) (N:early s'->early (wt i)) (z:locking s'->p.locks i=true) (Q:phase s')
   (Y:p.locks i=true->(past s'↔past (wt i))) (Z:∀v,s'=.cr v↔wt i=.cr v) (h5:5<=gm (wt i)) (hs:gm s'=8∨gm s'=7)
   (R:∃m q,MuAt p.tM p.Mu w' m q/\MI p.B j (fun k=>eG (upd wt i s' k)) m q/\(q=0∨(mayWake p.P (xs i).g=true/\x.status=.running)∨∀k,k<j->f k=false)):
   ∃F H T O',runT p.P (crowd A w sl) (p.n0+i)=(.next (crowd F w' sl),MemOp.ofEvents (p.n0+i) (xs i).g.frame.fn (xs i).g.frame.place n)/\
    p.dP W j tag s H (upd wt i s') T (upd xs i {xs i with d:=deafBehind (xs i).d n,g:=x}) u O' D F w' (t++MemOp.ofEvents (p.n0+i) (xs i).g.frame.fn (xs i).g.frame.place n):=by
 have U:p.Mu<w.heap.size:=h.own.vZ _ (.inl h.hW.2.1)
 have V:p.C≠p.Mu:=fun e=>h.hW.2.2.2.1 (e▸h.hW.2.1);refine h.worker (sl:=sl) r L (x':={xs i with d:=deafBehind (xs i).d n,g:=x}) M (xq h.hW.2.1 U l y) rfl o X (fun e=>?_) z Q (Cell.same h.cell r Y Z (.inr (l.heap _ V))) (fun e=>by omega) (fun e l=>gq (y e l)) R
   (EH h r h5 (by omega) (l.heap _ h.hW.2.2.1)) (fun H J _ _=>BM h r (fun _=>by omega) J)
 obtain⟨a,b,c⟩:=h.wO i r (N e)
 refine⟨by rw[O4 l.size];exact a,b,?_⟩;show az (xs i).O (xs i).D (xs i).w w';rw[a,b];refine c.trans ⟨by rw[l.size];exact Nat.le_refl _,fun b J=>l.heap b fun e=>h.yz.ow _ b (by omega) J (e▸h.hW.2.1),fun b J=>l.heap b fun e=>h.yz.dw _ b (by omega) J (e▸h.hW.2.1),l.os,l.output,l.tape⟩
theorem dP.aeL(h:p.dP W j tag s E wt f xs u O D A w t){i:Nat}(J:i<j)(v:f i=false)(L:p.uN i (wt i) (xs i))(M:∀m q,MuAt p.tM p.Mu w m q->q=0)(x:stepG p.P false (xs i).g w=.go {(xs i).g with status:=.blocked} w #[]):
   ∃c d,runT p.P (crowd A w sl) (p.n0+i)=(.next (crowd c w sl),d)/\p.dP W j tag s E wt (upd f i true) xs u O D c w (t++d):=by
 obtain⟨b,N,Q⟩:=h.wk i J
 rw[v]at b;simp only[Bool.false_eq_true,if_false]at b;have l:=h.size
 have F:p.n0+i≠0:=by have:=h.hn0;omega
 have n:stepG p.P ((p.n0+i)==0) (xs i).g w=.go {(xs i).g with status:=.blocked} w #[]:=by
   have:((p.n0+i)==0)=false:=by simp;omega
   rw[this];exact x
 have a:=runT_crowd_go (P:=p.P) (sl:=sl) b n
 have R:woken p.P (xs i).g {(xs i).g with status:=.blocked} w=id:=by funext o;simp[woken]
 rw[R,Array.map_id]at a;have T:t++MemOp.ofEvents (p.n0+i) (xs i).g.frame.fn (xs i).g.frame.place #[]=t:=by simp[MemOp.ofEvents]
 refine⟨_,_,a,?_⟩;rw[T];refine⟨h.hn0,by simpa using l,by rw[Array.getElem?_setIfInBounds_ne (by omega)];exact h.main,h.blk,h.seat,h.O0,h.D0,h.rely,h.deaf,fun k y=>?_,fun k y H=>?_,h.wO,h.Hq,h.ph,fun k r z=>?_,h.ti,h.own,h.hW,h.tok,h.hold,h.cell,h.over,h.norel,?_,h.md,h.left⟩
 · obtain⟨B,C⟩:=h.wk k y
   refine⟨?_,C⟩;by_cases e:k=i
   ·subst e;rw[upd_same];rw[Array.getElem?_setIfInBounds_self_of_lt (by rw[l];omega)];rfl
   ·rw[upd_ne f _ e,Array.getElem?_setIfInBounds_ne (by omega)];exact B
 · by_cases e:k=i
   ·subst e;exact L
   ·rw[upd_ne f _ e]at H;exact h.bs k y H
 · obtain⟨B,C⟩:=h.lv k r z
   exact⟨by rw[Array.getElem?_setIfInBounds_ne (by omega)];exact B,C⟩
 · obtain⟨m,q,r,z,_⟩:=h.mi
   exact⟨m,q,r,z,fun _ _ _=>M m q r⟩
theorem dP.take(h:p.dP W j tag s E wt f xs u O D A w t){i:Nat}(o:i<j)(V:f i=false)(M:wt i=.ac)(X:(xs i).d=0){Y:Goroutine}
   (Z:stepG p.P false (xs i).g w=.go Y w #[Go.ConcR.mk (.acquire (stA p.Mu))]) (hT:p.Qm i (xs i).O (xs i).D (xs i).w Y):
   ∃q r N v x' O' a0,runT p.P (crowd A w sl) (p.n0+i)=(.next (crowd q w sl),a0)/\p.dF i (.cr v) x'/\p.dP W j tag s r (upd wt i (.cr v)) N (upd xs i x') u O' D q w (t++a0):=by
 obtain⟨Q,b1,a6⟩:=h.wk i o
 have F:=a6
 rw[X]at F;rw[V]at Q;simp only[Bool.false_eq_true,if_false]at Q;have a1:=h.size
 have b2:=h.hn0
 have a7:p.Mu<w.heap.size:=h.own.vZ _ (.inl h.hW.2.1)
 have m:free j wt:=fun k H hh=>by
   have:=h.one o H (by rw[M];rfl) (QH hh)
   subst this;rw[M]at hh;exact hh
 obtain⟨order,c1,c2,c3,c4,c5⟩:=h.cell
 have R:=c5 fun k H v e=>m k H (by rw[e];trivial)
 obtain⟨a,b,c⟩:=h.wO i o (by rw[M];trivial)
 have a8:¬O (p.n0+i) p.C:=fun x=>h.own.ow _ _ (by omega) x (.inr ⟨m,rfl⟩)
 have a9:¬D (p.n0+i) p.C:=fun x=>h.own.dw _ _ (by omega) x (.inr ⟨m,rfl⟩)
 have b0:=hT w (p.fold order) (by rw[a,b];exact c) c3 R (by rw[a];exact a8) (by rw[b];exact a9) h.hW.2.2.2.2;have a2:∀e∈#[Go.ConcR.mk (.acquire (stA p.Mu))],iO p.Mu e:=by intro e he;rw[Array.mem_singleton]at he;exact .inr (.inr (.inr (.inl he)))
 have hG:=xq (p:=p) (k:=p.n0+i) (O:=O) (D:=D) h.hW.2.1 a7 (rZ.refl p.Mu w) a2;have a3:=h.ti
 have J:=h.yz
 rw[←a1]at a3 J;have a4:stepG p.P ((p.n0+i)==0) (xs i).g w=.go Y w #[Go.ConcR.mk (.acquire (stA p.Mu))]:=by
   have:((p.n0+i)==0)=false:=by simp;omega
   rw[this];exact Z
 obtain⟨_,L,_⟩:=jY (sl:=sl) Q a4 a3 J hG
 rw[a1,uq]at L;have e1:=yB (p.n0+i) (xs i).g.frame.fn (xs i).g.frame.place (.acquire (stA p.Mu));have T:∀l,inB (· =p.C) l->Perm (t++MemOp.ofEvents (p.n0+i) (xs i).g.frame.fn (xs i).g.frame.place #[Go.ConcR.mk (.acquire (stA p.Mu))]) (p.n0+i) l:=by rw[e1];exact(h.tok m).acquire (z:=⟨p.n0+i,(xs i).g.frame.fn,(xs i).g.frame.place,.mark (.acquire (stA p.Mu))⟩) (by show p.n0+i<p.n0+j;omega) (Nat.le_add_right _ _) rfl F (h.norel _)
 have a5:¬free j (upd wt i (.cr (p.fold order))):=fun hf=>hf i o (by rw[upd_same];trivial)
 have U:Own (fun b=>W b∨(True/\b=p.C)) O D (p.n0+j) w.heap.size:=by
   have:=h.own
   rw[um (iff_true_intro m)]at this;exact this
 have et:EF O (p.n0+i) p.C (p.n0+i)=fun b=>O (p.n0+i) b∨b=p.C:=by funext b;unfold EF;exact propext ⟨fun x=>x.imp id fun y=>y.2,fun x=>x.imp id fun y=>⟨rfl,y⟩⟩
 have n:p.dF i (.cr (p.fold order)) ⟨fun b=>(xs i).O b∨b=p.C,(xs i).D,0,Y,w⟩:=b0
 have B:p.Cell j (upd wt i (.cr (p.fold order))) w:=by
   refine⟨order,c1,fun k=>?_,c3,fun k H v e=>?_,fun hn=>absurd (upd_same wt i _) (hn i o _)⟩
   ·rw[c2];by_cases e:k=i
    ·subst e;rw[upd_same,M];exact⟨fun x=>x.2.2.elim,fun x=>x.2.2.elim⟩
    ·rw[upd_ne wt _ e]
   ·by_cases e':k=i
    ·subst e';rw[upd_same]at e;cases e;rfl
    ·rw[upd_ne wt _ e']at e;exact absurd (show holds (wt k) by rw[e];trivial) (m k H)
 obtain⟨q,r,N,k1,k2⟩:=h.Gm (sl:=sl) o V (x':=⟨fun b=>(xs i).O b∨b=p.C,(xs i).D,0,Y,w⟩) (es:=#[Go.ConcR.mk (.acquire (stA p.Mu))]) (w':=w) (s':=.cr (p.fold order)) (O':=EF O (p.n0+i) p.C) Z
   (by rw[X];rfl) n (Nat.le_refl _) (fun k H b3=>.refl _) (fun k H=>by funext b;unfold EF;exact propext ⟨fun x=>x.resolve_right fun y=>H y.1,.inl⟩) (Go.Mx.TI.take L T) (Go.Mx.Own.take U (by omega) h.hW.2.2.2.1 _ a5)
   (fun _=>⟨by show(fun b=>(xs i).O b∨b=p.C)=_;rw[et,a],b,.refl _⟩) (fun _=>h.Hq i o (by rw[M];trivial)) trivial (fun hf=>absurd hf a5) (fun _=>.inr ⟨rfl,rfl⟩) B (fun e=>by simp[gm]at e) (fun e he=>gq (a2 e he))
   (qo h (by rw[M];rfl) rfl) (EH h o (by rw[M];simp[gm]) (.inl rfl) rfl) (fun r hb _ _=>BM h o (fun _=>by simp[gm]) hb)
 exact⟨q,r,N,_,_,_,_,k1,n,k2⟩
theorem dP.give(h:p.dP W j tag s E wt f xs u O D A w t){i:Nat}(o:i<j)(M:f i=false)(B:wt i=.rl)(N:(xs i).d=0){Q:Goroutine}
   (R:stepG p.P false (xs i).g w=.go Q w #[Go.ConcR.mk (.releaseMerge (stA p.Mu))]) (F:p.dF i .ds {xs i with d:=0,g:=Q}):
   ∃c m H O' T,runT p.P (crowd A w sl) (p.n0+i)=(.next (crowd c w sl),T)/\p.dP W j tag s m (upd wt i .ds) H (upd xs i {xs i with d:=0,g:=Q}) u O' D c w (t++T):=by
 obtain⟨J,a4,a1⟩:=h.wk i o
 have q:=a1
 rw[N]at q;rw[M]at J;simp only[Bool.false_eq_true,if_false]at J;have U:=h.size
 have a5:=h.hn0
 have a2:p.Mu<w.heap.size:=h.own.vZ _ (.inl h.hW.2.1)
 have a:=h.hold i o (by rw[B];trivial)
 have V:¬free j wt:=fun hf=>hf i o (by rw[B];trivial)
 have X:∀e∈#[Go.ConcR.mk (.releaseMerge (stA p.Mu))],iO p.Mu e:=by intro e he;rw[Array.mem_singleton]at he;exact .inr (.inr (.inl he))
 have hG:=xq (p:=p) (k:=p.n0+i) (O:=O) (D:=D) h.hW.2.1 a2 (rZ.refl p.Mu w) X;have Y:=h.ti
 have r:=h.yz
 rw[←U]at Y r;have Z:stepG p.P ((p.n0+i)==0) (xs i).g w=.go Q w #[Go.ConcR.mk (.releaseMerge (stA p.Mu))]:=by
   have:((p.n0+i)==0)=false:=by simp;omega
   rw[this];exact R
 obtain⟨_,z,_⟩:=jY (sl:=sl) J Z Y r hG
 rw[U,uq]at z;have e1:=yB (p.n0+i) (xs i).g.frame.fn (xs i).g.frame.place (.releaseMerge (stA p.Mu));have L:Own (fun b=>W b∨(False/\b=p.C)) O D (p.n0+j) w.heap.size:=by
   have:=h.own
   rw[um (iff_false_intro V)]at this;exact this
 have a3:∀k,k≠p.n0+i->IX O (p.n0+i) p.C k=O k:=fun k hk=>by funext b;unfold IX;exact propext ⟨fun x=>x.1,fun x=>⟨x,fun e=>hk e.1⟩⟩
 have a0:free j (upd wt i .ds)->FreeTok p.C p.Mu p.n0 (t++MemOp.ofEvents (p.n0+i) (xs i).g.frame.fn (xs i).g.frame.place #[Go.ConcR.mk (.releaseMerge (stA p.Mu))]) (p.n0+j):=fun _=>by rw[e1];exact FreeTok.release (y:=⟨p.n0+i,(xs i).g.frame.fn,(xs i).g.frame.place,.mark (.releaseMerge (stA p.Mu))⟩) (fun l hl=>h.ti.own (p.n0+i) (by omega) l (iC (fun b (hb:b=p.C)=>hb▸a) hl)) rfl q
 have n:p.Cell j (upd wt i .ds) w:=Cell.same h.cell o (fun _=>by rw[B];exact⟨fun _=>trivial,fun _=>trivial⟩) (fun v=>by rw[B];exact⟨fun e=>(by cases e),fun e=>(by cases e)⟩) (.inr rfl)
 obtain⟨c,m,H,k1,k2⟩:=h.Gm (sl:=sl) o M (x':={xs i with d:=0,g:=Q}) (es:=#[Go.ConcR.mk (.releaseMerge (stA p.Mu))]) (w':=w) (s':=.ds) (O':=IX O (p.n0+i) p.C) R
   (by rw[N];rfl) F (Nat.le_refl _) (fun k hk a6=>.refl _) a3 (Go.Mx.TI.give (p.n0+i) z) (Go.Mx.Own.give L (i:=p.n0+i) (by omega) a h.hW.2.2.2.2 _)
   (fun e=>e.elim) (fun _=>h.Hq i o (by rw[B];trivial)) trivial a0 (fun e=>e.elim) n (fun e=>by simp[gm]at e) (fun e he=>gq (X e he))
   (qo h (by rw[B];rfl) rfl) (EH h o (by rw[B];simp[gm]) (.inl rfl) rfl) (fun m hb _ _=>BM h o (fun _=>by simp[gm]) hb)
 exact⟨c,m,H,_,_,k1,k2⟩
end Ph
end Go.Mx
