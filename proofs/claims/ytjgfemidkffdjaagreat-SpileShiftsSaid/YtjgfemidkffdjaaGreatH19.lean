import Derived.Conc.WgGenAddNeg
import Derived.Laws.LoneSync
import Derived.Conc.Own4
import Derived.Test.YtjgfemidkffdjaaGreatH18
set_option linter.all false
namespace Go.Mx
open Go.Ren Go.Sy
open Go.Conc hiding Goes
open Go.Conc.Locks
open Go.ConcR (stA smA)
section
variable{P:Program}{L:ag}{I:World->Prop}{tM:TypeId}{Mu B:Nat}{cs:List Frame}{d:Nat}{g:Goroutine}{wst it tv:Int}{o:Wd}{nw:Int}{Q:Nat->Goroutine->Prop}
theorem vH{w:World}(v:Value):tq Mu w (w.setCell (mA Mu) v):=Ti (a:=mA Mu) rfl v
theorem Yf{w:World}(v:Value):tq Mu w (w.setCell (sA Mu) v):=Ti (a:=sA Mu) rfl v
theorem lZ{w:World}:tq Mu w w:=⟨rfl,fun _ _=>rfl,.rfl,rfl,rfl⟩
theorem aeZ{m:Wd}(c:m.Bits)(j:m.n<63)(f:m.L=0)(h:m.W=0)(b:m.S=1)(k:1<=m.n)(a:Bool):IntKind.i32.wrap ((m.num:Int)+(if a then-11 else-7))=((⟨1,m.W,if a then 0 else m.S,m.n-1⟩:Wd).num:Nat):=by
 have i:(⟨1,m.W,if a then 0 else m.S,m.n-1⟩:Wd).Bits:=⟨Nat.le_refl _,c.W,by cases a<;>simp[b]⟩
 have e:(m.num:Int)+(if a=true then-11 else-7)=((⟨1,m.W,if a then 0 else m.S,m.n-1⟩:Wd).num:Nat):=by
  unfold Wd.num;dsimp only
  cases a<;>simp[f,h,b]<;>omega
 rw[e];exact X8 i (by dsimp only;omega)
theorem UU{k:IntKind}{z:Int}{a:Nat->Value}:(E.i k z).den a=.int k z:=rfl
def r4:List (E×E):=[(.v 0,.v 0),(.v 1,.v 1),(.v 2,.v 2),(.v 3,.v 3)]
theorem GR{a b c:Int}{o':Wd}:∀p∈r4,p.1.den (nu Mu wst it tv o nw)=p.2.den (nu Mu wst a b o' c):=by
 intro p e;simp only[r4,List.mem_cons,List.not_mem_nil,or_false]at e;rcases e with rfl|rfl|rfl|rfl
 ·exact jW.trans jW.symm
 ·exact kD.trans kD.symm
 ·exact yM.trans yM.symm
 ·exact Bc.trans Bc.symm
theorem ae0(L:ag)(b a:Bool):(Go.Sy.sub (t1S L b a).env (t1S L b a).env).all (mO r4)=true:=by cases b<;>cases a<;>kernel_rfl
theorem ae1(L:ag):(Go.Sy.sub (t2S L).env (t2S L).env).all (mO r4)=true:=by kernel_rfl
theorem ae2(L:ag)(a:Bool):(Go.Sy.sub (Yb L a).env (Yb L a).env).all (mO r4)=true:=by cases a<;>kernel_rfl
theorem ahJ:∀p∈r0,p.1.den (nu Mu 0 0 0 o 0)=p.2.den (nu Mu 0 ((0:Nat):Int) 0 o 0):=by
 intro p a;simp only[r0,List.mem_cons,List.not_mem_nil,or_false]at a;rcases a with rfl|rfl|rfl|rfl
 ·exact jW.trans jW.symm
 ·exact kD.trans kD.symm
 ·exact Bc.symm
 ·exact IK.symm
variable(H:fC P L)(hB:B<63)
include H hB
theorem ae3{E:Nat->Goroutine->Prop}{T:Lo}(h:UR L Mu cs (.c1 T) d g):EN P I tM Mu B (Nx (RL P L I Mu cs) E) (.c1 T) d g:=by
 obtain⟨rfl,haw,wst,A,hz,ha,rfl⟩:=h
 refine⟨rfl,rfl,rfl,fun e=>(by cases e),fun w m q hw hm hf=>.inr ?_⟩;obtain⟨gY,hnB,hq1,⟨⟨ob,on,osv,oaw,oit⟩,oL,oS,oW,on0,_,ajP⟩,_⟩:=hf
 obtain⟨old,aw,sv,it⟩:=T
 dsimp only at ha ob on osv oaw oit oL oS oW on0 haw ajP⊢;subst haw;have hsm:Small old:=⟨ob,by omega⟩
 have hT:=kC H (Mu:=Mu) (wst:=wst) (it:=it) (tv:=0) (nw:=0) hsm.1 hsm.2;by_cases hmo:m=old
 ·subst hmo;obtain⟨g',hb,hst⟩:=BB (P:=P) (m:=false) (b:=base L.mu.lockSlow) (ds:=[]) (cs:=cs) (ady L sv) hz ha kb H.lib.f_cas32 (pg L) (pq L) (pz L) (pF L) (ad:=mA Mu) kD tJ SH
  refine⟨.rd true sv (it+1),⟨m.L,1,m.S,m.n⟩,q,g',_,_,.c1y rfl,hst w hm.state (hm.thaw 0),hm.setState (aeU hsm.1 hsm.2),vH _,EU,fun e=>(by cases e),?_⟩;rw[EW];exact(aeD L _ _ _ _ _ _ _ sv).walk hT jy kb hb fun g'' hb'=>Ld H hB hsm oit hb'
 ·obtain⟨g',hb,hst⟩:=xC (P:=P) (m:=false) (b:=base L.mu.lockSlow) (ds:=[]) (cs:=cs) (ady L sv) hz ha kb H.lib.f_cas32 (pg L) (pq L) (pz L) (pF L) (ad:=mA Mu) kD tJ SH
  refine⟨.rd false sv (it+1),m,q,g',_,_,.c1n hmo,hst w _ hm.state (hm.thaw 0) (NM gY ob hmo),hm,lZ,abC,fun e=>(by cases e),?_⟩;rw[abD];exact(aeE L _ _ _ _ _ _ _ sv).walk hT jy kb hb fun g'' hb'=>Ld H hB hsm oit hb'
theorem ae4(hQ:∀wst it o g,Bh L cs (nu Mu wst it 0 o 0) (W9 L) g->af P false I X0 Q 1 g){T:Lo}(h:UR L Mu cs (.c2 T) d g):EN P I tM Mu B (Nx (RL P L I Mu cs) (af P false I X0 Q)) (.c2 T) d g:=by
 obtain⟨rfl,wst,A,hz,ha,rfl⟩:=h
 refine⟨rfl,rfl,rfl,fun e=>(by cases e),fun w m q hw hm hf=>.inr ?_⟩;obtain⟨gY,hnB,hq1,⟨ob,on,osv,oaw,oit⟩,_⟩:=hf
 obtain⟨old,aw,sv,it⟩:=T
 dsimp only at ha ob on osv oaw oit⊢;have hsm:Small old:=⟨ob,by omega⟩
 have hT:=kC H (Mu:=Mu) (wst:=wst) (it:=it) (tv:=0) (nw:=(qQ ⟨old,aw,sv,it⟩).num) hsm.1 hsm.2;have oL:=ob.L
 have oS:=ob.S
 by_cases hmo:m=old
 ·subst hmo;obtain⟨g',hb,hst⟩:=BB (P:=P) (m:=false) (b:=base L.mu.lockSlow) (ds:=[]) (cs:=cs) (adz L aw sv) hz ha kb H.lib.f_cas32 (pg L) (pq L) (pz L) (pF L) (ad:=mA Mu) kD tJ Ya
  have hgo:=hst w hm.state (hm.thaw 0)
  have hmu:=hm.setState (m':=qQ ⟨m,aw,sv,it⟩) (v:=((qQ ⟨m,aw,sv,it⟩).num:Nat)) rfl
  by_cases h0:m.L=0/\m.S=0
  ·have hnw:qQ ⟨m,aw,sv,it⟩=⟨1,if aw then 0 else m.W,0,m.n⟩:=by unfold qQ;rw[if_pos h0]
   refine⟨.own,_,q,g',_,_,.c2l rfl h0,hgo,by rw[←hnw];exact hmu,vH _,EU,fun e=>(by cases e),?_⟩;rw[EW];show af P false I X0 Q 1 g';rw[fQ (wC h0.1) rfl (wC h0.2)]at hT;exact(aeG L _ _ _ _ _ aw sv).walk hT jy kb hb fun g'' hb'=>hQ _ _ _ _ hb'
  ·have hnw:qQ ⟨m,aw,sv,it⟩=⟨m.L,if aw then 0 else m.W,if sv=true/\m.L=1 then 1 else m.S,m.n+1⟩:=by unfold qQ;rw[if_neg h0]
   have hcase:m.L=1∨(m.L=0/\m.S=1):=by omega
   by_cases hws:wst=0
   ·refine⟨.t1 sv,_,q,g',_,_,.c2q rfl h0 (.inl rfl),hgo,by rw[←hnw];exact hmu,vH _,EU,fun e=>(by cases e),?_⟩;rw[EW];show af P false I X0 _ 1 g';rcases hcase with hl|⟨hl,hs⟩
    ·rw[fQ (EX hl) rfl rfl,show(wst==0)=true from by simpa using hws]at hT;exact((Yc L _ _ _ _ _ aw sv).1).walk hT jy kb hb fun g'' hb'=>.stop ⟨rfl,wst,it,m,false,hsm,hb'⟩
    ·rw[fQ (wC hl) rfl (EX hs),show(wst==0)=true from by simpa using hws]at hT;exact((Yc L _ true _ _ _ aw sv).2).walk hT jy kb hb fun g'' hb'=>.stop ⟨rfl,wst,it,m,false,hsm,hb'⟩
   ·refine⟨.s1 sv,_,q,g',_,_,.c2q rfl h0 (.inr rfl),hgo,by rw[←hnw];exact hmu,vH _,EU,fun e=>(by cases e),?_⟩;rw[EW];show af P false I X0 _ 1 g';rcases hcase with hl|⟨hl,hs⟩
    ·rw[fQ (EX hl) rfl rfl,show(wst==0)=false from by simpa using hws]at hT;exact((Yd L _ _ _ _ _ aw sv).1).walk hT jy kb hb fun g'' hb'=>.stop ⟨rfl,wst,it,m,true,hsm,hb'⟩
    ·rw[fQ (wC hl) rfl (EX hs),show(wst==0)=false from by simpa using hws]at hT;exact((Yd L _ true _ _ _ aw sv).2).walk hT jy kb hb fun g'' hb'=>.stop ⟨rfl,wst,it,m,true,hsm,hb'⟩
 ·obtain⟨g',hb,hst⟩:=xC (P:=P) (m:=false) (b:=base L.mu.lockSlow) (ds:=[]) (cs:=cs) (adz L aw sv) hz ha kb H.lib.f_cas32 (pg L) (pq L) (pz L) (pF L) (ad:=mA Mu) kD tJ Ya
  refine⟨.rd aw sv it,m,q,g',_,_,.c2n hmo,hst w _ hm.state (hm.thaw 0) (NM gY ob hmo),hm,lZ,abC,fun e=>(by cases e),?_⟩;rw[abD];exact(aeF L _ _ _ _ _ _ _ aw sv).walk hT jy kb hb fun g'' hb'=>.stop ⟨rfl,wst,old,.c,hb'⟩
theorem ae5{E:Nat->Goroutine->Prop}{sv:Bool}(h:UR L Mu cs (.t1 sv) d g):EN P I tM Mu B (Nx (RL P L I Mu cs) E) (.t1 sv) d g:=by
 obtain⟨rfl,wst,it,o,IM,hsm,A,hz,ha,rfl⟩:=h
 refine⟨rfl,rfl,rfl,fun e=>(by cases e),fun w m q hw hm hf=>.inr ?_⟩;obtain⟨tv,htv⟩:∃tv:Int,((w.os.mono+w.tick:Nat):Int)=tv:=⟨_,rfl⟩
 have hT:=kC H (Mu:=Mu) (wst:=wst) (it:=it) (tv:=tv) (nw:=0) hsm.1 hsm.2;have ha':Agree (nu Mu wst it tv o 0) (t1S L sv IM).env A:=qR r4 (ae0 L sv IM) GR ha
 obtain⟨g',hb,hst⟩:=SB (P:=P) (m:=false) (b:=base L.mu.lockSlow) (ds:=[]) (cs:=cs) (z:=some (.v 20)) (ahB L sv IM) hz ha' kb H.XR (KW L) (KX L) (KY L) (KZ L) (La L) tv (fun u hu=>by cases hu;exact X9.symm)
 refine⟨.s1 sv,m,q,g',w.later,#[],.t1,hst w htv,hm,GM,by simp,fun e=>(by cases e),?_⟩;show af P false I X0 _ 1 g';refine(ahw L _ _ _ _ _ _ _ sv IM).walk (BF:=nu Mu tv it 0 o 0) hT (fun p hp=>?_) kb hb fun g'' hb'=>.stop ⟨rfl,tv,it,o,IM,hsm,hb'⟩;simp only[List.mem_cons,List.not_mem_nil,or_false]at hp;rcases hp with rfl|rfl|rfl
 ·exact jW.trans jW.symm
 ·exact yM.trans yM.symm
 ·exact X9.trans Bc.symm
theorem ae6{E:Nat->Goroutine->Prop}{sv:Bool}(h:UR L Mu cs (.s1 sv) d g):EN P I tM Mu B (Nx (RL P L I Mu cs) E) (.s1 sv) d g:=by
 obtain⟨rfl,wst,it,o,IM,hsm,A,hz,ha,rfl⟩:=h
 refine⟨rfl,rfl,rfl,fun e=>(by cases e),fun w m q hw hm hf=>?_⟩;have hT:=kC H (Mu:=Mu) (wst:=wst) (it:=it) (tv:=0) (nw:=0) hsm.1 hsm.2;obtain⟨g',hb,hst,ahK⟩:=UQ (P:=P) (m:=false) (b:=base L.mu.lockSlow) (ds:=[]) (cs:=cs) (z:=none) rfl (ahC L sv IM) hz ha kb H.XT (aby L) (abz L) (abA L) (abB L) (ad:=sA Mu) yM
 rcases q with _|q
 ·exact .inl ⟨⟨sv,rfl⟩,rfl,ahK w hm.sema⟩
 ·refine .inr ⟨if sv then .r2 true else .t2,m,q,g',_,_,.s1,hst w _ hm.sema (by omega) (hm.thaw 1),hm.IL (by omega),Yf _,aeP,fun e=>(by cases e),?_⟩;rw[aeQ];cases sv with
  |true=>exact(aeI L _ _ _ _ _ _ _ IM).walk hT jy kb hb fun g'' hb'=>.stop ⟨rfl,wst,it,o,hsm,hb'⟩
  |false=>exact(aeH L _ _ _ _ _ _ _ IM).walk hT jy kb hb fun g'' hb'=>.stop ⟨rfl,wst,it,o,hsm,hb'⟩
theorem ae7{E:Nat->Goroutine->Prop}(h:UR L Mu cs .t2 d g):EN P I tM Mu B (Nx (RL P L I Mu cs) E) .t2 d g:=by
 obtain⟨rfl,wst,it,o,hsm,A,hz,ha,rfl⟩:=h
 refine⟨rfl,rfl,rfl,fun e=>(by cases e),fun w m q hw hm hf=>.inr ?_⟩;obtain⟨tv,htv⟩:∃tv:Int,((w.os.mono+w.tick:Nat):Int)=tv:=⟨_,rfl⟩
 have hT:=kC H (Mu:=Mu) (wst:=wst) (it:=it) (tv:=tv) (nw:=0) hsm.1 hsm.2;have ha':Agree (nu Mu wst it tv o 0) (t2S L).env A:=qR r4 (ae1 L) GR ha
 obtain⟨g',hb,hst⟩:=SB (P:=P) (m:=false) (b:=base L.mu.lockSlow) (ds:=[]) (cs:=cs) (z:=some (.v 20)) (ahD L) hz ha' kb H.XR (KW L) (KX L) (KY L) (KZ L) (La L) tv (fun u hu=>by cases hu;exact X9.symm)
 refine⟨.r2 (decide (IntKind.i64.wrap (tv-wst)>1000000)),m,q,g',w.later,#[],.t2,hst w htv,hm,GM,by simp,fun e=>(by cases e),?_⟩;show af P false I X0 _ 1 g';exact(ahx L _ _ _ _ _ _ (decide (IntKind.i64.wrap (tv-wst)>1000000))).walk hT jy kb hb fun g'' hb'=>.stop ⟨rfl,wst,it,o,hsm,hb'⟩
theorem ae8{E:Nat->Goroutine->Prop}{sv:Bool}(h:UR L Mu cs (.r2 sv) d g):EN P I tM Mu B (Nx (RL P L I Mu cs) E) (.r2 sv) d g:=by
 obtain⟨rfl,wst,it,o,hsm,A,hz,ha,rfl⟩:=h
 refine⟨rfl,rfl,rfl,fun e=>(by cases e),fun w m q hw hm hf=>.inr ?_⟩;obtain⟨gY,hnB,hq1,hwf,hm0,hm1⟩:=hf
 have hms:Small m:=⟨gY,by omega⟩
 have ha':Agree (nu Mu wst it 0 m 0) (Yb L sv).env A:=qR r4 (ae2 L sv) GR ha
 have hT:=kC H (Mu:=Mu) (wst:=wst) (it:=it) (tv:=0) (nw:=0) hms.1 hms.2;obtain⟨g',hb,hstep⟩:=BC (P:=P) (m:=false) (b:=base L.mu.lockSlow) (ds:=[]) (cs:=cs) (z:=some (.v 4)) H.lib.runUnderlying_t21 H.lib.sizeOf_t21 H.lib.isAgg_t21 (ahE L sv) hz ha' kb (Lc H) (ad:=mA Mu) kD (v:=(m.num:Int)) (fun u hu=>by cases hu;exact tJ.symm)
 have hS:=gY.S
 by_cases h0:m.S=0
 ·refine⟨hd ⟨m,true,sv,0⟩,m,q,g',w,#[],.r2n h0,hstep w hm.state,hm,lZ,by simp,fun e=>(by cases e),ahH (NH _) ?_⟩;show af P false I X0 _ 1 g';rw[fQ rfl rfl (wC h0)]at hT;refine(aeJ L _ _ _ _ _ _ sv).walk (BF:=nu Mu wst ((0:Nat):Int) 0 m 0) hT (fun p hp=>?_) kb hb fun g'' hb'=>Tj H gY (by omega) (fun _=>⟨hm0 h0,h0⟩) (fun _=>rfl) hb'
  simp only[List.mem_cons,List.not_mem_nil,or_false]at hp;rcases hp with rfl|rfl|rfl|rfl
  ·exact jW.trans jW.symm
  ·exact Bc.trans Bc.symm
  ·exact tJ.trans tJ.symm
  ·exact IK.symm
 ·have h1:m.S=1:=by omega
  obtain⟨hL,hW,hn⟩:=hm1 h1
  refine⟨.a1 sv (!sv||decide (m.n=1)),m,q,g',w,#[],.r2s h1,hstep w hm.state,hm,lZ,by simp,fun e=>(by cases e),?_⟩;show af P false I X0 _ 1 g';have hn0:(m.n==0)=false:=by simp;omega
  obtain⟨k1,k2,k3⟩:=aeK L (m.n==1) (wst==0) (decide (IntKind.i64.wrap (0-wst)>1000000))
  rw[fQ (wC hL) (wC hW) (EX h1),hn0]at hT;cases sv with
  |false=>exact k1.walk hT jy kb hb fun g'' hb'=>.stop ⟨rfl,wst,it,m,hms,hb'⟩
  |true=>
   by_cases hn1:m.n=1
   ·rw[show(m.n==1)=true from by simpa using hn1]at hT;refine k2.walk (BF:=nu Mu wst it 0 m 0) hT jy kb hb fun g'' hb'=>.stop ⟨rfl,wst,it,m,hms,?_⟩;rw[show(!true||decide (m.n=1))=true from by simp[hn1]];exact hb'
   ·rw[show(m.n==1)=false from by simpa using hn1]at hT;refine k3.walk (BF:=nu Mu wst it 0 m 0) hT jy kb hb fun g'' hb'=>.stop ⟨rfl,wst,it,m,hms,?_⟩;rw[show(!true||decide (m.n=1))=false from by simp[hn1]];exact hb'
theorem ae9(hQ:∀wst it o g,Bh L cs (nu Mu wst it 0 o 0) (W9 L) g->af P false I X0 Q 1 g){sv cl:Bool}(h:UR L Mu cs (.a1 sv cl) d g):EN P I tM Mu B (Nx (RL P L I Mu cs) (af P false I X0 Q)) (.a1 sv cl) d g:=by
 obtain⟨rfl,wst,it,o,hsm,A,hz,ha,rfl⟩:=h
 refine⟨rfl,rfl,rfl,fun e=>(by cases e),fun w m q hw hm hf=>.inr ?_⟩;obtain⟨gY,hnB,hq1,hwf,hS,hL,hW,hn⟩:=hf
 have hT:=kC H (Mu:=Mu) (wst:=wst) (it:=it) (tv:=0) (nw:=0) hsm.1 hsm.2;obtain⟨g',hb,hst⟩:=X5 (P:=P) (m:=false) (b:=base L.mu.lockSlow) (ds:=[]) (cs:=cs) (z:=none) (v:=(m.num:Int)) (ahG L (if cl then-11 else-7)) hz ha kb H.lib.f_add32 (SL L) (SN L) (SQ L) (SS L) (ad:=mA Mu) kD UU (fun y hy=>by cases hy)
 refine⟨.own,_,q,g',_,_,.a1,hst w hm.state (hm.thaw 0),hm.setState (aeZ gY (by omega) hL hW hS hn cl),vH _,EU,fun e=>(by cases e),?_⟩;rw[EW];show af P false I X0 Q 1 g';exact(ahy L _ _).walk hT jy kb hb fun g'' hb'=>hQ _ _ _ _ hb'
theorem afa(b:∀wst it o g,Bh L cs (nu Mu wst it 0 o 0) (W9 L) g->af P false I X0 Q 1 g){y:Lk}(h:UR L Mu cs y d g):EN P I tM Mu B (Nx (RL P L I Mu cs) (af P false I X0 Q)) y d g:=by
 cases y with
 |rd c a it=>exact aeX H hB h
 |sq T=>exact aeY H hB h
 |c1 T=>exact ae3 H hB h
 |c2 T=>exact ae4 H hB b h
 |t1 a=>exact ae5 H hB h
 |s1 a=>exact ae6 H hB h
 |t2=>exact ae7 H hB h
 |r2 a=>exact ae8 H hB h
 |a1 a p=>exact ae9 H hB b h
 |_=>exact h.2.elim
theorem abG(hQ:∀wst it o g,Bh L cs (nu Mu wst it 0 o 0) (W9 L) g->af P false I X0 Q 1 g){A:Array Value}(hz:A.size=139)(h0:A[0]?=some (.pointer (some ⟨Mu,0,none⟩))):iV P I tM Mu B (af P false I X0 Q) (.rd false false 0) 1 (G ((base L.mu.lockSlow).at ⟨A,[]⟩ [.code (Dj L)]) cs):=by
 refine⟨RL P L I Mu cs,fun y d g hr=>hr.mono fun d g k=>afa H hB hQ k,?_⟩;have ha:Agree (nu Mu 0 0 0 ⟨0,0,0,0⟩ 0) (enS L).env A:=by
  intro k x hx;unfold enS fresh Go.Sy.get at hx;split at hx
  ·rename_i e;cases hx;have:0=k:=by simpa using e
   subst this;rw[h0];exact congrArg some (jW.symm:_=(E.v 0).den (nu Mu 0 0 0 ⟨0,0,0,0⟩ 0))
  ·cases hx
 have hs:Small ⟨0,0,0,0⟩:=⟨⟨Nat.zero_le _,Nat.zero_le _,Nat.zero_le _⟩,by decide⟩
 have hT:=kC H (Mu:=Mu) (wst:=0) (it:=0) (tv:=0) (nw:=0) hs.1 hs.2;exact(ahk L _ _ _ _ _ _ _).walk (BF:=nu Mu 0 ((0:Nat):Int) 0 ⟨0,0,0,0⟩ 0) hT ahJ kb ⟨A,hz,ha,rfl⟩ fun g'' hb'=>.stop ⟨rfl,0,⟨0,0,0,0⟩,.a,hb'⟩
end
end Go.Mx
namespace Go.Mx
open Go.Ren Go.Sy
open Go.Conc hiding Goes
open Go.Conc.Locks
open Go.ConcR (stA smA)
def Yg(L:ag):Code:=(jq L).body.getD .skip
def uEn(L:ag):S:=fresh [(0,some (.v 0)),(1,some (.v 4))] [.code (Yg L)]
def TU:Tab:=pM false false false false false
def ucR(L:ag):S:=run 43 TU 54 (uEn L)
def u1R(L:ag):S:=run 43 TU 7 (next (ucR L) (some (.b true)))
def uxR(L:ag):S:=run 43 TU 7 (next (ucR L) (some (.b false)))
def u2R(L:ag):S:=run 43 (pM false false true false false) 21 (uEn L)
def ajS(L:ag):S:=run 43 (pM false true false false false) 60 (uEn L)
def ucS(L:ag):S:=fresh [(0,some (.v 0)),(27,some (.v 1)),(28,some (.v 4)),(29,some (.v 42))] (ucR L).todo
def Yh(L:ag):S:=fresh [(0,some (.v 0)),(37,some (.v 1))] (uxR L).todo
def u1S(L:ag):S:=fresh [(33,some (.v 2))] (u1R L).todo
def u2S(L:ag):S:=fresh [(41,some (.v 2))] (u2R L).todo
def Lh(L:ag):S:=fresh [] (ajS L).todo
def adA(L:ag):S:=fresh [] (run 43 TU 1 (next (u1R L) none)).todo
def ahL:S:=fresh [] []
def r5:List (E×E):=[(.v 0,.v 0),(.v 1,.v 1),(.v 2,.v 2),(.v 4,.v 4),(.v 42,.v 42)]
section
variable(L:ag)
def GU(t:List Item):Bool:=match t with
 | []=>true
 | .code .ret::_=>true
 |_=>false
theorem Yi:GU (Lh L).todo=true:=by kernel_rfl
theorem ahM:GU (adA L).todo=true:=by kernel_rfl
section
variable(w s n0 n1:Bool)
theorem ajT:To L.mu.tIMutex 43 (pM false true false n0 n1) 60 0 (uEn L) (Lh L) r5:=by cases n0<;>exact⟨by kernel_rfl,by kernel_rfl,by kernel_rfl⟩
theorem ajU:To L.mu.tIMutex 43 (pM false w false true n1) 60 0 (uEn L) (Lh L) r5:=by cases w<;>exact⟨by kernel_rfl,by kernel_rfl,by kernel_rfl⟩
theorem ajV:To L.mu.tIMutex 43 (pM false false false false n1) 60 1 (uEn L) (ucS L) r5:=⟨by kernel_rfl,by kernel_rfl,by kernel_rfl⟩
theorem ajW:To L.mu.tIMutex 43 (pM false w true n0 n1) 60 1 (uEn L) (u2S L) r5:=⟨by kernel_rfl,by kernel_rfl,by kernel_rfl⟩
theorem ajX(l:Bool):To L.mu.tIMutex 43 (pM l w s n0 n1) 7 1 (next (ucS L) (some (.b true))) (u1S L) r5:=⟨by kernel_rfl,by kernel_rfl,by kernel_rfl⟩
theorem ajY(l:Bool):To L.mu.tIMutex 43 (pM l w s n0 n1) 7 1 (next (ucS L) (some (.b false))) (Yh L) r5:=⟨by kernel_rfl,by kernel_rfl,by kernel_rfl⟩
theorem ajZ(l:Bool):To L.mu.tIMutex 43 (pM l w s true n1) 60 0 (next (Yh L) (some (.v 4))) (Lh L) r5:=by cases l<;>cases w<;>cases s<;>exact⟨by kernel_rfl,by kernel_rfl,by kernel_rfl⟩
theorem aj0:To L.mu.tIMutex 43 (pM true w s false n1) 60 0 (next (Yh L) (some (.v 4))) (Lh L) r5:=by cases w<;>cases s<;>exact⟨by kernel_rfl,by kernel_rfl,by kernel_rfl⟩
theorem aj1(l:Bool):To L.mu.tIMutex 43 (pM l true s false n1) 60 0 (next (Yh L) (some (.v 4))) (Lh L) r5:=by cases l<;>cases s<;>exact⟨by kernel_rfl,by kernel_rfl,by kernel_rfl⟩
theorem aj2(l:Bool):To L.mu.tIMutex 43 (pM l w true false n1) 60 0 (next (Yh L) (some (.v 4))) (Lh L) r5:=by cases l<;>cases w<;>exact⟨by kernel_rfl,by kernel_rfl,by kernel_rfl⟩
theorem aj3:To L.mu.tIMutex 43 (pM false false false false n1) 60 1 (next (Yh L) (some (.v 4))) (ucS L) r5:=⟨by kernel_rfl,by kernel_rfl,by kernel_rfl⟩
theorem aj6(l:Bool):To L.mu.tIMutex 43 (pM l w s n0 n1) 1 0 (next (u1S L) none) (adA L) r5:=⟨by kernel_rfl,by kernel_rfl,by kernel_rfl⟩
theorem aj7(l:Bool):To L.mu.tIMutex 43 (pM l w s n0 n1) 1 0 (next (u2S L) none) ahL r5:=⟨by kernel_rfl,by kernel_rfl,by kernel_rfl⟩
end
theorem adB:aX 43 (ucS L)=some (L.mu.cas32,[some (.v 1),some (.v 4),some (.v 42)]):=by kernel_rfl
theorem ahN:loadAt 43 (Yh L)=some (21,some (.v 1)):=by kernel_rfl
theorem adC:aX 43 (u1S L)=some (L.semrel,[some (.v 2),some (.b false),some (.i .i64 2)]):=by kernel_rfl
theorem adD:aX 43 (u2S L)=some (L.semrel,[some (.v 2),some (.b true),some (.i .i64 2)]):=by kernel_rfl
theorem UW:(some (jq L)).any (·.norace)=true:=by kernel_rfl
end
end Go.Mx
namespace Go.Mx
open Go.Ren Go.Sy
open Go.Conc hiding Goes
open Go.Conc.Locks
open Go.ConcR (stA smA)
def BhU(L:ag)(cs:List Frame)(a:Nat->Value)(s:S)(g:Goroutine):Prop:=Behind a 43 (base L.mu.unlockSlow) [] cs s g
def AtU(L:ag)(Mu:Nat)(cs:List Frame)(y:Lk)(d:Nat)(g:Goroutine):Prop:=d=1/\match y with
 | .uc o=>Small o/\BhU L cs (nu Mu 0 0 0 o 0) (ucS L) g
 | .ux=>∃o,Small o/\BhU L cs (nu Mu 0 0 0 o 0) (Yh L) g
 | .us=>∃o,Small o/\(BhU L cs (nu Mu 0 0 0 o 0) (u1S L) g∨BhU L cs (nu Mu 0 0 0 o 0) (u2S L) g)
 |_=>False
section
variable{P:Program}{L:ag}{I:World->Prop}{tM:TypeId}{Mu B:Nat}{cs:List Frame}{d:Nat}{g:Goroutine}{wst it tv:Int}{o:Wd}{nw:Int}{Q:Nat->Goroutine->Prop}
def RU(P:Program)(L:ag)(I:World->Prop)(Mu:Nat)(cs:List Frame)(y:Lk)(d:Nat)(g:Goroutine):Prop:=af P false I X0 (AtU L Mu cs y) d g
theorem kU:(base L.mu.unlockSlow).kind≠.early:=by simp[base]
theorem qm{a b:Int}:∀p∈r5,p.1.den (nu Mu wst it tv o nw)=p.2.den (nu Mu wst it a o b):=by
 intro p c;simp only[r5,List.mem_cons,List.not_mem_nil,or_false]at c;rcases c with rfl|rfl|rfl|rfl|rfl
 ·exact jW.trans jW.symm
 ·exact kD.trans kD.symm
 ·exact yM.trans yM.symm
 ·exact tJ.trans tJ.symm
 ·exact SI.trans SI.symm
theorem afc(L:ag):(Go.Sy.sub (Yh L).env (Yh L).env).all (mO r4)=true:=by kernel_rfl
theorem Yj(H:fC P L):(P.funcs[(base L.mu.unlockSlow).fn]?).any (·.norace)=true:=by
 show(P.funcs[L.mu.unlockSlow]?).any (·.norace)=true
 rw[H.qO];exact UW L
theorem nD{l w s n0 n1:Bool}(a:fl o.L=l)(b:fl o.W=w)(c:fl o.S=s)(h0:(o.n==0)=n0):pM (fl o.L) (fl o.W) (fl o.S) (o.n==0) (o.n==1)=pM l w s n0 (o.n==1):=by rw[a,b,c,h0]
theorem afd(b:o.Bits)(f:o.n<63)(h:o.L=0/\o.W=0/\o.S=0/\0<o.n):uJ (IntKind.i32.wrap ((o.num:Int)-8)) 2=((⟨0,1,0,o.n-1⟩:Wd).num:Nat):=by
 have c:=iq (m:=⟨0,1,0,o.n-1⟩) ⟨Nat.zero_le _,Nat.le_refl _,Nat.zero_le _⟩
 have a:=iq b
 rw[h.1,h.2.1,h.2.2.1]at a;obtain⟨k,e⟩:∃k,o.n=k+1:=⟨o.n-1,by omega⟩
 rw[a,c,e];exact ajL k (by omega)
theorem Tn{j:Nat}{s:S}{f:FuncId}{xs:List (Option E)}{A:Array Value}{b:Frame}{h:Func}(t:b.mode=.run)(l:aX j s=some (f,xs))(m:P.funcs[f]?=some h)(n:h.body.isNone=true):mayWake P (G (b.at ⟨A,[]⟩ s.todo) cs)=true:=by
 obtain⟨o,args,p,a,c,u⟩:=qi l
 unfold opAt at a;split at a
 ·rename_i q i rest k r;rw[r];split at a
  ·rename_i v e;split at a
   ·split at a
    ·cases a;exact Go.ConcR.Gen.mayWake_entry e c m n
    ·cases a
   ·cases a
  ·cases a
 ·cases a
def AtR(L:ag)(cs:List Frame)(d:Nat)(g:Goroutine):Prop:=d=1/\∃(A:Array Value) (t:List Item),GU t=true/\g=G ((base L.mu.unlockSlow).at ⟨A,[]⟩ t) cs
variable(H:fC P L)(hB:B<63)(hQ:∀g,AtR L cs 1 g->af P false I X0 Q 1 g)
include H hB hQ
theorem afe{o:Wd}(h:AtU L Mu cs (.uc o) d g):EN P I tM Mu B (Nx (RU P L I Mu cs) (af P false I X0 Q)) (.uc o) d g:=by
 obtain⟨rfl,hsm,A,hz,ha,rfl⟩:=h
 refine⟨rfl,rfl,rfl,fun e=>(by cases e),fun w m q hw hm hf=>.inr ?_⟩;obtain⟨gY,hnB,hq1,⟨ob,oL,oW,oS,on0,on⟩,_⟩:=hf
 have hT:=xG H (Mu:=Mu) (nw:=0) hsm.1 hsm.2;by_cases hmo:m=o
 ·subst hmo;obtain⟨g',hb,hst⟩:=BB (P:=P) (m:=false) (b:=base L.mu.unlockSlow) (ds:=[]) (cs:=cs) (adB L) hz ha kU H.lib.f_cas32 (pg L) (pq L) (pz L) (pF L) (ad:=mA Mu) kD tJ SI
  refine⟨.us,⟨m.L,1,m.S,m.n-1⟩,q,g',_,_,.ucy rfl,hst w hm.state (hm.thaw 0),hm.setState ?_,vH _,EU,fun e=>(by cases e),?_⟩
  ·rw[afd hsm.1 hsm.2 ⟨oL,oW,oS,on0⟩,oL,oS]
  ·rw[EW];exact(ajX L _ _ _ _ _).walk (BF:=nu Mu 0 0 0 m 0) hT qm kU hb fun g'' hb'=>.stop ⟨rfl,m,hsm,.inl hb'⟩
 ·obtain⟨g',hb,hst⟩:=xC (P:=P) (m:=false) (b:=base L.mu.unlockSlow) (ds:=[]) (cs:=cs) (adB L) hz ha kU H.lib.f_cas32 (pg L) (pq L) (pz L) (pF L) (ad:=mA Mu) kD tJ SI
  refine⟨.ux,m,q,g',_,_,.ucn hmo,hst w _ hm.state (hm.thaw 0) (NM gY ob hmo),hm,lZ,abC,fun e=>(by cases e),?_⟩;rw[abD];exact(ajY L _ _ _ _ _).walk (BF:=nu Mu 0 0 0 o 0) hT qm kU hb fun g'' hb'=>.stop ⟨rfl,o,hsm,hb'⟩
theorem IP{a:Nat->Value}(b:BhU L cs a (Lh L) g):af P false I X0 Q 1 g:=by
 obtain⟨A,c,e,rfl⟩:=b
 exact hQ _ ⟨rfl,A,_,Yi L,rfl⟩
theorem aff(h:AtU L Mu cs .ux d g):EN P I tM Mu B (Nx (RU P L I Mu cs) (af P false I X0 Q)) .ux d g:=by
 obtain⟨rfl,o,hsm,A,hz,ha,rfl⟩:=h
 refine⟨rfl,rfl,rfl,fun e=>(by cases e),fun w m q hw hm hf=>.inr ?_⟩;obtain⟨gY,hnB,hq1,hwf,_⟩:=hf
 have hms:Small m:=⟨gY,by omega⟩
 have ha':Agree (nu Mu 0 0 0 m 0) (Yh L).env A:=qR r4 (afc L) GR ha
 have hT:=xG H (Mu:=Mu) (nw:=0) hms.1 hms.2;obtain⟨g',hb,hstep⟩:=BC (P:=P) (m:=false) (b:=base L.mu.unlockSlow) (ds:=[]) (cs:=cs) (z:=some (.v 4)) H.lib.runUnderlying_t21 H.lib.sizeOf_t21 H.lib.isAgg_t21 (ahN L) hz ha' kU (Yj H) (ad:=mA Mu) kD (v:=(m.num:Int)) (fun u hu=>by cases hu;exact tJ.symm)
 have hL:=gY.L
 have hW:=gY.W
 have hS:=gY.S
 by_cases hc:m.L=0/\m.W=0/\m.S=0/\0<m.n
 ·refine⟨.uc m,m,q,g',w,#[],.uxc hc,hstep w hm.state,hm,lZ,by simp,fun e=>(by cases e),?_⟩;show af P false I X0 _ 1 g';rw[nD (n1:=false) (wC hc.1) (wC hc.2.1) (wC hc.2.2.1) (show(m.n==0)=false from by simp;omega)]at hT;exact(aj3 L _).walk (BF:=nu Mu 0 0 0 m 0) hT qm kU hb fun g'' hb'=>.stop ⟨rfl,hms,hb'⟩
 ·refine⟨.done,m,q,g',w,#[],.uxd hc,hstep w hm.state,hm,lZ,by simp,fun e=>(by cases e),?_⟩;show af P false I X0 Q 1 g';by_cases hn:m.n=0
  ·rw[nD (n1:=false) rfl rfl rfl (show(m.n==0)=true from by simpa using hn)]at hT;exact(ajZ L _ _ _ _).walk (BF:=nu Mu 0 0 0 m 0) hT qm kU hb fun g'' hb'=>IP H hB hQ hb'
  ·have h0:(m.n==0)=false:=by simpa using hn
   by_cases hl:m.L=1
   ·rw[nD (n1:=false) (EX hl) rfl rfl h0]at hT;exact(aj0 L _ _ _).walk (BF:=nu Mu 0 0 0 m 0) hT qm kU hb fun g'' hb'=>IP H hB hQ hb'
   ·by_cases hw':m.W=1
    ·rw[nD (n1:=false) rfl (EX hw') rfl h0]at hT;exact(aj1 L _ _ _).walk (BF:=nu Mu 0 0 0 m 0) hT qm kU hb fun g'' hb'=>IP H hB hQ hb'
    ·have hs1:m.S=1:=by apply Classical.byContradiction;intro hne;exact hc ⟨by omega,by omega,by omega,by omega⟩
     rw[nD (n1:=false) rfl rfl (EX hs1) h0]at hT;exact(aj2 L _ _ _).walk (BF:=nu Mu 0 0 0 m 0) hT qm kU hb fun g'' hb'=>IP H hB hQ hb'
theorem afg(h:AtU L Mu cs .us d g):EN P I tM Mu B (Nx (RU P L I Mu cs) (af P false I X0 Q)) .us d g:=by
 obtain⟨rfl,o,hsm,h⟩:=h
 have hT:=xG H (Mu:=Mu) (nw:=0) hsm.1 hsm.2;have wr:∀q:Nat,q<=1->IntKind.u32.wrap ((q:Int)+1)=((q+1:Nat):Int):=fun q hq=>by
  have:q=0∨q=1:=by omega
  rcases this with rfl|rfl<;>decide+kernel
 rcases h with⟨A,hz,ha,rfl⟩|⟨A,hz,ha,rfl⟩
 ·obtain⟨g',hb,hst⟩:=GL (P:=P) (m:=false) (b:=base L.mu.unlockSlow) (ds:=[]) (cs:=cs) (z:=none) rfl (adC L) hz ha kU H.xB (Tc L) (BG L) (Td L) (Tf L) (ad:=sA Mu) yM
  have hrun:g'.status=.running:=by obtain⟨_,_,_,rfl⟩:=hb;rfl
  refine⟨rfl,rfl,rfl,fun _=>Tn rfl (adC L) H.xB (BG L),fun w m q hw hm hf=>.inr ⟨.done,m,q+1,g',_,_,.us,hst w _ hm.sema (hm.thaw 1),hm.IL (wr q hf.2.2.1),Yf _,aeP,fun _=>hrun,?_⟩⟩;rw[aeQ];show af P false I X0 Q 1 g';exact(aj6 L _ _ _ _ _).walk (BF:=nu Mu 0 0 0 o 0) hT qm kU hb fun g'' hb'=>by
   obtain⟨A',_,_,rfl⟩:=hb'
   exact hQ _ ⟨rfl,A',_,ahM L,rfl⟩
 ·obtain⟨g',hb,hst⟩:=GL (P:=P) (m:=false) (b:=base L.mu.unlockSlow) (ds:=[]) (cs:=cs) (z:=none) rfl (adD L) hz ha kU H.xB (Tc L) (BG L) (Td L) (Tf L) (ad:=sA Mu) yM
  have hrun:g'.status=.running:=by obtain⟨_,_,_,rfl⟩:=hb;rfl
  refine⟨rfl,rfl,rfl,fun _=>Tn rfl (adD L) H.xB (BG L),fun w m q hw hm hf=>.inr ⟨.done,m,q+1,g',_,_,.us,hst w _ hm.sema (hm.thaw 1),hm.IL (wr q hf.2.2.1),Yf _,aeP,fun _=>hrun,?_⟩⟩;rw[aeQ];show af P false I X0 Q 1 g';exact(aj7 L _ _ _ _ _).walk (BF:=nu Mu 0 0 0 o 0) hT qm kU hb fun g'' hb'=>by
   obtain⟨A',_,_,rfl⟩:=hb'
   exact hQ _ ⟨rfl,A',_,rfl,rfl⟩
theorem abI{y:Lk}(h:AtU L Mu cs y d g):EN P I tM Mu B (Nx (RU P L I Mu cs) (af P false I X0 Q)) y d g:=by
 cases y with
 |uc o=>exact afe H hB hQ h
 |ux=>exact aff H hB hQ h
 |us=>exact afg H hB hQ h
 |_=>exact h.2.elim
end
end Go.Mx
namespace Go.Sy
open Go.Ren
open Go.Conc hiding Goes
def wE(c:Nat)(s:S):Option (TypeId×TypeId×Option E):=match opAt c s with
 |some o=>match o.op with
  | .convert a b x=>some (a,b,Ba s.env x)
  |_=>none
 |none=>none
theorem UX{c:Nat}{s:S}{t u:TypeId}{x:Option E}(h:wE c s=some (t,u,x)):∃(o:Oper) (y:Operand),opAt c s=some o/\o.op=.convert t u y/\Ba s.env y=x:=by
 unfold wE at h;split at h
 ·rename_i o d;split at h
  ·rename_i a b y e;cases h;exact⟨o,y,d,e,rfl⟩
  ·cases h
 ·cases h
theorem Tq{P:Program}{g:Nat->Value}{A:Array Value}{j:Nat}{m:Bool}{b:Frame}{ds:List Deferred}{cs:List Frame}{s:S}{c d t:TypeId}{q:E}(C:wE j s=some (c,d,some q))(l:A.size=j)(h:Agree g s.env A)(D:b.kind≠.early)
  (p:P.underlying c=some (.pointer t)) (hd:P.underlying d=some .unsafePointer) (e:(P.info? t).map (fun i=>decide (i.size=0))=some false) {ad:Addr} (r:q.den g=.pointer (some ad)):
  ∃u,Behind g j b ds cs (next s (some q)) u/\∀(w:World) (v:Value),w.cell? ad=some v->stepG P m (G (b.at ⟨A,ds⟩ s.todo) cs) w=.go u w #[]:=by
 obtain⟨o,y,F,f,H⟩:=UX C
 obtain⟨n,i,rest,k,J,L,M,N,O⟩:=uI (ds:=ds) F l h
 obtain⟨Q,R,T⟩:=O (some q) (.pointer (some ad)) (fun z l=>by cases l;exact r.symm)
 have x:=(fE (ds:=ds) h H).trans r;refine⟨G (b.at (Act.put ⟨A,ds⟩ o.dst (.pointer (some ad))) (.inRegion n rest::k)) cs,⟨_,Q,T,by rw[N,←R]⟩,fun w v a=>?_⟩;rw[J];have B:=run_convert_to_unsafe (P:=P) p hd e a
 have U:=fun V=>events_convert_to_unsafe (P:=P) p hd e a V
 have W:(execOp (Act.eval ⟨A,ds⟩) o).run P w=.ok (.value (.pointer (some ad))) w:=by
  unfold execOp;simp only[f,x]
  simp[go_sem,B]
 have X:(execOp (Act.eval ⟨A,ds⟩) o).events P w #[]=#[]:=by
  unfold execOp;simp only[f,x]
  simp[go_sem,B,U]
 rw[stepG_value L M D W];unfold listed;rw[X,seen_none]
end Go.Sy
namespace Go.Mx
open Go.Ren Go.Sy
open Go.Conc hiding Goes
open Go.Conc.Locks
open Go.ConcR (stA smA)
section
variable{P:Program}{L:ag}{I:World->Prop}{tM:TypeId}{Mu B:Nat}{cs:List Frame}{d:Nat}{g:Goroutine}{wst it tv:Int}{o:Wd}{nw:Int}{T:Goroutine->Prop}
theorem Yk(L:ag):((enableFn L.mu).name== "runtime.NumGoroutine")=false:=by kernel_rfl
theorem Yl(L:ag):(enableFn L.mu).body.isNone=true:=by kernel_rfl
theorem Ym(L:ag):Extern.findNext (enableFn L.mu)=none:=by kernel_rfl
theorem Yn(L:ag):Extern.find (enableFn L.mu)=some (fun _=>do mark .enable;pure Extern.Race.none_):=by kernel_rfl
theorem Tt(L:ag):((disableFn L.mu).name== "runtime.NumGoroutine")=false:=by kernel_rfl
theorem Tu(L:ag):(disableFn L.mu).body.isNone=true:=by kernel_rfl
theorem Tv(L:ag):Extern.findNext (disableFn L.mu)=none:=by kernel_rfl
theorem Tz(L:ag):Extern.find (disableFn L.mu)=some (fun _=>do mark .disable;pure Extern.Race.none_):=by kernel_rfl
theorem afh(L:ag):((acquireFn L.mu).name== "runtime.NumGoroutine")=false:=by kernel_rfl
theorem afi(L:ag):(acquireFn L.mu).body.isNone=true:=by kernel_rfl
theorem afj(L:ag):Extern.findNext (acquireFn L.mu)=none:=by kernel_rfl
theorem afk(L:ag):Extern.find (acquireFn L.mu)=some (Extern.Race.marked .acquire):=by kernel_rfl
theorem afl(L:ag):((relMergeFn L.mu).name== "runtime.NumGoroutine")=false:=by kernel_rfl
theorem afm(L:ag):(relMergeFn L.mu).body.isNone=true:=by kernel_rfl
theorem afn(L:ag):Extern.findNext (relMergeFn L.mu)=none:=by kernel_rfl
theorem afo(L:ag):Extern.find (relMergeFn L.mu)=some (Extern.Race.marked .releaseMerge):=by kernel_rfl
def afp(I:World->Prop)(Mu:Nat):Prop:=∀w,I w->∃v,w.cell? (mA Mu)=some v
theorem TA(H:fC P L)(u:afp I Mu){a x y:Nat}{b:Frame}{sE sC sQ:S}{T0:Tab}{c:Nat->Value}{i:List (E×E)}(e:b.kind≠.early)(f:c 0=.pointer (some (mA Mu)))(r:aZ P L.mu.tIMutex c T0)(h:∀p∈i,p.1.den c=p.2.den c)
  (C:aX a sE=some (L.mu.enable,[])) (D:To L.mu.tIMutex a T0 x 0 (next sE none) sC i) (F:wE a sC=some (L.mu.tPIMutex,L.mu.tUP,some (.v 0))) (J:To L.mu.tIMutex a T0 y 0 (next sC (some (.v 0))) sQ i) (M:aX a sQ=some (L.mu.acquire,[some (.v 0)]))
  (k:∀g,Behind c a b [] cs (next sQ none) g->T g) (N:Behind c a b [] cs sE g):
  Says P false I #[Go.ConcR.mk .enable] (af P false I X0 (fun d g=>d=0/\Says P false I #[Go.ConcR.mk (.acquire (stA Mu))] T g) 0) g:=by
 obtain⟨A,O,Q,rfl⟩:=N
 obtain⟨R,U,V⟩:=xE (P:=P) (m:=false) (b:=b) (ds:=[]) (cs:=cs) .enable (by simp) (z:=none) rfl C O Q e H.lib.f_enable (Yk L) (Yl L) (Ym L) (Yn L);refine⟨rfl,R,fun w _=>V w,?_⟩;refine D.walk r h e U fun g2 W=>?_
 obtain⟨A2,j,l,rfl⟩:=W
 obtain⟨t,X,Y⟩:=Tq (P:=P) (m:=false) (b:=b) (ds:=[]) (cs:=cs) F j l e H.lib.underlying_tPIMutex H.lib.underlying_tUP H.lib.room_tIMutex (ad:=mA Mu) f
 refine .step rfl (fun _=>t) (fun _=>#[]) (fun w hw=>⟨?_,by simp⟩) fun w _=>?_
 ·obtain⟨v,hv⟩:=u w hw
  exact Y w v hv
 ·show af P false I X0 _ 0 t;refine J.walk r h e X fun g4 b4=>.stop ⟨rfl,?_⟩;obtain⟨A4,n,q,rfl⟩:=b4
  obtain⟨g5,b5,s5⟩:=GK (P:=P) (m:=false) (b:=b) (ds:=[]) (cs:=cs) .acquire (by simp) (z:=none) rfl M n q e H.lib.f_acquire (afh L) (afi L) (afj L) (afk L) (ad:=mA Mu) f;exact⟨rfl,g5,fun w _=>s5 w,k _ b5⟩
def cvS(L:ag):S:=fresh [(0,some (.v 0)),(136,some (.v 0))] (run 139 T0 5 (next (W9 L) none)).todo
def aqS(L:ag):S:=fresh [(137,some (.v 0))] (run 139 T0 0 (next (cvS L) (some (.v 0)))).todo
def rq:List (E×E):=[(.v 0,.v 0)]
theorem ahO(l w s n0 b z a:Bool):To L.mu.tIMutex 139 (tab l w s n0 b z a) 5 0 (next (W9 L) none) (cvS L) rq:=⟨by kernel_rfl,by kernel_rfl,by kernel_rfl⟩
theorem ahP(l w s n0 b z a:Bool):To L.mu.tIMutex 139 (tab l w s n0 b z a) 0 0 (next (cvS L) (some (.v 0))) (aqS L) rq:=⟨by kernel_rfl,by kernel_rfl,by kernel_rfl⟩
theorem ahQ:wE 139 (cvS L)=some (L.mu.tPIMutex,L.mu.tUP,some (.v 0)):=by kernel_rfl
theorem ahR:aX 139 (aqS L)=some (L.mu.acquire,[some (.v 0)]):=by kernel_rfl
theorem ahS:∀p∈rq,p.1.den (nu Mu wst it tv o nw)=p.2.den (nu Mu wst it tv o nw):=by
 intro p a;simp only[rq,List.mem_cons,List.not_mem_nil,or_false]at a;subst a;rfl
end
end Go.Mx
namespace Go.Sy
open Go.Ren
open Go.Conc hiding Goes
def GV:Nat->List (Option E)->Env
 |_,[]=>[]
 |j,x::xs=>(j,x)::GV (j+1) xs
theorem GX:∀(xs:List (Option E)) (j k:Nat) (x:E),get (GV j xs) k=some x->j<=k/\xs[k-j]?=some (some x)
 | [],j,k,x,h=>by cases h
 |y::xs,j,k,x,h=>by
  unfold GV get at h;split at h
  ·rename_i e;have:j=k:=by simpa using e
   subst this;subst h;exact⟨Nat.le_refl _,by simp⟩
  ·rename_i e;have a:j≠k:=by simpa using e
   obtain⟨d,b⟩:=GX xs (j+1) k x h
   refine⟨by omega,?_⟩;obtain⟨i,c⟩:∃i,k-j=i+1:=⟨k-j-1,by omega⟩
   rw[c,List.getElem?_cons_succ];have:i=k-(j+1):=by omega
   rw[this];exact b
section
variable{P:Program}{l:Nat->Value}{e:Nat}{m:Bool}{b:Frame}{ds:List Deferred}{cs:List Frame}{s:S}{I:World->Prop}{X:Event->Prop}{Q:Nat->Goroutine->Prop}{d:Nat}{A:Array Value}
theorem tK{f:FuncId}{xs:List (Option E)}{n:Func}{c:Code}(z:aX e s=some (f,xs))(B:A.size=e)(h:Agree l s.env A)(C:b.kind≠.early)(r:P.funcs[f]?=some n)(a:(n.name== "runtime.NumGoroutine")=false)(u:n.body=some c)(R:xs.length<=n.ntmps)
  (k:∀g,Behind l n.ntmps (base f) [] (b.at ⟨A,ds⟩ s.todo::cs) ⟨GV 0 xs,[.code c],[]⟩ g->af P m I X Q d g):af P m I X Q d (G (b.at ⟨A,ds⟩ s.todo) cs):=by
 obtain⟨D,i,rest,T,o,args,F,H,J,L,v,M,N,U⟩:=iM z B h b ds cs
 have q:n.body.isNone=false:=by rw[u];rfl
 have p:∀w,stepG P m (G (b.at ⟨A,ds⟩ s.todo) cs) w=.go (G ((base f).at ⟨args.map (Act.eval ⟨A,ds⟩)++Array.replicate (n.ntmps-(args.map (Act.eval ⟨A,ds⟩)).size) undef,[]⟩ [.code c]) (b.at ⟨A,ds⟩ s.todo::cs)) w #[]:=by
  intro w;rw[H,stepG_enter J L C (run_call_body v r a q),enter_at _ r u];have:listed P b.fn ⟨A,ds⟩ o w=#[]:=by unfold listed;rw[events_call_body v r a q];exact seen_none P _
  rw[this]
 refine .step rfl (fun _=>_) (fun _=>#[]) (fun w _=>⟨p w,by simp⟩) fun w _=>?_
 refine k _ ⟨_,?_,fun j x O=>?_,rfl⟩
 ·simp[N];omega
 ·obtain⟨_,y⟩:=GX xs 0 j x O
  rw[Nat.sub_zero]at y;have:=M j x y
  have t:j<(args.map (Act.eval ⟨A,ds⟩)).size:=(Array.getElem?_eq_some_iff.1 this).1;rw[Array.getElem?_append_left t];exact this
theorem NP{f:FuncId}{xs:List (Option E)}{g:Func}{t:List Item}{c:Array Value}(n:aX e s=some (f,xs))(p:A.size=e)(h:Agree l s.env A)(q:P.funcs[f]?=some g)(j:g.results=#[])(r:t=[]∨∃k,t=.code .ret::k)
  (k:af P m I X Q d (G ((b.at ⟨A,ds⟩ s.todo).finish (.tuple #[])) cs)):af P m I X Q d (G ((base f).at ⟨c,[]⟩ t) (b.at ⟨A,ds⟩ s.todo::cs)):=by
 obtain⟨u,i,rest,B,o,args,v,x,C,D,F,H,J,L⟩:=iM n p h b ds cs
 have y:∀w,stepG P m (G ((base f).at ⟨c,[]⟩ t) (b.at ⟨A,ds⟩ s.todo::cs)) w=.go (G {(base f).at ⟨c,[]⟩ t with mode:=.returning} (b.at ⟨A,ds⟩ s.todo::cs)) w #[]:=by
  intro w;rcases r with rfl|⟨M,rfl⟩
  ·exact stepG_end
  ·exact stepG_ret'
 refine .step rfl (fun _=>_) (fun _=>#[]) (fun w _=>⟨y w,by simp⟩) fun w _=>?_
 have z:∀w,stepG P m (G {(base f).at ⟨c,[]⟩ t with mode:=.returning} (b.at ⟨A,ds⟩ s.todo::cs)) w=.go (G ((b.at ⟨A,ds⟩ s.todo).finish (.tuple #[])) cs) w #[]:=by intro w;rw[x,stepG_leave (b:=base f) (a:=⟨c,[]⟩) rfl rfl q (results_none j _ P w) (events_results_none j _ _)]
 exact .step rfl (fun _=>_) (fun _=>#[]) (fun w _=>⟨z w,by simp⟩) fun w _=>k
theorem tN{f:FuncId}{xs:List (Option E)}{n:Func}{t:List Item}{c:Array Value}(q:aX e s=some (f,xs))(r:A.size=e)(h:Agree l s.env A)(v:P.funcs[f]?=some n)(p:n.results=#[])(x:t=[]∨∃k,t=.code .ret::k)
  (k:∀g,Behind l e b ds cs (next s none) g->af P m I X Q d g):af P m I X Q d (G ((base f).at ⟨c,[]⟩ t) (b.at ⟨A,ds⟩ s.todo::cs)):=by
 obtain⟨j,i,rest,y,o,args,z,B,C,L,M,N,O,D⟩:=iM q r h b ds cs
 have F:∀w,stepG P m (G ((base f).at ⟨c,[]⟩ t) (b.at ⟨A,ds⟩ s.todo::cs)) w=.go (G {(base f).at ⟨c,[]⟩ t with mode:=.returning} (b.at ⟨A,ds⟩ s.todo::cs)) w #[]:=by
  intro w;rcases x with rfl|⟨R,rfl⟩
  ·exact stepG_end
  ·exact stepG_ret'
 refine .step rfl (fun _=>_) (fun _=>#[]) (fun w _=>⟨F w,by simp⟩) fun w _=>?_
 have H:∀w,stepG P m (G {(base f).at ⟨c,[]⟩ t with mode:=.returning} (b.at ⟨A,ds⟩ s.todo::cs)) w=.go (G (b.at (Act.put ⟨A,ds⟩ o.dst (.tuple #[])) (.inRegion j rest::y)) cs) w #[]:=by intro w;rw[B,stepG_leave (b:=base f) (a:=⟨c,[]⟩) rfl rfl v (results_none p _ P w) (events_results_none p _ _),Frame.finish_at,C];rfl
 refine .step rfl (fun _=>_) (fun _=>#[]) (fun w _=>⟨H w,by simp⟩) fun w _=>?_
 exact k _ (D none (.tuple #[]) (fun u J=>by cases J))
end
end Go.Sy
namespace Go.Mx
open Go.Ren Go.Sy
open Go.Conc hiding Goes
open Go.Conc.Locks
open Go.ConcR (stA smA)
def Yo(L:ag):Code:=(lockFn L.mu).body.getD .skip
def Yp(L:ag):Code:=(ilockFn L.mu).body.getD .skip
def Lj:Tab:=[(.nil (.v 0),.v 0),(.fld (.v 0) 1,.v 1)]
def lkE(L:ag):S:=⟨GV 0 [some (.v 0)],[.code (Yo L)],[]⟩
def lkS(L:ag):S:=fresh [(4,some (.v 1))] (run 6 Lj 200 (lkE L)).todo
def ilE(L:ag):S:=⟨GV 0 [some (.v 1)],[.code (Yp L)],[]⟩
def idS(L:ag):S:=fresh [(0,some (.v 0))] (run 13 T0 200 (ilE L)).todo
def icS(L:ag):S:=fresh [(0,some (.v 0)),(5,some (.v 1))] (run 13 T0 200 (next (idS L) none)).todo
def ieS(L:ag):S:=fresh [(0,some (.v 0))] (run 13 T0 200 (next (icS L) (some (.b true)))).todo
def ivS(L:ag):S:=fresh [(0,some (.v 0)),(8,some (.v 0))] (run 13 T0 200 (next (ieS L) none)).todo
def iaS(L:ag):S:=fresh [(9,some (.v 0))] (run 13 T0 200 (next (ivS L) (some (.v 0)))).todo
def irS(L:ag):S:=fresh [] (run 13 T0 200 (next (iaS L) none)).todo
def isS(L:ag):S:=fresh [(0,some (.v 0)),(11,some (.v 0))] (run 13 T0 200 (next (icS L) (some (.b false)))).todo
def UY:S:=fresh [] []
def rp:List (E×E):=[(.v 0,.v 0),(.v 1,.v 1),(.v 1,.v 0)]
section
variable(L:ag)
theorem akb:To L.mu.tMutex 6 Lj 200 1 (lkE L) (lkS L) rp:=⟨by kernel_rfl,by kernel_rfl,by kernel_rfl⟩
theorem akc:To L.mu.tMutex 6 Lj 200 0 (next (lkS L) none) UY rp:=⟨by kernel_rfl,by kernel_rfl,by kernel_rfl⟩
theorem Yq:aX 6 (lkS L)=some (L.mu.ilock,[some (.v 1)]):=by kernel_rfl
section
variable(l w s n0 c z a:Bool)
theorem akd:To L.mu.tIMutex 13 (tab l w s n0 c z a) 200 0 (ilE L) (idS L) rp:=⟨by kernel_rfl,by kernel_rfl,by kernel_rfl⟩
theorem ake:To L.mu.tIMutex 13 (tab l w s n0 c z a) 200 1 (next (idS L) none) (icS L) rp:=⟨by kernel_rfl,by kernel_rfl,by kernel_rfl⟩
theorem akf:To L.mu.tIMutex 13 (tab l w s n0 c z a) 200 0 (next (icS L) (some (.b true))) (ieS L) rp:=⟨by kernel_rfl,by kernel_rfl,by kernel_rfl⟩
theorem akg:To L.mu.tIMutex 13 (tab l w s n0 c z a) 200 0 (next (ieS L) none) (ivS L) rp:=⟨by kernel_rfl,by kernel_rfl,by kernel_rfl⟩
theorem akh:To L.mu.tIMutex 13 (tab l w s n0 c z a) 200 0 (next (ivS L) (some (.v 0))) (iaS L) rp:=⟨by kernel_rfl,by kernel_rfl,by kernel_rfl⟩
theorem ahT:To L.mu.tIMutex 13 (tab l w s n0 c z a) 200 0 (next (iaS L) none) (irS L) rp:=⟨by kernel_rfl,by kernel_rfl,by kernel_rfl⟩
theorem aki:To L.mu.tIMutex 13 (tab l w s n0 c z a) 200 0 (next (icS L) (some (.b false))) (isS L) rp:=⟨by kernel_rfl,by kernel_rfl,by kernel_rfl⟩
theorem akj:To L.mu.tIMutex 13 (tab l w s n0 c z a) 200 0 (next (isS L) none) UY rp:=⟨by kernel_rfl,by kernel_rfl,by kernel_rfl⟩
theorem akk:To L.mu.tIMutex 139 (tab l w s n0 c z a) 200 0 (next (aqS L) none) UY rp:=⟨by kernel_rfl,by kernel_rfl,by kernel_rfl⟩
end
theorem ahU:aX 13 (idS L)=some (L.mu.disable,[]):=by kernel_rfl
theorem adF:aX 13 (icS L)=some (L.mu.cas32,[some (.v 1),some (.i .i32 0),some (.i .i32 1)]):=by kernel_rfl
theorem ahV:aX 13 (ieS L)=some (L.mu.enable,[]):=by kernel_rfl
theorem ahW:wE 13 (ivS L)=some (L.mu.tPIMutex,L.mu.tUP,some (.v 0)):=by kernel_rfl
theorem ahX:aX 13 (iaS L)=some (L.mu.acquire,[some (.v 0)]):=by kernel_rfl
theorem adG:aX 13 (isS L)=some (L.mu.lockSlow,[some (.v 0)]):=by kernel_rfl
theorem ahY:GU (irS L).todo=true:=by kernel_rfl
end
end Go.Mx
namespace Go.Mx
open Go.Ren Go.Sy
open Go.Conc hiding Goes
open Go.Conc.Locks
open Go.ConcR (stA smA)
theorem Ll{t:List Item}(h:GU t=true):t=[]∨∃k,t=.code .ret::k:=by
 unfold GU at h;split at h
 ·exact .inl rfl
 ·exact .inr ⟨_,rfl⟩
 ·cases h
def o0:Wd:=⟨0,0,0,0⟩
def n0(Mu:Nat):Nat->Value:=nu Mu 0 0 0 o0 0
theorem sm0:Small o0:=⟨⟨Nat.zero_le _,Nat.zero_le _,Nat.zero_le _⟩,by decide⟩
section
variable{P:Program}{L:ag}{I:World->Prop}{tM:TypeId}{Mu B:Nat}{T:Goroutine->Prop}
def AcQ(P:Program)(I:World->Prop)(Mu:Nat)(T:Goroutine->Prop)(d:Nat)(g:Goroutine):Prop:=d=0/\Says P false I #[Go.ConcR.mk (.acquire (stA Mu))] T g
def EnQ(P:Program)(I:World->Prop)(Mu:Nat)(T:Goroutine->Prop)(d:Nat)(g:Goroutine):Prop:=d=1/\Says P false I #[Go.ConcR.mk .enable] (af P false I X0 (AcQ P I Mu T) 0) g
theorem iV.pre{E:Nat->Goroutine->Prop}{x:Lk}{d:Nat}{g:Goroutine}(h:af P false I X0 (fun d g=>iV P I tM Mu B E x d g) d g):iV P I tM Mu B E x d g:=iV.idle (h.bind fun d g k=>k.out)
theorem qo:∀p∈rp,p.1.den (n0 Mu)=p.2.den (n0 Mu):=by
 intro p a;simp only[rp,List.mem_cons,List.not_mem_nil,or_false]at a;rcases a with rfl|rfl|rfl
 ·rfl
 ·rfl
 ·exact kD.trans jW.symm
theorem TB(H:fC P L):aZ P L.mu.tMutex (n0 Mu) Lj:=by
 unfold aZ Lj;simp only[List.forall_mem_cons]
 refine⟨⟨rfl,_,jW⟩,?_,fun p c=>absurd c (List.not_mem_nil)⟩;show Go.Sy.Yields P (Instr.fieldAt L.mu.tMutex (n0 Mu 0) 1) (n0 Mu 1);rw[show n0 Mu 0=.pointer (some ⟨Mu,0,none⟩)from jW,show n0 Mu 1=.pointer (some ⟨Mu,0,none⟩)from kD];have a:=H.lib.runUnderlying_tMutex
 have b:=H.lib.sizeOf_tIMutex
 exact fun w=>⟨by simp[go_sem,a,b],fun d=>by simp[go_sem,a,b]⟩
theorem Yr{wst it:Int}{o:Wd}{A:Array Value}(h:Agree (nu Mu wst it 0 o 0) (W9 L).env A):Agree (n0 Mu) (W9 L).env A:=by
 refine uK (ρ:=[(.v 0,.v 0)]) h (by kernel_rfl) fun p a=>?_
 simp only[List.mem_cons,List.not_mem_nil,or_false]at a;subst a;exact jW.trans jW.symm
theorem akl(L:ag):(lockFn L.mu).body=some (Yo L):=by kernel_rfl
theorem akm(L:ag):(ilockFn L.mu).body=some (Yp L):=by kernel_rfl
theorem akn(L:ag):(kS L).body=some (Dj L):=by kernel_rfl
theorem ako(L:ag):((lockFn L.mu).name== "runtime.NumGoroutine")=false:=by kernel_rfl
theorem ahZ(L:ag):((ilockFn L.mu).name== "runtime.NumGoroutine")=false:=by kernel_rfl
theorem akp(L:ag):((kS L).name== "runtime.NumGoroutine")=false:=by kernel_rfl
theorem akq(L:ag):(lockFn L.mu).results=#[]:=by kernel_rfl
theorem adH(L:ag):(ilockFn L.mu).results=#[]:=by kernel_rfl
theorem ah0(L:ag):(kS L).results=#[]:=by kernel_rfl
theorem abJ(H:fC P L)(hB:B<63)(hI:afp I Mu){sz:Nat}{b:Frame}{ds:List Deferred}{cs:List Frame}{s:S}{A:Array Value}(hc:aX sz s=some (L.mu.lock,[some (.v 0)]))(hz:A.size=sz)(ha:Agree (n0 Mu) s.env A)(hk:b.kind≠.early)
  (hT:∀g,af P false I X0 (fun d g=>d=0/\g=G ((b.at ⟨A,ds⟩ s.todo).finish (.tuple #[])) cs) 0 g->T g):
  af P false I X0 (fun d g=>d=0/\Says P false I #[Go.ConcR.mk .disable] (iV P I tM Mu B (af P false I X0 (EnQ P I Mu T)) .l0 1) g) 0 (G (b.at ⟨A,ds⟩ s.todo) cs):=by
 have Nb:=kC H (Mu:=Mu) (wst:=0) (it:=0) (tv:=0) (nw:=0) sm0.1 sm0.2;have hTM:=TB (Mu:=Mu) H
 have k1:(base L.mu.lock).kind≠.early:=by simp[base]
 have k2:(base L.mu.ilock).kind≠.early:=by simp[base]
 refine tK hc hz ha hk H.lib.f_lock (ako L) (akl L) (by show 1<=6;omega) fun g1 b1=>?_
 refine(akb L).walk hTM qo k1 (s:=lkE L) b1 fun g2 b2=>?_
 obtain⟨A2,hz2,ha2,rfl⟩:=b2
 have adI:∀g,Behind (n0 Mu) 6 (base L.mu.lock) [] (b.at ⟨A,ds⟩ s.todo::cs) (next (lkS L) none) g->af P false I X0 (fun d g=>d=0/\g=G ((b.at ⟨A,ds⟩ s.todo).finish (.tuple #[])) cs) 0 g:=fun g hg=>by
  refine(akc L).walk hTM qo k1 hg fun g' hg'=>?_
  obtain⟨A',_,_,rfl⟩:=hg'
  exact NP hc hz ha H.lib.f_lock (akq L) (.inl rfl) (.stop ⟨rfl,rfl⟩)
 refine tK (Yq L) hz2 ha2 k1 H.lib.f_ilock (ahZ L) (akm L) (by show 1<=13;omega) fun g3 b3=>?_
 refine(akd L _ _ _ _ _ _ _).walk Nb qo k2 (s:=ilE L) b3 fun g4 b4=>.stop ⟨rfl,?_⟩;obtain⟨A4,hz4,ha4,rfl⟩:=b4
 obtain⟨g5,b5,s5⟩:=xE (P:=P) (m:=false) (b:=base L.mu.ilock) (ds:=[]) (cs:=(base L.mu.lock).at ⟨A2,[]⟩ (lkS L).todo::b.at ⟨A,ds⟩ s.todo::cs) .disable (by simp) (z:=none) rfl (ahU L) hz4 ha4 k2 H.lib.f_disable (Tt L) (Tu L) (Tv L) (Tz L);refine⟨rfl,g5,fun w _=>s5 w,iV.idle ?_⟩;refine(ake L _ _ _ _ _ _ _).walk Nb qo k2 b5 fun g6 b6=>.stop ?_;obtain⟨A6,hz6,ha6,rfl⟩:=b6
 refine⟨rfl,rfl,rfl,fun e=>(by cases e),fun w m q hw hm hf=>.inr ?_⟩;have gY:=hf.1;by_cases hm0:m=o0
 ·obtain⟨g',hb,hst⟩:=BB (P:=P) (m:=false) (b:=base L.mu.ilock) (ds:=[]) (cs:=(base L.mu.lock).at ⟨A2,[]⟩ (lkS L).todo::b.at ⟨A,ds⟩ s.todo::cs) (adF L) hz6 ha6 k2 H.lib.f_cas32 (pg L) (pq L) (pz L) (pF L) (ad:=mA Mu) kD UU UU
  have hcell:w.cell? (mA Mu)=some (.int .i32 0):=by rw[hm.state,hm0];rfl
  refine⟨.own,⟨1,0,0,0⟩,q,g',_,_,.l0f hm0,hst w hcell (hm.thaw 0),hm.setState rfl,vH _,EU,fun e=>(by cases e),?_⟩;rw[EW];show af P false I X0 (EnQ P I Mu T) 1 g';refine(akf L _ _ _ _ _ _ _).walk Nb qo k2 hb fun g7 b7=>.stop ⟨rfl,?_⟩;refine TA H hI k2 (by exact jW) Nb qo (ahV L) (akg L _ _ _ _ _ _ _) (ahW L) (akh L _ _ _ _ _ _ _) (ahX L) (fun g hg=>hT g ?_) b7;refine(ahT L _ _ _ _ _ _ _).walk Nb qo k2 hg fun g' hg'=>?_
  obtain⟨A',_,_,rfl⟩:=hg'
  exact tN (Yq L) hz2 ha2 H.lib.f_ilock (adH L) (Ll (ahY L)) adI
 ·obtain⟨g',hb,hst⟩:=xC (P:=P) (m:=false) (b:=base L.mu.ilock) (ds:=[]) (cs:=(base L.mu.lock).at ⟨A2,[]⟩ (lkS L).todo::b.at ⟨A,ds⟩ s.todo::cs) (adF L) hz6 ha6 k2 H.lib.f_cas32 (pg L) (pq L) (pz L) (pF L) (ad:=mA Mu) kD UU UU
  have hne:¬((m.num:Int)=0):=fun e=>hm0 (Wd.inj gY sm0.1 (by rw[show m.num=0 by omega];rfl))
  refine⟨.rd false false 0,m,q,g',_,_,.l0s hm0,hst w _ hm.state (hm.thaw 0) hne,hm,lZ,abC,fun e=>(by cases e),?_⟩;rw[abD];show iV P I tM Mu B _ (.rd false false 0) 1 g';refine iV.pre ?_;refine(aki L _ _ _ _ _ _ _).walk Nb qo k2 hb fun g7 b7=>?_
  obtain⟨A7,hz7,ha7,rfl⟩:=b7
  refine tK (adG L) hz7 ha7 k2 H.wo (akp L) (akn L) (by show 1<=139;omega) fun g8 b8=>.stop ?_;obtain⟨A8,hz8,ha8,rfl⟩:=b8
  refine abG H hB (fun wst it o g hg=>.stop ⟨rfl,?_⟩) hz8 ((ha8 0 (.v 0) rfl).trans (congrArg some jW));have hg0:Behind (n0 Mu) 139 (base L.mu.lockSlow) [] ((base L.mu.ilock).at ⟨A7,[]⟩ (isS L).todo::(base L.mu.lock).at ⟨A2,[]⟩ (lkS L).todo::b.at ⟨A,ds⟩ s.todo::cs) (W9 L) g:=by
   obtain⟨A9,hz9,ha9,rfl⟩:=hg
   exact⟨A9,hz9,Yr ha9,rfl⟩
  refine TA H hI kb (by exact jW) Nb ahS (ahF L) (ahO _ _ _ _ _ _ _) ahQ (ahP _ _ _ _ _ _ _) ahR (fun g hg=>hT g ?_) hg0;refine(akk L _ _ _ _ _ _ _).walk Nb qo kb hg fun g' hg'=>?_
  obtain⟨A',_,_,rfl⟩:=hg'
  refine tN (adG L) hz7 ha7 H.wo (ah0 L) (.inl rfl) fun g'' hg''=>?_
  refine(akj L _ _ _ _ _ _ _).walk Nb qo k2 hg'' fun g' hg'=>?_
  obtain⟨A',_,_,rfl⟩:=hg'
  exact tN (Yq L) hz2 ha2 H.lib.f_ilock (adH L) (.inl rfl) adI
end
end Go.Mx
namespace Go.Mx
open Go.Ren Go.Sy
open Go.Conc hiding Goes
open Go.Conc.Locks
open Go.ConcR (stA smA)
def NQ(L:ag):Code:=(unlockFn L.mu).body.getD .skip
def Yt(L:ag):Code:=(iunlockFn L.mu).body.getD .skip
def Bd(a l w s n0 c:Bool):Tab:=(.bin .neq (.v 4) (.i .i32 0),.b a)::pM l w s n0 c
def TV:Tab:=Bd true false false false false false
def ulE(L:ag):S:=fresh [(0,some (.v 0))] [.code (NQ L)]
def UZ(L:ag):S:=fresh [(4,some (.v 1))] (run 6 Lj 200 (ulE L)).todo
def iuE(L:ag):S:=fresh [(0,some (.v 0))] [.code (Yt L)]
def ulL(L:ag):S:=fresh [(0,some (.v 0)),(5,some (.v 1))] (run 21 TV 200 (iuE L)).todo
def ulV(L:ag):S:=fresh [(0,some (.v 0)),(7,some (.v 0))] (run 21 TV 200 (next (ulL L) none)).todo
def ulR(L:ag):S:=fresh [(0,some (.v 0)),(8,some (.v 0))] (run 21 TV 200 (next (ulV L) (some (.v 0)))).todo
def ulD(L:ag):S:=fresh [(0,some (.v 0))] (run 21 TV 200 (next (ulR L) none)).todo
def ulA(L:ag):S:=fresh [(0,some (.v 0)),(13,some (.v 1))] (run 21 TV 200 (next (ulD L) none)).todo
def ulU(L:ag):S:=fresh [(0,some (.v 0)),(17,some (.v 0)),(18,some (.v 4))] (run 21 TV 200 (next (ulA L) (some (.v 4)))).todo
def ulN(L:ag):S:=fresh [(0,some (.v 0))] (run 21 TV 200 (next (ulU L) none)).todo
def ra:List (E×E):=[(.v 0,.v 0),(.v 1,.v 1),(.v 1,.v 0),(.v 4,.v 4)]
section
variable(L:ag)
theorem akw:To L.mu.tMutex 6 Lj 200 1 (ulE L) (UZ L) rp:=⟨by kernel_rfl,by kernel_rfl,by kernel_rfl⟩
theorem akx:To L.mu.tMutex 6 Lj 200 0 (next (UZ L) none) UY rp:=⟨by kernel_rfl,by kernel_rfl,by kernel_rfl⟩
theorem adK:aX 6 (UZ L)=some (L.mu.iunlock,[some (.v 1)]):=by kernel_rfl
section
variable(a l w s n0 n1:Bool)
theorem aky:To L.mu.tIMutex 21 (Bd a l w s n0 n1) 200 1 (iuE L) (ulL L) ra:=⟨by kernel_rfl,by kernel_rfl,by kernel_rfl⟩
theorem akz:To L.mu.tIMutex 21 (Bd a l w s n0 n1) 200 0 (next (ulL L) none) (ulV L) ra:=⟨by kernel_rfl,by kernel_rfl,by kernel_rfl⟩
theorem akA:To L.mu.tIMutex 21 (Bd a l w s n0 n1) 200 0 (next (ulV L) (some (.v 0))) (ulR L) ra:=⟨by kernel_rfl,by kernel_rfl,by kernel_rfl⟩
theorem akB:To L.mu.tIMutex 21 (Bd a l w s n0 n1) 200 0 (next (ulR L) none) (ulD L) ra:=⟨by kernel_rfl,by kernel_rfl,by kernel_rfl⟩
theorem akC:To L.mu.tIMutex 21 (Bd a l w s n0 n1) 200 1 (next (ulD L) none) (ulA L) ra:=⟨by kernel_rfl,by kernel_rfl,by kernel_rfl⟩
theorem akD:To L.mu.tIMutex 21 (Bd true l w s n0 n1) 200 0 (next (ulA L) (some (.v 4))) (ulU L) ra:=⟨by kernel_rfl,by kernel_rfl,by kernel_rfl⟩
theorem akE:To L.mu.tIMutex 21 (Bd false l w s n0 n1) 200 0 (next (ulA L) (some (.v 4))) (ulN L) ra:=⟨by kernel_rfl,by kernel_rfl,by kernel_rfl⟩
theorem akF:To L.mu.tIMutex 21 (Bd a l w s n0 n1) 200 0 (next (ulU L) none) (ulN L) ra:=⟨by kernel_rfl,by kernel_rfl,by kernel_rfl⟩
theorem akG:To L.mu.tIMutex 21 (Bd a l w s n0 n1) 200 0 (next (ulN L) none) UY ra:=⟨by kernel_rfl,by kernel_rfl,by kernel_rfl⟩
end
theorem ah2:loadAt 21 (ulL L)=some (21,some (.v 1)):=by kernel_rfl
theorem ah3:wE 21 (ulV L)=some (L.mu.tPIMutex,L.mu.tUP,some (.v 0)):=by kernel_rfl
theorem ah4:aX 21 (ulR L)=some (L.mu.relMerge,[some (.v 0)]):=by kernel_rfl
theorem ah5:aX 21 (ulD L)=some (L.mu.disable,[]):=by kernel_rfl
theorem ah6:aX 21 (ulA L)=some (L.mu.add32,[some (.v 1),some (.i .i32 (-1))]):=by kernel_rfl
theorem adL:aX 21 (ulU L)=some (L.mu.unlockSlow,[some (.v 0),some (.v 4)]):=by kernel_rfl
theorem ah7:aX 21 (ulN L)=some (L.mu.enable,[]):=by kernel_rfl
theorem akH:(unlockFn L.mu).body=some (NQ L):=by kernel_rfl
theorem akI:(iunlockFn L.mu).body=some (Yt L):=by kernel_rfl
theorem akJ:(jq L).body=some (Yg L):=by kernel_rfl
theorem akK:((iunlockFn L.mu).name== "runtime.NumGoroutine")=false:=by kernel_rfl
theorem akL:((jq L).name== "runtime.NumGoroutine")=false:=by kernel_rfl
theorem ah8:(iunlockFn L.mu).results=#[]:=by kernel_rfl
theorem ah9:(jq L).results=#[]:=by kernel_rfl
theorem U0:(some (iunlockFn L.mu)).any (·.norace)=true:=by kernel_rfl
end
end Go.Mx
namespace Go.Mx
open Go.Ren Go.Sy
open Go.Conc hiding Goes
open Go.Conc.Locks
open Go.ConcR (stA smA)
section
variable{P:Program}{L:ag}{I I':World->Prop}{tM:TypeId}{Mu B:Nat}{X:Goroutine->Prop}{o:Wd}
def UeQ(P:Program)(I:World->Prop)(X:Goroutine->Prop)(d:Nat)(g:Goroutine):Prop:=d=1/\Says P false I #[Go.ConcR.mk .enable] X g
def DsQ(P:Program)(I:World->Prop)(tM:TypeId)(Mu B:Nat)(X:Goroutine->Prop)(d:Nat)(g:Goroutine):Prop:=d=0/\Says P false I #[Go.ConcR.mk .disable] (iV P I tM Mu B (af P false I X0 (UeQ P I X)) .own 1) g
def RlQ(P:Program)(I:World->Prop)(tM:TypeId)(Mu B:Nat)(X:Goroutine->Prop)(d:Nat)(g:Goroutine):Prop:=d=0/\Says P false I #[Go.ConcR.mk (.releaseMerge (stA Mu))] (af P false I X0 (DsQ P I tM Mu B X) 0) g
def Reads(I:World->Prop)(Mu:Nat):Prop:=∀w,I w->∃v:Int,w.cell? (mA Mu)=some (.int .i32 v)
theorem xH:∀p∈ra,p.1.den (nu Mu 0 0 0 o 0)=p.2.den (nu Mu 0 0 0 o 0):=by
 intro p a;simp only[ra,List.mem_cons,List.not_mem_nil,or_false]at a;rcases a with rfl|rfl|rfl|rfl
 ·rfl
 ·rfl
 ·exact kD.trans jW.symm
 ·rfl
theorem TC(H:fC P L)(c:Small o):aZ P L.mu.tIMutex (nu Mu 0 0 0 o 0) (Bd (o.num !=0) (fl o.L) (fl o.W) (fl o.S) (o.n==0) (o.n==1)):=by
 unfold aZ Bd;simp only[List.forall_mem_cons]
 refine⟨tH (a:=(o.num:Int)) (b:=0) tJ rfl ?_,xG H c.1 c.2⟩;show Value.bool (o.num !=0)=Value.bool ((o.num:Int)!=((0:Nat):Int))
 have:=BD o.num 0
 unfold bne;rw[this]
theorem akM{b:Frame}{ds:List Deferred}{cs:List Frame}{a:Nat}{o':Wd}{s:S}{g:Goroutine}(c:(Go.Sy.sub s.env s.env).all (mO r4)=true)(h:Behind (nu Mu 0 0 0 o 0) a b ds cs s g):Behind (nu Mu 0 0 0 o' 0) a b ds cs s g:=by
 obtain⟨A,d,e,rfl⟩:=h
 exact⟨A,d,qR r4 c GR e,rfl⟩
theorem abK(L:ag):(Go.Sy.sub (ulN L).env (ulN L).env).all (mO r4)=true:=by kernel_rfl
theorem abL(L:ag):(Go.Sy.sub (ulA L).env (ulA L).env).all (mO r4)=true:=by kernel_rfl
theorem adM{m:Wd}(a:m.Bits)(b:m.n<63)(c:m.L=1):IntKind.i32.wrap ((m.num:Int)+-1)=((⟨0,m.W,m.S,m.n⟩:Wd).num:Nat):=by
 have e:(m.num:Int)+-1=((⟨0,m.W,m.S,m.n⟩:Wd).num:Nat):=by unfold Wd.num;dsimp only;omega
 rw[e];exact X8 ⟨Nat.zero_le _,a.W,a.S⟩ (by dsimp only;omega)
theorem U1(H:fC P L)(hB:B<63)(hI:Reads I Mu){b:Frame}{cs:List Frame}(hk:b.kind≠.early)(hX:∀g,af P false I' X0 (fun d g=>d=0/\Behind (n0 Mu) 6 b [] cs UY g) 0 g->X g){g:Goroutine}(hg:Behind (n0 Mu) 6 b [] cs (ulE L) g):
  af P false I X0 (RlQ P I tM Mu B X) 0 g:=by
 have Nb:=TC (Mu:=Mu) H sm0
 have hTM:=TB (Mu:=Mu) H
 have k2:(base L.mu.iunlock).kind≠.early:=by simp[base]
 refine(akw L).walk hTM qo hk hg fun g2 b2=>?_
 obtain⟨A2,hz2,ha2,rfl⟩:=b2
 refine tK (adK L) hz2 ha2 hk H.lib.f_iunlock (akK L) (akI L) (by show 1<=21;omega) fun g3 b3=>?_
 have b3':Behind (n0 Mu) 21 (base L.mu.iunlock) [] (b.at ⟨A2,[]⟩ (UZ L).todo::cs) (iuE L) g3:=by
  obtain⟨A,hz,ha,rfl⟩:=b3
  exact⟨A,hz,uK (ρ:=rp) ha (by kernel_rfl) qo,rfl⟩
 refine(aky L _ _ _ _ _ _).walk Nb xH k2 b3' fun g4 b4=>?_
 obtain⟨A4,hz4,ha4,rfl⟩:=b4
 have ld:=fun v:Int=>BC (P:=P) (m:=false) (b:=base L.mu.iunlock) (ds:=[]) (cs:=b.at ⟨A2,[]⟩ (UZ L).todo::cs) (z:=none) H.lib.runUnderlying_t21 H.lib.sizeOf_t21 H.lib.isAgg_t21 (ah2 L) hz4 ha4 k2 (by show(P.funcs[L.mu.iunlock]?).any (·.norace)=true;rw[H.lib.f_iunlock];exact U0 L) (ad:=mA Mu) kD (v:=v) (fun u hu=>by cases hu)
 have hw:∀w:World,∃g',I w->Behind (n0 Mu) 21 (base L.mu.iunlock) [] (b.at ⟨A2,[]⟩ (UZ L).todo::cs) (next (ulL L) none) g'/\stepG P false (G ((base L.mu.iunlock).at ⟨A4,[]⟩ (ulL L).todo) (b.at ⟨A2,[]⟩ (UZ L).todo::cs)) w=.go g' w #[]:=fun w=>by
  by_cases hw:I w
  ·obtain⟨v,hv⟩:=hI w hw
   obtain⟨g',h1,h2⟩:=ld v
   exact⟨g',fun _=>⟨h1,h2 w hv⟩⟩
  ·exact⟨G (base 0) [],fun h=>absurd h hw⟩
 refine .step rfl (fun w=>Classical.choose (hw w)) (fun _=>#[]) (fun w hi=>⟨(Classical.choose_spec (hw w) hi).2,by simp⟩) fun w hi=>?_
 have b5:=(Classical.choose_spec (hw w) hi).1;generalize Classical.choose (hw w)=g5 at b5
 show af P false I X0 _ 0 g5;refine(akz L _ _ _ _ _ _).walk Nb xH k2 b5 fun g6 b6=>?_
 obtain⟨A6,hz6,ha6,rfl⟩:=b6
 obtain⟨g7,b7,s7⟩:=Tq (P:=P) (m:=false) (b:=base L.mu.iunlock) (ds:=[]) (cs:=b.at ⟨A2,[]⟩ (UZ L).todo::cs) (ah3 L) hz6 ha6 k2 H.lib.underlying_tPIMutex H.lib.underlying_tUP H.lib.room_tIMutex (ad:=mA Mu) jW
 refine .step rfl (fun _=>g7) (fun _=>#[]) (fun w hi=>⟨?_,by simp⟩) fun w _=>?_
 ·obtain⟨v,hv⟩:=hI w hi
  exact s7 w _ hv
 show af P false I X0 _ 0 g7;refine(akA L _ _ _ _ _ _).walk Nb xH k2 b7 fun g8 b8=>.stop ⟨rfl,?_⟩;obtain⟨A8,hz8,ha8,rfl⟩:=b8
 obtain⟨g9,b9,s9⟩:=GK (P:=P) (m:=false) (b:=base L.mu.iunlock) (ds:=[]) (cs:=b.at ⟨A2,[]⟩ (UZ L).todo::cs) .releaseMerge (by simp) (z:=none) rfl (ah4 L) hz8 ha8 k2 H.lib.f_relMerge (afl L) (afm L) (afn L) (afo L) (ad:=mA Mu) jW;refine⟨rfl,g9,fun w _=>s9 w,?_⟩;refine(akB L _ _ _ _ _ _).walk Nb xH k2 b9 fun g10 b10=>.stop ⟨rfl,?_⟩;obtain⟨A10,akN,akO,rfl⟩:=b10
 obtain⟨g11,b11,s11⟩:=xE (P:=P) (m:=false) (b:=base L.mu.iunlock) (ds:=[]) (cs:=b.at ⟨A2,[]⟩ (UZ L).todo::cs) .disable (by simp) (z:=none) rfl (ah5 L) akN akO k2 H.lib.f_disable (Tt L) (Tu L) (Tv L) (Tz L);refine⟨rfl,g11,fun w _=>s11 w,iV.idle ?_⟩;refine(akC L _ _ _ _ _ _).walk Nb xH k2 b11 fun g12 b12=>.stop ?_;obtain⟨A12,akP,akQ,rfl⟩:=b12
 have fin:∀{o:Wd} {g},Behind (nu Mu 0 0 0 o 0) 21 (base L.mu.iunlock) [] (b.at ⟨A2,[]⟩ (UZ L).todo::cs) (ulN L) g->af P false I X0 (UeQ P I X) 1 g:=fun{o} {g} hg=>by
  have hg:=akM (o':=o0) (abK L) hg
  obtain⟨A,hz,ha,rfl⟩:=hg
  obtain⟨g',hb,hst⟩:=xE (P:=P) (m:=false) (b:=base L.mu.iunlock) (ds:=[]) (cs:=b.at ⟨A2,[]⟩ (UZ L).todo::cs) .enable (by simp) (z:=none) rfl (ah7 L) hz ha k2 H.lib.f_enable (Yk L) (Yl L) (Ym L) (Yn L);refine .stop ⟨rfl,rfl,g',fun w _=>hst w,hX _ ?_⟩;refine(akG L _ _ _ _ _ _).walk Nb xH k2 hb fun g1 b1=>?_
  obtain⟨A',_,_,rfl⟩:=b1
  refine tN (adK L) hz2 ha2 H.lib.f_iunlock (ah8 L) (.inl rfl) fun g1 b1=>?_
  exact(akx L).walk hTM qo hk b1 fun g2 b2=>.stop ⟨rfl,b2⟩
 refine⟨rfl,rfl,rfl,fun e=>(by cases e),fun w m q hw hm hf=>.inr ?_⟩;obtain⟨gY,hnB,hq1,hwf,hL⟩:=hf
 obtain⟨v,hv⟩:∃v:Wd,v=⟨0,m.W,m.S,m.n⟩:=⟨_,rfl⟩
 have hvs:Small v:=by rw[hv];exact⟨⟨Nat.zero_le _,gY.W,gY.S⟩,by dsimp only;omega⟩
 have hTv:=TC (Mu:=Mu) H hvs
 have hTu:=xG H (Mu:=Mu) (nw:=0) hvs.1 hvs.2;have aic:Agree (nu Mu 0 0 0 v 0) (ulA L).env A12:=qR r4 (abL L) GR akQ
 have hval:Value.int .i32 (IntKind.i32.wrap ((m.num:Int)+-1))=(E.v 4).den (nu Mu 0 0 0 v 0):=by rw[adM gY (by omega) hL,←hv];exact tJ.symm
 obtain⟨g',hb,hst⟩:=X5 (P:=P) (m:=false) (b:=base L.mu.iunlock) (ds:=[]) (cs:=b.at ⟨A2,[]⟩ (UZ L).todo::cs) (z:=some (.v 4)) (v:=(m.num:Int)) (ah6 L) akP aic k2 H.lib.f_add32 (SL L) (SN L) (SQ L) (SS L) (ad:=mA Mu) kD UU (fun y hy=>by cases hy;exact hval)
 have hgo:=hst w hm.state (hm.thaw 0)
 have hset:=hm.setState (m':=v) (v:=IntKind.i32.wrap ((m.num:Int)+-1)) (by rw[adM gY (by omega) hL,hv])
 have hS:=gY.S
 have hW:=gY.W
 have slow:∀{E:Nat->Goroutine->Prop},v.num≠0->(∀g,(∃Yu,(∀g,AtR L Yu 1 g->af P false I X0 (UeQ P I X) 1 g)/\BhU L Yu (nu Mu 0 0 0 v 0) (uEn L) g)->af P false I X0 E 1 g)->af P false I X0 E 1 g':=fun{E} hnz kk=>by
  have e1:(v.num !=0)=true:=by simpa using hnz
  rw[e1]at hTv;refine(akD L _ _ _ _ _).walk hTv xH k2 hb fun g1 b1=>?_
  obtain⟨A1,hz1,ha1,rfl⟩:=b1
  refine tK (adL L) hz1 ha1 k2 H.qO (akL L) (akJ L) (by show 2<=43;omega) fun g2 b2=>kk _ ⟨_,fun g hg=>?_,b2⟩
  obtain⟨_,A',t,ht,rfl⟩:=hg
  refine tN (adL L) hz1 ha1 H.qO (ah9 L) (Ll ht) fun g3 b3=>?_
  exact(akF L _ _ _ _ _ _).walk hTv xH k2 b3 fun g4 b4=>fin b4
 by_cases h1:m.S=0/\(m.W=1∨m.n=0)
 ·refine⟨.done,v,q,g',_,_,by rw[hv];exact .u0d h1,hgo,hset,vH _,EU,fun e=>(by cases e),?_⟩;rw[EW];show af P false I X0 (UeQ P I X) 1 g';by_cases hz:v.num=0
  ·have e1:(v.num !=0)=false:=by simpa using hz
   rw[e1]at hTv;exact(akE L _ _ _ _ _).walk hTv xH k2 hb fun g1 b1=>fin b1
  ·refine slow hz fun g ⟨Yu,hx,hbx⟩=>?_
   have vL:v.L=0:=by rw[hv]
   have vS:v.S=0:=by rw[hv];exact h1.1
   by_cases hw1:m.W=1
   ·have vW:v.W=1:=by rw[hv];exact hw1
    have hT':=hTu
    rw[nD (n1:=false) (wC vL) (EX vW) (wC vS) rfl]at hT';refine(ajT L _ _).walk (BF:=nu Mu 0 0 0 v 0) hT' qm kU hbx fun g1 b1=>?_
    obtain⟨A',_,_,rfl⟩:=b1
    exact hx _ ⟨rfl,A',_,Yi L,rfl⟩
   ·have vn:v.n=0:=by rw[hv];exact h1.2.resolve_left hw1
    have hT':=hTu
    rw[nD (n1:=false) (wC vL) rfl (wC vS) (show(v.n==0)=true from by simpa using vn)]at hT';refine(ajU L _ _).walk (BF:=nu Mu 0 0 0 v 0) hT' qm kU hbx fun g1 b1=>?_
    obtain⟨A',_,_,rfl⟩:=b1
    exact hx _ ⟨rfl,A',_,Yi L,rfl⟩
 ·have Yv:∀{y:Lk},(∀Yu g,BhU L Yu (nu Mu 0 0 0 v 0) (uEn L) g->af P false I X0 (AtU L Mu Yu y) 1 g)->v.num≠0->iV P I tM Mu B (af P false I X0 (UeQ P I X)) y 1 g':=fun{y} hy hnz=>by refine iV.pre (slow hnz fun g ⟨Yu,hx,hbx⟩=>.stop ?_);exact⟨RU P L I Mu Yu,fun y d g hr=>hr.mono fun d g k=>abI H hB hx k,hy Yu g hbx⟩
  have vL:v.L=0:=by rw[hv]
  by_cases hs1:m.S=1
  ·have vS:v.S=1:=by rw[hv];exact hs1
   have hnz:v.num≠0:=by unfold Wd.num;omega
   refine⟨.us,v,q,g',_,_,by rw[hv];exact .u0s hs1,hgo,hset,vH _,EU,fun e=>(by cases e),?_⟩;rw[EW];refine Yv (y:=.us) (fun Yu g hbx=>?_) hnz;have hT':=hTu
   rw[nD (n1:=false) (wC vL) rfl (EX vS) rfl]at hT';exact(ajW L _ _ _).walk (BF:=nu Mu 0 0 0 v 0) hT' qm kU hbx fun g1 b1=>.stop ⟨rfl,v,hvs,.inr b1⟩
  ·have hs0:m.S=0:=by omega
   have hw0:m.W=0/\0<m.n:=by
    refine⟨?_,?_⟩
    ·have:¬m.W=1:=fun e=>h1 ⟨hs0,.inl e⟩
     omega
    ·have:¬m.n=0:=fun e=>h1 ⟨hs0,.inr e⟩
     omega
   have vS:v.S=0:=by rw[hv];exact hs0
   have vW:v.W=0:=by rw[hv];exact hw0.1
   have vn:0<v.n:=by rw[hv];exact hw0.2
   have hnz:v.num≠0:=by unfold Wd.num;omega
   refine⟨.uc v,v,q,g',_,_,by rw[hv];exact .u0c ⟨hs0,hw0⟩,hgo,hset,vH _,EU,fun e=>(by cases e),?_⟩;rw[EW];refine Yv (y:=.uc v) (fun Yu g hbx=>?_) hnz;have hT':=hTu
   rw[nD (n1:=false) (wC vL) (wC vW) (wC vS) (show(v.n==0)=false from by simp;omega)]at hT';exact(ajV L _).walk (BF:=nu Mu 0 0 0 v 0) hT' qm kU hbx fun g1 b1=>.stop ⟨rfl,hvs,b1⟩
end
end Go.Mx
