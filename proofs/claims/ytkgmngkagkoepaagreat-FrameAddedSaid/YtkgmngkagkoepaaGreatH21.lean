import Derived.Test.YtkgmngkagkoepaaGreatH20
set_option linter.all false
namespace Go.Mx
open Go.Ren
open Go.Conc hiding Goes mem_ofEvents
open Go.ConcN (sumTo upd upd_same upd_ne RelBy get_map_set get_map_set_same WgLive PermW)
open Go.Conc.Lib (WgLink)
open Go.ConcR (KK WgAt stA smA rd wr g_of_ofEvents loc_of_ofEvent)
theorem Nx.ofL{R:Lk->Nat->Goroutine->Prop}{E:Nat->Goroutine->Prop}{y:Lk}{d:Nat}{g:Goroutine}(a:isL y)(h:Nx R E y d g):R y d g:=by
 cases y<;>first|exact h|exact a.elim
theorem Nx.ofU{R:Lk->Nat->Goroutine->Prop}{E:Nat->Goroutine->Prop}{y:Lk}{d:Nat}{g:Goroutine}(a:isU y)(b:y≠.own)(h:Nx R E y d g):R y d g:=by
 cases y<;>first|exact h|exact absurd rfl b|exact a.elim
theorem Mv.aav{m a:Wd}{q b:Nat}{x y:Lk}(h:Mv m q x a b y)(c:isU x):y≠.own:=by
 cases h<;>first|(intro e;cases e;done)|exact c.elim
theorem Mv.adL{m b:Wd}{q a:Nat}{x y:Lk}(h:Mv m q x b a y)(c:x≠.us):a<=q:=by
 cases h<;>first|exact Nat.le_refl _|exact Nat.le_succ _|exact absurd rfl c
namespace Ph
variable{p:Ph}{W:Nat->Prop}{j:Nat}{tag:eP}{l:Pos}{y:Bool}{c:Nat->WT}{z:Nat->Bool}{xs o:Nat->Pos}{O D:Nat->Nat->Prop}{u:Array Goroutine}{w w':World}{sl:Option (Nat×Nat)}{t:Trace}
theorem dP.akA(h:p.dP W j tag l y c z xs o O D u w t){i:Nat}(m:i<j)(e:¬holds (c i)):¬O (p.n0+i) p.C:=by
 intro a;by_cases b:free j c
 ·exact h.own.ow _ _ (by omega) a (.inr ⟨b,rfl⟩)
 ·apply b;intro k f d;have g:=h.hold k f d
  have:=h.own.oo _ _ _ (by omega) (by omega) a g
  have:i=k:=by omega
  subst this;exact e d
theorem dP.lib(h:p.dP W j tag l y c z xs o O D u w t){i:Nat}(X:i<j)(H:z i=false){x:Goroutine}{es:Array Event}{k k':Nat}(F:c i=.fin k)
  (J:stepG p.P false (xs i).g w=.go x w' es) (Y:w'=w∨∃a v,a.block=p.Wg/\w'=w.setCell a v) (A:∀e∈es,iO p.Wg e) (n:p.dF i (.fin k') {xs i with d:=deafBehind (xs i).d es,g:=x})
  (s:k'<=5->∃r,Over (stA p.Wg) W (t++MemOp.ofEvents (p.n0+i) (xs i).g.frame.fn (xs i).g.frame.place es) (p.n0+i) r)
  (M:∃a b,WgAt p.L.tWg p.Wg w' a b/\Md j (upd (fun k=>gm (c k)) i k') tag a b)
  (N:∀f:Bool,y=true->(mayWake p.P (xs i).g=true->(x.status=.running∨x.status=.finished)->f=false)->f=true->∃q,q<j/\2<=gm (upd c i (.fin k') q)):
  ∃B f Q Z,runT p.P (crowd u w sl) (p.n0+i)=(.next (crowd B w' sl),MemOp.ofEvents (p.n0+i) (xs i).g.frame.fn (xs i).g.frame.place es)/\
   p.dP W j tag l f (upd c i (.fin k')) Q (upd xs i {xs i with d:=deafBehind (xs i).d es,g:=x}) o Z D B w' (t++MemOp.ofEvents (p.n0+i) (xs i).g.frame.fn (xs i).g.frame.place es):=by
 have R:p.Wg<w.heap.size:=h.own.vZ _ (.inl h.hW.1)
 have E:∀e∈es,Gj W (p.n0+i) e/\(MemAct.ofEvent e).low w.heap.size:=fun e T=>xu h.hW.1 R (A e T);have hG:ni (Gj W (p.n0+i)) W (O (p.n0+i)) (D (p.n0+i)) w w' es:=by
  rcases Y with rfl|⟨a,v,U,rfl⟩
  ·exact qp E
  ·exact BN (by rw[U];exact h.hW.1) E
 have m:∀b,b≠p.Wg->w'.heap[b]?=w.heap[b]?:=fun b hb=>by
  rcases Y with rfl|⟨a,v,U,rfl⟩
  ·rfl
  ·exact dY (by rw[U];exact hb)
 have V:p.C≠p.Wg:=fun e=>h.hW.2.2.2.1 (e▸h.hW.1);refine h.worker (sl:=sl) X H (x':={xs i with d:=deafBehind (xs i).d es,g:=x}) J hG rfl n (by rw[F];exact Iff.rfl) (fun e=>e.elim) (fun e=>e.elim) trivial
  (Cell.same h.cell X (fun _=>by rw[F];exact Iff.rfl) (fun v=>by rw[F];exact⟨fun e=>(by cases e),fun e=>(by cases e)⟩) (.inr (m _ V))) s (fun e T=>gq (A e T))
  (qo h (by rw[F];rfl) (m _ h.hW.2.2.1.symm)) ?_ N
 obtain⟨a,b,m1,m2⟩:=M
 exact⟨a,b,m1,by rw[lZ];exact m2⟩
theorem V9(h:p.dP W j tag l y c z xs o O D u w t){i k k':Nat}(a:c i=.fin k){b:Pos}(d:w'.heap[p.Mu]?=w.heap[p.Mu]?)(f:k'<k∨(k'=k/\p.ZE i (.fin k) b (xs i))):Gn p j c xs w i (.fin k') b w':=by
 refine jZ h (by rw[a];rfl) d ?_;rw[a];exact f.imp (fun x _=>x) (fun⟨e,x⟩=>⟨by rw[e],x⟩)
theorem dP.acu(hn:p.n<2147483647)(h:p.dP W j tag l y c z xs o O D u w t){i:Nat}(J:i<j)(a3:z i=false)(hr:(xs i).g.status=.running){s:Nat}(hs:c i=.fin s):
  xm p W j tag l c xs o D t w i (runT p.P (crowd u w sl) (p.n0+i)) sl:=by
 obtain⟨e7,H,a8⟩:=h.wk i J
 have c1:=h.inv
 have hl:Lv p.L p.Wg w:=c1.1;have hj:=h.jn
 have b4:p.Mu≠p.Wg:=h.hW.2.2.1.symm;obtain⟨C,Z⟩:∃C:Nat->Nat,C=fun k=>gm (c k):=⟨_,rfl⟩
 have R:C i=s:=by rw[Z];show gm (c i)=s;rw[hs];rfl
 have a7:∃a b,WgAt p.L.tWg p.Wg w a b/\Md j C tag a b:=by rw[Z];exact h.md
 have d1:∀k' k,gm (upd c i (.fin k') k)=upd C i k' k:=fun k' k=>by
  have:=congrFun (lZ gm c i (.fin k')) k
  rw[Z];exact this
 have a0:∀{k':Nat} {M:Goroutine} {w':World} {es:Array Event},(w'.heap[p.Mu]?=w.heap[p.Mu]?)->p.dF i (.fin k') {xs i with d:=deafBehind (xs i).d es,g:=M}->(k'<s∨(k'=s/\p.ZE i (.fin s) {xs i with d:=deafBehind (xs i).d es,g:=M} (xs i)))->
   (∃b0 U b5 O',runT p.P (crowd u w sl) (p.n0+i)=(.next (crowd b0 w' sl),MemOp.ofEvents (p.n0+i) (xs i).g.frame.fn (xs i).g.frame.place es)/\
    p.dP W j tag l U (upd c i (.fin k')) b5 (upd xs i {xs i with d:=deafBehind (xs i).d es,g:=M}) o O' D b0 w' (t++MemOp.ofEvents (p.n0+i) (xs i).g.frame.fn (xs i).g.frame.place es))->
   xm p W j tag l c xs o D t w i (runT p.P (crowd u w sl) (p.n0+i)) sl:=by
  rintro k' M w' es hw A ho ⟨b0,U,b5,O',h1,h2⟩;exact⟨b0,w',U,b5,_,_,O',by rw[h1],A,V9 h hs hw ho,by rw[h1];exact h2⟩
 have a1:∃a b,WgAt p.L.tWg p.Wg w a b/\Md j (upd (fun k=>gm (c k)) i s) tag a b:=by
  obtain⟨a,b,V,m2⟩:=a7
  rw[←Z];exact⟨a,b,V,m2.same R⟩
 have F:∀{k'},(2<=s->2<=k')->y=true->∃k,k<j/\2<=gm (upd c i (.fin k') k):=fun hk=>BM h J (by rw[hs];exact hk)
 have N:s<=5->∃r,Over (stA p.Wg) W t (p.n0+i) r:=fun h5=>h.over i J (by rw[hs];exact h5)
 have a6:∀{S:Nat->Goroutine->Prop},2<=s->(∀x:Pos,p.dF i (.fin s) x=af p.P false (Lv p.L p.Wg) X0 S x.d x.g)->p.ZE i (.fin s)=FY p.P false (Lv p.L p.Wg) S->
   ¬S (xs i).d (xs i).g->(∃M,stepG p.P false (xs i).g w=.go M w #[]/\af p.P false (Lv p.L p.Wg) X0 S (xs i).d M)->
   xm p W j tag l c xs o D t w i (runT p.P (crowd u w sl) (p.n0+i)) sl:=by
  rintro S h2 hW hN d4 ⟨M,E,X⟩;have A:p.dF i (.fin s) {xs i with d:=deafBehind (xs i).d #[],g:=M}:=by rw[hW];exact X
  refine a0 (k':=s) (es:=#[]) rfl A (.inr ⟨rfl,?_⟩) (h.lib J a3 hs E (.inl rfl) (by simp) A (fun h5=>?_) a1 (fun U hb _ _=>F (fun _=>h2) hb))
  ·rw[hN];exact⟨d4,w,w,#[],hl,E,rfl⟩
  ·obtain⟨r,hr⟩:=N h5
   exact⟨r,by simpa [MemOp.ofEvents]using hr⟩
 rw[hs]at H;match s,H with
 |7,H=>
  rcases uu H hl with Q|⟨a5,Q⟩
  ·obtain⟨c2,a4,M,E,X⟩:=Q
   have A:p.dF i (.fin 5) {xs i with d:=deafBehind (xs i).d #[Go.ConcR.mk (.releaseMerge (stA p.Wg))],g:=M}:=by show af p.P false (Lv p.L p.Wg) XD (zM p.P p.L p.Wg) (deafBehind (xs i).d #[Go.ConcR.mk (.releaseMerge (stA p.Wg))]) M;rw[c2];exact X
   refine a0 (k':=5) rfl A (.inl (by omega)) (h.lib J a3 hs (E w hl) (.inl rfl) (by intro e B;rw[Array.mem_singleton]at B;exact .inr (.inr (.inl B))) A
    (fun _=>⟨_,Over.new (by rw[a8];exact c2)⟩) ?_ (fun U hb _ _=>F (fun _=>by omega) hb))
   obtain⟨a,b,V,m2⟩:=a7
   rw[←Z];exact⟨a,b,V,m2.counted J (by omega) (.inr (.inr rfl))⟩
  ·exact a6 (by omega) (fun x=>rfl) rfl a5 Q
 |5,H=>
  obtain⟨r,Y⟩:=N (by omega)
  by_cases Q:zM p.P p.L p.Wg (xs i).d (xs i).g
  ·obtain⟨T,a4,c3⟩:=Q
   obtain⟨a,b,V,m2⟩:=a7
   have bk2:∀e∈#[rd (stA p.Wg),wr (stA p.Wg)],Go.ConcR.Bk p.Wg e:=by intro e B;simp at B;rcases B with rfl|rfl<;>exact .inr (.inr ⟨_,_,rfl,rfl⟩)
   have d5:∀e∈#[rd (stA p.Wg),wr (stA p.Wg)],iO p.Wg e:=by intro e B;simp at B;rcases B with rfl|rfl<;>exact .inr (.inr (.inr (.inr ⟨_,_,rfl,rfl⟩)))
   have d6:∀jx e,(#[rd (stA p.Wg),wr (stA p.Wg)]:Array Event)[jx]?=some e->(MemAct.ofEvent e).touch?=none∨0<deafBehind 1 ((#[rd (stA p.Wg),wr (stA p.Wg)]:Array Event).extract 0 jx):=by
    intro jx e B;match jx,B with
    |0,_=>exact .inr (by simp[deafBehind])
    |1,_=>exact .inr (by simp[deafBehind,rd])
    |jx+2,B=>simp at B
   have e8:=KU J (by omega:5<=C i)
   have e9:=We j C
   have b3:=fun s (J:i<j)=>KW (st:=C) (i:=i) (j:=j) s J
   have c5:og (C i)=1:=by rw[R];rfl
   have c4:deafBehind 1 #[rd (stA p.Wg),wr (stA p.Wg)]=1:=by simp[deafBehind,rd,wr]
   have go:∀v a2:Nat,a2<=1->v<2147483647->WgAt p.L.tWg p.Wg w ((v+1)*KK+a2) 0->∀s',((v=0/\a2=1)->s'=4)->(¬(v=0/\a2=1)->s'=1)->Md j (upd C i s') tag (v*KK+a2) 0->(y=true->∃k,k<j/\2<=upd C i s' k)->
     xm p W j tag l c xs o D t w i (runT p.P (crowd u w sl) (p.n0+i)) sl:=by
    intro v a2 h1 h2 h3 s' c6 c7 d7 hb;obtain⟨M,E,d8,d9⟩:=c3 v a2 h1 h2
    have A:p.dF i (.fin s') {xs i with d:=deafBehind (xs i).d #[rd (stA p.Wg),wr (stA p.Wg)],g:=M}:=by
     by_cases hc:v=0/\a2=1
     ·rw[c6 hc];show af p.P false (Lv p.L p.Wg) X0 (WLd p.P p.L p.Wg) (deafBehind (xs i).d #[rd (stA p.Wg),wr (stA p.Wg)]) M;rw[T,c4];exact d8 hc
     ·rw[c7 hc];show∃q,QuitsD p.P q (deafBehind (xs i).d #[rd (stA p.Wg),wr (stA p.Wg)]) M
      rw[T,c4];exact d9 hc
    have c8:s'<5:=by
     by_cases hc:v=0/\a2=1
     ·rw[c6 hc];omega
     ·rw[c7 hc];omega
    refine a0 (k':=s') ((dY (a:=stA p.Wg) b4)) A (.inl c8) (h.lib J a3 hs (E w hl h3) (.inr ⟨_,_,rfl,rfl⟩) d5 A (fun _=>⟨r,Y.book h.hW.1 (by rw[a8,T]) bk2 d6⟩) ⟨_,_,h3.setSt _,by rw[←Z];exact d7⟩ (fun U b1 _ _=>?_));obtain⟨k,hk,h2⟩:=hb b1
    exact⟨k,hk,by rw[d1];exact h2⟩
   cases m2 with
   | @opn tag h1 h2 h3=>
    obtain⟨v,hv⟩:∃v,Vn j C+lG tag=v+1:=⟨Vn j C+lG tag-1,by omega⟩
    have e0:lG tag<=1:=by unfold lG;split<;>omega
    have b2:Vn j (upd C i 1)+1=Vn j C:=by have:=b3 1 J;have:og 1=0:=rfl;omega
    refine go v 0 (by omega) (by omega) (by rw[hv]at V;simpa using V) 1 (fun x=>by omega) (fun _=>rfl) ?_ (fun e=>?_)
    ·have e2:v=Vn j (upd C i 1)+lG tag:=by omega
     have:=Md.opn (j:=j) (st:=upd C i 1) h1 (h2.upd (by simp)) (QI (by omega) h3)
     rw[e2];simpa using this
    ·obtain⟨⟨gT,e1,_⟩,_⟩:=h.blk e
     subst e1;exact h1.elim
   | @reg gT h2 h3=>
    have b2:∀s',og s'=0->Vn j (upd C i s')+1=Vn j C:=fun s' h0=>by have:=b3 s' J;omega
    obtain⟨v,hv⟩:∃v,Vn j C=v+1:=⟨Vn j C-1,by omega⟩
    rw[hv]at V;rcases Nat.eq_zero_or_pos v with rfl|f2
    ·have c9:=IZ h2 J (by omega) (by omega)
     refine go 0 1 (by omega) (by omega) (by simpa using V) 4 (fun _=>rfl) (fun x=>absurd ⟨rfl,rfl⟩ x) ?_ (fun _=>⟨i,J,by rw[upd_same];omega⟩);have:=Md.last (gT:=gT) (j:=j) (st:=upd C i 4) i J (.inl (upd_same _ _ _)) (fun k hk e=>by rw[upd_ne C _ e];exact c9 k hk e)
     simpa [upd_same]using this
    ·refine go v 1 (by omega) (by omega) (by simpa using V) 1 (fun x=>by omega) (fun _=>rfl) ?_ (fun _=>?_)
     ·have:=Md.reg (gT:=gT) (j:=j) (st:=upd C i 1) (h2.upd (by simp)) (by have:=b2 1 rfl;omega)
      have e2:v=Vn j (upd C i 1):=by have:=b2 1 rfl;omega
      rw[e2];simpa using this
     ·obtain⟨k,hk,h5⟩:=vM (j:=j) (st:=upd C i 1) (by have:=b2 1 rfl;omega)
      exact⟨k,hk,by omega⟩
   |last K h2 h3 h4=>
    by_cases e:i=K
    ·subst e;omega
    ·have:=h4 i J e;omega
   |sema h2=>have:=h2 i J;omega
   |fin h1 h2=>have:=h2 i J;omega
  ·have a9:af p.P false (Lv p.L p.Wg) XD (zM p.P p.L p.Wg) (xs i).d (xs i).g:=H
   generalize d0:(xs i).d=dd at a9 Q
   generalize b6:(xs i).g=gg at a9 Q
   cases a9 with
   |stop hy=>exact absurd hy Q
   |step a4 f es hk k=>
    obtain⟨E,B⟩:=hk w hl
    have b7:=k w hl
    have A:p.dF i (.fin 5) {xs i with d:=deafBehind (xs i).d (es w),g:=f w}:=by show af p.P false (Lv p.L p.Wg) XD (zM p.P p.L p.Wg) (deafBehind (xs i).d (es w)) (f w);rw[d0];exact b7
    refine a0 (k':=5) rfl A (.inr ⟨rfl,?_⟩) (h.lib J a3 hs (by rw[b6];exact E) (.inl rfl) (fun e Q=>.inl (by rw[(B e Q).1];rfl)) A (fun _=>⟨r,Y.book h.hW.1 rfl (fun e Q=>.inl (by rw[(B e Q).1];rfl)) (fun jx e Q=>.inl ?_)⟩) a1 (fun U hb _ _=>F (fun _=>by omega) hb))
    ·show FY p.P false (Lv p.L p.Wg) (zM p.P p.L p.Wg) _ _;exact⟨by rw[d0,b6];exact Q,w,w,es w,hl,by rw[b6];exact E,rfl⟩
    ·have:=(B e (Array.mem_of_getElem? Q)).1;rw[this];rfl
 |4,H=>
  rcases uu H hl with Q|⟨a5,Q⟩
  ·obtain⟨r,Y⟩:=N (by omega)
   obtain⟨T,a4,M,E,X⟩:=Q
   obtain⟨a,b,V,m2⟩:=a7
   obtain⟨⟨gT,rfl⟩,ho,rfl,rfl⟩:=m2.isLast J (.inl R)
   have e1:(if C i=2 then(0:Int)else 1)=1:=by rw[R];rfl
   rw[e1]at V;have A:p.dF i (.fin 3) {xs i with d:=deafBehind (xs i).d #[rd (stA p.Wg)],g:=M}:=by show af p.P false (Lv p.L p.Wg) X0 (WSt p.P p.L p.Wg) (deafBehind (xs i).d #[rd (stA p.Wg)]) M;rw[T];exact X
   refine a0 (k':=3) rfl A (.inl (by omega)) (h.lib J a3 hs (E w hl V) (.inl rfl) (by intro e B;simp at B;subst B;exact .inr (.inr (.inr (.inr ⟨_,_,rfl,rfl⟩)))) A
    (fun _=>⟨r,Y.book h.hW.1 (by rw[a8,T]) (by intro e B;simp at B;subst B;exact .inr (.inr ⟨_,_,rfl,rfl⟩)) (by intro jx e B;match jx,B with|0,_=>exact .inr (by simp[deafBehind])|jx+1,B=>simp at B)⟩) ⟨_,_,V,?_⟩ (fun U hb _ _=>F (fun _=>by omega) hb))
   rw[←Z];have:=Md.last (gT:=gT) (j:=j) (st:=upd C i 3) i J (.inr (.inl (upd_same _ _ _))) (fun k hk e=>by rw[upd_ne C _ e];exact ho k hk e)
   simpa [upd_same]using this
  ·exact a6 (by omega) (fun x=>rfl) rfl a5 Q
 |3,H=>
  rcases uu H hl with Q|⟨a5,Q⟩
  ·obtain⟨r,Y⟩:=N (by omega)
   obtain⟨T,a4,M,E,X⟩:=Q
   obtain⟨a,b,V,m2⟩:=a7
   obtain⟨⟨gT,rfl⟩,ho,rfl,rfl⟩:=m2.isLast J (.inr (.inl R))
   have e1:(if C i=2 then(0:Int)else 1)=1:=by rw[R];rfl
   rw[e1]at V;have A:p.dF i (.fin 2) {xs i with d:=deafBehind (xs i).d #[wr (stA p.Wg)],g:=M}:=by show af p.P false (Lv p.L p.Wg) X0 (Vm p.P p.L p.Wg) (deafBehind (xs i).d #[wr (stA p.Wg)]) M;rw[T];exact X
   refine a0 (k':=2) (dY (a:=stA p.Wg) b4) A (.inl (by omega)) (h.lib J a3 hs (E w hl V) (.inr ⟨_,_,rfl,rfl⟩) (by intro e B;simp at B;subst B;exact .inr (.inr (.inr (.inr ⟨_,_,rfl,rfl⟩)))) A
    (fun _=>⟨r,Y.book h.hW.1 (by rw[a8,T]) (by intro e B;simp at B;subst B;exact .inr (.inr ⟨_,_,rfl,rfl⟩)) (by intro jx e B;match jx,B with|0,_=>exact .inr (by simp[deafBehind])|jx+1,B=>simp at B)⟩) ⟨_,_,V.setSt 0,?_⟩ (fun U hb _ _=>F (fun _=>by omega) hb))
   rw[←Z];have:=Md.last (gT:=gT) (j:=j) (st:=upd C i 2) i J (.inr (.inr (upd_same _ _ _))) (fun k hk e=>by rw[upd_ne C _ e];exact ho k hk e)
   simpa [upd_same]using this
  ·exact a6 (by omega) (fun x=>rfl) rfl a5 Q
 |2,H=>
  rcases uu H hl with Q|⟨a5,Q⟩
  ·obtain⟨r,Y⟩:=N (by omega)
   obtain⟨T,a4,b8,M,E,q,X⟩:=Q
   obtain⟨a,b,V,m2⟩:=a7
   obtain⟨⟨gT,rfl⟩,ho,rfl,rfl⟩:=m2.isLast J (.inr (.inr R))
   have e1:(if C i=2 then(0:Int)else 1)=0:=by rw[R];rfl
   rw[e1]at V;have e3:deafBehind 1 (semEvents (smA p.Wg))=1:=by simp[semEvents,deafBehind]
   have A:p.dF i (.fin 1) {xs i with d:=deafBehind (xs i).d (semEvents (smA p.Wg)),g:=M}:=by
    show∃q,QuitsD p.P q (deafBehind (xs i).d (semEvents (smA p.Wg))) M
    rw[T,e3];exact⟨q,X⟩
   refine a0 (k':=1) (dY (a:=smA p.Wg) b4) A (.inl (by omega)) (h.lib J a3 hs (E w hl V) (.inr ⟨_,_,rfl,rfl⟩) O5 A
    (fun _=>⟨r,Y.book h.hW.1 (by rw[a8,T]) Go.ConcN.bk_sem ?_⟩) ⟨_,_,V.setSm 1,?_⟩ (fun U hb hw b1=>?_))
   ·intro jx e B;match jx,B with
    |0,B=>simp[semEvents]at B;subst B;exact .inl rfl
    |1,_=>exact .inr (by simp[semEvents,deafBehind])
    |2,_=>exact .inr (by simp[semEvents,deafBehind])
    |3,B=>simp[semEvents]at B;subst B;exact .inl rfl
    |jx+4,B=>simp[semEvents]at B
   ·rw[←Z];refine Md.sema fun k hk=>?_
    by_cases e:k=i
    ·subst e;rw[upd_same]
    ·rw[upd_ne C _ e];exact ho k hk e
   ·rw[hw b8 X.status]at b1;cases b1
  ·exact a6 (by omega) (fun x=>rfl) rfl a5 Q
 |1,H=>
  obtain⟨q,hq⟩:=H
  obtain⟨r,Y⟩:=N (by omega)
  rcases q with _|q
  ·have:=hq.1;rw[hr]at this;cases this
  ·rcases hq with⟨h1,_⟩|⟨_,M,es,b9,E,e4⟩
   ·rw[hr]at h1;cases h1
   ·have c0:∀e∈es,Go.ConcR.Bk p.Wg e/\iO p.Wg e/\(MemAct.ofEvent e).touch?=none:=fun e B=>by
     have hm:=b9 e B
     obtain⟨loc,wr,sy⟩:=e
     cases loc with
     |mark m=>cases m<;>first|exact⟨.inl rfl,.inl rfl,rfl⟩|exact⟨.inr (.inl rfl),.inr (.inl rfl),rfl⟩|simp[Event.mute]at hm
     |_=>simp[Event.mute]at hm
    have A:p.dF i (.fin 1) {xs i with d:=deafBehind (xs i).d es,g:=M}:=⟨q,e4⟩
    refine a0 (k':=1) rfl A (.inr ⟨rfl,?_⟩) (h.lib J a3 hs (E w) (.inl rfl) (fun e B=>(c0 e B).2.1) A (fun _=>⟨r,Y.book h.hW.1 rfl (fun e B=>(c0 e B).1) (fun jx e B=>.inl (c0 e (Array.mem_of_getElem? B)).2.2)⟩) a1 (fun U hb _ _=>F (fun x=>by omega) hb));exact⟨hr,w,w,es,E w,rfl⟩
 |0,h=>exact h.elim
 |6,h=>exact h.elim
 |s+8,h=>exact h.elim
end Ph
end Go.Mx
namespace Go.Mx
open Go.Ren
open Go.Conc hiding Goes mem_ofEvents
open Go.ConcN (sumTo upd upd_same upd_ne RelBy get_map_set get_map_set_same WgLive PermW)
open Go.Conc.Lib (WgLink)
open Go.ConcR (KK WgAt stA smA rd wr g_of_ofEvents loc_of_ofEvent)
theorem xw{Mu:Nat}{m:Mark}(h:m=.disable∨m=.enable):∀e∈#[Go.ConcR.mk m],iO Mu e:=by
 intro e a;rw[Array.mem_singleton]at a;subst a;rcases h with rfl|rfl
 ·exact .inl rfl
 ·exact .inr (.inl rfl)
namespace Ph
variable{p:Ph}{W:Nat->Prop}{j:Nat}{tag:eP}{o:Pos}{E:Bool}{wt:Nat->WT}{c:Nat->Bool}{xs z:Nat->Pos}{O D:Nat->Nat->Prop}{A:Array Goroutine}{w w':World}{sl:Option (Nat×Nat)}{t:Trace}
def aeM(p:Ph)(W:Nat->Prop)(j:Nat)(tag:eP)(o:Pos)(E:Bool)(wt:Nat->WT)(c:Nat->Bool)(xs z:Nat->Pos)(O D:Nat->Nat->Prop)(t:Trace)(w:World)(i:Nat)(r:Stepped×Array MemOp)(sl:Option (Nat×Nat)):Prop:=
 xm p W j tag o wt xs z D t w i r sl∨∃a,r.1=.next (crowd a w sl)/\p.dP W j tag o E wt (upd c i true) xs z O D a w (t++r.2)
def O6:WT->Prop
 | .IA _|.en|.ac|.rl|.ds|.Oh _|.ue=>True
 |_=>False
theorem aaw{i:Nat}{s:WT}{x:Pos}(a:O6 s):p.dF i s x=af p.P false p.I X0 (p.St i s x) x.d x.g:=by
 cases s<;>first|rfl|exact a.elim
theorem aeN{i:Nat}{s:WT}(a:O6 s):p.ZE i s=fun x' x=>x'.O=x.O/\x'.D=x.D/\x'.w=x.w/\FY p.P false p.I (p.St i s x) x' x:=by
 cases s<;>first|rfl|exact a.elim
theorem aeO{i:Nat}{s:WT}{x:Pos}{d:Nat}{g:Goroutine}:p.St i s {x with d:=d,g:=g}=p.St i s x:=by
 cases s<;>rfl
theorem O7{s:WT}(a:O6 s):gm s=8:=by cases s<;>first|rfl|exact a.elim
theorem nC(h:p.dP W j tag o E wt c xs z O D A w t){i:Nat}(u:i<j){l:Goroutine}{k:Array Event}{s':WT}(b:p.dF i s' {xs i with d:=deafBehind (xs i).d k,g:=l})
  (q:Gn p j wt xs w i s' {xs i with d:=deafBehind (xs i).d k,g:=l} w')
  (r:∃a e f m,runT p.P (crowd A w sl) (p.n0+i)=(.next (crowd a w' sl),MemOp.ofEvents (p.n0+i) (xs i).g.frame.fn (xs i).g.frame.place k)/\
   p.dP W j tag o e (upd wt i s') f (upd xs i {xs i with d:=deafBehind (xs i).d k,g:=l}) z m D a w' (t++MemOp.ofEvents (p.n0+i) (xs i).g.frame.fn (xs i).g.frame.place k)):
  xm p W j tag o wt xs z D t w i (runT p.P (crowd A w sl) (p.n0+i)) sl:=by
 obtain⟨a,e,f,m,n,s⟩:=r
 exact⟨a,w',e,f,_,_,m,by rw[n],b,q,by rw[n];exact s⟩
theorem dP.BO(h:p.dP W j tag o E wt c xs z O D A w t){i:Nat}(f:i<j)(m:c i=false)(k:O6 (wt i))(n:¬p.St i (wt i) (xs i) (xs i).d (xs i).g){l:Goroutine}
  (b:stepG p.P false (xs i).g w=.go l w #[]) (q:af p.P false p.I X0 (p.St i (wt i) (xs i)) (xs i).d l):xm p W j tag o wt xs z D t w i (runT p.P (crowd A w sl) (p.n0+i)) sl:=by
 have a:p.dF i (wt i) {xs i with d:=deafBehind (xs i).d #[],g:=l}:=by rw[aaw k,aeO];exact q
 refine nC h f a (jZ h rfl rfl (.inr ⟨rfl,?_⟩)) (h.quiet f m b (rZ.refl _ _) (by simp) a Iff.rfl id (fun e=>h.Hq i f e) (h.ph i f) (fun _=>Iff.rfl) (fun _=>Iff.rfl) (by rw[O7 k];omega) (.inl (O7 k)) (qo h rfl rfl (x':={xs i with d:=deafBehind (xs i).d #[],g:=l})));rw[aeN k];exact⟨rfl,rfl,rfl,n,w,w,#[],h.inv,b,rfl⟩
theorem dP.ahA(h:p.dP W j tag o E wt c xs z O D A w t){i:Nat}(C:i<j)(H:c i=false){y:Lk}{K:Lk->Nat->Goroutine->Prop}(Q:eG (wt i)=y)(h8:gm (wt i)=8)(a3:∀s':WT,early s'->gm s'=8->True)
  (hx:p.Lw K y (xs i).d (xs i).g) (to:Lk->WT) (R:∀a m q F r d g,Mv m q y F r a->K a d g->eG (to a)=a/\gm (to a)=8/\p.dF i (to a) {xs i with d:=d,g:=g}/\(holds (to a)↔holds (wt i))/\(early (to a)->early (wt i))/\
   (locking (to a)->p.locks i=true)/\phase (to a)/\(past (to a)↔past (wt i))/\(∀v,to a=.cr v↔wt i=.cr v)/\(∀m,rk m a<rk m y->Dj m (to a)<Dj m (wt i))) (hw:∀T,y=.s1 T->p.uN i (wt i) (xs i)):
  aeM p W j tag o E wt c xs z O D t w i (runT p.P (crowd A w sl) (p.n0+i)) sl:=by
 obtain⟨m,q,N,s,U⟩:=h.mi
 have V:=s.fits C
 rw[Q]at V;obtain⟨a4,hr,_,X,J⟩:=hx
 rcases J w m q h.inv N V with⟨⟨T,Y⟩,a5,u⟩|⟨a,F,r,g',w',es,f,u,L,he,Z,M,hK⟩
 ·refine .inr ?_;have hq:∀l b,MuAt p.tM p.Mu w l b->b=0:=by
   intro l b h1;unfold MuAt at h1 N;rw[N]at h1;simp at h1;omega
  obtain⟨a0,a6,k1,k2⟩:=h.aeL (sl:=sl) C H (hw T Y) hq u
  exact⟨a0,by rw[k1],by rw[k1];exact k2⟩
 ·refine .inl ?_;obtain⟨t1,t2,t3,t4,t5,t6,t7,t8,t9,a1⟩:=R a m q F r _ _ f hK
  have e1:(fun k=>eG (upd wt i (to a) k))=upd (fun k=>eG (wt k)) i a:=by rw[lZ,t1]
  have n:MI p.B j (fun k=>eG (upd wt i (to a) k)) F r:=by rw[e1];exact s.step C Q f
  have a2:=Hl.step (lk:=fun k=>eG (wt k)) C Q f (V.2.2.2.1)
  refine nC h C t3 ⟨m,q,F,r,N,s.bits,L,n.bits,?_⟩ (h.quiet C H u he Z t3 t4 t5 t6 t7 (fun _=>t8) t9 (by omega) (.inl t2) ⟨F,r,L,n,?_⟩)
  ·rw[e1];rcases a2 with hp|⟨p1,p2,p3⟩
   ·exact .inl hp
   ·exact .inr ⟨p1,p2,.inl (a1 m p3)⟩
  ·by_cases x:y=.us
   ·exact .inr (.inl ⟨X x,M x⟩)
   ·have a7:=f.adL x
    rcases Nat.eq_zero_or_pos r with e|e
    ·exact .inl e
    ·refine .inr (.inr fun k hk=>?_);cases hb:c k with
     |false=>rfl
     |true=>have:=U k hk hb;omega
theorem dP.skip(h:p.dP W j tag o E wt c xs z O D A w t){i:Nat}(l:i<j)(r:c i=false)(f:wt i=.work)(C:p.adN i (xs i).d (xs i).g):p.dP W j tag o E (upd wt i (.fin 7)) c xs z O D A w t:=by
 obtain⟨s,F,u⟩:=C
 have x:p.dF i (.fin 7) (xs i):=by show af p.P false (Lv p.L p.Wg) X0 (gG p.P p.L p.Wg) (xs i).d (xs i).g;rw[s];exact u
 have n:=IY (j:=j) (wt:=wt) (s':=.fin 7) l (by rw[f];exact Iff.rfl)
 obtain⟨m,q,H,J,M⟩:=h.mi
 refine⟨h.hn0,h.size,h.main,fun e=>?_,h.seat,h.O0,h.D0,h.rely,h.deaf,fun k b=>?_,fun k b B=>?_,fun k b a=>?_,fun k b a=>?_,fun k b=>?_,h.lv,h.ti,by rw[um n];exact h.own,h.hW,fun N=>h.tok (n.1 N),fun k b a=>?_,
  Cell.same h.cell l (fun e=>by rw[F]at e;cases e) (fun v=>by rw[f];exact⟨fun e=>(by cases e),fun e=>(by cases e)⟩) (.inr rfl),fun k b a=>?_,h.norel,⟨m,q,H,?_,M⟩,EH h l (by rw[f];simp[gm]) (.inr (.inl rfl)) rfl,h.left⟩
 ·exact⟨(h.blk e).1,BM h l (fun _=>by simp[gm]) e⟩
 ·obtain⟨Q,R,T⟩:=h.wk k b
  refine⟨Q,?_,T⟩;by_cases e:k=i
  ·subst e;rw[upd_same];exact x
  ·rw[upd_ne wt _ e];exact R
 ·by_cases e:k=i
  ·subst e;rw[r]at B;cases B
  ·rw[upd_ne wt _ e];exact h.bs k b B
 ·by_cases e:k=i
  ·subst e;rw[upd_same]at a;exact a.elim
  ·rw[upd_ne wt _ e]at a;exact h.wO k b a
 ·by_cases e:k=i
  ·subst e;rw[upd_same]at a;exact a.elim
  ·rw[upd_ne wt _ e]at a;exact h.Hq k b a
 ·by_cases e:k=i
  ·subst e;rw[upd_same];trivial
  ·rw[upd_ne wt _ e];exact h.ph k b
 ·by_cases e:k=i
  ·subst e;rw[upd_same]at a;exact a.elim
  ·rw[upd_ne wt _ e]at a;exact h.hold k b a
 ·by_cases e:k=i
  ·subst e;rw[upd_same]at a;simp[gm]at a
  ·rw[upd_ne wt _ e]at a;exact h.over k b a
 ·rw[lZ];exact J.still (y:=.done) l (by rw[f];rfl) (by rw[f];rfl) (by rw[f];rfl) (by rw[f];rfl) (by rw[f];rfl) (by rw[f];rfl) (.inl (by rw[f];exact id)) trivial
theorem dP.acv(h:p.dP W j tag o E wt c xs z O D A w t){i:Nat}(s:i<j)(X:c i=false){Stop:(Nat->Prop)->Nat->(Nat->Prop)->Goroutine->World->Prop}(Y:early (wt i))(h8:gm (wt i)=8)
  (B:dU p.P false p.I X0 (xs i).D (Stop (xs i).D) (xs i).d (xs i).O (xs i).g (xs i).w) (q:¬Stop (xs i).D (xs i).d (xs i).O (xs i).g (xs i).w)
  (hS:∀x:Pos,p.dF i (wt i) x=dU p.P false p.I X0 x.D (Stop x.D) x.d x.O x.g x.w) (hN:p.ZE i (wt i)=NxD p.P false p.I Stop) (L:(∃v,wt i=.cr v)∨¬holds (wt i)):
  xm p W j tag o wt xs z D t w i (runT p.P (crowd A w sl) (p.n0+i)) sl:=by
 obtain⟨M,N,l⟩:=h.wO i s Y
 have m:=h.inv
 generalize Z:xs i=y at B q M N l
 obtain⟨T,U,dd,gg,ww⟩:=y
 dsimp only at B q M N l;cases B with
 |stop hs=>exact absurd hs q
 |step a4 f u F hk k=>
  have H:az T U ww w:=by rw[M,N];exact l
  obtain⟨Q,hG⟩:=hk w H m
  have J:=k w H m
  have r:aQ X0 (O (p.n0+i)) (D (p.n0+i)) w (u w) (F w):=by rw[←M,←N];exact hG
  have a:∀b,W b->(u w).heap[b]?=w.heap[b]?:=fun b V=>r.heap b (h.own.vZ b (.inl V)) fun ho=>h.own.ow _ b (by omega) ho (.inl V)
  have n:p.dF i (wt i) ⟨grow T w (u w),U,deafBehind dd (F w),f w,u w⟩:=by rw[hS];exact J
  have a0:upd wt i (wt i)=wt:=by
   funext k;by_cases e:k=i
   ·subst e;rw[upd_same]
   ·rw[upd_ne wt _ e]
  have a1:(∃v,wt i=.cr v)∨(u w).heap[p.C]?=w.heap[p.C]?:=by
   rcases L with L|L
   ·exact .inl L
   ·exact .inr (r.heap _ h.hW.2.2.2.2 (h.akA s L))
  obtain⟨a2,R,a3,O',k1,k2⟩:=h.worker (sl:=sl) s X (x':=⟨grow T w (u w),U,deafBehind dd (F w),f w,u w⟩) (s':=wt i) (es:=F w) (w':=u w) (by rw[Z];exact Q) (r.wide fun e x=>x.elim) (by rw[Z]) n Iff.rfl
   (fun _=>⟨by rw[M],N,.refl _⟩) (fun e=>h.Hq i s e) (h.ph i s) (Cell.same h.cell s (fun _=>Iff.rfl) (fun _=>Iff.rfl) a1) (fun e=>by omega) (fun e Y=>yC (r.ev e Y) fun x=>x.elim)
   (qo h rfl (a _ h.hW.2.1) (x':=⟨grow T w (u w),U,deafBehind dd (F w),f w,u w⟩)) (EH h s (by omega) (.inl h8) (a _ h.hW.1)) (fun R V _ _=>BM h s id V)
  refine⟨a2,u w,R,a3,wt i,_,O',by rw[k1],n,jZ h rfl (a _ h.hW.2.1) (.inr ⟨rfl,?_⟩),by rw[k1];exact k2⟩;rw[hN,Z];exact⟨rfl,q,w,F w,H,m,Q,rfl,rfl⟩
theorem dP.done(h:p.dP W j tag o E wt c xs z O D A w t)(hV:∀k v,p.V v->p.V (p.f k v)){i:Nat}(x:i<j)(R:c i=false){v:dH}(l:wt i=.cr v)(hx:p.ZC i v (xs i).D (xs i).d (xs i).O (xs i).g (xs i).w):
  xm p W j tag o wt xs z D t w i (runT p.P (crowd A w sl) (p.n0+i)) sl:=by
 obtain⟨T,hr,n,M,N,B,F,U,X⟩:=hx
 obtain⟨m,q,Y,a1,a2⟩:=h.mi
 obtain⟨hO,hD,H⟩:=h.wO i x (by rw[l];trivial)
 have B:=B w m q h.inv Y
 have r:p.dF i .rl {xs i with d:=deafBehind (xs i).d N,g:=M}:=by show af p.P false p.I X0 p.RlS (deafBehind (xs i).d N) M;rw[T,U];exact X
 have Z:p.Mu<w.heap.size:=h.own.vZ _ (.inl h.hW.2.1)
 have a0:=h.hold i x (by rw[l];trivial)
 obtain⟨order,c1,c2,c3,c4,c5⟩:=h.cell
 have hv:=c4 i x v l
 have J:=h.Hq i x (by rw[l];trivial)
 have L:i∉order:=fun Y=>by have:=((c2 i).1 Y).2.2;rw[l]at this;exact this
 have s:p.fold (order++[i])=p.f i v:=by unfold fold;rw[List.foldl_append,hv];rfl
 have y:p.Cell j (upd wt i .rl) w:=by
  refine⟨order++[i],?_,fun k=>?_,by rw[s,hv];exact hV i _ c3,fun k hk u e=>?_,fun hn=>?_⟩
  ·rw[List.nodup_append];exact⟨c1,by simp,fun a ha b Q=>by simp at Q;subst Q;exact fun e=>L (e▸ha)⟩
  ·rw[List.mem_append,c2];by_cases e:k=i
   ·subst e;rw[upd_same];simp[x,J,past]
   ·rw[upd_ne wt _ e];simp[e]
  ·by_cases e':k=i
   ·subst e';rw[upd_same]at e;cases e
   ·rw[upd_ne wt _ e']at e;exact absurd (h.one hk x (by rw[e];rfl) (by rw[l];rfl)) e'
  ·rw[s];unfold CellIs at n⊢;rw[H.own p.C a0];exact n
 have hG:=xq (p:=p) (k:=p.n0+i) (O:=O) (D:=D) h.hW.2.1 Z (rZ.refl p.Mu w) F;refine nC h x r (jZ h (by rw[l];rfl) rfl (.inl fun m=>by rw[l];simp[Dj])) (h.worker (sl:=sl) x R (x':={xs i with d:=deafBehind (xs i).d N,g:=M}) B hG rfl r (by rw[l];exact Iff.rfl) (fun e=>e.elim) (fun _=>J) trivial y (fun e=>by simp[gm]at e) (fun e he=>gq (F e he))
  (qo h (by rw[l];rfl) rfl (x':={xs i with d:=deafBehind (xs i).d N,g:=M})) (EH h x (by rw[l];simp[gm]) (.inl rfl) rfl) (fun a3 Q _ _=>BM h x (fun _=>by simp[gm]) Q))
theorem dP.stepW(hn:p.n<2147483647)(hV:∀k v,p.V v->p.V (p.f k v))(h:p.dP W j tag o E wt c xs z O D A w t){i:Nat}(N:i<j)(F:c i=false)(hr:(xs i).g.status=.running):
  aeM p W j tag o E wt c xs z O D t w i (runT p.P (crowd A w sl) (p.n0+i)) sl:=by
 obtain⟨c1,J,c2⟩:=h.wk i N
 have C:=h.inv
 have a0:=h.ph i N
 have on:∀{s':WT} {T:Goroutine} {es:Array Event},stepG p.P false (xs i).g w=.go T w es->(∀e∈es,iO p.Mu e)->p.dF i s' {xs i with d:=deafBehind (xs i).d es,g:=T}->eG s'=eG (wt i)->(∀m,Dj m s'<Dj m (wt i))->(holds s'↔holds (wt i))->(early s'->early (wt i))->
   (locking s'->p.locks i=true)->phase s'->(past s'↔past (wt i))->(∀v,s'=.cr v↔wt i=.cr v)->gm (wt i)=8->(gm s'=8∨gm s'=7)->aeM p W j tag o E wt c xs z O D t w i (runT p.P (crowd A w sl) (p.n0+i)) sl:=by
  intro s' T es u b3 M h1 h2 h3 h4 h5 h6 h7 h8 h9 b4;exact .inl (nC h N M (jZ h h1 rfl (.inl h2)) (h.quiet N F u (rZ.refl _ _) b3 M h3 h4 h5 h6 (fun _=>h7) h8 (by omega) b4 (qo h h1 rfl (x':={xs i with d:=deafBehind (xs i).d es,g:=T}))))
 have R:∀{s s':WT},(∀v,s≠.cr v)->(∀v,s'≠.cr v)->∀v,s'=.cr v↔s=.cr v:=fun a b v=>⟨fun e=>absurd e (b v),fun e=>absurd e (a v)⟩
 cases r:wt i with
 |work=>
  rw[r]at J;by_cases b0:p.adN i (xs i).d (xs i).g
  ·have h':=h.skip N F r b0
   obtain⟨a1,w',a2,a3,s',x',O',k1,k2,⟨m,q,m',q',n1,n2,n3,n4,n5⟩,k4⟩:=dP.acu (sl:=sl) hn h' N F hr (upd_same wt i _)
   have e1:upd (upd wt i (.fin 7)) i s'=upd wt i s':=by
    funext k;by_cases e:k=i
    ·subst e;rw[upd_same,upd_same]
    ·rw[upd_ne _ _ e,upd_ne _ _ e,upd_ne _ _ e]
   rw[e1]at k4;refine .inl ⟨a1,w',a2,a3,s',x',O',k1,k2,⟨m,q,m',q',n1,n2,n3,n4,.inl ?_⟩,k4⟩;rw[e1]at n5;have a4:Hl j (fun k=>eG (upd wt i (.fin 7) k)) q<Hl j (fun k=>eG (wt k)) q:=by
    rw[lZ];have e:=iT (lk:=fun k=>eG (wt k)) pt .done N;have l:=mW (lk:=fun k=>eG (wt k)) pt N
    rw[r]at e l;unfold Hl;have e2:pt (eG .work)=5:=rfl
    have e3:pt .done=0:=rfl
    have e4:eG (.fin 7)=.done:=rfl
    rw[e4];omega
   rcases n5 with n5|⟨_,n5,_⟩<;>omega
  ·by_cases U:p.Z8 i (xs i).D (xs i).d (xs i).O (xs i).g (xs i).w
   ·obtain⟨c3,U|U⟩:=U
    ·obtain⟨Z,b5,_,T,u,a7⟩:=U
     have M:p.dF i (.IA .l0) {xs i with d:=deafBehind (xs i).d #[Go.ConcR.mk .disable],g:=T}:=by
      show af p.P false p.I X0 _ (deafBehind (xs i).d #[Go.ConcR.mk .disable]) T;have e:deafBehind (xs i).d #[Go.ConcR.mk .disable]=1:=by rw[Z];rfl
      rw[e];exact a7.out
     obtain⟨m,q,hm,a8,b6⟩:=h.mi
     have b1:eG (wt i)=.out:=by rw[r];rfl
     have e1:(fun k=>eG (upd wt i (.IA .l0) k))=upd (fun k=>eG (wt k)) i .l0:=lZ eG wt i _
     have b2:MI p.B j (fun k=>eG (upd wt i (.IA .l0) k)) m q:=by rw[e1];exact a8.step N b1 .enter
     refine .inl (nC h N M ⟨m,q,m,q,hm,a8.bits,hm,a8.bits,?_⟩ (h.quiet N F (u w C) (rZ.refl _ _) (xw (.inl rfl)) M (by rw[r];exact Iff.rfl) (fun _=>by rw[r];trivial) (fun _=>b5) trivial (fun _=>by rw[r];exact Iff.rfl) (by rw[r];exact R (fun _ e=>by cases e) (fun _ e=>by cases e)) (by rw[r];simp[gm]) (.inl rfl) ⟨m,q,hm,b2,?_⟩))
     ·rw[e1];rcases Hl.step (B:=p.B) (lk:=fun k=>eG (wt k)) N b1 (Mv.enter (m:=m) (q:=q)) trivial with hp|⟨p1,p2,p3⟩
      ·exact .inl hp
      ·exact .inr ⟨rfl,p2,.inl (by rw[r];simp[Dj,rk])⟩
     ·rcases Nat.eq_zero_or_pos q with e|e
      ·exact .inl e
      ·refine .inr (.inr fun k hk=>?_);cases hb:c k with
       | false=>rfl
       | true=>have:=b6 k hk hb;omega
    ·exact absurd U b0
   ·exact .inl (h.acv N F (Stop:=fun D=>p.Z8 i D) (by rw[r];trivial) (by rw[r];rfl) J U (fun x=>by rw[r];rfl) (by rw[r];rfl) (.inr (by rw[r];exact id)))
 |IA y=>
  rw[r]at J a0;have b7:isL y:=a0
  rcases qm J C with hx|⟨Q,T,u,H⟩
  ·have Y:=h.Hq i N (by rw[r];trivial)
   refine h.ahA N F (y:=y) (by rw[r];rfl) (by rw[r];rfl) (fun _ _ _=>trivial) hx (fun X=>match X with|.own=>.en|X=>.IA X) (fun X m q m' q' d g a5 hK=>?_) (fun sv e=>?_)
   ·rcases a5.inL b7 with hL|rfl
    ·have e:(match X with|.own=>WT.en|X=>.IA X)=.IA X:=by cases X<;>first|rfl|exact hL.elim
     rw[e,r];refine⟨rfl,rfl,(Nx.ofL hL hK).out,Iff.rfl,id,fun _=>Y,hL,Iff.rfl,R (fun _ e=>by cases e) (fun _ e=>by cases e),fun m a4=>by simp only[Dj];omega⟩
    ·rw[r];exact⟨rfl,rfl,hK,Iff.rfl,fun _=>trivial,fun _=>Y,trivial,Iff.rfl,R (fun _ e=>by cases e) (fun _ e=>by cases e),fun m a4=>by simp only[Dj];omega⟩
   ·exact⟨⟨sv,by rw[r,e]⟩,by rw[r];exact hx⟩
  ·exact .inl (h.BO N F (by rw[r];trivial) (by rw[r];exact Q) u (by rw[r];exact H))
 |en=>
  rw[r]at J;rcases qm J C with hx|⟨Q,T,u,H⟩
  ·obtain⟨a9,_,T,u,H⟩:=hx
   refine on (s':=.ac) (u w C) (xw (.inr rfl)) ?_ (by rw[r];rfl) (fun m=>by rw[r];simp[Dj]) (by rw[r];exact Iff.rfl) (fun _=>by rw[r];trivial) (fun _=>h.Hq i N (by rw[r];trivial)) trivial (by rw[r];exact Iff.rfl) (by rw[r];exact R (fun _ e=>by cases e) (fun _ e=>by cases e)) (by rw[r];rfl) (.inl rfl);show af p.P false p.I X0 _ (deafBehind (xs i).d #[Go.ConcR.mk .enable]) T;have e:deafBehind (xs i).d #[Go.ConcR.mk .enable]=0:=by rw[a9];rfl
   rw[e];exact H
  ·exact .inl (h.BO N F (by rw[r];trivial) (by rw[r];exact Q) u (by rw[r];exact H))
 |ac=>
  rw[r]at J;rcases qm J C with hx|⟨Q,T,u,H⟩
  ·obtain⟨Z,_,T,u,hT⟩:=hx
   obtain⟨a1,a2,a3,v,x',O',b8,k1,k2,k3⟩:=h.take (sl:=sl) N F r Z (u w C) hT
   exact .inl ⟨a1,w,a2,a3,.cr v,x',O',by rw[k1],k2,jZ h (by rw[r];rfl) rfl (.inl fun m=>by rw[r];simp[Dj]),by rw[k1];exact k3⟩
  ·exact .inl (h.BO N F (by rw[r];trivial) (by rw[r];exact Q) u (by rw[r];exact H))
 |cr v=>
  rw[r]at J;by_cases U:p.ZC i v (xs i).D (xs i).d (xs i).O (xs i).g (xs i).w
  ·exact .inl (h.done hV N F r U)
  ·exact .inl (h.acv N F (Stop:=fun D=>p.ZC i v D) (by rw[r];trivial) (by rw[r];rfl) J U (fun x=>by rw[r];rfl) (by rw[r];rfl) (.inl ⟨v,r⟩))
 |rl=>
  rw[r]at J;rcases qm J C with hx|⟨Q,T,u,H⟩
  ·obtain⟨Z,_,T,u,H⟩:=hx
   have M:p.dF i .ds {xs i with d:=0,g:=T}:=H
   obtain⟨a1,a2,a3,O',b8,k1,k2⟩:=h.give (sl:=sl) N F r Z (u w C) M
   exact .inl ⟨a1,w,a2,a3,.ds,_,O',by rw[k1],M,jZ h (by rw[r];rfl) rfl (.inl fun m=>by rw[r];simp[Dj]),by rw[k1];exact k2⟩
  ·exact .inl (h.BO N F (by rw[r];trivial) (by rw[r];exact Q) u (by rw[r];exact H))
 |ds=>
  rw[r]at J;rcases qm J C with hx|⟨Q,T,u,H⟩
  ·obtain⟨Z,_,T,u,a7⟩:=hx
   refine on (s':=.Oh .own) (u w C) (xw (.inl rfl)) ?_ (by rw[r];rfl) (fun m=>by rw[r];simp[Dj,rk]) (by rw[r];exact Iff.rfl) (fun e=>e.elim) (fun _=>h.Hq i N (by rw[r];trivial)) trivial (by rw[r];exact Iff.rfl) (by rw[r];exact R (fun _ e=>by cases e) (fun _ e=>by cases e)) (by rw[r];rfl) (.inl rfl);show af p.P false p.I X0 _ (deafBehind (xs i).d #[Go.ConcR.mk .disable]) T;have e:deafBehind (xs i).d #[Go.ConcR.mk .disable]=1:=by rw[Z];rfl
   rw[e];exact a7.out
  ·exact .inl (h.BO N F (by rw[r];trivial) (by rw[r];exact Q) u (by rw[r];exact H))
 |Oh y=>
  rw[r]at J a0;have a6:isU y:=a0
  rcases qm J C with hx|⟨Q,T,u,H⟩
  ·have Y:=h.Hq i N (by rw[r];trivial)
   refine h.ahA N F (y:=y) (by rw[r];rfl) (by rw[r];rfl) (fun _ _ _=>trivial) hx (fun X=>match X with|.done=>.ue|X=>.Oh X) (fun X m q m' q' d g a5 hK=>?_) (fun sv e=>by rw[e]at a6;exact a6.elim);rcases a5.inU a6 with hU|rfl
   ·have b9:=a5.aav a6
    have e:(match X with|.done=>WT.ue|X=>.Oh X)=.Oh X:=by cases X<;>first|rfl|exact hU.elim
    rw[e,r];refine⟨rfl,rfl,(Nx.ofU hU b9 hK).out,Iff.rfl,fun e=>e.elim,fun _=>Y,hU,Iff.rfl,R (fun _ e=>by cases e) (fun _ e=>by cases e),fun m a4=>by simp only[Dj];omega⟩
   ·rw[r];exact⟨rfl,rfl,hK,Iff.rfl,fun e=>e.elim,fun _=>Y,trivial,Iff.rfl,R (fun _ e=>by cases e) (fun _ e=>by cases e),fun m a4=>by simp only[Dj];omega⟩
  ·exact .inl (h.BO N F (by rw[r];trivial) (by rw[r];exact Q) u (by rw[r];exact H))
 |ue=>
  rw[r]at J;rcases qm J C with hx|⟨Q,T,u,H⟩
  ·obtain⟨a9,_,T,u,H⟩:=hx
   refine on (s':=.fin 7) (u w C) (xw (.inr rfl)) ?_ (by rw[r];rfl) (fun m=>by rw[r];simp[Dj]) (by rw[r];exact Iff.rfl) (fun e=>e.elim) (fun e=>e.elim) trivial (by rw[r];exact Iff.rfl) (by rw[r];exact R (fun _ e=>by cases e) (fun _ e=>by cases e)) (by rw[r];rfl) (.inr rfl);show af p.P false (Lv p.L p.Wg) X0 (gG p.P p.L p.Wg) (deafBehind (xs i).d #[Go.ConcR.mk .enable]) T;have e:deafBehind (xs i).d #[Go.ConcR.mk .enable]=0:=by rw[a9];rfl
   rw[e];exact H
  ·exact .inl (h.BO N F (by rw[r];trivial) (by rw[r];exact Q) u (by rw[r];exact H))
 |fin s=>exact .inl (h.acu hn N F hr r)
end Ph
end Go.Mx
namespace Go.Mx
open Go.Ren
open Go.Conc hiding Goes mem_ofEvents
open Go.ConcN (sumTo upd upd_same upd_ne sumTo_congr sumTo_upd le_sumTo RelBy get_map_set get_map_set_same WgLive norel_of Deaf_absent)
open Go.Conc.Lib (WgLink)
open Go.ConcR (KK WgAt stA smA rd wr g_of_ofEvents loc_of_ofEvent)
namespace Ph
variable{p:Ph}{W:Nat->Prop}{j:Nat}{tag:eP}{c:Pos}{y:Bool}{l:Nat->WT}{u:Nat->Bool}{xs f:Nat->Pos}{O D:Nat->Nat->Prop}{s:Array Goroutine}{w w':World}{sl:Option (Nat×Nat)}{t:Trace}
theorem Cell.to{l:Nat->WT}(h:p.Cell j l w)(a:w'.heap[p.C]?=w.heap[p.C]?):p.Cell j l w':=by
 obtain⟨order,b,d,e,g,i⟩:=h
 exact⟨order,b,d,e,g,fun k=>by unfold CellIs;rw[a];exact i k⟩
theorem dP.ahB(h:p.dP W j tag c y l u xs f O D s w t):¬O 0 p.C:=by
 intro a;have d:=h.hn0
 by_cases b:free j l
 ·exact h.own.ow _ _ (by omega) a (.inr ⟨b,rfl⟩)
 ·apply b;intro k e g;have:=h.own.oo _ _ _ (by omega) (by omega) a (h.hold k e g)
  omega
theorem dP.Wh(h:p.dP W j tag c y l u xs f O D s w t){k:Nat}(a0:1<=k)(hk:k<p.n0)(hr:(f k).g.status=.running):
  ∃Q E F x' R,runT p.P (crowd s w sl) k=(.next (crowd Q w sl),R)/\ZF p.P x' (f k)/\p.dP W j tag c E l F xs (upd f k x') O D Q w (t++R):=by
 obtain⟨a5,⟨q,hq⟩,a6,H⟩:=h.lv k a0 hk
 rcases q with _|q
 ·have:=hq.1;rw[hr]at this;cases this
 rcases hq with⟨N,_⟩|⟨_,T,z,n,U,a7⟩
 ·rw[hr]at N;cases N
 have a8:p.Wg<w.heap.size:=h.own.vZ _ (.inl h.hW.1)
 have v:=h.size
 have A:k≠0:=by omega
 have V:stepG p.P (k==0) (f k).g w=.go T w z:=by
  have:(k==0)=false:=by simp;omega
  rw[this];exact U w
 have a9:∀e∈z,Gj W k e/\(MemAct.ofEvent e).low w.heap.size:=fun e X=>xu (Wg:=p.Wg) h.hW.1 a8 (xx (n e X)).1;have hG:ni (Gj W k) W (O k) (D k) w w z:=qp a9
 have Y:=h.ti
 have B:=h.yz
 rw[←v]at Y B;obtain⟨Z,C,_⟩:=jY (sl:=sl) a5 V Y B hG
 rw[uq,v]at C;obtain⟨E,b0,b1,b4⟩:=KT (P:=p.P) (w':=w) (g:=(f k).g) (g':=T) (jH h.seat) (BK h)
 obtain⟨F,J⟩:=h.sleepers (f k).g T w;have b:∀op∈MemOp.ofEvents k (f k).g.frame.fn (f k).g.frame.place z,op.g=k:=g_of_ofEvents
 have L:∀op∈MemOp.ofEvents k (f k).g.frame.fn (f k).g.frame.place z,op.act.touch?=none:=fun op a=>by rw[ofEvents_eq]at a;obtain⟨e,X,rfl⟩:=Array.mem_map.1 a;exact(xx (Wg:=p.Wg) (n e X)).2
 refine⟨_,E,F,{f k with d:=deafBehind (f k).d z,g:=T},_,Z,⟨hr,w,w,z,U w,rfl⟩,h.hn0,by simpa using v,?_,fun e=>h.blk (b1 e),h.seat,h.O0,h.D0,h.rely,?_,fun i o=>?_,fun i o hb=>h.bs i o ((J i o).2.1 hb),h.wO,h.Hq,h.ph,fun i N h2=>?_,C,h.own,h.hW,
  fun hf=>(h.tok hf).app (fun op a x M=>by rw[L op a]at M;cases M),h.hold,h.cell,fun i o hs=>?_,oP h.norel (fun e X=>gq (Wg:=p.Wg) (xx (n e X)).1),?_,h.md,h.left⟩
 ·rw[get_map_set _ _ _ _ A,h.main,Option.map_some,b0]
 ·rw[Deaf_other t A _ b];exact h.deaf
 ·obtain⟨N,h2,h3⟩:=h.wk i o
  refine⟨?_,h2,by rw[Deaf_other t (by omega) _ b];exact h3⟩;rw[get_map_set _ _ _ _ (by omega),N,Option.map_some,(J i o).1]
 ·by_cases e:i=k
  ·subst e;rw[upd_same];refine⟨get_map_set_same _ _ _ (by rw[v];omega),⟨q,a7⟩,by rw[Deaf_own,a6],H.app (fun p hp hg hc=>?_) (fun op a _ x M=>?_)⟩
   ·obtain⟨op,a1,a2⟩:=qU hg
    obtain⟨x,M,_⟩:=hc
    rcases getElem?_append_cases a1 with⟨hl,_⟩|⟨_,b2⟩
    ·omega
    ·have:touchAt (t++MemOp.ofEvents i (f i).g.frame.fn (f i).g.frame.place z) p=some x:=M
     rw[touchAt_of a1,L op b2]at this;cases this
   ·rw[L op a]at M;cases M
  ·obtain⟨a1,⟨q',a2⟩,a3,a4⟩:=h.lv i N h2
   rw[upd_ne f _ e];refine⟨?_,⟨q',a2⟩,by rw[Deaf_other t (by omega) _ b];exact a3,a4.appNot fun op a e'=>by rw[b op a]at e';omega⟩;rw[get_map_set _ _ _ _ (by omega),a1,Option.map_some,woken_rf a2.status]
 ·obtain⟨r,b3⟩:=h.over i o hs
  exact⟨r,b3.appNot fun op a e'=>by rw[b op a]at e';omega⟩
 ·obtain⟨m,q,m1,m2,m3⟩:=h.mi
  exact⟨m,q,m1,m2,fun i o hb=>m3 i o ((J i o).2.1 hb)⟩
theorem dP.starter(h:p.dP W j tag c false l u xs f O D s w t){x':Pos}{es:Array Event}{tag':eP}
  (a6:stepG p.P true c.g w=.go x'.g w' es) (U:ni (Gj W 0) W (O 0) (D 0) w w' es) (hd:x'.d=deafBehind c.d es) (J:p.jR tag' x') (hO:x'.O=grow (O 0) w w') (hD:x'.D=D 0) (V:az x'.O x'.D x'.w w')
  (a7:∀e∈es,∀a,e.loc≠.mark (.release a)) (a8:w'.heap[p.Mu]?=w.heap[p.Mu]?) (a9:∃a b,WgAt p.L.tWg p.Wg w' a b/\Md j (fun k=>gm (l k)) tag' a b) (M:BJ p.n j tag'):
  ∃X O' N Y,runT p.P (crowd s w sl) 0=(.next (crowd X w' sl),Y)/\p.dP W j tag' x' false l N xs f O' D X w' (t++Y):=by
 have B:=h.size
 have b4:=h.hn0
 have b0:s[0]?=some c.g:=by have:=h.main;simpa using this
 have Z:=h.ti
 have E:=h.yz
 rw[←B]at Z E;obtain⟨a0,F,_⟩:=jY (sl:=sl) (i:=0) b0 (by simpa using a6) Z E U
 rw[B]at F;have z:=h.own.grow (i:=0) (by omega) U.size
 have Q:∀k,k<p.n0+j->k≠0->az (O k) (D k) w w':=fun k hk b1=>U.rely h.yz (by omega) hk b1
 have H:∀k,k≠0->with_ O 0 w.heap.size w'.heap.size k=O k:=fun k hk=>BL hk _ _
 have A:with_ O 0 w.heap.size w'.heap.size 0=grow (O 0) w w':=uo O 0 w w'
 have o:∀op∈MemOp.ofEvents 0 c.g.frame.fn c.g.frame.place es,op.g=0:=g_of_ofEvents
 obtain⟨N,R⟩:=h.sleepers c.g x'.g w'
 have b2:=h.ahB
 refine⟨_,_,N,_,a0,h.hn0,by simpa using B,?_,fun e=>(by cases e),J,by rw[A,hO],hD,V,?_,fun i v=>?_,fun i v hb=>h.bs i v ((R i v).2.1 hb),fun i v hs=>?_,h.Hq,h.ph,fun k h1 h2=>?_,F,z,⟨h.hW.1,h.hW.2.1,h.hW.2.2.1,h.hW.2.2.2.1,Nat.lt_of_lt_of_le h.hW.2.2.2.2 U.size⟩,
  fun hf=>(h.tok hf).app (V8 U.ev h.hW.2.2.2.1 ?_ ?_),fun i v hs=>?_,Cell.to h.cell (U.heap _ h.hW.2.2.2.2 b2 h.hW.2.2.2.1),fun i v hs=>?_,oP h.norel a7,?_,a9,M⟩
 ·rw[get_map_set_same _ _ _ (by rw[B];omega)];rfl
 ·rw[Deaf_own,h.deaf,hd]
 ·obtain⟨h1,h2,h3⟩:=h.wk i v
  refine⟨?_,h2,by rw[Deaf_other t (by omega) _ o];exact h3⟩;rw[get_map_set _ _ _ _ (by omega),h1,Option.map_some,(R i v).1]
 ·obtain⟨a1,a2,a3⟩:=h.wO i v hs
  rw[H _ (by omega)];exact⟨a1,a2,a3.trans (Q _ (by omega) (by omega))⟩
 ·obtain⟨a1,⟨q,a2⟩,a3,a4⟩:=h.lv k h1 h2
  refine⟨?_,⟨q,a2⟩,by rw[Deaf_other t (by omega) _ o];exact a3,a4.appNot fun op T e'=>by rw[o op T]at e';omega⟩;rw[get_map_set _ _ _ _ (by omega),a1,Option.map_some,woken_rf a2.status]
 ·have a5:=z.ow 0 p.C (by omega)
  rw[A]at a5;exact fun x=>a5 x (.inr ⟨hf,rfl⟩)
 ·exact fun x=>h.own.dw 0 p.C (by omega) x (.inr ⟨hf,rfl⟩)
 ·rw[H _ (by omega)];exact h.hold i v hs
 ·obtain⟨r,b3⟩:=h.over i v hs
  exact⟨r,b3.appNot fun op T e'=>by rw[o op T]at e';omega⟩
 ·obtain⟨m,q,m1,m2,m3⟩:=h.mi
  exact⟨m,q,by unfold MuAt at m1⊢;rw[a8];exact m1,m2,fun i v hb=>m3 i v ((R i v).2.1 hb)⟩
theorem dP.sleeps{q:Goroutine}(h:p.dP W j tag c false l u xs f O D s w t)(b:tag=.w3 q)(B:M3 p.P p.L p.Wg q c.d c.g)(r:∃i,i<j/\2<=gm (l i))(v:stepG p.P true c.g w=.go {c.g with status:=.blocked} w #[]):
  ∃e m,runT p.P (crowd s w sl) 0=(.next (crowd e w sl),m)/\p.dP W j tag c true l u xs f O D e w (t++m):=by
 have n:=h.size
 have C:=h.hn0
 have x:s[0]?=some c.g:=by have:=h.main;simpa using this
 have a:=runT_crowd_go (P:=p.P) (sl:=sl) (i:=0) x (by simpa using v)
 have E:woken p.P c.g {c.g with status:=.blocked} w=id:=by funext o;simp[woken]
 rw[E,Array.map_id]at a;have F:t++MemOp.ofEvents 0 c.g.frame.fn c.g.frame.place #[]=t:=by simp[MemOp.ofEvents]
 refine⟨_,_,a,?_⟩;rw[F];refine⟨h.hn0,by simpa using n,?_,fun _=>⟨⟨q,b,B⟩,r⟩,h.seat,h.O0,h.D0,h.rely,h.deaf,fun i H=>?_,h.bs,h.wO,h.Hq,h.ph,fun k J M=>?_,h.ti,h.own,h.hW,h.tok,h.hold,h.cell,h.over,h.norel,h.mi,h.md,h.left⟩
 ·rw[Array.getElem?_setIfInBounds_self_of_lt (by rw[n];omega)];rfl
 ·obtain⟨z,A⟩:=h.wk i H
  exact⟨by rw[Array.getElem?_setIfInBounds_ne (by omega)];exact z,A⟩
 ·obtain⟨z,A⟩:=h.lv k J M
  exact⟨by rw[Array.getElem?_setIfInBounds_ne (by omega)];exact z,A⟩
theorem dP.ahC(h:p.dP W j tag c false l u xs f O D s w t){J:Goroutine}{m:Array Event}{tag':eP}
  (M:stepG p.P true c.g w=.go J w' m) (N:w'=w∨∃a v,a.block=p.Wg/\w'=w.setCell a v) (r:∀e∈m,iO p.Wg e∨XM p.Wg e) (o:p.jR tag' {c with d:=deafBehind c.d m,g:=J})
  (Q:∃a b,WgAt p.L.tWg p.Wg w' a b/\Md j (fun k=>gm (l k)) tag' a b) (q:BJ p.n j tag'):
  ∃z X R A,runT p.P (crowd s w sl) 0=(.next (crowd z w' sl),A)/\p.dP W j tag' {c with d:=deafBehind c.d m,g:=J} false l R xs f X D z w' (t++A):=by
 have B:p.Wg<w.heap.size:=h.own.vZ _ (.inl h.hW.1)
 have Y:=h.hn0
 have C:∀e∈m,Gj W 0 e/\(MemAct.ofEvent e).low w.heap.size:=fun e T=>(r e T).elim (xu h.hW.1 B) (Wi h.hW.1 B);have E:ni (Gj W 0) W (O 0) (D 0) w w' m:=by
  rcases N with rfl|⟨a,v,U,rfl⟩
  ·exact qp C
  ·exact BN (by rw[U];exact h.hW.1) C
 have V:w'.heap.size=w.heap.size:=by
  rcases N with rfl|⟨a,v,_,rfl⟩
  ·rfl
  ·simp
 have i:∀b,b≠p.Wg->w'.heap[b]?=w.heap[b]?:=fun b F=>by
  rcases N with rfl|⟨a,v,U,rfl⟩
  ·rfl
  ·exact dY (by rw[U];exact F)
 have H:az (O 0) (D 0) w w':=⟨E.size,fun b F=>i b fun e=>h.yz.ow 0 b (by omega) F (e▸h.hW.1),fun b F=>i b fun e=>h.yz.dw 0 b (by omega) F (e▸h.hW.1),E.os,E.output,E.tape⟩
 refine h.starter (x':={c with d:=deafBehind c.d m,g:=J}) M E rfl o ?_ h.D0 ?_ (fun e T a=>(r e T).elim (fun x=>gq x a) (fun x=>BP x a)) (i p.Mu (Ne.symm h.hW.2.2.1)) Q q
 ·show c.O=_;rw[O4 V];exact h.O0
 ·exact h.rely.trans (by rw[h.O0,h.D0];exact H)
end Ph
end Go.Mx
namespace Go.Mx
open Go.Ren
open Go.Conc hiding Goes mem_ofEvents
open Go.ConcN (sumTo upd upd_same upd_ne sumTo_congr sumTo_upd le_sumTo RelBy get_map_set get_map_set_same WgLive norel_of Deaf_absent)
open Go.Conc.Lib (WgLink)
open Go.ConcR (KK WgAt stA smA rd wr g_of_ofEvents loc_of_ofEvent)
theorem jJ{φ:Lk->Nat}{j:Nat}{b a:Nat->Lk}(h0:φ .out=0)(c:a j=.out)(d:∀k,k<j->a k=b k):sm φ (j+1) a=sm φ j b:=by
 show sumTo j (fun i=>φ (a i))+φ (a j)=_
 rw[c,h0,Nat.add_zero];exact sumTo_congr fun i e=>by rw[d i e]
theorem MI.more{B j:Nat}{p n:Nat->Lk}{m:Wd}{q:Nat}(h:MI B j p m q)(r:j+1<=B)(g:n j=.out)(f:∀k,k<j->n k=p k):MI B (j+1) n m q:=by
 refine⟨h.bits,r,?_,fun e=>?_,fun e=>?_,fun a b c d=>?_,fun i t=>?_⟩
 ·rw[jJ rfl g f];exact h.own
 ·rw[jJ (φ:=cK) rfl g f,jJ (φ:=cT) rfl g f,jJ (φ:=cU) rfl g f,jJ (φ:=cA) rfl g f,jJ (φ:=cW) rfl g f];exact h.nor e
 ·rw[jJ (φ:=cK) rfl g f,jJ (φ:=cT) rfl g f,jJ (φ:=cU) rfl g f,jJ (φ:=cA) rfl g f,jJ (φ:=cW) rfl g f];exact h.sta e
 ·obtain⟨i,o,s⟩:=h.prog a b c d
  exact⟨i,by omega,by rw[f i o];exact s⟩
 ·rcases Nat.lt_or_ge i j with o|o
  ·rw[f i o];exact h.wf i o
  ·obtain rfl:i=j:=by omega
   rw[g];trivial
namespace Ph
variable{p:Ph}{W:Nat->Prop}{j:Nat}{tag:eP}{c:Pos}{bl:Bool}{wt:Nat->WT}{l:Nat->Bool}{xs o:Nat->Pos}{O D:Nat->Nat->Prop}{f:Array Goroutine}{w w':World}{sl:Option (Nat×Nat)}{t:Trace}
theorem QJ{wt wt':Nat->WT}(e:wt' j=.work)(b:∀k,k<j->wt' k=wt k):free (j+1) wt'↔free j wt:=by
 refine⟨fun h k d=>?_,fun h k d=>?_⟩
 ·rw[←b k d];exact h k (by omega)
 ·rcases Nat.lt_or_ge k j with a|a
  ·rw[b k a];exact h k a
  ·obtain rfl:k=j:=by omega
   rw[e];exact id
theorem dP.spawn{r:Nat}(hB:p.n<=p.B)(h:p.dP W j (.sp (r+1) 0) c false wt l xs o O D f w t)(b7:p.wF (p.n-(r+1)) (p.Ho r) c.D c.d c.O c.g c.w):
  ∃a8 b8 wt' b9 c0 O' D' a9,runT p.P (crowd f w sl) 0=(.next (crowd a8 w sl),a9)/\p.dP W (j+1) (.sp r 1) b8 false wt' b9 c0 o O' D' a8 w (t++a9):=by
 have Q:=h.size
 have d8:=h.hn0
 have c6:r+1+j=p.n:=h.left
 have c7:f[0]?=some c.g:=by have:=h.main;simpa using this
 obtain⟨b0,d9,b1⟩:=b7
 obtain⟨g',child,M,H,N,c8,hM,hH,hN,J,c9⟩:=b1 w h.rely h.inv
 have F:p.n-(r+1)=j:=by omega
 rw[F]at J;have X:=runT_crowd_spawn (P:=p.P) (sl:=sl) (i:=0) c7 (by simpa using c8)
 have e0:∀x y:MemOp,((MemOp.ofEvents 0 c.g.frame.fn c.g.frame.place #[]).push x).push y=#[x,y]:=fun x y=>by simp[MemOp.ofEvents]
 rw[e0]at X;have d0:=h.ti
 have b2:=h.own
 rw[h.O0]at hM hH;rw[h.D0]at hN;have hx:(⟨0,c.g.frame.fn,c.g.frame.place,.go f.size⟩:MemOp).g=0/\(⟨0,c.g.frame.fn,c.g.frame.place,.go f.size⟩:MemOp).act=.go (p.n0+j):=⟨rfl,by rw[Q]⟩
 have hy:(⟨f.size,child.frame.fn,c.g.frame.place,.start⟩:MemOp).g=p.n0+j/\(⟨f.size,child.frame.fn,c.g.frame.place,.start⟩:MemOp).act=.start:=⟨Q,rfl⟩
 have b3:Go.Conc.Deaf t 0=0:=by rw[h.deaf];exact b0
 have b4:=d0.fork (by omega) hx hy b3 hM hH hN
 have a5:=b2.fork (by omega) hM hH hN
 have hm:∀op∈#[(⟨0,c.g.frame.fn,c.g.frame.place,.go f.size⟩:MemOp),⟨f.size,child.frame.fn,c.g.frame.place,.start⟩],op.act≠.mark .disable/\op.act≠.mark .enable:=by intro op C;simp only[List.mem_toArray,List.mem_cons,List.not_mem_nil,or_false]at C;rcases C with rfl|rfl<;>simp
 have Y:∀k,k≠0->k<p.n0+j->∀op∈#[(⟨0,c.g.frame.fn,c.g.frame.place,.go f.size⟩:MemOp),⟨f.size,child.frame.fn,c.g.frame.place,.start⟩],op.g≠k:=by
  intro k hk e1 op C;simp only[List.mem_toArray,List.mem_cons,List.not_mem_nil,or_false]at C;rcases C with rfl|rfl
  ·exact fun e=>hk e.symm
  ·show f.size≠k;omega
 have Z:∀k,k<p.n0+j->k≠0->((f.setIfInBounds 0 g').push child)[k]?=f[k]?:=fun k hk e2=>by rw[Array.getElem?_push_lt (by simp[Q];omega),←Array.getElem?_eq_getElem,Array.getElem?_setIfInBounds_ne (by omega)]
 have hO:∀k,k≠0->k<p.n0+j->oQ O (p.n0+j) M H k=O k:=fun k h1 h2=>by funext b;unfold oQ;rw[if_neg h1,if_neg (by omega)]
 have hD:∀k,k≠0->k<p.n0+j->oU D (p.n0+j) M N k=D k:=fun k h1 h2=>by funext b;unfold oU;rw[if_neg h1,if_neg (by omega)]
 have d1:oQ O (p.n0+j) M H (p.n0+j)=H:=by funext b;unfold oQ;rw[if_neg (by omega),if_pos rfl]
 have d4:oU D (p.n0+j) M N (p.n0+j)=N:=by funext b;unfold oU;rw[if_neg (by omega),if_pos rfl]
 have a6:p.jR (.sp r 1) ⟨fun b=>c.O b/\¬M b/\¬H b,fun b=>c.D b∨M b,0,g',w⟩:=by rcases r with _|r<;>exact c9
 have U:p.dF j .work ⟨H,N,0,child,w⟩:=J
 have u:∀i,i<j->upd wt j .work i=wt i:=fun i F=>upd_ne wt _ (by omega)
 have R:∀i,i<j->upd xs j ⟨H,N,0,child,w⟩ i=xs i:=fun i F=>upd_ne xs _ (by omega)
 have a7:∀i,i<j->upd l j false i=l i:=fun i F=>upd_ne l _ (by omega)
 have b5:=QJ (j:=j) (wt:=wt) (wt':=upd wt j .work) (upd_same wt j _) u
 have b6:Go.Conc.Deaf t (p.n0+j)=0:=Deaf_absent fun p op hp e=>by have:=h.ti.gs p op hp;omega
 refine⟨_,⟨fun b=>c.O b/\¬M b/\¬H b,fun b=>c.D b∨M b,0,g',w⟩,upd wt j .work,upd l j false,upd xs j ⟨H,N,0,child,w⟩,oQ O (p.n0+j) M H,oU D (p.n0+j) M N,_,X,h.hn0,by simp[Q];omega,?_,fun e=>(by cases e),a6,?_,?_,.refl _,?_,fun i F=>?_,fun i F V=>?_,fun i F E=>?_,fun i F E=>?_,fun i F=>?_,fun k h1 h2=>?_,by rw[←Nat.add_assoc];exact b4,
  by rw[←Nat.add_assoc,um b5];exact a5,h.hW,fun hf=>?_,fun i F E=>?_,?_,fun i F E=>?_,EI h.norel ?_,?_,?_,by show r+(j+1)=p.n;omega⟩
 ·rw[Array.getElem?_push_lt (by simp[Q];omega)];simp
 ·funext b;unfold oQ;rw[if_pos rfl,h.O0]
 ·funext b;unfold oU;rw[if_pos rfl,h.D0]
 ·rw[Go.ConcN.Deaf_still t 0 _ hm,h.deaf];exact b0
 ·rcases Nat.lt_or_ge i j with s|A
  ·obtain⟨a1,a2,a3⟩:=h.wk i s
   rw[u i s,R i s,a7 i s];exact⟨by rw[Z _ (by omega) (by omega)];exact a1,a2,by rw[Go.ConcN.Deaf_still t _ _ hm];exact a3⟩
  ·obtain rfl:i=j:=by omega
   rw[upd_same,upd_same,upd_same];refine⟨?_,U,?_⟩
   ·have:p.n0+i=(f.setIfInBounds 0 g').size:=by simp[Q]
    rw[this,Array.getElem?_push_size];rfl
   ·rw[Go.ConcN.Deaf_still t _ _ hm];exact b6
 ·rcases Nat.lt_or_ge i j with s|A
  ·rw[a7 i s]at V;rw[u i s,R i s];exact h.bs i s V
  ·obtain rfl:i=j:=by omega
   rw[upd_same]at V;cases V
 ·rcases Nat.lt_or_ge i j with s|A
  ·rw[u i s]at E;rw[R i s,hO _ (by omega) (by omega),hD _ (by omega) (by omega)];exact h.wO i s E
  ·obtain rfl:i=j:=by omega
   rw[upd_same,d1,d4];exact⟨rfl,rfl,.refl _⟩
 ·rcases Nat.lt_or_ge i j with s|A
  ·rw[u i s]at E;exact h.Hq i s E
  ·obtain rfl:i=j:=by omega
   rw[upd_same]at E;exact E.elim
 ·rcases Nat.lt_or_ge i j with s|A
  ·rw[u i s];exact h.ph i s
  ·obtain rfl:i=j:=by omega
   rw[upd_same];trivial
 ·obtain⟨a1,a2,a3,a4⟩:=h.lv k h1 h2
  exact⟨by rw[Z _ (by omega) (by omega)];exact a1,a2,by rw[Go.ConcN.Deaf_still t _ _ hm];exact a3,a4.appNot (Y k (by omega) (by omega))⟩
 ·rw[←Nat.add_assoc];exact(h.tok (b5.1 hf)).fork (by omega) hx hy b3 b6
 ·rcases Nat.lt_or_ge i j with s|A
  ·rw[u i s]at E;rw[hO _ (by omega) (by omega)];exact h.hold i s E
  ·obtain rfl:i=j:=by omega
   rw[upd_same]at E;exact E.elim
 ·obtain⟨order,c1,c2,c3,c4,c5⟩:=h.cell
  refine⟨order,c1,fun k=>?_,c3,fun k hk v e=>?_,fun hn=>c5 fun k hk v e=>hn k (by omega) v (by rw[u k hk];exact e)⟩
  ·rw[c2];rcases Nat.lt_or_ge k j with s|A
   ·rw[u k s];exact⟨fun x=>⟨by omega,x.2⟩,fun x=>⟨s,x.2⟩⟩
   ·constructor
    ·intro x;omega
    ·rintro⟨x,y,z⟩;obtain rfl:k=j:=by omega
     rw[upd_same]at z;exact z.elim
  ·rcases Nat.lt_or_ge k j with s|A
   ·rw[u k s]at e;exact c4 k s v e
   ·obtain rfl:k=j:=by omega
    rw[upd_same]at e;cases e
 ·rcases Nat.lt_or_ge i j with s|A
  ·rw[u i s]at E;obtain⟨r',d5⟩:=h.over i s E
   exact⟨r',d5.appNot (Y _ (by omega) (by omega))⟩
  ·obtain rfl:i=j:=by omega
   rw[upd_same]at E;simp[gm]at E
 ·intro op C a;simp only[List.mem_toArray,List.mem_cons,List.not_mem_nil,or_false]at C;rcases C with rfl|rfl<;>simp
 ·obtain⟨m,q,m1,m2,m3⟩:=h.mi
  refine⟨m,q,m1,m2.more (by omega) (by rw[upd_same];rfl) (fun k hk=>by rw[u k hk]),fun i F V=>?_⟩;rcases Nat.lt_or_ge i j with s|A
  ·rw[a7 i s]at V;exact m3 i s V
  ·obtain rfl:i=j:=by omega
   rw[upd_same]at V;cases V
 ·obtain⟨a,b,m1,m2⟩:=h.md
  rw[lZ gm];generalize d7:(fun k=>gm (wt k))=T at m2
  have a0:∀i,i<j->upd T j 8 i=T i:=fun i F=>upd_ne T _ (by omega)
  show∃a b,WgAt p.L.tWg p.Wg w a b/\Md (j+1) (upd T j 8) (.sp r 1) a b
  cases m2 with
  |opn h1 h2 h3=>
   have hV:Vn (j+1) (upd T j 8)=Vn j T+1:=by
    show sumTo j (fun i=>og (upd T j 8 i))+og (upd T j 8 j)=_
    rw[upd_same,sumTo_congr (g:=fun i=>og (T i)) (fun i F=>by rw[a0 i F])];rfl
   have hp:lG (.sp r 1)=0:=by rcases r with _|r<;>rfl
   have d6:lG (.sp (r+1) 0)=1:=rfl
   have:=Md.opn (j:=j+1) (st:=upd T j 8) (tag:=.sp r 1) trivial (fun i F=>by
    rcases Nat.lt_or_ge i j with s|A
    ·rw[a0 i s];exact h2 i s
    ·obtain rfl:i=j:=by omega
     rw[upd_same];exact .inl rfl) trivial
   rw[hV,hp]at this;rw[d6]at m1;exact⟨_,_,m1,this⟩
  |fin h1 _=>exact h1.elim
end Ph
end Go.Mx
