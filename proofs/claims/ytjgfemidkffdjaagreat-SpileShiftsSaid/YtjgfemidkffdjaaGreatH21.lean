import Derived.Test.YtjgfemidkffdjaaGreatH20
set_option linter.all false
namespace Go.Mx
open Go.Ren
open Go.Conc hiding Goes mem_ofEvents
open Go.ConcN (sumTo upd upd_same upd_ne RelBy get_map_set get_map_set_same WgLive PermW)
open Go.Conc.Lib (WgLink)
open Go.ConcR (KK WgAt stA smA rd wr g_of_ofEvents loc_of_ofEvent)
theorem xW{Mu:Nat}{m:Mark}(h:m=.disable∨m=.enable):∀e∈#[Go.ConcR.mk m],jw Mu e:=by
 intro e a;rw[Array.mem_singleton]at a;subst a;rcases h with rfl|rfl
 ·exact .inl rfl
 ·exact .inr (.inl rfl)
namespace Ph
variable{p:Ph}{W:Nat->Prop}{j:Nat}{tag:fM}{o:Pos}{bl:Bool}{wt:Nat->WT}{c:Nat->Bool}{xs z:Nat->Pos}{O D:Nat->Nat->Prop}{A:Array Goroutine}{w w':World}{sl:Option (Nat×Nat)}{t:Trace}
def afv(p:Ph)(W:Nat->Prop)(j:Nat)(tag:fM)(o:Pos)(bl:Bool)(wt:Nat->WT)(c:Nat->Bool)(xs z:Nat->Pos)(O D:Nat->Nat->Prop)(t:Trace)(w:World)(i:Nat)(r:Stepped×Array MemOp)(sl:Option (Nat×Nat)):Prop:=
 xQ p W j tag o wt xs z D t w i r sl∨∃a,r.1=.next (crowd a w sl)/\p.dV W j tag o bl wt (upd c i true) xs z O D a w (t++r.2)
def TK:WT->Prop
 | .KT _|.en|.ac|.rl|.ds|.Sz _|.ue=>True
 |_=>False
theorem abS{i:Nat}{s:WT}{x:Pos}(a:TK s):p.dF i s x=af p.P false p.I X0 (p.St i s x) x.d x.g:=by
 cases s<;>first|rfl|exact a.elim
theorem afw{i:Nat}{s:WT}(a:TK s):p.WNx i s=fun x' x=>x'.O=x.O/\x'.D=x.D/\x'.w=x.w/\II p.P false p.I (p.St i s x) x' x:=by
 cases s<;>first|rfl|exact a.elim
theorem afx{i:Nat}{s:WT}{x:Pos}{d:Nat}{g:Goroutine}:p.St i s {x with d:=d,g:=g}=p.St i s x:=by
 cases s<;>rfl
theorem TL{s:WT}(a:TK s):gV s=8:=by cases s<;>first|rfl|exact a.elim
theorem oq(h:p.dV W j tag o bl wt c xs z O D A w t){i:Nat}(u:i<j){l:Goroutine}{k:Array Event}{s':WT}(b:p.dF i s' {xs i with d:=deafBehind (xs i).d k,g:=l})
  (q:I5 p j wt xs w i s' {xs i with d:=deafBehind (xs i).d k,g:=l} w')
  (r:∃a e f m,runT p.P (crowd A w sl) (p.n0+i)=(.next (crowd a w' sl),MemOp.ofEvents (p.n0+i) (xs i).g.frame.fn (xs i).g.frame.place k)/\
   p.dV W j tag o e (upd wt i s') f (upd xs i {xs i with d:=deafBehind (xs i).d k,g:=l}) z m D a w' (t++MemOp.ofEvents (p.n0+i) (xs i).g.frame.fn (xs i).g.frame.place k)):
  xQ p W j tag o wt xs z D t w i (runT p.P (crowd A w sl) (p.n0+i)) sl:=by
 obtain⟨a,e,f,m,n,s⟩:=r
 exact⟨a,w',e,f,_,_,m,by rw[n],b,q,by rw[n];exact s⟩
theorem dV.DF(h:p.dV W j tag o bl wt c xs z O D A w t){i:Nat}(f:i<j)(m:c i=false)(k:TK (wt i))(n:¬p.St i (wt i) (xs i) (xs i).d (xs i).g){l:Goroutine}
  (b:stepG p.P false (xs i).g w=.go l w #[]) (q:af p.P false p.I X0 (p.St i (wt i) (xs i)) (xs i).d l):xQ p W j tag o wt xs z D t w i (runT p.P (crowd A w sl) (p.n0+i)) sl:=by
 have a:p.dF i (wt i) {xs i with d:=deafBehind (xs i).d #[],g:=l}:=by rw[abS k,afx];exact q
 refine oq h f a (kW h rfl rfl (.inr ⟨rfl,?_⟩)) (h.quiet f m b (tq.refl _ _) (by simp) a Iff.rfl id (fun e=>h.J5 i f e) (h.ph i f) (fun _=>Iff.rfl) (fun _=>Iff.rfl) (by rw[TL k];omega) (.inl (TL k)) (rD h rfl rfl (x':={xs i with d:=deafBehind (xs i).d #[],g:=l})));rw[afw k];exact⟨rfl,rfl,rfl,n,w,w,#[],h.inv,b,rfl⟩
theorem dV.aie(h:p.dV W j tag o bl wt c xs z O D A w t){i:Nat}(C:i<j)(F:c i=false){y:Lk}{K:Lk->Nat->Goroutine->Prop}(N:fD (wt i)=y)(h8:gV (wt i)=8)(a3:∀s':WT,early s'->gV s'=8->True)
  (hx:p.Lw K y (xs i).d (xs i).g) (to:Lk->WT) (Q:∀a m q E r d g,Mv m q y E r a->K a d g->fD (to a)=a/\gV (to a)=8/\p.dF i (to a) {xs i with d:=d,g:=g}/\(holds (to a)↔holds (wt i))/\(early (to a)->early (wt i))/\
   (locking (to a)->p.locks i=true)/\phase (to a)/\(past (to a)↔past (wt i))/\(∀v,to a=.cr v↔wt i=.cr v)/\(∀m,rk m a<rk m y->ES m (to a)<ES m (wt i))) (hw:∀R,y=.s1 R->p.xk i (wt i) (xs i)):
  afv p W j tag o bl wt c xs z O D t w i (runT p.P (crowd A w sl) (p.n0+i)) sl:=by
 obtain⟨m,q,M,s,T⟩:=h.mi
 have U:=s.fits C
 rw[N]at U;obtain⟨a4,hr,_,V,H⟩:=hx
 rcases H w m q h.inv M U with⟨⟨R,X⟩,a5,u⟩|⟨a,E,r,g',w',es,f,u,J,he,Y,L,hK⟩
 ·refine .inr ?_;have hq:∀l b,MuAt p.tM p.Mu w l b->b=0:=by
   intro l b Z;unfold MuAt at Z M;rw[M]at Z;simp at Z;omega
  obtain⟨a0,a6,k1,k2⟩:=h.afu (sl:=sl) C F (hw R X) hq u
  exact⟨a0,by rw[k1],by rw[k1];exact k2⟩
 ·refine .inl ?_;obtain⟨t1,t2,t3,t4,t5,t6,t7,t8,t9,a1⟩:=Q a m q E r _ _ f hK
  have e1:(fun k=>fD (upd wt i (to a) k))=upd (fun k=>fD (wt k)) i a:=by rw[nH,t1]
  have n:MI p.B j (fun k=>fD (upd wt i (to a) k)) E r:=by rw[e1];exact s.step C N f
  have a2:=J3.step (lk:=fun k=>fD (wt k)) C N f (U.2.2.2.1)
  refine oq h C t3 ⟨m,q,E,r,M,s.bits,J,n.bits,?_⟩ (h.quiet C F u he Y t3 t4 t5 t6 t7 (fun _=>t8) t9 (by omega) (.inl t2) ⟨E,r,J,n,?_⟩)
  ·rw[e1];rcases a2 with hp|⟨p1,p2,p3⟩
   ·exact .inl hp
   ·exact .inr ⟨p1,p2,.inl (a1 m p3)⟩
  ·by_cases x:y=.us
   ·exact .inr (.inl ⟨V x,L x⟩)
   ·have a7:=f.aev x
    rcases Nat.eq_zero_or_pos r with e|e
    ·exact .inl e
    ·refine .inr (.inr fun k hk=>?_);cases hb:c k with
     |false=>rfl
     |true=>have:=T k hk hb;omega
theorem dV.skip(h:p.dV W j tag o bl wt c xs z O D A w t){i:Nat}(l:i<j)(r:c i=false)(f:wt i=.work)(C:p.aex i (xs i).d (xs i).g):p.dV W j tag o bl (upd wt i (.fin 7)) c xs z O D A w t:=by
 obtain⟨s,E,u⟩:=C
 have x:p.dF i (.fin 7) (xs i):=by show af p.P false (Lv p.L p.Wg) X0 (iP p.P p.L p.Wg) (xs i).d (xs i).g;rw[s];exact u
 have n:=Lu (j:=j) (wt:=wt) (s':=.fin 7) l (by rw[f];exact Iff.rfl)
 obtain⟨m,q,F,H,J⟩:=h.mi
 refine⟨h.hn0,h.size,h.main,fun e=>?_,h.seat,h.O0,h.D0,h.rely,h.deaf,fun k b=>?_,fun k b B=>?_,fun k b a=>?_,fun k b a=>?_,fun k b=>?_,h.lv,h.ti,by rw[uP n];exact h.own,h.hW,fun M=>h.tok (n.1 M),fun k b a=>?_,
  Cell.same h.cell l (fun e=>by rw[E]at e;cases e) (fun v=>by rw[f];exact⟨fun e=>(by cases e),fun e=>(by cases e)⟩) (.inr rfl),fun k b a=>?_,h.norel,⟨m,q,F,?_,J⟩,He h l (by rw[f];simp[gV]) (.inr (.inl rfl)) rfl,h.left⟩
 ·exact⟨(h.blk e).1,Dz h l (fun _=>by simp[gV]) e⟩
 ·obtain⟨N,Q,R⟩:=h.wk k b
  refine⟨N,?_,R⟩;by_cases e:k=i
  ·subst e;rw[upd_same];exact x
  ·rw[upd_ne wt _ e];exact Q
 ·by_cases e:k=i
  ·subst e;rw[r]at B;cases B
  ·rw[upd_ne wt _ e];exact h.bs k b B
 ·by_cases e:k=i
  ·subst e;rw[upd_same]at a;exact a.elim
  ·rw[upd_ne wt _ e]at a;exact h.wO k b a
 ·by_cases e:k=i
  ·subst e;rw[upd_same]at a;exact a.elim
  ·rw[upd_ne wt _ e]at a;exact h.J5 k b a
 ·by_cases e:k=i
  ·subst e;rw[upd_same];trivial
  ·rw[upd_ne wt _ e];exact h.ph k b
 ·by_cases e:k=i
  ·subst e;rw[upd_same]at a;exact a.elim
  ·rw[upd_ne wt _ e]at a;exact h.hold k b a
 ·by_cases e:k=i
  ·subst e;rw[upd_same]at a;simp[gV]at a
  ·rw[upd_ne wt _ e]at a;exact h.over k b a
 ·rw[nH];exact H.still (y:=.done) l (by rw[f];rfl) (by rw[f];rfl) (by rw[f];rfl) (by rw[f];rfl) (by rw[f];rfl) (by rw[f];rfl) (.inl (by rw[f];exact id)) trivial
theorem dV.adO(h:p.dV W j tag o bl wt c xs z O D A w t){i:Nat}(s:i<j)(V:c i=false){Stop:(Nat->Prop)->Nat->(Nat->Prop)->Goroutine->World->Prop}(X:early (wt i))(h8:gV (wt i)=8)
  (B:dY p.P false p.I X0 (xs i).D (Stop (xs i).D) (xs i).d (xs i).O (xs i).g (xs i).w) (q:¬Stop (xs i).D (xs i).d (xs i).O (xs i).g (xs i).w)
  (hS:∀x:Pos,p.dF i (wt i) x=dY p.P false p.I X0 x.D (Stop x.D) x.d x.O x.g x.w) (hN:p.WNx i (wt i)=NxD p.P false p.I Stop) (J:(∃v,wt i=.cr v)∨¬holds (wt i)):
  xQ p W j tag o wt xs z D t w i (runT p.P (crowd A w sl) (p.n0+i)) sl:=by
 obtain⟨L,M,l⟩:=h.wO i s X
 have m:=h.inv
 generalize Y:xs i=y at B q L M l
 obtain⟨R,T,Z,gg,ww⟩:=y
 dsimp only at B q L M l;cases B with
 |stop hs=>exact absurd hs q
 |step a4 f u E hk k=>
  have F:aB R T ww w:=by rw[L,M];exact l
  obtain⟨N,hG⟩:=hk w F m
  have H:=k w F m
  have r:aT X0 (O (p.n0+i)) (D (p.n0+i)) w (u w) (E w):=by rw[←L,←M];exact hG
  have a:∀b,W b->(u w).heap[b]?=w.heap[b]?:=fun b U=>r.heap b (h.own.wV b (.inl U)) fun ho=>h.own.ow _ b (by omega) ho (.inl U)
  have n:p.dF i (wt i) ⟨grow R w (u w),T,deafBehind Z (E w),f w,u w⟩:=by rw[hS];exact H
  have a0:upd wt i (wt i)=wt:=by
   funext k;by_cases e:k=i
   ·subst e;rw[upd_same]
   ·rw[upd_ne wt _ e]
  have a1:(∃v,wt i=.cr v)∨(u w).heap[p.C]?=w.heap[p.C]?:=by
   rcases J with J|J
   ·exact .inl J
   ·exact .inr (r.heap _ h.hW.2.2.2.2 (h.akS s J))
  obtain⟨a2,Q,a3,O',k1,k2⟩:=h.worker (sl:=sl) s V (x':=⟨grow R w (u w),T,deafBehind Z (E w),f w,u w⟩) (s':=wt i) (es:=E w) (w':=u w) (by rw[Y];exact N) (r.wide fun e x=>x.elim) (by rw[Y]) n Iff.rfl
   (fun _=>⟨by rw[L],M,.refl _⟩) (fun e=>h.J5 i s e) (h.ph i s) (Cell.same h.cell s (fun _=>Iff.rfl) (fun _=>Iff.rfl) a1) (fun e=>by omega) (fun e X=>yV (r.ev e X) fun x=>x.elim)
   (rD h rfl (a _ h.hW.2.1) (x':=⟨grow R w (u w),T,deafBehind Z (E w),f w,u w⟩)) (He h s (by omega) (.inl h8) (a _ h.hW.1)) (fun Q U _ _=>Dz h s id U)
  refine⟨a2,u w,Q,a3,wt i,_,O',by rw[k1],n,kW h rfl (a _ h.hW.2.1) (.inr ⟨rfl,?_⟩),by rw[k1];exact k2⟩;rw[hN,Y];exact⟨rfl,q,w,E w,F,m,N,rfl,rfl⟩
theorem dV.done(h:p.dV W j tag o bl wt c xs z O D A w t)(hV:∀k v,p.V v->p.V (p.f k v)){i:Nat}(x:i<j)(Q:c i=false){v:dm}(l:wt i=.cr v)(hx:p.CrS i v (xs i).D (xs i).d (xs i).O (xs i).g (xs i).w):
  xQ p W j tag o wt xs z D t w i (runT p.P (crowd A w sl) (p.n0+i)) sl:=by
 obtain⟨R,hr,n,L,M,B,E,T,U⟩:=hx
 obtain⟨m,q,X,a0,a1⟩:=h.mi
 obtain⟨hO,hD,F⟩:=h.wO i x (by rw[l];trivial)
 have B:=B w m q h.inv X
 have r:p.dF i .rl {xs i with d:=deafBehind (xs i).d M,g:=L}:=by show af p.P false p.I X0 p.RlS (deafBehind (xs i).d M) L;rw[R,T];exact U
 have Y:p.Mu<w.heap.size:=h.own.wV _ (.inl h.hW.2.1)
 have Z:=h.hold i x (by rw[l];trivial)
 obtain⟨order,c1,c2,c3,c4,c5⟩:=h.cell
 have hv:=c4 i x v l
 have H:=h.J5 i x (by rw[l];trivial)
 have J:i∉order:=fun X=>by have:=((c2 i).1 X).2.2;rw[l]at this;exact this
 have s:p.fold (order++[i])=p.f i v:=by unfold fold;rw[List.foldl_append,hv];rfl
 have y:p.Cell j (upd wt i .rl) w:=by
  refine⟨order++[i],?_,fun k=>?_,by rw[s,hv];exact hV i _ c3,fun k hk u e=>?_,fun hn=>?_⟩
  ·rw[List.nodup_append];exact⟨c1,by simp,fun a ha b N=>by simp at N;subst N;exact fun e=>J (e▸ha)⟩
  ·rw[List.mem_append,c2];by_cases e:k=i
   ·subst e;rw[upd_same];simp[x,H,past]
   ·rw[upd_ne wt _ e];simp[e]
  ·by_cases e':k=i
   ·subst e';rw[upd_same]at e;cases e
   ·rw[upd_ne wt _ e']at e;exact absurd (h.one hk x (by rw[e];rfl) (by rw[l];rfl)) e'
  ·rw[s];unfold CellIs at n⊢;rw[F.own p.C Z];exact n
 have hG:=xR (p:=p) (k:=p.n0+i) (O:=O) (D:=D) h.hW.2.1 Y (tq.refl p.Mu w) E;refine oq h x r (kW h (by rw[l];rfl) rfl (.inl fun m=>by rw[l];simp[ES])) (h.worker (sl:=sl) x Q (x':={xs i with d:=deafBehind (xs i).d M,g:=L}) B hG rfl r (by rw[l];exact Iff.rfl) (fun e=>e.elim) (fun _=>H) trivial y (fun e=>by simp[gV]at e) (fun e he=>gZ (E e he))
  (rD h (by rw[l];rfl) rfl (x':={xs i with d:=deafBehind (xs i).d M,g:=L})) (He h x (by rw[l];simp[gV]) (.inl rfl) rfl) (fun a2 N _ _=>Dz h x (fun _=>by simp[gV]) N))
theorem dV.stepW(hn:p.n<2147483647)(hV:∀k v,p.V v->p.V (p.f k v))(h:p.dV W j tag o bl wt c xs z O D A w t){i:Nat}(M:i<j)(E:c i=false)(hr:(xs i).g.status=.running):
  afv p W j tag o bl wt c xs z O D t w i (runT p.P (crowd A w sl) (p.n0+i)) sl:=by
 obtain⟨c0,H,c1⟩:=h.wk i M
 have C:=h.inv
 have Z:=h.ph i M
 have on:∀{s':WT} {R:Goroutine} {es:Array Event},stepG p.P false (xs i).g w=.go R w es->(∀e∈es,jw p.Mu e)->p.dF i s' {xs i with d:=deafBehind (xs i).d es,g:=R}->fD s'=fD (wt i)->(∀m,ES m s'<ES m (wt i))->(holds s'↔holds (wt i))->(early s'->early (wt i))->
   (locking s'->p.locks i=true)->phase s'->(past s'↔past (wt i))->(∀v,s'=.cr v↔wt i=.cr v)->gV (wt i)=8->(gV s'=8∨gV s'=7)->afv p W j tag o bl wt c xs z O D t w i (runT p.P (crowd A w sl) (p.n0+i)) sl:=by
  intro s' R es u b2 J h1 h2 h3 h4 h5 h6 h7 h8 h9 b3;exact .inl (oq h M J (kW h h1 rfl (.inl h2)) (h.quiet M E u (tq.refl _ _) b2 J h3 h4 h5 h6 (fun _=>h7) h8 (by omega) b3 (rD h h1 rfl (x':={xs i with d:=deafBehind (xs i).d es,g:=R}))))
 have Q:∀{s s':WT},(∀v,s≠.cr v)->(∀v,s'≠.cr v)->∀v,s'=.cr v↔s=.cr v:=fun a b v=>⟨fun e=>absurd e (b v),fun e=>absurd e (a v)⟩
 cases r:wt i with
 |work=>
  rw[r]at H;by_cases a9:p.aex i (xs i).d (xs i).g
  ·have h':=h.skip M E r a9
   obtain⟨a0,w',a1,a2,s',x',O',k1,k2,⟨m,q,m',q',n1,n2,n3,n4,n5⟩,k4⟩:=dV.adN (sl:=sl) hn h' M E hr (upd_same wt i _)
   have e1:upd (upd wt i (.fin 7)) i s'=upd wt i s':=by
    funext k;by_cases e:k=i
    ·subst e;rw[upd_same,upd_same]
    ·rw[upd_ne _ _ e,upd_ne _ _ e,upd_ne _ _ e]
   rw[e1]at k4;refine .inl ⟨a0,w',a1,a2,s',x',O',k1,k2,⟨m,q,m',q',n1,n2,n3,n4,.inl ?_⟩,k4⟩;rw[e1]at n5;have a3:J3 j (fun k=>fD (upd wt i (.fin 7) k)) q<J3 j (fun k=>fD (wt k)) q:=by
    rw[nH];have e:=jD (lk:=fun k=>fD (wt k)) pt .done M;have l:=nV (lk:=fun k=>fD (wt k)) pt M
    rw[r]at e l;unfold J3;have e2:pt (fD .work)=5:=rfl
    have e3:pt .done=0:=rfl
    have e4:fD (.fin 7)=.done:=rfl
    rw[e4];omega
   rcases n5 with n5|⟨_,n5,_⟩<;>omega
  ·by_cases T:p.WLk i (xs i).D (xs i).d (xs i).O (xs i).g (xs i).w
   ·obtain⟨c2,T|T⟩:=T
    ·obtain⟨Y,b4,_,R,u,a6⟩:=T
     have J:p.dF i (.KT .l0) {xs i with d:=deafBehind (xs i).d #[Go.ConcR.mk .disable],g:=R}:=by
      show af p.P false p.I X0 _ (deafBehind (xs i).d #[Go.ConcR.mk .disable]) R;have e:deafBehind (xs i).d #[Go.ConcR.mk .disable]=1:=by rw[Y];rfl
      rw[e];exact a6.out
     obtain⟨m,q,hm,a7,b5⟩:=h.mi
     have b0:fD (wt i)=.out:=by rw[r];rfl
     have e1:(fun k=>fD (upd wt i (.KT .l0) k))=upd (fun k=>fD (wt k)) i .l0:=nH fD wt i _
     have b1:MI p.B j (fun k=>fD (upd wt i (.KT .l0) k)) m q:=by rw[e1];exact a7.step M b0 .enter
     refine .inl (oq h M J ⟨m,q,m,q,hm,a7.bits,hm,a7.bits,?_⟩ (h.quiet M E (u w C) (tq.refl _ _) (xW (.inl rfl)) J (by rw[r];exact Iff.rfl) (fun _=>by rw[r];trivial) (fun _=>b4) trivial (fun _=>by rw[r];exact Iff.rfl) (by rw[r];exact Q (fun _ e=>by cases e) (fun _ e=>by cases e)) (by rw[r];simp[gV]) (.inl rfl) ⟨m,q,hm,b1,?_⟩))
     ·rw[e1];rcases J3.step (B:=p.B) (lk:=fun k=>fD (wt k)) M b0 (Mv.enter (m:=m) (q:=q)) trivial with hp|⟨p1,p2,p3⟩
      ·exact .inl hp
      ·exact .inr ⟨rfl,p2,.inl (by rw[r];simp[ES,rk])⟩
     ·rcases Nat.eq_zero_or_pos q with e|e
      ·exact .inl e
      ·refine .inr (.inr fun k hk=>?_);cases hb:c k with
       | false=>rfl
       | true=>have:=b5 k hk hb;omega
    ·exact absurd T a9
   ·exact .inl (h.adO M E (Stop:=fun D=>p.WLk i D) (by rw[r];trivial) (by rw[r];rfl) H T (fun x=>by rw[r];rfl) (by rw[r];rfl) (.inr (by rw[r];exact id)))
 |KT y=>
  rw[r]at H Z;have b6:isL y:=Z
  rcases rC H C with hx|⟨N,R,u,F⟩
  ·have X:=h.J5 i M (by rw[r];trivial)
   refine h.aie M E (y:=y) (by rw[r];rfl) (by rw[r];rfl) (fun _ _ _=>trivial) hx (fun U=>match U with|.own=>.en|U=>.KT U) (fun U m q m' q' d g a4 hK=>?_) (fun sv e=>?_)
   ·rcases a4.inL b6 with hL|rfl
    ·have e:(match U with|.own=>WT.en|U=>.KT U)=.KT U:=by cases U<;>first|rfl|exact hL.elim
     rw[e,r];refine⟨rfl,rfl,(Nx.ofL hL hK).out,Iff.rfl,id,fun _=>X,hL,Iff.rfl,Q (fun _ e=>by cases e) (fun _ e=>by cases e),fun m a3=>by simp only[ES];omega⟩
    ·rw[r];exact⟨rfl,rfl,hK,Iff.rfl,fun _=>trivial,fun _=>X,trivial,Iff.rfl,Q (fun _ e=>by cases e) (fun _ e=>by cases e),fun m a3=>by simp only[ES];omega⟩
   ·exact⟨⟨sv,by rw[r,e]⟩,by rw[r];exact hx⟩
  ·exact .inl (h.DF M E (by rw[r];trivial) (by rw[r];exact N) u (by rw[r];exact F))
 |en=>
  rw[r]at H;rcases rC H C with hx|⟨N,R,u,F⟩
  ·obtain⟨a8,_,R,u,F⟩:=hx
   refine on (s':=.ac) (u w C) (xW (.inr rfl)) ?_ (by rw[r];rfl) (fun m=>by rw[r];simp[ES]) (by rw[r];exact Iff.rfl) (fun _=>by rw[r];trivial) (fun _=>h.J5 i M (by rw[r];trivial)) trivial (by rw[r];exact Iff.rfl) (by rw[r];exact Q (fun _ e=>by cases e) (fun _ e=>by cases e)) (by rw[r];rfl) (.inl rfl);show af p.P false p.I X0 _ (deafBehind (xs i).d #[Go.ConcR.mk .enable]) R;have e:deafBehind (xs i).d #[Go.ConcR.mk .enable]=0:=by rw[a8];rfl
   rw[e];exact F
  ·exact .inl (h.DF M E (by rw[r];trivial) (by rw[r];exact N) u (by rw[r];exact F))
 |ac=>
  rw[r]at H;rcases rC H C with hx|⟨N,R,u,F⟩
  ·obtain⟨Y,_,R,u,hT⟩:=hx
   obtain⟨a0,a1,a2,v,x',O',b7,k1,k2,k3⟩:=h.take (sl:=sl) M E r Y (u w C) hT
   exact .inl ⟨a0,w,a1,a2,.cr v,x',O',by rw[k1],k2,kW h (by rw[r];rfl) rfl (.inl fun m=>by rw[r];simp[ES]),by rw[k1];exact k3⟩
  ·exact .inl (h.DF M E (by rw[r];trivial) (by rw[r];exact N) u (by rw[r];exact F))
 |cr v=>
  rw[r]at H;by_cases T:p.CrS i v (xs i).D (xs i).d (xs i).O (xs i).g (xs i).w
  ·exact .inl (h.done hV M E r T)
  ·exact .inl (h.adO M E (Stop:=fun D=>p.CrS i v D) (by rw[r];trivial) (by rw[r];rfl) H T (fun x=>by rw[r];rfl) (by rw[r];rfl) (.inl ⟨v,r⟩))
 |rl=>
  rw[r]at H;rcases rC H C with hx|⟨N,R,u,F⟩
  ·obtain⟨Y,_,R,u,F⟩:=hx
   have J:p.dF i .ds {xs i with d:=0,g:=R}:=F
   obtain⟨a0,a1,a2,O',b7,k1,k2⟩:=h.give (sl:=sl) M E r Y (u w C) J
   exact .inl ⟨a0,w,a1,a2,.ds,_,O',by rw[k1],J,kW h (by rw[r];rfl) rfl (.inl fun m=>by rw[r];simp[ES]),by rw[k1];exact k2⟩
  ·exact .inl (h.DF M E (by rw[r];trivial) (by rw[r];exact N) u (by rw[r];exact F))
 |ds=>
  rw[r]at H;rcases rC H C with hx|⟨N,R,u,F⟩
  ·obtain⟨Y,_,R,u,a6⟩:=hx
   refine on (s':=.Sz .own) (u w C) (xW (.inl rfl)) ?_ (by rw[r];rfl) (fun m=>by rw[r];simp[ES,rk]) (by rw[r];exact Iff.rfl) (fun e=>e.elim) (fun _=>h.J5 i M (by rw[r];trivial)) trivial (by rw[r];exact Iff.rfl) (by rw[r];exact Q (fun _ e=>by cases e) (fun _ e=>by cases e)) (by rw[r];rfl) (.inl rfl);show af p.P false p.I X0 _ (deafBehind (xs i).d #[Go.ConcR.mk .disable]) R;have e:deafBehind (xs i).d #[Go.ConcR.mk .disable]=1:=by rw[Y];rfl
   rw[e];exact a6.out
  ·exact .inl (h.DF M E (by rw[r];trivial) (by rw[r];exact N) u (by rw[r];exact F))
 |Sz y=>
  rw[r]at H Z;have a5:isU y:=Z
  rcases rC H C with hx|⟨N,R,u,F⟩
  ·have X:=h.J5 i M (by rw[r];trivial)
   refine h.aie M E (y:=y) (by rw[r];rfl) (by rw[r];rfl) (fun _ _ _=>trivial) hx (fun U=>match U with|.done=>.ue|U=>.Sz U) (fun U m q m' q' d g a4 hK=>?_) (fun sv e=>by rw[e]at a5;exact a5.elim);rcases a4.inU a5 with hU|rfl
   ·have b8:=a4.abR a5
    have e:(match U with|.done=>WT.ue|U=>.Sz U)=.Sz U:=by cases U<;>first|rfl|exact hU.elim
    rw[e,r];refine⟨rfl,rfl,(Nx.ofU hU b8 hK).out,Iff.rfl,fun e=>e.elim,fun _=>X,hU,Iff.rfl,Q (fun _ e=>by cases e) (fun _ e=>by cases e),fun m a3=>by simp only[ES];omega⟩
   ·rw[r];exact⟨rfl,rfl,hK,Iff.rfl,fun e=>e.elim,fun _=>X,trivial,Iff.rfl,Q (fun _ e=>by cases e) (fun _ e=>by cases e),fun m a3=>by simp only[ES];omega⟩
  ·exact .inl (h.DF M E (by rw[r];trivial) (by rw[r];exact N) u (by rw[r];exact F))
 |ue=>
  rw[r]at H;rcases rC H C with hx|⟨N,R,u,F⟩
  ·obtain⟨a8,_,R,u,F⟩:=hx
   refine on (s':=.fin 7) (u w C) (xW (.inr rfl)) ?_ (by rw[r];rfl) (fun m=>by rw[r];simp[ES]) (by rw[r];exact Iff.rfl) (fun e=>e.elim) (fun e=>e.elim) trivial (by rw[r];exact Iff.rfl) (by rw[r];exact Q (fun _ e=>by cases e) (fun _ e=>by cases e)) (by rw[r];rfl) (.inr rfl);show af p.P false (Lv p.L p.Wg) X0 (iP p.P p.L p.Wg) (deafBehind (xs i).d #[Go.ConcR.mk .enable]) R;have e:deafBehind (xs i).d #[Go.ConcR.mk .enable]=0:=by rw[a8];rfl
   rw[e];exact F
  ·exact .inl (h.DF M E (by rw[r];trivial) (by rw[r];exact N) u (by rw[r];exact F))
 |fin s=>exact .inl (h.adN hn M E hr r)
end Ph
end Go.Mx
namespace Go.Mx
open Go.Ren
open Go.Conc hiding Goes mem_ofEvents
open Go.ConcN (sumTo upd upd_same upd_ne sumTo_congr sumTo_upd le_sumTo RelBy get_map_set get_map_set_same WgLive norel_of Deaf_absent)
open Go.Conc.Lib (WgLink)
open Go.ConcR (KK WgAt stA smA rd wr g_of_ofEvents loc_of_ofEvent)
namespace Ph
variable{p:Ph}{W:Nat->Prop}{j:Nat}{tag:fM}{c:Pos}{bl:Bool}{l:Nat->WT}{u:Nat->Bool}{xs f:Nat->Pos}{O D:Nat->Nat->Prop}{s:Array Goroutine}{w w':World}{sl:Option (Nat×Nat)}{t:Trace}
theorem Cell.to{l:Nat->WT}(h:p.Cell j l w)(a:w'.heap[p.C]?=w.heap[p.C]?):p.Cell j l w':=by
 obtain⟨order,b,d,e,g,i⟩:=h
 exact⟨order,b,d,e,g,fun k=>by unfold CellIs;rw[a];exact i k⟩
theorem dV.aif(h:p.dV W j tag c bl l u xs f O D s w t):¬O 0 p.C:=by
 intro a;have d:=h.hn0
 by_cases b:free j l
 ·exact h.own.ow _ _ (by omega) a (.inr ⟨b,rfl⟩)
 ·apply b;intro k e g;have:=h.own.oo _ _ _ (by omega) (by omega) a (h.hold k e g)
  omega
theorem dV.YJ(h:p.dV W j tag c bl l u xs f O D s w t){k:Nat}(a0:1<=k)(hk:k<p.n0)(hr:(f k).g.status=.running):
  ∃N C E x' Q,runT p.P (crowd s w sl) k=(.next (crowd N w sl),Q)/\NxQ p.P x' (f k)/\p.dV W j tag c C l E xs (upd f k x') O D N w (t++Q):=by
 obtain⟨a5,⟨q,hq⟩,a6,F⟩:=h.lv k a0 hk
 rcases q with _|q
 ·have:=hq.1;rw[hr]at this;cases this
 rcases hq with⟨M,_⟩|⟨_,R,y,n,T,a7⟩
 ·rw[hr]at M;cases M
 have a8:p.Wg<w.heap.size:=h.own.wV _ (.inl h.hW.1)
 have v:=h.size
 have z:k≠0:=by omega
 have U:stepG p.P (k==0) (f k).g w=.go R w y:=by
  have:(k==0)=false:=by simp;omega
  rw[this];exact T w
 have a9:∀e∈y,IY W k e/\(MemAct.ofEvent e).low w.heap.size:=fun e V=>xU (Wg:=p.Wg) h.hW.1 a8 (xX (n e V)).1;have hG:oh (IY W k) W (O k) (D k) w w y:=rE a9
 have X:=h.ti
 have A:=h.yT
 rw[←v]at X A;obtain⟨Y,B,_⟩:=kV (sl:=sl) a5 U X A hG
 rw[uS,v]at B;obtain⟨C,b0,b1,b4⟩:=Oe (P:=p.P) (w':=w) (g:=(f k).g) (g':=R) (kG h.seat) (Dx h)
 obtain⟨E,H⟩:=h.sleepers (f k).g R w;have b:∀op∈MemOp.ofEvents k (f k).g.frame.fn (f k).g.frame.place y,op.g=k:=g_of_ofEvents
 have J:∀op∈MemOp.ofEvents k (f k).g.frame.fn (f k).g.frame.place y,op.act.touch?=none:=fun op a=>by rw[ofEvents_eq]at a;obtain⟨e,V,rfl⟩:=Array.mem_map.1 a;exact(xX (Wg:=p.Wg) (n e V)).2
 refine⟨_,C,E,{f k with d:=deafBehind (f k).d y,g:=R},_,Y,⟨hr,w,w,y,T w,rfl⟩,h.hn0,by simpa using v,?_,fun e=>h.blk (b1 e),h.seat,h.O0,h.D0,h.rely,?_,fun i o=>?_,fun i o hb=>h.bs i o ((H i o).2.1 hb),h.wO,h.J5,h.ph,fun i M h2=>?_,B,h.own,h.hW,
  fun hf=>(h.tok hf).app (fun op a x L=>by rw[J op a]at L;cases L),h.hold,h.cell,fun i o hs=>?_,qp h.norel (fun e V=>gZ (Wg:=p.Wg) (xX (n e V)).1),?_,h.md,h.left⟩
 ·rw[get_map_set _ _ _ _ z,h.main,Option.map_some,b0]
 ·rw[Deaf_other t z _ b];exact h.deaf
 ·obtain⟨M,h2,h3⟩:=h.wk i o
  refine⟨?_,h2,by rw[Deaf_other t (by omega) _ b];exact h3⟩;rw[get_map_set _ _ _ _ (by omega),M,Option.map_some,(H i o).1]
 ·by_cases e:i=k
  ·subst e;rw[upd_same];refine⟨get_map_set_same _ _ _ (by rw[v];omega),⟨q,a7⟩,by rw[Deaf_own,a6],F.app (fun p hp hg hc=>?_) (fun op a _ x L=>?_)⟩
   ·obtain⟨op,Z,a2⟩:=rV hg
    obtain⟨x,L,_⟩:=hc
    rcases getElem?_append_cases Z with⟨hl,_⟩|⟨_,b2⟩
    ·omega
    ·have:touchAt (t++MemOp.ofEvents i (f i).g.frame.fn (f i).g.frame.place y) p=some x:=L
     rw[touchAt_of Z,J op b2]at this;cases this
   ·rw[J op a]at L;cases L
  ·obtain⟨Z,⟨q',a2⟩,a3,a4⟩:=h.lv i M h2
   rw[upd_ne f _ e];refine⟨?_,⟨q',a2⟩,by rw[Deaf_other t (by omega) _ b];exact a3,a4.appNot fun op a e'=>by rw[b op a]at e';omega⟩;rw[get_map_set _ _ _ _ (by omega),Z,Option.map_some,woken_rf a2.status]
 ·obtain⟨r,b3⟩:=h.over i o hs
  exact⟨r,b3.appNot fun op a e'=>by rw[b op a]at e';omega⟩
 ·obtain⟨m,q,m1,m2,m3⟩:=h.mi
  exact⟨m,q,m1,m2,fun i o hb=>m3 i o ((H i o).2.1 hb)⟩
theorem dV.starter(h:p.dV W j tag c false l u xs f O D s w t){x':Pos}{es:Array Event}{tag':fM}
  (a0:stepG p.P true c.g w=.go x'.g w' es) (T:oh (IY W 0) W (O 0) (D 0) w w' es) (hd:x'.d=deafBehind c.d es) (H:p.kQ tag' x') (hO:x'.O=grow (O 0) w w') (hD:x'.D=D 0) (U:aB x'.O x'.D x'.w w')
  (a5:∀e∈es,∀a,e.loc≠.mark (.release a)) (a6:w'.heap[p.Mu]?=w.heap[p.Mu]?) (a7:∃a b,WgAt p.L.tWg p.Wg w' a b/\Md j (fun k=>gV (l k)) tag' a b) (J:Dw p.n j tag'):
  ∃V O' M X,runT p.P (crowd s w sl) 0=(.next (crowd V w' sl),X)/\p.dV W j tag' x' false l M xs f O' D V w' (t++X):=by
 have A:=h.size
 have b2:=h.hn0
 have a8:s[0]?=some c.g:=by have:=h.main;simpa using this
 have Y:=h.ti
 have B:=h.yT
 rw[←A]at Y B;obtain⟨Z,E,_⟩:=kV (sl:=sl) (i:=0) a8 (by simpa using a0) Y B T
 rw[A]at E;have y:=h.own.grow (i:=0) (by omega) T.size
 have N:∀k,k<p.n0+j->k≠0->aB (O k) (D k) w w':=fun k hk a9=>T.rely h.yT (by omega) hk a9
 have F:∀k,k≠0->with_ O 0 w.heap.size w'.heap.size k=O k:=fun k hk=>Dy hk _ _
 have z:with_ O 0 w.heap.size w'.heap.size 0=grow (O 0) w w':=uQ O 0 w w'
 have o:∀op∈MemOp.ofEvents 0 c.g.frame.fn c.g.frame.place es,op.g=0:=g_of_ofEvents
 obtain⟨M,Q⟩:=h.sleepers c.g x'.g w'
 have b0:=h.aif
 refine⟨_,_,M,_,Z,h.hn0,by simpa using A,?_,fun e=>(by cases e),H,by rw[z,hO],hD,U,?_,fun i v=>?_,fun i v hb=>h.bs i v ((Q i v).2.1 hb),fun i v hs=>?_,h.J5,h.ph,fun k h1 h2=>?_,E,y,⟨h.hW.1,h.hW.2.1,h.hW.2.2.1,h.hW.2.2.2.1,Nat.lt_of_lt_of_le h.hW.2.2.2.2 T.size⟩,
  fun hf=>(h.tok hf).app (YG T.ev h.hW.2.2.2.1 ?_ ?_),fun i v hs=>?_,Cell.to h.cell (T.heap _ h.hW.2.2.2.2 b0 h.hW.2.2.2.1),fun i v hs=>?_,qp h.norel a5,?_,a7,J⟩
 ·rw[get_map_set_same _ _ _ (by rw[A];omega)];rfl
 ·rw[Deaf_own,h.deaf,hd]
 ·obtain⟨h1,h2,h3⟩:=h.wk i v
  refine⟨?_,h2,by rw[Deaf_other t (by omega) _ o];exact h3⟩;rw[get_map_set _ _ _ _ (by omega),h1,Option.map_some,(Q i v).1]
 ·obtain⟨a1,a2,a3⟩:=h.wO i v hs
  rw[F _ (by omega)];exact⟨a1,a2,a3.trans (N _ (by omega) (by omega))⟩
 ·obtain⟨a1,⟨q,a2⟩,a3,a4⟩:=h.lv k h1 h2
  refine⟨?_,⟨q,a2⟩,by rw[Deaf_other t (by omega) _ o];exact a3,a4.appNot fun op R e'=>by rw[o op R]at e';omega⟩;rw[get_map_set _ _ _ _ (by omega),a1,Option.map_some,woken_rf a2.status]
 ·have how:=y.ow 0 p.C (by omega)
  rw[z]at how;exact fun x=>how x (.inr ⟨hf,rfl⟩)
 ·exact fun x=>h.own.dw 0 p.C (by omega) x (.inr ⟨hf,rfl⟩)
 ·rw[F _ (by omega)];exact h.hold i v hs
 ·obtain⟨r,b1⟩:=h.over i v hs
  exact⟨r,b1.appNot fun op R e'=>by rw[o op R]at e';omega⟩
 ·obtain⟨m,q,m1,m2,m3⟩:=h.mi
  exact⟨m,q,by unfold MuAt at m1⊢;rw[a6];exact m1,m2,fun i v hb=>m3 i v ((Q i v).2.1 hb)⟩
theorem dV.sleeps{q:Goroutine}(h:p.dV W j tag c false l u xs f O D s w t)(b:tag=.w3 q)(A:M3 p.P p.L p.Wg q c.d c.g)(r:∃i,i<j/\2<=gV (l i))(v:stepG p.P true c.g w=.go {c.g with status:=.blocked} w #[]):
  ∃e m,runT p.P (crowd s w sl) 0=(.next (crowd e w sl),m)/\p.dV W j tag c true l u xs f O D e w (t++m):=by
 have n:=h.size
 have B:=h.hn0
 have x:s[0]?=some c.g:=by have:=h.main;simpa using this
 have a:=runT_crowd_go (P:=p.P) (sl:=sl) (i:=0) x (by simpa using v)
 have C:woken p.P c.g {c.g with status:=.blocked} w=id:=by funext o;simp[woken]
 rw[C,Array.map_id]at a;have E:t++MemOp.ofEvents 0 c.g.frame.fn c.g.frame.place #[]=t:=by simp[MemOp.ofEvents]
 refine⟨_,_,a,?_⟩;rw[E];refine⟨h.hn0,by simpa using n,?_,fun _=>⟨⟨q,b,A⟩,r⟩,h.seat,h.O0,h.D0,h.rely,h.deaf,fun i F=>?_,h.bs,h.wO,h.J5,h.ph,fun k H J=>?_,h.ti,h.own,h.hW,h.tok,h.hold,h.cell,h.over,h.norel,h.mi,h.md,h.left⟩
 ·rw[Array.getElem?_setIfInBounds_self_of_lt (by rw[n];omega)];rfl
 ·obtain⟨y,z⟩:=h.wk i F
  exact⟨by rw[Array.getElem?_setIfInBounds_ne (by omega)];exact y,z⟩
 ·obtain⟨y,z⟩:=h.lv k H J
  exact⟨by rw[Array.getElem?_setIfInBounds_ne (by omega)];exact y,z⟩
theorem dV.aih(h:p.dV W j tag c false l u xs f O D s w t){H:Goroutine}{m:Array Event}{tag':fM}
  (J:stepG p.P true c.g w=.go H w' m) (M:w'=w∨∃a v,a.block=p.Wg/\w'=w.setCell a v) (r:∀e∈m,jw p.Wg e∨XM p.Wg e) (o:p.kQ tag' {c with d:=deafBehind c.d m,g:=H})
  (N:∃a b,WgAt p.L.tWg p.Wg w' a b/\Md j (fun k=>gV (l k)) tag' a b) (q:Dw p.n j tag'):
  ∃y V Q z,runT p.P (crowd s w sl) 0=(.next (crowd y w' sl),z)/\p.dV W j tag' {c with d:=deafBehind c.d m,g:=H} false l Q xs f V D y w' (t++z):=by
 have A:p.Wg<w.heap.size:=h.own.wV _ (.inl h.hW.1)
 have X:=h.hn0
 have B:∀e∈m,IY W 0 e/\(MemAct.ofEvent e).low w.heap.size:=fun e R=>(r e R).elim (xU h.hW.1 A) (YK h.hW.1 A);have C:oh (IY W 0) W (O 0) (D 0) w w' m:=by
  rcases M with rfl|⟨a,v,T,rfl⟩
  ·exact rE B
  ·exact DC (by rw[T];exact h.hW.1) B
 have U:w'.heap.size=w.heap.size:=by
  rcases M with rfl|⟨a,v,_,rfl⟩
  ·rfl
  ·simp
 have i:∀b,b≠p.Wg->w'.heap[b]?=w.heap[b]?:=fun b E=>by
  rcases M with rfl|⟨a,v,T,rfl⟩
  ·rfl
  ·exact eY (by rw[T];exact E)
 have F:aB (O 0) (D 0) w w':=⟨C.size,fun b E=>i b fun e=>h.yT.ow 0 b (by omega) E (e▸h.hW.1),fun b E=>i b fun e=>h.yT.dw 0 b (by omega) E (e▸h.hW.1),C.os,C.output,C.tape⟩
 refine h.starter (x':={c with d:=deafBehind c.d m,g:=H}) J C rfl o ?_ h.D0 ?_ (fun e R a=>(r e R).elim (fun x=>gZ x a) (fun x=>DI x a)) (i p.Mu (Ne.symm h.hW.2.2.1)) N q
 ·show c.O=_;rw[TG U];exact h.O0
 ·exact h.rely.trans (by rw[h.O0,h.D0];exact F)
end Ph
end Go.Mx
namespace Go.Mx
open Go.Ren
open Go.Conc hiding Goes mem_ofEvents
open Go.ConcN (sumTo upd upd_same upd_ne sumTo_congr sumTo_upd le_sumTo RelBy get_map_set get_map_set_same WgLive norel_of Deaf_absent)
open Go.Conc.Lib (WgLink)
open Go.ConcR (KK WgAt stA smA rd wr g_of_ofEvents loc_of_ofEvent)
theorem kJ{φ:Lk->Nat}{j:Nat}{b a:Nat->Lk}(h0:φ .out=0)(c:a j=.out)(d:∀k,k<j->a k=b k):sm φ (j+1) a=sm φ j b:=by
 show sumTo j (fun i=>φ (a i))+φ (a j)=_
 rw[c,h0,Nat.add_zero];exact sumTo_congr fun i e=>by rw[d i e]
theorem MI.more{B j:Nat}{p n:Nat->Lk}{m:Wd}{q:Nat}(h:MI B j p m q)(r:j+1<=B)(g:n j=.out)(f:∀k,k<j->n k=p k):MI B (j+1) n m q:=by
 refine⟨h.bits,r,?_,fun e=>?_,fun e=>?_,fun a b c d=>?_,fun i t=>?_⟩
 ·rw[kJ rfl g f];exact h.own
 ·rw[kJ (φ:=cK) rfl g f,kJ (φ:=cT) rfl g f,kJ (φ:=cU) rfl g f,kJ (φ:=cA) rfl g f,kJ (φ:=cW) rfl g f];exact h.nor e
 ·rw[kJ (φ:=cK) rfl g f,kJ (φ:=cT) rfl g f,kJ (φ:=cU) rfl g f,kJ (φ:=cA) rfl g f,kJ (φ:=cW) rfl g f];exact h.sta e
 ·obtain⟨i,o,s⟩:=h.prog a b c d
  exact⟨i,by omega,by rw[f i o];exact s⟩
 ·rcases Nat.lt_or_ge i j with o|o
  ·rw[f i o];exact h.wf i o
  ·obtain rfl:i=j:=by omega
   rw[g];trivial
namespace Ph
variable{p:Ph}{W:Nat->Prop}{j:Nat}{tag:fM}{c:Pos}{bl:Bool}{wt:Nat->WT}{l:Nat->Bool}{xs o:Nat->Pos}{O D:Nat->Nat->Prop}{f:Array Goroutine}{w w':World}{sl:Option (Nat×Nat)}{t:Trace}
theorem Va{wt wt':Nat->WT}(e:wt' j=.work)(b:∀k,k<j->wt' k=wt k):free (j+1) wt'↔free j wt:=by
 refine⟨fun h k d=>?_,fun h k d=>?_⟩
 ·rw[←b k d];exact h k (by omega)
 ·rcases Nat.lt_or_ge k j with a|a
  ·rw[b k a];exact h k a
  ·obtain rfl:k=j:=by omega
   rw[e];exact id
theorem dV.spawn{r:Nat}(hB:p.n<=p.B)(h:p.dV W j (.sp (r+1) 0) c false wt l xs o O D f w t)(b7:p.yA (p.n-(r+1)) (p.J4 r) c.D c.d c.O c.g c.w):
  ∃a8 b8 wt' b9 c0 O' D' a9,runT p.P (crowd f w sl) 0=(.next (crowd a8 w sl),a9)/\p.dV W (j+1) (.sp r 1) b8 false wt' b9 c0 o O' D' a8 w (t++a9):=by
 have Q:=h.size
 have d8:=h.hn0
 have c6:r+1+j=p.n:=h.left
 have c7:f[0]?=some c.g:=by have:=h.main;simpa using this
 obtain⟨b0,d9,b1⟩:=b7
 obtain⟨g',child,M,H,N,c8,hM,hH,hN,J,c9⟩:=b1 w h.rely h.inv
 have F:p.n-(r+1)=j:=by omega
 rw[F]at J;have X:=runT_crowd_spawn (P:=p.P) (sl:=sl) (i:=0) c7 (by simpa using c8)
 have e0:∀x y:MemOp,((MemOp.ofEvents 0 c.g.frame.fn c.g.frame.place #[]).push x).push y=#[x,y]:=fun x y=>by simp[MemOp.ofEvents]
 rw[e0]at X;have d0:=h.ti
 have b2:=h.own
 rw[h.O0]at hM hH;rw[h.D0]at hN;have hx:(⟨0,c.g.frame.fn,c.g.frame.place,.go f.size⟩:MemOp).g=0/\(⟨0,c.g.frame.fn,c.g.frame.place,.go f.size⟩:MemOp).act=.go (p.n0+j):=⟨rfl,by rw[Q]⟩
 have hy:(⟨f.size,child.frame.fn,c.g.frame.place,.start⟩:MemOp).g=p.n0+j/\(⟨f.size,child.frame.fn,c.g.frame.place,.start⟩:MemOp).act=.start:=⟨Q,rfl⟩
 have b3:Go.Conc.Deaf t 0=0:=by rw[h.deaf];exact b0
 have b4:=d0.fork (by omega) hx hy b3 hM hH hN
 have a5:=b2.fork (by omega) hM hH hN
 have hm:∀op∈#[(⟨0,c.g.frame.fn,c.g.frame.place,.go f.size⟩:MemOp),⟨f.size,child.frame.fn,c.g.frame.place,.start⟩],op.act≠.mark .disable/\op.act≠.mark .enable:=by intro op C;simp only[List.mem_toArray,List.mem_cons,List.not_mem_nil,or_false]at C;rcases C with rfl|rfl<;>simp
 have Y:∀k,k≠0->k<p.n0+j->∀op∈#[(⟨0,c.g.frame.fn,c.g.frame.place,.go f.size⟩:MemOp),⟨f.size,child.frame.fn,c.g.frame.place,.start⟩],op.g≠k:=by
  intro k hk e1 op C;simp only[List.mem_toArray,List.mem_cons,List.not_mem_nil,or_false]at C;rcases C with rfl|rfl
  ·exact fun e=>hk e.symm
  ·show f.size≠k;omega
 have Z:∀k,k<p.n0+j->k≠0->((f.setIfInBounds 0 g').push child)[k]?=f[k]?:=fun k hk e2=>by rw[Array.getElem?_push_lt (by simp[Q];omega),←Array.getElem?_eq_getElem,Array.getElem?_setIfInBounds_ne (by omega)]
 have hO:∀k,k≠0->k<p.n0+j->qw O (p.n0+j) M H k=O k:=fun k h1 h2=>by funext b;unfold qw;rw[if_neg h1,if_neg (by omega)]
 have hD:∀k,k≠0->k<p.n0+j->qx D (p.n0+j) M N k=D k:=fun k h1 h2=>by funext b;unfold qx;rw[if_neg h1,if_neg (by omega)]
 have d1:qw O (p.n0+j) M H (p.n0+j)=H:=by funext b;unfold qw;rw[if_neg (by omega),if_pos rfl]
 have d4:qx D (p.n0+j) M N (p.n0+j)=N:=by funext b;unfold qx;rw[if_neg (by omega),if_pos rfl]
 have a6:p.kQ (.sp r 1) ⟨fun b=>c.O b/\¬M b/\¬H b,fun b=>c.D b∨M b,0,g',w⟩:=by rcases r with _|r<;>exact c9
 have U:p.dF j .work ⟨H,N,0,child,w⟩:=J
 have u:∀i,i<j->upd wt j .work i=wt i:=fun i F=>upd_ne wt _ (by omega)
 have R:∀i,i<j->upd xs j ⟨H,N,0,child,w⟩ i=xs i:=fun i F=>upd_ne xs _ (by omega)
 have a7:∀i,i<j->upd l j false i=l i:=fun i F=>upd_ne l _ (by omega)
 have b5:=Va (j:=j) (wt:=wt) (wt':=upd wt j .work) (upd_same wt j _) u
 have b6:Go.Conc.Deaf t (p.n0+j)=0:=Deaf_absent fun p op hp e=>by have:=h.ti.gs p op hp;omega
 refine⟨_,⟨fun b=>c.O b/\¬M b/\¬H b,fun b=>c.D b∨M b,0,g',w⟩,upd wt j .work,upd l j false,upd xs j ⟨H,N,0,child,w⟩,qw O (p.n0+j) M H,qx D (p.n0+j) M N,_,X,h.hn0,by simp[Q];omega,?_,fun e=>(by cases e),a6,?_,?_,.refl _,?_,fun i F=>?_,fun i F V=>?_,fun i F E=>?_,fun i F E=>?_,fun i F=>?_,fun k h1 h2=>?_,by rw[←Nat.add_assoc];exact b4,
  by rw[←Nat.add_assoc,uP b5];exact a5,h.hW,fun hf=>?_,fun i F E=>?_,?_,fun i F E=>?_,Hf h.norel ?_,?_,?_,by show r+(j+1)=p.n;omega⟩
 ·rw[Array.getElem?_push_lt (by simp[Q];omega)];simp
 ·funext b;unfold qw;rw[if_pos rfl,h.O0]
 ·funext b;unfold qx;rw[if_pos rfl,h.D0]
 ·rw[Go.ConcN.Deaf_still t 0 _ hm,h.deaf];exact b0
 ·rcases Nat.lt_or_ge i j with s|A
  ·obtain⟨a1,a2,a3⟩:=h.wk i s
   rw[u i s,R i s,a7 i s];exact⟨by rw[Z _ (by omega) (by omega)];exact a1,a2,by rw[Go.ConcN.Deaf_still t _ _ hm];exact a3⟩
  ·obtain rfl:i=j:=by omega
   rw[upd_same,upd_same,upd_same];refine⟨?_,U,?_⟩
   ·have:p.n0+i=(f.setIfInBounds 0 g').size:=by simp[Q]
    rw[this,Array.getElem?_push_size];rfl
   ·rw[Go.ConcN.Deaf_still t _ _ hm];exact b6
 ·rcases Nat.lt_or_ge i j with s|A
  ·rw[a7 i s]at V;rw[u i s,R i s];exact h.bs i s V
  ·obtain rfl:i=j:=by omega
   rw[upd_same]at V;cases V
 ·rcases Nat.lt_or_ge i j with s|A
  ·rw[u i s]at E;rw[R i s,hO _ (by omega) (by omega),hD _ (by omega) (by omega)];exact h.wO i s E
  ·obtain rfl:i=j:=by omega
   rw[upd_same,d1,d4];exact⟨rfl,rfl,.refl _⟩
 ·rcases Nat.lt_or_ge i j with s|A
  ·rw[u i s]at E;exact h.J5 i s E
  ·obtain rfl:i=j:=by omega
   rw[upd_same]at E;exact E.elim
 ·rcases Nat.lt_or_ge i j with s|A
  ·rw[u i s];exact h.ph i s
  ·obtain rfl:i=j:=by omega
   rw[upd_same];trivial
 ·obtain⟨a1,a2,a3,a4⟩:=h.lv k h1 h2
  exact⟨by rw[Z _ (by omega) (by omega)];exact a1,a2,by rw[Go.ConcN.Deaf_still t _ _ hm];exact a3,a4.appNot (Y k (by omega) (by omega))⟩
 ·rw[←Nat.add_assoc];exact(h.tok (b5.1 hf)).fork (by omega) hx hy b3 b6
 ·rcases Nat.lt_or_ge i j with s|A
  ·rw[u i s]at E;rw[hO _ (by omega) (by omega)];exact h.hold i s E
  ·obtain rfl:i=j:=by omega
   rw[upd_same]at E;exact E.elim
 ·obtain⟨order,c1,c2,c3,c4,c5⟩:=h.cell
  refine⟨order,c1,fun k=>?_,c3,fun k hk v e=>?_,fun hn=>c5 fun k hk v e=>hn k (by omega) v (by rw[u k hk];exact e)⟩
  ·rw[c2];rcases Nat.lt_or_ge k j with s|A
   ·rw[u k s];exact⟨fun x=>⟨by omega,x.2⟩,fun x=>⟨s,x.2⟩⟩
   ·constructor
    ·intro x;omega
    ·rintro⟨x,y,z⟩;obtain rfl:k=j:=by omega
     rw[upd_same]at z;exact z.elim
  ·rcases Nat.lt_or_ge k j with s|A
   ·rw[u k s]at e;exact c4 k s v e
   ·obtain rfl:k=j:=by omega
    rw[upd_same]at e;cases e
 ·rcases Nat.lt_or_ge i j with s|A
  ·rw[u i s]at E;obtain⟨r',d5⟩:=h.over i s E
   exact⟨r',d5.appNot (Y _ (by omega) (by omega))⟩
  ·obtain rfl:i=j:=by omega
   rw[upd_same]at E;simp[gV]at E
 ·intro op C a;simp only[List.mem_toArray,List.mem_cons,List.not_mem_nil,or_false]at C;rcases C with rfl|rfl<;>simp
 ·obtain⟨m,q,m1,m2,m3⟩:=h.mi
  refine⟨m,q,m1,m2.more (by omega) (by rw[upd_same];rfl) (fun k hk=>by rw[u k hk]),fun i F V=>?_⟩;rcases Nat.lt_or_ge i j with s|A
  ·rw[a7 i s]at V;exact m3 i s V
  ·obtain rfl:i=j:=by omega
   rw[upd_same]at V;cases V
 ·obtain⟨a,b,m1,m2⟩:=h.md
  rw[nH gV];generalize d7:(fun k=>gV (wt k))=T at m2
  have a0:∀i,i<j->upd T j 8 i=T i:=fun i F=>upd_ne T _ (by omega)
  show∃a b,WgAt p.L.tWg p.Wg w a b/\Md (j+1) (upd T j 8) (.sp r 1) a b
  cases m2 with
  |opn h1 h2 h3=>
   have hV:Vn (j+1) (upd T j 8)=Vn j T+1:=by
    show sumTo j (fun i=>pO (upd T j 8 i))+pO (upd T j 8 j)=_
    rw[upd_same,sumTo_congr (g:=fun i=>pO (T i)) (fun i F=>by rw[a0 i F])];rfl
   have hp:mX (.sp r 1)=0:=by rcases r with _|r<;>rfl
   have d6:mX (.sp (r+1) 0)=1:=rfl
   have:=Md.opn (j:=j+1) (st:=upd T j 8) (tag:=.sp r 1) trivial (fun i F=>by
    rcases Nat.lt_or_ge i j with s|A
    ·rw[a0 i s];exact h2 i s
    ·obtain rfl:i=j:=by omega
     rw[upd_same];exact .inl rfl) trivial
   rw[hV,hp]at this;rw[d6]at m1;exact⟨_,_,m1,this⟩
  |fin h1 _=>exact h1.elim
end Ph
end Go.Mx
namespace Go.Mx
open Go.Ren
open Go.Conc hiding Goes mem_ofEvents
open Go.ConcN (sumTo upd upd_same upd_ne sumTo_congr sumTo_upd le_sumTo RelBy get_map_set get_map_set_same WgLive norel_of Deaf_absent)
open Go.Conc.Lib (WgLink)
open Go.ConcR (KK WgAt stA smA rd wr g_of_ofEvents loc_of_ofEvent)
namespace Ph
variable{p:Ph}{W:Nat->Prop}{j:Nat}{tag:fM}{c:Pos}{bl:Bool}{l:Nat->WT}{E:Nat->Bool}{xs o:Nat->Pos}{O D:Nat->Nat->Prop}{F:Array Goroutine}{w w':World}{sl:Option (Nat×Nat)}{t:Trace}
def After(p:Ph)(W:Nat->Prop)(m:Machine)(t:Trace):Prop:=
 ∃(F:Array Goroutine) (w:World) (sl:Option (Nat×Nat)) (g e:Goroutine) (o:Nat->Pos) (O D:Nat->Nat->Prop) (order:List Nat),
  m=crowd F w sl/\F.size=p.n0+p.n/\F[0]?=some g/\af p.P true (Lv p.L p.Wg) (XM p.Wg) (fun d g=>d=0/\g=e) 0 g/\p.Fin (D 0) (O 0) e w/\Go.Conc.Deaf t 0=0/\
  (∀k,1<=k->k<p.n0+p.n->F[k]?=some (o k).g/\(∃q,QuitsD p.P q (o k).d (o k).g)/\Go.Conc.Deaf t k=(o k).d/\Gone W t k)/\
  TI W (Oi W w.heap.size) rF (p.n0+p.n) w.heap.size t/\Own (fun b=>W b∨b=p.C) O D (p.n0+p.n) w.heap.size/\WgAt p.L.tWg p.Wg w 0 0/\(∀a,NoRelease a t)/\
  order.Nodup/\(∀i,i∈order↔i<p.n/\p.locks i=true)/\p.V (p.fold order)/\CellIs p.oe p.C (p.fold order) w
theorem afy{s:WT}(h:gV s=1):s=.fin 1:=by cases s<;>simp[gV]at h;rw[h]
theorem dV.acquire{X:Goroutine}(h:p.dV W j (.acq X) c false l E xs o O D F w t)(hx:NI p.P p.L p.Wg X c.d c.g):
  ∃m' H,runT p.P (crowd F w sl) 0=(.next m',H)/\p.After W m' (t++H):=by
 have J:=h.size
 have b0:=h.hn0
 have hj:j=p.n:=h.left
 subst hj;have Y:F[0]?=some c.g:=by have:=h.main;simpa using this
 obtain⟨Z,b1,g',a0,a5⟩:=hx
 have M:=h.inv
 obtain⟨a,b,m1,m2⟩:=h.md
 have N:abT p.n (fun k=>gV (l k))/\a=0/\b=0:=by
  cases m2 with
  |opn B=>exact B.elim
  |fin _ T=>exact⟨T,rfl,rfl⟩
 obtain⟨s,rfl,rfl⟩:=N
 have s:∀i,i<p.n->l i=.fin 1:=fun i hi=>afy (s i hi)
 have u:=runT_crowd_go (P:=p.P) (sl:=sl) (i:=0) Y (by simpa using a0 w M.1)
 have e1:MemOp.ofEvents 0 c.g.frame.fn c.g.frame.place #[Go.ConcR.mk (.acquire (stA p.Wg))]=#[(⟨0,c.g.frame.fn,c.g.frame.place,.mark (.acquire (stA p.Wg))⟩:MemOp)]:=yU _ _ _ _
 rw[e1]at u;have hz:(⟨0,c.g.frame.fn,c.g.frame.place,.mark (.acquire (stA p.Wg))⟩:MemOp).g=0/\(⟨0,c.g.frame.fn,c.g.frame.place,.mark (.acquire (stA p.Wg))⟩:MemOp).act=.mark (.acquire (stA p.Wg)):=⟨rfl,rfl⟩
 have Q:Go.Conc.Deaf t 0=0:=by rw[h.deaf];exact Z
 have hm:∀op∈#[(⟨0,c.g.frame.fn,c.g.frame.place,.mark (.acquire (stA p.Wg))⟩:MemOp)],op.act≠.mark .disable/\op.act≠.mark .enable:=by intro op f;simp only[List.mem_toArray,List.mem_cons,List.not_mem_nil,or_false]at f;subst f;simp
 have m:∀k,k≠0->k<p.n0+p.n->Gone W (t++#[(⟨0,c.g.frame.fn,c.g.frame.place,.mark (.acquire (stA p.Wg))⟩:MemOp)]) k:=by
  intro k U b4;rcases Nat.lt_or_ge k p.n0 with B|B
  ·obtain⟨_,_,_,a4⟩:=h.lv k (by omega) B
   refine a4.appNot fun op f=>?_
   simp only[List.mem_toArray,List.mem_cons,List.not_mem_nil,or_false]at f;subst f;exact fun e=>U e.symm
  ·obtain⟨i,rfl⟩:∃i,k=p.n0+i:=⟨k-p.n0,by omega⟩
   obtain⟨r,hr⟩:=h.over i (by omega) (by rw[s i (by omega)];simp[gV])
   exact hr.gone hz U (h.norel _) Q
 have a6:TI W (Oi W w.heap.size) rF (p.n0+p.n) w.heap.size (t++#[(⟨0,c.g.frame.fn,c.g.frame.place,.mark (.acquire (stA p.Wg))⟩:MemOp)]):=
  (h.ti.still (z:=⟨0,c.g.frame.fn,c.g.frame.place,.mark (.acquire (stA p.Wg))⟩) (by show 0<p.n0+p.n;omega) rfl (h.own.wV _ (.inl h.hW.1))).alone m
 have a7:free p.n l:=fun i hi=>by rw[s i hi];exact id
 have R:Own (fun b=>W b∨b=p.C) O D (p.n0+p.n) w.heap.size:=by
  have:=h.own
  rw[uP (iff_true_intro a7)]at this;have e:(fun b=>W b∨(True/\b=p.C))=fun b=>W b∨b=p.C:=by funext b;simp
  rw[e]at this;exact this
 obtain⟨order,c1,c2,c3,c4,c5⟩:=h.cell
 have y:=h.seat.1 w h.rely;rw[h.O0,h.D0]at y;have a9:∀k,k<p.n0+p.n->1<=k->True:=fun _ _ _=>trivial
 refine⟨_,_,u,_,w,sl,g',X,fun k=>if k<p.n0 then o k else xs (k-p.n0),O,D,order,rfl,by simpa using J,get_map_set_same _ _ _ (by rw[J];omega),a5,y,by rw[Go.ConcN.Deaf_still t 0 _ hm];exact Q,fun k B T=>?_,a6,R,m1,Hf h.norel ?_,c1,fun i=>?_,c3,
  c5 fun k U v e=>by rw[s k U]at e;cases e⟩
 ·rw[Go.ConcN.Deaf_still t _ _ hm];rcases Nat.lt_or_ge k p.n0 with h3|h3
  ·dsimp only
   rw[if_pos h3];obtain⟨V,⟨q,A⟩,a3,_⟩:=h.lv k B h3
   exact⟨by rw[get_map_set _ _ _ _ (by omega),V,Option.map_some,woken_rf A.status],⟨q,A⟩,a3,m k (by omega) T⟩
  ·dsimp only
   rw[if_neg (by omega)];obtain⟨i,rfl⟩:∃i,k=p.n0+i:=⟨k-p.n0,by omega⟩
   rw[Nat.add_sub_cancel_left];obtain⟨V,A,a3⟩:=h.wk i (by omega)
   have a8:E i=false:=by
    cases e:E i with
    |false=>rfl
    |true=>
     obtain⟨⟨sv,e'⟩,_⟩:=h.bs i (by omega) e
     rw[s i (by omega)]at e';cases e'
   rw[s i (by omega)]at A;rw[a8]at V;obtain⟨q,A⟩:=A
   exact⟨by rw[get_map_set _ _ _ _ (by omega),V,Option.map_some];simp only[Bool.false_eq_true,if_false];rw[woken_rf A.status],⟨q,A⟩,a3,m _ (by omega) T⟩
 ·intro op f a;simp only[List.mem_toArray,List.mem_cons,List.not_mem_nil,or_false]at f;subst f;simp
 ·rw[c2];exact⟨fun x=>⟨x.1,x.2.1⟩,fun x=>⟨x.1,x.2,by rw[s i x.1];trivial⟩⟩
inductive tZ(p:Ph)(W:Nat->Prop)(j:Nat)(tag:fM)(c:Pos)(l:Nat->WT)(E:Nat->Bool)(xs o:Nat->Pos)(w:World)(t:Trace)(m':Machine)(ops:Array MemOp):Prop
 |on {gs':Array Goroutine} {w':World} {sl:Option (Nat×Nat)} {tag':fM} {x':Pos} {bw':Nat->Bool} {O' D':Nat->Nat->Prop} (e:m'=crowd gs' w' sl) (hmu:w'.heap[p.Mu]?=w.heap[p.Mu]?) (ho:Ord (rkM p.n) p.kQ p.MNx (tag',x') (tag,c)) (h:p.dV W j tag' x' false l bw' xs o O' D' gs' w' (t++ops)):tZ p W j tag c l E xs o w t m' ops
 |sleep {gs':Array Goroutine} {sl:Option (Nat×Nat)} {O' D':Nat->Nat->Prop} (e:m'=crowd gs' w sl) (h:p.dV W j tag c true l E xs o O' D' gs' w (t++ops)):tZ p W j tag c l E xs o w t m' ops
 |more {gs':Array Goroutine} {w':World} {sl:Option (Nat×Nat)} {r:Nat} {x':Pos} {wt':Nat->WT} {bw':Nat->Bool} {xs':Nat->Pos} {O' D':Nat->Nat->Prop} (e:m'=crowd gs' w' sl) (h:p.dV W (j+1) (.sp r 1) x' false wt' bw' xs' o O' D' gs' w' (t++ops)):tZ p W j tag c l E xs o w t m' ops
 |join (h:p.After W m' (t++ops)):tZ p W j tag c l E xs o w t m' ops
theorem dV.LD(hn:p.n<2147483647)(h:p.dV W j tag c false l E xs o O D F w t)(hw:∀r s,tag≠.sp r s):
  ∃m' m,runT p.P (crowd F w sl) 0=(.next m',m)/\p.tZ W j tag c l E xs o w t m' m:=by
 have a6:=h.inv
 have X:Lv p.L p.Wg w:=a6.1;obtain⟨a,b,R,m2⟩:=h.md
 generalize a7:(fun k=>gV (l k))=C at m2
 have c3:=YI j C
 have b4:p.Mu≠p.Wg:=h.hW.2.2.1.symm;have U:j=p.n:=by
  have:=h.left
  cases tag with
  |sp r s=>exact absurd rfl (hw r s)
  |_=>exact this
 have put:∀{tag':fM} {V:Goroutine} {w':World} {Y:Array Event},stepG p.P true c.g w=.go V w' Y->(w'=w∨∃a v,a.block=p.Wg/\w'=w.setCell a v)->(∀e∈Y,jw p.Wg e∨XM p.Wg e)->p.kQ tag' {c with d:=deafBehind c.d Y,g:=V}->
   (∃a b,WgAt p.L.tWg p.Wg w' a b/\Md j C tag' a b)->(Dw p.n j tag')->
   (rkM p.n tag'<rkM p.n tag∨(tag'=tag/\p.MNx tag {c with d:=deafBehind c.d Y,g:=V} c))->
   ∃m' m,runT p.P (crowd F w sl) 0=(.next m',m)/\p.tZ W j tag c l E xs o w t m' m:=by
  intro tag' V w' Y q a8 a1 f b5 a2 a9;obtain⟨b6,O',c4,m,N,M⟩:=h.aih (sl:=sl) q a8 a1 f (by rw[a7];exact b5) a2
  refine⟨_,m,N,.on rfl ?_ (a9.imp (fun x=>⟨x,f⟩) (fun x=>x)) M⟩;rcases a8 with rfl|⟨a,v,ha,rfl⟩
  ·rfl
  ·exact eY (by rw[ha];exact b4)
 have Q:∀{S:Nat->Goroutine->Prop},p.MNx tag=II p.P true (Lv p.L p.Wg) S->(∀d g,af p.P true (Lv p.L p.Wg) (XM p.Wg) S d g->p.kQ tag {c with d:=d,g:=g})->¬S c.d c.g->
   (∃V Y,stepG p.P true c.g w=.go V w Y/\(∀e∈Y,XM p.Wg e)/\af p.P true (Lv p.L p.Wg) (XM p.Wg) S (deafBehind c.d Y) V)->
   ∃m' m,runT p.P (crowd F w sl) 0=(.next m',m)/\p.tZ W j tag c l E xs o w t m' m:=by
  rintro S hN f y ⟨V,Y,q,a1,H⟩;refine put (tag':=tag) q (.inl rfl) (fun e he=>.inr (a1 e he)) (f _ _ H) ⟨a,b,R,m2⟩ h.left (.inr ⟨rfl,?_⟩);rw[hN];exact⟨y,w,w,Y,X,q,rfl⟩
 have f:=h.seat
 cases tag with
 |sp r s=>exact absurd rfl (hw r s)
 |w1 v T A=>
  obtain⟨hA,u,H⟩:=f
  rcases qy H X with B|⟨y,B⟩
  ·obtain⟨J,_,Z⟩:=B
   cases m2 with
   |opn N M h3=>
    have e0:mX (.w1 v T A)=0:=rfl
    rw[e0,Nat.add_zero]at R;obtain⟨V,q,hz,b7⟩:=Z (Vn j C) (by omega)
    have a0:=q w X R
    rcases Nat.eq_zero_or_pos (Vn j C)with hz0|b0
    ·have hq:=M.I7 hz0
     refine put (tag':=.acq T) a0 (.inl rfl) abU ⟨u,by rw[I8,J];exact hz hz0⟩ ⟨0,0,by rw[hz0]at R;simpa using R,.fin trivial hq⟩ U (.inl (by show 1<8*v+6;omega))
    ·refine put (tag':=.w2 (Vn j C) T A) a0 (.inl rfl) abU ⟨hA,u,by rw[I8,J];exact b7 (by omega)⟩ ⟨_,_,R,?_⟩ U (.inl (by show 8*Vn j C+4<8*v+6;have:Vn j C<=v:=h3;omega));have:=Md.opn (j:=j) (st:=C) (tag:=.w2 (Vn j C) T A) trivial M ⟨Nat.le_refl _,b0⟩
     simpa [mX]using this
   |fin N=>exact N.elim
  ·exact Q rfl (fun d g x=>⟨hA,u,x⟩) y B
 |w2 v T A=>
  obtain⟨hA,u,H⟩:=f
  rcases qy H X with B|⟨y,B⟩
  ·obtain⟨J,_,Z⟩:=B
   cases m2 with
   |opn N M h3=>
    have e0:mX (.w2 v T A)=0:=rfl
    rw[e0,Nat.add_zero]at R;obtain⟨c5,c6⟩:Vn j C<=v/\1<=v:=h3
    obtain⟨b1,a5⟩:=Z (Vn j C) (by omega)
    by_cases hv:Vn j C=v
    ·obtain⟨V,q,z⟩:=b1 hv
     refine put (tag':=.w3 T) (q w X R) (.inr ⟨_,_,rfl,rfl⟩) bk_rw ⟨u,by rw[TM,J];exact z⟩ ⟨_,_,R.setSt _,.reg M (by omega)⟩ U (.inl (by show 3<8*v+4;omega))
    ·obtain⟨V,q,z⟩:=a5 hv
     refine put (tag':=.w1 (Vn j C) T A) (q w X R) (.inl rfl) abU ⟨hA,u,?_⟩ ⟨_,_,R,?_⟩ U (.inl (by show 8*Vn j C+6<8*v+4;omega))
     ·rw[I8,J];refine z.bind ?_;rintro d g ⟨rfl,hg⟩;exact hA g hg
     ·have:=Md.opn (j:=j) (st:=C) (tag:=.w1 (Vn j C) T A) trivial M (Nat.le_refl _)
      simpa [mX]using this
   |fin N=>exact N.elim
  ·exact Q rfl (fun d g x=>⟨hA,u,x⟩) y B
 |w3 T=>
  obtain⟨u,H⟩:=f
  rcases qy H X with B|⟨y,B⟩
  ·have b8:=B
   obtain⟨J,b9,c1,b2,V,q,z⟩:=B
   have sleeps:(∃i,i<j/\2<=C i)->b=0->∃m' m,runT p.P (crowd F w sl) 0=(.next m',m)/\p.tZ W j (.w3 T) c l E xs o w t m' m:=by
    rintro b3 rfl;obtain⟨b6,m,N,M⟩:=h.sleeps (sl:=sl) rfl b8 (by rw[←a7]at b3;exact b3) (b2 w a R)
    exact⟨_,m,N,.sleep rfl M⟩
   cases m2 with
   |opn N=>exact N.elim
   |reg M h3=>
    obtain⟨i,hi,h5⟩:=wH h3
    exact sleeps ⟨i,hi,by omega⟩ rfl
   |last K M h3 h4=>exact sleeps ⟨K,M,by omega⟩ rfl
   |sema M=>
    have c0:deafBehind c.d (semEvents (smA p.Wg))=1:=by rw[J];simp[semEvents,deafBehind]
    exact put (tag':=.w4 T) (q w X R) (.inr ⟨_,_,rfl,rfl⟩) (fun e he=>.inl (TJ e he)) ⟨u,by rw[c0];exact z⟩ ⟨_,_,R.setSm 0,.fin trivial M⟩ U (.inl (by show 2<3;omega))
   |fin N=>exact N.elim
  ·exact Q rfl (fun d g x=>⟨u,x⟩) y B
 |w4 T=>
  obtain⟨u,H⟩:=f
  rcases qy H X with B|⟨y,B⟩
  ·obtain⟨J,b9,V,q,z⟩:=B
   cases m2 with
   |opn N=>exact N.elim
   |fin _ M=>exact put (tag':=.acq T) (q w X R) (.inl rfl) abU ⟨u,by rw[I8,J];exact z⟩ ⟨_,_,R,.fin trivial M⟩ U (.inl (by show 1<2;omega))
  ·exact Q rfl (fun d g x=>⟨u,x⟩) y B
 |acq T=>
  rcases qy f.2 X with B|⟨y,B⟩
  ·obtain⟨m',m,N,M⟩:=h.acquire (sl:=sl) B
   exact⟨m',m,N,.join M⟩
  ·exact Q rfl (fun d g x=>⟨f.1,x⟩) y B
theorem dV.afA{Stop:(Nat->Prop)->Nat->(Nat->Prop)->Goroutine->World->Prop}(h:p.dV W j tag c false l E xs o O D F w t)(v:dY p.P true p.I (XM p.Wg) c.D (Stop c.D) c.d c.O c.g c.w)
  (Z:p.MNx tag=NxD p.P true p.I Stop) (hM:∀x':Pos,x'.D=c.D->dY p.P true p.I (XM p.Wg) x'.D (Stop x'.D) x'.d x'.O x'.g x'.w->p.kQ tag x') (q:¬Stop c.D c.d c.O c.g c.w):
  ∃m' r,runT p.P (crowd F w sl) 0=(.next m',r)/\p.tZ W j tag c l E xs o w t m' r:=by
 have n:=h.inv
 have a0:=h.hn0
 have i:=h.rely
 have J:=h.O0
 have L:=h.D0
 have z:=h.main
 generalize M:c=y at v q i J L z
 obtain⟨OO,DD,H,gg,ww⟩:=y
 dsimp only at v q i J L;cases v with
 |stop hs=>exact absurd hs q
 |step a1 f u s hk k=>
  obtain⟨C,N⟩:=hk w i n
  have A:=k w i n
  subst J L;have Q:p.Wg<w.heap.size:=h.own.wV _ (.inl h.hW.1)
  have R:oh (IY W 0) W (O 0) (D 0) w (u w) (s w):=N.wide fun e T=>(YK (w:=w) h.hW.1 Q T).1;have m:∀b,W b->(u w).heap[b]?=w.heap[b]?:=fun b V=>N.heap b (h.yT.wV b V) fun U=>h.yT.ow 0 b (by omega) U V
  have B:p.kQ tag ⟨grow (O 0) w (u w),D 0,deafBehind H (s w),f w,u w⟩:=hM ⟨grow (O 0) w (u w),D 0,deafBehind H (s w),f w,u w⟩ (by rw[M]) A
  obtain⟨a2,O',a3,r,h1,h2⟩:=h.starter (sl:=sl) (x':=⟨grow (O 0) w (u w),D 0,deafBehind H (s w),f w,u w⟩) (es:=s w) (w':=u w) (tag':=tag) (by rw[M];exact C) R (by rw[M]) B rfl rfl (.refl _) (fun e T=>yV (N.ev e T) fun x=>DI x) (m _ h.hW.2.1)
   (by obtain⟨a,b,Y,m2⟩:=h.md;exact⟨a,b,by unfold WgAt at Y⊢;rw[m p.Wg h.hW.1];exact Y,m2⟩) h.left
  refine⟨_,r,h1,.on (x':=⟨grow (O 0) w (u w),D 0,deafBehind H (s w),f w,u w⟩) rfl (m _ h.hW.2.1) (.inr ⟨rfl,?_⟩) h2⟩;show p.MNx tag _ _;rw[Z];exact⟨rfl,q,w,s w,i,n,C,rfl,rfl⟩
theorem dV.afB{r s:Nat}(hB:p.n<=p.B)(hn:p.n<2147483647)(h:p.dV W j (.sp r s) c false l E xs o O D F w t):
  ∃m' i,runT p.P (crowd F w sl) 0=(.next m',i)/\p.tZ W j (.sp r s) c l E xs o w t m' i:=by
 have H:=h.inv
 have y:r+j=p.n:=h.left
 have f:=h.seat
 have U:p.Mu≠p.Wg:=h.hW.2.2.1.symm;have J:=YI j (fun k=>gV (l k))
 rcases r with _|r
 ·rcases s with _|_|s
  ·exact f.elim
  ·by_cases q:iR p.P p.L p.Wg p.Fin c.D c.d c.O c.g c.w
   ·obtain⟨V,A,hA,X,Y⟩:=q
    have h':p.dV W j (.w1 p.n V A) c false l E xs o O D F w t:=by
     refine⟨h.hn0,h.size,h.main,fun e=>(by cases e),⟨hA,Y,X⟩,h.O0,h.D0,h.rely,h.deaf,h.wk,h.bs,h.wO,h.J5,h.ph,h.lv,h.ti,h.own,h.hW,h.tok,h.hold,h.cell,h.over,h.norel,h.mi,?_,by show j=p.n;omega⟩;obtain⟨a,b,M,N⟩:=h.md
     generalize (fun k=>gV (l k))=u at N J
     show∃a b,WgAt p.L.tWg p.Wg w a b/\Md j u (.w1 p.n V A) a b
     cases N with
     |opn m z h3=>
      refine⟨_,_,M,?_⟩;have:=Md.opn (j:=j) (st:=u) (tag:=.w1 p.n V A) trivial z (by show Vn j u<=p.n;omega)
      simpa [mX]using this
     |fin m=>exact m.elim
    obtain⟨m',i,m,z⟩:=h'.LD (sl:=sl) hn (fun r s e=>by cases e)
    refine⟨m',i,m,?_⟩;cases z with
    |on e a1 ho v=>
     refine .on e a1 (.inl ⟨?_,v.seat⟩) v;rcases ho with⟨x,_⟩|⟨x,_⟩
     ·have x':rkM p.n _<8*p.n+6:=x
      show rkM p.n _<8*p.n+8+2*0+1;omega
     ·dsimp only at x;subst x;show 8*p.n+6<8*p.n+8+2*0+1;omega
    |sleep e v=>obtain⟨⟨b0,e',_⟩,_⟩:=v.blk rfl;cases e'
    |more e v=>exact .more e v
    |join v=>exact .join v
   ·exact h.afA f rfl (fun x' Q C=>C) q
  ·exact f.elim
 ·rcases s with _|_|s
  ·by_cases q:p.yA (p.n-(r+1)) (p.J4 r) c.D c.d c.O c.g c.w
   ·obtain⟨a2,b1,b2,a3,b3,O',D',i,m,z⟩:=h.spawn (sl:=sl) hB q
    exact⟨_,i,m,.more rfl z⟩
   ·exact h.afA f rfl (fun x' Q C=>C) q
  ·by_cases q:p.oU (p.n-(r+1)) (p.J4 r) c.D c.d c.O c.g c.w
   ·obtain⟨a4,b4,R⟩:=q
    obtain⟨a,b,M,N⟩:=h.md
    generalize a5:(fun k=>gV (l k))=u at N J
    cases N with
    |opn m z h3=>
     have e0:mX (.sp (r+1) 1)=0:=rfl
     rw[e0,Nat.add_zero]at M;obtain⟨g',a6,C⟩:=R (Vn j u) (by omega)
     have T:p.kQ (.sp (r+1) 0) {c with d:=deafBehind c.d #[rd (stA p.Wg),wr (stA p.Wg)],g:=g'}:=by show dY p.P true p.I (XM p.Wg) c.D (p.yA (p.n-(r+1)) (p.J4 r) c.D) (deafBehind c.d #[rd (stA p.Wg),wr (stA p.Wg)]) c.O g' c.w;rw[TM,a4];exact C c.w (.refl _)
     obtain⟨a2,O',a3,i,a7,a8⟩:=h.aih (sl:=sl) (a6 w H.1 M) (.inr ⟨_,_,rfl,rfl⟩) bk_rw T ⟨_,_,M.setSt _,(by
      have:=Md.opn (j:=j) (st:=u) (tag:=.sp (r+1) 0) trivial z trivial
      have e1:mX (.sp (r+1) 0)=1:=rfl
      rw[e1]at this;rw[a5];simpa using this)⟩ y
     exact⟨_,i,a7,.on rfl (eY (a:=stA p.Wg) U) (.inl ⟨by show 8*p.n+8+2*(r+1)+0<8*p.n+8+2*(r+1)+1;omega,T⟩) a8⟩
    |fin m=>exact m.elim
   ·exact h.afA f rfl (fun x' Q C=>C) q
  ·exact f.elim
end Ph
end Go.Mx
