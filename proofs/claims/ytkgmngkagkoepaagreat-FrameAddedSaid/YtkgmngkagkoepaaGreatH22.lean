import Derived.Conc.DeferLaws
import Derived.Test.YtkgmngkagkoepaaGreatH8
import Derived.Test.YtkgmngkagkoepaaGreatH16
import Derived.Test.YtkgmngkagkoepaaGreatH20
import Derived.Test.YtkgmngkagkoepaaGreatH21
set_option linter.all false
namespace Go.Mx
open Go.Ren
open Go.Conc hiding Goes mem_ofEvents
open Go.ConcN (sumTo upd upd_same upd_ne sumTo_congr sumTo_upd le_sumTo RelBy get_map_set get_map_set_same WgLive norel_of Deaf_absent)
open Go.Conc.Lib (WgLink)
open Go.ConcR (KK WgAt stA smA rd wr g_of_ofEvents loc_of_ofEvent)
namespace Ph
variable{p:Ph}{W:Nat->Prop}{j:Nat}{tag:eP}{c:Pos}{bl:Bool}{l:Nat->WT}{E:Nat->Bool}{xs o:Nat->Pos}{O D:Nat->Nat->Prop}{F:Array Goroutine}{w w':World}{sl:Option (Nat×Nat)}{t:Trace}
def After(p:Ph)(W:Nat->Prop)(m:Machine)(t:Trace):Prop:=
 ∃(F:Array Goroutine) (w:World) (sl:Option (Nat×Nat)) (g e:Goroutine) (o:Nat->Pos) (O D:Nat->Nat->Prop) (order:List Nat),
  m=crowd F w sl/\F.size=p.n0+p.n/\F[0]?=some g/\af p.P true (Lv p.L p.Wg) (XM p.Wg) (fun d g=>d=0/\g=e) 0 g/\p.Fin (D 0) (O 0) e w/\Go.Conc.Deaf t 0=0/\
  (∀k,1<=k->k<p.n0+p.n->F[k]?=some (o k).g/\(∃q,QuitsD p.P q (o k).d (o k).g)/\Go.Conc.Deaf t k=(o k).d/\Gone W t k)/\
  TI W (KX W w.heap.size) qw (p.n0+p.n) w.heap.size t/\Own (fun b=>W b∨b=p.C) O D (p.n0+p.n) w.heap.size/\WgAt p.L.tWg p.Wg w 0 0/\(∀a,NoRelease a t)/\
  order.Nodup/\(∀i,i∈order↔i<p.n/\p.locks i=true)/\p.V (p.fold order)/\CellIs p.oe p.C (p.fold order) w
theorem aeP{s:WT}(h:gm s=1):s=.fin 1:=by cases s<;>simp[gm]at h;rw[h]
theorem dP.acquire{X:Goroutine}(h:p.dP W j (.acq X) c false l E xs o O D F w t)(hx:Kt p.P p.L p.Wg X c.d c.g):
  ∃m' H,runT p.P (crowd F w sl) 0=(.next m',H)/\p.After W m' (t++H):=by
 have J:=h.size
 have b0:=h.hn0
 have hj:j=p.n:=h.left
 subst hj;have Y:F[0]?=some c.g:=by have:=h.main;simpa using this
 obtain⟨Z,b1,g',a0,a5⟩:=hx
 have M:=h.inv
 obtain⟨a,b,m1,m2⟩:=h.md
 have N:aax p.n (fun k=>gm (l k))/\a=0/\b=0:=by
  cases m2 with
  |opn B=>exact B.elim
  |fin _ T=>exact⟨T,rfl,rfl⟩
 obtain⟨s,rfl,rfl⟩:=N
 have s:∀i,i<p.n->l i=.fin 1:=fun i hi=>aeP (s i hi)
 have u:=runT_crowd_go (P:=p.P) (sl:=sl) (i:=0) Y (by simpa using a0 w M.1)
 have e1:MemOp.ofEvents 0 c.g.frame.fn c.g.frame.place #[Go.ConcR.mk (.acquire (stA p.Wg))]=#[(⟨0,c.g.frame.fn,c.g.frame.place,.mark (.acquire (stA p.Wg))⟩:MemOp)]:=yB _ _ _ _
 rw[e1]at u;have hz:(⟨0,c.g.frame.fn,c.g.frame.place,.mark (.acquire (stA p.Wg))⟩:MemOp).g=0/\(⟨0,c.g.frame.fn,c.g.frame.place,.mark (.acquire (stA p.Wg))⟩:MemOp).act=.mark (.acquire (stA p.Wg)):=⟨rfl,rfl⟩
 have Q:Go.Conc.Deaf t 0=0:=by rw[h.deaf];exact Z
 have hm:∀op∈#[(⟨0,c.g.frame.fn,c.g.frame.place,.mark (.acquire (stA p.Wg))⟩:MemOp)],op.act≠.mark .disable/\op.act≠.mark .enable:=by intro op f;simp only[List.mem_toArray,List.mem_cons,List.not_mem_nil,or_false]at f;subst f;simp
 have m:∀k,k≠0->k<p.n0+p.n->Gone W (t++#[(⟨0,c.g.frame.fn,c.g.frame.place,.mark (.acquire (stA p.Wg))⟩:MemOp)]) k:=by
  intro k U b4;rcases Nat.lt_or_ge k p.n0 with B|B
  ·obtain⟨_,_,_,a4⟩:=h.lv k (by omega) B
   refine a4.appNot fun op f=>?_
   simp only[List.mem_toArray,List.mem_cons,List.not_mem_nil,or_false]at f;subst f;exact fun e=>U e.symm
  ·obtain⟨i,rfl⟩:∃i,k=p.n0+i:=⟨k-p.n0,by omega⟩
   obtain⟨r,hr⟩:=h.over i (by omega) (by rw[s i (by omega)];simp[gm])
   exact hr.gone hz U (h.norel _) Q
 have a6:TI W (KX W w.heap.size) qw (p.n0+p.n) w.heap.size (t++#[(⟨0,c.g.frame.fn,c.g.frame.place,.mark (.acquire (stA p.Wg))⟩:MemOp)]):=
  (h.ti.still (z:=⟨0,c.g.frame.fn,c.g.frame.place,.mark (.acquire (stA p.Wg))⟩) (by show 0<p.n0+p.n;omega) rfl (h.own.vZ _ (.inl h.hW.1))).alone m
 have a7:free p.n l:=fun i hi=>by rw[s i hi];exact id
 have R:Own (fun b=>W b∨b=p.C) O D (p.n0+p.n) w.heap.size:=by
  have:=h.own
  rw[um (iff_true_intro a7)]at this;have e:(fun b=>W b∨(True/\b=p.C))=fun b=>W b∨b=p.C:=by funext b;simp
  rw[e]at this;exact this
 obtain⟨order,c1,c2,c3,c4,c5⟩:=h.cell
 have y:=h.seat.1 w h.rely;rw[h.O0,h.D0]at y;have a9:∀k,k<p.n0+p.n->1<=k->True:=fun _ _ _=>trivial
 refine⟨_,_,u,_,w,sl,g',X,fun k=>if k<p.n0 then o k else xs (k-p.n0),O,D,order,rfl,by simpa using J,get_map_set_same _ _ _ (by rw[J];omega),a5,y,by rw[Go.ConcN.Deaf_still t 0 _ hm];exact Q,fun k B T=>?_,a6,R,m1,EI h.norel ?_,c1,fun i=>?_,c3,
  c5 fun k U v e=>by rw[s k U]at e;cases e⟩
 ·rw[Go.ConcN.Deaf_still t _ _ hm];rcases Nat.lt_or_ge k p.n0 with h3|h3
  ·dsimp only
   rw[if_pos h3];obtain⟨V,⟨q,A⟩,a3,_⟩:=h.lv k B h3
   exact⟨by rw[get_map_set _ _ _ _ (by omega),V,Option.map_some,woken_rf A.status],⟨q,A⟩,a3,m k (by omega) T⟩
  ·dsimp only
   rw[if_neg (by omega)];obtain⟨i,rfl⟩:∃i,k=p.n0+i:=⟨k-p.n0,by omega⟩
   rw[Nat.add_sub_cancel_left];obtain⟨V,A,a3⟩:=h.wk i (by omega)
   have a8:E i=false:=by
    cases e:E i with
    |false=>rfl
    |true=>
     obtain⟨⟨sv,e'⟩,_⟩:=h.bs i (by omega) e
     rw[s i (by omega)]at e';cases e'
   rw[s i (by omega)]at A;rw[a8]at V;obtain⟨q,A⟩:=A
   exact⟨by rw[get_map_set _ _ _ _ (by omega),V,Option.map_some];simp only[Bool.false_eq_true,if_false];rw[woken_rf A.status],⟨q,A⟩,a3,m _ (by omega) T⟩
 ·intro op f a;simp only[List.mem_toArray,List.mem_cons,List.not_mem_nil,or_false]at f;subst f;simp
 ·rw[c2];exact⟨fun x=>⟨x.1,x.2.1⟩,fun x=>⟨x.1,x.2,by rw[s i x.1];trivial⟩⟩
inductive sS(p:Ph)(W:Nat->Prop)(j:Nat)(tag:eP)(c:Pos)(l:Nat->WT)(E:Nat->Bool)(xs o:Nat->Pos)(w:World)(t:Trace)(m':Machine)(ops:Array MemOp):Prop
 |on {gs':Array Goroutine} {w':World} {sl:Option (Nat×Nat)} {tag':eP} {x':Pos} {bw':Nat->Bool} {O' D':Nat->Nat->Prop} (e:m'=crowd gs' w' sl) (hmu:w'.heap[p.Mu]?=w.heap[p.Mu]?) (ho:Ord (rkM p.n) p.jR p.MNx (tag',x') (tag,c)) (h:p.dP W j tag' x' false l bw' xs o O' D' gs' w' (t++ops)):sS p W j tag c l E xs o w t m' ops
 |sleep {gs':Array Goroutine} {sl:Option (Nat×Nat)} {O' D':Nat->Nat->Prop} (e:m'=crowd gs' w sl) (h:p.dP W j tag c true l E xs o O' D' gs' w (t++ops)):sS p W j tag c l E xs o w t m' ops
 |more {gs':Array Goroutine} {w':World} {sl:Option (Nat×Nat)} {r:Nat} {x':Pos} {wt':Nat->WT} {bw':Nat->Bool} {xs':Nat->Pos} {O' D':Nat->Nat->Prop} (e:m'=crowd gs' w' sl) (h:p.dP W (j+1) (.sp r 1) x' false wt' bw' xs' o O' D' gs' w' (t++ops)):sS p W j tag c l E xs o w t m' ops
 |join (h:p.After W m' (t++ops)):sS p W j tag c l E xs o w t m' ops
theorem dP.I4(hn:p.n<2147483647)(h:p.dP W j tag c false l E xs o O D F w t)(hw:∀r s,tag≠.sp r s):
  ∃m' m,runT p.P (crowd F w sl) 0=(.next m',m)/\p.sS W j tag c l E xs o w t m' m:=by
 have a6:=h.inv
 have X:Lv p.L p.Wg w:=a6.1;obtain⟨a,b,R,m2⟩:=h.md
 generalize a7:(fun k=>gm (l k))=C at m2
 have c4:=We j C
 have b4:p.Mu≠p.Wg:=h.hW.2.2.1.symm;have U:j=p.n:=by
  have:=h.left
  cases tag with
  |sp r s=>exact absurd rfl (hw r s)
  |_=>exact this
 have put:∀{tag':eP} {V:Goroutine} {w':World} {Y:Array Event},stepG p.P true c.g w=.go V w' Y->(w'=w∨∃a v,a.block=p.Wg/\w'=w.setCell a v)->(∀e∈Y,iO p.Wg e∨XM p.Wg e)->p.jR tag' {c with d:=deafBehind c.d Y,g:=V}->
   (∃a b,WgAt p.L.tWg p.Wg w' a b/\Md j C tag' a b)->(BJ p.n j tag')->
   (rkM p.n tag'<rkM p.n tag∨(tag'=tag/\p.MNx tag {c with d:=deafBehind c.d Y,g:=V} c))->
   ∃m' m,runT p.P (crowd F w sl) 0=(.next m',m)/\p.sS W j tag c l E xs o w t m' m:=by
  intro tag' V w' Y q a8 a1 f b5 a2 a9;obtain⟨b6,O',c5,m,N,M⟩:=h.ahC (sl:=sl) q a8 a1 f (by rw[a7];exact b5) a2
  refine⟨_,m,N,.on rfl ?_ (a9.imp (fun x=>⟨x,f⟩) (fun x=>x)) M⟩;rcases a8 with rfl|⟨a,v,ha,rfl⟩
  ·rfl
  ·exact dY (by rw[ha];exact b4)
 have Q:∀{S:Nat->Goroutine->Prop},p.MNx tag=FY p.P true (Lv p.L p.Wg) S->(∀d g,af p.P true (Lv p.L p.Wg) (XM p.Wg) S d g->p.jR tag {c with d:=d,g:=g})->¬S c.d c.g->
   (∃V Y,stepG p.P true c.g w=.go V w Y/\(∀e∈Y,XM p.Wg e)/\af p.P true (Lv p.L p.Wg) (XM p.Wg) S (deafBehind c.d Y) V)->
   ∃m' m,runT p.P (crowd F w sl) 0=(.next m',m)/\p.sS W j tag c l E xs o w t m' m:=by
  rintro S hN f y ⟨V,Y,q,a1,H⟩;refine put (tag':=tag) q (.inl rfl) (fun e he=>.inr (a1 e he)) (f _ _ H) ⟨a,b,R,m2⟩ h.left (.inr ⟨rfl,?_⟩);rw[hN];exact⟨y,w,w,Y,X,q,rfl⟩
 have f:=h.seat
 cases tag with
 |sp r s=>exact absurd rfl (hw r s)
 |w1 v T A=>
  obtain⟨hA,u,H⟩:=f
  rcases oV H X with B|⟨y,B⟩
  ·obtain⟨J,_,Z⟩:=B
   cases m2 with
   |opn N M h3=>
    have e0:lG (.w1 v T A)=0:=rfl
    rw[e0,Nat.add_zero]at R;obtain⟨V,q,hz,b7⟩:=Z (Vn j C) (by omega)
    have a0:=q w X R
    rcases Nat.eq_zero_or_pos (Vn j C)with hz0|b0
    ·have hq:=M.Gp hz0
     refine put (tag':=.acq T) a0 (.inl rfl) aay ⟨u,by rw[Gq,J];exact hz hz0⟩ ⟨0,0,by rw[hz0]at R;simpa using R,.fin trivial hq⟩ U (.inl (by show 1<8*v+6;omega))
    ·refine put (tag':=.w2 (Vn j C) T A) a0 (.inl rfl) aay ⟨hA,u,by rw[Gq,J];exact b7 (by omega)⟩ ⟨_,_,R,?_⟩ U (.inl (by show 8*Vn j C+4<8*v+6;have:Vn j C<=v:=h3;omega));have:=Md.opn (j:=j) (st:=C) (tag:=.w2 (Vn j C) T A) trivial M ⟨Nat.le_refl _,b0⟩
     simpa [lG]using this
   |fin N=>exact N.elim
  ·exact Q rfl (fun d g x=>⟨hA,u,x⟩) y B
 |w2 v T A=>
  obtain⟨hA,u,H⟩:=f
  rcases oV H X with B|⟨y,B⟩
  ·obtain⟨J,_,Z⟩:=B
   cases m2 with
   |opn N M h3=>
    have e0:lG (.w2 v T A)=0:=rfl
    rw[e0,Nat.add_zero]at R;obtain⟨c6,c7⟩:Vn j C<=v/\1<=v:=h3
    obtain⟨b1,a5⟩:=Z (Vn j C) (by omega)
    by_cases hv:Vn j C=v
    ·obtain⟨V,q,z⟩:=b1 hv
     refine put (tag':=.w3 T) (q w X R) (.inr ⟨_,_,rfl,rfl⟩) bk_rw ⟨u,by rw[O8,J];exact z⟩ ⟨_,_,R.setSt _,.reg M (by omega)⟩ U (.inl (by show 3<8*v+4;omega))
    ·obtain⟨V,q,z⟩:=a5 hv
     refine put (tag':=.w1 (Vn j C) T A) (q w X R) (.inl rfl) aay ⟨hA,u,?_⟩ ⟨_,_,R,?_⟩ U (.inl (by show 8*Vn j C+6<8*v+4;omega))
     ·rw[Gq,J];refine z.bind ?_;rintro d g ⟨rfl,hg⟩;exact hA g hg
     ·have:=Md.opn (j:=j) (st:=C) (tag:=.w1 (Vn j C) T A) trivial M (Nat.le_refl _)
      simpa [lG]using this
   |fin N=>exact N.elim
  ·exact Q rfl (fun d g x=>⟨hA,u,x⟩) y B
 |w3 T=>
  obtain⟨u,H⟩:=f
  rcases oV H X with B|⟨y,B⟩
  ·have b8:=B
   obtain⟨J,b9,c1,b2,V,q,z⟩:=B
   have sleeps:(∃i,i<j/\2<=C i)->b=0->∃m' m,runT p.P (crowd F w sl) 0=(.next m',m)/\p.sS W j (.w3 T) c l E xs o w t m' m:=by
    rintro b3 rfl;obtain⟨b6,m,N,M⟩:=h.sleeps (sl:=sl) rfl b8 (by rw[←a7]at b3;exact b3) (b2 w a R)
    exact⟨_,m,N,.sleep rfl M⟩
   cases m2 with
   |opn N=>exact N.elim
   |reg M h3=>
    obtain⟨i,hi,h5⟩:=vM h3
    exact sleeps ⟨i,hi,by omega⟩ rfl
   |last K M h3 h4=>exact sleeps ⟨K,M,by omega⟩ rfl
   |sema M=>
    have c0:deafBehind c.d (semEvents (smA p.Wg))=1:=by rw[J];simp[semEvents,deafBehind]
    exact put (tag':=.w4 T) (q w X R) (.inr ⟨_,_,rfl,rfl⟩) (fun e he=>.inl (O5 e he)) ⟨u,by rw[c0];exact z⟩ ⟨_,_,R.setSm 0,.fin trivial M⟩ U (.inl (by show 2<3;omega))
   |fin N=>exact N.elim
  ·exact Q rfl (fun d g x=>⟨u,x⟩) y B
 |w4 T=>
  obtain⟨u,H⟩:=f
  rcases oV H X with B|⟨y,B⟩
  ·obtain⟨J,b9,V,q,z⟩:=B
   cases m2 with
   |opn N=>exact N.elim
   |fin _ M=>exact put (tag':=.acq T) (q w X R) (.inl rfl) aay ⟨u,by rw[Gq,J];exact z⟩ ⟨_,_,R,.fin trivial M⟩ U (.inl (by show 1<2;omega))
  ·exact Q rfl (fun d g x=>⟨u,x⟩) y B
 |acq T=>
  rcases oV f.2 X with B|⟨y,B⟩
  ·obtain⟨m',m,N,M⟩:=h.acquire (sl:=sl) B
   exact⟨m',m,N,.join M⟩
  ·exact Q rfl (fun d g x=>⟨f.1,x⟩) y B
theorem dP.aeR{Stop:(Nat->Prop)->Nat->(Nat->Prop)->Goroutine->World->Prop}(h:p.dP W j tag c false l E xs o O D F w t)(v:dU p.P true p.I (XM p.Wg) c.D (Stop c.D) c.d c.O c.g c.w)
  (Z:p.MNx tag=NxD p.P true p.I Stop) (hM:∀x':Pos,x'.D=c.D->dU p.P true p.I (XM p.Wg) x'.D (Stop x'.D) x'.d x'.O x'.g x'.w->p.jR tag x') (q:¬Stop c.D c.d c.O c.g c.w):
  ∃m' r,runT p.P (crowd F w sl) 0=(.next m',r)/\p.sS W j tag c l E xs o w t m' r:=by
 have n:=h.inv
 have a0:=h.hn0
 have i:=h.rely
 have J:=h.O0
 have L:=h.D0
 have z:=h.main
 generalize M:c=y at v q i J L z
 obtain⟨OO,DD,H,gg,ww⟩:=y
 dsimp only at v q i J L;cases v with
 |stop hs=>exact absurd hs q
 |step a1 f u s hk k=>
  obtain⟨C,N⟩:=hk w i n
  have A:=k w i n
  subst J L;have Q:p.Wg<w.heap.size:=h.own.vZ _ (.inl h.hW.1)
  have R:ni (Gj W 0) W (O 0) (D 0) w (u w) (s w):=N.wide fun e T=>(Wi (w:=w) h.hW.1 Q T).1;have m:∀b,W b->(u w).heap[b]?=w.heap[b]?:=fun b V=>N.heap b (h.yz.vZ b V) fun U=>h.yz.ow 0 b (by omega) U V
  have B:p.jR tag ⟨grow (O 0) w (u w),D 0,deafBehind H (s w),f w,u w⟩:=hM ⟨grow (O 0) w (u w),D 0,deafBehind H (s w),f w,u w⟩ (by rw[M]) A
  obtain⟨a2,O',a3,r,h1,h2⟩:=h.starter (sl:=sl) (x':=⟨grow (O 0) w (u w),D 0,deafBehind H (s w),f w,u w⟩) (es:=s w) (w':=u w) (tag':=tag) (by rw[M];exact C) R (by rw[M]) B rfl rfl (.refl _) (fun e T=>yC (N.ev e T) fun x=>BP x) (m _ h.hW.2.1)
   (by obtain⟨a,b,Y,m2⟩:=h.md;exact⟨a,b,by unfold WgAt at Y⊢;rw[m p.Wg h.hW.1];exact Y,m2⟩) h.left
  refine⟨_,r,h1,.on (x':=⟨grow (O 0) w (u w),D 0,deafBehind H (s w),f w,u w⟩) rfl (m _ h.hW.2.1) (.inr ⟨rfl,?_⟩) h2⟩;show p.MNx tag _ _;rw[Z];exact⟨rfl,q,w,s w,i,n,C,rfl,rfl⟩
theorem dP.aeS{r s:Nat}(hB:p.n<=p.B)(hn:p.n<2147483647)(h:p.dP W j (.sp r s) c false l E xs o O D F w t):
  ∃m' i,runT p.P (crowd F w sl) 0=(.next m',i)/\p.sS W j (.sp r s) c l E xs o w t m' i:=by
 have H:=h.inv
 have y:r+j=p.n:=h.left
 have f:=h.seat
 have U:p.Mu≠p.Wg:=h.hW.2.2.1.symm;have J:=We j (fun k=>gm (l k))
 rcases r with _|r
 ·rcases s with _|_|s
  ·exact f.elim
  ·by_cases q:gI p.P p.L p.Wg p.Fin c.D c.d c.O c.g c.w
   ·obtain⟨V,A,hA,X,Y⟩:=q
    have h':p.dP W j (.w1 p.n V A) c false l E xs o O D F w t:=by
     refine⟨h.hn0,h.size,h.main,fun e=>(by cases e),⟨hA,Y,X⟩,h.O0,h.D0,h.rely,h.deaf,h.wk,h.bs,h.wO,h.Hq,h.ph,h.lv,h.ti,h.own,h.hW,h.tok,h.hold,h.cell,h.over,h.norel,h.mi,?_,by show j=p.n;omega⟩;obtain⟨a,b,M,N⟩:=h.md
     generalize (fun k=>gm (l k))=u at N J
     show∃a b,WgAt p.L.tWg p.Wg w a b/\Md j u (.w1 p.n V A) a b
     cases N with
     |opn m z h3=>
      refine⟨_,_,M,?_⟩;have:=Md.opn (j:=j) (st:=u) (tag:=.w1 p.n V A) trivial z (by show Vn j u<=p.n;omega)
      simpa [lG]using this
     |fin m=>exact m.elim
    obtain⟨m',i,m,z⟩:=h'.I4 (sl:=sl) hn (fun r s e=>by cases e)
    refine⟨m',i,m,?_⟩;cases z with
    |on e a1 ho v=>
     refine .on e a1 (.inl ⟨?_,v.seat⟩) v;rcases ho with⟨x,_⟩|⟨x,_⟩
     ·have x':rkM p.n _<8*p.n+6:=x
      show rkM p.n _<8*p.n+8+2*0+1;omega
     ·dsimp only at x;subst x;show 8*p.n+6<8*p.n+8+2*0+1;omega
    |sleep e v=>obtain⟨⟨b1,e',_⟩,_⟩:=v.blk rfl;cases e'
    |more e v=>exact .more e v
    |join v=>exact .join v
   ·exact h.aeR f rfl (fun x' Q C=>C) q
  ·exact f.elim
 ·rcases s with _|_|s
  ·by_cases q:p.wF (p.n-(r+1)) (p.Ho r) c.D c.d c.O c.g c.w
   ·obtain⟨a2,b2,b3,a3,b4,O',D',i,m,z⟩:=h.spawn (sl:=sl) hB q
    exact⟨_,i,m,.more rfl z⟩
   ·exact h.aeR f rfl (fun x' Q C=>C) q
  ·by_cases q:p.mQ (p.n-(r+1)) (p.Ho r) c.D c.d c.O c.g c.w
   ·obtain⟨a4,b5,R⟩:=q
    obtain⟨a,b,M,N⟩:=h.md
    generalize a5:(fun k=>gm (l k))=u at N J
    cases N with
    |opn m z h3=>
     have e0:lG (.sp (r+1) 1)=0:=rfl
     rw[e0,Nat.add_zero]at M;obtain⟨g',a6,C⟩:=R (Vn j u) (by omega)
     have T:p.jR (.sp (r+1) 0) {c with d:=deafBehind c.d #[rd (stA p.Wg),wr (stA p.Wg)],g:=g'}:=by show dU p.P true p.I (XM p.Wg) c.D (p.wF (p.n-(r+1)) (p.Ho r) c.D) (deafBehind c.d #[rd (stA p.Wg),wr (stA p.Wg)]) c.O g' c.w;rw[O8,a4];exact C c.w (.refl _)
     obtain⟨a2,O',a3,i,a7,a8⟩:=h.ahC (sl:=sl) (a6 w H.1 M) (.inr ⟨_,_,rfl,rfl⟩) bk_rw T ⟨_,_,M.setSt _,(by
      have:=Md.opn (j:=j) (st:=u) (tag:=.sp (r+1) 0) trivial z trivial
      have e1:lG (.sp (r+1) 0)=1:=rfl
      rw[e1]at this;rw[a5];simpa using this)⟩ y
     exact⟨_,i,a7,.on rfl (dY (a:=stA p.Wg) U) (.inl ⟨by show 8*p.n+8+2*(r+1)+0<8*p.n+8+2*(r+1)+1;omega,T⟩) a8⟩
    |fin m=>exact m.elim
   ·exact h.aeR f rfl (fun x' Q C=>C) q
  ·exact f.elim
end Ph
end Go.Mx
namespace Go.Mx
open Go.Ren
open Go.Conc hiding Goes mem_ofEvents
open Go.ConcN (sumTo upd upd_same upd_ne sumTo_congr sumTo_upd le_sumTo RelBy get_map_set get_map_set_same WgLive norel_of Deaf_absent)
open Go.Conc.Lib (WgLink)
open Go.ConcR (KK WgAt stA smA rd wr g_of_ofEvents loc_of_ofEvent)
theorem MuAt.inj{d:TypeId}{Mu:Nat}{w:World}{m a:Wd}{q e:Nat}(h:MuAt d Mu w m q)(b:MuAt d Mu w a e)(f:m.Bits)(c:a.Bits):m=a/\q=e:=by
 unfold MuAt at h b;rw[h]at b;simp only[Option.some.injEq,Obj.cells.injEq,Array.mk.injEq,List.cons.injEq,Value.int.injEq,and_true,true_and]at b;exact⟨Wd.inj f c (by omega),by omega⟩
namespace Ph
abbrev Zp:=(eP×WT)×Pos
def rz(p:Ph)(m:Wd)(k:Nat)(a z:Zp):Prop:=
 if k=0 then Ord (rkM p.n) p.jR p.MNx (a.1.1,a.2) (z.1.1,z.2)
 else if k<p.n0 then ZF p.P a.2 z.2 else Ord (Dj m) (p.dF (k-p.n0)) (p.ZE (k-p.n0)) (a.1.2,a.2) (z.1.2,z.2)
def JU(n0:Nat)(a:eP)(o:Pos)(c:Nat->WT)(xs l:Nat->Pos)(k:Nat):Zp:=
 if k=0 then((a,.work),o)else if k<n0 then((.sp 0 0,.work),l k)else((.sp 0 0,c (k-n0)),xs (k-n0))
def Wj(j:Nat)(y:Bool)(u:Nat->Bool):Nat:=(if y then 0 else 1)+sumTo j fun k=>if u k then 0 else 1
variable{p:Ph}{W:Nat->Prop}{j:Nat}{tag:eP}{o:Pos}{y:Bool}{c:Nat->WT}{u:Nat->Bool}{xs l:Nat->Pos}{O D:Nat->Nat->Prop}{A:Array Goroutine}{w C:World}{sl:Option (Nat×Nat)}{t:Trace}
theorem QK{i:Nat}(a:i<j)(d:u i=false):Wj j y (upd u i true)<Wj j y u:=by
 have e:=sumTo_upd u true (fun b=>if b=true then 0 else 1) a
 unfold Wj;rw[d]at e;simp only[if_true,Bool.false_eq_true,if_false,Nat.add_zero]at e;omega
theorem dP.acc(m:Wd)(h:p.dP W j tag o y c u xs l O D A w t):∀k,k<p.n0+j->Acc (p.rz m k) (JU p.n0 tag o c xs l k):=by
 intro k g;rcases Nat.eq_zero_or_pos k with rfl|b
 ·have e:p.rz m 0=InvImage (Ord (rkM p.n) p.jR p.MNx) (fun z:Zp=>(z.1.1,z.2)):=by funext d z;unfold rz;rw[if_pos rfl];rfl
  rw[e];exact InvImage.accessible _ (O9 p.Qn _ tag o rfl h.seat)
 ·by_cases a:k<p.n0
  ·have e:p.rz m k=InvImage (ZF p.P) (fun z:Zp=>z.2):=by funext d z;unfold rz;rw[if_neg (by omega),if_pos a];rfl
   rw[e];refine InvImage.accessible _ ?_;unfold JU;rw[if_neg (by omega),if_pos a];obtain⟨_,⟨q,f⟩,_⟩:=h.lv k b a
   exact tZ q _ f
  ·have e:p.rz m k=InvImage (Ord (Dj m) (p.dF (k-p.n0)) (p.ZE (k-p.n0))) (fun z:Zp=>(z.1.2,z.2)):=by funext d z;unfold rz;rw[if_neg (by omega),if_neg a];rfl
   rw[e];refine InvImage.accessible _ ?_;unfold JU;rw[if_neg (by omega),if_neg a];exact O9 (p.Qo (k-p.n0)) _ _ _ rfl (h.wk (k-p.n0) (by omega)).2.1
def Some(p:Ph)(W:Nat->Prop)(j:Nat)(m:Machine)(t:Trace):Prop:=∃tag o y c u xs l O D A w sl,m=crowd A w sl/\p.dP W j tag o y c u xs l O D A w t
def Sm(p:Ph)(W:Nat->Prop)(j:Nat)(F:Nat)(m:Machine)(t:Trace):Prop:=∃tag o y c u xs l O D A w sl a q,m=crowd A w sl/\MuAt p.tM p.Mu w a q/\a.Bits/\Hl j (fun k=>eG (c k)) q=F/\p.dP W j tag o y c u xs l O D A w t
theorem Wl{eX:Machine->Outcome->World->Trace->Prop}(hB:p.n<=p.B)(hV:∀k v,p.V v->p.V (p.f k v))(hn:p.n<2147483647){F:Nat}{mw:Wd}{q:Nat}(T:MuAt p.tM p.Mu w mw q)(hb:mw.Bits)(U:Hl j (fun k=>eG (c k)) q=F)(h:p.dP W j tag o y c u xs l O D A w t):
  aG p.P eX (fun m t=>p.After W m t∨p.Some W (j+1) m t∨∃F',F'<F/\p.Sm W j F' m t) (crowd A w sl) t:=by
 refine aG.Wn (r:=Prod.Lex (Vec (p.rz mw) (p.n0+j)) (· <·)) (J:=fun a m t=>∃tag o y c u xs l O D A w sl q,a=(JU p.n0 tag o c xs l,Wj j y u)/\m=crowd A w sl/\MuAt p.tM p.Mu w mw q/\Hl j (fun k=>eG (c k)) q=F/\p.dP W j tag o y c u xs l O D A w t) ?_
  (a:=(JU p.n0 tag o c xs l,Wj j y u)) (Prod.lexAccessible (Gs _ _ _ (h.acc mw)) (fun b=>Nat.lt_wfRel.wf.apply b) _) ⟨tag,o,y,c,u,xs,l,O,D,A,w,sl,q,rfl,rfl,T,U,h⟩
 clear Wl h T U tag o y c u xs l O D A w sl t q;rintro a m t ⟨tag,o,y,c,u,xs,l,O,D,A,w,sl,q,rfl,rfl,T,U,h⟩;obtain⟨i,g,d,H,hg,M,a1⟩:=h.pick (sl:=sl)
 rw[a1];have h':=h.at d
 have b4:=h.hn0
 right;right;rcases Nat.eq_zero_or_pos i with rfl|X
 ·have hb:y=false:=by
   cases hb:y with
   |false=>rfl
   |true=>
    have:=h.main
    rw[hb,hg]at this;cases this;cases M
  subst hb;have a5:∃m' N,runT p.P (crowd A (w.at d) H) 0=(.next m',N)/\p.sS W j tag o c u xs l (w.at d) t m' N:=by
   by_cases hw:∃r s,tag=.sp r s
   ·obtain⟨r,s,rfl⟩:=hw
    exact h'.aeS hB hn
   ·exact h'.I4 hn fun r s e=>hw ⟨r,s,e⟩
  obtain⟨m',N,Y,h2⟩:=a5
  refine⟨m',N,Y,?_⟩;cases h2 with
  | @on z C L Z R E O' D' e a6 ho hc=>
   refine .inr ⟨(JU p.n0 Z R c xs l,Wj j false E),.left _ _ ⟨0,by omega,?_,fun k hk=>?_⟩,Z,R,false,c,E,xs,l,O',D',z,C,L,q,rfl,e,by unfold MuAt at T⊢;rw[a6];exact T,U,hc⟩
   ·unfold rz;rw[if_pos rfl];exact ho
   ·unfold JU;rw[if_neg hk,if_neg hk]
  | @sleep z L O' D' e hc=>exact .inr ⟨(JU p.n0 tag o c xs l,Wj j true u),.right _ (by unfold Wj;simp),tag,o,true,c,u,xs,l,O',D',z,_,L,q,rfl,e,T,U,hc⟩
  | @more z C L r R a7 E a8 O' D' e hc=>exact .inl (.inr (.inl ⟨.sp r 1,R,false,a7,E,a8,l,O',D',z,C,L,e,hc⟩))
  |join hc=>exact .inl (.inl hc)
 ·have a3:i<p.n0+j:=by rw[←h.size];exact(Array.getElem?_eq_some_iff.1 hg).1
  rcases Nat.lt_or_ge i p.n0 with Y|Y
  ·have hr:(l i).g.status=.running:=by have:=(h.lv i X Y).1;rw[hg]at this;cases this;exact M
   obtain⟨z,Q,E,R,N,h2,h3,h4⟩:=h'.Wh (sl:=H) X Y hr
   refine⟨_,N,h2,.inr ⟨(JU p.n0 tag o c xs (upd l i R),Wj j Q E),.left _ _ ⟨i,a3,?_,fun k hk=>?_⟩,tag,o,Q,c,E,xs,upd l i R,O,D,z,_,H,q,rfl,rfl,T,U,h4⟩⟩
   ·unfold rz;rw[if_neg (by omega),if_pos Y];unfold JU;rw[if_neg (by omega),if_pos Y,if_neg (by omega),if_pos Y,upd_same];exact h3
   ·unfold JU;rw[upd_ne l _ hk]
  ·obtain⟨i,rfl⟩:∃i',i=p.n0+i':=⟨i-p.n0,by omega⟩
   have hi:i<j:=by omega
   have a2:u i=false:=by
    cases hb:u i with
    |false=>rfl
    |true=>have:=(h.wk i hi).1;rw[hb,hg]at this;cases this;cases M
   have hr:(xs i).g.status=.running:=by have:=(h.wk i hi).1;rw[a2,hg]at this;cases this;exact M
   rcases h'.stepW (sl:=H) hn hV hi a2 hr with⟨z,C,Q,E,s',R,O',h2,h3,⟨b2,b3,a4,a0,n1,n2,n3,n4,n5⟩,h4⟩|⟨z,h2,h4⟩
   ·have a9:MuAt p.tM p.Mu (w.at d) mw q:=T
    obtain⟨rfl,rfl⟩:=MuAt.inj a9 n1 hb n2
    refine⟨_,(runT p.P (crowd A (w.at d) H) (p.n0+i)).2,Prod.ext h2 rfl,?_⟩;rcases n5 with n5|⟨rfl,n5,n6⟩
    ·exact .inl (.inr (.inr ⟨_,by rw[←U];exact n5,tag,o,Q,_,E,_,l,O',D,z,C,H,a4,a0,rfl,n3,n4,rfl,h4⟩))
    ·refine .inr ⟨(JU p.n0 tag o (upd c i s') (upd xs i R) l,Wj j Q E),.left _ _ ⟨p.n0+i,a3,?_,fun k hk=>?_⟩,tag,o,Q,upd c i s',E,upd xs i R,l,O',D,z,C,H,a0,rfl,rfl,n3,by rw[n5];exact U,h4⟩
     ·unfold rz;rw[if_neg (by omega),if_neg (by omega)];unfold JU;rw[if_neg (by omega),if_neg (by omega),if_neg (by omega),if_neg (by omega),Nat.add_sub_cancel_left,upd_same,upd_same];exact n6.imp (fun x=>⟨x,h3⟩) (fun x=>x)
     ·unfold JU;by_cases e0:k=0
      ·rw[if_pos e0,if_pos e0]
      ·rw[if_neg e0,if_neg e0];by_cases e1:k<p.n0
       · rw[if_pos e1,if_pos e1]
       · rw[if_neg e1,if_neg e1,upd_ne c _ (by omega),upd_ne xs _ (by omega)]
   ·exact⟨_,(runT p.P (crowd A (w.at d) H) (p.n0+i)).2,Prod.ext h2 rfl,.inr ⟨(JU p.n0 tag o c xs l,Wj j y (upd u i true)),.right _ (QK hi a2),tag,o,y,c,upd u i true,xs,l,O,D,z,_,H,q,rfl,rfl,T,U,h4⟩⟩
theorem Wp{eX:Machine->Outcome->World->Trace->Prop}(b:p.n<=p.B)(d:∀k v,p.V v->p.V (p.f k v))(e:p.n<2147483647):∀(F:Nat) {m:Machine} {t:Trace},p.Sm W j F m t->aG p.P eX (fun m t=>p.After W m t∨p.Some W (j+1) m t) m t:=by
 intro F;induction F using Nat.strongRecOn with
 |_ F g=>
  rintro m t ⟨tag,o,y,c,u,xs,l,O,D,A,w,sl,E,q,rfl,i,r,s,h⟩;refine(Wl (eX:=eX) (sl:=sl) b d e i r s h).bind ?_;rintro m t (x|x|⟨z,a,x⟩)
  ·exact .here (.inl x)
  ·exact .here (.inr x)
  ·exact g z a x
theorem leads{eX:Machine->Outcome->World->Trace->Prop}(e:p.n<=p.B)(g:∀k v,p.V v->p.V (p.f k v))(i:p.n<2147483647):∀(k:Nat) {j:Nat} {m:Machine} {t:Trace},j+k=p.n->p.Some W j m t->aG p.P eX (p.After W) m t:=by
 intro k;induction k with
 |zero=>
  rintro j m t s ⟨tag,o,y,c,u,xs,l,O,D,A,w,sl,rfl,h⟩;obtain⟨b,q,d,a,_⟩:=h.mi
  refine(Wp (eX:=eX) e g i _ ⟨tag,o,y,c,u,xs,l,O,D,A,w,sl,b,q,rfl,d,a.bits,rfl,h⟩).mono ?_;rintro m t (x|⟨tag,o,y,c,u,xs,l,O,D,A,w,sl,rfl,z⟩)
  ·exact x
  ·have:=z.left
   cases tag<;>simp only[BJ]at this<;>omega
 |succ k E=>
  rintro j m t s ⟨tag,o,y,c,u,xs,l,O,D,A,w,sl,rfl,h⟩;obtain⟨b,q,d,a,_⟩:=h.mi
  refine(Wp (eX:=eX) e g i _ ⟨tag,o,y,c,u,xs,l,O,D,A,w,sl,b,q,rfl,d,a.bits,rfl,h⟩).bind ?_;rintro m t (x|x)
  ·exact .here x
  ·exact E (by omega) x
end Ph
end Go.Mx
namespace Go.Mx
open Go.Ren
open Go.Conc hiding Goes mem_ofEvents
open Go.ConcN (sumTo upd upd_same upd_ne get_map_set get_map_set_same WgLive Deaf_absent)
open Go.Conc.Lib (WgLink)
open Go.ConcR (KK WgAt stA smA rd wr g_of_ofEvents loc_of_ofEvent)
namespace Ph
variable{p:Ph}{W U Z:Nat->Prop}{a:Pos}{o:Nat->Pos}{c:Array Goroutine}{g:Goroutine}{w:World}{sl:Option (Nat×Nat)}{m:Machine}{t:Trace}{eX:Machine->Outcome->World->Trace->Prop}
def W1(p:Ph)(W:Nat->Prop)(b:Nat):Prop:=W b∨b=p.Wg∨b=p.Mu
theorem begins(h:Al p.P W U p.n0 a o c w t)(s:U p.Wg)(u:U p.Mu)(F:p.Wg≠p.Mu)(H:a.O p.C)(hd:a.d=0)(J:p.Ho p.n (fun _=>False) (fun b=>a.O b/\b≠p.C) a.g a.w)(M:WgAt p.L.tWg p.Wg w 0 0)(N:MuAt p.tM p.Mu w ⟨0,0,0,0⟩ 0)
  (X:CellIs p.oe p.C p.v0 w) (Y:p.V p.v0):p.dP (p.W1 W) 0 (.sp p.n 1) {a with O:=fun b=>a.O b/\b≠p.C} false (fun _=>.work) (fun _=>false) (fun _=>a) o (xy fun b=>a.O b/\b≠p.C) qw c w t:=by
 have hN:=h.hN
 have Q:xy (fun b=>a.O b/\b≠p.C) 0=fun b=>a.O b/\b≠p.C:=by funext b;apply propext;exact⟨fun x=>x.2,fun x=>⟨rfl,x⟩⟩
 have z:p.jR (.sp p.n 1) {a with O:=fun b=>a.O b/\b≠p.C}:=by
  have R:=h.D0
  generalize hn:p.n=n at J⊢;rcases n with _|n
  ·show dU p.P true p.I (XM p.Wg) a.D _ a.d (fun b=>a.O b/\b≠p.C) a.g a.w;rw[R,hd];exact J
  ·show dU p.P true p.I (XM p.Wg) a.D _ a.d (fun b=>a.O b/\b≠p.C) a.g a.w;rw[R,hd];exact J
 have A:¬(W p.C∨U p.C):=h.own.ow 0 p.C (by omega) ⟨rfl,H⟩
 have v:p.C<w.heap.size:=h.own.EG 0 p.C (by omega) ⟨rfl,H⟩
 have q:=h.rely
 refine⟨h.hN,h.size,h.main,fun e=>(by cases e),z,Q.symm,h.D0,⟨q.size,fun b r=>q.own b r.1,fun b r=>q.ro b (by have e:a.D b:=r;rw[h.D0]at e;exact e),q.os,q.output,q.tape⟩,h.deaf,fun i f=>absurd f (Nat.not_lt_zero _),fun i f=>absurd f (Nat.not_lt_zero _),fun i f=>absurd f (Nat.not_lt_zero _),fun i f=>absurd f (Nat.not_lt_zero _),fun i f=>absurd f (Nat.not_lt_zero _),fun k h1 h2=>?_,?_,?_,
  ⟨.inr (.inl rfl),.inr (.inr rfl),F,?_,v⟩,fun _=>?_,fun i f=>absurd f (Nat.not_lt_zero _),?_,fun i f=>absurd f (Nat.not_lt_zero _),h.norel,⟨_,_,N,?_,fun i f=>absurd f (Nat.not_lt_zero _)⟩,⟨0,0,M,?_⟩,rfl⟩
 ·obtain⟨a1,a2,a3,a4⟩:=h.lv k h1 h2
  exact⟨a1,a2,a3,a4.widen fun b r=>.inl r⟩
 ·have:=h.ti.share (S:=fun b=>b=p.Wg∨b=p.Mu) (fun i op x f B hS=>by
   have:touchAt t i=some x:=by rw[touchAt_of f];exact B
   exact absurd (iC (fun b (r:b=p.Wg∨b=p.Mu)=>r.elim (fun e=>e▸s) (fun e=>e▸u)) hS) (h.unt i x this))
  exact this.less (fun i b r=>⟨r.1,r.2.1⟩) (fun i b r=>.inl r)
 ·refine⟨fun i k b f T x y=>x.1.trans y.1.symm,fun _ _ _ _ _ _ x=>x,fun i b f E B=>?_,fun _ _ _ x=>x.elim,fun i b f x=>h.own.EG i b f ⟨x.1,x.2.1⟩,fun _ _ _ x=>x.elim,fun b r=>?_⟩
  ·rcases B with(B|rfl|rfl)|⟨_,rfl⟩
   ·exact h.own.ow i b f ⟨E.1,E.2.1⟩ (.inl B)
   ·exact h.own.ow i _ f ⟨E.1,E.2.1⟩ (.inr s)
   ·exact h.own.ow i _ f ⟨E.1,E.2.1⟩ (.inr u)
   ·exact E.2.2 rfl
  ·rcases r with(B|rfl|rfl)|⟨_,rfl⟩
   ·exact h.own.vZ b (.inl B)
   ·exact h.own.vZ _ (.inr s)
   ·exact h.own.vZ _ (.inr u)
   ·exact v
 ·rintro(x|e|e)
  ·exact A (.inl x)
  ·exact A (.inr (e▸s))
  ·exact A (.inr (e▸u))
 ·exact FreeTok.one fun l hl=>h.ti.own 0 (by omega) l (iC (fun b (r:b=p.C)=>⟨rfl,r▸H⟩) hl)
 ·exact⟨[],List.nodup_nil,fun k=>by simp,Y,fun k T=>absurd T (Nat.not_lt_zero _),fun _=>X⟩
 ·exact⟨⟨by decide,by decide,by decide⟩,Nat.zero_le _,rfl,fun _=>⟨rfl,rfl,rfl⟩,fun e=>(by cases e),fun _ _ _ e=>absurd e (Nat.not_lt_zero _),fun i f=>absurd f (Nat.not_lt_zero _)⟩
 ·have:=Md.opn (j:=0) (st:=fun _=>8) (tag:=.sp p.n 1) trivial (fun i f=>absurd f (Nat.not_lt_zero _)) trivial
  have e:Vn 0 (fun _=>8)+lG (.sp p.n 1)=0:=by generalize p.n=n;rcases n with _|n<;>rfl
  rw[e]at this;show Md 0 (fun _=>8) (.sp p.n 1) 0 0;simpa using this
def aaA(p:Ph)(W:Nat->Prop)(m:Machine)(t:Trace):Prop:=
 ∃(w:World) (d:Goroutine) (O D:Nat->Nat->Prop) (order:List Nat),At p.P (p.W1 W) (fun _=>False) (p.W1 W) (p.n0+p.n) 0 d w m t/\p.Fin (D 0) (O 0) d w/\
  Own (fun b=>p.W1 W b∨b=p.C) O D (p.n0+p.n) w.heap.size/\order.Nodup/\(∀i,i∈order↔i<p.n/\p.locks i=true)/\p.V (p.fold order)/\CellIs p.oe p.C (p.fold order) w
theorem phase(hB:p.n<=p.B)(hV:∀k v,p.V v->p.V (p.f k v))(hn:p.n<2147483647)(u:U p.Wg)(z:U p.Mu)(A:p.Wg≠p.Mu)(hC:full Z w p.C)(hs:p.Ho p.n (fun _=>False) (fun b=>full Z w b/\b≠p.C) g w)(E:WgAt p.L.tWg p.Wg w 0 0)(F:MuAt p.tM p.Mu w ⟨0,0,0,0⟩ 0)
  (hc:CellIs p.oe p.C p.v0 w) (hv:p.V p.v0) (h:At p.P W U Z p.n0 0 g w m t):aG p.P eX (p.aaA W) m t:=by
 obtain⟨o,c,q,sl,rfl,l⟩:=h
 have hN:=l.hN
 obtain⟨d,hw⟩:=l.same
 have H:q=w.at d:=hw
 subst H;have co:=begins l u z A hC rfl hs E F hc hv
 refine(leads (eX:=eX) hB hV hn p.n (Nat.zero_add p.n) ⟨_,_,_,_,_,_,_,_,_,_,_,sl,rfl,co⟩).bind ?_;rintro m t ⟨c,w,sl,g,gT,o,O,D,order,rfl,h1,h2,h3,h4,h5,h6,h7,Y,h9,J,M,N,Q,R⟩;have T:At p.P (p.W1 W) (fun _=>False) (p.W1 W) (p.n0+p.n) 0 g w (crowd c w sl) t:=by
  refine⟨o,c,w,sl,rfl,by omega,h1,h2,rfl,⟨w.drawn,rfl⟩,h5,h6,?_,?_,fun i x _ hU=>?_,fun _ _ x=>x,J⟩
  ·refine h7.less (fun i b r=>?_) (fun i b r=>.inl r);exact⟨r.1,r.2.1,r.2.2⟩
  ·refine⟨fun i j b _ _ x y=>x.1.trans y.1.symm,fun _ _ _ _ _ _ x=>x,fun i b _ x y=>y.elim x.2.2 id,fun _ _ _ x=>x.elim,fun i b _ x=>x.2.1,fun _ _ _ x=>x.elim,fun b x=>x.elim (fun y=>Y.vZ b (.inl y)) False.elim⟩
  ·revert hU;cases x.loc<;>exact id
 have hX:XAl (p.W1 W) (XM p.Wg):=by refine⟨fun e X=>?_,fun e X=>BP X⟩;exact(Wi (w:=w) (W:=p.W1 W) (.inr (.inl rfl)) (QL h9) X).1
 refine(T.idle hX (I:=Lv p.L p.Wg) (fun d=>⟨0,0,h9⟩) h3).mono ?_;rintro m t ⟨d',g',⟨rfl,rfl⟩,s⟩;exact⟨w,_,O,D,order,s,h4,Y,M,N,Q,R⟩
end Ph
end Go.Mx
namespace Go.Mx
open Go.Ren Go.Sy
open Go.Conc hiding Goes
open Go.Conc.Locks
open Go.ConcR (stA smA)
section
variable{P:Program}{I:World->Prop}{tM:TypeId}{Mu B:Nat}{T a X X':Goroutine->Prop}{d:Nat}{g:Goroutine}
theorem yD{b:Array Event}(c:∀g,T g->a g)(h:Says P false I b T g):Says P false I b a g:=by
 obtain⟨e,f,i,j⟩:=h
 exact⟨e,f,i,c _ j⟩
theorem EnQ.mono(b:∀g,T g->a g)(h:EnQ P I Mu T d g):EnQ P I Mu a d g:=
 ⟨h.1,yD (fun g h=>h.mono fun d g k=>⟨k.1,yD b k.2⟩) h.2⟩
end
namespace Ph
variable{p:Ph}{L:ah}{O D:Nat->Prop}{i:Nat}{w:World}
theorem sees:aeG p.I p.Mu:=fun w a=>by
 obtain⟨m,q,b⟩:=a.2;exact⟨.int .i32 m,by simp[World.cell?,mA,b]⟩
theorem reads:Reads p.I p.Mu:=fun w a=>by
 obtain⟨m,q,b⟩:=a.2;exact⟨m,by simp[World.cell?,mA,b]⟩
theorem Qm.later{b:World}{g:Goroutine}(h:p.Qm i O D w g)(c:az O D w b):p.Qm i O D b g:=fun a v d e f j k l=>h a v (c.trans d) e f j k l
theorem QM(H:dX p.P L)(y:p.B<63)(z:p.locks i=true){t:Nat}{b:Frame}{ds:List Deferred}{cs:List Frame}{s:S}{A:Array Value}(E:aV t s=some (L.mu.lock,[some (.v 0)]))(F:A.size=t)(J:Agree (Go.Mx.n0 p.Mu) s.env A)(M:b.kind≠.early)
  (o:∀j,az O D w j->p.Qm i O D j (G ((b.at ⟨A,ds⟩ s.todo).finish (.tuple #[])) cs)):dU p.P false p.I X0 D (p.Z8 i D) 0 O (G (b.at ⟨A,ds⟩ s.todo) cs) w:=by
 have N:∀a,az O D w a->∀g,af p.P false p.I X0 (fun d g=>d=0/\g=G ((b.at ⟨A,ds⟩ s.todo).finish (.tuple #[])) cs) 0 g->p.Qm i O D a g:=fun a f g l j v m Q c R T U=>by
  have:=l.wkD (I':=p.I) (D:=D) (O:=fun b=>O b∨b=p.C) (w:=j) fun _ x=>x
  refine this.bind ?_;rintro W X Y n ⟨⟨rfl,rfl⟩,rfl,e⟩;have q:az O D j n:=⟨e.size,fun b Z=>e.own b (.inl Z),e.ro,e.os,e.output,e.tape⟩
  refine o a f n v (m.trans q) Q ?_ R T (Nat.lt_of_lt_of_le U e.size);unfold CellIs at c⊢;rw[e.own p.C (.inr rfl)];exact c
 have r:=N w ⟨Nat.le_refl _,fun _ _=>rfl,fun _ _=>rfl,.rfl,rfl,rfl⟩
 have h:=(aan (tM:=p.tM) (B:=p.B) H y (sees (p:=p)) E F J M r).wkD (I':=p.I) (D:=D) (O:=O) (w:=w) fun _ x=>x
 refine h.bind ?_;rintro W X Y j ⟨⟨rfl,u⟩,rfl,e⟩;refine .stop ⟨u.1,.inl ⟨rfl,z,yD (fun g l=>?_) u⟩⟩;exact l.exit fun d g he=>he.mono fun d g k=>EnQ.mono (fun g l=>Qm.later l e) k
theorem I5(H:dX p.P L)(n:p.B<63){v:dH}{sz:Nat}{b:Frame}{ds:List Deferred}{cs:List Frame}{A:Array Value}{todo:List Item}(k:CellIs p.oe p.C (p.f i v) w)
  (o:af p.P false (Lv p.L p.Wg) X0 (gG p.P p.L p.Wg) 0 (G {b.at ⟨A,ds⟩ todo with mode:=.returning} cs)):
  p.ZC i v D 0 O (G {b.at ⟨A,dcall L.mu.unlock #[.pointer (some ⟨p.Mu,0,none⟩)]::ds⟩ todo with mode:=.returning} cs) w:=by
 have r:(baseD L.mu.unlock).kind≠.early:=by simp[baseD]
 refine⟨rfl,rfl,k,_,#[],fun w m q _ _=>stepG_unwind_enter (c:=KR L) rfl H.lib.f_unlock (by kernel_rfl) (aku L),by simp,rfl,?_⟩;refine QG (tM:=p.tM) (B:=p.B) (I':=Lv p.L p.Wg) (X:=af p.P false (Lv p.L p.Wg) X0 (gG p.P p.L p.Wg) 0) H n (reads (p:=p)) r (fun g s=>?_) (b:=baseD L.mu.unlock) (cs:={b.at ⟨A,ds⟩ todo with mode:=.returning}::cs) ⟨_,?_,fun j x l=>?_,rfl⟩
 ·refine s.bind ?_;rintro d g ⟨rfl,t,_,_,rfl⟩;refine .step rfl (fun _=>_) (fun _=>#[]) (fun w _=>⟨stepG_end,by simp⟩) fun w _=>?_
  refine .step rfl (fun _=>_) (fun _=>#[]) (fun w _=>⟨stepG_leave_deferred (b:=baseD L.mu.unlock) (a:=⟨t,[]⟩) rfl rfl H.lib.f_unlock (results_none (by kernel_rfl) _ _ w) (events_results_none (by kernel_rfl) _ _) rfl,by simp⟩) fun w _=>?_
  exact o
 ·rfl
 ·unfold ulE fresh Go.Sy.get at l;split at l
  ·rename_i e;cases l;have:0=j:=by simpa using e
   subst this;exact congrArg some (jq.symm:_=(E.v 0).den (Go.Mx.n0 p.Mu))
  ·cases l
end Ph
end Go.Mx
namespace Go.Am
open Go.Conc (born QuitsD G dcall)
open Go.Conc.Lib
open Go.ConcR (WgAt)
open Go.Ren (grow gp aQ az Wk dU Idle af X0 Lv gG)
open Go.Mx (CellIs dH ah dX)
def AH.tell(h:AH)(b:Nat)(v:dH):AH:={h with tr:=h.tr.set b ⟨.cells v 0 (0,0),none,false,0⟩}
section
variable{P:Program}{a σ:Env}{O O' D D':Nat->Prop}{h h':AH}{w w':World}{b:Nat}{B:aY}{v:dH}
theorem Gt(x:Nat):(h.tell b v).tr.get x=if x=b then some ⟨.cells v 0 (0,0),none,false,0⟩else h.tr.get x:=by
 unfold AH.tell;simp only[Tr.dQ]
theorem QN(x:Nat):(h.tell b v).look x=if x=b then some ⟨.cells v 0 (0,0),none,false,0⟩else h.look x:=by
 unfold AH.look;rw[Gt];by_cases e:x=b
 ·rw[if_pos e,if_pos e]
 ·rw[if_neg e,if_neg e];rfl
theorem Rel.tell(r:Rel a O D h w)(hb:a.born b)(hl:h.look b=none)(M:¬a.bD b)(hv:∀x∈v,Plain x)(hc:CellIs ((a.to b).2,a.ext b) (a.to b).1 v w)(hO:¬O (a.to b).1)(hD:¬D (a.to b).1):Rel a (fun x=>O x∨x=(a.to b).1) D (h.tell b v) w:=by
 have s:∀x C,(h.tell b v).look x=some C->(x=b/\C=⟨.cells v 0 (0,0),none,false,0⟩)∨(x≠b/\h.look x=some C):=fun x C d=>by
  rw[QN]at d;split at d
  ·rename_i e;cases d;exact .inl ⟨e,rfl⟩
  ·rename_i e;exact .inr ⟨e,d⟩
 have apart:∀x C,a.born x->h.look x=some C->(a.to x).1≠(a.to b).1:=fun x C j d e=>by
  rcases(r.own x C j d).2 with k|k
  ·exact hO (e▸k)
  ·exact hD (e▸k)
 have t:∀f l,h.dB.get f=some l->b∉l:=fun f l U V=>by
  obtain⟨W,C,N,Q⟩:=r.mem f l U b V
  have:h.look b=some C:=by
   unfold AH.look;rw[N];dsimp only
   rw[Q];dsimp only
   rw[U];simp[V]
  rw[hl]at this;cases this
 refine⟨fun x C c e f j d F=>?_,fun x C j d F=>?_,fun x C j d=>?_,fun x y C R j L d T o p=>?_,r.fresh,r.low,fun x C j d=>?_,fun f l q=>?_,fun f l q x j=>?_⟩
 ·rcases s x C d with⟨rfl,rfl⟩|⟨o,d⟩
  ·cases F;obtain⟨A,E,c1,c2,c3,c4⟩:=hc
   refine⟨A,E,(0,0),c1,c2,c3,fun _=>rfl,fun i u X=>⟨u,c4 i u X,(hv u (Array.mem_of_getElem? X)).vr a⟩⟩
  ·exact r.cells x C c e f j d F
 ·rcases s x C d with⟨rfl,rfl⟩|⟨o,d⟩
  ·exact absurd rfl (F _ _ _)
  ·exact r.obj x C j d F
 ·rcases s x C d with⟨rfl,rfl⟩|⟨o,d⟩
  ·exact⟨fun _=>.inr rfl,.inl (.inr rfl)⟩
  ·obtain⟨o1,o2⟩:=r.own x C j d
   exact⟨fun z=>.inl (o1 z),o2.imp .inl id⟩
 ·rcases s x C d with⟨Y,_⟩|⟨Z,H⟩<;>rcases s y R T with⟨ey,_⟩|⟨a0,J⟩
  ·exact absurd (Y.trans ey.symm) o
  ·exact absurd (Y▸p.symm) (apart y R L J)
  ·exact absurd (ey▸p) (apart x C j H)
  ·exact r.sep x y C R j L H J o p
 ·rcases s x C d with⟨rfl,rfl⟩|⟨o,d⟩
  ·exact⟨⟨fun z=>absurd z M,fun z=>absurd rfl z⟩,fun z=>absurd rfl z⟩
  ·exact r.bD x C j d
 ·have m:h.dB.get f=some l:=q
  have up:∀x∈l,∀n,(h.tell b v).upTo a x n->h.upTo a x n:=fun x j n u=>by
   obtain⟨C,c,e,g,h1,h2,h3⟩:=u
   rw[Gt,if_neg (fun(ee:x=b)=>t f l m (ee▸j))]at h1;exact⟨C,c,e,g,h1,h2,h3⟩
  exact List.Pairwise.imp_of_mem (fun{x y} j L hp b1 b2 M n n' u1 u2=>hp b1 b2 M n n' (up x j n u1) (up y L n' u2)) (r.row f l m)
 ·have m:h.dB.get f=some l:=q
  obtain⟨W,C,N,Q⟩:=r.mem f l m x j
  refine⟨W,C,?_,Q⟩;rw[Gt,if_neg (fun(ee:x=b)=>t f l m (ee▸j))];exact N
theorem Rel.Wq(r:Rel a O D h w)(d:a.born b)(j:h.look b=some B)(k:¬B.UB){e:TypeId}{f:Nat×Nat}(l:B.obj=.cells v e f)(m:∀x∈v,Plain x):CellIs ((a.to b).2,a.ext b) (a.to b).1 v w:=by
 obtain⟨C,E,g,n,o,p,q,s⟩:=r.cells b B v e f d j l
 have t:=q k
 subst t;refine⟨C,E,n,o,p,fun i x c=>?_⟩;obtain⟨z,u,y⟩:=s i x c
 rw[u,(m x (Array.mem_of_getElem? c)).eq y]
theorem Rel.aaB(r:Rel a O D h w)(c:a.born b)(d:h.look b=some B)(e:B.fM=none):¬a.bD b:=fun z=>(r.bD b B c d).1.1 z e
def AS.tell(s:AS)(b:Nat)(v:dH):AS:=⟨s.fr,s.cs,s.h.tell b v⟩
theorem lU.tell{base:List Frame}{s:AS}{g:Goroutine}(S:lU P a O D base s g w)(hd:aK s.fr=true)(d:a.born b)(i:s.h.look b=none)(j:¬a.bD b)(m:∀x∈v,Plain x)(n:CellIs ((a.to b).2,a.ext b) (a.to b).1 v w)(o:¬O (a.to b).1)(p:¬D (a.to b).1):
  lU P a (fun x=>O x∨x=(a.to b).1) D base (s.tell b v) g w:=by
 obtain⟨⟨q,f,r,t,u,y,z⟩,c⟩:=S
 refine⟨⟨q,f,r,t,u,.plain (y.f0 fun A l k e=>?_),z⟩,c.tell d i j m n o p⟩;unfold aK at hd;rw[e]at hd;cases hd
theorem Pg{x:FuncId}{y:Deferred}{j Wg:Nat}(m:a.to j=(Wg,0))(h:DR a {target:=.fn (.func x) #[],args:=#[.pointer (some ⟨j,0,none⟩)]} y):y=dcall x #[.pointer (some ⟨Wg,0,none⟩)]:=by
 obtain⟨k,d⟩:=h
 obtain⟨q,e⟩:=y
 dsimp only at k d;cases k with
 |fn f n=>
  cases f;rename_i c;have g:c=#[]:=Array.eq_empty_of_size_eq_zero (by have:=n.1;simpa using this.symm)
  subst g;have o:e.size=1:=by have:=d.1;simpa using this.symm
  obtain⟨v,rfl⟩:∃v,e=#[v]:=by refine⟨e[0],?_⟩;apply Array.ext (by simp[o]);intro i s l;simp at l;subst l;rfl
  have:=d.2 0 _ v rfl rfl;cases this with
  |ptr t=>simp[Env.addr,m,dcall]
end
end Go.Am
namespace Go.Am
open Go.Conc (born QuitsD G dcall)
open Go.Conc.Lib
open Go.ConcR (WgAt)
open Go.Ren (grow gp aQ az Wk dU Idle af X0 Lv gG)
open Go.Mx (CellIs dH ah dX)
structure acw(P:Program)(fid:FuncId)(mb:Nat)(s s':AS):Prop where
 run:s.fr.ret=false
 round:s.fr.round=none
 at_:∃ops i l k o t ats a',s.fr.todo=.region ops (i::l)::k/\ops[i]?=some o/\Region.wanted o (yielded ops s.fr.tmps)=true/\bU o=true/\o.guard=none/\o.op=.call {callee:=.value (.func fid),args:=#[.tmp t],argTypes:=ats}/\
  s.fr.tmps[t]?=some (.pointer (some ⟨mb,0,none⟩))/\(∀d,o.dst=some d->d<s.fr.tmps.size)/\aF P s.fr s.h (.tuple #[])=some a'/\s'=⟨a',s.cs,s.h⟩
structure aeT(P:Program)(L:WgLink)(ul:FuncId)(gb mb:Nat)(a:ak):Prop where
 ret:a.ret=true
 dk:a.dk=true
 fn:∃fn,P.funcs[a.fn]?=some fn/\fn.results=#[]
 defers:a.defers=[{target:=.fn (.func ul) #[],args:=#[.pointer (some ⟨mb,0,none⟩)]},{target:=.fn (.func L.done) #[],args:=#[.pointer (some ⟨gb,0,none⟩)]}]
 round:a.round=none
structure acy(P:Program)(L:WgLink)(ul:FuncId)(gb mb vb:Nat)(v:dH)(s:AS):Prop where
 cs:s.cs=[]
 todo:aK s.fr=true
 at_:∃n a'',nX n s.fr=some a''/\aeT P L ul gb mb a''
 val:∃B e f,s.h.look vb=some B/\B.obj=.cells v e f/\B.ro=false
 plain:∀x∈v,Plain x
def Ws(P:Program)(c:bP)(L:WgLink)(d:FuncId)(gb mb e:Nat)(f:dH)(s:AS):Prop:=
 bG P c (fun b=>∃a,Fg P b a/\bG P c (acy P L d gb mb e f) a) s
def Wu(P:Program)(d:bP)(L:WgLink)(M:ah)(e c b:Nat)(V:dH->Prop)(f:dH->dH)(s:AS):Prop:=
 ∃a,acw P M.mu.lock c s a/\aK a.fr=true/\a.h.look b=none/\∀v,V v->Ws P d L M.mu.unlock e c b (f v) (a.tell b v)
def BQ(P:Program)(pl:bP)(L:WgLink)(M:ah)(gb mb vb:Nat)(V:dH->Prop)(f:dH->dH)(c:Bool)(s:AS):Prop:=
 bG P pl (fun b=>∃d,Fg P b d/\bG P pl (fun a=>(c=false/\abR P L gb a)∨(c=true/\Wu P pl L M gb mb vb V f a)) d) s
section
variable{P:Program}{c σ:Env}{O O' D D':Nat->Prop}{h h':AH}{w w':World}{X:Event->Prop}{m:Bool}{base cs:List Frame}{I:World->Prop}{a a':ak}{f:Frame}{lo n:Nat}{l:Array Oper}{i:Nat}{o:Oper}{s s₀:AS}{pl:bP}{g:Goroutine}{p:Go.Mx.Ph}{M:ah}
theorem aaC(H:dX p.P M)(L:p.B<63)(N:p.locks i=true){k t:Nat}{C:List Nat}{F:List Item}{y:Array TypeId}(J:f=f.at ⟨f.tmps,f.defers⟩ (.inRegion l (k::C)::F))(Q:l[k]?=some o)(R:o.guard=none)(z:o.op=.call {callee:=.value (.func M.mu.lock),args:=#[.tmp t],argTypes:=y})
  (T:f.tmps[t]?=some (.pointer (some ⟨p.Mu,0,none⟩))) (hd:∀d,o.dst=some d->d<f.tmps.size) (U:f.kind≠.early) (A:p.Qm i O D w (dV (f.finish (.tuple #[])) cs)):dU p.P false p.I X0 D (p.Z8 i D) 0 O (dV f cs) w:=by
 have q:Go.Sy.Ej f.tmps.size o=true:=by
  unfold Go.Sy.Ej;split
  ·rename_i d e;simpa using hd d e
  ·rfl
 have V:Go.Sy.aV f.tmps.size ⟨[(t,some (.v 0))],.inRegion l (k::C)::F,[]⟩=some (M.mu.lock,[some (.v 0)]):=by
  unfold Go.Sy.aV Go.Sy.opAt;dsimp only
  rw[Q];dsimp only
  unfold Go.Sy.su;rw[R];dsimp only
  rw[if_pos rfl,q];simp[z,Go.Sy.zO,Go.Sy.get]
 have W:Go.Sy.Agree (Go.Mx.n0 p.Mu) [(t,some (.v 0))] f.tmps:=by
  intro j x u;unfold Go.Sy.get at u;split at u
  ·rename_i e;cases u;have:t=j:=by simpa using e
   subst this;rw[T];exact congrArg some (Go.Mx.jq.symm:_=(Go.Sy.E.v 0).den (Go.Mx.n0 p.Mu))
  ·cases u
 have r:=Go.Mx.Ph.QM (p:=p) (O:=O) (D:=D) (i:=i) (w:=w) H L N (b:=f) (ds:=f.defers) (cs:=cs) V rfl W U (fun w' Y=>by
  have:=A.later Y
  rw[←J];exact this)
 rw[←J]at r;exact r
theorem ahF{x y:FuncId}{b d Wg Mu:Nat}{ds:List Deferred}(e:c.to b=(Wg,0))(j:c.to d=(Mu,0))(h:LR (DR c) [{target:=.fn (.func x) #[],args:=#[.pointer (some ⟨d,0,none⟩)]},{target:=.fn (.func y) #[],args:=#[.pointer (some ⟨b,0,none⟩)]}] ds):
  ds=[dcall x #[.pointer (some ⟨Mu,0,none⟩)],dcall y #[.pointer (some ⟨Wg,0,none⟩)]]:=by
 cases h with
 |cons k q=>
  cases q with
  |cons r t=>cases t;rw[Pg j k,Pg e r]
theorem Wv{L:WgLink}{gb mb:Nat}{v:dH}(H:dX p.P M)(F:WgLib p.P p.L)(J:dA p.P p.L.done=true)(n:∃w,Lv p.L p.Wg w)(N:p.B<63)(r:F0 c a f)(q:aeT p.P p.L M.mu.unlock gb mb a)(z:c.to gb=(p.Wg,0))(Q:c.to mb=(p.Mu,0))(R:CellIs p.oe p.C (p.f i v) w):
  p.ZC i v D 0 O (dV f [nK p.P]) w:=by
 have j:f.mode=.returning:=by have:=r.mode;rw[q.ret]at this;exact this
 have d:f.roundOf=none:=r.toFB.NS q.round
 have k:=r.defers
 rw[q.defers]at k;have k:=ahF z Q k
 have e:({f.at ⟨f.tmps,dcall M.mu.unlock #[.pointer (some ⟨p.Mu,0,none⟩)]::[dcall p.L.done #[.pointer (some ⟨p.Wg,0,none⟩)]]⟩ f.todo with mode:=.returning}:Frame)=f:=by
  rw[←k];obtain⟨U,E,u,defers,t,kind,V⟩:=f
  dsimp only at j d;subst j d;rfl
 have x:=Go.Mx.Ph.I5 (p:=p) (O:=O) (D:=D) (i:=i) (w:=w) (v:=v) (sz:=0) (b:=f) (ds:=[dcall p.L.done #[.pointer (some ⟨p.Wg,0,none⟩)]]) (cs:=[nK p.P]) (A:=f.tmps) (todo:=f.todo) H N R (by
  have y:F0 c {a with defers:=[{target:=.fn (.func p.L.done) #[],args:=#[.pointer (some ⟨gb,0,none⟩)]}]} {f.at ⟨f.tmps,[dcall p.L.done #[.pointer (some ⟨p.Wg,0,none⟩)]]⟩ f.todo with mode:=.returning}:=by
   refine⟨⟨r.fn,?_,?_,r.kind,?_⟩,r.tmps,r.todo⟩
   ·have hd:=r.defers
    rw[q.defers]at hd;rw[k]at hd;cases hd with
    |cons _ T=>exact T
   ·show _=if a.ret then _ else _
    rw[q.ret];rfl
   ·show fH c.ob a.round none;rw[q.round];exact .none
  exact D6 F J n y ⟨q.ret,q.dk,q.fn,rfl⟩ z q.round)
 rw[e]at x;exact x
end
end Go.Am
namespace Go.Am
open Go.Conc (born QuitsD G dcall)
open Go.Conc.Lib
open Go.ConcR (WgAt)
open Go.Ren (grow gp aQ az Wk dU Idle af X0 Lv gG)
open Go.Mx (CellIs dH ah dX)
structure Names(ρ:Env)(p:Go.Mx.Ph)(gb mb vb:Nat):Prop where
 g:ρ.born gb
 gt:ρ.to gb=(p.Wg,0)
 m:ρ.born mb
 mt:ρ.to mb=(p.Mu,0)
 v:ρ.born vb
 vt:ρ.to vb=(p.C,p.oe.1)
 vx:ρ.ext vb=p.oe.2
 vs:¬ρ.bD vb
section
variable{p:Go.Mx.Ph}{M:ah}{q u:Env}{O O' D D':Nat->Prop}{h h':AH}{w w':World}{base cs:List Frame}{a a':ak}{f:Frame}{i gb mb vb:Nat}{s r:AS}{pl:bP}{g:Goroutine}
theorem Names.le(n:Names q p gb mb vb)(h:q.Le u):Names u p gb mb vb:=
 ⟨h.born _ n.g,(h.to _ n.g).trans n.gt,h.born _ n.m,(h.to _ n.m).trans n.mt,h.born _ n.v,(h.to _ n.v).trans n.vt,(h.ext _ n.v).trans n.vx,fun x=>n.vs ((h.bD _ n.v).1 x)⟩
theorem Names.cell(n:Names q p gb mb vb){v:dH}:CellIs ((q.to vb).2,q.ext vb) (q.to vb).1 v w↔CellIs p.oe p.C v w:=by rw[n.vt,n.vx]
theorem aaD[aP p.P]{v:dH}(H:dX p.P M)(HL:WgLib p.P p.L)(hp:dA p.P p.L.done=true)(hi:∃w,Lv p.L p.Wg w)(hB:p.B<63)(k:Ws p.P pl p.L M.mu.unlock gb mb vb (p.f i v) s)(S:lU p.P q O D [nK p.P] s g w)(n:Names q p gb mb vb):
  dU p.P false p.I X0 D (p.ZC i v D) 0 O g w:=by
 have hW:Wk p.P false p.I X0 D (fun O' V w'=>dU p.P false p.I X0 D (p.ZC i v D) 0 O' V w') O g w:=by
  refine(iH k S).bind ?_;rintro W Y Z ⟨u,a0,⟨a1,hd,hs⟩,Q,A⟩;refine(H7 hd A).bind ?_;rintro a2 a3 a4 ⟨τ,j,E⟩;refine(iH hs E).bind ?_;rintro t a5 F ⟨υ,a6,he,o,J⟩;have b:=((n.le Q).le j).le o;obtain⟨R,z,⟨nn,a7,e1,e2⟩,⟨B,e,fz,e3,e4,e6⟩,e5⟩:=he
  obtain⟨⟨lo,f,cs,a8,rfl,hf,y⟩,N⟩:=J
  rw[R]at y;cases y;have T:=hf.f0 fun a9 l k e=>by unfold aK at z;rw[e]at z;cases z
  have c:=b.cell.1 (N.Wq b.v e3 (zZ e6) e4 e5);have U:t p.C∨D p.C:=by have:=(N.own vb B b.v e3).2;rw[b.vt]at this;exact this
  refine .stop ?_;refine((rG (P:=p.P) (m:=false) (I:=p.I) (X:=X0) (cs:=[nK p.P]) nn T e1).wkD (I':=p.I) (D:=D) (O:=t) (w:=F) fun _ x=>x).bind ?_;rintro d O' V w' ⟨⟨rfl,f',h1,h2,rfl⟩,rfl,hr⟩;refine .stop (Wv (gb:=gb) (mb:=mb) (L:=p.L) H HL hp hi hB h1 e2 b.gt b.mt ?_);unfold CellIs at c⊢;rw[U.elim (hr.own p.C) (hr.ro p.C)];exact c
 refine(Go.Ren.Wk.deaf (fun e x=>x.elim) (fun e x=>x) 0 hW).bind ?_;rintro d O g w ⟨rfl,h⟩;exact h
theorem Wx[aP p.P](H:dX p.P M)(HL:WgLib p.P p.L)(hp:dA p.P p.L.done=true)(hi:∃w,Lv p.L p.Wg w)(hB:p.B<63)(hV:∀v,p.V v->∀x∈v,Plain x)(k:BQ p.P pl p.L M gb mb vb p.V (p.f i) (p.locks i) r)(S:lU p.P q O D [nK p.P] r g w)(n:Names q p gb mb vb):
  dU p.P false p.I X0 D (p.Z8 i D) 0 O g w:=by
 have hW:Wk p.P false p.I X0 D (fun O' g' w'=>dU p.P false p.I X0 D (p.Z8 i D) 0 O' g' w') O g w:=by
  refine(iH k S).bind ?_;rintro b7 b8 b9 ⟨u,c0,⟨s',hd,hs⟩,a7,Y⟩;refine(H7 hd Y).bind ?_;rintro c1 c2 c3 ⟨τ,E,Z⟩;refine(iH hs Z).bind ?_;rintro c4 c5 c6 ⟨υ,C,he,F,Q⟩;have R:=((n.le a7).le E).le F;rcases he with⟨hl,a8,a9,nn,c9,e1,e2,e3⟩|⟨hl,c7,⟨a0,J,d0,j,l,kk,o,t,d1,a',t1,t2,t3,t4,t5,t6,t7,t8,t9,b0⟩,b1,b2,b3⟩
  ·obtain⟨⟨lo,f,cs,d4,rfl,hf,T⟩,d5⟩:=Q
   rw[a8]at T;cases T;exact .stop (.stop ⟨rfl,.inr ⟨rfl,hl,Qc HL hp hi (hf.f0 a9) e1 e2 e3 R.gt⟩⟩)
  ·refine(tN (c:=[]) (l:=[]) Q a0 (.inr ⟨l,kk,t1⟩)).bind ?_;rintro U c8 a1 ⟨φ,lo,f,cs,N,rfl,A⟩;have z:=R.le N
   obtain⟨b4,sr,kr,a2,d6⟩:=tV (m:=false) (base:=[nK p.P]) (fid:=M.mu.lock) (by
    unfold dA;rw[H.lib.f_lock];kernel_rfl) A J t2 t3 t4 t6
   have a3:F0 φ C.fr f:=A.fs.f0 (by rw[t1];intro _ _ _ e;cases e)
   have a4:C.fr.tmps.size=f.tmps.size:=a3.tmps.1;have b5:f.tmps[t]?=some (.pointer (some ⟨p.Mu,0,none⟩)):=by
    have b6:t<f.tmps.size:=Nat.lt_of_lt_of_le (Array.getElem?_eq_some_iff.1 t7).1 (Nat.le_of_eq a4);obtain⟨y,hy⟩:∃y,f.tmps[t]?=some y:=⟨f.tmps[t],by simp[b6]⟩
    have:=a3.tmps.2 t _ y t7 hy;rw[hy];cases this with
    |ptr hb=>simp[Env.addr,z.mt]
   refine .stop (aaC (O:=U) (D:=D) (w:=a1) (cs:=cs++[nK p.P]) H hB hl a2 t2 t5 t6 b5 (fun d hd=>Nat.lt_of_lt_of_le (t8 d hd) (Nat.le_of_eq a4)) A.fs.base.ne ?_);intro w' v a5 hv X hO hD hC;have A':=A.rely a5
   subst b0;have a6:lU p.P φ U D [nK p.P] ⟨a',C.cs,C.h⟩ (dV (f.finish (.tuple #[])) (cs++[nK p.P])) w':=A'.finish (.refl φ) (fun x _ hx=>hx) (Nat.le_refl _) (.tuple rfl fun i x y hx=>by simp at hx) A'.rel t9
   have W:=a6.tell (b:=vb) b1 z.v b2 z.vs (hV v hv) (z.cell.2 X) (by rw[z.vt];exact hO) (by rw[z.vt];exact hD)
   rw[z.vt]at W;exact aaD H HL hp hi hB (b3 v hv) W z
 refine(Go.Ren.Wk.deaf (fun e x=>x.elim) (fun e x=>x) 0 hW).bind ?_;rintro d O g w ⟨rfl,h⟩;exact h
end
end Go.Am
namespace Go.Ren
open Go.Conc hiding Goes mem_ofEvents Deaf
open Go.ConcN (WgLive)
open Go.Conc.Lib (WgLink)
open Go.ConcR (KK WgAt stA smA rd wr mk)
section
variable{P:Program}{L:WgLink}{Wg:Nat}{I:World->Prop}{O D:Nat->Prop}{g gT:Goroutine}{w:World}{Stop:Nat->(Nat->Prop)->Goroutine->World->Prop}
theorem UD.ahG(h:UD P true (XS Wg) L Wg (· =gT) g)(l:∀w,I w->Lv L Wg w)(k:∀f a,f=O->az O D w a->dU P true I (XM Wg) D Stop 0 f gT a):
  dU P true I (XM Wg) D (fun d O g w=>d=1/\g.status=.running/\∀v:Nat,v<2147483647->jQ P true (Lv L Wg) (fun w=>WgAt L.tWg Wg w (v*KK) 0) (fun w=>w.setCell (stA Wg) (.int .u64 ((v+1)*KK))) #[rd (stA Wg),wr (stA Wg)]
   (fun b=>∀a,az O D w a->dU P true I (XM Wg) D Stop 1 O b a) g) 0 O g w:=by
 have q:af P true (Lv L Wg) (XM Wg) (fun d g=>d=1/\acz P true (XS Wg) L Wg (· =gT) g) 0 g:=
  (Idle.deaf (fun e=>jc) (fun e=>AP) 0 h).bind fun d g ⟨e,i⟩=>by
   subst e;exact i.deaf (fun w _=>rM (.inl rfl)) fun b j=>(Idle.deaf (fun e=>jc) (fun e=>AP) 1 j)
 refine(q.wkD (O:=O) (D:=D) (w:=w) l).mono ?_;rintro d f m n ⟨⟨rfl,s,t⟩,rfl,r⟩;refine⟨rfl,s,fun v u=>?_⟩;obtain⟨b,x,y⟩:=t v u
 refine⟨b,x,fun a z=>?_⟩;have A:af P true (Lv L Wg) (XM Wg) (fun d g=>d=0/\g=gT) 1 b:=
  (Idle.deaf (fun e=>jc) (fun e=>AP) 1 y).bind fun d g ⟨e,i⟩=>by
   subst e;exact i.deaf (fun w _=>BU (.inr (.inl rfl))) fun b j=>(Idle.deaf (fun e=>jc) (fun e=>AP) 0 j)
 refine(A.wkD (O:=f) (D:=D) (w:=a) l).bind ?_;rintro d B o p ⟨⟨rfl,rfl⟩,rfl,c⟩;exact k _ _ rfl ((r.trans z).trans c)
end
end Go.Ren
namespace Go.Am
open Go.Conc (born QuitsD G dcall)
open Go.Conc.Lib
open Go.ConcR (WgAt)
open Go.Ren (grow gp aQ az Wk dU Idle af X0 XS XM Lv gG gI)
open Go.Mx (CellIs dH ah dX)
structure aeU(P:Program)(C:AS->Prop)(s s':AS):Prop where
 run:s.fr.ret=false
 round:s.fr.round=none
 at_:∃ops i l k o c x fid first cap a',s.fr.todo=.region ops (i::l)::k/\ops[i]?=some o/\Region.wanted o (yielded ops s.fr.tmps)=true/\bU o=true/\o.op=.go c/\c.callee=.value x/\au s.fr.tmps x=.func (.func fid) first cap/\dA P fid=true/\
  C ⟨{ak.enter P fid ((first++c.args.map (au s.fr.tmps))++cap)with dk:=true},[],s.h.shared⟩/\aF P s.fr s.h.shared undef=some a'/\s'=⟨a',s.cs,s.h.shared⟩
def kK(P:Program)(b:bP)(L:WgLink)(M:ah)(gb mb vb:Nat)(V:dH->Prop)(f:Nat->dH->dH)(locks:Nat->Bool)(n:Nat)(Fin:AS->Prop):Nat->AS->Prop
 |0,s=>bG P b (fun a=>∃c,H8 P L.wait #[.pointer (some ⟨gb,0,none⟩)] a c/\Fin c) s
 |r+1,s=>bG P b (fun a=>∃c,H8 P L.add #[.pointer (some ⟨gb,0,none⟩),.int .i64 1] a c/\bG P b (fun d=>∃e,aeU P (BQ P b L M gb mb vb V (f (n-(r+1))) (locks (n-(r+1)))) d e/\kK P b L M gb mb vb V f locks n Fin r e) c) s
section
variable{p:Go.Mx.Ph}{M:ah}{t u:Env}{O C D F:Nat->Prop}{h h':AH}{w E:World}{base cs:List Frame}{a J:ak}{f:Frame}{i gb mb vb:Nat}{s s₀:AS}{pl:bP}{g:Goroutine}{R:AS->Prop}{Nx:(Nat->Prop)->(Nat->Prop)->Goroutine->World->Prop}
theorem ahH:∀w,p.I w->Lv p.L p.Wg w:=fun w h=>h.1
theorem aaE[aP p.P](H:WgLib p.P p.L)(hp:dA p.P p.L.add=true)(hi:∃w,Lv p.L p.Wg w)
  (k:bG p.P pl (fun z=>∃V,H8 p.P p.L.add #[.pointer (some ⟨gb,0,none⟩),.int .i64 1] z V/\R V) s) (S:lU p.P t O D base s g w) (W:t.born gb) (hg:t.to gb=(p.Wg,0))
  (next:∀V u C g' E,R V->t.Le u->lU p.P u C D base V g' E->dU p.P true p.I (XM p.Wg) D (p.wF i Nx D) 0 C g' E):
  dU p.P true p.I (XM p.Wg) D (p.mQ i Nx D) 0 O g w:=by
 have hW:Wk p.P true p.I X0 D (fun C g' E=>dU p.P true p.I (XM p.Wg) D (p.mQ i Nx D) 0 C g' E) O g w:=by
  refine(iH k S).bind ?_;rintro a7 a8 a9 ⟨u,z,⟨V,⟨Y,r,Z,i,l,kk,o,as,b7,J,t1,t2,t3,t4,t5,t6,t7,t8⟩,hR⟩,N,a0⟩;have Q:u.to gb=(p.Wg,0):=(N.to _ W).trans hg;refine(tN (c:=[]) (l:=[]) a0 Y (.inr ⟨l,kk,t1⟩)).bind ?_;rintro a1 b0 b1 ⟨τ,lo,f,cs,j,rfl,A⟩;have U:τ.to gb=(p.Wg,0):=(j.to _ (N.born _ W)).trans Q;obtain⟨n,sr,kr,a2,a3⟩:=tV (m:=true) (base:=base) hp A r t2 t3 t4 t5
  rw[t6]at n;have v:=args2 U n
  rw[v]at a3;refine .stop (.step rfl (fun _=>dV (Frame.enter p.P p.L.add #[.pointer (some ⟨p.Wg,0,none⟩),.int .i64 1] .normal) (f::(cs++base))) id (fun _=>#[]) (fun b _ _=>⟨a3 b,.none b⟩) fun b hr _=>?_);show dU p.P true p.I (XM p.Wg) D (p.mQ _ Nx D) 0 (grow a1 b b) _ b;rw[Go.Ren.jf];have B:=Go.Ren.add_pos (P:=p.P) (m:=true) (X:=XS p.Wg) (L:=p.L) (Wg:=p.Wg) (T:=(· =G ((f.at ⟨f.tmps,f.defers⟩ (.inRegion Z (i::sr)::kr)).finish (.tuple #[])) (cs++base))) H hi (fun a ha=>⟨a,ha,.inl rfl⟩)
   (b₀:=f) (a₀:=⟨f.tmps,f.defers⟩) (ops₀:=Z) (i₀:=i) (rest₀:=sr) (k₀:=kr) (cs:=cs++base) (by rw[Frame.finish_at])
  rw[←a2]at B;refine Go.Ren.UD.ahG (gT:=G (f.finish (.tuple #[])) (cs++base)) B ahH ?_;rintro b6 a5 rfl q;subst t8;refine next _ τ _ _ a5 hR (N.trans j) ?_;exact(A.rely hr|>.rely q).finish (.refl τ) (fun x _ hx=>hx) (Nat.le_refl _) (.tuple rfl fun i x y hx=>by simp at hx) (A.rely hr|>.rely q).rel t7
 refine(Go.Ren.Wk.deaf (fun e x=>x.elim) (fun e x=>x.elim) 0 hW).bind ?_;rintro d O g w ⟨rfl,h⟩;exact h
theorem aeV[aP p.P](H:dX p.P M)(HL:WgLib p.P p.L)(hp:dA p.P p.L.done=true)(hi:∃w,Lv p.L p.Wg w)(hB:p.B<63)(hV:∀v,p.V v->∀x∈v,Plain x)
  (k:bG p.P pl (fun W=>∃s',aeU p.P (BQ p.P pl p.L M gb mb vb p.V (p.f i) (p.locks i)) W s'/\R s') s) (S:lU p.P t O D base s g w) (n:Names t p gb mb vb)
  (next:∀s' u C F g' E,R s'->t.Le u->lU p.P u C F base s' g' E->(∀b,D b->F b)->Nx F C g' E):
  dU p.P true p.I (XM p.Wg) D (p.wF i Nx D) 0 O g w:=by
 have hW:Wk p.P true p.I X0 D (fun C g' E=>p.wF i Nx D 0 C g' E) O g w:=by
  refine(iH k S).bind ?_;rintro c1 c2 c3 ⟨u,W,⟨s',⟨Y,b0,c7,j,l,kk,o,c,x,Z,first,b1,J,t1,t2,t3,t4,t5,t6,t7,t8,t9,b2,b3⟩,hR⟩,a5,a6⟩;refine(tN (c:=[]) (l:=[]) a6 Y (.inr ⟨l,kk,t1⟩)).mono ?_;rintro N c4 c5 ⟨τ,lo,f,cs,X,rfl,A⟩;have a7:=(n.le a5).le X;refine⟨rfl,rfl,fun Q hr _=>?_⟩;obtain⟨sr,kr,ht⟩:=A.todo
  have a8:=A.wanted o t2
  rw[t3]at a8;have hv:=A.uM o t2 t4
  have a1:=hv x (by rw[t5];simp[Op.operands,Call.operands,t6])
  rw[t7]at a1;generalize b4:f.eval x=y at a1
  cases a1 with
  | @func _ c8 _ m _ T b5 b6 b7 b8 b9=>
   cases b5;have a2:AR (VR τ) ((first++c.args.map (au W.fr.tmps))++b1) ((m++c.args.map f.eval)++T):=
    AR.append (AR.append ⟨b6,b7⟩ (UG fun z hz=>hv z (by rw[t5];simp[Op.operands,Call.operands,t6,hz]))) ⟨b8,b9⟩
   have Y:∀U,(execOp f.eval o).runT p.P Q U=(.ok (.spawn {target:=.fn (.func Z) T,args:=m++c.args.map f.eval}) Q,U++#[]):=by
    intro U;have:execOp f.eval o=Sem.pure (.spawn {target:=.fn (.func Z) T,args:=m++c.args.map f.eval}):=by
     unfold execOp;rw[t5];dsimp only
     unfold resolve;rw[t6];dsimp only
     rw[b4];rfl
    rw[this];simp only[Sem.runT,Array.append_empty]
   obtain⟨h1,h2⟩:=yE Y
   have a3:=oW A.fs.base.ne
   have c0:stepG p.P true (dV f (cs++base)) Q=.spawn (dV (f.finish undef) (cs++base)) (born p.P {target:=.fn (.func Z) T,args:=m++c.args.map f.eval}) Q #[]:=by rw[fD A.run ht t2 a8 (fun q hq=>by rw[t5]at hq;cases hq)];simp[stepG.apply,h1,h2,a3,GStep.after,dV,born,seen]
   have a9:=A.rely hr
   have a0:Rel τ (fun _=>False) (fun b=>D b∨N b) W.h.shared Q:=a9.rel.share fun b hb=>hb.elim (fun x=>.inr (.inr x)) (fun x=>.inr (.inl x))
   refine⟨_,_,N,fun _=>False,fun b=>D b∨N b,c0,fun b hb=>hb,fun b hb=>hb.elim,fun b hb=>hb,?_,?_⟩
   ·refine .step rfl (fun _=>dV (Frame.enter p.P Z ((m++c.args.map f.eval)++T) .deferred) [nK p.P]) id (fun _=>#[]) (fun r _ _=>⟨born_step t8 r,.none r⟩) fun r a4 _=>?_
    show dU p.P false p.I X0 _ _ 0 (grow (fun _=>False) r r) _ r;rw[Go.Ren.jf];refine Wx (pl:=pl) (gb:=gb) (mb:=mb) (vb:=vb) H HL hp hi hB hV t9 ?_ a7;refine⟨⟨0,_,[],Nat.zero_le _,rfl,.plain (UI Z a2),.nil⟩,a0.rely a4⟩
   ·have e:(fun b=>N b/\¬N b/\¬False)=fun _=>False:=by funext b;exact propext ⟨fun x=>x.2.1 x.1,fun x=>x.elim⟩
    rw[e];subst b3;refine next _ τ _ _ _ _ hR (a5.trans X) ?_ fun b hb=>.inl hb;exact⟨⟨lo,_,cs,A.bound,rfl,kL A.fs (Nat.le_refl _) jF b2,A.stk⟩,a0⟩
 refine(Go.Ren.Wk.deaf (fun e x=>x.elim) (fun e x=>x.elim) 0 hW).mono ?_;rintro d O g w ⟨rfl,h⟩;exact h
theorem BV[aP p.P]{Fin:AS->Prop}{H9:Env}(H:dX p.P M)(e:uN p.P p.L)(j:∃w,Lv p.L p.Wg w)(y:p.B<63)(z:∀v,p.V v->∀x∈v,Plain x)(A:p.Fin=UJ p.P H9 base Fin):
  ∀(r:Nat) {s:AS} {t:Env} {O D:Nat->Prop} {g:Goroutine} {w:World},kK p.P pl p.L M gb mb vb p.V p.f p.locks p.n Fin r s->lU p.P t O D base s g w->H9.Le t->Names t p gb mb vb->p.Ho r D O g w
 |0,s,t,O,D,g,w,k,S,b,n=>by
  show dU p.P true p.I (XM p.Wg) D (gI p.P p.L p.Wg p.Fin D) 0 O g w;rw[A];refine UH (gb:=gb) e.toWgLib e.wait j k S n.g n.gt ?_;intro N u C Q E l c m;exact⟨u,N,l,b.trans c,m⟩
 |r+1,s,t,O,D,g,w,k,S,b,n=>by
  refine aaE (gb:=gb) e.toWgLib e.add j k S n.g n.gt ?_;intro N u C Q E T c m;refine aeV (gb:=gb) (mb:=mb) (vb:=vb) H e.toWgLib e.done j y z T m (n.le c) ?_;intro U τ W X Y Z o d q _;exact BV H e j y z A r o q ((b.trans c).trans d) ((n.le c).le d)
end
end Go.Am
