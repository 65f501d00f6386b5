import Derived.Conc.DeferLaws
import Derived.Test.YtjgfemidkffdjaaGreatH8
import Derived.Test.YtjgfemidkffdjaaGreatH16
import Derived.Test.YtjgfemidkffdjaaGreatH19
import Derived.Test.YtjgfemidkffdjaaGreatH21
set_option linter.all false
namespace Go.Mx
open Go.Ren
open Go.Conc hiding Goes mem_ofEvents
open Go.ConcN (sumTo upd upd_same upd_ne sumTo_congr sumTo_upd le_sumTo RelBy get_map_set get_map_set_same WgLive norel_of Deaf_absent)
open Go.Conc.Lib (WgLink)
open Go.ConcR (KK WgAt stA smA rd wr g_of_ofEvents loc_of_ofEvent)
theorem MuAt.inj{d:TypeId}{Mu:Nat}{w:World}{m a:Wd}{q e:Nat}(h:MuAt d Mu w m q)(b:MuAt d Mu w a e)(f:m.Bits)(c:a.Bits):m=a/\q=e:=by
 unfold MuAt at h b;rw[h]at b;simp only[Option.some.injEq,Obj.cells.injEq,Array.mk.injEq,List.cons.injEq,Value.int.injEq,and_true,true_and]at b;exact⟨Wd.inj f c (by omega),by omega⟩
namespace Ph
abbrev Zp:=(fM×WT)×Pos
def rz(p:Ph)(m:Wd)(k:Nat)(a z:Zp):Prop:=
 if k=0 then Ord (rkM p.n) p.kQ p.MNx (a.1.1,a.2) (z.1.1,z.2)
 else if k<p.n0 then NxQ p.P a.2 z.2 else Ord (ES m) (p.dF (k-p.n0)) (p.WNx (k-p.n0)) (a.1.2,a.2) (z.1.2,z.2)
def Nc(n0:Nat)(tag:fM)(o:Pos)(c:Nat->WT)(xs l:Nat->Pos)(k:Nat):Zp:=
 if k=0 then((tag,.work),o)else if k<n0 then((.sp 0 0,.work),l k)else((.sp 0 0,c (k-n0)),xs (k-n0))
def YL(j:Nat)(bl:Bool)(u:Nat->Bool):Nat:=(if bl then 0 else 1)+sumTo j fun k=>if u k then 0 else 1
variable{p:Ph}{W:Nat->Prop}{j:Nat}{tag:fM}{o:Pos}{bl:Bool}{c:Nat->WT}{u:Nat->Bool}{xs l:Nat->Pos}{O D:Nat->Nat->Prop}{y:Array Goroutine}{w A:World}{sl:Option (Nat×Nat)}{t:Trace}
theorem Vb{i:Nat}(a:i<j)(d:u i=false):YL j bl (upd u i true)<YL j bl u:=by
 have e:=sumTo_upd u true (fun b=>if b=true then 0 else 1) a
 unfold YL;rw[d]at e;simp only[if_true,Bool.false_eq_true,if_false,Nat.add_zero]at e;omega
theorem dV.acc(m:Wd)(h:p.dV W j tag o bl c u xs l O D y w t):∀k,k<p.n0+j->Acc (p.rz m k) (Nc p.n0 tag o c xs l k):=by
 intro k g;rcases Nat.eq_zero_or_pos k with rfl|b
 ·have e:p.rz m 0=InvImage (Ord (rkM p.n) p.kQ p.MNx) (fun z:Zp=>(z.1.1,z.2)):=by funext d z;unfold rz;rw[if_pos rfl];rfl
  rw[e];exact InvImage.accessible _ (TN p.UM _ tag o rfl h.seat)
 ·by_cases a:k<p.n0
  ·have e:p.rz m k=InvImage (NxQ p.P) (fun z:Zp=>z.2):=by funext d z;unfold rz;rw[if_neg (by omega),if_pos a];rfl
   rw[e];refine InvImage.accessible _ ?_;unfold Nc;rw[if_neg (by omega),if_pos a];obtain⟨_,⟨q,f⟩,_⟩:=h.lv k b a
   exact uH q _ f
  ·have e:p.rz m k=InvImage (Ord (ES m) (p.dF (k-p.n0)) (p.WNx (k-p.n0))) (fun z:Zp=>(z.1.2,z.2)):=by funext d z;unfold rz;rw[if_neg (by omega),if_neg a];rfl
   rw[e];refine InvImage.accessible _ ?_;unfold Nc;rw[if_neg (by omega),if_neg a];exact TN (p.UN (k-p.n0)) _ _ _ rfl (h.wk (k-p.n0) (by omega)).2.1
def Some(p:Ph)(W:Nat->Prop)(j:Nat)(m:Machine)(t:Trace):Prop:=∃tag o bl c u xs l O D y w sl,m=crowd y w sl/\p.dV W j tag o bl c u xs l O D y w t
def Sm(p:Ph)(W:Nat->Prop)(j:Nat)(F:Nat)(m:Machine)(t:Trace):Prop:=∃tag o bl c u xs l O D y w sl a q,m=crowd y w sl/\MuAt p.tM p.Mu w a q/\a.Bits/\J3 j (fun k=>fD (c k)) q=F/\p.dV W j tag o bl c u xs l O D y w t
theorem YM{dU:Machine->Outcome->World->Trace->Prop}(hB:p.n<=p.B)(hV:∀k v,p.V v->p.V (p.f k v))(hn:p.n<2147483647){F:Nat}{mw:Wd}{q:Nat}(R:MuAt p.tM p.Mu w mw q)(hb:mw.Bits)(T:J3 j (fun k=>fD (c k)) q=F)(h:p.dV W j tag o bl c u xs l O D y w t):
  aH p.P dU (fun m t=>p.After W m t∨p.Some W (j+1) m t∨∃F',F'<F/\p.Sm W j F' m t) (crowd y w sl) t:=by
 refine aH.YN (r:=Prod.Lex (Vec (p.rz mw) (p.n0+j)) (· <·)) (J:=fun a m t=>∃tag o bl c u xs l O D y w sl q,a=(Nc p.n0 tag o c xs l,YL j bl u)/\m=crowd y w sl/\MuAt p.tM p.Mu w mw q/\J3 j (fun k=>fD (c k)) q=F/\p.dV W j tag o bl c u xs l O D y w t) ?_
  (a:=(Nc p.n0 tag o c xs l,YL j bl u)) (Prod.lexAccessible (I9 _ _ _ (h.acc mw)) (fun b=>Nat.lt_wfRel.wf.apply b) _) ⟨tag,o,bl,c,u,xs,l,O,D,y,w,sl,q,rfl,rfl,R,T,h⟩
 clear YM h R T tag o bl c u xs l O D y w sl t q;rintro a m t ⟨tag,o,bl,c,u,xs,l,O,D,y,w,sl,q,rfl,rfl,R,T,h⟩;obtain⟨i,g,d,E,hg,L,a1⟩:=h.pick (sl:=sl)
 rw[a1];have h':=h.at d
 have b3:=h.hn0
 right;right;rcases Nat.eq_zero_or_pos i with rfl|U
 ·have hb:bl=false:=by
   cases hb:bl with
   |false=>rfl
   |true=>
    have:=h.main
    rw[hb,hg]at this;cases this;cases L
  subst hb;have a5:∃m' M,runT p.P (crowd y (w.at d) E) 0=(.next m',M)/\p.tZ W j tag o c u xs l (w.at d) t m' M:=by
   by_cases hw:∃r s,tag=.sp r s
   ·obtain⟨r,s,rfl⟩:=hw
    exact h'.afB hB hn
   ·exact h'.LD hn fun r s e=>hw ⟨r,s,e⟩
  obtain⟨m',M,X,h2⟩:=a5
  refine⟨m',M,X,?_⟩;cases h2 with
  | @on z A H Y Q C Z D' e a6 ho hc=>
   refine .inr ⟨(Nc p.n0 Y Q c xs l,YL j false C),.left _ _ ⟨0,by omega,?_,fun k hk=>?_⟩,Y,Q,false,c,C,xs,l,Z,D',z,A,H,q,rfl,e,by unfold MuAt at R⊢;rw[a6];exact R,T,hc⟩
   ·unfold rz;rw[if_pos rfl];exact ho
   ·unfold Nc;rw[if_neg hk,if_neg hk]
  | @sleep z H Z D' e hc=>exact .inr ⟨(Nc p.n0 tag o c xs l,YL j true u),.right _ (by unfold YL;simp),tag,o,true,c,u,xs,l,Z,D',z,_,H,q,rfl,e,R,T,hc⟩
  | @more z A H r Q a7 C a8 Z D' e hc=>exact .inl (.inr (.inl ⟨.sp r 1,Q,false,a7,C,a8,l,Z,D',z,A,H,e,hc⟩))
  |join hc=>exact .inl (.inl hc)
 ·have a3:i<p.n0+j:=by rw[←h.size];exact(Array.getElem?_eq_some_iff.1 hg).1
  rcases Nat.lt_or_ge i p.n0 with X|X
  ·have hr:(l i).g.status=.running:=by have:=(h.lv i U X).1;rw[hg]at this;cases this;exact L
   obtain⟨z,N,C,Q,M,h2,h3,h4⟩:=h'.YJ (sl:=E) U X hr
   refine⟨_,M,h2,.inr ⟨(Nc p.n0 tag o c xs (upd l i Q),YL j N C),.left _ _ ⟨i,a3,?_,fun k hk=>?_⟩,tag,o,N,c,C,xs,upd l i Q,O,D,z,_,E,q,rfl,rfl,R,T,h4⟩⟩
   ·unfold rz;rw[if_neg (by omega),if_pos X];unfold Nc;rw[if_neg (by omega),if_pos X,if_neg (by omega),if_pos X,upd_same];exact h3
   ·unfold Nc;rw[upd_ne l _ hk]
  ·obtain⟨i,rfl⟩:∃i',i=p.n0+i':=⟨i-p.n0,by omega⟩
   have hi:i<j:=by omega
   have a2:u i=false:=by
    cases hb:u i with
    |false=>rfl
    |true=>have:=(h.wk i hi).1;rw[hb,hg]at this;cases this;cases L
   have hr:(xs i).g.status=.running:=by have:=(h.wk i hi).1;rw[a2,hg]at this;cases this;exact L
   rcases h'.stepW (sl:=E) hn hV hi a2 hr with⟨z,A,N,C,s',Q,Z,h2,h3,⟨b1,b2,a4,a0,n1,n2,n3,n4,n5⟩,h4⟩|⟨z,h2,h4⟩
   ·have a9:MuAt p.tM p.Mu (w.at d) mw q:=R
    obtain⟨rfl,rfl⟩:=MuAt.inj a9 n1 hb n2
    refine⟨_,(runT p.P (crowd y (w.at d) E) (p.n0+i)).2,Prod.ext h2 rfl,?_⟩;rcases n5 with n5|⟨rfl,n5,n6⟩
    ·exact .inl (.inr (.inr ⟨_,by rw[←T];exact n5,tag,o,N,_,C,_,l,Z,D,z,A,E,a4,a0,rfl,n3,n4,rfl,h4⟩))
    ·refine .inr ⟨(Nc p.n0 tag o (upd c i s') (upd xs i Q) l,YL j N C),.left _ _ ⟨p.n0+i,a3,?_,fun k hk=>?_⟩,tag,o,N,upd c i s',C,upd xs i Q,l,Z,D,z,A,E,a0,rfl,rfl,n3,by rw[n5];exact T,h4⟩
     ·unfold rz;rw[if_neg (by omega),if_neg (by omega)];unfold Nc;rw[if_neg (by omega),if_neg (by omega),if_neg (by omega),if_neg (by omega),Nat.add_sub_cancel_left,upd_same,upd_same];exact n6.imp (fun x=>⟨x,h3⟩) (fun x=>x)
     ·unfold Nc;by_cases e0:k=0
      ·rw[if_pos e0,if_pos e0]
      ·rw[if_neg e0,if_neg e0];by_cases e1:k<p.n0
       ·rw[if_pos e1,if_pos e1]
       ·rw[if_neg e1,if_neg e1,upd_ne c _ (by omega),upd_ne xs _ (by omega)]
   ·exact⟨_,(runT p.P (crowd y (w.at d) E) (p.n0+i)).2,Prod.ext h2 rfl,.inr ⟨(Nc p.n0 tag o c xs l,YL j bl (upd u i true)),.right _ (Vb hi a2),tag,o,bl,c,upd u i true,xs,l,O,D,z,_,E,q,rfl,rfl,R,T,h4⟩⟩
theorem YO{dU:Machine->Outcome->World->Trace->Prop}(b:p.n<=p.B)(d:∀k v,p.V v->p.V (p.f k v))(e:p.n<2147483647):∀(F:Nat) {m:Machine} {t:Trace},p.Sm W j F m t->aH p.P dU (fun m t=>p.After W m t∨p.Some W (j+1) m t) m t:=by
 intro F;induction F using Nat.strongRecOn with
 |_ F g=>
  rintro m t ⟨tag,o,bl,c,u,xs,l,O,D,y,w,sl,C,q,rfl,i,r,s,h⟩;refine(YM (dU:=dU) (sl:=sl) b d e i r s h).bind ?_;rintro m t (x|x|⟨z,a,x⟩)
  ·exact .here (.inl x)
  ·exact .here (.inr x)
  ·exact g z a x
theorem leads{dU:Machine->Outcome->World->Trace->Prop}(e:p.n<=p.B)(g:∀k v,p.V v->p.V (p.f k v))(i:p.n<2147483647):∀(k:Nat) {j:Nat} {m:Machine} {t:Trace},j+k=p.n->p.Some W j m t->aH p.P dU (p.After W) m t:=by
 intro k;induction k with
 |zero=>
  rintro j m t s ⟨tag,o,bl,c,u,xs,l,O,D,y,w,sl,rfl,h⟩;obtain⟨b,q,d,a,_⟩:=h.mi
  refine(YO (dU:=dU) e g i _ ⟨tag,o,bl,c,u,xs,l,O,D,y,w,sl,b,q,rfl,d,a.bits,rfl,h⟩).mono ?_;rintro m t (x|⟨tag,o,bl,c,u,xs,l,O,D,y,w,sl,rfl,z⟩)
  ·exact x
  ·have:=z.left
   cases tag<;>simp only[Dw]at this<;>omega
 |succ k C=>
  rintro j m t s ⟨tag,o,bl,c,u,xs,l,O,D,y,w,sl,rfl,h⟩;obtain⟨b,q,d,a,_⟩:=h.mi
  refine(YO (dU:=dU) e g i _ ⟨tag,o,bl,c,u,xs,l,O,D,y,w,sl,b,q,rfl,d,a.bits,rfl,h⟩).bind ?_;rintro m t (x|x)
  ·exact .here x
  ·exact C (by omega) x
end Ph
end Go.Mx
namespace Go.Mx
open Go.Ren
open Go.Conc hiding Goes mem_ofEvents
open Go.ConcN (sumTo upd upd_same upd_ne get_map_set get_map_set_same WgLive Deaf_absent)
open Go.Conc.Lib (WgLink)
open Go.ConcR (KK WgAt stA smA rd wr g_of_ofEvents loc_of_ofEvent)
namespace Ph
variable{p:Ph}{W U Z:Nat->Prop}{a:Pos}{o:Nat->Pos}{c:Array Goroutine}{g:Goroutine}{w:World}{sl:Option (Nat×Nat)}{m:Machine}{t:Trace}{dU:Machine->Outcome->World->Trace->Prop}
def W1(p:Ph)(W:Nat->Prop)(b:Nat):Prop:=W b∨b=p.Wg∨b=p.Mu
theorem begins(h:Al p.P W U p.n0 a o c w t)(s:U p.Wg)(u:U p.Mu)(F:p.Wg≠p.Mu)(H:a.O p.C)(hd:a.d=0)(J:p.J4 p.n (fun _=>False) (fun b=>a.O b/\b≠p.C) a.g a.w)(M:WgAt p.L.tWg p.Wg w 0 0)(N:MuAt p.tM p.Mu w ⟨0,0,0,0⟩ 0)
  (X:CellIs p.oe p.C p.v0 w) (Y:p.V p.v0):p.dV (p.W1 W) 0 (.sp p.n 1) {a with O:=fun b=>a.O b/\b≠p.C} false (fun _=>.work) (fun _=>false) (fun _=>a) o (xY fun b=>a.O b/\b≠p.C) rF c w t:=by
 have hN:=h.hN
 have Q:xY (fun b=>a.O b/\b≠p.C) 0=fun b=>a.O b/\b≠p.C:=by funext b;apply propext;exact⟨fun x=>x.2,fun x=>⟨rfl,x⟩⟩
 have z:p.kQ (.sp p.n 1) {a with O:=fun b=>a.O b/\b≠p.C}:=by
  have R:=h.D0
  generalize hn:p.n=n at J⊢;rcases n with _|n
  ·show dY p.P true p.I (XM p.Wg) a.D _ a.d (fun b=>a.O b/\b≠p.C) a.g a.w;rw[R,hd];exact J
  ·show dY p.P true p.I (XM p.Wg) a.D _ a.d (fun b=>a.O b/\b≠p.C) a.g a.w;rw[R,hd];exact J
 have A:¬(W p.C∨U p.C):=h.own.ow 0 p.C (by omega) ⟨rfl,H⟩
 have v:p.C<w.heap.size:=h.own.G9 0 p.C (by omega) ⟨rfl,H⟩
 have q:=h.rely
 refine⟨h.hN,h.size,h.main,fun e=>(by cases e),z,Q.symm,h.D0,⟨q.size,fun b r=>q.own b r.1,fun b r=>q.ro b (by have e:a.D b:=r;rw[h.D0]at e;exact e),q.os,q.output,q.tape⟩,h.deaf,fun i f=>absurd f (Nat.not_lt_zero _),fun i f=>absurd f (Nat.not_lt_zero _),fun i f=>absurd f (Nat.not_lt_zero _),fun i f=>absurd f (Nat.not_lt_zero _),fun i f=>absurd f (Nat.not_lt_zero _),fun k h1 h2=>?_,?_,?_,
  ⟨.inr (.inl rfl),.inr (.inr rfl),F,?_,v⟩,fun _=>?_,fun i f=>absurd f (Nat.not_lt_zero _),?_,fun i f=>absurd f (Nat.not_lt_zero _),h.norel,⟨_,_,N,?_,fun i f=>absurd f (Nat.not_lt_zero _)⟩,⟨0,0,M,?_⟩,rfl⟩
 ·obtain⟨a1,a2,a3,a4⟩:=h.lv k h1 h2
  exact⟨a1,a2,a3,a4.widen fun b r=>.inl r⟩
 ·have:=h.ti.share (S:=fun b=>b=p.Wg∨b=p.Mu) (fun i op x f B hS=>by
   have:touchAt t i=some x:=by rw[touchAt_of f];exact B
   exact absurd (jf (fun b (r:b=p.Wg∨b=p.Mu)=>r.elim (fun e=>e▸s) (fun e=>e▸u)) hS) (h.unt i x this))
  exact this.less (fun i b r=>⟨r.1,r.2.1⟩) (fun i b r=>.inl r)
 ·refine⟨fun i k b f T x y=>x.1.trans y.1.symm,fun _ _ _ _ _ _ x=>x,fun i b f E B=>?_,fun _ _ _ x=>x.elim,fun i b f x=>h.own.G9 i b f ⟨x.1,x.2.1⟩,fun _ _ _ x=>x.elim,fun b r=>?_⟩
  ·rcases B with(B|rfl|rfl)|⟨_,rfl⟩
   ·exact h.own.ow i b f ⟨E.1,E.2.1⟩ (.inl B)
   ·exact h.own.ow i _ f ⟨E.1,E.2.1⟩ (.inr s)
   ·exact h.own.ow i _ f ⟨E.1,E.2.1⟩ (.inr u)
   ·exact E.2.2 rfl
  ·rcases r with(B|rfl|rfl)|⟨_,rfl⟩
   ·exact h.own.wV b (.inl B)
   ·exact h.own.wV _ (.inr s)
   ·exact h.own.wV _ (.inr u)
   ·exact v
 ·rintro(x|e|e)
  ·exact A (.inl x)
  ·exact A (.inr (e▸s))
  ·exact A (.inr (e▸u))
 ·exact FreeTok.one fun l hl=>h.ti.own 0 (by omega) l (jf (fun b (r:b=p.C)=>⟨rfl,r▸H⟩) hl)
 ·exact⟨[],List.nodup_nil,fun k=>by simp,Y,fun k T=>absurd T (Nat.not_lt_zero _),fun _=>X⟩
 ·exact⟨⟨by decide,by decide,by decide⟩,Nat.zero_le _,rfl,fun _=>⟨rfl,rfl,rfl⟩,fun e=>(by cases e),fun _ _ _ e=>absurd e (Nat.not_lt_zero _),fun i f=>absurd f (Nat.not_lt_zero _)⟩
 ·have:=Md.opn (j:=0) (st:=fun _=>8) (tag:=.sp p.n 1) trivial (fun i f=>absurd f (Nat.not_lt_zero _)) trivial
  have e:Vn 0 (fun _=>8)+mX (.sp p.n 1)=0:=by generalize p.n=n;rcases n with _|n<;>rfl
  rw[e]at this;show Md 0 (fun _=>8) (.sp p.n 1) 0 0;simpa using this
def abW(p:Ph)(W:Nat->Prop)(m:Machine)(t:Trace):Prop:=
 ∃(w:World) (d:Goroutine) (O D:Nat->Nat->Prop) (order:List Nat),At p.P (p.W1 W) (fun _=>False) (p.W1 W) (p.n0+p.n) 0 d w m t/\p.Fin (D 0) (O 0) d w/\
  Own (fun b=>p.W1 W b∨b=p.C) O D (p.n0+p.n) w.heap.size/\order.Nodup/\(∀i,i∈order↔i<p.n/\p.locks i=true)/\p.V (p.fold order)/\CellIs p.oe p.C (p.fold order) w
theorem phase(hB:p.n<=p.B)(hV:∀k v,p.V v->p.V (p.f k v))(hn:p.n<2147483647)(u:U p.Wg)(z:U p.Mu)(A:p.Wg≠p.Mu)(hC:full Z w p.C)(hs:p.J4 p.n (fun _=>False) (fun b=>full Z w b/\b≠p.C) g w)(E:WgAt p.L.tWg p.Wg w 0 0)(F:MuAt p.tM p.Mu w ⟨0,0,0,0⟩ 0)
  (hc:CellIs p.oe p.C p.v0 w) (hv:p.V p.v0) (h:At p.P W U Z p.n0 0 g w m t):aH p.P dU (p.abW W) m t:=by
 obtain⟨o,c,q,sl,rfl,l⟩:=h
 have hN:=l.hN
 obtain⟨d,hw⟩:=l.same
 have H:q=w.at d:=hw
 subst H;have co:=begins l u z A hC rfl hs E F hc hv
 refine(leads (dU:=dU) hB hV hn p.n (Nat.zero_add p.n) ⟨_,_,_,_,_,_,_,_,_,_,_,sl,rfl,co⟩).bind ?_;rintro m t ⟨c,w,sl,g,gT,o,O,D,order,rfl,h1,h2,h3,h4,h5,h6,h7,Y,h9,J,M,N,Q,R⟩;have T:At p.P (p.W1 W) (fun _=>False) (p.W1 W) (p.n0+p.n) 0 g w (crowd c w sl) t:=by
  refine⟨o,c,w,sl,rfl,by omega,h1,h2,rfl,⟨w.drawn,rfl⟩,h5,h6,?_,?_,fun i x _ hU=>?_,fun _ _ x=>x,J⟩
  ·refine h7.less (fun i b r=>?_) (fun i b r=>.inl r);exact⟨r.1,r.2.1,r.2.2⟩
  ·refine⟨fun i j b _ _ x y=>x.1.trans y.1.symm,fun _ _ _ _ _ _ x=>x,fun i b _ x y=>y.elim x.2.2 id,fun _ _ _ x=>x.elim,fun i b _ x=>x.2.1,fun _ _ _ x=>x.elim,fun b x=>x.elim (fun y=>Y.wV b (.inl y)) False.elim⟩
  ·revert hU;cases x.loc<;>exact id
 have hX:XAl (p.W1 W) (XM p.Wg):=by refine⟨fun e X=>?_,fun e X=>DI X⟩;exact(YK (w:=w) (W:=p.W1 W) (.inr (.inl rfl)) (Vd h9) X).1
 refine(T.idle hX (I:=Lv p.L p.Wg) (fun d=>⟨0,0,h9⟩) h3).mono ?_;rintro m t ⟨d',g',⟨rfl,rfl⟩,s⟩;exact⟨w,_,O,D,order,s,h4,Y,M,N,Q,R⟩
end Ph
end Go.Mx
namespace Go.Mx
open Go.Ren Go.Sy
open Go.Conc hiding Goes
open Go.Conc.Locks
open Go.ConcR (stA smA)
section
variable{P:Program}{I:World->Prop}{tM:TypeId}{Mu B:Nat}{T a X X':Goroutine->Prop}{d:Nat}{g:Goroutine}
theorem yX{b:Array Event}(c:∀g,T g->a g)(h:Says P false I b T g):Says P false I b a g:=by
 obtain⟨e,f,i,j⟩:=h
 exact⟨e,f,i,c _ j⟩
theorem EnQ.mono(b:∀g,T g->a g)(h:EnQ P I Mu T d g):EnQ P I Mu a d g:=
 ⟨h.1,yX (fun g h=>h.mono fun d g k=>⟨k.1,yX b k.2⟩) h.2⟩
end
namespace Ph
variable{p:Ph}{L:ag}{O D:Nat->Prop}{i:Nat}{w:World}
theorem sees:afp p.I p.Mu:=fun w a=>by
 obtain⟨m,q,b⟩:=a.2;exact⟨.int .i32 m,by simp[World.cell?,mA,b]⟩
theorem reads:Reads p.I p.Mu:=fun w a=>by
 obtain⟨m,q,b⟩:=a.2;exact⟨m,by simp[World.cell?,mA,b]⟩
theorem UL.later{b:World}{g:Goroutine}(h:p.UL i O D w g)(c:aB O D w b):p.UL i O D b g:=fun a v d e f j k l=>h a v (c.trans d) e f j k l
theorem Ve(H:fC p.P L)(y:p.B<63)(z:p.locks i=true){t:Nat}{b:Frame}{ds:List Deferred}{cs:List Frame}{s:S}{A:Array Value}(E:aX t s=some (L.mu.lock,[some (.v 0)]))(F:A.size=t)(J:Agree (Go.Mx.n0 p.Mu) s.env A)(M:b.kind≠.early)
  (o:∀j,aB O D w j->p.UL i O D j (G ((b.at ⟨A,ds⟩ s.todo).finish (.tuple #[])) cs)):dY p.P false p.I X0 D (p.WLk i D) 0 O (G (b.at ⟨A,ds⟩ s.todo) cs) w:=by
 have N:∀a,aB O D w a->∀g,af p.P false p.I X0 (fun d g=>d=0/\g=G ((b.at ⟨A,ds⟩ s.todo).finish (.tuple #[])) cs) 0 g->p.UL i O D a g:=fun a f g l j v m Q c R T U=>by
  have:=l.wkD (I':=p.I) (D:=D) (O:=fun b=>O b∨b=p.C) (w:=j) fun _ x=>x
  refine this.bind ?_;rintro W X Y n ⟨⟨rfl,rfl⟩,rfl,e⟩;have q:aB O D j n:=⟨e.size,fun b Z=>e.own b (.inl Z),e.ro,e.os,e.output,e.tape⟩
  refine o a f n v (m.trans q) Q ?_ R T (Nat.lt_of_lt_of_le U e.size);unfold CellIs at c⊢;rw[e.own p.C (.inr rfl)];exact c
 have r:=N w ⟨Nat.le_refl _,fun _ _=>rfl,fun _ _=>rfl,.rfl,rfl,rfl⟩
 have h:=(abJ (tM:=p.tM) (B:=p.B) H y (sees (p:=p)) E F J M r).wkD (I':=p.I) (D:=D) (O:=O) (w:=w) fun _ x=>x
 refine h.bind ?_;rintro W X Y j ⟨⟨rfl,u⟩,rfl,e⟩;refine .stop ⟨u.1,.inl ⟨rfl,z,yX (fun g l=>?_) u⟩⟩;exact l.exit fun d g he=>he.mono fun d g k=>EnQ.mono (fun g l=>UL.later l e) k
theorem LG(H:fC p.P L)(l:p.B<63){v:dm}{sz:Nat}{b:Frame}{ds:List Deferred}{cs:List Frame}{A:Array Value}{todo:List Item}(h:CellIs p.oe p.C (p.f i v) w)
  (n:af p.P false (Lv p.L p.Wg) X0 (iP p.P p.L p.Wg) 0 (G {b.at ⟨A,ds⟩ todo with mode:=.returning} cs)):
  p.CrS i v D 0 O (G {b.at ⟨A,dcall L.mu.unlock #[.pointer (some ⟨p.Mu,0,none⟩)]::ds⟩ todo with mode:=.returning} cs) w:=by
 have o:(baseD L.mu.unlock).kind≠.early:=by simp[baseD]
 refine⟨rfl,rfl,h,_,#[],fun w m q _ _=>stepG_unwind_enter (c:=NQ L) rfl H.lib.f_unlock (by kernel_rfl) (akH L),by simp,rfl,?_⟩;refine U1 (tM:=p.tM) (B:=p.B) (I':=Lv p.L p.Wg) (X:=af p.P false (Lv p.L p.Wg) X0 (iP p.P p.L p.Wg) 0) H l (reads (p:=p)) o (fun g r=>?_) (b:=baseD L.mu.unlock) (cs:={b.at ⟨A,ds⟩ todo with mode:=.returning}::cs) ⟨_,?_,fun j x k=>?_,rfl⟩
 ·refine r.bind ?_;rintro d g ⟨rfl,s,_,_,rfl⟩;refine .step rfl (fun _=>_) (fun _=>#[]) (fun w _=>⟨stepG_end,by simp⟩) fun w _=>?_
  refine .step rfl (fun _=>_) (fun _=>#[]) (fun w _=>⟨stepG_leave_deferred (b:=baseD L.mu.unlock) (a:=⟨s,[]⟩) rfl rfl H.lib.f_unlock (results_none (by kernel_rfl) _ _ w) (events_results_none (by kernel_rfl) _ _) rfl,by simp⟩) fun w _=>?_
  exact n
 ·rfl
 ·unfold ulE fresh Go.Sy.get at k;split at k
  ·rename_i e;cases k;have:0=j:=by simpa using e
   subst this;exact congrArg some (jW.symm:_=(E.v 0).den (Go.Mx.n0 p.Mu))
  ·cases k
end Ph
end Go.Mx
namespace Go.Am
open Go.Conc (born QuitsD G dcall)
open Go.Conc.Lib
open Go.ConcR (WgAt)
open Go.Ren (grow gU aT aB Wk dY Idle af X0 Lv iP)
open Go.Mx (CellIs dm ag fC)
def AH.tell(h:AH)(b:Nat)(v:dm):AH:={h with tr:=h.tr.set b ⟨.cells v 0 (0,0),none,false,0⟩}
section
variable{P:Program}{a σ:Env}{O O' D D':Nat->Prop}{h h':AH}{w w':World}{b:Nat}{B:cZ}{v:dm}
theorem Ja(x:Nat):(h.tell b v).tr.get x=if x=b then some ⟨.cells v 0 (0,0),none,false,0⟩else h.tr.get x:=by
 unfold AH.tell;simp only[Tr.dW]
theorem Vf(x:Nat):(h.tell b v).look x=if x=b then some ⟨.cells v 0 (0,0),none,false,0⟩else h.look x:=by
 unfold AH.look;rw[Ja];by_cases e:x=b
 ·rw[if_pos e,if_pos e]
 ·rw[if_neg e,if_neg e];rfl
theorem Rel.tell(r:Rel a O D h w)(hb:a.born b)(hl:h.look b=none)(M:¬a.bg b)(hv:∀x∈v,Plain x)(hc:CellIs ((a.to b).2,a.ext b) (a.to b).1 v w)(hO:¬O (a.to b).1)(hD:¬D (a.to b).1):Rel a (fun x=>O x∨x=(a.to b).1) D (h.tell b v) w:=by
 have s:∀x C,(h.tell b v).look x=some C->(x=b/\C=⟨.cells v 0 (0,0),none,false,0⟩)∨(x≠b/\h.look x=some C):=fun x C d=>by
  rw[Vf]at d;split at d
  ·rename_i e;cases d;exact .inl ⟨e,rfl⟩
  ·rename_i e;exact .inr ⟨e,d⟩
 have apart:∀x C,a.born x->h.look x=some C->(a.to x).1≠(a.to b).1:=fun x C j d e=>by
  rcases(r.own x C j d).2 with k|k
  ·exact hO (e▸k)
  ·exact hD (e▸k)
 have t:∀f l,h.dn.get f=some l->b∉l:=fun f l U V=>by
  obtain⟨W,C,N,Q⟩:=r.mem f l U b V
  have:h.look b=some C:=by
   unfold AH.look;rw[N];dsimp only
   rw[Q];dsimp only
   rw[U];simp[V]
  rw[hl]at this;cases this
 refine⟨fun x C c e f j d F=>?_,fun x C j d F=>?_,fun x C j d=>?_,fun x y C R j L d T o p=>?_,r.fresh,r.low,fun x C j d=>?_,fun f l q=>?_,fun f l q x j=>?_⟩
 ·rcases s x C d with⟨rfl,rfl⟩|⟨o,d⟩
  ·cases F;obtain⟨A,E,c1,c2,c3,c4⟩:=hc
   refine⟨A,E,(0,0),c1,c2,c3,fun _=>rfl,fun i u X=>⟨u,c4 i u X,(hv u (Array.mem_of_getElem? X)).vr a⟩⟩
  ·exact r.cells x C c e f j d F
 ·rcases s x C d with⟨rfl,rfl⟩|⟨o,d⟩
  ·exact absurd rfl (F _ _ _)
  ·exact r.obj x C j d F
 ·rcases s x C d with⟨rfl,rfl⟩|⟨o,d⟩
  ·exact⟨fun _=>.inr rfl,.inl (.inr rfl)⟩
  ·obtain⟨o1,o2⟩:=r.own x C j d
   exact⟨fun z=>.inl (o1 z),o2.imp .inl id⟩
 ·rcases s x C d with⟨Y,_⟩|⟨Z,H⟩<;>rcases s y R T with⟨ey,_⟩|⟨a0,J⟩
  ·exact absurd (Y.trans ey.symm) o
  ·exact absurd (Y▸p.symm) (apart y R L J)
  ·exact absurd (ey▸p) (apart x C j H)
  ·exact r.sep x y C R j L H J o p
 ·rcases s x C d with⟨rfl,rfl⟩|⟨o,d⟩
  ·exact⟨⟨fun z=>absurd z M,fun z=>absurd rfl z⟩,fun z=>absurd rfl z⟩
  ·exact r.bg x C j d
 ·have m:h.dn.get f=some l:=q
  have up:∀x∈l,∀n,(h.tell b v).upTo a x n->h.upTo a x n:=fun x j n u=>by
   obtain⟨C,c,e,g,h1,h2,h3⟩:=u
   rw[Ja,if_neg (fun(ee:x=b)=>t f l m (ee▸j))]at h1;exact⟨C,c,e,g,h1,h2,h3⟩
  exact List.Pairwise.imp_of_mem (fun{x y} j L hp b1 b2 M n n' u1 u2=>hp b1 b2 M n n' (up x j n u1) (up y L n' u2)) (r.row f l m)
 ·have m:h.dn.get f=some l:=q
  obtain⟨W,C,N,Q⟩:=r.mem f l m x j
  refine⟨W,C,?_,Q⟩;rw[Ja,if_neg (fun(ee:x=b)=>t f l m (ee▸j))];exact N
theorem Rel.YP(r:Rel a O D h w)(d:a.born b)(j:h.look b=some B)(k:¬B.Xc){e:TypeId}{f:Nat×Nat}(l:B.obj=.cells v e f)(m:∀x∈v,Plain x):CellIs ((a.to b).2,a.ext b) (a.to b).1 v w:=by
 obtain⟨C,E,g,n,o,p,q,s⟩:=r.cells b B v e f d j l
 have t:=q k
 subst t;refine⟨C,E,n,o,p,fun i x c=>?_⟩;obtain⟨z,u,y⟩:=s i x c
 rw[u,(m x (Array.mem_of_getElem? c)).eq y]
theorem Rel.abX(r:Rel a O D h w)(c:a.born b)(d:h.look b=some B)(e:B.gB=none):¬a.bg b:=fun z=>(r.bg b B c d).1.1 z e
def AS.tell(s:AS)(b:Nat)(v:dm):AS:=⟨s.fr,s.cs,s.h.tell b v⟩
theorem mJ.tell{base:List Frame}{s:AS}{g:Goroutine}(S:mJ P a O D base s g w)(hd:aP s.fr=true)(d:a.born b)(i:s.h.look b=none)(j:¬a.bg b)(m:∀x∈v,Plain x)(n:CellIs ((a.to b).2,a.ext b) (a.to b).1 v w)(o:¬O (a.to b).1)(p:¬D (a.to b).1):
  mJ P a (fun x=>O x∨x=(a.to b).1) D base (s.tell b v) g w:=by
 obtain⟨⟨q,f,r,t,u,y,z⟩,c⟩:=S
 refine⟨⟨q,f,r,t,u,.plain (y.f0 fun A l k e=>?_),z⟩,c.tell d i j m n o p⟩;unfold aP at hd;rw[e]at hd;cases hd
theorem TP{x:FuncId}{y:Deferred}{j Wg:Nat}(m:a.to j=(Wg,0))(h:DR a {target:=.fn (.func x) #[],args:=#[.pointer (some ⟨j,0,none⟩)]} y):y=dcall x #[.pointer (some ⟨Wg,0,none⟩)]:=by
 obtain⟨k,d⟩:=h
 obtain⟨q,e⟩:=y
 dsimp only at k d;cases k with
 |fn f n=>
  cases f;rename_i c;have g:c=#[]:=Array.eq_empty_of_size_eq_zero (by have:=n.1;simpa using this.symm)
  subst g;have o:e.size=1:=by have:=d.1;simpa using this.symm
  obtain⟨v,rfl⟩:∃v,e=#[v]:=by refine⟨e[0],?_⟩;apply Array.ext (by simp[o]);intro i s l;simp at l;subst l;rfl
  have:=d.2 0 _ v rfl rfl;cases this with
  |ptr t=>simp[Env.addr,m,dcall]
end
end Go.Am
namespace Go.Am
open Go.Conc.Lib
open Go.Ren (grow gU aT aB Wk At aH Keep full)
noncomputable section
def YQ(P:Program)(pl:bI)(T:Tr TI)(c:Tr Func)(n i:Nat)(s:AS):Option AS:=match aI P pl (some i) ⟨s.fr,[],s.h⟩with
 |some (.go a)=>match jb P pl T c n a with
  | .inl b=>some b
  | .inr _=>none
 |_=>none
def lV(P:Program)(pl:bI)(T:Tr TI)(b:Tr Func)(n:Nat)(s:AS)(i:Nat):Option Nat:=match YQ P pl T b n i s with
 |some a=>match Di a with
  |some o=>some ((execOp (ay a.fr.tmps) o).arity P a.h)
  |none=>none
 |none=>none
def aj(P:Program)(pl:bI)(T:Tr TI)(e:Tr Func)(n d:Nat)(g:Bool)(l:List Nat)(i:Nat)(s:AS)(j:Nat):Option AS:=match s.cs with
 |c::f=>match YQ P pl T e n i s with
  |some a=>match aI P pl (some j) a with
   |some (.go b)=>match explore P pl T e n d b with
    |some L=>bif g then o8 P c f l L else merge P c f l L
    |none=>none
   |_=>none
  |none=>none
 | []=>none
def P2(P:Program)(pl:bI)(T:Tr TI)(b:Tr Func)(n d:Nat)(c:Bool)(l:List Nat)(s s':AS)(i:Nat)(a:List Nat):Prop:=a.map (aj P pl T b n d c l i s)=a.map fun _=>some s'
end
section
variable{P:Program}{F:Nat->Prop}{w₀:World}{base:List Frame}{s s':AS}{pl:bI}{l:List Nat}{L:WgLink}{m:Machine}{t:Trace}{dU:Machine->Outcome->World->Trace->Prop}{T:Tr TI}{c:Tr Func}{n d i:Nat}{e:Bool}
theorem P2.app{a b:List Nat}(h:P2 P pl T c n d e l s s' i a)(k:P2 P pl T c n d e l s s' i b):P2 P pl T c n d e l s s' i (a++b):=by
 unfold P2 at h k⊢;rw[List.map_append,List.map_append,h,k]
theorem P2.at{a:List Nat}(h:P2 P pl T c n d e l s s' i a){j:Nat}(b:j∈a):aj P pl T c n d e l i s j=some s':=by
 unfold P2 at h;exact List.map_inj_left.1 h j b
end
end Go.Am
namespace Go.Am
open Go.Conc.Lib
open Go.Ren (grow gU aT aB Wk X0 At full aH Keep)
structure Way(P:Program)(K:AS->Prop)(s:AS):Prop where
 go:∀{m:Bool} {I:World->Prop} {X:Event->Prop} {D:Nat->Prop} {base:List Frame} {ρ:Env} {O:Nat->Prop} {g:Goroutine} {w:World},mJ P ρ O D base s g w->
  Wk P m I X D (fun O' g' w'=>∃(σ:Env) (s':AS),K s'/\ρ.Le σ/\mJ P σ O' D base s' g' w') O g w
section
variable{P:Program}{A y:Env}{F W U Z:Nat->Prop}{N:Nat}{w u:World}{g:Goroutine}{base:List Frame}{s s':AS}{pl:bI}{c:aN}{p:List aN}{l:List Nat}{K M:AS->Prop}
 {L:WgLink} {m:Machine} {t:Trace} {dU:Machine->Outcome->World->Trace->Prop} {T:Tr TI} {z:Tr Func}
theorem bJ.way[aO P](k:bJ P pl K s):Way P K s:=⟨fun S=>jk k S⟩
theorem Way.bind(k:Way P K s)(l:∀s,K s->Way P M s):Way P M s:=by
 refine⟨fun S=>(k.go S).bind ?_⟩;rintro d e f ⟨y,a,n,o,q⟩;refine((l a n).go q).mono ?_;rintro h i j ⟨r,b,v,x,B⟩;exact⟨r,b,v,o.trans x,B⟩
theorem Way.then(k:Way P (· =s') s)(l:Way P M s'):Way P M s:=k.bind fun _ e=>by subst e;exact l
theorem Way.forget(l:List Nat)(hd:aP s.fr=true):Way P (· =⟨s.fr,s.cs,s.h.forget l⟩) s:=⟨fun S=>.stop ⟨_,_,rfl,.refl _,S.forget l hd⟩⟩
theorem Way.stepS[aO P](H:aZ P T)(KF:gq P z){n:Nat}(e:stepS P pl T z n l s=some s'):Way P (· =s') s:=by
 unfold Go.Am.stepS at e;split at e
 ·rename_i b a;split at e
  ·rename_i hd;cases e;exact(jo H KF n a).way.bind fun _ e=>by subst e;exact Way.forget l hd
  ·cases e
 ·cases e
theorem Way.abY[aO P](C:s.cs=c::p)(hq:jC P pl (fun v h=>∃n,(v,h)∈n/\(merge P c p l n=some s'∨o8 P c p l n=some s')) ⟨s.fr,[],s.h⟩):Way P (· =s') s:=by
 have hr:=jC.under (c:=c) (cs:=p) (K:=fun q=>∃x n,x∈n/\(merge P c p l n=some s'∨o8 P c p l n=some s')/\∃a,aA P c x.2 x.1=some a/\q=⟨a,p,x.2⟩) hq fun v h R=>by
  obtain⟨n,R,d⟩:=R
  have r:∃a,aA P c h v=some a:=by
   rcases d with d|d
   ·obtain⟨a,V,_⟩:=CJ d _ R
    exact⟨a,V⟩
   ·obtain⟨Y,i,rest,k,d',X⟩:=IC d
    exact⟨_,KR X h v⟩
  obtain⟨a,r⟩:=r
  exact⟨a,r,.here ⟨(v,h),n,R,d,a,r,rfl⟩⟩
 have e:(⟨s.fr,[]++c::p,s.h⟩:AS)=s:=by
  obtain⟨fr,ss,hh⟩:=s
  dsimp only at C;subst C;rfl
 rw[show(⟨(⟨s.fr,[],s.h⟩:AS).fr,(⟨s.fr,[],s.h⟩:AS).cs++c::p,(⟨s.fr,[],s.h⟩:AS).h⟩:AS)=s from e]at hr;refine hr.way.bind ?_;rintro q ⟨x,n,D,d,a,r,rfl⟩;rcases d with d|d
 ·obtain⟨a',V,h2,h3⟩:=CJ d x D
  rw[r]at V;cases V;rw[h3];exact Way.forget (s:=⟨a,p,x.2⟩) l h2
 ·unfold o8 at d;split at d
  ·rename_i b n' a6 a3 E;split at d
   ·rename_i B hB;split at d
    ·rename_i cc e f H;split at d
     ·rename_i Y i rest k d' X;split at d
      ·rename_i J;cases d;rw[KR X]at r;cases r;have j:=(List.all_eq_true.1 J) x D
       unfold XK at j;split at j
       ·rename_i b' a4 a5 a0;simp only[Bool.and_eq_true,beq_iff_eq]at j;obtain⟨⟨⟨rfl,rfl⟩,O⟩,o⟩:=j
        split at o
        ·rename_i B' a1;simp only[Bool.and_eq_true,beq_iff_eq]at o;obtain⟨⟨⟨⟨q1,q2⟩,q3⟩,q4⟩,q5⟩:=o
         have Q:=Gs q1
         rw[a0];refine⟨fun S=>?_⟩;have a2:=fun hx=>Nat.lt_irrefl _ (S.2.fresh _ hx)
         have k4:=S.move (l:=l) X a1 ⟨cc,e,f,Q.trans H⟩ q5
         rw[abr (b:=b) (b':=b') O Q q2 q3 q4]at k4;refine .stop ⟨_,_,?_,Env.jA a2,k4⟩;rw[←BA O]
        ·cases o
       ·cases j
      ·cases d
     ·cases d
    ·cases d
   ·cases d
  ·cases d
theorem Way.firsts[aO P]{q:Nat}{Q:Value->AH->Prop}(e:jc P s=some q)(h0:q≠0)(k:∀i,i<q->∃a,aI P pl (some i) ⟨s.fr,[],s.h⟩=some (.go a)/\jC P pl Q a):jC P pl Q ⟨s.fr,[],s.h⟩:=by
 unfold jc at e;split at e;rotate_left
 ·cases e
 rename_i o n;cases e;have all:∀i,∃a,aI P pl (some i) ⟨s.fr,[],s.h⟩=some (.go a)/\jC P pl Q a:=by
  intro i;have r:=yI (P:=P) (pl:=pl) n i
  obtain⟨a,b,f⟩:=k _ (Nat.mod_lt i (Nat.pos_of_ne_zero h0))
  exact⟨a,r.trans b,f⟩
 refine .step (fun i=>let⟨a,h,_⟩:=all i;⟨_,h⟩) (fun i a j=>?_) fun i v h j=>?_
 ·obtain⟨d,b,f⟩:=all i
  rw[j]at b;cases b;exact f
 ·obtain⟨d,b,f⟩:=all i
  rw[j]at b;cases b
theorem Way.wI[aO P](K:aZ P T)(KF:gq P z){n d q r:Nat}{mv:Bool}(hq:jc P s=some q)(h0:q≠0)(hr:(List.range q).map (lV P pl T z n s)=(List.range q).map fun _=>some r)(r0:r≠0)(hp:∀i,i<q->P2 P pl T z n d mv l s s' i (List.range r)):Way P (· =s') s:=by
 have J:∀i,i<q->∀j,j<r->aj P pl T z n d mv l i s j=some s':=fun i Y j O=>(hp i Y).at (List.mem_range.2 O)
 have f:∃c p,s.cs=c::p:=by
  have:=J 0 (Nat.pos_of_ne_zero h0) 0 (Nat.pos_of_ne_zero r0)
  unfold aj at this;split at this
  ·exact⟨_,_,by assumption⟩
  ·cases this
 obtain⟨c,p,f⟩:=f
 refine Way.abY (pl:=pl) (l:=l) (s':=s') f (Way.firsts hq h0 fun i Y=>?_);have H:lV P pl T z n s i=some r:=List.map_inj_left.1 hr i (List.mem_range.2 Y);unfold lV at H;split at H;rotate_left
 ·cases H
 rename_i b o;split at H;rotate_left
 ·cases H
 rename_i Q B;have a0:(execOp (ay b.fr.tmps) Q).arity P b.h=r:=by simpa using H
 have O:∀j,j<r->∃a,aI P pl (some j) b=some (.go a)/\jC P pl (fun v h=>∃k,(v,h)∈k/\(merge P c p l k=some s'∨o8 P c p l k=some s')) a:=by
  intro j O;have:=J i Y j O
  unfold aj at this;rw[f]at this;dsimp only at this;rw[o]at this;dsimp only at this;split at this
  ·rename_i a R;split at this
   ·rename_i k C;refine⟨a,R,(sS K KF d C).mono fun v h hv=>⟨k,hv,?_⟩⟩;cases mv with
    |false=>exact .inl this
    |true=>exact .inr this
   ·cases this
  ·cases this
 have e:∀j,∃a,aI P pl (some j) b=some (.go a)/\jC P pl (fun v h=>∃k,(v,h)∈k/\(merge P c p l k=some s'∨o8 P c p l k=some s')) a:=by
  intro j;have hm:=yI (P:=P) (pl:=pl) B j
  rw[a0]at hm;obtain⟨a,D,h2⟩:=O _ (Nat.mod_lt j (Nat.pos_of_ne_zero r0))
  exact⟨a,hm.trans D,h2⟩
 unfold YQ at o;split at o
 ·rename_i V E;refine⟨V,E,?_⟩;split at o
  ·rename_i a1 hf;cases o;refine qg K KF n (fun x C=>?_) fun v h C=>?_
   ·rw[hf]at C;cases C;refine .step (fun j=>let⟨a,h,_⟩:=e j;⟨_,h⟩) (fun j a R=>?_) fun j v h R=>?_
    ·obtain⟨X,D,h2⟩:=e j
     rw[R]at D;cases D;exact h2
    ·obtain⟨X,D,h2⟩:=e j
     rw[R]at D;cases D
   ·rw[hf]at C;cases C
  ·cases o
 ·cases o
theorem St.way(S:St P base W U Z N A s g w m t)(k:Way P K s):
  aH P dU (fun m t=>∃(y:Env) (s':AS) (b:Goroutine) (a:World),K s'/\A.Le y/\St P base W U Z N y s' b a m t/\Keep Z w a) m t:=by
 refine(Go.Ren.At.wk2 (k.go (X:=X0) (I:=fun _=>True) (m:=true) S.Na) S.lt rfl S.at_).mono ?_;rintro m t ⟨b,a,d,⟨y,s',f,h,i⟩,e⟩;exact⟨y,s',b,a,f,h,⟨d,i,e.lt S.lt⟩,e⟩
theorem Sd.way(S:Sd P base F u W U Z N A s g w m t)(k:Way P K s):
  aH P dU (fun m t=>∃(y:Env) (s':AS) (b:Goroutine) (a:World),K s'/\A.Le y/\Sd P base F u W U Z N y s' b a m t/\Keep Z w a) m t:=by
 refine(S.st.way k).mono ?_;rintro m t ⟨y,s',b,a,e,f,h,d⟩;exact⟨y,s',b,a,e,f,⟨h,S.wu,S.fz,S.UC,S.Ky d⟩,d⟩
theorem bK.way{ph:Ph}(k:Way P (· =s') s)(S:bK P L base F u ph s m t):aH P dU (bK P L base F u .idle s') m t:=by
 obtain⟨W,U,Z,N,A,g,w,S,d⟩:=S
 refine(S.way k).mono ?_;rintro m t ⟨y,a,e,f,rfl,h,b,i⟩;exact⟨_,_,_,_,_,_,_,b,trivial⟩
end
noncomputable section
def Vg(P:Program)(b:bI)(T:Tr TI)(d:Tr Func)(c:aN)(cs:List aN)(n:Nat)(l:List Nat)(x:Value×AH):Option AS:=match aA P c x.2 x.1 with
 |some a=>stepS P b T d n l ⟨a,cs,x.2⟩
 |none=>none
def eG(P:Program)(e:bI)(T:Tr TI)(f:Tr Func)(n d a:Nat)(l:List Nat)(i:Nat)(s:AS):Option (List (Option AS)):=match s.cs with
 |c::g=>match aI P e (some i) ⟨s.fr,[],s.h⟩with
  |some (.go b)=>match explore P e T f n d b with
   |some L=>some (L.map (Vg P e T f c g a l))
   |none=>none
  |_=>none
 | []=>none
end
section
variable{P:Program}{s s':AS}{b:bI}{l:List Nat}{T:Tr TI}{f:Tr Func}
theorem Way.yY[aO P](K:aZ P T)(KF:gq P f){n d j q:Nat}(A:jc P s=some q)(h0:q≠0)(y:∀i,i<q->∃k,eG P b T f n d j l i s=some (List.replicate k (some s'))):Way P (· =s') s:=by
 have o:∃c g,s.cs=c::g:=by
  obtain⟨k,h⟩:=y 0 (Nat.pos_of_ne_zero h0)
  unfold eG at h;split at h
  ·exact⟨_,_,by assumption⟩
  ·cases h
 obtain⟨c,g,o⟩:=o
 have u:jC P b (fun v h=>Vg P b T f c g j l (v,h)=some s') ⟨s.fr,[],s.h⟩:=Way.firsts A h0 fun i B=>by
  obtain⟨k,h⟩:=y i B
  unfold eG at h;rw[o]at h;dsimp only at h;split at h
  ·rename_i m C;split at h
   ·rename_i F D;refine⟨m,C,(sS K KF d D).mono fun v E r=>?_⟩;simp only[Option.some.injEq]at h;have:Vg P b T f c g j l (v,E)∈List.replicate k (some s'):=h▸List.mem_map_of_mem r
    exact(List.mem_replicate.1 this).2
   ·cases h
  ·cases h
 have z:=jC.under (c:=c) (cs:=g) (K:=fun m=>∃x a,Vg P b T f c g j l x=some s'/\aA P c x.2 x.1=some a/\m=⟨a,g,x.2⟩) u fun v h r=>by
  have p:=r
  unfold Vg at p;split at p
  ·rename_i a t;exact⟨a,t,.here ⟨(v,h),a,r,t,rfl⟩⟩
  ·cases p
 have e:(⟨s.fr,[]++c::g,s.h⟩:AS)=s:=by
  obtain⟨J,L,M⟩:=s
  dsimp only at o;subst o;rfl
 rw[show(⟨(⟨s.fr,[],s.h⟩:AS).fr,(⟨s.fr,[],s.h⟩:AS).cs++c::g,(⟨s.fr,[],s.h⟩:AS).h⟩:AS)=s from e]at z;refine z.way.bind ?_;rintro m ⟨x,a,w,t,rfl⟩;unfold Vg at w;rw[t]at w;exact Way.stepS K KF w
end
end Go.Am
namespace Go.Am
open Go.Conc (born QuitsD G dcall)
open Go.Conc.Lib
open Go.ConcR (WgAt)
open Go.Ren (grow gU aT aB Wk dY Idle af X0 Lv iP)
open Go.Mx (CellIs dm ag fC)
structure adP(P:Program)(fid:FuncId)(mb:Nat)(s s':AS):Prop where
 run:s.fr.ret=false
 round:s.fr.round=none
 at_:∃ops i l k o t ats a',s.fr.todo=.region ops (i::l)::k/\ops[i]?=some o/\Region.wanted o (yielded ops s.fr.tmps)=true/\bC o=true/\o.guard=none/\o.op=.call {callee:=.value (.func fid),args:=#[.tmp t],argTypes:=ats}/\
  s.fr.tmps[t]?=some (.pointer (some ⟨mb,0,none⟩))/\(∀d,o.dst=some d->d<s.fr.tmps.size)/\aA P s.fr s.h (.tuple #[])=some a'/\s'=⟨a',s.cs,s.h⟩
structure afC(P:Program)(L:WgLink)(ul:FuncId)(gb mb:Nat)(a:aN):Prop where
 ret:a.ret=true
 dk:a.dk=true
 fn:∃fn,P.funcs[a.fn]?=some fn/\fn.results=#[]
 defers:a.defers=[{target:=.fn (.func ul) #[],args:=#[.pointer (some ⟨mb,0,none⟩)]},{target:=.fn (.func L.done) #[],args:=#[.pointer (some ⟨gb,0,none⟩)]}]
 round:a.round=none
structure adQ(P:Program)(L:WgLink)(ul:FuncId)(gb mb vb:Nat)(v:dm)(s:AS):Prop where
 cs:s.cs=[]
 todo:aP s.fr=true
 at_:∃n a'',pJ n s.fr=some a''/\afC P L ul gb mb a''
 val:∃B e f,s.h.look vb=some B/\B.obj=.cells v e f/\B.ro=false
 plain:∀x∈v,Plain x
def YR(P:Program)(c:bI)(L:WgLink)(d:FuncId)(gb mb e:Nat)(f:dm)(s:AS):Prop:=
 bJ P c (fun b=>∃a,Ii P b a/\bJ P c (adQ P L d gb mb e f) a) s
def Oj(P:Program)(d:bI)(L:WgLink)(M:ag)(e c b:Nat)(V:dm->Prop)(f:dm->dm)(s:AS):Prop:=
 ∃a,adP P M.mu.lock c s a/\aP a.fr=true/\a.h.look b=none/\∀v,V v->YR P d L M.mu.unlock e c b (f v) (a.tell b v)
def DJ(P:Program)(pl:bI)(L:WgLink)(M:ag)(gb mb vb:Nat)(V:dm->Prop)(f:dm->dm)(c:Bool)(s:AS):Prop:=
 bJ P pl (fun b=>∃d,Ii P b d/\Way P (fun a=>(c=false/\Xe P L gb a)∨(c=true/\Oj P pl L M gb mb vb V f a)) d) s
section
variable{P:Program}{c σ:Env}{O O' D D':Nat->Prop}{h h':AH}{w w':World}{X:Event->Prop}{m:Bool}{base cs:List Frame}{I:World->Prop}{a a':aN}{f:Frame}{lo n:Nat}{l:Array Oper}{i:Nat}{o:Oper}{s s₀:AS}{pl:bI}{g:Goroutine}{p:Go.Mx.Ph}{M:ag}
theorem abZ(H:fC p.P M)(L:p.B<63)(N:p.locks i=true){k t:Nat}{C:List Nat}{F:List Item}{y:Array TypeId}(J:f=f.at ⟨f.tmps,f.defers⟩ (.inRegion l (k::C)::F))(Q:l[k]?=some o)(R:o.guard=none)(z:o.op=.call {callee:=.value (.func M.mu.lock),args:=#[.tmp t],argTypes:=y})
  (T:f.tmps[t]?=some (.pointer (some ⟨p.Mu,0,none⟩))) (hd:∀d,o.dst=some d->d<f.tmps.size) (U:f.kind≠.early) (A:p.UL i O D w (dZ (f.finish (.tuple #[])) cs)):dY p.P false p.I X0 D (p.WLk i D) 0 O (dZ f cs) w:=by
 have q:Go.Sy.GI f.tmps.size o=true:=by
  unfold Go.Sy.GI;split
  ·rename_i d e;simpa using hd d e
  ·rfl
 have V:Go.Sy.aX f.tmps.size ⟨[(t,some (.v 0))],.inRegion l (k::C)::F,[]⟩=some (M.mu.lock,[some (.v 0)]):=by
  unfold Go.Sy.aX Go.Sy.opAt;dsimp only
  rw[Q];dsimp only
  unfold Go.Sy.tu;rw[R];dsimp only
  rw[if_pos rfl,q];simp[z,Go.Sy.Ba,Go.Sy.get]
 have W:Go.Sy.Agree (Go.Mx.n0 p.Mu) [(t,some (.v 0))] f.tmps:=by
  intro j x u;unfold Go.Sy.get at u;split at u
  ·rename_i e;cases u;have:t=j:=by simpa using e
   subst this;rw[T];exact congrArg some (Go.Mx.jW.symm:_=(Go.Sy.E.v 0).den (Go.Mx.n0 p.Mu))
  ·cases u
 have r:=Go.Mx.Ph.Ve (p:=p) (O:=O) (D:=D) (i:=i) (w:=w) H L N (b:=f) (ds:=f.defers) (cs:=cs) V rfl W U (fun w' Y=>by
  have:=A.later Y
  rw[←J];exact this)
 rw[←J]at r;exact r
theorem aik{x y:FuncId}{b d Wg Mu:Nat}{ds:List Deferred}(e:c.to b=(Wg,0))(j:c.to d=(Mu,0))(h:LR (DR c) [{target:=.fn (.func x) #[],args:=#[.pointer (some ⟨d,0,none⟩)]},{target:=.fn (.func y) #[],args:=#[.pointer (some ⟨b,0,none⟩)]}] ds):
  ds=[dcall x #[.pointer (some ⟨Mu,0,none⟩)],dcall y #[.pointer (some ⟨Wg,0,none⟩)]]:=by
 cases h with
 |cons k q=>
  cases q with
  |cons r t=>cases t;rw[TP j k,TP e r]
theorem YS{L:WgLink}{gb mb:Nat}{v:dm}(H:fC p.P M)(E:WgLib p.P p.L)(F:cu p.P p.L.done=true)(n:∃w,Lv p.L p.Wg w)(J:p.B<63)(r:F0 c a f)(q:afC p.P p.L M.mu.unlock gb mb a)(y:c.to gb=(p.Wg,0))(N:c.to mb=(p.Mu,0))(Q:CellIs p.oe p.C (p.f i v) w):
  p.CrS i v D 0 O (dZ f [oQ p.P]) w:=by
 have j:f.mode=.returning:=by have:=r.mode;rw[q.ret]at this;exact this
 have d:f.roundOf=none:=r.toFB.RI q.round
 have k:=r.defers
 rw[q.defers]at k;have k:=aik y N k
 have e:({f.at ⟨f.tmps,dcall M.mu.unlock #[.pointer (some ⟨p.Mu,0,none⟩)]::[dcall p.L.done #[.pointer (some ⟨p.Wg,0,none⟩)]]⟩ f.todo with mode:=.returning}:Frame)=f:=by
  rw[←k];obtain⟨T,z,t,defers,mode,kind,U⟩:=f
  dsimp only at j d;subst j d;rfl
 have u:=Go.Mx.Ph.LG (p:=p) (O:=O) (D:=D) (i:=i) (w:=w) (v:=v) (sz:=0) (b:=f) (ds:=[dcall p.L.done #[.pointer (some ⟨p.Wg,0,none⟩)]]) (cs:=[oQ p.P]) (A:=f.tmps) (todo:=f.todo) H J Q (by
  have x:F0 c {a with defers:=[{target:=.fn (.func p.L.done) #[],args:=#[.pointer (some ⟨gb,0,none⟩)]}]} {f.at ⟨f.tmps,[dcall p.L.done #[.pointer (some ⟨p.Wg,0,none⟩)]]⟩ f.todo with mode:=.returning}:=by
   refine⟨⟨r.fn,?_,?_,r.kind,?_⟩,r.tmps,r.todo⟩
   ·have hd:=r.defers
    rw[q.defers]at hd;rw[k]at hd;cases hd with
    |cons _ R=>exact R
   ·show _=if a.ret then _ else _
    rw[q.ret];rfl
   ·show gu c.ob a.round none;rw[q.round];exact .none
  exact Gq E F n x ⟨q.ret,q.dk,q.fn,rfl⟩ y q.round)
 rw[e]at u;exact u
end
end Go.Am
namespace Go.Am
open Go.Conc (born QuitsD G dcall)
open Go.Conc.Lib
open Go.ConcR (WgAt)
open Go.Ren (grow gU aT aB Wk dY Idle af X0 Lv iP)
open Go.Mx (CellIs dm ag fC)
structure Names(ρ:Env)(p:Go.Mx.Ph)(gb mb vb:Nat):Prop where
 g:ρ.born gb
 gt:ρ.to gb=(p.Wg,0)
 m:ρ.born mb
 mt:ρ.to mb=(p.Mu,0)
 v:ρ.born vb
 vt:ρ.to vb=(p.C,p.oe.1)
 vx:ρ.ext vb=p.oe.2
 vs:¬ρ.bg vb
section
variable{p:Go.Mx.Ph}{M:ag}{q u:Env}{O O' D D':Nat->Prop}{h h':AH}{w w':World}{base cs:List Frame}{a a':aN}{f:Frame}{i gb mb vb:Nat}{s r:AS}{pl:bI}{g:Goroutine}
theorem Names.le(n:Names q p gb mb vb)(h:q.Le u):Names u p gb mb vb:=
 ⟨h.born _ n.g,(h.to _ n.g).trans n.gt,h.born _ n.m,(h.to _ n.m).trans n.mt,h.born _ n.v,(h.to _ n.v).trans n.vt,(h.ext _ n.v).trans n.vx,fun x=>n.vs ((h.bg _ n.v).1 x)⟩
theorem Names.cell(n:Names q p gb mb vb){v:dm}:CellIs ((q.to vb).2,q.ext vb) (q.to vb).1 v w↔CellIs p.oe p.C v w:=by rw[n.vt,n.vx]
theorem ab1[aO p.P]{v:dm}(H:fC p.P M)(HL:WgLib p.P p.L)(hp:cu p.P p.L.done=true)(hi:∃w,Lv p.L p.Wg w)(hB:p.B<63)(k:YR p.P pl p.L M.mu.unlock gb mb vb (p.f i v) s)(S:mJ p.P q O D [oQ p.P] s g w)(n:Names q p gb mb vb):
  dY p.P false p.I X0 D (p.CrS i v D) 0 O g w:=by
 have hW:Wk p.P false p.I X0 D (fun O' V w'=>dY p.P false p.I X0 D (p.CrS i v D) 0 O' V w') O g w:=by
  refine(jk k S).bind ?_;rintro W Y Z ⟨u,a0,⟨a1,hd,hs⟩,Q,A⟩;refine(Kt hd A).bind ?_;rintro a2 a3 a4 ⟨τ,j,E⟩;refine(jk hs E).bind ?_;rintro t a5 F ⟨υ,a6,he,o,J⟩;have b:=((n.le Q).le j).le o;obtain⟨R,z,⟨nn,a7,e1,e2⟩,⟨B,e,fz,e3,e4,e6⟩,e5⟩:=he
  obtain⟨⟨lo,f,cs,a8,rfl,hf,y⟩,N⟩:=J
  rw[R]at y;cases y;have T:=hf.f0 fun a9 l k e=>by unfold aP at z;rw[e]at z;cases z
  have c:=b.cell.1 (N.YP b.v e3 (Bq e6) e4 e5);have U:t p.C∨D p.C:=by have:=(N.own vb B b.v e3).2;rw[b.vt]at this;exact this
  refine .stop ?_;refine((sD (P:=p.P) (m:=false) (I:=p.I) (X:=X0) (cs:=[oQ p.P]) nn T e1).wkD (I':=p.I) (D:=D) (O:=t) (w:=F) fun _ x=>x).bind ?_;rintro d O' V w' ⟨⟨rfl,f',h1,h2,rfl⟩,rfl,hr⟩;refine .stop (YS (gb:=gb) (mb:=mb) (L:=p.L) H HL hp hi hB h1 e2 b.gt b.mt ?_);unfold CellIs at c⊢;rw[U.elim (hr.own p.C) (hr.ro p.C)];exact c
 refine(Go.Ren.Wk.deaf (fun e x=>x.elim) (fun e x=>x) 0 hW).bind ?_;rintro d O g w ⟨rfl,h⟩;exact h
theorem YT[aO p.P](H:fC p.P M)(HL:WgLib p.P p.L)(hp:cu p.P p.L.done=true)(hi:∃w,Lv p.L p.Wg w)(hB:p.B<63)(hV:∀v,p.V v->∀x∈v,Plain x)(k:DJ p.P pl p.L M gb mb vb p.V (p.f i) (p.locks i) r)(S:mJ p.P q O D [oQ p.P] r g w)(n:Names q p gb mb vb):
  dY p.P false p.I X0 D (p.WLk i D) 0 O g w:=by
 have hW:Wk p.P false p.I X0 D (fun O' g' w'=>dY p.P false p.I X0 D (p.WLk i D) 0 O' g' w') O g w:=by
  refine(jk k S).bind ?_;rintro b7 b8 b9 ⟨u,c0,⟨s',hd,hs⟩,a7,Y⟩;refine(Kt hd Y).bind ?_;rintro c1 c2 c3 ⟨τ,E,Z⟩;refine(hs.go Z).bind ?_;rintro c4 c5 c6 ⟨υ,C,he,F,Q⟩;have R:=((n.le a7).le E).le F;rcases he with⟨hl,a8,a9,nn,c9,e1,e2,e3⟩|⟨hl,c7,⟨a0,J,d0,j,l,kk,o,t,d1,a',t1,t2,t3,t4,t5,t6,t7,t8,t9,b0⟩,b1,b2,b3⟩
  ·obtain⟨⟨lo,f,cs,d4,rfl,hf,T⟩,d5⟩:=Q
   rw[a8]at T;cases T;exact .stop (.stop ⟨rfl,.inr ⟨rfl,hl,UB HL hp hi (hf.f0 a9) e1 e2 e3 R.gt⟩⟩)
  ·refine(qG (c:=[]) (l:=[]) Q a0 (.inr ⟨l,kk,t1⟩)).bind ?_;rintro U c8 a1 ⟨φ,lo,f,cs,N,rfl,A⟩;have z:=R.le N
   obtain⟨b4,sr,kr,a2,d6⟩:=uF (m:=false) (base:=[oQ p.P]) (fid:=M.mu.lock) (by
    unfold cu;rw[H.lib.f_lock];kernel_rfl) A J t2 t3 t4 t6
   have a3:F0 φ C.fr f:=A.fs.f0 (by rw[t1];intro _ _ _ e;cases e)
   have a4:C.fr.tmps.size=f.tmps.size:=a3.tmps.1;have b5:f.tmps[t]?=some (.pointer (some ⟨p.Mu,0,none⟩)):=by
    have b6:t<f.tmps.size:=Nat.lt_of_lt_of_le (Array.getElem?_eq_some_iff.1 t7).1 (Nat.le_of_eq a4);obtain⟨y,hy⟩:∃y,f.tmps[t]?=some y:=⟨f.tmps[t],by simp[b6]⟩
    have:=a3.tmps.2 t _ y t7 hy;rw[hy];cases this with
    |ptr hb=>simp[Env.addr,z.mt]
   refine .stop (abZ (O:=U) (D:=D) (w:=a1) (cs:=cs++[oQ p.P]) H hB hl a2 t2 t5 t6 b5 (fun d hd=>Nat.lt_of_lt_of_le (t8 d hd) (Nat.le_of_eq a4)) A.fs.base.ne ?_);intro w' v a5 hv X hO hD hC;have A':=A.rely a5
   subst b0;have a6:mJ p.P φ U D [oQ p.P] ⟨a',C.cs,C.h⟩ (dZ (f.finish (.tuple #[])) (cs++[oQ p.P])) w':=A'.finish (.refl φ) (fun x _ hx=>hx) (Nat.le_refl _) (.tuple rfl fun i x y hx=>by simp at hx) A'.rel t9
   have W:=a6.tell (b:=vb) b1 z.v b2 z.vs (hV v hv) (z.cell.2 X) (by rw[z.vt];exact hO) (by rw[z.vt];exact hD)
   rw[z.vt]at W;exact ab1 H HL hp hi hB (b3 v hv) W z
 refine(Go.Ren.Wk.deaf (fun e x=>x.elim) (fun e x=>x) 0 hW).bind ?_;rintro d O g w ⟨rfl,h⟩;exact h
end
end Go.Am
namespace Go.Ren
open Go.Conc hiding Goes mem_ofEvents Deaf
open Go.ConcN (WgLive)
open Go.Conc.Lib (WgLink)
open Go.ConcR (KK WgAt stA smA rd wr mk)
section
variable{P:Program}{L:WgLink}{Wg:Nat}{I:World->Prop}{O D:Nat->Prop}{g gT:Goroutine}{w:World}{Stop:Nat->(Nat->Prop)->Goroutine->World->Prop}
theorem Xf.ail(h:Xf P true (XS Wg) L Wg (· =gT) g)(l:∀w,I w->Lv L Wg w)(k:∀f a,f=O->aB O D w a->dY P true I (XM Wg) D Stop 0 f gT a):
  dY P true I (XM Wg) D (fun d O g w=>d=1/\g.status=.running/\∀v:Nat,v<2147483647->kP P true (Lv L Wg) (fun w=>WgAt L.tWg Wg w (v*KK) 0) (fun w=>w.setCell (stA Wg) (.int .u64 ((v+1)*KK))) #[rd (stA Wg),wr (stA Wg)]
   (fun b=>∀a,aB O D w a->dY P true I (XM Wg) D Stop 1 O b a) g) 0 O g w:=by
 have q:af P true (Lv L Wg) (XM Wg) (fun d g=>d=1/\adR P true (XS Wg) L Wg (· =gT) g) 0 g:=
  (Idle.deaf (fun e=>jJ) (fun e=>Ci) 0 h).bind fun d g ⟨e,i⟩=>by
   subst e;exact i.deaf (fun w _=>sJ (.inl rfl)) fun b j=>(Idle.deaf (fun e=>jJ) (fun e=>Ci) 1 j)
 refine(q.wkD (O:=O) (D:=D) (w:=w) l).mono ?_;rintro d f m n ⟨⟨rfl,s,t⟩,rfl,r⟩;refine⟨rfl,s,fun v u=>?_⟩;obtain⟨b,x,y⟩:=t v u
 refine⟨b,x,fun a z=>?_⟩;have A:af P true (Lv L Wg) (XM Wg) (fun d g=>d=0/\g=gT) 1 b:=
  (Idle.deaf (fun e=>jJ) (fun e=>Ci) 1 y).bind fun d g ⟨e,i⟩=>by
   subst e;exact i.deaf (fun w _=>DK (.inr (.inl rfl))) fun b j=>(Idle.deaf (fun e=>jJ) (fun e=>Ci) 0 j)
 refine(A.wkD (O:=f) (D:=D) (w:=a) l).bind ?_;rintro d B o p ⟨⟨rfl,rfl⟩,rfl,c⟩;exact k _ _ rfl ((r.trans z).trans c)
end
end Go.Ren
namespace Go.Am
open Go.Conc (born QuitsD G dcall)
open Go.Conc.Lib
open Go.ConcR (WgAt)
open Go.Ren (grow gU aT aB Wk dY Idle af X0 XS XM Lv iP iR)
open Go.Mx (CellIs dm ag fC)
structure afD(P:Program)(C:AS->Prop)(s s':AS):Prop where
 run:s.fr.ret=false
 round:s.fr.round=none
 at_:∃ops i l k o c x fid first cap a',s.fr.todo=.region ops (i::l)::k/\ops[i]?=some o/\Region.wanted o (yielded ops s.fr.tmps)=true/\bC o=true/\o.op=.go c/\c.callee=.value x/\ay s.fr.tmps x=.func (.func fid) first cap/\cu P fid=true/\
  C ⟨{aN.enter P fid ((first++c.args.map (ay s.fr.tmps))++cap)with dk:=true},[],s.h.shared⟩/\aA P s.fr s.h.shared undef=some a'/\s'=⟨a',s.cs,s.h.shared⟩
def ou(P:Program)(b:bI)(L:WgLink)(M:ag)(gb mb vb:Nat)(V:dm->Prop)(f:Nat->dm->dm)(locks:Nat->Bool)(n:Nat)(Fin:AS->Prop):Nat->AS->Prop
 |0,s=>bJ P b (fun a=>∃c,Ku P L.wait #[.pointer (some ⟨gb,0,none⟩)] a c/\Fin c) s
 |r+1,s=>bJ P b (fun a=>∃c,Ku P L.add #[.pointer (some ⟨gb,0,none⟩),.int .i64 1] a c/\bJ P b (fun d=>∃e,afD P (DJ P b L M gb mb vb V (f (n-(r+1))) (locks (n-(r+1)))) d e/\ou P b L M gb mb vb V f locks n Fin r e) c) s
section
variable{p:Go.Mx.Ph}{M:ag}{t u:Env}{O C D F:Nat->Prop}{h h':AH}{w E:World}{base cs:List Frame}{a J:aN}{f:Frame}{i gb mb vb:Nat}{s s₀:AS}{pl:bI}{g:Goroutine}{R:AS->Prop}{Nx:(Nat->Prop)->(Nat->Prop)->Goroutine->World->Prop}
theorem aim:∀w,p.I w->Lv p.L p.Wg w:=fun w h=>h.1
theorem ab2[aO p.P](H:WgLib p.P p.L)(hp:cu p.P p.L.add=true)(hi:∃w,Lv p.L p.Wg w)
  (k:bJ p.P pl (fun z=>∃V,Ku p.P p.L.add #[.pointer (some ⟨gb,0,none⟩),.int .i64 1] z V/\R V) s) (S:mJ p.P t O D base s g w) (W:t.born gb) (hg:t.to gb=(p.Wg,0))
  (next:∀V u C g' E,R V->t.Le u->mJ p.P u C D base V g' E->dY p.P true p.I (XM p.Wg) D (p.yA i Nx D) 0 C g' E):
  dY p.P true p.I (XM p.Wg) D (p.oU i Nx D) 0 O g w:=by
 have hW:Wk p.P true p.I X0 D (fun C g' E=>dY p.P true p.I (XM p.Wg) D (p.oU i Nx D) 0 C g' E) O g w:=by
  refine(jk k S).bind ?_;rintro a7 a8 a9 ⟨u,z,⟨V,⟨Y,r,Z,i,l,kk,o,as,b7,J,t1,t2,t3,t4,t5,t6,t7,t8⟩,hR⟩,N,a0⟩;have Q:u.to gb=(p.Wg,0):=(N.to _ W).trans hg;refine(qG (c:=[]) (l:=[]) a0 Y (.inr ⟨l,kk,t1⟩)).bind ?_;rintro a1 b0 b1 ⟨τ,lo,f,cs,j,rfl,A⟩;have U:τ.to gb=(p.Wg,0):=(j.to _ (N.born _ W)).trans Q;obtain⟨n,sr,kr,a2,a3⟩:=uF (m:=true) (base:=base) hp A r t2 t3 t4 t5
  rw[t6]at n;have v:=args2 U n
  rw[v]at a3;refine .stop (.step rfl (fun _=>dZ (Frame.enter p.P p.L.add #[.pointer (some ⟨p.Wg,0,none⟩),.int .i64 1] .normal) (f::(cs++base))) id (fun _=>#[]) (fun b _ _=>⟨a3 b,.none b⟩) fun b hr _=>?_);show dY p.P true p.I (XM p.Wg) D (p.oU _ Nx D) 0 (grow a1 b b) _ b;rw[Go.Ren.jS];have B:=Go.Ren.add_pos (P:=p.P) (m:=true) (X:=XS p.Wg) (L:=p.L) (Wg:=p.Wg) (T:=(· =G ((f.at ⟨f.tmps,f.defers⟩ (.inRegion Z (i::sr)::kr)).finish (.tuple #[])) (cs++base))) H hi (fun a ha=>⟨a,ha,.inl rfl⟩)
   (b₀:=f) (a₀:=⟨f.tmps,f.defers⟩) (ops₀:=Z) (i₀:=i) (rest₀:=sr) (k₀:=kr) (cs:=cs++base) (by rw[Frame.finish_at])
  rw[←a2]at B;refine Go.Ren.Xf.ail (gT:=G (f.finish (.tuple #[])) (cs++base)) B aim ?_;rintro b6 a5 rfl q;subst t8;refine next _ τ _ _ a5 hR (N.trans j) ?_;exact(A.rely hr|>.rely q).finish (.refl τ) (fun x _ hx=>hx) (Nat.le_refl _) (.tuple rfl fun i x y hx=>by simp at hx) (A.rely hr|>.rely q).rel t7
 refine(Go.Ren.Wk.deaf (fun e x=>x.elim) (fun e x=>x.elim) 0 hW).bind ?_;rintro d O g w ⟨rfl,h⟩;exact h
theorem afE[aO p.P](H:fC p.P M)(HL:WgLib p.P p.L)(hp:cu p.P p.L.done=true)(hi:∃w,Lv p.L p.Wg w)(hB:p.B<63)(hV:∀v,p.V v->∀x∈v,Plain x)
  (k:bJ p.P pl (fun W=>∃s',afD p.P (DJ p.P pl p.L M gb mb vb p.V (p.f i) (p.locks i)) W s'/\R s') s) (S:mJ p.P t O D base s g w) (n:Names t p gb mb vb)
  (next:∀s' u C F g' E,R s'->t.Le u->mJ p.P u C F base s' g' E->(∀b,D b->F b)->Nx F C g' E):
  dY p.P true p.I (XM p.Wg) D (p.yA i Nx D) 0 O g w:=by
 have hW:Wk p.P true p.I X0 D (fun C g' E=>p.yA i Nx D 0 C g' E) O g w:=by
  refine(jk k S).bind ?_;rintro c1 c2 c3 ⟨u,W,⟨s',⟨Y,b0,c7,j,l,kk,o,c,x,Z,first,b1,J,t1,t2,t3,t4,t5,t6,t7,t8,t9,b2,b3⟩,hR⟩,a5,a6⟩;refine(qG (c:=[]) (l:=[]) a6 Y (.inr ⟨l,kk,t1⟩)).mono ?_;rintro N c4 c5 ⟨τ,lo,f,cs,X,rfl,A⟩;have a7:=(n.le a5).le X;refine⟨rfl,rfl,fun Q hr _=>?_⟩;obtain⟨sr,kr,ht⟩:=A.todo
  have a8:=A.wanted o t2
  rw[t3]at a8;have hv:=A.sH o t2 t4
  have a1:=hv x (by rw[t5];simp[Op.operands,Call.operands,t6])
  rw[t7]at a1;generalize b4:f.eval x=y at a1
  cases a1 with
  | @func _ c8 _ m _ T b5 b6 b7 b8 b9=>
   cases b5;have a2:AR (VR τ) ((first++c.args.map (ay W.fr.tmps))++b1) ((m++c.args.map f.eval)++T):=
    AR.append (AR.append ⟨b6,b7⟩ (Xi fun z hz=>hv z (by rw[t5];simp[Op.operands,Call.operands,t6,hz]))) ⟨b8,b9⟩
   have Y:∀U,(execOp f.eval o).runT p.P Q U=(.ok (.spawn {target:=.fn (.func Z) T,args:=m++c.args.map f.eval}) Q,U++#[]):=by
    intro U;have:execOp f.eval o=Sem.pure (.spawn {target:=.fn (.func Z) T,args:=m++c.args.map f.eval}):=by
     unfold execOp;rw[t5];dsimp only
     unfold resolve;rw[t6];dsimp only
     rw[b4];rfl
    rw[this];simp only[Sem.runT,Array.append_empty]
   obtain⟨h1,h2⟩:=yZ Y
   have a3:=qA A.fs.base.ne
   have c0:stepG p.P true (dZ f (cs++base)) Q=.spawn (dZ (f.finish undef) (cs++base)) (born p.P {target:=.fn (.func Z) T,args:=m++c.args.map f.eval}) Q #[]:=by rw[fU A.run ht t2 a8 (fun q hq=>by rw[t5]at hq;cases hq)];simp[stepG.apply,h1,h2,a3,GStep.after,dZ,born,seen]
   have a9:=A.rely hr
   have a0:Rel τ (fun _=>False) (fun b=>D b∨N b) W.h.shared Q:=a9.rel.share fun b hb=>hb.elim (fun x=>.inr (.inr x)) (fun x=>.inr (.inl x))
   refine⟨_,_,N,fun _=>False,fun b=>D b∨N b,c0,fun b hb=>hb,fun b hb=>hb.elim,fun b hb=>hb,?_,?_⟩
   ·refine .step rfl (fun _=>dZ (Frame.enter p.P Z ((m++c.args.map f.eval)++T) .deferred) [oQ p.P]) id (fun _=>#[]) (fun r _ _=>⟨born_step t8 r,.none r⟩) fun r a4 _=>?_
    show dY p.P false p.I X0 _ _ 0 (grow (fun _=>False) r r) _ r;rw[Go.Ren.jS];refine YT (pl:=pl) (gb:=gb) (mb:=mb) (vb:=vb) H HL hp hi hB hV t9 ?_ a7;refine⟨⟨0,_,[],Nat.zero_le _,rfl,.plain (Xk Z a2),.nil⟩,a0.rely a4⟩
   ·have e:(fun b=>N b/\¬N b/\¬False)=fun _=>False:=by funext b;exact propext ⟨fun x=>x.2.1 x.1,fun x=>x.elim⟩
    rw[e];subst b3;refine next _ τ _ _ _ _ hR (a5.trans X) ?_ fun b hb=>.inl hb;exact⟨⟨lo,_,cs,A.bound,rfl,l9 A.fs (Nat.le_refl _) kE b2,A.stk⟩,a0⟩
 refine(Go.Ren.Wk.deaf (fun e x=>x.elim) (fun e x=>x.elim) 0 hW).mono ?_;rintro d O g w ⟨rfl,h⟩;exact h
theorem DL[aO p.P]{Fin:AS->Prop}{Kv:Env}(H:fC p.P M)(e:xk p.P p.L)(j:∃w,Lv p.L p.Wg w)(y:p.B<63)(z:∀v,p.V v->∀x∈v,Plain x)(A:p.Fin=Xl p.P Kv base Fin):
  ∀(r:Nat) {s:AS} {t:Env} {O D:Nat->Prop} {g:Goroutine} {w:World},ou p.P pl p.L M gb mb vb p.V p.f p.locks p.n Fin r s->mJ p.P t O D base s g w->Kv.Le t->Names t p gb mb vb->p.J4 r D O g w
 |0,s,t,O,D,g,w,k,S,b,n=>by
  show dY p.P true p.I (XM p.Wg) D (iR p.P p.L p.Wg p.Fin D) 0 O g w;rw[A];refine Xj (gb:=gb) e.toWgLib e.wait j k S n.g n.gt ?_;intro N u C Q E l c m;exact⟨u,N,l,b.trans c,m⟩
 |r+1,s,t,O,D,g,w,k,S,b,n=>by
  refine ab2 (gb:=gb) e.toWgLib e.add j k S n.g n.gt ?_;intro N u C Q E T c m;refine afE (gb:=gb) (mb:=mb) (vb:=vb) H e.toWgLib e.done j y z T m (n.le c) ?_;intro U τ W X Y Z o d q _;exact DL H e j y z A r o q ((b.trans c).trans d) ((n.le c).le d)
end
end Go.Am
