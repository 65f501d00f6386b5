import Derived.Test.YtjgfemidkffdjaaGreatH17
set_option linter.all false
namespace Go.Mx
open Go.Ren
open Go.Conc hiding Goes mem_ofEvents
open Go.ConcN (sumTo upd upd_same upd_ne RelBy get_map_set get_map_set_same WgLive PermW)
open Go.Conc.Lib (WgLink)
open Go.ConcR (KK WgAt stA smA rd wr g_of_ofEvents loc_of_ofEvent)
section
variable{C Mu n n0 B:Nat}{t u:Trace}{W:Nat->Prop}{O D:Nat->Nat->Prop}{i:Nat}{d:Prop}
def FreeTok(C Mu n0:Nat)(t:Trace)(n:Nat):Prop:=∀i x,touchAt t i=some x->inB (· =C) x.loc->(∀g,g<n->(g=0∨n0<=g)->Knows t g i)∨∃r,t.act? r=some (.mark (.releaseMerge (stA Mu)))/\t.heard r/\Before t i r
theorem Dt{z:MemOp}(c:z.act.touch?=none){i:Nat}{x:Touch}(h:touchAt (t++#[z]) i=some x):touchAt t i=some x:=by
 obtain⟨y,e,a⟩:=touch_of h
 rcases getElem?_append_cases e with⟨_,b⟩|⟨_,b⟩
 · rw[touchAt_of b];exact a
 · simp at b;subst b;rw[c]at a;cases a
theorem FreeTok.app(h:FreeTok C Mu n0 t n)(j:∀op∈u,∀x,op.act.touch?=some x->¬inB (· =C) x.loc):FreeTok C Mu n0 (t++u) n:=by
 intro i x l c;obtain⟨y,m,a⟩:=touch_of l
 rcases getElem?_append_cases m with⟨s,b⟩|⟨_,b⟩
 · rcases h i x (by rw[touchAt_of b];exact a) c with k|⟨r,e,o,p⟩
   ·exact .inl fun g q h0=>(k g q h0).app u
   ·have f:=lt_of_act? e
    exact .inr ⟨r,by rw[act?_old f];exact e,(heard_old f).2 o,p.app u⟩
 · exact absurd c (j y b x a)
theorem FreeTok.acquire(h:FreeTok C Mu n0 t n){z:MemOp}(r:z.g<n)(c:n0<=z.g)(f:z.act=.mark (.acquire (stA Mu)))(hd:Go.Conc.Deaf t z.g=0)(s:NoRelease (stA Mu) t):∀l,inB (· =C) l->Perm (t++#[z]) z.g l:=by
 intro l v i x w e;have y:z.act.touch?=none:=by rw[f];rfl
 have o:(t++#[z])[t.size]?=some z:=by simp
 have j:NoRelease (stA Mu) (t++#[z]):=s.app fun op a=>by simp at a;subst a;rw[f];simp
 rcases h i x (Dt y w) (e▸v)with A|⟨p,q,E,F⟩
 · exact(A z.g r (.inr c)).app _
 · have m:=lt_of_act? q
   have b:HappensBefore (t++#[z]) p t.size:=.single (.inr ⟨.marked m (.inr (by rw[act?_old m];exact q)) (by rw[act?_of o,f]) (fun k _ _=>j k),(heard_old m).2 E,
    ⟨z.g,by simp[Trace.g?],by rw[deaf_old (Nat.le_refl _)];exact hd⟩⟩)
   exact⟨t.size,z,o,rfl,.inr ((F.app #[z]).hb b)⟩
theorem FreeTok.release{y:MemOp}(c:∀l,inB (· =C) l->Perm t y.g l)(a:y.act=.mark (.releaseMerge (stA Mu)))(hd:Go.Conc.Deaf t y.g=0):FreeTok C Mu n0 (t++#[y]) n:=by
 intro i x e f;have h:y.act.touch?=none:=by rw[a];rfl
 have b:(t++#[y])[t.size]?=some y:=by simp
 refine .inr ⟨t.size,by rw[act?_of b,a],⟨y.g,by simp[Trace.g?],by rw[deaf_old (Nat.le_refl _)];exact hd⟩,.inr ?_⟩;exact(c x.loc f i x (Dt h e) rfl).hb_new (Nat.le_refl _) b rfl
theorem FreeTok.fork(h:FreeTok C Mu n0 t n)(A:0<n){x y:MemOp}(p:x.g=0/\x.act=.go n)(q:y.g=n/\y.act=.start)(h0:Go.Conc.Deaf t 0=0)(E:Go.Conc.Deaf t n=0):FreeTok C Mu n0 (t++#[x,y]) (n+1):=by
 have f:∀op∈#[x,y],∀b,op.act.touch?=some b->False:=fun op j b s=>by rw[Du p.2 q.2 j]at s;cases s
 intro i a F H;obtain⟨z,J,c⟩:=touch_of F
 rcases getElem?_append_cases J with⟨_,l⟩|⟨_,m⟩
 · rcases h i a (by rw[touchAt_of l];exact c) H with k|⟨r,v,L,M⟩
   ·refine .inl fun g N o=>?_
    by_cases e:g=n
    ·subst e;exact Go.ConcN.fork_knows p q h0 E (k 0 A (.inl rfl))
    ·exact(k g (by omega) o).app _
   ·have w:=lt_of_act? v
    exact .inr ⟨r,by rw[act?_old w];exact v,(heard_old w).2 L,M.app _⟩
 · exact(f z m a c).elim
theorem FreeTok.one(h:∀l,inB (· =C) l->Perm t 0 l):FreeTok C Mu n0 t n0:=fun i x a b=>.inl fun g c h0=>by
 obtain rfl:g=0:=by omega
 exact h x.loc b i x a rfl
def G8(O:Nat->Nat->Prop)(i C:Nat)(k b:Nat):Prop:=O k b∨(k=i/\b=C)
def Lt(O:Nat->Nat->Prop)(i C:Nat)(k b:Nat):Prop:=O k b/\¬(k=i/\b=C)
theorem TI.take(h:TI W O D n B t)(c:∀l,inB (· =C) l->Perm t i l):TI W (G8 O i C) D n B t:=by
 refine⟨h.quiet,fun k e l f=>?_,h.rd,h.nr,h.gs,h.low⟩;rcases Dv (T:=O k) (U:=fun b=>k=i/\b=C) (fun b g=>g) f with a|a
 · exact h.own k e l a
 · have:k=i/\inB (· =C) l:=by cases l<;>first|exact a|exact a.elim
   obtain⟨rfl,j⟩:=this
   exact c l j
theorem TI.give(i:Nat)(h:TI W O D n B t):TI W (Lt O i C) D n B t:=⟨h.quiet,fun k a l c=>h.own k a l (jf (fun b e=>e.1) c),h.rd,h.nr,h.gs,h.low⟩
theorem Own.take(h:Own (fun b=>W b∨(True/\b=C)) O D n B)(w:i<n)(m:¬W C)(d:Prop)(j:¬d):Own (fun b=>W b∨(d/\b=C)) (G8 O i C) D n B:=by
 have l:∀k,k<n->¬O k C:=fun k g x=>h.ow k C g x (.inr ⟨trivial,rfl⟩)
 refine⟨?_,?_,?_,fun k b g hd o=>?_,?_,h.YF,fun b p=>?_⟩
 · rintro a c b e f (x|⟨q,r⟩) (y|⟨s,v⟩)
   ·exact h.oo a c b e f x y
   ·exact absurd (v▸x) (l a e)
   ·exact absurd (r▸y) (l c f)
   ·exact q.trans s.symm
 · rintro a c b e f (x|⟨rfl,rfl⟩) hd
   ·exact h.od a c b e f x hd
   ·exact h.dw c b f hd (.inr ⟨trivial,rfl⟩)
 · rintro a b e (x|⟨rfl,rfl⟩) (y|⟨y,_⟩)
   ·exact h.ow a b e x (.inl y)
   ·exact j y
   ·exact m y
   ·exact j y
 · exact h.dw k b g hd (o.imp id fun y=>⟨trivial,y.2⟩)
 · rintro a b e (x|⟨rfl,rfl⟩)
   ·exact h.G9 a b e x
   ·exact h.wV b (.inr ⟨trivial,rfl⟩)
 · exact h.wV b (p.imp id fun y=>⟨trivial,y.2⟩)
theorem Own.give(h:Own (fun b=>W b∨(False/\b=C)) O D n B)(j:i<n)(k:O i C)(f:C<B)(d:Prop):Own (fun b=>W b∨(d/\b=C)) (Lt O i C) D n B:=by
 refine⟨fun a c b e g x y=>h.oo a c b e g x.1 y.1,fun a c b e g x=>h.od a c b e g x.1,fun a b e x y=>?_,fun a b e hd y=>?_,fun a b e x=>h.G9 a b e x.1,h.YF,fun b l=>?_⟩
 · rcases y with y|⟨_,y⟩
   ·exact h.ow a b e x.1 (.inl y)
   ·subst y;exact x.2 ⟨h.oo a i _ e j x.1 k,rfl⟩
 · rcases y with y|⟨_,rfl⟩
   ·exact h.dw a b e hd (.inl y)
   ·exact h.od i a b j e k hd
 · rcases l with y|⟨_,rfl⟩
   ·exact h.wV b (.inl y)
   ·exact f
end
def free(j:Nat)(a:Nat->WT):Prop:=∀i,i<j->¬holds (a i)
namespace Ph
variable(p:Ph)
def fold(order:List Nat):dm:=order.foldl (fun a k=>p.f k a) p.v0
def Cell(j:Nat)(wt:Nat->WT)(w:World):Prop:=∃order:List Nat,order.Nodup/\(∀k,k∈order↔k<j/\p.locks k=true/\past (wt k))/\p.V (p.fold order)/\(∀k,k<j->∀v,wt k=.cr v->v=p.fold order)/\
 ((∀k,k<j->∀v,wt k≠.cr v)->CellIs p.oe p.C (p.fold order) w)
def locking:WT->Prop
 | .work|.fin _=>False
 | _=>True
def xk(i:Nat)(a:WT)(x:Pos):Prop:=(∃b,a=.KT (.s1 b))/\p.St i a x x.d x.g
structure dV(W:Nat->Prop)(j:Nat)(tag:fM)(c:Pos)(bl:Bool)(wt:Nat->WT)(u:Nat->Bool)(xs E:Nat->Pos)(O D:Nat->Nat->Prop)(o:Array Goroutine)(w:World)(t:Trace):Prop where
 hn0:1<=p.n0
 size:o.size=p.n0+j
 main:o[0]?=some (if bl then{c.g with status:=.blocked}else c.g)
 blk:bl=true->(∃gT,tag=.w3 gT/\M3 p.P p.L p.Wg gT c.d c.g)/\∃i,i<j/\2<=gV (wt i)
 seat:p.kQ tag c
 O0:c.O=O 0
 D0:c.D=D 0
 rely:aB c.O c.D c.w w
 deaf:Go.Conc.Deaf t 0=c.d
 wk:∀i,i<j->o[p.n0+i]?=some (if u i then{(xs i).g with status:=.blocked}else(xs i).g)/\p.dF i (wt i) (xs i)/\Go.Conc.Deaf t (p.n0+i)=(xs i).d
 bs:∀i,i<j->u i=true->p.xk i (wt i) (xs i)
 wO:∀i,i<j->early (wt i)->(xs i).O=O (p.n0+i)/\(xs i).D=D (p.n0+i)/\aB (O (p.n0+i)) (D (p.n0+i)) (xs i).w w
 J5:∀i,i<j->locking (wt i)->p.locks i=true
 ph:∀i,i<j->phase (wt i)
 lv:∀k,1<=k->k<p.n0->o[k]?=some (E k).g/\(∃q,QuitsD p.P q (E k).d (E k).g)/\Go.Conc.Deaf t k=(E k).d/\Gone W t k
 ti:TI W O D (p.n0+j) w.heap.size t
 own:Own (fun b=>W b∨(free j wt/\b=p.C)) O D (p.n0+j) w.heap.size
 hW:W p.Wg/\W p.Mu/\p.Wg≠p.Mu/\¬W p.C/\p.C<w.heap.size
 tok:free j wt->FreeTok p.C p.Mu p.n0 t (p.n0+j)
 hold:∀i,i<j->holds (wt i)->O (p.n0+i) p.C
 cell:p.Cell j wt w
 over:∀i,i<j->gV (wt i)<=5->∃r,Over (stA p.Wg) W t (p.n0+i) r
 norel:∀a,NoRelease a t
 mi:∃m q,MuAt p.tM p.Mu w m q/\MI p.B j (fun i=>fD (wt i)) m q/\∀i,i<j->u i=true->q=0
 md:∃a b,WgAt p.L.tWg p.Wg w a b/\Md j (fun i=>gV (wt i)) tag a b
 left:Dw p.n j tag
variable{p}{W:Nat->Prop}{j:Nat}{tag:fM}{c:Pos}{bl:Bool}{wt:Nat->WT}{u:Nat->Bool}{xs E:Nat->Pos}{O D:Nat->Nat->Prop}{o:Array Goroutine}{w w':World}{sl:Option (Nat×Nat)}{t:Trace}
theorem dV.yT(h:p.dV W j tag c bl wt u xs E O D o w t):Own W O D (p.n0+j) w.heap.size:=h.own.less fun _=>.inl
theorem dV.inv(h:p.dV W j tag c bl wt u xs E O D o w t):p.I w:=by
 obtain⟨a,b,d,_⟩:=h.md
 obtain⟨m,q,e,_⟩:=h.mi
 exact⟨⟨a,b,d⟩,_,_,e⟩
theorem kT{i:Nat}{s:WT}{x:Pos}{d:Nat}{g:Goroutine}(h:p.St i s x d g):g.status=.running:=by
 cases s<;>first|exact h.2.1|exact h.2.1.1|exact h.elim
theorem ry{i:Nat}{s:WT}{x:Pos}(h:p.dF i s x):(x.g.status=.running/\2<=gV s)∨((x.g.status=.running∨x.g.status=.finished)/\s=.fin 1):=by
 match s,h with
 | .work,h=>exact .inl ⟨dY.status (fun _ _ _ _ x=>x.1) h,by simp[gV]⟩
 | .cr v,h=>exact .inl ⟨dY.status (fun _ _ _ _ x=>x.2.1) h,by simp[gV]⟩
 | .fin 7,h=>exact .inl ⟨af.status (fun _ _ x=>x.2.1) h,by simp[gV]⟩
 | .fin 5,h=>exact .inl ⟨af.status (fun _ _ x=>x.2.1) h,by simp[gV]⟩
 | .fin 4,h=>exact .inl ⟨af.status (fun _ _ x=>x.2.1) h,by simp[gV]⟩
 | .fin 3,h=>exact .inl ⟨af.status (fun _ _ x=>x.2.1) h,by simp[gV]⟩
 | .fin 2,h=>exact .inl ⟨af.status (fun _ _ x=>x.2.1) h,by simp[gV]⟩
 | .fin 1,h=>obtain⟨q,a⟩:=h;exact .inr ⟨a.status,rfl⟩
 | .fin 0,h=>exact h.elim
 | .fin 6,h=>exact h.elim
 | .fin (s+8),h=>exact h.elim
 | .KT y,h=>exact .inl ⟨af.status (fun _ _ x=>kT (i:=i) (s:=.KT y) x) h,by simp[gV]⟩
 | .en,h=>exact .inl ⟨af.status (fun _ _ x=>kT (i:=i) (s:=.en) x) h,by simp[gV]⟩
 | .ac,h=>exact .inl ⟨af.status (fun _ _ x=>kT (i:=i) (s:=.ac) x) h,by simp[gV]⟩
 | .rl,h=>exact .inl ⟨af.status (fun _ _ z=>kT (i:=i) (s:=.rl) (x:=x) z) h,by simp[gV]⟩
 | .ds,h=>exact .inl ⟨af.status (fun _ _ z=>kT (i:=i) (s:=.ds) (x:=x) z) h,by simp[gV]⟩
 | .Sz y,h=>exact .inl ⟨af.status (fun _ _ z=>kT (i:=i) (s:=.Sz y) (x:=x) z) h,by simp[gV]⟩
 | .ue,h=>exact .inl ⟨af.status (fun _ _ z=>kT (i:=i) (s:=.ue) (x:=x) z) h,by simp[gV]⟩
theorem kG{tag:fM}{x:Pos}(h:p.kQ tag x):x.g.status=.running:=by
 cases tag with
 | sp r s=>
   rcases r with _|r
   ·rcases s with _|_|s
    ·exact h.elim
    ·exact dY.status (fun _ _ _ _ x=>xP x) h
    ·exact h.elim
   ·rcases s with _|_|s
    ·exact dY.status (fun _ _ _ _ x=>x.2.1) h
    ·exact dY.status (fun _ _ _ _ x=>x.2.1) h
    ·exact h.elim
 | w1 v a A=>exact af.status (fun _ _ x=>x.2.1) h.2.2
 | w2 v a A=>exact af.status (fun _ _ x=>x.2.1) h.2.2
 | w3 a=>exact af.status (fun _ _ x=>x.2.1) h.2
 | w4 a=>exact af.status (fun _ _ x=>x.2.1) h.2
 | acq a=>exact af.status (fun _ _ x=>x.2.1) h.2
theorem dV.at(h:p.dV W j tag c bl wt u xs E O D o w t)(d:Nat):p.dV W j tag c bl wt u xs E O D o (w.at d) t:=
 ⟨h.hn0,h.size,h.main,h.blk,h.seat,h.O0,h.D0,h.rely.trans (.draw w d),h.deaf,h.wk,h.bs,fun i a b=>let⟨x,y,z⟩:=h.wO i a b;⟨x,y,z.trans (.draw w d)⟩,h.J5,h.ph,h.lv,h.ti,h.own,h.hW,h.tok,h.hold,h.cell,h.over,h.norel,h.mi,h.md,h.left⟩
theorem dV.awake(h:p.dV W j tag c bl wt u xs E O D o w t):∀g∈o,awake g:=by
 intro g n;obtain⟨k,a⟩:=Array.mem_iff_getElem?.1 n;rcases Nat.eq_zero_or_pos k with rfl|b
 · rw[h.main]at a;cases a;intro l;cases bl with
   |true=>simp
   |false=>simp[kG h.seat]
 · have r:k<p.n0+j:=by rw[←h.size];exact(Array.getElem?_eq_some_iff.1 a).1
   rcases Nat.lt_or_ge k p.n0 with m|m
   ·obtain⟨d,⟨q,f⟩,_⟩:=h.lv k b m
    rw[d]at a;cases a;intro l;rcases f.status with e|e<;>rw[e]<;>simp
   ·obtain⟨i,rfl⟩:∃i,k=p.n0+i:=⟨k-p.n0,by omega⟩
    obtain⟨d,f,_⟩:=h.wk i (by omega)
    rw[d]at a;cases a;intro l;cases u i with
    |true=>simp
    |false=>
     simp only[Bool.false_eq_true,if_false]
     rcases ry f with⟨e,_⟩|⟨e|e,_⟩<;>rw[e]<;>simp
theorem dV.abQ(h:p.dV W j tag c bl wt u xs E O D o w t):∃(i:Nat) (g:Goroutine),o[i]?=some g/\g.status=.running:=by
 cases v:bl with
 | false=>
   have:=h.main
   rw[v]at this;exact⟨0,_,this,kG h.seat⟩
 | true=>
   obtain⟨_,i,b,d⟩:=h.blk v
   have x:∀k,k<j->2<=gV (wt k)->u k=false->∃(i:Nat) (g:Goroutine),o[i]?=some g/\g.status=.running:=by
    intro k f d A;obtain⟨y,B,_⟩:=h.wk k f
    rw[A]at y;rcases ry B with⟨e,_⟩|⟨_,e⟩
    ·exact⟨_,_,y,e⟩
    ·rw[e]at d;simp[gV]at d
   cases a:u i with
   |false=>exact x i b d a
   |true=>
    obtain⟨⟨z,C⟩,_⟩:=h.bs i b a
    obtain⟨m,q,_,l,F⟩:=h.mi
    have n:=F i b a
    subst n;obtain⟨k,f,r⟩:=l.alive b (sv:=z) (by rw[C];rfl)
    refine x k f ?_ ?_
    ·revert r;cases wt k<;>simp[fD,act,gV]
    ·cases s:u k with
     |false=>rfl
     |true=>
      obtain⟨⟨H,J⟩,_⟩:=h.bs k f s
      rw[J]at r;exact r.elim
theorem dV.pick(h:p.dV W j tag c bl wt u xs E O D o w t):∃(i:Nat) (g:Goroutine) (d:Nat) (a:Option (Nat×Nat)),o[i]?=some g/\g.status=.running/\stepT p.P (crowd o w sl)=runT p.P (crowd o (w.at d) a) i:=
 crowd_pick h.awake h.abQ
theorem U8{s:WT}(h:holds s):cO (fD s)=1:=by cases s<;>first|rfl|exact h.elim
theorem dV.one(h:p.dV W j tag c bl wt u xs E O D o w t){i k:Nat}(d:i<j)(f:k<j)(g:cO (fD (wt i))=1)(n:cO (fD (wt k))=1):i=k:=by
 obtain⟨m,q,_,a,_⟩:=h.mi
 have s:=a.bits.L
 have v:=a.own
 apply Classical.byContradiction;intro b;have e:=jD (lk:=fun i=>fD (wt i)) cO .out d;have l:=nV (lk:=upd (fun i=>fD (wt i)) i .out) cO f
 rw[upd_ne _ _ (fun e=>b e.symm)]at l;rw[g]at e;rw[n]at l;simp only[cO]at e;omega
end Ph
end Go.Mx
namespace Go.Mx
open Go.Ren
open Go.Conc hiding Goes mem_ofEvents
open Go.ConcN (sumTo upd upd_same upd_ne RelBy get_map_set get_map_set_same WgLive PermW)
open Go.Conc.Lib (WgLink)
open Go.ConcR (KK WgAt stA smA rd wr g_of_ofEvents loc_of_ofEvent)
theorem uP{W:Nat->Prop}{C:Nat}{a b:Prop}(h:a↔b):(fun x=>W x∨(a/\x=C))=fun x=>W x∨(b/\x=C):=by
 funext x;rw[propext h]
theorem YG{W O D:Nat->Prop}{B k C:Nat}{j:Array Event}{p:FuncId}{pos:String}(i:∀e∈j,gU (IY W k) B O D e)(q:¬W C)(l:¬O C)(n:¬D C):
   ∀op∈MemOp.ofEvents k p pos j,∀x,op.act.touch?=some x->¬inB (· =C) x.loc:=by
 intro op g x f h;rw[ofEvents_eq]at g;obtain⟨e,s,rfl⟩:=Array.mem_map.1 g;rcases i e s with⟨c,_⟩|c
 · obtain⟨b,t,u⟩:=kH (c x f).1 h;exact q (u▸t)
 · obtain⟨loc,wr,v⟩:=e
   cases loc with
   |cell a=>
    simp only[MemAct.ofEvent,MemAct.touch?,Option.some.injEq]at f;subst f;have d:a.block=C:=h
    rcases c with c|⟨c,_⟩
    ·exact l (d▸c)
    ·exact n (d▸c)
   |obj r=>
    have y:x.loc=.obj r:=by
     cases wr<;>cases v<;>simp only[MemAct.ofEvent,MemAct.touch?,Option.some.injEq,reduceCtorEq]at f
     all_goals (subst f;rfl)
    rw[y]at h;have d:r=C:=h
    rcases c with c|⟨c,_⟩
    ·exact l (d▸c)
    ·exact n (d▸c)
   |mark m=>
    have z:vM m=true:=c
    cases m<;>first|(simp[MemAct.ofEvent,MemAct.touch?]at f;done)|cases z
   |output=>simp only[MemAct.ofEvent,MemAct.touch?,Option.some.injEq]at f;subst f;exact h
   |_=>exact absurd c id
namespace Ph
variable{p:Ph}{W:Nat->Prop}{j:Nat}{tag:fM}{l:Pos}{bl:Bool}{wt:Nat->WT}{f:Nat->Bool}{xs n:Nat->Pos}{O D:Nat->Nat->Prop}{o:Array Goroutine}{w w':World}{sl:Option (Nat×Nat)}{t:Trace}
theorem Dx(h:p.dV W j tag l bl wt f xs n O D o w t):bl=true->l.g.offers=none:=fun e=>by
 obtain⟨⟨b,_,a⟩,_⟩:=h.blk e
 exact a.2.2.1
theorem IZ{i:Nat}{s:WT}{x:Pos}(h:p.xk i s x):x.g.status=.running/\x.g.offers=none:=by
 obtain⟨⟨b,rfl⟩,a⟩:=h
 exact⟨a.2.1,a.2.2.1⟩
theorem dV.sleepers(h:p.dV W j tag l bl wt f xs n O D o w t)(g g':Goroutine)(w':World):∃a:Nat->Bool,∀k,k<j->woken p.P g g' w' (if f k then{(xs k).g with status:=.blocked}else(xs k).g)=(if a k then{(xs k).g with status:=.blocked}else(xs k).g)/\(a k=true->f k=true)/\
   (mayWake p.P g=true->(g'.status=.running∨g'.status=.finished)->a k=false):=by
 have:∀k,∃b:Bool,k<j->woken p.P g g' w' (if f k then{(xs k).g with status:=.blocked}else(xs k).g)=(if b then{(xs k).g with status:=.blocked}else(xs k).g)/\(b=true->f k=true)/\
   (mayWake p.P g=true->(g'.status=.running∨g'.status=.finished)->b=false):=by
   intro k;by_cases c:k<j
   ·cases e:f k with
    |true=>
     obtain⟨i,d⟩:=IZ (h.bs k c e)
     obtain⟨b,m,q,r⟩:=Oe (P:=p.P) (w':=w') (g:=g) (g':=g') (x:=(xs k).g) (bl:=true) i (fun _=>d)
     exact⟨b,fun _=>⟨m,q,r⟩⟩
    |false=>
     refine⟨false,fun _=>⟨?_,fun x=>(by cases x),fun _ _=>rfl⟩⟩;simp only[Bool.false_eq_true,if_false]
     obtain⟨_,d,_⟩:=h.wk k c
     rw[woken_rf];rcases ry d with⟨x,_⟩|⟨x,_⟩
     ·exact .inl x
     ·exact x
   ·exact⟨false,fun x=>absurd x c⟩
 exact⟨fun k=>Classical.choose (this k),fun k c=>Classical.choose_spec (this k) c⟩
theorem dV.I4(h:p.dV W j tag l bl wt f xs n O D o w t){i:Nat}(hi:i<j)(Y:f i=false){x':Pos}{es:Array Event}{s':WT}{O':Nat->Nat->Prop}
   (b1:stepG p.P false (xs i).g w=.go x'.g w' es) (hd:x'.d=deafBehind (xs i).d es) (J:p.dF i s' x') (M:w.heap.size<=w'.heap.size)
   (F:∀k,k<p.n0+j->k≠p.n0+i->aB (O k) (D k) w w') (hO:∀k,k≠p.n0+i->O' k=O k)
   (b2:TI W O' D (p.n0+j) w'.heap.size (t++MemOp.ofEvents (p.n0+i) (xs i).g.frame.fn (xs i).g.frame.place es)) (Z:Own (fun b=>W b∨(free j (upd wt i s')/\b=p.C)) O' D (p.n0+j) w'.heap.size)
   (A:early s'->x'.O=O' (p.n0+i)/\x'.D=D (p.n0+i)/\aB (O' (p.n0+i)) (D (p.n0+i)) x'.w w') (a0:locking s'->p.locks i=true) (b3:phase s')
   (a5:free j (upd wt i s')->FreeTok p.C p.Mu p.n0 (t++MemOp.ofEvents (p.n0+i) (xs i).g.frame.fn (xs i).g.frame.place es) (p.n0+j)) (N:holds s'->O' (p.n0+i) p.C) (Q:p.Cell j (upd wt i s') w')
   (R:gV s'<=5->∃r,Over (stA p.Wg) W (t++MemOp.ofEvents (p.n0+i) (xs i).g.frame.fn (xs i).g.frame.place es) (p.n0+i) r)
   (b4:∀e∈es,∀a,e.loc≠.mark (.release a))
   (b5:∃m q,MuAt p.tM p.Mu w' m q/\MI p.B j (fun k=>fD (upd wt i s' k)) m q/\(q=0∨(mayWake p.P (xs i).g=true/\x'.g.status=.running)∨∀k,k<j->f k=false))
   (b6:∃a b,WgAt p.L.tWg p.Wg w' a b/\Md j (fun k=>gV (upd wt i s' k)) tag a b)
   (b7:∀v:Bool,bl=true->(mayWake p.P (xs i).g=true->(x'.g.status=.running∨x'.g.status=.finished)->v=false)->v=true->∃k,k<j/\2<=gV (upd wt i s' k)):
   ∃a6 v y,runT p.P (crowd o w sl) (p.n0+i)=(.next (crowd a6 w' sl),MemOp.ofEvents (p.n0+i) (xs i).g.frame.fn (xs i).g.frame.place es)/\
    p.dV W j tag l v (upd wt i s') y (upd xs i x') n O' D a6 w' (t++MemOp.ofEvents (p.n0+i) (xs i).g.frame.fn (xs i).g.frame.place es):=by
 obtain⟨T,c1,b8⟩:=h.wk i hi
 rw[Y]at T;simp only[Bool.false_eq_true,if_false]at T;have a7:=h.size
 have x:p.n0+i≠0:=by have:=h.hn0;omega
 have a8:stepG p.P ((p.n0+i)==0) (xs i).g w=.go x'.g w' es:=by
   have:((p.n0+i)==0)=false:=by simp;omega
   rw[this];exact b1
 have a9:=runT_crowd_go (P:=p.P) (sl:=sl) T a8
 obtain⟨v,b9,b0,c0⟩:=Oe (P:=p.P) (w':=w') (g:=(xs i).g) (g':=x'.g) (kG h.seat) (Dx h)
 obtain⟨y,z⟩:=h.sleepers (xs i).g x'.g w';have u:∀op∈MemOp.ofEvents (p.n0+i) (xs i).g.frame.fn (xs i).g.frame.place es,op.g=p.n0+i:=g_of_ofEvents
 have H:y i=false:=by
   cases e:y i with
   |false=>rfl
   |true=>have:=(z i hi).2.1 e;rw[Y]at this;cases this
 refine⟨_,v,y,a9,h.hn0,by simpa using a7,?_,fun e=>?_,h.seat,by rw[hO 0 x.symm];exact h.O0,h.D0,h.rely.trans (by rw[h.O0,h.D0];exact F 0 (by have:=h.hn0;omega) x.symm),?_,fun k c=>?_,fun k c U=>?_,fun k c s=>?_,fun k c s=>?_,fun k c=>?_,fun k V h2=>?_,b2,Z,⟨h.hW.1,h.hW.2.1,h.hW.2.2.1,h.hW.2.2.2.1,Nat.lt_of_lt_of_le h.hW.2.2.2.2 M⟩,a5,fun k c s=>?_,Q,fun k c s=>?_,qp h.norel b4,?_,b6,h.left⟩
 · rw[get_map_set _ _ _ _ x,h.main,Option.map_some,b9]
 · obtain⟨V,_⟩:=h.blk (b0 e)
   exact⟨V,b7 v (b0 e) c0 e⟩
 · rw[Deaf_other t x _ u];exact h.deaf
 · by_cases e:k=i
   ·subst e;rw[upd_same,upd_same,H];simp only[Bool.false_eq_true,if_false]
    exact⟨get_map_set_same _ _ _ (by rw[a7];omega),J,by rw[Deaf_own,b8];exact hd.symm⟩
   ·obtain⟨V,h2,E⟩:=h.wk k c
    rw[upd_ne xs _ e,upd_ne wt _ e];refine⟨?_,h2,by rw[Deaf_other t (by omega) _ u];exact E⟩;rw[get_map_set _ _ _ _ (by omega),V,Option.map_some,(z k c).1]
 · by_cases e:k=i
   ·subst e;rw[H]at U;cases U
   ·rw[upd_ne xs _ e,upd_ne wt _ e];exact h.bs k c ((z k c).2.1 U)
 · by_cases e:k=i
   ·subst e;rw[upd_same]at s;rw[upd_same];exact A s
   ·rw[upd_ne wt _ e]at s;obtain⟨a1,a2,a3⟩:=h.wO k c s
    rw[upd_ne xs _ e,hO _ (by omega)];exact⟨a1,a2,a3.trans (F _ (by omega) (by omega))⟩
 · by_cases e:k=i
   ·subst e;rw[upd_same]at s;exact a0 s
   ·rw[upd_ne wt _ e]at s;exact h.J5 k c s
 · by_cases e:k=i
   ·subst e;rw[upd_same];exact b3
   ·rw[upd_ne wt _ e];exact h.ph k c
 · obtain⟨a1,⟨q,a2⟩,a3,a4⟩:=h.lv k V h2
   refine⟨?_,⟨q,a2⟩,by rw[Deaf_other t (by omega) _ u];exact a3,a4.appNot fun op X e=>by rw[u op X]at e;omega⟩;rw[get_map_set _ _ _ _ (by omega),a1,Option.map_some,woken_rf a2.status]
 · by_cases e:k=i
   ·subst e;rw[upd_same]at s;exact N s
   ·rw[upd_ne wt _ e]at s;rw[hO _ (by omega)];exact h.hold k c s
 · by_cases e:k=i
   ·subst e;rw[upd_same]at s;exact R s
   ·rw[upd_ne wt _ e]at s;obtain⟨r,hr⟩:=h.over k c s
    exact⟨r,hr.appNot fun op X e'=>by rw[u op X]at e';omega⟩
 · obtain⟨m,q,V,h2,E⟩:=b5
   refine⟨m,q,V,h2,fun k c U=>?_⟩;rcases E with E|⟨E,h4⟩|E
   ·exact E
   ·have:=(z k c).2.2 E (.inl h4);rw[this]at U;cases U
   ·have:=(z k c).2.1 U;rw[E k c]at this;cases this
theorem Cell.same{p:Ph}{j:Nat}{wt:Nat->WT}{w w':World}{i:Nat}{s':WT}(h:p.Cell j wt w)(y:i<j)(r:p.locks i=true->(past s'↔past (wt i)))(s:∀v,s'=.cr v↔wt i=.cr v)
   (q:(∃v,wt i=.cr v)∨w'.heap[p.C]?=w.heap[p.C]?):p.Cell j (upd wt i s') w':=by
 obtain⟨order,z,A,B,u,E⟩:=h
 refine⟨order,z,fun k=>?_,B,fun k d v e=>?_,fun x=>?_⟩
 · rw[A];by_cases e:k=i
   ·subst e;rw[upd_same];exact⟨fun⟨a,b,c⟩=>⟨a,b,(r b).2 c⟩,fun⟨a,b,c⟩=>⟨a,b,(r b).1 c⟩⟩
   ·rw[upd_ne wt _ e]
 · by_cases g:k=i
   ·subst g;rw[upd_same]at e;exact u k d v ((s v).1 e)
   ·rw[upd_ne wt _ g]at e;exact u k d v e
 · have m:∀k,k<j->∀v,wt k≠.cr v:=fun k d v e=>by
    by_cases g:k=i
    ·subst g;exact x k d v (by rw[upd_same];exact(s v).2 e)
    ·exact x k d v (by rw[upd_ne wt _ g];exact e)
   rcases q with⟨v,e⟩|q
   ·exact absurd e (m i y v)
   ·unfold CellIs;rw[q];exact E m
theorem Lu{j i:Nat}{wt:Nat->WT}{s':WT}(b:i<j)(h:holds s'↔holds (wt i)):free j (upd wt i s')↔free j wt:=by
 unfold free;refine⟨fun x k a=>?_,fun x k a=>?_⟩
 · by_cases e:k=i
   ·subst e;have:=x k a;rw[upd_same]at this;exact fun y=>this (h.2 y)
   ·have:=x k a;rw[upd_ne wt _ e]at this;exact this
 · by_cases e:k=i
   ·subst e;rw[upd_same];exact fun y=>x k a (h.1 y)
   ·rw[upd_ne wt _ e];exact x k a
theorem nH{a:Type}(g:WT->a)(wt:Nat->WT)(i:Nat)(s':WT):(fun k=>g (upd wt i s' k))=upd (fun k=>g (wt k)) i (g s'):=by
 funext k;by_cases e:k=i
 · subst e;rw[upd_same,upd_same]
 · rw[upd_ne _ _ e,upd_ne _ _ e]
theorem dV.worker(h:p.dV W j tag l bl wt f xs n O D o w t){i:Nat}(hi:i<j)(R:f i=false){x':Pos}{es:Array Event}{s':WT}
   (T:stepG p.P false (xs i).g w=.go x'.g w' es) (U:oh (IY W (p.n0+i)) W (O (p.n0+i)) (D (p.n0+i)) w w' es) (hd:x'.d=deafBehind (xs i).d es) (F:p.dF i s' x') (hh:holds s'↔holds (wt i))
   (y:early s'->x'.O=grow (O (p.n0+i)) w w'/\x'.D=D (p.n0+i)/\aB x'.O x'.D x'.w w') (V:locking s'->p.locks i=true) (a2:phase s') (H:p.Cell j (upd wt i s') w')
   (J:gV s'<=5->∃r,Over (stA p.Wg) W (t++MemOp.ofEvents (p.n0+i) (xs i).g.frame.fn (xs i).g.frame.place es) (p.n0+i) r)
   (a3:∀e∈es,∀a,e.loc≠.mark (.release a))
   (a4:∃m q,MuAt p.tM p.Mu w' m q/\MI p.B j (fun k=>fD (upd wt i s' k)) m q/\(q=0∨(mayWake p.P (xs i).g=true/\x'.g.status=.running)∨∀k,k<j->f k=false))
   (a5:∃a b,WgAt p.L.tWg p.Wg w' a b/\Md j (fun k=>gV (upd wt i s' k)) tag a b)
   (a6:∀s:Bool,bl=true->(mayWake p.P (xs i).g=true->(x'.g.status=.running∨x'.g.status=.finished)->s=false)->s=true->∃k,k<j/\2<=gV (upd wt i s' k)):
   ∃z s M O',runT p.P (crowd o w sl) (p.n0+i)=(.next (crowd z w' sl),MemOp.ofEvents (p.n0+i) (xs i).g.frame.fn (xs i).g.frame.place es)/\
    p.dV W j tag l s (upd wt i s') M (upd xs i x') n O' D z w' (t++MemOp.ofEvents (p.n0+i) (xs i).g.frame.fn (xs i).g.frame.place es):=by
 obtain⟨N,_,_⟩:=h.wk i hi
 rw[R]at N;simp only[Bool.false_eq_true,if_false]at N;have X:=h.size
 have a8:=h.hn0
 have Y:stepG p.P ((p.n0+i)==0) (xs i).g w=.go x'.g w' es:=by
   have:((p.n0+i)==0)=false:=by simp;omega
   rw[this];exact T
 have Z:=h.ti
 have A:=h.yT
 rw[←X]at Z A;have u:=h.own.grow (i:=p.n0+i) (by omega) U.size
 obtain⟨_,E,_⟩:=kV (sl:=sl) N Y Z A U
 rw[X]at E;have v:with_ O (p.n0+i) w.heap.size w'.heap.size (p.n0+i)=grow (O (p.n0+i)) w w':=uQ O (p.n0+i) w w'
 have a0:=Lu hi hh
 have a1:free j (upd wt i s')->FreeTok p.C p.Mu p.n0 (t++MemOp.ofEvents (p.n0+i) (xs i).g.frame.fn (xs i).g.frame.place es) (p.n0+j):=fun hf=>by
   have Q:=a0.1 hf;refine(h.tok Q).app (YG U.ev h.hW.2.2.2.1 ?_ ?_)
   ·have how:=u.ow (p.n0+i) p.C (by omega)
    rw[v]at how;exact fun x=>how x (.inr ⟨Q,rfl⟩)
   ·exact fun x=>h.own.dw (p.n0+i) p.C (by omega) x (.inr ⟨Q,rfl⟩)
 obtain⟨z,s,M,k1,k2⟩:=h.I4 (sl:=sl) hi R T hd F U.size (fun k hk a7=>U.rely h.yT (by omega) hk a7) (fun k hk=>Dy hk _ _) E
   (by rw[uP a0];exact u) (fun he=>by rw[v];obtain⟨a,b,c⟩:=y he;exact⟨a,b,by rw[←a,←b];exact c⟩) V a2 a1 (fun hs=>.inl (h.hold i hi (hh.1 hs))) H J a3 a4 a5 a6
 exact⟨z,s,M,_,k1,k2⟩
end Ph
end Go.Mx
namespace Go.Mx
open Go.Ren
open Go.Conc hiding Goes mem_ofEvents
open Go.ConcN (sumTo upd upd_same upd_ne RelBy get_map_set get_map_set_same WgLive PermW)
open Go.Conc.Lib (WgLink)
open Go.ConcR (KK WgAt stA smA rd wr g_of_ofEvents loc_of_ofEvent)
theorem yU(k:Nat)(a:FuncId)(pos:String)(m:Mark):MemOp.ofEvents k a pos #[Go.ConcR.mk m]=#[(⟨k,a,pos,.mark m⟩:MemOp)]:=by rw[ofEvents_eq];simp[Go.ConcR.ofEvent_mk]
theorem rC{P:Program}{m:Bool}{I:World->Prop}{w:World}{S:Nat->Goroutine->Prop}{d:Nat}{g:Goroutine}(h:af P m I X0 S d g)(i:I w):S d g∨(¬S d g/\∃j,stepG P m g w=.go j w #[]/\af P m I X0 S d j):=by
 by_cases a:S d g
 · exact .inl a
 · cases h with
   |stop h=>exact absurd h a
   |step o f n h k=>
    have b:=h w i
    have c:n w=#[]:=Array.eq_empty_iff_forall_not_mem.2 fun e c=>(b.2 e c).1;have l:=k w i
    rw[c]at b l;exact .inr ⟨a,_,b.1,l⟩
theorem tq.refl(Mu:Nat)(w:World):tq Mu w w:=⟨rfl,fun _ _=>rfl,.rfl,rfl,rfl⟩
namespace Ph
variable{p:Ph}{W:Nat->Prop}{j:Nat}{tag:fM}{s:Pos}{bl:Bool}{wt:Nat->WT}{f:Nat->Bool}{xs u:Nat->Pos}{O D:Nat->Nat->Prop}{A:Array Goroutine}{w w':World}{sl:Option (Nat×Nat)}{t:Trace}
def I5(p:Ph)(j:Nat)(wt:Nat->WT)(xs:Nat->Pos)(w:World)(i:Nat)(a:WT)(d:Pos)(w':World):Prop:=
 ∃m q b c,MuAt p.tM p.Mu w m q/\m.Bits/\MuAt p.tM p.Mu w' b c/\b.Bits/\(J3 j (fun k=>fD (upd wt i a k)) c<J3 j (fun k=>fD (wt k)) q∨
   (b=m/\J3 j (fun k=>fD (upd wt i a k)) c=J3 j (fun k=>fD (wt k)) q/\(ES m a<ES m (wt i)∨(a=wt i/\p.WNx i (wt i) d (xs i)))))
def xQ(p:Ph)(W:Nat->Prop)(j:Nat)(tag:fM)(s:Pos)(wt:Nat->WT)(xs u:Nat->Pos)(D:Nat->Nat->Prop)(t:Trace)(w:World)(i:Nat)(r:Stepped×Array MemOp)(sl:Option (Nat×Nat)):Prop:=
 ∃a w' b c d e g,r.1=.next (crowd a w' sl)/\p.dF i d e/\I5 p j wt xs w i d e w'/\p.dV W j tag s b (upd wt i d) c (upd xs i e) u g D a w' (t++r.2)
theorem dV.jn(h:p.dV W j tag s bl wt f xs u O D A w t):j<=p.n:=by
 have:=h.left
 cases tag<;>simp only[Dw]at this<;>omega
theorem He(h:p.dV W j tag s bl wt f xs u O D A w t){i:Nat}(d:i<j){s':WT}(e:5<=gV (wt i))(g:gV s'=8∨gV s'=7∨gV s'=5)(l:w'.heap[p.Wg]?=w.heap[p.Wg]?):∃a b,WgAt p.L.tWg p.Wg w' a b/\Md j (fun k=>gV (upd wt i s' k)) tag a b:=by
 obtain⟨a,b,c,m⟩:=h.md
 refine⟨a,b,by unfold WgAt at c⊢;rw[l];exact c,?_⟩;rw[nH];exact m.counted d e g
theorem Dz(h:p.dV W j tag s bl wt f xs u O D A w t){i:Nat}(d:i<j){s':WT}(b:2<=gV (wt i)->2<=gV s'):bl=true->∃k,k<j/\2<=gV (upd wt i s' k):=fun e=>by
 obtain⟨_,k,c,a⟩:=h.blk e
 refine⟨k,c,?_⟩;by_cases e:k=i
 · subst e;rw[upd_same];exact b a
 · rw[upd_ne wt _ e];exact a
theorem TF{i:Nat}{a:WT}(b:fD a=fD (wt i)):(fun k=>fD (upd wt i a k))=fun k=>fD (wt k):=by
 rw[nH fD];funext k;by_cases e:k=i
 · subst e;rw[upd_same];exact b
 · rw[upd_ne _ _ e]
theorem rD(h:p.dV W j tag s bl wt f xs u O D A w t){i:Nat}{s':WT}{x':Pos}(b:fD s'=fD (wt i))(c:w'.heap[p.Mu]?=w.heap[p.Mu]?):
   ∃m q,MuAt p.tM p.Mu w' m q/\MI p.B j (fun k=>fD (upd wt i s' k)) m q/\(q=0∨(mayWake p.P (xs i).g=true/\x'.g.status=.running)∨∀k,k<j->f k=false):=by
 obtain⟨m,q,a,d,l⟩:=h.mi
 refine⟨m,q,by unfold MuAt at a⊢;rw[c];exact a,by rw[TF b];exact d,?_⟩;rcases Nat.eq_zero_or_pos q with e|e
 · exact .inl e
 · refine .inr (.inr fun k n=>?_);cases o:f k with
   |false=>rfl
   |true=>have:=l k n o;omega
theorem kW(h:p.dV W j tag s bl wt f xs u O D A w t){i:Nat}{s':WT}{x':Pos}(c:fD s'=fD (wt i))(d:w'.heap[p.Mu]?=w.heap[p.Mu]?)(e:(∀m,ES m s'<ES m (wt i))∨(s'=wt i/\p.WNx i (wt i) x' (xs i))):I5 p j wt xs w i s' x' w':=by
 obtain⟨m,q,a,b,_⟩:=h.mi
 refine⟨m,q,m,q,a,b.bits,by unfold MuAt at a⊢;rw[d];exact a,b.bits,.inr ⟨rfl,by rw[TF c],e.imp (fun x=>x m) id⟩⟩
theorem xR{k:Nat}{es:Array Event}(g:W p.Mu)(b:p.Mu<w.heap.size)(a:tq p.Mu w w')(d:∀e∈es,jw p.Mu e):oh (IY W k) W (O k) (D k) w w' es:=
 ⟨by rw[a.size];exact Nat.le_refl _,fun c _ _ i=>a.heap c fun e=>i (e▸g),a.os,a.output,a.tape,fun e h=>.inl (by have:=xU (k:=k) g b (d e h);exact⟨this.1,by rw[a.size];exact this.2⟩)⟩
theorem dV.quiet(h:p.dV W j tag s bl wt f xs u O D A w t){i:Nat}(r:i<j)(J:f i=false){x:Goroutine}{n:Array Event}{s':WT}
   (L:stepG p.P false (xs i).g w=.go x w' n) (l:tq p.Mu w w') (y:∀e∈n,jw p.Mu e) (o:p.dF i s' {xs i with d:=deafBehind (xs i).d n,g:=x}) (V:holds s'↔holds (wt i)) (M:early s'->early (wt i)) (z:locking s'->p.locks i=true) (N:phase s')
   (X:p.locks i=true->(past s'↔past (wt i))) (Y:∀v,s'=.cr v↔wt i=.cr v) (Z:5<=gV (wt i)) (hs:gV s'=8∨gV s'=7)
   (Q:∃m q,MuAt p.tM p.Mu w' m q/\MI p.B j (fun k=>fD (upd wt i s' k)) m q/\(q=0∨(mayWake p.P (xs i).g=true/\x.status=.running)∨∀k,k<j->f k=false)):
   ∃E F R O',runT p.P (crowd A w sl) (p.n0+i)=(.next (crowd E w' sl),MemOp.ofEvents (p.n0+i) (xs i).g.frame.fn (xs i).g.frame.place n)/\
    p.dV W j tag s F (upd wt i s') R (upd xs i {xs i with d:=deafBehind (xs i).d n,g:=x}) u O' D E w' (t++MemOp.ofEvents (p.n0+i) (xs i).g.frame.fn (xs i).g.frame.place n):=by
 have T:p.Mu<w.heap.size:=h.own.wV _ (.inl h.hW.2.1)
 have U:p.C≠p.Mu:=fun e=>h.hW.2.2.2.1 (e▸h.hW.2.1);refine h.worker (sl:=sl) r J (x':={xs i with d:=deafBehind (xs i).d n,g:=x}) L (xR h.hW.2.1 T l y) rfl o V (fun e=>?_) z N (Cell.same h.cell r X Y (.inr (l.heap _ U))) (fun e=>by omega) (fun e l=>gZ (y e l)) Q
   (He h r Z (by omega) (l.heap _ h.hW.2.2.1)) (fun F H _ _=>Dz h r (fun _=>by omega) H)
 obtain⟨a,b,c⟩:=h.wO i r (M e)
 refine⟨by rw[TG l.size];exact a,b,?_⟩;show aB (xs i).O (xs i).D (xs i).w w';rw[a,b];refine c.trans ⟨by rw[l.size];exact Nat.le_refl _,fun b H=>l.heap b fun e=>h.yT.ow _ b (by omega) H (e▸h.hW.2.1),fun b H=>l.heap b fun e=>h.yT.dw _ b (by omega) H (e▸h.hW.2.1),l.os,l.output,l.tape⟩
theorem dV.afu(h:p.dV W j tag s bl wt f xs u O D A w t){i:Nat}(H:i<j)(v:f i=false)(J:p.xk i (wt i) (xs i))(L:∀m q,MuAt p.tM p.Mu w m q->q=0)(x:stepG p.P false (xs i).g w=.go {(xs i).g with status:=.blocked} w #[]):
   ∃c d,runT p.P (crowd A w sl) (p.n0+i)=(.next (crowd c w sl),d)/\p.dV W j tag s bl wt (upd f i true) xs u O D c w (t++d):=by
 obtain⟨b,M,N⟩:=h.wk i H
 rw[v]at b;simp only[Bool.false_eq_true,if_false]at b;have l:=h.size
 have E:p.n0+i≠0:=by have:=h.hn0;omega
 have n:stepG p.P ((p.n0+i)==0) (xs i).g w=.go {(xs i).g with status:=.blocked} w #[]:=by
   have:((p.n0+i)==0)=false:=by simp;omega
   rw[this];exact x
 have a:=runT_crowd_go (P:=p.P) (sl:=sl) b n
 have Q:woken p.P (xs i).g {(xs i).g with status:=.blocked} w=id:=by funext o;simp[woken]
 rw[Q,Array.map_id]at a;have R:t++MemOp.ofEvents (p.n0+i) (xs i).g.frame.fn (xs i).g.frame.place #[]=t:=by simp[MemOp.ofEvents]
 refine⟨_,_,a,?_⟩;rw[R];refine⟨h.hn0,by simpa using l,by rw[Array.getElem?_setIfInBounds_ne (by omega)];exact h.main,h.blk,h.seat,h.O0,h.D0,h.rely,h.deaf,fun k y=>?_,fun k y F=>?_,h.wO,h.J5,h.ph,fun k r z=>?_,h.ti,h.own,h.hW,h.tok,h.hold,h.cell,h.over,h.norel,?_,h.md,h.left⟩
 · obtain⟨B,C⟩:=h.wk k y
   refine⟨?_,C⟩;by_cases e:k=i
   ·subst e;rw[upd_same];rw[Array.getElem?_setIfInBounds_self_of_lt (by rw[l];omega)];rfl
   ·rw[upd_ne f _ e,Array.getElem?_setIfInBounds_ne (by omega)];exact B
 · by_cases e:k=i
   ·subst e;exact J
   ·rw[upd_ne f _ e]at F;exact h.bs k y F
 · obtain⟨B,C⟩:=h.lv k r z
   exact⟨by rw[Array.getElem?_setIfInBounds_ne (by omega)];exact B,C⟩
 · obtain⟨m,q,r,z,_⟩:=h.mi
   exact⟨m,q,r,z,fun _ _ _=>L m q r⟩
theorem dV.take(h:p.dV W j tag s bl wt f xs u O D A w t){i:Nat}(o:i<j)(U:f i=false)(L:wt i=.ac)(V:(xs i).d=0){X:Goroutine}
   (Y:stepG p.P false (xs i).g w=.go X w #[Go.ConcR.mk (.acquire (stA p.Mu))]) (hT:p.UL i (xs i).O (xs i).D (xs i).w X):
   ∃q r M v x' O' Z,runT p.P (crowd A w sl) (p.n0+i)=(.next (crowd q w sl),Z)/\p.dF i (.cr v) x'/\p.dV W j tag s r (upd wt i (.cr v)) M (upd xs i x') u O' D q w (t++Z):=by
 obtain⟨N,b0,a5⟩:=h.wk i o
 have E:=a5
 rw[V]at E;rw[U]at N;simp only[Bool.false_eq_true,if_false]at N;have a0:=h.size
 have b1:=h.hn0
 have a6:p.Mu<w.heap.size:=h.own.wV _ (.inl h.hW.2.1)
 have m:free j wt:=fun k F hh=>by
   have:=h.one o F (by rw[L];rfl) (U8 hh)
   subst this;rw[L]at hh;exact hh
 obtain⟨order,c1,c2,c3,c4,c5⟩:=h.cell
 have Q:=c5 fun k F v e=>m k F (by rw[e];trivial)
 obtain⟨a,b,c⟩:=h.wO i o (by rw[L];trivial)
 have a7:¬O (p.n0+i) p.C:=fun x=>h.own.ow _ _ (by omega) x (.inr ⟨m,rfl⟩)
 have a8:¬D (p.n0+i) p.C:=fun x=>h.own.dw _ _ (by omega) x (.inr ⟨m,rfl⟩)
 have a9:=hT w (p.fold order) (by rw[a,b];exact c) c3 Q (by rw[a];exact a7) (by rw[b];exact a8) h.hW.2.2.2.2;have a1:∀e∈#[Go.ConcR.mk (.acquire (stA p.Mu))],jw p.Mu e:=by intro e he;rw[Array.mem_singleton]at he;exact .inr (.inr (.inr (.inl he)))
 have hG:=xR (p:=p) (k:=p.n0+i) (O:=O) (D:=D) h.hW.2.1 a6 (tq.refl p.Mu w) a1;have a2:=h.ti
 have H:=h.yT
 rw[←a0]at a2 H;have a3:stepG p.P ((p.n0+i)==0) (xs i).g w=.go X w #[Go.ConcR.mk (.acquire (stA p.Mu))]:=by
   have:((p.n0+i)==0)=false:=by simp;omega
   rw[this];exact Y
 obtain⟨_,J,_⟩:=kV (sl:=sl) N a3 a2 H hG
 rw[a0,uS]at J;have e1:=yU (p.n0+i) (xs i).g.frame.fn (xs i).g.frame.place (.acquire (stA p.Mu));have R:∀l,inB (· =p.C) l->Perm (t++MemOp.ofEvents (p.n0+i) (xs i).g.frame.fn (xs i).g.frame.place #[Go.ConcR.mk (.acquire (stA p.Mu))]) (p.n0+i) l:=by rw[e1];exact(h.tok m).acquire (z:=⟨p.n0+i,(xs i).g.frame.fn,(xs i).g.frame.place,.mark (.acquire (stA p.Mu))⟩) (by show p.n0+i<p.n0+j;omega) (Nat.le_add_right _ _) rfl E (h.norel _)
 have a4:¬free j (upd wt i (.cr (p.fold order))):=fun hf=>hf i o (by rw[upd_same];trivial)
 have T:Own (fun b=>W b∨(True/\b=p.C)) O D (p.n0+j) w.heap.size:=by
   have:=h.own
   rw[uP (iff_true_intro m)]at this;exact this
 have et:G8 O (p.n0+i) p.C (p.n0+i)=fun b=>O (p.n0+i) b∨b=p.C:=by funext b;unfold G8;exact propext ⟨fun x=>x.imp id fun y=>y.2,fun x=>x.imp id fun y=>⟨rfl,y⟩⟩
 have n:p.dF i (.cr (p.fold order)) ⟨fun b=>(xs i).O b∨b=p.C,(xs i).D,0,X,w⟩:=a9
 have B:p.Cell j (upd wt i (.cr (p.fold order))) w:=by
   refine⟨order,c1,fun k=>?_,c3,fun k F v e=>?_,fun hn=>absurd (upd_same wt i _) (hn i o _)⟩
   ·rw[c2];by_cases e:k=i
    ·subst e;rw[upd_same,L];exact⟨fun x=>x.2.2.elim,fun x=>x.2.2.elim⟩
    ·rw[upd_ne wt _ e]
   ·by_cases e':k=i
    ·subst e';rw[upd_same]at e;cases e;rfl
    ·rw[upd_ne wt _ e']at e;exact absurd (show holds (wt k) by rw[e];trivial) (m k F)
 obtain⟨q,r,M,k1,k2⟩:=h.I4 (sl:=sl) o U (x':=⟨fun b=>(xs i).O b∨b=p.C,(xs i).D,0,X,w⟩) (es:=#[Go.ConcR.mk (.acquire (stA p.Mu))]) (w':=w) (s':=.cr (p.fold order)) (O':=G8 O (p.n0+i) p.C) Y
   (by rw[V];rfl) n (Nat.le_refl _) (fun k F b2=>.refl _) (fun k F=>by funext b;unfold G8;exact propext ⟨fun x=>x.resolve_right fun y=>F y.1,.inl⟩) (Go.Mx.TI.take J R) (Go.Mx.Own.take T (by omega) h.hW.2.2.2.1 _ a4)
   (fun _=>⟨by show(fun b=>(xs i).O b∨b=p.C)=_;rw[et,a],b,.refl _⟩) (fun _=>h.J5 i o (by rw[L];trivial)) trivial (fun hf=>absurd hf a4) (fun _=>.inr ⟨rfl,rfl⟩) B (fun e=>by simp[gV]at e) (fun e he=>gZ (a1 e he))
   (rD h (by rw[L];rfl) rfl) (He h o (by rw[L];simp[gV]) (.inl rfl) rfl) (fun r hb _ _=>Dz h o (fun _=>by simp[gV]) hb)
 exact⟨q,r,M,_,_,_,_,k1,n,k2⟩
theorem dV.give(h:p.dV W j tag s bl wt f xs u O D A w t){i:Nat}(o:i<j)(L:f i=false)(B:wt i=.rl)(M:(xs i).d=0){N:Goroutine}
   (Q:stepG p.P false (xs i).g w=.go N w #[Go.ConcR.mk (.releaseMerge (stA p.Mu))]) (E:p.dF i .ds {xs i with d:=0,g:=N}):
   ∃c m F O' R,runT p.P (crowd A w sl) (p.n0+i)=(.next (crowd c w sl),R)/\p.dV W j tag s m (upd wt i .ds) F (upd xs i {xs i with d:=0,g:=N}) u O' D c w (t++R):=by
 obtain⟨H,a3,a0⟩:=h.wk i o
 have q:=a0
 rw[M]at q;rw[L]at H;simp only[Bool.false_eq_true,if_false]at H;have T:=h.size
 have a4:=h.hn0
 have a1:p.Mu<w.heap.size:=h.own.wV _ (.inl h.hW.2.1)
 have a:=h.hold i o (by rw[B];trivial)
 have U:¬free j wt:=fun hf=>hf i o (by rw[B];trivial)
 have V:∀e∈#[Go.ConcR.mk (.releaseMerge (stA p.Mu))],jw p.Mu e:=by intro e he;rw[Array.mem_singleton]at he;exact .inr (.inr (.inl he))
 have hG:=xR (p:=p) (k:=p.n0+i) (O:=O) (D:=D) h.hW.2.1 a1 (tq.refl p.Mu w) V;have X:=h.ti
 have r:=h.yT
 rw[←T]at X r;have Y:stepG p.P ((p.n0+i)==0) (xs i).g w=.go N w #[Go.ConcR.mk (.releaseMerge (stA p.Mu))]:=by
   have:((p.n0+i)==0)=false:=by simp;omega
   rw[this];exact Q
 obtain⟨_,z,_⟩:=kV (sl:=sl) H Y X r hG
 rw[T,uS]at z;have e1:=yU (p.n0+i) (xs i).g.frame.fn (xs i).g.frame.place (.releaseMerge (stA p.Mu));have J:Own (fun b=>W b∨(False/\b=p.C)) O D (p.n0+j) w.heap.size:=by
   have:=h.own
   rw[uP (iff_false_intro U)]at this;exact this
 have a2:∀k,k≠p.n0+i->Lt O (p.n0+i) p.C k=O k:=fun k hk=>by funext b;unfold Lt;exact propext ⟨fun x=>x.1,fun x=>⟨x,fun e=>hk e.1⟩⟩
 have Z:free j (upd wt i .ds)->FreeTok p.C p.Mu p.n0 (t++MemOp.ofEvents (p.n0+i) (xs i).g.frame.fn (xs i).g.frame.place #[Go.ConcR.mk (.releaseMerge (stA p.Mu))]) (p.n0+j):=fun _=>by rw[e1];exact FreeTok.release (y:=⟨p.n0+i,(xs i).g.frame.fn,(xs i).g.frame.place,.mark (.releaseMerge (stA p.Mu))⟩) (fun l hl=>h.ti.own (p.n0+i) (by omega) l (jf (fun b (hb:b=p.C)=>hb▸a) hl)) rfl q
 have n:p.Cell j (upd wt i .ds) w:=Cell.same h.cell o (fun _=>by rw[B];exact⟨fun _=>trivial,fun _=>trivial⟩) (fun v=>by rw[B];exact⟨fun e=>(by cases e),fun e=>(by cases e)⟩) (.inr rfl)
 obtain⟨c,m,F,k1,k2⟩:=h.I4 (sl:=sl) o L (x':={xs i with d:=0,g:=N}) (es:=#[Go.ConcR.mk (.releaseMerge (stA p.Mu))]) (w':=w) (s':=.ds) (O':=Lt O (p.n0+i) p.C) Q
   (by rw[M];rfl) E (Nat.le_refl _) (fun k hk a5=>.refl _) a2 (Go.Mx.TI.give (p.n0+i) z) (Go.Mx.Own.give J (i:=p.n0+i) (by omega) a h.hW.2.2.2.2 _)
   (fun e=>e.elim) (fun _=>h.J5 i o (by rw[B];trivial)) trivial Z (fun e=>e.elim) n (fun e=>by simp[gV]at e) (fun e he=>gZ (V e he))
   (rD h (by rw[B];rfl) rfl) (He h o (by rw[B];simp[gV]) (.inl rfl) rfl) (fun m hb _ _=>Dz h o (fun _=>by simp[gV]) hb)
 exact⟨c,m,F,_,_,k1,k2⟩
end Ph
end Go.Mx
namespace Go.Mx
open Go.Ren
open Go.Conc hiding Goes mem_ofEvents
open Go.ConcN (sumTo upd upd_same upd_ne RelBy get_map_set get_map_set_same WgLive PermW)
open Go.Conc.Lib (WgLink)
open Go.ConcR (KK WgAt stA smA rd wr g_of_ofEvents loc_of_ofEvent)
theorem Nx.ofL{R:Lk->Nat->Goroutine->Prop}{E:Nat->Goroutine->Prop}{y:Lk}{d:Nat}{g:Goroutine}(a:isL y)(h:Nx R E y d g):R y d g:=by
 cases y<;>first|exact h|exact a.elim
theorem Nx.ofU{R:Lk->Nat->Goroutine->Prop}{E:Nat->Goroutine->Prop}{y:Lk}{d:Nat}{g:Goroutine}(a:isU y)(b:y≠.own)(h:Nx R E y d g):R y d g:=by
 cases y<;>first|exact h|exact absurd rfl b|exact a.elim
theorem Mv.abR{m a:Wd}{q b:Nat}{x y:Lk}(h:Mv m q x a b y)(c:isU x):y≠.own:=by
 cases h<;>first|(intro e;cases e;done)|exact c.elim
theorem Mv.aev{m b:Wd}{q a:Nat}{x y:Lk}(h:Mv m q x b a y)(c:x≠.us):a<=q:=by
 cases h<;>first|exact Nat.le_refl _|exact Nat.le_succ _|exact absurd rfl c
namespace Ph
variable{p:Ph}{W:Nat->Prop}{j:Nat}{tag:fM}{l:Pos}{bl:Bool}{c:Nat->WT}{y:Nat->Bool}{xs o:Nat->Pos}{O D:Nat->Nat->Prop}{u:Array Goroutine}{w w':World}{sl:Option (Nat×Nat)}{t:Trace}
theorem dV.akS(h:p.dV W j tag l bl c y xs o O D u w t){i:Nat}(m:i<j)(e:¬holds (c i)):¬O (p.n0+i) p.C:=by
 intro a;by_cases b:free j c
 · exact h.own.ow _ _ (by omega) a (.inr ⟨b,rfl⟩)
 · apply b;intro k f d;have g:=h.hold k f d
   have:=h.own.oo _ _ _ (by omega) (by omega) a g
   have:i=k:=by omega
   subst this;exact e d
theorem dV.lib(h:p.dV W j tag l bl c y xs o O D u w t){i:Nat}(V:i<j)(F:y i=false){x:Goroutine}{es:Array Event}{k k':Nat}(E:c i=.fin k)
   (H:stepG p.P false (xs i).g w=.go x w' es) (X:w'=w∨∃a v,a.block=p.Wg/\w'=w.setCell a v) (z:∀e∈es,jw p.Wg e) (n:p.dF i (.fin k') {xs i with d:=deafBehind (xs i).d es,g:=x})
   (s:k'<=5->∃r,Over (stA p.Wg) W (t++MemOp.ofEvents (p.n0+i) (xs i).g.frame.fn (xs i).g.frame.place es) (p.n0+i) r)
   (J:∃a b,WgAt p.L.tWg p.Wg w' a b/\Md j (upd (fun k=>gV (c k)) i k') tag a b)
   (M:∀f:Bool,bl=true->(mayWake p.P (xs i).g=true->(x.status=.running∨x.status=.finished)->f=false)->f=true->∃q,q<j/\2<=gV (upd c i (.fin k') q)):
   ∃A f N Y,runT p.P (crowd u w sl) (p.n0+i)=(.next (crowd A w' sl),MemOp.ofEvents (p.n0+i) (xs i).g.frame.fn (xs i).g.frame.place es)/\
    p.dV W j tag l f (upd c i (.fin k')) N (upd xs i {xs i with d:=deafBehind (xs i).d es,g:=x}) o Y D A w' (t++MemOp.ofEvents (p.n0+i) (xs i).g.frame.fn (xs i).g.frame.place es):=by
 have Q:p.Wg<w.heap.size:=h.own.wV _ (.inl h.hW.1)
 have B:∀e∈es,IY W (p.n0+i) e/\(MemAct.ofEvent e).low w.heap.size:=fun e R=>xU h.hW.1 Q (z e R);have Z:oh (IY W (p.n0+i)) W (O (p.n0+i)) (D (p.n0+i)) w w' es:=by
   rcases X with rfl|⟨a,v,T,rfl⟩
   ·exact rE B
   ·exact DC (by rw[T];exact h.hW.1) B
 have m:∀b,b≠p.Wg->w'.heap[b]?=w.heap[b]?:=fun b hb=>by
   rcases X with rfl|⟨a,v,T,rfl⟩
   ·rfl
   ·exact eY (by rw[T];exact hb)
 have U:p.C≠p.Wg:=fun e=>h.hW.2.2.2.1 (e▸h.hW.1);refine h.worker (sl:=sl) V F (x':={xs i with d:=deafBehind (xs i).d es,g:=x}) H Z rfl n (by rw[E];exact Iff.rfl) (fun e=>e.elim) (fun e=>e.elim) trivial
   (Cell.same h.cell V (fun _=>by rw[E];exact Iff.rfl) (fun v=>by rw[E];exact⟨fun e=>(by cases e),fun e=>(by cases e)⟩) (.inr (m _ U))) s (fun e R=>gZ (z e R))
   (rD h (by rw[E];rfl) (m _ h.hW.2.2.1.symm)) ?_ M
 obtain⟨a,b,m1,m2⟩:=J
 exact⟨a,b,m1,by rw[nH];exact m2⟩
theorem YH(h:p.dV W j tag l bl c y xs o O D u w t){i k k':Nat}(a:c i=.fin k){b:Pos}(d:w'.heap[p.Mu]?=w.heap[p.Mu]?)(f:k'<k∨(k'=k/\p.WNx i (.fin k) b (xs i))):I5 p j c xs w i (.fin k') b w':=by
 refine kW h (by rw[a];rfl) d ?_;rw[a];exact f.imp (fun x _=>x) (fun⟨e,x⟩=>⟨by rw[e],x⟩)
theorem dV.adN(hn:p.n<2147483647)(h:p.dV W j tag l bl c y xs o O D u w t){i:Nat}(H:i<j)(a2:y i=false)(hr:(xs i).g.status=.running){s:Nat}(hs:c i=.fin s):
   xQ p W j tag l c xs o D t w i (runT p.P (crowd u w sl) (p.n0+i)) sl:=by
 obtain⟨e5,F,a7⟩:=h.wk i H
 have c0:=h.inv
 have hl:Lv p.L p.Wg w:=c0.1;have hj:=h.jn
 have b3:p.Mu≠p.Wg:=h.hW.2.2.1.symm;obtain⟨B,Y⟩:∃B:Nat->Nat,B=fun k=>gV (c k):=⟨_,rfl⟩
 have Q:B i=s:=by rw[Y];show gV (c i)=s;rw[hs];rfl
 have a6:∃a b,WgAt p.L.tWg p.Wg w a b/\Md j B tag a b:=by rw[Y];exact h.md
 have d0:∀k' k,gV (upd c i (.fin k') k)=upd B i k' k:=fun k' k=>by
   have:=congrFun (nH gV c i (.fin k')) k
   rw[Y];exact this
 have Z:∀{k':Nat} {J:Goroutine} {w':World} {es:Array Event},(w'.heap[p.Mu]?=w.heap[p.Mu]?)->p.dF i (.fin k') {xs i with d:=deafBehind (xs i).d es,g:=J}->(k'<s∨(k'=s/\p.WNx i (.fin s) {xs i with d:=deafBehind (xs i).d es,g:=J} (xs i)))->
    (∃a9 T b4 O',runT p.P (crowd u w sl) (p.n0+i)=(.next (crowd a9 w' sl),MemOp.ofEvents (p.n0+i) (xs i).g.frame.fn (xs i).g.frame.place es)/\
     p.dV W j tag l T (upd c i (.fin k')) b4 (upd xs i {xs i with d:=deafBehind (xs i).d es,g:=J}) o O' D a9 w' (t++MemOp.ofEvents (p.n0+i) (xs i).g.frame.fn (xs i).g.frame.place es))->
    xQ p W j tag l c xs o D t w i (runT p.P (crowd u w sl) (p.n0+i)) sl:=by
   rintro k' J w' es hw z ho ⟨a9,T,b4,O',h1,h2⟩;exact⟨a9,w',T,b4,_,_,O',by rw[h1],z,YH h hs hw ho,by rw[h1];exact h2⟩
 have a0:∃a b,WgAt p.L.tWg p.Wg w a b/\Md j (upd (fun k=>gV (c k)) i s) tag a b:=by
   obtain⟨a,b,U,m2⟩:=a6
   rw[←Y];exact⟨a,b,U,m2.same Q⟩
 have E:∀{k'},(2<=s->2<=k')->bl=true->∃k,k<j/\2<=gV (upd c i (.fin k') k):=fun hk=>Dz h H (by rw[hs];exact hk)
 have M:s<=5->∃r,Over (stA p.Wg) W t (p.n0+i) r:=fun h5=>h.over i H (by rw[hs];exact h5)
 have a5:∀{S:Nat->Goroutine->Prop},2<=s->(∀x:Pos,p.dF i (.fin s) x=af p.P false (Lv p.L p.Wg) X0 S x.d x.g)->p.WNx i (.fin s)=II p.P false (Lv p.L p.Wg) S->
    ¬S (xs i).d (xs i).g->(∃J,stepG p.P false (xs i).g w=.go J w #[]/\af p.P false (Lv p.L p.Wg) X0 S (xs i).d J)->
    xQ p W j tag l c xs o D t w i (runT p.P (crowd u w sl) (p.n0+i)) sl:=by
   rintro S h2 hW hN d1 ⟨J,C,V⟩;have z:p.dF i (.fin s) {xs i with d:=deafBehind (xs i).d #[],g:=J}:=by rw[hW];exact V
   refine Z (k':=s) (es:=#[]) rfl z (.inr ⟨rfl,?_⟩) (h.lib H a2 hs C (.inl rfl) (by simp) z (fun h5=>?_) a0 (fun T hb _ _=>E (fun _=>h2) hb))
   ·rw[hN];exact⟨d1,w,w,#[],hl,C,rfl⟩
   ·obtain⟨r,hr⟩:=M h5
    exact⟨r,by simpa [MemOp.ofEvents]using hr⟩
 rw[hs]at F;match s,F with
 | 7,F=>
   rcases uT F hl with N|⟨a4,N⟩
   ·obtain⟨c1,a3,J,C,V⟩:=N
    have z:p.dF i (.fin 5) {xs i with d:=deafBehind (xs i).d #[Go.ConcR.mk (.releaseMerge (stA p.Wg))],g:=J}:=by show af p.P false (Lv p.L p.Wg) XD (AZ p.P p.L p.Wg) (deafBehind (xs i).d #[Go.ConcR.mk (.releaseMerge (stA p.Wg))]) J;rw[c1];exact V
    refine Z (k':=5) rfl z (.inl (by omega)) (h.lib H a2 hs (C w hl) (.inl rfl) (by intro e A;rw[Array.mem_singleton]at A;exact .inr (.inr (.inl A))) z
     (fun _=>⟨_,Over.new (by rw[a7];exact c1)⟩) ?_ (fun T hb _ _=>E (fun _=>by omega) hb))
    obtain⟨a,b,U,m2⟩:=a6
    rw[←Y];exact⟨a,b,U,m2.counted H (by omega) (.inr (.inr rfl))⟩
   ·exact a5 (by omega) (fun x=>rfl) rfl a4 N
 | 5,F=>
   obtain⟨r,X⟩:=M (by omega)
   by_cases N:AZ p.P p.L p.Wg (xs i).d (xs i).g
   ·obtain⟨R,a3,c2⟩:=N
    obtain⟨a,b,U,m2⟩:=a6
    have bk2:∀e∈#[rd (stA p.Wg),wr (stA p.Wg)],Go.ConcR.Bk p.Wg e:=by intro e A;simp at A;rcases A with rfl|rfl<;>exact .inr (.inr ⟨_,_,rfl,rfl⟩)
    have d4:∀e∈#[rd (stA p.Wg),wr (stA p.Wg)],jw p.Wg e:=by intro e A;simp at A;rcases A with rfl|rfl<;>exact .inr (.inr (.inr (.inr ⟨_,_,rfl,rfl⟩)))
    have d5:∀jx e,(#[rd (stA p.Wg),wr (stA p.Wg)]:Array Event)[jx]?=some e->(MemAct.ofEvent e).touch?=none∨0<deafBehind 1 ((#[rd (stA p.Wg),wr (stA p.Wg)]:Array Event).extract 0 jx):=by
     intro jx e A;match jx,A with
     |0,_=>exact .inr (by simp[deafBehind])
     |1,_=>exact .inr (by simp[deafBehind,rd])
     |jx+2,A=>simp at A
    have e6:=Og H (by omega:5<=B i)
    have e7:=YI j B
    have b2:=fun s (H:i<j)=>Oh (st:=B) (i:=i) (j:=j) s H
    have c5:pO (B i)=1:=by rw[Q];rfl
    have c3:deafBehind 1 #[rd (stA p.Wg),wr (stA p.Wg)]=1:=by simp[deafBehind,rd,wr]
    have go:∀v a1:Nat,a1<=1->v<2147483647->WgAt p.L.tWg p.Wg w ((v+1)*KK+a1) 0->∀s',((v=0/\a1=1)->s'=4)->(¬(v=0/\a1=1)->s'=1)->Md j (upd B i s') tag (v*KK+a1) 0->(bl=true->∃k,k<j/\2<=upd B i s' k)->
      xQ p W j tag l c xs o D t w i (runT p.P (crowd u w sl) (p.n0+i)) sl:=by
     intro v a1 h1 h2 h3 s' c4 c6 d6 hb;obtain⟨J,C,d7,d8⟩:=c2 v a1 h1 h2
     have z:p.dF i (.fin s') {xs i with d:=deafBehind (xs i).d #[rd (stA p.Wg),wr (stA p.Wg)],g:=J}:=by
      by_cases hc:v=0/\a1=1
      ·rw[c4 hc];show af p.P false (Lv p.L p.Wg) X0 (WLd p.P p.L p.Wg) (deafBehind (xs i).d #[rd (stA p.Wg),wr (stA p.Wg)]) J;rw[R,c3];exact d7 hc
      ·rw[c6 hc];show∃q,QuitsD p.P q (deafBehind (xs i).d #[rd (stA p.Wg),wr (stA p.Wg)]) J
       rw[R,c3];exact d8 hc
     have c7:s'<5:=by
      by_cases hc:v=0/\a1=1
      ·rw[c4 hc];omega
      ·rw[c6 hc];omega
     refine Z (k':=s') ((eY (a:=stA p.Wg) b3)) z (.inl c7) (h.lib H a2 hs (C w hl h3) (.inr ⟨_,_,rfl,rfl⟩) d4 z (fun _=>⟨r,X.book h.hW.1 (by rw[a7,R]) bk2 d5⟩) ⟨_,_,h3.setSt _,by rw[←Y];exact d6⟩ (fun T b0 _ _=>?_));obtain⟨k,hk,h2⟩:=hb b0
     exact⟨k,hk,by rw[d0];exact h2⟩
    cases m2 with
    | @opn tag h1 h2 h3=>
     obtain⟨v,hv⟩:∃v,Vn j B+mX tag=v+1:=⟨Vn j B+mX tag-1,by omega⟩
     have d9:mX tag<=1:=by unfold mX;split<;>omega
     have b1:Vn j (upd B i 1)+1=Vn j B:=by have:=b2 1 H;have:pO 1=0:=rfl;omega
     refine go v 0 (by omega) (by omega) (by rw[hv]at U;simpa using U) 1 (fun x=>by omega) (fun _=>rfl) ?_ (fun e=>?_)
     ·have e2:v=Vn j (upd B i 1)+mX tag:=by omega
      have:=Md.opn (j:=j) (st:=upd B i 1) h1 (h2.upd (by simp)) (U9 (by omega) h3)
      rw[e2];simpa using this
     ·obtain⟨⟨gT,e1,_⟩,_⟩:=h.blk e
      subst e1;exact h1.elim
    | @reg gT h2 h3=>
     have b1:∀s',pO s'=0->Vn j (upd B i s')+1=Vn j B:=fun s' h0=>by have:=b2 s' H;omega
     obtain⟨v,hv⟩:∃v,Vn j B=v+1:=⟨Vn j B-1,by omega⟩
     rw[hv]at U;rcases Nat.eq_zero_or_pos v with rfl|f0
     ·have c8:=LC h2 H (by omega) (by omega)
      refine go 0 1 (by omega) (by omega) (by simpa using U) 4 (fun _=>rfl) (fun x=>absurd ⟨rfl,rfl⟩ x) ?_ (fun _=>⟨i,H,by rw[upd_same];omega⟩);have:=Md.last (gT:=gT) (j:=j) (st:=upd B i 4) i H (.inl (upd_same _ _ _)) (fun k hk e=>by rw[upd_ne B _ e];exact c8 k hk e)
      simpa [upd_same]using this
     ·refine go v 1 (by omega) (by omega) (by simpa using U) 1 (fun x=>by omega) (fun _=>rfl) ?_ (fun _=>?_)
      ·have:=Md.reg (gT:=gT) (j:=j) (st:=upd B i 1) (h2.upd (by simp)) (by have:=b1 1 rfl;omega)
       have e2:v=Vn j (upd B i 1):=by have:=b1 1 rfl;omega
       rw[e2];simpa using this
      ·obtain⟨k,hk,h5⟩:=wH (j:=j) (st:=upd B i 1) (by have:=b1 1 rfl;omega)
       exact⟨k,hk,by omega⟩
    |last K h2 h3 h4=>
     by_cases e:i=K
     ·subst e;omega
     ·have:=h4 i H e;omega
    |sema h2=>have:=h2 i H;omega
    |fin h1 h2=>have:=h2 i H;omega
   ·have a8:af p.P false (Lv p.L p.Wg) XD (AZ p.P p.L p.Wg) (xs i).d (xs i).g:=F
    generalize c9:(xs i).d=dd at a8 N
    generalize b5:(xs i).g=gg at a8 N
    cases a8 with
    |stop hy=>exact absurd hy N
    |step a3 f es hk k=>
     obtain⟨C,A⟩:=hk w hl
     have b6:=k w hl
     have z:p.dF i (.fin 5) {xs i with d:=deafBehind (xs i).d (es w),g:=f w}:=by show af p.P false (Lv p.L p.Wg) XD (AZ p.P p.L p.Wg) (deafBehind (xs i).d (es w)) (f w);rw[c9];exact b6
     refine Z (k':=5) rfl z (.inr ⟨rfl,?_⟩) (h.lib H a2 hs (by rw[b5];exact C) (.inl rfl) (fun e N=>.inl (by rw[(A e N).1];rfl)) z (fun _=>⟨r,X.book h.hW.1 rfl (fun e N=>.inl (by rw[(A e N).1];rfl)) (fun jx e N=>.inl ?_)⟩) a0 (fun T hb _ _=>E (fun _=>by omega) hb))
     ·show II p.P false (Lv p.L p.Wg) (AZ p.P p.L p.Wg) _ _;exact⟨by rw[c9,b5];exact N,w,w,es w,hl,by rw[b5];exact C,rfl⟩
     ·have:=(A e (Array.mem_of_getElem? N)).1;rw[this];rfl
 | 4,F=>
   rcases uT F hl with N|⟨a4,N⟩
   ·obtain⟨r,X⟩:=M (by omega)
    obtain⟨R,a3,J,C,V⟩:=N
    obtain⟨a,b,U,m2⟩:=a6
    obtain⟨⟨gT,rfl⟩,ho,rfl,rfl⟩:=m2.isLast H (.inl Q)
    have e1:(if B i=2 then(0:Int)else 1)=1:=by rw[Q];rfl
    rw[e1]at U;have z:p.dF i (.fin 3) {xs i with d:=deafBehind (xs i).d #[rd (stA p.Wg)],g:=J}:=by show af p.P false (Lv p.L p.Wg) X0 (WSt p.P p.L p.Wg) (deafBehind (xs i).d #[rd (stA p.Wg)]) J;rw[R];exact V
    refine Z (k':=3) rfl z (.inl (by omega)) (h.lib H a2 hs (C w hl U) (.inl rfl) (by intro e A;simp at A;subst A;exact .inr (.inr (.inr (.inr ⟨_,_,rfl,rfl⟩)))) z
     (fun _=>⟨r,X.book h.hW.1 (by rw[a7,R]) (by intro e A;simp at A;subst A;exact .inr (.inr ⟨_,_,rfl,rfl⟩)) (by intro jx e A;match jx,A with|0,_=>exact .inr (by simp[deafBehind])|jx+1,A=>simp at A)⟩) ⟨_,_,U,?_⟩ (fun T hb _ _=>E (fun _=>by omega) hb))
    rw[←Y];have:=Md.last (gT:=gT) (j:=j) (st:=upd B i 3) i H (.inr (.inl (upd_same _ _ _))) (fun k hk e=>by rw[upd_ne B _ e];exact ho k hk e)
    simpa [upd_same]using this
   ·exact a5 (by omega) (fun x=>rfl) rfl a4 N
 | 3,F=>
   rcases uT F hl with N|⟨a4,N⟩
   ·obtain⟨r,X⟩:=M (by omega)
    obtain⟨R,a3,J,C,V⟩:=N
    obtain⟨a,b,U,m2⟩:=a6
    obtain⟨⟨gT,rfl⟩,ho,rfl,rfl⟩:=m2.isLast H (.inr (.inl Q))
    have e1:(if B i=2 then(0:Int)else 1)=1:=by rw[Q];rfl
    rw[e1]at U;have z:p.dF i (.fin 2) {xs i with d:=deafBehind (xs i).d #[wr (stA p.Wg)],g:=J}:=by show af p.P false (Lv p.L p.Wg) X0 (XV p.P p.L p.Wg) (deafBehind (xs i).d #[wr (stA p.Wg)]) J;rw[R];exact V
    refine Z (k':=2) (eY (a:=stA p.Wg) b3) z (.inl (by omega)) (h.lib H a2 hs (C w hl U) (.inr ⟨_,_,rfl,rfl⟩) (by intro e A;simp at A;subst A;exact .inr (.inr (.inr (.inr ⟨_,_,rfl,rfl⟩)))) z
     (fun _=>⟨r,X.book h.hW.1 (by rw[a7,R]) (by intro e A;simp at A;subst A;exact .inr (.inr ⟨_,_,rfl,rfl⟩)) (by intro jx e A;match jx,A with|0,_=>exact .inr (by simp[deafBehind])|jx+1,A=>simp at A)⟩) ⟨_,_,U.setSt 0,?_⟩ (fun T hb _ _=>E (fun _=>by omega) hb))
    rw[←Y];have:=Md.last (gT:=gT) (j:=j) (st:=upd B i 2) i H (.inr (.inr (upd_same _ _ _))) (fun k hk e=>by rw[upd_ne B _ e];exact ho k hk e)
    simpa [upd_same]using this
   ·exact a5 (by omega) (fun x=>rfl) rfl a4 N
 | 2,F=>
   rcases uT F hl with N|⟨a4,N⟩
   ·obtain⟨r,X⟩:=M (by omega)
    obtain⟨R,a3,b7,J,C,q,V⟩:=N
    obtain⟨a,b,U,m2⟩:=a6
    obtain⟨⟨gT,rfl⟩,ho,rfl,rfl⟩:=m2.isLast H (.inr (.inr Q))
    have e1:(if B i=2 then(0:Int)else 1)=0:=by rw[Q];rfl
    rw[e1]at U;have e0:deafBehind 1 (semEvents (smA p.Wg))=1:=by simp[semEvents,deafBehind]
    have z:p.dF i (.fin 1) {xs i with d:=deafBehind (xs i).d (semEvents (smA p.Wg)),g:=J}:=by
     show∃q,QuitsD p.P q (deafBehind (xs i).d (semEvents (smA p.Wg))) J
     rw[R,e0];exact⟨q,V⟩
    refine Z (k':=1) (eY (a:=smA p.Wg) b3) z (.inl (by omega)) (h.lib H a2 hs (C w hl U) (.inr ⟨_,_,rfl,rfl⟩) TJ z
     (fun _=>⟨r,X.book h.hW.1 (by rw[a7,R]) Go.ConcN.bk_sem ?_⟩) ⟨_,_,U.setSm 1,?_⟩ (fun T hb hw b0=>?_))
    ·intro jx e A;match jx,A with
     |0,A=>simp[semEvents]at A;subst A;exact .inl rfl
     |1,_=>exact .inr (by simp[semEvents,deafBehind])
     |2,_=>exact .inr (by simp[semEvents,deafBehind])
     |3,A=>simp[semEvents]at A;subst A;exact .inl rfl
     |jx+4,A=>simp[semEvents]at A
    ·rw[←Y];refine Md.sema fun k hk=>?_
     by_cases e:k=i
     ·subst e;rw[upd_same]
     ·rw[upd_ne B _ e];exact ho k hk e
    ·rw[hw b7 V.status]at b0;cases b0
   ·exact a5 (by omega) (fun x=>rfl) rfl a4 N
 | 1,F=>
   obtain⟨q,hq⟩:=F
   obtain⟨r,X⟩:=M (by omega)
   rcases q with _|q
   ·have:=hq.1;rw[hr]at this;cases this
   ·rcases hq with⟨h1,_⟩|⟨_,J,es,b8,C,e3⟩
    ·rw[hr]at h1;cases h1
    ·have b9:∀e∈es,Go.ConcR.Bk p.Wg e/\jw p.Wg e/\(MemAct.ofEvent e).touch?=none:=fun e A=>by
      have hm:=b8 e A
      obtain⟨loc,wr,sy⟩:=e
      cases loc with
      |mark m=>cases m<;>first|exact⟨.inl rfl,.inl rfl,rfl⟩|exact⟨.inr (.inl rfl),.inr (.inl rfl),rfl⟩|simp[Event.mute]at hm
      |_=>simp[Event.mute]at hm
     have z:p.dF i (.fin 1) {xs i with d:=deafBehind (xs i).d es,g:=J}:=⟨q,e3⟩
     refine Z (k':=1) rfl z (.inr ⟨rfl,?_⟩) (h.lib H a2 hs (C w) (.inl rfl) (fun e A=>(b9 e A).2.1) z (fun _=>⟨r,X.book h.hW.1 rfl (fun e A=>(b9 e A).1) (fun jx e A=>.inl (b9 e (Array.mem_of_getElem? A)).2.2)⟩) a0 (fun T hb _ _=>E (fun x=>by omega) hb));exact⟨hr,w,w,es,C w,rfl⟩
 | 0,h=>exact h.elim
 | 6,h=>exact h.elim
 | s+8,h=>exact h.elim
end Ph
end Go.Mx
