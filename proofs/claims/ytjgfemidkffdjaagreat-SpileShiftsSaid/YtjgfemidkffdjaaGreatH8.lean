import Derived.Conc.CrowdComm
import Derived.Conc.CrowdStepC2
import Derived.Conc.Beside
import Derived.Test.YtjgfemidkffdjaaGreatH6
import Derived.Test.YtjgfemidkffdjaaGreatH7
set_option linter.all false
namespace Go.Ren
open Go.Conc hiding Goes mem_ofEvents
open Go.ConcN (sumTo upd upd_same upd_ne sumTo_congr sumTo_upd le_sumTo RelBy get_map_set get_map_set_same WgLive)
open Go.Conc.Lib (WgLink)
open Go.ConcR (KK WgAt stA smA rd wr mk g_of_ofEvents loc_of_ofEvent)
section
variable{P:Program}{X:Event->Prop}{W:Nat->Prop}{O D:Nat->Nat->Prop}{d:Array Goroutine}{w w':World}{sl:Option (Nat×Nat)}{t:Trace}{i j n:Nat}{g g':Goroutine}{es:Array Event}
structure oh(X:Event->Prop)(W O D:Nat->Prop)(w₁ w':World)(es:Array Event):Prop where
 size:w₁.heap.size<=w'.heap.size
 heap:∀c,c<w₁.heap.size->¬O c->¬W c->w'.heap[c]?=w₁.heap[c]?
 os:Tm w₁.os w'.os
 output:w'.output=w₁.output
 tape:w'.tape=w₁.tape
 ev:∀e∈es,gU X w'.heap.size (grow O w₁ w') D e
theorem aT.wide{O D:Nat->Prop}{a:Event->Prop}(h:aT X O D w w' es)(b:∀e,X e->a e):oh a W O D w w' es:=
 ⟨h.size,fun c f k _=>h.heap c f k,.of h.os,h.output,h.tape,fun e l=>(h.ev e l).imp (fun x=>⟨b e x.1,x.2⟩) id⟩
theorem oh.rely(e:oh X W (O i) (D i) w w' es)(a:Own W O D n w.heap.size)(l:i<n)(f:j<n)(k:j≠i):aB (O j) (D j) w w':=
 ⟨e.size,fun b c=>e.heap b (a.G9 j b f c) (fun h=>k (a.oo j i b f l c h)) (a.ow j b f c),fun b c=>e.heap b (a.YF j b f c) (fun h=>a.od i j b l f h c) (a.dw j b f c),e.os,e.output,e.tape⟩
theorem rE{O D:Nat->Prop}(h:∀e∈es,X e/\(MemAct.ofEvent e).low w.heap.size):oh X W O D w w es:=
 ⟨Nat.le_refl _,fun _ _ _ _=>rfl,.rfl,rfl,rfl,fun e a=>.inl (h e a)⟩
theorem DC{O D:Nat->Prop}{a:Addr}{v:Value}(f:W a.block)(h:∀e∈es,X e/\(MemAct.ofEvent e).low w.heap.size):oh X W O D w (w.setCell a v) es:=by
 have b:(w.setCell a v).heap.size=w.heap.size:=by simp
 refine⟨by rw[b];exact Nat.le_refl _,fun c m _ k=>?_,Tm.of (Go.Conc.aside_setCell w a v).os,(Go.Conc.aside_setCell w a v).output,(Go.Conc.aside_setCell w a v).tape,fun e l=>.inl (by rw[b];exact h e l)⟩;exact(Go.Conc.aside_setCell w a v).block c fun e=>k (e▸f)
theorem kV(h:d[i]?=some g)(b:stepG P (i==0) g w=.go g' w' es)(T:TI W O D d.size w.heap.size t)(a:Own W O D d.size w.heap.size)(c:oh (IY W i) W (O i) (D i) w w' es):
  runT P (crowd d w sl) i=(.next (crowd ((d.map (woken P g g' w')).setIfInBounds i g') w' sl),MemOp.ofEvents i g.frame.fn g.frame.place es)/\
  TI W (with_ O i w.heap.size w'.heap.size) D d.size w'.heap.size (t++MemOp.ofEvents i g.frame.fn g.frame.place es)/\Own W (with_ O i w.heap.size w'.heap.size) D d.size w'.heap.size:=by
 have k:i<d.size:=(Array.getElem?_eq_some_iff.1 h).1;refine⟨runT_crowd_go h b,T.step a k c.size (fun e f=>f) fun e f=>?_,a.grow k c.size⟩;have:=c.ev e f
 rw[←uQ]at this;exact this
end
inductive fM where
 |sp (r s:Nat)|w1 (v:Nat) (gT:Goroutine) (A:Goroutine->Prop)|w2 (v:Nat) (gT:Goroutine) (A:Goroutine->Prop)|w3 (gT:Goroutine)|w4 (gT:Goroutine)|acq (gT:Goroutine)
def rkM(n:Nat):fM->Nat
 | .sp r s=>8*n+8+2*r+s
 | .w1 v _ _=>8*v+6
 | .w2 v _ _=>8*v+4
 | .w3 _=>3
 | .w4 _=>2
 | .acq _=>1
def fM.toAdd:fM->Prop
 | .sp (_+1) 1=>True
 |_=>False
def mX:fM->Nat
 | .sp (_+1) 0=>1
 |_=>0
def aiN:fM->Prop
 | .sp _ _|.w1 _ _ _|.w2 _ _ _=>True
 |_=>False
def ald:fM->Prop
 | .w4 _|.acq _=>True
 |_=>False
def agx(v:Nat):fM->Prop
 | .w1 u _ _=>v<=u
 | .w2 u _ _=>v<=u/\1<=u
 |_=>True
def pO(s:Nat):Nat:=if 5<=s then 1 else 0
def Vn(j:Nat)(st:Nat->Nat):Nat:=sumTo j fun i=>pO (st i)
def Opn(j:Nat)(st:Nat->Nat):Prop:=∀i,i<j->st i=8∨st i=7∨st i=5∨st i=1
def abT(j:Nat)(a:Nat->Nat):Prop:=∀i,i<j->a i=1
inductive Md(j:Nat)(st:Nat->Nat):fM->Int->Int->Prop
 |opn {tag:fM} (h1:aiN tag) (h2:Opn j st) (h3:agx (Vn j st) tag):Md j st tag (((Vn j st+mX tag:Nat):Int)*KK) 0
 |reg {gT:Goroutine} (h2:Opn j st) (h3:1<=Vn j st):Md j st (.w3 gT) (((Vn j st:Nat):Int)*KK+1) 0
 |last {gT:Goroutine} (K:Nat) (h2:K<j) (h3:st K=4∨st K=3∨st K=2) (h4:∀i,i<j->i≠K->st i=1):Md j st (.w3 gT) (if st K=2 then 0 else 1) 0
 |sema {gT:Goroutine} (h2:abT j st):Md j st (.w3 gT) 0 1
 |fin {tag:fM} (h1:ald tag) (h2:abT j st):Md j st tag 0 0
section
variable{j i s':Nat}{st:Nat->Nat}{tag:fM}{a b:Int}
theorem Oh(s':Nat)(c:i<j):Vn j (upd st i s')+pO (st i)=Vn j st+pO s':=sumTo_upd st s' pO c
theorem U9{v d:Nat}(h:d<=v)(c:agx v tag):agx d tag:=by
 cases tag<;>first|exact trivial|exact Nat.le_trans h c|exact⟨Nat.le_trans h c.1,c.2⟩
theorem Opn.upd(h:Opn j st)(c:s'=8∨s'=7∨s'=5∨s'=1):Opn j (upd st i s'):=by
 intro k d;by_cases e:k=i
 ·subst e;rw[upd_same];exact c
 ·rw[upd_ne st _ e];exact h k d
theorem Md.counted(h:Md j st tag a b)(d:i<j)(o:5<=st i)(k:s'=8∨s'=7∨s'=5):Md j (upd st i s') tag a b:=by
 have f:Vn j (Go.ConcN.upd st i s')=Vn j st:=by
  have:=Oh (st:=st) s' d
  have t:pO (st i)=1:=by simp[pO,o]
  have u:pO s'=1:=by rcases k with rfl|rfl|rfl<;>rfl
  omega
 have l:Opn j st->Opn j (Go.ConcN.upd st i s'):=fun x=>x.upd (by rcases k with rfl|rfl|rfl<;>simp)
 cases h with
 |opn m c g=>rw[←f];exact .opn m (l c) (by rw[f];exact g)
 |reg c g=>rw[←f];exact .reg (l c) (by rw[f];exact g)
 |last K c g r=>
  by_cases e:i=K
  ·subst e;omega
  ·have:=r i d e;omega
 |sema c=>have:=c i d;omega
 |fin m c=>have:=c i d;omega
theorem Md.same(h:Md j st tag a b)(c:st i=s'):Md j (upd st i s') tag a b:=by
 have:Go.ConcN.upd st i s'=st:=by
  funext k;by_cases e:k=i
  ·subst e;rw[upd_same,c]
  ·rw[upd_ne st _ e]
 rw[this];exact h
theorem Md.isLast(h:Md j st tag a b)(d:i<j)(q:st i=4∨st i=3∨st i=2):
  (∃gT,tag=.w3 gT)/\(∀k,k<j->k≠i->st k=1)/\a=(if st i=2 then 0 else 1)/\b=0:=by
 cases h with
 |opn n c f=>have:=c i d;omega
 |reg c f=>have:=c i d;omega
 | @last gT K c f g=>
  by_cases e:i=K
  ·subst e;exact⟨⟨gT,rfl⟩,g,rfl,rfl⟩
  ·have:=g i d e;omega
 |sema c=>have:=c i d;omega
 |fin n c=>have:=c i d;omega
theorem YI(j:Nat)(st:Nat->Nat):Vn j st<=j:=by
 have:=Go.ConcN.sumTo_le (f:=fun i=>pO (st i)) (c:=1) (j:=j) fun i _=>by simp only[pO];split<;>omega
 simpa [Vn]using this
theorem Og(c:i<j)(d:5<=st i):1<=Vn j st:=by
 have:=le_sumTo (f:=fun i=>pO (st i)) c
 simp only[pO,d,if_true]at this;exact this
theorem wH:∀{j:Nat},1<=Vn j st->∃i,i<j/\5<=st i
 |0,h=>by simp[Vn,sumTo]at h
 |j+1,h=>by
  by_cases c:5<=st j
  ·exact⟨j,by omega,c⟩
  ·have:1<=Vn j st:=by simp only[Vn,sumTo,pO,if_neg c]at h⊢;simpa using h
   obtain⟨i,e,d⟩:=wH this
   exact⟨i,by omega,d⟩
theorem Opn.I7(h:Opn j st)(e:Vn j st=0):abT j st:=by
 intro i c;have:=h i c
 by_cases d:5<=st i
 ·have:=Og c d;omega
 ·omega
theorem LC(f:Opn j st)(g:i<j)(h:5<=st i)(l:Vn j st=1):∀k,k<j->k≠i->st k=1:=by
 have h0:=Oh (st:=st) (i:=i) 0 g
 have m:pO (st i)=1:=by simp[pO,h]
 have n:pO 0=0:=rfl
 intro k d e;by_cases c:5<=st k
 ·have:1<=Vn j (Go.ConcN.upd st i 0):=Og d (by rw[upd_ne st _ e];exact c)
  omega
 ·have:=f k d;omega
end
end Go.Ren
namespace Go.Ren
theorem aB.draw{O D:Nat->Prop}(w:World)(d:Nat):aB O D w (w.at d):=⟨Nat.le_refl _,fun _ _=>rfl,fun _ _=>rfl,.rfl,rfl,rfl⟩
open Go.Conc hiding Goes mem_ofEvents
open Go.ConcN (sumTo upd upd_same upd_ne sumTo_congr sumTo_upd le_sumTo RelBy get_map_set get_map_set_same WgLive)
open Go.Conc.Lib (WgLink)
open Go.ConcR (KK WgAt stA smA rd wr mk g_of_ofEvents loc_of_ofEvent)
def ade(a:Nat->(Nat->Prop)->(Nat->Prop)->Option Value->World->Prop):Prop:=∀i O D v w b,a i O D v w->aB O D w b->a i O D v b
def agy(c a:Nat)(w:World):Prop:=∃b s r d,w.heap[c]?=some (.chan a b false s r d)
section
variable(P:Program)(L:WgLink)(Wg e cap n n0:Nat)(c:Nat->(Nat->Prop)->(Nat->Prop)->Option Value->World->Prop)(Fin:(Nat->Prop)->(Nat->Prop)->Goroutine->World->Prop)
def JY(w:World):Prop:=Lv L Wg w/\agy e cap w
def NxS(r:Nat):(Nat->Prop)->(Nat->Prop)->Goroutine->World->Prop:=Spawns P L Wg e c (JY L Wg e cap) Fin n r
def kQ:fM->Pos->Prop
 | .sp (r+1) 1,x=>dY P true (JY L Wg e cap) (XM Wg) x.D (oU P L Wg e c (JY L Wg e cap) (n-(r+1)) (NxS P L Wg e cap n c Fin r) x.D) x.d x.O x.g x.w
 | .sp (r+1) 0,x=>dY P true (JY L Wg e cap) (XM Wg) x.D (yA P L Wg e c (JY L Wg e cap) (n-(r+1)) (NxS P L Wg e cap n c Fin r) x.D) x.d x.O x.g x.w
 | .sp 0 1,x=>dY P true (JY L Wg e cap) (XM Wg) x.D (iR P L Wg Fin x.D) x.d x.O x.g x.w
 | .sp _ _,_=>False
 | .w1 _ a A,x=>Anch P L Wg a A/\(∀b,aB x.O x.D x.w b->Fin x.D x.O a b)/\af P true (Lv L Wg) (XM Wg) (M1 P L Wg a A) x.d x.g
 | .w2 v a A,x=>Anch P L Wg a A/\(∀b,aB x.O x.D x.w b->Fin x.D x.O a b)/\af P true (Lv L Wg) (XM Wg) (M2 P L Wg a A v) x.d x.g
 | .w3 a,x=>(∀b,aB x.O x.D x.w b->Fin x.D x.O a b)/\af P true (Lv L Wg) (XM Wg) (M3 P L Wg a) x.d x.g
 | .w4 a,x=>(∀b,aB x.O x.D x.w b->Fin x.D x.O a b)/\af P true (Lv L Wg) (XM Wg) (M4 P L Wg a) x.d x.g
 | .acq a,x=>(∀b,aB x.O x.D x.w b->Fin x.D x.O a b)/\af P true (Lv L Wg) (XM Wg) (NI P L Wg a) x.d x.g
def dF(i:Nat):Nat->Pos->Prop
 |8,x=>dY P false (JY L Wg e cap) X0 x.D (nT P L Wg e (c i) (JY L Wg e cap) x.D) x.d x.O x.g x.w
 |7,x=>af P false (Lv L Wg) X0 (iP P L Wg) x.d x.g
 |5,x=>af P false (Lv L Wg) XD (AZ P L Wg) x.d x.g
 |4,x=>af P false (Lv L Wg) X0 (WLd P L Wg) x.d x.g
 |3,x=>af P false (Lv L Wg) X0 (WSt P L Wg) x.d x.g
 |2,x=>af P false (Lv L Wg) X0 (XV P L Wg) x.d x.g
 |1,x=>∃q,QuitsD P q x.d x.g
 |_,_=>False
def Dw(n j:Nat):fM->Prop
 | .sp r _=>r+j=n
 |_=>j=n
structure Co(W U:Nat->Prop)(j:Nat)(tag:fM)(x0:Pos)(bl:Bool)(st:Nat->Nat)(xs ls:Nat->Pos)(O D:Nat->Nat->Prop)(gs:Array Goroutine)(w:World)(t:Trace):Prop where
 hn0:1<=n0
 size:gs.size=n0+j
 main:gs[0]?=some (if bl then{x0.g with status:=.blocked}else x0.g)
 blk:bl=true->(∃gT,tag=.w3 gT/\M3 P L Wg gT x0.d x0.g)/\∃i,i<j/\2<=st i
 seat:kQ P L Wg e cap n c Fin tag x0
 O0:x0.O=O 0
 D0:x0.D=D 0
 rely:aB x0.O x0.D x0.w w
 deaf:Go.Conc.Deaf t 0=x0.d
 wk:∀i,i<j->gs[n0+i]?=some (xs i).g/\dF P L Wg e cap c i (st i) (xs i)/\Go.Conc.Deaf t (n0+i)=(xs i).d
 wO:∀i,i<j->st i=8->(xs i).O=O (n0+i)/\(xs i).D=D (n0+i)/\aB (O (n0+i)) (D (n0+i)) (xs i).w w
 lv:∀k,1<=k->k<n0->gs[k]?=some (ls k).g/\(∃q,QuitsD P q (ls k).d (ls k).g)/\Go.Conc.Deaf t k=(ls k).d/\Gone W t k
 ti:TI W O D (n0+j) w.heap.size t
 own:Own (fun b=>W b∨U b) O D (n0+j) w.heap.size
 hW:W Wg/\U e/\Wg≠e
 over:∀i,i<j->st i<=5->∃r,Over (stA Wg) W t (n0+i) r
 norel:∀a,NoRelease a t
 sent:∃(order:List Nat) (vals:Nat->Option Value) (s r:Nat) (tm:Bool),order.Nodup/\(∀i,i∈order↔i<j/\st i<=7)/\w.heap[e]?=some (.chan cap (order.filterMap vals).toArray false s r tm)/\∀i∈order,c i (O (n0+i)) (D (n0+i)) (vals i) w
 md:∃a b,WgAt L.tWg Wg w a b/\Md j st tag a b
 left:Dw n j tag
end
section
variable{P:Program}{L:WgLink}{Wg f cap n n0:Nat}{c:Nat->(Nat->Prop)->(Nat->Prop)->Option Value->World->Prop}{Fin:(Nat->Prop)->(Nat->Prop)->Goroutine->World->Prop}
 {W U:Nat->Prop} {j:Nat} {tag:fM} {l:Pos} {bl:Bool} {st:Nat->Nat} {xs o:Nat->Pos} {O D:Nat->Nat->Prop} {p:Array Goroutine} {w w':World} {sl:Option (Nat×Nat)} {t:Trace}
theorem Own.less{W e:Nat->Prop}{O D:Nat->Nat->Prop}{n B:Nat}(h:Own e O D n B)(a:∀b,W b->e b):Own W O D n B:=
 ⟨h.oo,h.od,fun i b d g x=>h.ow i b d g (a b x),fun i b d hd x=>h.dw i b d hd (a b x),h.G9,h.YF,fun b x=>h.wV b (a b x)⟩
theorem qp{t:Trace}{k:Nat}{g:FuncId}{pos:String}{d:Array Event}(h:∀a,NoRelease a t)(i:∀e∈d,∀a,e.loc≠.mark (.release a)):∀a,NoRelease a (t++MemOp.ofEvents k g pos d):=fun a=>
 (h a).app fun op b e=>by
  rw[ofEvents_eq]at b;obtain⟨x,m,rfl⟩:=Array.mem_map.1 b;exact i x m a (loc_of_ofEvent e)
theorem Hf{t:Trace}{u:Array MemOp}(h:∀a,NoRelease a t)(d:∀op∈u,∀a,op.act≠.mark (.release a)):∀a,NoRelease a (t++u):=fun a=>(h a).app fun op b=>d op b a
theorem af.status{m:Bool}{I:World->Prop}{X:Event->Prop}{S:Nat->Goroutine->Prop}{d:Nat}{g:Goroutine}(a:∀d g,S d g->g.status=.running)(h:af P m I X S d g):g.status=.running:=by
 cases h with
 |stop h=>exact a _ _ h
 |step b=>exact b
theorem dY.status{m:Bool}{I:World->Prop}{X:Event->Prop}{D:Nat->Prop}{S:Nat->(Nat->Prop)->Goroutine->World->Prop}{d:Nat}{O:Nat->Prop}{g:Goroutine}{w:World}(a:∀d O g w,S d O g w->g.status=.running)(h:dY P m I X D S d O g w):g.status=.running:=by
 cases h with
 |stop h=>exact a _ _ _ _ h
 |step b=>exact b
theorem xP{a:Nat->Prop}{d:Nat}{b:Nat->Prop}{g:Goroutine}(h:iR P L Wg Fin a d b g w):g.status=.running:=by
 obtain⟨e,A,_,h,_⟩:=h
 exact af.status (fun _ _ x=>x.2.1) h
theorem kG{tag:fM}{x:Pos}(h:kQ P L Wg f cap n c Fin tag x):x.g.status=.running:=by
 cases tag with
 |sp r s=>
  rcases r with _|r
  ·rcases s with _|_|s
   ·exact h.elim
   ·exact dY.status (fun _ _ _ _ x=>xP x) h
   ·exact h.elim
  ·rcases s with _|_|s
   ·exact dY.status (fun _ _ _ _ x=>x.2.1) h
   ·exact dY.status (fun _ _ _ _ x=>x.2.1) h
   ·exact h.elim
 |w1 v a A=>exact af.status (fun _ _ x=>x.2.1) h.2.2
 |w2 v a A=>exact af.status (fun _ _ x=>x.2.1) h.2.2
 |w3 a=>exact af.status (fun _ _ x=>x.2.1) h.2
 |w4 a=>exact af.status (fun _ _ x=>x.2.1) h.2
 |acq a=>exact af.status (fun _ _ x=>x.2.1) h.2
theorem Co.at(k:ade c)(h:(Co P L Wg f cap n n0 c Fin W U) j tag l bl st xs o O D p w t)(d:Nat):(Co P L Wg f cap n n0 c Fin W U) j tag l bl st xs o O D p (w.at d) t:=by
 obtain⟨order,e,s,r,m,q,u,v,A⟩:=h.sent
 obtain⟨a,b,B,C⟩:=h.md
 exact⟨h.hn0,h.size,h.main,h.blk,h.seat,h.O0,h.D0,h.rely.trans (.draw w d),h.deaf,h.wk,fun i g E=>let⟨x,y,z⟩:=h.wO i g E;⟨x,y,z.trans (.draw w d)⟩,h.lv,h.ti,h.own,h.hW,h.over,h.norel,
  ⟨order,e,s,r,m,q,u,v,fun i g=>k _ _ _ _ _ _ (A i g) (.draw w d)⟩,⟨a,b,B,C⟩,h.left⟩
theorem Oe{g g' x:Goroutine}{bl:Bool}(e:x.status=.running)(i:bl=true->x.offers=none):
  ∃b:Bool,woken P g g' w' (if bl then{x with status:=.blocked}else x)=(if b then{x with status:=.blocked}else x)/\(b=true->bl=true)/\(mayWake P g=true->(g'.status=.running∨g'.status=.finished)->b=false):=by
 cases bl with
 |false=>
  refine⟨false,?_,id,fun _ _=>rfl⟩;simp only[Bool.false_eq_true,if_false]
  exact woken_running e
 |true=>
  simp only[if_true]
  have a:=i rfl
  unfold woken;split
  ·refine⟨false,?_,(fun h=>by cases h),fun _ _=>rfl⟩;obtain⟨r,u,s,v,k⟩:=x
   simp only at e a;subst e a;rfl
  ·rename_i m;refine⟨true,rfl,fun _=>trivial,fun q d=>?_⟩;exact absurd (by rcases d with d|d<;>simp[q,d]) m
end
end Go.Ren
namespace Go.Ren
open Go.Conc hiding Goes mem_ofEvents
open Go.ConcN (sumTo upd upd_same upd_ne sumTo_congr sumTo_upd le_sumTo RelBy get_map_set get_map_set_same WgLive norel_of)
open Go.Conc.Lib (WgLink)
open Go.ConcR (KK WgAt stA smA rd wr mk g_of_ofEvents loc_of_ofEvent)
section
variable{P:Program}{L:WgLink}{Wg Ch cap n n0:Nat}{Sent:Nat->(Nat->Prop)->(Nat->Prop)->Option Value->World->Prop}{Fin:(Nat->Prop)->(Nat->Prop)->Goroutine->World->Prop}
 {W U:Nat->Prop} {j:Nat} {tag:fM} {x0:Pos} {bl:Bool} {st:Nat->Nat} {xs ls:Nat->Pos} {O D:Nat->Nat->Prop} {gs:Array Goroutine} {w a:World} {sl:Option (Nat×Nat)} {t:Trace}
theorem TG{O:Nat->Prop}{w a:World}(h:a.heap.size=w.heap.size):grow O w a=O:=by
 funext b;apply propext;unfold grow;constructor
 ·rintro(x|x)
  ·exact x
  ·omega
 ·exact .inl
end
end Go.Ren
namespace Go.Ren
open Go.Conc hiding Goes mem_ofEvents
open Go.ConcN (sumTo upd upd_same upd_ne sumTo_congr sumTo_upd le_sumTo RelBy get_map_set get_map_set_same WgLive norel_of RelBy.book)
open Go.Conc.Lib (WgLink)
open Go.ConcR (KK WgAt stA smA rd wr mk g_of_ofEvents loc_of_ofEvent)
section
variable{W:Nat->Prop}{k:Nat}{Wg:Nat}{w:World}{t:Trace}{fn:FuncId}{pos:String}{es:Array Event}
def jw(Wg:Nat)(e:Event):Prop:=e.loc=.mark .disable∨e.loc=.mark .enable∨e=Go.ConcR.mk (.releaseMerge (stA Wg))∨e=Go.ConcR.mk (.acquire (stA Wg))∨∃a wr,e=⟨.cell a,wr,true⟩/\a.block=Wg
theorem xU(d:W Wg)(c:Wg<w.heap.size){e:Event}(h:jw Wg e):IY W k e/\(MemAct.ofEvent e).low w.heap.size:=by
 rcases h with h|h|rfl|rfl|⟨a,wr,rfl,f⟩
 ·exact⟨fun x b=>(by rw[Go.ConcR.ofEvent_loc_mark h]at b;cases b),by rw[Go.ConcR.ofEvent_loc_mark h];trivial⟩
 ·exact⟨fun x b=>(by rw[Go.ConcR.ofEvent_loc_mark h]at b;cases b),by rw[Go.ConcR.ofEvent_loc_mark h];trivial⟩
 ·exact⟨fun x b=>by simp[Go.ConcR.mk,MemAct.ofEvent,MemAct.touch?]at b,c⟩
 ·exact⟨fun x b=>by simp[Go.ConcR.mk,MemAct.ofEvent,MemAct.touch?]at b,c⟩
 ·refine⟨fun x b=>?_,?_⟩
  ·have:x=⟨.cell a,wr,.atomic⟩:=by cases wr<;>simp[MemAct.ofEvent,MemAct.touch?]at b<;>exact b.symm
   subst this;exact⟨by show W a.block;rw[f];exact d,by simp,fun e=>by simp at e⟩
  ·cases wr<;>(show a.block<_;omega)
theorem YK(c:W Wg)(f:Wg<w.heap.size){e:Event}(h:XM Wg e):IY W 0 e/\(MemAct.ofEvent e).low w.heap.size:=by
 rcases h with rfl|rfl|⟨a,d,rfl|rfl⟩
 ·exact⟨fun x b=>by simp[Go.ConcR.mk,MemAct.ofEvent,MemAct.touch?]at b,trivial⟩
 ·exact⟨fun x b=>by simp[Go.ConcR.mk,MemAct.ofEvent,MemAct.touch?]at b,trivial⟩
 ·refine⟨fun x b=>?_,by show a.block<_;omega⟩;simp only[MemAct.ofEvent,MemAct.touch?,Option.some.injEq]at b;subst b;exact⟨by show W a.block;rw[d];exact c,by simp,fun _=>rfl⟩
 ·refine⟨fun x b=>?_,by show a.block<_;omega⟩;simp only[MemAct.ofEvent,MemAct.touch?,Option.some.injEq]at b;subst b;exact⟨by show W a.block;rw[d];exact c,by simp,fun _=>rfl⟩
theorem TJ:∀e∈semEvents (smA Wg),jw Wg e:=by
 intro e a;simp[semEvents]at a;rcases a with rfl|rfl|rfl|rfl
 ·exact .inl rfl
 ·exact .inr (.inr (.inr (.inr ⟨_,_,rfl,rfl⟩)))
 ·exact .inr (.inr (.inr (.inr ⟨_,_,rfl,rfl⟩)))
 ·exact .inr (.inl rfl)
theorem gZ{e:Event}(h:jw Wg e)(b:Addr):e.loc≠.mark (.release b):=by
 rcases h with h|h|rfl|rfl|⟨a,wr,rfl,_⟩<;>first|(rw[h];simp)|simp[Go.ConcR.mk]
theorem DI{e:Event}(h:XM Wg e)(b:Addr):e.loc≠.mark (.release b):=by
 rcases h with rfl|rfl|⟨a,_,rfl|rfl⟩<;>simp[Go.ConcR.mk]
theorem yV{X:Event->Prop}{B:Nat}{O D:Nat->Prop}{e:Event}(h:gU X B O D e)(c:X e->∀a,e.loc≠.mark (.release a))(b:Addr):e.loc≠.mark (.release b):=by
 rcases h with h|h
 ·exact c h.1 b
 ·intro d;rw[d]at h;exact absurd h (by simp[vM])
theorem Over.book{a:Addr}{r d:Nat}(h:Over a W t k r)(o:W Wg)(g:Go.Conc.Deaf t k=d)(c:∀e∈es,Go.ConcR.Bk Wg e)
  (hd:∀j e,es[j]?=some e->(MemAct.ofEvent e).touch?=none∨0<deafBehind d (es.extract 0 j)):Over a W (t++MemOp.ofEvents k fn pos es) k r:=by
 refine⟨h.rel.book g fn pos c hd,fun i x p q b=>?_⟩;obtain⟨op,n,s⟩:=rV q
 rcases getElem?_append_cases n with⟨u,l⟩|⟨_,f⟩
 ·refine h.agw i x p (by rw[g?_of l,s]) ?_;rw[touchAt_old u]at b;exact b
 ·rw[touchAt_of n]at b;rw[ofEvents_eq]at f;obtain⟨e,v,rfl⟩:=Array.mem_map.1 f;intro z;rcases c e v with m|m|⟨a,wr,rfl,y⟩
  ·rw[Go.ConcR.ofEvent_loc_mark m]at b;cases b
  ·rw[Go.ConcR.ofEvent_loc_mark m]at b;cases b
  ·have:x=⟨.cell a,wr,.atomic⟩:=by cases wr<;>simp[MemAct.ofEvent,MemAct.touch?]at b<;>exact b.symm
   subst this;show W a.block;rw[y];exact o
theorem Over.new{a:Addr}(hd:Go.Conc.Deaf t k=0):Over a W (t++MemOp.ofEvents k fn pos #[Go.ConcR.mk (.releaseMerge a)]) k t.size:=by
 refine⟨RelBy.new hd fn pos,fun i x e b f=>?_⟩;obtain⟨op,c,_⟩:=rV b
 have:=lt_size_of_getElem? c
 have d:(MemOp.ofEvents k fn pos #[Go.ConcR.mk (.releaseMerge a)]).size=1:=by rw[ofEvents_eq];simp
 rw[Array.size_append,d]at this;omega
end
section
variable{P:Program}{L:WgLink}{Wg Ch cap n n0:Nat}{Sent:Nat->(Nat->Prop)->(Nat->Prop)->Option Value->World->Prop}{Fin:(Nat->Prop)->(Nat->Prop)->Goroutine->World->Prop}
 {W U:Nat->Prop} {j:Nat} {tag:fM} {x0:Pos} {bl:Bool} {st:Nat->Nat} {xs ls:Nat->Pos} {O D:Nat->Nat->Prop} {gs:Array Goroutine} {w w':World} {sl:Option (Nat×Nat)} {t:Trace}
theorem Vd{st sm:Int}{a:TypeId}(h:WgAt a Wg w st sm):Wg<w.heap.size:=(Array.getElem?_eq_some_iff.1 h).1
theorem eY{a:Addr}{v:Value}{b:Nat}(h:b≠a.block):(w.setCell a v).heap[b]?=w.heap[b]?:=(Go.Conc.aside_setCell w a v).block b h
theorem uT{m:Bool}{S:Nat->Goroutine->Prop}{d:Nat}{g:Goroutine}(h:af P m (Lv L Wg) X0 S d g)(i:Lv L Wg w):S d g∨(¬S d g/\∃l,stepG P m g w=.go l w #[]/\af P m (Lv L Wg) X0 S d l):=by
 by_cases a:S d g
 ·exact .inl a
 ·cases h with
  |stop h=>exact absurd h a
  |step q f p h k=>
   have b:=h w i
   have c:p w=#[]:=Array.eq_empty_iff_forall_not_mem.2 fun e c=>(b.2 e c).1;have o:=k w i
   rw[c]at b o;exact .inr ⟨a,_,b.1,o⟩
end
end Go.Ren
namespace Go.Ren
open Go.Conc hiding Goes mem_ofEvents
open Go.ConcN (sumTo upd upd_same upd_ne sumTo_congr sumTo_upd le_sumTo RelBy get_map_set get_map_set_same WgLive norel_of Deaf_absent)
open Go.Conc.Lib (WgLink)
open Go.ConcR (KK WgAt stA smA rd wr mk g_of_ofEvents loc_of_ofEvent)
section
variable{P:Program}{L:WgLink}{Wg Ch cap n n0:Nat}{Sent:Nat->(Nat->Prop)->(Nat->Prop)->Option Value->World->Prop}{Fin:(Nat->Prop)->(Nat->Prop)->Goroutine->World->Prop}
 {W U:Nat->Prop} {j:Nat} {tag:fM} {x0:Pos} {bl:Bool} {st:Nat->Nat} {xs ls:Nat->Pos} {O D:Nat->Nat->Prop} {gs:Array Goroutine} {w w':World} {sl:Option (Nat×Nat)} {t:Trace}
theorem uS(O:Nat->Nat->Prop)(i B:Nat):with_ O i B B=O:=by
 funext k b;apply propext;unfold with_;constructor
 ·rintro(x|⟨_,x,y⟩)
  ·exact x
  ·omega
 ·exact .inl
theorem xX{Wg:Nat}{e:Event}(h:e.mute=true):jw Wg e/\(MemAct.ofEvent e).touch?=none:=by
 obtain⟨loc,wr,a⟩:=e
 cases loc with
 |mark m=>cases m<;>first|exact⟨.inl rfl,rfl⟩|exact⟨.inr (.inl rfl),rfl⟩|simp[Event.mute]at h
 |_=>simp[Event.mute]at h
end
end Go.Ren
namespace Go.Ren
open Go.Conc hiding Goes mem_ofEvents
open Go.ConcN (sumTo upd upd_same upd_ne sumTo_congr sumTo_upd le_sumTo RelBy get_map_set get_map_set_same WgLive norel_of Deaf_absent)
open Go.Conc.Lib (WgLink)
open Go.ConcR (KK WgAt stA smA rd wr mk g_of_ofEvents loc_of_ofEvent)
section
variable{P:Program}{L:WgLink}{Wg Ch cap n n0:Nat}{Sent:Nat->(Nat->Prop)->(Nat->Prop)->Option Value->World->Prop}{Fin:(Nat->Prop)->(Nat->Prop)->Goroutine->World->Prop}
 {W U:Nat->Prop} {j:Nat} {tag:fM} {x0:Pos} {bl:Bool} {st:Nat->Nat} {xs ls:Nat->Pos} {O D:Nat->Nat->Prop} {gs:Array Goroutine} {w w':World} {sl:Option (Nat×Nat)} {t:Trace}
theorem qy{m:Bool}{X:Event->Prop}{S:Nat->Goroutine->Prop}{d:Nat}{g:Goroutine}(h:af P m (Lv L Wg) X S d g)(b:Lv L Wg w):
  S d g∨(¬S d g/\∃i a,stepG P m g w=.go i w a/\(∀e∈a,X e)/\af P m (Lv L Wg) X S (deafBehind d a) i):=by
 by_cases c:S d g
 ·exact .inl c
 ·cases h with
  |stop h=>exact absurd h c
  |step o f a h k=>exact .inr ⟨c,_,_,(h w b).1,fun e l=>((h w b).2 e l).1,k w b⟩
theorem bk_rw:∀e∈#[rd (stA Wg),wr (stA Wg)],jw Wg e∨XM Wg e:=by intro e a;simp at a;rcases a with rfl|rfl<;>exact .inl (.inr (.inr (.inr (.inr ⟨_,_,rfl,rfl⟩))))
theorem abU:∀e∈#[rd (stA Wg)],jw Wg e∨XM Wg e:=by intro e a;simp at a;subst a;exact .inl (.inr (.inr (.inr (.inr ⟨_,_,rfl,rfl⟩))))
theorem TM{a b:Addr}(d:Nat):deafBehind d #[rd a,wr b]=d:=oP (by intro e c;simp at c;rcases c with rfl|rfl<;>exact⟨by simp[rd,wr],by simp[rd,wr]⟩) d
theorem I8{a:Addr}(d:Nat):deafBehind d #[rd a]=d:=oP (by intro e b;simp at b;subst b;exact⟨by simp[rd],by simp[rd]⟩) d
end
end Go.Ren
namespace Go.Ren
open Go.Conc hiding Goes mem_ofEvents
open Go.ConcN (sumTo upd upd_same upd_ne sumTo_congr sumTo_upd le_sumTo RelBy get_map_set get_map_set_same WgLive norel_of Deaf_absent)
open Go.Conc.Lib (WgLink)
open Go.ConcR (KK WgAt stA smA rd wr mk g_of_ofEvents loc_of_ofEvent)
section
variable{P:Program}{L:WgLink}{Wg Ch cap n n0:Nat}{Sent:Nat->(Nat->Prop)->(Nat->Prop)->Option Value->World->Prop}{Fin:(Nat->Prop)->(Nat->Prop)->Goroutine->World->Prop}
 {W U:Nat->Prop} {j:Nat} {tag:fM} {x0:Pos} {bl:Bool} {st:Nat->Nat} {xs ls:Nat->Pos} {O D:Nat->Nat->Prop} {gs:Array Goroutine} {w w':World} {sl:Option (Nat×Nat)} {t:Trace}
abbrev Zp:=(fM×Nat)×Pos
def Nc(n0:Nat)(tag:fM)(x0:Pos)(st:Nat->Nat)(xs ls:Nat->Pos)(k:Nat):Zp:=
 if k=0 then((tag,0),x0)else if k<n0 then((.sp 0 0,0),ls k)else((.sp 0 0,st (k-n0)),xs (k-n0))
end
end Go.Ren
namespace Go.Ren
open Go.Conc hiding Goes mem_ofEvents
open Go.ConcN (sumTo upd upd_same upd_ne get_map_set get_map_set_same WgLive Deaf_absent)
open Go.Conc.Lib (WgLink)
open Go.ConcR (KK WgAt stA smA rd wr g_of_ofEvents loc_of_ofEvent)
def Unt(U:Nat->Prop)(t:Trace):Prop:=∀i x,touchAt t i=some x->¬inB U x.loc
theorem Unt.app{U:Nat->Prop}{t u:Trace}(h:Unt U t)(d:∀op∈u,∀x,op.act.touch?=some x->¬inB U x.loc):Unt U (t++u):=by
 intro i x e;obtain⟨op,f,c⟩:=touch_of e
 rcases getElem?_append_cases f with⟨g,a⟩|⟨_,b⟩
 ·exact h i x (by rw[touchAt_of a];exact c)
 ·exact d op b x c
def xY(O:Nat->Prop)(k b:Nat):Prop:=k=0/\O b
structure Al(P:Program)(W U:Nat->Prop)(N:Nat)(x0:Pos)(ls:Nat->Pos)(gs:Array Goroutine)(w:World)(t:Trace):Prop where
 hN:1<=N
 size:gs.size=N
 main:gs[0]?=some x0.g
 D0:x0.D=fun _=>False
 same:∃d,w=x0.w.at d
 deaf:Go.Conc.Deaf t 0=x0.d
 lv:∀k,1<=k->k<N->gs[k]?=some (ls k).g/\(∃q,QuitsD P q (ls k).d (ls k).g)/\Go.Conc.Deaf t k=(ls k).d/\Gone W t k
 ti:TI W (xY x0.O) rF N w.heap.size t
 own:Own (fun b=>W b∨U b) (xY x0.O) rF N w.heap.size
 unt:Unt U t
 wu:∀b,W b->¬U b
 norel:∀a,NoRelease a t
section
variable{P:Program}{W U:Nat->Prop}{N:Nat}{f x':Pos}{c:Nat->Pos}{j:Array Goroutine}{w w':World}{sl:Option (Nat×Nat)}{t:Trace}{dU:Machine->Outcome->World->Trace->Prop}{K:Machine->Trace->Prop}
theorem Al.rely(h:Al P W U N f c j w t):aB f.O (fun _=>False) f.w w:=by
 obtain⟨d,rfl⟩:=h.same
 exact .draw _ d
theorem Al.at(h:Al P W U N f c j w t)(d:Nat):Al P W U N f c j (w.at d) t:=
 ⟨h.hN,h.size,h.main,h.D0,(let⟨a,e⟩:=h.same;⟨d,by rw[e];rfl⟩),h.deaf,h.lv,h.ti,h.own,h.unt,h.wu,h.norel⟩
theorem Al.awake(h:Al P W U N f c j w t)(d:f.g.status=.running):∀g∈j,awake g:=by
 intro g i;obtain⟨k,a⟩:=Array.mem_iff_getElem?.1 i;intro n;rcases Nat.eq_zero_or_pos k with rfl|b
 ·rw[h.main]at a;cases a;rw[d];simp
 ·obtain⟨l,⟨q,m⟩,_⟩:=h.lv k b (by rw[←h.size];exact(Array.getElem?_eq_some_iff.1 a).1)
  rw[l]at a;cases a;rcases m.status with e|e<;>rw[e]<;>simp
theorem Al.pick(h:Al P W U N f c j w t)(b:f.g.status=.running):∃(i:Nat) (g:Goroutine) (d:Nat) (a:Option (Nat×Nat)),j[i]?=some g/\g.status=.running/\stepT P (crowd j w sl)=runT P (crowd j (w.at d) a) i:=
 crowd_pick (h.awake b) ⟨0,_,h.main,b⟩
theorem Al.YJ(h:Al P W U N f c j w t)(Q:f.g.status=.running){k:Nat}(R:1<=k)(hk:k<N)(T:(c k).g.status=.running):
  ∃B x' C,runT P (crowd j w sl) k=(.next (crowd B w sl),C)/\NxQ P x' (c k)/\Al P W U N f (upd c k x') B w (t++C):=by
 obtain⟨V,⟨q,hq⟩,X,y⟩:=h.lv k R hk
 rcases q with _|q
 ·have:=hq.1;rw[T]at this;cases this
 rcases hq with⟨L,_⟩|⟨_,g',z,l,D,Y⟩
 ·rw[T]at L;cases L
 have o:=h.size
 have s:k≠0:=by omega
 have E:stepG P (k==0) (c k).g w=.go g' w z:=by
  have:(k==0)=false:=by simp;omega
  rw[this];exact D w
 have n:∀op∈MemOp.ofEvents k (c k).g.frame.fn (c k).g.frame.place z,op.g=k:=g_of_ofEvents
 have A:∀op∈MemOp.ofEvents k (c k).g.frame.fn (c k).g.frame.place z,op.act.touch?=none:=fun op a=>by rw[ofEvents_eq]at a;obtain⟨e,F,rfl⟩:=Array.mem_map.1 a;exact(xX (Wg:=0) (l e F)).2
 have hG:oh (IY W k) W (xY f.O k) (rF k) w w z:=rE fun e F=>by
  have hm:=l e F
  obtain⟨loc,wr,sy⟩:=e
  cases loc with
  |mark m=>cases m<;>first|exact⟨fun x r=>by simp[MemAct.ofEvent,MemAct.touch?]at r,trivial⟩|simp[Event.mute]at hm
  |_=>simp[Event.mute]at hm
 have H:=h.ti
 have u:=h.own.less (W:=W) fun b x=>.inl x;rw[←o]at H u;obtain⟨J,v,_⟩:=kV (sl:=sl) V E H u hG
 rw[uS,o]at v;refine⟨_,{c k with d:=deafBehind (c k).d z,g:=g'},_,J,⟨T,w,w,z,D w,rfl⟩,h.hN,by simpa using o,?_,h.D0,h.same,?_,fun i L h2=>?_,v,h.own,h.unt.app fun op a x r=>(by rw[A op a]at r;cases r),h.wu,qp h.norel (fun e F=>gZ (Wg:=0) (xX (l e F)).1)⟩
 ·rw[get_map_set _ _ _ _ s,h.main,Option.map_some,woken_running Q]
 ·rw[Deaf_other t s _ n];exact h.deaf
 ·by_cases e:i=k
  ·subst e;rw[upd_same];refine⟨get_map_set_same _ _ _ (by rw[o];omega),⟨q,Y⟩,by rw[Deaf_own,X],y.app (fun p hp hg hc=>?_) (fun op a _ x r=>?_)⟩
   ·obtain⟨op,M,Z⟩:=rV hg
    obtain⟨x,r,_⟩:=hc
    rcases getElem?_append_cases M with⟨hl,_⟩|⟨_,a0⟩
    ·omega
    ·have:touchAt (t++MemOp.ofEvents i (c i).g.frame.fn (c i).g.frame.place z) p=some x:=r
     rw[touchAt_of M,A op a0]at this;cases this
   ·rw[A op a]at r;cases r
  ·obtain⟨M,⟨q',Z⟩,a3,a4⟩:=h.lv i L h2
   rw[upd_ne c _ e];refine⟨?_,⟨q',Z⟩,by rw[Deaf_other t (by omega) _ n];exact a3,a4.appNot fun op a e'=>by rw[n op a]at e';omega⟩;rw[get_map_set _ _ _ _ (by omega),M,Option.map_some,woken_rf Z.status]
theorem Al.turn{J:World->Prop}(h:Al P W U N f c j w t)(z:f.g.status=.running)(A:J w)(B:∀w d,J w->J (w.at d))
  (E:∀c j w sl t,Al P W U N f c j w t->J w->(∃m' l,runT P (crowd j w sl) 0=(.next m',l)/\K m' (t++l))∨(∃o w' l,runT P (crowd j w sl) 0=(.ended o w',l)/\∀m,m.gs=j->m.rest.timers=#[]->dU m o w' (t++l))):aH P dU K (crowd j w sl) t:=by
 have p:∀k,k<N->Acc (fun x' x:Pos=>k≠0/\NxQ P x' x) (c k):=by
  intro k F;rcases Nat.eq_zero_or_pos k with rfl|n
  ·exact .intro _ fun y Q=>absurd rfl Q.1
  ·obtain⟨_,⟨q,R⟩,_⟩:=h.lv k n F
   have:=uH (P:=P) q (c k) R
   have e:(fun x' x:Pos=>k≠0/\NxQ P x' x)=NxQ P:=by funext a b;apply propext;exact⟨fun x=>x.2,fun x=>⟨by omega,x⟩⟩
   rw[e];exact this
 refine aH.YN (r:=Vec (fun k x' x=>k≠0/\NxQ P x' x) N) (J:=fun c m t=>∃j w sl,m=crowd j w sl/\Al P W U N f c j w t/\J w) ?_ (I9 _ N c p) ⟨j,w,sl,rfl,h,A⟩;clear turn h A p c j w sl t;rintro c m t ⟨j,w,sl,rfl,h,A⟩;obtain⟨i,g,d,s,M,C,u⟩:=h.pick (sl:=sl) z
 rw[u];have O:=h.at d
 right;rcases Nat.eq_zero_or_pos i with rfl|n
 ·rcases E c j (w.at d) s t O (B w d A)with⟨m',l,H,D⟩|⟨o,w',l,H,D⟩
  ·exact .inr ⟨m',l,H,.inl D⟩
  ·exact .inl ⟨o,w',l,H,D _ rfl rfl⟩
 ·have v:i<N:=by rw[←h.size];exact(Array.getElem?_eq_some_iff.1 M).1
  have T:(c i).g.status=.running:=by have:=(h.lv i n v).1;rw[M]at this;cases this;exact C
  obtain⟨L,x',l,D,V,X⟩:=O.YJ (sl:=s) z n v T
  exact .inr ⟨_,l,D,.inr ⟨upd c i x',⟨i,v,by rw[upd_same];exact⟨by omega,V⟩,fun k E=>upd_ne c x' E⟩,L,_,s,rfl,X,B w d A⟩⟩
structure XAl(W:Nat->Prop)(X:Event->Prop):Prop where
 ok:∀e,X e->IY W 0 e
 nr:∀e,X e->∀a,e.loc≠.mark (.release a)
theorem Al.MX{X:Event->Prop}(J:XAl W X)(h:Al P W U N f c j w t){z:Array Event}(L:stepG P true f.g w=.go x'.g w' z)(H:aT X f.O (fun _=>False) w w' z)(hd:x'.d=deafBehind f.d z)(M:x'.O=grow f.O w w')(hD:x'.D=fun _=>False)(hw:x'.w=w'):
  ∃A B,runT P (crowd j w sl) 0=(.next (crowd A w' sl),B)/\Al P W U N x' c A w' (t++B):=by
 have p:=h.size
 have hN:=h.hN
 have Q:xY f.O 0=f.O:=by funext b;apply propext;exact⟨fun x=>x.2,fun x=>⟨rfl,x⟩⟩
 have R:rF 0=fun _=>False:=rfl
 have T:oh (IY W 0) W (xY f.O 0) (rF 0) w w' z:=by rw[Q,R];exact H.wide J.ok
 have C:=h.ti
 have u:=h.own.less (W:=W) fun b x=>.inl x;rw[←p]at C u;obtain⟨E,o,_⟩:=kV (sl:=sl) (i:=0) h.main (by simpa using L) C u T
 rw[p]at o;have l:=h.own.grow (i:=0) (by omega) H.size
 have V:with_ (xY f.O) 0 w.heap.size w'.heap.size=xY x'.O:=by
  funext k b;apply propext;unfold with_ xY;rw[M];unfold grow;constructor
  ·rintro(⟨a,b⟩|⟨a,b⟩)
   ·exact⟨a,.inl b⟩
   ·exact⟨a,.inr b⟩
  ·rintro⟨a,b|b⟩
   ·exact .inl ⟨a,b⟩
   ·exact .inr ⟨a,b⟩
 rw[V]at o l;have v:∀op∈MemOp.ofEvents 0 f.g.frame.fn f.g.frame.place z,op.g=0:=g_of_ofEvents
 refine⟨_,_,E,h.hN,by simpa using p,get_map_set_same _ _ _ (by rw[p];omega),hD,⟨w'.drawn,by rw[hw];rfl⟩,by rw[Deaf_own,h.deaf,hd],fun k n Y=>?_,o,l,h.unt.app fun op s x y=>?_,h.wu,qp h.norel fun e Z=>yV (H.ev e Z) (J.nr e)⟩
 ·obtain⟨a1,⟨q,a2⟩,a3,a4⟩:=h.lv k n Y
  exact⟨by rw[get_map_set _ _ _ _ (by omega),a1,Option.map_some,woken_rf a2.status],⟨q,a2⟩,by rw[Deaf_other t (by omega) _ v];exact a3,a4.appNot fun op s e'=>by rw[v op s]at e';omega⟩
 ·rw[ofEvents_eq]at s;obtain⟨e,Z,rfl⟩:=Array.mem_map.1 s;have a0:=H.ev e Z
  intro F;rcases a0 with⟨n,_⟩|n
  ·obtain⟨b,Y,h3⟩:=kH (J.ok e n x y).1 F;exact h.wu b Y h3
  ·obtain⟨loc,wr,sy⟩:=e
   cases loc with
   |cell a=>
    simp only[MemAct.ofEvent,MemAct.touch?,Option.some.injEq]at y;subst y;have a5:U a.block:=F
    rcases n with n|⟨n,_⟩
    ·exact l.ow 0 a.block (by omega) ⟨rfl,by rw[M];exact n⟩ (.inr a5)
    ·exact n
   |obj r=>
    have hl:x.loc=.obj r:=by
     cases wr<;>cases sy<;>simp only[MemAct.ofEvent,MemAct.touch?,Option.some.injEq,reduceCtorEq]at y
     all_goals (subst y;rfl)
    rw[hl]at F;rcases n with n|⟨n,_⟩
    ·exact l.ow 0 r (by omega) ⟨rfl,by rw[M];exact n⟩ (.inr F)
    ·exact n
   |mark m=>
    have hm:vM m=true:=n
    cases m<;>first|(simp[MemAct.ofEvent,MemAct.touch?]at y;done)|cases hm
   |output=>simp only[MemAct.ofEvent,MemAct.touch?,Option.some.injEq]at y;subst y;exact F
   |_=>exact absurd n id
end
end Go.Ren
namespace Go.Ren
open Go.Conc hiding Goes mem_ofEvents
open Go.ConcN (sumTo upd upd_same upd_ne get_map_set get_map_set_same WgLive Deaf_absent)
open Go.Conc.Lib (WgLink)
open Go.ConcR (KK WgAt stA smA rd wr g_of_ofEvents loc_of_ofEvent)
section
variable{P:Program}{W U:Nat->Prop}{N:Nat}{c x':Pos}{j:Nat->Pos}{f:Array Goroutine}{w w':World}{sl:Option (Nat×Nat)}{t:Trace}{l:Machine->Outcome->World->Trace->Prop}{K:Machine->Trace->Prop}
theorem handed(h:∀k,1<=k->k<N->Gone W t k)(b:∀(i:Nat) (op:MemOp),t[i]?=some op->op.g<N):t.HandedOver:=by
 intro i g a d e;obtain⟨op,m,n⟩:=rV a
 exact(h g (by omega) (by rw[←n];exact b i op m)).over i a e
theorem Al.ends{n:Value->World->Prop}{J:World->Prop}{X:Event->Prop}(T:XAl W X)(h:Al P W U N c j f w t)(B:c.g.status=.running)(C:J w)(D:∀w d,J w->J (w.at d))
  (u:∀a,aB c.O (fun _=>False) c.w a->J a->∃v w' es,stepG P true c.g a=.ended (.done v) w' es/\aT X c.O (fun _=>False) a w' es/\n v w'):aH P (Good P n) K (crowd f w sl) t:=by
 refine h.turn B C D fun j f w sl t h C=>.inr ?_;obtain⟨v,w',es,E,Q,V⟩:=u w h.rely C
 have hN:=h.hN
 have F:xY c.O 0=c.O:=by funext b;apply propext;exact⟨fun x=>x.2,fun x=>⟨rfl,x⟩⟩
 have y:=h.own.less (W:=W) fun b x=>.inl x;have z:=h.ti.step (i:=0) (B':=w'.heap.size) y (by omega) Q.size (X:=IY W 0) (fun e H=>H) (es:=es) (fn:=c.g.frame.fn) (pos:=c.g.frame.place) (fun e H=>by
  have:=Q.ev e H
  have Y:(fun b=>with_ (xY c.O) 0 w.heap.size w'.heap.size 0 b)=grow c.O w w':=by rw[uQ,F]
  rw[Y];exact this.imp (fun x=>⟨T.ok e x.1,x.2⟩) id)
 have o:∀op∈MemOp.ofEvents 0 c.g.frame.fn c.g.frame.place es,op.g=0:=g_of_ofEvents
 refine⟨_,w',_,runT_many_ended (i:=0) h.main (by simpa using E),fun m R L=>⟨v,rfl,V,z.nr,handed (W:=W) (N:=N) (fun k r A=>?_) z.gs,⟨fun g s=>?_,by rw[L];rfl⟩,fun i g s Z=>?_⟩⟩
 ·exact(h.lv k r A).2.2.2.appNot fun op M e'=>by rw[o op M]at e';omega
 ·rw[R]at s;obtain⟨i,hi,rfl⟩:=List.mem_iff_getElem.1 s;have p:1+i<f.size:=by simp at hi;omega
  obtain⟨r,⟨q,A⟩,_⟩:=h.lv (1+i) (by omega) (by rw[←h.size];exact p)
  have e:(f.toList.drop 1)[i]=(j (1+i)).g:=by rw[List.getElem_drop];have:=(Array.getElem?_eq_some_iff.1 r).2;simpa using this
  rw[e];exact⟨q,A.leaves⟩
 ·rw[R]at s;have p:i<N:=by rw[←h.size];exact(Array.getElem?_eq_some_iff.1 s).1
  obtain⟨r,⟨q,A⟩,h3,_⟩:=h.lv i (by omega) p
  rw[s]at r;cases r;refine⟨q,?_⟩;have e:(t++MemOp.ofEvents 0 c.g.frame.fn c.g.frame.place es).deaf i (t++MemOp.ofEvents 0 c.g.frame.fn c.g.frame.place es).size=(j i).d:=by rw[←h3];exact Deaf_other t (by omega) _ o
  rw[e];exact A.hears _
theorem Al.fresh{J:World->Prop}{o:Obj}{T:Goroutine}(h:Al P W U N c j f w t)(H:c.g.status=.running)(F:J w)(L:∀w d,J w->J (w.at d))
  (z:∀w₁,aB c.O (fun _=>False) c.w w₁->J w₁->stepG P true c.g w₁=.go T (w₁.alloc o) #[]):
  aH P l (fun m t=>∃w₁ j f sl,m=crowd f (w₁.alloc o) sl/\J w₁/\aB c.O (fun _=>False) c.w w₁/\Al P W (fun b=>U b∨b=w₁.heap.size) N ⟨c.O,fun _=>False,c.d,T,w₁.alloc o⟩ j f (w₁.alloc o) t) (crowd f w sl) t:=by
 refine h.turn H F L fun j f w sl t h F=>.inl ?_;have z:=z w h.rely F
 have hN:=h.hN
 have B:=h.size
 have v:=runT_crowd_go (P:=P) (sl:=sl) (i:=0) h.main (by simpa using z)
 have Z:MemOp.ofEvents 0 c.g.frame.fn c.g.frame.place #[]=#[]:=rfl
 rw[Z]at v;have M:(w.alloc o).heap.size=w.heap.size+1:=by simp
 have C:∀b,((fun b=>W b∨U b∨b=w.heap.size) b)->b<w.heap.size+1:=by
  rintro b (y|y|rfl)
  ·exact Nat.lt_succ_of_lt (h.own.wV b (.inl y))
  ·exact Nat.lt_succ_of_lt (h.own.wV b (.inr y))
  ·omega
 refine⟨_,_,v,w,j,_,sl,rfl,F,h.rely,?_⟩;rw[Array.append_empty];refine⟨h.hN,by simpa using B,get_map_set_same _ _ _ (by rw[B];omega),rfl,⟨_,rfl⟩,h.deaf,fun k Q A=>?_,?_,?_,?_,?_,h.norel⟩
 ·obtain⟨a1,⟨q,V⟩,a3,a4⟩:=h.lv k Q A
  exact⟨by rw[get_map_set _ _ _ _ (by omega),a1,Option.map_some,woken_rf V.status],⟨q,V⟩,a3,a4⟩
 ·exact⟨h.ti.quiet,h.ti.own,h.ti.rd,h.ti.nr,h.ti.gs,fun op R=>MemAct.low_mono (by rw[M];omega) (h.ti.low op R)⟩
 ·refine⟨h.own.oo,h.own.od,fun i b D E u=>?_,fun _ _ _ x=>x.elim,fun i b D E=>?_,fun _ _ _ x=>x.elim,fun b y=>?_⟩
  ·rcases u with u|u|u
   ·exact h.own.ow i b D E (.inl u)
   ·exact h.own.ow i b D E (.inr u)
   ·have:=h.own.G9 i b D E;omega
  ·have:=h.own.G9 i b D E;rw[M];omega
  ·rw[M];exact C b y
 ·intro i x u n;obtain⟨op,Q,A⟩:=touch_of u
  have X:=h.ti.low op (Array.mem_of_getElem? Q)
  have p:x.loc.low w.heap.size:=by
   obtain⟨g,fn,pos,act⟩:=op
   cases act with
   |access e=>simp only[MemAct.touch?,Option.some.injEq]at A;subst A;exact X
   |mark m=>
    cases m<;>simp only[MemAct.touch?,Option.some.injEq,reduceCtorEq]at A
    all_goals (subst A;exact X)
   |_=>simp[MemAct.touch?]at A
  revert n p;have s:=h.unt i x u
  revert s;cases x.loc with
  |cell a=>
   rintro s (n|n) p
   ·exact s n
   ·have:a.block<w.heap.size:=p;omega
  |obj r=>
   rintro s (n|n) p
   ·exact s n
   ·have:r<w.heap.size:=p;omega
  |_=>intro _ n _;exact n
 ·rintro b y (n|rfl)
  ·exact h.wu b y n
  ·exact absurd (h.own.wV _ (.inl y)) (Nat.lt_irrefl _)
end
end Go.Ren
namespace Go.Ren
open Go.Conc hiding mem_ofEvents Deaf
open Go.ConcR (g_of_ofEvents loc_of_ofEvent)
section
variable{P:Program}{W U Z:Nat->Prop}{N:Nat}{d:Nat}{g:Goroutine}{w0 w:World}{f:Nat->Pos}{c:Array Goroutine}{sl:Option (Nat×Nat)}{t:Trace}{dU:Machine->Outcome->World->Trace->Prop}
def full(Z:Nat->Prop)(w:World)(b:Nat):Prop:=b<w.heap.size/\¬Z b
theorem WY{Z:Nat->Prop}{w e:World}(k:∀b,Z b->b<w.heap.size)(m:w.heap.size<=e.heap.size):grow (full Z w) w e=full Z e:=by
 funext b;apply propext;unfold grow full;constructor
 ·rintro(⟨h,a⟩|⟨h,a⟩)
  ·exact⟨by omega,a⟩
  ·exact⟨a,fun l=>by have:=k b l;omega⟩
 ·rintro⟨h,a⟩;rcases Nat.lt_or_ge b w.heap.size with i|j
  ·exact .inl ⟨i,a⟩
  ·exact .inr ⟨j,h⟩
theorem MZ:XAl W X0:=⟨fun e h=>h.elim,fun e h=>h.elim⟩
def At(P:Program)(W U Z:Nat->Prop)(N:Nat)(d:Nat)(g:Goroutine)(w:World)(m:Machine)(t:Trace):Prop:=
 ∃(f:Nat->Pos) (c:Array Goroutine) (a:World) (sl:Option (Nat×Nat)),m=crowd c a sl/\Al P W U N ⟨full Z w,fun _=>False,d,g,w⟩ f c a t
theorem Y2(g:Goroutine)(w:World):At P (fun _=>False) (fun _=>False) (fun _=>False) 1 0 g w (solo g w) #[]:=by
 have p:∀(i:Nat) (op:MemOp),(#[]:Trace)[i]?=some op->False:=fun i op h=>by simp at h
 have e:∀(i:Nat) (a:Touch),touchAt (#[]:Trace) i=some a->False:=fun i a h=>by simp[touchAt,Trace.act?]at h
 refine⟨fun _=>⟨fun _=>False,fun _=>False,0,g,w⟩,#[g],w,none,solo_eq_crowd g w,Nat.le_refl _,rfl,rfl,rfl,⟨w.drawn,rfl⟩,rfl,fun k s u=>by omega,?_,?_,fun i x r=>(e i x r).elim,fun _ h=>h.elim,fun a i m=>by simp[Trace.act?]at m⟩
 ·refine⟨fun i op x m=>(p i op m).elim,fun i _ l _ j a n=>(e j a n).elim,fun i _ l _ j a n=>(e j a n).elim,fun q=>?_,fun i op m=>(p i op m).elim,fun op o=>by simp at o⟩;rintro⟨i,j,_,⟨a,b,n,_⟩,_⟩;exact e i a n
 ·exact⟨fun i j b m v _ _=>by omega,fun _ _ _ _ _ _ x=>x,fun _ _ _ _ x=>x.elim id id,fun _ _ _ x=>x.elim,fun i b _ x=>x.2.1,fun _ _ _ x=>x.elim,fun b x=>x.elim False.elim False.elim⟩
theorem Fa{a:Value->World->Prop}{g:Goroutine}{w:World}(h:aH P (Good P a) (fun _ _=>False) (solo g w) #[]):
  ∃N last o b e,runNT P (N+1) (solo g w) #[]=(.ended o b,e)/\runN P N (solo g w)=.next last/\step P last=.ended o b/\Good P a last o b e:=h.run
theorem At.ends{i:Value->World->Prop}{K:Machine->Trace->Prop}{m:Machine}(o:g.status=.running)(h:At P W U Z N d g w m t)
  (j:∀a,∃v k es,stepG P true g (w.at a)=.ended (.done v) k es/\aT X0 (full Z w) (fun _=>False) (w.at a) k es/\i v k):aH P (Good P i) K m t:=by
 obtain⟨f,c,b,sl,rfl,l⟩:=h
 have p:∃a,b=w.at a:=l.same
 refine l.ends (J:=fun b=>∃a,b=w.at a) MZ o p (fun k q ⟨a,e⟩=>⟨q,by rw[e];rfl⟩) fun k _ ⟨a,e⟩=>?_
 obtain⟨v,n,es,r,s,u⟩:=j a
 rw[e];exact⟨v,n,es,r,s,u⟩
end
end Go.Ren
namespace Go.Ren
open Go.Conc hiding Goes mem_ofEvents Deaf
open Go.ConcN (upd upd_same upd_ne)
open Go.Conc.Lib (WgLink)
open Go.ConcR (WgAt stA smA rd wr g_of_ofEvents loc_of_ofEvent)
section
variable{P:Program}{W U Z:Nat->Prop}{N:Nat}{d:Nat}{g i g₂:Goroutine}{w w':World}{x0:Pos}{a:Nat->Pos}{c:Array Goroutine}{sl:Option (Nat×Nat)}{m:Machine}{t:Trace}{dU:Machine->Outcome->World->Trace->Prop}
theorem At.agz{d₁:Nat}(h:At P W U Z N d g (w.at d₁) m t):At P W U Z N d g w m t:=by
 obtain⟨a,c,f,sl,rfl,b⟩:=h
 exact⟨a,c,f,sl,rfl,b.hN,b.size,b.main,rfl,(let⟨j,e⟩:=b.same;⟨j,by rw[e];rfl⟩),b.deaf,b.lv,b.ti,b.own,b.unt,b.wu,b.norel⟩
theorem At.idle{X:Event->Prop}{I:World->Prop}{S:Nat->Goroutine->Prop}(z:XAl W X)(v:∀d₁,I (w.at d₁))(h:af P true I X S d g):∀{m:Machine} {t:Trace},At P W U Z N d g w m t->aH P dU (fun m t=>∃x i,S x i/\At P W U Z N x i w m t) m t:=by
 induction h with
 |stop h=>intro m t l;exact .here ⟨_,_,h,l⟩
 | @step d g A f n h k B=>
  rintro m t ⟨a,c,j,sl,rfl,o⟩;refine aH.bind (K:=fun m t=>∃b,I b/\At P W U Z N (deafBehind d (n b)) (f b) w m t) ?_ ?_
  ·refine o.turn (J:=fun _=>True) A trivial (fun _ _ _=>trivial) fun a c j sl t y _=>.inl ?_;obtain⟨d₁,C⟩:=y.same
   have p:j=w.at d₁:=C
   subst p;obtain⟨q,r⟩:=h _ (v d₁)
   have D:aT X (full Z w) (fun _=>False) (w.at d₁) (w.at d₁) (n (w.at d₁)):=⟨Nat.le_refl _,fun _ _ _=>rfl,rfl,rfl,rfl,fun e E=>.inl (r e E)⟩
   obtain⟨s,u,F,H⟩:=y.MX (sl:=sl) z (x':=⟨full Z w,fun _=>False,deafBehind d (n (w.at d₁)),f (w.at d₁),w.at d₁⟩) q D rfl (jS _ _).symm rfl rfl;exact⟨_,u,F,w.at d₁,v d₁,At.agz (d₁:=d₁) ⟨a,s,_,sl,rfl,H⟩⟩
  ·rintro m t ⟨b,L,l⟩;exact B b L l
theorem At.fresh{o:Obj}(r:g.status=.running)(p:∀f,stepG P true g (w.at f)=.go i ((w.at f).alloc o) #[])(h:At P W U Z N d g w m t):
  aH P dU (At P W (fun b=>U b∨b=w.heap.size) (fun b=>Z b∨b=w.heap.size) N d i (w.alloc o)) m t:=by
 obtain⟨a,c,k,sl,rfl,l⟩:=h
 refine(l.fresh (J:=fun k=>∃f,k=w.at f) r l.same (fun w' s ⟨f,e⟩=>⟨s,by rw[e];rfl⟩) fun k _ ⟨f,e⟩=>by rw[e];exact p f).mono ?_;rintro m t ⟨q,a,c,sl,rfl,⟨f,rfl⟩,_,n⟩;have u:(w.alloc o).heap.size=w.heap.size+1:=by simp
 have e:full Z w=full (fun b=>Z b∨b=w.heap.size) (w.alloc o):=by
  funext b;apply propext;unfold full;rw[u];constructor
  ·rintro⟨v,j⟩;exact⟨by omega,fun h=>h.elim j (by omega)⟩
  ·rintro⟨v,j⟩;have:b≠w.heap.size:=fun e=>j (.inr e)
   exact⟨by omega,fun h=>j (.inl h)⟩
 have j:=n
 dsimp only at j;rw[e]at j;exact⟨a,c,_,sl,rfl,j.hN,j.size,j.main,rfl,⟨f,rfl⟩,j.deaf,j.lv,j.ti,j.own,j.unt,j.wu,j.norel⟩
end
end Go.Ren
namespace Go.Ren
open Go.Conc hiding mem_ofEvents Deaf
section
variable{P:Program}{W U Z Z':Nat->Prop}{N:Nat}{d:Nat}{dU:Machine->Outcome->World->Trace->Prop}
def Keep(Z:Nat->Prop)(w a:World):Prop:=(∀b,Z b->a.heap[b]?=w.heap[b]?)/\w.heap.size<=a.heap.size/\Tm w.os a.os/\a.output=w.output
theorem Keep.refl{w:World}:Keep Z w w:=⟨fun _ _=>rfl,Nat.le_refl _,.rfl,rfl⟩
theorem Keep.trans{w w' a:World}(h:Keep Z w w')(k:Keep Z w' a):Keep Z w a:=⟨fun b c=>(k.1 b c).trans (h.1 b c),Nat.le_trans h.2.1 k.2.1,h.2.2.1.trans k.2.2.1,k.2.2.2.trans h.2.2.2⟩
theorem Keep.mono{w a:World}(h:Keep Z w a)(c:∀b,Z' b->Z b):Keep Z' w a:=⟨fun b e=>h.1 b (c b e),h.2⟩
theorem Keep.lt{w a:World}(h:Keep Z w a)(c:∀b,Z b->b<w.heap.size):∀b,Z b->b<a.heap.size:=fun b e=>Nat.lt_of_lt_of_le (c b e) h.2.1
theorem At.wk2{S:(Nat->Prop)->Goroutine->World->Prop}{O:Nat->Prop}{g:Goroutine}{w:World}(H:Wk P true (fun _=>True) X0 (fun _=>False) S O g w)(s:∀b,Z b->b<w.heap.size):
  O=full Z w->∀{m:Machine} {t:Trace},At P W U Z N d g w m t->aH P dU (fun m t=>∃q n,At P W U Z N d q n m t/\S (full Z n) q n/\Keep Z w n) m t:=by
 induction H with
 |stop h=>intro L m t v;exact .here ⟨_,_,v,L▸h,.refl⟩
 | @step O g w M f u Q h k R=>
  rintro rfl m t ⟨D,T,j,r,rfl,y⟩;have o:∀a,aB (full Z w) (fun _=>False) w (w.at a):=fun a=>⟨Nat.le_refl _,fun _ _=>rfl,fun _ _=>rfl,.rfl,rfl,rfl⟩
  refine aH.bind (K:=fun m t=>∃a,At P W U Z N d (f (w.at a)) (u (w.at a)) m t/\grow (full Z w) (w.at a) (u (w.at a))=full Z (u (w.at a))/\Keep Z w (u (w.at a))) ?_ ?_
  ·refine y.turn (J:=fun _=>True) M trivial (fun _ _ _=>trivial) fun D T j r t E _=>.inl ?_;obtain⟨a,V⟩:=E.same
   have z:j=w.at a:=V
   subst z;obtain⟨A,l⟩:=h (w.at a) (o a) trivial
   have hd:deafBehind d (Q (w.at a))=d:=oP (fun e X=>(l.ev e X).hearing fun x=>x.elim) d
   have i:grow (full Z w) (w.at a) (u (w.at a))=full Z (u (w.at a)):=WY (w:=w.at a) s l.size
   obtain⟨B,C,Y,a2⟩:=E.MX (sl:=r) MZ (x':=⟨full Z (u (w.at a)),fun _=>False,d,f (w.at a),u (w.at a)⟩) A l hd.symm i.symm rfl rfl
   exact⟨_,C,Y,a,⟨D,B,u (w.at a),r,rfl,a2⟩,i,fun b F=>l.heap b (s b F) fun x=>x.2 F,l.size,.of l.os,l.output⟩
  ·rintro m t ⟨a,p,i,c⟩;refine(R (w.at a) (o a) trivial (c.lt s) i p).mono ?_;rintro m t ⟨q,n,k1,k2,k3⟩;exact⟨q,n,k1,k2,c.trans k3⟩
theorem At.drop{g:Goroutine}{w:World}{m:Machine}{t:Trace}(p:∀b,Z b->Z' b)(h:At P W U Z N d g w m t):At P W U Z' N d g w m t:=by
 obtain⟨q,r,l,s,rfl,e⟩:=h
 have u:∀b,full Z' w b->full Z w b:=fun b n=>⟨n.1,fun x=>n.2 (p b x)⟩
 have k:∀i b,xY (full Z' w) i b->xY (full Z w) i b:=fun i b n=>⟨n.1,u b n.2⟩
 exact⟨q,r,l,s,rfl,e.hN,e.size,e.main,rfl,e.same,e.deaf,e.lv,e.ti.less k (fun _ _ x=>.inl x),
  ⟨fun i j b f o a c=>e.own.oo i j b f o (k _ _ a) (k _ _ c),fun i j b f o a=>e.own.od i j b f o (k _ _ a),fun i b f a=>e.own.ow i b f (k _ _ a),e.own.dw,fun i b f a=>e.own.G9 i b f (k _ _ a),e.own.YF,e.own.wV⟩,e.unt,e.wu,e.norel⟩
end
end Go.Ren
namespace Go.Am
open Go.Ren (grow gU aT aB Wk At full X0 aH Keep)
section
variable{P:Program}{W U Z:Nat->Prop}{N:Nat}{d:Nat}{a:Machine->Outcome->World->Trace->Prop}{e:bI}{Q:Value->AH->Prop}{s:AS}{c:Env}{g:Goroutine}{w:World}{b:Frame}{bs:List Frame}{m:Machine}{t:Trace}
theorem Np[aO P]{K:AS->Prop}{base:List Frame}(o:∀b,Z b->b<w.heap.size)(k:bJ P e K s)(S:mJ P c (full Z w) (fun _=>False) base s g w)(h:At P W U Z N d g w m t):
  aH P a (fun m t=>∃(i:Env) (j:AS) (l:Goroutine) (f:World),K j/\c.Le i/\mJ P i (full Z f) (fun _=>False) base j l f/\At P W U Z N d l f m t/\Keep Z w f) m t:=by
 refine(At.wk2 (jk (X:=X0) (I:=fun _=>True) (m:=true) k S) o rfl h).mono ?_;rintro m t ⟨l,f,n,⟨i,j,p,q,r⟩,u⟩;exact⟨i,j,l,f,p,q,r,n,u⟩
end
end Go.Am
namespace Go.Ren
open Go.Conc hiding mem_ofEvents Deaf
section
variable{P:Program}{W U Z Z':Nat->Prop}{N:Nat}{d:Nat}{dU:Machine->Outcome->World->Trace->Prop}{g g':Goroutine}{w:World}{m:Machine}{t:Trace}
theorem At.alone(h:At P W U Z N d g w m t):At P W U (fun b=>W b∨U b) N d g w m t:=by
 obtain⟨u,v,l,y,rfl,f⟩:=h
 obtain⟨B,e⟩:=f.same
 have n:l.heap.size=w.heap.size:=by rw[e];rfl
 have p:=f.ti.alone fun k s q=>(f.lv k (by omega) q).2.2.2;refine⟨u,v,l,y,rfl,f.hN,f.size,f.main,rfl,f.same,f.deaf,f.lv,?_,?_,f.unt,f.wu,f.norel⟩
 ·refine p.less (fun i b r=>?_) fun i b r=>.inl r;obtain⟨s,q,z⟩:=r
  exact⟨s,by rw[n];exact q,fun x=>z (.inl x)⟩
 ·refine⟨fun i j b o A a c=>a.1.trans c.1.symm,fun i j b o A a c=>c.elim,fun i b o a x=>a.2.2 x,fun i b o x=>x.elim,fun i b o a=>by rw[n];exact a.2.1,fun i b o x=>x.elim,f.own.wV⟩
end
end Go.Ren
