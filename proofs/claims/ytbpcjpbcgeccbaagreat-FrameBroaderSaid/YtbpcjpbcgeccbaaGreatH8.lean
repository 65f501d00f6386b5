import Derived.Conc.CrowdComm
import Derived.Conc.CrowdStepC2
import Derived.Conc.Beside
import Derived.Test.YtbpcjpbcgeccbaaGreatH6
import Derived.Test.YtbpcjpbcgeccbaaGreatH7
set_option linter.unusedVariables false
set_option linter.unusedSectionVars false
set_option linter.unusedSimpArgs false
namespace Go.Ren
open Go.Conc hiding Goes mem_ofEvents
open Go.ConcN (sumTo upd upd_same upd_ne sumTo_congr sumTo_upd le_sumTo RelBy get_map_set get_map_set_same WgLive)
open Go.Conc.Lib (WgLink)
open Go.ConcR (KK WgAt stA smA rd wr mk g_of_ofEvents loc_of_ofEvent)
section
variable{P:Program}{X:Event→Prop}{W:Nat→Prop}{O D:Nat→Nat→Prop}{gs:Array Goroutine}{w w':World}{sl:Option (Nat×Nat)}{t:Trace}{i j n:Nat}{g g':Goroutine}{es:Array Event}
structure ng(X:Event→Prop)(W O D:Nat→Prop)(w₁ w':World)(es:Array Event):Prop where
 size:w₁.heap.size≤w'.heap.size
 heap:∀c,c < w₁.heap.size→¬O c→¬W c→w'.heap[c]? = w₁.heap[c]?
 os:Tm w₁.os w'.os
 output:w'.output=w₁.output
 tape:w'.tape=w₁.tape
 ev:∀e∈es,fK X w'.heap.size (grow O w₁ w') D e
theorem aN.wide{O D:Nat→Prop}{X':Event→Prop}(h:aN X O D w w' es)(hX:∀e,X e→X' e):ng X' W O D w w' es:=
 ⟨h.size,fun c hc hO _=>h.heap c hc hO,.of h.os,h.output,h.tape,fun e he=>(h.ev e he).imp (fun x=>⟨hX e x.1,x.2⟩) id⟩
theorem ng.rely(hG:ng X W (O i) (D i) w w' es)(w₀:Own W O D n w.heap.size)(hi:i < n)(hj:j < n)(hne:j≠i):au (O j) (D j) w w' :=
 ⟨hG.size,fun b hb=>hG.heap b (w₀.EK j b hj hb) (fun h=>hne (w₀.oo j i b hj hi hb h)) (w₀.ow j b hj hb),fun b hb=>hG.heap b (w₀.Uf j b hj hb) (fun h=>w₀.od i j b hi hj h hb) (w₀.dw j b hj hb),hG.os,hG.output,hG.tape⟩
theorem qE{O D:Nat→Prop}(h:∀e∈es,X e∧(MemAct.ofEvent e).low w.heap.size):ng X W O D w w es:=
 ⟨Nat.le_refl _,fun _ _ _ _=>rfl,.rfl,rfl,rfl,fun e he=>.inl (h e he)⟩
theorem BV{O D:Nat→Prop}{a:Addr}{v:Value}(ha:W a.block)(h:∀e∈es,X e∧(MemAct.ofEvent e).low w.heap.size):ng X W O D w (w.setCell a v) es:=by
 have hs:(w.setCell a v).heap.size=w.heap.size:=by simp
 refine ⟨by rw [hs];exact Nat.le_refl _,fun c hc _ hW=>?_,Tm.of (Go.Conc.aside_setCell w a v).os,(Go.Conc.aside_setCell w a v).output,(Go.Conc.aside_setCell w a v).tape,fun e he=>.inl (by rw [hs];exact h e he)⟩
 exact (Go.Conc.aside_setCell w a v).block c fun e=>hW (e ▸ ha)
theorem kE(hg:gs[i]? = some g)(hst:stepG P (i == 0) g w = .go g' w' es)(T:TI W O D gs.size w.heap.size t)(w₀:Own W O D gs.size w.heap.size)(hG:ng (Gt W i) W (O i) (D i) w w' es) :
  runT P (crowd gs w sl) i=(.next (crowd ((gs.map (woken P g g' w')).setIfInBounds i g') w' sl),MemOp.ofEvents i g.frame.fn g.frame.place es) ∧
  TI W (with_ O i w.heap.size w'.heap.size) D gs.size w'.heap.size (t ++ MemOp.ofEvents i g.frame.fn g.frame.place es)∧Own W (with_ O i w.heap.size w'.heap.size) D gs.size w'.heap.size:=by
 have hi:i < gs.size:=(Array.getElem?_eq_some_iff.1 hg).1
 refine ⟨runT_crowd_go hg hst,T.step w₀ hi hG.size (fun e he=>he) fun e he=>?_,w₀.grow hi hG.size⟩
 have:=hG.ev e he
 rw [←um] at this
 exact this
end
inductive dZ where
 |sp (r s:Nat)|w1 (v:Nat) (gT:Goroutine) (A:Goroutine→Prop)|w2 (v:Nat) (gT:Goroutine) (A:Goroutine→Prop)|w3 (gT:Goroutine)|w4 (gT:Goroutine)|acq (gT:Goroutine)
def rkM(n:Nat):dZ→Nat
 | .sp r s=>8 * n+8+2 * r+s
 | .w1 v _ _=>8 * v+6
 | .w2 v _ _=>8 * v+4
 | .w3 _=>3
 | .w4 _=>2
 | .acq _=>1
def dZ.toAdd:dZ→Prop
 | .sp (_+1) 1=>True
 |_=>False
def lF:dZ→Nat
 | .sp (_+1) 0=>1
 |_=>0
def agh:dZ→Prop
 | .sp _ _ | .w1 _ _ _ | .w2 _ _ _=>True
 |_=>False
def akv:dZ→Prop
 | .w4 _ | .acq _=>True
 |_=>False
def ab8(v:Nat):dZ→Prop
 | .w1 u _ _=>v≤u
 | .w2 u _ _=>v≤u∧1≤u
 |_=>True
def oD(s:Nat):Nat:=if 5≤s then 1 else 0
def Vn(j:Nat)(st:Nat→Nat):Nat:=sumTo j fun i=>oD (st i)
def Opn(j:Nat)(st:Nat→Nat):Prop:=∀i,i < j→st i=8∨st i=7∨st i=5∨st i=1
def WW(j:Nat)(st:Nat→Nat):Prop:=∀i,i < j→st i=1
inductive Md(j:Nat)(st:Nat→Nat):dZ→Int→Int→Prop
 |opn {tag:dZ} (h1:agh tag) (h2:Opn j st) (h3:ab8 (Vn j st) tag):Md j st tag (((Vn j st+lF tag:Nat):Int) * KK) 0
 |reg {gT:Goroutine} (h2:Opn j st) (h3:1≤Vn j st):Md j st (.w3 gT) (((Vn j st:Nat):Int) * KK+1) 0
 |last {gT:Goroutine} (K:Nat) (h2:K < j) (h3:st K=4∨st K=3∨st K=2) (h4:∀i,i < j→i≠K→st i=1):Md j st (.w3 gT) (if st K=2 then 0 else 1) 0
 |sema {gT:Goroutine} (h2:WW j st):Md j st (.w3 gT) 0 1
 |fin {tag:dZ} (h1:akv tag) (h2:WW j st):Md j st tag 0 0
section
variable{j i s':Nat}{st:Nat→Nat}{tag:dZ}{a b:Int}
theorem Lj(s':Nat)(hi:i < j):Vn j (upd st i s')+oD (st i)=Vn j st+oD s' :=sumTo_upd st s' oD hi
theorem P7{v v':Nat}(h:v' ≤ v)(hb:ab8 v tag):ab8 v' tag:=by
 cases tag<;>first|exact trivial|exact Nat.le_trans h hb|exact ⟨Nat.le_trans h hb.1,hb.2⟩
theorem Opn.upd(h:Opn j st)(hs:s' = 8∨s' = 7∨s' = 5∨s' = 1):Opn j (upd st i s'):=by
 intro k hk
 by_cases e:k=i
 ·subst e;rw [upd_same];exact hs
 ·rw [upd_ne st _ e];exact h k hk
theorem Md.counted(h:Md j st tag a b)(hi:i < j)(h5:5≤st i)(hs:s' = 8∨s' = 7∨s' = 5):Md j (upd st i s') tag a b:=by
 have hv:Vn j (Go.ConcN.upd st i s')=Vn j st:=by
  have:=Lj (st:=st) s' hi
  have c1:oD (st i)=1:=by simp [oD,h5]
  have c2:oD s' = 1:=by rcases hs with rfl|rfl|rfl<;>rfl
  omega
 have ho:Opn j st→Opn j (Go.ConcN.upd st i s'):=fun x=>x.upd (by rcases hs with rfl|rfl|rfl<;>simp)
 cases h with
 |opn h1 h2 h3=>rw [←hv];exact .opn h1 (ho h2) (by rw [hv];exact h3)
 |reg h2 h3=>rw [←hv];exact .reg (ho h2) (by rw [hv];exact h3)
 |last K h2 h3 h4=>
  by_cases e:i=K
  ·subst e;omega
  ·have:=h4 i hi e;omega
 |sema h2=>have:=h2 i hi;omega
 |fin h1 h2=>have:=h2 i hi;omega
theorem Md.same(h:Md j st tag a b)(hs:st i=s'):Md j (upd st i s') tag a b:=by
 have:Go.ConcN.upd st i s' = st:=by
  funext k
  by_cases e:k=i
  ·subst e;rw [upd_same,hs]
  ·rw [upd_ne st _ e]
 rw [this]
 exact h
theorem Md.isLast(h:Md j st tag a b)(hi:i < j)(hs:st i=4∨st i=3∨st i=2) :
  (∃gT,tag = .w3 gT)∧(∀k,k < j→k≠i→st k=1)∧a=(if st i=2 then 0 else 1)∧b=0:=by
 cases h with
 |opn h1 h2 h3=>have:=h2 i hi;omega
 |reg h2 h3=>have:=h2 i hi;omega
 | @last gT K h2 h3 h4=>
  by_cases e:i=K
  ·subst e;exact ⟨⟨gT,rfl⟩,h4,rfl,rfl⟩
  ·have:=h4 i hi e;omega
 |sema h2=>have:=h2 i hi;omega
 |fin h1 h2=>have:=h2 i hi;omega
theorem Uj(j:Nat)(st:Nat→Nat):Vn j st≤j:=by
 have:=Go.ConcN.sumTo_le (f:=fun i=>oD (st i)) (c:=1) (j:=j) fun i _=>by simp only [oD];split<;>omega
 simpa [Vn] using this
theorem Lh(hi:i < j)(h5:5≤st i):1≤Vn j st:=by
 have:=le_sumTo (f:=fun i=>oD (st i)) hi
 simp only [oD,h5,if_true] at this
 exact this
theorem vK:∀ {j:Nat},1≤Vn j st→∃i,i < j∧5≤st i
 |0,h=>by simp [Vn,sumTo] at h
 |j+1,h=>by
  by_cases hc:5≤st j
  ·exact ⟨j,by omega,hc⟩
  ·have:1≤Vn j st:=by simp only [Vn,sumTo,oD,if_neg hc] at h ⊢;simpa using h
   obtain ⟨i,hi,h5⟩:=vK this
   exact ⟨i,by omega,h5⟩
theorem Opn.Gx(h:Opn j st)(hv:Vn j st=0):WW j st:=by
 intro i hi
 have:=h i hi
 by_cases h5:5≤st i
 ·have:=Lh hi h5;omega
 ·omega
theorem Je(ho:Opn j st)(hi:i < j)(h5:5≤st i)(hv:Vn j st=1):∀k,k < j→k≠i→st k=1:=by
 have h0:=Lj (st:=st) (i:=i) 0 hi
 have c1:oD (st i)=1:=by simp [oD,h5]
 have c0:oD 0=0:=rfl
 intro k hk e
 by_cases h5':5≤st k
 ·have:1≤Vn j (Go.ConcN.upd st i 0):=Lh hk (by rw [upd_ne st _ e];exact h5')
  omega
 ·have:=ho k hk;omega
end
end Go.Ren
namespace Go.Ren
theorem au.draw{O D:Nat→Prop}(w:World)(d:Nat):au O D w (w.at d):=⟨Nat.le_refl _,fun _ _=>rfl,fun _ _=>rfl,.rfl,rfl,rfl⟩
open Go.Conc hiding Goes mem_ofEvents
open Go.ConcN (sumTo upd upd_same upd_ne sumTo_congr sumTo_upd le_sumTo RelBy get_map_set get_map_set_same WgLive)
open Go.Conc.Lib (WgLink)
open Go.ConcR (KK WgAt stA smA rd wr mk g_of_ofEvents loc_of_ofEvent)
def X4(Sent:Nat→(Nat→Prop)→(Nat→Prop)→Option Value→World→Prop):Prop:=∀i O D v w w',Sent i O D v w→au O D w w' → Sent i O D v w'
def ab9(Ch cap:Nat)(w:World):Prop:=∃buf s r tm,w.heap[Ch]? = some (.chan cap buf false s r tm)
section
variable(P:Program)(L:WgLink)(Wg Ch cap n n0:Nat)(Sent:Nat→(Nat→Prop)→(Nat→Prop)→Option Value→World→Prop)(Fin:(Nat→Prop)→(Nat→Prop)→Goroutine→World→Prop)
def FH(w:World):Prop:=Lv L Wg w∧ab9 Ch cap w
def NxS(r:Nat):(Nat→Prop)→(Nat→Prop)→Goroutine→World→Prop:=Spawns P L Wg Ch Sent (FH L Wg Ch cap) Fin n r
def jY:dZ→Pos→Prop
 | .sp (r+1) 1,x=>dM P true (FH L Wg Ch cap) (XM Wg) x.D (mO P L Wg Ch Sent (FH L Wg Ch cap) (n - (r+1)) (NxS P L Wg Ch cap n Sent Fin r) x.D) x.d x.O x.g x.w
 | .sp (r+1) 0,x=>dM P true (FH L Wg Ch cap) (XM Wg) x.D (vZ P L Wg Ch Sent (FH L Wg Ch cap) (n - (r+1)) (NxS P L Wg Ch cap n Sent Fin r) x.D) x.d x.O x.g x.w
 | .sp 0 1,x=>dM P true (FH L Wg Ch cap) (XM Wg) x.D (fU P L Wg Fin x.D) x.d x.O x.g x.w
 | .sp _ _,_=>False
 | .w1 _ gT A,x=>Anch P L Wg gT A∧(∀w',au x.O x.D x.w w' → Fin x.D x.O gT w')∧ag P true (Lv L Wg) (XM Wg) (M1 P L Wg gT A) x.d x.g
 | .w2 v gT A,x=>Anch P L Wg gT A∧(∀w',au x.O x.D x.w w' → Fin x.D x.O gT w')∧ag P true (Lv L Wg) (XM Wg) (M2 P L Wg gT A v) x.d x.g
 | .w3 gT,x=>(∀w',au x.O x.D x.w w' → Fin x.D x.O gT w')∧ag P true (Lv L Wg) (XM Wg) (M3 P L Wg gT) x.d x.g
 | .w4 gT,x=>(∀w',au x.O x.D x.w w' → Fin x.D x.O gT w')∧ag P true (Lv L Wg) (XM Wg) (M4 P L Wg gT) x.d x.g
 | .acq gT,x=>(∀w',au x.O x.D x.w w' → Fin x.D x.O gT w')∧ag P true (Lv L Wg) (XM Wg) (KA P L Wg gT) x.d x.g
def dh(i:Nat):Nat→Pos→Prop
 |8,x=>dM P false (FH L Wg Ch cap) X0 x.D (lD P L Wg Ch (Sent i) (FH L Wg Ch cap) x.D) x.d x.O x.g x.w
 |7,x=>ag P false (Lv L Wg) X0 (fQ P L Wg) x.d x.g
 |5,x=>ag P false (Lv L Wg) XD (zS P L Wg) x.d x.g
 |4,x=>ag P false (Lv L Wg) X0 (WLd P L Wg) x.d x.g
 |3,x=>ag P false (Lv L Wg) X0 (WSt P L Wg) x.d x.g
 |2,x=>ag P false (Lv L Wg) X0 (SK P L Wg) x.d x.g
 |1,x=>∃q,QuitsD P q x.d x.g
 |_,_=>False
def BM(n j:Nat):dZ→Prop
 | .sp r _=>r+j=n
 |_=>j=n
structure Co(W U:Nat→Prop)(j:Nat)(tag:dZ)(x0:Pos)(bl:Bool)(st:Nat→Nat)(xs ls:Nat→Pos)(O D:Nat→Nat→Prop)(gs:Array Goroutine)(w:World)(t:Trace):Prop where
 hn0:1≤n0
 size:gs.size=n0+j
 main:gs[0]? = some (if bl then { x0.g with status:=.blocked } else x0.g)
 blk:bl=true→(∃gT,tag = .w3 gT∧M3 P L Wg gT x0.d x0.g)∧∃i,i < j∧2≤st i
 seat:jY P L Wg Ch cap n Sent Fin tag x0
 O0:x0.O=O 0
 D0:x0.D=D 0
 rely:au x0.O x0.D x0.w w
 deaf:Go.Conc.Deaf t 0=x0.d
 wk:∀i,i < j→gs[n0+i]? = some (xs i).g∧dh P L Wg Ch cap Sent i (st i) (xs i)∧Go.Conc.Deaf t (n0+i)=(xs i).d
 wO:∀i,i < j→st i=8→(xs i).O=O (n0+i)∧(xs i).D=D (n0+i)∧au (O (n0+i)) (D (n0+i)) (xs i).w w
 lv:∀k,1≤k→k < n0→gs[k]? = some (ls k).g∧(∃q,QuitsD P q (ls k).d (ls k).g)∧Go.Conc.Deaf t k=(ls k).d∧Gone W t k
 ti:TI W O D (n0+j) w.heap.size t
 own:Own (fun b=>W b∨U b) O D (n0+j) w.heap.size
 hW:W Wg∧U Ch∧Wg≠Ch
 over:∀i,i < j→st i≤5→∃r,Over (stA Wg) W t (n0+i) r
 norel:∀a,NoRelease a t
 sent:∃(order:List Nat) (vals:Nat→Option Value) (s r:Nat) (tm:Bool),order.Nodup∧(∀i,i∈order↔i < j∧st i≤7)∧w.heap[Ch]? = some (.chan cap (order.filterMap vals).toArray false s r tm)∧∀i∈order,Sent i (O (n0+i)) (D (n0+i)) (vals i) w
 md:∃a b,WgAt L.tWg Wg w a b∧Md j st tag a b
 left:BM n j tag
end
section
variable{P:Program}{L:WgLink}{Wg Ch cap n n0:Nat}{Sent:Nat→(Nat→Prop)→(Nat→Prop)→Option Value→World→Prop}{Fin:(Nat→Prop)→(Nat→Prop)→Goroutine→World→Prop}
 {W U:Nat→Prop} {j:Nat} {tag:dZ} {x0:Pos} {bl:Bool} {st:Nat→Nat} {xs ls:Nat→Pos} {O D:Nat→Nat→Prop} {gs:Array Goroutine} {w w':World} {sl:Option (Nat×Nat)} {t:Trace}
theorem Own.less{W W':Nat→Prop}{O D:Nat→Nat→Prop}{n B:Nat}(h:Own W' O D n B)(hw:∀b,W b→W' b):Own W O D n B:=
 ⟨h.oo,h.od,fun i b hi ho x=>h.ow i b hi ho (hw b x),fun i b hi hd x=>h.dw i b hi hd (hw b x),h.EK,h.Uf,fun b x=>h.vP b (hw b x)⟩
theorem oZ{t:Trace}{k:Nat}{fn:FuncId}{pos:String}{es:Array Event}(h:∀a,NoRelease a t)(hu:∀e∈es,∀a,e.loc ≠ .mark (.release a)):∀a,NoRelease a (t ++ MemOp.ofEvents k fn pos es):=fun a=>
 (h a).app fun op hop e=>by
  rw [ofEvents_eq] at hop
  obtain ⟨x,hx,rfl⟩:=Array.mem_map.1 hop
  exact hu x hx a (loc_of_ofEvent e)
theorem EN{t:Trace}{u:Array MemOp}(h:∀a,NoRelease a t)(hu:∀op∈u,∀a,op.act ≠ .mark (.release a)):∀a,NoRelease a (t ++ u):=fun a=>(h a).app fun op hop=>hu op hop a
theorem ag.status{m:Bool}{I:World→Prop}{X:Event→Prop}{S:Nat→Goroutine→Prop}{d:Nat}{g:Goroutine}(hS:∀d g,S d g→g.status = .running)(h:ag P m I X S d g):g.status = .running:=by
 cases h with
 |stop h=>exact hS _ _ h
 |step hs=>exact hs
theorem dM.status{m:Bool}{I:World→Prop}{X:Event→Prop}{D:Nat→Prop}{S:Nat→(Nat→Prop)→Goroutine→World→Prop}{d:Nat}{O:Nat→Prop}{g:Goroutine}{w:World}(hS:∀d O g w,S d O g w→g.status = .running)(h:dM P m I X D S d O g w):g.status = .running:=by
 cases h with
 |stop h=>exact hS _ _ _ _ h
 |step hs=>exact hs
theorem xe{D':Nat→Prop}{d:Nat}{O':Nat→Prop}{g:Goroutine}(h:fU P L Wg Fin D' d O' g w):g.status = .running:=by
 obtain ⟨gT,A,_,h,_⟩:=h
 exact ag.status (fun _ _ x=>x.2.1) h
theorem jL{tag:dZ}{x:Pos}(h:jY P L Wg Ch cap n Sent Fin tag x):x.g.status = .running:=by
 cases tag with
 |sp r s=>
  rcases r with _|r
  ·rcases s with _|_|s
   ·exact h.elim
   ·exact dM.status (fun _ _ _ _ x=>xe x) h
   ·exact h.elim
  ·rcases s with _|_|s
   ·exact dM.status (fun _ _ _ _ x=>x.2.1) h
   ·exact dM.status (fun _ _ _ _ x=>x.2.1) h
   ·exact h.elim
 |w1 v gT A=>exact ag.status (fun _ _ x=>x.2.1) h.2.2
 |w2 v gT A=>exact ag.status (fun _ _ x=>x.2.1) h.2.2
 |w3 gT=>exact ag.status (fun _ _ x=>x.2.1) h.2
 |w4 gT=>exact ag.status (fun _ _ x=>x.2.1) h.2
 |acq gT=>exact ag.status (fun _ _ x=>x.2.1) h.2
theorem Co.at(hS:X4 Sent)(h:(Co P L Wg Ch cap n n0 Sent Fin W U) j tag x0 bl st xs ls O D gs w t)(d:Nat):(Co P L Wg Ch cap n n0 Sent Fin W U) j tag x0 bl st xs ls O D gs (w.at d) t:=by
 obtain ⟨order,vals,s,r,tm,h1,h2,h3,h4⟩:=h.sent
 obtain ⟨a,b,h5,h6⟩:=h.md
 exact ⟨h.hn0,h.size,h.main,h.blk,h.seat,h.O0,h.D0,h.rely.trans (.draw w d),h.deaf,h.wk,fun i hi hs=>let ⟨x,y,z⟩:=h.wO i hi hs;⟨x,y,z.trans (.draw w d)⟩,h.lv,h.ti,h.own,h.hW,h.over,h.norel,
  ⟨order,vals,s,r,tm,h1,h2,h3,fun i hi=>hS _ _ _ _ _ _ (h4 i hi) (.draw w d)⟩,⟨a,b,h5,h6⟩,h.left⟩
theorem La{g g' x:Goroutine}{bl:Bool}(hs:x.status = .running)(ho:bl=true→x.offers=none) :
  ∃gz:Bool,woken P g g' w' (if bl then { x with status:=.blocked } else x)=(if gz then { x with status:=.blocked } else x)∧(gz = true→bl=true)∧(mayWake P g=true→(g'.status = .running∨g'.status = .finished)→gz = false):=by
 cases bl with
 |false=>
  refine ⟨false,?_,id,fun _ _=>rfl⟩
  simp only [Bool.false_eq_true,if_false]
  exact woken_running hs
 |true=>
  simp only [if_true]
  have hoff:=ho rfl
  unfold woken
  split
  ·refine ⟨false,?_,(fun h=>by cases h),fun _ _=>rfl⟩
   obtain ⟨fr,cs,s,dy,off⟩:=x
   simp only at hs hoff
   subst hs hoff
   rfl
  ·rename_i hn
   refine ⟨true,rfl,fun _=>trivial,fun h1 h2=>?_⟩
   exact absurd (by rcases h2 with h2|h2<;>simp [h1,h2]) hn
end
end Go.Ren
namespace Go.Ren
open Go.Conc hiding Goes mem_ofEvents
open Go.ConcN (sumTo upd upd_same upd_ne sumTo_congr sumTo_upd le_sumTo RelBy get_map_set get_map_set_same WgLive norel_of)
open Go.Conc.Lib (WgLink)
open Go.ConcR (KK WgAt stA smA rd wr mk g_of_ofEvents loc_of_ofEvent)
section
variable{P:Program}{L:WgLink}{Wg Ch cap n n0:Nat}{Sent:Nat→(Nat→Prop)→(Nat→Prop)→Option Value→World→Prop}{Fin:(Nat→Prop)→(Nat→Prop)→Goroutine→World→Prop}
 {W U:Nat→Prop} {j:Nat} {tag:dZ} {x0:Pos} {bl:Bool} {st:Nat→Nat} {xs ls:Nat→Pos} {O D:Nat→Nat→Prop} {gs:Array Goroutine} {w w':World} {sl:Option (Nat×Nat)} {t:Trace}
theorem Ol{O:Nat→Prop}{w w':World}(h:w'.heap.size=w.heap.size):grow O w w' = O:=by
 funext b
 apply propext
 unfold grow
 constructor
 ·rintro (x|x)
  ·exact x
  ·omega
 ·exact .inl
end
end Go.Ren
namespace Go.Ren
open Go.Conc hiding Goes mem_ofEvents
open Go.ConcN (sumTo upd upd_same upd_ne sumTo_congr sumTo_upd le_sumTo RelBy get_map_set get_map_set_same WgLive norel_of RelBy.book)
open Go.Conc.Lib (WgLink)
open Go.ConcR (KK WgAt stA smA rd wr mk g_of_ofEvents loc_of_ofEvent)
section
variable{W:Nat→Prop}{k:Nat}{Wg:Nat}{w:World}{t:Trace}{fn:FuncId}{pos:String}{es:Array Event}
def iM(Wg:Nat)(e:Event):Prop:=e.loc = .mark .disable∨e.loc = .mark .enable∨e=Go.ConcR.mk (.releaseMerge (stA Wg))∨e=Go.ConcR.mk (.acquire (stA Wg))∨∃a wr,e=⟨.cell a,wr,true⟩∧a.block=Wg
theorem xk(hW:W Wg)(hlt:Wg < w.heap.size){e:Event}(h:iM Wg e):Gt W k e∧(MemAct.ofEvent e).low w.heap.size:=by
 rcases h with h|h|rfl|rfl|⟨a,wr,rfl,ha⟩
 ·exact ⟨fun x hx=>(by rw [Go.ConcR.ofEvent_loc_mark h] at hx;cases hx),by rw [Go.ConcR.ofEvent_loc_mark h];trivial⟩
 ·exact ⟨fun x hx=>(by rw [Go.ConcR.ofEvent_loc_mark h] at hx;cases hx),by rw [Go.ConcR.ofEvent_loc_mark h];trivial⟩
 ·exact ⟨fun x hx=>by simp [Go.ConcR.mk,MemAct.ofEvent,MemAct.touch?] at hx,hlt⟩
 ·exact ⟨fun x hx=>by simp [Go.ConcR.mk,MemAct.ofEvent,MemAct.touch?] at hx,hlt⟩
 ·refine ⟨fun x hx=>?_,?_⟩
  ·have:x=⟨.cell a,wr,.atomic⟩:=by
    cases wr<;>simp [MemAct.ofEvent,MemAct.touch?] at hx<;>exact hx.symm
   subst this
   exact ⟨by show W a.block;rw [ha];exact hW,by simp,fun e=>by simp at e⟩
  ·cases wr<;>(show a.block < _;omega)
theorem Ul(hW:W Wg)(hlt:Wg < w.heap.size){e:Event}(h:XM Wg e):Gt W 0 e∧(MemAct.ofEvent e).low w.heap.size:=by
 rcases h with rfl|rfl|⟨a,ha,rfl|rfl⟩
 ·exact ⟨fun x hx=>by simp [Go.ConcR.mk,MemAct.ofEvent,MemAct.touch?] at hx,trivial⟩
 ·exact ⟨fun x hx=>by simp [Go.ConcR.mk,MemAct.ofEvent,MemAct.touch?] at hx,trivial⟩
 ·refine ⟨fun x hx=>?_,by show a.block < _;omega⟩
  simp only [MemAct.ofEvent,MemAct.touch?,Option.some.injEq] at hx
  subst hx
  exact ⟨by show W a.block;rw [ha];exact hW,by simp,fun _=>rfl⟩
 ·refine ⟨fun x hx=>?_,by show a.block < _;omega⟩
  simp only [MemAct.ofEvent,MemAct.touch?,Option.some.injEq] at hx
  subst hx
  exact ⟨by show W a.block;rw [ha];exact hW,by simp,fun _=>rfl⟩
theorem Om:∀e∈semEvents (smA Wg),iM Wg e:=by
 intro e he
 simp [semEvents] at he
 rcases he with rfl|rfl|rfl|rfl
 ·exact .inl rfl
 ·exact .inr (.inr (.inr (.inr ⟨_,_,rfl,rfl⟩)))
 ·exact .inr (.inr (.inr (.inr ⟨_,_,rfl,rfl⟩)))
 ·exact .inr (.inl rfl)
theorem fJ{e:Event}(h:iM Wg e)(ad:Addr):e.loc ≠ .mark (.release ad):=by
 rcases h with h|h|rfl|rfl|⟨a,wr,rfl,_⟩<;>first|(rw [h];simp)|simp [Go.ConcR.mk]
theorem Cb{e:Event}(h:XM Wg e)(ad:Addr):e.loc ≠ .mark (.release ad):=by
 rcases h with rfl|rfl|⟨a,_,rfl|rfl⟩<;>simp [Go.ConcR.mk]
theorem yB{X:Event→Prop}{B:Nat}{O D:Nat→Prop}{e:Event}(h:fK X B O D e)(hX:X e→∀a,e.loc ≠ .mark (.release a))(ad:Addr):e.loc ≠ .mark (.release ad):=by
 rcases h with h|h
 ·exact hX h.1 ad
 ·intro e'
  rw [e'] at h
  exact absurd h (by simp [uQ])
theorem Over.book{a:Addr}{r d:Nat}(h:Over a W t k r)(hW:W Wg)(hdk:Go.Conc.Deaf t k=d)(hes:∀e∈es,Go.ConcR.Bk Wg e)
  (hd:∀j e,es[j]? = some e→(MemAct.ofEvent e).touch? = none∨0 < deafBehind d (es.extract 0 j)):Over a W (t ++ MemOp.ofEvents k fn pos es) k r:=by
 refine ⟨h.rel.book hdk fn pos hes hd,fun i x hi hg hx=>?_⟩
 obtain ⟨op,h1,h2⟩:=qM hg
 rcases getElem?_append_cases h1 with ⟨hl,h1'⟩|⟨_,hou⟩
 ·refine h.ab7 i x hi (by rw [g?_of h1',h2]) ?_
  rw [touchAt_old hl] at hx
  exact hx
 ·rw [touchAt_of h1] at hx
  rw [ofEvents_eq] at hou
  obtain ⟨e,he,rfl⟩:=Array.mem_map.1 hou
  intro hm
  rcases hes e he with h3|h3|⟨a,wr,rfl,ha⟩
  ·rw [Go.ConcR.ofEvent_loc_mark h3] at hx;cases hx
  ·rw [Go.ConcR.ofEvent_loc_mark h3] at hx;cases hx
  ·have:x=⟨.cell a,wr,.atomic⟩:=by
    cases wr<;>simp [MemAct.ofEvent,MemAct.touch?] at hx<;>exact hx.symm
   subst this
   show W a.block
   rw [ha]
   exact hW
theorem Over.new{a:Addr}(hd:Go.Conc.Deaf t k=0):Over a W (t ++ MemOp.ofEvents k fn pos #[Go.ConcR.mk (.releaseMerge a)]) k t.size:=by
 refine ⟨RelBy.new hd fn pos,fun i x hi hg hx=>?_⟩
 obtain ⟨op,h1,_⟩:=qM hg
 have:=lt_size_of_getElem? h1
 have e1:(MemOp.ofEvents k fn pos #[Go.ConcR.mk (.releaseMerge a)]).size=1:=by rw [ofEvents_eq];simp
 rw [Array.size_append,e1] at this
 omega
end
section
variable{P:Program}{L:WgLink}{Wg Ch cap n n0:Nat}{Sent:Nat→(Nat→Prop)→(Nat→Prop)→Option Value→World→Prop}{Fin:(Nat→Prop)→(Nat→Prop)→Goroutine→World→Prop}
 {W U:Nat→Prop} {j:Nat} {tag:dZ} {x0:Pos} {bl:Bool} {st:Nat→Nat} {xs ls:Nat→Pos} {O D:Nat→Nat→Prop} {gs:Array Goroutine} {w w':World} {sl:Option (Nat×Nat)} {t:Trace}
theorem Qa{st sm:Int}{ty:TypeId}(h:WgAt ty Wg w st sm):Wg < w.heap.size:=(Array.getElem?_eq_some_iff.1 h).1
theorem dS{a:Addr}{v:Value}{b:Nat}(h:b≠a.block):(w.setCell a v).heap[b]? = w.heap[b]? :=(Go.Conc.aside_setCell w a v).block b h
theorem uq{m:Bool}{S:Nat→Goroutine→Prop}{d:Nat}{g:Goroutine}(h:ag P m (Lv L Wg) X0 S d g)(hl:Lv L Wg w):S d g∨(¬S d g∧∃g',stepG P m g w = .go g' w #[]∧ag P m (Lv L Wg) X0 S d g'):=by
 by_cases hS:S d g
 ·exact .inl hS
 ·cases h with
  |stop h=>exact absurd h hS
  |step hs f es h k=>
   have h1:=h w hl
   have he:es w = #[]:=Array.eq_empty_iff_forall_not_mem.2 fun e he=>(h1.2 e he).1
   have h2:=k w hl
   rw [he] at h1 h2
   exact .inr ⟨hS,_,h1.1,h2⟩
end
end Go.Ren
namespace Go.Ren
open Go.Conc hiding Goes mem_ofEvents
open Go.ConcN (sumTo upd upd_same upd_ne sumTo_congr sumTo_upd le_sumTo RelBy get_map_set get_map_set_same WgLive norel_of Deaf_absent)
open Go.Conc.Lib (WgLink)
open Go.ConcR (KK WgAt stA smA rd wr mk g_of_ofEvents loc_of_ofEvent)
section
variable{P:Program}{L:WgLink}{Wg Ch cap n n0:Nat}{Sent:Nat→(Nat→Prop)→(Nat→Prop)→Option Value→World→Prop}{Fin:(Nat→Prop)→(Nat→Prop)→Goroutine→World→Prop}
 {W U:Nat→Prop} {j:Nat} {tag:dZ} {x0:Pos} {bl:Bool} {st:Nat→Nat} {xs ls:Nat→Pos} {O D:Nat→Nat→Prop} {gs:Array Goroutine} {w w':World} {sl:Option (Nat×Nat)} {t:Trace}
theorem uo(O:Nat→Nat→Prop)(i B:Nat):with_ O i B B=O:=by
 funext k b
 apply propext
 unfold with_
 constructor
 ·rintro (x|⟨_,x,y⟩)
  ·exact x
  ·omega
 ·exact .inl
theorem xq{Wg:Nat}{e:Event}(h:e.mute=true):iM Wg e∧(MemAct.ofEvent e).touch? = none:=by
 obtain ⟨loc,wr,sy⟩:=e
 cases loc with
 |mark m=>cases m<;>first|exact ⟨.inl rfl,rfl⟩|exact ⟨.inr (.inl rfl),rfl⟩|simp [Event.mute] at h
 |_=>simp [Event.mute] at h
end
end Go.Ren
namespace Go.Ren
open Go.Conc hiding Goes mem_ofEvents
open Go.ConcN (sumTo upd upd_same upd_ne sumTo_congr sumTo_upd le_sumTo RelBy get_map_set get_map_set_same WgLive norel_of Deaf_absent)
open Go.Conc.Lib (WgLink)
open Go.ConcR (KK WgAt stA smA rd wr mk g_of_ofEvents loc_of_ofEvent)
section
variable{P:Program}{L:WgLink}{Wg Ch cap n n0:Nat}{Sent:Nat→(Nat→Prop)→(Nat→Prop)→Option Value→World→Prop}{Fin:(Nat→Prop)→(Nat→Prop)→Goroutine→World→Prop}
 {W U:Nat→Prop} {j:Nat} {tag:dZ} {x0:Pos} {bl:Bool} {st:Nat→Nat} {xs ls:Nat→Pos} {O D:Nat→Nat→Prop} {gs:Array Goroutine} {w w':World} {sl:Option (Nat×Nat)} {t:Trace}
theorem pg{m:Bool}{X:Event→Prop}{S:Nat→Goroutine→Prop}{d:Nat}{g:Goroutine}(h:ag P m (Lv L Wg) X S d g)(hl:Lv L Wg w) :
  S d g∨(¬S d g∧∃g' es,stepG P m g w = .go g' w es∧(∀e∈es,X e)∧ag P m (Lv L Wg) X S (deafBehind d es) g'):=by
 by_cases hS:S d g
 ·exact .inl hS
 ·cases h with
  |stop h=>exact absurd h hS
  |step hs f es h k=>exact .inr ⟨hS,_,_,(h w hl).1,fun e he=>((h w hl).2 e he).1,k w hl⟩
theorem bk_rw:∀e ∈ #[rd (stA Wg),wr (stA Wg)],iM Wg e∨XM Wg e:=by intro e he;simp at he;rcases he with rfl|rfl<;>exact .inl (.inr (.inr (.inr (.inr ⟨_,_,rfl,rfl⟩))))
theorem WX:∀e ∈ #[rd (stA Wg)],iM Wg e∨XM Wg e:=by intro e he;simp at he;subst he;exact .inl (.inr (.inr (.inr (.inr ⟨_,_,rfl,rfl⟩))))
theorem Ot{a b:Addr}(d:Nat):deafBehind d #[rd a,wr b]=d:=nI (by intro e he;simp at he;rcases he with rfl|rfl<;>exact ⟨by simp [rd,wr],by simp [rd,wr]⟩) d
theorem Gy{a:Addr}(d:Nat):deafBehind d #[rd a]=d:=nI (by intro e he;simp at he;subst he;exact ⟨by simp [rd],by simp [rd]⟩) d
end
end Go.Ren
namespace Go.Ren
open Go.Conc hiding Goes mem_ofEvents
open Go.ConcN (sumTo upd upd_same upd_ne sumTo_congr sumTo_upd le_sumTo RelBy get_map_set get_map_set_same WgLive norel_of Deaf_absent)
open Go.Conc.Lib (WgLink)
open Go.ConcR (KK WgAt stA smA rd wr mk g_of_ofEvents loc_of_ofEvent)
section
variable{P:Program}{L:WgLink}{Wg Ch cap n n0:Nat}{Sent:Nat→(Nat→Prop)→(Nat→Prop)→Option Value→World→Prop}{Fin:(Nat→Prop)→(Nat→Prop)→Goroutine→World→Prop}
 {W U:Nat→Prop} {j:Nat} {tag:dZ} {x0:Pos} {bl:Bool} {st:Nat→Nat} {xs ls:Nat→Pos} {O D:Nat→Nat→Prop} {gs:Array Goroutine} {w w':World} {sl:Option (Nat×Nat)} {t:Trace}
abbrev Zp:=(dZ×Nat)×Pos
def JZ(n0:Nat)(tag:dZ)(x0:Pos)(st:Nat→Nat)(xs ls:Nat→Pos)(k:Nat):Zp:=
 if k=0 then ((tag,0),x0) else if k < n0 then ((.sp 0 0,0),ls k) else ((.sp 0 0,st (k - n0)),xs (k - n0))
end
end Go.Ren
namespace Go.Ren
open Go.Conc hiding Goes mem_ofEvents
open Go.ConcN (sumTo upd upd_same upd_ne get_map_set get_map_set_same WgLive Deaf_absent)
open Go.Conc.Lib (WgLink)
open Go.ConcR (KK WgAt stA smA rd wr g_of_ofEvents loc_of_ofEvent)
def Unt(U:Nat→Prop)(t:Trace):Prop:=∀i x,touchAt t i=some x→¬inB U x.loc
theorem Unt.app{U:Nat→Prop}{t u:Trace}(h:Unt U t)(hu:∀op∈u,∀x,op.act.touch? = some x→¬inB U x.loc):Unt U (t ++ u):=by
 intro i x hx
 obtain ⟨op,h1,h2⟩:=touch_of hx
 rcases getElem?_append_cases h1 with ⟨hl,h1'⟩|⟨_,hou⟩
 ·exact h i x (by rw [touchAt_of h1'];exact h2)
 ·exact hu op hou x h2
def xu(O:Nat→Prop)(k b:Nat):Prop:=k=0∧O b
structure Al(P:Program)(W U:Nat→Prop)(N:Nat)(x0:Pos)(ls:Nat→Pos)(gs:Array Goroutine)(w:World)(t:Trace):Prop where
 hN:1≤N
 size:gs.size=N
 main:gs[0]? = some x0.g
 D0:x0.D=fun _=>False
 same:∃d,w=x0.w.at d
 deaf:Go.Conc.Deaf t 0=x0.d
 lv:∀k,1≤k→k < N→gs[k]? = some (ls k).g∧(∃q,QuitsD P q (ls k).d (ls k).g)∧Go.Conc.Deaf t k=(ls k).d∧Gone W t k
 ti:TI W (xu x0.O) qF N w.heap.size t
 own:Own (fun b=>W b∨U b) (xu x0.O) qF N w.heap.size
 WZ:Unt U t
 wu:∀b,W b→¬U b
 norel:∀a,NoRelease a t
section
variable{P:Program}{W U:Nat→Prop}{N:Nat}{x0 x':Pos}{ls:Nat→Pos}{gs:Array Goroutine}{w w':World}{sl:Option (Nat×Nat)}{t:Trace}{aZ:Machine→Outcome→World→Trace→Prop}{K:Machine→Trace→Prop}
theorem Al.rely(h:Al P W U N x0 ls gs w t):au x0.O (fun _=>False) x0.w w:=by
 obtain ⟨d,rfl⟩:=h.same
 exact .draw _ d
theorem Al.at(h:Al P W U N x0 ls gs w t)(d:Nat):Al P W U N x0 ls gs (w.at d) t:=
 ⟨h.hN,h.size,h.main,h.D0,(let ⟨d',e⟩:=h.same;⟨d,by rw [e];rfl⟩),h.deaf,h.lv,h.ti,h.own,h.WZ,h.wu,h.norel⟩
theorem Al.awake(h:Al P W U N x0 ls gs w t)(hr:x0.g.status = .running):∀g∈gs,awake g:=by
 intro g hg
 obtain ⟨k,hk⟩:=Array.mem_iff_getElem?.1 hg
 intro tm
 rcases Nat.eq_zero_or_pos k with rfl|hpos
 ·rw [h.main] at hk
  cases hk
  rw [hr];simp
 ·obtain ⟨h1,⟨q,h2⟩,_⟩:=h.lv k hpos (by rw [←h.size];exact (Array.getElem?_eq_some_iff.1 hk).1)
  rw [h1] at hk
  cases hk
  rcases h2.status with e|e<;>rw [e]<;>simp
theorem Al.pick(h:Al P W U N x0 ls gs w t)(hr:x0.g.status = .running):∃(i:Nat) (g:Goroutine) (d:Nat) (sl':Option (Nat×Nat)),gs[i]? = some g∧g.status = .running∧stepT P (crowd gs w sl)=runT P (crowd gs (w.at d) sl') i:=
 crowd_pick (h.awake hr) ⟨0,_,h.main,hr⟩
theorem Al.Uk(h:Al P W U N x0 ls gs w t)(hr0:x0.g.status = .running){k:Nat}(hk1:1≤k)(hk:k < N)(hr:(ls k).g.status = .running) :
  ∃gs' x' ops,runT P (crowd gs w sl) k=(.next (crowd gs' w sl),ops)∧VJ P x' (ls k)∧Al P W U N x0 (upd ls k x') gs' w (t ++ ops):=by
 obtain ⟨hgk,⟨q,hq⟩,hdk,BZ⟩:=h.lv k hk1 hk
 rcases q with _|q
 ·have:=hq.1;rw [hr] at this;cases this
 rcases hq with ⟨h1,_⟩|⟨_,g',es,hmute,hgo,hq'⟩
 ·rw [hr] at h1;cases h1
 have hsz:=h.size
 have hpos:k≠0:=by omega
 have hgo':stepG P (k == 0) (ls k).g w = .go g' w es:=by
  have:(k == 0)=false:=by simp;omega
  rw [this];exact hgo w
 have hops:∀op∈MemOp.ofEvents k (ls k).g.frame.fn (ls k).g.frame.place es,op.g=k:=g_of_ofEvents
 have hnt:∀op∈MemOp.ofEvents k (ls k).g.frame.fn (ls k).g.frame.place es,op.act.touch? = none:=fun op hop=>by
  rw [ofEvents_eq] at hop
  obtain ⟨e,he,rfl⟩:=Array.mem_map.1 hop
  exact (xq (Wg:=0) (hmute e he)).2
 have hG:ng (Gt W k) W (xu x0.O k) (qF k) w w es:=qE fun e he=>by
  have hm:=hmute e he
  obtain ⟨loc,wr,sy⟩:=e
  cases loc with
  |mark m=>cases m<;>first|exact ⟨fun x hx=>by simp [MemAct.ofEvent,MemAct.touch?] at hx,trivial⟩|simp [Event.mute] at hm
  |_=>simp [Event.mute] at hm
 have hti:=h.ti
 have hown:=h.own.less (W:=W) fun b x=>.inl x
 rw [←hsz] at hti hown
 obtain ⟨hrun,ni,_⟩:=kE (sl:=sl) hgk hgo' hti hown hG
 rw [uo,hsz] at ni
 refine ⟨_,{ ls k with d:=deafBehind (ls k).d es,g:=g' },_,hrun,⟨hr,w,w,es,hgo w,rfl⟩,h.hN,by simpa using hsz,?_,h.D0,h.same,?_,fun i h1 h2=>?_,ni,h.own,h.WZ.app fun op hop x hx=>(by rw [hnt op hop] at hx;cases hx),h.wu,oZ h.norel (fun e he=>fJ (Wg:=0) (xq (hmute e he)).1)⟩
 ·rw [get_map_set _ _ _ _ hpos,h.main,Option.map_some,woken_running hr0]
 ·rw [Deaf_other t hpos _ hops];exact h.deaf
 ·by_cases e:i=k
  ·subst e
   rw [upd_same]
   refine ⟨get_map_set_same _ _ _ (by rw [hsz];omega),⟨q,hq'⟩,by rw [Deaf_own,hdk],BZ.app (fun p hp hg hc=>?_) (fun op hop _ x hx=>?_)⟩
   ·obtain ⟨op,a1,a2⟩:=qM hg
    obtain ⟨x,hx,_⟩:=hc
    rcases getElem?_append_cases a1 with ⟨hl,_⟩|⟨_,hou⟩
    ·omega
    ·have:touchAt (t ++ MemOp.ofEvents i (ls i).g.frame.fn (ls i).g.frame.place es) p=some x:=hx
     rw [touchAt_of a1,hnt op hou] at this
     cases this
   ·rw [hnt op hop] at hx;cases hx
  ·obtain ⟨a1,⟨q',a2⟩,a3,a4⟩:=h.lv i h1 h2
   rw [upd_ne ls _ e]
   refine ⟨?_,⟨q',a2⟩,by rw [Deaf_other t (by omega) _ hops];exact a3,a4.appNot fun op hop e'=>by rw [hops op hop] at e';omega⟩
   rw [get_map_set _ _ _ _ (by omega),a1,Option.map_some,woken_rf a2.status]
theorem Al.turn{J:World→Prop}(h:Al P W U N x0 ls gs w t)(hr0:x0.g.status = .running)(hJ:J w)(hJd:∀w d,J w→J (w.at d))
  (hk:∀ls gs w sl t,Al P W U N x0 ls gs w t→J w→(∃m' ops,runT P (crowd gs w sl) 0=(.next m',ops)∧K m' (t ++ ops))∨(∃o w' ops,runT P (crowd gs w sl) 0=(.ended o w',ops)∧∀m,m.gs=gs→m.rest.timers = #[]→aZ m o w' (t ++ ops))):aC P aZ K (crowd gs w sl) t:=by
 have hacc:∀k,k < N→Acc (fun x' x:Pos=>k≠0∧VJ P x' x) (ls k):=by
  intro k hkN
  rcases Nat.eq_zero_or_pos k with rfl|hpos
  ·exact .intro _ fun y hy=>absurd rfl hy.1
  ·obtain ⟨_,⟨q,hq⟩,_⟩:=h.lv k hpos hkN
   have:=tX (P:=P) q (ls k) hq
   have e:(fun x' x:Pos=>k≠0∧VJ P x' x)=VJ P:=by
    funext a b;apply propext;exact ⟨fun x=>x.2,fun x=>⟨by omega,x⟩⟩
   rw [e]
   exact this
 refine aC.Uo (r:=Vec (fun k x' x=>k≠0∧VJ P x' x) N) (J:=fun ls m t=>∃gs w sl,m=crowd gs w sl∧Al P W U N x0 ls gs w t∧J w) ?_ (Gz _ N ls hacc) ⟨gs,w,sl,rfl,h,hJ⟩
 clear turn h hJ hacc ls gs w sl t
 rintro ls m t ⟨gs,w,sl,rfl,h,hJ⟩
 obtain ⟨i,g,d,sl',hg,hrun,hstep⟩:=h.pick (sl:=sl) hr0
 rw [hstep]
 have h' :=h.at d
 right
 rcases Nat.eq_zero_or_pos i with rfl|hpos
 ·rcases hk ls gs (w.at d) sl' t h' (hJd w d hJ) with ⟨m',ops,h1,h2⟩|⟨o,w',ops,h1,h2⟩
  ·exact .inr ⟨m',ops,h1,.inl h2⟩
  ·exact .inl ⟨o,w',ops,h1,h2 _ rfl rfl⟩
 ·have hlt:i < N:=by rw [←h.size];exact (Array.getElem?_eq_some_iff.1 hg).1
  have hr:(ls i).g.status = .running:=by
   have:=(h.lv i hpos hlt).1
   rw [hg] at this
   cases this
   exact hrun
  obtain ⟨gs',x',ops,h2,h3,h4⟩:=h'.Uk (sl:=sl') hr0 hpos hlt hr
  exact .inr ⟨_,ops,h2,.inr ⟨upd ls i x',⟨i,hlt,by rw [upd_same];exact ⟨by omega,h3⟩,fun k hk=>upd_ne ls x' hk⟩,gs',_,sl',rfl,h4,hJd w d hJ⟩⟩
structure XAl(W:Nat→Prop)(X:Event→Prop):Prop where
 ok:∀e,X e→Gt W 0 e
 nr:∀e,X e→∀a,e.loc ≠ .mark (.release a)
theorem Al.JV{X:Event→Prop}(hX:XAl W X)(h:Al P W U N x0 ls gs w t){es:Array Event}(hgo:stepG P true x0.g w = .go x'.g w' es)(hG:aN X x0.O (fun _=>False) w w' es)(hd:x'.d=deafBehind x0.d es)(hO:x'.O=grow x0.O w w')(hD:x'.D=fun _=>False)(hw:x'.w=w') :
  ∃gs' ops,runT P (crowd gs w sl) 0=(.next (crowd gs' w' sl),ops)∧Al P W U N x' ls gs' w' (t ++ ops):=by
 have hsz:=h.size
 have hN:=h.hN
 have WY:xu x0.O 0=x0.O:=by funext b;apply propext;exact ⟨fun x=>x.2,fun x=>⟨rfl,x⟩⟩
 have hdd:qF 0=fun _=>False:=rfl
 have hGw:ng (Gt W 0) W (xu x0.O 0) (qF 0) w w' es:=by rw [WY,hdd];exact hG.wide hX.ok
 have hti:=h.ti
 have hown:=h.own.less (W:=W) fun b x=>.inl x
 rw [←hsz] at hti hown
 obtain ⟨hrun,ni,_⟩:=kE (sl:=sl) (i:=0) h.main (by simpa using hgo) hti hown hGw
 rw [hsz] at ni
 have hown' :=h.own.grow (i:=0) (by omega) hG.size
 have hwo:with_ (xu x0.O) 0 w.heap.size w'.heap.size=xu x'.O:=by
  funext k b
  apply propext
  unfold with_ xu
  rw [hO]
  unfold grow
  constructor
  ·rintro (⟨a,b⟩|⟨a,b⟩)
   ·exact ⟨a,.inl b⟩
   ·exact ⟨a,.inr b⟩
  ·rintro ⟨a,b|b⟩
   ·exact .inl ⟨a,b⟩
   ·exact .inr ⟨a,b⟩
 rw [hwo] at ni hown'
 have hops:∀op∈MemOp.ofEvents 0 x0.g.frame.fn x0.g.frame.place es,op.g=0:=g_of_ofEvents
 refine ⟨_,_,hrun,h.hN,by simpa using hsz,get_map_set_same _ _ _ (by rw [hsz];omega),hD,⟨w'.drawn,by rw [hw];rfl⟩,by rw [Deaf_own,h.deaf,hd],fun k h1 h2=>?_,ni,hown',h.WZ.app fun op hop x hx=>?_,h.wu,oZ h.norel fun e he=>yB (hG.ev e he) (hX.nr e)⟩
 ·obtain ⟨a1,⟨q,a2⟩,a3,a4⟩:=h.lv k h1 h2
  exact ⟨by rw [get_map_set _ _ _ _ (by omega),a1,Option.map_some,woken_rf a2.status],⟨q,a2⟩,by rw [Deaf_other t (by omega) _ hops];exact a3,a4.appNot fun op hop e'=>by rw [hops op hop] at e';omega⟩
 ·rw [ofEvents_eq] at hop
  obtain ⟨e,he,rfl⟩:=Array.mem_map.1 hop
  have hev:=hG.ev e he
  intro hU
  rcases hev with ⟨h1,_⟩|h1
  ·obtain ⟨b,h2,h3⟩:=jM (hX.ok e h1 x hx).1 hU
   exact h.wu b h2 h3
  ·obtain ⟨loc,wr,sy⟩:=e
   cases loc with
   |cell a=>
    simp only [MemAct.ofEvent,MemAct.touch?,Option.some.injEq] at hx
    subst hx
    have hU':U a.block:=hU
    rcases h1 with h1|⟨h1,_⟩
    ·exact hown'.ow 0 a.block (by omega) ⟨rfl,by rw [hO];exact h1⟩ (.inr hU')
    ·exact h1
   |obj r=>
    have hl:x.loc = .obj r:=by
     cases wr<;>cases sy<;>simp only [MemAct.ofEvent,MemAct.touch?,Option.some.injEq,reduceCtorEq] at hx
     all_goals (subst hx;rfl)
    rw [hl] at hU
    rcases h1 with h1|⟨h1,_⟩
    ·exact hown'.ow 0 r (by omega) ⟨rfl,by rw [hO];exact h1⟩ (.inr hU)
    ·exact h1
   |mark m=>
    have hm:uQ m=true:=h1
    cases m<;>first|(simp [MemAct.ofEvent,MemAct.touch?] at hx;done)|cases hm
   |output=>
    simp only [MemAct.ofEvent,MemAct.touch?,Option.some.injEq] at hx
    subst hx
    exact hU
   |_=>exact absurd h1 id
end
end Go.Ren
namespace Go.Ren
open Go.Conc hiding Goes mem_ofEvents
open Go.ConcN (sumTo upd upd_same upd_ne get_map_set get_map_set_same WgLive Deaf_absent)
open Go.Conc.Lib (WgLink)
open Go.ConcR (KK WgAt stA smA rd wr g_of_ofEvents loc_of_ofEvent)
section
variable{P:Program}{W U:Nat→Prop}{N:Nat}{x0 x':Pos}{ls:Nat→Pos}{gs:Array Goroutine}{w w':World}{sl:Option (Nat×Nat)}{t:Trace}{aZ:Machine→Outcome→World→Trace→Prop}{K:Machine→Trace→Prop}
theorem handed(h:∀k,1≤k→k < N→Gone W t k)(hg:∀(i:Nat) (op:MemOp),t[i]? = some op→op.g < N):t.HandedOver:=by
 intro i g hgi hne hc
 obtain ⟨op,h1,h2⟩:=qM hgi
 exact (h g (by omega) (by rw [←h2];exact hg i op h1)).over i hgi hc
theorem Al.ends{Post:Value→World→Prop}{J:World→Prop}{X:Event→Prop}(hX:XAl W X)(h:Al P W U N x0 ls gs w t)(hr0:x0.g.status = .running)(hJ:J w)(hJd:∀w d,J w→J (w.at d))
  (hret:∀w₁,au x0.O (fun _=>False) x0.w w₁→J w₁→∃v w' es,stepG P true x0.g w₁ = .ended (.done v) w' es∧aN X x0.O (fun _=>False) w₁ w' es∧Post v w'):aC P (Good P Post) K (crowd gs w sl) t:=by
 refine h.turn hr0 hJ hJd fun ls gs w sl t h hJ=>.inr ?_
 obtain ⟨v,w',es,hgo,hG,hp⟩:=hret w h.rely hJ
 have hN:=h.hN
 have WY:xu x0.O 0=x0.O:=by funext b;apply propext;exact ⟨fun x=>x.2,fun x=>⟨rfl,x⟩⟩
 have hown:=h.own.less (W:=W) fun b x=>.inl x
 have hti:=h.ti.step (i:=0) (B' :=w'.heap.size) hown (by omega) hG.size (X:=Gt W 0) (fun e he=>he) (es:=es) (fn:=x0.g.frame.fn) (pos:=x0.g.frame.place) (fun e he=>by
  have:=hG.ev e he
  have e1:(fun b=>with_ (xu x0.O) 0 w.heap.size w'.heap.size 0 b)=grow x0.O w w' :=by rw [um,WY]
  rw [e1]
  exact this.imp (fun x=>⟨hX.ok e x.1,x.2⟩) id)
 have hops:∀op∈MemOp.ofEvents 0 x0.g.frame.fn x0.g.frame.place es,op.g=0:=g_of_ofEvents
 refine ⟨_,w',_,runT_many_ended (i:=0) h.main (by simpa using hgo),fun m hm htm=>⟨v,rfl,hp,hti.nr,handed (W:=W) (N:=N) (fun k h1 h2=>?_) hti.gs,⟨fun g hg=>?_,by rw [htm];rfl⟩,fun i g hg hne=>?_⟩⟩
 ·exact (h.lv k h1 h2).2.2.2.appNot fun op hop e'=>by rw [hops op hop] at e';omega
 ·rw [hm] at hg
  obtain ⟨i,hi,rfl⟩:=List.mem_iff_getElem.1 hg
  have hlt:1+i < gs.size:=by simp at hi;omega
  obtain ⟨h1,⟨q,h2⟩,_⟩:=h.lv (1+i) (by omega) (by rw [←h.size];exact hlt)
  have e:(gs.toList.drop 1)[i]=(ls (1+i)).g:=by
   rw [List.getElem_drop]
   have:=(Array.getElem?_eq_some_iff.1 h1).2
   simpa using this
  rw [e]
  exact ⟨q,h2.leaves⟩
 ·rw [hm] at hg
  have hlt:i < N:=by rw [←h.size];exact (Array.getElem?_eq_some_iff.1 hg).1
  obtain ⟨h1,⟨q,h2⟩,h3,_⟩:=h.lv i (by omega) hlt
  rw [hg] at h1
  cases h1
  refine ⟨q,?_⟩
  have e:(t ++ MemOp.ofEvents 0 x0.g.frame.fn x0.g.frame.place es).deaf i (t ++ MemOp.ofEvents 0 x0.g.frame.fn x0.g.frame.place es).size=(ls i).d:=by
   rw [←h3]
   exact Deaf_other t (by omega) _ hops
  rw [e]
  exact h2.hears _
theorem Al.fresh{J:World→Prop}{o:Obj}{g':Goroutine}(h:Al P W U N x0 ls gs w t)(hr0:x0.g.status = .running)(hJ:J w)(hJd:∀w d,J w→J (w.at d))
  (hgo:∀w₁,au x0.O (fun _=>False) x0.w w₁→J w₁→stepG P true x0.g w₁ = .go g' (w₁.alloc o) #[]) :
  aC P aZ (fun m t=>∃w₁ ls gs sl,m=crowd gs (w₁.alloc o) sl∧J w₁∧au x0.O (fun _=>False) x0.w w₁∧Al P W (fun b=>U b∨b=w₁.heap.size) N ⟨x0.O,fun _=>False,x0.d,g',w₁.alloc o⟩ ls gs (w₁.alloc o) t) (crowd gs w sl) t:=by
 refine h.turn hr0 hJ hJd fun ls gs w sl t h hJ=>.inl ?_
 have hgo:=hgo w h.rely hJ
 have hN:=h.hN
 have hsz:=h.size
 have hrun:=runT_crowd_go (P:=P) (sl:=sl) (i:=0) h.main (by simpa using hgo)
 have e0:MemOp.ofEvents 0 x0.g.frame.fn x0.g.frame.place #[] = #[]:=rfl
 rw [e0] at hrun
 have hs:(w.alloc o).heap.size=w.heap.size+1:=by simp
 have hlow:∀b,((fun b=>W b∨U b∨b=w.heap.size) b)→b < w.heap.size+1:=by
  rintro b (hb|hb|rfl)
  ·exact Nat.lt_succ_of_lt (h.own.vP b (.inl hb))
  ·exact Nat.lt_succ_of_lt (h.own.vP b (.inr hb))
  ·omega
 refine ⟨_,_,hrun,w,ls,_,sl,rfl,hJ,h.rely,?_⟩
 rw [Array.append_empty]
 refine ⟨h.hN,by simpa using hsz,get_map_set_same _ _ _ (by rw [hsz];omega),rfl,⟨_,rfl⟩,h.deaf,fun k h1 h2=>?_,?_,?_,?_,?_,h.norel⟩
 ·obtain ⟨a1,⟨q,a2⟩,a3,a4⟩:=h.lv k h1 h2
  exact ⟨by rw [get_map_set _ _ _ _ (by omega),a1,Option.map_some,woken_rf a2.status],⟨q,a2⟩,a3,a4⟩
 ·exact ⟨h.ti.quiet,h.ti.own,h.ti.rd,h.ti.nr,h.ti.gs,fun op hop=>MemAct.low_mono (by rw [hs];omega) (h.ti.low op hop)⟩
 ·refine ⟨h.own.oo,h.own.od,fun i b hi ho hx=>?_,fun _ _ _ x=>x.elim,fun i b hi ho=>?_,fun _ _ _ x=>x.elim,fun b hb=>?_⟩
  ·rcases hx with hx|hx|hx
   ·exact h.own.ow i b hi ho (.inl hx)
   ·exact h.own.ow i b hi ho (.inr hx)
   ·have:=h.own.EK i b hi ho;omega
  ·have:=h.own.EK i b hi ho;rw [hs];omega
  ·rw [hs];exact hlow b hb
 ·intro i x hx hU
  obtain ⟨op,h1,h2⟩:=touch_of hx
  have hl:=h.ti.low op (Array.mem_of_getElem? h1)
  have hxl:x.loc.low w.heap.size:=by
   obtain ⟨g,fn,pos,act⟩:=op
   cases act with
   |access e=>simp only [MemAct.touch?,Option.some.injEq] at h2;subst h2;exact hl
   |mark m=>
    cases m<;>simp only [MemAct.touch?,Option.some.injEq,reduceCtorEq] at h2
    all_goals (subst h2;exact hl)
   |_=>simp [MemAct.touch?] at h2
  revert hU hxl
  have hun:=h.WZ i x hx
  revert hun
  cases x.loc with
  |cell a=>
   rintro hun (hU|hU) hxl
   ·exact hun hU
   ·have:a.block < w.heap.size:=hxl;omega
  |obj r=>
   rintro hun (hU|hU) hxl
   ·exact hun hU
   ·have:r < w.heap.size:=hxl;omega
  |_=>intro _ hU _;exact hU
 ·rintro b hb (hU|rfl)
  ·exact h.wu b hb hU
  ·exact absurd (h.own.vP _ (.inl hb)) (Nat.lt_irrefl _)
end
end Go.Ren
namespace Go.Ren
open Go.Conc hiding mem_ofEvents Deaf
open Go.ConcR (g_of_ofEvents loc_of_ofEvent)
section
variable{P:Program}{W U Z:Nat→Prop}{N:Nat}{d:Nat}{g:Goroutine}{w0 w:World}{ls:Nat→Pos}{gs:Array Goroutine}{sl:Option (Nat×Nat)}{t:Trace}{aZ:Machine→Outcome→World→Trace→Prop}
def full(Z:Nat→Prop)(w:World)(b:Nat):Prop:=b < w.heap.size∧¬Z b
theorem QX{Z:Nat→Prop}{w w':World}(hZ:∀b,Z b→b < w.heap.size)(hs:w.heap.size≤w'.heap.size):grow (full Z w) w w' = full Z w' :=by
 funext b
 apply propext
 unfold grow full
 constructor
 ·rintro (⟨h1,h2⟩|⟨h1,h2⟩)
  ·exact ⟨by omega,h2⟩
  ·exact ⟨h2,fun hz=>by have:=hZ b hz;omega⟩
 ·rintro ⟨h1,h2⟩
  rcases Nat.lt_or_ge b w.heap.size with hlt|hge
  ·exact .inl ⟨hlt,h2⟩
  ·exact .inr ⟨hge,h1⟩
theorem JW:XAl W X0:=⟨fun e h=>h.elim,fun e h=>h.elim⟩
def At(P:Program)(W U Z:Nat→Prop)(N:Nat)(d:Nat)(g:Goroutine)(w:World)(m:Machine)(t:Trace):Prop:=
 ∃(ls:Nat→Pos) (gs:Array Goroutine) (w₁:World) (sl:Option (Nat×Nat)),m=crowd gs w₁ sl∧Al P W U N ⟨full Z w,fun _=>False,d,g,w⟩ ls gs w₁ t
theorem UL(g:Goroutine)(w:World):At P (fun _=>False) (fun _=>False) (fun _=>False) 1 0 g w (solo g w) #[]:=by
 have nt:∀(i:Nat) (op:MemOp),(#[]:Trace)[i]? = some op→False:=fun i op h=>by simp at h
 have ntt:∀(i:Nat) (a:Touch),touchAt (#[]:Trace) i=some a→False:=fun i a h=>by simp [touchAt,Trace.act?] at h
 refine ⟨fun _=>⟨fun _=>False,fun _=>False,0,g,w⟩,#[g],w,none,solo_eq_crowd g w,Nat.le_refl _,rfl,rfl,rfl,⟨w.drawn,rfl⟩,rfl,fun k h1 h2=>by omega,?_,?_,fun i x hx=>(ntt i x hx).elim,fun _ h=>h.elim,fun a i hi=>by simp [Trace.act?] at hi⟩
 ·refine ⟨fun i op x hi=>(nt i op hi).elim,fun i _ l _ j a ha=>(ntt j a ha).elim,fun i _ l _ j a ha=>(ntt j a ha).elim,fun said=>?_,fun i op hi=>(nt i op hi).elim,fun op hop=>by simp at hop⟩
  rintro ⟨i,j,_,⟨a,b,ha,_⟩,_⟩
  exact ntt i a ha
 ·exact ⟨fun i j b hi hj _ _=>by omega,fun _ _ _ _ _ _ x=>x,fun _ _ _ _ x=>x.elim id id,fun _ _ _ x=>x.elim,fun i b _ x=>x.2.1,fun _ _ _ x=>x.elim,fun b x=>x.elim False.elim False.elim⟩
theorem DY{Post:Value→World→Prop}{g:Goroutine}{w:World}(h:aC P (Good P Post) (fun _ _=>False) (solo g w) #[]) :
  ∃N last o w' t',runNT P (N+1) (solo g w) #[]=(.ended o w',t')∧runN P N (solo g w) = .next last∧step P last = .ended o w' ∧ Good P Post last o w' t' :=h.run
theorem At.ends{Post:Value→World→Prop}{K:Machine→Trace→Prop}{m:Machine}(hr:g.status = .running)(h:At P W U Z N d g w m t)
  (hret:∀d₁,∃v w' es,stepG P true g (w.at d₁) = .ended (.done v) w' es∧aN X0 (full Z w) (fun _=>False) (w.at d₁) w' es∧Post v w'):aC P (Good P Post) K m t:=by
 obtain ⟨ls,gs,w₁,sl,rfl,hal⟩:=h
 have hw:∃d₁,w₁=w.at d₁:=hal.same
 refine hal.ends (J:=fun w₁=>∃d₁,w₁=w.at d₁) JW hr hw (fun w' d' ⟨d₁,e⟩=>⟨d',by rw [e];rfl⟩) fun w' _ ⟨d₁,e⟩=>?_
 obtain ⟨v,w₂,es,a1,a2,a3⟩:=hret d₁
 rw [e]
 exact ⟨v,w₂,es,a1,a2,a3⟩
end
end Go.Ren
namespace Go.Ren
open Go.Conc hiding Goes mem_ofEvents Deaf
open Go.ConcN (upd upd_same upd_ne)
open Go.Conc.Lib (WgLink)
open Go.ConcR (WgAt stA smA rd wr g_of_ofEvents loc_of_ofEvent)
section
variable{P:Program}{W U Z:Nat→Prop}{N:Nat}{d:Nat}{g g' g₂:Goroutine}{w w':World}{x0:Pos}{ls:Nat→Pos}{gs:Array Goroutine}{sl:Option (Nat×Nat)}{m:Machine}{t:Trace}{aZ:Machine→Outcome→World→Trace→Prop}
theorem At.acd{d₁:Nat}(h:At P W U Z N d g (w.at d₁) m t):At P W U Z N d g w m t:=by
 obtain ⟨ls,gs,w₁,sl,rfl,hal⟩:=h
 exact ⟨ls,gs,w₁,sl,rfl,hal.hN,hal.size,hal.main,rfl,(let ⟨d',e⟩:=hal.same;⟨d',by rw [e];rfl⟩),hal.deaf,hal.lv,hal.ti,hal.own,hal.WZ,hal.wu,hal.norel⟩
theorem At.idle{X:Event→Prop}{I:World→Prop}{S:Nat→Goroutine→Prop}(hX:XAl W X)(hI:∀d₁,I (w.at d₁))(h:ag P true I X S d g):∀ {m:Machine} {t:Trace},At P W U Z N d g w m t→aC P aZ (fun m t=>∃d' g',S d' g' ∧ At P W U Z N d' g' w m t) m t:=by
 induction h with
 |stop h=>intro m t hat;exact .here ⟨_,_,h,hat⟩
 | @step d g hs f es h k ih=>
  rintro m t ⟨ls,gs,w₁,sl,rfl,hal⟩
  refine aC.bind (K:=fun m t=>∃w₂,I w₂∧At P W U Z N (deafBehind d (es w₂)) (f w₂) w m t) ?_ ?_
  ·refine hal.turn (J:=fun _=>True) hs trivial (fun _ _ _=>trivial) fun ls gs w₁ sl t h' _=>.inl ?_
   obtain ⟨d₁,hw⟩:=h'.same
   have hw':w₁=w.at d₁:=hw
   subst hw'
   obtain ⟨hgo,hev⟩:=h _ (hI d₁)
   have hG:aN X (full Z w) (fun _=>False) (w.at d₁) (w.at d₁) (es (w.at d₁)):=⟨Nat.le_refl _,fun _ _ _=>rfl,rfl,rfl,rfl,fun e he=>.inl (hev e he)⟩
   obtain ⟨gs',ops,a1,a2⟩:=h'.JV (sl:=sl) hX (x' :=⟨full Z w,fun _=>False,deafBehind d (es (w.at d₁)),f (w.at d₁),w.at d₁⟩) hgo hG rfl (jr _ _).symm rfl rfl
   exact ⟨_,ops,a1,w.at d₁,hI d₁,At.acd (d₁:=d₁) ⟨ls,gs',_,sl,rfl,a2⟩⟩
  ·rintro m t ⟨w₂,hi,hat⟩
   exact ih w₂ hi hat
theorem At.fresh{o:Obj}(hr:g.status = .running)(hgo:∀d₁,stepG P true g (w.at d₁) = .go g' ((w.at d₁).alloc o) #[])(h:At P W U Z N d g w m t) :
  aC P aZ (At P W (fun b=>U b∨b=w.heap.size) (fun b=>Z b∨b=w.heap.size) N d g' (w.alloc o)) m t:=by
 obtain ⟨ls,gs,w₁,sl,rfl,hal⟩:=h
 refine (hal.fresh (J:=fun w₁=>∃d₁,w₁=w.at d₁) hr hal.same (fun w' d' ⟨d₁,e⟩=>⟨d',by rw [e];rfl⟩) fun w₁ _ ⟨d₁,e⟩=>by rw [e];exact hgo d₁).mono ?_
 rintro m t ⟨w₂,ls,gs,sl,rfl,⟨d₁,rfl⟩,_,hal'⟩
 have hs:(w.alloc o).heap.size=w.heap.size+1:=by simp
 have e:full Z w=full (fun b=>Z b∨b=w.heap.size) (w.alloc o):=by
  funext b
  apply propext
  unfold full
  rw [hs]
  constructor
  ·rintro ⟨h1,h2⟩
   exact ⟨by omega,fun h=>h.elim h2 (by omega)⟩
  ·rintro ⟨h1,h2⟩
   have:b≠w.heap.size:=fun e=>h2 (.inr e)
   exact ⟨by omega,fun h=>h2 (.inl h)⟩
 have h2:=hal'
 dsimp only at h2
 rw [e] at h2
 exact ⟨ls,gs,_,sl,rfl,h2.hN,h2.size,h2.main,rfl,⟨d₁,rfl⟩,h2.deaf,h2.lv,h2.ti,h2.own,h2.WZ,h2.wu,h2.norel⟩
end
end Go.Ren
namespace Go.Ren
open Go.Conc hiding mem_ofEvents Deaf
section
variable{P:Program}{W U Z Z':Nat→Prop}{N:Nat}{d:Nat}{aZ:Machine→Outcome→World→Trace→Prop}
def Keep(Z:Nat→Prop)(w w':World):Prop:=(∀b,Z b→w'.heap[b]? = w.heap[b]?)∧w.heap.size≤w'.heap.size∧Tm w.os w'.os∧w'.output=w.output
theorem Keep.refl{w:World}:Keep Z w w:=⟨fun _ _=>rfl,Nat.le_refl _,.rfl,rfl⟩
theorem Keep.trans{w w' w'':World}(h:Keep Z w w')(k:Keep Z w' w''):Keep Z w w'' :=⟨fun b hb=>(k.1 b hb).trans (h.1 b hb),Nat.le_trans h.2.1 k.2.1,h.2.2.1.trans k.2.2.1,k.2.2.2.trans h.2.2.2⟩
theorem Keep.mono{w w':World}(h:Keep Z w w')(hZ:∀b,Z' b→Z b):Keep Z' w w' :=⟨fun b hb=>h.1 b (hZ b hb),h.2⟩
theorem Keep.lt{w w':World}(h:Keep Z w w')(hZ:∀b,Z b→b < w.heap.size):∀b,Z b→b < w'.heap.size:=fun b hb=>Nat.lt_of_lt_of_le (hZ b hb) h.2.1
theorem At.wk2{S:(Nat→Prop)→Goroutine→World→Prop}{O:Nat→Prop}{g:Goroutine}{w:World}(hk:Wk P true (fun _=>True) X0 (fun _=>False) S O g w)(hZ:∀b,Z b→b < w.heap.size) :
  O=full Z w→∀ {m:Machine} {t:Trace},At P W U Z N d g w m t→aC P aZ (fun m t=>∃g' w',At P W U Z N d g' w' m t∧S (full Z w') g' w' ∧ Keep Z w w') m t:=by
 induction hk with
 |stop h=>intro hO m t hat;exact .here ⟨_,_,hat,hO ▸ h,.refl⟩
 | @step O g w hs f u es h k ih=>
  rintro rfl m t ⟨ls,gs,w₁,sl,rfl,hal⟩
  have rel:∀d₁,au (full Z w) (fun _=>False) w (w.at d₁):=fun d₁=>⟨Nat.le_refl _,fun _ _=>rfl,fun _ _=>rfl,.rfl,rfl,rfl⟩
  refine aC.bind (K:=fun m t=>∃d₁,At P W U Z N d (f (w.at d₁)) (u (w.at d₁)) m t∧grow (full Z w) (w.at d₁) (u (w.at d₁))=full Z (u (w.at d₁))∧Keep Z w (u (w.at d₁))) ?_ ?_
  ·refine hal.turn (J:=fun _=>True) hs trivial (fun _ _ _=>trivial) fun ls gs w₁ sl t h' _=>.inl ?_
   obtain ⟨d₁,hw⟩:=h'.same
   have hw':w₁=w.at d₁:=hw
   subst hw'
   obtain ⟨hst,hG⟩:=h (w.at d₁) (rel d₁) trivial
   have hd:deafBehind d (es (w.at d₁))=d:=nI (fun e he=>(hG.ev e he).hearing fun x=>x.elim) d
   have hgr:grow (full Z w) (w.at d₁) (u (w.at d₁))=full Z (u (w.at d₁)):=QX (w:=w.at d₁) hZ hG.size
   obtain ⟨gs',ops,a1,a2⟩:=h'.JV (sl:=sl) JW (x' :=⟨full Z (u (w.at d₁)),fun _=>False,d,f (w.at d₁),u (w.at d₁)⟩) hst hG hd.symm hgr.symm rfl rfl
   exact ⟨_,ops,a1,d₁,⟨ls,gs',u (w.at d₁),sl,rfl,a2⟩,hgr,fun b hb=>hG.heap b (hZ b hb) fun x=>x.2 hb,hG.size,.of hG.os,hG.output⟩
  ·rintro m t ⟨d₁,hat',hgr,hkeep⟩
   refine (ih (w.at d₁) (rel d₁) trivial (hkeep.lt hZ) hgr hat').mono ?_
   rintro m t ⟨g',w',k1,k2,k3⟩
   exact ⟨g',w',k1,k2,hkeep.trans k3⟩
theorem At.drop{g:Goroutine}{w:World}{m:Machine}{t:Trace}(hZ:∀b,Z b→Z' b)(h:At P W U Z N d g w m t):At P W U Z' N d g w m t:=by
 obtain ⟨ls,gs,w₁,sl,rfl,hal⟩:=h
 have hf:∀b,full Z' w b→full Z w b:=fun b hb=>⟨hb.1,fun x=>hb.2 (hZ b x)⟩
 have ho:∀i b,xu (full Z' w) i b→xu (full Z w) i b:=fun i b hb=>⟨hb.1,hf b hb.2⟩
 exact ⟨ls,gs,w₁,sl,rfl,hal.hN,hal.size,hal.main,rfl,hal.same,hal.deaf,hal.lv,hal.ti.less ho (fun _ _ x=>.inl x),
  ⟨fun i j b hi hj a c=>hal.own.oo i j b hi hj (ho _ _ a) (ho _ _ c),fun i j b hi hj a=>hal.own.od i j b hi hj (ho _ _ a),fun i b hi a=>hal.own.ow i b hi (ho _ _ a),hal.own.dw,fun i b hi a=>hal.own.EK i b hi (ho _ _ a),hal.own.Uf,hal.own.vP⟩,hal.WZ,hal.wu,hal.norel⟩
end
end Go.Ren
namespace Go.Am
open Go.Ren (grow fK aN au Wk At full X0 aC Keep)
section
variable{P:Program}{W U Z:Nat→Prop}{N:Nat}{d:Nat}{aZ:Machine→Outcome→World→Trace→Prop}{pl:bH}{Q:Value→AH→Prop}{s:AS}{ρ:Env}{g:Goroutine}{w:World}{b:Frame}{bs:List Frame}{m:Machine}{t:Trace}
theorem J6[aI P]{K:AS→Prop}{base:List Frame}(hZ:∀b,Z b→b < w.heap.size)(k:aY P pl K s)(S:lI P ρ (full Z w) (fun _=>False) base s g w)(h:At P W U Z N d g w m t) :
  aC P aZ (fun m t=>∃(σ:Env) (s':AS) (g':Goroutine) (w':World),K s' ∧ ρ.Le σ∧lI P σ (full Z w') (fun _=>False) base s' g' w' ∧ At P W U Z N d g' w' m t∧Keep Z w w') m t:=by
 refine (At.wk2 (iF (X:=X0) (I:=fun _=>True) (m:=true) k S) hZ rfl h).mono ?_
 rintro m t ⟨g',w',hat,⟨σ,s',k1,k2,k3⟩,hk⟩
 exact ⟨σ,s',g',w',k1,k2,k3,hat,hk⟩
end
end Go.Am
namespace Go.Ren
open Go.Conc hiding mem_ofEvents Deaf
section
variable{P:Program}{W U Z Z':Nat→Prop}{N:Nat}{d:Nat}{aZ:Machine→Outcome→World→Trace→Prop}{g g':Goroutine}{w:World}{m:Machine}{t:Trace}
theorem At.alone(h:At P W U Z N d g w m t):At P W U (fun b=>W b∨U b) N d g w m t:=by
 obtain ⟨ls,gs,w₁,sl,rfl,hal⟩:=h
 obtain ⟨d',e⟩:=hal.same
 have hsz:w₁.heap.size=w.heap.size:=by rw [e];rfl
 have hti:=hal.ti.alone fun k h1 h2=>(hal.lv k (by omega) h2).2.2.2
 refine ⟨ls,gs,w₁,sl,rfl,hal.hN,hal.size,hal.main,rfl,hal.same,hal.deaf,hal.lv,?_,?_,hal.WZ,hal.wu,hal.norel⟩
 ·refine hti.less (fun i b hb=>?_) fun i b hb=>.inl hb
  obtain ⟨h1,h2,h3⟩:=hb
  exact ⟨h1,by rw [hsz];exact h2,fun x=>h3 (.inl x)⟩
 ·refine ⟨fun i j b hi hj a c=>a.1.trans c.1.symm,fun i j b hi hj a c=>c.elim,fun i b hi a x=>a.2.2 x,fun i b hi x=>x.elim,fun i b hi a=>by rw [hsz];exact a.2.1,fun i b hi x=>x.elim,hal.own.vP⟩
end
end Go.Ren
