import Derived.Conc.CrowdComm
import Derived.Conc.CrowdStepC2
import Derived.Test.YtgfjlblikffnaaaGreatH7
set_option linter.unusedVariables false
set_option linter.unusedSectionVars false
set_option linter.unusedSimpArgs false
namespace Go.Ren
open Go.Conc hiding Goes mem_ofEvents
open Go.ConcN (sumTo upd upd_same upd_ne sumTo_congr sumTo_upd le_sumTo RelBy get_map_set get_map_set_same WgLive)
open Go.Conc.Lib (WgLink)
open Go.ConcR (KK WgAt stA smA rd wr mk g_of_ofEvents loc_of_ofEvent)
section
variable{P:Program}{X:Event→Prop}{W:Nat→Prop}{O D:Nat→Nat→Prop}{gs:Array Goroutine}{w w':World}{sl:Option (Nat×Nat)}{t:Trace}{i j n:Nat}{g g':Goroutine}{es:Array Event}
structure lF(X:Event→Prop)(W O D:Nat→Prop)(w₁ w':World)(es:Array Event):Prop where
 size:w₁.heap.size≤w'.heap.size
 heap:∀c,c < w₁.heap.size→¬O c→¬W c→w'.heap[c]? = w₁.heap[c]?
 os:Tm w₁.os w'.os
 output:w'.output=w₁.output
 tape:w'.tape=w₁.tape
 ev:∀e∈es,fM X w'.heap.size (grow O w₁ w') D e
theorem aO.wide{O D:Nat→Prop}{X':Event→Prop}(h:aO X O D w w' es)(hX:∀e,X e→X' e):lF X' W O D w w' es:=
 ⟨h.size,fun c hc hO _=>h.heap c hc hO,.of h.os,h.output,h.tape,fun e he=>(h.ev e he).imp (fun x=>⟨hX e x.1,x.2⟩) id⟩
theorem lF.rely(hG:lF X W (O i) (D i) w w' es)(w₀:Own W O D n w.heap.size)(hi:i < n)(hj:j < n)(hne:j≠i):az (O j) (D j) w w' :=
 ⟨hG.size,fun b hb=>hG.heap b (w₀.Il j b hj hb) (fun h=>hne (w₀.oo j i b hj hi hb h)) (w₀.ow j b hj hb),fun b hb=>hG.heap b (w₀.UC j b hj hb) (fun h=>w₀.od i j b hi hj h hb) (w₀.dw j b hj hb),hG.os,hG.output,hG.tape⟩
theorem oC{O D:Nat→Prop}(h:∀e∈es,X e∧(MemAct.ofEvent e).low w.heap.size):lF X W O D w w es:=
 ⟨Nat.le_refl _,fun _ _ _ _=>rfl,.rfl,rfl,rfl,fun e he=>.inl (h e he)⟩
theorem zK{O D:Nat→Prop}{a:Addr}{v:Value}(ha:W a.block)(h:∀e∈es,X e∧(MemAct.ofEvent e).low w.heap.size):lF X W O D w (w.setCell a v) es:=by
 have hs:(w.setCell a v).heap.size=w.heap.size:=by simp
 refine ⟨by rw [hs];exact Nat.le_refl _,fun c hc _ hW=>?_,Tm.of (Go.Conc.aside_setCell w a v).os,(Go.Conc.aside_setCell w a v).output,(Go.Conc.aside_setCell w a v).tape,fun e he=>.inl (by rw [hs];exact h e he)⟩
 exact (Go.Conc.aside_setCell w a v).block c fun e=>hW (e ▸ ha)
theorem mZ(hg:gs[i]? = some g)(hst:stepG P (i == 0) g w = .go g' w' es)(T:TI W O D gs.size w.heap.size t)(w₀:Own W O D gs.size w.heap.size)(hG:lF (Jv W i) W (O i) (D i) w w' es) :
  runT P (crowd gs w sl) i=(.next (crowd ((gs.map (woken P g g' w')).setIfInBounds i g') w' sl),MemOp.ofEvents i g.frame.fn g.frame.place es) ∧
  TI W (with_ O i w.heap.size w'.heap.size) D gs.size w'.heap.size (t ++ MemOp.ofEvents i g.frame.fn g.frame.place es)∧Own W (with_ O i w.heap.size w'.heap.size) D gs.size w'.heap.size:=by
 have hi:i < gs.size:=(Array.getElem?_eq_some_iff.1 hg).1
 refine ⟨runT_crowd_go hg hst,T.step w₀ hi hG.size (fun e he=>he) fun e he=>?_,w₀.grow hi hG.size⟩
 have:=hG.ev e he
 rw [←ru] at this
 exact this
end
inductive ig where
 |sp (r s:Nat)|w1 (v:Nat) (gT:Goroutine) (A:Goroutine→Prop)|w2 (v:Nat) (gT:Goroutine) (A:Goroutine→Prop)|w3 (gT:Goroutine)|w4 (gT:Goroutine)|acq (gT:Goroutine)
def rkM(n:Nat):ig→Nat
 | .sp r s=>8 * n+8+2 * r+s
 | .w1 v _ _=>8 * v+6
 | .w2 v _ _=>8 * v+4
 | .w3 _=>3
 | .w4 _=>2
 | .acq _=>1
def ig.toAdd:ig→Prop
 | .sp (_+1) 1=>True
 |_=>False
def jM:ig→Nat
 | .sp (_+1) 0=>1
 |_=>0
def adP:ig→Prop
 | .sp _ _ | .w1 _ _ _ | .w2 _ _ _=>True
 |_=>False
def afP:ig→Prop
 | .w4 _ | .acq _=>True
 |_=>False
def abU(v:Nat):ig→Prop
 | .w1 u _ _=>v≤u
 | .w2 u _ _=>v≤u∧1≤u
 |_=>True
def lQ(s:Nat):Nat:=if 5≤s then 1 else 0
def Vn(j:Nat)(st:Nat→Nat):Nat:=sumTo j fun i=>lQ (st i)
def Opn(j:Nat)(st:Nat→Nat):Prop:=∀i,i < j→st i=8∨st i=7∨st i=5∨st i=1
def Zh(j:Nat)(st:Nat→Nat):Prop:=∀i,i < j→st i=1
inductive Md(j:Nat)(st:Nat→Nat):ig→Int→Int→Prop
 |opn {tag:ig} (h1:adP tag) (h2:Opn j st) (h3:abU (Vn j st) tag):Md j st tag (((Vn j st+jM tag:Nat):Int) * KK) 0
 |reg {gT:Goroutine} (h2:Opn j st) (h3:1≤Vn j st):Md j st (.w3 gT) (((Vn j st:Nat):Int) * KK+1) 0
 |last {gT:Goroutine} (K:Nat) (h2:K < j) (h3:st K=4∨st K=3∨st K=2) (h4:∀i,i < j→i≠K→st i=1):Md j st (.w3 gT) (if st K=2 then 0 else 1) 0
 |sema {gT:Goroutine} (h2:Zh j st):Md j st (.w3 gT) 0 1
 |fin {tag:ig} (h1:afP tag) (h2:Zh j st):Md j st tag 0 0
section
variable{j i s':Nat}{st:Nat→Nat}{tag:ig}{a b:Int}
theorem Lt(s':Nat)(hi:i < j):Vn j (upd st i s')+lQ (st i)=Vn j st+lQ s' :=sumTo_upd st s' lQ hi
theorem QF{v v':Nat}(h:v' ≤ v)(hb:abU v tag):abU v' tag:=by
 cases tag<;>first|exact trivial|exact Nat.le_trans h hb|exact ⟨Nat.le_trans h hb.1,hb.2⟩
theorem Opn.upd(h:Opn j st)(hs:s' = 8∨s' = 7∨s' = 5∨s' = 1):Opn j (upd st i s'):=by
 intro k hk
 by_cases e:k=i
 ·subst e;rw [upd_same];exact hs
 ·rw [upd_ne st _ e];exact h k hk
theorem Md.counted(h:Md j st tag a b)(hi:i < j)(h5:5≤st i)(hs:s' = 8∨s' = 7∨s' = 5):Md j (upd st i s') tag a b:=by
 have hv:Vn j (Go.ConcN.upd st i s')=Vn j st:=by
  have:=Lt (st:=st) s' hi
  have c1:lQ (st i)=1:=by simp [lQ,h5]
  have c2:lQ s' = 1:=by rcases hs with rfl|rfl|rfl<;>rfl
  omega
 have ho:Opn j st→Opn j (Go.ConcN.upd st i s'):=fun x=>x.upd (by rcases hs with rfl|rfl|rfl<;>simp)
 cases h with
 |opn h1 h2 h3=>rw [←hv];exact .opn h1 (ho h2) (by rw [hv];exact h3)
 |reg h2 h3=>rw [←hv];exact .reg (ho h2) (by rw [hv];exact h3)
 |last K h2 h3 h4=>
  by_cases e:i=K
  ·subst e;omega
  ·have:=h4 i hi e;omega
 |sema h2=>have:=h2 i hi;omega
 |fin h1 h2=>have:=h2 i hi;omega
theorem Md.same(h:Md j st tag a b)(hs:st i=s'):Md j (upd st i s') tag a b:=by
 have:Go.ConcN.upd st i s' = st:=by
  funext k
  by_cases e:k=i
  ·subst e;rw [upd_same,hs]
  ·rw [upd_ne st _ e]
 rw [this]
 exact h
theorem Md.isLast(h:Md j st tag a b)(hi:i < j)(hs:st i=4∨st i=3∨st i=2) :
  (∃gT,tag = .w3 gT)∧(∀k,k < j→k≠i→st k=1)∧a=(if st i=2 then 0 else 1)∧b=0:=by
 cases h with
 |opn h1 h2 h3=>have:=h2 i hi;omega
 |reg h2 h3=>have:=h2 i hi;omega
 | @last gT K h2 h3 h4=>
  by_cases e:i=K
  ·subst e;exact ⟨⟨gT,rfl⟩,h4,rfl,rfl⟩
  ·have:=h4 i hi e;omega
 |sema h2=>have:=h2 i hi;omega
 |fin h1 h2=>have:=h2 i hi;omega
theorem Ut(j:Nat)(st:Nat→Nat):Vn j st≤j:=by
 have:=Go.ConcN.sumTo_le (f:=fun i=>lQ (st i)) (c:=1) (j:=j) fun i _=>by simp only [lQ];split<;>omega
 simpa [Vn] using this
theorem Lu(hi:i < j)(h5:5≤st i):1≤Vn j st:=by
 have:=le_sumTo (f:=fun i=>lQ (st i)) hi
 simp only [lQ,h5,if_true] at this
 exact this
theorem sS:∀ {j:Nat},1≤Vn j st→∃i,i < j∧5≤st i
 |0,h=>by simp [Vn,sumTo] at h
 |j+1,h=>by
  by_cases hc:5≤st j
  ·exact ⟨j,by omega,hc⟩
  ·have:1≤Vn j st:=by simp only [Vn,sumTo,lQ,if_neg hc] at h ⊢;simpa using h
   obtain ⟨i,hi,h5⟩:=sS this
   exact ⟨i,by omega,h5⟩
theorem Opn.H8(h:Opn j st)(hv:Vn j st=0):Zh j st:=by
 intro i hi
 have:=h i hi
 by_cases h5:5≤st i
 ·have:=Lu hi h5;omega
 ·omega
theorem Jy(ho:Opn j st)(hi:i < j)(h5:5≤st i)(hv:Vn j st=1):∀k,k < j→k≠i→st k=1:=by
 have h0:=Lt (st:=st) (i:=i) 0 hi
 have c1:lQ (st i)=1:=by simp [lQ,h5]
 have c0:lQ 0=0:=rfl
 intro k hk e
 by_cases h5':5≤st k
 ·have:1≤Vn j (Go.ConcN.upd st i 0):=Lu hk (by rw [upd_ne st _ e];exact h5')
  omega
 ·have:=ho k hk;omega
end
end Go.Ren
namespace Go.Ren
theorem az.draw{O D:Nat→Prop}(w:World)(d:Nat):az O D w (w.at d):=⟨Nat.le_refl _,fun _ _=>rfl,fun _ _=>rfl,.rfl,rfl,rfl⟩
open Go.Conc hiding Goes mem_ofEvents
open Go.ConcN (sumTo upd upd_same upd_ne sumTo_congr sumTo_upd le_sumTo RelBy get_map_set get_map_set_same WgLive)
open Go.Conc.Lib (WgLink)
open Go.ConcR (KK WgAt stA smA rd wr mk g_of_ofEvents loc_of_ofEvent)
def dY(Sent:Nat→(Nat→Prop)→(Nat→Prop)→Option Value→World→Prop):Prop:=∀i O D v w w',Sent i O D v w→az O D w w' → Sent i O D v w'
def abV(Ch cap:Nat)(w:World):Prop:=∃buf s r tm,w.heap[Ch]? = some (.chan cap buf false s r tm)
section
variable(P:Program)(L:WgLink)(Wg Ch cap n n0:Nat)(Sent:Nat→(Nat→Prop)→(Nat→Prop)→Option Value→World→Prop)(Fin:(Nat→Prop)→(Nat→Prop)→Goroutine→World→Prop)
def kV(w:World):Prop:=Lv L Wg w∧abV Ch cap w
def Z7(r:Nat):(Nat→Prop)→(Nat→Prop)→Goroutine→World→Prop:=Spawns P L Wg Ch Sent (kV L Wg Ch cap) Fin n r
def kQ:ig→Pos→Prop
 | .sp (r+1) 1,x=>fH P true (kV L Wg Ch cap) (XM Wg) x.D (lH P L Wg Ch Sent (kV L Wg Ch cap) (n - (r+1)) (Z7 P L Wg Ch cap n Sent Fin r) x.D) x.d x.O x.g x.w
 | .sp (r+1) 0,x=>fH P true (kV L Wg Ch cap) (XM Wg) x.D (uT P L Wg Ch Sent (kV L Wg Ch cap) (n - (r+1)) (Z7 P L Wg Ch cap n Sent Fin r) x.D) x.d x.O x.g x.w
 | .sp 0 1,x=>fH P true (kV L Wg Ch cap) (XM Wg) x.D (iJ P L Wg Fin x.D) x.d x.O x.g x.w
 | .sp _ _,_=>False
 | .w1 _ gT A,x=>Anch P L Wg gT A∧(∀w',az x.O x.D x.w w' → Fin x.D x.O gT w')∧ag P true (Lv L Wg) (XM Wg) (M1 P L Wg gT A) x.d x.g
 | .w2 v gT A,x=>Anch P L Wg gT A∧(∀w',az x.O x.D x.w w' → Fin x.D x.O gT w')∧ag P true (Lv L Wg) (XM Wg) (M2 P L Wg gT A v) x.d x.g
 | .w3 gT,x=>(∀w',az x.O x.D x.w w' → Fin x.D x.O gT w')∧ag P true (Lv L Wg) (XM Wg) (M3 P L Wg gT) x.d x.g
 | .w4 gT,x=>(∀w',az x.O x.D x.w w' → Fin x.D x.O gT w')∧ag P true (Lv L Wg) (XM Wg) (M4 P L Wg gT) x.d x.g
 | .acq gT,x=>(∀w',az x.O x.D x.w w' → Fin x.D x.O gT w')∧ag P true (Lv L Wg) (XM Wg) (QE P L Wg gT) x.d x.g
def Z8:ig→Pos→Pos→Prop
 | .sp (r+1) 1=>NxD P true (kV L Wg Ch cap) fun D=>lH P L Wg Ch Sent (kV L Wg Ch cap) (n - (r+1)) (Z7 P L Wg Ch cap n Sent Fin r) D
 | .sp (r+1) 0=>NxD P true (kV L Wg Ch cap) fun D=>uT P L Wg Ch Sent (kV L Wg Ch cap) (n - (r+1)) (Z7 P L Wg Ch cap n Sent Fin r) D
 | .sp 0 1=>NxD P true (kV L Wg Ch cap) fun D=>iJ P L Wg Fin D
 | .sp _ _=>fun _ _=>False
 | .w1 _ gT A=>QD P true (Lv L Wg) (M1 P L Wg gT A)
 | .w2 v gT A=>QD P true (Lv L Wg) (M2 P L Wg gT A v)
 | .w3 gT=>QD P true (Lv L Wg) (M3 P L Wg gT)
 | .w4 gT=>QD P true (Lv L Wg) (M4 P L Wg gT)
 | .acq gT=>QD P true (Lv L Wg) (QE P L Wg gT)
def fP(i:Nat):Nat→Pos→Prop
 |8,x=>fH P false (kV L Wg Ch cap) X0 x.D (fQ P L Wg Ch (Sent i) (kV L Wg Ch cap) x.D) x.d x.O x.g x.w
 |7,x=>ag P false (Lv L Wg) X0 (jh P L Wg) x.d x.g
 |5,x=>ag P false (Lv L Wg) XD (zV P L Wg) x.d x.g
 |4,x=>ag P false (Lv L Wg) X0 (WLd P L Wg) x.d x.g
 |3,x=>ag P false (Lv L Wg) X0 (WSt P L Wg) x.d x.g
 |2,x=>ag P false (Lv L Wg) X0 (Zg P L Wg) x.d x.g
 |1,x=>∃q,QuitsD P q x.d x.g
 |_,_=>False
def UH(i:Nat):Nat→Pos→Pos→Prop
 |8=>NxD P false (kV L Wg Ch cap) fun D=>fQ P L Wg Ch (Sent i) (kV L Wg Ch cap) D
 |7=>QD P false (Lv L Wg) (jh P L Wg)
 |5=>QD P false (Lv L Wg) (zV P L Wg)
 |4=>QD P false (Lv L Wg) (WLd P L Wg)
 |3=>QD P false (Lv L Wg) (WSt P L Wg)
 |2=>QD P false (Lv L Wg) (Zg P L Wg)
 |1=>UG P
 |_=>fun _ _=>False
theorem QG:∀(s:ig) (x:Pos),kQ P L Wg Ch cap n Sent Fin s x→Acc (Z8 P L Wg Ch cap n Sent Fin s) x:=by
 intro s x h
 cases s with
 |sp r s=>
  rcases r with _|r
  ·rcases s with _|_|s
   ·exact h.elim
   ·exact fH.acc h
   ·exact h.elim
  ·rcases s with _|_|s
   ·exact fH.acc h
   ·exact fH.acc h
   ·exact h.elim
 |w1 v gT A=>exact ag.acc h.2.2 x rfl rfl
 |w2 v gT A=>exact ag.acc h.2.2 x rfl rfl
 |w3 gT=>exact ag.acc h.2 x rfl rfl
 |w4 gT=>exact ag.acc h.2 x rfl rfl
 |acq gT=>exact ag.acc h.2 x rfl rfl
theorem QH(i:Nat):∀(s:Nat) (x:Pos),fP P L Wg Ch cap Sent i s x→Acc (UH P L Wg Ch cap Sent i s) x:=by
 intro s x h
 match s,h with
 |8,h=>exact fH.acc h
 |7,h=>exact ag.acc h x rfl rfl
 |5,h=>exact ag.acc h x rfl rfl
 |4,h=>exact ag.acc h x rfl rfl
 |3,h=>exact ag.acc h x rfl rfl
 |2,h=>exact ag.acc h x rfl rfl
 |1,h=>obtain ⟨q,hq⟩:=h;exact ry q x hq
 |0,h=>exact h.elim
 |6,h=>exact h.elim
 |s+9,h=>exact h.elim
def zL(n j:Nat):ig→Prop
 | .sp r _=>r+j=n
 |_=>j=n
structure Co(W U:Nat→Prop)(j:Nat)(tag:ig)(x0:Pos)(bl:Bool)(st:Nat→Nat)(xs ls:Nat→Pos)(O D:Nat→Nat→Prop)(gs:Array Goroutine)(w:World)(t:Trace):Prop where
 hn0:1≤n0
 size:gs.size=n0+j
 main:gs[0]? = some (if bl then { x0.g with status:=.blocked } else x0.g)
 blk:bl=true→(∃gT,tag = .w3 gT∧M3 P L Wg gT x0.d x0.g)∧∃i,i < j∧2≤st i
 seat:kQ P L Wg Ch cap n Sent Fin tag x0
 O0:x0.O=O 0
 D0:x0.D=D 0
 rely:az x0.O x0.D x0.w w
 deaf:Go.Conc.Deaf t 0=x0.d
 wk:∀i,i < j→gs[n0+i]? = some (xs i).g∧fP P L Wg Ch cap Sent i (st i) (xs i)∧Go.Conc.Deaf t (n0+i)=(xs i).d
 wO:∀i,i < j→st i=8→(xs i).O=O (n0+i)∧(xs i).D=D (n0+i)∧az (O (n0+i)) (D (n0+i)) (xs i).w w
 lv:∀k,1≤k→k < n0→gs[k]? = some (ls k).g∧(∃q,QuitsD P q (ls k).d (ls k).g)∧Go.Conc.Deaf t k=(ls k).d∧Gone W t k
 ti:TI W O D (n0+j) w.heap.size t
 own:Own (fun b=>W b∨U b) O D (n0+j) w.heap.size
 hW:W Wg∧U Ch∧Wg≠Ch
 over:∀i,i < j→st i≤5→∃r,Over (stA Wg) W t (n0+i) r
 norel:∀a,NoRelease a t
 sent:∃(order:List Nat) (vals:Nat→Option Value) (s r:Nat) (tm:Bool),order.Nodup∧(∀i,i∈order↔i < j∧st i≤7)∧w.heap[Ch]? = some (.chan cap (order.filterMap vals).toArray false s r tm)∧∀i∈order,Sent i (O (n0+i)) (D (n0+i)) (vals i) w
 md:∃a b,WgAt L.tWg Wg w a b∧Md j st tag a b
 left:zL n j tag
end
section
variable{P:Program}{L:WgLink}{Wg Ch cap n n0:Nat}{Sent:Nat→(Nat→Prop)→(Nat→Prop)→Option Value→World→Prop}{Fin:(Nat→Prop)→(Nat→Prop)→Goroutine→World→Prop}
 {W U:Nat→Prop} {j:Nat} {tag:ig} {x0:Pos} {bl:Bool} {st:Nat→Nat} {xs ls:Nat→Pos} {O D:Nat→Nat→Prop} {gs:Array Goroutine} {w w':World} {sl:Option (Nat×Nat)} {t:Trace}
theorem Own.less{W W':Nat→Prop}{O D:Nat→Nat→Prop}{n B:Nat}(h:Own W' O D n B)(hw:∀b,W b→W' b):Own W O D n B:=
 ⟨h.oo,h.od,fun i b hi ho x=>h.ow i b hi ho (hw b x),fun i b hi hd x=>h.dw i b hi hd (hw b x),h.Il,h.UC,fun b x=>h.zU b (hw b x)⟩
theorem Co.H9(h:(Co P L Wg Ch cap n n0 Sent Fin W U) j tag x0 bl st xs ls O D gs w t):Own W O D (n0+j) w.heap.size:=h.own.less fun _=>.inl
theorem ng{t:Trace}{k:Nat}{fn:FuncId}{pos:String}{es:Array Event}(h:∀a,NoRelease a t)(hu:∀e∈es,∀a,e.loc ≠ .mark (.release a)):∀a,NoRelease a (t ++ MemOp.ofEvents k fn pos es):=fun a=>
 (h a).app fun op hop e=>by
  rw [ofEvents_eq] at hop
  obtain ⟨x,hx,rfl⟩:=Array.mem_map.1 hop
  exact hu x hx a (loc_of_ofEvent e)
theorem qM{t:Trace}{u:Array MemOp}(h:∀a,NoRelease a t)(hu:∀op∈u,∀a,op.act ≠ .mark (.release a)):∀a,NoRelease a (t ++ u):=fun a=>(h a).app fun op hop=>hu op hop a
theorem ag.status{m:Bool}{I:World→Prop}{X:Event→Prop}{S:Nat→Goroutine→Prop}{d:Nat}{g:Goroutine}(hS:∀d g,S d g→g.status = .running)(h:ag P m I X S d g):g.status = .running:=by
 cases h with
 |stop h=>exact hS _ _ h
 |step hs=>exact hs
theorem fH.status{m:Bool}{I:World→Prop}{X:Event→Prop}{D:Nat→Prop}{S:Nat→(Nat→Prop)→Goroutine→World→Prop}{d:Nat}{O:Nat→Prop}{g:Goroutine}{w:World}(hS:∀d O g w,S d O g w→g.status = .running)(h:fH P m I X D S d O g w):g.status = .running:=by
 cases h with
 |stop h=>exact hS _ _ _ _ h
 |step hs=>exact hs
theorem gQ{i s:Nat}{x:Pos}(h:fP P L Wg Ch cap Sent i s x):(x.g.status = .running∧2≤s)∨((x.g.status = .running∨x.g.status = .finished)∧s=1):=by
 match s,h with
 |8,h=>exact .inl ⟨fH.status (fun _ _ _ _ x=>x.1) h,by omega⟩
 |7,h=>exact .inl ⟨ag.status (fun _ _ x=>x.2.1) h,by omega⟩
 |5,h=>exact .inl ⟨ag.status (fun _ _ x=>x.2.1) h,by omega⟩
 |4,h=>exact .inl ⟨ag.status (fun _ _ x=>x.2.1) h,by omega⟩
 |3,h=>exact .inl ⟨ag.status (fun _ _ x=>x.2.1) h,by omega⟩
 |2,h=>exact .inl ⟨ag.status (fun _ _ x=>x.2.1) h,by omega⟩
 |1,h=>obtain ⟨q,hq⟩:=h;exact .inr ⟨hq.status,rfl⟩
 |0,h=>exact h.elim
 |6,h=>exact h.elim
 |s+9,h=>exact h.elim
theorem Ia{D':Nat→Prop}{d:Nat}{O':Nat→Prop}{g:Goroutine}(h:iJ P L Wg Fin D' d O' g w):g.status = .running:=by
 obtain ⟨gT,A,_,h,_⟩:=h
 exact ag.status (fun _ _ x=>x.2.1) h
theorem jb{tag:ig}{x:Pos}(h:kQ P L Wg Ch cap n Sent Fin tag x):x.g.status = .running:=by
 cases tag with
 |sp r s=>
  rcases r with _|r
  ·rcases s with _|_|s
   ·exact h.elim
   ·exact fH.status (fun _ _ _ _ x=>Ia x) h
   ·exact h.elim
  ·rcases s with _|_|s
   ·exact fH.status (fun _ _ _ _ x=>x.2.1) h
   ·exact fH.status (fun _ _ _ _ x=>x.2.1) h
   ·exact h.elim
 |w1 v gT A=>exact ag.status (fun _ _ x=>x.2.1) h.2.2
 |w2 v gT A=>exact ag.status (fun _ _ x=>x.2.1) h.2.2
 |w3 gT=>exact ag.status (fun _ _ x=>x.2.1) h.2
 |w4 gT=>exact ag.status (fun _ _ x=>x.2.1) h.2
 |acq gT=>exact ag.status (fun _ _ x=>x.2.1) h.2
theorem Co.inv(h:(Co P L Wg Ch cap n n0 Sent Fin W U) j tag x0 bl st xs ls O D gs w t):kV L Wg Ch cap w:=by
 obtain ⟨a,b,h1,_⟩:=h.md
 obtain ⟨order,vals,s,r,tm,_,_,h2,_⟩:=h.sent
 exact ⟨⟨a,b,h1⟩,_,s,r,tm,h2⟩
theorem Co.at(hS:dY Sent)(h:(Co P L Wg Ch cap n n0 Sent Fin W U) j tag x0 bl st xs ls O D gs w t)(d:Nat):(Co P L Wg Ch cap n n0 Sent Fin W U) j tag x0 bl st xs ls O D gs (w.at d) t:=by
 obtain ⟨order,vals,s,r,tm,h1,h2,h3,h4⟩:=h.sent
 obtain ⟨a,b,h5,h6⟩:=h.md
 exact ⟨h.hn0,h.size,h.main,h.blk,h.seat,h.O0,h.D0,h.rely.trans (.draw w d),h.deaf,h.wk,fun i hi hs=>let ⟨x,y,z⟩:=h.wO i hi hs;⟨x,y,z.trans (.draw w d)⟩,h.lv,h.ti,h.own,h.hW,h.over,h.norel,
  ⟨order,vals,s,r,tm,h1,h2,h3,fun i hi=>hS _ _ _ _ _ _ (h4 i hi) (.draw w d)⟩,⟨a,b,h5,h6⟩,h.left⟩
theorem Co.awake(h:(Co P L Wg Ch cap n n0 Sent Fin W U) j tag x0 bl st xs ls O D gs w t):∀g∈gs,awake g:=by
 intro g hg
 obtain ⟨k,hk⟩:=Array.mem_iff_getElem?.1 hg
 rcases Nat.eq_zero_or_pos k with rfl|hpos
 ·rw [h.main] at hk
  cases hk
  intro tm
  cases bl with
  |true=>simp
  |false=>simp [jb h.seat]
 ·have hlt:k < n0+j:=by rw [←h.size];exact (Array.getElem?_eq_some_iff.1 hk).1
  rcases Nat.lt_or_ge k n0 with h1|h1
  ·obtain ⟨h2,⟨q,h3⟩,_⟩:=h.lv k hpos h1
   rw [h2] at hk
   cases hk
   intro tm
   rcases h3.status with e|e<;>rw [e]<;>simp
  ·obtain ⟨i,rfl⟩:∃i,k=n0+i:=⟨k - n0,by omega⟩
   obtain ⟨h2,h3,_⟩:=h.wk i (by omega)
   rw [h2] at hk
   cases hk
   intro tm
   rcases gQ h3 with ⟨e,_⟩|⟨e|e,_⟩<;>rw [e]<;>simp
theorem Co.Zi(h:(Co P L Wg Ch cap n n0 Sent Fin W U) j tag x0 bl st xs ls O D gs w t):∃(i:Nat) (g:Goroutine),gs[i]? = some g∧g.status = .running:=by
 cases hb:bl with
 |false=>
  have:=h.main
  rw [hb] at this
  exact ⟨0,_,this,jb h.seat⟩
 |true=>
  obtain ⟨_,i,hi,h2⟩:=h.blk hb
  obtain ⟨h3,h4,_⟩:=h.wk i hi
  rcases gQ h4 with ⟨e,_⟩|⟨_,e⟩
  ·exact ⟨_,_,h3,e⟩
  ·omega
theorem Co.pick(h:(Co P L Wg Ch cap n n0 Sent Fin W U) j tag x0 bl st xs ls O D gs w t):∃(i:Nat) (g:Goroutine) (d:Nat) (sl':Option (Nat×Nat)),gs[i]? = some g∧g.status = .running∧stepT P (crowd gs w sl)=runT P (crowd gs (w.at d) sl') i:=
 crowd_pick h.awake h.Zi
theorem Uu{g g' x:Goroutine}{bl:Bool}(hs:x.status = .running)(ho:bl=true→x.offers=none) :
  ∃lS:Bool,woken P g g' w' (if bl then { x with status:=.blocked } else x)=(if lS then { x with status:=.blocked } else x)∧(lS = true→bl=true)∧(mayWake P g=true→(g'.status = .running∨g'.status = .finished)→lS = false):=by
 cases bl with
 |false=>
  refine ⟨false,?_,id,fun _ _=>rfl⟩
  simp only [Bool.false_eq_true,if_false]
  exact woken_running hs
 |true=>
  simp only [if_true]
  have hoff:=ho rfl
  unfold woken
  split
  ·refine ⟨false,?_,(fun h=>by cases h),fun _ _=>rfl⟩
   obtain ⟨fr,cs,s,dy,off⟩:=x
   simp only at hs hoff
   subst hs hoff
   rfl
  ·rename_i hn
   refine ⟨true,rfl,fun _=>trivial,fun h1 h2=>?_⟩
   exact absurd (by rcases h2 with h2|h2<;>simp [h1,h2]) hn
end
end Go.Ren
namespace Go.Ren
open Go.Conc hiding Goes mem_ofEvents
open Go.ConcN (sumTo upd upd_same upd_ne sumTo_congr sumTo_upd le_sumTo RelBy get_map_set get_map_set_same WgLive norel_of)
open Go.Conc.Lib (WgLink)
open Go.ConcR (KK WgAt stA smA rd wr mk g_of_ofEvents loc_of_ofEvent)
section
variable{P:Program}{L:WgLink}{Wg Ch cap n n0:Nat}{Sent:Nat→(Nat→Prop)→(Nat→Prop)→Option Value→World→Prop}{Fin:(Nat→Prop)→(Nat→Prop)→Goroutine→World→Prop}
 {W U:Nat→Prop} {j:Nat} {tag:ig} {x0:Pos} {bl:Bool} {st:Nat→Nat} {xs ls:Nat→Pos} {O D:Nat→Nat→Prop} {gs:Array Goroutine} {w w':World} {sl:Option (Nat×Nat)} {t:Trace}
theorem OU{O:Nat→Prop}{w w':World}(h:w'.heap.size=w.heap.size):grow O w w' = O:=by
 funext b
 apply propext
 unfold grow
 constructor
 ·rintro (x|x)
  ·exact x
  ·omega
 ·exact .inl
theorem sU(h:(Co P L Wg Ch cap n n0 Sent Fin W U) j tag x0 bl st xs ls O D gs w t):bl=true→x0.g.offers=none:=fun e=>by
 obtain ⟨⟨gT,_,h1⟩,_⟩:=h.blk e
 exact h1.2.2.1
theorem Uw{i s:Nat}{x:Pos}(h:fP P L Wg Ch cap Sent i s x):s≤8:=by
 match s,h with
 |8,_|7,_|5,_|4,_|3,_|2,_|1,_=>omega
 |0,h=>exact h.elim
 |6,h=>exact h.elim
 |s+9,h=>exact h.elim
theorem Co.worker(hS:dY Sent)(h:(Co P L Wg Ch cap n n0 Sent Fin W U) j tag x0 bl st xs ls O D gs w t){i:Nat}(hi:i < j){x':Pos}{es:Array Event}{s':Nat}
  (hgo:stepG P false (xs i).g w = .go x'.g w' es) (hG:lF (Jv W (n0+i)) W (O (n0+i)) (D (n0+i)) w w' es) (hd:x'.d=deafBehind (xs i).d es) (aU:fP P L Wg Ch cap Sent i s' x')
  (h8:s' = 8→st i=8∧x'.O=grow (O (n0+i)) w w' ∧ x'.D=D (n0+i)∧x'.w=w')
  (h7:s' ≤ 7→st i≤7∧w'.heap.size=w.heap.size∧∀b,O (n0+i) b→w'.heap[b]? = w.heap[b]?)
  (Ux:s' ≤ 5→∃r,Over (stA Wg) W (t ++ MemOp.ofEvents (n0+i) (xs i).g.frame.fn (xs i).g.frame.place es) (n0+i) r)
  (hnr:∀e∈es,∀a,e.loc ≠ .mark (.release a)) (hch:w'.heap[Ch]? = w.heap[Ch]?)
  (hmd:∃a b,WgAt L.tWg Wg w' a b∧Md j (upd st i s') tag a b)
  (hbl:∀lS:Bool,bl=true→(mayWake P (xs i).g=true→(x'.g.status = .running∨x'.g.status = .finished)→lS = false)→lS = true→∃k,k < j∧2≤upd st i s' k) :
  ∃gs' lS O' ops,runT P (crowd gs w sl) (n0+i)=(.next (crowd gs' w' sl),ops)∧(Co P L Wg Ch cap n n0 Sent Fin W U) j tag x0 lS (upd st i s') (upd xs i x') ls O' D gs' w' (t ++ ops):=by
 obtain ⟨hgi,hsi,hdi⟩:=h.wk i hi
 have hsz:=h.size
 have hpos:n0+i≠0:=by have:=h.hn0;omega
 have hgo':stepG P ((n0+i) == 0) (xs i).g w = .go x'.g w' es:=by
  have:((n0+i) == 0)=false:=by simp;omega
  rw [this];exact hgo
 have hti:=h.ti
 have hown:=h.H9
 rw [←hsz] at hti hown
 have hown' :=h.own.grow (i:=n0+i) (by omega) hG.size
 obtain ⟨hrun,qH,_⟩:=mZ (sl:=sl) hgi hgo' hti hown hG
 obtain ⟨lS,hw1,hw2,hw3⟩:=Uu (P:=P) (w' :=w') (g:=(xs i).g) (g' :=x'.g) (jb h.seat) (sU h)
 have hrel:∀k,k < n0+j→k≠n0+i→az (O k) (D k) w w' :=fun k hk hne=>hG.rely h.H9 (by omega) hk hne
 have hoth:∀k,k≠n0+i→with_ O (n0+i) w.heap.size w'.heap.size k=O k:=fun k hk=>zI hk _ _
 have hself:with_ O (n0+i) w.heap.size w'.heap.size (n0+i)=grow (O (n0+i)) w w' :=ru O (n0+i) w w'
 have hops:∀op∈MemOp.ofEvents (n0+i) (xs i).g.frame.fn (xs i).g.frame.place es,op.g=n0+i:=g_of_ofEvents
 have hs8:=Uw aU
 rw [hsz] at qH
 refine ⟨_,lS,_,_,hrun,h.hn0,by simpa using hsz,?_,fun e=>?_,h.seat,by rw [hoth 0 hpos.symm];exact h.O0,h.D0,h.rely.trans (by rw [h.O0,h.D0];exact hrel 0 (by have:=h.hn0;omega) hpos.symm),?_,fun k hk=>?_,fun k hk hs=>?_,fun k h1 h2=>?_,qH,hown',h.hW,fun k hk hs=>?_,ng h.norel hnr,?_,hmd,h.left⟩
 ·rw [get_map_set _ _ _ _ hpos,h.main,Option.map_some,hw1]
 ·obtain ⟨h1,_⟩:=h.blk (hw2 e)
  exact ⟨h1,hbl lS (hw2 e) hw3 e⟩
 ·rw [Deaf_other t hpos _ hops];exact h.deaf
 ·by_cases e:k=i
  ·subst e
   rw [upd_same,upd_same]
   exact ⟨get_map_set_same _ _ _ (by rw [hsz];omega),aU,by rw [Deaf_own,hdi];exact hd.symm⟩
  ·obtain ⟨h1,h2,h3⟩:=h.wk k hk
   rw [upd_ne xs _ e,upd_ne st _ e]
   refine ⟨?_,h2,by rw [Deaf_other t (by omega) _ hops];exact h3⟩
   rw [get_map_set _ _ _ _ (by omega),h1,Option.map_some,woken_rf]
   rcases gQ h2 with ⟨x,_⟩|⟨x,_⟩
   ·exact .inl x
   ·exact x
 ·by_cases e:k=i
  ·subst e
   rw [upd_same] at hs
   obtain ⟨_,a1,a2,a3⟩:=h8 hs
   rw [upd_same,hself]
   exact ⟨a1,a2,by rw [a3];exact .refl _⟩
  ·rw [upd_ne st _ e] at hs
   obtain ⟨a1,a2,a3⟩:=h.wO k hk hs
   rw [upd_ne xs _ e,hoth _ (by omega)]
   exact ⟨a1,a2,a3.trans (hrel _ (by omega) (by omega))⟩
 ·obtain ⟨a1,⟨q,a2⟩,a3,a4⟩:=h.lv k h1 h2
  refine ⟨?_,⟨q,a2⟩,by rw [Deaf_other t (by omega) _ hops];exact a3,a4.appNot fun op hop e=>by rw [hops op hop] at e;omega⟩
  rw [get_map_set _ _ _ _ (by omega),a1,Option.map_some,woken_rf a2.status]
 ·by_cases e:k=i
  ·subst e
   rw [upd_same] at hs
   exact Ux hs
  ·rw [upd_ne st _ e] at hs
   obtain ⟨r,hr⟩:=h.over k hk hs
   exact ⟨r,hr.appNot fun op hop e'=>by rw [hops op hop] at e';omega⟩
 ·obtain ⟨order,vals,s,r,tm,b1,b2,b3,b4⟩:=h.sent
  refine ⟨order,vals,s,r,tm,b1,fun k=>?_,by rw [hch];exact b3,fun k hk=>?_⟩
  ·rw [b2]
   by_cases e:k=i
   ·subst e
    rw [upd_same]
    constructor
    ·rintro ⟨c1,c2⟩
     refine ⟨c1,?_⟩
     rcases Nat.lt_or_ge s' 8 with x|x
     ·omega
     ·have:=(h8 (by omega)).1;omega
    ·rintro ⟨c1,c2⟩
     exact ⟨c1,(h7 c2).1⟩
   ·rw [upd_ne st _ e]
  ·obtain ⟨c1,c2⟩:=(b2 k).1 hk
   by_cases e:k=i
   ·subst e
    have hs7:s' ≤ 7:=by
     rcases Nat.lt_or_ge s' 8 with x|x
     ·omega
     ·have:=(h8 (by omega)).1;omega
    obtain ⟨_,d1,d2⟩:=h7 hs7
    rw [hself,OU d1]
    exact hS _ _ _ _ _ _ (b4 k hk) ⟨hG.size,d2,fun b hb=>hG.heap b (h.own.UC _ b (by omega) hb) (fun x=>h.own.od _ _ b (by omega) (by omega) x hb) (h.H9.dw _ b (by omega) hb),hG.os,hG.output,hG.tape⟩
   ·rw [hoth _ (by omega)]
    exact hS _ _ _ _ _ _ (b4 k hk) (hrel _ (by omega) (by omega))
theorem zM:∀(j:Nat) (l:List Nat),l.Nodup→(∀k∈l,k < j)→l.length≤j
 |0,l,_,h=>by
  cases l with
  |nil=>simp
  |cons a l=>exact absurd (h a (by simp)) (by omega)
 |j+1,l,hn,h=>by
  by_cases hj:j∈l
  ·have:=zM j (l.erase j) (hn.erase j) fun k hk=>by
    have h1:=(hn.mem_erase_iff).1 hk
    have:=h k h1.2
    omega
   rw [List.length_erase_of_mem hj] at this
   omega
  ·have:=zM j l hn fun k hk=>by
    have h1:=h k hk
    have:k≠j:=fun e=>hj (e ▸ hk)
    omega
   omega
theorem zN{α β:Type}{f g:α→Option β}:∀ {l:List α},(∀k∈l,f k=g k)→l.filterMap f=l.filterMap g
 | [],_=>rfl
 |x :: l,h=>by rw [List.filterMap_cons,List.filterMap_cons,h x (by simp),zN fun k hk=>h k (by simp [hk])]
theorem Co.skip(hS:dY Sent)(h:(Co P L Wg Ch cap n n0 Sent Fin W U) j tag x0 bl st xs ls O D gs w t){i:Nat}(hi:i < j)(h8:st i=8)(hx:je P L Wg (Sent i) (xs i).D (xs i).d (xs i).O (xs i).g (xs i).w) :
  (Co P L Wg Ch cap n n0 Sent Fin W U) j tag x0 bl (upd st i 7) (upd xs i (xs i)) ls O D gs w t:=by
 obtain ⟨hgi,hsi,hdi⟩:=h.wk i hi
 obtain ⟨hO,hD,hr⟩:=h.wO i hi h8
 obtain ⟨hd0,Jz,hnx⟩:=hx
 obtain ⟨order,vals,s,r,tm,b1,b2,b3,b4⟩:=h.sent
 have hnot:i∉order:=fun hm=>by have:=(b2 i).1 hm;omega
 have hxs:upd xs i (xs i)=xs:=by
  funext k
  by_cases e:k=i
  ·subst e;rw [upd_same]
  ·rw [upd_ne xs _ e]
 rw [hxs]
 have hsx:fP P L Wg Ch cap Sent i 7 (xs i):=by
  show ag P false (Lv L Wg) X0 (jh P L Wg) (xs i).d (xs i).g
  rw [hd0];exact hnx
 refine ⟨h.hn0,h.size,h.main,fun e=>?_,h.seat,h.O0,h.D0,h.rely,h.deaf,fun k hk=>?_,fun k hk hs=>?_,h.lv,h.ti,h.own,h.hW,fun k hk hs=>?_,h.norel,?_,?_,h.left⟩
 ·obtain ⟨h1,k,hk,h2⟩:=h.blk e
  refine ⟨h1,k,hk,?_⟩
  by_cases e:k=i
  ·subst e;rw [upd_same];omega
  ·rw [upd_ne st _ e];exact h2
 ·obtain ⟨h1,h2,h3⟩:=h.wk k hk
  refine ⟨h1,?_,h3⟩
  by_cases e:k=i
  ·subst e;rw [upd_same];exact hsx
  ·rw [upd_ne st _ e];exact h2
 ·by_cases e:k=i
  ·subst e;rw [upd_same] at hs;omega
  ·rw [upd_ne st _ e] at hs;exact h.wO k hk hs
 ·by_cases e:k=i
  ·subst e;rw [upd_same] at hs;omega
  ·rw [upd_ne st _ e] at hs;exact h.over k hk hs
 ·refine ⟨order ++ [i],upd vals i none,s,r,tm,?_,fun k=>?_,?_,fun k hk=>?_⟩
  ·rw [List.nodup_append]
   exact ⟨b1,by simp,fun a ha b hb=>by simp at hb;subst hb;exact fun e=>hnot (e ▸ ha)⟩
  ·rw [List.mem_append,b2]
   by_cases e:k=i
   ·subst e;rw [upd_same];simp [hi]
   ·rw [upd_ne st _ e];simp [e]
  ·have e1:(order.filterMap (upd vals i none))=order.filterMap vals:=zN fun k hk=>upd_ne vals none (fun e:k=i=>hnot (e ▸ hk))
   have e2:(order ++ [i]).filterMap (upd vals i none)=order.filterMap vals:=by
    rw [List.filterMap_append,e1]
    simp [upd_same]
   rw [e2];exact b3
  ·rcases List.mem_append.1 hk with hk|hk
   ·rw [upd_ne vals none (fun e:k=i=>hnot (e ▸ hk))]
    exact b4 k hk
   ·simp at hk
    subst hk
    rw [upd_same]
    rw [hO,hD] at Jz
    exact hS _ _ _ _ _ _ Jz hr
 ·obtain ⟨a,b,c1,c2⟩:=h.md
  exact ⟨a,b,c1,c2.counted hi (by omega) (.inr (.inl rfl))⟩
theorem Co.send(hS:dY Sent)(hcap:n≤cap)(h:(Co P L Wg Ch cap n n0 Sent Fin W U) j tag x0 bl st xs ls O D gs w t){i:Nat}(hi:i < j)(h8:st i=8)(hx:rF P L Wg Ch (Sent i) (kV L Wg Ch cap) (xs i).D (xs i).d (xs i).O (xs i).g (xs i).w) :
  ∃gs' w' x' ops,runT P (crowd gs w sl) (n0+i)=(.next (crowd gs' w' sl),ops)∧fP P L Wg Ch cap Sent i 7 x' ∧ (Co P L Wg Ch cap n n0 Sent Fin W U) j tag x0 bl (upd st i 7) (upd xs i x') ls O D gs' w' (t ++ ops):=by
 obtain ⟨hgi,hsi,hdi⟩:=h.wk i hi
 obtain ⟨hO,hD,hr⟩:=h.wO i hi h8
 obtain ⟨hd0,hrn,g₂,v,z,hst,Jz,hnx⟩:=hx
 obtain ⟨order,vals,s,r,tm,b1,b2,b3,b4⟩:=h.sent
 have hsz:=h.size
 have hpos:n0+i≠0:=by have:=h.hn0;omega
 have hnot:i∉order:=fun hm=>by have:=(b2 i).1 hm;omega
 have hroom:order.length < cap:=by
  have h1:=zM j (order ++ [i]) (by
   rw [List.nodup_append]
   exact ⟨b1,by simp,fun a ha b hb=>by simp at hb;subst hb;exact fun e=>hnot (e ▸ ha)⟩) (fun k hk=>by
   rcases List.mem_append.1 hk with hk|hk
   ·exact ((b2 k).1 hk).1
   ·simp at hk;omega)
  rw [List.length_append] at h1
  simp only [List.length_cons,List.length_nil] at h1
  have hj:j≤n:=by
   have:=h.left
   cases tag<;>simp only [zL] at this<;>omega
  omega
 have hp:partners (gs.setIfInBounds (n0+i) ph) Ch false=[]:=by
  refine partners_nil fun k g hk=>?_
  rcases getElem?_stand _ _ _ _ hk with ⟨_,rfl⟩|⟨hne,hk⟩
  ·exact offersAt_ph _ _
  ·rcases Nat.eq_zero_or_pos k with rfl|hkp
   ·rw [h.main] at hk
    cases hk
    cases hb:bl with
    |false=>exact offersAt_of_not_blocked (by simp [jb h.seat]) _ _
    |true=>simp [offersAt,sU h hb]
   ·have hlt:k < n0+j:=by rw [←hsz];exact (Array.getElem?_eq_some_iff.1 hk).1
    have hst:g.status = .running∨g.status = .finished:=by
     rcases Nat.lt_or_ge k n0 with h1|h1
     ·obtain ⟨h2,⟨q,h3⟩,_⟩:=h.lv k hkp h1
      rw [h2] at hk
      cases hk
      exact h3.status
     ·obtain ⟨i',rfl⟩:∃i',k=n0+i' :=⟨k - n0,by omega⟩
      obtain ⟨h2,h3,_⟩:=h.wk i' (by omega)
      rw [h2] at hk
      cases hk
      rcases gQ h3 with ⟨x,_⟩|⟨x,_⟩
      · exact .inl x
      · exact x
    exact offersAt_of_not_blocked (by rcases hst with e|e<;>rw [e]<;>simp) _ _
 have hst':stepG P ((n0+i) == 0) (xs i).g w = .comm g₂ #[scase Ch v z] true .send w #[]:=by
  have e:((n0+i) == 0)=false:=by simp;omega
  rw [e]
  exact hst w (by rw [hO,hD];exact hr) h.inv
 have agM:(order.filterMap vals).length≤order.length:=List.length_filterMap_le _ _
 have hrun:=crowd_send_room (sl:=sl) hgi hst' b3 (by simp only [List.size_toArray];omega) hp
 rw [finishComm_send] at hrun
 have hev:MemOp.ofEvents (n0+i) (xs i).g.frame.fn (xs i).g.frame.place #[] = #[]:=rfl
 rw [hev,Array.empty_append] at hrun
 have Uy:Ch < w.heap.size:=h.own.zU _ (.inr h.hW.2.1)
 have hheap:∀b,b≠Ch→(w.setChan Ch cap ((order.filterMap vals).toArray.push v) false (s+1) r tm).heap[b]? = w.heap[b]? :=fun b hb=>by
  simp only [World.setChan]
  exact Array.getElem?_setIfInBounds_ne (fun e=>hb e.symm)
 have hsize:(w.setChan Ch cap ((order.filterMap vals).toArray.push v) false (s+1) r tm).heap.size=w.heap.size:=by simp [World.setChan]
 have hrel:∀k,k < n0+j→az (O k) (D k) w (w.setChan Ch cap ((order.filterMap vals).toArray.push v) false (s+1) r tm):=fun k hk=>
  ⟨by rw [hsize];exact Nat.le_refl _,fun b hb=>hheap b fun e=>h.own.ow k b hk hb (.inr (e ▸ h.hW.2.1)),fun b hb=>hheap b fun e=>h.own.dw k b hk hb (.inr (e ▸ h.hW.2.1)),.rfl,rfl,rfl⟩
 have hg:∀op ∈ #[({ g:=n0+i,fn:=g₂.frame.fn,pos:=g₂.frame.place,act:=.send Ch s }:MemOp),{ g:=n0+i,fn:=g₂.frame.fn,pos:=g₂.frame.place,act:=.sendDone Ch s }],op.g=n0+i:=by
  intro op hop
  simp only [List.mem_toArray,List.mem_cons,List.not_mem_nil,or_false] at hop
  rcases hop with rfl|rfl<;>rfl
 have hm:∀op ∈ #[({ g:=n0+i,fn:=g₂.frame.fn,pos:=g₂.frame.place,act:=.send Ch s }:MemOp),{ g:=n0+i,fn:=g₂.frame.fn,pos:=g₂.frame.place,act:=.sendDone Ch s }],op.act ≠ .mark .disable∧op.act ≠ .mark .enable:=by
  intro op hop
  simp only [List.mem_toArray,List.mem_cons,List.not_mem_nil,or_false] at hop
  rcases hop with rfl|rfl<;>simp
 have hti:TI W O D (n0+j) w.heap.size (t ++ #[({ g:=n0+i,fn:=g₂.frame.fn,pos:=g₂.frame.place,act:=.send Ch s }:MemOp),{ g:=n0+i,fn:=g₂.frame.fn,pos:=g₂.frame.place,act:=.sendDone Ch s }]):=by
  have e:t ++ #[({ g:=n0+i,fn:=g₂.frame.fn,pos:=g₂.frame.place,act:=.send Ch s }:MemOp),{ g:=n0+i,fn:=g₂.frame.fn,pos:=g₂.frame.place,act:=.sendDone Ch s }]=(t ++ #[{ g:=n0+i,fn:=g₂.frame.fn,pos:=g₂.frame.place,act:=.send Ch s }]) ++ #[{ g:=n0+i,fn:=g₂.frame.fn,pos:=g₂.frame.place,act:=.sendDone Ch s }]:=by
   apply Array.ext';simp
  rw [e]
  exact (h.ti.still (z:={ g:=n0+i,fn:=g₂.frame.fn,pos:=g₂.frame.place,act:=.send Ch s }) (by show n0+i < n0+j;omega) rfl Uy).still (by show n0+i < n0+j;omega) rfl Uy
 have hsx:fP P L Wg Ch cap Sent i 7 ⟨O (n0+i),D (n0+i),0,Go.Conc.served g₂ undef,w⟩:=hnx
 refine ⟨_,_,⟨O (n0+i),D (n0+i),0,Go.Conc.served g₂ undef,w⟩,_,hrun,hsx,h.hn0,by simpa using hsz,?_,fun e=>?_,h.seat,h.O0,h.D0,h.rely.trans (by rw [h.O0,h.D0];exact hrel 0 (by have:=h.hn0;omega)),?_,fun k hk=>?_,fun k hk hs=>?_,fun k h1 h2=>?_,by rw [hsize];exact hti,by rw [hsize];exact h.own,h.hW,fun k hk hs=>?_,qM h.norel ?_,?_,?_,h.left⟩
 ·rw [Array.getElem?_setIfInBounds_ne hpos];exact h.main
 ·obtain ⟨h1,k,hk,h2⟩:=h.blk e
  refine ⟨h1,k,hk,?_⟩
  by_cases e:k=i
  ·subst e;rw [upd_same];omega
  ·rw [upd_ne st _ e];exact h2
 ·rw [Go.ConcN.Deaf_still t 0 _ hm];exact h.deaf
 ·by_cases e:k=i
  ·subst e
   rw [upd_same,upd_same]
   exact ⟨Array.getElem?_setIfInBounds_self_of_lt (by rw [hsz];omega),hsx,by rw [Go.ConcN.Deaf_still t _ _ hm,hdi];exact hd0⟩
  ·obtain ⟨h1,h2,h3⟩:=h.wk k hk
   rw [upd_ne xs _ e,upd_ne st _ e]
   exact ⟨by rw [Array.getElem?_setIfInBounds_ne (by omega)];exact h1,h2,by rw [Go.ConcN.Deaf_still t _ _ hm];exact h3⟩
 ·by_cases e:k=i
  ·subst e;rw [upd_same] at hs;omega
  ·rw [upd_ne st _ e] at hs
   obtain ⟨a1,a2,a3⟩:=h.wO k hk hs
   rw [upd_ne xs _ e]
   exact ⟨a1,a2,a3.trans (hrel _ (by omega))⟩
 ·obtain ⟨a1,a2,a3,a4⟩:=h.lv k h1 h2
  exact ⟨by rw [Array.getElem?_setIfInBounds_ne (by omega)];exact a1,a2,by rw [Go.ConcN.Deaf_still t _ _ hm];exact a3,a4.appNot fun op hop e=>by rw [hg op hop] at e;omega⟩
 ·by_cases e:k=i
  ·subst e;rw [upd_same] at hs;omega
  ·rw [upd_ne st _ e] at hs
   obtain ⟨r',hr'⟩:=h.over k hk hs
   exact ⟨r',hr'.appNot fun op hop e'=>by rw [hg op hop] at e';omega⟩
 ·intro op hop a
  simp only [List.mem_toArray,List.mem_cons,List.not_mem_nil,or_false] at hop
  rcases hop with rfl|rfl<;>simp
 ·refine ⟨order ++ [i],upd vals i (some v),s+1,r,tm,?_,fun k=>?_,?_,fun k hk=>?_⟩
  ·rw [List.nodup_append]
   exact ⟨b1,by simp,fun a ha b hb=>by simp at hb;subst hb;exact fun e=>hnot (e ▸ ha)⟩
  ·rw [List.mem_append,b2]
   by_cases e:k=i
   ·subst e;rw [upd_same];simp [hi]
   ·rw [upd_ne st _ e];simp [e]
  ·have e1:(order.filterMap (upd vals i (some v)))=order.filterMap vals:=zN fun k hk=>upd_ne vals (some v) (fun e:k=i=>hnot (e ▸ hk))
   have e2:((order ++ [i]).filterMap (upd vals i (some v))).toArray=(order.filterMap vals).toArray.push v:=by
    rw [List.filterMap_append,e1]
    simp [upd_same]
   rw [e2]
   simp only [World.setChan]
   rw [Array.getElem?_setIfInBounds_self_of_lt Uy]
  ·rcases List.mem_append.1 hk with hk|hk
   ·rw [upd_ne vals (some v) (fun e:k=i=>hnot (e ▸ hk))]
    have:=(b2 k).1 hk
    exact hS _ _ _ _ _ _ (b4 k hk) (hrel _ (by omega))
   ·simp at hk
    subst hk
    rw [upd_same]
    rw [hO,hD] at Jz
    exact hS _ _ _ _ _ _ (hS _ _ _ _ _ _ Jz hr) (hrel _ (by omega))
 ·obtain ⟨a,b,c1,c2⟩:=h.md
  refine ⟨a,b,?_,c2.counted hi (by omega) (.inr (.inl rfl))⟩
  unfold WgAt at c1 ⊢
  rw [hheap Wg h.hW.2.2]
  exact c1
end
end Go.Ren
namespace Go.Ren
open Go.Conc hiding Goes mem_ofEvents
open Go.ConcN (sumTo upd upd_same upd_ne sumTo_congr sumTo_upd le_sumTo RelBy get_map_set get_map_set_same WgLive norel_of RelBy.book)
open Go.Conc.Lib (WgLink)
open Go.ConcR (KK WgAt stA smA rd wr mk g_of_ofEvents loc_of_ofEvent)
section
variable{W:Nat→Prop}{k:Nat}{Wg:Nat}{w:World}{t:Trace}{fn:FuncId}{pos:String}{es:Array Event}
def qI(Wg:Nat)(e:Event):Prop:=e.loc = .mark .disable∨e.loc = .mark .enable∨e=Go.ConcR.mk (.releaseMerge (stA Wg))∨e=Go.ConcR.mk (.acquire (stA Wg))∨∃a wr,e=⟨.cell a,wr,true⟩∧a.block=Wg
theorem zO(hW:W Wg)(hlt:Wg < w.heap.size){e:Event}(h:qI Wg e):Jv W k e∧(MemAct.ofEvent e).low w.heap.size:=by
 rcases h with h|h|rfl|rfl|⟨a,wr,rfl,ha⟩
 ·exact ⟨fun x hx=>(by rw [Go.ConcR.ofEvent_loc_mark h] at hx;cases hx),by rw [Go.ConcR.ofEvent_loc_mark h];trivial⟩
 ·exact ⟨fun x hx=>(by rw [Go.ConcR.ofEvent_loc_mark h] at hx;cases hx),by rw [Go.ConcR.ofEvent_loc_mark h];trivial⟩
 ·exact ⟨fun x hx=>by simp [Go.ConcR.mk,MemAct.ofEvent,MemAct.touch?] at hx,hlt⟩
 ·exact ⟨fun x hx=>by simp [Go.ConcR.mk,MemAct.ofEvent,MemAct.touch?] at hx,hlt⟩
 ·refine ⟨fun x hx=>?_,?_⟩
  ·have:x=⟨.cell a,wr,.atomic⟩:=by
    cases wr<;>simp [MemAct.ofEvent,MemAct.touch?] at hx<;>exact hx.symm
   subst this
   exact ⟨by show W a.block;rw [ha];exact hW,by simp,fun e=>by simp at e⟩
  ·cases wr<;>(show a.block < _;omega)
theorem QM(hW:W Wg)(hlt:Wg < w.heap.size){e:Event}(h:XM Wg e):Jv W 0 e∧(MemAct.ofEvent e).low w.heap.size:=by
 rcases h with rfl|rfl|⟨a,ha,rfl|rfl⟩
 ·exact ⟨fun x hx=>by simp [Go.ConcR.mk,MemAct.ofEvent,MemAct.touch?] at hx,trivial⟩
 ·exact ⟨fun x hx=>by simp [Go.ConcR.mk,MemAct.ofEvent,MemAct.touch?] at hx,trivial⟩
 ·refine ⟨fun x hx=>?_,by show a.block < _;omega⟩
  simp only [MemAct.ofEvent,MemAct.touch?,Option.some.injEq] at hx
  subst hx
  exact ⟨by show W a.block;rw [ha];exact hW,by simp,fun _=>rfl⟩
 ·refine ⟨fun x hx=>?_,by show a.block < _;omega⟩
  simp only [MemAct.ofEvent,MemAct.touch?,Option.some.injEq] at hx
  subst hx
  exact ⟨by show W a.block;rw [ha];exact hW,by simp,fun _=>rfl⟩
theorem OV:∀e∈semEvents (smA Wg),qI Wg e:=by
 intro e he
 simp [semEvents] at he
 rcases he with rfl|rfl|rfl|rfl
 ·exact .inl rfl
 ·exact .inr (.inr (.inr (.inr ⟨_,_,rfl,rfl⟩)))
 ·exact .inr (.inr (.inr (.inr ⟨_,_,rfl,rfl⟩)))
 ·exact .inr (.inl rfl)
theorem lG{e:Event}(h:qI Wg e)(ad:Addr):e.loc ≠ .mark (.release ad):=by
 rcases h with h|h|rfl|rfl|⟨a,wr,rfl,_⟩<;>first|(rw [h];simp)|simp [Go.ConcR.mk]
theorem xP{e:Event}(h:XM Wg e)(ad:Addr):e.loc ≠ .mark (.release ad):=by
 rcases h with rfl|rfl|⟨a,_,rfl|rfl⟩<;>simp [Go.ConcR.mk]
theorem vU{X:Event→Prop}{B:Nat}{O D:Nat→Prop}{e:Event}(h:fM X B O D e)(hX:X e→∀a,e.loc ≠ .mark (.release a))(ad:Addr):e.loc ≠ .mark (.release ad):=by
 rcases h with h|h
 ·exact hX h.1 ad
 ·intro e'
  rw [e'] at h
  exact absurd h (by simp [uP])
theorem Over.book{a:Addr}{r d:Nat}(h:Over a W t k r)(hW:W Wg)(hdk:Go.Conc.Deaf t k=d)(hes:∀e∈es,Go.ConcR.Bk Wg e)
  (hd:∀j e,es[j]? = some e→(MemAct.ofEvent e).touch? = none∨0 < deafBehind d (es.extract 0 j)):Over a W (t ++ MemOp.ofEvents k fn pos es) k r:=by
 refine ⟨h.rel.book hdk fn pos hes hd,fun i x hi hg hx=>?_⟩
 obtain ⟨op,h1,h2⟩:=oK hg
 rcases getElem?_append_cases h1 with ⟨hl,h1'⟩|⟨_,hou⟩
 ·refine h.abS i x hi (by rw [g?_of h1',h2]) ?_
  rw [touchAt_old hl] at hx
  exact hx
 ·rw [touchAt_of h1] at hx
  rw [ofEvents_eq] at hou
  obtain ⟨e,he,rfl⟩:=Array.mem_map.1 hou
  intro hm
  rcases hes e he with h3|h3|⟨a,wr,rfl,ha⟩
  ·rw [Go.ConcR.ofEvent_loc_mark h3] at hx;cases hx
  ·rw [Go.ConcR.ofEvent_loc_mark h3] at hx;cases hx
  ·have:x=⟨.cell a,wr,.atomic⟩:=by
    cases wr<;>simp [MemAct.ofEvent,MemAct.touch?] at hx<;>exact hx.symm
   subst this
   show W a.block
   rw [ha]
   exact hW
theorem Over.new{a:Addr}(hd:Go.Conc.Deaf t k=0):Over a W (t ++ MemOp.ofEvents k fn pos #[Go.ConcR.mk (.releaseMerge a)]) k t.size:=by
 refine ⟨RelBy.new hd fn pos,fun i x hi hg hx=>?_⟩
 obtain ⟨op,h1,_⟩:=oK hg
 have:=lt_size_of_getElem? h1
 have e1:(MemOp.ofEvents k fn pos #[Go.ConcR.mk (.releaseMerge a)]).size=1:=by rw [ofEvents_eq];simp
 rw [Array.size_append,e1] at this
 omega
end
section
variable{P:Program}{L:WgLink}{Wg Ch cap n n0:Nat}{Sent:Nat→(Nat→Prop)→(Nat→Prop)→Option Value→World→Prop}{Fin:(Nat→Prop)→(Nat→Prop)→Goroutine→World→Prop}
 {W U:Nat→Prop} {j:Nat} {tag:ig} {x0:Pos} {bl:Bool} {st:Nat→Nat} {xs ls:Nat→Pos} {O D:Nat→Nat→Prop} {gs:Array Goroutine} {w w':World} {sl:Option (Nat×Nat)} {t:Trace}
theorem OZ{st sm:Int}{ty:TypeId}(h:WgAt ty Wg w st sm):Wg < w.heap.size:=(Array.getElem?_eq_some_iff.1 h).1
theorem rQ{a:Addr}{v:Value}{b:Nat}(h:b≠a.block):(w.setCell a v).heap[b]? = w.heap[b]? :=(Go.Conc.aside_setCell w a v).block b h
theorem Co.lib(hS:dY Sent)(h:(Co P L Wg Ch cap n n0 Sent Fin W U) j tag x0 bl st xs ls O D gs w t){i:Nat}(hi:i < j){g':Goroutine}{es:Array Event}{s':Nat}
  (hgo:stepG P false (xs i).g w = .go g' w' es) (hw:w' = w∨∃a v,a.block=Wg∧w' = w.setCell a v) (hes:∀e∈es,qI Wg e) (aU:fP P L Wg Ch cap Sent i s' { xs i with d:=deafBehind (xs i).d es,g:=g' })
  (hs7:s' ≤ 7) (afQ:st i≤7)
  (Ux:s' ≤ 5→∃r,Over (stA Wg) W (t ++ MemOp.ofEvents (n0+i) (xs i).g.frame.fn (xs i).g.frame.place es) (n0+i) r)
  (hmd:∃a b,WgAt L.tWg Wg w' a b∧Md j (upd st i s') tag a b)
  (hbl:∀lS:Bool,bl=true→(mayWake P (xs i).g=true→(g'.status = .running∨g'.status = .finished)→lS = false)→lS = true→∃k,k < j∧2≤upd st i s' k) :
  ∃gs' lS O' ops,runT P (crowd gs w sl) (n0+i)=(.next (crowd gs' w' sl),ops)∧(Co P L Wg Ch cap n n0 Sent Fin W U) j tag x0 lS (upd st i s') (upd xs i { xs i with d:=deafBehind (xs i).d es,g:=g' }) ls O' D gs' w' (t ++ ops):=by
 have hlt:Wg < w.heap.size:=h.own.zU _ (.inl h.hW.1)
 have hev:∀e∈es,Jv W (n0+i) e∧(MemAct.ofEvent e).low w.heap.size:=fun e he=>zO h.hW.1 hlt (hes e he)
 have hG:lF (Jv W (n0+i)) W (O (n0+i)) (D (n0+i)) w w' es:=by
  rcases hw with rfl|⟨a,v,ha,rfl⟩
  ·exact oC hev
  ·exact zK (by rw [ha];exact h.hW.1) hev
 have hsz:w'.heap.size=w.heap.size:=by
  rcases hw with rfl|⟨a,v,_,rfl⟩
  ·rfl
  ·simp
 have hoth:∀b,b≠Wg→w'.heap[b]? = w.heap[b]? :=fun b hb=>by
  rcases hw with rfl|⟨a,v,ha,rfl⟩
  ·rfl
  ·exact rQ (by rw [ha];exact hb)
 exact h.worker hS hi hgo hG rfl aU (fun e=>by omega) (fun _=>⟨afQ,hsz,fun b hb=>hoth b fun e=>h.H9.ow (n0+i) b (by omega) hb (e ▸ h.hW.1)⟩) Ux (fun e he=>lG (hes e he)) (hoth Ch (Ne.symm h.hW.2.2)) hmd hbl
def JA(P:Program)(L:WgLink)(Wg Ch cap n n0:Nat)(Sent:Nat→(Nat→Prop)→(Nat→Prop)→Option Value→World→Prop)(Fin:(Nat→Prop)→(Nat→Prop)→Goroutine→World→Prop)(W U:Nat→Prop)(j:Nat)(tag:ig)(x0:Pos)(st:Nat→Nat)(xs ls:Nat→Pos)(D:Nat→Nat→Prop)(t:Trace)(i:Nat)(r:Stepped×Array MemOp)(sl:Option (Nat×Nat)):Prop:=
 ∃gs' w' lS s' x' O',r.1 = .next (crowd gs' w' sl)∧Ord id (fP P L Wg Ch cap Sent i) (UH P L Wg Ch cap Sent i) (s',x') (st i,xs i)∧Co P L Wg Ch cap n n0 Sent Fin W U j tag x0 lS (upd st i s') (upd xs i x') ls O' D gs' w' (t ++ r.2)
theorem Ib{i:Nat}(h:(Co P L Wg Ch cap n n0 Sent Fin W U) j tag x0 bl st xs ls O D gs w t):∃a b,WgAt L.tWg Wg w a b∧Md j (upd st i (st i)) tag a b:=let ⟨a,b,h1,h2⟩:=h.md;⟨a,b,h1,h2.same rfl⟩
theorem oD{i s':Nat}(h:(Co P L Wg Ch cap n n0 Sent Fin W U) j tag x0 bl st xs ls O D gs w t)(hs:2≤st i→2≤s'):bl=true→∃k,k < j∧2≤upd st i s' k:=fun e=>by
 obtain ⟨_,k,h1,h2⟩:=h.blk e
 refine ⟨k,h1,?_⟩
 by_cases e:k=i
 ·subst e;rw [upd_same];exact hs h2
 ·rw [upd_ne st _ e];exact h2
theorem rC{m:Bool}{S:Nat→Goroutine→Prop}{d:Nat}{g:Goroutine}(h:ag P m (Lv L Wg) X0 S d g)(hl:Lv L Wg w):S d g∨(¬S d g∧∃g',stepG P m g w = .go g' w #[]∧ag P m (Lv L Wg) X0 S d g'):=by
 by_cases hS:S d g
 ·exact .inl hS
 ·cases h with
  |stop h=>exact absurd h hS
  |step hs f es h k=>
   have h1:=h w hl
   have he:es w = #[]:=Array.eq_empty_iff_forall_not_mem.2 fun e he=>(h1.2 e he).1
   have h2:=k w hl
   rw [he] at h1 h2
   exact .inr ⟨hS,_,h1.1,h2⟩
theorem Co.stepW'(hS:dY Sent)(hcap:n≤cap)(hn:n < 2147483647)(h:(Co P L Wg Ch cap n n0 Sent Fin W U) j tag x0 bl st xs ls O D gs w t){i:Nat}(hi:i < j)(hr:(xs i).g.status = .running)(hns:st i=8→¬je P L Wg (Sent i) (xs i).D (xs i).d (xs i).O (xs i).g (xs i).w) :
  JA P L Wg Ch cap n n0 Sent Fin W U j tag x0 st xs ls D t i (runT P (crowd gs w sl) (n0+i)) sl:=by
 obtain ⟨hgi,hsi,hdi⟩:=h.wk i hi
 have hinv:=h.inv
 have hl:Lv L Wg w:=hinv.1
 have hj:j≤n:=by
  have:=h.left
  cases tag<;>simp only [zL] at this<;>omega
 have fin:∀ {s':Nat} {x':Pos} {w':World},Ord id (fP P L Wg Ch cap Sent i) (UH P L Wg Ch cap Sent i) (s',x') (st i,xs i) →
   (∃gs' lS O' ops,runT P (crowd gs w sl) (n0+i)=(.next (crowd gs' w' sl),ops)∧(Co P L Wg Ch cap n n0 Sent Fin W U) j tag x0 lS (upd st i s') (upd xs i x') ls O' D gs' w' (t ++ ops)) →
   JA P L Wg Ch cap n n0 Sent Fin W U j tag x0 st xs ls D t i (runT P (crowd gs w sl) (n0+i)) sl:=by
  rintro s' x' w' ho ⟨gs',lS,O',ops,h1,h2⟩
  exact ⟨gs',w',lS,s',x',O',by rw [h1],ho,by rw [h1];exact h2⟩
 generalize hs:st i=s at hsi
 have idle:∀ {S:Nat→Goroutine→Prop},2≤s→s≤7→(∀x:Pos,fP P L Wg Ch cap Sent i s x=ag P false (Lv L Wg) X0 S x.d x.g)→UH P L Wg Ch cap Sent i s=QD P false (Lv L Wg) S →
   ¬S (xs i).d (xs i).g→(∃g',stepG P false (xs i).g w = .go g' w #[]∧ag P false (Lv L Wg) X0 S (xs i).d g') →
   JA P L Wg Ch cap n n0 Sent Fin W U j tag x0 st xs ls D t i (runT P (crowd gs w sl) (n0+i)) sl:=by
  rintro S h2 h7 hW hN hnS ⟨g',hgo,hid⟩
  have aU:fP P L Wg Ch cap Sent i s { xs i with d:=deafBehind (xs i).d #[],g:=g' }:=by rw [hW];exact hid
  refine fin (s' :=s) (.inr ⟨hs.symm,?_⟩) (h.lib hS hi hgo (.inl rfl) (by simp) aU h7 (by omega) (fun h5=>?_) (by have:=Ib (i:=i) h;rw [hs] at this;exact this) (fun lS hb _ _=>oD h (fun _=>h2) hb))
  ·show UH P L Wg Ch cap Sent i (st i) _ _
   rw [hs,hN]
   exact ⟨hnS,w,w,#[],hl,hgo,rfl⟩
  ·obtain ⟨r,hr⟩:=h.over i hi (by omega)
   exact ⟨r,by simpa [MemOp.ofEvents] using hr⟩
 match s,hsi with
 |8,hsi=>
  obtain ⟨hO,hD,hrel⟩:=h.wO i hi hs
  by_cases hsend:fQ P L Wg Ch (Sent i) (kV L Wg Ch cap) (xs i).D (xs i).d (xs i).O (xs i).g (xs i).w
  ·obtain ⟨gs',w',x',ops,h1,h2,h3⟩:=h.send (sl:=sl) hS hcap hi hs (hsend.2.resolve_right (hns hs))
   exact fin (.inl ⟨by show 7 < st i;omega,h2⟩) ⟨gs',bl,O,ops,h1,h3⟩
  ·have Ic:fH P false (kV L Wg Ch cap) X0 (xs i).D (fQ P L Wg Ch (Sent i) (kV L Wg Ch cap) (xs i).D) (xs i).d (xs i).O (xs i).g (xs i).w:=hsi
   generalize hdd:(xs i).d=dd at Ic hsend
   generalize hOO:(xs i).O=OO at Ic hsend
   generalize hgg:(xs i).g=gg at Ic hsend
   generalize hww:(xs i).w=ww at Ic hsend
   cases Ic with
   |stop hx=>exact absurd hx hsend
   |step hst f u es hk k=>
    have hrw:az OO (xs i).D ww w:=by rw [←hOO,←hww,hO,hD];exact hrel
    obtain ⟨hgo,hG⟩:=hk w hrw hinv
    have hnext:=k w hrw hinv
    have hG':aO X0 (O (n0+i)) (D (n0+i)) w (u w) (es w):=by rw [←hO,←hD,hOO];exact hG
    have hdeaf:deafBehind dd (es w)=dd:=iD (fun e he=>(hG.ev e he).hearing fun x=>x.elim) dd
    have hun:∀b,b≠n0→True:=fun _ _=>trivial
    have hkeep:∀b,W b∨U b→(u w).heap[b]? = w.heap[b]? :=fun b hb=>hG'.heap b (h.own.zU b hb) fun hO'=>h.own.ow (n0+i) b (by omega) hO' hb
    refine fin (s' :=8) (x' :=⟨grow OO w (u w),(xs i).D,deafBehind dd (es w),f w,u w⟩) (.inr ⟨hs.symm,?_⟩) (h.worker hS hi (x' :=⟨grow OO w (u w),(xs i).D,deafBehind dd (es w),f w,u w⟩) (by rw [hgg];exact hgo) (hG'.wide fun e x=>x.elim) (by rw [hdd]) hnext
     (fun _=>⟨hs,by rw [←hO,hOO],hD,rfl⟩) (fun x=>by omega) (fun x=>by omega) (fun e he=>vU (hG'.ev e he) fun x=>x.elim) (hkeep Ch (.inr h.hW.2.1))
     (by obtain ⟨a,b,m1,m2⟩:=h.md;exact ⟨a,b,by unfold WgAt at m1 ⊢;rw [hkeep Wg (.inl h.hW.1)];exact m1,m2.same hs⟩) (fun lS hb _ _=>oD h (fun _=>by omega) hb))
    show UH P L Wg Ch cap Sent i (st i) _ _
    rw [hs]
    refine ⟨rfl,?_,w,es w,?_,hinv,?_,?_,?_⟩
    ·rw [hdd,hOO,hgg,hww];exact hsend
    ·rw [hOO,hww];exact hrw
    ·rw [hgg];exact hgo
    ·rw [hOO]
    ·rw [hdd]
 |7,hsi=>
  rcases rC hsi hl with hx|⟨hn',hx⟩
  ·obtain ⟨hd0,hst,g',hgo,hid⟩:=hx
   have aU:fP P L Wg Ch cap Sent i 5 { xs i with d:=deafBehind (xs i).d #[Go.ConcR.mk (.releaseMerge (stA Wg))],g:=g' }:=by
    show ag P false (Lv L Wg) XD (zV P L Wg) (deafBehind (xs i).d #[Go.ConcR.mk (.releaseMerge (stA Wg))]) g'
    rw [hd0];exact hid
   exact fin (s' :=5) (.inl ⟨by show 5 < st i;omega,aU⟩) (h.lib hS hi (hgo w hl) (.inl rfl) (by intro e he;rw [Array.mem_singleton] at he;exact .inr (.inr (.inl he))) aU (by omega) (by omega)
    (fun _=>⟨_,Over.new (by rw [hdi];exact hd0)⟩) (by obtain ⟨a,b,m1,m2⟩:=h.md;exact ⟨a,b,m1,m2.counted hi (by omega) (.inr (.inr rfl))⟩) (fun lS hb _ _=>oD h (fun _=>by omega) hb))
  ·exact idle (by omega) (by omega) (fun x=>rfl) rfl hn' hx
 |5,hsi=>
  obtain ⟨r,hov⟩:=h.over i hi (by omega)
  by_cases hx:zV P L Wg (xs i).d (xs i).g
  ·obtain ⟨hd1,hst,hall⟩:=hx
   obtain ⟨a,b,m1,m2⟩:=h.md
   have bk2:∀e ∈ #[rd (stA Wg),wr (stA Wg)],Go.ConcR.Bk Wg e:=by intro e he;simp at he;rcases he with rfl|rfl<;>exact .inr (.inr ⟨_,_,rfl,rfl⟩)
   have lb2:∀e ∈ #[rd (stA Wg),wr (stA Wg)],qI Wg e:=by intro e he;simp at he;rcases he with rfl|rfl<;>exact .inr (.inr (.inr (.inr ⟨_,_,rfl,rfl⟩)))
   have df2:∀jx e,(#[rd (stA Wg),wr (stA Wg)]:Array Event)[jx]? = some e→(MemAct.ofEvent e).touch? = none∨0 < deafBehind 1 ((#[rd (stA Wg),wr (stA Wg)]:Array Event).extract 0 jx):=by
    intro jx e he
    match jx,he with
    |0,_=>exact .inr (by simp [deafBehind])
    |1,_=>exact .inr (by simp [deafBehind,rd])
    |jx+2,he=>simp at he
   have hV1:=Lu hi (by omega:5≤st i)
   have hVj:=Ut j st
   have adQ:=fun s (hi:i < j)=>Lt (st:=st) (i:=i) (j:=j) s hi
   have c5:lQ (st i)=1:=by rw [hs];rfl
   have dd2:deafBehind 1 #[rd (stA Wg),wr (stA Wg)]=1:=by simp [deafBehind,rd,wr]
   have go:∀v wt:Nat,wt≤1→v < 2147483647→WgAt L.tWg Wg w ((v+1) * KK+wt) 0→∀s',((v=0∧wt=1)→s' = 4)→(¬(v=0∧wt=1)→s' = 1)→Md j (upd st i s') tag (v * KK+wt) 0→(bl=true→∃k,k < j∧2≤upd st i s' k) →
     JA P L Wg Ch cap n n0 Sent Fin W U j tag x0 st xs ls D t i (runT P (crowd gs w sl) (n0+i)) sl:=by
    intro v wt h1 h2 h3 s' hs4 hs1 hmd hb
    obtain ⟨g',hgo,hq4,hq1⟩:=hall v wt h1 h2
    have aU:fP P L Wg Ch cap Sent i s' { xs i with d:=deafBehind (xs i).d #[rd (stA Wg),wr (stA Wg)],g:=g' }:=by
     by_cases hc:v=0∧wt=1
     ·rw [hs4 hc]
      show ag P false (Lv L Wg) X0 (WLd P L Wg) (deafBehind (xs i).d #[rd (stA Wg),wr (stA Wg)]) g'
      rw [hd1,dd2];exact hq4 hc
     ·rw [hs1 hc]
      show ∃q,QuitsD P q (deafBehind (xs i).d #[rd (stA Wg),wr (stA Wg)]) g'
      rw [hd1,dd2];exact hq1 hc
    have ahG:s' < 5:=by
     by_cases hc:v=0∧wt=1
     ·rw [hs4 hc];omega
     ·rw [hs1 hc];omega
    refine fin (s' :=s') (.inl ⟨by show s' < st i;omega,aU⟩) (h.lib hS hi (hgo w hl h3) (.inr ⟨_,_,rfl,rfl⟩) lb2 aU (by omega) (by omega) (fun _=>⟨r,hov.book h.hW.1 (by rw [hdi,hd1]) bk2 df2⟩) ⟨_,_,h3.setSt _,hmd⟩ (fun lS hb' _ _=>hb hb'))
   cases m2 with
   | @opn tag h1 h2 h3=>
    obtain ⟨v,hv⟩:∃v,Vn j st+jM tag=v+1:=⟨Vn j st+jM tag - 1,by omega⟩
    have agO:jM tag≤1:=by unfold jM;split<;>omega
    have hV':Vn j (upd st i 1)+1=Vn j st:=by have:=adQ 1 hi;have:lQ 1=0:=rfl;omega
    refine go v 0 (by omega) (by omega) (by rw [hv] at m1;simpa using m1) 1 (fun x=>by omega) (fun _=>rfl) ?_ (fun e=>?_)
    ·have e2:v=Vn j (upd st i 1)+jM tag:=by omega
     have:=Md.opn (j:=j) (st:=upd st i 1) h1 (h2.upd (by simp)) (QF (by omega) h3)
     rw [e2];simpa using this
    ·obtain ⟨⟨gT,e1,_⟩,_⟩:=h.blk e
     subst e1;exact h1.elim
   | @reg gT h2 h3=>
    have hV':∀s',lQ s' = 0→Vn j (upd st i s')+1=Vn j st:=fun s' h0=>by have:=adQ s' hi;omega
    obtain ⟨v,hv⟩:∃v,Vn j st=v+1:=⟨Vn j st - 1,by omega⟩
    rw [hv] at m1
    rcases Nat.eq_zero_or_pos v with rfl|hvp
    ·have hoth:=Jy h2 hi (by omega) (by omega)
     refine go 0 1 (by omega) (by omega) (by simpa using m1) 4 (fun _=>rfl) (fun x=>absurd ⟨rfl,rfl⟩ x) ?_ (fun _=>⟨i,hi,by rw [upd_same];omega⟩)
     have:=Md.last (gT:=gT) (j:=j) (st:=upd st i 4) i hi (.inl (upd_same _ _ _)) (fun k hk e=>by rw [upd_ne st _ e];exact hoth k hk e)
     simpa [upd_same] using this
    ·refine go v 1 (by omega) (by omega) (by simpa using m1) 1 (fun x=>by omega) (fun _=>rfl) ?_ (fun _=>?_)
     ·have:=Md.reg (gT:=gT) (j:=j) (st:=upd st i 1) (h2.upd (by simp)) (by have:=hV' 1 rfl;omega)
      have e2:v=Vn j (upd st i 1):=by have:=hV' 1 rfl;omega
      rw [e2];simpa using this
     ·obtain ⟨k,hk,h5⟩:=sS (j:=j) (st:=upd st i 1) (by have:=hV' 1 rfl;omega)
      exact ⟨k,hk,by omega⟩
   |last K h2 h3 h4=>
    by_cases e:i=K
    ·subst e;omega
    ·have:=h4 i hi e;omega
   |sema h2=>have:=h2 i hi;omega
   |fin h1 h2=>have:=h2 i hi;omega
  ·have Ic:ag P false (Lv L Wg) XD (zV P L Wg) (xs i).d (xs i).g:=hsi
   generalize hdd:(xs i).d=dd at Ic hx
   generalize hgg:(xs i).g=gg at Ic hx
   cases Ic with
   |stop hy=>exact absurd hy hx
   |step hst f es hk k=>
    obtain ⟨hgo,he⟩:=hk w hl
    have hnext:=k w hl
    have aU:fP P L Wg Ch cap Sent i 5 { xs i with d:=deafBehind (xs i).d (es w),g:=f w }:=by
     show ag P false (Lv L Wg) XD (zV P L Wg) (deafBehind (xs i).d (es w)) (f w)
     rw [hdd];exact hnext
    refine fin (s' :=5) (.inr ⟨hs.symm,?_⟩) (h.lib hS hi (by rw [hgg];exact hgo) (.inl rfl) (fun e hx=>.inl (by rw [(he e hx).1];rfl)) aU (by omega) (by omega) (fun _=>⟨r,hov.book h.hW.1 rfl (fun e hx=>.inl (by rw [(he e hx).1];rfl)) (fun jx e hx=>.inl ?_)⟩) (by have:=Ib (i:=i) h;rw [hs] at this;exact this) (fun lS hb _ _=>oD h (fun _=>by omega) hb))
    ·show UH P L Wg Ch cap Sent i (st i) _ _
     rw [hs]
     exact ⟨by rw [hdd,hgg];exact hx,w,w,es w,hl,by rw [hgg];exact hgo,rfl⟩
    ·have:=(he e (Array.mem_of_getElem? hx)).1
     rw [this];rfl
 |4,hsi=>
  rcases rC hsi hl with hx|⟨hn',hx⟩
  ·obtain ⟨r,hov⟩:=h.over i hi (by omega)
   obtain ⟨hd1,hst,g',hgo,hid⟩:=hx
   obtain ⟨a,b,m1,m2⟩:=h.md
   obtain ⟨⟨gT,rfl⟩,ho,rfl,rfl⟩:=m2.isLast hi (.inl hs)
   have e1:(if st i=2 then (0:Int) else 1)=1:=by rw [hs];rfl
   rw [e1] at m1
   have aU:fP P L Wg Ch cap Sent i 3 { xs i with d:=deafBehind (xs i).d #[rd (stA Wg)],g:=g' }:=by
    show ag P false (Lv L Wg) X0 (WSt P L Wg) (deafBehind (xs i).d #[rd (stA Wg)]) g'
    rw [hd1];exact hid
   refine fin (s' :=3) (.inl ⟨by show 3 < st i;omega,aU⟩) (h.lib hS hi (hgo w hl m1) (.inl rfl) (by intro e he;simp at he;subst he;exact .inr (.inr (.inr (.inr ⟨_,_,rfl,rfl⟩)))) aU (by omega) (by omega)
    (fun _=>⟨r,hov.book h.hW.1 (by rw [hdi,hd1]) (by intro e he;simp at he;subst he;exact .inr (.inr ⟨_,_,rfl,rfl⟩)) (by intro jx e he;match jx,he with|0,_=>exact .inr (by simp [deafBehind])|jx+1,he=>simp at he)⟩) ⟨_,_,m1,?_⟩ (fun lS hb _ _=>oD h (fun _=>by omega) hb))
   have:=Md.last (gT:=gT) (j:=j) (st:=upd st i 3) i hi (.inr (.inl (upd_same _ _ _))) (fun k hk e=>by rw [upd_ne st _ e];exact ho k hk e)
   simpa [upd_same] using this
  ·exact idle (by omega) (by omega) (fun x=>rfl) rfl hn' hx
 |3,hsi=>
  rcases rC hsi hl with hx|⟨hn',hx⟩
  ·obtain ⟨r,hov⟩:=h.over i hi (by omega)
   obtain ⟨hd1,hst,g',hgo,hid⟩:=hx
   obtain ⟨a,b,m1,m2⟩:=h.md
   obtain ⟨⟨gT,rfl⟩,ho,rfl,rfl⟩:=m2.isLast hi (.inr (.inl hs))
   have e1:(if st i=2 then (0:Int) else 1)=1:=by rw [hs];rfl
   rw [e1] at m1
   have aU:fP P L Wg Ch cap Sent i 2 { xs i with d:=deafBehind (xs i).d #[wr (stA Wg)],g:=g' }:=by
    show ag P false (Lv L Wg) X0 (Zg P L Wg) (deafBehind (xs i).d #[wr (stA Wg)]) g'
    rw [hd1];exact hid
   refine fin (s' :=2) (.inl ⟨by show 2 < st i;omega,aU⟩) (h.lib hS hi (hgo w hl m1) (.inr ⟨_,_,rfl,rfl⟩) (by intro e he;simp at he;subst he;exact .inr (.inr (.inr (.inr ⟨_,_,rfl,rfl⟩)))) aU (by omega) (by omega)
    (fun _=>⟨r,hov.book h.hW.1 (by rw [hdi,hd1]) (by intro e he;simp at he;subst he;exact .inr (.inr ⟨_,_,rfl,rfl⟩)) (by intro jx e he;match jx,he with|0,_=>exact .inr (by simp [deafBehind])|jx+1,he=>simp at he)⟩) ⟨_,_,m1.setSt 0,?_⟩ (fun lS hb _ _=>oD h (fun _=>by omega) hb))
   have:=Md.last (gT:=gT) (j:=j) (st:=upd st i 2) i hi (.inr (.inr (upd_same _ _ _))) (fun k hk e=>by rw [upd_ne st _ e];exact ho k hk e)
   simpa [upd_same] using this
  ·exact idle (by omega) (by omega) (fun x=>rfl) rfl hn' hx
 |2,hsi=>
  rcases rC hsi hl with hx|⟨hn',hx⟩
  ·obtain ⟨r,hov⟩:=h.over i hi (by omega)
   obtain ⟨hd1,hst,hwake,g',hgo,q,hid⟩:=hx
   obtain ⟨a,b,m1,m2⟩:=h.md
   obtain ⟨⟨gT,rfl⟩,ho,rfl,rfl⟩:=m2.isLast hi (.inr (.inr hs))
   have e1:(if st i=2 then (0:Int) else 1)=0:=by rw [hs];rfl
   rw [e1] at m1
   have hsd:deafBehind 1 (semEvents (smA Wg))=1:=by simp [semEvents,deafBehind]
   have aU:fP P L Wg Ch cap Sent i 1 { xs i with d:=deafBehind (xs i).d (semEvents (smA Wg)),g:=g' }:=by
    show ∃q,QuitsD P q (deafBehind (xs i).d (semEvents (smA Wg))) g'
    rw [hd1,hsd];exact ⟨q,hid⟩
   refine fin (s' :=1) (.inl ⟨by show 1 < st i;omega,aU⟩) (h.lib hS hi (hgo w hl m1) (.inr ⟨_,_,rfl,rfl⟩) OV aU (by omega) (by omega)
    (fun _=>⟨r,hov.book h.hW.1 (by rw [hdi,hd1]) Go.ConcN.bk_sem ?_⟩) ⟨_,_,m1.setSm 1,?_⟩ (fun lS hb hw hb'=>?_))
   ·intro jx e he
    match jx,he with
    |0,he=>simp [semEvents] at he;subst he;exact .inl rfl
    |1,_=>exact .inr (by simp [semEvents,deafBehind])
    |2,_=>exact .inr (by simp [semEvents,deafBehind])
    |3,he=>simp [semEvents] at he;subst he;exact .inl rfl
    |jx+4,he=>simp [semEvents] at he
   ·refine Md.sema fun k hk=>?_
    by_cases e:k=i
    ·subst e;rw [upd_same]
    ·rw [upd_ne st _ e];exact ho k hk e
   ·rw [hw hwake hid.status] at hb';cases hb'
  ·exact idle (by omega) (by omega) (fun x=>rfl) rfl hn' hx
 |1,hsi=>
  obtain ⟨q,hq⟩:=hsi
  obtain ⟨r,hov⟩:=h.over i hi (by omega)
  rcases q with _|q
  ·have:=hq.1;rw [hr] at this;cases this
  ·rcases hq with ⟨h1,_⟩|⟨_,g',es,hmute,hgo,hq'⟩
   ·rw [hr] at h1;cases h1
   ·have hmk:∀e∈es,Go.ConcR.Bk Wg e∧qI Wg e∧(MemAct.ofEvent e).touch? = none:=fun e he=>by
     have hm:=hmute e he
     obtain ⟨loc,wr,sy⟩:=e
     cases loc with
     |mark m=>cases m<;>first|exact ⟨.inl rfl,.inl rfl,rfl⟩|exact ⟨.inr (.inl rfl),.inr (.inl rfl),rfl⟩|simp [Event.mute] at hm
     |_=>simp [Event.mute] at hm
    have aU:fP P L Wg Ch cap Sent i 1 { xs i with d:=deafBehind (xs i).d es,g:=g' }:=⟨q,hq'⟩
    refine fin (s' :=1) (.inr ⟨hs.symm,?_⟩) (h.lib hS hi (hgo w) (.inl rfl) (fun e he=>(hmk e he).2.1) aU (by omega) (by omega) (fun _=>⟨r,hov.book h.hW.1 rfl (fun e he=>(hmk e he).1) (fun jx e he=>.inl (hmk e (Array.mem_of_getElem? he)).2.2)⟩) (by have:=Ib (i:=i) h;rw [hs] at this;exact this) (fun lS hb _ _=>oD h (fun x=>by omega) hb))
    show UH P L Wg Ch cap Sent i (st i) _ _
    rw [hs]
    exact ⟨hr,w,w,es,hgo w,rfl⟩
 |0,h=>exact h.elim
 |6,h=>exact h.elim
 |s+9,h=>exact h.elim
theorem Co.stepW(hS:dY Sent)(hcap:n≤cap)(hn:n < 2147483647)(h:(Co P L Wg Ch cap n n0 Sent Fin W U) j tag x0 bl st xs ls O D gs w t){i:Nat}(hi:i < j)(hr:(xs i).g.status = .running) :
  JA P L Wg Ch cap n n0 Sent Fin W U j tag x0 st xs ls D t i (runT P (crowd gs w sl) (n0+i)) sl:=by
 by_cases hsk:st i=8∧je P L Wg (Sent i) (xs i).D (xs i).d (xs i).O (xs i).g (xs i).w
 ·obtain ⟨h8,hsk⟩:=hsk
  have h' :=h.skip hS hi h8 hsk
  have hxs:upd xs i (xs i) i=xs i:=upd_same _ _ _
  have key:=Co.stepW' (sl:=sl) hS hcap hn h' hi (by rw [hxs];exact hr) (fun e=>by rw [upd_same] at e;omega)
  obtain ⟨gs',w',lS,s',x',O',h1,h2,h3⟩:=key
  have e1:upd (upd st i 7) i s' = upd st i s' :=by
   funext k
   by_cases e:k=i
   ·subst e;rw [upd_same,upd_same]
   ·rw [upd_ne _ _ e,upd_ne _ _ e,upd_ne _ _ e]
  have e2:upd (upd xs i (xs i)) i x' = upd xs i x' :=by
   funext k
   by_cases e:k=i
   ·subst e;rw [upd_same,upd_same]
   ·rw [upd_ne _ _ e,upd_ne _ _ e,upd_ne _ _ e]
  rw [e1,e2] at h3
  have aU:fP P L Wg Ch cap Sent i s' x' :=by
   have:=(h3.wk i hi).2.1
   rw [upd_same,upd_same] at this
   exact this
  refine ⟨gs',w',lS,s',x',O',h1,.inl ⟨?_,aU⟩,h3⟩
  rw [upd_same,hxs] at h2
  show s' < st i
  rcases h2 with ⟨h2,_⟩|⟨h2,_⟩
  ·have:s' < 7:=h2
   omega
  ·have:s' = 7:=h2
   omega
 ·exact Co.stepW' (sl:=sl) hS hcap hn h hi hr fun e hx=>hsk ⟨e,hx⟩
end
end Go.Ren
