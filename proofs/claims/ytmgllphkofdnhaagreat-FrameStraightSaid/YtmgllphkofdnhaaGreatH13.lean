import Derived.Conc.CrowdComm
import Derived.Conc.Beside
import Derived.Test.YtmgllphkofdnhaaGreatH12
set_option linter.unusedVariables false
set_option linter.unusedSectionVars false
set_option linter.unusedSimpArgs false
namespace Go.Ren
theorem Rely.draw{O D:Nat→Prop}(w:World)(d:Nat):Rely O D w (w.at d):=⟨Nat.le_refl _,fun _ _=>rfl,fun _ _=>rfl,.rfl,rfl,rfl⟩
open Go.Conc hiding Goes mem_ofEvents
open Go.ConcN (sumTo upd upd_same upd_ne sumTo_congr sumTo_upd le_sumTo RelBy get_map_set get_map_set_same WgLive)
open Go.Conc.Lib (WgLink)
open Go.ConcR (KK WgAt stA smA rd wr mk g_of_ofEvents loc_of_ofEvent)
def StableS(Sent:Nat→(Nat→Prop)→(Nat→Prop)→Option Value→World→Prop):Prop:=∀i O D v w w',Sent i O D v w→Rely O D w w' → Sent i O D v w'
def ChLive(Ch cap:Nat)(w:World):Prop:=∃buf s r tm,w.heap[Ch]? = some (.chan cap buf false s r tm)
section
variable(P:Program)(L:WgLink)(Wg Ch cap n n0:Nat)(Sent:Nat→(Nat→Prop)→(Nat→Prop)→Option Value→World→Prop)(Fin:(Nat→Prop)→(Nat→Prop)→Goroutine→World→Prop)
def PhI(w:World):Prop:=Lv L Wg w∧ChLive Ch cap w
def NxS(r:Nat):(Nat→Prop)→(Nat→Prop)→Goroutine→World→Prop:=Spawns P L Wg Ch Sent (PhI L Wg Ch cap) Fin n r
def MSeat:MTag→Pos→Prop
 | .sp (r+1) 1,x=>WkD P true (PhI L Wg Ch cap) (XM Wg) x.D (MAdd P L Wg Ch Sent (PhI L Wg Ch cap) (n - (r+1)) (NxS P L Wg Ch cap n Sent Fin r) x.D) x.d x.O x.g x.w
 | .sp (r+1) 0,x=>WkD P true (PhI L Wg Ch cap) (XM Wg) x.D (MGo P L Wg Ch Sent (PhI L Wg Ch cap) (n - (r+1)) (NxS P L Wg Ch cap n Sent Fin r) x.D) x.d x.O x.g x.w
 | .sp 0 1,x=>WkD P true (PhI L Wg Ch cap) (XM Wg) x.D (MWait P L Wg Fin x.D) x.d x.O x.g x.w
 | .sp _ _,_=>False
 | .w1 _ gT A,x=>Anch P L Wg gT A∧(∀w',Rely x.O x.D x.w w' → Fin x.D x.O gT w')∧IdleD P true (Lv L Wg) (XM Wg) (M1 P L Wg gT A) x.d x.g
 | .w2 v gT A,x=>Anch P L Wg gT A∧(∀w',Rely x.O x.D x.w w' → Fin x.D x.O gT w')∧IdleD P true (Lv L Wg) (XM Wg) (M2 P L Wg gT A v) x.d x.g
 | .w3 gT,x=>(∀w',Rely x.O x.D x.w w' → Fin x.D x.O gT w')∧IdleD P true (Lv L Wg) (XM Wg) (M3 P L Wg gT) x.d x.g
 | .w4 gT,x=>(∀w',Rely x.O x.D x.w w' → Fin x.D x.O gT w')∧IdleD P true (Lv L Wg) (XM Wg) (M4 P L Wg gT) x.d x.g
 | .acq gT,x=>(∀w',Rely x.O x.D x.w w' → Fin x.D x.O gT w')∧IdleD P true (Lv L Wg) (XM Wg) (MAcq P L Wg gT) x.d x.g
def WSeat(i:Nat):Nat→Pos→Prop
 |8,x=>WkD P false (PhI L Wg Ch cap) X0 x.D (WSend P L Wg Ch (Sent i) (PhI L Wg Ch cap) x.D) x.d x.O x.g x.w
 |7,x=>IdleD P false (Lv L Wg) X0 (WRel P L Wg) x.d x.g
 |5,x=>IdleD P false (Lv L Wg) XD (WAdd P L Wg) x.d x.g
 |4,x=>IdleD P false (Lv L Wg) X0 (WLd P L Wg) x.d x.g
 |3,x=>IdleD P false (Lv L Wg) X0 (WSt P L Wg) x.d x.g
 |2,x=>IdleD P false (Lv L Wg) X0 (WSem P L Wg) x.d x.g
 |1,x=>∃q,QuitsD P q x.d x.g
 |_,_=>False
def leftM(n j:Nat):MTag→Prop
 | .sp r _=>r+j=n
 |_=>j=n
structure Co(W U:Nat→Prop)(j:Nat)(tag:MTag)(x0:Pos)(bl:Bool)(st:Nat→Nat)(xs ls:Nat→Pos)(O D:Nat→Nat→Prop)(gs:Array Goroutine)(w:World)(t:Trace):Prop where
 hn0:1≤n0
 size:gs.size=n0+j
 main:gs[0]? = some (if bl then { x0.g with status:=.blocked } else x0.g)
 blk:bl=true→(∃gT,tag = .w3 gT∧M3 P L Wg gT x0.d x0.g)∧∃i,i < j∧2≤st i
 seat:MSeat P L Wg Ch cap n Sent Fin tag x0
 O0:x0.O=O 0
 D0:x0.D=D 0
 rely:Rely x0.O x0.D x0.w w
 deaf:Go.Conc.Deaf t 0=x0.d
 wk:∀i,i < j→gs[n0+i]? = some (xs i).g∧WSeat P L Wg Ch cap Sent i (st i) (xs i)∧Go.Conc.Deaf t (n0+i)=(xs i).d
 wO:∀i,i < j→st i=8→(xs i).O=O (n0+i)∧(xs i).D=D (n0+i)∧Rely (O (n0+i)) (D (n0+i)) (xs i).w w
 lv:∀k,1≤k→k < n0→gs[k]? = some (ls k).g∧(∃q,QuitsD P q (ls k).d (ls k).g)∧Go.Conc.Deaf t k=(ls k).d∧Gone W t k
 ti:TI W O D (n0+j) w.heap.size t
 own:Own (fun b=>W b∨U b) O D (n0+j) w.heap.size
 hW:W Wg∧U Ch∧Wg≠Ch
 over:∀i,i < j→st i≤5→∃r,Over (stA Wg) W t (n0+i) r
 norel:∀a,NoRelease a t
 sent:∃(order:List Nat) (vals:Nat→Option Value) (s r:Nat) (tm:Bool),order.Nodup∧(∀i,i∈order↔i < j∧st i≤7)∧w.heap[Ch]? = some (.chan cap (order.filterMap vals).toArray false s r tm)∧∀i∈order,Sent i (O (n0+i)) (D (n0+i)) (vals i) w
 md:∃a b,WgAt L.tWg Wg w a b∧Md j st tag a b
 left:leftM n j tag
end
section
variable{P:Program}{L:WgLink}{Wg Ch cap n n0:Nat}{Sent:Nat→(Nat→Prop)→(Nat→Prop)→Option Value→World→Prop}{Fin:(Nat→Prop)→(Nat→Prop)→Goroutine→World→Prop}
 {W U:Nat→Prop} {j:Nat} {tag:MTag} {x0:Pos} {bl:Bool} {st:Nat→Nat} {xs ls:Nat→Pos} {O D:Nat→Nat→Prop} {gs:Array Goroutine} {w w':World} {sl:Option (Nat×Nat)} {t:Trace}
theorem Own.less{W W':Nat→Prop}{O D:Nat→Nat→Prop}{n B:Nat}(h:Own W' O D n B)(hw:∀b,W b→W' b):Own W O D n B:=
 ⟨h.oo,h.od,fun i b hi ho x=>h.ow i b hi ho (hw b x),fun i b hi hd x=>h.dw i b hi hd (hw b x),h.olt,h.dlt,fun b x=>h.wlt b (hw b x)⟩
theorem norel_app{t:Trace}{k:Nat}{fn:FuncId}{pos:String}{es:Array Event}(h:∀a,NoRelease a t)(hu:∀e∈es,∀a,e.loc ≠ .mark (.release a)):∀a,NoRelease a (t ++ MemOp.ofEvents k fn pos es):=fun a=>
 (h a).app fun op hop e=>by
  rw [ofEvents_eq] at hop
  obtain ⟨x,hx,rfl⟩:=Array.mem_map.1 hop
  exact hu x hx a (loc_of_ofEvent e)
theorem norel_ops{t:Trace}{u:Array MemOp}(h:∀a,NoRelease a t)(hu:∀op∈u,∀a,op.act ≠ .mark (.release a)):∀a,NoRelease a (t ++ u):=fun a=>(h a).app fun op hop=>hu op hop a
theorem IdleD.status{m:Bool}{I:World→Prop}{X:Event→Prop}{S:Nat→Goroutine→Prop}{d:Nat}{g:Goroutine}(hS:∀d g,S d g→g.status = .running)(h:IdleD P m I X S d g):g.status = .running:=by
 cases h with
 |stop h=>exact hS _ _ h
 |step hs=>exact hs
theorem WkD.status{m:Bool}{I:World→Prop}{X:Event→Prop}{D:Nat→Prop}{S:Nat→(Nat→Prop)→Goroutine→World→Prop}{d:Nat}{O:Nat→Prop}{g:Goroutine}{w:World}(hS:∀d O g w,S d O g w→g.status = .running)(h:WkD P m I X D S d O g w):g.status = .running:=by
 cases h with
 |stop h=>exact hS _ _ _ _ h
 |step hs=>exact hs
theorem mwait_status{D':Nat→Prop}{d:Nat}{O':Nat→Prop}{g:Goroutine}(h:MWait P L Wg Fin D' d O' g w):g.status = .running:=by
 obtain ⟨gT,A,_,h,_⟩:=h
 exact IdleD.status (fun _ _ x=>x.2.1) h
theorem mseat_status{tag:MTag}{x:Pos}(h:MSeat P L Wg Ch cap n Sent Fin tag x):x.g.status = .running:=by
 cases tag with
 |sp r s=>
  rcases r with _|r
  ·rcases s with _|_|s
   ·exact h.elim
   ·exact WkD.status (fun _ _ _ _ x=>mwait_status x) h
   ·exact h.elim
  ·rcases s with _|_|s
   ·exact WkD.status (fun _ _ _ _ x=>x.2.1) h
   ·exact WkD.status (fun _ _ _ _ x=>x.2.1) h
   ·exact h.elim
 |w1 v gT A=>exact IdleD.status (fun _ _ x=>x.2.1) h.2.2
 |w2 v gT A=>exact IdleD.status (fun _ _ x=>x.2.1) h.2.2
 |w3 gT=>exact IdleD.status (fun _ _ x=>x.2.1) h.2
 |w4 gT=>exact IdleD.status (fun _ _ x=>x.2.1) h.2
 |acq gT=>exact IdleD.status (fun _ _ x=>x.2.1) h.2
theorem Co.at(hS:StableS Sent)(h:(Co P L Wg Ch cap n n0 Sent Fin W U) j tag x0 bl st xs ls O D gs w t)(d:Nat):(Co P L Wg Ch cap n n0 Sent Fin W U) j tag x0 bl st xs ls O D gs (w.at d) t:=by
 obtain ⟨order,vals,s,r,tm,h1,h2,h3,h4⟩:=h.sent
 obtain ⟨a,b,h5,h6⟩:=h.md
 exact ⟨h.hn0,h.size,h.main,h.blk,h.seat,h.O0,h.D0,h.rely.trans (.draw w d),h.deaf,h.wk,fun i hi hs=>let ⟨x,y,z⟩:=h.wO i hi hs;⟨x,y,z.trans (.draw w d)⟩,h.lv,h.ti,h.own,h.hW,h.over,h.norel,
  ⟨order,vals,s,r,tm,h1,h2,h3,fun i hi=>hS _ _ _ _ _ _ (h4 i hi) (.draw w d)⟩,⟨a,b,h5,h6⟩,h.left⟩
theorem wokenM{g g' x:Goroutine}{bl:Bool}(hs:x.status = .running)(ho:bl=true→x.offers=none) :
  ∃bl':Bool,woken P g g' w' (if bl then { x with status:=.blocked } else x)=(if bl' then { x with status:=.blocked } else x)∧(bl' = true→bl=true)∧(mayWake P g=true→(g'.status = .running∨g'.status = .finished)→bl' = false):=by
 cases bl with
 |false=>
  refine ⟨false,?_,id,fun _ _=>rfl⟩
  simp only [Bool.false_eq_true,if_false]
  exact woken_running hs
 |true=>
  simp only [if_true]
  have hoff:=ho rfl
  unfold woken
  split
  ·refine ⟨false,?_,(fun h=>by cases h),fun _ _=>rfl⟩
   obtain ⟨fr,cs,s,dy,off⟩:=x
   simp only at hs hoff
   subst hs hoff
   rfl
  ·rename_i hn
   refine ⟨true,rfl,fun _=>trivial,fun h1 h2=>?_⟩
   exact absurd (by rcases h2 with h2|h2<;>simp [h1,h2]) hn
end
end Go.Ren
namespace Go.Ren
open Go.Conc hiding Goes mem_ofEvents
open Go.ConcN (sumTo upd upd_same upd_ne sumTo_congr sumTo_upd le_sumTo RelBy get_map_set get_map_set_same WgLive norel_of)
open Go.Conc.Lib (WgLink)
open Go.ConcR (KK WgAt stA smA rd wr mk g_of_ofEvents loc_of_ofEvent)
section
variable{P:Program}{L:WgLink}{Wg Ch cap n n0:Nat}{Sent:Nat→(Nat→Prop)→(Nat→Prop)→Option Value→World→Prop}{Fin:(Nat→Prop)→(Nat→Prop)→Goroutine→World→Prop}
 {W U:Nat→Prop} {j:Nat} {tag:MTag} {x0:Pos} {bl:Bool} {st:Nat→Nat} {xs ls:Nat→Pos} {O D:Nat→Nat→Prop} {gs:Array Goroutine} {w w':World} {sl:Option (Nat×Nat)} {t:Trace}
theorem grow_eq{O:Nat→Prop}{w w':World}(h:w'.heap.size=w.heap.size):grow O w w' = O:=by
 funext b
 apply propext
 unfold grow
 constructor
 ·rintro (x|x)
  ·exact x
  ·omega
 ·exact .inl
end
end Go.Ren
namespace Go.Ren
open Go.Conc hiding Goes mem_ofEvents
open Go.ConcN (sumTo upd upd_same upd_ne sumTo_congr sumTo_upd le_sumTo RelBy get_map_set get_map_set_same WgLive norel_of RelBy.book)
open Go.Conc.Lib (WgLink)
open Go.ConcR (KK WgAt stA smA rd wr mk g_of_ofEvents loc_of_ofEvent)
section
variable{W:Nat→Prop}{k:Nat}{Wg:Nat}{w:World}{t:Trace}{fn:FuncId}{pos:String}{es:Array Event}
def LibEv(Wg:Nat)(e:Event):Prop:=e.loc = .mark .disable∨e.loc = .mark .enable∨e=Go.ConcR.mk (.releaseMerge (stA Wg))∨e=Go.ConcR.mk (.acquire (stA Wg))∨∃a wr,e=⟨.cell a,wr,true⟩∧a.block=Wg
theorem libEv_ok(hW:W Wg)(hlt:Wg < w.heap.size){e:Event}(h:LibEv Wg e):XOk W k e∧(MemAct.ofEvent e).low w.heap.size:=by
 rcases h with h|h|rfl|rfl|⟨a,wr,rfl,ha⟩
 ·exact ⟨fun x hx=>(by rw [Go.ConcR.ofEvent_loc_mark h] at hx;cases hx),by rw [Go.ConcR.ofEvent_loc_mark h];trivial⟩
 ·exact ⟨fun x hx=>(by rw [Go.ConcR.ofEvent_loc_mark h] at hx;cases hx),by rw [Go.ConcR.ofEvent_loc_mark h];trivial⟩
 ·exact ⟨fun x hx=>by simp [Go.ConcR.mk,MemAct.ofEvent,MemAct.touch?] at hx,hlt⟩
 ·exact ⟨fun x hx=>by simp [Go.ConcR.mk,MemAct.ofEvent,MemAct.touch?] at hx,hlt⟩
 ·refine ⟨fun x hx=>?_,?_⟩
  ·have:x=⟨.cell a,wr,.atomic⟩:=by
    cases wr<;>simp [MemAct.ofEvent,MemAct.touch?] at hx<;>exact hx.symm
   subst this
   exact ⟨by show W a.block;rw [ha];exact hW,by simp,fun e=>by simp at e⟩
  ·cases wr<;>(show a.block < _;omega)
theorem xm_ok(hW:W Wg)(hlt:Wg < w.heap.size){e:Event}(h:XM Wg e):XOk W 0 e∧(MemAct.ofEvent e).low w.heap.size:=by
 rcases h with rfl|rfl|⟨a,ha,rfl|rfl⟩
 ·exact ⟨fun x hx=>by simp [Go.ConcR.mk,MemAct.ofEvent,MemAct.touch?] at hx,trivial⟩
 ·exact ⟨fun x hx=>by simp [Go.ConcR.mk,MemAct.ofEvent,MemAct.touch?] at hx,trivial⟩
 ·refine ⟨fun x hx=>?_,by show a.block < _;omega⟩
  simp only [MemAct.ofEvent,MemAct.touch?,Option.some.injEq] at hx
  subst hx
  exact ⟨by show W a.block;rw [ha];exact hW,by simp,fun _=>rfl⟩
 ·refine ⟨fun x hx=>?_,by show a.block < _;omega⟩
  simp only [MemAct.ofEvent,MemAct.touch?,Option.some.injEq] at hx
  subst hx
  exact ⟨by show W a.block;rw [ha];exact hW,by simp,fun _=>rfl⟩
theorem sem_lib:∀e∈semEvents (smA Wg),LibEv Wg e:=by
 intro e he
 simp [semEvents] at he
 rcases he with rfl|rfl|rfl|rfl
 ·exact .inl rfl
 ·exact .inr (.inr (.inr (.inr ⟨_,_,rfl,rfl⟩)))
 ·exact .inr (.inr (.inr (.inr ⟨_,_,rfl,rfl⟩)))
 ·exact .inr (.inl rfl)
theorem libEv_norel{e:Event}(h:LibEv Wg e)(ad:Addr):e.loc ≠ .mark (.release ad):=by
 rcases h with h|h|rfl|rfl|⟨a,wr,rfl,_⟩<;>first|(rw [h];simp)|simp [Go.ConcR.mk]
theorem xm_norel{e:Event}(h:XM Wg e)(ad:Addr):e.loc ≠ .mark (.release ad):=by
 rcases h with rfl|rfl|⟨a,_,rfl|rfl⟩<;>simp [Go.ConcR.mk]
theorem evO_norel{X:Event→Prop}{B:Nat}{O D:Nat→Prop}{e:Event}(h:EvO X B O D e)(hX:X e→∀a,e.loc ≠ .mark (.release a))(ad:Addr):e.loc ≠ .mark (.release ad):=by
 rcases h with h|h
 ·exact hX h.1 ad
 ·intro e'
  rw [e'] at h
  exact absurd h (by simp [okMark])
theorem Over.book{a:Addr}{r d:Nat}(h:Over a W t k r)(hW:W Wg)(hdk:Go.Conc.Deaf t k=d)(hes:∀e∈es,Go.ConcR.Bk Wg e)
  (hd:∀j e,es[j]? = some e→(MemAct.ofEvent e).touch? = none∨0 < deafBehind d (es.extract 0 j)):Over a W (t ++ MemOp.ofEvents k fn pos es) k r:=by
 refine ⟨h.rel.book hdk fn pos hes hd,fun i x hi hg hx=>?_⟩
 obtain ⟨op,h1,h2⟩:=of_g? hg
 rcases getElem?_append_cases h1 with ⟨hl,h1'⟩|⟨_,hou⟩
 ·refine h.mild i x hi (by rw [g?_of h1',h2]) ?_
  rw [touchAt_old hl] at hx
  exact hx
 ·rw [touchAt_of h1] at hx
  rw [ofEvents_eq] at hou
  obtain ⟨e,he,rfl⟩:=Array.mem_map.1 hou
  intro hm
  rcases hes e he with h3|h3|⟨a,wr,rfl,ha⟩
  ·rw [Go.ConcR.ofEvent_loc_mark h3] at hx;cases hx
  ·rw [Go.ConcR.ofEvent_loc_mark h3] at hx;cases hx
  ·have:x=⟨.cell a,wr,.atomic⟩:=by
    cases wr<;>simp [MemAct.ofEvent,MemAct.touch?] at hx<;>exact hx.symm
   subst this
   show W a.block
   rw [ha]
   exact hW
theorem Over.new{a:Addr}(hd:Go.Conc.Deaf t k=0):Over a W (t ++ MemOp.ofEvents k fn pos #[Go.ConcR.mk (.releaseMerge a)]) k t.size:=by
 refine ⟨RelBy.new hd fn pos,fun i x hi hg hx=>?_⟩
 obtain ⟨op,h1,_⟩:=of_g? hg
 have:=lt_size_of_getElem? h1
 have e1:(MemOp.ofEvents k fn pos #[Go.ConcR.mk (.releaseMerge a)]).size=1:=by rw [ofEvents_eq];simp
 rw [Array.size_append,e1] at this
 omega
end
section
variable{P:Program}{L:WgLink}{Wg Ch cap n n0:Nat}{Sent:Nat→(Nat→Prop)→(Nat→Prop)→Option Value→World→Prop}{Fin:(Nat→Prop)→(Nat→Prop)→Goroutine→World→Prop}
 {W U:Nat→Prop} {j:Nat} {tag:MTag} {x0:Pos} {bl:Bool} {st:Nat→Nat} {xs ls:Nat→Pos} {O D:Nat→Nat→Prop} {gs:Array Goroutine} {w w':World} {sl:Option (Nat×Nat)} {t:Trace}
theorem wgAt_size{st sm:Int}{ty:TypeId}(h:WgAt ty Wg w st sm):Wg < w.heap.size:=(Array.getElem?_eq_some_iff.1 h).1
theorem setCell_other{a:Addr}{v:Value}{b:Nat}(h:b≠a.block):(w.setCell a v).heap[b]? = w.heap[b]? :=(Go.Conc.aside_setCell w a v).block b h
theorem idle_none{m:Bool}{S:Nat→Goroutine→Prop}{d:Nat}{g:Goroutine}(h:IdleD P m (Lv L Wg) X0 S d g)(hl:Lv L Wg w):S d g∨(¬S d g∧∃g',stepG P m g w = .go g' w #[]∧IdleD P m (Lv L Wg) X0 S d g'):=by
 by_cases hS:S d g
 ·exact .inl hS
 ·cases h with
  |stop h=>exact absurd h hS
  |step hs f es h k=>
   have h1:=h w hl
   have he:es w = #[]:=Array.eq_empty_iff_forall_not_mem.2 fun e he=>(h1.2 e he).1
   have h2:=k w hl
   rw [he] at h1 h2
   exact .inr ⟨hS,_,h1.1,h2⟩
end
end Go.Ren
namespace Go.Ren
open Go.Conc hiding Goes mem_ofEvents
open Go.ConcN (sumTo upd upd_same upd_ne sumTo_congr sumTo_upd le_sumTo RelBy get_map_set get_map_set_same WgLive norel_of Deaf_absent)
open Go.Conc.Lib (WgLink)
open Go.ConcR (KK WgAt stA smA rd wr mk g_of_ofEvents loc_of_ofEvent)
section
variable{P:Program}{L:WgLink}{Wg Ch cap n n0:Nat}{Sent:Nat→(Nat→Prop)→(Nat→Prop)→Option Value→World→Prop}{Fin:(Nat→Prop)→(Nat→Prop)→Goroutine→World→Prop}
 {W U:Nat→Prop} {j:Nat} {tag:MTag} {x0:Pos} {bl:Bool} {st:Nat→Nat} {xs ls:Nat→Pos} {O D:Nat→Nat→Prop} {gs:Array Goroutine} {w w':World} {sl:Option (Nat×Nat)} {t:Trace}
theorem with_none(O:Nat→Nat→Prop)(i B:Nat):with_ O i B B=O:=by
 funext k b
 apply propext
 unfold with_
 constructor
 ·rintro (x|⟨_,x,y⟩)
  ·exact x
  ·omega
 ·exact .inl
theorem mute_bk{Wg:Nat}{e:Event}(h:e.mute=true):LibEv Wg e∧(MemAct.ofEvent e).touch? = none:=by
 obtain ⟨loc,wr,sy⟩:=e
 cases loc with
 |mark m=>cases m<;>first|exact ⟨.inl rfl,rfl⟩|exact ⟨.inr (.inl rfl),rfl⟩|simp [Event.mute] at h
 |_=>simp [Event.mute] at h
end
end Go.Ren
namespace Go.Ren
open Go.Conc hiding Goes mem_ofEvents
open Go.ConcN (sumTo upd upd_same upd_ne sumTo_congr sumTo_upd le_sumTo RelBy get_map_set get_map_set_same WgLive norel_of Deaf_absent)
open Go.Conc.Lib (WgLink)
open Go.ConcR (KK WgAt stA smA rd wr mk g_of_ofEvents loc_of_ofEvent)
section
variable{P:Program}{L:WgLink}{Wg Ch cap n n0:Nat}{Sent:Nat→(Nat→Prop)→(Nat→Prop)→Option Value→World→Prop}{Fin:(Nat→Prop)→(Nat→Prop)→Goroutine→World→Prop}
 {W U:Nat→Prop} {j:Nat} {tag:MTag} {x0:Pos} {bl:Bool} {st:Nat→Nat} {xs ls:Nat→Pos} {O D:Nat→Nat→Prop} {gs:Array Goroutine} {w w':World} {sl:Option (Nat×Nat)} {t:Trace}
theorem idle_step{m:Bool}{X:Event→Prop}{S:Nat→Goroutine→Prop}{d:Nat}{g:Goroutine}(h:IdleD P m (Lv L Wg) X S d g)(hl:Lv L Wg w) :
  S d g∨(¬S d g∧∃g' es,stepG P m g w = .go g' w es∧(∀e∈es,X e)∧IdleD P m (Lv L Wg) X S (deafBehind d es) g'):=by
 by_cases hS:S d g
 ·exact .inl hS
 ·cases h with
  |stop h=>exact absurd h hS
  |step hs f es h k=>exact .inr ⟨hS,_,_,(h w hl).1,fun e he=>((h w hl).2 e he).1,k w hl⟩
theorem bk_rw:∀e ∈ #[rd (stA Wg),wr (stA Wg)],LibEv Wg e∨XM Wg e:=by intro e he;simp at he;rcases he with rfl|rfl<;>exact .inl (.inr (.inr (.inr (.inr ⟨_,_,rfl,rfl⟩))))
theorem bk_r:∀e ∈ #[rd (stA Wg)],LibEv Wg e∨XM Wg e:=by intro e he;simp at he;subst he;exact .inl (.inr (.inr (.inr (.inr ⟨_,_,rfl,rfl⟩))))
theorem deaf_rw{a b:Addr}(d:Nat):deafBehind d #[rd a,wr b]=d:=deaf_still (by intro e he;simp at he;rcases he with rfl|rfl<;>exact ⟨by simp [rd,wr],by simp [rd,wr]⟩) d
theorem deaf_r{a:Addr}(d:Nat):deafBehind d #[rd a]=d:=deaf_still (by intro e he;simp at he;subst he;exact ⟨by simp [rd],by simp [rd]⟩) d
end
end Go.Ren
namespace Go.Ren
open Go.Conc hiding Goes mem_ofEvents
open Go.ConcN (sumTo upd upd_same upd_ne sumTo_congr sumTo_upd le_sumTo RelBy get_map_set get_map_set_same WgLive norel_of Deaf_absent)
open Go.Conc.Lib (WgLink)
open Go.ConcR (KK WgAt stA smA rd wr mk g_of_ofEvents loc_of_ofEvent)
section
variable{P:Program}{L:WgLink}{Wg Ch cap n n0:Nat}{Sent:Nat→(Nat→Prop)→(Nat→Prop)→Option Value→World→Prop}{Fin:(Nat→Prop)→(Nat→Prop)→Goroutine→World→Prop}
 {W U:Nat→Prop} {j:Nat} {tag:MTag} {x0:Pos} {bl:Bool} {st:Nat→Nat} {xs ls:Nat→Pos} {O D:Nat→Nat→Prop} {gs:Array Goroutine} {w w':World} {sl:Option (Nat×Nat)} {t:Trace}
abbrev Zp:=(MTag×Nat)×Pos
def mkv(n0:Nat)(tag:MTag)(x0:Pos)(st:Nat→Nat)(xs ls:Nat→Pos)(k:Nat):Zp:=
 if k=0 then ((tag,0),x0) else if k < n0 then ((.sp 0 0,0),ls k) else ((.sp 0 0,st (k - n0)),xs (k - n0))
end
end Go.Ren
namespace Go.Ren
open Go.Conc hiding Goes mem_ofEvents
open Go.ConcN (sumTo upd upd_same upd_ne get_map_set get_map_set_same WgLive Deaf_absent)
open Go.Conc.Lib (WgLink)
open Go.ConcR (KK WgAt stA smA rd wr g_of_ofEvents loc_of_ofEvent)
def Unt(U:Nat→Prop)(t:Trace):Prop:=∀i x,touchAt t i=some x→¬inB U x.loc
theorem Unt.app{U:Nat→Prop}{t u:Trace}(h:Unt U t)(hu:∀op∈u,∀x,op.act.touch? = some x→¬inB U x.loc):Unt U (t ++ u):=by
 intro i x hx
 obtain ⟨op,h1,h2⟩:=touch_of hx
 rcases getElem?_append_cases h1 with ⟨hl,h1'⟩|⟨_,hou⟩
 ·exact h i x (by rw [touchAt_of h1'];exact h2)
 ·exact hu op hou x h2
def oneO(O:Nat→Prop)(k b:Nat):Prop:=k=0∧O b
structure Al(P:Program)(W U:Nat→Prop)(N:Nat)(x0:Pos)(ls:Nat→Pos)(gs:Array Goroutine)(w:World)(t:Trace):Prop where
 hN:1≤N
 size:gs.size=N
 main:gs[0]? = some x0.g
 D0:x0.D=fun _=>False
 same:∃d,w=x0.w.at d
 deaf:Go.Conc.Deaf t 0=x0.d
 lv:∀k,1≤k→k < N→gs[k]? = some (ls k).g∧(∃q,QuitsD P q (ls k).d (ls k).g)∧Go.Conc.Deaf t k=(ls k).d∧Gone W t k
 ti:TI W (oneO x0.O) aloneD N w.heap.size t
 own:Own (fun b=>W b∨U b) (oneO x0.O) aloneD N w.heap.size
 unt:Unt U t
 wu:∀b,W b→¬U b
 norel:∀a,NoRelease a t
section
variable{P:Program}{W U:Nat→Prop}{N:Nat}{x0 x':Pos}{ls:Nat→Pos}{gs:Array Goroutine}{w w':World}{sl:Option (Nat×Nat)}{t:Trace}{FinP:Machine→Outcome→World→Trace→Prop}{K:Machine→Trace→Prop}
theorem Al.rely(h:Al P W U N x0 ls gs w t):Rely x0.O (fun _=>False) x0.w w:=by
 obtain ⟨d,rfl⟩:=h.same
 exact .draw _ d
theorem Al.at(h:Al P W U N x0 ls gs w t)(d:Nat):Al P W U N x0 ls gs (w.at d) t:=
 ⟨h.hN,h.size,h.main,h.D0,(let ⟨d',e⟩:=h.same;⟨d,by rw [e];rfl⟩),h.deaf,h.lv,h.ti,h.own,h.unt,h.wu,h.norel⟩
theorem Al.awake(h:Al P W U N x0 ls gs w t)(hr:x0.g.status = .running):∀g∈gs,awake g:=by
 intro g hg
 obtain ⟨k,hk⟩:=Array.mem_iff_getElem?.1 hg
 intro tm
 rcases Nat.eq_zero_or_pos k with rfl|hpos
 ·rw [h.main] at hk
  cases hk
  rw [hr];simp
 ·obtain ⟨h1,⟨q,h2⟩,_⟩:=h.lv k hpos (by rw [←h.size];exact (Array.getElem?_eq_some_iff.1 hk).1)
  rw [h1] at hk
  cases hk
  rcases h2.status with e|e<;>rw [e]<;>simp
theorem Al.pick(h:Al P W U N x0 ls gs w t)(hr:x0.g.status = .running):∃(i:Nat) (g:Goroutine) (d:Nat) (sl':Option (Nat×Nat)),gs[i]? = some g∧g.status = .running∧stepT P (crowd gs w sl)=runT P (crowd gs (w.at d) sl') i:=
 crowd_pick (h.awake hr) ⟨0,_,h.main,hr⟩
theorem Al.stepL(h:Al P W U N x0 ls gs w t)(hr0:x0.g.status = .running){k:Nat}(hk1:1≤k)(hk:k < N)(hr:(ls k).g.status = .running) :
  ∃gs' x' ops,runT P (crowd gs w sl) k=(.next (crowd gs' w sl),ops)∧NxQ P x' (ls k)∧Al P W U N x0 (upd ls k x') gs' w (t ++ ops):=by
 obtain ⟨hgk,⟨q,hq⟩,hdk,hgone⟩:=h.lv k hk1 hk
 rcases q with _|q
 ·have:=hq.1;rw [hr] at this;cases this
 rcases hq with ⟨h1,_⟩|⟨_,g',es,hmute,hgo,hq'⟩
 ·rw [hr] at h1;cases h1
 have hsz:=h.size
 have hpos:k≠0:=by omega
 have hgo':stepG P (k == 0) (ls k).g w = .go g' w es:=by
  have:(k == 0)=false:=by simp;omega
  rw [this];exact hgo w
 have hops:∀op∈MemOp.ofEvents k (ls k).g.frame.fn (ls k).g.frame.place es,op.g=k:=g_of_ofEvents
 have hnt:∀op∈MemOp.ofEvents k (ls k).g.frame.fn (ls k).g.frame.place es,op.act.touch? = none:=fun op hop=>by
  rw [ofEvents_eq] at hop
  obtain ⟨e,he,rfl⟩:=Array.mem_map.1 hop
  exact (mute_bk (Wg:=0) (hmute e he)).2
 have hG:GuarW (XOk W k) W (oneO x0.O k) (aloneD k) w w es:=guarW_said fun e he=>by
  have hm:=hmute e he
  obtain ⟨loc,wr,sy⟩:=e
  cases loc with
  |mark m=>cases m<;>first|exact ⟨fun x hx=>by simp [MemAct.ofEvent,MemAct.touch?] at hx,trivial⟩|simp [Event.mute] at hm
  |_=>simp [Event.mute] at hm
 have hti:=h.ti
 have hown:=h.own.less (W:=W) fun b x=>.inl x
 rw [←hsz] at hti hown
 obtain ⟨hrun,hti',_⟩:=core_step (sl:=sl) hgk hgo' hti hown hG
 rw [with_none,hsz] at hti'
 refine ⟨_,{ ls k with d:=deafBehind (ls k).d es,g:=g' },_,hrun,⟨hr,w,w,es,hgo w,rfl⟩,h.hN,by simpa using hsz,?_,h.D0,h.same,?_,fun i h1 h2=>?_,hti',h.own,h.unt.app fun op hop x hx=>(by rw [hnt op hop] at hx;cases hx),h.wu,norel_app h.norel (fun e he=>libEv_norel (Wg:=0) (mute_bk (hmute e he)).1)⟩
 ·rw [get_map_set _ _ _ _ hpos,h.main,Option.map_some,woken_running hr0]
 ·rw [Deaf_other t hpos _ hops];exact h.deaf
 ·by_cases e:i=k
  ·subst e
   rw [upd_same]
   refine ⟨get_map_set_same _ _ _ (by rw [hsz];omega),⟨q,hq'⟩,by rw [Deaf_own,hdk],hgone.app (fun p hp hg hc=>?_) (fun op hop _ x hx=>?_)⟩
   ·obtain ⟨op,a1,a2⟩:=of_g? hg
    obtain ⟨x,hx,_⟩:=hc
    rcases getElem?_append_cases a1 with ⟨hl,_⟩|⟨_,hou⟩
    ·omega
    ·have:touchAt (t ++ MemOp.ofEvents i (ls i).g.frame.fn (ls i).g.frame.place es) p=some x:=hx
     rw [touchAt_of a1,hnt op hou] at this
     cases this
   ·rw [hnt op hop] at hx;cases hx
  ·obtain ⟨a1,⟨q',a2⟩,a3,a4⟩:=h.lv i h1 h2
   rw [upd_ne ls _ e]
   refine ⟨?_,⟨q',a2⟩,by rw [Deaf_other t (by omega) _ hops];exact a3,a4.appNot fun op hop e'=>by rw [hops op hop] at e';omega⟩
   rw [get_map_set _ _ _ _ (by omega),a1,Option.map_some,woken_rf a2.status]
theorem Al.turn{J:World→Prop}(h:Al P W U N x0 ls gs w t)(hr0:x0.g.status = .running)(hJ:J w)(hJd:∀w d,J w→J (w.at d))
  (hk:∀ls gs w sl t,Al P W U N x0 ls gs w t→J w→(∃m' ops,runT P (crowd gs w sl) 0=(.next m',ops)∧K m' (t ++ ops))∨(∃o w' ops,runT P (crowd gs w sl) 0=(.ended o w',ops)∧∀m,m.gs=gs→m.rest.timers = #[]→FinP m o w' (t ++ ops))):Leads P FinP K (crowd gs w sl) t:=by
 have hacc:∀k,k < N→Acc (fun x' x:Pos=>k≠0∧NxQ P x' x) (ls k):=by
  intro k hkN
  rcases Nat.eq_zero_or_pos k with rfl|hpos
  ·exact .intro _ fun y hy=>absurd rfl hy.1
  ·obtain ⟨_,⟨q,hq⟩,_⟩:=h.lv k hpos hkN
   have:=quits_acc (P:=P) q (ls k) hq
   have e:(fun x' x:Pos=>k≠0∧NxQ P x' x)=NxQ P:=by
    funext a b;apply propext;exact ⟨fun x=>x.2,fun x=>⟨by omega,x⟩⟩
   rw [e]
   exact this
 refine Leads.of_acc (r:=Vec (fun k x' x=>k≠0∧NxQ P x' x) N) (J:=fun ls m t=>∃gs w sl,m=crowd gs w sl∧Al P W U N x0 ls gs w t∧J w) ?_ (acc_vec _ N ls hacc) ⟨gs,w,sl,rfl,h,hJ⟩
 clear turn h hJ hacc ls gs w sl t
 rintro ls m t ⟨gs,w,sl,rfl,h,hJ⟩
 obtain ⟨i,g,d,sl',hg,hrun,hstep⟩:=h.pick (sl:=sl) hr0
 rw [hstep]
 have h' :=h.at d
 right
 rcases Nat.eq_zero_or_pos i with rfl|hpos
 ·rcases hk ls gs (w.at d) sl' t h' (hJd w d hJ) with ⟨m',ops,h1,h2⟩|⟨o,w',ops,h1,h2⟩
  ·exact .inr ⟨m',ops,h1,.inl h2⟩
  ·exact .inl ⟨o,w',ops,h1,h2 _ rfl rfl⟩
 ·have hlt:i < N:=by rw [←h.size];exact (Array.getElem?_eq_some_iff.1 hg).1
  have hr:(ls i).g.status = .running:=by
   have:=(h.lv i hpos hlt).1
   rw [hg] at this
   cases this
   exact hrun
  obtain ⟨gs',x',ops,h2,h3,h4⟩:=h'.stepL (sl:=sl') hr0 hpos hlt hr
  exact .inr ⟨_,ops,h2,.inr ⟨upd ls i x',⟨i,hlt,by rw [upd_same];exact ⟨by omega,h3⟩,fun k hk=>upd_ne ls x' hk⟩,gs',_,sl',rfl,h4,hJd w d hJ⟩⟩
structure XAl(W:Nat→Prop)(X:Event→Prop):Prop where
 ok:∀e,X e→XOk W 0 e
 nr:∀e,X e→∀a,e.loc ≠ .mark (.release a)
theorem Al.own_step{X:Event→Prop}(hX:XAl W X)(h:Al P W U N x0 ls gs w t){es:Array Event}(hgo:stepG P true x0.g w = .go x'.g w' es)(hG:Guar X x0.O (fun _=>False) w w' es)(hd:x'.d=deafBehind x0.d es)(hO:x'.O=grow x0.O w w')(hD:x'.D=fun _=>False)(hw:x'.w=w') :
  ∃gs' ops,runT P (crowd gs w sl) 0=(.next (crowd gs' w' sl),ops)∧Al P W U N x' ls gs' w' (t ++ ops):=by
 have hsz:=h.size
 have hN:=h.hN
 have hoo:oneO x0.O 0=x0.O:=by funext b;apply propext;exact ⟨fun x=>x.2,fun x=>⟨rfl,x⟩⟩
 have hdd:aloneD 0=fun _=>False:=rfl
 have hGw:GuarW (XOk W 0) W (oneO x0.O 0) (aloneD 0) w w' es:=by rw [hoo,hdd];exact hG.wide hX.ok
 have hti:=h.ti
 have hown:=h.own.less (W:=W) fun b x=>.inl x
 rw [←hsz] at hti hown
 obtain ⟨hrun,hti',_⟩:=core_step (sl:=sl) (i:=0) h.main (by simpa using hgo) hti hown hGw
 rw [hsz] at hti'
 have hown' :=h.own.grow (i:=0) (by omega) hG.size
 have hwo:with_ (oneO x0.O) 0 w.heap.size w'.heap.size=oneO x'.O:=by
  funext k b
  apply propext
  unfold with_ oneO
  rw [hO]
  unfold grow
  constructor
  ·rintro (⟨a,b⟩|⟨a,b⟩)
   ·exact ⟨a,.inl b⟩
   ·exact ⟨a,.inr b⟩
  ·rintro ⟨a,b|b⟩
   ·exact .inl ⟨a,b⟩
   ·exact .inr ⟨a,b⟩
 rw [hwo] at hti' hown'
 have hops:∀op∈MemOp.ofEvents 0 x0.g.frame.fn x0.g.frame.place es,op.g=0:=g_of_ofEvents
 refine ⟨_,_,hrun,h.hN,by simpa using hsz,get_map_set_same _ _ _ (by rw [hsz];omega),hD,⟨w'.drawn,by rw [hw];rfl⟩,by rw [Deaf_own,h.deaf,hd],fun k h1 h2=>?_,hti',hown',h.unt.app fun op hop x hx=>?_,h.wu,norel_app h.norel fun e he=>evO_norel (hG.ev e he) (hX.nr e)⟩
 ·obtain ⟨a1,⟨q,a2⟩,a3,a4⟩:=h.lv k h1 h2
  exact ⟨by rw [get_map_set _ _ _ _ (by omega),a1,Option.map_some,woken_rf a2.status],⟨q,a2⟩,by rw [Deaf_other t (by omega) _ hops];exact a3,a4.appNot fun op hop e'=>by rw [hops op hop] at e';omega⟩
 ·rw [ofEvents_eq] at hop
  obtain ⟨e,he,rfl⟩:=Array.mem_map.1 hop
  have hev:=hG.ev e he
  intro hU
  rcases hev with ⟨h1,_⟩|h1
  ·obtain ⟨b,h2,h3⟩:=inB_both (hX.ok e h1 x hx).1 hU
   exact h.wu b h2 h3
  ·obtain ⟨loc,wr,sy⟩:=e
   cases loc with
   |cell a=>
    simp only [MemAct.ofEvent,MemAct.touch?,Option.some.injEq] at hx
    subst hx
    have hU':U a.block:=hU
    rcases h1 with h1|⟨h1,_⟩
    ·exact hown'.ow 0 a.block (by omega) ⟨rfl,by rw [hO];exact h1⟩ (.inr hU')
    ·exact h1
   |obj r=>
    have hl:x.loc = .obj r:=by
     cases wr<;>cases sy<;>simp only [MemAct.ofEvent,MemAct.touch?,Option.some.injEq,reduceCtorEq] at hx
     all_goals (subst hx;rfl)
    rw [hl] at hU
    rcases h1 with h1|⟨h1,_⟩
    ·exact hown'.ow 0 r (by omega) ⟨rfl,by rw [hO];exact h1⟩ (.inr hU)
    ·exact h1
   |mark m=>
    have hm:okMark m=true:=h1
    cases m<;>first|(simp [MemAct.ofEvent,MemAct.touch?] at hx;done)|cases hm
   |output=>
    simp only [MemAct.ofEvent,MemAct.touch?,Option.some.injEq] at hx
    subst hx
    exact hU
   |_=>exact absurd h1 id
end
end Go.Ren
namespace Go.Ren
open Go.Conc hiding Goes mem_ofEvents
open Go.ConcN (sumTo upd upd_same upd_ne get_map_set get_map_set_same WgLive Deaf_absent)
open Go.Conc.Lib (WgLink)
open Go.ConcR (KK WgAt stA smA rd wr g_of_ofEvents loc_of_ofEvent)
section
variable{P:Program}{W U:Nat→Prop}{N:Nat}{x0 x':Pos}{ls:Nat→Pos}{gs:Array Goroutine}{w w':World}{sl:Option (Nat×Nat)}{t:Trace}{FinP:Machine→Outcome→World→Trace→Prop}{K:Machine→Trace→Prop}
theorem handed(h:∀k,1≤k→k < N→Gone W t k)(hg:∀(i:Nat) (op:MemOp),t[i]? = some op→op.g < N):t.HandedOver:=by
 intro i g hgi hne hc
 obtain ⟨op,h1,h2⟩:=of_g? hgi
 exact (h g (by omega) (by rw [←h2];exact hg i op h1)).over i hgi hc
theorem Al.ends{Post:Value→World→Prop}{J:World→Prop}{X:Event→Prop}(hX:XAl W X)(h:Al P W U N x0 ls gs w t)(hr0:x0.g.status = .running)(hJ:J w)(hJd:∀w d,J w→J (w.at d))
  (hret:∀w₁,Rely x0.O (fun _=>False) x0.w w₁→J w₁→∃v w' es,stepG P true x0.g w₁ = .ended (.done v) w' es∧Guar X x0.O (fun _=>False) w₁ w' es∧Post v w'):Leads P (Good P Post) K (crowd gs w sl) t:=by
 refine h.turn hr0 hJ hJd fun ls gs w sl t h hJ=>.inr ?_
 obtain ⟨v,w',es,hgo,hG,hp⟩:=hret w h.rely hJ
 have hN:=h.hN
 have hoo:oneO x0.O 0=x0.O:=by funext b;apply propext;exact ⟨fun x=>x.2,fun x=>⟨rfl,x⟩⟩
 have hown:=h.own.less (W:=W) fun b x=>.inl x
 have hti:=h.ti.step (i:=0) (B' :=w'.heap.size) hown (by omega) hG.size (X:=XOk W 0) (fun e he=>he) (es:=es) (fn:=x0.g.frame.fn) (pos:=x0.g.frame.place) (fun e he=>by
  have:=hG.ev e he
  have e1:(fun b=>with_ (oneO x0.O) 0 w.heap.size w'.heap.size 0 b)=grow x0.O w w' :=by rw [with_self,hoo]
  rw [e1]
  exact this.imp (fun x=>⟨hX.ok e x.1,x.2⟩) id)
 have hops:∀op∈MemOp.ofEvents 0 x0.g.frame.fn x0.g.frame.place es,op.g=0:=g_of_ofEvents
 refine ⟨_,w',_,runT_many_ended (i:=0) h.main (by simpa using hgo),fun m hm htm=>⟨v,rfl,hp,hti.nr,handed (W:=W) (N:=N) (fun k h1 h2=>?_) hti.gs,⟨fun g hg=>?_,by rw [htm];rfl⟩,fun i g hg hne=>?_⟩⟩
 ·exact (h.lv k h1 h2).2.2.2.appNot fun op hop e'=>by rw [hops op hop] at e';omega
 ·rw [hm] at hg
  obtain ⟨i,hi,rfl⟩:=List.mem_iff_getElem.1 hg
  have hlt:1+i < gs.size:=by simp at hi;omega
  obtain ⟨h1,⟨q,h2⟩,_⟩:=h.lv (1+i) (by omega) (by rw [←h.size];exact hlt)
  have e:(gs.toList.drop 1)[i]=(ls (1+i)).g:=by
   rw [List.getElem_drop]
   have:=(Array.getElem?_eq_some_iff.1 h1).2
   simpa using this
  rw [e]
  exact ⟨q,h2.leaves⟩
 ·rw [hm] at hg
  have hlt:i < N:=by rw [←h.size];exact (Array.getElem?_eq_some_iff.1 hg).1
  obtain ⟨h1,⟨q,h2⟩,h3,_⟩:=h.lv i (by omega) hlt
  rw [hg] at h1
  cases h1
  refine ⟨q,?_⟩
  have e:(t ++ MemOp.ofEvents 0 x0.g.frame.fn x0.g.frame.place es).deaf i (t ++ MemOp.ofEvents 0 x0.g.frame.fn x0.g.frame.place es).size=(ls i).d:=by
   rw [←h3]
   exact Deaf_other t (by omega) _ hops
  rw [e]
  exact h2.hears _
theorem Al.fresh{J:World→Prop}{o:Obj}{g':Goroutine}(h:Al P W U N x0 ls gs w t)(hr0:x0.g.status = .running)(hJ:J w)(hJd:∀w d,J w→J (w.at d))
  (hgo:∀w₁,Rely x0.O (fun _=>False) x0.w w₁→J w₁→stepG P true x0.g w₁ = .go g' (w₁.alloc o) #[]) :
  Leads P FinP (fun m t=>∃w₁ ls gs sl,m=crowd gs (w₁.alloc o) sl∧J w₁∧Rely x0.O (fun _=>False) x0.w w₁∧Al P W (fun b=>U b∨b=w₁.heap.size) N ⟨x0.O,fun _=>False,x0.d,g',w₁.alloc o⟩ ls gs (w₁.alloc o) t) (crowd gs w sl) t:=by
 refine h.turn hr0 hJ hJd fun ls gs w sl t h hJ=>.inl ?_
 have hgo:=hgo w h.rely hJ
 have hN:=h.hN
 have hsz:=h.size
 have hrun:=runT_crowd_go (P:=P) (sl:=sl) (i:=0) h.main (by simpa using hgo)
 have e0:MemOp.ofEvents 0 x0.g.frame.fn x0.g.frame.place #[] = #[]:=rfl
 rw [e0] at hrun
 have hs:(w.alloc o).heap.size=w.heap.size+1:=by simp
 have hlow:∀b,((fun b=>W b∨U b∨b=w.heap.size) b)→b < w.heap.size+1:=by
  rintro b (hb|hb|rfl)
  ·exact Nat.lt_succ_of_lt (h.own.wlt b (.inl hb))
  ·exact Nat.lt_succ_of_lt (h.own.wlt b (.inr hb))
  ·omega
 refine ⟨_,_,hrun,w,ls,_,sl,rfl,hJ,h.rely,?_⟩
 rw [Array.append_empty]
 refine ⟨h.hN,by simpa using hsz,get_map_set_same _ _ _ (by rw [hsz];omega),rfl,⟨_,rfl⟩,h.deaf,fun k h1 h2=>?_,?_,?_,?_,?_,h.norel⟩
 ·obtain ⟨a1,⟨q,a2⟩,a3,a4⟩:=h.lv k h1 h2
  exact ⟨by rw [get_map_set _ _ _ _ (by omega),a1,Option.map_some,woken_rf a2.status],⟨q,a2⟩,a3,a4⟩
 ·exact ⟨h.ti.quiet,h.ti.own,h.ti.rd,h.ti.nr,h.ti.gs,fun op hop=>MemAct.low_mono (by rw [hs];omega) (h.ti.low op hop)⟩
 ·refine ⟨h.own.oo,h.own.od,fun i b hi ho hx=>?_,fun _ _ _ x=>x.elim,fun i b hi ho=>?_,fun _ _ _ x=>x.elim,fun b hb=>?_⟩
  ·rcases hx with hx|hx|hx
   ·exact h.own.ow i b hi ho (.inl hx)
   ·exact h.own.ow i b hi ho (.inr hx)
   ·have:=h.own.olt i b hi ho;omega
  ·have:=h.own.olt i b hi ho;rw [hs];omega
  ·rw [hs];exact hlow b hb
 ·intro i x hx hU
  obtain ⟨op,h1,h2⟩:=touch_of hx
  have hl:=h.ti.low op (Array.mem_of_getElem? h1)
  have hxl:x.loc.low w.heap.size:=by
   obtain ⟨g,fn,pos,act⟩:=op
   cases act with
   |access e=>simp only [MemAct.touch?,Option.some.injEq] at h2;subst h2;exact hl
   |mark m=>
    cases m<;>simp only [MemAct.touch?,Option.some.injEq,reduceCtorEq] at h2
    all_goals (subst h2;exact hl)
   |_=>simp [MemAct.touch?] at h2
  revert hU hxl
  have hun:=h.unt i x hx
  revert hun
  cases x.loc with
  |cell a=>
   rintro hun (hU|hU) hxl
   ·exact hun hU
   ·have:a.block < w.heap.size:=hxl;omega
  |obj r=>
   rintro hun (hU|hU) hxl
   ·exact hun hU
   ·have:r < w.heap.size:=hxl;omega
  |_=>intro _ hU _;exact hU
 ·rintro b hb (hU|rfl)
  ·exact h.wu b hb hU
  ·exact absurd (h.own.wlt _ (.inl hb)) (Nat.lt_irrefl _)
end
end Go.Ren
namespace Go.Ren
open Go.Conc hiding mem_ofEvents Deaf
open Go.ConcR (g_of_ofEvents loc_of_ofEvent)
section
variable{P:Program}{W U Z:Nat→Prop}{N:Nat}{d:Nat}{g:Goroutine}{w0 w:World}{ls:Nat→Pos}{gs:Array Goroutine}{sl:Option (Nat×Nat)}{t:Trace}{FinP:Machine→Outcome→World→Trace→Prop}
def full(Z:Nat→Prop)(w:World)(b:Nat):Prop:=b < w.heap.size∧¬Z b
theorem full_grow{Z:Nat→Prop}{w w':World}(hZ:∀b,Z b→b < w.heap.size)(hs:w.heap.size≤w'.heap.size):grow (full Z w) w w' = full Z w' :=by
 funext b
 apply propext
 unfold grow full
 constructor
 ·rintro (⟨h1,h2⟩|⟨h1,h2⟩)
  ·exact ⟨by omega,h2⟩
  ·exact ⟨h2,fun hz=>by have:=hZ b hz;omega⟩
 ·rintro ⟨h1,h2⟩
  rcases Nat.lt_or_ge b w.heap.size with hlt|hge
  ·exact .inl ⟨hlt,h2⟩
  ·exact .inr ⟨hge,h1⟩
theorem xal_none:XAl W X0:=⟨fun e h=>h.elim,fun e h=>h.elim⟩
def At(P:Program)(W U Z:Nat→Prop)(N:Nat)(d:Nat)(g:Goroutine)(w:World)(m:Machine)(t:Trace):Prop:=
 ∃(ls:Nat→Pos) (gs:Array Goroutine) (w₁:World) (sl:Option (Nat×Nat)),m=crowd gs w₁ sl∧Al P W U N ⟨full Z w,fun _=>False,d,g,w⟩ ls gs w₁ t
theorem at_start(g:Goroutine)(w:World):At P (fun _=>False) (fun _=>False) (fun _=>False) 1 0 g w (solo g w) #[]:=by
 have nt:∀(i:Nat) (op:MemOp),(#[]:Trace)[i]? = some op→False:=fun i op h=>by simp at h
 have ntt:∀(i:Nat) (a:Touch),touchAt (#[]:Trace) i=some a→False:=fun i a h=>by simp [touchAt,Trace.act?] at h
 refine ⟨fun _=>⟨fun _=>False,fun _=>False,0,g,w⟩,#[g],w,none,solo_eq_crowd g w,Nat.le_refl _,rfl,rfl,rfl,⟨w.drawn,rfl⟩,rfl,fun k h1 h2=>by omega,?_,?_,fun i x hx=>(ntt i x hx).elim,fun _ h=>h.elim,fun a i hi=>by simp [Trace.act?] at hi⟩
 ·refine ⟨fun i op x hi=>(nt i op hi).elim,fun i _ l _ j a ha=>(ntt j a ha).elim,fun i _ l _ j a ha=>(ntt j a ha).elim,fun said=>?_,fun i op hi=>(nt i op hi).elim,fun op hop=>by simp at hop⟩
  rintro ⟨i,j,_,⟨a,b,ha,_⟩,_⟩
  exact ntt i a ha
 ·exact ⟨fun i j b hi hj _ _=>by omega,fun _ _ _ _ _ _ x=>x,fun _ _ _ _ x=>x.elim id id,fun _ _ _ x=>x.elim,fun i b _ x=>x.2.1,fun _ _ _ x=>x.elim,fun b x=>x.elim False.elim False.elim⟩
theorem runs_of_leads{Post:Value→World→Prop}{g:Goroutine}{w:World}(h:Leads P (Good P Post) (fun _ _=>False) (solo g w) #[]) :
  ∃N last o w' t',runNT P (N+1) (solo g w) #[]=(.ended o w',t')∧runN P N (solo g w) = .next last∧step P last = .ended o w' ∧ Good P Post last o w' t' :=h.run
theorem At.ends{Post:Value→World→Prop}{K:Machine→Trace→Prop}{m:Machine}(hr:g.status = .running)(h:At P W U Z N d g w m t)
  (hret:∀d₁,∃v w' es,stepG P true g (w.at d₁) = .ended (.done v) w' es∧Guar X0 (full Z w) (fun _=>False) (w.at d₁) w' es∧Post v w'):Leads P (Good P Post) K m t:=by
 obtain ⟨ls,gs,w₁,sl,rfl,hal⟩:=h
 have hw:∃d₁,w₁=w.at d₁:=hal.same
 refine hal.ends (J:=fun w₁=>∃d₁,w₁=w.at d₁) xal_none hr hw (fun w' d' ⟨d₁,e⟩=>⟨d',by rw [e];rfl⟩) fun w' _ ⟨d₁,e⟩=>?_
 obtain ⟨v,w₂,es,a1,a2,a3⟩:=hret d₁
 rw [e]
 exact ⟨v,w₂,es,a1,a2,a3⟩
end
end Go.Ren
