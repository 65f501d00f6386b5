import Derived.Conc.JoinTrace
import Derived.Conc.WgGenN2
import Derived.Conc.WgGenWait
import Derived.Conc.CrowdComm
import Derived.Conc.CrowdStepC2
import Derived.Test.YtmgllphkofdnhaaGreatH11
set_option linter.unusedVariables false
set_option linter.unusedSectionVars false
set_option linter.unusedSimpArgs false
namespace Go.Ren
open Go.Conc hiding mem_ofEvents
open Go.ConcN (PermW RelBy)
section
variable{W:Nat→Prop}{O D:Nat→Nat→Prop}{n B:Nat}{t u:Trace}{a:Addr}{k r:Nat}
def Mild(W:Nat→Prop)(x:Touch):Prop:=x.loc.isMemory=true→inB W x.loc
structure Over(a:Addr)(W:Nat→Prop)(t:Trace)(k r:Nat):Prop where
 rel:RelBy a t k r
 mild:∀i x,r < i→t.g? i=some k→touchAt t i=some x→Mild W x
structure Gone(W:Nat→Prop)(t:Trace)(k:Nat):Prop where
 over:∀i,t.g? i=some k→t.counts i→∃j,t.g? j=some 0∧HappensBefore t i j
 known:∀i x,t.g? i=some k→touchAt t i=some x→¬Mild W x→Knows t 0 i
theorem g?_of{i:Nat}{op:MemOp}(h:t[i]? = some op):t.g? i=some op.g:=by simp [Trace.g?,h]
theorem of_g?{i g:Nat}(h:t.g? i=some g):∃op,t[i]? = some op∧op.g=g:=by
 unfold Trace.g? at h
 obtain ⟨op,h1,h2⟩:=Option.map_eq_some_iff.1 h
 exact ⟨op,h1,h2⟩
theorem lt_of_g?{i g:Nat}(h:t.g? i=some g):i < t.size:=by
 obtain ⟨op,h1,_⟩:=of_g? h
 exact lt_size_of_getElem? h1
theorem Over.app(h:Over a W t k r)(hu:∀i,t.size≤i→(t ++ u).g? i=some k→¬(t ++ u).counts i)(hm:∀op∈u,op.g=k→∀x,op.act.touch? = some x→Mild W x):Over a W (t ++ u) k r:=by
 refine ⟨h.rel.app hu,fun i x hi hg hx=>?_⟩
 obtain ⟨op,h1,h2⟩:=of_g? hg
 rcases getElem?_append_cases h1 with ⟨hl,h1'⟩|⟨_,hou⟩
 ·refine h.mild i x hi (by rw [g?_of h1',h2]) ?_
  rw [touchAt_old hl] at hx
  exact hx
 ·rw [touchAt_of h1] at hx
  exact hm op hou h2 x hx
theorem Over.appNot(h:Over a W t k r)(hu:∀op∈u,op.g≠k):Over a W (t ++ u) k r:=
 h.app (fun i hi hg=>by
  obtain ⟨op,h1,h2⟩:=of_g? hg
  rcases getElem?_append_cases h1 with ⟨hl,_⟩|⟨_,hou⟩
  ·omega
  ·exact absurd h2 (hu op hou)) (fun op hop e=>absurd e (hu op hop))
theorem Gone.app(h:Gone W t k)(hu:∀i,t.size≤i→(t ++ u).g? i=some k→¬(t ++ u).counts i)(hm:∀op∈u,op.g=k→∀x,op.act.touch? = some x→Mild W x):Gone W (t ++ u) k:=by
 refine ⟨fun i hg hc=>?_,fun i x hg hx hn=>?_⟩
 ·obtain ⟨op,h1,h2⟩:=of_g? hg
  rcases getElem?_append_cases h1 with ⟨hl,h1'⟩|⟨hl,hou⟩
  ·obtain ⟨j,h3,h4⟩:=h.over i (by rw [g?_of h1',h2]) ((counts_old hl).1 hc)
   exact ⟨j,by rw [g?_old (lt_of_g? h3)];exact h3,hb_app u h4⟩
  ·exact absurd hc (hu i hl hg)
 ·obtain ⟨op,h1,h2⟩:=of_g? hg
  rcases getElem?_append_cases h1 with ⟨hl,h1'⟩|⟨hl,hou⟩
  ·rw [touchAt_old hl] at hx
   exact (h.known i x (by rw [g?_of h1',h2]) hx hn).app u
  ·rw [touchAt_of h1] at hx
   exact absurd (hm op hou h2 x hx) hn
theorem Gone.appNot(h:Gone W t k)(hu:∀op∈u,op.g≠k):Gone W (t ++ u) k:=
 h.app (fun i hi hg=>by
  obtain ⟨op,h1,h2⟩:=of_g? hg
  rcases getElem?_append_cases h1 with ⟨hl,_⟩|⟨_,hou⟩
  ·omega
  ·exact absurd h2 (hu op hou)) (fun op hop e=>absurd e (hu op hop))
theorem Gone.widen{W':Nat→Prop}(h:Gone W t k)(hw:∀b,W b→W' b):Gone W' t k:=
 ⟨h.over,fun i x hg hx hn=>h.known i x hg hx fun hm=>hn fun hmem=>inB_mono hw (hm hmem)⟩
theorem Over.gone{z:MemOp}(h:Over a W t k r)(hz:z.g=0∧z.act = .mark (.acquire a))(hk:k≠0)(hn:NoRelease a t)(h0:Go.Conc.Deaf t 0=0):Gone W (t ++ #[z]) k:=by
 have hr:r < t.size:=lt_of_act? h.rel.act
 have hzp:(t ++ #[z])[t.size]? = some z:=by rw [Array.getElem?_append_right (Nat.le_refl _)];simp
 have hheard:(t ++ #[z]).heard t.size:=⟨0,by rw [g?_of hzp,hz.1],by rw [deaf_old (Nat.le_refl _)];exact h0⟩
 have edge:HappensBefore (t ++ #[z]) r t.size:=
  .single (.inr ⟨.marked hr (.inr (by rw [act?_old hr];exact h.rel.act)) (by rw [act?_of hzp,hz.2]) (fun i h1 h2=>by rw [act?_old h2];exact hn i),(heard_old hr).2 h.rel.heard,hheard⟩)
 have before:∀i,t.g? i=some k→i≤r→HappensBefore (t ++ #[z]) i t.size:=by
  intro i hg hi
  rcases Nat.lt_or_ge i r with hlt|hge
  ·have hit:=lt_of_g? hg
   exact .trans (.single (.inl ⟨hlt,k,by rw [g?_old hit];exact hg,by rw [g?_old hr];exact h.rel.g⟩)) edge
  ·obtain rfl:i=r:=by omega
   exact edge
 have old:∀i,(t ++ #[z]).g? i=some k→i < t.size∧t.g? i=some k:=by
  intro i hg
  obtain ⟨op,h1,h2⟩:=of_g? hg
  rcases getElem?_append_cases h1 with ⟨hl,h1'⟩|⟨_,hou⟩
  ·exact ⟨hl,by rw [g?_of h1',h2]⟩
  ·simp only [List.mem_toArray,List.mem_cons,List.not_mem_nil,or_false] at hou
   subst hou
   exact absurd (h2.symm.trans hz.1) hk
 refine ⟨fun i hg hc=>?_,fun i x hg hx hm=>?_⟩
 ·obtain ⟨hl,hg'⟩:=old i hg
  refine ⟨t.size,by rw [g?_of hzp,hz.1],before i hg' (Nat.le_of_not_lt fun hlt=>h.rel.after i hlt hg' ((counts_old hl).1 hc))⟩
 ·obtain ⟨hl,hg'⟩:=old i hg
  rw [touchAt_old hl] at hx
  exact ⟨t.size,z,hzp,hz.1,.inr (before i hg' (Nat.le_of_not_lt fun hlt=>hm (h.mild i x hlt hg' hx)))⟩
def aloneO(W:Nat→Prop)(B:Nat)(j b:Nat):Prop:=j=0∧b < B∧¬W b
def aloneD:Nat→Nat→Prop:=fun _ _=>False
theorem TI.alone(h:TI W O D n B t)(hg:∀k,k≠0→k < n→Gone W t k):TI W (aloneO W B) aloneD n B t:=by
 refine ⟨h.quiet,fun j hj l hl=>?_,fun j hj l hl=>?_,h.nr,h.gs,h.low⟩
 ·have e0:j=0:=by
   cases l<;>first|exact hl.1|exact hl.elim
  subst e0
  have hnl:l.isMemory=true∧¬inB W l:=by
   cases l<;>first|exact ⟨rfl,hl.2.2⟩|exact hl.elim
  intro i x hx e
  obtain ⟨op,h1,h2⟩:=touch_of hx
  by_cases hz:op.g=0
  ·rw [←hz];exact knows_own h1
  ·refine (hg op.g hz (h.gs i op h1)).known i x (g?_of h1) hx fun hm=>?_
   rw [←e] at hnl
   exact hnl.2 (hm hnl.1)
 ·cases l<;>exact hl.elim
theorem TI.less{O' D':Nat→Nat→Prop}(h:TI W O D n B t)(hO:∀i b,O' i b→O i b)(hD:∀i b,D' i b→D i b∨O i b):TI W O' D' n B t:=
 ⟨h.quiet,fun i hi l hl=>h.own i hi l (inB_mono (hO i) hl),fun i hi l hl=>(inB_or (hD i) hl).elim (h.rd i hi l) (fun x=>PermW.of (h.own i hi l x)),h.nr,h.gs,h.low⟩
theorem TI.share{S:Nat→Prop}(h:TI W O D n B t)(hq:Quiet (inB S) t):TI (fun b=>W b∨S b) O D n B t:=
 ⟨fun i op x hi hx hs=>(inB_or (T:=W) (U:=S) (fun _ y=>y) hs).elim (h.quiet i op x hi hx) (hq i op x hi hx),h.own,h.rd,h.nr,h.gs,h.low⟩
theorem TI.still(h:TI W O D n B t){z:MemOp}(hg:z.g < n)(hn:z.act.touch? = none)(hl:z.act.low B):TI W O D n B (t ++ #[z]):=by
 have nt:∀op ∈ #[z],∀b,op.act.touch? = some b→False:=fun op hop b hb=>by
  simp only [List.mem_toArray,List.mem_cons,List.not_mem_nil,or_false] at hop
  subst hop
  rw [hn] at hb
  cases hb
 refine ⟨h.quiet.app fun op hop b hb _=>(nt op hop b hb).elim,fun i hi l hl=>(h.own i hi l hl).app fun op hop b hb _=>(nt op hop b hb).elim,fun i hi l hl=>(h.rd i hi l hl).app fun op hop b hb _ _=>(nt op hop b hb).elim,
  fun said=>noRace_append (g:=z.g) (h.nr said) (fun op hop=>by simp at hop;rw [hop]) (fun i a _ op hop b hb _=>(nt op hop b hb).elim),fun i op hi=>?_,fun op hop=>?_⟩
 ·rcases getElem?_append_cases hi with ⟨_,hi'⟩|⟨_,hiu⟩
  ·exact h.gs i op hi'
  ·simp only [List.mem_toArray,List.mem_cons,List.not_mem_nil,or_false] at hiu
   subst hiu
   exact hg
 ·rcases Array.mem_append.1 hop with h1|h1
  ·exact h.low op h1
  ·simp only [List.mem_toArray,List.mem_cons,List.not_mem_nil,or_false] at h1
   subst h1
   exact hl
end
end Go.Ren
namespace Go.Ren
open Go.Conc hiding Goes
section
variable{P:Program}{m:Bool}{I:World→Prop}{X:Event→Prop}{D:Nat→Prop}{S T:Goroutine→Prop}{g g':Goroutine}
inductive Idle(P:Program)(m:Bool)(I:World→Prop)(X:Event→Prop)(S:Goroutine→Prop):Goroutine→Prop
 |stop {g:Goroutine} (h:S g):Idle P m I X S g
 |step {g:Goroutine} (hs:g.status = .running) (f:World→Goroutine) (es:World→Array Event) (h:∀w,I w→stepG P m g w = .go (f w) w (es w)∧∀e∈es w,X e∧(MemAct.ofEvent e).low w.heap.size)
   (k:∀w,I w→Idle P m I X S (f w)):Idle P m I X S g
theorem Idle.mk(hs:g.status = .running)(h:∀w,I w→(stepG P m g w).goes fun g' w' es=>w' = w∧(∀e∈es,X e∧(MemAct.ofEvent e).low w.heap.size)∧Idle P m I X S g'):Idle P m I X S g:=by
 have h':∀w,∃x:Goroutine×Array Event,I w→stepG P m g w = .go x.1 w x.2∧(∀e∈x.2,X e∧(MemAct.ofEvent e).low w.heap.size)∧Idle P m I X S x.1:=by
  intro w
  by_cases hi:I w
  ·have:=h w hi
   cases e:stepG P m g w with
   |go g' w' es=>
    rw [e,goes_go] at this
    obtain ⟨rfl,h2,h3⟩:=this
    exact ⟨(g',es),fun _=>⟨rfl,h2,h3⟩⟩
   |_=>rw [e] at this;exact this.elim
  ·exact ⟨(g,#[]),fun x=>absurd x hi⟩
 refine .step hs (fun w=>(Classical.choose (h' w)).1) (fun w=>(Classical.choose (h' w)).2) (fun w hi=>?_) (fun w hi=>?_)
 ·have:=Classical.choose_spec (h' w) hi;exact ⟨this.1,this.2.1⟩
 ·have:=Classical.choose_spec (h' w) hi;exact this.2.2
theorem Idle.go(hs:g.status = .running)(h:∀w,I w→stepG P m g w = .go g' w #[])(k:Idle P m I X S g'):Idle P m I X S g:=
 .step hs (fun _=>g') (fun _=>#[]) (fun w hi=>⟨h w hi,by simp⟩) (fun _ _=>k)
theorem Idle.says{es:Array Event}(hs:g.status = .running)(h:∀w,I w→stepG P m g w = .go g' w es)(hX:∀w,I w→∀e∈es,X e∧(MemAct.ofEvent e).low w.heap.size)(k:Idle P m I X S g'):Idle P m I X S g:=
 .step hs (fun _=>g') (fun _=>es) (fun w hi=>⟨h w hi,hX w hi⟩) (fun _ _=>k)
theorem Idle.bind(h:Idle P m I X S g)(k:∀g,S g→Idle P m I X T g):Idle P m I X T g:=by
 induction h with
 |stop h=>exact k _ h
 |step hs f es h _ ih=>exact .step hs f es h ih
theorem Idle.mono(h:Idle P m I X S g)(k:∀g,S g→T g):Idle P m I X T g:=h.bind fun g x=>.stop (k g x)
theorem quiet{X:Event→Prop}{w:World}:∀e∈(#[]:Array Event),X e∧(MemAct.ofEvent e).low w.heap.size:=by simp
theorem quiet_of{X:Event→Prop}{w:World}{es:Array Event}(h:∀e∈es,False):∀e∈es,X e∧(MemAct.ofEvent e).low w.heap.size:=fun e he=>(h e he).elim
def Says(P:Program)(m:Bool)(I:World→Prop)(es:Array Event)(T:Goroutine→Prop)(g:Goroutine):Prop:=
 g.status = .running∧∃g',(∀w,I w→stepG P m g w = .go g' w es)∧T g'
def Turns(P:Program)(m:Bool)(I pre:World→Prop)(upd:World→World)(es:Array Event)(T:Goroutine→Prop)(g:Goroutine):Prop:=
 ∃g',(∀w,I w→pre w→stepG P m g w = .go g' (upd w) es)∧T g'
end
end Go.Ren
namespace Go.Ren
open Go.Conc hiding Goes mem_ofEvents Deaf
open Go.ConcN (WgLive)
open Go.ConcR (KK WgAt stA smA rd wr mk deafBehind_cons deafBehind_one)
section
variable{τ α:Type _}
def Ord(rk:τ→Nat)(Seat:τ→α→Prop)(Nx:τ→α→α→Prop)(x' x:τ×α):Prop:=(rk x'.1 < rk x.1∧Seat x'.1 x'.2)∨(x'.1=x.1∧Nx x.1 x'.2 x.2)
theorem ord_acc{rk:τ→Nat}{Seat:τ→α→Prop}{Nx:τ→α→α→Prop}(h:∀s x,Seat s x→Acc (Nx s) x):∀(k:Nat) (s:τ) (x:α),rk s=k→Seat s x→Acc (Ord rk Seat Nx) (s,x):=by
 intro k
 induction k using Nat.strongRecOn with
 |_ k ih=>
  intro s x hk hs
  have:=h s x hs
  clear hs
  induction this with
  |intro x _ ihx=>
   refine .intro _ ?_
   rintro ⟨s',x'⟩ (⟨hlt,hseat⟩|⟨he,hn⟩)
   ·exact ih (rk s') (by have:rk s' < rk s:=hlt;omega) s' x' rfl hseat
   ·obtain rfl:s' = s:=he
    exact ihx x' hn
end
section
variable{P:Program}{m:Bool}{I:World→Prop}{X X':Event→Prop}{O D:Nat→Prop}{w w₁:World}{g g':Goroutine}{d:Nat}{es:Array Event}
def hearing(e:Event):Prop:=e.loc ≠ .mark .disable∧e.loc ≠ .mark .enable
theorem deaf_still(h:∀e∈es,hearing e)(d:Nat):deafBehind d es=d:=by
 obtain ⟨l⟩:=es
 induction l with
 |nil=>rfl
 |cons e l ih=>
  rw [deafBehind_cons,deafBehind_one (h e (by simp)).1 (h e (by simp)).2]
  exact ih fun x hx=>h x (by simp at hx ⊢;exact .inr hx)
theorem EvO.hearing{B:Nat}{e:Event}(h:EvO X B O D e)(hX:X e→hearing e):hearing e:=by
 rcases h with h|h
 ·exact hX h.1
 ·obtain ⟨loc,wr,sy⟩:=e
  cases loc with
  |mark m=>
   have hm:okMark m=true:=h
   cases m<;>first|(exfalso;cases hm;done)|exact ⟨by simp,by simp⟩
  |_=>exact ⟨by simp,by simp⟩
inductive WkD(P:Program)(m:Bool)(I:World→Prop)(X:Event→Prop)(D:Nat→Prop)(Stop:Nat→(Nat→Prop)→Goroutine→World→Prop):Nat→(Nat→Prop)→Goroutine→World→Prop
 |stop {d:Nat} {O:Nat→Prop} {g:Goroutine} {w:World} (h:Stop d O g w):WkD P m I X D Stop d O g w
 |step {d:Nat} {O:Nat→Prop} {g:Goroutine} {w:World} (hs:g.status = .running) (f:World→Goroutine) (u:World→World) (es:World→Array Event)
   (h:∀w₁,Rely O D w w₁→I w₁→stepG P m g w₁ = .go (f w₁) (u w₁) (es w₁)∧Guar X O D w₁ (u w₁) (es w₁))
   (k:∀w₁,Rely O D w w₁→I w₁→WkD P m I X D Stop (deafBehind d (es w₁)) (grow O w₁ (u w₁)) (f w₁) (u w₁)):WkD P m I X D Stop d O g w
variable{Stop Stop':Nat→(Nat→Prop)→Goroutine→World→Prop}
theorem WkD.bind(h:WkD P m I X D Stop d O g w)(k:∀d O g w,Stop d O g w→WkD P m I X D Stop' d O g w):WkD P m I X D Stop' d O g w:=by
 induction h with
 |stop h=>exact k _ _ _ _ h
 |step hs f u es h _ ih=>exact .step hs f u es h fun w₁ hr hi=>ih w₁ hr hi
theorem WkD.mono(h:WkD P m I X D Stop d O g w)(k:∀d O g w,Stop d O g w→Stop' d O g w):WkD P m I X D Stop' d O g w:=h.bind fun d O g w x=>.stop (k d O g w x)
theorem Wk.deaf{S:(Nat→Prop)→Goroutine→World→Prop}(hX:∀e,X e→hearing e)(hX':∀e,X e→X' e)(d:Nat)(h:Wk P m I X D S O g w):WkD P m I X' D (fun d' O g w=>d' = d∧S O g w) d O g w:=by
 induction h with
 |stop h=>exact .stop ⟨rfl,h⟩
 | @step O g w hs f u es h _ ih=>
  refine .step hs f u es (fun w₁ hr hi=>⟨(h w₁ hr hi).1,?_⟩) fun w₁ hr hi=>?_
  ·have hG:=(h w₁ hr hi).2
   exact ⟨hG.size,hG.heap,hG.os,hG.output,hG.tape,fun e he=>(hG.ev e he).imp (fun x=>⟨hX' e x.1,x.2⟩) id⟩
  ·rw [deaf_still (fun e he=>((h w₁ hr hi).2.ev e he).hearing (hX e)) d]
   exact ih w₁ hr hi
inductive IdleD(P:Program)(m:Bool)(I:World→Prop)(X:Event→Prop)(S:Nat→Goroutine→Prop):Nat→Goroutine→Prop
 |stop {d:Nat} {g:Goroutine} (h:S d g):IdleD P m I X S d g
 |step {d:Nat} {g:Goroutine} (hs:g.status = .running) (f:World→Goroutine) (es:World→Array Event) (h:∀w,I w→stepG P m g w = .go (f w) w (es w)∧∀e∈es w,X e∧(MemAct.ofEvent e).low w.heap.size)
   (k:∀w,I w→IdleD P m I X S (deafBehind d (es w)) (f w)):IdleD P m I X S d g
variable{S T:Nat→Goroutine→Prop}
theorem IdleD.bind(h:IdleD P m I X S d g)(k:∀d g,S d g→IdleD P m I X T d g):IdleD P m I X T d g:=by
 induction h with
 |stop h=>exact k _ _ h
 |step hs f es h _ ih=>exact .step hs f es h ih
theorem IdleD.mono(h:IdleD P m I X S d g)(k:∀d g,S d g→T d g):IdleD P m I X T d g:=h.bind fun d g x=>.stop (k d g x)
theorem Idle.deaf{S:Goroutine→Prop}(hX:∀e,X e→hearing e)(hX':∀e,X e→X' e)(d:Nat)(h:Idle P m I X S g):IdleD P m I X' (fun d' g=>d' = d∧S g) d g:=by
 induction h with
 |stop h=>exact .stop ⟨rfl,h⟩
 | @step g hs f es h _ ih=>
  refine .step hs f es (fun w hi=>⟨(h w hi).1,fun e he=>⟨hX' e ((h w hi).2 e he).1,((h w hi).2 e he).2⟩⟩) fun w hi=>?_
  rw [deaf_still (fun e he=>hX e ((h w hi).2 e he).1) d]
  exact ih w hi
theorem Says.deaf{T:Goroutine→Prop}(hX:∀w,I w→∀e∈es,X e∧(MemAct.ofEvent e).low w.heap.size)(h:Says P m I es T g)(k:∀g,T g→IdleD P m I X S (deafBehind d es) g):IdleD P m I X S d g:=by
 obtain ⟨hs,g',hg,ht⟩:=h
 exact .step hs (fun _=>g') (fun _=>es) (fun w hi=>⟨hg w hi,hX w hi⟩) fun w hi=>k g' ht
theorem grow_same(O:Nat→Prop)(w:World):grow O w w=O:=by
 funext b
 apply propext
 unfold grow
 constructor
 ·rintro (x|x)
  ·exact x
  ·omega
 ·exact .inl
theorem IdleD.wkD{I':World→Prop}(h:IdleD P m I X S d g)(hI:∀w,I' w→I w):WkD P m I' X D (fun d' O' g' w'=>S d' g' ∧ O' = O∧Rely O D w w') d O g w:=by
 have key:∀ {d:Nat} {g:Goroutine},IdleD P m I X S d g→∀w',Rely O D w w' → WkD P m I' X D (fun d' O' g' w'=>S d' g' ∧ O' = O∧Rely O D w w') d O g w' :=by
  intro d g h
  induction h with
  |stop h=>intro w' r;exact .stop ⟨h,rfl,r⟩
  | @step d g hs f es h _ ih=>
   intro w' r
   refine .step hs f id es (fun w₁ hr hi=>⟨(h w₁ (hI w₁ hi)).1,⟨Nat.le_refl _,fun _ _ _=>rfl,rfl,rfl,rfl,fun e he=>.inl ((h w₁ (hI w₁ hi)).2 e he)⟩⟩) fun w₁ hr hi=>?_
   show WkD P m I' X D _ _ (grow O w₁ w₁) _ _
   rw [grow_same]
   exact ih w₁ (hI w₁ hi) w₁ (r.trans hr)
 exact key h w (.refl w)
structure Pos where
 O:Nat→Prop
 D:Nat→Prop
 d:Nat
 g:Goroutine
 w:World
def NxD(P:Program)(m:Bool)(I:World→Prop)(Stop:(Nat→Prop)→Nat→(Nat→Prop)→Goroutine→World→Prop)(x' x:Pos):Prop:=
 x'.D=x.D∧¬Stop x.D x.d x.O x.g x.w∧∃w₁ es,Rely x.O x.D x.w w₁∧I w₁∧stepG P m x.g w₁ = .go x'.g x'.w es∧x'.O=grow x.O w₁ x'.w∧x'.d=deafBehind x.d es
theorem WkD.acc{St:(Nat→Prop)→Nat→(Nat→Prop)→Goroutine→World→Prop}(h:WkD P m I X D (St D) d O g w):Acc (NxD P m I St) ⟨O,D,d,g,w⟩:=by
 induction h with
 |stop h=>exact .intro _ fun x hx=>absurd h hx.2.1
 | @step d O g w hs f u es h _ ih=>
  refine .intro _ fun x hx=>?_
  obtain ⟨hD,_,w₁,es',hr,hi,hst,hO,hd⟩:=hx
  obtain ⟨O',D',d',g',w'⟩:=x
  dsimp only at hr hst hO hd hD
  rw [(h w₁ hr hi).1] at hst
  injection hst with h1 h2 h3
  subst h1 h2 h3 hO hd hD
  exact ih w₁ hr hi
def NxI(P:Program)(m:Bool)(I:World→Prop)(S:Nat→Goroutine→Prop)(x' x:Pos):Prop:=
 ¬S x.d x.g∧∃w₁ w₂ es,I w₁∧stepG P m x.g w₁ = .go x'.g w₂ es∧x'.d=deafBehind x.d es
theorem IdleD.acc(h:IdleD P m I X S d g):∀x:Pos,x.d=d→x.g=g→Acc (NxI P m I S) x:=by
 induction h with
 | @stop d g h=>intro x e1 e2;exact .intro _ fun y hy=>absurd (by rw [e1,e2];exact h) hy.1
 | @step d g hs f es h _ ih=>
  intro x e1 e2
  refine .intro _ fun y hy=>?_
  obtain ⟨_,w₁,w₂,es',hi,hst,hd⟩:=hy
  rw [e2,(h w₁ hi).1] at hst
  injection hst with h1 h2 h3
  subst h2 h3
  exact ih w₁ hi y (by rw [hd,e1]) h1.symm
def NxQ(P:Program)(x' x:Pos):Prop:=x.g.status = .running∧∃w₁ w₂ es,stepG P false x.g w₁ = .go x'.g w₂ es∧x'.d=deafBehind x.d es
theorem quits_acc:∀(q:Nat) (x:Pos),QuitsD P q x.d x.g→Acc (NxQ P) x
 |0,x,h=>.intro _ fun y hy=>by have:=h.1;rw [hy.1] at this;cases this
 |q+1,x,h=>by
  refine .intro _ fun y hy=>?_
  obtain ⟨hr,w₁,w₂,es,hst,hd⟩:=hy
  rcases h with ⟨h1,_⟩|⟨_,g',es',_,h3,h4⟩
  ·rw [hr] at h1;cases h1
  ·rw [h3 w₁] at hst
   injection hst with a1 a2 a3
   subst a3
   exact quits_acc q y (by rw [hd,←a1];exact h4)
end
end Go.Ren
namespace Go.Ren
open Go.Conc hiding Goes
open Go.ConcR (DC0)
section
variable{P:Program}{m:Bool}{I:World→Prop}{X:Event→Prop}{S T:Goroutine→Prop}{g g':Goroutine}
def RU(I:World→Prop)(_ w₁:World):Prop:=I w₁
theorem idle_of_goes(hi:∃w,I w):∀ {n:Nat} {g:Goroutine} {w:World},Go.Conc.Goes P m (RU I) DC0 (fun g _=>S g) n g w→Idle P m I X S g
 |0,g,w,h=>let ⟨w₁,h₁⟩:=hi;.stop (h w₁ h₁)
 |n+1,g,w,h=>by
  rcases h with h|⟨hs,h⟩
  ·obtain ⟨w₁,h₁⟩:=hi
   exact .stop (h w₁ h₁)
  ·refine Idle.mk hs fun w₁ h₁=>?_
   have:=h w₁ h₁
   revert this
   cases stepG P m g w₁<;>simp only [GStep.goes,imp_self]
   rintro ⟨⟨rfl,rfl⟩,k⟩
   exact ⟨rfl,by simp,idle_of_goes hi k⟩
theorem idle_goes(n:Nat)(h:∀w,I w→Go.Conc.Goes P m (RU I) DC0 (fun g _=>S g) n g w)(hi:∃w,I w):Idle P m I X S g:=let ⟨w,hw⟩:=hi;idle_of_goes hi (h w hw)
end
end Go.Ren
namespace Go.Ren
open Go.Conc hiding Goes
open Go.Conc.Lib Go.ConcR.Gen Go.RowKit Go.ConcN Go.ConcN.Gen
open Go.ConcR (KK wgBlock WgAt stA smA rd wr mk DC0)
section
variable{P:Program}{m:Bool}{X:Event→Prop}{L:WgLink}{Wg:Nat}{S T:Goroutine→Prop}
def Lv(L:WgLink)(Wg:Nat)(w:World):Prop:=WgLive L.tWg Wg w
def AddAt(P:Program)(m:Bool)(X:Event→Prop)(L:WgLink)(Wg:Nat)(T:Goroutine→Prop)(g:Goroutine):Prop:=
 g.status = .running∧∀v:Nat,v < 2147483647→Turns P m (Lv L Wg) (fun w=>WgAt L.tWg Wg w (v * KK) 0) (fun w=>w.setCell (stA Wg) (.int .u64 ((v+1) * KK))) #[rd (stA Wg),wr (stA Wg)] (Idle P m (Lv L Wg) X (Says P m (Lv L Wg) #[mk .enable] (Idle P m (Lv L Wg) X T))) g
def AddS(P:Program)(m:Bool)(X:Event→Prop)(L:WgLink)(Wg:Nat)(T:Goroutine→Prop):Goroutine→Prop:=
 Idle P m (Lv L Wg) X (Says P m (Lv L Wg) #[mk .disable] (Idle P m (Lv L Wg) X (AddAt P m X L Wg T)))
theorem live_lt{ty:TypeId}{w:World}(h:WgLive ty Wg w):Wg < w.heap.size:=by
 obtain ⟨st,sm,h⟩:=h
 exact (Array.getElem?_eq_some_iff.1 h).1
def WaitEnd(P:Program)(m:Bool)(X:Event→Prop)(L:WgLink)(Wg:Nat)(T:Goroutine→Prop):Goroutine→Prop:=
 Says P m (Lv L Wg) #[mk .enable] (Idle P m (Lv L Wg) X (Says P m (Lv L Wg) #[mk (.acquire (stA Wg))] (Idle P m (Lv L Wg) X T)))
def Wait4(P:Program)(m:Bool)(X:Event→Prop)(L:WgLink)(Wg:Nat)(T:Goroutine→Prop):Goroutine→Prop:=fun g=>
 g.status = .running∧Turns P m (Lv L Wg) (fun w=>WgAt L.tWg Wg w 0 0) (fun w=>w) #[rd (stA Wg)] (Idle P m (Lv L Wg) X (WaitEnd P m X L Wg T)) g
def Wait3(P:Program)(m:Bool)(X:Event→Prop)(L:WgLink)(Wg:Nat)(T:Goroutine→Prop):Goroutine→Prop:=fun g=>
 g.status = .running∧g.offers=none∧(∀w st,WgAt L.tWg Wg w st 0→stepG P m g w = .go { g with status:=.blocked } w #[]) ∧
 Turns P m (Lv L Wg) (fun w=>WgAt L.tWg Wg w 0 1) (fun w=>w.setCell (smA Wg) (.int .u32 0)) (semEvents (smA Wg)) (Idle P m (Lv L Wg) X (Wait4 P m X L Wg T)) g
def WaitHead(L:WgLink)(Wg:Nat)(c:Frame)(cs:List Frame)(g:Goroutine):Prop:=
 ∃A:Array Value,g=G ((base L.wait).at ⟨A,[]⟩ [.code (L7 L),.inLoop (L7 L),.inBlock 0]) (c :: cs)∧A.size=84∧A[0]? = some (.pointer (some ⟨Wg,0,none⟩))
def Wait2(P:Program)(m:Bool)(X:Event→Prop)(L:WgLink)(Wg:Nat)(T A:Goroutine→Prop)(vs:Nat):Goroutine→Prop:=fun g=>
 g.status = .running∧∀v:Nat,v < 2147483648 →
  (v=vs→Turns P m (Lv L Wg) (fun w=>WgAt L.tWg Wg w (v * KK) 0) (fun w=>w.setCell (stA Wg) (.int .u64 (v * KK+1))) #[rd (stA Wg),wr (stA Wg)] (Idle P m (Lv L Wg) X (Wait3 P m X L Wg T)) g) ∧
  (v≠vs→Turns P m (Lv L Wg) (fun w=>WgAt L.tWg Wg w (v * KK) 0) (fun w=>w) #[rd (stA Wg)] (Idle P m (Lv L Wg) X A) g)
def Wait1(P:Program)(m:Bool)(X:Event→Prop)(L:WgLink)(Wg:Nat)(T A:Goroutine→Prop):Goroutine→Prop:=fun g=>
 g.status = .running∧∀v:Nat,v < 2147483648→Turns P m (Lv L Wg) (fun w=>WgAt L.tWg Wg w (v * KK) 0) (fun w=>w) #[rd (stA Wg)]
  (fun g'=>(v=0→Idle P m (Lv L Wg) X (WaitEnd P m X L Wg T) g')∧(v≠0→Idle P m (Lv L Wg) X (Wait2 P m X L Wg T A v) g')) g
end
end Go.Ren
namespace Go.Ren
open Go.Conc hiding Goes mem_ofEvents Deaf
open Go.ConcN (WgLive)
open Go.Conc.Lib (WgLink)
open Go.ConcR (KK WgAt stA smA rd wr mk)
def X0(_:Event):Prop:=False
def XD(e:Event):Prop:=e=mk .disable
def XM(Wg:Nat)(e:Event):Prop:=e=mk .disable∨e=mk .enable∨∃a:Addr,a.block=Wg∧(e=⟨.mark (.read a),false,true⟩∨e=⟨.mark (.write a),false,true⟩)
section
variable(P:Program)(L:WgLink)(Wg:Nat)
def WSem(d:Nat)(g:Goroutine):Prop:=
 d=1∧g.status = .running∧mayWake P g=true∧Turns P false (Lv L Wg) (fun w=>WgAt L.tWg Wg w 0 0) (fun w=>w.setCell (smA Wg) (.int .u32 1)) (semEvents (smA Wg)) (fun g'=>∃q,QuitsD P q 1 g') g
def WSt(d:Nat)(g:Goroutine):Prop:=
 d=1∧g.status = .running∧Turns P false (Lv L Wg) (fun w=>WgAt L.tWg Wg w 1 0) (fun w=>w.setCell (stA Wg) (.int .u64 0)) #[wr (stA Wg)] (IdleD P false (Lv L Wg) X0 (WSem P L Wg) 1) g
def WLd(d:Nat)(g:Goroutine):Prop:=
 d=1∧g.status = .running∧Turns P false (Lv L Wg) (fun w=>WgAt L.tWg Wg w 1 0) (fun w=>w) #[rd (stA Wg)] (IdleD P false (Lv L Wg) X0 (WSt P L Wg) 1) g
def WAdd(d:Nat)(g:Goroutine):Prop:=
 d=1∧g.status = .running∧∀v wt:Nat,wt≤1→v < 2147483647 →
  Turns P false (Lv L Wg) (fun w=>WgAt L.tWg Wg w ((v+1) * KK+wt) 0) (fun w=>w.setCell (stA Wg) (.int .u64 (v * KK+wt))) #[rd (stA Wg),wr (stA Wg)]
   (fun g'=>((v=0∧wt=1)→IdleD P false (Lv L Wg) X0 (WLd P L Wg) 1 g')∧(¬(v=0∧wt=1)→∃q,QuitsD P q 1 g')) g
def WRel(d:Nat)(g:Goroutine):Prop:=
 d=0∧Says P false (Lv L Wg) #[mk (.releaseMerge (stA Wg))] (IdleD P false (Lv L Wg) XD (WAdd P L Wg) 0) g
def WSnd(Ch:Nat)(Sent:(Nat→Prop)→(Nat→Prop)→Option Value→World→Prop)(I:World→Prop)(D:Nat→Prop)(d:Nat)(O:Nat→Prop)(g:Goroutine)(w:World):Prop:=
 d=0∧g.status = .running∧∃(g₂:Goroutine) (v z:Value),(∀w₁,Rely O D w w₁→I w₁→stepG P false g w₁ = .comm g₂ #[scase Ch v z] true .send w₁ #[])∧Sent O D (some v) w ∧
  IdleD P false (Lv L Wg) X0 (WRel P L Wg) 0 (Go.Conc.served g₂ undef)
def WSkip(Sent:(Nat→Prop)→(Nat→Prop)→Option Value→World→Prop)(D:Nat→Prop)(d:Nat)(O:Nat→Prop)(g:Goroutine)(w:World):Prop:=
 d=0∧Sent O D none w∧IdleD P false (Lv L Wg) X0 (WRel P L Wg) 0 g
def WSend(Ch:Nat)(Sent:(Nat→Prop)→(Nat→Prop)→Option Value→World→Prop)(I:World→Prop)(D:Nat→Prop)(d:Nat)(O:Nat→Prop)(g:Goroutine)(w:World):Prop:=
 g.status = .running∧(WSnd P L Wg Ch Sent I D d O g w∨WSkip P L Wg Sent D d O g w)
section
variable(gT:Goroutine)(A:Goroutine→Prop)
def MAcq(d:Nat)(g:Goroutine):Prop:=d=0∧Says P true (Lv L Wg) #[mk (.acquire (stA Wg))] (IdleD P true (Lv L Wg) (XM Wg) (fun d g=>d=0∧g=gT) 0) g
def M4(d:Nat)(g:Goroutine):Prop:=d=1∧g.status = .running∧Turns P true (Lv L Wg) (fun w=>WgAt L.tWg Wg w 0 0) (fun w=>w) #[rd (stA Wg)] (IdleD P true (Lv L Wg) (XM Wg) (MAcq P L Wg gT) 1) g
def M3(d:Nat)(g:Goroutine):Prop:=
 d=1∧g.status = .running∧g.offers=none∧(∀w st,WgAt L.tWg Wg w st 0→stepG P true g w = .go { g with status:=.blocked } w #[]) ∧
 Turns P true (Lv L Wg) (fun w=>WgAt L.tWg Wg w 0 1) (fun w=>w.setCell (smA Wg) (.int .u32 0)) (semEvents (smA Wg)) (IdleD P true (Lv L Wg) (XM Wg) (M4 P L Wg gT) 1) g
def M2(vs d:Nat)(g:Goroutine):Prop:=
 d=1∧g.status = .running∧∀v:Nat,v < 2147483648 →
  (v=vs→Turns P true (Lv L Wg) (fun w=>WgAt L.tWg Wg w (v * KK) 0) (fun w=>w.setCell (stA Wg) (.int .u64 (v * KK+1))) #[rd (stA Wg),wr (stA Wg)] (IdleD P true (Lv L Wg) (XM Wg) (M3 P L Wg gT) 1) g) ∧
  (v≠vs→Turns P true (Lv L Wg) (fun w=>WgAt L.tWg Wg w (v * KK) 0) (fun w=>w) #[rd (stA Wg)] (IdleD P true (Lv L Wg) (XM Wg) (fun d g=>d=1∧A g) 1) g)
def M1(d:Nat)(g:Goroutine):Prop:=
 d=1∧g.status = .running∧∀v:Nat,v < 2147483648→Turns P true (Lv L Wg) (fun w=>WgAt L.tWg Wg w (v * KK) 0) (fun w=>w) #[rd (stA Wg)]
  (fun g'=>(v=0→IdleD P true (Lv L Wg) (XM Wg) (MAcq P L Wg gT) 1 g')∧(v≠0→IdleD P true (Lv L Wg) (XM Wg) (M2 P L Wg gT A v) 1 g')) g
end
def Anch(gT:Goroutine)(A:Goroutine→Prop):Prop:=∀g,A g→IdleD P true (Lv L Wg) (XM Wg) (M1 P L Wg gT A) 1 g
section
variable(Ch:Nat)(Sent:Nat→(Nat→Prop)→(Nat→Prop)→Option Value→World→Prop)(I:World→Prop)(Fin:(Nat→Prop)→(Nat→Prop)→Goroutine→World→Prop)
def MWait(D:Nat→Prop)(d:Nat)(O:Nat→Prop)(g:Goroutine)(w:World):Prop:=
 ∃(gT:Goroutine) (A:Goroutine→Prop),Anch P L Wg gT A∧IdleD P true (Lv L Wg) (XM Wg) (M1 P L Wg gT A) d g∧∀w',Rely O D w w' → Fin D O gT w'
def MGo(i:Nat)(Nx:(Nat→Prop)→(Nat→Prop)→Goroutine→World→Prop)(D:Nat→Prop)(d:Nat)(O:Nat→Prop)(g:Goroutine)(w:World):Prop:=
 d=0∧g.status = .running∧∀w₁,Rely O D w w₁→I w₁→∃(g' child:Goroutine) (M H N:Nat→Prop),stepG P true g w₁ = .spawn g' child w₁ #[]∧(∀b,M b→O b)∧(∀b,H b→O b∧¬M b)∧(∀b,N b→D b∨M b) ∧
  WkD P false I X0 N (WSend P L Wg Ch (Sent i) I N) 0 H child w₁∧Nx (fun b=>D b∨M b) (fun b=>O b∧¬M b∧¬H b) g' w₁
def MAdd(i:Nat)(Nx:(Nat→Prop)→(Nat→Prop)→Goroutine→World→Prop)(D:Nat→Prop)(d:Nat)(O:Nat→Prop)(g:Goroutine)(w:World):Prop:=
 d=1∧g.status = .running∧∀v:Nat,v < 2147483647→Turns P true (Lv L Wg) (fun w=>WgAt L.tWg Wg w (v * KK) 0) (fun w=>w.setCell (stA Wg) (.int .u64 ((v+1) * KK))) #[rd (stA Wg),wr (stA Wg)]
  (fun g'=>∀w',Rely O D w w' → WkD P true I (XM Wg) D (MGo P L Wg Ch Sent I i Nx D) 1 O g' w') g
def Spawns(n:Nat):Nat→(Nat→Prop)→(Nat→Prop)→Goroutine→World→Prop
 |0,D,O,g,w=>WkD P true I (XM Wg) D (MWait P L Wg Fin D) 0 O g w
 |r+1,D,O,g,w=>WkD P true I (XM Wg) D (MAdd P L Wg Ch Sent I (n - (r+1)) (Spawns n r) D) 0 O g w
end
end
section
variable{P:Program}{L:WgLink}{Wg Ch:Nat}{I:World→Prop}{O D:Nat→Prop}{g:Goroutine}{w w':World}{d i:Nat}
variable{Sent:Nat→(Nat→Prop)→(Nat→Prop)→Option Value→World→Prop}{Fin Nx:(Nat→Prop)→(Nat→Prop)→Goroutine→World→Prop}
def XS(Wg:Nat)(e:Event):Prop:=∃a:Addr,a.block=Wg∧(e=⟨.mark (.read a),false,true⟩∨e=⟨.mark (.write a),false,true⟩)
theorem xs_hearing{e:Event}(h:XS Wg e):hearing e:=by
 obtain ⟨a,_,rfl|rfl⟩:=h<;>exact ⟨by simp,by simp⟩
theorem xs_xm{e:Event}(h:XS Wg e):XM Wg e:=.inr (.inr h)
theorem disable_low{w:World}{Q:Event→Prop}(hQ:Q (mk .disable)):∀e ∈ #[mk .disable],Q e∧(MemAct.ofEvent e).low w.heap.size:=by
 intro e he
 rw [Array.mem_singleton] at he
 subst he
 exact ⟨hQ,trivial⟩
theorem enable_low{w:World}{Q:Event→Prop}(hQ:Q (mk .enable)):∀e ∈ #[mk .enable],Q e∧(MemAct.ofEvent e).low w.heap.size:=by
 intro e he
 rw [Array.mem_singleton] at he
 subst he
 exact ⟨hQ,trivial⟩
theorem anch_of{gT:Goroutine}{A:Goroutine→Prop}(h:∀g,A g→Idle P true (Lv L Wg) (XS Wg) (Wait1 P true (XS Wg) L Wg (· = gT) A) g):Anch P L Wg gT A:=by
 have dd:∀ {S:Goroutine→Prop} {g:Goroutine} (d:Nat),Idle P true (Lv L Wg) (XS Wg) S g→IdleD P true (Lv L Wg) (XM Wg) (fun d' g=>d' = d∧S g) d g:=fun d h=>Idle.deaf (fun e=>xs_hearing) (fun e=>xs_xm) d h
 have hEnd:∀d g,(d=1∧WaitEnd P true (XS Wg) L Wg (· = gT) g)→IdleD P true (Lv L Wg) (XM Wg) (MAcq P L Wg gT) d g:=by
  rintro d g ⟨rfl,hs⟩
  refine Says.deaf (fun w _=>enable_low (.inr (.inl rfl))) hs fun g' hg=>(dd 0 hg).mono ?_
  rintro d g ⟨rfl,h1,g'',h2,h3⟩
  exact ⟨rfl,h1,g'',h2,dd 0 h3⟩
 have h4:∀d g,(d=1∧Wait4 P true (XS Wg) L Wg (· = gT) g)→M4 P L Wg gT d g:=by
  rintro d g ⟨rfl,h1,g',h2,h3⟩
  exact ⟨rfl,h1,g',h2,(dd 1 h3).bind hEnd⟩
 have h3:∀d g,(d=1∧Wait3 P true (XS Wg) L Wg (· = gT) g)→M3 P L Wg gT d g:=by
  rintro d g ⟨rfl,h1,h2,h3,g',h5,h6⟩
  exact ⟨rfl,h1,h2,h3,g',h5,(dd 1 h6).mono h4⟩
 intro g hA
 refine (dd 1 (h g hA)).mono ?_
 rintro d g ⟨rfl,h1,h2⟩
 refine ⟨rfl,h1,fun v hv=>?_⟩
 obtain ⟨g',h5,h6,h7⟩:=h2 v hv
 refine ⟨g',h5,fun e=>(dd 1 (h6 e)).bind hEnd,fun e=>(dd 1 (h7 e)).mono ?_⟩
 rintro d g ⟨rfl,h8,h9⟩
 refine ⟨rfl,h8,fun v' hv'=>⟨fun e=>?_,fun e=>?_⟩⟩
 ·obtain ⟨g₂,a1,a2⟩:=(h9 v' hv').1 e
  exact ⟨g₂,a1,(dd 1 a2).mono h3⟩
 ·obtain ⟨g₂,a1,a2⟩:=(h9 v' hv').2 e
  exact ⟨g₂,a1,dd 1 a2⟩
end
end Go.Ren
namespace Go.Ren
open Go.Conc hiding Goes mem_ofEvents
open Go.ConcN (sumTo upd upd_same upd_ne sumTo_congr sumTo_upd le_sumTo RelBy get_map_set get_map_set_same WgLive)
open Go.Conc.Lib (WgLink)
open Go.ConcR (KK WgAt stA smA rd wr mk g_of_ofEvents loc_of_ofEvent)
section
variable{P:Program}{X:Event→Prop}{W:Nat→Prop}{O D:Nat→Nat→Prop}{gs:Array Goroutine}{w w':World}{sl:Option (Nat×Nat)}{t:Trace}{i j n:Nat}{g g':Goroutine}{es:Array Event}
structure GuarW(X:Event→Prop)(W O D:Nat→Prop)(w₁ w':World)(es:Array Event):Prop where
 size:w₁.heap.size≤w'.heap.size
 heap:∀c,c < w₁.heap.size→¬O c→¬W c→w'.heap[c]? = w₁.heap[c]?
 os:Tm w₁.os w'.os
 output:w'.output=w₁.output
 tape:w'.tape=w₁.tape
 ev:∀e∈es,EvO X w'.heap.size (grow O w₁ w') D e
theorem Guar.wide{O D:Nat→Prop}{X':Event→Prop}(h:Guar X O D w w' es)(hX:∀e,X e→X' e):GuarW X' W O D w w' es:=
 ⟨h.size,fun c hc hO _=>h.heap c hc hO,.of h.os,h.output,h.tape,fun e he=>(h.ev e he).imp (fun x=>⟨hX e x.1,x.2⟩) id⟩
theorem GuarW.rely(hG:GuarW X W (O i) (D i) w w' es)(w₀:Own W O D n w.heap.size)(hi:i < n)(hj:j < n)(hne:j≠i):Rely (O j) (D j) w w' :=
 ⟨hG.size,fun b hb=>hG.heap b (w₀.olt j b hj hb) (fun h=>hne (w₀.oo j i b hj hi hb h)) (w₀.ow j b hj hb),fun b hb=>hG.heap b (w₀.dlt j b hj hb) (fun h=>w₀.od i j b hi hj h hb) (w₀.dw j b hj hb),hG.os,hG.output,hG.tape⟩
theorem guarW_said{O D:Nat→Prop}(h:∀e∈es,X e∧(MemAct.ofEvent e).low w.heap.size):GuarW X W O D w w es:=
 ⟨Nat.le_refl _,fun _ _ _ _=>rfl,.rfl,rfl,rfl,fun e he=>.inl (h e he)⟩
theorem guarW_cell{O D:Nat→Prop}{a:Addr}{v:Value}(ha:W a.block)(h:∀e∈es,X e∧(MemAct.ofEvent e).low w.heap.size):GuarW X W O D w (w.setCell a v) es:=by
 have hs:(w.setCell a v).heap.size=w.heap.size:=by simp
 refine ⟨by rw [hs];exact Nat.le_refl _,fun c hc _ hW=>?_,Tm.of (Go.Conc.aside_setCell w a v).os,(Go.Conc.aside_setCell w a v).output,(Go.Conc.aside_setCell w a v).tape,fun e he=>.inl (by rw [hs];exact h e he)⟩
 exact (Go.Conc.aside_setCell w a v).block c fun e=>hW (e ▸ ha)
theorem core_step(hg:gs[i]? = some g)(hst:stepG P (i == 0) g w = .go g' w' es)(T:TI W O D gs.size w.heap.size t)(w₀:Own W O D gs.size w.heap.size)(hG:GuarW (XOk W i) W (O i) (D i) w w' es) :
  runT P (crowd gs w sl) i=(.next (crowd ((gs.map (woken P g g' w')).setIfInBounds i g') w' sl),MemOp.ofEvents i g.frame.fn g.frame.place es) ∧
  TI W (with_ O i w.heap.size w'.heap.size) D gs.size w'.heap.size (t ++ MemOp.ofEvents i g.frame.fn g.frame.place es)∧Own W (with_ O i w.heap.size w'.heap.size) D gs.size w'.heap.size:=by
 have hi:i < gs.size:=(Array.getElem?_eq_some_iff.1 hg).1
 refine ⟨runT_crowd_go hg hst,T.step w₀ hi hG.size (fun e he=>he) fun e he=>?_,w₀.grow hi hG.size⟩
 have:=hG.ev e he
 rw [←with_self] at this
 exact this
end
inductive MTag where
 |sp (r s:Nat)|w1 (v:Nat) (gT:Goroutine) (A:Goroutine→Prop)|w2 (v:Nat) (gT:Goroutine) (A:Goroutine→Prop)|w3 (gT:Goroutine)|w4 (gT:Goroutine)|acq (gT:Goroutine)
def rkM(n:Nat):MTag→Nat
 | .sp r s=>8 * n+8+2 * r+s
 | .w1 v _ _=>8 * v+6
 | .w2 v _ _=>8 * v+4
 | .w3 _=>3
 | .w4 _=>2
 | .acq _=>1
def MTag.toAdd:MTag→Prop
 | .sp (_+1) 1=>True
 |_=>False
def pendM:MTag→Nat
 | .sp (_+1) 0=>1
 |_=>0
def openM:MTag→Prop
 | .sp _ _ | .w1 _ _ _ | .w2 _ _ _=>True
 |_=>False
def finM:MTag→Prop
 | .w4 _ | .acq _=>True
 |_=>False
def bndM(v:Nat):MTag→Prop
 | .w1 u _ _=>v≤u
 | .w2 u _ _=>v≤u∧1≤u
 |_=>True
def cntW(s:Nat):Nat:=if 5≤s then 1 else 0
def Vn(j:Nat)(st:Nat→Nat):Nat:=sumTo j fun i=>cntW (st i)
def Opn(j:Nat)(st:Nat→Nat):Prop:=∀i,i < j→st i=8∨st i=7∨st i=5∨st i=1
def AllQ(j:Nat)(st:Nat→Nat):Prop:=∀i,i < j→st i=1
inductive Md(j:Nat)(st:Nat→Nat):MTag→Int→Int→Prop
 |opn {tag:MTag} (h1:openM tag) (h2:Opn j st) (h3:bndM (Vn j st) tag):Md j st tag (((Vn j st+pendM tag:Nat):Int) * KK) 0
 |reg {gT:Goroutine} (h2:Opn j st) (h3:1≤Vn j st):Md j st (.w3 gT) (((Vn j st:Nat):Int) * KK+1) 0
 |last {gT:Goroutine} (K:Nat) (h2:K < j) (h3:st K=4∨st K=3∨st K=2) (h4:∀i,i < j→i≠K→st i=1):Md j st (.w3 gT) (if st K=2 then 0 else 1) 0
 |sema {gT:Goroutine} (h2:AllQ j st):Md j st (.w3 gT) 0 1
 |fin {tag:MTag} (h1:finM tag) (h2:AllQ j st):Md j st tag 0 0
section
variable{j i s':Nat}{st:Nat→Nat}{tag:MTag}{a b:Int}
theorem Vn_upd(s':Nat)(hi:i < j):Vn j (upd st i s')+cntW (st i)=Vn j st+cntW s' :=sumTo_upd st s' cntW hi
theorem bndM_mono{v v':Nat}(h:v' ≤ v)(hb:bndM v tag):bndM v' tag:=by
 cases tag<;>first|exact trivial|exact Nat.le_trans h hb|exact ⟨Nat.le_trans h hb.1,hb.2⟩
theorem Opn.upd(h:Opn j st)(hs:s' = 8∨s' = 7∨s' = 5∨s' = 1):Opn j (upd st i s'):=by
 intro k hk
 by_cases e:k=i
 ·subst e;rw [upd_same];exact hs
 ·rw [upd_ne st _ e];exact h k hk
theorem Md.counted(h:Md j st tag a b)(hi:i < j)(h5:5≤st i)(hs:s' = 8∨s' = 7∨s' = 5):Md j (upd st i s') tag a b:=by
 have hv:Vn j (Go.ConcN.upd st i s')=Vn j st:=by
  have:=Vn_upd (st:=st) s' hi
  have c1:cntW (st i)=1:=by simp [cntW,h5]
  have c2:cntW s' = 1:=by rcases hs with rfl|rfl|rfl<;>rfl
  omega
 have ho:Opn j st→Opn j (Go.ConcN.upd st i s'):=fun x=>x.upd (by rcases hs with rfl|rfl|rfl<;>simp)
 cases h with
 |opn h1 h2 h3=>rw [←hv];exact .opn h1 (ho h2) (by rw [hv];exact h3)
 |reg h2 h3=>rw [←hv];exact .reg (ho h2) (by rw [hv];exact h3)
 |last K h2 h3 h4=>
  by_cases e:i=K
  ·subst e;omega
  ·have:=h4 i hi e;omega
 |sema h2=>have:=h2 i hi;omega
 |fin h1 h2=>have:=h2 i hi;omega
theorem Md.same(h:Md j st tag a b)(hs:st i=s'):Md j (upd st i s') tag a b:=by
 have:Go.ConcN.upd st i s' = st:=by
  funext k
  by_cases e:k=i
  ·subst e;rw [upd_same,hs]
  ·rw [upd_ne st _ e]
 rw [this]
 exact h
theorem Md.isLast(h:Md j st tag a b)(hi:i < j)(hs:st i=4∨st i=3∨st i=2) :
  (∃gT,tag = .w3 gT)∧(∀k,k < j→k≠i→st k=1)∧a=(if st i=2 then 0 else 1)∧b=0:=by
 cases h with
 |opn h1 h2 h3=>have:=h2 i hi;omega
 |reg h2 h3=>have:=h2 i hi;omega
 | @last gT K h2 h3 h4=>
  by_cases e:i=K
  ·subst e;exact ⟨⟨gT,rfl⟩,h4,rfl,rfl⟩
  ·have:=h4 i hi e;omega
 |sema h2=>have:=h2 i hi;omega
 |fin h1 h2=>have:=h2 i hi;omega
theorem Vn_le(j:Nat)(st:Nat→Nat):Vn j st≤j:=by
 have:=Go.ConcN.sumTo_le (f:=fun i=>cntW (st i)) (c:=1) (j:=j) fun i _=>by simp only [cntW];split<;>omega
 simpa [Vn] using this
theorem Vn_pos(hi:i < j)(h5:5≤st i):1≤Vn j st:=by
 have:=le_sumTo (f:=fun i=>cntW (st i)) hi
 simp only [cntW,h5,if_true] at this
 exact this
theorem exists_cnt:∀ {j:Nat},1≤Vn j st→∃i,i < j∧5≤st i
 |0,h=>by simp [Vn,sumTo] at h
 |j+1,h=>by
  by_cases hc:5≤st j
  ·exact ⟨j,by omega,hc⟩
  ·have:1≤Vn j st:=by simp only [Vn,sumTo,cntW,if_neg hc] at h ⊢;simpa using h
   obtain ⟨i,hi,h5⟩:=exists_cnt this
   exact ⟨i,by omega,h5⟩
theorem Opn.quit_of_zero(h:Opn j st)(hv:Vn j st=0):AllQ j st:=by
 intro i hi
 have:=h i hi
 by_cases h5:5≤st i
 ·have:=Vn_pos hi h5;omega
 ·omega
theorem others_quit(ho:Opn j st)(hi:i < j)(h5:5≤st i)(hv:Vn j st=1):∀k,k < j→k≠i→st k=1:=by
 have h0:=Vn_upd (st:=st) (i:=i) 0 hi
 have c1:cntW (st i)=1:=by simp [cntW,h5]
 have c0:cntW 0=0:=rfl
 intro k hk e
 by_cases h5':5≤st k
 ·have:1≤Vn j (Go.ConcN.upd st i 0):=Vn_pos hk (by rw [upd_ne st _ e];exact h5')
  omega
 ·have:=ho k hk;omega
end
end Go.Ren
