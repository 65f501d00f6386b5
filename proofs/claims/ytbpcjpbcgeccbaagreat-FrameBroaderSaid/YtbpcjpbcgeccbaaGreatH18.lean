import Derived.Conc.Walk
import Derived.Conc.Own5
import Derived.KernelRfl
import Derived.Conc.AtomicLaws2
import Derived.Conc.ClockLaws
import Derived.Conc.MarkLaws
import Derived.Conc.SmallLaws
import Derived.Conc.Listed
import Derived.Test.YtbpcjpbcgeccbaaGreatH7
import Derived.Test.YtbpcjpbcgeccbaaGreatH8
import Derived.Test.YtbpcjpbcgeccbaaGreatH17
set_option linter.unusedVariables false
set_option linter.unusedSectionVars false
set_option linter.unusedSimpArgs false
namespace Go.Sy
open Go.Ren
open Go.Conc hiding Goes
inductive E where
 | b (x:Bool)|i (k:IntKind) (z:Int)|v (n:Nat)
 deriving DecidableEq
def E.den(ν:Nat→Value):E→Value
 | .b x=>.bool x
 | .i k z=>.int k z
 | .v n=>ν n
abbrev Env:=List (Nat×Option E)
def get:Env→Nat→Option E
 | [],_=>none
 | (j,x) :: r,k=>if j == k then x else get r k
def put(e:Env)(d:Option Nat)(x:Option E):Env:=match d with
 | some d=>(d,x) :: e
 | none=>e
inductive Key where
 | bin (op:BinOp) (x y:E)|Wj (x:E) (i:Nat)|nil (x:E)
 deriving DecidableEq
abbrev Tab:=List (Key×E)
def look:Tab→Key→Option E
 | [],_=>none
 | (j,x) :: r,k=>if j=k then some x else look r k
def zV(e:Env):Operand→Option E
 | .tmp t=>get e t
 | .const (.bool b)=>some (.b b)
 | .const (.int k z)=>some (.i k z)
 | _=>none
def opv(T:Tab)(e:Env)(o:Oper):Option (E×List TypeId):=match o.op with
 | .move x | .assign x=>(zV e x).map (·,[])
 | .pick c a b=>match zV e c with
   |some (.b true)=>(zV e a).map (·,[])
   |some (.b false)=>(zV e b).map (·,[])
   |_=>none
 | .nilCheck x=>((zV e x).bind fun x=>look T (.nil x)).map (·,[])
 | .binOp op _ x y _=>match zV e x,zV e y with
   |some x,some y=>(look T (.bin op x y)).map (·,[])
   |_,_=>none
 | .unOp .not _ x=>match zV e x with
   |some (.b t)=>some (.b !t,[])
   |_=>none
 | .fieldAddr s x f=>((zV e x).bind fun x=>look T (.Wj x f)).map (·,[s])
 | _=>none
def rM(ops:Array Oper)(e:Env)(o:Oper):Option Bool:=match o.guard with
 | none=>some true
 | some (g,b)=>match (ops[g]?).bind (·.dst) with
   |some d=>match get e d with
    |some (.b t)=>some (t == b)
    |_=>none
   |none=>none
structure S where
 env:Env
 todo:List Item
 log:List TypeId
def Ep(sz:Nat)(o:Oper):Bool:=match o.dst with
 | some d=>d < sz
 | none=>true
def step(sz:Nat)(T:Tab)(s:S):Option S:=match s.todo with
 | .code .skip :: k=>some { s with todo:=k }
 | .code (.seq x y) :: k=>some { s with todo:=.code x :: .code y :: k }
 | .code (.cond c x y) :: k=>match zV s.env c with
   |some (.b t)=>some { s with todo:=.code (if t then x else y) :: k }
   |_=>none
 | .code (.block id c) :: k=>some { s with todo:=.code c :: .inBlock id :: k }
 | .code (.loop c) :: k=>some { s with todo:=.code c :: .inLoop c :: k }
 | .inLoop c :: k=>some { s with todo:=.code c :: .inLoop c :: k }
 | .inBlock _ :: k=>some { s with todo:=k }
 | .code (.exit id) :: k=>(exitTo id k).map fun k=>{ s with todo:=k }
 | .code (.region _ ops false) :: k=>some { s with todo:=.inRegion ops (List.range ops.size) :: k }
 | .inRegion _ [] :: k=>some { s with todo:=k }
 | .inRegion ops (i :: rest) :: k=>match ops[i]? with
   |some o=>if Ep sz o=false then none else match rM ops s.env o with
    |some true=>match opv T s.env o with
     |some (x,l)=>some ⟨put s.env o.dst (some x),.inRegion ops rest :: k,l ++ s.log⟩
     |none=>none
    |some false=>some { s with env:=put s.env o.dst none,todo:=.inRegion ops rest :: k }
    |none=>none
   |none=>none
 | _=>none
def run(sz:Nat)(T:Tab):Nat→S→S
 | 0,s=>s
 | n+1,s=>match step sz T s with
   |some s=>run sz T n s
   |none=>s
def Agree(ν:Nat→Value)(e:Env)(A:Array Value):Prop:=∀k x,get e k=some x→A[k]? = some (x.den ν)
def Yields{α:Type}(P:Program)(e:Sem α)(v:α):Prop:=∀w,Sem.run P e w = .ok v w∧∀es,Sem.events P e w es=es
def rO(P:Program)(tI:TypeId)(ν:Nat→Value)(k:Key)(z:E):Prop:=match k with
 | .bin op x y=>∀(ty:TypeId) (xo yo:Operand),Yields P (do eqGuard op ty xo yo (x.den ν) (y.den ν);binOp op ty (x.den ν) (y.den ν)) (z.den ν)
 | .Wj x i=>Yields P (Instr.fieldAt tI (x.den ν) i) (z.den ν)
 | .nil x=>z=x∧∃q,x.den ν = .pointer (some q)
def aW(P:Program)(tI:TypeId)(ν:Nat→Value)(T:Tab):Prop:=∀p∈T,rO P tI ν p.1 p.2
end Go.Sy
namespace Go.Sy
open Go.Ren
open Go.Conc hiding Goes
section
variable{P:Program}{tI:TypeId}{ν:Nat→Value}{T:Tab}{e:Env}{A:Array Value}{o:Oper}
theorem nT{α:Type}(v:α):Yields P (pure v:Sem α) v:=fun w=>⟨by simp [go_sem],fun es=>by simp [go_sem]⟩
theorem vF{α β:Type}{f:Sem α}{v:α}(g:α→β)(h:Yields P f v):Yields P (do pure (g (←f))) (g v):=fun w=>by
 obtain ⟨h1,h2⟩:=h w
 exact ⟨by simp [go_sem,h1],fun es=>by simp [go_sem,h1,h2]⟩
theorem look_ok(h:aW P tI ν T){k:Key}{z:E}(hl:look T k=some z):rO P tI ν k z:=by
 induction T with
 | nil=>cases hl
 | cons p T ih=>
   obtain ⟨j,x⟩:=p
   unfold look at hl
   split at hl
   ·rename_i e;subst e;cases hl;exact h _ (List.mem_cons_self ..)
   ·exact ih (fun q hq=>h q (List.mem_cons_of_mem _ hq)) hl
theorem dX(h:Agree ν e A){ds:List Deferred}{x:Operand}{z:E}(hx:zV e x=some z):Act.eval ⟨A,ds⟩ x=z.den ν:=by
 unfold zV at hx
 split at hx
 · rename_i t
   have:=h t z hx
   simp [Act.eval,Array.getD_eq_getD_getElem?,this]
 · cases hx;rfl
 · cases hx;rfl
 · cases hx
theorem Agree.put(h:Agree ν e A){d:Option Nat}{x:Option E}{y:Value}(hy:∀z,x=some z→y=z.den ν)(hd:∀k,d=some k→k < A.size):Agree ν (put e d x) ((Act.put ⟨A,[]⟩ d y).tmps):=by
 intro k z hz
 unfold Act.put
 cases d with
 | none=>exact h k z hz
 | some d=>
   have hlt:=hd d rfl
   simp only [Go.Sy.put,get] at hz
   dsimp only
   split at hz
   ·rename_i e1
    have:d=k:=by simpa using e1
    subst this
    rw [Array.getElem?_setIfInBounds_self_of_lt hlt,hy z hz]
   ·rename_i e1
    have:d≠k:=by simpa using e1
    rw [Array.getElem?_setIfInBounds_ne this]
    exact h k z hz
theorem Zv(hT:aW P tI ν T)(h:Agree ν e A){ds:List Deferred}{z:E}{l:List TypeId}(hv:opv T e o=some (z,l))(hl:∀t∈l,t=tI):Yields P (execOp (Act.eval ⟨A,ds⟩) o) (.value (z.den ν)):=by
 unfold opv at hv
 unfold execOp
 split at hv
 · rename_i x he
   rw [he]
   cases hx:zV e x with
   |none=>rw [hx] at hv;cases hv
   |some y=>rw [hx] at hv;simp only [Option.map_some,Option.some.injEq,Prod.mk.injEq] at hv;obtain ⟨rfl,rfl⟩:=hv;dsimp only;rw [dX h hx];exact nT _
 · rename_i x he
   rw [he]
   cases hx:zV e x with
   |none=>rw [hx] at hv;cases hv
   |some y=>rw [hx] at hv;simp only [Option.map_some,Option.some.injEq,Prod.mk.injEq] at hv;obtain ⟨rfl,rfl⟩:=hv;dsimp only;rw [dX h hx];exact nT _
 · rename_i c a b he
   rw [he]
   dsimp only
   split at hv
   ·rename_i hc
    rw [dX h hc]
    cases hx:zV e a with
    |none=>rw [hx] at hv;cases hv
    |some y=>rw [hx] at hv;simp only [Option.map_some,Option.some.injEq,Prod.mk.injEq] at hv;obtain ⟨rfl,rfl⟩:=hv;rw [dX h hx];exact fun w=>⟨by simp [go_sem,E.den,asBool],fun es=>by simp [go_sem,E.den,asBool]⟩
   ·rename_i hc
    rw [dX h hc]
    cases hx:zV e b with
    |none=>rw [hx] at hv;cases hv
    |some y=>rw [hx] at hv;simp only [Option.map_some,Option.some.injEq,Prod.mk.injEq] at hv;obtain ⟨rfl,rfl⟩:=hv;rw [dX h hx];exact fun w=>⟨by simp [go_sem,E.den,asBool],fun es=>by simp [go_sem,E.den,asBool]⟩
   ·cases hv
 · rename_i x he
   rw [he]
   dsimp only
   cases hx:zV e x with
   |none=>rw [hx] at hv;cases hv
   |some y=>
    rw [hx] at hv
    simp only [Option.bind_some] at hv
    cases hk:look T (.nil y) with
    |none=>rw [hk] at hv;cases hv
    |some z'=>
     rw [hk] at hv;simp only [Option.map_some,Option.some.injEq,Prod.mk.injEq] at hv;obtain ⟨rfl,rfl⟩:=hv
     obtain ⟨rfl,q,hq⟩:=look_ok hT hk
     rw [dX h hx,hq]
     exact nT _
 · rename_i op ty x y r he
   rw [he]
   dsimp only
   split at hv
   ·rename_i a b ha hb
    cases hk:look T (.bin op a b) with
    |none=>rw [hk] at hv;cases hv
    |some z'=>
     rw [hk] at hv;simp only [Option.map_some,Option.some.injEq,Prod.mk.injEq] at hv;obtain ⟨rfl,rfl⟩:=hv
     rw [dX h ha,dX h hb]
     exact vF Next.value (look_ok hT hk ty x y)
   ·cases hv
 · rename_i ty x he
   rw [he]
   dsimp only
   split at hv
   ·rename_i t ht
    simp only [Option.some.injEq,Prod.mk.injEq] at hv
    obtain ⟨rfl,rfl⟩:=hv
    rw [dX h ht]
    exact vF Next.value (nT _)
   ·cases hv
 · rename_i s x f he
   rw [he]
   dsimp only
   cases hx:zV e x with
   |none=>rw [hx] at hv;cases hv
   |some y=>
    rw [hx] at hv
    simp only [Option.bind_some] at hv
    cases hk:look T (.Wj y f) with
    |none=>rw [hk] at hv;cases hv
    |some z'=>
     rw [hk] at hv;simp only [Option.map_some,Option.some.injEq,Prod.mk.injEq] at hv;obtain ⟨rfl,rfl⟩:=hv
     obtain rfl:=hl s (List.mem_cons_self ..)
     rw [dX h hx]
     exact vF Next.value (look_ok hT hk)
 · cases hv
theorem yc(h:Agree ν e A){ops:Array Oper}{b:Bool}(hw:rM ops e o=some b):Region.wanted o (yielded ops A)=b:=by
 unfold rM at hw
 unfold Region.wanted
 split at hw
 · rename_i hg;rw [hg];cases hw;rfl
 · rename_i g c hg
   rw [hg]
   dsimp only
   split at hw
   ·rename_i d hd
    split at hw
    ·rename_i t ht
     cases hw
     have:=h d _ ht
     simp only [yielded,hd,Option.bind_some,this,E.den]
     cases t<;>cases c<;>rfl
    ·cases hw
   ·cases hw
end
end Go.Sy
namespace Go.Sy
open Go.Ren
open Go.Conc hiding Goes
section
variable{P:Program}{tI:TypeId}{ν:Nat→Value}{T:Tab}{A:Array Value}{sz:Nat}{m:Bool}{b:Frame}{ds:List Deferred}{cs:List Frame}{s s':S}
theorem SS{o:Oper}(h:¬Ep sz o=false)(hz:A.size=sz):∀k,o.dst=some k→k < A.size:=by
 intro k hk
 unfold Ep at h
 rw [hk] at h
 dsimp only at h
 rw [hz]
 simpa using h
theorem step_ok(hT:aW P tI ν T)(hk:b.kind ≠ .early)(hz:A.size=sz)(h:Agree ν s.env A)(hs:step sz T s=some s')(hl:∀t∈s'.log,t=tI) :
   (∀t∈s.log,t∈s'.log)∧∃A':Array Value,A'.size=sz∧Agree ν s'.env A' ∧ ∀w,stepG P m (G (b.at ⟨A,ds⟩ s.todo) cs) w = .go (G (b.at ⟨A',ds⟩ s'.todo) cs) w #[]:=by
 obtain ⟨e,todo,log⟩:=s
 unfold step at hs
 dsimp only at hs h ⊢
 split at hs
 · cases hs;exact ⟨fun _ x=>x,A,hz,h,fun w=>stepG_skip⟩
 · cases hs;exact ⟨fun _ x=>x,A,hz,h,fun w=>stepG_seq⟩
 · split at hs
   ·rename_i t ht
    cases hs
    exact ⟨fun _ x=>x,A,hz,h,fun w=>stepG_cond (dX h ht)⟩
   ·cases hs
 · cases hs;exact ⟨fun _ x=>x,A,hz,h,fun w=>stepG_block⟩
 · cases hs;exact ⟨fun _ x=>x,A,hz,h,fun w=>stepG_loop⟩
 · cases hs;exact ⟨fun _ x=>x,A,hz,h,fun w=>stepG_inLoop⟩
 · cases hs;exact ⟨fun _ x=>x,A,hz,h,fun w=>stepG_inBlock⟩
 · rename_i id k
   cases hx:exitTo id k with
   |none=>rw [hx] at hs;cases hs
   |some k'=>rw [hx] at hs;cases hs;exact ⟨fun _ x=>x,A,hz,h,fun w=>stepG_exit hx⟩
 · cases hs;exact ⟨fun _ x=>x,A,hz,h,fun w=>stepG_region⟩
 · cases hs;exact ⟨fun _ x=>x,A,hz,h,fun w=>stepG_region_end⟩
 · rename_i ops i rest k
   split at hs
   ·rename_i o ho
    split at hs
    ·cases hs
    ·rename_i hd
     have hlt:=SS hd hz
     split at hs
     ·rename_i hw
      split at hs
      ·rename_i x l hv
       cases hs
       have hy:=Zv (ds:=ds) hT h hv fun t ht=>hl t (List.mem_append_left _ ht)
       refine ⟨fun t ht=>List.mem_append_right _ ht,(Act.put ⟨A,[]⟩ o.dst (x.den ν)).tmps,?_,h.put (fun z hz=>by cases hz;rfl) hlt,fun w=>?_⟩
       ·unfold Act.put;split<;>simp [hz]
       ·have h1:=stepG_value (P:=P) (main:=m) (cs:=cs) (b:=b) (a:=⟨A,ds⟩) (k:=k) (rest:=rest) ho (yc h hw) hk (hy w).1
        rw [h1]
        unfold listed
        rw [(hy w).2,seen_none]
        unfold Act.put
        cases o.dst<;>rfl
      ·cases hs
     ·rename_i hw
      cases hs
      refine ⟨fun _ x=>x,(Act.put ⟨A,[]⟩ o.dst undef).tmps,?_,h.put (fun z hz=>by cases hz) hlt,fun w=>?_⟩
      ·unfold Act.put;split<;>simp [hz]
      ·rw [stepG_unwanted ho (yc h hw)]
       unfold Act.put
       cases o.dst<;>rfl
     ·cases hs
   ·cases hs
 · cases hs
theorem Nv(hs:∀ {s s':S},step sz T s=some s' → ∀t∈s.log,t∈s'.log):∀(n:Nat) (s:S),∀t∈s.log,t∈(run sz T n s).log
 | 0,s,t,ht=>ht
 | n+1,s,t,ht=>by
   unfold run
   split
   ·rename_i s' h;exact Nv hs n s' t (hs h t ht)
   ·exact ht
theorem SV{s s':S}(h:step sz T s=some s'):∀t∈s.log,t∈s'.log:=by
 obtain ⟨e,todo,log⟩:=s
 intro t ht
 unfold step at h
 dsimp only at h
 split at h
 · cases h;exact ht
 · cases h;exact ht
 · split at h
   ·cases h;exact ht
   ·cases h
 · cases h;exact ht
 · cases h;exact ht
 · cases h;exact ht
 · cases h;exact ht
 · rename_i id k
   cases hx:exitTo id k with
   |none=>rw [hx] at h;cases h
   |some k'=>rw [hx] at h;cases h;exact ht
 · cases h;exact ht
 · cases h;exact ht
 · split at h
   ·split at h
    ·cases h
    ·split at h
     ·split at h
      ·cases h;exact List.mem_append_right _ ht
      ·cases h
     ·cases h;exact ht
     ·cases h
   ·cases h
 · cases h
theorem SX{I:World→Prop}{X:Event→Prop}{Q:Nat→Goroutine→Prop}{d:Nat}(hT:aW P tI ν T)(hk:b.kind ≠ .early):∀(n:Nat) (s:S) (A:Array Value),A.size=sz→Agree ν s.env A→(∀t∈(run sz T n s).log,t=tI) →
   (∀A':Array Value,A'.size=sz→Agree ν (run sz T n s).env A' → ag P m I X Q d (G (b.at ⟨A',ds⟩ (run sz T n s).todo) cs))→ag P m I X Q d (G (b.at ⟨A,ds⟩ s.todo) cs)
 | 0,s,A,hz,h,hl,k=>k A hz h
 | n+1,s,A,hz,h,hl,k=>by
   unfold run at hl k
   split at hl
   ·rename_i s' hs
    rw [hs] at k
    obtain ⟨_,A',hz',h',hg⟩:=step_ok (m:=m) (ds:=ds) (cs:=cs) hT hk hz h hs fun t ht=>hl t (Nv SV n s' t ht)
    refine .step rfl (fun _=>G (b.at ⟨A',ds⟩ s'.todo) cs) (fun _=>#[]) (fun w _=>⟨hg w,by simp⟩) fun w _=>?_
    exact SX hT hk n s' A' hz' h' hl k
   ·rename_i hs
    rw [hs] at k
    exact k A hz h
end
end Go.Sy
namespace Go.Sy
open Go.Ren
open Go.Conc hiding Goes
def opAt(sz:Nat)(s:S):Option Oper:=match s.todo with
 | .inRegion ops (i :: _) :: _=>match ops[i]? with
   |some o=>if rM ops s.env o=some true then (if Ep sz o then some o else none) else none
   |none=>none
 | _=>none
def aQ(sz:Nat)(s:S):Option (FuncId×List (Option E)):=match opAt sz s with
 | some o=>match o.op with
   | .call c=>match c.callee with
    | .value (.func f)=>some (f,c.args.toList.map (zV s.env))
    |_=>none
   |_=>none
 | none=>none
def loadAt(sz:Nat)(s:S):Option (TypeId×Option E):=match opAt sz s with
 | some o=>match o.op with
   | .load t x=>some (t,zV s.env x)
   |_=>none
 | none=>none
def next(s:S)(x:Option E):S:=match s.todo with
 | .inRegion ops (i :: rest) :: k=>⟨put s.env ((ops[i]?).bind (·.dst)) x,.inRegion ops rest :: k,s.log⟩
 | _=>s
section
variable{P:Program}{ν:Nat→Value}{A:Array Value}{sz:Nat}{m:Bool}{b:Frame}{ds:List Deferred}{cs:List Frame}{s:S}{o:Oper}
theorem tY(ho:opAt sz s=some o)(hz:A.size=sz)(h:Agree ν s.env A):∃(ops:Array Oper) (i:Nat) (rest:List Nat) (k:List Item),s.todo = .inRegion ops (i :: rest) :: k∧ops[i]? = some o∧Region.wanted o (yielded ops A)=true∧(∀x,(next s x).todo = .inRegion ops rest :: k) ∧
   (∀(x:Option E) (y:Value),(∀z,x=some z→y=z.den ν)→(Act.put ⟨A,ds⟩ o.dst y).tmps.size=sz∧(Act.put ⟨A,ds⟩ o.dst y)=⟨(Act.put ⟨A,ds⟩ o.dst y).tmps,ds⟩∧Agree ν (next s x).env (Act.put ⟨A,ds⟩ o.dst y).tmps):=by
 obtain ⟨e,todo,log⟩:=s
 unfold opAt at ho
 dsimp only at ho h ⊢
 split at ho
 · rename_i ops i rest k
   split at ho
   ·rename_i o' ho'
    split at ho
    ·rename_i hw
     split at ho
     ·rename_i hd
      cases ho
      refine ⟨ops,i,rest,k,rfl,ho',yc h hw,fun x=>rfl,fun x y hy=>⟨?_,?_,?_⟩⟩
      ·unfold Act.put;split<;>simp [hz]
      ·unfold Act.put;split<;>rfl
      ·unfold next
       dsimp only
       rw [ho',Option.bind_some]
       have:=h.put (d:=o.dst) hy (SS (by rw [hd];simp) hz)
       unfold Act.put at this ⊢
       cases hod:o.dst<;>rw [hod] at this<;>exact this
     ·cases ho
    ·cases ho
   ·cases ho
 · cases ho
theorem oO{f:FuncId}{xs:List (Option E)}(h:aQ sz s=some (f,xs)):∃(o:Oper) (args:Array Operand) (ats:Array TypeId),opAt sz s=some o∧o.op = .call { callee:=.value (.func f),args:=args,argTypes:=ats }∧args.toList.map (zV s.env)=xs:=by
 unfold aQ at h
 split at h
 · rename_i o ho
   split at h
   ·rename_i c hc
    split at h
    ·rename_i f' hf
     cases h
     obtain ⟨cl,as,ats⟩:=c
     dsimp only at hf
     subst hf
     exact ⟨o,as,ats,ho,hc,rfl⟩
    ·cases h
   ·cases h
 · cases h
theorem PG{t:TypeId}{x:Option E}(h:loadAt sz s=some (t,x)):∃(o:Oper) (y:Operand),opAt sz s=some o∧o.op = .load t y∧zV s.env y=x:=by
 unfold loadAt at h
 split at h
 · rename_i o ho
   split at h
   ·rename_i t' y hc
    cases h
    exact ⟨o,y,ho,hc,rfl⟩
   ·cases h
 · cases h
def Behind(ν:Nat→Value)(sz:Nat)(b:Frame)(ds:List Deferred)(cs:List Frame)(s:S)(g:Goroutine):Prop:=∃A:Array Value,A.size=sz∧Agree ν s.env A∧g=G (b.at ⟨A,ds⟩ s.todo) cs
variable{fn:Func}{f:FuncId}{w:World}
theorem Ai{p q r:E}(hc:aQ sz s=some (f,[some p,some q,some r]))(hz:A.size=sz)(h:Agree ν s.env A)(hk:b.kind ≠ .early)(hf:P.funcs[f]? = some fn)(hname:(fn.name == "runtime.NumGoroutine")=false)(hb:fn.body.isNone=true)(hn:Extern.findNext fn=none)
   (he:Extern.find fn=some (Extern.Atomic.casT (.int .i32))) {ad:Addr} {v n:Int} (hp:p.den ν = .pointer (some ad)) (hq:q.den ν = .int .i32 v) (hr:r.den ν = .int .i32 n) :
   ∃g',Behind ν sz b ds cs (next s (some (.b true))) g' ∧ ∀w:World,w.cell? ad=some (.int .i32 v)→w.frozen? ad=false→stepG P m (G (b.at ⟨A,ds⟩ s.todo) cs) w = .go g' (w.setCell ad (.int .i32 n)) #[⟨.cell ad,false,true⟩,⟨.cell ad,true,true⟩]:=by
 obtain ⟨o,args,ats,ho,hop,ha⟩:=oO hc
 obtain ⟨ops,i,rest,k,h1,h2,h3,h4,h5⟩:=tY (ds:=ds) ho hz h
 obtain ⟨k1,k2,k3⟩:=h5 (some (.b true)) (.bool true) (fun z hz=>by cases hz;rfl)
 obtain ⟨args⟩:=args
 rcases args with _|⟨x,_|⟨y,_|⟨z,_|⟨u,args⟩⟩⟩⟩<;>simp only [List.map_cons,List.map_nil,List.cons.injEq,and_true,reduceCtorEq,and_false] at ha
 obtain ⟨a1,a2,a3⟩:=ha
 refine ⟨G (b.at (Act.put ⟨A,ds⟩ o.dst (.bool true)) (.inRegion ops rest :: k)) cs,⟨_,k1,k3,by rw [h4,←k2]⟩,fun w hcell hfr=>?_⟩
 rw [h1]
 exact stepG_cas_hit h2 h3 hk hop hf hname hb hn .i32 he ((dX h a1).trans hp) ((dX h a2).trans hq) ((dX h a3).trans hr) hcell hfr
theorem wP{p q r:E}(hc:aQ sz s=some (f,[some p,some q,some r]))(hz:A.size=sz)(h:Agree ν s.env A)(hk:b.kind ≠ .early)(hf:P.funcs[f]? = some fn)(hname:(fn.name == "runtime.NumGoroutine")=false)(hb:fn.body.isNone=true)(hn:Extern.findNext fn=none)
   (he:Extern.find fn=some (Extern.Atomic.casT (.int .i32))) {ad:Addr} {v n:Int} (hp:p.den ν = .pointer (some ad)) (hq:q.den ν = .int .i32 v) (hr:r.den ν = .int .i32 n) :
   ∃g',Behind ν sz b ds cs (next s (some (.b false))) g' ∧ ∀(w:World) (u:Int),w.cell? ad=some (.int .i32 u)→w.frozen? ad=false→¬u=v→stepG P m (G (b.at ⟨A,ds⟩ s.todo) cs) w = .go g' w #[⟨.cell ad,false,true⟩]:=by
 obtain ⟨o,args,ats,ho,hop,ha⟩:=oO hc
 obtain ⟨ops,i,rest,k,h1,h2,h3,h4,h5⟩:=tY (ds:=ds) ho hz h
 obtain ⟨k1,k2,k3⟩:=h5 (some (.b false)) (.bool false) (fun z hz=>by cases hz;rfl)
 obtain ⟨args⟩:=args
 rcases args with _|⟨x,_|⟨y,_|⟨z,_|⟨u,args⟩⟩⟩⟩<;>simp only [List.map_cons,List.map_nil,List.cons.injEq,and_true,reduceCtorEq,and_false] at ha
 obtain ⟨a1,a2,a3⟩:=ha
 refine ⟨G (b.at (Act.put ⟨A,ds⟩ o.dst (.bool false)) (.inRegion ops rest :: k)) cs,⟨_,k1,k3,by rw [h4,←k2]⟩,fun w u hcell hfr hne=>?_⟩
 rw [h1]
 exact stepG_cas_miss h2 h3 hk hop hf hname hb hn .i32 he ((dX h a1).trans hp) ((dX h a2).trans hq) ((dX h a3).trans hr) hcell hfr hne
theorem SY{p q:E}(hc:aQ sz s=some (f,[some p,some q]))(hz:A.size=sz)(h:Agree ν s.env A)(hk:b.kind ≠ .early)(hf:P.funcs[f]? = some fn)(hname:(fn.name == "runtime.NumGoroutine")=false)(hb:fn.body.isNone=true)(hn:Extern.findNext fn=none)
   (he:Extern.find fn=some (Extern.Atomic.update (Op.intArith .add) .i32 true)) {ad:Addr} {v d:Int} {z:Option E} (hp:p.den ν = .pointer (some ad)) (hq:q.den ν = .int .i32 d) (hv:∀y,z=some y→Value.int .i32 (IntKind.i32.wrap (v+d))=y.den ν) :
   ∃g',Behind ν sz b ds cs (next s z) g' ∧ ∀w:World,w.cell? ad=some (.int .i32 v)→w.frozen? ad=false→stepG P m (G (b.at ⟨A,ds⟩ s.todo) cs) w = .go g' (w.setCell ad (.int .i32 (IntKind.i32.wrap (v+d)))) #[⟨.cell ad,false,true⟩,⟨.cell ad,true,true⟩]:=by
 obtain ⟨o,args,ats,ho,hop,ha⟩:=oO hc
 obtain ⟨ops,i,rest,k,h1,h2,h3,h4,h5⟩:=tY (ds:=ds) ho hz h
 obtain ⟨k1,k2,k3⟩:=h5 z (.int .i32 (IntKind.i32.wrap (v+d))) hv
 obtain ⟨args⟩:=args
 rcases args with _|⟨x,_|⟨y,_|⟨u,args⟩⟩⟩<;>simp only [List.map_cons,List.map_nil,List.cons.injEq,and_true,reduceCtorEq,and_false] at ha
 obtain ⟨a1,a2⟩:=ha
 refine ⟨G (b.at (Act.put ⟨A,ds⟩ o.dst (.int .i32 (IntKind.i32.wrap (v+d)))) (.inRegion ops rest :: k)) cs,⟨_,k1,k3,by rw [h4,←k2]⟩,fun w hcell hfr=>?_⟩
 rw [h1]
 exact stepG_add_atomic h2 h3 hk hop hf hname hb hn .i32 he ((dX h a1).trans hp) ((dX h a2).trans hq) hcell hfr
theorem gq{xs:List (Option E)}(hc:aQ sz s=some (f,xs))(hz:A.size=sz)(h:Agree ν s.env A)(b:Frame)(ds:List Deferred)(cs:List Frame):∃(ops:Array Oper) (i:Nat) (rest:List Nat) (k:List Item) (o:Oper) (args:Array Operand) (ats:Array TypeId),
   s.todo = .inRegion ops (i :: rest) :: k∧ops[i]? = some o∧Region.wanted o (yielded ops A)=true∧o.op = .call { callee:=.value (.func f),args:=args,argTypes:=ats }∧(∀(n:Nat) (x:E),xs[n]? = some (some x)→(args.map (Act.eval ⟨A,ds⟩))[n]? = some (x.den ν))∧args.size=xs.length ∧
   (∀(z:Option E) (y:Value),(∀u,z=some u→y=u.den ν)→Behind ν sz b ds cs (next s z) (G (b.at (Act.put ⟨A,ds⟩ o.dst y) (.inRegion ops rest :: k)) cs)):=by
 obtain ⟨o,args,ats,ho,hop,ha⟩:=oO hc
 obtain ⟨ops,i,rest,k,h1,h2,h3,h4,h5⟩:=tY (ds:=ds) ho hz h
 refine ⟨ops,i,rest,k,o,args,ats,h1,h2,h3,hop,fun n x hx=>?_,by rw [←ha];simp,fun z y hy=>?_⟩
 · rw [←ha,List.getElem?_map] at hx
   rw [Array.getElem?_map]
   cases hn:args[n]? with
   |none=>
    have e:args.toList[n]? = none:=by rw [←hn];simp
    rw [e] at hx;cases hx
   |some y=>
    have e:args.toList[n]? = some y:=by rw [←hn];simp
    rw [e] at hx
    simp only [Option.map_some,Option.some.injEq] at hx ⊢
    exact dX h hx
 · obtain ⟨k1,k2,k3⟩:=h5 z y hy
   exact ⟨_,k1,k3,by rw [h4,←k2]⟩
theorem wQ(mk:Mark)(hm:∀g,mk ≠ .extern g){z:Option E}(hzn:z=none){xs:List (Option E)}(hc:aQ sz s=some (f,xs))(hz:A.size=sz)(h:Agree ν s.env A)(hk:b.kind ≠ .early)(hf:P.funcs[f]? = some fn)(hname:(fn.name == "runtime.NumGoroutine")=false)(hb:fn.body.isNone=true)(hn:Extern.findNext fn=none)
   (he:Extern.find fn=some (fun _=>do mark mk;pure Extern.Race.none_)):∃g',Behind ν sz b ds cs (next s z) g' ∧ ∀w,stepG P m (G (b.at ⟨A,ds⟩ s.todo) cs) w = .go g' w #[⟨.mark mk,false,true⟩]:=by
 obtain ⟨ops,i,rest,k,o,args,ats,h1,h2,h3,h4,h5,h6,h7⟩:=gq hc hz h b ds cs
 refine ⟨_,h7 z (.tuple #[]) (fun u hu=>by rw [hzn] at hu;cases hu),fun w=>?_⟩
 rw [h1]
 exact stepG_mark0 mk hm h2 h3 hk h4 hf hname hb hn he
theorem Es(mk:Addr→Mark)(hm:∀ad g,mk ad ≠ .extern g){z:Option E}(hzn:z=none){q:E}{xs:List (Option E)}(hc:aQ sz s=some (f,some q :: xs))(hz:A.size=sz)(h:Agree ν s.env A)(hk:b.kind ≠ .early)(hf:P.funcs[f]? = some fn)(hname:(fn.name == "runtime.NumGoroutine")=false)(hb:fn.body.isNone=true)(hn:Extern.findNext fn=none)
   (he:Extern.find fn=some (Extern.Race.marked mk)) {ad:Addr} (hq:q.den ν = .pointer (some ad)):∃g',Behind ν sz b ds cs (next s z) g' ∧ ∀w,stepG P m (G (b.at ⟨A,ds⟩ s.todo) cs) w = .go g' w #[⟨.mark (mk ad),false,true⟩]:=by
 obtain ⟨ops,i,rest,k,o,args,ats,h1,h2,h3,h4,h5,h6,h7⟩:=gq hc hz h b ds cs
 refine ⟨_,h7 z (.tuple #[]) (fun u hu=>by rw [hzn] at hu;cases hu),fun w=>?_⟩
 rw [h1]
 exact stepG_markAt mk hm h2 h3 hk h4 hf hname hb hn he ((h5 0 q rfl).trans (by rw [hq]))
theorem PI{z:Option E}(hzn:z=none){q:E}{xs:List (Option E)}(hc:aQ sz s=some (f,some q :: xs))(hz:A.size=sz)(h:Agree ν s.env A)(hk:b.kind ≠ .early)(hf:P.funcs[f]? = some fn)(hname:(fn.name == "runtime.NumGoroutine")=false)(hb:fn.body.isNone=true)(hn:Extern.findNext fn=none)
   (he:Extern.find fn=some Extern.Sync.semacquire) {ad:Addr} (hq:q.den ν = .pointer (some ad)):∃g',Behind ν sz b ds cs (next s z) g' ∧ (∀(w:World) (n:Int),w.cell? ad=some (.int .u32 n)→n≠0→w.frozen? ad=false→stepG P m (G (b.at ⟨A,ds⟩ s.todo) cs) w = .go g' (w.setCell ad (.int .u32 (n - 1))) (semEvents ad)) ∧
    ∀w:World,w.cell? ad=some (.int .u32 0)→stepG P m (G (b.at ⟨A,ds⟩ s.todo) cs) w = .go { G (b.at ⟨A,ds⟩ s.todo) cs with status:=.blocked } w #[]:=by
 obtain ⟨ops,i,rest,k,o,args,ats,h1,h2,h3,h4,h5,h6,h7⟩:=gq hc hz h b ds cs
 refine ⟨_,h7 z (.tuple #[]) (fun u hu=>by rw [hzn] at hu;cases hu),fun w n hcell hn0 hfr=>?_,fun w hcell=>?_⟩
 · rw [h1]
   exact stepG_semacquire h2 h3 hk h4 hf hname hb hn he ((h5 0 q rfl).trans (by rw [hq])) hcell hn0 hfr
 · rw [h1]
   exact stepG_semacquire_wait h2 h3 h4 hf hname hb hn he ((h5 0 q rfl).trans (by rw [hq])) hcell
theorem Et{z:Option E}(hzn:z=none){q:E}{xs:List (Option E)}(hc:aQ sz s=some (f,some q :: xs))(hz:A.size=sz)(h:Agree ν s.env A)(hk:b.kind ≠ .early)(hf:P.funcs[f]? = some fn)(hname:(fn.name == "runtime.NumGoroutine")=false)(hb:fn.body.isNone=true)(hn:Extern.findNext fn=none)
   (he:Extern.find fn=some Extern.Sync.semrelease) {ad:Addr} (hq:q.den ν = .pointer (some ad)):∃g',Behind ν sz b ds cs (next s z) g' ∧ (∀(w:World) (n:Int),w.cell? ad=some (.int .u32 n)→w.frozen? ad=false→stepG P m (G (b.at ⟨A,ds⟩ s.todo) cs) w = .go g' (w.setCell ad (.int .u32 (IntKind.u32.wrap (n+1)))) (semEvents ad)):=by
 obtain ⟨ops,i,rest,k,o,args,ats,h1,h2,h3,h4,h5,h6,h7⟩:=gq hc hz h b ds cs
 refine ⟨_,h7 z (.tuple #[]) (fun u hu=>by rw [hzn] at hu;cases hu),fun w n hcell hfr=>?_⟩
 rw [h1]
 exact stepG_semrelease h2 h3 hk h4 hf hname hb hn he ((h5 0 q rfl).trans (by rw [hq])) hcell hfr
theorem BD{q:E}(hc:aQ sz s=some (f,[some q]))(hz:A.size=sz)(h:Agree ν s.env A)(hk:b.kind ≠ .early)(hf:P.funcs[f]? = some fn)(hname:(fn.name == "runtime.NumGoroutine")=false)(hb:fn.body.isNone=true)(hn:Extern.findNext fn=none)
   (he:Extern.find fn=some Extern.Sync.canSpin) {k:IntKind} {n:Int} (hq:q.den ν = .int k n) (c:Bool):∃g',Behind ν sz b ds cs (next s (some (.b c))) g' ∧ ∀w:World,(n < 4→w.spins=c→stepG P m (G (b.at ⟨A,ds⟩ s.todo) cs) w = .go g' w.asked #[])∧(4≤n→c=false→stepG P m (G (b.at ⟨A,ds⟩ s.todo) cs) w = .go g' w #[]):=by
 obtain ⟨ops,i,rest,k',o,args,ats,h1,h2,h3,h4,h5,h6,h7⟩:=gq hc hz h b ds cs
 have hx:args.map (Act.eval ⟨A,ds⟩) = #[.int k n]:=by
   apply Array.ext_getElem?
   intro j
   rcases j with _|j
   ·rw [h5 0 q rfl,hq];rfl
   ·rw [Array.getElem?_eq_none (by simp [h6]),Array.getElem?_eq_none (by simp)]
 refine ⟨_,h7 (some (.b c)) (.bool c) (fun u hu=>by cases hu;rfl),fun w=>⟨fun h4' hs=>?_,fun h4' hs=>?_⟩⟩
 · rw [h1,stepG_canSpin_ask h2 h3 hk h4 hf hname hb hn he hx h4',hs]
 · rw [h1,stepG_canSpin_no h2 h3 hk h4 hf hname hb hn he hx h4',hs]
theorem Nw{z:Option E}{xs:List (Option E)}(hc:aQ sz s=some (f,xs))(hz:A.size=sz)(h:Agree ν s.env A)(hk:b.kind ≠ .early)(hf:P.funcs[f]? = some fn)(hname:(fn.name == "runtime.NumGoroutine")=false)(hb:fn.body.isNone=true)(hn:Extern.findNext fn=none)
   (he:Extern.find fn=some Extern.OsHooks.nano) (hq:fn.norace=true) (tv:Int) (hv:∀u,z=some u→Value.int .i64 tv=u.den ν):∃g',Behind ν sz b ds cs (next s z) g' ∧ ∀w:World,((w.os.mono+w.tick:Nat):Int)=tv→stepG P m (G (b.at ⟨A,ds⟩ s.todo) cs) w = .go g' w.later #[]:=by
 obtain ⟨ops,i,rest,k,o,args,ats,h1,h2,h3,h4,h5,h6,h7⟩:=gq hc hz h b ds cs
 refine ⟨_,h7 z (.int .i64 tv) hv,fun w hw=>?_⟩
 rw [h1,stepG_nanotime h2 h3 hk h4 hf hname hb hn he hq,hw]
theorem Wl(v:Value){z:Option E}(hv:∀u,z=some u→v=u.den ν){xs:List (Option E)}(hc:aQ sz s=some (f,xs))(hz:A.size=sz)(h:Agree ν s.env A)(hk:b.kind ≠ .early)(hf:P.funcs[f]? = some fn)(hname:(fn.name == "runtime.NumGoroutine")=false)(hb:fn.body.isNone=true)(hn:Extern.findNext fn=none)
   (he:Extern.find fn=some (fun _=>pure v)):∃g',Behind ν sz b ds cs (next s z) g' ∧ ∀w,stepG P m (G (b.at ⟨A,ds⟩ s.todo) cs) w = .go g' w #[]:=by
 obtain ⟨ops,i,rest,k,o,args,ats,h1,h2,h3,h4,h5,h6,h7⟩:=gq hc hz h b ds cs
 refine ⟨_,h7 z v hv,fun w=>?_⟩
 rw [h1]
 exact stepG_entry_pure v h2 h3 hk h4 hf hname hb hn he
theorem Aj{q:E}{ty:TypeId}(hty:∀w,Sem.run P (underlying ty) w = .ok (.int .i32) w)(hsz:∀w,Sem.run P (Go.sizeOf ty) w = .ok 1 w)(hag:∀w,Sem.run P (isAgg ty) w = .ok false w){z:Option E}(hc:loadAt sz s=some (ty,some q))(hz:A.size=sz)(h:Agree ν s.env A)(hk:b.kind ≠ .early)(hq:(P.funcs[b.fn]?).any (·.norace)=true)
   {ad:Addr} (hp:q.den ν = .pointer (some ad)) {v:Int} (hv:∀u,z=some u→Value.int .i32 v=u.den ν) :
   ∃g',Behind ν sz b ds cs (next s z) g' ∧ ∀w:World,w.cell? ad=some (.int .i32 v)→stepG P m (G (b.at ⟨A,ds⟩ s.todo) cs) w = .go g' w #[]:=by
 obtain ⟨o,y,ho,hop,hy⟩:=PG hc
 obtain ⟨ops,i,rest,k,h1,h2,h3,h4,h5⟩:=tY (ds:=ds) ho hz h
 obtain ⟨k1,k2,k3⟩:=h5 z (.int .i32 v) hv
 have hx:=(dX (ds:=ds) h hy).trans hp
 refine ⟨G (b.at (Act.put ⟨A,ds⟩ o.dst (.int .i32 v)) (.inRegion ops rest :: k)) cs,⟨_,k1,k3,by rw [h4,←k2]⟩,fun w hcell=>?_⟩
 rw [h1]
 have hr:(execOp (Act.eval ⟨A,ds⟩) o).run P w = .ok (.value (.int .i32 v)) w:=by
   unfold execOp
   simp only [hop,hx]
   simp [go_sem,hcell,hsz,hag]
 have he:(execOp (Act.eval ⟨A,ds⟩) o).events P w #[] = #[⟨.cell ad,false,false⟩]:=by
   unfold execOp
   simp only [hop,hx]
   simp [go_sem,hcell,hsz,hag]
 rw [stepG_value h2 h3 hk hr]
 unfold listed
 rw [he,seen_def,hq]
 simp [seenStep]
end
end Go.Sy
namespace Go.Mx
open Go.Ren Go.Sy
def bn(b:Bool)(k:Int):Int:=if b then k else 0
def tab(l w s n0 n1 z late:Bool):Tab:=
 [(.nil (.v 0),.v 0),(.Wj (.v 0) 0,.v 1),(.Wj (.v 0) 1,.v 2),
  (.bin .and (.v 4) (.i .i32 5),.i .i32 (bn l 1+bn s 4)),(.bin .and (.v 4) (.i .i32 1),.i .i32 (bn l 1)),(.bin .and (.v 4) (.i .i32 4),.i .i32 (bn s 4)),(.bin .and (.v 4) (.i .i32 2),.i .i32 (bn w 2)),
  (.bin .and (.v 4) (.i .i32 3),.i .i32 (bn l 1+bn w 2)),(.bin .shr (.v 4) (.i .u64 3),.v 8),
  (.bin .eql (.i .i32 0) (.i .i32 0),.b true),(.bin .eql (.i .i32 1) (.i .i32 0),.b false),(.bin .eql (.i .i32 2) (.i .i32 0),.b false),(.bin .eql (.i .i32 3) (.i .i32 0),.b false),(.bin .eql (.i .i32 4) (.i .i32 0),.b false),(.bin .eql (.i .i32 5) (.i .i32 0),.b false),
  (.bin .eql (.i .i32 0) (.i .i32 1),.b false),(.bin .eql (.i .i32 1) (.i .i32 1),.b true),(.bin .eql (.i .i32 4) (.i .i32 1),.b false),(.bin .eql (.i .i32 5) (.i .i32 1),.b false),
  (.bin .neq (.i .i32 0) (.i .i32 0),.b false),(.bin .neq (.i .i32 1) (.i .i32 0),.b true),(.bin .neq (.i .i32 2) (.i .i32 0),.b true),(.bin .neq (.i .i32 3) (.i .i32 0),.b true),(.bin .neq (.i .i32 4) (.i .i32 0),.b true),(.bin .neq (.i .i32 5) (.i .i32 0),.b true),
  (.bin .neq (.v 8) (.i .i32 0),.b !n0),(.bin .eql (.v 8) (.i .i32 0),.b n0),(.bin .eql (.v 8) (.i .i32 1),.b n1),
  (.bin .or (.v 4) (.i .i32 1),.v 10),(.bin .add (.v 4) (.i .i32 8),.v 11),(.bin .add (.v 10) (.i .i32 8),.v 18),(.bin .or (.v 18) (.i .i32 4),.v 12),(.bin .or (.v 4) (.i .i32 2),.v 14),
  (.bin .and (.v 10) (.i .i32 2),.i .i32 (bn w 2)),(.bin .and (.v 18) (.i .i32 2),.i .i32 (bn w 2)),(.bin .and (.v 12) (.i .i32 2),.i .i32 (bn w 2)),
  (.bin .andNot (.v 10) (.i .i32 2),.v 15),(.bin .andNot (.v 18) (.i .i32 2),.v 16),(.bin .andNot (.v 12) (.i .i32 2),.v 17),
  (.bin .add (.v 5) (.i .i64 1),.v 6),(.bin .neq (.v 3) (.i .i64 0),.b !z),(.bin .eql (.v 3) (.i .i64 0),.b z),
  (.bin .sub (.i .i32 (-7)) (.i .i32 4),.i .i32 (-11)),(.bin .sub (.v 20) (.v 3),.v 21),(.bin .gtr (.v 21) (.i .i64 1000000),.b late)]
def uT(aw sv:Bool):Env:=[(0,some (.v 0)),(2,some (.v 3)),(3,some (.b sv)),(4,some (.b aw)),(5,some (.v 5)),(6,some (.v 4))]
def head(L:ah)(aw sv:Bool):S:=⟨uT aw sv,[.code (SN L),.inLoop (SN L),.inBlock 0,.code (SQ L)],[]⟩
end Go.Mx
namespace Go.Mx
open Go.Ren Go.Sy
open Go.Conc hiding Goes
def band(a b:Int):Int:=IntKind.i32.wrap ((BitVec.ofInt 32 a &&& BitVec.ofInt 32 b).toNat:Int)
def tZ(a b:Int):Int:=IntKind.i32.wrap ((BitVec.ofInt 32 a ||| BitVec.ofInt 32 b).toNat:Int)
def oP(a b:Int):Int:=IntKind.i32.wrap ((BitVec.ofInt 32 a &&& ~~~BitVec.ofInt 32 b).toNat:Int)
def W4(l w s:Bool)(n:Nat):Int:=bn l 1+bn w 2+bn s 4+8 * (n:Int)
theorem Ny:∀n,n < 64→∀l w s:Bool,band (W4 l w s n) 5=bn l 1+bn s 4∧band (W4 l w s n) 1=bn l 1∧band (W4 l w s n) 4=bn s 4∧band (W4 l w s n) 2=bn w 2∧band (W4 l w s n) 3=bn l 1+bn w 2∧band (W4 l w s n) 7=bn l 1+bn w 2+bn s 4:=by decide +kernel
theorem IM:∀n,n < 64→∀l w s:Bool,tZ (W4 l w s n) 1=W4 true w s n∧tZ (W4 l w s n) 2=W4 l true s n∧tZ (W4 l w s n) 4=W4 l w true n∧oP (W4 l w s n) 2=W4 l false s n:=by decide +kernel
theorem Nz:∀n,n < 64→∀l w s:Bool,(W4 l w s n).fdiv 8=(n:Int)∧IntKind.i32.wrap (W4 l w s n)=W4 l w s n:=by decide +kernel
theorem Yk{l w s:Bool}{n:Nat}:W4 l w s n+8=W4 l w s (n+1):=by unfold W4;omega
def fl(k:Nat):Bool:=k == 1
theorem fP{m:Wd}(h:m.Bits):(m.num:Int)=W4 (fl m.L) (fl m.W) (fl m.S) m.n:=by
 obtain ⟨L,W,S,n⟩:=m
 obtain ⟨h1,h2,h3⟩:=h
 simp only at h1 h2 h3
 have e1:L=0∨L=1:=by omega
 have e2:W=0∨W=1:=by omega
 have e3:S=0∨S=1:=by omega
 rcases e1 with rfl|rfl<;>rcases e2 with rfl|rfl<;>rcases e3 with rfl|rfl<;>simp [Wd.num,W4,fl,bn]<;>omega
section
variable{P:Program}
theorem acV(ty:TypeId)(xo yo:Operand)(a b:Int):Go.Sy.Yields P (do eqGuard .and ty xo yo (.int .i32 a) (.int .i32 b);binOp .and ty (.int .i32 a) (.int .i32 b)) (.int .i32 (band a b)):=fun w=>by
 have e:Op.intBits .and .i32 a b=pure (.int .i32 (band a b)):=rfl
 exact ⟨by simp [eqGuard,binOp,go_sem,e],fun es=>by simp [eqGuard,binOp,go_sem,e]⟩
theorem ahm(ty:TypeId)(xo yo:Operand)(a b:Int):Go.Sy.Yields P (do eqGuard .or ty xo yo (.int .i32 a) (.int .i32 b);binOp .or ty (.int .i32 a) (.int .i32 b)) (.int .i32 (tZ a b)):=fun w=>by
 have e:Op.intBits .or .i32 a b=pure (.int .i32 (tZ a b)):=rfl
 exact ⟨by simp [eqGuard,binOp,go_sem,e],fun es=>by simp [eqGuard,binOp,go_sem,e]⟩
theorem Zw(ty:TypeId)(xo yo:Operand)(a b:Int):Go.Sy.Yields P (do eqGuard .andNot ty xo yo (.int .i32 a) (.int .i32 b);binOp .andNot ty (.int .i32 a) (.int .i32 b)) (.int .i32 (oP a b)):=fun w=>by
 have e:Op.intBits .andNot .i32 a b=pure (.int .i32 (oP a b)):=rfl
 exact ⟨by simp [eqGuard,binOp,go_sem,e],fun es=>by simp [eqGuard,binOp,go_sem,e]⟩
theorem acW(k:IntKind)(ty:TypeId)(xo yo:Operand)(a b:Int):Go.Sy.Yields P (do eqGuard .add ty xo yo (.int k a) (.int k b);binOp .add ty (.int k a) (.int k b)) (.int k (k.wrap (a+b))):=fun w=>⟨by simp [eqGuard,binOp,Op.intArith,go_sem],fun es=>by simp [eqGuard,binOp,Op.intArith,go_sem]⟩
theorem acX(k:IntKind)(ty:TypeId)(xo yo:Operand)(a b:Int):Go.Sy.Yields P (do eqGuard .sub ty xo yo (.int k a) (.int k b);binOp .sub ty (.int k a) (.int k b)) (.int k (k.wrap (a - b))):=fun w=>⟨by simp [eqGuard,binOp,Op.intArith,go_sem],fun es=>by simp [eqGuard,binOp,Op.intArith,go_sem]⟩
theorem acY(ty:TypeId)(xo yo:Operand)(a:Int):Go.Sy.Yields P (do eqGuard .shr ty xo yo (.int .i32 a) (.int .u64 3);binOp .shr ty (.int .i32 a) (.int .u64 3)) (.int .i32 (a.fdiv 8)):=fun w=>⟨by simp [eqGuard,binOp,Op.shift,go_sem,IntKind.bits],fun es=>by simp [eqGuard,binOp,Op.shift,go_sem]⟩
theorem acZ(k:IntKind)(ty:TypeId)(xo yo:Operand)(a b:Int):Go.Sy.Yields P (do eqGuard .eql ty xo yo (.int k a) (.int k b);binOp .eql ty (.int k a) (.int k b)) (.bool (a == b)):=fun w=>⟨by simp [eqGuard,binOp,Op.intCmp,go_sem],fun es=>by simp [eqGuard,binOp,Op.intCmp,go_sem]⟩
theorem ac0(k:IntKind)(ty:TypeId)(xo yo:Operand)(a b:Int):Go.Sy.Yields P (do eqGuard .neq ty xo yo (.int k a) (.int k b);binOp .neq ty (.int k a) (.int k b)) (.bool (a != b)):=fun w=>⟨by simp [eqGuard,binOp,Op.intCmp,go_sem],fun es=>by simp [eqGuard,binOp,Op.intCmp,go_sem]⟩
theorem ac1(k:IntKind)(ty:TypeId)(xo yo:Operand)(a b:Int):Go.Sy.Yields P (do eqGuard .gtr ty xo yo (.int k a) (.int k b);binOp .gtr ty (.int k a) (.int k b)) (.bool (decide (a > b))):=fun w=>⟨by simp [eqGuard,binOp,Op.intCmp,go_sem],fun es=>by simp [eqGuard,binOp,Op.intCmp,go_sem]⟩
end
end Go.Mx
namespace Go.Mx
open Go.Ren Go.Sy
open Go.Conc hiding Goes
def nu(Mu:Nat)(wst it tv:Int)(o:Wd)(nw:Int):Nat→Value
 | 0|1=>.pointer (some ⟨Mu,0,none⟩)
 | 2=>.pointer (some ⟨Mu,1,none⟩)
 | 3=>.int .i64 wst
 | 4=>.int .i32 (o.num:Int)
 | 5=>.int .i64 it
 | 6=>.int .i64 (IntKind.i64.wrap (it+1))
 | 8=>.int .i32 ((o.num:Int).fdiv 8)
 | 10=>.int .i32 (tZ (o.num:Int) 1)
 | 11=>.int .i32 (IntKind.i32.wrap ((o.num:Int)+8))
 | 12=>.int .i32 (tZ (IntKind.i32.wrap (tZ (o.num:Int) 1+8)) 4)
 | 18=>.int .i32 (IntKind.i32.wrap (tZ (o.num:Int) 1+8))
 | 14=>.int .i32 (tZ (o.num:Int) 2)
 | 15=>.int .i32 (oP (tZ (o.num:Int) 1) 2)
 | 16=>.int .i32 (oP (IntKind.i32.wrap (tZ (o.num:Int) 1+8)) 2)
 | 17=>.int .i32 (oP (tZ (IntKind.i32.wrap (tZ (o.num:Int) 1+8)) 4) 2)
 | 20=>.int .i64 tv
 | 21=>.int .i64 (IntKind.i64.wrap (tv - wst))
 | 30=>.int .i32 nw
 | 40=>.int .i32 (IntKind.i32.wrap ((o.num:Int)+1))
 | 41=>.int .i32 (IntKind.i32.wrap ((o.num:Int) - 8))
 | 42=>.int .i32 (tZ (IntKind.i32.wrap ((o.num:Int) - 8)) 2)
 | _=>undef
def xR(wst tv:Int)(o:Wd):Tab:=tab (fl o.L) (fl o.W) (fl o.S) (o.n == 0) (o.n == 1) (wst == 0) (decide (IntKind.i64.wrap (tv - wst) > 1000000))
section
variable{P:Program}{tI:TypeId}{ν:Nat→Value}{x y z:E}{a b:Int}{k:IntKind}
theorem uK(hx:x.den ν = .int .i32 a)(hy:y.den ν = .int .i32 b)(hz:z.den ν = .int .i32 (band a b)):rO P tI ν (.bin .and x y) z:=fun ty xo yo=>by rw [hx,hy,hz];exact acV ty xo yo a b
theorem Wn(hx:x.den ν = .int .i32 a)(hy:y.den ν = .int .i32 b)(hz:z.den ν = .int .i32 (tZ a b)):rO P tI ν (.bin .or x y) z:=fun ty xo yo=>by rw [hx,hy,hz];exact ahm ty xo yo a b
theorem KC(hx:x.den ν = .int .i32 a)(hy:y.den ν = .int .i32 b)(hz:z.den ν = .int .i32 (oP a b)):rO P tI ν (.bin .andNot x y) z:=fun ty xo yo=>by rw [hx,hy,hz];exact Zw ty xo yo a b
theorem NC(hx:x.den ν = .int k a)(hy:y.den ν = .int k b)(hz:z.den ν = .int k (k.wrap (a+b))):rO P tI ν (.bin .add x y) z:=fun ty xo yo=>by rw [hx,hy,hz];exact acW k ty xo yo a b
theorem S9(hx:x.den ν = .int k a)(hy:y.den ν = .int k b)(hz:z.den ν = .int k (k.wrap (a - b))):rO P tI ν (.bin .sub x y) z:=fun ty xo yo=>by rw [hx,hy,hz];exact acX k ty xo yo a b
theorem ac2(hx:x.den ν = .int .i32 a)(hz:z.den ν = .int .i32 (a.fdiv 8)):rO P tI ν (.bin .shr x (.i .u64 3)) z:=fun ty xo yo=>by rw [hx,hz];exact acY ty xo yo a
theorem oQ(hx:x.den ν = .int k a)(hy:y.den ν = .int k b)(hz:z.den ν = .bool (a == b)):rO P tI ν (.bin .eql x y) z:=fun ty xo yo=>by rw [hx,hy,hz];exact acZ k ty xo yo a b
theorem rP(hx:x.den ν = .int k a)(hy:y.den ν = .int k b)(hz:z.den ν = .bool (a != b)):rO P tI ν (.bin .neq x y) z:=fun ty xo yo=>by rw [hx,hy,hz];exact ac0 k ty xo yo a b
theorem ac3(hx:x.den ν = .int k a)(hy:y.den ν = .int k b)(hz:z.den ν = .bool (decide (a > b))):rO P tI ν (.bin .gtr x y) z:=fun ty xo yo=>by rw [hx,hy,hz];exact ac1 k ty xo yo a b
end
theorem DI{z:E}{ν:Nat→Value}{a b:Int}(h:z = .i .i32 b)(e:a=b):z.den ν = .int .i32 a:=by rw [h,e];rfl
theorem Tc{o:Wd}(ho:o.Bits)(hn:o.n < 64):band (o.num:Int) 5=bn (fl o.L) 1+bn (fl o.S) 4∧band (o.num:Int) 1=bn (fl o.L) 1∧band (o.num:Int) 4=bn (fl o.S) 4∧band (o.num:Int) 2=bn (fl o.W) 2∧band (o.num:Int) 3=bn (fl o.L) 1+bn (fl o.W) 2∧band (o.num:Int) 7=bn (fl o.L) 1+bn (fl o.W) 2+bn (fl o.S) 4:=by
 rw [fP ho];exact Ny _ hn _ _ _
theorem ac4{o:Wd}(ho:o.Bits)(hn:o.n < 64):(o.num:Int).fdiv 8=o.n:=by rw [fP ho];exact (Nz _ hn _ _ _).1
theorem Td{o:Wd}(ho:o.Bits)(hn:o.n < 64):IntKind.i32.wrap (o.num:Int)=o.num:=by rw [fP ho];exact (Nz _ hn _ _ _).2
theorem ac5{o:Wd}(ho:o.Bits)(hn:o.n < 63):IntKind.i32.wrap ((o.num:Int)+8)=W4 (fl o.L) (fl o.W) (fl o.S) (o.n+1):=by rw [fP ho,Yk];exact (Nz _ (by omega) _ _ _).2
theorem Ak(a b:Nat):((a:Int) == (b:Int))=(a == b):=by
 rw [Bool.eq_iff_iff];simp only [beq_iff_eq];constructor<;>intro h<;>omega
theorem jH{P:Program}{L:ah}(H:dQ P L){Mu:Nat}{wst it tv:Int}{o:Wd}{nw:Int}(ho:o.Bits)(hn:o.n < 63):aW P L.mu.tIMutex (nu Mu wst it tv o nw) (xR wst tv o):=by
 obtain ⟨b5,b1,b4,b2,b3,_⟩:=Tc ho (by omega)
 have hs:=ac4 ho (by omega)
 have o1:=(IM o.n (by omega) (fl o.L) (fl o.W) (fl o.S)).1
 have a1:=(Ny o.n (by omega) true (fl o.W) (fl o.S)).2.2.2.1
 have a2:=(Ny (o.n+1) (by omega) true (fl o.W) (fl o.S)).2.2.2.1
 have o2:=(IM (o.n+1) (by omega) true (fl o.W) (fl o.S)).2.2.1
 have a3:=(Ny (o.n+1) (by omega) true (fl o.W) true).2.2.2.1
 have n4:=fP ho
 have p8:IntKind.i32.wrap (tZ (o.num:Int) 1+8)=W4 true (fl o.W) (fl o.S) (o.n+1):=by
   rw [n4,o1,Yk];exact (Nz _ (by omega) _ _ _).2
 unfold aW xR tab
 simp only [List.forall_mem_cons]
 have Wj:∀i:Nat,i < 2→Go.Sy.Yields P (Instr.fieldAt L.mu.tIMutex (.pointer (some ⟨Mu,0,none⟩)) i) (.pointer (some ⟨Mu,i,none⟩)):=by
   intro i hi
   have hu:=H.lib.runUnderlying_tIMutex
   have h21:=H.lib.sizeOf_t21
   have hU:=H.sizeOf_tU32
   have hi':i=0∨i=1:=by omega
   rcases hi' with rfl|rfl
   ·exact fun w=>⟨by simp [go_sem,hu,h21,hU],fun es=>by simp [go_sem,hu,h21,hU]⟩
   ·exact fun w=>⟨by simp [go_sem,hu,h21,hU],fun es=>by simp [go_sem,hu,h21,hU]⟩
 refine ⟨⟨rfl,_,rfl⟩,Wj 0 (by omega),Wj 1 (by omega),uK rfl rfl (DI rfl b5),uK rfl rfl (DI rfl b1),uK rfl rfl (DI rfl b4),uK rfl rfl (DI rfl b2),uK rfl rfl (DI rfl b3),ac2 rfl rfl,
   oQ rfl rfl rfl,oQ rfl rfl rfl,oQ rfl rfl rfl,oQ rfl rfl rfl,oQ rfl rfl rfl,oQ rfl rfl rfl,oQ rfl rfl rfl,oQ rfl rfl rfl,oQ rfl rfl rfl,oQ rfl rfl rfl,
   rP rfl rfl rfl,rP rfl rfl rfl,rP rfl rfl rfl,rP rfl rfl rfl,rP rfl rfl rfl,rP rfl rfl rfl,
   rP rfl rfl ?_,oQ rfl rfl ?_,oQ rfl rfl ?_,Wn rfl rfl rfl,NC rfl rfl rfl,NC rfl rfl rfl,Wn rfl rfl rfl,Wn rfl rfl rfl,uK rfl rfl (DI rfl ?_),uK rfl rfl (DI rfl ?_),uK rfl rfl (DI rfl ?_),KC rfl rfl rfl,KC rfl rfl rfl,KC rfl rfl rfl,
   NC rfl rfl rfl,rP rfl rfl rfl,oQ rfl rfl rfl,S9 rfl rfl rfl,S9 rfl rfl rfl,ac3 rfl rfl rfl,fun p hp=>absurd hp (List.not_mem_nil)⟩
 · rw [hs]
   have:=Ak o.n 0
   show Value.bool (!(o.n == 0))=Value.bool (!((o.n:Int) == ((0:Nat):Int)))
   rw [this]
 · rw [hs]
   show Value.bool (o.n == 0)=Value.bool ((o.n:Int) == ((0:Nat):Int))
   rw [Ak]
 · rw [hs]
   show Value.bool (o.n == 1)=Value.bool ((o.n:Int) == ((1:Nat):Int))
   rw [Ak]
 · rw [n4,o1];exact a1
 · rw [p8];exact a2
 · rw [p8,o2];exact a3
section
variable{Mu:Nat}{wst it tv:Int}{o:Wd}{nw:Int}
theorem jC:nu Mu wst it tv o nw 0 = .pointer (some ⟨Mu,0,none⟩):=rfl
theorem jI:nu Mu wst it tv o nw 1 = .pointer (some ⟨Mu,0,none⟩):=rfl
theorem yf:nu Mu wst it tv o nw 2 = .pointer (some ⟨Mu,1,none⟩):=rfl
theorem zW:nu Mu wst it tv o nw 3 = .int .i64 wst:=rfl
theorem rQ:nu Mu wst it tv o nw 4 = .int .i32 (o.num:Int):=rfl
theorem Gh:nu Mu wst it tv o nw 5 = .int .i64 it:=rfl
theorem ahn:nu Mu wst it tv o nw 6 = .int .i64 (IntKind.i64.wrap (it+1)):=rfl
theorem ac6:nu Mu wst it tv o nw 10 = .int .i32 (tZ (o.num:Int) 1):=rfl
theorem ac7:nu Mu wst it tv o nw 11 = .int .i32 (IntKind.i32.wrap ((o.num:Int)+8)):=rfl
theorem ND:nu Mu wst it tv o nw 14 = .int .i32 (tZ (o.num:Int) 2):=rfl
theorem ac8:nu Mu wst it tv o nw 15 = .int .i32 (oP (tZ (o.num:Int) 1) 2):=rfl
theorem ac9:nu Mu wst it tv o nw 16 = .int .i32 (oP (IntKind.i32.wrap (tZ (o.num:Int) 1+8)) 2):=rfl
theorem ada:nu Mu wst it tv o nw 17 = .int .i32 (oP (tZ (IntKind.i32.wrap (tZ (o.num:Int) 1+8)) 4) 2):=rfl
theorem adb:nu Mu wst it tv o nw 18 = .int .i32 (IntKind.i32.wrap (tZ (o.num:Int) 1+8)):=rfl
theorem Tf:nu Mu wst it tv o nw 20 = .int .i64 tv:=rfl
theorem Ti:nu Mu wst it tv o nw 30 = .int .i32 nw:=rfl
theorem NF:nu Mu wst it tv o nw 42 = .int .i32 (tZ (IntKind.i32.wrap ((o.num:Int) - 8)) 2):=rfl
end
def oz(l w s n0 n1:Bool):Tab:=(.bin .add (.v 4) (.i .i32 1),.v 40) :: (.bin .and (.v 40) (.i .i32 1),.i .i32 (bn (!l) 1)) :: (.bin .and (.v 4) (.i .i32 7),.i .i32 (bn l 1+bn w 2+bn s 4)) :: (.bin .neq (.i .i32 6) (.i .i32 0),.b true) :: (.bin .neq (.i .i32 7) (.i .i32 0),.b true) :: (.bin .sub (.v 4) (.i .i32 8),.v 41) :: (.bin .or (.v 41) (.i .i32 2),.v 42) :: tab l w s n0 n1 true false
theorem aho:∀n,n < 64→∀l w s:Bool,band (IntKind.i32.wrap (W4 l w s n+1)) 1=bn (!l) 1:=by decide +kernel
theorem ahp:∀n,n < 63→tZ (IntKind.i32.wrap (W4 false false false (n+1) - 8)) 2=W4 false true false n:=by decide +kernel
theorem wR{P:Program}{L:ah}(H:dQ P L){Mu:Nat}{o:Wd}{nw:Int}(ho:o.Bits)(hn:o.n < 63):aW P L.mu.tIMutex (nu Mu 0 0 0 o nw) (oz (fl o.L) (fl o.W) (fl o.S) (o.n == 0) (o.n == 1)):=by
 have hT:=jH H (Mu:=Mu) (wst:=0) (it:=0) (tv:=0) (nw:=nw) ho hn
 have e:xR 0 0 o=tab (fl o.L) (fl o.W) (fl o.S) (o.n == 0) (o.n == 1) true false:=by
   unfold xR
   have h2:decide (IntKind.i64.wrap ((0:Int) - 0) > 1000000)=false:=by decide +kernel
   rw [h2];rfl
 rw [e] at hT
 obtain ⟨_,_,_,_,_,b7⟩:=Tc ho (by omega:o.n < 64)
 unfold aW oz
 simp only [List.forall_mem_cons]
 refine ⟨NC rfl rfl rfl,uK rfl rfl (DI rfl ?_),uK rfl rfl (DI rfl b7),rP rfl rfl rfl,rP rfl rfl rfl,S9 rfl rfl rfl,Wn rfl rfl rfl,hT⟩
 rw [fP ho]
 exact aho _ (by omega) _ _ _
attribute [irreducible] nu
end Go.Mx
namespace Go.Sy
open Go.Ren
open Go.Conc hiding Goes
def sub(s t:Env):List (Option E×Option E):=t.map fun p=>(get s p.1,p.2)
def lit:E→Bool
 | .v _=>false
 | _=>true
def kY(ρ:List (E×E))(p:Option E×Option E):Bool:=match p.2 with
 | none=>true
 | some x=>match p.1 with
   |none=>false
   |some y=>(decide (y=x) && lit y) || ρ.contains (y,x)
theorem uf{ν Ap:Nat→Value}{s t:Env}{A:Array Value}{ρ:List (E×E)}(h:Agree ν s A)(hp:(sub s t).all (kY ρ)=true)(hρ:∀p∈ρ,p.1.den ν=p.2.den Ap):Agree Ap t A:=by
 intro k x hx
 have hm:(k,some x)∈t:=by
   induction t with
   |nil=>cases hx
   |cons p t ih=>
    obtain ⟨j,y⟩:=p
    unfold get at hx
    split at hx
    ·rename_i e
     have:j=k:=by simpa using e
     subst this;subst hx
     exact List.mem_cons_self ..
    ·exact List.mem_cons_of_mem _ (ih (by unfold sub at hp;simp only [List.map_cons,List.all_cons,Bool.and_eq_true] at hp;exact hp.2) hx)
 have h1:=List.all_eq_true.1 hp (get s k,some x) (List.mem_map.2 ⟨_,hm,rfl⟩)
 unfold kY at h1
 dsimp only at h1
 cases hg:get s k with
 | none=>rw [hg] at h1;cases h1
 | some y=>
   rw [hg] at h1
   dsimp only at h1
   rw [h k y hg]
   simp only [Bool.or_eq_true,Bool.and_eq_true,decide_eq_true_eq,List.contains_iff_mem] at h1
   rcases h1 with ⟨rfl,hl⟩|h1
   ·cases y<;>first|rfl|cases hl
   ·exact congrArg some (hρ _ h1)
structure To(tI:TypeId)(sz:Nat)(T:Tab)(n k:Nat)(s t:S)(ρ:List (E×E)):Prop where
 todo:(run sz T n s).todo=t.todo
 log:(run sz T n s).log=List.replicate k tI
 env:(sub (run sz T n s).env t.env).all (kY ρ)=true
theorem To.walk{P:Program}{tI:TypeId}{sz n k:Nat}{T:Tab}{s t:S}{ρ:List (E×E)}(h:To tI sz T n k s t ρ){ν Ap:Nat→Value}(hT:aW P tI ν T)(hρ:∀p∈ρ,p.1.den ν=p.2.den Ap){b:Frame}{ds:List Deferred}{cs:List Frame}(hk:b.kind ≠ .early){m:Bool}{I:World→Prop}{X:Event→Prop}{Q:Nat→Goroutine→Prop}{d:Nat}{g:Goroutine}
   (hg:Behind ν sz b ds cs s g) (q:∀g',Behind Ap sz b ds cs t g' → ag P m I X Q d g'):ag P m I X Q d g:=by
 obtain ⟨A,hz,ha,rfl⟩:=hg
 refine SX hT hk n s A hz ha (fun x hx=>?_) fun A' hz' ha'=>?_
 · rw [h.log] at hx;exact List.eq_of_mem_replicate hx
 · rw [h.todo]
   exact q _ ⟨A',hz',uf ha' h.env hρ,rfl⟩
end Go.Sy
namespace Go.Mx
open Go.Ren Go.Sy
open Go.Conc hiding Goes
def T0:Tab:=tab true false false false false true false
def fresh(e:Env)(t:List Item):S:=⟨e,t,[]⟩
def enS(L:ah):S:=fresh [(0,some (.v 0))] [.code (BC L)]
def sqR(L:ah):S:=run 139 T0 9 (head L false false)
def c1R(L:ah):S:=run 139 T0 25 (next (sqR L) (some (.b true)))
def dsR(L:ah):S:=run 139 T0 8 (next (c1R L) (some (.b true)))
def rBR(L:ah):S:=run 139 T0 12 (next (dsR L) none)
def c2R(L:ah):S:=run 139 T0 61 (next (sqR L) (some (.b false)))
def rCR(L:ah):S:=run 139 T0 6 (next (c2R L) (some (.b false)))
def t1R(L:ah):S:=run 139 T0 25 (next (c2R L) (some (.b true)))
def s1R(L:ah):S:=run 139 T0 8 (next (t1R L) (some (.v 3)))
def t2R(L:ah):S:=run 139 T0 5 (next (s1R L) none)
def r2R(L:ah):S:=run 139 ((.bin .sub (.v 20) (.v 3),.v 21) :: T0) 40 (next (t2R L) (some (.v 20)))
def a1R(L:ah):S:=run 139 (tab false false true false false true false) 200 (next (r2R L) (some (.v 4)))
inductive Pl where|a|b|c
def rdT(L:ah):Pl→List Item
 | .a=>(run 139 T0 21 (enS L)).todo
 | .b=>(rBR L).todo
 | .c=>(rCR L).todo
def rdA:Pl→Nat
 | .a=>12
 | .b=>47
 | .c=>133
def loc(aw sv:Bool):Env:=[(0,some (.v 0)),(2,some (.v 3)),(3,some (.b sv)),(4,some (.b aw)),(5,some (.v 5))]
def QY(L:ah)(pl:Pl)(aw sv:Bool):S:=fresh ((rdA pl,some (.v 1)) :: loc aw sv) (rdT L pl)
def VK(L:ah)(aw sv:Bool):S:=fresh ((17,some (.b true)) :: (18,some (.v 5)) :: uT aw sv) (sqR L).todo
def c1S(L:ah)(sv:Bool):S:=fresh ((33,some (.b true)) :: (36,some (.v 1)) :: (37,some (.v 4)) :: (39,some (.v 14)) :: uT false sv) (c1R L).todo
def Yl(L:ah)(aw sv:Bool):S:=fresh (loc aw sv) (dsR L).todo
def NG(L:ah)(aw sv:Bool):S:=fresh ((77,some (.v 1)) :: (78,some (.v 4)) :: (79,some (.v 30)) :: uT aw sv) (c2R L).todo
def Ym(L:ah)(sv gJ:Bool):S:=fresh [(0,some (.v 0)),(3,some (.b sv)),(8,some (.b gJ))] (t1R L).todo
def Zx(L:ah)(sv gJ:Bool):S:=fresh [(0,some (.v 0)),(2,some (.v 3)),(3,some (.b sv)),(91,some (.v 2)),(92,some (.b gJ))] (s1R L).todo
def Zy(L:ah):S:=fresh [(0,some (.v 0)),(2,some (.v 3)),(3,some (.b false)),(95,some (.b false))] (t2R L).todo
def Tj(L:ah)(sv:Bool):S:=fresh [(0,some (.v 0)),(2,some (.v 3)),(3,some (.b sv)),(103,some (.v 1))] (r2R L).todo
def a1S(L:ah)(dl:Int):S:=fresh [(0,some (.v 0)),(128,some (.v 1)),(129,some (.i .i32 dl))] (a1R L).todo
def QZ(L:ah):S:=fresh [(0,some (.v 0))] (run 139 T0 20 (fresh [(0,some (.v 0))] [.code (SQ L)])).todo
def ri:List (E×E):=[(.v 0,.v 0),(.v 1,.v 1),(.v 2,.v 2),(.v 3,.v 3),(.v 4,.v 4),(.v 5,.v 5),(.v 14,.v 14)]
def r0:List (E×E):=[(.v 0,.v 0),(.v 1,.v 1),(.i .i64 0,.v 3),(.i .i64 0,.v 5)]
def rN(k:Nat):List (E×E):=(.v k,.v 30) :: ri
section
variable(L:ah)
theorem adf(l w s n0 n1 z late:Bool):To L.mu.tIMutex 139 (tab l w s n0 n1 z late) 21 1 (enS L) (QY L .a false false) r0:=⟨by kernel_rfl,by kernel_rfl,by kernel_rfl⟩
theorem adg(T:Tab)(aw sv:Bool):To L.mu.tIMutex 139 T 5 0 (next (QY L .a aw sv) (some (.v 4))) (head L aw sv) ri∧To L.mu.tIMutex 139 T 4 0 (next (QY L .b aw sv) (some (.v 4))) (head L aw sv) ri∧To L.mu.tIMutex 139 T 4 0 (next (QY L .c aw sv) (some (.v 4))) (head L aw sv) ri:=by
 cases aw<;>cases sv<;>exact ⟨⟨by kernel_rfl,by kernel_rfl,by kernel_rfl⟩,⟨by kernel_rfl,by kernel_rfl,by kernel_rfl⟩,⟨by kernel_rfl,by kernel_rfl,by kernel_rfl⟩⟩
section
variable(w n0 n1 z late:Bool)
theorem adh(aw sv:Bool):To L.mu.tIMutex 139 (tab true w false n0 n1 z late) 9 0 (head L aw sv) (VK L aw sv) ri:=by
 cases aw<;>cases sv<;>exact ⟨by kernel_rfl,by kernel_rfl,by kernel_rfl⟩
theorem Zz:To L.mu.tIMutex 139 (tab false w false n0 n1 z late) 200 1 (head L false false) (NG L false false) (rN 10):=⟨by kernel_rfl,by kernel_rfl,by kernel_rfl⟩
theorem Wp(sv:Bool):To L.mu.tIMutex 139 (tab false true false n0 n1 z late) 200 1 (head L true sv) (NG L true sv) (rN 15):=by
 cases sv<;>exact ⟨by kernel_rfl,by kernel_rfl,by kernel_rfl⟩
theorem adi(l:Bool):To L.mu.tIMutex 139 (tab l w true n0 n1 z late) 200 1 (head L false false) (NG L false false) (rN 11):=by
 cases l<;>exact ⟨by kernel_rfl,by kernel_rfl,by kernel_rfl⟩
theorem adl:To L.mu.tIMutex 139 (tab true w false n0 n1 z late) 200 1 (next (VK L false false) (some (.b false))) (NG L false false) (rN 18):=⟨by kernel_rfl,by kernel_rfl,by kernel_rfl⟩
theorem adm:To L.mu.tIMutex 139 (tab true true false n0 n1 z late) 200 1 (next (VK L true false) (some (.b false))) (NG L true false) (rN 16):=⟨by kernel_rfl,by kernel_rfl,by kernel_rfl⟩
theorem adn:To L.mu.tIMutex 139 (tab true true false n0 n1 z late) 200 1 (next (VK L true true) (some (.b false))) (NG L true true) (rN 17):=⟨by kernel_rfl,by kernel_rfl,by kernel_rfl⟩
theorem ado(sv:Bool):To L.mu.tIMutex 139 (tab true false false false n1 z late) 25 1 (next (VK L false sv) (some (.b true))) (c1S L sv) ri:=by
 cases sv<;>exact ⟨by kernel_rfl,by kernel_rfl,by kernel_rfl⟩
theorem adp(sv:Bool):To L.mu.tIMutex 139 (tab true w false n0 n1 z late) 200 0 (next (VK L true sv) (some (.b true))) (Yl L true sv) ri:=by
 cases sv<;>exact ⟨by kernel_rfl,by kernel_rfl,by kernel_rfl⟩
theorem adq(sv:Bool):To L.mu.tIMutex 139 (tab true true false n0 n1 z late) 200 0 (next (VK L false sv) (some (.b true))) (Yl L false sv) ri:=by
 cases sv<;>exact ⟨by kernel_rfl,by kernel_rfl,by kernel_rfl⟩
theorem adr(sv:Bool):To L.mu.tIMutex 139 (tab true false false true n1 z late) 200 0 (next (VK L false sv) (some (.b true))) (Yl L false sv) ri:=by
 cases sv<;>exact ⟨by kernel_rfl,by kernel_rfl,by kernel_rfl⟩
end
section
variable(l w s n0 n1 z late:Bool)
theorem ZA(sv:Bool):To L.mu.tIMutex 139 (tab l w s n0 n1 z late) 8 0 (next (c1S L sv) (some (.b true))) (Yl L true sv) ri:=by
 cases sv<;>exact ⟨by kernel_rfl,by kernel_rfl,by kernel_rfl⟩
theorem ZB(sv:Bool):To L.mu.tIMutex 139 (tab l w s n0 n1 z late) 200 0 (next (c1S L sv) (some (.b false))) (Yl L false sv) ri:=by
 cases sv<;>exact ⟨by kernel_rfl,by kernel_rfl,by kernel_rfl⟩
theorem adt(aw sv:Bool):To L.mu.tIMutex 139 (tab l w s n0 n1 z late) 12 1 (next (Yl L aw sv) none) (QY L .b aw sv) [(.v 0,.v 0),(.v 1,.v 1),(.v 3,.v 3),(.v 6,.v 5)]:=by
 cases aw<;>cases sv<;>exact ⟨by kernel_rfl,by kernel_rfl,by kernel_rfl⟩
theorem ZC(aw sv:Bool):To L.mu.tIMutex 139 (tab l w s n0 n1 z late) 6 1 (next (NG L aw sv) (some (.b false))) (QY L .c aw sv) ri:=by
 cases aw<;>cases sv<;>exact ⟨by kernel_rfl,by kernel_rfl,by kernel_rfl⟩
theorem ZE(aw sv:Bool):To L.mu.tIMutex 139 (tab false w false n0 n1 z late) 200 0 (next (NG L aw sv) (some (.b true))) (QZ L) ri:=by
 cases aw<;>cases sv<;>exact ⟨by kernel_rfl,by kernel_rfl,by kernel_rfl⟩
theorem Tn(aw sv:Bool):To L.mu.tIMutex 139 (tab true w s n0 n1 true late) 200 0 (next (NG L aw sv) (some (.b true))) (Ym L sv false) ri∧To L.mu.tIMutex 139 (tab false w true n0 n1 true late) 200 0 (next (NG L aw sv) (some (.b true))) (Ym L sv false) ri:=by
 cases s<;>cases aw<;>cases sv<;>exact ⟨⟨by kernel_rfl,by kernel_rfl,by kernel_rfl⟩,⟨by kernel_rfl,by kernel_rfl,by kernel_rfl⟩⟩
theorem Tq(aw sv:Bool):To L.mu.tIMutex 139 (tab true w s n0 n1 false late) 200 1 (next (NG L aw sv) (some (.b true))) (Zx L sv true) ri∧To L.mu.tIMutex 139 (tab false w true n0 n1 false late) 200 1 (next (NG L aw sv) (some (.b true))) (Zx L sv true) ri:=by
 cases s<;>cases aw<;>cases sv<;>exact ⟨⟨by kernel_rfl,by kernel_rfl,by kernel_rfl⟩,⟨by kernel_rfl,by kernel_rfl,by kernel_rfl⟩⟩
theorem adu(sv gJ:Bool):To L.mu.tIMutex 139 (tab l w s n0 n1 z late) 200 1 (next (Ym L sv gJ) (some (.v 20))) (Zx L sv gJ) [(.v 0,.v 0),(.v 2,.v 2),(.v 20,.v 3)]:=by
 cases sv<;>cases gJ<;>exact ⟨by kernel_rfl,by kernel_rfl,by kernel_rfl⟩
theorem ZF(gJ:Bool):To L.mu.tIMutex 139 (tab l w s n0 n1 z late) 5 0 (next (Zx L false gJ) none) (Zy L) ri:=⟨by kernel_rfl,by kernel_rfl,by kernel_rfl⟩
theorem ZG(gJ:Bool):To L.mu.tIMutex 139 (tab l w s n0 n1 z late) 200 1 (next (Zx L true gJ) none) (Tj L true) ri:=⟨by kernel_rfl,by kernel_rfl,by kernel_rfl⟩
theorem adv:To L.mu.tIMutex 139 (tab l w s n0 n1 z late) 200 1 (next (Zy L) (some (.v 20))) (Tj L late) ri:=by
 cases late<;>exact ⟨by kernel_rfl,by kernel_rfl,by kernel_rfl⟩
theorem ZH(sv:Bool):To L.mu.tIMutex 139 (tab l w false n0 n1 z late) 20 0 (next (Tj L sv) (some (.v 4))) (head L true sv) [(.v 0,.v 0),(.v 3,.v 3),(.v 4,.v 4),(.i .i64 0,.v 5)]:=by
 cases sv<;>exact ⟨by kernel_rfl,by kernel_rfl,by kernel_rfl⟩
theorem ZI:To L.mu.tIMutex 139 (tab false false true false n1 z late) 200 1 (next (Tj L false) (some (.v 4))) (a1S L (-11)) ri∧To L.mu.tIMutex 139 (tab false false true false true z late) 200 1 (next (Tj L true) (some (.v 4))) (a1S L (-11)) ri∧To L.mu.tIMutex 139 (tab false false true false false z late) 200 1 (next (Tj L true) (some (.v 4))) (a1S L (-7)) ri:=⟨⟨by kernel_rfl,by kernel_rfl,by kernel_rfl⟩,⟨by kernel_rfl,by kernel_rfl,by kernel_rfl⟩,⟨by kernel_rfl,by kernel_rfl,by kernel_rfl⟩⟩
theorem adw(dl:Int)(T:Tab):To L.mu.tIMutex 139 T 200 0 (next (a1S L dl) none) (QZ L) ri:=⟨by kernel_rfl,by kernel_rfl,by kernel_rfl⟩
end
theorem adx(pl:Pl)(aw sv:Bool):loadAt 139 (QY L pl aw sv)=some (21,some (.v 1)):=by cases pl<;>cases aw<;>cases sv<;>kernel_rfl
theorem Yn(aw sv:Bool):aQ 139 (VK L aw sv)=some (L.canSpin,[some (.v 5)]):=by cases aw<;>cases sv<;>kernel_rfl
theorem Yo(sv:Bool):aQ 139 (c1S L sv)=some (L.mu.cas32,[some (.v 1),some (.v 4),some (.v 14)]):=by cases sv<;>kernel_rfl
theorem ady(aw sv:Bool):aQ 139 (Yl L aw sv)=some (L.F8,[]):=by cases aw<;>cases sv<;>kernel_rfl
theorem Yp(aw sv:Bool):aQ 139 (NG L aw sv)=some (L.mu.cas32,[some (.v 1),some (.v 4),some (.v 30)]):=by cases aw<;>cases sv<;>kernel_rfl
theorem adz(sv gJ:Bool):aQ 139 (Ym L sv gJ)=some (L.nano,[]):=by cases sv<;>cases gJ<;>kernel_rfl
theorem adA(sv gJ:Bool):aQ 139 (Zx L sv gJ)=some (L.F9,[some (.v 2),some (.b gJ),some (.i .i64 2)]):=by cases sv<;>cases gJ<;>kernel_rfl
theorem adB:aQ 139 (Zy L)=some (L.nano,[]):=by kernel_rfl
theorem adC(sv:Bool):loadAt 139 (Tj L sv)=some (21,some (.v 1)):=by cases sv<;>kernel_rfl
theorem adD:aQ 139 (QZ L)=some (L.mu.enable,[]):=by kernel_rfl
theorem adE(dl:Int):aQ 139 (a1S L dl)=some (L.mu.add32,[some (.v 1),some (.i .i32 dl)]):=by kernel_rfl
end
end Go.Mx
namespace Go.Mx
open Go.Ren Go.Sy
open Go.Conc hiding Goes
open Go.Conc.Locks
open Go.ConcR (stA smA)
section
variable(L:ah)
theorem nU:((cas32Fn L.mu).name == "runtime.NumGoroutine")=false:=by kernel_rfl
theorem nV:(cas32Fn L.mu).body.isNone=true:=by kernel_rfl
theorem nX:Extern.findNext (cas32Fn L.mu)=none:=by kernel_rfl
theorem nY:Extern.find (cas32Fn L.mu)=some (Extern.Atomic.casT (.int .i32)):=by kernel_rfl
theorem NH:((add32Fn L.mu).name == "runtime.NumGoroutine")=false:=by kernel_rfl
theorem NI:(add32Fn L.mu).body.isNone=true:=by kernel_rfl
theorem NJ:Extern.findNext (add32Fn L.mu)=none:=by kernel_rfl
theorem NK:Extern.find (add32Fn L.mu)=some (Extern.Atomic.update (Op.intArith .add) .i32 true):=by kernel_rfl
theorem NL:((oN L).name == "runtime.NumGoroutine")=false:=by kernel_rfl
theorem NM:(oN L).body.isNone=true:=by kernel_rfl
theorem NP:Extern.findNext (oN L)=none:=by kernel_rfl
theorem NQ:Extern.find (oN L)=some Extern.Sync.canSpin:=by kernel_rfl
theorem ZJ:((rF L).name == "runtime.NumGoroutine")=false:=by kernel_rfl
theorem ZK:(rF L).body.isNone=true:=by kernel_rfl
theorem ZL:Extern.findNext (rF L)=none:=by kernel_rfl
theorem ZM:Extern.find (rF L)=some (fun _=>pure (.tuple #[])):=by kernel_rfl
theorem IP:((xZ L).name == "runtime.NumGoroutine")=false:=by kernel_rfl
theorem IQ:(xZ L).body.isNone=true:=by kernel_rfl
theorem IU:Extern.findNext (xZ L)=none:=by kernel_rfl
theorem IV:Extern.find (xZ L)=some Extern.OsHooks.nano:=by kernel_rfl
theorem IW:(xZ L).norace=true:=by kernel_rfl
theorem Wq:((rG L).name == "runtime.NumGoroutine")=false:=by kernel_rfl
theorem Ws:(rG L).body.isNone=true:=by kernel_rfl
theorem Wu:Extern.findNext (rG L)=none:=by kernel_rfl
theorem Wv:Extern.find (rG L)=some Extern.Sync.semacquire:=by kernel_rfl
theorem NS:((rH L).name == "runtime.NumGoroutine")=false:=by kernel_rfl
theorem Aq:(rH L).body.isNone=true:=by kernel_rfl
theorem NT:Extern.findNext (rH L)=none:=by kernel_rfl
theorem NU:Extern.find (rH L)=some Extern.Sync.semrelease:=by kernel_rfl
end
section
variable{tM:TypeId}{Mu:Nat}{w:World}{m m':Wd}{q:Nat}
def mA(Mu:Nat):Addr:=⟨Mu,0,none⟩
def sA(Mu:Nat):Addr:=⟨Mu,1,none⟩
theorem MuAt.state(h:MuAt tM Mu w m q):w.cell? (mA Mu)=some (.int .i32 m.num):=by unfold MuAt at h;simp [World.cell?,mA,h]
theorem MuAt.sema(h:MuAt tM Mu w m q):w.cell? (sA Mu)=some (.int .u32 q):=by unfold MuAt at h;simp [World.cell?,sA,h]
theorem MuAt.thaw(h:MuAt tM Mu w m q)(off:Nat):w.frozen? ⟨Mu,off,none⟩=false:=by unfold MuAt at h;simp [World.frozen?,h]
theorem zg{α:Type}{A:Array α}{i:Nat}{f:α→α}{x:α}(h:A[i]? = some x):(A.modify i f)[i]? = some (f x):=by
 rw [Array.getElem?_modify,if_pos rfl,h];rfl
theorem MuAt.setState(h:MuAt tM Mu w m q){v:Int}(hv:v=m'.num):MuAt tM Mu (w.setCell (mA Mu) (.int .i32 v)) m' q:=by
 unfold MuAt at h ⊢
 unfold World.setCell mA
 dsimp only
 rw [zg h]
 simp [hv]
theorem MuAt.Gi(h:MuAt tM Mu w m q){v:Int}{q':Nat}(hv:v=q'):MuAt tM Mu (w.setCell (sA Mu) (.int .u32 v)) m q' :=by
 unfold MuAt at h ⊢
 unfold World.setCell sA
 dsimp only
 rw [zg h]
 simp [hv]
theorem NV{a:Addr}(ha:a.block=Mu)(v:Value):rJ Mu w (w.setCell a v):=⟨by simp,fun b hb=>dS (by rw [ha];exact hb),.rfl,rfl,rfl⟩
theorem yg:rJ Mu w w.asked:=⟨rfl,fun _ _=>rfl,.rfl,rfl,rfl⟩
theorem Eu:rJ Mu w w.later:=⟨rfl,fun _ _=>rfl,⟨w.tick,rfl⟩,rfl,rfl⟩
theorem Wx{b:Bool}:∀e ∈ #[(⟨.cell (mA Mu),b,true⟩:Event)],iM Mu e:=by
 intro e he;rw [Array.mem_singleton] at he;subst he;exact .inr (.inr (.inr (.inr ⟨_,_,rfl,rfl⟩)))
theorem DJ:∀e ∈ #[(⟨.cell (mA Mu),false,true⟩:Event),⟨.cell (mA Mu),true,true⟩],iM Mu e:=by
 intro e he
 simp at he
 rcases he with rfl|rfl<;>exact .inr (.inr (.inr (.inr ⟨_,_,rfl,rfl⟩)))
theorem ZN:∀e∈semEvents (sA Mu),iM Mu e:=by
 intro e he
 simp [semEvents] at he
 rcases he with rfl|rfl|rfl|rfl
 · exact .inl rfl
 · exact .inr (.inr (.inr (.inr ⟨_,_,rfl,rfl⟩)))
 · exact .inr (.inr (.inr (.inr ⟨_,_,rfl,rfl⟩)))
 · exact .inr (.inl rfl)
theorem Wy{b:Bool}:deafBehind 1 #[(⟨.cell (mA Mu),b,true⟩:Event)]=1:=by simp [deafBehind]
theorem DK:deafBehind 1 #[(⟨.cell (mA Mu),false,true⟩:Event),⟨.cell (mA Mu),true,true⟩]=1:=by simp [deafBehind]
theorem ZO:deafBehind 1 (semEvents (sA Mu))=1:=by simp [semEvents,deafBehind]
end
end Go.Mx
