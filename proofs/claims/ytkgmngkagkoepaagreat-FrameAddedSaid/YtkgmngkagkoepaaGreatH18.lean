import Derived.Conc.Walk
import Derived.Conc.Own5
import Derived.KernelRfl
import Derived.Conc.AtomicLaws2
import Derived.Conc.ClockLaws
import Derived.Conc.MarkLaws
import Derived.Conc.SmallLaws
import Derived.Conc.Listed
import Derived.Test.YtkgmngkagkoepaaGreatH7
import Derived.Test.YtkgmngkagkoepaaGreatH8
import Derived.Test.YtkgmngkagkoepaaGreatH17
set_option linter.all false
namespace Go.Sy
open Go.Ren
open Go.Conc hiding Goes
inductive E where
 | b (x:Bool)|i (k:IntKind) (z:Int)|v (n:Nat)
 deriving DecidableEq
def E.den(a:Nat->Value):E->Value
 | .b x=>.bool x
 | .i k z=>.int k z
 | .v n=>a n
abbrev Env:=List (Nat×Option E)
def get:Env->Nat->Option E
 | [],_=>none
 | (j,x)::r,k=>if j==k then x else get r k
def put(e:Env)(d:Option Nat)(x:Option E):Env:=match d with
 | some d=>(d,x)::e
 | none=>e
inductive Key where
 | bin (op:BinOp) (x y:E)|F5 (x:E) (i:Nat)|nil (x:E)
 deriving DecidableEq
abbrev Tab:=List (Key×E)
def look:Tab->Key->Option E
 | [],_=>none
 | (j,x)::r,k=>if j=k then some x else look r k
def zO(e:Env):Operand->Option E
 | .tmp t=>get e t
 | .const (.bool b)=>some (.b b)
 | .const (.int k z)=>some (.i k z)
 | _=>none
def opv(T:Tab)(e:Env)(o:Oper):Option (E×List TypeId):=match o.op with
 | .move x|.assign x=>(zO e x).map (·,[])
 | .pick c a b=>match zO e c with
   |some (.b true)=>(zO e a).map (·,[])
   |some (.b false)=>(zO e b).map (·,[])
   |_=>none
 | .nilCheck x=>((zO e x).bind fun x=>look T (.nil x)).map (·,[])
 | .binOp op _ x y _=>match zO e x,zO e y with
   |some x,some y=>(look T (.bin op x y)).map (·,[])
   |_,_=>none
 | .unOp .not _ x=>match zO e x with
   |some (.b t)=>some (.b !t,[])
   |_=>none
 | .fieldAddr s x f=>((zO e x).bind fun x=>look T (.F5 x f)).map (·,[s])
 | _=>none
def su(a:Array Oper)(e:Env)(o:Oper):Option Bool:=match o.guard with
 | none=>some true
 | some (g,b)=>match(a[g]?).bind (·.dst)with
   |some d=>match get e d with
    |some (.b t)=>some (t==b)
    |_=>none
   |none=>none
structure S where
 env:Env
 todo:List Item
 log:List TypeId
def Ej(a:Nat)(o:Oper):Bool:=match o.dst with
 | some d=>d<a
 | none=>true
def step(e:Nat)(T:Tab)(s:S):Option S:=match s.todo with
 | .code .skip::k=>some {s with todo:=k}
 | .code (.seq x y)::k=>some {s with todo:=.code x::.code y::k}
 | .code (.cond c x y)::k=>match zO s.env c with
   |some (.b t)=>some {s with todo:=.code (if t then x else y)::k}
   |_=>none
 | .code (.block id c)::k=>some {s with todo:=.code c::.inBlock id::k}
 | .code (.loop c)::k=>some {s with todo:=.code c::.inLoop c::k}
 | .inLoop c::k=>some {s with todo:=.code c::.inLoop c::k}
 | .inBlock _::k=>some {s with todo:=k}
 | .code (.exit id)::k=>(exitTo id k).map fun k=>{s with todo:=k}
 | .code (.region _ d false)::k=>some {s with todo:=.inRegion d (List.range d.size)::k}
 | .inRegion _ []::k=>some {s with todo:=k}
 | .inRegion d (i::rest)::k=>match d[i]? with
   |some o=>if Ej e o=false then none else match su d s.env o with
    |some true=>match opv T s.env o with
     |some (x,l)=>some ⟨put s.env o.dst (some x),.inRegion d rest::k,l++s.log⟩
     |none=>none
    |some false=>some {s with env:=put s.env o.dst none,todo:=.inRegion d rest::k}
    |none=>none
   |none=>none
 | _=>none
def run(a:Nat)(T:Tab):Nat->S->S
 | 0,s=>s
 | n+1,s=>match step a T s with
   |some s=>run a T n s
   |none=>s
def Agree(a:Nat->Value)(e:Env)(A:Array Value):Prop:=∀k x,get e k=some x->A[k]?=some (x.den a)
def Yields{a:Type}(P:Program)(e:Sem a)(v:a):Prop:=∀w,Sem.run P e w=.ok v w/\∀b,Sem.events P e w b=b
def sD(P:Program)(c:TypeId)(a:Nat->Value)(k:Key)(z:E):Prop:=match k with
 | .bin op x y=>∀(b:TypeId) (d e:Operand),Yields P (do eqGuard op b d e (x.den a) (y.den a);binOp op b (x.den a) (y.den a)) (z.den a)
 | .F5 x i=>Yields P (Instr.fieldAt c (x.den a) i) (z.den a)
 | .nil x=>z=x/\∃q,x.den a=.pointer (some q)
def bF(P:Program)(a:TypeId)(b:Nat->Value)(T:Tab):Prop:=∀p∈T,sD P a b p.1 p.2
end Go.Sy
namespace Go.Sy
open Go.Ren
open Go.Conc hiding Goes
section
variable{P:Program}{m:TypeId}{i:Nat->Value}{T:Tab}{e:Env}{A:Array Value}{o:Oper}
theorem nO{a:Type}(v:a):Yields P (pure v:Sem a) v:=fun w=>⟨by simp[go_sem],fun b=>by simp[go_sem]⟩
theorem vG{a c:Type}{f:Sem a}{v:a}(g:a->c)(h:Yields P f v):Yields P (do pure (g (←f))) (g v):=fun w=>by
 obtain⟨b,d⟩:=h w
 exact⟨by simp[go_sem,b],fun j=>by simp[go_sem,b,d]⟩
theorem look_ok(h:bF P m i T){k:Key}{z:E}(a:look T k=some z):sD P m i k z:=by
 induction T with
 | nil=>cases a
 | cons p T b=>
   obtain⟨j,x⟩:=p
   unfold look at a;split at a
   ·rename_i e;subst e;cases a;exact h _ (List.mem_cons_self ..)
   ·exact b (fun q c=>h q (List.mem_cons_of_mem _ c)) a
theorem eH(h:Agree i e A){ds:List Deferred}{x:Operand}{z:E}(a:zO e x=some z):Act.eval ⟨A,ds⟩ x=z.den i:=by
 unfold zO at a;split at a
 · rename_i t;have:=h t z a
   simp[Act.eval,Array.getD_eq_getD_getElem?,this]
 · cases a;rfl
 · cases a;rfl
 · cases a
theorem Agree.put(h:Agree i e A){d:Option Nat}{x:Option E}{y:Value}(f:∀z,x=some z->y=z.den i)(hd:∀k,d=some k->k<A.size):Agree i (put e d x) ((Act.put ⟨A,[]⟩ d y).tmps):=by
 intro k z a;unfold Act.put;cases d with
 | none=>exact h k z a
 | some d=>
   have b:=hd d rfl
   simp only[Go.Sy.put,get]at a;dsimp only
   split at a
   ·rename_i c;have:d=k:=by simpa using c
    subst this;rw[Array.getElem?_setIfInBounds_self_of_lt b,f z a]
   ·rename_i c;have:d≠k:=by simpa using c
    rw[Array.getElem?_setIfInBounds_ne this];exact h k z a
theorem adO(n:bF P m i T)(h:Agree i e A){ds:List Deferred}{z:E}{l:List TypeId}(d:opv T e o=some (z,l))(B:∀t∈l,t=m):Yields P (execOp (Act.eval ⟨A,ds⟩) o) (.value (z.den i)):=by
 unfold opv at d;unfold execOp;split at d
 · rename_i x j;rw[j];cases g:zO e x with
   |none=>rw[g]at d;cases d
   |some y=>rw[g]at d;simp only[Option.map_some,Option.some.injEq,Prod.mk.injEq]at d;obtain⟨rfl,rfl⟩:=d;dsimp only;rw[eH h g];exact nO _
 · rename_i x j;rw[j];cases g:zO e x with
   |none=>rw[g]at d;cases d
   |some y=>rw[g]at d;simp only[Option.map_some,Option.some.injEq,Prod.mk.injEq]at d;obtain⟨rfl,rfl⟩:=d;dsimp only;rw[eH h g];exact nO _
 · rename_i c a b j;rw[j];dsimp only
   split at d
   ·rename_i p;rw[eH h p];cases g:zO e a with
    |none=>rw[g]at d;cases d
    |some y=>rw[g]at d;simp only[Option.map_some,Option.some.injEq,Prod.mk.injEq]at d;obtain⟨rfl,rfl⟩:=d;rw[eH h g];exact fun w=>⟨by simp[go_sem,E.den,asBool],fun C=>by simp[go_sem,E.den,asBool]⟩
   ·rename_i p;rw[eH h p];cases g:zO e b with
    |none=>rw[g]at d;cases d
    |some y=>rw[g]at d;simp only[Option.map_some,Option.some.injEq,Prod.mk.injEq]at d;obtain⟨rfl,rfl⟩:=d;rw[eH h g];exact fun w=>⟨by simp[go_sem,E.den,asBool],fun C=>by simp[go_sem,E.den,asBool]⟩
   ·cases d
 · rename_i x j;rw[j];dsimp only
   cases g:zO e x with
   |none=>rw[g]at d;cases d
   |some y=>
    rw[g]at d;simp only[Option.bind_some]at d;cases k:look T (.nil y)with
    |none=>rw[k]at d;cases d
    |some u=>
     rw[k]at d;simp only[Option.map_some,Option.some.injEq,Prod.mk.injEq]at d;obtain⟨rfl,rfl⟩:=d
     obtain⟨rfl,q,D⟩:=look_ok n k
     rw[eH h g,D];exact nO _
 · rename_i op v x y r j;rw[j];dsimp only
   split at d
   ·rename_i a b F H;cases k:look T (.bin op a b)with
    |none=>rw[k]at d;cases d
    |some u=>
     rw[k]at d;simp only[Option.map_some,Option.some.injEq,Prod.mk.injEq]at d;obtain⟨rfl,rfl⟩:=d
     rw[eH h F,eH h H];exact vG Next.value (look_ok n k v x y)
   ·cases d
 · rename_i v x j;rw[j];dsimp only
   split at d
   ·rename_i t J;simp only[Option.some.injEq,Prod.mk.injEq]at d;obtain⟨rfl,rfl⟩:=d
    rw[eH h J];exact vG Next.value (nO _)
   ·cases d
 · rename_i s x f j;rw[j];dsimp only
   cases g:zO e x with
   |none=>rw[g]at d;cases d
   |some y=>
    rw[g]at d;simp only[Option.bind_some]at d;cases k:look T (.F5 y f)with
    |none=>rw[k]at d;cases d
    |some u=>
     rw[k]at d;simp only[Option.map_some,Option.some.injEq,Prod.mk.injEq]at d;obtain⟨rfl,rfl⟩:=d
     obtain rfl:=B s (List.mem_cons_self ..)
     rw[eH h g];exact vG Next.value (look_ok n k)
 · cases d
theorem yg(h:Agree i e A){f:Array Oper}{b:Bool}(a:su f e o=some b):Region.wanted o (yielded f A)=b:=by
 unfold su at a;unfold Region.wanted;split at a
 · rename_i j;rw[j];cases a;rfl
 · rename_i g c j;rw[j];dsimp only
   split at a
   ·rename_i d hd;split at a
    ·rename_i t k;cases a;have:=h d _ k
     simp only[yielded,hd,Option.bind_some,this,E.den]
     cases t<;>cases c<;>rfl
    ·cases a
   ·cases a
end
end Go.Sy
namespace Go.Sy
open Go.Ren
open Go.Conc hiding Goes
section
variable{P:Program}{j:TypeId}{g:Nat->Value}{T:Tab}{A:Array Value}{f:Nat}{m:Bool}{b:Frame}{ds:List Deferred}{cs:List Frame}{s c:S}
theorem Vr{o:Oper}(h:¬Ej f o=false)(a:A.size=f):∀k,o.dst=some k->k<A.size:=by
 intro k d;unfold Ej at h;rw[d]at h;dsimp only at h;rw[a];simpa using h
theorem step_ok(E:bF P j g T)(F:b.kind≠.early)(n:A.size=f)(h:Agree g s.env A)(d:step f T s=some c)(H:∀t∈c.log,t=j):
   (∀t∈s.log,t∈c.log)/\∃r:Array Value,r.size=f/\Agree g c.env r/\∀w,stepG P m (G (b.at ⟨A,ds⟩ s.todo) cs) w=.go (G (b.at ⟨r,ds⟩ c.todo) cs) w #[]:=by
 obtain⟨e,y,log⟩:=s
 unfold step at d;dsimp only at d h⊢;split at d
 · cases d;exact⟨fun _ x=>x,A,n,h,fun w=>stepG_skip⟩
 · cases d;exact⟨fun _ x=>x,A,n,h,fun w=>stepG_seq⟩
 · split at d
   ·rename_i t p;cases d;exact⟨fun _ x=>x,A,n,h,fun w=>stepG_cond (eH h p)⟩
   ·cases d
 · cases d;exact⟨fun _ x=>x,A,n,h,fun w=>stepG_block⟩
 · cases d;exact⟨fun _ x=>x,A,n,h,fun w=>stepG_loop⟩
 · cases d;exact⟨fun _ x=>x,A,n,h,fun w=>stepG_inLoop⟩
 · cases d;exact⟨fun _ x=>x,A,n,h,fun w=>stepG_inBlock⟩
 · rename_i id k;cases u:exitTo id k with
   |none=>rw[u]at d;cases d
   |some N=>rw[u]at d;cases d;exact⟨fun _ x=>x,A,n,h,fun w=>stepG_exit u⟩
 · cases d;exact⟨fun _ x=>x,A,n,h,fun w=>stepG_region⟩
 · cases d;exact⟨fun _ x=>x,A,n,h,fun w=>stepG_region_end⟩
 · rename_i J i rest k;split at d
   ·rename_i o B;split at d
    ·cases d
    ·rename_i hd;have q:=Vr hd n
     split at d
     ·rename_i v;split at d
      ·rename_i x l L;cases d;have C:=adO (ds:=ds) E h L fun t p=>H t (List.mem_append_left _ p)
       refine⟨fun t p=>List.mem_append_right _ p,(Act.put ⟨A,[]⟩ o.dst (x.den g)).tmps,?_,h.put (fun z n=>by cases n;rfl) q,fun w=>?_⟩
       ·unfold Act.put;split<;>simp[n]
       ·have M:=stepG_value (P:=P) (main:=m) (cs:=cs) (b:=b) (a:=⟨A,ds⟩) (k:=k) (rest:=rest) B (yg h v) F (C w).1;rw[M];unfold listed;rw[(C w).2,seen_none];unfold Act.put;cases o.dst<;>rfl
      ·cases d
     ·rename_i v;cases d;refine⟨fun _ x=>x,(Act.put ⟨A,[]⟩ o.dst undef).tmps,?_,h.put (fun z n=>by cases n) q,fun w=>?_⟩
      ·unfold Act.put;split<;>simp[n]
      ·rw[stepG_unwanted B (yg h v)];unfold Act.put;cases o.dst<;>rfl
     ·cases d
   ·cases d
 · cases d
theorem Oi(d:∀{s c:S},step f T s=some c->∀t∈s.log,t∈c.log):∀(n:Nat) (s:S),∀t∈s.log,t∈(run f T n s).log
 | 0,s,t,a=>a
 | n+1,s,t,a=>by
   unfold run;split
   ·rename_i c h;exact Oi d n c t (d h t a)
   ·exact a
theorem Vs{s c:S}(h:step f T s=some c):∀t∈s.log,t∈c.log:=by
 obtain⟨e,d,log⟩:=s
 intro t a;unfold step at h;dsimp only at h;split at h
 · cases h;exact a
 · cases h;exact a
 · split at h
   ·cases h;exact a
   ·cases h
 · cases h;exact a
 · cases h;exact a
 · cases h;exact a
 · cases h;exact a
 · rename_i id k;cases i:exitTo id k with
   |none=>rw[i]at h;cases h
   |some l=>rw[i]at h;cases h;exact a
 · cases h;exact a
 · cases h;exact a
 · split at h
   ·split at h
    ·cases h
    ·split at h
     ·split at h
      ·cases h;exact List.mem_append_right _ a
      ·cases h
     ·cases h;exact a
     ·cases h
   ·cases h
 · cases h
theorem Vt{I:World->Prop}{X:Event->Prop}{Q:Nat->Goroutine->Prop}{d:Nat}(p:bF P j g T)(q:b.kind≠.early):∀(n:Nat) (s:S) (A:Array Value),A.size=f->Agree g s.env A->(∀t∈(run f T n s).log,t=j)->
   (∀a:Array Value,a.size=f->Agree g (run f T n s).env a->af P m I X Q d (G (b.at ⟨a,ds⟩ (run f T n s).todo) cs))->af P m I X Q d (G (b.at ⟨A,ds⟩ s.todo) cs)
 | 0,s,A,i,h,e,k=>k A i h
 | n+1,s,A,i,h,e,k=>by
   unfold run at e k;split at e
   ·rename_i c l;rw[l]at k;obtain⟨_,a,o,r,u⟩:=step_ok (m:=m) (ds:=ds) (cs:=cs) p q i h l fun t v=>e t (Oi Vs n c t v)
    refine .step rfl (fun _=>G (b.at ⟨a,ds⟩ c.todo) cs) (fun _=>#[]) (fun w _=>⟨u w,by simp⟩) fun w _=>?_
    exact Vt p q n c a o r e k
   ·rename_i l;rw[l]at k;exact k A i h
end
end Go.Sy
namespace Go.Sy
open Go.Ren
open Go.Conc hiding Goes
def opAt(b:Nat)(s:S):Option Oper:=match s.todo with
 | .inRegion a (i::_)::_=>match a[i]? with
   |some o=>if su a s.env o=some true then(if Ej b o then some o else none)else none
   |none=>none
 | _=>none
def aV(a:Nat)(s:S):Option (FuncId×List (Option E)):=match opAt a s with
 | some o=>match o.op with
   | .call c=>match c.callee with
    | .value (.func f)=>some (f,c.args.toList.map (zO s.env))
    |_=>none
   |_=>none
 | none=>none
def loadAt(a:Nat)(s:S):Option (TypeId×Option E):=match opAt a s with
 | some o=>match o.op with
   | .load t x=>some (t,zO s.env x)
   |_=>none
 | none=>none
def next(s:S)(x:Option E):S:=match s.todo with
 | .inRegion a (i::rest)::k=>⟨put s.env ((a[i]?).bind (·.dst)) x,.inRegion a rest::k,s.log⟩
 | _=>s
section
variable{P:Program}{a:Nat->Value}{A:Array Value}{l:Nat}{m:Bool}{b:Frame}{ds:List Deferred}{cs:List Frame}{s:S}{o:Oper}
theorem uf(f:opAt l s=some o)(n:A.size=l)(h:Agree a s.env A):∃(c:Array Oper) (i:Nat) (rest:List Nat) (k:List Item),s.todo=.inRegion c (i::rest)::k/\c[i]?=some o/\Region.wanted o (yielded c A)=true/\(∀x,(next s x).todo=.inRegion c rest::k)/\
   (∀(x:Option E) (y:Value),(∀z,x=some z->y=z.den a)->(Act.put ⟨A,ds⟩ o.dst y).tmps.size=l/\(Act.put ⟨A,ds⟩ o.dst y)=⟨(Act.put ⟨A,ds⟩ o.dst y).tmps,ds⟩/\Agree a (next s x).env (Act.put ⟨A,ds⟩ o.dst y).tmps):=by
 obtain⟨e,p,log⟩:=s
 unfold opAt at f;dsimp only at f h⊢;split at f
 · rename_i c i rest k;split at f
   ·rename_i t g;split at f
    ·rename_i q;split at f
     ·rename_i hd;cases f;refine⟨c,i,rest,k,rfl,g,yg h q,fun x=>rfl,fun x y r=>⟨?_,?_,?_⟩⟩
      ·unfold Act.put;split<;>simp[n]
      ·unfold Act.put;split<;>rfl
      ·unfold next;dsimp only
       rw[g,Option.bind_some];have:=h.put (d:=o.dst) r (Vr (by rw[hd];simp) n)
       unfold Act.put at this⊢;cases j:o.dst<;>rw[j]at this<;>exact this
     ·cases f
    ·cases f
   ·cases f
 · cases f
theorem oI{f:FuncId}{xs:List (Option E)}(h:aV l s=some (f,xs)):∃(o:Oper) (args:Array Operand) (d:Array TypeId),opAt l s=some o/\o.op=.call {callee:=.value (.func f),args:=args,argTypes:=d}/\args.toList.map (zO s.env)=xs:=by
 unfold aV at h;split at h
 · rename_i o g;split at h
   ·rename_i c i;split at h
    ·rename_i j e;cases h;obtain⟨k,as,d⟩:=c
     dsimp only at e;subst e;exact⟨o,as,d,g,i,rfl⟩
    ·cases h
   ·cases h
 · cases h
theorem Qp{t:TypeId}{x:Option E}(h:loadAt l s=some (t,x)):∃(o:Oper) (y:Operand),opAt l s=some o/\o.op=.load t y/\zO s.env y=x:=by
 unfold loadAt at h;split at h
 · rename_i o c;split at h
   ·rename_i e y d;cases h;exact⟨o,y,c,d,rfl⟩
   ·cases h
 · cases h
def Behind(a:Nat->Value)(l:Nat)(b:Frame)(ds:List Deferred)(cs:List Frame)(s:S)(g:Goroutine):Prop:=∃A:Array Value,A.size=l/\Agree a s.env A/\g=G (b.at ⟨A,ds⟩ s.todo) cs
variable{fn:Func}{f:FuncId}{w:World}
theorem Ae{p q r:E}(D:aV l s=some (f,[some p,some q,some r]))(e:A.size=l)(h:Agree a s.env A)(F:b.kind≠.early)(H:P.funcs[f]?=some fn)(c:(fn.name== "runtime.NumGoroutine")=false)(J:fn.body.isNone=true)(L:Extern.findNext fn=none)
   (M:Extern.find fn=some (Extern.Atomic.casT (.int .i32))) {ad:Addr} {v n:Int} (N:p.den a=.pointer (some ad)) (O:q.den a=.int .i32 v) (Q:r.den a=.int .i32 n):
   ∃B,Behind a l b ds cs (next s (some (.b true))) B/\∀w:World,w.cell? ad=some (.int .i32 v)->w.frozen? ad=false->stepG P m (G (b.at ⟨A,ds⟩ s.todo) cs) w=.go B (w.setCell ad (.int .i32 n)) #[⟨.cell ad,false,true⟩,⟨.cell ad,true,true⟩]:=by
 obtain⟨o,args,R,T,g,C⟩:=oI D
 obtain⟨j,i,rest,k,U,V,W,X,Y⟩:=uf (ds:=ds) T e h
 obtain⟨Z,k2,k3⟩:=Y (some (.b true)) (.bool true) (fun z e=>by cases e;rfl)
 obtain⟨args⟩:=args
 rcases args with _|⟨x,_|⟨y,_|⟨z,_|⟨u,args⟩⟩⟩⟩<;>simp only[List.map_cons,List.map_nil,List.cons.injEq,and_true,reduceCtorEq,and_false]at C
 obtain⟨a1,a2,a3⟩:=C
 refine⟨G (b.at (Act.put ⟨A,ds⟩ o.dst (.bool true)) (.inRegion j rest::k)) cs,⟨_,Z,k3,by rw[X,←k2]⟩,fun w d t=>?_⟩;rw[U];exact stepG_cas_hit V W F g H c J L .i32 M ((eH h a1).trans N) ((eH h a2).trans O) ((eH h a3).trans Q) d t
theorem wS{p q r:E}(F:aV l s=some (f,[some p,some q,some r]))(e:A.size=l)(h:Agree a s.env A)(H:b.kind≠.early)(J:P.funcs[f]?=some fn)(c:(fn.name== "runtime.NumGoroutine")=false)(L:fn.body.isNone=true)(M:Extern.findNext fn=none)
   (N:Extern.find fn=some (Extern.Atomic.casT (.int .i32))) {ad:Addr} {v n:Int} (O:p.den a=.pointer (some ad)) (Q:q.den a=.int .i32 v) (R:r.den a=.int .i32 n):
   ∃C,Behind a l b ds cs (next s (some (.b false))) C/\∀(w:World) (u:Int),w.cell? ad=some (.int .i32 u)->w.frozen? ad=false->¬u=v->stepG P m (G (b.at ⟨A,ds⟩ s.todo) cs) w=.go C w #[⟨.cell ad,false,true⟩]:=by
 obtain⟨o,args,T,U,g,D⟩:=oI F
 obtain⟨j,i,rest,k,V,W,X,Y,Z⟩:=uf (ds:=ds) U e h
 obtain⟨k1,k2,k3⟩:=Z (some (.b false)) (.bool false) (fun z e=>by cases e;rfl)
 obtain⟨args⟩:=args
 rcases args with _|⟨x,_|⟨y,_|⟨z,_|⟨u,args⟩⟩⟩⟩<;>simp only[List.map_cons,List.map_nil,List.cons.injEq,and_true,reduceCtorEq,and_false]at D
 obtain⟨a1,a2,a3⟩:=D
 refine⟨G (b.at (Act.put ⟨A,ds⟩ o.dst (.bool false)) (.inRegion j rest::k)) cs,⟨_,k1,k3,by rw[Y,←k2]⟩,fun w u d t B=>?_⟩;rw[V];exact stepG_cas_miss W X H g J c L M .i32 N ((eH h a1).trans O) ((eH h a2).trans Q) ((eH h a3).trans R) d t B
theorem Vu{p q:E}(B:aV l s=some (f,[some p,some q]))(C:A.size=l)(h:Agree a s.env A)(D:b.kind≠.early)(F:P.funcs[f]?=some fn)(c:(fn.name== "runtime.NumGoroutine")=false)(H:fn.body.isNone=true)(J:Extern.findNext fn=none)
   (L:Extern.find fn=some (Extern.Atomic.update (Op.intArith .add) .i32 true)) {ad:Addr} {v d:Int} {z:Option E} (M:p.den a=.pointer (some ad)) (N:q.den a=.int .i32 d) (O:∀y,z=some y->Value.int .i32 (IntKind.i32.wrap (v+d))=y.den a):
   ∃r,Behind a l b ds cs (next s z) r/\∀w:World,w.cell? ad=some (.int .i32 v)->w.frozen? ad=false->stepG P m (G (b.at ⟨A,ds⟩ s.todo) cs) w=.go r (w.setCell ad (.int .i32 (IntKind.i32.wrap (v+d)))) #[⟨.cell ad,false,true⟩,⟨.cell ad,true,true⟩]:=by
 obtain⟨o,args,Q,R,g,t⟩:=oI B
 obtain⟨j,i,rest,k,T,U,V,W,X⟩:=uf (ds:=ds) R C h
 obtain⟨Y,Z,k3⟩:=X z (.int .i32 (IntKind.i32.wrap (v+d))) O
 obtain⟨args⟩:=args
 rcases args with _|⟨x,_|⟨y,_|⟨u,args⟩⟩⟩<;>simp only[List.map_cons,List.map_nil,List.cons.injEq,and_true,reduceCtorEq,and_false]at t
 obtain⟨a1,a2⟩:=t
 refine⟨G (b.at (Act.put ⟨A,ds⟩ o.dst (.int .i32 (IntKind.i32.wrap (v+d)))) (.inRegion j rest::k)) cs,⟨_,Y,k3,by rw[W,←Z]⟩,fun w e n=>?_⟩;rw[T];exact stepG_add_atomic U V D g F c H J .i32 L ((eH h a1).trans M) ((eH h a2).trans N) e n
theorem gU{xs:List (Option E)}(r:aV l s=some (f,xs))(t:A.size=l)(h:Agree a s.env A)(b:Frame)(ds:List Deferred)(cs:List Frame):∃(c:Array Oper) (i:Nat) (rest:List Nat) (k:List Item) (o:Oper) (args:Array Operand) (d:Array TypeId),
   s.todo=.inRegion c (i::rest)::k/\c[i]?=some o/\Region.wanted o (yielded c A)=true/\o.op=.call {callee:=.value (.func f),args:=args,argTypes:=d}/\(∀(n:Nat) (x:E),xs[n]?=some (some x)->(args.map (Act.eval ⟨A,ds⟩))[n]?=some (x.den a))/\args.size=xs.length/\
   (∀(z:Option E) (y:Value),(∀u,z=some u->y=u.den a)->Behind a l b ds cs (next s z) (G (b.at (Act.put ⟨A,ds⟩ o.dst y) (.inRegion c rest::k)) cs)):=by
 obtain⟨o,args,d,v,j,p⟩:=oI r
 obtain⟨c,i,rest,k,B,C,D,F,H⟩:=uf (ds:=ds) v t h
 refine⟨c,i,rest,k,o,args,d,B,C,D,j,fun n x g=>?_,by rw[←p];simp,fun z y J=>?_⟩
 · rw[←p,List.getElem?_map]at g;rw[Array.getElem?_map];cases q:args[n]? with
   |none=>
    have e:args.toList[n]?=none:=by rw[←q];simp
    rw[e]at g;cases g
   |some y=>
    have e:args.toList[n]?=some y:=by rw[←q];simp
    rw[e]at g;simp only[Option.map_some,Option.some.injEq]at g⊢;exact eH h g
 · obtain⟨L,M,N⟩:=H z y J
   exact⟨_,L,N,by rw[F,←M]⟩
theorem wU(mk:Mark)(n:∀g,mk≠.extern g){z:Option E}(d:z=none){xs:List (Option E)}(p:aV l s=some (f,xs))(q:A.size=l)(h:Agree a s.env A)(r:b.kind≠.early)(t:P.funcs[f]?=some fn)(c:(fn.name== "runtime.NumGoroutine")=false)(v:fn.body.isNone=true)(x:Extern.findNext fn=none)
   (y:Extern.find fn=some (fun _=>do mark mk;pure Extern.Race.none_)):∃e,Behind a l b ds cs (next s z) e/\∀w,stepG P m (G (b.at ⟨A,ds⟩ s.todo) cs) w=.go e w #[⟨.mark mk,false,true⟩]:=by
 obtain⟨B,i,rest,k,o,args,C,D,F,H,J,M,N,L⟩:=gU p q h b ds cs
 refine⟨_,L z (.tuple #[]) (fun u j=>by rw[d]at j;cases j),fun w=>?_⟩;rw[D];exact stepG_mark0 mk n F H r J t c v x y
theorem Em(mk:Addr->Mark)(n:∀ad g,mk ad≠.extern g){z:Option E}(d:z=none){q:E}{xs:List (Option E)}(p:aV l s=some (f,some q::xs))(r:A.size=l)(h:Agree a s.env A)(t:b.kind≠.early)(v:P.funcs[f]?=some fn)(c:(fn.name== "runtime.NumGoroutine")=false)(x:fn.body.isNone=true)(y:Extern.findNext fn=none)
   (B:Extern.find fn=some (Extern.Race.marked mk)) {ad:Addr} (C:q.den a=.pointer (some ad)):∃e,Behind a l b ds cs (next s z) e/\∀w,stepG P m (G (b.at ⟨A,ds⟩ s.todo) cs) w=.go e w #[⟨.mark (mk ad),false,true⟩]:=by
 obtain⟨D,i,rest,k,o,args,F,H,J,L,M,N,Q,O⟩:=gU p r h b ds cs
 refine⟨_,O z (.tuple #[]) (fun u j=>by rw[d]at j;cases j),fun w=>?_⟩;rw[H];exact stepG_markAt mk n J L t M v c x y B ((N 0 q rfl).trans (by rw[C]))
theorem Qq{z:Option E}(e:z=none){q:E}{xs:List (Option E)}(L:aV l s=some (f,some q::xs))(M:A.size=l)(h:Agree a s.env A)(N:b.kind≠.early)(p:P.funcs[f]?=some fn)(d:(fn.name== "runtime.NumGoroutine")=false)(r:fn.body.isNone=true)(t:Extern.findNext fn=none)
   (v:Extern.find fn=some Extern.Sync.semacquire) {ad:Addr} (x:q.den a=.pointer (some ad)):∃y,Behind a l b ds cs (next s z) y/\(∀(w:World) (n:Int),w.cell? ad=some (.int .u32 n)->n≠0->w.frozen? ad=false->stepG P m (G (b.at ⟨A,ds⟩ s.todo) cs) w=.go y (w.setCell ad (.int .u32 (n-1))) (semEvents ad))/\
    ∀w:World,w.cell? ad=some (.int .u32 0)->stepG P m (G (b.at ⟨A,ds⟩ s.todo) cs) w=.go {G (b.at ⟨A,ds⟩ s.todo) cs with status:=.blocked} w #[]:=by
 obtain⟨O,i,rest,k,o,args,Q,B,C,D,F,H,T,R⟩:=gU L M h b ds cs
 refine⟨_,R z (.tuple #[]) (fun u J=>by rw[e]at J;cases J),fun w n c g j=>?_,fun w c=>?_⟩
 · rw[B];exact stepG_semacquire C D N F p d r t v ((H 0 q rfl).trans (by rw[x])) c g j
 · rw[B];exact stepG_semacquire_wait C D F p d r t v ((H 0 q rfl).trans (by rw[x])) c
theorem En{z:Option E}(e:z=none){q:E}{xs:List (Option E)}(r:aV l s=some (f,some q::xs))(t:A.size=l)(h:Agree a s.env A)(v:b.kind≠.early)(x:P.funcs[f]?=some fn)(c:(fn.name== "runtime.NumGoroutine")=false)(y:fn.body.isNone=true)(B:Extern.findNext fn=none)
   (C:Extern.find fn=some Extern.Sync.semrelease) {ad:Addr} (D:q.den a=.pointer (some ad)):∃j,Behind a l b ds cs (next s z) j/\(∀(w:World) (n:Int),w.cell? ad=some (.int .u32 n)->w.frozen? ad=false->stepG P m (G (b.at ⟨A,ds⟩ s.todo) cs) w=.go j (w.setCell ad (.int .u32 (IntKind.u32.wrap (n+1)))) (semEvents ad)):=by
 obtain⟨F,i,rest,k,o,args,H,J,L,M,N,O,R,Q⟩:=gU r t h b ds cs
 refine⟨_,Q z (.tuple #[]) (fun u p=>by rw[e]at p;cases p),fun w n d g=>?_⟩;rw[J];exact stepG_semrelease L M v N x c y B C ((O 0 q rfl).trans (by rw[D])) d g
theorem BA{q:E}(H:aV l s=some (f,[some q]))(J:A.size=l)(h:Agree a s.env A)(r:b.kind≠.early)(t:P.funcs[f]?=some fn)(d:(fn.name== "runtime.NumGoroutine")=false)(v:fn.body.isNone=true)(x:Extern.findNext fn=none)
   (y:Extern.find fn=some Extern.Sync.canSpin) {k:IntKind} {n:Int} (L:q.den a=.int k n) (c:Bool):∃g,Behind a l b ds cs (next s (some (.b c))) g/\∀w:World,(n<4->w.spins=c->stepG P m (G (b.at ⟨A,ds⟩ s.todo) cs) w=.go g w.asked #[])/\(4<=n->c=false->stepG P m (G (b.at ⟨A,ds⟩ s.todo) cs) w=.go g w #[]):=by
 obtain⟨M,i,rest,U,o,args,N,z,B,C,D,O,Q,R⟩:=gU H J h b ds cs
 have F:args.map (Act.eval ⟨A,ds⟩)=#[.int k n]:=by
   apply Array.ext_getElem?;intro j;rcases j with _|j
   ·rw[O 0 q rfl,L];rfl
   ·rw[Array.getElem?_eq_none (by simp[Q]),Array.getElem?_eq_none (by simp)]
 refine⟨_,R (some (.b c)) (.bool c) (fun u T=>by cases T;rfl),fun w=>⟨fun e p=>?_,fun e p=>?_⟩⟩
 · rw[z,stepG_canSpin_ask B C r D t d v x y F e,p]
 · rw[z,stepG_canSpin_no B C r D t d v x y F e,p]
theorem Oj{z:Option E}{xs:List (Option E)}(e:aV l s=some (f,xs))(g:A.size=l)(h:Agree a s.env A)(j:b.kind≠.early)(n:P.funcs[f]?=some fn)(c:(fn.name== "runtime.NumGoroutine")=false)(p:fn.body.isNone=true)(q:Extern.findNext fn=none)
   (r:Extern.find fn=some Extern.OsHooks.nano) (t:fn.norace=true) (tv:Int) (v:∀u,z=some u->Value.int .i64 tv=u.den a):∃d,Behind a l b ds cs (next s z) d/\∀w:World,((w.os.mono+w.tick:Nat):Int)=tv->stepG P m (G (b.at ⟨A,ds⟩ s.todo) cs) w=.go d w.later #[]:=by
 obtain⟨x,i,rest,k,o,args,y,B,C,D,F,L,M,H⟩:=gU e g h b ds cs
 refine⟨_,H z (.int .i64 tv) v,fun w J=>?_⟩;rw[B,stepG_nanotime C D j F n c p q r t,J]
theorem Z9(v:Value){z:Option E}(e:∀u,z=some u->v=u.den a){xs:List (Option E)}(g:aV l s=some (f,xs))(j:A.size=l)(h:Agree a s.env A)(n:b.kind≠.early)(p:P.funcs[f]?=some fn)(c:(fn.name== "runtime.NumGoroutine")=false)(q:fn.body.isNone=true)(r:Extern.findNext fn=none)
   (t:Extern.find fn=some (fun _=>pure v)):∃d,Behind a l b ds cs (next s z) d/\∀w,stepG P m (G (b.at ⟨A,ds⟩ s.todo) cs) w=.go d w #[]:=by
 obtain⟨x,i,rest,k,o,args,y,B,C,D,F,J,L,H⟩:=gU g j h b ds cs
 refine⟨_,H z v e,fun w=>?_⟩;rw[B];exact stepG_entry_pure v C D n F p c q r t
theorem Af{q:E}{j:TypeId}(t:∀w,Sem.run P (underlying j) w=.ok (.int .i32) w)(d:∀w,Sem.run P (Go.sizeOf j) w=.ok 1 w)(e:∀w,Sem.run P (isAgg j) w=.ok false w){z:Option E}(x:loadAt l s=some (j,some q))(B:A.size=l)(h:Agree a s.env A)(C:b.kind≠.early)(D:(P.funcs[b.fn]?).any (·.norace)=true)
   {ad:Addr} (F:q.den a=.pointer (some ad)) {v:Int} (H:∀u,z=some u->Value.int .i32 v=u.den a):
   ∃p,Behind a l b ds cs (next s z) p/\∀w:World,w.cell? ad=some (.int .i32 v)->stepG P m (G (b.at ⟨A,ds⟩ s.todo) cs) w=.go p w #[]:=by
 obtain⟨o,y,J,g,L⟩:=Qp x
 obtain⟨n,i,rest,k,M,N,O,Q,R⟩:=uf (ds:=ds) J B h
 obtain⟨T,U,V⟩:=R z (.int .i32 v) H
 have r:=(eH (ds:=ds) h L).trans F;refine⟨G (b.at (Act.put ⟨A,ds⟩ o.dst (.int .i32 v)) (.inRegion n rest::k)) cs,⟨_,T,V,by rw[Q,←U]⟩,fun w c=>?_⟩;rw[M];have W:(execOp (Act.eval ⟨A,ds⟩) o).run P w=.ok (.value (.int .i32 v)) w:=by
   unfold execOp;simp only[g,r]
   simp[go_sem,c,d,e]
 have X:(execOp (Act.eval ⟨A,ds⟩) o).events P w #[]=#[⟨.cell ad,false,false⟩]:=by
   unfold execOp;simp only[g,r]
   simp[go_sem,c,d,e]
 rw[stepG_value N O C W];unfold listed;rw[X,seen_def,D];simp[seenStep]
end
end Go.Sy
namespace Go.Mx
open Go.Ren Go.Sy
def bn(b:Bool)(k:Int):Int:=if b then k else 0
def tab(l w s n0 c z a:Bool):Tab:=
 [(.nil (.v 0),.v 0),(.F5 (.v 0) 0,.v 1),(.F5 (.v 0) 1,.v 2),
  (.bin .and (.v 4) (.i .i32 5),.i .i32 (bn l 1+bn s 4)),(.bin .and (.v 4) (.i .i32 1),.i .i32 (bn l 1)),(.bin .and (.v 4) (.i .i32 4),.i .i32 (bn s 4)),(.bin .and (.v 4) (.i .i32 2),.i .i32 (bn w 2)),
  (.bin .and (.v 4) (.i .i32 3),.i .i32 (bn l 1+bn w 2)),(.bin .shr (.v 4) (.i .u64 3),.v 8),
  (.bin .eql (.i .i32 0) (.i .i32 0),.b true),(.bin .eql (.i .i32 1) (.i .i32 0),.b false),(.bin .eql (.i .i32 2) (.i .i32 0),.b false),(.bin .eql (.i .i32 3) (.i .i32 0),.b false),(.bin .eql (.i .i32 4) (.i .i32 0),.b false),(.bin .eql (.i .i32 5) (.i .i32 0),.b false),
  (.bin .eql (.i .i32 0) (.i .i32 1),.b false),(.bin .eql (.i .i32 1) (.i .i32 1),.b true),(.bin .eql (.i .i32 4) (.i .i32 1),.b false),(.bin .eql (.i .i32 5) (.i .i32 1),.b false),
  (.bin .neq (.i .i32 0) (.i .i32 0),.b false),(.bin .neq (.i .i32 1) (.i .i32 0),.b true),(.bin .neq (.i .i32 2) (.i .i32 0),.b true),(.bin .neq (.i .i32 3) (.i .i32 0),.b true),(.bin .neq (.i .i32 4) (.i .i32 0),.b true),(.bin .neq (.i .i32 5) (.i .i32 0),.b true),
  (.bin .neq (.v 8) (.i .i32 0),.b !n0),(.bin .eql (.v 8) (.i .i32 0),.b n0),(.bin .eql (.v 8) (.i .i32 1),.b c),
  (.bin .or (.v 4) (.i .i32 1),.v 10),(.bin .add (.v 4) (.i .i32 8),.v 11),(.bin .add (.v 10) (.i .i32 8),.v 18),(.bin .or (.v 18) (.i .i32 4),.v 12),(.bin .or (.v 4) (.i .i32 2),.v 14),
  (.bin .and (.v 10) (.i .i32 2),.i .i32 (bn w 2)),(.bin .and (.v 18) (.i .i32 2),.i .i32 (bn w 2)),(.bin .and (.v 12) (.i .i32 2),.i .i32 (bn w 2)),
  (.bin .andNot (.v 10) (.i .i32 2),.v 15),(.bin .andNot (.v 18) (.i .i32 2),.v 16),(.bin .andNot (.v 12) (.i .i32 2),.v 17),
  (.bin .add (.v 5) (.i .i64 1),.v 6),(.bin .neq (.v 3) (.i .i64 0),.b !z),(.bin .eql (.v 3) (.i .i64 0),.b z),
  (.bin .sub (.i .i32 (-7)) (.i .i32 4),.i .i32 (-11)),(.bin .sub (.v 20) (.v 3),.v 21),(.bin .gtr (.v 21) (.i .i64 1000000),.b a)]
def uV(a c:Bool):Env:=[(0,some (.v 0)),(2,some (.v 3)),(3,some (.b c)),(4,some (.b a)),(5,some (.v 5)),(6,some (.v 4))]
def head(L:ah)(a b:Bool):S:=⟨uV a b,[.code (Vp L),.inLoop (Vp L),.inBlock 0,.code (Vq L)],[]⟩
end Go.Mx
namespace Go.Mx
open Go.Ren Go.Sy
open Go.Conc hiding Goes
def band(a b:Int):Int:=IntKind.i32.wrap ((BitVec.ofInt 32 a&&&BitVec.ofInt 32 b).toNat:Int)
def ug(a b:Int):Int:=IntKind.i32.wrap ((BitVec.ofInt 32 a|||BitVec.ofInt 32 b).toNat:Int)
def oJ(a b:Int):Int:=IntKind.i32.wrap ((BitVec.ofInt 32 a&&&~~~BitVec.ofInt 32 b).toNat:Int)
def W4(l w s:Bool)(n:Nat):Int:=bn l 1+bn w 2+bn s 4+8*(n:Int)
theorem Ol:∀n,n<64->∀l w s:Bool,band (W4 l w s n) 5=bn l 1+bn s 4/\band (W4 l w s n) 1=bn l 1/\band (W4 l w s n) 4=bn s 4/\band (W4 l w s n) 2=bn w 2/\band (W4 l w s n) 3=bn l 1+bn w 2/\band (W4 l w s n) 7=bn l 1+bn w 2+bn s 4:=by decide+kernel
theorem IB:∀n,n<64->∀l w s:Bool,ug (W4 l w s n) 1=W4 true w s n/\ug (W4 l w s n) 2=W4 l true s n/\ug (W4 l w s n) 4=W4 l w true n/\oJ (W4 l w s n) 2=W4 l false s n:=by decide+kernel
theorem Om:∀n,n<64->∀l w s:Bool,(W4 l w s n).fdiv 8=(n:Int)/\IntKind.i32.wrap (W4 l w s n)=W4 l w s n:=by decide+kernel
theorem ab6{l w s:Bool}{n:Nat}:W4 l w s n+8=W4 l w s (n+1):=by unfold W4;omega
def fl(k:Nat):Bool:=k==1
theorem gz{m:Wd}(h:m.Bits):(m.num:Int)=W4 (fl m.L) (fl m.W) (fl m.S) m.n:=by
 obtain⟨L,W,S,n⟩:=m
 obtain⟨a,b,c⟩:=h
 simp only at a b c;have d:L=0∨L=1:=by omega
 have e:W=0∨W=1:=by omega
 have f:S=0∨S=1:=by omega
 rcases d with rfl|rfl<;>rcases e with rfl|rfl<;>rcases f with rfl|rfl<;>simp[Wd.num,W4,fl,bn]<;>omega
section
variable{P:Program}
theorem ags(c:TypeId)(d f:Operand)(a b:Int):Go.Sy.Yields P (do eqGuard .and c d f (.int .i32 a) (.int .i32 b);binOp .and c (.int .i32 a) (.int .i32 b)) (.int .i32 (band a b)):=fun w=>by
 have e:Op.intBits .and .i32 a b=pure (.int .i32 (band a b)):=rfl
 exact⟨by simp[eqGuard,binOp,go_sem,e],fun g=>by simp[eqGuard,binOp,go_sem,e]⟩
theorem ajB(c:TypeId)(d f:Operand)(a b:Int):Go.Sy.Yields P (do eqGuard .or c d f (.int .i32 a) (.int .i32 b);binOp .or c (.int .i32 a) (.int .i32 b)) (.int .i32 (ug a b)):=fun w=>by
 have e:Op.intBits .or .i32 a b=pure (.int .i32 (ug a b)):=rfl
 exact⟨by simp[eqGuard,binOp,go_sem,e],fun g=>by simp[eqGuard,binOp,go_sem,e]⟩
theorem adP(c:TypeId)(d f:Operand)(a b:Int):Go.Sy.Yields P (do eqGuard .andNot c d f (.int .i32 a) (.int .i32 b);binOp .andNot c (.int .i32 a) (.int .i32 b)) (.int .i32 (oJ a b)):=fun w=>by
 have e:Op.intBits .andNot .i32 a b=pure (.int .i32 (oJ a b)):=rfl
 exact⟨by simp[eqGuard,binOp,go_sem,e],fun g=>by simp[eqGuard,binOp,go_sem,e]⟩
theorem agt(k:IntKind)(c:TypeId)(d e:Operand)(a b:Int):Go.Sy.Yields P (do eqGuard .add c d e (.int k a) (.int k b);binOp .add c (.int k a) (.int k b)) (.int k (k.wrap (a+b))):=fun w=>⟨by simp[eqGuard,binOp,Op.intArith,go_sem],fun f=>by simp[eqGuard,binOp,Op.intArith,go_sem]⟩
theorem agu(k:IntKind)(c:TypeId)(d e:Operand)(a b:Int):Go.Sy.Yields P (do eqGuard .sub c d e (.int k a) (.int k b);binOp .sub c (.int k a) (.int k b)) (.int k (k.wrap (a-b))):=fun w=>⟨by simp[eqGuard,binOp,Op.intArith,go_sem],fun f=>by simp[eqGuard,binOp,Op.intArith,go_sem]⟩
theorem agv(b:TypeId)(c d:Operand)(a:Int):Go.Sy.Yields P (do eqGuard .shr b c d (.int .i32 a) (.int .u64 3);binOp .shr b (.int .i32 a) (.int .u64 3)) (.int .i32 (a.fdiv 8)):=fun w=>⟨by simp[eqGuard,binOp,Op.shift,go_sem,IntKind.bits],fun e=>by simp[eqGuard,binOp,Op.shift,go_sem]⟩
theorem agw(k:IntKind)(c:TypeId)(d e:Operand)(a b:Int):Go.Sy.Yields P (do eqGuard .eql c d e (.int k a) (.int k b);binOp .eql c (.int k a) (.int k b)) (.bool (a==b)):=fun w=>⟨by simp[eqGuard,binOp,Op.intCmp,go_sem],fun f=>by simp[eqGuard,binOp,Op.intCmp,go_sem]⟩
theorem agx(k:IntKind)(c:TypeId)(d e:Operand)(a b:Int):Go.Sy.Yields P (do eqGuard .neq c d e (.int k a) (.int k b);binOp .neq c (.int k a) (.int k b)) (.bool (a !=b)):=fun w=>⟨by simp[eqGuard,binOp,Op.intCmp,go_sem],fun f=>by simp[eqGuard,binOp,Op.intCmp,go_sem]⟩
theorem agy(k:IntKind)(c:TypeId)(d e:Operand)(a b:Int):Go.Sy.Yields P (do eqGuard .gtr c d e (.int k a) (.int k b);binOp .gtr c (.int k a) (.int k b)) (.bool (decide (a>b))):=fun w=>⟨by simp[eqGuard,binOp,Op.intCmp,go_sem],fun f=>by simp[eqGuard,binOp,Op.intCmp,go_sem]⟩
end
end Go.Mx
namespace Go.Mx
open Go.Ren Go.Sy
open Go.Conc hiding Goes
def nu(Mu:Nat)(wst it tv:Int)(o:Wd)(nw:Int):Nat->Value
 | 0|1=>.pointer (some ⟨Mu,0,none⟩)
 | 2=>.pointer (some ⟨Mu,1,none⟩)
 | 3=>.int .i64 wst
 | 4=>.int .i32 (o.num:Int)
 | 5=>.int .i64 it
 | 6=>.int .i64 (IntKind.i64.wrap (it+1))
 | 8=>.int .i32 ((o.num:Int).fdiv 8)
 | 10=>.int .i32 (ug (o.num:Int) 1)
 | 11=>.int .i32 (IntKind.i32.wrap ((o.num:Int)+8))
 | 12=>.int .i32 (ug (IntKind.i32.wrap (ug (o.num:Int) 1+8)) 4)
 | 18=>.int .i32 (IntKind.i32.wrap (ug (o.num:Int) 1+8))
 | 14=>.int .i32 (ug (o.num:Int) 2)
 | 15=>.int .i32 (oJ (ug (o.num:Int) 1) 2)
 | 16=>.int .i32 (oJ (IntKind.i32.wrap (ug (o.num:Int) 1+8)) 2)
 | 17=>.int .i32 (oJ (ug (IntKind.i32.wrap (ug (o.num:Int) 1+8)) 4) 2)
 | 20=>.int .i64 tv
 | 21=>.int .i64 (IntKind.i64.wrap (tv-wst))
 | 30=>.int .i32 nw
 | 40=>.int .i32 (IntKind.i32.wrap ((o.num:Int)+1))
 | 41=>.int .i32 (IntKind.i32.wrap ((o.num:Int)-8))
 | 42=>.int .i32 (ug (IntKind.i32.wrap ((o.num:Int)-8)) 2)
 | _=>undef
def xY(wst tv:Int)(o:Wd):Tab:=tab (fl o.L) (fl o.W) (fl o.S) (o.n==0) (o.n==1) (wst==0) (decide (IntKind.i64.wrap (tv-wst)>1000000))
section
variable{P:Program}{d:TypeId}{c:Nat->Value}{x y z:E}{a b:Int}{k:IntKind}
theorem uO(e:x.den c=.int .i32 a)(f:y.den c=.int .i32 b)(g:z.den c=.int .i32 (band a b)):sD P d c (.bin .and x y) z:=fun h i j=>by rw[e,f,g];exact ags h i j a b
theorem aab(e:x.den c=.int .i32 a)(f:y.den c=.int .i32 b)(g:z.den c=.int .i32 (ug a b)):sD P d c (.bin .or x y) z:=fun h i j=>by rw[e,f,g];exact ajB h i j a b
theorem Ku(e:x.den c=.int .i32 a)(f:y.den c=.int .i32 b)(g:z.den c=.int .i32 (oJ a b)):sD P d c (.bin .andNot x y) z:=fun h i j=>by rw[e,f,g];exact adP h i j a b
theorem Oo(e:x.den c=.int k a)(f:y.den c=.int k b)(g:z.den c=.int k (k.wrap (a+b))):sD P d c (.bin .add x y) z:=fun h i j=>by rw[e,f,g];exact agt k h i j a b
theorem Vw(e:x.den c=.int k a)(f:y.den c=.int k b)(g:z.den c=.int k (k.wrap (a-b))):sD P d c (.bin .sub x y) z:=fun h i j=>by rw[e,f,g];exact agu k h i j a b
theorem agz(e:x.den c=.int .i32 a)(f:z.den c=.int .i32 (a.fdiv 8)):sD P d c (.bin .shr x (.i .u64 3)) z:=fun g h j=>by rw[e,f];exact agv g h j a
theorem oK(e:x.den c=.int k a)(f:y.den c=.int k b)(g:z.den c=.bool (a==b)):sD P d c (.bin .eql x y) z:=fun h i j=>by rw[e,f,g];exact agw k h i j a b
theorem sF(e:x.den c=.int k a)(f:y.den c=.int k b)(g:z.den c=.bool (a !=b)):sD P d c (.bin .neq x y) z:=fun h i j=>by rw[e,f,g];exact agx k h i j a b
theorem agA(e:x.den c=.int k a)(f:y.den c=.int k b)(g:z.den c=.bool (decide (a>b))):sD P d c (.bin .gtr x y) z:=fun h i j=>by rw[e,f,g];exact agy k h i j a b
end
theorem Dk{z:E}{c:Nat->Value}{a b:Int}(h:z=.i .i32 b)(e:a=b):z.den c=.int .i32 a:=by rw[h,e];rfl
theorem Vx{o:Wd}(a:o.Bits)(b:o.n<64):band (o.num:Int) 5=bn (fl o.L) 1+bn (fl o.S) 4/\band (o.num:Int) 1=bn (fl o.L) 1/\band (o.num:Int) 4=bn (fl o.S) 4/\band (o.num:Int) 2=bn (fl o.W) 2/\band (o.num:Int) 3=bn (fl o.L) 1+bn (fl o.W) 2/\band (o.num:Int) 7=bn (fl o.L) 1+bn (fl o.W) 2+bn (fl o.S) 4:=by
 rw[gz a];exact Ol _ b _ _ _
theorem agB{o:Wd}(a:o.Bits)(b:o.n<64):(o.num:Int).fdiv 8=o.n:=by rw[gz a];exact(Om _ b _ _ _).1
theorem Vy{o:Wd}(a:o.Bits)(b:o.n<64):IntKind.i32.wrap (o.num:Int)=o.num:=by rw[gz a];exact(Om _ b _ _ _).2
theorem agC{o:Wd}(a:o.Bits)(b:o.n<63):IntKind.i32.wrap ((o.num:Int)+8)=W4 (fl o.L) (fl o.W) (fl o.S) (o.n+1):=by rw[gz a,ab6];exact(Om _ (by omega) _ _ _).2
theorem Ah(a b:Nat):((a:Int)==(b:Int))=(a==b):=by
 rw[Bool.eq_iff_iff];simp only[beq_iff_eq];constructor<;>intro h<;>omega
theorem jD{P:Program}{L:ah}(H:dX P L){Mu:Nat}{wst it tv:Int}{o:Wd}{nw:Int}(d:o.Bits)(z:o.n<63):bF P L.mu.tIMutex (nu Mu wst it tv o nw) (xY wst tv o):=by
 obtain⟨k,l,m,q,r,_⟩:=Vx d (by omega)
 have e:=agB d (by omega)
 have g:=(IB o.n (by omega) (fl o.L) (fl o.W) (fl o.S)).1;have s:=(Ol o.n (by omega) true (fl o.W) (fl o.S)).2.2.2.1;have t:=(Ol (o.n+1) (by omega) true (fl o.W) (fl o.S)).2.2.2.1;have u:=(IB (o.n+1) (by omega) true (fl o.W) (fl o.S)).2.2.1;have v:=(Ol (o.n+1) (by omega) true (fl o.W) true).2.2.2.1;have h:=gz d
 have j:IntKind.i32.wrap (ug (o.num:Int) 1+8)=W4 true (fl o.W) (fl o.S) (o.n+1):=by rw[h,g,ab6];exact(Om _ (by omega) _ _ _).2
 unfold bF xY tab;simp only[List.forall_mem_cons]
 have F5:∀i:Nat,i<2->Go.Sy.Yields P (Instr.fieldAt L.mu.tIMutex (.pointer (some ⟨Mu,0,none⟩)) i) (.pointer (some ⟨Mu,i,none⟩)):=by
   intro i A;have b:=H.lib.runUnderlying_tIMutex
   have a:=H.lib.sizeOf_t21
   have c:=H.sizeOf_tU32
   have f:i=0∨i=1:=by omega
   rcases f with rfl|rfl
   ·exact fun w=>⟨by simp[go_sem,b,a,c],fun x=>by simp[go_sem,b,a,c]⟩
   ·exact fun w=>⟨by simp[go_sem,b,a,c],fun x=>by simp[go_sem,b,a,c]⟩
 refine⟨⟨rfl,_,rfl⟩,F5 0 (by omega),F5 1 (by omega),uO rfl rfl (Dk rfl k),uO rfl rfl (Dk rfl l),uO rfl rfl (Dk rfl m),uO rfl rfl (Dk rfl q),uO rfl rfl (Dk rfl r),agz rfl rfl,
   oK rfl rfl rfl,oK rfl rfl rfl,oK rfl rfl rfl,oK rfl rfl rfl,oK rfl rfl rfl,oK rfl rfl rfl,oK rfl rfl rfl,oK rfl rfl rfl,oK rfl rfl rfl,oK rfl rfl rfl,
   sF rfl rfl rfl,sF rfl rfl rfl,sF rfl rfl rfl,sF rfl rfl rfl,sF rfl rfl rfl,sF rfl rfl rfl,
   sF rfl rfl ?_,oK rfl rfl ?_,oK rfl rfl ?_,aab rfl rfl rfl,Oo rfl rfl rfl,Oo rfl rfl rfl,aab rfl rfl rfl,aab rfl rfl rfl,uO rfl rfl (Dk rfl ?_),uO rfl rfl (Dk rfl ?_),uO rfl rfl (Dk rfl ?_),Ku rfl rfl rfl,Ku rfl rfl rfl,Ku rfl rfl rfl,
   Oo rfl rfl rfl,sF rfl rfl rfl,oK rfl rfl rfl,Vw rfl rfl rfl,Vw rfl rfl rfl,agA rfl rfl rfl,fun p y=>absurd y (List.not_mem_nil)⟩
 · rw[e];have:=Ah o.n 0
   show Value.bool (!(o.n==0))=Value.bool (!((o.n:Int)==((0:Nat):Int)))
   rw[this]
 · rw[e];show Value.bool (o.n==0)=Value.bool ((o.n:Int)==((0:Nat):Int))
   rw[Ah]
 · rw[e];show Value.bool (o.n==1)=Value.bool ((o.n:Int)==((1:Nat):Int))
   rw[Ah]
 · rw[h,g];exact s
 · rw[j];exact t
 · rw[j,u];exact v
section
variable{Mu:Nat}{wst it tv:Int}{o:Wd}{nw:Int}
theorem jq:nu Mu wst it tv o nw 0=.pointer (some ⟨Mu,0,none⟩):=rfl
theorem jE:nu Mu wst it tv o nw 1=.pointer (some ⟨Mu,0,none⟩):=rfl
theorem yh:nu Mu wst it tv o nw 2=.pointer (some ⟨Mu,1,none⟩):=rfl
theorem zQ:nu Mu wst it tv o nw 3=.int .i64 wst:=rfl
theorem sG:nu Mu wst it tv o nw 4=.int .i32 (o.num:Int):=rfl
theorem F6:nu Mu wst it tv o nw 5=.int .i64 it:=rfl
theorem ajC:nu Mu wst it tv o nw 6=.int .i64 (IntKind.i64.wrap (it+1)):=rfl
theorem agD:nu Mu wst it tv o nw 10=.int .i32 (ug (o.num:Int) 1):=rfl
theorem agE:nu Mu wst it tv o nw 11=.int .i32 (IntKind.i32.wrap ((o.num:Int)+8)):=rfl
theorem Oq:nu Mu wst it tv o nw 14=.int .i32 (ug (o.num:Int) 2):=rfl
theorem agF:nu Mu wst it tv o nw 15=.int .i32 (oJ (ug (o.num:Int) 1) 2):=rfl
theorem agG:nu Mu wst it tv o nw 16=.int .i32 (oJ (IntKind.i32.wrap (ug (o.num:Int) 1+8)) 2):=rfl
theorem agH:nu Mu wst it tv o nw 17=.int .i32 (oJ (ug (IntKind.i32.wrap (ug (o.num:Int) 1+8)) 4) 2):=rfl
theorem agI:nu Mu wst it tv o nw 18=.int .i32 (IntKind.i32.wrap (ug (o.num:Int) 1+8)):=rfl
theorem Vz:nu Mu wst it tv o nw 20=.int .i64 tv:=rfl
theorem VA:nu Mu wst it tv o nw 30=.int .i32 nw:=rfl
theorem Ot:nu Mu wst it tv o nw 42=.int .i32 (ug (IntKind.i32.wrap ((o.num:Int)-8)) 2):=rfl
end
def nZ(l w s n0 a:Bool):Tab:=(.bin .add (.v 4) (.i .i32 1),.v 40)::(.bin .and (.v 40) (.i .i32 1),.i .i32 (bn (!l) 1))::(.bin .and (.v 4) (.i .i32 7),.i .i32 (bn l 1+bn w 2+bn s 4))::(.bin .neq (.i .i32 6) (.i .i32 0),.b true)::(.bin .neq (.i .i32 7) (.i .i32 0),.b true)::(.bin .sub (.v 4) (.i .i32 8),.v 41)::(.bin .or (.v 41) (.i .i32 2),.v 42)::tab l w s n0 a true false
theorem ajD:∀n,n<64->∀l w s:Bool,band (IntKind.i32.wrap (W4 l w s n+1)) 1=bn (!l) 1:=by decide+kernel
theorem ajE:∀n,n<63->ug (IntKind.i32.wrap (W4 false false false (n+1)-8)) 2=W4 false true false n:=by decide+kernel
theorem wV{P:Program}{L:ah}(H:dX P L){Mu:Nat}{o:Wd}{nw:Int}(a:o.Bits)(c:o.n<63):bF P L.mu.tIMutex (nu Mu 0 0 0 o nw) (nZ (fl o.L) (fl o.W) (fl o.S) (o.n==0) (o.n==1)):=by
 have b:=jD H (Mu:=Mu) (wst:=0) (it:=0) (tv:=0) (nw:=nw) a c
 have e:xY 0 0 o=tab (fl o.L) (fl o.W) (fl o.S) (o.n==0) (o.n==1) true false:=by
   unfold xY;have f:decide (IntKind.i64.wrap ((0:Int)-0)>1000000)=false:=by decide+kernel
   rw[f];rfl
 rw[e]at b;obtain⟨_,_,_,_,_,g⟩:=Vx a (by omega:o.n<64)
 unfold bF nZ;simp only[List.forall_mem_cons]
 refine⟨Oo rfl rfl rfl,uO rfl rfl (Dk rfl ?_),uO rfl rfl (Dk rfl g),sF rfl rfl rfl,sF rfl rfl rfl,Vw rfl rfl rfl,aab rfl rfl rfl,b⟩;rw[gz a];exact ajD _ (by omega) _ _ _
attribute [irreducible] nu
end Go.Mx
namespace Go.Sy
open Go.Ren
open Go.Conc hiding Goes
def sub(s t:Env):List (Option E×Option E):=t.map fun p=>(get s p.1,p.2)
def lit:E->Bool
 | .v _=>false
 | _=>true
def lg(a:List (E×E))(p:Option E×Option E):Bool:=match p.2 with
 | none=>true
 | some x=>match p.1 with
   |none=>false
   |some y=>(decide (y=x)&&lit y)||a.contains (y,x)
theorem uh{g Ai:Nat->Value}{s t:Env}{A:Array Value}{ρ:List (E×E)}(h:Agree g s A)(c:(sub s t).all (lg ρ)=true)(d:∀p∈ρ,p.1.den g=p.2.den Ai):Agree Ai t A:=by
 intro k x b;have i:(k,some x)∈t:=by
   induction t with
   |nil=>cases b
   |cons p t l=>
    obtain⟨j,y⟩:=p
    unfold get at b;split at b
    ·rename_i e;have:j=k:=by simpa using e
     subst this;subst b;exact List.mem_cons_self ..
    ·exact List.mem_cons_of_mem _ (l (by unfold sub at c;simp only[List.map_cons,List.all_cons,Bool.and_eq_true]at c;exact c.2) b)
 have a:=List.all_eq_true.1 c (get s k,some x) (List.mem_map.2 ⟨_,i,rfl⟩);unfold lg at a;dsimp only at a;cases f:get s k with
 | none=>rw[f]at a;cases a
 | some y=>
   rw[f]at a;dsimp only at a;rw[h k y f];simp only[Bool.or_eq_true,Bool.and_eq_true,decide_eq_true_eq,List.contains_iff_mem]at a;rcases a with⟨rfl,m⟩|a
   ·cases y<;>first|rfl|cases m
   ·exact congrArg some (d _ a)
structure To(tI:TypeId)(sz:Nat)(T:Tab)(n k:Nat)(s t:S)(ρ:List (E×E)):Prop where
 todo:(run sz T n s).todo=t.todo
 log:(run sz T n s).log=List.replicate k tI
 env:(sub (run sz T n s).env t.env).all (lg ρ)=true
theorem To.walk{P:Program}{j:TypeId}{a n k:Nat}{T:Tab}{s t:S}{ρ:List (E×E)}(h:To j a T n k s t ρ){c Ai:Nat->Value}(r:bF P j c T)(e:∀p∈ρ,p.1.den c=p.2.den Ai){b:Frame}{ds:List Deferred}{cs:List Frame}(u:b.kind≠.early){m:Bool}{I:World->Prop}{X:Event->Prop}{Q:Nat->Goroutine->Prop}{d:Nat}{g:Goroutine}
   (v:Behind c a b ds cs s g) (q:∀l,Behind Ai a b ds cs t l->af P m I X Q d l):af P m I X Q d g:=by
 obtain⟨A,w,y,rfl⟩:=v
 refine Vt r u n s A w y (fun x o=>?_) fun z f i=>?_
 · rw[h.log]at o;exact List.eq_of_mem_replicate o
 · rw[h.todo];exact q _ ⟨z,f,uh i h.env e,rfl⟩
end Go.Sy
namespace Go.Mx
open Go.Ren Go.Sy
open Go.Conc hiding Goes
def T0:Tab:=tab true false false false false true false
def fresh(e:Env)(t:List Item):S:=⟨e,t,[]⟩
def enS(L:ah):S:=fresh [(0,some (.v 0))] [.code (Bz L)]
def sqR(L:ah):S:=run 139 T0 9 (head L false false)
def c1R(L:ah):S:=run 139 T0 25 (next (sqR L) (some (.b true)))
def dsR(L:ah):S:=run 139 T0 8 (next (c1R L) (some (.b true)))
def rBR(L:ah):S:=run 139 T0 12 (next (dsR L) none)
def c2R(L:ah):S:=run 139 T0 61 (next (sqR L) (some (.b false)))
def rCR(L:ah):S:=run 139 T0 6 (next (c2R L) (some (.b false)))
def t1R(L:ah):S:=run 139 T0 25 (next (c2R L) (some (.b true)))
def s1R(L:ah):S:=run 139 T0 8 (next (t1R L) (some (.v 3)))
def t2R(L:ah):S:=run 139 T0 5 (next (s1R L) none)
def r2R(L:ah):S:=run 139 ((.bin .sub (.v 20) (.v 3),.v 21)::T0) 40 (next (t2R L) (some (.v 20)))
def a1R(L:ah):S:=run 139 (tab false false true false false true false) 200 (next (r2R L) (some (.v 4)))
inductive Pl where|a|b|c
def rdT(L:ah):Pl->List Item
 | .a=>(run 139 T0 21 (enS L)).todo
 | .b=>(rBR L).todo
 | .c=>(rCR L).todo
def rdA:Pl->Nat
 | .a=>12
 | .b=>47
 | .c=>133
def loc(a c:Bool):Env:=[(0,some (.v 0)),(2,some (.v 3)),(3,some (.b c)),(4,some (.b a)),(5,some (.v 5))]
def Ux(L:ah)(a:Pl)(b c:Bool):S:=fresh ((rdA a,some (.v 1))::loc b c) (rdT L a)
def ZG(L:ah)(a c:Bool):S:=fresh ((17,some (.b true))::(18,some (.v 5))::uV a c) (sqR L).todo
def c1S(L:ah)(a:Bool):S:=fresh ((33,some (.b true))::(36,some (.v 1))::(37,some (.v 4))::(39,some (.v 14))::uV false a) (c1R L).todo
def dsS(L:ah)(a b:Bool):S:=fresh (loc a b) (dsR L).todo
def Ou(L:ah)(a b:Bool):S:=fresh ((77,some (.v 1))::(78,some (.v 4))::(79,some (.v 30))::uV a b) (c2R L).todo
def t1S(L:ah)(c a:Bool):S:=fresh [(0,some (.v 0)),(3,some (.b c)),(8,some (.b a))] (t1R L).todo
def s1S(L:ah)(c a:Bool):S:=fresh [(0,some (.v 0)),(2,some (.v 3)),(3,some (.b c)),(91,some (.v 2)),(92,some (.b a))] (s1R L).todo
def t2S(L:ah):S:=fresh [(0,some (.v 0)),(2,some (.v 3)),(3,some (.b false)),(95,some (.b false))] (t2R L).todo
def VB(L:ah)(a:Bool):S:=fresh [(0,some (.v 0)),(2,some (.v 3)),(3,some (.b a)),(103,some (.v 1))] (r2R L).todo
def a1S(L:ah)(a:Int):S:=fresh [(0,some (.v 0)),(128,some (.v 1)),(129,some (.i .i32 a))] (a1R L).todo
def Uy(L:ah):S:=fresh [(0,some (.v 0))] (run 139 T0 20 (fresh [(0,some (.v 0))] [.code (Vq L)])).todo
def ri:List (E×E):=[(.v 0,.v 0),(.v 1,.v 1),(.v 2,.v 2),(.v 3,.v 3),(.v 4,.v 4),(.v 5,.v 5),(.v 14,.v 14)]
def r0:List (E×E):=[(.v 0,.v 0),(.v 1,.v 1),(.i .i64 0,.v 3),(.i .i64 0,.v 5)]
def rN(k:Nat):List (E×E):=(.v k,.v 30)::ri
section
variable(L:ah)
theorem agK(l w s n0 c z b:Bool):To L.mu.tIMutex 139 (tab l w s n0 c z b) 21 1 (enS L) (Ux L .a false false) r0:=⟨by kernel_rfl,by kernel_rfl,by kernel_rfl⟩
theorem agL(T:Tab)(d e:Bool):To L.mu.tIMutex 139 T 5 0 (next (Ux L .a d e) (some (.v 4))) (head L d e) ri/\To L.mu.tIMutex 139 T 4 0 (next (Ux L .b d e) (some (.v 4))) (head L d e) ri/\To L.mu.tIMutex 139 T 4 0 (next (Ux L .c d e) (some (.v 4))) (head L d e) ri:=by
 cases d<;>cases e<;>exact⟨⟨by kernel_rfl,by kernel_rfl,by kernel_rfl⟩,⟨by kernel_rfl,by kernel_rfl,by kernel_rfl⟩,⟨by kernel_rfl,by kernel_rfl,by kernel_rfl⟩⟩
section
variable(w n0 c z a:Bool)
theorem agM(b d:Bool):To L.mu.tIMutex 139 (tab true w false n0 c z a) 9 0 (head L b d) (ZG L b d) ri:=by
 cases b<;>cases d<;>exact⟨by kernel_rfl,by kernel_rfl,by kernel_rfl⟩
theorem adS:To L.mu.tIMutex 139 (tab false w false n0 c z a) 200 1 (head L false false) (Ou L false false) (rN 10):=⟨by kernel_rfl,by kernel_rfl,by kernel_rfl⟩
theorem aac(b:Bool):To L.mu.tIMutex 139 (tab false true false n0 c z a) 200 1 (head L true b) (Ou L true b) (rN 15):=by
 cases b<;>exact⟨by kernel_rfl,by kernel_rfl,by kernel_rfl⟩
theorem agN(l:Bool):To L.mu.tIMutex 139 (tab l w true n0 c z a) 200 1 (head L false false) (Ou L false false) (rN 11):=by
 cases l<;>exact⟨by kernel_rfl,by kernel_rfl,by kernel_rfl⟩
theorem agO:To L.mu.tIMutex 139 (tab true w false n0 c z a) 200 1 (next (ZG L false false) (some (.b false))) (Ou L false false) (rN 18):=⟨by kernel_rfl,by kernel_rfl,by kernel_rfl⟩
theorem agP:To L.mu.tIMutex 139 (tab true true false n0 c z a) 200 1 (next (ZG L true false) (some (.b false))) (Ou L true false) (rN 16):=⟨by kernel_rfl,by kernel_rfl,by kernel_rfl⟩
theorem agQ:To L.mu.tIMutex 139 (tab true true false n0 c z a) 200 1 (next (ZG L true true) (some (.b false))) (Ou L true true) (rN 17):=⟨by kernel_rfl,by kernel_rfl,by kernel_rfl⟩
theorem agR(d:Bool):To L.mu.tIMutex 139 (tab true false false false c z a) 25 1 (next (ZG L false d) (some (.b true))) (c1S L d) ri:=by
 cases d<;>exact⟨by kernel_rfl,by kernel_rfl,by kernel_rfl⟩
theorem agS(d:Bool):To L.mu.tIMutex 139 (tab true w false n0 c z a) 200 0 (next (ZG L true d) (some (.b true))) (dsS L true d) ri:=by
 cases d<;>exact⟨by kernel_rfl,by kernel_rfl,by kernel_rfl⟩
theorem agT(d:Bool):To L.mu.tIMutex 139 (tab true true false n0 c z a) 200 0 (next (ZG L false d) (some (.b true))) (dsS L false d) ri:=by
 cases d<;>exact⟨by kernel_rfl,by kernel_rfl,by kernel_rfl⟩
theorem agU(d:Bool):To L.mu.tIMutex 139 (tab true false false true c z a) 200 0 (next (ZG L false d) (some (.b true))) (dsS L false d) ri:=by
 cases d<;>exact⟨by kernel_rfl,by kernel_rfl,by kernel_rfl⟩
end
section
variable(l w s n0 d z a:Bool)
theorem adT(c:Bool):To L.mu.tIMutex 139 (tab l w s n0 d z a) 8 0 (next (c1S L c) (some (.b true))) (dsS L true c) ri:=by
 cases c<;>exact⟨by kernel_rfl,by kernel_rfl,by kernel_rfl⟩
theorem adU(c:Bool):To L.mu.tIMutex 139 (tab l w s n0 d z a) 200 0 (next (c1S L c) (some (.b false))) (dsS L false c) ri:=by
 cases c<;>exact⟨by kernel_rfl,by kernel_rfl,by kernel_rfl⟩
theorem agV(c e:Bool):To L.mu.tIMutex 139 (tab l w s n0 d z a) 12 1 (next (dsS L c e) none) (Ux L .b c e) [(.v 0,.v 0),(.v 1,.v 1),(.v 3,.v 3),(.v 6,.v 5)]:=by
 cases c<;>cases e<;>exact⟨by kernel_rfl,by kernel_rfl,by kernel_rfl⟩
theorem adV(e f:Bool):To L.mu.tIMutex 139 (tab l w s n0 d z a) 6 1 (next (Ou L e f) (some (.b false))) (Ux L .c e f) ri:=by
 cases e<;>cases f<;>exact⟨by kernel_rfl,by kernel_rfl,by kernel_rfl⟩
theorem adW(c e:Bool):To L.mu.tIMutex 139 (tab false w false n0 d z a) 200 0 (next (Ou L c e) (some (.b true))) (Uy L) ri:=by
 cases c<;>cases e<;>exact⟨by kernel_rfl,by kernel_rfl,by kernel_rfl⟩
theorem VC(e c:Bool):To L.mu.tIMutex 139 (tab true w s n0 d true a) 200 0 (next (Ou L e c) (some (.b true))) (t1S L c false) ri/\To L.mu.tIMutex 139 (tab false w true n0 d true a) 200 0 (next (Ou L e c) (some (.b true))) (t1S L c false) ri:=by
 cases s<;>cases e<;>cases c<;>exact⟨⟨by kernel_rfl,by kernel_rfl,by kernel_rfl⟩,⟨by kernel_rfl,by kernel_rfl,by kernel_rfl⟩⟩
theorem VD(e c:Bool):To L.mu.tIMutex 139 (tab true w s n0 d false a) 200 1 (next (Ou L e c) (some (.b true))) (s1S L c true) ri/\To L.mu.tIMutex 139 (tab false w true n0 d false a) 200 1 (next (Ou L e c) (some (.b true))) (s1S L c true) ri:=by
 cases s<;>cases e<;>cases c<;>exact⟨⟨by kernel_rfl,by kernel_rfl,by kernel_rfl⟩,⟨by kernel_rfl,by kernel_rfl,by kernel_rfl⟩⟩
theorem agW(c b:Bool):To L.mu.tIMutex 139 (tab l w s n0 d z a) 200 1 (next (t1S L c b) (some (.v 20))) (s1S L c b) [(.v 0,.v 0),(.v 2,.v 2),(.v 20,.v 3)]:=by
 cases c<;>cases b<;>exact⟨by kernel_rfl,by kernel_rfl,by kernel_rfl⟩
theorem adX(b:Bool):To L.mu.tIMutex 139 (tab l w s n0 d z a) 5 0 (next (s1S L false b) none) (t2S L) ri:=⟨by kernel_rfl,by kernel_rfl,by kernel_rfl⟩
theorem adY(b:Bool):To L.mu.tIMutex 139 (tab l w s n0 d z a) 200 1 (next (s1S L true b) none) (VB L true) ri:=⟨by kernel_rfl,by kernel_rfl,by kernel_rfl⟩
theorem agX:To L.mu.tIMutex 139 (tab l w s n0 d z a) 200 1 (next (t2S L) (some (.v 20))) (VB L a) ri:=by
 cases a<;>exact⟨by kernel_rfl,by kernel_rfl,by kernel_rfl⟩
theorem adZ(b:Bool):To L.mu.tIMutex 139 (tab l w false n0 d z a) 20 0 (next (VB L b) (some (.v 4))) (head L true b) [(.v 0,.v 0),(.v 3,.v 3),(.v 4,.v 4),(.i .i64 0,.v 5)]:=by
 cases b<;>exact⟨by kernel_rfl,by kernel_rfl,by kernel_rfl⟩
theorem ad1:To L.mu.tIMutex 139 (tab false false true false d z a) 200 1 (next (VB L false) (some (.v 4))) (a1S L (-11)) ri/\To L.mu.tIMutex 139 (tab false false true false true z a) 200 1 (next (VB L true) (some (.v 4))) (a1S L (-11)) ri/\To L.mu.tIMutex 139 (tab false false true false false z a) 200 1 (next (VB L true) (some (.v 4))) (a1S L (-7)) ri:=⟨⟨by kernel_rfl,by kernel_rfl,by kernel_rfl⟩,⟨by kernel_rfl,by kernel_rfl,by kernel_rfl⟩,⟨by kernel_rfl,by kernel_rfl,by kernel_rfl⟩⟩
theorem agY(b:Int)(T:Tab):To L.mu.tIMutex 139 T 200 0 (next (a1S L b) none) (Uy L) ri:=⟨by kernel_rfl,by kernel_rfl,by kernel_rfl⟩
end
theorem agZ(a:Pl)(b c:Bool):loadAt 139 (Ux L a b c)=some (21,some (.v 1)):=by cases a<;>cases b<;>cases c<;>kernel_rfl
theorem ab9(a b:Bool):aV 139 (ZG L a b)=some (L.canSpin,[some (.v 5)]):=by cases a<;>cases b<;>kernel_rfl
theorem acd(a:Bool):aV 139 (c1S L a)=some (L.mu.cas32,[some (.v 1),some (.v 4),some (.v 14)]):=by cases a<;>kernel_rfl
theorem ag0(a b:Bool):aV 139 (dsS L a b)=some (L.FW,[]):=by cases a<;>cases b<;>kernel_rfl
theorem ace(a b:Bool):aV 139 (Ou L a b)=some (L.mu.cas32,[some (.v 1),some (.v 4),some (.v 30)]):=by cases a<;>cases b<;>kernel_rfl
theorem ag1(b a:Bool):aV 139 (t1S L b a)=some (L.nano,[]):=by cases b<;>cases a<;>kernel_rfl
theorem ag2(c a:Bool):aV 139 (s1S L c a)=some (L.FX,[some (.v 2),some (.b a),some (.i .i64 2)]):=by cases c<;>cases a<;>kernel_rfl
theorem ag3:aV 139 (t2S L)=some (L.nano,[]):=by kernel_rfl
theorem ag4(a:Bool):loadAt 139 (VB L a)=some (21,some (.v 1)):=by cases a<;>kernel_rfl
theorem ag5:aV 139 (Uy L)=some (L.mu.enable,[]):=by kernel_rfl
theorem ag6(a:Int):aV 139 (a1S L a)=some (L.mu.add32,[some (.v 1),some (.i .i32 a)]):=by kernel_rfl
end
end Go.Mx
namespace Go.Mx
open Go.Ren Go.Sy
open Go.Conc hiding Goes
open Go.Conc.Locks
open Go.ConcR (stA smA)
section
variable(L:ah)
theorem nP:((cas32Fn L.mu).name== "runtime.NumGoroutine")=false:=by kernel_rfl
theorem nR:(cas32Fn L.mu).body.isNone=true:=by kernel_rfl
theorem nS:Extern.findNext (cas32Fn L.mu)=none:=by kernel_rfl
theorem nT:Extern.find (cas32Fn L.mu)=some (Extern.Atomic.casT (.int .i32)):=by kernel_rfl
theorem Ov:((add32Fn L.mu).name== "runtime.NumGoroutine")=false:=by kernel_rfl
theorem Ox:(add32Fn L.mu).body.isNone=true:=by kernel_rfl
theorem Oy:Extern.findNext (add32Fn L.mu)=none:=by kernel_rfl
theorem Oz:Extern.find (add32Fn L.mu)=some (Extern.Atomic.update (Op.intArith .add) .i32 true):=by kernel_rfl
theorem OA:((oH L).name== "runtime.NumGoroutine")=false:=by kernel_rfl
theorem OB:(oH L).body.isNone=true:=by kernel_rfl
theorem OC:Extern.findNext (oH L)=none:=by kernel_rfl
theorem OD:Extern.find (oH L)=some Extern.Sync.canSpin:=by kernel_rfl
theorem ad2:((rW L).name== "runtime.NumGoroutine")=false:=by kernel_rfl
theorem ad3:(rW L).body.isNone=true:=by kernel_rfl
theorem ad4:Extern.findNext (rW L)=none:=by kernel_rfl
theorem ad5:Extern.find (rW L)=some (fun _=>pure (.tuple #[])):=by kernel_rfl
theorem IC:((yf L).name== "runtime.NumGoroutine")=false:=by kernel_rfl
theorem IE:(yf L).body.isNone=true:=by kernel_rfl
theorem IG:Extern.findNext (yf L)=none:=by kernel_rfl
theorem II:Extern.find (yf L)=some Extern.OsHooks.nano:=by kernel_rfl
theorem IJ:(yf L).norace=true:=by kernel_rfl
theorem aad:((rX L).name== "runtime.NumGoroutine")=false:=by kernel_rfl
theorem aae:(rX L).body.isNone=true:=by kernel_rfl
theorem aaf:Extern.findNext (rX L)=none:=by kernel_rfl
theorem aag:Extern.find (rX L)=some Extern.Sync.semacquire:=by kernel_rfl
theorem OE:((rY L).name== "runtime.NumGoroutine")=false:=by kernel_rfl
theorem Aj:(rY L).body.isNone=true:=by kernel_rfl
theorem OG:Extern.findNext (rY L)=none:=by kernel_rfl
theorem OH:Extern.find (rY L)=some Extern.Sync.semrelease:=by kernel_rfl
end
section
variable{tM:TypeId}{Mu:Nat}{w:World}{m m':Wd}{q:Nat}
def mA(Mu:Nat):Addr:=⟨Mu,0,none⟩
def sA(Mu:Nat):Addr:=⟨Mu,1,none⟩
theorem MuAt.state(h:MuAt tM Mu w m q):w.cell? (mA Mu)=some (.int .i32 m.num):=by unfold MuAt at h;simp[World.cell?,mA,h]
theorem MuAt.sema(h:MuAt tM Mu w m q):w.cell? (sA Mu)=some (.int .u32 q):=by unfold MuAt at h;simp[World.cell?,sA,h]
theorem MuAt.thaw(h:MuAt tM Mu w m q)(a:Nat):w.frozen? ⟨Mu,a,none⟩=false:=by unfold MuAt at h;simp[World.frozen?,h]
theorem zq{a:Type}{A:Array a}{i:Nat}{f:a->a}{x:a}(h:A[i]?=some x):(A.modify i f)[i]?=some (f x):=by
 rw[Array.getElem?_modify,if_pos rfl,h];rfl
theorem MuAt.setState(h:MuAt tM Mu w m q){v:Int}(a:v=m'.num):MuAt tM Mu (w.setCell (mA Mu) (.int .i32 v)) m' q:=by
 unfold MuAt at h⊢;unfold World.setCell mA;dsimp only
 rw[zq h];simp[a]
theorem MuAt.F7(h:MuAt tM Mu w m q){v:Int}{a:Nat}(b:v=a):MuAt tM Mu (w.setCell (sA Mu) (.int .u32 v)) m a:=by
 unfold MuAt at h⊢;unfold World.setCell sA;dsimp only
 rw[zq h];simp[b]
theorem OI{a:Addr}(c:a.block=Mu)(v:Value):rZ Mu w (w.setCell a v):=⟨by simp,fun b d=>dY (by rw[c];exact d),.rfl,rfl,rfl⟩
theorem yj:rZ Mu w w.asked:=⟨rfl,fun _ _=>rfl,.rfl,rfl,rfl⟩
theorem Eo:rZ Mu w w.later:=⟨rfl,fun _ _=>rfl,⟨w.tick,rfl⟩,rfl,rfl⟩
theorem aah{b:Bool}:∀e∈#[(⟨.cell (mA Mu),b,true⟩:Event)],iO Mu e:=by
 intro e a;rw[Array.mem_singleton]at a;subst a;exact .inr (.inr (.inr (.inr ⟨_,_,rfl,rfl⟩)))
theorem Dl:∀e∈#[(⟨.cell (mA Mu),false,true⟩:Event),⟨.cell (mA Mu),true,true⟩],iO Mu e:=by
 intro e a;simp at a;rcases a with rfl|rfl<;>exact .inr (.inr (.inr (.inr ⟨_,_,rfl,rfl⟩)))
theorem ad6:∀e∈semEvents (sA Mu),iO Mu e:=by
 intro e a;simp[semEvents]at a;rcases a with rfl|rfl|rfl|rfl
 · exact .inl rfl
 · exact .inr (.inr (.inr (.inr ⟨_,_,rfl,rfl⟩)))
 · exact .inr (.inr (.inr (.inr ⟨_,_,rfl,rfl⟩)))
 · exact .inr (.inl rfl)
theorem aai{b:Bool}:deafBehind 1 #[(⟨.cell (mA Mu),b,true⟩:Event)]=1:=by simp[deafBehind]
theorem Dn:deafBehind 1 #[(⟨.cell (mA Mu),false,true⟩:Event),⟨.cell (mA Mu),true,true⟩]=1:=by simp[deafBehind]
theorem ad7:deafBehind 1 (semEvents (sA Mu))=1:=by simp[semEvents,deafBehind]
end
end Go.Mx
