import Derived.Test.YtjgfemidkffdjaaGreatH1
set_option linter.all false
namespace Go.Am
open Go.Ren (grow gU aT aB)
def iQ:Nat->Value->Bool
 |0,_=>false
 |n+1,v=>match v with
  | .bool _|.int _ _|.string _|.pointer none|.slice none _ _|.map none|.nilFunc|.nilIface=>true
  | .func (.func _) a b=>a.isEmpty&&b.isEmpty
  | .func (.via ..) a b=>a.isEmpty&&b.isEmpty
  | .iface _ v=>iQ n v
  | .agg c=>c.toList.all (iQ n)
  | .tuple c=>c.toList.all (iQ n)
  |_=>false
theorem get_mem{b:Type}{a:Array b}{i:Nat}{x:b}(h:a[i]?=some x):x∈a.toList:=by
 obtain⟨d,c⟩:=Array.getElem?_eq_some_iff.1 h;rw[←c];simp
theorem Yw(e:Env):∀(n:Nat) (v:Value),iQ n v=true->VR e v v:=by
 intro n;induction n with
 |zero=>intro v h;cases h
 |succ n w=>
  intro v h;have g:∀d:Array Value,d.toList.all (iQ n)=true->∀(i:Nat) x y,d[i]?=some x->d[i]?=some y->VR e x y:=by
   intro d A i x y q z;rw[q]at z;cases z;exact w x (List.all_eq_true.1 A x (get_mem q))
  have j:∀a:Array Value,a.isEmpty=true->∀(i:Nat) x y,a[i]?=some x->a[i]?=some y->VR e x y:=by intro a B i x y q _;have:a=#[]:=Array.isEmpty_iff.1 B;subst this;simp at q
  cases v with
  |bool b=>exact .bool b
  |int k m=>exact .int k m
  |string s=>exact .string s
  |pointer a=>cases a with|none=>exact .gG|some a=>cases h
  |slice a m c=>cases a with|none=>exact .nilslice m c|some a=>cases h
  |map r=>cases r with|none=>exact .dO|some a=>cases h
  |nilFunc=>exact .nilFunc
  |nilIface=>exact .nilIface
  |func f a b=>
   have o:(a.isEmpty&&b.isEmpty)=true->Uz e f f->VR e (.func f a b) (.func f a b):=fun h D=>by simp only[Bool.and_eq_true]at h;exact .func D rfl (j a h.1) rfl (j b h.2)
   cases f with
   |func f=>exact o h (.func f)
   |via t p f x=>exact o h (.via t p f x)
   |_=>cases h
  |iface t v=>exact .iface (w v h)
  |agg d=>exact .agg rfl (g d h)
  |tuple d=>exact .tuple rfl (g d h)
  |_=>cases h
class aO(P:Program):Prop where
 zero:∀t i z,P.info? t=some i->i.zero=some z->∀ρ:Env,VR ρ z z
abbrev Same{c:Type}:Env->c->c->Prop:=fun _ a b=>a=b
def Dead(P:Program){a:Type}(s:Sem a):Prop:=∀c h,s.ar P c h=none
theorem uM{P:Program}{d e:Type}(s:Sem d)(f:d->Sem e)(g:∀a,Dead P (f a)):Dead P (s.bind f):=by
 induction s with
 |pure a=>exact g a
 |load m a k b=>
  intro c h;simp only[Sem.bind]
  rw[Sem.ar.eq_def];dsimp only
  split
  ·exact b _ _ _
  ·rfl
 |store m a v k b=>
  intro c h;simp only[Sem.bind]
  cases v<;>cases m<;>simp only[Sem.ar]
  all_goals
   split
   ·exact b _ _
   ·rfl
 |new o k b=>
  intro c h;simp only[Sem.bind]
  simp only[Sem.ar]
  split<;>first|rfl|exact b _ _ _
 |shape r k b=>
  intro c h;simp only[Sem.bind]
  simp only[Sem.ar]
  split<;>first|rfl|exact b _ _ _
 |getObj r k b=>
  intro c h;simp only[Sem.bind]
  simp only[Sem.ar]
  split<;>first|rfl|exact b _ _ _
 |setObj r o k b=>
  intro c h;simp only[Sem.bind]
  simp only[Sem.ar]
  split
  ·rfl
  ·rfl
  ·split
   ·rfl
   ·exact b _ _
  ·rfl
 |choose q k b=>
  intro c h;simp only[Sem.bind]
  rw[Sem.ar.eq_def];dsimp only
  split
  ·exact b _ _ _
  ·split
   ·exact b _ _ _
   ·rfl
 |program k b=>intro c h;exact b _ _ _
 |_=>intro c h;rfl
theorem bV{P:Program}{d:Type}(x:RuntimeError):Dead P (runtimePanic x:Sem d):=by
 intro c h;show(match x with|_=>_:Sem d).ar P c h=none
 cases x<;>first|rfl|exact uM _ _ (fun a=>uM _ _ fun b c h=>rfl) c h
section
variable{P:Program}{ρ g:Env}{o j p q:Type}
theorem SR.bnd{R:Env->o->j->Prop}{Q:Env->p->q->Prop}{s:Sem o}{s':Sem j}{f:o->Sem p}{c:j->Sem q}(h:SR P R ρ s s')(d:∀g:Env,ρ.Le g->∀a b,R g a b->SR P Q g (f a) (c b)):SR P Q ρ (s>>=f) (s'>>=c):=h.bind d
theorem SR.bQ{Q:Env->p->q->Prop}{s s':Sem o}{f:o->Sem p}{d:o->Sem q}(h:SR P Same ρ s s')(i:∀g:Env,ρ.Le g->∀a,SR P Q g (f a) (d a)):SR P Q ρ (s>>=f) (s'>>=d):=h.bind fun g c a b e=>by cases e;exact i g c a
theorem SR.aU{R:Env->o->j->Prop}{a:o}{b:j}(h:R ρ a b):SR P R ρ (Pure.pure a:Sem o) (Pure.pure b:Sem j):=.pure h
theorem SR.stuck{R:Env->o->j->Prop}{x:String}{s:Sem j}:SR P R ρ (Go.stuck x) s:=.halt
theorem SR.NS{R:Env->o->j->Prop}{x:Unsupported}{s:Sem j}:SR P R ρ (Go.unsupported x) s:=.halt
theorem SR.prog{R:Env->p->q->Prop}{f:Program->Sem p}{a:Program->Sem q}(h:SR P R ρ (f P) (a P)):SR P R ρ (Go.program>>=f) (Go.program>>=a):=.program h
theorem SR.yO{R:Env->o->j->Prop}{x:RuntimeError}{s:Sem j}:SR P R ρ (runtimePanic x) s:=.dead (bV x)
theorem SR.Dl{R:Env->o->j->Prop}{k:IntKind}{x y:Int}{c:BoundsCode}{s:Sem j}:SR P R ρ (boundsPanic k x y c) s:=by
 unfold boundsPanic;dsimp only
 split<;>exact .dead (uM _ _ fun a=>bV _)
theorem az(t:TypeId):SR P Same ρ (underlying t) (underlying t):=by
 unfold underlying;refine .prog ?_;split
 ·exact .aU rfl
 ·exact .stuck
theorem jd(t:TypeId):SR P (fun _ a b=>a=b/\P.info? t=some a) ρ (typeInfo t) (typeInfo t):=by
 unfold typeInfo;refine .prog ?_;split
 ·rename_i i c;exact .aU ⟨rfl,c⟩
 ·exact .stuck
theorem IQ[aO P](t:TypeId):SR P VR ρ (zeroValue t) (zeroValue t):=by
 unfold zeroValue;refine(jd t).bnd fun g _ a b h=>?_
 obtain⟨rfl,c⟩:=h
 split
 ·rename_i v d;exact .aU (aO.zero t a v c d g)
 ·exact .NS
theorem fB(t:TypeId):SR P Same ρ (sizeOf t) (sizeOf t):=by
 unfold sizeOf;refine(jd t).bnd fun g _ a b h=>?_
 obtain⟨rfl,c⟩:=h
 exact .aU rfl
theorem Dn(t:TypeId):SR P Same ρ (isAgg t) (isAgg t):=by
 unfold isAgg;refine(az t).bQ fun g _ a=>?_
 split<;>exact .aU rfl
theorem addr_add(a:Addr)(n:Nat):ρ.addr (a.add n)=(ρ.addr a).add n:=by
 unfold Addr.add;by_cases h:n=0
 ·rw[if_pos h,if_pos h]
 ·rw[if_neg h,if_neg h];simp only[Env.addr,Nat.add_assoc]
theorem block_add(a:Addr)(n:Nat):(a.add n).block=a.block:=by unfold Addr.add;split<;>rfl
theorem TD{a:Addr}(b:ρ.born a.block):SR P VR ρ (load a) (load (ρ.addr a)):=.load b fun v d c=>.pure c
theorem AR.empty{R:o->j->Prop}:AR R #[] #[]:=⟨rfl,fun i x y h=>by simp at h⟩
theorem AR.push{R:o->j->Prop}{a:Array o}{b:Array j}(h:AR R a b){x:o}{y:j}(f:R x y):AR R (a.push x) (b.push y):=by
 refine⟨by simp[h.1],fun i u v c d=>?_⟩;rw[Array.getElem?_push]at c d;by_cases e:i=a.size
 ·rw[if_pos e]at c;rw[if_pos (h.1▸e)]at d;cases c;cases d;exact f
 ·rw[if_neg e]at c;rw[if_neg (h.1▸e)]at d;exact h.2 i u v c d
theorem yP(n:Nat):∀{ρ:Env} (a:Addr) (i:Nat) (c b:Array Value),ρ.born a.block->AR (VR ρ) c b->SR P (fun g=>AR (VR g)) ρ (loadCellsFrom a i n c) (loadCellsFrom (ρ.addr a) i n b):=by
 induction n with
 |zero=>intro ρ a i c b _ h;exact .aU h
 |succ n k=>
  intro ρ a i c b e h;unfold loadCellsFrom;rw[←addr_add];refine(TD (by rw[block_add];exact e)).bnd fun g d v m l=>?_
  rw[←d.addr e];exact k a (i+1) _ _ (d.born _ e) ((h.mono fun _ _ x=>x.mono d).push l)
theorem xI{a:Addr}(n:Nat)(b:ρ.born a.block):SR P (fun g=>AR (VR g)) ρ (loadCells a n) (loadCells (ρ.addr a) n):=yP n a 0 _ _ b .empty
theorem qU(t:TypeId){a:Addr}(f:ρ.born a.block):SR P VR ρ (loadVar t a) (loadVar t (ρ.addr a)):=by
 unfold loadVar;refine(Dn t).bQ fun g d b=>?_
 rw[←d.addr f];have c:=d.born _ f
 cases b with
 |true=>
  refine(fB t).bQ fun i e n=>?_
  rw[←e.addr c];exact(xI n (e.born _ c)).bnd fun k _ x y h=>.aU (.agg h.1 h.2)
 |false=>exact TD c
theorem nX{v f:Value}(h:VR ρ v f):AR (VR ρ) v.cells f.cells:=by
 have one:∀{v f:Value},VR ρ v f->AR (VR ρ) #[v] #[f]:=fun{v f} h=>by have:=(AR.empty (R:=VR ρ)).push h;exact this
 cases h with
 |agg i h=>exact⟨i,h⟩
 |bool b=>exact one (.bool b)
 |int k n=>exact one (.int k n)
 |string s=>exact one (.string s)
 |gG=>exact one .gG
 |ptr h=>exact one (.ptr h)
 |nilslice n c=>exact one (.nilslice n c)
 |slice h w=>exact one (.slice h w)
 |dO=>exact one .dO
 |map h=>exact one (.map h)
 |eH=>exact one .eH
 |chan h=>exact one (.chan h)
 |nilFunc=>exact one .nilFunc
 |func a b c d e=>exact one (.func a b c d e)
 |nilIface=>exact one .nilIface
 |iface h=>exact one (.iface h)
 |tuple i h=>exact one (.tuple i h)
theorem AR.list{R:o->j->Prop}{a:Array o}{b:Array j}(h:AR R a b):LR R a.toList b.toList:=by
 obtain⟨a⟩:=a
 obtain⟨b⟩:=b
 obtain⟨c,h⟩:=h
 simp only[List.size_toArray]at c;induction a generalizing b with
 |nil=>cases b with|nil=>exact .nil|cons y m=>simp at c
 |cons x l d=>
  cases b with
  |nil=>simp at c
  |cons y m=>refine .cons (h 0 x y (by simp) (by simp)) (d m (fun i u v e f=>h (i+1) u v (by simpa using e) (by simpa using f)) (by simpa using c))
theorem LR.arr{R:o->j->Prop}{a:List o}{b:List j}(h:LR R a b):AR R a.toArray b.toArray:=by
 induction h with
 |nil=>exact .empty
 |cons h _ e=>
  refine⟨by have:=e.1;simp at this⊢;exact this,fun i x y c d=>?_⟩;cases i with
  |zero=>simp at c d;subst c d;exact h
  |succ i=>exact e.2 i x y (by simpa using c) (by simpa using d)
theorem lT{l c:List Value}:∀{ρ:Env} {a:Addr} (i:Nat),ρ.born a.block->LR (VR ρ) l c->SR P Same ρ (storeCells a l i) (storeCells (ρ.addr a) c i):=by
 induction l generalizing c with
 |nil=>intro ρ a i _ h;cases h;exact .aU rfl
 |cons v l e=>
  intro ρ a i d h;cases h with
  |cons f k=>
   unfold storeCells;rw[←addr_add];refine SR.bQ (s:=store (a.add i) v) (.store (by rw[block_add];exact d) f (.pure rfl)) fun g b _=>?_
   rw[←b.addr d];exact e (i+1) (b.born _ d) (k.mono fun _ _ x=>x.mono b)
theorem Lm(t:TypeId){a:Addr}{v c:Value}(d:ρ.born a.block)(f:VR ρ v c):SR P Same ρ (storeVar t a v) (storeVar t (ρ.addr a) c):=by
 unfold storeVar;have e:=nX f
 refine(fB t).bQ fun g b n=>?_
 rw[←b.addr d,←e.1];by_cases h:v.cells.size≠n
 ·rw[if_pos h];exact .dead fun _ _=>rfl
 ·rw[if_neg h,if_neg h];exact lT 0 (b.born _ d) (e.list.mono fun _ _ x=>x.mono b)
theorem yQ(e i:TypeId){c h:Array Value}(k:AR (VR ρ) c h):SR P (fun g a l=>g.born a.block/\a.spot=none/\a.off=0/\l=g.addr a) ρ (newRow e c) (newRow i h):=by
 unfold newRow;refine SR.bnd (R:=fun g r d=>g.ob r d) (s:=newObj _) (s':=newObj _) (.new (.cells k) fun g f r d b=>.pure b) fun g f r d b=>.aU ⟨b.1,rfl,rfl,?_⟩;unfold Env.addr;simp only[b.2]
end
end Go.Am
namespace Go.Am
open Go.Ren (grow gU aT aB)
theorem abM(a:Env):vO.Le a:=⟨fun _ h=>h.elim,fun _ h=>h.elim,fun _ h=>h.elim,fun _ h=>h.elim,fun _ h=>h.elim⟩
def Plain(v:Value):Prop:=VR vO v v
theorem Plain.vr{v:Value}(h:Plain v)(ρ:Env):VR ρ v v:=VR.mono (abM ρ) h
theorem iG{n:Nat}{v:Value}(h:iQ n v=true):Plain v:=Yw vO n v h
theorem IU{a b:Array Value}(c:a.size=b.size)(h:∀(i:Nat) x y,a[i]?=some x->b[i]?=some y->y=x):b=a:=by
 apply Array.ext c.symm;intro i d e;exact h i a[i] b[i] (by simp[e]) (by simp[d])
theorem Yx{v u:Value}(h:VR vO v u):∀{e:Env} {a:Value},VR e v a->a=v:=by
 induction h with
 |bool b=>intro e a k;cases k;rfl
 |int k n=>intro e a k;cases k;rfl
 |string s=>intro e a k;cases k;rfl
 |gG=>intro e a k;cases k;rfl
 |ptr h=>exact h.elim
 |nilslice n c=>intro e a k;cases k;rfl
 |slice h=>exact h.elim
 |dO=>intro e a k;cases k;rfl
 |map h=>exact h.1.elim
 |eH=>intro e a k;cases k;rfl
 |chan h=>exact h.1.elim
 |nilFunc=>intro e a k;cases k;rfl
 |func E r h F k o H=>
  intro e a m;cases m with
  |func j g t w J=>
   have L:=IU g fun i x y d p=>by
    obtain⟨z,q⟩:∃z,_=some z:=⟨_,Array.getElem?_eq_getElem (r▸(Array.getElem?_eq_some_iff.1 d).1)⟩
    exact o i x z d q (t i x y d p)
   have M:=IU w fun i x y d p=>by
    obtain⟨z,q⟩:∃z,_=some z:=⟨_,Array.getElem?_eq_getElem (F▸(Array.getElem?_eq_some_iff.1 d).1)⟩
    exact H i x z d q (J i x y d p)
   rw[L,M];cases E with
   |yield h=>exact h.1.elim
   |func f=>cases j;rfl
   |method f=>cases j;rfl
   |methodOf f=>cases j;rfl
   |via f=>cases j;rfl
 |nilIface=>intro e a k;cases k;rfl
 |iface h o=>intro e a k;cases k with|iface k=>rw[o k]
 |agg r h o=>
  intro e a m;cases m with
  |agg g t=>
   rw[IU g fun i x y d p=>by
    obtain⟨z,q⟩:∃z,_=some z:=⟨_,Array.getElem?_eq_getElem (r▸(Array.getElem?_eq_some_iff.1 d).1)⟩
    exact o i x z d q (t i x y d p)]
 |tuple r h o=>
  intro e a m;cases m with
  |tuple g t=>
   rw[IU g fun i x y d p=>by
    obtain⟨z,q⟩:∃z,_=some z:=⟨_,Array.getElem?_eq_getElem (r▸(Array.getElem?_eq_some_iff.1 d).1)⟩
    exact o i x z d q (t i x y d p)]
theorem Plain.eq{v a:Value}{b:Env}(h:Plain v)(k:VR b v a):a=v:=Yx h k
theorem Plain.agg{a:Array Value}(h:Plain (.agg a)):∀c∈a,Plain c:=by
 intro c d;cases h with
 |agg f h=>obtain⟨i,b,e⟩:=Array.mem_iff_getElem.1 d;exact h i c c (by simp[b,e]) (by simp[b,e])
theorem uN{a:Array Value}(h:∀c∈a,Plain c):Plain (.agg a):=
 VR.agg rfl fun i x y b d=>by rw[b]at d;cases d;exact h x (Array.mem_of_getElem? b)
theorem Plain.iface{t:TypeId}{v:Value}(h:Plain (.iface t v)):Plain v:=by cases h with|iface h=>exact h
theorem nO{P:Program}{b d:Type}{s:Sem b}(f:b->Sem d)(h:Dead P s):Dead P (s>>=f):=fun c a=>xe s f c a (h c a)
abbrev aid{c:Type}(Q:c->Prop):Env->c->c->Prop:=fun _ a b=>a=b/\Q a
abbrev kN(P:Program){a:Type}(Q:a->Prop)(s:Sem a):Prop:=∀b:Env,SR P (aid Q) b s s
section
variable{P:Program}{ρ o:Env}{g q m l:Type}
theorem kN.bnd{Q:g->Prop}{T:q->Prop}{s:Sem g}{f:g->Sem q}(h:kN P Q s)(k:∀a,Q a->kN P T (f a)):kN P T (s>>=f):=fun ρ=>(h ρ).bnd fun o _ a b e=>by obtain⟨rfl,e⟩:=e;exact k a e o
theorem kN.aU{Q:g->Prop}{a:g}(h:Q a):kN P Q (Pure.pure a:Sem g):=fun ρ=>.aU ⟨rfl,h⟩
theorem kN.stuck{Q:g->Prop}{x:String}:kN P Q (Go.stuck x:Sem g):=fun _=>.stuck
theorem kN.NS{Q:g->Prop}{x:Unsupported}:kN P Q (Go.unsupported x:Sem g):=fun _=>.NS
theorem kN.yO{Q:g->Prop}{x:RuntimeError}:kN P Q (runtimePanic x:Sem g):=fun _=>.yO
theorem kN.dead{Q:g->Prop}{s:Sem g}(h:Dead P s):kN P Q s:=fun _=>.dead h
theorem kN.prog{Q:g->Prop}{f:Program->Sem g}(h:kN P Q (f P)):kN P Q (Go.program>>=f):=fun ρ=>.prog (h ρ)
abbrev Any{g:Type}:g->Prop:=fun _=>True
theorem nY(t:TypeId):kN P Any (underlying t):=fun ρ=>(az t).imp fun _ _ _ _ e=>⟨e,trivial⟩
theorem qV(t:TypeId):kN P Any (typeInfo t):=fun ρ=>(jd t).imp fun _ _ _ _ e=>⟨e.1,trivial⟩
theorem qW(t:TypeId):kN P Any (sizeOf t):=fun ρ=>(fB t).imp fun _ _ _ _ e=>⟨e,trivial⟩
theorem U2(t:TypeId):kN P Any (isAgg t):=fun ρ=>(Dn t).imp fun _ _ _ _ e=>⟨e,trivial⟩
theorem Ar(t:TypeId):kN P Any (typeStr t):=by
 unfold typeStr;refine(qV t).bnd fun i _=>?_
 dsimp only
 split
 ·exact .NS
 ·exact .aU trivial
theorem nZ{m l:Type}{Q:l->Prop}(f:m->l->Sem (ForInStep l)):∀(xs:List m) (a:l),Q a->(∀x∈xs,∀a,Q a->kN P (fun p=>(∃u,p=.done u/\Q u)∨(∃u,p=.yield u/\Q u)) (f x a))->kN P Q (forIn xs a f)
 | [],a,h,_=>by simpa using kN.aU (P:=P) h
 |x::xs,a,h,c=>by
  rw[List.forIn_cons];refine(c x (by simp) a h).bnd ?_;rintro p (⟨u,rfl,b⟩|⟨u,rfl,b⟩)
  ·exact .aU b
  ·exact nZ f xs u b fun y d=>c y (by simp[d])
theorem mP{m l:Type}{Q:l->Prop}(f:m->l->Sem (ForInStep l))(xs:Array m)(a:l)(h:Q a)(b:∀x∈xs,∀a,Q a->kN P (fun p=>(∃u,p=.done u/\Q u)∨(∃u,p=.yield u/\Q u)) (f x a)):kN P Q (forIn xs a f):=by
 rw[←Array.forIn_toList];exact nZ f _ a h fun x c=>b x (by simpa using c)
theorem mQ{l:Type}{Q:l->Prop}(f:Nat->l->Sem (ForInStep l))(r:Std.Legacy.Range)(a:l)(h:Q a)(b:∀x,∀a,Q a->kN P (fun p=>(∃u,p=.done u/\Q u)∨(∃u,p=.yield u/\Q u)) (f x a)):kN P Q (forIn r a f):=by
 rw[Std.Legacy.Range.forIn_eq_forIn_range'];exact nZ f _ a h fun x _=>b x
theorem mem_extract{a:Array Value}{i j:Nat}{v:Value}(h:v∈a.extract i j):v∈a:=by
 obtain⟨k,b,e⟩:=Array.mem_iff_getElem.1 h;rw[Array.getElem_extract]at e;rw[←e];exact Array.getElem_mem _
theorem jE(t:TypeId){d:Array Value}(h:∀c∈d,Plain c)(a:Nat):kN P Plain (part t d a):=by
 unfold part;refine(U2 t).bnd fun b _=>?_
 cases b with
 |true=>exact(qW t).bnd fun n _=>.aU (uN fun c e=>h c (mem_extract e))
 |false=>
  show kN P Plain (match d[a]? with|some v=>Pure.pure v|none=>Go.stuck _);split
  ·rename_i v f;exact .aU (h v (Array.mem_of_getElem? f))
  ·exact .stuck
theorem nG(empty:Bool):∀(n:Nat) (t:TypeId) (v:Value),Plain v->kN P Any (Instr.checkKey empty n t v)
 |0,t,v,_=>.NS
 |n+1,t,v,b=>by
  unfold Instr.checkKey;refine(nY t).bnd fun d _=>?_
  split
  ·rename_i d x _;refine(qV d).bnd fun i _=>?_
   dsimp only
   split
   ·split
    ·exact .dead (nO _ (bV _))
    ·exact(Ar d).bnd fun s _=>.dead (nO _ (bV _))
   ·exact nG empty n d x b.iface
  ·rename_i h e j _;refine kN.bnd (Q:=Any) (mQ _ _ _ trivial fun x a _=>?_) fun _ _=>.aU trivial;refine(qW e).bnd fun s _=>?_
   refine(jE e b.agg _).bnd fun x c=>?_
   exact(nG empty n e x c).bnd fun _ _=>.aU (.inr ⟨_,rfl,trivial⟩)
  ·rename_i fields j _;refine kN.bnd (Q:=Any) (mP _ _ _ trivial fun f _ a _=>?_) fun _ _=>.aU trivial;split
   ·refine(jE f.type b.agg _).bnd fun x c=>?_
    exact(nG empty n f.type x c).bnd fun _ _=>.aU (.inr ⟨_,rfl,trivial⟩)
   ·exact .aU (.inr ⟨_,rfl,trivial⟩)
  ·exact .aU trivial
  all_goals first|exact .stuck|exact .aU trivial
end
end Go.Am
namespace Go.Am
open Go.Ren (grow gU aT aB)
section
variable{P:Program}{ρ σ:Env}{g β γ δ:Type}
theorem abN{v u:Value}(h:VR vO v u)(a:Addr)(e:v=.pointer (some a)):False:=by
 cases h<;>cases e
 rename_i h;exact h
theorem Plain.ptr{a:Option Addr}(h:Plain (.pointer a)):a=none:=by cases a with|none=>rfl|some a=>exact(abN h a rfl).elim
theorem pG:∀(n:Nat) (t:TypeId) (x y:Value),Plain x->Plain y->kN P Any (Op.equalIn n t x y)
 |0,t,x,y,_,_=>.NS
 |n+1,t,x,y,c,h=>by
  unfold Op.equalIn;refine(nY t).bnd fun d _=>?_
  split;case h_5=>have:=c.ptr;cases this
  case h_13=>have:=c.ptr;cases this
  case h_14=>have:=c.ptr;have l:=h.ptr;subst this l;exact .aU trivial
  case h_19=>
   rename_i tx m r o _;split
   ·exact .aU trivial
   ·refine(qV tx).bnd fun i _=>?_
    dsimp only
    split
    ·refine .prog ?_;refine kN.prog ?_;split
     ·exact .dead fun _ _=>rfl
     ·exact(Ar tx).bnd fun s _=>.dead (bV _)
    ·exact pG n tx m o c.iface h.iface
  case h_20=>
   rename_i fields xs p _;refine .prog ?_;dsimp only
   split
   ·exact .dead fun _ _=>rfl
   ·refine kN.bnd (Q:=Any) (mP _ _ _ trivial fun f _ a _=>?_) fun _ _=>by(try dsimp only);split<;>exact .aU trivial
    split
    ·refine(jE f.type c.agg _).bnd fun u j=>?_
     refine(jE f.type h.agg _).bnd fun v k=>?_
     refine(pG n f.type u v j k).bnd fun b _=>?_
     split
     ·exact .aU (.inl ⟨_,rfl,trivial⟩)
     ·exact .aU (.inr ⟨_,rfl,trivial⟩)
    ·exact .aU (.inr ⟨_,rfl,trivial⟩)
  case h_21=>
   rename_i q e xs p _;refine(qW e).bnd fun s _=>?_
   refine kN.bnd (Q:=Any) (mQ _ _ _ trivial fun f a _=>?_) fun _ _=>by(try dsimp only);split<;>exact .aU trivial
   refine(jE e c.agg _).bnd fun u j=>?_
   refine(jE e h.agg _).bnd fun v k=>?_
   refine(pG n e u v j k).bnd fun b _=>?_
   split
   ·exact .aU (.inl ⟨_,rfl,trivial⟩)
   ·exact .aU (.inr ⟨_,rfl,trivial⟩)
  all_goals first
   |exact .aU trivial
   |exact .stuck
   |exact .NS
   |(split;exact .aU trivial;exact .stuck)
theorem GY(t:TypeId){x y:Value}(a:Plain x)(b:Plain y):kN P Any (Op.equal t x y):=pG _ _ _ _ a b
theorem lU:∀(n:Nat) (t:TypeId) (x y:Value),Plain x->Plain y->kN P Any (Op.eqGuardIn n t x y)
 |0,t,x,y,_,_=>.NS
 |n+1,t,x,y,i,j=>by
  unfold Op.eqGuardIn;refine(nY t).bnd fun d _=>?_
  split
  ·exact .aU trivial
  ·rename_i fields xs k _;refine kN.bnd (Q:=Any) (mP _ _ _ trivial fun f _ a _=>?_) fun _ _=>by(try dsimp only);split<;>exact .aU trivial
   split
   ·refine(jE f.type i.agg _).bnd fun u c=>?_
    refine(jE f.type j.agg _).bnd fun v h=>?_
    refine(lU n f.type u v c h).bnd fun b _=>?_
    split
    ·exact .aU (.inl ⟨_,rfl,trivial⟩)
    ·exact .aU (.inr ⟨_,rfl,trivial⟩)
   ·exact .aU (.inr ⟨_,rfl,trivial⟩)
  ·rename_i l e xs k _;refine(qW e).bnd fun s _=>?_
   refine kN.bnd (Q:=Any) (mQ _ _ _ trivial fun f a _=>?_) fun _ _=>by(try dsimp only);split<;>exact .aU trivial
   refine(jE e i.agg _).bnd fun u c=>?_
   refine(jE e j.agg _).bnd fun v h=>?_
   refine(lU n e u v c h).bnd fun b _=>?_
   split
   ·exact .aU (.inl ⟨_,rfl,trivial⟩)
   ·exact .aU (.inr ⟨_,rfl,trivial⟩)
  ·exact .aU trivial
theorem xJ{Q:g->Prop}{c:Prop}[Decidable c]{s t:Sem g}(a:kN P Q s)(b:kN P Q t):kN P Q (if c then s else t):=by split<;>assumption
theorem Lp(op:BinOp)(t:TypeId)(x y:Operand){a b:Value}(d:Plain a)(e:Plain b):kN P Any (eqGuard op t x y a b):=by
 unfold eqGuard;refine xJ (.aU trivial) ?_;split
 ·refine xJ (.aU trivial) ?_;refine(lU _ _ _ _ d e).bnd fun c _=>?_
  exact xJ (.dead fun _ _=>rfl) (.aU trivial)
 ·refine .prog ?_;refine kN.prog ?_;refine xJ (.aU trivial) ?_;refine(lU _ _ _ _ d e).bnd fun c _=>?_
  exact xJ (.dead fun _ _=>rfl) (.aU trivial)
 ·exact .aU trivial
theorem nP(k:IntKind)(n:Int):Plain (.int k n):=.int k n
theorem qX(b:Bool):Plain (.bool b):=.bool b
theorem qY(s:ByteArray):Plain (.string s):=.string s
theorem xK(op:BinOp)(k:IntKind)(a b:Int):kN P Plain (Op.intArith op k a b):=by
 unfold Op.intArith;split<;>first|exact .aU (nP _ _)|exact .stuck
theorem NT(op:BinOp)(k:IntKind)(a b:Int):kN P Plain (Op.intDiv op k a b):=by
 unfold Op.intDiv;split
 ·exact .yO
 ·split<;>first|exact .aU (nP _ _)|exact .stuck
theorem Au(op:BinOp)(k:IntKind)(a b:Int):kN P Plain (Op.intBits op k a b):=by
 unfold Op.intBits;dsimp only
 split<;>first|exact .aU (nP _ _)|exact .stuck
theorem Dp(op:BinOp)(a b:Int):kN P Plain (Op.intCmp op a b):=by
 unfold Op.intCmp;split<;>first|exact .aU (qX _)|exact .stuck
theorem U3(op:BinOp)(k:IntKind)(a:Int)(j:IntKind)(b:Int):kN P Plain (Op.shift op k a j b):=by
 unfold Op.shift;split
 ·exact .yO
 ·dsimp only
  split<;>first|exact .aU (nP _ _)|exact .stuck
theorem qZ(op:BinOp)(a b:ByteArray):kN P Plain (Op.stringOp op a b):=by
 unfold Op.stringOp;dsimp only
 split
 ·split
  ·exact .NS
  ·exact .aU (qY _)
 all_goals first|exact .aU (qX _)|exact .stuck
def CW(op:BinOp)(x y:Value):Bool:=
 match x,y with
 | .int _ _,.int _ _=>true
 | .string _,.string _=>true
 |x,y=>(op matches .eql|.neq)&&iQ 9 x&&iQ 9 y
theorem U4(op:BinOp)(t:TypeId){x y:Value}(h:CW op x y=true)(c:Plain x)(d:Plain y):kN P Plain (binOp op t x y):=by
 unfold CW at h;split at h
 ·rename_i k a j b;cases op<;>(unfold Go.binOp;dsimp only)<;>first
   |exact U3 _ _ _ _ _
   |(split;exact .stuck;first|exact xK _ _ _ _|exact NT _ _ _ _|exact Au _ _ _ _|exact Dp _ _ _)
 ·rename_i a b;cases op<;>(unfold Go.binOp;dsimp only)<;>exact qZ _ _ _
 ·simp only[Bool.and_eq_true]at h;obtain⟨⟨i,_⟩,_⟩:=h
  have f:=GY (P:=P) t c d
  have l:kN P Plain (do pure (.bool (←Op.equal t x y)):Sem Value):=f.bnd fun b _=>.aU (qX b);have m:kN P Plain (do pure (.bool (!(←Op.equal t x y))):Sem Value):=f.bnd fun b _=>.aU (qX _);cases op<;>first|(simp at i;done)|skip
  all_goals
   unfold Go.binOp;split<;>first
    |exact l
    |exact m
    |contradiction
    |(cases c;done)
    |(have e:=c.ptr;cases e;done)
    |(have e:=d.ptr;cases e;done)
    |exact .NS
    |exact .stuck
    |exact qZ _ _ _
    |(split;exact .stuck;exact Dp _ _ _)
end
end Go.Am
namespace Go.Am
open Go.Ren (grow gU aT aB)
section
variable{P:Program}{ρ o:Env}{g q γ δ:Type}
theorem xM[aO P](t:TypeId):SR P (fun _ a b=>a=b/\∀c:Env,VR c a a) ρ (zeroValue t) (zeroValue t):=by
 unfold zeroValue;refine(jd t).bnd fun o _ a b h=>?_
 obtain⟨rfl,d⟩:=h
 split
 ·rename_i v e;exact .aU ⟨rfl,aO.zero t a v d e⟩
 ·exact .NS
theorem Dq(t:TypeId):SR P (fun _ a b=>a=b/\∃i,P.info? t=some i/\a=i.size) ρ (sizeOf t) (sizeOf t):=by
 unfold sizeOf;refine(jd t).bnd fun o _ a b h=>?_
 obtain⟨rfl,c⟩:=h
 exact .aU ⟨rfl,a,c,rfl⟩
theorem SR.dry{Q:g->Prop}{s:Sem g}(h:kN P Q s):SR P Same ρ s s:=(h ρ).imp fun _ _ _ _ e=>e.1
theorem AR.get{R:g->q->Prop}{a:Array g}{b:Array q}(h:AR R a b)(i:Nat):gu R a[i]? b[i]?:=by
 cases c:a[i]? with
 |none=>
  have:b[i]?=none:=by simp only[Array.getElem?_eq_none_iff]at c⊢;rw[←h.1];exact c
  rw[this];exact .none
 |some x=>
  obtain⟨e,_⟩:=Array.getElem?_eq_some_iff.1 c;have d:b[i]?=some (b[i]'(h.1▸e)):=by simp
  rw[d];exact .some (h.2 i _ _ c d)
theorem AR.extract{R:g->q->Prop}{a:Array g}{b:Array q}(h:AR R a b)(i j:Nat):AR R (a.extract i j) (b.extract i j):=by
 refine⟨by simp[h.1],fun k x y c d=>?_⟩;rw[Array.getElem?_extract]at c d;split at c
 ·split at d
  ·exact h.2 _ _ _ c d
  ·cases d
 ·cases c
theorem AR.set{R:g->q->Prop}{a:Array g}{b:Array q}(h:AR R a b)(i:Nat){x:g}{y:q}(f:R x y):AR R (a.setIfInBounds i x) (b.setIfInBounds i y):=by
 refine⟨by simp[h.1],fun k u v d c=>?_⟩;rw[Array.getElem?_setIfInBounds]at d c;split at d
 ·rename_i e;subst e;rw[if_pos rfl]at c;split at d
  ·split at c
   ·cases d;cases c;exact f
   ·cases c
  ·cases d
 ·rename_i e;rw[if_neg e]at c;exact h.2 k u v d c
theorem AR.append{R:g->q->Prop}{a c:Array g}{b d:Array q}(h:AR R a b)(k:AR R c d):AR R (a++c) (b++d):=by
 refine⟨by simp[h.1,k.1],fun i u v j f=>?_⟩;rw[Array.getElem?_append]at j f;by_cases e:i<a.size
 ·rw[if_pos e]at j;rw[if_pos (h.1▸e)]at f;exact h.2 i u v j f
 ·rw[if_neg e]at j;rw[if_neg (h.1▸e)]at f;rw[←h.1]at f;exact k.2 _ u v j f
theorem AR.refl{R:g->g->Prop}{a:Array g}(h:∀x∈a,R x x):AR R a a:=⟨rfl,fun i x y b c=>by rw[b]at c;cases c;exact h x (Array.mem_of_getElem? b)⟩
theorem NU{c a:Array Value}(h:AR (VR ρ) c a):VR ρ (.agg c) (.agg a):=.agg h.1 h.2
theorem og{c a:Array Value}(h:AR (VR ρ) c a):VR ρ (.tuple c) (.tuple a):=.tuple h.1 h.2
theorem uO{a c b d:Value}(h:VR ρ a c)(k:VR ρ b d):VR ρ (.tuple #[a,b]) (.tuple #[c,d]):=og (((AR.empty.push h).push k))
theorem GZ{a d b e c f:Value}(h:VR ρ a d)(k:VR ρ b e)(l:VR ρ c f):VR ρ (.tuple #[a,b,c]) (.tuple #[d,e,f]):=og ((((AR.empty.push h).push k).push l))
theorem kE:VR ρ (.tuple #[]) (.tuple #[]):=og .empty
theorem IV(t:TypeId){c e:Array Value}(h:AR (VR ρ) c e)(a:Nat):SR P VR ρ (part t c a) (part t e a):=by
 unfold part;refine(Dn t).bQ fun o d b=>?_
 cases b with
 |true=>exact(fB t).bQ fun i f n=>.aU (NU ((h.mono fun _ _ x=>x.mono (d.trans f)).extract _ _))
 |false=>
  show SR P VR o (match c[a]? with|some v=>Pure.pure v|none=>Go.stuck _) (match e[a]? with|some v=>Pure.pure v|none=>Go.stuck _);have:=h.get a
  revert this;generalize c[a]?=x
  generalize e[a]?=y
  intro this;cases this with
  |none=>exact .stuck
  |some h=>exact .aU (h.mono d)
theorem G5(t:TypeId){v b:Value}(c:VR ρ v b):SR P (fun o a d=>o.born a.block/\d=o.addr a) ρ (newVar t v) (newVar t b):=by
 unfold newVar;exact(yQ t t (nX c)).imp fun _ _ _ _ h=>⟨h.1,h.2.2.2⟩
theorem afr(t:TypeId){v b:Value}(c:VR ρ v b):SR P VR ρ (Instr.box t v) (Instr.box t b):=by
 unfold Instr.box;refine(G5 t c).bnd fun o _ a e h=>?_
 obtain⟨d,rfl⟩:=h
 exact .aU (.ptr d)
theorem Yy[aO P](t:TypeId):SR P VR ρ (Instr.alloc t true (.tuple #[])) (Instr.alloc t true (.tuple #[])):=by
 unfold Instr.alloc;refine(IQ t).bnd fun o _ z d b=>?_
 exact(G5 t b).bnd fun o _ a e h=>by obtain⟨c,rfl⟩:=h;exact .aU (.ptr c)
theorem NV{l i:List (Value×Nat)}(h:LR (fun a b=>VR ρ a.1 b.1/\b.2=a.2) l i)(d:Nat):∀{c e:Array Value},AR (VR ρ) c e->AR (VR ρ) (l.foldl (fun f (x:Value×Nat)=>f.setIfInBounds (d+x.2) x.1) c) (i.foldl (fun f (x:Value×Nat)=>f.setIfInBounds (d+x.2) x.1) e):=by
 induction h with
 |nil=>intro c e h;exact h
 |cons h _ j=>
  intro c e k;simp only[List.foldl_cons]
  rw[h.2];exact j (k.set _ h.1)
theorem afs{R:g->q->Prop}{l:List g}{m:List q}(h:LR R l m):∀(k:Nat),LR (fun(a:g×Nat) (b:q×Nat)=>R a.1 b.1/\b.2=a.2) (l.zipIdx k) (m.zipIdx k):=by
 induction h with
 |nil=>intro k;exact .nil
 |cons h _ c=>intro k;exact .cons ⟨h,rfl⟩ (c (k+1))
theorem BH(place:Nat->Option (Nat×Nat)){s d:List (Nat×Value)}(h:LR (fun a b=>b.1=a.1/\VR ρ a.2 b.2) s d):∀{c f:Array Value},AR (VR ρ) c f->gu (AR (VR ρ)) (Instr.fill place c s) (Instr.fill place f d):=by
 induction h with
 |nil=>intro c f k;exact .some k
 | @cons x y l m n _ t=>
  intro c f k;obtain⟨i,v⟩:=x
  obtain⟨j,w⟩:=y
  obtain⟨rfl,u⟩:=n
  have e:=nX u
  unfold Instr.fill;cases place j with
  |none=>exact .none
  |some p=>
   obtain⟨r,size⟩:=p
   dsimp only
   rw[←e.1,←k.1];split
   ·exact .none
   ·refine t ?_;have:=NV (afs e.list 0) r k
    rw[←Array.foldl_toList,←Array.foldl_toList,Array.toList_zipIdx,Array.toList_zipIdx];exact this
theorem LR.U5{l:List g}{f:g->Sem q}(h:∀x∈l,∀ρ:Env,SR P Same ρ (f x) (f x)):∀{ρ:Env},SR P Same ρ (l.mapM f) (l.mapM f):=by
 induction l with
 |nil=>intro ρ;exact .aU rfl
 |cons x l c=>
  intro ρ;rw[List.mapM_cons];refine(h x (by simp) ρ).bQ fun o _ a=>?_
  refine(c fun y d=>h y (by simp[d])).bQ fun e _ b=>?_
  exact .aU rfl
theorem Yz[aO P](t:TypeId){m c:Array (Nat×Value)}(h:LR (fun a b=>b.1=a.1/\VR ρ a.2 b.2) m.toList c.toList):SR P VR ρ (Instr.build t m) (Instr.build t c):=by
 unfold Instr.build;refine(xM t).bnd fun o f z u p=>?_
 obtain⟨rfl,p⟩:=p
 have j:∀n:Env,AR (VR n) z.cells z.cells:=fun n=>nX (p n)
 dsimp only
 refine(az t).bQ fun n k d=>?_
 split
 ·rename_i fields;refine SR.bQ (s:=fields.mapM _) (s':=fields.mapM _) ?_ fun r e places=>?_
  ·rw[Array.mapM_eq_mapM_toList];refine SR.bQ (LR.U5 fun x _ ρ=>(fB _).bQ fun _ _ _=>.aU rfl) fun _ _ _=>.aU rfl
  ·have:=BH (places[·]?) (h.mono fun _ _ x=>⟨x.1,x.2.mono ((f.trans k).trans e)⟩) (j r)
   revert this;generalize Instr.fill _ _ m.toList=a
   generalize Instr.fill _ _ c.toList=b
   intro this;cases this with
   |none=>exact .stuck
   |some h=>exact .aU (NU h)
 ·rename_i l;refine(fB l).bQ fun r e size=>?_
  have:=BH (fun i=>some (i*size,size)) (h.mono fun _ _ x=>⟨x.1,x.2.mono ((f.trans k).trans e)⟩) (j r)
  revert this;generalize Instr.fill _ _ m.toList=a
  generalize Instr.fill _ _ c.toList=b
  intro this;cases this with
  |none=>exact .stuck
  |some h=>exact .aU (NU h)
 ·exact .stuck
theorem TE(f:Nat->Value):AR (VR ρ) ((Array.range 0).map f) ((Array.range 0).map f):=.refl fun x b=>by
 obtain⟨i,a,_⟩:=Array.mem_map.1 b;rw[Array.mem_range]at a;exact absurd a (Nat.not_lt_zero _)
theorem NW:VR ρ (default:Value) default:=VR.bool _
theorem tV{z:Value}(a:∀b:Env,VR b z z)(n:Nat)(f:Nat->Nat):AR (VR ρ) ((Array.range n).map fun i=>z.cells[f i]!) ((Array.range n).map fun i=>z.cells[f i]!):=by
 refine .refl fun x c=>?_
 obtain⟨i,_,rfl⟩:=Array.mem_map.1 c;have h:=nX (a ρ)
 rw[getElem!_def];have:=h.get (f i)
 revert this;cases d:z.cells[f i]? with
 |none=>intro _;exact NW
 |some x=>intro h;cases h with|some h=>exact h
theorem EY[aO P](t:TypeId)(c:Nat){n j:Array (Nat×Value)}(h:LR (fun a b=>b.1=a.1/\VR ρ a.2 b.2) n.toList j.toList):SR P VR ρ (Instr.buildSlice t c n) (Instr.buildSlice t c j):=by
 unfold Instr.buildSlice;refine(az t).bQ fun o p d=>?_
 split
 ·rename_i e;refine(fB e).bQ fun y r size=>?_
  dsimp only
  split
  ·exact .dead fun _ _=>rfl
  ·have l:∀(k:Env) (zero:Array Value),y.Le k->AR (VR k) ((Array.range (c*size)).map fun x=>zero[x%zero.size]!) ((Array.range (c*size)).map fun x=>zero[x%zero.size]!)->
     SR P VR k (match Instr.fill (fun i=>some (i*size,size)) ((Array.range (c*size)).map fun x=>zero[x%zero.size]!) n.toList with
      |some cells=>(do pure (.slice (some (←newRow e cells)) c c):Sem Value)|_=>Go.stuck "buildSlice: a part of the wrong size")
     (match Instr.fill (fun i=>some (i*size,size)) ((Array.range (c*size)).map fun x=>zero[x%zero.size]!) j.toList with
      |some cells=>(do pure (.slice (some (←newRow e cells)) c c):Sem Value)|_=>Go.stuck "buildSlice: a part of the wrong size"):=by
    intro k zero f m;have:=BH (fun i=>some (i*size,size)) (h.mono fun _ _ x=>⟨x.1,x.2.mono ((p.trans r).trans f)⟩) m
    revert this;generalize Instr.fill _ _ n.toList=a
    generalize Instr.fill _ _ j.toList=b
    intro this;cases this with
    |none=>exact .stuck
    |some h=>
     refine(yQ e e h).bnd fun w _ a B h=>?_
     obtain⟨A,C,_,rfl⟩:=h
     exact .aU (.slice A (.inl rfl))
   split
   ·rename_i h0;refine SR.bQ (SR.aU (R:=Same) rfl) fun k f zero=>?_
    refine l k zero f ?_;rw[h0];exact TE _
   ·refine(xM e).bnd fun k f z D m=>?_
    obtain⟨rfl,m⟩:=m
    refine SR.bnd (R:=fun _ a b=>a=b/\a=z.cells) (SR.aU ⟨rfl,rfl⟩) fun w s zero u v=>?_
    obtain⟨rfl,rfl⟩:=v
    exact l w _ (f.trans s) (tV m _ _)
 ·exact .stuck
end
end Go.Am
namespace Go.Am
open Go.Ren (grow gU aT aB)
section
variable{P:Program}{g j:Env}{α β γ δ:Type}
theorem NY{k:IntKind}{n:Int}{v:Value}(h:VR g (.int k n) v):v=.int k n:=by cases h;rfl
theorem ru{v c:Value}(h:VR g v c):SR P (fun _ a b=>a=b/\v=.int a.1 a.2/\c=.int a.1 a.2) g (asIntOf v) (asIntOf c):=by
 cases h<;>first|exact .aU ⟨rfl,rfl,rfl⟩|exact .stuck|exact .NS
theorem xN{v c:Value}(h:VR g v c):SR P Same g (asInt v) (asInt c):=by
 unfold asInt;exact(ru h).bnd fun j _ a b e=>by obtain⟨rfl,_⟩:=e;exact .aU rfl
theorem G6{v a:Value}(h:VR g v a):SR P Same g (asBool v) (asBool a):=by
 cases h<;>first|exact .aU rfl|exact .stuck
theorem YA{v a:Value}(h:VR g v a):SR P (fun j=>AR (VR j)) g (asAgg v) (asAgg a):=by
 cases h<;>first|exact .aU ⟨‹_›,‹_›⟩|exact .stuck
theorem l7{v b:Value}(h:VR g v b):SR P (fun j a c=>j.born a.block/\c=j.addr a) g (Instr.sureAddr v) (Instr.sureAddr b):=by
 cases h<;>first|exact .aU ⟨‹_›,rfl⟩|exact .stuck
theorem yR{v b:Value}(h:VR g v b):SR P (fun j a c=>j.born a.block/\c=j.addr a) g (asAddr v) (asAddr b):=by
 cases h<;>first|exact .aU ⟨‹_›,rfl⟩|exact .stuck|exact(show SR P _ g (runtimePanic .nilDeref) (runtimePanic .nilDeref)from .yO)
theorem U6(t:TypeId){v b:Value}(h:VR g v b):SR P VR g (Instr.loadAt t v) (Instr.loadAt t b):=by
 unfold Instr.loadAt;exact(l7 h).bnd fun j _ a d e=>by obtain⟨c,rfl⟩:=e;exact qU t c
theorem NZ(t:TypeId){v c x d:Value}(h:VR g v c)(f:VR g x d):SR P Same g (Instr.storeAt t v x) (Instr.storeAt t c d):=by
 unfold Instr.storeAt;exact(l7 h).bnd fun j b a k e=>by obtain⟨i,rfl⟩:=e;exact Lm t i (f.mono b)
def xw(P:Program)(s:TypeId)(field:Nat):Bool:=
 match P.underlying s with
 |some (.struct fields)=>match fields[field]? with
  |some f=>match P.info? f.type with
   |some i=>i.size !=0
   |none=>true
  |none=>true
 |_=>true
theorem je(t:TypeId):SR P (fun _ a b=>a=b/\P.underlying t=some a) g (underlying t) (underlying t):=by
 unfold underlying;refine .prog ?_;split
 ·rename_i d hd;exact .aU ⟨rfl,hd⟩
 ·exact .stuck
theorem N7(s:TypeId){v o:Value}(field:Nat)(b:xw P s field=true)(h:VR g v o):SR P VR g (Instr.fieldAt s v field) (Instr.fieldAt s o field):=by
 unfold Instr.fieldAt;refine(je s).bnd fun j l d w e=>?_
 obtain⟨rfl,hd⟩:=e
 split
 ·rename_i fields;split
  ·rename_i f m;refine(l7 (h.mono l)).bnd fun y r a p e=>?_
   obtain⟨q,rfl⟩:=e
   refine SR.bnd (R:=fun k a p=>k.born a.block/\p=k.addr a) ?_ fun k c x z e=>by obtain⟨t,rfl⟩:=e;exact .aU (.ptr t)
   unfold fieldPlace;refine(Dq f.type).bnd fun k c n A e=>?_
   obtain⟨rfl,i,u,rfl⟩:=e
   have:i.size≠0:=by unfold xw at b;rw[hd]at b;dsimp only at b;rw[m]at b;dsimp only at b;rw[u]at b;simpa using b
   rw[if_neg this,if_neg this];exact .aU ⟨by rw[block_add];exact c.born _ q,by rw[addr_add,c.addr q]⟩
  ·exact .stuck
 ·exact .stuck
theorem YB(t:TypeId){v f:Value}(field:Nat)(h:VR g v f):SR P VR g (Instr.field t v field) (Instr.field t f field):=by
 unfold Instr.field;refine(az t).bQ fun j c d=>?_
 split
 ·split
  ·exact(YA (h.mono c)).bnd fun k i a b e=>IV _ e _
  ·exact .stuck
 ·exact .stuck
theorem YC(t:TypeId){v m x o:Value}(h:VR g v m)(p:VR g x o):SR P VR g (Instr.index t v x) (Instr.index t m o):=by
 unfold Instr.index;refine(ru p).bnd fun j c a b e=>?_
 obtain⟨rfl,_⟩:=e
 obtain⟨k,i⟩:=a
 refine(az t).bQ fun q f d=>?_
 cases h.mono (c.trans f)with
 |agg u w=>
  cases d<;>first|exact .stuck|skip
  dsimp only
  split
  ·exact(fB _).bQ fun y l n=>IV _ (AR.mono (R:=VR q) (fun _ _ x=>x.mono l) ⟨u,w⟩) _
  ·exact .Dl
 |string s=>
  cases d<;>first|exact .stuck|skip
  dsimp only
  generalize (if 0<=i then s[i.toNat]? else none)=x
  cases x with
  |none=>exact .Dl
  |some b=>exact .aU (.int _ _)
 |_=>cases d<;>exact .stuck
def IW(t:TypeId)(k:IntKind)(i:Int)(x:Option Addr×Nat×TypeId):Sem Value:=do
 let d←underlying t
 match x.1 with
 |some a=>
  if 0<=i/\i<(x.2.1:Int)then do
   let n←sizeOf x.2.2
   pure (Value.pointer (some (a.add (i.toNat*n))))
  else if(decide (x.2.1<=1)&&match d with|TypeDesc.array c b=>true|x=>false)=true then unsupported (Unsupported.noEntry "op/indexAddr.an index out of range at an array of length 0 or 1 (ledger 616)")
  else boundsPanic k i (x.2.1:Int) BoundsCode.index
 |none=>boundsPanic k i 0 BoundsCode.index
theorem wF(t:TypeId)(k:IntKind)(i:Int)(e:Nat)(c:TypeId){b m:Option Addr}(l:gu (fun a p=>g.born a.block/\p=g.addr a) b m):SR P VR g (IW t k i (b,e,c)) (IW t k i (m,e,c)):=by
 unfold IW;refine(az t).bQ fun q f d=>?_
 dsimp only
 cases l with
 |none=>exact .Dl
 |some l=>
  obtain⟨o,rfl⟩:=l
  dsimp only
  split
  ·refine(fB c).bQ fun r h n=>.aU ?_;rw[←(f.trans h).addr o,←addr_add];exact .ptr (by rw[block_add];exact(f.trans h).born _ o)
  ·split<;>(split<;>first|exact .NS|exact .Dl)
theorem N8(t:TypeId){v q x r:Value}(h:VR g v q)(s:VR g x r):SR P VR g (Instr.indexAt t v x) (Instr.indexAt t q r):=by
 unfold Instr.indexAt;refine(ru s).bnd fun j l a b e=>?_
 obtain⟨rfl,_⟩:=e
 obtain⟨k,i⟩:=a
 dsimp only
 refine(az t).bQ fun w m d=>?_
 have o:=h.mono (l.trans m)
 cases d with
 |array p f=>
  refine(l7 o).bnd fun y _ a z e=>?_
  exact wF t k i p f (.some e)
 |slice f=>
  cases o<;>first|exact .dead fun _ _=>rfl|skip
  ·rename_i n c;exact wF t k i n f .none
  ·rename_i a n c A u B;exact wF t k i n f (.some ⟨u,rfl⟩)
 |_=>cases o<;>exact .dead fun _ _=>rfl
theorem N9{v b:Value}(i:Nat)(h:VR g v b):SR P VR g (Instr.extract v i) (Instr.extract b i):=by
 unfold Instr.extract;cases h<;>first|exact .stuck|skip
 rename_i a c d h;have:=AR.get (R:=VR g) ⟨d,h⟩ i
 dsimp only
 revert this;generalize a[i]?=x
 generalize c[i]?=y
 intro this;cases this with
 |none=>exact .stuck
 |some h=>exact .aU h
theorem tX{f c:Fn}{a d b e:Array Value}(k:Uz g f c)(h:AR (VR g) a d)(i:AR (VR g) b e):SR P VR g (Instr.makeFunc f a b) (Instr.makeFunc c d e):=.aU (.func k h.1 h.2 i.1 i.2)
theorem yS(t:TypeId){v b:Value}(h:VR g v b):SR P VR g (Instr.makeInterface t v) (Instr.makeInterface t b):=by
 unfold Instr.makeInterface;refine(az t).bQ fun j a d=>?_
 split
 ·exact .stuck
 ·exact .aU (.iface (h.mono a))
theorem Oa(t:TypeId){r a:Option Value}(h:gu (VR g) r a):SR P VR g (Instr.makeMap t r) (Instr.makeMap t a):=by
 unfold Instr.makeMap;have b:∀j:Env,SR P VR j (do pure (.map (some (←newObj (.map #[] 0)))):Sem Value) (do pure (.map (some (←newObj (.map #[] 0)))):Sem Value):=fun j=>
  SR.bnd (R:=fun c r a=>c.ob r a) (.new (.obj (.map .empty)) fun c _ r a e=>.pure e) fun c _ r a e=>.aU (.map e)
 cases h with
 |none=>exact b g
 |some h=>
  dsimp only
  refine(az t).bQ fun j f d=>?_
  split
  ·exact(xN (h.mono f)).bQ fun c _ _=>b c
  ·exact .dead fun _ _=>rfl
theorem IX[aO P](t:TypeId){l A c B:Value}(C:VR g l A)(D:VR g c B):SR P VR g (Instr.makeSlice t l c) (Instr.makeSlice t A B):=by
 unfold Instr.makeSlice;refine(az t).bQ fun j m d=>?_
 split
 ·rename_i f;refine(xN (C.mono m)).bQ fun O s o=>?_
  refine(xN (D.mono (m.trans s))).bQ fun Q E k=>?_
  refine(jd f).bnd fun T F i U e=>?_
  obtain⟨rfl,_⟩:=e
  dsimp only
  split
  ·refine .dead ?_;split
   ·exact nO _ (bV _)
   ·split
    ·exact nO _ (bV _)
    ·exact uM _ _ fun _=>nO _ (bV _)
  ·unfold askRoom;split
   ·exact .mark
   ·refine SR.bQ (SR.aU (R:=Same) rfl) fun V H _=>?_
    refine(fB f).bQ fun r J n=>?_
    have p:∀(r:Env) (zero:Array Value),AR (VR r) ((Array.range ((IntKind.i64.wrap k).toNat*n)).map fun x=>zero[x%zero.size]!) ((Array.range ((IntKind.i64.wrap k).toNat*n)).map fun x=>zero[x%zero.size]!)->
      SR P VR r (do pure (.slice (some (←newRow f ((Array.range ((IntKind.i64.wrap k).toNat*n)).map fun x=>zero[x%zero.size]!))) (IntKind.i64.wrap o).toNat (IntKind.i64.wrap k).toNat):Sem Value) (do pure (.slice (some (←newRow f ((Array.range ((IntKind.i64.wrap k).toNat*n)).map fun x=>zero[x%zero.size]!))) (IntKind.i64.wrap o).toNat (IntKind.i64.wrap k).toNat):Sem Value):=by
     intro r zero q;refine(yQ f f q).bnd fun u _ a W h=>?_
     obtain⟨L,X,_,rfl⟩:=h
     exact .aU (.slice L (.inl rfl))
    split
    ·rename_i h0;refine SR.bQ (SR.aU (R:=Same) rfl) fun u v zero=>?_
     refine p u zero ?_;rw[h0];exact TE _
    ·refine(xM f).bnd fun u v z Y q=>?_
     obtain⟨rfl,q⟩:=q
     refine SR.bnd (R:=fun _ a b=>a=b/\a=z.cells) (SR.aU ⟨rfl,rfl⟩) fun M N zero w y=>?_
     obtain⟨rfl,rfl⟩:=y
     exact p M _ (tV q _ _)
 ·exact .stuck
end
end Go.Am
namespace Go.Am
open Go.Ren (grow gU aT aB)
section
variable{P:Program}{ρ f:Env}{g j γ δ:Type}
def G7:Option Value->Nat
 |some (.int _ i)=>i.toNat
 |_=>0
theorem iO{x d:Value}(m:VR ρ x d)(y h:Nat)(c:BoundsCode)(o:y<=h):SR P (fun _ a b=>a=b/\a<=y/\a=G7 (some x)) ρ (Instr.sliceBound x y c) (Instr.sliceBound d h c):=by
 unfold Instr.sliceBound;refine(ru m).bnd fun f n a b e=>?_
 obtain⟨rfl,l,_⟩:=e
 obtain⟨k,i⟩:=a
 dsimp only at l⊢;split
 ·rename_i p;rw[if_pos (by omega)];exact .aU ⟨rfl,by omega,by rw[l];rfl⟩
 ·exact .Dl
def SlR(c d:Nat)(h e:Option Value)(a b:Nat×Nat×Nat):Prop:=
 a.1=b.1/\a.2.1=b.2.1/\a.1<=a.2.1/\a.2.1<=a.2.2/\a.1=G7 h/\(e≠none/\a.2.2=b.2.2/\a.2.2<=c∨e=none/\a.2.2=c/\b.2.2=d)
theorem kF{isSlice:Bool}{k n d:Nat}{t o H u D v:Option Value}(r:k<=n)(J:n<=d)(s:gu (VR ρ) t o)(w:gu (VR ρ) H u)(E:gu (VR ρ) D v):
  SR P (fun _=>SlR n d t D) ρ (Instr.sliceBounds isSlice k n t H D) (Instr.sliceBounds isSlice k d o u v):=by
 unfold Instr.sliceBounds;dsimp only
 cases E with
 |none=>
  refine SR.bnd (R:=fun _ a b=>a=n/\b=d) (SR.aU ⟨rfl,rfl⟩) fun f i m M F=>?_
  obtain⟨rfl,rfl⟩:=F
  cases w with
  |none=>
   refine SR.bnd (R:=fun _ a b=>a=k/\b=k) (SR.aU ⟨rfl,rfl⟩) fun x p a b e=>?_
   obtain⟨rfl,rfl⟩:=e
   have c:gu (VR x) t o:=by cases s with|none=>exact .none|some h=>exact .some (h.mono (i.trans p))
   cases c with
   |none=>exact SR.bnd (R:=fun _ a b=>a=0/\b=0) (SR.aU ⟨rfl,rfl⟩) fun y _ l z e=>by obtain⟨rfl,rfl⟩:=e;exact .aU ⟨rfl,rfl,Nat.zero_le _,r,rfl,.inr ⟨rfl,rfl,rfl⟩⟩
   |some q=>exact(iO q _ _ _ (Nat.le_refl _)).bnd fun y _ l z e=>by obtain⟨rfl,A,B⟩:=e;exact .aU ⟨rfl,rfl,A,r,B,.inr ⟨rfl,rfl,rfl⟩⟩
  |some q=>
   refine(iO (q.mono i) _ _ _ J).bnd fun x p a b e=>?_
   obtain⟨rfl,C,_⟩:=e
   have c:gu (VR x) t o:=by cases s with|none=>exact .none|some h=>exact .some (h.mono (i.trans p))
   cases c with
   |none=>exact SR.bnd (R:=fun _ a b=>a=0/\b=0) (SR.aU ⟨rfl,rfl⟩) fun y _ l z e=>by obtain⟨rfl,rfl⟩:=e;exact .aU ⟨rfl,rfl,Nat.zero_le _,C,rfl,.inr ⟨rfl,rfl,rfl⟩⟩
   |some q=>exact(iO q _ _ _ (Nat.le_refl _)).bnd fun y _ l z e=>by obtain⟨rfl,A,B⟩:=e;exact .aU ⟨rfl,rfl,A,C,B,.inr ⟨rfl,rfl,rfl⟩⟩
 |some F=>
  refine(iO F _ _ _ J).bnd fun f i m M e=>?_
  obtain⟨rfl,C,_⟩:=e
  cases w with
  |none=>exact .dead fun _ _=>rfl
  |some q=>
   refine(iO (q.mono i) _ _ _ (Nat.le_refl _)).bnd fun x p a b e=>?_
   obtain⟨rfl,L,_⟩:=e
   have c:gu (VR x) t o:=by cases s with|none=>exact .none|some h=>exact .some (h.mono (i.trans p))
   cases c with
   |none=>exact SR.bnd (R:=fun _ a b=>a=0/\b=0) (SR.aU ⟨rfl,rfl⟩) fun y _ l z e=>by obtain⟨rfl,rfl⟩:=e;exact .aU ⟨rfl,rfl,Nat.zero_le _,L,rfl,.inl ⟨by simp,rfl,C⟩⟩
   |some q=>exact(iO q _ _ _ (Nat.le_refl _)).bnd fun y _ l z e=>by obtain⟨rfl,A,B⟩:=e;exact .aU ⟨rfl,rfl,A,L,B,.inl ⟨by simp,rfl,C⟩⟩
theorem gu.mono{R S:g->j->Prop}(h:∀x y,R x y->S x y){a:Option g}{b:Option j}(k:gu R a b):gu S a b:=by cases k with|none=>exact .none|some x=>exact .some (h _ _ x)
def aft(P:Program)(ρ:Env)(t:TypeId)(x:Value)(e h:Option Value):Prop:=
 (∀d,P.underlying t≠some (.pointer d))/\(∀n c,x=.slice none n c->n<=c)/\∀a n c,x=.slice (some a) n c->n<=c/\(ρ.bg a.block->h=none->(G7 e<c∨G7 e=0)/\∀b,P.underlying t=some (.slice b)->∀i,P.info? b=some i->i.size=ρ.u a.block)
theorem abO(a:Addr)(n:Nat):(a.add n).off=a.off+n:=by
 unfold Addr.add;by_cases h:n=0
 ·rw[if_pos h];omega
 ·rw[if_neg h]
theorem YD(t:TypeId){x x':Value}{Y O W Q Z R:Option Value}(hx:VR ρ x x')(a0:gu (VR ρ) Y O)(a1:gu (VR ρ) W Q)(a2:gu (VR ρ) Z R)(r:aft P ρ t x Y Z):
  SR P VR ρ (Instr.slice t x Y W Z) (Instr.slice t x' O Q R):=by
 unfold Instr.slice;refine(je t).bnd fun f v d d' e=>?_
 obtain⟨rfl,hd⟩:=e
 have w:=a0.mono fun _ _ (z:VR ρ _ _)=>z.mono v
 have y:=a1.mono fun _ _ (z:VR ρ _ _)=>z.mono v
 have A:=a2.mono fun _ _ (z:VR ρ _ _)=>z.mono v
 cases d with
 |string=>
  cases hx.mono v with
  |string s=>
   cases A with
   |some _=>exact .dead fun _ _=>rfl
   |none=>
    refine(kF (Nat.le_refl _) (Nat.le_refl _) w y .none).bnd fun τ F b T e=>?_
    obtain⟨D,E,_⟩:=e
    obtain⟨l,h,m⟩:=b
    obtain⟨l',h',C⟩:=T
    dsimp only at D E⊢;subst D E;exact .aU (.string _)
  |_=>exact .stuck
 |slice B=>
  cases hx with
  |nilslice n c=>
   dsimp only
   have H:=r.2.1 n c rfl;refine(kF H (Nat.le_refl _) w y A).bnd fun τ F b T e=>?_
   obtain⟨D,E,_,_,_,X⟩:=e
   obtain⟨l,h,m⟩:=b
   obtain⟨l',h',C⟩:=T
   dsimp only at D E X⊢;have e3:m=C:=by rcases X with⟨_,h,_⟩|⟨_,h,k⟩;exact h;omega
   subst D E e3;refine(fB B).bQ fun υ U s=>?_
   have:(if m=l then(none:Option Addr)else Option.map (fun a=>Addr.add a (l*s)) none)=none:=by split<;>rfl
   rw[this];exact .aU (.nilslice _ _)
  | @slice a n c c' J N=>
   dsimp only
   obtain⟨H,a3⟩:=r.2.2 a n c rfl;have a4:c<=c':=by rcases N with rfl|⟨_,h,_⟩;exact Nat.le_refl _;exact h
   refine(kF H a4 w y A).bnd fun τ F b T e=>?_
   obtain⟨D,E,e3,e4,X,e6⟩:=e
   obtain⟨l,h,m⟩:=b
   obtain⟨l',h',C⟩:=T
   dsimp only at D E e3 e4 X e6⊢;subst D E;refine(Dq B).bnd fun υ U s s' e=>?_
   obtain⟨rfl,i,W,rfl⟩:=e
   have p:=(v.trans F).trans U;have L:=p.born _ J
   have q:m=C->SR P VR υ (Pure.pure (.slice (if m=l then some a else(some a).map (fun a=>Addr.add a (l*i.size))) (h-l) (m-l))) (Pure.pure (.slice (if C=l then some (ρ.addr a)else(some (ρ.addr a)).map (fun a=>Addr.add a (l*i.size))) (h-l) (C-l))):=by
    intro em;subst em;refine .aU ?_;by_cases o:m=l
    ·rw[if_pos o,if_pos o,←p.addr J];exact .slice L (.inl rfl)
    ·rw[if_neg o,if_neg o,Option.map_some,Option.map_some,←addr_add,←p.addr (by rw[block_add];exact J)];exact .slice (by rw[block_add];exact L) (.inl rfl)
   rcases e6 with⟨h1,h2,h3⟩|⟨h1,h2,h3⟩
   ·exact q h2
   ·rcases N with N|⟨N,a7,a5⟩
    ·exact q (by omega)
    ·obtain⟨h4,h5⟩:=a3 N h1
     have hu:=h5 B hd i W
     refine .aU ?_;have V:(if C=l then some (ρ.addr a)else(some (ρ.addr a)).map (fun a=>Addr.add a (l*i.size)))=some (υ.addr (a.add (l*i.size))):=by
      rw[p.addr (by rw[block_add];exact J),addr_add];by_cases o:C=l
      ·rw[if_pos o];have:l=0:=by omega
       subst this;rw[Nat.zero_mul];rfl
      ·rw[if_neg o];rfl
     have M:(if m=l then some a else(some a).map (fun a=>Addr.add a (l*i.size)))=some (a.add (l*i.size)):=by
      by_cases o:m=l
      ·rw[if_pos o];have:l=0:=by omega
       subst this;rw[Nat.zero_mul];rfl
      ·rw[if_neg o];rfl
     rw[V,M];refine .slice (by rw[block_add];exact L) (.inr ⟨by rw[block_add];exact(p.bg _ J).2 N,by omega,?_⟩);rw[block_add,abO,p.u _ J,p.ext _ J,←hu];have hl:l<=c':=by omega
     have:l*i.size+(C-l)*i.size=C*i.size:=by rw[←Nat.add_mul];congr 1;omega
     rw[←hu]at a5;rw[h3]at this⊢;omega
  |_=>exact .stuck
 |pointer a6=>exact absurd hd (r.1 a6)
 |_=>cases hx<;>exact .stuck
theorem Ob(t:TypeId){x T:Value}{O v U w Q y:Option Value}(R:VR ρ x T)(A:gu (VR ρ) O v)(B:gu (VR ρ) U w)(C:gu (VR ρ) Q y)(o:aft P ρ t x O Q):
  SR P VR ρ (Instr.sliceAt t x O U Q) (Instr.sliceAt t T v w y):=by
 unfold Instr.sliceAt;refine(az t).bQ fun f i d=>?_
 split
 ·rename_i n D;refine(l7 (R.mono i)).bnd fun τ q a a' e=>?_
  obtain⟨r,rfl⟩:=e
  have E:=A.mono fun _ _ (z:VR ρ _ _)=>z.mono (i.trans q)
  have F:=B.mono fun _ _ (z:VR ρ _ _)=>z.mono (i.trans q)
  have H:=C.mono fun _ _ (z:VR ρ _ _)=>z.mono (i.trans q)
  refine(kF (Nat.le_refl _) (Nat.le_refl _) E F H).bnd fun υ J b Y e=>?_
  obtain⟨V,W,_,_,_,X⟩:=e
  obtain⟨l,h,m⟩:=b
  obtain⟨l',h',Z⟩:=Y
  dsimp only at V W X⊢;have e3:m=Z:=by rcases X with⟨_,h,_⟩|⟨_,h,k⟩;exact h;omega
  subst V W e3;refine(fB D).bQ fun ω L s=>?_
  have M:=L.born _ (J.born _ r)
  have N:=J.trans L
  refine .aU ?_;by_cases p:m=l
  ·rw[if_pos p,if_pos p,←N.addr r];exact .slice M (.inl rfl)
  ·rw[if_neg p,if_neg p,←addr_add,←N.addr (by rw[block_add];exact r)];exact .slice (by rw[block_add];exact M) (.inl rfl)
 ·refine YD t (R.mono i) (A.mono fun _ _ z=>z.mono i) (B.mono fun _ _ z=>z.mono i) (C.mono fun _ _ z=>z.mono i) ⟨o.1,o.2.1,fun a n c e=>?_⟩;subst e;obtain⟨h1,h2⟩:=o.2.2 a n c rfl;have r:ρ.born a.block:=by cases R;assumption
  refine⟨h1,fun h=>?_⟩;rw[i.u _ r];exact h2 ((i.bg _ r).1 h)
end
end Go.Am
namespace Go.Am
open Go.Ren (grow gU aT aB)
section
variable{P:Program}{A B:Env}{C D E δ:Type}
abbrev FR(A:Env):Option (Nat×Value)->Option (Nat×Value)->Prop:=gu fun p q=>p.1=q.1/\VR A p.2 q.2
theorem Oc(kind:TypeDesc)(k:Value){b a:List MapEntry}(h:LR (ig A) b a):∀i,gu (FR A) (Instr.findNow kind k b i) (Instr.findNow kind k a i):=by
 induction h with
 |nil=>intro i;exact .some .none
 | @cons e f l m c _ d=>
  intro i;unfold Instr.findNow;rw[c.key];split
  ·exact .some (.some ⟨rfl,c.val⟩)
  ·exact d _
  ·exact .none
theorem EZ(t:TypeId){k:Value}(g:Plain k){d a:List MapEntry}:∀{A:Env} (i:Nat),LR (ig A) d a->SR P (fun B=>FR B) A (Instr.findAsking t k d i) (Instr.findAsking t k a i):=by
 induction d generalizing a with
 |nil=>intro A i h;cases h;exact .aU .none
 |cons e l j=>
  intro A i h;cases h with
  |cons f m=>
   unfold Instr.findAsking;rw[f.key];refine(SR.dry (GY t g f.plain)).bQ fun B c b=>?_
   split
   ·exact .aU (.some ⟨rfl,f.val.mono c⟩)
   ·exact j (i+1) (m.mono fun _ _ x=>x.mono c)
theorem wG(t:TypeId){k:Value}(i:Plain k){e c:List MapEntry}(h:LR (ig A) e c):SR P (fun B=>FR B) A (Instr.findKey t k e) (Instr.findKey t k c):=by
 unfold Instr.findKey;refine(az t).bQ fun B f d=>?_
 have g:=h.mono fun _ _ (x:ig A _ _)=>x.mono f
 have:=Oc d k g 0
 revert this;generalize Instr.findNow d k e 0=a
 generalize Instr.findNow d k c 0=b
 intro this;cases this with
 |none=>exact EZ t i 0 g
 |some h=>exact .aU h
theorem jU{r c:Nat}(g:A.ob r c){R:Env->C->D->Prop}{f:Obj->Sem C}{d:Obj->Sem D}(i:∀a b k,AR (ig A) a b->SR P R A (f (.map a k)) (d (.map b k)))(hd:∀o,(∀a k,o≠.map a k)->Dead P (f o)):SR P R A (getObj r>>=f) (getObj c>>=d):=by
 refine .getObj g fun o l j=>?_
 cases j with
 |map h=>exact i _ _ _ h
 |_=>exact .dead (hd _ (fun a k e=>by cases e))
theorem tY(b:Bool)(t:TypeId){k:Value}(a:Plain k):SR P Same A (Instr.checkKey b 10000 t k) (Instr.checkKey b 10000 t k):=.dry (nG b 10000 t k a)
theorem FR.fst{a b:Option (Nat×Value)}(h:FR A a b){E:Type}(n:E)(f:Nat->E):(match a with|some (i,_)=>f i|none=>n)=(match b with|some (i,_)=>f i|none=>n):=by
 cases h with
 |none=>rfl
 | @some x y h=>obtain⟨i,v⟩:=x;obtain⟨j,u⟩:=y;obtain⟨e,_⟩:=h;cases e;rfl
theorem U7[aO P](t:TypeId){m L k q:Value}(c:Bool)(M:VR A m L)(N:VR A k q)(w:Plain k):SR P VR A (Instr.lookup t m k c) (Instr.lookup t L q c):=by
 have:=w.eq N
 subst this;unfold Instr.lookup;refine(az t).bQ fun B z d=>?_
 split
 ·rename_i f g;have tail:∀(F:Env) (l e:Array MapEntry),AR (ig F) l e->SR P VR F (do
    Instr.checkKey l.isEmpty 10000 f q
    let(v,p)←match←Instr.findKey f q l.toList with
     |some (_,v)=>pure (v,true)
     |none=>pure (←zeroValue g,false)
    pure (if c then .tuple #[v,.bool p]else v):Sem Value) (do
    Instr.checkKey e.isEmpty 10000 f q
    let(v,p)←match←Instr.findKey f q e.toList with
     |some (_,v)=>pure (v,true)
     |none=>pure (←zeroValue g,false)
    pure (if c then .tuple #[v,.bool p]else v):Sem Value):=by
   intro F l e h;have O:e.isEmpty=l.isEmpty:=by simp only[Array.isEmpty,h.1]
   rw[O];refine(tY _ f w).bQ fun V H _=>?_
   refine(wG f w (h.mono fun _ _ x=>x.mono H).list).bnd fun Q R a b J=>?_
   have r:∀(s:Env) (v u:Value) (p:Bool),VR s v u->SR P VR s (Pure.pure (if c then .tuple #[v,.bool p]else v)) (Pure.pure (if c then .tuple #[u,.bool p]else u)):=by
    intro s v u p h;refine .aU ?_;split
    ·exact uO h (.bool _)
    ·exact h
   cases J with
   |none=>exact(IQ g).bnd fun s _ v u h=>r s v u false h
   | @some x y h=>obtain⟨i,v⟩:=x;obtain⟨j,u⟩:=y;exact r Q v u true h.2
  cases M.mono z with
  |dO=>exact tail B #[] #[] .empty
  |map T=>exact jU T (fun l e n h=>tail B l e h) fun o U=>by cases o<;>first|exact absurd rfl (U _ _)|exact fun _ _=>rfl
  |_=>exact .dead fun _ _=>rfl
 ·exact .stuck
theorem rU{a b:Value}(d:Plain a)(c:Plain b):SR P (fun _ x y=>x=y/\Plain x) A (Instr.keyThatStays a b) (Instr.keyThatStays a b):=by
 unfold Instr.keyThatStays;split
 ·exact .aU ⟨rfl,c⟩
 ·refine SR.bQ (s:=choose _) (.choose fun n=>.pure rfl) fun B _ n=>.aU ⟨rfl,?_⟩;split<;>assumption
theorem YE{d c:Array MapEntry}(h:AR (ig A) d c)(i:Nat)(k:Value)(e:Plain k):((c[i]?).map (·.key)).getD k=((d[i]?).map (·.key)).getD k/\Plain (((d[i]?).map (·.key)).getD k):=by
 have:=h.get i
 revert this;generalize d[i]?=a
 generalize c[i]?=b
 intro this;cases this with
 |none=>exact⟨rfl,e⟩
 |some h=>exact⟨h.key,h.plain⟩
theorem abP{d c:Array MapEntry}(h:AR (ig A) d c)(i:Nat):((c[i]?).map fun x=>(x.born:Int)).getD 0=((d[i]?).map fun x=>(x.born:Int)).getD 0:=by
 have:=h.get i
 revert this;generalize d[i]?=a
 generalize c[i]?=b
 intro this;cases this with
 |none=>rfl
 |some h=>simp only[Option.map_some,h.born]
theorem AR.modify{R:C->D->Prop}{a:Array C}{b:Array D}(h:AR R a b)(i:Nat){f:C->C}{g:D->D}(l:∀x y,R x y->R (f x) (g y)):AR R (a.modify i f) (b.modify i g):=by
 refine⟨by simp[h.1],fun j x y c d=>?_⟩;rw[Array.getElem?_modify]at c d;have:=h.get j
 revert this c d;generalize a[j]?=u
 generalize b[j]?=v
 intro c d this;cases this with
 |none=>split at c<;>cases c
 |some k=>
  split at c
  ·rename_i e;rw[if_pos e]at d;cases c;cases d;exact l _ _ k
  ·rename_i e;rw[if_neg e]at d;cases c;cases d;exact k
theorem xO(t:TypeId){m L k s v M:Value}(Q:VR A m L)(R:VR A k s)(l:Plain k)(T:VR A v M):SR P Same A (Instr.mapUpdate t m k v) (Instr.mapUpdate t L s M):=by
 have:=l.eq R
 subst this;unfold Instr.mapUpdate;refine(az t).bQ fun B p d=>?_
 split
 ·rename_i q N;cases Q.mono p with
  |dO=>exact .dead (bV _)
  |map z=>
   refine jU z (fun Z U n h=>?_) fun o V=>by cases o<;>first|exact absurd rfl (V _ _)|exact fun _ _=>rfl
   refine(tY _ q l).bQ fun W c _=>?_
   have O:=h.mono fun _ _ (x:ig B _ _)=>x.mono c
   refine(wG q l O.list).bnd fun υ f a b F=>?_
   have H:=O.mono fun _ _ (x:ig W _ _)=>x.mono f
   have r:=T.mono ((p.trans c).trans f)
   cases F with
   |none=>exact .setObj ((c.trans f).ob z) (.map (H.push ⟨l,rfl,r,rfl⟩)) (.pure rfl)
   | @some x y h=>
    obtain⟨i,w⟩:=x
    obtain⟨j,u⟩:=y
    obtain⟨e,_⟩:=h
    dsimp only at e⊢;subst e;obtain⟨X,Y⟩:=YE H i s l
    rw[X];refine(rU Y l).bnd fun ω g a b e=>?_
    obtain⟨rfl,J⟩:=e
    exact .setObj (((c.trans f).trans g).ob z) (.map ((H.mono fun _ _ x=>x.mono g).modify i fun x y h=>⟨J,rfl,r.mono g,h.born⟩)) (.pure rfl)
  |_=>exact .stuck
 ·exact .stuck
theorem Lr[aO P](t:TypeId){m L k s:Value}(Q:VR A m L)(R:VR A k s)(l:Plain k):SR P VR A (Instr.mapEntry t m k) (Instr.mapEntry t L s):=by
 have:=l.eq R
 subst this;unfold Instr.mapEntry;refine(az t).bQ fun B v d=>?_
 split
 ·rename_i p q;cases Q.mono v with
  |dO=>exact .dead (bV _)
  |map F=>
   refine jU F (fun Z T n h=>?_) fun o U=>by cases o<;>first|exact absurd rfl (U _ _)|exact fun _ _=>rfl
   refine(tY _ p l).bQ fun V f _=>?_
   have M:=h.mono fun _ _ (x:ig B _ _)=>x.mono f
   refine(wG p l M.list).bnd fun υ g a b H=>?_
   have r:=M.mono fun _ _ (x:ig V _ _)=>x.mono g
   cases H with
   |none=>
    refine(IQ q).bnd fun W c z z' N=>?_
    exact .setObj (((f.trans g).trans c).ob F) (.map ((r.mono fun _ _ x=>x.mono c).push ⟨l,rfl,N,rfl⟩)) (.pure (uO N (.int _ _)))
   | @some x y h=>
    obtain⟨i,w⟩:=x
    obtain⟨j,u⟩:=y
    obtain⟨e,O⟩:=h
    dsimp only at e O⊢;subst e;obtain⟨X,Y⟩:=YE r i s l
    rw[X,abP r i];refine(rU Y l).bnd fun W c a b e=>?_
    obtain⟨rfl,J⟩:=e
    exact .setObj (((f.trans g).trans c).ob F) (.map ((r.mono fun _ _ x=>x.mono c).modify i fun x y h=>⟨J,rfl,h.val,h.born⟩)) (.pure (uO (O.mono c) (.int _ _)))
  |_=>exact .stuck
 ·exact .stuck
theorem LR.findIdx{R:C->D->Prop}{l:List C}{m:List D}(h:LR R l m){p:C->Bool}{q:D->Bool}(a:∀x y,R x y->q y=p x):m.findIdx? q=l.findIdx? p:=by
 induction h with
 |nil=>rfl
 |cons h _ b=>simp only[List.findIdx?_cons,a _ _ h,b]
theorem E5(t:TypeId){m g k j v r:Value}(z:VR A m g)(F:VR A k j)(H:VR A v r):SR P Same A (Instr.entryStore t m k v) (Instr.entryStore t g j r):=by
 unfold Instr.entryStore;cases z with
 |map s=>
  refine jU s (fun u c n h=>?_) fun o J=>by cases o<;>first|exact absurd rfl (J _ _)|exact fun _ _=>rfl
  refine(xN F).bQ fun B a b=>?_
  have w:=h.mono fun _ _ (x:ig A _ _)=>x.mono a
  have d:c.findIdx? (fun e=>(e.born:Int)==b)=u.findIdx? (fun e=>(e.born:Int)==b):=by
   have:=w.list.findIdx (p:=fun e=>(e.born:Int)==b) (q:=fun e=>(e.born:Int)==b) fun x y f=>by rw[f.born]
   obtain⟨l⟩:=u
   obtain⟨L⟩:=c
   rw[List.findIdx?_toArray,List.findIdx?_toArray];exact this
  rw[d];split
  ·rename_i i _;exact .setObj (a.ob s) (.map (w.modify _ fun x y h=>⟨h.plain,h.key,H.mono a,h.born⟩)) (.pure rfl)
  ·exact .NS
 |_=>exact .dead fun _ _=>rfl
end
end Go.Am
