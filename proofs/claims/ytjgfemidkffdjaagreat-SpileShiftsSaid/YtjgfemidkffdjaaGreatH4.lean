import Derived.Conc.Events
import Derived.Test.YtjgfemidkffdjaaGreatH3
set_option linter.all false
namespace Go.Am
open Go.Ren (grow gU aT aB)
def _root_.Go.Sem.fJ{c:Type}(P:Program):Sem c->AH->Option c
 | .pure a,_=>some a
 | .load m a k,h=>match h.cell a,m with
  |some v,.plain=>(k v).fJ P h
  |_,_=>none
 | .shape r k,h=>match h.look r with
  |some {obj:=.cells l e _,..}=>(k (some (e,l.size))).fJ P h
  |some _=>(k none).fJ P h
  |none=>none
 | .getObj r k,h=>match h.look r with
  |some {obj:=.cells _ _ _,..}=>none
  |some B=>(k B.obj).fJ P h
  |none=>none
 | .choose q k,h=>if q.forced then(k 0).fJ P h else none
 | .program k,h=>(k P).fJ P h
 |_,_=>none
theorem CP{P:Program}{d:Type}(s:Sem d):∀{h:AH} {a:d},s.fJ P h=some a->s.ar P none h=some (a,h):=by
 induction s with
 |pure x=>intro h a e;simp only[Sem.fJ,Option.some.injEq]at e;subst e;rfl
 |load m g k b=>
  intro h a e;rw[Sem.fJ.eq_def]at e;rw[Sem.ar.eq_def];dsimp only at e⊢;generalize h.cell g=q at e⊢;cases q with
  |none=>cases e
  |some v=>
   cases m with
   | plain=>exact b _ e
   | atomic=>cases e
 |shape r k b=>
  intro h a e;simp only[Sem.fJ]at e;simp only[Sem.ar]
  generalize c:h.look r=q at e⊢;cases q with
  |none=>cases e
  |some B=>
   obtain⟨o,f,i,u⟩:=B
   cases o<;>exact b _ e
 |getObj r k b=>
  intro h a e;simp only[Sem.fJ]at e;simp only[Sem.ar]
  generalize c:h.look r=q at e⊢;cases q with
  |none=>cases e
  |some B=>
   obtain⟨o,f,i,u⟩:=B
   cases o<;>first|(cases e;done)|exact b _ e
 |choose q k b=>
  intro h a e;simp only[Sem.fJ]at e;simp only[Sem.ar]
  split at e
  ·rename_i c;rw[if_pos c];exact b _ e
  ·cases e
 |program k b=>intro h a e;exact b _ e
 |_=>intro h a e;cases e
inductive Kind where
 |fO|alloc|effect
 deriving DecidableEq
def kindOf(o:Oper):Kind:=match o.op with
 | .alloc _|.buildSlice ..=>.alloc
 | .move _|.assign _|.pick ..|.build ..|.load ..|.nilCheck _|.binOp ..|.unOp ..|.convert ..|.makeInterface ..|.makeFunc ..|.slice ..|.fieldAddr ..|.field ..|.indexAddr ..|.index ..|.lookup ..|.extract ..=>.fO
 | .call {callee:=.builtin .len,..}|.call {callee:=.builtin .min,..}|.call {callee:=.builtin .max,..}=>.fO
 |_=>.effect
def over(a:Array Oper)(i:Nat)(o:Oper):Bool:=match o.op with
 | .assign _=>(match o.dst with
  |some d=>(a.toList.take i).any fun p=>p.op.operands.toList.any fun
   | .tmp t=>t==d
   | _=>false
  |none=>false)
 |_=>false
def aK(a:Array Oper)(i:Nat):Kind:=match a[i]? with
 |some o=>cond (over a i o) .effect (kindOf o)
 |none=>.fO
theorem Hq{a:Array Oper}{i:Nat}{o:Oper}(c:a[i]?=some o)(b:aK a i≠.effect):aK a i=kindOf o:=by
 unfold aK at b⊢;rw[c]at b⊢;dsimp only at b⊢;cases h:over a i o with
 |true=>rw[h]at b;exact absurd rfl b
 |false=>rfl
theorem nI{a:Array Oper}{i:Nat}{o:Oper}(c:a[i]?=some o)(d:(∃t,o.op=.alloc t)∨∃t n b,o.op=.buildSlice t n b):aK a i=.alloc:=by
 unfold aK;rw[c];dsimp only
 rcases d with⟨t,e⟩|⟨t,n,b,e⟩
 ·unfold over kindOf;rw[e];rfl
 ·unfold over kindOf;rw[e];rfl
def bT(a:Array Oper)(i:Nat):Option Tmp:=(a[i]?).bind (·.dst)
def wantedAt(a:Array Oper)(b:Array Value)(i:Nat):Bool:=match a[i]? with
 |some o=>Region.wanted o (yielded a b)
 |none=>false
def ix(l:List (Nat×List Nat)):List Nat:=l.map (·.1)
def jr(a:Array Oper):Bool:=
 backOk a&&(List.range a.size).all fun i=>match a[i]? with
  |none=>true
  |some o=>
   ((List.range a.size).all fun j=>(i==j||bT a i==none||bT a i !=bT a j)&&
     o.op.operands.toList.all fun
      | .tmp t=>bT a j !=some t||dep a a.size i j||(aK a j==.effect&&dep a a.size j i)
      |_=>true)&&
   match o.guard with
   | none=>true
   | some (j,_)=>dep a a.size i j
def vK(a:Array Oper):List (Nat×List Nat)->Bool
 | []=>true
 |(i,c)::l=>decide (i<a.size)&&!(ix l).contains i&&((ix l).all fun j=>!dep a a.size i j)&&
  (aK a i !=.effect||(ix l).all fun j=>dep a a.size j i)&&
  (aK a i==.fO||(List.range a.size).all fun j=>(ix l).contains j||aK a j==.effect||c.contains j||
   (List.range a.size).any fun e=>aK a e==.effect&&!(ix l).contains e&&dep a a.size e j)&&vK a l
def JI(ops:Array Oper)(l:List (Nat×List Nat)):Bool:=jr ops&&((List.range ops.size).all fun i=>(ix l).contains i)&&vK ops l
def WQ(T:List Nat)(n i j:Nat):Bool:=Nat.testBit (maskAt T n i) j
def aaE(T:List Nat)(a:Array Oper):Bool:=
 backOk a&&(List.range a.size).all fun i=>match a[i]? with
  |none=>true
  |some o=>
   ((List.range a.size).all fun j=>(i==j||bT a i==none||bT a i !=bT a j)&&
     o.op.operands.toList.all fun
      | .tmp t=>bT a j !=some t||WQ T a.size i j||(aK a j==.effect&&WQ T a.size j i)
      |_=>true)&&
   match o.guard with
   | none=>true
   | some (j,_)=>WQ T a.size i j
def JJ(T:List Nat)(a:Array Oper):List (Nat×List Nat)->Bool
 | []=>true
 |(i,c)::l=>decide (i<a.size)&&!(ix l).contains i&&((ix l).all fun j=>!WQ T a.size i j)&&
  (aK a i !=.effect||(ix l).all fun j=>WQ T a.size j i)&&
  (aK a i==.fO||(List.range a.size).all fun j=>(ix l).contains j||aK a j==.effect||c.contains j||
   (List.range a.size).any fun e=>aK a e==.effect&&!(ix l).contains e&&WQ T a.size e j)&&JJ T a l
def Us(T:List Nat)(a:Array Oper)(l:List (Nat×List Nat)):Bool:=aaE T a&&((List.range a.size).all fun i=>(ix l).contains i)&&JJ T a l
def JK(a:Array Oper)(l:List (Nat×List Nat)):Bool:=Us (kK a a.size) a l
theorem H7(a:Array Oper):∀l,JJ (kK a a.size) a l=vK a l
 | []=>rfl
 |(i,c)::l=>by
  simp only[JJ,vK,H7 a l]
  rfl
theorem PS(ops:Array Oper)(l:List (Nat×List Nat)):JK ops l=JI ops l:=by
 unfold JK Us JI;rw[H7];rfl
section
variable{P:Program}{ρ σ:Env}{ops:Array Oper}
theorem jI{l:List (Nat×List Nat)}{i:Nat}:(ix l).contains i=true↔i∈ix l:=by simp
theorem yh{i:Nat}(h:i<ops.size):ops[i]?=some ops[i]:=by simp[h]
theorem nJ(h:jr ops=true):backOk ops=true:=by unfold jr at h;simp only[Bool.and_eq_true]at h;exact h.1
theorem lS(h:jr ops=true){i:Nat}{o:Oper}(d:ops[i]?=some o):
  (∀j,j<ops.size->(i=j∨bT ops i=none∨bT ops i≠bT ops j)/\∀t,.tmp t∈o.op.operands->bT ops j=some t->dep ops ops.size i j=true∨(aK ops j=.effect/\dep ops ops.size j i=true))/\∀j b,o.guard=some (j,b)->dep ops ops.size i j=true:=by
 have f:i<ops.size:=(Array.getElem?_eq_some_iff.1 d).1;unfold jr at h;simp only[Bool.and_eq_true]at h;have c:=List.all_eq_true.1 h.2 i (by simpa using f);rw[d]at c;dsimp only at c;simp only[Bool.and_eq_true]at c;obtain⟨c,e⟩:=c
 refine⟨fun j g=>?_,fun j b k=>?_⟩
 ·have:=List.all_eq_true.1 c j (by simpa using g);simp only[Bool.and_eq_true,Bool.or_eq_true,beq_iff_eq,bne_iff_ne,ne_eq]at this;obtain⟨a,l⟩:=this
  refine⟨?_,fun t m hd=>?_⟩
  ·rcases a with(a|a)|a
   · exact .inl a
   · exact .inr (.inl a)
   · exact .inr (.inr a)
  ·have:=List.all_eq_true.1 l (.tmp t) (by simpa using m);simp only[Bool.or_eq_true,bne_iff_ne,ne_eq,Bool.and_eq_true,beq_iff_eq]at this;rcases this with(x|x)|x
   · exact absurd hd x
   · exact .inl x
   · exact .inr x
 ·rw[k]at e;exact e
theorem uy(h:jr ops=true){i j:Nat}{d:Tmp}(b:i<ops.size)(c:j<ops.size)(a:bT ops i=some d)(e:bT ops j=some d):i=j:=by
 rcases((lS h (yh b)).1 j c).1 with k|k|k
 ·exact k
 ·rw[a]at k;cases k
 ·rw[a,e]at k;exact absurd rfl k
theorem BQ{i j:Nat}(h:jr ops=true)(a:i<ops.size)(k:dep ops ops.size i j=true):j<i:=by
 have c:=Jt _ _ _ k
 have b:=nJ h
 clear k;induction c with
 |one e=>exact uV b a e
 |more e t d=>exact Nat.lt_trans (d (Nat.lt_trans (uV b a e) a)) (uV b a e)
theorem kL{i:Nat}{c:List Nat}{l:List (Nat×List Nat)}(h:vK ops ((i,c)::l)=true):
  i<ops.size/\i∉ix l/\(∀j∈ix l,dep ops ops.size i j=false)/\(aK ops i=.effect->∀j∈ix l,dep ops ops.size j i=true)/\
  (aK ops i≠.fO->∀j,j<ops.size->j∉ix l->aK ops j≠.effect->j∈c∨∃e,e<ops.size/\aK ops e=.effect/\e∉ix l/\dep ops ops.size e j=true)/\vK ops l=true:=by
 unfold vK at h;simp only[Bool.and_eq_true,decide_eq_true_eq]at h;obtain⟨⟨⟨⟨⟨o,g⟩,p⟩,k⟩,m⟩,q⟩:=h
 refine⟨o,fun d=>?_,fun j a=>?_,fun f j a=>?_,fun f j a r s=>?_,q⟩
 ·rw[jI.2 d]at g;cases g
 ·have:=List.all_eq_true.1 p j a;simpa using this
 ·simp only[Bool.or_eq_true,bne_iff_ne,ne_eq]at k;exact List.all_eq_true.1 (k.resolve_left fun x=>x f) j a
 ·simp only[Bool.or_eq_true,beq_iff_eq]at m;have:=List.all_eq_true.1 (m.resolve_left f) j (by simpa using a);simp only[Bool.or_eq_true,beq_iff_eq]at this;rcases this with((x|x)|x)|x
  ·exact absurd (jI.1 x) r
  ·exact absurd x s
  ·exact .inl (by simpa using x)
  ·obtain⟨e,t,b⟩:=List.any_eq_true.1 x;simp only[Bool.and_eq_true,beq_iff_eq,Bool.not_eq_true']at b;obtain⟨⟨b,n⟩,u⟩:=b
   refine .inr ⟨e,by simpa using t,b,fun d=>?_,u⟩;rw[jI.2 d]at n;cases n
theorem aaF:∀{l:List (Nat×List Nat)},vK ops l=true->∀i∈ix l,i<ops.size
 | [],_,i,h=>by cases h
 |(j,c)::l,h,i,a=>by
  obtain⟨b,_,_,_,_,d⟩:=kL h
  rcases List.mem_cons.1 a with rfl|a
  ·exact b
  ·exact aaF d i a
def gK(P:Program)(h:AH)(a:Array Value)(o:Oper):Option Value:=
 if bC o&&lX P h (ay a) o then match(execOp (ay a) o).fJ P h with
  |some (.value v)=>some v
  |_=>none
 else none
def zeroOf(P:Program)(t:TypeId):Option Value:=(P.info? t).bind (·.zero)
def jH(P:Program)(e:Operand->Value)(t:TypeId)(b:Nat)(c:Array (Nat×Operand)):Option (TypeId×Array Value):=
 match P.underlying t with
 |some (.slice a)=>match P.info? a with
  |some i=>if b*i.size>2^24 then none else match i.zero with
   | some z=>match Instr.fill (fun j=>some (j*i.size,i.size)) ((Array.range (b*i.size)).map fun j=>z.cells[j%z.cells.size]!) (c.map fun p=>(p.1,e p.2)).toList with
     |some cells=>some (a,cells)
     |none=>none
   | none=>none
  |none=>none
 |_=>none
theorem FO{e c:Operand->Value}{t:TypeId}{a:Nat}{b:Array (Nat×Operand)}(d:∀x∈b,e x.2=c x.2):jH P e t a b=jH P c t a b:=by
 have:(b.map fun p=>(p.1,e p.2))=b.map fun p=>(p.1,c p.2):=Array.map_congr_left fun x f=>by rw[d _ f]
 unfold jH;rw[this]
inductive EqAt(P:Program)(h:AH)(ops:Array Oper)(tmps:Array Value)(i:Nat):Prop
 |unwanted {o:Oper} {d:Tmp} (ho:ops[i]?=some o) (hw:Region.wanted o (yielded ops tmps)=false) (hd:o.dst=some d) (hv:tmps[d]?=some undef)
 |fO {o:Oper} {d:Tmp} {v:Value} (ho:ops[i]?=some o) (hw:Region.wanted o (yielded ops tmps)=true) (hk:kindOf o=.fO) (hd:o.dst=some d) (hv:tmps[d]?=some v) (hl:gK P h tmps o=some v)
 |alloc {o:Oper} {d:Tmp} {t:TypeId} {b:Nat} {z:Value} (ho:ops[i]?=some o) (hw:Region.wanted o (yielded ops tmps)=true) (hd:o.dst=some d) (hop:o.op=.alloc t) (hz:zeroOf P t=some z)
   (hv:tmps[d]?=some (.pointer (some ⟨b,0,none⟩))) (hl:h.look b=some ⟨.cells z.cells t (0,0),none,false,0⟩)
 |built {o:Oper} {d:Tmp} {t:TypeId} {n:Nat} {ps:Array (Nat×Operand)} {b:Nat} {elem:TypeId} {cells:Array Value} (ho:ops[i]?=some o) (hw:Region.wanted o (yielded ops tmps)=true) (hd:o.dst=some d) (hop:o.op=.buildSlice t n ps) (hk:bC o=true)
   (hb:jH P (ay tmps) t n ps=some (elem,cells)) (hv:tmps[d]?=some (.slice (some ⟨b,0,none⟩) n n)) (hl:h.look b=some ⟨.cells cells elem (0,0),none,false,0⟩)
theorem H8{a:Array Value}{d:Tmp}{v:Value}{x:Operand}(h:x≠.tmp d):ay (a.setIfInBounds d v) x=ay a x:=by
 cases x with
 |tmp t=>
  show(a.setIfInBounds d v).getD t undef=a.getD t undef
  rw[Array.getD_eq_getD_getElem?,Array.getD_eq_getD_getElem?,Array.getElem?_setIfInBounds,if_neg (fun e=>h (by rw[e]))]
 |_=>rfl
theorem PT{h:AH}{e j:Operand->Value}{o:Oper}(a:∀x∈o.op.operands,e x=j x):lX P h e o=lX P h j o:=by
 unfold lX;cases g:o.op with
 |nilCheck x=>rw[g]at a;dsimp only;rw[a x (by simp[Op.operands])]
 |binOp op t x y s=>rw[g]at a;dsimp only;rw[a x (by simp[Op.operands]),a y (by simp[Op.operands])]
 |convert s d x=>rw[g]at a;dsimp only;rw[a x (by simp[Op.operands])]
 |lookup t x k c=>rw[g]at a;dsimp only;rw[a k (by simp[Op.operands])]
 |mapUpdate t x k v=>rw[g]at a;dsimp only;rw[a k (by simp[Op.operands])]
 |insert t x k v=>rw[g]at a;dsimp only;rw[a k (by simp[Op.operands])]
 |mapEntry t x k=>rw[g]at a;dsimp only;rw[a k (by simp[Op.operands])]
 |next it s=>rw[g]at a;dsimp only;rw[a it (by simp[Op.operands])]
 |entry it=>rw[g]at a;dsimp only;rw[a it (by simp[Op.operands])]
 |slice t x n p q=>
  rw[g]at a;dsimp only
  cases n<;>cases p<;>cases q<;>simp_all[Op.operands]
 |call c=>
  rw[g]at a;dsimp only
  cases r:c.callee with
  |value f=>dsimp only;rw[a f (by simp[Op.operands,Call.operands,r])]
  |builtin b=>
   cases b with
   | cap=>
     have i:∀x∈c.args.toList,e x=j x:=fun x m=>a x (by simp only[Op.operands,Call.operands];exact Array.mem_append.2 (.inr (Array.mem_toList_iff.1 m)))
     dsimp only
     generalize c.args.toList=l at i
     match l,i with
     | [],_=>rfl
     | [x],i=>dsimp only;rw[i x (by simp)]
     |_::_::_,_=>rfl
   | clear=>
     have i:∀x∈c.args.toList,e x=j x:=fun x m=>a x (by simp only[Op.operands,Call.operands];exact Array.mem_append.2 (.inr (Array.mem_toList_iff.1 m)))
     dsimp only
     generalize c.args.toList=l at i
     match l,i with
     | [],_=>rfl
     | [x],i=>dsimp only;rw[i x (by simp)]
     |_::_::_,_=>rfl
   | _=>rfl
  |_=>rfl
 |_=>rfl
theorem uz{h:AH}{t c:Array Value}{o:Oper}(a:kindOf o=.fO)(d:∀x∈o.op.operands,ay t x=ay c x):gK P h t o=gK P h c o:=by
 have g:∀f b,o.op≠.select f b:=fun f b e=>by unfold kindOf at a;rw[e]at a;cases a
 unfold gK;rw[PT d,execOp_congr o g d]
theorem EqAt.set{h:AH}{a:Array Value}{i j:Nat}{d:Tmp}{v:Value}(q:jr ops=true)(k:EqAt P h ops a i)(E:i<ops.size)(F:j<ops.size)(hd:bT ops j=some d)(B:dep ops ops.size i j=false)(H:i≠j)(r:aK ops j≠.effect∨dep ops ops.size j i=false):EqAt P h ops (a.setIfInBounds d v) i:=by
 have w:∀o,ops[i]?=some o->∀x∈o.op.operands,ay (a.setIfInBounds d v) x=ay a x:=fun o c x J=>H8 fun e=>by
  subst e;rcases((lS q c).1 j F).2 d J hd with this|⟨Q,N⟩
  ·rw[B]at this;cases this
  ·rcases r with r|r
   · exact r Q
   · rw[r]at N;cases N
 have l:∀o t,ops[i]?=some o->o.dst=some t->(a.setIfInBounds d v)[t]?=a[t]?:=fun o t c m=>by rw[Array.getElem?_setIfInBounds,if_neg];intro e;subst e;exact H (uy q E F (by unfold bT;rw[c];exact m) hd)
 have D:∀o,ops[i]?=some o->Region.wanted o (yielded ops (a.setIfInBounds d v))=Region.wanted o (yielded ops a):=fun o c=>by
  unfold Region.wanted;cases R:o.guard with
  |none=>rfl
  |some p=>
   obtain⟨g,b⟩:=p
   dsimp only
   have y:=(lS q c).2 g b R;have:yielded ops (a.setIfInBounds d v) g=yielded ops a g:=by
     unfold yielded;cases L:(ops[g]?).bind (·.dst)with
     |none=>rfl
     |some t=>
      simp only[Option.bind_some]
      rw[Array.getElem?_setIfInBounds,if_neg];intro e;subst e;have M:g<ops.size:=Nat.lt_trans (BQ q E y) E
      have:=uy q M F L hd
      subst this;rw[B]at y;cases y
   rw[this]
 cases k with
 | @unwanted o t c f m A=>exact .unwanted c (by rw[D o c];exact f) m (by rw[l o t c m];exact A)
 | @fO o t u c f r m A C=>exact .fO c (by rw[D o c];exact f) r m (by rw[l o t c m];exact A) (by rw[uz r (w o c)];exact C)
 | @alloc o t T b z c f m s U A C=>exact .alloc c (by rw[D o c];exact f) m s U (by rw[l o t c m];exact A) C
 | @built o t T n W b O cells c f m s r V A C=>
  refine .built c (by rw[D o c];exact f) m s r ?_ (by rw[l o t c m];exact A) C;rw[FO fun x J=>w o c x.2 ?_]
  ·exact V
  ·rw[s];simp only[Op.operands,List.mem_toArray,List.mem_map]
   exact⟨x,by simpa using J,rfl⟩
end
end Go.Am
namespace Go.Am
open Go.Ren (grow gU aT aB)
def jl:Nat->Value->Value->Bool
 |0,_,_=>false
 |n+1,a,b=>match a,b with
  | .bool x,.bool y=>decide (x=y)
  | .int k x,.int l y=>decide (k=l)&&decide (x=y)
  | .string x,.string y=>decide (x.data.toList=y.data.toList)
  | .pointer x,.pointer y=>decide (x=y)
  | .slice x a b,.slice y c d=>decide (x=y)&&decide (a=c)&&decide (b=d)
  | .map x,.map y=>decide (x=y)
  | .func f a b,.func g c d=>decide (f=g)&&decide (a.toList.length=c.toList.length)&&(a.toList.zip c.toList).all (fun p=>jl n p.1 p.2)&&decide (b.toList.length=d.toList.length)&&(b.toList.zip d.toList).all (fun p=>jl n p.1 p.2)
  | .nilFunc,.nilFunc|.nilIface,.nilIface=>true
  | .iface t x,.iface u y=>decide (t=u)&&jl n x y
  | .agg x,.agg y|.tuple x,.tuple y=>decide (x.toList.length=y.toList.length)&&(x.toList.zip y.toList).all (fun p=>jl n p.1 p.2)
  |_,_=>false
theorem EF{n:Nat}(c:∀a b,jl n a b=true->a=b):∀l m:List Value,l.length=m.length->(l.zip m).all (fun p=>jl n p.1 p.2)=true->l=m
 | [],[],_,_=>rfl
 | [],_::_,h,_=>by simp at h
 |_::_,[],h,_=>by simp at h
 |x::l,y::m,h,k=>by
  simp only[List.zip_cons_cons,List.all_cons,Bool.and_eq_true]at k;rw[c x y k.1,EF c l m (by simpa using h) k.2]
theorem BU{a b:Array Value}(h:a.toList=b.toList):a=b:=by cases a;cases b;simp at h;rw[h]
theorem iT:∀(n:Nat) (a b:Value),jl n a b=true->a=b:=by
 intro n;induction n with
 |zero=>intro a b h;cases h
 |succ n c=>
  intro a b h;unfold jl at h;split at h
  ·rw[of_decide_eq_true h]
  ·simp only[Bool.and_eq_true,decide_eq_true_eq]at h;rw[h.1,h.2]
  ·rename_i x y;have:=of_decide_eq_true h
   obtain⟨x⟩:=x
   obtain⟨y⟩:=y
   congr 2;exact Array.toList_inj.1 this
  ·rw[of_decide_eq_true h]
  ·simp only[Bool.and_eq_true,decide_eq_true_eq]at h;rw[h.1.1,h.1.2,h.2]
  ·rw[of_decide_eq_true h]
  ·simp only[Bool.and_eq_true,decide_eq_true_eq]at h;obtain⟨⟨⟨⟨e,f⟩,g⟩,i⟩,j⟩:=h
   rw[e,BU (EF c _ _ f g),BU (EF c _ _ i j)]
  ·rfl
  ·rfl
  ·simp only[Bool.and_eq_true,decide_eq_true_eq]at h;rw[h.1,c _ _ h.2]
  ·simp only[Bool.and_eq_true,decide_eq_true_eq]at h;rw[BU (EF c _ _ h.1 h.2)]
  ·simp only[Bool.and_eq_true,decide_eq_true_eq]at h;rw[BU (EF c _ _ h.1 h.2)]
  ·cases h
def eqB(P:Program)(h:AH)(e:Array Oper)(a:Array Value)(i:Nat):Bool:=match e[i]? with
 |none=>false
 |some o=>match o.dst with
  |none=>false
  |some d=>match a[d]? with
   | none=>false
   | some v=>match Region.wanted o (yielded e a)with
     |false=>jl 1 undef v
     |true=>match o.op with
      | .alloc t=>match zeroOf P t,v with
       |some z,.pointer (some ⟨b,0,none⟩)=>match h.look b with
        | some ⟨.cells c k (0,0),none,false,0⟩=>decide (k=t)&&jl 9 (.agg c) (.agg z.cells)
        | _=>false
       |_,_=>false
      | .buildSlice t n l=>bC o&&match jH P (ay a) t n l,v with
       |some (f,cells),.slice (some ⟨b,0,none⟩) g j=>decide (g=n/\j=n)&&match h.look b with
        | some ⟨.cells c k (0,0),none,false,0⟩=>decide (k=f)&&jl 9 (.agg c) (.agg cells)
        | _=>false
       |_,_=>false
      |_=>decide (kindOf o=.fO)&&match gK P h a o with
       |some m=>jl 9 v m
       |none=>false
theorem agn{P:Program}{h:AH}{f:Array Oper}{a:Array Value}{i:Nat}(k:eqB P h f a i=true):EqAt P h f a i:=by
 unfold eqB at k;split at k
 ·cases k
 rename_i o l;split at k
 ·cases k
 rename_i d hd;split at k
 ·cases k
 rename_i v m;split at k
 ·rename_i g;have:=iT _ _ _ k
  subst this;exact .unwanted l g hd m
 rename_i g;split at k
 ·rename_i t e;split at k
  ·rename_i z b w;split at k
   · rename_i c x j;simp only[Bool.and_eq_true,decide_eq_true_eq]at k;obtain⟨rfl,p⟩:=k
     have:=iT _ _ _ p
     simp only[Value.agg.injEq]at this;subst this;exact .alloc l g hd e w m j
   · cases k
  ·cases k
 ·rename_i t n B e;simp only[Bool.and_eq_true]at k;obtain⟨q,k⟩:=k
  split at k
  ·rename_i r cells b s u y;simp only[Bool.and_eq_true,decide_eq_true_eq]at k;obtain⟨⟨rfl,rfl⟩,k⟩:=k
   split at k
   · rename_i c x j;simp only[Bool.and_eq_true,decide_eq_true_eq]at k;obtain⟨rfl,p⟩:=k
     have:=iT _ _ _ p
     simp only[Value.agg.injEq]at this;subst this;exact .built l g hd e q y m j
   · cases k
  ·cases k
 ·simp only[Bool.and_eq_true,decide_eq_true_eq]at k;obtain⟨A,k⟩:=k
  split at k
  ·rename_i C j;have:=iT _ _ _ k
   subst this;exact .fO l g A hd m j
  ·cases k
def recheck(P:Program)(b:Array Oper)(c:List Nat)(a:Array Value)(h:AH):Bool:=c.all (eqB P h b a)
def aiL:Value->Option Nat
 | .pointer (some ⟨b,0,none⟩)=>some b
 | .slice (some ⟨b,0,none⟩) _ _=>some b
 |_=>none
def gz(c:Array Oper)(a:Array Value)(i b:Nat):Prop:=aK c i=.alloc/\wantedAt c a i=true/\∃d:Tmp,bT c i=some d/\(a[d]?).bind aiL=some b
structure FD(ρ:Env)(lo hi:Nat)(ops:Array Oper)(l:List (Nat×List Nat))(s:List Nat)(a:aN)(f:Frame):Prop where
 base:FB ρ a f
 run:a.ret=false
 todo:∃k k',a.todo=.drawn ops l::k/\f.todo=.inRegion ops s::k'/\LR (Cf ρ) k k'
 ok:jr ops=true
 ord:vK ops l=true
 lin:VK ops s
 down:Down ops s
 lt:∀i∈s,i<ops.size
 sub:∀i∈ix l,i∈s
 done:∀i,i<ops.size->i∉ix l->∀j∈ix l,dep ops ops.size i j=false
 eff:∀i∈s,i∉ix l->aK ops i≠.effect
 size:a.tmps.size=f.tmps.size
 tmps:∀t:Tmp,(∀i∈s,i∉ix l->bT ops i≠some t)->gu (VR ρ) a.tmps[t]? f.tmps[t]?
 bd:∀i∈s,i∉ix l->∀b,gz ops a.tmps i b->lo<=b/\b<hi/\¬ρ.born b
 WR:∀i∈s,i∉ix l->∀j∈s,j∉ix l->∀b,gz ops a.tmps i b->gz ops a.tmps j b->i=j
def Eqs(P:Program)(h:AH)(b:Array Oper)(l:List (Nat×List Nat))(s:List Nat)(a:Array Value):Prop:=∀i∈s,i∉ix l->EqAt P h b a i
section
variable{P:Program}{ρ r:Env}{q n hi' i:Nat}{ops:Array Oper}{l:List (Nat×List Nat)}{s:List Nat}{a:aN}{f:Frame}{h:AH}{c:List Nat}{o:Oper}{d:Tmp}{v v':Value}
theorem FD.mono(k:FD ρ q n ops l s a f)(e:ρ.Le r)(hb:∀x,x<n->r.born x->ρ.born x)(m:n<=hi'):FD r q hi' ops l s a f:=by
 obtain⟨p,u,w,z,A⟩:=k.todo
 refine⟨k.base.mono e,k.run,⟨p,u,w,z,A.mono fun _ _ x=>x.mono e⟩,k.ok,k.ord,k.lin,k.down,k.lt,k.sub,k.done,k.eff,k.size,fun t B=>?_,fun i n C b g=>?_,k.WR⟩
 ·have:=k.tmps t B
  revert this;generalize a.tmps[t]?=x
  generalize f.tmps[t]?=y
  intro this;cases this with
  |none=>exact .none
  |some x=>exact .some (x.mono e)
 ·obtain⟨D,j,E⟩:=k.bd i n C b g
  exact⟨D,Nat.lt_of_lt_of_le j m,fun x=>E (hb b j x)⟩
theorem agp{x y:Array Value}{t:Nat}(k:gu (VR ρ) x[t]? y[t]?):VR ρ (x.getD t undef) (y.getD t undef):=by
 rw[Array.getD_eq_getD_getElem?,Array.getD_eq_getD_getElem?];revert k;generalize x[t]?=u
 generalize y[t]?=w
 intro k;cases k with
 |none=>exact kE
 |some h=>exact h
theorem EG(b:jr ops=true){j:Nat}{t:Tmp}(e:ops[i]?=some o)(g:j<ops.size)(k:.tmp t∈o.op.operands)(hd:bT ops j=some t)(m:aK ops j≠.effect):dep ops ops.size i j=true:=(((lS b e).1 j g).2 t k hd).resolve_right fun x=>m x.1
theorem FD.JL(k:FD ρ q n ops l (i::s) a f){j:Nat}(hd:dep ops ops.size i j=true):j∉i::s:=
 k.lin.head k.down (nJ k.ok) (k.lt i (by simp)) (Jt _ _ _ hd)
theorem FD.sH(k:FD ρ q n ops l (i::s) a f)(p:ops[i]?=some o)(u:bC o=true):∀x∈o.op.operands,VR ρ (ay a.tmps x) (f.eval x):=by
 intro x e;have:=List.all_eq_true.1 u x (by simpa using e);cases x with
 |tmp t=>exact agp (k.tmps t fun j b z hd=>k.JL (EG k.ok p (k.lt j b) e hd (k.eff j b z)) b)
 |const v=>exact(iG this).vr ρ
 |global g=>cases this
 |func f=>exact .func (.func f) rfl (fun i x y h=>by simp at h) rfl (fun i x y h=>by simp at h)
theorem FD.oO(k:FD ρ q n ops l (i::s) a f)(z:ops[i]?=some o):Region.wanted o (yielded ops f.tmps)=Region.wanted o (yielded ops a.tmps):=by
 unfold Region.wanted;cases A:o.guard with
 |none=>rfl
 |some p=>
  obtain⟨g,b⟩:=p
  dsimp only
  have e:=(lS k.ok z).2 g b A;have m:g<ops.size:=Nat.lt_trans (BQ k.ok (k.lt i (by simp)) e) (k.lt i (by simp))
  have:yielded ops f.tmps g=yielded ops a.tmps g:=by
   unfold yielded;cases u:(ops[g]?).bind (·.dst)with
   | none=>rfl
   | some t=>
     simp only[Option.bind_some]
     have:=k.tmps t fun j w B hd=>by
      have:=uy k.ok (k.lt j w) m hd u
      subst this;exact k.JL e w
     revert this;generalize a.tmps[t]?=x
     generalize f.tmps[t]?=y
     intro this;cases this with
     |none=>rfl
     |some h=>cases h<;>rfl
  rw[this]
theorem AV{e:List Item}(j:f.todo=.inRegion ops (i::s)::e)(v:Value):f.finish v={f with tmps:=dP f.tmps (bT ops i) v,todo:=.inRegion ops s::e}:=by
 obtain⟨g,b,todo,defers,mode,kind,k⟩:=f
 dsimp only at j;subst j;rfl
theorem Me(h:VK ops (i::s)):i∉s/\VK ops s:=by cases h with|cons _ b k=>exact⟨b,k⟩
theorem FD.lag(k:FD ρ q n ops l (i::s) a f)(E:i∉ix l)(hd:bT ops i=some d)(F:a.tmps[d]?=some v)(A:VR r v v')(p:ρ.Le r)(H:∀x,r.born x->ρ.born x∨gz ops a.tmps i x):
  FD r q n ops l s a (f.finish v'):=by
 obtain⟨J,L,M,N,O⟩:=k.todo
 rw[AV N];obtain⟨B,w⟩:=Me k.lin
 have kb:=k.base.mono p
 refine⟨⟨kb.fn,kb.defers,kb.mode,kb.kind,kb.round⟩,k.run,⟨J,L,M,rfl,O.mono fun _ _ x=>x.mono p⟩,k.ok,k.ord,w,k.lin.down k.down,fun j m=>k.lt j (List.mem_cons_of_mem _ m),fun j m=>?_,k.done,fun j m g=>k.eff j (List.mem_cons_of_mem _ m) g,?_,fun t Q=>?_,fun j m g b z=>?_,fun j m g R T C=>k.WR j (List.mem_cons_of_mem _ m) g R (List.mem_cons_of_mem _ T) C⟩
 ·exact(List.mem_cons.1 (k.sub j m)).resolve_left fun e=>E (e▸m)
 ·rw[hd];simpa [dP]using k.size
 ·rw[hd];show gu (VR r) a.tmps[t]? (f.tmps.setIfInBounds d v')[t]?;rw[Array.getElem?_setIfInBounds];by_cases e:d=t
  ·subst e;have D:d<f.tmps.size:=by rw[←k.size];exact(Array.getElem?_eq_some_iff.1 F).1
   rw[if_pos rfl,if_pos D,F];exact .some A
  ·rw[if_neg e];have:=k.tmps t fun j m g u=>by
     rcases List.mem_cons.1 m with rfl|m
     ·rw[hd]at u;cases u;exact e rfl
     ·exact Q j m g u
   revert this;generalize a.tmps[t]?=x
   generalize f.tmps[t]?=y
   intro this;cases this with
   | none=>exact .none
   | some x=>exact .some (x.mono p)
 ·obtain⟨U,V,W⟩:=k.bd j (List.mem_cons_of_mem _ m) g b z
  refine⟨U,V,fun x=>(H b x).elim W fun y=>?_⟩;have:=k.WR i (by simp) E j (List.mem_cons_of_mem _ m) g b y z
  subst this;exact B m
theorem yj{j:Nat}(k:jr ops=true){tm:Array Value}(u:j<ops.size)(n:i<ops.size)(hd:bT ops i=some d)(w:dep ops ops.size j i=false):wantedAt ops (tm.setIfInBounds d v) j=wantedAt ops tm j:=by
 unfold wantedAt;rw[yh u];dsimp only
 unfold Region.wanted;cases z:ops[j].guard with
 |none=>rfl
 |some p=>
  obtain⟨g,b⟩:=p
  dsimp only
  have m:=(lS k (yh u)).2 g b z;have x:g<ops.size:=Nat.lt_trans (BQ k u m) u
  have:yielded ops (tm.setIfInBounds d v) g=yielded ops tm g:=by
   unfold yielded;cases y:(ops[g]?).bind (·.dst)with
   | none=>rfl
   | some t=>
     simp only[Option.bind_some]
     rw[Array.getElem?_setIfInBounds,if_neg];intro e;subst e;have:=uy k x n y hd
     subst this;rw[w]at m;cases m
  rw[this]
theorem AX{j b:Nat}(g:jr ops=true){u:Array Value}(w:j<ops.size)(n:i<ops.size)(hd:bT ops i=some d)(m:dep ops ops.size j i=false)(p:j≠i)(k:gz ops (u.setIfInBounds d v) j b):gz ops u j b:=by
 obtain⟨A,x,t,y,z⟩:=k
 refine⟨A,by rw[yj g w n hd m]at x;exact x,t,y,?_⟩;rw[Array.getElem?_setIfInBounds,if_neg]at z
 ·exact z
 ·intro e;subst e;exact p (uy g w n y hd)
theorem jv:ix ((i,c)::l)=i::ix l:=rfl
theorem FD.ahead(k:FD ρ q n ops ((i,c)::l) s a f){F:List aV}(T:a.todo=.drawn ops ((i,c)::l)::F)(H:aK ops i≠.effect)(hd:bT ops i=some d)(U:n<=hi')(J:q<=n)
  (z:∀b,gz ops (a.tmps.setIfInBounds d v) i b->n<=b/\b<hi'/\¬ρ.born b):FD ρ q hi' ops l s {a with tmps:=a.tmps.setIfInBounds d v,todo:=.drawn ops l::F} f:=by
 obtain⟨k1,V,Q,W,X⟩:=k.todo
 rw[T]at Q;cases Q;obtain⟨Y,Z,o3,o4,o5,o6⟩:=kL k.ord
 have w:∀j,j∉ix l->j≠i->j∉ix ((i,c)::l):=fun j C D h3=>(List.mem_cons.1 h3).elim D C;have ne:∀j∈s,j∉ix l->∀b,gz ops (a.tmps.setIfInBounds d v) j b->j≠i->gz ops a.tmps j b:=fun j p u b g x=>
  AX k.ok (k.lt j p) Y hd (k.done j (k.lt j p) (w j u x) i (by simp[jv])) x g
 have bound:∀j∈s,j∉ix l->∀b,gz ops (a.tmps.setIfInBounds d v) j b->j≠i->q<=b/\b<n/\¬ρ.born b:=fun j p u b g x=>k.bd j p (w j u x) b (ne j p u b g x)
 refine⟨⟨k.base.fn,k.base.defers,k.base.mode,k.base.kind,k.base.round⟩,k.run,⟨F,V,rfl,W,X⟩,k.ok,o6,k.lin,k.down,k.lt,fun j p=>k.sub j (by rw[jv];exact List.mem_cons_of_mem _ p),fun j p u m y=>?_,fun j p u=>?_,by simpa using k.size,fun t R=>?_,fun j p u b g=>?_,fun j p u m y A b C D=>?_⟩
 ·by_cases e:j=i
  ·subst e;exact o3 m y
  ·exact k.done j p (w j u e) m (by rw[jv];exact List.mem_cons_of_mem _ y)
 ·by_cases e:j=i
  ·subst e;exact H
  ·exact k.eff j p (w j u e)
 ·show gu (VR ρ) (a.tmps.setIfInBounds d v)[t]? f.tmps[t]?;rw[Array.getElem?_setIfInBounds,if_neg (fun(e:d=t)=>R i (k.sub i (by simp[jv])) Z (e▸hd))];exact k.tmps t fun j p u=>R j p fun y=>u (by rw[jv];exact List.mem_cons_of_mem _ y)
 ·by_cases e:j=i
  ·subst e;obtain⟨L,M,N⟩:=z b g
   exact⟨Nat.le_trans J L,M,N⟩
  ·obtain⟨L,M,N⟩:=bound j p u b g e
   exact⟨L,Nat.lt_of_lt_of_le M U,N⟩
 ·by_cases E:j=i
  ·by_cases B:m=i
   · rw[E,B]
   · subst E;have:=(z b C).1;have:=(bound m y A b D B).2.1;omega
  ·by_cases B:m=i
   · subst B;have:=(z b D).1;have:=(bound j p u b C E).2.1;omega
   · exact k.WR j p (w j u E) m y (w m A B) b (ne j p u b C E) (ne m y A b D B)
theorem FD.effect(k:FD ρ q n ops ((i,c)::l) (i::s) a f){E:List aV}(N:a.todo=.drawn ops ((i,c)::l)::E)(O:VR ρ v v'):
  FD ρ q n ops l s {a with tmps:=dP a.tmps (bT ops i) v,todo:=.drawn ops l::E} (f.finish v'):=by
 obtain⟨k1,Q,M,R,T⟩:=k.todo
 rw[N]at M;cases M;rw[AV R];obtain⟨z,A⟩:=Me k.lin
 obtain⟨U,V,W,o4,o5,X⟩:=kL k.ord
 have u:∀j∈s,j∉ix l->j≠i/\j∉ix ((i,c)::l):=fun j h0 F=>⟨fun e=>z (e▸h0),fun H=>(List.mem_cons.1 H).elim (fun(e:j=i)=>z (e▸h0)) F⟩
 have ne:∀j∈s,j∉ix l->∀b,gz ops (dP a.tmps (bT ops i) v) j b->gz ops a.tmps j b:=fun j g p b w=>by
  cases hd:bT ops i with
  |none=>rw[hd]at w;exact w
  |some d=>rw[hd]at w;exact AX k.ok (k.lt j (List.mem_cons_of_mem _ g)) U hd (k.done j (k.lt j (List.mem_cons_of_mem _ g)) (u j g p).2 i (by simp[jv])) (u j g p).1 w
 refine⟨⟨k.base.fn,k.base.defers,k.base.mode,k.base.kind,k.base.round⟩,k.run,⟨E,Q,rfl,rfl,T⟩,k.ok,X,A,k.lin.down k.down,fun j g=>k.lt j (List.mem_cons_of_mem _ g),fun j g=>?_,fun j g p m x=>?_,fun j g p=>?_,?_,fun t Y=>?_,fun j g p b B=>?_,fun j g p m x C b F Z=>?_⟩
 ·exact(List.mem_cons.1 (k.sub j (by rw[jv];exact List.mem_cons_of_mem _ g))).resolve_left fun e=>V (e▸g)
 ·by_cases e:j=i
  ·subst e;exact W m x
  ·exact k.done j g (fun H=>(List.mem_cons.1 H).elim e p) m (by rw[jv];exact List.mem_cons_of_mem _ x)
 ·exact k.eff j (List.mem_cons_of_mem _ g) (u j g p).2
 ·cases bT ops i with
  |none=>exact k.size
  |some d=>simpa [dP]using k.size
 ·have y:(∀d,bT ops i=some d->d≠t)->gu (VR ρ) a.tmps[t]? f.tmps[t]?:=fun J=>k.tmps t fun j g p D=>by
   rcases List.mem_cons.1 g with rfl|g
   · exact J t D rfl
   · exact Y j g (fun x=>p (by rw[jv];exact List.mem_cons_of_mem _ x)) D
  cases hd:bT ops i with
  |none=>exact y fun d h=>by rw[hd]at h;cases h
  |some d=>
   show gu (VR ρ) (a.tmps.setIfInBounds d v)[t]? (f.tmps.setIfInBounds d v')[t]?;rw[Array.getElem?_setIfInBounds,Array.getElem?_setIfInBounds];by_cases e:d=t
   · subst e;rw[if_pos rfl,if_pos rfl,←k.size];split
     ·exact .some O
     ·exact .none
   · rw[if_neg e,if_neg e];exact y fun d' h=>by rw[hd]at h;cases h;exact e
 ·exact k.bd j (List.mem_cons_of_mem _ g) (u j g p).2 b (ne j g p b B)
 ·exact k.WR j (List.mem_cons_of_mem _ g) (u j g p).2 m (List.mem_cons_of_mem _ x) (u m x C).2 b (ne j g p b F) (ne m x C b Z)
theorem FD.eqs(b:vK ops ((i,c)::l)=true)(u:aK ops i≠.fO)(k:FD ρ q n ops l s a f)(w:recheck P ops c a.tmps h=true):Eqs P h ops l s a.tmps:=by
 intro j g t;obtain⟨C,D,E,F,x,H⟩:=kL b
 rcases x u j (k.lt j g) t (k.eff j g t)with m|⟨e,y,z,A,B⟩
 ·exact agn (List.all_eq_true.1 w j m)
 ·have p:e∉s:=fun m=>k.eff e m A z
  exact absurd g (k.down.anc (nJ k.ok) (Jt _ _ _ B) y p)
end
end Go.Am
namespace Go.Am
open Go.Ren (grow gU aT aB)
section
variable{P:Program}{d q:Env}{O O' D:Nat->Prop}{h s h₁:AH}{w w' w₁:World}{X:Event->Prop}{m p A F:Type}
theorem Out.H9{R:Env->m->p->Prop}{Q:Env->A->F->Prop}{i:Sem p}{e:p->Sem F}{a:m}{c:A}(l:Out P X D R d O h w i a h₁)
  (n:∀(q:Env) (b:p) (w₁:World),d.Le q->R q a b->Rel q (grow O w w₁) D h₁ w₁->Out P X D Q q (grow O w w₁) h₁ w₁ (e b) c s):Out P X D Q d O h w (i.bind e) c s:=by
 obtain⟨q,b,w₁,o,r,j,t,u,v,x,y⟩:=l
 refine Out.then (h₁:=h₁) (s₁:=e b) (es₁:=o) (fun g=>?_) j v x y (n q b w₁ j t u);rw[Sem.runT_bind',r]
theorem Out.same{R:Env->m->p->Prop}{s' c:Sem p}{a:m}(e:∀w es,s'.runT P w es=c.runT P w es)(k:Out P X D R d O h w c a s):Out P X D R d O h w s' a s:=by
 obtain⟨q,b,w₁,es,g,i⟩:=k
 exact⟨q,b,w₁,es,fun f=>by rw[e,g],i⟩
theorem Out.MB{R:Env->m->p->Prop}{a:m}{b:p}(r:Rel d O D h w)(e:R d a b):Out P X D R d O h w (.pure b) a h:=
 ⟨d,b,w,#[],fun c=>by simp only[Sem.runT,Array.append_empty],.refl d,e,r.mono fun _=>.inl,.none w,Nat.le_refl _,fun x=>⟨.inl,fun h=>h.elim id fun x=>absurd x.1 (by omega)⟩⟩
def Pu(P:Program)(x:Sem m)(a:m):Prop:=∀w b,x.runT P w b=(.ok a w,b)
theorem Pu.pure(a:m):Pu P (Sem.pure a) a:=fun w b=>by simp only[Sem.runT]
theorem Pu.aU(a:m):Pu P (Pure.pure a:Sem m) a:=Pu.pure a
theorem Pu.run{x:Sem m}{a:m}(h:Pu P x a)(f:m->Sem p)(w:World)(b:Array Event):(x>>=f).runT P w b=(f a).runT P w b:=by
 show(x.bind f).runT P w b=_
 rw[Sem.runT_bind',h]
theorem Pu.bind{x:Sem m}{a:m}{f:m->Sem p}{b:p}(h:Pu P x a)(k:Pu P (f a) b):Pu P (x>>=f) b:=fun w c=>by rw[h.run,k]
theorem EH:Pu P program P:=fun w a=>rfl
theorem uY{t:TypeId}{i:TypeInfo}(h:P.info? t=some i):Pu P (typeInfo t) i:=by
 unfold typeInfo;refine EH.bind ?_;rw[h];exact .aU i
theorem EI{t:TypeId}{u:TypeDesc}(h:P.underlying t=some u):Pu P (underlying t) u:=by
 unfold underlying;refine EH.bind ?_;rw[h];exact .aU u
theorem Ut{t:TypeId}{i:TypeInfo}(h:P.info? t=some i):Pu P (sizeOf t) i.size:=by
 unfold sizeOf;exact(uY h).bind (.aU _)
theorem JM{t:TypeId}{i:TypeInfo}{z:Value}(h:P.info? t=some i)(a:i.zero=some z):Pu P (zeroValue t) z:=by
 unfold zeroValue;refine(uY h).bind ?_;rw[a];exact .aU z
def flat:Value->Bool
 | .agg _|.tuple _=>false
 |_=>true
theorem agq{v a:Value}(h:VR d v a)(k:flat v=true):flat a=true:=by cases h<;>first|rfl|cases k
theorem uA{T off:Nat}:∀(vs:List Value) (i:Nat) {w:World} {C:Array Value} {E:TypeId},w.heap[T]?=some (.cells C E (0,0))->off+i+vs.length<=C.size->(∀v∈vs,flat v=true)->
  ∃(w':World) (u:Array Event) (k:Array Value),(∀a,(storeCells ⟨T,off,none⟩ vs i).runT P w a=(.ok () w',a++u))/\w'.heap[T]?=some (.cells k E (0,0))/\k.size=C.size/\
   (∀j,k[j]?=if off+i<=j/\j<off+i+vs.length then vs[j-(off+i)]? else C[j]?)/\(∀c,c≠T->w'.heap[c]?=w.heap[c]?)/\w'.heap.size=w.heap.size/\w'.os=w.os/\w'.output=w.output/\w'.tape=w.tape/\
   ∀e∈u,∃o,e.loc=.cell ⟨T,o,none⟩
 | [],i,w,C,E,l,n,y=>⟨w,#[],C,fun a=>by simp[storeCells,pure,Sem.runT,-Sem.runT_eq],l,rfl,fun j=>by rw[if_neg (fun L=>by have M:=L.1;have z:=L.2;simp only[List.length_nil]at z;omega)],fun _ _=>rfl,rfl,rfl,rfl,rfl,fun e b=>by simp at b⟩
 |v::vs,i,w,C,E,l,n,y=>by
  simp only[List.length_cons]at n;have r:(⟨T,off,none⟩:Addr).add i=⟨T,off+i,none⟩:=by
   unfold Addr.add;split
   · rename_i h0;subst h0;rfl
   · rfl
  have f:w.cell? ⟨T,off+i,none⟩=some C[off+i]:=by
   unfold World.cell?;dsimp only
   rw[l];simp
  have t:w.frozen? ⟨T,off+i,none⟩=false:=by
   unfold World.frozen?;dsimp only
   rw[l];simp
  have g:(w.setCell ⟨T,off+i,none⟩ v).heap[T]?=some (.cells (C.setIfInBounds (off+i) v) E (0,0)):=by
   unfold World.setCell;dsimp only
   rw[Array.getElem?_modify,if_pos rfl,l];simp
  obtain⟨w',u,k,M,z,R,U,V,W,Y,Z,h9,B⟩:=uA (off:=off) vs (i+1) g (by simp;omega) (fun x hx=>y x (by simp[hx]))
  have H:=y v (by simp)
  refine⟨w',#[⟨.cell ⟨T,off+i,none⟩,true,Mode.plain==Mode.atomic⟩]++u,k,fun a=>?_,z,by rw[R];simp,fun j=>?_,fun c N=>?_,by rw[W];simp[World.setCell],Y,Z,h9,fun e b=>?_⟩
  ·have:storeCells ⟨T,off,none⟩ (v::vs) i=(store ((⟨T,off,none⟩:Addr).add i) v).bind fun _=>storeCells ⟨T,off,none⟩ vs (i+1):=rfl
   rw[this,r,Sem.runT_bind'];have J:(store ⟨T,off+i,none⟩ v).runT P w a=(.ok () (w.setCell ⟨T,off+i,none⟩ v),a.push ⟨.cell ⟨T,off+i,none⟩,true,Mode.plain==Mode.atomic⟩):=by unfold store;cases v<;>first|(cases H;done)|simp only[Sem.runT,f,t]<;>rfl
   rw[J];dsimp only
   rw[M,←Array.append_assoc];simp
  ·rw[U,Array.getElem?_setIfInBounds];by_cases e1:j=off+i
   · subst e1;rw[if_neg (by omega),if_pos rfl,if_pos (by omega),if_pos (by simp)];simp
   · by_cases Q:off+(i+1)<=j/\j<off+(i+1)+vs.length
     ·rw[if_pos Q,if_pos (by simp;omega)];have:j-(off+i)=(j-(off+(i+1)))+1:=by omega
      rw[this,List.getElem?_cons_succ]
     ·rw[if_neg Q,if_neg (by omega),if_neg (by simp;omega)]
  ·rw[V c N];unfold World.setCell;dsimp only
   rw[Array.getElem?_modify,if_neg (fun e=>N e.symm)]
  ·rcases Array.mem_append.1 b with b|b
   · simp only[List.mem_toArray,List.mem_singleton]at b;subst b;exact⟨_,rfl⟩
   · exact B e b
def AH.join(h:AH)(f:Nat)(l:List Nat)(o:Obj)(u:Nat):AH:={n:=h.n+1,tr:=h.tr.set h.n ⟨o,some f,false,u⟩,dn:=h.dn.set f (l++[h.n])}
theorem yl{f:Nat}{l:List Nat}{o:Obj}{u x:Nat}:(h.join f l o u).tr.get x=if x=h.n then some ⟨o,some f,false,u⟩else h.tr.get x:=by simp only[AH.join,Tr.dW]
theorem qC{f g:Nat}{l:List Nat}{o:Obj}{u:Nat}:(h.join f l o u).dn.get g=if g=f then some (l++[h.n])else h.dn.get g:=by simp only[AH.join,Tr.dW]
theorem WS{f:Nat}{l:List Nat}{o:Obj}{u:Nat}:(h.join f l o u).look h.n=some ⟨o,some f,false,u⟩:=by
 unfold AH.look;rw[yl,if_pos rfl];dsimp only
 rw[qC,if_pos rfl];simp
theorem JO{f:Nat}{l:List Nat}{o:Obj}{u x:Nat}{B:cZ}(b:x≠h.n)(j:∀y∈l,y∈(h.dn.get f).getD [])(k:(h.join f l o u).look x=some B):h.look x=some B/\(B.gB=some f->x∈l):=by
 have c:=gy k
 rw[yl,if_neg b]at c;have i:∀g,B.gB=some g->g=f->x∈l:=fun g r e=>by
  have:=rZ k r
  rw[qC,if_pos e]at this;simp only[Option.getD_some,List.mem_append,List.mem_singleton]at this;exact this.resolve_right b
 refine⟨?_,fun a=>i f a rfl⟩;unfold AH.look;rw[c];dsimp only
 cases a:B.gB with
 |none=>rfl
 |some g=>
  dsimp only
  by_cases e:g=f
  ·subst e;rw[if_pos (by simpa using j x (i g a rfl))]
  ·have:=rZ k a
   rw[qC,if_neg e]at this;rw[if_pos (by simpa using this)]
theorem Rel.join(r:Rel d O D h w){f:Nat}{l:List Nat}{cs:Array Value}{e:TypeId}{u T off ext:Nat}
  (H:l.Sublist ((h.dn.get f).getD [])) (hO:∀b,O b->O' b) (a7:O' T) (a3:w.heap.size<=w'.heap.size) (M:∀c,c≠T->c<w.heap.size->w'.heap[c]?=w.heap[c]?)
  (hT:∃C E,w'.heap[T]?=some (.cells C E (0,0))/\off+ext<=C.size/\cs.size<=ext/\∀(i:Nat) v,cs[i]?=some v->∃U,C[off+i]?=some U/\VR d v U)
  (N:∀x B,d.born x->h.look x=some B->(d.to x).1=T->B.gB=some f/\∃c e' g,B.obj=.cells c e' g)
  (a8:∀x∈l,d.born x->(d.to x).1=T->∀n,h.upTo d x n->n<=off+cs.size)
  (a4:∀x B c e' g,d.born x->h.look x=some B->x∈l->(d.to x).1=T->B.obj=.cells c e' g->∃C E g',w'.heap[T]?=some (.cells C E g')/\(d.to x).2+d.ext x<=C.size/\c.size<=d.ext x/\(¬B.Xc->g'=(0,0))/\∀(i:Nat) v,c[i]?=some v->∃U,C[(d.to x).2+i]?=some U/\VR d v U):
  Rel (d.add h.n (T,off) True u ext) O' D (h.join f l (.cells cs e (0,0)) u) w':=by
 have b3:¬d.born h.n:=fun V=>Nat.lt_irrefl _ (r.fresh _ V)
 have a5:d.Le (d.add h.n (T,off) True u ext):=Env.jA b3
 have a9:∀y∈l,y∈(h.dn.get f).getD []:=fun y L=>H.subset L
 have b0:∀y∈l,y<h.n/\∃B,h.tr.get y=some B/\B.gB=some f:=fun y L=>by
  have:=a9 y L
  cases hg:h.dn.get f with
  |none=>rw[hg]at this;simp at this
  |some Q=>rw[hg]at this;exact r.mem f Q hg y this
 have k:∀x,x≠h.n->(d.add h.n (T,off) True u ext).born x->d.born x:=fun x j V=>V.resolve_left j
 have lk:∀x B,x≠h.n->(h.join f l (.cells cs e (0,0)) u).look x=some B->h.look x=some B/\(B.gB=some f->x∈l):=fun x B j=>JO j a9
 have a0:∀B,(h.join f l (.cells cs e (0,0)) u).look h.n=some B->B=⟨.cells cs e (0,0),some f,false,u⟩:=fun B hB=>by rw[WS]at hB;cases hB;rfl
 have a1:∀x n,x≠h.n->(h.join f l (.cells cs e (0,0)) u).upTo (d.add h.n (T,off) True u ext) x n->h.upTo d x n:=by rintro x n j ⟨B,c,e',g,h1,h2,h3⟩;rw[yl,if_neg j]at h1;rw[ax j]at h3;exact⟨B,c,e',g,h1,h2,h3⟩
 refine⟨fun x B c e' g j R o=>?_,fun x B j R o=>?_,fun x B j R=>?_,fun x y B B' j L R a6 J W=>?_,fun x j=>?_,fun x j=>?_,fun x B j R=>?_,fun g Q Y=>?_,fun g Q Y x hm=>?_⟩
 ·by_cases a:x=h.n
  ·subst a;have:=a0 B R
   subst this;cases o;rw[dA,uD];obtain⟨C,E,h1,h2,h3,h4⟩:=hT
   exact⟨C,E,(0,0),h1,h2,h3,fun _=>rfl,fun i v hv=>by obtain⟨U,t,Z⟩:=h4 i v hv;exact⟨U,t,Z.mono a5⟩⟩
  ·obtain⟨t,Z⟩:=lk x B a R
   have V:=k x a j
   rw[ax a,qE a];have b4:(∃C E g',w'.heap[(d.to x).1]?=some (.cells C E g')/\(d.to x).2+d.ext x<=C.size/\c.size<=d.ext x/\(¬B.Xc->g'=(0,0))/\∀(i:Nat) v,c[i]?=some v->∃U,C[(d.to x).2+i]?=some U/\VR d v U):=by
     by_cases et:(d.to x).1=T
     ·rw[et];exact a4 x B c e' g V t (Z (N x B V t et).1) et o
     ·rw[M _ et (r.low x V)];exact r.cells x B c e' g V t o
   obtain⟨C,E,g',f1,f2,f3,f4,f5⟩:=b4
   exact⟨C,E,g',f1,f2,f3,f4,fun i v hv=>by obtain⟨U,t,Z⟩:=f5 i v hv;exact⟨U,t,Z.mono a5⟩⟩
 ·by_cases a:x=h.n
  ·subst a;have:=a0 B R
   subst this;exact absurd rfl (o _ _ _)
  ·obtain⟨t,Z⟩:=lk x B a R
   have V:=k x a j
   rw[ax a];have et:(d.to x).1≠T:=fun et=>by
     obtain⟨_,c,e',g,hc⟩:=N x B V t et
     exact o _ _ _ hc
   rw[M _ et (r.low x V)];obtain⟨o1,o',o2,o3⟩:=r.obj x B V t o
   exact⟨o1,o',o2,o3.mono a5⟩
 ·by_cases a:x=h.n
  ·subst a;rw[dA];exact⟨fun _=>a7,.inl a7⟩
  ·obtain⟨t,Z⟩:=lk x B a R
   rw[ax a];have:=r.own x B (k x a j) t
   exact⟨fun z=>hO _ (this.1 z),this.2.imp (hO _) id⟩
 ·by_cases a:x=h.n
  ·subst a;have:=a0 B R
   subst this;have ey:y≠h.n:=fun e=>J e.symm
   obtain⟨t,Z⟩:=lk y B' ey a6
   rw[dA,ax ey]at W;exact .inl ⟨f,rfl,(N y B' (k y ey L) t W.symm).1⟩
  ·obtain⟨t,Z⟩:=lk x B a R
   by_cases ey:y=h.n
   · subst ey;have:=a0 B' a6
     subst this;rw[dA,ax a]at W;exact .inl ⟨f,(N x B (k x a j) t W).1,rfl⟩
   · obtain⟨j1,j2⟩:=lk y B' ey a6
     rw[ax a,ax ey]at W;exact r.sep x y B B' (k x a j) (k y ey L) t j1 J W
 ·rcases j with rfl|j
  ·exact Nat.lt_succ_self _
  ·exact Nat.lt_succ_of_lt (r.fresh x j)
 ·by_cases a:x=h.n
  ·subst a;rw[dA];obtain⟨C,E,h1,_⟩:=hT
   exact(Array.getElem?_eq_some_iff.1 h1).1
  ·rw[ax a];exact Nat.lt_of_lt_of_le (r.low x (k x a j)) a3
 ·by_cases a:x=h.n
  ·subst a;have:=a0 B R
   subst this;exact⟨nM.trans ⟨fun _=>by simp,fun _=>trivial⟩,fun _=>Ko⟩
  ·obtain⟨t,Z⟩:=lk x B a R
   have:=r.bg x B (k x a j) t
   exact⟨(ni a).trans this.1,fun z=>(wZ a).trans (this.2 z)⟩
 ·rw[qC]at Y;have a2:∀(Q:List Nat),(∀y∈Q,y≠h.n)->(Q.Pairwise fun b b'=>d.born b->d.born b'->(d.to b).1=(d.to b').1->∀n n',h.upTo d b n->h.upTo d b' n'->n<=n')->
     Q.Pairwise fun b b'=>(d.add h.n (T,off) True u ext).born b->(d.add h.n (T,off) True u ext).born b'->((d.add h.n (T,off) True u ext).to b).1=((d.add h.n (T,off) True u ext).to b').1->∀n n',(h.join f l (.cells cs e (0,0)) u).upTo (d.add h.n (T,off) True u ext) b n->(h.join f l (.cells cs e (0,0)) u).upTo (d.add h.n (T,off) True u ext) b' n'->n<=n':=by
   intro Q J hp;refine List.Pairwise.imp_of_mem (fun{x y} j L hp b1 b2 W n n' u1 u2=>?_) hp;have a:=J x j
   have ey:=J y L
   rw[ax a,ax ey]at W;exact hp (k x a b1) (k y ey b2) W n n' (a1 x n a u1) (a1 y n' ey u2)
  by_cases eg:g=f
  ·subst eg;rw[if_pos rfl]at Y;cases Y;have J:∀y∈l,y≠h.n:=fun y L e=>by have:=(b0 y L).1;omega
   refine List.pairwise_append.2 ⟨a2 l J ?_,List.pairwise_singleton _ _,fun x j y L=>?_⟩
   · cases hg:h.dn.get g with
     |none=>rw[hg]at H;simp at H;subst H;exact List.Pairwise.nil
     |some Q=>rw[hg]at H;exact(r.row g Q hg).sublist H
   · simp only[List.mem_singleton]at L;subst L;intro b1 b2 W n n' u1 u2;have a:=J x j
     rw[dA,ax a]at W;have:=a8 x j (k x a b1) W n (a1 x n a u1)
     obtain⟨B,c,e',g',t,Z,k3⟩:=u2
     rw[yl,if_pos rfl]at t;cases t;cases Z;rw[dA]at k3;dsimp only at k3;omega
  ·rw[if_neg eg]at Y;exact a2 Q (fun y L e=>by have:=(r.mem g Q Y y L).1;omega) (r.row g Q Y)
 ·rw[qC]at Y;rw[yl];by_cases eg:g=f
  ·subst eg;rw[if_pos rfl]at Y;cases Y;simp only[List.mem_append,List.mem_singleton]at hm;rcases hm with hm|rfl
   · obtain⟨m1,B,m2,m3⟩:=b0 x hm
     exact⟨Nat.lt_succ_of_lt m1,B,by rw[if_neg (by omega)];exact m2,m3⟩
   · exact⟨Nat.lt_succ_self _,_,if_pos rfl,rfl⟩
  ·rw[if_neg eg]at Y;obtain⟨m1,B,m2,m3⟩:=r.mem g Q Y x hm
   exact⟨Nat.lt_succ_of_lt m1,B,by rw[if_neg (by omega)];exact m2,m3⟩
end
end Go.Am
