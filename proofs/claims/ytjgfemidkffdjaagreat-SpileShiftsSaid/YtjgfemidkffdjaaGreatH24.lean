import Derived.Test.YtjgfemidkffdjaaGreatProg
import Derived.KernelRfl
import Derived.Test.YtjgfemidkffdjaaGreatH15
import Derived.Test.YtjgfemidkffdjaaGreatH16
import Derived.Test.YtjgfemidkffdjaaGreatH23
set_option linter.all false
namespace Go.Am
abbrev zJ(x:Int):Value:=.int .i64 x
abbrev zN(n:Nat):Value:=.int .i64 (.ofNat n)
abbrev zS(b n c:Nat):Value:=.slice (some ⟨b,0,none⟩) n c
abbrev zP(b n:Nat):Value:=.pointer (some ⟨b,n,none⟩)
abbrev zT:Value:=.bool true
abbrev zF:Value:=.bool false
noncomputable def leB(a:Nat):Nat->Bool:=Nat.rec (motive:=fun _=>Nat->Bool) (fun _=>true) (fun _ c b=>Nat.rec (motive:=fun _=>Bool) false (fun m _=>c m) b) a
theorem Je:∀{a b:Nat},leB a b=true->a<=b
 |0,_,_=>Nat.zero_le _
 |a+1,0,h=>by cases h
 |a+1,b+1,h=>Nat.succ_le_succ (Je (a:=a) (b:=b) h)
noncomputable def bdF(a:List Value):Option Operand->Nat->Option Nat
 |none,d=>some d
 |some x,_=>match vk a x with
  |some (.int _ (.ofNat k))=>some k
  |_=>none
noncomputable def slF(T:Tr TI)(h:AH)(a:List Value)(op:Op):Option Value:=match op with
 | .slice t x f g none=>match vk a x with
  |some (.slice (some ⟨b,d,none⟩) n c)=>match T.get t with
   |some ⟨_,.slice e,_,_⟩=>match T.get e with
    |some ⟨i,_,_,_⟩=>match h.look b with
     |some ⟨_,none,_,_⟩=>match bdF a f 0,bdF a g n with
      |some l,some u=>bif leB l u&&(leB u c&&leB n c)then some (.slice (some (bif Nat.beq c l then⟨b,d,none⟩else⟨b,d+l*i,none⟩)) (u-l) (c-l))else none
      |_,_=>none
     |_=>none
    |none=>none
   |_=>none
  |_=>none
 |_=>none
theorem Y3{v:Value}{x:Operand}{tmps:Array Value}(e:vk tmps.toList x=some v):ay tmps x=v:=(jZ (tmps:=tmps.toList) e).1
theorem OA(b a k:Nat):(⟨b,a,none⟩:Addr).add k=⟨b,a+k,none⟩:=by
 unfold Addr.add;split
 ·rename_i h;rw[h];rfl
 ·rfl
section
variable{P:Program}{T:Tr TI}{h:AH}{a:Array Value}{o:Oper}{v:Value}
open Instr
theorem Y4{b:IntKind}{k y:Nat}{code:BoundsCode}(c:k<=y):(sliceBound (.int b (.ofNat k)) y code).fJ P h=some k:=by
 unfold sliceBound;rw[aC (show(asIntOf (.int b (.ofNat k))).fJ P h=some (b,.ofNat k)from rfl)];dsimp only
 rw[if_pos ⟨Int.natCast_nonneg k,Int.ofNat_le.2 c⟩];rfl
theorem Jf{x:Operand}{d w y:Nat}{code:BoundsCode}(e:bdF a.toList (some x) d=some w)(b:w<=y):(sliceBound (ay a x) y code).fJ P h=some w:=by
 unfold bdF at e;dsimp only at e;split at e
 ·rename_i f k c;cases e;rw[Y3 c];exact Y4 b
 ·cases e
theorem Vm{n c l u:Nat}{b f:Option Operand}(d:bdF a.toList b 0=some l)(g:bdF a.toList f n=some u)(i:l<=u)(j:u<=c):
  (sliceBounds true n c (b.map (ay a)) (f.map (ay a)) none).fJ P h=some (l,u,c):=by
 unfold sliceBounds;dsimp only
 rw[aC (iZ c)];cases f with
 |none=>
  have e:n=u:=Option.some.inj g
  subst e;rw[Option.map_none];dsimp only
  rw[aC (iZ n)];cases b with
  |none=>
   have e:0=l:=Option.some.inj d
   subst e;rw[Option.map_none];dsimp only
   rw[aC (iZ 0)];rfl
  |some x=>
   rw[Option.map_some];dsimp only
   rw[aC (Jf d i)];rfl
 |some y=>
  rw[Option.map_some];dsimp only
  rw[aC (Jf g j)];cases b with
  |none=>
   have e:0=l:=Option.some.inj d
   subst e;rw[Option.map_none];dsimp only
   rw[aC (iZ 0)];rfl
  |some x=>
   rw[Option.map_some];dsimp only
   rw[aC (Jf d i)];rfl
theorem Y5(K:aZ P T)(e:slF T h a.toList o.op=some v):bM o=false/\lX P h (ay a) o=true/\(execOp (ay a) o).fJ P h=some (.value v):=by
 unfold slF at e;split at e
 ·rename_i t x s w f;split at e
  ·rename_i b g n c y;have q:=Y3 y
   split at e
   ·rename_i N O Q R z;split at e
    ·rename_i A U V r m;split at e
     ·rename_i B W X C;split at e
      ·rename_i l u D E;cases d:(leB l u&&(leB u c&&leB n c))with
       |false=>rw[d]at e;cases e
       |true=>
        rw[d]at e;cases e;simp only[Bool.and_eq_true]at d;replace d:=(⟨Je d.1,Je d.2.1,Je d.2.2⟩:l<=u/\u<=c/\n<=c)
        obtain⟨F,H,J⟩:=d
        have i:=(K.get _ _ z).1;obtain⟨L,p,k⟩:=(K.get _ _ m).2.1;dsimp only at k;refine⟨by unfold bM;rw[f],?_,?_⟩
        ·unfold lX;rw[f];dsimp only
         rw[q];unfold TW;rw[i];dsimp only
         rw[C];simp[J]
        ·unfold execOp;rw[f];dsimp only
         rw[q];have:(Instr.sliceAt t (.slice (some ⟨b,g,none⟩) n c) (s.map (ay a)) (w.map (ay a)) none).fJ P h=some (.slice (some (bif Nat.beq c l then⟨b,g,none⟩else⟨b,g+l*A,none⟩)) (u-l) (c-l)):=by
          unfold Instr.sliceAt;rw[aC (eu i)];dsimp only
          unfold Instr.slice;rw[aC (eu i)];dsimp only
          rw[aC (Vm D E F H)];dsimp only
          rw[aC (qI p),k];rw[iZ];by_cases j:c=l
          ·subst j;rw[if_pos rfl,show Nat.beq c c=true from Nat.beq_refl c];rfl
          ·rw[if_neg j,show Nat.beq c l=false from by cases M:Nat.beq c l with|false=>rfl|true=>exact absurd (Nat.eq_of_beq_eq_true M) j];rw[Option.map_some,OA];rfl
         exact aC this
      ·cases e
     ·cases e
    ·cases e
   ·cases e
  ·cases e
 ·cases e
noncomputable def eqF(P:Program)(T:Tr TI)(h:AH)(b:Array Oper)(a:Array Value)(i:Nat):Bool:=match nth b.toList i with
 |some o=>match slF T h a.toList o.op with
  |some v=>match o.dst with
   |some d=>match nth a.toList d with
    |some w=>bC o&&Region.wanted o (yielded b a)&&decide (kindOf o=.fO)&&jl 9 w v
    |none=>false
   |none=>false
  |none=>eqB P h b a i
 |none=>false
theorem afI(K:aZ P T){b:Array Oper}{i:Nat}(k:eqF P T h b a i=true):eqB P h b a i=true:=by
 unfold eqF at k;split at k
 ·rename_i o g;rw[jY,show((⟨b.toList⟩:Array Oper))=b from rfl]at g;split at k
  ·rename_i v e;split at k
   ·rename_i d hd;split at k
    ·rename_i w j;rw[jY,show((⟨a.toList⟩:Array Value))=a from rfl]at j;simp only[Bool.and_eq_true]at k;obtain⟨⟨⟨l,m⟩,p⟩,q⟩:=k
     obtain⟨_,r,s⟩:=Y5 K e
     have f:gK P h a o=some v:=by unfold gK;rw[if_pos (by rw[l,r];rfl),s]
     unfold eqB;rw[g];dsimp only
     rw[hd];dsimp only
     rw[j];dsimp only
     rw[m];dsimp only
     split
     ·rename_i t c;rw[c]at e;cases e
     ·rename_i t n u c;rw[c]at e;cases e
     ·rw[p,f];exact q
    ·cases k
   ·cases k
  ·exact k
 ·cases k
noncomputable def uf(P:Program)(T:Tr TI)(b:Array Oper)(c:List Nat)(a:Array Value)(h:AH):Bool:=c.all (eqF P T h b a)
theorem ug(K:aZ P T){b:Array Oper}{c:List Nat}(k:uf P T b c a h=true):recheck P b c a h=true:=by
 unfold uf at k;unfold recheck;rw[List.all_eq_true]at k⊢;exact fun x d=>afI K (k x d)
end
end Go.Am
namespace Go.Am
section
variable{P:Program}{h:AH}{T:Tr TI}
noncomputable def ait(T:Tr TI)(xs:List Value)(a:List Field):Bool:=a.all fun f=>match T.get f.type,nth xs f.offset with
 |some ⟨_,.int _,_,_⟩,some (.int _ _)=>true
 |_,_=>false
noncomputable def eqT(P:Program)(T:Tr TI)(t:Nat)(xs:Array Value):Bool:=iQ 9 (.agg xs)&&match T.get t with
 |some ⟨_,.struct a,_,_⟩=>(!P.stoodInHeld t&&!P.eqGuardType P.depth t)&&ait T xs.toList a.toList
 |_=>false
theorem LM{c b:Type}(f:c->b->Sem (ForInStep b)):∀(xs:List c) (a:b),(∀x∈xs,(f x a).fJ P h=some (.yield a))->(forIn xs a f).fJ P h=some a
 | [],a,_=>by rw[List.forIn_nil];rfl
 |x::xs,a,d=>by
  rw[List.forIn_cons,aC (d x (by simp))];exact LM f xs a fun y e=>d y (by simp[e])
theorem LP{t:TypeId}{c k:IntKind}{n:Int}{xs:Array Value}{a:Nat}(b:P.underlying t=some (.int c))(d:xs[a]?=some (.int k n)):(part t xs a).fJ P h=some (.int k n):=by
 unfold part;have:(isAgg t).fJ P h=some false:=by
  unfold isAgg;rw[aC (eu b)];rfl
 rw[aC this];simp only[Bool.false_eq_true,if_false]
 rw[d];rfl
theorem afK{t:TypeId}{c k:IntKind}{a:Int}{n:Nat}(b:P.underlying t=some (.int c)):(Op.equalIn (n+1) t (.int k a) (.int k a)).fJ P h=some true:=by
 unfold Op.equalIn;rw[aC (eu b)];dsimp only
 rw[if_pos rfl,beq_self_eq_true];rfl
theorem afL(K:aZ P T){t:Nat}{xs:Array Value}(e:eqT P T t xs=true):(Op.equal t (.agg xs) (.agg xs)).fJ P h=some true:=by
 unfold eqT at e;rw[Bool.and_eq_true]at e;obtain⟨_,e⟩:=e
 split at e
 ·rename_i r s z j l;rw[Bool.and_eq_true]at e;obtain⟨d,m⟩:=e
  have b:=(K.get _ _ l).1;rw[Bool.and_eq_true]at d;have o:P.stoodInHeld t=false:=by simpa using d.1
  unfold Op.equal Op.maxDepth;unfold Op.equalIn;rw[aC (eu b)];dsimp only
  rw[aC (show(program:Sem Program).fJ P h=some P from rfl)];rw[o];simp only[Bool.false_eq_true,if_false]
  refine Eq.trans (aC (x:=(none,PUnit.unit)) ?_) rfl;rw[←Array.forIn_toList];refine LM _ _ _ fun f p=>?_
  have g:=List.all_eq_true.1 m f p;split at g
  ·rename_i u v w y k n q i;have c:=(K.get _ _ q).1;rw[ja]at i;have a:xs[f.offset]?=some (.int k n):=by rw[←Array.getElem?_toList];exact i
   split
   ·rw[aC (LP c a),aC (LP c a),aC (afK c)];rfl
   ·rfl
  ·cases g
 ·cases e
theorem Y6(K:aZ P T){t:Nat}{x y:Operand}{xs:Array Value}(e:eqT P T t xs=true):(do eqGuard .eql t x y (.agg xs) (.agg xs);binOp .eql t (.agg xs) (.agg xs):Sem Value).fJ P h=some (.bool true):=by
 have b:(eqGuard .eql t x y (.agg xs) (.agg xs)).fJ P h=some ():=by
  have a:=e
  unfold eqT at a;rw[Bool.and_eq_true]at a;obtain⟨_,a⟩:=a
  split at a
  ·rw[Bool.and_eq_true,Bool.and_eq_true]at a;have c:P.eqGuardType P.depth t=false:=by simpa using a.1.2
   unfold eqGuard;simp only[Bool.not_true,Bool.false_eq_true,if_false]
   rw[aC (show(program:Sem Program).fJ P h=some P from rfl),aC (show(program:Sem Program).fJ P h=some P from rfl),c];rfl
  ·cases a
 rw[aC b];unfold binOp;dsimp only
 rw[aC (afL K e)];rfl
end
end Go.Am
namespace Go.Am
inductive HT where
 |no
 |ret (n m:Nat)
 |cut (n m:Nat)
 |br (n m t:Nat) (a b:HT)
 |val (n m t:Nat) (k:HT)
 |JZ (n m t:Nat) (c:Int) (a b:HT)
 |ov (n m:Nat) (k:HT)
 |lod (n m:Nat) (κ:IntKind) (k:HT)
 |aiu (n m:Nat) (k:HT)
 |TY (n m i:Nat) (k:HT)
 |rk (n m:Nat) (k:HT)
 |cas (n m t:Nat) (v:Value) (a b:HT)
abbrev HT.call(n m:Nat)(k:HT):HT:=.TY n m 0 k
noncomputable section
structure TX where
 P:Program
 T:Tr TI
 Fu:Tr Func
 Γ:Nat->FuncId->Array Value->AH->(Value->Prop)->Prop
variable(X:TX)
def rW(n m:Nat)(s:AS):Option AS:=match CY X.P plan X.T X.Fu n s with
 |some (.go a)=>match vZ X.P plan m a with
  |some (.go b)=>some b
  |_=>none
 |_=>none
def aiv(n m:Nat)(s:AS):Option Value:=match CY X.P plan X.T X.Fu n s with
 |some (.go a)=>match vZ X.P plan m a with
  |some (.ret v _)=>some v
  |_=>none
 |_=>none
def OB(s:AS)(t:Nat)(v:Value):AS:=rY v s.fr.tmps.toList t fun l=>⟨⟨s.fr.fn,⟨l⟩,s.fr.todo,s.fr.defers,s.fr.ret,s.fr.round,s.fr.dk⟩,s.cs,s.h⟩
def BR(c:Bool)(A B:Prop):Prop:=(c=true->A)/\(c=false->B)
def RK(c:Bool)(A:Prop):Prop:=c=true/\A
def SP(e c:Int)(A B:Prop):Prop:=(e=c->A)/\(¬e=c->B)
def CS(p A B:Prop):Prop:=(p->A)/\(¬p->B)
def opQ(s:AS):Option Oper:=match s.fr.ret,s.fr.todo with
 |false,.region a (i::_)::_=>match nth a.toList i with
  |some o=>if Region.wanted o (yielded a s.fr.tmps)&&bC o then some o else none
  |none=>none
 |false,.drawn a ((i,_)::_)::_=>match nth a.toList i with
  |some o=>if Region.wanted o (yielded a s.fr.tmps)&&bC o&&decide (aK a i=.fO)then some o else none
  |none=>none
 |_,_=>none
def OC(s:AS)(v:Value):Option AS:=match s.fr.todo with
 | .region a (i::l)::k=>match nth a.toList i with
  |some o=>match o.dst with
   |some d=>some (rY v s.fr.tmps.toList d fun t=>⟨⟨s.fr.fn,⟨t⟩,.region a l::k,s.fr.defers,s.fr.ret,s.fr.round,s.fr.dk⟩,s.cs,s.h⟩)
   |none=>none
  |none=>none
 | .drawn a ((i,_)::l)::k=>match nth a.toList i with
  |some o=>match o.dst with
   |some d=>bif Nat.blt d s.fr.tmps.toList.length then some (rY v s.fr.tmps.toList d fun t=>⟨⟨s.fr.fn,⟨t⟩,.drawn a l::k,s.fr.defers,s.fr.ret,s.fr.round,s.fr.dk⟩,s.cs,s.h⟩)else none
   |none=>none
  |none=>none
 |_=>none
def ovF(P:Program)(T:Tr TI)(h:AH)(c:List Value)(op:Op):Option (Prop×Value):=match op with
 | .indexAddr t x i=>match vk c x,vk c i with
  |some (.slice (some ⟨b,d,none⟩) f _),some (.int _ n)=>match T.get t with
   |some ⟨_,.slice e,_,_⟩=>match T.get e with
    |some ⟨g,_,_,_⟩=>some (0<=n/\n<f,.pointer (some ⟨b,d+n.toNat*g,none⟩))
    |none=>none
   |_=>none
  |_,_=>none
 | .binOp op u x y _=>match vk c x,vk c y with
  |some (.int k a),some (.int j b)=>if k=j then match op with
   | .quo=>some (b≠0,.int k (k.wrap (a.tdiv b)))
   | .rem=>some (b≠0,.int k (a.tmod b))
   |_=>none else none
  |some (.agg xs),some (.agg l)=>match op with
   | .eql=>bif eqT P T u xs then some (l=xs,.bool true)else none
   |_=>none
  |_,_=>none
 | .slice t x m o p=>match slF T h c (.slice t x m o p)with
  |some v=>some (True,v)
  |none=>none
 |_=>none
def ldF(T:Tr TI)(h:AH)(b:List Value)(op:Op):Option (Option Value):=match op with
 | .load t x=>match vk b x with
  |some (.pointer (some a))=>match T.get t with
   |some ⟨_,d,_,_⟩=>bif yE d then none else some (RZ h a)
   |none=>none
  |_=>none
 |_=>none
def Y7(s:AS):Option (FuncId×Array Value×AH):=match s.fr.ret,s.fr.todo with
 |false,.region a (i::_)::_=>match nth a.toList i with
  |some o=>if Region.wanted o (yielded a s.fr.tmps)then match bP X.P none s.h s.fr.tmps o with
   |some (.enter f args,h)=>some (f,args,h)
   |_=>none else none
  |none=>none
 |false,.drawn a ((i,_)::_)::_=>match nth a.toList i with
  |some o=>if decide (aK a i=.effect)&&Region.wanted o (yielded a s.fr.tmps)then match bP X.P none s.h s.fr.tmps o with
   |some (.enter f args,h)=>some (f,args,h)
   |_=>none else none
  |none=>none
 |_,_=>none
def Ho(f:aN)(h:AH)(v:Value):Option (Bool×aN):=match f.todo with
 | .drawn b ((i,c)::rest)::k=>if aK b i=.effect then some (uf X.P X.T b c (dP f.tmps (bT b i) v) h,{f with tmps:=dP f.tmps (bT b i) v,todo:=.drawn b rest::k})else none
 |_=>match aA X.P f h v with
  |some a=>some (true,a)
  |none=>none
def afM(s:AS):Option (Bool×AS):=match s.fr.ret,s.fr.defers,s.fr.dk,s.cs with
 |true,[],false,c::d=>match X.P.funcs[s.fr.fn]? with
  |some e=>match(results e s.fr.tmps).ar X.P none s.h with
   |some (v,h)=>match Ho X c h v with
    |some (b,a)=>some (b,⟨a,d,h⟩)
    |none=>none
   |none=>none
  |none=>none
 |_,_,_,_=>none
def Y8(s:AS):Option (Bool×AS):=match s.fr.ret with
 |true=>afM X s
 |false=>match s.fr.todo with
  | .drawn c ((i,again)::l)::k=>match nth c.toList i with
   |some o=>if Region.wanted o (yielded c s.fr.tmps)then match aK c i with
    | .effect=>match bP X.P none s.h s.fr.tmps o with
     |some (.value v,h)=>match Ho X s.fr h v with
      |some (b,a)=>some (b,⟨a,s.cs,h⟩)
      |none=>none
     |some (.skip,h)=>match Ho X s.fr h undef with
      |some (b,a)=>some (b,⟨a,s.cs,h⟩)
      |none=>none
     |_=>none
    | .alloc=>match o.dst with
     |some d=>if d<s.fr.tmps.size then match o.op with
      | .alloc t=>match zeroOf X.P t with
       |some z=>some (uf X.P X.T c again (s.fr.tmps.setIfInBounds d (.pointer (some ⟨s.h.n,0,none⟩))) (s.h.new (.cells z.cells t (0,0))),
         {s with fr:={s.fr with tmps:=s.fr.tmps.setIfInBounds d (.pointer (some ⟨s.h.n,0,none⟩)),todo:=.drawn c l::k},h:=s.h.new (.cells z.cells t (0,0))})
       |none=>none
      | .buildSlice t n m=>match jH X.P (ay s.fr.tmps) t n m with
       |some (e,cells)=>if bC o then some (uf X.P X.T c again (s.fr.tmps.setIfInBounds d (.slice (some ⟨s.h.n,0,none⟩) n n)) (s.h.new (.cells cells e (0,0))),
         {s with fr:={s.fr with tmps:=s.fr.tmps.setIfInBounds d (.slice (some ⟨s.h.n,0,none⟩) n n),todo:=.drawn c l::k},h:=s.h.new (.cells cells e (0,0))})else none
       |none=>none
      |_=>none else none
     |none=>none
    | .fO=>none else none
   |none=>none
  |_=>none
def tx(Q:Value->Prop)(K:AS->Prop):HT->AS->Prop
 | .no,_=>False
 | .ret n m,s=>match aiv X n m s with
  |some v=>Q v
  |none=>False
 | .cut n m,s=>match rW X n m s with
  |some s=>K s
  |none=>False
 | .br n m t a b,s=>match rW X n m s with
  |some s=>match nth s.fr.tmps.toList t with
   |some (.bool c)=>BR c (tx Q K a (OB s t (.bool true))) (tx Q K b (OB s t (.bool false)))
   |_=>False
  |none=>False
 | .val n m t k,s=>match rW X n m s with
  |some s=>match nth s.fr.tmps.toList t with
   |some (.int d e)=>∀x:Int,x=e->tx Q K k (OB s t (.int d x))
   |_=>False
  |none=>False
 | .JZ n m t c a b,s=>match rW X n m s with
  |some s=>match nth s.fr.tmps.toList t with
   |some (.int d e)=>SP e c (tx Q K a (OB s t (.int d c))) (tx Q K b s)
   |_=>False
  |none=>False
 | .ov n m k,s=>match rW X n m s with
  |some s=>match opQ s with
   |some o=>match ovF X.P X.T s.h s.fr.tmps.toList o.op with
    |some (p,v)=>match OC s v with
     |some s=>p/\tx Q K k s
     |none=>False
    |none=>False
   |none=>False
  |none=>False
 | .lod n m d k,s=>match rW X n m s with
  |some s=>match opQ s with
   |some o=>match ldF X.T s.h s.fr.tmps.toList o.op with
    |some u=>∃x:Int,u=some (.int d x)/\match OC s (.int d x)with
     |some s=>tx Q K k s
     |none=>False
    |none=>False
   |none=>False
  |none=>False
 | .aiu n m k,s=>match rW X n m s with
  |some s=>match opQ s with
   |some o=>match ldF X.T s.h s.fr.tmps.toList o.op with
    |some u=>∃x:Bool,u=some (.bool x)/\match OC s (.bool x)with
     |some s=>tx Q K k s
     |none=>False
    |none=>False
   |none=>False
  |none=>False
 | .TY n m i k,s=>match rW X n m s with
  |some s=>match Y7 X s with
   |some (f,args,h)=>X.Γ i f args h fun v=>match Ho X s.fr h v with
    |some (c,a)=>RK c (tx Q K k ⟨a,s.cs,h⟩)
    |none=>False
   |none=>False
  |none=>False
 | .rk n m k,s=>match rW X n m s with
  |some s=>match Y8 X s with
   |some (c,s)=>RK c (tx Q K k s)
   |none=>False
  |none=>False
 | .cas n m t v a b,s=>match rW X n m s with
  |some s=>match nth s.fr.tmps.toList t with
   |some u=>CS (u=v) (tx Q K a (OB s t v)) (tx Q K b s)
   |none=>False
  |none=>False
end
def Jg(P:Program)(f:FuncId)(args:Array Value)(h:AH)(post:Value->Prop):Prop:=
 ∀(c:aN) (b:List aN),(∀v,post v->∃a,aA P c h v=some a)->aJ P (fun d=>∃v a,post v/\aA P c h v=some a/\d=⟨a,b,h⟩) ⟨aN.enter P f args,c::b,h⟩
structure Cl(P:Program)(Q:Value->Prop)(K:AS->Prop)(G:AS->Prop):Prop where
 runs:∀s,aJ P G s->G s
 ret:∀s v,(∀R:Value->AH->Prop,(∀h,R v h)->jC P plan R s)->Q v->G s
 cut:∀s,K s->G s
structure Jh(X:TX):Prop where
 Z:aO X.P
 T:aZ X.P X.T
 Fu:gq X.P X.Fu
 Γ:∀i f args h post,X.Γ i f args h post->Jg X.P f args h post
section
variable{X:TX}{Q:Value->Prop}{K G:AS->Prop}{s b:AS}{n m t:Nat}{v:Value}{c:aN}{cs:List aN}{h:AH}
theorem qB(e:nth s.fr.tmps.toList t=some v):OB s t v=s:=by
 unfold OB;rw[ku];rw[ja]at e;have:s.fr.tmps.toList.set t v=s.fr.tmps.toList:=by
  apply List.ext_getElem?;intro i;rw[List.getElem?_set];split
  ·rename_i a;subst a;split
   ·exact e.symm
   ·rename_i d;rw[List.getElem?_eq_none (by omega)]at e;cases e
  ·rfl
 rw[this]
theorem fA(f:Jh X)(e:rW X n m s=some b):To X.P plan b s:=by
 unfold rW at e;split at e
 ·rename_i g a;split at e
  ·rename_i i d;cases e;exact(sO f.T f.Fu n a).bind fun s h=>by subst h;exact jg m d (.here rfl)
  ·cases e
 ·cases e
theorem Y9{o:Oper}(e:opQ s=some o):s.fr.ret=false/\bC o=true/\((∃a i l k,s.fr.todo=.region a (i::l)::k/\a[i]?=some o/\Region.wanted o (yielded a s.fr.tmps)=true)∨
  ∃a i c l k,s.fr.todo=.drawn a ((i,c)::l)::k/\a[i]?=some o/\Region.wanted o (yielded a s.fr.tmps)=true/\aK a i=.fO):=by
 unfold opQ at e;split at e
 ·rename_i a i l k g j;split at e
  ·rename_i p f;split at e
   ·rename_i d;cases e;rw[Bool.and_eq_true]at d;rw[ja]at f;exact⟨g,d.2,.inl ⟨a,i,l,k,j,by simpa using f,d.1⟩⟩
   ·cases e
  ·cases e
 ·rename_i a i c l k g j;split at e
  ·rename_i p f;split at e
   ·rename_i d;cases e;simp only[Bool.and_eq_true,decide_eq_true_eq]at d;rw[ja]at f;exact⟨g,d.1.2,.inr ⟨a,i,c,l,k,j,by simpa using f,d.1.1,d.2⟩⟩
   ·cases e
  ·cases e
 ·cases e
theorem TZ(a:Array Value)(d:Nat)(v:Value):(⟨a.toList.set d v⟩:Array Value)=a.setIfInBounds d v:=by
 apply Array.toList_inj.1;simp
theorem Ji{o:Oper}(e:opQ s=some o)(w:bM o=false)(E:lX X.P s.h (ay s.fr.tmps) o=true)(F:(execOp (ay s.fr.tmps) o).fJ X.P s.h=some (.value v))(a:OC s v=some b):aI X.P plan none s=some (.go b):=by
 obtain⟨r,H,J⟩:=Y9 e
 rcases J with⟨f,i,l,k,p,j,y⟩|⟨f,i,c,l,k,p,j,y,z⟩
 ·have A:bP X.P none s.h s.fr.tmps o=some (.value v,s.h):=by unfold bP;rw[if_neg (by rw[w];decide),if_pos (by rw[H,E];rfl)];exact CP _ F
  unfold aI;rw[r];dsimp only
  rw[p];dsimp only
  rw[j];dsimp only
  rw[if_pos y,A];unfold OC at a;rw[p]at a;dsimp only at a;rw[jY]at a;rw[show((⟨f.toList⟩:Array Oper))=f from rfl,j]at a;dsimp only at a;split at a
  ·rename_i d hd;rw[ku]at a;cases a;unfold bZ aA;dsimp only
   rw[p];dsimp only
   rw[j];simp only[Option.bind_some,Option.map_some,hd,dP,TZ,r]
  ·cases a
 ·have L:o.dst≠none:=by intro hd;unfold OC at a;rw[p]at a;dsimp only at a;rw[jY]at a;rw[show((⟨f.toList⟩:Array Oper))=f from rfl,j]at a;dsimp only at a;rw[hd]at a;cases a
  have g:kindOf o=.fO:=by rw[←Hq j (by rw[z];intro x;cases x)];exact z
  have B:gK X.P s.h s.fr.tmps o=some v:=by unfold gK;rw[if_pos (by rw[H,E];rfl),F]
  unfold OC at a;rw[p]at a;dsimp only at a;rw[jY]at a;rw[show((⟨f.toList⟩:Array Oper))=f from rfl,j]at a;dsimp only at a;split at a
  ·rename_i d hd;cases C:Nat.blt d s.fr.tmps.toList.length with
   |false=>rw[C]at a;cases a
   |true=>
    rw[C,ku]at a;cases a;have D:d<s.fr.tmps.size:=by
     have M:d+1<=s.fr.tmps.toList.length:=Nat.le_of_ble_eq_true C
     exact Nat.le_trans M (Nat.le_of_eq (by simp))
    unfold aI;rw[r];dsimp only
    rw[p];dsimp only
    rw[j];dsimp only
    rw[z];dsimp only
    rw[hd];dsimp only
    rw[if_pos D,if_pos y];have N:∀t,o.op≠.alloc t:=fun t x=>by unfold kindOf at g;rw[x]at g;cases g
    have O:∀t n u,o.op≠.buildSlice t n u:=fun t n u x=>by unfold kindOf at g;rw[x]at g;cases g
    split
    ·rename_i t q;exact absurd q (N t)
    ·rename_i t n u q;exact absurd q (O t n u)
    ·rw[B];dsimp only
     rw[TZ];simp only[r]
  ·cases a
end
end Go.Am
namespace Go.Am
section
variable{X:TX}{Q:Value->Prop}{K G:AS->Prop}{s j:AS}{n m t:Nat}{v:Value}{c:aN}{q:List aN}{h:AH}
theorem wJ{x:Operand}{tmps:Array Value}(e:vk tmps.toList x=some v):ay tmps x=v:=(jZ (tmps:=tmps.toList) e).1
theorem add_plain(b a k:Nat):(⟨b,a,none⟩:Addr).add k=⟨b,a+k,none⟩:=by
 unfold Addr.add;split
 ·rename_i h;rw[h];rfl
 ·rfl
theorem afN(K:aZ X.P X.T){o:Oper}{f:Array Value}{p:Prop}(e:ovF X.P X.T h f.toList o.op=some (p,v))(D:p):bM o=false/\lX X.P h (ay f) o=true/\(execOp (ay f) o).fJ X.P h=some (.value v):=by
 unfold ovF at e;split at e
 ·rename_i t x i d;split at e
  ·rename_i b u E F k n A O;have g:=wJ A
   have l:=wJ O
   split at e
   ·rename_i sz el z U V;split at e
    ·rename_i H u' z' R J;cases e;have B:=(K.get _ _ V).1;obtain⟨W,L,C⟩:=(K.get _ _ J).2.1;dsimp only at C;refine⟨by unfold bM;rw[d],by unfold lX;rw[d],?_⟩;have:(Instr.indexAt t (.slice (some ⟨b,u,none⟩) E F) (.int k n)).fJ X.P h=some (.pointer (some ⟨b,u+n.toNat*H,none⟩)):=by
      unfold Instr.indexAt;rw[aC (show(asIntOf (.int k n)).fJ X.P h=some (k,n)from rfl)];dsimp only
      rw[aC (eu B)];dsimp only
      rw[aC (iZ _)];dsimp only
      rw[aC (eu B)];dsimp only
      rw[if_pos D,aC (qI L),C,←add_plain];rfl
     unfold execOp;rw[d];dsimp only
     rw[g,l];exact aC this
    ·cases e
   ·cases e
  ·cases e
 ·rename_i op t x y z d;split at e
  ·rename_i k a k' b A M;have g:=wJ A
   have l:=wJ M
   split at e
   ·rename_i Y;subst Y;refine⟨by unfold bM;rw[d],by unfold lX;rw[d];dsimp only;rw[g,l];rfl,?_⟩;unfold execOp;rw[d];dsimp only
    rw[g,l];cases op<;>first|(cases e;done)|skip
    all_goals
     cases e;simp only[eqGuard,Go.binOp,Go.Op.intDiv,if_neg D]
     simp[pure,bind,Sem.bind,Sem.fJ]
   ·cases e
  ·rename_i xs Z A M;have g:=wJ A
   have l:=wJ M
   cases op<;>first|(cases e;done)|skip
   dsimp only at e;cases r:eqT X.P X.T t xs with
   |false=>rw[r]at e;cases e
   |true=>
    rw[r]at e;cases e;subst D;have N:iQ 9 (.agg Z)=true:=by unfold eqT at r;rw[Bool.and_eq_true]at r;exact r.1
    refine⟨by unfold bM;rw[d],by unfold lX;rw[d];dsimp only;rw[g,l];unfold CW;dsimp only;rw[N];rfl,?_⟩;unfold execOp;rw[d];dsimp only
    rw[g,l];exact aC (Y6 K r)
  ·cases e
 ·rename_i t x lo O mx d;split at e
  ·rename_i w hw;cases e;exact Y5 K (by rw[d];exact hw)
  ·cases e
 ·cases e
theorem Za(K:aZ X.P X.T){o:Oper}{b:Array Value}(e:ldF X.T h b.toList o.op=some (some v)):bM o=false/\lX X.P h (ay b) o=true/\(execOp (ay b) o).fJ X.P h=some (.value v):=by
 unfold ldF at e;split at e
 ·rename_i t x f;split at e
  ·rename_i a l;have p:=wJ l
   split at e
   ·rename_i w d z r u;have i:=(K.get _ _ u).1;cases k:yE d with
    |true=>rw[k]at e;cases e
    |false=>
     rw[k]at e;dsimp only[cond_false]at e;simp only[Option.some.injEq]at e;refine⟨by unfold bM;rw[f],by unfold lX;rw[f],?_⟩;have:(Instr.loadAt t (.pointer (some a))).fJ X.P h=some v:=by
      unfold Instr.loadAt;rw[aC (show(Instr.sureAddr (.pointer (some a))).fJ X.P h=some a from rfl)];unfold loadVar;have g:(isAgg t).fJ X.P h=some (yE d):=by
       unfold isAgg;rw[aC (eu i)];dsimp only
       cases d<;>rfl
      rw[aC g,k];simp only[Bool.false_eq_true,if_false]
      unfold load;rw[Sem.fJ.eq_def];dsimp only
      rw[CQ e];rfl
     unfold execOp;rw[f];dsimp only
     rw[p];exact aC this
   ·cases e
  ·cases e
 ·cases e
theorem oz(K:aZ X.P X.T){b:Bool}{a:aN}{f:aN}(e:Ho X f h v=some (b,a))(d:b=true):aA X.P f h v=some a:=by
 unfold Ho at e;split at e
 ·rename_i g i c rest k l;split at e
  ·rename_i o;cases e;unfold aA;rw[l];dsimp only
   rw[if_pos ⟨o,ug K d⟩]
  ·cases e
 ·split at e
  ·rename_i r p;cases e;exact p
  ·cases e
theorem Vo(K:aZ X.P X.T){b:Bool}(e:afM X s=some (b,j))(d:b=true):aI X.P plan none s=some (.go j):=by
 unfold afM at e;split at e
 ·rename_i c q f g i k;split at e
  ·rename_i r l;split at e
   ·rename_i v h o;split at e
    ·rename_i u a p;cases e;have:=oz K p d
     unfold aI;rw[f];dsimp only
     unfold o7;rw[g];dsimp only
     rw[l];dsimp only
     rw[o];dsimp only
     unfold vg;rw[i,k];simp[this]
    ·cases e
   ·cases e
  ·cases e
 ·cases e
theorem OD(K:aZ X.P X.T){b:Bool}(e:Y8 X s=some (b,j))(g:b=true):aI X.P plan none s=some (.go j):=by
 unfold Y8 at e;split at e
 ·exact Vo K e g
 ·rename_i E;split at e
  ·rename_i p i again l k F;split at e
   ·rename_i o B;rw[jY,show((⟨p.toList⟩:Array Oper))=p from rfl]at B;split at e
    ·rename_i C;unfold aI;rw[E];dsimp only
     rw[F];dsimp only
     rw[B];dsimp only
     split at e
     ·rename_i r;rw[r];dsimp only
      rw[if_pos C];split at e
      ·rename_i v h u;split at e
       ·rename_i H a w;cases e;rw[u];unfold bZ;dsimp only
        rw[oz K w g];rfl
       ·cases e
      ·rename_i h u;split at e
       ·rename_i H a w;cases e;rw[u];unfold bZ;dsimp only
        rw[oz K w g];rfl
       ·cases e
      ·cases e
     ·rename_i r;rw[r];dsimp only
      split at e
      ·rename_i d hd;rw[hd];dsimp only
       split at e
       ·rename_i x;rw[if_pos x,if_pos C];split at e
        ·rename_i t f;split at e
         ·rename_i z J;cases e;rw[f];dsimp only
          rw[J];dsimp only
          rw[if_pos (ug K g)]
         ·cases e
        ·rename_i t n L f;split at e
         ·rename_i D cells y;split at e
          ·rename_i A;cases e;rw[f];dsimp only
           rw[y];dsimp only
           rw[A,ug K g];rfl
          ·cases e
         ·cases e
        ·cases e
       ·cases e
      ·cases e
     ·cases e
    ·cases e
   ·cases e
  ·cases e
theorem OE{f:FuncId}{args:Array Value}(e:Y7 X s=some (f,args,h)):aI X.P plan none s=some (.go ⟨aN.enter X.P f args,s.fr::s.cs,h⟩):=by
 unfold Y7 at e;split at e
 ·rename_i a i l k p r;split at e
  ·rename_i o d;split at e
   ·rename_i g;split at e
    ·rename_i w b x u;cases e;rw[jY,show((⟨a.toList⟩:Array Oper))=a from rfl]at d;unfold aI;rw[p];dsimp only
     rw[r];dsimp only
     rw[d];dsimp only
     rw[if_pos g,u];rfl
    ·cases e
   ·cases e
  ·cases e
 ·rename_i a i c l k p r;split at e
  ·rename_i o d;split at e
   ·rename_i g;simp only[Bool.and_eq_true,decide_eq_true_eq]at g;split at e
    ·rename_i w b x u;cases e;rw[jY,show((⟨a.toList⟩:Array Oper))=a from rfl]at d;unfold aI;rw[p];dsimp only
     rw[r];dsimp only
     rw[d];dsimp only
     rw[g.1];dsimp only
     rw[if_pos g.2,u];rfl
    ·cases e
   ·cases e
  ·cases e
 ·cases e
theorem adS[aO X.P](w:Jh X)(C:Cl X.P Q K G):∀(T:HT) (s:AS),tx X Q K T s->G s:=by
 have r:∀{s j:AS},To X.P plan j s->G j->G s:=fun k g=>C.runs _ ((k.bind fun s h=>by subst h;exact .here g).runs)
 have one:∀{s j:AS},aI X.P plan none s=some (.go j)->G j->G s:=fun e g=>r (bJ.one e (.here rfl)) g
 intro T;induction T with
 |no=>intro s k;exact k.elim
 |ret n m=>
  intro s k;unfold tx at k;split at k
  ·rename_i v y;refine C.ret s v (fun R hR=>?_) k;unfold aiv at y;split at y
   ·rename_i l d;split at y
    ·rename_i v' h' F;cases y;exact(sO w.T w.Fu n d).all (LQ m F (hR _))
    ·cases y
   ·cases y
  ·exact k.elim
 |cut n m=>
  intro s k;unfold tx at k;split at k
  ·rename_i l d;exact r (fA w d) (C.cut _ k)
  ·exact k.elim
 |br n m t a b z A=>
  intro s k;unfold tx at k;split at k
  ·rename_i l d;refine r (fA w d) ?_;split at k
   ·rename_i c E;cases c with
    |true=>have:=k.1 rfl;rw[qB E]at this;exact z _ this
    |false=>have:=k.2 rfl;rw[qB E]at this;exact A _ this
   ·exact k.elim
  ·exact k.elim
 |val n m t k B=>
  intro s k;unfold tx at k;split at k
  ·rename_i l d;refine r (fA w d) ?_;split at k
   ·rename_i Z e E;have:=k e rfl
    rw[qB E]at this;exact B _ this
   ·exact k.elim
  ·exact k.elim
 |JZ n m t c a b z A=>
  intro s k;unfold tx at k;split at k
  ·rename_i l d;refine r (fA w d) ?_;split at k
   ·rename_i Z e E;by_cases H:e=c
    ·subst H;have:=k.1 rfl;rw[qB E]at this;exact z _ this
    ·exact A _ (k.2 H)
   ·exact k.elim
  ·exact k.elim
 |ov n m k B=>
  intro s k;unfold tx at k;split at k
  ·rename_i l d;refine r (fA w d) ?_;split at k
   ·rename_i o J;split at k
    ·rename_i p v y;split at k
     ·rename_i D L;obtain⟨M,N,O⟩:=afN (h:=l.h) w.T y k.1;exact one (Ji J M N O L) (B _ k.2)
     ·exact k.elim
    ·exact k.elim
   ·exact k.elim
  ·exact k.elim
 |lod n m Z k B=>
  intro s k;unfold tx at k;split at k
  ·rename_i l d;refine r (fA w d) ?_;split at k
   ·rename_i o J;split at k
    ·rename_i u V;obtain⟨x,rfl,k⟩:=k
     split at k
     ·rename_i D L;obtain⟨M,N,O⟩:=Za w.T V
      exact one (Ji J M N O L) (B _ k)
     ·exact k.elim
    ·exact k.elim
   ·exact k.elim
  ·exact k.elim
 |aiu n m k B=>
  intro s k;unfold tx at k;split at k
  ·rename_i l d;refine r (fA w d) ?_;split at k
   ·rename_i o J;split at k
    ·rename_i u V;obtain⟨x,rfl,k⟩:=k
     split at k
     ·rename_i D L;obtain⟨M,N,O⟩:=Za w.T V
      exact one (Ji J M N O L) (B _ k)
     ·exact k.elim
    ·exact k.elim
   ·exact k.elim
  ·exact k.elim
 |TY n m i k B=>
  intro s k;unfold tx at k;split at k
  ·rename_i l d;refine r (fA w d) ?_;split at k
   ·rename_i f args h W;refine one (OE W) (C.runs _ ((w.Γ _ _ _ _ _ k l.fr l.cs fun v y=>?_).bind ?_))
    ·split at y
     ·rename_i c a Y;exact⟨a,oz w.T Y y.1⟩
     ·exact y.elim
    ·rintro j ⟨v,a',y,U,rfl⟩;split at y
     ·rename_i c a Y;rw[oz w.T Y y.1]at U;cases U;exact aJ.here (B _ y.2)
     ·exact y.elim
   ·exact k.elim
  ·exact k.elim
 |rk n m k B=>
  intro s k;unfold tx at k;split at k
  ·rename_i l d;refine r (fA w d) ?_;split at k
   ·rename_i c D W;exact one (OD w.T W k.1) (B _ k.2)
   ·exact k.elim
  ·exact k.elim
 |cas n m t v a b z A=>
  intro s k;unfold tx at k;split at k
  ·rename_i l d;refine r (fA w d) ?_;split at k
   ·rename_i u E;by_cases H:u=v
    ·subst H;have:=k.1 rfl;rw[qB E]at this;exact z _ this
    ·exact A _ (k.2 H)
   ·exact k.elim
  ·exact k.elim
theorem ab5[aO X.P](b:Jh X){a:Value->AH->Prop}(T:HT)(k:tx X (fun v=>∀h,a v h) (fun s=>dQ X.P a s) T s):dQ X.P a s:=
 adS (G:=fun s=>dQ X.P a s) b ⟨fun s r=>r.YZ fun _ x=>x,fun s v d e=>(d a e).YZ,fun s x=>x⟩ T s k
theorem ab6[aO X.P](a:Jh X)(T:HT)(k:tx X (fun _=>False) K T s):aJ X.P K s:=
 adS (G:=fun s=>aJ X.P K s) a ⟨fun s r=>r.bind fun _ x=>x,fun s v d b=>b.elim,fun s x=>aJ.here x⟩ T s k
end
theorem BR.mk{p:Prop}[Decidable p]{A B:Prop}(a:p->A)(b:¬p->B):BR (decide p) A B:=⟨fun h=>a (of_decide_eq_true h),fun h=>b (of_decide_eq_false h)⟩
theorem RK.mk{A:Prop}(a:A):RK true A:=⟨rfl,a⟩
theorem SP.mk{e c:Int}{A B:Prop}(a:e=c->A)(b:¬e=c->B):SP e c A B:=⟨a,b⟩
end Go.Am
namespace Go.Am
theorem bz{X:TX}(a:Jh X){Q:Value->AH->Prop}{T:HT}{s:AS}{N:Prop}(e:tx X (fun v=>∀h,Q v h) (fun s=>dQ X.P Q s) T s=N)(k:N):dQ X.P Q s:=haveI:=a.Z;ab5 a T (e▸k)
theorem bW{X:TX}(a:Jh X){K:AS->Prop}{T:HT}{s:AS}{N:Prop}(e:tx X (fun _=>False) K T s=N)(k:N):aJ X.P K s:=haveI:=a.Z;ab6 a T (e▸k)
section
variable{p:Prop}[Decidable p]{A B:Prop}{a b c e:Int}{F:Int->Prop}
theorem BR.l(h:p)(k:A):BR (decide p) A B:=BR.mk (fun _=>k) fun n=>absurd h n
theorem BR.r(h:¬p)(k:B):BR (decide p) A B:=BR.mk (fun y=>absurd y h) fun _=>k
theorem BR.nm(k:¬p->A)(l:p->B):BR (!decide p) A B:=⟨fun h=>k (by simpa using h),fun h=>l (by simpa using h)⟩
theorem BR.nr(h:p)(k:B):BR (!decide p) A B:=BR.nm (fun y=>absurd h y) fun _=>k
theorem SP.l(h:e=c)(k:A):SP e c A B:=⟨fun _=>k,fun n=>absurd h n⟩
theorem vw(d:-9223372036854775808<=e)(f:e<=9223372036854775807)(k:∀x,x=e->F x):∀x,x=IntKind.i64.wrap e->F x:=fun x g=>k x (by rw[g,bu d f])
theorem ab7(d:0<b):-b<Int.tmod a b/\Int.tmod a b<b/\(0<=a->0<=Int.tmod a b):=by
 refine⟨?_,Int.tmod_lt_of_pos a d,fun h=>Int.tmod_nonneg b h⟩;by_cases h:0<=a
 ·have:=Int.tmod_nonneg b h;omega
 ·have f:=Int.tmod_lt_of_pos (-a) d
  rw[Int.neg_tmod]at f;omega
theorem vr(f:0<b)(k:∀x,x=Int.tmod a b->(-b<x/\x<b/\(0<=a->0<=x))->F x):∀x,x=Int.tmod a b->F x:=fun x d=>k x d (by rw[d];exact ab7 f)
theorem BR.ll(k:A)(h:p:=by omega):BR (decide p) A B:=BR.l h k
theorem BR.rr(k:B)(h:¬p:=by omega):BR (decide p) A B:=BR.r h k
theorem va(k:∀x,x=e->F x)(d:-9223372036854775808<=e:=by omega)(f:e<=9223372036854775807:=by omega):∀x,x=IntKind.i64.wrap e->F x:=vw d f k
theorem vs(k:∀x,x=Int.tmod a b->(-b<x/\x<b/\(0<=a->0<=x))->F x)(d:0<b:=by omega):∀x,x=Int.tmod a b->F x:=vr d k
abbrev wi(a:Int):Int:=IntKind.i64.wrap a
theorem J6(k:∀x,x=max a b->F x):∀x,x=(if b>a then b else a)->F x:=fun x d=>k x (by rw[d,air])
theorem J7(k:∀x,x=min a b->F x):∀x,x=(if b<a then b else a)->F x:=fun x d=>k x (by rw[d,ais])
end
end Go.Am
namespace Go.Am
def rdB(B:cZ):cZ:={B with ro:=true}
def fF(a:Nat)(L:List (Nat×cZ)):AH:=⟨a,jG (L.map fun p=>(p.1,rdB p.2)),jT (L.filterMap fun p=>p.2.gB.map fun f=>(f,[p.1]))⟩
def HB1(h:AH)(b:Nat)(B:cZ):Prop:=h.tr.get b=some B/\(match B.gB with|none=>true|some f=>((h.dn.get f).getD []).contains b)=true
def HBL(h:AH):List (Nat×cZ)->Prop
 | []=>True
 |p::l=>HB1 h p.1 p.2/\HBL h l
structure Xa(nA:Nat)(L:List (Nat×cZ)):Prop where
 lt:∀p∈L,p.1<nA
 plain:∀p∈L,∃c e f,p.2.obj=.cells c e f/\∀x∈c,Plain x
 nodup:(L.map (·.1)).Nodup
theorem Ua:∀{l:List (Nat×cZ)} {b:Nat} {B:cZ},(l.map (·.1)).Nodup->(b,B)∈l->(jG l).get b=some B
 |(c,C)::l,b,B,a,d=>by
  unfold jG;rw[Tr.dW];simp only[List.map_cons,List.nodup_cons]at a;rcases List.mem_cons.1 d with e|e
  ·cases e;rw[if_pos rfl]
  ·rw[if_neg,Ua a.2 e];rintro rfl;exact a.1 (List.mem_map.2 ⟨_,e,rfl⟩)
theorem Ub:∀(l:List (Nat×List Nat)) {f:Nat} {m:List Nat},(jT l).get f=some m->(f,m)∈l
 | [],f,m,e=>by cases e
 |(c,C)::l,f,m,e=>by
  unfold jT at e;rw[Tr.dW]at e;split at e
  ·rename_i a;subst a;cases e;exact .head _
  ·exact .tail _ (Ub l e)
theorem HBL.mem{h:AH}:∀{L:List (Nat×cZ)},HBL h L->∀p∈L,HB1 h p.1 p.2
 |q::L,k,p,a=>by
  rcases List.mem_cons.1 a with e|e
  ·subst e;exact k.1
  ·exact HBL.mem k.2 p e
theorem Xa.sub{n:Nat}{L:List (Nat×cZ)}{h:AH}(S:Xa n L)(k:HBL h L):(fF n L).Sub h:=by
 have o:∀b B,(fF n L).tr.get b=some B->∃a,(b,a)∈L/\B=rdB a:=fun b B e=>by
  have:=Jc _ e
  obtain⟨⟨p,a⟩,i,d⟩:=List.mem_map.1 this;cases d;exact⟨a,i,rfl⟩
 have r:∀b a,(b,a)∈L->h.look b=some a:=fun b a s=>by
  obtain⟨i,d⟩:=HBL.mem k _ s
  dsimp only at i d;unfold AH.look;rw[i];dsimp only
  cases m:a.gB with
  |none=>rfl
  |some f=>rw[m]at d;dsimp only at d⊢;rw[if_pos d]
 have fl:∀f l,(fF n L).dn.get f=some l->∃b a,(b,a)∈L/\a.gB=some f/\l=[b]:=fun f l e=>by
  have:=Ub _ e
  obtain⟨⟨b,a⟩,i,d⟩:=List.mem_filterMap.1 this;dsimp only at d;cases m:a.gB with
  |none=>rw[m]at d;cases d
  |some g=>rw[m]at d;cases d;exact⟨b,a,i,m,rfl⟩
 refine⟨fun b B e=>?_,fun b B e=>?_,fun b B e=>?_,fun f l e=>?_,fun f l b e t=>?_⟩
 ·obtain⟨a,i,rfl⟩:=o b B (gy e)
  exact⟨a,r b a i,rfl,rfl,rfl,rfl⟩
 ·obtain⟨a,i,rfl⟩:=o b B (gy e)
  obtain⟨c,u,f,d,j⟩:=S.plain _ i
  exact⟨c,u,f,d,fun x v=>(j x v).okV⟩
 ·obtain⟨a,i,rfl⟩:=o b B e
  exact⟨a,(HBL.mem k _ i).1,rfl⟩
 ·obtain⟨b,a,i,d,rfl⟩:=fl f l e
  have j:=(HBL.mem k _ i).2;dsimp only at j;rw[d]at j;dsimp only at j;cases q:h.dn.get f with
  |none=>rw[q]at j;simp at j
  |some w=>rw[q]at j;exact⟨w,rfl,List.singleton_sublist.2 (by simpa using j)⟩
 ·obtain⟨p,a,i,d,rfl⟩:=fl f l e
  obtain rfl:b=p:=by simpa using t
  refine⟨S.lt _ i,rdB a,Ua ?_ (List.mem_map.2 ⟨_,i,rfl⟩),d⟩;rw[List.map_map];exact S.nodup
structure Ct where
 f:FuncId
 ext:Array Value->AH->List Int
 nA:Nat
 L:List Int->List (Nat×cZ)
 args:List Int->Array Value
 pre:List Int->Prop
 R:List Int->Int->Prop
 res:List Int->Int->Value
noncomputable section
def uh(a:Array Value)(i:Nat):Int:=match nth a.toList i with
 |some (.int _ p)=>p
 |_=>0
def OG(h:AH)(v:Option Value):List Int:=match v with
 |some (.slice (some a) _ _)=>match h.tr.get a.block with
  |some ⟨.cells c _ _,_,_,_⟩=>List.rec [] (fun v _ b=>(match v with|.int _ n=>n|_=>0)::b) c.toList
  |_=>[]
 |_=>[]
def alU(n:Nat)(v:Option Value):List Int:=match v with
 |some (.agg c)=>List.rec (motive:=fun _=>Nat->List Int) (fun _=>[]) (fun v _ a n=>match n with
  |0=>[]
  |n+1=>(match v with|.int _ x=>x|_=>0)::a n) c.toList n
 |_=>[]
def Ct.met(c:Ct)(a:Array Value)(h:AH)(p:List Int)(post:Value->Prop):Prop:=(a=c.args p/\HBL h (c.L p)/\c.pre p)/\∀x:Int,c.R p x->post (c.res p x)
def ctG:List Ct->FuncId->Array Value->AH->(Value->Prop)->Prop
 | [],_,_,_,_=>False
 |c::l,f,a,h,post=>bif Nat.beq f c.f then c.met a h (c.ext a h) post else ctG l f a h post
def ctI(l:List Ct):Nat->FuncId->Array Value->AH->(Value->Prop)->Prop
 |0=>ctG l
 |i+1=>fun f a h post=>match nth l i with
  |some c=>bif Nat.beq f c.f then c.met a h (c.ext a h) post else False
  |none=>False
end
structure gW(P:Program)(c:Ct):Prop where
 YZ:∀p,c.pre p->dQ P (fun v _=>∃x,c.R p x/\v=c.res p x) ⟨aN.enter P c.f (c.args p),[],fF c.nA (c.L p)⟩
 st:∀p,c.pre p->Xa c.nA (c.L p)
 okA:∀p,∀x∈c.args p,pW (· <c.nA) x
 okR:∀(q:Nat->Prop) p x,(∀a∈c.args p,pW q a)->pW q (c.res p x)
theorem gW.call{P:Program}[aO P]{c:Ct}(k:gW P c){a:Array Value}{h:AH}{p:List Int}{post:Value->Prop}(l:c.met a h p post):Jg P c.f a h post:=by
 obtain⟨⟨m,n,g⟩,i⟩:=l
 subst m;intro u w b;refine(aJ.call (k.YZ p g) ((k.st p g).sub n) (k.okA p) (fun q o v j d=>?_) (fun v j d=>?_)).mono ?_
 ·obtain⟨x,_,rfl⟩:=d
  exact k.okR q p x o
 ·obtain⟨x,e,rfl⟩:=d
  exact b _ (i x e)
 ·rintro s ⟨v,j,r,⟨x,e,rfl⟩,t,rfl⟩;exact⟨_,r,i x e,t,rfl⟩
theorem Zb{P:Program}[aO P]:∀{l:List Ct},(∀c∈l,gW P c)->∀f a h post,ctG l f a h post->Jg P f a h post
 | [],_,f,a,h,post,k=>k.elim
 |c::l,d,f,a,h,post,k=>by
  unfold ctG at k;cases b:Nat.beq f c.f with
  |true=>
   rw[b]at k;have:=Nat.eq_of_beq_eq_true b
   subst this;exact(d c (.head _)).call k
  |false=>rw[b]at k;exact Zb (fun c e=>d c (.tail _ e)) f a h post k
theorem afO{P:Program}[aO P]{l:List Ct}(d:∀c∈l,gW P c):∀i f a h post,ctI l i f a h post->Jg P f a h post
 |0,f,a,h,post,k=>Zb d f a h post k
 |i+1,f,a,h,post,k=>by
  unfold ctI at k;dsimp only at k;split at k
  ·rename_i c e;cases b:Nat.beq f c.f with
   |true=>
    rw[b]at k;have:=Nat.eq_of_beq_eq_true b
    subst this;rw[ja]at e;exact(d c (List.mem_of_getElem? e)).call k
   |false=>rw[b]at k;exact k.elim
  ·exact k.elim
theorem gX{P:Program}:∀c∈([]:List Ct),gW P c:=fun c h=>absurd h List.not_mem_nil
theorem jF{P:Program}{c:Ct}{l:List Ct}(h:gW P c)(k:∀c∈l,gW P c):∀d∈c::l,gW P d:=fun d hd=>(List.mem_cons.1 hd).elim (fun e=>e▸h) (k d)
theorem nR{V:Prop}{n:Int}(h:n≠0):∀_:AH,∃x:Int,(x=0->V)/\Value.int .i64 n=zJ x:=fun _=>⟨n,fun e=>absurd e h,rfl⟩
theorem lf0{V:Prop}(h:V):∀_:AH,∃x:Int,(x=0->V)/\Value.int .i64 0=zJ x:=fun _=>⟨0,fun _=>h,rfl⟩
def AE(a:Array Value):Prop:=a=a
def BE(B:cZ):Prop:=some B=some B/\true=true
def bk(c:Array Value):cZ:=⟨.cells c 0 (0,0),none,true,1⟩
def E4(a b c d:Array Value):Prop:=BE (bk a)/\BE (bk b)/\BE (bk c)/\BE (bk d)/\True
theorem iE{a b c d:Array Value}:E4 a b c d:=⟨⟨rfl,rfl⟩,⟨rfl,rfl⟩,⟨rfl,rfl⟩,⟨rfl,rfl⟩,trivial⟩
def L4(a b sc kc:Array Value):List (Nat×cZ):=[(0,bk a),(1,bk b),(2,bk sc),(3,bk kc)]
end Go.Am
namespace Go.Am
open Go.Conc (born QuitsD G scase rcase)
open Go.Conc.Lib
open Go.ConcR (WgAt)
open Go.Ren (grow gU aT aB Wk dY X0 At aH Keep full)
section
variable{P:Program}{H z:Env}{F W U Z:Nat->Prop}{N:Nat}{w w' j:World}{base D:List Frame}{f:Frame}{E:Nat}{d:Array Oper}{i:Nat}{o:Oper}{s s':AS}{g:Goroutine}{L:WgLink}{q:Machine->Outcome->World->Trace->Prop}{m:Machine}{t:Trace}{p:FuncId}{v:Value}{u:Array TypeId}{C:aN}
theorem Zc[aO P](hp:cu P p=true)(hv:Plain v)(a5:∀{b:Frame} {bs:List Frame} {F:Nat->Prop} {j:World} {m:Machine} {t:Trace},bK P L (b::bs) F j .idle ⟨aN.enter P p #[],[],h0⟩ m t->aH P q (Back P b bs F j v) m t)
  (A:vT P z E s d i f D (full Z w') (fun _=>False) w') (a6:At P W U Z N 0 (dZ f (D++base)) w' m t) (J:∀b,Z b->b<w'.heap.size) (wu:∀b,W b∨U b->Z b) (fz:∀b,F b->Z b) (a7:∀b,F b->¬(W b∨U b)) (a8:Keep F j w')
  (M:s.fr.round=none) (t2:d[i]?=some o) (t3:Region.wanted o (yielded d s.fr.tmps)=true) (t4:bC o=true) (t5:o.op=.call {callee:=.value (.func p),args:=#[],argTypes:=u}) (t6:aA P s.fr s.h v=some C):
  aH P q (fun m t=>∃(W' U' Z':Nat->Prop) (N':Nat) (z:Env) (g':Goroutine) (w':World),Sd P base F j W' U' Z' N' z ⟨C,s.cs,s.h⟩ g' w' m t) m t:=by
 obtain⟨a9,sr,kr,b3,a1⟩:=uF (m:=true) (base:=base) hp A M t2 t3 t4 t5
 have O:(#[]:Array Operand).map f.eval=#[]:=by simp
 rw[O]at a1;have b0:Wk P true (fun _=>True) X0 (fun _=>False) (fun O' g' b1=>g'=dZ (Frame.enter P p #[] .normal) (f::(D++base))/\aB (full Z w') (fun _=>False) w' b1) (full Z w') (dZ f (D++base)) w':=
  Wk.mk rfl fun e hr _=>⟨_,e,#[],a1 e,.none e,.stop ⟨rfl,hr⟩⟩
 refine(Go.Ren.At.wk2 b0 J rfl a6).bind ?_;rintro m t ⟨b4,e,Q,⟨rfl,n⟩,Y⟩;have y:w'.heap.size<=e.heap.size:=n.size
 have k:=A.rely n
 have a0:bK P L (f::(D++base)) (fun b=>full Z w' b∨F b) e .idle ⟨aN.enter P p #[],[],h0⟩ m t:=by
  refine⟨W,U,fun b=>b<e.heap.size,N,vO,_,e,⟨⟨Q.drop fun b a=>Nat.lt_of_lt_of_le (J b a) y,Ns _ _ _ _,fun b a=>a⟩,fun b a=>Nat.lt_of_lt_of_le (J b (wu b a)) y,fun b a=>?_,fun b a=>?_,.refl⟩,trivial⟩
  ·rcases a with a|a
   ·exact Nat.lt_of_lt_of_le a.1 y
   ·exact Nat.lt_of_lt_of_le (J b (fz b a)) y
  ·rcases a with a|a
   ·exact fun x=>a.2 (wu b x)
   ·exact a7 b a
 refine(a5 a0).mono ?_;rintro m t ⟨W',U',r,N',l,R,a2,b2,B,c,T⟩;have a3:∀b,full Z w' b->full (fun b=>r b/\¬full Z w' b) l b:=fun b a=>⟨Nat.lt_of_lt_of_le a.1 (Nat.le_trans y c.2.1),fun x=>x.2 a⟩
 have X:Rel z (full (fun b=>r b/\¬full Z w' b) l) (fun _=>False) s.h l:=by
  have V:Rel z (full Z w') (fun _=>False) s.h {e with heap:=l.heap}:=k.rel.rely ⟨c.2.1,fun b a=>c.1 b (.inl a),fun b a=>a.elim,.rfl,rfl,rfl⟩
  have r2:Rel z (full Z w') (fun _=>False) s.h l:=⟨V.cells,V.obj,V.own,V.sep,V.fresh,V.low,V.bg,V.row,V.mem⟩
  exact r2.mono a3
 have a4:vT P z E s d i f D (full (fun b=>r b/\¬full Z w' b) l) (fun _=>False) l:=⟨k.bound,k.fs,k.run,k.todo,k.sH,k.wanted,k.stk,X⟩
 refine⟨W',U',fun b=>r b/\¬full Z w' b,N',z,_,l,⟨R.alone.drop fun b a=>⟨a2 b a,fun hf=>B b (.inl hf) a⟩,?_,fun b a=>T b a.1⟩,fun b a=>⟨a2 b a,fun hf=>B b (.inl hf) a⟩,fun b a=>⟨b2 b (.inr a),fun hf=>hf.2 (fz b a)⟩,fun b a=>B b (.inr a),a8.trans ?_⟩
 ·exact a4.finish (.refl z) (fun x _ hx=>hx) (Nat.le_refl _) (hv.vr z) X t6
 ·refine⟨fun b a=>?_,Nat.le_trans y c.2.1,n.os.trans c.2.2.1,c.2.2.2.trans n.output⟩;rw[c.1 b (.inr a)];exact Y.1 b (fz b a)
theorem Sr.wk{G:(Nat->Prop)->Goroutine->World->Prop}(S:Sr P base F j W U Z N H s g w m t)(k:Wk P true (fun _=>True) X0 F G (full Z w) g w):
  aH P q (fun m t=>∃g' w',At P W U (fun b=>Z b/\¬F b) N 0 g' w' m t/\G (full Z w') g' w'/\(∀b,Z b->b<w'.heap.size)/\Keep F j w') m t:=by
 have A:∀b,F b->b<w.heap.size/\¬full Z w b:=fun b a=>⟨S.lt b (S.fz b a),fun x=>x.2 (S.fz b a)⟩
 have e:(fun b=>full Z w b∨F b)=full (fun b=>Z b/\¬F b) w:=by
  funext b;apply propext;constructor
  ·rintro(a|a)
   ·exact⟨a.1,fun x=>a.2 x.1⟩
   ·exact⟨(A b a).1,fun x=>x.2 a⟩
  ·rintro⟨M,O⟩;by_cases a:F b
   ·exact .inr a
   ·exact .inl ⟨M,fun x=>O ⟨x,a⟩⟩
 have c:∀b,(Z b/\¬F b)->b<w.heap.size:=fun b a=>S.lt b a.1;refine(Go.Ren.At.wk2 (k.read A) c e S.at_).mono ?_;rintro m t ⟨g',w',r,⟨h,Q,R,T,l⟩,Y⟩;have n:∀b,Z b->b<w'.heap.size:=fun b a=>Nat.lt_of_lt_of_le (S.lt b a) l.size
 have V:h=full Z w':=by
  funext b;apply propext;have a:=congrFun R b
  constructor
  ·intro B;have:full (fun b=>Z b/\¬F b) w' b:=by rw[a];exact .inl B
   exact⟨this.1,fun x=>this.2 ⟨x,fun y=>T b y B⟩⟩
  ·rintro⟨X,J⟩;have:full (fun b=>Z b/\¬F b) w' b:=⟨X,fun y=>J y.1⟩
   rw[a]at this;exact this.resolve_right fun y=>J (S.fz b y)
 subst V;exact⟨g',w',r,Q,n,S.keep.trans ⟨l.own,l.size,l.os,l.output⟩⟩
def OH(P:Program)(p:FuncId)(v:Value)(s:AS):Option AS:=
 let b (d:Array Oper) (i:Nat):Option AS:=match d[i]? with
  |some o=>match o.op with
   | .call ⟨.value (.func f),aq,_⟩=>if f==p&&s.fr.round.isNone&&aq.size==0&&Region.wanted o (yielded d s.fr.tmps)&&bC o then(aA P s.fr ⟨s.h.n,.nil,.nil⟩ v).map fun a=>⟨a,s.cs,⟨s.h.n,.nil,.nil⟩⟩else none
   |_=>none
  |none=>none
 match s.fr.ret,s.fr.todo with
 |false,.region d (i::_)::_=>b d i
 |false,.drawn d ((i,_)::_)::_=>if aK d i=.effect then b d i else none
 |_,_=>none
theorem Sr.aiw[aO P](hp:cu P p=true)(hv:Plain v)(Q:∀{b:Frame} {bs:List Frame} {F:Nat->Prop} {j:World} {m:Machine} {t:Trace},bK P L (b::bs) F j .idle ⟨aN.enter P p #[],[],h0⟩ m t->aH P q (Back P b bs F j v) m t)
  (S:Sr P base F j W U Z N H s g w m t) (h:OH P p v s=some s'):
  aH P q (fun m t=>∃(W' U' Z':Nat->Prop) (N':Nat) (z:Env) (g':Goroutine) (w':World),Sd P base F j W' U' Z' N' z s' g' w' m t) m t:=by
 obtain⟨y,d,i,c,J,hg⟩:s.fr.ret=false/\∃(d:Array Oper) (i:Nat) (c:List Nat),((∃l k,s.fr.todo=.drawn d ((i,c)::l)::k/\aK d i=.effect)∨∃l k,s.fr.todo=.region d (i::l)::k)/\∃o aq u C,d[i]?=some o/\o.op=.call ⟨.value (.func p),aq,u⟩/\s.fr.round=none/\aq.size=0/\Region.wanted o (yielded d s.fr.tmps)=true/\bC o=true/\aA P s.fr ⟨s.h.n,.nil,.nil⟩ v=some C/\s'=⟨C,s.cs,⟨s.h.n,.nil,.nil⟩⟩:=by
  have go:∀{d:Array Oper} {i:Nat},(match d[i]? with
    |some o=>match o.op with
     | .call ⟨.value (.func f),aq,_⟩=>if f==p&&s.fr.round.isNone&&aq.size==0&&Region.wanted o (yielded d s.fr.tmps)&&bC o then(aA P s.fr ⟨s.h.n,.nil,.nil⟩ v).map fun a=>(⟨a,s.cs,⟨s.h.n,.nil,.nil⟩⟩:AS)else none
     |_=>none
    |none=>none)=some s'->∃o aq u C,d[i]?=some o/\o.op=.call ⟨.value (.func p),aq,u⟩/\s.fr.round=none/\aq.size=0/\Region.wanted o (yielded d s.fr.tmps)=true/\bC o=true/\aA P s.fr ⟨s.h.n,.nil,.nil⟩ v=some C/\s'=⟨C,s.cs,⟨s.h.n,.nil,.nil⟩⟩:=by
   intro d i e;split at e
   ·rename_i o ho;split at e
    ·rename_i f aq u R;split at e
     ·rename_i hc;simp only[Bool.and_eq_true,beq_iff_eq,Option.isNone_iff_eq_none]at hc;obtain⟨⟨⟨⟨rfl,T⟩,V⟩,Y⟩,h4⟩:=hc
      obtain⟨C,h5,rfl⟩:=Option.map_eq_some_iff.1 e;exact⟨o,aq,u,C,ho,R,T,V,Y,h4,h5,rfl⟩
     ·cases e
    ·cases e
   ·cases e
  unfold OH at h;dsimp only at h;split at h
  ·rename_i d i l k hr J;exact⟨hr,d,i,[],.inr ⟨l,k,J⟩,go h⟩
  ·rename_i d i c l k hr J;split at h
   ·rename_i M;exact⟨hr,d,i,c,.inl ⟨l,k,J,M⟩,go h⟩
   ·cases h
  ·cases h
 obtain⟨o,aq,u,C,T,V,Y,h4,h5,h6,h7,rfl⟩:=hg
 have:aq=#[]:=Array.eq_empty_of_size_eq_zero h4
 subst this;have a0:(∃k,s.fr.todo=.drawn d ((i,c)::(match s.fr.todo with|.drawn _ (_::l)::_=>l|_=>[]))::k/\aK d i=.effect)∨∃l k,s.fr.todo=.region d (i::l)::k:=by
  rcases J with⟨l,k,e,M⟩|e
  ·exact .inl ⟨k,by rw[e],M⟩
  ·exact .inr e
 refine(S.wk (qG (X:=X0) (I:=fun _=>True) (m:=true) S.Na y a0)).bind ?_;rintro m t ⟨g',w',a1,⟨z,E,f,D,a3,rfl,A⟩,a2,M⟩;have O:∀b B,(⟨s.h.n,.nil,.nil⟩:AH).look b=some B->False:=fun b B h=>by cases h
 have r:=A.rel
 have A':vT P z E ⟨s.fr,s.cs,⟨s.h.n,.nil,.nil⟩⟩ d i f D (full Z w') (fun _=>False) w':=
  ⟨A.bound,A.fs,A.run,A.todo,A.sH,A.wanted,A.stk,⟨fun b B _ _ _ _ x=>(O b B x).elim,fun b B _ x=>(O b B x).elim,fun b B _ x=>(O b B x).elim,fun b _ B _ _ _ x=>(O b B x).elim,r.fresh,r.low,fun b B _ x=>(O b B x).elim,fun f l hf=>(by cases hf),fun f l hf=>(by cases hf)⟩⟩
 exact Zc (L:=L) (s:=⟨s.fr,s.cs,⟨s.h.n,.nil,.nil⟩⟩) hp hv Q A' (a1.drop fun b hb=>hb.1) a2 S.wu S.fz S.UC M Y T h5 h6 V h7
end
end Go.Am
namespace Go.Am
open Go.Conc (G Good)
open Go.Ren (At aH Keep full)
noncomputable section
def Zd(P:Program)(a:FuncId)(s:AS):Bool:=s.fr.ret&&s.cs.isEmpty&&aP s.fr&&s.fr.defers.isEmpty&&!s.fr.dk&&Nat.beq s.fr.fn a&&match P.funcs[a]? with
 |some f=>(match(results f s.fr.tmps).ar P none s.h with
  |some (.bool b,_)=>b
  |_=>false)
 |none=>false
def acd(X:TX)(a:FuncId):Nat->AS->Bool
 |0,s=>Zd X.P a s
 |k+1,s=>if Zd X.P a s then true else match CY X.P plan X.T X.Fu 1 s with
  |some (.go b)=>acd X a k b
  |_=>false
def Vp(X:TX)(a b:FuncId)(s:AS):Bool:=match OH X.P b (.bool true) s with
 |some c=>acd X a 60 c
 |none=>false
abbrev ud:Value:=.tuple ⟨[]⟩
abbrev ur(n:Nat):List Value:=List.replicate n ud
def Be(f:FuncId)(s:AS):Bool:=Nat.beq s.fr.fn f
end
def vI(w:Nat->Value):Nat->Nat->Nat->List Value->List Value
 |0,_,_,_=>[]
 |n+1,b,i,l=>bif Nat.beq (Nat.mod b 2) 1 then w i::vI w n (Nat.div b 2) (i+1) l else match l with
  |v::l=>v::vI w n (Nat.div b 2) (i+1) l
  | []=>[]
def Uc(w:Nat->Value):Nat->Nat->List Value->List Value
 |_,_,[]=>[]
 |b,i,v::l=>(bif Nat.beq (Nat.mod b 2) 1 then w i else v)::Uc w (Nat.div b 2) (i+1) l
def Ze(w:Nat->Value)(b:Nat)(f:aN):aN:=⟨f.fn,⟨Uc w b 0 f.tmps.toList⟩,f.todo,f.defers,f.ret,f.round,f.dk⟩
def Ud(w:Nat->Nat->Value):Nat->List Nat->List aN->List aN
 |k,b::c,f::a=>Ze (w k) b f::Ud w (k+1) c a
 |_,_,a=>a
theorem LU{w:Nat->Value}:∀(l:List Value) (b i:Nat),(∀j v,l[j]?=some v->w (i+j)=v)->Uc w b i l=l
 | [],b,i,h=>rfl
 |v::l,b,i,h=>by
  have h0:=h 0 v rfl
  have a:=LU l (Nat.div b 2) (i+1) fun j v e=>by have:=h (j+1) v e;rwa [←Nat.add_assoc,Nat.add_right_comm]at this
  unfold Uc;rw[a];cases Nat.beq (Nat.mod b 2) 1
  ·rfl
  ·rw[cond_true];rw[Nat.add_zero]at h0;rw[h0]
theorem Zf{w:Nat->Value}{b:Nat}{f:aN}(h:∀j v,f.tmps.toList[j]?=some v->w j=v):Ze w b f=f:=by
 unfold Ze;rw[LU _ _ _ fun j v e=>by rw[Nat.zero_add];exact h j v e]
theorem LV{w:Nat->Nat->Value}:∀(a:List aN) (c:List Nat) (k:Nat),(∀n f,a[n]?=some f->∀j v,f.tmps.toList[j]?=some v->w (k+n) j=v)->Ud w k c a=a
 | [],c,k,h=>by cases c<;>rfl
 |f::a,[],k,h=>rfl
 |f::a,b::c,k,h=>by
  unfold Ud;rw[Zf (w:=w k) (h 0 f rfl),LV a c (k+1) fun n f e=>by have:=h (n+1) f e;rwa [←Nat.add_assoc,Nat.add_right_comm]at this]
noncomputable def KM(X:TX)(a b:FuncId)(c:AS->Bool)(l d:List Nat)(s:AS):Prop:=bif c s&&aP s.fr then∀w:Nat->Nat->Value,aJ X.P (fun s=>Vp X a b s=true) (match Ud w 0 d (s.fr::s.cs)with|f::e=>⟨f,e,s.h.forget l⟩|[]=>s)else Vp X a b s=true
theorem fK{X:TX}{a b:FuncId}{c:AS->Bool}{l i:List Nat}{g:AS}(h:aJ X.P (fun s=>KM X a b c l i s) g):aJ X.P (fun s=>Vp X a b s=true) g:=h.bind fun s k=>by
 unfold KM at k;cases d:c s&&aP s.fr<;>rw[d]at k
 ·exact aJ.here k
 ·rw[Bool.and_eq_true]at d;have:=k fun n j=>(((s.fr::s.cs)[n]?).bind fun f=>f.tmps.toList[j]?).getD undef;rw[LV _ _ _ fun n f e j v m=>by rw[Nat.zero_add];simp only[e,Option.bind_some,m,Option.getD_some]]at this;exact(aJ.forget l d.2).bind fun o e=>by subst e;exact this
def Jj(P:Program)(L:Go.Conc.Lib.WgLink)(d:FuncId)(c:Machine->Outcome->World->Trace->Prop):Prop:=
 ∀{b:Frame} {e:List Frame} {F:Nat->Prop} {a:World} {m:Machine} {t:Trace},bK P L (b::e) F a .idle ⟨aN.enter P d #[],[],h0⟩ m t->aH P c (Back P b e F a (.bool true)) m t
section
variable{X:TX}{root d:FuncId}{s i j:AS}{W U Z F:Nat->Prop}{N:Nat}{ρ:Env}{c w:World}{g:Goroutine}{m:Machine}{t:Trace}{a:Value->World->Prop}{K:Machine->Trace->Prop}{L:Go.Conc.Lib.WgLink}
theorem Vq{P:Program}(h:Zd P root s=true):s.fr.ret=true/\s.cs=[]/\aP s.fr=true/\s.fr.defers=[]/\s.fr.dk=false/\s.fr.fn=root/\∃f e,P.funcs[root]?=some f/\(results f s.fr.tmps).ar P none s.h=some (.bool true,e):=by
 unfold Zd at h;simp only[Bool.and_eq_true,Bool.not_eq_true']at h;obtain⟨⟨⟨⟨⟨⟨l,n⟩,o⟩,p⟩,q⟩,r⟩,k⟩:=h
 refine⟨l,List.isEmpty_iff.1 n,o,List.isEmpty_iff.1 p,q,Nat.eq_of_beq_eq_true r,?_⟩;split at k
 ·rename_i f u;split at k
  ·rename_i b e v;subst k;exact⟨f,e,u,v⟩
  ·cases k
 ·cases k
theorem Hr(f:Jh X):∀(k:Nat) {s:AS},acd X root k s=true->∃i,To X.P plan i s/\Zd X.P root i=true
 |0,s,h=>⟨s,.here rfl,h⟩
 |k+1,s,h=>by
  unfold acd at h;split at h
  ·rename_i n;exact⟨s,.here rfl,n⟩
  ·split at h
   ·rename_i l b;obtain⟨i,o,p⟩:=Hr f k h
    exact⟨i,(sO f.T f.Fu 1 b).bind fun _ e=>by subst e;exact o,p⟩
   ·cases h
theorem OI(q:Jh X)(R:aJ X.P (fun s=>Vp X root d s=true) j)(n:Jj X.P L d (Good X.P a))(B:cu X.P d=true)(o:X.P.inits.idxOf? root=none)(C:∀p,Keep F c p->a (.bool true) p)
  (S:Sr X.P [] F c W U Z N ρ j g w m t):aH X.P (Good X.P a) K m t:=by
 haveI:=q.Z
 refine(S.runs R).bind ?_;rintro m t ⟨σ,s,g',p,l,_,D⟩;unfold Vp at l;split at l
 ·rename_i r b;obtain⟨e,E,H⟩:=Hr q _ l
  refine(Sr.aiw (L:=L) B (.bool true) n D b).bind ?_;rintro m t ⟨W',U',Z',N',J,u,v,h⟩;refine(h.reach (K:=(· =e)) E).bind ?_;rintro m t ⟨τ,M,x,y,rfl,_,k,_⟩;obtain⟨O,Q,T,V,Y,z,f,A,e7,e8⟩:=Vq H
  exact k.ends Q T O V Y (by rw[z];exact e7) e8 (by rw[z];exact o) (.bool true) C
 ·cases l
end
end Go.Am
namespace Go.Am
open Go.Proofs
noncomputable def ai:Tr TI:=XI Tryz.prog Tryz.prog.types.toList 0
noncomputable def ah:Tr Func:=yG Tryz.prog.funcs.toList 0
noncomputable def at_(f:Nat)(p:List Nat):Code:=nU (XO ah f) p
noncomputable def au(f:Nat)(p:List Nat):Array Oper:=agX ah f p
abbrev bD:Go.Conc.Lib.WgLink:={add:=88,done:=90,wait:=95,relMerge:=120,disable:=121,enable:=122,inBubble:=123,associate:=124,fatal:=125,uOr:=126,uAdd:=127,raceRead:=128,uLoad:=129,uStore:=130,disassociate:=131,semrelease:=132,acquire:=135,isAssociated:=136,uCas:=137,raceWrite:=138,semacquire:=139,orU64:=148,addU64:=149,loadU64:=150,storeU64:=151,casU64:=156,tWgP:=187,tUP:=189,tAssoc:=190,tWg:=158,tAU:=156,tU64:=154,tUint:=194,tU32:=147,tPU32:=195,tPAU:=212,tPU64:=214,tNoCopy:=146,tANoCopy:=152,tAlign64:=153}
abbrev uj:Go.Mx.ag:={mu:={lock:=92,unlock:=93,ilock:=133,iunlock:=134,lockSlow:=153,unlockSlow:=155,disable:=121,enable:=122,acquire:=135,relMerge:=120,cas32:=152,add32:=154,tMutex:=151,tIMutex:=149,tPMutex:=200,tPIMutex:=217,tPI32:=219,tUP:=189,tNoCopy:=146,tU32:=147},canSpin:=170,IE:=171,throw:=172,nano:=173,IG:=174,fatal:=175,semrel:=176,tPU32:=195,tUint:=194}
end Go.Am
