import Derived.Test.YtkgmngkagkoepaaGreatProg
import Derived.KernelRfl
import Derived.Conc.WgLib
import Derived.Test.YtkgmngkagkoepaaGreatH6
import Derived.Test.YtkgmngkagkoepaaGreatH16
import Derived.Test.YtkgmngkagkoepaaGreatH23
set_option linter.all false
namespace Go.Am
abbrev zJ(x:Int):Value:=.int .i64 x
abbrev zN(n:Nat):Value:=.int .i64 (.ofNat n)
abbrev zS(b n c:Nat):Value:=.slice (some ⟨b,0,none⟩) n c
abbrev zP(b n:Nat):Value:=.pointer (some ⟨b,n,none⟩)
abbrev zT:Value:=.bool true
abbrev zF:Value:=.bool false
theorem VR.okV{ρ:Env}{q:Nat->Prop}{v r:Value}(k:VR ρ v r)(l:∀b,ρ.born b->q b):l7 q v:=by
 induction k with
 |bool b=>exact .bool b
 |int k n=>exact .int k n
 |string s=>exact .string s
 |fO=>exact .fO
 |ptr h=>exact .ptr (l _ h)
 |nilslice n c=>exact .nilslice n c
 |slice h _=>exact .slice (l _ h)
 |dL=>exact .dL
 |map h=>exact .map (l _ h.1)
 |dW=>exact .dW
 |chan h=>exact .chan (l _ h.1)
 |nilFunc=>exact .nilFunc
 | @func f C a D b E w m _ z _ d A=>
  refine .func ?_ (fun x e=>?_) fun x e=>?_
  ·cases w with
   |yield h=>exact l _ h.1
   |_=>trivial
  ·obtain⟨i,y,g,j⟩:=dN (ρ:=ρ) m e
   exact d i x y g j
  ·obtain⟨i,y,g,j⟩:=dN (ρ:=ρ) z e
   exact A i x y g j
 |nilIface=>exact .nilIface
 |iface _ d=>exact .iface d
 |agg m _ d=>
  refine .agg fun x e=>?_
  obtain⟨i,y,g,j⟩:=dN (ρ:=ρ) m e
  exact d i x y g j
 |tuple m _ d=>
  refine .tuple fun x e=>?_
  obtain⟨i,y,g,j⟩:=dN (ρ:=ρ) m e
  exact d i x y g j
theorem Plain.okV{p:Nat->Prop}{v:Value}(h:Plain v):l7 p v:=VR.okV (ρ:=uV) h fun b a=>a.elim
section
variable{P:Program}{Q:Value->AH->Prop}{R:Value->Prop}{c:ak}{cs:List ak}{f:FuncId}{args:Array Value}{h hA:AH}{nA:Nat}
theorem Gx:∀(l:List (Nat×aY)) {b:Nat} {B:aY},(rU l).get b=some B->(b,B)∈l
 | [],b,B,e=>by cases e
 |(c,C)::l,b,B,e=>by
  unfold rU at e;rw[Tr.dQ]at e;split at e
  ·rename_i a;subst a;cases e;exact .head _
  ·exact .tail _ (Gx l e)
end
end Go.Am
namespace Go.Am
def Gy(a:Array Oper):List Nat:=(List.range a.size).filter fun i=>aI a i==.effect
def Pm(a:Array Oper)(t:List Nat)(i:Nat):Option Nat:=((Gy a).filter fun e=>Nat.testBit (maskAt t a.size i) e).getLast?
def akE(a:Array Oper)(t:List Nat):List Nat:=
 let b:=(List.range a.size).filter fun i=>aI a i !=.effect
 (b.filter fun i=>Pm a t i==none)++(Gy a).flatMap fun e=>e::(b.filter fun i=>Pm a t i==some e)
def again(a:Array Oper)(t:List Nat)(i:Nat)(rest:List Nat):List Nat:=
 if aI a i==.eU then []else
  let b:=(Gy a).filter fun e=>!rest.contains e
  (List.range a.size).filter fun j=>!rest.contains j&&aI a j !=.effect&&!b.any fun e=>Nat.testBit (maskAt t a.size e) j
def EK(a:Array Oper)(t:List Nat):List Nat->List (Nat×List Nat)
 | []=>[]
 |i::l=>(i,again a t i l)::EK a t l
def plan:bP:=fun _ a=>EK a (jK a a.size) (akE a (jK a a.size))
end Go.Am
namespace Go.Am
noncomputable def leB(a:Nat):Nat->Bool:=Nat.rec (motive:=fun _=>Nat->Bool) (fun _=>true) (fun _ c b=>Nat.rec (motive:=fun _=>Bool) false (fun m _=>c m) b) a
theorem Gz:∀{a b:Nat},leB a b=true->a<=b
 |0,_,_=>Nat.zero_le _
 |a+1,0,h=>by cases h
 |a+1,b+1,h=>Nat.succ_le_succ (Gz (a:=a) (b:=b) h)
noncomputable def bdF(a:List Value):Option Operand->Nat->Option Nat
 |none,d=>some d
 |some x,_=>match uG a x with
  |some (.int _ (.ofNat k))=>some k
  |_=>none
noncomputable def slF(T:Tr TI)(h:AH)(a:List Value)(op:Op):Option Value:=match op with
 | .slice t x f g none=>match uG a x with
  |some (.slice (some ⟨b,d,none⟩) n c)=>match T.get t with
   |some ⟨_,.slice e,_,_⟩=>match T.get e with
    |some ⟨i,_,_,_⟩=>match h.look b with
     |some ⟨_,none,_,_⟩=>match bdF a f 0,bdF a g n with
      |some l,some u=>bif leB l u&&(leB u c&&leB n c)then some (.slice (some (bif Nat.beq c l then⟨b,d,none⟩else⟨b,d+l*i,none⟩)) (u-l) (c-l))else none
      |_,_=>none
     |_=>none
    |none=>none
   |_=>none
  |_=>none
 |_=>none
theorem WQ{v:Value}{x:Operand}{tmps:Array Value}(e:uG tmps.toList x=some v):au tmps x=v:=(jy (tmps:=tmps.toList) e).1
theorem Lu(b a k:Nat):(⟨b,a,none⟩:Addr).add k=⟨b,a+k,none⟩:=by
 unfold Addr.add;split
 ·rename_i h;rw[h];rfl
 ·rfl
section
variable{P:Program}{T:Tr TI}{h:AH}{a:Array Value}{o:Oper}{v:Value}
open Instr
theorem WR{c:IntKind}{k y:Nat}{b:BoundsCode}(d:k<=y):(sliceBound (.int c (.ofNat k)) y b).fU P h=some k:=by
 unfold sliceBound;rw[aN (show(asIntOf (.int c (.ofNat k))).fU P h=some (c,.ofNat k)from rfl)];dsimp only
 rw[if_pos ⟨Int.natCast_nonneg k,Int.ofNat_le.2 d⟩];rfl
theorem GG{x:Operand}{d w y:Nat}{b:BoundsCode}(e:bdF a.toList (some x) d=some w)(c:w<=y):(sliceBound (au a x) y b).fU P h=some w:=by
 unfold bdF at e;dsimp only at e;split at e
 ·rename_i g k f;cases e;rw[WQ f];exact WR c
 ·cases e
theorem QW{n c l u:Nat}{b f:Option Operand}(d:bdF a.toList b 0=some l)(g:bdF a.toList f n=some u)(i:l<=u)(j:u<=c):
  (sliceBounds true n c (b.map (au a)) (f.map (au a)) none).fU P h=some (l,u,c):=by
 unfold sliceBounds;dsimp only
 rw[aN (gZ c)];cases f with
 |none=>
  have e:n=u:=Option.some.inj g
  subst e;rw[Option.map_none];dsimp only
  rw[aN (gZ n)];cases b with
  |none=>
   have e:0=l:=Option.some.inj d
   subst e;rw[Option.map_none];dsimp only
   rw[aN (gZ 0)];rfl
  |some x=>
   rw[Option.map_some];dsimp only
   rw[aN (GG d i)];rfl
 |some y=>
  rw[Option.map_some];dsimp only
  rw[aN (GG g j)];cases b with
  |none=>
   have e:0=l:=Option.some.inj d
   subst e;rw[Option.map_none];dsimp only
   rw[aN (gZ 0)];rfl
  |some x=>
   rw[Option.map_some];dsimp only
   rw[aN (GG d i)];rfl
theorem WS(K:bF P T)(e:slF T h a.toList o.op=some v):cu o=false/\kZ P h (au a) o=true/\(execOp (au a) o).fU P h=some (.value v):=by
 unfold slF at e;split at e
 ·rename_i t x s w f;split at e
  ·rename_i b g n c y;have q:=WQ y
   split at e
   ·rename_i N O Q R z;split at e
    ·rename_i A U V r m;split at e
     ·rename_i B W X C;split at e
      ·rename_i l u D E;cases d:(leB l u&&(leB u c&&leB n c))with
       |false=>rw[d]at e;cases e
       |true=>
        rw[d]at e;cases e;simp only[Bool.and_eq_true]at d;replace d:=(⟨Gz d.1,Gz d.2.1,Gz d.2.2⟩:l<=u/\u<=c/\n<=c)
        obtain⟨F,H,J⟩:=d
        have i:=(K.get _ _ z).1;obtain⟨L,p,k⟩:=(K.get _ _ m).2.1;dsimp only at k;refine⟨by unfold cu;rw[f],?_,?_⟩
        ·unfold kZ;rw[f];dsimp only
         rw[q];unfold Pn;rw[i];dsimp only
         rw[C];simp[J]
        ·unfold execOp;rw[f];dsimp only
         rw[q];have:(Instr.sliceAt t (.slice (some ⟨b,g,none⟩) n c) (s.map (au a)) (w.map (au a)) none).fU P h=some (.slice (some (bif Nat.beq c l then⟨b,g,none⟩else⟨b,g+l*A,none⟩)) (u-l) (c-l)):=by
          unfold Instr.sliceAt;rw[aN (fV i)];dsimp only
          unfold Instr.slice;rw[aN (fV i)];dsimp only
          rw[aN (QW D E F H)];dsimp only
          rw[aN (pI p),k];rw[gZ];by_cases j:c=l
          ·subst j;rw[if_pos rfl,show Nat.beq c c=true from Nat.beq_refl c];rfl
          ·rw[if_neg j,show Nat.beq c l=false from by cases M:Nat.beq c l with|false=>rfl|true=>exact absurd (Nat.eq_of_beq_eq_true M) j];rw[Option.map_some,Lu];rfl
         exact aN this
      ·cases e
     ·cases e
    ·cases e
   ·cases e
  ·cases e
 ·cases e
noncomputable def eqF(P:Program)(T:Tr TI)(h:AH)(b:Array Oper)(a:Array Value)(i:Nat):Bool:=match nth b.toList i with
 |some o=>match slF T h a.toList o.op with
  |some v=>match o.dst with
   |some d=>match nth a.toList d with
    |some w=>bU o&&Region.wanted o (yielded b a)&&decide (kindOf o=.eU)&&iI 9 w v
    |none=>false
   |none=>false
  |none=>eqB P h b a i
 |none=>false
theorem ae2(K:bF P T){b:Array Oper}{i:Nat}(k:eqF P T h b a i=true):eqB P h b a i=true:=by
 unfold eqF at k;split at k
 ·rename_i o g;rw[jw,show((⟨b.toList⟩:Array Oper))=b from rfl]at g;split at k
  ·rename_i v e;split at k
   ·rename_i d hd;split at k
    ·rename_i w j;rw[jw,show((⟨a.toList⟩:Array Value))=a from rfl]at j;simp only[Bool.and_eq_true]at k;obtain⟨⟨⟨l,m⟩,p⟩,q⟩:=k
     obtain⟨_,r,s⟩:=WS K e
     have f:fZ P h a o=some v:=by unfold fZ;rw[if_pos (by rw[l,r];rfl),s]
     unfold eqB;rw[g];dsimp only
     rw[hd];dsimp only
     rw[j];dsimp only
     rw[m];dsimp only
     split
     ·rename_i t c;rw[c]at e;cases e
     ·rename_i t n u c;rw[c]at e;cases e
     ·rw[p,f];exact q
    ·cases k
   ·cases k
  ·exact k
 ·cases k
noncomputable def sU(P:Program)(T:Tr TI)(b:Array Oper)(c:List Nat)(a:Array Value)(h:AH):Bool:=c.all (eqF P T h b a)
theorem sV(K:bF P T){b:Array Oper}{c:List Nat}(k:sU P T b c a h=true):recheck P b c a h=true:=by
 unfold sU at k;unfold recheck;rw[List.all_eq_true]at k⊢;exact fun x d=>ae2 K (k x d)
end
end Go.Am
namespace Go.Am
inductive HT where
 |no
 |ret (n m:Nat)
 |cut (n m:Nat)
 |br (n m t:Nat) (a b:HT)
 |val (n m t:Nat) (k:HT)
 |ZW (n m t:Nat) (c:Int) (a b:HT)
 |ov (n m:Nat) (k:HT)
 |GH (n m:Nat) (κ:IntKind) (k:HT)
 |ahM (n m:Nat) (k:HT)
 |aW (n m i:Nat) (k:HT)
 |rk (n m:Nat) (k:HT)
 |cas (n m t:Nat) (v:Value) (a b:HT)
abbrev HT.call(n m:Nat)(k:HT):HT:=.aW n m 0 k
noncomputable section
structure TX where
 P:Program
 T:Tr TI
 Fu:Tr Func
 Γ:Nat->FuncId->Array Value->AH->(Value->Prop)->Prop
variable(X:TX)
def qV(n m:Nat)(s:AS):Option AS:=match Bg X.P plan X.T X.Fu n s with
 |some (.go a)=>match uI X.P plan m a with
  |some (.go b)=>some b
  |_=>none
 |_=>none
def ahN(n m:Nat)(s:AS):Option Value:=match Bg X.P plan X.T X.Fu n s with
 |some (.go a)=>match uI X.P plan m a with
  |some (.ret v _)=>some v
  |_=>none
 |_=>none
def LC(s:AS)(t:Nat)(v:Value):AS:=ru v s.fr.tmps.toList t fun l=>⟨⟨s.fr.fn,⟨l⟩,s.fr.todo,s.fr.defers,s.fr.ret,s.fr.round,s.fr.dk⟩,s.cs,s.h⟩
def BR(c:Bool)(A B:Prop):Prop:=(c=true->A)/\(c=false->B)
def RK(c:Bool)(A:Prop):Prop:=c=true/\A
def SP(e c:Int)(A B:Prop):Prop:=(e=c->A)/\(¬e=c->B)
def CS(p A B:Prop):Prop:=(p->A)/\(¬p->B)
def opQ(s:AS):Option Oper:=match s.fr.ret,s.fr.todo with
 |false,.region a (i::_)::_=>match nth a.toList i with
  |some o=>if Region.wanted o (yielded a s.fr.tmps)&&bU o then some o else none
  |none=>none
 |false,.drawn a ((i,_)::_)::_=>match nth a.toList i with
  |some o=>if Region.wanted o (yielded a s.fr.tmps)&&bU o&&decide (aI a i=.eU)then some o else none
  |none=>none
 |_,_=>none
def LD(s:AS)(v:Value):Option AS:=match s.fr.todo with
 | .region a (i::l)::k=>match nth a.toList i with
  |some o=>match o.dst with
   |some d=>some (ru v s.fr.tmps.toList d fun t=>⟨⟨s.fr.fn,⟨t⟩,.region a l::k,s.fr.defers,s.fr.ret,s.fr.round,s.fr.dk⟩,s.cs,s.h⟩)
   |none=>none
  |none=>none
 | .drawn a ((i,_)::l)::k=>match nth a.toList i with
  |some o=>match o.dst with
   |some d=>bif Nat.blt d s.fr.tmps.toList.length then some (ru v s.fr.tmps.toList d fun t=>⟨⟨s.fr.fn,⟨t⟩,.drawn a l::k,s.fr.defers,s.fr.ret,s.fr.round,s.fr.dk⟩,s.cs,s.h⟩)else none
   |none=>none
  |none=>none
 |_=>none
def ovF(T:Tr TI)(h:AH)(c:List Value)(op:Op):Option (Prop×Value):=match op with
 | .indexAddr t x i=>match uG c x,uG c i with
  |some (.slice (some ⟨b,d,none⟩) f _),some (.int _ n)=>match T.get t with
   |some ⟨_,.slice e,_,_⟩=>match T.get e with
    |some ⟨g,_,_,_⟩=>some (0<=n/\n<f,.pointer (some ⟨b,d+n.toNat*g,none⟩))
    |none=>none
   |_=>none
  |_,_=>none
 | .binOp op _ x y _=>match uG c x,uG c y with
  |some (.int k a),some (.int j b)=>if k=j then match op with
   | .quo=>some (b≠0,.int k (k.wrap (a.tdiv b)))
   | .rem=>some (b≠0,.int k (a.tmod b))
   |_=>none else none
  |_,_=>none
 | .slice t x l m o=>match slF T h c (.slice t x l m o)with
  |some v=>some (True,v)
  |none=>none
 |_=>none
def ldF(T:Tr TI)(h:AH)(b:List Value)(op:Op):Option (Option Value):=match op with
 | .load t x=>match uG b x with
  |some (.pointer (some a))=>match T.get t with
   |some ⟨_,d,_,_⟩=>bif xW d then none else some (Oa h a)
   |none=>none
  |_=>none
 |_=>none
def Po(s:AS):Option (FuncId×Array Value×AH):=match s.fr.ret,s.fr.todo with
 |false,.region a (i::_)::_=>match nth a.toList i with
  |some o=>if Region.wanted o (yielded a s.fr.tmps)then match bV X.P none s.h s.fr.tmps o with
   |some (.enter f args,h)=>some (f,args,h)
   |_=>none else none
  |none=>none
 |false,.drawn a ((i,_)::_)::_=>match nth a.toList i with
  |some o=>if decide (aI a i=.effect)&&Region.wanted o (yielded a s.fr.tmps)then match bV X.P none s.h s.fr.tmps o with
   |some (.enter f args,h)=>some (f,args,h)
   |_=>none else none
  |none=>none
 |_,_=>none
def EL(f:ak)(h:AH)(v:Value):Option (Bool×ak):=match f.todo with
 | .drawn b ((i,c)::rest)::k=>if aI b i=.effect then some (sU X.P X.T b c (dM f.tmps (cZ b i) v) h,{f with tmps:=dM f.tmps (cZ b i) v,todo:=.drawn b rest::k})else none
 |_=>match aF X.P f h v with
  |some a=>some (true,a)
  |none=>none
def ae3(s:AS):Option (Bool×AS):=match s.fr.ret,s.fr.defers,s.fr.dk,s.cs with
 |true,[],false,c::d=>match X.P.funcs[s.fr.fn]? with
  |some e=>match(results e s.fr.tmps).ar X.P none s.h with
   |some (v,h)=>match EL X c h v with
    |some (b,a)=>some (b,⟨a,d,h⟩)
    |none=>none
   |none=>none
  |none=>none
 |_,_,_,_=>none
def WU(s:AS):Option (Bool×AS):=match s.fr.ret with
 |true=>ae3 X s
 |false=>match s.fr.todo with
  | .drawn c ((i,again)::l)::k=>match nth c.toList i with
   |some o=>if Region.wanted o (yielded c s.fr.tmps)then match aI c i with
    | .effect=>match bV X.P none s.h s.fr.tmps o with
     |some (.value v,h)=>match EL X s.fr h v with
      |some (b,a)=>some (b,⟨a,s.cs,h⟩)
      |none=>none
     |some (.skip,h)=>match EL X s.fr h undef with
      |some (b,a)=>some (b,⟨a,s.cs,h⟩)
      |none=>none
     |_=>none
    | .alloc=>match o.dst with
     |some d=>if d<s.fr.tmps.size then match o.op with
      | .alloc t=>match zeroOf X.P t with
       |some z=>some (sU X.P X.T c again (s.fr.tmps.setIfInBounds d (.pointer (some ⟨s.h.n,0,none⟩))) (s.h.new (.cells z.cells t (0,0))),
         {s with fr:={s.fr with tmps:=s.fr.tmps.setIfInBounds d (.pointer (some ⟨s.h.n,0,none⟩)),todo:=.drawn c l::k},h:=s.h.new (.cells z.cells t (0,0))})
       |none=>none
      | .buildSlice t n m=>match iY X.P (au s.fr.tmps) t n m with
       |some (e,cells)=>if bU o then some (sU X.P X.T c again (s.fr.tmps.setIfInBounds d (.slice (some ⟨s.h.n,0,none⟩) n n)) (s.h.new (.cells cells e (0,0))),
         {s with fr:={s.fr with tmps:=s.fr.tmps.setIfInBounds d (.slice (some ⟨s.h.n,0,none⟩) n n),todo:=.drawn c l::k},h:=s.h.new (.cells cells e (0,0))})else none
       |none=>none
      |_=>none else none
     |none=>none
    | .eU=>none else none
   |none=>none
  |_=>none
def tx(Q:Value->Prop)(K:AS->Prop):HT->AS->Prop
 | .no,_=>False
 | .ret n m,s=>match ahN X n m s with
  |some v=>Q v
  |none=>False
 | .cut n m,s=>match qV X n m s with
  |some s=>K s
  |none=>False
 | .br n m t a b,s=>match qV X n m s with
  |some s=>match nth s.fr.tmps.toList t with
   |some (.bool c)=>BR c (tx Q K a (LC s t (.bool true))) (tx Q K b (LC s t (.bool false)))
   |_=>False
  |none=>False
 | .val n m t k,s=>match qV X n m s with
  |some s=>match nth s.fr.tmps.toList t with
   |some (.int d e)=>∀x:Int,x=e->tx Q K k (LC s t (.int d x))
   |_=>False
  |none=>False
 | .ZW n m t c a b,s=>match qV X n m s with
  |some s=>match nth s.fr.tmps.toList t with
   |some (.int d e)=>SP e c (tx Q K a (LC s t (.int d c))) (tx Q K b s)
   |_=>False
  |none=>False
 | .ov n m k,s=>match qV X n m s with
  |some s=>match opQ s with
   |some o=>match ovF X.T s.h s.fr.tmps.toList o.op with
    |some (p,v)=>match LD s v with
     |some s=>p/\tx Q K k s
     |none=>False
    |none=>False
   |none=>False
  |none=>False
 | .GH n m d k,s=>match qV X n m s with
  |some s=>match opQ s with
   |some o=>match ldF X.T s.h s.fr.tmps.toList o.op with
    |some u=>∃x:Int,u=some (.int d x)/\match LD s (.int d x)with
     |some s=>tx Q K k s
     |none=>False
    |none=>False
   |none=>False
  |none=>False
 | .ahM n m k,s=>match qV X n m s with
  |some s=>match opQ s with
   |some o=>match ldF X.T s.h s.fr.tmps.toList o.op with
    |some u=>∃x:Bool,u=some (.bool x)/\match LD s (.bool x)with
     |some s=>tx Q K k s
     |none=>False
    |none=>False
   |none=>False
  |none=>False
 | .aW n m i k,s=>match qV X n m s with
  |some s=>match Po X s with
   |some (f,args,h)=>X.Γ i f args h fun v=>match EL X s.fr h v with
    |some (c,a)=>RK c (tx Q K k ⟨a,s.cs,h⟩)
    |none=>False
   |none=>False
  |none=>False
 | .rk n m k,s=>match qV X n m s with
  |some s=>match WU X s with
   |some (c,s)=>RK c (tx Q K k s)
   |none=>False
  |none=>False
 | .cas n m t v a b,s=>match qV X n m s with
  |some s=>match nth s.fr.tmps.toList t with
   |some u=>CS (u=v) (tx Q K a (LC s t v)) (tx Q K b s)
   |none=>False
  |none=>False
end
def GI(P:Program)(f:FuncId)(args:Array Value)(h:AH)(post:Value->Prop):Prop:=
 ∀(c:ak) (b:List ak),(∀v,post v->∃a,aF P c h v=some a)->bT P (fun d=>∃v a,post v/\aF P c h v=some a/\d=⟨a,b,h⟩) ⟨ak.enter P f args,c::b,h⟩
structure Cl(P:Program)(Q:Value->Prop)(K:AS->Prop)(G:AS->Prop):Prop where
 runs:∀s,bT P G s->G s
 ret:∀s v,(∀R:Value->AH->Prop,(∀h,R v h)->iV P plan R s)->Q v->G s
 cut:∀s,K s->G s
structure GK(X:TX):Prop where
 Z:aP X.P
 T:bF X.P X.T
 Fu:gK X.P X.Fu
 Γ:∀i f args h post,X.Γ i f args h post->GI X.P f args h post
section
variable{X:TX}{Q:Value->Prop}{K G:AS->Prop}{s b:AS}{n m t:Nat}{v:Value}{c:ak}{cs:List ak}{h:AH}
theorem oZ(e:nth s.fr.tmps.toList t=some v):LC s t v=s:=by
 unfold LC;rw[jA];rw[iR]at e;have:s.fr.tmps.toList.set t v=s.fr.tmps.toList:=by
  apply List.ext_getElem?;intro i;rw[List.getElem?_set];split
  ·rename_i a;subst a;split
   ·exact e.symm
   ·rename_i d;rw[List.getElem?_eq_none (by omega)]at e;cases e
  ·rfl
 rw[this]
theorem dZ(f:GK X)(e:qV X n m s=some b):To X.P plan b s:=by
 unfold qV at e;split at e
 ·rename_i g a;split at e
  ·rename_i i d;cases e;exact(rQ f.T f.Fu n a).bind fun s h=>by subst h;exact fG m d (.here rfl)
  ·cases e
 ·cases e
theorem WV{o:Oper}(e:opQ s=some o):s.fr.ret=false/\bU o=true/\((∃a i l k,s.fr.todo=.region a (i::l)::k/\a[i]?=some o/\Region.wanted o (yielded a s.fr.tmps)=true)∨
  ∃a i c l k,s.fr.todo=.drawn a ((i,c)::l)::k/\a[i]?=some o/\Region.wanted o (yielded a s.fr.tmps)=true/\aI a i=.eU):=by
 unfold opQ at e;split at e
 ·rename_i a i l k g j;split at e
  ·rename_i p f;split at e
   ·rename_i d;cases e;rw[Bool.and_eq_true]at d;rw[iR]at f;exact⟨g,d.2,.inl ⟨a,i,l,k,j,by simpa using f,d.1⟩⟩
   ·cases e
  ·cases e
 ·rename_i a i c l k g j;split at e
  ·rename_i p f;split at e
   ·rename_i d;cases e;simp only[Bool.and_eq_true,decide_eq_true_eq]at d;rw[iR]at f;exact⟨g,d.1.2,.inr ⟨a,i,c,l,k,j,by simpa using f,d.1.1,d.2⟩⟩
   ·cases e
  ·cases e
 ·cases e
theorem Pq(a:Array Value)(d:Nat)(v:Value):(⟨a.toList.set d v⟩:Array Value)=a.setIfInBounds d v:=by
 apply Array.toList_inj.1;simp
theorem GL{o:Oper}(e:opQ s=some o)(w:cu o=false)(E:kZ X.P s.h (au s.fr.tmps) o=true)(F:(execOp (au s.fr.tmps) o).fU X.P s.h=some (.value v))(a:LD s v=some b):aH X.P plan none s=some (.go b):=by
 obtain⟨r,H,J⟩:=WV e
 rcases J with⟨f,i,l,k,p,j,y⟩|⟨f,i,c,l,k,p,j,y,z⟩
 ·have A:bV X.P none s.h s.fr.tmps o=some (.value v,s.h):=by unfold bV;rw[if_neg (by rw[w];decide),if_pos (by rw[H,E];rfl)];exact Ba _ F
  unfold aH;rw[r];dsimp only
  rw[p];dsimp only
  rw[j];dsimp only
  rw[if_pos y,A];unfold LD at a;rw[p]at a;dsimp only at a;rw[jw]at a;rw[show((⟨f.toList⟩:Array Oper))=f from rfl,j]at a;dsimp only at a;split at a
  ·rename_i d hd;rw[jA]at a;cases a;unfold dn aF;dsimp only
   rw[p];dsimp only
   rw[j];simp only[Option.bind_some,Option.map_some,hd,dM,Pq,r]
  ·cases a
 ·have L:o.dst≠none:=by intro hd;unfold LD at a;rw[p]at a;dsimp only at a;rw[jw]at a;rw[show((⟨f.toList⟩:Array Oper))=f from rfl,j]at a;dsimp only at a;rw[hd]at a;cases a
  have g:kindOf o=.eU:=by rw[←EM j (by rw[z];intro x;cases x)];exact z
  have B:fZ X.P s.h s.fr.tmps o=some v:=by unfold fZ;rw[if_pos (by rw[H,E];rfl),F]
  unfold LD at a;rw[p]at a;dsimp only at a;rw[jw]at a;rw[show((⟨f.toList⟩:Array Oper))=f from rfl,j]at a;dsimp only at a;split at a
  ·rename_i d hd;cases C:Nat.blt d s.fr.tmps.toList.length with
   |false=>rw[C]at a;cases a
   |true=>
    rw[C,jA]at a;cases a;have D:d<s.fr.tmps.size:=by
     have M:d+1<=s.fr.tmps.toList.length:=Nat.le_of_ble_eq_true C
     exact Nat.le_trans M (Nat.le_of_eq (by simp))
    unfold aH;rw[r];dsimp only
    rw[p];dsimp only
    rw[j];dsimp only
    rw[z];dsimp only
    rw[hd];dsimp only
    rw[if_pos D,if_pos y];have N:∀t,o.op≠.alloc t:=fun t x=>by unfold kindOf at g;rw[x]at g;cases g
    have O:∀t n u,o.op≠.buildSlice t n u:=fun t n u x=>by unfold kindOf at g;rw[x]at g;cases g
    split
    ·rename_i t q;exact absurd q (N t)
    ·rename_i t n u q;exact absurd q (O t n u)
    ·rw[B];dsimp only
     rw[Pq];simp only[r]
  ·cases a
end
end Go.Am
namespace Go.Am
section
variable{X:TX}{Q:Value->Prop}{K G:AS->Prop}{s j:AS}{n m t:Nat}{v:Value}{c:ak}{q:List ak}{h:AH}
theorem Cb{x:Operand}{tmps:Array Value}(e:uG tmps.toList x=some v):au tmps x=v:=(jy (tmps:=tmps.toList) e).1
theorem add_plain(b a k:Nat):(⟨b,a,none⟩:Addr).add k=⟨b,a+k,none⟩:=by
 unfold Addr.add;split
 ·rename_i h;rw[h];rfl
 ·rfl
theorem ae4(K:bF X.P X.T){o:Oper}{f:Array Value}{p:Prop}(e:ovF X.T h f.toList o.op=some (p,v))(J:p):cu o=false/\kZ X.P h (au f) o=true/\(execOp (au f) o).fU X.P h=some (.value v):=by
 unfold ovF at e;split at e
 ·rename_i t x i d;split at e
  ·rename_i b g B C k n D L;have u:=Cb D
   have A:=Cb L
   split at e
   ·rename_i Y Z z N O;split at e
    ·rename_i E u' z' M F;cases e;have l:=(K.get _ _ O).1;obtain⟨R,H,r⟩:=(K.get _ _ F).2.1;dsimp only at r;refine⟨by unfold cu;rw[d],by unfold kZ;rw[d],?_⟩;have:(Instr.indexAt t (.slice (some ⟨b,g,none⟩) B C) (.int k n)).fU X.P h=some (.pointer (some ⟨b,g+n.toNat*E,none⟩)):=by
      unfold Instr.indexAt;rw[aN (show(asIntOf (.int k n)).fU X.P h=some (k,n)from rfl)];dsimp only
      rw[aN (fV l)];dsimp only
      rw[aN (gZ _)];dsimp only
      rw[aN (fV l)];dsimp only
      rw[if_pos J,aN (pI H),r,←add_plain];rfl
     unfold execOp;rw[d];dsimp only
     rw[u,A];exact aN this
    ·cases e
   ·cases e
  ·cases e
 ·rename_i op t x y z d;split at e
  ·rename_i k a k' b D U;have u:=Cb D
   have A:=Cb U
   split at e
   ·rename_i V;subst V;refine⟨by unfold cu;rw[d],by unfold kZ;rw[d];dsimp only;rw[u,A];rfl,?_⟩;unfold execOp;rw[d];dsimp only
    rw[u,A];cases op<;>first|(cases e;done)|skip
    all_goals
     cases e;simp only[eqGuard,Go.binOp,Go.Op.intDiv,if_neg J]
     simp[pure,bind,Sem.bind,Sem.fU]
   ·cases e
  ·cases e
 ·rename_i t x lo L mx d;split at e
  ·rename_i w W;cases e;exact WS K (by rw[d];exact W)
  ·cases e
 ·cases e
theorem WW(K:bF X.P X.T){o:Oper}{b:Array Value}(e:ldF X.T h b.toList o.op=some (some v)):cu o=false/\kZ X.P h (au b) o=true/\(execOp (au b) o).fU X.P h=some (.value v):=by
 unfold ldF at e;split at e
 ·rename_i t x f;split at e
  ·rename_i a l;have p:=Cb l
   split at e
   ·rename_i w d z r u;have i:=(K.get _ _ u).1;cases k:xW d with
    |true=>rw[k]at e;cases e
    |false=>
     rw[k]at e;dsimp only[cond_false]at e;simp only[Option.some.injEq]at e;refine⟨by unfold cu;rw[f],by unfold kZ;rw[f],?_⟩;have:(Instr.loadAt t (.pointer (some a))).fU X.P h=some v:=by
      unfold Instr.loadAt;rw[aN (show(Instr.sureAddr (.pointer (some a))).fU X.P h=some a from rfl)];unfold loadVar;have g:(isAgg t).fU X.P h=some (xW d):=by
       unfold isAgg;rw[aN (fV i)];dsimp only
       cases d<;>rfl
      rw[aN g,k];simp only[Bool.false_eq_true,if_false]
      unfold load;rw[Sem.fU.eq_def];dsimp only
      rw[Bc e];rfl
     unfold execOp;rw[f];dsimp only
     rw[p];exact aN this
   ·cases e
  ·cases e
 ·cases e
theorem nD(K:bF X.P X.T){b:Bool}{a:ak}{f:ak}(e:EL X f h v=some (b,a))(d:b=true):aF X.P f h v=some a:=by
 unfold EL at e;split at e
 ·rename_i g i c rest k l;split at e
  ·rename_i o;cases e;unfold aF;rw[l];dsimp only
   rw[if_pos ⟨o,sV K d⟩]
  ·cases e
 ·split at e
  ·rename_i r p;cases e;exact p
  ·cases e
theorem QX(K:bF X.P X.T){b:Bool}(e:ae3 X s=some (b,j))(d:b=true):aH X.P plan none s=some (.go j):=by
 unfold ae3 at e;split at e
 ·rename_i c q f g i k;split at e
  ·rename_i r l;split at e
   ·rename_i v h o;split at e
    ·rename_i u a p;cases e;have:=nD K p d
     unfold aH;rw[f];dsimp only
     unfold nN;rw[g];dsimp only
     rw[l];dsimp only
     rw[o];dsimp only
     unfold uF;rw[i,k];simp[this]
    ·cases e
   ·cases e
  ·cases e
 ·cases e
theorem LG(K:bF X.P X.T){b:Bool}(e:WU X s=some (b,j))(g:b=true):aH X.P plan none s=some (.go j):=by
 unfold WU at e;split at e
 ·exact QX K e g
 ·rename_i E;split at e
  ·rename_i p i again l k F;split at e
   ·rename_i o B;rw[jw,show((⟨p.toList⟩:Array Oper))=p from rfl]at B;split at e
    ·rename_i C;unfold aH;rw[E];dsimp only
     rw[F];dsimp only
     rw[B];dsimp only
     split at e
     ·rename_i r;rw[r];dsimp only
      rw[if_pos C];split at e
      ·rename_i v h u;split at e
       ·rename_i H a w;cases e;rw[u];unfold dn;dsimp only
        rw[nD K w g];rfl
       ·cases e
      ·rename_i h u;split at e
       ·rename_i H a w;cases e;rw[u];unfold dn;dsimp only
        rw[nD K w g];rfl
       ·cases e
      ·cases e
     ·rename_i r;rw[r];dsimp only
      split at e
      ·rename_i d hd;rw[hd];dsimp only
       split at e
       ·rename_i x;rw[if_pos x,if_pos C];split at e
        ·rename_i t f;split at e
         ·rename_i z J;cases e;rw[f];dsimp only
          rw[J];dsimp only
          rw[if_pos (sV K g)]
         ·cases e
        ·rename_i t n L f;split at e
         ·rename_i D cells y;split at e
          ·rename_i A;cases e;rw[f];dsimp only
           rw[y];dsimp only
           rw[A,sV K g];rfl
          ·cases e
         ·cases e
        ·cases e
       ·cases e
      ·cases e
     ·cases e
    ·cases e
   ·cases e
  ·cases e
theorem LH{f:FuncId}{args:Array Value}(e:Po X s=some (f,args,h)):aH X.P plan none s=some (.go ⟨ak.enter X.P f args,s.fr::s.cs,h⟩):=by
 unfold Po at e;split at e
 ·rename_i a i l k p r;split at e
  ·rename_i o d;split at e
   ·rename_i g;split at e
    ·rename_i w b x u;cases e;rw[jw,show((⟨a.toList⟩:Array Oper))=a from rfl]at d;unfold aH;rw[p];dsimp only
     rw[r];dsimp only
     rw[d];dsimp only
     rw[if_pos g,u];rfl
    ·cases e
   ·cases e
  ·cases e
 ·rename_i a i c l k p r;split at e
  ·rename_i o d;split at e
   ·rename_i g;simp only[Bool.and_eq_true,decide_eq_true_eq]at g;split at e
    ·rename_i w b x u;cases e;rw[jw,show((⟨a.toList⟩:Array Oper))=a from rfl]at d;unfold aH;rw[p];dsimp only
     rw[r];dsimp only
     rw[d];dsimp only
     rw[g.1];dsimp only
     rw[if_pos g.2,u];rfl
    ·cases e
   ·cases e
  ·cases e
 ·cases e
theorem acA[aP X.P](w:GK X)(C:Cl X.P Q K G):∀(T:HT) (s:AS),tx X Q K T s->G s:=by
 have r:∀{s j:AS},To X.P plan j s->G j->G s:=fun k g=>C.runs _ ((k.bind fun s h=>by subst h;exact .here g).runs)
 have one:∀{s j:AS},aH X.P plan none s=some (.go j)->G j->G s:=fun e g=>r (bG.one e (.here rfl)) g
 intro T;induction T with
 |no=>intro s k;exact k.elim
 |ret n m=>
  intro s k;unfold tx at k;split at k
  ·rename_i v y;refine C.ret s v (fun R hR=>?_) k;unfold ahN at y;split at y
   ·rename_i l d;split at y
    ·rename_i v' h' F;cases y;exact(rQ w.T w.Fu n d).all (BX m F (hR _))
    ·cases y
   ·cases y
  ·exact k.elim
 |cut n m=>
  intro s k;unfold tx at k;split at k
  ·rename_i l d;exact r (dZ w d) (C.cut _ k)
  ·exact k.elim
 |br n m t a b z A=>
  intro s k;unfold tx at k;split at k
  ·rename_i l d;refine r (dZ w d) ?_;split at k
   ·rename_i c E;cases c with
    |true=>have:=k.1 rfl;rw[oZ E]at this;exact z _ this
    |false=>have:=k.2 rfl;rw[oZ E]at this;exact A _ this
   ·exact k.elim
  ·exact k.elim
 |val n m t k B=>
  intro s k;unfold tx at k;split at k
  ·rename_i l d;refine r (dZ w d) ?_;split at k
   ·rename_i Z e E;have:=k e rfl
    rw[oZ E]at this;exact B _ this
   ·exact k.elim
  ·exact k.elim
 |ZW n m t c a b z A=>
  intro s k;unfold tx at k;split at k
  ·rename_i l d;refine r (dZ w d) ?_;split at k
   ·rename_i Z e E;by_cases H:e=c
    ·subst H;have:=k.1 rfl;rw[oZ E]at this;exact z _ this
    ·exact A _ (k.2 H)
   ·exact k.elim
  ·exact k.elim
 |ov n m k B=>
  intro s k;unfold tx at k;split at k
  ·rename_i l d;refine r (dZ w d) ?_;split at k
   ·rename_i o J;split at k
    ·rename_i p v y;split at k
     ·rename_i D L;obtain⟨M,N,O⟩:=ae4 (h:=l.h) w.T y k.1;exact one (GL J M N O L) (B _ k.2)
     ·exact k.elim
    ·exact k.elim
   ·exact k.elim
  ·exact k.elim
 |GH n m Z k B=>
  intro s k;unfold tx at k;split at k
  ·rename_i l d;refine r (dZ w d) ?_;split at k
   ·rename_i o J;split at k
    ·rename_i u V;obtain⟨x,rfl,k⟩:=k
     split at k
     ·rename_i D L;obtain⟨M,N,O⟩:=WW w.T V
      exact one (GL J M N O L) (B _ k)
     ·exact k.elim
    ·exact k.elim
   ·exact k.elim
  ·exact k.elim
 |ahM n m k B=>
  intro s k;unfold tx at k;split at k
  ·rename_i l d;refine r (dZ w d) ?_;split at k
   ·rename_i o J;split at k
    ·rename_i u V;obtain⟨x,rfl,k⟩:=k
     split at k
     ·rename_i D L;obtain⟨M,N,O⟩:=WW w.T V
      exact one (GL J M N O L) (B _ k)
     ·exact k.elim
    ·exact k.elim
   ·exact k.elim
  ·exact k.elim
 |aW n m i k B=>
  intro s k;unfold tx at k;split at k
  ·rename_i l d;refine r (dZ w d) ?_;split at k
   ·rename_i f args h W;refine one (LH W) (C.runs _ ((w.Γ _ _ _ _ _ k l.fr l.cs fun v y=>?_).bind ?_))
    ·split at y
     ·rename_i c a Y;exact⟨a,nD w.T Y y.1⟩
     ·exact y.elim
    ·rintro j ⟨v,a',y,U,rfl⟩;split at y
     ·rename_i c a Y;rw[nD w.T Y y.1]at U;cases U;exact bT.here (B _ y.2)
     ·exact y.elim
   ·exact k.elim
  ·exact k.elim
 |rk n m k B=>
  intro s k;unfold tx at k;split at k
  ·rename_i l d;refine r (dZ w d) ?_;split at k
   ·rename_i c D W;exact one (LG w.T W k.1) (B _ k.2)
   ·exact k.elim
  ·exact k.elim
 |cas n m t v a b z A=>
  intro s k;unfold tx at k;split at k
  ·rename_i l d;refine r (dZ w d) ?_;split at k
   ·rename_i u E;by_cases H:u=v
    ·subst H;have:=k.1 rfl;rw[oZ E]at this;exact z _ this
    ·exact A _ (k.2 H)
   ·exact k.elim
  ·exact k.elim
theorem aaG[aP X.P](b:GK X){a:Value->AH->Prop}(T:HT)(k:tx X (fun v=>∀h,a v h) (fun s=>bu X.P a s) T s):bu X.P a s:=
 acA (G:=fun s=>bu X.P a s) b ⟨fun s r=>r.Dw fun _ x=>x,fun s v d e=>(d a e).Dw,fun s x=>x⟩ T s k
theorem aaH[aP X.P](a:GK X)(T:HT)(k:tx X (fun _=>False) K T s):bT X.P K s:=
 acA (G:=fun s=>bT X.P K s) a ⟨fun s r=>r.bind fun _ x=>x,fun s v d b=>b.elim,fun s x=>bT.here x⟩ T s k
end
theorem BR.mk{p:Prop}[Decidable p]{A B:Prop}(a:p->A)(b:¬p->B):BR (decide p) A B:=⟨fun h=>a (of_decide_eq_true h),fun h=>b (of_decide_eq_false h)⟩
theorem RK.mk{A:Prop}(a:A):RK true A:=⟨rfl,a⟩
theorem SP.mk{e c:Int}{A B:Prop}(a:e=c->A)(b:¬e=c->B):SP e c A B:=⟨a,b⟩
end Go.Am
namespace Go.Am
theorem ai{X:TX}(a:GK X){Q:Value->AH->Prop}{T:HT}{s:AS}{N:Prop}(e:tx X (fun v=>∀h,Q v h) (fun s=>bu X.P Q s) T s=N)(k:N):bu X.P Q s:=haveI:=a.Z;aaG a T (e▸k)
theorem dJ{X:TX}(a:GK X){K:AS->Prop}{T:HT}{s:AS}{N:Prop}(e:tx X (fun _=>False) K T s=N)(k:N):bT X.P K s:=haveI:=a.Z;aaH a T (e▸k)
section
variable{p:Prop}[Decidable p]{A B:Prop}{a b c e:Int}{F:Int->Prop}
theorem BR.l(h:p)(k:A):BR (decide p) A B:=BR.mk (fun _=>k) fun n=>absurd h n
theorem BR.r(h:¬p)(k:B):BR (decide p) A B:=BR.mk (fun y=>absurd y h) fun _=>k
theorem BR.nm(k:¬p->A)(l:p->B):BR (!decide p) A B:=⟨fun h=>k (by simpa using h),fun h=>l (by simpa using h)⟩
theorem BR.nl(h:¬p)(k:A):BR (!decide p) A B:=BR.nm (fun _=>k) fun y=>absurd y h
theorem BR.nr(h:p)(k:B):BR (!decide p) A B:=BR.nm (fun y=>absurd h y) fun _=>k
theorem SP.l(h:e=c)(k:A):SP e c A B:=⟨fun _=>k,fun n=>absurd h n⟩
theorem vw(d:-9223372036854775808<=e)(f:e<=9223372036854775807)(k:∀x,x=e->F x):∀x,x=IntKind.i64.wrap e->F x:=fun x g=>k x (by rw[g,gu d f])
theorem ae5(i:-3000000<=a)(j:a<=3000000)(k:-3000000<=b)(l:b<=3000000):-9000000000000<=a*b/\a*b<=9000000000000:=by
 have d:0<=(3000000-a)*(3000000-b):=Int.mul_nonneg (by omega) (by omega)
 have f:0<=(3000000+a)*(3000000+b):=Int.mul_nonneg (by omega) (by omega)
 have g:0<=(3000000-a)*(3000000+b):=Int.mul_nonneg (by omega) (by omega)
 have h:0<=(3000000+a)*(3000000-b):=Int.mul_nonneg (by omega) (by omega)
 rw[Int.sub_mul,Int.mul_sub,Int.mul_sub]at d;rw[Int.add_mul,Int.mul_add,Int.mul_add]at f;rw[Int.sub_mul,Int.mul_add,Int.mul_add]at g;rw[Int.add_mul,Int.mul_sub,Int.mul_sub]at h;constructor<;>omega
theorem vm(f:-3000000<=a)(g:a<=3000000)(h:-3000000<=b)(i:b<=3000000)(k:∀x,x=a*b->-9000000000000<=x->x<=9000000000000->F x):∀x,x=IntKind.i64.wrap (a*b)->F x:=fun x d=>by
 have j:=ae5 f g h i
 rw[gu (by omega) (by omega)]at d;exact k x d (by omega) (by omega)
theorem xB(g:-1000<=a)(i:a<=1000)(k:∀x,x=a*a->0<=x->x<=1000000->F x):∀x,x=IntKind.i64.wrap (a*a)->F x:=fun x d=>by
 have f:0<=(1000-a)*(1000+a):=Int.mul_nonneg (by omega) (by omega)
 have j:0<=a*a:=by rcases Int.le_total 0 a with h|h;exact Int.mul_nonneg h h;exact Int.mul_nonneg_of_nonpos_of_nonpos h h
 rw[Int.sub_mul,Int.mul_add,Int.mul_add]at f;rw[gu (by omega) (by omega)]at d;exact k x d (by omega) (by omega)
theorem aaI(d:0<b)(f:-9000000000000<=a)(g:a<=9000000000000):-9000000000000<=Int.tdiv a b/\Int.tdiv a b<=9000000000000:=by
 have h:(Int.tdiv a b).natAbs<=a.natAbs:=by rw[Int.natAbs_tdiv];exact Nat.div_le_self _ _
 omega
theorem aaJ{b:Int}(d:0<b)(h:0<=a):0<=Int.tdiv a b/\Int.tdiv a b<=a:=by
 rw[Int.tdiv_eq_ediv_of_nonneg h];exact⟨Int.ediv_nonneg h (Int.le_of_lt d),Int.ediv_le_self _ h⟩
theorem vq(f:0<b)(h:-9000000000000<=a/\a<=9000000000000)(k:∀x,x=Int.tdiv a b->(-9000000000000<=x/\x<=9000000000000/\(0<=a->0<=x/\x<=a))->F x):∀x,x=IntKind.i64.wrap (Int.tdiv a b)->F x:=fun x d=>by
 have i:=aaI f h.1 h.2;rw[gu (by omega) (by omega)]at d;exact k x d ⟨by omega,by omega,fun g=>by rw[d];exact aaJ f g⟩
theorem Pv(d:0<b):-b<Int.tmod a b/\Int.tmod a b<b/\(0<=a->0<=Int.tmod a b):=by
 refine⟨?_,Int.tmod_lt_of_pos a d,fun h=>Int.tmod_nonneg b h⟩;by_cases h:0<=a
 ·have:=Int.tmod_nonneg b h;omega
 ·have f:=Int.tmod_lt_of_pos (-a) d
  rw[Int.neg_tmod]at f;omega
theorem vr(f:0<b)(k:∀x,x=Int.tmod a b->(-b<x/\x<b/\(0<=a->0<=x))->F x):∀x,x=Int.tmod a b->F x:=fun x d=>k x d (by rw[d];exact Pv f)
theorem BR.ll(k:A)(h:p:=by omega):BR (decide p) A B:=BR.l h k
theorem BR.rr(k:B)(h:¬p:=by omega):BR (decide p) A B:=BR.r h k
theorem va(k:∀x,x=e->F x)(d:-9223372036854775808<=e:=by omega)(f:e<=9223372036854775807:=by omega):∀x,x=IntKind.i64.wrap e->F x:=vw d f k
theorem vs(k:∀x,x=Int.tmod a b->(-b<x/\x<b/\(0<=a->0<=x))->F x)(d:0<b:=by omega):∀x,x=Int.tmod a b->F x:=vr d k
abbrev wi(a:Int):Int:=IntKind.i64.wrap a
end
end Go.Am
namespace Go.Am
def rdB(B:aY):aY:={B with ro:=true}
def bz(a:Nat)(L:List (Nat×aY)):AH:=⟨a,rU (L.map fun p=>(p.1,rdB p.2)),uH (L.filterMap fun p=>p.2.fM.map fun f=>(f,[p.1]))⟩
def HB1(h:AH)(b:Nat)(B:aY):Prop:=h.tr.get b=some B/\(match B.fM with|none=>true|some f=>((h.dB.get f).getD []).contains b)=true
def HBL(h:AH):List (Nat×aY)->Prop
 | []=>True
 |p::l=>HB1 h p.1 p.2/\HBL h l
structure StL(nA:Nat)(L:List (Nat×aY)):Prop where
 lt:∀p∈L,p.1<nA
 plain:∀p∈L,∃c e f,p.2.obj=.cells c e f/\∀x∈c,Plain x
 nodup:(L.map (·.1)).Nodup
theorem Px:∀{l:List (Nat×aY)} {b:Nat} {B:aY},(l.map (·.1)).Nodup->(b,B)∈l->(rU l).get b=some B
 |(c,C)::l,b,B,a,d=>by
  unfold rU;rw[Tr.dQ];simp only[List.map_cons,List.nodup_cons]at a;rcases List.mem_cons.1 d with e|e
  ·cases e;rw[if_pos rfl]
  ·rw[if_neg,Px a.2 e];rintro rfl;exact a.1 (List.mem_map.2 ⟨_,e,rfl⟩)
theorem Py:∀(l:List (Nat×List Nat)) {f:Nat} {m:List Nat},(uH l).get f=some m->(f,m)∈l
 | [],f,m,e=>by cases e
 |(c,C)::l,f,m,e=>by
  unfold uH at e;rw[Tr.dQ]at e;split at e
  ·rename_i a;subst a;cases e;exact .head _
  ·exact .tail _ (Py l e)
theorem HBL.mem{h:AH}:∀{L:List (Nat×aY)},HBL h L->∀p∈L,HB1 h p.1 p.2
 |q::L,k,p,a=>by
  rcases List.mem_cons.1 a with e|e
  ·subst e;exact k.1
  ·exact HBL.mem k.2 p e
theorem StL.sub{n:Nat}{L:List (Nat×aY)}{h:AH}(S:StL n L)(k:HBL h L):(bz n L).Sub h:=by
 have o:∀b B,(bz n L).tr.get b=some B->∃a,(b,a)∈L/\B=rdB a:=fun b B e=>by
  have:=Gx _ e
  obtain⟨⟨p,a⟩,i,d⟩:=List.mem_map.1 this;cases d;exact⟨a,i,rfl⟩
 have r:∀b a,(b,a)∈L->h.look b=some a:=fun b a s=>by
  obtain⟨i,d⟩:=HBL.mem k _ s
  dsimp only at i d;unfold AH.look;rw[i];dsimp only
  cases m:a.fM with
  |none=>rfl
  |some f=>rw[m]at d;dsimp only at d⊢;rw[if_pos d]
 have fl:∀f l,(bz n L).dB.get f=some l->∃b a,(b,a)∈L/\a.fM=some f/\l=[b]:=fun f l e=>by
  have:=Py _ e
  obtain⟨⟨b,a⟩,i,d⟩:=List.mem_filterMap.1 this;dsimp only at d;cases m:a.fM with
  |none=>rw[m]at d;cases d
  |some g=>rw[m]at d;cases d;exact⟨b,a,i,m,rfl⟩
 refine⟨fun b B e=>?_,fun b B e=>?_,fun b B e=>?_,fun f l e=>?_,fun f l b e t=>?_⟩
 ·obtain⟨a,i,rfl⟩:=o b B (fJ e)
  exact⟨a,r b a i,rfl,rfl,rfl,rfl⟩
 ·obtain⟨a,i,rfl⟩:=o b B (fJ e)
  obtain⟨c,u,f,d,j⟩:=S.plain _ i
  exact⟨c,u,f,d,fun x v=>(j x v).okV⟩
 ·obtain⟨a,i,rfl⟩:=o b B e
  exact⟨a,(HBL.mem k _ i).1,rfl⟩
 ·obtain⟨b,a,i,d,rfl⟩:=fl f l e
  have j:=(HBL.mem k _ i).2;dsimp only at j;rw[d]at j;dsimp only at j;cases q:h.dB.get f with
  |none=>rw[q]at j;simp at j
  |some w=>rw[q]at j;exact⟨w,rfl,List.singleton_sublist.2 (by simpa using j)⟩
 ·obtain⟨p,a,i,d,rfl⟩:=fl f l e
  obtain rfl:b=p:=by simpa using t
  refine⟨S.lt _ i,rdB a,Px ?_ (List.mem_map.2 ⟨_,i,rfl⟩),d⟩;rw[List.map_map];exact S.nodup
structure Ct where
 f:FuncId
 ext:Array Value->AH->List Int
 nA:Nat
 L:List Int->List (Nat×aY)
 args:List Int->Array Value
 pre:List Int->Prop
 R:List Int->Int->Prop
 res:List Int->Int->Value
noncomputable section
def iD(a:Array Value)(i:Nat):Int:=match nth a.toList i with
 |some (.int _ p)=>p
 |_=>0
def dG(h:AH)(v:Option Value):List Int:=match v with
 |some (.slice (some a) _ _)=>match h.tr.get a.block with
  |some ⟨.cells c _ _,_,_,_⟩=>List.rec [] (fun v _ b=>(match v with|.int _ n=>n|_=>0)::b) c.toList
  |_=>[]
 |_=>[]
def alE(n:Nat)(v:Option Value):List Int:=match v with
 |some (.agg c)=>List.rec (motive:=fun _=>Nat->List Int) (fun _=>[]) (fun v _ a n=>match n with
  |0=>[]
  |n+1=>(match v with|.int _ x=>x|_=>0)::a n) c.toList n
 |_=>[]
def Ct.met(c:Ct)(a:Array Value)(h:AH)(p:List Int)(post:Value->Prop):Prop:=(a=c.args p/\HBL h (c.L p)/\c.pre p)/\∀x:Int,c.R p x->post (c.res p x)
def ctG:List Ct->FuncId->Array Value->AH->(Value->Prop)->Prop
 | [],_,_,_,_=>False
 |c::l,f,a,h,post=>bif Nat.beq f c.f then c.met a h (c.ext a h) post else ctG l f a h post
def ctI(l:List Ct):Nat->FuncId->Array Value->AH->(Value->Prop)->Prop
 |0=>ctG l
 |i+1=>fun f a h post=>match nth l i with
  |some c=>bif Nat.beq f c.f then c.met a h (c.ext a h) post else False
  |none=>False
end
structure aX(P:Program)(c:Ct):Prop where
 Dw:∀p,c.pre p->bu P (fun v _=>∃x,c.R p x/\v=c.res p x) ⟨ak.enter P c.f (c.args p),[],bz c.nA (c.L p)⟩
 st:∀p,c.pre p->StL c.nA (c.L p)
 okA:∀p,∀x∈c.args p,l7 (· <c.nA) x
 okR:∀(q:Nat->Prop) p x,(∀a∈c.args p,l7 q a)->l7 q (c.res p x)
theorem aX.call{P:Program}[aP P]{c:Ct}(k:aX P c){a:Array Value}{h:AH}{p:List Int}{post:Value->Prop}(l:c.met a h p post):GI P c.f a h post:=by
 obtain⟨⟨m,n,g⟩,i⟩:=l
 subst m;intro u w b;refine(bT.call (k.Dw p g) ((k.st p g).sub n) (k.okA p) (fun q o v j d=>?_) (fun v j d=>?_)).mono ?_
 ·obtain⟨x,_,rfl⟩:=d
  exact k.okR q p x o
 ·obtain⟨x,e,rfl⟩:=d
  exact b _ (i x e)
 ·rintro s ⟨v,j,r,⟨x,e,rfl⟩,t,rfl⟩;exact⟨_,r,i x e,t,rfl⟩
theorem WX{P:Program}[aP P]:∀{l:List Ct},(∀c∈l,aX P c)->∀f a h post,ctG l f a h post->GI P f a h post
 | [],_,f,a,h,post,k=>k.elim
 |c::l,d,f,a,h,post,k=>by
  unfold ctG at k;cases b:Nat.beq f c.f with
  |true=>
   rw[b]at k;have:=Nat.eq_of_beq_eq_true b
   subst this;exact(d c (.head _)).call k
  |false=>rw[b]at k;exact WX (fun c e=>d c (.tail _ e)) f a h post k
theorem ae6{P:Program}[aP P]{l:List Ct}(d:∀c∈l,aX P c):∀i f a h post,ctI l i f a h post->GI P f a h post
 |0,f,a,h,post,k=>WX d f a h post k
 |i+1,f,a,h,post,k=>by
  unfold ctI at k;dsimp only at k;split at k
  ·rename_i c e;cases b:Nat.beq f c.f with
   |true=>
    rw[b]at k;have:=Nat.eq_of_beq_eq_true b
    subst this;rw[iR]at e;exact(d c (List.mem_of_getElem? e)).call k
   |false=>rw[b]at k;exact k.elim
  ·exact k.elim
theorem bI{P:Program}:∀c∈([]:List Ct),aX P c:=fun c h=>absurd h List.not_mem_nil
theorem aO{P:Program}{c:Ct}{l:List Ct}(h:aX P c)(k:∀c∈l,aX P c):∀d∈c::l,aX P d:=fun d hd=>(List.mem_cons.1 hd).elim (fun e=>e▸h) (k d)
theorem zy{V:Prop}{n:Int}(h:n≠0):∀_:AH,∃x:Int,(x=0->V)/\Value.int .i64 n=zJ x:=fun _=>⟨n,fun e=>absurd e h,rfl⟩
theorem lf0{V:Prop}(h:V):∀_:AH,∃x:Int,(x=0->V)/\Value.int .i64 0=zJ x:=fun _=>⟨0,fun _=>h,rfl⟩
def AE(a:Array Value):Prop:=a=a
def BE(B:aY):Prop:=some B=some B/\true=true
def bk(c:Array Value):aY:=⟨.cells c 0 (0,0),none,true,1⟩
def E4(a b c d:Array Value):Prop:=BE (bk a)/\BE (bk b)/\BE (bk c)/\BE (bk d)/\True
theorem dK{a b c d:Array Value}:E4 a b c d:=⟨⟨rfl,rfl⟩,⟨rfl,rfl⟩,⟨rfl,rfl⟩,⟨rfl,rfl⟩,trivial⟩
def L4(a tc sc b:Array Value):List (Nat×aY):=[(0,bk a),(1,bk tc),(2,bk sc),(3,bk b)]
end Go.Am
namespace Go.Am
open Go.Conc (G Good)
open Go.Ren (At aG Keep full)
noncomputable section
def WY(P:Program)(a:FuncId)(s:AS):Bool:=s.fr.ret&&s.cs.isEmpty&&aK s.fr&&s.fr.defers.isEmpty&&!s.fr.dk&&Nat.beq s.fr.fn a&&match P.funcs[a]? with
 |some f=>(match(results f s.fr.tmps).ar P none s.h with
  |some (.bool b,_)=>b
  |_=>false)
 |none=>false
def aaM(X:TX)(a:FuncId):Nat->AS->Bool
 |0,s=>WY X.P a s
 |k+1,s=>if WY X.P a s then true else match Bg X.P plan X.T X.Fu 1 s with
  |some (.go b)=>aaM X a k b
  |_=>false
def QY(X:TX)(a b:FuncId)(s:AS):Bool:=aK s.fr&&match Lr X.P b (.bool true) ⟨s.fr,s.cs,⟨s.h.n,.nil,.nil⟩⟩with
 |some c=>aaM X a 9 c
 |none=>false
abbrev ud:Value:=.tuple ⟨[]⟩
abbrev ur(n:Nat):List Value:=List.replicate n ud
def lC(X:TX)(f:FuncId)(s:AS):Bool:=match Po X s with
 |some (g,_,_)=>Nat.beq g f
 |none=>false
end
noncomputable def KF(X:TX)(a b:FuncId)(c:AS->Bool)(l:List Nat)(s:AS):Prop:=bif c s&&aK s.fr then bT X.P (fun s=>QY X a b s=true) ⟨s.fr,s.cs,s.h.forget l⟩else QY X a b s=true
theorem iZ{X:TX}{a b:FuncId}{c:AS->Bool}{l:List Nat}{f:AS}(h:bT X.P (fun s=>KF X a b c l s) f):bT X.P (fun s=>QY X a b s=true) f:=h.bind fun s k=>by
 unfold KF at k;cases d:c s&&aK s.fr<;>rw[d]at k
 ·exact bT.here k
 ·rw[Bool.and_eq_true]at d;exact(bT.forget l d.2).bind fun g e=>by subst e;exact k
def GM(P:Program)(L:Go.Conc.Lib.WgLink)(d:FuncId)(c:Machine->Outcome->World->Trace->Prop):Prop:=
 ∀{b:Frame} {e:List Frame} {F:Nat->Prop} {a:World} {m:Machine} {t:Trace},bW P L (b::e) F a .idle ⟨ak.enter P d #[],[],h0⟩ m t->aG P c (Back P b e F a (.bool true)) m t
section
variable{X:TX}{root d:FuncId}{s i j:AS}{W U Z F:Nat->Prop}{N:Nat}{ρ:Env}{c w:World}{g:Goroutine}{m:Machine}{t:Trace}{a:Value->World->Prop}{K:Machine->Trace->Prop}{L:Go.Conc.Lib.WgLink}
theorem QZ{P:Program}(h:WY P root s=true):s.fr.ret=true/\s.cs=[]/\aK s.fr=true/\s.fr.defers=[]/\s.fr.dk=false/\s.fr.fn=root/\∃f e,P.funcs[root]?=some f/\(results f s.fr.tmps).ar P none s.h=some (.bool true,e):=by
 unfold WY at h;simp only[Bool.and_eq_true,Bool.not_eq_true']at h;obtain⟨⟨⟨⟨⟨⟨l,n⟩,o⟩,p⟩,q⟩,r⟩,k⟩:=h
 refine⟨l,List.isEmpty_iff.1 n,o,List.isEmpty_iff.1 p,q,Nat.eq_of_beq_eq_true r,?_⟩;split at k
 ·rename_i f u;split at k
  ·rename_i b e v;subst k;exact⟨f,e,u,v⟩
  ·cases k
 ·cases k
theorem EN(f:GK X):∀(k:Nat) {s:AS},aaM X root k s=true->∃i,To X.P plan i s/\WY X.P root i=true
 |0,s,h=>⟨s,.here rfl,h⟩
 |k+1,s,h=>by
  unfold aaM at h;split at h
  ·rename_i n;exact⟨s,.here rfl,n⟩
  ·split at h
   ·rename_i l b;obtain⟨i,o,p⟩:=EN f k h
    exact⟨i,(rQ f.T f.Fu 1 b).bind fun _ e=>by subst e;exact o,p⟩
   ·cases h
theorem LJ(q:GK X)(R:bT X.P (fun s=>QY X root d s=true) j)(n:GM X.P L d (Good X.P a))(B:dA X.P d=true)(o:X.P.inits.idxOf? root=none)(C:∀p,Keep F c p->a (.bool true) p)
  (S:Sr X.P [] F c W U Z N ρ j g w m t):aG X.P (Good X.P a) K m t:=by
 haveI:=q.Z
 refine(S.runs R).bind ?_;rintro m t ⟨σ,s,g',p,b,_,D⟩;unfold QY at b;rw[Bool.and_eq_true]at b;obtain⟨hd,b⟩:=b
 split at b
 ·rename_i r e;obtain⟨h,E,H⟩:=EN q _ b
  refine(Sd.ahK (L:=L) B (.bool true) n (D.sd hd) (Jb e)).bind ?_;rintro m t ⟨W',U',Z',N',J,u,v,_,k⟩;refine(k.reach (K:=(· =h)) E).bind ?_;rintro m t ⟨τ,M,x,y,rfl,_,l,_⟩;obtain⟨O,Q,T,V,Y,z,f,A,e7,e8⟩:=QZ H
  exact l.ends Q T O V Y (by rw[z];exact e7) e8 (by rw[z];exact o) (.bool true) C
 ·cases b
end
end Go.Am
namespace Go.Am
open Go.Proofs
noncomputable def bQ:Tr TI:=U9 Tryz.prog Tryz.prog.types.toList 0
noncomputable def bJ:Tr Func:=xY Tryz.prog.funcs.toList 0
noncomputable def at_(f:Nat)(p:List Nat):Code:=mV (Vf bJ f) p
noncomputable def bH(f:Nat)(p:List Nat):Array Oper:=agm bJ f p
abbrev aA:Go.Conc.Lib.WgLink:={add:=105,done:=107,wait:=111,relMerge:=127,disable:=128,enable:=129,inBubble:=130,associate:=131,fatal:=132,uOr:=133,uAdd:=134,raceRead:=135,uLoad:=136,uStore:=137,disassociate:=138,semrelease:=139,acquire:=144,isAssociated:=145,uCas:=146,raceWrite:=147,semacquire:=148,orU64:=159,addU64:=160,loadU64:=161,storeU64:=162,casU64:=167,tWgP:=198,tUP:=200,tAssoc:=201,tWg:=183,tAU:=181,tU64:=179,tUint:=188,tU32:=172,tPU32:=205,tPAU:=234,tPU64:=236,tNoCopy:=171,tANoCopy:=177,tAlign64:=178}
abbrev jT:Go.Mx.ah:={mu:={lock:=109,unlock:=110,ilock:=142,iunlock:=143,lockSlow:=164,unlockSlow:=166,disable:=128,enable:=129,acquire:=144,relMerge:=127,cas32:=163,add32:=165,tMutex:=176,tIMutex:=174,tPMutex:=212,tPIMutex:=239,tPI32:=241,tUP:=200,tNoCopy:=171,tU32:=172},canSpin:=182,FW:=183,throw:=184,nano:=185,FX:=186,fatal:=187,semrel:=188,tPU32:=205,tUint:=188}
end Go.Am
namespace Go.Am
theorem EO{g d:Type}{I:d->Prop}{f:g->d->Option (ForInStep d)}(i:∀a b r,I b->f a b=some r->I r.value):∀(l:List g) {b c:d},I b->forIn l b f=some c->I c
 | [],b,c,e,h=>by
  rw[List.forIn_nil]at h;cases h;exact e
 |a::l,b,c,e,h=>by
  rw[List.forIn_cons]at h;simp only[bind,Option.bind_eq_some_iff]at h;obtain⟨r,k,h⟩:=h
  have j:=i a b r e k
  cases r with
  |done x=>cases h;exact j
  |yield x=>exact EO i l j h
theorem zA{z:Value}(h:Plain z):∀x∈z.cells,Plain x:=by
 intro x b;obtain⟨d,c⟩:=mX h
 obtain⟨i,a⟩:=Array.getElem?_of_mem b
 exact c i x x a a
theorem Q3{b:Option (Array Value)}{i:TypeInfo}{n:Nat}(c:∀z,i.zero=some z->Plain z)(d:∀a,b=some a->∀x∈a,Plain x):∀a,(if n>Made.mostCells then none else b.bind fun u=>i.zero.bind fun z=>some (u++z.cells))=some a->∀x∈a,Plain x:=by
 intro a h x e;split at h
 ·cases h
 ·simp only[Option.bind_eq_some_iff]at h;obtain⟨u,f,z,g,j⟩:=h
  cases j;rcases Array.mem_append.1 e with k|k
  ·exact d u f x k
  ·exact zA (c z g) x k
theorem GN{info:TypeId->Option TypeInfo}{l:Array Field}{i:TypeInfo}{z:Value}(m:∀t i z,info t=some i->i.zero=some z->Plain z)(h:Made.reckonStruct info l=some i)(d:i.zero=some z):Plain z:=by
 unfold Made.reckonStruct at h;simp only[bind,Option.bind_eq_some_iff,pure]at h;obtain⟨a,k,h⟩:=h
 have e:∀u,a.2.2.2.2.2.2.2.1=some u->∀x∈u,Plain x:=by
  rw[←Array.forIn_toList]at k;refine EO (I:=fun s=>∀u,s.2.2.2.2.2.2.2.1=some u->∀x∈u,Plain x) (fun f b r o c=>?_) _ (fun u p x q=>?_) k
  ·simp only[Option.bind_eq_some_iff]at c;obtain⟨j,v,c⟩:=c
   have w:=fun n=>Q3 (n:=n) (i:=j) (fun z d=>m _ _ _ v d) o
   repeat' first
    |(cases c;exact w _)
    |(cases c;done)
    |(simp only[Option.bind_eq_some_iff]at c;obtain⟨_,_,c⟩:=c)
    |split at c
    |(exact absurd c (by simp))
  ·cases p;simp at q
 have g:∀{z:Value},a.2.2.2.2.2.2.2.1.map .agg=some z->Plain z:=fun{z} d=>by
  rw[Option.map_eq_some_iff]at d;obtain⟨u,y,rfl⟩:=d
  exact uk (e u y)
 split at h<;>(cases h;exact g d)
theorem GR{info:TypeId->Option TypeInfo}{d:TypeDesc}{i:TypeInfo}{z:Value}(c:∀t i z,info t=some i->i.zero=some z->Plain z)(h:Made.reckon info d=some i)(a:i.zero=some z):Plain z:=by
 unfold Made.reckon at h;split at h;case h_7=>exact GN c h a
 case h_6=>
  simp only[bind,Option.bind_eq_some_iff,pure]at h;obtain⟨j,g,s,l,h⟩:=h
  cases h;dsimp only at a;split at a
  ·cases a
  ·split at a
   ·cases a;exact uk fun x b=>by simp at b
   ·rw[Option.map_eq_some_iff]at a;obtain⟨u,k,rfl⟩:=a
    refine uk fun x b=>?_
    rw[Array.mem_flatten]at b;obtain⟨xs,e,f⟩:=b
    rw[Array.mem_replicate]at e;rw[e.2]at f;exact zA (c _ _ _ g k) x f
 all_goals try simp only[bind,Option.bind_eq_some_iff,pure]at h
 all_goals repeat' first
  |(obtain⟨_,_,h⟩:=h)
  |(split at h)
 all_goals first
  |(cases a;first|exact .fO|exact .nilslice _ _|exact .dL|exact .dW|exact .nilFunc)
  |(cases h;cases a;first|exact .fO|exact .nilslice _ _|exact .dL|exact .dW|exact .nilFunc)
  |(cases h;done)
  |(exfalso;simp at h;done)
  |(simp only[Option.bind_eq_some_iff]at h;obtain⟨_,_,h⟩:=h;cases h;cases a;first|exact .fO|exact .nilslice _ _|exact .dL|exact .dW|exact .nilFunc)
def Pz:Value->Bool
 | .chan none=>true
 |_=>false
def LK(v:Value):Bool:=iQ 12 v||Pz v
def LM(T:Tables):Bool:=T.types.toList.all fun i=>match i.zero with
 |some z=>LK z
 |none=>true
theorem Cc{T:Tables}(h:LM T=true):∀(n:Nat) (t:TypeId) (i:TypeInfo) (z:Value),Made.infoAt T n t=some i->i.zero=some z->Plain z
 |0,t,i,z,e,_=>by cases e
 |n+1,t,i,z,e,a=>by
  unfold Made.infoAt at e;split at e
  ·unfold LM at h;rw[List.all_eq_true]at h;have:=h i (get_mem e)
   rw[a]at this;have this:LK z=true:=this
   unfold LK at this;rw[Bool.or_eq_true]at this;rcases this with k|k
   ·exact gQ k
   ·unfold Pz at k;split at k
    ·exact .dW
    ·cases k
  ·simp only[Option.bind_eq_some_iff]at e;obtain⟨d,_,e⟩:=e
   exact GR (fun t i z b c=>Cc h n t i z b c) e a
theorem WZ{P:Program}(h:LM P.toTables=true):aP P:=⟨fun t i z d b c=>by
 have a:P.toTables.info? t=some i:=d
 unfold Tables.info? at a;split at a
 ·rename_i e;exact(Cc h 1 t i z (by unfold Made.infoAt;rw[if_pos e];exact a) b).vr c
 ·exact(Cc h _ t i z a b).vr c⟩
end Go.Am
namespace Go.Am
open Go.Proofs
theorem W9:Go.Conc.Lib.WgLib Tryz.prog aA:=by
 constructor<;>first|kernel_rfl|(intro w;kernel_rfl)|skip
theorem Xa:Go.Mx.dX Tryz.prog jT:=by
 constructor<;>first|kernel_rfl|(intro w;kernel_rfl)|(constructor<;>first|kernel_rfl|(intro w;kernel_rfl)|skip)|skip
theorem Xb:uN Tryz.prog aA:=⟨W9,by kernel_rfl,by kernel_rfl,by kernel_rfl⟩
theorem Xc:bF Tryz.prog bQ:=ZY
theorem Xd:gK Tryz.prog bJ:=ZZ
instance Xe:aP Tryz.prog:=WZ (by kernel_rfl)
end Go.Am
