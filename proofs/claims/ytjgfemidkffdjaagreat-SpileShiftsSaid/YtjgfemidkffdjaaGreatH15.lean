import Derived.Test.YtjgfemidkffdjaaGreatH14
set_option linter.all false
namespace Go.Am
section
variable{P:Program}{T:Tr TI}{r:List Value}{h h':AH}{o:Oper}{v:Value}{x:Operand}
theorem CQ{a:Addr}(e:RZ h a=some v):h.cell a=some v:=by
 unfold RZ at e;split at e
 ·rename_i d f c i j g k u b;unfold AH.cell;dsimp only at b;dsimp only
  rw[b];dsimp only
  rw[ja]at e;simpa using e
 ·cases e
theorem CU:∀(n:Nat) (l:List Value) {m:List Value},RX n l=some m->m.length=n/\∀i,i<n->l[i]?=m[i]?
 |0,l,m,e=>by cases e;exact⟨rfl,fun i b=>absurd b (Nat.not_lt_zero _)⟩
 |n+1,l,m,e=>by
  cases l with
  |nil=>cases e
  |cons x l=>
   replace e:(match RX n l with
    |some m=>some (x::m)
    |none=>none)=some m:=e
   cases a:RX n l with
   |none=>rw[a]at e;cases e
   |some g=>
    rw[a]at e;cases e;obtain⟨d,f⟩:=CU n l a
    refine⟨by simp[d],fun i b=>?_⟩;cases i with
    |zero=>rfl
    |succ i=>simpa using f i (by omega)
theorem KG:∀(n:Nat) (l:List Value),Xu n l=l.drop n
 |0,l=>rfl
 |n+1,l=>by
  show Xu n l.tail=_
  rw[KG n];cases l<;>simp
theorem xu{a:Addr}(l:a.spot=none){c:Array Value}{e:TypeId}{f:Nat×Nat}{p:Option Nat}{y:Bool}{u:Nat}(g:h.look a.block=some ⟨.cells c e f,p,y,u⟩):
  ∀(n i:Nat) (b:Array Value) (m:List Value),m.length=n->(∀j,j<n->c[a.off+i+j]?=m[j]?)->(loadCellsFrom a i n b).fJ P h=some ⟨b.toList++m⟩
 |0,i,b,m,k,q=>by
  have:m=[]:=List.eq_nil_of_length_eq_zero k
  subst this;show some b=_
  simp
 |n+1,i,b,m,k,q=>by
  cases m with
  |nil=>simp at k
  |cons x m=>
   have s:c[a.off+i]?=some x:=by have:=q 0 (by omega);simpa using this
   have z:h.cell (a.add i)=some x:=by
    unfold AH.cell Addr.add;obtain⟨A,B,t⟩:=a
    dsimp only at l g s;subst l;by_cases w:i=0
    ·subst w;simp only[if_true]
     rw[g];simpa using s
    ·rw[if_neg w];dsimp only
     rw[g];exact s
   have d:(load (a.add i)).fJ P h=some x:=by
    unfold load;rw[Sem.fJ.eq_def];dsimp only
    rw[z];rfl
   show((load (a.add i))>>=fun v=>loadCellsFrom a (i+1) n (b.push v)).fJ P h=_
   rw[aC d,xu l g n (i+1) (b.push x) m (by simpa using k) fun j C=>?_]
   ·simp
   ·have:=q (j+1) (by omega)
    have e:a.off+(i+1)+j=a.off+i+(j+1):=by omega
    rw[e,this];simp
theorem UD{a:Addr}{n:Nat}(e:aeo h a n=some v):(loadCells a n>>=fun c=>(Pure.pure (Value.agg c):Sem Value)).fJ P h=some v:=by
 unfold aeo at e;split at e
 ·rename_i b d c q s f t u g;split at e
  ·rename_i m i;cases e;obtain⟨k,l⟩:=CU n _ i
   have:=xu (P:=P) (h:=h) (a:=⟨b,d,none⟩) rfl g n 0 #[] m k fun j p=>by
    have:=l j p
    rw[KG,List.getElem?_drop]at this;simpa using this
   rw[aC (show(loadCells ⟨b,d,none⟩ n).fJ P h=_ from this)];simp[iZ]
  ·cases e
 ·cases e
theorem ku{a:Type}(v:Value):∀(l:List Value) (n:Nat) (k:List Value->a),rY v l n k=k (l.set n v)
 | [],n,k=>by simp[rY]
 |x::l,0,k=>rfl
 |x::l,n+1,k=>by
  show rY v l n (fun b=>k (x::b))=_
  rw[ku v l n];rfl
def JZ:List Value->Nat->List Value->List Value
 | [],_,cells=>cells
 |v::vs,a,cells=>JZ vs (a+1) (cells.set a v)
theorem Si{b:Type}:∀(vs:List Value) (a:Nat) (cells:List Value) (k:List Value->b),abn vs a cells k=k (JZ vs a cells)
 | [],a,cells,k=>rfl
 |v::vs,a,cells,k=>by
  show rY v cells a (fun cells=>abn vs (a+1) cells k)=_
  rw[ku,Si vs];rfl
theorem Gt:∀(vs:List Value) (a s:Nat) (cells:Array Value),(vs.zipIdx s).foldl (fun b p=>b.setIfInBounds (a+p.2) p.1) cells=⟨JZ vs (a+s) cells.toList⟩
 | [],a,s,cells=>rfl
 |v::vs,a,s,cells=>by
  rw[List.zipIdx_cons,List.foldl_cons,Gt vs a (s+1)];have e:a+(s+1)=a+s+1:=by omega
  rw[e];congr 1;show JZ vs (a+s+1) _=JZ vs (a+s+1) _
  simp
theorem Gu(v:Value):vU v=v.cells.toList:=by cases v<;>rfl
theorem CV{f:List (Nat×Nat)}:∀(a:List (Nat×Operand)) {cells:List Value},Xx f r a cells=some v->
  (∀p∈a,okX p.2=true)/\∃c,Instr.fill (fun i=>f[i]?) ⟨cells⟩ (a.map fun p=>(p.1,ay ⟨r⟩ p.2))=some ⟨c⟩/\Value.agg ⟨c⟩=v
 | [],cells,e=>by cases e;exact⟨fun p b=>(by cases b),cells,rfl,rfl⟩
 |(i,x)::a,cells,e=>by
  replace e:(match vk r x with
   |some v=>match nth f i with
    |some q=>bif Nat.beq (vU v).length q.2&&Nat.ble (q.1+q.2) cells.length then abn (vU v) q.1 cells (Xx f r a)else none
    |none=>none
   |none=>none)=some v:=e
  split at e
  ·rename_i u l;obtain⟨m,n⟩:=jZ l
   split at e
   ·rename_i q g;cases d:(Nat.beq (vU u).length q.2&&Nat.ble (q.1+q.2) cells.length)with
    |false=>rw[d]at e;cases e
    |true=>
     rw[d]at e;dsimp only[cond_true]at e;rw[Si]at e;obtain⟨s,c,t,w⟩:=CV a e
     rw[Bool.and_eq_true]at d;have k:=Nat.eq_of_beq_eq_true d.1;have C:=Nat.le_of_ble_eq_true d.2;rw[Gu]at k;refine⟨fun p b=>?_,c,?_,w⟩
     ·rcases List.mem_cons.1 b with rfl|b
      ·exact n
      ·exact s p b
     ·rw[List.map_cons];unfold Instr.fill;rw[ja]at g;dsimp only
      rw[g];dsimp only
      rw[m];have y:u.cells.size=q.2:=by simpa using k
      have z:¬(u.cells.size≠q.2||decide (q.1+u.cells.size>(Array.mk cells).size))=true:=by simp[y];omega
      rw[if_neg z];have A:u.cells.zipIdx.foldl (fun B (c,j)=>B.setIfInBounds (q.1+j) c) (Array.mk cells)=⟨JZ (vU u) q.1 cells⟩:=by rw[←Array.foldl_toList,Array.toList_zipIdx];have:=Gt u.cells.toList q.1 0 ⟨cells⟩;rw[Gu];exact this
      rw[A];exact t
   ·cases e
  ·cases e
theorem UE{fields:Array Field}{c:List (Nat×Nat)}(i:fields.toList.map (fun f=>(f.offset,P.cellsOf f.type))=c)(j:∀f∈fields.toList,∃d,P.info? f.type=some d):
  (fields.mapM fun f=>do pure (f.offset,←sizeOf f.type):Sem (Array (Nat×Nat))).fJ P h=some c.toArray:=by
 have k:∀(b:List Field),(∀f∈b,∃d,P.info? f.type=some d)->(b.mapM fun f=>do pure (f.offset,←sizeOf f.type):Sem (List (Nat×Nat))).fJ P h=some (b.map fun f=>(f.offset,P.cellsOf f.type)):=by
  intro b;induction b with
  |nil=>intro _;rfl
  |cons f b l=>
   intro e;obtain⟨d,hd⟩:=e f List.mem_cons_self
   have m:(do pure (f.offset,←sizeOf f.type):Sem (Nat×Nat)).fJ P h=some (f.offset,P.cellsOf f.type):=by
    show(sizeOf f.type>>=fun n=>(Pure.pure (f.offset,n):Sem (Nat×Nat))).fJ P h=_
    rw[aC (qI hd)];unfold Program.cellsOf;rw[hd];rfl
   rw[List.mapM_cons,aC m,aC (l fun g p=>e g (List.mem_cons_of_mem _ p))];rfl
 rw[Array.mapM_eq_mapM_toList];show((fields.toList.mapM _)>>=fun a=>(Pure.pure a.toArray:Sem (Array (Nat×Nat)))).fJ P h=_
 rw[aC (k _ j),i];rfl
theorem vV(K:aZ P T)(e:fast T r h o.op=some v):(bC o&&lX P h (ay ⟨r⟩) o)=true/\(execOp (ay ⟨r⟩) o).fJ P h=some (.value v):=by
 have one:∀{x:Operand} {u:Value},vk r x=some u->ay ⟨r⟩ x=u/\okX x=true:=jZ
 obtain⟨b4,op,type,pos,after,guard⟩:=o
 dsimp only at e;unfold fast at e;split at e
 ·rename_i x;unfold RY at e;split at e
  ·rename_i u C;cases e;obtain⟨m,A⟩:=one C
   refine iF (s:=Pure.pure v) (fun y g=>by simp[Op.operands]at g;rw[g];exact A) rfl ?_ rfl;unfold execOp;dsimp only
   rw[m];rfl
  ·cases e
 ·rename_i x;unfold RY at e;split at e
  ·rename_i u C;cases e;obtain⟨m,A⟩:=one C
   refine iF (s:=Pure.pure v) (fun y g=>by simp[Op.operands]at g;rw[g];exact A) rfl ?_ rfl;unfold execOp;dsimp only
   rw[m];rfl
  ·cases e
 ·rename_i s x f;unfold Xv at e;split at e
  ·rename_i a D;obtain⟨m,A⟩:=one D
   split at e
   ·rename_i W fields z q hs;split at e
    ·rename_i fd X;split at e
     ·rename_i H u' z' L hf;cases E:Nat.beq H 0 with
      |true=>rw[E]at e;cases e
      |false=>
       rw[E]at e;cases e;have j:=(K.get _ _ hs).1;obtain⟨d,w,l⟩:=(K.get _ _ hf).2.1;rw[ja]at X;have M:fields[f]?=some fd:=by simpa using X
       have Y:H≠0:=fun e0=>by rw[e0]at E;cases E
       refine iF (s:=Instr.fieldAt s (.pointer (some a)) f) (fun y g=>by simp[Op.operands]at g;rw[g];exact A) ?_ ?_ ?_
       ·show xw P s f=true
        unfold xw;rw[j];dsimp only
        rw[M];dsimp only
        rw[w];simp[l,Y]
       ·unfold execOp;dsimp only
        rw[m]
       ·unfold Instr.fieldAt;rw[aC (eu j)];dsimp only
        rw[M];dsimp only
        rw[aC (show(Instr.sureAddr (.pointer (some a))).fJ P h=some a from rfl)];have:(fieldPlace a fd).fJ P h=some (a.add fd.offset):=by unfold fieldPlace;rw[aC (qI w),l,if_neg Y];rfl
        rw[aC this];rfl
     ·cases e
    ·cases e
   ·cases e
  ·cases e
 ·rename_i t x;unfold adh at e;split at e
  ·rename_i a D;obtain⟨m,A⟩:=one D
   split at e
   ·rename_i W d z q F;have j:=(K.get _ _ F).1;obtain⟨Q,w,l⟩:=(K.get _ _ F).2.1;refine iF (s:=Instr.loadAt t (.pointer (some a))) (fun y g=>by simp[Op.operands]at g;rw[g];exact A) rfl ?_ ?_
    ·unfold execOp;dsimp only
     rw[m]
    ·unfold Instr.loadAt;rw[aC (show(Instr.sureAddr (.pointer (some a))).fJ P h=some a from rfl)];unfold loadVar;have Z:(isAgg t).fJ P h=some (yE d):=by
      unfold isAgg;rw[aC (eu j)];dsimp only
      cases d<;>rfl
     rw[aC Z];cases E:yE d with
     |true=>
      rw[E]at e;dsimp only[cond_true]at e;split at e
      ·rename_i u C;cases e;simp only[if_true]
       rw[aC (qI w),l];exact UD C
      ·cases e
     |false=>
      rw[E]at e;dsimp only[cond_false]at e;split at e
      ·rename_i u C;cases e;simp only[Bool.false_eq_true,if_false]
       unfold load;rw[Sem.fJ.eq_def];dsimp only
       rw[CQ C];rfl
      ·cases e
   ·cases e
  ·cases e
 ·rename_i B t x y s;unfold agS at e;split at e
  ·rename_i k a k' b D g;obtain⟨m,A⟩:=one D
   obtain⟨N,e4⟩:=one g
   split at e
   ·rename_i hk;subst hk;split at e
    ·rename_i u C;cases e;refine iF (s:=(eqGuard B t x y (.int k a) (.int k b))>>=fun _=>binOp B t (.int k a) (.int k b)) (fun z O=>by simp[Op.operands]at O;rcases O with O|O<;>(rw[O];assumption)) ?_ ?_ ?_
     ·show(CW B (ay ⟨r⟩ x) (ay ⟨r⟩ y)||Gv B (ay ⟨r⟩ x) (ay ⟨r⟩ y))=true
      rw[m,N];cases B<;>first|rfl|(cases C;done)
     ·unfold execOp;dsimp only
      rw[m,N]
     ·have hg:(eqGuard B t x y (.int k a) (.int k b)).fJ P h=some ():=by unfold eqGuard;cases B<;>rfl
      rw[aC hg];unfold agR at C;cases B<;>first|(cases C;done)|skip
      all_goals
       cases C;simp only[binOp,ne_eq,not_true_eq_false,if_false]
       first|(simp[Op.intArith,Op.intCmp,iZ];done)|(simp[Op.intArith,Op.intCmp,iZ];by_cases a5:a=b<;>simp[a5])
    ·cases e
   ·cases e
  ·cases e
 ·rename_i t x;unfold agT at e;split at e
  ·rename_i b D;cases e;obtain⟨m,A⟩:=one D
   refine iF (s:=Op.unary .not (.bool b)) (fun y g=>by simp[Op.operands]at g;rw[g];exact A) rfl ?_ rfl;unfold execOp;dsimp only
   rw[m]
  ·cases e
 ·rename_i x i;unfold KD at e;split at e
  ·rename_i vs D;obtain⟨m,A⟩:=one D
   split at e
   ·rename_i u C;cases e;rw[ja]at C;have a6:vs[i]?=some v:=by simpa using C
    refine iF (s:=Instr.extract (.tuple vs) i) (fun y g=>by simp[Op.operands]at g;rw[g];exact A) rfl ?_ ?_
    ·unfold execOp;dsimp only
     rw[m]
    ·unfold Instr.extract;dsimp only
     rw[a6];rfl
   ·cases e
  ·cases e
 ·rename_i c a b;unfold adi at e;split at e
  ·rename_i t hc;split at e
   ·rename_i u u' ha E;cases e;obtain⟨m,A⟩:=one hc
    obtain⟨N,e4⟩:=one ha
    obtain⟨e5,e6⟩:=one E
    refine iF (s:=Pure.pure (bif t then u else u')) (fun y g=>by simp[Op.operands]at g;rcases g with g|g|g<;>(rw[g];assumption)) rfl ?_ rfl;unfold execOp;dsimp only
    rw[m,N,e5];cases t<;>rfl
   ·cases e
  ·cases e
 ·rename_i t x i;unfold Xw at e;split at e
  ·rename_i a a0 J k n D hi;obtain⟨m,A⟩:=one D
   obtain⟨N,e4⟩:=one hi
   split at e
   ·rename_i W el z q F;split at e
    ·rename_i H u' z' L R;split at e
     ·rename_i E;cases e;have j:=(K.get _ _ F).1;obtain⟨Q,w,l⟩:=(K.get _ _ R).2.1;dsimp only at l;refine iF (s:=Instr.indexAt t (.slice (some a) a0 J) (.int k n)) (fun y g=>by simp[Op.operands]at g;rcases g with g|g<;>(rw[g];assumption)) rfl ?_ ?_
      ·unfold execOp;dsimp only
       rw[m,N]
      ·unfold Instr.indexAt;rw[aC (show(asIntOf (.int k n)).fJ P h=some (k,n)from rfl)];dsimp only
       rw[aC (eu j)];dsimp only
       rw[aC (iZ _)];dsimp only
       rw[aC (eu j)];dsimp only
       rw[if_pos E,aC (qI w),l];rfl
     ·cases e
    ·cases e
   ·cases e
  ·rename_i a k n D hi;obtain⟨m,A⟩:=one D
   obtain⟨N,e4⟩:=one hi
   split at e
   ·rename_i W a0 el z q F;split at e
    ·rename_i H u' z' L R;split at e
     ·rename_i E;cases e;have j:=(K.get _ _ F).1;obtain⟨Q,w,l⟩:=(K.get _ _ R).2.1;dsimp only at l;refine iF (s:=Instr.indexAt t (.pointer (some a)) (.int k n)) (fun y g=>by simp[Op.operands]at g;rcases g with g|g<;>(rw[g];assumption)) rfl ?_ ?_
      ·unfold execOp;dsimp only
       rw[m,N]
      ·unfold Instr.indexAt;rw[aC (show(asIntOf (.int k n)).fJ P h=some (k,n)from rfl)];dsimp only
       rw[aC (eu j)];dsimp only
       rw[aC (show(Instr.sureAddr (.pointer (some a))).fJ P h=some a from rfl)];rw[aC (iZ _)];dsimp only
       rw[aC (eu j)];dsimp only
       rw[if_pos E,aC (qI w),l];rfl
     ·cases e
    ·cases e
   ·cases e
  ·cases e
 ·rename_i t ps;unfold Xy at e;split at e
  ·rename_i W fields z q F;obtain⟨j,⟨Q,w,l⟩,O,a7⟩:=K.get _ _ F
   obtain⟨a1,a8⟩:=a7 fields rfl
   dsimp only at O j a1;obtain⟨a9,U⟩:=CV _ e
   refine iF (s:=Instr.build t (ps.map fun p=>(p.1,ay ⟨r⟩ p.2))) (fun y g=>?_) rfl ?_ ?_
   ·simp[Op.operands]at g;obtain⟨a,hp⟩:=g
    exact a9 (a,y) (Array.mem_toList_iff.2 hp)
   ·unfold execOp;rfl
   ·unfold Instr.build;rw[aC (abm O),aC (eu j)];dsimp only
    rw[aC (UE a1 a8)];have a2:(ps.map fun p=>(p.1,ay ⟨r⟩ p.2)).toList=ps.toList.map fun p=>(p.1,ay ⟨r⟩ p.2):=by simp
    obtain⟨c,b0,b1⟩:=U
    have b2:z.cells=⟨z.cells.toList⟩:=rfl
    rw[a2];have:(fun i:Nat=>(q.toArray)[i]?)=(fun i:Nat=>q[i]?):=by funext i;simp
    rw[show(fun x:Nat=>q.toArray[x]?)=(fun i:Nat=>q[i]?)from this];rw[b2,b0];show some (Value.agg ⟨c⟩)=some v
    rw[b1]
  ·cases e
 ·rename_i args a3;split at e
  ·rename_i x V;split at e
   ·rename_i t rest a4;split at e
    ·rename_i W el z q F;unfold agU at e;split at e
     ·rename_i base n J D;cases e;obtain⟨m,A⟩:=one D
      have j:=(K.get _ _ F).1;have ha:args=#[x]:=Array.ext' V
      subst ha;have b3:a3[0]?=some t:=by rw[←Array.getElem?_toList,a4];rfl
      refine iF (s:=Builtin.len_ a3 type #[.slice base n J]) (fun y g=>by simp[Op.operands,Call.operands]at g;rw[g];exact A) rfl ?_ ?_
      ·unfold execOp;dsimp only
       have hm:(#[x]:Array Operand).map (ay ⟨r⟩)=#[.slice base n J]:=by simp[m]
       unfold resolve;dsimp only
       rw[hm];rfl
      ·unfold Builtin.len_;rw[b3];show(underlying t>>=fun d=>_:Sem Value).fJ P h=_
       rw[aC (eu j)];rfl
     ·cases e
    ·cases e
   ·cases e
  ·cases e
 ·cases e
end
end Go.Am
namespace Go.Am
noncomputable section
def XA(b:Option Nat)(v:Value)(next:K):K:=fun c a h=>Option.rec (next c a h) (fun d=>rY v a d fun a=>next c a h) b
def opR(P:Program)(o:Oper)(b:List aV)(next:K)(c:Ctx)(a:List Value)(r:Option (Next×AH)):Option AS:=match r with
 |some (.value v,h)=>XA o.dst v next c a h
 |some (.skip,h)=>XA o.dst undef next c a h
 |some (.enter f args,h)=>Ir P f args c b a h
 |_=>none
def evL(a:List Value)(xs:List Operand):Option (List Value):=List.rec (some []) (fun x _ b=>match vk a x with
 |some v=>match b with
  |some l=>some (v::l)
  |none=>none
 |none=>none) xs
def adk(i:Tr Func)(c:Ctx)(b:List aV)(a:List Value)(h:AH)(as:List Operand)(f:Option Value):Option AS:=match f with
 |some (.func (.func g) first d)=>match i.get g with
  |some e=>match evL a as with
   |some l=>some ⟨⟨g,⟨app (app first.toList (app l d.toList)) (rep undef (e.ntmps-(app first.toList (app l d.toList)).length))⟩,[.code (e.body.getD (.refuse "unsupported: a function without a Go body is entered"))],[],false,none,false⟩,⟨c.fn,⟨a⟩,b,c.defers,false,c.round,c.dk⟩::c.cs,h⟩
   |none=>none
  |none=>none
 |_=>none
def Gw(d:Tr Func)(c:Ctx)(b:List aV)(a:List Value)(h:AH)(op:Op):Option AS:=match op with
 | .call ⟨.value x,args,_⟩=>adk d c b a h args.toList (vk a x)
 |_=>none
def op3(P:Program)(d:Tr Func)(o:Oper)(b:List aV)(next:K)(c:Ctx)(a:List Value)(h:AH):Option AS:=
 Option.rec (opR P o b next c a (bP P none h ⟨a⟩ o)) some (Gw d c b a h o.op)
def XB(T:Tr TI)(h:AH)(t:Nat)(x v:Option Value):Option AH:=match x with
 |some (.pointer (some a))=>match v with
  |some v=>match T.get t with
   |some ⟨b,_,_,_⟩=>bif Nat.beq b 1 then match v with
     | .agg _=>none
     | .tuple _=>none
     |v=>h.setCell a v
    else none
   |none=>none
  |none=>none
 |_=>none
def Gx(T:Tr TI)(a:List Value)(h:AH)(op:Op):Option AH:=match op with
 | .store t x v=>XB T h t (vk a x) (vk a v)
 |_=>none
def Ad(T:Tr TI)(a:List Value)(h:AH)(op:Op):Option (Value×AH):=match op with
 | .alloc t=>Xt T h t
 | .box t x=>agQ h t (vk a x)
 |_=>none
def op5(P:Program)(T:Tr TI)(d:Tr Func)(o:Oper)(b:List aV)(next:K)(c:Ctx)(a:List Value)(h:AH):Option AS:=
 Option.rec (op3 P d o b next c a h) (fun h=>XA o.dst undef next c a h) (Gx T a h o.op)
def op4(P:Program)(T:Tr TI)(d:Tr Func)(o:Oper)(b:List aV)(next:K)(c:Ctx)(a:List Value)(h:AH):Option AS:=
 Option.rec (op5 P T d o b next c a h) (fun r=>XA o.dst r.1 next c a r.2) (Ad T a h o.op)
def op2(P:Program)(T:Tr TI)(b:Tr Func)(o:Oper)(a:List aV)(next:K)(c:Ctx)(tmps:List Value)(h:AH):Option AS:=
 Option.rec (op4 P T b o a next c tmps h) (fun v=>XA o.dst v next c tmps h) (fast T tmps h o.op)
def KH(ops:Array Oper)(tmps:List Value)(g:Nat×Bool):Bool:=match nth ops.toList g.1 with
 |some o=>match o.dst with
  |some d=>match nth tmps d with
   |some (.bool b)=>b==g.2
   |_=>false
  |none=>false
 |none=>false
def opK(P:Program)(T:Tr TI)(d:Tr Func)(ops:Array Oper)(o:Oper)(b:List aV)(next:K):K:=fun c a h=>
 Option.rec (op2 P T d o b next c a h) (fun g=>Bool.rec (XA o.dst undef next c a h) (op2 P T d o b next c a h) (KH ops a g)) o.guard
def yF(b:List aV)(first:Bool)(q:K):K:=fun c a h=>Option.rec (Bool.rec (some (mk b c a h)) none first) some (q c a h)
def opI(P:Program)(T:Tr TI)(c:Tr Func)(b:Array Oper)(a:List aV)(next:K)(o:Option Oper):K:=Option.rec RP (fun o=>opK P T c b o a next) o
def XC(P:Program)(T:Tr TI)(b:Tr Func)(a:Array Oper)(k:List aV)(l:List Nat):Bool->K:=
 List.rec (fun _=>kGo k) (fun i l c first=>yF (.region a (i::l)::k) first (opI P T b a (.region a (i::l)::k) (c false) (nth a.toList i))) l
def aji(P:Program)(T:Tr TI)(b:Tr Func)(a:Array Oper)(d:Bool)(k:List aV):K:=Bool.rec (XC P T b a k (List.range a.toList.length) false) RP d
def reF(T:Tr TI)(a:List Value)(h:AH)(b:Array Oper)(c:List Nat):Bool:=List.rec true (fun j _ e=>match nth b.toList j with
 |some o=>match o.dst,o.guard with
  |some d,none=>match nth a d with
   |some v=>match fast T a h o.op with
    |some f=>bif jl 9 v f&&decide (kindOf o=.fO)then e else false
    |none=>false
   |none=>false
  |_,_=>false
 |none=>false) c
def xx(T:Tr TI)(b:Array Oper)(again:List Nat)(next:K):K:=fun c a h=>Bool.rec none (next c a h) (reF T a h b again)
def KI(T:Tr TI)(b:Array Oper)(again:List Nat)(e:Option Nat)(v:Value)(next:K):K:=fun c a h=>
 Option.rec (xx T b again next c a h) (fun d=>rY v a d fun a=>xx T b again next c a h) e
def dR(P:Program)(T:Tr TI)(b:Array Oper)(o:Oper)(again:List Nat)(d:List aV)(next:K)(c:Ctx)(a:List Value)(r:Option (Next×AH)):Option AS:=match r with
 |some (.value v,h)=>KI T b again o.dst v next c a h
 |some (.skip,h)=>KI T b again o.dst undef next c a h
 |some (.enter f args,h)=>Ir P f args c d a h
 |_=>none
def d3(P:Program)(T:Tr TI)(e:Tr Func)(d:Array Oper)(o:Oper)(again:List Nat)(b:List aV)(next:K)(c:Ctx)(a:List Value)(h:AH):Option AS:=
 Option.rec (dR P T d o again b next c a (bP P none h ⟨a⟩ o)) some (Gw e c b a h o.op)
def d2(P:Program)(T:Tr TI)(e:Tr Func)(b:Array Oper)(o:Oper)(again:List Nat)(d:List aV)(next:K)(c:Ctx)(a:List Value)(h:AH):Option AS:=
 Option.rec (d3 P T e b o again d next c a h) (fun h=>KI T b again o.dst undef next c a h) (Gx T a h o.op)
def aeq(P:Program)(T:Tr TI)(e:Tr Func)(b:Array Oper)(o:Oper)(again:List Nat)(d:List aV)(next:K):K:=fun c a h=>
 Option.rec (d2 P T e b o again d next c a h) (fun r=>KI T b again o.dst r.1 next c a r.2) (Ad T a h o.op)
def Nu(T:Tr TI)(o:Oper)(next:K):K:=fun c a h=>match fast T a h o.op with
 |some v=>match o.dst with
  |some d=>bif Nat.blt d a.length then rY v a d fun a=>next c a h else none
  |none=>none
 |none=>none
def Nv(T:Tr TI)(b:Array Oper)(o:Oper)(again:List Nat)(next:K):K:=fun c a h=>match o.op with
 | .alloc t=>match T.get t with
  |some ⟨_,_,some z,_⟩=>match o.dst with
   |some d=>bif Nat.blt d a.length then rY (.pointer (some ⟨h.n,0,none⟩)) a d fun a=>xx T b again next c a (h.new (.cells z.cells t (0,0)))else none
   |none=>none
  |_=>none
 |_=>none
def dOp(P:Program)(T:Tr TI)(c:Tr Func)(a:Array Oper)(i:Nat)(o:Oper)(again:List Nat)(b:List aV)(next:K):K:=
 Option.rec (Kind.rec (Nu T o next) (Nv T a o again next) (aeq P T c a o again b next) (cond (over a i o) .effect (kindOf o))) (fun _=>RP) o.guard
def dI(P:Program)(T:Tr TI)(c:Tr Func)(b:Array Oper)(i:Nat)(again:List Nat)(a:List aV)(next:K)(o:Option Oper):K:=Option.rec RP (fun o=>dOp P T c b i o again a next) o
def CX(P:Program)(T:Tr TI)(b:Tr Func)(a:Array Oper)(k:List aV)(l:List (Nat×List Nat)):Bool->K:=
 List.rec (fun _=>kGo k) (fun i l c first=>yF (.drawn a (i::l)::k) first (dI P T b a i.1 i.2 (.drawn a (i::l)::k) (c false) (nth a.toList i.1))) l
def aer(k:List aV):K:=fun c a h=>match c.round with
 |none=>some ⟨⟨c.fn,⟨a⟩,.code .ret::k,c.defers,true,none,c.dk⟩,c.cs,h⟩
 |some _=>none
def XE(id:Nat)(k:List aV):K:=fun c a h=>match qJ id k with
 |some k=>some (mk k c a h)
 |none=>none
def codeF(P:Program)(T:Tr TI)(j:Tr Func)(x:Code):List aV->K:=
 Code.rec (motive:=fun _=>List aV->K)
  (skip:=kGo) (region:=fun _ c d=>aji P T j c d) (seq:=fun _ b a _ k=>a (.code b::k)) (cond:=fun x _ _ a e k=>Xq (a k) (e k) x)
  (block:=fun id _ f k=>f (.inBlock id::k)) (loop:=fun b f k=>f (.inLoop b::k)) (exit:=XE) (goto:=fun _ _=>RP) (label:=fun _ _=>RP) (scope:=fun _ _ _=>RP)
  (ret:=aer) (rangeFunc:=fun _ _ _ _ _ _ _=>RP) (refuse:=fun _ _=>RP) x
def adl(P:Program)(T:Tr TI)(c:Tr Func)(x:aV):List aV->K:=
 aV.casesOn (motive:=fun _=>List aV->K) x (code:=codeF P T c) (inBlock:=fun _=>kGo) (inLoop:=fun b k=>codeF P T c b (.inLoop b::k)) (inScope:=fun _=>kGo)
  (region:=fun a l k=>XC P T c a k l true) (drawn:=fun a l k=>CX P T c a k l true) (inRangeFunc:=fun _ _=>RP) (endRangeFunc:=fun _ _=>RP) (beginRound:=fun _=>RP)
def agW(P:Program)(T:Tr TI)(b:Tr Func)(a:List aV):K:=List.casesOn (motive:=fun _=>K) a RP (adl P T b)
def abo(a:List Value)(l:List ResultVar):Option (List Value):=List.rec (some []) (fun x _ b=>match x with
 | .tmp t=>match nth a t with
  |some v=>match b with
   |some m=>some (v::m)
   |none=>none
  |none=>none
 |_=>none) l
def resV(l:List Value):Value:=match l with
 | [v]=>v
 |l=>.tuple ⟨l⟩
def XF(T:Tr TI)(h:AH)(f:List aN)(g:FuncId)(a:Array Value)(e:List aV)(defers:List Deferred)(c:Bool)(round:Option Nat)(j:Bool)(v:Value):Option AS:=match e with
 | .region b (i::l)::k=>match nth b.toList i with
  |some o=>match o.dst with
   |some d=>rY v a.toList d fun a=>some ⟨⟨g,⟨a⟩,.region b l::k,defers,c,round,j⟩,f,h⟩
   |none=>some ⟨⟨g,a,.region b l::k,defers,c,round,j⟩,f,h⟩
  |none=>none
 | .drawn b ((i,again)::l)::k=>match nth b.toList i with
  |some o=>match kindOf o with
   | .effect=>match o.dst with
    |some d=>rY v a.toList d fun a=>bif reF T a h b again then some ⟨⟨g,⟨a⟩,.drawn b l::k,defers,c,round,j⟩,f,h⟩else none
    |none=>bif reF T a.toList h b again then some ⟨⟨g,a,.drawn b l::k,defers,c,round,j⟩,f,h⟩else none
   |_=>none
  |none=>none
 |_=>none
def XG(T:Tr TI)(j:Tr Func)(d:List aN)(h:AH)(e:FuncId)(a:Array Value)(defers:List Deferred)(g:Bool):Option AS:=match defers with
 | []=>match g with
  |false=>match d with
   |c::d=>match j.get e with
    |some f=>match abo a.toList f.results.toList with
     |some l=>aN.casesOn c (fun e a b defers i round g=>XF T h d e a b defers i round g (resV l))
     |none=>none
    |none=>none
   | []=>none
  |true=>none
 |_=>none
def frF(P:Program)(T:Tr TI)(d:Tr Func)(e:List aN)(h:AH)(f:FuncId)(a:Array Value)(b:List aV)(defers:List Deferred)(c:Bool)(round:Option Nat)(g:Bool):Option AS:=
 Bool.rec (agW P T d b ⟨f,defers,round,g,e⟩ a.toList h) (XG T d e h f a defers g) c
def qK(P:Program)(T:Tr TI)(a:Tr Func)(s:AS):Option AS:=AS.casesOn s fun b c h=>aN.casesOn b (frF P T a c h)
def CY(P:Program)(b:bI)(T:Tr TI)(c:Tr Func)(n:Nat):AS->Option yD:=Nat.rec (fun s=>some (.go s)) (fun _ a s=>Option.rec (RQ P b s a) a (qK P T c s)) n
end
structure gq(P:Program)(Fu:Tr Func):Prop where
 get:∀f fn,Fu.get f=some fn->P.funcs[f]?=some fn/\cu P f=true
end Go.Am
namespace Go.Am
noncomputable section
def XH(P:Program)(d:TypeDesc):Option TypeDesc:=match d with
 | .named _ u=>(P.info? u).map TypeInfo.desc
 |d=>some d
def Iu(P:Program)(l:List Field):Option (List (Nat×Nat)):=List.rec (some []) (fun f _ a=>match P.info? f.type with
 |some d=>match a with
  |some m=>some ((f.offset,d.size)::m)
  |none=>none
 |none=>none) l
def Iw(P:Program)(d:TypeInfo):Option TI:=match XH P d.desc with
 |some (.struct fields)=>match Iu P fields.toList with
  |some a=>some ⟨d.size,.struct fields,d.zero,a⟩
  |none=>none
 |some u=>some ⟨d.size,u,d.zero,[]⟩
 |none=>none
def XI(P:Program)(l:List TypeInfo):Nat->Tr TI:=List.rec (fun _=>.nil) (fun d _ a i=>match Iw P d with
 |some e=>(a (i+1)).set i e
 |none=>a (i+1)) l
def yG(l:List Func):Nat->Tr Func:=List.rec (fun _=>.nil) (fun a _ b i=>bif a.body.isSome&&!(a.name== "runtime.NumGoroutine")then(b (i+1)).set i a else b (i+1)) l
end
section
variable{P:Program}
theorem xy:∀(l:List Field) {a:List (Nat×Nat)},Iu P l=some a->l.map (fun f=>(f.offset,P.cellsOf f.type))=a/\∀f∈l,∃d,P.info? f.type=some d
 | [],a,e=>by cases e;exact⟨rfl,fun f c=>(by cases c)⟩
 |f::l,a,e=>by
  replace e:(match P.info? f.type with
   |some d=>match Iu P l with
    |some m=>some ((f.offset,d.size)::m)
    |none=>none
   |none=>none)=some a:=e
  split at e
  ·rename_i d hd;split at e
   ·rename_i m h;cases e;obtain⟨i,j⟩:=xy l h
    refine⟨?_,fun g b=>?_⟩
    ·rw[List.map_cons,i];unfold Program.cellsOf;rw[hd];rfl
    ·rcases List.mem_cons.1 b with rfl|b
     ·exact⟨d,hd⟩
     ·exact j g b
   ·cases e
  ·cases e
theorem UF{t:Nat}{d:TypeInfo}{i:TI}(hd:P.info? t=some d)(e:Iw P d=some i):
  P.underlying t=some i.und/\(∃d,P.info? t=some d/\d.size=i.size)/\zeroOf P t=i.zero/\∀fields,i.und=.struct fields->fields.toList.map (fun f=>(f.offset,P.cellsOf f.type))=i.places/\∀f∈fields.toList,∃d,P.info? f.type=some d:=by
 have l:P.underlying t=XH P d.desc:=by
  unfold Program.underlying XH;rw[hd];obtain⟨b⟩:=d
  cases b<;>rfl
 have j:zeroOf P t=d.zero:=by unfold zeroOf;rw[hd];rfl
 rw[l];unfold Iw at e;split at e
 ·rename_i fields m;split at e
  ·rename_i n c;cases e;rw[m];refine⟨rfl,⟨d,hd,rfl⟩,j,fun k a=>?_⟩;cases a;exact xy _ c
  ·cases e
 ·rename_i u g h;cases e;rw[h];exact⟨rfl,⟨d,hd,rfl⟩,j,fun k a=>absurd a (g k)⟩
 ·cases e
theorem KJ:∀(l:List TypeInfo) (i:Nat),(∀j d,l[j]?=some d->P.info? (i+j)=some d)->∀t a,(XI P l i).get t=some a->
  P.underlying t=some a.und/\(∃d,P.info? t=some d/\d.size=a.size)/\zeroOf P t=a.zero/\∀fields,a.und=.struct fields->fields.toList.map (fun f=>(f.offset,P.cellsOf f.type))=a.places/\∀f∈fields.toList,∃d,P.info? f.type=some d
 | [],i,b,t,a,e=>by cases e
 |d::l,i,b,t,a,e=>by
  have g:=KJ l (i+1) fun j k m=>by
   have:=b (j+1) k (by simpa using m)
   rw[show i+1+j=i+(j+1)from by omega];exact this
  replace e:(match Iw P d with
   |some h=>(XI P l (i+1)).set i h
   |none=>XI P l (i+1)).get t=some a:=e
  split at e
  ·rename_i h c;rw[Tr.dW]at e;split at e
   ·rename_i n;cases e;subst n;exact UF (b 0 d rfl) c
   ·exact g t a e
  ·exact g t a e
theorem abp:aZ P (XI P P.types.toList 0):=
 ⟨KJ P.types.toList 0 fun j d b=>by
  have a:P.types[j]?=some d:=by simpa using b
  have c:j<P.types.size:=(Array.getElem?_eq_some_iff.1 a).1;rw[Nat.zero_add];unfold Tables.info?;rw[if_pos c];exact a⟩
theorem KL:∀(l:List Func) (i:Nat),(∀j d,l[j]?=some d->P.funcs[i+j]?=some d)->∀f a,(yG l i).get f=some a->P.funcs[f]?=some a/\cu P f=true
 | [],i,b,t,n,e=>by cases e
 |d::l,i,b,f,a,e=>by
  have g:=KL l (i+1) fun j h k=>by
   have:=b (j+1) h (by simpa using k)
   rw[show i+1+j=i+(j+1)from by omega];exact this
  replace e:(bif d.body.isSome&&!(d.name== "runtime.NumGoroutine")then(yG l (i+1)).set i d else yG l (i+1)).get f=some a:=e
  cases c:(d.body.isSome&&!(d.name== "runtime.NumGoroutine"))with
  |true=>
   rw[c]at e;dsimp only[cond_true]at e;rw[Tr.dW]at e;split at e
   ·rename_i m;cases e;subst m;have h0:=b 0 d rfl
    refine⟨h0,?_⟩;unfold cu;rw[show f+0=f from rfl]at h0;rw[h0];exact c
   ·exact g f a e
  |false=>rw[c]at e;exact g f a e
theorem abq:gq P (yG P.funcs.toList 0):=
 ⟨KL P.funcs.toList 0 fun j d a=>by
  rw[Nat.zero_add];simpa using a⟩
end
end Go.Am
namespace Go.Am
section
variable{P:Program}{T:Tr TI}{b:Tr Func}{pl:bI}{tmps:List Value}{h h':AH}{o:Oper}{v:Value}{x:Operand}{c:Ctx}{s':AS}{k:List aV}{ops:Array Oper}{i:Nat}{l:List Nat}{next:K}
theorem CZ:∀(l m:List Value),app l m=l++m
 | [],m=>rfl
 |x::l,m=>by show x::app l m=_;rw[CZ l m];rfl
theorem Nw(v:Value):∀(n:Nat),rep v n=List.replicate n v
 |0=>rfl
 |n+1=>by show v::rep v n=_;rw[Nw v n];rfl
abbrev To(P:Program)(pl:bI)(s' s:AS):Prop:=bJ P pl (· =s') s
theorem To.one{s s₁:AS}(e:aI P pl none s=some (.go s₁))(k:To P pl s' s₁):To P pl s' s:=bJ.one e k
def bU(P:Program)(pl:bI)(a:List aV)(q:K):Prop:=∀c tmps h s',q c tmps h=some s'->To P pl s' (mk a c tmps h)
theorem sK(a:List aV):bU P pl a (kGo a):=fun c tmps h s' e=>by cases e;exact .here rfl
theorem kz(a:List aV):bU P pl a RP:=fun c tmps h s' e=>by cases e
theorem fZ{d a:List aV}{q:K}(f:∀c tmps h,aI P pl none (mk d c tmps h)=some (.go (mk a c tmps h)))(g:bU P pl a q):bU P pl d q:=fun c tmps h s' e=>To.one (f c tmps h) (g c tmps h s' e)
theorem yH{a:Option Nat}(f:bU P pl (.region ops l::k) next)(e:XA a v next c tmps h=some s'):
  To P pl s' ⟨⟨c.fn,dP ⟨tmps⟩ a v,.region ops l::k,c.defers,false,c.round,c.dk⟩,c.cs,h⟩:=by
 unfold XA at e;cases a with
 |none=>exact f c tmps h s' e
 |some d=>
  replace e:rY v tmps d (fun tmps=>next c tmps h)=some s':=e
  rw[ku]at e;have:=f c _ h s' e
  unfold mk at this;have g:dP ⟨tmps⟩ (some d) v=⟨tmps.set d v⟩:=by
   unfold dP;apply Array.ext';simp
  rw[g];exact this
theorem oZ(a:ops[i]?=some o)(d:Region.wanted o (yielded ops ⟨tmps⟩)=true):aI P pl none (mk (.region ops (i::l)::k) c tmps h)=bZ P (mk (.region ops (i::l)::k) c tmps h).fr c.cs (bP P none h ⟨tmps⟩ o):=by
 unfold aI mk;dsimp only
 rw[a];dsimp only
 rw[if_pos d]
theorem vX(a:ops[i]?=some o)(v:Value)(h:AH):aA P (mk (.region ops (i::l)::k) c tmps h').fr h v=some ⟨c.fn,dP ⟨tmps⟩ o.dst v,.region ops l::k,c.defers,false,c.round,c.dk⟩:=by
 unfold aA mk;dsimp only
 rw[a];rfl
theorem sN(d:ops[i]?=some o)(f:Region.wanted o (yielded ops ⟨tmps⟩)=true)(g:bU P pl (.region ops l::k) next)(j:bP P none h ⟨tmps⟩ o=some (.value v,h'))(e:XA o.dst v next c tmps h'=some s'):To P pl s' (mk (.region ops (i::l)::k) c tmps h):=by
 have a:=oZ (P:=P) (pl:=pl) (c:=c) (tmps:=tmps) (h:=h) (l:=l) (k:=k) d f
 rw[j]at a;unfold bZ at a;dsimp only at a;rw[vX d]at a;exact .one a (yH g e)
theorem C9(d:ops[i]?=some o)(f:Region.wanted o (yielded ops ⟨tmps⟩)=true)(g:bU P pl (.region ops l::k) next)(j:bP P none h ⟨tmps⟩ o=some (.skip,h'))(e:XA o.dst undef next c tmps h'=some s'):To P pl s' (mk (.region ops (i::l)::k) c tmps h):=by
 have a:=oZ (P:=P) (pl:=pl) (c:=c) (tmps:=tmps) (h:=h) (l:=l) (k:=k) d f
 rw[j]at a;unfold bZ at a;dsimp only at a;rw[vX d]at a;exact .one a (yH g e)
theorem xA{a:List aV}{f:FuncId}{args:Array Value}(g:aI P pl none (mk a c tmps h)=bZ P (mk a c tmps h).fr c.cs (bP P none h ⟨tmps⟩ o))(m:bP P none h ⟨tmps⟩ o=some (.enter f args,h'))(e:Ir P f args c a tmps h'=some s'):To P pl s' (mk a c tmps h):=by
 rw[m]at g;unfold Ir at e;cases d:P.funcs[f]? with
 |none=>rw[d]at e;cases e
 |some j=>
  rw[d]at e;unfold Xp at e;cases e;refine .one g (.here ?_);unfold aN.enter;rw[d];dsimp only
  have n:args++Array.replicate (j.ntmps-args.size) undef=⟨app args.toList (rep undef (j.ntmps-args.toList.length))⟩:=by apply Array.ext';rw[CZ,Nw];simp
  simp only[Option.map_some,Option.getD_some,Option.bind_some,n]
  rfl
theorem UG(d:ops[i]?=some o)(g:Region.wanted o (yielded ops ⟨tmps⟩)=true)(j:bU P pl (.region ops l::k) next)(e:opR P o (.region ops (i::l)::k) next c tmps (bP P none h ⟨tmps⟩ o)=some s'):To P pl s' (mk (.region ops (i::l)::k) c tmps h):=by
 unfold opR at e;split at e
 ·rename_i v h' a;exact sN d g j a e
 ·rename_i h' a;exact C9 d g j a e
 ·rename_i f args h' a;exact xA (oZ d g) a e
 ·cases e
theorem KN:∀(xs:List Operand) {l:List Value},evL tmps xs=some l->xs.map (ay ⟨tmps⟩)=l/\∀x∈xs,okX x=true
 | [],l,e=>by cases e;exact⟨rfl,fun x d=>by cases d⟩
 |x::xs,l,e=>by
  replace e:(match vk tmps x with
   |some v=>match evL tmps xs with
    |some l=>some (v::l)
    |none=>none
   |none=>none)=some l:=e
  split at e
  ·rename_i v f;split at e
   ·rename_i m g;cases e;obtain⟨j,n⟩:=jZ f
    obtain⟨p,q⟩:=KN xs g
    refine⟨by rw[List.map_cons,j,p],fun y a=>?_⟩;rcases List.mem_cons.1 a with rfl|a
    ·exact n
    ·exact q y a
   ·cases e
  ·cases e
theorem Ae{a:List aV}(KF:gq P b)(z:aI P pl none (mk a c tmps h)=bZ P (mk a c tmps h).fr c.cs (bP P none h ⟨tmps⟩ o))(e:Gw b c a tmps h o.op=some s'):To P pl s' (mk a c tmps h):=by
 obtain⟨f,op,type,pos,after,guard⟩:=o
 dsimp only at e;unfold Gw at e;split at e
 ·rename_i x args j;unfold adk at e;split at e
  ·rename_i g first d B
   obtain⟨A,C⟩:=jZ B
   split at e
   ·rename_i q r;obtain⟨s,p⟩:=KF.get _ _ r
    split at e
    ·rename_i as has;cases e;obtain⟨D,E⟩:=KN _ has
     have t:bP P none h ⟨tmps⟩ ⟨f,.call ⟨.value x,args,j⟩,type,pos,after,guard⟩=some (.enter g ((first++args.map (ay ⟨tmps⟩))++d),h):=by
      unfold bP;have u:bC ⟨f,.call ⟨.value x,args,j⟩,type,pos,after,guard⟩=true:=uG fun y n=>by
       simp only[Op.operands,Call.operands]at n;rcases Array.mem_append.1 n with n|n
       ·simp at n;rw[n];exact C
       ·exact E y (Array.mem_toList_iff.2 n)
      have w:lX P h (ay ⟨tmps⟩) ⟨f,.call ⟨.value x,args,j⟩,type,pos,after,guard⟩=true:=by
       show KO P (ay ⟨tmps⟩ x)=true
       rw[A];rfl
      rw[show bM ⟨f,.call ⟨.value x,args,j⟩,type,pos,after,guard⟩=false from rfl,u,w];simp only[Bool.false_eq_true,if_false,Bool.and_self,if_true]
      have:execOp (ay ⟨tmps⟩) ⟨f,.call ⟨.value x,args,j⟩,type,pos,after,guard⟩=callFunc g ((first++args.map (ay ⟨tmps⟩))++d):=by
       unfold execOp;dsimp only
       unfold resolve;dsimp only
       rw[A];rfl
      rw[this];unfold callFunc cu at*;rw[s]at p;dsimp only at p;rw[Bool.and_eq_true,Bool.not_eq_true']at p;show(match P.funcs[g]? with|none=>_|some q=>_:Sem Next).ar P none h=_
      rw[s];dsimp only
      rw[if_neg (by rw[p.2];simp),if_neg (by have:=p.1;cases H:q.body<;>simp_all)];rfl
     rw[t]at z;refine .one z (.here ?_);unfold aN.enter;rw[s];dsimp only
     have F:∀m:Array Value,m.toList=app first.toList (app as d.toList)->m++Array.replicate (q.ntmps-m.size) undef=⟨app (app first.toList (app as d.toList)) (rep undef (q.ntmps-(app first.toList (app as d.toList)).length))⟩:=by intro m h';apply Array.ext';rw[←h',CZ m.toList,Nw];simp
     have:=F ((first++args.map (ay ⟨tmps⟩))++d) (by rw[CZ,CZ,←D];simp)
     simp only[Option.map_some,Option.getD_some,Option.bind_some,this]
     rfl
    ·cases e
   ·cases e
  ·cases e
 ·cases e
theorem Af(K:aZ P T)(e:Gx T tmps h o.op=some h'):bP P none h ⟨tmps⟩ o=some (.skip,h'):=by
 obtain⟨g,op,type,pos,after,guard⟩:=o
 dsimp only at e;unfold Gx at e;split at e
 ·rename_i t x v;unfold XB at e;split at e
  ·rename_i a A;obtain⟨B,R⟩:=jZ A
   split at e
   ·rename_i u C;obtain⟨D,U⟩:=jZ C
    split at e
    ·rename_i w d z E F;obtain⟨H,m,n⟩:=(K.get _ _ F).2.1;cases p:Nat.beq w 1 with
     |false=>rw[p]at e;cases e
     |true=>
      rw[p]at e;dsimp only[cond_true]at e;have q:w=1:=Nat.eq_of_beq_eq_true p
      subst q;have f:u.cells=#[u]/\h.setCell a u=some h'/\(∀c,u≠.agg c)/\∀c,u≠.tuple c:=by
       cases u<;>first|(cases e;done)|refine⟨rfl,e,?_,?_⟩<;>(intro c J;cases J)
      have r:(store a u).ar P none h=some ((),h'):=by
       unfold store;rw[Sem.ar.eq_def];obtain⟨_,L,M,N⟩:=f
       cases u<;>first|exact absurd rfl (M _)|exact absurd rfl (N _)|(dsimp only;rw[L];rfl)
      unfold bP;have s:bC ⟨g,.store t x v,type,pos,after,guard⟩=true:=uG fun y j=>by
       simp[Op.operands]at j;rcases j with j|j<;>(rw[j];assumption)
      rw[show bM ⟨g,.store t x v,type,pos,after,guard⟩=false from rfl,s,show lX P h (ay ⟨tmps⟩) ⟨g,.store t x v,type,pos,after,guard⟩=true from rfl];simp only[Bool.false_eq_true,if_false,Bool.and_self,if_true]
      unfold execOp;dsimp only
      rw[B,D];have O:(Instr.storeAt t (.pointer (some a)) u).ar P none h=some ((),h'):=by
       unfold Instr.storeAt;rw[mM (show(Instr.sureAddr (.pointer (some a))).ar P none h=some (a,h)from rfl)];unfold storeVar;rw[mM (abj m),f.1,n];simp only[List.size_toArray,List.length_cons,List.length_nil,ne_eq,not_true_eq_false,if_false]
       show(storeCells a [u] 0).ar P none h=_
       unfold storeCells;have Q:a.add 0=a:=rfl
       rw[Q,mM r];rfl
      show(Instr.storeAt t (.pointer (some a)) u>>=fun _=>(Pure.pure Next.skip:Sem Next)).ar P none h=_
      rw[mM O];rfl
    ·cases e
   ·cases e
  ·cases e
 ·cases e
theorem Ah(K:aZ P T)(a:bM o=false)(e:Ad T tmps h o.op=some (v,h')):bP P none h ⟨tmps⟩ o=some (.value v,h'):=by
 obtain⟨g,op,type,pos,after,guard⟩:=o
 dsimp only at e;unfold Ad at e;split at e
 ·rename_i t;unfold Xt at e;split at e
  ·rename_i w d z j m;cases e;have n:=(K.get _ _ m).2.2.1;refine KE (s:=Instr.alloc t true (.tuple #[])) a (fun y f=>by simp[Op.operands]at f) rfl ?_ ?_
   ·unfold execOp;rfl
   ·unfold Instr.alloc;rw[mM (abk (z:=z) n)];rfl
  ·cases e
 ·rename_i t x;unfold agQ at e;split at e
  ·rename_i u p;cases e;obtain⟨q,r⟩:=jZ p
   refine KE (s:=Instr.box t u) a (fun y f=>by simp[Op.operands]at f;rw[f];exact r) rfl ?_ rfl;unfold execOp;dsimp only
   rw[q]
  ·cases e
 ·cases e
theorem Gy(K:aZ P T)(KF:gq P b)(d:ops[i]?=some o)(f:Region.wanted o (yielded ops ⟨tmps⟩)=true)(j:bU P pl (.region ops l::k) next)(e:op2 P T b o (.region ops (i::l)::k) next c tmps h=some s'):To P pl s' (mk (.region ops (i::l)::k) c tmps h):=by
 unfold op2 at e;have g:fast T tmps h o.op≠none∨Ad T tmps h o.op≠none->bM o=false:=by
  intro a;obtain⟨t,op,type,pos,after,guard⟩:=o
  unfold bM;dsimp only at a⊢;split
  ·rcases a with a|a
   ·exact absurd rfl a
   ·exact absurd rfl a
  ·rfl
 cases m:fast T tmps h o.op with
 |some v=>rw[m]at e;exact sN d f j (Xz (g (.inl (by rw[m];simp))) (vV K m)) e
 |none=>
  rw[m]at e;replace e:op4 P T b o (.region ops (i::l)::k) next c tmps h=some s':=e
  unfold op4 at e;cases n:Ad T tmps h o.op with
  |some r=>
   rw[n]at e;obtain⟨v,h'⟩:=r
   exact sN d f j (Ah K (g (.inr (by rw[n];simp))) n) e
  |none=>
   rw[n]at e;replace e:op5 P T b o (.region ops (i::l)::k) next c tmps h=some s':=e
   unfold op5 at e;cases p:Gx T tmps h o.op with
   |some h'=>rw[p]at e;exact C9 d f j (Af K p) e
   |none=>
    rw[p]at e;replace e:op3 P b o (.region ops (i::l)::k) next c tmps h=some s':=e
    unfold op3 at e;cases q:Gw b c (.region ops (i::l)::k) tmps h o.op with
    |some s=>rw[q]at e;cases e;exact Ae KF (oZ d f) q
    |none=>rw[q]at e;exact UG d f j e
theorem XJ{g:Nat×Bool}(a:o.guard=some g):Region.wanted o (yielded ops ⟨tmps⟩)=KH ops tmps g:=by
 obtain⟨j,w⟩:=g
 unfold Region.wanted KH yielded;rw[a];dsimp only
 have e:nth ops.toList j=ops[j]?:=by rw[ja];simp
 rw[e];cases ops[j]? with
 |none=>simp
 |some f=>
  dsimp only[Option.bind_some]
  cases f.dst with
  |none=>simp
  |some d=>
   dsimp only[Option.bind_some]
   rw[jY];cases (Array.mk tmps)[d]? with
   |none=>simp
   |some v=>cases v<;>simp
theorem UH(K:aZ P T)(KF:gq P b)(a:ops[i]?=some o)(j:bU P pl (.region ops l::k) next):bU P pl (.region ops (i::l)::k) (opK P T b ops o (.region ops (i::l)::k) next):=by
 intro c tmps h s' e;unfold opK at e;cases d:o.guard with
 |some g=>
  rw[d]at e;replace e:Bool.rec (XA o.dst undef next c tmps h) (op2 P T b o (.region ops (i::l)::k) next c tmps h) (KH ops tmps g)=some s':=e
  have f:=XJ (ops:=ops) (tmps:=tmps) d
  cases n:KH ops tmps g with
  |true=>rw[n]at e f;exact Gy K KF a f j e
  |false=>
   rw[n]at e f;have m:aI P pl none (mk (.region ops (i::l)::k) c tmps h)=some (.go ⟨⟨c.fn,dP ⟨tmps⟩ o.dst undef,.region ops l::k,c.defers,false,c.round,c.dk⟩,c.cs,h⟩):=by
    unfold aI mk;dsimp only
    rw[a];dsimp only
    rw[if_neg (by rw[f];simp)];have:=vX (P:=P) (c:=c) (tmps:=tmps) (h':=h) (l:=l) (k:=k) a undef h
    unfold mk at this;dsimp only at this;rw[this];rfl
   exact .one m (yH j e)
 |none=>rw[d]at e;exact Gy K KF a (by unfold Region.wanted;rw[d]) j e
theorem vY(K:aZ P T)(KF:gq P b):∀(l:List Nat) (first:Bool),bU P pl (.region ops l::k) (XC P T b ops k l first)
 | [],first=>fZ (fun c tmps h=>rfl) (sK k)
 |i::l,first=>by
  intro c tmps h s' e;replace e:yF (.region ops (i::l)::k) first (opI P T b ops (.region ops (i::l)::k) (XC P T b ops k l false) (nth ops.toList i)) c tmps h=some s':=e
  unfold yF at e;cases a:opI P T b ops (.region ops (i::l)::k) (XC P T b ops k l false) (nth ops.toList i) c tmps h with
  |none=>
   rw[a]at e;cases first with
   |true=>cases e
   |false=>cases e;exact .here rfl
  |some f=>
   rw[a]at e;cases e;cases d:nth ops.toList i with
   |none=>rw[d]at a;cases a
   |some o=>rw[d]at a;rw[ja]at d;exact UH K KF (by simpa using d) (vY K KF l false) c tmps h _ a
variable{again:List Nat}{rest:List (Nat×List Nat)}
theorem qf(K:aZ P T):∀(f:List Nat),reF T tmps h ops f=true->recheck P ops f ⟨tmps⟩ h=true
 | [],e=>rfl
 |j::f,e=>by
  replace e:(match nth ops.toList j with
   |some o=>match o.dst,o.guard with
    |some d,none=>match nth tmps d with
     |some v=>match fast T tmps h o.op with
      |some q=>bif jl 9 v q&&decide (kindOf o=.fO)then reF T tmps h ops f else false
      |none=>false
     |none=>false
    |_,_=>false
   |none=>false)=true:=e
  split at e
  ·rename_i o w;rw[ja]at w;have r:ops[j]?=some o:=by simpa using w
   split at e
   ·rename_i d hd A;split at e
    ·rename_i v y;rw[jY]at y;split at e
     ·rename_i q g;cases m:(jl 9 v q&&decide (kindOf o=.fO))with
      |false=>rw[m]at e;cases e
      |true=>
       rw[m]at e;rw[Bool.and_eq_true]at m;have B:=Ac (vV K g)
       have C:eqB P h ops ⟨tmps⟩ j=true:=by
        unfold eqB;rw[r];dsimp only
        rw[hd];dsimp only
        rw[y];dsimp only
        have D:Region.wanted o (yielded ops ⟨tmps⟩)=true:=by unfold Region.wanted;rw[A]
        rw[D];dsimp only
        have s:∀t,o.op≠.alloc t:=fun t a=>by rw[a]at g;cases g
        have u:∀t n p,o.op≠.buildSlice t n p:=fun t n p a=>by rw[a]at g;cases g
        split
        ·rename_i t a;exact absurd a (s t)
        ·rename_i t n p a;exact absurd a (u t n p)
        ·rw[B];simp only[Bool.and_eq_true]
         exact⟨m.2,m.1⟩
       have z:=qf K f e
       unfold recheck at z⊢;rw[List.all_cons,C,z];rfl
     ·cases e
    ·cases e
   ·cases e
  ·cases e
theorem Ny(a:ops[i]?=some o)(d:kindOf o=.effect):aK ops i=.effect:=by
 unfold aK;rw[a];dsimp only
 rw[d];cases over ops i o<;>rfl
theorem KP(a:ops[i]?=some o):bT ops i=o.dst:=by unfold bT;rw[a];rfl
theorem Dc(K:aZ P T)(m:ops[i]?=some o)(f:aK ops i=.effect)(g:bU P pl (.drawn ops rest::k) next){Sj:List Value}{h₀:AH}(e:KI T ops again o.dst v next c tmps h=some s'):
  ∃j,aA P (mk (.drawn ops ((i,again)::rest)::k) c tmps h₀).fr h v=some j/\To P pl s' ⟨j,c.cs,h⟩:=by
 unfold aA mk;dsimp only
 rw[KP m];unfold KI at e;cases hd:o.dst with
 |none=>
  rw[hd]at e;replace e:xx T ops again next c tmps h=some s':=e
  unfold xx at e;cases a:reF T tmps h ops again with
  |false=>rw[a]at e;cases e
  |true=>rw[a]at e;exact⟨⟨c.fn,⟨tmps⟩,.drawn ops rest::k,c.defers,false,c.round,c.dk⟩,by rw[show dP ⟨tmps⟩ none v=⟨tmps⟩from rfl,if_pos ⟨f,qf K _ a⟩],g c tmps h s' e⟩
 |some d=>
  rw[hd]at e;replace e:rY v tmps d (fun tmps=>xx T ops again next c tmps h)=some s':=e
  rw[ku]at e;unfold xx at e;cases a:reF T (tmps.set d v) h ops again with
  |false=>rw[a]at e;cases e
  |true=>
   rw[a]at e;have n:dP ⟨tmps⟩ (some d) v=⟨tmps.set d v⟩:=by unfold dP;apply Array.ext';simp
   rw[n];exact⟨_,by rw[if_pos ⟨f,qf K _ a⟩],g c _ h s' e⟩
theorem qL(a:ops[i]?=some o)(d:aK ops i=.effect)(e:Region.wanted o (yielded ops ⟨tmps⟩)=true):aI P pl none (mk (.drawn ops ((i,again)::rest)::k) c tmps h)=bZ P (mk (.drawn ops ((i,again)::rest)::k) c tmps h).fr c.cs (bP P none h ⟨tmps⟩ o):=by
 unfold aI mk;dsimp only
 rw[a];dsimp only
 rw[d];dsimp only
 rw[if_pos e]
theorem Df(K:aZ P T)(f:ops[i]?=some o)(g:aK ops i=.effect)(m:Region.wanted o (yielded ops ⟨tmps⟩)=true)(n:bU P pl (.drawn ops rest::k) next)(p:bP P none h ⟨tmps⟩ o=some (.value v,h'))(e:KI T ops again o.dst v next c tmps h'=some s'):
  To P pl s' (mk (.drawn ops ((i,again)::rest)::k) c tmps h):=by
 have a:=qL (P:=P) (pl:=pl) (again:=again) (rest:=rest) (c:=c) (h:=h) (k:=k) f g m
 rw[p]at a;obtain⟨s,q,r⟩:=Dc (P:=P) (pl:=pl) (k:=k) (h₀:=h) (Sj:=tmps) K f g n e
 unfold bZ at a;dsimp only at a;rw[q]at a;exact .one a r
theorem Ai(K:aZ P T)(f:ops[i]?=some o)(g:aK ops i=.effect)(m:Region.wanted o (yielded ops ⟨tmps⟩)=true)(n:bU P pl (.drawn ops rest::k) next)(p:bP P none h ⟨tmps⟩ o=some (.skip,h'))(e:KI T ops again o.dst undef next c tmps h'=some s'):
  To P pl s' (mk (.drawn ops ((i,again)::rest)::k) c tmps h):=by
 have a:=qL (P:=P) (pl:=pl) (again:=again) (rest:=rest) (c:=c) (h:=h) (k:=k) f g m
 rw[p]at a;obtain⟨s,q,r⟩:=Dc (P:=P) (pl:=pl) (k:=k) (h₀:=h) (Sj:=tmps) K f g n e
 unfold bZ at a;dsimp only at a;rw[q]at a;exact .one a r
theorem Nz(K:aZ P T)(KF:gq P b)(d:ops[i]?=some o)(g:aK ops i=.effect)(j:Region.wanted o (yielded ops ⟨tmps⟩)=true)(m:bU P pl (.drawn ops rest::k) next)(e:aeq P T b ops o again (.drawn ops ((i,again)::rest)::k) next c tmps h=some s'):
  To P pl s' (mk (.drawn ops ((i,again)::rest)::k) c tmps h):=by
 unfold aeq at e;have p:Ad T tmps h o.op≠none->bM o=false:=by
  intro a;obtain⟨u,op,type,pos,after,guard⟩:=o
  unfold bM;dsimp only at a⊢;split
  ·exact absurd rfl a
  ·rfl
 cases n:Ad T tmps h o.op with
 |some r=>
  rw[n]at e;obtain⟨v,h'⟩:=r
  exact Df K d g j m (Ah K (p (by rw[n];simp)) n) e
 |none=>
  rw[n]at e;replace e:d2 P T b ops o again (.drawn ops ((i,again)::rest)::k) next c tmps h=some s':=e
  unfold d2 at e;cases q:Gx T tmps h o.op with
  |some h'=>rw[q]at e;exact Ai K d g j m (Af K q) e
  |none=>
   rw[q]at e;replace e:d3 P T b ops o again (.drawn ops ((i,again)::rest)::k) next c tmps h=some s':=e
   unfold d3 at e;cases s:Gw b c (.drawn ops ((i,again)::rest)::k) tmps h o.op with
   |some t=>rw[s]at e;cases e;exact Ae KF (qL d g j) s
   |none=>
    rw[s]at e;replace e:dR P T ops o again (.drawn ops ((i,again)::rest)::k) next c tmps (bP P none h ⟨tmps⟩ o)=some s':=e
    unfold dR at e;split at e
    ·rename_i v h' a;exact Df K d g j m a e
    ·rename_i h' a;exact Ai K d g j m a e
    ·rename_i f args h' a;exact xA (qL d g j) a e
    ·cases e
theorem Iy(K:aZ P T)(s:ops[i]?=some o)(u:aK ops i=.fO)(w:Region.wanted o (yielded ops ⟨tmps⟩)=true)(y:bU P pl (.drawn ops rest::k) next)(e:Nu T o next c tmps h=some s'):
  To P pl s' (mk (.drawn ops ((i,again)::rest)::k) c tmps h):=by
 unfold Nu at e;split at e
 ·rename_i v f;have z:=Ac (vV K f)
  have j:∀t,o.op≠.alloc t:=fun t a=>by rw[a]at f;cases f
  have m:∀t n g,o.op≠.buildSlice t n g:=fun t n g a=>by rw[a]at f;cases f
  split at e
  ·rename_i d hd;cases p:Nat.blt d tmps.length with
   |false=>rw[p]at e;cases e
   |true=>
    rw[p]at e;replace e:rY v tmps d (fun tmps=>next c tmps h)=some s':=e
    rw[ku]at e;have q:d<tmps.length:=by simpa using p
    have r:aI P pl none (mk (.drawn ops ((i,again)::rest)::k) c tmps h)=some (.go (mk (.drawn ops rest::k) c (tmps.set d v) h)):=by
     unfold aI mk;dsimp only
     rw[s];dsimp only
     rw[u];dsimp only
     rw[hd];dsimp only
     rw[if_pos (show d<(Array.mk tmps).size from q),if_pos w];have A:(Array.mk tmps).setIfInBounds d v=⟨tmps.set d v⟩:=by apply Array.ext';simp
     split
     ·rename_i t a;exact absurd a (j t)
     ·rename_i t n g a;exact absurd a (m t n g)
     ·rw[z];dsimp only
      rw[A]
    exact .one r (y c _ h s' e)
  ·cases e
 ·cases e
theorem Iz(K:aZ P T)(p:ops[i]?=some o)(q:aK ops i=.alloc)(r:Region.wanted o (yielded ops ⟨tmps⟩)=true)(s:bU P pl (.drawn ops rest::k) next)(e:Nv T ops o again next c tmps h=some s'):
  To P pl s' (mk (.drawn ops ((i,again)::rest)::k) c tmps h):=by
 unfold Nv at e;split at e
 ·rename_i t a;split at e
  ·rename_i B d z u w;have y:zeroOf P t=some z:=(K.get _ _ w).2.2.1;split at e
   ·rename_i d hd;cases f:Nat.blt d tmps.length with
    |false=>rw[f]at e;cases e
    |true=>
     rw[f]at e;replace e:rY (.pointer (some ⟨h.n,0,none⟩)) tmps d (fun tmps=>xx T ops again next c tmps (h.new (.cells z.cells t (0,0))))=some s':=e
     rw[ku]at e;unfold xx at e;have g:d<tmps.length:=by simpa using f
     cases j:reF T (tmps.set d (.pointer (some ⟨h.n,0,none⟩))) (h.new (.cells z.cells t (0,0))) ops again with
     |false=>rw[j]at e;cases e
     |true=>
      rw[j]at e;have m:aI P pl none (mk (.drawn ops ((i,again)::rest)::k) c tmps h)=some (.go (mk (.drawn ops rest::k) c (tmps.set d (.pointer (some ⟨h.n,0,none⟩))) (h.new (.cells z.cells t (0,0))))):=by
       unfold aI mk;dsimp only
       rw[p];dsimp only
       rw[q];dsimp only
       rw[hd];dsimp only
       have A:(Array.mk tmps).setIfInBounds d (.pointer (some ⟨h.n,0,none⟩))=⟨tmps.set d (.pointer (some ⟨h.n,0,none⟩))⟩:=by apply Array.ext';simp
       rw[if_pos (show d<(Array.mk tmps).size from g),if_pos r,a];dsimp only
       rw[y];dsimp only
       rw[A,if_pos (qf K _ j)]
      exact .one m (s c _ _ s' e)
   ·cases e
  ·cases e
 ·cases e
theorem nC(K:aZ P T)(KF:gq P b):∀(l:List (Nat×List Nat)) (first:Bool),bU P pl (.drawn ops l::k) (CX P T b ops k l first)
 | [],first=>fZ (fun c tmps h=>rfl) (sK k)
 |(i,again)::l,first=>by
  intro c tmps h s' e;replace e:yF (.drawn ops ((i,again)::l)::k) first (dI P T b ops i again (.drawn ops ((i,again)::l)::k) (CX P T b ops k l false) (nth ops.toList i)) c tmps h=some s':=e
  unfold yF at e;cases a:dI P T b ops i again (.drawn ops ((i,again)::l)::k) (CX P T b ops k l false) (nth ops.toList i) c tmps h with
  |none=>
   rw[a]at e;cases first with
   |true=>cases e
   |false=>cases e;exact .here rfl
  |some q=>
   rw[a]at e;cases e;cases j:nth ops.toList i with
   |none=>rw[j]at a;cases a
   |some o=>
    rw[j]at a;rw[ja]at j;have d:ops[i]?=some o:=by simpa using j
    replace a:dOp P T b ops i o again (.drawn ops ((i,again)::l)::k) (CX P T b ops k l false) c tmps h=some s':=a
    unfold dOp at a;cases m:o.guard with
    |some g=>rw[m]at a;cases a
    |none=>
     rw[m]at a;have n:Region.wanted o (yielded ops ⟨tmps⟩)=true:=by unfold Region.wanted;rw[m]
     have p:aK ops i=cond (over ops i o) .effect (kindOf o):=by unfold aK;rw[d]
     rw[←p]at a;cases f:aK ops i with
     |fO=>rw[f]at a;exact Iy K d f n (nC K KF l false) a
     |alloc=>rw[f]at a;exact Iz K d f n (nC K KF l false) a
     |effect=>rw[f]at a;exact Nz K KF d f n (nC K KF l false) a
end
end Go.Am
