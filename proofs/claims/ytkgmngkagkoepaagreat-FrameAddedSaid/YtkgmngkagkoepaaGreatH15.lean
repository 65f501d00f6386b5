import Derived.Test.YtkgmngkagkoepaaGreatH14
set_option linter.all false
namespace Go.Am
section
variable{P:Program}{T:Tr TI}{r:List Value}{h h':AH}{o:Oper}{v:Value}{x:Operand}
theorem Bc{a:Addr}(e:Oa h a=some v):h.cell a=some v:=by
 unfold Oa at e;split at e
 ·rename_i d f c i j g k u b;unfold AH.cell;dsimp only at b;dsimp only
  rw[b];dsimp only
  rw[iR]at e;simpa using e
 ·cases e
theorem Bd:∀(n:Nat) (l:List Value) {m:List Value},N8 n l=some m->m.length=n/\∀i,i<n->l[i]?=m[i]?
 |0,l,m,e=>by cases e;exact⟨rfl,fun i b=>absurd b (Nat.not_lt_zero _)⟩
 |n+1,l,m,e=>by
  cases l with
  |nil=>cases e
  |cons x l=>
   replace e:(match N8 n l with
    |some m=>some (x::m)
    |none=>none)=some m:=e
   cases a:N8 n l with
   |none=>rw[a]at e;cases e
   |some g=>
    rw[a]at e;cases e;obtain⟨d,f⟩:=Bd n l a
    refine⟨by simp[d],fun i b=>?_⟩;cases i with
    |zero=>rfl
    |succ i=>simpa using f i (by omega)
theorem Ik:∀(n:Nat) (l:List Value),UW n l=l.drop n
 |0,l=>rfl
 |n+1,l=>by
  show UW n l.tail=_
  rw[Ik n];cases l<;>simp
theorem wK{a:Addr}(l:a.spot=none){c:Array Value}{e:TypeId}{f:Nat×Nat}{p:Option Nat}{y:Bool}{u:Nat}(g:h.look a.block=some ⟨.cells c e f,p,y,u⟩):
  ∀(n i:Nat) (b:Array Value) (m:List Value),m.length=n->(∀j,j<n->c[a.off+i+j]?=m[j]?)->(loadCellsFrom a i n b).fU P h=some ⟨b.toList++m⟩
 |0,i,b,m,k,q=>by
  have:m=[]:=List.eq_nil_of_length_eq_zero k
  subst this;show some b=_
  simp
 |n+1,i,b,m,k,q=>by
  cases m with
  |nil=>simp at k
  |cons x m=>
   have s:c[a.off+i]?=some x:=by have:=q 0 (by omega);simpa using this
   have z:h.cell (a.add i)=some x:=by
    unfold AH.cell Addr.add;obtain⟨A,B,t⟩:=a
    dsimp only at l g s;subst l;by_cases w:i=0
    ·subst w;simp only[if_true]
     rw[g];simpa using s
    ·rw[if_neg w];dsimp only
     rw[g];exact s
   have d:(load (a.add i)).fU P h=some x:=by
    unfold load;rw[Sem.fU.eq_def];dsimp only
    rw[z];rfl
   show((load (a.add i))>>=fun v=>loadCellsFrom a (i+1) n (b.push v)).fU P h=_
   rw[aN d,wK l g n (i+1) (b.push x) m (by simpa using k) fun j C=>?_]
   ·simp
   ·have:=q (j+1) (by omega)
    have e:a.off+(i+1)+j=a.off+i+(j+1):=by omega
    rw[e,this];simp
theorem Qd{a:Addr}{n:Nat}(e:adE h a n=some v):(loadCells a n>>=fun c=>(Pure.pure (Value.agg c):Sem Value)).fU P h=some v:=by
 unfold adE at e;split at e
 ·rename_i b d c q s f t u g;split at e
  ·rename_i m i;cases e;obtain⟨k,l⟩:=Bd n _ i
   have:=wK (P:=P) (h:=h) (a:=⟨b,d,none⟩) rfl g n 0 #[] m k fun j p=>by
    have:=l j p
    rw[Ik,List.getElem?_drop]at this;simpa using this
   rw[aN (show(loadCells ⟨b,d,none⟩ n).fU P h=_ from this)];simp[gZ]
  ·cases e
 ·cases e
theorem jA{a:Type}(v:Value):∀(l:List Value) (n:Nat) (k:List Value->a),ru v l n k=k (l.set n v)
 | [],n,k=>by simp[ru]
 |x::l,0,k=>rfl
 |x::l,n+1,k=>by
  show ru v l n (fun b=>k (x::b))=_
  rw[jA v l n];rfl
def ZW:List Value->Nat->List Value->List Value
 | [],_,cells=>cells
 |v::vs,a,cells=>ZW vs (a+1) (cells.set a v)
theorem Ob{b:Type}:∀(vs:List Value) (a:Nat) (cells:List Value) (k:List Value->b),ZV vs a cells k=k (ZW vs a cells)
 | [],a,cells,k=>rfl
 |v::vs,a,cells,k=>by
  show ru v cells a (fun cells=>ZV vs (a+1) cells k)=_
  rw[jA,Ob vs];rfl
theorem D8:∀(vs:List Value) (a s:Nat) (cells:Array Value),(vs.zipIdx s).foldl (fun b p=>b.setIfInBounds (a+p.2) p.1) cells=⟨ZW vs (a+s) cells.toList⟩
 | [],a,s,cells=>rfl
 |v::vs,a,s,cells=>by
  rw[List.zipIdx_cons,List.foldl_cons,D8 vs a (s+1)];have e:a+(s+1)=a+s+1:=by omega
  rw[e];congr 1;show ZW vs (a+s+1) _=ZW vs (a+s+1) _
  simp
theorem D9(v:Value):uZ v=v.cells.toList:=by cases v<;>rfl
theorem Be{f:List (Nat×Nat)}:∀(a:List (Nat×Operand)) {cells:List Value},UZ f r a cells=some v->
  (∀p∈a,okX p.2=true)/\∃c,Instr.fill (fun i=>f[i]?) ⟨cells⟩ (a.map fun p=>(p.1,au ⟨r⟩ p.2))=some ⟨c⟩/\Value.agg ⟨c⟩=v
 | [],cells,e=>by cases e;exact⟨fun p b=>(by cases b),cells,rfl,rfl⟩
 |(i,x)::a,cells,e=>by
  replace e:(match uG r x with
   |some v=>match nth f i with
    |some q=>bif Nat.beq (uZ v).length q.2&&Nat.ble (q.1+q.2) cells.length then ZV (uZ v) q.1 cells (UZ f r a)else none
    |none=>none
   |none=>none)=some v:=e
  split at e
  ·rename_i u l;obtain⟨m,n⟩:=jy l
   split at e
   ·rename_i q g;cases d:(Nat.beq (uZ u).length q.2&&Nat.ble (q.1+q.2) cells.length)with
    |false=>rw[d]at e;cases e
    |true=>
     rw[d]at e;dsimp only[cond_true]at e;rw[Ob]at e;obtain⟨s,c,t,w⟩:=Be a e
     rw[Bool.and_eq_true]at d;have k:=Nat.eq_of_beq_eq_true d.1;have C:=Nat.le_of_ble_eq_true d.2;rw[D9]at k;refine⟨fun p b=>?_,c,?_,w⟩
     ·rcases List.mem_cons.1 b with rfl|b
      ·exact n
      ·exact s p b
     ·rw[List.map_cons];unfold Instr.fill;rw[iR]at g;dsimp only
      rw[g];dsimp only
      rw[m];have y:u.cells.size=q.2:=by simpa using k
      have z:¬(u.cells.size≠q.2||decide (q.1+u.cells.size>(Array.mk cells).size))=true:=by simp[y];omega
      rw[if_neg z];have A:u.cells.zipIdx.foldl (fun B (c,j)=>B.setIfInBounds (q.1+j) c) (Array.mk cells)=⟨ZW (uZ u) q.1 cells⟩:=by rw[←Array.foldl_toList,Array.toList_zipIdx];have:=D8 u.cells.toList q.1 0 ⟨cells⟩;rw[D9];exact this
      rw[A];exact t
   ·cases e
  ·cases e
theorem Qe{fields:Array Field}{c:List (Nat×Nat)}(i:fields.toList.map (fun f=>(f.offset,P.cellsOf f.type))=c)(j:∀f∈fields.toList,∃d,P.info? f.type=some d):
  (fields.mapM fun f=>do pure (f.offset,←sizeOf f.type):Sem (Array (Nat×Nat))).fU P h=some c.toArray:=by
 have k:∀(b:List Field),(∀f∈b,∃d,P.info? f.type=some d)->(b.mapM fun f=>do pure (f.offset,←sizeOf f.type):Sem (List (Nat×Nat))).fU P h=some (b.map fun f=>(f.offset,P.cellsOf f.type)):=by
  intro b;induction b with
  |nil=>intro _;rfl
  |cons f b l=>
   intro e;obtain⟨d,hd⟩:=e f List.mem_cons_self
   have m:(do pure (f.offset,←sizeOf f.type):Sem (Nat×Nat)).fU P h=some (f.offset,P.cellsOf f.type):=by
    show(sizeOf f.type>>=fun n=>(Pure.pure (f.offset,n):Sem (Nat×Nat))).fU P h=_
    rw[aN (pI hd)];unfold Program.cellsOf;rw[hd];rfl
   rw[List.mapM_cons,aN m,aN (l fun g p=>e g (List.mem_cons_of_mem _ p))];rfl
 rw[Array.mapM_eq_mapM_toList];show((fields.toList.mapM _)>>=fun a=>(Pure.pure a.toArray:Sem (Array (Nat×Nat)))).fU P h=_
 rw[aN (k _ j),i];rfl
theorem ve(K:bF P T)(e:fast T r h o.op=some v):(bU o&&kZ P h (au ⟨r⟩) o)=true/\(execOp (au ⟨r⟩) o).fU P h=some (.value v):=by
 have one:∀{x:Operand} {u:Value},uG r x=some u->au ⟨r⟩ x=u/\okX x=true:=jy
 obtain⟨b5,op,W,pos,after,guard⟩:=o
 dsimp only at e;unfold fast at e;split at e
 ·rename_i x;unfold N9 at e;split at e
  ·rename_i u C;cases e;obtain⟨m,A⟩:=one C
   refine gJ (s:=Pure.pure v) (fun y g=>by simp[Op.operands]at g;rw[g];exact A) rfl ?_ rfl;unfold execOp;dsimp only
   rw[m];rfl
  ·cases e
 ·rename_i x;unfold N9 at e;split at e
  ·rename_i u C;cases e;obtain⟨m,A⟩:=one C
   refine gJ (s:=Pure.pure v) (fun y g=>by simp[Op.operands]at g;rw[g];exact A) rfl ?_ rfl;unfold execOp;dsimp only
   rw[m];rfl
  ·cases e
 ·rename_i s x f;unfold UX at e;split at e
  ·rename_i a D;obtain⟨m,A⟩:=one D
   split at e
   ·rename_i X fields z q hs;split at e
    ·rename_i fd Y;split at e
     ·rename_i H u' z' L hf;cases E:Nat.beq H 0 with
      |true=>rw[E]at e;cases e
      |false=>
       rw[E]at e;cases e;have j:=(K.get _ _ hs).1;obtain⟨d,w,l⟩:=(K.get _ _ hf).2.1;rw[iR]at Y;have M:fields[f]?=some fd:=by simpa using Y
       have Z:H≠0:=fun e0=>by rw[e0]at E;cases E
       refine gJ (s:=Instr.fieldAt s (.pointer (some a)) f) (fun y g=>by simp[Op.operands]at g;rw[g];exact A) ?_ ?_ ?_
       ·show wL P s f=true
        unfold wL;rw[j];dsimp only
        rw[M];dsimp only
        rw[w];simp[l,Z]
       ·unfold execOp;dsimp only
        rw[m]
       ·unfold Instr.fieldAt;rw[aN (fV j)];dsimp only
        rw[M];dsimp only
        rw[aN (show(Instr.sureAddr (.pointer (some a))).fU P h=some a from rfl)];have:(fieldPlace a fd).fU P h=some (a.add fd.offset):=by unfold fieldPlace;rw[aN (pI w),l,if_neg Z];rfl
        rw[aN this];rfl
     ·cases e
    ·cases e
   ·cases e
  ·cases e
 ·rename_i t x;unfold abT at e;split at e
  ·rename_i a D;obtain⟨m,A⟩:=one D
   split at e
   ·rename_i X d z q F;have j:=(K.get _ _ F).1;obtain⟨Q,w,l⟩:=(K.get _ _ F).2.1;refine gJ (s:=Instr.loadAt t (.pointer (some a))) (fun y g=>by simp[Op.operands]at g;rw[g];exact A) rfl ?_ ?_
    ·unfold execOp;dsimp only
     rw[m]
    ·unfold Instr.loadAt;rw[aN (show(Instr.sureAddr (.pointer (some a))).fU P h=some a from rfl)];unfold loadVar;have a0:(isAgg t).fU P h=some (xW d):=by
      unfold isAgg;rw[aN (fV j)];dsimp only
      cases d<;>rfl
     rw[aN a0];cases E:xW d with
     |true=>
      rw[E]at e;dsimp only[cond_true]at e;split at e
      ·rename_i u C;cases e;simp only[if_true]
       rw[aN (pI w),l];exact Qd C
      ·cases e
     |false=>
      rw[E]at e;dsimp only[cond_false]at e;split at e
      ·rename_i u C;cases e;simp only[Bool.false_eq_true,if_false]
       unfold load;rw[Sem.fU.eq_def];dsimp only
       rw[Bc C];rfl
      ·cases e
   ·cases e
  ·cases e
 ·rename_i B t x y s;unfold agh at e;split at e
  ·rename_i k a k' b D g;obtain⟨m,A⟩:=one D
   obtain⟨N,e4⟩:=one g
   split at e
   ·rename_i hk;subst hk;split at e
    ·rename_i u C;cases e;refine gJ (s:=(eqGuard B t x y (.int k a) (.int k b))>>=fun _=>binOp B t (.int k a) (.int k b)) (fun z O=>by simp[Op.operands]at O;rcases O with O|O<;>(rw[O];assumption)) ?_ ?_ ?_
     ·show(Ea B (au ⟨r⟩ x) (au ⟨r⟩ y)||Eb B (au ⟨r⟩ x) (au ⟨r⟩ y))=true
      rw[m,N];cases B<;>first|rfl|(cases C;done)
     ·unfold execOp;dsimp only
      rw[m,N]
     ·have hg:(eqGuard B t x y (.int k a) (.int k b)).fU P h=some ():=by unfold eqGuard;cases B<;>rfl
      rw[aN hg];unfold agf at C;cases B<;>first|(cases C;done)|skip
      all_goals
       cases C;simp only[binOp,ne_eq,not_true_eq_false,if_false]
       first|(simp[Op.intArith,Op.intCmp,gZ];done)|(simp[Op.intArith,Op.intCmp,gZ];by_cases a6:a=b<;>simp[a6])
    ·cases e
   ·cases e
  ·cases e
 ·rename_i t x;unfold agi at e;split at e
  ·rename_i b D;cases e;obtain⟨m,A⟩:=one D
   refine gJ (s:=Op.unary .not (.bool b)) (fun y g=>by simp[Op.operands]at g;rw[g];exact A) rfl ?_ rfl;unfold execOp;dsimp only
   rw[m]
  ·cases e
 ·rename_i x i;unfold Ii at e;split at e
  ·rename_i vs D;obtain⟨m,A⟩:=one D
   split at e
   ·rename_i u C;cases e;rw[iR]at C;have a7:vs[i]?=some v:=by simpa using C
    refine gJ (s:=Instr.extract (.tuple vs) i) (fun y g=>by simp[Op.operands]at g;rw[g];exact A) rfl ?_ ?_
    ·unfold execOp;dsimp only
     rw[m]
    ·unfold Instr.extract;dsimp only
     rw[a7];rfl
   ·cases e
  ·cases e
 ·rename_i c a b;unfold abU at e;split at e
  ·rename_i t hc;split at e
   ·rename_i u u' ha E;cases e;obtain⟨m,A⟩:=one hc
    obtain⟨N,e4⟩:=one ha
    obtain⟨e5,e6⟩:=one E
    refine gJ (s:=Pure.pure (bif t then u else u')) (fun y g=>by simp[Op.operands]at g;rcases g with g|g|g<;>(rw[g];assumption)) rfl ?_ rfl;unfold execOp;dsimp only
    rw[m,N,e5];cases t<;>rfl
   ·cases e
  ·cases e
 ·rename_i t x i;unfold UY at e;split at e
  ·rename_i a a1 J k n D hi;obtain⟨m,A⟩:=one D
   obtain⟨N,e4⟩:=one hi
   split at e
   ·rename_i X el z q F;split at e
    ·rename_i H u' z' L R;split at e
     ·rename_i E;cases e;have j:=(K.get _ _ F).1;obtain⟨Q,w,l⟩:=(K.get _ _ R).2.1;dsimp only at l;refine gJ (s:=Instr.indexAt t (.slice (some a) a1 J) (.int k n)) (fun y g=>by simp[Op.operands]at g;rcases g with g|g<;>(rw[g];assumption)) rfl ?_ ?_
      ·unfold execOp;dsimp only
       rw[m,N]
      ·unfold Instr.indexAt;rw[aN (show(asIntOf (.int k n)).fU P h=some (k,n)from rfl)];dsimp only
       rw[aN (fV j)];dsimp only
       rw[aN (gZ _)];dsimp only
       rw[aN (fV j)];dsimp only
       rw[if_pos E,aN (pI w),l];rfl
     ·cases e
    ·cases e
   ·cases e
  ·rename_i a k n D hi;obtain⟨m,A⟩:=one D
   obtain⟨N,e4⟩:=one hi
   split at e
   ·rename_i X a1 el z q F;split at e
    ·rename_i H u' z' L R;split at e
     ·rename_i E;cases e;have j:=(K.get _ _ F).1;obtain⟨Q,w,l⟩:=(K.get _ _ R).2.1;dsimp only at l;refine gJ (s:=Instr.indexAt t (.pointer (some a)) (.int k n)) (fun y g=>by simp[Op.operands]at g;rcases g with g|g<;>(rw[g];assumption)) rfl ?_ ?_
      ·unfold execOp;dsimp only
       rw[m,N]
      ·unfold Instr.indexAt;rw[aN (show(asIntOf (.int k n)).fU P h=some (k,n)from rfl)];dsimp only
       rw[aN (fV j)];dsimp only
       rw[aN (show(Instr.sureAddr (.pointer (some a))).fU P h=some a from rfl)];rw[aN (gZ _)];dsimp only
       rw[aN (fV j)];dsimp only
       rw[if_pos E,aN (pI w),l];rfl
     ·cases e
    ·cases e
   ·cases e
  ·cases e
 ·rename_i t ps;unfold U0 at e;split at e
  ·rename_i X fields z q F;obtain⟨j,⟨Q,w,l⟩,O,a8⟩:=K.get _ _ F
   obtain⟨a2,a9⟩:=a8 fields rfl
   dsimp only at O j a2;obtain⟨b0,U⟩:=Be _ e
   refine gJ (s:=Instr.build t (ps.map fun p=>(p.1,au ⟨r⟩ p.2))) (fun y g=>?_) rfl ?_ ?_
   ·simp[Op.operands]at g;obtain⟨a,hp⟩:=g
    exact b0 (a,y) (Array.mem_toList_iff.2 hp)
   ·unfold execOp;rfl
   ·unfold Instr.build;rw[aN (ZU O),aN (fV j)];dsimp only
    rw[aN (Qe a2 a9)];have a3:(ps.map fun p=>(p.1,au ⟨r⟩ p.2)).toList=ps.toList.map fun p=>(p.1,au ⟨r⟩ p.2):=by simp
    obtain⟨c,b1,b2⟩:=U
    have b3:z.cells=⟨z.cells.toList⟩:=rfl
    rw[a3];have:(fun i:Nat=>(q.toArray)[i]?)=(fun i:Nat=>q[i]?):=by funext i;simp
    rw[show(fun x:Nat=>q.toArray[x]?)=(fun i:Nat=>q[i]?)from this];rw[b3,b1];show some (Value.agg ⟨c⟩)=some v
    rw[b2]
  ·cases e
 ·rename_i args a4;split at e
  ·rename_i x V;split at e
   ·rename_i t rest a5;split at e
    ·rename_i X el z q F;unfold agj at e;split at e
     ·rename_i base n J D;cases e;obtain⟨m,A⟩:=one D
      have j:=(K.get _ _ F).1;have ha:args=#[x]:=Array.ext' V
      subst ha;have b4:a4[0]?=some t:=by rw[←Array.getElem?_toList,a5];rfl
      refine gJ (s:=Builtin.len_ a4 W #[.slice base n J]) (fun y g=>by simp[Op.operands,Call.operands]at g;rw[g];exact A) rfl ?_ ?_
      ·unfold execOp;dsimp only
       have hm:(#[x]:Array Operand).map (au ⟨r⟩)=#[.slice base n J]:=by simp[m]
       unfold resolve;dsimp only
       rw[hm];rfl
      ·unfold Builtin.len_;rw[b4];show(underlying t>>=fun d=>_:Sem Value).fU P h=_
       rw[aN (fV j)];rfl
     ·cases e
    ·cases e
   ·cases e
  ·cases e
 ·cases e
end
end Go.Am
namespace Go.Am
noncomputable section
def U2(b:Option Nat)(v:Value)(next:K):K:=fun c a h=>Option.rec (next c a h) (fun d=>ru v a d fun a=>next c a h) b
def opR(P:Program)(o:Oper)(b:List aS)(next:K)(c:Ctx)(a:List Value)(r:Option (Next×AH)):Option AS:=match r with
 |some (.value v,h)=>U2 o.dst v next c a h
 |some (.skip,h)=>U2 o.dst undef next c a h
 |some (.enter f args,h)=>FH P f args c b a h
 |_=>none
def evL(a:List Value)(xs:List Operand):Option (List Value):=List.rec (some []) (fun x _ b=>match uG a x with
 |some v=>match b with
  |some l=>some (v::l)
  |none=>none
 |none=>none) xs
def abV(i:Tr Func)(c:Ctx)(b:List aS)(a:List Value)(h:AH)(as:List Operand)(f:Option Value):Option AS:=match f with
 |some (.func (.func g) first d)=>match i.get g with
  |some e=>match evL a as with
   |some l=>some ⟨⟨g,⟨app (app first.toList (app l d.toList)) (rep undef (e.ntmps-(app first.toList (app l d.toList)).length))⟩,[.code (e.body.getD (.refuse "unsupported: a function without a Go body is entered"))],[],false,none,false⟩,⟨c.fn,⟨a⟩,b,c.defers,false,c.round,c.dk⟩::c.cs,h⟩
   |none=>none
  |none=>none
 |_=>none
def Ec(d:Tr Func)(c:Ctx)(b:List aS)(a:List Value)(h:AH)(op:Op):Option AS:=match op with
 | .call ⟨.value x,args,_⟩=>abV d c b a h args.toList (uG a x)
 |_=>none
def op3(P:Program)(d:Tr Func)(o:Oper)(b:List aS)(next:K)(c:Ctx)(a:List Value)(h:AH):Option AS:=
 Option.rec (opR P o b next c a (bV P none h ⟨a⟩ o)) some (Ec d c b a h o.op)
def U3(T:Tr TI)(h:AH)(t:Nat)(x v:Option Value):Option AH:=match x with
 |some (.pointer (some a))=>match v with
  |some v=>match T.get t with
   |some ⟨b,_,_,_⟩=>bif Nat.beq b 1 then match v with
     | .agg _=>none
     | .tuple _=>none
     |v=>h.setCell a v
    else none
   |none=>none
  |none=>none
 |_=>none
def Ed(T:Tr TI)(a:List Value)(h:AH)(op:Op):Option AH:=match op with
 | .store t x v=>U3 T h t (uG a x) (uG a v)
 |_=>none
def y7(T:Tr TI)(a:List Value)(h:AH)(op:Op):Option (Value×AH):=match op with
 | .alloc t=>UU T h t
 | .box t x=>age h t (uG a x)
 |_=>none
def op5(P:Program)(T:Tr TI)(d:Tr Func)(o:Oper)(b:List aS)(next:K)(c:Ctx)(a:List Value)(h:AH):Option AS:=
 Option.rec (op3 P d o b next c a h) (fun h=>U2 o.dst undef next c a h) (Ed T a h o.op)
def op4(P:Program)(T:Tr TI)(d:Tr Func)(o:Oper)(b:List aS)(next:K)(c:Ctx)(a:List Value)(h:AH):Option AS:=
 Option.rec (op5 P T d o b next c a h) (fun r=>U2 o.dst r.1 next c a r.2) (y7 T a h o.op)
def op2(P:Program)(T:Tr TI)(b:Tr Func)(o:Oper)(a:List aS)(next:K)(c:Ctx)(tmps:List Value)(h:AH):Option AS:=
 Option.rec (op4 P T b o a next c tmps h) (fun v=>U2 o.dst v next c tmps h) (fast T tmps h o.op)
def Il(ops:Array Oper)(tmps:List Value)(g:Nat×Bool):Bool:=match nth ops.toList g.1 with
 |some o=>match o.dst with
  |some d=>match nth tmps d with
   |some (.bool b)=>b==g.2
   |_=>false
  |none=>false
 |none=>false
def opK(P:Program)(T:Tr TI)(d:Tr Func)(ops:Array Oper)(o:Oper)(b:List aS)(next:K):K:=fun c a h=>
 Option.rec (op2 P T d o b next c a h) (fun g=>Bool.rec (U2 o.dst undef next c a h) (op2 P T d o b next c a h) (Il ops a g)) o.guard
def xX(b:List aS)(first:Bool)(q:K):K:=fun c a h=>Option.rec (Bool.rec (some (mk b c a h)) none first) some (q c a h)
def opI(P:Program)(T:Tr TI)(c:Tr Func)(b:Array Oper)(a:List aS)(next:K)(o:Option Oper):K:=Option.rec NW (fun o=>opK P T c b o a next) o
def U4(P:Program)(T:Tr TI)(b:Tr Func)(a:Array Oper)(k:List aS)(l:List Nat):Bool->K:=
 List.rec (fun _=>kGo k) (fun i l c first=>xX (.region a (i::l)::k) first (opI P T b a (.region a (i::l)::k) (c false) (nth a.toList i))) l
def ajb(P:Program)(T:Tr TI)(b:Tr Func)(a:Array Oper)(d:Bool)(k:List aS):K:=Bool.rec (U4 P T b a k (List.range a.toList.length) false) NW d
def ZB(T:Tr TI)(a:List Value)(h:AH)(b:Array Oper)(c:List Nat):Bool:=List.rec true (fun j _ e=>match nth b.toList j with
 |some o=>match o.dst,o.guard with
  |some d,none=>match nth a d with
   |some v=>match fast T a h o.op with
    |some f=>bif iI 9 v f&&decide (kindOf o=.eU)then e else false
    |none=>false
   |none=>false
  |_,_=>false
 |none=>false) c
def wM(T:Tr TI)(b:Array Oper)(again:List Nat)(next:K):K:=fun c a h=>Bool.rec none (next c a h) (ZB T a h b again)
def Io(T:Tr TI)(b:Array Oper)(again:List Nat)(e:Option Nat)(v:Value)(next:K):K:=fun c a h=>
 Option.rec (wM T b again next c a h) (fun d=>ru v a d fun a=>wM T b again next c a h) e
def dR(P:Program)(T:Tr TI)(b:Array Oper)(o:Oper)(again:List Nat)(d:List aS)(next:K)(c:Ctx)(a:List Value)(r:Option (Next×AH)):Option AS:=match r with
 |some (.value v,h)=>Io T b again o.dst v next c a h
 |some (.skip,h)=>Io T b again o.dst undef next c a h
 |some (.enter f args,h)=>FH P f args c d a h
 |_=>none
def d3(P:Program)(T:Tr TI)(e:Tr Func)(d:Array Oper)(o:Oper)(again:List Nat)(b:List aS)(next:K)(c:Ctx)(a:List Value)(h:AH):Option AS:=
 Option.rec (dR P T d o again b next c a (bV P none h ⟨a⟩ o)) some (Ec e c b a h o.op)
def d2(P:Program)(T:Tr TI)(e:Tr Func)(b:Array Oper)(o:Oper)(again:List Nat)(d:List aS)(next:K)(c:Ctx)(a:List Value)(h:AH):Option AS:=
 Option.rec (d3 P T e b o again d next c a h) (fun h=>Io T b again o.dst undef next c a h) (Ed T a h o.op)
def adG(P:Program)(T:Tr TI)(e:Tr Func)(b:Array Oper)(o:Oper)(again:List Nat)(d:List aS)(next:K):K:=fun c a h=>
 Option.rec (d2 P T e b o again d next c a h) (fun r=>Io T b again o.dst r.1 next c a r.2) (y7 T a h o.op)
def J4(T:Tr TI)(o:Oper)(next:K):K:=fun c a h=>match fast T a h o.op with
 |some v=>match o.dst with
  |some d=>bif Nat.blt d a.length then ru v a d fun a=>next c a h else none
  |none=>none
 |none=>none
def J5(T:Tr TI)(b:Array Oper)(o:Oper)(again:List Nat)(next:K):K:=fun c a h=>match o.op with
 | .alloc t=>match T.get t with
  |some ⟨_,_,some z,_⟩=>match o.dst with
   |some d=>bif Nat.blt d a.length then ru (.pointer (some ⟨h.n,0,none⟩)) a d fun a=>wM T b again next c a (h.new (.cells z.cells t (0,0)))else none
   |none=>none
  |_=>none
 |_=>none
def dOp(P:Program)(T:Tr TI)(c:Tr Func)(a:Array Oper)(i:Nat)(o:Oper)(again:List Nat)(b:List aS)(next:K):K:=
 Option.rec (Kind.rec (J4 T o next) (J5 T a o again next) (adG P T c a o again b next) (cond (over a i o) .effect (kindOf o))) (fun _=>NW) o.guard
def dI(P:Program)(T:Tr TI)(c:Tr Func)(b:Array Oper)(i:Nat)(again:List Nat)(a:List aS)(next:K)(o:Option Oper):K:=Option.rec NW (fun o=>dOp P T c b i o again a next) o
def Bf(P:Program)(T:Tr TI)(b:Tr Func)(a:Array Oper)(k:List aS)(l:List (Nat×List Nat)):Bool->K:=
 List.rec (fun _=>kGo k) (fun i l c first=>xX (.drawn a (i::l)::k) first (dI P T b a i.1 i.2 (.drawn a (i::l)::k) (c false) (nth a.toList i.1))) l
def adH(k:List aS):K:=fun c a h=>match c.round with
 |none=>some ⟨⟨c.fn,⟨a⟩,.code .ret::k,c.defers,true,none,c.dk⟩,c.cs,h⟩
 |some _=>none
def U5(id:Nat)(k:List aS):K:=fun c a h=>match pJ id k with
 |some k=>some (mk k c a h)
 |none=>none
def codeF(P:Program)(T:Tr TI)(j:Tr Func)(x:Code):List aS->K:=
 Code.rec (motive:=fun _=>List aS->K)
  (skip:=kGo) (region:=fun _ c d=>ajb P T j c d) (seq:=fun _ b a _ k=>a (.code b::k)) (cond:=fun x _ _ a e k=>UR (a k) (e k) x)
  (block:=fun id _ f k=>f (.inBlock id::k)) (loop:=fun b f k=>f (.inLoop b::k)) (exit:=U5) (goto:=fun _ _=>NW) (label:=fun _ _=>NW) (scope:=fun _ _ _=>NW)
  (ret:=adH) (rangeFunc:=fun _ _ _ _ _ _ _=>NW) (refuse:=fun _ _=>NW) x
def abW(P:Program)(T:Tr TI)(c:Tr Func)(x:aS):List aS->K:=
 aS.casesOn (motive:=fun _=>List aS->K) x (code:=codeF P T c) (inBlock:=fun _=>kGo) (inLoop:=fun b k=>codeF P T c b (.inLoop b::k)) (inScope:=fun _=>kGo)
  (region:=fun a l k=>U4 P T c a k l true) (drawn:=fun a l k=>Bf P T c a k l true) (inRangeFunc:=fun _ _=>NW) (endRangeFunc:=fun _ _=>NW) (beginRound:=fun _=>NW)
def agl(P:Program)(T:Tr TI)(b:Tr Func)(a:List aS):K:=List.casesOn (motive:=fun _=>K) a NW (abW P T b)
def ZX(a:List Value)(l:List ResultVar):Option (List Value):=List.rec (some []) (fun x _ b=>match x with
 | .tmp t=>match nth a t with
  |some v=>match b with
   |some m=>some (v::m)
   |none=>none
  |none=>none
 |_=>none) l
def resV(l:List Value):Value:=match l with
 | [v]=>v
 |l=>.tuple ⟨l⟩
def U6(T:Tr TI)(h:AH)(f:List ak)(g:FuncId)(a:Array Value)(e:List aS)(defers:List Deferred)(c:Bool)(round:Option Nat)(j:Bool)(v:Value):Option AS:=match e with
 | .region b (i::l)::k=>match nth b.toList i with
  |some o=>match o.dst with
   |some d=>ru v a.toList d fun a=>some ⟨⟨g,⟨a⟩,.region b l::k,defers,c,round,j⟩,f,h⟩
   |none=>some ⟨⟨g,a,.region b l::k,defers,c,round,j⟩,f,h⟩
  |none=>none
 | .drawn b ((i,again)::l)::k=>match nth b.toList i with
  |some o=>match kindOf o with
   | .effect=>match o.dst with
    |some d=>ru v a.toList d fun a=>bif ZB T a h b again then some ⟨⟨g,⟨a⟩,.drawn b l::k,defers,c,round,j⟩,f,h⟩else none
    |none=>bif ZB T a.toList h b again then some ⟨⟨g,a,.drawn b l::k,defers,c,round,j⟩,f,h⟩else none
   |_=>none
  |none=>none
 |_=>none
def U7(T:Tr TI)(j:Tr Func)(d:List ak)(h:AH)(e:FuncId)(a:Array Value)(defers:List Deferred)(g:Bool):Option AS:=match defers with
 | []=>match g with
  |false=>match d with
   |c::d=>match j.get e with
    |some f=>match ZX a.toList f.results.toList with
     |some l=>ak.casesOn c (fun e a b defers i round g=>U6 T h d e a b defers i round g (resV l))
     |none=>none
    |none=>none
   | []=>none
  |true=>none
 |_=>none
def frF(P:Program)(T:Tr TI)(d:Tr Func)(e:List ak)(h:AH)(f:FuncId)(a:Array Value)(b:List aS)(defers:List Deferred)(c:Bool)(round:Option Nat)(g:Bool):Option AS:=
 Bool.rec (agl P T d b ⟨f,defers,round,g,e⟩ a.toList h) (U7 T d e h f a defers g) c
def pK(P:Program)(T:Tr TI)(a:Tr Func)(s:AS):Option AS:=AS.casesOn s fun b c h=>ak.casesOn b (frF P T a c h)
def Bg(P:Program)(b:bP)(T:Tr TI)(c:Tr Func)(n:Nat):AS->Option xU:=Nat.rec (fun s=>some (.go s)) (fun _ a s=>Option.rec (NY P b s a) a (pK P T c s)) n
end
structure gK(P:Program)(Fu:Tr Func):Prop where
 get:∀f fn,Fu.get f=some fn->P.funcs[f]?=some fn/\dA P f=true
end Go.Am
namespace Go.Am
noncomputable section
def U8(P:Program)(d:TypeDesc):Option TypeDesc:=match d with
 | .named _ u=>(P.info? u).map TypeInfo.desc
 |d=>some d
def FI(P:Program)(l:List Field):Option (List (Nat×Nat)):=List.rec (some []) (fun f _ a=>match P.info? f.type with
 |some d=>match a with
  |some m=>some ((f.offset,d.size)::m)
  |none=>none
 |none=>none) l
def FM(P:Program)(d:TypeInfo):Option TI:=match U8 P d.desc with
 |some (.struct fields)=>match FI P fields.toList with
  |some a=>some ⟨d.size,.struct fields,d.zero,a⟩
  |none=>none
 |some u=>some ⟨d.size,u,d.zero,[]⟩
 |none=>none
def U9(P:Program)(l:List TypeInfo):Nat->Tr TI:=List.rec (fun _=>.nil) (fun d _ a i=>match FM P d with
 |some e=>(a (i+1)).set i e
 |none=>a (i+1)) l
def xY(l:List Func):Nat->Tr Func:=List.rec (fun _=>.nil) (fun a _ b i=>bif a.body.isSome&&!(a.name== "runtime.NumGoroutine")then(b (i+1)).set i a else b (i+1)) l
end
section
variable{P:Program}
theorem wP:∀(l:List Field) {a:List (Nat×Nat)},FI P l=some a->l.map (fun f=>(f.offset,P.cellsOf f.type))=a/\∀f∈l,∃d,P.info? f.type=some d
 | [],a,e=>by cases e;exact⟨rfl,fun f c=>(by cases c)⟩
 |f::l,a,e=>by
  replace e:(match P.info? f.type with
   |some d=>match FI P l with
    |some m=>some ((f.offset,d.size)::m)
    |none=>none
   |none=>none)=some a:=e
  split at e
  ·rename_i d hd;split at e
   ·rename_i m h;cases e;obtain⟨i,j⟩:=wP l h
    refine⟨?_,fun g b=>?_⟩
    ·rw[List.map_cons,i];unfold Program.cellsOf;rw[hd];rfl
    ·rcases List.mem_cons.1 b with rfl|b
     ·exact⟨d,hd⟩
     ·exact j g b
   ·cases e
  ·cases e
theorem Qg{t:Nat}{d:TypeInfo}{i:TI}(hd:P.info? t=some d)(e:FM P d=some i):
  P.underlying t=some i.und/\(∃d,P.info? t=some d/\d.size=i.size)/\zeroOf P t=i.zero/\∀fields,i.und=.struct fields->fields.toList.map (fun f=>(f.offset,P.cellsOf f.type))=i.places/\∀f∈fields.toList,∃d,P.info? f.type=some d:=by
 have l:P.underlying t=U8 P d.desc:=by
  unfold Program.underlying U8;rw[hd];obtain⟨b⟩:=d
  cases b<;>rfl
 have j:zeroOf P t=d.zero:=by unfold zeroOf;rw[hd];rfl
 rw[l];unfold FM at e;split at e
 ·rename_i fields m;split at e
  ·rename_i n c;cases e;rw[m];refine⟨rfl,⟨d,hd,rfl⟩,j,fun k a=>?_⟩;cases a;exact wP _ c
  ·cases e
 ·rename_i u g h;cases e;rw[h];exact⟨rfl,⟨d,hd,rfl⟩,j,fun k a=>absurd a (g k)⟩
 ·cases e
theorem Ip:∀(l:List TypeInfo) (i:Nat),(∀j d,l[j]?=some d->P.info? (i+j)=some d)->∀t a,(U9 P l i).get t=some a->
  P.underlying t=some a.und/\(∃d,P.info? t=some d/\d.size=a.size)/\zeroOf P t=a.zero/\∀fields,a.und=.struct fields->fields.toList.map (fun f=>(f.offset,P.cellsOf f.type))=a.places/\∀f∈fields.toList,∃d,P.info? f.type=some d
 | [],i,b,t,a,e=>by cases e
 |d::l,i,b,t,a,e=>by
  have g:=Ip l (i+1) fun j k m=>by
   have:=b (j+1) k (by simpa using m)
   rw[show i+1+j=i+(j+1)from by omega];exact this
  replace e:(match FM P d with
   |some h=>(U9 P l (i+1)).set i h
   |none=>U9 P l (i+1)).get t=some a:=e
  split at e
  ·rename_i h c;rw[Tr.dQ]at e;split at e
   ·rename_i n;cases e;subst n;exact Qg (b 0 d rfl) c
   ·exact g t a e
  ·exact g t a e
theorem ZY:bF P (U9 P P.types.toList 0):=
 ⟨Ip P.types.toList 0 fun j d b=>by
  have a:P.types[j]?=some d:=by simpa using b
  have c:j<P.types.size:=(Array.getElem?_eq_some_iff.1 a).1;rw[Nat.zero_add];unfold Tables.info?;rw[if_pos c];exact a⟩
theorem Iq:∀(l:List Func) (i:Nat),(∀j d,l[j]?=some d->P.funcs[i+j]?=some d)->∀f a,(xY l i).get f=some a->P.funcs[f]?=some a/\dA P f=true
 | [],i,b,t,n,e=>by cases e
 |d::l,i,b,f,a,e=>by
  have g:=Iq l (i+1) fun j h k=>by
   have:=b (j+1) h (by simpa using k)
   rw[show i+1+j=i+(j+1)from by omega];exact this
  replace e:(bif d.body.isSome&&!(d.name== "runtime.NumGoroutine")then(xY l (i+1)).set i d else xY l (i+1)).get f=some a:=e
  cases c:(d.body.isSome&&!(d.name== "runtime.NumGoroutine"))with
  |true=>
   rw[c]at e;dsimp only[cond_true]at e;rw[Tr.dQ]at e;split at e
   ·rename_i m;cases e;subst m;have h0:=b 0 d rfl
    refine⟨h0,?_⟩;unfold dA;rw[show f+0=f from rfl]at h0;rw[h0];exact c
   ·exact g f a e
  |false=>rw[c]at e;exact g f a e
theorem ZZ:gK P (xY P.funcs.toList 0):=
 ⟨Iq P.funcs.toList 0 fun j d a=>by
  rw[Nat.zero_add];simpa using a⟩
end
end Go.Am
namespace Go.Am
section
variable{P:Program}{T:Tr TI}{b:Tr Func}{pl:bP}{tmps:List Value}{h h':AH}{o:Oper}{v:Value}{x:Operand}{c:Ctx}{s':AS}{k:List aS}{ops:Array Oper}{i:Nat}{l:List Nat}{next:K}
theorem Bi:∀(l m:List Value),app l m=l++m
 | [],m=>rfl
 |x::l,m=>by show x::app l m=_;rw[Bi l m];rfl
theorem J6(v:Value):∀(n:Nat),rep v n=List.replicate n v
 |0=>rfl
 |n+1=>by show v::rep v n=_;rw[J6 v n];rfl
abbrev To(P:Program)(pl:bP)(s' s:AS):Prop:=bG P pl (· =s') s
theorem To.one{s s₁:AS}(e:aH P pl none s=some (.go s₁))(k:To P pl s' s₁):To P pl s' s:=bG.one e k
def di(P:Program)(pl:bP)(a:List aS)(q:K):Prop:=∀c tmps h s',q c tmps h=some s'->To P pl s' (mk a c tmps h)
theorem rO(a:List aS):di P pl a (kGo a):=fun c tmps h s' e=>by cases e;exact .here rfl
theorem jC(a:List aS):di P pl a NW:=fun c tmps h s' e=>by cases e
theorem fF{d a:List aS}{q:K}(f:∀c tmps h,aH P pl none (mk d c tmps h)=some (.go (mk a c tmps h)))(g:di P pl a q):di P pl d q:=fun c tmps h s' e=>To.one (f c tmps h) (g c tmps h s' e)
theorem xZ{a:Option Nat}(f:di P pl (.region ops l::k) next)(e:U2 a v next c tmps h=some s'):
  To P pl s' ⟨⟨c.fn,dM ⟨tmps⟩ a v,.region ops l::k,c.defers,false,c.round,c.dk⟩,c.cs,h⟩:=by
 unfold U2 at e;cases a with
 |none=>exact f c tmps h s' e
 |some d=>
  replace e:ru v tmps d (fun tmps=>next c tmps h)=some s':=e
  rw[jA]at e;have:=f c _ h s' e
  unfold mk at this;have g:dM ⟨tmps⟩ (some d) v=⟨tmps.set d v⟩:=by
   unfold dM;apply Array.ext';simp
  rw[g];exact this
theorem nM(a:ops[i]?=some o)(d:Region.wanted o (yielded ops ⟨tmps⟩)=true):aH P pl none (mk (.region ops (i::l)::k) c tmps h)=dn P (mk (.region ops (i::l)::k) c tmps h).fr c.cs (bV P none h ⟨tmps⟩ o):=by
 unfold aH mk;dsimp only
 rw[a];dsimp only
 rw[if_pos d]
theorem vg(a:ops[i]?=some o)(v:Value)(h:AH):aF P (mk (.region ops (i::l)::k) c tmps h').fr h v=some ⟨c.fn,dM ⟨tmps⟩ o.dst v,.region ops l::k,c.defers,false,c.round,c.dk⟩:=by
 unfold aF mk;dsimp only
 rw[a];rfl
theorem rP(d:ops[i]?=some o)(f:Region.wanted o (yielded ops ⟨tmps⟩)=true)(g:di P pl (.region ops l::k) next)(j:bV P none h ⟨tmps⟩ o=some (.value v,h'))(e:U2 o.dst v next c tmps h'=some s'):To P pl s' (mk (.region ops (i::l)::k) c tmps h):=by
 have a:=nM (P:=P) (pl:=pl) (c:=c) (tmps:=tmps) (h:=h) (l:=l) (k:=k) d f
 rw[j]at a;unfold dn at a;dsimp only at a;rw[vg d]at a;exact .one a (xZ g e)
theorem Bj(d:ops[i]?=some o)(f:Region.wanted o (yielded ops ⟨tmps⟩)=true)(g:di P pl (.region ops l::k) next)(j:bV P none h ⟨tmps⟩ o=some (.skip,h'))(e:U2 o.dst undef next c tmps h'=some s'):To P pl s' (mk (.region ops (i::l)::k) c tmps h):=by
 have a:=nM (P:=P) (pl:=pl) (c:=c) (tmps:=tmps) (h:=h) (l:=l) (k:=k) d f
 rw[j]at a;unfold dn at a;dsimp only at a;rw[vg d]at a;exact .one a (xZ g e)
theorem wQ{a:List aS}{f:FuncId}{args:Array Value}(g:aH P pl none (mk a c tmps h)=dn P (mk a c tmps h).fr c.cs (bV P none h ⟨tmps⟩ o))(m:bV P none h ⟨tmps⟩ o=some (.enter f args,h'))(e:FH P f args c a tmps h'=some s'):To P pl s' (mk a c tmps h):=by
 rw[m]at g;unfold FH at e;cases d:P.funcs[f]? with
 |none=>rw[d]at e;cases e
 |some j=>
  rw[d]at e;unfold UQ at e;cases e;refine .one g (.here ?_);unfold ak.enter;rw[d];dsimp only
  have n:args++Array.replicate (j.ntmps-args.size) undef=⟨app args.toList (rep undef (j.ntmps-args.toList.length))⟩:=by apply Array.ext';rw[Bi,J6];simp
  simp only[Option.map_some,Option.getD_some,Option.bind_some,n]
  rfl
theorem Qh(d:ops[i]?=some o)(g:Region.wanted o (yielded ops ⟨tmps⟩)=true)(j:di P pl (.region ops l::k) next)(e:opR P o (.region ops (i::l)::k) next c tmps (bV P none h ⟨tmps⟩ o)=some s'):To P pl s' (mk (.region ops (i::l)::k) c tmps h):=by
 unfold opR at e;split at e
 ·rename_i v h' a;exact rP d g j a e
 ·rename_i h' a;exact Bj d g j a e
 ·rename_i f args h' a;exact wQ (nM d g) a e
 ·cases e
theorem Ir:∀(xs:List Operand) {l:List Value},evL tmps xs=some l->xs.map (au ⟨tmps⟩)=l/\∀x∈xs,okX x=true
 | [],l,e=>by cases e;exact⟨rfl,fun x d=>by cases d⟩
 |x::xs,l,e=>by
  replace e:(match uG tmps x with
   |some v=>match evL tmps xs with
    |some l=>some (v::l)
    |none=>none
   |none=>none)=some l:=e
  split at e
  ·rename_i v f;split at e
   ·rename_i m g;cases e;obtain⟨j,n⟩:=jy f
    obtain⟨p,q⟩:=Ir xs g
    refine⟨by rw[List.map_cons,j,p],fun y a=>?_⟩;rcases List.mem_cons.1 a with rfl|a
    ·exact n
    ·exact q y a
   ·cases e
  ·cases e
theorem y8{d:List aS}(KF:gK P b)(B:aH P pl none (mk d c tmps h)=dn P (mk d c tmps h).fr c.cs (bV P none h ⟨tmps⟩ o))(e:Ec b c d tmps h o.op=some s'):To P pl s' (mk d c tmps h):=by
 obtain⟨j,op,a,pos,after,guard⟩:=o
 dsimp only at e;unfold Ec at e;split at e
 ·rename_i x args m;unfold abV at e;split at e
  ·rename_i g first f D
   obtain⟨C,E⟩:=jy D
   split at e
   ·rename_i r s;obtain⟨t,q⟩:=KF.get _ _ s
    split at e
    ·rename_i as u;cases e;obtain⟨F,H⟩:=Ir _ u
     have w:bV P none h ⟨tmps⟩ ⟨j,.call ⟨.value x,args,m⟩,a,pos,after,guard⟩=some (.enter g ((first++args.map (au ⟨tmps⟩))++f),h):=by
      unfold bV;have z:bU ⟨j,.call ⟨.value x,args,m⟩,a,pos,after,guard⟩=true:=tX fun y p=>by
       simp only[Op.operands,Call.operands]at p;rcases Array.mem_append.1 p with p|p
       ·simp at p;rw[p];exact E
       ·exact H y (Array.mem_toList_iff.2 p)
      have A:kZ P h (au ⟨tmps⟩) ⟨j,.call ⟨.value x,args,m⟩,a,pos,after,guard⟩=true:=by
       show Iu P (au ⟨tmps⟩ x)=true
       rw[C];rfl
      rw[show cu ⟨j,.call ⟨.value x,args,m⟩,a,pos,after,guard⟩=false from rfl,z,A];simp only[Bool.false_eq_true,if_false,Bool.and_self,if_true]
      have:execOp (au ⟨tmps⟩) ⟨j,.call ⟨.value x,args,m⟩,a,pos,after,guard⟩=callFunc g ((first++args.map (au ⟨tmps⟩))++f):=by
       unfold execOp;dsimp only
       unfold resolve;dsimp only
       rw[C];rfl
      rw[this];unfold callFunc dA at*;rw[t]at q;dsimp only at q;rw[Bool.and_eq_true,Bool.not_eq_true']at q;show(match P.funcs[g]? with|none=>_|some r=>_:Sem Next).ar P none h=_
      rw[t];dsimp only
      rw[if_neg (by rw[q.2];simp),if_neg (by have:=q.1;cases L:r.body<;>simp_all)];rfl
     rw[w]at B;refine .one B (.here ?_);unfold ak.enter;rw[t];dsimp only
     have J:∀n:Array Value,n.toList=app first.toList (app as f.toList)->n++Array.replicate (r.ntmps-n.size) undef=⟨app (app first.toList (app as f.toList)) (rep undef (r.ntmps-(app first.toList (app as f.toList)).length))⟩:=by intro n h';apply Array.ext';rw[←h',Bi n.toList,J6];simp
     have:=J ((first++args.map (au ⟨tmps⟩))++f) (by rw[Bi,Bi,←F];simp)
     simp only[Option.map_some,Option.getD_some,Option.bind_some,this]
     rfl
    ·cases e
   ·cases e
  ·cases e
 ·cases e
theorem y9(K:bF P T)(e:Ed T tmps h o.op=some h'):bV P none h ⟨tmps⟩ o=some (.skip,h'):=by
 obtain⟨j,op,f,pos,after,guard⟩:=o
 dsimp only at e;unfold Ed at e;split at e
 ·rename_i t x v;unfold U3 at e;split at e
  ·rename_i a B;obtain⟨C,U⟩:=jy B
   split at e
   ·rename_i u D;obtain⟨E,V⟩:=jy D
    split at e
    ·rename_i A d z F H;obtain⟨J,n,p⟩:=(K.get _ _ H).2.1;cases q:Nat.beq A 1 with
     |false=>rw[q]at e;cases e
     |true=>
      rw[q]at e;dsimp only[cond_true]at e;have r:A=1:=Nat.eq_of_beq_eq_true q
      subst r;have g:u.cells=#[u]/\h.setCell a u=some h'/\(∀c,u≠.agg c)/\∀c,u≠.tuple c:=by
       cases u<;>first|(cases e;done)|refine⟨rfl,e,?_,?_⟩<;>(intro c L;cases L)
      have s:(store a u).ar P none h=some ((),h'):=by
       unfold store;rw[Sem.ar.eq_def];obtain⟨_,M,N,O⟩:=g
       cases u<;>first|exact absurd rfl (N _)|exact absurd rfl (O _)|(dsimp only;rw[M];rfl)
      unfold bV;have w:bU ⟨j,.store t x v,f,pos,after,guard⟩=true:=tX fun y m=>by
       simp[Op.operands]at m;rcases m with m|m<;>(rw[m];assumption)
      rw[show cu ⟨j,.store t x v,f,pos,after,guard⟩=false from rfl,w,show kZ P h (au ⟨tmps⟩) ⟨j,.store t x v,f,pos,after,guard⟩=true from rfl];simp only[Bool.false_eq_true,if_false,Bool.and_self,if_true]
      unfold execOp;dsimp only
      rw[C,E];have Q:(Instr.storeAt t (.pointer (some a)) u).ar P none h=some ((),h'):=by
       unfold Instr.storeAt;rw[kY (show(Instr.sureAddr (.pointer (some a))).ar P none h=some (a,h)from rfl)];unfold storeVar;rw[kY (ZQ n),g.1,p];simp only[List.size_toArray,List.length_cons,List.length_nil,ne_eq,not_true_eq_false,if_false]
       show(storeCells a [u] 0).ar P none h=_
       unfold storeCells;have R:a.add 0=a:=rfl
       rw[R,kY s];rfl
      show(Instr.storeAt t (.pointer (some a)) u>>=fun _=>(Pure.pure Next.skip:Sem Next)).ar P none h=_
      rw[kY Q];rfl
    ·cases e
   ·cases e
  ·cases e
 ·cases e
theorem zf(K:bF P T)(a:cu o=false)(e:y7 T tmps h o.op=some (v,h')):bV P none h ⟨tmps⟩ o=some (.value v,h'):=by
 obtain⟨j,op,g,pos,after,guard⟩:=o
 dsimp only at e;unfold y7 at e;split at e
 ·rename_i t;unfold UU at e;split at e
  ·rename_i A d z m n;cases e;have p:=(K.get _ _ n).2.2.1;refine Ij (s:=Instr.alloc t true (.tuple #[])) a (fun y f=>by simp[Op.operands]at f) rfl ?_ ?_
   ·unfold execOp;rfl
   ·unfold Instr.alloc;rw[kY (ZR (z:=z) p)];rfl
  ·cases e
 ·rename_i t x;unfold age at e;split at e
  ·rename_i u q;cases e;obtain⟨r,w⟩:=jy q
   refine Ij (s:=Instr.box t u) a (fun y f=>by simp[Op.operands]at f;rw[f];exact w) rfl ?_ rfl;unfold execOp;dsimp only
   rw[r]
  ·cases e
 ·cases e
theorem Ee(K:bF P T)(KF:gK P b)(d:ops[i]?=some o)(f:Region.wanted o (yielded ops ⟨tmps⟩)=true)(j:di P pl (.region ops l::k) next)(e:op2 P T b o (.region ops (i::l)::k) next c tmps h=some s'):To P pl s' (mk (.region ops (i::l)::k) c tmps h):=by
 unfold op2 at e;have g:fast T tmps h o.op≠none∨y7 T tmps h o.op≠none->cu o=false:=by
  intro a;obtain⟨u,op,s,pos,after,guard⟩:=o
  unfold cu;dsimp only at a⊢;split
  ·rcases a with a|a
   ·exact absurd rfl a
   ·exact absurd rfl a
  ·rfl
 cases m:fast T tmps h o.op with
 |some v=>rw[m]at e;exact rP d f j (U1 (g (.inl (by rw[m];simp))) (ve K m)) e
 |none=>
  rw[m]at e;replace e:op4 P T b o (.region ops (i::l)::k) next c tmps h=some s':=e
  unfold op4 at e;cases n:y7 T tmps h o.op with
  |some r=>
   rw[n]at e;obtain⟨v,h'⟩:=r
   exact rP d f j (zf K (g (.inr (by rw[n];simp))) n) e
  |none=>
   rw[n]at e;replace e:op5 P T b o (.region ops (i::l)::k) next c tmps h=some s':=e
   unfold op5 at e;cases p:Ed T tmps h o.op with
   |some h'=>rw[p]at e;exact Bj d f j (y9 K p) e
   |none=>
    rw[p]at e;replace e:op3 P b o (.region ops (i::l)::k) next c tmps h=some s':=e
    unfold op3 at e;cases q:Ec b c (.region ops (i::l)::k) tmps h o.op with
    |some t=>rw[q]at e;cases e;exact y8 KF (nM d f) q
    |none=>rw[q]at e;exact Qh d f j e
theorem Va{g:Nat×Bool}(a:o.guard=some g):Region.wanted o (yielded ops ⟨tmps⟩)=Il ops tmps g:=by
 obtain⟨j,w⟩:=g
 unfold Region.wanted Il yielded;rw[a];dsimp only
 have e:nth ops.toList j=ops[j]?:=by rw[iR];simp
 rw[e];cases ops[j]? with
 |none=>simp
 |some f=>
  dsimp only[Option.bind_some]
  cases f.dst with
  |none=>simp
  |some d=>
   dsimp only[Option.bind_some]
   rw[jw];cases (Array.mk tmps)[d]? with
   |none=>simp
   |some v=>cases v<;>simp
theorem Qi(K:bF P T)(KF:gK P b)(a:ops[i]?=some o)(j:di P pl (.region ops l::k) next):di P pl (.region ops (i::l)::k) (opK P T b ops o (.region ops (i::l)::k) next):=by
 intro c tmps h s' e;unfold opK at e;cases d:o.guard with
 |some g=>
  rw[d]at e;replace e:Bool.rec (U2 o.dst undef next c tmps h) (op2 P T b o (.region ops (i::l)::k) next c tmps h) (Il ops tmps g)=some s':=e
  have f:=Va (ops:=ops) (tmps:=tmps) d
  cases n:Il ops tmps g with
  |true=>rw[n]at e f;exact Ee K KF a f j e
  |false=>
   rw[n]at e f;have m:aH P pl none (mk (.region ops (i::l)::k) c tmps h)=some (.go ⟨⟨c.fn,dM ⟨tmps⟩ o.dst undef,.region ops l::k,c.defers,false,c.round,c.dk⟩,c.cs,h⟩):=by
    unfold aH mk;dsimp only
    rw[a];dsimp only
    rw[if_neg (by rw[f];simp)];have:=vg (P:=P) (c:=c) (tmps:=tmps) (h':=h) (l:=l) (k:=k) a undef h
    unfold mk at this;dsimp only at this;rw[this];rfl
   exact .one m (xZ j e)
 |none=>rw[d]at e;exact Ee K KF a (by unfold Region.wanted;rw[d]) j e
theorem vk(K:bF P T)(KF:gK P b):∀(l:List Nat) (first:Bool),di P pl (.region ops l::k) (U4 P T b ops k l first)
 | [],first=>fF (fun c tmps h=>rfl) (rO k)
 |i::l,first=>by
  intro c tmps h s' e;replace e:xX (.region ops (i::l)::k) first (opI P T b ops (.region ops (i::l)::k) (U4 P T b ops k l false) (nth ops.toList i)) c tmps h=some s':=e
  unfold xX at e;cases a:opI P T b ops (.region ops (i::l)::k) (U4 P T b ops k l false) (nth ops.toList i) c tmps h with
  |none=>
   rw[a]at e;cases first with
   |true=>cases e
   |false=>cases e;exact .here rfl
  |some f=>
   rw[a]at e;cases e;cases d:nth ops.toList i with
   |none=>rw[d]at a;cases a
   |some o=>rw[d]at a;rw[iR]at d;exact Qi K KF (by simpa using d) (vk K KF l false) c tmps h _ a
variable{again:List Nat}{rest:List (Nat×List Nat)}
theorem oG(K:bF P T):∀(f:List Nat),ZB T tmps h ops f=true->recheck P ops f ⟨tmps⟩ h=true
 | [],e=>rfl
 |j::f,e=>by
  replace e:(match nth ops.toList j with
   |some o=>match o.dst,o.guard with
    |some d,none=>match nth tmps d with
     |some v=>match fast T tmps h o.op with
      |some q=>bif iI 9 v q&&decide (kindOf o=.eU)then ZB T tmps h ops f else false
      |none=>false
     |none=>false
    |_,_=>false
   |none=>false)=true:=e
  split at e
  ·rename_i o w;rw[iR]at w;have r:ops[j]?=some o:=by simpa using w
   split at e
   ·rename_i d hd A;split at e
    ·rename_i v y;rw[jw]at y;split at e
     ·rename_i q g;cases m:(iI 9 v q&&decide (kindOf o=.eU))with
      |false=>rw[m]at e;cases e
      |true=>
       rw[m]at e;rw[Bool.and_eq_true]at m;have B:=yZ (ve K g)
       have C:eqB P h ops ⟨tmps⟩ j=true:=by
        unfold eqB;rw[r];dsimp only
        rw[hd];dsimp only
        rw[y];dsimp only
        have D:Region.wanted o (yielded ops ⟨tmps⟩)=true:=by unfold Region.wanted;rw[A]
        rw[D];dsimp only
        have s:∀t,o.op≠.alloc t:=fun t a=>by rw[a]at g;cases g
        have u:∀t n p,o.op≠.buildSlice t n p:=fun t n p a=>by rw[a]at g;cases g
        split
        ·rename_i t a;exact absurd a (s t)
        ·rename_i t n p a;exact absurd a (u t n p)
        ·rw[B];simp only[Bool.and_eq_true]
         exact⟨m.2,m.1⟩
       have z:=oG K f e
       unfold recheck at z⊢;rw[List.all_cons,C,z];rfl
     ·cases e
    ·cases e
   ·cases e
  ·cases e
theorem J7(a:ops[i]?=some o)(d:kindOf o=.effect):aI ops i=.effect:=by
 unfold aI;rw[a];dsimp only
 rw[d];cases over ops i o<;>rfl
theorem Iw(a:ops[i]?=some o):cZ ops i=o.dst:=by unfold cZ;rw[a];rfl
theorem Bl(K:bF P T)(m:ops[i]?=some o)(f:aI ops i=.effect)(g:di P pl (.drawn ops rest::k) next){Oc:List Value}{h₀:AH}(e:Io T ops again o.dst v next c tmps h=some s'):
  ∃j,aF P (mk (.drawn ops ((i,again)::rest)::k) c tmps h₀).fr h v=some j/\To P pl s' ⟨j,c.cs,h⟩:=by
 unfold aF mk;dsimp only
 rw[Iw m];unfold Io at e;cases hd:o.dst with
 |none=>
  rw[hd]at e;replace e:wM T ops again next c tmps h=some s':=e
  unfold wM at e;cases a:ZB T tmps h ops again with
  |false=>rw[a]at e;cases e
  |true=>rw[a]at e;exact⟨⟨c.fn,⟨tmps⟩,.drawn ops rest::k,c.defers,false,c.round,c.dk⟩,by rw[show dM ⟨tmps⟩ none v=⟨tmps⟩from rfl,if_pos ⟨f,oG K _ a⟩],g c tmps h s' e⟩
 |some d=>
  rw[hd]at e;replace e:ru v tmps d (fun tmps=>wM T ops again next c tmps h)=some s':=e
  rw[jA]at e;unfold wM at e;cases a:ZB T (tmps.set d v) h ops again with
  |false=>rw[a]at e;cases e
  |true=>
   rw[a]at e;have n:dM ⟨tmps⟩ (some d) v=⟨tmps.set d v⟩:=by unfold dM;apply Array.ext';simp
   rw[n];exact⟨_,by rw[if_pos ⟨f,oG K _ a⟩],g c _ h s' e⟩
theorem pM(a:ops[i]?=some o)(d:aI ops i=.effect)(e:Region.wanted o (yielded ops ⟨tmps⟩)=true):aH P pl none (mk (.drawn ops ((i,again)::rest)::k) c tmps h)=dn P (mk (.drawn ops ((i,again)::rest)::k) c tmps h).fr c.cs (bV P none h ⟨tmps⟩ o):=by
 unfold aH mk;dsimp only
 rw[a];dsimp only
 rw[d];dsimp only
 rw[if_pos e]
theorem Bo(K:bF P T)(f:ops[i]?=some o)(g:aI ops i=.effect)(m:Region.wanted o (yielded ops ⟨tmps⟩)=true)(n:di P pl (.drawn ops rest::k) next)(p:bV P none h ⟨tmps⟩ o=some (.value v,h'))(e:Io T ops again o.dst v next c tmps h'=some s'):
  To P pl s' (mk (.drawn ops ((i,again)::rest)::k) c tmps h):=by
 have a:=pM (P:=P) (pl:=pl) (again:=again) (rest:=rest) (c:=c) (h:=h) (k:=k) f g m
 rw[p]at a;obtain⟨s,q,r⟩:=Bl (P:=P) (pl:=pl) (k:=k) (h₀:=h) (Oc:=tmps) K f g n e
 unfold dn at a;dsimp only at a;rw[q]at a;exact .one a r
theorem zg(K:bF P T)(f:ops[i]?=some o)(g:aI ops i=.effect)(m:Region.wanted o (yielded ops ⟨tmps⟩)=true)(n:di P pl (.drawn ops rest::k) next)(p:bV P none h ⟨tmps⟩ o=some (.skip,h'))(e:Io T ops again o.dst undef next c tmps h'=some s'):
  To P pl s' (mk (.drawn ops ((i,again)::rest)::k) c tmps h):=by
 have a:=pM (P:=P) (pl:=pl) (again:=again) (rest:=rest) (c:=c) (h:=h) (k:=k) f g m
 rw[p]at a;obtain⟨s,q,r⟩:=Bl (P:=P) (pl:=pl) (k:=k) (h₀:=h) (Oc:=tmps) K f g n e
 unfold dn at a;dsimp only at a;rw[q]at a;exact .one a r
theorem J8(K:bF P T)(KF:gK P b)(d:ops[i]?=some o)(g:aI ops i=.effect)(j:Region.wanted o (yielded ops ⟨tmps⟩)=true)(m:di P pl (.drawn ops rest::k) next)(e:adG P T b ops o again (.drawn ops ((i,again)::rest)::k) next c tmps h=some s'):
  To P pl s' (mk (.drawn ops ((i,again)::rest)::k) c tmps h):=by
 unfold adG at e;have p:y7 T tmps h o.op≠none->cu o=false:=by
  intro a;obtain⟨w,op,t,pos,after,guard⟩:=o
  unfold cu;dsimp only at a⊢;split
  ·exact absurd rfl a
  ·rfl
 cases n:y7 T tmps h o.op with
 |some r=>
  rw[n]at e;obtain⟨v,h'⟩:=r
  exact Bo K d g j m (zf K (p (by rw[n];simp)) n) e
 |none=>
  rw[n]at e;replace e:d2 P T b ops o again (.drawn ops ((i,again)::rest)::k) next c tmps h=some s':=e
  unfold d2 at e;cases q:Ed T tmps h o.op with
  |some h'=>rw[q]at e;exact zg K d g j m (y9 K q) e
  |none=>
   rw[q]at e;replace e:d3 P T b ops o again (.drawn ops ((i,again)::rest)::k) next c tmps h=some s':=e
   unfold d3 at e;cases s:Ec b c (.drawn ops ((i,again)::rest)::k) tmps h o.op with
   |some u=>rw[s]at e;cases e;exact y8 KF (pM d g j) s
   |none=>
    rw[s]at e;replace e:dR P T ops o again (.drawn ops ((i,again)::rest)::k) next c tmps (bV P none h ⟨tmps⟩ o)=some s':=e
    unfold dR at e;split at e
    ·rename_i v h' a;exact Bo K d g j m a e
    ·rename_i h' a;exact zg K d g j m a e
    ·rename_i f args h' a;exact wQ (pM d g j) a e
    ·cases e
theorem FN(K:bF P T)(s:ops[i]?=some o)(u:aI ops i=.eU)(w:Region.wanted o (yielded ops ⟨tmps⟩)=true)(y:di P pl (.drawn ops rest::k) next)(e:J4 T o next c tmps h=some s'):
  To P pl s' (mk (.drawn ops ((i,again)::rest)::k) c tmps h):=by
 unfold J4 at e;split at e
 ·rename_i v f;have z:=yZ (ve K f)
  have j:∀t,o.op≠.alloc t:=fun t a=>by rw[a]at f;cases f
  have m:∀t n g,o.op≠.buildSlice t n g:=fun t n g a=>by rw[a]at f;cases f
  split at e
  ·rename_i d hd;cases p:Nat.blt d tmps.length with
   |false=>rw[p]at e;cases e
   |true=>
    rw[p]at e;replace e:ru v tmps d (fun tmps=>next c tmps h)=some s':=e
    rw[jA]at e;have q:d<tmps.length:=by simpa using p
    have r:aH P pl none (mk (.drawn ops ((i,again)::rest)::k) c tmps h)=some (.go (mk (.drawn ops rest::k) c (tmps.set d v) h)):=by
     unfold aH mk;dsimp only
     rw[s];dsimp only
     rw[u];dsimp only
     rw[hd];dsimp only
     rw[if_pos (show d<(Array.mk tmps).size from q),if_pos w];have A:(Array.mk tmps).setIfInBounds d v=⟨tmps.set d v⟩:=by apply Array.ext';simp
     split
     ·rename_i t a;exact absurd a (j t)
     ·rename_i t n g a;exact absurd a (m t n g)
     ·rw[z];dsimp only
      rw[A]
    exact .one r (y c _ h s' e)
  ·cases e
 ·cases e
theorem FO(K:bF P T)(p:ops[i]?=some o)(q:aI ops i=.alloc)(r:Region.wanted o (yielded ops ⟨tmps⟩)=true)(s:di P pl (.drawn ops rest::k) next)(e:J5 T ops o again next c tmps h=some s'):
  To P pl s' (mk (.drawn ops ((i,again)::rest)::k) c tmps h):=by
 unfold J5 at e;split at e
 ·rename_i t a;split at e
  ·rename_i B d z u w;have y:zeroOf P t=some z:=(K.get _ _ w).2.2.1;split at e
   ·rename_i d hd;cases f:Nat.blt d tmps.length with
    |false=>rw[f]at e;cases e
    |true=>
     rw[f]at e;replace e:ru (.pointer (some ⟨h.n,0,none⟩)) tmps d (fun tmps=>wM T ops again next c tmps (h.new (.cells z.cells t (0,0))))=some s':=e
     rw[jA]at e;unfold wM at e;have g:d<tmps.length:=by simpa using f
     cases j:ZB T (tmps.set d (.pointer (some ⟨h.n,0,none⟩))) (h.new (.cells z.cells t (0,0))) ops again with
     |false=>rw[j]at e;cases e
     |true=>
      rw[j]at e;have m:aH P pl none (mk (.drawn ops ((i,again)::rest)::k) c tmps h)=some (.go (mk (.drawn ops rest::k) c (tmps.set d (.pointer (some ⟨h.n,0,none⟩))) (h.new (.cells z.cells t (0,0))))):=by
       unfold aH mk;dsimp only
       rw[p];dsimp only
       rw[q];dsimp only
       rw[hd];dsimp only
       have A:(Array.mk tmps).setIfInBounds d (.pointer (some ⟨h.n,0,none⟩))=⟨tmps.set d (.pointer (some ⟨h.n,0,none⟩))⟩:=by apply Array.ext';simp
       rw[if_pos (show d<(Array.mk tmps).size from g),if_pos r,a];dsimp only
       rw[y];dsimp only
       rw[A,if_pos (oG K _ j)]
      exact .one m (s c _ _ s' e)
   ·cases e
  ·cases e
 ·cases e
theorem lV(K:bF P T)(KF:gK P b):∀(l:List (Nat×List Nat)) (first:Bool),di P pl (.drawn ops l::k) (Bf P T b ops k l first)
 | [],first=>fF (fun c tmps h=>rfl) (rO k)
 |(i,again)::l,first=>by
  intro c tmps h s' e;replace e:xX (.drawn ops ((i,again)::l)::k) first (dI P T b ops i again (.drawn ops ((i,again)::l)::k) (Bf P T b ops k l false) (nth ops.toList i)) c tmps h=some s':=e
  unfold xX at e;cases a:dI P T b ops i again (.drawn ops ((i,again)::l)::k) (Bf P T b ops k l false) (nth ops.toList i) c tmps h with
  |none=>
   rw[a]at e;cases first with
   |true=>cases e
   |false=>cases e;exact .here rfl
  |some q=>
   rw[a]at e;cases e;cases j:nth ops.toList i with
   |none=>rw[j]at a;cases a
   |some o=>
    rw[j]at a;rw[iR]at j;have d:ops[i]?=some o:=by simpa using j
    replace a:dOp P T b ops i o again (.drawn ops ((i,again)::l)::k) (Bf P T b ops k l false) c tmps h=some s':=a
    unfold dOp at a;cases m:o.guard with
    |some g=>rw[m]at a;cases a
    |none=>
     rw[m]at a;have n:Region.wanted o (yielded ops ⟨tmps⟩)=true:=by unfold Region.wanted;rw[m]
     have p:aI ops i=cond (over ops i o) .effect (kindOf o):=by unfold aI;rw[d]
     rw[←p]at a;cases f:aI ops i with
     |eU=>rw[f]at a;exact FN K d f n (lV K KF l false) a
     |alloc=>rw[f]at a;exact FO K d f n (lV K KF l false) a
     |effect=>rw[f]at a;exact J8 K KF d f n (lV K KF l false) a
end
end Go.Am
