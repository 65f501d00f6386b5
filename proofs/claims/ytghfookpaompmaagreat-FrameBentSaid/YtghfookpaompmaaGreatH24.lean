import Derived.Test.YtghfookpaompmaaGreatProg
import Derived.KernelRfl
import Derived.Conc.WgLib
import Derived.Test.YtghfookpaompmaaGreatH16
import Derived.Test.YtghfookpaompmaaGreatH23
set_option linter.unusedVariables false
set_option linter.unusedSectionVars false
set_option linter.unusedSimpArgs false
namespace Go.Am
inductive HT where
 |no
 |ret (n m:Nat)
 |cut (n m:Nat)
 |br (n m t:Nat) (a b:HT)
 |val (n m t:Nat) (k:HT)
 |spl (n m t:Nat) (c:Int) (a b:HT)
 |ov (n m:Nat) (k:HT)
 |lod (n m:Nat) (κ:IntKind) (k:HT)
 |lodB (n m:Nat) (k:HT)
 |calli (n m i:Nat) (k:HT)
 |rk (n m:Nat) (k:HT)
 |cas (n m t:Nat) (v:Value) (a b:HT)
abbrev HT.call(n m:Nat)(k:HT):HT:=.calli n m 0 k
noncomputable section
structure TX where
 P:Program
 T:Tr TI
 Fu:Tr Func
 Γ:Nat→FuncId→Array Value→AH→(Value→Prop)→Prop
variable(X:TX)
def gotoF(n m:Nat)(s:AS):Option AS:=match frunF X.P plan X.T X.Fu n s with
 |some (.go s₁)=>match arun X.P plan m s₁ with
  |some (.go s₂)=>some s₂
  |_=>none
 |_=>none
def finF(n m:Nat)(s:AS):Option Value:=match frunF X.P plan X.T X.Fu n s with
 |some (.go s₁)=>match arun X.P plan m s₁ with
  |some (.ret v _)=>some v
  |_=>none
 |_=>none
def setT(s:AS)(t:Nat)(v:Value):AS:=setK v s.fr.tmps.toList t fun l=>⟨⟨s.fr.fn,⟨l⟩,s.fr.todo,s.fr.defers,s.fr.ret,s.fr.round,s.fr.dk⟩,s.cs,s.h⟩
def BR(c:Bool)(A B:Prop):Prop:=(c=true→A)∧(c=false→B)
def RK(c:Bool)(A:Prop):Prop:=c=true∧A
def SP(e c:Int)(A B:Prop):Prop:=(e=c→A)∧(¬e=c→B)
def CS(p A B:Prop):Prop:=(p→A)∧(¬p→B)
def opQ(s:AS):Option Oper:=match s.fr.ret,s.fr.todo with
 |false,.region ops (i :: _) :: _=>match nth ops.toList i with
  |some o=>if Region.wanted o (yielded ops s.fr.tmps) && operOk o then some o else none
  |none=>none
 |false,.drawn ops ((i,_) :: _) :: _=>match nth ops.toList i with
  |some o=>if Region.wanted o (yielded ops s.fr.tmps) && operOk o && decide (kindAt ops i = .light) then some o else none
  |none=>none
 |_,_=>none
def finQ(s:AS)(v:Value):Option AS:=match s.fr.todo with
 | .region ops (i :: l) :: k=>match nth ops.toList i with
  |some o=>match o.dst with
   |some d=>some (setK v s.fr.tmps.toList d fun t=>⟨⟨s.fr.fn,⟨t⟩,.region ops l :: k,s.fr.defers,s.fr.ret,s.fr.round,s.fr.dk⟩,s.cs,s.h⟩)
   |none=>none
  |none=>none
 | .drawn ops ((i,_) :: l) :: k=>match nth ops.toList i with
  |some o=>match o.dst with
   |some d=>bif Nat.blt d s.fr.tmps.toList.length then some (setK v s.fr.tmps.toList d fun t=>⟨⟨s.fr.fn,⟨t⟩,.drawn ops l :: k,s.fr.defers,s.fr.ret,s.fr.round,s.fr.dk⟩,s.cs,s.h⟩) else none
   |none=>none
  |none=>none
 |_=>none
def ovF(T:Tr TI)(tmps:List Value)(op:Op):Option (Prop×Value):=match op with
 | .indexAddr t x i=>match evF tmps x,evF tmps i with
  |some (.slice (some ⟨b,off,none⟩) len _),some (.int _ n)=>match T.get t with
   |some ⟨_,.slice e,_,_⟩=>match T.get e with
    |some ⟨sz,_,_,_⟩=>some (0≤n∧n < len,.pointer (some ⟨b,off+n.toNat * sz,none⟩))
    |none=>none
   |_=>none
  |_,_=>none
 | .binOp op _ x y _=>match evF tmps x,evF tmps y with
  |some (.int k a),some (.int k' b)=>if k=k' then match op with
   | .quo=>some (b≠0,.int k (k.wrap (a.tdiv b)))
   | .rem=>some (b≠0,.int k (a.tmod b))
   |_=>none else none
  |_,_=>none
 |_=>none
def ldF(T:Tr TI)(h:AH)(tmps:List Value)(op:Op):Option (Option Value):=match op with
 | .load t x=>match evF tmps x with
  |some (.pointer (some a))=>match T.get t with
   |some ⟨_,d,_,_⟩=>bif isAggT d then none else some (cellF h a)
   |none=>none
  |_=>none
 |_=>none
def callQ(s:AS):Option (FuncId×Array Value×AH):=match s.fr.ret,s.fr.todo with
 |false,.region ops (i :: _) :: _=>match nth ops.toList i with
  |some o=>if Region.wanted o (yielded ops s.fr.tmps) then match aexec X.P none s.h s.fr.tmps o with
   |some (.enter f args,h)=>some (f,args,h)
   |_=>none else none
  |none=>none
 |false,.drawn ops ((i,_) :: _) :: _=>match nth ops.toList i with
  |some o=>if decide (kindAt ops i = .effect) && Region.wanted o (yielded ops s.fr.tmps) then match aexec X.P none s.h s.fr.tmps o with
   |some (.enter f args,h)=>some (f,args,h)
   |_=>none else none
  |none=>none
 |_,_=>none
def afinC(f:AFr)(h:AH)(v:Value):Option (Bool×AFr):=match f.todo with
 | .drawn ops ((i,c) :: rest) :: k=>if kindAt ops i = .effect then some (recheck X.P ops c (setTmp f.tmps (dstAt ops i) v) h,{ f with tmps:=setTmp f.tmps (dstAt ops i) v,todo:=.drawn ops rest :: k }) else none
 |_=>match afinish X.P f h v with
  |some a=>some (true,a)
  |none=>none
def retC(s:AS):Option (Bool×AS):=match s.fr.ret,s.fr.defers,s.fr.dk,s.cs with
 |true,[],false,c :: cs=>match X.P.funcs[s.fr.fn]? with
  |some fn=>match (results fn s.fr.tmps).ar X.P none s.h with
   |some (v,h)=>match afinC X c h v with
    |some (b,a)=>some (b,⟨a,cs,h⟩)
    |none=>none
   |none=>none
  |none=>none
 |_,_,_,_=>none
def stepC(s:AS):Option (Bool×AS):=match s.fr.ret with
 |true=>retC X s
 |false=>match s.fr.todo with
  | .drawn ops ((i,again) :: l) :: k=>match nth ops.toList i with
   |some o=>if Region.wanted o (yielded ops s.fr.tmps) then match kindAt ops i with
    | .effect=>match aexec X.P none s.h s.fr.tmps o with
     |some (.value v,h)=>match afinC X s.fr h v with
      |some (b,a)=>some (b,⟨a,s.cs,h⟩)
      |none=>none
     |some (.skip,h)=>match afinC X s.fr h undef with
      |some (b,a)=>some (b,⟨a,s.cs,h⟩)
      |none=>none
     |_=>none
    | .alloc=>match o.dst with
     |some d=>if d < s.fr.tmps.size then match o.op with
      | .alloc t=>match zeroOf X.P t with
       |some z=>some (recheck X.P ops again (s.fr.tmps.setIfInBounds d (.pointer (some ⟨s.h.n,0,none⟩))) (s.h.new (.cells z.cells t (0,0))),
         {s with fr:={ s.fr with tmps:=s.fr.tmps.setIfInBounds d (.pointer (some ⟨s.h.n,0,none⟩)),todo:=.drawn ops l :: k },h:=s.h.new (.cells z.cells t (0,0)) })
       |none=>none
      | .buildSlice t n ps=>match builtOf X.P (aeval s.fr.tmps) t n ps with
       |some (elem,cells)=>if operOk o then some (recheck X.P ops again (s.fr.tmps.setIfInBounds d (.slice (some ⟨s.h.n,0,none⟩) n n)) (s.h.new (.cells cells elem (0,0))),
         {s with fr:={ s.fr with tmps:=s.fr.tmps.setIfInBounds d (.slice (some ⟨s.h.n,0,none⟩) n n),todo:=.drawn ops l :: k },h:=s.h.new (.cells cells elem (0,0)) }) else none
       |none=>none
      |_=>none else none
     |none=>none
    | .light=>none else none
   |none=>none
  |_=>none
def tx(Q:Value→Prop)(K:AS→Prop):HT→AS→Prop
 | .no,_=>False
 | .ret n m,s=>match finF X n m s with
  |some v=>Q v
  |none=>False
 | .cut n m,s=>match gotoF X n m s with
  |some s=>K s
  |none=>False
 | .br n m t a b,s=>match gotoF X n m s with
  |some s=>match nth s.fr.tmps.toList t with
   |some (.bool c)=>BR c (tx Q K a (setT s t (.bool true))) (tx Q K b (setT s t (.bool false)))
   |_=>False
  |none=>False
 | .val n m t k,s=>match gotoF X n m s with
  |some s=>match nth s.fr.tmps.toList t with
   |some (.int κ e)=>∀x:Int,x=e→tx Q K k (setT s t (.int κ x))
   |_=>False
  |none=>False
 | .spl n m t c a b,s=>match gotoF X n m s with
  |some s=>match nth s.fr.tmps.toList t with
   |some (.int κ e)=>SP e c (tx Q K a (setT s t (.int κ c))) (tx Q K b s)
   |_=>False
  |none=>False
 | .ov n m k,s=>match gotoF X n m s with
  |some s=>match opQ s with
   |some o=>match ovF X.T s.fr.tmps.toList o.op with
    |some (p,v)=>match finQ s v with
     |some s=>p∧tx Q K k s
     |none=>False
    |none=>False
   |none=>False
  |none=>False
 | .lod n m κ k,s=>match gotoF X n m s with
  |some s=>match opQ s with
   |some o=>match ldF X.T s.h s.fr.tmps.toList o.op with
    |some u=>∃x:Int,u=some (.int κ x)∧match finQ s (.int κ x) with
     |some s=>tx Q K k s
     |none=>False
    |none=>False
   |none=>False
  |none=>False
 | .lodB n m k,s=>match gotoF X n m s with
  |some s=>match opQ s with
   |some o=>match ldF X.T s.h s.fr.tmps.toList o.op with
    |some u=>∃x:Bool,u=some (.bool x)∧match finQ s (.bool x) with
     |some s=>tx Q K k s
     |none=>False
    |none=>False
   |none=>False
  |none=>False
 | .calli n m i k,s=>match gotoF X n m s with
  |some s=>match callQ X s with
   |some (f,args,h)=>X.Γ i f args h fun v=>match afinC X s.fr h v with
    |some (c,a)=>RK c (tx Q K k ⟨a,s.cs,h⟩)
    |none=>False
   |none=>False
  |none=>False
 | .rk n m k,s=>match gotoF X n m s with
  |some s=>match stepC X s with
   |some (c,s)=>RK c (tx Q K k s)
   |none=>False
  |none=>False
 | .cas n m t v a b,s=>match gotoF X n m s with
  |some s=>match nth s.fr.tmps.toList t with
   |some u=>CS (u=v) (tx Q K a (setT s t v)) (tx Q K b s)
   |none=>False
  |none=>False
end
def CallOk(P:Program)(f:FuncId)(args:Array Value)(h:AH)(post:Value→Prop):Prop:=
 ∀(c:AFr) (cs:List AFr),(∀v,post v→∃a',afinish P c h v=some a')→Runs P (fun s'=>∃v a',post v∧afinish P c h v=some a' ∧ s' = ⟨a',cs,h⟩) ⟨AFr.enter P f args,c :: cs,h⟩
structure Cl(P:Program)(Q:Value→Prop)(K:AS→Prop)(G:AS→Prop):Prop where
 runs:∀s,Runs P G s→G s
 ret:∀s v,(∀R:Value→AH→Prop,(∀h,R v h)→AAll P plan R s)→Q v→G s
 cut:∀s,K s→G s
structure TXok(X:TX):Prop where
 Z:Zeros X.P
 T:TabOk X.P X.T
 Fu:FunOk X.P X.Fu
 Γ:∀i f args h post,X.Γ i f args h post→CallOk X.P f args h post
section
variable{X:TX}{Q:Value→Prop}{K G:AS→Prop}{s s':AS}{n m t:Nat}{v:Value}{c:AFr}{cs:List AFr}{h:AH}
theorem setT_same(e:nth s.fr.tmps.toList t=some v):setT s t v=s:=by
 unfold setT
 rw [setK_eq]
 rw [nth_eq] at e
 have:s.fr.tmps.toList.set t v=s.fr.tmps.toList:=by
  apply List.ext_getElem?
  intro i
  rw [List.getElem?_set]
  split
  ·rename_i hi;subst hi
   split
   ·exact e.symm
   ·rename_i hl;rw [List.getElem?_eq_none (by omega)] at e;cases e
  ·rfl
 rw [this]
theorem gotoF_reach(ok:TXok X)(e:gotoF X n m s=some s'):To X.P plan s' s:=by
 unfold gotoF at e
 split at e
 ·rename_i s₁ h₁
  split at e
  ·rename_i s₂ h₂
   cases e
   exact (frunF_go ok.T ok.Fu n h₁).bind fun s h=>by subst h;exact arun_reach m h₂ (.here rfl)
  ·cases e
 ·cases e
theorem opQ_some{o:Oper}(e:opQ s=some o):s.fr.ret=false∧operOk o=true∧((∃ops i l k,s.fr.todo = .region ops (i :: l) :: k∧ops[i]? = some o∧Region.wanted o (yielded ops s.fr.tmps)=true) ∨
  ∃ops i c l k,s.fr.todo = .drawn ops ((i,c) :: l) :: k∧ops[i]? = some o∧Region.wanted o (yielded ops s.fr.tmps)=true∧kindAt ops i = .light):=by
 unfold opQ at e
 split at e
 ·rename_i ops i l k hr ht
  split at e
  ·rename_i o' ho
   split at e
   ·rename_i hc
    cases e
    rw [Bool.and_eq_true] at hc
    rw [nth_eq] at ho
    exact ⟨hr,hc.2,.inl ⟨ops,i,l,k,ht,by simpa using ho,hc.1⟩⟩
   ·cases e
  ·cases e
 ·rename_i ops i c l k hr ht
  split at e
  ·rename_i o' ho
   split at e
   ·rename_i hc
    cases e
    simp only [Bool.and_eq_true,decide_eq_true_eq] at hc
    rw [nth_eq] at ho
    exact ⟨hr,hc.1.2,.inr ⟨ops,i,c,l,k,ht,by simpa using ho,hc.1.1,hc.2⟩⟩
   ·cases e
  ·cases e
 ·cases e
theorem set_arr(a:Array Value)(d:Nat)(v:Value):(⟨a.toList.set d v⟩:Array Value)=a.setIfInBounds d v:=by
 apply Array.toList_inj.1
 simp
theorem ov_step{o:Oper}(e:opQ s=some o)(hap:isAppend o=false)(hk:opOk X.P s.h (aeval s.fr.tmps) o=true)(hx:(execOp (aeval s.fr.tmps) o).aro X.P s.h=some (.value v))(hf:finQ s v=some s'):astep X.P plan none s=some (.go s'):=by
 obtain ⟨h1,h2,h3⟩:=opQ_some e
 rcases h3 with ⟨ops,i,l,k,ht,ho,hw⟩|⟨ops,i,c,l,k,ht,ho,hw,hl⟩
 ·have hex:aexec X.P none s.h s.fr.tmps o=some (.value v,s.h):=by
   unfold aexec
   rw [if_neg (by rw [hap];decide),if_pos (by rw [h2,hk];rfl)]
   exact aro_ar _ hx
  unfold astep
  rw [h1]
  dsimp only
  rw [ht]
  dsimp only
  rw [ho]
  dsimp only
  rw [if_pos hw,hex]
  unfold finQ at hf
  rw [ht] at hf
  dsimp only at hf
  rw [nth_arr] at hf
  rw [show ((⟨ops.toList⟩:Array Oper))=ops from rfl,ho] at hf
  dsimp only at hf
  split at hf
  ·rename_i d hd
   rw [setK_eq] at hf
   cases hf
   unfold aapply afinish
   dsimp only
   rw [ht]
   dsimp only
   rw [ho]
   simp only [Option.bind_some,Option.map_some,hd,setTmp,set_arr,h1]
  ·cases hf
 ·have hne:o.dst≠none:=by
   intro hd
   unfold finQ at hf
   rw [ht] at hf
   dsimp only at hf
   rw [nth_arr] at hf
   rw [show ((⟨ops.toList⟩:Array Oper))=ops from rfl,ho] at hf
   dsimp only at hf
   rw [hd] at hf
   cases hf
  have hkl:kindOf o = .light:=by rw [←kindAt_ne ho (by rw [hl];intro x;cases x)];exact hl
  have hlv:lightVal X.P s.h s.fr.tmps o=some v:=by
   unfold lightVal
   rw [if_pos (by rw [h2,hk];rfl),hx]
  unfold finQ at hf
  rw [ht] at hf
  dsimp only at hf
  rw [nth_arr] at hf
  rw [show ((⟨ops.toList⟩:Array Oper))=ops from rfl,ho] at hf
  dsimp only at hf
  split at hf
  ·rename_i d hd
   cases hb:Nat.blt d s.fr.tmps.toList.length with
   |false=>rw [hb] at hf;cases hf
   |true=>
    rw [hb,setK_eq] at hf
    cases hf
    have hlt:d < s.fr.tmps.size:=by
     have h9:d+1≤s.fr.tmps.toList.length:=Nat.le_of_ble_eq_true hb
     exact Nat.le_trans h9 (Nat.le_of_eq (by simp))
    unfold astep
    rw [h1]
    dsimp only
    rw [ht]
    dsimp only
    rw [ho]
    dsimp only
    rw [hl]
    dsimp only
    rw [hd]
    dsimp only
    rw [if_pos hlt,if_pos hw]
    have na:∀t,o.op ≠ .alloc t:=fun t x=>by unfold kindOf at hkl;rw [x] at hkl;cases hkl
    have nb:∀t n ps,o.op ≠ .buildSlice t n ps:=fun t n ps x=>by unfold kindOf at hkl;rw [x] at hkl;cases hkl
    split
    ·rename_i t hop;exact absurd hop (na t)
    ·rename_i t n ps hop;exact absurd hop (nb t n ps)
    ·rw [hlv]
     dsimp only
     rw [set_arr]
     simp only [h1]
  ·cases hf
end
end Go.Am
namespace Go.Am
section
variable{X:TX}{Q:Value→Prop}{K G:AS→Prop}{s s':AS}{n m t:Nat}{v:Value}{c:AFr}{cs:List AFr}{h:AH}
theorem evF_ok{x:Operand}{tmps:Array Value}(e:evF tmps.toList x=some v):aeval tmps x=v:=(evF_some (tmps:=tmps.toList) e).1
theorem add_plain(b off k:Nat):(⟨b,off,none⟩:Addr).add k=⟨b,off+k,none⟩:=by
 unfold Addr.add
 split
 ·rename_i h;rw [h];rfl
 ·rfl
theorem ovF_ok(K:TabOk X.P X.T){o:Oper}{tmps:Array Value}{p:Prop}(e:ovF X.T tmps.toList o.op=some (p,v))(hp:p):isAppend o=false∧opOk X.P h (aeval tmps) o=true∧(execOp (aeval tmps) o).aro X.P h=some (.value v):=by
 unfold ovF at e
 split at e
 ·rename_i t x i hop
  split at e
  ·rename_i b off len cap k n hx hi
   have e1:=evF_ok hx
   have e3:=evF_ok hi
   split at e
   ·rename_i sz el z pls ht
    split at e
    ·rename_i sz' u' z' pls' hel
     cases e
     have hun:=(K.get _ _ ht).1
     obtain ⟨inf,hd1,hd2⟩:=(K.get _ _ hel).2.1
     dsimp only at hd2
     refine ⟨by unfold isAppend;rw [hop],by unfold opOk;rw [hop],?_⟩
     have:(Instr.indexAt t (.slice (some ⟨b,off,none⟩) len cap) (.int k n)).aro X.P h=some (.pointer (some ⟨b,off+n.toNat * sz',none⟩)):=by
      unfold Instr.indexAt
      rw [ro_bnd (show (asIntOf (.int k n)).aro X.P h=some (k,n) from rfl)]
      dsimp only
      rw [ro_bnd (ro_under hun)]
      dsimp only
      rw [ro_bnd (ro_pure' _)]
      dsimp only
      rw [ro_bnd (ro_under hun)]
      dsimp only
      rw [if_pos hp,ro_bnd (ro_size hd1),hd2,←add_plain]
      rfl
     unfold execOp
     rw [hop]
     dsimp only
     rw [e1,e3]
     exact ro_bnd this
    ·cases e
   ·cases e
  ·cases e
 ·rename_i op t x y z hop
  split at e
  ·rename_i k a k' b hx hy
   have e1:=evF_ok hx
   have e3:=evF_ok hy
   split at e
   ·rename_i hk
    subst hk
    refine ⟨by unfold isAppend;rw [hop],by unfold opOk;rw [hop];dsimp only;rw [e1,e3];rfl,?_⟩
    unfold execOp
    rw [hop]
    dsimp only
    rw [e1,e3]
    cases op<;>first|(cases e;done)|skip
    all_goals
     cases e
     simp only [eqGuard,Go.binOp,Go.Op.intDiv,if_neg hp]
     simp [pure,bind,Sem.bind,Sem.aro]
   ·cases e
  ·cases e
 ·cases e
theorem ldF_ok(K:TabOk X.P X.T){o:Oper}{tmps:Array Value}(e:ldF X.T h tmps.toList o.op=some (some v)):isAppend o=false∧opOk X.P h (aeval tmps) o=true∧(execOp (aeval tmps) o).aro X.P h=some (.value v):=by
 unfold ldF at e
 split at e
 ·rename_i t x hop
  split at e
  ·rename_i a hx
   have e1:=evF_ok hx
   split at e
   ·rename_i sz d z pls ht
    have hun:=(K.get _ _ ht).1
    cases hb:isAggT d with
    |true=>rw [hb] at e;cases e
    |false=>
     rw [hb] at e
     dsimp only [cond_false] at e
     simp only [Option.some.injEq] at e
     refine ⟨by unfold isAppend;rw [hop],by unfold opOk;rw [hop],?_⟩
     have:(Instr.loadAt t (.pointer (some a))).aro X.P h=some v:=by
      unfold Instr.loadAt
      rw [ro_bnd (show (Instr.sureAddr (.pointer (some a))).aro X.P h=some a from rfl)]
      unfold loadVar
      have hagg:(isAgg t).aro X.P h=some (isAggT d):=by
       unfold isAgg
       rw [ro_bnd (ro_under hun)]
       dsimp only
       cases d<;>rfl
      rw [ro_bnd hagg,hb]
      simp only [Bool.false_eq_true,if_false]
      unfold load
      rw [Sem.aro.eq_def]
      dsimp only
      rw [cellF_some e]
      rfl
     unfold execOp
     rw [hop]
     dsimp only
     rw [e1]
     exact ro_bnd this
   ·cases e
  ·cases e
 ·cases e
theorem afinC_some{b:Bool}{a:AFr}{f:AFr}(e:afinC X f h v=some (b,a))(hb:b=true):afinish X.P f h v=some a:=by
 unfold afinC at e
 split at e
 ·rename_i ops i c rest k ht
  split at e
  ·rename_i hk
   cases e
   unfold afinish
   rw [ht]
   dsimp only
   rw [if_pos ⟨hk,hb⟩]
  ·cases e
 ·split at e
  ·rename_i a' ha;cases e;exact ha
  ·cases e
theorem retC_some{b:Bool}(e:retC X s=some (b,s'))(hb:b=true):astep X.P plan none s=some (.go s'):=by
 unfold retC at e
 split at e
 ·rename_i c cs h1 h2 h3 h4
  split at e
  ·rename_i fn hf
   split at e
   ·rename_i v h hr
    split at e
    ·rename_i b' a ha
     cases e
     have:=afinC_some ha hb
     unfold astep
     rw [h1]
     dsimp only
     unfold aunwind
     rw [h2]
     dsimp only
     rw [hf]
     dsimp only
     rw [hr]
     dsimp only
     unfold aret
     rw [h3,h4]
     simp [this]
    ·cases e
   ·cases e
  ·cases e
 ·cases e
theorem stepC_some{b:Bool}(e:stepC X s=some (b,s'))(hb:b=true):astep X.P plan none s=some (.go s'):=by
 unfold stepC at e
 split at e
 ·exact retC_some e hb
 ·rename_i hr
  split at e
  ·rename_i ops i again l k ht
   split at e
   ·rename_i o ho
    rw [nth_arr,show ((⟨ops.toList⟩:Array Oper))=ops from rfl] at ho
    split at e
    ·rename_i hw
     unfold astep
     rw [hr]
     dsimp only
     rw [ht]
     dsimp only
     rw [ho]
     dsimp only
     split at e
     ·rename_i hk
      rw [hk]
      dsimp only
      rw [if_pos hw]
      split at e
      ·rename_i v h hx
       split at e
       ·rename_i b' a ha
        cases e
        rw [hx]
        unfold aapply
        dsimp only
        rw [afinC_some ha hb]
        rfl
       ·cases e
      ·rename_i h hx
       split at e
       ·rename_i b' a ha
        cases e
        rw [hx]
        unfold aapply
        dsimp only
        rw [afinC_some ha hb]
        rfl
       ·cases e
      ·cases e
     ·rename_i hk
      rw [hk]
      dsimp only
      split at e
      ·rename_i d hd
       rw [hd]
       dsimp only
       split at e
       ·rename_i hlt
        rw [if_pos hlt,if_pos hw]
        split at e
        ·rename_i t hop
         split at e
         ·rename_i z hz
          cases e
          rw [hop]
          dsimp only
          rw [hz]
          dsimp only
          rw [if_pos hb]
         ·cases e
        ·rename_i t n ps hop
         split at e
         ·rename_i elem cells hbt
          split at e
          ·rename_i hok
           cases e
           rw [hop]
           dsimp only
           rw [hbt]
           dsimp only
           rw [hok,hb]
           rfl
          ·cases e
         ·cases e
        ·cases e
       ·cases e
      ·cases e
     ·cases e
    ·cases e
   ·cases e
  ·cases e
theorem callQ_some{f:FuncId}{args:Array Value}(e:callQ X s=some (f,args,h)):astep X.P plan none s=some (.go ⟨AFr.enter X.P f args,s.fr :: s.cs,h⟩):=by
 unfold callQ at e
 split at e
 ·rename_i ops i l k hr ht
  split at e
  ·rename_i o ho
   split at e
   ·rename_i hw
    split at e
    ·rename_i f' args' h' hx
     cases e
     rw [nth_arr,show ((⟨ops.toList⟩:Array Oper))=ops from rfl] at ho
     unfold astep
     rw [hr]
     dsimp only
     rw [ht]
     dsimp only
     rw [ho]
     dsimp only
     rw [if_pos hw,hx]
     rfl
    ·cases e
   ·cases e
  ·cases e
 ·rename_i ops i c l k hr ht
  split at e
  ·rename_i o ho
   split at e
   ·rename_i hw
    simp only [Bool.and_eq_true,decide_eq_true_eq] at hw
    split at e
    ·rename_i f' args' h' hx
     cases e
     rw [nth_arr,show ((⟨ops.toList⟩:Array Oper))=ops from rfl] at ho
     unfold astep
     rw [hr]
     dsimp only
     rw [ht]
     dsimp only
     rw [ho]
     dsimp only
     rw [hw.1]
     dsimp only
     rw [if_pos hw.2,hx]
     rfl
    ·cases e
   ·cases e
  ·cases e
 ·cases e
theorem tx_ok[Zeros X.P](ok:TXok X)(C:Cl X.P Q K G):∀(T:HT) (s:AS),tx X Q K T s→G s:=by
 have by_:∀ {s s':AS},To X.P plan s' s→G s' → G s:=fun k g=>C.runs _ ((k.bind fun s h=>by subst h;exact .here g).runs)
 have one:∀ {s s':AS},astep X.P plan none s=some (.go s')→G s' → G s:=fun e g=>by_ (AReach.one e (.here rfl)) g
 intro T
 induction T with
 |no=>intro s k;exact k.elim
 |ret n m=>
  intro s k
  unfold tx at k
  split at k
  ·rename_i v hv
   refine C.ret s v (fun R hR=>?_) k
   unfold finF at hv
   split at hv
   ·rename_i s₁ h₁
    split at hv
    ·rename_i v' h' h₂
     cases hv
     exact (frunF_go ok.T ok.Fu n h₁).all (arun_all m h₂ (hR _))
    ·cases hv
   ·cases hv
  ·exact k.elim
 |cut n m=>
  intro s k
  unfold tx at k
  split at k
  ·rename_i s₁ h₁;exact by_ (gotoF_reach ok h₁) (C.cut _ k)
  ·exact k.elim
 |br n m t a b iha ihb=>
  intro s k
  unfold tx at k
  split at k
  ·rename_i s₁ h₁
   refine by_ (gotoF_reach ok h₁) ?_
   split at k
   ·rename_i c hc
    cases c with
    |true=>have:=k.1 rfl;rw [setT_same hc] at this;exact iha _ this
    |false=>have:=k.2 rfl;rw [setT_same hc] at this;exact ihb _ this
   ·exact k.elim
  ·exact k.elim
 |val n m t k ih=>
  intro s k
  unfold tx at k
  split at k
  ·rename_i s₁ h₁
   refine by_ (gotoF_reach ok h₁) ?_
   split at k
   ·rename_i κ e hc
    have:=k e rfl
    rw [setT_same hc] at this
    exact ih _ this
   ·exact k.elim
  ·exact k.elim
 |spl n m t c a b iha ihb=>
  intro s k
  unfold tx at k
  split at k
  ·rename_i s₁ h₁
   refine by_ (gotoF_reach ok h₁) ?_
   split at k
   ·rename_i κ e hc
    by_cases he:e=c
    ·subst he
     have:=k.1 rfl
     rw [setT_same hc] at this
     exact iha _ this
    ·exact ihb _ (k.2 he)
   ·exact k.elim
  ·exact k.elim
 |ov n m k ih=>
  intro s k
  unfold tx at k
  split at k
  ·rename_i s₁ h₁
   refine by_ (gotoF_reach ok h₁) ?_
   split at k
   ·rename_i o ho
    split at k
    ·rename_i p v hv
     split at k
     ·rename_i s₂ hs
      obtain ⟨x1,x2,x3⟩:=ovF_ok (h:=s₁.h) ok.T hv k.1
      exact one (ov_step ho x1 x2 x3 hs) (ih _ k.2)
     ·exact k.elim
    ·exact k.elim
   ·exact k.elim
  ·exact k.elim
 |lod n m κ k ih=>
  intro s k
  unfold tx at k
  split at k
  ·rename_i s₁ h₁
   refine by_ (gotoF_reach ok h₁) ?_
   split at k
   ·rename_i o ho
    split at k
    ·rename_i u hu
     obtain ⟨x,rfl,k⟩:=k
     split at k
     ·rename_i s₂ hs
      obtain ⟨x1,x2,x3⟩:=ldF_ok ok.T hu
      exact one (ov_step ho x1 x2 x3 hs) (ih _ k)
     ·exact k.elim
    ·exact k.elim
   ·exact k.elim
  ·exact k.elim
 |lodB n m k ih=>
  intro s k
  unfold tx at k
  split at k
  ·rename_i s₁ h₁
   refine by_ (gotoF_reach ok h₁) ?_
   split at k
   ·rename_i o ho
    split at k
    ·rename_i u hu
     obtain ⟨x,rfl,k⟩:=k
     split at k
     ·rename_i s₂ hs
      obtain ⟨x1,x2,x3⟩:=ldF_ok ok.T hu
      exact one (ov_step ho x1 x2 x3 hs) (ih _ k)
     ·exact k.elim
    ·exact k.elim
   ·exact k.elim
  ·exact k.elim
 |calli n m i k ih=>
  intro s k
  unfold tx at k
  split at k
  ·rename_i s₁ h₁
   refine by_ (gotoF_reach ok h₁) ?_
   split at k
   ·rename_i f args h hq
    refine one (callQ_some hq) (C.runs _ ((ok.Γ _ _ _ _ _ k s₁.fr s₁.cs fun v hv=>?_).bind ?_))
    ·split at hv
     ·rename_i c a ha;exact ⟨a,afinC_some ha hv.1⟩
     ·exact hv.elim
    ·rintro s' ⟨v,a',hv,ha',rfl⟩
     split at hv
     ·rename_i c a ha
      rw [afinC_some ha hv.1] at ha'
      cases ha'
      exact Runs.here (ih _ hv.2)
     ·exact hv.elim
   ·exact k.elim
  ·exact k.elim
 |rk n m k ih=>
  intro s k
  unfold tx at k
  split at k
  ·rename_i s₁ h₁
   refine by_ (gotoF_reach ok h₁) ?_
   split at k
   ·rename_i c s₂ hq
    exact one (stepC_some hq k.1) (ih _ k.2)
   ·exact k.elim
  ·exact k.elim
 |cas n m t v a b iha ihb=>
  intro s k
  unfold tx at k
  split at k
  ·rename_i s₁ h₁
   refine by_ (gotoF_reach ok h₁) ?_
   split at k
   ·rename_i u hc
    by_cases he:u=v
    ·subst he
     have:=k.1 rfl
     rw [setT_same hc] at this
     exact iha _ this
    ·exact ihb _ (k.2 he)
   ·exact k.elim
  ·exact k.elim
theorem tx_rets[Zeros X.P](ok:TXok X){Q':Value→AH→Prop}(T:HT)(k:tx X (fun v=>∀h,Q' v h) (fun s=>Rets X.P Q' s) T s):Rets X.P Q' s:=
 tx_ok (G:=fun s=>Rets X.P Q' s) ok ⟨fun s r=>r.rets fun _ x=>x,fun s v ha hq=>(ha Q' hq).rets,fun s x=>x⟩ T s k
theorem tx_runs[Zeros X.P](ok:TXok X)(T:HT)(k:tx X (fun _=>False) K T s):Runs X.P K s:=
 tx_ok (G:=fun s=>Runs X.P K s) ok ⟨fun s r=>r.bind fun _ x=>x,fun s v ha hq=>hq.elim,fun s x=>Runs.here x⟩ T s k
end
theorem BR.mk{p:Prop}[Decidable p]{A B:Prop}(a:p→A)(b:¬p→B):BR (decide p) A B:=⟨fun h=>a (of_decide_eq_true h),fun h=>b (of_decide_eq_false h)⟩
theorem RK.mk{A:Prop}(a:A):RK true A:=⟨rfl,a⟩
theorem SP.mk{e c:Int}{A B:Prop}(a:e=c→A)(b:¬e=c→B):SP e c A B:=⟨a,b⟩
end Go.Am
namespace Go.Am
theorem txR_use{X:TX}(ok:TXok X){Q:Value→AH→Prop}{T:HT}{s:AS}{N:Prop}(e:tx X (fun v=>∀h,Q v h) (fun s=>Rets X.P Q s) T s=N)(k:N):Rets X.P Q s:=haveI:=ok.Z;tx_rets ok T (e ▸ k)
theorem txK_use{X:TX}(ok:TXok X){K:AS→Prop}{T:HT}{s:AS}{N:Prop}(e:tx X (fun _=>False) K T s=N)(k:N):Runs X.P K s:=haveI:=ok.Z;tx_runs ok T (e ▸ k)
section
variable{p:Prop}[Decidable p]{A B:Prop}{a b c e:Int}{F:Int→Prop}
theorem BR.l(h:p)(k:A):BR (decide p) A B:=BR.mk (fun _=>k) fun n=>absurd h n
theorem BR.r(h:¬p)(k:B):BR (decide p) A B:=BR.mk (fun y=>absurd y h) fun _=>k
theorem BR.nm(k:¬p→A)(l:p→B):BR (!decide p) A B:=⟨fun h=>k (by simpa using h),fun h=>l (by simpa using h)⟩
theorem BR.nl(h:¬p)(k:A):BR (!decide p) A B:=BR.nm (fun _=>k) fun y=>absurd y h
theorem BR.nr(h:p)(k:B):BR (!decide p) A B:=BR.nm (fun y=>absurd h y) fun _=>k
theorem SP.l(h:e=c)(k:A):SP e c A B:=⟨fun _=>k,fun n=>absurd h n⟩
theorem vw(h1 : -9223372036854775808≤e)(h2:e≤9223372036854775807)(k:∀x,x=e→F x):∀x,x=IntKind.i64.wrap e→F x:=fun x hx=>k x (by rw [hx,wr_id h1 h2])
theorem mul_bd(h1 : -3000000≤a)(h2:a≤3000000)(h3 : -3000000≤b)(h4:b≤3000000) : -9000000000000≤a * b∧a * b≤9000000000000:=by
 have k1:0≤(3000000 - a) * (3000000 - b):=Int.mul_nonneg (by omega) (by omega)
 have k2:0≤(3000000+a) * (3000000+b):=Int.mul_nonneg (by omega) (by omega)
 have k3:0≤(3000000 - a) * (3000000+b):=Int.mul_nonneg (by omega) (by omega)
 have k4:0≤(3000000+a) * (3000000 - b):=Int.mul_nonneg (by omega) (by omega)
 rw [Int.sub_mul,Int.mul_sub,Int.mul_sub] at k1
 rw [Int.add_mul,Int.mul_add,Int.mul_add] at k2
 rw [Int.sub_mul,Int.mul_add,Int.mul_add] at k3
 rw [Int.add_mul,Int.mul_sub,Int.mul_sub] at k4
 constructor<;>omega
theorem vm(h1 : -3000000≤a)(h2:a≤3000000)(h3 : -3000000≤b)(h4:b≤3000000)(k:∀x,x=a * b → -9000000000000≤x→x≤9000000000000→F x):∀x,x=IntKind.i64.wrap (a * b)→F x:=fun x hx=>by
 have h5:=mul_bd h1 h2 h3 h4
 rw [wr_id (by omega) (by omega)] at hx
 exact k x hx (by omega) (by omega)
theorem tdiv_bd(hb:0 < b)(h1 : -9000000000000≤a)(h2:a≤9000000000000) : -9000000000000≤Int.tdiv a b∧Int.tdiv a b≤9000000000000:=by
 have h3:(Int.tdiv a b).natAbs≤a.natAbs:=by rw [Int.natAbs_tdiv];exact Nat.div_le_self _ _
 omega
theorem tdiv_nn{b:Int}(hb:0 < b)(h:0≤a):0≤Int.tdiv a b∧Int.tdiv a b≤a:=by
 rw [Int.tdiv_eq_ediv_of_nonneg h]
 exact ⟨Int.ediv_nonneg h (Int.le_of_lt hb),Int.ediv_le_self _ h⟩
theorem vq(hb:0 < b)(h : -9000000000000≤a∧a≤9000000000000)(k:∀x,x=Int.tdiv a b→(-9000000000000≤x∧x≤9000000000000∧(0≤a→0≤x∧x≤a))→F x):∀x,x=IntKind.i64.wrap (Int.tdiv a b)→F x:=fun x hx=>by
 have h5:=tdiv_bd hb h.1 h.2
 rw [wr_id (by omega) (by omega)] at hx
 exact k x hx ⟨by omega,by omega,fun h6=>by rw [hx];exact tdiv_nn hb h6⟩
theorem tmod_bd(hb:0 < b) : -b < Int.tmod a b∧Int.tmod a b < b∧(0≤a→0≤Int.tmod a b):=by
 refine ⟨?_,Int.tmod_lt_of_pos a hb,fun h=>Int.tmod_nonneg b h⟩
 by_cases h:0≤a
 ·have:=Int.tmod_nonneg b h;omega
 ·have h1:=Int.tmod_lt_of_pos (-a) hb
  rw [Int.neg_tmod] at h1
  omega
theorem vr(hb:0 < b)(k:∀x,x=Int.tmod a b→(-b < x∧x < b∧(0≤a→0≤x))→F x):∀x,x=Int.tmod a b→F x:=fun x hx=>k x hx (by rw [hx];exact tmod_bd hb)
theorem BR.ll(k:A)(h:p:=by omega):BR (decide p) A B:=BR.l h k
theorem BR.rr(k:B)(h:¬p:=by omega):BR (decide p) A B:=BR.r h k
theorem va(k:∀x,x=e→F x)(h1 : -9223372036854775808≤e:=by omega)(h2:e≤9223372036854775807:=by omega):∀x,x=IntKind.i64.wrap e→F x:=vw h1 h2 k
theorem vs(k:∀x,x=Int.tmod a b→(-b < x∧x < b∧(0≤a→0≤x))→F x)(hb:0 < b:=by omega):∀x,x=Int.tmod a b→F x:=vr hb k
abbrev wi(a:Int):Int:=IntKind.i64.wrap a
end
end Go.Am
namespace Go.Am
def rdB(B:Blk):Blk:={ B with ro:=true }
def hOf(nA:Nat)(L:List (Nat×Blk)):AH:=⟨nA,trL (L.map fun p=>(p.1,rdB p.2)),fmL (L.filterMap fun p=>p.2.fam.map fun f=>(f,[p.1]))⟩
def HB1(h:AH)(b:Nat)(B:Blk):Prop:=h.tr.get b=some B∧(match B.fam with|none=>true|some f=>((h.fams.get f).getD []).contains b)=true
def HBL(h:AH):List (Nat×Blk)→Prop
 | []=>True
 |p :: l=>HB1 h p.1 p.2∧HBL h l
structure StL(nA:Nat)(L:List (Nat×Blk)):Prop where
 lt:∀p∈L,p.1 < nA
 plain:∀p∈L,∃c e f,p.2.obj = .cells c e f∧∀x∈c,Plain x
 nodup:(L.map (·.1)).Nodup
theorem trL_mem:∀ {l:List (Nat×Blk)} {b:Nat} {B:Blk},(l.map (·.1)).Nodup→(b,B)∈l→(trL l).get b=some B
 |(c,C) :: l,b,B,hn,hm=>by
  unfold trL
  rw [Tr.get_set]
  simp only [List.map_cons,List.nodup_cons] at hn
  rcases List.mem_cons.1 hm with e|e
  ·cases e;rw [if_pos rfl]
  ·rw [if_neg,trL_mem hn.2 e]
   rintro rfl
   exact hn.1 (List.mem_map.2 ⟨_,e,rfl⟩)
theorem fmL_get:∀(l:List (Nat×List Nat)) {f:Nat} {m:List Nat},(fmL l).get f=some m→(f,m)∈l
 | [],f,m,e=>by cases e
 |(c,C) :: l,f,m,e=>by
  unfold fmL at e
  rw [Tr.get_set] at e
  split at e
  ·rename_i hb;subst hb;cases e;exact .head _
  ·exact .tail _ (fmL_get l e)
theorem HBL.mem{h:AH}:∀ {L:List (Nat×Blk)},HBL h L→∀p∈L,HB1 h p.1 p.2
 |q :: L,k,p,hp=>by
  rcases List.mem_cons.1 hp with e|e
  ·subst e;exact k.1
  ·exact HBL.mem k.2 p e
theorem StL.sub{nA:Nat}{L:List (Nat×Blk)}{h:AH}(S:StL nA L)(k:HBL h L):(hOf nA L).Sub h:=by
 have lk:∀b B,(hOf nA L).tr.get b=some B→∃B₀,(b,B₀)∈L∧B=rdB B₀:=fun b B e=>by
  have:=trL_get _ e
  obtain ⟨⟨b',B₀⟩,h1,h2⟩:=List.mem_map.1 this
  cases h2
  exact ⟨B₀,h1,rfl⟩
 have hl:∀b B₀,(b,B₀)∈L→h.look b=some B₀:=fun b B₀ hm=>by
  obtain ⟨h1,h2⟩:=HBL.mem k _ hm
  dsimp only at h1 h2
  unfold AH.look
  rw [h1]
  dsimp only
  cases hf:B₀.fam with
  |none=>rfl
  |some f=>
   rw [hf] at h2
   dsimp only at h2 ⊢
   rw [if_pos h2]
 have fl:∀f l,(hOf nA L).fams.get f=some l→∃b B₀,(b,B₀)∈L∧B₀.fam=some f∧l=[b]:=fun f l e=>by
  have:=fmL_get _ e
  obtain ⟨⟨b,B₀⟩,h1,h2⟩:=List.mem_filterMap.1 this
  dsimp only at h2
  cases hf:B₀.fam with
  |none=>rw [hf] at h2;cases h2
  |some g=>rw [hf] at h2;cases h2;exact ⟨b,B₀,h1,hf,rfl⟩
 refine ⟨fun b B e=>?_,fun b B e=>?_,fun b B e=>?_,fun f l e=>?_,fun f l b e hb=>?_⟩
 ·obtain ⟨B₀,h1,rfl⟩:=lk b B (look_tr e)
  exact ⟨B₀,hl b B₀ h1,rfl,rfl,rfl,rfl⟩
 ·obtain ⟨B₀,h1,rfl⟩:=lk b B (look_tr e)
  obtain ⟨c,e',f,h2,h3⟩:=S.plain _ h1
  exact ⟨c,e',f,h2,fun x hx=>(h3 x hx).okV⟩
 ·obtain ⟨B₀,h1,rfl⟩:=lk b B e
  exact ⟨B₀,(HBL.mem k _ h1).1,rfl⟩
 ·obtain ⟨b,B₀,h1,h2,rfl⟩:=fl f l e
  have h3:=(HBL.mem k _ h1).2
  dsimp only at h3
  rw [h2] at h3
  dsimp only at h3
  cases hg:h.fams.get f with
  |none=>rw [hg] at h3;simp at h3
  |some l'=>
   rw [hg] at h3
   exact ⟨l',rfl,List.singleton_sublist.2 (by simpa using h3)⟩
 ·obtain ⟨b',B₀,h1,h2,rfl⟩:=fl f l e
  obtain rfl:b=b' :=by simpa using hb
  refine ⟨S.lt _ h1,rdB B₀,trL_mem ?_ (List.mem_map.2 ⟨_,h1,rfl⟩),h2⟩
  rw [List.map_map]
  exact S.nodup
structure Ct where
 f:FuncId
 ext:Array Value→AH→List Int
 nA:Nat
 L:List Int→List (Nat×Blk)
 args:List Int→Array Value
 pre:List Int→Prop
 R:List Int→Int→Prop
 res:Int→Value
noncomputable section
def parOf(a:Array Value)(i:Nat):Int:=match nth a.toList i with
 |some (.int _ p)=>p
 |_=>0
def intsAt(h:AH)(v:Option Value):List Int:=match v with
 |some (.slice (some a) _ _)=>match h.tr.get a.block with
  |some ⟨.cells c _ _,_,_,_⟩=>List.rec [] (fun v _ ih=>(match v with | .int _ n=>n|_=>0) :: ih) c.toList
  |_=>[]
 |_=>[]
def aggI(n:Nat)(v:Option Value):List Int:=match v with
 |some (.agg c)=>List.rec (motive:=fun _=>Nat→List Int) (fun _=>[]) (fun v _ ih n=>match n with
  |0=>[]
  |n+1=>(match v with | .int _ x=>x|_=>0) :: ih n) c.toList n
 |_=>[]
def Ct.met(c:Ct)(a:Array Value)(h:AH)(p:List Int)(post:Value→Prop):Prop:=(a=c.args p∧HBL h (c.L p)∧c.pre p)∧∀x:Int,c.R p x→post (c.res x)
def ctG:List Ct→FuncId→Array Value→AH→(Value→Prop)→Prop
 | [],_,_,_,_=>False
 |c :: l,f,a,h,post=>bif Nat.beq f c.f then c.met a h (c.ext a h) post else ctG l f a h post
def ctI(l:List Ct):Nat→FuncId→Array Value→AH→(Value→Prop)→Prop
 |0=>ctG l
 |i+1=>fun f a h post=>match nth l i with
  |some c=>bif Nat.beq f c.f then c.met a h (c.ext a h) post else False
  |none=>False
end
structure CtOk(P:Program)(c:Ct):Prop where
 rets:∀p,c.pre p→Rets P (fun v _=>∃x,c.R p x∧v=c.res x) ⟨AFr.enter P c.f (c.args p),[],hOf c.nA (c.L p)⟩
 st:∀p,c.pre p→StL c.nA (c.L p)
 okA:∀p,∀x∈c.args p,OkV (· < c.nA) x
 okR:∀x,Plain (c.res x)
theorem CtOk.call{P:Program}[Zeros P]{c:Ct}(k:CtOk P c){a:Array Value}{h:AH}{p:List Int}{post:Value→Prop}(hp:c.met a h p post):CallOk P c.f a h post:=by
 obtain ⟨⟨h1,h2,h3⟩,h4⟩:=hp
 subst h1
 intro fr cs hfin
 refine (Runs.call (k.rets p h3) ((k.st p h3).sub h2) (k.okA p) (fun q hq v h' hv=>?_) (fun v h' hv=>?_)).mono ?_
 ·obtain ⟨x,_,rfl⟩:=hv
  exact (k.okR x).okV
 ·obtain ⟨x,hx,rfl⟩:=hv
  exact hfin _ (h4 x hx)
 ·rintro s ⟨v,h',a',⟨x,hx,rfl⟩,h5,rfl⟩
  exact ⟨_,a',h4 x hx,h5,rfl⟩
theorem ctG_ok{P:Program}[Zeros P]:∀ {l:List Ct},(∀c∈l,CtOk P c)→∀f a h post,ctG l f a h post→CallOk P f a h post
 | [],_,f,a,h,post,k=>k.elim
 |c :: l,hl,f,a,h,post,k=>by
  unfold ctG at k
  cases hf:Nat.beq f c.f with
  |true=>
   rw [hf] at k
   have:=Nat.eq_of_beq_eq_true hf
   subst this
   exact (hl c (.head _)).call k
  |false=>
   rw [hf] at k
   exact ctG_ok (fun c hc=>hl c (.tail _ hc)) f a h post k
theorem ctI_ok{P:Program}[Zeros P]{l:List Ct}(hl:∀c∈l,CtOk P c):∀i f a h post,ctI l i f a h post→CallOk P f a h post
 |0,f,a,h,post,k=>ctG_ok hl f a h post k
 |i+1,f,a,h,post,k=>by
  unfold ctI at k
  dsimp only at k
  split at k
  ·rename_i c hc
   cases hf:Nat.beq f c.f with
   |true=>
    rw [hf] at k
    have:=Nat.eq_of_beq_eq_true hf
    subst this
    rw [nth_eq] at hc
    exact (hl c (List.mem_of_getElem? hc)).call k
   |false=>rw [hf] at k;exact k.elim
  ·exact k.elim
theorem noCt{P:Program}:∀c∈([]:List Ct),CtOk P c:=fun c h=>absurd h List.not_mem_nil
theorem conCt{P:Program}{c:Ct}{l:List Ct}(h:CtOk P c)(k:∀c∈l,CtOk P c):∀d∈c :: l,CtOk P d:=fun d hd=>(List.mem_cons.1 hd).elim (fun e=>e ▸ h) (k d)
theorem lfn{V:Prop}{n:Int}(h:n≠0):∀_:AH,∃x:Int,(x=0→V)∧Value.int .i64 n = .int .i64 x:=fun _=>⟨n,fun e=>absurd e h,rfl⟩
theorem lf0{V:Prop}(h:V):∀_:AH,∃x:Int,(x=0→V)∧Value.int .i64 0 = .int .i64 x:=fun _=>⟨0,fun _=>h,rfl⟩
def AE(a:Array Value):Prop:=a=a
def BE(B:Blk):Prop:=some B=some B∧true=true
def bk(c:Array Value):Blk:=⟨.cells c 0 (0,0),none,true,1⟩
def E4(pc tc sc kc:Array Value):Prop:=BE (bk pc)∧BE (bk tc)∧BE (bk sc)∧BE (bk kc)∧True
theorem E4i{pc tc sc kc:Array Value}:E4 pc tc sc kc:=⟨⟨rfl,rfl⟩,⟨rfl,rfl⟩,⟨rfl,rfl⟩,⟨rfl,rfl⟩,trivial⟩
def L4(pc tc sc kc:Array Value):List (Nat×Blk):=[(0,bk pc),(1,bk tc),(2,bk sc),(3,bk kc)]
end Go.Am
namespace Go.Am
open Go.Conc (G Good)
open Go.Ren (At Leads Keep full)
noncomputable section
def endT(P:Program)(root:FuncId)(s:AS):Bool:=s.fr.ret && s.cs.isEmpty && notDrawn s.fr && s.fr.defers.isEmpty && !s.fr.dk && Nat.beq s.fr.fn root && match P.funcs[root]? with
 |some f=>(match (results f s.fr.tmps).ar P none s.h with
  |some (.bool b,_)=>b
  |_=>false)
 |none=>false
def endS(X:TX)(root:FuncId):Nat→AS→Bool
 |0,s=>endT X.P root s
 |k+1,s=>if endT X.P root s then true else match frunF X.P plan X.T X.Fu 1 s with
  |some (.go s')=>endS X root k s'
  |_=>false
def chkB(X:TX)(root chk:FuncId)(s:AS):Bool:=notDrawn s.fr && match xCallV X.P chk (.bool true) ⟨s.fr,s.cs,⟨s.h.n,.nil,.nil⟩⟩ with
 |some s'=>endS X root 9 s'
 |none=>false
abbrev ud:Value:=.tuple ⟨[]⟩
abbrev ur(n:Nat):List Value:=List.replicate n ud
def atFn(f:FuncId)(s:AS):Bool:=Nat.beq s.fr.fn f
end
noncomputable def KF(X:TX)(root chk:FuncId)(cut:AS→Bool)(l:List Nat)(s:AS):Prop:=bif cut s && notDrawn s.fr then Runs X.P (fun s=>chkB X root chk s=true) ⟨s.fr,s.cs,s.h.forget l⟩ else chkB X root chk s=true
theorem KF_runs{X:TX}{root chk:FuncId}{cut:AS→Bool}{l:List Nat}{s0:AS}(h:Runs X.P (fun s=>KF X root chk cut l s) s0):Runs X.P (fun s=>chkB X root chk s=true) s0:=h.bind fun s k=>by
 unfold KF at k
 cases hb:cut s && notDrawn s.fr<;>rw [hb] at k
 ·exact Runs.here k
 ·rw [Bool.and_eq_true] at hb
  exact (Runs.forget l hb.2).bind fun s' e=>by subst e;exact k
def Oracle(P:Program)(L:Go.Conc.Lib.WgLink)(fid:FuncId)(FinP:Machine→Outcome→World→Trace→Prop):Prop:=
 ∀ {b:Frame} {bs:List Frame} {F:Nat→Prop} {w₀:World} {m:Machine} {t:Trace},Stand P L (b :: bs) F w₀ .idle ⟨AFr.enter P fid #[],[],h0⟩ m t→Leads P FinP (Back P b bs F w₀ (.bool true)) m t
section
variable{X:TX}{root chk:FuncId}{s s' s0:AS}{W U Z F:Nat→Prop}{N:Nat}{ρ:Env}{w₀ w:World}{g:Goroutine}{m:Machine}{t:Trace}{Post:Value→World→Prop}{K:Machine→Trace→Prop}{L:Go.Conc.Lib.WgLink}
theorem endT_some{P:Program}(h:endT P root s=true):s.fr.ret=true∧s.cs=[]∧notDrawn s.fr=true∧s.fr.defers=[]∧s.fr.dk=false∧s.fr.fn=root∧∃f h₁,P.funcs[root]? = some f∧(results f s.fr.tmps).ar P none s.h=some (.bool true,h₁):=by
 unfold endT at h
 simp only [Bool.and_eq_true,Bool.not_eq_true'] at h
 obtain ⟨⟨⟨⟨⟨⟨h1,h2⟩,h3⟩,h4⟩,h5⟩,h6⟩,h7⟩:=h
 refine ⟨h1,List.isEmpty_iff.1 h2,h3,List.isEmpty_iff.1 h4,h5,Nat.eq_of_beq_eq_true h6,?_⟩
 split at h7
 ·rename_i f hf
  split at h7
  ·rename_i b h₁ hr
   subst h7
   exact ⟨f,h₁,hf,hr⟩
  ·cases h7
 ·cases h7
theorem endS_some(ok:TXok X):∀(k:Nat) {s:AS},endS X root k s=true→∃s',To X.P plan s' s∧endT X.P root s' = true
 |0,s,h=>⟨s,.here rfl,h⟩
 |k+1,s,h=>by
  unfold endS at h
  split at h
  ·rename_i he;exact ⟨s,.here rfl,he⟩
  ·split at h
   ·rename_i s₁ h₁
    obtain ⟨s',k1,k2⟩:=endS_some ok k h
    exact ⟨s',(frunF_go ok.T ok.Fu 1 h₁).bind fun _ e=>by subst e;exact k1,k2⟩
   ·cases h
theorem root_leads(ok:TXok X)(R:Runs X.P (fun s=>chkB X root chk s=true) s0)(orc:Oracle X.P L chk (Good X.P Post))(hp:plainFn X.P chk=true)(hin:X.P.inits.idxOf? root=none)(hP:∀w',Keep F w₀ w' → Post (.bool true) w')
  (S:Sr X.P [] F w₀ W U Z N ρ s0 g w m t):Leads X.P (Good X.P Post) K m t:=by
 haveI:=ok.Z
 refine (S.runs R).bind ?_
 rintro m t ⟨σ,s,g',w',hk,_,S'⟩
 unfold chkB at hk
 rw [Bool.and_eq_true] at hk
 obtain ⟨hd,hk⟩:=hk
 split at hk
 ·rename_i s₆ h₆
  obtain ⟨s₇,k1,k2⟩:=endS_some ok _ hk
  refine (Sd.callO (L:=L) hp (.bool true) orc (S'.sd hd) (xCallV_some h₆)).bind ?_
  rintro m t ⟨W',U',Z',N',σ',g₂,w₂,_,S₂⟩
  refine (S₂.reach (K:=(· = s₇)) k1).bind ?_
  rintro m t ⟨τ,s'',g₃,w₃,rfl,_,S₃,_⟩
  obtain ⟨e1,e2,e3,e4,e5,e6,f,h₁,e7,e8⟩:=endT_some k2
  exact S₃.ends e2 e3 e1 e4 e5 (by rw [e6];exact e7) e8 (by rw [e6];exact hin) (.bool true) hP
 ·cases hk
end
end Go.Am
namespace Go.Am
open Go.Proofs
noncomputable def Tryz.tT:Tr TI:=tabT Tryz.prog Tryz.prog.types.toList 0
noncomputable def Tryz.tF:Tr Func:=tabF Tryz.prog.funcs.toList 0
noncomputable def at_(f:Nat)(p:List Nat):Code:=codeAt (bodyIn Tryz.tF f) p
noncomputable def opsAt(f:Nat)(p:List Nat):Array Oper:=opsIn Tryz.tF f p
abbrev Tryz.link:Go.Conc.Lib.WgLink:={ add:=114,done:=116,wait:=120,relMerge:=138,disable:=139,enable:=140,inBubble:=141,associate:=142,fatal:=143,uOr:=144,uAdd:=145,raceRead:=146,uLoad:=147,uStore:=148,disassociate:=149,semrelease:=150,acquire:=155,isAssociated:=156,uCas:=157,raceWrite:=158,semacquire:=159,orU64:=176,addU64:=177,loadU64:=178,storeU64:=179,casU64:=184,tWgP:=214,tUP:=216,tAssoc:=217,tWg:=200,tAU:=198,tU64:=196,tUint:=205,tU32:=189,tPU32:=221,tPAU:=258,tPU64:=260,tNoCopy:=188,tANoCopy:=194,tAlign64:=195 }
abbrev Tryz.mx:Go.Mx.MxLink:={ mu:={ lock:=118,unlock:=119,ilock:=153,iunlock:=154,lockSlow:=181,unlockSlow:=183,disable:=139,enable:=140,acquire:=155,relMerge:=138,cas32:=180,add32:=182,tMutex:=193,tIMutex:=191,tPMutex:=228,tPIMutex:=263,tPI32:=265,tUP:=216,tNoCopy:=188,tU32:=189 },canSpin:=206,doSpin:=207,throw:=208,nano:=209,semacq:=210,fatal:=211,semrel:=212,tPU32:=221,tUint:=205 }
end Go.Am
namespace Go.Am
theorem forIn_inv{α β:Type}{I:β→Prop}{f:α→β→Option (ForInStep β)}(hf:∀a b r,I b→f a b=some r→I r.value):∀(l:List α) {b c:β},I b→forIn l b f=some c→I c
 | [],b,c,hb,h=>by
  rw [List.forIn_nil] at h
  cases h
  exact hb
 |a :: l,b,c,hb,h=>by
  rw [List.forIn_cons] at h
  simp only [bind,Option.bind_eq_some_iff] at h
  obtain ⟨r,hr,h⟩:=h
  have hi:=hf a b r hb hr
  cases r with
  |done x=>cases h;exact hi
  |yield x=>exact forIn_inv hf l hi h
theorem cells_plain{z:Value}(h:Plain z):∀x∈z.cells,Plain x:=by
 intro x hx
 obtain ⟨h1,h2⟩:=vr_cells h
 obtain ⟨i,hi⟩:=Array.getElem?_of_mem hx
 exact h2 i x x hi hi
theorem step_zero{b:Option (Array Value)}{i:TypeInfo}{n:Nat}(hp:∀z,i.zero=some z→Plain z)(hb:∀a,b=some a→∀x∈a,Plain x):∀a,(if n > Made.mostCells then none else b.bind fun u=>i.zero.bind fun z=>some (u ++ z.cells))=some a→∀x∈a,Plain x:=by
 intro a h x hx
 split at h
 ·cases h
 ·simp only [Option.bind_eq_some_iff] at h
  obtain ⟨u,h1,z,h2,h3⟩:=h
  cases h3
  rcases Array.mem_append.1 hx with k|k
  ·exact hb u h1 x k
  ·exact cells_plain (hp z h2) x k
theorem struct_plain{info:TypeId→Option TypeInfo}{fs:Array Field}{i:TypeInfo}{z:Value}(hp:∀t i z,info t=some i→i.zero=some z→Plain z)(h:Made.reckonStruct info fs=some i)(hz:i.zero=some z):Plain z:=by
 unfold Made.reckonStruct at h
 simp only [bind,Option.bind_eq_some_iff,pure] at h
 obtain ⟨a,hl,h⟩:=h
 have key:∀u,a.2.2.2.2.2.2.2.1=some u→∀x∈u,Plain x:=by
  rw [←Array.forIn_toList] at hl
  refine forIn_inv (I:=fun s=>∀u,s.2.2.2.2.2.2.2.1=some u→∀x∈u,Plain x) (fun f b r hb hr=>?_) _ (fun u hu x hx=>?_) hl
  ·simp only [Option.bind_eq_some_iff] at hr
   obtain ⟨j,hj,hr⟩:=hr
   have hs:=fun n=>step_zero (n:=n) (i:=j) (fun z hz=>hp _ _ _ hj hz) hb
   repeat' first
    |(cases hr;exact hs _)
    |(cases hr;done)
    |(simp only [Option.bind_eq_some_iff] at hr;obtain ⟨_,_,hr⟩:=hr)
    |split at hr
    |(exact absurd hr (by simp))
  ·cases hu
   simp at hx
 have fin:∀ {z:Value},a.2.2.2.2.2.2.2.1.map .agg=some z→Plain z:=fun {z} hz=>by
  rw [Option.map_eq_some_iff] at hz
  obtain ⟨u,h1,rfl⟩:=hz
  exact plain_agg (key u h1)
 split at h<;>(cases h;exact fin hz)
theorem reckon_plain{info:TypeId→Option TypeInfo}{d:TypeDesc}{i:TypeInfo}{z:Value}(hp:∀t i z,info t=some i→i.zero=some z→Plain z)(h:Made.reckon info d=some i)(hz:i.zero=some z):Plain z:=by
 unfold Made.reckon at h
 split at h
 case h_7=>exact struct_plain hp h hz
 case h_6=>
  simp only [bind,Option.bind_eq_some_iff,pure] at h
  obtain ⟨j,hj,s,hs,h⟩:=h
  cases h
  dsimp only at hz
  split at hz
  ·cases hz
  ·split at hz
   ·cases hz
    exact plain_agg fun x hx=>by simp at hx
   ·rw [Option.map_eq_some_iff] at hz
    obtain ⟨u,h1,rfl⟩:=hz
    refine plain_agg fun x hx=>?_
    rw [Array.mem_flatten] at hx
    obtain ⟨xs,h2,h3⟩:=hx
    rw [Array.mem_replicate] at h2
    rw [h2.2] at h3
    exact cells_plain (hp _ _ _ hj h1) x h3
 all_goals try simp only [bind,Option.bind_eq_some_iff,pure] at h
 all_goals repeat' first
  |(obtain ⟨_,_,h⟩:=h)
  |(split at h)
 all_goals first
  |(cases hz;first|exact .nilptr|exact .nilslice _ _|exact .nilmap|exact .nilchan|exact .nilFunc)
  |(cases h;cases hz;first|exact .nilptr|exact .nilslice _ _|exact .nilmap|exact .nilchan|exact .nilFunc)
  |(cases h;done)
  |(exfalso;simp at h;done)
  |(simp only [Option.bind_eq_some_iff] at h;obtain ⟨_,_,h⟩:=h;cases h;cases hz;first|exact .nilptr|exact .nilslice _ _|exact .nilmap|exact .nilchan|exact .nilFunc)
def nilChan:Value→Bool
 | .chan none=>true
 |_=>false
def zeroOk(v:Value):Bool:=plainV 12 v || nilChan v
def zerosB(T:Tables):Bool:=T.types.toList.all fun i=>match i.zero with
 |some z=>zeroOk z
 |none=>true
theorem zeros_at{T:Tables}(h:zerosB T=true):∀(n:Nat) (t:TypeId) (i:TypeInfo) (z:Value),Made.infoAt T n t=some i→i.zero=some z→Plain z
 |0,t,i,z,e,_=>by cases e
 |n+1,t,i,z,e,hz=>by
  unfold Made.infoAt at e
  split at e
  ·unfold zerosB at h
   rw [List.all_eq_true] at h
   have:=h i (get_mem e)
   rw [hz] at this
   have this:zeroOk z=true:=this
   unfold zeroOk at this
   rw [Bool.or_eq_true] at this
   rcases this with k|k
   ·exact plain_of k
   ·unfold nilChan at k
    split at k
    ·exact .nilchan
    ·cases k
  ·simp only [Option.bind_eq_some_iff] at e
   obtain ⟨d,_,e⟩:=e
   exact reckon_plain (fun t i z h1 h2=>zeros_at h n t i z h1 h2) e hz
theorem zeros_of{P:Program}(h:zerosB P.toTables=true):Zeros P:=⟨fun t i z hi hz ρ=>by
 have hi':P.toTables.info? t=some i:=hi
 unfold Tables.info? at hi'
 split at hi'
 ·rename_i ht
  exact (zeros_at h 1 t i z (by unfold Made.infoAt;rw [if_pos ht];exact hi') hz).vr ρ
 ·exact (zeros_at h _ t i z hi' hz).vr ρ⟩
end Go.Am
namespace Go.Am
open Go.Proofs
theorem Tryz.wgLib:Go.Conc.Lib.WgLib Tryz.prog Tryz.link:=by
 constructor<;>first|kernel_rfl|(intro w;kernel_rfl)|skip
theorem Tryz.mxLib:Go.Mx.MxLib Tryz.prog Tryz.mx:=by
 constructor<;>first|kernel_rfl|(intro w;kernel_rfl)|(constructor<;>first|kernel_rfl|(intro w;kernel_rfl)|skip)|skip
theorem Tryz.waits:Waits Tryz.prog Tryz.link:=⟨Tryz.wgLib,by kernel_rfl,by kernel_rfl,by kernel_rfl⟩
theorem Tryz.tOk:TabOk Tryz.prog Tryz.tT:=tabT_ok
theorem Tryz.fOk:FunOk Tryz.prog Tryz.tF:=tabF_ok
instance Tryz.zeros:Zeros Tryz.prog:=zeros_of (by kernel_rfl)
end Go.Am
