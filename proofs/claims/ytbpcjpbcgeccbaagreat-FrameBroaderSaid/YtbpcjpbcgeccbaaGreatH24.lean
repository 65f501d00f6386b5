import Derived.Test.YtbpcjpbcgeccbaaGreatProg
import Derived.KernelRfl
import Derived.Conc.WgLib
import Derived.Test.YtbpcjpbcgeccbaaGreatH16
import Derived.Test.YtbpcjpbcgeccbaaGreatH23
set_option linter.unusedVariables false
set_option linter.unusedSectionVars false
set_option linter.unusedSimpArgs false
namespace Go.Am
inductive HT where
 |no
 |ret (n m:Nat)
 |cut (n m:Nat)
 |br (n m t:Nat) (a b:HT)
 |val (n m t:Nat) (k:HT)
 |V5 (n m t:Nat) (c:Int) (a b:HT)
 |ov (n m:Nat) (k:HT)
 |GR (n m:Nat) (κ:IntKind) (k:HT)
 |aeF (n m:Nat) (k:HT)
 |dY (n m i:Nat) (k:HT)
 |rk (n m:Nat) (k:HT)
 |cas (n m t:Nat) (v:Value) (a b:HT)
abbrev HT.call(n m:Nat)(k:HT):HT:=.dY n m 0 k
noncomputable section
structure TX where
 P:Program
 T:Tr TI
 Fu:Tr Func
 Γ:Nat→FuncId→Array Value→AH→(Value→Prop)→Prop
variable(X:TX)
def qN(n m:Nat)(s:AS):Option AS:=match Bl X.P plan X.T X.Fu n s with
 |some (.go s₁)=>match xY X.P plan m s₁ with
  |some (.go s₂)=>some s₂
  |_=>none
 |_=>none
def aeG(n m:Nat)(s:AS):Option Value:=match Bl X.P plan X.T X.Fu n s with
 |some (.go s₁)=>match xY X.P plan m s₁ with
  |some (.ret v _)=>some v
  |_=>none
 |_=>none
def LU(s:AS)(t:Nat)(v:Value):AS:=qQ v s.fr.tmps.toList t fun l=>⟨⟨s.fr.fn,⟨l⟩,s.fr.todo,s.fr.defers,s.fr.ret,s.fr.round,s.fr.dk⟩,s.cs,s.h⟩
def BR(c:Bool)(A B:Prop):Prop:=(c=true→A)∧(c=false→B)
def RK(c:Bool)(A:Prop):Prop:=c=true∧A
def SP(e c:Int)(A B:Prop):Prop:=(e=c→A)∧(¬e=c→B)
def CS(p A B:Prop):Prop:=(p→A)∧(¬p→B)
def opQ(s:AS):Option Oper:=match s.fr.ret,s.fr.todo with
 |false,.region ops (i :: _) :: _=>match nth ops.toList i with
  |some o=>if Region.wanted o (yielded ops s.fr.tmps) && bu o then some o else none
  |none=>none
 |false,.drawn ops ((i,_) :: _) :: _=>match nth ops.toList i with
  |some o=>if Region.wanted o (yielded ops s.fr.tmps) && bu o && decide (aG ops i = .eG) then some o else none
  |none=>none
 |_,_=>none
def LV(s:AS)(v:Value):Option AS:=match s.fr.todo with
 | .region ops (i :: l) :: k=>match nth ops.toList i with
  |some o=>match o.dst with
   |some d=>some (qQ v s.fr.tmps.toList d fun t=>⟨⟨s.fr.fn,⟨t⟩,.region ops l :: k,s.fr.defers,s.fr.ret,s.fr.round,s.fr.dk⟩,s.cs,s.h⟩)
   |none=>none
  |none=>none
 | .drawn ops ((i,_) :: l) :: k=>match nth ops.toList i with
  |some o=>match o.dst with
   |some d=>bif Nat.blt d s.fr.tmps.toList.length then some (qQ v s.fr.tmps.toList d fun t=>⟨⟨s.fr.fn,⟨t⟩,.drawn ops l :: k,s.fr.defers,s.fr.ret,s.fr.round,s.fr.dk⟩,s.cs,s.h⟩) else none
   |none=>none
  |none=>none
 |_=>none
def ovF(T:Tr TI)(tmps:List Value)(op:Op):Option (Prop×Value):=match op with
 | .indexAddr t x i=>match vO tmps x,vO tmps i with
  |some (.slice (some ⟨b,off,none⟩) len _),some (.int _ n)=>match T.get t with
   |some ⟨_,.slice e,_,_⟩=>match T.get e with
    |some ⟨sz,_,_,_⟩=>some (0≤n∧n < len,.pointer (some ⟨b,off+n.toNat * sz,none⟩))
    |none=>none
   |_=>none
  |_,_=>none
 | .binOp op _ x y _=>match vO tmps x,vO tmps y with
  |some (.int k a),some (.int k' b)=>if k=k' then match op with
   | .quo=>some (b≠0,.int k (k.wrap (a.tdiv b)))
   | .rem=>some (b≠0,.int k (a.tmod b))
   |_=>none else none
  |_,_=>none
 |_=>none
def ldF(T:Tr TI)(h:AH)(tmps:List Value)(op:Op):Option (Option Value):=match op with
 | .load t x=>match vO tmps x with
  |some (.pointer (some a))=>match T.get t with
   |some ⟨_,d,_,_⟩=>bif xP d then none else some (Nl h a)
   |none=>none
  |_=>none
 |_=>none
def UM(s:AS):Option (FuncId×Array Value×AH):=match s.fr.ret,s.fr.todo with
 |false,.region ops (i :: _) :: _=>match nth ops.toList i with
  |some o=>if Region.wanted o (yielded ops s.fr.tmps) then match bf X.P none s.h s.fr.tmps o with
   |some (.enter f args,h)=>some (f,args,h)
   |_=>none else none
  |none=>none
 |false,.drawn ops ((i,_) :: _) :: _=>match nth ops.toList i with
  |some o=>if decide (aG ops i = .effect) && Region.wanted o (yielded ops s.fr.tmps) then match bf X.P none s.h s.fr.tmps o with
   |some (.enter f args,h)=>some (f,args,h)
   |_=>none else none
  |none=>none
 |_,_=>none
def ER(f:aB)(h:AH)(v:Value):Option (Bool×aB):=match f.todo with
 | .drawn ops ((i,c) :: rest) :: k=>if aG ops i = .effect then some (recheck X.P ops c (dD f.tmps (bC ops i) v) h,{ f with tmps:=dD f.tmps (bC ops i) v,todo:=.drawn ops rest :: k }) else none
 |_=>match az X.P f h v with
  |some a=>some (true,a)
  |none=>none
def aa3(s:AS):Option (Bool×AS):=match s.fr.ret,s.fr.defers,s.fr.dk,s.cs with
 |true,[],false,c :: cs=>match X.P.funcs[s.fr.fn]? with
  |some fn=>match (results fn s.fr.tmps).ar X.P none s.h with
   |some (v,h)=>match ER X c h v with
    |some (b,a)=>some (b,⟨a,cs,h⟩)
    |none=>none
   |none=>none
  |none=>none
 |_,_,_,_=>none
def UN(s:AS):Option (Bool×AS):=match s.fr.ret with
 |true=>aa3 X s
 |false=>match s.fr.todo with
  | .drawn ops ((i,again) :: l) :: k=>match nth ops.toList i with
   |some o=>if Region.wanted o (yielded ops s.fr.tmps) then match aG ops i with
    | .effect=>match bf X.P none s.h s.fr.tmps o with
     |some (.value v,h)=>match ER X s.fr h v with
      |some (b,a)=>some (b,⟨a,s.cs,h⟩)
      |none=>none
     |some (.skip,h)=>match ER X s.fr h undef with
      |some (b,a)=>some (b,⟨a,s.cs,h⟩)
      |none=>none
     |_=>none
    | .alloc=>match o.dst with
     |some d=>if d < s.fr.tmps.size then match o.op with
      | .alloc t=>match zeroOf X.P t with
       |some z=>some (recheck X.P ops again (s.fr.tmps.setIfInBounds d (.pointer (some ⟨s.h.n,0,none⟩))) (s.h.new (.cells z.cells t (0,0))),
         {s with fr:={ s.fr with tmps:=s.fr.tmps.setIfInBounds d (.pointer (some ⟨s.h.n,0,none⟩)),todo:=.drawn ops l :: k },h:=s.h.new (.cells z.cells t (0,0)) })
       |none=>none
      | .buildSlice t n ps=>match jh X.P (ax s.fr.tmps) t n ps with
       |some (elem,cells)=>if bu o then some (recheck X.P ops again (s.fr.tmps.setIfInBounds d (.slice (some ⟨s.h.n,0,none⟩) n n)) (s.h.new (.cells cells elem (0,0))),
         {s with fr:={ s.fr with tmps:=s.fr.tmps.setIfInBounds d (.slice (some ⟨s.h.n,0,none⟩) n n),todo:=.drawn ops l :: k },h:=s.h.new (.cells cells elem (0,0)) }) else none
       |none=>none
      |_=>none else none
     |none=>none
    | .eG=>none else none
   |none=>none
  |_=>none
def tx(Q:Value→Prop)(K:AS→Prop):HT→AS→Prop
 | .no,_=>False
 | .ret n m,s=>match aeG X n m s with
  |some v=>Q v
  |none=>False
 | .cut n m,s=>match qN X n m s with
  |some s=>K s
  |none=>False
 | .br n m t a b,s=>match qN X n m s with
  |some s=>match nth s.fr.tmps.toList t with
   |some (.bool c)=>BR c (tx Q K a (LU s t (.bool true))) (tx Q K b (LU s t (.bool false)))
   |_=>False
  |none=>False
 | .val n m t k,s=>match qN X n m s with
  |some s=>match nth s.fr.tmps.toList t with
   |some (.int κ e)=>∀x:Int,x=e→tx Q K k (LU s t (.int κ x))
   |_=>False
  |none=>False
 | .V5 n m t c a b,s=>match qN X n m s with
  |some s=>match nth s.fr.tmps.toList t with
   |some (.int κ e)=>SP e c (tx Q K a (LU s t (.int κ c))) (tx Q K b s)
   |_=>False
  |none=>False
 | .ov n m k,s=>match qN X n m s with
  |some s=>match opQ s with
   |some o=>match ovF X.T s.fr.tmps.toList o.op with
    |some (p,v)=>match LV s v with
     |some s=>p∧tx Q K k s
     |none=>False
    |none=>False
   |none=>False
  |none=>False
 | .GR n m κ k,s=>match qN X n m s with
  |some s=>match opQ s with
   |some o=>match ldF X.T s.h s.fr.tmps.toList o.op with
    |some u=>∃x:Int,u=some (.int κ x)∧match LV s (.int κ x) with
     |some s=>tx Q K k s
     |none=>False
    |none=>False
   |none=>False
  |none=>False
 | .aeF n m k,s=>match qN X n m s with
  |some s=>match opQ s with
   |some o=>match ldF X.T s.h s.fr.tmps.toList o.op with
    |some u=>∃x:Bool,u=some (.bool x)∧match LV s (.bool x) with
     |some s=>tx Q K k s
     |none=>False
    |none=>False
   |none=>False
  |none=>False
 | .dY n m i k,s=>match qN X n m s with
  |some s=>match UM X s with
   |some (f,args,h)=>X.Γ i f args h fun v=>match ER X s.fr h v with
    |some (c,a)=>RK c (tx Q K k ⟨a,s.cs,h⟩)
    |none=>False
   |none=>False
  |none=>False
 | .rk n m k,s=>match qN X n m s with
  |some s=>match UN X s with
   |some (c,s)=>RK c (tx Q K k s)
   |none=>False
  |none=>False
 | .cas n m t v a b,s=>match qN X n m s with
  |some s=>match nth s.fr.tmps.toList t with
   |some u=>CS (u=v) (tx Q K a (LU s t v)) (tx Q K b s)
   |none=>False
  |none=>False
end
def GU(P:Program)(f:FuncId)(args:Array Value)(h:AH)(post:Value→Prop):Prop:=
 ∀(c:aB) (cs:List aB),(∀v,post v→∃a',az P c h v=some a')→bZ P (fun s'=>∃v a',post v∧az P c h v=some a' ∧ s' = ⟨a',cs,h⟩) ⟨aB.enter P f args,c :: cs,h⟩
structure Cl(P:Program)(Q:Value→Prop)(K:AS→Prop)(G:AS→Prop):Prop where
 runs:∀s,bZ P G s→G s
 ret:∀s v,(∀R:Value→AH→Prop,(∀h,R v h)→jW P plan R s)→Q v→G s
 cut:∀s,K s→G s
structure GV(X:TX):Prop where
 Z:aI X.P
 T:aW X.P X.T
 Fu:fZ X.P X.Fu
 Γ:∀i f args h post,X.Γ i f args h post→GU X.P f args h post
section
variable{X:TX}{Q:Value→Prop}{K G:AS→Prop}{s s':AS}{n m t:Nat}{v:Value}{c:aB}{cs:List aB}{h:AH}
theorem pz(e:nth s.fr.tmps.toList t=some v):LU s t v=s:=by
 unfold LU
 rw [jF]
 rw [iU] at e
 have:s.fr.tmps.toList.set t v=s.fr.tmps.toList:=by
  apply List.ext_getElem?
  intro i
  rw [List.getElem?_set]
  split
  ·rename_i hi;subst hi
   split
   ·exact e.symm
   ·rename_i hl;rw [List.getElem?_eq_none (by omega)] at e;cases e
  ·rfl
 rw [this]
theorem dU(ok:GV X)(e:qN X n m s=some s'):To X.P plan s' s:=by
 unfold qN at e
 split at e
 ·rename_i s₁ h₁
  split at e
  ·rename_i s₂ h₂
   cases e
   exact (rD ok.T ok.Fu n h₁).bind fun s h=>by subst h;exact ig m h₂ (.here rfl)
  ·cases e
 ·cases e
theorem UO{o:Oper}(e:opQ s=some o):s.fr.ret=false∧bu o=true∧((∃ops i l k,s.fr.todo = .region ops (i :: l) :: k∧ops[i]? = some o∧Region.wanted o (yielded ops s.fr.tmps)=true) ∨
  ∃ops i c l k,s.fr.todo = .drawn ops ((i,c) :: l) :: k∧ops[i]? = some o∧Region.wanted o (yielded ops s.fr.tmps)=true∧aG ops i = .eG):=by
 unfold opQ at e
 split at e
 ·rename_i ops i l k hr ht
  split at e
  ·rename_i o' ho
   split at e
   ·rename_i hc
    cases e
    rw [Bool.and_eq_true] at hc
    rw [iU] at ho
    exact ⟨hr,hc.2,.inl ⟨ops,i,l,k,ht,by simpa using ho,hc.1⟩⟩
   ·cases e
  ·cases e
 ·rename_i ops i c l k hr ht
  split at e
  ·rename_i o' ho
   split at e
   ·rename_i hc
    cases e
    simp only [Bool.and_eq_true,decide_eq_true_eq] at hc
    rw [iU] at ho
    exact ⟨hr,hc.1.2,.inr ⟨ops,i,c,l,k,ht,by simpa using ho,hc.1.1,hc.2⟩⟩
   ·cases e
  ·cases e
 ·cases e
theorem OA(a:Array Value)(d:Nat)(v:Value):(⟨a.toList.set d v⟩:Array Value)=a.setIfInBounds d v:=by
 apply Array.toList_inj.1
 simp
theorem GX{o:Oper}(e:opQ s=some o)(hap:bK o=false)(hk:mP X.P s.h (ax s.fr.tmps) o=true)(hx:(execOp (ax s.fr.tmps) o).fO X.P s.h=some (.value v))(hf:LV s v=some s'):aF X.P plan none s=some (.go s'):=by
 obtain ⟨h1,h2,h3⟩:=UO e
 rcases h3 with ⟨ops,i,l,k,ht,ho,hw⟩|⟨ops,i,c,l,k,ht,ho,hw,hl⟩
 ·have hex:bf X.P none s.h s.fr.tmps o=some (.value v,s.h):=by
   unfold bf
   rw [if_neg (by rw [hap];decide),if_pos (by rw [h2,hk];rfl)]
   exact Be _ hx
  unfold aF
  rw [h1]
  dsimp only
  rw [ht]
  dsimp only
  rw [ho]
  dsimp only
  rw [if_pos hw,hex]
  unfold LV at hf
  rw [ht] at hf
  dsimp only at hf
  rw [lJ] at hf
  rw [show ((⟨ops.toList⟩:Array Oper))=ops from rfl,ho] at hf
  dsimp only at hf
  split at hf
  ·rename_i d hd
   rw [jF] at hf
   cases hf
   unfold bI az
   dsimp only
   rw [ht]
   dsimp only
   rw [ho]
   simp only [Option.bind_some,Option.map_some,hd,dD,OA,h1]
  ·cases hf
 ·have hne:o.dst≠none:=by
   intro hd
   unfold LV at hf
   rw [ht] at hf
   dsimp only at hf
   rw [lJ] at hf
   rw [show ((⟨ops.toList⟩:Array Oper))=ops from rfl,ho] at hf
   dsimp only at hf
   rw [hd] at hf
   cases hf
  have hkl:kindOf o = .eG:=by rw [←ES ho (by rw [hl];intro x;cases x)];exact hl
  have hlv:gV X.P s.h s.fr.tmps o=some v:=by
   unfold gV
   rw [if_pos (by rw [h2,hk];rfl),hx]
  unfold LV at hf
  rw [ht] at hf
  dsimp only at hf
  rw [lJ] at hf
  rw [show ((⟨ops.toList⟩:Array Oper))=ops from rfl,ho] at hf
  dsimp only at hf
  split at hf
  ·rename_i d hd
   cases hb:Nat.blt d s.fr.tmps.toList.length with
   |false=>rw [hb] at hf;cases hf
   |true=>
    rw [hb,jF] at hf
    cases hf
    have hlt:d < s.fr.tmps.size:=by
     have h9:d+1≤s.fr.tmps.toList.length:=Nat.le_of_ble_eq_true hb
     exact Nat.le_trans h9 (Nat.le_of_eq (by simp))
    unfold aF
    rw [h1]
    dsimp only
    rw [ht]
    dsimp only
    rw [ho]
    dsimp only
    rw [hl]
    dsimp only
    rw [hd]
    dsimp only
    rw [if_pos hlt,if_pos hw]
    have na:∀t,o.op ≠ .alloc t:=fun t x=>by unfold kindOf at hkl;rw [x] at hkl;cases hkl
    have nb:∀t n ps,o.op ≠ .buildSlice t n ps:=fun t n ps x=>by unfold kindOf at hkl;rw [x] at hkl;cases hkl
    split
    ·rename_i t hop;exact absurd hop (na t)
    ·rename_i t n ps hop;exact absurd hop (nb t n ps)
    ·rw [hlv]
     dsimp only
     rw [OA]
     simp only [h1]
  ·cases hf
end
end Go.Am
namespace Go.Am
section
variable{X:TX}{Q:Value→Prop}{K G:AS→Prop}{s s':AS}{n m t:Nat}{v:Value}{c:aB}{cs:List aB}{h:AH}
theorem Cj{x:Operand}{tmps:Array Value}(e:vO tmps.toList x=some v):ax tmps x=v:=(kP (tmps:=tmps.toList) e).1
theorem add_plain(b off k:Nat):(⟨b,off,none⟩:Addr).add k=⟨b,off+k,none⟩:=by
 unfold Addr.add
 split
 ·rename_i h;rw [h];rfl
 ·rfl
theorem aa4(K:aW X.P X.T){o:Oper}{tmps:Array Value}{p:Prop}(e:ovF X.T tmps.toList o.op=some (p,v))(hp:p):bK o=false∧mP X.P h (ax tmps) o=true∧(execOp (ax tmps) o).fO X.P h=some (.value v):=by
 unfold ovF at e
 split at e
 ·rename_i t x i hop
  split at e
  ·rename_i b off len cap k n hx hi
   have e1:=Cj hx
   have e3:=Cj hi
   split at e
   ·rename_i sz el z Iy ht
    split at e
    ·rename_i sz' u' z' Zj hel
     cases e
     have hun:=(K.get _ _ ht).1
     obtain ⟨inf,hd1,hd2⟩:=(K.get _ _ hel).2.1
     dsimp only at hd2
     refine ⟨by unfold bK;rw [hop],by unfold mP;rw [hop],?_⟩
     have:(Instr.indexAt t (.slice (some ⟨b,off,none⟩) len cap) (.int k n)).fO X.P h=some (.pointer (some ⟨b,off+n.toNat * sz',none⟩)):=by
      unfold Instr.indexAt
      rw [aT (show (asIntOf (.int k n)).fO X.P h=some (k,n) from rfl)]
      dsimp only
      rw [aT (gU hun)]
      dsimp only
      rw [aT (oK _)]
      dsimp only
      rw [aT (gU hun)]
      dsimp only
      rw [if_pos hp,aT (tK hd1),hd2,←add_plain]
      rfl
     unfold execOp
     rw [hop]
     dsimp only
     rw [e1,e3]
     exact aT this
    ·cases e
   ·cases e
  ·cases e
 ·rename_i op t x y z hop
  split at e
  ·rename_i k a k' b hx hy
   have e1:=Cj hx
   have e3:=Cj hy
   split at e
   ·rename_i hk
    subst hk
    refine ⟨by unfold bK;rw [hop],by unfold mP;rw [hop];dsimp only;rw [e1,e3];rfl,?_⟩
    unfold execOp
    rw [hop]
    dsimp only
    rw [e1,e3]
    cases op<;>first|(cases e;done)|skip
    all_goals
     cases e
     simp only [eqGuard,Go.binOp,Go.Op.intDiv,if_neg hp]
     simp [pure,bind,Sem.bind,Sem.fO]
   ·cases e
  ·cases e
 ·cases e
theorem UQ(K:aW X.P X.T){o:Oper}{tmps:Array Value}(e:ldF X.T h tmps.toList o.op=some (some v)):bK o=false∧mP X.P h (ax tmps) o=true∧(execOp (ax tmps) o).fO X.P h=some (.value v):=by
 unfold ldF at e
 split at e
 ·rename_i t x hop
  split at e
  ·rename_i a hx
   have e1:=Cj hx
   split at e
   ·rename_i sz d z Iy ht
    have hun:=(K.get _ _ ht).1
    cases hb:xP d with
    |true=>rw [hb] at e;cases e
    |false=>
     rw [hb] at e
     dsimp only [cond_false] at e
     simp only [Option.some.injEq] at e
     refine ⟨by unfold bK;rw [hop],by unfold mP;rw [hop],?_⟩
     have:(Instr.loadAt t (.pointer (some a))).fO X.P h=some v:=by
      unfold Instr.loadAt
      rw [aT (show (Instr.sureAddr (.pointer (some a))).fO X.P h=some a from rfl)]
      unfold loadVar
      have hagg:(isAgg t).fO X.P h=some (xP d):=by
       unfold isAgg
       rw [aT (gU hun)]
       dsimp only
       cases d<;>rfl
      rw [aT hagg,hb]
      simp only [Bool.false_eq_true,if_false]
      unfold load
      rw [Sem.fO.eq_def]
      dsimp only
      rw [Bf e]
      rfl
     unfold execOp
     rw [hop]
     dsimp only
     rw [e1]
     exact aT this
   ·cases e
  ·cases e
 ·cases e
theorem nD{b:Bool}{a:aB}{f:aB}(e:ER X f h v=some (b,a))(hb:b=true):az X.P f h v=some a:=by
 unfold ER at e
 split at e
 ·rename_i ops i c rest k ht
  split at e
  ·rename_i hk
   cases e
   unfold az
   rw [ht]
   dsimp only
   rw [if_pos ⟨hk,hb⟩]
  ·cases e
 ·split at e
  ·rename_i a' ha;cases e;exact ha
  ·cases e
theorem Qk{b:Bool}(e:aa3 X s=some (b,s'))(hb:b=true):aF X.P plan none s=some (.go s'):=by
 unfold aa3 at e
 split at e
 ·rename_i c cs h1 h2 h3 h4
  split at e
  ·rename_i fn hf
   split at e
   ·rename_i v h hr
    split at e
    ·rename_i b' a ha
     cases e
     have:=nD ha hb
     unfold aF
     rw [h1]
     dsimp only
     unfold nR
     rw [h2]
     dsimp only
     rw [hf]
     dsimp only
     rw [hr]
     dsimp only
     unfold uG
     rw [h3,h4]
     simp [this]
    ·cases e
   ·cases e
  ·cases e
 ·cases e
theorem LW{b:Bool}(e:UN X s=some (b,s'))(hb:b=true):aF X.P plan none s=some (.go s'):=by
 unfold UN at e
 split at e
 ·exact Qk e hb
 ·rename_i hr
  split at e
  ·rename_i ops i again l k ht
   split at e
   ·rename_i o ho
    rw [lJ,show ((⟨ops.toList⟩:Array Oper))=ops from rfl] at ho
    split at e
    ·rename_i hw
     unfold aF
     rw [hr]
     dsimp only
     rw [ht]
     dsimp only
     rw [ho]
     dsimp only
     split at e
     ·rename_i hk
      rw [hk]
      dsimp only
      rw [if_pos hw]
      split at e
      ·rename_i v h hx
       split at e
       ·rename_i b' a ha
        cases e
        rw [hx]
        unfold bI
        dsimp only
        rw [nD ha hb]
        rfl
       ·cases e
      ·rename_i h hx
       split at e
       ·rename_i b' a ha
        cases e
        rw [hx]
        unfold bI
        dsimp only
        rw [nD ha hb]
        rfl
       ·cases e
      ·cases e
     ·rename_i hk
      rw [hk]
      dsimp only
      split at e
      ·rename_i d hd
       rw [hd]
       dsimp only
       split at e
       ·rename_i hlt
        rw [if_pos hlt,if_pos hw]
        split at e
        ·rename_i t hop
         split at e
         ·rename_i z hz
          cases e
          rw [hop]
          dsimp only
          rw [hz]
          dsimp only
          rw [if_pos hb]
         ·cases e
        ·rename_i t n ps hop
         split at e
         ·rename_i elem cells hbt
          split at e
          ·rename_i hok
           cases e
           rw [hop]
           dsimp only
           rw [hbt]
           dsimp only
           rw [hok,hb]
           rfl
          ·cases e
         ·cases e
        ·cases e
       ·cases e
      ·cases e
     ·cases e
    ·cases e
   ·cases e
  ·cases e
theorem LX{f:FuncId}{args:Array Value}(e:UM X s=some (f,args,h)):aF X.P plan none s=some (.go ⟨aB.enter X.P f args,s.fr :: s.cs,h⟩):=by
 unfold UM at e
 split at e
 ·rename_i ops i l k hr ht
  split at e
  ·rename_i o ho
   split at e
   ·rename_i hw
    split at e
    ·rename_i f' args' h' hx
     cases e
     rw [lJ,show ((⟨ops.toList⟩:Array Oper))=ops from rfl] at ho
     unfold aF
     rw [hr]
     dsimp only
     rw [ht]
     dsimp only
     rw [ho]
     dsimp only
     rw [if_pos hw,hx]
     rfl
    ·cases e
   ·cases e
  ·cases e
 ·rename_i ops i c l k hr ht
  split at e
  ·rename_i o ho
   split at e
   ·rename_i hw
    simp only [Bool.and_eq_true,decide_eq_true_eq] at hw
    split at e
    ·rename_i f' args' h' hx
     cases e
     rw [lJ,show ((⟨ops.toList⟩:Array Oper))=ops from rfl] at ho
     unfold aF
     rw [hr]
     dsimp only
     rw [ht]
     dsimp only
     rw [ho]
     dsimp only
     rw [hw.1]
     dsimp only
     rw [if_pos hw.2,hx]
     rfl
    ·cases e
   ·cases e
  ·cases e
 ·cases e
theorem YL[aI X.P](ok:GV X)(C:Cl X.P Q K G):∀(T:HT) (s:AS),tx X Q K T s→G s:=by
 have UR:∀ {s s':AS},To X.P plan s' s→G s' → G s:=fun k g=>C.runs _ ((k.bind fun s h=>by subst h;exact .here g).runs)
 have one:∀ {s s':AS},aF X.P plan none s=some (.go s')→G s' → G s:=fun e g=>UR (aY.one e (.here rfl)) g
 intro T
 induction T with
 |no=>intro s k;exact k.elim
 |ret n m=>
  intro s k
  unfold tx at k
  split at k
  ·rename_i v hv
   refine C.ret s v (fun R hR=>?_) k
   unfold aeG at hv
   split at hv
   ·rename_i s₁ h₁
    split at hv
    ·rename_i v' h' h₂
     cases hv
     exact (rD ok.T ok.Fu n h₁).all (Js m h₂ (hR _))
    ·cases hv
   ·cases hv
  ·exact k.elim
 |cut n m=>
  intro s k
  unfold tx at k
  split at k
  ·rename_i s₁ h₁;exact UR (dU ok h₁) (C.cut _ k)
  ·exact k.elim
 |br n m t a b iha ihb=>
  intro s k
  unfold tx at k
  split at k
  ·rename_i s₁ h₁
   refine UR (dU ok h₁) ?_
   split at k
   ·rename_i c hc
    cases c with
    |true=>have:=k.1 rfl;rw [pz hc] at this;exact iha _ this
    |false=>have:=k.2 rfl;rw [pz hc] at this;exact ihb _ this
   ·exact k.elim
  ·exact k.elim
 |val n m t k ih=>
  intro s k
  unfold tx at k
  split at k
  ·rename_i s₁ h₁
   refine UR (dU ok h₁) ?_
   split at k
   ·rename_i κ e hc
    have:=k e rfl
    rw [pz hc] at this
    exact ih _ this
   ·exact k.elim
  ·exact k.elim
 |V5 n m t c a b iha ihb=>
  intro s k
  unfold tx at k
  split at k
  ·rename_i s₁ h₁
   refine UR (dU ok h₁) ?_
   split at k
   ·rename_i κ e hc
    by_cases he:e=c
    ·subst he
     have:=k.1 rfl
     rw [pz hc] at this
     exact iha _ this
    ·exact ihb _ (k.2 he)
   ·exact k.elim
  ·exact k.elim
 |ov n m k ih=>
  intro s k
  unfold tx at k
  split at k
  ·rename_i s₁ h₁
   refine UR (dU ok h₁) ?_
   split at k
   ·rename_i o ho
    split at k
    ·rename_i p v hv
     split at k
     ·rename_i s₂ hs
      obtain ⟨x1,x2,x3⟩:=aa4 (h:=s₁.h) ok.T hv k.1
      exact one (GX ho x1 x2 x3 hs) (ih _ k.2)
     ·exact k.elim
    ·exact k.elim
   ·exact k.elim
  ·exact k.elim
 |GR n m κ k ih=>
  intro s k
  unfold tx at k
  split at k
  ·rename_i s₁ h₁
   refine UR (dU ok h₁) ?_
   split at k
   ·rename_i o ho
    split at k
    ·rename_i u hu
     obtain ⟨x,rfl,k⟩:=k
     split at k
     ·rename_i s₂ hs
      obtain ⟨x1,x2,x3⟩:=UQ ok.T hu
      exact one (GX ho x1 x2 x3 hs) (ih _ k)
     ·exact k.elim
    ·exact k.elim
   ·exact k.elim
  ·exact k.elim
 |aeF n m k ih=>
  intro s k
  unfold tx at k
  split at k
  ·rename_i s₁ h₁
   refine UR (dU ok h₁) ?_
   split at k
   ·rename_i o ho
    split at k
    ·rename_i u hu
     obtain ⟨x,rfl,k⟩:=k
     split at k
     ·rename_i s₂ hs
      obtain ⟨x1,x2,x3⟩:=UQ ok.T hu
      exact one (GX ho x1 x2 x3 hs) (ih _ k)
     ·exact k.elim
    ·exact k.elim
   ·exact k.elim
  ·exact k.elim
 |dY n m i k ih=>
  intro s k
  unfold tx at k
  split at k
  ·rename_i s₁ h₁
   refine UR (dU ok h₁) ?_
   split at k
   ·rename_i f args h hq
    refine one (LX hq) (C.runs _ ((ok.Γ _ _ _ _ _ k s₁.fr s₁.cs fun v hv=>?_).bind ?_))
    ·split at hv
     ·rename_i c a ha;exact ⟨a,nD ha hv.1⟩
     ·exact hv.elim
    ·rintro s' ⟨v,a',hv,ha',rfl⟩
     split at hv
     ·rename_i c a ha
      rw [nD ha hv.1] at ha'
      cases ha'
      exact bZ.here (ih _ hv.2)
     ·exact hv.elim
   ·exact k.elim
  ·exact k.elim
 |rk n m k ih=>
  intro s k
  unfold tx at k
  split at k
  ·rename_i s₁ h₁
   refine UR (dU ok h₁) ?_
   split at k
   ·rename_i c s₂ hq
    exact one (LW hq k.1) (ih _ k.2)
   ·exact k.elim
  ·exact k.elim
 |cas n m t v a b iha ihb=>
  intro s k
  unfold tx at k
  split at k
  ·rename_i s₁ h₁
   refine UR (dU ok h₁) ?_
   split at k
   ·rename_i u hc
    by_cases he:u=v
    ·subst he
     have:=k.1 rfl
     rw [pz hc] at this
     exact iha _ this
    ·exact ihb _ (k.2 he)
   ·exact k.elim
  ·exact k.elim
theorem Xh[aI X.P](ok:GV X){Q':Value→AH→Prop}(T:HT)(k:tx X (fun v=>∀h,Q' v h) (fun s=>bJ X.P Q' s) T s):bJ X.P Q' s:=
 YL (G:=fun s=>bJ X.P Q' s) ok ⟨fun s r=>r.GL fun _ x=>x,fun s v ha hq=>(ha Q' hq).GL,fun s x=>x⟩ T s k
theorem Xi[aI X.P](ok:GV X)(T:HT)(k:tx X (fun _=>False) K T s):bZ X.P K s:=
 YL (G:=fun s=>bZ X.P K s) ok ⟨fun s r=>r.bind fun _ x=>x,fun s v ha hq=>hq.elim,fun s x=>bZ.here x⟩ T s k
end
theorem BR.mk{p:Prop}[Decidable p]{A B:Prop}(a:p→A)(b:¬p→B):BR (decide p) A B:=⟨fun h=>a (of_decide_eq_true h),fun h=>b (of_decide_eq_false h)⟩
theorem RK.mk{A:Prop}(a:A):RK true A:=⟨rfl,a⟩
theorem SP.mk{e c:Int}{A B:Prop}(a:e=c→A)(b:¬e=c→B):SP e c A B:=⟨a,b⟩
end Go.Am
namespace Go.Am
theorem aJ{X:TX}(ok:GV X){Q:Value→AH→Prop}{T:HT}{s:AS}{N:Prop}(e:tx X (fun v=>∀h,Q v h) (fun s=>bJ X.P Q s) T s=N)(k:N):bJ X.P Q s:=haveI:=ok.Z;Xh ok T (e ▸ k)
theorem iI{X:TX}(ok:GV X){K:AS→Prop}{T:HT}{s:AS}{N:Prop}(e:tx X (fun _=>False) K T s=N)(k:N):bZ X.P K s:=haveI:=ok.Z;Xi ok T (e ▸ k)
section
variable{p:Prop}[Decidable p]{A B:Prop}{a b c e:Int}{F:Int→Prop}
theorem BR.l(h:p)(k:A):BR (decide p) A B:=BR.mk (fun _=>k) fun n=>absurd h n
theorem BR.r(h:¬p)(k:B):BR (decide p) A B:=BR.mk (fun y=>absurd y h) fun _=>k
theorem BR.nm(k:¬p→A)(l:p→B):BR (!decide p) A B:=⟨fun h=>k (by simpa using h),fun h=>l (by simpa using h)⟩
theorem BR.nl(h:¬p)(k:A):BR (!decide p) A B:=BR.nm (fun _=>k) fun y=>absurd y h
theorem BR.nr(h:p)(k:B):BR (!decide p) A B:=BR.nm (fun y=>absurd h y) fun _=>k
theorem SP.l(h:e=c)(k:A):SP e c A B:=⟨fun _=>k,fun n=>absurd h n⟩
theorem vw(h1 : -9223372036854775808≤e)(h2:e≤9223372036854775807)(k:∀x,x=e→F x):∀x,x=IntKind.i64.wrap e→F x:=fun x hx=>k x (by rw [hx,jf h1 h2])
theorem aa5(h1 : -3000000≤a)(h2:a≤3000000)(h3 : -3000000≤b)(h4:b≤3000000) : -9000000000000≤a * b∧a * b≤9000000000000:=by
 have k1:0≤(3000000 - a) * (3000000 - b):=Int.mul_nonneg (by omega) (by omega)
 have k2:0≤(3000000+a) * (3000000+b):=Int.mul_nonneg (by omega) (by omega)
 have k3:0≤(3000000 - a) * (3000000+b):=Int.mul_nonneg (by omega) (by omega)
 have k4:0≤(3000000+a) * (3000000 - b):=Int.mul_nonneg (by omega) (by omega)
 rw [Int.sub_mul,Int.mul_sub,Int.mul_sub] at k1
 rw [Int.add_mul,Int.mul_add,Int.mul_add] at k2
 rw [Int.sub_mul,Int.mul_add,Int.mul_add] at k3
 rw [Int.add_mul,Int.mul_sub,Int.mul_sub] at k4
 constructor<;>omega
theorem vm(h1 : -3000000≤a)(h2:a≤3000000)(h3 : -3000000≤b)(h4:b≤3000000)(k:∀x,x=a * b → -9000000000000≤x→x≤9000000000000→F x):∀x,x=IntKind.i64.wrap (a * b)→F x:=fun x hx=>by
 have h5:=aa5 h1 h2 h3 h4
 rw [jf (by omega) (by omega)] at hx
 exact k x hx (by omega) (by omega)
theorem Xj(hb:0 < b)(h1 : -9000000000000≤a)(h2:a≤9000000000000) : -9000000000000≤Int.tdiv a b∧Int.tdiv a b≤9000000000000:=by
 have h3:(Int.tdiv a b).natAbs≤a.natAbs:=by rw [Int.natAbs_tdiv];exact Nat.div_le_self _ _
 omega
theorem Xk{b:Int}(hb:0 < b)(h:0≤a):0≤Int.tdiv a b∧Int.tdiv a b≤a:=by
 rw [Int.tdiv_eq_ediv_of_nonneg h]
 exact ⟨Int.ediv_nonneg h (Int.le_of_lt hb),Int.ediv_le_self _ h⟩
theorem vq(hb:0 < b)(h : -9000000000000≤a∧a≤9000000000000)(k:∀x,x=Int.tdiv a b→(-9000000000000≤x∧x≤9000000000000∧(0≤a→0≤x∧x≤a))→F x):∀x,x=IntKind.i64.wrap (Int.tdiv a b)→F x:=fun x hx=>by
 have h5:=Xj hb h.1 h.2
 rw [jf (by omega) (by omega)] at hx
 exact k x hx ⟨by omega,by omega,fun h6=>by rw [hx];exact Xk hb h6⟩
theorem OB(hb:0 < b) : -b < Int.tmod a b∧Int.tmod a b < b∧(0≤a→0≤Int.tmod a b):=by
 refine ⟨?_,Int.tmod_lt_of_pos a hb,fun h=>Int.tmod_nonneg b h⟩
 by_cases h:0≤a
 ·have:=Int.tmod_nonneg b h;omega
 ·have h1:=Int.tmod_lt_of_pos (-a) hb
  rw [Int.neg_tmod] at h1
  omega
theorem vr(hb:0 < b)(k:∀x,x=Int.tmod a b→(-b < x∧x < b∧(0≤a→0≤x))→F x):∀x,x=Int.tmod a b→F x:=fun x hx=>k x hx (by rw [hx];exact OB hb)
theorem BR.ll(k:A)(h:p:=by omega):BR (decide p) A B:=BR.l h k
theorem BR.rr(k:B)(h:¬p:=by omega):BR (decide p) A B:=BR.r h k
theorem va(k:∀x,x=e→F x)(h1 : -9223372036854775808≤e:=by omega)(h2:e≤9223372036854775807:=by omega):∀x,x=IntKind.i64.wrap e→F x:=vw h1 h2 k
theorem vs(k:∀x,x=Int.tmod a b→(-b < x∧x < b∧(0≤a→0≤x))→F x)(hb:0 < b:=by omega):∀x,x=Int.tmod a b→F x:=vr hb k
abbrev wi(a:Int):Int:=IntKind.i64.wrap a
theorem OC(k:∀x,x=max a b→F x):∀x,x=(if b > a then b else a)→F x:=fun x hx=>k x (by rw [hx,YK])
theorem OD(k:∀x,x=min a b→F x):∀x,x=(if b < a then b else a)→F x:=fun x hx=>k x (by rw [hx,aeE])
end
end Go.Am
namespace Go.Am
def VL(B:cZ):cZ:={ B with ro:=true }
def cu(nA:Nat)(L:List (Nat×cZ)):AH:=⟨nA,wL (L.map fun p=>(p.1,VL p.2)),xW (L.filterMap fun p=>p.2.dP.map fun f=>(f,[p.1]))⟩
def HB1(h:AH)(b:Nat)(B:cZ):Prop:=h.tr.get b=some B∧(match B.dP with|none=>true|some f=>((h.bU.get f).getD []).contains b)=true
def Xl(h:AH):List (Nat×cZ)→Prop
 | []=>True
 |p :: l=>HB1 h p.1 p.2∧Xl h l
structure StL(nA:Nat)(L:List (Nat×cZ)):Prop where
 lt:∀p∈L,p.1 < nA
 plain:∀p∈L,∃c e f,p.2.obj = .cells c e f∧∀x∈c,Plain x
 nodup:(L.map (·.1)).Nodup
theorem OE:∀ {l:List (Nat×cZ)} {b:Nat} {B:cZ},(l.map (·.1)).Nodup→(b,B)∈l→(wL l).get b=some B
 |(c,C) :: l,b,B,hn,hm=>by
  unfold wL
  rw [Tr.dK]
  simp only [List.map_cons,List.nodup_cons] at hn
  rcases List.mem_cons.1 hm with e|e
  ·cases e;rw [if_pos rfl]
  ·rw [if_neg,OE hn.2 e]
   rintro rfl
   exact hn.1 (List.mem_map.2 ⟨_,e,rfl⟩)
theorem OG:∀(l:List (Nat×List Nat)) {f:Nat} {m:List Nat},(xW l).get f=some m→(f,m)∈l
 | [],f,m,e=>by cases e
 |(c,C) :: l,f,m,e=>by
  unfold xW at e
  rw [Tr.dK] at e
  split at e
  ·rename_i hb;subst hb;cases e;exact .head _
  ·exact .tail _ (OG l e)
theorem Xl.mem{h:AH}:∀ {L:List (Nat×cZ)},Xl h L→∀p∈L,HB1 h p.1 p.2
 |q :: L,k,p,hp=>by
  rcases List.mem_cons.1 hp with e|e
  ·subst e;exact k.1
  ·exact Xl.mem k.2 p e
theorem StL.sub{nA:Nat}{L:List (Nat×cZ)}{h:AH}(S:StL nA L)(k:Xl h L):(cu nA L).Sub h:=by
 have lk:∀b B,(cu nA L).tr.get b=some B→∃bT,(b,bT)∈L∧B=VL bT:=fun b B e=>by
  have:=GM _ e
  obtain ⟨⟨b',bT⟩,h1,h2⟩:=List.mem_map.1 this
  cases h2
  exact ⟨bT,h1,rfl⟩
 have hl:∀b bT,(b,bT)∈L→h.look b=some bT:=fun b bT hm=>by
  obtain ⟨h1,h2⟩:=Xl.mem k _ hm
  dsimp only at h1 h2
  unfold AH.look
  rw [h1]
  dsimp only
  cases hf:bT.dP with
  |none=>rfl
  |some f=>
   rw [hf] at h2
   dsimp only at h2 ⊢
   rw [if_pos h2]
 have fl:∀f l,(cu nA L).bU.get f=some l→∃b bT,(b,bT)∈L∧bT.dP=some f∧l=[b]:=fun f l e=>by
  have:=OG _ e
  obtain ⟨⟨b,bT⟩,h1,h2⟩:=List.mem_filterMap.1 this
  dsimp only at h2
  cases hf:bT.dP with
  |none=>rw [hf] at h2;cases h2
  |some g=>rw [hf] at h2;cases h2;exact ⟨b,bT,h1,hf,rfl⟩
 refine ⟨fun b B e=>?_,fun b B e=>?_,fun b B e=>?_,fun f l e=>?_,fun f l b e hb=>?_⟩
 ·obtain ⟨bT,h1,rfl⟩:=lk b B (fC e)
  exact ⟨bT,hl b bT h1,rfl,rfl,rfl,rfl⟩
 ·obtain ⟨bT,h1,rfl⟩:=lk b B (fC e)
  obtain ⟨c,e',f,h2,h3⟩:=S.plain _ h1
  exact ⟨c,e',f,h2,fun x hx=>(h3 x hx).okV⟩
 ·obtain ⟨bT,h1,rfl⟩:=lk b B e
  exact ⟨bT,(Xl.mem k _ h1).1,rfl⟩
 ·obtain ⟨b,bT,h1,h2,rfl⟩:=fl f l e
  have h3:=(Xl.mem k _ h1).2
  dsimp only at h3
  rw [h2] at h3
  dsimp only at h3
  cases hg:h.bU.get f with
  |none=>rw [hg] at h3;simp at h3
  |some l'=>
   rw [hg] at h3
   exact ⟨l',rfl,List.singleton_sublist.2 (by simpa using h3)⟩
 ·obtain ⟨b',bT,h1,h2,rfl⟩:=fl f l e
  obtain rfl:b=b' :=by simpa using hb
  refine ⟨S.lt _ h1,VL bT,OE ?_ (List.mem_map.2 ⟨_,h1,rfl⟩),h2⟩
  rw [List.map_map]
  exact S.nodup
structure Ct where
 f:FuncId
 ext:Array Value→AH→List Int
 nA:Nat
 L:List Int→List (Nat×cZ)
 args:List Int→Array Value
 pre:List Int→Prop
 R:List Int→Int→Prop
 res:Int→Value
noncomputable section
def gI(a:Array Value)(i:Nat):Int:=match nth a.toList i with
 |some (.int _ p)=>p
 |_=>0
def aiQ(h:AH)(v:Option Value):List Int:=match v with
 |some (.slice (some a) _ _)=>match h.tr.get a.block with
  |some ⟨.cells c _ _,_,_,_⟩=>List.rec [] (fun v _ ih=>(match v with | .int _ n=>n|_=>0) :: ih) c.toList
  |_=>[]
 |_=>[]
def Jt(n:Nat)(v:Option Value):List Int:=match v with
 |some (.agg c)=>List.rec (motive:=fun _=>Nat→List Int) (fun _=>[]) (fun v _ ih n=>match n with
  |0=>[]
  |n+1=>(match v with | .int _ x=>x|_=>0) :: ih n) c.toList n
 |_=>[]
def Ct.met(c:Ct)(a:Array Value)(h:AH)(p:List Int)(post:Value→Prop):Prop:=(a=c.args p∧Xl h (c.L p)∧c.pre p)∧∀x:Int,c.R p x→post (c.res x)
def ctG:List Ct→FuncId→Array Value→AH→(Value→Prop)→Prop
 | [],_,_,_,_=>False
 |c :: l,f,a,h,post=>bif Nat.beq f c.f then c.met a h (c.ext a h) post else ctG l f a h post
def ctI(l:List Ct):Nat→FuncId→Array Value→AH→(Value→Prop)→Prop
 |0=>ctG l
 |i+1=>fun f a h post=>match nth l i with
  |some c=>bif Nat.beq f c.f then c.met a h (c.ext a h) post else False
  |none=>False
end
structure jQ(P:Program)(c:Ct):Prop where
 GL:∀p,c.pre p→bJ P (fun v _=>∃x,c.R p x∧v=c.res x) ⟨aB.enter P c.f (c.args p),[],cu c.nA (c.L p)⟩
 st:∀p,c.pre p→StL c.nA (c.L p)
 okA:∀p,∀x∈c.args p,pK (· < c.nA) x
 okR:∀x,Plain (c.res x)
theorem jQ.call{P:Program}[aI P]{c:Ct}(k:jQ P c){a:Array Value}{h:AH}{p:List Int}{post:Value→Prop}(hp:c.met a h p post):GU P c.f a h post:=by
 obtain ⟨⟨h1,h2,h3⟩,h4⟩:=hp
 subst h1
 intro fr cs hfin
 refine (bZ.call (k.GL p h3) ((k.st p h3).sub h2) (k.okA p) (fun q hq v h' hv=>?_) (fun v h' hv=>?_)).mono ?_
 ·obtain ⟨x,_,rfl⟩:=hv
  exact (k.okR x).okV
 ·obtain ⟨x,hx,rfl⟩:=hv
  exact hfin _ (h4 x hx)
 ·rintro s ⟨v,h',a',⟨x,hx,rfl⟩,h5,rfl⟩
  exact ⟨_,a',h4 x hx,h5,rfl⟩
theorem UT{P:Program}[aI P]:∀ {l:List Ct},(∀c∈l,jQ P c)→∀f a h post,ctG l f a h post→GU P f a h post
 | [],_,f,a,h,post,k=>k.elim
 |c :: l,hl,f,a,h,post,k=>by
  unfold ctG at k
  cases hf:Nat.beq f c.f with
  |true=>
   rw [hf] at k
   have:=Nat.eq_of_beq_eq_true hf
   subst this
   exact (hl c (.head _)).call k
  |false=>
   rw [hf] at k
   exact UT (fun c hc=>hl c (.tail _ hc)) f a h post k
theorem aa6{P:Program}[aI P]{l:List Ct}(hl:∀c∈l,jQ P c):∀i f a h post,ctI l i f a h post→GU P f a h post
 |0,f,a,h,post,k=>UT hl f a h post k
 |i+1,f,a,h,post,k=>by
  unfold ctI at k
  dsimp only at k
  split at k
  ·rename_i c hc
   cases hf:Nat.beq f c.f with
   |true=>
    rw [hf] at k
    have:=Nat.eq_of_beq_eq_true hf
    subst this
    rw [iU] at hc
    exact (hl c (List.mem_of_getElem? hc)).call k
   |false=>rw [hf] at k;exact k.elim
  ·exact k.elim
theorem dJ{P:Program}:∀c∈([]:List Ct),jQ P c:=fun c h=>absurd h List.not_mem_nil
theorem dm{P:Program}{c:Ct}{l:List Ct}(h:jQ P c)(k:∀c∈l,jQ P c):∀d∈c :: l,jQ P d:=fun d hd=>(List.mem_cons.1 hd).elim (fun e=>e ▸ h) (k d)
theorem mG{V:Prop}{n:Int}(h:n≠0):∀_:AH,∃x:Int,(x=0→V)∧Value.int .i64 n = .int .i64 x:=fun _=>⟨n,fun e=>absurd e h,rfl⟩
theorem lf0{V:Prop}(h:V):∀_:AH,∃x:Int,(x=0→V)∧Value.int .i64 0 = .int .i64 x:=fun _=>⟨0,fun _=>h,rfl⟩
def AE(a:Array Value):Prop:=a=a
def BE(B:cZ):Prop:=some B=some B∧true=true
def bk(c:Array Value):cZ:=⟨.cells c 0 (0,0),none,true,1⟩
def E4(pc tc sc kc:Array Value):Prop:=BE (bk pc)∧BE (bk tc)∧BE (bk sc)∧BE (bk kc)∧True
theorem gK{pc tc sc kc:Array Value}:E4 pc tc sc kc:=⟨⟨rfl,rfl⟩,⟨rfl,rfl⟩,⟨rfl,rfl⟩,⟨rfl,rfl⟩,trivial⟩
def L4(pc tc sc kc:Array Value):List (Nat×cZ):=[(0,bk pc),(1,bk tc),(2,bk sc),(3,bk kc)]
def E5(pc tc sc kc mc:Array Value):Prop:=BE (bk pc)∧BE (bk tc)∧BE (bk sc)∧BE (bk kc)∧BE (bk mc)∧True
theorem OH{pc tc sc kc mc:Array Value}:E5 pc tc sc kc mc:=⟨⟨rfl,rfl⟩,⟨rfl,rfl⟩,⟨rfl,rfl⟩,⟨rfl,rfl⟩,⟨rfl,rfl⟩,trivial⟩
def L5(pc tc sc kc mc:Array Value):List (Nat×cZ):=[(0,bk pc),(1,bk tc),(2,bk sc),(3,bk kc),(4,bk mc)]
end Go.Am
namespace Go.Am
open Go.Conc (G Good)
open Go.Ren (At aC Keep full)
noncomputable section
def UU(P:Program)(root:FuncId)(s:AS):Bool:=s.fr.ret && s.cs.isEmpty && aH s.fr && s.fr.defers.isEmpty && !s.fr.dk && Nat.beq s.fr.fn root && match P.funcs[root]? with
 |some f=>(match (results f s.fr.tmps).ar P none s.h with
  |some (.bool b,_)=>b
  |_=>false)
 |none=>false
def Xm(X:TX)(root:FuncId):Nat→AS→Bool
 |0,s=>UU X.P root s
 |k+1,s=>if UU X.P root s then true else match Bl X.P plan X.T X.Fu 1 s with
  |some (.go s')=>Xm X root k s'
  |_=>false
def gp(X:TX)(root chk:FuncId)(s:AS):Bool:=aH s.fr && match LQ X.P chk (.bool true) ⟨s.fr,s.cs,⟨s.h.n,.nil,.nil⟩⟩ with
 |some s'=>Xm X root 9 s'
 |none=>false
abbrev ud:Value:=.tuple ⟨[]⟩
abbrev ur(n:Nat):List Value:=List.replicate n ud
def LY(f:FuncId)(s:AS):Bool:=Nat.beq s.fr.fn f
end
noncomputable def KF(X:TX)(root chk:FuncId)(cut:AS→Bool)(l:List Nat)(s:AS):Prop:=bif cut s && aH s.fr then bZ X.P (fun s=>gp X root chk s=true) ⟨s.fr,s.cs,s.h.forget l⟩ else gp X root chk s=true
theorem qG{X:TX}{root chk:FuncId}{cut:AS→Bool}{l:List Nat}{s0:AS}(h:bZ X.P (fun s=>KF X root chk cut l s) s0):bZ X.P (fun s=>gp X root chk s=true) s0:=h.bind fun s k=>by
 unfold KF at k
 cases hb:cut s && aH s.fr<;>rw [hb] at k
 ·exact bZ.here k
 ·rw [Bool.and_eq_true] at hb
  exact (bZ.forget l hb.2).bind fun s' e=>by subst e;exact k
def GY(P:Program)(L:Go.Conc.Lib.WgLink)(fid:FuncId)(aZ:Machine→Outcome→World→Trace→Prop):Prop:=
 ∀ {b:Frame} {bs:List Frame} {F:Nat→Prop} {w₀:World} {m:Machine} {t:Trace},bg P L (b :: bs) F w₀ .idle ⟨aB.enter P fid #[],[],h0⟩ m t→aC P aZ (Back P b bs F w₀ (.bool true)) m t
section
variable{X:TX}{root chk:FuncId}{s s' s0:AS}{W U Z F:Nat→Prop}{N:Nat}{ρ:Env}{w₀ w:World}{g:Goroutine}{m:Machine}{t:Trace}{Post:Value→World→Prop}{K:Machine→Trace→Prop}{L:Go.Conc.Lib.WgLink}
theorem Ql{P:Program}(h:UU P root s=true):s.fr.ret=true∧s.cs=[]∧aH s.fr=true∧s.fr.defers=[]∧s.fr.dk=false∧s.fr.fn=root∧∃f h₁,P.funcs[root]? = some f∧(results f s.fr.tmps).ar P none s.h=some (.bool true,h₁):=by
 unfold UU at h
 simp only [Bool.and_eq_true,Bool.not_eq_true'] at h
 obtain ⟨⟨⟨⟨⟨⟨h1,h2⟩,h3⟩,h4⟩,h5⟩,h6⟩,h7⟩:=h
 refine ⟨h1,List.isEmpty_iff.1 h2,h3,List.isEmpty_iff.1 h4,h5,Nat.eq_of_beq_eq_true h6,?_⟩
 split at h7
 ·rename_i f hf
  split at h7
  ·rename_i b h₁ hr
   subst h7
   exact ⟨f,h₁,hf,hr⟩
  ·cases h7
 ·cases h7
theorem ET(ok:GV X):∀(k:Nat) {s:AS},Xm X root k s=true→∃s',To X.P plan s' s∧UU X.P root s' = true
 |0,s,h=>⟨s,.here rfl,h⟩
 |k+1,s,h=>by
  unfold Xm at h
  split at h
  ·rename_i he;exact ⟨s,.here rfl,he⟩
  ·split at h
   ·rename_i s₁ h₁
    obtain ⟨s',k1,k2⟩:=ET ok k h
    exact ⟨s',(rD ok.T ok.Fu 1 h₁).bind fun _ e=>by subst e;exact k1,k2⟩
   ·cases h
theorem LZ(ok:GV X)(R:bZ X.P (fun s=>gp X root chk s=true) s0)(Xe:GY X.P L chk (Good X.P Post))(hp:bQ X.P chk=true)(hin:X.P.inits.idxOf? root=none)(hP:∀w',Keep F w₀ w' → Post (.bool true) w')
  (S:Sr X.P [] F w₀ W U Z N ρ s0 g w m t):aC X.P (Good X.P Post) K m t:=by
 haveI:=ok.Z
 refine (S.runs R).bind ?_
 rintro m t ⟨σ,s,g',w',hk,_,S'⟩
 unfold gp at hk
 rw [Bool.and_eq_true] at hk
 obtain ⟨hd,hk⟩:=hk
 split at hk
 ·rename_i s₆ h₆
  obtain ⟨s₇,k1,k2⟩:=ET ok _ hk
  refine (Sd.aeB (L:=L) hp (.bool true) Xe (S'.sd hd) (Jq h₆)).bind ?_
  rintro m t ⟨W',U',Z',N',σ',g₂,w₂,_,Lp⟩
  refine (Lp.reach (K:=(· = s₇)) k1).bind ?_
  rintro m t ⟨τ,s'',g₃,w₃,rfl,_,Jj,_⟩
  obtain ⟨e1,e2,e3,e4,e5,e6,f,h₁,e7,e8⟩:=Ql k2
  exact Jj.ends e2 e3 e1 e4 e5 (by rw [e6];exact e7) e8 (by rw [e6];exact hin) (.bool true) hP
 ·cases hk
end
end Go.Am
namespace Go.Am
open Go.Proofs
noncomputable def Tryz.tT:Tr TI:=Si Tryz.prog Tryz.prog.types.toList 0
noncomputable def Tryz.tF:Tr Func:=xR Tryz.prog.funcs.toList 0
noncomputable def at_(f:Nat)(p:List Nat):Code:=mQ (SB Tryz.tF f) p
noncomputable def aS(f:Nat)(p:List Nat):Array Oper:=acQ Tryz.tF f p
abbrev Tryz.link:Go.Conc.Lib.WgLink:={ add:=105,done:=107,wait:=111,relMerge:=127,disable:=128,enable:=129,inBubble:=130,associate:=131,fatal:=132,uOr:=133,uAdd:=134,raceRead:=135,uLoad:=136,uStore:=137,disassociate:=138,semrelease:=139,acquire:=144,isAssociated:=145,uCas:=146,raceWrite:=147,semacquire:=148,orU64:=159,addU64:=160,loadU64:=161,storeU64:=162,casU64:=167,tWgP:=198,tUP:=200,tAssoc:=201,tWg:=183,tAU:=181,tU64:=179,tUint:=188,tU32:=172,tPU32:=205,tPAU:=234,tPU64:=236,tNoCopy:=171,tANoCopy:=177,tAlign64:=178 }
abbrev Tryz.mx:Go.Mx.ah:={ mu:={ lock:=109,unlock:=110,ilock:=142,iunlock:=143,lockSlow:=164,unlockSlow:=166,disable:=128,enable:=129,acquire:=144,relMerge:=127,cas32:=163,add32:=165,tMutex:=176,tIMutex:=174,tPMutex:=212,tPIMutex:=239,tPI32:=241,tUP:=200,tNoCopy:=171,tU32:=172 },canSpin:=182,F8:=183,throw:=184,nano:=185,F9:=186,fatal:=187,semrel:=188,tPU32:=205,tUint:=188 }
end Go.Am
namespace Go.Am
theorem EU{α β:Type}{I:β→Prop}{f:α→β→Option (ForInStep β)}(hf:∀a b r,I b→f a b=some r→I r.value):∀(l:List α) {b c:β},I b→forIn l b f=some c→I c
 | [],b,c,hb,h=>by
  rw [List.forIn_nil] at h
  cases h
  exact hb
 |a :: l,b,c,hb,h=>by
  rw [List.forIn_cons] at h
  simp only [bind,Option.bind_eq_some_iff] at h
  obtain ⟨r,hr,h⟩:=h
  have hi:=hf a b r hb hr
  cases r with
  |done x=>cases h;exact hi
  |yield x=>exact EU hf l hi h
theorem zl{z:Value}(h:Plain z):∀x∈z.cells,Plain x:=by
 intro x hx
 obtain ⟨h1,h2⟩:=mW h
 obtain ⟨i,hi⟩:=Array.getElem?_of_mem hx
 exact h2 i x x hi hi
theorem Qm{b:Option (Array Value)}{i:TypeInfo}{n:Nat}(hp:∀z,i.zero=some z→Plain z)(hb:∀a,b=some a→∀x∈a,Plain x):∀a,(if n > Made.mostCells then none else b.bind fun u=>i.zero.bind fun z=>some (u ++ z.cells))=some a→∀x∈a,Plain x:=by
 intro a h x hx
 split at h
 ·cases h
 ·simp only [Option.bind_eq_some_iff] at h
  obtain ⟨u,h1,z,h2,h3⟩:=h
  cases h3
  rcases Array.mem_append.1 hx with k|k
  ·exact hb u h1 x k
  ·exact zl (hp z h2) x k
theorem GZ{info:TypeId→Option TypeInfo}{fs:Array Field}{i:TypeInfo}{z:Value}(hp:∀t i z,info t=some i→i.zero=some z→Plain z)(h:Made.reckonStruct info fs=some i)(hz:i.zero=some z):Plain z:=by
 unfold Made.reckonStruct at h
 simp only [bind,Option.bind_eq_some_iff,pure] at h
 obtain ⟨a,hl,h⟩:=h
 have key:∀u,a.2.2.2.2.2.2.2.1=some u→∀x∈u,Plain x:=by
  rw [←Array.forIn_toList] at hl
  refine EU (I:=fun s=>∀u,s.2.2.2.2.2.2.2.1=some u→∀x∈u,Plain x) (fun f b r hb hr=>?_) _ (fun u hu x hx=>?_) hl
  ·simp only [Option.bind_eq_some_iff] at hr
   obtain ⟨j,hj,hr⟩:=hr
   have hs:=fun n=>Qm (n:=n) (i:=j) (fun z hz=>hp _ _ _ hj hz) hb
   repeat' first
    |(cases hr;exact hs _)
    |(cases hr;done)
    |(simp only [Option.bind_eq_some_iff] at hr;obtain ⟨_,_,hr⟩:=hr)
    |split at hr
    |(exact absurd hr (by simp))
  ·cases hu
   simp at hx
 have fin:∀ {z:Value},a.2.2.2.2.2.2.2.1.map .agg=some z→Plain z:=fun {z} hz=>by
  rw [Option.map_eq_some_iff] at hz
  obtain ⟨u,h1,rfl⟩:=hz
  exact uh (key u h1)
 split at h<;>(cases h;exact fin hz)
theorem G5{info:TypeId→Option TypeInfo}{d:TypeDesc}{i:TypeInfo}{z:Value}(hp:∀t i z,info t=some i→i.zero=some z→Plain z)(h:Made.reckon info d=some i)(hz:i.zero=some z):Plain z:=by
 unfold Made.reckon at h
 split at h
 case h_7=>exact GZ hp h hz
 case h_6=>
  simp only [bind,Option.bind_eq_some_iff,pure] at h
  obtain ⟨j,hj,s,hs,h⟩:=h
  cases h
  dsimp only at hz
  split at hz
  ·cases hz
  ·split at hz
   ·cases hz
    exact uh fun x hx=>by simp at hx
   ·rw [Option.map_eq_some_iff] at hz
    obtain ⟨u,h1,rfl⟩:=hz
    refine uh fun x hx=>?_
    rw [Array.mem_flatten] at hx
    obtain ⟨xs,h2,h3⟩:=hx
    rw [Array.mem_replicate] at h2
    rw [h2.2] at h3
    exact zl (hp _ _ _ hj h1) x h3
 all_goals try simp only [bind,Option.bind_eq_some_iff,pure] at h
 all_goals repeat' first
  |(obtain ⟨_,_,h⟩:=h)
  |(split at h)
 all_goals first
  |(cases hz;first|exact .fE|exact .nilslice _ _|exact .dB|exact .dO|exact .nilFunc)
  |(cases h;cases hz;first|exact .fE|exact .nilslice _ _|exact .dB|exact .dO|exact .nilFunc)
  |(cases h;done)
  |(exfalso;simp at h;done)
  |(simp only [Option.bind_eq_some_iff] at h;obtain ⟨_,_,h⟩:=h;cases h;cases hz;first|exact .fE|exact .nilslice _ _|exact .dB|exact .dO|exact .nilFunc)
def OI:Value→Bool
 | .chan none=>true
 |_=>false
def L6(v:Value):Bool:=iT 12 v || OI v
def L8(T:Tables):Bool:=T.types.toList.all fun i=>match i.zero with
 |some z=>L6 z
 |none=>true
theorem Cm{T:Tables}(h:L8 T=true):∀(n:Nat) (t:TypeId) (i:TypeInfo) (z:Value),Made.infoAt T n t=some i→i.zero=some z→Plain z
 |0,t,i,z,e,_=>by cases e
 |n+1,t,i,z,e,hz=>by
  unfold Made.infoAt at e
  split at e
  ·unfold L8 at h
   rw [List.all_eq_true] at h
   have:=h i (get_mem e)
   rw [hz] at this
   have this:L6 z=true:=this
   unfold L6 at this
   rw [Bool.or_eq_true] at this
   rcases this with k|k
   ·exact gm k
   ·unfold OI at k
    split at k
    ·exact .dO
    ·cases k
  ·simp only [Option.bind_eq_some_iff] at e
   obtain ⟨d,_,e⟩:=e
   exact G5 (fun t i z h1 h2=>Cm h n t i z h1 h2) e hz
theorem UW{P:Program}(h:L8 P.toTables=true):aI P:=⟨fun t i z hi hz ρ=>by
 have hi':P.toTables.info? t=some i:=hi
 unfold Tables.info? at hi'
 split at hi'
 ·rename_i ht
  exact (Cm h 1 t i z (by unfold Made.infoAt;rw [if_pos ht];exact hi') hz).vr ρ
 ·exact (Cm h _ t i z hi' hz).vr ρ⟩
end Go.Am
namespace Go.Am
open Go.Proofs
theorem Tryz.wgLib:Go.Conc.Lib.WgLib Tryz.prog Tryz.link:=by
 constructor<;>first|kernel_rfl|(intro w;kernel_rfl)|skip
theorem Tryz.aeH:Go.Mx.dQ Tryz.prog Tryz.mx:=by
 constructor<;>first|kernel_rfl|(intro w;kernel_rfl)|(constructor<;>first|kernel_rfl|(intro w;kernel_rfl)|skip)|skip
theorem Tryz.waits:uJ Tryz.prog Tryz.link:=⟨Tryz.wgLib,by kernel_rfl,by kernel_rfl,by kernel_rfl⟩
theorem Tryz.tOk:aW Tryz.prog Tryz.tT:=V7
theorem Tryz.fOk:fZ Tryz.prog Tryz.tF:=V8
instance Tryz.zeros:aI Tryz.prog:=UW (by kernel_rfl)
end Go.Am
