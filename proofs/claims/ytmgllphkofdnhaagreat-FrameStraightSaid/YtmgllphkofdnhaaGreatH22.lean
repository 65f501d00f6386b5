import Derived.Test.YtmgllphkofdnhaaGreatH21
set_option linter.unusedVariables false
set_option linter.unusedSectionVars false
set_option linter.unusedSimpArgs false
namespace Go.Am
noncomputable section
def opV(dst:Option Nat)(v:Value)(next:K):K:=fun c tmps h=>Option.rec (next c tmps h) (fun d=>setK v tmps d fun tmps=>next c tmps h) dst
def opR(P:Program)(o:Oper)(todo:List AItem)(next:K)(c:Ctx)(tmps:List Value)(r:Option (Next×AH)):Option AS:=match r with
 |some (.value v,h)=>opV o.dst v next c tmps h
 |some (.skip,h)=>opV o.dst undef next c tmps h
 |some (.enter f args,h)=>enterK P f args c todo tmps h
 |_=>none
def evL(tmps:List Value)(xs:List Operand):Option (List Value):=List.rec (some []) (fun x _ ih=>match evF tmps x with
 |some v=>match ih with
  |some l=>some (v :: l)
  |none=>none
 |none=>none) xs
def callG(Fu:Tr Func)(c:Ctx)(todo:List AItem)(tmps:List Value)(h:AH)(as:List Operand)(f:Option Value):Option AS:=match f with
 |some (.func (.func g) first cap)=>match Fu.get g with
  |some fn=>match evL tmps as with
   |some l=>some ⟨⟨g,⟨app (app first.toList (app l cap.toList)) (rep undef (fn.ntmps - (app first.toList (app l cap.toList)).length))⟩,[.code (fn.body.getD (.refuse "unsupported: a function without a Go body is entered"))],[],false,none,false⟩,⟨c.fn,⟨tmps⟩,todo,c.defers,false,c.round,c.dk⟩ :: c.cs,h⟩
   |none=>none
  |none=>none
 |_=>none
def callF(Fu:Tr Func)(c:Ctx)(todo:List AItem)(tmps:List Value)(h:AH)(op:Op):Option AS:=match op with
 | .call ⟨.value x,args,_⟩=>callG Fu c todo tmps h args.toList (evF tmps x)
 |_=>none
def op3(P:Program)(Fu:Tr Func)(o:Oper)(todo:List AItem)(next:K)(c:Ctx)(tmps:List Value)(h:AH):Option AS:=
 Option.rec (opR P o todo next c tmps (aexec P none h ⟨tmps⟩ o)) some (callF Fu c todo tmps h o.op)
def fStore(T:Tr TI)(h:AH)(t:Nat)(x v:Option Value):Option AH:=match x with
 |some (.pointer (some a))=>match v with
  |some v=>match T.get t with
   |some ⟨sz,_,_,_⟩=>bif Nat.beq sz 1 then match v with
     | .agg _=>none
     | .tuple _=>none
     | v=>h.setCell a v
    else none
   |none=>none
  |none=>none
 |_=>none
def fastS(T:Tr TI)(tmps:List Value)(h:AH)(op:Op):Option AH:=match op with
 | .store t x v=>fStore T h t (evF tmps x) (evF tmps v)
 |_=>none
def fastA(T:Tr TI)(tmps:List Value)(h:AH)(op:Op):Option (Value×AH):=match op with
 | .alloc t=>fAlloc T h t
 | .box t x=>fBox h t (evF tmps x)
 |_=>none
def op5(P:Program)(T:Tr TI)(Fu:Tr Func)(o:Oper)(todo:List AItem)(next:K)(c:Ctx)(tmps:List Value)(h:AH):Option AS:=
 Option.rec (op3 P Fu o todo next c tmps h) (fun h=>opV o.dst undef next c tmps h) (fastS T tmps h o.op)
def op4(P:Program)(T:Tr TI)(Fu:Tr Func)(o:Oper)(todo:List AItem)(next:K)(c:Ctx)(tmps:List Value)(h:AH):Option AS:=
 Option.rec (op5 P T Fu o todo next c tmps h) (fun r=>opV o.dst r.1 next c tmps r.2) (fastA T tmps h o.op)
def op2(P:Program)(T:Tr TI)(Fu:Tr Func)(o:Oper)(todo:List AItem)(next:K)(c:Ctx)(tmps:List Value)(h:AH):Option AS:=
 Option.rec (op4 P T Fu o todo next c tmps h) (fun v=>opV o.dst v next c tmps h) (fast T tmps h o.op)
def wantF(ops:Array Oper)(tmps:List Value)(g:Nat×Bool):Bool:=match nth ops.toList g.1 with
 |some o=>match o.dst with
  |some d=>match nth tmps d with
   |some (.bool b)=>b == g.2
   |_=>false
  |none=>false
 |none=>false
def opK(P:Program)(T:Tr TI)(Fu:Tr Func)(ops:Array Oper)(o:Oper)(todo:List AItem)(next:K):K:=fun c tmps h=>
 Option.rec (op2 P T Fu o todo next c tmps h) (fun g=>Bool.rec (opV o.dst undef next c tmps h) (op2 P T Fu o todo next c tmps h) (wantF ops tmps g)) o.guard
def orStop(todo:List AItem)(first:Bool)(q:K):K:=fun c tmps h=>Option.rec (Bool.rec (some (mk todo c tmps h)) none first) some (q c tmps h)
def opI(P:Program)(T:Tr TI)(Fu:Tr Func)(ops:Array Oper)(todo:List AItem)(next:K)(o:Option Oper):K:=Option.rec kNo (fun o=>opK P T Fu ops o todo next) o
def opsF(P:Program)(T:Tr TI)(Fu:Tr Func)(ops:Array Oper)(k:List AItem)(l:List Nat):Bool→K:=
 List.rec (fun _=>kGo k) (fun i l ih first=>orStop (.region ops (i :: l) :: k) first (opI P T Fu ops (.region ops (i :: l) :: k) (ih false) (nth ops.toList i))) l
def regF(P:Program)(T:Tr TI)(Fu:Tr Func)(ops:Array Oper)(d:Bool)(k:List AItem):K:=Bool.rec (opsF P T Fu ops k (List.range ops.toList.length) false) kNo d
def reF(T:Tr TI)(tmps:List Value)(h:AH)(ops:Array Oper)(js:List Nat):Bool:=List.rec true (fun j _ ih=>match nth ops.toList j with
 |some o=>match o.dst,o.guard with
  |some d,none=>match nth tmps d with
   |some v=>match fast T tmps h o.op with
    |some v'=>bif beqV 9 v v' && decide (kindOf o = .light) then ih else false
    |none=>false
   |none=>false
  |_,_=>false
 |none=>false) js
def dNext(T:Tr TI)(ops:Array Oper)(again:List Nat)(next:K):K:=fun c tmps h=>Bool.rec none (next c tmps h) (reF T tmps h ops again)
def dFin(T:Tr TI)(ops:Array Oper)(again:List Nat)(dst:Option Nat)(v:Value)(next:K):K:=fun c tmps h=>
 Option.rec (dNext T ops again next c tmps h) (fun d=>setK v tmps d fun tmps=>dNext T ops again next c tmps h) dst
def dR(P:Program)(T:Tr TI)(ops:Array Oper)(o:Oper)(again:List Nat)(todo:List AItem)(next:K)(c:Ctx)(tmps:List Value)(r:Option (Next×AH)):Option AS:=match r with
 |some (.value v,h)=>dFin T ops again o.dst v next c tmps h
 |some (.skip,h)=>dFin T ops again o.dst undef next c tmps h
 |some (.enter f args,h)=>enterK P f args c todo tmps h
 |_=>none
def d3(P:Program)(T:Tr TI)(Fu:Tr Func)(ops:Array Oper)(o:Oper)(again:List Nat)(todo:List AItem)(next:K)(c:Ctx)(tmps:List Value)(h:AH):Option AS:=
 Option.rec (dR P T ops o again todo next c tmps (aexec P none h ⟨tmps⟩ o)) some (callF Fu c todo tmps h o.op)
def d2(P:Program)(T:Tr TI)(Fu:Tr Func)(ops:Array Oper)(o:Oper)(again:List Nat)(todo:List AItem)(next:K)(c:Ctx)(tmps:List Value)(h:AH):Option AS:=
 Option.rec (d3 P T Fu ops o again todo next c tmps h) (fun h=>dFin T ops again o.dst undef next c tmps h) (fastS T tmps h o.op)
def dEff(P:Program)(T:Tr TI)(Fu:Tr Func)(ops:Array Oper)(o:Oper)(again:List Nat)(todo:List AItem)(next:K):K:=fun c tmps h=>
 Option.rec (d2 P T Fu ops o again todo next c tmps h) (fun r=>dFin T ops again o.dst r.1 next c tmps r.2) (fastA T tmps h o.op)
def dLight(T:Tr TI)(o:Oper)(next:K):K:=fun c tmps h=>match fast T tmps h o.op with
 |some v=>match o.dst with
  |some d=>bif Nat.blt d tmps.length then setK v tmps d fun tmps=>next c tmps h else none
  |none=>none
 |none=>none
def dAlloc(T:Tr TI)(ops:Array Oper)(o:Oper)(again:List Nat)(next:K):K:=fun c tmps h=>match o.op with
 | .alloc t=>match T.get t with
  |some ⟨_,_,some z,_⟩=>match o.dst with
   |some d=>bif Nat.blt d tmps.length then setK (.pointer (some ⟨h.n,0,none⟩)) tmps d fun tmps=>dNext T ops again next c tmps (h.new (.cells z.cells t (0,0))) else none
   |none=>none
  |_=>none
 |_=>none
def dOp(P:Program)(T:Tr TI)(Fu:Tr Func)(ops:Array Oper)(i:Nat)(o:Oper)(again:List Nat)(todo:List AItem)(next:K):K:=
 Option.rec (Kind.rec (dLight T o next) (dAlloc T ops o again next) (dEff P T Fu ops o again todo next) (cond (over ops i o) .effect (kindOf o))) (fun _=>kNo) o.guard
def dI(P:Program)(T:Tr TI)(Fu:Tr Func)(ops:Array Oper)(i:Nat)(again:List Nat)(todo:List AItem)(next:K)(o:Option Oper):K:=Option.rec kNo (fun o=>dOp P T Fu ops i o again todo next) o
def drawnF(P:Program)(T:Tr TI)(Fu:Tr Func)(ops:Array Oper)(k:List AItem)(l:List (Nat×List Nat)):Bool→K:=
 List.rec (fun _=>kGo k) (fun i l ih first=>orStop (.drawn ops (i :: l) :: k) first (dI P T Fu ops i.1 i.2 (.drawn ops (i :: l) :: k) (ih false) (nth ops.toList i.1))) l
def retK(k:List AItem):K:=fun c tmps h=>match c.round with
 |none=>some ⟨⟨c.fn,⟨tmps⟩,.code .ret :: k,c.defers,true,none,c.dk⟩,c.cs,h⟩
 |some _=>none
def exitK(id:Nat)(k:List AItem):K:=fun c tmps h=>match aexitTo id k with
 |some k=>some (mk k c tmps h)
 |none=>none
def codeF(P:Program)(T:Tr TI)(Fu:Tr Func)(x:Code):List AItem→K:=
 Code.rec (motive:=fun _=>List AItem→K)
  (skip:=kGo) (region:=fun _ ops d=>regF P T Fu ops d) (seq:=fun _ b iha _ k=>iha (.code b :: k)) (cond:=fun x _ _ iha ihb k=>condK (iha k) (ihb k) x)
  (block:=fun id _ ih k=>ih (.inBlock id :: k)) (loop:=fun b ih k=>ih (.inLoop b :: k)) (exit:=exitK) (goto:=fun _ _=>kNo) (label:=fun _ _=>kNo) (scope:=fun _ _ _=>kNo)
  (ret:=retK) (rangeFunc:=fun _ _ _ _ _ _ _=>kNo) (refuse:=fun _ _=>kNo) x
def itemF(P:Program)(T:Tr TI)(Fu:Tr Func)(x:AItem):List AItem→K:=
 AItem.casesOn (motive:=fun _=>List AItem→K) x (code:=codeF P T Fu) (inBlock:=fun _=>kGo) (inLoop:=fun b k=>codeF P T Fu b (.inLoop b :: k)) (inScope:=fun _=>kGo)
  (region:=fun ops l k=>opsF P T Fu ops k l true) (drawn:=fun ops l k=>drawnF P T Fu ops k l true) (inRangeFunc:=fun _ _=>kNo) (endRangeFunc:=fun _ _=>kNo) (beginRound:=fun _=>kNo)
def todoF(P:Program)(T:Tr TI)(Fu:Tr Func)(todo:List AItem):K:=List.casesOn (motive:=fun _=>K) todo kNo (itemF P T Fu)
def resL(tmps:List Value)(l:List ResultVar):Option (List Value):=List.rec (some []) (fun x _ ih=>match x with
 | .tmp t=>match nth tmps t with
  |some v=>match ih with
   |some m=>some (v :: m)
   |none=>none
  |none=>none
 |_=>none) l
def resV(l:List Value):Value:=match l with
 | [v]=>v
 |l=>.tuple ⟨l⟩
def backF(T:Tr TI)(h:AH)(cs:List AFr)(fn:FuncId)(tmps:Array Value)(todo:List AItem)(defers:List Deferred)(ret:Bool)(round:Option Nat)(dk:Bool)(v:Value):Option AS:=match todo with
 | .region ops (i :: l) :: k=>match nth ops.toList i with
  |some o=>match o.dst with
   |some d=>setK v tmps.toList d fun tmps=>some ⟨⟨fn,⟨tmps⟩,.region ops l :: k,defers,ret,round,dk⟩,cs,h⟩
   |none=>some ⟨⟨fn,tmps,.region ops l :: k,defers,ret,round,dk⟩,cs,h⟩
  |none=>none
 | .drawn ops ((i,again) :: l) :: k=>match nth ops.toList i with
  |some o=>match kindOf o with
   | .effect=>match o.dst with
    |some d=>setK v tmps.toList d fun tmps=>bif reF T tmps h ops again then some ⟨⟨fn,⟨tmps⟩,.drawn ops l :: k,defers,ret,round,dk⟩,cs,h⟩ else none
    |none=>bif reF T tmps.toList h ops again then some ⟨⟨fn,tmps,.drawn ops l :: k,defers,ret,round,dk⟩,cs,h⟩ else none
   |_=>none
  |none=>none
 |_=>none
def retF(T:Tr TI)(Fu:Tr Func)(cs:List AFr)(h:AH)(fn:FuncId)(tmps:Array Value)(defers:List Deferred)(dk:Bool):Option AS:=match defers with
 | []=>match dk with
  |false=>match cs with
   |c :: cs=>match Fu.get fn with
    |some f=>match resL tmps.toList f.results.toList with
     | some l=>AFr.casesOn c (fun fn tmps todo defers ret round dk=>backF T h cs fn tmps todo defers ret round dk (resV l))
     | none=>none
    |none=>none
   | []=>none
  |true=>none
 |_=>none
def frF(P:Program)(T:Tr TI)(Fu:Tr Func)(cs:List AFr)(h:AH)(fn:FuncId)(tmps:Array Value)(todo:List AItem)(defers:List Deferred)(ret:Bool)(round:Option Nat)(dk:Bool):Option AS:=
 Bool.rec (todoF P T Fu todo ⟨fn,defers,round,dk,cs⟩ tmps.toList h) (retF T Fu cs h fn tmps defers dk) ret
def fstepF(P:Program)(T:Tr TI)(Fu:Tr Func)(s:AS):Option AS:=AS.casesOn s fun fr cs h=>AFr.casesOn fr (frF P T Fu cs h)
def frunF(P:Program)(pl:Plan)(T:Tr TI)(Fu:Tr Func)(n:Nat):AS→Option Res:=Nat.rec (fun s=>some (.go s)) (fun _ ih s=>Option.rec (slowK P pl s ih) ih (fstepF P T Fu s)) n
end
structure FunOk(P:Program)(Fu:Tr Func):Prop where
 get:∀f fn,Fu.get f=some fn→P.funcs[f]? = some fn∧plainFn P f=true
end Go.Am
namespace Go.Am
noncomputable section
def undOf(P:Program)(d:TypeDesc):Option TypeDesc:=match d with
 | .named _ u=>(P.info? u).map TypeInfo.desc
 |d=>some d
def placesL(P:Program)(l:List Field):Option (List (Nat×Nat)):=List.rec (some []) (fun f _ ih=>match P.info? f.type with
 |some d=>match ih with
  |some m=>some ((f.offset,d.size) :: m)
  |none=>none
 |none=>none) l
def entryT(P:Program)(d:TypeInfo):Option TI:=match undOf P d.desc with
 |some (.struct fields)=>match placesL P fields.toList with
  |some pl=>some ⟨d.size,.struct fields,d.zero,pl⟩
  |none=>none
 |some u=>some ⟨d.size,u,d.zero,[]⟩
 |none=>none
def tabT(P:Program)(l:List TypeInfo):Nat→Tr TI:=List.rec (fun _=>.nil) (fun d _ ih i=>match entryT P d with
 |some e=>(ih (i+1)).set i e
 |none=>ih (i+1)) l
def tabF(l:List Func):Nat→Tr Func:=List.rec (fun _=>.nil) (fun fn _ ih i=>bif fn.body.isSome && !(fn.name == "runtime.NumGoroutine") then (ih (i+1)).set i fn else ih (i+1)) l
end
section
variable{P:Program}
theorem placesL_some:∀(l:List Field) {pl:List (Nat×Nat)},placesL P l=some pl→l.map (fun f=>(f.offset,P.cellsOf f.type))=pl∧∀f∈l,∃d,P.info? f.type=some d
 | [],pl,e=>by cases e;exact ⟨rfl,fun f hf=>(by cases hf)⟩
 |f :: l,pl,e=>by
  replace e:(match P.info? f.type with
   |some d=>match placesL P l with
    |some m=>some ((f.offset,d.size) :: m)
    |none=>none
   |none=>none)=some pl:=e
  split at e
  ·rename_i d hd
   split at e
   ·rename_i m hm
    cases e
    obtain ⟨h1,h2⟩:=placesL_some l hm
    refine ⟨?_,fun g hg=>?_⟩
    ·rw [List.map_cons,h1]
     unfold Program.cellsOf
     rw [hd]
     rfl
    ·rcases List.mem_cons.1 hg with rfl|hg
     · exact ⟨d,hd⟩
     · exact h2 g hg
   ·cases e
  ·cases e
theorem entryT_ok{t:Nat}{d:TypeInfo}{i:TI}(hd:P.info? t=some d)(e:entryT P d=some i) :
  P.underlying t=some i.und∧(∃d,P.info? t=some d∧d.size=i.size)∧zeroOf P t=i.zero∧∀fields,i.und = .struct fields→fields.toList.map (fun f=>(f.offset,P.cellsOf f.type))=i.places∧∀f∈fields.toList,∃d,P.info? f.type=some d:=by
 have hu:P.underlying t=undOf P d.desc:=by
  unfold Program.underlying undOf
  rw [hd]
  obtain ⟨desc⟩:=d
  cases desc<;>rfl
 have hz:zeroOf P t=d.zero:=by unfold zeroOf;rw [hd];rfl
 rw [hu]
 unfold entryT at e
 split at e
 ·rename_i fields hf
  split at e
  ·rename_i pl hpl
   cases e
   rw [hf]
   refine ⟨rfl,⟨d,hd,rfl⟩,hz,fun fs hfs=>?_⟩
   cases hfs
   exact placesL_some _ hpl
  ·cases e
 ·rename_i u hns hu'
  cases e
  rw [hu']
  exact ⟨rfl,⟨d,hd,rfl⟩,hz,fun fs hfs=>absurd hfs (hns fs)⟩
 ·cases e
theorem tabT_get:∀(l:List TypeInfo) (i:Nat),(∀j d,l[j]? = some d→P.info? (i+j)=some d)→∀t ti,(tabT P l i).get t=some ti →
  P.underlying t=some ti.und∧(∃d,P.info? t=some d∧d.size=ti.size)∧zeroOf P t=ti.zero∧∀fields,ti.und = .struct fields→fields.toList.map (fun f=>(f.offset,P.cellsOf f.type))=ti.places∧∀f∈fields.toList,∃d,P.info? f.type=some d
 | [],i,hl,t,ti,e=>by cases e
 |d :: l,i,hl,t,ti,e=>by
  have ih:=tabT_get l (i+1) fun j d' hj=>by
   have:=hl (j+1) d' (by simpa using hj)
   rw [show i+1+j=i+(j+1) from by omega]
   exact this
  replace e:(match entryT P d with
   |some en=>(tabT P l (i+1)).set i en
   |none=>tabT P l (i+1)).get t=some ti:=e
  split at e
  ·rename_i en hen
   rw [Tr.get_set] at e
   split at e
   ·rename_i ht
    cases e
    subst ht
    exact entryT_ok (hl 0 d rfl) hen
   ·exact ih t ti e
  ·exact ih t ti e
theorem tabT_ok:TabOk P (tabT P P.types.toList 0):=
 ⟨tabT_get P.types.toList 0 fun j d hj=>by
  have h1:P.types[j]? = some d:=by simpa using hj
  have h2:j < P.types.size:=(Array.getElem?_eq_some_iff.1 h1).1
  rw [Nat.zero_add]
  unfold Tables.info?
  rw [if_pos h2]
  exact h1⟩
theorem tabF_get:∀(l:List Func) (i:Nat),(∀j d,l[j]? = some d→P.funcs[i+j]? = some d)→∀f fn,(tabF l i).get f=some fn→P.funcs[f]? = some fn∧plainFn P f=true
 | [],i,hl,t,ti,e=>by cases e
 |d :: l,i,hl,f,fn,e=>by
  have ih:=tabF_get l (i+1) fun j d' hj=>by
   have:=hl (j+1) d' (by simpa using hj)
   rw [show i+1+j=i+(j+1) from by omega]
   exact this
  replace e:(bif d.body.isSome && !(d.name == "runtime.NumGoroutine") then (tabF l (i+1)).set i d else tabF l (i+1)).get f=some fn:=e
  cases hb:(d.body.isSome && !(d.name == "runtime.NumGoroutine")) with
  |true=>
   rw [hb] at e
   dsimp only [cond_true] at e
   rw [Tr.get_set] at e
   split at e
   ·rename_i ht
    cases e
    subst ht
    have h0:=hl 0 d rfl
    refine ⟨h0,?_⟩
    unfold plainFn
    rw [show f+0=f from rfl] at h0
    rw [h0]
    exact hb
   ·exact ih f fn e
  |false=>
   rw [hb] at e
   exact ih f fn e
theorem tabF_ok:FunOk P (tabF P.funcs.toList 0):=
 ⟨tabF_get P.funcs.toList 0 fun j d hj=>by
  rw [Nat.zero_add]
  simpa using hj⟩
end
end Go.Am
