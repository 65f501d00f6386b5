import GoSem.Machine.Exec
import Derived.Orders
import Derived.Test.YtmgllphkofdnhaaGreatH5
set_option linter.unusedVariables false
set_option linter.unusedSectionVars false
set_option linter.unusedSimpArgs false
namespace Go.Am
open Go.Ren (grow EvO Guar Rely)
inductive AItem where
 | code (c:Code)
 | inBlock (id:Nat)
 | inLoop (body:Code)
 | inScope (body:Code)
 | region (ops:Array Oper) (l:List Nat)
 | drawn (ops:Array Oper) (l:List (Nat×List Nat))
 | inRangeFunc (l:Nat)
 | endRangeFunc (l:Nat)
 | beginRound
structure AFr where
 fn:FuncId
 tmps:Array Value
 todo:List AItem
 defers:List Deferred
 ret:Bool
 round:Option Nat
 dk:Bool:=false
structure AS where
 fr:AFr
 cs:List AFr
 h:AH
def aeval(tmps:Array Value):Operand→Value
 | .tmp t=>tmps.getD t undef
 | .const v=>v
 | .global g=>.pointer (some ⟨g,0,none⟩)
 | .func f=>.func (.func f) #[] #[]
def operOk(o:Oper):Bool:=o.op.operands.toList.all fun
 | .const v=>plainV 9 v
 | .global _=>false
 | _=>true
def AFr.enter(P:Program)(f:FuncId)(args:Array Value):AFr:=
 let fn:=P.funcs[f]?
 { fn:=f,tmps:=args ++ Array.replicate ((fn.map (·.ntmps)).getD 0 - args.size) undef,
   todo:=[.code ((fn.bind (·.body)).getD (.refuse "unsupported: a function without a Go body is entered"))],defers:=[],ret:=false,round:=none }
def AFr.roundAt(l:Nat)(f:FuncId)(tmps:Array Value)(assign body:Code):AFr:=
 { fn:=f,tmps,todo:=[.code assign,.beginRound,.code body],defers:=[],ret:=false,round:=some l }
def aexitTo(id:Nat):List AItem→Option (List AItem)
 | .inBlock id' :: k=>if id' == id then some k else aexitTo id k
 | _ :: k=>aexitTo id k
 | []=>none
def agotoIn(l:Nat):List AItem→Option (List AItem)
 | .inScope body :: k=>
   match findLabel body l with
   |some rest=>some (.code rest :: .inScope body :: k)
   |none=>agotoIn l k
 | _ :: k=>agotoIn l k
 | []=>none
def setTmp(tmps:Array Value)(dst:Option Tmp)(v:Value):Array Value:=
 match dst with
 | some d=>tmps.setIfInBounds d v
 | none=>tmps
inductive ItR(ρ:Env):AItem→Item→Prop
 | code (c:Code):ItR ρ (.code c) (.code c)
 | inBlock (id:Nat):ItR ρ (.inBlock id) (.inBlock id)
 | inLoop (b:Code):ItR ρ (.inLoop b) (.inLoop b)
 | inScope (b:Code):ItR ρ (.inScope b) (.inScope b)
 | region (ops:Array Oper) (l:List Nat):ItR ρ (.region ops l) (.inRegion ops l)
 | inRangeFunc {l l':Nat} (h:ρ.ob l l'):ItR ρ (.inRangeFunc l) (.inRangeFunc l')
 | endRangeFunc {l l':Nat} (h:ρ.ob l l'):ItR ρ (.endRangeFunc l) (.endRangeFunc l')
 | beginRound:ItR ρ .beginRound .beginRound
theorem ItR.mono{ρ σ:Env}(h:ρ.Le σ){a:AItem}{b:Item}(k:ItR ρ a b):ItR σ a b:=by
 cases k with
 | code c=>exact .code c
 | inBlock c=>exact .inBlock c
 | inLoop c=>exact .inLoop c
 | inScope c=>exact .inScope c
 | region o l=>exact .region o l
 | inRangeFunc k=>exact .inRangeFunc (h.ob k)
 | endRangeFunc k=>exact .endRangeFunc (h.ob k)
 | beginRound=>exact .beginRound
structure FB(ρ:Env)(a:AFr)(f:Frame):Prop where
 fn:f.fn=a.fn
 defers:LR (DR ρ) a.defers f.defers
 mode:f.mode=if a.ret then .returning else .run
 kind:f.kind=if a.dk then .deferred else .normal
 round:OptR ρ.ob a.round f.roundOf
theorem FB.ne{ρ:Env}{a:AFr}{f:Frame}(h:FB ρ a f):f.kind ≠ .early:=by rw [h.kind];split<;>simp
theorem FB.normal{ρ:Env}{a:AFr}{f:Frame}(h:FB ρ a f)(hd:a.dk=false):f.kind = .normal:=by rw [h.kind,hd];rfl
theorem FB.mono{ρ σ:Env}(h:ρ.Le σ){a:AFr}{f:Frame}(k:FB ρ a f):FB σ a f:=
 ⟨k.fn,k.defers.mono fun _ _ x=>x.mono h,k.mode,k.kind,k.round.mono fun _ _ x=>h.ob x⟩
structure F0(ρ:Env)(a:AFr)(f:Frame):Prop extends FB ρ a f where
 tmps:AR (VR ρ) a.tmps f.tmps
 todo:LR (ItR ρ) a.todo f.todo
theorem F0.mono{ρ σ:Env}(h:ρ.Le σ){a:AFr}{f:Frame}(k:F0 ρ a f):F0 σ a f:=
 ⟨k.toFB.mono h,k.tmps.mono fun _ _ x=>x.mono h,k.todo.mono fun _ _ x=>x.mono h⟩
section
variable{P:Program}{ρ σ:Env}
theorem vr_getD{a a':Array Value}(h:AR (VR ρ) a a')(t:Nat):VR ρ (a.getD t undef) (a'.getD t undef):=by
 have:=h.get t
 rw [Array.getD_eq_getD_getElem?,Array.getD_eq_getD_getElem?]
 revert this
 generalize a[t]? = x
 generalize a'[t]? = y
 intro this
 cases this with
 | none=>exact vr_undef
 | some h=>exact h
theorem eval_r{o:Oper}(hk:operOk o=true){a a':Array Value}(h:AR (VR ρ) a a'){e:Operand→Value}(he:e=fun x=>match x with | .tmp t=>a'.getD t undef | .const v=>v | .global g=>.pointer (some ⟨g,0,none⟩) | .func f=>.func (.func f) #[] #[]):∀x∈o.op.operands,VR ρ (aeval a x) (e x):=by
 intro x hx
 subst he
 have:=List.all_eq_true.1 hk x (by simpa using hx)
 cases x with
 | tmp t=>exact vr_getD h t
 | const v=>exact (plain_of this).vr ρ
 | global g=>cases this
 | func f=>exact .func (.func f) rfl (fun i x y h=>by simp at h) rfl (fun i x y h=>by simp at h)
theorem frame_eval(f:Frame):f.eval=fun x=>match x with | .tmp t=>f.tmps.getD t undef | .const v=>v | .global g=>.pointer (some ⟨g,0,none⟩) | .func f=>.func (.func f) #[] #[]:=by
 funext x
 cases x<;>rfl
theorem exitTo_r{k:List AItem}{k':List Item}(h:LR (ItR ρ) k k')(id:Nat):OptR (LR (ItR ρ)) (aexitTo id k) (exitTo id k'):=by
 induction h with
 | nil=>exact .none
 | cons h hl ih=>
   cases h<;>first|exact ih|skip
   rename_i id'
   unfold aexitTo exitTo
   split
   ·exact .some hl
   ·exact ih
theorem gotoIn_r{k:List AItem}{k':List Item}(h:LR (ItR ρ) k k')(l:Nat):OptR (LR (ItR ρ)) (agotoIn l k) (gotoIn l k'):=by
 induction h with
 | nil=>exact .none
 | cons h hl ih=>
   cases h<;>first|exact ih|skip
   rename_i b
   unfold agotoIn gotoIn
   cases findLabel b l with
   |some rest=>exact .some (LR.cons (.code _) (LR.cons (.inScope _) hl))
   |none=>exact ih
theorem setTmp_r{a a':Array Value}(h:AR (VR ρ) a a')(d:Option Tmp){v v':Value}(hv:VR ρ v v'):AR (VR ρ) (setTmp a d v) (setTmp a' d v'):=by
 cases d with
 | none=>exact h
 | some d=>exact h.set d hv
theorem enter_r(f:FuncId){a a':Array Value}(h:AR (VR ρ) a a'):F0 ρ (AFr.enter P f a) (Frame.enter P f a' .normal):=by
 refine ⟨⟨rfl,.nil,rfl,rfl,.none⟩,?_,.cons (.code _) .nil⟩
 show AR (VR ρ) (a ++ _) (a' ++ _)
 rw [←h.1]
 exact h.append (.refl fun x hx=>by rw [Array.mem_replicate] at hx;rw [hx.2];exact vr_undef)
theorem round_r{l l':Nat}(hl:ρ.ob l l')(f:FuncId){a a':Array Value}(h:AR (VR ρ) a a')(x b:Code):F0 ρ (AFr.roundAt l f a x b) (Frame.round l' f a' x b .normal):=
 ⟨⟨rfl,.nil,rfl,rfl,.some hl⟩,h,.cons (.code _) (.cons .beginRound (.cons (.code _) .nil))⟩
theorem seen_sub(fn:FuncId)(es:Array Event):∀e∈seen P fn es,e∈es:=by
 unfold seen
 dsimp only
 rw [←Array.foldl_toList]
 have key:∀(l:List Event) (q:Bool) (kept:Array Event),(∀e∈kept,e∈es)→(∀e∈l,e∈es)→∀e∈(l.foldl (fun (x:Bool×Array Event) e=>match x with|(q,kept)=>match e.loc with | .mark (.extern f)=>((P.funcs[f]?).any (·.norace),kept)|_=>(q,if q && !e.sync then kept else kept.push e)) (q,kept)).2,e∈es:=by
   intro l
   induction l with
   |nil=>intro q kept h1 _;exact h1
   |cons x l ih=>
    intro q kept h1 h2
    have hx:=h2 x (by simp)
    have h2':∀e∈l,e∈es:=fun e he=>h2 e (by simp [he])
    rw [List.foldl_cons]
    have hp:∀e∈kept.push x,e∈es:=fun e he=>by
      rcases Array.mem_push.1 he with he|he
      ·exact h1 e he
      ·rw [he];exact hx
    dsimp only
    split
    · exact ih _ _ h1 h2'
    · split
      ·exact ih _ _ h1 h2'
      ·exact ih _ _ hp h2'
 exact key es.toList _ #[] (fun e he=>by simp at he) (fun e he=>by simpa using he)
end
end Go.Am
namespace Go.Am
def Edge(ops:Array Oper)(j i:Nat):Prop:=∃o e,ops[i]? = some o∧e∈o.after∧Region.binds .any e=true∧e.on=j
inductive Lin(ops:Array Oper):List Nat→Prop
 | nil:Lin ops []
 | cons {i:Nat} {l:List Nat} (h:∀j,Edge ops j i→j∉i :: l) (hn:i∉l) (k:Lin ops l):Lin ops (i :: l)
def Down(ops:Array Oper)(l:List Nat):Prop:=∀i j,i < ops.size→i∉l→Edge ops j i→j∉l
def backOk(ops:Array Oper):Bool:=(List.range ops.size).all fun i=>match ops[i]? with
 | none=>true
 | some o=>o.after.all fun e=> !Region.binds .any e || decide (e.on < i)
theorem back_lt{ops:Array Oper}(h:backOk ops=true){i j:Nat}(hi:i < ops.size)(e:Edge ops j i):j < i:=by
 obtain ⟨o,ed,h1,h2,h3,rfl⟩:=e
 have:=List.all_eq_true.1 h i (by simpa using hi)
 rw [h1] at this
 dsimp only at this
 have:=Array.all_eq_true'.1 this ed h2
 simpa [h3] using this
theorem filter_lt{α:Type}{p q:α→Bool}(hpq:∀x,q x=true→p x=true):∀ {l:List α},(∃x∈l,p x=true∧q x=false)→(l.filter q).length < (l.filter p).length:=by
 have le:∀l:List α,(l.filter q).length≤(l.filter p).length:=by
   intro l
   induction l with
   |nil=>simp
   |cons x l ih=>
    rw [List.filter_cons,List.filter_cons]
    cases hq:q x with
    | true=>rw [if_pos rfl,if_pos (hpq x hq)];simpa using ih
    | false=>
      rw [if_neg (by simp)]
      split
      ·simp;omega
      ·exact ih
 intro l
 induction l with
 | nil=>rintro ⟨x,hx,_⟩;simp at hx
 | cons x l ih=>
   rintro ⟨y,hy,h1,h2⟩
   rw [List.filter_cons,List.filter_cons]
   rcases List.mem_cons.1 hy with rfl|hy
   ·rw [if_neg (by simp [h2]),if_pos h1]
    have:=le l
    simp;omega
   ·have:=ih ⟨y,hy,h1,h2⟩
    cases hq:q x with
    | true=>rw [if_pos rfl,if_pos (hpq x hq)];simpa using this
    | false=>
      rw [if_neg (by simp)]
      split
      ·simp;omega
      ·exact this
def unl(n:Nat)(listed:Array Bool):List Nat:=(List.range n).filter fun i=> !listed.getD i true
theorem mem_unl{n:Nat}{listed:Array Bool}{i:Nat}:i∈unl n listed↔i < n∧listed.getD i true=false:=by simp [unl]
theorem getD_set{listed:Array Bool}{i j:Nat}(hi:i < listed.size)(d:Bool):(listed.setIfInBounds i true).getD j d=if i=j then true else listed.getD j d:=by
 rw [Array.getD_eq_getD_getElem?,Array.getD_eq_getD_getElem?,Array.getElem?_setIfInBounds]
 by_cases e:i=j
 · subst e;simp [hi]
 · simp [e]
theorem lin_go{ops:Array Oper}(hb:backOk ops=true):∀(fuel t:Nat) (listed:Array Bool),listed.size=ops.size→(unl ops.size listed).length≤fuel→Lin ops (Region.linearise.go .any ops fuel t listed [])∧∀i,i∈Region.linearise.go .any ops fuel t listed []↔i∈unl ops.size listed:=by
 intro fuel
 induction fuel with
 | zero=>
   intro t listed hs hle
   have:unl ops.size listed=[]:=List.length_eq_zero_iff.1 (by omega)
   rw [this]
   exact ⟨.nil,fun i=>Iff.rfl⟩
 | succ fuel ih=>
   intro t listed hs hle
   simp only [Region.linearise.go]
   change (Lin ops (match (Region.ready .any ops listed)[t % (Region.ready .any ops listed).length]? with
    | some i=>Region.linearise.go .any ops fuel (t / (Region.ready .any ops listed).length) (listed.setIfInBounds i true) [i]
    | none=>[].reverse))∧∀i,i∈(match (Region.ready .any ops listed)[t % (Region.ready .any ops listed).length]? with
    | some i=>Region.linearise.go .any ops fuel (t / (Region.ready .any ops listed).length) (listed.setIfInBounds i true) [i]
    | none=>[].reverse)↔i∈unl ops.size listed
   have ready:∀i,i∈Region.ready .any ops listed↔i < ops.size∧listed.getD i true=false∧∀j,Edge ops j i→listed.getD j false=true:=by
    intro i
    unfold Region.ready
    simp only [List.mem_filter,List.mem_range,Bool.and_eq_true,Bool.not_eq_true']
    constructor
    · rintro ⟨h1,h2,h3⟩
      refine ⟨h1,h2,?_⟩
      rintro j ⟨o,e,e1,e2,e3,rfl⟩
      rw [e1] at h3
      simp only [Option.map_some,Option.getD_some] at h3
      have:=Array.all_eq_true'.1 h3 e e2
      simpa [e3] using this
    · rintro ⟨h1,h2,h3⟩
      refine ⟨h1,h2,?_⟩
      have:ops[i]? = some ops[i]:=by simp [h1]
      rw [this]
      simp only [Option.map_some,Option.getD_some]
      refine Array.all_eq_true'.2 fun e he=>?_
      cases hb:Region.binds .any e with
      |false=>rfl
      |true=>simpa using h3 e.on ⟨_,e,this,he,hb,rfl⟩
   cases hi:(Region.ready .any ops listed)[t % (Region.ready .any ops listed).length]? with
   |none=>
    have hnil:Region.ready .any ops listed=[]:=by
      cases hr:Region.ready .any ops listed with
      |nil=>rfl
      |cons x xs=>
       rw [hr] at hi
       have hlt:t % (x :: xs).length < (x :: xs).length:=Nat.mod_lt _ (by simp)
       simp at hi
       simp at hlt
       omega
    have hun:∀n i,i < n→i∉unl ops.size listed:=by
      intro n
      induction n with
      |zero=>intro i h;omega
      |succ n ihn=>
       intro i hin hmem
       obtain ⟨h1,h2⟩:=mem_unl.1 hmem
       have hr:i∈Region.ready .any ops listed:=(ready i).2 ⟨h1,h2,fun j hj=>by
        have hlt:=back_lt hb h1 hj
        have:=ihn j (by omega)
        rw [mem_unl] at this
        have hjn:j < ops.size:=by omega
        have h3:listed.getD j true=true:=by
         cases h:listed.getD j true with
         |true=>rfl
         |false=>exact absurd ⟨hjn,h⟩ this
        rw [Array.getD_eq_getD_getElem?] at h3 ⊢
        have:listed[j]? = some (listed[j]'(hs ▸ hjn)):=by simp [hs,hjn]
        rw [this] at h3 ⊢
        exact h3⟩
       rw [hnil] at hr
       cases hr
    refine ⟨.nil,fun i=>⟨fun h=>by simp at h,fun h=>absurd h (hun (i+1) i (by omega))⟩⟩
   |some i=>
    dsimp only
    rw [linearise_go_acc,List.reverse_singleton,List.singleton_append]
    obtain ⟨h1,h2,h3⟩:=(ready i).1 (List.mem_of_getElem? hi)
    have hi':i < listed.size:=by omega
    have hmem:∀k,k∈unl ops.size (listed.setIfInBounds i true)↔k∈unl ops.size listed∧k≠i:=by
      intro k
      rw [mem_unl,mem_unl,getD_set hi']
      by_cases e:i=k
      ·subst e;simp
      ·rw [if_neg e];exact ⟨fun h=>⟨h,Ne.symm e⟩,fun h=>h.1⟩
    have hlt:(unl ops.size (listed.setIfInBounds i true)).length < (unl ops.size listed).length:=by
      refine filter_lt (fun k hk=>?_) ⟨i,by simpa using h1,by simpa using h2,by rw [getD_set hi'];simp⟩
      rw [getD_set hi'] at hk
      by_cases e:i=k
      ·rw [if_pos e] at hk;cases hk
      ·rw [if_neg e] at hk;exact hk
    obtain ⟨k1,k2⟩:=ih (t / (Region.ready .any ops listed).length) (listed.setIfInBounds i true) (by simpa using hs) (by omega)
    refine ⟨.cons (fun j hj hjm=>?_) (fun hm=>?_) k1,fun k=>?_⟩
    · have hl:=h3 j hj
      have hl':listed.getD j true=true:=by
       rw [Array.getD_eq_getD_getElem?] at hl ⊢
       cases h:listed[j]? with
       |none=>rfl
       |some x=>rw [h] at hl;exact hl
      rcases List.mem_cons.1 hjm with rfl|hjm
      ·rw [h2] at hl';cases hl'
      ·have:=(hmem j).1 ((k2 j).1 hjm)
       have:=(mem_unl.1 this.1).2
       rw [hl'] at this
       cases this
    · exact ((hmem i).1 ((k2 i).1 hm)).2 rfl
    · rw [List.mem_cons,k2,hmem]
      constructor
      ·rintro (rfl|h)
       ·exact mem_unl.2 ⟨h1,h2⟩
       ·exact h.1
      ·intro h
       by_cases e:k=i
       ·exact .inl e
       ·exact .inr ⟨h,e⟩
theorem schedule_lin{ops:Array Oper}(hb:backOk ops=true)(t:Nat):Lin ops (Region.schedule true ops t)∧∀i,i∈Region.schedule true ops t↔i < ops.size:=by
 have hs:Region.schedule true ops t=Region.linearise.go .any ops ops.size t (Array.replicate ops.size false) []:=by
   simp [Region.schedule,Region.linearise]
 rw [hs]
 have hmem:∀i,i∈unl ops.size (Array.replicate ops.size false)↔i < ops.size:=by
   intro i
   rw [mem_unl]
   constructor
   ·exact fun h=>h.1
   ·intro h
    refine ⟨h,?_⟩
    rw [Array.getD_eq_getD_getElem?]
    simp [Array.getElem?_replicate,h]
 obtain ⟨h1,h2⟩:=lin_go hb ops.size t (Array.replicate ops.size false) (by simp) (by
   have:=List.length_filter_le (fun i=> !(Array.replicate ops.size false).getD i true) (List.range ops.size)
   simpa [unl] using this)
 exact ⟨h1,fun i=>(h2 i).trans (hmem i)⟩
inductive Anc(ops:Array Oper):Nat→Nat→Prop
 | one {i j:Nat} (h:Edge ops j i):Anc ops j i
 | more {i j k:Nat} (h:Edge ops k i) (t:Anc ops j k):Anc ops j i
theorem Down.anc{ops:Array Oper}{l:List Nat}(hd:Down ops l)(hb:backOk ops=true){i j:Nat}(h:Anc ops j i):i < ops.size→i∉l→j∉l:=by
 induction h with
 | one h=>intro hi hn;exact hd _ _ hi hn h
 | more h t ih=>intro hi hn;exact ih (Nat.lt_trans (back_lt hb hi h) hi) (hd _ _ hi hn h)
theorem Lin.head{ops:Array Oper}{i:Nat}{l:List Nat}(h:Lin ops (i :: l))(hd:Down ops (i :: l))(hb:backOk ops=true)(hi:i < ops.size){j:Nat}(ha:Anc ops j i):j∉i :: l:=by
 cases h with
 | cons h hn k=>
   cases ha with
   |one e=>exact h _ e
   |more e t=>exact hd.anc hb t (Nat.lt_trans (back_lt hb hi e) hi) (h _ e)
theorem Lin.down{ops:Array Oper}{i:Nat}{l:List Nat}(h:Lin ops (i :: l))(hd:Down ops (i :: l)):Down ops l:=by
 intro k j hk hn e
 cases h with
 | cons h hn' k'=>
   by_cases hki:k=i
   ·subst hki
    exact fun hm=>h j e (List.mem_cons_of_mem _ hm)
   ·exact fun hm=>hd k j hk (fun hm'=>(List.mem_cons.1 hm').elim hki hn) e (List.mem_cons_of_mem _ hm)
def maskAt(t:List Nat)(n i:Nat):Nat:=bif Nat.blt i n then t.getD (n - 1 - i) 0 else 0
def depMask(ops:Array Oper):Nat→List Nat
 | 0=>[]
 | n+1=>
   let t:=depMask ops n
   (match ops[n]? with
   |none=>0
   |some o=>o.after.toList.foldr (fun e acc=>bif Region.binds .any e then Nat.lor (Nat.lor acc (Nat.shiftLeft 1 e.on)) (maskAt t n e.on) else acc) 0) :: t
def dep(ops:Array Oper)(n i j:Nat):Bool:=Nat.testBit (maskAt (depMask ops n) n i) j
theorem dep_anc{ops:Array Oper}:∀(n i j:Nat),dep ops n i j=true→Anc ops j i:=by
 intro n
 unfold dep
 induction n with
 | zero=>
   intro i j h
   unfold maskAt at h
   have:Nat.blt i 0=false:=by cases i<;>rfl
   rw [this] at h
   simp at h
 | succ n ih=>
   intro i j h
   unfold maskAt at h
   cases hlt:Nat.blt i (n+1) with
   |false=>rw [hlt] at h;simp at h
   |true=>
    rw [hlt,cond_true] at h
    have hi:i < n+1:=Nat.blt_eq ▸ hlt
    by_cases e:i=n
    · subst e
      rw [show i+1 - 1 - i=0 by omega] at h
      simp only [depMask,List.getD_cons_zero] at h
      cases ho:ops[i]? with
      |none=>rw [ho] at h;simp at h
      |some o=>
       rw [ho] at h
       dsimp only at h
       have key:∀(l:List Go.Edge),(∀e∈l,e∈o.after.toList)→Nat.testBit (l.foldr (fun e acc=>bif Region.binds .any e then Nat.lor (Nat.lor acc (Nat.shiftLeft 1 e.on)) (maskAt (depMask ops i) i e.on) else acc) 0) j=true→Anc ops j i:=by
        intro l
        induction l with
        |nil=>intro _ h;simp at h
        |cons e l ihl=>
         intro hl h
         simp only [List.foldr_cons] at h
         cases hb:Region.binds .any e with
         |false=>rw [hb,cond_false] at h;exact ihl (fun x hx=>hl x (List.mem_cons_of_mem _ hx)) h
         |true=>
          rw [hb,cond_true] at h
          have hE:Edge ops e.on i:=⟨o,e,ho,by simpa using hl e (by simp),hb,rfl⟩
          have h':Nat.testBit ((l.foldr (fun e acc=>bif Region.binds .any e then Nat.lor (Nat.lor acc (Nat.shiftLeft 1 e.on)) (maskAt (depMask ops i) i e.on) else acc) 0 ||| (1 <<< e.on)) ||| maskAt (depMask ops i) i e.on) j=true:=h
          rw [Nat.testBit_or,Nat.testBit_or] at h'
          simp only [Bool.or_eq_true] at h'
          rcases h' with (h'|h')|h'
          ·exact ihl (fun x hx=>hl x (List.mem_cons_of_mem _ hx)) h'
          ·rw [Nat.testBit_shiftLeft] at h'
           simp only [Bool.and_eq_true,decide_eq_true_eq] at h'
           have h2:=h'.2
           have:j - e.on=0:=by
            cases hz:j - e.on with
            | zero=>rfl
            | succ k=>rw [hz] at h2;simp [Nat.testBit_succ] at h2
           have:e.on=j:=by omega
           subst this
           exact .one hE
          ·exact .more hE (ih _ _ h')
       exact key _ (fun _ h=>h) h
    · refine ih i j ?_
      unfold maskAt
      have:Nat.blt i n=true:=by rw [Nat.blt_eq];omega
      rw [this,cond_true]
      rw [show n+1 - 1 - i=(n - 1 - i)+1 by omega] at h
      simpa [depMask] using h
end Go.Am
namespace Go.Am
open Go.Ren (grow EvO Guar Rely)
def _root_.Go.Sem.aro{α:Type}(P:Program):Sem α→AH→Option α
 | .pure a,_=>some a
 | .load m a k,h=>match h.cell a,m with
   |some v,.plain=>(k v).aro P h
   |_,_=>none
 | .shape r k,h=>match h.look r with
   |some { obj:=.cells l e _,.. }=>(k (some (e,l.size))).aro P h
   |some _=>(k none).aro P h
   |none=>none
 | .getObj r k,h=>match h.look r with
   |some { obj:=.cells _ _ _,.. }=>none
   |some B=>(k B.obj).aro P h
   |none=>none
 | .choose q k,h=>if q.forced then (k 0).aro P h else none
 | .program k,h=>(k P).aro P h
 | _,_=>none
theorem aro_ar{P:Program}{α:Type}(s:Sem α):∀ {h:AH} {a:α},s.aro P h=some a→s.ar P none h=some (a,h):=by
 induction s with
 | pure x=>intro h a e;simp only [Sem.aro,Option.some.injEq] at e;subst e;rfl
 | load m ad k ih=>
   intro h a e
   rw [Sem.aro.eq_def] at e
   rw [Sem.ar.eq_def]
   dsimp only at e ⊢
   generalize h.cell ad=q at e ⊢
   cases q with
   |none=>cases e
   |some v=>
    cases m with
    | plain=>exact ih _ e
    | atomic=>cases e
 | shape r k ih=>
   intro h a e
   simp only [Sem.aro] at e
   simp only [Sem.ar]
   generalize hq:h.look r=q at e ⊢
   cases q with
   |none=>cases e
   |some B=>
    obtain ⟨o,f,ro,u⟩:=B
    cases o<;>exact ih _ e
 | getObj r k ih=>
   intro h a e
   simp only [Sem.aro] at e
   simp only [Sem.ar]
   generalize hq:h.look r=q at e ⊢
   cases q with
   |none=>cases e
   |some B=>
    obtain ⟨o,f,ro,u⟩:=B
    cases o<;>first|(cases e;done)|exact ih _ e
 | choose q k ih=>
   intro h a e
   simp only [Sem.aro] at e
   simp only [Sem.ar]
   split at e
   ·rename_i hq;rw [if_pos hq];exact ih _ e
   ·cases e
 | program k ih=>intro h a e;exact ih _ e
 | _=>intro h a e;cases e
inductive Kind where
 | light|alloc|effect
 deriving DecidableEq
def kindOf(o:Oper):Kind:=match o.op with
 | .alloc _ | .buildSlice .. =>.alloc
 | .move _ | .assign _ | .pick .. | .build .. | .load .. | .nilCheck _ | .binOp .. | .unOp .. | .convert .. | .makeInterface .. | .makeFunc .. | .slice .. | .fieldAddr .. | .field .. | .indexAddr .. | .index .. | .lookup .. | .extract .. =>.light
 | .call { callee:=.builtin .len,.. } | .call { callee:=.builtin .min,.. } | .call { callee:=.builtin .max,.. }=>.light
 | _=>.effect
def over(ops:Array Oper)(i:Nat)(o:Oper):Bool:=match o.op with
 | .assign _=>(match o.dst with
   |some d=>(ops.toList.take i).any fun p=>p.op.operands.toList.any fun
    | .tmp t=>t == d
    | _=>false
   |none=>false)
 | _=>false
def kindAt(ops:Array Oper)(i:Nat):Kind:=match ops[i]? with
 | some o=>cond (over ops i o) .effect (kindOf o)
 | none=>.light
theorem kindAt_ne{ops:Array Oper}{i:Nat}{o:Oper}(ho:ops[i]? = some o)(hk:kindAt ops i ≠ .effect):kindAt ops i=kindOf o:=by
 unfold kindAt at hk ⊢
 rw [ho] at hk ⊢
 dsimp only at hk ⊢
 cases h:over ops i o with
 | true=>rw [h] at hk;exact absurd rfl hk
 | false=>rfl
theorem kindAt_alloc{ops:Array Oper}{i:Nat}{o:Oper}(ho:ops[i]? = some o)(hk:(∃t,o.op = .alloc t)∨∃t n ps,o.op = .buildSlice t n ps):kindAt ops i = .alloc:=by
 unfold kindAt
 rw [ho]
 dsimp only
 rcases hk with ⟨t,e⟩|⟨t,n,ps,e⟩
 · unfold over kindOf;rw [e];rfl
 · unfold over kindOf;rw [e];rfl
def dstAt(ops:Array Oper)(i:Nat):Option Tmp:=(ops[i]?).bind (·.dst)
def wantedAt(ops:Array Oper)(tmps:Array Value)(i:Nat):Bool:=match ops[i]? with
 | some o=>Region.wanted o (yielded ops tmps)
 | none=>false
def ix(l:List (Nat×List Nat)):List Nat:=l.map (·.1)
def okDrawn(ops:Array Oper):Bool:=
 backOk ops && (List.range ops.size).all fun i=>match ops[i]? with
   |none=>true
   |some o=>
    ((List.range ops.size).all fun j=>(i == j || dstAt ops i == none || dstAt ops i != dstAt ops j) &&
      o.op.operands.toList.all fun
       | .tmp t=>dstAt ops j != some t || dep ops ops.size i j || (kindAt ops j == .effect && dep ops ops.size j i)
       |_=>true) &&
    match o.guard with
    | none=>true
    | some (j,_)=>dep ops ops.size i j
def ordOk(ops:Array Oper):List (Nat×List Nat)→Bool
 | []=>true
 | (i,c) :: l=>decide (i < ops.size) && !(ix l).contains i && ((ix l).all fun j=> !dep ops ops.size i j) &&
   (kindAt ops i != .effect || (ix l).all fun j=>dep ops ops.size j i) &&
   (kindAt ops i == .light || (List.range ops.size).all fun j=>(ix l).contains j || kindAt ops j == .effect || c.contains j ||
    (List.range ops.size).any fun e=>kindAt ops e == .effect && !(ix l).contains e && dep ops ops.size e j) && ordOk ops l
def okPlan(ops:Array Oper)(l:List (Nat×List Nat)):Bool:=okDrawn ops && ((List.range ops.size).all fun i=>(ix l).contains i) && ordOk ops l
def depT(T:List Nat)(n i j:Nat):Bool:=Nat.testBit (maskAt T n i) j
def okDrawnT(T:List Nat)(ops:Array Oper):Bool:=
 backOk ops && (List.range ops.size).all fun i=>match ops[i]? with
   |none=>true
   |some o=>
    ((List.range ops.size).all fun j=>(i == j || dstAt ops i == none || dstAt ops i != dstAt ops j) &&
      o.op.operands.toList.all fun
       | .tmp t=>dstAt ops j != some t || depT T ops.size i j || (kindAt ops j == .effect && depT T ops.size j i)
       |_=>true) &&
    match o.guard with
    | none=>true
    | some (j,_)=>depT T ops.size i j
def ordOkT(T:List Nat)(ops:Array Oper):List (Nat×List Nat)→Bool
 | []=>true
 | (i,c) :: l=>decide (i < ops.size) && !(ix l).contains i && ((ix l).all fun j=> !depT T ops.size i j) &&
   (kindAt ops i != .effect || (ix l).all fun j=>depT T ops.size j i) &&
   (kindAt ops i == .light || (List.range ops.size).all fun j=>(ix l).contains j || kindAt ops j == .effect || c.contains j ||
    (List.range ops.size).any fun e=>kindAt ops e == .effect && !(ix l).contains e && depT T ops.size e j) && ordOkT T ops l
def okPlanT(T:List Nat)(ops:Array Oper)(l:List (Nat×List Nat)):Bool:=okDrawnT T ops && ((List.range ops.size).all fun i=>(ix l).contains i) && ordOkT T ops l
def okPlanF(ops:Array Oper)(l:List (Nat×List Nat)):Bool:=okPlanT (depMask ops ops.size) ops l
theorem ordOkT_eq(ops:Array Oper):∀l,ordOkT (depMask ops ops.size) ops l=ordOk ops l
 | []=>rfl
 | (i,c) :: l=>by
   simp only [ordOkT,ordOk,ordOkT_eq ops l]
   rfl
theorem okPlanF_eq(ops:Array Oper)(l:List (Nat×List Nat)):okPlanF ops l=okPlan ops l:=by
 unfold okPlanF okPlanT okPlan
 rw [ordOkT_eq]
 rfl
section
variable{P:Program}{ρ σ:Env}{ops:Array Oper}
theorem mem_ix_contains{l:List (Nat×List Nat)}{i:Nat}:(ix l).contains i=true↔i∈ix l:=by simp
theorem at_some{i:Nat}(h:i < ops.size):ops[i]? = some ops[i]:=by simp [h]
theorem okDrawn_back(h:okDrawn ops=true):backOk ops=true:=by unfold okDrawn at h;simp only [Bool.and_eq_true] at h;exact h.1
theorem okDrawn_at(h:okDrawn ops=true){i:Nat}{o:Oper}(ho:ops[i]? = some o) :
   (∀j,j < ops.size→(i=j∨dstAt ops i=none∨dstAt ops i≠dstAt ops j)∧∀t,.tmp t∈o.op.operands→dstAt ops j=some t→dep ops ops.size i j=true∨(kindAt ops j = .effect∧dep ops ops.size j i=true))∧∀j b,o.guard=some (j,b)→dep ops ops.size i j=true:=by
 have hi:i < ops.size:=(Array.getElem?_eq_some_iff.1 ho).1
 unfold okDrawn at h
 simp only [Bool.and_eq_true] at h
 have h2:=List.all_eq_true.1 h.2 i (by simpa using hi)
 rw [ho] at h2
 dsimp only at h2
 simp only [Bool.and_eq_true] at h2
 obtain ⟨h2,h3⟩:=h2
 refine ⟨fun j hj=>?_,fun j b hg=>?_⟩
 · have:=List.all_eq_true.1 h2 j (by simpa using hj)
   simp only [Bool.and_eq_true,Bool.or_eq_true,beq_iff_eq,bne_iff_ne,ne_eq] at this
   obtain ⟨k1,k2⟩:=this
   refine ⟨?_,fun t ht hd=>?_⟩
   ·rcases k1 with (k1|k1)|k1
    · exact .inl k1
    · exact .inr (.inl k1)
    · exact .inr (.inr k1)
   ·have:=List.all_eq_true.1 k2 (.tmp t) (by simpa using ht)
    simp only [Bool.or_eq_true,bne_iff_ne,ne_eq,Bool.and_eq_true,beq_iff_eq] at this
    rcases this with (x|x)|x
    · exact absurd hd x
    · exact .inl x
    · exact .inr x
 · rw [hg] at h3
   exact h3
theorem dst_uniq(h:okDrawn ops=true){i j:Nat}{d:Tmp}(hi:i < ops.size)(hj:j < ops.size)(h1:dstAt ops i=some d)(h2:dstAt ops j=some d):i=j:=by
 rcases ((okDrawn_at h (at_some hi)).1 j hj).1 with k|k|k
 · exact k
 · rw [h1] at k;cases k
 · rw [h1,h2] at k;exact absurd rfl k
theorem edge_lt{i j:Nat}(h:okDrawn ops=true)(hi:i < ops.size)(k:dep ops ops.size i j=true):j < i:=by
 have ha:=dep_anc _ _ _ k
 have hb:=okDrawn_back h
 clear k
 induction ha with
 | one e=>exact back_lt hb hi e
 | more e t ih=>exact Nat.lt_trans (ih (Nat.lt_trans (back_lt hb hi e) hi)) (back_lt hb hi e)
theorem ord_cons{i:Nat}{c:List Nat}{l:List (Nat×List Nat)}(h:ordOk ops ((i,c) :: l)=true) :
   i < ops.size∧i∉ix l∧(∀j∈ix l,dep ops ops.size i j=false)∧(kindAt ops i = .effect→∀j∈ix l,dep ops ops.size j i=true) ∧
   (kindAt ops i ≠ .light→∀j,j < ops.size→j∉ix l→kindAt ops j ≠ .effect→j∈c∨∃e,e < ops.size∧kindAt ops e = .effect∧e∉ix l∧dep ops ops.size e j=true)∧ordOk ops l=true:=by
 unfold ordOk at h
 simp only [Bool.and_eq_true,decide_eq_true_eq] at h
 obtain ⟨⟨⟨⟨⟨h1,h2⟩,h3⟩,h4⟩,h5⟩,h6⟩:=h
 refine ⟨h1,fun hm=>?_,fun j hj=>?_,fun hk j hj=>?_,fun hk j hj hn he=>?_,h6⟩
 · rw [mem_ix_contains.2 hm] at h2;cases h2
 · have:=List.all_eq_true.1 h3 j hj
   simpa using this
 · simp only [Bool.or_eq_true,bne_iff_ne,ne_eq] at h4
   exact List.all_eq_true.1 (h4.resolve_left fun x=>x hk) j hj
 · simp only [Bool.or_eq_true,beq_iff_eq] at h5
   have:=List.all_eq_true.1 (h5.resolve_left hk) j (by simpa using hj)
   simp only [Bool.or_eq_true,beq_iff_eq] at this
   rcases this with ((x|x)|x)|x
   ·exact absurd (mem_ix_contains.1 x) hn
   ·exact absurd x he
   ·exact .inl (by simpa using x)
   ·obtain ⟨e,e1,e2⟩:=List.any_eq_true.1 x
    simp only [Bool.and_eq_true,beq_iff_eq,Bool.not_eq_true'] at e2
    obtain ⟨⟨e2,e3⟩,e4⟩:=e2
    refine .inr ⟨e,by simpa using e1,e2,fun hm=>?_,e4⟩
    rw [mem_ix_contains.2 hm] at e3
    cases e3
theorem ord_lt:∀ {l:List (Nat×List Nat)},ordOk ops l=true→∀i∈ix l,i < ops.size
 | [],_,i,h=>by cases h
 | (j,c) :: l,h,i,hi=>by
   obtain ⟨o1,_,_,_,_,o6⟩:=ord_cons h
   rcases List.mem_cons.1 hi with rfl|hi
   ·exact o1
   ·exact ord_lt o6 i hi
def lightVal(P:Program)(h:AH)(tmps:Array Value)(o:Oper):Option Value:=
 if operOk o && opOk P h (aeval tmps) o then match (execOp (aeval tmps) o).aro P h with
   |some (.value v)=>some v
   |_=>none
 else none
def zeroOf(P:Program)(t:TypeId):Option Value:=(P.info? t).bind (·.zero)
def builtOf(P:Program)(e:Operand→Value)(t:TypeId)(len:Nat)(ps:Array (Nat×Operand)):Option (TypeId×Array Value):=
 match P.underlying t with
 | some (.slice elem)=>match P.info? elem with
   |some i=>if len * i.size > 2 ^ 24 then none else match i.zero with
    | some z=>match Instr.fill (fun j=>some (j * i.size,i.size)) ((Array.range (len * i.size)).map fun j=>z.cells[j % z.cells.size]!) (ps.map fun p=>(p.1,e p.2)).toList with
      |some cells=>some (elem,cells)
      |none=>none
    | none=>none
   |none=>none
 | _=>none
theorem builtOf_congr{e e':Operand→Value}{t:TypeId}{len:Nat}{ps:Array (Nat×Operand)}(hv:∀x∈ps,e x.2=e' x.2):builtOf P e t len ps=builtOf P e' t len ps:=by
 have:(ps.map fun p=>(p.1,e p.2))=ps.map fun p=>(p.1,e' p.2):=Array.map_congr_left fun x hx=>by rw [hv _ hx]
 unfold builtOf
 rw [this]
inductive EqAt(P:Program)(h:AH)(ops:Array Oper)(tmps:Array Value)(i:Nat):Prop
 | unwanted {o:Oper} {d:Tmp} (ho:ops[i]? = some o) (hw:Region.wanted o (yielded ops tmps)=false) (hd:o.dst=some d) (hv:tmps[d]? = some undef)
 | light {o:Oper} {d:Tmp} {v:Value} (ho:ops[i]? = some o) (hw:Region.wanted o (yielded ops tmps)=true) (hk:kindOf o = .light) (hd:o.dst=some d) (hv:tmps[d]? = some v) (hl:lightVal P h tmps o=some v)
 | alloc {o:Oper} {d:Tmp} {t:TypeId} {b:Nat} {z:Value} (ho:ops[i]? = some o) (hw:Region.wanted o (yielded ops tmps)=true) (hd:o.dst=some d) (hop:o.op = .alloc t) (hz:zeroOf P t=some z)
    (hv:tmps[d]? = some (.pointer (some ⟨b,0,none⟩))) (hl:h.look b=some ⟨.cells z.cells t (0,0),none,false,0⟩)
 | built {o:Oper} {d:Tmp} {t:TypeId} {n:Nat} {ps:Array (Nat×Operand)} {b:Nat} {elem:TypeId} {cells:Array Value} (ho:ops[i]? = some o) (hw:Region.wanted o (yielded ops tmps)=true) (hd:o.dst=some d) (hop:o.op = .buildSlice t n ps) (hk:operOk o=true)
    (hb:builtOf P (aeval tmps) t n ps=some (elem,cells)) (hv:tmps[d]? = some (.slice (some ⟨b,0,none⟩) n n)) (hl:h.look b=some ⟨.cells cells elem (0,0),none,false,0⟩)
theorem aeval_set{tmps:Array Value}{d:Tmp}{v:Value}{x:Operand}(h:x ≠ .tmp d):aeval (tmps.setIfInBounds d v) x=aeval tmps x:=by
 cases x with
 | tmp t=>
   show (tmps.setIfInBounds d v).getD t undef=tmps.getD t undef
   rw [Array.getD_eq_getD_getElem?,Array.getD_eq_getD_getElem?,Array.getElem?_setIfInBounds,if_neg (fun e=>h (by rw [e]))]
 | _=>rfl
theorem opOk_congr{h:AH}{e e':Operand→Value}{o:Oper}(hv:∀x∈o.op.operands,e x=e' x):opOk P h e o=opOk P h e' o:=by
 unfold opOk
 cases hop:o.op with
 | nilCheck x=>rw [hop] at hv;dsimp only;rw [hv x (by simp [Op.operands])]
 | binOp op t x y s=>rw [hop] at hv;dsimp only;rw [hv x (by simp [Op.operands]),hv y (by simp [Op.operands])]
 | convert s d x=>rw [hop] at hv;dsimp only;rw [hv x (by simp [Op.operands])]
 | lookup t x k c=>rw [hop] at hv;dsimp only;rw [hv k (by simp [Op.operands])]
 | mapUpdate t x k v=>rw [hop] at hv;dsimp only;rw [hv k (by simp [Op.operands])]
 | insert t x k v=>rw [hop] at hv;dsimp only;rw [hv k (by simp [Op.operands])]
 | mapEntry t x k=>rw [hop] at hv;dsimp only;rw [hv k (by simp [Op.operands])]
 | next it s=>rw [hop] at hv;dsimp only;rw [hv it (by simp [Op.operands])]
 | entry it=>rw [hop] at hv;dsimp only;rw [hv it (by simp [Op.operands])]
 | slice t x lo hi mx=>
   rw [hop] at hv
   dsimp only
   cases lo<;>cases hi<;>cases mx<;>simp_all [Op.operands]
 | call c=>
   rw [hop] at hv
   dsimp only
   cases hc:c.callee with
   |value f=>dsimp only;rw [hv f (by simp [Op.operands,Call.operands,hc])]
   |builtin b=>
    cases b with
    | cap=>
      have hv':∀x∈c.args.toList,e x=e' x:=fun x hx=>hv x (by simp only [Op.operands,Call.operands];exact Array.mem_append.2 (.inr (Array.mem_toList_iff.1 hx)))
      dsimp only
      generalize c.args.toList=l at hv'
      match l,hv' with
      | [],_=>rfl
      | [x],hv'=>dsimp only;rw [hv' x (by simp)]
      |_ :: _ :: _,_=>rfl
    | clear=>
      have hv':∀x∈c.args.toList,e x=e' x:=fun x hx=>hv x (by simp only [Op.operands,Call.operands];exact Array.mem_append.2 (.inr (Array.mem_toList_iff.1 hx)))
      dsimp only
      generalize c.args.toList=l at hv'
      match l,hv' with
      | [],_=>rfl
      | [x],hv'=>dsimp only;rw [hv' x (by simp)]
      |_ :: _ :: _,_=>rfl
    | _=>rfl
   |_=>rfl
 | _=>rfl
theorem lightVal_congr{h:AH}{t t':Array Value}{o:Oper}(hk:kindOf o = .light)(hv:∀x∈o.op.operands,aeval t x=aeval t' x):lightVal P h t o=lightVal P h t' o:=by
 have hs:∀cs b,o.op ≠ .select cs b:=fun cs b e=>by unfold kindOf at hk;rw [e] at hk;cases hk
 unfold lightVal
 rw [opOk_congr hv,execOp_congr o hs hv]
theorem EqAt.set{h:AH}{tmps:Array Value}{i j:Nat}{d:Tmp}{v:Value}(hok:okDrawn ops=true)(k:EqAt P h ops tmps i)(hi:i < ops.size)(hj:j < ops.size)(hd:dstAt ops j=some d)(hij:dep ops ops.size i j=false)(hne:i≠j)(hk:kindAt ops j ≠ .effect∨dep ops ops.size j i=false):EqAt P h ops (tmps.setIfInBounds d v) i:=by
 have hops:∀o,ops[i]? = some o→∀x∈o.op.operands,aeval (tmps.setIfInBounds d v) x=aeval tmps x:=fun o ho x hx=>aeval_set fun e=>by
   subst e
   rcases ((okDrawn_at hok ho).1 j hj).2 d hx hd with this|⟨k1,k2⟩
   ·rw [hij] at this
    cases this
   ·rcases hk with hk|hk
    · exact hk k1
    · rw [hk] at k2;cases k2
 have hdst:∀o t,ops[i]? = some o→o.dst=some t→(tmps.setIfInBounds d v)[t]? = tmps[t]? :=fun o t ho ht=>by
   rw [Array.getElem?_setIfInBounds,if_neg]
   intro e
   subst e
   exact hne (dst_uniq hok hi hj (by unfold dstAt;rw [ho];exact ht) hd)
 have hw:∀o,ops[i]? = some o→Region.wanted o (yielded ops (tmps.setIfInBounds d v))=Region.wanted o (yielded ops tmps):=fun o ho=>by
   unfold Region.wanted
   cases hg:o.guard with
   |none=>rfl
   |some p=>
    obtain ⟨g,b⟩:=p
    dsimp only
    have hig:=(okDrawn_at hok ho).2 g b hg
    have:yielded ops (tmps.setIfInBounds d v) g=yielded ops tmps g:=by
      unfold yielded
      cases hgd:(ops[g]?).bind (·.dst) with
      |none=>rfl
      |some t=>
       simp only [Option.bind_some]
       rw [Array.getElem?_setIfInBounds,if_neg]
       intro e
       subst e
       have hgn:g < ops.size:=Nat.lt_trans (edge_lt hok hi hig) hi
       have:=dst_uniq hok hgn hj hgd hd
       subst this
       rw [hij] at hig
       cases hig
    rw [this]
 cases k with
 | @unwanted o t ho hw' ht hv=>exact .unwanted ho (by rw [hw o ho];exact hw') ht (by rw [hdst o t ho ht];exact hv)
 | @light o t u ho hw' hk ht hv hl=>exact .light ho (by rw [hw o ho];exact hw') hk ht (by rw [hdst o t ho ht];exact hv) (by rw [lightVal_congr hk (hops o ho)];exact hl)
 | @alloc o t ty b z ho hw' ht hop hz hv hl=>exact .alloc ho (by rw [hw o ho];exact hw') ht hop hz (by rw [hdst o t ho ht];exact hv) hl
 | @built o t ty n ps b elem cells ho hw' ht hop hk hb hv hl=>
   refine .built ho (by rw [hw o ho];exact hw') ht hop hk ?_ (by rw [hdst o t ho ht];exact hv) hl
   rw [builtOf_congr fun x hx=>hops o ho x.2 ?_]
   ·exact hb
   ·rw [hop]
    simp only [Op.operands,List.mem_toArray,List.mem_map]
    exact ⟨x,by simpa using hx,rfl⟩
end
end Go.Am
