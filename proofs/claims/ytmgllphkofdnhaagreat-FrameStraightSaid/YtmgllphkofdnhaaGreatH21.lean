import Derived.Test.YtmgllphkofdnhaaGreatH20
set_option linter.unusedVariables false
set_option linter.unusedSectionVars false
set_option linter.unusedSimpArgs false
namespace Go.Am
open Go.Conc (born QuitsD G scase rcase)
open Go.Conc.Lib
open Go.ConcR (WgAt)
open Go.Ren (grow EvO Guar Rely Wk WkD Idle IdleD X0 XS XM Lv WRel WSend WSnd WSkip hearing MAdd MGo MWait M1 Anch Spawns PhI At Leads Keep full Own Fr FinF)
inductive Ph where
 | idle
 | chan (cb cap:Nat)
 | ready (cb cap gb:Nat)
 | joined (cb cap:Nat) (vs:List Value)
 | closed (cb cap:Nat) (vs:List Value)
def merge(P:Program)(c:AFr)(cs:List AFr)(l:List Nat):List (Value×AH)→Option AS
 | []=>none
 | (v,h) :: r=>match afinish P c h v with
   |some a=>if notDrawn a && notDrawn c && r.all (fun x=>beqV 9 x.1 v && agree h x.2 l) then some ⟨a,cs,h.forget l⟩ else none
   |none=>none
section
variable{P:Program}{ρ σ:Env}{O O' D:Nat→Prop}{F W U Z Z':Nat→Prop}{N:Nat}{h h':AH}{w w' w₀:World}{mm:Bool}{base cs:List Frame}{a a':AFr}{f:Frame}{lo hi:Nat}{ops:Array Oper}{i:Nat}{o:Oper}{s s' s₀:AS}{pl:Plan}{g g':Goroutine}
 {L:WgLink} {wg ch gb cb j cap:Nat} {buf:List Value} {cl:Bool} {R:AS→Prop} {FinP:Machine→Outcome→World→Trace→Prop} {m:Machine} {t:Trace} {c:AFr} {cs':List AFr}
def Ph.Holds(L:WgLink)(F W U Z:Nat→Prop)(ρ:Env)(w:World):Ph→Prop
 | .idle=>True
 | .chan cb cap=>∃ch,U ch∧Chn F W Z ρ w cb cap [] false ch
 | .ready cb cap gb=>∃ch wg,U ch∧U wg∧wg≠ch∧Z wg∧ρ.born gb∧ρ.to gb=(wg,0)∧WgAt L.tWg wg w 0 0∧Chn F W Z ρ w cb cap [] false ch
 | .joined cb cap vs=>(U=fun _=>False)∧∃ch buf,buf.Perm vs∧Chn F W Z ρ w cb cap buf false ch
 | .closed cb cap vs=>(U=fun _=>False)∧∃ch buf,buf.Perm vs∧Chn F W Z ρ w cb cap buf true ch
theorem Ph.Holds.step{ph:Ph}(k:ph.Holds L F W U Z ρ w)(hle:ρ.Le σ)(hk:Keep Z w w'):ph.Holds L F W U Z σ w' :=by
 cases ph with
 | idle=>trivial
 | chan cb cap=>obtain ⟨ch,h1,h2⟩:=k;exact ⟨ch,h1,h2.step hle hk fun b hb=>hb⟩
 | ready cb cap gb=>
   obtain ⟨ch,wg,h1,h2,h3,h4,h5,h6,h7,h8⟩:=k
   exact ⟨ch,wg,h1,h2,h3,h4,hle.born _ h5,(hle.to _ h5).trans h6,(hk.1 wg h4).trans h7,h8.step hle hk fun b hb=>hb⟩
 | joined cb cap vs=>obtain ⟨h0,ch,buf,h1,h2⟩:=k;exact ⟨h0,ch,buf,h1,h2.step hle hk fun b hb=>hb⟩
 | closed cb cap vs=>obtain ⟨h0,ch,buf,h1,h2⟩:=k;exact ⟨h0,ch,buf,h1,h2.step hle hk fun b hb=>hb⟩
def Stand(P:Program)(L:WgLink)(base:List Frame)(F:Nat→Prop)(w₀:World)(ph:Ph)(s:AS)(m:Machine)(t:Trace):Prop:=
 ∃(W U Z:Nat→Prop) (N:Nat) (ρ:Env) (g:Goroutine) (w:World),Sd P base F w₀ W U Z N ρ s g w m t∧ph.Holds L F W U Z ρ w
theorem Stand.reach[Zeros P]{ph:Ph}(S:Stand P L base F w₀ ph s m t)(k:AReach P pl (· = s') s):Leads P FinP (Stand P L base F w₀ ph s') m t:=by
 obtain ⟨W,U,Z,N,ρ,g,w,S,hp⟩:=S
 refine (S.reach k).mono ?_
 rintro m t ⟨σ,s₁,g',w',rfl,h1,h2,h3⟩
 exact ⟨W,U,Z,N,σ,g',w',h2,hp.step h1 h3⟩
theorem Stand.forget(l:List Nat){ph:Ph}(S:Stand P L base F w₀ ph s m t)(hd:notDrawn s.fr=true):Stand P L base F w₀ ph ⟨s.fr,s.cs,s.h.forget l⟩ m t:=by
 obtain ⟨W,U,Z,N,ρ,g,w,S,hp⟩:=S
 exact ⟨W,U,Z,N,ρ,g,w,S.forget l hd,hp⟩
theorem afinish_plain{h h':AH}{v:Value}(hd:notDrawn c=true):afinish P c h v=afinish P c h' v:=by
 unfold notDrawn at hd
 unfold afinish
 split at hd
 · cases hd
 · rename_i hn
   split<;>first|rfl|skip
   rename_i ht
   exact absurd ht (hn _ _ _)
theorem merge_some{l:List Nat}{r:List (Value×AH)}(e:merge P c cs' l r=some s'):∀x∈r,∃a,afinish P c x.2 x.1=some a∧notDrawn a=true∧s' = ⟨a,cs',x.2.forget l⟩:=by
 cases r with
 | nil=>cases e
 | cons y r=>
   obtain ⟨v,h⟩:=y
   unfold merge at e
   dsimp only at e
   split at e
   ·rename_i a ha
    split at e
    ·rename_i hc
     cases e
     simp only [Bool.and_eq_true,List.all_eq_true] at hc
     obtain ⟨⟨h1,h2⟩,h3⟩:=hc
     intro x hx
     rcases List.mem_cons.1 hx with rfl|hx
     ·exact ⟨a,ha,h1,rfl⟩
     ·obtain ⟨e1,e2⟩:=h3 x hx
      have e3:=beqV_eq _ _ _ e1
      refine ⟨a,?_,h1,?_⟩
      ·rw [e3,afinish_plain (h' :=h) h2]
       exact ha
      ·rw [agree_forget e2]
    ·cases e
   ·cases e
def Back(P:Program)(b:Frame)(bs:List Frame)(F:Nat→Prop)(w₀:World)(v:Value)(m:Machine)(t:Trace):Prop:=
 ∃(W U Z:Nat→Prop) (N:Nat) (w:World),At P W U Z N 0 (gor (b.finish v) bs) w m t∧(∀x,W x∨U x→Z x)∧(∀x,F x→Z x)∧(∀x,F x→¬(W x∨U x))∧Keep F w₀ w∧∀x,Z x→x < w.heap.size
end
end Go.Am
namespace Go.Am
open Go.Conc (born QuitsD G scase rcase)
open Go.Conc.Lib
open Go.ConcR (WgAt)
open Go.Ren (grow EvO Guar Rely Wk WkD Idle IdleD X0 XS XM Lv WRel WSend WSnd WSkip hearing MAdd MGo MWait M1 Anch Spawns PhI At Leads Keep full Own Fr FinF)
section
variable{P:Program}{ρ σ:Env}{O O' D:Nat→Prop}{F W U Z Z':Nat→Prop}{N:Nat}{h h':AH}{w w' w₀:World}{mm:Bool}{base cs:List Frame}{a a':AFr}{f:Frame}{lo hi:Nat}{ops:Array Oper}{i:Nat}{o:Oper}{s s' s₀:AS}{pl:Plan}{g g':Goroutine}
 {L:WgLink} {wg ch gb cb j cap:Nat} {buf:List Value} {cl:Bool} {R:AS→Prop} {FinP:Machine→Outcome→World→Trace→Prop} {m:Machine} {t:Trace} {c:AFr} {cs':List AFr} {fid:FuncId} {v:Value}
structure ACallV(P:Program)(fid:FuncId)(v:Value)(s s':AS):Prop where
 run:s.fr.ret=false
 round:s.fr.round=none
 at_:∃ops i l k o ats a',s.fr.todo = .region ops (i :: l) :: k∧ops[i]? = some o∧Region.wanted o (yielded ops s.fr.tmps)=true∧operOk o=true∧o.op = .call { callee:=.value (.func fid),args:=#[],argTypes:=ats } ∧
   afinish P s.fr s.h v=some a' ∧ s' = ⟨a',s.cs,s.h⟩
theorem sim_enter0(O D:Nat→Prop)(base:List Frame)(w:World):Sim P env0 O D base ⟨AFr.enter P fid #[],[],h0⟩ (gor (Frame.enter P fid #[] .normal) base) w:=
 ⟨⟨0,_,[],Nat.le_refl _,rfl,.plain (enter_r fid ⟨rfl,fun i u v hu hv=>by simp at hu⟩),.nil⟩,rel_h0 _ _ _⟩
end
end Go.Am
namespace Go.Am
noncomputable section
def nth{α:Type}:List α→Nat→Option α:=fun l=>List.rec (fun _=>none) (fun x _ ih n=>Nat.rec (some x) (fun n _=>ih n) n) l
def rep(v:Value)(n:Nat):List Value:=Nat.rec [] (fun _ ih=>v :: ih) n
def app(l m:List Value):List Value:=List.rec m (fun x _ ih=>x :: ih) l
structure Ctx where
 fn:FuncId
 defers:List Deferred
 round:Option Nat
 dk:Bool
 cs:List AFr
def mk(todo:List AItem)(c:Ctx)(tmps:List Value)(h:AH):AS:=⟨⟨c.fn,⟨tmps⟩,todo,c.defers,false,c.round,c.dk⟩,c.cs,h⟩
abbrev K:=Ctx→List Value→AH→Option AS
def kGo(todo:List AItem):K:=fun c tmps h=>some (mk todo c tmps h)
def kNo:K:=fun _ _ _=>none
def enterL(P:Program)(f:FuncId)(args:List Value)(fn:Func)(c:Ctx)(todo:List AItem)(tmps:List Value)(h:AH):Option AS:=
 some ⟨⟨f,⟨app args (rep undef (fn.ntmps - args.length))⟩,[.code (fn.body.getD (.refuse "unsupported: a function without a Go body is entered"))],[],false,none,false⟩,⟨c.fn,⟨tmps⟩,todo,c.defers,false,c.round,c.dk⟩ :: c.cs,h⟩
def enterK(P:Program)(f:FuncId)(args:Array Value)(c:Ctx)(todo:List AItem)(tmps:List Value)(h:AH):Option AS:=
 Option.rec none (fun fn=>enterL P f args.toList fn c todo tmps h) P.funcs[f]?
def condK(a b:K)(x:Operand):K:=fun c tmps h=>match x with
 | .tmp t=>match nth tmps t with
   |some (.bool v)=>Bool.rec (b c tmps h) (a c tmps h) v
   |_=>none
 | _=>none
def slowK(P:Program)(pl:Plan)(s:AS)(ih:AS→Option Res):Option Res:=match astep P pl none s with
 | some (.go s)=>ih s
 | r=>r
end
end Go.Am
namespace Go.Am
section
variable{P:Program}{h h':AH}
theorem ar_bind{α β:Type}(s:Sem α)(f:α→Sem β):∀(h:AH) {x:α} {h':AH},s.ar P none h=some (x,h')→(s.bind f).ar P none h=(f x).ar P none h' :=by
 induction s with
 | pure a=>intro h x h' e;cases e;rfl
 | load m a k ih=>
   intro h x h' e
   simp only [Sem.bind]
   rw [Sem.ar.eq_def] at e
   conv=>lhs;rw [Sem.ar.eq_def]
   dsimp only at e ⊢
   generalize h.cell a=q at e ⊢
   cases q with
   |none=>cases e
   |some v=>
    cases m with
    |plain=>exact ih v _ e
    |atomic=>cases e
 | store m a v k ih=>
   intro h x h' e
   cases v<;>cases m<;>simp only [Sem.bind,Sem.ar] at e ⊢<;>first|(cases e;done)|skip
   all_goals
    split at e
    ·exact ih _ e
    ·cases e
 | new o k ih=>
   intro h x h' e
   simp only [Sem.bind,Sem.ar] at e ⊢
   split at e<;>first|(cases e;done)|exact ih _ _ e
 | shape r k ih=>
   intro h x h' e
   simp only [Sem.bind,Sem.ar] at e ⊢
   split at e<;>first|(cases e;done)|exact ih _ _ e
 | getObj r k ih=>
   intro h x h' e
   simp only [Sem.bind,Sem.ar] at e ⊢
   split at e<;>first|(cases e;done)|exact ih _ _ e
 | setObj r o k ih=>
   intro h x h' e
   simp only [Sem.bind,Sem.ar] at e ⊢
   split at e
   ·cases e
   ·cases e
   ·rename_i B _ hnc hq
    split at e
    ·cases e
    ·rename_i hro
     rw [if_neg hro]
     exact ih _ e
   ·cases e
 | choose q k ih=>
   intro h x h' e
   rw [Sem.ar.eq_def] at e
   simp only [Sem.bind]
   conv=>lhs;rw [Sem.ar.eq_def]
   dsimp only at e ⊢
   split at e
   ·rename_i hq;rw [if_pos hq];exact ih _ _ e
   ·cases q<;>cases e
 | program k ih=>intro h x h' e;simp only [Sem.bind,Sem.ar] at e ⊢;exact ih _ _ e
 | _=>intro h x h' e;cases e
theorem ar_bnd{α β:Type}{s:Sem α}{f:α→Sem β}{x:α}(e:s.ar P none h=some (x,h')):(s >>= f).ar P none h=(f x).ar P none h' :=ar_bind s f h e
theorem ar_pure'{α:Type}(a:α):(pure a:Sem α).ar P none h=some (a,h):=rfl
theorem ar_info{t:TypeId}{d:TypeInfo}(e:P.info? t=some d):(typeInfo t).ar P none h=some (d,h):=by
 show (match P.info? t with|some d=>_|none=>_:Sem TypeInfo).ar P none h=_
 rw [e]
 rfl
theorem ar_size{t:TypeId}{d:TypeInfo}(e:P.info? t=some d):(sizeOf t).ar P none h=some (d.size,h):=by
 unfold sizeOf
 rw [ar_bnd (ar_info e)]
 rfl
theorem ar_zero{t:TypeId}{z:Value}(e:zeroOf P t=some z):(zeroValue t).ar P none h=some (z,h):=by
 unfold zeroOf at e
 cases hi:P.info? t with
 | none=>rw [hi] at e;cases e
 | some i=>
   rw [hi] at e
   have e':i.zero=some z:=e
   unfold zeroValue
   rw [ar_bnd (ar_info hi),e']
   rfl
theorem ro_bind{α β:Type}(s:Sem α)(f:α→Sem β):∀ {x:α},s.aro P h=some x→(s.bind f).aro P h=(f x).aro P h:=by
 induction s with
 | pure a=>intro x e;cases e;rfl
 | load m a k ih=>
   intro x e
   simp only [Sem.bind]
   rw [Sem.aro.eq_def] at e
   conv=>lhs;rw [Sem.aro.eq_def]
   dsimp only at e ⊢
   generalize h.cell a=q at e ⊢
   cases q with
   |none=>cases e
   |some v=>
    cases m with
    |plain=>exact ih v e
    |atomic=>cases e
 | shape r k ih=>
   intro x e
   simp only [Sem.bind,Sem.aro] at e ⊢
   split at e<;>first|(cases e;done)|exact ih _ e
 | getObj r k ih=>
   intro x e
   simp only [Sem.bind,Sem.aro] at e ⊢
   split at e<;>first|(cases e;done)|exact ih _ e
 | choose q k ih=>
   intro x e
   simp only [Sem.bind,Sem.aro] at e ⊢
   split at e
   ·rename_i hq;rw [if_pos hq];exact ih _ e
   ·cases e
 | program k ih=>intro x e;simp only [Sem.bind,Sem.aro] at e ⊢;exact ih _ e
 | _=>intro x e;cases e
theorem ro_bnd{α β:Type}{s:Sem α}{f:α→Sem β}{x:α}(e:s.aro P h=some x):(s >>= f).aro P h=(f x).aro P h:=ro_bind s f e
theorem ro_pure'{α:Type}(a:α):(pure a:Sem α).aro P h=some a:=rfl
theorem ro_under{t:TypeId}{d:TypeDesc}(e:P.underlying t=some d):(underlying t).aro P h=some d:=by
 show (match P.underlying t with|some d=>_|none=>_:Sem TypeDesc).aro P h=_
 rw [e]
 rfl
theorem ro_info{t:TypeId}{d:TypeInfo}(e:P.info? t=some d):(typeInfo t).aro P h=some d:=by
 show (match P.info? t with|some d=>_|none=>_:Sem TypeInfo).aro P h=_
 rw [e]
 rfl
theorem ro_size{t:TypeId}{d:TypeInfo}(e:P.info? t=some d):(sizeOf t).aro P h=some d.size:=by
 unfold sizeOf
 rw [ro_bnd (ro_info e)]
 rfl
theorem ro_zero{t:TypeId}{z:Value}(e:zeroOf P t=some z):(zeroValue t).aro P h=some z:=by
 unfold zeroOf at e
 cases hi:P.info? t with
 | none=>rw [hi] at e;cases e
 | some i=>
   rw [hi] at e
   have e':i.zero=some z:=e
   unfold zeroValue
   rw [ro_bnd (ro_info hi),e']
   rfl
end
end Go.Am
namespace Go.Am
structure TI where
 size:Nat
 und:TypeDesc
 zero:Option Value
 places:List (Nat×Nat)
noncomputable section
def fAlloc(T:Tr TI)(h:AH)(t:Nat):Option (Value×AH):=match T.get t with
 | some ⟨_,_,some z,_⟩=>some (.pointer (some ⟨h.n,0,none⟩),h.new (.cells z.cells t (0,0)))
 | _=>none
def fBox(h:AH)(t:Nat)(x:Option Value):Option (Value×AH):=match x with
 | some v=>some (.pointer (some ⟨h.n,0,none⟩),h.new (.cells v.cells t (0,0)))
 | none=>none
def evF(tmps:List Value)(x:Operand):Option Value:=match x with
 | .tmp t=>nth tmps t
 | .const v=>bif plainV 9 v then some v else none
 | .func f=>some (.func (.func f) #[] #[])
 | .global _=>none
def isAggT(d:TypeDesc):Bool:=match d with
 | .struct _ | .array _ _=>true
 | _=>false
def takeL:Nat→List Value→Option (List Value):=fun n=>Nat.rec (fun _=>some []) (fun _ ih l=>match l with
 | x :: l=>match ih l with
   |some m=>some (x :: m)
   |none=>none
 | []=>none) n
def dropL:Nat→List Value→List Value:=fun n=>Nat.rec (fun l=>l) (fun _ ih l=>ih l.tail) n
def fMove(tmps:List Value)(h:AH)(x:Operand):Option Value:=match evF tmps x with
 | some v=>some v
 | none=>none
def fField(T:Tr TI)(h:AH)(s f:Nat)(v:Option Value):Option Value:=match v with
 | some (.pointer (some a))=>match T.get s with
   |some ⟨_,.struct fields,_,_⟩=>match nth fields.toList f with
    |some fd=>match T.get fd.type with
     |some ⟨sz,_,_,_⟩=>bif Nat.beq sz 0 then none else some (.pointer (some (a.add fd.offset)))
     |none=>none
    |none=>none
   |_=>none
 | _=>none
def cellF(h:AH)(a:Addr):Option Value:=match a,h.look a.block with
 | ⟨_,off,none⟩,some ⟨.cells c _ _,_,_,_⟩=>nth c.toList off
 | _,_=>none
def aggF(h:AH)(a:Addr)(n:Nat):Option Value:=match a,h.look a.block with
 | ⟨_,off,none⟩,some ⟨.cells c _ _,_,_,_⟩=>match takeL n (dropL off c.toList) with
   |some l=>some (.agg ⟨l⟩)
   |none=>none
 | _,_=>none
def fLoad(T:Tr TI)(h:AH)(t:Nat)(v:Option Value):Option Value:=match v with
 | some (.pointer (some a))=>match T.get t with
   |some ⟨sz,d,_,_⟩=>match bif isAggT d then aggF h a sz else cellF h a with
    |some v=>some v
    |none=>none
   |none=>none
 | _=>none
def intF(op:BinOp)(k:IntKind)(a b:Int):Option Value:=match op with
 | .add=>some (.int k (k.wrap (a+b)))
 | .sub=>some (.int k (k.wrap (a - b)))
 | .eql=>some (.bool (decide (a=b)))
 | .neq=>some (.bool (decide (a≠b)))
 | .lss=>some (.bool (decide (a < b)))
 | .leq=>some (.bool (decide (a≤b)))
 | .gtr=>some (.bool (decide (a > b)))
 | .geq=>some (.bool (decide (a≥b)))
 | _=>none
def fBin(h:AH)(op:BinOp)(x y:Option Value):Option Value:=match x,y with
 | some (.int k a),some (.int k' b)=>if k=k' then match intF op k a b with
   |some v=>some v
   |none=>none else none
 | _,_=>none
def fNot(h:AH)(x:Option Value):Option Value:=match x with
 | some (.bool b)=>some (.bool (!b))
 | _=>none
def fExtract(h:AH)(i:Nat)(x:Option Value):Option Value:=match x with
 | some (.tuple vs)=>match nth vs.toList i with
   |some v=>some v
   |none=>none
 | _=>none
def fPick(h:AH)(c a b:Option Value):Option Value:=match c with
 | some (.bool t)=>match a,b with
   |some u,some v=>some (bif t then u else v)
   |_,_=>none
 | _=>none
def fIndex(T:Tr TI)(h:AH)(t:Nat)(x i:Option Value):Option Value:=match x,i with
 | some (.slice (some a) len _),some (.int k n)=>match T.get t with
   |some ⟨_,.slice e,_,_⟩=>match T.get e with
    |some ⟨sz,_,_,_⟩=>if 0≤n∧n < len then some (.pointer (some (a.add (n.toNat * sz)))) else none
    |none=>none
   |_=>none
 | some (.pointer (some a)),some (.int k n)=>match T.get t with
   |some ⟨_,.array len e,_,_⟩=>match T.get e with
    |some ⟨sz,_,_,_⟩=>if 0≤n∧n < len then some (.pointer (some (a.add (n.toNat * sz)))) else none
    |none=>none
   |_=>none
 | _,_=>none
def fLen(h:AH)(x:Option Value):Option Value:=match x with
 | some (.slice _ n _)=>some (.int .i64 n)
 | _=>none
def setK{β:Type}(v:Value)(l:List Value):Nat→(List Value→β)→β:=
 List.rec (fun _ k=>k []) (fun x l ih n k=>Nat.rec (k (v :: l)) (fun n _=>ih n fun l'=>k (x :: l')) n) l
def cellsL(v:Value):List Value:=match v with
 | .agg c=>c.toList
 | v=>[v]
def splK{β:Type}(vs:List Value):Nat→List Value→(List Value→β)→β:=
 List.rec (fun _ cells k=>k cells) (fun v _ ih off cells k=>setK v cells off fun cells=>ih (off+1) cells k) vs
def fillK(pl:List (Nat×Nat))(tmps:List Value)(ps:List (Nat×Operand)):List Value→Option Value:=
 List.rec (fun cells=>some (.agg ⟨cells⟩)) (fun p _ ih cells=>match evF tmps p.2 with
   |some v=>match nth pl p.1 with
    |some q=>bif Nat.beq (cellsL v).length q.2 && Nat.ble (q.1+q.2) cells.length then splK (cellsL v) q.1 cells ih else none
    |none=>none
   |none=>none) ps
def fBuild(T:Tr TI)(tmps:List Value)(t:Nat)(ps:List (Nat×Operand)):Option Value:=match T.get t with
 | some ⟨_,.struct _,some z,pl⟩=>fillK pl tmps ps z.cells.toList
 | _=>none
def fast(T:Tr TI)(tmps:List Value)(h:AH)(op:Op):Option Value:=match op with
 | .move x=>fMove tmps h x
 | .assign x=>fMove tmps h x
 | .fieldAddr s x f=>fField T h s f (evF tmps x)
 | .load t x=>fLoad T h t (evF tmps x)
 | .binOp op _ x y _=>fBin h op (evF tmps x) (evF tmps y)
 | .unOp .not _ x=>fNot h (evF tmps x)
 | .extract x i=>fExtract h i (evF tmps x)
 | .pick c a b=>fPick h (evF tmps c) (evF tmps a) (evF tmps b)
 | .indexAddr t x i=>fIndex T h t (evF tmps x) (evF tmps i)
 | .build t ps=>fBuild T tmps t ps.toList
 | .call ⟨.builtin .len,args,ats⟩=>match args.toList with
   | [x]=>match ats.toList with
    |t :: _=>match T.get t with
     |some ⟨_,.slice _,_,_⟩=>fLen h (evF tmps x)
     |_=>none
    | []=>none
   |_=>none
 | _=>none
end
structure TabOk(P:Program)(T:Tr TI):Prop where
 get:∀t i,T.get t=some i→P.underlying t=some i.und∧(∃d,P.info? t=some d∧d.size=i.size)∧zeroOf P t=i.zero∧∀fields,i.und = .struct fields→fields.toList.map (fun f=>(f.offset,P.cellsOf f.type))=i.places∧∀f∈fields.toList,∃d,P.info? f.type=some d
section
variable{P:Program}{T:Tr TI}{tmps:List Value}{h h':AH}{o:Oper}{v:Value}{x:Operand}
theorem nth_eq{α:Type}:∀(l:List α) (n:Nat),nth l n=l[n]?
 | [],n=>by simp [nth]
 | x :: l,0=>rfl
 | x :: l,n+1=>by
   have:=nth_eq l n
   show nth l n=_
   simp [this]
theorem nth_arr{α:Type}(l:List α)(n:Nat):nth l n=(Array.mk l)[n]? :=by rw [nth_eq];simp
theorem getD_nth(l:List Value)(t:Nat)(e:nth l t=some v):(Array.mk l).getD t undef=v:=by
 rw [nth_arr] at e
 simp [Array.getD_eq_getD_getElem?,e]
def okX(x:Operand):Bool:=match x with
 | .const v=>plainV 9 v
 | .global _=>false
 | _=>true
theorem evF_some(e:evF tmps x=some v):aeval ⟨tmps⟩ x=v∧okX x=true:=by
 unfold evF at e
 cases x with
 | tmp t=>exact ⟨getD_nth _ _ e,rfl⟩
 | const u=>
   dsimp only at e
   cases hp:plainV 9 u with
   |false=>rw [hp] at e;cases e
   |true=>rw [hp] at e;cases e;exact ⟨rfl,hp⟩
 | func f=>cases e;exact ⟨rfl,rfl⟩
 | global g=>cases e
theorem operOk_of(hx:∀x∈o.op.operands,okX x=true):operOk o=true:=by
 unfold operOk
 rw [List.all_eq_true]
 intro x hm
 have:=hx x (Array.mem_toList_iff.1 hm)
 cases x<;>exact this
theorem rexec_of{s:Sem Value}(hop:∀x∈o.op.operands,okX x=true)(hok:opOk P h (aeval ⟨tmps⟩) o=true)(hs:execOp (aeval ⟨tmps⟩) o=(s >>= fun v=>Pure.pure (Next.value v)))(hr:s.aro P h=some v) :
   (operOk o && opOk P h (aeval ⟨tmps⟩) o)=true∧(execOp (aeval ⟨tmps⟩) o).aro P h=some (.value v):=by
 refine ⟨by rw [operOk_of hop,hok];rfl,?_⟩
 rw [hs,ro_bnd hr]
 rfl
theorem aexec_of{s:Sem Value}(hap:isAppend o=false)(hop:∀x∈o.op.operands,okX x=true)(hok:opOk P h (aeval ⟨tmps⟩) o=true)(hs:execOp (aeval ⟨tmps⟩) o=(s >>= fun v=>Pure.pure (Next.value v)))(hr:s.ar P none h=some (v,h')) :
   aexec P none h ⟨tmps⟩ o=some (.value v,h'):=by
 unfold aexec
 rw [hap,operOk_of hop,hok,hs]
 simp only [Bool.false_eq_true,if_false,Bool.and_self,if_true]
 rw [ar_bnd hr]
 rfl
theorem aexec_ro(hap:isAppend o=false)(hr:(operOk o && opOk P h (aeval ⟨tmps⟩) o)=true∧(execOp (aeval ⟨tmps⟩) o).aro P h=some (.value v)):aexec P none h ⟨tmps⟩ o=some (.value v,h):=by
 unfold aexec
 rw [hap,hr.1]
 simp only [Bool.false_eq_true,if_false,if_true]
 exact aro_ar _ hr.2
theorem lightVal_ro(hr:(operOk o && opOk P h (aeval ⟨tmps⟩) o)=true∧(execOp (aeval ⟨tmps⟩) o).aro P h=some (.value v)):lightVal P h ⟨tmps⟩ o=some v:=by
 unfold lightVal
 rw [hr.1,hr.2]
 rfl
end
end Go.Am
namespace Go.Am
section
variable{P:Program}{T:Tr TI}{tmps:List Value}{h h':AH}{o:Oper}{v:Value}{x:Operand}
theorem cellF_some{a:Addr}(e:cellF h a=some v):h.cell a=some v:=by
 unfold cellF at e
 split at e
 · rename_i blk off c e' f' fam ro u hl
   unfold AH.cell
   dsimp only at hl
   dsimp only
   rw [hl]
   dsimp only
   rw [nth_eq] at e
   simpa using e
 · cases e
theorem takeL_some:∀(n:Nat) (l:List Value) {m:List Value},takeL n l=some m→m.length=n∧∀i,i < n→l[i]? = m[i]?
 | 0,l,m,e=>by cases e;exact ⟨rfl,fun i hi=>absurd hi (Nat.not_lt_zero _)⟩
 | n+1,l,m,e=>by
   cases l with
   |nil=>cases e
   |cons x l=>
    replace e:(match takeL n l with
     |some m=>some (x :: m)
     |none=>none)=some m:=e
    cases hm:takeL n l with
    |none=>rw [hm] at e;cases e
    |some m'=>
     rw [hm] at e
     cases e
     obtain ⟨h1,h2⟩:=takeL_some n l hm
     refine ⟨by simp [h1],fun i hi=>?_⟩
     cases i with
     |zero=>rfl
     |succ i=>simpa using h2 i (by omega)
theorem dropL_eq:∀(n:Nat) (l:List Value),dropL n l=l.drop n
 | 0,l=>rfl
 | n+1,l=>by
   show dropL n l.tail=_
   rw [dropL_eq n]
   cases l<;>simp
theorem ro_loadCells{a:Addr}(hs:a.spot=none){c:Array Value}{e:TypeId}{f:Nat×Nat}{fam:Option Nat}{ro:Bool}{u:Nat}(hl:h.look a.block=some ⟨.cells c e f,fam,ro,u⟩) :
   ∀(n i:Nat) (acc:Array Value) (m:List Value),m.length=n→(∀j,j < n→c[a.off+i+j]? = m[j]?)→(loadCellsFrom a i n acc).aro P h=some ⟨acc.toList ++ m⟩
 | 0,i,acc,m,h1,h2=>by
   have:m=[]:=List.eq_nil_of_length_eq_zero h1
   subst this
   show some acc=_
   simp
 | n+1,i,acc,m,h1,h2=>by
   cases m with
   |nil=>simp at h1
   |cons x m=>
    have hx:c[a.off+i]? = some x:=by have:=h2 0 (by omega);simpa using this
    have hc:h.cell (a.add i)=some x:=by
     unfold AH.cell Addr.add
     obtain ⟨blk,off,spot⟩:=a
     dsimp only at hs hl hx
     subst hs
     by_cases hi:i=0
     ·subst hi
      simp only [if_true]
      rw [hl]
      simpa using hx
     ·rw [if_neg hi]
      dsimp only
      rw [hl]
      exact hx
    have hload:(load (a.add i)).aro P h=some x:=by
     unfold load
     rw [Sem.aro.eq_def]
     dsimp only
     rw [hc]
     rfl
    show ((load (a.add i)) >>= fun v=>loadCellsFrom a (i+1) n (acc.push v)).aro P h=_
    rw [ro_bnd hload,ro_loadCells hs hl n (i+1) (acc.push x) m (by simpa using h1) fun j hj=>?_]
    ·simp
    ·have:=h2 (j+1) (by omega)
     have e:a.off+(i+1)+j=a.off+i+(j+1):=by omega
     rw [e,this]
     simp
theorem aggF_some{a:Addr}{n:Nat}(e:aggF h a n=some v):(loadCells a n >>= fun c=>(Pure.pure (Value.agg c):Sem Value)).aro P h=some v:=by
 unfold aggF at e
 split at e
 · rename_i blk off c e' f' fam ro u hl
   split at e
   ·rename_i m hm
    cases e
    obtain ⟨h1,h2⟩:=takeL_some n _ hm
    have:=ro_loadCells (P:=P) (h:=h) (a:=⟨blk,off,none⟩) rfl hl n 0 #[] m h1 fun j hj=>by
     have:=h2 j hj
     rw [dropL_eq,List.getElem?_drop] at this
     simpa using this
    rw [ro_bnd (show (loadCells ⟨blk,off,none⟩ n).aro P h=_ from this)]
    simp [ro_pure']
   ·cases e
 · cases e
theorem setK_eq{β:Type}(v:Value):∀(l:List Value) (n:Nat) (k:List Value→β),setK v l n k=k (l.set n v)
 | [],n,k=>by simp [setK]
 | x :: l,0,k=>rfl
 | x :: l,n+1,k=>by
   show setK v l n (fun l'=>k (x :: l'))=_
   rw [setK_eq v l n]
   rfl
def spl:List Value→Nat→List Value→List Value
 | [],_,cells=>cells
 | v :: vs,off,cells=>spl vs (off+1) (cells.set off v)
theorem splK_eq{β:Type}:∀(vs:List Value) (off:Nat) (cells:List Value) (k:List Value→β),splK vs off cells k=k (spl vs off cells)
 | [],off,cells,k=>rfl
 | v :: vs,off,cells,k=>by
   show setK v cells off (fun cells=>splK vs (off+1) cells k)=_
   rw [setK_eq,splK_eq vs]
   rfl
theorem spl_foldl:∀(vs:List Value) (off s:Nat) (cells:Array Value),(vs.zipIdx s).foldl (fun cs p=>cs.setIfInBounds (off+p.2) p.1) cells=⟨spl vs (off+s) cells.toList⟩
 | [],off,s,cells=>rfl
 | v :: vs,off,s,cells=>by
   rw [List.zipIdx_cons,List.foldl_cons,spl_foldl vs off (s+1)]
   have e:off+(s+1)=off+s+1:=by omega
   rw [e]
   congr 1
   show spl vs (off+s+1) _=spl vs (off+s+1) _
   simp
theorem cellsL_eq(v:Value):cellsL v=v.cells.toList:=by cases v<;>rfl
theorem fillK_some{pl:List (Nat×Nat)}:∀(ps:List (Nat×Operand)) {cells:List Value},fillK pl tmps ps cells=some v →
   (∀p∈ps,okX p.2=true)∧∃c,Instr.fill (fun i=>pl[i]?) ⟨cells⟩ (ps.map fun p=>(p.1,aeval ⟨tmps⟩ p.2))=some ⟨c⟩∧Value.agg ⟨c⟩=v
 | [],cells,e=>by cases e;exact ⟨fun p hp=>(by cases hp),cells,rfl,rfl⟩
 | (i,x) :: ps,cells,e=>by
   replace e:(match evF tmps x with
    |some v=>match nth pl i with
     |some q=>bif Nat.beq (cellsL v).length q.2 && Nat.ble (q.1+q.2) cells.length then splK (cellsL v) q.1 cells (fillK pl tmps ps) else none
     |none=>none
    |none=>none)=some v:=e
   split at e
   ·rename_i u hu
    obtain ⟨e1,e2⟩:=evF_some hu
    split at e
    ·rename_i q hq
     cases hb:(Nat.beq (cellsL u).length q.2 && Nat.ble (q.1+q.2) cells.length) with
     |false=>rw [hb] at e;cases e
     |true=>
      rw [hb] at e
      dsimp only [cond_true] at e
      rw [splK_eq] at e
      obtain ⟨h1,c,h2,h3⟩:=fillK_some ps e
      rw [Bool.and_eq_true] at hb
      have b1:=Nat.eq_of_beq_eq_true hb.1
      have b2:=Nat.le_of_ble_eq_true hb.2
      rw [cellsL_eq] at b1
      refine ⟨fun p hp=>?_,c,?_,h3⟩
      ·rcases List.mem_cons.1 hp with rfl|hp
       ·exact e2
       ·exact h1 p hp
      ·rw [List.map_cons]
       unfold Instr.fill
       rw [nth_eq] at hq
       dsimp only
       rw [hq]
       dsimp only
       rw [e1]
       have c1:u.cells.size=q.2:=by simpa using b1
       have c2:¬(u.cells.size≠q.2 || decide (q.1+u.cells.size > (Array.mk cells).size))=true:=by
        simp [c1]
        omega
       rw [if_neg c2]
       have hf:u.cells.zipIdx.foldl (fun cs (c,j)=>cs.setIfInBounds (q.1+j) c) (Array.mk cells)=⟨spl (cellsL u) q.1 cells⟩:=by
        rw [←Array.foldl_toList,Array.toList_zipIdx]
        have:=spl_foldl u.cells.toList q.1 0 ⟨cells⟩
        rw [cellsL_eq]
        exact this
       rw [hf]
       exact h2
    ·cases e
   ·cases e
theorem ro_places{fields:Array Field}{pls:List (Nat×Nat)}(h1:fields.toList.map (fun f=>(f.offset,P.cellsOf f.type))=pls)(h2:∀f∈fields.toList,∃d,P.info? f.type=some d) :
   (fields.mapM fun f=>do pure (f.offset,←sizeOf f.type):Sem (Array (Nat×Nat))).aro P h=some pls.toArray:=by
 have hm:∀(fs:List Field),(∀f∈fs,∃d,P.info? f.type=some d)→(fs.mapM fun f=>do pure (f.offset,←sizeOf f.type):Sem (List (Nat×Nat))).aro P h=some (fs.map fun f=>(f.offset,P.cellsOf f.type)):=by
   intro fs
   induction fs with
   |nil=>intro _;rfl
   |cons f fs ih=>
    intro hf
    obtain ⟨d,hd⟩:=hf f List.mem_cons_self
    have hs:(do pure (f.offset,←sizeOf f.type):Sem (Nat×Nat)).aro P h=some (f.offset,P.cellsOf f.type):=by
     show (sizeOf f.type >>= fun n=>(Pure.pure (f.offset,n):Sem (Nat×Nat))).aro P h=_
     rw [ro_bnd (ro_size hd)]
     unfold Program.cellsOf
     rw [hd]
     rfl
    rw [List.mapM_cons,ro_bnd hs,ro_bnd (ih fun g hg=>hf g (List.mem_cons_of_mem _ hg))]
    rfl
 rw [Array.mapM_eq_mapM_toList]
 show ((fields.toList.mapM _) >>= fun a=>(Pure.pure a.toArray:Sem (Array (Nat×Nat)))).aro P h=_
 rw [ro_bnd (hm _ h2),h1]
 rfl
theorem fast_sound(K:TabOk P T)(e:fast T tmps h o.op=some v):(operOk o && opOk P h (aeval ⟨tmps⟩) o)=true∧(execOp (aeval ⟨tmps⟩) o).aro P h=some (.value v):=by
 have one:∀ {x:Operand} {u:Value},evF tmps x=some u→aeval ⟨tmps⟩ x=u∧okX x=true:=evF_some
 obtain ⟨dst,op,type,pos,after,guard⟩:=o
 dsimp only at e
 unfold fast at e
 split at e
 · rename_i x
   unfold fMove at e
   split at e
   ·rename_i u hu
    cases e
    obtain ⟨e1,e2⟩:=one hu
    refine rexec_of (s:=Pure.pure v) (fun y hy=>by simp [Op.operands] at hy;rw [hy];exact e2) rfl ?_ rfl
    unfold execOp
    dsimp only
    rw [e1]
    rfl
   ·cases e
 · rename_i x
   unfold fMove at e
   split at e
   ·rename_i u hu
    cases e
    obtain ⟨e1,e2⟩:=one hu
    refine rexec_of (s:=Pure.pure v) (fun y hy=>by simp [Op.operands] at hy;rw [hy];exact e2) rfl ?_ rfl
    unfold execOp
    dsimp only
    rw [e1]
    rfl
   ·cases e
 · rename_i s x f
   unfold fField at e
   split at e
   ·rename_i a hx
    obtain ⟨e1,e2⟩:=one hx
    split at e
    ·rename_i sz fields z pls hs
     split at e
     ·rename_i fd hfd
      split at e
      ·rename_i sz' u' z' pls' hf
       cases hb:Nat.beq sz' 0 with
       |true=>rw [hb] at e;cases e
       |false=>
        rw [hb] at e
        cases e
        have hun:=(K.get _ _ hs).1
        obtain ⟨d,hd1,hd2⟩:=(K.get _ _ hf).2.1
        rw [nth_eq] at hfd
        have hfd':fields[f]? = some fd:=by simpa using hfd
        have hsz:sz' ≠ 0:=fun e0=>by rw [e0] at hb;cases hb
        refine rexec_of (s:=Instr.fieldAt s (.pointer (some a)) f) (fun y hy=>by simp [Op.operands] at hy;rw [hy];exact e2) ?_ ?_ ?_
        ·show fieldOk P s f=true
         unfold fieldOk
         rw [hun]
         dsimp only
         rw [hfd']
         dsimp only
         rw [hd1]
         simp [hd2,hsz]
        ·unfold execOp
         dsimp only
         rw [e1]
        ·unfold Instr.fieldAt
         rw [ro_bnd (ro_under hun)]
         dsimp only
         rw [hfd']
         dsimp only
         rw [ro_bnd (show (Instr.sureAddr (.pointer (some a))).aro P h=some a from rfl)]
         have:(fieldPlace a fd).aro P h=some (a.add fd.offset):=by
          unfold fieldPlace
          rw [ro_bnd (ro_size hd1),hd2,if_neg hsz]
          rfl
         rw [ro_bnd this]
         rfl
      ·cases e
     ·cases e
    ·cases e
   ·cases e
 · rename_i t x
   unfold fLoad at e
   split at e
   ·rename_i a hx
    obtain ⟨e1,e2⟩:=one hx
    split at e
    ·rename_i sz d z pls ht
     have hun:=(K.get _ _ ht).1
     obtain ⟨inf,hd1,hd2⟩:=(K.get _ _ ht).2.1
     refine rexec_of (s:=Instr.loadAt t (.pointer (some a))) (fun y hy=>by simp [Op.operands] at hy;rw [hy];exact e2) rfl ?_ ?_
     ·unfold execOp
      dsimp only
      rw [e1]
     ·unfold Instr.loadAt
      rw [ro_bnd (show (Instr.sureAddr (.pointer (some a))).aro P h=some a from rfl)]
      unfold loadVar
      have hagg:(isAgg t).aro P h=some (isAggT d):=by
       unfold isAgg
       rw [ro_bnd (ro_under hun)]
       dsimp only
       cases d<;>rfl
      rw [ro_bnd hagg]
      cases hb:isAggT d with
      |true=>
       rw [hb] at e
       dsimp only [cond_true] at e
       split at e
       ·rename_i u hu
        cases e
        simp only [if_true]
        rw [ro_bnd (ro_size hd1),hd2]
        exact aggF_some hu
       ·cases e
      |false=>
       rw [hb] at e
       dsimp only [cond_false] at e
       split at e
       ·rename_i u hu
        cases e
        simp only [Bool.false_eq_true,if_false]
        unfold load
        rw [Sem.aro.eq_def]
        dsimp only
        rw [cellF_some hu]
        rfl
       ·cases e
    ·cases e
   ·cases e
 · rename_i bop t x y s
   unfold fBin at e
   split at e
   ·rename_i k a k' b hx hy
    obtain ⟨e1,e2⟩:=one hx
    obtain ⟨e3,e4⟩:=one hy
    split at e
    ·rename_i hk
     subst hk
     split at e
     ·rename_i u hu
      cases e
      refine rexec_of (s:=(eqGuard bop t x y (.int k a) (.int k b)) >>= fun _=>binOp bop t (.int k a) (.int k b)) (fun z hz=>by simp [Op.operands] at hz;rcases hz with hz|hz<;>(rw [hz];assumption)) ?_ ?_ ?_
      ·show (binOk bop (aeval ⟨tmps⟩ x) (aeval ⟨tmps⟩ y) || nilOk bop (aeval ⟨tmps⟩ x) (aeval ⟨tmps⟩ y))=true
       rw [e1,e3]
       cases bop<;>first|rfl|(cases hu;done)
      ·unfold execOp
       dsimp only
       rw [e1,e3]
      ·have hg:(eqGuard bop t x y (.int k a) (.int k b)).aro P h=some ():=by
        unfold eqGuard
        cases bop<;>rfl
       rw [ro_bnd hg]
       unfold intF at hu
       cases bop<;>first|(cases hu;done)|skip
       all_goals
        cases hu
        simp only [binOp,ne_eq,not_true_eq_false,if_false]
        first|(simp [Op.intArith,Op.intCmp,ro_pure'];done)|(simp [Op.intArith,Op.intCmp,ro_pure'];by_cases hab:a=b<;>simp [hab])
     ·cases e
    ·cases e
   ·cases e
 · rename_i t x
   unfold fNot at e
   split at e
   ·rename_i b hx
    cases e
    obtain ⟨e1,e2⟩:=one hx
    refine rexec_of (s:=Op.unary .not (.bool b)) (fun y hy=>by simp [Op.operands] at hy;rw [hy];exact e2) rfl ?_ rfl
    unfold execOp
    dsimp only
    rw [e1]
   ·cases e
 · rename_i x i
   unfold fExtract at e
   split at e
   ·rename_i vs hx
    obtain ⟨e1,e2⟩:=one hx
    split at e
    ·rename_i u hu
     cases e
     rw [nth_eq] at hu
     have hu':vs[i]? = some v:=by simpa using hu
     refine rexec_of (s:=Instr.extract (.tuple vs) i) (fun y hy=>by simp [Op.operands] at hy;rw [hy];exact e2) rfl ?_ ?_
     ·unfold execOp
      dsimp only
      rw [e1]
     ·unfold Instr.extract
      dsimp only
      rw [hu']
      rfl
    ·cases e
   ·cases e
 · rename_i c a b
   unfold fPick at e
   split at e
   ·rename_i t hc
    split at e
    ·rename_i u u' ha hb
     cases e
     obtain ⟨e1,e2⟩:=one hc
     obtain ⟨e3,e4⟩:=one ha
     obtain ⟨e5,e6⟩:=one hb
     refine rexec_of (s:=Pure.pure (bif t then u else u')) (fun y hy=>by simp [Op.operands] at hy;rcases hy with hy|hy|hy<;>(rw [hy];assumption)) rfl ?_ rfl
     unfold execOp
     dsimp only
     rw [e1,e3,e5]
     cases t<;>rfl
    ·cases e
   ·cases e
 · rename_i t x i
   unfold fIndex at e
   split at e
   ·rename_i a len cap k n hx hi
    obtain ⟨e1,e2⟩:=one hx
    obtain ⟨e3,e4⟩:=one hi
    split at e
    ·rename_i sz el z pls ht
     split at e
     ·rename_i sz' u' z' pls' hel
      split at e
      ·rename_i hb
       cases e
       have hun:=(K.get _ _ ht).1
       obtain ⟨inf,hd1,hd2⟩:=(K.get _ _ hel).2.1
       dsimp only at hd2
       refine rexec_of (s:=Instr.indexAt t (.slice (some a) len cap) (.int k n)) (fun y hy=>by simp [Op.operands] at hy;rcases hy with hy|hy<;>(rw [hy];assumption)) rfl ?_ ?_
       ·unfold execOp
        dsimp only
        rw [e1,e3]
       ·unfold Instr.indexAt
        rw [ro_bnd (show (asIntOf (.int k n)).aro P h=some (k,n) from rfl)]
        dsimp only
        rw [ro_bnd (ro_under hun)]
        dsimp only
        rw [ro_bnd (ro_pure' _)]
        dsimp only
        rw [ro_bnd (ro_under hun)]
        dsimp only
        rw [if_pos hb,ro_bnd (ro_size hd1),hd2]
        rfl
      ·cases e
     ·cases e
    ·cases e
   ·rename_i a k n hx hi
    obtain ⟨e1,e2⟩:=one hx
    obtain ⟨e3,e4⟩:=one hi
    split at e
    ·rename_i sz len el z pls ht
     split at e
     ·rename_i sz' u' z' pls' hel
      split at e
      ·rename_i hb
       cases e
       have hun:=(K.get _ _ ht).1
       obtain ⟨inf,hd1,hd2⟩:=(K.get _ _ hel).2.1
       dsimp only at hd2
       refine rexec_of (s:=Instr.indexAt t (.pointer (some a)) (.int k n)) (fun y hy=>by simp [Op.operands] at hy;rcases hy with hy|hy<;>(rw [hy];assumption)) rfl ?_ ?_
       ·unfold execOp
        dsimp only
        rw [e1,e3]
       ·unfold Instr.indexAt
        rw [ro_bnd (show (asIntOf (.int k n)).aro P h=some (k,n) from rfl)]
        dsimp only
        rw [ro_bnd (ro_under hun)]
        dsimp only
        rw [ro_bnd (show (Instr.sureAddr (.pointer (some a))).aro P h=some a from rfl)]
        rw [ro_bnd (ro_pure' _)]
        dsimp only
        rw [ro_bnd (ro_under hun)]
        dsimp only
        rw [if_pos hb,ro_bnd (ro_size hd1),hd2]
        rfl
      ·cases e
     ·cases e
    ·cases e
   ·cases e
 · rename_i t ps
   unfold fBuild at e
   split at e
   ·rename_i sz fields z pls ht
    obtain ⟨hun,⟨inf,hd1,hd2⟩,hz,hpl⟩:=K.get _ _ ht
    obtain ⟨hp1,hp2⟩:=hpl fields rfl
    dsimp only at hz hun hp1
    obtain ⟨hev,hfill⟩:=fillK_some _ e
    refine rexec_of (s:=Instr.build t (ps.map fun p=>(p.1,aeval ⟨tmps⟩ p.2))) (fun y hy=>?_) rfl ?_ ?_
    ·simp [Op.operands] at hy
     obtain ⟨a,hp⟩:=hy
     exact hev (a,y) (Array.mem_toList_iff.2 hp)
    ·unfold execOp
     rfl
    ·unfold Instr.build
     rw [ro_bnd (ro_zero hz),ro_bnd (ro_under hun)]
     dsimp only
     rw [ro_bnd (ro_places hp1 hp2)]
     have hpar:(ps.map fun p=>(p.1,aeval ⟨tmps⟩ p.2)).toList=ps.toList.map fun p=>(p.1,aeval ⟨tmps⟩ p.2):=by simp
     obtain ⟨c,hc1,hc2⟩:=hfill
     have hzc:z.cells=⟨z.cells.toList⟩:=rfl
     rw [hpar]
     have:(fun i:Nat=>(pls.toArray)[i]?)=(fun i:Nat=>pls[i]?):=by funext i;simp
     rw [show (fun x:Nat=>pls.toArray[x]?)=(fun i:Nat=>pls[i]?) from this]
     rw [hzc,hc1]
     show some (Value.agg ⟨c⟩)=some v
     rw [hc2]
   ·cases e
 · rename_i args ats
   split at e
   ·rename_i x hargs
    split at e
    ·rename_i t rest hats
     split at e
     ·rename_i sz el z pls ht
      unfold fLen at e
      split at e
      ·rename_i base n cap hx
       cases e
       obtain ⟨e1,e2⟩:=one hx
       have hun:=(K.get _ _ ht).1
       have ha:args = #[x]:=Array.ext' hargs
       subst ha
       have hat:ats[0]? = some t:=by rw [←Array.getElem?_toList,hats];rfl
       refine rexec_of (s:=Builtin.len_ ats type #[.slice base n cap]) (fun y hy=>by simp [Op.operands,Call.operands] at hy;rw [hy];exact e2) rfl ?_ ?_
       ·unfold execOp
        dsimp only
        have hm:(#[x]:Array Operand).map (aeval ⟨tmps⟩) = #[.slice base n cap]:=by simp [e1]
        unfold resolve
        dsimp only
        rw [hm]
        rfl
       ·unfold Builtin.len_
        rw [hat]
        show (underlying t >>= fun d=>_:Sem Value).aro P h=_
        rw [ro_bnd (ro_under hun)]
        rfl
      ·cases e
     ·cases e
    ·cases e
   ·cases e
 · cases e
end
end Go.Am
