import Derived.Test.YtmgllphkofdnhaaGreatH2
set_option linter.unusedVariables false
set_option linter.unusedSectionVars false
set_option linter.unusedSimpArgs false
namespace Go.Am
open Go.Ren (grow EvO Guar Rely)
def plainV:Nat→Value→Bool
 |0,_=>false
 |n+1,v=>match v with
  | .bool _ | .int _ _ | .string _ | .pointer none | .slice none _ _ | .map none | .nilFunc | .nilIface=>true
  | .func (.func _) a b=>a.isEmpty && b.isEmpty
  | .func (.via ..) a b=>a.isEmpty && b.isEmpty
  | .iface _ v=>plainV n v
  | .agg cs=>cs.toList.all (plainV n)
  | .tuple cs=>cs.toList.all (plainV n)
  |_=>false
theorem get_mem{α:Type}{a:Array α}{i:Nat}{x:α}(h:a[i]? = some x):x∈a.toList:=by
 obtain ⟨h1,h2⟩:=Array.getElem?_eq_some_iff.1 h
 rw [←h2];simp
theorem plain_vr(ρ:Env):∀(n:Nat) (v:Value),plainV n v=true→VR ρ v v:=by
 intro n
 induction n with
 |zero=>intro v h;cases h
 |succ n ih=>
  intro v h
  have arr:∀cs:Array Value,cs.toList.all (plainV n)=true→∀(i:Nat) x y,cs[i]? = some x→cs[i]? = some y→VR ρ x y:=by
   intro cs hc i x y hx hy
   rw [hx] at hy
   cases hy
   exact ih x (List.all_eq_true.1 hc x (get_mem hx))
  have emp:∀a:Array Value,a.isEmpty=true→∀(i:Nat) x y,a[i]? = some x→a[i]? = some y→VR ρ x y:=by
   intro a ha i x y hx _
   have:a = #[]:=Array.isEmpty_iff.1 ha
   subst this
   simp at hx
  cases v with
  |bool b=>exact .bool b
  |int k m=>exact .int k m
  |string s=>exact .string s
  |pointer a=>cases a with|none=>exact .nilptr|some a=>cases h
  |slice a m c=>cases a with|none=>exact .nilslice m c|some a=>cases h
  |map r=>cases r with|none=>exact .nilmap|some a=>cases h
  |nilFunc=>exact .nilFunc
  |nilIface=>exact .nilIface
  |func f a b=>
   have fin:(a.isEmpty && b.isEmpty)=true→FnR ρ f f→VR ρ (.func f a b) (.func f a b):=fun h hf=>by
    simp only [Bool.and_eq_true] at h
    exact .func hf rfl (emp a h.1) rfl (emp b h.2)
   cases f with
   |func f=>exact fin h (.func f)
   |via t p f x=>exact fin h (.via t p f x)
   |_=>cases h
  |iface t v=>exact .iface (ih v h)
  |agg cs=>exact .agg rfl (arr cs h)
  |tuple cs=>exact .tuple rfl (arr cs h)
  |_=>cases h
class Zeros(P:Program):Prop where
 zero:∀t i z,P.info? t=some i→i.zero=some z→∀ρ:Env,VR ρ z z
abbrev Same{α:Type}:Env→α→α→Prop:=fun _ a b=>a=b
def Dead(P:Program){α:Type}(s:Sem α):Prop:=∀c h,s.ar P c h=none
theorem dead_bind{P:Program}{α γ:Type}(s:Sem α)(f:α→Sem γ)(hf:∀a,Dead P (f a)):Dead P (s.bind f):=by
 induction s with
 |pure a=>exact hf a
 |load m a k ih=>
  intro c h
  simp only [Sem.bind]
  rw [Sem.ar.eq_def]
  dsimp only
  split
  ·exact ih _ _ _
  ·rfl
 |store m a v k ih=>
  intro c h
  simp only [Sem.bind]
  cases v<;>cases m<;>simp only [Sem.ar]
  all_goals
   split
   ·exact ih _ _
   ·rfl
 |new o k ih=>
  intro c h
  simp only [Sem.bind]
  simp only [Sem.ar]
  split<;>first|rfl|exact ih _ _ _
 |shape r k ih=>
  intro c h
  simp only [Sem.bind]
  simp only [Sem.ar]
  split<;>first|rfl|exact ih _ _ _
 |getObj r k ih=>
  intro c h
  simp only [Sem.bind]
  simp only [Sem.ar]
  split<;>first|rfl|exact ih _ _ _
 |setObj r o k ih=>
  intro c h
  simp only [Sem.bind]
  simp only [Sem.ar]
  split
  ·rfl
  ·rfl
  ·split
   ·rfl
   ·exact ih _ _
  ·rfl
 |choose q k ih=>
  intro c h
  simp only [Sem.bind]
  rw [Sem.ar.eq_def]
  dsimp only
  split
  ·exact ih _ _ _
  ·split
   ·exact ih _ _ _
   ·rfl
 |program k ih=>intro c h;exact ih _ _ _
 |_=>intro c h;rfl
theorem dead_rpanic{P:Program}{α:Type}(x:RuntimeError):Dead P (runtimePanic x:Sem α):=by
 intro c h
 show (match x with|_=>_:Sem α).ar P c h=none
 cases x<;>first|rfl|exact dead_bind _ _ (fun a=>dead_bind _ _ fun b c h=>rfl) c h
section
variable{P:Program}{ρ σ:Env}{α β γ δ:Type}
theorem SR.bnd{R:Env→α→β→Prop}{Q:Env→γ→δ→Prop}{s:Sem α}{s':Sem β}{f:α→Sem γ}{f':β→Sem δ}(h:SR P R ρ s s')(hf:∀σ:Env,ρ.Le σ→∀a b,R σ a b→SR P Q σ (f a) (f' b)):SR P Q ρ (s >>= f) (s' >>= f'):=h.bind hf
theorem SR.bndS{Q:Env→γ→δ→Prop}{s s':Sem α}{f:α→Sem γ}{f':α→Sem δ}(h:SR P Same ρ s s')(hf:∀σ:Env,ρ.Le σ→∀a,SR P Q σ (f a) (f' a)):SR P Q ρ (s >>= f) (s' >>= f'):=h.bind fun σ hσ a b e=>by cases e;exact hf σ hσ a
theorem SR.pur{R:Env→α→β→Prop}{a:α}{b:β}(h:R ρ a b):SR P R ρ (Pure.pure a:Sem α) (Pure.pure b:Sem β):=.pure h
theorem SR.stuck{R:Env→α→β→Prop}{x:String}{s:Sem β}:SR P R ρ (Go.stuck x) s:=.halt
theorem SR.uns{R:Env→α→β→Prop}{x:Unsupported}{s:Sem β}:SR P R ρ (Go.unsupported x) s:=.halt
theorem SR.prog{R:Env→γ→δ→Prop}{f:Program→Sem γ}{f':Program→Sem δ}(h:SR P R ρ (f P) (f' P)):SR P R ρ (Go.program >>= f) (Go.program >>= f'):=.program h
theorem SR.rpanic{R:Env→α→β→Prop}{x:RuntimeError}{s:Sem β}:SR P R ρ (runtimePanic x) s:=.dead (dead_rpanic x)
theorem SR.bpanic{R:Env→α→β→Prop}{k:IntKind}{x y:Int}{c:BoundsCode}{s:Sem β}:SR P R ρ (boundsPanic k x y c) s:=by
 unfold boundsPanic
 dsimp only
 split<;>exact .dead (dead_bind _ _ fun a=>dead_rpanic _)
theorem sr_underlying(t:TypeId):SR P Same ρ (underlying t) (underlying t):=by
 unfold underlying
 refine .prog ?_
 split
 ·exact .pur rfl
 ·exact .stuck
theorem sr_typeInfo(t:TypeId):SR P (fun _ a b=>a=b∧P.info? t=some a) ρ (typeInfo t) (typeInfo t):=by
 unfold typeInfo
 refine .prog ?_
 split
 ·rename_i i hi;exact .pur ⟨rfl,hi⟩
 ·exact .stuck
theorem sr_zero[Zeros P](t:TypeId):SR P VR ρ (zeroValue t) (zeroValue t):=by
 unfold zeroValue
 refine (sr_typeInfo t).bnd fun σ _ a b h=>?_
 obtain ⟨rfl,hi⟩:=h
 split
 ·rename_i v hv;exact .pur (Zeros.zero t a v hi hv σ)
 ·exact .uns
theorem sr_sizeOf(t:TypeId):SR P Same ρ (sizeOf t) (sizeOf t):=by
 unfold sizeOf
 refine (sr_typeInfo t).bnd fun σ _ a b h=>?_
 obtain ⟨rfl,hi⟩:=h
 exact .pur rfl
theorem sr_isAgg(t:TypeId):SR P Same ρ (isAgg t) (isAgg t):=by
 unfold isAgg
 refine (sr_underlying t).bndS fun σ _ a=>?_
 split<;>exact .pur rfl
theorem addr_add(a:Addr)(n:Nat):ρ.addr (a.add n)=(ρ.addr a).add n:=by
 unfold Addr.add
 by_cases h:n=0
 ·rw [if_pos h,if_pos h]
 ·rw [if_neg h,if_neg h];simp only [Env.addr,Nat.add_assoc]
theorem block_add(a:Addr)(n:Nat):(a.add n).block=a.block:=by unfold Addr.add;split<;>rfl
theorem sr_load{a:Addr}(ha:ρ.born a.block):SR P VR ρ (load a) (load (ρ.addr a)):=.load ha fun v v' hv=>.pure hv
theorem AR.empty{R:α→β→Prop}:AR R #[] #[]:=⟨rfl,fun i x y h=>by simp at h⟩
theorem AR.push{R:α→β→Prop}{a:Array α}{b:Array β}(h:AR R a b){x:α}{y:β}(hxy:R x y):AR R (a.push x) (b.push y):=by
 refine ⟨by simp [h.1],fun i u v hu hv=>?_⟩
 rw [Array.getElem?_push] at hu hv
 by_cases e:i=a.size
 ·rw [if_pos e] at hu;rw [if_pos (h.1 ▸ e)] at hv;cases hu;cases hv;exact hxy
 ·rw [if_neg e] at hu;rw [if_neg (h.1 ▸ e)] at hv;exact h.2 i u v hu hv
theorem sr_loadCellsFrom(n:Nat):∀ {ρ:Env} (a:Addr) (i:Nat) (acc acc':Array Value),ρ.born a.block→AR (VR ρ) acc acc' → SR P (fun σ=>AR (VR σ)) ρ (loadCellsFrom a i n acc) (loadCellsFrom (ρ.addr a) i n acc'):=by
 induction n with
 |zero=>intro ρ a i acc acc' _ h;exact .pur h
 |succ n ih=>
  intro ρ a i acc acc' ha h
  unfold loadCellsFrom
  rw [←addr_add]
  refine (sr_load (by rw [block_add];exact ha)).bnd fun σ hσ v v' hv=>?_
  rw [←hσ.addr ha]
  exact ih a (i+1) _ _ (hσ.born _ ha) ((h.mono fun _ _ x=>x.mono hσ).push hv)
theorem sr_loadCells{a:Addr}(n:Nat)(ha:ρ.born a.block):SR P (fun σ=>AR (VR σ)) ρ (loadCells a n) (loadCells (ρ.addr a) n):=sr_loadCellsFrom n a 0 _ _ ha .empty
theorem sr_loadVar(t:TypeId){a:Addr}(ha:ρ.born a.block):SR P VR ρ (loadVar t a) (loadVar t (ρ.addr a)):=by
 unfold loadVar
 refine (sr_isAgg t).bndS fun σ hσ b=>?_
 rw [←hσ.addr ha]
 have ha' :=hσ.born _ ha
 cases b with
 |true=>
  refine (sr_sizeOf t).bndS fun τ hτ n=>?_
  rw [←hτ.addr ha']
  exact (sr_loadCells n (hτ.born _ ha')).bnd fun υ _ x y h=>.pur (.agg h.1 h.2)
 |false=>exact sr_load ha'
theorem vr_cells{v v':Value}(h:VR ρ v v'):AR (VR ρ) v.cells v'.cells:=by
 have one:∀ {v v':Value},VR ρ v v' → AR (VR ρ) #[v] #[v']:=fun {v v'} h=>by
  have:=(AR.empty (R:=VR ρ)).push h
  exact this
 cases h with
 |agg hs h=>exact ⟨hs,h⟩
 |bool b=>exact one (.bool b)
 |int k n=>exact one (.int k n)
 |string s=>exact one (.string s)
 |nilptr=>exact one .nilptr
 |ptr h=>exact one (.ptr h)
 |nilslice n c=>exact one (.nilslice n c)
 |slice h hc=>exact one (.slice h hc)
 |nilmap=>exact one .nilmap
 |map h=>exact one (.map h)
 |nilchan=>exact one .nilchan
 |chan h=>exact one (.chan h)
 |nilFunc=>exact one .nilFunc
 |func a b c d e=>exact one (.func a b c d e)
 |nilIface=>exact one .nilIface
 |iface h=>exact one (.iface h)
 |tuple hs h=>exact one (.tuple hs h)
theorem AR.list{R:α→β→Prop}{a:Array α}{b:Array β}(h:AR R a b):LR R a.toList b.toList:=by
 obtain ⟨a⟩:=a
 obtain ⟨b⟩:=b
 obtain ⟨hs,h⟩:=h
 simp only [List.size_toArray] at hs
 induction a generalizing b with
 |nil=>cases b with|nil=>exact .nil|cons y m=>simp at hs
 |cons x l ih=>
  cases b with
  |nil=>simp at hs
  |cons y m=>
   refine .cons (h 0 x y (by simp) (by simp)) (ih m (fun i u v hu hv=>h (i+1) u v (by simpa using hu) (by simpa using hv)) (by simpa using hs))
theorem LR.arr{R:α→β→Prop}{a:List α}{b:List β}(h:LR R a b):AR R a.toArray b.toArray:=by
 induction h with
 |nil=>exact .empty
 |cons h _ ih=>
  refine ⟨by have:=ih.1;simp at this ⊢;exact this,fun i x y hx hy=>?_⟩
  cases i with
  |zero=>simp at hx hy;subst hx hy;exact h
  |succ i=>exact ih.2 i x y (by simpa using hx) (by simpa using hy)
theorem sr_storeCells{l l':List Value}:∀ {ρ:Env} {a:Addr} (i:Nat),ρ.born a.block→LR (VR ρ) l l' → SR P Same ρ (storeCells a l i) (storeCells (ρ.addr a) l' i):=by
 induction l generalizing l' with
 |nil=>intro ρ a i _ h;cases h;exact .pur rfl
 |cons v l ih=>
  intro ρ a i ha h
  cases h with
  |cons hv hl=>
   unfold storeCells
   rw [←addr_add]
   refine SR.bndS (s:=store (a.add i) v) (.store (by rw [block_add];exact ha) hv (.pure rfl)) fun σ hσ _=>?_
   rw [←hσ.addr ha]
   exact ih (i+1) (hσ.born _ ha) (hl.mono fun _ _ x=>x.mono hσ)
theorem sr_storeVar(t:TypeId){a:Addr}{v v':Value}(ha:ρ.born a.block)(hv:VR ρ v v'):SR P Same ρ (storeVar t a v) (storeVar t (ρ.addr a) v'):=by
 unfold storeVar
 have hc:=vr_cells hv
 refine (sr_sizeOf t).bndS fun σ hσ n=>?_
 rw [←hσ.addr ha,←hc.1]
 by_cases h:v.cells.size≠n
 ·rw [if_pos h];exact .dead fun _ _=>rfl
 ·rw [if_neg h,if_neg h]
  exact sr_storeCells 0 (hσ.born _ ha) (hc.list.mono fun _ _ x=>x.mono hσ)
theorem sr_newRow(e e':TypeId){c c':Array Value}(hc:AR (VR ρ) c c'):SR P (fun σ a a'=>σ.born a.block∧a.spot=none∧a.off=0∧a' = σ.addr a) ρ (newRow e c) (newRow e' c'):=by
 unfold newRow
 refine SR.bnd (R:=fun σ r r'=>σ.ob r r') (s:=newObj _) (s' :=newObj _) (.new (.cells hc) fun σ hσ r r' hr=>.pure hr) fun σ hσ r r' hr=>.pur ⟨hr.1,rfl,rfl,?_⟩
 unfold Env.addr
 simp only [hr.2]
end
end Go.Am
namespace Go.Am
open Go.Ren (grow EvO Guar Rely)
theorem env0_le(ρ:Env):env0.Le ρ:=⟨fun _ h=>h.elim,fun _ h=>h.elim,fun _ h=>h.elim,fun _ h=>h.elim,fun _ h=>h.elim⟩
def Plain(v:Value):Prop:=VR env0 v v
theorem Plain.vr{v:Value}(h:Plain v)(ρ:Env):VR ρ v v:=VR.mono (env0_le ρ) h
theorem plain_of{n:Nat}{v:Value}(h:plainV n v=true):Plain v:=plain_vr env0 n v h
theorem arr_eq{a b:Array Value}(hs:a.size=b.size)(h:∀(i:Nat) x y,a[i]? = some x→b[i]? = some y→y=x):b=a:=by
 apply Array.ext hs.symm
 intro i h1 h2
 exact h i a[i] b[i] (by simp [h2]) (by simp [h1])
theorem plain_eq{v u:Value}(h:VR env0 v u):∀ {ρ:Env} {v':Value},VR ρ v v' → v' = v:=by
 induction h with
 |bool b=>intro ρ v' k;cases k;rfl
 |int k n=>intro ρ v' k;cases k;rfl
 |string s=>intro ρ v' k;cases k;rfl
 |nilptr=>intro ρ v' k;cases k;rfl
 |ptr h=>exact h.elim
 |nilslice n c=>intro ρ v' k;cases k;rfl
 |slice h=>exact h.elim
 |nilmap=>intro ρ v' k;cases k;rfl
 |map h=>exact h.1.elim
 |nilchan=>intro ρ v' k;cases k;rfl
 |chan h=>exact h.1.elim
 |nilFunc=>intro ρ v' k;cases k;rfl
 |func hf hs h ks k ih ik=>
  intro ρ v' m
  cases m with
  |func hf' hs' h' ks' k'=>
   have e1:=arr_eq hs' fun i x y hx hy=>by
    obtain ⟨z,hz⟩:∃z,_=some z:=⟨_,Array.getElem?_eq_getElem (hs ▸ (Array.getElem?_eq_some_iff.1 hx).1)⟩
    exact ih i x z hx hz (h' i x y hx hy)
   have e2:=arr_eq ks' fun i x y hx hy=>by
    obtain ⟨z,hz⟩:∃z,_=some z:=⟨_,Array.getElem?_eq_getElem (ks ▸ (Array.getElem?_eq_some_iff.1 hx).1)⟩
    exact ik i x z hx hz (k' i x y hx hy)
   rw [e1,e2]
   cases hf with
   |yield h=>exact h.1.elim
   |func f=>cases hf';rfl
   |method f=>cases hf';rfl
   |methodOf f=>cases hf';rfl
   |via f=>cases hf';rfl
 |nilIface=>intro ρ v' k;cases k;rfl
 |iface h ih=>intro ρ v' k;cases k with|iface k=>rw [ih k]
 |agg hs h ih=>
  intro ρ v' m
  cases m with
  |agg hs' h'=>
   rw [arr_eq hs' fun i x y hx hy=>by
    obtain ⟨z,hz⟩:∃z,_=some z:=⟨_,Array.getElem?_eq_getElem (hs ▸ (Array.getElem?_eq_some_iff.1 hx).1)⟩
    exact ih i x z hx hz (h' i x y hx hy)]
 |tuple hs h ih=>
  intro ρ v' m
  cases m with
  |tuple hs' h'=>
   rw [arr_eq hs' fun i x y hx hy=>by
    obtain ⟨z,hz⟩:∃z,_=some z:=⟨_,Array.getElem?_eq_getElem (hs ▸ (Array.getElem?_eq_some_iff.1 hx).1)⟩
    exact ih i x z hx hz (h' i x y hx hy)]
theorem Plain.eq{v v':Value}{ρ:Env}(h:Plain v)(k:VR ρ v v'):v' = v:=plain_eq h k
theorem Plain.agg{cs:Array Value}(h:Plain (.agg cs)):∀c∈cs,Plain c:=by
 intro c hc
 cases h with
 |agg hs h=>
  obtain ⟨i,hi,e⟩:=Array.mem_iff_getElem.1 hc
  exact h i c c (by simp [hi,e]) (by simp [hi,e])
theorem plain_agg{cs:Array Value}(h:∀c∈cs,Plain c):Plain (.agg cs):=
 VR.agg rfl fun i x y hx hy=>by rw [hx] at hy;cases hy;exact h x (Array.mem_of_getElem? hx)
theorem Plain.iface{t:TypeId}{v:Value}(h:Plain (.iface t v)):Plain v:=by cases h with|iface h=>exact h
theorem dead_left{P:Program}{α γ:Type}{s:Sem α}(f:α→Sem γ)(h:Dead P s):Dead P (s >>= f):=fun c a=>ar_bind_none s f c a (h c a)
abbrev SameQ{α:Type}(Q:α→Prop):Env→α→α→Prop:=fun _ a b=>a=b∧Q a
abbrev Dry(P:Program){α:Type}(Q:α→Prop)(s:Sem α):Prop:=∀ρ:Env,SR P (SameQ Q) ρ s s
section
variable{P:Program}{ρ σ:Env}{α β γ δ:Type}
theorem Dry.bnd{Q:α→Prop}{T:β→Prop}{s:Sem α}{f:α→Sem β}(h:Dry P Q s)(k:∀a,Q a→Dry P T (f a)):Dry P T (s >>= f):=fun ρ=>(h ρ).bnd fun σ _ a b e=>by obtain ⟨rfl,e⟩:=e;exact k a e σ
theorem Dry.pur{Q:α→Prop}{a:α}(h:Q a):Dry P Q (Pure.pure a:Sem α):=fun ρ=>.pur ⟨rfl,h⟩
theorem Dry.stuck{Q:α→Prop}{x:String}:Dry P Q (Go.stuck x:Sem α):=fun _=>.stuck
theorem Dry.uns{Q:α→Prop}{x:Unsupported}:Dry P Q (Go.unsupported x:Sem α):=fun _=>.uns
theorem Dry.rpanic{Q:α→Prop}{x:RuntimeError}:Dry P Q (runtimePanic x:Sem α):=fun _=>.rpanic
theorem Dry.dead{Q:α→Prop}{s:Sem α}(h:Dead P s):Dry P Q s:=fun _=>.dead h
theorem Dry.prog{Q:α→Prop}{f:Program→Sem α}(h:Dry P Q (f P)):Dry P Q (Go.program >>= f):=fun ρ=>.prog (h ρ)
abbrev Any{α:Type}:α→Prop:=fun _=>True
theorem dry_underlying(t:TypeId):Dry P Any (underlying t):=fun ρ=>(sr_underlying t).imp fun _ _ _ _ e=>⟨e,trivial⟩
theorem dry_typeInfo(t:TypeId):Dry P Any (typeInfo t):=fun ρ=>(sr_typeInfo t).imp fun _ _ _ _ e=>⟨e.1,trivial⟩
theorem dry_sizeOf(t:TypeId):Dry P Any (sizeOf t):=fun ρ=>(sr_sizeOf t).imp fun _ _ _ _ e=>⟨e,trivial⟩
theorem dry_isAgg(t:TypeId):Dry P Any (isAgg t):=fun ρ=>(sr_isAgg t).imp fun _ _ _ _ e=>⟨e,trivial⟩
theorem dry_typeStr(t:TypeId):Dry P Any (typeStr t):=by
 unfold typeStr
 refine (dry_typeInfo t).bnd fun i _=>?_
 dsimp only
 split
 ·exact .uns
 ·exact .pur trivial
theorem dry_forIn_list{γ δ:Type}{Q:δ→Prop}(f:γ→δ→Sem (ForInStep δ)):∀(xs:List γ) (a:δ),Q a→(∀x∈xs,∀a,Q a→Dry P (fun p=>(∃u,p = .done u∧Q u)∨(∃u,p = .yield u∧Q u)) (f x a))→Dry P Q (forIn xs a f)
 | [],a,h,_=>by simpa using Dry.pur (P:=P) h
 |x :: xs,a,h,hf=>by
  rw [List.forIn_cons]
  refine (hf x (by simp) a h).bnd ?_
  rintro p (⟨u,rfl,hu⟩|⟨u,rfl,hu⟩)
  ·exact .pur hu
  ·exact dry_forIn_list f xs u hu fun y hy=>hf y (by simp [hy])
theorem dry_forIn_array{γ δ:Type}{Q:δ→Prop}(f:γ→δ→Sem (ForInStep δ))(xs:Array γ)(a:δ)(h:Q a)(hf:∀x∈xs,∀a,Q a→Dry P (fun p=>(∃u,p = .done u∧Q u)∨(∃u,p = .yield u∧Q u)) (f x a)):Dry P Q (forIn xs a f):=by
 rw [←Array.forIn_toList]
 exact dry_forIn_list f _ a h fun x hx=>hf x (by simpa using hx)
theorem dry_forIn_range{δ:Type}{Q:δ→Prop}(f:Nat→δ→Sem (ForInStep δ))(r:Std.Legacy.Range)(a:δ)(h:Q a)(hf:∀x,∀a,Q a→Dry P (fun p=>(∃u,p = .done u∧Q u)∨(∃u,p = .yield u∧Q u)) (f x a)):Dry P Q (forIn r a f):=by
 rw [Std.Legacy.Range.forIn_eq_forIn_range']
 exact dry_forIn_list f _ a h fun x _=>hf x
theorem mem_extract{cs:Array Value}{i j:Nat}{v:Value}(h:v∈cs.extract i j):v∈cs:=by
 obtain ⟨k,hk,e⟩:=Array.mem_iff_getElem.1 h
 rw [Array.getElem_extract] at e
 rw [←e]
 exact Array.getElem_mem _
theorem dry_part(t:TypeId){cs:Array Value}(h:∀c∈cs,Plain c)(off:Nat):Dry P Plain (part t cs off):=by
 unfold part
 refine (dry_isAgg t).bnd fun b _=>?_
 cases b with
 |true=>exact (dry_sizeOf t).bnd fun n _=>.pur (plain_agg fun c hc=>h c (mem_extract hc))
 |false=>
  show Dry P Plain (match cs[off]? with|some v=>Pure.pure v|none=>Go.stuck _)
  split
  ·rename_i v hv;exact .pur (h v (Array.mem_of_getElem? hv))
  ·exact .stuck
theorem dry_checkKey(empty:Bool):∀(n:Nat) (t:TypeId) (v:Value),Plain v→Dry P Any (Instr.checkKey empty n t v)
 |0,t,v,_=>.uns
 |n+1,t,v,hv=>by
  unfold Instr.checkKey
  refine (dry_underlying t).bnd fun d _=>?_
  split
  ·rename_i d x _
   refine (dry_typeInfo d).bnd fun i _=>?_
   dsimp only
   split
   ·split
    ·exact .dead (dead_left _ (dead_rpanic _))
    ·exact (dry_typeStr d).bnd fun s _=>.dead (dead_left _ (dead_rpanic _))
   ·exact dry_checkKey empty n d x hv.iface
  ·rename_i len e cs _
   refine Dry.bnd (Q:=Any) (dry_forIn_range _ _ _ trivial fun x a _=>?_) fun _ _=>.pur trivial
   refine (dry_sizeOf e).bnd fun s _=>?_
   refine (dry_part e hv.agg _).bnd fun x hx=>?_
   exact (dry_checkKey empty n e x hx).bnd fun _ _=>.pur (.inr ⟨_,rfl,trivial⟩)
  ·rename_i fields cs _
   refine Dry.bnd (Q:=Any) (dry_forIn_array _ _ _ trivial fun f _ a _=>?_) fun _ _=>.pur trivial
   split
   ·refine (dry_part f.type hv.agg _).bnd fun x hx=>?_
    exact (dry_checkKey empty n f.type x hx).bnd fun _ _=>.pur (.inr ⟨_,rfl,trivial⟩)
   ·exact .pur (.inr ⟨_,rfl,trivial⟩)
  ·exact .pur trivial
  all_goals first|exact .stuck|exact .pur trivial
end
end Go.Am
namespace Go.Am
open Go.Ren (grow EvO Guar Rely)
section
variable{P:Program}{ρ σ:Env}{α β γ δ:Type}
theorem vr0_ptr{v u:Value}(h:VR env0 v u)(a:Addr)(e:v = .pointer (some a)):False:=by
 cases h<;>cases e
 rename_i h;exact h
theorem Plain.ptr{a:Option Addr}(h:Plain (.pointer a)):a=none:=by cases a with|none=>rfl|some a=>exact (vr0_ptr h a rfl).elim
theorem dry_equalIn:∀(n:Nat) (t:TypeId) (x y:Value),Plain x→Plain y→Dry P Any (Op.equalIn n t x y)
 |0,t,x,y,_,_=>.uns
 |n+1,t,x,y,hx,hy=>by
  unfold Op.equalIn
  refine (dry_underlying t).bnd fun d _=>?_
  split
  case h_5=>have:=hx.ptr;cases this
  case h_13=>have:=hx.ptr;cases this
  case h_14=>have:=hx.ptr;have h2:=hy.ptr;subst this h2;exact .pur trivial
  case h_19=>
   rename_i tx vx ty vy _
   split
   ·exact .pur trivial
   ·refine (dry_typeInfo tx).bnd fun i _=>?_
    dsimp only
    split
    ·refine .prog ?_
     refine Dry.prog ?_
     split
     ·exact .dead fun _ _=>rfl
     ·exact (dry_typeStr tx).bnd fun s _=>.dead (dead_rpanic _)
    ·exact dry_equalIn n tx vx vy hx.iface hy.iface
  case h_20=>
   rename_i fields xs ys _
   refine .prog ?_
   dsimp only
   split
   ·exact .dead fun _ _=>rfl
   ·refine Dry.bnd (Q:=Any) (dry_forIn_array _ _ _ trivial fun f _ a _=>?_) fun _ _=>by (try dsimp only);split<;>exact .pur trivial
    split
    ·refine (dry_part f.type hx.agg _).bnd fun u hu=>?_
     refine (dry_part f.type hy.agg _).bnd fun v hv=>?_
     refine (dry_equalIn n f.type u v hu hv).bnd fun b _=>?_
     split
     ·exact .pur (.inl ⟨_,rfl,trivial⟩)
     ·exact .pur (.inr ⟨_,rfl,trivial⟩)
    ·exact .pur (.inr ⟨_,rfl,trivial⟩)
  case h_21=>
   rename_i len e xs ys _
   refine (dry_sizeOf e).bnd fun s _=>?_
   refine Dry.bnd (Q:=Any) (dry_forIn_range _ _ _ trivial fun f a _=>?_) fun _ _=>by (try dsimp only);split<;>exact .pur trivial
   refine (dry_part e hx.agg _).bnd fun u hu=>?_
   refine (dry_part e hy.agg _).bnd fun v hv=>?_
   refine (dry_equalIn n e u v hu hv).bnd fun b _=>?_
   split
   ·exact .pur (.inl ⟨_,rfl,trivial⟩)
   ·exact .pur (.inr ⟨_,rfl,trivial⟩)
  all_goals first
   |exact .pur trivial
   |exact .stuck
   |exact .uns
   |(split;exact .pur trivial;exact .stuck)
theorem dry_equal(t:TypeId){x y:Value}(hx:Plain x)(hy:Plain y):Dry P Any (Op.equal t x y):=dry_equalIn _ _ _ _ hx hy
theorem dry_eqGuardIn:∀(n:Nat) (t:TypeId) (x y:Value),Plain x→Plain y→Dry P Any (Op.eqGuardIn n t x y)
 |0,t,x,y,_,_=>.uns
 |n+1,t,x,y,hx,hy=>by
  unfold Op.eqGuardIn
  refine (dry_underlying t).bnd fun d _=>?_
  split
  ·exact .pur trivial
  ·rename_i fields xs ys _
   refine Dry.bnd (Q:=Any) (dry_forIn_array _ _ _ trivial fun f _ a _=>?_) fun _ _=>by (try dsimp only);split<;>exact .pur trivial
   split
   ·refine (dry_part f.type hx.agg _).bnd fun u hu=>?_
    refine (dry_part f.type hy.agg _).bnd fun v hv=>?_
    refine (dry_eqGuardIn n f.type u v hu hv).bnd fun b _=>?_
    split
    ·exact .pur (.inl ⟨_,rfl,trivial⟩)
    ·exact .pur (.inr ⟨_,rfl,trivial⟩)
   ·exact .pur (.inr ⟨_,rfl,trivial⟩)
  ·rename_i len e xs ys _
   refine (dry_sizeOf e).bnd fun s _=>?_
   refine Dry.bnd (Q:=Any) (dry_forIn_range _ _ _ trivial fun f a _=>?_) fun _ _=>by (try dsimp only);split<;>exact .pur trivial
   refine (dry_part e hx.agg _).bnd fun u hu=>?_
   refine (dry_part e hy.agg _).bnd fun v hv=>?_
   refine (dry_eqGuardIn n e u v hu hv).bnd fun b _=>?_
   split
   ·exact .pur (.inl ⟨_,rfl,trivial⟩)
   ·exact .pur (.inr ⟨_,rfl,trivial⟩)
  ·exact .pur trivial
theorem dry_ite{Q:α→Prop}{c:Prop}[Decidable c]{s t:Sem α}(hs:Dry P Q s)(ht:Dry P Q t):Dry P Q (if c then s else t):=by split<;>assumption
theorem dry_eqGuard(op:BinOp)(t:TypeId)(x y:Operand){a b:Value}(ha:Plain a)(hb:Plain b):Dry P Any (eqGuard op t x y a b):=by
 unfold eqGuard
 refine dry_ite (.pur trivial) ?_
 split
 ·refine dry_ite (.pur trivial) ?_
  refine (dry_eqGuardIn _ _ _ _ ha hb).bnd fun c _=>?_
  exact dry_ite (.dead fun _ _=>rfl) (.pur trivial)
 ·refine .prog ?_
  refine Dry.prog ?_
  refine dry_ite (.pur trivial) ?_
  refine (dry_eqGuardIn _ _ _ _ ha hb).bnd fun c _=>?_
  exact dry_ite (.dead fun _ _=>rfl) (.pur trivial)
 ·exact .pur trivial
theorem plain_int(k:IntKind)(n:Int):Plain (.int k n):=.int k n
theorem plain_bool(b:Bool):Plain (.bool b):=.bool b
theorem plain_string(s:ByteArray):Plain (.string s):=.string s
theorem dry_intArith(op:BinOp)(k:IntKind)(a b:Int):Dry P Plain (Op.intArith op k a b):=by
 unfold Op.intArith;split<;>first|exact .pur (plain_int _ _)|exact .stuck
theorem dry_intDiv(op:BinOp)(k:IntKind)(a b:Int):Dry P Plain (Op.intDiv op k a b):=by
 unfold Op.intDiv
 split
 ·exact .rpanic
 ·split<;>first|exact .pur (plain_int _ _)|exact .stuck
theorem dry_intBits(op:BinOp)(k:IntKind)(a b:Int):Dry P Plain (Op.intBits op k a b):=by
 unfold Op.intBits
 dsimp only
 split<;>first|exact .pur (plain_int _ _)|exact .stuck
theorem dry_intCmp(op:BinOp)(a b:Int):Dry P Plain (Op.intCmp op a b):=by
 unfold Op.intCmp;split<;>first|exact .pur (plain_bool _)|exact .stuck
theorem dry_shift(op:BinOp)(k:IntKind)(a:Int)(j:IntKind)(b:Int):Dry P Plain (Op.shift op k a j b):=by
 unfold Op.shift
 split
 ·exact .rpanic
 ·dsimp only
  split<;>first|exact .pur (plain_int _ _)|exact .stuck
theorem dry_stringOp(op:BinOp)(a b:ByteArray):Dry P Plain (Op.stringOp op a b):=by
 unfold Op.stringOp
 dsimp only
 split
 ·split
  ·exact .uns
  ·exact .pur (plain_string _)
 all_goals first|exact .pur (plain_bool _)|exact .stuck
def binOk(op:BinOp)(x y:Value):Bool:=
 match x,y with
 | .int _ _,.int _ _=>true
 | .string _,.string _=>true
 |x,y=>(op matches .eql | .neq) && plainV 9 x && plainV 9 y
theorem dry_binOp(op:BinOp)(t:TypeId){x y:Value}(h:binOk op x y=true)(hx:Plain x)(hy:Plain y):Dry P Plain (binOp op t x y):=by
 unfold binOk at h
 split at h
 ·rename_i k a j b
  cases op<;>(unfold Go.binOp;dsimp only)<;>first
   |exact dry_shift _ _ _ _ _
   |(split;exact .stuck;first|exact dry_intArith _ _ _ _|exact dry_intDiv _ _ _ _|exact dry_intBits _ _ _ _|exact dry_intCmp _ _ _)
 ·rename_i a b
  cases op<;>(unfold Go.binOp;dsimp only)<;>exact dry_stringOp _ _ _
 ·simp only [Bool.and_eq_true] at h
  obtain ⟨⟨h1,_⟩,_⟩:=h
  have he:=dry_equal (P:=P) t hx hy
  have hq:Dry P Plain (do pure (.bool (←Op.equal t x y)):Sem Value):=he.bnd fun b _=>.pur (plain_bool b)
  have hn:Dry P Plain (do pure (.bool (!(←Op.equal t x y))):Sem Value):=he.bnd fun b _=>.pur (plain_bool _)
  cases op<;>first|(simp at h1;done)|skip
  all_goals
   unfold Go.binOp
   split<;>first
    |exact hq
    |exact hn
    |contradiction
    |(cases hx;done)
    |(have e:=hx.ptr;cases e;done)
    |(have e:=hy.ptr;cases e;done)
    |exact .uns
    |exact .stuck
    |exact dry_stringOp _ _ _
    |(split;exact .stuck;exact dry_intCmp _ _ _)
end
end Go.Am
namespace Go.Am
open Go.Ren (grow EvO Guar Rely)
section
variable{P:Program}{ρ σ:Env}{α β γ δ:Type}
theorem sr_zeroS[Zeros P](t:TypeId):SR P (fun _ a b=>a=b∧∀τ:Env,VR τ a a) ρ (zeroValue t) (zeroValue t):=by
 unfold zeroValue
 refine (sr_typeInfo t).bnd fun σ _ a b h=>?_
 obtain ⟨rfl,hi⟩:=h
 split
 ·rename_i v hv;exact .pur ⟨rfl,Zeros.zero t a v hi hv⟩
 ·exact .uns
theorem sr_sizeOfI(t:TypeId):SR P (fun _ a b=>a=b∧∃i,P.info? t=some i∧a=i.size) ρ (sizeOf t) (sizeOf t):=by
 unfold sizeOf
 refine (sr_typeInfo t).bnd fun σ _ a b h=>?_
 obtain ⟨rfl,hi⟩:=h
 exact .pur ⟨rfl,a,hi,rfl⟩
theorem SR.dry{Q:α→Prop}{s:Sem α}(h:Dry P Q s):SR P Same ρ s s:=(h ρ).imp fun _ _ _ _ e=>e.1
theorem AR.get{R:α→β→Prop}{a:Array α}{b:Array β}(h:AR R a b)(i:Nat):OptR R a[i]? b[i]? :=by
 cases ha:a[i]? with
 |none=>
  have:b[i]? = none:=by simp only [Array.getElem?_eq_none_iff] at ha ⊢;rw [←h.1];exact ha
  rw [this];exact .none
 |some x=>
  obtain ⟨hi,_⟩:=Array.getElem?_eq_some_iff.1 ha
  have hb:b[i]? = some (b[i]'(h.1 ▸ hi)):=by simp
  rw [hb];exact .some (h.2 i _ _ ha hb)
theorem AR.extract{R:α→β→Prop}{a:Array α}{b:Array β}(h:AR R a b)(i j:Nat):AR R (a.extract i j) (b.extract i j):=by
 refine ⟨by simp [h.1],fun k x y hx hy=>?_⟩
 rw [Array.getElem?_extract] at hx hy
 split at hx
 ·split at hy
  ·exact h.2 _ _ _ hx hy
  ·cases hy
 ·cases hx
theorem AR.set{R:α→β→Prop}{a:Array α}{b:Array β}(h:AR R a b)(i:Nat){x:α}{y:β}(hxy:R x y):AR R (a.setIfInBounds i x) (b.setIfInBounds i y):=by
 refine ⟨by simp [h.1],fun k u v hu hv=>?_⟩
 rw [Array.getElem?_setIfInBounds] at hu hv
 split at hu
 ·rename_i e
  subst e
  rw [if_pos rfl] at hv
  split at hu
  ·split at hv
   ·cases hu;cases hv;exact hxy
   ·cases hv
  ·cases hu
 ·rename_i e
  rw [if_neg e] at hv
  exact h.2 k u v hu hv
theorem AR.append{R:α→β→Prop}{a c:Array α}{b d:Array β}(h:AR R a b)(k:AR R c d):AR R (a ++ c) (b ++ d):=by
 refine ⟨by simp [h.1,k.1],fun i u v hu hv=>?_⟩
 rw [Array.getElem?_append] at hu hv
 by_cases e:i < a.size
 ·rw [if_pos e] at hu;rw [if_pos (h.1 ▸ e)] at hv;exact h.2 i u v hu hv
 ·rw [if_neg e] at hu;rw [if_neg (h.1 ▸ e)] at hv;rw [←h.1] at hv;exact k.2 _ u v hu hv
theorem AR.refl{R:α→α→Prop}{a:Array α}(h:∀x∈a,R x x):AR R a a:=⟨rfl,fun i x y hx hy=>by rw [hx] at hy;cases hy;exact h x (Array.mem_of_getElem? hx)⟩
theorem vr_agg{c c':Array Value}(h:AR (VR ρ) c c'):VR ρ (.agg c) (.agg c'):=.agg h.1 h.2
theorem vr_tuple{c c':Array Value}(h:AR (VR ρ) c c'):VR ρ (.tuple c) (.tuple c'):=.tuple h.1 h.2
theorem vr_tuple2{a a' b b':Value}(h:VR ρ a a')(k:VR ρ b b'):VR ρ (.tuple #[a,b]) (.tuple #[a',b']):=vr_tuple (((AR.empty.push h).push k))
theorem vr_tuple3{a a' b b' c c':Value}(h:VR ρ a a')(k:VR ρ b b')(l:VR ρ c c'):VR ρ (.tuple #[a,b,c]) (.tuple #[a',b',c']):=vr_tuple ((((AR.empty.push h).push k).push l))
theorem vr_undef:VR ρ (.tuple #[]) (.tuple #[]):=vr_tuple .empty
theorem sr_part(t:TypeId){c c':Array Value}(h:AR (VR ρ) c c')(off:Nat):SR P VR ρ (part t c off) (part t c' off):=by
 unfold part
 refine (sr_isAgg t).bndS fun σ hσ b=>?_
 cases b with
 |true=>exact (sr_sizeOf t).bndS fun τ hτ n=>.pur (vr_agg ((h.mono fun _ _ x=>x.mono (hσ.trans hτ)).extract _ _))
 |false=>
  show SR P VR σ (match c[off]? with|some v=>Pure.pure v|none=>Go.stuck _) (match c'[off]? with|some v=>Pure.pure v|none=>Go.stuck _)
  have:=h.get off
  revert this
  generalize c[off]? = x
  generalize c'[off]? = y
  intro this
  cases this with
  |none=>exact .stuck
  |some h=>exact .pur (h.mono hσ)
theorem sr_newVar(t:TypeId){v v':Value}(hv:VR ρ v v'):SR P (fun σ a a'=>σ.born a.block∧a' = σ.addr a) ρ (newVar t v) (newVar t v'):=by
 unfold newVar
 exact (sr_newRow t t (vr_cells hv)).imp fun _ _ _ _ h=>⟨h.1,h.2.2.2⟩
theorem sr_box(t:TypeId){v v':Value}(hv:VR ρ v v'):SR P VR ρ (Instr.box t v) (Instr.box t v'):=by
 unfold Instr.box
 refine (sr_newVar t hv).bnd fun σ _ a a' h=>?_
 obtain ⟨h1,rfl⟩:=h
 exact .pur (.ptr h1)
theorem sr_alloc[Zeros P](t:TypeId):SR P VR ρ (Instr.alloc t true (.tuple #[])) (Instr.alloc t true (.tuple #[])):=by
 unfold Instr.alloc
 refine (sr_zero t).bnd fun σ _ z z' hz=>?_
 exact (sr_newVar t hz).bnd fun σ _ a a' h=>by obtain ⟨h1,rfl⟩:=h;exact .pur (.ptr h1)
theorem fold_cells{l l':List (Value×Nat)}(h:LR (fun a b=>VR ρ a.1 b.1∧b.2=a.2) l l')(off:Nat):∀ {c c':Array Value},AR (VR ρ) c c' → AR (VR ρ) (l.foldl (fun cs (x:Value×Nat)=>cs.setIfInBounds (off+x.2) x.1) c) (l'.foldl (fun cs (x:Value×Nat)=>cs.setIfInBounds (off+x.2) x.1) c'):=by
 induction h with
 |nil=>intro c c' h;exact h
 |cons h _ ih=>
  intro c c' hc
  simp only [List.foldl_cons]
  rw [h.2]
  exact ih (hc.set _ h.1)
theorem zip_lr{R:α→β→Prop}{l:List α}{m:List β}(h:LR R l m):∀(k:Nat),LR (fun (a:α×Nat) (b:β×Nat)=>R a.1 b.1∧b.2=a.2) (l.zipIdx k) (m.zipIdx k):=by
 induction h with
 |nil=>intro k;exact .nil
 |cons h _ ih=>intro k;exact .cons ⟨h,rfl⟩ (ih (k+1))
theorem sr_fill(place:Nat→Option (Nat×Nat)){ps ps':List (Nat×Value)}(h:LR (fun a b=>b.1=a.1∧VR ρ a.2 b.2) ps ps'):∀ {c c':Array Value},AR (VR ρ) c c' → OptR (AR (VR ρ)) (Instr.fill place c ps) (Instr.fill place c' ps'):=by
 induction h with
 |nil=>intro c c' hc;exact .some hc
 | @cons x y l m hxy _ ih=>
  intro c c' hc
  obtain ⟨i,v⟩:=x
  obtain ⟨j,v'⟩:=y
  obtain ⟨rfl,hv⟩:=hxy
  have hcs:=vr_cells hv
  unfold Instr.fill
  cases place j with
  |none=>exact .none
  |some p=>
   obtain ⟨off,size⟩:=p
   dsimp only
   rw [←hcs.1,←hc.1]
   split
   ·exact .none
   ·refine ih ?_
    have:=fold_cells (zip_lr hcs.list 0) off hc
    rw [←Array.foldl_toList,←Array.foldl_toList,Array.toList_zipIdx,Array.toList_zipIdx]
    exact this
theorem LR.mapM_same{l:List α}{f:α→Sem β}(h:∀x∈l,∀ρ:Env,SR P Same ρ (f x) (f x)):∀ {ρ:Env},SR P Same ρ (l.mapM f) (l.mapM f):=by
 induction l with
 |nil=>intro ρ;exact .pur rfl
 |cons x l ih=>
  intro ρ
  rw [List.mapM_cons]
  refine (h x (by simp) ρ).bndS fun σ _ a=>?_
  refine (ih fun y hy=>h y (by simp [hy])).bndS fun τ _ b=>?_
  exact .pur rfl
theorem sr_build[Zeros P](t:TypeId){ps ps':Array (Nat×Value)}(h:LR (fun a b=>b.1=a.1∧VR ρ a.2 b.2) ps.toList ps'.toList):SR P VR ρ (Instr.build t ps) (Instr.build t ps'):=by
 unfold Instr.build
 refine (sr_zeroS t).bnd fun σ hσ z z' hz=>?_
 obtain ⟨rfl,hz⟩:=hz
 have hzc:∀τ:Env,AR (VR τ) z.cells z.cells:=fun τ=>vr_cells (hz τ)
 dsimp only
 refine (sr_underlying t).bndS fun τ hτ d=>?_
 split
 ·rename_i fields
  refine SR.bndS (s:=fields.mapM _) (s' :=fields.mapM _) ?_ fun υ hυ places=>?_
  ·rw [Array.mapM_eq_mapM_toList]
   refine SR.bndS (LR.mapM_same fun x _ ρ=>(sr_sizeOf _).bndS fun _ _ _=>.pur rfl) fun _ _ _=>.pur rfl
  ·have:=sr_fill (places[·]?) (h.mono fun _ _ x=>⟨x.1,x.2.mono ((hσ.trans hτ).trans hυ)⟩) (hzc υ)
   revert this
   generalize Instr.fill _ _ ps.toList=a
   generalize Instr.fill _ _ ps'.toList=b
   intro this
   cases this with
   |none=>exact .stuck
   |some h=>exact .pur (vr_agg h)
 ·rename_i elem
  refine (sr_sizeOf elem).bndS fun υ hυ size=>?_
  have:=sr_fill (fun i=>some (i * size,size)) (h.mono fun _ _ x=>⟨x.1,x.2.mono ((hσ.trans hτ).trans hυ)⟩) (hzc υ)
  revert this
  generalize Instr.fill _ _ ps.toList=a
  generalize Instr.fill _ _ ps'.toList=b
  intro this
  cases this with
  |none=>exact .stuck
  |some h=>exact .pur (vr_agg h)
 ·exact .stuck
theorem ar_none(f:Nat→Value):AR (VR ρ) ((Array.range 0).map f) ((Array.range 0).map f):=.refl fun x hx=>by
 obtain ⟨i,hi,_⟩:=Array.mem_map.1 hx
 rw [Array.mem_range] at hi
 exact absurd hi (Nat.not_lt_zero _)
theorem vr_default:VR ρ (default:Value) default:=VR.bool _
theorem zeros_ar{z:Value}(hz:∀τ:Env,VR τ z z)(n:Nat)(f:Nat→Nat):AR (VR ρ) ((Array.range n).map fun i=>z.cells[f i]!) ((Array.range n).map fun i=>z.cells[f i]!):=by
 refine .refl fun x hx=>?_
 obtain ⟨i,_,rfl⟩:=Array.mem_map.1 hx
 have h:=vr_cells (hz ρ)
 rw [getElem!_def]
 have:=h.get (f i)
 revert this
 cases h':z.cells[f i]? with
 |none=>intro _;exact vr_default
 |some x=>intro h;cases h with|some h=>exact h
theorem sr_buildSlice[Zeros P](t:TypeId)(len:Nat){ps ps':Array (Nat×Value)}(h:LR (fun a b=>b.1=a.1∧VR ρ a.2 b.2) ps.toList ps'.toList):SR P VR ρ (Instr.buildSlice t len ps) (Instr.buildSlice t len ps'):=by
 unfold Instr.buildSlice
 refine (sr_underlying t).bndS fun σ hσ d=>?_
 split
 ·rename_i elem
  refine (sr_sizeOf elem).bndS fun τ hτ size=>?_
  dsimp only
  split
  ·exact .dead fun _ _=>rfl
  ·have key:∀(υ:Env) (zero:Array Value),τ.Le υ→AR (VR υ) ((Array.range (len * size)).map fun x=>zero[x % zero.size]!) ((Array.range (len * size)).map fun x=>zero[x % zero.size]!) →
     SR P VR υ (match Instr.fill (fun i=>some (i * size,size)) ((Array.range (len * size)).map fun x=>zero[x % zero.size]!) ps.toList with
      | some cells=>(do pure (.slice (some (←newRow elem cells)) len len):Sem Value)|_=>Go.stuck "buildSlice: a part of the wrong size")
     (match Instr.fill (fun i=>some (i * size,size)) ((Array.range (len * size)).map fun x=>zero[x % zero.size]!) ps'.toList with
      | some cells=>(do pure (.slice (some (←newRow elem cells)) len len):Sem Value)|_=>Go.stuck "buildSlice: a part of the wrong size"):=by
    intro υ zero hυ hz
    have:=sr_fill (fun i=>some (i * size,size)) (h.mono fun _ _ x=>⟨x.1,x.2.mono ((hσ.trans hτ).trans hυ)⟩) hz
    revert this
    generalize Instr.fill _ _ ps.toList=a
    generalize Instr.fill _ _ ps'.toList=b
    intro this
    cases this with
    |none=>exact .stuck
    |some h=>
     refine (sr_newRow elem elem h).bnd fun ω _ a a' h=>?_
     obtain ⟨h1,h2,_,rfl⟩:=h
     exact .pur (.slice h1 (.inl rfl))
   split
   ·rename_i h0
    refine SR.bndS (SR.pur (R:=Same) rfl) fun υ hυ zero=>?_
    refine key υ zero hυ ?_
    rw [h0]
    exact ar_none _
   ·refine (sr_zeroS elem).bnd fun υ hυ z z' hz=>?_
    obtain ⟨rfl,hz⟩:=hz
    refine SR.bnd (R:=fun _ a b=>a=b∧a=z.cells) (SR.pur ⟨rfl,rfl⟩) fun ω hω zero zero' hz'=>?_
    obtain ⟨rfl,rfl⟩:=hz'
    exact key ω _ (hυ.trans hω) (zeros_ar hz _ _)
 ·exact .stuck
end
end Go.Am
