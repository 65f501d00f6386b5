import Derived.Test.YtghfookpaompmaaGreatH1
set_option linter.unusedVariables false
set_option linter.unusedSectionVars false
set_option linter.unusedSimpArgs false
namespace Go.Am
open Go.Ren (grow EvO Guar Rely)
def plainV:Nat→Value→Bool
 |0,_=>false
 |n+1,v=>match v with
  | .bool _ | .int _ _ | .string _ | .pointer none | .slice none _ _ | .map none | .nilFunc | .nilIface=>true
  | .func (.func _) a b=>a.isEmpty && b.isEmpty
  | .func (.via ..) a b=>a.isEmpty && b.isEmpty
  | .iface _ v=>plainV n v
  | .agg cs=>cs.toList.all (plainV n)
  | .tuple cs=>cs.toList.all (plainV n)
  |_=>false
theorem get_mem{α:Type}{a:Array α}{i:Nat}{x:α}(h:a[i]? = some x):x∈a.toList:=by
 obtain ⟨h1,h2⟩:=Array.getElem?_eq_some_iff.1 h
 rw [←h2];simp
theorem plain_vr(ρ:Env):∀(n:Nat) (v:Value),plainV n v=true→VR ρ v v:=by
 intro n
 induction n with
 |zero=>intro v h;cases h
 |succ n ih=>
  intro v h
  have arr:∀cs:Array Value,cs.toList.all (plainV n)=true→∀(i:Nat) x y,cs[i]? = some x→cs[i]? = some y→VR ρ x y:=by
   intro cs hc i x y hx hy
   rw [hx] at hy
   cases hy
   exact ih x (List.all_eq_true.1 hc x (get_mem hx))
  have emp:∀a:Array Value,a.isEmpty=true→∀(i:Nat) x y,a[i]? = some x→a[i]? = some y→VR ρ x y:=by
   intro a ha i x y hx _
   have:a = #[]:=Array.isEmpty_iff.1 ha
   subst this
   simp at hx
  cases v with
  |bool b=>exact .bool b
  |int k m=>exact .int k m
  |string s=>exact .string s
  |pointer a=>cases a with|none=>exact .nilptr|some a=>cases h
  |slice a m c=>cases a with|none=>exact .nilslice m c|some a=>cases h
  |map r=>cases r with|none=>exact .nilmap|some a=>cases h
  |nilFunc=>exact .nilFunc
  |nilIface=>exact .nilIface
  |func f a b=>
   have fin:(a.isEmpty && b.isEmpty)=true→FnR ρ f f→VR ρ (.func f a b) (.func f a b):=fun h hf=>by
    simp only [Bool.and_eq_true] at h
    exact .func hf rfl (emp a h.1) rfl (emp b h.2)
   cases f with
   |func f=>exact fin h (.func f)
   |via t p f x=>exact fin h (.via t p f x)
   |_=>cases h
  |iface t v=>exact .iface (ih v h)
  |agg cs=>exact .agg rfl (arr cs h)
  |tuple cs=>exact .tuple rfl (arr cs h)
  |_=>cases h
class Zeros(P:Program):Prop where
 zero:∀t i z,P.info? t=some i→i.zero=some z→∀ρ:Env,VR ρ z z
abbrev Same{α:Type}:Env→α→α→Prop:=fun _ a b=>a=b
def Dead(P:Program){α:Type}(s:Sem α):Prop:=∀c h,s.ar P c h=none
theorem dead_bind{P:Program}{α γ:Type}(s:Sem α)(f:α→Sem γ)(hf:∀a,Dead P (f a)):Dead P (s.bind f):=by
 induction s with
 |pure a=>exact hf a
 |load m a k ih=>
  intro c h
  simp only [Sem.bind]
  rw [Sem.ar.eq_def]
  dsimp only
  split
  ·exact ih _ _ _
  ·rfl
 |store m a v k ih=>
  intro c h
  simp only [Sem.bind]
  cases v<;>cases m<;>simp only [Sem.ar]
  all_goals
   split
   ·exact ih _ _
   ·rfl
 |new o k ih=>
  intro c h
  simp only [Sem.bind]
  simp only [Sem.ar]
  split<;>first|rfl|exact ih _ _ _
 |shape r k ih=>
  intro c h
  simp only [Sem.bind]
  simp only [Sem.ar]
  split<;>first|rfl|exact ih _ _ _
 |getObj r k ih=>
  intro c h
  simp only [Sem.bind]
  simp only [Sem.ar]
  split<;>first|rfl|exact ih _ _ _
 |setObj r o k ih=>
  intro c h
  simp only [Sem.bind]
  simp only [Sem.ar]
  split
  ·rfl
  ·rfl
  ·split
   ·rfl
   ·exact ih _ _
  ·rfl
 |choose q k ih=>
  intro c h
  simp only [Sem.bind]
  rw [Sem.ar.eq_def]
  dsimp only
  split
  ·exact ih _ _ _
  ·split
   ·exact ih _ _ _
   ·rfl
 |program k ih=>intro c h;exact ih _ _ _
 |_=>intro c h;rfl
theorem dead_rpanic{P:Program}{α:Type}(x:RuntimeError):Dead P (runtimePanic x:Sem α):=by
 intro c h
 show (match x with|_=>_:Sem α).ar P c h=none
 cases x<;>first|rfl|exact dead_bind _ _ (fun a=>dead_bind _ _ fun b c h=>rfl) c h
section
variable{P:Program}{ρ σ:Env}{α β γ δ:Type}
theorem SR.bnd{R:Env→α→β→Prop}{Q:Env→γ→δ→Prop}{s:Sem α}{s':Sem β}{f:α→Sem γ}{f':β→Sem δ}(h:SR P R ρ s s')(hf:∀σ:Env,ρ.Le σ→∀a b,R σ a b→SR P Q σ (f a) (f' b)):SR P Q ρ (s >>= f) (s' >>= f'):=h.bind hf
theorem SR.bndS{Q:Env→γ→δ→Prop}{s s':Sem α}{f:α→Sem γ}{f':α→Sem δ}(h:SR P Same ρ s s')(hf:∀σ:Env,ρ.Le σ→∀a,SR P Q σ (f a) (f' a)):SR P Q ρ (s >>= f) (s' >>= f'):=h.bind fun σ hσ a b e=>by cases e;exact hf σ hσ a
theorem SR.pur{R:Env→α→β→Prop}{a:α}{b:β}(h:R ρ a b):SR P R ρ (Pure.pure a:Sem α) (Pure.pure b:Sem β):=.pure h
theorem SR.stuck{R:Env→α→β→Prop}{x:String}{s:Sem β}:SR P R ρ (Go.stuck x) s:=.halt
theorem SR.uns{R:Env→α→β→Prop}{x:Unsupported}{s:Sem β}:SR P R ρ (Go.unsupported x) s:=.halt
theorem SR.prog{R:Env→γ→δ→Prop}{f:Program→Sem γ}{f':Program→Sem δ}(h:SR P R ρ (f P) (f' P)):SR P R ρ (Go.program >>= f) (Go.program >>= f'):=.program h
theorem SR.rpanic{R:Env→α→β→Prop}{x:RuntimeError}{s:Sem β}:SR P R ρ (runtimePanic x) s:=.dead (dead_rpanic x)
theorem SR.bpanic{R:Env→α→β→Prop}{k:IntKind}{x y:Int}{c:BoundsCode}{s:Sem β}:SR P R ρ (boundsPanic k x y c) s:=by
 unfold boundsPanic
 dsimp only
 split<;>exact .dead (dead_bind _ _ fun a=>dead_rpanic _)
theorem sr_underlying(t:TypeId):SR P Same ρ (underlying t) (underlying t):=by
 unfold underlying
 refine .prog ?_
 split
 ·exact .pur rfl
 ·exact .stuck
theorem sr_typeInfo(t:TypeId):SR P (fun _ a b=>a=b∧P.info? t=some a) ρ (typeInfo t) (typeInfo t):=by
 unfold typeInfo
 refine .prog ?_
 split
 ·rename_i i hi;exact .pur ⟨rfl,hi⟩
 ·exact .stuck
theorem sr_zero[Zeros P](t:TypeId):SR P VR ρ (zeroValue t) (zeroValue t):=by
 unfold zeroValue
 refine (sr_typeInfo t).bnd fun σ _ a b h=>?_
 obtain ⟨rfl,hi⟩:=h
 split
 ·rename_i v hv;exact .pur (Zeros.zero t a v hi hv σ)
 ·exact .uns
theorem sr_sizeOf(t:TypeId):SR P Same ρ (sizeOf t) (sizeOf t):=by
 unfold sizeOf
 refine (sr_typeInfo t).bnd fun σ _ a b h=>?_
 obtain ⟨rfl,hi⟩:=h
 exact .pur rfl
theorem sr_isAgg(t:TypeId):SR P Same ρ (isAgg t) (isAgg t):=by
 unfold isAgg
 refine (sr_underlying t).bndS fun σ _ a=>?_
 split<;>exact .pur rfl
theorem addr_add(a:Addr)(n:Nat):ρ.addr (a.add n)=(ρ.addr a).add n:=by
 unfold Addr.add
 by_cases h:n=0
 ·rw [if_pos h,if_pos h]
 ·rw [if_neg h,if_neg h];simp only [Env.addr,Nat.add_assoc]
theorem block_add(a:Addr)(n:Nat):(a.add n).block=a.block:=by unfold Addr.add;split<;>rfl
theorem sr_load{a:Addr}(ha:ρ.born a.block):SR P VR ρ (load a) (load (ρ.addr a)):=.load ha fun v v' hv=>.pure hv
theorem AR.empty{R:α→β→Prop}:AR R #[] #[]:=⟨rfl,fun i x y h=>by simp at h⟩
theorem AR.push{R:α→β→Prop}{a:Array α}{b:Array β}(h:AR R a b){x:α}{y:β}(hxy:R x y):AR R (a.push x) (b.push y):=by
 refine ⟨by simp [h.1],fun i u v hu hv=>?_⟩
 rw [Array.getElem?_push] at hu hv
 by_cases e:i=a.size
 ·rw [if_pos e] at hu;rw [if_pos (h.1 ▸ e)] at hv;cases hu;cases hv;exact hxy
 ·rw [if_neg e] at hu;rw [if_neg (h.1 ▸ e)] at hv;exact h.2 i u v hu hv
theorem sr_loadCellsFrom(n:Nat):∀ {ρ:Env} (a:Addr) (i:Nat) (acc acc':Array Value),ρ.born a.block→AR (VR ρ) acc acc' → SR P (fun σ=>AR (VR σ)) ρ (loadCellsFrom a i n acc) (loadCellsFrom (ρ.addr a) i n acc'):=by
 induction n with
 |zero=>intro ρ a i acc acc' _ h;exact .pur h
 |succ n ih=>
  intro ρ a i acc acc' ha h
  unfold loadCellsFrom
  rw [←addr_add]
  refine (sr_load (by rw [block_add];exact ha)).bnd fun σ hσ v v' hv=>?_
  rw [←hσ.addr ha]
  exact ih a (i+1) _ _ (hσ.born _ ha) ((h.mono fun _ _ x=>x.mono hσ).push hv)
theorem sr_loadCells{a:Addr}(n:Nat)(ha:ρ.born a.block):SR P (fun σ=>AR (VR σ)) ρ (loadCells a n) (loadCells (ρ.addr a) n):=sr_loadCellsFrom n a 0 _ _ ha .empty
theorem sr_loadVar(t:TypeId){a:Addr}(ha:ρ.born a.block):SR P VR ρ (loadVar t a) (loadVar t (ρ.addr a)):=by
 unfold loadVar
 refine (sr_isAgg t).bndS fun σ hσ b=>?_
 rw [←hσ.addr ha]
 have ha' :=hσ.born _ ha
 cases b with
 |true=>
  refine (sr_sizeOf t).bndS fun τ hτ n=>?_
  rw [←hτ.addr ha']
  exact (sr_loadCells n (hτ.born _ ha')).bnd fun υ _ x y h=>.pur (.agg h.1 h.2)
 |false=>exact sr_load ha'
theorem vr_cells{v v':Value}(h:VR ρ v v'):AR (VR ρ) v.cells v'.cells:=by
 have one:∀ {v v':Value},VR ρ v v' → AR (VR ρ) #[v] #[v']:=fun {v v'} h=>by
  have:=(AR.empty (R:=VR ρ)).push h
  exact this
 cases h with
 |agg hs h=>exact ⟨hs,h⟩
 |bool b=>exact one (.bool b)
 |int k n=>exact one (.int k n)
 |string s=>exact one (.string s)
 |nilptr=>exact one .nilptr
 |ptr h=>exact one (.ptr h)
 |nilslice n c=>exact one (.nilslice n c)
 |slice h hc=>exact one (.slice h hc)
 |nilmap=>exact one .nilmap
 |map h=>exact one (.map h)
 |nilchan=>exact one .nilchan
 |chan h=>exact one (.chan h)
 |nilFunc=>exact one .nilFunc
 |func a b c d e=>exact one (.func a b c d e)
 |nilIface=>exact one .nilIface
 |iface h=>exact one (.iface h)
 |tuple hs h=>exact one (.tuple hs h)
theorem AR.list{R:α→β→Prop}{a:Array α}{b:Array β}(h:AR R a b):LR R a.toList b.toList:=by
 obtain ⟨a⟩:=a
 obtain ⟨b⟩:=b
 obtain ⟨hs,h⟩:=h
 simp only [List.size_toArray] at hs
 induction a generalizing b with
 |nil=>cases b with|nil=>exact .nil|cons y m=>simp at hs
 |cons x l ih=>
  cases b with
  |nil=>simp at hs
  |cons y m=>
   refine .cons (h 0 x y (by simp) (by simp)) (ih m (fun i u v hu hv=>h (i+1) u v (by simpa using hu) (by simpa using hv)) (by simpa using hs))
theorem LR.arr{R:α→β→Prop}{a:List α}{b:List β}(h:LR R a b):AR R a.toArray b.toArray:=by
 induction h with
 |nil=>exact .empty
 |cons h _ ih=>
  refine ⟨by have:=ih.1;simp at this ⊢;exact this,fun i x y hx hy=>?_⟩
  cases i with
  |zero=>simp at hx hy;subst hx hy;exact h
  |succ i=>exact ih.2 i x y (by simpa using hx) (by simpa using hy)
theorem sr_storeCells{l l':List Value}:∀ {ρ:Env} {a:Addr} (i:Nat),ρ.born a.block→LR (VR ρ) l l' → SR P Same ρ (storeCells a l i) (storeCells (ρ.addr a) l' i):=by
 induction l generalizing l' with
 |nil=>intro ρ a i _ h;cases h;exact .pur rfl
 |cons v l ih=>
  intro ρ a i ha h
  cases h with
  |cons hv hl=>
   unfold storeCells
   rw [←addr_add]
   refine SR.bndS (s:=store (a.add i) v) (.store (by rw [block_add];exact ha) hv (.pure rfl)) fun σ hσ _=>?_
   rw [←hσ.addr ha]
   exact ih (i+1) (hσ.born _ ha) (hl.mono fun _ _ x=>x.mono hσ)
theorem sr_storeVar(t:TypeId){a:Addr}{v v':Value}(ha:ρ.born a.block)(hv:VR ρ v v'):SR P Same ρ (storeVar t a v) (storeVar t (ρ.addr a) v'):=by
 unfold storeVar
 have hc:=vr_cells hv
 refine (sr_sizeOf t).bndS fun σ hσ n=>?_
 rw [←hσ.addr ha,←hc.1]
 by_cases h:v.cells.size≠n
 ·rw [if_pos h];exact .dead fun _ _=>rfl
 ·rw [if_neg h,if_neg h]
  exact sr_storeCells 0 (hσ.born _ ha) (hc.list.mono fun _ _ x=>x.mono hσ)
theorem sr_newRow(e e':TypeId){c c':Array Value}(hc:AR (VR ρ) c c'):SR P (fun σ a a'=>σ.born a.block∧a.spot=none∧a.off=0∧a' = σ.addr a) ρ (newRow e c) (newRow e' c'):=by
 unfold newRow
 refine SR.bnd (R:=fun σ r r'=>σ.ob r r') (s:=newObj _) (s' :=newObj _) (.new (.cells hc) fun σ hσ r r' hr=>.pure hr) fun σ hσ r r' hr=>.pur ⟨hr.1,rfl,rfl,?_⟩
 unfold Env.addr
 simp only [hr.2]
end
end Go.Am
namespace Go.Am
open Go.Ren (grow EvO Guar Rely)
theorem env0_le(ρ:Env):env0.Le ρ:=⟨fun _ h=>h.elim,fun _ h=>h.elim,fun _ h=>h.elim,fun _ h=>h.elim,fun _ h=>h.elim⟩
def Plain(v:Value):Prop:=VR env0 v v
theorem Plain.vr{v:Value}(h:Plain v)(ρ:Env):VR ρ v v:=VR.mono (env0_le ρ) h
theorem plain_of{n:Nat}{v:Value}(h:plainV n v=true):Plain v:=plain_vr env0 n v h
theorem arr_eq{a b:Array Value}(hs:a.size=b.size)(h:∀(i:Nat) x y,a[i]? = some x→b[i]? = some y→y=x):b=a:=by
 apply Array.ext hs.symm
 intro i h1 h2
 exact h i a[i] b[i] (by simp [h2]) (by simp [h1])
theorem plain_eq{v u:Value}(h:VR env0 v u):∀ {ρ:Env} {v':Value},VR ρ v v' → v' = v:=by
 induction h with
 |bool b=>intro ρ v' k;cases k;rfl
 |int k n=>intro ρ v' k;cases k;rfl
 |string s=>intro ρ v' k;cases k;rfl
 |nilptr=>intro ρ v' k;cases k;rfl
 |ptr h=>exact h.elim
 |nilslice n c=>intro ρ v' k;cases k;rfl
 |slice h=>exact h.elim
 |nilmap=>intro ρ v' k;cases k;rfl
 |map h=>exact h.1.elim
 |nilchan=>intro ρ v' k;cases k;rfl
 |chan h=>exact h.1.elim
 |nilFunc=>intro ρ v' k;cases k;rfl
 |func hf hs h ks k ih ik=>
  intro ρ v' m
  cases m with
  |func hf' hs' h' ks' k'=>
   have e1:=arr_eq hs' fun i x y hx hy=>by
    obtain ⟨z,hz⟩:∃z,_=some z:=⟨_,Array.getElem?_eq_getElem (hs ▸ (Array.getElem?_eq_some_iff.1 hx).1)⟩
    exact ih i x z hx hz (h' i x y hx hy)
   have e2:=arr_eq ks' fun i x y hx hy=>by
    obtain ⟨z,hz⟩:∃z,_=some z:=⟨_,Array.getElem?_eq_getElem (ks ▸ (Array.getElem?_eq_some_iff.1 hx).1)⟩
    exact ik i x z hx hz (k' i x y hx hy)
   rw [e1,e2]
   cases hf with
   |yield h=>exact h.1.elim
   |func f=>cases hf';rfl
   |method f=>cases hf';rfl
   |methodOf f=>cases hf';rfl
   |via f=>cases hf';rfl
 |nilIface=>intro ρ v' k;cases k;rfl
 |iface h ih=>intro ρ v' k;cases k with|iface k=>rw [ih k]
 |agg hs h ih=>
  intro ρ v' m
  cases m with
  |agg hs' h'=>
   rw [arr_eq hs' fun i x y hx hy=>by
    obtain ⟨z,hz⟩:∃z,_=some z:=⟨_,Array.getElem?_eq_getElem (hs ▸ (Array.getElem?_eq_some_iff.1 hx).1)⟩
    exact ih i x z hx hz (h' i x y hx hy)]
 |tuple hs h ih=>
  intro ρ v' m
  cases m with
  |tuple hs' h'=>
   rw [arr_eq hs' fun i x y hx hy=>by
    obtain ⟨z,hz⟩:∃z,_=some z:=⟨_,Array.getElem?_eq_getElem (hs ▸ (Array.getElem?_eq_some_iff.1 hx).1)⟩
    exact ih i x z hx hz (h' i x y hx hy)]
theorem Plain.eq{v v':Value}{ρ:Env}(h:Plain v)(k:VR ρ v v'):v' = v:=plain_eq h k
theorem Plain.agg{cs:Array Value}(h:Plain (.agg cs)):∀c∈cs,Plain c:=by
 intro c hc
 cases h with
 |agg hs h=>
  obtain ⟨i,hi,e⟩:=Array.mem_iff_getElem.1 hc
  exact h i c c (by simp [hi,e]) (by simp [hi,e])
theorem plain_agg{cs:Array Value}(h:∀c∈cs,Plain c):Plain (.agg cs):=
 VR.agg rfl fun i x y hx hy=>by rw [hx] at hy;cases hy;exact h x (Array.mem_of_getElem? hx)
theorem Plain.iface{t:TypeId}{v:Value}(h:Plain (.iface t v)):Plain v:=by cases h with|iface h=>exact h
theorem dead_left{P:Program}{α γ:Type}{s:Sem α}(f:α→Sem γ)(h:Dead P s):Dead P (s >>= f):=fun c a=>ar_bind_none s f c a (h c a)
abbrev SameQ{α:Type}(Q:α→Prop):Env→α→α→Prop:=fun _ a b=>a=b∧Q a
abbrev Dry(P:Program){α:Type}(Q:α→Prop)(s:Sem α):Prop:=∀ρ:Env,SR P (SameQ Q) ρ s s
section
variable{P:Program}{ρ σ:Env}{α β γ δ:Type}
theorem Dry.bnd{Q:α→Prop}{T:β→Prop}{s:Sem α}{f:α→Sem β}(h:Dry P Q s)(k:∀a,Q a→Dry P T (f a)):Dry P T (s >>= f):=fun ρ=>(h ρ).bnd fun σ _ a b e=>by obtain ⟨rfl,e⟩:=e;exact k a e σ
theorem Dry.pur{Q:α→Prop}{a:α}(h:Q a):Dry P Q (Pure.pure a:Sem α):=fun ρ=>.pur ⟨rfl,h⟩
theorem Dry.stuck{Q:α→Prop}{x:String}:Dry P Q (Go.stuck x:Sem α):=fun _=>.stuck
theorem Dry.uns{Q:α→Prop}{x:Unsupported}:Dry P Q (Go.unsupported x:Sem α):=fun _=>.uns
theorem Dry.rpanic{Q:α→Prop}{x:RuntimeError}:Dry P Q (runtimePanic x:Sem α):=fun _=>.rpanic
theorem Dry.dead{Q:α→Prop}{s:Sem α}(h:Dead P s):Dry P Q s:=fun _=>.dead h
theorem Dry.prog{Q:α→Prop}{f:Program→Sem α}(h:Dry P Q (f P)):Dry P Q (Go.program >>= f):=fun ρ=>.prog (h ρ)
abbrev Any{α:Type}:α→Prop:=fun _=>True
theorem dry_underlying(t:TypeId):Dry P Any (underlying t):=fun ρ=>(sr_underlying t).imp fun _ _ _ _ e=>⟨e,trivial⟩
theorem dry_typeInfo(t:TypeId):Dry P Any (typeInfo t):=fun ρ=>(sr_typeInfo t).imp fun _ _ _ _ e=>⟨e.1,trivial⟩
theorem dry_sizeOf(t:TypeId):Dry P Any (sizeOf t):=fun ρ=>(sr_sizeOf t).imp fun _ _ _ _ e=>⟨e,trivial⟩
theorem dry_isAgg(t:TypeId):Dry P Any (isAgg t):=fun ρ=>(sr_isAgg t).imp fun _ _ _ _ e=>⟨e,trivial⟩
theorem dry_typeStr(t:TypeId):Dry P Any (typeStr t):=by
 unfold typeStr
 refine (dry_typeInfo t).bnd fun i _=>?_
 dsimp only
 split
 ·exact .uns
 ·exact .pur trivial
theorem dry_forIn_list{γ δ:Type}{Q:δ→Prop}(f:γ→δ→Sem (ForInStep δ)):∀(xs:List γ) (a:δ),Q a→(∀x∈xs,∀a,Q a→Dry P (fun p=>(∃u,p = .done u∧Q u)∨(∃u,p = .yield u∧Q u)) (f x a))→Dry P Q (forIn xs a f)
 | [],a,h,_=>by simpa using Dry.pur (P:=P) h
 |x :: xs,a,h,hf=>by
  rw [List.forIn_cons]
  refine (hf x (by simp) a h).bnd ?_
  rintro p (⟨u,rfl,hu⟩|⟨u,rfl,hu⟩)
  ·exact .pur hu
  ·exact dry_forIn_list f xs u hu fun y hy=>hf y (by simp [hy])
theorem dry_forIn_array{γ δ:Type}{Q:δ→Prop}(f:γ→δ→Sem (ForInStep δ))(xs:Array γ)(a:δ)(h:Q a)(hf:∀x∈xs,∀a,Q a→Dry P (fun p=>(∃u,p = .done u∧Q u)∨(∃u,p = .yield u∧Q u)) (f x a)):Dry P Q (forIn xs a f):=by
 rw [←Array.forIn_toList]
 exact dry_forIn_list f _ a h fun x hx=>hf x (by simpa using hx)
theorem dry_forIn_range{δ:Type}{Q:δ→Prop}(f:Nat→δ→Sem (ForInStep δ))(r:Std.Legacy.Range)(a:δ)(h:Q a)(hf:∀x,∀a,Q a→Dry P (fun p=>(∃u,p = .done u∧Q u)∨(∃u,p = .yield u∧Q u)) (f x a)):Dry P Q (forIn r a f):=by
 rw [Std.Legacy.Range.forIn_eq_forIn_range']
 exact dry_forIn_list f _ a h fun x _=>hf x
theorem mem_extract{cs:Array Value}{i j:Nat}{v:Value}(h:v∈cs.extract i j):v∈cs:=by
 obtain ⟨k,hk,e⟩:=Array.mem_iff_getElem.1 h
 rw [Array.getElem_extract] at e
 rw [←e]
 exact Array.getElem_mem _
theorem dry_part(t:TypeId){cs:Array Value}(h:∀c∈cs,Plain c)(off:Nat):Dry P Plain (part t cs off):=by
 unfold part
 refine (dry_isAgg t).bnd fun b _=>?_
 cases b with
 |true=>exact (dry_sizeOf t).bnd fun n _=>.pur (plain_agg fun c hc=>h c (mem_extract hc))
 |false=>
  show Dry P Plain (match cs[off]? with|some v=>Pure.pure v|none=>Go.stuck _)
  split
  ·rename_i v hv;exact .pur (h v (Array.mem_of_getElem? hv))
  ·exact .stuck
theorem dry_checkKey(empty:Bool):∀(n:Nat) (t:TypeId) (v:Value),Plain v→Dry P Any (Instr.checkKey empty n t v)
 |0,t,v,_=>.uns
 |n+1,t,v,hv=>by
  unfold Instr.checkKey
  refine (dry_underlying t).bnd fun d _=>?_
  split
  ·rename_i d x _
   refine (dry_typeInfo d).bnd fun i _=>?_
   dsimp only
   split
   ·split
    ·exact .dead (dead_left _ (dead_rpanic _))
    ·exact (dry_typeStr d).bnd fun s _=>.dead (dead_left _ (dead_rpanic _))
   ·exact dry_checkKey empty n d x hv.iface
  ·rename_i len e cs _
   refine Dry.bnd (Q:=Any) (dry_forIn_range _ _ _ trivial fun x a _=>?_) fun _ _=>.pur trivial
   refine (dry_sizeOf e).bnd fun s _=>?_
   refine (dry_part e hv.agg _).bnd fun x hx=>?_
   exact (dry_checkKey empty n e x hx).bnd fun _ _=>.pur (.inr ⟨_,rfl,trivial⟩)
  ·rename_i fields cs _
   refine Dry.bnd (Q:=Any) (dry_forIn_array _ _ _ trivial fun f _ a _=>?_) fun _ _=>.pur trivial
   split
   ·refine (dry_part f.type hv.agg _).bnd fun x hx=>?_
    exact (dry_checkKey empty n f.type x hx).bnd fun _ _=>.pur (.inr ⟨_,rfl,trivial⟩)
   ·exact .pur (.inr ⟨_,rfl,trivial⟩)
  ·exact .pur trivial
  all_goals first|exact .stuck|exact .pur trivial
end
end Go.Am
namespace Go.Am
open Go.Ren (grow EvO Guar Rely)
section
variable{P:Program}{ρ σ:Env}{α β γ δ:Type}
theorem vr0_ptr{v u:Value}(h:VR env0 v u)(a:Addr)(e:v = .pointer (some a)):False:=by
 cases h<;>cases e
 rename_i h;exact h
theorem Plain.ptr{a:Option Addr}(h:Plain (.pointer a)):a=none:=by cases a with|none=>rfl|some a=>exact (vr0_ptr h a rfl).elim
theorem dry_equalIn:∀(n:Nat) (t:TypeId) (x y:Value),Plain x→Plain y→Dry P Any (Op.equalIn n t x y)
 |0,t,x,y,_,_=>.uns
 |n+1,t,x,y,hx,hy=>by
  unfold Op.equalIn
  refine (dry_underlying t).bnd fun d _=>?_
  split
  case h_5=>have:=hx.ptr;cases this
  case h_13=>have:=hx.ptr;cases this
  case h_14=>have:=hx.ptr;have h2:=hy.ptr;subst this h2;exact .pur trivial
  case h_19=>
   rename_i tx vx ty vy _
   split
   ·exact .pur trivial
   ·refine (dry_typeInfo tx).bnd fun i _=>?_
    dsimp only
    split
    ·refine .prog ?_
     refine Dry.prog ?_
     split
     ·exact .dead fun _ _=>rfl
     ·exact (dry_typeStr tx).bnd fun s _=>.dead (dead_rpanic _)
    ·exact dry_equalIn n tx vx vy hx.iface hy.iface
  case h_20=>
   rename_i fields xs ys _
   refine .prog ?_
   dsimp only
   split
   ·exact .dead fun _ _=>rfl
   ·refine Dry.bnd (Q:=Any) (dry_forIn_array _ _ _ trivial fun f _ a _=>?_) fun _ _=>by (try dsimp only);split<;>exact .pur trivial
    split
    ·refine (dry_part f.type hx.agg _).bnd fun u hu=>?_
     refine (dry_part f.type hy.agg _).bnd fun v hv=>?_
     refine (dry_equalIn n f.type u v hu hv).bnd fun b _=>?_
     split
     ·exact .pur (.inl ⟨_,rfl,trivial⟩)
     ·exact .pur (.inr ⟨_,rfl,trivial⟩)
    ·exact .pur (.inr ⟨_,rfl,trivial⟩)
  case h_21=>
   rename_i len e xs ys _
   refine (dry_sizeOf e).bnd fun s _=>?_
   refine Dry.bnd (Q:=Any) (dry_forIn_range _ _ _ trivial fun f a _=>?_) fun _ _=>by (try dsimp only);split<;>exact .pur trivial
   refine (dry_part e hx.agg _).bnd fun u hu=>?_
   refine (dry_part e hy.agg _).bnd fun v hv=>?_
   refine (dry_equalIn n e u v hu hv).bnd fun b _=>?_
   split
   ·exact .pur (.inl ⟨_,rfl,trivial⟩)
   ·exact .pur (.inr ⟨_,rfl,trivial⟩)
  all_goals first
   |exact .pur trivial
   |exact .stuck
   |exact .uns
   |(split;exact .pur trivial;exact .stuck)
theorem dry_equal(t:TypeId){x y:Value}(hx:Plain x)(hy:Plain y):Dry P Any (Op.equal t x y):=dry_equalIn _ _ _ _ hx hy
theorem dry_eqGuardIn:∀(n:Nat) (t:TypeId) (x y:Value),Plain x→Plain y→Dry P Any (Op.eqGuardIn n t x y)
 |0,t,x,y,_,_=>.uns
 |n+1,t,x,y,hx,hy=>by
  unfold Op.eqGuardIn
  refine (dry_underlying t).bnd fun d _=>?_
  split
  ·exact .pur trivial
  ·rename_i fields xs ys _
   refine Dry.bnd (Q:=Any) (dry_forIn_array _ _ _ trivial fun f _ a _=>?_) fun _ _=>by (try dsimp only);split<;>exact .pur trivial
   split
   ·refine (dry_part f.type hx.agg _).bnd fun u hu=>?_
    refine (dry_part f.type hy.agg _).bnd fun v hv=>?_
    refine (dry_eqGuardIn n f.type u v hu hv).bnd fun b _=>?_
    split
    ·exact .pur (.inl ⟨_,rfl,trivial⟩)
    ·exact .pur (.inr ⟨_,rfl,trivial⟩)
   ·exact .pur (.inr ⟨_,rfl,trivial⟩)
  ·rename_i len e xs ys _
   refine (dry_sizeOf e).bnd fun s _=>?_
   refine Dry.bnd (Q:=Any) (dry_forIn_range _ _ _ trivial fun f a _=>?_) fun _ _=>by (try dsimp only);split<;>exact .pur trivial
   refine (dry_part e hx.agg _).bnd fun u hu=>?_
   refine (dry_part e hy.agg _).bnd fun v hv=>?_
   refine (dry_eqGuardIn n e u v hu hv).bnd fun b _=>?_
   split
   ·exact .pur (.inl ⟨_,rfl,trivial⟩)
   ·exact .pur (.inr ⟨_,rfl,trivial⟩)
  ·exact .pur trivial
theorem dry_ite{Q:α→Prop}{c:Prop}[Decidable c]{s t:Sem α}(hs:Dry P Q s)(ht:Dry P Q t):Dry P Q (if c then s else t):=by split<;>assumption
theorem dry_eqGuard(op:BinOp)(t:TypeId)(x y:Operand){a b:Value}(ha:Plain a)(hb:Plain b):Dry P Any (eqGuard op t x y a b):=by
 unfold eqGuard
 refine dry_ite (.pur trivial) ?_
 split
 ·refine dry_ite (.pur trivial) ?_
  refine (dry_eqGuardIn _ _ _ _ ha hb).bnd fun c _=>?_
  exact dry_ite (.dead fun _ _=>rfl) (.pur trivial)
 ·refine .prog ?_
  refine Dry.prog ?_
  refine dry_ite (.pur trivial) ?_
  refine (dry_eqGuardIn _ _ _ _ ha hb).bnd fun c _=>?_
  exact dry_ite (.dead fun _ _=>rfl) (.pur trivial)
 ·exact .pur trivial
theorem plain_int(k:IntKind)(n:Int):Plain (.int k n):=.int k n
theorem plain_bool(b:Bool):Plain (.bool b):=.bool b
theorem plain_string(s:ByteArray):Plain (.string s):=.string s
theorem dry_intArith(op:BinOp)(k:IntKind)(a b:Int):Dry P Plain (Op.intArith op k a b):=by
 unfold Op.intArith;split<;>first|exact .pur (plain_int _ _)|exact .stuck
theorem dry_intDiv(op:BinOp)(k:IntKind)(a b:Int):Dry P Plain (Op.intDiv op k a b):=by
 unfold Op.intDiv
 split
 ·exact .rpanic
 ·split<;>first|exact .pur (plain_int _ _)|exact .stuck
theorem dry_intBits(op:BinOp)(k:IntKind)(a b:Int):Dry P Plain (Op.intBits op k a b):=by
 unfold Op.intBits
 dsimp only
 split<;>first|exact .pur (plain_int _ _)|exact .stuck
theorem dry_intCmp(op:BinOp)(a b:Int):Dry P Plain (Op.intCmp op a b):=by
 unfold Op.intCmp;split<;>first|exact .pur (plain_bool _)|exact .stuck
theorem dry_shift(op:BinOp)(k:IntKind)(a:Int)(j:IntKind)(b:Int):Dry P Plain (Op.shift op k a j b):=by
 unfold Op.shift
 split
 ·exact .rpanic
 ·dsimp only
  split<;>first|exact .pur (plain_int _ _)|exact .stuck
theorem dry_stringOp(op:BinOp)(a b:ByteArray):Dry P Plain (Op.stringOp op a b):=by
 unfold Op.stringOp
 dsimp only
 split
 ·split
  ·exact .uns
  ·exact .pur (plain_string _)
 all_goals first|exact .pur (plain_bool _)|exact .stuck
def binOk(op:BinOp)(x y:Value):Bool:=
 match x,y with
 | .int _ _,.int _ _=>true
 | .string _,.string _=>true
 |x,y=>(op matches .eql | .neq) && plainV 9 x && plainV 9 y
theorem dry_binOp(op:BinOp)(t:TypeId){x y:Value}(h:binOk op x y=true)(hx:Plain x)(hy:Plain y):Dry P Plain (binOp op t x y):=by
 unfold binOk at h
 split at h
 ·rename_i k a j b
  cases op<;>(unfold Go.binOp;dsimp only)<;>first
   |exact dry_shift _ _ _ _ _
   |(split;exact .stuck;first|exact dry_intArith _ _ _ _|exact dry_intDiv _ _ _ _|exact dry_intBits _ _ _ _|exact dry_intCmp _ _ _)
 ·rename_i a b
  cases op<;>(unfold Go.binOp;dsimp only)<;>exact dry_stringOp _ _ _
 ·simp only [Bool.and_eq_true] at h
  obtain ⟨⟨h1,_⟩,_⟩:=h
  have he:=dry_equal (P:=P) t hx hy
  have hq:Dry P Plain (do pure (.bool (←Op.equal t x y)):Sem Value):=he.bnd fun b _=>.pur (plain_bool b)
  have hn:Dry P Plain (do pure (.bool (!(←Op.equal t x y))):Sem Value):=he.bnd fun b _=>.pur (plain_bool _)
  cases op<;>first|(simp at h1;done)|skip
  all_goals
   unfold Go.binOp
   split<;>first
    |exact hq
    |exact hn
    |contradiction
    |(cases hx;done)
    |(have e:=hx.ptr;cases e;done)
    |(have e:=hy.ptr;cases e;done)
    |exact .uns
    |exact .stuck
    |exact dry_stringOp _ _ _
    |(split;exact .stuck;exact dry_intCmp _ _ _)
end
end Go.Am
namespace Go.Am
open Go.Ren (grow EvO Guar Rely)
section
variable{P:Program}{ρ σ:Env}{α β γ δ:Type}
theorem sr_zeroS[Zeros P](t:TypeId):SR P (fun _ a b=>a=b∧∀τ:Env,VR τ a a) ρ (zeroValue t) (zeroValue t):=by
 unfold zeroValue
 refine (sr_typeInfo t).bnd fun σ _ a b h=>?_
 obtain ⟨rfl,hi⟩:=h
 split
 ·rename_i v hv;exact .pur ⟨rfl,Zeros.zero t a v hi hv⟩
 ·exact .uns
theorem sr_sizeOfI(t:TypeId):SR P (fun _ a b=>a=b∧∃i,P.info? t=some i∧a=i.size) ρ (sizeOf t) (sizeOf t):=by
 unfold sizeOf
 refine (sr_typeInfo t).bnd fun σ _ a b h=>?_
 obtain ⟨rfl,hi⟩:=h
 exact .pur ⟨rfl,a,hi,rfl⟩
theorem SR.dry{Q:α→Prop}{s:Sem α}(h:Dry P Q s):SR P Same ρ s s:=(h ρ).imp fun _ _ _ _ e=>e.1
theorem AR.get{R:α→β→Prop}{a:Array α}{b:Array β}(h:AR R a b)(i:Nat):OptR R a[i]? b[i]? :=by
 cases ha:a[i]? with
 |none=>
  have:b[i]? = none:=by simp only [Array.getElem?_eq_none_iff] at ha ⊢;rw [←h.1];exact ha
  rw [this];exact .none
 |some x=>
  obtain ⟨hi,_⟩:=Array.getElem?_eq_some_iff.1 ha
  have hb:b[i]? = some (b[i]'(h.1 ▸ hi)):=by simp
  rw [hb];exact .some (h.2 i _ _ ha hb)
theorem AR.extract{R:α→β→Prop}{a:Array α}{b:Array β}(h:AR R a b)(i j:Nat):AR R (a.extract i j) (b.extract i j):=by
 refine ⟨by simp [h.1],fun k x y hx hy=>?_⟩
 rw [Array.getElem?_extract] at hx hy
 split at hx
 ·split at hy
  ·exact h.2 _ _ _ hx hy
  ·cases hy
 ·cases hx
theorem AR.set{R:α→β→Prop}{a:Array α}{b:Array β}(h:AR R a b)(i:Nat){x:α}{y:β}(hxy:R x y):AR R (a.setIfInBounds i x) (b.setIfInBounds i y):=by
 refine ⟨by simp [h.1],fun k u v hu hv=>?_⟩
 rw [Array.getElem?_setIfInBounds] at hu hv
 split at hu
 ·rename_i e
  subst e
  rw [if_pos rfl] at hv
  split at hu
  ·split at hv
   ·cases hu;cases hv;exact hxy
   ·cases hv
  ·cases hu
 ·rename_i e
  rw [if_neg e] at hv
  exact h.2 k u v hu hv
theorem AR.append{R:α→β→Prop}{a c:Array α}{b d:Array β}(h:AR R a b)(k:AR R c d):AR R (a ++ c) (b ++ d):=by
 refine ⟨by simp [h.1,k.1],fun i u v hu hv=>?_⟩
 rw [Array.getElem?_append] at hu hv
 by_cases e:i < a.size
 ·rw [if_pos e] at hu;rw [if_pos (h.1 ▸ e)] at hv;exact h.2 i u v hu hv
 ·rw [if_neg e] at hu;rw [if_neg (h.1 ▸ e)] at hv;rw [←h.1] at hv;exact k.2 _ u v hu hv
theorem AR.refl{R:α→α→Prop}{a:Array α}(h:∀x∈a,R x x):AR R a a:=⟨rfl,fun i x y hx hy=>by rw [hx] at hy;cases hy;exact h x (Array.mem_of_getElem? hx)⟩
theorem vr_agg{c c':Array Value}(h:AR (VR ρ) c c'):VR ρ (.agg c) (.agg c'):=.agg h.1 h.2
theorem vr_tuple{c c':Array Value}(h:AR (VR ρ) c c'):VR ρ (.tuple c) (.tuple c'):=.tuple h.1 h.2
theorem vr_tuple2{a a' b b':Value}(h:VR ρ a a')(k:VR ρ b b'):VR ρ (.tuple #[a,b]) (.tuple #[a',b']):=vr_tuple (((AR.empty.push h).push k))
theorem vr_tuple3{a a' b b' c c':Value}(h:VR ρ a a')(k:VR ρ b b')(l:VR ρ c c'):VR ρ (.tuple #[a,b,c]) (.tuple #[a',b',c']):=vr_tuple ((((AR.empty.push h).push k).push l))
theorem vr_undef:VR ρ (.tuple #[]) (.tuple #[]):=vr_tuple .empty
theorem sr_part(t:TypeId){c c':Array Value}(h:AR (VR ρ) c c')(off:Nat):SR P VR ρ (part t c off) (part t c' off):=by
 unfold part
 refine (sr_isAgg t).bndS fun σ hσ b=>?_
 cases b with
 |true=>exact (sr_sizeOf t).bndS fun τ hτ n=>.pur (vr_agg ((h.mono fun _ _ x=>x.mono (hσ.trans hτ)).extract _ _))
 |false=>
  show SR P VR σ (match c[off]? with|some v=>Pure.pure v|none=>Go.stuck _) (match c'[off]? with|some v=>Pure.pure v|none=>Go.stuck _)
  have:=h.get off
  revert this
  generalize c[off]? = x
  generalize c'[off]? = y
  intro this
  cases this with
  |none=>exact .stuck
  |some h=>exact .pur (h.mono hσ)
theorem sr_newVar(t:TypeId){v v':Value}(hv:VR ρ v v'):SR P (fun σ a a'=>σ.born a.block∧a' = σ.addr a) ρ (newVar t v) (newVar t v'):=by
 unfold newVar
 exact (sr_newRow t t (vr_cells hv)).imp fun _ _ _ _ h=>⟨h.1,h.2.2.2⟩
theorem sr_box(t:TypeId){v v':Value}(hv:VR ρ v v'):SR P VR ρ (Instr.box t v) (Instr.box t v'):=by
 unfold Instr.box
 refine (sr_newVar t hv).bnd fun σ _ a a' h=>?_
 obtain ⟨h1,rfl⟩:=h
 exact .pur (.ptr h1)
theorem sr_alloc[Zeros P](t:TypeId):SR P VR ρ (Instr.alloc t true (.tuple #[])) (Instr.alloc t true (.tuple #[])):=by
 unfold Instr.alloc
 refine (sr_zero t).bnd fun σ _ z z' hz=>?_
 exact (sr_newVar t hz).bnd fun σ _ a a' h=>by obtain ⟨h1,rfl⟩:=h;exact .pur (.ptr h1)
theorem fold_cells{l l':List (Value×Nat)}(h:LR (fun a b=>VR ρ a.1 b.1∧b.2=a.2) l l')(off:Nat):∀ {c c':Array Value},AR (VR ρ) c c' → AR (VR ρ) (l.foldl (fun cs (x:Value×Nat)=>cs.setIfInBounds (off+x.2) x.1) c) (l'.foldl (fun cs (x:Value×Nat)=>cs.setIfInBounds (off+x.2) x.1) c'):=by
 induction h with
 |nil=>intro c c' h;exact h
 |cons h _ ih=>
  intro c c' hc
  simp only [List.foldl_cons]
  rw [h.2]
  exact ih (hc.set _ h.1)
theorem zip_lr{R:α→β→Prop}{l:List α}{m:List β}(h:LR R l m):∀(k:Nat),LR (fun (a:α×Nat) (b:β×Nat)=>R a.1 b.1∧b.2=a.2) (l.zipIdx k) (m.zipIdx k):=by
 induction h with
 |nil=>intro k;exact .nil
 |cons h _ ih=>intro k;exact .cons ⟨h,rfl⟩ (ih (k+1))
theorem sr_fill(place:Nat→Option (Nat×Nat)){ps ps':List (Nat×Value)}(h:LR (fun a b=>b.1=a.1∧VR ρ a.2 b.2) ps ps'):∀ {c c':Array Value},AR (VR ρ) c c' → OptR (AR (VR ρ)) (Instr.fill place c ps) (Instr.fill place c' ps'):=by
 induction h with
 |nil=>intro c c' hc;exact .some hc
 | @cons x y l m hxy _ ih=>
  intro c c' hc
  obtain ⟨i,v⟩:=x
  obtain ⟨j,v'⟩:=y
  obtain ⟨rfl,hv⟩:=hxy
  have hcs:=vr_cells hv
  unfold Instr.fill
  cases place j with
  |none=>exact .none
  |some p=>
   obtain ⟨off,size⟩:=p
   dsimp only
   rw [←hcs.1,←hc.1]
   split
   ·exact .none
   ·refine ih ?_
    have:=fold_cells (zip_lr hcs.list 0) off hc
    rw [←Array.foldl_toList,←Array.foldl_toList,Array.toList_zipIdx,Array.toList_zipIdx]
    exact this
theorem LR.mapM_same{l:List α}{f:α→Sem β}(h:∀x∈l,∀ρ:Env,SR P Same ρ (f x) (f x)):∀ {ρ:Env},SR P Same ρ (l.mapM f) (l.mapM f):=by
 induction l with
 |nil=>intro ρ;exact .pur rfl
 |cons x l ih=>
  intro ρ
  rw [List.mapM_cons]
  refine (h x (by simp) ρ).bndS fun σ _ a=>?_
  refine (ih fun y hy=>h y (by simp [hy])).bndS fun τ _ b=>?_
  exact .pur rfl
theorem sr_build[Zeros P](t:TypeId){ps ps':Array (Nat×Value)}(h:LR (fun a b=>b.1=a.1∧VR ρ a.2 b.2) ps.toList ps'.toList):SR P VR ρ (Instr.build t ps) (Instr.build t ps'):=by
 unfold Instr.build
 refine (sr_zeroS t).bnd fun σ hσ z z' hz=>?_
 obtain ⟨rfl,hz⟩:=hz
 have hzc:∀τ:Env,AR (VR τ) z.cells z.cells:=fun τ=>vr_cells (hz τ)
 dsimp only
 refine (sr_underlying t).bndS fun τ hτ d=>?_
 split
 ·rename_i fields
  refine SR.bndS (s:=fields.mapM _) (s' :=fields.mapM _) ?_ fun υ hυ places=>?_
  ·rw [Array.mapM_eq_mapM_toList]
   refine SR.bndS (LR.mapM_same fun x _ ρ=>(sr_sizeOf _).bndS fun _ _ _=>.pur rfl) fun _ _ _=>.pur rfl
  ·have:=sr_fill (places[·]?) (h.mono fun _ _ x=>⟨x.1,x.2.mono ((hσ.trans hτ).trans hυ)⟩) (hzc υ)
   revert this
   generalize Instr.fill _ _ ps.toList=a
   generalize Instr.fill _ _ ps'.toList=b
   intro this
   cases this with
   |none=>exact .stuck
   |some h=>exact .pur (vr_agg h)
 ·rename_i elem
  refine (sr_sizeOf elem).bndS fun υ hυ size=>?_
  have:=sr_fill (fun i=>some (i * size,size)) (h.mono fun _ _ x=>⟨x.1,x.2.mono ((hσ.trans hτ).trans hυ)⟩) (hzc υ)
  revert this
  generalize Instr.fill _ _ ps.toList=a
  generalize Instr.fill _ _ ps'.toList=b
  intro this
  cases this with
  |none=>exact .stuck
  |some h=>exact .pur (vr_agg h)
 ·exact .stuck
theorem ar_none(f:Nat→Value):AR (VR ρ) ((Array.range 0).map f) ((Array.range 0).map f):=.refl fun x hx=>by
 obtain ⟨i,hi,_⟩:=Array.mem_map.1 hx
 rw [Array.mem_range] at hi
 exact absurd hi (Nat.not_lt_zero _)
theorem vr_default:VR ρ (default:Value) default:=VR.bool _
theorem zeros_ar{z:Value}(hz:∀τ:Env,VR τ z z)(n:Nat)(f:Nat→Nat):AR (VR ρ) ((Array.range n).map fun i=>z.cells[f i]!) ((Array.range n).map fun i=>z.cells[f i]!):=by
 refine .refl fun x hx=>?_
 obtain ⟨i,_,rfl⟩:=Array.mem_map.1 hx
 have h:=vr_cells (hz ρ)
 rw [getElem!_def]
 have:=h.get (f i)
 revert this
 cases h':z.cells[f i]? with
 |none=>intro _;exact vr_default
 |some x=>intro h;cases h with|some h=>exact h
theorem sr_buildSlice[Zeros P](t:TypeId)(len:Nat){ps ps':Array (Nat×Value)}(h:LR (fun a b=>b.1=a.1∧VR ρ a.2 b.2) ps.toList ps'.toList):SR P VR ρ (Instr.buildSlice t len ps) (Instr.buildSlice t len ps'):=by
 unfold Instr.buildSlice
 refine (sr_underlying t).bndS fun σ hσ d=>?_
 split
 ·rename_i elem
  refine (sr_sizeOf elem).bndS fun τ hτ size=>?_
  dsimp only
  split
  ·exact .dead fun _ _=>rfl
  ·have key:∀(υ:Env) (zero:Array Value),τ.Le υ→AR (VR υ) ((Array.range (len * size)).map fun x=>zero[x % zero.size]!) ((Array.range (len * size)).map fun x=>zero[x % zero.size]!) →
     SR P VR υ (match Instr.fill (fun i=>some (i * size,size)) ((Array.range (len * size)).map fun x=>zero[x % zero.size]!) ps.toList with
      |some cells=>(do pure (.slice (some (←newRow elem cells)) len len):Sem Value)|_=>Go.stuck "buildSlice: a part of the wrong size")
     (match Instr.fill (fun i=>some (i * size,size)) ((Array.range (len * size)).map fun x=>zero[x % zero.size]!) ps'.toList with
      |some cells=>(do pure (.slice (some (←newRow elem cells)) len len):Sem Value)|_=>Go.stuck "buildSlice: a part of the wrong size"):=by
    intro υ zero hυ hz
    have:=sr_fill (fun i=>some (i * size,size)) (h.mono fun _ _ x=>⟨x.1,x.2.mono ((hσ.trans hτ).trans hυ)⟩) hz
    revert this
    generalize Instr.fill _ _ ps.toList=a
    generalize Instr.fill _ _ ps'.toList=b
    intro this
    cases this with
    |none=>exact .stuck
    |some h=>
     refine (sr_newRow elem elem h).bnd fun ω _ a a' h=>?_
     obtain ⟨h1,h2,_,rfl⟩:=h
     exact .pur (.slice h1 (.inl rfl))
   split
   ·rename_i h0
    refine SR.bndS (SR.pur (R:=Same) rfl) fun υ hυ zero=>?_
    refine key υ zero hυ ?_
    rw [h0]
    exact ar_none _
   ·refine (sr_zeroS elem).bnd fun υ hυ z z' hz=>?_
    obtain ⟨rfl,hz⟩:=hz
    refine SR.bnd (R:=fun _ a b=>a=b∧a=z.cells) (SR.pur ⟨rfl,rfl⟩) fun ω hω zero zero' hz'=>?_
    obtain ⟨rfl,rfl⟩:=hz'
    exact key ω _ (hυ.trans hω) (zeros_ar hz _ _)
 ·exact .stuck
end
end Go.Am
namespace Go.Am
open Go.Ren (grow EvO Guar Rely)
section
variable{P:Program}{ρ σ:Env}{α β γ δ:Type}
theorem vr_int_inv{k:IntKind}{n:Int}{v:Value}(h:VR ρ (.int k n) v):v = .int k n:=by cases h;rfl
theorem sr_asIntOf{v v':Value}(h:VR ρ v v'):SR P (fun _ a b=>a=b∧v = .int a.1 a.2∧v' = .int a.1 a.2) ρ (asIntOf v) (asIntOf v'):=by
 cases h<;>first|exact .pur ⟨rfl,rfl,rfl⟩|exact .stuck|exact .uns
theorem sr_asInt{v v':Value}(h:VR ρ v v'):SR P Same ρ (asInt v) (asInt v'):=by
 unfold asInt
 exact (sr_asIntOf h).bnd fun σ _ a b e=>by obtain ⟨rfl,_⟩:=e;exact .pur rfl
theorem sr_asBool{v v':Value}(h:VR ρ v v'):SR P Same ρ (asBool v) (asBool v'):=by
 cases h<;>first|exact .pur rfl|exact .stuck
theorem sr_asAgg{v v':Value}(h:VR ρ v v'):SR P (fun σ=>AR (VR σ)) ρ (asAgg v) (asAgg v'):=by
 cases h<;>first|exact .pur ⟨‹_›,‹_›⟩|exact .stuck
theorem sr_sureAddr{v v':Value}(h:VR ρ v v'):SR P (fun σ a a'=>σ.born a.block∧a' = σ.addr a) ρ (Instr.sureAddr v) (Instr.sureAddr v'):=by
 cases h<;>first|exact .pur ⟨‹_›,rfl⟩|exact .stuck
theorem sr_asAddr{v v':Value}(h:VR ρ v v'):SR P (fun σ a a'=>σ.born a.block∧a' = σ.addr a) ρ (asAddr v) (asAddr v'):=by
 cases h<;>first|exact .pur ⟨‹_›,rfl⟩|exact .stuck|exact (show SR P _ ρ (runtimePanic .nilDeref) (runtimePanic .nilDeref) from .rpanic)
theorem sr_loadAt(t:TypeId){v v':Value}(h:VR ρ v v'):SR P VR ρ (Instr.loadAt t v) (Instr.loadAt t v'):=by
 unfold Instr.loadAt
 exact (sr_sureAddr h).bnd fun σ _ a a' e=>by obtain ⟨h1,rfl⟩:=e;exact sr_loadVar t h1
theorem sr_storeAt(t:TypeId){v v' x x':Value}(h:VR ρ v v')(hx:VR ρ x x'):SR P Same ρ (Instr.storeAt t v x) (Instr.storeAt t v' x'):=by
 unfold Instr.storeAt
 exact (sr_sureAddr h).bnd fun σ hσ a a' e=>by obtain ⟨h1,rfl⟩:=e;exact sr_storeVar t h1 (hx.mono hσ)
def fieldOk(P:Program)(s:TypeId)(field:Nat):Bool:=
 match P.underlying s with
 |some (.struct fields)=>match fields[field]? with
  |some f=>match P.info? f.type with
   |some i=>i.size != 0
   |none=>true
  |none=>true
 |_=>true
theorem sr_underlyingI(t:TypeId):SR P (fun _ a b=>a=b∧P.underlying t=some a) ρ (underlying t) (underlying t):=by
 unfold underlying
 refine .prog ?_
 split
 ·rename_i d hd;exact .pur ⟨rfl,hd⟩
 ·exact .stuck
theorem sr_fieldAt(s:TypeId){v v':Value}(field:Nat)(hf:fieldOk P s field=true)(h:VR ρ v v'):SR P VR ρ (Instr.fieldAt s v field) (Instr.fieldAt s v' field):=by
 unfold Instr.fieldAt
 refine (sr_underlyingI s).bnd fun σ hσ d d' e=>?_
 obtain ⟨rfl,hd⟩:=e
 split
 ·rename_i fields
  split
  ·rename_i f hfi
   refine (sr_sureAddr (h.mono hσ)).bnd fun τ hτ a a' e=>?_
   obtain ⟨h1,rfl⟩:=e
   refine SR.bnd (R:=fun υ a a'=>υ.born a.block∧a' = υ.addr a) ?_ fun υ hυ x x' e=>by obtain ⟨h2,rfl⟩:=e;exact .pur (.ptr h2)
   unfold fieldPlace
   refine (sr_sizeOfI f.type).bnd fun υ hυ n n' e=>?_
   obtain ⟨rfl,i,hi,rfl⟩:=e
   have:i.size≠0:=by
    unfold fieldOk at hf
    rw [hd] at hf
    dsimp only at hf
    rw [hfi] at hf
    dsimp only at hf
    rw [hi] at hf
    simpa using hf
   rw [if_neg this,if_neg this]
   exact .pur ⟨by rw [block_add];exact hυ.born _ h1,by rw [addr_add,hυ.addr h1]⟩
  ·exact .stuck
 ·exact .stuck
theorem sr_field(t:TypeId){v v':Value}(field:Nat)(h:VR ρ v v'):SR P VR ρ (Instr.field t v field) (Instr.field t v' field):=by
 unfold Instr.field
 refine (sr_underlying t).bndS fun σ hσ d=>?_
 split
 ·split
  ·exact (sr_asAgg (h.mono hσ)).bnd fun τ hτ a b e=>sr_part _ e _
  ·exact .stuck
 ·exact .stuck
theorem sr_index(t:TypeId){v v' x x':Value}(h:VR ρ v v')(hx:VR ρ x x'):SR P VR ρ (Instr.index t v x) (Instr.index t v' x'):=by
 unfold Instr.index
 refine (sr_asIntOf hx).bnd fun σ hσ a b e=>?_
 obtain ⟨rfl,_⟩:=e
 obtain ⟨k,i⟩:=a
 refine (sr_underlying t).bndS fun τ hτ d=>?_
 cases h.mono (hσ.trans hτ) with
 |agg hs hh=>
  cases d<;>first|exact .stuck|skip
  dsimp only
  split
  ·exact (sr_sizeOf _).bndS fun υ hυ n=>sr_part _ (AR.mono (R:=VR τ) (fun _ _ x=>x.mono hυ) ⟨hs,hh⟩) _
  ·exact .bpanic
 |string s=>
  cases d<;>first|exact .stuck|skip
  dsimp only
  generalize (if 0≤i then s[i.toNat]? else none)=x
  cases x with
  |none=>exact .bpanic
  |some b=>exact .pur (.int _ _)
 |_=>cases d<;>exact .stuck
def idxTail(t:TypeId)(k:IntKind)(i:Int)(x:Option Addr×Nat×TypeId):Sem Value:=do
 let d ←underlying t
 match x.1 with
 |some a=>
  if 0≤i∧i < (x.2.1:Int) then do
   let n ←sizeOf x.2.2
   pure (Value.pointer (some (a.add (i.toNat * n))))
  else if (decide (x.2.1≤1) && match d with|TypeDesc.array len elem=>true|x=>false)=true then unsupported (Unsupported.noEntry "op/indexAddr.an index out of range at an array of length 0 or 1 (ledger 616)")
  else boundsPanic k i (x.2.1:Int) BoundsCode.index
 |none=>boundsPanic k i 0 BoundsCode.index
theorem sr_idxTail(t:TypeId)(k:IntKind)(i:Int)(len:Nat)(elem:TypeId){b b':Option Addr}(e2:OptR (fun a a'=>ρ.born a.block∧a' = ρ.addr a) b b'):SR P VR ρ (idxTail t k i (b,len,elem)) (idxTail t k i (b',len,elem)):=by
 unfold idxTail
 refine (sr_underlying t).bndS fun ω hω d=>?_
 dsimp only
 cases e2 with
 |none=>exact .bpanic
 |some e2=>
  obtain ⟨h1,rfl⟩:=e2
  dsimp only
  split
  ·refine (sr_sizeOf elem).bndS fun ψ hψ n=>.pur ?_
   rw [←(hω.trans hψ).addr h1,←addr_add]
   exact .ptr (by rw [block_add];exact (hω.trans hψ).born _ h1)
  ·split<;>(split<;>first|exact .uns|exact .bpanic)
theorem sr_indexAt(t:TypeId){v v' x x':Value}(h:VR ρ v v')(hx:VR ρ x x'):SR P VR ρ (Instr.indexAt t v x) (Instr.indexAt t v' x'):=by
 unfold Instr.indexAt
 refine (sr_asIntOf hx).bnd fun σ hσ a b e=>?_
 obtain ⟨rfl,_⟩:=e
 obtain ⟨k,i⟩:=a
 dsimp only
 refine (sr_underlying t).bndS fun τ hτ d=>?_
 have h' :=h.mono (hσ.trans hτ)
 cases d with
 |array len elem=>
  refine (sr_sureAddr h').bnd fun υ _ a a' e=>?_
  exact sr_idxTail t k i len elem (.some e)
 |slice elem=>
  cases h'<;>first|exact .dead fun _ _=>rfl|skip
  ·rename_i n c;exact sr_idxTail t k i n elem .none
  ·rename_i a n c c' hb hc;exact sr_idxTail t k i n elem (.some ⟨hb,rfl⟩)
 |_=>cases h'<;>exact .dead fun _ _=>rfl
theorem sr_extract{v v':Value}(i:Nat)(h:VR ρ v v'):SR P VR ρ (Instr.extract v i) (Instr.extract v' i):=by
 unfold Instr.extract
 cases h<;>first|exact .stuck|skip
 rename_i a a' hs h
 have:=AR.get (R:=VR ρ) ⟨hs,h⟩ i
 dsimp only
 revert this
 generalize a[i]? = x
 generalize a'[i]? = y
 intro this
 cases this with
 |none=>exact .stuck
 |some h=>exact .pur h
theorem sr_makeFunc{f f':Fn}{a a' b b':Array Value}(hf:FnR ρ f f')(ha:AR (VR ρ) a a')(hb:AR (VR ρ) b b'):SR P VR ρ (Instr.makeFunc f a b) (Instr.makeFunc f' a' b'):=.pur (.func hf ha.1 ha.2 hb.1 hb.2)
theorem sr_makeInterface(t:TypeId){v v':Value}(h:VR ρ v v'):SR P VR ρ (Instr.makeInterface t v) (Instr.makeInterface t v'):=by
 unfold Instr.makeInterface
 refine (sr_underlying t).bndS fun σ hσ d=>?_
 split
 ·exact .stuck
 ·exact .pur (.iface (h.mono hσ))
theorem sr_makeMap(t:TypeId){r r':Option Value}(h:OptR (VR ρ) r r'):SR P VR ρ (Instr.makeMap t r) (Instr.makeMap t r'):=by
 unfold Instr.makeMap
 have fin:∀σ:Env,SR P VR σ (do pure (.map (some (←newObj (.map #[] 0)))):Sem Value) (do pure (.map (some (←newObj (.map #[] 0)))):Sem Value):=fun σ=>
  SR.bnd (R:=fun τ r r'=>τ.ob r r') (.new (.obj (.map .empty)) fun τ _ r r' hr=>.pure hr) fun τ _ r r' hr=>.pur (.map hr)
 cases h with
 |none=>exact fin ρ
 |some h=>
  dsimp only
  refine (sr_underlying t).bndS fun σ hσ d=>?_
  split
  ·exact (sr_asInt (h.mono hσ)).bndS fun τ _ _=>fin τ
  ·exact .dead fun _ _=>rfl
theorem sr_makeSlice[Zeros P](t:TypeId){l l' c c':Value}(hl:VR ρ l l')(hc:VR ρ c c'):SR P VR ρ (Instr.makeSlice t l c) (Instr.makeSlice t l' c'):=by
 unfold Instr.makeSlice
 refine (sr_underlying t).bndS fun σ hσ d=>?_
 split
 ·rename_i elem
  refine (sr_asInt (hl.mono hσ)).bndS fun τ hτ len=>?_
  refine (sr_asInt (hc.mono (hσ.trans hτ))).bndS fun υ hυ cap=>?_
  refine (sr_typeInfo elem).bnd fun ω hω i i' e=>?_
  obtain ⟨rfl,_⟩:=e
  dsimp only
  split
  ·refine .dead ?_
   split
   ·exact dead_left _ (dead_rpanic _)
   ·split
    ·exact dead_left _ (dead_rpanic _)
    ·exact dead_bind _ _ fun _=>dead_left _ (dead_rpanic _)
  ·unfold askRoom
   split
   ·exact .mark
   ·refine SR.bndS (SR.pur (R:=Same) rfl) fun ψ hψ _=>?_
    refine (sr_sizeOf elem).bndS fun χ hχ n=>?_
    have key:∀(χ:Env) (zero:Array Value),AR (VR χ) ((Array.range ((IntKind.i64.wrap cap).toNat * n)).map fun x=>zero[x % zero.size]!) ((Array.range ((IntKind.i64.wrap cap).toNat * n)).map fun x=>zero[x % zero.size]!) →
      SR P VR χ (do pure (.slice (some (←newRow elem ((Array.range ((IntKind.i64.wrap cap).toNat * n)).map fun x=>zero[x % zero.size]!))) (IntKind.i64.wrap len).toNat (IntKind.i64.wrap cap).toNat):Sem Value) (do pure (.slice (some (←newRow elem ((Array.range ((IntKind.i64.wrap cap).toNat * n)).map fun x=>zero[x % zero.size]!))) (IntKind.i64.wrap len).toNat (IntKind.i64.wrap cap).toNat):Sem Value):=by
     intro χ zero hz
     refine (sr_newRow elem elem hz).bnd fun ξ _ a a' h=>?_
     obtain ⟨h1,h2,_,rfl⟩:=h
     exact .pur (.slice h1 (.inl rfl))
    split
    ·rename_i h0
     refine SR.bndS (SR.pur (R:=Same) rfl) fun ξ hξ zero=>?_
     refine key ξ zero ?_
     rw [h0]
     exact ar_none _
    ·refine (sr_zeroS elem).bnd fun ξ hξ z z' hz=>?_
     obtain ⟨rfl,hz⟩:=hz
     refine SR.bnd (R:=fun _ a b=>a=b∧a=z.cells) (SR.pur ⟨rfl,rfl⟩) fun ζ hζ zero zero' hz'=>?_
     obtain ⟨rfl,rfl⟩:=hz'
     exact key ζ _ (zeros_ar hz _ _)
 ·exact .stuck
end
end Go.Am
namespace Go.Am
open Go.Ren (grow EvO Guar Rely)
section
variable{P:Program}{ρ σ:Env}{α β γ δ:Type}
def lowOf:Option Value→Nat
 |some (.int _ i)=>i.toNat
 |_=>0
theorem sr_sliceBound{x x':Value}(hx:VR ρ x x')(y y':Nat)(c:BoundsCode)(hy:y≤y'):SR P (fun _ a b=>a=b∧a≤y∧a=lowOf (some x)) ρ (Instr.sliceBound x y c) (Instr.sliceBound x' y' c):=by
 unfold Instr.sliceBound
 refine (sr_asIntOf hx).bnd fun σ hσ a b e=>?_
 obtain ⟨rfl,e1,_⟩:=e
 obtain ⟨k,i⟩:=a
 dsimp only at e1 ⊢
 split
 ·rename_i h1
  rw [if_pos (by omega)]
  exact .pur ⟨rfl,by omega,by rw [e1];rfl⟩
 ·exact .bpanic
def SlR(cap cap':Nat)(lo mx:Option Value)(a b:Nat×Nat×Nat):Prop:=
 a.1=b.1∧a.2.1=b.2.1∧a.1≤a.2.1∧a.2.1≤a.2.2∧a.1=lowOf lo∧(mx≠none∧a.2.2=b.2.2∧a.2.2≤cap∨mx=none∧a.2.2=cap∧b.2.2=cap')
theorem sr_sliceBounds{isSlice:Bool}{len cap cap':Nat}{lo lo' hi hi' mx mx':Option Value}(hlen:len≤cap)(hc:cap≤cap')(hlo:OptR (VR ρ) lo lo')(hhi:OptR (VR ρ) hi hi')(hmx:OptR (VR ρ) mx mx') :
  SR P (fun _=>SlR cap cap' lo mx) ρ (Instr.sliceBounds isSlice len cap lo hi mx) (Instr.sliceBounds isSlice len cap' lo' hi' mx'):=by
 unfold Instr.sliceBounds
 dsimp only
 cases hmx with
 |none=>
  refine SR.bnd (R:=fun _ a b=>a=cap∧b=cap') (SR.pur ⟨rfl,rfl⟩) fun σ hσ m m' hm=>?_
  obtain ⟨rfl,rfl⟩:=hm
  cases hhi with
  |none=>
   refine SR.bnd (R:=fun _ a b=>a=len∧b=len) (SR.pur ⟨rfl,rfl⟩) fun τ hτ a b e=>?_
   obtain ⟨rfl,rfl⟩:=e
   have hlo':OptR (VR τ) lo lo' :=by cases hlo with|none=>exact .none|some h=>exact .some (h.mono (hσ.trans hτ))
   cases hlo' with
   |none=>exact SR.bnd (R:=fun _ a b=>a=0∧b=0) (SR.pur ⟨rfl,rfl⟩) fun υ _ l l' e=>by obtain ⟨rfl,rfl⟩:=e;exact .pur ⟨rfl,rfl,Nat.zero_le _,hlen,rfl,.inr ⟨rfl,rfl,rfl⟩⟩
   |some hx=>exact (sr_sliceBound hx _ _ _ (Nat.le_refl _)).bnd fun υ _ l l' e=>by obtain ⟨rfl,h1,h2⟩:=e;exact .pur ⟨rfl,rfl,h1,hlen,h2,.inr ⟨rfl,rfl,rfl⟩⟩
  |some hx=>
   refine (sr_sliceBound (hx.mono hσ) _ _ _ hc).bnd fun τ hτ a b e=>?_
   obtain ⟨rfl,e1,_⟩:=e
   have hlo':OptR (VR τ) lo lo' :=by cases hlo with|none=>exact .none|some h=>exact .some (h.mono (hσ.trans hτ))
   cases hlo' with
   |none=>exact SR.bnd (R:=fun _ a b=>a=0∧b=0) (SR.pur ⟨rfl,rfl⟩) fun υ _ l l' e=>by obtain ⟨rfl,rfl⟩:=e;exact .pur ⟨rfl,rfl,Nat.zero_le _,e1,rfl,.inr ⟨rfl,rfl,rfl⟩⟩
   |some hx=>exact (sr_sliceBound hx _ _ _ (Nat.le_refl _)).bnd fun υ _ l l' e=>by obtain ⟨rfl,h1,h2⟩:=e;exact .pur ⟨rfl,rfl,h1,e1,h2,.inr ⟨rfl,rfl,rfl⟩⟩
 |some hm=>
  refine (sr_sliceBound hm _ _ _ hc).bnd fun σ hσ m m' e=>?_
  obtain ⟨rfl,e1,_⟩:=e
  cases hhi with
  |none=>exact .dead fun _ _=>rfl
  |some hx=>
   refine (sr_sliceBound (hx.mono hσ) _ _ _ (Nat.le_refl _)).bnd fun τ hτ a b e=>?_
   obtain ⟨rfl,e2,_⟩:=e
   have hlo':OptR (VR τ) lo lo' :=by cases hlo with|none=>exact .none|some h=>exact .some (h.mono (hσ.trans hτ))
   cases hlo' with
   |none=>exact SR.bnd (R:=fun _ a b=>a=0∧b=0) (SR.pur ⟨rfl,rfl⟩) fun υ _ l l' e=>by obtain ⟨rfl,rfl⟩:=e;exact .pur ⟨rfl,rfl,Nat.zero_le _,e2,rfl,.inl ⟨by simp,rfl,e1⟩⟩
   |some hx=>exact (sr_sliceBound hx _ _ _ (Nat.le_refl _)).bnd fun υ _ l l' e=>by obtain ⟨rfl,h1,h2⟩:=e;exact .pur ⟨rfl,rfl,h1,e2,h2,.inl ⟨by simp,rfl,e1⟩⟩
theorem OptR.mono{R S:α→β→Prop}(h:∀x y,R x y→S x y){a:Option α}{b:Option β}(k:OptR R a b):OptR S a b:=by cases k with|none=>exact .none|some x=>exact .some (h _ _ x)
def CutR(P:Program)(ρ:Env)(t:TypeId)(x:Value)(lo mx:Option Value):Prop:=
 (∀arr,P.underlying t≠some (.pointer arr))∧(∀n c,x = .slice none n c→n≤c)∧∀a n c,x = .slice (some a) n c→n≤c∧(ρ.slack a.block→mx=none∧(lowOf lo < c∨lowOf lo=0)∧∀elem,P.underlying t=some (.slice elem)→∀i,P.info? elem=some i→i.size=ρ.u a.block)
theorem off_add(a:Addr)(n:Nat):(a.add n).off=a.off+n:=by
 unfold Addr.add
 by_cases h:n=0
 ·rw [if_pos h];omega
 ·rw [if_neg h]
theorem sr_slice(t:TypeId){x x':Value}{lo lo' hi hi' mx mx':Option Value}(hx:VR ρ x x')(hlo:OptR (VR ρ) lo lo')(hhi:OptR (VR ρ) hi hi')(hmx:OptR (VR ρ) mx mx')(hcut:CutR P ρ t x lo mx) :
  SR P VR ρ (Instr.slice t x lo hi mx) (Instr.slice t x' lo' hi' mx'):=by
 unfold Instr.slice
 refine (sr_underlyingI t).bnd fun σ hσ d d' e=>?_
 obtain ⟨rfl,hd⟩:=e
 have hlo' :=hlo.mono fun _ _ (z:VR ρ _ _)=>z.mono hσ
 have hhi' :=hhi.mono fun _ _ (z:VR ρ _ _)=>z.mono hσ
 have hmx' :=hmx.mono fun _ _ (z:VR ρ _ _)=>z.mono hσ
 cases d with
 |string=>
  cases hx.mono hσ with
  |string s=>
   cases hmx' with
   |some _=>exact .dead fun _ _=>rfl
   |none=>
    refine (sr_sliceBounds (Nat.le_refl _) (Nat.le_refl _) hlo' hhi' .none).bnd fun τ hτ b b' e=>?_
    obtain ⟨e1,e2,_⟩:=e
    obtain ⟨l,h,m⟩:=b
    obtain ⟨l',h',m'⟩:=b'
    dsimp only at e1 e2 ⊢
    subst e1 e2
    exact .pur (.string _)
  |_=>exact .stuck
 |slice elem=>
  cases hx with
  |nilslice n c=>
   dsimp only
   have hnc:=hcut.2.1 n c rfl
   refine (sr_sliceBounds hnc (Nat.le_refl _) hlo' hhi' hmx').bnd fun τ hτ b b' e=>?_
   obtain ⟨e1,e2,_,_,_,e5⟩:=e
   obtain ⟨l,h,m⟩:=b
   obtain ⟨l',h',m'⟩:=b'
   dsimp only at e1 e2 e5 ⊢
   have e3:m=m' :=by rcases e5 with ⟨_,h,_⟩|⟨_,h,k⟩;exact h;omega
   subst e1 e2 e3
   refine (sr_sizeOf elem).bndS fun υ hυ s=>?_
   have:(if m=l then (none:Option Addr) else Option.map (fun a=>Addr.add a (l * s)) none)=none:=by split<;>rfl
   rw [this]
   exact .pur (.nilslice _ _)
  | @slice a n c c' hb hc=>
   dsimp only
   obtain ⟨hnc,hsl⟩:=hcut.2.2 a n c rfl
   have hcc:c≤c' :=by rcases hc with rfl|⟨_,h,_⟩;exact Nat.le_refl _;exact h
   refine (sr_sliceBounds hnc hcc hlo' hhi' hmx').bnd fun τ hτ b b' e=>?_
   obtain ⟨e1,e2,e3,e4,e5,e6⟩:=e
   obtain ⟨l,h,m⟩:=b
   obtain ⟨l',h',m'⟩:=b'
   dsimp only at e1 e2 e3 e4 e5 e6 ⊢
   subst e1 e2
   refine (sr_sizeOfI elem).bnd fun υ hυ s s' e=>?_
   obtain ⟨rfl,i,hi,rfl⟩:=e
   have hle:=(hσ.trans hτ).trans hυ
   have hb' :=hle.born _ hb
   have eqcase:m=m' → c' = c→SR P VR υ (Pure.pure (.slice (if m=l then some a else (some a).map (fun a=>Addr.add a (l * i.size))) (h - l) (m - l))) (Pure.pure (.slice (if m' = l then some (ρ.addr a) else (some (ρ.addr a)).map (fun a=>Addr.add a (l * i.size))) (h - l) (m' - l))):=by
    intro em ec
    subst em
    refine .pur ?_
    by_cases hml:m=l
    ·rw [if_pos hml,if_pos hml,←hle.addr hb]
     exact .slice hb' (.inl rfl)
    ·rw [if_neg hml,if_neg hml,Option.map_some,Option.map_some,←addr_add,←hle.addr (by rw [block_add];exact hb)]
     exact .slice (by rw [block_add];exact hb') (.inl rfl)
   rcases e6 with ⟨h1,h2,h3⟩|⟨h1,h2,h3⟩
   ·rcases hc with hc|⟨hc,_⟩
    ·exact eqcase h2 hc
    ·exact absurd (hsl hc).1 h1
   ·rcases hc with hc|⟨hc,hc2,hc3⟩
    ·exact eqcase (by omega) hc
    ·obtain ⟨_,h4,h5⟩:=hsl hc
     have hu:=h5 elem hd i hi
     refine .pur ?_
     have hadd:(if m' = l then some (ρ.addr a) else (some (ρ.addr a)).map (fun a=>Addr.add a (l * i.size)))=some (υ.addr (a.add (l * i.size))):=by
      rw [hle.addr (by rw [block_add];exact hb),addr_add]
      by_cases hml:m' = l
      ·rw [if_pos hml]
       have:l=0:=by omega
       subst this
       rw [Nat.zero_mul]
       rfl
      ·rw [if_neg hml];rfl
     have hadd':(if m=l then some a else (some a).map (fun a=>Addr.add a (l * i.size)))=some (a.add (l * i.size)):=by
      by_cases hml:m=l
      ·rw [if_pos hml]
       have:l=0:=by omega
       subst this
       rw [Nat.zero_mul]
       rfl
      ·rw [if_neg hml];rfl
     rw [hadd,hadd']
     refine .slice (by rw [block_add];exact hb') (.inr ⟨by rw [block_add];exact (hle.slack _ hb).2 hc,by omega,?_⟩)
     rw [block_add,off_add,hle.u _ hb,hle.ext _ hb,←hu]
     have hl:l≤c' :=by omega
     have:l * i.size+(m' - l) * i.size=m' * i.size:=by rw [←Nat.add_mul];congr 1;omega
     rw [←hu] at hc3
     rw [h3] at this ⊢
     omega
  |_=>exact .stuck
 |pointer arr=>
  exact absurd hd (hcut.1 arr)
 |_=>cases hx<;>exact .stuck
theorem sr_sliceAt(t:TypeId){x x':Value}{lo lo' hi hi' mx mx':Option Value}(hx:VR ρ x x')(hlo:OptR (VR ρ) lo lo')(hhi:OptR (VR ρ) hi hi')(hmx:OptR (VR ρ) mx mx')(hcut:CutR P ρ t x lo mx) :
  SR P VR ρ (Instr.sliceAt t x lo hi mx) (Instr.sliceAt t x' lo' hi' mx'):=by
 unfold Instr.sliceAt
 refine (sr_underlying t).bndS fun σ hσ d=>?_
 split
 ·rename_i n elem
  refine (sr_sureAddr (hx.mono hσ)).bnd fun τ hτ a a' e=>?_
  obtain ⟨hb,rfl⟩:=e
  have hlo' :=hlo.mono fun _ _ (z:VR ρ _ _)=>z.mono (hσ.trans hτ)
  have hhi' :=hhi.mono fun _ _ (z:VR ρ _ _)=>z.mono (hσ.trans hτ)
  have hmx' :=hmx.mono fun _ _ (z:VR ρ _ _)=>z.mono (hσ.trans hτ)
  refine (sr_sliceBounds (Nat.le_refl _) (Nat.le_refl _) hlo' hhi' hmx').bnd fun υ hυ b b' e=>?_
  obtain ⟨e1,e2,_,_,_,e5⟩:=e
  obtain ⟨l,h,m⟩:=b
  obtain ⟨l',h',m'⟩:=b'
  dsimp only at e1 e2 e5 ⊢
  have e3:m=m' :=by rcases e5 with ⟨_,h,_⟩|⟨_,h,k⟩;exact h;omega
  subst e1 e2 e3
  refine (sr_sizeOf elem).bndS fun ω hω s=>?_
  have hb' :=hω.born _ (hυ.born _ hb)
  have hle:=hυ.trans hω
  refine .pur ?_
  by_cases hml:m=l
  ·rw [if_pos hml,if_pos hml,←hle.addr hb]
   exact .slice hb' (.inl rfl)
  ·rw [if_neg hml,if_neg hml,←addr_add,←hle.addr (by rw [block_add];exact hb)]
   exact .slice (by rw [block_add];exact hb') (.inl rfl)
 ·refine sr_slice t (hx.mono hσ) (hlo.mono fun _ _ z=>z.mono hσ) (hhi.mono fun _ _ z=>z.mono hσ) (hmx.mono fun _ _ z=>z.mono hσ) ⟨hcut.1,hcut.2.1,fun a n c e=>?_⟩
  subst e
  obtain ⟨h1,h2⟩:=hcut.2.2 a n c rfl
  have hb:ρ.born a.block:=by cases hx;assumption
  refine ⟨h1,fun h=>?_⟩
  rw [hσ.u _ hb]
  exact h2 ((hσ.slack _ hb).1 h)
end
end Go.Am
namespace Go.Am
open Go.Ren (grow EvO Guar Rely)
section
variable{P:Program}{ρ σ:Env}{α β γ δ:Type}
abbrev FR(ρ:Env):Option (Nat×Value)→Option (Nat×Value)→Prop:=OptR fun p q=>p.1=q.1∧VR ρ p.2 q.2
theorem sr_findNow(kind:TypeDesc)(k:Value){es es':List MapEntry}(h:LR (EntryR ρ) es es'):∀i,OptR (FR ρ) (Instr.findNow kind k es i) (Instr.findNow kind k es' i):=by
 induction h with
 |nil=>intro i;exact .some .none
 | @cons e e' l m he _ ih=>
  intro i
  unfold Instr.findNow
  rw [he.key]
  split
  ·exact .some (.some ⟨rfl,he.val⟩)
  ·exact ih _
  ·exact .none
theorem sr_findAsking(t:TypeId){k:Value}(hk:Plain k){es es':List MapEntry}:∀ {ρ:Env} (i:Nat),LR (EntryR ρ) es es' → SR P (fun σ=>FR σ) ρ (Instr.findAsking t k es i) (Instr.findAsking t k es' i):=by
 induction es generalizing es' with
 |nil=>intro ρ i h;cases h;exact .pur .none
 |cons e l ih=>
  intro ρ i h
  cases h with
  |cons he hl=>
   unfold Instr.findAsking
   rw [he.key]
   refine (SR.dry (dry_equal t hk he.plain)).bndS fun σ hσ b=>?_
   split
   ·exact .pur (.some ⟨rfl,he.val.mono hσ⟩)
   ·exact ih (i+1) (hl.mono fun _ _ x=>x.mono hσ)
theorem sr_findKey(t:TypeId){k:Value}(hk:Plain k){es es':List MapEntry}(h:LR (EntryR ρ) es es'):SR P (fun σ=>FR σ) ρ (Instr.findKey t k es) (Instr.findKey t k es'):=by
 unfold Instr.findKey
 refine (sr_underlying t).bndS fun σ hσ d=>?_
 have h' :=h.mono fun _ _ (x:EntryR ρ _ _)=>x.mono hσ
 have:=sr_findNow d k h' 0
 revert this
 generalize Instr.findNow d k es 0=a
 generalize Instr.findNow d k es' 0=b
 intro this
 cases this with
 |none=>exact sr_findAsking t hk 0 h'
 |some h=>exact .pur h
theorem sr_getMap{r r':Nat}(hr:ρ.ob r r'){R:Env→α→β→Prop}{f:Obj→Sem α}{f':Obj→Sem β}(hf:∀es es' k,AR (EntryR ρ) es es' → SR P R ρ (f (.map es k)) (f' (.map es' k)))(hd:∀o,(∀es k,o ≠ .map es k)→Dead P (f o)):SR P R ρ (getObj r >>= f) (getObj r' >>= f'):=by
 refine .getObj hr fun o o' ho=>?_
 cases ho with
 |map h=>exact hf _ _ _ h
 |_=>exact .dead (hd _ (fun es k e=>by cases e))
theorem sr_checkKey(b:Bool)(t:TypeId){k:Value}(hk:Plain k):SR P Same ρ (Instr.checkKey b 10000 t k) (Instr.checkKey b 10000 t k):=.dry (dry_checkKey b 10000 t k hk)
theorem FR.fst{a b:Option (Nat×Value)}(h:FR ρ a b){γ:Type}(n:γ)(f:Nat→γ):(match a with|some (i,_)=>f i|none=>n)=(match b with|some (i,_)=>f i|none=>n):=by
 cases h with
 |none=>rfl
 | @some x y h=>obtain ⟨i,v⟩:=x;obtain ⟨j,u⟩:=y;obtain ⟨e,_⟩:=h;cases e;rfl
theorem sr_lookup[Zeros P](t:TypeId){m m' k k':Value}(c:Bool)(hm:VR ρ m m')(hk:VR ρ k k')(hp:Plain k):SR P VR ρ (Instr.lookup t m k c) (Instr.lookup t m' k' c):=by
 have:=hp.eq hk
 subst this
 unfold Instr.lookup
 refine (sr_underlying t).bndS fun σ hσ d=>?_
 split
 ·rename_i key elem
  have tail:∀(τ:Env) (es es':Array MapEntry),AR (EntryR τ) es es' → SR P VR τ (do
    Instr.checkKey es.isEmpty 10000 key k'
    let (v,ok) ←match ←Instr.findKey key k' es.toList with
     |some (_,v)=>pure (v,true)
     |none=>pure (←zeroValue elem,false)
    pure (if c then .tuple #[v,.bool ok] else v):Sem Value) (do
    Instr.checkKey es'.isEmpty 10000 key k'
    let (v,ok) ←match ←Instr.findKey key k' es'.toList with
     |some (_,v)=>pure (v,true)
     |none=>pure (←zeroValue elem,false)
    pure (if c then .tuple #[v,.bool ok] else v):Sem Value):=by
   intro τ es es' h
   have he:es'.isEmpty=es.isEmpty:=by simp only [Array.isEmpty,h.1]
   rw [he]
   refine (sr_checkKey _ key hp).bndS fun υ hυ _=>?_
   refine (sr_findKey key hp (h.mono fun _ _ x=>x.mono hυ).list).bnd fun ω hω a b hab=>?_
   have fin:∀(ψ:Env) (v u:Value) (ok:Bool),VR ψ v u→SR P VR ψ (Pure.pure (if c then .tuple #[v,.bool ok] else v)) (Pure.pure (if c then .tuple #[u,.bool ok] else u)):=by
    intro ψ v u ok h
    refine .pur ?_
    split
    ·exact vr_tuple2 h (.bool _)
    ·exact h
   cases hab with
   |none=>exact (sr_zero elem).bnd fun ψ _ v u h=>fin ψ v u false h
   | @some x y h=>obtain ⟨i,v⟩:=x;obtain ⟨j,u⟩:=y;exact fin ω v u true h.2
  cases hm.mono hσ with
  |nilmap=>exact tail σ #[] #[] .empty
  |map hr=>exact sr_getMap hr (fun es es' n h=>tail σ es es' h) fun o ho=>by cases o<;>first|exact absurd rfl (ho _ _)|exact fun _ _=>rfl
  |_=>exact .dead fun _ _=>rfl
 ·exact .stuck
theorem sr_keyThatStays{a b:Value}(ha:Plain a)(hb:Plain b):SR P (fun _ x y=>x=y∧Plain x) ρ (Instr.keyThatStays a b) (Instr.keyThatStays a b):=by
 unfold Instr.keyThatStays
 split
 ·exact .pur ⟨rfl,hb⟩
 ·refine SR.bndS (s:=choose _) (.choose fun n=>.pure rfl) fun σ _ n=>.pur ⟨rfl,?_⟩
  split<;>assumption
theorem key_of{es es':Array MapEntry}(h:AR (EntryR ρ) es es')(i:Nat)(k:Value)(hk:Plain k):((es'[i]?).map (·.key)).getD k=((es[i]?).map (·.key)).getD k∧Plain (((es[i]?).map (·.key)).getD k):=by
 have:=h.get i
 revert this
 generalize es[i]? = a
 generalize es'[i]? = b
 intro this
 cases this with
 |none=>exact ⟨rfl,hk⟩
 |some h=>exact ⟨h.key,h.plain⟩
theorem born_of{es es':Array MapEntry}(h:AR (EntryR ρ) es es')(i:Nat):((es'[i]?).map fun x=>(x.born:Int)).getD 0=((es[i]?).map fun x=>(x.born:Int)).getD 0:=by
 have:=h.get i
 revert this
 generalize es[i]? = a
 generalize es'[i]? = b
 intro this
 cases this with
 |none=>rfl
 |some h=>simp only [Option.map_some,h.born]
theorem AR.modify{R:α→β→Prop}{a:Array α}{b:Array β}(h:AR R a b)(i:Nat){f:α→α}{g:β→β}(hf:∀x y,R x y→R (f x) (g y)):AR R (a.modify i f) (b.modify i g):=by
 refine ⟨by simp [h.1],fun j x y hx hy=>?_⟩
 rw [Array.getElem?_modify] at hx hy
 have:=h.get j
 revert this hx hy
 generalize a[j]? = u
 generalize b[j]? = v
 intro hx hy this
 cases this with
 |none=>split at hx<;>cases hx
 |some hr=>
  split at hx
  ·rename_i e;rw [if_pos e] at hy;cases hx;cases hy;exact hf _ _ hr
  ·rename_i e;rw [if_neg e] at hy;cases hx;cases hy;exact hr
theorem sr_mapUpdate(t:TypeId){m m' k k' v v':Value}(hm:VR ρ m m')(hk:VR ρ k k')(hp:Plain k)(hv:VR ρ v v'):SR P Same ρ (Instr.mapUpdate t m k v) (Instr.mapUpdate t m' k' v'):=by
 have:=hp.eq hk
 subst this
 unfold Instr.mapUpdate
 refine (sr_underlying t).bndS fun σ hσ d=>?_
 split
 ·rename_i key elem
  cases hm.mono hσ with
  |nilmap=>exact .dead (dead_rpanic _)
  |map hr=>
   refine sr_getMap hr (fun es es' n h=>?_) fun o ho=>by cases o<;>first|exact absurd rfl (ho _ _)|exact fun _ _=>rfl
   refine (sr_checkKey _ key hp).bndS fun τ hτ _=>?_
   have h' :=h.mono fun _ _ (x:EntryR σ _ _)=>x.mono hτ
   refine (sr_findKey key hp h'.list).bnd fun υ hυ a b hab=>?_
   have h2:=h'.mono fun _ _ (x:EntryR τ _ _)=>x.mono hυ
   have hv2:=hv.mono ((hσ.trans hτ).trans hυ)
   cases hab with
   |none=>
    exact .setObj ((hτ.trans hυ).ob hr) (.map (h2.push ⟨hp,rfl,hv2,rfl⟩)) (.pure rfl)
   | @some x y h=>
    obtain ⟨i,w⟩:=x
    obtain ⟨j,u⟩:=y
    obtain ⟨e,_⟩:=h
    dsimp only at e ⊢
    subst e
    obtain ⟨e1,e2⟩:=key_of h2 i k' hp
    rw [e1]
    refine (sr_keyThatStays e2 hp).bnd fun ω hω a b e=>?_
    obtain ⟨rfl,hpa⟩:=e
    exact .setObj (((hτ.trans hυ).trans hω).ob hr) (.map ((h2.mono fun _ _ x=>x.mono hω).modify i fun x y h=>⟨hpa,rfl,hv2.mono hω,h.born⟩)) (.pure rfl)
  |_=>exact .stuck
 ·exact .stuck
theorem sr_mapEntry[Zeros P](t:TypeId){m m' k k':Value}(hm:VR ρ m m')(hk:VR ρ k k')(hp:Plain k):SR P VR ρ (Instr.mapEntry t m k) (Instr.mapEntry t m' k'):=by
 have:=hp.eq hk
 subst this
 unfold Instr.mapEntry
 refine (sr_underlying t).bndS fun σ hσ d=>?_
 split
 ·rename_i key elem
  cases hm.mono hσ with
  |nilmap=>exact .dead (dead_rpanic _)
  |map hr=>
   refine sr_getMap hr (fun es es' n h=>?_) fun o ho=>by cases o<;>first|exact absurd rfl (ho _ _)|exact fun _ _=>rfl
   refine (sr_checkKey _ key hp).bndS fun τ hτ _=>?_
   have h' :=h.mono fun _ _ (x:EntryR σ _ _)=>x.mono hτ
   refine (sr_findKey key hp h'.list).bnd fun υ hυ a b hab=>?_
   have h2:=h'.mono fun _ _ (x:EntryR τ _ _)=>x.mono hυ
   cases hab with
   |none=>
    refine (sr_zero elem).bnd fun ω hω z z' hz=>?_
    exact .setObj (((hτ.trans hυ).trans hω).ob hr) (.map ((h2.mono fun _ _ x=>x.mono hω).push ⟨hp,rfl,hz,rfl⟩)) (.pure (vr_tuple2 hz (.int _ _)))
   | @some x y h=>
    obtain ⟨i,w⟩:=x
    obtain ⟨j,u⟩:=y
    obtain ⟨e,hw⟩:=h
    dsimp only at e hw ⊢
    subst e
    obtain ⟨e1,e2⟩:=key_of h2 i k' hp
    rw [e1,born_of h2 i]
    refine (sr_keyThatStays e2 hp).bnd fun ω hω a b e=>?_
    obtain ⟨rfl,hpa⟩:=e
    exact .setObj (((hτ.trans hυ).trans hω).ob hr) (.map ((h2.mono fun _ _ x=>x.mono hω).modify i fun x y h=>⟨hpa,rfl,h.val,h.born⟩)) (.pure (vr_tuple2 (hw.mono hω) (.int _ _)))
  |_=>exact .stuck
 ·exact .stuck
theorem LR.findIdx{R:α→β→Prop}{l:List α}{m:List β}(h:LR R l m){p:α→Bool}{q:β→Bool}(hpq:∀x y,R x y→q y=p x):m.findIdx? q=l.findIdx? p:=by
 induction h with
 |nil=>rfl
 |cons h _ ih=>simp only [List.findIdx?_cons,hpq _ _ h,ih]
theorem sr_entryStore(t:TypeId){m m' k k' v v':Value}(hm:VR ρ m m')(hk:VR ρ k k')(hv:VR ρ v v'):SR P Same ρ (Instr.entryStore t m k v) (Instr.entryStore t m' k' v'):=by
 unfold Instr.entryStore
 cases hm with
 |map hr=>
  refine sr_getMap hr (fun es es' n h=>?_) fun o ho=>by cases o<;>first|exact absurd rfl (ho _ _)|exact fun _ _=>rfl
  refine (sr_asInt hk).bndS fun σ hσ b=>?_
  have h' :=h.mono fun _ _ (x:EntryR ρ _ _)=>x.mono hσ
  have hidx:es'.findIdx? (fun e=>(e.born:Int) == b)=es.findIdx? (fun e=>(e.born:Int) == b):=by
   have:=h'.list.findIdx (p:=fun e=>(e.born:Int) == b) (q:=fun e=>(e.born:Int) == b) fun x y hxy=>by rw [hxy.born]
   obtain ⟨l⟩:=es
   obtain ⟨l'⟩:=es'
   rw [List.findIdx?_toArray,List.findIdx?_toArray]
   exact this
  rw [hidx]
  split
  ·rename_i i _
   exact .setObj (hσ.ob hr) (.map (h'.modify _ fun x y h=>⟨h.plain,h.key,hv.mono hσ,h.born⟩)) (.pure rfl)
  ·exact .uns
 |_=>exact .dead fun _ _=>rfl
end
end Go.Am
