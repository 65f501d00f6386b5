import Derived.Test.YtgfjlblikffnaaaGreatH1
set_option linter.unusedVariables false
set_option linter.unusedSectionVars false
set_option linter.unusedSimpArgs false
namespace Go.Am
open Go.Ren (grow fM aO az)
def fD:Nat→Value→Bool
 |0,_=>false
 |n+1,v=>match v with
  | .bool _ | .int _ _ | .string _ | .pointer none | .slice none _ _ | .map none | .nilFunc | .nilIface=>true
  | .func (.func _) a b=>a.isEmpty && b.isEmpty
  | .func (.via ..) a b=>a.isEmpty && b.isEmpty
  | .iface _ v=>fD n v
  | .agg cs=>cs.toList.all (fD n)
  | .tuple cs=>cs.toList.all (fD n)
  |_=>false
theorem get_mem{α:Type}{a:Array α}{i:Nat}{x:α}(h:a[i]? = some x):x∈a.toList:=by
 obtain ⟨h1,h2⟩:=Array.getElem?_eq_some_iff.1 h
 rw [←h2];simp
theorem Sz(ρ:Env):∀(n:Nat) (v:Value),fD n v=true→VR ρ v v:=by
 intro n
 induction n with
 |zero=>intro v h;cases h
 |succ n ih=>
  intro v h
  have arr:∀cs:Array Value,cs.toList.all (fD n)=true→∀(i:Nat) x y,cs[i]? = some x→cs[i]? = some y→VR ρ x y:=by
   intro cs hc i x y hx hy
   rw [hx] at hy
   cases hy
   exact ih x (List.all_eq_true.1 hc x (get_mem hx))
  have emp:∀a:Array Value,a.isEmpty=true→∀(i:Nat) x y,a[i]? = some x→a[i]? = some y→VR ρ x y:=by
   intro a ha i x y hx _
   have:a = #[]:=Array.isEmpty_iff.1 ha
   subst this
   simp at hx
  cases v with
  |bool b=>exact .bool b
  |int k m=>exact .int k m
  |string s=>exact .string s
  |pointer a=>cases a with|none=>exact .eu|some a=>cases h
  |slice a m c=>cases a with|none=>exact .nilslice m c|some a=>cases h
  |map r=>cases r with|none=>exact .cu|some a=>cases h
  |nilFunc=>exact .nilFunc
  |nilIface=>exact .nilIface
  |func f a b=>
   have fin:(a.isEmpty && b.isEmpty)=true→OY ρ f f→VR ρ (.func f a b) (.func f a b):=fun h hf=>by
    simp only [Bool.and_eq_true] at h
    exact .func hf rfl (emp a h.1) rfl (emp b h.2)
   cases f with
   |func f=>exact fin h (.func f)
   |via t p f x=>exact fin h (.via t p f x)
   |_=>cases h
  |iface t v=>exact .iface (ih v h)
  |agg cs=>exact .agg rfl (arr cs h)
  |tuple cs=>exact .tuple rfl (arr cs h)
  |_=>cases h
class aI(P:Program):Prop where
 zero:∀t i z,P.info? t=some i→i.zero=some z→∀ρ:Env,VR ρ z z
abbrev Same{α:Type}:Env→α→α→Prop:=fun _ a b=>a=b
def Dead(P:Program){α:Type}(s:Sem α):Prop:=∀c h,s.ar P c h=none
theorem qR{P:Program}{α γ:Type}(s:Sem α)(f:α→Sem γ)(hf:∀a,Dead P (f a)):Dead P (s.bind f):=by
 induction s with
 |pure a=>exact hf a
 |load m a k ih=>
  intro c h
  simp only [Sem.bind]
  rw [Sem.ar.eq_def]
  dsimp only
  split
  ·exact ih _ _ _
  ·rfl
 |store m a v k ih=>
  intro c h
  simp only [Sem.bind]
  cases v<;>cases m<;>simp only [Sem.ar]
  all_goals
   split
   ·exact ih _ _
   ·rfl
 |new o k ih=>
  intro c h
  simp only [Sem.bind]
  simp only [Sem.ar]
  split<;>first|rfl|exact ih _ _ _
 |shape r k ih=>
  intro c h
  simp only [Sem.bind]
  simp only [Sem.ar]
  split<;>first|rfl|exact ih _ _ _
 |getObj r k ih=>
  intro c h
  simp only [Sem.bind]
  simp only [Sem.ar]
  split<;>first|rfl|exact ih _ _ _
 |setObj r o k ih=>
  intro c h
  simp only [Sem.bind]
  simp only [Sem.ar]
  split
  ·rfl
  ·rfl
  ·split
   ·rfl
   ·exact ih _ _
  ·rfl
 |choose q k ih=>
  intro c h
  simp only [Sem.bind]
  rw [Sem.ar.eq_def]
  dsimp only
  split
  ·exact ih _ _ _
  ·split
   ·exact ih _ _ _
   ·rfl
 |program k ih=>intro c h;exact ih _ _ _
 |_=>intro c h;rfl
theorem bI{P:Program}{α:Type}(x:RuntimeError):Dead P (runtimePanic x:Sem α):=by
 intro c h
 show (match x with|_=>_:Sem α).ar P c h=none
 cases x<;>first|rfl|exact qR _ _ (fun a=>qR _ _ fun b c h=>rfl) c h
section
variable{P:Program}{ρ σ:Env}{α β γ δ:Type}
theorem SR.bnd{R:Env→α→β→Prop}{Q:Env→γ→δ→Prop}{s:Sem α}{s':Sem β}{f:α→Sem γ}{f':β→Sem δ}(h:SR P R ρ s s')(hf:∀σ:Env,ρ.Le σ→∀a b,R σ a b→SR P Q σ (f a) (f' b)):SR P Q ρ (s >>= f) (s' >>= f'):=h.bind hf
theorem SR.bF{Q:Env→γ→δ→Prop}{s s':Sem α}{f:α→Sem γ}{f':α→Sem δ}(h:SR P Same ρ s s')(hf:∀σ:Env,ρ.Le σ→∀a,SR P Q σ (f a) (f' a)):SR P Q ρ (s >>= f) (s' >>= f'):=h.bind fun σ hσ a b e=>by cases e;exact hf σ hσ a
theorem SR.aN{R:Env→α→β→Prop}{a:α}{b:β}(h:R ρ a b):SR P R ρ (Pure.pure a:Sem α) (Pure.pure b:Sem β):=.pure h
theorem SR.stuck{R:Env→α→β→Prop}{x:String}{s:Sem β}:SR P R ρ (Go.stuck x) s:=.halt
theorem SR.J8{R:Env→α→β→Prop}{x:Unsupported}{s:Sem β}:SR P R ρ (Go.unsupported x) s:=.halt
theorem SR.prog{R:Env→γ→δ→Prop}{f:Program→Sem γ}{f':Program→Sem δ}(h:SR P R ρ (f P) (f' P)):SR P R ρ (Go.program >>= f) (Go.program >>= f'):=.program h
theorem SR.vz{R:Env→α→β→Prop}{x:RuntimeError}{s:Sem β}:SR P R ρ (runtimePanic x) s:=.dead (bI x)
theorem SR.yN{R:Env→α→β→Prop}{k:IntKind}{x y:Int}{c:BoundsCode}{s:Sem β}:SR P R ρ (boundsPanic k x y c) s:=by
 unfold boundsPanic
 dsimp only
 split<;>exact .dead (qR _ _ fun a=>bI _)
theorem SR.vals{s s':Sem Value}(h:SR P VR ρ s s'){R:Env→Value→Value→Prop}(hR:∀σ:Env,ρ.Le σ→∀v v',VR σ v v' → R σ v v'):SR P R ρ s s' :=h.imp hR
theorem aj(t:TypeId):SR P Same ρ (underlying t) (underlying t):=by
 unfold underlying
 refine .prog ?_
 split
 ·exact .aN rfl
 ·exact .stuck
theorem gq(t:TypeId):SR P (fun _ a b=>a=b∧P.info? t=some a) ρ (typeInfo t) (typeInfo t):=by
 unfold typeInfo
 refine .prog ?_
 split
 ·rename_i i hi;exact .aN ⟨rfl,hi⟩
 ·exact .stuck
theorem Dc[aI P](t:TypeId):SR P VR ρ (zeroValue t) (zeroValue t):=by
 unfold zeroValue
 refine (gq t).bnd fun σ _ a b h=>?_
 obtain ⟨rfl,hi⟩:=h
 split
 ·rename_i v hv;exact .aN (aI.zero t a v hi hv σ)
 ·exact .J8
theorem dL(t:TypeId):SR P Same ρ (sizeOf t) (sizeOf t):=by
 unfold sizeOf
 refine (gq t).bnd fun σ _ a b h=>?_
 obtain ⟨rfl,hi⟩:=h
 exact .aN rfl
theorem yO(t:TypeId):SR P Same ρ (isAgg t) (isAgg t):=by
 unfold isAgg
 refine (aj t).bF fun σ _ a=>?_
 split<;>exact .aN rfl
theorem addr_add(a:Addr)(n:Nat):ρ.addr (a.add n)=(ρ.addr a).add n:=by
 unfold Addr.add
 by_cases h:n=0
 ·rw [if_pos h,if_pos h]
 ·rw [if_neg h,if_neg h];simp only [Env.addr,Nat.add_assoc]
theorem block_add(a:Addr)(n:Nat):(a.add n).block=a.block:=by unfold Addr.add;split<;>rfl
theorem Me{a:Addr}(ha:ρ.born a.block):SR P VR ρ (load a) (load (ρ.addr a)):=.load ha fun v v' hv=>.pure hv
theorem AR.empty{R:α→β→Prop}:AR R #[] #[]:=⟨rfl,fun i x y h=>by simp at h⟩
theorem AR.push{R:α→β→Prop}{a:Array α}{b:Array β}(h:AR R a b){x:α}{y:β}(hxy:R x y):AR R (a.push x) (b.push y):=by
 refine ⟨by simp [h.1],fun i u v hu hv=>?_⟩
 rw [Array.getElem?_push] at hu hv
 by_cases e:i=a.size
 ·rw [if_pos e] at hu;rw [if_pos (h.1 ▸ e)] at hv;cases hu;cases hv;exact hxy
 ·rw [if_neg e] at hu;rw [if_neg (h.1 ▸ e)] at hv;exact h.2 i u v hu hv
theorem vC(n:Nat):∀ {ρ:Env} (a:Addr) (i:Nat) (acc acc':Array Value),ρ.born a.block→AR (VR ρ) acc acc' → SR P (fun σ=>AR (VR σ)) ρ (loadCellsFrom a i n acc) (loadCellsFrom (ρ.addr a) i n acc'):=by
 induction n with
 |zero=>intro ρ a i acc acc' _ h;exact .aN h
 |succ n ih=>
  intro ρ a i acc acc' ha h
  unfold loadCellsFrom
  rw [←addr_add]
  refine (Me (by rw [block_add];exact ha)).bnd fun σ hσ v v' hv=>?_
  rw [←hσ.addr ha]
  exact ih a (i+1) _ _ (hσ.born _ ha) ((h.mono fun _ _ x=>x.mono hσ).push hv)
theorem uq{a:Addr}(n:Nat)(ha:ρ.born a.block):SR P (fun σ=>AR (VR σ)) ρ (loadCells a n) (loadCells (ρ.addr a) n):=vC n a 0 _ _ ha .empty
theorem nT(t:TypeId){a:Addr}(ha:ρ.born a.block):SR P VR ρ (loadVar t a) (loadVar t (ρ.addr a)):=by
 unfold loadVar
 refine (yO t).bF fun σ hσ b=>?_
 rw [←hσ.addr ha]
 have ha' :=hσ.born _ ha
 cases b with
 |true=>
  refine (dL t).bF fun τ iO n=>?_
  rw [←iO.addr ha']
  exact (uq n (iO.born _ ha')).bnd fun υ _ x y h=>.aN (.agg h.1 h.2)
 |false=>exact Me ha'
theorem kG{v v':Value}(h:VR ρ v v'):AR (VR ρ) v.cells v'.cells:=by
 have one:∀ {v v':Value},VR ρ v v' → AR (VR ρ) #[v] #[v']:=fun {v v'} h=>by
  have:=(AR.empty (R:=VR ρ)).push h
  exact this
 cases h with
 |agg hs h=>exact ⟨hs,h⟩
 |bool b=>exact one (.bool b)
 |int k n=>exact one (.int k n)
 |string s=>exact one (.string s)
 |eu=>exact one .eu
 |ptr h=>exact one (.ptr h)
 |nilslice n c=>exact one (.nilslice n c)
 |slice h hc=>exact one (.slice h hc)
 |cu=>exact one .cu
 |map h=>exact one (.map h)
 |dJ=>exact one .dJ
 |chan h=>exact one (.chan h)
 |nilFunc=>exact one .nilFunc
 |func a b c d e=>exact one (.func a b c d e)
 |nilIface=>exact one .nilIface
 |iface h=>exact one (.iface h)
 |tuple hs h=>exact one (.tuple hs h)
theorem AR.list{R:α→β→Prop}{a:Array α}{b:Array β}(h:AR R a b):LR R a.toList b.toList:=by
 obtain ⟨a⟩:=a
 obtain ⟨b⟩:=b
 obtain ⟨hs,h⟩:=h
 simp only [List.size_toArray] at hs
 induction a generalizing b with
 |nil=>cases b with|nil=>exact .nil|cons y m=>simp at hs
 |cons x l ih=>
  cases b with
  |nil=>simp at hs
  |cons y m=>
   refine .cons (h 0 x y (by simp) (by simp)) (ih m (fun i u v hu hv=>h (i+1) u v (by simpa using hu) (by simpa using hv)) (by simpa using hs))
theorem LR.arr{R:α→β→Prop}{a:List α}{b:List β}(h:LR R a b):AR R a.toArray b.toArray:=by
 induction h with
 |nil=>exact .empty
 |cons h _ ih=>
  refine ⟨by have:=ih.1;simp at this ⊢;exact this,fun i x y hx hy=>?_⟩
  cases i with
  |zero=>simp at hx hy;subst hx hy;exact h
  |succ i=>exact ih.2 i x y (by simpa using hx) (by simpa using hy)
theorem jw{l l':List Value}:∀ {ρ:Env} {a:Addr} (i:Nat),ρ.born a.block→LR (VR ρ) l l' → SR P Same ρ (storeCells a l i) (storeCells (ρ.addr a) l' i):=by
 induction l generalizing l' with
 |nil=>intro ρ a i _ h;cases h;exact .aN rfl
 |cons v l ih=>
  intro ρ a i ha h
  cases h with
  |cons hv hl=>
   unfold storeCells
   rw [←addr_add]
   refine SR.bF (s:=store (a.add i) v) (.store (by rw [block_add];exact ha) hv (.pure rfl)) fun σ hσ _=>?_
   rw [←hσ.addr ha]
   exact ih (i+1) (hσ.born _ ha) (hl.mono fun _ _ x=>x.mono hσ)
theorem I8(t:TypeId){a:Addr}{v v':Value}(ha:ρ.born a.block)(hv:VR ρ v v'):SR P Same ρ (storeVar t a v) (storeVar t (ρ.addr a) v'):=by
 unfold storeVar
 have hc:=kG hv
 refine (dL t).bF fun σ hσ n=>?_
 rw [←hσ.addr ha,←hc.1]
 by_cases h:v.cells.size≠n
 ·rw [if_pos h];exact .dead fun _ _=>rfl
 ·rw [if_neg h,if_neg h]
  exact jw 0 (hσ.born _ ha) (hc.list.mono fun _ _ x=>x.mono hσ)
theorem vF(e e':TypeId){c c':Array Value}(hc:AR (VR ρ) c c'):SR P (fun σ a a'=>σ.born a.block∧a.spot=none∧a.off=0∧a' = σ.addr a) ρ (newRow e c) (newRow e' c'):=by
 unfold newRow
 refine SR.bnd (R:=fun σ r r'=>σ.ob r r') (s:=newObj _) (s' :=newObj _) (.new (.cells hc) fun σ hσ r r' hr=>.pure hr) fun σ hσ r r' hr=>.aN ⟨hr.1,rfl,rfl,?_⟩
 unfold Env.addr
 simp only [hr.2]
end
end Go.Am
namespace Go.Am
open Go.Ren (grow fM aO az)
theorem U7(ρ:Env):zT.Le ρ:=⟨fun _ h=>h.elim,fun _ h=>h.elim,fun _ h=>h.elim,fun _ h=>h.elim,fun _ h=>h.elim⟩
def Plain(v:Value):Prop:=VR zT v v
theorem Plain.vr{v:Value}(h:Plain v)(ρ:Env):VR ρ v v:=VR.mono (U7 ρ) h
theorem dG{n:Nat}{v:Value}(h:fD n v=true):Plain v:=Sz zT n v h
theorem Df{a b:Array Value}(hs:a.size=b.size)(h:∀(i:Nat) x y,a[i]? = some x→b[i]? = some y→y=x):b=a:=by
 apply Array.ext hs.symm
 intro i h1 h2
 exact h i a[i] b[i] (by simp [h2]) (by simp [h1])
theorem SA{v u:Value}(h:VR zT v u):∀ {ρ:Env} {v':Value},VR ρ v v' → v' = v:=by
 induction h with
 |bool b=>intro ρ v' k;cases k;rfl
 |int k n=>intro ρ v' k;cases k;rfl
 |string s=>intro ρ v' k;cases k;rfl
 |eu=>intro ρ v' k;cases k;rfl
 |ptr h=>exact h.elim
 |nilslice n c=>intro ρ v' k;cases k;rfl
 |slice h=>exact h.elim
 |cu=>intro ρ v' k;cases k;rfl
 |map h=>exact h.1.elim
 |dJ=>intro ρ v' k;cases k;rfl
 |chan h=>exact h.1.elim
 |nilFunc=>intro ρ v' k;cases k;rfl
 |func hf hs h ks k ih ik=>
  intro ρ v' m
  cases m with
  |func hf' hs' h' ks' k'=>
   have e1:=Df hs' fun i x y hx hy=>by
    obtain ⟨z,hz⟩:∃z,_=some z:=⟨_,Array.getElem?_eq_getElem (hs ▸ (Array.getElem?_eq_some_iff.1 hx).1)⟩
    exact ih i x z hx hz (h' i x y hx hy)
   have e2:=Df ks' fun i x y hx hy=>by
    obtain ⟨z,hz⟩:∃z,_=some z:=⟨_,Array.getElem?_eq_getElem (ks ▸ (Array.getElem?_eq_some_iff.1 hx).1)⟩
    exact ik i x z hx hz (k' i x y hx hy)
   rw [e1,e2]
   cases hf with
   |yield h=>exact h.1.elim
   |func f=>cases hf';rfl
   |method f=>cases hf';rfl
   |methodOf f=>cases hf';rfl
   |via f=>cases hf';rfl
 |nilIface=>intro ρ v' k;cases k;rfl
 |iface h ih=>intro ρ v' k;cases k with|iface k=>rw [ih k]
 |agg hs h ih=>
  intro ρ v' m
  cases m with
  |agg hs' h'=>
   rw [Df hs' fun i x y hx hy=>by
    obtain ⟨z,hz⟩:∃z,_=some z:=⟨_,Array.getElem?_eq_getElem (hs ▸ (Array.getElem?_eq_some_iff.1 hx).1)⟩
    exact ih i x z hx hz (h' i x y hx hy)]
 |tuple hs h ih=>
  intro ρ v' m
  cases m with
  |tuple hs' h'=>
   rw [Df hs' fun i x y hx hy=>by
    obtain ⟨z,hz⟩:∃z,_=some z:=⟨_,Array.getElem?_eq_getElem (hs ▸ (Array.getElem?_eq_some_iff.1 hx).1)⟩
    exact ih i x z hx hz (h' i x y hx hy)]
theorem Plain.eq{v v':Value}{ρ:Env}(h:Plain v)(k:VR ρ v v'):v' = v:=SA h k
theorem Plain.agg{cs:Array Value}(h:Plain (.agg cs)):∀c∈cs,Plain c:=by
 intro c hc
 cases h with
 |agg hs h=>
  obtain ⟨i,hi,e⟩:=Array.mem_iff_getElem.1 hc
  exact h i c c (by simp [hi,e]) (by simp [hi,e])
theorem qU{cs:Array Value}(h:∀c∈cs,Plain c):Plain (.agg cs):=
 VR.agg rfl fun i x y hx hy=>by rw [hx] at hy;cases hy;exact h x (Array.mem_of_getElem? hx)
theorem Plain.iface{t:TypeId}{v:Value}(h:Plain (.iface t v)):Plain v:=by cases h with|iface h=>exact h
theorem jY{P:Program}{α γ:Type}{s:Sem α}(f:α→Sem γ)(h:Dead P s):Dead P (s >>= f):=fun c a=>tC s f c a (h c a)
abbrev acH{α:Type}(Q:α→Prop):Env→α→α→Prop:=fun _ a b=>a=b∧Q a
abbrev jc(P:Program){α:Type}(Q:α→Prop)(s:Sem α):Prop:=∀ρ:Env,SR P (acH Q) ρ s s
section
variable{P:Program}{ρ σ:Env}{α β γ δ:Type}
theorem jc.bnd{Q:α→Prop}{T:β→Prop}{s:Sem α}{f:α→Sem β}(h:jc P Q s)(k:∀a,Q a→jc P T (f a)):jc P T (s >>= f):=fun ρ=>(h ρ).bnd fun σ _ a b e=>by obtain ⟨rfl,e⟩:=e;exact k a e σ
theorem jc.aN{Q:α→Prop}{a:α}(h:Q a):jc P Q (Pure.pure a:Sem α):=fun ρ=>.aN ⟨rfl,h⟩
theorem jc.stuck{Q:α→Prop}{x:String}:jc P Q (Go.stuck x:Sem α):=fun _=>.stuck
theorem jc.J8{Q:α→Prop}{x:Unsupported}:jc P Q (Go.unsupported x:Sem α):=fun _=>.J8
theorem jc.vz{Q:α→Prop}{x:RuntimeError}:jc P Q (runtimePanic x:Sem α):=fun _=>.vz
theorem jc.dead{Q:α→Prop}{s:Sem α}(h:Dead P s):jc P Q s:=fun _=>.dead h
theorem jc.prog{Q:α→Prop}{f:Program→Sem α}(h:jc P Q (f P)):jc P Q (Go.program >>= f):=fun ρ=>.prog (h ρ)
abbrev Any{α:Type}:α→Prop:=fun _=>True
theorem kH(t:TypeId):jc P Any (underlying t):=fun ρ=>(aj t).imp fun _ _ _ _ e=>⟨e,trivial⟩
theorem nU(t:TypeId):jc P Any (typeInfo t):=fun ρ=>(gq t).imp fun _ _ _ _ e=>⟨e.1,trivial⟩
theorem nV(t:TypeId):jc P Any (sizeOf t):=fun ρ=>(dL t).imp fun _ _ _ _ e=>⟨e,trivial⟩
theorem Pq(t:TypeId):jc P Any (isAgg t):=fun ρ=>(yO t).imp fun _ _ _ _ e=>⟨e,trivial⟩
theorem wS(t:TypeId):jc P Any (typeStr t):=by
 unfold typeStr
 refine (nU t).bnd fun i _=>?_
 dsimp only
 split
 ·exact .J8
 ·exact .aN trivial
theorem kJ{γ δ:Type}{Q:δ→Prop}(f:γ→δ→Sem (ForInStep δ)):∀(xs:List γ) (a:δ),Q a→(∀x∈xs,∀a,Q a→jc P (fun p=>(∃u,p = .done u∧Q u)∨(∃u,p = .yield u∧Q u)) (f x a))→jc P Q (forIn xs a f)
 | [],a,h,_=>by simpa using jc.aN (P:=P) h
 |x :: xs,a,h,hf=>by
  rw [List.forIn_cons]
  refine (hf x (by simp) a h).bnd ?_
  rintro p (⟨u,rfl,hu⟩|⟨u,rfl,hu⟩)
  ·exact .aN hu
  ·exact kJ f xs u hu fun y hy=>hf y (by simp [hy])
theorem jI{γ δ:Type}{Q:δ→Prop}(f:γ→δ→Sem (ForInStep δ))(xs:Array γ)(a:δ)(h:Q a)(hf:∀x∈xs,∀a,Q a→jc P (fun p=>(∃u,p = .done u∧Q u)∨(∃u,p = .yield u∧Q u)) (f x a)):jc P Q (forIn xs a f):=by
 rw [←Array.forIn_toList]
 exact kJ f _ a h fun x hx=>hf x (by simpa using hx)
theorem jJ{δ:Type}{Q:δ→Prop}(f:Nat→δ→Sem (ForInStep δ))(r:Std.Legacy.Range)(a:δ)(h:Q a)(hf:∀x,∀a,Q a→jc P (fun p=>(∃u,p = .done u∧Q u)∨(∃u,p = .yield u∧Q u)) (f x a)):jc P Q (forIn r a f):=by
 rw [Std.Legacy.Range.forIn_eq_forIn_range']
 exact kJ f _ a h fun x _=>hf x
theorem mem_extract{cs:Array Value}{i j:Nat}{v:Value}(h:v∈cs.extract i j):v∈cs:=by
 obtain ⟨k,hk,e⟩:=Array.mem_iff_getElem.1 h
 rw [Array.getElem_extract] at e
 rw [←e]
 exact Array.getElem_mem _
theorem gZ(t:TypeId){cs:Array Value}(h:∀c∈cs,Plain c)(off:Nat):jc P Plain (part t cs off):=by
 unfold part
 refine (Pq t).bnd fun b _=>?_
 cases b with
 |true=>exact (nV t).bnd fun n _=>.aN (qU fun c hc=>h c (mem_extract hc))
 |false=>
  show jc P Plain (match cs[off]? with|some v=>Pure.pure v|none=>Go.stuck _)
  split
  ·rename_i v hv;exact .aN (h v (Array.mem_of_getElem? hv))
  ·exact .stuck
theorem jR(empty:Bool):∀(n:Nat) (t:TypeId) (v:Value),Plain v→jc P Any (Instr.checkKey empty n t v)
 |0,t,v,_=>.J8
 |n+1,t,v,hv=>by
  unfold Instr.checkKey
  refine (kH t).bnd fun d _=>?_
  split
  ·rename_i d x _
   refine (nU d).bnd fun i _=>?_
   dsimp only
   split
   ·split
    ·exact .dead (jY _ (bI _))
    ·exact (wS d).bnd fun s _=>.dead (jY _ (bI _))
   ·exact jR empty n d x hv.iface
  ·rename_i len e cs _
   refine jc.bnd (Q:=Any) (jJ _ _ _ trivial fun x a _=>?_) fun _ _=>.aN trivial
   refine (nV e).bnd fun s _=>?_
   refine (gZ e hv.agg _).bnd fun x hx=>?_
   exact (jR empty n e x hx).bnd fun _ _=>.aN (.inr ⟨_,rfl,trivial⟩)
  ·rename_i fields cs _
   refine jc.bnd (Q:=Any) (jI _ _ _ trivial fun f _ a _=>?_) fun _ _=>.aN trivial
   split
   ·refine (gZ f.type hv.agg _).bnd fun x hx=>?_
    exact (jR empty n f.type x hx).bnd fun _ _=>.aN (.inr ⟨_,rfl,trivial⟩)
   ·exact .aN (.inr ⟨_,rfl,trivial⟩)
  ·exact .aN trivial
  all_goals first|exact .stuck|exact .aN trivial
end
end Go.Am
namespace Go.Am
open Go.Ren (grow fM aO az)
section
variable{P:Program}{ρ σ:Env}{α β γ δ:Type}
theorem U8{v u:Value}(h:VR zT v u)(a:Addr)(e:v = .pointer (some a)):False:=by
 cases h<;>cases e
 rename_i h;exact h
theorem Plain.ptr{a:Option Addr}(h:Plain (.pointer a)):a=none:=by cases a with|none=>rfl|some a=>exact (U8 h a rfl).elim
theorem lu:∀(n:Nat) (t:TypeId) (x y:Value),Plain x→Plain y→jc P Any (Op.equalIn n t x y)
 |0,t,x,y,_,_=>.J8
 |n+1,t,x,y,hx,hy=>by
  unfold Op.equalIn
  refine (kH t).bnd fun d _=>?_
  split
  case h_5=>have:=hx.ptr;cases this
  case h_13=>have:=hx.ptr;cases this
  case h_14=>have:=hx.ptr;have h2:=hy.ptr;subst this h2;exact .aN trivial
  case h_19=>
   rename_i tx vx ty vy _
   split
   ·exact .aN trivial
   ·refine (nU tx).bnd fun i _=>?_
    dsimp only
    split
    ·refine .prog ?_
     refine jc.prog ?_
     split
     ·exact .dead fun _ _=>rfl
     ·exact (wS tx).bnd fun s _=>.dead (bI _)
    ·exact lu n tx vx vy hx.iface hy.iface
  case h_20=>
   rename_i fields xs ys _
   refine .prog ?_
   dsimp only
   split
   ·exact .dead fun _ _=>rfl
   ·refine jc.bnd (Q:=Any) (jI _ _ _ trivial fun f _ a _=>?_) fun _ _=>by (try dsimp only);split<;>exact .aN trivial
    split
    ·refine (gZ f.type hx.agg _).bnd fun u hu=>?_
     refine (gZ f.type hy.agg _).bnd fun v hv=>?_
     refine (lu n f.type u v hu hv).bnd fun b _=>?_
     split
     ·exact .aN (.inl ⟨_,rfl,trivial⟩)
     ·exact .aN (.inr ⟨_,rfl,trivial⟩)
    ·exact .aN (.inr ⟨_,rfl,trivial⟩)
  case h_21=>
   rename_i len e xs ys _
   refine (nV e).bnd fun s _=>?_
   refine jc.bnd (Q:=Any) (jJ _ _ _ trivial fun f a _=>?_) fun _ _=>by (try dsimp only);split<;>exact .aN trivial
   refine (gZ e hx.agg _).bnd fun u hu=>?_
   refine (gZ e hy.agg _).bnd fun v hv=>?_
   refine (lu n e u v hu hv).bnd fun b _=>?_
   split
   ·exact .aN (.inl ⟨_,rfl,trivial⟩)
   ·exact .aN (.inr ⟨_,rfl,trivial⟩)
  all_goals first
   |exact .aN trivial
   |exact .stuck
   |exact .J8
   |(split;exact .aN trivial;exact .stuck)
theorem Bh(t:TypeId){x y:Value}(hx:Plain x)(hy:Plain y):jc P Any (Op.equal t x y):=lu _ _ _ _ hx hy
theorem jy:∀(n:Nat) (t:TypeId) (x y:Value),Plain x→Plain y→jc P Any (Op.eqGuardIn n t x y)
 |0,t,x,y,_,_=>.J8
 |n+1,t,x,y,hx,hy=>by
  unfold Op.eqGuardIn
  refine (kH t).bnd fun d _=>?_
  split
  ·exact .aN trivial
  ·rename_i fields xs ys _
   refine jc.bnd (Q:=Any) (jI _ _ _ trivial fun f _ a _=>?_) fun _ _=>by (try dsimp only);split<;>exact .aN trivial
   split
   ·refine (gZ f.type hx.agg _).bnd fun u hu=>?_
    refine (gZ f.type hy.agg _).bnd fun v hv=>?_
    refine (jy n f.type u v hu hv).bnd fun b _=>?_
    split
    ·exact .aN (.inl ⟨_,rfl,trivial⟩)
    ·exact .aN (.inr ⟨_,rfl,trivial⟩)
   ·exact .aN (.inr ⟨_,rfl,trivial⟩)
  ·rename_i len e xs ys _
   refine (nV e).bnd fun s _=>?_
   refine jc.bnd (Q:=Any) (jJ _ _ _ trivial fun f a _=>?_) fun _ _=>by (try dsimp only);split<;>exact .aN trivial
   refine (gZ e hx.agg _).bnd fun u hu=>?_
   refine (gZ e hy.agg _).bnd fun v hv=>?_
   refine (jy n e u v hu hv).bnd fun b _=>?_
   split
   ·exact .aN (.inl ⟨_,rfl,trivial⟩)
   ·exact .aN (.inr ⟨_,rfl,trivial⟩)
  ·exact .aN trivial
theorem uu{Q:α→Prop}{c:Prop}[Decidable c]{s t:Sem α}(hs:jc P Q s)(ht:jc P Q t):jc P Q (if c then s else t):=by split<;>assumption
theorem I9(op:BinOp)(t:TypeId)(x y:Operand){a b:Value}(ha:Plain a)(hb:Plain b):jc P Any (eqGuard op t x y a b):=by
 unfold eqGuard
 refine uu (.aN trivial) ?_
 split
 ·refine uu (.aN trivial) ?_
  refine (jy _ _ _ _ ha hb).bnd fun c _=>?_
  exact uu (.dead fun _ _=>rfl) (.aN trivial)
 ·refine .prog ?_
  refine jc.prog ?_
  refine uu (.aN trivial) ?_
  refine (jy _ _ _ _ ha hb).bnd fun c _=>?_
  exact uu (.dead fun _ _=>rfl) (.aN trivial)
 ·exact .aN trivial
theorem jZ(k:IntKind)(n:Int):Plain (.int k n):=.int k n
theorem nX(b:Bool):Plain (.bool b):=.bool b
theorem nY(s:ByteArray):Plain (.string s):=.string s
theorem uw(op:BinOp)(k:IntKind)(a b:Int):jc P Plain (Op.intArith op k a b):=by
 unfold Op.intArith;split<;>first|exact .aN (jZ _ _)|exact .stuck
theorem J9(op:BinOp)(k:IntKind)(a b:Int):jc P Plain (Op.intDiv op k a b):=by
 unfold Op.intDiv
 split
 ·exact .vz
 ·split<;>first|exact .aN (jZ _ _)|exact .stuck
theorem wU(op:BinOp)(k:IntKind)(a b:Int):jc P Plain (Op.intBits op k a b):=by
 unfold Op.intBits
 dsimp only
 split<;>first|exact .aN (jZ _ _)|exact .stuck
theorem yP(op:BinOp)(a b:Int):jc P Plain (Op.intCmp op a b):=by
 unfold Op.intCmp;split<;>first|exact .aN (nX _)|exact .stuck
theorem Pv(op:BinOp)(k:IntKind)(a:Int)(j:IntKind)(b:Int):jc P Plain (Op.shift op k a j b):=by
 unfold Op.shift
 split
 ·exact .vz
 ·dsimp only
  split<;>first|exact .aN (jZ _ _)|exact .stuck
theorem nZ(op:BinOp)(a b:ByteArray):jc P Plain (Op.stringOp op a b):=by
 unfold Op.stringOp
 dsimp only
 split
 ·split
  ·exact .J8
  ·exact .aN (nY _)
 all_goals first|exact .aN (nX _)|exact .stuck
def A8(op:BinOp)(x y:Value):Bool:=
 match x,y with
 | .int _ _,.int _ _=>true
 | .string _,.string _=>true
 |x,y=>(op matches .eql | .neq) && fD 9 x && fD 9 y
theorem Px(op:BinOp)(t:TypeId){x y:Value}(h:A8 op x y=true)(hx:Plain x)(hy:Plain y):jc P Plain (binOp op t x y):=by
 unfold A8 at h
 split at h
 ·rename_i k a j b
  cases op<;>(unfold Go.binOp;dsimp only)<;>first
   |exact Pv _ _ _ _ _
   |(split;exact .stuck;first|exact uw _ _ _ _|exact J9 _ _ _ _|exact wU _ _ _ _|exact yP _ _ _)
 ·rename_i a b
  cases op<;>(unfold Go.binOp;dsimp only)<;>exact nZ _ _ _
 ·simp only [Bool.and_eq_true] at h
  obtain ⟨⟨h1,_⟩,_⟩:=h
  have he:=Bh (P:=P) t hx hy
  have hq:jc P Plain (do pure (.bool (←Op.equal t x y)):Sem Value):=he.bnd fun b _=>.aN (nX b)
  have hn:jc P Plain (do pure (.bool (!(←Op.equal t x y))):Sem Value):=he.bnd fun b _=>.aN (nX _)
  cases op<;>first|(simp at h1;done)|skip
  all_goals
   unfold Go.binOp
   split<;>first
    |exact hq
    |exact hn
    |contradiction
    |(cases hx;done)
    |(have e:=hx.ptr;cases e;done)
    |(have e:=hy.ptr;cases e;done)
    |exact .J8
    |exact .stuck
    |exact nZ _ _ _
    |(split;exact .stuck;exact yP _ _ _)
end
end Go.Am
namespace Go.Am
open Go.Ren (grow fM aO az)
section
variable{P:Program}{ρ σ:Env}{α β γ δ:Type}
theorem uy[aI P](t:TypeId):SR P (fun _ a b=>a=b∧∀τ:Env,VR τ a a) ρ (zeroValue t) (zeroValue t):=by
 unfold zeroValue
 refine (gq t).bnd fun σ _ a b h=>?_
 obtain ⟨rfl,hi⟩:=h
 split
 ·rename_i v hv;exact .aN ⟨rfl,aI.zero t a v hi hv⟩
 ·exact .J8
theorem yQ(t:TypeId):SR P (fun _ a b=>a=b∧∃i,P.info? t=some i∧a=i.size) ρ (sizeOf t) (sizeOf t):=by
 unfold sizeOf
 refine (gq t).bnd fun σ _ a b h=>?_
 obtain ⟨rfl,hi⟩:=h
 exact .aN ⟨rfl,a,hi,rfl⟩
theorem SR.dry{Q:α→Prop}{s:Sem α}(h:jc P Q s):SR P Same ρ s s:=(h ρ).imp fun _ _ _ _ e=>e.1
theorem AR.get{R:α→β→Prop}{a:Array α}{b:Array β}(h:AR R a b)(i:Nat):eF R a[i]? b[i]? :=by
 cases ha:a[i]? with
 |none=>
  have:b[i]? = none:=by simp only [Array.getElem?_eq_none_iff] at ha ⊢;rw [←h.1];exact ha
  rw [this];exact .none
 |some x=>
  obtain ⟨hi,_⟩:=Array.getElem?_eq_some_iff.1 ha
  have hb:b[i]? = some (b[i]'(h.1 ▸ hi)):=by simp
  rw [hb];exact .some (h.2 i _ _ ha hb)
theorem AR.extract{R:α→β→Prop}{a:Array α}{b:Array β}(h:AR R a b)(i j:Nat):AR R (a.extract i j) (b.extract i j):=by
 refine ⟨by simp [h.1],fun k x y hx hy=>?_⟩
 rw [Array.getElem?_extract] at hx hy
 split at hx
 ·split at hy
  ·exact h.2 _ _ _ hx hy
  ·cases hy
 ·cases hx
theorem AR.set{R:α→β→Prop}{a:Array α}{b:Array β}(h:AR R a b)(i:Nat){x:α}{y:β}(hxy:R x y):AR R (a.setIfInBounds i x) (b.setIfInBounds i y):=by
 refine ⟨by simp [h.1],fun k u v hu hv=>?_⟩
 rw [Array.getElem?_setIfInBounds] at hu hv
 split at hu
 ·rename_i e
  subst e
  rw [if_pos rfl] at hv
  split at hu
  ·split at hv
   ·cases hu;cases hv;exact hxy
   ·cases hv
  ·cases hu
 ·rename_i e
  rw [if_neg e] at hv
  exact h.2 k u v hu hv
theorem AR.append{R:α→β→Prop}{a c:Array α}{b d:Array β}(h:AR R a b)(k:AR R c d):AR R (a ++ c) (b ++ d):=by
 refine ⟨by simp [h.1,k.1],fun i u v hu hv=>?_⟩
 rw [Array.getElem?_append] at hu hv
 by_cases e:i < a.size
 ·rw [if_pos e] at hu;rw [if_pos (h.1 ▸ e)] at hv;exact h.2 i u v hu hv
 ·rw [if_neg e] at hu;rw [if_neg (h.1 ▸ e)] at hv;rw [←h.1] at hv;exact k.2 _ u v hu hv
theorem AR.refl{R:α→α→Prop}{a:Array α}(h:∀x∈a,R x x):AR R a a:=⟨rfl,fun i x y hx hy=>by rw [hx] at hy;cases hy;exact h x (Array.mem_of_getElem? hx)⟩
theorem Ko{c c':Array Value}(h:AR (VR ρ) c c'):VR ρ (.agg c) (.agg c'):=.agg h.1 h.2
theorem kK{c c':Array Value}(h:AR (VR ρ) c c'):VR ρ (.tuple c) (.tuple c'):=.tuple h.1 h.2
theorem lZ{a a' b b':Value}(h:VR ρ a a')(k:VR ρ b b'):VR ρ (.tuple #[a,b]) (.tuple #[a',b']):=kK (((AR.empty.push h).push k))
theorem Bi{a a' b b' c c':Value}(h:VR ρ a a')(k:VR ρ b b')(l:VR ρ c c'):VR ρ (.tuple #[a,b,c]) (.tuple #[a',b',c']):=kK ((((AR.empty.push h).push k).push l))
theorem gV:VR ρ (.tuple #[]) (.tuple #[]):=kK .empty
theorem Dh(t:TypeId){c c':Array Value}(h:AR (VR ρ) c c')(off:Nat):SR P VR ρ (part t c off) (part t c' off):=by
 unfold part
 refine (yO t).bF fun σ hσ b=>?_
 cases b with
 |true=>exact (dL t).bF fun τ iO n=>.aN (Ko ((h.mono fun _ _ x=>x.mono (hσ.trans iO)).extract _ _))
 |false=>
  show SR P VR σ (match c[off]? with|some v=>Pure.pure v|none=>Go.stuck _) (match c'[off]? with|some v=>Pure.pure v|none=>Go.stuck _)
  have:=h.get off
  revert this
  generalize c[off]? = x
  generalize c'[off]? = y
  intro this
  cases this with
  |none=>exact .stuck
  |some h=>exact .aN (h.mono hσ)
theorem Bj(t:TypeId){v v':Value}(hv:VR ρ v v'):SR P (fun σ a a'=>σ.born a.block∧a' = σ.addr a) ρ (newVar t v) (newVar t v'):=by
 unfold newVar
 exact (vF t t (kG hv)).imp fun _ _ _ _ h=>⟨h.1,h.2.2.2⟩
theorem aaw(t:TypeId){v v':Value}(hv:VR ρ v v'):SR P VR ρ (Instr.box t v) (Instr.box t v'):=by
 unfold Instr.box
 refine (Bj t hv).bnd fun σ _ a a' h=>?_
 obtain ⟨h1,rfl⟩:=h
 exact .aN (.ptr h1)
theorem SB[aI P](t:TypeId):SR P VR ρ (Instr.alloc t true (.tuple #[])) (Instr.alloc t true (.tuple #[])):=by
 unfold Instr.alloc
 refine (Dc t).bnd fun σ _ z z' hz=>?_
 exact (Bj t hz).bnd fun σ _ a a' h=>by obtain ⟨h1,rfl⟩:=h;exact .aN (.ptr h1)
theorem Kq{l l':List (Value×Nat)}(h:LR (fun a b=>VR ρ a.1 b.1∧b.2=a.2) l l')(off:Nat):∀ {c c':Array Value},AR (VR ρ) c c' → AR (VR ρ) (l.foldl (fun cs (x:Value×Nat)=>cs.setIfInBounds (off+x.2) x.1) c) (l'.foldl (fun cs (x:Value×Nat)=>cs.setIfInBounds (off+x.2) x.1) c'):=by
 induction h with
 |nil=>intro c c' h;exact h
 |cons h _ ih=>
  intro c c' hc
  simp only [List.foldl_cons]
  rw [h.2]
  exact ih (hc.set _ h.1)
theorem aax{R:α→β→Prop}{l:List α}{m:List β}(h:LR R l m):∀(k:Nat),LR (fun (a:α×Nat) (b:β×Nat)=>R a.1 b.1∧b.2=a.2) (l.zipIdx k) (m.zipIdx k):=by
 induction h with
 |nil=>intro k;exact .nil
 |cons h _ ih=>intro k;exact .cons ⟨h,rfl⟩ (ih (k+1))
theorem xC(place:Nat→Option (Nat×Nat)){ps ps':List (Nat×Value)}(h:LR (fun a b=>b.1=a.1∧VR ρ a.2 b.2) ps ps'):∀ {c c':Array Value},AR (VR ρ) c c' → eF (AR (VR ρ)) (Instr.fill place c ps) (Instr.fill place c' ps'):=by
 induction h with
 |nil=>intro c c' hc;exact .some hc
 | @cons x y l m hxy _ ih=>
  intro c c' hc
  obtain ⟨i,v⟩:=x
  obtain ⟨j,v'⟩:=y
  obtain ⟨rfl,hv⟩:=hxy
  have hcs:=kG hv
  unfold Instr.fill
  cases place j with
  |none=>exact .none
  |some p=>
   obtain ⟨off,size⟩:=p
   dsimp only
   rw [←hcs.1,←hc.1]
   split
   ·exact .none
   ·refine ih ?_
    have:=Kq (aax hcs.list 0) off hc
    rw [←Array.foldl_toList,←Array.foldl_toList,Array.toList_zipIdx,Array.toList_zipIdx]
    exact this
theorem LR.Py{l:List α}{f:α→Sem β}(h:∀x∈l,∀ρ:Env,SR P Same ρ (f x) (f x)):∀ {ρ:Env},SR P Same ρ (l.mapM f) (l.mapM f):=by
 induction l with
 |nil=>intro ρ;exact .aN rfl
 |cons x l ih=>
  intro ρ
  rw [List.mapM_cons]
  refine (h x (by simp) ρ).bF fun σ _ a=>?_
  refine (ih fun y hy=>h y (by simp [hy])).bF fun τ _ b=>?_
  exact .aN rfl
theorem SC[aI P](t:TypeId){ps ps':Array (Nat×Value)}(h:LR (fun a b=>b.1=a.1∧VR ρ a.2 b.2) ps.toList ps'.toList):SR P VR ρ (Instr.build t ps) (Instr.build t ps'):=by
 unfold Instr.build
 refine (uy t).bnd fun σ hσ z z' hz=>?_
 obtain ⟨rfl,hz⟩:=hz
 have hzc:∀τ:Env,AR (VR τ) z.cells z.cells:=fun τ=>kG (hz τ)
 dsimp only
 refine (aj t).bF fun τ iO d=>?_
 split
 ·rename_i fields
  refine SR.bF (s:=fields.mapM _) (s' :=fields.mapM _) ?_ fun υ nC places=>?_
  ·rw [Array.mapM_eq_mapM_toList]
   refine SR.bF (LR.Py fun x _ ρ=>(dL _).bF fun _ _ _=>.aN rfl) fun _ _ _=>.aN rfl
  ·have:=xC (places[·]?) (h.mono fun _ _ x=>⟨x.1,x.2.mono ((hσ.trans iO).trans nC)⟩) (hzc υ)
   revert this
   generalize Instr.fill _ _ ps.toList=a
   generalize Instr.fill _ _ ps'.toList=b
   intro this
   cases this with
   |none=>exact .stuck
   |some h=>exact .aN (Ko h)
 ·rename_i elem
  refine (dL elem).bF fun υ nC size=>?_
  have:=xC (fun i=>some (i * size,size)) (h.mono fun _ _ x=>⟨x.1,x.2.mono ((hσ.trans iO).trans nC)⟩) (hzc υ)
  revert this
  generalize Instr.fill _ _ ps.toList=a
  generalize Instr.fill _ _ ps'.toList=b
  intro this
  cases this with
  |none=>exact .stuck
  |some h=>exact .aN (Ko h)
 ·exact .stuck
theorem MB(f:Nat→Value):AR (VR ρ) ((Array.range 0).map f) ((Array.range 0).map f):=.refl fun x hx=>by
 obtain ⟨i,hi,_⟩:=Array.mem_map.1 hx
 rw [Array.mem_range] at hi
 exact absurd hi (Nat.not_lt_zero _)
theorem Kr:VR ρ (default:Value) default:=VR.bool _
theorem pG{z:Value}(hz:∀τ:Env,VR τ z z)(n:Nat)(f:Nat→Nat):AR (VR ρ) ((Array.range n).map fun i=>z.cells[f i]!) ((Array.range n).map fun i=>z.cells[f i]!):=by
 refine .refl fun x hx=>?_
 obtain ⟨i,_,rfl⟩:=Array.mem_map.1 hx
 have h:=kG (hz ρ)
 rw [getElem!_def]
 have:=h.get (f i)
 revert this
 cases h':z.cells[f i]? with
 |none=>intro _;exact Kr
 |some x=>intro h;cases h with|some h=>exact h
theorem zZ[aI P](t:TypeId)(len:Nat){ps ps':Array (Nat×Value)}(h:LR (fun a b=>b.1=a.1∧VR ρ a.2 b.2) ps.toList ps'.toList):SR P VR ρ (Instr.buildSlice t len ps) (Instr.buildSlice t len ps'):=by
 unfold Instr.buildSlice
 refine (aj t).bF fun σ hσ d=>?_
 split
 ·rename_i elem
  refine (dL elem).bF fun τ iO size=>?_
  dsimp only
  split
  ·exact .dead fun _ _=>rfl
  ·have key:∀(υ:Env) (zero:Array Value),τ.Le υ→AR (VR υ) ((Array.range (len * size)).map fun x=>zero[x % zero.size]!) ((Array.range (len * size)).map fun x=>zero[x % zero.size]!) →
     SR P VR υ (match Instr.fill (fun i=>some (i * size,size)) ((Array.range (len * size)).map fun x=>zero[x % zero.size]!) ps.toList with
      |some cells=>(do pure (.slice (some (←newRow elem cells)) len len):Sem Value)|_=>Go.stuck "buildSlice: a part of the wrong size")
     (match Instr.fill (fun i=>some (i * size,size)) ((Array.range (len * size)).map fun x=>zero[x % zero.size]!) ps'.toList with
      |some cells=>(do pure (.slice (some (←newRow elem cells)) len len):Sem Value)|_=>Go.stuck "buildSlice: a part of the wrong size"):=by
    intro υ zero nC hz
    have:=xC (fun i=>some (i * size,size)) (h.mono fun _ _ x=>⟨x.1,x.2.mono ((hσ.trans iO).trans nC)⟩) hz
    revert this
    generalize Instr.fill _ _ ps.toList=a
    generalize Instr.fill _ _ ps'.toList=b
    intro this
    cases this with
    |none=>exact .stuck
    |some h=>
     refine (vF elem elem h).bnd fun ω _ a a' h=>?_
     obtain ⟨h1,h2,_,rfl⟩:=h
     exact .aN (.slice h1 (.inl rfl))
   split
   ·rename_i h0
    refine SR.bF (SR.aN (R:=Same) rfl) fun υ nC zero=>?_
    refine key υ zero nC ?_
    rw [h0]
    exact MB _
   ·refine (uy elem).bnd fun υ nC z z' hz=>?_
    obtain ⟨rfl,hz⟩:=hz
    refine SR.bnd (R:=fun _ a b=>a=b∧a=z.cells) (SR.aN ⟨rfl,rfl⟩) fun ω zS zero zero' hz'=>?_
    obtain ⟨rfl,rfl⟩:=hz'
    exact key ω _ (nC.trans zS) (pG hz _ _)
 ·exact .stuck
end
end Go.Am
namespace Go.Am
open Go.Ren (grow fM aO az)
section
variable{P:Program}{ρ σ:Env}{α β γ δ:Type}
theorem Kt{k:IntKind}{n:Int}{v:Value}(h:VR ρ (.int k n) v):v = .int k n:=by cases h;rfl
theorem og{v v':Value}(h:VR ρ v v'):SR P (fun _ a b=>a=b∧v = .int a.1 a.2∧v' = .int a.1 a.2) ρ (asIntOf v) (asIntOf v'):=by
 cases h<;>first|exact .aN ⟨rfl,rfl,rfl⟩|exact .stuck|exact .J8
theorem uz{v v':Value}(h:VR ρ v v'):SR P Same ρ (asInt v) (asInt v'):=by
 unfold asInt
 exact (og h).bnd fun σ _ a b e=>by obtain ⟨rfl,_⟩:=e;exact .aN rfl
theorem Bl{v v':Value}(h:VR ρ v v'):SR P Same ρ (asBool v) (asBool v'):=by
 cases h<;>first|exact .aN rfl|exact .stuck
theorem SE{v v':Value}(h:VR ρ v v'):SR P (fun σ=>AR (VR σ)) ρ (asAgg v) (asAgg v'):=by
 cases h<;>first|exact .aN ⟨‹_›,‹_›⟩|exact .stuck
theorem jD{v v':Value}(h:VR ρ v v'):SR P (fun σ a a'=>σ.born a.block∧a' = σ.addr a) ρ (Instr.sureAddr v) (Instr.sureAddr v'):=by
 cases h<;>first|exact .aN ⟨‹_›,rfl⟩|exact .stuck
theorem vG{v v':Value}(h:VR ρ v v'):SR P (fun σ a a'=>σ.born a.block∧a' = σ.addr a) ρ (asAddr v) (asAddr v'):=by
 cases h<;>first|exact .aN ⟨‹_›,rfl⟩|exact .stuck|exact (show SR P _ ρ (runtimePanic .nilDeref) (runtimePanic .nilDeref) from .vz)
theorem Pz(t:TypeId){v v':Value}(h:VR ρ v v'):SR P VR ρ (Instr.loadAt t v) (Instr.loadAt t v'):=by
 unfold Instr.loadAt
 exact (jD h).bnd fun σ _ a a' e=>by obtain ⟨h1,rfl⟩:=e;exact nT t h1
theorem Ku(t:TypeId){v v' x x':Value}(h:VR ρ v v')(hx:VR ρ x x'):SR P Same ρ (Instr.storeAt t v x) (Instr.storeAt t v' x'):=by
 unfold Instr.storeAt
 exact (jD h).bnd fun σ hσ a a' e=>by obtain ⟨h1,rfl⟩:=e;exact I8 t h1 (hx.mono hσ)
def tZ(P:Program)(s:TypeId)(field:Nat):Bool:=
 match P.underlying s with
 |some (.struct fields)=>match fields[field]? with
  |some f=>match P.info? f.type with
   |some i=>i.size != 0
   |none=>true
  |none=>true
 |_=>true
theorem gu(t:TypeId):SR P (fun _ a b=>a=b∧P.underlying t=some a) ρ (underlying t) (underlying t):=by
 unfold underlying
 refine .prog ?_
 split
 ·rename_i d hd;exact .aN ⟨rfl,hd⟩
 ·exact .stuck
theorem Kv(s:TypeId){v v':Value}(field:Nat)(hf:tZ P s field=true)(h:VR ρ v v'):SR P VR ρ (Instr.fieldAt s v field) (Instr.fieldAt s v' field):=by
 unfold Instr.fieldAt
 refine (gu s).bnd fun σ hσ d d' e=>?_
 obtain ⟨rfl,hd⟩:=e
 split
 ·rename_i fields
  split
  ·rename_i f hfi
   refine (jD (h.mono hσ)).bnd fun τ iO a a' e=>?_
   obtain ⟨h1,rfl⟩:=e
   refine SR.bnd (R:=fun υ a a'=>υ.born a.block∧a' = υ.addr a) ?_ fun υ nC x x' e=>by obtain ⟨h2,rfl⟩:=e;exact .aN (.ptr h2)
   unfold fieldPlace
   refine (yQ f.type).bnd fun υ nC n n' e=>?_
   obtain ⟨rfl,i,hi,rfl⟩:=e
   have:i.size≠0:=by
    unfold tZ at hf
    rw [hd] at hf
    dsimp only at hf
    rw [hfi] at hf
    dsimp only at hf
    rw [hi] at hf
    simpa using hf
   rw [if_neg this,if_neg this]
   exact .aN ⟨by rw [block_add];exact nC.born _ h1,by rw [addr_add,nC.addr h1]⟩
  ·exact .stuck
 ·exact .stuck
theorem SG(t:TypeId){v v':Value}(field:Nat)(h:VR ρ v v'):SR P VR ρ (Instr.field t v field) (Instr.field t v' field):=by
 unfold Instr.field
 refine (aj t).bF fun σ hσ d=>?_
 split
 ·split
  ·exact (SE (h.mono hσ)).bnd fun τ iO a b e=>Dh _ e _
  ·exact .stuck
 ·exact .stuck
theorem SH(t:TypeId){v v' x x':Value}(h:VR ρ v v')(hx:VR ρ x x'):SR P VR ρ (Instr.index t v x) (Instr.index t v' x'):=by
 unfold Instr.index
 refine (og hx).bnd fun σ hσ a b e=>?_
 obtain ⟨rfl,_⟩:=e
 obtain ⟨k,i⟩:=a
 refine (aj t).bF fun τ iO d=>?_
 cases h.mono (hσ.trans iO) with
 |agg hs hh=>
  cases d<;>first|exact .stuck|skip
  dsimp only
  split
  ·exact (dL _).bF fun υ nC n=>Dh _ (AR.mono (R:=VR τ) (fun _ _ x=>x.mono nC) ⟨hs,hh⟩) _
  ·exact .yN
 |string s=>
  cases d<;>first|exact .stuck|skip
  dsimp only
  generalize (if 0≤i then s[i.toNat]? else none)=x
  cases x with
  |none=>exact .yN
  |some b=>exact .aN (.int _ _)
 |_=>cases d<;>exact .stuck
def Di(t:TypeId)(k:IntKind)(i:Int)(x:Option Addr×Nat×TypeId):Sem Value:=do
 let d ←underlying t
 match x.1 with
 |some a=>
  if 0≤i∧i < (x.2.1:Int) then do
   let n ←sizeOf x.2.2
   pure (Value.pointer (some (a.add (i.toNat * n))))
  else if (decide (x.2.1≤1) && match d with|TypeDesc.array len elem=>true|x=>false)=true then unsupported (Unsupported.noEntry "op/indexAddr.an index out of range at an array of length 0 or 1 (ledger 616)")
  else boundsPanic k i (x.2.1:Int) BoundsCode.index
 |none=>boundsPanic k i 0 BoundsCode.index
theorem sH(t:TypeId)(k:IntKind)(i:Int)(len:Nat)(elem:TypeId){b b':Option Addr}(e2:eF (fun a a'=>ρ.born a.block∧a' = ρ.addr a) b b'):SR P VR ρ (Di t k i (b,len,elem)) (Di t k i (b',len,elem)):=by
 unfold Di
 refine (aj t).bF fun ω zS d=>?_
 dsimp only
 cases e2 with
 |none=>exact .yN
 |some e2=>
  obtain ⟨h1,rfl⟩:=e2
  dsimp only
  split
  ·refine (dL elem).bF fun ψ hψ n=>.aN ?_
   rw [←(zS.trans hψ).addr h1,←addr_add]
   exact .ptr (by rw [block_add];exact (zS.trans hψ).born _ h1)
  ·split<;>(split<;>first|exact .J8|exact .yN)
theorem Kw(t:TypeId){v v' x x':Value}(h:VR ρ v v')(hx:VR ρ x x'):SR P VR ρ (Instr.indexAt t v x) (Instr.indexAt t v' x'):=by
 unfold Instr.indexAt
 refine (og hx).bnd fun σ hσ a b e=>?_
 obtain ⟨rfl,_⟩:=e
 obtain ⟨k,i⟩:=a
 dsimp only
 refine (aj t).bF fun τ iO d=>?_
 have h' :=h.mono (hσ.trans iO)
 cases d with
 |array len elem=>
  refine (jD h').bnd fun υ _ a a' e=>?_
  exact sH t k i len elem (.some e)
 |slice elem=>
  cases h'<;>first|exact .dead fun _ _=>rfl|skip
  ·rename_i n c;exact sH t k i n elem .none
  ·rename_i a n c c' hb hc;exact sH t k i n elem (.some ⟨hb,rfl⟩)
 |_=>cases h'<;>exact .dead fun _ _=>rfl
theorem Ky{v v':Value}(i:Nat)(h:VR ρ v v'):SR P VR ρ (Instr.extract v i) (Instr.extract v' i):=by
 unfold Instr.extract
 cases h<;>first|exact .stuck|skip
 rename_i a a' hs h
 have:=AR.get (R:=VR ρ) ⟨hs,h⟩ i
 dsimp only
 revert this
 generalize a[i]? = x
 generalize a'[i]? = y
 intro this
 cases this with
 |none=>exact .stuck
 |some h=>exact .aN h
theorem pI{f f':Fn}{a a' b b':Array Value}(hf:OY ρ f f')(ha:AR (VR ρ) a a')(hb:AR (VR ρ) b b'):SR P VR ρ (Instr.makeFunc f a b) (Instr.makeFunc f' a' b'):=.aN (.func hf ha.1 ha.2 hb.1 hb.2)
theorem vH(t:TypeId){v v':Value}(h:VR ρ v v'):SR P VR ρ (Instr.makeInterface t v) (Instr.makeInterface t v'):=by
 unfold Instr.makeInterface
 refine (aj t).bF fun σ hσ d=>?_
 split
 ·exact .stuck
 ·exact .aN (.iface (h.mono hσ))
theorem Kz(t:TypeId){r r':Option Value}(h:eF (VR ρ) r r'):SR P VR ρ (Instr.makeMap t r) (Instr.makeMap t r'):=by
 unfold Instr.makeMap
 have fin:∀σ:Env,SR P VR σ (do pure (.map (some (←newObj (.map #[] 0)))):Sem Value) (do pure (.map (some (←newObj (.map #[] 0)))):Sem Value):=fun σ=>
  SR.bnd (R:=fun τ r r'=>τ.ob r r') (.new (.obj (.map .empty)) fun τ _ r r' hr=>.pure hr) fun τ _ r r' hr=>.aN (.map hr)
 cases h with
 |none=>exact fin ρ
 |some h=>
  dsimp only
  refine (aj t).bF fun σ hσ d=>?_
  split
  ·exact (uz (h.mono hσ)).bF fun τ _ _=>fin τ
  ·exact .dead fun _ _=>rfl
theorem Dj[aI P](t:TypeId){l l' c c':Value}(hl:VR ρ l l')(hc:VR ρ c c'):SR P VR ρ (Instr.makeSlice t l c) (Instr.makeSlice t l' c'):=by
 unfold Instr.makeSlice
 refine (aj t).bF fun σ hσ d=>?_
 split
 ·rename_i elem
  refine (uz (hl.mono hσ)).bF fun τ iO len=>?_
  refine (uz (hc.mono (hσ.trans iO))).bF fun υ nC cap=>?_
  refine (gq elem).bnd fun ω zS i i' e=>?_
  obtain ⟨rfl,_⟩:=e
  dsimp only
  split
  ·refine .dead ?_
   split
   ·exact jY _ (bI _)
   ·split
    ·exact jY _ (bI _)
    ·exact qR _ _ fun _=>jY _ (bI _)
  ·unfold askRoom
   split
   ·exact .mark
   ·refine SR.bF (SR.aN (R:=Same) rfl) fun ψ hψ _=>?_
    refine (dL elem).bF fun χ hχ n=>?_
    have key:∀(χ:Env) (zero:Array Value),AR (VR χ) ((Array.range ((IntKind.i64.wrap cap).toNat * n)).map fun x=>zero[x % zero.size]!) ((Array.range ((IntKind.i64.wrap cap).toNat * n)).map fun x=>zero[x % zero.size]!) →
      SR P VR χ (do pure (.slice (some (←newRow elem ((Array.range ((IntKind.i64.wrap cap).toNat * n)).map fun x=>zero[x % zero.size]!))) (IntKind.i64.wrap len).toNat (IntKind.i64.wrap cap).toNat):Sem Value) (do pure (.slice (some (←newRow elem ((Array.range ((IntKind.i64.wrap cap).toNat * n)).map fun x=>zero[x % zero.size]!))) (IntKind.i64.wrap len).toNat (IntKind.i64.wrap cap).toNat):Sem Value):=by
     intro χ zero hz
     refine (vF elem elem hz).bnd fun ξ _ a a' h=>?_
     obtain ⟨h1,h2,_,rfl⟩:=h
     exact .aN (.slice h1 (.inl rfl))
    split
    ·rename_i h0
     refine SR.bF (SR.aN (R:=Same) rfl) fun ξ hξ zero=>?_
     refine key ξ zero ?_
     rw [h0]
     exact MB _
    ·refine (uy elem).bnd fun ξ hξ z z' hz=>?_
     obtain ⟨rfl,hz⟩:=hz
     refine SR.bnd (R:=fun _ a b=>a=b∧a=z.cells) (SR.aN ⟨rfl,rfl⟩) fun ζ hζ zero zero' hz'=>?_
     obtain ⟨rfl,rfl⟩:=hz'
     exact key ζ _ (pG hz _ _)
 ·exact .stuck
end
end Go.Am
namespace Go.Am
open Go.Ren (grow fM aO az)
section
variable{P:Program}{ρ σ:Env}{α β γ δ:Type}
def Bo:Option Value→Nat
 |some (.int _ i)=>i.toNat
 |_=>0
theorem fG{x x':Value}(hx:VR ρ x x')(y y':Nat)(c:BoundsCode)(hy:y≤y'):SR P (fun _ a b=>a=b∧a≤y∧a=Bo (some x)) ρ (Instr.sliceBound x y c) (Instr.sliceBound x' y' c):=by
 unfold Instr.sliceBound
 refine (og hx).bnd fun σ hσ a b e=>?_
 obtain ⟨rfl,e1,_⟩:=e
 obtain ⟨k,i⟩:=a
 dsimp only at e1 ⊢
 split
 ·rename_i h1
  rw [if_pos (by omega)]
  exact .aN ⟨rfl,by omega,by rw [e1];rfl⟩
 ·exact .yN
def SlR(cap cap':Nat)(lo mx:Option Value)(a b:Nat×Nat×Nat):Prop:=
 a.1=b.1∧a.2.1=b.2.1∧a.1≤a.2.1∧a.2.1≤a.2.2∧a.1=Bo lo∧(mx≠none∧a.2.2=b.2.2∧a.2.2≤cap∨mx=none∧a.2.2=cap∧b.2.2=cap')
theorem iW{isSlice:Bool}{len cap cap':Nat}{lo lo' hi hi' mx mx':Option Value}(hlen:len≤cap)(hc:cap≤cap')(hlo:eF (VR ρ) lo lo')(hhi:eF (VR ρ) hi hi')(hmx:eF (VR ρ) mx mx') :
  SR P (fun _=>SlR cap cap' lo mx) ρ (Instr.sliceBounds isSlice len cap lo hi mx) (Instr.sliceBounds isSlice len cap' lo' hi' mx'):=by
 unfold Instr.sliceBounds
 dsimp only
 cases hmx with
 |none=>
  refine SR.bnd (R:=fun _ a b=>a=cap∧b=cap') (SR.aN ⟨rfl,rfl⟩) fun σ hσ m m' hm=>?_
  obtain ⟨rfl,rfl⟩:=hm
  cases hhi with
  |none=>
   refine SR.bnd (R:=fun _ a b=>a=len∧b=len) (SR.aN ⟨rfl,rfl⟩) fun τ iO a b e=>?_
   obtain ⟨rfl,rfl⟩:=e
   have lM:eF (VR τ) lo lo' :=by cases hlo with|none=>exact .none|some h=>exact .some (h.mono (hσ.trans iO))
   cases lM with
   |none=>exact SR.bnd (R:=fun _ a b=>a=0∧b=0) (SR.aN ⟨rfl,rfl⟩) fun υ _ l l' e=>by obtain ⟨rfl,rfl⟩:=e;exact .aN ⟨rfl,rfl,Nat.zero_le _,hlen,rfl,.inr ⟨rfl,rfl,rfl⟩⟩
   |some hx=>exact (fG hx _ _ _ (Nat.le_refl _)).bnd fun υ _ l l' e=>by obtain ⟨rfl,h1,h2⟩:=e;exact .aN ⟨rfl,rfl,h1,hlen,h2,.inr ⟨rfl,rfl,rfl⟩⟩
  |some hx=>
   refine (fG (hx.mono hσ) _ _ _ hc).bnd fun τ iO a b e=>?_
   obtain ⟨rfl,e1,_⟩:=e
   have lM:eF (VR τ) lo lo' :=by cases hlo with|none=>exact .none|some h=>exact .some (h.mono (hσ.trans iO))
   cases lM with
   |none=>exact SR.bnd (R:=fun _ a b=>a=0∧b=0) (SR.aN ⟨rfl,rfl⟩) fun υ _ l l' e=>by obtain ⟨rfl,rfl⟩:=e;exact .aN ⟨rfl,rfl,Nat.zero_le _,e1,rfl,.inr ⟨rfl,rfl,rfl⟩⟩
   |some hx=>exact (fG hx _ _ _ (Nat.le_refl _)).bnd fun υ _ l l' e=>by obtain ⟨rfl,h1,h2⟩:=e;exact .aN ⟨rfl,rfl,h1,e1,h2,.inr ⟨rfl,rfl,rfl⟩⟩
 |some hm=>
  refine (fG hm _ _ _ hc).bnd fun σ hσ m m' e=>?_
  obtain ⟨rfl,e1,_⟩:=e
  cases hhi with
  |none=>exact .dead fun _ _=>rfl
  |some hx=>
   refine (fG (hx.mono hσ) _ _ _ (Nat.le_refl _)).bnd fun τ iO a b e=>?_
   obtain ⟨rfl,e2,_⟩:=e
   have lM:eF (VR τ) lo lo' :=by cases hlo with|none=>exact .none|some h=>exact .some (h.mono (hσ.trans iO))
   cases lM with
   |none=>exact SR.bnd (R:=fun _ a b=>a=0∧b=0) (SR.aN ⟨rfl,rfl⟩) fun υ _ l l' e=>by obtain ⟨rfl,rfl⟩:=e;exact .aN ⟨rfl,rfl,Nat.zero_le _,e2,rfl,.inl ⟨by simp,rfl,e1⟩⟩
   |some hx=>exact (fG hx _ _ _ (Nat.le_refl _)).bnd fun υ _ l l' e=>by obtain ⟨rfl,h1,h2⟩:=e;exact .aN ⟨rfl,rfl,h1,e2,h2,.inl ⟨by simp,rfl,e1⟩⟩
theorem eF.mono{R S:α→β→Prop}(h:∀x y,R x y→S x y){a:Option α}{b:Option β}(k:eF R a b):eF S a b:=by cases k with|none=>exact .none|some x=>exact .some (h _ _ x)
def aay(P:Program)(ρ:Env)(t:TypeId)(x:Value)(lo mx:Option Value):Prop:=
 (∀arr,P.underlying t≠some (.pointer arr))∧(∀n c,x = .slice none n c→n≤c)∧∀a n c,x = .slice (some a) n c→n≤c∧(ρ.bD a.block→mx=none→(Bo lo < c∨Bo lo=0)∧∀elem,P.underlying t=some (.slice elem)→∀i,P.info? elem=some i→i.size=ρ.u a.block)
theorem U9(a:Addr)(n:Nat):(a.add n).off=a.off+n:=by
 unfold Addr.add
 by_cases h:n=0
 ·rw [if_pos h];omega
 ·rw [if_neg h]
theorem SI(t:TypeId){x x':Value}{lo lo' hi hi' mx mx':Option Value}(hx:VR ρ x x')(hlo:eF (VR ρ) lo lo')(hhi:eF (VR ρ) hi hi')(hmx:eF (VR ρ) mx mx')(hcut:aay P ρ t x lo mx) :
  SR P VR ρ (Instr.slice t x lo hi mx) (Instr.slice t x' lo' hi' mx'):=by
 unfold Instr.slice
 refine (gu t).bnd fun σ hσ d d' e=>?_
 obtain ⟨rfl,hd⟩:=e
 have lM :=hlo.mono fun _ _ (z:VR ρ _ _)=>z.mono hσ
 have SK :=hhi.mono fun _ _ (z:VR ρ _ _)=>z.mono hσ
 have SL :=hmx.mono fun _ _ (z:VR ρ _ _)=>z.mono hσ
 cases d with
 |string=>
  cases hx.mono hσ with
  |string s=>
   cases SL with
   |some _=>exact .dead fun _ _=>rfl
   |none=>
    refine (iW (Nat.le_refl _) (Nat.le_refl _) lM SK .none).bnd fun τ iO b b' e=>?_
    obtain ⟨e1,e2,_⟩:=e
    obtain ⟨l,h,m⟩:=b
    obtain ⟨l',h',m'⟩:=b'
    dsimp only at e1 e2 ⊢
    subst e1 e2
    exact .aN (.string _)
  |_=>exact .stuck
 |slice elem=>
  cases hx with
  |nilslice n c=>
   dsimp only
   have hnc:=hcut.2.1 n c rfl
   refine (iW hnc (Nat.le_refl _) lM SK SL).bnd fun τ iO b b' e=>?_
   obtain ⟨e1,e2,_,_,_,e5⟩:=e
   obtain ⟨l,h,m⟩:=b
   obtain ⟨l',h',m'⟩:=b'
   dsimp only at e1 e2 e5 ⊢
   have e3:m=m' :=by rcases e5 with ⟨_,h,_⟩|⟨_,h,k⟩;exact h;omega
   subst e1 e2 e3
   refine (dL elem).bF fun υ nC s=>?_
   have:(if m=l then (none:Option Addr) else Option.map (fun a=>Addr.add a (l * s)) none)=none:=by split<;>rfl
   rw [this]
   exact .aN (.nilslice _ _)
  | @slice a n c c' hb hc=>
   dsimp only
   obtain ⟨hnc,hsl⟩:=hcut.2.2 a n c rfl
   have hcc:c≤c' :=by rcases hc with rfl|⟨_,h,_⟩;exact Nat.le_refl _;exact h
   refine (iW hnc hcc lM SK SL).bnd fun τ iO b b' e=>?_
   obtain ⟨e1,e2,e3,e4,e5,e6⟩:=e
   obtain ⟨l,h,m⟩:=b
   obtain ⟨l',h',m'⟩:=b'
   dsimp only at e1 e2 e3 e4 e5 e6 ⊢
   subst e1 e2
   refine (yQ elem).bnd fun υ nC s s' e=>?_
   obtain ⟨rfl,i,hi,rfl⟩:=e
   have hle:=(hσ.trans iO).trans nC
   have hb' :=hle.born _ hb
   have SN:m=m' → SR P VR υ (Pure.pure (.slice (if m=l then some a else (some a).map (fun a=>Addr.add a (l * i.size))) (h - l) (m - l))) (Pure.pure (.slice (if m' = l then some (ρ.addr a) else (some (ρ.addr a)).map (fun a=>Addr.add a (l * i.size))) (h - l) (m' - l))):=by
    intro em
    subst em
    refine .aN ?_
    by_cases hml:m=l
    ·rw [if_pos hml,if_pos hml,←hle.addr hb]
     exact .slice hb' (.inl rfl)
    ·rw [if_neg hml,if_neg hml,Option.map_some,Option.map_some,←addr_add,←hle.addr (by rw [block_add];exact hb)]
     exact .slice (by rw [block_add];exact hb') (.inl rfl)
   rcases e6 with ⟨h1,h2,h3⟩|⟨h1,h2,h3⟩
   ·exact SN h2
   ·rcases hc with hc|⟨hc,hc2,hc3⟩
    ·exact SN (by omega)
    ·obtain ⟨h4,h5⟩:=hsl hc h1
     have hu:=h5 elem hd i hi
     refine .aN ?_
     have hadd:(if m' = l then some (ρ.addr a) else (some (ρ.addr a)).map (fun a=>Addr.add a (l * i.size)))=some (υ.addr (a.add (l * i.size))):=by
      rw [hle.addr (by rw [block_add];exact hb),addr_add]
      by_cases hml:m' = l
      ·rw [if_pos hml]
       have:l=0:=by omega
       subst this
       rw [Nat.zero_mul]
       rfl
      ·rw [if_neg hml];rfl
     have hadd':(if m=l then some a else (some a).map (fun a=>Addr.add a (l * i.size)))=some (a.add (l * i.size)):=by
      by_cases hml:m=l
      ·rw [if_pos hml]
       have:l=0:=by omega
       subst this
       rw [Nat.zero_mul]
       rfl
      ·rw [if_neg hml];rfl
     rw [hadd,hadd']
     refine .slice (by rw [block_add];exact hb') (.inr ⟨by rw [block_add];exact (hle.bD _ hb).2 hc,by omega,?_⟩)
     rw [block_add,U9,hle.u _ hb,hle.ext _ hb,←hu]
     have hl:l≤c' :=by omega
     have:l * i.size+(m' - l) * i.size=m' * i.size:=by rw [←Nat.add_mul];congr 1;omega
     rw [←hu] at hc3
     rw [h3] at this ⊢
     omega
  |_=>exact .stuck
 |pointer arr=>
  exact absurd hd (hcut.1 arr)
 |_=>cases hx<;>exact .stuck
theorem KA(t:TypeId){x x':Value}{lo lo' hi hi' mx mx':Option Value}(hx:VR ρ x x')(hlo:eF (VR ρ) lo lo')(hhi:eF (VR ρ) hi hi')(hmx:eF (VR ρ) mx mx')(hcut:aay P ρ t x lo mx) :
  SR P VR ρ (Instr.sliceAt t x lo hi mx) (Instr.sliceAt t x' lo' hi' mx'):=by
 unfold Instr.sliceAt
 refine (aj t).bF fun σ hσ d=>?_
 split
 ·rename_i n elem
  refine (jD (hx.mono hσ)).bnd fun τ iO a a' e=>?_
  obtain ⟨hb,rfl⟩:=e
  have lM :=hlo.mono fun _ _ (z:VR ρ _ _)=>z.mono (hσ.trans iO)
  have SK :=hhi.mono fun _ _ (z:VR ρ _ _)=>z.mono (hσ.trans iO)
  have SL :=hmx.mono fun _ _ (z:VR ρ _ _)=>z.mono (hσ.trans iO)
  refine (iW (Nat.le_refl _) (Nat.le_refl _) lM SK SL).bnd fun υ nC b b' e=>?_
  obtain ⟨e1,e2,_,_,_,e5⟩:=e
  obtain ⟨l,h,m⟩:=b
  obtain ⟨l',h',m'⟩:=b'
  dsimp only at e1 e2 e5 ⊢
  have e3:m=m' :=by rcases e5 with ⟨_,h,_⟩|⟨_,h,k⟩;exact h;omega
  subst e1 e2 e3
  refine (dL elem).bF fun ω zS s=>?_
  have hb' :=zS.born _ (nC.born _ hb)
  have hle:=nC.trans zS
  refine .aN ?_
  by_cases hml:m=l
  ·rw [if_pos hml,if_pos hml,←hle.addr hb]
   exact .slice hb' (.inl rfl)
  ·rw [if_neg hml,if_neg hml,←addr_add,←hle.addr (by rw [block_add];exact hb)]
   exact .slice (by rw [block_add];exact hb') (.inl rfl)
 ·refine SI t (hx.mono hσ) (hlo.mono fun _ _ z=>z.mono hσ) (hhi.mono fun _ _ z=>z.mono hσ) (hmx.mono fun _ _ z=>z.mono hσ) ⟨hcut.1,hcut.2.1,fun a n c e=>?_⟩
  subst e
  obtain ⟨h1,h2⟩:=hcut.2.2 a n c rfl
  have hb:ρ.born a.block:=by cases hx;assumption
  refine ⟨h1,fun h=>?_⟩
  rw [hσ.u _ hb]
  exact h2 ((hσ.bD _ hb).1 h)
end
end Go.Am
namespace Go.Am
open Go.Ren (grow fM aO az)
section
variable{P:Program}{ρ σ:Env}{α β γ δ:Type}
abbrev FR(ρ:Env):Option (Nat×Value)→Option (Nat×Value)→Prop:=eF fun p q=>p.1=q.1∧VR ρ p.2 q.2
theorem KC(kind:TypeDesc)(k:Value){es es':List MapEntry}(h:LR (fA ρ) es es'):∀i,eF (FR ρ) (Instr.findNow kind k es i) (Instr.findNow kind k es' i):=by
 induction h with
 |nil=>intro i;exact .some .none
 | @cons e e' l m he _ ih=>
  intro i
  unfold Instr.findNow
  rw [he.key]
  split
  ·exact .some (.some ⟨rfl,he.val⟩)
  ·exact ih _
  ·exact .none
theorem Aa(t:TypeId){k:Value}(hk:Plain k){es es':List MapEntry}:∀ {ρ:Env} (i:Nat),LR (fA ρ) es es' → SR P (fun σ=>FR σ) ρ (Instr.findAsking t k es i) (Instr.findAsking t k es' i):=by
 induction es generalizing es' with
 |nil=>intro ρ i h;cases h;exact .aN .none
 |cons e l ih=>
  intro ρ i h
  cases h with
  |cons he hl=>
   unfold Instr.findAsking
   rw [he.key]
   refine (SR.dry (Bh t hk he.plain)).bF fun σ hσ b=>?_
   split
   ·exact .aN (.some ⟨rfl,he.val.mono hσ⟩)
   ·exact ih (i+1) (hl.mono fun _ _ x=>x.mono hσ)
theorem sJ(t:TypeId){k:Value}(hk:Plain k){es es':List MapEntry}(h:LR (fA ρ) es es'):SR P (fun σ=>FR σ) ρ (Instr.findKey t k es) (Instr.findKey t k es'):=by
 unfold Instr.findKey
 refine (aj t).bF fun σ hσ d=>?_
 have h' :=h.mono fun _ _ (x:fA ρ _ _)=>x.mono hσ
 have:=KC d k h' 0
 revert this
 generalize Instr.findNow d k es 0=a
 generalize Instr.findNow d k es' 0=b
 intro this
 cases this with
 |none=>exact Aa t hk 0 h'
 |some h=>exact .aN h
theorem iL{r r':Nat}(hr:ρ.ob r r'){R:Env→α→β→Prop}{f:Obj→Sem α}{f':Obj→Sem β}(hf:∀es es' k,AR (fA ρ) es es' → SR P R ρ (f (.map es k)) (f' (.map es' k)))(hd:∀o,(∀es k,o ≠ .map es k)→Dead P (f o)):SR P R ρ (getObj r >>= f) (getObj r' >>= f'):=by
 refine .getObj hr fun o o' ho=>?_
 cases ho with
 |map h=>exact hf _ _ _ h
 |_=>exact .dead (hd _ (fun es k e=>by cases e))
theorem pJ(b:Bool)(t:TypeId){k:Value}(hk:Plain k):SR P Same ρ (Instr.checkKey b 10000 t k) (Instr.checkKey b 10000 t k):=.dry (jR b 10000 t k hk)
theorem FR.fst{a b:Option (Nat×Value)}(h:FR ρ a b){γ:Type}(n:γ)(f:Nat→γ):(match a with|some (i,_)=>f i|none=>n)=(match b with|some (i,_)=>f i|none=>n):=by
 cases h with
 |none=>rfl
 | @some x y h=>obtain ⟨i,v⟩:=x;obtain ⟨j,u⟩:=y;obtain ⟨e,_⟩:=h;cases e;rfl
theorem PD[aI P](t:TypeId){m m' k k':Value}(c:Bool)(hm:VR ρ m m')(hk:VR ρ k k')(hp:Plain k):SR P VR ρ (Instr.lookup t m k c) (Instr.lookup t m' k' c):=by
 have:=hp.eq hk
 subst this
 unfold Instr.lookup
 refine (aj t).bF fun σ hσ d=>?_
 split
 ·rename_i key elem
  have tail:∀(τ:Env) (es es':Array MapEntry),AR (fA τ) es es' → SR P VR τ (do
    Instr.checkKey es.isEmpty 10000 key k'
    let (v,ok) ←match ←Instr.findKey key k' es.toList with
     |some (_,v)=>pure (v,true)
     |none=>pure (←zeroValue elem,false)
    pure (if c then .tuple #[v,.bool ok] else v):Sem Value) (do
    Instr.checkKey es'.isEmpty 10000 key k'
    let (v,ok) ←match ←Instr.findKey key k' es'.toList with
     |some (_,v)=>pure (v,true)
     |none=>pure (←zeroValue elem,false)
    pure (if c then .tuple #[v,.bool ok] else v):Sem Value):=by
   intro τ es es' h
   have he:es'.isEmpty=es.isEmpty:=by simp only [Array.isEmpty,h.1]
   rw [he]
   refine (pJ _ key hp).bF fun υ nC _=>?_
   refine (sJ key hp (h.mono fun _ _ x=>x.mono nC).list).bnd fun ω zS a b hab=>?_
   have fin:∀(ψ:Env) (v u:Value) (ok:Bool),VR ψ v u→SR P VR ψ (Pure.pure (if c then .tuple #[v,.bool ok] else v)) (Pure.pure (if c then .tuple #[u,.bool ok] else u)):=by
    intro ψ v u ok h
    refine .aN ?_
    split
    ·exact lZ h (.bool _)
    ·exact h
   cases hab with
   |none=>exact (Dc elem).bnd fun ψ _ v u h=>fin ψ v u false h
   | @some x y h=>obtain ⟨i,v⟩:=x;obtain ⟨j,u⟩:=y;exact fin ω v u true h.2
  cases hm.mono hσ with
  |cu=>exact tail σ #[] #[] .empty
  |map hr=>exact iL hr (fun es es' n h=>tail σ es es' h) fun o ho=>by cases o<;>first|exact absurd rfl (ho _ _)|exact fun _ _=>rfl
  |_=>exact .dead fun _ _=>rfl
 ·exact .stuck
theorem oG{a b:Value}(ha:Plain a)(hb:Plain b):SR P (fun _ x y=>x=y∧Plain x) ρ (Instr.keyThatStays a b) (Instr.keyThatStays a b):=by
 unfold Instr.keyThatStays
 split
 ·exact .aN ⟨rfl,hb⟩
 ·refine SR.bF (s:=choose _) (.choose fun n=>.pure rfl) fun σ _ n=>.aN ⟨rfl,?_⟩
  split<;>assumption
theorem SQ{es es':Array MapEntry}(h:AR (fA ρ) es es')(i:Nat)(k:Value)(hk:Plain k):((es'[i]?).map (·.key)).getD k=((es[i]?).map (·.key)).getD k∧Plain (((es[i]?).map (·.key)).getD k):=by
 have:=h.get i
 revert this
 generalize es[i]? = a
 generalize es'[i]? = b
 intro this
 cases this with
 |none=>exact ⟨rfl,hk⟩
 |some h=>exact ⟨h.key,h.plain⟩
theorem Va{es es':Array MapEntry}(h:AR (fA ρ) es es')(i:Nat):((es'[i]?).map fun x=>(x.born:Int)).getD 0=((es[i]?).map fun x=>(x.born:Int)).getD 0:=by
 have:=h.get i
 revert this
 generalize es[i]? = a
 generalize es'[i]? = b
 intro this
 cases this with
 |none=>rfl
 |some h=>simp only [Option.map_some,h.born]
theorem AR.modify{R:α→β→Prop}{a:Array α}{b:Array β}(h:AR R a b)(i:Nat){f:α→α}{g:β→β}(hf:∀x y,R x y→R (f x) (g y)):AR R (a.modify i f) (b.modify i g):=by
 refine ⟨by simp [h.1],fun j x y hx hy=>?_⟩
 rw [Array.getElem?_modify] at hx hy
 have:=h.get j
 revert this hx hy
 generalize a[j]? = u
 generalize b[j]? = v
 intro hx hy this
 cases this with
 |none=>split at hx<;>cases hx
 |some hr=>
  split at hx
  ·rename_i e;rw [if_pos e] at hy;cases hx;cases hy;exact hf _ _ hr
  ·rename_i e;rw [if_neg e] at hy;cases hx;cases hy;exact hr
theorem uA(t:TypeId){m m' k k' v v':Value}(hm:VR ρ m m')(hk:VR ρ k k')(hp:Plain k)(hv:VR ρ v v'):SR P Same ρ (Instr.mapUpdate t m k v) (Instr.mapUpdate t m' k' v'):=by
 have:=hp.eq hk
 subst this
 unfold Instr.mapUpdate
 refine (aj t).bF fun σ hσ d=>?_
 split
 ·rename_i key elem
  cases hm.mono hσ with
  |cu=>exact .dead (bI _)
  |map hr=>
   refine iL hr (fun es es' n h=>?_) fun o ho=>by cases o<;>first|exact absurd rfl (ho _ _)|exact fun _ _=>rfl
   refine (pJ _ key hp).bF fun τ iO _=>?_
   have h' :=h.mono fun _ _ (x:fA σ _ _)=>x.mono iO
   refine (sJ key hp h'.list).bnd fun υ nC a b hab=>?_
   have h2:=h'.mono fun _ _ (x:fA τ _ _)=>x.mono nC
   have hv2:=hv.mono ((hσ.trans iO).trans nC)
   cases hab with
   |none=>
    exact .setObj ((iO.trans nC).ob hr) (.map (h2.push ⟨hp,rfl,hv2,rfl⟩)) (.pure rfl)
   | @some x y h=>
    obtain ⟨i,w⟩:=x
    obtain ⟨j,u⟩:=y
    obtain ⟨e,_⟩:=h
    dsimp only at e ⊢
    subst e
    obtain ⟨e1,e2⟩:=SQ h2 i k' hp
    rw [e1]
    refine (oG e2 hp).bnd fun ω zS a b e=>?_
    obtain ⟨rfl,hpa⟩:=e
    exact .setObj (((iO.trans nC).trans zS).ob hr) (.map ((h2.mono fun _ _ x=>x.mono zS).modify i fun x y h=>⟨hpa,rfl,hv2.mono zS,h.born⟩)) (.pure rfl)
  |_=>exact .stuck
 ·exact .stuck
theorem Ja[aI P](t:TypeId){m m' k k':Value}(hm:VR ρ m m')(hk:VR ρ k k')(hp:Plain k):SR P VR ρ (Instr.mapEntry t m k) (Instr.mapEntry t m' k'):=by
 have:=hp.eq hk
 subst this
 unfold Instr.mapEntry
 refine (aj t).bF fun σ hσ d=>?_
 split
 ·rename_i key elem
  cases hm.mono hσ with
  |cu=>exact .dead (bI _)
  |map hr=>
   refine iL hr (fun es es' n h=>?_) fun o ho=>by cases o<;>first|exact absurd rfl (ho _ _)|exact fun _ _=>rfl
   refine (pJ _ key hp).bF fun τ iO _=>?_
   have h' :=h.mono fun _ _ (x:fA σ _ _)=>x.mono iO
   refine (sJ key hp h'.list).bnd fun υ nC a b hab=>?_
   have h2:=h'.mono fun _ _ (x:fA τ _ _)=>x.mono nC
   cases hab with
   |none=>
    refine (Dc elem).bnd fun ω zS z z' hz=>?_
    exact .setObj (((iO.trans nC).trans zS).ob hr) (.map ((h2.mono fun _ _ x=>x.mono zS).push ⟨hp,rfl,hz,rfl⟩)) (.pure (lZ hz (.int _ _)))
   | @some x y h=>
    obtain ⟨i,w⟩:=x
    obtain ⟨j,u⟩:=y
    obtain ⟨e,hw⟩:=h
    dsimp only at e hw ⊢
    subst e
    obtain ⟨e1,e2⟩:=SQ h2 i k' hp
    rw [e1,Va h2 i]
    refine (oG e2 hp).bnd fun ω zS a b e=>?_
    obtain ⟨rfl,hpa⟩:=e
    exact .setObj (((iO.trans nC).trans zS).ob hr) (.map ((h2.mono fun _ _ x=>x.mono zS).modify i fun x y h=>⟨hpa,rfl,h.val,h.born⟩)) (.pure (lZ (hw.mono zS) (.int _ _)))
  |_=>exact .stuck
 ·exact .stuck
theorem LR.findIdx{R:α→β→Prop}{l:List α}{m:List β}(h:LR R l m){p:α→Bool}{q:β→Bool}(hpq:∀x y,R x y→q y=p x):m.findIdx? q=l.findIdx? p:=by
 induction h with
 |nil=>rfl
 |cons h _ ih=>simp only [List.findIdx?_cons,hpq _ _ h,ih]
theorem Ac(t:TypeId){m m' k k' v v':Value}(hm:VR ρ m m')(hk:VR ρ k k')(hv:VR ρ v v'):SR P Same ρ (Instr.entryStore t m k v) (Instr.entryStore t m' k' v'):=by
 unfold Instr.entryStore
 cases hm with
 |map hr=>
  refine iL hr (fun es es' n h=>?_) fun o ho=>by cases o<;>first|exact absurd rfl (ho _ _)|exact fun _ _=>rfl
  refine (uz hk).bF fun σ hσ b=>?_
  have h' :=h.mono fun _ _ (x:fA ρ _ _)=>x.mono hσ
  have hidx:es'.findIdx? (fun e=>(e.born:Int) == b)=es.findIdx? (fun e=>(e.born:Int) == b):=by
   have:=h'.list.findIdx (p:=fun e=>(e.born:Int) == b) (q:=fun e=>(e.born:Int) == b) fun x y hxy=>by rw [hxy.born]
   obtain ⟨l⟩:=es
   obtain ⟨l'⟩:=es'
   rw [List.findIdx?_toArray,List.findIdx?_toArray]
   exact this
  rw [hidx]
  split
  ·rename_i i _
   exact .setObj (hσ.ob hr) (.map (h'.modify _ fun x y h=>⟨h.plain,h.key,hv.mono hσ,h.born⟩)) (.pure rfl)
  ·exact .J8
 |_=>exact .dead fun _ _=>rfl
end
end Go.Am
