import Derived.Test.YtbpcjpbcgeccbaaGreatH1
set_option linter.unusedVariables false
set_option linter.unusedSectionVars false
set_option linter.unusedSimpArgs false
namespace Go.Am
open Go.Ren (grow fK aN au)
def iT:Nat→Value→Bool
 |0,_=>false
 |n+1,v=>match v with
  | .bool _ | .int _ _ | .string _ | .pointer none | .slice none _ _ | .map none | .nilFunc | .nilIface=>true
  | .func (.func _) a b=>a.isEmpty && b.isEmpty
  | .func (.via ..) a b=>a.isEmpty && b.isEmpty
  | .iface _ v=>iT n v
  | .agg cs=>cs.toList.all (iT n)
  | .tuple cs=>cs.toList.all (iT n)
  |_=>false
theorem get_mem{α:Type}{a:Array α}{i:Nat}{x:α}(h:a[i]? = some x):x∈a.toList:=by
 obtain ⟨h1,h2⟩:=Array.getElem?_eq_some_iff.1 h
 rw [←h2];simp
theorem TM(ρ:Env):∀(n:Nat) (v:Value),iT n v=true→VR ρ v v:=by
 intro n
 induction n with
 |zero=>intro v h;cases h
 |succ n ih=>
  intro v h
  have arr:∀cs:Array Value,cs.toList.all (iT n)=true→∀(i:Nat) x y,cs[i]? = some x→cs[i]? = some y→VR ρ x y:=by
   intro cs hc i x y hx hy
   rw [hx] at hy
   cases hy
   exact ih x (List.all_eq_true.1 hc x (get_mem hx))
  have emp:∀a:Array Value,a.isEmpty=true→∀(i:Nat) x y,a[i]? = some x→a[i]? = some y→VR ρ x y:=by
   intro a ha i x y hx _
   have:a = #[]:=Array.isEmpty_iff.1 ha
   subst this
   simp at hx
  cases v with
  |bool b=>exact .bool b
  |int k m=>exact .int k m
  |string s=>exact .string s
  |pointer a=>cases a with|none=>exact .fE|some a=>cases h
  |slice a m c=>cases a with|none=>exact .nilslice m c|some a=>cases h
  |map r=>cases r with|none=>exact .dB|some a=>cases h
  |nilFunc=>exact .nilFunc
  |nilIface=>exact .nilIface
  |func f a b=>
   have fin:(a.isEmpty && b.isEmpty)=true→O7 ρ f f→VR ρ (.func f a b) (.func f a b):=fun h hf=>by
    simp only [Bool.and_eq_true] at h
    exact .func hf rfl (emp a h.1) rfl (emp b h.2)
   cases f with
   |func f=>exact fin h (.func f)
   |via t p f x=>exact fin h (.via t p f x)
   |_=>cases h
  |iface t v=>exact .iface (ih v h)
  |agg cs=>exact .agg rfl (arr cs h)
  |tuple cs=>exact .tuple rfl (arr cs h)
  |_=>cases h
class aI(P:Program):Prop where
 zero:∀t i z,P.info? t=some i→i.zero=some z→∀ρ:Env,VR ρ z z
abbrev Same{α:Type}:Env→α→α→Prop:=fun _ a b=>a=b
def Dead(P:Program){α:Type}(s:Sem α):Prop:=∀c h,s.ar P c h=none
theorem ug{P:Program}{α γ:Type}(s:Sem α)(f:α→Sem γ)(hf:∀a,Dead P (f a)):Dead P (s.bind f):=by
 induction s with
 |pure a=>exact hf a
 |load m a k ih=>
  intro c h
  simp only [Sem.bind]
  rw [Sem.ar.eq_def]
  dsimp only
  split
  ·exact ih _ _ _
  ·rfl
 |store m a v k ih=>
  intro c h
  simp only [Sem.bind]
  cases v<;>cases m<;>simp only [Sem.ar]
  all_goals
   split
   ·exact ih _ _
   ·rfl
 |new o k ih=>
  intro c h
  simp only [Sem.bind]
  simp only [Sem.ar]
  split<;>first|rfl|exact ih _ _ _
 |shape r k ih=>
  intro c h
  simp only [Sem.bind]
  simp only [Sem.ar]
  split<;>first|rfl|exact ih _ _ _
 |getObj r k ih=>
  intro c h
  simp only [Sem.bind]
  simp only [Sem.ar]
  split<;>first|rfl|exact ih _ _ _
 |setObj r o k ih=>
  intro c h
  simp only [Sem.bind]
  simp only [Sem.ar]
  split
  ·rfl
  ·rfl
  ·split
   ·rfl
   ·exact ih _ _
  ·rfl
 |choose q k ih=>
  intro c h
  simp only [Sem.bind]
  rw [Sem.ar.eq_def]
  dsimp only
  split
  ·exact ih _ _ _
  ·split
   ·exact ih _ _ _
   ·rfl
 |program k ih=>intro c h;exact ih _ _ _
 |_=>intro c h;rfl
theorem bG{P:Program}{α:Type}(x:RuntimeError):Dead P (runtimePanic x:Sem α):=by
 intro c h
 show (match x with|_=>_:Sem α).ar P c h=none
 cases x<;>first|rfl|exact ug _ _ (fun a=>ug _ _ fun b c h=>rfl) c h
section
variable{P:Program}{ρ σ:Env}{α β γ δ:Type}
theorem SR.bnd{R:Env→α→β→Prop}{Q:Env→γ→δ→Prop}{s:Sem α}{s':Sem β}{f:α→Sem γ}{f':β→Sem δ}(h:SR P R ρ s s')(hf:∀σ:Env,ρ.Le σ→∀a b,R σ a b→SR P Q σ (f a) (f' b)):SR P Q ρ (s >>= f) (s' >>= f'):=h.bind hf
theorem SR.bz{Q:Env→γ→δ→Prop}{s s':Sem α}{f:α→Sem γ}{f':α→Sem δ}(h:SR P Same ρ s s')(hf:∀σ:Env,ρ.Le σ→∀a,SR P Q σ (f a) (f' a)):SR P Q ρ (s >>= f) (s' >>= f'):=h.bind fun σ hσ a b e=>by cases e;exact hf σ hσ a
theorem SR.aO{R:Env→α→β→Prop}{a:α}{b:β}(h:R ρ a b):SR P R ρ (Pure.pure a:Sem α) (Pure.pure b:Sem β):=.pure h
theorem SR.stuck{R:Env→α→β→Prop}{x:String}{s:Sem β}:SR P R ρ (Go.stuck x) s:=.halt
theorem SR.KI{R:Env→α→β→Prop}{x:Unsupported}{s:Sem β}:SR P R ρ (Go.unsupported x) s:=.halt
theorem SR.prog{R:Env→γ→δ→Prop}{f:Program→Sem γ}{f':Program→Sem δ}(h:SR P R ρ (f P) (f' P)):SR P R ρ (Go.program >>= f) (Go.program >>= f'):=.program h
theorem SR.yh{R:Env→α→β→Prop}{x:RuntimeError}{s:Sem β}:SR P R ρ (runtimePanic x) s:=.dead (bG x)
theorem SR.BF{R:Env→α→β→Prop}{k:IntKind}{x y:Int}{c:BoundsCode}{s:Sem β}:SR P R ρ (boundsPanic k x y c) s:=by
 unfold boundsPanic
 dsimp only
 split<;>exact .dead (ug _ _ fun a=>bG _)
theorem aj(t:TypeId):SR P Same ρ (underlying t) (underlying t):=by
 unfold underlying
 refine .prog ?_
 split
 ·exact .aO rfl
 ·exact .stuck
theorem gX(t:TypeId):SR P (fun _ a b=>a=b∧P.info? t=some a) ρ (typeInfo t) (typeInfo t):=by
 unfold typeInfo
 refine .prog ?_
 split
 ·rename_i i hi;exact .aO ⟨rfl,hi⟩
 ·exact .stuck
theorem Gm[aI P](t:TypeId):SR P VR ρ (zeroValue t) (zeroValue t):=by
 unfold zeroValue
 refine (gX t).bnd fun σ _ a b h=>?_
 obtain ⟨rfl,hi⟩:=h
 split
 ·rename_i v hv;exact .aO (aI.zero t a v hi hv σ)
 ·exact .KI
theorem dV(t:TypeId):SR P Same ρ (sizeOf t) (sizeOf t):=by
 unfold sizeOf
 refine (gX t).bnd fun σ _ a b h=>?_
 obtain ⟨rfl,hi⟩:=h
 exact .aO rfl
theorem BG(t:TypeId):SR P Same ρ (isAgg t) (isAgg t):=by
 unfold isAgg
 refine (aj t).bz fun σ _ a=>?_
 split<;>exact .aO rfl
theorem addr_add(a:Addr)(n:Nat):ρ.addr (a.add n)=(ρ.addr a).add n:=by
 unfold Addr.add
 by_cases h:n=0
 ·rw [if_pos h,if_pos h]
 ·rw [if_neg h,if_neg h];simp only [Env.addr,Nat.add_assoc]
theorem block_add(a:Addr)(n:Nat):(a.add n).block=a.block:=by unfold Addr.add;split<;>rfl
theorem Oe{a:Addr}(ha:ρ.born a.block):SR P VR ρ (load a) (load (ρ.addr a)):=.load ha fun v v' hv=>.pure hv
theorem AR.empty{R:α→β→Prop}:AR R #[] #[]:=⟨rfl,fun i x y h=>by simp at h⟩
theorem AR.push{R:α→β→Prop}{a:Array α}{b:Array β}(h:AR R a b){x:α}{y:β}(hxy:R x y):AR R (a.push x) (b.push y):=by
 refine ⟨by simp [h.1],fun i u v hu hv=>?_⟩
 rw [Array.getElem?_push] at hu hv
 by_cases e:i=a.size
 ·rw [if_pos e] at hu;rw [if_pos (h.1 ▸ e)] at hv;cases hu;cases hv;exact hxy
 ·rw [if_neg e] at hu;rw [if_neg (h.1 ▸ e)] at hv;exact h.2 i u v hu hv
theorem yj(n:Nat):∀ {ρ:Env} (a:Addr) (i:Nat) (acc acc':Array Value),ρ.born a.block→AR (VR ρ) acc acc' → SR P (fun σ=>AR (VR σ)) ρ (loadCellsFrom a i n acc) (loadCellsFrom (ρ.addr a) i n acc'):=by
 induction n with
 |zero=>intro ρ a i acc acc' _ h;exact .aO h
 |succ n ih=>
  intro ρ a i acc acc' ha h
  unfold loadCellsFrom
  rw [←addr_add]
  refine (Oe (by rw [block_add];exact ha)).bnd fun σ hσ v v' hv=>?_
  rw [←hσ.addr ha]
  exact ih a (i+1) _ _ (hσ.born _ ha) ((h.mono fun _ _ x=>x.mono hσ).push hv)
theorem wS{a:Addr}(n:Nat)(ha:ρ.born a.block):SR P (fun σ=>AR (VR σ)) ρ (loadCells a n) (loadCells (ρ.addr a) n):=yj n a 0 _ _ ha .empty
theorem ql(t:TypeId){a:Addr}(ha:ρ.born a.block):SR P VR ρ (loadVar t a) (loadVar t (ρ.addr a)):=by
 unfold loadVar
 refine (BG t).bz fun σ hσ b=>?_
 rw [←hσ.addr ha]
 have ha' :=hσ.born _ ha
 cases b with
 |true=>
  refine (dV t).bz fun τ jA n=>?_
  rw [←jA.addr ha']
  exact (wS n (jA.born _ ha')).bnd fun υ _ x y h=>.aO (.agg h.1 h.2)
 |false=>exact Oe ha'
theorem mW{v v':Value}(h:VR ρ v v'):AR (VR ρ) v.cells v'.cells:=by
 have one:∀ {v v':Value},VR ρ v v' → AR (VR ρ) #[v] #[v']:=fun {v v'} h=>by
  have:=(AR.empty (R:=VR ρ)).push h
  exact this
 cases h with
 |agg hs h=>exact ⟨hs,h⟩
 |bool b=>exact one (.bool b)
 |int k n=>exact one (.int k n)
 |string s=>exact one (.string s)
 |fE=>exact one .fE
 |ptr h=>exact one (.ptr h)
 |nilslice n c=>exact one (.nilslice n c)
 |slice h hc=>exact one (.slice h hc)
 |dB=>exact one .dB
 |map h=>exact one (.map h)
 |dO=>exact one .dO
 |chan h=>exact one (.chan h)
 |nilFunc=>exact one .nilFunc
 |func a b c d e=>exact one (.func a b c d e)
 |nilIface=>exact one .nilIface
 |iface h=>exact one (.iface h)
 |tuple hs h=>exact one (.tuple hs h)
theorem AR.list{R:α→β→Prop}{a:Array α}{b:Array β}(h:AR R a b):LR R a.toList b.toList:=by
 obtain ⟨a⟩:=a
 obtain ⟨b⟩:=b
 obtain ⟨hs,h⟩:=h
 simp only [List.size_toArray] at hs
 induction a generalizing b with
 |nil=>cases b with|nil=>exact .nil|cons y m=>simp at hs
 |cons x l ih=>
  cases b with
  |nil=>simp at hs
  |cons y m=>
   refine .cons (h 0 x y (by simp) (by simp)) (ih m (fun i u v hu hv=>h (i+1) u v (by simpa using hu) (by simpa using hv)) (by simpa using hs))
theorem LR.arr{R:α→β→Prop}{a:List α}{b:List β}(h:LR R a b):AR R a.toArray b.toArray:=by
 induction h with
 |nil=>exact .empty
 |cons h _ ih=>
  refine ⟨by have:=ih.1;simp at this ⊢;exact this,fun i x y hx hy=>?_⟩
  cases i with
  |zero=>simp at hx hy;subst hx hy;exact h
  |succ i=>exact ih.2 i x y (by simpa using hx) (by simpa using hy)
theorem kK{l l':List Value}:∀ {ρ:Env} {a:Addr} (i:Nat),ρ.born a.block→LR (VR ρ) l l' → SR P Same ρ (storeCells a l i) (storeCells (ρ.addr a) l' i):=by
 induction l generalizing l' with
 |nil=>intro ρ a i _ h;cases h;exact .aO rfl
 |cons v l ih=>
  intro ρ a i ha h
  cases h with
  |cons hv hl=>
   unfold storeCells
   rw [←addr_add]
   refine SR.bz (s:=store (a.add i) v) (.store (by rw [block_add];exact ha) hv (.pure rfl)) fun σ hσ _=>?_
   rw [←hσ.addr ha]
   exact ih (i+1) (hσ.born _ ha) (hl.mono fun _ _ x=>x.mono hσ)
theorem I7(t:TypeId){a:Addr}{v v':Value}(ha:ρ.born a.block)(hv:VR ρ v v'):SR P Same ρ (storeVar t a v) (storeVar t (ρ.addr a) v'):=by
 unfold storeVar
 have hc:=mW hv
 refine (dV t).bz fun σ hσ n=>?_
 rw [←hσ.addr ha,←hc.1]
 by_cases h:v.cells.size≠n
 ·rw [if_pos h];exact .dead fun _ _=>rfl
 ·rw [if_neg h,if_neg h]
  exact kK 0 (hσ.born _ ha) (hc.list.mono fun _ _ x=>x.mono hσ)
theorem yl(e e':TypeId){c c':Array Value}(hc:AR (VR ρ) c c'):SR P (fun σ a a'=>σ.born a.block∧a.spot=none∧a.off=0∧a' = σ.addr a) ρ (newRow e c) (newRow e' c'):=by
 unfold newRow
 refine SR.bnd (R:=fun σ r r'=>σ.ob r r') (s:=newObj _) (s' :=newObj _) (.new (.cells hc) fun σ hσ r r' hr=>.pure hr) fun σ hσ r r' hr=>.aO ⟨hr.1,rfl,rfl,?_⟩
 unfold Env.addr
 simp only [hr.2]
end
end Go.Am
namespace Go.Am
open Go.Ren (grow fK aN au)
theorem WH(ρ:Env):uT.Le ρ:=⟨fun _ h=>h.elim,fun _ h=>h.elim,fun _ h=>h.elim,fun _ h=>h.elim,fun _ h=>h.elim⟩
def Plain(v:Value):Prop:=VR uT v v
theorem Plain.vr{v:Value}(h:Plain v)(ρ:Env):VR ρ v v:=VR.mono (WH ρ) h
theorem gm{n:Nat}{v:Value}(h:iT n v=true):Plain v:=TM uT n v h
theorem Gn{a b:Array Value}(hs:a.size=b.size)(h:∀(i:Nat) x y,a[i]? = some x→b[i]? = some y→y=x):b=a:=by
 apply Array.ext hs.symm
 intro i h1 h2
 exact h i a[i] b[i] (by simp [h2]) (by simp [h1])
theorem TN{v u:Value}(h:VR uT v u):∀ {ρ:Env} {v':Value},VR ρ v v' → v' = v:=by
 induction h with
 |bool b=>intro ρ v' k;cases k;rfl
 |int k n=>intro ρ v' k;cases k;rfl
 |string s=>intro ρ v' k;cases k;rfl
 |fE=>intro ρ v' k;cases k;rfl
 |ptr h=>exact h.elim
 |nilslice n c=>intro ρ v' k;cases k;rfl
 |slice h=>exact h.elim
 |dB=>intro ρ v' k;cases k;rfl
 |map h=>exact h.1.elim
 |dO=>intro ρ v' k;cases k;rfl
 |chan h=>exact h.1.elim
 |nilFunc=>intro ρ v' k;cases k;rfl
 |func hf hs h ks k ih ik=>
  intro ρ v' m
  cases m with
  |func hf' hs' h' ks' k'=>
   have e1:=Gn hs' fun i x y hx hy=>by
    obtain ⟨z,hz⟩:∃z,_=some z:=⟨_,Array.getElem?_eq_getElem (hs ▸ (Array.getElem?_eq_some_iff.1 hx).1)⟩
    exact ih i x z hx hz (h' i x y hx hy)
   have e2:=Gn ks' fun i x y hx hy=>by
    obtain ⟨z,hz⟩:∃z,_=some z:=⟨_,Array.getElem?_eq_getElem (ks ▸ (Array.getElem?_eq_some_iff.1 hx).1)⟩
    exact ik i x z hx hz (k' i x y hx hy)
   rw [e1,e2]
   cases hf with
   |yield h=>exact h.1.elim
   |func f=>cases hf';rfl
   |method f=>cases hf';rfl
   |methodOf f=>cases hf';rfl
   |via f=>cases hf';rfl
 |nilIface=>intro ρ v' k;cases k;rfl
 |iface h ih=>intro ρ v' k;cases k with|iface k=>rw [ih k]
 |agg hs h ih=>
  intro ρ v' m
  cases m with
  |agg hs' h'=>
   rw [Gn hs' fun i x y hx hy=>by
    obtain ⟨z,hz⟩:∃z,_=some z:=⟨_,Array.getElem?_eq_getElem (hs ▸ (Array.getElem?_eq_some_iff.1 hx).1)⟩
    exact ih i x z hx hz (h' i x y hx hy)]
 |tuple hs h ih=>
  intro ρ v' m
  cases m with
  |tuple hs' h'=>
   rw [Gn hs' fun i x y hx hy=>by
    obtain ⟨z,hz⟩:∃z,_=some z:=⟨_,Array.getElem?_eq_getElem (hs ▸ (Array.getElem?_eq_some_iff.1 hx).1)⟩
    exact ih i x z hx hz (h' i x y hx hy)]
theorem Plain.eq{v v':Value}{ρ:Env}(h:Plain v)(k:VR ρ v v'):v' = v:=TN h k
theorem Plain.agg{cs:Array Value}(h:Plain (.agg cs)):∀c∈cs,Plain c:=by
 intro c hc
 cases h with
 |agg hs h=>
  obtain ⟨i,hi,e⟩:=Array.mem_iff_getElem.1 hc
  exact h i c c (by simp [hi,e]) (by simp [hi,e])
theorem uh{cs:Array Value}(h:∀c∈cs,Plain c):Plain (.agg cs):=
 VR.agg rfl fun i x y hx hy=>by rw [hx] at hy;cases hy;exact h x (Array.mem_of_getElem? hx)
theorem Plain.iface{t:TypeId}{v:Value}(h:Plain (.iface t v)):Plain v:=by cases h with|iface h=>exact h
theorem mD{P:Program}{α γ:Type}{s:Sem α}(f:α→Sem γ)(h:Dead P s):Dead P (s >>= f):=fun c a=>vY s f c a (h c a)
abbrev ad3{α:Type}(Q:α→Prop):Env→α→α→Prop:=fun _ a b=>a=b∧Q a
abbrev jT(P:Program){α:Type}(Q:α→Prop)(s:Sem α):Prop:=∀ρ:Env,SR P (ad3 Q) ρ s s
section
variable{P:Program}{ρ σ:Env}{α β γ δ:Type}
theorem jT.bnd{Q:α→Prop}{T:β→Prop}{s:Sem α}{f:α→Sem β}(h:jT P Q s)(k:∀a,Q a→jT P T (f a)):jT P T (s >>= f):=fun ρ=>(h ρ).bnd fun σ _ a b e=>by obtain ⟨rfl,e⟩:=e;exact k a e σ
theorem jT.aO{Q:α→Prop}{a:α}(h:Q a):jT P Q (Pure.pure a:Sem α):=fun ρ=>.aO ⟨rfl,h⟩
theorem jT.stuck{Q:α→Prop}{x:String}:jT P Q (Go.stuck x:Sem α):=fun _=>.stuck
theorem jT.KI{Q:α→Prop}{x:Unsupported}:jT P Q (Go.unsupported x:Sem α):=fun _=>.KI
theorem jT.yh{Q:α→Prop}{x:RuntimeError}:jT P Q (runtimePanic x:Sem α):=fun _=>.yh
theorem jT.dead{Q:α→Prop}{s:Sem α}(h:Dead P s):jT P Q s:=fun _=>.dead h
theorem jT.prog{Q:α→Prop}{f:Program→Sem α}(h:jT P Q (f P)):jT P Q (Go.program >>= f):=fun ρ=>.prog (h ρ)
abbrev Any{α:Type}:α→Prop:=fun _=>True
theorem mX(t:TypeId):jT P Any (underlying t):=fun ρ=>(aj t).imp fun _ _ _ _ e=>⟨e,trivial⟩
theorem qm(t:TypeId):jT P Any (typeInfo t):=fun ρ=>(gX t).imp fun _ _ _ _ e=>⟨e.1,trivial⟩
theorem qo(t:TypeId):jT P Any (sizeOf t):=fun ρ=>(dV t).imp fun _ _ _ _ e=>⟨e,trivial⟩
theorem PS(t:TypeId):jT P Any (isAgg t):=fun ρ=>(BG t).imp fun _ _ _ _ e=>⟨e,trivial⟩
theorem zh(t:TypeId):jT P Any (typeStr t):=by
 unfold typeStr
 refine (qm t).bnd fun i _=>?_
 dsimp only
 split
 ·exact .KI
 ·exact .aO trivial
theorem mY{γ δ:Type}{Q:δ→Prop}(f:γ→δ→Sem (ForInStep δ)):∀(xs:List γ) (a:δ),Q a→(∀x∈xs,∀a,Q a→jT P (fun p=>(∃u,p = .done u∧Q u)∨(∃u,p = .yield u∧Q u)) (f x a))→jT P Q (forIn xs a f)
 | [],a,h,_=>by simpa using jT.aO (P:=P) h
 |x :: xs,a,h,hf=>by
  rw [List.forIn_cons]
  refine (hf x (by simp) a h).bnd ?_
  rintro p (⟨u,rfl,hu⟩|⟨u,rfl,hu⟩)
  ·exact .aO hu
  ·exact mY f xs u hu fun y hy=>hf y (by simp [hy])
theorem kZ{γ δ:Type}{Q:δ→Prop}(f:γ→δ→Sem (ForInStep δ))(xs:Array γ)(a:δ)(h:Q a)(hf:∀x∈xs,∀a,Q a→jT P (fun p=>(∃u,p = .done u∧Q u)∨(∃u,p = .yield u∧Q u)) (f x a)):jT P Q (forIn xs a f):=by
 rw [←Array.forIn_toList]
 exact mY f _ a h fun x hx=>hf x (by simpa using hx)
theorem lg{δ:Type}{Q:δ→Prop}(f:Nat→δ→Sem (ForInStep δ))(r:Std.Legacy.Range)(a:δ)(h:Q a)(hf:∀x,∀a,Q a→jT P (fun p=>(∃u,p = .done u∧Q u)∨(∃u,p = .yield u∧Q u)) (f x a)):jT P Q (forIn r a f):=by
 rw [Std.Legacy.Range.forIn_eq_forIn_range']
 exact mY f _ a h fun x _=>hf x
theorem mem_extract{cs:Array Value}{i j:Nat}{v:Value}(h:v∈cs.extract i j):v∈cs:=by
 obtain ⟨k,hk,e⟩:=Array.mem_iff_getElem.1 h
 rw [Array.getElem_extract] at e
 rw [←e]
 exact Array.getElem_mem _
theorem je(t:TypeId){cs:Array Value}(h:∀c∈cs,Plain c)(off:Nat):jT P Plain (part t cs off):=by
 unfold part
 refine (PS t).bnd fun b _=>?_
 cases b with
 |true=>exact (qo t).bnd fun n _=>.aO (uh fun c hc=>h c (mem_extract hc))
 |false=>
  show jT P Plain (match cs[off]? with|some v=>Pure.pure v|none=>Go.stuck _)
  split
  ·rename_i v hv;exact .aO (h v (Array.mem_of_getElem? hv))
  ·exact .stuck
theorem lQ(empty:Bool):∀(n:Nat) (t:TypeId) (v:Value),Plain v→jT P Any (Instr.checkKey empty n t v)
 |0,t,v,_=>.KI
 |n+1,t,v,hv=>by
  unfold Instr.checkKey
  refine (mX t).bnd fun d _=>?_
  split
  ·rename_i d x _
   refine (qm d).bnd fun i _=>?_
   dsimp only
   split
   ·split
    ·exact .dead (mD _ (bG _))
    ·exact (zh d).bnd fun s _=>.dead (mD _ (bG _))
   ·exact lQ empty n d x hv.iface
  ·rename_i len e cs _
   refine jT.bnd (Q:=Any) (lg _ _ _ trivial fun x a _=>?_) fun _ _=>.aO trivial
   refine (qo e).bnd fun s _=>?_
   refine (je e hv.agg _).bnd fun x hx=>?_
   exact (lQ empty n e x hx).bnd fun _ _=>.aO (.inr ⟨_,rfl,trivial⟩)
  ·rename_i fields cs _
   refine jT.bnd (Q:=Any) (kZ _ _ _ trivial fun f _ a _=>?_) fun _ _=>.aO trivial
   split
   ·refine (je f.type hv.agg _).bnd fun x hx=>?_
    exact (lQ empty n f.type x hx).bnd fun _ _=>.aO (.inr ⟨_,rfl,trivial⟩)
   ·exact .aO (.inr ⟨_,rfl,trivial⟩)
  ·exact .aO trivial
  all_goals first|exact .stuck|exact .aO trivial
end
end Go.Am
namespace Go.Am
open Go.Ren (grow fK aN au)
section
variable{P:Program}{ρ σ:Env}{α β γ δ:Type}
theorem WI{v u:Value}(h:VR uT v u)(a:Addr)(e:v = .pointer (some a)):False:=by
 cases h<;>cases e
 rename_i h;exact h
theorem Plain.ptr{a:Option Addr}(h:Plain (.pointer a)):a=none:=by cases a with|none=>rfl|some a=>exact (WI h a rfl).elim
theorem nZ:∀(n:Nat) (t:TypeId) (x y:Value),Plain x→Plain y→jT P Any (Op.equalIn n t x y)
 |0,t,x,y,_,_=>.KI
 |n+1,t,x,y,hx,hy=>by
  unfold Op.equalIn
  refine (mX t).bnd fun d _=>?_
  split
  case h_5=>have:=hx.ptr;cases this
  case h_13=>have:=hx.ptr;cases this
  case h_14=>have:=hx.ptr;have h2:=hy.ptr;subst this h2;exact .aO trivial
  case h_19=>
   rename_i tx vx ty vy _
   split
   ·exact .aO trivial
   ·refine (qm tx).bnd fun i _=>?_
    dsimp only
    split
    ·refine .prog ?_
     refine jT.prog ?_
     split
     ·exact .dead fun _ _=>rfl
     ·exact (zh tx).bnd fun s _=>.dead (bG _)
    ·exact nZ n tx vx vy hx.iface hy.iface
  case h_20=>
   rename_i fields xs ys _
   refine .prog ?_
   dsimp only
   split
   ·exact .dead fun _ _=>rfl
   ·refine jT.bnd (Q:=Any) (kZ _ _ _ trivial fun f _ a _=>?_) fun _ _=>by (try dsimp only);split<;>exact .aO trivial
    split
    ·refine (je f.type hx.agg _).bnd fun u hu=>?_
     refine (je f.type hy.agg _).bnd fun v hv=>?_
     refine (nZ n f.type u v hu hv).bnd fun b _=>?_
     split
     ·exact .aO (.inl ⟨_,rfl,trivial⟩)
     ·exact .aO (.inr ⟨_,rfl,trivial⟩)
    ·exact .aO (.inr ⟨_,rfl,trivial⟩)
  case h_21=>
   rename_i len e xs ys _
   refine (qo e).bnd fun s _=>?_
   refine jT.bnd (Q:=Any) (lg _ _ _ trivial fun f a _=>?_) fun _ _=>by (try dsimp only);split<;>exact .aO trivial
   refine (je e hx.agg _).bnd fun u hu=>?_
   refine (je e hy.agg _).bnd fun v hv=>?_
   refine (nZ n e u v hu hv).bnd fun b _=>?_
   split
   ·exact .aO (.inl ⟨_,rfl,trivial⟩)
   ·exact .aO (.inr ⟨_,rfl,trivial⟩)
  all_goals first
   |exact .aO trivial
   |exact .stuck
   |exact .KI
   |(split;exact .aO trivial;exact .stuck)
theorem EE(t:TypeId){x y:Value}(hx:Plain x)(hy:Plain y):jT P Any (Op.equal t x y):=nZ _ _ _ _ hx hy
theorem kL:∀(n:Nat) (t:TypeId) (x y:Value),Plain x→Plain y→jT P Any (Op.eqGuardIn n t x y)
 |0,t,x,y,_,_=>.KI
 |n+1,t,x,y,hx,hy=>by
  unfold Op.eqGuardIn
  refine (mX t).bnd fun d _=>?_
  split
  ·exact .aO trivial
  ·rename_i fields xs ys _
   refine jT.bnd (Q:=Any) (kZ _ _ _ trivial fun f _ a _=>?_) fun _ _=>by (try dsimp only);split<;>exact .aO trivial
   split
   ·refine (je f.type hx.agg _).bnd fun u hu=>?_
    refine (je f.type hy.agg _).bnd fun v hv=>?_
    refine (kL n f.type u v hu hv).bnd fun b _=>?_
    split
    ·exact .aO (.inl ⟨_,rfl,trivial⟩)
    ·exact .aO (.inr ⟨_,rfl,trivial⟩)
   ·exact .aO (.inr ⟨_,rfl,trivial⟩)
  ·rename_i len e xs ys _
   refine (qo e).bnd fun s _=>?_
   refine jT.bnd (Q:=Any) (lg _ _ _ trivial fun f a _=>?_) fun _ _=>by (try dsimp only);split<;>exact .aO trivial
   refine (je e hx.agg _).bnd fun u hu=>?_
   refine (je e hy.agg _).bnd fun v hv=>?_
   refine (kL n e u v hu hv).bnd fun b _=>?_
   split
   ·exact .aO (.inl ⟨_,rfl,trivial⟩)
   ·exact .aO (.inr ⟨_,rfl,trivial⟩)
  ·exact .aO trivial
theorem wU{Q:α→Prop}{c:Prop}[Decidable c]{s t:Sem α}(hs:jT P Q s)(ht:jT P Q t):jT P Q (if c then s else t):=by split<;>assumption
theorem I8(op:BinOp)(t:TypeId)(x y:Operand){a b:Value}(ha:Plain a)(hb:Plain b):jT P Any (eqGuard op t x y a b):=by
 unfold eqGuard
 refine wU (.aO trivial) ?_
 split
 ·refine wU (.aO trivial) ?_
  refine (kL _ _ _ _ ha hb).bnd fun c _=>?_
  exact wU (.dead fun _ _=>rfl) (.aO trivial)
 ·refine .prog ?_
  refine jT.prog ?_
  refine wU (.aO trivial) ?_
  refine (kL _ _ _ _ ha hb).bnd fun c _=>?_
  exact wU (.dead fun _ _=>rfl) (.aO trivial)
 ·exact .aO trivial
theorem mF(k:IntKind)(n:Int):Plain (.int k n):=.int k n
theorem qp(b:Bool):Plain (.bool b):=.bool b
theorem qw(s:ByteArray):Plain (.string s):=.string s
theorem wV(op:BinOp)(k:IntKind)(a b:Int):jT P Plain (Op.intArith op k a b):=by
 unfold Op.intArith;split<;>first|exact .aO (mF _ _)|exact .stuck
theorem KJ(op:BinOp)(k:IntKind)(a b:Int):jT P Plain (Op.intDiv op k a b):=by
 unfold Op.intDiv
 split
 ·exact .yh
 ·split<;>first|exact .aO (mF _ _)|exact .stuck
theorem zk(op:BinOp)(k:IntKind)(a b:Int):jT P Plain (Op.intBits op k a b):=by
 unfold Op.intBits
 dsimp only
 split<;>first|exact .aO (mF _ _)|exact .stuck
theorem BH(op:BinOp)(a b:Int):jT P Plain (Op.intCmp op a b):=by
 unfold Op.intCmp;split<;>first|exact .aO (qp _)|exact .stuck
theorem PT(op:BinOp)(k:IntKind)(a:Int)(j:IntKind)(b:Int):jT P Plain (Op.shift op k a j b):=by
 unfold Op.shift
 split
 ·exact .yh
 ·dsimp only
  split<;>first|exact .aO (mF _ _)|exact .stuck
theorem qx(op:BinOp)(a b:ByteArray):jT P Plain (Op.stringOp op a b):=by
 unfold Op.stringOp
 dsimp only
 split
 ·split
  ·exact .KI
  ·exact .aO (qw _)
 all_goals first|exact .aO (qp _)|exact .stuck
def Ec(op:BinOp)(x y:Value):Bool:=
 match x,y with
 | .int _ _,.int _ _=>true
 | .string _,.string _=>true
 |x,y=>(op matches .eql | .neq) && iT 9 x && iT 9 y
theorem PU(op:BinOp)(t:TypeId){x y:Value}(h:Ec op x y=true)(hx:Plain x)(hy:Plain y):jT P Plain (binOp op t x y):=by
 unfold Ec at h
 split at h
 ·rename_i k a j b
  cases op<;>(unfold Go.binOp;dsimp only)<;>first
   |exact PT _ _ _ _ _
   |(split;exact .stuck;first|exact wV _ _ _ _|exact KJ _ _ _ _|exact zk _ _ _ _|exact BH _ _ _)
 ·rename_i a b
  cases op<;>(unfold Go.binOp;dsimp only)<;>exact qx _ _ _
 ·simp only [Bool.and_eq_true] at h
  obtain ⟨⟨h1,_⟩,_⟩:=h
  have he:=EE (P:=P) t hx hy
  have hq:jT P Plain (do pure (.bool (←Op.equal t x y)):Sem Value):=he.bnd fun b _=>.aO (qp b)
  have hn:jT P Plain (do pure (.bool (!(←Op.equal t x y))):Sem Value):=he.bnd fun b _=>.aO (qp _)
  cases op<;>first|(simp at h1;done)|skip
  all_goals
   unfold Go.binOp
   split<;>first
    |exact hq
    |exact hn
    |contradiction
    |(cases hx;done)
    |(have e:=hx.ptr;cases e;done)
    |(have e:=hy.ptr;cases e;done)
    |exact .KI
    |exact .stuck
    |exact qx _ _ _
    |(split;exact .stuck;exact BH _ _ _)
end
end Go.Am
namespace Go.Am
open Go.Ren (grow fK aN au)
section
variable{P:Program}{ρ σ:Env}{α β γ δ:Type}
theorem wW[aI P](t:TypeId):SR P (fun _ a b=>a=b∧∀τ:Env,VR τ a a) ρ (zeroValue t) (zeroValue t):=by
 unfold zeroValue
 refine (gX t).bnd fun σ _ a b h=>?_
 obtain ⟨rfl,hi⟩:=h
 split
 ·rename_i v hv;exact .aO ⟨rfl,aI.zero t a v hi hv⟩
 ·exact .KI
theorem BI(t:TypeId):SR P (fun _ a b=>a=b∧∃i,P.info? t=some i∧a=i.size) ρ (sizeOf t) (sizeOf t):=by
 unfold sizeOf
 refine (gX t).bnd fun σ _ a b h=>?_
 obtain ⟨rfl,hi⟩:=h
 exact .aO ⟨rfl,a,hi,rfl⟩
theorem SR.dry{Q:α→Prop}{s:Sem α}(h:jT P Q s):SR P Same ρ s s:=(h ρ).imp fun _ _ _ _ e=>e.1
theorem AR.get{R:α→β→Prop}{a:Array α}{b:Array β}(h:AR R a b)(i:Nat):fB R a[i]? b[i]? :=by
 cases ha:a[i]? with
 |none=>
  have:b[i]? = none:=by simp only [Array.getElem?_eq_none_iff] at ha ⊢;rw [←h.1];exact ha
  rw [this];exact .none
 |some x=>
  obtain ⟨hi,_⟩:=Array.getElem?_eq_some_iff.1 ha
  have hb:b[i]? = some (b[i]'(h.1 ▸ hi)):=by simp
  rw [hb];exact .some (h.2 i _ _ ha hb)
theorem AR.extract{R:α→β→Prop}{a:Array α}{b:Array β}(h:AR R a b)(i j:Nat):AR R (a.extract i j) (b.extract i j):=by
 refine ⟨by simp [h.1],fun k x y hx hy=>?_⟩
 rw [Array.getElem?_extract] at hx hy
 split at hx
 ·split at hy
  ·exact h.2 _ _ _ hx hy
  ·cases hy
 ·cases hx
theorem AR.set{R:α→β→Prop}{a:Array α}{b:Array β}(h:AR R a b)(i:Nat){x:α}{y:β}(hxy:R x y):AR R (a.setIfInBounds i x) (b.setIfInBounds i y):=by
 refine ⟨by simp [h.1],fun k u v hu hv=>?_⟩
 rw [Array.getElem?_setIfInBounds] at hu hv
 split at hu
 ·rename_i e
  subst e
  rw [if_pos rfl] at hv
  split at hu
  ·split at hv
   ·cases hu;cases hv;exact hxy
   ·cases hv
  ·cases hu
 ·rename_i e
  rw [if_neg e] at hv
  exact h.2 k u v hu hv
theorem AR.append{R:α→β→Prop}{a c:Array α}{b d:Array β}(h:AR R a b)(k:AR R c d):AR R (a ++ c) (b ++ d):=by
 refine ⟨by simp [h.1,k.1],fun i u v hu hv=>?_⟩
 rw [Array.getElem?_append] at hu hv
 by_cases e:i < a.size
 ·rw [if_pos e] at hu;rw [if_pos (h.1 ▸ e)] at hv;exact h.2 i u v hu hv
 ·rw [if_neg e] at hu;rw [if_neg (h.1 ▸ e)] at hv;rw [←h.1] at hv;exact k.2 _ u v hu hv
theorem AR.refl{R:α→α→Prop}{a:Array α}(h:∀x∈a,R x x):AR R a a:=⟨rfl,fun i x y hx hy=>by rw [hx] at hy;cases hy;exact h x (Array.mem_of_getElem? hx)⟩
theorem KL{c c':Array Value}(h:AR (VR ρ) c c'):VR ρ (.agg c) (.agg c'):=.agg h.1 h.2
theorem mZ{c c':Array Value}(h:AR (VR ρ) c c'):VR ρ (.tuple c) (.tuple c'):=.tuple h.1 h.2
theorem uj{a a' b b':Value}(h:VR ρ a a')(k:VR ρ b b'):VR ρ (.tuple #[a,b]) (.tuple #[a',b']):=mZ (((AR.empty.push h).push k))
theorem EF{a a' b b' c c':Value}(h:VR ρ a a')(k:VR ρ b b')(l:VR ρ c c'):VR ρ (.tuple #[a,b,c]) (.tuple #[a',b',c']):=mZ ((((AR.empty.push h).push k).push l))
theorem jJ:VR ρ (.tuple #[]) (.tuple #[]):=mZ .empty
theorem Gp(t:TypeId){c c':Array Value}(h:AR (VR ρ) c c')(off:Nat):SR P VR ρ (part t c off) (part t c' off):=by
 unfold part
 refine (BG t).bz fun σ hσ b=>?_
 cases b with
 |true=>exact (dV t).bz fun τ jA n=>.aO (KL ((h.mono fun _ _ x=>x.mono (hσ.trans jA)).extract _ _))
 |false=>
  show SR P VR σ (match c[off]? with|some v=>Pure.pure v|none=>Go.stuck _) (match c'[off]? with|some v=>Pure.pure v|none=>Go.stuck _)
  have:=h.get off
  revert this
  generalize c[off]? = x
  generalize c'[off]? = y
  intro this
  cases this with
  |none=>exact .stuck
  |some h=>exact .aO (h.mono hσ)
theorem EG(t:TypeId){v v':Value}(hv:VR ρ v v'):SR P (fun σ a a'=>σ.born a.block∧a' = σ.addr a) ρ (newVar t v) (newVar t v'):=by
 unfold newVar
 exact (yl t t (mW hv)).imp fun _ _ _ _ h=>⟨h.1,h.2.2.2⟩
theorem aav(t:TypeId){v v':Value}(hv:VR ρ v v'):SR P VR ρ (Instr.box t v) (Instr.box t v'):=by
 unfold Instr.box
 refine (EG t hv).bnd fun σ _ a a' h=>?_
 obtain ⟨h1,rfl⟩:=h
 exact .aO (.ptr h1)
theorem TP[aI P](t:TypeId):SR P VR ρ (Instr.alloc t true (.tuple #[])) (Instr.alloc t true (.tuple #[])):=by
 unfold Instr.alloc
 refine (Gm t).bnd fun σ _ z z' hz=>?_
 exact (EG t hz).bnd fun σ _ a a' h=>by obtain ⟨h1,rfl⟩:=h;exact .aO (.ptr h1)
theorem KN{l l':List (Value×Nat)}(h:LR (fun a b=>VR ρ a.1 b.1∧b.2=a.2) l l')(off:Nat):∀ {c c':Array Value},AR (VR ρ) c c' → AR (VR ρ) (l.foldl (fun cs (x:Value×Nat)=>cs.setIfInBounds (off+x.2) x.1) c) (l'.foldl (fun cs (x:Value×Nat)=>cs.setIfInBounds (off+x.2) x.1) c'):=by
 induction h with
 |nil=>intro c c' h;exact h
 |cons h _ ih=>
  intro c c' hc
  simp only [List.foldl_cons]
  rw [h.2]
  exact ih (hc.set _ h.1)
theorem aaw{R:α→β→Prop}{l:List α}{m:List β}(h:LR R l m):∀(k:Nat),LR (fun (a:α×Nat) (b:β×Nat)=>R a.1 b.1∧b.2=a.2) (l.zipIdx k) (m.zipIdx k):=by
 induction h with
 |nil=>intro k;exact .nil
 |cons h _ ih=>intro k;exact .cons ⟨h,rfl⟩ (ih (k+1))
theorem Ar(place:Nat→Option (Nat×Nat)){ps ps':List (Nat×Value)}(h:LR (fun a b=>b.1=a.1∧VR ρ a.2 b.2) ps ps'):∀ {c c':Array Value},AR (VR ρ) c c' → fB (AR (VR ρ)) (Instr.fill place c ps) (Instr.fill place c' ps'):=by
 induction h with
 |nil=>intro c c' hc;exact .some hc
 | @cons x y l m hxy _ ih=>
  intro c c' hc
  obtain ⟨i,v⟩:=x
  obtain ⟨j,v'⟩:=y
  obtain ⟨rfl,hv⟩:=hxy
  have hcs:=mW hv
  unfold Instr.fill
  cases place j with
  |none=>exact .none
  |some p=>
   obtain ⟨off,size⟩:=p
   dsimp only
   rw [←hcs.1,←hc.1]
   split
   ·exact .none
   ·refine ih ?_
    have:=KN (aaw hcs.list 0) off hc
    rw [←Array.foldl_toList,←Array.foldl_toList,Array.toList_zipIdx,Array.toList_zipIdx]
    exact this
theorem LR.PV{l:List α}{f:α→Sem β}(h:∀x∈l,∀ρ:Env,SR P Same ρ (f x) (f x)):∀ {ρ:Env},SR P Same ρ (l.mapM f) (l.mapM f):=by
 induction l with
 |nil=>intro ρ;exact .aO rfl
 |cons x l ih=>
  intro ρ
  rw [List.mapM_cons]
  refine (h x (by simp) ρ).bz fun σ _ a=>?_
  refine (ih fun y hy=>h y (by simp [hy])).bz fun τ _ b=>?_
  exact .aO rfl
theorem TQ[aI P](t:TypeId){ps ps':Array (Nat×Value)}(h:LR (fun a b=>b.1=a.1∧VR ρ a.2 b.2) ps.toList ps'.toList):SR P VR ρ (Instr.build t ps) (Instr.build t ps'):=by
 unfold Instr.build
 refine (wW t).bnd fun σ hσ z z' hz=>?_
 obtain ⟨rfl,hz⟩:=hz
 have hzc:∀τ:Env,AR (VR τ) z.cells z.cells:=fun τ=>mW (hz τ)
 dsimp only
 refine (aj t).bz fun τ jA d=>?_
 split
 ·rename_i fields
  refine SR.bz (s:=fields.mapM _) (s' :=fields.mapM _) ?_ fun υ pJ places=>?_
  ·rw [Array.mapM_eq_mapM_toList]
   refine SR.bz (LR.PV fun x _ ρ=>(dV _).bz fun _ _ _=>.aO rfl) fun _ _ _=>.aO rfl
  ·have:=Ar (places[·]?) (h.mono fun _ _ x=>⟨x.1,x.2.mono ((hσ.trans jA).trans pJ)⟩) (hzc υ)
   revert this
   generalize Instr.fill _ _ ps.toList=a
   generalize Instr.fill _ _ ps'.toList=b
   intro this
   cases this with
   |none=>exact .stuck
   |some h=>exact .aO (KL h)
 ·rename_i elem
  refine (dV elem).bz fun υ pJ size=>?_
  have:=Ar (fun i=>some (i * size,size)) (h.mono fun _ _ x=>⟨x.1,x.2.mono ((hσ.trans jA).trans pJ)⟩) (hzc υ)
  revert this
  generalize Instr.fill _ _ ps.toList=a
  generalize Instr.fill _ _ ps'.toList=b
  intro this
  cases this with
  |none=>exact .stuck
  |some h=>exact .aO (KL h)
 ·exact .stuck
theorem Og(f:Nat→Value):AR (VR ρ) ((Array.range 0).map f) ((Array.range 0).map f):=.refl fun x hx=>by
 obtain ⟨i,hi,_⟩:=Array.mem_map.1 hx
 rw [Array.mem_range] at hi
 exact absurd hi (Nat.not_lt_zero _)
theorem KO:VR ρ (default:Value) default:=VR.bool _
theorem rW{z:Value}(hz:∀τ:Env,VR τ z z)(n:Nat)(f:Nat→Nat):AR (VR ρ) ((Array.range n).map fun i=>z.cells[f i]!) ((Array.range n).map fun i=>z.cells[f i]!):=by
 refine .refl fun x hx=>?_
 obtain ⟨i,_,rfl⟩:=Array.mem_map.1 hx
 have h:=mW (hz ρ)
 rw [getElem!_def]
 have:=h.get (f i)
 revert this
 cases h':z.cells[f i]? with
 |none=>intro _;exact KO
 |some x=>intro h;cases h with|some h=>exact h
theorem DN[aI P](t:TypeId)(len:Nat){ps ps':Array (Nat×Value)}(h:LR (fun a b=>b.1=a.1∧VR ρ a.2 b.2) ps.toList ps'.toList):SR P VR ρ (Instr.buildSlice t len ps) (Instr.buildSlice t len ps'):=by
 unfold Instr.buildSlice
 refine (aj t).bz fun σ hσ d=>?_
 split
 ·rename_i elem
  refine (dV elem).bz fun τ jA size=>?_
  dsimp only
  split
  ·exact .dead fun _ _=>rfl
  ·have key:∀(υ:Env) (zero:Array Value),τ.Le υ→AR (VR υ) ((Array.range (len * size)).map fun x=>zero[x % zero.size]!) ((Array.range (len * size)).map fun x=>zero[x % zero.size]!) →
     SR P VR υ (match Instr.fill (fun i=>some (i * size,size)) ((Array.range (len * size)).map fun x=>zero[x % zero.size]!) ps.toList with
      |some cells=>(do pure (.slice (some (←newRow elem cells)) len len):Sem Value)|_=>Go.stuck "buildSlice: a part of the wrong size")
     (match Instr.fill (fun i=>some (i * size,size)) ((Array.range (len * size)).map fun x=>zero[x % zero.size]!) ps'.toList with
      |some cells=>(do pure (.slice (some (←newRow elem cells)) len len):Sem Value)|_=>Go.stuck "buildSlice: a part of the wrong size"):=by
    intro υ zero pJ hz
    have:=Ar (fun i=>some (i * size,size)) (h.mono fun _ _ x=>⟨x.1,x.2.mono ((hσ.trans jA).trans pJ)⟩) hz
    revert this
    generalize Instr.fill _ _ ps.toList=a
    generalize Instr.fill _ _ ps'.toList=b
    intro this
    cases this with
    |none=>exact .stuck
    |some h=>
     refine (yl elem elem h).bnd fun ω _ a a' h=>?_
     obtain ⟨h1,h2,_,rfl⟩:=h
     exact .aO (.slice h1 (.inl rfl))
   split
   ·rename_i h0
    refine SR.bz (SR.aO (R:=Same) rfl) fun υ pJ zero=>?_
    refine key υ zero pJ ?_
    rw [h0]
    exact Og _
   ·refine (wW elem).bnd fun υ pJ z z' hz=>?_
    obtain ⟨rfl,hz⟩:=hz
    refine SR.bnd (R:=fun _ a b=>a=b∧a=z.cells) (SR.aO ⟨rfl,rfl⟩) fun ω Dw zero zero' hz'=>?_
    obtain ⟨rfl,rfl⟩:=hz'
    exact key ω _ (pJ.trans Dw) (rW hz _ _)
 ·exact .stuck
end
end Go.Am
namespace Go.Am
open Go.Ren (grow fK aN au)
section
variable{P:Program}{ρ σ:Env}{α β γ δ:Type}
theorem KP{k:IntKind}{n:Int}{v:Value}(h:VR ρ (.int k n) v):v = .int k n:=by cases h;rfl
theorem qy{v v':Value}(h:VR ρ v v'):SR P (fun _ a b=>a=b∧v = .int a.1 a.2∧v' = .int a.1 a.2) ρ (asIntOf v) (asIntOf v'):=by
 cases h<;>first|exact .aO ⟨rfl,rfl,rfl⟩|exact .stuck|exact .KI
theorem wX{v v':Value}(h:VR ρ v v'):SR P Same ρ (asInt v) (asInt v'):=by
 unfold asInt
 exact (qy h).bnd fun σ _ a b e=>by obtain ⟨rfl,_⟩:=e;exact .aO rfl
theorem EH{v v':Value}(h:VR ρ v v'):SR P Same ρ (asBool v) (asBool v'):=by
 cases h<;>first|exact .aO rfl|exact .stuck
theorem TR{v v':Value}(h:VR ρ v v'):SR P (fun σ=>AR (VR σ)) ρ (asAgg v) (asAgg v'):=by
 cases h<;>first|exact .aO ⟨‹_›,‹_›⟩|exact .stuck
theorem kS{v v':Value}(h:VR ρ v v'):SR P (fun σ a a'=>σ.born a.block∧a' = σ.addr a) ρ (Instr.sureAddr v) (Instr.sureAddr v'):=by
 cases h<;>first|exact .aO ⟨‹_›,rfl⟩|exact .stuck
theorem yu{v v':Value}(h:VR ρ v v'):SR P (fun σ a a'=>σ.born a.block∧a' = σ.addr a) ρ (asAddr v) (asAddr v'):=by
 cases h<;>first|exact .aO ⟨‹_›,rfl⟩|exact .stuck|exact (show SR P _ ρ (runtimePanic .nilDeref) (runtimePanic .nilDeref) from .yh)
theorem PW(t:TypeId){v v':Value}(h:VR ρ v v'):SR P VR ρ (Instr.loadAt t v) (Instr.loadAt t v'):=by
 unfold Instr.loadAt
 exact (kS h).bnd fun σ _ a a' e=>by obtain ⟨h1,rfl⟩:=e;exact ql t h1
theorem KQ(t:TypeId){v v' x x':Value}(h:VR ρ v v')(hx:VR ρ x x'):SR P Same ρ (Instr.storeAt t v x) (Instr.storeAt t v' x'):=by
 unfold Instr.storeAt
 exact (kS h).bnd fun σ hσ a a' e=>by obtain ⟨h1,rfl⟩:=e;exact I7 t h1 (hx.mono hσ)
def wF(P:Program)(s:TypeId)(field:Nat):Bool:=
 match P.underlying s with
 |some (.struct fields)=>match fields[field]? with
  |some f=>match P.info? f.type with
   |some i=>i.size != 0
   |none=>true
  |none=>true
 |_=>true
theorem gY(t:TypeId):SR P (fun _ a b=>a=b∧P.underlying t=some a) ρ (underlying t) (underlying t):=by
 unfold underlying
 refine .prog ?_
 split
 ·rename_i d hd;exact .aO ⟨rfl,hd⟩
 ·exact .stuck
theorem KR(s:TypeId){v v':Value}(field:Nat)(hf:wF P s field=true)(h:VR ρ v v'):SR P VR ρ (Instr.fieldAt s v field) (Instr.fieldAt s v' field):=by
 unfold Instr.fieldAt
 refine (gY s).bnd fun σ hσ d d' e=>?_
 obtain ⟨rfl,hd⟩:=e
 split
 ·rename_i fields
  split
  ·rename_i f hfi
   refine (kS (h.mono hσ)).bnd fun τ jA a a' e=>?_
   obtain ⟨h1,rfl⟩:=e
   refine SR.bnd (R:=fun υ a a'=>υ.born a.block∧a' = υ.addr a) ?_ fun υ pJ x x' e=>by obtain ⟨h2,rfl⟩:=e;exact .aO (.ptr h2)
   unfold fieldPlace
   refine (BI f.type).bnd fun υ pJ n n' e=>?_
   obtain ⟨rfl,i,hi,rfl⟩:=e
   have:i.size≠0:=by
    unfold wF at hf
    rw [hd] at hf
    dsimp only at hf
    rw [hfi] at hf
    dsimp only at hf
    rw [hi] at hf
    simpa using hf
   rw [if_neg this,if_neg this]
   exact .aO ⟨by rw [block_add];exact pJ.born _ h1,by rw [addr_add,pJ.addr h1]⟩
  ·exact .stuck
 ·exact .stuck
theorem TS(t:TypeId){v v':Value}(field:Nat)(h:VR ρ v v'):SR P VR ρ (Instr.field t v field) (Instr.field t v' field):=by
 unfold Instr.field
 refine (aj t).bz fun σ hσ d=>?_
 split
 ·split
  ·exact (TR (h.mono hσ)).bnd fun τ jA a b e=>Gp _ e _
  ·exact .stuck
 ·exact .stuck
theorem TT(t:TypeId){v v' x x':Value}(h:VR ρ v v')(hx:VR ρ x x'):SR P VR ρ (Instr.index t v x) (Instr.index t v' x'):=by
 unfold Instr.index
 refine (qy hx).bnd fun σ hσ a b e=>?_
 obtain ⟨rfl,_⟩:=e
 obtain ⟨k,i⟩:=a
 refine (aj t).bz fun τ jA d=>?_
 cases h.mono (hσ.trans jA) with
 |agg hs hh=>
  cases d<;>first|exact .stuck|skip
  dsimp only
  split
  ·exact (dV _).bz fun υ pJ n=>Gp _ (AR.mono (R:=VR τ) (fun _ _ x=>x.mono pJ) ⟨hs,hh⟩) _
  ·exact .BF
 |string s=>
  cases d<;>first|exact .stuck|skip
  dsimp only
  generalize (if 0≤i then s[i.toNat]? else none)=x
  cases x with
  |none=>exact .BF
  |some b=>exact .aO (.int _ _)
 |_=>cases d<;>exact .stuck
def Gq(t:TypeId)(k:IntKind)(i:Int)(x:Option Addr×Nat×TypeId):Sem Value:=do
 let d ←underlying t
 match x.1 with
 |some a=>
  if 0≤i∧i < (x.2.1:Int) then do
   let n ←sizeOf x.2.2
   pure (Value.pointer (some (a.add (i.toNat * n))))
  else if (decide (x.2.1≤1) && match d with|TypeDesc.array len elem=>true|x=>false)=true then unsupported (Unsupported.noEntry "op/indexAddr.an index out of range at an array of length 0 or 1 (ledger 616)")
  else boundsPanic k i (x.2.1:Int) BoundsCode.index
 |none=>boundsPanic k i 0 BoundsCode.index
theorem vI(t:TypeId)(k:IntKind)(i:Int)(len:Nat)(elem:TypeId){b b':Option Addr}(e2:fB (fun a a'=>ρ.born a.block∧a' = ρ.addr a) b b'):SR P VR ρ (Gq t k i (b,len,elem)) (Gq t k i (b',len,elem)):=by
 unfold Gq
 refine (aj t).bz fun ω Dw d=>?_
 dsimp only
 cases e2 with
 |none=>exact .BF
 |some e2=>
  obtain ⟨h1,rfl⟩:=e2
  dsimp only
  split
  ·refine (dV elem).bz fun ψ hψ n=>.aO ?_
   rw [←(Dw.trans hψ).addr h1,←addr_add]
   exact .ptr (by rw [block_add];exact (Dw.trans hψ).born _ h1)
  ·split<;>(split<;>first|exact .KI|exact .BF)
theorem KT(t:TypeId){v v' x x':Value}(h:VR ρ v v')(hx:VR ρ x x'):SR P VR ρ (Instr.indexAt t v x) (Instr.indexAt t v' x'):=by
 unfold Instr.indexAt
 refine (qy hx).bnd fun σ hσ a b e=>?_
 obtain ⟨rfl,_⟩:=e
 obtain ⟨k,i⟩:=a
 dsimp only
 refine (aj t).bz fun τ jA d=>?_
 have h' :=h.mono (hσ.trans jA)
 cases d with
 |array len elem=>
  refine (kS h').bnd fun υ _ a a' e=>?_
  exact vI t k i len elem (.some e)
 |slice elem=>
  cases h'<;>first|exact .dead fun _ _=>rfl|skip
  ·rename_i n c;exact vI t k i n elem .none
  ·rename_i a n c c' hb hc;exact vI t k i n elem (.some ⟨hb,rfl⟩)
 |_=>cases h'<;>exact .dead fun _ _=>rfl
theorem KU{v v':Value}(i:Nat)(h:VR ρ v v'):SR P VR ρ (Instr.extract v i) (Instr.extract v' i):=by
 unfold Instr.extract
 cases h<;>first|exact .stuck|skip
 rename_i a a' hs h
 have:=AR.get (R:=VR ρ) ⟨hs,h⟩ i
 dsimp only
 revert this
 generalize a[i]? = x
 generalize a'[i]? = y
 intro this
 cases this with
 |none=>exact .stuck
 |some h=>exact .aO h
theorem rX{f f':Fn}{a a' b b':Array Value}(hf:O7 ρ f f')(ha:AR (VR ρ) a a')(hb:AR (VR ρ) b b'):SR P VR ρ (Instr.makeFunc f a b) (Instr.makeFunc f' a' b'):=.aO (.func hf ha.1 ha.2 hb.1 hb.2)
theorem yw(t:TypeId){v v':Value}(h:VR ρ v v'):SR P VR ρ (Instr.makeInterface t v) (Instr.makeInterface t v'):=by
 unfold Instr.makeInterface
 refine (aj t).bz fun σ hσ d=>?_
 split
 ·exact .stuck
 ·exact .aO (.iface (h.mono hσ))
theorem KW(t:TypeId){r r':Option Value}(h:fB (VR ρ) r r'):SR P VR ρ (Instr.makeMap t r) (Instr.makeMap t r'):=by
 unfold Instr.makeMap
 have fin:∀σ:Env,SR P VR σ (do pure (.map (some (←newObj (.map #[] 0)))):Sem Value) (do pure (.map (some (←newObj (.map #[] 0)))):Sem Value):=fun σ=>
  SR.bnd (R:=fun τ r r'=>τ.ob r r') (.new (.obj (.map .empty)) fun τ _ r r' hr=>.pure hr) fun τ _ r r' hr=>.aO (.map hr)
 cases h with
 |none=>exact fin ρ
 |some h=>
  dsimp only
  refine (aj t).bz fun σ hσ d=>?_
  split
  ·exact (wX (h.mono hσ)).bz fun τ _ _=>fin τ
  ·exact .dead fun _ _=>rfl
theorem Gs[aI P](t:TypeId){l l' c c':Value}(hl:VR ρ l l')(hc:VR ρ c c'):SR P VR ρ (Instr.makeSlice t l c) (Instr.makeSlice t l' c'):=by
 unfold Instr.makeSlice
 refine (aj t).bz fun σ hσ d=>?_
 split
 ·rename_i elem
  refine (wX (hl.mono hσ)).bz fun τ jA len=>?_
  refine (wX (hc.mono (hσ.trans jA))).bz fun υ pJ cap=>?_
  refine (gX elem).bnd fun ω Dw i i' e=>?_
  obtain ⟨rfl,_⟩:=e
  dsimp only
  split
  ·refine .dead ?_
   split
   ·exact mD _ (bG _)
   ·split
    ·exact mD _ (bG _)
    ·exact ug _ _ fun _=>mD _ (bG _)
  ·unfold askRoom
   split
   ·exact .mark
   ·refine SR.bz (SR.aO (R:=Same) rfl) fun ψ hψ _=>?_
    refine (dV elem).bz fun χ hχ n=>?_
    have key:∀(χ:Env) (zero:Array Value),AR (VR χ) ((Array.range ((IntKind.i64.wrap cap).toNat * n)).map fun x=>zero[x % zero.size]!) ((Array.range ((IntKind.i64.wrap cap).toNat * n)).map fun x=>zero[x % zero.size]!) →
      SR P VR χ (do pure (.slice (some (←newRow elem ((Array.range ((IntKind.i64.wrap cap).toNat * n)).map fun x=>zero[x % zero.size]!))) (IntKind.i64.wrap len).toNat (IntKind.i64.wrap cap).toNat):Sem Value) (do pure (.slice (some (←newRow elem ((Array.range ((IntKind.i64.wrap cap).toNat * n)).map fun x=>zero[x % zero.size]!))) (IntKind.i64.wrap len).toNat (IntKind.i64.wrap cap).toNat):Sem Value):=by
     intro χ zero hz
     refine (yl elem elem hz).bnd fun ξ _ a a' h=>?_
     obtain ⟨h1,h2,_,rfl⟩:=h
     exact .aO (.slice h1 (.inl rfl))
    split
    ·rename_i h0
     refine SR.bz (SR.aO (R:=Same) rfl) fun ξ hξ zero=>?_
     refine key ξ zero ?_
     rw [h0]
     exact Og _
    ·refine (wW elem).bnd fun ξ hξ z z' hz=>?_
     obtain ⟨rfl,hz⟩:=hz
     refine SR.bnd (R:=fun _ a b=>a=b∧a=z.cells) (SR.aO ⟨rfl,rfl⟩) fun ζ hζ zero zero' hz'=>?_
     obtain ⟨rfl,rfl⟩:=hz'
     exact key ζ _ (rW hz _ _)
 ·exact .stuck
end
end Go.Am
namespace Go.Am
open Go.Ren (grow fK aN au)
section
variable{P:Program}{ρ σ:Env}{α β γ δ:Type}
def EI:Option Value→Nat
 |some (.int _ i)=>i.toNat
 |_=>0
theorem gu{x x':Value}(hx:VR ρ x x')(y y':Nat)(c:BoundsCode)(hy:y≤y'):SR P (fun _ a b=>a=b∧a≤y∧a=EI (some x)) ρ (Instr.sliceBound x y c) (Instr.sliceBound x' y' c):=by
 unfold Instr.sliceBound
 refine (qy hx).bnd fun σ hσ a b e=>?_
 obtain ⟨rfl,e1,_⟩:=e
 obtain ⟨k,i⟩:=a
 dsimp only at e1 ⊢
 split
 ·rename_i h1
  rw [if_pos (by omega)]
  exact .aO ⟨rfl,by omega,by rw [e1];rfl⟩
 ·exact .BF
def SlR(cap cap':Nat)(lo mx:Option Value)(a b:Nat×Nat×Nat):Prop:=
 a.1=b.1∧a.2.1=b.2.1∧a.1≤a.2.1∧a.2.1≤a.2.2∧a.1=EI lo∧(mx≠none∧a.2.2=b.2.2∧a.2.2≤cap∨mx=none∧a.2.2=cap∧b.2.2=cap')
theorem jK{isSlice:Bool}{len cap cap':Nat}{lo lo' hi hi' mx mx':Option Value}(hlen:len≤cap)(hc:cap≤cap')(hlo:fB (VR ρ) lo lo')(hhi:fB (VR ρ) hi hi')(hmx:fB (VR ρ) mx mx') :
  SR P (fun _=>SlR cap cap' lo mx) ρ (Instr.sliceBounds isSlice len cap lo hi mx) (Instr.sliceBounds isSlice len cap' lo' hi' mx'):=by
 unfold Instr.sliceBounds
 dsimp only
 cases hmx with
 |none=>
  refine SR.bnd (R:=fun _ a b=>a=cap∧b=cap') (SR.aO ⟨rfl,rfl⟩) fun σ hσ m m' hm=>?_
  obtain ⟨rfl,rfl⟩:=hm
  cases hhi with
  |none=>
   refine SR.bnd (R:=fun _ a b=>a=len∧b=len) (SR.aO ⟨rfl,rfl⟩) fun τ jA a b e=>?_
   obtain ⟨rfl,rfl⟩:=e
   have oC:fB (VR τ) lo lo' :=by cases hlo with|none=>exact .none|some h=>exact .some (h.mono (hσ.trans jA))
   cases oC with
   |none=>exact SR.bnd (R:=fun _ a b=>a=0∧b=0) (SR.aO ⟨rfl,rfl⟩) fun υ _ l l' e=>by obtain ⟨rfl,rfl⟩:=e;exact .aO ⟨rfl,rfl,Nat.zero_le _,hlen,rfl,.inr ⟨rfl,rfl,rfl⟩⟩
   |some hx=>exact (gu hx _ _ _ (Nat.le_refl _)).bnd fun υ _ l l' e=>by obtain ⟨rfl,h1,h2⟩:=e;exact .aO ⟨rfl,rfl,h1,hlen,h2,.inr ⟨rfl,rfl,rfl⟩⟩
  |some hx=>
   refine (gu (hx.mono hσ) _ _ _ hc).bnd fun τ jA a b e=>?_
   obtain ⟨rfl,e1,_⟩:=e
   have oC:fB (VR τ) lo lo' :=by cases hlo with|none=>exact .none|some h=>exact .some (h.mono (hσ.trans jA))
   cases oC with
   |none=>exact SR.bnd (R:=fun _ a b=>a=0∧b=0) (SR.aO ⟨rfl,rfl⟩) fun υ _ l l' e=>by obtain ⟨rfl,rfl⟩:=e;exact .aO ⟨rfl,rfl,Nat.zero_le _,e1,rfl,.inr ⟨rfl,rfl,rfl⟩⟩
   |some hx=>exact (gu hx _ _ _ (Nat.le_refl _)).bnd fun υ _ l l' e=>by obtain ⟨rfl,h1,h2⟩:=e;exact .aO ⟨rfl,rfl,h1,e1,h2,.inr ⟨rfl,rfl,rfl⟩⟩
 |some hm=>
  refine (gu hm _ _ _ hc).bnd fun σ hσ m m' e=>?_
  obtain ⟨rfl,e1,_⟩:=e
  cases hhi with
  |none=>exact .dead fun _ _=>rfl
  |some hx=>
   refine (gu (hx.mono hσ) _ _ _ (Nat.le_refl _)).bnd fun τ jA a b e=>?_
   obtain ⟨rfl,e2,_⟩:=e
   have oC:fB (VR τ) lo lo' :=by cases hlo with|none=>exact .none|some h=>exact .some (h.mono (hσ.trans jA))
   cases oC with
   |none=>exact SR.bnd (R:=fun _ a b=>a=0∧b=0) (SR.aO ⟨rfl,rfl⟩) fun υ _ l l' e=>by obtain ⟨rfl,rfl⟩:=e;exact .aO ⟨rfl,rfl,Nat.zero_le _,e2,rfl,.inl ⟨by simp,rfl,e1⟩⟩
   |some hx=>exact (gu hx _ _ _ (Nat.le_refl _)).bnd fun υ _ l l' e=>by obtain ⟨rfl,h1,h2⟩:=e;exact .aO ⟨rfl,rfl,h1,e2,h2,.inl ⟨by simp,rfl,e1⟩⟩
theorem fB.mono{R S:α→β→Prop}(h:∀x y,R x y→S x y){a:Option α}{b:Option β}(k:fB R a b):fB S a b:=by cases k with|none=>exact .none|some x=>exact .some (h _ _ x)
def aax(P:Program)(ρ:Env)(t:TypeId)(x:Value)(lo mx:Option Value):Prop:=
 (∀arr,P.underlying t≠some (.pointer arr))∧(∀n c,x = .slice none n c→n≤c)∧∀a n c,x = .slice (some a) n c→n≤c∧(ρ.aV a.block→mx=none∧(EI lo < c∨EI lo=0)∧∀elem,P.underlying t=some (.slice elem)→∀i,P.info? elem=some i→i.size=ρ.u a.block)
theorem WJ(a:Addr)(n:Nat):(a.add n).off=a.off+n:=by
 unfold Addr.add
 by_cases h:n=0
 ·rw [if_pos h];omega
 ·rw [if_neg h]
theorem TW(t:TypeId){x x':Value}{lo lo' hi hi' mx mx':Option Value}(hx:VR ρ x x')(hlo:fB (VR ρ) lo lo')(hhi:fB (VR ρ) hi hi')(hmx:fB (VR ρ) mx mx')(hcut:aax P ρ t x lo mx) :
  SR P VR ρ (Instr.slice t x lo hi mx) (Instr.slice t x' lo' hi' mx'):=by
 unfold Instr.slice
 refine (gY t).bnd fun σ hσ d d' e=>?_
 obtain ⟨rfl,hd⟩:=e
 have oC :=hlo.mono fun _ _ (z:VR ρ _ _)=>z.mono hσ
 have TY :=hhi.mono fun _ _ (z:VR ρ _ _)=>z.mono hσ
 have TZ :=hmx.mono fun _ _ (z:VR ρ _ _)=>z.mono hσ
 cases d with
 |string=>
  cases hx.mono hσ with
  |string s=>
   cases TZ with
   |some _=>exact .dead fun _ _=>rfl
   |none=>
    refine (jK (Nat.le_refl _) (Nat.le_refl _) oC TY .none).bnd fun τ jA b b' e=>?_
    obtain ⟨e1,e2,_⟩:=e
    obtain ⟨l,h,m⟩:=b
    obtain ⟨l',h',m'⟩:=b'
    dsimp only at e1 e2 ⊢
    subst e1 e2
    exact .aO (.string _)
  |_=>exact .stuck
 |slice elem=>
  cases hx with
  |nilslice n c=>
   dsimp only
   have hnc:=hcut.2.1 n c rfl
   refine (jK hnc (Nat.le_refl _) oC TY TZ).bnd fun τ jA b b' e=>?_
   obtain ⟨e1,e2,_,_,_,e5⟩:=e
   obtain ⟨l,h,m⟩:=b
   obtain ⟨l',h',m'⟩:=b'
   dsimp only at e1 e2 e5 ⊢
   have e3:m=m' :=by rcases e5 with ⟨_,h,_⟩|⟨_,h,k⟩;exact h;omega
   subst e1 e2 e3
   refine (dV elem).bz fun υ pJ s=>?_
   have:(if m=l then (none:Option Addr) else Option.map (fun a=>Addr.add a (l * s)) none)=none:=by split<;>rfl
   rw [this]
   exact .aO (.nilslice _ _)
  | @slice a n c c' hb hc=>
   dsimp only
   obtain ⟨hnc,hsl⟩:=hcut.2.2 a n c rfl
   have hcc:c≤c' :=by rcases hc with rfl|⟨_,h,_⟩;exact Nat.le_refl _;exact h
   refine (jK hnc hcc oC TY TZ).bnd fun τ jA b b' e=>?_
   obtain ⟨e1,e2,e3,e4,e5,e6⟩:=e
   obtain ⟨l,h,m⟩:=b
   obtain ⟨l',h',m'⟩:=b'
   dsimp only at e1 e2 e3 e4 e5 e6 ⊢
   subst e1 e2
   refine (BI elem).bnd fun υ pJ s s' e=>?_
   obtain ⟨rfl,i,hi,rfl⟩:=e
   have hle:=(hσ.trans jA).trans pJ
   have hb' :=hle.born _ hb
   have Ua:m=m' → c' = c→SR P VR υ (Pure.pure (.slice (if m=l then some a else (some a).map (fun a=>Addr.add a (l * i.size))) (h - l) (m - l))) (Pure.pure (.slice (if m' = l then some (ρ.addr a) else (some (ρ.addr a)).map (fun a=>Addr.add a (l * i.size))) (h - l) (m' - l))):=by
    intro em ec
    subst em
    refine .aO ?_
    by_cases hml:m=l
    ·rw [if_pos hml,if_pos hml,←hle.addr hb]
     exact .slice hb' (.inl rfl)
    ·rw [if_neg hml,if_neg hml,Option.map_some,Option.map_some,←addr_add,←hle.addr (by rw [block_add];exact hb)]
     exact .slice (by rw [block_add];exact hb') (.inl rfl)
   rcases e6 with ⟨h1,h2,h3⟩|⟨h1,h2,h3⟩
   ·rcases hc with hc|⟨hc,_⟩
    ·exact Ua h2 hc
    ·exact absurd (hsl hc).1 h1
   ·rcases hc with hc|⟨hc,hc2,hc3⟩
    ·exact Ua (by omega) hc
    ·obtain ⟨_,h4,h5⟩:=hsl hc
     have hu:=h5 elem hd i hi
     refine .aO ?_
     have hadd:(if m' = l then some (ρ.addr a) else (some (ρ.addr a)).map (fun a=>Addr.add a (l * i.size)))=some (υ.addr (a.add (l * i.size))):=by
      rw [hle.addr (by rw [block_add];exact hb),addr_add]
      by_cases hml:m' = l
      ·rw [if_pos hml]
       have:l=0:=by omega
       subst this
       rw [Nat.zero_mul]
       rfl
      ·rw [if_neg hml];rfl
     have hadd':(if m=l then some a else (some a).map (fun a=>Addr.add a (l * i.size)))=some (a.add (l * i.size)):=by
      by_cases hml:m=l
      ·rw [if_pos hml]
       have:l=0:=by omega
       subst this
       rw [Nat.zero_mul]
       rfl
      ·rw [if_neg hml];rfl
     rw [hadd,hadd']
     refine .slice (by rw [block_add];exact hb') (.inr ⟨by rw [block_add];exact (hle.aV _ hb).2 hc,by omega,?_⟩)
     rw [block_add,WJ,hle.u _ hb,hle.ext _ hb,←hu]
     have hl:l≤c' :=by omega
     have:l * i.size+(m' - l) * i.size=m' * i.size:=by rw [←Nat.add_mul];congr 1;omega
     rw [←hu] at hc3
     rw [h3] at this ⊢
     omega
  |_=>exact .stuck
 |pointer arr=>
  exact absurd hd (hcut.1 arr)
 |_=>cases hx<;>exact .stuck
theorem KX(t:TypeId){x x':Value}{lo lo' hi hi' mx mx':Option Value}(hx:VR ρ x x')(hlo:fB (VR ρ) lo lo')(hhi:fB (VR ρ) hi hi')(hmx:fB (VR ρ) mx mx')(hcut:aax P ρ t x lo mx) :
  SR P VR ρ (Instr.sliceAt t x lo hi mx) (Instr.sliceAt t x' lo' hi' mx'):=by
 unfold Instr.sliceAt
 refine (aj t).bz fun σ hσ d=>?_
 split
 ·rename_i n elem
  refine (kS (hx.mono hσ)).bnd fun τ jA a a' e=>?_
  obtain ⟨hb,rfl⟩:=e
  have oC :=hlo.mono fun _ _ (z:VR ρ _ _)=>z.mono (hσ.trans jA)
  have TY :=hhi.mono fun _ _ (z:VR ρ _ _)=>z.mono (hσ.trans jA)
  have TZ :=hmx.mono fun _ _ (z:VR ρ _ _)=>z.mono (hσ.trans jA)
  refine (jK (Nat.le_refl _) (Nat.le_refl _) oC TY TZ).bnd fun υ pJ b b' e=>?_
  obtain ⟨e1,e2,_,_,_,e5⟩:=e
  obtain ⟨l,h,m⟩:=b
  obtain ⟨l',h',m'⟩:=b'
  dsimp only at e1 e2 e5 ⊢
  have e3:m=m' :=by rcases e5 with ⟨_,h,_⟩|⟨_,h,k⟩;exact h;omega
  subst e1 e2 e3
  refine (dV elem).bz fun ω Dw s=>?_
  have hb' :=Dw.born _ (pJ.born _ hb)
  have hle:=pJ.trans Dw
  refine .aO ?_
  by_cases hml:m=l
  ·rw [if_pos hml,if_pos hml,←hle.addr hb]
   exact .slice hb' (.inl rfl)
  ·rw [if_neg hml,if_neg hml,←addr_add,←hle.addr (by rw [block_add];exact hb)]
   exact .slice (by rw [block_add];exact hb') (.inl rfl)
 ·refine TW t (hx.mono hσ) (hlo.mono fun _ _ z=>z.mono hσ) (hhi.mono fun _ _ z=>z.mono hσ) (hmx.mono fun _ _ z=>z.mono hσ) ⟨hcut.1,hcut.2.1,fun a n c e=>?_⟩
  subst e
  obtain ⟨h1,h2⟩:=hcut.2.2 a n c rfl
  have hb:ρ.born a.block:=by cases hx;assumption
  refine ⟨h1,fun h=>?_⟩
  rw [hσ.u _ hb]
  exact h2 ((hσ.aV _ hb).1 h)
end
end Go.Am
namespace Go.Am
open Go.Ren (grow fK aN au)
section
variable{P:Program}{ρ σ:Env}{α β γ δ:Type}
abbrev FR(ρ:Env):Option (Nat×Value)→Option (Nat×Value)→Prop:=fB fun p q=>p.1=q.1∧VR ρ p.2 q.2
theorem KY(kind:TypeDesc)(k:Value){es es':List MapEntry}(h:LR (fM ρ) es es'):∀i,fB (FR ρ) (Instr.findNow kind k es i) (Instr.findNow kind k es' i):=by
 induction h with
 |nil=>intro i;exact .some .none
 | @cons e e' l m he _ ih=>
  intro i
  unfold Instr.findNow
  rw [he.key]
  split
  ·exact .some (.some ⟨rfl,he.val⟩)
  ·exact ih _
  ·exact .none
theorem DT(t:TypeId){k:Value}(hk:Plain k){es es':List MapEntry}:∀ {ρ:Env} (i:Nat),LR (fM ρ) es es' → SR P (fun σ=>FR σ) ρ (Instr.findAsking t k es i) (Instr.findAsking t k es' i):=by
 induction es generalizing es' with
 |nil=>intro ρ i h;cases h;exact .aO .none
 |cons e l ih=>
  intro ρ i h
  cases h with
  |cons he hl=>
   unfold Instr.findAsking
   rw [he.key]
   refine (SR.dry (EE t hk he.plain)).bz fun σ hσ b=>?_
   split
   ·exact .aO (.some ⟨rfl,he.val.mono hσ⟩)
   ·exact ih (i+1) (hl.mono fun _ _ x=>x.mono hσ)
theorem vJ(t:TypeId){k:Value}(hk:Plain k){es es':List MapEntry}(h:LR (fM ρ) es es'):SR P (fun σ=>FR σ) ρ (Instr.findKey t k es) (Instr.findKey t k es'):=by
 unfold Instr.findKey
 refine (aj t).bz fun σ hσ d=>?_
 have h' :=h.mono fun _ _ (x:fM ρ _ _)=>x.mono hσ
 have:=KY d k h' 0
 revert this
 generalize Instr.findNow d k es 0=a
 generalize Instr.findNow d k es' 0=b
 intro this
 cases this with
 |none=>exact DT t hk 0 h'
 |some h=>exact .aO h
theorem jw{r r':Nat}(hr:ρ.ob r r'){R:Env→α→β→Prop}{f:Obj→Sem α}{f':Obj→Sem β}(hf:∀es es' k,AR (fM ρ) es es' → SR P R ρ (f (.map es k)) (f' (.map es' k)))(hd:∀o,(∀es k,o ≠ .map es k)→Dead P (f o)):SR P R ρ (getObj r >>= f) (getObj r' >>= f'):=by
 refine .getObj hr fun o o' ho=>?_
 cases ho with
 |map h=>exact hf _ _ _ h
 |_=>exact .dead (hd _ (fun es k e=>by cases e))
theorem rY(b:Bool)(t:TypeId){k:Value}(hk:Plain k):SR P Same ρ (Instr.checkKey b 10000 t k) (Instr.checkKey b 10000 t k):=.dry (lQ b 10000 t k hk)
theorem FR.fst{a b:Option (Nat×Value)}(h:FR ρ a b){γ:Type}(n:γ)(f:Nat→γ):(match a with|some (i,_)=>f i|none=>n)=(match b with|some (i,_)=>f i|none=>n):=by
 cases h with
 |none=>rfl
 | @some x y h=>obtain ⟨i,v⟩:=x;obtain ⟨j,u⟩:=y;obtain ⟨e,_⟩:=h;cases e;rfl
theorem PX[aI P](t:TypeId){m m' k k':Value}(c:Bool)(hm:VR ρ m m')(hk:VR ρ k k')(hp:Plain k):SR P VR ρ (Instr.lookup t m k c) (Instr.lookup t m' k' c):=by
 have:=hp.eq hk
 subst this
 unfold Instr.lookup
 refine (aj t).bz fun σ hσ d=>?_
 split
 ·rename_i key elem
  have tail:∀(τ:Env) (es es':Array MapEntry),AR (fM τ) es es' → SR P VR τ (do
    Instr.checkKey es.isEmpty 10000 key k'
    let (v,ok) ←match ←Instr.findKey key k' es.toList with
     |some (_,v)=>pure (v,true)
     |none=>pure (←zeroValue elem,false)
    pure (if c then .tuple #[v,.bool ok] else v):Sem Value) (do
    Instr.checkKey es'.isEmpty 10000 key k'
    let (v,ok) ←match ←Instr.findKey key k' es'.toList with
     |some (_,v)=>pure (v,true)
     |none=>pure (←zeroValue elem,false)
    pure (if c then .tuple #[v,.bool ok] else v):Sem Value):=by
   intro τ es es' h
   have he:es'.isEmpty=es.isEmpty:=by simp only [Array.isEmpty,h.1]
   rw [he]
   refine (rY _ key hp).bz fun υ pJ _=>?_
   refine (vJ key hp (h.mono fun _ _ x=>x.mono pJ).list).bnd fun ω Dw a b hab=>?_
   have fin:∀(ψ:Env) (v u:Value) (ok:Bool),VR ψ v u→SR P VR ψ (Pure.pure (if c then .tuple #[v,.bool ok] else v)) (Pure.pure (if c then .tuple #[u,.bool ok] else u)):=by
    intro ψ v u ok h
    refine .aO ?_
    split
    ·exact uj h (.bool _)
    ·exact h
   cases hab with
   |none=>exact (Gm elem).bnd fun ψ _ v u h=>fin ψ v u false h
   | @some x y h=>obtain ⟨i,v⟩:=x;obtain ⟨j,u⟩:=y;exact fin ω v u true h.2
  cases hm.mono hσ with
  |dB=>exact tail σ #[] #[] .empty
  |map hr=>exact jw hr (fun es es' n h=>tail σ es es' h) fun o ho=>by cases o<;>first|exact absurd rfl (ho _ _)|exact fun _ _=>rfl
  |_=>exact .dead fun _ _=>rfl
 ·exact .stuck
theorem qL{a b:Value}(ha:Plain a)(hb:Plain b):SR P (fun _ x y=>x=y∧Plain x) ρ (Instr.keyThatStays a b) (Instr.keyThatStays a b):=by
 unfold Instr.keyThatStays
 split
 ·exact .aO ⟨rfl,hb⟩
 ·refine SR.bz (s:=choose _) (.choose fun n=>.pure rfl) fun σ _ n=>.aO ⟨rfl,?_⟩
  split<;>assumption
theorem Ub{es es':Array MapEntry}(h:AR (fM ρ) es es')(i:Nat)(k:Value)(hk:Plain k):((es'[i]?).map (·.key)).getD k=((es[i]?).map (·.key)).getD k∧Plain (((es[i]?).map (·.key)).getD k):=by
 have:=h.get i
 revert this
 generalize es[i]? = a
 generalize es'[i]? = b
 intro this
 cases this with
 |none=>exact ⟨rfl,hk⟩
 |some h=>exact ⟨h.key,h.plain⟩
theorem WL{es es':Array MapEntry}(h:AR (fM ρ) es es')(i:Nat):((es'[i]?).map fun x=>(x.born:Int)).getD 0=((es[i]?).map fun x=>(x.born:Int)).getD 0:=by
 have:=h.get i
 revert this
 generalize es[i]? = a
 generalize es'[i]? = b
 intro this
 cases this with
 |none=>rfl
 |some h=>simp only [Option.map_some,h.born]
theorem AR.modify{R:α→β→Prop}{a:Array α}{b:Array β}(h:AR R a b)(i:Nat){f:α→α}{g:β→β}(hf:∀x y,R x y→R (f x) (g y)):AR R (a.modify i f) (b.modify i g):=by
 refine ⟨by simp [h.1],fun j x y hx hy=>?_⟩
 rw [Array.getElem?_modify] at hx hy
 have:=h.get j
 revert this hx hy
 generalize a[j]? = u
 generalize b[j]? = v
 intro hx hy this
 cases this with
 |none=>split at hx<;>cases hx
 |some hr=>
  split at hx
  ·rename_i e;rw [if_pos e] at hy;cases hx;cases hy;exact hf _ _ hr
  ·rename_i e;rw [if_neg e] at hy;cases hx;cases hy;exact hr
theorem wY(t:TypeId){m m' k k' v v':Value}(hm:VR ρ m m')(hk:VR ρ k k')(hp:Plain k)(hv:VR ρ v v'):SR P Same ρ (Instr.mapUpdate t m k v) (Instr.mapUpdate t m' k' v'):=by
 have:=hp.eq hk
 subst this
 unfold Instr.mapUpdate
 refine (aj t).bz fun σ hσ d=>?_
 split
 ·rename_i key elem
  cases hm.mono hσ with
  |dB=>exact .dead (bG _)
  |map hr=>
   refine jw hr (fun es es' n h=>?_) fun o ho=>by cases o<;>first|exact absurd rfl (ho _ _)|exact fun _ _=>rfl
   refine (rY _ key hp).bz fun τ jA _=>?_
   have h' :=h.mono fun _ _ (x:fM σ _ _)=>x.mono jA
   refine (vJ key hp h'.list).bnd fun υ pJ a b hab=>?_
   have h2:=h'.mono fun _ _ (x:fM τ _ _)=>x.mono pJ
   have hv2:=hv.mono ((hσ.trans jA).trans pJ)
   cases hab with
   |none=>
    exact .setObj ((jA.trans pJ).ob hr) (.map (h2.push ⟨hp,rfl,hv2,rfl⟩)) (.pure rfl)
   | @some x y h=>
    obtain ⟨i,w⟩:=x
    obtain ⟨j,u⟩:=y
    obtain ⟨e,_⟩:=h
    dsimp only at e ⊢
    subst e
    obtain ⟨e1,e2⟩:=Ub h2 i k' hp
    rw [e1]
    refine (qL e2 hp).bnd fun ω Dw a b e=>?_
    obtain ⟨rfl,hpa⟩:=e
    exact .setObj (((jA.trans pJ).trans Dw).ob hr) (.map ((h2.mono fun _ _ x=>x.mono Dw).modify i fun x y h=>⟨hpa,rfl,hv2.mono Dw,h.born⟩)) (.pure rfl)
  |_=>exact .stuck
 ·exact .stuck
theorem I9[aI P](t:TypeId){m m' k k':Value}(hm:VR ρ m m')(hk:VR ρ k k')(hp:Plain k):SR P VR ρ (Instr.mapEntry t m k) (Instr.mapEntry t m' k'):=by
 have:=hp.eq hk
 subst this
 unfold Instr.mapEntry
 refine (aj t).bz fun σ hσ d=>?_
 split
 ·rename_i key elem
  cases hm.mono hσ with
  |dB=>exact .dead (bG _)
  |map hr=>
   refine jw hr (fun es es' n h=>?_) fun o ho=>by cases o<;>first|exact absurd rfl (ho _ _)|exact fun _ _=>rfl
   refine (rY _ key hp).bz fun τ jA _=>?_
   have h' :=h.mono fun _ _ (x:fM σ _ _)=>x.mono jA
   refine (vJ key hp h'.list).bnd fun υ pJ a b hab=>?_
   have h2:=h'.mono fun _ _ (x:fM τ _ _)=>x.mono pJ
   cases hab with
   |none=>
    refine (Gm elem).bnd fun ω Dw z z' hz=>?_
    exact .setObj (((jA.trans pJ).trans Dw).ob hr) (.map ((h2.mono fun _ _ x=>x.mono Dw).push ⟨hp,rfl,hz,rfl⟩)) (.pure (uj hz (.int _ _)))
   | @some x y h=>
    obtain ⟨i,w⟩:=x
    obtain ⟨j,u⟩:=y
    obtain ⟨e,hw⟩:=h
    dsimp only at e hw ⊢
    subst e
    obtain ⟨e1,e2⟩:=Ub h2 i k' hp
    rw [e1,WL h2 i]
    refine (qL e2 hp).bnd fun ω Dw a b e=>?_
    obtain ⟨rfl,hpa⟩:=e
    exact .setObj (((jA.trans pJ).trans Dw).ob hr) (.map ((h2.mono fun _ _ x=>x.mono Dw).modify i fun x y h=>⟨hpa,rfl,h.val,h.born⟩)) (.pure (uj (hw.mono Dw) (.int _ _)))
  |_=>exact .stuck
 ·exact .stuck
theorem LR.findIdx{R:α→β→Prop}{l:List α}{m:List β}(h:LR R l m){p:α→Bool}{q:β→Bool}(hpq:∀x y,R x y→q y=p x):m.findIdx? q=l.findIdx? p:=by
 induction h with
 |nil=>rfl
 |cons h _ ih=>simp only [List.findIdx?_cons,hpq _ _ h,ih]
theorem DU(t:TypeId){m m' k k' v v':Value}(hm:VR ρ m m')(hk:VR ρ k k')(hv:VR ρ v v'):SR P Same ρ (Instr.entryStore t m k v) (Instr.entryStore t m' k' v'):=by
 unfold Instr.entryStore
 cases hm with
 |map hr=>
  refine jw hr (fun es es' n h=>?_) fun o ho=>by cases o<;>first|exact absurd rfl (ho _ _)|exact fun _ _=>rfl
  refine (wX hk).bz fun σ hσ b=>?_
  have h' :=h.mono fun _ _ (x:fM ρ _ _)=>x.mono hσ
  have hidx:es'.findIdx? (fun e=>(e.born:Int) == b)=es.findIdx? (fun e=>(e.born:Int) == b):=by
   have:=h'.list.findIdx (p:=fun e=>(e.born:Int) == b) (q:=fun e=>(e.born:Int) == b) fun x y hxy=>by rw [hxy.born]
   obtain ⟨l⟩:=es
   obtain ⟨l'⟩:=es'
   rw [List.findIdx?_toArray,List.findIdx?_toArray]
   exact this
  rw [hidx]
  split
  ·rename_i i _
   exact .setObj (hσ.ob hr) (.map (h'.modify _ fun x y h=>⟨h.plain,h.key,hv.mono hσ,h.born⟩)) (.pure rfl)
  ·exact .KI
 |_=>exact .dead fun _ _=>rfl
end
end Go.Am
