import Derived.Test.YtmgllphkofdnhaaGreatH3
set_option linter.unusedVariables false
set_option linter.unusedSectionVars false
set_option linter.unusedSimpArgs false
namespace Go.Am
open Go.Ren (grow EvO Guar Rely)
section
variable{P:Program}{ρ σ:Env}{α β γ δ:Type}
theorem vr_int_inv{k:IntKind}{n:Int}{v:Value}(h:VR ρ (.int k n) v):v = .int k n:=by cases h;rfl
theorem sr_asIntOf{v v':Value}(h:VR ρ v v'):SR P (fun _ a b=>a=b∧v = .int a.1 a.2∧v' = .int a.1 a.2) ρ (asIntOf v) (asIntOf v'):=by
 cases h<;>first|exact .pur ⟨rfl,rfl,rfl⟩|exact .stuck|exact .uns
theorem sr_asInt{v v':Value}(h:VR ρ v v'):SR P Same ρ (asInt v) (asInt v'):=by
 unfold asInt
 exact (sr_asIntOf h).bnd fun σ _ a b e=>by obtain ⟨rfl,_⟩:=e;exact .pur rfl
theorem sr_asBool{v v':Value}(h:VR ρ v v'):SR P Same ρ (asBool v) (asBool v'):=by
 cases h<;>first|exact .pur rfl|exact .stuck
theorem sr_asAgg{v v':Value}(h:VR ρ v v'):SR P (fun σ=>AR (VR σ)) ρ (asAgg v) (asAgg v'):=by
 cases h<;>first|exact .pur ⟨‹_›,‹_›⟩|exact .stuck
theorem sr_sureAddr{v v':Value}(h:VR ρ v v'):SR P (fun σ a a'=>σ.born a.block∧a' = σ.addr a) ρ (Instr.sureAddr v) (Instr.sureAddr v'):=by
 cases h<;>first|exact .pur ⟨‹_›,rfl⟩|exact .stuck
theorem sr_asAddr{v v':Value}(h:VR ρ v v'):SR P (fun σ a a'=>σ.born a.block∧a' = σ.addr a) ρ (asAddr v) (asAddr v'):=by
 cases h<;>first|exact .pur ⟨‹_›,rfl⟩|exact .stuck|exact (show SR P _ ρ (runtimePanic .nilDeref) (runtimePanic .nilDeref) from .rpanic)
theorem sr_loadAt(t:TypeId){v v':Value}(h:VR ρ v v'):SR P VR ρ (Instr.loadAt t v) (Instr.loadAt t v'):=by
 unfold Instr.loadAt
 exact (sr_sureAddr h).bnd fun σ _ a a' e=>by obtain ⟨h1,rfl⟩:=e;exact sr_loadVar t h1
theorem sr_storeAt(t:TypeId){v v' x x':Value}(h:VR ρ v v')(hx:VR ρ x x'):SR P Same ρ (Instr.storeAt t v x) (Instr.storeAt t v' x'):=by
 unfold Instr.storeAt
 exact (sr_sureAddr h).bnd fun σ hσ a a' e=>by obtain ⟨h1,rfl⟩:=e;exact sr_storeVar t h1 (hx.mono hσ)
def fieldOk(P:Program)(s:TypeId)(field:Nat):Bool:=
 match P.underlying s with
 |some (.struct fields)=>match fields[field]? with
  |some f=>match P.info? f.type with
   |some i=>i.size != 0
   |none=>true
  |none=>true
 |_=>true
theorem sr_underlyingI(t:TypeId):SR P (fun _ a b=>a=b∧P.underlying t=some a) ρ (underlying t) (underlying t):=by
 unfold underlying
 refine .prog ?_
 split
 ·rename_i d hd;exact .pur ⟨rfl,hd⟩
 ·exact .stuck
theorem sr_fieldAt(s:TypeId){v v':Value}(field:Nat)(hf:fieldOk P s field=true)(h:VR ρ v v'):SR P VR ρ (Instr.fieldAt s v field) (Instr.fieldAt s v' field):=by
 unfold Instr.fieldAt
 refine (sr_underlyingI s).bnd fun σ hσ d d' e=>?_
 obtain ⟨rfl,hd⟩:=e
 split
 ·rename_i fields
  split
  ·rename_i f hfi
   refine (sr_sureAddr (h.mono hσ)).bnd fun τ hτ a a' e=>?_
   obtain ⟨h1,rfl⟩:=e
   refine SR.bnd (R:=fun υ a a'=>υ.born a.block∧a' = υ.addr a) ?_ fun υ hυ x x' e=>by obtain ⟨h2,rfl⟩:=e;exact .pur (.ptr h2)
   unfold fieldPlace
   refine (sr_sizeOfI f.type).bnd fun υ hυ n n' e=>?_
   obtain ⟨rfl,i,hi,rfl⟩:=e
   have:i.size≠0:=by
    unfold fieldOk at hf
    rw [hd] at hf
    dsimp only at hf
    rw [hfi] at hf
    dsimp only at hf
    rw [hi] at hf
    simpa using hf
   rw [if_neg this,if_neg this]
   exact .pur ⟨by rw [block_add];exact hυ.born _ h1,by rw [addr_add,hυ.addr h1]⟩
  ·exact .stuck
 ·exact .stuck
theorem sr_field(t:TypeId){v v':Value}(field:Nat)(h:VR ρ v v'):SR P VR ρ (Instr.field t v field) (Instr.field t v' field):=by
 unfold Instr.field
 refine (sr_underlying t).bndS fun σ hσ d=>?_
 split
 ·split
  ·exact (sr_asAgg (h.mono hσ)).bnd fun τ hτ a b e=>sr_part _ e _
  ·exact .stuck
 ·exact .stuck
theorem sr_index(t:TypeId){v v' x x':Value}(h:VR ρ v v')(hx:VR ρ x x'):SR P VR ρ (Instr.index t v x) (Instr.index t v' x'):=by
 unfold Instr.index
 refine (sr_asIntOf hx).bnd fun σ hσ a b e=>?_
 obtain ⟨rfl,_⟩:=e
 obtain ⟨k,i⟩:=a
 refine (sr_underlying t).bndS fun τ hτ d=>?_
 cases h.mono (hσ.trans hτ) with
 |agg hs hh=>
  cases d<;>first|exact .stuck|skip
  dsimp only
  split
  ·exact (sr_sizeOf _).bndS fun υ hυ n=>sr_part _ (AR.mono (R:=VR τ) (fun _ _ x=>x.mono hυ) ⟨hs,hh⟩) _
  ·exact .bpanic
 |string s=>
  cases d<;>first|exact .stuck|skip
  dsimp only
  generalize (if 0≤i then s[i.toNat]? else none)=x
  cases x with
  |none=>exact .bpanic
  |some b=>exact .pur (.int _ _)
 |_=>cases d<;>exact .stuck
def idxTail(t:TypeId)(k:IntKind)(i:Int)(x:Option Addr×Nat×TypeId):Sem Value:=do
 let d ←underlying t
 match x.1 with
 |some a=>
  if 0≤i∧i < (x.2.1:Int) then do
   let n ←sizeOf x.2.2
   pure (Value.pointer (some (a.add (i.toNat * n))))
  else if (decide (x.2.1≤1) && match d with|TypeDesc.array len elem=>true|x=>false)=true then unsupported (Unsupported.noEntry "op/indexAddr.an index out of range at an array of length 0 or 1 (ledger 616)")
  else boundsPanic k i (x.2.1:Int) BoundsCode.index
 |none=>boundsPanic k i 0 BoundsCode.index
theorem sr_idxTail(t:TypeId)(k:IntKind)(i:Int)(len:Nat)(elem:TypeId){b b':Option Addr}(e2:OptR (fun a a'=>ρ.born a.block∧a' = ρ.addr a) b b'):SR P VR ρ (idxTail t k i (b,len,elem)) (idxTail t k i (b',len,elem)):=by
 unfold idxTail
 refine (sr_underlying t).bndS fun ω hω d=>?_
 dsimp only
 cases e2 with
 |none=>exact .bpanic
 |some e2=>
  obtain ⟨h1,rfl⟩:=e2
  dsimp only
  split
  ·refine (sr_sizeOf elem).bndS fun ψ hψ n=>.pur ?_
   rw [←(hω.trans hψ).addr h1,←addr_add]
   exact .ptr (by rw [block_add];exact (hω.trans hψ).born _ h1)
  ·split<;>(split<;>first|exact .uns|exact .bpanic)
theorem sr_indexAt(t:TypeId){v v' x x':Value}(h:VR ρ v v')(hx:VR ρ x x'):SR P VR ρ (Instr.indexAt t v x) (Instr.indexAt t v' x'):=by
 unfold Instr.indexAt
 refine (sr_asIntOf hx).bnd fun σ hσ a b e=>?_
 obtain ⟨rfl,_⟩:=e
 obtain ⟨k,i⟩:=a
 dsimp only
 refine (sr_underlying t).bndS fun τ hτ d=>?_
 have h' :=h.mono (hσ.trans hτ)
 cases d with
 |array len elem=>
  refine (sr_sureAddr h').bnd fun υ _ a a' e=>?_
  exact sr_idxTail t k i len elem (.some e)
 |slice elem=>
  cases h'<;>first|exact .dead fun _ _=>rfl|skip
  ·rename_i n c;exact sr_idxTail t k i n elem .none
  ·rename_i a n c c' hb hc;exact sr_idxTail t k i n elem (.some ⟨hb,rfl⟩)
 |_=>cases h'<;>exact .dead fun _ _=>rfl
theorem sr_extract{v v':Value}(i:Nat)(h:VR ρ v v'):SR P VR ρ (Instr.extract v i) (Instr.extract v' i):=by
 unfold Instr.extract
 cases h<;>first|exact .stuck|skip
 rename_i a a' hs h
 have:=AR.get (R:=VR ρ) ⟨hs,h⟩ i
 dsimp only
 revert this
 generalize a[i]? = x
 generalize a'[i]? = y
 intro this
 cases this with
 |none=>exact .stuck
 |some h=>exact .pur h
theorem sr_makeFunc{f f':Fn}{a a' b b':Array Value}(hf:FnR ρ f f')(ha:AR (VR ρ) a a')(hb:AR (VR ρ) b b'):SR P VR ρ (Instr.makeFunc f a b) (Instr.makeFunc f' a' b'):=.pur (.func hf ha.1 ha.2 hb.1 hb.2)
theorem sr_makeInterface(t:TypeId){v v':Value}(h:VR ρ v v'):SR P VR ρ (Instr.makeInterface t v) (Instr.makeInterface t v'):=by
 unfold Instr.makeInterface
 refine (sr_underlying t).bndS fun σ hσ d=>?_
 split
 ·exact .stuck
 ·exact .pur (.iface (h.mono hσ))
theorem sr_makeMap(t:TypeId){r r':Option Value}(h:OptR (VR ρ) r r'):SR P VR ρ (Instr.makeMap t r) (Instr.makeMap t r'):=by
 unfold Instr.makeMap
 have fin:∀σ:Env,SR P VR σ (do pure (.map (some (←newObj (.map #[] 0)))):Sem Value) (do pure (.map (some (←newObj (.map #[] 0)))):Sem Value):=fun σ=>
  SR.bnd (R:=fun τ r r'=>τ.ob r r') (.new (.obj (.map .empty)) fun τ _ r r' hr=>.pure hr) fun τ _ r r' hr=>.pur (.map hr)
 cases h with
 |none=>exact fin ρ
 |some h=>
  dsimp only
  refine (sr_underlying t).bndS fun σ hσ d=>?_
  split
  ·exact (sr_asInt (h.mono hσ)).bndS fun τ _ _=>fin τ
  ·exact .dead fun _ _=>rfl
theorem sr_makeSlice[Zeros P](t:TypeId){l l' c c':Value}(hl:VR ρ l l')(hc:VR ρ c c'):SR P VR ρ (Instr.makeSlice t l c) (Instr.makeSlice t l' c'):=by
 unfold Instr.makeSlice
 refine (sr_underlying t).bndS fun σ hσ d=>?_
 split
 ·rename_i elem
  refine (sr_asInt (hl.mono hσ)).bndS fun τ hτ len=>?_
  refine (sr_asInt (hc.mono (hσ.trans hτ))).bndS fun υ hυ cap=>?_
  refine (sr_typeInfo elem).bnd fun ω hω i i' e=>?_
  obtain ⟨rfl,_⟩:=e
  dsimp only
  split
  ·refine .dead ?_
   split
   ·exact dead_left _ (dead_rpanic _)
   ·split
    ·exact dead_left _ (dead_rpanic _)
    ·exact dead_bind _ _ fun _=>dead_left _ (dead_rpanic _)
  ·unfold askRoom
   split
   ·exact .mark
   ·refine SR.bndS (SR.pur (R:=Same) rfl) fun ψ hψ _=>?_
    refine (sr_sizeOf elem).bndS fun χ hχ n=>?_
    have key:∀(χ:Env) (zero:Array Value),AR (VR χ) ((Array.range ((IntKind.i64.wrap cap).toNat * n)).map fun x=>zero[x % zero.size]!) ((Array.range ((IntKind.i64.wrap cap).toNat * n)).map fun x=>zero[x % zero.size]!) →
      SR P VR χ (do pure (.slice (some (←newRow elem ((Array.range ((IntKind.i64.wrap cap).toNat * n)).map fun x=>zero[x % zero.size]!))) (IntKind.i64.wrap len).toNat (IntKind.i64.wrap cap).toNat):Sem Value) (do pure (.slice (some (←newRow elem ((Array.range ((IntKind.i64.wrap cap).toNat * n)).map fun x=>zero[x % zero.size]!))) (IntKind.i64.wrap len).toNat (IntKind.i64.wrap cap).toNat):Sem Value):=by
     intro χ zero hz
     refine (sr_newRow elem elem hz).bnd fun ξ _ a a' h=>?_
     obtain ⟨h1,h2,_,rfl⟩:=h
     exact .pur (.slice h1 (.inl rfl))
    split
    ·rename_i h0
     refine SR.bndS (SR.pur (R:=Same) rfl) fun ξ hξ zero=>?_
     refine key ξ zero ?_
     rw [h0]
     exact ar_none _
    ·refine (sr_zeroS elem).bnd fun ξ hξ z z' hz=>?_
     obtain ⟨rfl,hz⟩:=hz
     refine SR.bnd (R:=fun _ a b=>a=b∧a=z.cells) (SR.pur ⟨rfl,rfl⟩) fun ζ hζ zero zero' hz'=>?_
     obtain ⟨rfl,rfl⟩:=hz'
     exact key ζ _ (zeros_ar hz _ _)
 ·exact .stuck
end
end Go.Am
namespace Go.Am
open Go.Ren (grow EvO Guar Rely)
section
variable{P:Program}{ρ σ:Env}{α β γ δ:Type}
def lowOf:Option Value→Nat
 |some (.int _ i)=>i.toNat
 |_=>0
theorem sr_sliceBound{x x':Value}(hx:VR ρ x x')(y y':Nat)(c:BoundsCode)(hy:y≤y'):SR P (fun _ a b=>a=b∧a≤y∧a=lowOf (some x)) ρ (Instr.sliceBound x y c) (Instr.sliceBound x' y' c):=by
 unfold Instr.sliceBound
 refine (sr_asIntOf hx).bnd fun σ hσ a b e=>?_
 obtain ⟨rfl,e1,_⟩:=e
 obtain ⟨k,i⟩:=a
 dsimp only at e1 ⊢
 split
 ·rename_i h1
  rw [if_pos (by omega)]
  exact .pur ⟨rfl,by omega,by rw [e1];rfl⟩
 ·exact .bpanic
def SlR(cap cap':Nat)(lo mx:Option Value)(a b:Nat×Nat×Nat):Prop:=
 a.1=b.1∧a.2.1=b.2.1∧a.1≤a.2.1∧a.2.1≤a.2.2∧a.1=lowOf lo∧(mx≠none∧a.2.2=b.2.2∧a.2.2≤cap∨mx=none∧a.2.2=cap∧b.2.2=cap')
theorem sr_sliceBounds{isSlice:Bool}{len cap cap':Nat}{lo lo' hi hi' mx mx':Option Value}(hlen:len≤cap)(hc:cap≤cap')(hlo:OptR (VR ρ) lo lo')(hhi:OptR (VR ρ) hi hi')(hmx:OptR (VR ρ) mx mx') :
  SR P (fun _=>SlR cap cap' lo mx) ρ (Instr.sliceBounds isSlice len cap lo hi mx) (Instr.sliceBounds isSlice len cap' lo' hi' mx'):=by
 unfold Instr.sliceBounds
 dsimp only
 cases hmx with
 |none=>
  refine SR.bnd (R:=fun _ a b=>a=cap∧b=cap') (SR.pur ⟨rfl,rfl⟩) fun σ hσ m m' hm=>?_
  obtain ⟨rfl,rfl⟩:=hm
  cases hhi with
  |none=>
   refine SR.bnd (R:=fun _ a b=>a=len∧b=len) (SR.pur ⟨rfl,rfl⟩) fun τ hτ a b e=>?_
   obtain ⟨rfl,rfl⟩:=e
   have hlo':OptR (VR τ) lo lo' :=by cases hlo with|none=>exact .none|some h=>exact .some (h.mono (hσ.trans hτ))
   cases hlo' with
   |none=>exact SR.bnd (R:=fun _ a b=>a=0∧b=0) (SR.pur ⟨rfl,rfl⟩) fun υ _ l l' e=>by obtain ⟨rfl,rfl⟩:=e;exact .pur ⟨rfl,rfl,Nat.zero_le _,hlen,rfl,.inr ⟨rfl,rfl,rfl⟩⟩
   |some hx=>exact (sr_sliceBound hx _ _ _ (Nat.le_refl _)).bnd fun υ _ l l' e=>by obtain ⟨rfl,h1,h2⟩:=e;exact .pur ⟨rfl,rfl,h1,hlen,h2,.inr ⟨rfl,rfl,rfl⟩⟩
  |some hx=>
   refine (sr_sliceBound (hx.mono hσ) _ _ _ hc).bnd fun τ hτ a b e=>?_
   obtain ⟨rfl,e1,_⟩:=e
   have hlo':OptR (VR τ) lo lo' :=by cases hlo with|none=>exact .none|some h=>exact .some (h.mono (hσ.trans hτ))
   cases hlo' with
   |none=>exact SR.bnd (R:=fun _ a b=>a=0∧b=0) (SR.pur ⟨rfl,rfl⟩) fun υ _ l l' e=>by obtain ⟨rfl,rfl⟩:=e;exact .pur ⟨rfl,rfl,Nat.zero_le _,e1,rfl,.inr ⟨rfl,rfl,rfl⟩⟩
   |some hx=>exact (sr_sliceBound hx _ _ _ (Nat.le_refl _)).bnd fun υ _ l l' e=>by obtain ⟨rfl,h1,h2⟩:=e;exact .pur ⟨rfl,rfl,h1,e1,h2,.inr ⟨rfl,rfl,rfl⟩⟩
 |some hm=>
  refine (sr_sliceBound hm _ _ _ hc).bnd fun σ hσ m m' e=>?_
  obtain ⟨rfl,e1,_⟩:=e
  cases hhi with
  |none=>exact .dead fun _ _=>rfl
  |some hx=>
   refine (sr_sliceBound (hx.mono hσ) _ _ _ (Nat.le_refl _)).bnd fun τ hτ a b e=>?_
   obtain ⟨rfl,e2,_⟩:=e
   have hlo':OptR (VR τ) lo lo' :=by cases hlo with|none=>exact .none|some h=>exact .some (h.mono (hσ.trans hτ))
   cases hlo' with
   |none=>exact SR.bnd (R:=fun _ a b=>a=0∧b=0) (SR.pur ⟨rfl,rfl⟩) fun υ _ l l' e=>by obtain ⟨rfl,rfl⟩:=e;exact .pur ⟨rfl,rfl,Nat.zero_le _,e2,rfl,.inl ⟨by simp,rfl,e1⟩⟩
   |some hx=>exact (sr_sliceBound hx _ _ _ (Nat.le_refl _)).bnd fun υ _ l l' e=>by obtain ⟨rfl,h1,h2⟩:=e;exact .pur ⟨rfl,rfl,h1,e2,h2,.inl ⟨by simp,rfl,e1⟩⟩
theorem OptR.mono{R S:α→β→Prop}(h:∀x y,R x y→S x y){a:Option α}{b:Option β}(k:OptR R a b):OptR S a b:=by cases k with|none=>exact .none|some x=>exact .some (h _ _ x)
def CutR(P:Program)(ρ:Env)(t:TypeId)(x:Value)(lo mx:Option Value):Prop:=
 (∀arr,P.underlying t≠some (.pointer arr))∧(∀n c,x = .slice none n c→n≤c)∧∀a n c,x = .slice (some a) n c→n≤c∧(ρ.slack a.block→mx=none∧(lowOf lo < c∨lowOf lo=0)∧∀elem,P.underlying t=some (.slice elem)→∀i,P.info? elem=some i→i.size=ρ.u a.block)
theorem off_add(a:Addr)(n:Nat):(a.add n).off=a.off+n:=by
 unfold Addr.add
 by_cases h:n=0
 ·rw [if_pos h];omega
 ·rw [if_neg h]
theorem sr_slice(t:TypeId){x x':Value}{lo lo' hi hi' mx mx':Option Value}(hx:VR ρ x x')(hlo:OptR (VR ρ) lo lo')(hhi:OptR (VR ρ) hi hi')(hmx:OptR (VR ρ) mx mx')(hcut:CutR P ρ t x lo mx) :
  SR P VR ρ (Instr.slice t x lo hi mx) (Instr.slice t x' lo' hi' mx'):=by
 unfold Instr.slice
 refine (sr_underlyingI t).bnd fun σ hσ d d' e=>?_
 obtain ⟨rfl,hd⟩:=e
 have hlo' :=hlo.mono fun _ _ (z:VR ρ _ _)=>z.mono hσ
 have hhi' :=hhi.mono fun _ _ (z:VR ρ _ _)=>z.mono hσ
 have hmx' :=hmx.mono fun _ _ (z:VR ρ _ _)=>z.mono hσ
 cases d with
 |string=>
  cases hx.mono hσ with
  |string s=>
   cases hmx' with
   |some _=>exact .dead fun _ _=>rfl
   |none=>
    refine (sr_sliceBounds (Nat.le_refl _) (Nat.le_refl _) hlo' hhi' .none).bnd fun τ hτ b b' e=>?_
    obtain ⟨e1,e2,_⟩:=e
    obtain ⟨l,h,m⟩:=b
    obtain ⟨l',h',m'⟩:=b'
    dsimp only at e1 e2 ⊢
    subst e1 e2
    exact .pur (.string _)
  |_=>exact .stuck
 |slice elem=>
  cases hx with
  |nilslice n c=>
   dsimp only
   have hnc:=hcut.2.1 n c rfl
   refine (sr_sliceBounds hnc (Nat.le_refl _) hlo' hhi' hmx').bnd fun τ hτ b b' e=>?_
   obtain ⟨e1,e2,_,_,_,e5⟩:=e
   obtain ⟨l,h,m⟩:=b
   obtain ⟨l',h',m'⟩:=b'
   dsimp only at e1 e2 e5 ⊢
   have e3:m=m' :=by rcases e5 with ⟨_,h,_⟩|⟨_,h,k⟩;exact h;omega
   subst e1 e2 e3
   refine (sr_sizeOf elem).bndS fun υ hυ s=>?_
   have:(if m=l then (none:Option Addr) else Option.map (fun a=>Addr.add a (l * s)) none)=none:=by split<;>rfl
   rw [this]
   exact .pur (.nilslice _ _)
  | @slice a n c c' hb hc=>
   dsimp only
   obtain ⟨hnc,hsl⟩:=hcut.2.2 a n c rfl
   have hcc:c≤c' :=by rcases hc with rfl|⟨_,h,_⟩;exact Nat.le_refl _;exact h
   refine (sr_sliceBounds hnc hcc hlo' hhi' hmx').bnd fun τ hτ b b' e=>?_
   obtain ⟨e1,e2,e3,e4,e5,e6⟩:=e
   obtain ⟨l,h,m⟩:=b
   obtain ⟨l',h',m'⟩:=b'
   dsimp only at e1 e2 e3 e4 e5 e6 ⊢
   subst e1 e2
   refine (sr_sizeOfI elem).bnd fun υ hυ s s' e=>?_
   obtain ⟨rfl,i,hi,rfl⟩:=e
   have hle:=(hσ.trans hτ).trans hυ
   have hb' :=hle.born _ hb
   have eqcase:m=m' → c' = c→SR P VR υ (Pure.pure (.slice (if m=l then some a else (some a).map (fun a=>Addr.add a (l * i.size))) (h - l) (m - l))) (Pure.pure (.slice (if m' = l then some (ρ.addr a) else (some (ρ.addr a)).map (fun a=>Addr.add a (l * i.size))) (h - l) (m' - l))):=by
    intro em ec
    subst em
    refine .pur ?_
    by_cases hml:m=l
    ·rw [if_pos hml,if_pos hml,←hle.addr hb]
     exact .slice hb' (.inl rfl)
    ·rw [if_neg hml,if_neg hml,Option.map_some,Option.map_some,←addr_add,←hle.addr (by rw [block_add];exact hb)]
     exact .slice (by rw [block_add];exact hb') (.inl rfl)
   rcases e6 with ⟨h1,h2,h3⟩|⟨h1,h2,h3⟩
   ·rcases hc with hc|⟨hc,_⟩
    ·exact eqcase h2 hc
    ·exact absurd (hsl hc).1 h1
   ·rcases hc with hc|⟨hc,hc2,hc3⟩
    ·exact eqcase (by omega) hc
    ·obtain ⟨_,h4,h5⟩:=hsl hc
     have hu:=h5 elem hd i hi
     refine .pur ?_
     have hadd:(if m' = l then some (ρ.addr a) else (some (ρ.addr a)).map (fun a=>Addr.add a (l * i.size)))=some (υ.addr (a.add (l * i.size))):=by
      rw [hle.addr (by rw [block_add];exact hb),addr_add]
      by_cases hml:m' = l
      ·rw [if_pos hml]
       have:l=0:=by omega
       subst this
       rw [Nat.zero_mul]
       rfl
      ·rw [if_neg hml];rfl
     have hadd':(if m=l then some a else (some a).map (fun a=>Addr.add a (l * i.size)))=some (a.add (l * i.size)):=by
      by_cases hml:m=l
      ·rw [if_pos hml]
       have:l=0:=by omega
       subst this
       rw [Nat.zero_mul]
       rfl
      ·rw [if_neg hml];rfl
     rw [hadd,hadd']
     refine .slice (by rw [block_add];exact hb') (.inr ⟨by rw [block_add];exact (hle.slack _ hb).2 hc,by omega,?_⟩)
     rw [block_add,off_add,hle.u _ hb,hle.ext _ hb,←hu]
     have hl:l≤c' :=by omega
     have:l * i.size+(m' - l) * i.size=m' * i.size:=by rw [←Nat.add_mul];congr 1;omega
     rw [←hu] at hc3
     rw [h3] at this ⊢
     omega
  |_=>exact .stuck
 |pointer arr=>
  exact absurd hd (hcut.1 arr)
 |_=>cases hx<;>exact .stuck
theorem sr_sliceAt(t:TypeId){x x':Value}{lo lo' hi hi' mx mx':Option Value}(hx:VR ρ x x')(hlo:OptR (VR ρ) lo lo')(hhi:OptR (VR ρ) hi hi')(hmx:OptR (VR ρ) mx mx')(hcut:CutR P ρ t x lo mx) :
  SR P VR ρ (Instr.sliceAt t x lo hi mx) (Instr.sliceAt t x' lo' hi' mx'):=by
 unfold Instr.sliceAt
 refine (sr_underlying t).bndS fun σ hσ d=>?_
 split
 ·rename_i n elem
  refine (sr_sureAddr (hx.mono hσ)).bnd fun τ hτ a a' e=>?_
  obtain ⟨hb,rfl⟩:=e
  have hlo' :=hlo.mono fun _ _ (z:VR ρ _ _)=>z.mono (hσ.trans hτ)
  have hhi' :=hhi.mono fun _ _ (z:VR ρ _ _)=>z.mono (hσ.trans hτ)
  have hmx' :=hmx.mono fun _ _ (z:VR ρ _ _)=>z.mono (hσ.trans hτ)
  refine (sr_sliceBounds (Nat.le_refl _) (Nat.le_refl _) hlo' hhi' hmx').bnd fun υ hυ b b' e=>?_
  obtain ⟨e1,e2,_,_,_,e5⟩:=e
  obtain ⟨l,h,m⟩:=b
  obtain ⟨l',h',m'⟩:=b'
  dsimp only at e1 e2 e5 ⊢
  have e3:m=m' :=by rcases e5 with ⟨_,h,_⟩|⟨_,h,k⟩;exact h;omega
  subst e1 e2 e3
  refine (sr_sizeOf elem).bndS fun ω hω s=>?_
  have hb' :=hω.born _ (hυ.born _ hb)
  have hle:=hυ.trans hω
  refine .pur ?_
  by_cases hml:m=l
  ·rw [if_pos hml,if_pos hml,←hle.addr hb]
   exact .slice hb' (.inl rfl)
  ·rw [if_neg hml,if_neg hml,←addr_add,←hle.addr (by rw [block_add];exact hb)]
   exact .slice (by rw [block_add];exact hb') (.inl rfl)
 ·refine sr_slice t (hx.mono hσ) (hlo.mono fun _ _ z=>z.mono hσ) (hhi.mono fun _ _ z=>z.mono hσ) (hmx.mono fun _ _ z=>z.mono hσ) ⟨hcut.1,hcut.2.1,fun a n c e=>?_⟩
  subst e
  obtain ⟨h1,h2⟩:=hcut.2.2 a n c rfl
  have hb:ρ.born a.block:=by cases hx;assumption
  refine ⟨h1,fun h=>?_⟩
  rw [hσ.u _ hb]
  exact h2 ((hσ.slack _ hb).1 h)
end
end Go.Am
namespace Go.Am
open Go.Ren (grow EvO Guar Rely)
section
variable{P:Program}{ρ σ:Env}{α β γ δ:Type}
abbrev FR(ρ:Env):Option (Nat×Value)→Option (Nat×Value)→Prop:=OptR fun p q=>p.1=q.1∧VR ρ p.2 q.2
theorem sr_findNow(kind:TypeDesc)(k:Value){es es':List MapEntry}(h:LR (EntryR ρ) es es'):∀i,OptR (FR ρ) (Instr.findNow kind k es i) (Instr.findNow kind k es' i):=by
 induction h with
 |nil=>intro i;exact .some .none
 | @cons e e' l m he _ ih=>
  intro i
  unfold Instr.findNow
  rw [he.key]
  split
  ·exact .some (.some ⟨rfl,he.val⟩)
  ·exact ih _
  ·exact .none
theorem sr_findAsking(t:TypeId){k:Value}(hk:Plain k){es es':List MapEntry}:∀ {ρ:Env} (i:Nat),LR (EntryR ρ) es es' → SR P (fun σ=>FR σ) ρ (Instr.findAsking t k es i) (Instr.findAsking t k es' i):=by
 induction es generalizing es' with
 |nil=>intro ρ i h;cases h;exact .pur .none
 |cons e l ih=>
  intro ρ i h
  cases h with
  |cons he hl=>
   unfold Instr.findAsking
   rw [he.key]
   refine (SR.dry (dry_equal t hk he.plain)).bndS fun σ hσ b=>?_
   split
   ·exact .pur (.some ⟨rfl,he.val.mono hσ⟩)
   ·exact ih (i+1) (hl.mono fun _ _ x=>x.mono hσ)
theorem sr_findKey(t:TypeId){k:Value}(hk:Plain k){es es':List MapEntry}(h:LR (EntryR ρ) es es'):SR P (fun σ=>FR σ) ρ (Instr.findKey t k es) (Instr.findKey t k es'):=by
 unfold Instr.findKey
 refine (sr_underlying t).bndS fun σ hσ d=>?_
 have h' :=h.mono fun _ _ (x:EntryR ρ _ _)=>x.mono hσ
 have:=sr_findNow d k h' 0
 revert this
 generalize Instr.findNow d k es 0=a
 generalize Instr.findNow d k es' 0=b
 intro this
 cases this with
 |none=>exact sr_findAsking t hk 0 h'
 |some h=>exact .pur h
theorem sr_getMap{r r':Nat}(hr:ρ.ob r r'){R:Env→α→β→Prop}{f:Obj→Sem α}{f':Obj→Sem β}(hf:∀es es' k,AR (EntryR ρ) es es' → SR P R ρ (f (.map es k)) (f' (.map es' k)))(hd:∀o,(∀es k,o ≠ .map es k)→Dead P (f o)):SR P R ρ (getObj r >>= f) (getObj r' >>= f'):=by
 refine .getObj hr fun o o' ho=>?_
 cases ho with
 |map h=>exact hf _ _ _ h
 |_=>exact .dead (hd _ (fun es k e=>by cases e))
theorem sr_checkKey(b:Bool)(t:TypeId){k:Value}(hk:Plain k):SR P Same ρ (Instr.checkKey b 10000 t k) (Instr.checkKey b 10000 t k):=.dry (dry_checkKey b 10000 t k hk)
theorem FR.fst{a b:Option (Nat×Value)}(h:FR ρ a b){γ:Type}(n:γ)(f:Nat→γ):(match a with|some (i,_)=>f i|none=>n)=(match b with|some (i,_)=>f i|none=>n):=by
 cases h with
 |none=>rfl
 | @some x y h=>obtain ⟨i,v⟩:=x;obtain ⟨j,u⟩:=y;obtain ⟨e,_⟩:=h;cases e;rfl
theorem sr_lookup[Zeros P](t:TypeId){m m' k k':Value}(c:Bool)(hm:VR ρ m m')(hk:VR ρ k k')(hp:Plain k):SR P VR ρ (Instr.lookup t m k c) (Instr.lookup t m' k' c):=by
 have:=hp.eq hk
 subst this
 unfold Instr.lookup
 refine (sr_underlying t).bndS fun σ hσ d=>?_
 split
 ·rename_i key elem
  have tail:∀(τ:Env) (es es':Array MapEntry),AR (EntryR τ) es es' → SR P VR τ (do
    Instr.checkKey es.isEmpty 10000 key k'
    let (v,ok) ←match ←Instr.findKey key k' es.toList with
     |some (_,v)=>pure (v,true)
     |none=>pure (←zeroValue elem,false)
    pure (if c then .tuple #[v,.bool ok] else v):Sem Value) (do
    Instr.checkKey es'.isEmpty 10000 key k'
    let (v,ok) ←match ←Instr.findKey key k' es'.toList with
     |some (_,v)=>pure (v,true)
     |none=>pure (←zeroValue elem,false)
    pure (if c then .tuple #[v,.bool ok] else v):Sem Value):=by
   intro τ es es' h
   have he:es'.isEmpty=es.isEmpty:=by simp only [Array.isEmpty,h.1]
   rw [he]
   refine (sr_checkKey _ key hp).bndS fun υ hυ _=>?_
   refine (sr_findKey key hp (h.mono fun _ _ x=>x.mono hυ).list).bnd fun ω hω a b hab=>?_
   have fin:∀(ψ:Env) (v u:Value) (ok:Bool),VR ψ v u→SR P VR ψ (Pure.pure (if c then .tuple #[v,.bool ok] else v)) (Pure.pure (if c then .tuple #[u,.bool ok] else u)):=by
    intro ψ v u ok h
    refine .pur ?_
    split
    ·exact vr_tuple2 h (.bool _)
    ·exact h
   cases hab with
   |none=>exact (sr_zero elem).bnd fun ψ _ v u h=>fin ψ v u false h
   | @some x y h=>obtain ⟨i,v⟩:=x;obtain ⟨j,u⟩:=y;exact fin ω v u true h.2
  cases hm.mono hσ with
  |nilmap=>exact tail σ #[] #[] .empty
  |map hr=>exact sr_getMap hr (fun es es' n h=>tail σ es es' h) fun o ho=>by cases o<;>first|exact absurd rfl (ho _ _)|exact fun _ _=>rfl
  |_=>exact .dead fun _ _=>rfl
 ·exact .stuck
theorem sr_keyThatStays{a b:Value}(ha:Plain a)(hb:Plain b):SR P (fun _ x y=>x=y∧Plain x) ρ (Instr.keyThatStays a b) (Instr.keyThatStays a b):=by
 unfold Instr.keyThatStays
 split
 ·exact .pur ⟨rfl,hb⟩
 ·refine SR.bndS (s:=choose _) (.choose fun n=>.pure rfl) fun σ _ n=>.pur ⟨rfl,?_⟩
  split<;>assumption
theorem key_of{es es':Array MapEntry}(h:AR (EntryR ρ) es es')(i:Nat)(k:Value)(hk:Plain k):((es'[i]?).map (·.key)).getD k=((es[i]?).map (·.key)).getD k∧Plain (((es[i]?).map (·.key)).getD k):=by
 have:=h.get i
 revert this
 generalize es[i]? = a
 generalize es'[i]? = b
 intro this
 cases this with
 |none=>exact ⟨rfl,hk⟩
 |some h=>exact ⟨h.key,h.plain⟩
theorem born_of{es es':Array MapEntry}(h:AR (EntryR ρ) es es')(i:Nat):((es'[i]?).map fun x=>(x.born:Int)).getD 0=((es[i]?).map fun x=>(x.born:Int)).getD 0:=by
 have:=h.get i
 revert this
 generalize es[i]? = a
 generalize es'[i]? = b
 intro this
 cases this with
 |none=>rfl
 |some h=>simp only [Option.map_some,h.born]
theorem AR.modify{R:α→β→Prop}{a:Array α}{b:Array β}(h:AR R a b)(i:Nat){f:α→α}{g:β→β}(hf:∀x y,R x y→R (f x) (g y)):AR R (a.modify i f) (b.modify i g):=by
 refine ⟨by simp [h.1],fun j x y hx hy=>?_⟩
 rw [Array.getElem?_modify] at hx hy
 have:=h.get j
 revert this hx hy
 generalize a[j]? = u
 generalize b[j]? = v
 intro hx hy this
 cases this with
 |none=>split at hx<;>cases hx
 |some hr=>
  split at hx
  ·rename_i e;rw [if_pos e] at hy;cases hx;cases hy;exact hf _ _ hr
  ·rename_i e;rw [if_neg e] at hy;cases hx;cases hy;exact hr
theorem sr_mapUpdate(t:TypeId){m m' k k' v v':Value}(hm:VR ρ m m')(hk:VR ρ k k')(hp:Plain k)(hv:VR ρ v v'):SR P Same ρ (Instr.mapUpdate t m k v) (Instr.mapUpdate t m' k' v'):=by
 have:=hp.eq hk
 subst this
 unfold Instr.mapUpdate
 refine (sr_underlying t).bndS fun σ hσ d=>?_
 split
 ·rename_i key elem
  cases hm.mono hσ with
  |nilmap=>exact .dead (dead_rpanic _)
  |map hr=>
   refine sr_getMap hr (fun es es' n h=>?_) fun o ho=>by cases o<;>first|exact absurd rfl (ho _ _)|exact fun _ _=>rfl
   refine (sr_checkKey _ key hp).bndS fun τ hτ _=>?_
   have h' :=h.mono fun _ _ (x:EntryR σ _ _)=>x.mono hτ
   refine (sr_findKey key hp h'.list).bnd fun υ hυ a b hab=>?_
   have h2:=h'.mono fun _ _ (x:EntryR τ _ _)=>x.mono hυ
   have hv2:=hv.mono ((hσ.trans hτ).trans hυ)
   cases hab with
   |none=>
    exact .setObj ((hτ.trans hυ).ob hr) (.map (h2.push ⟨hp,rfl,hv2,rfl⟩)) (.pure rfl)
   | @some x y h=>
    obtain ⟨i,w⟩:=x
    obtain ⟨j,u⟩:=y
    obtain ⟨e,_⟩:=h
    dsimp only at e ⊢
    subst e
    obtain ⟨e1,e2⟩:=key_of h2 i k' hp
    rw [e1]
    refine (sr_keyThatStays e2 hp).bnd fun ω hω a b e=>?_
    obtain ⟨rfl,hpa⟩:=e
    exact .setObj (((hτ.trans hυ).trans hω).ob hr) (.map ((h2.mono fun _ _ x=>x.mono hω).modify i fun x y h=>⟨hpa,rfl,hv2.mono hω,h.born⟩)) (.pure rfl)
  |_=>exact .stuck
 ·exact .stuck
theorem sr_mapEntry[Zeros P](t:TypeId){m m' k k':Value}(hm:VR ρ m m')(hk:VR ρ k k')(hp:Plain k):SR P VR ρ (Instr.mapEntry t m k) (Instr.mapEntry t m' k'):=by
 have:=hp.eq hk
 subst this
 unfold Instr.mapEntry
 refine (sr_underlying t).bndS fun σ hσ d=>?_
 split
 ·rename_i key elem
  cases hm.mono hσ with
  |nilmap=>exact .dead (dead_rpanic _)
  |map hr=>
   refine sr_getMap hr (fun es es' n h=>?_) fun o ho=>by cases o<;>first|exact absurd rfl (ho _ _)|exact fun _ _=>rfl
   refine (sr_checkKey _ key hp).bndS fun τ hτ _=>?_
   have h' :=h.mono fun _ _ (x:EntryR σ _ _)=>x.mono hτ
   refine (sr_findKey key hp h'.list).bnd fun υ hυ a b hab=>?_
   have h2:=h'.mono fun _ _ (x:EntryR τ _ _)=>x.mono hυ
   cases hab with
   |none=>
    refine (sr_zero elem).bnd fun ω hω z z' hz=>?_
    exact .setObj (((hτ.trans hυ).trans hω).ob hr) (.map ((h2.mono fun _ _ x=>x.mono hω).push ⟨hp,rfl,hz,rfl⟩)) (.pure (vr_tuple2 hz (.int _ _)))
   | @some x y h=>
    obtain ⟨i,w⟩:=x
    obtain ⟨j,u⟩:=y
    obtain ⟨e,hw⟩:=h
    dsimp only at e hw ⊢
    subst e
    obtain ⟨e1,e2⟩:=key_of h2 i k' hp
    rw [e1,born_of h2 i]
    refine (sr_keyThatStays e2 hp).bnd fun ω hω a b e=>?_
    obtain ⟨rfl,hpa⟩:=e
    exact .setObj (((hτ.trans hυ).trans hω).ob hr) (.map ((h2.mono fun _ _ x=>x.mono hω).modify i fun x y h=>⟨hpa,rfl,h.val,h.born⟩)) (.pure (vr_tuple2 (hw.mono hω) (.int _ _)))
  |_=>exact .stuck
 ·exact .stuck
theorem LR.findIdx{R:α→β→Prop}{l:List α}{m:List β}(h:LR R l m){p:α→Bool}{q:β→Bool}(hpq:∀x y,R x y→q y=p x):m.findIdx? q=l.findIdx? p:=by
 induction h with
 |nil=>rfl
 |cons h _ ih=>simp only [List.findIdx?_cons,hpq _ _ h,ih]
theorem sr_entryStore(t:TypeId){m m' k k' v v':Value}(hm:VR ρ m m')(hk:VR ρ k k')(hv:VR ρ v v'):SR P Same ρ (Instr.entryStore t m k v) (Instr.entryStore t m' k' v'):=by
 unfold Instr.entryStore
 cases hm with
 |map hr=>
  refine sr_getMap hr (fun es es' n h=>?_) fun o ho=>by cases o<;>first|exact absurd rfl (ho _ _)|exact fun _ _=>rfl
  refine (sr_asInt hk).bndS fun σ hσ b=>?_
  have h' :=h.mono fun _ _ (x:EntryR ρ _ _)=>x.mono hσ
  have hidx:es'.findIdx? (fun e=>(e.born:Int) == b)=es.findIdx? (fun e=>(e.born:Int) == b):=by
   have:=h'.list.findIdx (p:=fun e=>(e.born:Int) == b) (q:=fun e=>(e.born:Int) == b) fun x y hxy=>by rw [hxy.born]
   obtain ⟨l⟩:=es
   obtain ⟨l'⟩:=es'
   rw [List.findIdx?_toArray,List.findIdx?_toArray]
   exact this
  rw [hidx]
  split
  ·rename_i i _
   exact .setObj (hσ.ob hr) (.map (h'.modify _ fun x y h=>⟨h.plain,h.key,hv.mono hσ,h.born⟩)) (.pure rfl)
  ·exact .uns
 |_=>exact .dead fun _ _=>rfl
end
end Go.Am
namespace Go.Am
open Go.Ren (grow EvO Guar Rely)
section
variable{P:Program}{ρ σ:Env}{α β γ δ:Type}
theorem LR.filter{R:α→β→Prop}{l:List α}{m:List β}(h:LR R l m){p:α→Bool}{q:β→Bool}(hpq:∀x y,R x y→q y=p x):LR R (l.filter p) (m.filter q):=by
 induction h with
 |nil=>exact .nil
 |cons h _ ih=>
  rw [List.filter_cons,List.filter_cons,hpq _ _ h]
  split
  ·exact .cons h ih
  ·exact ih
theorem AR.filter{R:α→β→Prop}{a:Array α}{b:Array β}(h:AR R a b){p:α→Bool}{q:β→Bool}(hpq:∀x y,R x y→q y=p x):AR R (a.filter p) (b.filter q):=by
 obtain ⟨l⟩:=a
 obtain ⟨m⟩:=b
 rw [List.filter_toArray,List.filter_toArray]
 exact (h.list.filter hpq).arr
theorem AR.map{R:α→β→Prop}{S:γ→δ→Prop}{a:Array α}{b:Array β}(h:AR R a b){f:α→γ}{g:β→δ}(hfg:∀x y,R x y→S (f x) (g y)):AR S (a.map f) (b.map g):=by
 refine ⟨by simp [h.1],fun i x y hx hy=>?_⟩
 rw [Array.getElem?_map] at hx hy
 have:=h.get i
 revert this hx hy
 generalize a[i]? = u
 generalize b[i]? = v
 intro hx hy this
 cases this with
 |none=>cases hx
 |some h=>cases hx;cases hy;exact hfg _ _ h
theorem AR.isEmpty{R:α→β→Prop}{a:Array α}{b:Array β}(h:AR R a b):b.isEmpty=a.isEmpty:=by simp only [Array.isEmpty,h.1]
theorem LR.all{R:α→β→Prop}{l:List α}{m:List β}(h:LR R l m){p:α→Bool}{q:β→Bool}(hpq:∀x y,R x y→q y=p x):m.all q=l.all p:=by
 induction h with
 |nil=>rfl
 |cons h _ ih=>simp only [List.all_cons,hpq _ _ h,ih]
theorem AR.all{R:α→β→Prop}{a:Array α}{b:Array β}(h:AR R a b){p:α→Bool}{q:β→Bool}(hpq:∀x y,R x y→q y=p x):b.all q=a.all p:=by
 have:=h.list.all hpq
 rw [Array.all_toList,Array.all_toList] at this
 exact this
theorem LR.find{R:α→β→Prop}{l:List α}{m:List β}(h:LR R l m){p:α→Bool}{q:β→Bool}(hpq:∀x y,R x y→q y=p x):OptR R (l.find? p) (m.find? q):=by
 induction h with
 |nil=>exact .none
 |cons h _ ih=>
  rw [List.find?_cons,List.find?_cons,hpq _ _ h]
  split
  ·exact .some h
  ·exact ih
theorem AR.find{R:α→β→Prop}{a:Array α}{b:Array β}(h:AR R a b){p:α→Bool}{q:β→Bool}(hpq:∀x y,R x y→q y=p x):OptR R (a.find? p) (b.find? q):=by
 have:=h.list.find hpq
 rw [Array.find?_toList,Array.find?_toList] at this
 exact this
theorem sr_range(t:TypeId){v v':Value}(h:VR ρ v v'):SR P VR ρ (Instr.range t v) (Instr.range t v'):=by
 unfold Instr.range
 refine (sr_underlying t).bndS fun σ hσ d=>?_
 have fin:∀(τ:Env) (o o':Obj),OR τ o o' → SR P VR τ (do pure (.pointer (some ⟨←newObj o,0,none⟩)):Sem Value) (do pure (.pointer (some ⟨←newObj o',0,none⟩)):Sem Value):=by
  intro τ o o' ho
  refine SR.bnd (R:=fun υ r r'=>υ.ob r r') (.new (.obj ho) fun υ _ r r' hr=>.pure hr) fun υ hυ r r' hr=>.pur ?_
  have:(⟨r',0,none⟩:Addr)=υ.addr ⟨r,0,none⟩:=by simp only [Env.addr,hr.2]
  rw [this]
  exact .ptr hr.1
 cases d with
 |string=>
  cases h.mono hσ with
  |string s=>exact fin σ _ _ (.stringIter s 0)
  |_=>exact .dead fun _ _=>rfl
 |map k e=>
  cases h.mono hσ with
  |nilmap=>exact fin σ _ _ (.mapIter .none)
  |map hr=>
   exact sr_getMap hr (fun es es' n h=>fin σ _ _ (.mapIter (.some hr))) fun o ho=>by cases o<;>first|exact absurd rfl (ho _ _)|exact fun _ _=>rfl
  |_=>exact .dead fun _ _=>rfl
 |_=>cases h<;>exact .dead fun _ _=>rfl
def IterR(ρ:Env)(v:Value):Prop:=∀r s,v = .pointer (some ⟨r,0,s⟩)→(ρ.to r).2=0
theorem sr_next(s:Bool)(t:TypeId){v v':Value}(h:VR ρ v v')(hi:IterR ρ v):SR P VR ρ (Instr.next v s t) (Instr.next v' s t):=by
 unfold Instr.next
 cases h with
 | @ptr a h=>
  obtain ⟨r,off,sp⟩:=a
  cases off with
  |succ n=>
   refine .dead fun _ _=>rfl
  |zero=>
   have h0:=hi r sp rfl
   have haddr:ρ.addr ⟨r,0,sp⟩=⟨(ρ.to r).1,0,sp⟩:=by simp only [Env.addr,h0]
   rw [haddr]
   have hob:ρ.ob r (ρ.to r).1:=⟨h,by rw [←h0]⟩
   refine .getObj hob fun o o' ho=>?_
   cases ho with
   |stringIter b p=>
    cases s with
    |false=>exact .dead fun _ _=>rfl
    |true=>
     show SR P VR ρ (if p < b.size then _ else _) (if p < b.size then _ else _)
     split
     ·exact .setObj hob (.stringIter _ _) (.pure (vr_tuple3 (.bool _) (.int _ _) (.int _ _)))
     ·exact .pur (vr_tuple (AR.empty.push (.bool _)))
   | @mapIter m m' since seen last hm=>
    cases s with
    |true=>exact .dead fun _ _=>by cases m<;>rfl
    |false=>
     cases hm with
     |none=>exact .pur (vr_tuple (AR.empty.push (.bool _)))
     | @some m m' hm=>
      refine sr_getMap hm (fun es es' n h=>?_) fun o ho=>by cases o<;>first|exact absurd rfl (ho _ _)|exact fun _ _=>rfl
      dsimp only
      have hc:(!seen.isEmpty && !es'.isEmpty && es'.all (·.born≥last))=(!seen.isEmpty && !es.isEmpty && es.all (·.born≥last)):=by
       rw [h.isEmpty,h.all (p:=fun e=>decide (e.born≥last)) fun x y hxy=>by rw [hxy.born]]
      rw [hc]
      split
      ·exact .dead fun _ _=>rfl
      ·have hleft:=h.filter (p:=fun e=> !seen.contains e.born) (q:=fun e=> !seen.contains e.born) fun x y hxy=>by rw [hxy.born]
       have hold:=hleft.filter (p:=fun e=>decide (e.born < since)) (q:=fun e=>decide (e.born < since)) fun x y hxy=>by rw [hxy.born]
       have hnew:=hleft.filter (p:=fun e=>decide (e.born≥since)) (q:=fun e=>decide (e.born≥since)) fun x y hxy=>by rw [hxy.born]
       have hcand:=(hold.append hnew).map (S:=OptR (EntryR ρ)) (f:=some) (g:=some) fun x y hxy=>.some hxy
       have hcand2:AR (OptR (EntryR ρ)) ((if (Array.filter (fun e=>decide (e.born < since)) (Array.filter (fun e=> !seen.contains e.born) es)).isEmpty=true then #[none] else #[]) ++ Array.map some (Array.filter (fun e=>decide (e.born < since)) (Array.filter (fun e=> !seen.contains e.born) es) ++ Array.filter (fun e=>decide (e.born≥since)) (Array.filter (fun e=> !seen.contains e.born) es)))
         ((if (Array.filter (fun e=>decide (e.born < since)) (Array.filter (fun e=> !seen.contains e.born) es')).isEmpty=true then #[none] else #[]) ++ Array.map some (Array.filter (fun e=>decide (e.born < since)) (Array.filter (fun e=> !seen.contains e.born) es') ++ Array.filter (fun e=>decide (e.born≥since)) (Array.filter (fun e=> !seen.contains e.born) es'))):=by
        refine AR.append ?_ hcand
        rw [hold.isEmpty]
        split
        ·exact AR.empty.push .none
        ·exact .empty
       rw [←hcand2.1]
       refine SR.bndS (s:=choose _) (.choose fun n=>.pure rfl) fun σ hσ n=>?_
       have:=hcand2.get n
       revert this
       generalize (_:Array (Option MapEntry))[n]? = x
       generalize (_:Array (Option MapEntry))[n]? = y
       intro this
       cases this with
       |none=>exact .stuck
       |some h=>
        cases h with
        |none=>exact .pur (vr_tuple (AR.empty.push (.bool _)))
        | @some e e' h=>
         dsimp only
         rw [h.born,h.key]
         exact .setObj (hσ.ob hob) (.mapIter (.some (hσ.ob hm))) (.pure (vr_tuple3 (.bool _) (Plain.vr h.plain σ) (h.val.mono hσ)))
   |_=>exact .dead fun _ _=>rfl
 |_=>exact .dead fun _ _=>rfl
theorem sr_entry{v v':Value}(h:VR ρ v v')(hi:IterR ρ v):SR P VR ρ (Instr.entry v) (Instr.entry v'):=by
 unfold Instr.entry
 cases h with
 | @ptr a h=>
  obtain ⟨r,off,sp⟩:=a
  cases off with
  |succ n=>exact .dead fun _ _=>rfl
  |zero=>
   have h0:=hi r sp rfl
   have haddr:ρ.addr ⟨r,0,sp⟩=⟨(ρ.to r).1,0,sp⟩:=by simp only [Env.addr,h0]
   rw [haddr]
   have hob:ρ.ob r (ρ.to r).1:=⟨h,by rw [←h0]⟩
   refine .getObj hob fun o o' ho=>?_
   cases ho with
   | @mapIter m m' since seen last hm=>
    cases hm with
    |none=>exact .dead fun _ _=>rfl
    | @some m m' hm=>
     simp only [Sem.bind]
     split
     ·rename_i stamp _
      refine sr_getMap hm (fun es es' n h=>?_) fun o ho=>by cases o<;>first|exact absurd rfl (ho _ _)|exact fun _ _=>rfl
      dsimp only
      split
      ·exact .dead fun _ _=>rfl
      ·have:=h.find (p:=fun e=>e.born == stamp) (q:=fun e=>e.born == stamp) fun x y hxy=>by rw [hxy.born]
       revert this
       generalize es.find? _=x
       generalize es'.find? _=y
       intro this
       cases this with
       |none=>exact .uns
       |some h=>exact .pur (by rw [h.key];exact vr_tuple2 (Plain.vr h.plain ρ) h.val)
     ·exact .dead fun _ _=>rfl
   |_=>exact .dead fun _ _=>rfl
 |_=>exact .dead fun _ _=>rfl
end
end Go.Am
