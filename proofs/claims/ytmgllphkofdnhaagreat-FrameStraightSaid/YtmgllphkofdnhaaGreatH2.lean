import Derived.Test.YtmgllphkofdnhaaGreatH1
set_option linter.unusedVariables false
set_option linter.unusedSectionVars false
set_option linter.unusedSimpArgs false
namespace Go.Am
open Go.Ren (grow EvO Guar Rely)
def Env.add(ρ:Env)(b:Nat)(t:Nat×Nat)(sl:Prop)(u ext:Nat):Env where
 to x:=if x=b then t else ρ.to x
 born x:=x=b∨ρ.born x
 slack x:=if x=b then sl else ρ.slack x
 u x:=if x=b then u else ρ.u x
 ext x:=if x=b then ext else ρ.ext x
section
variable{P:Program}{ρ σ:Env}{O O' D:Nat→Prop}{h h':AH}{w w':World}{X:Event→Prop}{b:Nat}{t:Nat×Nat}{sl:Prop}{u ext:Nat}
theorem Env.add_le(hb:¬ρ.born b):ρ.Le (ρ.add b t sl u ext):=by
 have ne:∀x,ρ.born x→x≠b:=fun x hx e=>hb (e ▸ hx)
 refine ⟨fun x hx=>.inr hx,fun x hx=>?_,fun x hx=>?_,fun x hx=>?_,fun x hx=>?_⟩
 all_goals (simp only [Env.add];rw [if_neg (ne x hx)])
theorem add_to:(ρ.add b t sl u ext).to b=t:=by simp [Env.add]
theorem add_to_ne{x:Nat}(hx:x≠b):(ρ.add b t sl u ext).to x=ρ.to x:=by simp [Env.add,hx]
theorem add_ext_ne{x:Nat}(hx:x≠b):(ρ.add b t sl u ext).ext x=ρ.ext x:=by simp [Env.add,hx]
theorem add_ext:(ρ.add b t sl u ext).ext b=ext:=by simp [Env.add]
theorem add_slack_ne{x:Nat}(hx:x≠b):(ρ.add b t sl u ext).slack x↔ρ.slack x:=by simp [Env.add,hx]
theorem add_u_ne{x:Nat}(hx:x≠b):(ρ.add b t sl u ext).u x=ρ.u x:=by simp [Env.add,hx]
theorem add_u:(ρ.add b t sl u ext).u b=u:=by simp [Env.add]
theorem add_slack:(ρ.add b t sl u ext).slack b↔sl:=by simp [Env.add]
inductive NewR(ρ:Env):Obj→Obj→Prop
 |cells {c c':Array Value} {e e':TypeId} (h:AR (VR ρ) c c'):NewR ρ (.cells c e (0,0)) (.cells c' e' (0,0))
 |obj {o o':Obj} (h:OR ρ o o'):NewR ρ o o'
def sizeO:Obj→Nat
 | .cells c _ _=>c.size
 |_=>0
theorem new_tr(o:Obj)(b':Nat):(h.new o).tr.get b' = if b' = h.n then some ⟨o,none,false,0⟩ else h.tr.get b' :=by simp only [AH.new,Tr.get_set]
theorem look_new_ne{o:Obj}{b':Nat}(hb:b' ≠ h.n):(h.new o).look b' = h.look b' :=by
 unfold AH.look
 rw [new_tr,if_neg hb]
 rfl
theorem look_new(o:Obj):(h.new o).look h.n=some ⟨o,none,false,0⟩:=by
 unfold AH.look
 rw [new_tr,if_pos rfl]
theorem Rel.push(r:Rel ρ O D h w)(o:Obj):Rel ρ O D (h.new o) w:=by
 have ne:∀x,ρ.born x→x≠h.n:=fun x hx e=>by have:=r.fresh x hx;omega
 refine ⟨fun b B c e f hb hl=>?_,fun b B hb hl=>?_,fun b B hb hl=>?_,fun b b' B B' hb hb' hl hl'=>?_,fun b hb=>Nat.lt_succ_of_lt (r.fresh b hb),r.low,fun b B hb hl=>?_,fun f l hf=>?_,fun f l hf b hm=>?_⟩
 ·rw [look_new_ne (ne b hb)] at hl;exact r.cells b B c e f hb hl
 ·rw [look_new_ne (ne b hb)] at hl;exact r.obj b B hb hl
 ·rw [look_new_ne (ne b hb)] at hl;exact r.own b B hb hl
 ·rw [look_new_ne (ne b hb)] at hl;rw [look_new_ne (ne b' hb')] at hl';exact r.sep b b' B B' hb hb' hl hl'
 ·rw [look_new_ne (ne b hb)] at hl;exact r.slack b B hb hl
 ·refine (r.row f l hf).imp fun hp h1 h2 h3 n n' k1 k2=>hp h1 h2 h3 n n' ?_ ?_
  ·obtain ⟨B,c,e,g,x1,x2⟩:=k1;rw [new_tr,if_neg (ne _ h1)] at x1;exact ⟨B,c,e,g,x1,x2⟩
  ·obtain ⟨B,c,e,g,x1,x2⟩:=k2;rw [new_tr,if_neg (ne _ h2)] at x1;exact ⟨B,c,e,g,x1,x2⟩
 ·obtain ⟨m1,B,m2,m3⟩:=r.mem f l hf b hm
  exact ⟨Nat.lt_succ_of_lt m1,B,by rw [new_tr,if_neg (by omega)];exact m2,m3⟩
theorem Rel.birth(r:Rel ρ O D h w){o o':Obj}(hb:¬ρ.born b)(hn:b < h.n)(hl:h.look b=some ⟨o,none,false,0⟩)(ho:NewR ρ o o') :
  Rel (ρ.add b (w.heap.size,0) False 1 (sizeO o)) (grow O w { w with heap:=w.heap.push o' }) D h { w with heap:=w.heap.push o' }:=by
 have hle:=Env.add_le (t:=(w.heap.size,0)) (sl:=False) (u:=1) (ext:=sizeO o) hb
 have old:∀x,x≠b→(ρ.add b (w.heap.size,0) False 1 (sizeO o)).born x→ρ.born x:=fun x hx h=>h.resolve_left hx
 have hheap:∀c,c < w.heap.size→(w.heap.push o')[c]? = w.heap[c]? :=fun c hc=>by rw [Array.getElem?_push,if_neg (by omega)]
 have hmine:(w.heap.push o')[w.heap.size]? = some o' :=by rw [Array.getElem?_push,if_pos rfl]
 refine ⟨fun x B c e f hx hk hobj=>?_,fun x B hx hk hobj=>?_,fun x B hx hk=>?_,fun x y B B' hx hy hk hk' hne hs=>?_,fun x hx=>?_,fun x hx=>?_,fun x B hx hk=>?_,fun f l hf=>?_,r.mem⟩
 ·by_cases e':x=b
  ·subst e'
   rw [hl] at hk
   cases hk
   dsimp only at hobj
   subst hobj
   rw [add_to,add_ext]
   cases ho with
   | @cells _ c' _ e' h=>
    refine ⟨c',e',(0,0),hmine,by simp only [sizeO];rw [h.1];omega,Nat.le_refl _,fun _=>rfl,fun i v hv=>?_⟩
    have hi:i < c.size:=(Array.getElem?_eq_some_iff.1 hv).1
    have hi':i < c'.size:=h.1 ▸ hi
    exact ⟨c'[i],by simp [hi'],(h.2 i _ _ hv (by simp [hi'])).mono hle⟩
   |obj h=>exact absurd rfl (h.not_cells.1 _ _ _)
  ·have hx' :=old x e' hx
   rw [add_to_ne e',add_ext_ne e']
   obtain ⟨C,E,g,h1,h2,h3,h4,h5⟩:=r.cells x B c e f hx' hk hobj
   refine ⟨C,E,g,?_,h2,h3,h4,fun i v hv=>?_⟩
   ·rw [hheap _ (r.low x hx')];exact h1
   ·obtain ⟨v',h6,h7⟩:=h5 i v hv;exact ⟨v',h6,h7.mono hle⟩
 ·by_cases e':x=b
  ·subst e'
   rw [hl] at hk
   cases hk
   dsimp only at hobj
   rw [add_to]
   refine ⟨rfl,o',hmine,?_⟩
   cases ho with
   |cells h=>exact absurd rfl (hobj _ _ _)
   |obj h=>exact h.mono hle
  ·have hx' :=old x e' hx
   rw [add_to_ne e']
   obtain ⟨h1,o₁,h2,h3⟩:=r.obj x B hx' hk hobj
   exact ⟨h1,o₁,by rw [hheap _ (r.low x hx')];exact h2,h3.mono hle⟩
 ·by_cases e':x=b
  ·subst e'
   rw [add_to]
   have:grow O w { w with heap:=w.heap.push o' } w.heap.size:=.inr ⟨Nat.le_refl _,by simp⟩
   exact ⟨fun _=>this,.inl this⟩
  ·have hx' :=old x e' hx
   rw [add_to_ne e']
   obtain ⟨h1,h2⟩:=r.own x B hx' hk
   exact ⟨fun z=>.inl (h1 z),h2.imp .inl id⟩
 ·by_cases e1:x=b
  ·subst e1
   have hy' :=old y (Ne.symm hne) hy
   rw [add_to,add_to_ne (Ne.symm hne)] at hs
   have:=r.low y hy'
   rw [←hs] at this
   exact absurd this (Nat.lt_irrefl _)
  ·by_cases e2:y=b
   ·subst e2
    have hx' :=old x e1 hx
    rw [add_to,add_to_ne e1] at hs
    have:=r.low x hx'
    rw [hs] at this
    exact absurd this (Nat.lt_irrefl _)
   ·rw [add_to_ne e1,add_to_ne e2] at hs
    exact r.sep x y B B' (old x e1 hx) (old y e2 hy) hk hk' hne hs
 ·by_cases e':x=b
  ·subst e';exact hn
  ·exact r.fresh x (old x e' hx)
 ·by_cases e':x=b
  ·subst e';rw [add_to];simp
  ·rw [add_to_ne e']
   have:=r.low x (old x e' hx)
   simp only [Array.size_push]
   omega
 ·by_cases e':x=b
  ·subst e'
   rw [hl] at hk
   cases hk
   rw [add_slack]
   simp
  ·rw [add_slack_ne e',add_u_ne e'];exact r.slack x B (old x e' hx) hk
 ·refine List.Pairwise.imp_of_mem (fun {x y} hmx hmy hp h1 h2 h3 n n' k1 k2=>?_) (r.row f l hf)
  have nx:∀z,z∈l→z≠b:=fun z hz e=>by
   obtain ⟨_,B,m2,m3⟩:=r.mem f l hf z hz
   subst e
   rw [look_tr hl] at m2
   cases m2
   cases m3
  have ex:=nx x hmx
  have ey:=nx y hmy
  rw [add_to_ne ex,add_to_ne ey] at h3
  refine hp (old x ex h1) (old y ey h2) h3 n n' ?_ ?_
  ·obtain ⟨B,c,e,g,z1,z2,z3⟩:=k1;rw [add_to_ne ex] at z3;exact ⟨B,c,e,g,z1,z2,z3⟩
  ·obtain ⟨B,c,e,g,z1,z2,z3⟩:=k2;rw [add_to_ne ey] at z3;exact ⟨B,c,e,g,z1,z2,z3⟩
theorem guar_push(o:Obj):Guar X O D w { w with heap:=w.heap.push o } #[]:=
 ⟨by simp,fun c hc _=>by rw [Array.getElem?_push,if_neg (by omega)],rfl,rfl,rfl,fun e he=>by simp at he⟩
theorem Rel.getObj(r:Rel ρ O D h w){x y:Nat}{B:Blk}(hx:ρ.ob x y)(hl:h.look x=some B)(hc:∀c e f,B.obj ≠ .cells c e f):∃o',w.heap[y]? = some o' ∧ OR ρ B.obj o' ∧ (O y∨D y):=by
 obtain ⟨h1,h2⟩:=hx
 obtain ⟨_,o',h3,h4⟩:=r.obj x B h1 hl hc
 have:=(r.own x B h1 hl).2
 rw [h2] at h3 this
 exact ⟨o',h3,h4,this⟩
theorem Rel.setObj(r:Rel ρ O D h w){x y:Nat}{B:Blk}{o o':Obj}(hx:ρ.ob x y)(hl:h.look x=some B)(hc:∀c e f,B.obj ≠ .cells c e f)(hro:B.ro=false)(ho:OR ρ o o') :
  Rel ρ O D (h.put x B o) { w with heap:=w.heap.setIfInBounds y o' }∧O y:=by
 obtain ⟨h1,h2⟩:=hx
 have hO:=(r.own x B h1 hl).1 hro
 have hlow:=r.low x h1
 rw [h2] at hO hlow
 refine ⟨r.put h1 hl hro (fun c e f e'=>absurd e' (ho.not_cells.1 _ _ _)) (fun c hne=>?_) (by simp) (fun c e f e'=>absurd e' (ho.not_cells.1 _ _ _)) (r.fresh x h1) (fun _=>⟨by rw [h2],o',?_,ho⟩),hO⟩
 ·rw [h2] at hne
  rw [Array.getElem?_setIfInBounds,if_neg (Ne.symm hne)]
 ·rw [h2,Array.getElem?_setIfInBounds,if_pos rfl,if_pos hlow]
end
inductive SR(P:Program){α β:Type}(R:Env→α→β→Prop):Env→Sem α→Sem β→Prop
 |pure {ρ:Env} {a b} (h:R ρ a b):SR P R ρ (.pure a) (.pure b)
 |load {ρ:Env} {m a k k'} (ha:ρ.born a.block) (h:∀v v',VR ρ v v' → SR P R ρ (k v) (k' v')):SR P R ρ (.load m a k) (.load m (ρ.addr a) k')
 |store {ρ:Env} {m a v v' k k'} (ha:ρ.born a.block) (hv:VR ρ v v') (h:SR P R ρ k k'):SR P R ρ (.store m a v k) (.store m (ρ.addr a) v' k')
 |new {ρ:Env} {o o' k k'} (ho:NewR ρ o o') (h:∀σ:Env,ρ.Le σ→∀r r',σ.ob r r' → SR P R σ (k r) (k' r')):SR P R ρ (.new o k) (.new o' k')
 |shape {ρ:Env} {r r' k k'} (hr:ρ.born r) (hr':r' = (ρ.to r).1) (h:∀e n e' n',SR P R ρ (k (some (e,n))) (k' (some (e',n')))) (h0:SR P R ρ (k none) (k' none)):SR P R ρ (.shape r k) (.shape r' k')
 |getObj {ρ:Env} {r r' k k'} (hr:ρ.ob r r') (h:∀o o',OR ρ o o' → SR P R ρ (k o) (k' o')):SR P R ρ (.getObj r k) (.getObj r' k')
 |setObj {ρ:Env} {r r' o o' k k'} (hr:ρ.ob r r') (ho:OR ρ o o') (h:SR P R ρ k k'):SR P R ρ (.setObj r o k) (.setObj r' o' k')
 |choose {ρ:Env} {q k k'} (h:∀n,SR P R ρ (k n) (k' n)):SR P R ρ (.choose q k) (.choose q k')
 |program {ρ:Env} {k k'} (h:SR P R ρ (k P) (k' P)):SR P R ρ (.program k) (.program k')
 |freeze {ρ:Env} {a n k s'}:SR P R ρ (.freeze a n k) s'
 |frozen {ρ:Env} {a k s'}:SR P R ρ (.frozen a k) s'
 |mark {ρ:Env} {m k s'}:SR P R ρ (.mark m k) s'
 |sys {ρ:Env} {c k s'}:SR P R ρ (.sys c k) s'
 |halt {ρ:Env} {x s'}:SR P R ρ (.halt x) s'
 |dead {ρ:Env} {s s'} (hd:∀c h,s.ar P c h=none):SR P R ρ s s'
theorem ar_bind_none{P:Program}{α γ:Type}(s:Sem α)(f:α→Sem γ):∀c h,s.ar P c h=none→(s.bind f).ar P c h=none:=by
 induction s with
 |pure a=>intro c h e;simp only [Sem.ar] at e;cases e
 |load m a k ih=>
  intro c h e
  rw [Sem.ar.eq_def] at e
  simp only [Sem.bind]
  rw [Sem.ar.eq_def]
  dsimp only at e ⊢
  split
  ·rename_i v hv
   rw [hv] at e
   exact ih v _ _ e
  ·rfl
 |store m a v k ih=>
  intro c h e
  simp only [Sem.bind]
  cases v<;>cases m<;>simp only [Sem.ar] at e ⊢
  all_goals
   split
   ·rename_i hv
    rw [hv] at e
    exact ih _ _ e
   ·rfl
 |new o k ih=>
  intro c h e
  simp only [Sem.bind]
  simp only [Sem.ar] at e ⊢
  split<;>first|rfl|exact ih _ _ _ e
 |shape r k ih=>
  intro c h e
  simp only [Sem.bind]
  simp only [Sem.ar] at e ⊢
  split
  ·rename_i hv;rw [hv] at e;exact ih _ _ _ e
  ·rename_i B hB hv
   rw [hv] at e
   split at e
   ·rename_i hh;cases hh;exact absurd rfl (hB _ _ _ _ _ _)
   ·first|exact ih _ _ _ e|(rename_i hh;cases hh;exact ih _ _ _ e)
   ·rename_i hh;cases hh
  ·rfl
 |getObj r k ih=>
  intro c h e
  simp only [Sem.bind]
  simp only [Sem.ar] at e ⊢
  split
  ·rfl
  ·rename_i B hB hv
   rw [hv] at e
   split at e
   ·rename_i hh;cases hh;exact absurd rfl (hB _ _ _ _ _ _)
   ·first|exact ih _ _ _ e|(rename_i hh;cases hh;exact ih _ _ _ e)
   ·rename_i hh;cases hh
  ·rfl
 |setObj r o k ih=>
  intro c h e
  simp only [Sem.bind]
  simp only [Sem.ar] at e ⊢
  split
  ·rfl
  ·rfl
  ·rename_i o _ _ B hB hv hv'
   split
   ·rfl
   ·rename_i hro
    refine ih _ _ ?_
    split at e
    ·rename_i hh;cases hv.symm.trans hh;exact absurd rfl (hB _ _ _ _ _ _)
    ·rename_i hh;exact absurd rfl (hv' _ _ _)
    ·rename_i hh _;cases hv.symm.trans hh;rw [if_neg hro] at e;exact e
    ·rename_i hh _;cases hv.symm.trans hh
  ·rfl
 |choose q k ih=>
  intro c h e
  simp only [Sem.bind]
  rw [Sem.ar.eq_def] at e ⊢
  dsimp only at e ⊢
  split
  ·rename_i hq;rw [if_pos hq] at e;exact ih _ _ _ e
  ·rename_i hq
   rw [if_neg hq] at e
   split
   ·exact ih _ _ _ e
   ·rfl
 |program k ih=>
  intro c h e
  exact ih _ _ _ e
 |_=>intro c h e;rfl
section
variable{P:Program}{ρ σ:Env}
theorem SR.bind{α β γ δ:Type}{R:Env→α→β→Prop}{Q:Env→γ→δ→Prop}{s:Sem α}{s':Sem β}{f:α→Sem γ}{f':β→Sem δ}(h:SR P R ρ s s')
  (hf:∀σ:Env,ρ.Le σ→∀a b,R σ a b→SR P Q σ (f a) (f' b)):SR P Q ρ (s.bind f) (s'.bind f'):=by
 induction h with
 |pure h=>exact hf _ (.refl _) _ _ h
 |load ha _ ih=>exact .load ha fun v v' hv=>ih v v' hv hf
 |store ha hv _ ih=>exact .store ha hv (ih hf)
 |new ho _ ih=>exact .new ho fun σ hσ r r' hr=>ih σ hσ r r' hr fun τ hτ=>hf τ (hσ.trans hτ)
 |shape hr hr' _ _ ih ih0=>exact .shape hr hr' (fun e n e' n'=>ih e n e' n' hf) (ih0 hf)
 |getObj hr _ ih=>exact .getObj hr fun o o' ho=>ih o o' ho hf
 |setObj hr ho _ ih=>exact .setObj hr ho (ih hf)
 |choose _ ih=>exact .choose fun n=>ih n hf
 |program _ ih=>exact .program (ih hf)
 |freeze=>exact .freeze
 |frozen=>exact .frozen
 |mark=>exact .mark
 |sys=>exact .sys
 |halt=>exact .halt
 |dead hd=>exact .dead fun c h=>ar_bind_none _ _ _ _ (hd c h)
theorem SR.imp{α β:Type}{R Q:Env→α→β→Prop}{s:Sem α}{s':Sem β}(h:SR P R ρ s s')(hf:∀σ:Env,ρ.Le σ→∀a b,R σ a b→Q σ a b):SR P Q ρ s s' :=by
 induction h with
 |pure h=>exact .pure (hf _ (.refl _) _ _ h)
 |load ha _ ih=>exact .load ha fun v v' hv=>ih v v' hv hf
 |store ha hv _ ih=>exact .store ha hv (ih hf)
 |new ho _ ih=>exact .new ho fun σ hσ r r' hr=>ih σ hσ r r' hr fun τ hτ=>hf τ (hσ.trans hτ)
 |shape hr hr' _ _ ih ih0=>exact .shape hr hr' (fun e n e' n'=>ih e n e' n' hf) (ih0 hf)
 |getObj hr _ ih=>exact .getObj hr fun o o' ho=>ih o o' ho hf
 |setObj hr ho _ ih=>exact .setObj hr ho (ih hf)
 |choose _ ih=>exact .choose fun n=>ih n hf
 |program _ ih=>exact .program (ih hf)
 |freeze=>exact .freeze
 |frozen=>exact .frozen
 |mark=>exact .mark
 |sys=>exact .sys
 |halt=>exact .halt
 |dead hd=>exact .dead hd
end
end Go.Am
namespace Go.Am
open Go.Ren (grow EvO Guar Rely)
def Out{α β:Type}(P:Program)(X:Event→Prop)(D:Nat→Prop)(R:Env→α→β→Prop)(ρ:Env)(O:Nat→Prop)(h:AH)(w:World)(s':Sem β)(a:α)(h':AH):Prop:=
 ∃(σ:Env) (b:β) (w':World) (es:Array Event),(∀es₀,s'.runT P w es₀=(.ok b w',es₀ ++ es))∧ρ.Le σ∧R σ a b∧Rel σ (grow O w w') D h' w' ∧ Guar X O D w w' es ∧
  h.n≤h'.n∧∀x,σ.born x↔ρ.born x∨(h.n≤x∧x < h'.n)
section
variable{P:Program}{ρ σ:Env}{O O' D:Nat→Prop}{h h' h₁:AH}{w w' w₁:World}{X:Event→Prop}{α β:Type}{R:Env→α→β→Prop}{a:α}
theorem Out.then{s' s₁:Sem β}{es₁:Array Event}(hrun:∀es₀,s'.runT P w es₀=s₁.runT P w₁ (es₀ ++ es₁))(hle:ρ.Le σ)(hG:Guar X O D w w₁ es₁)(hn:h.n≤h₁.n)(hb:∀x,σ.born x↔ρ.born x∨(h.n≤x∧x < h₁.n))
  (k:Out P X D R σ (grow O w w₁) h₁ w₁ s₁ a h'):Out P X D R ρ O h w s' a h' :=by
 obtain ⟨τ,b,w',es,h1,h2,h3,h4,h5,h6,h7⟩:=k
 refine ⟨τ,b,w',es₁ ++ es,fun es₀=>by rw [hrun,h1,Array.append_assoc],hle.trans h2,h3,h4.mono fun b hb=>Go.Ren.grow_trans hb hG.size h5.size,hG.trans h5,Nat.le_trans hn h6,fun x=>?_⟩
 rw [h7,hb]
 constructor
 ·rintro ((h|h)|h)
  ·exact .inl h
  ·exact .inr ⟨h.1,Nat.lt_of_lt_of_le h.2 h6⟩
  ·exact .inr ⟨Nat.le_trans hn h.1,h.2⟩
 ·rintro (h|h)
  ·exact .inl (.inl h)
  ·rcases Nat.lt_or_ge x h₁.n with hx|hx
   ·exact .inl (.inr ⟨h.1,hx⟩)
   ·exact .inr ⟨hx,h.2⟩
theorem push_app{γ:Type}(es:Array γ)(e:γ):es ++ #[e]=es.push e:=by simp
theorem grow_same(O:Nat→Prop)(w:World)(hs:w₁.heap.size=w.heap.size):grow O w w₁=O:=by
 funext b
 apply propext
 unfold grow
 constructor
 ·rintro (x|⟨x,y⟩)
  ·exact x
  ·omega
 ·exact .inl
theorem Out.here{s' s₁:Sem β}{es₁:Array Event}(hrun:∀es₀,s'.runT P w es₀=s₁.runT P w₁ (es₀ ++ es₁))(hG:Guar X O D w w₁ es₁)(hs:w₁.heap.size=w.heap.size)(hn:h₁.n=h.n)
  (k:Out P X D R ρ O h₁ w₁ s₁ a h'):Out P X D R ρ O h w s' a h' :=by
 refine Out.then (h₁:=h₁) hrun (.refl ρ) hG (by omega) (fun x=>?_) (by rw [grow_same O w hs];exact k)
 rw [hn]
 exact ⟨.inl,fun h=>h.elim id fun x=>absurd x.1 (by omega)⟩
theorem Rel.drawn(r:Rel ρ O D h w)(n:Nat):Rel ρ O D h { w with drawn:=n }:=r.rely ⟨Nat.le_refl _,fun _ _=>rfl,fun _ _=>rfl,.rfl,rfl,rfl⟩
theorem guar_drawn(n:Nat):Guar X O D w { w with drawn:=n } #[]:=⟨Nat.le_refl _,fun _ _ _=>rfl,rfl,rfl,rfl,fun e he=>by simp at he⟩
theorem guar_write{a:Addr}{v:Value}{s:Bool}(hO:O a.block):Guar X O D w (w.setCell a v) #[⟨.cell a,true,s⟩]:=by
 have hs:(w.setCell a v).heap.size=w.heap.size:=by simp [World.setCell]
 refine ⟨by rw [hs];exact Nat.le_refl _,fun c hc hn=>?_,rfl,rfl,rfl,fun e he=>?_⟩
 ·unfold World.setCell
  dsimp only
  rw [Array.getElem?_modify,if_neg (fun (e:a.block=c)=>hn (e ▸ hO))]
 ·simp only [List.mem_toArray,List.mem_singleton] at he
  subst he
  exact .inr (.inl (.inl hO))
theorem guar_setObj{r:Nat}{o:Obj}{s:Bool}(hO:O r):Guar X O D w { w with heap:=w.heap.setIfInBounds r o } #[⟨.obj r,true,s⟩]:=by
 refine ⟨by simp,fun c hc hn=>?_,rfl,rfl,rfl,fun e he=>?_⟩
 ·rw [Array.getElem?_setIfInBounds,if_neg (fun (e:r=c)=>hn (e ▸ hO))]
 ·simp only [List.mem_toArray,List.mem_singleton] at he
  subst he
  exact .inr (.inl (.inl hO))
theorem shape_cells(r:Rel ρ O D h w){x:Nat}{l:Array Value}{e:TypeId}{f fam ro u}(hx:ρ.born x)(hl:h.look x=some ⟨.cells l e f,fam,ro,u⟩):∃e' n',w.shape? (ρ.to x).1=some (e',n'):=by
 obtain ⟨C,E,g,h1,_⟩:=r.cells x _ l e f hx hl rfl
 exact ⟨E,C.size,by unfold World.shape?;rw [h1]⟩
theorem shape_none(r:Rel ρ O D h w){x:Nat}{B:Blk}(hx:ρ.born x)(hl:h.look x=some B)(hc:∀c e f,B.obj ≠ .cells c e f):w.shape? (ρ.to x).1=none:=by
 obtain ⟨_,o',h1,h2⟩:=r.obj x B hx hl hc
 unfold World.shape?
 rw [h1]
 have:=h2.not_cells.2
 cases o'<;>first|rfl|exact absurd rfl (this _ _ _)
theorem SR.sim0{s:Sem α}{s':Sem β}(k:SR P R ρ s s'):∀ {O:Nat→Prop} {h h':AH} {w:World} {a:α},Rel ρ O D h w→s.ar P none h=some (a,h')→Out P X D R ρ O h w s' a h' :=by
 induction k with
 | @pure ρ x y hR=>
  intro O h h' w a r e
  simp only [Sem.ar,Option.some.injEq,Prod.mk.injEq] at e
  obtain ⟨rfl,rfl⟩:=e
  refine ⟨ρ,y,w,#[],fun es₀=>by simp only [Sem.runT,Array.append_empty],.refl ρ,hR,r.mono fun _=>.inl,.none w,Nat.le_refl _,fun x=>⟨.inl,fun h=>h.elim id fun x=>absurd x.1 (by omega)⟩⟩
 | @load ρ m ad kk kk' ha _ ih=>
  intro O h h' w a r e
  rw [Sem.ar.eq_def] at e
  dsimp only at e
  split at e
  ·rename_i v hc
   obtain ⟨v',h1,h2,h3⟩:=r.load ha hc
   exact Out.here (es₁:=#[⟨.cell (ρ.addr ad),false,Mode.plain == Mode.atomic⟩]) (fun es₀=>by rw [push_app];simp only [Sem.runT,h1]) (guar_read (l:=.cell (ρ.addr ad)) h3) rfl rfl (ih v v' h2 r e)
  ·cases e
 | @store ρ m ad v v' kk kk' ha hv _ ih=>
  intro O h h' w a r e
  have key:∀h₁,h.setCell ad v=some h₁→kk.ar P none h₁=some (a,h')→(∀c,v' ≠ .agg c)→(∀c,v' ≠ .tuple c)→Out P X D R ρ O h w (.store m (ρ.addr ad) v' kk') a h' :=by
   intro h₁ hs he n1 n2
   obtain ⟨u,h1,h2,h3,h4⟩:=r.store ha hs hv
   refine Out.here (h₁:=h₁) (w₁:=w.setCell (ρ.addr ad) v') (s₁:=kk') (es₁:=#[⟨.cell (ρ.addr ad),true,m == .atomic⟩]) (fun es₀=>?_) (guar_write h4) (by simp [World.setCell]) ?_ (ih h3 he)
   ·cases v'<;>first|exact absurd rfl (n1 _)|exact absurd rfl (n2 _)|(rw [push_app];simp only [Sem.runT,h1,h2];rfl)
   ·unfold AH.setCell at hs
    (repeat' split at hs)<;>first|cases hs;rfl|cases hs
  cases hv with
  |agg=>simp only [Sem.ar] at e;cases e
  |tuple=>simp only [Sem.ar] at e;cases e
  |_=>
   cases m with
   |atomic=>simp only [Sem.ar] at e;cases e
   |plain=>
    simp only [Sem.ar] at e
    split at e
    ·rename_i h₁ hs
     exact key h₁ hs e (fun c x=>by cases x) (fun c x=>by cases x)
    ·cases e
 | @new ρ o o' kk kk' ho _ ih=>
  intro O h h' w a r e
  have hnb:¬ρ.born h.n:=fun hb=>Nat.lt_irrefl _ (r.fresh _ hb)
  have key:(kk h.n).ar P none (h.new o)=some (a,h')→Out P X D R ρ O h w (.new o' kk') a h' :=by
   intro e
   have r' :=(r.push o).birth (o' :=o') hnb (Nat.lt_succ_self _) (look_new o) ho
   refine Out.then (h₁:=h.new o) (w₁:={ w with heap:=w.heap.push o' }) (s₁:=kk' w.heap.size) (es₁:=#[]) (fun es₀=>by simp only [Sem.runT,Array.append_empty]) (Env.add_le hnb) (guar_push o') (Nat.le_succ _) (fun x=>?_) (ih _ (Env.add_le hnb) h.n w.heap.size ⟨.inl rfl,add_to⟩ r' e)
   show (x=h.n∨ρ.born x)↔_
   constructor
   ·rintro (rfl|hx)
    ·exact .inr ⟨Nat.le_refl _,Nat.lt_succ_self _⟩
    ·exact .inl hx
   ·rintro (hx|⟨h1,h2⟩)
    ·exact .inr hx
    ·have:x < h.n+1:=h2
     exact .inl (by omega)
  simp only [Sem.ar] at e
  split at e<;>first|exact key e|cases e
 | @shape ρ x y kk kk' hx hy _ _ ih ih0=>
  intro O h h' w a r e
  simp only [Sem.ar] at e
  split at e
  ·rename_i l t f fam ro u hl
   obtain ⟨e',n',hs⟩:=shape_cells r hx hl
   exact Out.here (w₁:=w) (s₁:=kk' (some (e',n'))) (es₁:=#[]) (fun es₀=>by simp only [Sem.runT,hy,hs,Array.append_empty]) (.none w) rfl rfl (ih _ _ _ _ r e)
  ·rename_i B hnc hl
   exact Out.here (w₁:=w) (s₁:=kk' none) (es₁:=#[]) (fun es₀=>by simp only [Sem.runT,hy,shape_none r hx hl (fun c e f hB=>hnc c e f B.fam B.ro B.u (by rw [←hB])),Array.append_empty]) (.none w) rfl rfl (ih0 r e)
  ·cases e
 | @getObj ρ x y kk kk' hx _ ih=>
  intro O h h' w a r e
  simp only [Sem.ar] at e
  split at e
  ·cases e
  ·rename_i B hnc hl
   obtain ⟨o',h1,h2,h3⟩:=r.getObj hx hl (fun c e f hB=>hnc c e f B.fam B.ro B.u (by rw [←hB]))
   refine Out.here (w₁:=w) (s₁:=kk' o') (es₁:=#[⟨.obj y,false,o'.isChan⟩]) (fun es₀=>?_) (guar_read (l:=.obj y) h3) rfl rfl (ih _ o' h2 r e)
   rw [push_app]
   have:=h2.not_cells.2
   cases o'<;>first|exact absurd rfl (this _ _ _)|simp only [Sem.runT,h1]
  ·cases e
 | @setObj ρ x y o o' kk kk' hx ho _ ih=>
  intro O h h' w a r e
  simp only [Sem.ar] at e
  split at e
  ·cases e
  ·cases e
  ·rename_i o _ _ B hnc hl hnc'
   split at e
   ·cases e
   ·rename_i hro
    have hc:∀c e f,B.obj ≠ .cells c e f:=fun c e f hB=>hnc c e f B.fam B.ro B.u (by rw [←hB])
    obtain ⟨o₁,h1,h2,_⟩:=r.getObj hx hl hc
    obtain ⟨r',hO⟩:=r.setObj hx hl hc (by simpa using hro) ho
    refine Out.here (h₁:=h.put x B o) (w₁:={ w with heap:=w.heap.setIfInBounds y o' }) (s₁:=kk') (es₁:=#[⟨.obj y,true,o'.isChan⟩]) (fun es₀=>?_) (guar_setObj hO) (by simp) rfl (ih r' e)
    rw [push_app]
    have:=h2.not_cells.2
    cases o₁<;>first|exact absurd rfl (this _ _ _)|simp only [Sem.runT,h1]
  ·cases e
 | @choose ρ q kk kk' _ ih=>
  intro O h h' w a r e
  simp only [Sem.ar] at e
  split at e
  ·rename_i hq
   exact Out.here (w₁:=w) (s₁:=kk' 0) (es₁:=#[]) (fun es₀=>by simp only [Sem.runT,if_pos hq,Array.append_empty]) (.none w) rfl rfl (ih 0 r e)
  ·cases e
 | @program ρ kk kk' _ ih=>
  intro O h h' w a r e
  simp only [Sem.ar] at e
  exact Out.here (w₁:=w) (s₁:=kk' P) (es₁:=#[]) (fun es₀=>by simp only [Sem.runT,Array.append_empty]) (.none w) rfl rfl (ih r e)
 |dead hd=>
  intro O h h' w a r e
  rw [hd] at e
  cases e
 |_=>
  intro O h h' w a r e
  simp only [Sem.ar] at e
  cases e
end
end Go.Am
namespace Go.Am
open Go.Ren (grow EvO Guar Rely)
section
variable{P:Program}{D:Nat→Prop}{X:Event→Prop}{α β:Type}{R:Env→α→β→Prop}
theorem SR.sim1{ρ:Env}{s:Sem α}{s':Sem β}(k:SR P R ρ s s'):∀ {O:Nat→Prop} {h:AH} {w:World},Rel ρ O D h w→∃c:Nat,∀ {h':AH} {a:α},s.ar P (some c) h=some (a,h')→Out P X D R ρ O h w s' a h' :=by
 induction k with
 | @pure ρ x y hR=>
  intro O h w r
  refine ⟨0,fun {h'} {a} e=>?_⟩
  simp only [Sem.ar,Option.some.injEq,Prod.mk.injEq] at e
  obtain ⟨rfl,rfl⟩:=e
  refine ⟨ρ,y,w,#[],fun es₀=>by simp only [Sem.runT,Array.append_empty],.refl ρ,hR,r.mono fun _=>.inl,.none w,Nat.le_refl _,fun x=>⟨.inl,fun h=>h.elim id fun x=>absurd x.1 (by omega)⟩⟩
 | @load ρ m ad kk kk' ha _ ih=>
  intro O h w r
  cases hc:h.cell ad with
  |none=>exact ⟨0,fun {h'} {a} e=>by rw [Sem.ar.eq_def] at e;simp only [hc] at e;cases e⟩
  |some v=>
   obtain ⟨v',h1,h2,h3⟩:=r.load ha hc
   obtain ⟨c,k⟩:=ih v v' h2 r
   refine ⟨c,fun {h'} {a} e=>?_⟩
   rw [Sem.ar.eq_def] at e
   simp only [hc] at e
   cases m with
   |atomic=>cases e
   |plain=>exact Out.here (es₁:=#[⟨.cell (ρ.addr ad),false,Mode.plain == Mode.atomic⟩]) (fun es₀=>by rw [push_app];simp only [Sem.runT,h1]) (guar_read (l:=.cell (ρ.addr ad)) h3) rfl rfl (k e)
 | @store ρ m ad v v' kk kk' ha hv _ ih=>
  intro O h w r
  cases hs:h.setCell ad v with
  |none=>
   refine ⟨0,fun {h'} {a} e=>?_⟩
   rw [Sem.ar.eq_def] at e
   cases v<;>cases m<;>simp only [hs] at e<;>cases e
  |some h₁=>
   obtain ⟨u,h1,h2,h3,h4⟩:=r.store ha hs hv
   obtain ⟨c,k⟩:=ih h3
   refine ⟨c,fun {h'} {a} e=>?_⟩
   have key:kk.ar P (some c) h₁=some (a,h')→(∀c,v' ≠ .agg c)→(∀c,v' ≠ .tuple c)→Out P X D R ρ O h w (.store m (ρ.addr ad) v' kk') a h' :=by
    intro he n1 n2
    refine Out.here (h₁:=h₁) (w₁:=w.setCell (ρ.addr ad) v') (s₁:=kk') (es₁:=#[⟨.cell (ρ.addr ad),true,m == .atomic⟩]) (fun es₀=>?_) (guar_write h4) (by simp [World.setCell]) ?_ (k he)
    ·cases v'<;>first|exact absurd rfl (n1 _)|exact absurd rfl (n2 _)|(rw [push_app];simp only [Sem.runT,h1,h2];rfl)
    ·unfold AH.setCell at hs
     (repeat' split at hs)<;>first|cases hs;rfl|cases hs
   cases hv with
   |agg=>simp only [Sem.ar] at e;cases e
   |tuple=>simp only [Sem.ar] at e;cases e
   |_=>
    cases m with
    |atomic=>simp only [Sem.ar] at e;cases e
    |plain=>
     simp only [Sem.ar,hs] at e
     exact key e (fun c x=>by cases x) (fun c x=>by cases x)
 | @new ρ o o' kk kk' ho _ ih=>
  intro O h w r
  have hnb:¬ρ.born h.n:=fun hb=>Nat.lt_irrefl _ (r.fresh _ hb)
  have r' :=(r.push o).birth (o' :=o') hnb (Nat.lt_succ_self _) (look_new o) ho
  obtain ⟨c,k⟩:=ih _ (Env.add_le hnb) h.n w.heap.size ⟨.inl rfl,add_to⟩ r'
  refine ⟨c,fun {h'} {a} e=>?_⟩
  have key:(kk h.n).ar P (some c) (h.new o)=some (a,h')→Out P X D R ρ O h w (.new o' kk') a h' :=by
   intro e
   refine Out.then (h₁:=h.new o) (w₁:={ w with heap:=w.heap.push o' }) (s₁:=kk' w.heap.size) (es₁:=#[]) (fun es₀=>by simp only [Sem.runT,Array.append_empty]) (Env.add_le hnb) (guar_push o') (Nat.le_succ _) (fun x=>?_) (k e)
   show (x=h.n∨ρ.born x)↔_
   constructor
   ·rintro (rfl|hx)
    ·exact .inr ⟨Nat.le_refl _,Nat.lt_succ_self _⟩
    ·exact .inl hx
   ·rintro (hx|⟨h1,h2⟩)
    ·exact .inr hx
    ·have:x < h.n+1:=h2
     exact .inl (by omega)
  simp only [Sem.ar] at e
  split at e<;>first|exact key e|cases e
 | @shape ρ x y kk kk' hx hy _ _ ih ih0=>
  intro O h w r
  cases hl:h.look x with
  |none=>exact ⟨0,fun {h'} {a} e=>by rw [Sem.ar.eq_def] at e;simp only [hl] at e;cases e⟩
  |some B=>
   obtain ⟨o,fam,ro,u⟩:=B
   by_cases hc:∃l t f,o = .cells l t f
   ·obtain ⟨l,t,f,rfl⟩:=hc
    obtain ⟨e',n',hs⟩:=shape_cells r hx hl
    obtain ⟨c,k⟩:=ih t l.size e' n' r
    refine ⟨c,fun {h'} {a} e=>?_⟩
    rw [Sem.ar.eq_def] at e
    simp only [hl] at e
    exact Out.here (w₁:=w) (s₁:=kk' (some (e',n'))) (es₁:=#[]) (fun es₀=>by simp only [Sem.runT,hy,hs,Array.append_empty]) (.none w) rfl rfl (k e)
   ·have hc':∀l t f,o ≠ .cells l t f:=fun l t f x=>hc ⟨l,t,f,x⟩
    obtain ⟨c,k⟩:=ih0 r
    refine ⟨c,fun {h'} {a} e=>?_⟩
    rw [Sem.ar.eq_def] at e
    simp only [hl] at e
    split at e
    ·rename_i l t f _ _ _ hh;cases hh;exact absurd rfl (hc' _ _ _)
    ·exact Out.here (w₁:=w) (s₁:=kk' none) (es₁:=#[]) (fun es₀=>by simp only [Sem.runT,hy,shape_none r hx hl hc',Array.append_empty]) (.none w) rfl rfl (k e)
    ·cases e
 | @getObj ρ x y kk kk' hx _ ih=>
  intro O h w r
  cases hl:h.look x with
  |none=>exact ⟨0,fun {h'} {a} e=>by rw [Sem.ar.eq_def] at e;simp only [hl] at e;cases e⟩
  |some B=>
   by_cases hc:∃l t f,B.obj = .cells l t f
   ·obtain ⟨l,t,f,hB⟩:=hc
    refine ⟨0,fun {h'} {a} e=>?_⟩
    rw [Sem.ar.eq_def] at e
    obtain ⟨o,fam,ro,u⟩:=B
    dsimp only at hB
    subst hB
    simp only [hl] at e
    cases e
   ·have hc':∀l t f,B.obj ≠ .cells l t f:=fun l t f x=>hc ⟨l,t,f,x⟩
    obtain ⟨o',h1,h2,h3⟩:=r.getObj hx hl hc'
    obtain ⟨c,k⟩:=ih _ o' h2 r
    refine ⟨c,fun {h'} {a} e=>?_⟩
    rw [Sem.ar.eq_def] at e
    simp only [hl] at e
    split at e
    ·cases e
    ·rename_i B' _ hh
     cases hh
     refine Out.here (w₁:=w) (s₁:=kk' o') (es₁:=#[⟨.obj y,false,o'.isChan⟩]) (fun es₀=>?_) (guar_read (l:=.obj y) h3) rfl rfl (k e)
     rw [push_app]
     have:=h2.not_cells.2
     cases o'<;>first|exact absurd rfl (this _ _ _)|simp only [Sem.runT,h1]
    ·cases e
 | @setObj ρ x y o o' kk kk' hx ho _ ih=>
  intro O h w r
  cases hl:h.look x with
  |none=>
   refine ⟨0,fun {h'} {a} e=>?_⟩
   rw [Sem.ar.eq_def] at e
   cases ho<;>(simp only [hl] at e;cases e)
  |some B=>
   by_cases hc:∃l t f,B.obj = .cells l t f
   ·obtain ⟨l,t,f,hB⟩:=hc
    refine ⟨0,fun {h'} {a} e=>?_⟩
    rw [Sem.ar.eq_def] at e
    obtain ⟨o,fam,ro,u⟩:=B
    dsimp only at hB
    subst hB
    simp only [hl] at e
    cases e
   ·have hc':∀l t f,B.obj ≠ .cells l t f:=fun l t f x=>hc ⟨l,t,f,x⟩
    by_cases hro:B.ro=true
    ·refine ⟨0,fun {h'} {a} e=>?_⟩
     rw [Sem.ar.eq_def] at e
     simp only [hl] at e
     split at e<;>first|(cases e;done)|(rename_i hh _;cases hh;rw [if_pos hro] at e;cases e)
    ·have hro':B.ro=false:=by simpa using hro
     obtain ⟨o₁,h1,h2,_⟩:=r.getObj hx hl hc'
     obtain ⟨r',hO⟩:=r.setObj hx hl hc' hro' ho
     obtain ⟨c,k⟩:=ih r'
     refine ⟨c,fun {h'} {a} e=>?_⟩
     rw [Sem.ar.eq_def] at e
     simp only [hl] at e
     split at e
     ·cases e
     ·cases e
     ·rename_i hh _
      cases hh
      rw [if_neg (by simp [hro'])] at e
      refine Out.here (h₁:=h.put x B _) (w₁:={ w with heap:=w.heap.setIfInBounds y o' }) (s₁:=kk') (es₁:=#[⟨.obj y,true,o'.isChan⟩]) (fun es₀=>?_) (guar_setObj hO) (by simp) rfl (k e)
      rw [push_app]
      have:=h2.not_cells.2
      cases o₁<;>first|exact absurd rfl (this _ _ _)|simp only [Sem.runT,h1]
     ·cases e
 | @choose ρ q kk kk' hk ih=>
  intro O h w r
  by_cases hq:q.forced=true
  ·obtain ⟨c,k⟩:=ih 0 r
   refine ⟨c,fun {h'} {a} e=>?_⟩
   rw [Sem.ar.eq_def] at e
   simp only [hq,if_true] at e
   exact Out.here (w₁:=w) (s₁:=kk' 0) (es₁:=#[]) (fun es₀=>by simp only [Sem.runT,if_pos hq,Array.append_empty]) (.none w) rfl rfl (k e)
  ·cases q with
   |mapNext n=>
    refine ⟨w.tape w.drawn (.mapNext n),fun {h'} {a} e=>?_⟩
    rw [Sem.ar.eq_def] at e
    simp only [if_neg hq] at e
    exact Out.here (w₁:={ w with drawn:=w.drawn+1 }) (s₁:=kk' ((Question.mapNext n).cut (w.tape w.drawn (.mapNext n)))) (es₁:=#[]) (fun es₀=>by simp only [Sem.runT,if_neg hq,Array.append_empty]) (guar_drawn _) rfl rfl ((hk _).sim0 (r.drawn _) e)
   |_=>
    refine ⟨0,fun {h'} {a} e=>?_⟩
    rw [Sem.ar.eq_def] at e
    simp only [if_neg hq] at e
    cases e
 | @program ρ kk kk' _ ih=>
  intro O h w r
  obtain ⟨c,k⟩:=ih r
  refine ⟨c,fun {h'} {a} e=>?_⟩
  simp only [Sem.ar] at e
  exact Out.here (w₁:=w) (s₁:=kk' P) (es₁:=#[]) (fun es₀=>by simp only [Sem.runT,Array.append_empty]) (.none w) rfl rfl (k e)
 |dead hd=>
  intro O h w r
  refine ⟨0,fun {h'} {a} e=>?_⟩
  rw [hd] at e
  cases e
 |_=>
  intro O h w r
  refine ⟨0,fun {h'} {a} e=>?_⟩
  simp only [Sem.ar] at e
  cases e
end
end Go.Am
