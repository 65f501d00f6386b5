import GoSem.Step
import Derived.Conc.Beside
set_option linter.unusedVariables false
set_option linter.unusedSectionVars false
set_option linter.unusedSimpArgs false
namespace Go.Ren
section
variable{P:Program}{O O' D:Nat→Prop}{w w₁ w₂ w':World}{g g':Goroutine}{es:Array Event}
def Tm(o o':Os):Prop:=o' = o
theorem Tm.rfl{o:Os}:Tm o o:=Eq.refl o
theorem Tm.trans{a b c:Os}(h:Tm a b)(k:Tm b c):Tm a c:=Eq.trans k h
theorem Tm.of{a b:Os}(h:b=a):Tm a b:=h
structure az(O D:Nat→Prop)(w w₁:World):Prop where
 size:w.heap.size≤w₁.heap.size
 own:∀b,O b→w₁.heap[b]? = w.heap[b]?
 ro:∀b,D b→w₁.heap[b]? = w.heap[b]?
 os:Tm w.os w₁.os
 output:w₁.output=w.output
 tape:w₁.tape=w.tape
theorem az.refl(w:World):az O D w w:=⟨Nat.le_refl _,fun _ _=>rfl,fun _ _=>rfl,.rfl,rfl,rfl⟩
theorem az.trans(h:az O D w w₁)(k:az O D w₁ w₂):az O D w w₂:=
 ⟨Nat.le_trans h.size k.size,fun b hb=>(k.own b hb).trans (h.own b hb),fun b hb=>(k.ro b hb).trans (h.ro b hb),h.os.trans k.os,k.output.trans h.output,k.tape.trans h.tape⟩
def grow(O:Nat→Prop)(w₁ w':World):Nat→Prop:=fun b=>O b∨(w₁.heap.size≤b∧b < w'.heap.size)
def uP:Mark→Bool
 | .extern _ | .noRoom=>true
 |_=>false
def fM(X:Event→Prop)(B:Nat)(O D:Nat→Prop)(e:Event):Prop:=
 (X e∧(MemAct.ofEvent e).low B)∨match e.loc with
 | .cell a=>O a.block∨(D a.block∧e.write=false)
 | .obj r=>O r∨(D r∧e.write=false)
 | .mark m=>uP m=true
 | .output=>True
 |_=>False
structure aO(X:Event→Prop)(O D:Nat→Prop)(w₁ w':World)(es:Array Event):Prop where
 size:w₁.heap.size≤w'.heap.size
 heap:∀c,c < w₁.heap.size→¬O c→w'.heap[c]? = w₁.heap[c]?
 os:w'.os=w₁.os
 output:w'.output=w₁.output
 tape:w'.tape=w₁.tape
 ev:∀e∈es,fM X w'.heap.size (grow O w₁ w') D e
variable{X:Event→Prop}
theorem fM.mono{B B':Nat}{O O':Nat→Prop}{e:Event}(h:fM X B O D e)(hB:B≤B')(hO:∀b,O b→O' b):fM X B' O' D e:=by
 rcases h with ⟨h1,h2⟩|h
 ·exact .inl ⟨h1,MemAct.low_mono hB h2⟩
 ·right
  revert h
  cases e.loc with
  |cell a=>exact fun h=>h.imp (hO _) id
  |obj r=>exact fun h=>h.imp (hO _) id
  |_=>exact id
theorem aO.none(w:World):aO X O D w w #[]:=⟨Nat.le_refl _,fun _ _ _=>rfl,rfl,rfl,rfl,fun e he=>by simp at he⟩
theorem rU{w₀:World}{b:Nat}(h:grow (grow O w₀ w₁) w₁ w₂ b)(h1:w₀.heap.size≤w₁.heap.size)(h2:w₁.heap.size≤w₂.heap.size):grow O w₀ w₂ b:=by
 rcases h with (h|⟨h,k⟩)|⟨h,k⟩
 ·exact .inl h
 ·exact .inr ⟨h,by omega⟩
 ·exact .inr ⟨by omega,k⟩
theorem aO.trans{es₁ es₂:Array Event}(h:aO X O D w w₁ es₁)(k:aO X (grow O w w₁) D w₁ w₂ es₂):aO X O D w w₂ (es₁ ++ es₂):=by
 refine ⟨Nat.le_trans h.size k.size,fun c hc hO=>?_,k.os.trans h.os,k.output.trans h.output,k.tape.trans h.tape,fun e he=>?_⟩
 ·rw [k.heap c (Nat.lt_of_lt_of_le hc h.size) (fun hg=>hg.elim hO fun x=>by omega),h.heap c hc hO]
 ·rcases Array.mem_append.1 he with he|he
  ·exact (h.ev e he).mono k.size fun b hb=>hb.imp id fun x=>⟨x.1,Nat.lt_of_lt_of_le x.2 k.size⟩
  ·exact (k.ev e he).mono (Nat.le_refl _) fun b hb=>rU hb h.size k.size
theorem aO.less{es₁:Array Event}(h:aO X O D w w₁ es)(hs:∀e∈es₁,e∈es):aO X O D w w₁ es₁:=⟨h.size,h.heap,h.os,h.output,h.tape,fun e he=>h.ev e (hs e he)⟩
inductive Wk(P:Program)(m:Bool)(I:World→Prop)(X:Event→Prop)(D:Nat→Prop)(Stop:(Nat→Prop)→Goroutine→World→Prop):(Nat→Prop)→Goroutine→World→Prop
 |stop {O:Nat→Prop} {g:Goroutine} {w:World} (h:Stop O g w):Wk P m I X D Stop O g w
 |step {O:Nat→Prop} {g:Goroutine} {w:World} (hs:g.status = .running) (f:World→Goroutine) (u:World→World) (es:World→Array Event)
   (h:∀w₁,az O D w w₁→I w₁→stepG P m g w₁ = .go (f w₁) (u w₁) (es w₁)∧aO X O D w₁ (u w₁) (es w₁))
   (k:∀w₁,az O D w w₁→I w₁→Wk P m I X D Stop (grow O w₁ (u w₁)) (f w₁) (u w₁)):Wk P m I X D Stop O g w
variable{I:World→Prop}
theorem Wk.mk{m:Bool}{Stop:(Nat→Prop)→Goroutine→World→Prop}(hs:g.status = .running)
  (h:∀w₁,az O D w w₁→I w₁→∃g' w' es,stepG P m g w₁ = .go g' w' es∧aO X O D w₁ w' es∧Wk P m I X D Stop (grow O w₁ w') g' w'):Wk P m I X D Stop O g w:=by
 have h':∀w₁,∃x:Goroutine×World×Array Event,az O D w w₁→I w₁→stepG P m g w₁ = .go x.1 x.2.1 x.2.2∧aO X O D w₁ x.2.1 x.2.2∧Wk P m I X D Stop (grow O w₁ x.2.1) x.1 x.2.1:=by
  intro w₁
  by_cases hr:az O D w w₁∧I w₁
  ·obtain ⟨g',w',es,x⟩:=h w₁ hr.1 hr.2
   exact ⟨(g',w',es),fun _ _=>x⟩
  ·exact ⟨(g,w,#[]),fun x y=>absurd ⟨x,y⟩ hr⟩
 let c:=fun w₁=>Classical.choose (h' w₁)
 have hc:∀w₁,az O D w w₁→I w₁→stepG P m g w₁ = .go (c w₁).1 (c w₁).2.1 (c w₁).2.2∧aO X O D w₁ (c w₁).2.1 (c w₁).2.2∧Wk P m I X D Stop (grow O w₁ (c w₁).2.1) (c w₁).1 (c w₁).2.1:=fun w₁ hr hi=>Classical.choose_spec (h' w₁) hr hi
 exact .step hs (fun w₁=>(c w₁).1) (fun w₁=>(c w₁).2.1) (fun w₁=>(c w₁).2.2) (fun w₁ hr hi=>⟨(hc w₁ hr hi).1,(hc w₁ hr hi).2.1⟩) (fun w₁ hr hi=>(hc w₁ hr hi).2.2)
theorem Wk.bind{m:Bool}{S T:(Nat→Prop)→Goroutine→World→Prop}(h:Wk P m I X D S O g w)(k:∀O g w,S O g w→Wk P m I X D T O g w):Wk P m I X D T O g w:=by
 induction h with
 |stop h=>exact k _ _ _ h
 |step hs f u es h _ ih=>exact .step hs f u es h fun w₁ hr hi=>ih w₁ hr hi
theorem Wk.mono{m:Bool}{S T:(Nat→Prop)→Goroutine→World→Prop}(h:Wk P m I X D S O g w)(k:∀O g w,S O g w→T O g w):Wk P m I X D T O g w:=h.bind fun O g w x=>.stop (k O g w x)
end
end Go.Ren
namespace Go.Am
open Go.Ren (grow fM aO az)
inductive Tr(α:Type) where
 |nil
 |node (l:Tr α) (v:Option α) (r:Tr α)
namespace Tr
variable{α:Type}
def left:Tr α→Tr α|nil=>nil|node l _ _=>l
def right:Tr α→Tr α|nil=>nil|node _ _ r=>r
def top:Tr α→Option α|nil=>none|node _ v _=>v
def get:Tr α→Nat→Option α
 |nil,_=>none
 |node l v r,n=>match n with
  |0=>v
  |n+1=>bif Nat.beq (n % 2) 0 then l.get (n / 2) else r.get (n / 2)
def sW:Nat→Tr α→Nat→α→Tr α
 |f,t,0,x=>node t.left (some x) t.right
 |0,t,_+1,_=>t
 |f+1,t,n+1,x=>bif Nat.beq (n % 2) 0 then node (sW f t.left (n / 2) x) t.top t.right else node t.left t.top (sW f t.right (n / 2) x)
def set(t:Tr α)(n:Nat)(x:α):Tr α:=sW n t n x
theorem sZ(t:Tr α):t.get 0=t.top:=by cases t<;>rfl
theorem kz(t:Tr α)(n:Nat):t.get (n+1)=if n % 2=0 then t.left.get (n / 2) else t.right.get (n / 2):=by
 cases t with
 |nil=>simp [get,left,right]
 |node l v r=>
  show (bif Nat.beq (n % 2) 0 then l.get (n / 2) else r.get (n / 2))=_
  by_cases h:n % 2=0
  ·rw [if_pos h,h];rfl
  ·rw [if_neg h]
   have:Nat.beq (n % 2) 0=false:=by
    cases hb:Nat.beq (n % 2) 0 with
    |false=>rfl
    |true=>exact absurd (Nat.eq_of_beq_eq_true hb) h
   rw [this];rfl
theorem QK(f:Nat):∀(t:Tr α) (n:Nat) (x:α) (m:Nat),n≤f→(sW f t n x).get m=if m=n then some x else t.get m:=by
 induction f with
 |zero=>
  intro t n x m hn
  have:n=0:=by omega
  subst this
  cases m with
  |zero=>simp [sW,sZ,top]
  |succ m=>rw [if_neg (by omega)];simp only [sW,kz,left,right]
 |succ f ih=>
  intro t n x m hn
  cases n with
  |zero=>
   cases m with
   |zero=>simp [sW,sZ,top]
   |succ m=>rw [if_neg (by omega)];simp only [sW,kz,left,right]
  |succ n=>
   have hle:n / 2≤f:=by omega
   by_cases h:n % 2=0
   ·have e:sW (f+1) t (n+1) x=node (sW f t.left (n / 2) x) t.top t.right:=by simp [sW,h]
    rw [e]
    cases m with
    |zero=>rw [if_neg (by omega)];simp [sZ,top]
    |succ m=>
     rw [kz,kz t m]
     simp only [left,right]
     by_cases hm:m % 2=0
     ·rw [if_pos hm,if_pos hm,ih _ _ _ _ hle]
      by_cases hmn:m=n
      · subst hmn;simp
      · rw [if_neg (by omega),if_neg (by omega)]
     ·rw [if_neg hm,if_neg hm,if_neg (by rintro h';exact hm (by omega))]
   ·have hb:Nat.beq (n % 2) 0=false:=by
     cases hb:Nat.beq (n % 2) 0 with
     |false=>rfl
     |true=>exact absurd (Nat.eq_of_beq_eq_true hb) h
    have e:sW (f+1) t (n+1) x=node t.left t.top (sW f t.right (n / 2) x):=by simp only [sW,hb,cond_false]
    rw [e]
    cases m with
    |zero=>rw [if_neg (by omega)];simp [sZ,top]
    |succ m=>
     rw [kz,kz t m]
     simp only [left,right]
     by_cases hm:m % 2=0
     ·rw [if_pos hm,if_pos hm,if_neg (by rintro h';omega)]
     ·rw [if_neg hm,if_neg hm,ih _ _ _ _ hle]
      by_cases hmn:m=n
      · subst hmn;simp
      · rw [if_neg (by omega),if_neg (by omega)]
theorem dN(t:Tr α)(n:Nat)(x:α)(m:Nat):(t.set n x).get m=if m=n then some x else t.get m:=QK n t n x m (Nat.le_refl _)
end Tr
structure bg where
 obj:Obj
 dQ:Option Nat
 ro:Bool
 u:Nat
def bg.UA(B:bg):Prop:=B.dQ=none∧B.ro=true∧B.u=1
structure AH where
 n:Nat
 tr:Tr bg
 dH:Tr (List Nat)
def AH.look(h:AH)(b:Nat):Option bg:=
 match h.tr.get b with
 |none=>none
 |some B=>match B.dQ with
  |none=>some B
  |some f=>if ((h.dH.get f).getD []).contains b then some B else none
def AH.cell(h:AH)(a:Addr):Option Value:=
 match a.spot,h.look a.block with
 |none,some { obj:=.cells c _ _,.. }=>c[a.off]?
 |_,_=>none
def AH.put(h:AH)(b:Nat)(B:bg)(o:Obj):AH:=
 {h with tr:=h.tr.set b { B with obj:=o },dH:=match B.dQ with|none=>h.dH|some f=>h.dH.set f [b] }
def AH.setCell(h:AH)(a:Addr)(v:Value):Option AH:=
 match a.spot,h.look a.block with
 |none,some B=>match B.obj,B.ro with
  | .cells c e f,false=>if a.off < c.size then some (h.put a.block B (.cells (c.setIfInBounds a.off v) e f)) else none
  |_,_=>none
 |_,_=>none
def AH.new(h:AH)(o:Obj):AH:={ h with n:=h.n+1,tr:=h.tr.set h.n ⟨o,none,false,0⟩ }
def _root_.Go.Sem.ar{α:Type}(P:Program):Sem α→Option Nat→AH→Option (α×AH)
 | .pure a,_,h=>some (a,h)
 | .load m a k,c,h=>match h.cell a,m with
  |some v,.plain=>(k v).ar P c h
  |_,_=>none
 | .store m a v k,c,h=>match v,m with
  | .agg _,_ | .tuple _,_|_,.atomic=>none
  |v,.plain=>match h.setCell a v with
   |some h=>k.ar P c h
   |none=>none
 | .new o k,c,h=>match o with
  | .cells _ _ (0,0) | .map _ _ | .stringIter _ _ | .mapIter _ _ _ _ | .loop _ | .deferred _=>(k h.n).ar P c (h.new o)
  |_=>none
 | .shape r k,c,h=>match h.look r with
  |some { obj:=.cells l e _,.. }=>(k (some (e,l.size))).ar P c h
  |some _=>(k none).ar P c h
  |none=>none
 | .getObj r k,c,h=>match h.look r with
  |some { obj:=.cells _ _ _,.. }=>none
  |some B=>(k B.obj).ar P c h
  |none=>none
 | .setObj r o k,c,h=>match h.look r,o with
  |some { obj:=.cells _ _ _,.. },_=>none
  |_,.cells _ _ _=>none
  |some B,o=>if B.ro then none else k.ar P c (h.put r B o)
  |none,_=>none
 | .choose q k,c,h=>if q.forced then (k 0).ar P c h else match q,c with
  | .mapNext n,some i=>(k ((Question.mapNext n).cut i)).ar P none h
  |_,_=>none
 | .program k,c,h=>(k P).ar P c h
 |_,_,_=>none
structure Env where
 to:Nat→Nat×Nat
 born:Nat→Prop
 bD:Nat→Prop
 u:Nat→Nat
 ext:Nat→Nat
def Env.addr(ρ:Env)(a:Addr):Addr:={ block:=(ρ.to a.block).1,off:=(ρ.to a.block).2+a.off,spot:=a.spot }
structure Env.Le(ρ σ:Env):Prop where
 born:∀b,ρ.born b→σ.born b
 to:∀b,ρ.born b→σ.to b=ρ.to b
 bD:∀b,ρ.born b→(σ.bD b↔ρ.bD b)
 u:∀b,ρ.born b→σ.u b=ρ.u b
 ext:∀b,ρ.born b→σ.ext b=ρ.ext b
theorem Env.Le.refl(ρ:Env):ρ.Le ρ:=⟨fun _=>id,fun _ _=>rfl,fun _ _=>Iff.rfl,fun _ _=>rfl,fun _ _=>rfl⟩
theorem Env.Le.trans{ρ σ τ:Env}(h:ρ.Le σ)(k:σ.Le τ):ρ.Le τ:=
 ⟨fun b hb=>k.born b (h.born b hb),fun b hb=>(k.to b (h.born b hb)).trans (h.to b hb),fun b hb=>(k.bD b (h.born b hb)).trans (h.bD b hb),fun b hb=>(k.u b (h.born b hb)).trans (h.u b hb),fun b hb=>(k.ext b (h.born b hb)).trans (h.ext b hb)⟩
def Env.ob(ρ:Env)(r r':Nat):Prop:=ρ.born r∧ρ.to r=(r',0)
theorem Env.Le.ob{ρ σ:Env}(h:ρ.Le σ){r r':Nat}(k:ρ.ob r r'):σ.ob r r' :=⟨h.born _ k.1,(h.to _ k.1).trans k.2⟩
inductive OY(ρ:Env):Fn→Fn→Prop
 |func (f:FuncId):OY ρ (.func f) (.func f)
 |method (n:String):OY ρ (.method n) (.method n)
 |methodOf (t:TypeId) (n:String):OY ρ (.methodOf t n) (.methodOf t n)
 |via (t:TypeId) (p:Array FieldStep) (f:FuncId) (x:Bool):OY ρ (.via t p f x) (.via t p f x)
 |yield {l l':Nat} (h:ρ.ob l l'):OY ρ (.yield l) (.yield l')
def AR{α β:Type}(R:α→β→Prop)(a:Array α)(b:Array β):Prop:=a.size=b.size∧∀(i:Nat) x y,a[i]? = some x→b[i]? = some y→R x y
inductive VR(ρ:Env):Value→Value→Prop
 |bool (b:Bool):VR ρ (.bool b) (.bool b)
 |int (k:IntKind) (n:Int):VR ρ (.int k n) (.int k n)
 |string (s:ByteArray):VR ρ (.string s) (.string s)
 |eu:VR ρ (.pointer none) (.pointer none)
 |ptr {a:Addr} (h:ρ.born a.block):VR ρ (.pointer (some a)) (.pointer (some (ρ.addr a)))
 |nilslice (n c:Nat):VR ρ (.slice none n c) (.slice none n c)
 |slice {a:Addr} {n c c':Nat} (h:ρ.born a.block) (hc:c' = c∨(ρ.bD a.block∧c≤c' ∧ a.off+c' * ρ.u a.block≤ρ.ext a.block)):VR ρ (.slice (some a) n c) (.slice (some (ρ.addr a)) n c')
 |cu:VR ρ (.map none) (.map none)
 |map {r r':Nat} (h:ρ.ob r r'):VR ρ (.map (some r)) (.map (some r'))
 |dJ:VR ρ (.chan none) (.chan none)
 |chan {r r':Nat} (h:ρ.ob r r'):VR ρ (.chan (some r)) (.chan (some r'))
 |nilFunc:VR ρ .nilFunc .nilFunc
 |func {f f':Fn} {a a' b b':Array Value} (hf:OY ρ f f') (hs:a.size=a'.size) (h:∀(i:Nat) x y,a[i]? = some x→a'[i]? = some y→VR ρ x y) (ks:b.size=b'.size) (k:∀(i:Nat) x y,b[i]? = some x→b'[i]? = some y→VR ρ x y):VR ρ (.func f a b) (.func f' a' b')
 |nilIface:VR ρ .nilIface .nilIface
 |iface {t:TypeId} {v v':Value} (h:VR ρ v v'):VR ρ (.iface t v) (.iface t v')
 |agg {a a':Array Value} (hs:a.size=a'.size) (h:∀(i:Nat) x y,a[i]? = some x→a'[i]? = some y→VR ρ x y):VR ρ (.agg a) (.agg a')
 |tuple {a a':Array Value} (hs:a.size=a'.size) (h:∀(i:Nat) x y,a[i]? = some x→a'[i]? = some y→VR ρ x y):VR ρ (.tuple a) (.tuple a')
theorem Env.Le.addr{ρ σ:Env}(h:ρ.Le σ){a:Addr}(k:ρ.born a.block):σ.addr a=ρ.addr a:=by simp only [Env.addr,h.to _ k]
theorem OY.mono{ρ σ:Env}(h:ρ.Le σ){f f':Fn}(k:OY ρ f f'):OY σ f f' :=by
 cases k with
 |yield k=>exact .yield (h.ob k)
 |func f=>exact .func f
 |method n=>exact .method n
 |methodOf t n=>exact .methodOf t n
 |via t p f x=>exact .via t p f x
theorem VR.mono{ρ σ:Env}(h:ρ.Le σ){v v':Value}(k:VR ρ v v'):VR σ v v' :=by
 induction k with
 |bool b=>exact .bool b
 |int k n=>exact .int k n
 |string s=>exact .string s
 |eu=>exact .eu
 |ptr k=>rw [←h.addr k];exact .ptr (h.born _ k)
 |nilslice n c=>exact .nilslice n c
 |slice k hc=>
  rw [←h.addr k]
  refine .slice (h.born _ k) (hc.imp id fun ⟨x,y,z⟩=>⟨(h.bD _ k).2 x,y,?_⟩)
  rw [h.u _ k,h.ext _ k];exact z
 |cu=>exact .cu
 |map k=>exact .map (h.ob k)
 |dJ=>exact .dJ
 |chan k=>exact .chan (h.ob k)
 |nilFunc=>exact .nilFunc
 |func hf hs _ ks _ ih ik=>exact .func (hf.mono h) hs ih ks ik
 |nilIface=>exact .nilIface
 |iface _ ih=>exact .iface ih
 |agg hs _ ih=>exact .agg hs ih
 |tuple hs _ ih=>exact .tuple hs ih
theorem AR.mono{α β:Type}{R S:α→β→Prop}(h:∀x y,R x y→S x y){a:Array α}{b:Array β}(k:AR R a b):AR S a b:=⟨k.1,fun i x y hx hy=>h x y (k.2 i x y hx hy)⟩
def zT:Env:={ to:=fun _=>(0,0),born:=fun _=>False,bD:=fun _=>False,u:=fun _=>0,ext:=fun _=>0 }
structure fA(ρ:Env)(e e':MapEntry):Prop where
 plain:VR zT e.key e.key
 key:e'.key=e.key
 val:VR ρ e.val e'.val
 born:e'.born=e.born
inductive TgR(ρ:Env):Target→Target→Prop
 |collected {r r':Nat} (h:ρ.ob r r'):TgR ρ (.collected r) (.collected r')
 |fn {f f':Fn} {c c':Array Value} (hf:OY ρ f f') (hc:AR (VR ρ) c c'):TgR ρ (.fn f c) (.fn f' c')
structure DR(ρ:Env)(d d':Deferred):Prop where
 target:TgR ρ d.target d'.target
 args:AR (VR ρ) d.args d'.args
inductive LR{α β:Type}(R:α→β→Prop):List α→List β→Prop
 |nil:LR R [] []
 |cons {x y l m} (h:R x y) (k:LR R l m):LR R (x :: l) (y :: m)
theorem LR.mono{α β:Type}{R S:α→β→Prop}(h:∀x y,R x y→S x y){a:List α}{b:List β}(k:LR R a b):LR S a b:=by
 induction k with
 |nil=>exact .nil
 |cons x _ ih=>exact .cons (h _ _ x) ih
inductive eF{α β:Type}(R:α→β→Prop):Option α→Option β→Prop
 |none:eF R none none
 |some {x y} (h:R x y):eF R (some x) (some y)
structure Zk(ρ:Env)(l l':Loop):Prop where
 state:l'.state=l.state
 pending:l'.pending=l.pending
 fn:l'.fn=l.fn
 tmps:AR (VR ρ) l.tmps l'.tmps
 params:l'.params=l.params
 assign:l'.assign=l.assign
 body:l'.body=l.body
 defers:ρ.ob l.defers l'.defers
inductive OR(ρ:Env):Obj→Obj→Prop
 |map {es es':Array MapEntry} {k:Nat} (h:AR (fA ρ) es es'):OR ρ (.map es k) (.map es' k)
 |stringIter (s:ByteArray) (p:Nat):OR ρ (.stringIter s p) (.stringIter s p)
 |mapIter {m m':Option Nat} {a:Nat} {s:Array Nat} {b:Nat} (h:eF ρ.ob m m'):OR ρ (.mapIter m a s b) (.mapIter m' a s b)
 |loop {l l':Loop} (h:Zk ρ l l'):OR ρ (.loop l) (.loop l')
 |taken:OR ρ (.deferred none) (.deferred none)
 |deferred {ds ds':List Deferred} (h:LR (DR ρ) ds ds'):OR ρ (.deferred (some ds)) (.deferred (some ds'))
theorem fA.mono{ρ σ:Env}(h:ρ.Le σ){e e':MapEntry}(k:fA ρ e e'):fA σ e e' :=⟨k.plain,k.key,k.val.mono h,k.born⟩
theorem DR.mono{ρ σ:Env}(h:ρ.Le σ){e e':Deferred}(k:DR ρ e e'):DR σ e e' :=by
 obtain ⟨k1,k2⟩:=k
 refine ⟨?_,k2.mono fun _ _ x=>x.mono h⟩
 revert k1
 intro k1
 cases e;cases e'
 dsimp only at k1 ⊢
 cases k1 with
 |collected k=>exact .collected (h.ob k)
 |fn hf hc=>exact .fn (hf.mono h) (hc.mono fun _ _ x=>x.mono h)
theorem OR.mono{ρ σ:Env}(h:ρ.Le σ){o o':Obj}(k:OR ρ o o'):OR σ o o' :=by
 cases k with
 |map k=>exact .map (k.mono fun _ _ x=>x.mono h)
 |stringIter s p=>exact .stringIter s p
 |mapIter k=>exact .mapIter (by cases k with|none=>exact .none|some x=>exact .some (h.ob x))
 |loop k=>exact .loop ⟨k.state,k.pending,k.fn,k.tmps.mono fun _ _ x=>x.mono h,k.params,k.assign,k.body,h.ob k.defers⟩
 |taken=>exact .taken
 |deferred k=>exact .deferred (k.mono fun _ _ x=>x.mono h)
end Go.Am
namespace Go.Am
open Go.Ren (grow fM aO az)
theorem LG{B:bg}(h:B.ro=false):¬B.UA:=fun k=>by rw [k.2.1] at h;cases h
def AH.upTo(h:AH)(ρ:Env)(b:Nat)(n:Nat):Prop:=∃B c e f,h.tr.get b=some B∧B.obj = .cells c e f∧n=(ρ.to b).2+c.size
structure Rel(ρ:Env)(O D:Nat→Prop)(h:AH)(w:World):Prop where
 cells:∀b B c e f,ρ.born b→h.look b=some B→B.obj = .cells c e f→∃C E g,w.heap[(ρ.to b).1]? = some (.cells C E g)∧(ρ.to b).2+ρ.ext b≤C.size∧c.size≤ρ.ext b∧(¬B.UA→g=(0,0)) ∧
  ∀(i:Nat) v,c[i]? = some v→∃v',C[(ρ.to b).2+i]? = some v' ∧ VR ρ v v'
 obj:∀b B,ρ.born b→h.look b=some B→(∀c e f,B.obj ≠ .cells c e f)→(ρ.to b).2=0∧∃o',w.heap[(ρ.to b).1]? = some o' ∧ OR ρ B.obj o'
 own:∀b B,ρ.born b→h.look b=some B→(B.ro=false→O (ρ.to b).1)∧(O (ρ.to b).1∨D (ρ.to b).1)
 sep:∀b b' B B',ρ.born b→ρ.born b' → h.look b=some B→h.look b' = some B' → b≠b' → (ρ.to b).1=(ρ.to b').1→(∃f,B.dQ=some f∧B'.dQ=some f)∨(B.UA∧B'.UA)
 fresh:∀b,ρ.born b→b < h.n
 low:∀b,ρ.born b→(ρ.to b).1 < w.heap.size
 bD:∀b B,ρ.born b→h.look b=some B→(ρ.bD b↔B.dQ≠none)∧(B.dQ≠none→ρ.u b=B.u)
 row:∀f l,h.dH.get f=some l→l.Pairwise fun b b'=>ρ.born b→ρ.born b' → (ρ.to b).1=(ρ.to b').1→∀n n',h.upTo ρ b n→h.upTo ρ b' n' → n≤n'
 mem:∀f l,h.dH.get f=some l→∀b,b∈l→b < h.n∧∃B,h.tr.get b=some B∧B.dQ=some f
theorem UI{o:Obj}(h:∀c e f,o ≠ .cells c e f):∀ {α:Type} (x:Array Value→TypeId→Nat×Nat→α) (y:α),(match o with | .cells c e f=>x c e f|_=>y)=y:=by
 intro α x y
 cases o<;>first|rfl|exact absurd rfl (h _ _ _)
theorem OR.gz{ρ:Env}{o o':Obj}(h:OR ρ o o'):(∀c e f,o ≠ .cells c e f)∧∀c e f,o' ≠ .cells c e f:=by
 cases h<;>exact ⟨fun _ _ _ h=>(by cases h),fun _ _ _ h=>(by cases h)⟩
theorem fB{h:AH}{b:Nat}{B:bg}(k:h.look b=some B):h.tr.get b=some B:=by
 unfold AH.look at k
 split at k
 ·cases k
 ·rename_i B' hB
  split at k
  ·cases k;exact hB
  ·split at k
   ·cases k;exact hB
   ·cases k
theorem oP{h:AH}{b f:Nat}{B:bg}(k:h.look b=some B)(hf:B.dQ=some f):b∈(h.dH.get f).getD []:=by
 have ht:=fB k
 unfold AH.look at k
 rw [ht] at k
 dsimp only at k
 rw [hf] at k
 dsimp only at k
 split at k
 ·rename_i hc;simpa using hc
 ·cases k
section
variable{P:Program}{ρ σ:Env}{O O' D:Nat→Prop}{h h':AH}{w w':World}{X:Event→Prop}
theorem Rel.mono(r:Rel ρ O D h w)(hO:∀b,O b→O' b):Rel ρ O' D h w:=
 ⟨r.cells,r.obj,fun b B hb hl=>⟨fun x=>hO _ ((r.own b B hb hl).1 x),(r.own b B hb hl).2.imp (hO _) id⟩,r.sep,r.fresh,r.low,r.bD,r.row,r.mem⟩
theorem Rel.rely(r:Rel ρ O D h w)(k:az O D w w'):Rel ρ O D h w' :=by
 have hb:∀b B,ρ.born b→h.look b=some B→w'.heap[(ρ.to b).1]? = w.heap[(ρ.to b).1]? :=fun b B hb hl=>(r.own b B hb hl).2.elim (k.own _) (k.ro _)
 refine ⟨fun b B c e f hb' hl hc=>?_,fun b B hb' hl hc=>?_,r.own,r.sep,r.fresh,fun b hb'=>Nat.lt_of_lt_of_le (r.low b hb') k.size,r.bD,r.row,r.mem⟩
 ·rw [hb b B hb' hl];exact r.cells b B c e f hb' hl hc
 ·rw [hb b B hb' hl];exact r.obj b B hb' hl hc
theorem qK{l:Loc}{s:Bool}(hl:match l with | .cell a=>O a.block∨D a.block | .obj r=>O r∨D r|_=>False):aO X O D w w #[⟨l,false,s⟩]:=by
 refine ⟨Nat.le_refl _,fun _ _ _=>rfl,rfl,rfl,rfl,fun e he=>?_⟩
 simp only [List.mem_toArray,List.mem_singleton] at he
 subst he
 right
 cases l with
 |cell a=>exact hl.imp .inl fun x=>⟨x,rfl⟩
 |obj r=>exact hl.imp .inl fun x=>⟨x,rfl⟩
 |_=>exact hl.elim
theorem Rel.load(r:Rel ρ O D h w){a:Addr}{v:Value}(hb:ρ.born a.block)(hc:h.cell a=some v):∃v',w.cell? (ρ.addr a)=some v' ∧ VR ρ v v' ∧ (O (ρ.addr a).block∨D (ρ.addr a).block):=by
 unfold AH.cell at hc
 split at hc
 ·rename_i c e f dQ ro u hs hl
  obtain ⟨C,E,g,h1,h2,h3,h4,h5⟩:=r.cells _ _ c e f hb hl rfl
  obtain ⟨v',h6,h7⟩:=h5 _ _ hc
  refine ⟨v',?_,h7,(r.own _ _ hb hl).2⟩
  unfold World.cell? Env.addr
  dsimp only
  rw [h1]
  dsimp only
  rw [hs]
  simpa using h6
 ·cases hc
theorem JH(b:Nat)(B:bg)(o:Obj)(b':Nat):(h.put b B o).tr.get b' = if b' = b then some { B with obj:=o } else h.tr.get b' :=by
 simp only [AH.put,Tr.dN]
theorem tq(b:Nat)(B:bg)(o:Obj)(f:Nat):(h.put b B o).dH.get f=if B.dQ=some f then some [b] else h.dH.get f:=by
 unfold AH.put
 cases hB:B.dQ with
 |none=>simp
 |some f'=>
  simp only [Tr.dN,Option.some.injEq]
  by_cases e:f=f'
  ·subst e;simp
  ·rw [if_neg e,if_neg (fun x=>e x.symm)]
theorem Ig{b:Nat}{B:bg}{o:Obj}(hl:h.look b=some B)(b':Nat)(B':bg)(k:(h.put b B o).look b' = some B') :
  (b' = b∧B' = { B with obj:=o })∨(b' ≠ b∧h.look b' = some B' ∧ ∀f,B'.dQ=some f→B.dQ≠some f):=by
 have ht:=fB k
 rw [JH] at ht
 by_cases e:b' = b
 ·subst e
  rw [if_pos rfl] at ht
  cases ht
  exact .inl ⟨rfl,rfl⟩
 ·rw [if_neg e] at ht
  right
  refine ⟨e,?_,fun f hf hB=>?_⟩
  ·unfold AH.look
   rw [ht]
   dsimp only
   cases hf:B'.dQ with
   |none=>rfl
   |some f=>
    dsimp only
    have hm:=oP k hf
    rw [tq] at hm
    by_cases hB:B.dQ=some f
    ·rw [if_pos hB] at hm
     simp at hm
     exact absurd hm e
    ·rw [if_neg hB] at hm
     rw [if_pos (by simpa using hm)]
  ·have hm:=oP k hf
   rw [tq,if_pos hB] at hm
   simp at hm
   exact e hm
theorem Ih{b:Nat}{B:bg}{o:Obj}(hl:h.look b=some B)(ho:∀c e f,o = .cells c e f→∃c' e' f',B.obj = .cells c' e' f' ∧ c'.size=c.size)(b' n:Nat)(k:(h.put b B o).upTo ρ b' n):h.upTo ρ b' n:=by
 obtain ⟨B',c,e,f,h1,h2,h3⟩:=k
 rw [JH] at h1
 by_cases e':b' = b
 ·subst e'
  rw [if_pos rfl] at h1
  cases h1
  obtain ⟨c',e',f',h4,h5⟩:=ho c e f h2
  exact ⟨B,c',e',f',fB hl,h4,by omega⟩
 ·rw [if_neg e'] at h1
  exact ⟨B',c,e,f,h1,h2,h3⟩
theorem Rel.put(r:Rel ρ O D h w){b:Nat}{B:bg}{o:Obj}(hb:ρ.born b)(hl:h.look b=some B)(hro:B.ro=false)(ho:∀c e f,o = .cells c e f→∃c' e' f',B.obj = .cells c' e' f' ∧ c'.size=c.size)
  (hw:∀c,c≠(ρ.to b).1→w'.heap[c]? = w.heap[c]?) (hs:w'.heap.size=w.heap.size)
  (hc:∀c e f,o = .cells c e f→∃C E g,w'.heap[(ρ.to b).1]? = some (.cells C E g)∧(ρ.to b).2+ρ.ext b≤C.size∧c.size≤ρ.ext b∧(True→g=(0,0))∧∀(i:Nat) v,c[i]? = some v→∃v',C[(ρ.to b).2+i]? = some v' ∧ VR ρ v v')
  (hn:b < h.n) (iM:(∀c e f,o ≠ .cells c e f)→(ρ.to b).2=0∧∃o',w'.heap[(ρ.to b).1]? = some o' ∧ OR ρ o o'):Rel ρ O D (h.put b B o) w' :=by
 have other:∀b' B',ρ.born b' → (h.put b B o).look b' = some B' → b' ≠ b→h.look b' = some B' ∧ (ρ.to b').1≠(ρ.to b).1:=by
  intro b' B' hb' hl' hne
  rcases Ig hl b' B' hl' with ⟨x,_⟩|⟨_,h2,h3⟩
  ·exact absurd x hne
  ·refine ⟨h2,fun e=>?_⟩
   rcases r.sep b' b B' B hb' hb h2 hl hne e with ⟨f,hf,hf'⟩|⟨_,_,hx,_⟩
   ·exact h3 f hf hf'
   ·rw [hro] at hx;cases hx
 have same:∀B',(h.put b B o).look b=some B' → B' = { B with obj:=o }:=by
  intro B' hl'
  rcases Ig hl b B' hl' with ⟨_,h2⟩|⟨h1,_⟩
  ·exact h2
  ·exact absurd rfl h1
 refine ⟨fun b' B' c e f hb' hl' vV=>?_,fun b' B' hb' hl' vV=>?_,fun b' B' hb' hl'=>?_,fun b₁ b₂ Ci Z9 h1 h2 l1 l2 hne hsame=>?_,r.fresh,fun b' hb'=>hs ▸ r.low b' hb',fun b' B' hb' hl'=>?_,fun f l hf=>?_,fun f l hf b' hm=>?_⟩
 ·by_cases e':b' = b
  ·subst e'
   have:=same B' hl'
   subst this
   obtain ⟨C,E,g,k1,k2,k3,k4,k5⟩:=hc c e f vV
   exact ⟨C,E,g,k1,k2,k3,fun _=>k4 trivial,k5⟩
  ·obtain ⟨h1,h2⟩:=other b' B' hb' hl' e'
   rw [hw _ h2]
   exact r.cells b' B' c e f hb' h1 vV
 ·by_cases e':b' = b
  ·subst e'
   have:=same B' hl'
   subst this
   exact iM vV
  ·obtain ⟨h1,h2⟩:=other b' B' hb' hl' e'
   rw [hw _ h2]
   exact r.obj b' B' hb' h1 vV
 ·by_cases e':b' = b
  ·subst e'
   have:=same B' hl'
   subst this
   exact r.own b' B hb' hl
  ·exact r.own b' B' hb' (other b' B' hb' hl' e').1
 ·by_cases e1:b₁=b
  ·subst e1
   have:=same Ci l1
   subst this
   obtain ⟨_,h3⟩:=other b₂ Z9 h2 l2 (Ne.symm hne)
   exact absurd hsame.symm h3
  ·obtain ⟨l1',h3⟩:=other b₁ Ci h1 l1 e1
   by_cases e2:b₂=b
   ·subst e2;exact absurd hsame h3
   ·exact r.sep b₁ b₂ Ci Z9 h1 h2 l1' (other b₂ Z9 h2 l2 e2).1 hne hsame
 ·by_cases e':b' = b
  ·subst e'
   have:=same B' hl'
   subst this
   exact r.bD b' B hb' hl
  ·exact r.bD b' B' hb' (other b' B' hb' hl' e').1
 ·rw [tq] at hf
  by_cases hB:B.dQ=some f
  ·rw [if_pos hB] at hf
   cases hf
   exact List.pairwise_singleton _ _
  ·rw [if_neg hB] at hf
   exact (r.row f l hf).imp fun hp h1 h2 h3 n n' k1 k2=>hp h1 h2 h3 n n' (Ih hl ho _ _ k1) (Ih hl ho _ _ k2)
 ·rw [tq] at hf
  rw [JH]
  by_cases hB:B.dQ=some f
  ·rw [if_pos hB] at hf
   cases hf
   simp only [List.mem_singleton] at hm
   subst hm
   exact ⟨hn,{ B with obj:=o },by rw [if_pos rfl],hB⟩
  ·rw [if_neg hB] at hf
   obtain ⟨m1,B',m2,m3⟩:=r.mem f l hf b' hm
   have e':b' ≠ b:=fun x=>by subst x;rw [fB hl] at m2;cases m2;exact hB m3
   exact ⟨m1,B',by rw [if_neg e'];exact m2,m3⟩
theorem Rel.store(r:Rel ρ O D h w){a:Addr}{v v':Value}(hb:ρ.born a.block)(hc:h.setCell a v=some h')(hv:VR ρ v v') :
  ∃u,w.cell? (ρ.addr a)=some u∧w.frozen? (ρ.addr a)=false∧Rel ρ O D h' (w.setCell (ρ.addr a) v')∧O (ρ.addr a).block:=by
 unfold AH.setCell at hc
 split at hc
 rotate_left
 ·cases hc
 rename_i B hs hl
 split at hc
 rotate_left
 ·cases hc
 rename_i c e f iM hro
 split at hc
 rotate_left
 ·cases hc
 rename_i hlt
 cases hc
 obtain ⟨C,E,g,h1,h2,h3,h4,h5⟩:=r.cells _ _ c e f hb hl iM
 have hg:=h4 (LG hro)
 subst hg
 obtain ⟨u,h6,_⟩:=h5 a.off c[a.off] (by simp [hlt])
 have hO:=(r.own _ _ hb hl).1 hro
 have hoff:(ρ.to a.block).2+a.off < C.size:=by omega
 refine ⟨u,?_,?_,?_,hO⟩
 ·unfold World.cell? Env.addr;dsimp only;rw [h1];dsimp only;rw [hs];simpa using h6
 ·unfold World.frozen? Env.addr;dsimp only;rw [h1];simp
 ·have hheap:(w.setCell (ρ.addr a) v').heap=w.heap.modify (ρ.to a.block).1 fun
    | .cells c elem frozen=>.cells (if (ρ.addr a).spot.isSome then c else c.setIfInBounds ((ρ.to a.block).2+a.off) v') elem frozen
    |o=>o:=rfl
  have ab8:(w.setCell (ρ.addr a) v').heap[(ρ.to a.block).1]? = some (.cells (C.setIfInBounds ((ρ.to a.block).2+a.off) v') E (0,0)):=by
   rw [hheap,Array.getElem?_modify,if_pos rfl,h1]
   simp [Env.addr,hs]
  refine r.put hb hl hro (fun c₁ e₁ f₁ x=>⟨c,e,f,iM,by cases x;simp⟩) (fun c hc=>?_) (by rw [hheap];simp) (fun c₁ e₁ f₁ x=>?_) (r.fresh _ hb) (fun x=>absurd rfl (x _ _ _))
  ·rw [hheap,Array.getElem?_modify,if_neg (Ne.symm hc)]
  ·cases x
   refine ⟨_,E,(0,0),ab8,by simpa using h2,by simpa using h3,fun _=>rfl,fun i x hx=>?_⟩
   rw [Array.getElem?_setIfInBounds] at hx
   rw [Array.getElem?_setIfInBounds]
   by_cases e':a.off=i
   ·subst e'
    rw [if_pos rfl,if_pos hlt] at hx
    cases hx
    exact ⟨v',by rw [if_pos rfl,if_pos hoff],hv⟩
   ·rw [if_neg e'] at hx
    obtain ⟨y,hy,hxy⟩:=h5 i x hx
    exact ⟨y,by rw [if_neg (by omega)];exact hy,hxy⟩
end
end Go.Am
namespace Go.Am
open Go.Ren (grow fM aO az)
def Env.add(ρ:Env)(b:Nat)(t:Nat×Nat)(sl:Prop)(u ext:Nat):Env where
 to x:=if x=b then t else ρ.to x
 born x:=x=b∨ρ.born x
 bD x:=if x=b then sl else ρ.bD x
 u x:=if x=b then u else ρ.u x
 ext x:=if x=b then ext else ρ.ext x
section
variable{P:Program}{ρ σ:Env}{O O' D:Nat→Prop}{h h':AH}{w w':World}{X:Event→Prop}{b:Nat}{t:Nat×Nat}{sl:Prop}{u ext:Nat}
theorem Env.iC(hb:¬ρ.born b):ρ.Le (ρ.add b t sl u ext):=by
 have ne:∀x,ρ.born x→x≠b:=fun x hx e=>hb (e ▸ hx)
 refine ⟨fun x hx=>.inr hx,fun x hx=>?_,fun x hx=>?_,fun x hx=>?_,fun x hx=>?_⟩
 all_goals (simp only [Env.add];rw [if_neg (ne x hx)])
theorem bU:(ρ.add b t sl u ext).to b=t:=by simp [Env.add]
theorem ai{x:Nat}(hx:x≠b):(ρ.add b t sl u ext).to x=ρ.to x:=by simp [Env.add,hx]
theorem nG{x:Nat}(hx:x≠b):(ρ.add b t sl u ext).ext x=ρ.ext x:=by simp [Env.add,hx]
theorem qL:(ρ.add b t sl u ext).ext b=ext:=by simp [Env.add]
theorem jO{x:Nat}(hx:x≠b):(ρ.add b t sl u ext).bD x↔ρ.bD x:=by simp [Env.add,hx]
theorem tu{x:Nat}(hx:x≠b):(ρ.add b t sl u ext).u x=ρ.u x:=by simp [Env.add,hx]
theorem Ii:(ρ.add b t sl u ext).u b=u:=by simp [Env.add]
theorem jX:(ρ.add b t sl u ext).bD b↔sl:=by simp [Env.add]
inductive QL(ρ:Env):Obj→Obj→Prop
 |cells {c c':Array Value} {e e':TypeId} (h:AR (VR ρ) c c'):QL ρ (.cells c e (0,0)) (.cells c' e' (0,0))
 |obj {o o':Obj} (h:OR ρ o o'):QL ρ o o'
def oQ:Obj→Nat
 | .cells c _ _=>c.size
 |_=>0
theorem xK(o:Obj)(b':Nat):(h.new o).tr.get b' = if b' = h.n then some ⟨o,none,false,0⟩ else h.tr.get b' :=by simp only [AH.new,Tr.dN]
theorem iH{o:Obj}{b':Nat}(hb:b' ≠ h.n):(h.new o).look b' = h.look b' :=by
 unfold AH.look
 rw [xK,if_neg hb]
 rfl
theorem Ij(o:Obj):(h.new o).look h.n=some ⟨o,none,false,0⟩:=by
 unfold AH.look
 rw [xK,if_pos rfl]
theorem Rel.push(r:Rel ρ O D h w)(o:Obj):Rel ρ O D (h.new o) w:=by
 have ne:∀x,ρ.born x→x≠h.n:=fun x hx e=>by have:=r.fresh x hx;omega
 refine ⟨fun b B c e f hb hl=>?_,fun b B hb hl=>?_,fun b B hb hl=>?_,fun b b' B B' hb hb' hl hl'=>?_,fun b hb=>Nat.lt_succ_of_lt (r.fresh b hb),r.low,fun b B hb hl=>?_,fun f l hf=>?_,fun f l hf b hm=>?_⟩
 ·rw [iH (ne b hb)] at hl;exact r.cells b B c e f hb hl
 ·rw [iH (ne b hb)] at hl;exact r.obj b B hb hl
 ·rw [iH (ne b hb)] at hl;exact r.own b B hb hl
 ·rw [iH (ne b hb)] at hl;rw [iH (ne b' hb')] at hl';exact r.sep b b' B B' hb hb' hl hl'
 ·rw [iH (ne b hb)] at hl;exact r.bD b B hb hl
 ·refine (r.row f l hf).imp fun hp h1 h2 h3 n n' k1 k2=>hp h1 h2 h3 n n' ?_ ?_
  ·obtain ⟨B,c,e,g,x1,x2⟩:=k1;rw [xK,if_neg (ne _ h1)] at x1;exact ⟨B,c,e,g,x1,x2⟩
  ·obtain ⟨B,c,e,g,x1,x2⟩:=k2;rw [xK,if_neg (ne _ h2)] at x1;exact ⟨B,c,e,g,x1,x2⟩
 ·obtain ⟨m1,B,m2,m3⟩:=r.mem f l hf b hm
  exact ⟨Nat.lt_succ_of_lt m1,B,by rw [xK,if_neg (by omega)];exact m2,m3⟩
theorem Rel.birth(r:Rel ρ O D h w){o o':Obj}(hb:¬ρ.born b)(hn:b < h.n)(hl:h.look b=some ⟨o,none,false,0⟩)(ho:QL ρ o o') :
  Rel (ρ.add b (w.heap.size,0) False 1 (oQ o)) (grow O w { w with heap:=w.heap.push o' }) D h { w with heap:=w.heap.push o' }:=by
 have hle:=Env.iC (t:=(w.heap.size,0)) (sl:=False) (u:=1) (ext:=oQ o) hb
 have old:∀x,x≠b→(ρ.add b (w.heap.size,0) False 1 (oQ o)).born x→ρ.born x:=fun x hx h=>h.resolve_left hx
 have hheap:∀c,c < w.heap.size→(w.heap.push o')[c]? = w.heap[c]? :=fun c hc=>by rw [Array.getElem?_push,if_neg (by omega)]
 have Zl:(w.heap.push o')[w.heap.size]? = some o' :=by rw [Array.getElem?_push,if_pos rfl]
 refine ⟨fun x B c e f hx hk iM=>?_,fun x B hx hk iM=>?_,fun x B hx hk=>?_,fun x y B B' hx hy hk hk' hne hs=>?_,fun x hx=>?_,fun x hx=>?_,fun x B hx hk=>?_,fun f l hf=>?_,r.mem⟩
 ·by_cases e':x=b
  ·subst e'
   rw [hl] at hk
   cases hk
   dsimp only at iM
   subst iM
   rw [bU,qL]
   cases ho with
   | @cells _ c' _ e' h=>
    refine ⟨c',e',(0,0),Zl,by simp only [oQ];rw [h.1];omega,Nat.le_refl _,fun _=>rfl,fun i v hv=>?_⟩
    have hi:i < c.size:=(Array.getElem?_eq_some_iff.1 hv).1
    have hi':i < c'.size:=h.1 ▸ hi
    exact ⟨c'[i],by simp [hi'],(h.2 i _ _ hv (by simp [hi'])).mono hle⟩
   |obj h=>exact absurd rfl (h.gz.1 _ _ _)
  ·have hx' :=old x e' hx
   rw [ai e',nG e']
   obtain ⟨C,E,g,h1,h2,h3,h4,h5⟩:=r.cells x B c e f hx' hk iM
   refine ⟨C,E,g,?_,h2,h3,h4,fun i v hv=>?_⟩
   ·rw [hheap _ (r.low x hx')];exact h1
   ·obtain ⟨v',h6,h7⟩:=h5 i v hv;exact ⟨v',h6,h7.mono hle⟩
 ·by_cases e':x=b
  ·subst e'
   rw [hl] at hk
   cases hk
   dsimp only at iM
   rw [bU]
   refine ⟨rfl,o',Zl,?_⟩
   cases ho with
   |cells h=>exact absurd rfl (iM _ _ _)
   |obj h=>exact h.mono hle
  ·have hx' :=old x e' hx
   rw [ai e']
   obtain ⟨h1,o₁,h2,h3⟩:=r.obj x B hx' hk iM
   exact ⟨h1,o₁,by rw [hheap _ (r.low x hx')];exact h2,h3.mono hle⟩
 ·by_cases e':x=b
  ·subst e'
   rw [bU]
   have:grow O w { w with heap:=w.heap.push o' } w.heap.size:=.inr ⟨Nat.le_refl _,by simp⟩
   exact ⟨fun _=>this,.inl this⟩
  ·have hx' :=old x e' hx
   rw [ai e']
   obtain ⟨h1,h2⟩:=r.own x B hx' hk
   exact ⟨fun z=>.inl (h1 z),h2.imp .inl id⟩
 ·by_cases e1:x=b
  ·subst e1
   have hy' :=old y (Ne.symm hne) hy
   rw [bU,ai (Ne.symm hne)] at hs
   have:=r.low y hy'
   rw [←hs] at this
   exact absurd this (Nat.lt_irrefl _)
  ·by_cases e2:y=b
   ·subst e2
    have hx' :=old x e1 hx
    rw [bU,ai e1] at hs
    have:=r.low x hx'
    rw [hs] at this
    exact absurd this (Nat.lt_irrefl _)
   ·rw [ai e1,ai e2] at hs
    exact r.sep x y B B' (old x e1 hx) (old y e2 hy) hk hk' hne hs
 ·by_cases e':x=b
  ·subst e';exact hn
  ·exact r.fresh x (old x e' hx)
 ·by_cases e':x=b
  ·subst e';rw [bU];simp
  ·rw [ai e']
   have:=r.low x (old x e' hx)
   simp only [Array.size_push]
   omega
 ·by_cases e':x=b
  ·subst e'
   rw [hl] at hk
   cases hk
   rw [jX]
   simp
  ·rw [jO e',tu e'];exact r.bD x B (old x e' hx) hk
 ·refine List.Pairwise.imp_of_mem (fun {x y} hmx hmy hp h1 h2 h3 n n' k1 k2=>?_) (r.row f l hf)
  have nx:∀z,z∈l→z≠b:=fun z hz e=>by
   obtain ⟨_,B,m2,m3⟩:=r.mem f l hf z hz
   subst e
   rw [fB hl] at m2
   cases m2
   cases m3
  have ex:=nx x hmx
  have ey:=nx y hmy
  rw [ai ex,ai ey] at h3
  refine hp (old x ex h1) (old y ey h2) h3 n n' ?_ ?_
  ·obtain ⟨B,c,e,g,z1,z2,z3⟩:=k1;rw [ai ex] at z3;exact ⟨B,c,e,g,z1,z2,z3⟩
  ·obtain ⟨B,c,e,g,z1,z2,z3⟩:=k2;rw [ai ey] at z3;exact ⟨B,c,e,g,z1,z2,z3⟩
theorem lU(o:Obj):aO X O D w { w with heap:=w.heap.push o } #[]:=
 ⟨by simp,fun c hc _=>by rw [Array.getElem?_push,if_neg (by omega)],rfl,rfl,rfl,fun e he=>by simp at he⟩
theorem Rel.getObj(r:Rel ρ O D h w){x y:Nat}{B:bg}(hx:ρ.ob x y)(hl:h.look x=some B)(hc:∀c e f,B.obj ≠ .cells c e f):∃o',w.heap[y]? = some o' ∧ OR ρ B.obj o' ∧ (O y∨D y):=by
 obtain ⟨h1,h2⟩:=hx
 obtain ⟨_,o',h3,h4⟩:=r.obj x B h1 hl hc
 have:=(r.own x B h1 hl).2
 rw [h2] at h3 this
 exact ⟨o',h3,h4,this⟩
theorem Rel.setObj(r:Rel ρ O D h w){x y:Nat}{B:bg}{o o':Obj}(hx:ρ.ob x y)(hl:h.look x=some B)(hc:∀c e f,B.obj ≠ .cells c e f)(hro:B.ro=false)(ho:OR ρ o o') :
  Rel ρ O D (h.put x B o) { w with heap:=w.heap.setIfInBounds y o' }∧O y:=by
 obtain ⟨h1,h2⟩:=hx
 have hO:=(r.own x B h1 hl).1 hro
 have hlow:=r.low x h1
 rw [h2] at hO hlow
 refine ⟨r.put h1 hl hro (fun c e f e'=>absurd e' (ho.gz.1 _ _ _)) (fun c hne=>?_) (by simp) (fun c e f e'=>absurd e' (ho.gz.1 _ _ _)) (r.fresh x h1) (fun _=>⟨by rw [h2],o',?_,ho⟩),hO⟩
 ·rw [h2] at hne
  rw [Array.getElem?_setIfInBounds,if_neg (Ne.symm hne)]
 ·rw [h2,Array.getElem?_setIfInBounds,if_pos rfl,if_pos hlow]
end
inductive SR(P:Program){α β:Type}(R:Env→α→β→Prop):Env→Sem α→Sem β→Prop
 |pure {ρ:Env} {a b} (h:R ρ a b):SR P R ρ (.pure a) (.pure b)
 |load {ρ:Env} {m a k k'} (ha:ρ.born a.block) (h:∀v v',VR ρ v v' → SR P R ρ (k v) (k' v')):SR P R ρ (.load m a k) (.load m (ρ.addr a) k')
 |store {ρ:Env} {m a v v' k k'} (ha:ρ.born a.block) (hv:VR ρ v v') (h:SR P R ρ k k'):SR P R ρ (.store m a v k) (.store m (ρ.addr a) v' k')
 |new {ρ:Env} {o o' k k'} (ho:QL ρ o o') (h:∀σ:Env,ρ.Le σ→∀r r',σ.ob r r' → SR P R σ (k r) (k' r')):SR P R ρ (.new o k) (.new o' k')
 |shape {ρ:Env} {r r' k k'} (hr:ρ.born r) (hr':r' = (ρ.to r).1) (h:∀e n e' n',SR P R ρ (k (some (e,n))) (k' (some (e',n')))) (h0:SR P R ρ (k none) (k' none)):SR P R ρ (.shape r k) (.shape r' k')
 |getObj {ρ:Env} {r r' k k'} (hr:ρ.ob r r') (h:∀o o',OR ρ o o' → SR P R ρ (k o) (k' o')):SR P R ρ (.getObj r k) (.getObj r' k')
 |setObj {ρ:Env} {r r' o o' k k'} (hr:ρ.ob r r') (ho:OR ρ o o') (h:SR P R ρ k k'):SR P R ρ (.setObj r o k) (.setObj r' o' k')
 |choose {ρ:Env} {q k k'} (h:∀n,SR P R ρ (k n) (k' n)):SR P R ρ (.choose q k) (.choose q k')
 |program {ρ:Env} {k k'} (h:SR P R ρ (k P) (k' P)):SR P R ρ (.program k) (.program k')
 |freeze {ρ:Env} {a n k s'}:SR P R ρ (.freeze a n k) s'
 |frozen {ρ:Env} {a k s'}:SR P R ρ (.frozen a k) s'
 |mark {ρ:Env} {m k s'}:SR P R ρ (.mark m k) s'
 |sys {ρ:Env} {c k s'}:SR P R ρ (.sys c k) s'
 |halt {ρ:Env} {x s'}:SR P R ρ (.halt x) s'
 |dead {ρ:Env} {s s'} (hd:∀c h,s.ar P c h=none):SR P R ρ s s'
theorem tC{P:Program}{α γ:Type}(s:Sem α)(f:α→Sem γ):∀c h,s.ar P c h=none→(s.bind f).ar P c h=none:=by
 induction s with
 |pure a=>intro c h e;simp only [Sem.ar] at e;cases e
 |load m a k ih=>
  intro c h e
  rw [Sem.ar.eq_def] at e
  simp only [Sem.bind]
  rw [Sem.ar.eq_def]
  dsimp only at e ⊢
  split
  ·rename_i v hv
   rw [hv] at e
   exact ih v _ _ e
  ·rfl
 |store m a v k ih=>
  intro c h e
  simp only [Sem.bind]
  cases v<;>cases m<;>simp only [Sem.ar] at e ⊢
  all_goals
   split
   ·rename_i hv
    rw [hv] at e
    exact ih _ _ e
   ·rfl
 |new o k ih=>
  intro c h e
  simp only [Sem.bind]
  simp only [Sem.ar] at e ⊢
  split<;>first|rfl|exact ih _ _ _ e
 |shape r k ih=>
  intro c h e
  simp only [Sem.bind]
  simp only [Sem.ar] at e ⊢
  split
  ·rename_i hv;rw [hv] at e;exact ih _ _ _ e
  ·rename_i B hB hv
   rw [hv] at e
   split at e
   ·rename_i hh;cases hh;exact absurd rfl (hB _ _ _ _ _ _)
   ·first|exact ih _ _ _ e|(rename_i hh;cases hh;exact ih _ _ _ e)
   ·rename_i hh;cases hh
  ·rfl
 |getObj r k ih=>
  intro c h e
  simp only [Sem.bind]
  simp only [Sem.ar] at e ⊢
  split
  ·rfl
  ·rename_i B hB hv
   rw [hv] at e
   split at e
   ·rename_i hh;cases hh;exact absurd rfl (hB _ _ _ _ _ _)
   ·first|exact ih _ _ _ e|(rename_i hh;cases hh;exact ih _ _ _ e)
   ·rename_i hh;cases hh
  ·rfl
 |setObj r o k ih=>
  intro c h e
  simp only [Sem.bind]
  simp only [Sem.ar] at e ⊢
  split
  ·rfl
  ·rfl
  ·rename_i o _ _ B hB hv hv'
   split
   ·rfl
   ·rename_i hro
    refine ih _ _ ?_
    split at e
    ·rename_i hh;cases hv.symm.trans hh;exact absurd rfl (hB _ _ _ _ _ _)
    ·rename_i hh;exact absurd rfl (hv' _ _ _)
    ·rename_i hh _;cases hv.symm.trans hh;rw [if_neg hro] at e;exact e
    ·rename_i hh _;cases hv.symm.trans hh
  ·rfl
 |choose q k ih=>
  intro c h e
  simp only [Sem.bind]
  rw [Sem.ar.eq_def] at e ⊢
  dsimp only at e ⊢
  split
  ·rename_i hq;rw [if_pos hq] at e;exact ih _ _ _ e
  ·rename_i hq
   rw [if_neg hq] at e
   split
   ·exact ih _ _ _ e
   ·rfl
 |program k ih=>
  intro c h e
  exact ih _ _ _ e
 |_=>intro c h e;rfl
section
variable{P:Program}{ρ σ:Env}
theorem SR.bind{α β γ δ:Type}{R:Env→α→β→Prop}{Q:Env→γ→δ→Prop}{s:Sem α}{s':Sem β}{f:α→Sem γ}{f':β→Sem δ}(h:SR P R ρ s s')
  (hf:∀σ:Env,ρ.Le σ→∀a b,R σ a b→SR P Q σ (f a) (f' b)):SR P Q ρ (s.bind f) (s'.bind f'):=by
 induction h with
 |pure h=>exact hf _ (.refl _) _ _ h
 |load ha _ ih=>exact .load ha fun v v' hv=>ih v v' hv hf
 |store ha hv _ ih=>exact .store ha hv (ih hf)
 |new ho _ ih=>exact .new ho fun σ hσ r r' hr=>ih σ hσ r r' hr fun τ iO=>hf τ (hσ.trans iO)
 |shape hr hr' _ _ ih ih0=>exact .shape hr hr' (fun e n e' n'=>ih e n e' n' hf) (ih0 hf)
 |getObj hr _ ih=>exact .getObj hr fun o o' ho=>ih o o' ho hf
 |setObj hr ho _ ih=>exact .setObj hr ho (ih hf)
 |choose _ ih=>exact .choose fun n=>ih n hf
 |program _ ih=>exact .program (ih hf)
 |freeze=>exact .freeze
 |frozen=>exact .frozen
 |mark=>exact .mark
 |sys=>exact .sys
 |halt=>exact .halt
 |dead hd=>exact .dead fun c h=>tC _ _ _ _ (hd c h)
theorem SR.imp{α β:Type}{R Q:Env→α→β→Prop}{s:Sem α}{s':Sem β}(h:SR P R ρ s s')(hf:∀σ:Env,ρ.Le σ→∀a b,R σ a b→Q σ a b):SR P Q ρ s s' :=by
 induction h with
 |pure h=>exact .pure (hf _ (.refl _) _ _ h)
 |load ha _ ih=>exact .load ha fun v v' hv=>ih v v' hv hf
 |store ha hv _ ih=>exact .store ha hv (ih hf)
 |new ho _ ih=>exact .new ho fun σ hσ r r' hr=>ih σ hσ r r' hr fun τ iO=>hf τ (hσ.trans iO)
 |shape hr hr' _ _ ih ih0=>exact .shape hr hr' (fun e n e' n'=>ih e n e' n' hf) (ih0 hf)
 |getObj hr _ ih=>exact .getObj hr fun o o' ho=>ih o o' ho hf
 |setObj hr ho _ ih=>exact .setObj hr ho (ih hf)
 |choose _ ih=>exact .choose fun n=>ih n hf
 |program _ ih=>exact .program (ih hf)
 |freeze=>exact .freeze
 |frozen=>exact .frozen
 |mark=>exact .mark
 |sys=>exact .sys
 |halt=>exact .halt
 |dead hd=>exact .dead hd
end
end Go.Am
namespace Go.Am
open Go.Ren (grow fM aO az)
def Out{α β:Type}(P:Program)(X:Event→Prop)(D:Nat→Prop)(R:Env→α→β→Prop)(ρ:Env)(O:Nat→Prop)(h:AH)(w:World)(s':Sem β)(a:α)(h':AH):Prop:=
 ∃(σ:Env) (b:β) (w':World) (es:Array Event),(∀ah,s'.runT P w ah=(.ok b w',ah ++ es))∧ρ.Le σ∧R σ a b∧Rel σ (grow O w w') D h' w' ∧ aO X O D w w' es ∧
  h.n≤h'.n∧∀x,σ.born x↔ρ.born x∨(h.n≤x∧x < h'.n)
section
variable{P:Program}{ρ σ:Env}{O O' D:Nat→Prop}{h h' h₁:AH}{w w' w₁:World}{X:Event→Prop}{α β:Type}{R:Env→α→β→Prop}{a:α}
theorem Out.then{s' s₁:Sem β}{es₁:Array Event}(hrun:∀ah,s'.runT P w ah=s₁.runT P w₁ (ah ++ es₁))(hle:ρ.Le σ)(hG:aO X O D w w₁ es₁)(hn:h.n≤h₁.n)(hb:∀x,σ.born x↔ρ.born x∨(h.n≤x∧x < h₁.n))
  (k:Out P X D R σ (grow O w w₁) h₁ w₁ s₁ a h'):Out P X D R ρ O h w s' a h' :=by
 obtain ⟨τ,b,w',es,h1,h2,h3,h4,h5,h6,h7⟩:=k
 refine ⟨τ,b,w',es₁ ++ es,fun ah=>by rw [hrun,h1,Array.append_assoc],hle.trans h2,h3,h4.mono fun b hb=>Go.Ren.rU hb hG.size h5.size,hG.trans h5,Nat.le_trans hn h6,fun x=>?_⟩
 rw [h7,hb]
 constructor
 ·rintro ((h|h)|h)
  ·exact .inl h
  ·exact .inr ⟨h.1,Nat.lt_of_lt_of_le h.2 h6⟩
  ·exact .inr ⟨Nat.le_trans hn h.1,h.2⟩
 ·rintro (h|h)
  ·exact .inl (.inl h)
  ·rcases Nat.lt_or_ge x h₁.n with hx|hx
   ·exact .inl (.inr ⟨h.1,hx⟩)
   ·exact .inr ⟨hx,h.2⟩
theorem iR{γ:Type}(es:Array γ)(e:γ):es ++ #[e]=es.push e:=by simp
theorem iI(O:Nat→Prop)(w:World)(hs:w₁.heap.size=w.heap.size):grow O w w₁=O:=by
 funext b
 apply propext
 unfold grow
 constructor
 ·rintro (x|⟨x,y⟩)
  ·exact x
  ·omega
 ·exact .inl
theorem Out.here{s' s₁:Sem β}{es₁:Array Event}(hrun:∀ah,s'.runT P w ah=s₁.runT P w₁ (ah ++ es₁))(hG:aO X O D w w₁ es₁)(hs:w₁.heap.size=w.heap.size)(hn:h₁.n=h.n)
  (k:Out P X D R ρ O h₁ w₁ s₁ a h'):Out P X D R ρ O h w s' a h' :=by
 refine Out.then (h₁:=h₁) hrun (.refl ρ) hG (by omega) (fun x=>?_) (by rw [iI O w hs];exact k)
 rw [hn]
 exact ⟨.inl,fun h=>h.elim id fun x=>absurd x.1 (by omega)⟩
theorem Rel.drawn(r:Rel ρ O D h w)(n:Nat):Rel ρ O D h { w with drawn:=n }:=r.rely ⟨Nat.le_refl _,fun _ _=>rfl,fun _ _=>rfl,.rfl,rfl,rfl⟩
theorem rV(n:Nat):aO X O D w { w with drawn:=n } #[]:=⟨Nat.le_refl _,fun _ _ _=>rfl,rfl,rfl,rfl,fun e he=>by simp at he⟩
theorem xM{a:Addr}{v:Value}{s:Bool}(hO:O a.block):aO X O D w (w.setCell a v) #[⟨.cell a,true,s⟩]:=by
 have hs:(w.setCell a v).heap.size=w.heap.size:=by simp [World.setCell]
 refine ⟨by rw [hs];exact Nat.le_refl _,fun c hc hn=>?_,rfl,rfl,rfl,fun e he=>?_⟩
 ·unfold World.setCell
  dsimp only
  rw [Array.getElem?_modify,if_neg (fun (e:a.block=c)=>hn (e ▸ hO))]
 ·simp only [List.mem_toArray,List.mem_singleton] at he
  subst he
  exact .inr (.inl (.inl hO))
theorem vW{r:Nat}{o:Obj}{s:Bool}(hO:O r):aO X O D w { w with heap:=w.heap.setIfInBounds r o } #[⟨.obj r,true,s⟩]:=by
 refine ⟨by simp,fun c hc hn=>?_,rfl,rfl,rfl,fun e he=>?_⟩
 ·rw [Array.getElem?_setIfInBounds,if_neg (fun (e:r=c)=>hn (e ▸ hO))]
 ·simp only [List.mem_toArray,List.mem_singleton] at he
  subst he
  exact .inr (.inl (.inl hO))
theorem vX(r:Rel ρ O D h w){x:Nat}{l:Array Value}{e:TypeId}{f dQ ro u}(hx:ρ.born x)(hl:h.look x=some ⟨.cells l e f,dQ,ro,u⟩):∃e' n',w.shape? (ρ.to x).1=some (e',n'):=by
 obtain ⟨C,E,g,h1,_⟩:=r.cells x _ l e f hx hl rfl
 exact ⟨E,C.size,by unfold World.shape?;rw [h1]⟩
theorem xN(r:Rel ρ O D h w){x:Nat}{B:bg}(hx:ρ.born x)(hl:h.look x=some B)(hc:∀c e f,B.obj ≠ .cells c e f):w.shape? (ρ.to x).1=none:=by
 obtain ⟨_,o',h1,h2⟩:=r.obj x B hx hl hc
 unfold World.shape?
 rw [h1]
 have:=h2.gz.2
 cases o'<;>first|rfl|exact absurd rfl (this _ _ _)
theorem SR.uQ{s:Sem α}{s':Sem β}(k:SR P R ρ s s'):∀ {O:Nat→Prop} {h h':AH} {w:World} {a:α},Rel ρ O D h w→s.ar P none h=some (a,h')→Out P X D R ρ O h w s' a h' :=by
 induction k with
 | @pure ρ x y hR=>
  intro O h h' w a r e
  simp only [Sem.ar,Option.some.injEq,Prod.mk.injEq] at e
  obtain ⟨rfl,rfl⟩:=e
  refine ⟨ρ,y,w,#[],fun ah=>by simp only [Sem.runT,Array.append_empty],.refl ρ,hR,r.mono fun _=>.inl,.none w,Nat.le_refl _,fun x=>⟨.inl,fun h=>h.elim id fun x=>absurd x.1 (by omega)⟩⟩
 | @load ρ m ad kk oO ha _ ih=>
  intro O h h' w a r e
  rw [Sem.ar.eq_def] at e
  dsimp only at e
  split at e
  ·rename_i v hc
   obtain ⟨v',h1,h2,h3⟩:=r.load ha hc
   exact Out.here (es₁:=#[⟨.cell (ρ.addr ad),false,Mode.plain == Mode.atomic⟩]) (fun ah=>by rw [iR];simp only [Sem.runT,h1]) (qK (l:=.cell (ρ.addr ad)) h3) rfl rfl (ih v v' h2 r e)
  ·cases e
 | @store ρ m ad v v' kk oO ha hv _ ih=>
  intro O h h' w a r e
  have key:∀h₁,h.setCell ad v=some h₁→kk.ar P none h₁=some (a,h')→(∀c,v' ≠ .agg c)→(∀c,v' ≠ .tuple c)→Out P X D R ρ O h w (.store m (ρ.addr ad) v' oO) a h' :=by
   intro h₁ hs he n1 n2
   obtain ⟨u,h1,h2,h3,h4⟩:=r.store ha hs hv
   refine Out.here (h₁:=h₁) (w₁:=w.setCell (ρ.addr ad) v') (s₁:=oO) (es₁:=#[⟨.cell (ρ.addr ad),true,m == .atomic⟩]) (fun ah=>?_) (xM h4) (by simp [World.setCell]) ?_ (ih h3 he)
   ·cases v'<;>first|exact absurd rfl (n1 _)|exact absurd rfl (n2 _)|(rw [iR];simp only [Sem.runT,h1,h2];rfl)
   ·unfold AH.setCell at hs
    (repeat' split at hs)<;>first|cases hs;rfl|cases hs
  cases hv with
  |agg=>simp only [Sem.ar] at e;cases e
  |tuple=>simp only [Sem.ar] at e;cases e
  |_=>
   cases m with
   |atomic=>simp only [Sem.ar] at e;cases e
   |plain=>
    simp only [Sem.ar] at e
    split at e
    ·rename_i h₁ hs
     exact key h₁ hs e (fun c x=>by cases x) (fun c x=>by cases x)
    ·cases e
 | @new ρ o o' kk oO ho _ ih=>
  intro O h h' w a r e
  have hnb:¬ρ.born h.n:=fun hb=>Nat.lt_irrefl _ (r.fresh _ hb)
  have key:(kk h.n).ar P none (h.new o)=some (a,h')→Out P X D R ρ O h w (.new o' oO) a h' :=by
   intro e
   have r' :=(r.push o).birth (o' :=o') hnb (Nat.lt_succ_self _) (Ij o) ho
   refine Out.then (h₁:=h.new o) (w₁:={ w with heap:=w.heap.push o' }) (s₁:=oO w.heap.size) (es₁:=#[]) (fun ah=>by simp only [Sem.runT,Array.append_empty]) (Env.iC hnb) (lU o') (Nat.le_succ _) (fun x=>?_) (ih _ (Env.iC hnb) h.n w.heap.size ⟨.inl rfl,bU⟩ r' e)
   show (x=h.n∨ρ.born x)↔_
   constructor
   ·rintro (rfl|hx)
    ·exact .inr ⟨Nat.le_refl _,Nat.lt_succ_self _⟩
    ·exact .inl hx
   ·rintro (hx|⟨h1,h2⟩)
    ·exact .inr hx
    ·have:x < h.n+1:=h2
     exact .inl (by omega)
  simp only [Sem.ar] at e
  split at e<;>first|exact key e|cases e
 | @shape ρ x y kk oO hx hy _ _ ih ih0=>
  intro O h h' w a r e
  simp only [Sem.ar] at e
  split at e
  ·rename_i l t f dQ ro u hl
   obtain ⟨e',n',hs⟩:=vX r hx hl
   exact Out.here (w₁:=w) (s₁:=oO (some (e',n'))) (es₁:=#[]) (fun ah=>by simp only [Sem.runT,hy,hs,Array.append_empty]) (.none w) rfl rfl (ih _ _ _ _ r e)
  ·rename_i B hnc hl
   exact Out.here (w₁:=w) (s₁:=oO none) (es₁:=#[]) (fun ah=>by simp only [Sem.runT,hy,xN r hx hl (fun c e f hB=>hnc c e f B.dQ B.ro B.u (by rw [←hB])),Array.append_empty]) (.none w) rfl rfl (ih0 r e)
  ·cases e
 | @getObj ρ x y kk oO hx _ ih=>
  intro O h h' w a r e
  simp only [Sem.ar] at e
  split at e
  ·cases e
  ·rename_i B hnc hl
   obtain ⟨o',h1,h2,h3⟩:=r.getObj hx hl (fun c e f hB=>hnc c e f B.dQ B.ro B.u (by rw [←hB]))
   refine Out.here (w₁:=w) (s₁:=oO o') (es₁:=#[⟨.obj y,false,o'.isChan⟩]) (fun ah=>?_) (qK (l:=.obj y) h3) rfl rfl (ih _ o' h2 r e)
   rw [iR]
   have:=h2.gz.2
   cases o'<;>first|exact absurd rfl (this _ _ _)|simp only [Sem.runT,h1]
  ·cases e
 | @setObj ρ x y o o' kk oO hx ho _ ih=>
  intro O h h' w a r e
  simp only [Sem.ar] at e
  split at e
  ·cases e
  ·cases e
  ·rename_i o _ _ B hnc hl hnc'
   split at e
   ·cases e
   ·rename_i hro
    have hc:∀c e f,B.obj ≠ .cells c e f:=fun c e f hB=>hnc c e f B.dQ B.ro B.u (by rw [←hB])
    obtain ⟨o₁,h1,h2,_⟩:=r.getObj hx hl hc
    obtain ⟨r',hO⟩:=r.setObj hx hl hc (by simpa using hro) ho
    refine Out.here (h₁:=h.put x B o) (w₁:={ w with heap:=w.heap.setIfInBounds y o' }) (s₁:=oO) (es₁:=#[⟨.obj y,true,o'.isChan⟩]) (fun ah=>?_) (vW hO) (by simp) rfl (ih r' e)
    rw [iR]
    have:=h2.gz.2
    cases o₁<;>first|exact absurd rfl (this _ _ _)|simp only [Sem.runT,h1]
  ·cases e
 | @choose ρ q kk oO _ ih=>
  intro O h h' w a r e
  simp only [Sem.ar] at e
  split at e
  ·rename_i hq
   exact Out.here (w₁:=w) (s₁:=oO 0) (es₁:=#[]) (fun ah=>by simp only [Sem.runT,if_pos hq,Array.append_empty]) (.none w) rfl rfl (ih 0 r e)
  ·cases e
 | @program ρ kk oO _ ih=>
  intro O h h' w a r e
  simp only [Sem.ar] at e
  exact Out.here (w₁:=w) (s₁:=oO P) (es₁:=#[]) (fun ah=>by simp only [Sem.runT,Array.append_empty]) (.none w) rfl rfl (ih r e)
 |dead hd=>
  intro O h h' w a r e
  rw [hd] at e
  cases e
 |_=>
  intro O h h' w a r e
  simp only [Sem.ar] at e
  cases e
end
end Go.Am
namespace Go.Am
open Go.Ren (grow fM aO az)
section
variable{P:Program}{D:Nat→Prop}{X:Event→Prop}{α β:Type}{R:Env→α→β→Prop}
theorem SR.aem{ρ:Env}{s:Sem α}{s':Sem β}(k:SR P R ρ s s'):∀ {O:Nat→Prop} {h:AH} {w:World},Rel ρ O D h w→∃c:Nat,∀ {h':AH} {a:α},s.ar P (some c) h=some (a,h')→Out P X D R ρ O h w s' a h' :=by
 induction k with
 | @pure ρ x y hR=>
  intro O h w r
  refine ⟨0,fun {h'} {a} e=>?_⟩
  simp only [Sem.ar,Option.some.injEq,Prod.mk.injEq] at e
  obtain ⟨rfl,rfl⟩:=e
  refine ⟨ρ,y,w,#[],fun ah=>by simp only [Sem.runT,Array.append_empty],.refl ρ,hR,r.mono fun _=>.inl,.none w,Nat.le_refl _,fun x=>⟨.inl,fun h=>h.elim id fun x=>absurd x.1 (by omega)⟩⟩
 | @load ρ m ad kk oO ha _ ih=>
  intro O h w r
  cases hc:h.cell ad with
  |none=>exact ⟨0,fun {h'} {a} e=>by rw [Sem.ar.eq_def] at e;simp only [hc] at e;cases e⟩
  |some v=>
   obtain ⟨v',h1,h2,h3⟩:=r.load ha hc
   obtain ⟨c,k⟩:=ih v v' h2 r
   refine ⟨c,fun {h'} {a} e=>?_⟩
   rw [Sem.ar.eq_def] at e
   simp only [hc] at e
   cases m with
   |atomic=>cases e
   |plain=>exact Out.here (es₁:=#[⟨.cell (ρ.addr ad),false,Mode.plain == Mode.atomic⟩]) (fun ah=>by rw [iR];simp only [Sem.runT,h1]) (qK (l:=.cell (ρ.addr ad)) h3) rfl rfl (k e)
 | @store ρ m ad v v' kk oO ha hv _ ih=>
  intro O h w r
  cases hs:h.setCell ad v with
  |none=>
   refine ⟨0,fun {h'} {a} e=>?_⟩
   rw [Sem.ar.eq_def] at e
   cases v<;>cases m<;>simp only [hs] at e<;>cases e
  |some h₁=>
   obtain ⟨u,h1,h2,h3,h4⟩:=r.store ha hs hv
   obtain ⟨c,k⟩:=ih h3
   refine ⟨c,fun {h'} {a} e=>?_⟩
   have key:kk.ar P (some c) h₁=some (a,h')→(∀c,v' ≠ .agg c)→(∀c,v' ≠ .tuple c)→Out P X D R ρ O h w (.store m (ρ.addr ad) v' oO) a h' :=by
    intro he n1 n2
    refine Out.here (h₁:=h₁) (w₁:=w.setCell (ρ.addr ad) v') (s₁:=oO) (es₁:=#[⟨.cell (ρ.addr ad),true,m == .atomic⟩]) (fun ah=>?_) (xM h4) (by simp [World.setCell]) ?_ (k he)
    ·cases v'<;>first|exact absurd rfl (n1 _)|exact absurd rfl (n2 _)|(rw [iR];simp only [Sem.runT,h1,h2];rfl)
    ·unfold AH.setCell at hs
     (repeat' split at hs)<;>first|cases hs;rfl|cases hs
   cases hv with
   |agg=>simp only [Sem.ar] at e;cases e
   |tuple=>simp only [Sem.ar] at e;cases e
   |_=>
    cases m with
    |atomic=>simp only [Sem.ar] at e;cases e
    |plain=>
     simp only [Sem.ar,hs] at e
     exact key e (fun c x=>by cases x) (fun c x=>by cases x)
 | @new ρ o o' kk oO ho _ ih=>
  intro O h w r
  have hnb:¬ρ.born h.n:=fun hb=>Nat.lt_irrefl _ (r.fresh _ hb)
  have r' :=(r.push o).birth (o' :=o') hnb (Nat.lt_succ_self _) (Ij o) ho
  obtain ⟨c,k⟩:=ih _ (Env.iC hnb) h.n w.heap.size ⟨.inl rfl,bU⟩ r'
  refine ⟨c,fun {h'} {a} e=>?_⟩
  have key:(kk h.n).ar P (some c) (h.new o)=some (a,h')→Out P X D R ρ O h w (.new o' oO) a h' :=by
   intro e
   refine Out.then (h₁:=h.new o) (w₁:={ w with heap:=w.heap.push o' }) (s₁:=oO w.heap.size) (es₁:=#[]) (fun ah=>by simp only [Sem.runT,Array.append_empty]) (Env.iC hnb) (lU o') (Nat.le_succ _) (fun x=>?_) (k e)
   show (x=h.n∨ρ.born x)↔_
   constructor
   ·rintro (rfl|hx)
    ·exact .inr ⟨Nat.le_refl _,Nat.lt_succ_self _⟩
    ·exact .inl hx
   ·rintro (hx|⟨h1,h2⟩)
    ·exact .inr hx
    ·have:x < h.n+1:=h2
     exact .inl (by omega)
  simp only [Sem.ar] at e
  split at e<;>first|exact key e|cases e
 | @shape ρ x y kk oO hx hy _ _ ih ih0=>
  intro O h w r
  cases hl:h.look x with
  |none=>exact ⟨0,fun {h'} {a} e=>by rw [Sem.ar.eq_def] at e;simp only [hl] at e;cases e⟩
  |some B=>
   obtain ⟨o,dQ,ro,u⟩:=B
   by_cases hc:∃l t f,o = .cells l t f
   ·obtain ⟨l,t,f,rfl⟩:=hc
    obtain ⟨e',n',hs⟩:=vX r hx hl
    obtain ⟨c,k⟩:=ih t l.size e' n' r
    refine ⟨c,fun {h'} {a} e=>?_⟩
    rw [Sem.ar.eq_def] at e
    simp only [hl] at e
    exact Out.here (w₁:=w) (s₁:=oO (some (e',n'))) (es₁:=#[]) (fun ah=>by simp only [Sem.runT,hy,hs,Array.append_empty]) (.none w) rfl rfl (k e)
   ·have hc':∀l t f,o ≠ .cells l t f:=fun l t f x=>hc ⟨l,t,f,x⟩
    obtain ⟨c,k⟩:=ih0 r
    refine ⟨c,fun {h'} {a} e=>?_⟩
    rw [Sem.ar.eq_def] at e
    simp only [hl] at e
    split at e
    ·rename_i l t f _ _ _ hh;cases hh;exact absurd rfl (hc' _ _ _)
    ·exact Out.here (w₁:=w) (s₁:=oO none) (es₁:=#[]) (fun ah=>by simp only [Sem.runT,hy,xN r hx hl hc',Array.append_empty]) (.none w) rfl rfl (k e)
    ·cases e
 | @getObj ρ x y kk oO hx _ ih=>
  intro O h w r
  cases hl:h.look x with
  |none=>exact ⟨0,fun {h'} {a} e=>by rw [Sem.ar.eq_def] at e;simp only [hl] at e;cases e⟩
  |some B=>
   by_cases hc:∃l t f,B.obj = .cells l t f
   ·obtain ⟨l,t,f,hB⟩:=hc
    refine ⟨0,fun {h'} {a} e=>?_⟩
    rw [Sem.ar.eq_def] at e
    obtain ⟨o,dQ,ro,u⟩:=B
    dsimp only at hB
    subst hB
    simp only [hl] at e
    cases e
   ·have hc':∀l t f,B.obj ≠ .cells l t f:=fun l t f x=>hc ⟨l,t,f,x⟩
    obtain ⟨o',h1,h2,h3⟩:=r.getObj hx hl hc'
    obtain ⟨c,k⟩:=ih _ o' h2 r
    refine ⟨c,fun {h'} {a} e=>?_⟩
    rw [Sem.ar.eq_def] at e
    simp only [hl] at e
    split at e
    ·cases e
    ·rename_i B' _ hh
     cases hh
     refine Out.here (w₁:=w) (s₁:=oO o') (es₁:=#[⟨.obj y,false,o'.isChan⟩]) (fun ah=>?_) (qK (l:=.obj y) h3) rfl rfl (k e)
     rw [iR]
     have:=h2.gz.2
     cases o'<;>first|exact absurd rfl (this _ _ _)|simp only [Sem.runT,h1]
    ·cases e
 | @setObj ρ x y o o' kk oO hx ho _ ih=>
  intro O h w r
  cases hl:h.look x with
  |none=>
   refine ⟨0,fun {h'} {a} e=>?_⟩
   rw [Sem.ar.eq_def] at e
   cases ho<;>(simp only [hl] at e;cases e)
  |some B=>
   by_cases hc:∃l t f,B.obj = .cells l t f
   ·obtain ⟨l,t,f,hB⟩:=hc
    refine ⟨0,fun {h'} {a} e=>?_⟩
    rw [Sem.ar.eq_def] at e
    obtain ⟨o,dQ,ro,u⟩:=B
    dsimp only at hB
    subst hB
    simp only [hl] at e
    cases e
   ·have hc':∀l t f,B.obj ≠ .cells l t f:=fun l t f x=>hc ⟨l,t,f,x⟩
    by_cases hro:B.ro=true
    ·refine ⟨0,fun {h'} {a} e=>?_⟩
     rw [Sem.ar.eq_def] at e
     simp only [hl] at e
     split at e<;>first|(cases e;done)|(rename_i hh _;cases hh;rw [if_pos hro] at e;cases e)
    ·have ab9:B.ro=false:=by simpa using hro
     obtain ⟨o₁,h1,h2,_⟩:=r.getObj hx hl hc'
     obtain ⟨r',hO⟩:=r.setObj hx hl hc' ab9 ho
     obtain ⟨c,k⟩:=ih r'
     refine ⟨c,fun {h'} {a} e=>?_⟩
     rw [Sem.ar.eq_def] at e
     simp only [hl] at e
     split at e
     ·cases e
     ·cases e
     ·rename_i hh _
      cases hh
      rw [if_neg (by simp [ab9])] at e
      refine Out.here (h₁:=h.put x B _) (w₁:={ w with heap:=w.heap.setIfInBounds y o' }) (s₁:=oO) (es₁:=#[⟨.obj y,true,o'.isChan⟩]) (fun ah=>?_) (vW hO) (by simp) rfl (k e)
      rw [iR]
      have:=h2.gz.2
      cases o₁<;>first|exact absurd rfl (this _ _ _)|simp only [Sem.runT,h1]
     ·cases e
 | @choose ρ q kk oO hk ih=>
  intro O h w r
  by_cases hq:q.forced=true
  ·obtain ⟨c,k⟩:=ih 0 r
   refine ⟨c,fun {h'} {a} e=>?_⟩
   rw [Sem.ar.eq_def] at e
   simp only [hq,if_true] at e
   exact Out.here (w₁:=w) (s₁:=oO 0) (es₁:=#[]) (fun ah=>by simp only [Sem.runT,if_pos hq,Array.append_empty]) (.none w) rfl rfl (k e)
  ·cases q with
   |mapNext n=>
    refine ⟨w.tape w.drawn (.mapNext n),fun {h'} {a} e=>?_⟩
    rw [Sem.ar.eq_def] at e
    simp only [if_neg hq] at e
    exact Out.here (w₁:={ w with drawn:=w.drawn+1 }) (s₁:=oO ((Question.mapNext n).cut (w.tape w.drawn (.mapNext n)))) (es₁:=#[]) (fun ah=>by simp only [Sem.runT,if_neg hq,Array.append_empty]) (rV _) rfl rfl ((hk _).uQ (r.drawn _) e)
   |_=>
    refine ⟨0,fun {h'} {a} e=>?_⟩
    rw [Sem.ar.eq_def] at e
    simp only [if_neg hq] at e
    cases e
 | @program ρ kk oO _ ih=>
  intro O h w r
  obtain ⟨c,k⟩:=ih r
  refine ⟨c,fun {h'} {a} e=>?_⟩
  simp only [Sem.ar] at e
  exact Out.here (w₁:=w) (s₁:=oO P) (es₁:=#[]) (fun ah=>by simp only [Sem.runT,Array.append_empty]) (.none w) rfl rfl (k e)
 |dead hd=>
  intro O h w r
  refine ⟨0,fun {h'} {a} e=>?_⟩
  rw [hd] at e
  cases e
 |_=>
  intro O h w r
  refine ⟨0,fun {h'} {a} e=>?_⟩
  simp only [Sem.ar] at e
  cases e
end
end Go.Am
