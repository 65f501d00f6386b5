import GoSem.Step
import Derived.Conc.Beside
set_option linter.unusedVariables false
set_option linter.unusedSectionVars false
set_option linter.unusedSimpArgs false
namespace Go.Ren
section
variable{P:Program}{O O' D:Nat→Prop}{w w₁ w₂ w':World}{g g':Goroutine}{es:Array Event}
def Tm(o o':Os):Prop:=∃d:Nat,o' = { o with wall:=o.wall+d,mono:=o.mono+d }
theorem Tm.rfl{o:Os}:Tm o o:=⟨0,by simp⟩
theorem Tm.trans{a b c:Os}(h:Tm a b)(k:Tm b c):Tm a c:=by
 obtain ⟨d,e1⟩:=h
 obtain ⟨e,e2⟩:=k
 subst e1 e2
 exact ⟨d+e,by simp [Nat.add_assoc]⟩
theorem Tm.of{a b:Os}(h:b=a):Tm a b:=h ▸ .rfl
structure Rely(O D:Nat→Prop)(w w₁:World):Prop where
 size:w.heap.size≤w₁.heap.size
 own:∀b,O b→w₁.heap[b]? = w.heap[b]?
 ro:∀b,D b→w₁.heap[b]? = w.heap[b]?
 os:Tm w.os w₁.os
 output:w₁.output=w.output
 tape:w₁.tape=w.tape
theorem Rely.refl(w:World):Rely O D w w:=⟨Nat.le_refl _,fun _ _=>rfl,fun _ _=>rfl,.rfl,rfl,rfl⟩
theorem Rely.trans(h:Rely O D w w₁)(k:Rely O D w₁ w₂):Rely O D w w₂:=
 ⟨Nat.le_trans h.size k.size,fun b hb=>(k.own b hb).trans (h.own b hb),fun b hb=>(k.ro b hb).trans (h.ro b hb),h.os.trans k.os,k.output.trans h.output,k.tape.trans h.tape⟩
def grow(O:Nat→Prop)(w₁ w':World):Nat→Prop:=fun b=>O b∨(w₁.heap.size≤b∧b < w'.heap.size)
def okMark:Mark→Bool
 | .extern _ | .noRoom=>true
 |_=>false
def EvO(X:Event→Prop)(B:Nat)(O D:Nat→Prop)(e:Event):Prop:=
 (X e∧(MemAct.ofEvent e).low B)∨match e.loc with
 | .cell a=>O a.block∨(D a.block∧e.write=false)
 | .obj r=>O r∨(D r∧e.write=false)
 | .mark m=>okMark m=true
 | .output=>True
 |_=>False
structure Guar(X:Event→Prop)(O D:Nat→Prop)(w₁ w':World)(es:Array Event):Prop where
 size:w₁.heap.size≤w'.heap.size
 heap:∀c,c < w₁.heap.size→¬O c→w'.heap[c]? = w₁.heap[c]?
 os:w'.os=w₁.os
 output:w'.output=w₁.output
 tape:w'.tape=w₁.tape
 ev:∀e∈es,EvO X w'.heap.size (grow O w₁ w') D e
variable{X:Event→Prop}
theorem EvO.mono{B B':Nat}{O O':Nat→Prop}{e:Event}(h:EvO X B O D e)(hB:B≤B')(hO:∀b,O b→O' b):EvO X B' O' D e:=by
 rcases h with ⟨h1,h2⟩|h
 ·exact .inl ⟨h1,MemAct.low_mono hB h2⟩
 ·right
  revert h
  cases e.loc with
  |cell a=>exact fun h=>h.imp (hO _) id
  |obj r=>exact fun h=>h.imp (hO _) id
  |_=>exact id
theorem Guar.none(w:World):Guar X O D w w #[]:=⟨Nat.le_refl _,fun _ _ _=>rfl,rfl,rfl,rfl,fun e he=>by simp at he⟩
theorem grow_trans{w₀:World}{b:Nat}(h:grow (grow O w₀ w₁) w₁ w₂ b)(h1:w₀.heap.size≤w₁.heap.size)(h2:w₁.heap.size≤w₂.heap.size):grow O w₀ w₂ b:=by
 rcases h with (h|⟨h,k⟩)|⟨h,k⟩
 ·exact .inl h
 ·exact .inr ⟨h,by omega⟩
 ·exact .inr ⟨by omega,k⟩
theorem Guar.trans{es₁ es₂:Array Event}(h:Guar X O D w w₁ es₁)(k:Guar X (grow O w w₁) D w₁ w₂ es₂):Guar X O D w w₂ (es₁ ++ es₂):=by
 refine ⟨Nat.le_trans h.size k.size,fun c hc hO=>?_,k.os.trans h.os,k.output.trans h.output,k.tape.trans h.tape,fun e he=>?_⟩
 ·rw [k.heap c (Nat.lt_of_lt_of_le hc h.size) (fun hg=>hg.elim hO fun x=>by omega),h.heap c hc hO]
 ·rcases Array.mem_append.1 he with he|he
  ·exact (h.ev e he).mono k.size fun b hb=>hb.imp id fun x=>⟨x.1,Nat.lt_of_lt_of_le x.2 k.size⟩
  ·exact (k.ev e he).mono (Nat.le_refl _) fun b hb=>grow_trans hb h.size k.size
theorem Guar.less{es₁:Array Event}(h:Guar X O D w w₁ es)(hs:∀e∈es₁,e∈es):Guar X O D w w₁ es₁:=⟨h.size,h.heap,h.os,h.output,h.tape,fun e he=>h.ev e (hs e he)⟩
inductive Wk(P:Program)(m:Bool)(I:World→Prop)(X:Event→Prop)(D:Nat→Prop)(Stop:(Nat→Prop)→Goroutine→World→Prop):(Nat→Prop)→Goroutine→World→Prop
 |stop {O:Nat→Prop} {g:Goroutine} {w:World} (h:Stop O g w):Wk P m I X D Stop O g w
 |step {O:Nat→Prop} {g:Goroutine} {w:World} (hs:g.status = .running) (f:World→Goroutine) (u:World→World) (es:World→Array Event)
   (h:∀w₁,Rely O D w w₁→I w₁→stepG P m g w₁ = .go (f w₁) (u w₁) (es w₁)∧Guar X O D w₁ (u w₁) (es w₁))
   (k:∀w₁,Rely O D w w₁→I w₁→Wk P m I X D Stop (grow O w₁ (u w₁)) (f w₁) (u w₁)):Wk P m I X D Stop O g w
variable{I:World→Prop}
theorem Wk.mk{m:Bool}{Stop:(Nat→Prop)→Goroutine→World→Prop}(hs:g.status = .running)
  (h:∀w₁,Rely O D w w₁→I w₁→∃g' w' es,stepG P m g w₁ = .go g' w' es∧Guar X O D w₁ w' es∧Wk P m I X D Stop (grow O w₁ w') g' w'):Wk P m I X D Stop O g w:=by
 have h':∀w₁,∃x:Goroutine×World×Array Event,Rely O D w w₁→I w₁→stepG P m g w₁ = .go x.1 x.2.1 x.2.2∧Guar X O D w₁ x.2.1 x.2.2∧Wk P m I X D Stop (grow O w₁ x.2.1) x.1 x.2.1:=by
  intro w₁
  by_cases hr:Rely O D w w₁∧I w₁
  ·obtain ⟨g',w',es,x⟩:=h w₁ hr.1 hr.2
   exact ⟨(g',w',es),fun _ _=>x⟩
  ·exact ⟨(g,w,#[]),fun x y=>absurd ⟨x,y⟩ hr⟩
 let c:=fun w₁=>Classical.choose (h' w₁)
 have hc:∀w₁,Rely O D w w₁→I w₁→stepG P m g w₁ = .go (c w₁).1 (c w₁).2.1 (c w₁).2.2∧Guar X O D w₁ (c w₁).2.1 (c w₁).2.2∧Wk P m I X D Stop (grow O w₁ (c w₁).2.1) (c w₁).1 (c w₁).2.1:=fun w₁ hr hi=>Classical.choose_spec (h' w₁) hr hi
 exact .step hs (fun w₁=>(c w₁).1) (fun w₁=>(c w₁).2.1) (fun w₁=>(c w₁).2.2) (fun w₁ hr hi=>⟨(hc w₁ hr hi).1,(hc w₁ hr hi).2.1⟩) (fun w₁ hr hi=>(hc w₁ hr hi).2.2)
theorem Wk.bind{m:Bool}{S T:(Nat→Prop)→Goroutine→World→Prop}(h:Wk P m I X D S O g w)(k:∀O g w,S O g w→Wk P m I X D T O g w):Wk P m I X D T O g w:=by
 induction h with
 |stop h=>exact k _ _ _ h
 |step hs f u es h _ ih=>exact .step hs f u es h fun w₁ hr hi=>ih w₁ hr hi
theorem Wk.mono{m:Bool}{S T:(Nat→Prop)→Goroutine→World→Prop}(h:Wk P m I X D S O g w)(k:∀O g w,S O g w→T O g w):Wk P m I X D T O g w:=h.bind fun O g w x=>.stop (k O g w x)
end
end Go.Ren
namespace Go.Am
open Go.Ren (grow EvO Guar Rely)
inductive Tr(α:Type) where
 |nil
 |node (l:Tr α) (v:Option α) (r:Tr α)
namespace Tr
variable{α:Type}
def left:Tr α→Tr α|nil=>nil|node l _ _=>l
def right:Tr α→Tr α|nil=>nil|node _ _ r=>r
def top:Tr α→Option α|nil=>none|node _ v _=>v
def get:Tr α→Nat→Option α
 |nil,_=>none
 |node l v r,n=>match n with
  |0=>v
  |n+1=>bif Nat.beq (n % 2) 0 then l.get (n / 2) else r.get (n / 2)
def setF:Nat→Tr α→Nat→α→Tr α
 |f,t,0,x=>node t.left (some x) t.right
 |0,t,_+1,_=>t
 |f+1,t,n+1,x=>bif Nat.beq (n % 2) 0 then node (setF f t.left (n / 2) x) t.top t.right else node t.left t.top (setF f t.right (n / 2) x)
def set(t:Tr α)(n:Nat)(x:α):Tr α:=setF n t n x
theorem get_zero(t:Tr α):t.get 0=t.top:=by cases t<;>rfl
theorem get_succ(t:Tr α)(n:Nat):t.get (n+1)=if n % 2=0 then t.left.get (n / 2) else t.right.get (n / 2):=by
 cases t with
 |nil=>simp [get,left,right]
 |node l v r=>
  show (bif Nat.beq (n % 2) 0 then l.get (n / 2) else r.get (n / 2))=_
  by_cases h:n % 2=0
  ·rw [if_pos h,h];rfl
  ·rw [if_neg h]
   have:Nat.beq (n % 2) 0=false:=by
    cases hb:Nat.beq (n % 2) 0 with
    |false=>rfl
    |true=>exact absurd (Nat.eq_of_beq_eq_true hb) h
   rw [this];rfl
theorem get_setF(f:Nat):∀(t:Tr α) (n:Nat) (x:α) (m:Nat),n≤f→(setF f t n x).get m=if m=n then some x else t.get m:=by
 induction f with
 |zero=>
  intro t n x m hn
  have:n=0:=by omega
  subst this
  cases m with
  |zero=>simp [setF,get_zero,top]
  |succ m=>rw [if_neg (by omega)];simp only [setF,get_succ,left,right]
 |succ f ih=>
  intro t n x m hn
  cases n with
  |zero=>
   cases m with
   |zero=>simp [setF,get_zero,top]
   |succ m=>rw [if_neg (by omega)];simp only [setF,get_succ,left,right]
  |succ n=>
   have hle:n / 2≤f:=by omega
   by_cases h:n % 2=0
   ·have e:setF (f+1) t (n+1) x=node (setF f t.left (n / 2) x) t.top t.right:=by simp [setF,h]
    rw [e]
    cases m with
    |zero=>rw [if_neg (by omega)];simp [get_zero,top]
    |succ m=>
     rw [get_succ,get_succ t m]
     simp only [left,right]
     by_cases hm:m % 2=0
     ·rw [if_pos hm,if_pos hm,ih _ _ _ _ hle]
      by_cases hmn:m=n
      · subst hmn;simp
      · rw [if_neg (by omega),if_neg (by omega)]
     ·rw [if_neg hm,if_neg hm,if_neg (by rintro h';exact hm (by omega))]
   ·have hb:Nat.beq (n % 2) 0=false:=by
     cases hb:Nat.beq (n % 2) 0 with
     |false=>rfl
     |true=>exact absurd (Nat.eq_of_beq_eq_true hb) h
    have e:setF (f+1) t (n+1) x=node t.left t.top (setF f t.right (n / 2) x):=by simp only [setF,hb,cond_false]
    rw [e]
    cases m with
    |zero=>rw [if_neg (by omega)];simp [get_zero,top]
    |succ m=>
     rw [get_succ,get_succ t m]
     simp only [left,right]
     by_cases hm:m % 2=0
     ·rw [if_pos hm,if_pos hm,if_neg (by rintro h';omega)]
     ·rw [if_neg hm,if_neg hm,ih _ _ _ _ hle]
      by_cases hmn:m=n
      · subst hmn;simp
      · rw [if_neg (by omega),if_neg (by omega)]
theorem get_set(t:Tr α)(n:Nat)(x:α)(m:Nat):(t.set n x).get m=if m=n then some x else t.get m:=get_setF n t n x m (Nat.le_refl _)
end Tr
structure Blk where
 obj:Obj
 fam:Option Nat
 ro:Bool
 u:Nat
def Blk.Pin(B:Blk):Prop:=B.fam=none∧B.ro=true∧B.u=1
structure AH where
 n:Nat
 tr:Tr Blk
 fams:Tr (List Nat)
def AH.look(h:AH)(b:Nat):Option Blk:=
 match h.tr.get b with
 |none=>none
 |some B=>match B.fam with
  |none=>some B
  |some f=>if ((h.fams.get f).getD []).contains b then some B else none
def AH.cell(h:AH)(a:Addr):Option Value:=
 match a.spot,h.look a.block with
 |none,some { obj:=.cells c _ _,.. }=>c[a.off]?
 |_,_=>none
def AH.put(h:AH)(b:Nat)(B:Blk)(o:Obj):AH:=
 {h with tr:=h.tr.set b { B with obj:=o },fams:=match B.fam with|none=>h.fams|some f=>h.fams.set f [b] }
def AH.setCell(h:AH)(a:Addr)(v:Value):Option AH:=
 match a.spot,h.look a.block with
 |none,some B=>match B.obj,B.ro with
  | .cells c e f,false=>if a.off < c.size then some (h.put a.block B (.cells (c.setIfInBounds a.off v) e f)) else none
  |_,_=>none
 |_,_=>none
def AH.new(h:AH)(o:Obj):AH:={ h with n:=h.n+1,tr:=h.tr.set h.n ⟨o,none,false,0⟩ }
def _root_.Go.Sem.ar{α:Type}(P:Program):Sem α→Option Nat→AH→Option (α×AH)
 | .pure a,_,h=>some (a,h)
 | .load m a k,c,h=>match h.cell a,m with
  |some v,.plain=>(k v).ar P c h
  |_,_=>none
 | .store m a v k,c,h=>match v,m with
  | .agg _,_ | .tuple _,_|_,.atomic=>none
  |v,.plain=>match h.setCell a v with
   |some h=>k.ar P c h
   |none=>none
 | .new o k,c,h=>match o with
  | .cells _ _ (0,0) | .map _ _ | .stringIter _ _ | .mapIter _ _ _ _ | .loop _ | .deferred _=>(k h.n).ar P c (h.new o)
  |_=>none
 | .shape r k,c,h=>match h.look r with
  |some { obj:=.cells l e _,.. }=>(k (some (e,l.size))).ar P c h
  |some _=>(k none).ar P c h
  |none=>none
 | .getObj r k,c,h=>match h.look r with
  |some { obj:=.cells _ _ _,.. }=>none
  |some B=>(k B.obj).ar P c h
  |none=>none
 | .setObj r o k,c,h=>match h.look r,o with
  |some { obj:=.cells _ _ _,.. },_=>none
  |_,.cells _ _ _=>none
  |some B,o=>if B.ro then none else k.ar P c (h.put r B o)
  |none,_=>none
 | .choose q k,c,h=>if q.forced then (k 0).ar P c h else match q,c with
  | .mapNext n,some i=>(k ((Question.mapNext n).cut i)).ar P none h
  |_,_=>none
 | .program k,c,h=>(k P).ar P c h
 |_,_,_=>none
structure Env where
 to:Nat→Nat×Nat
 born:Nat→Prop
 slack:Nat→Prop
 u:Nat→Nat
 ext:Nat→Nat
def Env.addr(ρ:Env)(a:Addr):Addr:={ block:=(ρ.to a.block).1,off:=(ρ.to a.block).2+a.off,spot:=a.spot }
structure Env.Le(ρ σ:Env):Prop where
 born:∀b,ρ.born b→σ.born b
 to:∀b,ρ.born b→σ.to b=ρ.to b
 slack:∀b,ρ.born b→(σ.slack b↔ρ.slack b)
 u:∀b,ρ.born b→σ.u b=ρ.u b
 ext:∀b,ρ.born b→σ.ext b=ρ.ext b
theorem Env.Le.refl(ρ:Env):ρ.Le ρ:=⟨fun _=>id,fun _ _=>rfl,fun _ _=>Iff.rfl,fun _ _=>rfl,fun _ _=>rfl⟩
theorem Env.Le.trans{ρ σ τ:Env}(h:ρ.Le σ)(k:σ.Le τ):ρ.Le τ:=
 ⟨fun b hb=>k.born b (h.born b hb),fun b hb=>(k.to b (h.born b hb)).trans (h.to b hb),fun b hb=>(k.slack b (h.born b hb)).trans (h.slack b hb),fun b hb=>(k.u b (h.born b hb)).trans (h.u b hb),fun b hb=>(k.ext b (h.born b hb)).trans (h.ext b hb)⟩
def Env.ob(ρ:Env)(r r':Nat):Prop:=ρ.born r∧ρ.to r=(r',0)
theorem Env.Le.ob{ρ σ:Env}(h:ρ.Le σ){r r':Nat}(k:ρ.ob r r'):σ.ob r r' :=⟨h.born _ k.1,(h.to _ k.1).trans k.2⟩
inductive FnR(ρ:Env):Fn→Fn→Prop
 |func (f:FuncId):FnR ρ (.func f) (.func f)
 |method (n:String):FnR ρ (.method n) (.method n)
 |methodOf (t:TypeId) (n:String):FnR ρ (.methodOf t n) (.methodOf t n)
 |via (t:TypeId) (p:Array FieldStep) (f:FuncId) (x:Bool):FnR ρ (.via t p f x) (.via t p f x)
 |yield {l l':Nat} (h:ρ.ob l l'):FnR ρ (.yield l) (.yield l')
def AR{α β:Type}(R:α→β→Prop)(a:Array α)(b:Array β):Prop:=a.size=b.size∧∀(i:Nat) x y,a[i]? = some x→b[i]? = some y→R x y
inductive VR(ρ:Env):Value→Value→Prop
 |bool (b:Bool):VR ρ (.bool b) (.bool b)
 |int (k:IntKind) (n:Int):VR ρ (.int k n) (.int k n)
 |string (s:ByteArray):VR ρ (.string s) (.string s)
 |nilptr:VR ρ (.pointer none) (.pointer none)
 |ptr {a:Addr} (h:ρ.born a.block):VR ρ (.pointer (some a)) (.pointer (some (ρ.addr a)))
 |nilslice (n c:Nat):VR ρ (.slice none n c) (.slice none n c)
 |slice {a:Addr} {n c c':Nat} (h:ρ.born a.block) (hc:c' = c∨(ρ.slack a.block∧c≤c' ∧ a.off+c' * ρ.u a.block≤ρ.ext a.block)):VR ρ (.slice (some a) n c) (.slice (some (ρ.addr a)) n c')
 |nilmap:VR ρ (.map none) (.map none)
 |map {r r':Nat} (h:ρ.ob r r'):VR ρ (.map (some r)) (.map (some r'))
 |nilchan:VR ρ (.chan none) (.chan none)
 |chan {r r':Nat} (h:ρ.ob r r'):VR ρ (.chan (some r)) (.chan (some r'))
 |nilFunc:VR ρ .nilFunc .nilFunc
 |func {f f':Fn} {a a' b b':Array Value} (hf:FnR ρ f f') (hs:a.size=a'.size) (h:∀(i:Nat) x y,a[i]? = some x→a'[i]? = some y→VR ρ x y) (ks:b.size=b'.size) (k:∀(i:Nat) x y,b[i]? = some x→b'[i]? = some y→VR ρ x y):VR ρ (.func f a b) (.func f' a' b')
 |nilIface:VR ρ .nilIface .nilIface
 |iface {t:TypeId} {v v':Value} (h:VR ρ v v'):VR ρ (.iface t v) (.iface t v')
 |agg {a a':Array Value} (hs:a.size=a'.size) (h:∀(i:Nat) x y,a[i]? = some x→a'[i]? = some y→VR ρ x y):VR ρ (.agg a) (.agg a')
 |tuple {a a':Array Value} (hs:a.size=a'.size) (h:∀(i:Nat) x y,a[i]? = some x→a'[i]? = some y→VR ρ x y):VR ρ (.tuple a) (.tuple a')
theorem Env.Le.addr{ρ σ:Env}(h:ρ.Le σ){a:Addr}(k:ρ.born a.block):σ.addr a=ρ.addr a:=by simp only [Env.addr,h.to _ k]
theorem FnR.mono{ρ σ:Env}(h:ρ.Le σ){f f':Fn}(k:FnR ρ f f'):FnR σ f f' :=by
 cases k with
 |yield k=>exact .yield (h.ob k)
 |func f=>exact .func f
 |method n=>exact .method n
 |methodOf t n=>exact .methodOf t n
 |via t p f x=>exact .via t p f x
theorem VR.mono{ρ σ:Env}(h:ρ.Le σ){v v':Value}(k:VR ρ v v'):VR σ v v' :=by
 induction k with
 |bool b=>exact .bool b
 |int k n=>exact .int k n
 |string s=>exact .string s
 |nilptr=>exact .nilptr
 |ptr k=>rw [←h.addr k];exact .ptr (h.born _ k)
 |nilslice n c=>exact .nilslice n c
 |slice k hc=>
  rw [←h.addr k]
  refine .slice (h.born _ k) (hc.imp id fun ⟨x,y,z⟩=>⟨(h.slack _ k).2 x,y,?_⟩)
  rw [h.u _ k,h.ext _ k];exact z
 |nilmap=>exact .nilmap
 |map k=>exact .map (h.ob k)
 |nilchan=>exact .nilchan
 |chan k=>exact .chan (h.ob k)
 |nilFunc=>exact .nilFunc
 |func hf hs _ ks _ ih ik=>exact .func (hf.mono h) hs ih ks ik
 |nilIface=>exact .nilIface
 |iface _ ih=>exact .iface ih
 |agg hs _ ih=>exact .agg hs ih
 |tuple hs _ ih=>exact .tuple hs ih
theorem AR.mono{α β:Type}{R S:α→β→Prop}(h:∀x y,R x y→S x y){a:Array α}{b:Array β}(k:AR R a b):AR S a b:=⟨k.1,fun i x y hx hy=>h x y (k.2 i x y hx hy)⟩
def env0:Env:={ to:=fun _=>(0,0),born:=fun _=>False,slack:=fun _=>False,u:=fun _=>0,ext:=fun _=>0 }
structure EntryR(ρ:Env)(e e':MapEntry):Prop where
 plain:VR env0 e.key e.key
 key:e'.key=e.key
 val:VR ρ e.val e'.val
 born:e'.born=e.born
inductive TgR(ρ:Env):Target→Target→Prop
 |collected {r r':Nat} (h:ρ.ob r r'):TgR ρ (.collected r) (.collected r')
 |fn {f f':Fn} {c c':Array Value} (hf:FnR ρ f f') (hc:AR (VR ρ) c c'):TgR ρ (.fn f c) (.fn f' c')
structure DR(ρ:Env)(d d':Deferred):Prop where
 target:TgR ρ d.target d'.target
 args:AR (VR ρ) d.args d'.args
inductive LR{α β:Type}(R:α→β→Prop):List α→List β→Prop
 |nil:LR R [] []
 |cons {x y l m} (h:R x y) (k:LR R l m):LR R (x :: l) (y :: m)
theorem LR.mono{α β:Type}{R S:α→β→Prop}(h:∀x y,R x y→S x y){a:List α}{b:List β}(k:LR R a b):LR S a b:=by
 induction k with
 |nil=>exact .nil
 |cons x _ ih=>exact .cons (h _ _ x) ih
inductive OptR{α β:Type}(R:α→β→Prop):Option α→Option β→Prop
 |none:OptR R none none
 |some {x y} (h:R x y):OptR R (some x) (some y)
structure LoopR(ρ:Env)(l l':Loop):Prop where
 state:l'.state=l.state
 pending:l'.pending=l.pending
 fn:l'.fn=l.fn
 tmps:AR (VR ρ) l.tmps l'.tmps
 params:l'.params=l.params
 assign:l'.assign=l.assign
 body:l'.body=l.body
 defers:ρ.ob l.defers l'.defers
inductive OR(ρ:Env):Obj→Obj→Prop
 |map {es es':Array MapEntry} {k:Nat} (h:AR (EntryR ρ) es es'):OR ρ (.map es k) (.map es' k)
 |stringIter (s:ByteArray) (p:Nat):OR ρ (.stringIter s p) (.stringIter s p)
 |mapIter {m m':Option Nat} {a:Nat} {s:Array Nat} {b:Nat} (h:OptR ρ.ob m m'):OR ρ (.mapIter m a s b) (.mapIter m' a s b)
 |loop {l l':Loop} (h:LoopR ρ l l'):OR ρ (.loop l) (.loop l')
 |taken:OR ρ (.deferred none) (.deferred none)
 |deferred {ds ds':List Deferred} (h:LR (DR ρ) ds ds'):OR ρ (.deferred (some ds)) (.deferred (some ds'))
theorem EntryR.mono{ρ σ:Env}(h:ρ.Le σ){e e':MapEntry}(k:EntryR ρ e e'):EntryR σ e e' :=⟨k.plain,k.key,k.val.mono h,k.born⟩
theorem DR.mono{ρ σ:Env}(h:ρ.Le σ){e e':Deferred}(k:DR ρ e e'):DR σ e e' :=by
 obtain ⟨k1,k2⟩:=k
 refine ⟨?_,k2.mono fun _ _ x=>x.mono h⟩
 revert k1
 intro k1
 cases e;cases e'
 dsimp only at k1 ⊢
 cases k1 with
 |collected k=>exact .collected (h.ob k)
 |fn hf hc=>exact .fn (hf.mono h) (hc.mono fun _ _ x=>x.mono h)
theorem OR.mono{ρ σ:Env}(h:ρ.Le σ){o o':Obj}(k:OR ρ o o'):OR σ o o' :=by
 cases k with
 |map k=>exact .map (k.mono fun _ _ x=>x.mono h)
 |stringIter s p=>exact .stringIter s p
 |mapIter k=>exact .mapIter (by cases k with|none=>exact .none|some x=>exact .some (h.ob x))
 |loop k=>exact .loop ⟨k.state,k.pending,k.fn,k.tmps.mono fun _ _ x=>x.mono h,k.params,k.assign,k.body,h.ob k.defers⟩
 |taken=>exact .taken
 |deferred k=>exact .deferred (k.mono fun _ _ x=>x.mono h)
end Go.Am
namespace Go.Am
open Go.Ren (grow EvO Guar Rely)
theorem not_pin{B:Blk}(h:B.ro=false):¬B.Pin:=fun k=>by rw [k.2.1] at h;cases h
def AH.upTo(h:AH)(ρ:Env)(b:Nat)(n:Nat):Prop:=∃B c e f,h.tr.get b=some B∧B.obj = .cells c e f∧n=(ρ.to b).2+c.size
structure Rel(ρ:Env)(O D:Nat→Prop)(h:AH)(w:World):Prop where
 cells:∀b B c e f,ρ.born b→h.look b=some B→B.obj = .cells c e f→∃C E g,w.heap[(ρ.to b).1]? = some (.cells C E g)∧(ρ.to b).2+ρ.ext b≤C.size∧c.size≤ρ.ext b∧(¬B.Pin→g=(0,0)) ∧
  ∀(i:Nat) v,c[i]? = some v→∃v',C[(ρ.to b).2+i]? = some v' ∧ VR ρ v v'
 obj:∀b B,ρ.born b→h.look b=some B→(∀c e f,B.obj ≠ .cells c e f)→(ρ.to b).2=0∧∃o',w.heap[(ρ.to b).1]? = some o' ∧ OR ρ B.obj o'
 own:∀b B,ρ.born b→h.look b=some B→(B.ro=false→O (ρ.to b).1)∧(O (ρ.to b).1∨D (ρ.to b).1)
 sep:∀b b' B B',ρ.born b→ρ.born b' → h.look b=some B→h.look b' = some B' → b≠b' → (ρ.to b).1=(ρ.to b').1→(∃f,B.fam=some f∧B'.fam=some f)∨(B.Pin∧B'.Pin)
 fresh:∀b,ρ.born b→b < h.n
 low:∀b,ρ.born b→(ρ.to b).1 < w.heap.size
 slack:∀b B,ρ.born b→h.look b=some B→(ρ.slack b↔B.fam≠none)∧(B.fam≠none→ρ.u b=B.u)
 row:∀f l,h.fams.get f=some l→l.Pairwise fun b b'=>ρ.born b→ρ.born b' → (ρ.to b).1=(ρ.to b').1→∀n n',h.upTo ρ b n→h.upTo ρ b' n' → n≤n'
 mem:∀f l,h.fams.get f=some l→∀b,b∈l→b < h.n∧∃B,h.tr.get b=some B∧B.fam=some f
theorem not_cells_of{o:Obj}(h:∀c e f,o ≠ .cells c e f):∀ {α:Type} (x:Array Value→TypeId→Nat×Nat→α) (y:α),(match o with | .cells c e f=>x c e f|_=>y)=y:=by
 intro α x y
 cases o<;>first|rfl|exact absurd rfl (h _ _ _)
theorem OR.not_cells{ρ:Env}{o o':Obj}(h:OR ρ o o'):(∀c e f,o ≠ .cells c e f)∧∀c e f,o' ≠ .cells c e f:=by
 cases h<;>exact ⟨fun _ _ _ h=>(by cases h),fun _ _ _ h=>(by cases h)⟩
theorem look_tr{h:AH}{b:Nat}{B:Blk}(k:h.look b=some B):h.tr.get b=some B:=by
 unfold AH.look at k
 split at k
 ·cases k
 ·rename_i B' hB
  split at k
  ·cases k;exact hB
  ·split at k
   ·cases k;exact hB
   ·cases k
theorem look_fam{h:AH}{b f:Nat}{B:Blk}(k:h.look b=some B)(hf:B.fam=some f):b∈(h.fams.get f).getD []:=by
 have ht:=look_tr k
 unfold AH.look at k
 rw [ht] at k
 dsimp only at k
 rw [hf] at k
 dsimp only at k
 split at k
 ·rename_i hc;simpa using hc
 ·cases k
section
variable{P:Program}{ρ σ:Env}{O O' D:Nat→Prop}{h h':AH}{w w':World}{X:Event→Prop}
theorem Rel.mono(r:Rel ρ O D h w)(hO:∀b,O b→O' b):Rel ρ O' D h w:=
 ⟨r.cells,r.obj,fun b B hb hl=>⟨fun x=>hO _ ((r.own b B hb hl).1 x),(r.own b B hb hl).2.imp (hO _) id⟩,r.sep,r.fresh,r.low,r.slack,r.row,r.mem⟩
theorem Rel.rely(r:Rel ρ O D h w)(k:Rely O D w w'):Rel ρ O D h w' :=by
 have hb:∀b B,ρ.born b→h.look b=some B→w'.heap[(ρ.to b).1]? = w.heap[(ρ.to b).1]? :=fun b B hb hl=>(r.own b B hb hl).2.elim (k.own _) (k.ro _)
 refine ⟨fun b B c e f hb' hl hc=>?_,fun b B hb' hl hc=>?_,r.own,r.sep,r.fresh,fun b hb'=>Nat.lt_of_lt_of_le (r.low b hb') k.size,r.slack,r.row,r.mem⟩
 ·rw [hb b B hb' hl];exact r.cells b B c e f hb' hl hc
 ·rw [hb b B hb' hl];exact r.obj b B hb' hl hc
theorem guar_read{l:Loc}{s:Bool}(hl:match l with | .cell a=>O a.block∨D a.block | .obj r=>O r∨D r|_=>False):Guar X O D w w #[⟨l,false,s⟩]:=by
 refine ⟨Nat.le_refl _,fun _ _ _=>rfl,rfl,rfl,rfl,fun e he=>?_⟩
 simp only [List.mem_toArray,List.mem_singleton] at he
 subst he
 right
 cases l with
 |cell a=>exact hl.imp .inl fun x=>⟨x,rfl⟩
 |obj r=>exact hl.imp .inl fun x=>⟨x,rfl⟩
 |_=>exact hl.elim
theorem Rel.load(r:Rel ρ O D h w){a:Addr}{v:Value}(hb:ρ.born a.block)(hc:h.cell a=some v):∃v',w.cell? (ρ.addr a)=some v' ∧ VR ρ v v' ∧ (O (ρ.addr a).block∨D (ρ.addr a).block):=by
 unfold AH.cell at hc
 split at hc
 ·rename_i c e f fam ro u hs hl
  obtain ⟨C,E,g,h1,h2,h3,h4,h5⟩:=r.cells _ _ c e f hb hl rfl
  obtain ⟨v',h6,h7⟩:=h5 _ _ hc
  refine ⟨v',?_,h7,(r.own _ _ hb hl).2⟩
  unfold World.cell? Env.addr
  dsimp only
  rw [h1]
  dsimp only
  rw [hs]
  simpa using h6
 ·cases hc
theorem put_tr(b:Nat)(B:Blk)(o:Obj)(b':Nat):(h.put b B o).tr.get b' = if b' = b then some { B with obj:=o } else h.tr.get b' :=by
 simp only [AH.put,Tr.get_set]
theorem put_fams(b:Nat)(B:Blk)(o:Obj)(f:Nat):(h.put b B o).fams.get f=if B.fam=some f then some [b] else h.fams.get f:=by
 unfold AH.put
 cases hB:B.fam with
 |none=>simp
 |some f'=>
  simp only [Tr.get_set,Option.some.injEq]
  by_cases e:f=f'
  ·subst e;simp
  ·rw [if_neg e,if_neg (fun x=>e x.symm)]
theorem look_put{b:Nat}{B:Blk}{o:Obj}(hl:h.look b=some B)(b':Nat)(B':Blk)(k:(h.put b B o).look b' = some B') :
  (b' = b∧B' = { B with obj:=o })∨(b' ≠ b∧h.look b' = some B' ∧ ∀f,B'.fam=some f→B.fam≠some f):=by
 have ht:=look_tr k
 rw [put_tr] at ht
 by_cases e:b' = b
 ·subst e
  rw [if_pos rfl] at ht
  cases ht
  exact .inl ⟨rfl,rfl⟩
 ·rw [if_neg e] at ht
  right
  refine ⟨e,?_,fun f hf hB=>?_⟩
  ·unfold AH.look
   rw [ht]
   dsimp only
   cases hf:B'.fam with
   |none=>rfl
   |some f=>
    dsimp only
    have hm:=look_fam k hf
    rw [put_fams] at hm
    by_cases hB:B.fam=some f
    ·rw [if_pos hB] at hm
     simp at hm
     exact absurd hm e
    ·rw [if_neg hB] at hm
     rw [if_pos (by simpa using hm)]
  ·have hm:=look_fam k hf
   rw [put_fams,if_pos hB] at hm
   simp at hm
   exact e hm
theorem upTo_put{b:Nat}{B:Blk}{o:Obj}(hl:h.look b=some B)(ho:∀c e f,o = .cells c e f→∃c' e' f',B.obj = .cells c' e' f' ∧ c'.size=c.size)(b' n:Nat)(k:(h.put b B o).upTo ρ b' n):h.upTo ρ b' n:=by
 obtain ⟨B',c,e,f,h1,h2,h3⟩:=k
 rw [put_tr] at h1
 by_cases e':b' = b
 ·subst e'
  rw [if_pos rfl] at h1
  cases h1
  obtain ⟨c',e',f',h4,h5⟩:=ho c e f h2
  exact ⟨B,c',e',f',look_tr hl,h4,by omega⟩
 ·rw [if_neg e'] at h1
  exact ⟨B',c,e,f,h1,h2,h3⟩
theorem Rel.put(r:Rel ρ O D h w){b:Nat}{B:Blk}{o:Obj}(hb:ρ.born b)(hl:h.look b=some B)(hro:B.ro=false)(ho:∀c e f,o = .cells c e f→∃c' e' f',B.obj = .cells c' e' f' ∧ c'.size=c.size)
  (hw:∀c,c≠(ρ.to b).1→w'.heap[c]? = w.heap[c]?) (hs:w'.heap.size=w.heap.size)
  (hc:∀c e f,o = .cells c e f→∃C E g,w'.heap[(ρ.to b).1]? = some (.cells C E g)∧(ρ.to b).2+ρ.ext b≤C.size∧c.size≤ρ.ext b∧(True→g=(0,0))∧∀(i:Nat) v,c[i]? = some v→∃v',C[(ρ.to b).2+i]? = some v' ∧ VR ρ v v')
  (hn:b < h.n) (hobj:(∀c e f,o ≠ .cells c e f)→(ρ.to b).2=0∧∃o',w'.heap[(ρ.to b).1]? = some o' ∧ OR ρ o o'):Rel ρ O D (h.put b B o) w' :=by
 have other:∀b' B',ρ.born b' → (h.put b B o).look b' = some B' → b' ≠ b→h.look b' = some B' ∧ (ρ.to b').1≠(ρ.to b).1:=by
  intro b' B' hb' hl' hne
  rcases look_put hl b' B' hl' with ⟨x,_⟩|⟨_,h2,h3⟩
  ·exact absurd x hne
  ·refine ⟨h2,fun e=>?_⟩
   rcases r.sep b' b B' B hb' hb h2 hl hne e with ⟨f,hf,hf'⟩|⟨_,_,hx,_⟩
   ·exact h3 f hf hf'
   ·rw [hro] at hx;cases hx
 have same:∀B',(h.put b B o).look b=some B' → B' = { B with obj:=o }:=by
  intro B' hl'
  rcases look_put hl b B' hl' with ⟨_,h2⟩|⟨h1,_⟩
  ·exact h2
  ·exact absurd rfl h1
 refine ⟨fun b' B' c e f hb' hl' hobj'=>?_,fun b' B' hb' hl' hobj'=>?_,fun b' B' hb' hl'=>?_,fun b₁ b₂ B₁ B₂ h1 h2 l1 l2 hne hsame=>?_,r.fresh,fun b' hb'=>hs ▸ r.low b' hb',fun b' B' hb' hl'=>?_,fun f l hf=>?_,fun f l hf b' hm=>?_⟩
 ·by_cases e':b' = b
  ·subst e'
   have:=same B' hl'
   subst this
   obtain ⟨C,E,g,k1,k2,k3,k4,k5⟩:=hc c e f hobj'
   exact ⟨C,E,g,k1,k2,k3,fun _=>k4 trivial,k5⟩
  ·obtain ⟨h1,h2⟩:=other b' B' hb' hl' e'
   rw [hw _ h2]
   exact r.cells b' B' c e f hb' h1 hobj'
 ·by_cases e':b' = b
  ·subst e'
   have:=same B' hl'
   subst this
   exact hobj hobj'
  ·obtain ⟨h1,h2⟩:=other b' B' hb' hl' e'
   rw [hw _ h2]
   exact r.obj b' B' hb' h1 hobj'
 ·by_cases e':b' = b
  ·subst e'
   have:=same B' hl'
   subst this
   exact r.own b' B hb' hl
  ·exact r.own b' B' hb' (other b' B' hb' hl' e').1
 ·by_cases e1:b₁=b
  ·subst e1
   have:=same B₁ l1
   subst this
   obtain ⟨_,h3⟩:=other b₂ B₂ h2 l2 (Ne.symm hne)
   exact absurd hsame.symm h3
  ·obtain ⟨l1',h3⟩:=other b₁ B₁ h1 l1 e1
   by_cases e2:b₂=b
   ·subst e2;exact absurd hsame h3
   ·exact r.sep b₁ b₂ B₁ B₂ h1 h2 l1' (other b₂ B₂ h2 l2 e2).1 hne hsame
 ·by_cases e':b' = b
  ·subst e'
   have:=same B' hl'
   subst this
   exact r.slack b' B hb' hl
  ·exact r.slack b' B' hb' (other b' B' hb' hl' e').1
 ·rw [put_fams] at hf
  by_cases hB:B.fam=some f
  ·rw [if_pos hB] at hf
   cases hf
   exact List.pairwise_singleton _ _
  ·rw [if_neg hB] at hf
   exact (r.row f l hf).imp fun hp h1 h2 h3 n n' k1 k2=>hp h1 h2 h3 n n' (upTo_put hl ho _ _ k1) (upTo_put hl ho _ _ k2)
 ·rw [put_fams] at hf
  rw [put_tr]
  by_cases hB:B.fam=some f
  ·rw [if_pos hB] at hf
   cases hf
   simp only [List.mem_singleton] at hm
   subst hm
   exact ⟨hn,{ B with obj:=o },by rw [if_pos rfl],hB⟩
  ·rw [if_neg hB] at hf
   obtain ⟨m1,B',m2,m3⟩:=r.mem f l hf b' hm
   have e':b' ≠ b:=fun x=>by subst x;rw [look_tr hl] at m2;cases m2;exact hB m3
   exact ⟨m1,B',by rw [if_neg e'];exact m2,m3⟩
theorem Rel.store(r:Rel ρ O D h w){a:Addr}{v v':Value}(hb:ρ.born a.block)(hc:h.setCell a v=some h')(hv:VR ρ v v') :
  ∃u,w.cell? (ρ.addr a)=some u∧w.frozen? (ρ.addr a)=false∧Rel ρ O D h' (w.setCell (ρ.addr a) v')∧O (ρ.addr a).block:=by
 unfold AH.setCell at hc
 split at hc
 rotate_left
 ·cases hc
 rename_i B hs hl
 split at hc
 rotate_left
 ·cases hc
 rename_i c e f hobj hro
 split at hc
 rotate_left
 ·cases hc
 rename_i hlt
 cases hc
 obtain ⟨C,E,g,h1,h2,h3,h4,h5⟩:=r.cells _ _ c e f hb hl hobj
 have hg:=h4 (not_pin hro)
 subst hg
 obtain ⟨u,h6,_⟩:=h5 a.off c[a.off] (by simp [hlt])
 have hO:=(r.own _ _ hb hl).1 hro
 have hoff:(ρ.to a.block).2+a.off < C.size:=by omega
 refine ⟨u,?_,?_,?_,hO⟩
 ·unfold World.cell? Env.addr;dsimp only;rw [h1];dsimp only;rw [hs];simpa using h6
 ·unfold World.frozen? Env.addr;dsimp only;rw [h1];simp
 ·have hheap:(w.setCell (ρ.addr a) v').heap=w.heap.modify (ρ.to a.block).1 fun
    | .cells c elem frozen=>.cells (if (ρ.addr a).spot.isSome then c else c.setIfInBounds ((ρ.to a.block).2+a.off) v') elem frozen
    |o=>o:=rfl
  have hhere:(w.setCell (ρ.addr a) v').heap[(ρ.to a.block).1]? = some (.cells (C.setIfInBounds ((ρ.to a.block).2+a.off) v') E (0,0)):=by
   rw [hheap,Array.getElem?_modify,if_pos rfl,h1]
   simp [Env.addr,hs]
  refine r.put hb hl hro (fun c₁ e₁ f₁ x=>⟨c,e,f,hobj,by cases x;simp⟩) (fun c hc=>?_) (by rw [hheap];simp) (fun c₁ e₁ f₁ x=>?_) (r.fresh _ hb) (fun x=>absurd rfl (x _ _ _))
  ·rw [hheap,Array.getElem?_modify,if_neg (Ne.symm hc)]
  ·cases x
   refine ⟨_,E,(0,0),hhere,by simpa using h2,by simpa using h3,fun _=>rfl,fun i x hx=>?_⟩
   rw [Array.getElem?_setIfInBounds] at hx
   rw [Array.getElem?_setIfInBounds]
   by_cases e':a.off=i
   ·subst e'
    rw [if_pos rfl,if_pos hlt] at hx
    cases hx
    exact ⟨v',by rw [if_pos rfl,if_pos hoff],hv⟩
   ·rw [if_neg e'] at hx
    obtain ⟨y,hy,hxy⟩:=h5 i x hx
    exact ⟨y,by rw [if_neg (by omega)];exact hy,hxy⟩
end
end Go.Am
