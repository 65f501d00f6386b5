import GoSem.Step
import Derived.Conc.Beside
set_option linter.all false
namespace Go.Ren
section
variable{P:Program}{O O' D:Nat->Prop}{w w₁ i w':World}{g g':Goroutine}{es:Array Event}
def Tm(o c:Os):Prop:=∃d:Nat,c={o with wall:=o.wall+d,mono:=o.mono+d}
theorem Tm.rfl{o:Os}:Tm o o:=⟨0,by simp⟩
theorem Tm.trans{a b c:Os}(h:Tm a b)(k:Tm b c):Tm a c:=by
 obtain⟨d,f⟩:=h
 obtain⟨e,j⟩:=k
 subst f j;exact⟨d+e,by simp[Nat.add_assoc]⟩
theorem Tm.of{a b:Os}(h:b=a):Tm a b:=h▸.rfl
structure aB(O D:Nat->Prop)(w w₁:World):Prop where
 size:w.heap.size<=w₁.heap.size
 own:∀b,O b->w₁.heap[b]?=w.heap[b]?
 ro:∀b,D b->w₁.heap[b]?=w.heap[b]?
 os:Tm w.os w₁.os
 output:w₁.output=w.output
 tape:w₁.tape=w.tape
theorem aB.refl(w:World):aB O D w w:=⟨Nat.le_refl _,fun _ _=>rfl,fun _ _=>rfl,.rfl,rfl,rfl⟩
theorem aB.trans(h:aB O D w w₁)(k:aB O D w₁ i):aB O D w i:=
 ⟨Nat.le_trans h.size k.size,fun b a=>(k.own b a).trans (h.own b a),fun b a=>(k.ro b a).trans (h.ro b a),h.os.trans k.os,k.output.trans h.output,k.tape.trans h.tape⟩
def grow(O:Nat->Prop)(w₁ w':World):Nat->Prop:=fun b=>O b∨(w₁.heap.size<=b/\b<w'.heap.size)
def vM:Mark->Bool
 | .extern _|.noRoom=>true
 |_=>false
def gU(X:Event->Prop)(B:Nat)(O D:Nat->Prop)(e:Event):Prop:=
 (X e/\(MemAct.ofEvent e).low B)∨match e.loc with
 | .cell a=>O a.block∨(D a.block/\e.write=false)
 | .obj r=>O r∨(D r/\e.write=false)
 | .mark m=>vM m=true
 | .output=>True
 |_=>False
structure aT(X:Event->Prop)(O D:Nat->Prop)(w₁ w':World)(es:Array Event):Prop where
 size:w₁.heap.size<=w'.heap.size
 heap:∀c,c<w₁.heap.size->¬O c->w'.heap[c]?=w₁.heap[c]?
 os:w'.os=w₁.os
 output:w'.output=w₁.output
 tape:w'.tape=w₁.tape
 ev:∀e∈es,gU X w'.heap.size (grow O w₁ w') D e
variable{X:Event->Prop}
theorem gU.mono{B c:Nat}{O O':Nat->Prop}{e:Event}(h:gU X B O D e)(j:B<=c)(d:∀b,O b->O' b):gU X c O' D e:=by
 rcases h with⟨k,l⟩|h
 ·exact .inl ⟨k,MemAct.low_mono j l⟩
 ·right;revert h;cases e.loc with
  |cell a=>exact fun h=>h.imp (d _) id
  |obj r=>exact fun h=>h.imp (d _) id
  |_=>exact id
theorem aT.none(w:World):aT X O D w w #[]:=⟨Nat.le_refl _,fun _ _ _=>rfl,rfl,rfl,rfl,fun e a=>by simp at a⟩
theorem vN{a:World}{b:Nat}(h:grow (grow O a w₁) w₁ i b)(c:a.heap.size<=w₁.heap.size)(d:w₁.heap.size<=i.heap.size):grow O a i b:=by
 rcases h with(h|⟨h,k⟩)|⟨h,k⟩
 ·exact .inl h
 ·exact .inr ⟨h,by omega⟩
 ·exact .inr ⟨by omega,k⟩
theorem aT.trans{a d:Array Event}(h:aT X O D w w₁ a)(k:aT X (grow O w w₁) D w₁ i d):aT X O D w i (a++d):=by
 refine⟨Nat.le_trans h.size k.size,fun c l m=>?_,k.os.trans h.os,k.output.trans h.output,k.tape.trans h.tape,fun e f=>?_⟩
 ·rw[k.heap c (Nat.lt_of_lt_of_le l h.size) (fun n=>n.elim m fun x=>by omega),h.heap c l m]
 ·rcases Array.mem_append.1 f with f|f
  ·exact(h.ev e f).mono k.size fun b j=>j.imp id fun x=>⟨x.1,Nat.lt_of_lt_of_le x.2 k.size⟩
  ·exact(k.ev e f).mono (Nat.le_refl _) fun b j=>vN j h.size k.size
theorem aT.less{a:Array Event}(h:aT X O D w w₁ es)(b:∀e∈a,e∈es):aT X O D w w₁ a:=⟨h.size,h.heap,h.os,h.output,h.tape,fun e c=>h.ev e (b e c)⟩
inductive Wk(P:Program)(m:Bool)(I:World->Prop)(X:Event->Prop)(D:Nat->Prop)(Stop:(Nat->Prop)->Goroutine->World->Prop):(Nat->Prop)->Goroutine->World->Prop
 |stop {O:Nat->Prop} {g:Goroutine} {w:World} (h:Stop O g w):Wk P m I X D Stop O g w
 |step {O:Nat->Prop} {g:Goroutine} {w:World} (hs:g.status=.running) (f:World->Goroutine) (u:World->World) (es:World->Array Event)
   (h:∀w₁,aB O D w w₁->I w₁->stepG P m g w₁=.go (f w₁) (u w₁) (es w₁)/\aT X O D w₁ (u w₁) (es w₁))
   (k:∀w₁,aB O D w w₁->I w₁->Wk P m I X D Stop (grow O w₁ (u w₁)) (f w₁) (u w₁)):Wk P m I X D Stop O g w
variable{I:World->Prop}
theorem Wk.mk{m:Bool}{Stop:(Nat->Prop)->Goroutine->World->Prop}(f:g.status=.running)
  (h:∀w₁,aB O D w w₁->I w₁->∃g' w' es,stepG P m g w₁=.go g' w' es/\aT X O D w₁ w' es/\Wk P m I X D Stop (grow O w₁ w') g' w'):Wk P m I X D Stop O g w:=by
 have e:∀w₁,∃x:Goroutine×World×Array Event,aB O D w w₁->I w₁->stepG P m g w₁=.go x.1 x.2.1 x.2.2/\aT X O D w₁ x.2.1 x.2.2/\Wk P m I X D Stop (grow O w₁ x.2.1) x.1 x.2.1:=by
  intro w₁;by_cases a:aB O D w w₁/\I w₁
  ·obtain⟨g',w',es,x⟩:=h w₁ a.1 a.2;exact⟨(g',w',es),fun _ _=>x⟩
  ·exact⟨(g,w,#[]),fun x y=>absurd ⟨x,y⟩ a⟩
 let c:=fun w₁=>Classical.choose (e w₁)
 have d:∀w₁,aB O D w w₁->I w₁->stepG P m g w₁=.go (c w₁).1 (c w₁).2.1 (c w₁).2.2/\aT X O D w₁ (c w₁).2.1 (c w₁).2.2/\Wk P m I X D Stop (grow O w₁ (c w₁).2.1) (c w₁).1 (c w₁).2.1:=fun w₁ a b=>Classical.choose_spec (e w₁) a b
 exact .step f (fun w₁=>(c w₁).1) (fun w₁=>(c w₁).2.1) (fun w₁=>(c w₁).2.2) (fun w₁ a b=>⟨(d w₁ a b).1,(d w₁ a b).2.1⟩) (fun w₁ a b=>(d w₁ a b).2.2)
theorem Wk.bind{m:Bool}{S T:(Nat->Prop)->Goroutine->World->Prop}(h:Wk P m I X D S O g w)(k:∀O g w,S O g w->Wk P m I X D T O g w):Wk P m I X D T O g w:=by
 induction h with
 |stop h=>exact k _ _ _ h
 |step a f u es h _ b=>exact .step a f u es h fun w₁ c d=>b w₁ c d
theorem Wk.mono{m:Bool}{S T:(Nat->Prop)->Goroutine->World->Prop}(h:Wk P m I X D S O g w)(k:∀O g w,S O g w->T O g w):Wk P m I X D T O g w:=h.bind fun O g w x=>.stop (k O g w x)
end
end Go.Ren
namespace Go.Am
open Go.Ren (grow gU aT aB)
inductive Tr(α:Type) where
 |nil
 |node (l:Tr α) (v:Option α) (r:Tr α)
namespace Tr
variable{a:Type}
def left:Tr a->Tr a|nil=>nil|node l _ _=>l
def right:Tr a->Tr a|nil=>nil|node _ _ r=>r
def top:Tr a->Option a|nil=>none|node _ v _=>v
def get:Tr a->Nat->Option a
 |nil,_=>none
 |node l v r,n=>match n with
  |0=>v
  |n+1=>bif Nat.beq (n%2) 0 then l.get (n/2)else r.get (n/2)
def wW:Nat->Tr a->Nat->a->Tr a
 |f,t,0,x=>node t.left (some x) t.right
 |0,t,_+1,_=>t
 |f+1,t,n+1,x=>bif Nat.beq (n%2) 0 then node (wW f t.left (n/2) x) t.top t.right else node t.left t.top (wW f t.right (n/2) x)
def set(t:Tr a)(n:Nat)(x:a):Tr a:=wW n t n x
theorem wX(t:Tr a):t.get 0=t.top:=by cases t<;>rfl
theorem nS(t:Tr a)(n:Nat):t.get (n+1)=if n%2=0 then t.left.get (n/2)else t.right.get (n/2):=by
 cases t with
 |nil=>simp[get,left,right]
 |node l v r=>
  show(bif Nat.beq (n%2) 0 then l.get (n/2)else r.get (n/2))=_
  by_cases h:n%2=0
  ·rw[if_pos h,h];rfl
  ·rw[if_neg h];have:Nat.beq (n%2) 0=false:=by
    cases b:Nat.beq (n%2) 0 with
    |false=>rfl
    |true=>exact absurd (Nat.eq_of_beq_eq_true b) h
   rw[this];rfl
theorem Xb(f:Nat):∀(t:Tr a) (n:Nat) (x:a) (m:Nat),n<=f->(wW f t n x).get m=if m=n then some x else t.get m:=by
 induction f with
 |zero=>
  intro t n x m k;have:n=0:=by omega
  subst this;cases m with
  |zero=>simp[wW,wX,top]
  |succ m=>rw[if_neg (by omega)];simp only[wW,nS,left,right]
 |succ f j=>
  intro t n x m k;cases n with
  |zero=>
   cases m with
   |zero=>simp[wW,wX,top]
   |succ m=>rw[if_neg (by omega)];simp only[wW,nS,left,right]
  |succ n=>
   have g:n/2<=f:=by omega
   by_cases h:n%2=0
   ·have e:wW (f+1) t (n+1) x=node (wW f t.left (n/2) x) t.top t.right:=by simp[wW,h]
    rw[e];cases m with
    |zero=>rw[if_neg (by omega)];simp[wX,top]
    |succ m=>
     rw[nS,nS t m];simp only[left,right]
     by_cases c:m%2=0
     ·rw[if_pos c,if_pos c,j _ _ _ _ g];by_cases d:m=n
      · subst d;simp
      · rw[if_neg (by omega),if_neg (by omega)]
     ·rw[if_neg c,if_neg c,if_neg (by rintro l;exact c (by omega))]
   ·have i:Nat.beq (n%2) 0=false:=by
     cases i:Nat.beq (n%2) 0 with
     |false=>rfl
     |true=>exact absurd (Nat.eq_of_beq_eq_true i) h
    have e:wW (f+1) t (n+1) x=node t.left t.top (wW f t.right (n/2) x):=by simp only[wW,i,cond_false]
    rw[e];cases m with
    |zero=>rw[if_neg (by omega)];simp[wX,top]
    |succ m=>
     rw[nS,nS t m];simp only[left,right]
     by_cases c:m%2=0
     ·rw[if_pos c,if_pos c,if_neg (by rintro l;omega)]
     ·rw[if_neg c,if_neg c,j _ _ _ _ g];by_cases d:m=n
      · subst d;simp
      · rw[if_neg (by omega),if_neg (by omega)]
theorem dW(t:Tr a)(n:Nat)(x:a)(m:Nat):(t.set n x).get m=if m=n then some x else t.get m:=Xb n t n x m (Nat.le_refl _)
end Tr
structure cZ where
 obj:Obj
 gB:Option Nat
 ro:Bool
 u:Nat
def cZ.Xc(B:cZ):Prop:=B.gB=none/\B.ro=true/\B.u=1
structure AH where
 n:Nat
 tr:Tr cZ
 dn:Tr (List Nat)
def AH.look(h:AH)(b:Nat):Option cZ:=
 match h.tr.get b with
 |none=>none
 |some B=>match B.gB with
  |none=>some B
  |some f=>if((h.dn.get f).getD []).contains b then some B else none
def AH.cell(h:AH)(a:Addr):Option Value:=
 match a.spot,h.look a.block with
 |none,some {obj:=.cells c _ _,..}=>c[a.off]?
 |_,_=>none
def AH.put(h:AH)(b:Nat)(B:cZ)(o:Obj):AH:=
 {h with tr:=h.tr.set b {B with obj:=o},dn:=match B.gB with|none=>h.dn|some f=>h.dn.set f [b]}
def AH.setCell(h:AH)(a:Addr)(v:Value):Option AH:=
 match a.spot,h.look a.block with
 |none,some B=>match B.obj,B.ro with
  | .cells c e f,false=>if a.off<c.size then some (h.put a.block B (.cells (c.setIfInBounds a.off v) e f))else none
  |_,_=>none
 |_,_=>none
def AH.new(h:AH)(o:Obj):AH:={h with n:=h.n+1,tr:=h.tr.set h.n ⟨o,none,false,0⟩}
def _root_.Go.Sem.ar{d:Type}(P:Program):Sem d->Option Nat->AH->Option (d×AH)
 | .pure a,_,h=>some (a,h)
 | .load m a k,c,h=>match h.cell a,m with
  |some v,.plain=>(k v).ar P c h
  |_,_=>none
 | .store m a v k,c,h=>match v,m with
  | .agg _,_|.tuple _,_|_,.atomic=>none
  |v,.plain=>match h.setCell a v with
   |some h=>k.ar P c h
   |none=>none
 | .new o k,c,h=>match o with
  | .cells _ _ (0,0)|.map _ _|.stringIter _ _|.mapIter _ _ _ _|.loop _|.deferred _=>(k h.n).ar P c (h.new o)
  |_=>none
 | .shape r k,c,h=>match h.look r with
  |some {obj:=.cells l e _,..}=>(k (some (e,l.size))).ar P c h
  |some _=>(k none).ar P c h
  |none=>none
 | .getObj r k,c,h=>match h.look r with
  |some {obj:=.cells _ _ _,..}=>none
  |some B=>(k B.obj).ar P c h
  |none=>none
 | .setObj r o k,c,h=>match h.look r,o with
  |some {obj:=.cells _ _ _,..},_=>none
  |_,.cells _ _ _=>none
  |some B,o=>if B.ro then none else k.ar P c (h.put r B o)
  |none,_=>none
 | .choose q k,c,h=>if q.forced then(k 0).ar P c h else match q,c with
  | .mapNext n,some i=>(k ((Question.mapNext n).cut i)).ar P none h
  |_,_=>none
 | .program k,c,h=>(k P).ar P c h
 |_,_,_=>none
structure Env where
 to:Nat->Nat×Nat
 born:Nat->Prop
 bg:Nat->Prop
 u:Nat->Nat
 ext:Nat->Nat
def Env.addr(b:Env)(a:Addr):Addr:={block:=(b.to a.block).1,off:=(b.to a.block).2+a.off,spot:=a.spot}
structure Env.Le(ρ σ:Env):Prop where
 born:∀b,ρ.born b->σ.born b
 to:∀b,ρ.born b->σ.to b=ρ.to b
 bg:∀b,ρ.born b->(σ.bg b↔ρ.bg b)
 u:∀b,ρ.born b->σ.u b=ρ.u b
 ext:∀b,ρ.born b->σ.ext b=ρ.ext b
theorem Env.Le.refl(a:Env):a.Le a:=⟨fun _=>id,fun _ _=>rfl,fun _ _=>Iff.rfl,fun _ _=>rfl,fun _ _=>rfl⟩
theorem Env.Le.trans{ρ c d:Env}(h:ρ.Le c)(k:c.Le d):ρ.Le d:=
 ⟨fun b a=>k.born b (h.born b a),fun b a=>(k.to b (h.born b a)).trans (h.to b a),fun b a=>(k.bg b (h.born b a)).trans (h.bg b a),fun b a=>(k.u b (h.born b a)).trans (h.u b a),fun b a=>(k.ext b (h.born b a)).trans (h.ext b a)⟩
def Env.ob(a:Env)(r b:Nat):Prop:=a.born r/\a.to r=(b,0)
theorem Env.Le.ob{a b:Env}(h:a.Le b){r c:Nat}(k:a.ob r c):b.ob r c:=⟨h.born _ k.1,(h.to _ k.1).trans k.2⟩
inductive Uz(ρ:Env):Fn->Fn->Prop
 |func (f:FuncId):Uz ρ (.func f) (.func f)
 |method (n:String):Uz ρ (.method n) (.method n)
 |methodOf (t:TypeId) (n:String):Uz ρ (.methodOf t n) (.methodOf t n)
 |via (t:TypeId) (p:Array FieldStep) (f:FuncId) (x:Bool):Uz ρ (.via t p f x) (.via t p f x)
 |yield {l l':Nat} (h:ρ.ob l l'):Uz ρ (.yield l) (.yield l')
def AR{c d:Type}(R:c->d->Prop)(a:Array c)(b:Array d):Prop:=a.size=b.size/\∀(i:Nat) x y,a[i]?=some x->b[i]?=some y->R x y
inductive VR(ρ:Env):Value->Value->Prop
 |bool (b:Bool):VR ρ (.bool b) (.bool b)
 |int (k:IntKind) (n:Int):VR ρ (.int k n) (.int k n)
 |string (s:ByteArray):VR ρ (.string s) (.string s)
 |gG:VR ρ (.pointer none) (.pointer none)
 |ptr {a:Addr} (h:ρ.born a.block):VR ρ (.pointer (some a)) (.pointer (some (ρ.addr a)))
 |nilslice (n c:Nat):VR ρ (.slice none n c) (.slice none n c)
 |slice {a:Addr} {n c c':Nat} (h:ρ.born a.block) (hc:c'=c∨(ρ.bg a.block/\c<=c'/\a.off+c'*ρ.u a.block<=ρ.ext a.block)):VR ρ (.slice (some a) n c) (.slice (some (ρ.addr a)) n c')
 |dO:VR ρ (.map none) (.map none)
 |map {r r':Nat} (h:ρ.ob r r'):VR ρ (.map (some r)) (.map (some r'))
 |eH:VR ρ (.chan none) (.chan none)
 |chan {r r':Nat} (h:ρ.ob r r'):VR ρ (.chan (some r)) (.chan (some r'))
 |nilFunc:VR ρ .nilFunc .nilFunc
 |func {f f':Fn} {a a' b b':Array Value} (hf:Uz ρ f f') (hs:a.size=a'.size) (h:∀(i:Nat) x y,a[i]?=some x->a'[i]?=some y->VR ρ x y) (ks:b.size=b'.size) (k:∀(i:Nat) x y,b[i]?=some x->b'[i]?=some y->VR ρ x y):VR ρ (.func f a b) (.func f' a' b')
 |nilIface:VR ρ .nilIface .nilIface
 |iface {t:TypeId} {v v':Value} (h:VR ρ v v'):VR ρ (.iface t v) (.iface t v')
 |agg {a a':Array Value} (hs:a.size=a'.size) (h:∀(i:Nat) x y,a[i]?=some x->a'[i]?=some y->VR ρ x y):VR ρ (.agg a) (.agg a')
 |tuple {a a':Array Value} (hs:a.size=a'.size) (h:∀(i:Nat) x y,a[i]?=some x->a'[i]?=some y->VR ρ x y):VR ρ (.tuple a) (.tuple a')
theorem Env.Le.addr{b c:Env}(h:b.Le c){a:Addr}(k:b.born a.block):c.addr a=b.addr a:=by simp only[Env.addr,h.to _ k]
theorem Uz.mono{ρ a:Env}(h:ρ.Le a){f b:Fn}(k:Uz ρ f b):Uz a f b:=by
 cases k with
 |yield k=>exact .yield (h.ob k)
 |func f=>exact .func f
 |method n=>exact .method n
 |methodOf t n=>exact .methodOf t n
 |via t p f x=>exact .via t p f x
theorem VR.mono{ρ e:Env}(h:ρ.Le e){v v':Value}(k:VR ρ v v'):VR e v v':=by
 induction k with
 |bool b=>exact .bool b
 |int k n=>exact .int k n
 |string s=>exact .string s
 |gG=>exact .gG
 |ptr k=>rw[←h.addr k];exact .ptr (h.born _ k)
 |nilslice n c=>exact .nilslice n c
 |slice k l=>rw[←h.addr k];refine .slice (h.born _ k) (l.imp id fun⟨x,y,z⟩=>⟨(h.bg _ k).2 x,y,?_⟩);rw[h.u _ k,h.ext _ k];exact z
 |dO=>exact .dO
 |map k=>exact .map (h.ob k)
 |eH=>exact .eH
 |chan k=>exact .chan (h.ob k)
 |nilFunc=>exact .nilFunc
 |func m d _ o _ a p=>exact .func (m.mono h) d a o p
 |nilIface=>exact .nilIface
 |iface _ a=>exact .iface a
 |agg d _ a=>exact .agg d a
 |tuple d _ a=>exact .tuple d a
theorem AR.mono{c d:Type}{R S:c->d->Prop}(h:∀x y,R x y->S x y){a:Array c}{b:Array d}(k:AR R a b):AR S a b:=⟨k.1,fun i x y e f=>h x y (k.2 i x y e f)⟩
def vO:Env:={to:=fun _=>(0,0),born:=fun _=>False,bg:=fun _=>False,u:=fun _=>0,ext:=fun _=>0}
structure ig(ρ:Env)(e e':MapEntry):Prop where
 plain:VR vO e.key e.key
 key:e'.key=e.key
 val:VR ρ e.val e'.val
 born:e'.born=e.born
inductive TgR(ρ:Env):Target->Target->Prop
 |collected {r r':Nat} (h:ρ.ob r r'):TgR ρ (.collected r) (.collected r')
 |fn {f f':Fn} {c c':Array Value} (hf:Uz ρ f f') (hc:AR (VR ρ) c c'):TgR ρ (.fn f c) (.fn f' c')
structure DR(ρ:Env)(d d':Deferred):Prop where
 target:TgR ρ d.target d'.target
 args:AR (VR ρ) d.args d'.args
inductive LR{α β:Type}(R:α->β->Prop):List α->List β->Prop
 |nil:LR R [] []
 |cons {x y l m} (h:R x y) (k:LR R l m):LR R (x::l) (y::m)
theorem LR.mono{c d:Type}{R S:c->d->Prop}(h:∀x y,R x y->S x y){a:List c}{b:List d}(k:LR R a b):LR S a b:=by
 induction k with
 |nil=>exact .nil
 |cons x _ e=>exact .cons (h _ _ x) e
inductive gu{α β:Type}(R:α->β->Prop):Option α->Option β->Prop
 |none:gu R none none
 |some {x y} (h:R x y):gu R (some x) (some y)
structure adf(ρ:Env)(l l':Loop):Prop where
 state:l'.state=l.state
 pending:l'.pending=l.pending
 fn:l'.fn=l.fn
 tmps:AR (VR ρ) l.tmps l'.tmps
 params:l'.params=l.params
 assign:l'.assign=l.assign
 body:l'.body=l.body
 defers:ρ.ob l.defers l'.defers
inductive OR(ρ:Env):Obj->Obj->Prop
 |map {es es':Array MapEntry} {k:Nat} (h:AR (ig ρ) es es'):OR ρ (.map es k) (.map es' k)
 |stringIter (s:ByteArray) (p:Nat):OR ρ (.stringIter s p) (.stringIter s p)
 |mapIter {m m':Option Nat} {a:Nat} {s:Array Nat} {b:Nat} (h:gu ρ.ob m m'):OR ρ (.mapIter m a s b) (.mapIter m' a s b)
 |loop {l l':Loop} (h:adf ρ l l'):OR ρ (.loop l) (.loop l')
 |taken:OR ρ (.deferred none) (.deferred none)
 |deferred {ds ds':List Deferred} (h:LR (DR ρ) ds ds'):OR ρ (.deferred (some ds)) (.deferred (some ds'))
theorem ig.mono{ρ a:Env}(h:ρ.Le a){e b:MapEntry}(k:ig ρ e b):ig a e b:=⟨k.plain,k.key,k.val.mono h,k.born⟩
theorem DR.mono{ρ c:Env}(h:ρ.Le c){e b:Deferred}(k:DR ρ e b):DR c e b:=by
 obtain⟨a,d⟩:=k
 refine⟨?_,d.mono fun _ _ x=>x.mono h⟩;revert a;intro a;cases e;cases b;dsimp only at a⊢;cases a with
 |collected k=>exact .collected (h.ob k)
 |fn f g=>exact .fn (f.mono h) (g.mono fun _ _ x=>x.mono h)
theorem OR.mono{ρ a:Env}(h:ρ.Le a){o o':Obj}(k:OR ρ o o'):OR a o o':=by
 cases k with
 |map k=>exact .map (k.mono fun _ _ x=>x.mono h)
 |stringIter s p=>exact .stringIter s p
 |mapIter k=>exact .mapIter (by cases k with|none=>exact .none|some x=>exact .some (h.ob x))
 |loop k=>exact .loop ⟨k.state,k.pending,k.fn,k.tmps.mono fun _ _ x=>x.mono h,k.params,k.assign,k.body,h.ob k.defers⟩
 |taken=>exact .taken
 |deferred k=>exact .deferred (k.mono fun _ _ x=>x.mono h)
end Go.Am
namespace Go.Am
open Go.Ren (grow gU aT aB)
theorem Bq{B:cZ}(h:B.ro=false):¬B.Xc:=fun k=>by rw[k.2.1]at h;cases h
def AH.upTo(h:AH)(a:Env)(b:Nat)(n:Nat):Prop:=∃B c e f,h.tr.get b=some B/\B.obj=.cells c e f/\n=(a.to b).2+c.size
structure Rel(ρ:Env)(O D:Nat->Prop)(h:AH)(w:World):Prop where
 cells:∀b B c e f,ρ.born b->h.look b=some B->B.obj=.cells c e f->∃C E g,w.heap[(ρ.to b).1]?=some (.cells C E g)/\(ρ.to b).2+ρ.ext b<=C.size/\c.size<=ρ.ext b/\(¬B.Xc->g=(0,0))/\
  ∀(i:Nat) v,c[i]?=some v->∃v',C[(ρ.to b).2+i]?=some v'/\VR ρ v v'
 obj:∀b B,ρ.born b->h.look b=some B->(∀c e f,B.obj≠.cells c e f)->(ρ.to b).2=0/\∃o',w.heap[(ρ.to b).1]?=some o'/\OR ρ B.obj o'
 own:∀b B,ρ.born b->h.look b=some B->(B.ro=false->O (ρ.to b).1)/\(O (ρ.to b).1∨D (ρ.to b).1)
 sep:∀b b' B B',ρ.born b->ρ.born b'->h.look b=some B->h.look b'=some B'->b≠b'->(ρ.to b).1=(ρ.to b').1->(∃f,B.gB=some f/\B'.gB=some f)∨(B.Xc/\B'.Xc)
 fresh:∀b,ρ.born b->b<h.n
 low:∀b,ρ.born b->(ρ.to b).1<w.heap.size
 bg:∀b B,ρ.born b->h.look b=some B->(ρ.bg b↔B.gB≠none)/\(B.gB≠none->ρ.u b=B.u)
 row:∀f l,h.dn.get f=some l->l.Pairwise fun b b'=>ρ.born b->ρ.born b'->(ρ.to b).1=(ρ.to b').1->∀n n',h.upTo ρ b n->h.upTo ρ b' n'->n<=n'
 mem:∀f l,h.dn.get f=some l->∀b,b∈l->b<h.n/\∃B,h.tr.get b=some B/\B.gB=some f
theorem abd{o:Obj}(h:∀c e f,o≠.cells c e f):∀{a:Type} (x:Array Value->TypeId->Nat×Nat->a) (y:a),(match o with|.cells c e f=>x c e f|_=>y)=y:=by
 intro a x y;cases o<;>first|rfl|exact absurd rfl (h _ _ _)
theorem OR.ji{a:Env}{o o':Obj}(h:OR a o o'):(∀c e f,o≠.cells c e f)/\∀c e f,o'≠.cells c e f:=by
 cases h<;>exact⟨fun _ _ _ h=>(by cases h),fun _ _ _ h=>(by cases h)⟩
theorem gy{h:AH}{b:Nat}{B:cZ}(k:h.look b=some B):h.tr.get b=some B:=by
 unfold AH.look at k;split at k
 ·cases k
 ·rename_i c a;split at k
  ·cases k;exact a
  ·split at k
   ·cases k;exact a
   ·cases k
theorem rZ{h:AH}{b f:Nat}{B:cZ}(k:h.look b=some B)(a:B.gB=some f):b∈(h.dn.get f).getD []:=by
 have c:=gy k
 unfold AH.look at k;rw[c]at k;dsimp only at k;rw[a]at k;dsimp only at k;split at k
 ·rename_i d;simpa using d
 ·cases k
section
variable{P:Program}{ρ σ:Env}{O O' D:Nat->Prop}{h d:AH}{w w':World}{X:Event->Prop}
theorem Rel.mono(r:Rel ρ O D h w)(a:∀b,O b->O' b):Rel ρ O' D h w:=
 ⟨r.cells,r.obj,fun b B c e=>⟨fun x=>a _ ((r.own b B c e).1 x),(r.own b B c e).2.imp (a _) id⟩,r.sep,r.fresh,r.low,r.bg,r.row,r.mem⟩
theorem Rel.rely(r:Rel ρ O D h w)(k:aB O D w w'):Rel ρ O D h w':=by
 have i:∀b B,ρ.born b->h.look b=some B->w'.heap[(ρ.to b).1]?=w.heap[(ρ.to b).1]?:=fun b B i g=>(r.own b B i g).2.elim (k.own _) (k.ro _);refine⟨fun b B c e f a g j=>?_,fun b B a g j=>?_,r.own,r.sep,r.fresh,fun b a=>Nat.lt_of_lt_of_le (r.low b a) k.size,r.bg,r.row,r.mem⟩
 ·rw[i b B a g];exact r.cells b B c e f a g j
 ·rw[i b B a g];exact r.obj b B a g j
theorem uC{l:Loc}{s:Bool}(b:match l with|.cell a=>O a.block∨D a.block|.obj r=>O r∨D r|_=>False):aT X O D w w #[⟨l,false,s⟩]:=by
 refine⟨Nat.le_refl _,fun _ _ _=>rfl,rfl,rfl,rfl,fun e c=>?_⟩;simp only[List.mem_toArray,List.mem_singleton]at c;subst c;right;cases l with
 |cell a=>exact b.imp .inl fun x=>⟨x,rfl⟩
 |obj r=>exact b.imp .inl fun x=>⟨x,rfl⟩
 |_=>exact b.elim
theorem Rel.load(r:Rel ρ O D h w){a:Addr}{v:Value}(j:ρ.born a.block)(b:h.cell a=some v):∃i,w.cell? (ρ.addr a)=some i/\VR ρ v i/\(O (ρ.addr a).block∨D (ρ.addr a).block):=by
 unfold AH.cell at b;split at b
 ·rename_i c e f l s u m k;obtain⟨C,E,g,n,t,x,y,o⟩:=r.cells _ _ c e f j k rfl
  obtain⟨i,p,q⟩:=o _ _ b
  refine⟨i,?_,q,(r.own _ _ j k).2⟩;unfold World.cell? Env.addr;dsimp only
  rw[n];dsimp only
  rw[m];simpa using p
 ·cases b
theorem Nj(b:Nat)(B:cZ)(o:Obj)(a:Nat):(h.put b B o).tr.get a=if a=b then some {B with obj:=o}else h.tr.get a:=by
 simp only[AH.put,Tr.dW]
theorem wY(b:Nat)(B:cZ)(o:Obj)(f:Nat):(h.put b B o).dn.get f=if B.gB=some f then some [b]else h.dn.get f:=by
 unfold AH.put;cases c:B.gB with
 |none=>simp
 |some a=>
  simp only[Tr.dW,Option.some.injEq]
  by_cases e:f=a
  ·subst e;simp
  ·rw[if_neg e,if_neg (fun x=>e x.symm)]
theorem J8{b:Nat}{B:cZ}{o:Obj}(n:h.look b=some B)(c:Nat)(g:cZ)(k:(h.put b B o).look c=some g):
  (c=b/\g={B with obj:=o})∨(c≠b/\h.look c=some g/\∀f,g.gB=some f->B.gB≠some f):=by
 have i:=gy k
 rw[Nj]at i;by_cases e:c=b
 ·subst e;rw[if_pos rfl]at i;cases i;exact .inl ⟨rfl,rfl⟩
 ·rw[if_neg e]at i;right;refine⟨e,?_,fun f l j=>?_⟩
  ·unfold AH.look;rw[i];dsimp only
   cases l:g.gB with
   |none=>rfl
   |some f=>
    dsimp only
    have a:=rZ k l
    rw[wY]at a;by_cases j:B.gB=some f
    ·rw[if_pos j]at a;simp at a;exact absurd a e
    ·rw[if_neg j]at a;rw[if_pos (by simpa using a)]
  ·have a:=rZ k l
   rw[wY,if_pos j]at a;simp at a;exact e a
theorem J9{b:Nat}{B:cZ}{o:Obj}(p:h.look b=some B)(q:∀c e f,o=.cells c e f->∃i a j,B.obj=.cells i a j/\i.size=c.size)(l n:Nat)(k:(h.put b B o).upTo ρ l n):h.upTo ρ l n:=by
 obtain⟨r,c,e,f,g,m,s⟩:=k
 rw[Nj]at g;by_cases a:l=b
 ·subst a;rw[if_pos rfl]at g;cases g;obtain⟨i,a,j,t,u⟩:=q c e f m
  exact⟨B,i,a,j,gy p,t,by omega⟩
 ·rw[if_neg a]at g;exact⟨r,c,e,f,g,m,s⟩
theorem Rel.put(r:Rel ρ O D h w){b:Nat}{B:cZ}{o:Obj}(hb:ρ.born b)(M:h.look b=some B)(T:B.ro=false)(ho:∀c e f,o=.cells c e f->∃c' s f',B.obj=.cells c' s f'/\c'.size=c.size)
  (hw:∀c,c≠(ρ.to b).1->w'.heap[c]?=w.heap[c]?) (hs:w'.heap.size=w.heap.size)
  (hc:∀c e f,o=.cells c e f->∃C E g,w'.heap[(ρ.to b).1]?=some (.cells C E g)/\(ρ.to b).2+ρ.ext b<=C.size/\c.size<=ρ.ext b/\(True->g=(0,0))/\∀(i:Nat) v,c[i]?=some v->∃v',C[(ρ.to b).2+i]?=some v'/\VR ρ v v')
  (hn:b<h.n) (R:(∀c e f,o≠.cells c e f)->(ρ.to b).2=0/\∃o',w'.heap[(ρ.to b).1]?=some o'/\OR ρ o o'):Rel ρ O D (h.put b B o) w':=by
 have other:∀j m,ρ.born j->(h.put b B o).look j=some m->j≠b->h.look j=some m/\(ρ.to j).1≠(ρ.to b).1:=by
  intro j m a k A;rcases J8 M j m k with⟨x,_⟩|⟨_,u,N⟩
  ·exact absurd x A
  ·refine⟨u,fun e=>?_⟩;rcases r.sep j b m B a hb u M A e with⟨f,z,U⟩|⟨_,_,hx,_⟩
   ·exact N f z U
   ·rw[T]at hx;cases hx
 have q:∀m,(h.put b B o).look b=some m->m={B with obj:=o}:=by
  intro m k;rcases J8 M b m k with⟨_,u⟩|⟨L,_⟩
  ·exact u
  ·exact absurd rfl L
 refine⟨fun j m c e f a k p=>?_,fun j m a k p=>?_,fun j m a k=>?_,fun F y H J L u l1 l2 A t=>?_,r.fresh,fun j a=>hs▸r.low j a,fun j m a k=>?_,fun f l z=>?_,fun f l z j W=>?_⟩
 ·by_cases s:j=b
  ·subst s;have:=q m k
   subst this;obtain⟨C,E,g,Y,Z,k3,k4,k5⟩:=hc c e f p
   exact⟨C,E,g,Y,Z,k3,fun _=>k4 trivial,k5⟩
  ·obtain⟨L,u⟩:=other j m a k s
   rw[hw _ u];exact r.cells j m c e f a L p
 ·by_cases s:j=b
  ·subst s;have:=q m k
   subst this;exact R p
  ·obtain⟨L,u⟩:=other j m a k s
   rw[hw _ u];exact r.obj j m a L p
 ·by_cases s:j=b
  ·subst s;have:=q m k
   subst this;exact r.own j B a M
  ·exact r.own j m a (other j m a k s).1
 ·by_cases e1:F=b
  ·subst e1;have:=q H l1
   subst this;obtain⟨_,N⟩:=other y J u l2 (Ne.symm A)
   exact absurd t.symm N
  ·obtain⟨a0,N⟩:=other F H L l1 e1
   by_cases e2:y=b
   ·subst e2;exact absurd t N
   ·exact r.sep F y H J L u a0 (other y J u l2 e2).1 A t
 ·by_cases s:j=b
  ·subst s;have:=q m k
   subst this;exact r.bg j B a M
  ·exact r.bg j m a (other j m a k s).1
 ·rw[wY]at z;by_cases Q:B.gB=some f
  ·rw[if_pos Q]at z;cases z;exact List.pairwise_singleton _ _
  ·rw[if_neg Q]at z;exact(r.row f l z).imp fun hp L u N n n' Y Z=>hp L u N n n' (J9 M ho _ _ Y) (J9 M ho _ _ Z)
 ·rw[wY]at z;rw[Nj];by_cases Q:B.gB=some f
  ·rw[if_pos Q]at z;cases z;simp only[List.mem_singleton]at W;subst W;exact⟨hn,{B with obj:=o},by rw[if_pos rfl],Q⟩
  ·rw[if_neg Q]at z;obtain⟨m1,m,m2,m3⟩:=r.mem f l z j W
   have s:j≠b:=fun x=>by subst x;rw[gy M]at m2;cases m2;exact Q m3
   exact⟨m1,m,by rw[if_neg s];exact m2,m3⟩
theorem Rel.store(r:Rel ρ O D h w){a:Addr}{v l:Value}(H:ρ.born a.block)(j:h.setCell a v=some d)(T:VR ρ v l):
  ∃u,w.cell? (ρ.addr a)=some u/\w.frozen? (ρ.addr a)=false/\Rel ρ O D d (w.setCell (ρ.addr a) l)/\O (ρ.addr a).block:=by
 unfold AH.setCell at j;split at j;rotate_left
 ·cases j
 rename_i B N J;split at j;rotate_left
 ·cases j
 rename_i c e f k m;split at j;rotate_left
 ·cases j
 rename_i p;cases j;obtain⟨C,E,g,L,U,V,W,Q⟩:=r.cells _ _ c e f H J k
 have Y:=W (Bq m)
 subst Y;obtain⟨u,Z,_⟩:=Q a.off c[a.off] (by simp[p])
 have hO:=(r.own _ _ H J).1 m;have q:(ρ.to a.block).2+a.off<C.size:=by omega
 refine⟨u,?_,?_,?_,hO⟩
 ·unfold World.cell? Env.addr;dsimp only;rw[L];dsimp only;rw[N];simpa using Z
 ·unfold World.frozen? Env.addr;dsimp only;rw[L];simp
 ·have b:(w.setCell (ρ.addr a) l).heap=w.heap.modify (ρ.to a.block).1 fun
    | .cells c s frozen=>.cells (if(ρ.addr a).spot.isSome then c else c.setIfInBounds ((ρ.to a.block).2+a.off) l) s frozen
    |o=>o:=rfl
  have n:(w.setCell (ρ.addr a) l).heap[(ρ.to a.block).1]?=some (.cells (C.setIfInBounds ((ρ.to a.block).2+a.off) l) E (0,0)):=by rw[b,Array.getElem?_modify,if_pos rfl,L];simp[Env.addr,N]
  refine r.put H J m (fun t z A x=>⟨c,e,f,k,by cases x;simp⟩) (fun c j=>?_) (by rw[b];simp) (fun t z A x=>?_) (r.fresh _ H) (fun x=>absurd rfl (x _ _ _))
  ·rw[b,Array.getElem?_modify,if_neg (Ne.symm j)]
  ·cases x;refine⟨_,E,(0,0),n,by simpa using U,by simpa using V,fun _=>rfl,fun i x F=>?_⟩;rw[Array.getElem?_setIfInBounds]at F;rw[Array.getElem?_setIfInBounds];by_cases R:a.off=i
   ·subst R;rw[if_pos rfl,if_pos p]at F;cases F;exact⟨l,by rw[if_pos rfl,if_pos q],T⟩
   ·rw[if_neg R]at F;obtain⟨y,hy,M⟩:=Q i x F
    exact⟨y,by rw[if_neg (by omega)];exact hy,M⟩
end
end Go.Am
namespace Go.Am
open Go.Ren (grow gU aT aB)
def Env.add(ρ:Env)(b:Nat)(t:Nat×Nat)(sl:Prop)(u ext:Nat):Env where
 to x:=if x=b then t else ρ.to x
 born x:=x=b∨ρ.born x
 bg x:=if x=b then sl else ρ.bg x
 u x:=if x=b then u else ρ.u x
 ext x:=if x=b then ext else ρ.ext x
section
variable{P:Program}{a σ:Env}{O O' D:Nat->Prop}{h h':AH}{w w':World}{X:Event->Prop}{b:Nat}{t:Nat×Nat}{sl:Prop}{u ext:Nat}
theorem Env.jA(d:¬a.born b):a.Le (a.add b t sl u ext):=by
 have ne:∀x,a.born x->x≠b:=fun x c e=>d (e▸c)
 refine⟨fun x c=>.inr c,fun x c=>?_,fun x c=>?_,fun x c=>?_,fun x c=>?_⟩;all_goals (simp only[Env.add];rw[if_neg (ne x c)])
theorem dA:(a.add b t sl u ext).to b=t:=by simp[Env.add]
theorem ax{x:Nat}(c:x≠b):(a.add b t sl u ext).to x=a.to x:=by simp[Env.add,c]
theorem qE{x:Nat}(c:x≠b):(a.add b t sl u ext).ext x=a.ext x:=by simp[Env.add,c]
theorem uD:(a.add b t sl u ext).ext b=ext:=by simp[Env.add]
theorem ni{x:Nat}(c:x≠b):(a.add b t sl u ext).bg x↔a.bg x:=by simp[Env.add,c]
theorem wZ{x:Nat}(c:x≠b):(a.add b t sl u ext).u x=a.u x:=by simp[Env.add,c]
theorem Ko:(a.add b t sl u ext).u b=u:=by simp[Env.add]
theorem nM:(a.add b t sl u ext).bg b↔sl:=by simp[Env.add]
inductive Xd(a:Env):Obj->Obj->Prop
 |cells {c c':Array Value} {e e':TypeId} (h:AR (VR a) c c'):Xd a (.cells c e (0,0)) (.cells c' e' (0,0))
 |obj {o o':Obj} (h:OR a o o'):Xd a o o'
def su:Obj->Nat
 | .cells c _ _=>c.size
 |_=>0
theorem Cb(o:Obj)(c:Nat):(h.new o).tr.get c=if c=h.n then some ⟨o,none,false,0⟩else h.tr.get c:=by simp only[AH.new,Tr.dW]
theorem jR{o:Obj}{c:Nat}(d:c≠h.n):(h.new o).look c=h.look c:=by
 unfold AH.look;rw[Cb,if_neg d];rfl
theorem Kq(o:Obj):(h.new o).look h.n=some ⟨o,none,false,0⟩:=by
 unfold AH.look;rw[Cb,if_pos rfl]
theorem Rel.push(r:Rel a O D h w)(o:Obj):Rel a O D (h.new o) w:=by
 have ne:∀x,a.born x->x≠h.n:=fun x z e=>by have:=r.fresh x z;omega
 refine⟨fun b B c e f d i=>?_,fun b B d i=>?_,fun b B d i=>?_,fun b s B A d j i k=>?_,fun b d=>Nat.lt_succ_of_lt (r.fresh b d),r.low,fun b B d i=>?_,fun f l p=>?_,fun f l p b C=>?_⟩
 ·rw[jR (ne b d)]at i;exact r.cells b B c e f d i
 ·rw[jR (ne b d)]at i;exact r.obj b B d i
 ·rw[jR (ne b d)]at i;exact r.own b B d i
 ·rw[jR (ne b d)]at i;rw[jR (ne s j)]at k;exact r.sep b s B A d j i k
 ·rw[jR (ne b d)]at i;exact r.bg b B d i
 ·refine(r.row f l p).imp fun E v y F n H J L=>E v y F n H ?_ ?_
  ·obtain⟨B,c,e,g,m,q⟩:=J;rw[Cb,if_neg (ne _ v)]at m;exact⟨B,c,e,g,m,q⟩
  ·obtain⟨B,c,e,g,m,q⟩:=L;rw[Cb,if_neg (ne _ y)]at m;exact⟨B,c,e,g,m,q⟩
 ·obtain⟨M,B,N,Q⟩:=r.mem f l p b C
  exact⟨Nat.lt_succ_of_lt M,B,by rw[Cb,if_neg (by omega)];exact N,Q⟩
theorem Rel.birth(r:Rel a O D h w){o o':Obj}(hb:¬a.born b)(hn:b<h.n)(W:h.look b=some ⟨o,none,false,0⟩)(ho:Xd a o o'):
  Rel (a.add b (w.heap.size,0) False 1 (su o)) (grow O w {w with heap:=w.heap.push o'}) D h {w with heap:=w.heap.push o'}:=by
 have F:=Env.jA (t:=(w.heap.size,0)) (sl:=False) (u:=1) (ext:=su o) hb
 have j:∀x,x≠b->(a.add b (w.heap.size,0) False 1 (su o)).born x->a.born x:=fun x p h=>h.resolve_left p
 have s:∀c,c<w.heap.size->(w.heap.push o')[c]?=w.heap[c]?:=fun c hc=>by rw[Array.getElem?_push,if_neg (by omega)]
 have A:(w.heap.push o')[w.heap.size]?=some o':=by rw[Array.getElem?_push,if_pos rfl]
 refine⟨fun x B c e f p q k=>?_,fun x B p q k=>?_,fun x B p q=>?_,fun x y B B' p hy q Z J N=>?_,fun x p=>?_,fun x p=>?_,fun x B p q=>?_,fun f l hf=>?_,r.mem⟩
 ·by_cases d:x=b
  ·subst d;rw[W]at q;cases q;dsimp only at k;subst k;rw[dA,uD];cases ho with
   | @cells _ c' _ d h=>
    refine⟨c',d,(0,0),A,by simp only[su];rw[h.1];omega,Nat.le_refl _,fun _=>rfl,fun i v Y=>?_⟩;have hi:i<c.size:=(Array.getElem?_eq_some_iff.1 Y).1;have R:i<c'.size:=h.1▸hi
    exact⟨c'[i],by simp[R],(h.2 i _ _ Y (by simp[R])).mono F⟩
   |obj h=>exact absurd rfl (h.ji.1 _ _ _)
  ·have m:=j x d p
   rw[ax d,qE d];obtain⟨C,E,g,L,M,Q,h4,h5⟩:=r.cells x B c e f m q k
   refine⟨C,E,g,?_,M,Q,h4,fun i v Y=>?_⟩
   ·rw[s _ (r.low x m)];exact L
   ·obtain⟨v',h6,h7⟩:=h5 i v Y;exact⟨v',h6,h7.mono F⟩
 ·by_cases d:x=b
  ·subst d;rw[W]at q;cases q;dsimp only at k;rw[dA];refine⟨rfl,o',A,?_⟩;cases ho with
   |cells h=>exact absurd rfl (k _ _ _)
   |obj h=>exact h.mono F
  ·have m:=j x d p
   rw[ax d];obtain⟨L,T,M,Q⟩:=r.obj x B m q k
   exact⟨L,T,by rw[s _ (r.low x m)];exact M,Q.mono F⟩
 ·by_cases d:x=b
  ·subst d;rw[dA];have:grow O w {w with heap:=w.heap.push o'} w.heap.size:=.inr ⟨Nat.le_refl _,by simp⟩;exact⟨fun _=>this,.inl this⟩
  ·have m:=j x d p
   rw[ax d];obtain⟨L,M⟩:=r.own x B m q
   exact⟨fun z=>.inl (L z),M.imp .inl id⟩
 ·by_cases U:x=b
  ·subst U;have a1:=j y (Ne.symm J) hy
   rw[dA,ax (Ne.symm J)]at N;have:=r.low y a1
   rw[←N]at this;exact absurd this (Nat.lt_irrefl _)
  ·by_cases e2:y=b
   ·subst e2;have m:=j x U p
    rw[dA,ax U]at N;have:=r.low x m
    rw[N]at this;exact absurd this (Nat.lt_irrefl _)
   ·rw[ax U,ax e2]at N;exact r.sep x y B B' (j x U p) (j y e2 hy) q Z J N
 ·by_cases d:x=b
  ·subst d;exact hn
  ·exact r.fresh x (j x d p)
 ·by_cases d:x=b
  ·subst d;rw[dA];simp
  ·rw[ax d];have:=r.low x (j x d p)
   simp only[Array.size_push]
   omega
 ·by_cases d:x=b
  ·subst d;rw[W]at q;cases q;rw[nM];simp
  ·rw[ni d,wZ d];exact r.bg x B (j x d p) q
 ·refine List.Pairwise.imp_of_mem (fun{x y} a2 a3 hp L M Q n n' k1 k2=>?_) (r.row f l hf);have nx:∀z,z∈l->z≠b:=fun z hz e=>by
   obtain⟨_,B,m2,m3⟩:=r.mem f l hf z hz
   subst e;rw[gy W]at m2;cases m2;cases m3
  have ex:=nx x a2
  have ey:=nx y a3
  rw[ax ex,ax ey]at Q;refine hp (j x ex L) (j y ey M) Q n n' ?_ ?_
  ·obtain⟨B,c,e,g,z1,z2,V⟩:=k1;rw[ax ex]at V;exact⟨B,c,e,g,z1,z2,V⟩
  ·obtain⟨B,c,e,g,z1,z2,V⟩:=k2;rw[ax ey]at V;exact⟨B,c,e,g,z1,z2,V⟩
theorem pX(o:Obj):aT X O D w {w with heap:=w.heap.push o} #[]:=
 ⟨by simp,fun c g _=>by rw[Array.getElem?_push,if_neg (by omega)],rfl,rfl,rfl,fun e f=>by simp at f⟩
theorem Rel.getObj(r:Rel a O D h w){x y:Nat}{B:cZ}(j:a.ob x y)(d:h.look x=some B)(k:∀c e f,B.obj≠.cells c e f):∃o',w.heap[y]?=some o'/\OR a B.obj o'/\(O y∨D y):=by
 obtain⟨g,l⟩:=j
 obtain⟨_,o',i,m⟩:=r.obj x B g d k
 have:=(r.own x B g d).2;rw[l]at i this;exact⟨o',i,m,this⟩
theorem Rel.setObj(r:Rel a O D h w){x y:Nat}{B:cZ}{o o':Obj}(s:a.ob x y)(n:h.look x=some B)(v:∀c e f,B.obj≠.cells c e f)(g:B.ro=false)(l:OR a o o'):
  Rel a O D (h.put x B o) {w with heap:=w.heap.setIfInBounds y o'}/\O y:=by
 obtain⟨j,k⟩:=s
 have q:=(r.own x B j n).1 g;have d:=r.low x j
 rw[k]at q d;refine⟨r.put j n g (fun c e f m=>absurd m (l.ji.1 _ _ _)) (fun c i=>?_) (by simp) (fun c e f m=>absurd m (l.ji.1 _ _ _)) (r.fresh x j) (fun _=>⟨by rw[k],o',?_,l⟩),q⟩
 ·rw[k]at i;rw[Array.getElem?_setIfInBounds,if_neg (Ne.symm i)]
 ·rw[k,Array.getElem?_setIfInBounds,if_pos rfl,if_pos d]
end
inductive SR(P:Program){α β:Type}(R:Env->α->β->Prop):Env->Sem α->Sem β->Prop
 |pure {ρ:Env} {a b} (h:R ρ a b):SR P R ρ (.pure a) (.pure b)
 |load {ρ:Env} {m a k k'} (ha:ρ.born a.block) (h:∀v v',VR ρ v v'->SR P R ρ (k v) (k' v')):SR P R ρ (.load m a k) (.load m (ρ.addr a) k')
 |store {ρ:Env} {m a v v' k k'} (ha:ρ.born a.block) (hv:VR ρ v v') (h:SR P R ρ k k'):SR P R ρ (.store m a v k) (.store m (ρ.addr a) v' k')
 |new {ρ:Env} {o o' k k'} (ho:Xd ρ o o') (h:∀σ:Env,ρ.Le σ->∀r r',σ.ob r r'->SR P R σ (k r) (k' r')):SR P R ρ (.new o k) (.new o' k')
 |shape {ρ:Env} {r r' k k'} (hr:ρ.born r) (hr':r'=(ρ.to r).1) (h:∀e n e' n',SR P R ρ (k (some (e,n))) (k' (some (e',n')))) (h0:SR P R ρ (k none) (k' none)):SR P R ρ (.shape r k) (.shape r' k')
 |getObj {ρ:Env} {r r' k k'} (hr:ρ.ob r r') (h:∀o o',OR ρ o o'->SR P R ρ (k o) (k' o')):SR P R ρ (.getObj r k) (.getObj r' k')
 |setObj {ρ:Env} {r r' o o' k k'} (hr:ρ.ob r r') (ho:OR ρ o o') (h:SR P R ρ k k'):SR P R ρ (.setObj r o k) (.setObj r' o' k')
 |choose {ρ:Env} {q k k'} (h:∀n,SR P R ρ (k n) (k' n)):SR P R ρ (.choose q k) (.choose q k')
 |program {ρ:Env} {k k'} (h:SR P R ρ (k P) (k' P)):SR P R ρ (.program k) (.program k')
 |freeze {ρ:Env} {a n k s'}:SR P R ρ (.freeze a n k) s'
 |frozen {ρ:Env} {a k s'}:SR P R ρ (.frozen a k) s'
 |mark {ρ:Env} {m k s'}:SR P R ρ (.mark m k) s'
 |sys {ρ:Env} {c k s'}:SR P R ρ (.sys c k) s'
 |halt {ρ:Env} {x s'}:SR P R ρ (.halt x) s'
 |dead {ρ:Env} {s s'} (hd:∀c h,s.ar P c h=none):SR P R ρ s s'
theorem xe{P:Program}{p t:Type}(s:Sem p)(f:p->Sem t):∀c h,s.ar P c h=none->(s.bind f).ar P c h=none:=by
 induction s with
 |pure a=>intro c h e;simp only[Sem.ar]at e;cases e
 |load m a k b=>
  intro c h e;rw[Sem.ar.eq_def]at e;simp only[Sem.bind]
  rw[Sem.ar.eq_def];dsimp only at e⊢;split
  ·rename_i v g;rw[g]at e;exact b v _ _ e
  ·rfl
 |store m a v k b=>
  intro c h e;simp only[Sem.bind]
  cases v<;>cases m<;>simp only[Sem.ar]at e⊢;all_goals
   split
   ·rename_i g;rw[g]at e;exact b _ _ e
   ·rfl
 |new o k b=>
  intro c h e;simp only[Sem.bind]
  simp only[Sem.ar]at e⊢;split<;>first|rfl|exact b _ _ _ e
 |shape r k b=>
  intro c h e;simp only[Sem.bind]
  simp only[Sem.ar]at e⊢;split
  ·rename_i g;rw[g]at e;exact b _ _ _ e
  ·rename_i B i g;rw[g]at e;split at e
   ·rename_i d;cases d;exact absurd rfl (i _ _ _ _ _ _)
   ·first|exact b _ _ _ e|(rename_i d;cases d;exact b _ _ _ e)
   ·rename_i d;cases d
  ·rfl
 |getObj r k b=>
  intro c h e;simp only[Sem.bind]
  simp only[Sem.ar]at e⊢;split
  ·rfl
  ·rename_i B i g;rw[g]at e;split at e
   ·rename_i d;cases d;exact absurd rfl (i _ _ _ _ _ _)
   ·first|exact b _ _ _ e|(rename_i d;cases d;exact b _ _ _ e)
   ·rename_i d;cases d
  ·rfl
 |setObj r o k b=>
  intro c h e;simp only[Sem.bind]
  simp only[Sem.ar]at e⊢;split
  ·rfl
  ·rfl
  ·rename_i o _ _ B i g j;split
   ·rfl
   ·rename_i l;refine b _ _ ?_;split at e
    ·rename_i d;cases g.symm.trans d;exact absurd rfl (i _ _ _ _ _ _)
    ·rename_i d;exact absurd rfl (j _ _ _)
    ·rename_i d _;cases g.symm.trans d;rw[if_neg l]at e;exact e
    ·rename_i d _;cases g.symm.trans d
  ·rfl
 |choose q k b=>
  intro c h e;simp only[Sem.bind]
  rw[Sem.ar.eq_def]at e⊢;dsimp only at e⊢;split
  ·rename_i n;rw[if_pos n]at e;exact b _ _ _ e
  ·rename_i n;rw[if_neg n]at e;split
   ·exact b _ _ _ e
   ·rfl
 |program k b=>intro c h e;exact b _ _ _ e
 |_=>intro c h e;rfl
section
variable{P:Program}{g d:Env}
theorem SR.bind{p q z A:Type}{R:Env->p->q->Prop}{Q:Env->z->A->Prop}{s:Sem p}{s':Sem q}{f:p->Sem z}{B:q->Sem A}(h:SR P R g s s')
  (j:∀d:Env,g.Le d->∀a b,R d a b->SR P Q d (f a) (B b)):SR P Q g (s.bind f) (s'.bind B):=by
 induction h with
 |pure h=>exact j _ (.refl _) _ _ h
 |load t _ i=>exact .load t fun v E u=>i v E u j
 |store t u _ i=>exact .store t u (i j)
 |new l _ i=>exact .new l fun d m r F k=>i d m r F k fun H w=>j H (m.trans w)
 |shape k x _ _ i y=>exact .shape k x (fun e n J L=>i e n J L j) (y j)
 |getObj k _ i=>exact .getObj k fun o M l=>i o M l j
 |setObj k l _ i=>exact .setObj k l (i j)
 |choose _ i=>exact .choose fun n=>i n j
 |program _ i=>exact .program (i j)
 |freeze=>exact .freeze
 |frozen=>exact .frozen
 |mark=>exact .mark
 |sys=>exact .sys
 |halt=>exact .halt
 |dead hd=>exact .dead fun c h=>xe _ _ _ _ (hd c h)
theorem SR.imp{u w:Type}{R Q:Env->u->w->Prop}{s:Sem u}{s':Sem w}(h:SR P R g s s')(f:∀d:Env,g.Le d->∀a b,R d a b->Q d a b):SR P Q g s s':=by
 induction h with
 |pure h=>exact .pure (f _ (.refl _) _ _ h)
 |load l _ c=>exact .load l fun v z m=>c v z m f
 |store l m _ c=>exact .store l m (c f)
 |new j _ c=>exact .new j fun d k r A i=>c d k r A i fun B p=>f B (k.trans p)
 |shape i q _ _ c t=>exact .shape i q (fun e n C D=>c e n C D f) (t f)
 |getObj i _ c=>exact .getObj i fun o E j=>c o E j f
 |setObj i j _ c=>exact .setObj i j (c f)
 |choose _ c=>exact .choose fun n=>c n f
 |program _ c=>exact .program (c f)
 |freeze=>exact .freeze
 |frozen=>exact .frozen
 |mark=>exact .mark
 |sys=>exact .sys
 |halt=>exact .halt
 |dead hd=>exact .dead hd
end
end Go.Am
namespace Go.Am
open Go.Ren (grow gU aT aB)
def Out{i f:Type}(P:Program)(X:Event->Prop)(D:Nat->Prop)(R:Env->i->f->Prop)(j:Env)(O:Nat->Prop)(h:AH)(w:World)(l:Sem f)(a:i)(g:AH):Prop:=
 ∃(d:Env) (b:f) (e:World) (k:Array Event),(∀c,l.runT P w c=(.ok b e,c++k))/\j.Le d/\R d a b/\Rel d (grow O w e) D g e/\aT X O D w e k/\
  h.n<=g.n/\∀x,d.born x↔j.born x∨(h.n<=x/\x<g.n)
section
variable{P:Program}{d z:Env}{O O' D:Nat->Prop}{h i h₁:AH}{w w' w₁:World}{X:Event->Prop}{j p:Type}{R:Env->j->p->Prop}{a:j}
theorem Out.then{s' s₁:Sem p}{es₁:Array Event}(e:∀c,s'.runT P w c=s₁.runT P w₁ (c++es₁))(f:d.Le z)(m:aT X O D w w₁ es₁)(o:h.n<=h₁.n)(g:∀x,z.born x↔d.born x∨(h.n<=x/\x<h₁.n))
  (k:Out P X D R z (grow O w w₁) h₁ w₁ s₁ a i):Out P X D R d O h w s' a i:=by
 obtain⟨s,b,w',t,u,v,y,A,q,r,B⟩:=k
 refine⟨s,b,w',es₁++t,fun c=>by rw[e,u,Array.append_assoc],f.trans v,y,A.mono fun b g=>Go.Ren.vN g m.size q.size,m.trans q,Nat.le_trans o r,fun x=>?_⟩;rw[B,g];constructor
 ·rintro((h|h)|h)
  ·exact .inl h
  ·exact .inr ⟨h.1,Nat.lt_of_lt_of_le h.2 r⟩
  ·exact .inr ⟨Nat.le_trans o h.1,h.2⟩
 ·rintro(h|h)
  ·exact .inl (.inl h)
  ·rcases Nat.lt_or_ge x h₁.n with l|l
   ·exact .inl (.inr ⟨h.1,l⟩)
   ·exact .inr ⟨l,h.2⟩
theorem jX{b:Type}(c:Array b)(e:b):c++#[e]=c.push e:=by simp
theorem jS(O:Nat->Prop)(w:World)(c:w₁.heap.size=w.heap.size):grow O w w₁=O:=by
 funext b;apply propext;unfold grow;constructor
 ·rintro(x|⟨x,y⟩)
  ·exact x
  ·omega
 ·exact .inl
theorem Out.here{e s₁:Sem p}{es₁:Array Event}(c:∀b,e.runT P w b=s₁.runT P w₁ (b++es₁))(f:aT X O D w w₁ es₁)(g:w₁.heap.size=w.heap.size)(l:h₁.n=h.n)
  (k:Out P X D R d O h₁ w₁ s₁ a i):Out P X D R d O h w e a i:=by
 refine Out.then (h₁:=h₁) c (.refl d) f (by omega) (fun x=>?_) (by rw[jS O w g];exact k);rw[l];exact⟨.inl,fun h=>h.elim id fun x=>absurd x.1 (by omega)⟩
theorem Rel.drawn(r:Rel d O D h w)(n:Nat):Rel d O D h {w with drawn:=n}:=r.rely ⟨Nat.le_refl _,fun _ _=>rfl,fun _ _=>rfl,.rfl,rfl,rfl⟩
theorem vP(n:Nat):aT X O D w {w with drawn:=n} #[]:=⟨Nat.le_refl _,fun _ _ _=>rfl,rfl,rfl,rfl,fun e b=>by simp at b⟩
theorem Cc{a:Addr}{v:Value}{s:Bool}(b:O a.block):aT X O D w (w.setCell a v) #[⟨.cell a,true,s⟩]:=by
 have g:(w.setCell a v).heap.size=w.heap.size:=by simp[World.setCell]
 refine⟨by rw[g];exact Nat.le_refl _,fun c l k=>?_,rfl,rfl,rfl,fun e f=>?_⟩
 ·unfold World.setCell;dsimp only
  rw[Array.getElem?_modify,if_neg (fun(e:a.block=c)=>k (e▸b))]
 ·simp only[List.mem_toArray,List.mem_singleton]at f;subst f;exact .inr (.inl (.inl b))
theorem zX{r:Nat}{o:Obj}{s:Bool}(b:O r):aT X O D w {w with heap:=w.heap.setIfInBounds r o} #[⟨.obj r,true,s⟩]:=by
 refine⟨by simp,fun c l k=>?_,rfl,rfl,rfl,fun e g=>?_⟩
 ·rw[Array.getElem?_setIfInBounds,if_neg (fun(e:r=c)=>k (e▸b))]
 ·simp only[List.mem_toArray,List.mem_singleton]at g;subst g;exact .inr (.inl (.inl b))
theorem zY(r:Rel d O D h w){x:Nat}{l:Array Value}{e:TypeId}{f b c u}(k:d.born x)(m:h.look x=some ⟨.cells l e f,b,c,u⟩):∃n o,w.shape? (d.to x).1=some (n,o):=by
 obtain⟨C,E,g,q,_⟩:=r.cells x _ l e f k m rfl
 exact⟨E,C.size,by unfold World.shape?;rw[q]⟩
theorem Ce(r:Rel d O D h w){x:Nat}{B:cZ}(b:d.born x)(g:h.look x=some B)(k:∀c e f,B.obj≠.cells c e f):w.shape? (d.to x).1=none:=by
 obtain⟨_,l,m,n⟩:=r.obj x B b g k
 unfold World.shape?;rw[m];have:=n.ji.2;cases l<;>first|rfl|exact absurd rfl (this _ _ _)
theorem SR.yB{s:Sem j}{s':Sem p}(k:SR P R d s s'):∀{O:Nat->Prop} {h i:AH} {w:World} {a:j},Rel d O D h w->s.ar P none h=some (a,i)->Out P X D R d O h w s' a i:=by
 induction k with
 | @pure d x y hR=>
  intro O h i w a r e;simp only[Sem.ar,Option.some.injEq,Prod.mk.injEq]at e;obtain⟨rfl,rfl⟩:=e
  refine⟨d,y,w,#[],fun b=>by simp only[Sem.runT,Array.append_empty],.refl d,hR,r.mono fun _=>.inl,.none w,Nat.le_refl _,fun x=>⟨.inl,fun h=>h.elim id fun x=>absurd x.1 (by omega)⟩⟩
 | @load d m U M g ha _ E=>
  intro O h i w a r e;rw[Sem.ar.eq_def]at e;dsimp only at e;split at e
  ·rename_i v hc;obtain⟨V,Q,L,Z⟩:=r.load ha hc
   exact Out.here (es₁:=#[⟨.cell (d.addr U),false,Mode.plain==Mode.atomic⟩]) (fun b=>by rw[jX];simp only[Sem.runT,Q]) (uC (l:=.cell (d.addr U)) Z) rfl rfl (E v V L r e)
  ·cases e
 | @store d m U v V M g ha hv _ E=>
  intro O h i w a r e;have W:∀h₁,h.setCell U v=some h₁->M.ar P none h₁=some (a,i)->(∀c,V≠.agg c)->(∀c,V≠.tuple c)->Out P X D R d O h w (.store m (d.addr U) V g) a i:=by
   intro h₁ N he n1 n2;obtain⟨u,Q,L,Z,h4⟩:=r.store ha N hv
   refine Out.here (h₁:=h₁) (w₁:=w.setCell (d.addr U) V) (s₁:=g) (es₁:=#[⟨.cell (d.addr U),true,m==.atomic⟩]) (fun b=>?_) (Cc h4) (by simp[World.setCell]) ?_ (E Z he)
   ·cases V<;>first|exact absurd rfl (n1 _)|exact absurd rfl (n2 _)|(rw[jX];simp only[Sem.runT,Q,L];rfl)
   ·unfold AH.setCell at N;(repeat' split at N)<;>first|cases N;rfl|cases N
  cases hv with
  |agg=>simp only[Sem.ar]at e;cases e
  |tuple=>simp only[Sem.ar]at e;cases e
  |_=>
   cases m with
   |atomic=>simp only[Sem.ar]at e;cases e
   |plain=>
    simp only[Sem.ar]at e;split at e
    ·rename_i h₁ N;exact W h₁ N e (fun c x=>by cases x) (fun c x=>by cases x)
    ·cases e
 | @new d o F M g ho _ E=>
  intro O h i w a r e;have Y:¬d.born h.n:=fun hb=>Nat.lt_irrefl _ (r.fresh _ hb)
  have W:(M h.n).ar P none (h.new o)=some (a,i)->Out P X D R d O h w (.new F g) a i:=by
   intro e;have r':=(r.push o).birth (o':=F) Y (Nat.lt_succ_self _) (Kq o) ho;refine Out.then (h₁:=h.new o) (w₁:={w with heap:=w.heap.push F}) (s₁:=g w.heap.size) (es₁:=#[]) (fun b=>by simp only[Sem.runT,Array.append_empty]) (Env.jA Y) (pX F) (Nat.le_succ _) (fun x=>?_) (E _ (Env.jA Y) h.n w.heap.size ⟨.inl rfl,dA⟩ r' e);show(x=h.n∨d.born x)↔_;constructor
   ·rintro(rfl|H)
    ·exact .inr ⟨Nat.le_refl _,Nat.lt_succ_self _⟩
    ·exact .inl H
   ·rintro(H|⟨Q,L⟩)
    ·exact .inr H
    ·have:x<h.n+1:=L
     exact .inl (by omega)
  simp only[Sem.ar]at e;split at e<;>first|exact W e|cases e
 | @shape d x y M g H hy _ _ E a2=>
  intro O h i w a r e;simp only[Sem.ar]at e;split at e
  ·rename_i l t f a7 ro u T;obtain⟨e',n',N⟩:=zY r H T
   exact Out.here (w₁:=w) (s₁:=g (some (e',n'))) (es₁:=#[]) (fun b=>by simp only[Sem.runT,hy,N,Array.append_empty]) (.none w) rfl rfl (E _ _ _ _ r e)
  ·rename_i B J T;exact Out.here (w₁:=w) (s₁:=g none) (es₁:=#[]) (fun b=>by simp only[Sem.runT,hy,Ce r H T (fun c e f hB=>J c e f B.gB B.ro B.u (by rw[←hB])),Array.append_empty]) (.none w) rfl rfl (a2 r e)
  ·cases e
 | @getObj d x y M g H _ E=>
  intro O h i w a r e;simp only[Sem.ar]at e;split at e
  ·cases e
  ·rename_i B J T;obtain⟨F,Q,L,Z⟩:=r.getObj H T (fun c e f hB=>J c e f B.gB B.ro B.u (by rw[←hB]))
   refine Out.here (w₁:=w) (s₁:=g F) (es₁:=#[⟨.obj y,false,F.isChan⟩]) (fun b=>?_) (uC (l:=.obj y) Z) rfl rfl (E _ F L r e);rw[jX];have:=L.ji.2;cases F<;>first|exact absurd rfl (this _ _ _)|simp only[Sem.runT,Q]
  ·cases e
 | @setObj d x y o F M g H ho _ E=>
  intro O h i w a r e;simp only[Sem.ar]at e;split at e
  ·cases e
  ·cases e
  ·rename_i o _ _ B J T a4;split at e
   ·cases e
   ·rename_i a3;have hc:∀c e f,B.obj≠.cells c e f:=fun c e f hB=>J c e f B.gB B.ro B.u (by rw[←hB])
    obtain⟨a1,Q,L,_⟩:=r.getObj H T hc
    obtain⟨r',hO⟩:=r.setObj H T hc (by simpa using a3) ho
    refine Out.here (h₁:=h.put x B o) (w₁:={w with heap:=w.heap.setIfInBounds y F}) (s₁:=g) (es₁:=#[⟨.obj y,true,F.isChan⟩]) (fun b=>?_) (zX hO) (by simp) rfl (E r' e);rw[jX];have:=L.ji.2;cases a1<;>first|exact absurd rfl (this _ _ _)|simp only[Sem.runT,Q]
  ·cases e
 | @choose d q M g _ E=>
  intro O h i w a r e;simp only[Sem.ar]at e;split at e
  ·rename_i hq;exact Out.here (w₁:=w) (s₁:=g 0) (es₁:=#[]) (fun b=>by simp only[Sem.runT,if_pos hq,Array.append_empty]) (.none w) rfl rfl (E 0 r e)
  ·cases e
 | @program d M g _ E=>intro O h i w a r e;simp only[Sem.ar]at e;exact Out.here (w₁:=w) (s₁:=g P) (es₁:=#[]) (fun b=>by simp only[Sem.runT,Array.append_empty]) (.none w) rfl rfl (E r e)
 |dead hd=>intro O h i w a r e;rw[hd]at e;cases e
 |_=>intro O h i w a r e;simp only[Sem.ar]at e;cases e
end
end Go.Am
namespace Go.Am
open Go.Ren (grow gU aT aB)
section
variable{P:Program}{D:Nat->Prop}{X:Event->Prop}{b d:Type}{R:Env->b->d->Prop}
theorem SR.aja{A:Env}{s:Sem b}{s':Sem d}(k:SR P R A s s'):∀{O:Nat->Prop} {h:AH} {w:World},Rel A O D h w->∃c:Nat,∀{h':AH} {a:b},s.ar P (some c) h=some (a,h')->Out P X D R A O h w s' a h':=by
 induction k with
 | @pure A x y hR=>
  intro O h w r;refine⟨0,fun{h'} {a} e=>?_⟩;simp only[Sem.ar,Option.some.injEq,Prod.mk.injEq]at e;obtain⟨rfl,rfl⟩:=e
  refine⟨A,y,w,#[],fun g=>by simp only[Sem.runT,Array.append_empty],.refl A,hR,r.mono fun _=>.inl,.none w,Nat.le_refl _,fun x=>⟨.inl,fun h=>h.elim id fun x=>absurd x.1 (by omega)⟩⟩
 | @load A m U Q j ha _ F=>
  intro O h w r;cases L:h.cell U with
  |none=>exact⟨0,fun{h'} {a} e=>by rw[Sem.ar.eq_def]at e;simp only[L]at e;cases e⟩
  |some v=>
   obtain⟨Y,V,N,h3⟩:=r.load ha L
   obtain⟨c,k⟩:=F v Y N r
   refine⟨c,fun{h'} {a} e=>?_⟩;rw[Sem.ar.eq_def]at e;simp only[L]at e;cases m with
   |atomic=>cases e
   |plain=>exact Out.here (es₁:=#[⟨.cell (A.addr U),false,Mode.plain==Mode.atomic⟩]) (fun g=>by rw[jX];simp only[Sem.runT,V]) (uC (l:=.cell (A.addr U)) h3) rfl rfl (k e)
 | @store A m U v Y Q j ha hv _ F=>
  intro O h w r;cases T:h.setCell U v with
  |none=>refine⟨0,fun{h'} {a} e=>?_⟩;rw[Sem.ar.eq_def]at e;cases v<;>cases m<;>simp only[T]at e<;>cases e
  |some C=>
   obtain⟨u,V,N,h3,h4⟩:=r.store ha T hv
   obtain⟨c,k⟩:=F h3
   refine⟨c,fun{h'} {a} e=>?_⟩;have Z:Q.ar P (some c) C=some (a,h')->(∀c,Y≠.agg c)->(∀c,Y≠.tuple c)->Out P X D R A O h w (.store m (A.addr U) Y j) a h':=by
    intro he n1 n2;refine Out.here (h₁:=C) (w₁:=w.setCell (A.addr U) Y) (s₁:=j) (es₁:=#[⟨.cell (A.addr U),true,m==.atomic⟩]) (fun g=>?_) (Cc h4) (by simp[World.setCell]) ?_ (k he)
    ·cases Y<;>first|exact absurd rfl (n1 _)|exact absurd rfl (n2 _)|(rw[jX];simp only[Sem.runT,V,N];rfl)
    ·unfold AH.setCell at T;(repeat' split at T)<;>first|cases T;rfl|cases T
   cases hv with
   |agg=>simp only[Sem.ar]at e;cases e
   |tuple=>simp only[Sem.ar]at e;cases e
   |_=>
    cases m with
    |atomic=>simp only[Sem.ar]at e;cases e
    |plain=>simp only[Sem.ar,T]at e;exact Z e (fun c x=>by cases x) (fun c x=>by cases x)
 | @new A o J Q j ho _ F=>
  intro O h w r;have a0:¬A.born h.n:=fun hb=>Nat.lt_irrefl _ (r.fresh _ hb)
  have r':=(r.push o).birth (o':=J) a0 (Nat.lt_succ_self _) (Kq o) ho;obtain⟨c,k⟩:=F _ (Env.jA a0) h.n w.heap.size ⟨.inl rfl,dA⟩ r'
  refine⟨c,fun{h'} {a} e=>?_⟩;have Z:(Q h.n).ar P (some c) (h.new o)=some (a,h')->Out P X D R A O h w (.new J j) a h':=by
   intro e;refine Out.then (h₁:=h.new o) (w₁:={w with heap:=w.heap.push J}) (s₁:=j w.heap.size) (es₁:=#[]) (fun g=>by simp only[Sem.runT,Array.append_empty]) (Env.jA a0) (pX J) (Nat.le_succ _) (fun x=>?_) (k e);show(x=h.n∨A.born x)↔_;constructor
   ·rintro(rfl|M)
    ·exact .inr ⟨Nat.le_refl _,Nat.lt_succ_self _⟩
    ·exact .inl M
   ·rintro(M|⟨V,N⟩)
    ·exact .inr M
    ·have:x<h.n+1:=N
     exact .inl (by omega)
  simp only[Sem.ar]at e;split at e<;>first|exact Z e|cases e
 | @shape A x y Q j M hy _ _ F a5=>
  intro O h w r;cases E:h.look x with
  |none=>exact⟨0,fun{h'} {a} e=>by rw[Sem.ar.eq_def]at e;simp only[E]at e;cases e⟩
  |some B=>
   obtain⟨o,a2,ro,u⟩:=B
   by_cases L:∃l t f,o=.cells l t f
   ·obtain⟨l,t,f,rfl⟩:=L
    obtain⟨e',n',T⟩:=zY r M E
    obtain⟨c,k⟩:=F t l.size e' n' r
    refine⟨c,fun{h'} {a} e=>?_⟩;rw[Sem.ar.eq_def]at e;simp only[E]at e;exact Out.here (w₁:=w) (s₁:=j (some (e',n'))) (es₁:=#[]) (fun g=>by simp only[Sem.runT,hy,T,Array.append_empty]) (.none w) rfl rfl (k e)
   ·have H:∀l t f,o≠.cells l t f:=fun l t f x=>L ⟨l,t,f,x⟩
    obtain⟨c,k⟩:=a5 r
    refine⟨c,fun{h'} {a} e=>?_⟩;rw[Sem.ar.eq_def]at e;simp only[E]at e;split at e
    ·rename_i l t f _ _ _ hh;cases hh;exact absurd rfl (H _ _ _)
    ·exact Out.here (w₁:=w) (s₁:=j none) (es₁:=#[]) (fun g=>by simp only[Sem.runT,hy,Ce r M E H,Array.append_empty]) (.none w) rfl rfl (k e)
    ·cases e
 | @getObj A x y Q j M _ F=>
  intro O h w r;cases E:h.look x with
  |none=>exact⟨0,fun{h'} {a} e=>by rw[Sem.ar.eq_def]at e;simp only[E]at e;cases e⟩
  |some B=>
   by_cases L:∃l t f,B.obj=.cells l t f
   ·obtain⟨l,t,f,hB⟩:=L
    refine⟨0,fun{h'} {a} e=>?_⟩;rw[Sem.ar.eq_def]at e;obtain⟨o,a2,ro,u⟩:=B
    dsimp only at hB;subst hB;simp only[E]at e;cases e
   ·have H:∀l t f,B.obj≠.cells l t f:=fun l t f x=>L ⟨l,t,f,x⟩
    obtain⟨J,V,N,h3⟩:=r.getObj M E H
    obtain⟨c,k⟩:=F _ J N r
    refine⟨c,fun{h'} {a} e=>?_⟩;rw[Sem.ar.eq_def]at e;simp only[E]at e;split at e
    ·cases e
    ·rename_i B' _ hh;cases hh;refine Out.here (w₁:=w) (s₁:=j J) (es₁:=#[⟨.obj y,false,J.isChan⟩]) (fun g=>?_) (uC (l:=.obj y) h3) rfl rfl (k e);rw[jX];have:=N.ji.2;cases J<;>first|exact absurd rfl (this _ _ _)|simp only[Sem.runT,V]
    ·cases e
 | @setObj A x y o J Q j M ho _ F=>
  intro O h w r;cases E:h.look x with
  |none=>refine⟨0,fun{h'} {a} e=>?_⟩;rw[Sem.ar.eq_def]at e;cases ho<;>(simp only[E]at e;cases e)
  |some B=>
   by_cases L:∃l t f,B.obj=.cells l t f
   ·obtain⟨l,t,f,hB⟩:=L
    refine⟨0,fun{h'} {a} e=>?_⟩;rw[Sem.ar.eq_def]at e;obtain⟨o,a2,ro,u⟩:=B
    dsimp only at hB;subst hB;simp only[E]at e;cases e
   ·have H:∀l t f,B.obj≠.cells l t f:=fun l t f x=>L ⟨l,t,f,x⟩
    by_cases a3:B.ro=true
    ·refine⟨0,fun{h'} {a} e=>?_⟩;rw[Sem.ar.eq_def]at e;simp only[E]at e;split at e<;>first|(cases e;done)|(rename_i hh _;cases hh;rw[if_pos a3]at e;cases e)
    ·have W:B.ro=false:=by simpa using a3
     obtain⟨a4,V,N,_⟩:=r.getObj M E H
     obtain⟨r',hO⟩:=r.setObj M E H W ho
     obtain⟨c,k⟩:=F r'
     refine⟨c,fun{h'} {a} e=>?_⟩;rw[Sem.ar.eq_def]at e;simp only[E]at e;split at e
     ·cases e
     ·cases e
     ·rename_i hh _;cases hh;rw[if_neg (by simp[W])]at e;refine Out.here (h₁:=h.put x B _) (w₁:={w with heap:=w.heap.setIfInBounds y J}) (s₁:=j) (es₁:=#[⟨.obj y,true,J.isChan⟩]) (fun g=>?_) (zX hO) (by simp) rfl (k e);rw[jX];have:=N.ji.2;cases a4<;>first|exact absurd rfl (this _ _ _)|simp only[Sem.runT,V]
     ·cases e
 | @choose A q Q j hk F=>
  intro O h w r;by_cases hq:q.forced=true
  ·obtain⟨c,k⟩:=F 0 r
   refine⟨c,fun{h'} {a} e=>?_⟩;rw[Sem.ar.eq_def]at e;simp only[hq,if_true]at e;exact Out.here (w₁:=w) (s₁:=j 0) (es₁:=#[]) (fun g=>by simp only[Sem.runT,if_pos hq,Array.append_empty]) (.none w) rfl rfl (k e)
  ·cases q with
   |mapNext n=>refine⟨w.tape w.drawn (.mapNext n),fun{h'} {a} e=>?_⟩;rw[Sem.ar.eq_def]at e;simp only[if_neg hq]at e;exact Out.here (w₁:={w with drawn:=w.drawn+1}) (s₁:=j ((Question.mapNext n).cut (w.tape w.drawn (.mapNext n)))) (es₁:=#[]) (fun g=>by simp only[Sem.runT,if_neg hq,Array.append_empty]) (vP _) rfl rfl ((hk _).yB (r.drawn _) e)
   |_=>refine⟨0,fun{h'} {a} e=>?_⟩;rw[Sem.ar.eq_def]at e;simp only[if_neg hq]at e;cases e
 | @program A Q j _ F=>
  intro O h w r;obtain⟨c,k⟩:=F r
  refine⟨c,fun{h'} {a} e=>?_⟩;simp only[Sem.ar]at e;exact Out.here (w₁:=w) (s₁:=j P) (es₁:=#[]) (fun g=>by simp only[Sem.runT,Array.append_empty]) (.none w) rfl rfl (k e)
 |dead hd=>intro O h w r;refine⟨0,fun{h'} {a} e=>?_⟩;rw[hd]at e;cases e
 |_=>intro O h w r;refine⟨0,fun{h'} {a} e=>?_⟩;simp only[Sem.ar]at e;cases e
end
end Go.Am
