import GoSem.Dispatch
import GoSem.Machine.Exec
import Derived.Orders
import Derived.Test.YtjgfemidkffdjaaGreatH2
set_option linter.all false
namespace Go.Am
open Go.Ren (grow gU aT aB)
section
variable{P:Program}{ρ w:Env}{c j z A:Type}
theorem LR.filter{R:c->j->Prop}{l:List c}{m:List j}(h:LR R l m){p:c->Bool}{q:j->Bool}(a:∀x y,R x y->q y=p x):LR R (l.filter p) (m.filter q):=by
 induction h with
 | nil=>exact .nil
 | cons h _ b=>
   rw[List.filter_cons,List.filter_cons,a _ _ h];split
   ·exact .cons h b
   ·exact b
theorem AR.filter{R:c->j->Prop}{a:Array c}{b:Array j}(h:AR R a b){p:c->Bool}{q:j->Bool}(d:∀x y,R x y->q y=p x):AR R (a.filter p) (b.filter q):=by
 obtain⟨l⟩:=a
 obtain⟨m⟩:=b
 rw[List.filter_toArray,List.filter_toArray];exact(h.list.filter d).arr
theorem AR.map{R:c->j->Prop}{S:z->A->Prop}{a:Array c}{b:Array j}(h:AR R a b){f:c->z}{g:j->A}(k:∀x y,R x y->S (f x) (g y)):AR S (a.map f) (b.map g):=by
 refine⟨by simp[h.1],fun i x y d e=>?_⟩;rw[Array.getElem?_map]at d e;have:=h.get i
 revert this d e;generalize a[i]?=u
 generalize b[i]?=v
 intro d e this;cases this with
 | none=>cases d
 | some h=>cases d;cases e;exact k _ _ h
theorem AR.isEmpty{R:c->j->Prop}{a:Array c}{b:Array j}(h:AR R a b):b.isEmpty=a.isEmpty:=by simp only[Array.isEmpty,h.1]
theorem LR.all{R:c->j->Prop}{l:List c}{m:List j}(h:LR R l m){p:c->Bool}{q:j->Bool}(a:∀x y,R x y->q y=p x):m.all q=l.all p:=by
 induction h with
 | nil=>rfl
 | cons h _ b=>simp only[List.all_cons,a _ _ h,b]
theorem AR.all{R:c->j->Prop}{a:Array c}{b:Array j}(h:AR R a b){p:c->Bool}{q:j->Bool}(d:∀x y,R x y->q y=p x):b.all q=a.all p:=by
 have:=h.list.all d
 rw[Array.all_toList,Array.all_toList]at this;exact this
theorem LR.find{R:c->j->Prop}{l:List c}{m:List j}(h:LR R l m){p:c->Bool}{q:j->Bool}(a:∀x y,R x y->q y=p x):gu R (l.find? p) (m.find? q):=by
 induction h with
 | nil=>exact .none
 | cons h _ b=>
   rw[List.find?_cons,List.find?_cons,a _ _ h];split
   ·exact .some h
   ·exact b
theorem AR.find{R:c->j->Prop}{a:Array c}{b:Array j}(h:AR R a b){p:c->Bool}{q:j->Bool}(d:∀x y,R x y->q y=p x):gu R (a.find? p) (b.find? q):=by
 have:=h.list.find d
 rw[Array.find?_toList,Array.find?_toList]at this;exact this
theorem ZM(t:TypeId){v q:Value}(h:VR ρ v q):SR P VR ρ (Instr.range t v) (Instr.range t q):=by
 unfold Instr.range;refine(az t).bQ fun w f d=>?_
 have a:∀(l:Env) (o m:Obj),OR l o m->SR P VR l (do pure (.pointer (some ⟨←newObj o,0,none⟩)):Sem Value) (do pure (.pointer (some ⟨←newObj m,0,none⟩)):Sem Value):=by
   intro l o m p;refine SR.bnd (R:=fun g r i=>g.ob r i) (.new (.obj p) fun g _ r i b=>.pure b) fun g u r i b=>.aU ?_;have:(⟨i,0,none⟩:Addr)=g.addr ⟨r,0,none⟩:=by simp only[Env.addr,b.2]
   rw[this];exact .ptr b.1
 cases d with
 | string=>
   cases h.mono f with
   |string s=>exact a w _ _ (.stringIter s 0)
   |_=>exact .dead fun _ _=>rfl
 | map k e=>
   cases h.mono f with
   |dO=>exact a w _ _ (.mapIter .none)
   |map b=>exact jU b (fun y x n h=>a w _ _ (.mapIter (.some b))) fun o p=>by cases o<;>first|exact absurd rfl (p _ _)|exact fun _ _=>rfl
   |_=>exact .dead fun _ _=>rfl
 | _=>cases h<;>exact .dead fun _ _=>rfl
def ZN(ρ:Env)(v:Value):Prop:=∀r s,v=.pointer (some ⟨r,0,s⟩)->(ρ.to r).2=0
theorem acA(s:Bool)(t:TypeId){v O:Value}(h:VR ρ v O)(R:ZN ρ v):SR P VR ρ (Instr.next v s t) (Instr.next O s t):=by
 unfold Instr.next;cases h with
 | @ptr a h=>
   obtain⟨r,L,M⟩:=a
   cases L with
   |succ n=>refine .dead fun _ _=>rfl
   |zero=>
    have h0:=R r M rfl
    have B:ρ.addr ⟨r,0,M⟩=⟨(ρ.to r).1,0,M⟩:=by simp only[Env.addr,h0]
    rw[B];have C:ρ.ob r (ρ.to r).1:=⟨h,by rw[←h0]⟩
    refine .getObj C fun o W N=>?_
    cases N with
    |stringIter b p=>
     cases s with
     |false=>exact .dead fun _ _=>rfl
     |true=>
      show SR P VR ρ (if p<b.size then _ else _) (if p<b.size then _ else _);split
      ·exact .setObj C (.stringIter _ _) (.pure (GZ (.bool _) (.int _ _) (.int _ _)))
      ·exact .aU (og (AR.empty.push (.bool _)))
    | @mapIter m U since seen last J=>
     cases s with
     |true=>exact .dead fun _ _=>by cases m<;>rfl
     |false=>
      cases J with
      |none=>exact .aU (og (AR.empty.push (.bool _)))
      | @some m U J=>
       refine jU J (fun F k n h=>?_) fun o N=>by cases o<;>first|exact absurd rfl (N _ _)|exact fun _ _=>rfl
       dsimp only
       have V:(!seen.isEmpty&&!k.isEmpty&&k.all (·.born>=last))=(!seen.isEmpty&&!F.isEmpty&&F.all (·.born>=last)):=by rw[h.isEmpty,h.all (p:=fun e=>decide (e.born>=last)) fun x y d=>by rw[d.born]]
       rw[V];split
       ·exact .dead fun _ _=>rfl
       ·have l:=h.filter (p:=fun e=>!seen.contains e.born) (q:=fun e=>!seen.contains e.born) fun x y d=>by rw[d.born]
        have u:=l.filter (p:=fun e=>decide (e.born<since)) (q:=fun e=>decide (e.born<since)) fun x y d=>by rw[d.born]
        have H:=l.filter (p:=fun e=>decide (e.born>=since)) (q:=fun e=>decide (e.born>=since)) fun x y d=>by rw[d.born]
        have D:=(u.append H).map (S:=gu (ig ρ)) (f:=some) (g:=some) fun x y d=>.some d;have i:AR (gu (ig ρ)) ((if(Array.filter (fun e=>decide (e.born<since)) (Array.filter (fun e=>!seen.contains e.born) F)).isEmpty=true then#[none]else#[])++Array.map some (Array.filter (fun e=>decide (e.born<since)) (Array.filter (fun e=>!seen.contains e.born) F)++Array.filter (fun e=>decide (e.born>=since)) (Array.filter (fun e=>!seen.contains e.born) F)))
          ((if(Array.filter (fun e=>decide (e.born<since)) (Array.filter (fun e=>!seen.contains e.born) k)).isEmpty=true then#[none]else#[])++Array.map some (Array.filter (fun e=>decide (e.born<since)) (Array.filter (fun e=>!seen.contains e.born) k)++Array.filter (fun e=>decide (e.born>=since)) (Array.filter (fun e=>!seen.contains e.born) k))):=by
         refine AR.append ?_ D;rw[u.isEmpty];split
         ·exact AR.empty.push .none
         ·exact .empty
        rw[←i.1];refine SR.bQ (s:=choose _) (.choose fun n=>.pure rfl) fun w E n=>?_
        have:=i.get n
        revert this;generalize (_:Array (Option MapEntry))[n]?=x
        generalize (_:Array (Option MapEntry))[n]?=y
        intro this;cases this with
        |none=>exact .stuck
        |some h=>
         cases h with
         |none=>exact .aU (og (AR.empty.push (.bool _)))
         | @some e X h=>
          dsimp only
          rw[h.born,h.key];exact .setObj (E.ob C) (.mapIter (.some (E.ob J))) (.pure (GZ (.bool _) (Plain.vr h.plain w) (h.val.mono E)))
    |_=>exact .dead fun _ _=>rfl
 | _=>exact .dead fun _ _=>rfl
theorem ZO{v u:Value}(h:VR ρ v u)(C:ZN ρ v):SR P VR ρ (Instr.entry v) (Instr.entry u):=by
 unfold Instr.entry;cases h with
 | @ptr a h=>
   obtain⟨r,f,g⟩:=a
   cases f with
   |succ n=>exact .dead fun _ _=>rfl
   |zero=>
    have h0:=C r g rfl
    have d:ρ.addr ⟨r,0,g⟩=⟨(ρ.to r).1,0,g⟩:=by simp only[Env.addr,h0]
    rw[d];have i:ρ.ob r (ρ.to r).1:=⟨h,by rw[←h0]⟩
    refine .getObj i fun o H k=>?_
    cases k with
    | @mapIter m E since seen last l=>
     cases l with
     |none=>exact .dead fun _ _=>rfl
     | @some m E l=>
      simp only[Sem.bind]
      split
      ·rename_i b _;refine jU l (fun F s n h=>?_) fun o k=>by cases o<;>first|exact absurd rfl (k _ _)|exact fun _ _=>rfl
       dsimp only
       split
       ·exact .dead fun _ _=>rfl
       ·have:=h.find (p:=fun e=>e.born==b) (q:=fun e=>e.born==b) fun x y t=>by rw[t.born]
        revert this;generalize F.find? _=x
        generalize s.find? _=y
        intro this;cases this with
        |none=>exact .NS
        |some h=>exact .aU (by rw[h.key];exact uO (Plain.vr h.plain ρ) h.val)
      ·exact .dead fun _ _=>rfl
    |_=>exact .dead fun _ _=>rfl
 | _=>exact .dead fun _ _=>rfl
end
end Go.Am
namespace Go.Am
open Go.Ren (grow gU aT aB)
section
variable{P:Program}{g j:Env}{α β γ δ:Type}
theorem af6(i:Array TypeId)(t:TypeId){a l:Array Value}(h:AR (VR g) a l):SR P VR g (Builtin.len_ i t a) (Builtin.len_ i t l):=by
 unfold Builtin.len_;have h0:=h.get 0
 revert h0;generalize a[0]?=x
 generalize l[0]?=y
 intro h0;cases h0 with
 | none=>cases i[0]?<;>exact .stuck
 | @some x y h0=>
   cases i[0]? with
   |none=>exact .stuck
   |some r=>
    dsimp only
    refine(az r).bQ fun j m d=>?_
    have b:=h0.mono m
    cases d with
    |string=>cases b<;>first|exact .aU (.int _ _)|exact .stuck
    |array n e=>cases b<;>exact .aU (.int _ _)
    |pointer c=>
     have:SR P VR j (underlying c>>=fun d=>match d with|.array n _=>Pure.pure (goInt n)|_=>Go.stuck "len: pointer to array expected") (underlying c>>=fun d=>match d with|.array n _=>Pure.pure (goInt n)|_=>Go.stuck "len: pointer to array expected"):=
      (az c).bQ fun v _ d=>by split;exact .aU (.int _ _);exact .stuck
     cases b<;>exact this
    |slice e=>cases b<;>first|exact .aU (.int _ _)|exact .stuck
    |map k e=>
     cases b with
     |dO=>exact .aU (.int _ _)
     |map p=>exact jU p (fun w s n h=>by dsimp only;rw[h.1];exact .aU (.int _ _)) fun o q=>by cases o<;>first|exact absurd rfl (q _ _)|exact fun _ _=>rfl
     |_=>exact .stuck
    |chan u e=>
     cases b with
     |eH=>exact .aU (.int _ _)
     |chan p=>exact .getObj p fun o z q=>by cases q<;>exact .stuck
     |_=>exact .stuck
    |_=>cases b<;>exact .stuck
theorem Eb(op:BinOp)(a b:ByteArray):SR P VR g (do pure (.string (if←asBool (←Op.stringOp op a b)then a else b)):Sem Value) (do pure (.string (if←asBool (←Op.stringOp op a b)then a else b)):Sem Value):=
 (qZ op a b g).bnd fun j _ x y e=>by
   obtain⟨rfl,d⟩:=e
   exact(G6 (d.vr j)).bQ fun f _ c=>.aU (.string _)
theorem acB{x c y d:Value}(e:VR g x c)(a:VR g y d):SR P VR g (Builtin.min2 x y) (Builtin.min2 c d):=by
 cases e with
 | int k n=>cases a with|int k n=>exact .aU (.int _ _)|_=>exact .dead fun _ _=>rfl
 | string s=>cases a with|string s=>exact Eb _ _ _|_=>exact .dead fun _ _=>rfl
 | _=>cases a<;>exact .dead fun _ _=>rfl
theorem acC{x c y d:Value}(e:VR g x c)(a:VR g y d):SR P VR g (Builtin.max2 x y) (Builtin.max2 c d):=by
 cases e with
 | int k n=>cases a with|int k n=>exact .aU (.int _ _)|_=>exact .dead fun _ _=>rfl
 | string s=>cases a with|string s=>exact Eb _ _ _|_=>exact .dead fun _ _=>rfl
 | _=>cases a<;>exact .dead fun _ _=>rfl
theorem Hu{f:Value->Value->Sem Value}(n:∀{g:Env} {x c y m:Value},VR g x c->VR g y m->SR P VR g (f x y) (f c m)){l d:List Value}:∀{g:Env} {x c:Value},LR (VR g) l d->VR g x c->SR P VR g (l.foldlM f x) (d.foldlM f c):=by
 induction l generalizing d with
 | nil=>intro g x c h e;cases h;exact .aU e
 | cons y l o=>
   intro g x c h e;cases h with
   |cons p q=>rw[List.foldlM_cons,List.foldlM_cons];exact(n e p).bnd fun j i a b k=>o (q.mono fun _ _ z=>z.mono i) k
theorem af7(c:Array TypeId)(t:TypeId){a b:Array Value}(h:AR (VR g) a b):SR P VR g (Builtin.min_ c t a) (Builtin.min_ c t b):=by
 unfold Builtin.min_;have:=h.list
 revert this;generalize a.toList=l
 generalize b.toList=f
 intro this;cases this with
 | nil=>exact .stuck
 | cons d e=>exact Hu (fun h k=>acB h k) e d
theorem af8(c:Array TypeId)(t:TypeId){a b:Array Value}(h:AR (VR g) a b):SR P VR g (Builtin.max_ c t a) (Builtin.max_ c t b):=by
 unfold Builtin.max_;have:=h.list
 revert this;generalize a.toList=l
 generalize b.toList=f
 intro this;cases this with
 | nil=>exact .stuck
 | cons d e=>exact Hu (fun h k=>acC h k) e d
theorem ZP{v a:Value}(h:VR g v a):SR P Same g (Builtin.lenOf v) (Builtin.lenOf a):=by
 cases h<;>first|exact .aU rfl|exact .stuck
theorem pV(size n:Nat){v a:Value}(h:VR g v a):SR P (fun j=>AR (VR j)) g (Builtin.firstCells size n v) (Builtin.firstCells size n a):=by
 cases h with
 | nilslice=>exact .aU .empty
 | slice c e=>exact xI _ c
 | string s=>refine .aU (.refl fun x d=>?_);obtain⟨b,_,rfl⟩:=Array.mem_map.1 d;exact .int _ _
 | _=>exact .stuck
theorem acD(v:Array TypeId)(t:TypeId){a o:Array Value}(h:AR (VR g) a o):SR P VR g (Builtin.copy_ v t a) (Builtin.copy_ v t o):=by
 unfold Builtin.copy_;have h0:=h.get 0
 have f:=h.get 1
 revert h0 f;generalize a[0]?=x
 generalize o[0]?=E
 generalize a[1]?=y
 generalize o[1]?=w
 intro h0 f;cases v[0]? with
 | none=>cases h0<;>cases f<;>exact .stuck
 | some F=>
   cases h0 with
   |none=>cases f<;>exact .stuck
   | @some x E h0=>
    cases f with
    |none=>exact .stuck
    | @some y w f=>
     dsimp only
     refine(az F).bQ fun j p d=>?_
     split
     ·rename_i e;have q:∀(b z:Option Addr) (n:Nat),gu (fun a o=>g.born a.block/\o=g.addr a) b z->SR P VR j (do
        let n←pure (Nat.min (←Builtin.lenOf y) n);let cells←Builtin.firstCells (←sizeOf e) n y;if let some a:=b then storeCells a cells.toList
        pure (goInt n):Sem Value) (do
        let n←pure (Nat.min (←Builtin.lenOf w) n);let cells←Builtin.firstCells (←sizeOf e) n w;if let some a:=z then storeCells a cells.toList
        pure (goInt n):Sem Value):=by
       intro b z n i;refine(ZP (f.mono p)).bQ fun L A m=>?_
       refine SR.bQ (SR.aU (R:=Same) rfl) fun H r k=>?_
       refine(fB e).bQ fun M B s=>?_
       have u:=((p.trans A).trans r).trans B;refine(pV s _ (f.mono u)).bnd fun N C c J D=>?_
       cases i with
       |none=>exact .aU (.int _ _)
       |some i=>
        obtain⟨i,rfl⟩:=i
        have l:=u.trans C
        dsimp only
        rw[←l.addr i];exact(lT 0 (l.born _ i) D.list).bQ fun _ _ _=>.aU (.int _ _)
      cases h0 with
      |nilslice n c=>exact q none none n .none
      | @slice O n c J i D=>exact q _ _ n (.some ⟨i,rfl⟩)
      |_=>exact .dead fun _ _=>rfl
     ·exact .dead fun _ _=>rfl
theorem ZQ[aO P](m:Array TypeId)(t:TypeId){a o:Array Value}(h:AR (VR g) a o)(f:∃b n c,a[0]?=some (.slice b n c)):SR P VR g (Builtin.clear_ m t a) (Builtin.clear_ m t o):=by
 unfold Builtin.clear_;have h0:=h.get 0
 obtain⟨b,n,c,f⟩:=f
 rw[f]at h0;rw[f];revert h0;generalize o[0]?=v
 intro h0;cases m[0]? with
 | none=>cases h0;exact .stuck
 | some w=>
   cases h0 with
   | @some _ v h=>
    have e:∀(j:Env),SR P VR j (pure (.tuple #[]):Sem Value) (pure (.tuple #[]):Sem Value):=fun j=>.aU (.tuple rfl fun i x y f=>by simp at f);dsimp only
    refine(az w).bQ fun j p d=>?_
    cases h with
    |nilslice n c=>exact e j
    | @slice a n c B s C=>
     cases n with
     |zero=>exact e j
     |succ n=>
      cases d with
      |slice k=>
       refine(xM k).bnd fun D q z E r=>?_
       obtain⟨rfl,r⟩:=r
       have l:=p.trans q
       rw[←l.addr s];refine(lT 0 (l.born _ s) (tV r _ _).list).bQ fun A _ _=>e A
      |_=>exact .dead fun _ _=>rfl
theorem af9(k:Array TypeId)(t:TypeId){a i:Array Value}(h:AR (VR g) a i)(f:(∃n c,a[0]?=some (.slice none n c))∨∃b n c,a[0]?=some (.slice (some b) n c)/\¬g.bg b.block):SR P VR g (Builtin.cap_ k t a) (Builtin.cap_ k t i):=by
 have l:∃o p n c,a[0]?=some (.slice o n c)/\i[0]?=some (.slice p n c):=by
   have h0:=h.get 0
   rcases f with⟨n,c,f⟩|⟨b,n,c,f,q⟩
   ·rw[f]at h0;generalize i[0]?=y at h0
    cases h0 with
    |some h=>cases h;exact⟨_,_,_,_,f,rfl⟩
   ·rw[f]at h0;generalize i[0]?=y at h0
    cases h0 with
    |some h=>
     cases h with
     | @slice _ _ _ r A s=>have:r=c:=s.resolve_right fun x=>q x.1;subst this;exact⟨_,_,_,_,f,rfl⟩
 obtain⟨o,p,n,c,u,v⟩:=l
 unfold Builtin.cap_;rw[u,v];cases k[0]? with
 | none=>exact .stuck
 | some w=>
   dsimp only
   refine(az w).bQ fun j z d=>?_
   cases d with
   |array n e=>exact .aU (.int _ _)
   |slice e=>exact .aU (.int _ _)
   |pointer m=>exact(az m).bQ fun B _ d=>by cases d<;>first|exact .aU (.int _ _)|exact .stuck
   |_=>exact .stuck
end
end Go.Am
namespace Go.Am
open Go.Ren (grow gU aT aB)
inductive NR(ρ:Env):Next->Next->Prop
 | value {v v':Value} (h:VR ρ v v'):NR ρ (.value v) (.value v')
 | skip:NR ρ .skip .skip
 | enter (f:FuncId) {a a':Array Value} (h:AR (VR ρ) a a'):NR ρ (.enter f a) (.enter f a')
 | round {l l':Nat} (f:FuncId) {t t':Array Value} (x b:Code) (hl:ρ.ob l l') (h:AR (VR ρ) t t'):NR ρ (.round l f t x b) (.round l' f t' x b)
 | odd:NR ρ .numGoroutine .numGoroutine
def ZR(h:AH)(v:Value):Bool:=
 match v with
 | .pointer (some ⟨r,0,_⟩)=>match h.look r with
   |some {obj:=.cells _ _ _,..}=>false
   |some _=>true
   |none=>false
 | _=>true
def TW(P:Program)(h:AH)(t:TypeId)(x:Value)(d e:Option Value):Bool:=
 (match P.underlying t with|some (.pointer _)=>false|_=>true)&&
 match x with
 | .slice none n c=>decide (n<=c)
 | .slice (some a) n c=>decide (n<=c)&&(match h.look a.block with
   |some B=>match B.gB with
    |none=>true
    |some _=>e.isSome||(decide (G7 d<c)||G7 d==0)&&(match P.underlying t with
     |some (.slice b)=>match P.info? b with
      |some i=>i.size==B.u
      |none=>true
     |_=>true)
   |none=>false)
 | _=>true
def ad8(v:Value):Bool:=iQ 9 v
def Gv(op:BinOp)(a b:Value):Bool:=
 (match op with|.eql|.neq=>true|_=>false)&&match a,b with
 | .slice none _ _,.slice _ _ _|.slice (some _) _ _,.slice none _ _|.map none,.map _|.map (some _),.map none|.pointer none,.pointer _|.pointer (some _),.pointer none
 | .nilFunc,.nilFunc|.nilFunc,.func _ _ _|.func _ _ _,.nilFunc=>true
 | _,_=>false
def zn(P:Program)(t:TypeId)(name:String):Bool:=
 match P.underlying t with
 | some (.interface _)=>false
 | some (.pointer _)=>false
 | some _=>match P.info? t with
   |some i=>match i.methods.find? (·.name==name)with
    |some m=>(m.path.toList.all fun s=>!s.deref)&&(match m.func with|some (_,false)=>true|_=>false)
    |none=>false
   |none=>false
 | none=>false
def KO(P:Program)(v:Value):Bool:=
 match v with
 | .func (.methodOf t name) _ _=>zn P t name
 | .func (.func _) _ _|.func (.yield _) _ _=>true
 | .func (.via _ p _ x) _ _=>!x&&p.toList.all fun s=>!s.deref
 | _=>false
def bM(o:Oper):Bool:=
 match o.op with
 | .call {callee:=.builtin .append,..}=>true
 | _=>false
def ad9(h:AH)(v:Value):Bool:=match v with
 | .slice none _ _=>true
 | .slice (some a) _ _=>match h.look a.block with
   |some B=>B.gB.isNone
   |none=>false
 | _=>false
def lX(P:Program)(h:AH)(e:Operand->Value)(o:Oper):Bool:=
 match o.op with
 | .move _|.assign _|.pick ..|.alloc _|.box ..|.build ..|.buildSlice ..|.load ..|.store ..|.unOp ..|.makeInterface ..|.makeMap ..|.makeSlice ..
 | .field ..|.index ..|.indexAddr ..|.entryStore ..|.range ..|.extract ..=>true
 | .nilCheck x=>match e x with|.func (.method _) _ _=>false|_=>true
 | .binOp op _ x y _=>CW op (e x) (e y)||Gv op (e x) (e y)
 | .convert _ d x=>match e x,P.underlying d with|.int _ _,some (.int _)=>true|_,_=>false
 | .makeFunc a _ _=>match a with|.func _=>true|.via ..=>true|.methodOf ..=>true|_=>false
 | .slice t x g j i=>TW P h t (e x) (g.map e) (i.map e)
 | .fieldAddr s _ f=>xw P s f
 | .lookup _ _ k _=>ad8 (e k)
 | .mapUpdate _ _ k _|.insert _ _ k _|.mapEntry _ _ k=>ad8 (e k)
 | .next it _|.entry it=>ZR h (e it)
 | .call c=>match c.callee with
   | .builtin b=>match b with|.len|.min|.max|.copy=>true|.cap=>(match c.args.toList with|[x]=>ad9 h (e x)|_=>false)|.clear=>(match c.args.toList with|[x]=>(match e x with|.slice ..=>true|_=>false)|_=>false)|_=>false
   | .value f=>KO P (e f)
   | .invoke ..=>false
 | _=>false
section
variable{P:Program}{b σ:Env}{O D:Nat->Prop}{h:AH}{w:World}
theorem LW{v:Value}(r:Rel b O D h w)(d:∀a,v=.pointer (some a)->b.born a.block)(k:ZR h v=true):ZN b v:=by
 intro x s e;subst e;have g:=d _ rfl
 have n:(match h.look x with|some {obj:=.cells _ _ _,..}=>false|some _=>true|none=>false)=true:=k
 clear k;rename _=true=>k
 split at k
 · cases k
 · rename_i B j l;exact(r.obj x B g l fun c e f m=>j c e f B.gB B.ro B.u (by rw[←m])).1
 · cases k
theorem acE{t:TypeId}{x v:Value}{o p:Option Value}(r:Rel b O D h w)(y:VR b x v)(k:TW P h t x o p=true):aft P b t x o p:=by
 unfold TW at k;simp only[Bool.and_eq_true]at k;obtain⟨q,d⟩:=k
 refine⟨fun z e=>(by rw[e]at q;cases q),fun n c e=>(by subst e;simpa using d),fun a n c e=>?_⟩;subst e;simp only[Bool.and_eq_true,decide_eq_true_eq]at d;obtain⟨d,g⟩:=d
 refine⟨d,fun A m=>?_⟩;have C:b.born a.block:=by cases y;assumption
 split at g
 · rename_i B E;obtain⟨F,H⟩:=r.bg _ B C E
   have s:=F.1 A;split at g
   ·rename_i j;exact absurd j s
   ·rename_i f j;subst m;simp only[Option.isSome_none,Bool.false_or,Bool.and_eq_true,Bool.or_eq_true,decide_eq_true_eq,beq_iff_eq]at g;obtain⟨J,l⟩:=g
    refine⟨J,fun u L i M=>?_⟩;rw[L]at l;dsimp only at l;rw[M]at l;rw[H s];simpa using l
 · cases g
end
section
variable{P:Program}{ρ q:Env}{α β γ δ:Type}
theorem ZT(op:UnOp){v d:Value}(h:VR ρ v d):SR P VR ρ (Op.unary op v) (Op.unary op d):=by
 have f:∀{s:Sem Value},kN P Plain s->SR P VR ρ s s:=fun h=>(h ρ).imp fun q _ a b e=>by obtain⟨rfl,e⟩:=e;exact e.vr q
 cases op;case neg=>
   cases h with
   |int k n=>exact f (s:=Op.intArith .sub k 0 n) (xK _ _ _ _)
   |_=>exact .dead fun _ _=>rfl
 case xor=>
   cases h with
   |int k n=>exact f (s:=Op.intBits .xor k (if k.signed then-1 else k.max) n) (Au _ _ _ _)
   |_=>exact .dead fun _ _=>rfl
 case not=>
   cases h with
   |bool b=>exact .aU (.bool _)
   |_=>exact .dead fun _ _=>rfl
 all_goals (cases h<;>exact .dead fun _ _=>rfl)
theorem OZ(s d:TypeId){v c:Value}(h:VR ρ v c)(f:∃k n,v=.int k n)(hd:∃k,P.underlying d=some (.int k)):SR P VR ρ (convert s d v) (convert s d c):=by
 obtain⟨k,n,rfl⟩:=f
 obtain⟨j,g⟩:=hd
 have:=NY h
 subst this;unfold convert;refine(az s).bQ fun q i a=>?_
 refine(je d).bnd fun m l b o e=>?_
 obtain⟨rfl,e⟩:=e
 rw[g]at e;cases e;cases a<;>first|exact .aU (.int _ _)|exact .dead fun _ _=>rfl
theorem oK{l c:Nat}(h:ρ.ob l c):SR P (fun q a b=>adf q a b) ρ (Instr.getLoop l) (Instr.getLoop c):=by
 unfold Instr.getLoop;refine .getObj h fun o f e=>?_
 cases e with
 | loop h=>exact .aU h
 | _=>exact .dead fun _ _=>rfl
theorem ZU{ts:List Tmp}{l d:List Value}(h:LR (VR ρ) l d):∀{c a:Array Value},AR (VR ρ) c a->AR (VR ρ) ((ts.zip l).foldl (fun(t:Array Value) (x:Tmp×Value)=>t.setIfInBounds x.1 x.2) c) ((ts.zip d).foldl (fun(t:Array Value) (x:Tmp×Value)=>t.setIfInBounds x.1 x.2) a):=by
 induction h generalizing ts with
 | nil=>intro c a b;cases ts<;>exact b
 | cons e _ f=>
   intro c a b;cases ts with
   |nil=>exact b
   |cons t ts=>exact f (b.set t e)
theorem ZV{l d:Nat}{a e:Array Value}(h:ρ.ob l d)(f:AR (VR ρ) a e):SR P NR ρ (Instr.yield l a) (Instr.yield d e):=by
 unfold Instr.yield;refine(oK h).bnd fun q b r g c=>?_
 rw[←f.1,c.params];split
 · exact .dead fun _ _=>rfl
 · refine .aU ?_;rw[c.fn,c.assign,c.body];refine .round _ _ _ (b.ob h) ?_;have:=ZU (ts:=r.params.toList) (f.list.mono fun _ _ x=>x.mono b) c.tmps
   rw[←Array.foldl_toList,←Array.foldl_toList,Array.toList_zip,Array.toList_zip];exact this
theorem pI(f:FuncId){a b:Array Value}(h:AR (VR ρ) a b):SR P NR ρ (callFunc f a) (callFunc f b):=by
 unfold callFunc;refine .prog ?_;split
 · exact .stuck
 · split
   ·exact .aU .odd
   ·split
    ·exact .mark
    ·exact .aU (.enter f h)
theorem zq:∀(p:List FieldStep) (t:TypeId) {ρ:Env} {v c:Value},(p.all fun s=>!s.deref)=true->VR ρ v c->SR P (fun q a b=>a.1=b.1/\∃u j,a.2=.val u/\b.2=.val j/\VR q u j) ρ (follow p t (.val v)) (follow p t (.val c))
 | [],t,ρ,v,c,_,h=>.aU ⟨rfl,v,c,rfl,rfl,h⟩
 | s::p,t,ρ,v,c,g,h=>by
   rw[List.all_cons,Bool.and_eq_true,Bool.not_eq_true']at g;unfold follow;refine(az s.struct).bQ fun q i d=>?_
   split
   ·split
    ·rename_i f r;rw[g.1];simp only[Bool.false_eq_true,if_false]
     have k:=h.mono i
     cases k with
     |agg m n=>exact(IV _ ⟨m,n⟩ _).bnd fun w o a b e=>zq p _ g.2 e
     |_=>first|exact .stuck|exact .dead fun _ _=>rfl
    ·exact .stuck
   ·exact .stuck
theorem Ec(t:TypeId)(p:Array FieldStep){v k:Value}(w:(p.toList.all fun s=>!s.deref)=true)(h:VR ρ v k):SR P VR ρ (receiverVia t v p false) (receiverVia t k p false):=by
 unfold receiverVia;refine(zq p.toList t w h).bnd fun q x a b e=>?_
 obtain⟨i,B⟩:=a
 obtain⟨C,D⟩:=b
 obtain⟨l,u,m,n,o,y⟩:=e
 dsimp only at l n o⊢;subst l n o;unfold receiverAt;refine(az i).bQ fun r j d=>?_
 have g:=y.mono j
 cases d with
 | pointer c=>
   dsimp only
   show SR P VR r ((Place.val u).get i>>=fun f=>pure f>>=fun f=>asAddr f>>=loadVar c) ((Place.val m).get i>>=fun f=>pure f>>=fun f=>asAddr f>>=loadVar c);show SR P VR r (asAddr u>>=loadVar c) (asAddr m>>=loadVar c);exact(yR g).bnd fun E z a b e=>by obtain⟨A,rfl⟩:=e;exact qU c A
 | _=>exact .aU g
theorem vJ(t:TypeId){v g:Value}(name:Option String)(i:name=none∨∀e,P.underlying t≠some (.pointer e))(h:VR ρ v g):SR P VR ρ (receiverAt t (.val v) false name) (receiverAt t (.val g) false name):=by
 unfold receiverAt;refine(je t).bnd fun k j d n e=>?_
 obtain⟨rfl,hd⟩:=e
 have f:=h.mono j
 cases d with
 | pointer c=>
   rcases i with rfl|i
   ·show SR P VR k (asAddr v>>=loadVar c) (asAddr g>>=loadVar c);exact(yR f).bnd fun o l a b e=>by obtain⟨m,rfl⟩:=e;exact qU c m
   ·exact absurd hd (i c)
 | _=>exact .aU f
theorem VI(n:Nat)(t:TypeId)(name:String){v p:Value}(c:zn P t name=true)(h:VR ρ v p):SR P (fun q a b=>a.1=b.1/\VR q a.2 b.2) ρ (method (n+1) t v name) (method (n+1) t p name):=by
 unfold zn at c;unfold method;refine(jd t).bnd fun q j i N e=>?_
 obtain⟨rfl,B⟩:=e
 have w:∀m,i.methods.find? (·.name==name)=some m->(m.path.toList.all fun s=>!s.deref)=true/\(∃f,m.func=some (f,false))/\∀e,P.underlying t≠some (.pointer e):=by
   intro m d;split at c
   ·cases c
   ·cases c
   ·rename_i C D;rw[B]at c;dsimp only at c;rw[d]at c;dsimp only at c;rw[Bool.and_eq_true]at c;refine⟨c.1,?_,fun e k=>by rw[D]at k;cases k;exact C e rfl⟩;have l:=c.2;split at l
    ·rename_i f E;exact⟨f,E⟩
    ·cases l
   ·cases c
 cases d:i.methods.find? (·.name==name)with
 | none=>exact .stuck
 | some m=>
   obtain⟨F,⟨f,l⟩,H⟩:=w m d
   dsimp only
   by_cases g:m.path.isEmpty=true
   ·have o:m.path.toList=[]:=by simpa using g
    rw[o];unfold follow;rw[l,if_pos g];show SR P _ q (receiverAt t (.val v) false (some ((name.splitOn ".").getLastD name))>>=fun r=>Pure.pure (f,r)) (receiverAt t (.val p) false (some ((name.splitOn ".").getLastD name))>>=fun r=>Pure.pure (f,r));exact(vJ t _ (.inr H) (h.mono j)).bnd fun J x a b e=>.aU ⟨rfl,e⟩
   ·refine(zq m.path.toList t F (h.mono j)).bnd fun O L a b e=>?_
    obtain⟨Q,R⟩:=a
    obtain⟨T,U⟩:=b
    obtain⟨y,u,V,z,A,M⟩:=e
    dsimp only at y z A⊢;subst y z A;rw[l,if_neg g];exact(vJ _ _ (.inl rfl) M).bnd fun J x a b e=>.aU ⟨rfl,e⟩
theorem E8(t:TypeId)(name:String){v f:Value}{a g:Array Value}(k:zn P t name=true)(h:VR ρ v f)(l:AR (VR ρ) a g):SR P NR ρ (callMethod (.iface t v) name a) (callMethod (.iface t f) name g):=by
 unfold callMethod;dsimp only
 refine .prog ?_;obtain⟨n,m⟩:∃n,P.types.size+Made.depth=n+1:=⟨P.types.size+(Made.depth-1),(Nat.add_assoc _ _ _).symm▸congrArg (P.types.size+·) (Nat.sub_add_cancel (show 1<=Made.depth from by decide)).symm⟩
 rw[m];refine(VI n t name k h).bnd fun o c r p b=>?_
 obtain⟨s,w⟩:=r
 obtain⟨A,y⟩:=p
 obtain⟨e,b⟩:=b
 dsimp only at e b⊢;subst e;refine pI s ?_;have z:AR (VR o) #[w] #[y]:=⟨rfl,fun i u v d j=>by
   rcases i with _|i
   ·simp at d j;subst d j;exact b
   ·simp at d⟩
 exact z.append (AR.mono (R:=VR ρ) (fun _ _ x=>x.mono c) l)
theorem VJ{f H:Fn}{c J a y:Array Value}(Q:Uz ρ f H)(T:AR (VR ρ) c J)(k:AR (VR ρ) a y)(z:(∃g,f=.func g)∨(∃l,f=.yield l)∨(∃t p g,f=.via t p g false/\(p.toList.all fun s=>!s.deref)=true)∨∃t n,f=.methodOf t n/\zn P t n=true):SR P NR ρ (invoke (.fn f c) a) (invoke (.fn H J) y):=by
 cases Q with
 | methodOf t n=>
   rcases z with⟨g,e⟩|⟨l,e⟩|⟨o,L,g,e,A⟩|⟨o,M,e,m⟩
   ·cases e
   ·cases e
   ·cases e
   ·cases e;unfold invoke;dsimp only
    have B:=k.1;cases w:a[0]? with
    |none=>exact .stuck
    |some x=>
     cases b:y[0]? with
     |none=>exfalso;rw[Array.getElem?_eq_none_iff]at b;have:=(Array.getElem?_eq_some_iff.1 w).1;omega
     |some C=>
      have U:=k.2 0 x C w b;dsimp only
      refine(je t).bnd fun q j d Z e=>?_
      obtain⟨rfl,hd⟩:=e
      have D:=(AR.mono (R:=VR ρ) (fun _ _ x=>x.mono j) k).extract 1 a.size;rw[←B];have E:=E8 t n m (U.mono j) D
      cases d with
      |interface _=>exfalso;unfold zn at m;rw[hd]at m;cases m
      |_=>exact E
 | func f=>exact pI f (k.append T)
 | yield h=>exact ZV h k
 | via t p f x=>
   rcases z with⟨g,e⟩|⟨l,e⟩|⟨o,L,g,e,A⟩|⟨o,M,e,m⟩
   ·cases e
   ·cases e
   ·cases e;unfold invoke;dsimp only
    have B:=k.1;cases w:a[0]? with
    |none=>exact .stuck
    |some x=>
     cases b:y[0]? with
     |none=>exfalso;rw[Array.getElem?_eq_none_iff]at b;have:=(Array.getElem?_eq_some_iff.1 w).1;omega
     |some C=>
      refine(Ec t p A (k.2 0 x C w b)).bnd fun q j r W X=>?_
      refine pI f ?_;have Y:AR (VR q) #[r] #[W]:=⟨rfl,fun i u v F O=>by
       rcases i with _|i
       ·simp at F O;subst F O;exact X
       ·simp at F⟩
      have D:=(AR.mono (R:=VR ρ) (fun _ _ x=>x.mono j) k).extract 1 a.size;rw[←B];exact Y.append D
   ·cases e
 | _=>rcases z with⟨g,e⟩|⟨l,e⟩|⟨o,L,g,e,A⟩|⟨o,M,e,m⟩<;>cases e
theorem AR.O1{e f:Operand->Value}{a:Array Operand}(h:∀x∈a,VR ρ (e x) (f x)):AR (VR ρ) (a.map e) (a.map f):=by
 refine⟨by simp,fun i x y b c=>?_⟩;rw[Array.getElem?_map]at b c;cases d:a[i]? with
 | none=>rw[d]at b;cases b
 | some z=>rw[d]at b c;cases b;cases c;exact h z (Array.mem_of_getElem? d)
theorem Ed{e c:Operand->Value}{d:Array (Nat×Operand)}(h:∀x∈d,VR ρ (e x.2) (c x.2)):LR (fun a b=>b.1=a.1/\VR ρ a.2 b.2) (d.map fun(i,x)=>(i,e x)).toList (d.map fun(i,x)=>(i,c x)).toList:=by
 rw[Array.toList_map,Array.toList_map];have:∀l:List (Nat×Operand),(∀x∈l,VR ρ (e x.2) (c x.2))->LR (fun a b=>b.1=a.1/\VR ρ a.2 b.2) (l.map fun(i,x)=>(i,e x)) (l.map fun(i,x)=>(i,c x)):=by
   intro l;induction l with
   |nil=>intro _;exact .nil
   |cons x l f=>intro h;exact .cons ⟨rfl,h x (by simp)⟩ (f fun y g=>h y (by simp[g]))
 exact this _ fun x j=>h x (by simpa using j)
theorem acF{e a:Operand->Value}{r:Option Operand}(h:∀x,r=some x->VR ρ (e x) (a x)):gu (VR ρ) (r.map e) (r.map a):=by
 cases r with
 | none=>exact .none
 | some x=>exact .some (h x rfl)
theorem SR.val{s a:Sem Value}(h:SR P VR ρ s a):SR P NR ρ (s>>=fun x=>Pure.pure (Next.value x)) (a>>=fun x=>Pure.pure (Next.value x)):=h.bnd fun _ _ _ _ h=>.aU (.value h)
theorem SR.unit{s a:Sem Unit}(h:SR P Same ρ s a):SR P NR ρ (s>>=fun _=>Pure.pure Next.skip) (a>>=fun _=>Pure.pure Next.skip):=h.bQ fun _ _ _=>.aU .skip
theorem LX{v b:Value}(h:VR ρ v b){a:Addr}(e:v=.pointer (some a)):ρ.born a.block:=by subst e;cases h;assumption
theorem LY{op:BinOp}{x y:Value}(h:CW op x y=true):Plain x/\Plain y:=by
 unfold CW at h;split at h
 · exact⟨nP _ _,nP _ _⟩
 · exact⟨qY _,qY _⟩
 · simp only[Bool.and_eq_true]at h;exact⟨iG h.1.2,iG h.2⟩
theorem AP(t:TypeId){a i b j:Value}(k:VR ρ a i)(e:VR ρ b j)(h:Gv .eql a b=true):SR P Same ρ (Op.equal t a b) (Op.equal t i j):=by
 unfold Op.equal Op.maxDepth Op.equalIn;refine(az t).bQ fun q _ d=>?_
 cases k with
 | nilslice n c=>cases e with
   |nilslice n c=>cases d<;>first|exact .aU rfl|exact .dead fun _ _=>rfl
   |slice h l=>cases d<;>first|exact .aU rfl|exact .dead fun _ _=>rfl
   |_=>cases h
 | slice h l=>cases e with
   |nilslice n c=>cases d<;>first|exact .aU rfl|exact .dead fun _ _=>rfl
   |_=>cases h
 | dO=>cases e with
   |dO=>cases d<;>first|exact .aU rfl|exact .dead fun _ _=>rfl
   |map h=>cases d<;>first|exact .aU rfl|exact .dead fun _ _=>rfl
   |_=>cases h
 | map h=>cases e with
   |dO=>cases d<;>first|exact .aU rfl|exact .dead fun _ _=>rfl
   |_=>cases h
 | gG=>cases e with
   |gG=>cases d<;>first|exact .aU rfl|exact .dead fun _ _=>rfl
   |ptr h=>cases d<;>first|exact .aU rfl|exact .dead fun _ _=>rfl
   |_=>cases h
 | ptr h=>cases e with
   |gG=>cases d<;>first|exact .aU rfl|exact .dead fun _ _=>rfl
   |_=>cases h
 | nilFunc=>cases e with
   |nilFunc=>cases d<;>first|exact .aU rfl|exact .dead fun _ _=>rfl
   |func=>cases d<;>first|exact .aU rfl|exact .dead fun _ _=>rfl
   |_=>cases h
 | func=>cases e with
   |nilFunc=>cases d<;>first|exact .aU rfl|exact .dead fun _ _=>rfl
   |_=>cases h
 | _=>cases e<;>cases h
theorem ZW(op:BinOp)(t:TypeId)(x y:Operand){a c b d:Value}(e:VR ρ a c)(f:VR ρ b d)(h:Gv op a b=true):SR P VR ρ (do eqGuard op t x y a b;binOp op t a b) (do eqGuard op t x y c d;binOp op t c d):=by
 have k:op=.eql∨op=.neq:=by unfold Gv at h;cases op<;>first|exact .inl rfl|exact .inr rfl|cases h
 have g:Gv .eql a b=true:=by rcases k with rfl|rfl<;>exact h
 have o:=AP (P:=P) t e f g
 have l:SR P Same ρ (eqGuard op t x y a b) (eqGuard op t x y c d):=by
   rcases k with rfl|rfl;all_goals
    cases e<;>cases f<;>first|(cases g;done)|exact .aU rfl
 refine l.bQ fun q i _=>?_
 have j:=AP (P:=P) t (e.mono i) (f.mono i) g
 have m:SR P VR q (do pure (.bool (←Op.equal t a b)):Sem Value) (do pure (.bool (←Op.equal t c d)):Sem Value):=j.bQ fun _ _ _=>.aU (.bool _);have n:SR P VR q (do pure (.bool (!(←Op.equal t a b))):Sem Value) (do pure (.bool (!(←Op.equal t c d))):Sem Value):=j.bQ fun _ _ _=>.aU (.bool _);rcases k with rfl|rfl
 · cases e<;>cases f<;>first|(cases g;done)|exact m
 · cases e<;>cases f<;>first|(cases g;done)|exact n
theorem Uf[aO P]{O D:Nat->Prop}{h:AH}{w:World}(r:Rel ρ O D h w){e R:Operand->Value}(o:Oper)(A:∀x∈o.op.operands,VR ρ (e x) (R x))(v:lX P h e o=true):SR P NR ρ (execOp e o) (execOp R o):=by
 unfold execOp;unfold lX at v;dsimp only
 generalize a5:o.op=op at v A
 cases op with
 | move x=>exact .aU (.value (A x (by simp[Op.operands])))
 | assign x=>exact .aU (.value (A x (by simp[Op.operands])))
 | pick c a b=>
   dsimp only
   refine(G6 (A c (by simp[Op.operands]))).bQ fun q V t=>.aU (.value ?_);split
   ·exact(A a (by simp[Op.operands])).mono V
   ·exact(A b (by simp[Op.operands])).mono V
 | alloc t=>exact(Yy t).val
 | box t x=>exact(afr t (A x (by simp[Op.operands]))).val
 | build t ps=>exact(Yz t (Ed fun x C=>A x.2 (by simp only[Op.operands,List.mem_toArray,List.mem_map];exact⟨x,by simpa using C,rfl⟩))).val
 | buildSlice t n ps=>exact(EY t n (Ed fun x C=>A x.2 (by simp only[Op.operands,List.mem_toArray,List.mem_map];exact⟨x,by simpa using C,rfl⟩))).val
 | load t x=>exact(U6 t (A x (by simp[Op.operands]))).val
 | store t a x=>exact(NZ t (A a (by simp[Op.operands])) (A x (by simp[Op.operands]))).unit
 | nilCheck x=>
   dsimp only at v⊢;have:=A x (by simp[Op.operands])
   revert this v;generalize e x=u
   generalize R x=u'
   intro v this;cases this with
   | @func f f' a a' b b' Q L M T U=>
    cases Q with
    |method n=>cases v
    |func f=>exact .aU (.value (.func (.func f) L M T U))
    |methodOf t n=>exact .aU (.value (.func (.methodOf t n) L M T U))
    |via t p f z=>exact .aU (.value (.func (.via t p f z) L M T U))
    |yield hl=>exact .aU (.value (.func (.yield hl) L M T U))
   |gG=>exact .dead (bV _)
   |nilIface=>exact .dead (bV _)
   |nilFunc=>exact .dead (bV _)
   |bool b=>exact .aU (.value (.bool b))
   |int k n=>exact .aU (.value (.int k n))
   |string s=>exact .aU (.value (.string s))
   |ptr h=>exact .aU (.value (.ptr h))
   |nilslice n c=>exact .aU (.value (.nilslice n c))
   |slice h hc=>exact .aU (.value (.slice h hc))
   |dO=>exact .aU (.value .dO)
   |map h=>exact .aU (.value (.map h))
   |eH=>exact .aU (.value .eH)
   |chan h=>exact .aU (.value (.chan h))
   |iface h=>exact .aU (.value (.iface h))
   |agg L M=>exact .aU (.value (.agg L M))
   |tuple L M=>exact .aU (.value (.tuple L M))
 | binOp op t x y t2=>
   dsimp only at v⊢;have C:=A x (by simp[Op.operands])
   have F:=A y (by simp[Op.operands])
   rcases Bool.or_eq_true_iff.1 v with v|v;rotate_left
   ·exact(ZW op t x y C F v).val
   obtain⟨Y,Z⟩:=LY v
   rw[Y.eq C,Z.eq F];refine SR.val ?_;refine(SR.dry (Lp op t x y Y Z)).bQ fun q _ _=>?_
   exact(U4 op t v Y Z q).imp fun τ _ a b e=>by obtain⟨rfl,e⟩:=e;exact e.vr τ
 | unOp op t x=>exact(ZT op (A x (by simp[Op.operands]))).val
 | convert s d x=>
   dsimp only at v⊢;refine(OZ s d (A x (by simp[Op.operands])) ?_ ?_).val
   ·split at v
    ·rename_i k n j C hj;exact⟨k,n,C⟩
    ·cases v
   ·split at v
    ·rename_i k n j C hj;exact⟨j,hj⟩
    ·cases v
 | makeInterface t x=>exact(yS t (A x (by simp[Op.operands]))).val
 | makeFunc fn a b=>
   dsimp only at v⊢;split at v
   ·exact(tX (.func _) (AR.O1 fun x C=>A x (by simp[Op.operands,C])) (AR.O1 fun x C=>A x (by simp[Op.operands,C]))).val
   ·exact(tX (.via _ _ _ _) (AR.O1 fun x C=>A x (by simp[Op.operands,C])) (AR.O1 fun x C=>A x (by simp[Op.operands,C]))).val
   ·exact(tX (.methodOf _ _) (AR.O1 fun x C=>A x (by simp[Op.operands,C])) (AR.O1 fun x C=>A x (by simp[Op.operands,C]))).val
   ·cases v
 | makeMap t r=>exact(Oa t (acF fun x C=>A x (by subst C;simp[Op.operands]))).val
 | makeSlice t l c=>exact(IX t (A l (by simp[Op.operands])) (A c (by simp[Op.operands]))).val
 | slice t x lo hi mx=>
   dsimp only at v⊢;have C:=A x (by simp[Op.operands])
   exact(Ob t C (acF fun y F=>A y (by subst F;simp[Op.operands])) (acF fun y F=>A y (by subst F;simp[Op.operands])) (acF fun y F=>A y (by subst F;simp[Op.operands])) (acE r C v)).val
 | fieldAddr s x f=>exact(N7 s f v (A x (by simp[Op.operands]))).val
 | field t x f=>exact(YB t f (A x (by simp[Op.operands]))).val
 | indexAddr t x i=>exact(N8 t (A x (by simp[Op.operands])) (A i (by simp[Op.operands]))).val
 | index t x i=>exact(YC t (A x (by simp[Op.operands])) (A i (by simp[Op.operands]))).val
 | lookup t x k c=>exact(U7 t c (A x (by simp[Op.operands])) (A k (by simp[Op.operands])) (iG v)).val
 | mapUpdate t m k x=>exact(xO t (A m (by simp[Op.operands])) (A k (by simp[Op.operands])) (iG v) (A x (by simp[Op.operands]))).unit
 | insert t m k x=>exact(xO t (A m (by simp[Op.operands])) (A k (by simp[Op.operands])) (iG v) (A x (by simp[Op.operands]))).unit
 | mapEntry t m k=>exact(Lr t (A m (by simp[Op.operands])) (A k (by simp[Op.operands])) (iG v)).val
 | entryStore t m s x=>exact(E5 t (A m (by simp[Op.operands])) (A s (by simp[Op.operands])) (A x (by simp[Op.operands]))).unit
 | range t x=>exact(ZM t (A x (by simp[Op.operands]))).val
 | next it s=>
   have C:=A it (by simp[Op.operands])
   exact(acA s o.type C (LW r (fun a ha=>LX C ha) v)).val
 | entry it=>
   have C:=A it (by simp[Op.operands])
   exact(ZO C (LW r (fun a ha=>LX C ha) v)).val
 | extract x i=>exact(N9 i (A x (by simp[Op.operands]))).val
 | call c=>
   obtain⟨callee,args,H⟩:=c
   dsimp only at v⊢;have E:AR (VR ρ) (args.map e) (args.map R):=AR.O1 fun x C=>A x (by simp[Op.operands,Call.operands,C])
   unfold resolve;cases callee with
   |invoke r m=>cases v
   |value f=>
    have Q:=A f (by simp[Op.operands,Call.operands])
    dsimp only at v⊢;revert v Q;generalize e f=u
    generalize R f=u'
    intro v Q;cases Q with
    | @func g g' a a' b b' hg L M T U=>
     refine VJ hg ⟨T,U⟩ (AR.append ⟨L,M⟩ E) ?_;cases g with
     |func g=>exact .inl ⟨g,rfl⟩
     |yield l=>exact .inr (.inl ⟨l,rfl⟩)
     |via t p f x=>
      have W:(!x&&p.toList.all fun s=>!s.deref)=true:=v
      rw[Bool.and_eq_true,Bool.not_eq_true']at W;obtain⟨rfl,hp⟩:=W
      exact .inr (.inr (.inl ⟨t,p,f,rfl,hp⟩))
     |methodOf t n=>exact .inr (.inr (.inr ⟨t,n,rfl,v⟩))
     |_=>cases v
    |_=>cases v
   |builtin b=>
    dsimp only at v⊢;cases b with
    |len=>exact(af6 H o.type E).val
    |min=>exact(af7 H o.type E).val
    |max=>exact(af8 H o.type E).val
    |copy=>exact(acD H o.type E).val
    |cap=>
     obtain⟨args⟩:=args
     dsimp only at v;match args,v with
     | [x],v=>
      refine(af9 H o.type E ?_).val;have N:=A x (by simp[Op.operands,Call.operands])
      revert v N;dsimp only
      generalize F:e x=y
      intro v N;unfold ad9 at v;split at v
      ·rename_i n c;exact .inl ⟨n,c,by simp[F]⟩
      ·rename_i a n c;split at v
       ·rename_i B hB;refine .inr ⟨a,n,c,by simp[F],fun hs=>?_⟩;have a0:ρ.born a.block:=by generalize R x=z at N;cases N;assumption
        have:=((r.bg a.block B a0 hB).1.1 hs)
        cases Q:B.gB with
        |none=>exact this Q
        |some f=>rw[Q]at v;cases v
       ·cases v
      ·cases v
     | [],v=>cases v
     |_::_::_,v=>cases v
    |clear=>
     obtain⟨args⟩:=args
     dsimp only at v;match args,v with
     | [x],v=>
      refine(ZQ H o.type E ?_).val;revert v;dsimp only
      generalize F:e x=y
      intro v;cases y with
      |slice b n c=>exact⟨b,n,c,by simp[F]⟩
      |_=>cases v
     | [],v=>cases v
     |_::_::_,v=>cases v
    |_=>cases v
 | _=>exact absurd v (by simp)
end
end Go.Am
namespace Go.Am
open Go.Ren (grow gU aT aB)
inductive aV where
 | code (c:Code)
 | inBlock (id:Nat)
 | inLoop (body:Code)
 | inScope (body:Code)
 | region (ops:Array Oper) (l:List Nat)
 | drawn (ops:Array Oper) (l:List (Nat×List Nat))
 | inRangeFunc (l:Nat)
 | endRangeFunc (l:Nat)
 | beginRound
structure aN where
 fn:FuncId
 tmps:Array Value
 todo:List aV
 defers:List Deferred
 ret:Bool
 round:Option Nat
 dk:Bool:=false
structure AS where
 fr:aN
 cs:List aN
 h:AH
def ay(tmps:Array Value):Operand->Value
 | .tmp t=>tmps.getD t undef
 | .const v=>v
 | .global g=>.pointer (some ⟨g,0,none⟩)
 | .func f=>.func (.func f) #[] #[]
def bC(o:Oper):Bool:=o.op.operands.toList.all fun
 | .const v=>iQ 9 v
 | .global _=>false
 | _=>true
def aN.enter(P:Program)(f:FuncId)(args:Array Value):aN:=
 let a:=P.funcs[f]?
 { fn:=f,tmps:=args++Array.replicate ((a.map (·.ntmps)).getD 0-args.size) undef,
   todo:=[.code ((a.bind (·.body)).getD (.refuse "unsupported: a function without a Go body is entered"))],defers:=[],ret:=false,round:=none}
def aN.Ug(l:Nat)(f:FuncId)(tmps:Array Value)(assign a:Code):aN:=
 { fn:=f,tmps,todo:=[.code assign,.beginRound,.code a],defers:=[],ret:=false,round:=some l}
def qJ(id:Nat):List aV->Option (List aV)
 | .inBlock a::k=>if a==id then some k else qJ id k
 | _::k=>qJ id k
 | []=>none
def uU(l:Nat):List aV->Option (List aV)
 | .inScope a::k=>
   match findLabel a l with
   |some rest=>some (.code rest::.inScope a::k)
   |none=>uU l k
 | _::k=>uU l k
 | []=>none
def dP(tmps:Array Value)(a:Option Tmp)(v:Value):Array Value:=
 match a with
 | some d=>tmps.setIfInBounds d v
 | none=>tmps
inductive Cf(ρ:Env):aV->Item->Prop
 | code (c:Code):Cf ρ (.code c) (.code c)
 | inBlock (id:Nat):Cf ρ (.inBlock id) (.inBlock id)
 | inLoop (b:Code):Cf ρ (.inLoop b) (.inLoop b)
 | inScope (b:Code):Cf ρ (.inScope b) (.inScope b)
 | region (ops:Array Oper) (l:List Nat):Cf ρ (.region ops l) (.inRegion ops l)
 | inRangeFunc {l l':Nat} (h:ρ.ob l l'):Cf ρ (.inRangeFunc l) (.inRangeFunc l')
 | endRangeFunc {l l':Nat} (h:ρ.ob l l'):Cf ρ (.endRangeFunc l) (.endRangeFunc l')
 | beginRound:Cf ρ .beginRound .beginRound
theorem Cf.mono{ρ d:Env}(h:ρ.Le d){a:aV}{b:Item}(k:Cf ρ a b):Cf d a b:=by
 cases k with
 | code c=>exact .code c
 | inBlock c=>exact .inBlock c
 | inLoop c=>exact .inLoop c
 | inScope c=>exact .inScope c
 | region o l=>exact .region o l
 | inRangeFunc k=>exact .inRangeFunc (h.ob k)
 | endRangeFunc k=>exact .endRangeFunc (h.ob k)
 | beginRound=>exact .beginRound
structure FB(ρ:Env)(a:aN)(f:Frame):Prop where
 fn:f.fn=a.fn
 defers:LR (DR ρ) a.defers f.defers
 mode:f.mode=if a.ret then .returning else .run
 kind:f.kind=if a.dk then .deferred else .normal
 round:gu ρ.ob a.round f.roundOf
theorem FB.ne{b:Env}{a:aN}{f:Frame}(h:FB b a f):f.kind≠.early:=by rw[h.kind];split<;>simp
theorem FB.normal{ρ:Env}{a:aN}{f:Frame}(h:FB ρ a f)(hd:a.dk=false):f.kind=.normal:=by rw[h.kind,hd];rfl
theorem FB.mono{ρ b:Env}(h:ρ.Le b){a:aN}{f:Frame}(k:FB ρ a f):FB b a f:=
 ⟨k.fn,k.defers.mono fun _ _ x=>x.mono h,k.mode,k.kind,k.round.mono fun _ _ x=>h.ob x⟩
structure F0(ρ:Env)(a:aN)(f:Frame):Prop extends FB ρ a f where
 tmps:AR (VR ρ) a.tmps f.tmps
 todo:LR (Cf ρ) a.todo f.todo
theorem F0.mono{ρ b:Env}(h:ρ.Le b){a:aN}{f:Frame}(k:F0 ρ a f):F0 b a f:=
 ⟨k.toFB.mono h,k.tmps.mono fun _ _ x=>x.mono h,k.todo.mono fun _ _ x=>x.mono h⟩
section
variable{P:Program}{c σ:Env}
theorem xZ{a b:Array Value}(h:AR (VR c) a b)(t:Nat):VR c (a.getD t undef) (b.getD t undef):=by
 have:=h.get t
 rw[Array.getD_eq_getD_getElem?,Array.getD_eq_getD_getElem?];revert this;generalize a[t]?=x
 generalize b[t]?=y
 intro this;cases this with
 | none=>exact kE
 | some h=>exact h
theorem aga{o:Oper}(j:bC o=true){a b:Array Value}(h:AR (VR c) a b){e:Operand->Value}(k:e=fun x=>match x with|.tmp t=>b.getD t undef|.const v=>v|.global g=>.pointer (some ⟨g,0,none⟩)|.func f=>.func (.func f) #[] #[]):∀x∈o.op.operands,VR c (ay a x) (e x):=by
 intro x l;subst k;have:=List.all_eq_true.1 j x (by simpa using l);cases x with
 | tmp t=>exact xZ h t
 | const v=>exact(iG this).vr c
 | global g=>cases this
 | func f=>exact .func (.func f) rfl (fun i x y h=>by simp at h) rfl (fun i x y h=>by simp at h)
theorem O3(f:Frame):f.eval=fun x=>match x with|.tmp t=>f.tmps.getD t undef|.const v=>v|.global g=>.pointer (some ⟨g,0,none⟩)|.func f=>.func (.func f) #[] #[]:=by
 funext x;cases x<;>rfl
theorem ZX{k:List aV}{a:List Item}(h:LR (Cf c) k a)(id:Nat):gu (LR (Cf c)) (qJ id k) (exitTo id a):=by
 induction h with
 | nil=>exact .none
 | cons h d b=>
   cases h<;>first|exact b|skip
   rename_i e;unfold qJ exitTo;split
   ·exact .some d
   ·exact b
theorem ZY{k:List aV}{a:List Item}(h:LR (Cf c) k a)(l:Nat):gu (LR (Cf c)) (uU l k) (gotoIn l a):=by
 induction h with
 | nil=>exact .none
 | cons h e d=>
   cases h<;>first|exact d|skip
   rename_i b;unfold uU gotoIn;cases findLabel b l with
   |some rest=>exact .some (LR.cons (.code _) (LR.cons (.inScope _) e))
   |none=>exact d
theorem ZZ{a b:Array Value}(h:AR (VR c) a b)(d:Option Tmp){v e:Value}(f:VR c v e):AR (VR c) (dP a d v) (dP b d e):=by
 cases d with
 | none=>exact h
 | some d=>exact h.set d f
theorem Bv(f:FuncId){a b:Array Value}(h:AR (VR c) a b):F0 c (aN.enter P f a) (Frame.enter P f b .normal):=by
 refine⟨⟨rfl,.nil,rfl,rfl,.none⟩,?_,.cons (.code _) .nil⟩;show AR (VR c) (a++_) (b++_);rw[←h.1];exact h.append (.refl fun x d=>by rw[Array.mem_replicate]at d;rw[d.2];exact kE)
theorem acG{l d:Nat}(g:c.ob l d)(f:FuncId){a e:Array Value}(h:AR (VR c) a e)(x b:Code):F0 c (aN.Ug l f a x b) (Frame.round d f e x b .normal):=
 ⟨⟨rfl,.nil,rfl,rfl,.some g⟩,h,.cons (.code _) (.cons .beginRound (.cons (.code _) .nil))⟩
theorem um(k:FuncId)(b:Array Event):∀e∈seen P k b,e∈b:=by
 unfold seen;dsimp only
 rw[←Array.foldl_toList];have h:∀(l:List Event) (q:Bool) (kept:Array Event),(∀e∈kept,e∈b)->(∀e∈l,e∈b)->∀e∈(l.foldl (fun(x:Bool×Array Event) e=>match x with|(q,kept)=>match e.loc with|.mark (.extern f)=>((P.funcs[f]?).any (·.norace),kept)|_=>(q,if q&&!e.sync then kept else kept.push e)) (q,kept)).2,e∈b:=by
   intro l;induction l with
   |nil=>intro q kept g _;exact g
   |cons x l i=>
    intro q kept g j;have m:=j x (by simp)
    have d:∀e∈l,e∈b:=fun e a=>j e (by simp[a])
    rw[List.foldl_cons];have n:∀e∈kept.push x,e∈b:=fun e a=>by
     rcases Array.mem_push.1 a with a|a
     ·exact g e a
     ·rw[a];exact m
    dsimp only
    split
    ·exact i _ _ g d
    ·split
     ·exact i _ _ g d
     ·exact i _ _ n d
 exact h b.toList _ #[] (fun e a=>by simp at a) (fun e a=>by simpa using a)
end
end Go.Am
namespace Go.Am
def Edge(a:Array Oper)(j i:Nat):Prop:=∃o e,a[i]?=some o/\e∈o.after/\Region.binds .any e=true/\e.on=j
inductive VK(ops:Array Oper):List Nat->Prop
 | nil:VK ops []
 | cons {i:Nat} {l:List Nat} (h:∀j,Edge ops j i->j∉i::l) (hn:i∉l) (k:VK ops l):VK ops (i::l)
def Down(a:Array Oper)(l:List Nat):Prop:=∀i j,i<a.size->i∉l->Edge a j i->j∉l
def backOk(a:Array Oper):Bool:=(List.range a.size).all fun i=>match a[i]? with
 | none=>true
 | some o=>o.after.all fun e=>!Region.binds .any e||decide (e.on<i)
theorem uV{a:Array Oper}(h:backOk a=true){i j:Nat}(b:i<a.size)(e:Edge a j i):j<i:=by
 obtain⟨o,ed,c,d,f,rfl⟩:=e
 have:=List.all_eq_true.1 h i (by simpa using b);rw[c]at this;dsimp only at this;have:=Array.all_eq_true'.1 this ed d;simpa [f]using this
theorem filter_lt{c:Type}{p q:c->Bool}(a:∀x,q x=true->p x=true):∀{l:List c},(∃x∈l,p x=true/\q x=false)->(l.filter q).length<(l.filter p).length:=by
 have le:∀l:List c,(l.filter q).length<=(l.filter p).length:=by
   intro l;induction l with
   |nil=>simp
   |cons x l b=>
    rw[List.filter_cons,List.filter_cons];cases d:q x with
    |true=>rw[if_pos rfl,if_pos (a x d)];simpa using b
    |false=>
     rw[if_neg (by simp)];split
     ·simp;omega
     ·exact b
 intro l;induction l with
 | nil=>rintro⟨x,h,_⟩;simp at h
 | cons x l b=>
   rintro⟨y,e,f,g⟩;rw[List.filter_cons,List.filter_cons];rcases List.mem_cons.1 e with rfl|e
   ·rw[if_neg (by simp[g]),if_pos f];have:=le l
    simp;omega
   ·have:=b ⟨y,e,f,g⟩
    cases d:q x with
    |true=>rw[if_pos rfl,if_pos (a x d)];simpa using this
    |false=>
     rw[if_neg (by simp)];split
     ·simp;omega
     ·exact this
def VL(n:Nat)(listed:Array Bool):List Nat:=(List.range n).filter fun i=>!listed.getD i true
theorem rM{n:Nat}{listed:Array Bool}{i:Nat}:i∈VL n listed↔i<n/\listed.getD i true=false:=by simp[VL]
theorem Ee{listed:Array Bool}{i j:Nat}(a:i<listed.size)(d:Bool):(listed.setIfInBounds i true).getD j d=if i=j then true else listed.getD j d:=by
 rw[Array.getD_eq_getD_getElem?,Array.getD_eq_getD_getElem?,Array.getElem?_setIfInBounds];by_cases e:i=j
 · subst e;simp[a]
 · simp[e]
theorem agb{a:Array Oper}(z:backOk a=true):∀(b t:Nat) (listed:Array Bool),listed.size=a.size->(VL a.size listed).length<=b->VK a (Region.linearise.go .any a b t listed [])/\∀i,i∈Region.linearise.go .any a b t listed []↔i∈VL a.size listed:=by
 intro b;induction b with
 | zero=>intro t listed w A;have:VL a.size listed=[]:=List.length_eq_zero_iff.1 (by omega);rw[this];exact⟨.nil,fun i=>Iff.rfl⟩
 | succ b J=>
   intro t listed w A;simp only[Region.linearise.go]
   change (VK a (match(Region.ready .any a listed)[t%(Region.ready .any a listed).length]? with
    |some i=>Region.linearise.go .any a b (t/(Region.ready .any a listed).length) (listed.setIfInBounds i true) [i]
    |none=>[].reverse))/\∀i,i∈(match(Region.ready .any a listed)[t%(Region.ready .any a listed).length]? with
    |some i=>Region.linearise.go .any a b (t/(Region.ready .any a listed).length) (listed.setIfInBounds i true) [i]
    |none=>[].reverse)↔i∈VL a.size listed
   have ready:∀i,i∈Region.ready .any a listed↔i<a.size/\listed.getD i true=false/\∀j,Edge a j i->listed.getD j false=true:=by
    intro i;unfold Region.ready;simp only[List.mem_filter,List.mem_range,Bool.and_eq_true,Bool.not_eq_true']
    constructor
    ·rintro⟨f,g,d⟩;refine⟨f,g,?_⟩;rintro j ⟨o,e,L,M,N,rfl⟩;rw[L]at d;simp only[Option.map_some,Option.getD_some]at d;have:=Array.all_eq_true'.1 d e M;simpa [N]using this
    ·rintro⟨f,g,d⟩;refine⟨f,g,?_⟩;have:a[i]?=some a[i]:=by simp[f]
     rw[this];simp only[Option.map_some,Option.getD_some]
     refine Array.all_eq_true'.2 fun e O=>?_
     cases z:Region.binds .any e with
     |false=>rfl
     |true=>simpa using d e.on ⟨_,e,this,O,z,rfl⟩
   cases B:(Region.ready .any a listed)[t%(Region.ready .any a listed).length]? with
   |none=>
    have u:Region.ready .any a listed=[]:=by
     cases y:Region.ready .any a listed with
     |nil=>rfl
     |cons x xs=>
      rw[y]at B;have l:t%(x::xs).length<(x::xs).length:=Nat.mod_lt _ (by simp)
      simp at B;simp at l;omega
    have C:∀n i,i<n->i∉VL a.size listed:=by
     intro n;induction n with
     |zero=>intro i h;omega
     |succ n D=>
      intro i P c;obtain⟨f,g⟩:=rM.1 c;have y:i∈Region.ready .any a listed:=(ready i).2 ⟨f,g,fun j E=>by
       have l:=uV z f E
       have:=D j (by omega)
       rw[rM]at this;have m:j<a.size:=by omega
       have d:listed.getD j true=true:=by
        cases h:listed.getD j true with
        |true=>rfl
        |false=>exact absurd ⟨m,h⟩ this
       rw[Array.getD_eq_getD_getElem?]at d⊢;have:listed[j]?=some (listed[j]'(w▸m)):=by simp[w,m]
       rw[this]at d⊢;exact d⟩
      rw[u]at y;cases y
    refine⟨.nil,fun i=>⟨fun h=>by simp at h,fun h=>absurd h (C (i+1) i (by omega))⟩⟩
   |some i=>
    dsimp only
    rw[linearise_go_acc,List.reverse_singleton,List.singleton_append];obtain⟨f,g,d⟩:=(ready i).1 (List.mem_of_getElem? B);have p:i<listed.size:=by omega
    have c:∀k,k∈VL a.size (listed.setIfInBounds i true)↔k∈VL a.size listed/\k≠i:=by
     intro k;rw[rM,rM,Ee p];by_cases e:i=k
     ·subst e;simp
     ·rw[if_neg e];exact⟨fun h=>⟨h,Ne.symm e⟩,fun h=>h.1⟩
    have l:(VL a.size (listed.setIfInBounds i true)).length<(VL a.size listed).length:=by
     refine filter_lt (fun k v=>?_) ⟨i,by simpa using f,by simpa using g,by rw[Ee p];simp⟩;rw[Ee p]at v;by_cases e:i=k
     ·rw[if_pos e]at v;cases v
     ·rw[if_neg e]at v;exact v
    obtain⟨Q,F⟩:=J (t/(Region.ready .any a listed).length) (listed.setIfInBounds i true) (by simpa using w) (by omega)
    refine⟨.cons (fun j E q=>?_) (fun R=>?_) Q,fun k=>?_⟩
    ·have H:=d j E
     have r:listed.getD j true=true:=by
      rw[Array.getD_eq_getD_getElem?]at H⊢;cases h:listed[j]? with
      |none=>rfl
      |some x=>rw[h]at H;exact H
     rcases List.mem_cons.1 q with rfl|q
     ·rw[g]at r;cases r
     ·have:=(c j).1 ((F j).1 q);have:=(rM.1 this.1).2;rw[r]at this;cases this
    ·exact((c i).1 ((F i).1 R)).2 rfl
    ·rw[List.mem_cons,F,c];constructor
     ·rintro(rfl|h)
      ·exact rM.2 ⟨f,g⟩
      ·exact h.1
     ·intro h;by_cases e:k=i
      ·exact .inl e
      ·exact .inr ⟨h,e⟩
theorem Js{ops:Array Oper}(b:backOk ops=true)(t:Nat):VK ops (Region.schedule true ops t)/\∀i,i∈Region.schedule true ops t↔i<ops.size:=by
 have c:Region.schedule true ops t=Region.linearise.go .any ops ops.size t (Array.replicate ops.size false) []:=by simp[Region.schedule,Region.linearise]
 rw[c];have a:∀i,i∈VL ops.size (Array.replicate ops.size false)↔i<ops.size:=by
   intro i;rw[rM];constructor
   ·exact fun h=>h.1
   ·intro h;refine⟨h,?_⟩;rw[Array.getD_eq_getD_getElem?];simp[Array.getElem?_replicate,h]
 obtain⟨d,e⟩:=agb b ops.size t (Array.replicate ops.size false) (by simp) (by
   have:=List.length_filter_le (fun i=>!(Array.replicate ops.size false).getD i true) (List.range ops.size)
   simpa [VL]using this)
 exact⟨d,fun i=>(e i).trans (a i)⟩
inductive Anc(ops:Array Oper):Nat->Nat->Prop
 | one {i j:Nat} (h:Edge ops j i):Anc ops j i
 | more {i j k:Nat} (h:Edge ops k i) (t:Anc ops j k):Anc ops j i
theorem Down.anc{a:Array Oper}{l:List Nat}(hd:Down a l)(d:backOk a=true){i j:Nat}(h:Anc a j i):i<a.size->i∉l->j∉l:=by
 induction h with
 | one h=>intro b c;exact hd _ _ b c h
 | more h t e=>intro b c;exact e (Nat.lt_trans (uV d b h) b) (hd _ _ b c h)
theorem VK.head{a:Array Oper}{i:Nat}{l:List Nat}(h:VK a (i::l))(hd:Down a (i::l))(b:backOk a=true)(c:i<a.size){j:Nat}(d:Anc a j i):j∉i::l:=by
 cases h with
 | cons h f k=>
   cases d with
   |one e=>exact h _ e
   |more e t=>exact hd.anc b t (Nat.lt_trans (uV b c e) c) (h _ e)
theorem VK.down{a:Array Oper}{i:Nat}{l:List Nat}(h:VK a (i::l))(hd:Down a (i::l)):Down a l:=by
 intro k j f g e;cases h with
 | cons h m n=>
   by_cases b:k=i
   ·subst b;exact fun c=>h j e (List.mem_cons_of_mem _ c)
   ·exact fun c=>hd k j f (fun d=>(List.mem_cons.1 d).elim b g) e (List.mem_cons_of_mem _ c)
def maskAt(t:List Nat)(n i:Nat):Nat:=bif Nat.blt i n then t.getD (n-1-i) 0 else 0
def kK(a:Array Oper):Nat->List Nat
 | 0=>[]
 | n+1=>
   let t:=kK a n
   (match a[n]? with
   |none=>0
   |some o=>o.after.toList.foldr (fun e b=>bif Region.binds .any e then Nat.lor (Nat.lor b (Nat.shiftLeft 1 e.on)) (maskAt t n e.on)else b) 0)::t
def dep(a:Array Oper)(n i j:Nat):Bool:=Nat.testBit (maskAt (kK a n) n i) j
theorem Jt{a:Array Oper}:∀(n i j:Nat),dep a n i j=true->Anc a j i:=by
 intro n;unfold dep;induction n with
 | zero=>
   intro i j h;unfold maskAt at h;have:Nat.blt i 0=false:=by cases i<;>rfl
   rw[this]at h;simp at h
 | succ n t=>
   intro i j h;unfold maskAt at h;cases d:Nat.blt i (n+1)with
   |false=>rw[d]at h;simp at h
   |true=>
    rw[d,cond_true]at h;have y:i<n+1:=Nat.blt_eq▸d
    by_cases e:i=n
    ·subst e;rw[show i+1-1-i=0 by omega]at h;simp only[kK,List.getD_cons_zero]at h;cases m:a[i]? with
     |none=>rw[m]at h;simp at h
     |some o=>
      rw[m]at h;dsimp only at h;have p:∀(l:List Go.Edge),(∀e∈l,e∈o.after.toList)->Nat.testBit (l.foldr (fun e b=>bif Region.binds .any e then Nat.lor (Nat.lor b (Nat.shiftLeft 1 e.on)) (maskAt (kK a i) i e.on)else b) 0) j=true->Anc a j i:=by
       intro l;induction l with
       |nil=>intro _ h;simp at h
       |cons e l g=>
        intro q h;simp only[List.foldr_cons]at h;cases r:Region.binds .any e with
        |false=>rw[r,cond_false]at h;exact g (fun x s=>q x (List.mem_cons_of_mem _ s)) h
        |true=>
         rw[r,cond_true]at h;have u:Edge a e.on i:=⟨o,e,m,by simpa using q e (by simp),r,rfl⟩
         have c:Nat.testBit ((l.foldr (fun e b=>bif Region.binds .any e then Nat.lor (Nat.lor b (Nat.shiftLeft 1 e.on)) (maskAt (kK a i) i e.on)else b) 0|||(1<<<e.on))|||maskAt (kK a i) i e.on) j=true:=h
         rw[Nat.testBit_or,Nat.testBit_or]at c;simp only[Bool.or_eq_true]at c;rcases c with(c|c)|c
         ·exact g (fun x s=>q x (List.mem_cons_of_mem _ s)) c
         ·rw[Nat.testBit_shiftLeft]at c;simp only[Bool.and_eq_true,decide_eq_true_eq]at c;have v:=c.2;have:j-e.on=0:=by
            cases w:j-e.on with
            | zero=>rfl
            | succ k=>rw[w]at v;simp[Nat.testBit_succ]at v
          have:e.on=j:=by omega
          subst this;exact .one u
         ·exact .more u (t _ _ c)
      exact p _ (fun _ h=>h) h
    ·refine t i j ?_;unfold maskAt;have:Nat.blt i n=true:=by rw[Nat.blt_eq];omega
     rw[this,cond_true];rw[show n+1-1-i=(n-1-i)+1 by omega]at h;simpa [kK]using h
end Go.Am
