import GoSem.Dispatch
import GoSem.Machine.Exec
import Derived.Orders
import Derived.Test.YtgfjlblikffnaaaGreatH2
set_option linter.unusedVariables false
set_option linter.unusedSectionVars false
set_option linter.unusedSimpArgs false
namespace Go.Am
open Go.Ren (grow fM aO az)
section
variable{P:Program}{ρ σ:Env}{α β γ δ:Type}
theorem LR.filter{R:α→β→Prop}{l:List α}{m:List β}(h:LR R l m){p:α→Bool}{q:β→Bool}(hpq:∀x y,R x y→q y=p x):LR R (l.filter p) (m.filter q):=by
 induction h with
 | nil=>exact .nil
 | cons h _ ih=>
   rw [List.filter_cons,List.filter_cons,hpq _ _ h]
   split
   ·exact .cons h ih
   ·exact ih
theorem AR.filter{R:α→β→Prop}{a:Array α}{b:Array β}(h:AR R a b){p:α→Bool}{q:β→Bool}(hpq:∀x y,R x y→q y=p x):AR R (a.filter p) (b.filter q):=by
 obtain ⟨l⟩:=a
 obtain ⟨m⟩:=b
 rw [List.filter_toArray,List.filter_toArray]
 exact (h.list.filter hpq).arr
theorem AR.map{R:α→β→Prop}{S:γ→δ→Prop}{a:Array α}{b:Array β}(h:AR R a b){f:α→γ}{g:β→δ}(hfg:∀x y,R x y→S (f x) (g y)):AR S (a.map f) (b.map g):=by
 refine ⟨by simp [h.1],fun i x y hx hy=>?_⟩
 rw [Array.getElem?_map] at hx hy
 have:=h.get i
 revert this hx hy
 generalize a[i]? = u
 generalize b[i]? = v
 intro hx hy this
 cases this with
 | none=>cases hx
 | some h=>cases hx;cases hy;exact hfg _ _ h
theorem AR.isEmpty{R:α→β→Prop}{a:Array α}{b:Array β}(h:AR R a b):b.isEmpty=a.isEmpty:=by simp only [Array.isEmpty,h.1]
theorem LR.all{R:α→β→Prop}{l:List α}{m:List β}(h:LR R l m){p:α→Bool}{q:β→Bool}(hpq:∀x y,R x y→q y=p x):m.all q=l.all p:=by
 induction h with
 | nil=>rfl
 | cons h _ ih=>simp only [List.all_cons,hpq _ _ h,ih]
theorem AR.all{R:α→β→Prop}{a:Array α}{b:Array β}(h:AR R a b){p:α→Bool}{q:β→Bool}(hpq:∀x y,R x y→q y=p x):b.all q=a.all p:=by
 have:=h.list.all hpq
 rw [Array.all_toList,Array.all_toList] at this
 exact this
theorem LR.find{R:α→β→Prop}{l:List α}{m:List β}(h:LR R l m){p:α→Bool}{q:β→Bool}(hpq:∀x y,R x y→q y=p x):eF R (l.find? p) (m.find? q):=by
 induction h with
 | nil=>exact .none
 | cons h _ ih=>
   rw [List.find?_cons,List.find?_cons,hpq _ _ h]
   split
   ·exact .some h
   ·exact ih
theorem AR.find{R:α→β→Prop}{a:Array α}{b:Array β}(h:AR R a b){p:α→Bool}{q:β→Bool}(hpq:∀x y,R x y→q y=p x):eF R (a.find? p) (b.find? q):=by
 have:=h.list.find hpq
 rw [Array.find?_toList,Array.find?_toList] at this
 exact this
theorem TD(t:TypeId){v v':Value}(h:VR ρ v v'):SR P VR ρ (Instr.range t v) (Instr.range t v'):=by
 unfold Instr.range
 refine (aj t).bF fun σ hσ d=>?_
 have fin:∀(τ:Env) (o o':Obj),OR τ o o' → SR P VR τ (do pure (.pointer (some ⟨←newObj o,0,none⟩)):Sem Value) (do pure (.pointer (some ⟨←newObj o',0,none⟩)):Sem Value):=by
   intro τ o o' ho
   refine SR.bnd (R:=fun υ r r'=>υ.ob r r') (.new (.obj ho) fun υ _ r r' hr=>.pure hr) fun υ nC r r' hr=>.aN ?_
   have:(⟨r',0,none⟩:Addr)=υ.addr ⟨r,0,none⟩:=by simp only [Env.addr,hr.2]
   rw [this]
   exact .ptr hr.1
 cases d with
 | string=>
   cases h.mono hσ with
   |string s=>exact fin σ _ _ (.stringIter s 0)
   |_=>exact .dead fun _ _=>rfl
 | map k e=>
   cases h.mono hσ with
   |cu=>exact fin σ _ _ (.mapIter .none)
   |map hr=>
    exact iL hr (fun es es' n h=>fin σ _ _ (.mapIter (.some hr))) fun o ho=>by cases o<;>first|exact absurd rfl (ho _ _)|exact fun _ _=>rfl
   |_=>exact .dead fun _ _=>rfl
 | _=>cases h<;>exact .dead fun _ _=>rfl
def TE(ρ:Env)(v:Value):Prop:=∀r s,v = .pointer (some ⟨r,0,s⟩)→(ρ.to r).2=0
theorem Yo(s:Bool)(t:TypeId){v v':Value}(h:VR ρ v v')(hi:TE ρ v):SR P VR ρ (Instr.next v s t) (Instr.next v' s t):=by
 unfold Instr.next
 cases h with
 | @ptr a h=>
   obtain ⟨r,off,sp⟩:=a
   cases off with
   |succ n=>
    refine .dead fun _ _=>rfl
   |zero=>
    have h0:=hi r sp rfl
    have TF:ρ.addr ⟨r,0,sp⟩=⟨(ρ.to r).1,0,sp⟩:=by simp only [Env.addr,h0]
    rw [TF]
    have hob:ρ.ob r (ρ.to r).1:=⟨h,by rw [←h0]⟩
    refine .getObj hob fun o o' ho=>?_
    cases ho with
    |stringIter b p=>
     cases s with
     |false=>exact .dead fun _ _=>rfl
     |true=>
      show SR P VR ρ (if p < b.size then _ else _) (if p < b.size then _ else _)
      split
      ·exact .setObj hob (.stringIter _ _) (.pure (Bi (.bool _) (.int _ _) (.int _ _)))
      ·exact .aN (kK (AR.empty.push (.bool _)))
    | @mapIter m m' since seen last hm=>
     cases s with
     |true=>exact .dead fun _ _=>by cases m<;>rfl
     |false=>
      cases hm with
      |none=>exact .aN (kK (AR.empty.push (.bool _)))
      | @some m m' hm=>
       refine iL hm (fun es es' n h=>?_) fun o ho=>by cases o<;>first|exact absurd rfl (ho _ _)|exact fun _ _=>rfl
       dsimp only
       have hc:(!seen.isEmpty && !es'.isEmpty && es'.all (·.born≥last))=(!seen.isEmpty && !es.isEmpty && es.all (·.born≥last)):=by
        rw [h.isEmpty,h.all (p:=fun e=>decide (e.born≥last)) fun x y hxy=>by rw [hxy.born]]
       rw [hc]
       split
       ·exact .dead fun _ _=>rfl
       ·have hleft:=h.filter (p:=fun e=> !seen.contains e.born) (q:=fun e=> !seen.contains e.born) fun x y hxy=>by rw [hxy.born]
        have hold:=hleft.filter (p:=fun e=>decide (e.born < since)) (q:=fun e=>decide (e.born < since)) fun x y hxy=>by rw [hxy.born]
        have hnew:=hleft.filter (p:=fun e=>decide (e.born≥since)) (q:=fun e=>decide (e.born≥since)) fun x y hxy=>by rw [hxy.born]
        have ac1:=(hold.append hnew).map (S:=eF (fA ρ)) (f:=some) (g:=some) fun x y hxy=>.some hxy
        have TG:AR (eF (fA ρ)) ((if (Array.filter (fun e=>decide (e.born < since)) (Array.filter (fun e=> !seen.contains e.born) es)).isEmpty=true then #[none] else #[]) ++ Array.map some (Array.filter (fun e=>decide (e.born < since)) (Array.filter (fun e=> !seen.contains e.born) es) ++ Array.filter (fun e=>decide (e.born≥since)) (Array.filter (fun e=> !seen.contains e.born) es)))
          ((if (Array.filter (fun e=>decide (e.born < since)) (Array.filter (fun e=> !seen.contains e.born) es')).isEmpty=true then #[none] else #[]) ++ Array.map some (Array.filter (fun e=>decide (e.born < since)) (Array.filter (fun e=> !seen.contains e.born) es') ++ Array.filter (fun e=>decide (e.born≥since)) (Array.filter (fun e=> !seen.contains e.born) es'))):=by
         refine AR.append ?_ ac1
         rw [hold.isEmpty]
         split
         ·exact AR.empty.push .none
         ·exact .empty
        rw [←TG.1]
        refine SR.bF (s:=choose _) (.choose fun n=>.pure rfl) fun σ hσ n=>?_
        have:=TG.get n
        revert this
        generalize (_:Array (Option MapEntry))[n]? = x
        generalize (_:Array (Option MapEntry))[n]? = y
        intro this
        cases this with
        |none=>exact .stuck
        |some h=>
         cases h with
         |none=>exact .aN (kK (AR.empty.push (.bool _)))
         | @some e e' h=>
          dsimp only
          rw [h.born,h.key]
          exact .setObj (hσ.ob hob) (.mapIter (.some (hσ.ob hm))) (.pure (Bi (.bool _) (Plain.vr h.plain σ) (h.val.mono hσ)))
    |_=>exact .dead fun _ _=>rfl
 | _=>exact .dead fun _ _=>rfl
theorem TJ{v v':Value}(h:VR ρ v v')(hi:TE ρ v):SR P VR ρ (Instr.entry v) (Instr.entry v'):=by
 unfold Instr.entry
 cases h with
 | @ptr a h=>
   obtain ⟨r,off,sp⟩:=a
   cases off with
   |succ n=>exact .dead fun _ _=>rfl
   |zero=>
    have h0:=hi r sp rfl
    have TF:ρ.addr ⟨r,0,sp⟩=⟨(ρ.to r).1,0,sp⟩:=by simp only [Env.addr,h0]
    rw [TF]
    have hob:ρ.ob r (ρ.to r).1:=⟨h,by rw [←h0]⟩
    refine .getObj hob fun o o' ho=>?_
    cases ho with
    | @mapIter m m' since seen last hm=>
     cases hm with
     |none=>exact .dead fun _ _=>rfl
     | @some m m' hm=>
      simp only [Sem.bind]
      split
      ·rename_i stamp _
       refine iL hm (fun es es' n h=>?_) fun o ho=>by cases o<;>first|exact absurd rfl (ho _ _)|exact fun _ _=>rfl
       dsimp only
       split
       ·exact .dead fun _ _=>rfl
       ·have:=h.find (p:=fun e=>e.born == stamp) (q:=fun e=>e.born == stamp) fun x y hxy=>by rw [hxy.born]
        revert this
        generalize es.find? _=x
        generalize es'.find? _=y
        intro this
        cases this with
        |none=>exact .J8
        |some h=>exact .aN (by rw [h.key];exact lZ (Plain.vr h.plain ρ) h.val)
      ·exact .dead fun _ _=>rfl
    |_=>exact .dead fun _ _=>rfl
 | _=>exact .dead fun _ _=>rfl
end
end Go.Am
namespace Go.Am
open Go.Ren (grow fM aO az)
section
variable{P:Program}{ρ σ:Env}{α β γ δ:Type}
theorem aa3(ts:Array TypeId)(t:TypeId){a a':Array Value}(h:AR (VR ρ) a a'):SR P VR ρ (Builtin.len_ ts t a) (Builtin.len_ ts t a'):=by
 unfold Builtin.len_
 have h0:=h.get 0
 revert h0
 generalize a[0]? = x
 generalize a'[0]? = y
 intro h0
 cases h0 with
 | none=>cases ts[0]?<;>exact .stuck
 | @some x y h0=>
   cases ts[0]? with
   |none=>exact .stuck
   |some t0=>
    dsimp only
    refine (aj t0).bF fun σ hσ d=>?_
    have h1:=h0.mono hσ
    cases d with
    |string=>cases h1<;>first|exact .aN (.int _ _)|exact .stuck
    |array n e=>cases h1<;>exact .aN (.int _ _)
    |pointer arr=>
     have:SR P VR σ (underlying arr >>= fun d=>match d with | .array n _=>Pure.pure (goInt n)|_=>Go.stuck "len: pointer to array expected") (underlying arr >>= fun d=>match d with | .array n _=>Pure.pure (goInt n)|_=>Go.stuck "len: pointer to array expected"):=
      (aj arr).bF fun τ _ d=>by split;exact .aN (.int _ _);exact .stuck
     cases h1<;>exact this
    |slice e=>cases h1<;>first|exact .aN (.int _ _)|exact .stuck
    |map k e=>
     cases h1 with
     |cu=>exact .aN (.int _ _)
     |map hr=>exact iL hr (fun es es' n h=>by dsimp only;rw [h.1];exact .aN (.int _ _)) fun o ho=>by cases o<;>first|exact absurd rfl (ho _ _)|exact fun _ _=>rfl
     |_=>exact .stuck
    |chan dir e=>
     cases h1 with
     |dJ=>exact .aN (.int _ _)
     |chan hr=>exact .getObj hr fun o o' ho=>by cases ho<;>exact .stuck
     |_=>exact .stuck
    |_=>cases h1<;>exact .stuck
theorem zn(op:BinOp)(a b:ByteArray):SR P VR ρ (do pure (.string (if ←asBool (←Op.stringOp op a b) then a else b)):Sem Value) (do pure (.string (if ←asBool (←Op.stringOp op a b) then a else b)):Sem Value):=
 (nZ op a b ρ).bnd fun σ _ x y e=>by
   obtain ⟨rfl,hp⟩:=e
   exact (Bl (hp.vr σ)).bF fun τ _ c=>.aN (.string _)
theorem Yp{x x' y y':Value}(hx:VR ρ x x')(hy:VR ρ y y'):SR P VR ρ (Builtin.min2 x y) (Builtin.min2 x' y'):=by
 cases hx with
 | int k n=>cases hy with|int k n=>exact .aN (.int _ _)|_=>exact .dead fun _ _=>rfl
 | string s=>cases hy with|string s=>exact zn _ _ _|_=>exact .dead fun _ _=>rfl
 | _=>cases hy<;>exact .dead fun _ _=>rfl
theorem Yq{x x' y y':Value}(hx:VR ρ x x')(hy:VR ρ y y'):SR P VR ρ (Builtin.max2 x y) (Builtin.max2 x' y'):=by
 cases hx with
 | int k n=>cases hy with|int k n=>exact .aN (.int _ _)|_=>exact .dead fun _ _=>rfl
 | string s=>cases hy with|string s=>exact zn _ _ _|_=>exact .dead fun _ _=>rfl
 | _=>cases hy<;>exact .dead fun _ _=>rfl
theorem BD{f:Value→Value→Sem Value}(hf:∀ {ρ:Env} {x x' y y':Value},VR ρ x x' → VR ρ y y' → SR P VR ρ (f x y) (f x' y')){l l':List Value}:∀ {ρ:Env} {x x':Value},LR (VR ρ) l l' → VR ρ x x' → SR P VR ρ (l.foldlM f x) (l'.foldlM f x'):=by
 induction l generalizing l' with
 | nil=>intro ρ x x' h hx;cases h;exact .aN hx
 | cons y l ih=>
   intro ρ x x' h hx
   cases h with
   |cons hy hl=>
    rw [List.foldlM_cons,List.foldlM_cons]
    exact (hf hx hy).bnd fun σ hσ a b hab=>ih (hl.mono fun _ _ z=>z.mono hσ) hab
theorem aa4(ts:Array TypeId)(t:TypeId){a a':Array Value}(h:AR (VR ρ) a a'):SR P VR ρ (Builtin.min_ ts t a) (Builtin.min_ ts t a'):=by
 unfold Builtin.min_
 have:=h.list
 revert this
 generalize a.toList=l
 generalize a'.toList=l'
 intro this
 cases this with
 | nil=>exact .stuck
 | cons hx hl=>exact BD (fun h k=>Yp h k) hl hx
theorem aa5(ts:Array TypeId)(t:TypeId){a a':Array Value}(h:AR (VR ρ) a a'):SR P VR ρ (Builtin.max_ ts t a) (Builtin.max_ ts t a'):=by
 unfold Builtin.max_
 have:=h.list
 revert this
 generalize a.toList=l
 generalize a'.toList=l'
 intro this
 cases this with
 | nil=>exact .stuck
 | cons hx hl=>exact BD (fun h k=>Yq h k) hl hx
theorem TK{v v':Value}(h:VR ρ v v'):SR P Same ρ (Builtin.lenOf v) (Builtin.lenOf v'):=by
 cases h<;>first|exact .aN rfl|exact .stuck
theorem lN(size n:Nat){v v':Value}(h:VR ρ v v'):SR P (fun σ=>AR (VR σ)) ρ (Builtin.firstCells size n v) (Builtin.firstCells size n v'):=by
 cases h with
 | nilslice=>exact .aN .empty
 | slice hb hc=>exact uq _ hb
 | string s=>
   refine .aN (.refl fun x hx=>?_)
   obtain ⟨b,_,rfl⟩:=Array.mem_map.1 hx
   exact .int _ _
 | _=>exact .stuck
theorem Yr(ts:Array TypeId)(t:TypeId){a a':Array Value}(h:AR (VR ρ) a a'):SR P VR ρ (Builtin.copy_ ts t a) (Builtin.copy_ ts t a'):=by
 unfold Builtin.copy_
 have h0:=h.get 0
 have h1:=h.get 1
 revert h0 h1
 generalize a[0]? = x
 generalize a'[0]? = x'
 generalize a[1]? = y
 generalize a'[1]? = y'
 intro h0 h1
 cases ts[0]? with
 | none=>cases h0<;>cases h1<;>exact .stuck
 | some t0=>
   cases h0 with
   |none=>cases h1<;>exact .stuck
   | @some x x' h0=>
    cases h1 with
    |none=>exact .stuck
    | @some y y' h1=>
     dsimp only
     refine (aj t0).bF fun σ hσ d=>?_
     split
     ·rename_i elem
      have fin:∀(b b':Option Addr) (n:Nat),eF (fun a a'=>ρ.born a.block∧a' = ρ.addr a) b b' → SR P VR σ (do
        let n ←pure (Nat.min (←Builtin.lenOf y) n)
        let cells ←Builtin.firstCells (←sizeOf elem) n y
        if let some a:=b then storeCells a cells.toList
        pure (goInt n):Sem Value) (do
        let n ←pure (Nat.min (←Builtin.lenOf y') n)
        let cells ←Builtin.firstCells (←sizeOf elem) n y'
        if let some a:=b' then storeCells a cells.toList
        pure (goInt n):Sem Value):=by
       intro b b' n hb
       refine (TK (h1.mono hσ)).bF fun τ iO m=>?_
       refine SR.bF (SR.aN (R:=Same) rfl) fun τ' afg k=>?_
       refine (dL elem).bF fun υ nC s=>?_
       have hle:=((hσ.trans iO).trans afg).trans nC
       refine (lN s _ (h1.mono hle)).bnd fun ω zS c c' hc=>?_
       cases hb with
       |none=>exact .aN (.int _ _)
       |some hb=>
        obtain ⟨hb,rfl⟩:=hb
        have hle' :=hle.trans zS
        dsimp only
        rw [←hle'.addr hb]
        exact (jw 0 (hle'.born _ hb) hc.list).bF fun _ _ _=>.aN (.int _ _)
      cases h0 with
      |nilslice n c=>exact fin none none n .none
      | @slice ad n c c' hb hc=>exact fin _ _ n (.some ⟨hb,rfl⟩)
      |_=>exact .dead fun _ _=>rfl
     ·exact .dead fun _ _=>rfl
theorem TL[aI P](ts:Array TypeId)(t:TypeId){a a':Array Value}(h:AR (VR ρ) a a')(hx:∃b n c,a[0]? = some (.slice b n c)):SR P VR ρ (Builtin.clear_ ts t a) (Builtin.clear_ ts t a'):=by
 unfold Builtin.clear_
 have h0:=h.get 0
 obtain ⟨b,n,c,hx⟩:=hx
 rw [hx] at h0
 rw [hx]
 revert h0
 generalize a'[0]? = x'
 intro h0
 cases ts[0]? with
 | none=>cases h0;exact .stuck
 | some t0=>
   cases h0 with
   | @some _ x' h=>
    have fin:∀(σ:Env),SR P VR σ (pure (.tuple #[]):Sem Value) (pure (.tuple #[]):Sem Value):=fun σ=>.aN (.tuple rfl fun i x y hx=>by simp at hx)
    dsimp only
    refine (aj t0).bF fun σ hσ d=>?_
    cases h with
    |nilslice n c=>exact fin σ
    | @slice a n c c' hb hc=>
     cases n with
     |zero=>exact fin σ
     |succ n=>
      cases d with
      |slice elem=>
       refine (uy elem).bnd fun τ iO z z' hz=>?_
       obtain ⟨rfl,hz⟩:=hz
       have hle:=hσ.trans iO
       rw [←hle.addr hb]
       refine (jw 0 (hle.born _ hb) (pG hz _ _).list).bF fun υ _ _=>fin υ
      |_=>exact .dead fun _ _=>rfl
theorem aa6(ts:Array TypeId)(t:TypeId){a a':Array Value}(h:AR (VR ρ) a a')(hx:(∃n c,a[0]? = some (.slice none n c))∨∃b n c,a[0]? = some (.slice (some b) n c)∧¬ρ.bD b.block):SR P VR ρ (Builtin.cap_ ts t a) (Builtin.cap_ ts t a'):=by
 have key:∃o o' n c,a[0]? = some (.slice o n c)∧a'[0]? = some (.slice o' n c):=by
   have h0:=h.get 0
   rcases hx with ⟨n,c,hx⟩|⟨b,n,c,hx,hs⟩
   ·rw [hx] at h0
    generalize a'[0]? = y at h0
    cases h0 with
    |some h=>cases h;exact ⟨_,_,_,_,hx,rfl⟩
   ·rw [hx] at h0
    generalize a'[0]? = y at h0
    cases h0 with
    |some h=>
     cases h with
     | @slice _ _ _ c' hb hc=>
      have:c' = c:=hc.resolve_right fun x=>hs x.1
      subst this
      exact ⟨_,_,_,_,hx,rfl⟩
 obtain ⟨o,o',n,c,h1,h2⟩:=key
 unfold Builtin.cap_
 rw [h1,h2]
 cases ts[0]? with
 | none=>exact .stuck
 | some t0=>
   dsimp only
   refine (aj t0).bF fun σ hσ d=>?_
   cases d with
   |array n e=>exact .aN (.int _ _)
   |slice e=>exact .aN (.int _ _)
   |pointer arr=>exact (aj arr).bF fun τ _ d=>by cases d<;>first|exact .aN (.int _ _)|exact .stuck
   |_=>exact .stuck
end
end Go.Am
namespace Go.Am
open Go.Ren (grow fM aO az)
inductive NR(ρ:Env):Next→Next→Prop
 | value {v v':Value} (h:VR ρ v v'):NR ρ (.value v) (.value v')
 | skip:NR ρ .skip .skip
 | enter (f:FuncId) {a a':Array Value} (h:AR (VR ρ) a a'):NR ρ (.enter f a) (.enter f a')
 | round {l l':Nat} (f:FuncId) {t t':Array Value} (x b:Code) (hl:ρ.ob l l') (h:AR (VR ρ) t t'):NR ρ (.round l f t x b) (.round l' f t' x b)
 | odd:NR ρ .numGoroutine .numGoroutine
def TM(h:AH)(v:Value):Bool:=
 match v with
 | .pointer (some ⟨r,0,_⟩)=>match h.look r with
   |some { obj:=.cells _ _ _,.. }=>false
   |some _=>true
   |none=>false
 | _=>true
def TN(P:Program)(h:AH)(t:TypeId)(x:Value)(lo mx:Option Value):Bool:=
 (match P.underlying t with|some (.pointer _)=>false|_=>true) &&
 match x with
 | .slice none n c=>decide (n≤c)
 | .slice (some a) n c=>decide (n≤c) && (match h.look a.block with
   |some B=>match B.dQ with
    |none=>true
    |some _=>mx.isSome || (decide (Bo lo < c) || Bo lo == 0) && (match P.underlying t with
     |some (.slice elem)=>match P.info? elem with
      |some i=>i.size == B.u
      |none=>true
     |_=>true)
   |none=>false)
 | _=>true
def ZO(v:Value):Bool:=fD 9 v
def Ba(op:BinOp)(a b:Value):Bool:=
 (match op with | .eql | .neq=>true|_=>false) && match a,b with
 | .slice none _ _,.slice _ _ _ | .slice (some _) _ _,.slice none _ _ | .map none,.map _ | .map (some _),.map none | .pointer none,.pointer _ | .pointer (some _),.pointer none
 | .nilFunc,.nilFunc | .nilFunc,.func _ _ _ | .func _ _ _,.nilFunc=>true
 | _,_=>false
def vJ(P:Program)(t:TypeId)(name:String):Bool:=
 match P.underlying t with
 | some (.interface _)=>false
 | some (.pointer _)=>false
 | some _=>match P.info? t with
   |some i=>match i.methods.find? (·.name == name) with
    |some m=>(m.path.toList.all fun s=> !s.deref) && (match m.func with|some (_,false)=>true|_=>false)
    |none=>false
   |none=>false
 | none=>false
def IW(P:Program)(v:Value):Bool:=
 match v with
 | .func (.methodOf t name) _ _=>vJ P t name
 | .func (.func _) _ _ | .func (.yield _) _ _=>true
 | .func (.via _ p _ x) _ _=> !x && p.toList.all fun s=> !s.deref
 | _=>false
def bP(o:Oper):Bool:=
 match o.op with
 | .call { callee:=.builtin .append,.. }=>true
 | _=>false
def ZP(h:AH)(v:Value):Bool:=match v with
 | .slice none _ _=>true
 | .slice (some a) _ _=>match h.look a.block with
   |some B=>B.dQ.isNone
   |none=>false
 | _=>false
def kD(P:Program)(h:AH)(e:Operand→Value)(o:Oper):Bool:=
 match o.op with
 | .move _ | .assign _ | .pick .. | .alloc _ | .box .. | .build .. | .buildSlice .. | .load .. | .store .. | .unOp .. | .makeInterface .. | .makeMap .. | .makeSlice ..
 | .field .. | .index .. | .indexAddr .. | .entryStore .. | .range .. | .extract .. =>true
 | .nilCheck x=>match e x with | .func (.method _) _ _=>false|_=>true
 | .binOp op _ x y _=>A8 op (e x) (e y) || Ba op (e x) (e y)
 | .convert _ d x=>match e x,P.underlying d with | .int _ _,some (.int _)=>true|_,_=>false
 | .makeFunc fn _ _=>match fn with | .func _=>true | .via .. =>true | .methodOf .. =>true|_=>false
 | .slice t x lo hi mx=>TN P h t (e x) (lo.map e) (mx.map e)
 | .fieldAddr s _ f=>tZ P s f
 | .lookup _ _ k _=>ZO (e k)
 | .mapUpdate _ _ k _ | .insert _ _ k _ | .mapEntry _ _ k=>ZO (e k)
 | .next it _ | .entry it=>TM h (e it)
 | .call c=>match c.callee with
   | .builtin b=>match b with | .len | .min | .max | .copy=>true | .cap=>(match c.args.toList with | [x]=>ZP h (e x)|_=>false) | .clear=>(match c.args.toList with | [x]=>(match e x with | .slice .. =>true|_=>false)|_=>false)|_=>false
   | .value f=>IW P (e f)
   | .invoke .. =>false
 | _=>false
section
variable{P:Program}{ρ σ:Env}{O D:Nat→Prop}{h:AH}{w:World}
theorem Jd{v:Value}(r:Rel ρ O D h w)(hb:∀a,v = .pointer (some a)→ρ.born a.block)(k:TM h v=true):TE ρ v:=by
 intro x s e
 subst e
 have hx:=hb _ rfl
 have k':(match h.look x with|some { obj:=.cells _ _ _,.. }=>false|some _=>true|none=>false)=true:=k
 clear k
 rename _=true=>k
 split at k
 · cases k
 · rename_i B hB hl
   exact (r.obj x B hx hl fun c e f hc=>hB c e f B.dQ B.ro B.u (by rw [←hc])).1
 · cases k
theorem Yt{t:TypeId}{x x':Value}{lo mx:Option Value}(r:Rel ρ O D h w)(hx:VR ρ x x')(k:TN P h t x lo mx=true):aay P ρ t x lo mx:=by
 unfold TN at k
 simp only [Bool.and_eq_true] at k
 obtain ⟨k1,k2⟩:=k
 refine ⟨fun arr e=>(by rw [e] at k1;cases k1),fun n c e=>(by subst e;simpa using k2),fun a n c e=>?_⟩
 subst e
 simp only [Bool.and_eq_true,decide_eq_true_eq] at k2
 obtain ⟨k2,k3⟩:=k2
 refine ⟨k2,fun hs hmx=>?_⟩
 have hb:ρ.born a.block:=by cases hx;assumption
 split at k3
 · rename_i B hl
   obtain ⟨s1,s2⟩:=r.bD _ B hb hl
   have hf:=s1.1 hs
   split at k3
   ·rename_i hf';exact absurd hf' hf
   ·rename_i f hf'
    subst hmx
    simp only [Option.isSome_none,Bool.false_or,Bool.and_eq_true,Bool.or_eq_true,decide_eq_true_eq,beq_iff_eq] at k3
    obtain ⟨k4,k5⟩:=k3
    refine ⟨k4,fun elem he i hi=>?_⟩
    rw [he] at k5
    dsimp only at k5
    rw [hi] at k5
    rw [s2 hf]
    simpa using k5
 · cases k3
end
section
variable{P:Program}{ρ σ:Env}{α β γ δ:Type}
theorem TP(op:UnOp){v v':Value}(h:VR ρ v v'):SR P VR ρ (Op.unary op v) (Op.unary op v'):=by
 have dr:∀ {s:Sem Value},jc P Plain s→SR P VR ρ s s:=fun h=>(h ρ).imp fun σ _ a b e=>by obtain ⟨rfl,e⟩:=e;exact e.vr σ
 cases op
 case neg=>
   cases h with
   |int k n=>exact dr (s:=Op.intArith .sub k 0 n) (uw _ _ _ _)
   |_=>exact .dead fun _ _=>rfl
 case xor=>
   cases h with
   |int k n=>exact dr (s:=Op.intBits .xor k (if k.signed then -1 else k.max) n) (wU _ _ _ _)
   |_=>exact .dead fun _ _=>rfl
 case not=>
   cases h with
   |bool b=>exact .aN (.bool _)
   |_=>exact .dead fun _ _=>rfl
 all_goals (cases h<;>exact .dead fun _ _=>rfl)
theorem KQ(s d:TypeId){v v':Value}(h:VR ρ v v')(hv:∃k n,v = .int k n)(hd:∃k,P.underlying d=some (.int k)):SR P VR ρ (convert s d v) (convert s d v'):=by
 obtain ⟨k,n,rfl⟩:=hv
 obtain ⟨j,hj⟩:=hd
 have:=Kt h
 subst this
 unfold convert
 refine (aj s).bF fun σ hσ a=>?_
 refine (gu d).bnd fun τ iO b b' e=>?_
 obtain ⟨rfl,e⟩:=e
 rw [hj] at e
 cases e
 cases a<;>first|exact .aN (.int _ _)|exact .dead fun _ _=>rfl
theorem kN{l l':Nat}(h:ρ.ob l l'):SR P (fun σ a b=>Zk σ a b) ρ (Instr.getLoop l) (Instr.getLoop l'):=by
 unfold Instr.getLoop
 refine .getObj h fun o o' ho=>?_
 cases ho with
 | loop h=>exact .aN h
 | _=>exact .dead fun _ _=>rfl
theorem TQ{ts:List Tmp}{l l':List Value}(h:LR (VR ρ) l l'):∀ {c c':Array Value},AR (VR ρ) c c' → AR (VR ρ) ((ts.zip l).foldl (fun (t:Array Value) (x:Tmp×Value)=>t.setIfInBounds x.1 x.2) c) ((ts.zip l').foldl (fun (t:Array Value) (x:Tmp×Value)=>t.setIfInBounds x.1 x.2) c'):=by
 induction h generalizing ts with
 | nil=>intro c c' hc;cases ts<;>exact hc
 | cons hx _ ih=>
   intro c c' hc
   cases ts with
   |nil=>exact hc
   |cons t ts=>exact ih (hc.set t hx)
theorem TR{l l':Nat}{a a':Array Value}(h:ρ.ob l l')(ha:AR (VR ρ) a a'):SR P NR ρ (Instr.yield l a) (Instr.yield l' a'):=by
 unfold Instr.yield
 refine (kN h).bnd fun σ hσ r r' hr=>?_
 rw [←ha.1,hr.params]
 split
 · exact .dead fun _ _=>rfl
 · refine .aN ?_
   rw [hr.fn,hr.assign,hr.body]
   refine .round _ _ _ (hσ.ob h) ?_
   have:=TQ (ts:=r.params.toList) (ha.list.mono fun _ _ x=>x.mono hσ) hr.tmps
   rw [←Array.foldl_toList,←Array.foldl_toList,Array.toList_zip,Array.toList_zip]
   exact this
theorem lD(f:FuncId){a a':Array Value}(h:AR (VR ρ) a a'):SR P NR ρ (callFunc f a) (callFunc f a'):=by
 unfold callFunc
 refine .prog ?_
 split
 · exact .stuck
 · split
   ·exact .aN .odd
   ·split
    ·exact .mark
    ·exact .aN (.enter f h)
theorem vK:∀(p:List FieldStep) (t:TypeId) {ρ:Env} {v v':Value},(p.all fun s=> !s.deref)=true→VR ρ v v' → SR P (fun σ a b=>a.1=b.1∧∃u u',a.2 = .val u∧b.2 = .val u' ∧ VR σ u u') ρ (follow p t (.val v)) (follow p t (.val v'))
 | [],t,ρ,v,v',_,h=>.aN ⟨rfl,v,v',rfl,rfl,h⟩
 | s :: p,t,ρ,v,v',hp,h=>by
   rw [List.all_cons,Bool.and_eq_true,Bool.not_eq_true'] at hp
   unfold follow
   refine (aj s.struct).bF fun σ hσ d=>?_
   split
   ·split
    ·rename_i f hf
     rw [hp.1]
     simp only [Bool.false_eq_true,if_false]
     have h' :=h.mono hσ
     cases h' with
     |agg h1 h2=>exact (Dh _ ⟨h1,h2⟩ _).bnd fun τ iO a b e=>vK p _ hp.2 e
     |_=>first|exact .stuck|exact .dead fun _ _=>rfl
    ·exact .stuck
   ·exact .stuck
theorem zq(t:TypeId)(p:Array FieldStep){v v':Value}(hp:(p.toList.all fun s=> !s.deref)=true)(h:VR ρ v v'):SR P VR ρ (receiverVia t v p false) (receiverVia t v' p false):=by
 unfold receiverVia
 refine (vK p.toList t hp h).bnd fun σ hσ a b e=>?_
 obtain ⟨t1,x1⟩:=a
 obtain ⟨t2,x2⟩:=b
 obtain ⟨e1,u,u',e2,e3,hu⟩:=e
 dsimp only at e1 e2 e3 ⊢
 subst e1 e2 e3
 unfold receiverAt
 refine (aj t1).bF fun τ iO d=>?_
 have hu' :=hu.mono iO
 cases d with
 | pointer elem=>
   dsimp only
   show SR P VR τ ((Place.val u).get t1 >>= fun ptr=>pure ptr >>= fun ptr=>asAddr ptr >>= loadVar elem) ((Place.val u').get t1 >>= fun ptr=>pure ptr >>= fun ptr=>asAddr ptr >>= loadVar elem)
   show SR P VR τ (asAddr u >>= loadVar elem) (asAddr u' >>= loadVar elem)
   exact (vG hu').bnd fun υ nC a b e=>by obtain ⟨h1,rfl⟩:=e;exact nT elem h1
 | _=>exact .aN hu'
theorem rO(t:TypeId){v v':Value}(name:Option String)(hn:name=none∨∀e,P.underlying t≠some (.pointer e))(h:VR ρ v v'):SR P VR ρ (receiverAt t (.val v) false name) (receiverAt t (.val v') false name):=by
 unfold receiverAt
 refine (gu t).bnd fun τ iO d d' e=>?_
 obtain ⟨rfl,hd⟩:=e
 have hu' :=h.mono iO
 cases d with
 | pointer elem=>
   rcases hn with rfl|hn
   ·show SR P VR τ (asAddr v >>= loadVar elem) (asAddr v' >>= loadVar elem)
    exact (vG hu').bnd fun υ nC a b e=>by obtain ⟨h1,rfl⟩:=e;exact nT elem h1
   ·exact absurd hd (hn elem)
 | _=>exact .aN hu'
theorem Qi(n:Nat)(t:TypeId)(name:String){v v':Value}(hm:vJ P t name=true)(h:VR ρ v v'):SR P (fun σ a b=>a.1=b.1∧VR σ a.2 b.2) ρ (method (n+1) t v name) (method (n+1) t v' name):=by
 unfold vJ at hm
 unfold method
 refine (gq t).bnd fun σ hσ i i' e=>?_
 obtain ⟨rfl,hi⟩:=e
 have key:∀m,i.methods.find? (·.name == name)=some m→(m.path.toList.all fun s=> !s.deref)=true∧(∃f,m.func=some (f,false))∧∀e,P.underlying t≠some (.pointer e):=by
   intro m hfm
   split at hm
   ·cases hm
   ·cases hm
   ·rename_i hp he
    rw [hi] at hm
    dsimp only at hm
    rw [hfm] at hm
    dsimp only at hm
    rw [Bool.and_eq_true] at hm
    refine ⟨hm.1,?_,fun e he'=>by rw [he] at he';cases he';exact hp e rfl⟩
    have h2:=hm.2
    split at h2
    ·rename_i f hf;exact ⟨f,hf⟩
    ·cases h2
   ·cases hm
 cases hfm:i.methods.find? (·.name == name) with
 | none=>exact .stuck
 | some m=>
   obtain ⟨h1,⟨f,h2⟩,h3⟩:=key m hfm
   dsimp only
   by_cases hpe:m.path.isEmpty=true
   ·have hnil:m.path.toList=[]:=by simpa using hpe
    rw [hnil]
    unfold follow
    rw [h2,if_pos hpe]
    show SR P _ σ (receiverAt t (.val v) false (some ((name.splitOn ".").getLastD name)) >>= fun r=>Pure.pure (f,r)) (receiverAt t (.val v') false (some ((name.splitOn ".").getLastD name)) >>= fun r=>Pure.pure (f,r))
    exact (rO t _ (.inr h3) (h.mono hσ)).bnd fun υ nC a b e=>.aN ⟨rfl,e⟩
   ·refine (vK m.path.toList t h1 (h.mono hσ)).bnd fun τ iO a b e=>?_
    obtain ⟨t1,x1⟩:=a
    obtain ⟨t2,x2⟩:=b
    obtain ⟨e1,u,u',e2,e3,hu⟩:=e
    dsimp only at e1 e2 e3 ⊢
    subst e1 e2 e3
    rw [h2,if_neg hpe]
    exact (rO _ _ (.inl rfl) hu).bnd fun υ nC a b e=>.aN ⟨rfl,e⟩
theorem Ai(t:TypeId)(name:String){v v':Value}{a a':Array Value}(hm:vJ P t name=true)(h:VR ρ v v')(ha:AR (VR ρ) a a'):SR P NR ρ (callMethod (.iface t v) name a) (callMethod (.iface t v') name a'):=by
 unfold callMethod
 dsimp only
 refine .prog ?_
 obtain ⟨n,hn⟩:∃n,P.types.size+Made.depth=n+1:=⟨P.types.size+(Made.depth - 1),(Nat.add_assoc _ _ _).symm ▸ congrArg (P.types.size + ·) (Nat.sub_add_cancel (show 1≤Made.depth from by decide)).symm⟩
 rw [hn]
 refine (Qi n t name hm h).bnd fun τ iO r r' hr=>?_
 obtain ⟨f1,r1⟩:=r
 obtain ⟨f2,r2⟩:=r'
 obtain ⟨e,hr⟩:=hr
 dsimp only at e hr ⊢
 subst e
 refine lD f1 ?_
 have h1:AR (VR τ) #[r1] #[r2]:=⟨rfl,fun i u v hu hv=>by
   rcases i with _|i
   ·simp at hu hv;subst hu hv;exact hr
   ·simp at hu⟩
 exact h1.append (AR.mono (R:=VR ρ) (fun _ _ x=>x.mono iO) ha)
theorem Qj{f f':Fn}{c c' a a':Array Value}(hf:OY ρ f f')(hc:AR (VR ρ) c c')(ha:AR (VR ρ) a a')(hk:(∃g,f = .func g)∨(∃l,f = .yield l)∨(∃t p g,f = .via t p g false∧(p.toList.all fun s=> !s.deref)=true)∨∃t n,f = .methodOf t n∧vJ P t n=true):SR P NR ρ (invoke (.fn f c) a) (invoke (.fn f' c') a'):=by
 cases hf with
 | methodOf t n=>
   rcases hk with ⟨g,e⟩|⟨l,e⟩|⟨t',p',g,e,hp⟩|⟨t',n',e,hm⟩
   ·cases e
   ·cases e
   ·cases e
   ·cases e
    unfold invoke
    dsimp only
    have hs:=ha.1
    cases ea:a[0]? with
    |none=>exact .stuck
    |some x=>
     cases ea':a'[0]? with
     |none=>exfalso;rw [Array.getElem?_eq_none_iff] at ea';have:=(Array.getElem?_eq_some_iff.1 ea).1;omega
     |some x'=>
      have hx:=ha.2 0 x x' ea ea'
      dsimp only
      refine (gu t).bnd fun σ hσ d d' e=>?_
      obtain ⟨rfl,hd⟩:=e
      have h2:=(AR.mono (R:=VR ρ) (fun _ _ x=>x.mono hσ) ha).extract 1 a.size
      rw [←hs]
      have key:=Ai t n hm (hx.mono hσ) h2
      cases d with
      |interface _=>exfalso;unfold vJ at hm;rw [hd] at hm;cases hm
      |_=>exact key
 | func f=>exact lD f (ha.append hc)
 | yield h=>exact TR h ha
 | via t p f x=>
   rcases hk with ⟨g,e⟩|⟨l,e⟩|⟨t',p',g,e,hp⟩|⟨t',n',e,hm⟩
   ·cases e
   ·cases e
   ·cases e
    unfold invoke
    dsimp only
    have hs:=ha.1
    cases ea:a[0]? with
    |none=>
     exact .stuck
    |some x=>
     cases ea':a'[0]? with
     |none=>exfalso;rw [Array.getElem?_eq_none_iff] at ea';have:=(Array.getElem?_eq_some_iff.1 ea).1;omega
     |some x'=>
      refine (zq t p hp (ha.2 0 x x' ea ea')).bnd fun σ hσ r r' hr=>?_
      refine lD f ?_
      have h1:AR (VR σ) #[r] #[r']:=⟨rfl,fun i u v hu hv=>by
       rcases i with _|i
       ·simp at hu hv;subst hu hv;exact hr
       ·simp at hu⟩
      have h2:=(AR.mono (R:=VR ρ) (fun _ _ x=>x.mono hσ) ha).extract 1 a.size
      rw [←hs]
      exact h1.append h2
   ·cases e
 | _=>rcases hk with ⟨g,e⟩|⟨l,e⟩|⟨t',p',g,e,hp⟩|⟨t',n',e,hm⟩<;>cases e
theorem AR.KR{e e':Operand→Value}{a:Array Operand}(h:∀x∈a,VR ρ (e x) (e' x)):AR (VR ρ) (a.map e) (a.map e'):=by
 refine ⟨by simp,fun i x y hx hy=>?_⟩
 rw [Array.getElem?_map] at hx hy
 cases ha:a[i]? with
 | none=>rw [ha] at hx;cases hx
 | some z=>rw [ha] at hx hy;cases hx;cases hy;exact h z (Array.mem_of_getElem? ha)
theorem zu{e e':Operand→Value}{ps:Array (Nat×Operand)}(h:∀x∈ps,VR ρ (e x.2) (e' x.2)):LR (fun a b=>b.1=a.1∧VR ρ a.2 b.2) (ps.map fun (i,x)=>(i,e x)).toList (ps.map fun (i,x)=>(i,e' x)).toList:=by
 rw [Array.toList_map,Array.toList_map]
 have:∀l:List (Nat×Operand),(∀x∈l,VR ρ (e x.2) (e' x.2))→LR (fun a b=>b.1=a.1∧VR ρ a.2 b.2) (l.map fun (i,x)=>(i,e x)) (l.map fun (i,x)=>(i,e' x)):=by
   intro l
   induction l with
   |nil=>intro _;exact .nil
   |cons x l ih=>intro h;exact .cons ⟨rfl,h x (by simp)⟩ (ih fun y hy=>h y (by simp [hy]))
 exact this _ fun x hx=>h x (by simpa using hx)
theorem Yu{e e':Operand→Value}{r:Option Operand}(h:∀x,r=some x→VR ρ (e x) (e' x)):eF (VR ρ) (r.map e) (r.map e'):=by
 cases r with
 | none=>exact .none
 | some x=>exact .some (h x rfl)
theorem SR.val{s s':Sem Value}(h:SR P VR ρ s s'):SR P NR ρ (s >>= fun x=>Pure.pure (Next.value x)) (s' >>= fun x=>Pure.pure (Next.value x)):=h.bnd fun _ _ _ _ h=>.aN (.value h)
theorem SR.unit{s s':Sem Unit}(h:SR P Same ρ s s'):SR P NR ρ (s >>= fun _=>Pure.pure Next.skip) (s' >>= fun _=>Pure.pure Next.skip):=h.bF fun _ _ _=>.aN .skip
theorem Je{v v':Value}(h:VR ρ v v'){a:Addr}(e:v = .pointer (some a)):ρ.born a.block:=by subst e;cases h;assumption
theorem Jf{op:BinOp}{x y:Value}(h:A8 op x y=true):Plain x∧Plain y:=by
 unfold A8 at h
 split at h
 · exact ⟨jZ _ _,jZ _ _⟩
 · exact ⟨nY _,nY _⟩
 · simp only [Bool.and_eq_true] at h
   exact ⟨dG h.1.2,dG h.2⟩
theorem wY(t:TypeId){a a' b b':Value}(ha:VR ρ a a')(hb:VR ρ b b')(h:Ba .eql a b=true):SR P Same ρ (Op.equal t a b) (Op.equal t a' b'):=by
 unfold Op.equal Op.maxDepth Op.equalIn
 refine (aj t).bF fun σ _ d=>?_
 cases ha with
 | nilslice n c=>cases hb with
   |nilslice n c=>cases d<;>first|exact .aN rfl|exact .dead fun _ _=>rfl
   |slice h hc=>cases d<;>first|exact .aN rfl|exact .dead fun _ _=>rfl
   |_=>cases h
 | slice h hc=>cases hb with
   |nilslice n c=>cases d<;>first|exact .aN rfl|exact .dead fun _ _=>rfl
   |_=>cases h
 | cu=>cases hb with
   |cu=>cases d<;>first|exact .aN rfl|exact .dead fun _ _=>rfl
   |map h=>cases d<;>first|exact .aN rfl|exact .dead fun _ _=>rfl
   |_=>cases h
 | map h=>cases hb with
   |cu=>cases d<;>first|exact .aN rfl|exact .dead fun _ _=>rfl
   |_=>cases h
 | eu=>cases hb with
   |eu=>cases d<;>first|exact .aN rfl|exact .dead fun _ _=>rfl
   |ptr h=>cases d<;>first|exact .aN rfl|exact .dead fun _ _=>rfl
   |_=>cases h
 | ptr h=>cases hb with
   |eu=>cases d<;>first|exact .aN rfl|exact .dead fun _ _=>rfl
   |_=>cases h
 | nilFunc=>cases hb with
   |nilFunc=>cases d<;>first|exact .aN rfl|exact .dead fun _ _=>rfl
   |func=>cases d<;>first|exact .aN rfl|exact .dead fun _ _=>rfl
   |_=>cases h
 | func=>cases hb with
   |nilFunc=>cases d<;>first|exact .aN rfl|exact .dead fun _ _=>rfl
   |_=>cases h
 | _=>cases hb<;>cases h
theorem TS(op:BinOp)(t:TypeId)(x y:Operand){a a' b b':Value}(ha:VR ρ a a')(hb:VR ρ b b')(h:Ba op a b=true):SR P VR ρ (do eqGuard op t x y a b;binOp op t a b) (do eqGuard op t x y a' b';binOp op t a' b'):=by
 have hq:op = .eql∨op = .neq:=by
   unfold Ba at h
   cases op<;>first|exact .inl rfl|exact .inr rfl|cases h
 have h':Ba .eql a b=true:=by rcases hq with rfl|rfl<;>exact h
 have he:=wY (P:=P) t ha hb h'
 have hg:SR P Same ρ (eqGuard op t x y a b) (eqGuard op t x y a' b'):=by
   rcases hq with rfl|rfl
   all_goals
    cases ha<;>cases hb<;>first|(cases h';done)|exact .aN rfl
 refine hg.bF fun σ hσ _=>?_
 have he' :=wY (P:=P) t (ha.mono hσ) (hb.mono hσ) h'
 have hv:SR P VR σ (do pure (.bool (←Op.equal t a b)):Sem Value) (do pure (.bool (←Op.equal t a' b')):Sem Value):=he'.bF fun _ _ _=>.aN (.bool _)
 have hn:SR P VR σ (do pure (.bool (!(←Op.equal t a b))):Sem Value) (do pure (.bool (!(←Op.equal t a' b'))):Sem Value):=he'.bF fun _ _ _=>.aN (.bool _)
 rcases hq with rfl|rfl
 · cases ha<;>cases hb<;>first|(cases h';done)|exact hv
 · cases ha<;>cases hb<;>first|(cases h';done)|exact hn
theorem OC[aI P]{O D:Nat→Prop}{h:AH}{w:World}(r:Rel ρ O D h w){e e':Operand→Value}(o:Oper)(hv:∀x∈o.op.operands,VR ρ (e x) (e' x))(hk:kD P h e o=true):SR P NR ρ (execOp e o) (execOp e' o):=by
 unfold execOp
 unfold kD at hk
 dsimp only
 generalize hop:o.op=op at hk hv
 cases op with
 | move x=>exact .aN (.value (hv x (by simp [Op.operands])))
 | assign x=>exact .aN (.value (hv x (by simp [Op.operands])))
 | pick c a b=>
   dsimp only
   refine (Bl (hv c (by simp [Op.operands]))).bF fun σ hσ t=>.aN (.value ?_)
   split
   ·exact (hv a (by simp [Op.operands])).mono hσ
   ·exact (hv b (by simp [Op.operands])).mono hσ
 | alloc t=>exact (SB t).val
 | box t x=>exact (aaw t (hv x (by simp [Op.operands]))).val
 | build t ps=>exact (SC t (zu fun x hx=>hv x.2 (by simp only [Op.operands,List.mem_toArray,List.mem_map];exact ⟨x,by simpa using hx,rfl⟩))).val
 | buildSlice t n ps=>exact (zZ t n (zu fun x hx=>hv x.2 (by simp only [Op.operands,List.mem_toArray,List.mem_map];exact ⟨x,by simpa using hx,rfl⟩))).val
 | load t x=>exact (Pz t (hv x (by simp [Op.operands]))).val
 | store t a x=>exact (Ku t (hv a (by simp [Op.operands])) (hv x (by simp [Op.operands]))).unit
 | nilCheck x=>
   dsimp only at hk ⊢
   have:=hv x (by simp [Op.operands])
   revert this hk
   generalize e x=u
   generalize e' x=u'
   intro hk this
   cases this with
   | @func f f' a a' b b' hf h1 h2 h3 h4=>
    cases hf with
    |method n=>cases hk
    |func f=>exact .aN (.value (.func (.func f) h1 h2 h3 h4))
    |methodOf t n=>exact .aN (.value (.func (.methodOf t n) h1 h2 h3 h4))
    |via t p f z=>exact .aN (.value (.func (.via t p f z) h1 h2 h3 h4))
    |yield hl=>exact .aN (.value (.func (.yield hl) h1 h2 h3 h4))
   |eu=>exact .dead (bI _)
   |nilIface=>exact .dead (bI _)
   |nilFunc=>exact .dead (bI _)
   |bool b=>exact .aN (.value (.bool b))
   |int k n=>exact .aN (.value (.int k n))
   |string s=>exact .aN (.value (.string s))
   |ptr h=>exact .aN (.value (.ptr h))
   |nilslice n c=>exact .aN (.value (.nilslice n c))
   |slice h hc=>exact .aN (.value (.slice h hc))
   |cu=>exact .aN (.value .cu)
   |map h=>exact .aN (.value (.map h))
   |dJ=>exact .aN (.value .dJ)
   |chan h=>exact .aN (.value (.chan h))
   |iface h=>exact .aN (.value (.iface h))
   |agg h1 h2=>exact .aN (.value (.agg h1 h2))
   |tuple h1 h2=>exact .aN (.value (.tuple h1 h2))
 | binOp op t x y t2=>
   dsimp only at hk ⊢
   have hx:=hv x (by simp [Op.operands])
   have hy:=hv y (by simp [Op.operands])
   rcases Bool.or_eq_true_iff.1 hk with hk|hk
   rotate_left
   ·exact (TS op t x y hx hy hk).val
   obtain ⟨px,py⟩:=Jf hk
   rw [px.eq hx,py.eq hy]
   refine SR.val ?_
   refine (SR.dry (I9 op t x y px py)).bF fun σ _ _=>?_
   exact (Px op t hk px py σ).imp fun τ _ a b e=>by obtain ⟨rfl,e⟩:=e;exact e.vr τ
 | unOp op t x=>exact (TP op (hv x (by simp [Op.operands]))).val
 | convert s d x=>
   dsimp only at hk ⊢
   refine (KQ s d (hv x (by simp [Op.operands])) ?_ ?_).val
   ·split at hk
    ·rename_i k n j hx hj;exact ⟨k,n,hx⟩
    ·cases hk
   ·split at hk
    ·rename_i k n j hx hj;exact ⟨j,hj⟩
    ·cases hk
 | makeInterface t x=>exact (vH t (hv x (by simp [Op.operands]))).val
 | makeFunc fn a b=>
   dsimp only at hk ⊢
   split at hk
   ·exact (pI (.func _) (AR.KR fun x hx=>hv x (by simp [Op.operands,hx])) (AR.KR fun x hx=>hv x (by simp [Op.operands,hx]))).val
   ·exact (pI (.via _ _ _ _) (AR.KR fun x hx=>hv x (by simp [Op.operands,hx])) (AR.KR fun x hx=>hv x (by simp [Op.operands,hx]))).val
   ·exact (pI (.methodOf _ _) (AR.KR fun x hx=>hv x (by simp [Op.operands,hx])) (AR.KR fun x hx=>hv x (by simp [Op.operands,hx]))).val
   ·cases hk
 | makeMap t r=>exact (Kz t (Yu fun x hx=>hv x (by subst hx;simp [Op.operands]))).val
 | makeSlice t l c=>exact (Dj t (hv l (by simp [Op.operands])) (hv c (by simp [Op.operands]))).val
 | slice t x lo hi mx=>
   dsimp only at hk ⊢
   have hx:=hv x (by simp [Op.operands])
   exact (KA t hx (Yu fun y hy=>hv y (by subst hy;simp [Op.operands])) (Yu fun y hy=>hv y (by subst hy;simp [Op.operands])) (Yu fun y hy=>hv y (by subst hy;simp [Op.operands])) (Yt r hx hk)).val
 | fieldAddr s x f=>exact (Kv s f hk (hv x (by simp [Op.operands]))).val
 | field t x f=>exact (SG t f (hv x (by simp [Op.operands]))).val
 | indexAddr t x i=>exact (Kw t (hv x (by simp [Op.operands])) (hv i (by simp [Op.operands]))).val
 | index t x i=>exact (SH t (hv x (by simp [Op.operands])) (hv i (by simp [Op.operands]))).val
 | lookup t x k c=>exact (PD t c (hv x (by simp [Op.operands])) (hv k (by simp [Op.operands])) (dG hk)).val
 | mapUpdate t m k x=>exact (uA t (hv m (by simp [Op.operands])) (hv k (by simp [Op.operands])) (dG hk) (hv x (by simp [Op.operands]))).unit
 | insert t m k x=>exact (uA t (hv m (by simp [Op.operands])) (hv k (by simp [Op.operands])) (dG hk) (hv x (by simp [Op.operands]))).unit
 | mapEntry t m k=>exact (Ja t (hv m (by simp [Op.operands])) (hv k (by simp [Op.operands])) (dG hk)).val
 | entryStore t m s x=>exact (Ac t (hv m (by simp [Op.operands])) (hv s (by simp [Op.operands])) (hv x (by simp [Op.operands]))).unit
 | range t x=>exact (TD t (hv x (by simp [Op.operands]))).val
 | next it s=>
   have hx:=hv it (by simp [Op.operands])
   exact (Yo s o.type hx (Jd r (fun a ha=>Je hx ha) hk)).val
 | entry it=>
   have hx:=hv it (by simp [Op.operands])
   exact (TJ hx (Jd r (fun a ha=>Je hx ha) hk)).val
 | extract x i=>exact (Ky i (hv x (by simp [Op.operands]))).val
 | call c=>
   obtain ⟨callee,args,ats⟩:=c
   dsimp only at hk ⊢
   have hargs:AR (VR ρ) (args.map e) (args.map e'):=AR.KR fun x hx=>hv x (by simp [Op.operands,Call.operands,hx])
   unfold resolve
   cases callee with
   |invoke r m=>cases hk
   |value f=>
    have hf:=hv f (by simp [Op.operands,Call.operands])
    dsimp only at hk ⊢
    revert hk hf
    generalize e f=u
    generalize e' f=u'
    intro hk hf
    cases hf with
    | @func g g' a a' b b' hg h1 h2 h3 h4=>
     refine Qj hg ⟨h3,h4⟩ (AR.append ⟨h1,h2⟩ hargs) ?_
     cases g with
     |func g=>exact .inl ⟨g,rfl⟩
     |yield l=>exact .inr (.inl ⟨l,rfl⟩)
     |via t p f x=>
      have hk':(!x && p.toList.all fun s=> !s.deref)=true:=hk
      rw [Bool.and_eq_true,Bool.not_eq_true'] at hk'
      obtain ⟨rfl,hp⟩:=hk'
      exact .inr (.inr (.inl ⟨t,p,f,rfl,hp⟩))
     |methodOf t n=>exact .inr (.inr (.inr ⟨t,n,rfl,hk⟩))
     |_=>cases hk
    |_=>cases hk
   |builtin b=>
    dsimp only at hk ⊢
    cases b with
    |len=>exact (aa3 ats o.type hargs).val
    |min=>exact (aa4 ats o.type hargs).val
    |max=>exact (aa5 ats o.type hargs).val
    |copy=>exact (Yr ats o.type hargs).val
    |cap=>
     obtain ⟨args⟩:=args
     dsimp only at hk
     match args,hk with
     | [x],hk=>
      refine (aa6 ats o.type hargs ?_).val
      have hvx:=hv x (by simp [Op.operands,Call.operands])
      revert hk hvx
      dsimp only
      generalize hy:e x=y
      intro hk hvx
      unfold ZP at hk
      split at hk
      ·rename_i n c
       exact .inl ⟨n,c,by simp [hy]⟩
      ·rename_i a n c
       split at hk
       ·rename_i B hB
        refine .inr ⟨a,n,c,by simp [hy],fun hs=>?_⟩
        have hbn:ρ.born a.block:=by generalize e' x=z at hvx;cases hvx;assumption
        have:=((r.bD a.block B hbn hB).1.1 hs)
        cases hf:B.dQ with
        |none=>exact this hf
        |some f=>rw [hf] at hk;cases hk
       ·cases hk
      ·cases hk
     | [],hk=>cases hk
     |_ :: _ :: _,hk=>cases hk
    |clear=>
     obtain ⟨args⟩:=args
     dsimp only at hk
     match args,hk with
     | [x],hk=>
      refine (TL ats o.type hargs ?_).val
      revert hk
      dsimp only
      generalize hy:e x=y
      intro hk
      cases y with
      |slice b n c=>exact ⟨b,n,c,by simp [hy]⟩
      |_=>cases hk
     | [],hk=>cases hk
     |_ :: _ :: _,hk=>cases hk
    |_=>cases hk
 | _=>exact absurd hk (by simp)
end
end Go.Am
namespace Go.Am
open Go.Ren (grow fM aO az)
inductive aK where
 | code (c:Code)
 | inBlock (id:Nat)
 | inLoop (body:Code)
 | inScope (body:Code)
 | region (ops:Array Oper) (l:List Nat)
 | drawn (ops:Array Oper) (l:List (Nat×List Nat))
 | inRangeFunc (l:Nat)
 | endRangeFunc (l:Nat)
 | beginRound
structure aF where
 fn:FuncId
 tmps:Array Value
 todo:List aK
 defers:List Deferred
 ret:Bool
 round:Option Nat
 dk:Bool:=false
structure AS where
 fr:aF
 cs:List aF
 h:AH
def af(tmps:Array Value):Operand→Value
 | .tmp t=>tmps.getD t undef
 | .const v=>v
 | .global g=>.pointer (some ⟨g,0,none⟩)
 | .func f=>.func (.func f) #[] #[]
def bf(o:Oper):Bool:=o.op.operands.toList.all fun
 | .const v=>fD 9 v
 | .global _=>false
 | _=>true
def aF.enter(P:Program)(f:FuncId)(args:Array Value):aF:=
 let fn:=P.funcs[f]?
 { fn:=f,tmps:=args ++ Array.replicate ((fn.map (·.ntmps)).getD 0 - args.size) undef,
   todo:=[.code ((fn.bind (·.body)).getD (.refuse "unsupported: a function without a Go body is entered"))],defers:=[],ret:=false,round:=none }
def aF.OD(l:Nat)(f:FuncId)(tmps:Array Value)(assign body:Code):aF:=
 { fn:=f,tmps,todo:=[.code assign,.beginRound,.code body],defers:=[],ret:=false,round:=some l }
def nN(id:Nat):List aK→Option (List aK)
 | .inBlock id' :: k=>if id' == id then some k else nN id k
 | _ :: k=>nN id k
 | []=>none
def qY(l:Nat):List aK→Option (List aK)
 | .inScope body :: k=>
   match findLabel body l with
   |some rest=>some (.code rest :: .inScope body :: k)
   |none=>qY l k
 | _ :: k=>qY l k
 | []=>none
def cZ(tmps:Array Value)(dst:Option Tmp)(v:Value):Array Value:=
 match dst with
 | some d=>tmps.setIfInBounds d v
 | none=>tmps
inductive xR(ρ:Env):aK→Item→Prop
 | code (c:Code):xR ρ (.code c) (.code c)
 | inBlock (id:Nat):xR ρ (.inBlock id) (.inBlock id)
 | inLoop (b:Code):xR ρ (.inLoop b) (.inLoop b)
 | inScope (b:Code):xR ρ (.inScope b) (.inScope b)
 | region (ops:Array Oper) (l:List Nat):xR ρ (.region ops l) (.inRegion ops l)
 | inRangeFunc {l l':Nat} (h:ρ.ob l l'):xR ρ (.inRangeFunc l) (.inRangeFunc l')
 | endRangeFunc {l l':Nat} (h:ρ.ob l l'):xR ρ (.endRangeFunc l) (.endRangeFunc l')
 | beginRound:xR ρ .beginRound .beginRound
theorem xR.mono{ρ σ:Env}(h:ρ.Le σ){a:aK}{b:Item}(k:xR ρ a b):xR σ a b:=by
 cases k with
 | code c=>exact .code c
 | inBlock c=>exact .inBlock c
 | inLoop c=>exact .inLoop c
 | inScope c=>exact .inScope c
 | region o l=>exact .region o l
 | inRangeFunc k=>exact .inRangeFunc (h.ob k)
 | endRangeFunc k=>exact .endRangeFunc (h.ob k)
 | beginRound=>exact .beginRound
structure FB(ρ:Env)(a:aF)(f:Frame):Prop where
 fn:f.fn=a.fn
 defers:LR (DR ρ) a.defers f.defers
 mode:f.mode=if a.ret then .returning else .run
 kind:f.kind=if a.dk then .deferred else .normal
 round:eF ρ.ob a.round f.roundOf
theorem FB.ne{ρ:Env}{a:aF}{f:Frame}(h:FB ρ a f):f.kind ≠ .early:=by rw [h.kind];split<;>simp
theorem FB.normal{ρ:Env}{a:aF}{f:Frame}(h:FB ρ a f)(hd:a.dk=false):f.kind = .normal:=by rw [h.kind,hd];rfl
theorem FB.mono{ρ σ:Env}(h:ρ.Le σ){a:aF}{f:Frame}(k:FB ρ a f):FB σ a f:=
 ⟨k.fn,k.defers.mono fun _ _ x=>x.mono h,k.mode,k.kind,k.round.mono fun _ _ x=>h.ob x⟩
structure F0(ρ:Env)(a:aF)(f:Frame):Prop extends FB ρ a f where
 tmps:AR (VR ρ) a.tmps f.tmps
 todo:LR (xR ρ) a.todo f.todo
theorem F0.mono{ρ σ:Env}(h:ρ.Le σ){a:aF}{f:Frame}(k:F0 ρ a f):F0 σ a f:=
 ⟨k.toFB.mono h,k.tmps.mono fun _ _ x=>x.mono h,k.todo.mono fun _ _ x=>x.mono h⟩
section
variable{P:Program}{ρ σ:Env}
theorem xE{a a':Array Value}(h:AR (VR ρ) a a')(t:Nat):VR ρ (a.getD t undef) (a'.getD t undef):=by
 have:=h.get t
 rw [Array.getD_eq_getD_getElem?,Array.getD_eq_getD_getElem?]
 revert this
 generalize a[t]? = x
 generalize a'[t]? = y
 intro this
 cases this with
 | none=>exact gV
 | some h=>exact h
theorem aa7{o:Oper}(hk:bf o=true){a a':Array Value}(h:AR (VR ρ) a a'){e:Operand→Value}(he:e=fun x=>match x with | .tmp t=>a'.getD t undef | .const v=>v | .global g=>.pointer (some ⟨g,0,none⟩) | .func f=>.func (.func f) #[] #[]):∀x∈o.op.operands,VR ρ (af a x) (e x):=by
 intro x hx
 subst he
 have:=List.all_eq_true.1 hk x (by simpa using hx)
 cases x with
 | tmp t=>exact xE h t
 | const v=>exact (dG this).vr ρ
 | global g=>cases this
 | func f=>exact .func (.func f) rfl (fun i x y h=>by simp at h) rfl (fun i x y h=>by simp at h)
theorem KT(f:Frame):f.eval=fun x=>match x with | .tmp t=>f.tmps.getD t undef | .const v=>v | .global g=>.pointer (some ⟨g,0,none⟩) | .func f=>.func (.func f) #[] #[]:=by
 funext x
 cases x<;>rfl
theorem TT{k:List aK}{k':List Item}(h:LR (xR ρ) k k')(id:Nat):eF (LR (xR ρ)) (nN id k) (exitTo id k'):=by
 induction h with
 | nil=>exact .none
 | cons h hl ih=>
   cases h<;>first|exact ih|skip
   rename_i id'
   unfold nN exitTo
   split
   ·exact .some hl
   ·exact ih
theorem TU{k:List aK}{k':List Item}(h:LR (xR ρ) k k')(l:Nat):eF (LR (xR ρ)) (qY l k) (gotoIn l k'):=by
 induction h with
 | nil=>exact .none
 | cons h hl ih=>
   cases h<;>first|exact ih|skip
   rename_i b
   unfold qY gotoIn
   cases findLabel b l with
   |some rest=>exact .some (LR.cons (.code _) (LR.cons (.inScope _) hl))
   |none=>exact ih
theorem TV{a a':Array Value}(h:AR (VR ρ) a a')(d:Option Tmp){v v':Value}(hv:VR ρ v v'):AR (VR ρ) (cZ a d v) (cZ a' d v'):=by
 cases d with
 | none=>exact h
 | some d=>exact h.set d hv
theorem xw(f:FuncId){a a':Array Value}(h:AR (VR ρ) a a'):F0 ρ (aF.enter P f a) (Frame.enter P f a' .normal):=by
 refine ⟨⟨rfl,.nil,rfl,rfl,.none⟩,?_,.cons (.code _) .nil⟩
 show AR (VR ρ) (a ++ _) (a' ++ _)
 rw [←h.1]
 exact h.append (.refl fun x hx=>by rw [Array.mem_replicate] at hx;rw [hx.2];exact gV)
theorem Yv{l l':Nat}(hl:ρ.ob l l')(f:FuncId){a a':Array Value}(h:AR (VR ρ) a a')(x b:Code):F0 ρ (aF.OD l f a x b) (Frame.round l' f a' x b .normal):=
 ⟨⟨rfl,.nil,rfl,rfl,.some hl⟩,h,.cons (.code _) (.cons .beginRound (.cons (.code _) .nil))⟩
theorem qx(fn:FuncId)(es:Array Event):∀e∈seen P fn es,e∈es:=by
 unfold seen
 dsimp only
 rw [←Array.foldl_toList]
 have key:∀(l:List Event) (q:Bool) (kept:Array Event),(∀e∈kept,e∈es)→(∀e∈l,e∈es)→∀e∈(l.foldl (fun (x:Bool×Array Event) e=>match x with|(q,kept)=>match e.loc with | .mark (.extern f)=>((P.funcs[f]?).any (·.norace),kept)|_=>(q,if q && !e.sync then kept else kept.push e)) (q,kept)).2,e∈es:=by
   intro l
   induction l with
   |nil=>intro q kept h1 _;exact h1
   |cons x l ih=>
    intro q kept h1 h2
    have hx:=h2 x (by simp)
    have h2':∀e∈l,e∈es:=fun e he=>h2 e (by simp [he])
    rw [List.foldl_cons]
    have hp:∀e∈kept.push x,e∈es:=fun e he=>by
     rcases Array.mem_push.1 he with he|he
     ·exact h1 e he
     ·rw [he];exact hx
    dsimp only
    split
    ·exact ih _ _ h1 h2'
    ·split
     ·exact ih _ _ h1 h2'
     ·exact ih _ _ hp h2'
 exact key es.toList _ #[] (fun e he=>by simp at he) (fun e he=>by simpa using he)
end
end Go.Am
namespace Go.Am
def Edge(ops:Array Oper)(j i:Nat):Prop:=∃o e,ops[i]? = some o∧e∈o.after∧Region.binds .any e=true∧e.on=j
inductive Qk(ops:Array Oper):List Nat→Prop
 | nil:Qk ops []
 | cons {i:Nat} {l:List Nat} (h:∀j,Edge ops j i→j∉i :: l) (hn:i∉l) (k:Qk ops l):Qk ops (i :: l)
def Down(ops:Array Oper)(l:List Nat):Prop:=∀i j,i < ops.size→i∉l→Edge ops j i→j∉l
def backOk(ops:Array Oper):Bool:=(List.range ops.size).all fun i=>match ops[i]? with
 | none=>true
 | some o=>o.after.all fun e=> !Region.binds .any e || decide (e.on < i)
theorem qZ{ops:Array Oper}(h:backOk ops=true){i j:Nat}(hi:i < ops.size)(e:Edge ops j i):j < i:=by
 obtain ⟨o,ed,h1,h2,h3,rfl⟩:=e
 have:=List.all_eq_true.1 h i (by simpa using hi)
 rw [h1] at this
 dsimp only at this
 have:=Array.all_eq_true'.1 this ed h2
 simpa [h3] using this
theorem filter_lt{α:Type}{p q:α→Bool}(hpq:∀x,q x=true→p x=true):∀ {l:List α},(∃x∈l,p x=true∧q x=false)→(l.filter q).length < (l.filter p).length:=by
 have le:∀l:List α,(l.filter q).length≤(l.filter p).length:=by
   intro l
   induction l with
   |nil=>simp
   |cons x l ih=>
    rw [List.filter_cons,List.filter_cons]
    cases hq:q x with
    |true=>rw [if_pos rfl,if_pos (hpq x hq)];simpa using ih
    |false=>
     rw [if_neg (by simp)]
     split
     ·simp;omega
     ·exact ih
 intro l
 induction l with
 | nil=>rintro ⟨x,hx,_⟩;simp at hx
 | cons x l ih=>
   rintro ⟨y,hy,h1,h2⟩
   rw [List.filter_cons,List.filter_cons]
   rcases List.mem_cons.1 hy with rfl|hy
   ·rw [if_neg (by simp [h2]),if_pos h1]
    have:=le l
    simp;omega
   ·have:=ih ⟨y,hy,h1,h2⟩
    cases hq:q x with
    |true=>rw [if_pos rfl,if_pos (hpq x hq)];simpa using this
    |false=>
     rw [if_neg (by simp)]
     split
     ·simp;omega
     ·exact this
def Ql(n:Nat)(listed:Array Bool):List Nat:=(List.range n).filter fun i=> !listed.getD i true
theorem oq{n:Nat}{listed:Array Bool}{i:Nat}:i∈Ql n listed↔i < n∧listed.getD i true=false:=by simp [Ql]
theorem zx{listed:Array Bool}{i j:Nat}(hi:i < listed.size)(d:Bool):(listed.setIfInBounds i true).getD j d=if i=j then true else listed.getD j d:=by
 rw [Array.getD_eq_getD_getElem?,Array.getD_eq_getD_getElem?,Array.getElem?_setIfInBounds]
 by_cases e:i=j
 · subst e;simp [hi]
 · simp [e]
theorem aa8{ops:Array Oper}(hb:backOk ops=true):∀(fuel t:Nat) (listed:Array Bool),listed.size=ops.size→(Ql ops.size listed).length≤fuel→Qk ops (Region.linearise.go .any ops fuel t listed [])∧∀i,i∈Region.linearise.go .any ops fuel t listed []↔i∈Ql ops.size listed:=by
 intro fuel
 induction fuel with
 | zero=>
   intro t listed hs hle
   have:Ql ops.size listed=[]:=List.length_eq_zero_iff.1 (by omega)
   rw [this]
   exact ⟨.nil,fun i=>Iff.rfl⟩
 | succ fuel ih=>
   intro t listed hs hle
   simp only [Region.linearise.go]
   change (Qk ops (match (Region.ready .any ops listed)[t % (Region.ready .any ops listed).length]? with
    |some i=>Region.linearise.go .any ops fuel (t / (Region.ready .any ops listed).length) (listed.setIfInBounds i true) [i]
    |none=>[].reverse))∧∀i,i∈(match (Region.ready .any ops listed)[t % (Region.ready .any ops listed).length]? with
    |some i=>Region.linearise.go .any ops fuel (t / (Region.ready .any ops listed).length) (listed.setIfInBounds i true) [i]
    |none=>[].reverse)↔i∈Ql ops.size listed
   have ready:∀i,i∈Region.ready .any ops listed↔i < ops.size∧listed.getD i true=false∧∀j,Edge ops j i→listed.getD j false=true:=by
    intro i
    unfold Region.ready
    simp only [List.mem_filter,List.mem_range,Bool.and_eq_true,Bool.not_eq_true']
    constructor
    ·rintro ⟨h1,h2,h3⟩
     refine ⟨h1,h2,?_⟩
     rintro j ⟨o,e,e1,e2,e3,rfl⟩
     rw [e1] at h3
     simp only [Option.map_some,Option.getD_some] at h3
     have:=Array.all_eq_true'.1 h3 e e2
     simpa [e3] using this
    ·rintro ⟨h1,h2,h3⟩
     refine ⟨h1,h2,?_⟩
     have:ops[i]? = some ops[i]:=by simp [h1]
     rw [this]
     simp only [Option.map_some,Option.getD_some]
     refine Array.all_eq_true'.2 fun e he=>?_
     cases hb:Region.binds .any e with
     |false=>rfl
     |true=>simpa using h3 e.on ⟨_,e,this,he,hb,rfl⟩
   cases hi:(Region.ready .any ops listed)[t % (Region.ready .any ops listed).length]? with
   |none=>
    have hnil:Region.ready .any ops listed=[]:=by
     cases hr:Region.ready .any ops listed with
     |nil=>rfl
     |cons x xs=>
      rw [hr] at hi
      have hlt:t % (x :: xs).length < (x :: xs).length:=Nat.mod_lt _ (by simp)
      simp at hi
      simp at hlt
      omega
    have hun:∀n i,i < n→i∉Ql ops.size listed:=by
     intro n
     induction n with
     |zero=>intro i h;omega
     |succ n ihn=>
      intro i hin hmem
      obtain ⟨h1,h2⟩:=oq.1 hmem
      have hr:i∈Region.ready .any ops listed:=(ready i).2 ⟨h1,h2,fun j hj=>by
       have hlt:=qZ hb h1 hj
       have:=ihn j (by omega)
       rw [oq] at this
       have hjn:j < ops.size:=by omega
       have h3:listed.getD j true=true:=by
        cases h:listed.getD j true with
        |true=>rfl
        |false=>exact absurd ⟨hjn,h⟩ this
       rw [Array.getD_eq_getD_getElem?] at h3 ⊢
       have:listed[j]? = some (listed[j]'(hs ▸ hjn)):=by simp [hs,hjn]
       rw [this] at h3 ⊢
       exact h3⟩
      rw [hnil] at hr
      cases hr
    refine ⟨.nil,fun i=>⟨fun h=>by simp at h,fun h=>absurd h (hun (i+1) i (by omega))⟩⟩
   |some i=>
    dsimp only
    rw [linearise_go_acc,List.reverse_singleton,List.singleton_append]
    obtain ⟨h1,h2,h3⟩:=(ready i).1 (List.mem_of_getElem? hi)
    have hi':i < listed.size:=by omega
    have hmem:∀k,k∈Ql ops.size (listed.setIfInBounds i true)↔k∈Ql ops.size listed∧k≠i:=by
     intro k
     rw [oq,oq,zx hi']
     by_cases e:i=k
     ·subst e;simp
     ·rw [if_neg e];exact ⟨fun h=>⟨h,Ne.symm e⟩,fun h=>h.1⟩
    have hlt:(Ql ops.size (listed.setIfInBounds i true)).length < (Ql ops.size listed).length:=by
     refine filter_lt (fun k hk=>?_) ⟨i,by simpa using h1,by simpa using h2,by rw [zx hi'];simp⟩
     rw [zx hi'] at hk
     by_cases e:i=k
     ·rw [if_pos e] at hk;cases hk
     ·rw [if_neg e] at hk;exact hk
    obtain ⟨k1,k2⟩:=ih (t / (Region.ready .any ops listed).length) (listed.setIfInBounds i true) (by simpa using hs) (by omega)
    refine ⟨.cons (fun j hj hjm=>?_) (fun hm=>?_) k1,fun k=>?_⟩
    ·have hl:=h3 j hj
     have hl':listed.getD j true=true:=by
      rw [Array.getD_eq_getD_getElem?] at hl ⊢
      cases h:listed[j]? with
      |none=>rfl
      |some x=>rw [h] at hl;exact hl
     rcases List.mem_cons.1 hjm with rfl|hjm
     ·rw [h2] at hl';cases hl'
     ·have:=(hmem j).1 ((k2 j).1 hjm)
      have:=(oq.1 this.1).2
      rw [hl'] at this
      cases this
    ·exact ((hmem i).1 ((k2 i).1 hm)).2 rfl
    ·rw [List.mem_cons,k2,hmem]
     constructor
     ·rintro (rfl|h)
      ·exact oq.2 ⟨h1,h2⟩
      ·exact h.1
     ·intro h
      by_cases e:k=i
      ·exact .inl e
      ·exact .inr ⟨h,e⟩
theorem Hf{ops:Array Oper}(hb:backOk ops=true)(t:Nat):Qk ops (Region.schedule true ops t)∧∀i,i∈Region.schedule true ops t↔i < ops.size:=by
 have hs:Region.schedule true ops t=Region.linearise.go .any ops ops.size t (Array.replicate ops.size false) []:=by
   simp [Region.schedule,Region.linearise]
 rw [hs]
 have hmem:∀i,i∈Ql ops.size (Array.replicate ops.size false)↔i < ops.size:=by
   intro i
   rw [oq]
   constructor
   ·exact fun h=>h.1
   ·intro h
    refine ⟨h,?_⟩
    rw [Array.getD_eq_getD_getElem?]
    simp [Array.getElem?_replicate,h]
 obtain ⟨h1,h2⟩:=aa8 hb ops.size t (Array.replicate ops.size false) (by simp) (by
   have:=List.length_filter_le (fun i=> !(Array.replicate ops.size false).getD i true) (List.range ops.size)
   simpa [Ql] using this)
 exact ⟨h1,fun i=>(h2 i).trans (hmem i)⟩
inductive Anc(ops:Array Oper):Nat→Nat→Prop
 | one {i j:Nat} (h:Edge ops j i):Anc ops j i
 | more {i j k:Nat} (h:Edge ops k i) (t:Anc ops j k):Anc ops j i
theorem Down.anc{ops:Array Oper}{l:List Nat}(hd:Down ops l)(hb:backOk ops=true){i j:Nat}(h:Anc ops j i):i < ops.size→i∉l→j∉l:=by
 induction h with
 | one h=>intro hi hn;exact hd _ _ hi hn h
 | more h t ih=>intro hi hn;exact ih (Nat.lt_trans (qZ hb hi h) hi) (hd _ _ hi hn h)
theorem Qk.head{ops:Array Oper}{i:Nat}{l:List Nat}(h:Qk ops (i :: l))(hd:Down ops (i :: l))(hb:backOk ops=true)(hi:i < ops.size){j:Nat}(ha:Anc ops j i):j∉i :: l:=by
 cases h with
 | cons h hn k=>
   cases ha with
   |one e=>exact h _ e
   |more e t=>exact hd.anc hb t (Nat.lt_trans (qZ hb hi e) hi) (h _ e)
theorem Qk.down{ops:Array Oper}{i:Nat}{l:List Nat}(h:Qk ops (i :: l))(hd:Down ops (i :: l)):Down ops l:=by
 intro k j hk hn e
 cases h with
 | cons h hn' k'=>
   by_cases hki:k=i
   ·subst hki
    exact fun hm=>h j e (List.mem_cons_of_mem _ hm)
   ·exact fun hm=>hd k j hk (fun hm'=>(List.mem_cons.1 hm').elim hki hn) e (List.mem_cons_of_mem _ hm)
def maskAt(t:List Nat)(n i:Nat):Nat:=bif Nat.blt i n then t.getD (n - 1 - i) 0 else 0
def iY(ops:Array Oper):Nat→List Nat
 | 0=>[]
 | n+1=>
   let t:=iY ops n
   (match ops[n]? with
   |none=>0
   |some o=>o.after.toList.foldr (fun e acc=>bif Region.binds .any e then Nat.lor (Nat.lor acc (Nat.shiftLeft 1 e.on)) (maskAt t n e.on) else acc) 0) :: t
def dep(ops:Array Oper)(n i j:Nat):Bool:=Nat.testBit (maskAt (iY ops n) n i) j
theorem Hg{ops:Array Oper}:∀(n i j:Nat),dep ops n i j=true→Anc ops j i:=by
 intro n
 unfold dep
 induction n with
 | zero=>
   intro i j h
   unfold maskAt at h
   have:Nat.blt i 0=false:=by cases i<;>rfl
   rw [this] at h
   simp at h
 | succ n ih=>
   intro i j h
   unfold maskAt at h
   cases hlt:Nat.blt i (n+1) with
   |false=>rw [hlt] at h;simp at h
   |true=>
    rw [hlt,cond_true] at h
    have hi:i < n+1:=Nat.blt_eq ▸ hlt
    by_cases e:i=n
    ·subst e
     rw [show i+1 - 1 - i=0 by omega] at h
     simp only [iY,List.getD_cons_zero] at h
     cases ho:ops[i]? with
     |none=>rw [ho] at h;simp at h
     |some o=>
      rw [ho] at h
      dsimp only at h
      have key:∀(l:List Go.Edge),(∀e∈l,e∈o.after.toList)→Nat.testBit (l.foldr (fun e acc=>bif Region.binds .any e then Nat.lor (Nat.lor acc (Nat.shiftLeft 1 e.on)) (maskAt (iY ops i) i e.on) else acc) 0) j=true→Anc ops j i:=by
       intro l
       induction l with
       |nil=>intro _ h;simp at h
       |cons e l ihl=>
        intro hl h
        simp only [List.foldr_cons] at h
        cases hb:Region.binds .any e with
        |false=>rw [hb,cond_false] at h;exact ihl (fun x hx=>hl x (List.mem_cons_of_mem _ hx)) h
        |true=>
         rw [hb,cond_true] at h
         have hE:Edge ops e.on i:=⟨o,e,ho,by simpa using hl e (by simp),hb,rfl⟩
         have h':Nat.testBit ((l.foldr (fun e acc=>bif Region.binds .any e then Nat.lor (Nat.lor acc (Nat.shiftLeft 1 e.on)) (maskAt (iY ops i) i e.on) else acc) 0 ||| (1 <<< e.on)) ||| maskAt (iY ops i) i e.on) j=true:=h
         rw [Nat.testBit_or,Nat.testBit_or] at h'
         simp only [Bool.or_eq_true] at h'
         rcases h' with (h'|h')|h'
         ·exact ihl (fun x hx=>hl x (List.mem_cons_of_mem _ hx)) h'
         ·rw [Nat.testBit_shiftLeft] at h'
          simp only [Bool.and_eq_true,decide_eq_true_eq] at h'
          have h2:=h'.2
          have:j - e.on=0:=by
            cases hz:j - e.on with
            | zero=>rfl
            | succ k=>rw [hz] at h2;simp [Nat.testBit_succ] at h2
          have:e.on=j:=by omega
          subst this
          exact .one hE
         ·exact .more hE (ih _ _ h')
      exact key _ (fun _ h=>h) h
    ·refine ih i j ?_
     unfold maskAt
     have:Nat.blt i n=true:=by rw [Nat.blt_eq];omega
     rw [this,cond_true]
     rw [show n+1 - 1 - i=(n - 1 - i)+1 by omega] at h
     simpa [iY] using h
end Go.Am
