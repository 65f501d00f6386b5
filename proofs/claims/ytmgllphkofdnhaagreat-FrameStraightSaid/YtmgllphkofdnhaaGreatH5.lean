import GoSem.Dispatch
import Derived.Test.YtmgllphkofdnhaaGreatH4
set_option linter.unusedVariables false
set_option linter.unusedSectionVars false
set_option linter.unusedSimpArgs false
namespace Go.Am
open Go.Ren (grow EvO Guar Rely)
section
variable{P:Program}{ρ σ:Env}{α β γ δ:Type}
theorem sr_len(ts:Array TypeId)(t:TypeId){a a':Array Value}(h:AR (VR ρ) a a'):SR P VR ρ (Builtin.len_ ts t a) (Builtin.len_ ts t a'):=by
 unfold Builtin.len_
 have h0:=h.get 0
 revert h0
 generalize a[0]? = x
 generalize a'[0]? = y
 intro h0
 cases h0 with
 |none=>cases ts[0]?<;>exact .stuck
 | @some x y h0=>
  cases ts[0]? with
  |none=>exact .stuck
  |some t0=>
   dsimp only
   refine (sr_underlying t0).bndS fun σ hσ d=>?_
   have h1:=h0.mono hσ
   cases d with
   |string=>cases h1<;>first|exact .pur (.int _ _)|exact .stuck
   |array n e=>cases h1<;>exact .pur (.int _ _)
   |pointer arr=>
    have:SR P VR σ (underlying arr >>= fun d=>match d with | .array n _=>Pure.pure (goInt n)|_=>Go.stuck "len: pointer to array expected") (underlying arr >>= fun d=>match d with | .array n _=>Pure.pure (goInt n)|_=>Go.stuck "len: pointer to array expected"):=
     (sr_underlying arr).bndS fun τ _ d=>by split;exact .pur (.int _ _);exact .stuck
    cases h1<;>exact this
   |slice e=>cases h1<;>first|exact .pur (.int _ _)|exact .stuck
   |map k e=>
    cases h1 with
    |nilmap=>exact .pur (.int _ _)
    |map hr=>exact sr_getMap hr (fun es es' n h=>by dsimp only;rw [h.1];exact .pur (.int _ _)) fun o ho=>by cases o<;>first|exact absurd rfl (ho _ _)|exact fun _ _=>rfl
    |_=>exact .stuck
   |chan dir e=>
    cases h1 with
    |nilchan=>exact .pur (.int _ _)
    |chan hr=>exact .getObj hr fun o o' ho=>by cases ho<;>exact .stuck
    |_=>exact .stuck
   |_=>cases h1<;>exact .stuck
theorem sr_strPick(op:BinOp)(a b:ByteArray):SR P VR ρ (do pure (.string (if ←asBool (←Op.stringOp op a b) then a else b)):Sem Value) (do pure (.string (if ←asBool (←Op.stringOp op a b) then a else b)):Sem Value):=
 (dry_stringOp op a b ρ).bnd fun σ _ x y e=>by
  obtain ⟨rfl,hp⟩:=e
  exact (sr_asBool (hp.vr σ)).bndS fun τ _ c=>.pur (.string _)
theorem sr_min2{x x' y y':Value}(hx:VR ρ x x')(hy:VR ρ y y'):SR P VR ρ (Builtin.min2 x y) (Builtin.min2 x' y'):=by
 cases hx with
 |int k n=>cases hy with|int k n=>exact .pur (.int _ _)|_=>exact .dead fun _ _=>rfl
 |string s=>cases hy with|string s=>exact sr_strPick _ _ _|_=>exact .dead fun _ _=>rfl
 |_=>cases hy<;>exact .dead fun _ _=>rfl
theorem sr_max2{x x' y y':Value}(hx:VR ρ x x')(hy:VR ρ y y'):SR P VR ρ (Builtin.max2 x y) (Builtin.max2 x' y'):=by
 cases hx with
 |int k n=>cases hy with|int k n=>exact .pur (.int _ _)|_=>exact .dead fun _ _=>rfl
 |string s=>cases hy with|string s=>exact sr_strPick _ _ _|_=>exact .dead fun _ _=>rfl
 |_=>cases hy<;>exact .dead fun _ _=>rfl
theorem sr_foldlM{f:Value→Value→Sem Value}(hf:∀ {ρ:Env} {x x' y y':Value},VR ρ x x' → VR ρ y y' → SR P VR ρ (f x y) (f x' y')){l l':List Value}:∀ {ρ:Env} {x x':Value},LR (VR ρ) l l' → VR ρ x x' → SR P VR ρ (l.foldlM f x) (l'.foldlM f x'):=by
 induction l generalizing l' with
 |nil=>intro ρ x x' h hx;cases h;exact .pur hx
 |cons y l ih=>
  intro ρ x x' h hx
  cases h with
  |cons hy hl=>
   rw [List.foldlM_cons,List.foldlM_cons]
   exact (hf hx hy).bnd fun σ hσ a b hab=>ih (hl.mono fun _ _ z=>z.mono hσ) hab
theorem sr_min(ts:Array TypeId)(t:TypeId){a a':Array Value}(h:AR (VR ρ) a a'):SR P VR ρ (Builtin.min_ ts t a) (Builtin.min_ ts t a'):=by
 unfold Builtin.min_
 have:=h.list
 revert this
 generalize a.toList=l
 generalize a'.toList=l'
 intro this
 cases this with
 |nil=>exact .stuck
 |cons hx hl=>exact sr_foldlM (fun h k=>sr_min2 h k) hl hx
theorem sr_max(ts:Array TypeId)(t:TypeId){a a':Array Value}(h:AR (VR ρ) a a'):SR P VR ρ (Builtin.max_ ts t a) (Builtin.max_ ts t a'):=by
 unfold Builtin.max_
 have:=h.list
 revert this
 generalize a.toList=l
 generalize a'.toList=l'
 intro this
 cases this with
 |nil=>exact .stuck
 |cons hx hl=>exact sr_foldlM (fun h k=>sr_max2 h k) hl hx
theorem sr_lenOf{v v':Value}(h:VR ρ v v'):SR P Same ρ (Builtin.lenOf v) (Builtin.lenOf v'):=by
 cases h<;>first|exact .pur rfl|exact .stuck
theorem sr_firstCells(size n:Nat){v v':Value}(h:VR ρ v v'):SR P (fun σ=>AR (VR σ)) ρ (Builtin.firstCells size n v) (Builtin.firstCells size n v'):=by
 cases h with
 |nilslice=>exact .pur .empty
 |slice hb hc=>exact sr_loadCells _ hb
 |string s=>
  refine .pur (.refl fun x hx=>?_)
  obtain ⟨b,_,rfl⟩:=Array.mem_map.1 hx
  exact .int _ _
 |_=>exact .stuck
theorem sr_copy(ts:Array TypeId)(t:TypeId){a a':Array Value}(h:AR (VR ρ) a a'):SR P VR ρ (Builtin.copy_ ts t a) (Builtin.copy_ ts t a'):=by
 unfold Builtin.copy_
 have h0:=h.get 0
 have h1:=h.get 1
 revert h0 h1
 generalize a[0]? = x
 generalize a'[0]? = x'
 generalize a[1]? = y
 generalize a'[1]? = y'
 intro h0 h1
 cases ts[0]? with
 |none=>cases h0<;>cases h1<;>exact .stuck
 |some t0=>
  cases h0 with
  |none=>cases h1<;>exact .stuck
  | @some x x' h0=>
   cases h1 with
   |none=>exact .stuck
   | @some y y' h1=>
    dsimp only
    refine (sr_underlying t0).bndS fun σ hσ d=>?_
    split
    ·rename_i elem
     have fin:∀(b b':Option Addr) (n:Nat),OptR (fun a a'=>ρ.born a.block∧a' = ρ.addr a) b b' → SR P VR σ (do
       let n ←pure (Nat.min (←Builtin.lenOf y) n)
       let cells ←Builtin.firstCells (←sizeOf elem) n y
       if let some a:=b then storeCells a cells.toList
       pure (goInt n):Sem Value) (do
       let n ←pure (Nat.min (←Builtin.lenOf y') n)
       let cells ←Builtin.firstCells (←sizeOf elem) n y'
       if let some a:=b' then storeCells a cells.toList
       pure (goInt n):Sem Value):=by
      intro b b' n hb
      refine (sr_lenOf (h1.mono hσ)).bndS fun τ hτ m=>?_
      refine SR.bndS (SR.pur (R:=Same) rfl) fun τ' hτ' k=>?_
      refine (sr_sizeOf elem).bndS fun υ hυ s=>?_
      have hle:=((hσ.trans hτ).trans hτ').trans hυ
      refine (sr_firstCells s _ (h1.mono hle)).bnd fun ω hω c c' hc=>?_
      cases hb with
      |none=>exact .pur (.int _ _)
      |some hb=>
       obtain ⟨hb,rfl⟩:=hb
       have hle' :=hle.trans hω
       dsimp only
       rw [←hle'.addr hb]
       exact (sr_storeCells 0 (hle'.born _ hb) hc.list).bndS fun _ _ _=>.pur (.int _ _)
     cases h0 with
     |nilslice n c=>exact fin none none n .none
     | @slice ad n c c' hb hc=>exact fin _ _ n (.some ⟨hb,rfl⟩)
     |_=>exact .dead fun _ _=>rfl
    ·exact .dead fun _ _=>rfl
theorem sr_clear[Zeros P](ts:Array TypeId)(t:TypeId){a a':Array Value}(h:AR (VR ρ) a a')(hx:∃b n c,a[0]? = some (.slice b n c)):SR P VR ρ (Builtin.clear_ ts t a) (Builtin.clear_ ts t a'):=by
 unfold Builtin.clear_
 have h0:=h.get 0
 obtain ⟨b,n,c,hx⟩:=hx
 rw [hx] at h0
 rw [hx]
 revert h0
 generalize a'[0]? = x'
 intro h0
 cases ts[0]? with
 |none=>cases h0;exact .stuck
 |some t0=>
  cases h0 with
  | @some _ x' h=>
   have fin:∀(σ:Env),SR P VR σ (pure (.tuple #[]):Sem Value) (pure (.tuple #[]):Sem Value):=fun σ=>.pur (.tuple rfl fun i x y hx=>by simp at hx)
   dsimp only
   refine (sr_underlying t0).bndS fun σ hσ d=>?_
   cases h with
   |nilslice n c=>exact fin σ
   | @slice a n c c' hb hc=>
    cases n with
    |zero=>exact fin σ
    |succ n=>
     cases d with
     |slice elem=>
      refine (sr_zeroS elem).bnd fun τ hτ z z' hz=>?_
      obtain ⟨rfl,hz⟩:=hz
      have hle:=hσ.trans hτ
      rw [←hle.addr hb]
      refine (sr_storeCells 0 (hle.born _ hb) (zeros_ar hz _ _).list).bndS fun υ _ _=>fin υ
     |_=>exact .dead fun _ _=>rfl
theorem sr_cap(ts:Array TypeId)(t:TypeId){a a':Array Value}(h:AR (VR ρ) a a')(hx:(∃n c,a[0]? = some (.slice none n c))∨∃b n c,a[0]? = some (.slice (some b) n c)∧¬ρ.slack b.block):SR P VR ρ (Builtin.cap_ ts t a) (Builtin.cap_ ts t a'):=by
 have key:∃o o' n c,a[0]? = some (.slice o n c)∧a'[0]? = some (.slice o' n c):=by
  have h0:=h.get 0
  rcases hx with ⟨n,c,hx⟩|⟨b,n,c,hx,hs⟩
  ·rw [hx] at h0
   generalize a'[0]? = y at h0
   cases h0 with
   |some h=>cases h;exact ⟨_,_,_,_,hx,rfl⟩
  ·rw [hx] at h0
   generalize a'[0]? = y at h0
   cases h0 with
   |some h=>
    cases h with
    | @slice _ _ _ c' hb hc=>
     have:c' = c:=hc.resolve_right fun x=>hs x.1
     subst this
     exact ⟨_,_,_,_,hx,rfl⟩
 obtain ⟨o,o',n,c,h1,h2⟩:=key
 unfold Builtin.cap_
 rw [h1,h2]
 cases ts[0]? with
 |none=>exact .stuck
 |some t0=>
  dsimp only
  refine (sr_underlying t0).bndS fun σ hσ d=>?_
  cases d with
  |array n e=>exact .pur (.int _ _)
  |slice e=>exact .pur (.int _ _)
  |pointer arr=>exact (sr_underlying arr).bndS fun τ _ d=>by cases d<;>first|exact .pur (.int _ _)|exact .stuck
  |_=>exact .stuck
end
end Go.Am
namespace Go.Am
open Go.Ren (grow EvO Guar Rely)
inductive NR(ρ:Env):Next→Next→Prop
 |value {v v':Value} (h:VR ρ v v'):NR ρ (.value v) (.value v')
 |skip:NR ρ .skip .skip
 |enter (f:FuncId) {a a':Array Value} (h:AR (VR ρ) a a'):NR ρ (.enter f a) (.enter f a')
 |round {l l':Nat} (f:FuncId) {t t':Array Value} (x b:Code) (hl:ρ.ob l l') (h:AR (VR ρ) t t'):NR ρ (.round l f t x b) (.round l' f t' x b)
 |odd:NR ρ .numGoroutine .numGoroutine
def iterOk(h:AH)(v:Value):Bool:=
 match v with
 | .pointer (some ⟨r,0,_⟩)=>match h.look r with
  |some { obj:=.cells _ _ _,.. }=>false
  |some _=>true
  |none=>false
 |_=>true
def cutOk(P:Program)(h:AH)(t:TypeId)(x:Value)(lo mx:Option Value):Bool:=
 (match P.underlying t with|some (.pointer _)=>false|_=>true) &&
 match x with
 | .slice none n c=>decide (n≤c)
 | .slice (some a) n c=>decide (n≤c) && (match h.look a.block with
  |some B=>match B.fam with
   |none=>true
   |some _=>mx.isNone && (decide (lowOf lo < c) || lowOf lo == 0) && (match P.underlying t with
    |some (.slice elem)=>match P.info? elem with
     |some i=>i.size == B.u
     |none=>true
    |_=>true)
  |none=>false)
 |_=>true
def keyOk(v:Value):Bool:=plainV 9 v
def nilOk(op:BinOp)(a b:Value):Bool:=
 (match op with | .eql | .neq=>true|_=>false) && match a,b with
 | .slice none _ _,.slice _ _ _ | .slice (some _) _ _,.slice none _ _ | .map none,.map _ | .map (some _),.map none | .pointer none,.pointer _ | .pointer (some _),.pointer none
 | .nilFunc,.nilFunc | .nilFunc,.func _ _ _ | .func _ _ _,.nilFunc=>true
 |_,_=>false
def methOk(P:Program)(t:TypeId)(name:String):Bool:=
 match P.underlying t with
 |some (.interface _)=>false
 |some (.pointer _)=>false
 |some _=>match P.info? t with
  |some i=>match i.methods.find? (·.name == name) with
   |some m=>(m.path.toList.all fun s=> !s.deref) && (match m.func with|some (_,false)=>true|_=>false)
   |none=>false
  |none=>false
 |none=>false
def calleeOk(P:Program)(v:Value):Bool:=
 match v with
 | .func (.methodOf t name) _ _=>methOk P t name
 | .func (.func _) _ _ | .func (.yield _) _ _=>true
 | .func (.via _ p _ x) _ _=> !x && p.toList.all fun s=> !s.deref
 |_=>false
def isAppend(o:Oper):Bool:=
 match o.op with
 | .call { callee:=.builtin .append,.. }=>true
 |_=>false
def capOk(h:AH)(v:Value):Bool:=match v with
 | .slice none _ _=>true
 | .slice (some a) _ _=>match h.look a.block with
  |some B=>B.fam.isNone
  |none=>false
 |_=>false
def opOk(P:Program)(h:AH)(e:Operand→Value)(o:Oper):Bool:=
 match o.op with
 | .move _ | .assign _ | .pick .. | .alloc _ | .box .. | .build .. | .buildSlice .. | .load .. | .store .. | .unOp .. | .makeInterface .. | .makeMap .. | .makeSlice ..
 | .field .. | .index .. | .indexAddr .. | .entryStore .. | .range .. | .extract .. =>true
 | .nilCheck x=>match e x with | .func (.method _) _ _=>false|_=>true
 | .binOp op _ x y _=>binOk op (e x) (e y) || nilOk op (e x) (e y)
 | .convert _ d x=>match e x,P.underlying d with | .int _ _,some (.int _)=>true|_,_=>false
 | .makeFunc fn _ _=>match fn with | .func _=>true | .via .. =>true | .methodOf .. =>true|_=>false
 | .slice t x lo hi mx=>cutOk P h t (e x) (lo.map e) (mx.map e)
 | .fieldAddr s _ f=>fieldOk P s f
 | .lookup _ _ k _=>keyOk (e k)
 | .mapUpdate _ _ k _ | .insert _ _ k _ | .mapEntry _ _ k=>keyOk (e k)
 | .next it _ | .entry it=>iterOk h (e it)
 | .call c=>match c.callee with
  | .builtin b=>match b with | .len | .min | .max | .copy=>true | .cap=>(match c.args.toList with | [x]=>capOk h (e x)|_=>false) | .clear=>(match c.args.toList with | [x]=>(match e x with | .slice .. =>true|_=>false)|_=>false)|_=>false
  | .value f=>calleeOk P (e f)
  | .invoke .. =>false
 |_=>false
section
variable{P:Program}{ρ σ:Env}{O D:Nat→Prop}{h:AH}{w:World}
theorem iterR_of{v:Value}(r:Rel ρ O D h w)(hb:∀a,v = .pointer (some a)→ρ.born a.block)(k:iterOk h v=true):IterR ρ v:=by
 intro x s e
 subst e
 have hx:=hb _ rfl
 have k':(match h.look x with|some { obj:=.cells _ _ _,.. }=>false|some _=>true|none=>false)=true:=k
 clear k
 rename _=true=>k
 split at k
 ·cases k
 ·rename_i B hB hl
  exact (r.obj x B hx hl fun c e f hc=>hB c e f B.fam B.ro B.u (by rw [←hc])).1
 ·cases k
theorem cutR_of{t:TypeId}{x x':Value}{lo mx:Option Value}(r:Rel ρ O D h w)(hx:VR ρ x x')(k:cutOk P h t x lo mx=true):CutR P ρ t x lo mx:=by
 unfold cutOk at k
 simp only [Bool.and_eq_true] at k
 obtain ⟨k1,k2⟩:=k
 refine ⟨fun arr e=>(by rw [e] at k1;cases k1),fun n c e=>(by subst e;simpa using k2),fun a n c e=>?_⟩
 subst e
 simp only [Bool.and_eq_true,decide_eq_true_eq] at k2
 obtain ⟨k2,k3⟩:=k2
 refine ⟨k2,fun hs=>?_⟩
 have hb:ρ.born a.block:=by cases hx;assumption
 split at k3
 ·rename_i B hl
  obtain ⟨s1,s2⟩:=r.slack _ B hb hl
  have hf:=s1.1 hs
  split at k3
  ·rename_i hf';exact absurd hf' hf
  ·rename_i f hf'
   simp only [Bool.and_eq_true,Bool.or_eq_true,decide_eq_true_eq,beq_iff_eq] at k3
   obtain ⟨⟨k3,k4⟩,k5⟩:=k3
   refine ⟨by simpa using k3,k4,fun elem he i hi=>?_⟩
   rw [he] at k5
   dsimp only at k5
   rw [hi] at k5
   rw [s2 hf]
   simpa using k5
 ·cases k3
end
section
variable{P:Program}{ρ σ:Env}{α β γ δ:Type}
theorem sr_unary(op:UnOp){v v':Value}(h:VR ρ v v'):SR P VR ρ (Op.unary op v) (Op.unary op v'):=by
 have dr:∀ {s:Sem Value},Dry P Plain s→SR P VR ρ s s:=fun h=>(h ρ).imp fun σ _ a b e=>by obtain ⟨rfl,e⟩:=e;exact e.vr σ
 cases op
 case neg=>
  cases h with
  |int k n=>exact dr (s:=Op.intArith .sub k 0 n) (dry_intArith _ _ _ _)
  |_=>exact .dead fun _ _=>rfl
 case xor=>
  cases h with
  |int k n=>exact dr (s:=Op.intBits .xor k (if k.signed then -1 else k.max) n) (dry_intBits _ _ _ _)
  |_=>exact .dead fun _ _=>rfl
 case not=>
  cases h with
  |bool b=>exact .pur (.bool _)
  |_=>exact .dead fun _ _=>rfl
 all_goals (cases h<;>exact .dead fun _ _=>rfl)
theorem sr_convert(s d:TypeId){v v':Value}(h:VR ρ v v')(hv:∃k n,v = .int k n)(hd:∃k,P.underlying d=some (.int k)):SR P VR ρ (convert s d v) (convert s d v'):=by
 obtain ⟨k,n,rfl⟩:=hv
 obtain ⟨j,hj⟩:=hd
 have:=vr_int_inv h
 subst this
 unfold convert
 refine (sr_underlying s).bndS fun σ hσ a=>?_
 refine (sr_underlyingI d).bnd fun τ hτ b b' e=>?_
 obtain ⟨rfl,e⟩:=e
 rw [hj] at e
 cases e
 cases a<;>first|exact .pur (.int _ _)|exact .dead fun _ _=>rfl
theorem sr_getLoop{l l':Nat}(h:ρ.ob l l'):SR P (fun σ a b=>LoopR σ a b) ρ (Instr.getLoop l) (Instr.getLoop l'):=by
 unfold Instr.getLoop
 refine .getObj h fun o o' ho=>?_
 cases ho with
 |loop h=>exact .pur h
 |_=>exact .dead fun _ _=>rfl
theorem zip_fold{ts:List Tmp}{l l':List Value}(h:LR (VR ρ) l l'):∀ {c c':Array Value},AR (VR ρ) c c' → AR (VR ρ) ((ts.zip l).foldl (fun (t:Array Value) (x:Tmp×Value)=>t.setIfInBounds x.1 x.2) c) ((ts.zip l').foldl (fun (t:Array Value) (x:Tmp×Value)=>t.setIfInBounds x.1 x.2) c'):=by
 induction h generalizing ts with
 |nil=>intro c c' hc;cases ts<;>exact hc
 |cons hx _ ih=>
  intro c c' hc
  cases ts with
  |nil=>exact hc
  |cons t ts=>exact ih (hc.set t hx)
theorem sr_yield{l l':Nat}{a a':Array Value}(h:ρ.ob l l')(ha:AR (VR ρ) a a'):SR P NR ρ (Instr.yield l a) (Instr.yield l' a'):=by
 unfold Instr.yield
 refine (sr_getLoop h).bnd fun σ hσ r r' hr=>?_
 rw [←ha.1,hr.params]
 split
 ·exact .dead fun _ _=>rfl
 ·refine .pur ?_
  rw [hr.fn,hr.assign,hr.body]
  refine .round _ _ _ (hσ.ob h) ?_
  have:=zip_fold (ts:=r.params.toList) (ha.list.mono fun _ _ x=>x.mono hσ) hr.tmps
  rw [←Array.foldl_toList,←Array.foldl_toList,Array.toList_zip,Array.toList_zip]
  exact this
theorem sr_callFunc(f:FuncId){a a':Array Value}(h:AR (VR ρ) a a'):SR P NR ρ (callFunc f a) (callFunc f a'):=by
 unfold callFunc
 refine .prog ?_
 split
 ·exact .stuck
 ·split
  ·exact .pur .odd
  ·split
   ·exact .mark
   ·exact .pur (.enter f h)
theorem sr_follow:∀(p:List FieldStep) (t:TypeId) {ρ:Env} {v v':Value},(p.all fun s=> !s.deref)=true→VR ρ v v' → SR P (fun σ a b=>a.1=b.1∧∃u u',a.2 = .val u∧b.2 = .val u' ∧ VR σ u u') ρ (follow p t (.val v)) (follow p t (.val v'))
 | [],t,ρ,v,v',_,h=>.pur ⟨rfl,v,v',rfl,rfl,h⟩
 |s :: p,t,ρ,v,v',hp,h=>by
  rw [List.all_cons,Bool.and_eq_true,Bool.not_eq_true'] at hp
  unfold follow
  refine (sr_underlying s.struct).bndS fun σ hσ d=>?_
  split
  ·split
   ·rename_i f hf
    rw [hp.1]
    simp only [Bool.false_eq_true,if_false]
    have h' :=h.mono hσ
    cases h' with
    |agg h1 h2=>exact (sr_part _ ⟨h1,h2⟩ _).bnd fun τ hτ a b e=>sr_follow p _ hp.2 e
    |_=>first|exact .stuck|exact .dead fun _ _=>rfl
   ·exact .stuck
  ·exact .stuck
theorem sr_receiverVia(t:TypeId)(p:Array FieldStep){v v':Value}(hp:(p.toList.all fun s=> !s.deref)=true)(h:VR ρ v v'):SR P VR ρ (receiverVia t v p false) (receiverVia t v' p false):=by
 unfold receiverVia
 refine (sr_follow p.toList t hp h).bnd fun σ hσ a b e=>?_
 obtain ⟨t1,x1⟩:=a
 obtain ⟨t2,x2⟩:=b
 obtain ⟨e1,u,u',e2,e3,hu⟩:=e
 dsimp only at e1 e2 e3 ⊢
 subst e1 e2 e3
 unfold receiverAt
 refine (sr_underlying t1).bndS fun τ hτ d=>?_
 have hu' :=hu.mono hτ
 cases d with
 |pointer elem=>
  dsimp only
  show SR P VR τ ((Place.val u).get t1 >>= fun ptr=>pure ptr >>= fun ptr=>asAddr ptr >>= loadVar elem) ((Place.val u').get t1 >>= fun ptr=>pure ptr >>= fun ptr=>asAddr ptr >>= loadVar elem)
  show SR P VR τ (asAddr u >>= loadVar elem) (asAddr u' >>= loadVar elem)
  exact (sr_asAddr hu').bnd fun υ hυ a b e=>by obtain ⟨h1,rfl⟩:=e;exact sr_loadVar elem h1
 |_=>exact .pur hu'
theorem sr_receiverAt(t:TypeId){v v':Value}(name:Option String)(hn:name=none∨∀e,P.underlying t≠some (.pointer e))(h:VR ρ v v'):SR P VR ρ (receiverAt t (.val v) false name) (receiverAt t (.val v') false name):=by
 unfold receiverAt
 refine (sr_underlyingI t).bnd fun τ hτ d d' e=>?_
 obtain ⟨rfl,hd⟩:=e
 have hu' :=h.mono hτ
 cases d with
 |pointer elem=>
  rcases hn with rfl|hn
  ·show SR P VR τ (asAddr v >>= loadVar elem) (asAddr v' >>= loadVar elem)
   exact (sr_asAddr hu').bnd fun υ hυ a b e=>by obtain ⟨h1,rfl⟩:=e;exact sr_loadVar elem h1
  ·exact absurd hd (hn elem)
 |_=>exact .pur hu'
theorem sr_method(n:Nat)(t:TypeId)(name:String){v v':Value}(hm:methOk P t name=true)(h:VR ρ v v'):SR P (fun σ a b=>a.1=b.1∧VR σ a.2 b.2) ρ (method (n+1) t v name) (method (n+1) t v' name):=by
 unfold methOk at hm
 unfold method
 refine (sr_typeInfo t).bnd fun σ hσ i i' e=>?_
 obtain ⟨rfl,hi⟩:=e
 have key:∀m,i.methods.find? (·.name == name)=some m→(m.path.toList.all fun s=> !s.deref)=true∧(∃f,m.func=some (f,false))∧∀e,P.underlying t≠some (.pointer e):=by
  intro m hfm
  split at hm
  ·cases hm
  ·cases hm
  ·rename_i hp he
   rw [hi] at hm
   dsimp only at hm
   rw [hfm] at hm
   dsimp only at hm
   rw [Bool.and_eq_true] at hm
   refine ⟨hm.1,?_,fun e he'=>by rw [he] at he';cases he';exact hp e rfl⟩
   have h2:=hm.2
   split at h2
   ·rename_i f hf;exact ⟨f,hf⟩
   ·cases h2
  ·cases hm
 cases hfm:i.methods.find? (·.name == name) with
 |none=>exact .stuck
 |some m=>
  obtain ⟨h1,⟨f,h2⟩,h3⟩:=key m hfm
  dsimp only
  by_cases hpe:m.path.isEmpty=true
  ·have hnil:m.path.toList=[]:=by simpa using hpe
   rw [hnil]
   unfold follow
   rw [h2,if_pos hpe]
   show SR P _ σ (receiverAt t (.val v) false (some ((name.splitOn ".").getLastD name)) >>= fun r=>Pure.pure (f,r)) (receiverAt t (.val v') false (some ((name.splitOn ".").getLastD name)) >>= fun r=>Pure.pure (f,r))
   exact (sr_receiverAt t _ (.inr h3) (h.mono hσ)).bnd fun υ hυ a b e=>.pur ⟨rfl,e⟩
  ·refine (sr_follow m.path.toList t h1 (h.mono hσ)).bnd fun τ hτ a b e=>?_
   obtain ⟨t1,x1⟩:=a
   obtain ⟨t2,x2⟩:=b
   obtain ⟨e1,u,u',e2,e3,hu⟩:=e
   dsimp only at e1 e2 e3 ⊢
   subst e1 e2 e3
   rw [h2,if_neg hpe]
   exact (sr_receiverAt _ _ (.inl rfl) hu).bnd fun υ hυ a b e=>.pur ⟨rfl,e⟩
theorem sr_callMethod(t:TypeId)(name:String){v v':Value}{a a':Array Value}(hm:methOk P t name=true)(h:VR ρ v v')(ha:AR (VR ρ) a a'):SR P NR ρ (callMethod (.iface t v) name a) (callMethod (.iface t v') name a'):=by
 unfold callMethod
 dsimp only
 refine .prog ?_
 obtain ⟨n,hn⟩:∃n,P.types.size+Made.depth=n+1:=⟨P.types.size+(Made.depth - 1),(Nat.add_assoc _ _ _).symm ▸ congrArg (P.types.size + ·) (Nat.sub_add_cancel (show 1≤Made.depth from by decide)).symm⟩
 rw [hn]
 refine (sr_method n t name hm h).bnd fun τ hτ r r' hr=>?_
 obtain ⟨f1,r1⟩:=r
 obtain ⟨f2,r2⟩:=r'
 obtain ⟨e,hr⟩:=hr
 dsimp only at e hr ⊢
 subst e
 refine sr_callFunc f1 ?_
 have h1:AR (VR τ) #[r1] #[r2]:=⟨rfl,fun i u v hu hv=>by
  rcases i with _|i
  ·simp at hu hv;subst hu hv;exact hr
  ·simp at hu⟩
 exact h1.append (AR.mono (R:=VR ρ) (fun _ _ x=>x.mono hτ) ha)
theorem sr_invoke{f f':Fn}{c c' a a':Array Value}(hf:FnR ρ f f')(hc:AR (VR ρ) c c')(ha:AR (VR ρ) a a')(hk:(∃g,f = .func g)∨(∃l,f = .yield l)∨(∃t p g,f = .via t p g false∧(p.toList.all fun s=> !s.deref)=true)∨∃t n,f = .methodOf t n∧methOk P t n=true):SR P NR ρ (invoke (.fn f c) a) (invoke (.fn f' c') a'):=by
 cases hf with
 |methodOf t n=>
  rcases hk with ⟨g,e⟩|⟨l,e⟩|⟨t',p',g,e,hp⟩|⟨t',n',e,hm⟩
  ·cases e
  ·cases e
  ·cases e
  ·cases e
   unfold invoke
   dsimp only
   have hs:=ha.1
   cases ea:a[0]? with
   |none=>exact .stuck
   |some x=>
    cases ea':a'[0]? with
    |none=>exfalso;rw [Array.getElem?_eq_none_iff] at ea';have:=(Array.getElem?_eq_some_iff.1 ea).1;omega
    |some x'=>
     have hx:=ha.2 0 x x' ea ea'
     dsimp only
     refine (sr_underlyingI t).bnd fun σ hσ d d' e=>?_
     obtain ⟨rfl,hd⟩:=e
     have h2:=(AR.mono (R:=VR ρ) (fun _ _ x=>x.mono hσ) ha).extract 1 a.size
     rw [←hs]
     have key:=sr_callMethod t n hm (hx.mono hσ) h2
     cases d with
     |interface _=>exfalso;unfold methOk at hm;rw [hd] at hm;cases hm
     |_=>exact key
 |func f=>exact sr_callFunc f (ha.append hc)
 |yield h=>exact sr_yield h ha
 |via t p f x=>
  rcases hk with ⟨g,e⟩|⟨l,e⟩|⟨t',p',g,e,hp⟩|⟨t',n',e,hm⟩
  ·cases e
  ·cases e
  ·cases e
   unfold invoke
   dsimp only
   have hs:=ha.1
   cases ea:a[0]? with
   |none=>
    exact .stuck
   |some x=>
    cases ea':a'[0]? with
    |none=>exfalso;rw [Array.getElem?_eq_none_iff] at ea';have:=(Array.getElem?_eq_some_iff.1 ea).1;omega
    |some x'=>
     refine (sr_receiverVia t p hp (ha.2 0 x x' ea ea')).bnd fun σ hσ r r' hr=>?_
     refine sr_callFunc f ?_
     have h1:AR (VR σ) #[r] #[r']:=⟨rfl,fun i u v hu hv=>by
      rcases i with _|i
      ·simp at hu hv;subst hu hv;exact hr
      ·simp at hu⟩
     have h2:=(AR.mono (R:=VR ρ) (fun _ _ x=>x.mono hσ) ha).extract 1 a.size
     rw [←hs]
     exact h1.append h2
  ·cases e
 |_=>rcases hk with ⟨g,e⟩|⟨l,e⟩|⟨t',p',g,e,hp⟩|⟨t',n',e,hm⟩<;>cases e
theorem AR.mapE{e e':Operand→Value}{a:Array Operand}(h:∀x∈a,VR ρ (e x) (e' x)):AR (VR ρ) (a.map e) (a.map e'):=by
 refine ⟨by simp,fun i x y hx hy=>?_⟩
 rw [Array.getElem?_map] at hx hy
 cases ha:a[i]? with
 |none=>rw [ha] at hx;cases hx
 |some z=>rw [ha] at hx hy;cases hx;cases hy;exact h z (Array.mem_of_getElem? ha)
theorem parts_lr{e e':Operand→Value}{ps:Array (Nat×Operand)}(h:∀x∈ps,VR ρ (e x.2) (e' x.2)):LR (fun a b=>b.1=a.1∧VR ρ a.2 b.2) (ps.map fun (i,x)=>(i,e x)).toList (ps.map fun (i,x)=>(i,e' x)).toList:=by
 rw [Array.toList_map,Array.toList_map]
 have:∀l:List (Nat×Operand),(∀x∈l,VR ρ (e x.2) (e' x.2))→LR (fun a b=>b.1=a.1∧VR ρ a.2 b.2) (l.map fun (i,x)=>(i,e x)) (l.map fun (i,x)=>(i,e' x)):=by
  intro l
  induction l with
  |nil=>intro _;exact .nil
  |cons x l ih=>intro h;exact .cons ⟨rfl,h x (by simp)⟩ (ih fun y hy=>h y (by simp [hy]))
 exact this _ fun x hx=>h x (by simpa using hx)
theorem optE{e e':Operand→Value}{r:Option Operand}(h:∀x,r=some x→VR ρ (e x) (e' x)):OptR (VR ρ) (r.map e) (r.map e'):=by
 cases r with
 |none=>exact .none
 |some x=>exact .some (h x rfl)
theorem SR.val{s s':Sem Value}(h:SR P VR ρ s s'):SR P NR ρ (s >>= fun x=>Pure.pure (Next.value x)) (s' >>= fun x=>Pure.pure (Next.value x)):=h.bnd fun _ _ _ _ h=>.pur (.value h)
theorem SR.unit{s s':Sem Unit}(h:SR P Same ρ s s'):SR P NR ρ (s >>= fun _=>Pure.pure Next.skip) (s' >>= fun _=>Pure.pure Next.skip):=h.bndS fun _ _ _=>.pur .skip
theorem born_ptr{v v':Value}(h:VR ρ v v'){a:Addr}(e:v = .pointer (some a)):ρ.born a.block:=by subst e;cases h;assumption
theorem binOk_plain{op:BinOp}{x y:Value}(h:binOk op x y=true):Plain x∧Plain y:=by
 unfold binOk at h
 split at h
 ·exact ⟨plain_int _ _,plain_int _ _⟩
 ·exact ⟨plain_string _,plain_string _⟩
 ·simp only [Bool.and_eq_true] at h
  exact ⟨plain_of h.1.2,plain_of h.2⟩
theorem sr_nilEqual(t:TypeId){a a' b b':Value}(ha:VR ρ a a')(hb:VR ρ b b')(h:nilOk .eql a b=true):SR P Same ρ (Op.equal t a b) (Op.equal t a' b'):=by
 unfold Op.equal Op.maxDepth Op.equalIn
 refine (sr_underlying t).bndS fun σ _ d=>?_
 cases ha with
 |nilslice n c=>cases hb with
  |nilslice n c=>cases d<;>first|exact .pur rfl|exact .dead fun _ _=>rfl
  |slice h hc=>cases d<;>first|exact .pur rfl|exact .dead fun _ _=>rfl
  |_=>cases h
 |slice h hc=>cases hb with
  |nilslice n c=>cases d<;>first|exact .pur rfl|exact .dead fun _ _=>rfl
  |_=>cases h
 |nilmap=>cases hb with
  |nilmap=>cases d<;>first|exact .pur rfl|exact .dead fun _ _=>rfl
  |map h=>cases d<;>first|exact .pur rfl|exact .dead fun _ _=>rfl
  |_=>cases h
 |map h=>cases hb with
  |nilmap=>cases d<;>first|exact .pur rfl|exact .dead fun _ _=>rfl
  |_=>cases h
 |nilptr=>cases hb with
  |nilptr=>cases d<;>first|exact .pur rfl|exact .dead fun _ _=>rfl
  |ptr h=>cases d<;>first|exact .pur rfl|exact .dead fun _ _=>rfl
  |_=>cases h
 |ptr h=>cases hb with
  |nilptr=>cases d<;>first|exact .pur rfl|exact .dead fun _ _=>rfl
  |_=>cases h
 |nilFunc=>cases hb with
  |nilFunc=>cases d<;>first|exact .pur rfl|exact .dead fun _ _=>rfl
  |func=>cases d<;>first|exact .pur rfl|exact .dead fun _ _=>rfl
  |_=>cases h
 |func=>cases hb with
  |nilFunc=>cases d<;>first|exact .pur rfl|exact .dead fun _ _=>rfl
  |_=>cases h
 |_=>cases hb<;>cases h
theorem sr_nilEq(op:BinOp)(t:TypeId)(x y:Operand){a a' b b':Value}(ha:VR ρ a a')(hb:VR ρ b b')(h:nilOk op a b=true):SR P VR ρ (do eqGuard op t x y a b;binOp op t a b) (do eqGuard op t x y a' b';binOp op t a' b'):=by
 have hq:op = .eql∨op = .neq:=by
  unfold nilOk at h
  cases op<;>first|exact .inl rfl|exact .inr rfl|cases h
 have h':nilOk .eql a b=true:=by rcases hq with rfl|rfl<;>exact h
 have he:=sr_nilEqual (P:=P) t ha hb h'
 have hg:SR P Same ρ (eqGuard op t x y a b) (eqGuard op t x y a' b'):=by
  rcases hq with rfl|rfl
  all_goals
   cases ha<;>cases hb<;>first|(cases h';done)|exact .pur rfl
 refine hg.bndS fun σ hσ _=>?_
 have he' :=sr_nilEqual (P:=P) t (ha.mono hσ) (hb.mono hσ) h'
 have hv:SR P VR σ (do pure (.bool (←Op.equal t a b)):Sem Value) (do pure (.bool (←Op.equal t a' b')):Sem Value):=he'.bndS fun _ _ _=>.pur (.bool _)
 have hn:SR P VR σ (do pure (.bool (!(←Op.equal t a b))):Sem Value) (do pure (.bool (!(←Op.equal t a' b'))):Sem Value):=he'.bndS fun _ _ _=>.pur (.bool _)
 rcases hq with rfl|rfl
 ·cases ha<;>cases hb<;>first|(cases h';done)|exact hv
 ·cases ha<;>cases hb<;>first|(cases h';done)|exact hn
theorem sr_exec[Zeros P]{O D:Nat→Prop}{h:AH}{w:World}(r:Rel ρ O D h w){e e':Operand→Value}(o:Oper)(hv:∀x∈o.op.operands,VR ρ (e x) (e' x))(hk:opOk P h e o=true):SR P NR ρ (execOp e o) (execOp e' o):=by
 unfold execOp
 unfold opOk at hk
 dsimp only
 generalize hop:o.op=op at hk hv
 cases op with
 |move x=>exact .pur (.value (hv x (by simp [Op.operands])))
 |assign x=>exact .pur (.value (hv x (by simp [Op.operands])))
 |pick c a b=>
  dsimp only
  refine (sr_asBool (hv c (by simp [Op.operands]))).bndS fun σ hσ t=>.pur (.value ?_)
  split
  ·exact (hv a (by simp [Op.operands])).mono hσ
  ·exact (hv b (by simp [Op.operands])).mono hσ
 |alloc t=>exact (sr_alloc t).val
 |box t x=>exact (sr_box t (hv x (by simp [Op.operands]))).val
 |build t ps=>exact (sr_build t (parts_lr fun x hx=>hv x.2 (by simp only [Op.operands,List.mem_toArray,List.mem_map];exact ⟨x,by simpa using hx,rfl⟩))).val
 |buildSlice t n ps=>exact (sr_buildSlice t n (parts_lr fun x hx=>hv x.2 (by simp only [Op.operands,List.mem_toArray,List.mem_map];exact ⟨x,by simpa using hx,rfl⟩))).val
 |load t x=>exact (sr_loadAt t (hv x (by simp [Op.operands]))).val
 |store t a x=>exact (sr_storeAt t (hv a (by simp [Op.operands])) (hv x (by simp [Op.operands]))).unit
 |nilCheck x=>
  dsimp only at hk ⊢
  have:=hv x (by simp [Op.operands])
  revert this hk
  generalize e x=u
  generalize e' x=u'
  intro hk this
  cases this with
  | @func f f' a a' b b' hf h1 h2 h3 h4=>
   cases hf with
   |method n=>cases hk
   |func f=>exact .pur (.value (.func (.func f) h1 h2 h3 h4))
   |methodOf t n=>exact .pur (.value (.func (.methodOf t n) h1 h2 h3 h4))
   |via t p f z=>exact .pur (.value (.func (.via t p f z) h1 h2 h3 h4))
   |yield hl=>exact .pur (.value (.func (.yield hl) h1 h2 h3 h4))
  |nilptr=>exact .dead (dead_rpanic _)
  |nilIface=>exact .dead (dead_rpanic _)
  |nilFunc=>exact .dead (dead_rpanic _)
  |bool b=>exact .pur (.value (.bool b))
  |int k n=>exact .pur (.value (.int k n))
  |string s=>exact .pur (.value (.string s))
  |ptr h=>exact .pur (.value (.ptr h))
  |nilslice n c=>exact .pur (.value (.nilslice n c))
  |slice h hc=>exact .pur (.value (.slice h hc))
  |nilmap=>exact .pur (.value .nilmap)
  |map h=>exact .pur (.value (.map h))
  |nilchan=>exact .pur (.value .nilchan)
  |chan h=>exact .pur (.value (.chan h))
  |iface h=>exact .pur (.value (.iface h))
  |agg h1 h2=>exact .pur (.value (.agg h1 h2))
  |tuple h1 h2=>exact .pur (.value (.tuple h1 h2))
 |binOp op t x y t2=>
  dsimp only at hk ⊢
  have hx:=hv x (by simp [Op.operands])
  have hy:=hv y (by simp [Op.operands])
  rcases Bool.or_eq_true_iff.1 hk with hk|hk
  rotate_left
  ·exact (sr_nilEq op t x y hx hy hk).val
  obtain ⟨px,py⟩:=binOk_plain hk
  rw [px.eq hx,py.eq hy]
  refine SR.val ?_
  refine (SR.dry (dry_eqGuard op t x y px py)).bndS fun σ _ _=>?_
  exact (dry_binOp op t hk px py σ).imp fun τ _ a b e=>by obtain ⟨rfl,e⟩:=e;exact e.vr τ
 |unOp op t x=>exact (sr_unary op (hv x (by simp [Op.operands]))).val
 |convert s d x=>
  dsimp only at hk ⊢
  refine (sr_convert s d (hv x (by simp [Op.operands])) ?_ ?_).val
  ·split at hk
   ·rename_i k n j hx hj;exact ⟨k,n,hx⟩
   ·cases hk
  ·split at hk
   ·rename_i k n j hx hj;exact ⟨j,hj⟩
   ·cases hk
 |makeInterface t x=>exact (sr_makeInterface t (hv x (by simp [Op.operands]))).val
 |makeFunc fn a b=>
  dsimp only at hk ⊢
  split at hk
  ·exact (sr_makeFunc (.func _) (AR.mapE fun x hx=>hv x (by simp [Op.operands,hx])) (AR.mapE fun x hx=>hv x (by simp [Op.operands,hx]))).val
  ·exact (sr_makeFunc (.via _ _ _ _) (AR.mapE fun x hx=>hv x (by simp [Op.operands,hx])) (AR.mapE fun x hx=>hv x (by simp [Op.operands,hx]))).val
  ·exact (sr_makeFunc (.methodOf _ _) (AR.mapE fun x hx=>hv x (by simp [Op.operands,hx])) (AR.mapE fun x hx=>hv x (by simp [Op.operands,hx]))).val
  ·cases hk
 |makeMap t r=>exact (sr_makeMap t (optE fun x hx=>hv x (by subst hx;simp [Op.operands]))).val
 |makeSlice t l c=>exact (sr_makeSlice t (hv l (by simp [Op.operands])) (hv c (by simp [Op.operands]))).val
 |slice t x lo hi mx=>
  dsimp only at hk ⊢
  have hx:=hv x (by simp [Op.operands])
  exact (sr_sliceAt t hx (optE fun y hy=>hv y (by subst hy;simp [Op.operands])) (optE fun y hy=>hv y (by subst hy;simp [Op.operands])) (optE fun y hy=>hv y (by subst hy;simp [Op.operands])) (cutR_of r hx hk)).val
 |fieldAddr s x f=>exact (sr_fieldAt s f hk (hv x (by simp [Op.operands]))).val
 |field t x f=>exact (sr_field t f (hv x (by simp [Op.operands]))).val
 |indexAddr t x i=>exact (sr_indexAt t (hv x (by simp [Op.operands])) (hv i (by simp [Op.operands]))).val
 |index t x i=>exact (sr_index t (hv x (by simp [Op.operands])) (hv i (by simp [Op.operands]))).val
 |lookup t x k c=>exact (sr_lookup t c (hv x (by simp [Op.operands])) (hv k (by simp [Op.operands])) (plain_of hk)).val
 |mapUpdate t m k x=>exact (sr_mapUpdate t (hv m (by simp [Op.operands])) (hv k (by simp [Op.operands])) (plain_of hk) (hv x (by simp [Op.operands]))).unit
 |insert t m k x=>exact (sr_mapUpdate t (hv m (by simp [Op.operands])) (hv k (by simp [Op.operands])) (plain_of hk) (hv x (by simp [Op.operands]))).unit
 |mapEntry t m k=>exact (sr_mapEntry t (hv m (by simp [Op.operands])) (hv k (by simp [Op.operands])) (plain_of hk)).val
 |entryStore t m s x=>exact (sr_entryStore t (hv m (by simp [Op.operands])) (hv s (by simp [Op.operands])) (hv x (by simp [Op.operands]))).unit
 |range t x=>exact (sr_range t (hv x (by simp [Op.operands]))).val
 |next it s=>
  have hx:=hv it (by simp [Op.operands])
  exact (sr_next s o.type hx (iterR_of r (fun a ha=>born_ptr hx ha) hk)).val
 |entry it=>
  have hx:=hv it (by simp [Op.operands])
  exact (sr_entry hx (iterR_of r (fun a ha=>born_ptr hx ha) hk)).val
 |extract x i=>exact (sr_extract i (hv x (by simp [Op.operands]))).val
 |call c=>
  obtain ⟨callee,args,ats⟩:=c
  dsimp only at hk ⊢
  have hargs:AR (VR ρ) (args.map e) (args.map e'):=AR.mapE fun x hx=>hv x (by simp [Op.operands,Call.operands,hx])
  unfold resolve
  cases callee with
  |invoke r m=>cases hk
  |value f=>
   have hf:=hv f (by simp [Op.operands,Call.operands])
   dsimp only at hk ⊢
   revert hk hf
   generalize e f=u
   generalize e' f=u'
   intro hk hf
   cases hf with
   | @func g g' a a' b b' hg h1 h2 h3 h4=>
    refine sr_invoke hg ⟨h3,h4⟩ (AR.append ⟨h1,h2⟩ hargs) ?_
    cases g with
    |func g=>exact .inl ⟨g,rfl⟩
    |yield l=>exact .inr (.inl ⟨l,rfl⟩)
    |via t p f x=>
     have hk':(!x && p.toList.all fun s=> !s.deref)=true:=hk
     rw [Bool.and_eq_true,Bool.not_eq_true'] at hk'
     obtain ⟨rfl,hp⟩:=hk'
     exact .inr (.inr (.inl ⟨t,p,f,rfl,hp⟩))
    |methodOf t n=>exact .inr (.inr (.inr ⟨t,n,rfl,hk⟩))
    |_=>cases hk
   |_=>cases hk
  |builtin b=>
   dsimp only at hk ⊢
   cases b with
   |len=>exact (sr_len ats o.type hargs).val
   |min=>exact (sr_min ats o.type hargs).val
   |max=>exact (sr_max ats o.type hargs).val
   |copy=>exact (sr_copy ats o.type hargs).val
   |cap=>
    obtain ⟨args⟩:=args
    dsimp only at hk
    match args,hk with
    | [x],hk=>
     refine (sr_cap ats o.type hargs ?_).val
     have hvx:=hv x (by simp [Op.operands,Call.operands])
     revert hk hvx
     dsimp only
     generalize hy:e x=y
     intro hk hvx
     unfold capOk at hk
     split at hk
     ·rename_i n c
      exact .inl ⟨n,c,by simp [hy]⟩
     ·rename_i a n c
      split at hk
      ·rename_i B hB
       refine .inr ⟨a,n,c,by simp [hy],fun hs=>?_⟩
       have hbn:ρ.born a.block:=by generalize e' x=z at hvx;cases hvx;assumption
       have:=((r.slack a.block B hbn hB).1.1 hs)
       cases hf:B.fam with
       | none=>exact this hf
       | some f=>rw [hf] at hk;cases hk
      ·cases hk
     ·cases hk
    | [],hk=>cases hk
    |_ :: _ :: _,hk=>cases hk
   |clear=>
    obtain ⟨args⟩:=args
    dsimp only at hk
    match args,hk with
    | [x],hk=>
     refine (sr_clear ats o.type hargs ?_).val
     revert hk
     dsimp only
     generalize hy:e x=y
     intro hk
     cases y with
     |slice b n c=>exact ⟨b,n,c,by simp [hy]⟩
     |_=>cases hk
    | [],hk=>cases hk
    |_ :: _ :: _,hk=>cases hk
   |_=>cases hk
 |_=>exact absurd hk (by simp)
end
end Go.Am
