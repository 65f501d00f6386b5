/- A part of the proof that the frame keeps its roots: lemmas on which it leans. -/
import GoSem.Machine.Exec
import Derived.Orders
import Derived.Test.YtfchamaikodjpaaGreatH7
section
set_option linter.unusedVariables false
set_option linter.unusedSectionVars false
set_option linter.unusedSimpArgs false
namespace Go.Am
open Go.Ren (grow EvO Guar Rely)
inductive AItem where
  | code (c : Code)
  | inBlock (id : Nat)
  | inLoop (body : Code)
  | inScope (body : Code)
  | region (ops : Array Oper) (l : List Nat)
  | drawn (ops : Array Oper) (l : List (Nat × List Nat))
  | inRangeFunc (l : Nat)
  | endRangeFunc (l : Nat)
  | beginRound
structure AFr where
  fn : FuncId
  tmps : Array Value
  todo : List AItem
  defers : List Deferred
  ret : Bool
  round : Option Nat
  dk : Bool := false
structure AS where
  fr : AFr
  cs : List AFr
  h : AH
def aeval (tmps : Array Value) : Operand → Value
  | .tmp t => tmps.getD t undef
  | .const v => v
  | .global g => .pointer (some ⟨g, 0, none⟩)
  | .func f => .func (.func f) #[] #[]
def operOk (o : Oper) : Bool := o.op.operands.toList.all fun
  | .const v => plainV 9 v
  | .global _ => false
  | _ => true
def AFr.enter (P : Program) (f : FuncId) (args : Array Value) : AFr :=
  let fn := P.funcs[f]?
  { fn := f, tmps := args ++ Array.replicate ((fn.map (·.ntmps)).getD 0 - args.size) undef,
    todo := [.code ((fn.bind (·.body)).getD (.refuse "unsupported: a function without a Go body is entered"))], defers := [], ret := false, round := none }
def AFr.roundAt (l : Nat) (f : FuncId) (tmps : Array Value) (assign body : Code) : AFr :=
  { fn := f, tmps, todo := [.code assign, .beginRound, .code body], defers := [], ret := false, round := some l }
def aexitTo (id : Nat) : List AItem → Option (List AItem)
  | .inBlock id' :: k => if id' == id then some k else aexitTo id k
  | _ :: k => aexitTo id k
  | [] => none
def agotoIn (l : Nat) : List AItem → Option (List AItem)
  | .inScope body :: k =>
    match findLabel body l with
    | some rest => some (.code rest :: .inScope body :: k)
    | none => agotoIn l k
  | _ :: k => agotoIn l k
  | [] => none
def setTmp (tmps : Array Value) (dst : Option Tmp) (v : Value) : Array Value :=
  match dst with
  | some d => tmps.setIfInBounds d v
  | none => tmps
inductive ItR (ρ : Env) : AItem → Item → Prop
  | code (c : Code) : ItR ρ (.code c) (.code c)
  | inBlock (id : Nat) : ItR ρ (.inBlock id) (.inBlock id)
  | inLoop (b : Code) : ItR ρ (.inLoop b) (.inLoop b)
  | inScope (b : Code) : ItR ρ (.inScope b) (.inScope b)
  | region (ops : Array Oper) (l : List Nat) : ItR ρ (.region ops l) (.inRegion ops l)
  | inRangeFunc {l l' : Nat} (h : ρ.ob l l') : ItR ρ (.inRangeFunc l) (.inRangeFunc l')
  | endRangeFunc {l l' : Nat} (h : ρ.ob l l') : ItR ρ (.endRangeFunc l) (.endRangeFunc l')
  | beginRound : ItR ρ .beginRound .beginRound
theorem ItR.mono {ρ σ : Env} (h : ρ.Le σ) {a : AItem} {b : Item} (k : ItR ρ a b) : ItR σ a b := by
  cases k with
  | code c => exact .code c
  | inBlock c => exact .inBlock c
  | inLoop c => exact .inLoop c
  | inScope c => exact .inScope c
  | region o l => exact .region o l
  | inRangeFunc k => exact .inRangeFunc (h.ob k)
  | endRangeFunc k => exact .endRangeFunc (h.ob k)
  | beginRound => exact .beginRound
structure FB (ρ : Env) (a : AFr) (f : Frame) : Prop where
  fn : f.fn = a.fn
  defers : LR (DR ρ) a.defers f.defers
  mode : f.mode = if a.ret then .returning else .run
  kind : f.kind = if a.dk then .deferred else .normal
  round : OptR ρ.ob a.round f.roundOf
theorem FB.ne {ρ : Env} {a : AFr} {f : Frame} (h : FB ρ a f) : f.kind ≠ .early := by rw [h.kind]; split <;> simp
theorem FB.normal {ρ : Env} {a : AFr} {f : Frame} (h : FB ρ a f) (hd : a.dk = false) : f.kind = .normal := by rw [h.kind, hd]; rfl
theorem FB.mono {ρ σ : Env} (h : ρ.Le σ) {a : AFr} {f : Frame} (k : FB ρ a f) : FB σ a f :=
  ⟨k.fn, k.defers.mono fun _ _ x => x.mono h, k.mode, k.kind, k.round.mono fun _ _ x => h.ob x⟩
structure F0 (ρ : Env) (a : AFr) (f : Frame) : Prop extends FB ρ a f where
  tmps : AR (VR ρ) a.tmps f.tmps
  todo : LR (ItR ρ) a.todo f.todo
theorem F0.mono {ρ σ : Env} (h : ρ.Le σ) {a : AFr} {f : Frame} (k : F0 ρ a f) : F0 σ a f :=
  ⟨k.toFB.mono h, k.tmps.mono fun _ _ x => x.mono h, k.todo.mono fun _ _ x => x.mono h⟩
section
variable {P : Program} {ρ σ : Env}
theorem vr_getD {a a' : Array Value} (h : AR (VR ρ) a a') (t : Nat) : VR ρ (a.getD t undef) (a'.getD t undef) := by
  have := h.get t
  rw [Array.getD_eq_getD_getElem?, Array.getD_eq_getD_getElem?]
  revert this
  generalize a[t]? = x
  generalize a'[t]? = y
  intro this
  cases this with
  | none => exact vr_undef
  | some h => exact h
theorem eval_r {o : Oper} (hk : operOk o = true) {a a' : Array Value} (h : AR (VR ρ) a a') {e : Operand → Value} (he : e = fun x => match x with | .tmp t => a'.getD t undef | .const v => v | .global g => .pointer (some ⟨g, 0, none⟩) | .func f => .func (.func f) #[] #[]) : ∀ x ∈ o.op.operands, VR ρ (aeval a x) (e x) := by
  intro x hx
  subst he
  have := List.all_eq_true.1 hk x (by simpa using hx)
  cases x with
  | tmp t => exact vr_getD h t
  | const v => exact (plain_of this).vr ρ
  | global g => cases this
  | func f => exact .func (.func f) rfl (fun i x y h => by simp at h) rfl (fun i x y h => by simp at h)
theorem frame_eval (f : Frame) : f.eval = fun x => match x with | .tmp t => f.tmps.getD t undef | .const v => v | .global g => .pointer (some ⟨g, 0, none⟩) | .func f => .func (.func f) #[] #[] := by
  funext x
  cases x <;> rfl
theorem exitTo_r {k : List AItem} {k' : List Item} (h : LR (ItR ρ) k k') (id : Nat) : OptR (LR (ItR ρ)) (aexitTo id k) (exitTo id k') := by
  induction h with
  | nil => exact .none
  | cons h hl ih =>
    cases h <;> first | exact ih | skip
    rename_i id'
    unfold aexitTo exitTo
    split
    · exact .some hl
    · exact ih
theorem gotoIn_r {k : List AItem} {k' : List Item} (h : LR (ItR ρ) k k') (l : Nat) : OptR (LR (ItR ρ)) (agotoIn l k) (gotoIn l k') := by
  induction h with
  | nil => exact .none
  | cons h hl ih =>
    cases h <;> first | exact ih | skip
    rename_i b
    unfold agotoIn gotoIn
    cases findLabel b l with
    | some rest => exact .some (LR.cons (.code _) (LR.cons (.inScope _) hl))
    | none => exact ih
theorem setTmp_r {a a' : Array Value} (h : AR (VR ρ) a a') (d : Option Tmp) {v v' : Value} (hv : VR ρ v v') : AR (VR ρ) (setTmp a d v) (setTmp a' d v') := by
  cases d with
  | none => exact h
  | some d => exact h.set d hv
theorem enter_r (f : FuncId) {a a' : Array Value} (h : AR (VR ρ) a a') : F0 ρ (AFr.enter P f a) (Frame.enter P f a' .normal) := by
  refine ⟨⟨rfl, .nil, rfl, rfl, .none⟩, ?_, .cons (.code _) .nil⟩
  show AR (VR ρ) (a ++ _) (a' ++ _)
  rw [← h.1]
  exact h.append (.refl fun x hx => by rw [Array.mem_replicate] at hx; rw [hx.2]; exact vr_undef)
theorem round_r {l l' : Nat} (hl : ρ.ob l l') (f : FuncId) {a a' : Array Value} (h : AR (VR ρ) a a') (x b : Code) : F0 ρ (AFr.roundAt l f a x b) (Frame.round l' f a' x b .normal) :=
  ⟨⟨rfl, .nil, rfl, rfl, .some hl⟩, h, .cons (.code _) (.cons .beginRound (.cons (.code _) .nil))⟩
theorem seen_sub (fn : FuncId) (es : Array Event) : ∀ e ∈ seen P fn es, e ∈ es := by
  unfold seen
  dsimp only
  rw [← Array.foldl_toList]
  have key : ∀ (l : List Event) (q : Bool) (kept : Array Event), (∀ e ∈ kept, e ∈ es) → (∀ e ∈ l, e ∈ es) → ∀ e ∈ (l.foldl (fun (x : Bool × Array Event) e => match x with | (q, kept) => match e.loc with | .mark (.extern f) => ((P.funcs[f]?).any (·.norace), kept) | _ => (q, if q && !e.sync then kept else kept.push e)) (q, kept)).2, e ∈ es := by
    intro l
    induction l with
    | nil => intro q kept h1 _; exact h1
    | cons x l ih =>
      intro q kept h1 h2
      have hx := h2 x (by simp)
      have h2' : ∀ e ∈ l, e ∈ es := fun e he => h2 e (by simp [he])
      rw [List.foldl_cons]
      have hp : ∀ e ∈ kept.push x, e ∈ es := fun e he => by
        rcases Array.mem_push.1 he with he | he
        · exact h1 e he
        · rw [he]; exact hx
      dsimp only
      split
      · exact ih _ _ h1 h2'
      · split
        · exact ih _ _ h1 h2'
        · exact ih _ _ hp h2'
  exact key es.toList _ #[] (fun e he => by simp at he) (fun e he => by simpa using he)
end
end Go.Am
end
section
set_option linter.unusedVariables false
set_option linter.unusedSectionVars false
set_option linter.unusedSimpArgs false
namespace Go.Am
def Edge (ops : Array Oper) (j i : Nat) : Prop := ∃ o e, ops[i]? = some o ∧ e ∈ o.after ∧ Region.binds .any e = true ∧ e.on = j
inductive Lin (ops : Array Oper) : List Nat → Prop
  | nil : Lin ops []
  | cons {i : Nat} {l : List Nat} (h : ∀ j, Edge ops j i → j ∉ i :: l) (hn : i ∉ l) (k : Lin ops l) : Lin ops (i :: l)
def Down (ops : Array Oper) (l : List Nat) : Prop := ∀ i j, i < ops.size → i ∉ l → Edge ops j i → j ∉ l
def backOk (ops : Array Oper) : Bool := (List.range ops.size).all fun i => match ops[i]? with
  | none => true
  | some o => o.after.all fun e => !Region.binds .any e || decide (e.on < i)
theorem back_lt {ops : Array Oper} (h : backOk ops = true) {i j : Nat} (hi : i < ops.size) (e : Edge ops j i) : j < i := by
  obtain ⟨o, ed, h1, h2, h3, rfl⟩ := e
  have := List.all_eq_true.1 h i (by simpa using hi)
  rw [h1] at this
  dsimp only at this
  have := Array.all_eq_true'.1 this ed h2
  simpa [h3] using this
theorem filter_lt {α : Type} {p q : α → Bool} (hpq : ∀ x, q x = true → p x = true) : ∀ {l : List α}, (∃ x ∈ l, p x = true ∧ q x = false) → (l.filter q).length < (l.filter p).length := by
  have le : ∀ l : List α, (l.filter q).length ≤ (l.filter p).length := by
    intro l
    induction l with
    | nil => simp
    | cons x l ih =>
      rw [List.filter_cons, List.filter_cons]
      cases hq : q x with
      | true => rw [if_pos rfl, if_pos (hpq x hq)]; simpa using ih
      | false =>
        rw [if_neg (by simp)]
        split
        · simp; omega
        · exact ih
  intro l
  induction l with
  | nil => rintro ⟨x, hx, _⟩; simp at hx
  | cons x l ih =>
    rintro ⟨y, hy, h1, h2⟩
    rw [List.filter_cons, List.filter_cons]
    rcases List.mem_cons.1 hy with rfl | hy
    · rw [if_neg (by simp [h2]), if_pos h1]
      have := le l
      simp; omega
    · have := ih ⟨y, hy, h1, h2⟩
      cases hq : q x with
      | true => rw [if_pos rfl, if_pos (hpq x hq)]; simpa using this
      | false =>
        rw [if_neg (by simp)]
        split
        · simp; omega
        · exact this
def unl (n : Nat) (listed : Array Bool) : List Nat := (List.range n).filter fun i => !listed.getD i true
theorem mem_unl {n : Nat} {listed : Array Bool} {i : Nat} : i ∈ unl n listed ↔ i < n ∧ listed.getD i true = false := by simp [unl]
theorem getD_set {listed : Array Bool} {i j : Nat} (hi : i < listed.size) (d : Bool) : (listed.setIfInBounds i true).getD j d = if i = j then true else listed.getD j d := by
  rw [Array.getD_eq_getD_getElem?, Array.getD_eq_getD_getElem?, Array.getElem?_setIfInBounds]
  by_cases e : i = j
  · subst e; simp [hi]
  · simp [e]
theorem lin_go {ops : Array Oper} (hb : backOk ops = true) : ∀ (fuel t : Nat) (listed : Array Bool), listed.size = ops.size → (unl ops.size listed).length ≤ fuel → Lin ops (Region.linearise.go .any ops fuel t listed []) ∧ ∀ i, i ∈ Region.linearise.go .any ops fuel t listed [] ↔ i ∈ unl ops.size listed := by
  intro fuel
  induction fuel with
  | zero =>
    intro t listed hs hle
    have : unl ops.size listed = [] := List.length_eq_zero_iff.1 (by omega)
    rw [this]
    exact ⟨.nil, fun i => Iff.rfl⟩
  | succ fuel ih =>
    intro t listed hs hle
    simp only [Region.linearise.go]
    change (Lin ops (match (Region.ready .any ops listed)[t % (Region.ready .any ops listed).length]? with
      | some i => Region.linearise.go .any ops fuel (t / (Region.ready .any ops listed).length) (listed.setIfInBounds i true) [i]
      | none => [].reverse)) ∧ ∀ i, i ∈ (match (Region.ready .any ops listed)[t % (Region.ready .any ops listed).length]? with
      | some i => Region.linearise.go .any ops fuel (t / (Region.ready .any ops listed).length) (listed.setIfInBounds i true) [i]
      | none => [].reverse) ↔ i ∈ unl ops.size listed
    have ready : ∀ i, i ∈ Region.ready .any ops listed ↔ i < ops.size ∧ listed.getD i true = false ∧ ∀ j, Edge ops j i → listed.getD j false = true := by
      intro i
      unfold Region.ready
      simp only [List.mem_filter, List.mem_range, Bool.and_eq_true, Bool.not_eq_true']
      constructor
      · rintro ⟨h1, h2, h3⟩
        refine ⟨h1, h2, ?_⟩
        rintro j ⟨o, e, e1, e2, e3, rfl⟩
        rw [e1] at h3
        simp only [Option.map_some, Option.getD_some] at h3
        have := Array.all_eq_true'.1 h3 e e2
        simpa [e3] using this
      · rintro ⟨h1, h2, h3⟩
        refine ⟨h1, h2, ?_⟩
        have : ops[i]? = some ops[i] := by simp [h1]
        rw [this]
        simp only [Option.map_some, Option.getD_some]
        refine Array.all_eq_true'.2 fun e he => ?_
        cases hb : Region.binds .any e with
        | false => rfl
        | true => simpa using h3 e.on ⟨_, e, this, he, hb, rfl⟩
    cases hi : (Region.ready .any ops listed)[t % (Region.ready .any ops listed).length]? with
    | none =>
      have hnil : Region.ready .any ops listed = [] := by
        cases hr : Region.ready .any ops listed with
        | nil => rfl
        | cons x xs =>
          rw [hr] at hi
          have hlt : t % (x :: xs).length < (x :: xs).length := Nat.mod_lt _ (by simp)
          simp at hi
          simp at hlt
          omega
      have hun : ∀ n i, i < n → i ∉ unl ops.size listed := by
        intro n
        induction n with
        | zero => intro i h; omega
        | succ n ihn =>
          intro i hin hmem
          obtain ⟨h1, h2⟩ := mem_unl.1 hmem
          have hr : i ∈ Region.ready .any ops listed := (ready i).2 ⟨h1, h2, fun j hj => by
            have hlt := back_lt hb h1 hj
            have := ihn j (by omega)
            rw [mem_unl] at this
            have hjn : j < ops.size := by omega
            have h3 : listed.getD j true = true := by
              cases h : listed.getD j true with
              | true => rfl
              | false => exact absurd ⟨hjn, h⟩ this
            rw [Array.getD_eq_getD_getElem?] at h3 ⊢
            have : listed[j]? = some (listed[j]'(hs ▸ hjn)) := by simp [hs, hjn]
            rw [this] at h3 ⊢
            exact h3⟩
          rw [hnil] at hr
          cases hr
      refine ⟨.nil, fun i => ⟨fun h => by simp at h, fun h => absurd h (hun (i + 1) i (by omega))⟩⟩
    | some i =>
      dsimp only
      rw [linearise_go_acc, List.reverse_singleton, List.singleton_append]
      obtain ⟨h1, h2, h3⟩ := (ready i).1 (List.mem_of_getElem? hi)
      have hi' : i < listed.size := by omega
      have hmem : ∀ k, k ∈ unl ops.size (listed.setIfInBounds i true) ↔ k ∈ unl ops.size listed ∧ k ≠ i := by
        intro k
        rw [mem_unl, mem_unl, getD_set hi']
        by_cases e : i = k
        · subst e; simp
        · rw [if_neg e]; exact ⟨fun h => ⟨h, Ne.symm e⟩, fun h => h.1⟩
      have hlt : (unl ops.size (listed.setIfInBounds i true)).length < (unl ops.size listed).length := by
        refine filter_lt (fun k hk => ?_) ⟨i, by simpa using h1, by simpa using h2, by rw [getD_set hi']; simp⟩
        rw [getD_set hi'] at hk
        by_cases e : i = k
        · rw [if_pos e] at hk; cases hk
        · rw [if_neg e] at hk; exact hk
      obtain ⟨k1, k2⟩ := ih (t / (Region.ready .any ops listed).length) (listed.setIfInBounds i true) (by simpa using hs) (by omega)
      refine ⟨.cons (fun j hj hjm => ?_) (fun hm => ?_) k1, fun k => ?_⟩
      · have hl := h3 j hj
        have hl' : listed.getD j true = true := by
          rw [Array.getD_eq_getD_getElem?] at hl ⊢
          cases h : listed[j]? with
          | none => rfl
          | some x => rw [h] at hl; exact hl
        rcases List.mem_cons.1 hjm with rfl | hjm
        · rw [h2] at hl'; cases hl'
        · have := (hmem j).1 ((k2 j).1 hjm)
          have := (mem_unl.1 this.1).2
          rw [hl'] at this
          cases this
      · exact ((hmem i).1 ((k2 i).1 hm)).2 rfl
      · rw [List.mem_cons, k2, hmem]
        constructor
        · rintro (rfl | h)
          · exact mem_unl.2 ⟨h1, h2⟩
          · exact h.1
        · intro h
          by_cases e : k = i
          · exact .inl e
          · exact .inr ⟨h, e⟩
theorem schedule_lin {ops : Array Oper} (hb : backOk ops = true) (t : Nat) : Lin ops (Region.schedule true ops t) ∧ ∀ i, i ∈ Region.schedule true ops t ↔ i < ops.size := by
  have hs : Region.schedule true ops t = Region.linearise.go .any ops ops.size t (Array.replicate ops.size false) [] := by
    simp [Region.schedule, Region.linearise]
  rw [hs]
  have hmem : ∀ i, i ∈ unl ops.size (Array.replicate ops.size false) ↔ i < ops.size := by
    intro i
    rw [mem_unl]
    constructor
    · exact fun h => h.1
    · intro h
      refine ⟨h, ?_⟩
      rw [Array.getD_eq_getD_getElem?]
      simp [Array.getElem?_replicate, h]
  obtain ⟨h1, h2⟩ := lin_go hb ops.size t (Array.replicate ops.size false) (by simp) (by
    have := List.length_filter_le (fun i => !(Array.replicate ops.size false).getD i true) (List.range ops.size)
    simpa [unl] using this)
  exact ⟨h1, fun i => (h2 i).trans (hmem i)⟩
inductive Anc (ops : Array Oper) : Nat → Nat → Prop
  | one {i j : Nat} (h : Edge ops j i) : Anc ops j i
  | more {i j k : Nat} (h : Edge ops k i) (t : Anc ops j k) : Anc ops j i
theorem Down.anc {ops : Array Oper} {l : List Nat} (hd : Down ops l) (hb : backOk ops = true) {i j : Nat} (h : Anc ops j i) : i < ops.size → i ∉ l → j ∉ l := by
  induction h with
  | one h => intro hi hn; exact hd _ _ hi hn h
  | more h t ih => intro hi hn; exact ih (Nat.lt_trans (back_lt hb hi h) hi) (hd _ _ hi hn h)
theorem Lin.head {ops : Array Oper} {i : Nat} {l : List Nat} (h : Lin ops (i :: l)) (hd : Down ops (i :: l)) (hb : backOk ops = true) (hi : i < ops.size) {j : Nat} (ha : Anc ops j i) : j ∉ i :: l := by
  cases h with
  | cons h hn k =>
    cases ha with
    | one e => exact h _ e
    | more e t => exact hd.anc hb t (Nat.lt_trans (back_lt hb hi e) hi) (h _ e)
theorem Lin.down {ops : Array Oper} {i : Nat} {l : List Nat} (h : Lin ops (i :: l)) (hd : Down ops (i :: l)) : Down ops l := by
  intro k j hk hn e
  cases h with
  | cons h hn' k' =>
    by_cases hki : k = i
    · subst hki
      exact fun hm => h j e (List.mem_cons_of_mem _ hm)
    · exact fun hm => hd k j hk (fun hm' => (List.mem_cons.1 hm').elim hki hn) e (List.mem_cons_of_mem _ hm)
def maskAt (t : List Nat) (n i : Nat) : Nat := bif Nat.blt i n then t.getD (n - 1 - i) 0 else 0
def depMask (ops : Array Oper) : Nat → List Nat
  | 0 => []
  | n + 1 =>
    let t := depMask ops n
    (match ops[n]? with
    | none => 0
    | some o => o.after.toList.foldr (fun e acc => bif Region.binds .any e then Nat.lor (Nat.lor acc (Nat.shiftLeft 1 e.on)) (maskAt t n e.on) else acc) 0) :: t
def dep (ops : Array Oper) (n i j : Nat) : Bool := Nat.testBit (maskAt (depMask ops n) n i) j
theorem dep_anc {ops : Array Oper} : ∀ (n i j : Nat), dep ops n i j = true → Anc ops j i := by
  intro n
  unfold dep
  induction n with
  | zero =>
    intro i j h
    unfold maskAt at h
    have : Nat.blt i 0 = false := by cases i <;> rfl
    rw [this] at h
    simp at h
  | succ n ih =>
    intro i j h
    unfold maskAt at h
    cases hlt : Nat.blt i (n + 1) with
    | false => rw [hlt] at h; simp at h
    | true =>
      rw [hlt, cond_true] at h
      have hi : i < n + 1 := Nat.blt_eq ▸ hlt
      by_cases e : i = n
      · subst e
        rw [show i + 1 - 1 - i = 0 by omega] at h
        simp only [depMask, List.getD_cons_zero] at h
        cases ho : ops[i]? with
        | none => rw [ho] at h; simp at h
        | some o =>
          rw [ho] at h
          dsimp only at h
          have key : ∀ (l : List Go.Edge), (∀ e ∈ l, e ∈ o.after.toList) → Nat.testBit (l.foldr (fun e acc => bif Region.binds .any e then Nat.lor (Nat.lor acc (Nat.shiftLeft 1 e.on)) (maskAt (depMask ops i) i e.on) else acc) 0) j = true → Anc ops j i := by
            intro l
            induction l with
            | nil => intro _ h; simp at h
            | cons e l ihl =>
              intro hl h
              simp only [List.foldr_cons] at h
              cases hb : Region.binds .any e with
              | false => rw [hb, cond_false] at h; exact ihl (fun x hx => hl x (List.mem_cons_of_mem _ hx)) h
              | true =>
                rw [hb, cond_true] at h
                have hE : Edge ops e.on i := ⟨o, e, ho, by simpa using hl e (by simp), hb, rfl⟩
                have h' : Nat.testBit ((l.foldr (fun e acc => bif Region.binds .any e then Nat.lor (Nat.lor acc (Nat.shiftLeft 1 e.on)) (maskAt (depMask ops i) i e.on) else acc) 0 ||| (1 <<< e.on)) ||| maskAt (depMask ops i) i e.on) j = true := h
                rw [Nat.testBit_or, Nat.testBit_or] at h'
                simp only [Bool.or_eq_true] at h'
                rcases h' with (h' | h') | h'
                · exact ihl (fun x hx => hl x (List.mem_cons_of_mem _ hx)) h'
                · rw [Nat.testBit_shiftLeft] at h'
                  simp only [Bool.and_eq_true, decide_eq_true_eq] at h'
                  have h2 := h'.2
                  have : j - e.on = 0 := by
                    cases hz : j - e.on with
                    | zero => rfl
                    | succ k => rw [hz] at h2; simp [Nat.testBit_succ] at h2
                  have : e.on = j := by omega
                  subst this
                  exact .one hE
                · exact .more hE (ih _ _ h')
          exact key _ (fun _ h => h) h
      · refine ih i j ?_
        unfold maskAt
        have : Nat.blt i n = true := by rw [Nat.blt_eq]; omega
        rw [this, cond_true]
        rw [show n + 1 - 1 - i = (n - 1 - i) + 1 by omega] at h
        simpa [depMask] using h
end Go.Am
end
