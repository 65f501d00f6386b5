/- A part of the proof that the frame keeps its roots: lemmas on which it leans. -/
import Derived.Test.YtfchamaikodjpaaGreatH7
import Derived.Test.YtfchamaikodjpaaGreatH12
section
set_option linter.unusedVariables false
set_option linter.unusedSectionVars false
set_option linter.unusedSimpArgs false
namespace Go.Am
open Go.Ren (grow EvO Guar Rely)
inductive Res where
  | go (s : AS)
  | ret (v : Value) (h : AH)
def afinish (P : Program) (f : AFr) (h : AH) (v : Value) : Option AFr :=
  match f.todo with
  | .region ops (i :: rest) :: k => some { f with tmps := setTmp f.tmps ((ops[i]?).bind (·.dst)) v, todo := .region ops rest :: k }
  | .inRangeFunc l :: k => some { f with todo := .endRangeFunc l :: k }
  | .beginRound :: k => some { f with todo := k }
  | .drawn ops ((i, c) :: rest) :: k => if kindAt ops i = .effect ∧ recheck P ops c (setTmp f.tmps (dstAt ops i) v) h = true then some { f with tmps := setTmp f.tmps (dstAt ops i) v, todo := .drawn ops rest :: k } else none
  | _ => none
def aret (P : Program) (dk : Bool) (cs : List AFr) (v : Value) (h : AH) : Option Res :=
  if dk then none else match cs with
  | [] => some (.ret v h)
  | c :: cs => (afinish P c h v).map fun f => .go ⟨f, cs, h⟩
def aapply (P : Program) (fr : AFr) (cs : List AFr) : Option (Next × AH) → Option Res
  | some (.value v, h) => (afinish P fr h v).map fun f => .go ⟨f, cs, h⟩
  | some (.skip, h) => (afinish P fr h undef).map fun f => .go ⟨f, cs, h⟩
  | some (.enter f args, h) => some (.go ⟨AFr.enter P f args, fr :: cs, h⟩)
  | some (.round l f t x b, h) => some (.go ⟨AFr.roundAt l f t x b, fr :: cs, h⟩)
  | _ => none
def aappo (P : Program) (h : AH) (tmps : Array Value) (o : Oper) : Option (Next × AH) :=
  match o.op with
  | .call c => match c.args.toList with
    | [p, q] => if operOk o then (aapp P h c.argTypes (aeval tmps p) (aeval tmps q)).map fun r => (.value r.1, r.2) else none
    | _ => none
  | _ => none
def aexec (P : Program) (c : Option Nat) (h : AH) (tmps : Array Value) (o : Oper) : Option (Next × AH) :=
  if isAppend o then aappo P h tmps o else if operOk o && opOk P h (aeval tmps) o then (execOp (aeval tmps) o).ar P c h else none
def aleave (P : Program) (s : AS) (jump : Option Code) : Option Res :=
  match s.fr.round with
  | none => match jump with
    | none | some .ret => some (.go { s with fr := { s.fr with ret := true } })
    | _ => none
  | some l => match (Instr.endRound l jump).ar P none s.h with
    | some (v, h) => aret P s.fr.dk s.cs v h
    | none => none
def ato (s : AS) (todo : List AItem) : Option Res := some (.go { s with fr := { s.fr with todo } })
def aunwind (P : Program) (s : AS) : Option Res :=
  match s.fr.defers with
  | { target := .collected b, .. } :: ds => match (Instr.takeDeferred b).ar P none s.h with
    | some (calls, h) => some (.go { s with fr := { s.fr with defers := calls ++ ds }, h })
    | none => none
  | _ :: _ => none
  | [] => match P.funcs[s.fr.fn]? with
    | none => none
    | some fn => match (results fn s.fr.tmps).ar P none s.h with
      | some (v, h) => aret P s.fr.dk s.cs v h
      | none => none
def condOk : Operand → Bool
  | .tmp _ => true
  | .const v => plainV 9 v
  | _ => false
abbrev Plan := Nat → Array Oper → List (Nat × List Nat)
def astep (P : Program) (pl : Plan) (c : Option Nat) (s : AS) : Option Res :=
  match s.fr.ret with
  | true => aunwind P s
  | false => match s.fr.todo with
    | [] => aleave P s none
    | .code x :: k => match x with
      | .ret => aleave P s (some .ret)
      | .skip => ato s k
      | .label _ => ato s k
      | .seq a b => ato s (.code a :: .code b :: k)
      | .cond x a b => if condOk x then match aeval s.fr.tmps x with
        | .bool t => ato s (.code (if t then a else b) :: k)
        | _ => none else none
      | .block id b => ato s (.code b :: .inBlock id :: k)
      | .loop b => ato s (.code b :: .inLoop b :: k)
      | .scope b => ato s (.code b :: .inScope b :: k)
      | .exit id => match aexitTo id k with
        | some k => ato s k
        | none => aleave P s (some (.exit id))
      | .goto l => match agotoIn l k with
        | some k => ato s k
        | none => aleave P s (some (.goto l))
      | .region _ ops false => ato s (.region ops (List.range ops.size) :: k)
      | .region id ops true => if okPlanF ops (pl id ops) && P.follows .mixedOrders then ato s (.drawn ops (pl id ops) :: k) else none
      | .rangeFunc f params assign body => if condOk f then match aeval s.fr.tmps f with
        | .func (.func g) first captured => match (Instr.enterLoop s.fr.fn s.fr.tmps params assign body s.fr.round).ar P none s.h with
          | some ((l, mark), h) => aapply P { s.fr with todo := .inRangeFunc l :: k, defers := mark ++ s.fr.defers } s.cs ((callFunc g ((first ++ #[.func (.yield l) #[] #[]]) ++ captured)).ar P none h)
          | none => none
        | _ => none else none
      | _ => none
    | .inBlock _ :: k => ato s k
    | .inScope _ :: k => ato s k
    | .inLoop b :: k => ato s (.code b :: .inLoop b :: k)
    | .beginRound :: k => match s.fr.round with
      | some l => match (Instr.beginRound l).ar P none s.h with
        | some (_, h) => some (.go { s with fr := { s.fr with todo := k }, h })
        | none => none
      | none => none
    | .endRangeFunc l :: k => match (Instr.endLoop l).ar P none s.h with
      | some (jump, h) => some (.go { s with fr := { s.fr with todo := (jump.map AItem.code).toList ++ k }, h })
      | none => none
    | .region _ [] :: k => ato s k
    | .region ops (i :: _) :: _ => match ops[i]? with
      | some o => if Region.wanted o (yielded ops s.fr.tmps) then aapply P s.fr s.cs (aexec P c s.h s.fr.tmps o) else (afinish P s.fr s.h undef).map fun f => .go { s with fr := f }
      | none => none
    | .drawn _ [] :: k => ato s k
    | .drawn ops ((i, again) :: l) :: k => match ops[i]? with
      | none => none
      | some o => match kindAt ops i with
        | .effect => if Region.wanted o (yielded ops s.fr.tmps) then aapply P s.fr s.cs (aexec P c s.h s.fr.tmps o) else (afinish P s.fr s.h undef).map fun f => .go { s with fr := f }
        | _ => match o.dst with
          | none => none
          | some d => if d < s.fr.tmps.size then
              if Region.wanted o (yielded ops s.fr.tmps) then match o.op with
                | .alloc t => match zeroOf P t with
                  | some z => if recheck P ops again (s.fr.tmps.setIfInBounds d (.pointer (some ⟨s.h.n, 0, none⟩))) (s.h.new (.cells z.cells t (0, 0))) then
                      some (.go { s with fr := { s.fr with tmps := s.fr.tmps.setIfInBounds d (.pointer (some ⟨s.h.n, 0, none⟩)), todo := .drawn ops l :: k }, h := s.h.new (.cells z.cells t (0, 0)) }) else none
                  | none => none
                | .buildSlice t n ps => match builtOf P (aeval s.fr.tmps) t n ps with
                  | some (elem, cells) => if operOk o && recheck P ops again (s.fr.tmps.setIfInBounds d (.slice (some ⟨s.h.n, 0, none⟩) n n)) (s.h.new (.cells cells elem (0, 0))) then
                      some (.go { s with fr := { s.fr with tmps := s.fr.tmps.setIfInBounds d (.slice (some ⟨s.h.n, 0, none⟩) n n), todo := .drawn ops l :: k }, h := s.h.new (.cells cells elem (0, 0)) }) else none
                  | none => none
                | _ => match lightVal P s.h s.fr.tmps o with
                  | some v => some (.go { s with fr := { s.fr with tmps := s.fr.tmps.setIfInBounds d v, todo := .drawn ops l :: k } })
                  | none => none
              else some (.go { s with fr := { s.fr with tmps := s.fr.tmps.setIfInBounds d undef, todo := .drawn ops l :: k } })
            else none
    | _ => none
inductive FT (P : Program) (ρ : Env) (lo : Nat) (h : AH) (a : AFr) (f : Frame) : Prop
  | plain (k : F0 ρ a f)
  | ahead {ops : Array Oper} {l : List (Nat × List Nat)} {s : List Nat} (k : FD ρ lo h.n ops l s a f) (e : Eqs P h ops l s a.tmps)
inductive FSt (ρ : Env) (lo hi : Nat) (a : AFr) (f : Frame) : Prop
  | plain (k : F0 ρ a f)
  | ahead {ops : Array Oper} {i : Nat} {c : List Nat} {l : List (Nat × List Nat)} {s : List Nat} (k : FD ρ lo hi ops ((i, c) :: l) (i :: s) a f) (hk : kindAt ops i = .effect)
inductive Stk (ρ : Env) : Nat → List AFr → List Frame → Prop
  | nil {hi : Nat} : Stk ρ hi [] []
  | cons {lo hi : Nat} {a : AFr} {f : Frame} {as : List AFr} {fs : List Frame} (hlo : lo ≤ hi) (h : FSt ρ lo hi a f) (k : Stk ρ lo as fs) : Stk ρ hi (a :: as) (f :: fs)
theorem FSt.mono {ρ σ : Env} {lo hi hi' : Nat} {a : AFr} {f : Frame} (k : FSt ρ lo hi a f) (hle : ρ.Le σ) (hb : ∀ x, x < hi → σ.born x → ρ.born x) (hh : hi ≤ hi') : FSt σ lo hi' a f := by
  cases k with
  | plain k => exact .plain (k.mono hle)
  | ahead k hk => exact .ahead (k.mono hle hb hh) hk
theorem Stk.mono {ρ σ : Env} {hi hi' : Nat} {as : List AFr} {fs : List Frame} (k : Stk ρ hi as fs) (hle : ρ.Le σ) (hb : ∀ x, x < hi → σ.born x → ρ.born x) (hh : hi ≤ hi') : Stk σ hi' as fs := by
  induction k generalizing hi' with
  | nil => exact .nil
  | cons hlo h _ ih => exact .cons (Nat.le_trans hlo hh) (h.mono hle hb hh) (ih (fun x hx => hb x (Nat.lt_of_lt_of_le hx hlo)) (Nat.le_refl _))
theorem FSt.base {ρ : Env} {lo hi : Nat} {a : AFr} {f : Frame} (k : FSt ρ lo hi a f) : FB ρ a f := by
  cases k with
  | plain k => exact k.toFB
  | ahead k _ => exact k.base
def gor (f : Frame) (cs : List Frame) : Goroutine := { frame := f, callers := cs, status := .running, dying := none }
structure Sim (P : Program) (ρ : Env) (O D : Nat → Prop) (base : List Frame) (s : AS) (g : Goroutine) (w : World) : Prop where
  run : ∃ lo f cs, lo ≤ s.h.n ∧ g = gor f (cs ++ base) ∧ FT P ρ lo s.h s.fr f ∧ Stk ρ lo s.cs cs
  rel : Rel ρ O D s.h w
def Has (base : List Frame) (r : Res) : Prop := (∃ v h, r = .ret v h) → base ≠ []
def ResR (P : Program) (σ : Env) (O D : Nat → Prop) (base : List Frame) : Res → Goroutine → World → Prop
  | .go s, g, w => Sim P σ O D base s g w
  | .ret v h, g, w => ∃ (b : Frame) (bs : List Frame) (v' : Value), base = b :: bs ∧ VR σ v v' ∧ g = gor (b.finish v') bs ∧ Rel σ O D h w
def Steps1 (P : Program) (m : Bool) (X : Event → Prop) (ρ : Env) (O D : Nat → Prop) (base : List Frame) (g : Goroutine) (w : World) (r : Res) : Prop :=
  ∃ (σ : Env) (g' : Goroutine) (w' : World) (es : Array Event), stepG P m g w = .go g' w' es ∧ Guar X O D w w' es ∧ ρ.Le σ ∧ ResR P σ (grow O w w') D base r g' w'
section
variable {P : Program} {ρ σ : Env} {O D : Nat → Prop} {h h' : AH} {w w' : World} {X : Event → Prop} {m : Bool} {base : List Frame}
theorem Rel.grow (r : Rel ρ O D h w) : Rel ρ (grow O w w') D h w := r.mono fun _ => .inl
theorem ctl {s : AS} {f : Frame} {cs : List Frame} {a' : AFr} {f' : Frame} (hst : stepG P m (gor f (cs ++ base)) w = .go (gor f' (cs ++ base)) w #[]) {lo : Nat} (hf : F0 ρ a' f') (hlo : lo ≤ s.h.n) (hcs : Stk ρ lo s.cs cs) (r : Rel ρ O D s.h w) :
    Steps1 P m X ρ O D base (gor f (cs ++ base)) w (.go { s with fr := a' }) :=
  ⟨ρ, _, w, #[], hst, .none w, .refl ρ, ⟨⟨lo, f', cs, hlo, rfl, .plain hf, hcs⟩, r.grow⟩⟩
theorem F0.withTodo {a : AFr} {f : Frame} (h : F0 ρ a f) {k : List AItem} {k' : List Item} (hk : LR (ItR ρ) k k') : F0 ρ { a with todo := k } { f with todo := k' } :=
  ⟨⟨h.fn, h.defers, h.mode, h.kind, h.round⟩, h.tmps, hk⟩
theorem afinish_r {a a' : AFr} {f : Frame} {v v' : Value} {H : AH} (h : F0 ρ a f) (hv : VR ρ v v') (e : afinish P a H v = some a') : F0 ρ a' (f.finish v') := by
  unfold afinish at e
  have ht := h.todo
  split at e
  · rename_i ops i rest k hk
    rw [hk] at ht
    cases e
    obtain ⟨g, tmps, todo, defers, mode, kind, ro⟩ := f
    dsimp only at ht
    cases ht with
    | cons hi hl =>
      cases hi
      unfold Frame.finish
      dsimp only
      refine ⟨⟨h.fn, h.defers, h.mode, h.kind, h.round⟩, ?_, .cons (.region _ _) hl⟩
      exact setTmp_r h.tmps _ hv
  · rename_i l k hk
    rw [hk] at ht
    cases e
    obtain ⟨g, tmps, todo, defers, mode, kind, ro⟩ := f
    dsimp only at ht
    cases ht with
    | cons hi hl =>
      cases hi
      exact ⟨⟨h.fn, h.defers, h.mode, h.kind, h.round⟩, h.tmps, .cons (.endRangeFunc ‹_›) hl⟩
  · rename_i k hk
    rw [hk] at ht
    cases e
    obtain ⟨g, tmps, todo, defers, mode, kind, ro⟩ := f
    dsimp only at ht
    cases ht with
    | cons hi hl =>
      cases hi
      exact ⟨⟨h.fn, h.defers, h.mode, h.kind, h.round⟩, h.tmps, hl⟩
  · rename_i hk
    rw [hk] at ht
    generalize f.todo = z at ht
    cases ht with
    | cons hi _ => cases hi
  · cases e
theorem finish_S {lo hi : Nat} {a a' : AFr} {f : Frame} {v v' : Value} (hf : FSt ρ lo hi a f) (hh : hi ≤ h.n) (hv : VR ρ v v') (e : afinish P a h v = some a') : FT P ρ lo h a' (f.finish v') := by
  cases hf with
  | plain k => exact .plain (afinish_r k hv e)
  | @ahead ops i c l s k hk =>
    obtain ⟨k1, k2, t1, t2, hl⟩ := k.todo
    unfold afinish at e
    rw [t1] at e
    dsimp only at e
    split at e
    · rename_i hr
      cases e
      have k' := k.effect (v := v) (v' := v') t1 hv
      exact .ahead (k'.mono (.refl ρ) (fun x _ hx => hx) hh) (k'.eqs k.ord (by rw [hk]; exact fun x => by cases x) hr.2)
    · cases e
theorem yielded_r {ops : Array Oper} {a a' : Array Value} (h : AR (VR ρ) a a') : yielded ops a' = yielded ops a := by
  funext j
  unfold yielded
  cases (ops[j]?).bind (·.dst) with
  | none => rfl
  | some d =>
    have := h.get d
    simp only [Option.bind_some]
    revert this
    generalize a[d]? = x
    generalize a'[d]? = y
    intro this
    cases this with
    | none => rfl
    | some h => cases h <;> rfl
end
end Go.Am
end
section
set_option linter.unusedVariables false
set_option linter.unusedSectionVars false
set_option linter.unusedSimpArgs false
namespace Go.Am
open Go.Ren (grow EvO Guar Rely)
section
variable {P : Program} {ρ σ : Env} {O D : Nat → Prop} {h h' : AH} {w w' : World} {X : Event → Prop} {m : Bool} {base : List Frame}
theorem run_of {α : Type} {s : Sem α} {r : Result α} {es : Array Event} (hr : ∀ es₀, s.runT P w es₀ = (r, es₀ ++ es)) : s.run P w = r ∧ s.events P w #[] = es := by
  have := hr #[]
  rw [Sem.runT_eq] at this
  simp only [Prod.mk.injEq] at this
  exact ⟨this.1, by simpa using this.2⟩
theorem not_early {k : CallKind} (h : k ≠ .early) : (k == CallKind.early) = false := by cases k <;> first | rfl | exact absurd rfl h
theorem apply_value {fr : Frame} {cs : List Frame} {s : Sem Next} {v : Value} {es : Array Event} (hk : fr.kind ≠ .early) (hr : ∀ es₀, s.runT P w es₀ = (.ok (.value v) w', es₀ ++ es)) : stepG.apply P true fr cs none s w = .go (gor (fr.finish v) cs) w' (seen P fr.fn es) := by
  obtain ⟨h1, h2⟩ := run_of hr
  have hb := not_early hk
  simp [stepG.apply, h1, h2, hb, GStep.after, gor]
theorem apply_skip {fr : Frame} {cs : List Frame} {s : Sem Next} {es : Array Event} (hk : fr.kind ≠ .early) (hr : ∀ es₀, s.runT P w es₀ = (.ok .skip w', es₀ ++ es)) : stepG.apply P true fr cs none s w = .go (gor (fr.finish undef) cs) w' (seen P fr.fn es) := by
  obtain ⟨h1, h2⟩ := run_of hr
  have hb := not_early hk
  simp [stepG.apply, h1, h2, hb, GStep.after, gor]
theorem apply_enter {fr : Frame} {cs : List Frame} {s : Sem Next} {f : FuncId} {args : Array Value} {es : Array Event} (hk : fr.kind ≠ .early) (ht : ∀ d x y k, fr.todo ≠ .call d true x y :: k) (hr : ∀ es₀, s.runT P w es₀ = (.ok (.enter f args) w', es₀ ++ es)) :
    stepG.apply P true fr cs none s w = .go (gor (Frame.enter P f args .normal) (fr :: cs)) w' (seen P fr.fn es) := by
  obtain ⟨h1, h2⟩ := run_of hr
  have : (match fr.todo with | .call _ true _ _ :: _ => CallKind.wrapped | _ => .normal) = .normal := by
    split
    · rename_i he; exact absurd he (ht _ _ _ _)
    · rfl
  simp [stepG.apply, h1, h2, hk, GStep.after, gor]
theorem apply_round {fr : Frame} {cs : List Frame} {s : Sem Next} {l : Nat} {f : FuncId} {t : Array Value} {x y : Code} {es : Array Event} (hk : fr.kind ≠ .early) (hr : ∀ es₀, s.runT P w es₀ = (.ok (.round l f t x y) w', es₀ ++ es)) :
    stepG.apply P true fr cs none s w = .go (gor (Frame.round l f t x y .normal) (fr :: cs)) w' (seen P fr.fn es) := by
  obtain ⟨h1, h2⟩ := run_of hr
  have hb := not_early hk
  simp [stepG.apply, h1, h2, hb, GStep.after, gor]
theorem not_call {k : List AItem} {k' : List Item} (h : LR (ItR ρ) k k') : ∀ d x y z k₁, k' ≠ .call d x y z :: k₁ := by
  intro d x y z k₁ e
  subst e
  cases h with
  | cons h _ => cases h
theorem FSt.not_call {lo hi : Nat} {a : AFr} {f : Frame} (h : FSt ρ lo hi a f) : ∀ d x y z k₁, f.todo ≠ .call d x y z :: k₁ := by
  cases h with
  | plain h => exact Go.Am.not_call h.todo
  | ahead k _ =>
    obtain ⟨_, _, _, t2, _⟩ := k.todo
    intro d x y z k₁ e
    rw [t2] at e
    cases e
theorem apply_r {a : AFr} {f : Frame} {cs : List AFr} {cs' : List Frame} {s' : Sem Next} {lo : Nat} (hf : FSt ρ lo h.n a f) (hlo : lo ≤ h.n) (hcs : Stk ρ lo cs cs') {n : Next} {r : Res} (e : aapply P a cs (some (n, h')) = some r)
    (k : Out P X D NR ρ O h w s' n h') : ∃ (τ : Env) (g' : Goroutine) (w' : World) (es : Array Event), stepG.apply P true f (cs' ++ base) none s' w = .go g' w' es ∧ Guar X O D w w' es ∧ ρ.Le τ ∧ ResR P τ (grow O w w') D base r g' w' := by
  obtain ⟨τ, n', w', es, h1, h2, h3, h4, h5, h6, h7⟩ := k
  have hb : ∀ x, x < h.n → τ.born x → ρ.born x := fun x hx hx' => ((h7 x).1 hx').elim id fun y => by omega
  have hG : Guar X O D w w' (seen P f.fn es) := h5.less (seen_sub f.fn es)
  have hf' := hf.mono h2 hb h6
  have hcs' : Stk τ lo cs cs' := hcs.mono h2 (fun x hx => hb x (by omega)) (Nat.le_refl _)
  have hlo' : lo ≤ h'.n := Nat.le_trans hlo h6
  have hkind := hf.base.ne
  cases h3 with
  | @value v v' hv =>
    simp only [aapply, Option.map_eq_some_iff] at e
    obtain ⟨a', e1, rfl⟩ := e
    exact ⟨τ, _, w', _, apply_value hkind h1, hG, h2, ⟨⟨lo, _, cs', hlo', rfl, finish_S hf' (Nat.le_refl _) hv e1, hcs'⟩, h4⟩⟩
  | skip =>
    simp only [aapply, Option.map_eq_some_iff] at e
    obtain ⟨a', e1, rfl⟩ := e
    exact ⟨τ, _, w', _, apply_skip hkind h1, hG, h2, ⟨⟨lo, _, cs', hlo', rfl, finish_S hf' (Nat.le_refl _) vr_undef e1, hcs'⟩, h4⟩⟩
  | @enter g x x' hx =>
    simp only [aapply, Option.some.injEq] at e
    subst e
    exact ⟨τ, _, w', _, apply_enter hkind (fun d x y k => hf.not_call d true x y k) h1, hG, h2, ⟨⟨h'.n, _, f :: cs', Nat.le_refl _, rfl, .plain (enter_r g hx), .cons hlo' hf' hcs'⟩, h4⟩⟩
  | @round l l' g t t' x y hl ht =>
    simp only [aapply, Option.some.injEq] at e
    subst e
    exact ⟨τ, _, w', _, apply_round hkind h1, hG, h2, ⟨⟨h'.n, _, f :: cs', Nat.le_refl _, rfl, .plain (round_r hl g ht x y), .cons hlo' hf' hcs'⟩, h4⟩⟩
  | odd => simp only [aapply] at e; cases e
theorem eval_of {a : AFr} {f : Frame} (hf : AR (VR ρ) a.tmps f.tmps) {o : Oper} (hk : operOk o = true) : ∀ x ∈ o.op.operands, VR ρ (aeval a.tmps x) (f.eval x) := eval_r hk hf (frame_eval f)
theorem cond_r {a : AFr} {f : Frame} (hf : AR (VR ρ) a.tmps f.tmps) {x : Operand} (hk : condOk x = true) : VR ρ (aeval a.tmps x) (f.eval x) := by
  cases x with
  | tmp t => exact vr_getD hf t
  | const v => exact (plain_of hk).vr ρ
  | _ => cases hk
theorem aret_dk {dk : Bool} {cs : List AFr} {v : Value} {r : Res} (e : aret P dk cs v h = some r) : dk = false ∧ aret P false cs v h = some r := by
  cases dk with
  | true => simp [aret] at e
  | false => exact ⟨rfl, e⟩
theorem doReturn_r {f : Frame} {cs : List AFr} {cs' : List Frame} {v v' : Value} {r : Res} {lo : Nat} (hk : f.kind = .normal) (hlo : lo ≤ h.n) (hcs : Stk ρ lo cs cs') (hv : VR ρ v v') (rel : Rel ρ O D h w) (hb : Has base r) (e : aret P false cs v h = some r) : ∃ g', doReturn P m f (cs' ++ base) none v' w = .go g' w #[] ∧ ResR P ρ O D base r g' w := by
  cases hcs with
  | nil =>
    simp only [aret, Bool.false_eq_true, if_false, Option.some.injEq] at e
    subst e
    cases base with
    | nil => exact absurd rfl (hb ⟨_, _, rfl⟩)
    | cons b bs =>
      refine ⟨gor (b.finish v') bs, ?_, b, bs, v', rfl, hv, rfl, rel⟩
      simp [doReturn, hk, gor]
  | @cons lo' _ c c' cs cs' hlo' hc hcs =>
    simp only [aret, Bool.false_eq_true, if_false, Option.map_eq_some_iff] at e
    obtain ⟨a', e1, rfl⟩ := e
    refine ⟨gor (c'.finish v') (cs' ++ base), ?_, ⟨⟨lo', _, cs', Nat.le_trans hlo' hlo, rfl, finish_S hc hlo hv e1, hcs⟩, rel⟩⟩
    simp [doReturn, hk, gor]
theorem sr_endRound {l l' : Nat} (j : Option Code) (hl : ρ.ob l l') : SR P VR ρ (Instr.endRound l j) (Instr.endRound l' j) := by
  unfold Instr.endRound
  refine (sr_getLoop hl).bnd fun σ hσ r r' hr => ?_
  exact .setObj (hσ.ob hl) (.loop ⟨rfl, rfl, hr.fn, hr.tmps, hr.params, hr.assign, hr.body, hr.defers⟩) (.pure (.bool _))
theorem sr_beginRound {l l' : Nat} (hl : ρ.ob l l') : SR P Same ρ (Instr.beginRound l) (Instr.beginRound l') := by
  unfold Instr.beginRound
  refine (sr_getLoop hl).bnd fun σ hσ r r' hr => ?_
  refine .setObj (hσ.ob hl) (.loop ⟨rfl, hr.pending, hr.fn, hr.tmps, hr.params, hr.assign, hr.body, hr.defers⟩) ?_
  rw [hr.state]
  cases r.state with
  | ready => exact .pure rfl
  | _ => exact (show SR P Same σ (runtimePanic (.error _) : Sem Unit) (runtimePanic (.error _)) from .rpanic)
theorem sr_endLoop {l l' : Nat} (hl : ρ.ob l l') : SR P Same ρ (Instr.endLoop l) (Instr.endLoop l') := by
  unfold Instr.endLoop
  refine (sr_getLoop hl).bnd fun σ hσ r r' hr => ?_
  rw [hr.state, hr.pending]
  dsimp only
  split
  · exact .dead (dead_left _ (dead_rpanic _))
  · exact .setObj (hσ.ob hl) (.loop ⟨rfl, rfl, hr.fn, hr.tmps, hr.params, hr.assign, hr.body, hr.defers⟩) (.pure rfl)
theorem sr_takeDeferred {l l' : Nat} (hl : ρ.ob l l') : SR P (fun σ => LR (DR σ)) ρ (Instr.takeDeferred l) (Instr.takeDeferred l') := by
  unfold Instr.takeDeferred
  refine .getObj hl fun o o' ho => ?_
  cases ho with
  | deferred h => exact .setObj hl .taken (.pure h)
  | _ => exact .dead fun _ _ => rfl
theorem sr_enterLoop (fn : FuncId) {t t' : Array Value} (ht : AR (VR ρ) t t') (params : Array Tmp) (x y : Code) {r r' : Option Nat} (hr : OptR ρ.ob r r') : SR P (fun σ p q => σ.ob p.1 q.1 ∧ LR (DR σ) p.2 q.2) ρ (Instr.enterLoop fn t params x y r) (Instr.enterLoop fn t' params x y r') := by
  unfold Instr.enterLoop
  have fin : ∀ (σ : Env) (d d' : Nat) (k k' : List Deferred), ρ.Le σ → σ.ob d d' → LR (DR σ) k k' → SR P (fun σ p q => σ.ob p.1 q.1 ∧ LR (DR σ) p.2 q.2) σ
      (do pure (← newObj (.loop { state := .ready, pending := none, fn, tmps := t, params, assign := x, body := y, defers := d }), k) : Sem (Nat × List Deferred)) (do pure (← newObj (.loop { state := .ready, pending := none, fn, tmps := t', params, assign := x, body := y, defers := d' }), k') : Sem (Nat × List Deferred)) := by
    intro σ d d' k k' hσ hd hk
    refine .new (.obj (.loop ⟨rfl, rfl, rfl, ht.mono fun _ _ z => z.mono hσ, rfl, rfl, rfl, hd⟩)) fun τ hτ r r' hr => .pure ⟨hr, hk.mono fun _ _ z => z.mono hτ⟩
  cases hr with
  | none =>
    dsimp only
    refine .new (.obj (.deferred .nil)) fun σ hσ d d' hd => ?_
    exact fin σ d d' _ _ hσ hd (.cons ⟨.collected hd, .empty⟩ .nil)
  | some h =>
    dsimp only
    refine (sr_getLoop h).bnd fun σ hσ l l' hl => ?_
    exact fin σ _ _ _ _ hσ hl.defers .nil
theorem sr_results (fn : Func) {t t' : Array Value} (ht : AR (VR ρ) t t') : SR P VR ρ (results fn t) (results fn t') := by
  unfold results
  refine SR.bnd (R := fun σ => AR (VR σ)) ?_ fun σ hσ a b hab => .pur ?_
  · rw [Array.mapM_eq_mapM_toList, Array.mapM_eq_mapM_toList]
    refine SR.bnd (R := fun σ => LR (VR σ)) ?_ fun σ hσ a b hab => .pur hab.arr
    have : ∀ (l : List ResultVar) (ρ : Env), AR (VR ρ) t t' → SR P (fun σ => LR (VR σ)) ρ (l.mapM fun | .tmp x => Pure.pure (t.getD x undef) | .cell a u => do loadVar u (← asAddr (t.getD a undef))) (l.mapM fun | .tmp x => Pure.pure (t'.getD x undef) | .cell a u => do loadVar u (← asAddr (t'.getD a undef))) := by
      intro l
      induction l with
      | nil => intro ρ _; exact .pur .nil
      | cons x l ih =>
        intro ρ ht
        rw [List.mapM_cons, List.mapM_cons]
        refine SR.bnd (R := VR) ?_ fun σ hσ v v' hv => ?_
        · cases x with
          | tmp x => exact .pur (vr_getD ht x)
          | cell a u => exact (sr_asAddr (vr_getD ht a)).bnd fun σ _ a a' h => by obtain ⟨h1, rfl⟩ := h; exact sr_loadVar u h1
        · exact (ih σ (ht.mono fun _ _ z => z.mono hσ)).bnd fun τ hτ l l' hl => .pur (.cons (hv.mono hτ) hl)
    exact this _ _ ht
  · by_cases h1 : a.size = 1
    · have h2 : b.size = 1 := hab.1 ▸ h1
      rw [dif_pos h1, dif_pos h2]
      exact hab.2 0 _ _ (by simp [h1]) (by simp [h2])
    · have h2 : ¬ b.size = 1 := hab.1 ▸ h1
      rw [dif_neg h1, dif_neg h2]
      exact vr_tuple hab
end
end Go.Am
end
section
set_option linter.unusedVariables false
set_option linter.unusedSectionVars false
set_option linter.unusedSimpArgs false
namespace Go.Am
open Go.Ren (grow EvO Guar Rely)
section
variable {P : Program} {ρ σ : Env} {O D : Nat → Prop} {h h' : AH} {w w' : World} {X : Event → Prop}
theorem aappo_out [Zeros P] (rel : Rel ρ O D h w) {tmps : Array Value} {e' : Operand → Value} {o : Oper} (hv : operOk o = true → ∀ x ∈ o.op.operands, VR ρ (aeval tmps x) (e' x)) (ha : isAppend o = true) {n : Next} (e : aappo P h tmps o = some (n, h')) :
    Out P X D NR ρ O h w (execOp e' o) n h' := by
  unfold aappo at e
  split at e
  rotate_left
  · cases e
  rename_i c hop
  split at e
  rotate_left
  · cases e
  rename_i p q hpq
  split at e
  rotate_left
  · cases e
  rename_i hok
  simp only [Option.map_eq_some_iff] at e
  obtain ⟨⟨v, h₁⟩, e1, e2⟩ := e
  cases e2
  have hv' := hv hok
  have hcal : c.callee = .builtin .append := by
    unfold isAppend at ha
    rw [hop] at ha
    obtain ⟨callee, args, types⟩ := c
    dsimp only at ha ⊢
    split at ha
    · rename_i hh; cases hh; rfl
    · cases ha
  have hargs : c.args = #[p, q] := by
    have := congrArg List.toArray hpq
    simpa using this
  have hp : VR ρ (aeval tmps p) (e' p) := hv' p (by rw [hop]; simp [Op.operands, Call.operands, hargs])
  have hq : VR ρ (aeval tmps q) (e' q) := hv' q (by rw [hop]; simp [Op.operands, Call.operands, hargs])
  have hex : execOp e' o = (Builtin.append_ c.argTypes o.type #[e' p, e' q]).bind fun v => Sem.pure (.value v) := by
    unfold execOp
    rw [hop]
    dsimp only
    unfold resolve
    rw [hcal]
    dsimp only
    rw [hargs]
    simp only [List.map_toArray, List.map_cons, List.map_nil]
    rfl
  rw [hex]
  exact (append_out rel hp hq e1).bindR fun σ v' w₁ hle hvr rel₁ => .pureR rel₁ (.value hvr)
theorem aexec_out [Zeros P] (rel : Rel ρ O D h w) {tmps : Array Value} {e' : Operand → Value} {o : Oper} (hv : operOk o = true → ∀ x ∈ o.op.operands, VR ρ (aeval tmps x) (e' x)) :
    ∃ c : Nat, ∀ {n : Next} {h' : AH}, aexec P (some c) h tmps o = some (n, h') → Out P X D NR ρ O h w (execOp e' o) n h' := by
  by_cases ha : isAppend o = true
  · refine ⟨0, fun e => ?_⟩
    unfold aexec at e
    rw [if_pos ha] at e
    exact aappo_out rel hv ha e
  · by_cases hk : (operOk o && opOk P h (aeval tmps) o) = true
    · have hk' := hk
      simp only [Bool.and_eq_true] at hk'
      obtain ⟨c, k⟩ := (sr_exec rel o (hv hk'.1) hk'.2).sim1 (X := X) rel
      refine ⟨c, fun e => ?_⟩
      unfold aexec at e
      rw [if_neg ha, if_pos hk] at e
      exact k e
    · refine ⟨0, fun e => ?_⟩
      unfold aexec at e
      rw [if_neg ha, if_neg hk] at e
      cases e
theorem aexec_nd {c : Option Nat} {tmps : Array Value} {o : Oper} {r : Next × AH} (e : aexec P c h tmps o = some r) : ∀ q, o.op ≠ .defer q := by
  intro q hq
  unfold aexec at e
  split at e
  · unfold aappo at e
    rw [hq] at e
    cases e
  · split at e
    · rename_i hk
      simp only [Bool.and_eq_true] at hk
      have := hk.2
      unfold opOk at this
      rw [hq] at this
      cases this
    · cases e
end
end Go.Am
end
