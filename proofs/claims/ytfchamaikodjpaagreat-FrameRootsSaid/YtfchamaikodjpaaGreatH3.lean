/- A part of the proof that the frame keeps its roots: lemmas on which it leans. -/
import Derived.Test.YtfchamaikodjpaaGreatH2
section
set_option linter.unusedVariables false
set_option linter.unusedSectionVars false
set_option linter.unusedSimpArgs false
namespace Go.Am
open Go.Ren (grow EvO Guar Rely)
section
variable {P : Program} {D : Nat → Prop} {X : Event → Prop} {α β : Type} {R : Env → α → β → Prop}
theorem SR.sim1 {ρ : Env} {s : Sem α} {s' : Sem β} (k : SR P R ρ s s') : ∀ {O : Nat → Prop} {h : AH} {w : World}, Rel ρ O D h w → ∃ c : Nat, ∀ {h' : AH} {a : α}, s.ar P (some c) h = some (a, h') → Out P X D R ρ O h w s' a h' := by
  induction k with
  | @pure ρ x y hR =>
    intro O h w r
    refine ⟨0, fun {h'} {a} e => ?_⟩
    simp only [Sem.ar, Option.some.injEq, Prod.mk.injEq] at e
    obtain ⟨rfl, rfl⟩ := e
    refine ⟨ρ, y, w, #[], fun es₀ => by simp only [Sem.runT, Array.append_empty], .refl ρ, hR, r.mono fun _ => .inl, .none w, Nat.le_refl _, fun x => ⟨.inl, fun h => h.elim id fun x => absurd x.1 (by omega)⟩⟩
  | @load ρ m ad kk kk' ha _ ih =>
    intro O h w r
    cases hc : h.cell ad with
    | none => exact ⟨0, fun {h'} {a} e => by rw [Sem.ar.eq_def] at e; simp only [hc] at e; cases e⟩
    | some v =>
      obtain ⟨v', h1, h2, h3⟩ := r.load ha hc
      obtain ⟨c, k⟩ := ih v v' h2 r
      refine ⟨c, fun {h'} {a} e => ?_⟩
      rw [Sem.ar.eq_def] at e
      simp only [hc] at e
      cases m with
      | atomic => cases e
      | plain => exact Out.here (es₁ := #[⟨.cell (ρ.addr ad), false, Mode.plain == Mode.atomic⟩]) (fun es₀ => by rw [push_app]; simp only [Sem.runT, h1]) (guar_read (l := .cell (ρ.addr ad)) h3) rfl rfl (k e)
  | @store ρ m ad v v' kk kk' ha hv _ ih =>
    intro O h w r
    cases hs : h.setCell ad v with
    | none =>
      refine ⟨0, fun {h'} {a} e => ?_⟩
      rw [Sem.ar.eq_def] at e
      cases v <;> cases m <;> simp only [hs] at e <;> cases e
    | some h₁ =>
      obtain ⟨u, h1, h2, h3, h4⟩ := r.store ha hs hv
      obtain ⟨c, k⟩ := ih h3
      refine ⟨c, fun {h'} {a} e => ?_⟩
      have key : kk.ar P (some c) h₁ = some (a, h') → (∀ c, v' ≠ .agg c) → (∀ c, v' ≠ .tuple c) → Out P X D R ρ O h w (.store m (ρ.addr ad) v' kk') a h' := by
        intro he n1 n2
        refine Out.here (h₁ := h₁) (w₁ := w.setCell (ρ.addr ad) v') (s₁ := kk') (es₁ := #[⟨.cell (ρ.addr ad), true, m == .atomic⟩]) (fun es₀ => ?_) (guar_write h4) (by simp [World.setCell]) ?_ (k he)
        · cases v' <;> first | exact absurd rfl (n1 _) | exact absurd rfl (n2 _) | (rw [push_app]; simp only [Sem.runT, h1, h2]; rfl)
        · unfold AH.setCell at hs
          (repeat' split at hs) <;> first | cases hs; rfl | cases hs
      cases hv with
      | agg => simp only [Sem.ar] at e; cases e
      | tuple => simp only [Sem.ar] at e; cases e
      | _ =>
        cases m with
        | atomic => simp only [Sem.ar] at e; cases e
        | plain =>
          simp only [Sem.ar, hs] at e
          exact key e (fun c x => by cases x) (fun c x => by cases x)
  | @new ρ o o' kk kk' ho _ ih =>
    intro O h w r
    have hnb : ¬ ρ.born h.n := fun hb => Nat.lt_irrefl _ (r.fresh _ hb)
    have r' := (r.push o).birth (o' := o') hnb (Nat.lt_succ_self _) (look_new o) ho
    obtain ⟨c, k⟩ := ih _ (Env.add_le hnb) h.n w.heap.size ⟨.inl rfl, add_to⟩ r'
    refine ⟨c, fun {h'} {a} e => ?_⟩
    have key : (kk h.n).ar P (some c) (h.new o) = some (a, h') → Out P X D R ρ O h w (.new o' kk') a h' := by
      intro e
      refine Out.then (h₁ := h.new o) (w₁ := { w with heap := w.heap.push o' }) (s₁ := kk' w.heap.size) (es₁ := #[]) (fun es₀ => by simp only [Sem.runT, Array.append_empty]) (Env.add_le hnb) (guar_push o') (Nat.le_succ _) (fun x => ?_) (k e)
      show (x = h.n ∨ ρ.born x) ↔ _
      constructor
      · rintro (rfl | hx)
        · exact .inr ⟨Nat.le_refl _, Nat.lt_succ_self _⟩
        · exact .inl hx
      · rintro (hx | ⟨h1, h2⟩)
        · exact .inr hx
        · have : x < h.n + 1 := h2
          exact .inl (by omega)
    simp only [Sem.ar] at e
    split at e <;> first | exact key e | cases e
  | @shape ρ x y kk kk' hx hy _ _ ih ih0 =>
    intro O h w r
    cases hl : h.look x with
    | none => exact ⟨0, fun {h'} {a} e => by rw [Sem.ar.eq_def] at e; simp only [hl] at e; cases e⟩
    | some B =>
      obtain ⟨o, fam, ro, u⟩ := B
      by_cases hc : ∃ l t f, o = .cells l t f
      · obtain ⟨l, t, f, rfl⟩ := hc
        obtain ⟨e', n', hs⟩ := shape_cells r hx hl
        obtain ⟨c, k⟩ := ih t l.size e' n' r
        refine ⟨c, fun {h'} {a} e => ?_⟩
        rw [Sem.ar.eq_def] at e
        simp only [hl] at e
        exact Out.here (w₁ := w) (s₁ := kk' (some (e', n'))) (es₁ := #[]) (fun es₀ => by simp only [Sem.runT, hy, hs, Array.append_empty]) (.none w) rfl rfl (k e)
      · have hc' : ∀ l t f, o ≠ .cells l t f := fun l t f x => hc ⟨l, t, f, x⟩
        obtain ⟨c, k⟩ := ih0 r
        refine ⟨c, fun {h'} {a} e => ?_⟩
        rw [Sem.ar.eq_def] at e
        simp only [hl] at e
        split at e
        · rename_i l t f _ _ _ hh; cases hh; exact absurd rfl (hc' _ _ _)
        · exact Out.here (w₁ := w) (s₁ := kk' none) (es₁ := #[]) (fun es₀ => by simp only [Sem.runT, hy, shape_none r hx hl hc', Array.append_empty]) (.none w) rfl rfl (k e)
        · cases e
  | @getObj ρ x y kk kk' hx _ ih =>
    intro O h w r
    cases hl : h.look x with
    | none => exact ⟨0, fun {h'} {a} e => by rw [Sem.ar.eq_def] at e; simp only [hl] at e; cases e⟩
    | some B =>
      by_cases hc : ∃ l t f, B.obj = .cells l t f
      · obtain ⟨l, t, f, hB⟩ := hc
        refine ⟨0, fun {h'} {a} e => ?_⟩
        rw [Sem.ar.eq_def] at e
        obtain ⟨o, fam, ro, u⟩ := B
        dsimp only at hB
        subst hB
        simp only [hl] at e
        cases e
      · have hc' : ∀ l t f, B.obj ≠ .cells l t f := fun l t f x => hc ⟨l, t, f, x⟩
        obtain ⟨o', h1, h2, h3⟩ := r.getObj hx hl hc'
        obtain ⟨c, k⟩ := ih _ o' h2 r
        refine ⟨c, fun {h'} {a} e => ?_⟩
        rw [Sem.ar.eq_def] at e
        simp only [hl] at e
        split at e
        · cases e
        · rename_i B' _ hh
          cases hh
          refine Out.here (w₁ := w) (s₁ := kk' o') (es₁ := #[⟨.obj y, false, o'.isChan⟩]) (fun es₀ => ?_) (guar_read (l := .obj y) h3) rfl rfl (k e)
          rw [push_app]
          have := h2.not_cells.2
          cases o' <;> first | exact absurd rfl (this _ _ _) | simp only [Sem.runT, h1]
        · cases e
  | @setObj ρ x y o o' kk kk' hx ho _ ih =>
    intro O h w r
    cases hl : h.look x with
    | none =>
      refine ⟨0, fun {h'} {a} e => ?_⟩
      rw [Sem.ar.eq_def] at e
      cases ho <;> (simp only [hl] at e; cases e)
    | some B =>
      by_cases hc : ∃ l t f, B.obj = .cells l t f
      · obtain ⟨l, t, f, hB⟩ := hc
        refine ⟨0, fun {h'} {a} e => ?_⟩
        rw [Sem.ar.eq_def] at e
        obtain ⟨o, fam, ro, u⟩ := B
        dsimp only at hB
        subst hB
        simp only [hl] at e
        cases e
      · have hc' : ∀ l t f, B.obj ≠ .cells l t f := fun l t f x => hc ⟨l, t, f, x⟩
        by_cases hro : B.ro = true
        · refine ⟨0, fun {h'} {a} e => ?_⟩
          rw [Sem.ar.eq_def] at e
          simp only [hl] at e
          split at e <;> first | (cases e; done) | (rename_i hh _; cases hh; rw [if_pos hro] at e; cases e)
        · have hro' : B.ro = false := by simpa using hro
          obtain ⟨o₁, h1, h2, _⟩ := r.getObj hx hl hc'
          obtain ⟨r', hO⟩ := r.setObj hx hl hc' hro' ho
          obtain ⟨c, k⟩ := ih r'
          refine ⟨c, fun {h'} {a} e => ?_⟩
          rw [Sem.ar.eq_def] at e
          simp only [hl] at e
          split at e
          · cases e
          · cases e
          · rename_i hh _
            cases hh
            rw [if_neg (by simp [hro'])] at e
            refine Out.here (h₁ := h.put x B _) (w₁ := { w with heap := w.heap.setIfInBounds y o' }) (s₁ := kk') (es₁ := #[⟨.obj y, true, o'.isChan⟩]) (fun es₀ => ?_) (guar_setObj hO) (by simp) rfl (k e)
            rw [push_app]
            have := h2.not_cells.2
            cases o₁ <;> first | exact absurd rfl (this _ _ _) | simp only [Sem.runT, h1]
          · cases e
  | @choose ρ q kk kk' hk ih =>
    intro O h w r
    by_cases hq : q.forced = true
    · obtain ⟨c, k⟩ := ih 0 r
      refine ⟨c, fun {h'} {a} e => ?_⟩
      rw [Sem.ar.eq_def] at e
      simp only [hq, if_true] at e
      exact Out.here (w₁ := w) (s₁ := kk' 0) (es₁ := #[]) (fun es₀ => by simp only [Sem.runT, if_pos hq, Array.append_empty]) (.none w) rfl rfl (k e)
    · cases q with
      | mapNext n =>
        refine ⟨w.tape w.drawn (.mapNext n), fun {h'} {a} e => ?_⟩
        rw [Sem.ar.eq_def] at e
        simp only [if_neg hq] at e
        exact Out.here (w₁ := { w with drawn := w.drawn + 1 }) (s₁ := kk' ((Question.mapNext n).cut (w.tape w.drawn (.mapNext n)))) (es₁ := #[]) (fun es₀ => by simp only [Sem.runT, if_neg hq, Array.append_empty]) (guar_drawn _) rfl rfl ((hk _).sim0 (r.drawn _) e)
      | _ =>
        refine ⟨0, fun {h'} {a} e => ?_⟩
        rw [Sem.ar.eq_def] at e
        simp only [if_neg hq] at e
        cases e
  | @program ρ kk kk' _ ih =>
    intro O h w r
    obtain ⟨c, k⟩ := ih r
    refine ⟨c, fun {h'} {a} e => ?_⟩
    simp only [Sem.ar] at e
    exact Out.here (w₁ := w) (s₁ := kk' P) (es₁ := #[]) (fun es₀ => by simp only [Sem.runT, Array.append_empty]) (.none w) rfl rfl (k e)
  | dead hd =>
    intro O h w r
    refine ⟨0, fun {h'} {a} e => ?_⟩
    rw [hd] at e
    cases e
  | _ =>
    intro O h w r
    refine ⟨0, fun {h'} {a} e => ?_⟩
    simp only [Sem.ar] at e
    cases e
end
end Go.Am
end
section
set_option linter.unusedVariables false
set_option linter.unusedSectionVars false
set_option linter.unusedSimpArgs false
namespace Go.Am
open Go.Ren (grow EvO Guar Rely)
def plainV : Nat → Value → Bool
  | 0, _ => false
  | n + 1, v => match v with
    | .bool _ | .int _ _ | .string _ | .pointer none | .slice none _ _ | .map none | .nilFunc | .nilIface => true
    | .func (.func _) a b => a.isEmpty && b.isEmpty
    | .func (.via ..) a b => a.isEmpty && b.isEmpty
    | .iface _ v => plainV n v
    | .agg cs => cs.toList.all (plainV n)
    | .tuple cs => cs.toList.all (plainV n)
    | _ => false
theorem get_mem {α : Type} {a : Array α} {i : Nat} {x : α} (h : a[i]? = some x) : x ∈ a.toList := by
  obtain ⟨h1, h2⟩ := Array.getElem?_eq_some_iff.1 h
  rw [← h2]; simp
theorem plain_vr (ρ : Env) : ∀ (n : Nat) (v : Value), plainV n v = true → VR ρ v v := by
  intro n
  induction n with
  | zero => intro v h; cases h
  | succ n ih =>
    intro v h
    have arr : ∀ cs : Array Value, cs.toList.all (plainV n) = true → ∀ (i : Nat) x y, cs[i]? = some x → cs[i]? = some y → VR ρ x y := by
      intro cs hc i x y hx hy
      rw [hx] at hy
      cases hy
      exact ih x (List.all_eq_true.1 hc x (get_mem hx))
    have emp : ∀ a : Array Value, a.isEmpty = true → ∀ (i : Nat) x y, a[i]? = some x → a[i]? = some y → VR ρ x y := by
      intro a ha i x y hx _
      have : a = #[] := Array.isEmpty_iff.1 ha
      subst this
      simp at hx
    cases v with
    | bool b => exact .bool b
    | int k m => exact .int k m
    | string s => exact .string s
    | pointer a => cases a with | none => exact .nilptr | some a => cases h
    | slice a m c => cases a with | none => exact .nilslice m c | some a => cases h
    | map r => cases r with | none => exact .nilmap | some a => cases h
    | nilFunc => exact .nilFunc
    | nilIface => exact .nilIface
    | func f a b =>
      have fin : (a.isEmpty && b.isEmpty) = true → FnR ρ f f → VR ρ (.func f a b) (.func f a b) := fun h hf => by
        simp only [Bool.and_eq_true] at h
        exact .func hf rfl (emp a h.1) rfl (emp b h.2)
      cases f with
      | func f => exact fin h (.func f)
      | via t p f x => exact fin h (.via t p f x)
      | _ => cases h
    | iface t v => exact .iface (ih v h)
    | agg cs => exact .agg rfl (arr cs h)
    | tuple cs => exact .tuple rfl (arr cs h)
    | _ => cases h
class Zeros (P : Program) : Prop where
  zero : ∀ t i z, P.info? t = some i → i.zero = some z → ∀ ρ : Env, VR ρ z z
abbrev Same {α : Type} : Env → α → α → Prop := fun _ a b => a = b
def Dead (P : Program) {α : Type} (s : Sem α) : Prop := ∀ c h, s.ar P c h = none
theorem dead_bind {P : Program} {α γ : Type} (s : Sem α) (f : α → Sem γ) (hf : ∀ a, Dead P (f a)) : Dead P (s.bind f) := by
  induction s with
  | pure a => exact hf a
  | load m a k ih =>
    intro c h
    simp only [Sem.bind]
    rw [Sem.ar.eq_def]
    dsimp only
    split
    · exact ih _ _ _
    · rfl
  | store m a v k ih =>
    intro c h
    simp only [Sem.bind]
    cases v <;> cases m <;> simp only [Sem.ar]
    all_goals
      split
      · exact ih _ _
      · rfl
  | new o k ih =>
    intro c h
    simp only [Sem.bind]
    simp only [Sem.ar]
    split <;> first | rfl | exact ih _ _ _
  | shape r k ih =>
    intro c h
    simp only [Sem.bind]
    simp only [Sem.ar]
    split <;> first | rfl | exact ih _ _ _
  | getObj r k ih =>
    intro c h
    simp only [Sem.bind]
    simp only [Sem.ar]
    split <;> first | rfl | exact ih _ _ _
  | setObj r o k ih =>
    intro c h
    simp only [Sem.bind]
    simp only [Sem.ar]
    split
    · rfl
    · rfl
    · split
      · rfl
      · exact ih _ _
    · rfl
  | choose q k ih =>
    intro c h
    simp only [Sem.bind]
    rw [Sem.ar.eq_def]
    dsimp only
    split
    · exact ih _ _ _
    · split
      · exact ih _ _ _
      · rfl
  | program k ih => intro c h; exact ih _ _ _
  | _ => intro c h; rfl
theorem dead_rpanic {P : Program} {α : Type} (x : RuntimeError) : Dead P (runtimePanic x : Sem α) := by
  intro c h
  show (match x with | _ => _ : Sem α).ar P c h = none
  cases x <;> first | rfl | exact dead_bind _ _ (fun a => dead_bind _ _ fun b c h => rfl) c h
section
variable {P : Program} {ρ σ : Env} {α β γ δ : Type}
theorem SR.bnd {R : Env → α → β → Prop} {Q : Env → γ → δ → Prop} {s : Sem α} {s' : Sem β} {f : α → Sem γ} {f' : β → Sem δ} (h : SR P R ρ s s') (hf : ∀ σ : Env, ρ.Le σ → ∀ a b, R σ a b → SR P Q σ (f a) (f' b)) : SR P Q ρ (s >>= f) (s' >>= f') := h.bind hf
theorem SR.bndS {Q : Env → γ → δ → Prop} {s s' : Sem α} {f : α → Sem γ} {f' : α → Sem δ} (h : SR P Same ρ s s') (hf : ∀ σ : Env, ρ.Le σ → ∀ a, SR P Q σ (f a) (f' a)) : SR P Q ρ (s >>= f) (s' >>= f') := h.bind fun σ hσ a b e => by cases e; exact hf σ hσ a
theorem SR.pur {R : Env → α → β → Prop} {a : α} {b : β} (h : R ρ a b) : SR P R ρ (Pure.pure a : Sem α) (Pure.pure b : Sem β) := .pure h
theorem SR.stuck {R : Env → α → β → Prop} {x : String} {s : Sem β} : SR P R ρ (Go.stuck x) s := .halt
theorem SR.uns {R : Env → α → β → Prop} {x : Unsupported} {s : Sem β} : SR P R ρ (Go.unsupported x) s := .halt
theorem SR.prog {R : Env → γ → δ → Prop} {f : Program → Sem γ} {f' : Program → Sem δ} (h : SR P R ρ (f P) (f' P)) : SR P R ρ (Go.program >>= f) (Go.program >>= f') := .program h
theorem SR.rpanic {R : Env → α → β → Prop} {x : RuntimeError} {s : Sem β} : SR P R ρ (runtimePanic x) s := .dead (dead_rpanic x)
theorem SR.bpanic {R : Env → α → β → Prop} {k : IntKind} {x y : Int} {c : BoundsCode} {s : Sem β} : SR P R ρ (boundsPanic k x y c) s := by
  unfold boundsPanic
  dsimp only
  split <;> exact .dead (dead_bind _ _ fun a => dead_rpanic _)
theorem sr_underlying (t : TypeId) : SR P Same ρ (underlying t) (underlying t) := by
  unfold underlying
  refine .prog ?_
  split
  · exact .pur rfl
  · exact .stuck
theorem sr_typeInfo (t : TypeId) : SR P (fun _ a b => a = b ∧ P.info? t = some a) ρ (typeInfo t) (typeInfo t) := by
  unfold typeInfo
  refine .prog ?_
  split
  · rename_i i hi; exact .pur ⟨rfl, hi⟩
  · exact .stuck
theorem sr_zero [Zeros P] (t : TypeId) : SR P VR ρ (zeroValue t) (zeroValue t) := by
  unfold zeroValue
  refine (sr_typeInfo t).bnd fun σ _ a b h => ?_
  obtain ⟨rfl, hi⟩ := h
  split
  · rename_i v hv; exact .pur (Zeros.zero t a v hi hv σ)
  · exact .uns
theorem sr_sizeOf (t : TypeId) : SR P Same ρ (sizeOf t) (sizeOf t) := by
  unfold sizeOf
  refine (sr_typeInfo t).bnd fun σ _ a b h => ?_
  obtain ⟨rfl, hi⟩ := h
  exact .pur rfl
theorem sr_isAgg (t : TypeId) : SR P Same ρ (isAgg t) (isAgg t) := by
  unfold isAgg
  refine (sr_underlying t).bndS fun σ _ a => ?_
  split <;> exact .pur rfl
theorem addr_add (a : Addr) (n : Nat) : ρ.addr (a.add n) = (ρ.addr a).add n := by
  unfold Addr.add
  by_cases h : n = 0
  · rw [if_pos h, if_pos h]
  · rw [if_neg h, if_neg h]; simp only [Env.addr, Nat.add_assoc]
theorem block_add (a : Addr) (n : Nat) : (a.add n).block = a.block := by unfold Addr.add; split <;> rfl
theorem sr_load {a : Addr} (ha : ρ.born a.block) : SR P VR ρ (load a) (load (ρ.addr a)) := .load ha fun v v' hv => .pure hv
theorem AR.empty {R : α → β → Prop} : AR R #[] #[] := ⟨rfl, fun i x y h => by simp at h⟩
theorem AR.push {R : α → β → Prop} {a : Array α} {b : Array β} (h : AR R a b) {x : α} {y : β} (hxy : R x y) : AR R (a.push x) (b.push y) := by
  refine ⟨by simp [h.1], fun i u v hu hv => ?_⟩
  rw [Array.getElem?_push] at hu hv
  by_cases e : i = a.size
  · rw [if_pos e] at hu; rw [if_pos (h.1 ▸ e)] at hv; cases hu; cases hv; exact hxy
  · rw [if_neg e] at hu; rw [if_neg (h.1 ▸ e)] at hv; exact h.2 i u v hu hv
theorem sr_loadCellsFrom (n : Nat) : ∀ {ρ : Env} (a : Addr) (i : Nat) (acc acc' : Array Value), ρ.born a.block → AR (VR ρ) acc acc' → SR P (fun σ => AR (VR σ)) ρ (loadCellsFrom a i n acc) (loadCellsFrom (ρ.addr a) i n acc') := by
  induction n with
  | zero => intro ρ a i acc acc' _ h; exact .pur h
  | succ n ih =>
    intro ρ a i acc acc' ha h
    unfold loadCellsFrom
    rw [← addr_add]
    refine (sr_load (by rw [block_add]; exact ha)).bnd fun σ hσ v v' hv => ?_
    rw [← hσ.addr ha]
    exact ih a (i + 1) _ _ (hσ.born _ ha) ((h.mono fun _ _ x => x.mono hσ).push hv)
theorem sr_loadCells {a : Addr} (n : Nat) (ha : ρ.born a.block) : SR P (fun σ => AR (VR σ)) ρ (loadCells a n) (loadCells (ρ.addr a) n) := sr_loadCellsFrom n a 0 _ _ ha .empty
theorem sr_loadVar (t : TypeId) {a : Addr} (ha : ρ.born a.block) : SR P VR ρ (loadVar t a) (loadVar t (ρ.addr a)) := by
  unfold loadVar
  refine (sr_isAgg t).bndS fun σ hσ b => ?_
  rw [← hσ.addr ha]
  have ha' := hσ.born _ ha
  cases b with
  | true =>
    refine (sr_sizeOf t).bndS fun τ hτ n => ?_
    rw [← hτ.addr ha']
    exact (sr_loadCells n (hτ.born _ ha')).bnd fun υ _ x y h => .pur (.agg h.1 h.2)
  | false => exact sr_load ha'
theorem vr_cells {v v' : Value} (h : VR ρ v v') : AR (VR ρ) v.cells v'.cells := by
  have one : ∀ {v v' : Value}, VR ρ v v' → AR (VR ρ) #[v] #[v'] := fun {v v'} h => by
    have := (AR.empty (R := VR ρ)).push h
    exact this
  cases h with
  | agg hs h => exact ⟨hs, h⟩
  | bool b => exact one (.bool b)
  | int k n => exact one (.int k n)
  | string s => exact one (.string s)
  | nilptr => exact one .nilptr
  | ptr h => exact one (.ptr h)
  | nilslice n c => exact one (.nilslice n c)
  | slice h hc => exact one (.slice h hc)
  | nilmap => exact one .nilmap
  | map h => exact one (.map h)
  | nilchan => exact one .nilchan
  | chan h => exact one (.chan h)
  | nilFunc => exact one .nilFunc
  | func a b c d e => exact one (.func a b c d e)
  | nilIface => exact one .nilIface
  | iface h => exact one (.iface h)
  | tuple hs h => exact one (.tuple hs h)
theorem AR.list {R : α → β → Prop} {a : Array α} {b : Array β} (h : AR R a b) : LR R a.toList b.toList := by
  obtain ⟨a⟩ := a
  obtain ⟨b⟩ := b
  obtain ⟨hs, h⟩ := h
  simp only [List.size_toArray] at hs
  induction a generalizing b with
  | nil => cases b with | nil => exact .nil | cons y m => simp at hs
  | cons x l ih =>
    cases b with
    | nil => simp at hs
    | cons y m =>
      refine .cons (h 0 x y (by simp) (by simp)) (ih m (fun i u v hu hv => h (i + 1) u v (by simpa using hu) (by simpa using hv)) (by simpa using hs))
theorem LR.arr {R : α → β → Prop} {a : List α} {b : List β} (h : LR R a b) : AR R a.toArray b.toArray := by
  induction h with
  | nil => exact .empty
  | cons h _ ih =>
    refine ⟨by have := ih.1; simp at this ⊢; exact this, fun i x y hx hy => ?_⟩
    cases i with
    | zero => simp at hx hy; subst hx hy; exact h
    | succ i => exact ih.2 i x y (by simpa using hx) (by simpa using hy)
theorem sr_storeCells {l l' : List Value} : ∀ {ρ : Env} {a : Addr} (i : Nat), ρ.born a.block → LR (VR ρ) l l' → SR P Same ρ (storeCells a l i) (storeCells (ρ.addr a) l' i) := by
  induction l generalizing l' with
  | nil => intro ρ a i _ h; cases h; exact .pur rfl
  | cons v l ih =>
    intro ρ a i ha h
    cases h with
    | cons hv hl =>
      unfold storeCells
      rw [← addr_add]
      refine SR.bndS (s := store (a.add i) v) (.store (by rw [block_add]; exact ha) hv (.pure rfl)) fun σ hσ _ => ?_
      rw [← hσ.addr ha]
      exact ih (i + 1) (hσ.born _ ha) (hl.mono fun _ _ x => x.mono hσ)
theorem sr_storeVar (t : TypeId) {a : Addr} {v v' : Value} (ha : ρ.born a.block) (hv : VR ρ v v') : SR P Same ρ (storeVar t a v) (storeVar t (ρ.addr a) v') := by
  unfold storeVar
  have hc := vr_cells hv
  refine (sr_sizeOf t).bndS fun σ hσ n => ?_
  rw [← hσ.addr ha, ← hc.1]
  by_cases h : v.cells.size ≠ n
  · rw [if_pos h]; exact .dead fun _ _ => rfl
  · rw [if_neg h, if_neg h]
    exact sr_storeCells 0 (hσ.born _ ha) (hc.list.mono fun _ _ x => x.mono hσ)
theorem sr_newRow (e e' : TypeId) {c c' : Array Value} (hc : AR (VR ρ) c c') : SR P (fun σ a a' => σ.born a.block ∧ a.spot = none ∧ a.off = 0 ∧ a' = σ.addr a) ρ (newRow e c) (newRow e' c') := by
  unfold newRow
  refine SR.bnd (R := fun σ r r' => σ.ob r r') (s := newObj _) (s' := newObj _) (.new (.cells hc) fun σ hσ r r' hr => .pure hr) fun σ hσ r r' hr => .pur ⟨hr.1, rfl, rfl, ?_⟩
  unfold Env.addr
  simp only [hr.2]
end
end Go.Am
end
section
set_option linter.unusedVariables false
set_option linter.unusedSectionVars false
set_option linter.unusedSimpArgs false
namespace Go.Am
open Go.Ren (grow EvO Guar Rely)
theorem env0_le (ρ : Env) : env0.Le ρ := ⟨fun _ h => h.elim, fun _ h => h.elim, fun _ h => h.elim, fun _ h => h.elim, fun _ h => h.elim⟩
def Plain (v : Value) : Prop := VR env0 v v
theorem Plain.vr {v : Value} (h : Plain v) (ρ : Env) : VR ρ v v := VR.mono (env0_le ρ) h
theorem plain_of {n : Nat} {v : Value} (h : plainV n v = true) : Plain v := plain_vr env0 n v h
theorem arr_eq {a b : Array Value} (hs : a.size = b.size) (h : ∀ (i : Nat) x y, a[i]? = some x → b[i]? = some y → y = x) : b = a := by
  apply Array.ext hs.symm
  intro i h1 h2
  exact h i a[i] b[i] (by simp [h2]) (by simp [h1])
theorem plain_eq {v u : Value} (h : VR env0 v u) : ∀ {ρ : Env} {v' : Value}, VR ρ v v' → v' = v := by
  induction h with
  | bool b => intro ρ v' k; cases k; rfl
  | int k n => intro ρ v' k; cases k; rfl
  | string s => intro ρ v' k; cases k; rfl
  | nilptr => intro ρ v' k; cases k; rfl
  | ptr h => exact h.elim
  | nilslice n c => intro ρ v' k; cases k; rfl
  | slice h => exact h.elim
  | nilmap => intro ρ v' k; cases k; rfl
  | map h => exact h.1.elim
  | nilchan => intro ρ v' k; cases k; rfl
  | chan h => exact h.1.elim
  | nilFunc => intro ρ v' k; cases k; rfl
  | func hf hs h ks k ih ik =>
    intro ρ v' m
    cases m with
    | func hf' hs' h' ks' k' =>
      have e1 := arr_eq hs' fun i x y hx hy => by
        obtain ⟨z, hz⟩ : ∃ z, _ = some z := ⟨_, Array.getElem?_eq_getElem (hs ▸ (Array.getElem?_eq_some_iff.1 hx).1)⟩
        exact ih i x z hx hz (h' i x y hx hy)
      have e2 := arr_eq ks' fun i x y hx hy => by
        obtain ⟨z, hz⟩ : ∃ z, _ = some z := ⟨_, Array.getElem?_eq_getElem (ks ▸ (Array.getElem?_eq_some_iff.1 hx).1)⟩
        exact ik i x z hx hz (k' i x y hx hy)
      rw [e1, e2]
      cases hf with
      | yield h => exact h.1.elim
      | func f => cases hf'; rfl
      | method f => cases hf'; rfl
      | methodOf f => cases hf'; rfl
      | via f => cases hf'; rfl
  | nilIface => intro ρ v' k; cases k; rfl
  | iface h ih => intro ρ v' k; cases k with | iface k => rw [ih k]
  | agg hs h ih =>
    intro ρ v' m
    cases m with
    | agg hs' h' =>
      rw [arr_eq hs' fun i x y hx hy => by
        obtain ⟨z, hz⟩ : ∃ z, _ = some z := ⟨_, Array.getElem?_eq_getElem (hs ▸ (Array.getElem?_eq_some_iff.1 hx).1)⟩
        exact ih i x z hx hz (h' i x y hx hy)]
  | tuple hs h ih =>
    intro ρ v' m
    cases m with
    | tuple hs' h' =>
      rw [arr_eq hs' fun i x y hx hy => by
        obtain ⟨z, hz⟩ : ∃ z, _ = some z := ⟨_, Array.getElem?_eq_getElem (hs ▸ (Array.getElem?_eq_some_iff.1 hx).1)⟩
        exact ih i x z hx hz (h' i x y hx hy)]
theorem Plain.eq {v v' : Value} {ρ : Env} (h : Plain v) (k : VR ρ v v') : v' = v := plain_eq h k
theorem Plain.agg {cs : Array Value} (h : Plain (.agg cs)) : ∀ c ∈ cs, Plain c := by
  intro c hc
  cases h with
  | agg hs h =>
    obtain ⟨i, hi, e⟩ := Array.mem_iff_getElem.1 hc
    exact h i c c (by simp [hi, e]) (by simp [hi, e])
theorem plain_agg {cs : Array Value} (h : ∀ c ∈ cs, Plain c) : Plain (.agg cs) :=
  VR.agg rfl fun i x y hx hy => by rw [hx] at hy; cases hy; exact h x (Array.mem_of_getElem? hx)
theorem Plain.iface {t : TypeId} {v : Value} (h : Plain (.iface t v)) : Plain v := by cases h with | iface h => exact h
theorem dead_left {P : Program} {α γ : Type} {s : Sem α} (f : α → Sem γ) (h : Dead P s) : Dead P (s >>= f) := fun c a => ar_bind_none s f c a (h c a)
abbrev SameQ {α : Type} (Q : α → Prop) : Env → α → α → Prop := fun _ a b => a = b ∧ Q a
abbrev Dry (P : Program) {α : Type} (Q : α → Prop) (s : Sem α) : Prop := ∀ ρ : Env, SR P (SameQ Q) ρ s s
section
variable {P : Program} {ρ σ : Env} {α β γ δ : Type}
theorem Dry.bnd {Q : α → Prop} {T : β → Prop} {s : Sem α} {f : α → Sem β} (h : Dry P Q s) (k : ∀ a, Q a → Dry P T (f a)) : Dry P T (s >>= f) := fun ρ => (h ρ).bnd fun σ _ a b e => by obtain ⟨rfl, e⟩ := e; exact k a e σ
theorem Dry.pur {Q : α → Prop} {a : α} (h : Q a) : Dry P Q (Pure.pure a : Sem α) := fun ρ => .pur ⟨rfl, h⟩
theorem Dry.stuck {Q : α → Prop} {x : String} : Dry P Q (Go.stuck x : Sem α) := fun _ => .stuck
theorem Dry.uns {Q : α → Prop} {x : Unsupported} : Dry P Q (Go.unsupported x : Sem α) := fun _ => .uns
theorem Dry.rpanic {Q : α → Prop} {x : RuntimeError} : Dry P Q (runtimePanic x : Sem α) := fun _ => .rpanic
theorem Dry.dead {Q : α → Prop} {s : Sem α} (h : Dead P s) : Dry P Q s := fun _ => .dead h
theorem Dry.prog {Q : α → Prop} {f : Program → Sem α} (h : Dry P Q (f P)) : Dry P Q (Go.program >>= f) := fun ρ => .prog (h ρ)
abbrev Any {α : Type} : α → Prop := fun _ => True
theorem dry_underlying (t : TypeId) : Dry P Any (underlying t) := fun ρ => (sr_underlying t).imp fun _ _ _ _ e => ⟨e, trivial⟩
theorem dry_typeInfo (t : TypeId) : Dry P Any (typeInfo t) := fun ρ => (sr_typeInfo t).imp fun _ _ _ _ e => ⟨e.1, trivial⟩
theorem dry_sizeOf (t : TypeId) : Dry P Any (sizeOf t) := fun ρ => (sr_sizeOf t).imp fun _ _ _ _ e => ⟨e, trivial⟩
theorem dry_isAgg (t : TypeId) : Dry P Any (isAgg t) := fun ρ => (sr_isAgg t).imp fun _ _ _ _ e => ⟨e, trivial⟩
theorem dry_typeStr (t : TypeId) : Dry P Any (typeStr t) := by
  unfold typeStr
  refine (dry_typeInfo t).bnd fun i _ => ?_
  dsimp only
  split
  · exact .uns
  · exact .pur trivial
theorem dry_forIn_list {γ δ : Type} {Q : δ → Prop} (f : γ → δ → Sem (ForInStep δ)) : ∀ (xs : List γ) (a : δ), Q a → (∀ x ∈ xs, ∀ a, Q a → Dry P (fun p => (∃ u, p = .done u ∧ Q u) ∨ (∃ u, p = .yield u ∧ Q u)) (f x a)) → Dry P Q (forIn xs a f)
  | [], a, h, _ => by simpa using Dry.pur (P := P) h
  | x :: xs, a, h, hf => by
    rw [List.forIn_cons]
    refine (hf x (by simp) a h).bnd ?_
    rintro p (⟨u, rfl, hu⟩ | ⟨u, rfl, hu⟩)
    · exact .pur hu
    · exact dry_forIn_list f xs u hu fun y hy => hf y (by simp [hy])
theorem dry_forIn_array {γ δ : Type} {Q : δ → Prop} (f : γ → δ → Sem (ForInStep δ)) (xs : Array γ) (a : δ) (h : Q a) (hf : ∀ x ∈ xs, ∀ a, Q a → Dry P (fun p => (∃ u, p = .done u ∧ Q u) ∨ (∃ u, p = .yield u ∧ Q u)) (f x a)) : Dry P Q (forIn xs a f) := by
  rw [← Array.forIn_toList]
  exact dry_forIn_list f _ a h fun x hx => hf x (by simpa using hx)
theorem dry_forIn_range {δ : Type} {Q : δ → Prop} (f : Nat → δ → Sem (ForInStep δ)) (r : Std.Legacy.Range) (a : δ) (h : Q a) (hf : ∀ x, ∀ a, Q a → Dry P (fun p => (∃ u, p = .done u ∧ Q u) ∨ (∃ u, p = .yield u ∧ Q u)) (f x a)) : Dry P Q (forIn r a f) := by
  rw [Std.Legacy.Range.forIn_eq_forIn_range']
  exact dry_forIn_list f _ a h fun x _ => hf x
theorem mem_extract {cs : Array Value} {i j : Nat} {v : Value} (h : v ∈ cs.extract i j) : v ∈ cs := by
  obtain ⟨k, hk, e⟩ := Array.mem_iff_getElem.1 h
  rw [Array.getElem_extract] at e
  rw [← e]
  exact Array.getElem_mem _
theorem dry_part (t : TypeId) {cs : Array Value} (h : ∀ c ∈ cs, Plain c) (off : Nat) : Dry P Plain (part t cs off) := by
  unfold part
  refine (dry_isAgg t).bnd fun b _ => ?_
  cases b with
  | true => exact (dry_sizeOf t).bnd fun n _ => .pur (plain_agg fun c hc => h c (mem_extract hc))
  | false =>
    show Dry P Plain (match cs[off]? with | some v => Pure.pure v | none => Go.stuck _)
    split
    · rename_i v hv; exact .pur (h v (Array.mem_of_getElem? hv))
    · exact .stuck
theorem dry_checkKey (empty : Bool) : ∀ (n : Nat) (t : TypeId) (v : Value), Plain v → Dry P Any (Instr.checkKey empty n t v)
  | 0, t, v, _ => .uns
  | n + 1, t, v, hv => by
    unfold Instr.checkKey
    refine (dry_underlying t).bnd fun d _ => ?_
    split
    · rename_i d x _
      refine (dry_typeInfo d).bnd fun i _ => ?_
      dsimp only
      split
      · split
        · exact .dead (dead_left _ (dead_rpanic _))
        · exact (dry_typeStr d).bnd fun s _ => .dead (dead_left _ (dead_rpanic _))
      · exact dry_checkKey empty n d x hv.iface
    · rename_i len e cs _
      refine Dry.bnd (Q := Any) (dry_forIn_range _ _ _ trivial fun x a _ => ?_) fun _ _ => .pur trivial
      refine (dry_sizeOf e).bnd fun s _ => ?_
      refine (dry_part e hv.agg _).bnd fun x hx => ?_
      exact (dry_checkKey empty n e x hx).bnd fun _ _ => .pur (.inr ⟨_, rfl, trivial⟩)
    · rename_i fields cs _
      refine Dry.bnd (Q := Any) (dry_forIn_array _ _ _ trivial fun f _ a _ => ?_) fun _ _ => .pur trivial
      split
      · refine (dry_part f.type hv.agg _).bnd fun x hx => ?_
        exact (dry_checkKey empty n f.type x hx).bnd fun _ _ => .pur (.inr ⟨_, rfl, trivial⟩)
      · exact .pur (.inr ⟨_, rfl, trivial⟩)
    · exact .pur trivial
    all_goals first | exact .stuck | exact .pur trivial
end
end Go.Am
end
