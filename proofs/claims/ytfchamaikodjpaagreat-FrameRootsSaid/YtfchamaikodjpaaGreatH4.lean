/- A part of the proof that the frame keeps its roots: lemmas on which it leans. -/
import Derived.Test.YtfchamaikodjpaaGreatH3
section
set_option linter.unusedVariables false
set_option linter.unusedSectionVars false
set_option linter.unusedSimpArgs false
namespace Go.Am
open Go.Ren (grow EvO Guar Rely)
section
variable {P : Program} {ρ σ : Env} {α β γ δ : Type}
theorem vr0_ptr {v u : Value} (h : VR env0 v u) (a : Addr) (e : v = .pointer (some a)) : False := by
  cases h <;> cases e
  rename_i h; exact h
theorem Plain.ptr {a : Option Addr} (h : Plain (.pointer a)) : a = none := by cases a with | none => rfl | some a => exact (vr0_ptr h a rfl).elim
theorem dry_equalIn : ∀ (n : Nat) (t : TypeId) (x y : Value), Plain x → Plain y → Dry P Any (Op.equalIn n t x y)
  | 0, t, x, y, _, _ => .uns
  | n + 1, t, x, y, hx, hy => by
    unfold Op.equalIn
    refine (dry_underlying t).bnd fun d _ => ?_
    split
    case h_5 => have := hx.ptr; cases this
    case h_13 => have := hx.ptr; cases this
    case h_14 => have := hx.ptr; have h2 := hy.ptr; subst this h2; exact .pur trivial
    case h_19 =>
      rename_i tx vx ty vy _
      split
      · exact .pur trivial
      · refine (dry_typeInfo tx).bnd fun i _ => ?_
        dsimp only
        split
        · refine .prog ?_
          refine Dry.prog ?_
          split
          · exact .dead fun _ _ => rfl
          · exact (dry_typeStr tx).bnd fun s _ => .dead (dead_rpanic _)
        · exact dry_equalIn n tx vx vy hx.iface hy.iface
    case h_20 =>
      rename_i fields xs ys _
      refine .prog ?_
      dsimp only
      split
      · exact .dead fun _ _ => rfl
      · refine Dry.bnd (Q := Any) (dry_forIn_array _ _ _ trivial fun f _ a _ => ?_) fun _ _ => by (try dsimp only); split <;> exact .pur trivial
        split
        · refine (dry_part f.type hx.agg _).bnd fun u hu => ?_
          refine (dry_part f.type hy.agg _).bnd fun v hv => ?_
          refine (dry_equalIn n f.type u v hu hv).bnd fun b _ => ?_
          split
          · exact .pur (.inl ⟨_, rfl, trivial⟩)
          · exact .pur (.inr ⟨_, rfl, trivial⟩)
        · exact .pur (.inr ⟨_, rfl, trivial⟩)
    case h_21 =>
      rename_i len e xs ys _
      refine (dry_sizeOf e).bnd fun s _ => ?_
      refine Dry.bnd (Q := Any) (dry_forIn_range _ _ _ trivial fun f a _ => ?_) fun _ _ => by (try dsimp only); split <;> exact .pur trivial
      refine (dry_part e hx.agg _).bnd fun u hu => ?_
      refine (dry_part e hy.agg _).bnd fun v hv => ?_
      refine (dry_equalIn n e u v hu hv).bnd fun b _ => ?_
      split
      · exact .pur (.inl ⟨_, rfl, trivial⟩)
      · exact .pur (.inr ⟨_, rfl, trivial⟩)
    all_goals first
      | exact .pur trivial
      | exact .stuck
      | exact .uns
      | (split; exact .pur trivial; exact .stuck)
theorem dry_equal (t : TypeId) {x y : Value} (hx : Plain x) (hy : Plain y) : Dry P Any (Op.equal t x y) := dry_equalIn _ _ _ _ hx hy
theorem dry_eqGuardIn : ∀ (n : Nat) (t : TypeId) (x y : Value), Plain x → Plain y → Dry P Any (Op.eqGuardIn n t x y)
  | 0, t, x, y, _, _ => .uns
  | n + 1, t, x, y, hx, hy => by
    unfold Op.eqGuardIn
    refine (dry_underlying t).bnd fun d _ => ?_
    split
    · exact .pur trivial
    · rename_i fields xs ys _
      refine Dry.bnd (Q := Any) (dry_forIn_array _ _ _ trivial fun f _ a _ => ?_) fun _ _ => by (try dsimp only); split <;> exact .pur trivial
      split
      · refine (dry_part f.type hx.agg _).bnd fun u hu => ?_
        refine (dry_part f.type hy.agg _).bnd fun v hv => ?_
        refine (dry_eqGuardIn n f.type u v hu hv).bnd fun b _ => ?_
        split
        · exact .pur (.inl ⟨_, rfl, trivial⟩)
        · exact .pur (.inr ⟨_, rfl, trivial⟩)
      · exact .pur (.inr ⟨_, rfl, trivial⟩)
    · rename_i len e xs ys _
      refine (dry_sizeOf e).bnd fun s _ => ?_
      refine Dry.bnd (Q := Any) (dry_forIn_range _ _ _ trivial fun f a _ => ?_) fun _ _ => by (try dsimp only); split <;> exact .pur trivial
      refine (dry_part e hx.agg _).bnd fun u hu => ?_
      refine (dry_part e hy.agg _).bnd fun v hv => ?_
      refine (dry_eqGuardIn n e u v hu hv).bnd fun b _ => ?_
      split
      · exact .pur (.inl ⟨_, rfl, trivial⟩)
      · exact .pur (.inr ⟨_, rfl, trivial⟩)
    · exact .pur trivial
theorem dry_ite {Q : α → Prop} {c : Prop} [Decidable c] {s t : Sem α} (hs : Dry P Q s) (ht : Dry P Q t) : Dry P Q (if c then s else t) := by split <;> assumption
theorem dry_eqGuard (op : BinOp) (t : TypeId) (x y : Operand) {a b : Value} (ha : Plain a) (hb : Plain b) : Dry P Any (eqGuard op t x y a b) := by
  unfold eqGuard
  refine dry_ite (.pur trivial) ?_
  split
  · refine dry_ite (.pur trivial) ?_
    refine (dry_eqGuardIn _ _ _ _ ha hb).bnd fun c _ => ?_
    exact dry_ite (.dead fun _ _ => rfl) (.pur trivial)
  · refine .prog ?_
    refine Dry.prog ?_
    refine dry_ite (.pur trivial) ?_
    refine (dry_eqGuardIn _ _ _ _ ha hb).bnd fun c _ => ?_
    exact dry_ite (.dead fun _ _ => rfl) (.pur trivial)
  · exact .pur trivial
theorem plain_int (k : IntKind) (n : Int) : Plain (.int k n) := .int k n
theorem plain_bool (b : Bool) : Plain (.bool b) := .bool b
theorem plain_string (s : ByteArray) : Plain (.string s) := .string s
theorem dry_intArith (op : BinOp) (k : IntKind) (a b : Int) : Dry P Plain (Op.intArith op k a b) := by
  unfold Op.intArith; split <;> first | exact .pur (plain_int _ _) | exact .stuck
theorem dry_intDiv (op : BinOp) (k : IntKind) (a b : Int) : Dry P Plain (Op.intDiv op k a b) := by
  unfold Op.intDiv
  split
  · exact .rpanic
  · split <;> first | exact .pur (plain_int _ _) | exact .stuck
theorem dry_intBits (op : BinOp) (k : IntKind) (a b : Int) : Dry P Plain (Op.intBits op k a b) := by
  unfold Op.intBits
  dsimp only
  split <;> first | exact .pur (plain_int _ _) | exact .stuck
theorem dry_intCmp (op : BinOp) (a b : Int) : Dry P Plain (Op.intCmp op a b) := by
  unfold Op.intCmp; split <;> first | exact .pur (plain_bool _) | exact .stuck
theorem dry_shift (op : BinOp) (k : IntKind) (a : Int) (j : IntKind) (b : Int) : Dry P Plain (Op.shift op k a j b) := by
  unfold Op.shift
  split
  · exact .rpanic
  · dsimp only
    split <;> first | exact .pur (plain_int _ _) | exact .stuck
theorem dry_stringOp (op : BinOp) (a b : ByteArray) : Dry P Plain (Op.stringOp op a b) := by
  unfold Op.stringOp
  dsimp only
  split
  · split
    · exact .uns
    · exact .pur (plain_string _)
  all_goals first | exact .pur (plain_bool _) | exact .stuck
def binOk (op : BinOp) (x y : Value) : Bool :=
  match x, y with
  | .int _ _, .int _ _ => true
  | .string _, .string _ => true
  | x, y => (op matches .eql | .neq) && plainV 9 x && plainV 9 y
theorem dry_binOp (op : BinOp) (t : TypeId) {x y : Value} (h : binOk op x y = true) (hx : Plain x) (hy : Plain y) : Dry P Plain (binOp op t x y) := by
  unfold binOk at h
  split at h
  · rename_i k a j b
    cases op <;> (unfold Go.binOp; dsimp only) <;> first
      | exact dry_shift _ _ _ _ _
      | (split; exact .stuck; first | exact dry_intArith _ _ _ _ | exact dry_intDiv _ _ _ _ | exact dry_intBits _ _ _ _ | exact dry_intCmp _ _ _)
  · rename_i a b
    cases op <;> (unfold Go.binOp; dsimp only) <;> exact dry_stringOp _ _ _
  · simp only [Bool.and_eq_true] at h
    obtain ⟨⟨h1, _⟩, _⟩ := h
    have he := dry_equal (P := P) t hx hy
    have hq : Dry P Plain (do pure (.bool (← Op.equal t x y)) : Sem Value) := he.bnd fun b _ => .pur (plain_bool b)
    have hn : Dry P Plain (do pure (.bool (!(← Op.equal t x y))) : Sem Value) := he.bnd fun b _ => .pur (plain_bool _)
    cases op <;> first | (simp at h1; done) | skip
    all_goals
      unfold Go.binOp
      split <;> first
        | exact hq
        | exact hn
        | contradiction
        | (cases hx; done)
        | (have e := hx.ptr; cases e; done)
        | (have e := hy.ptr; cases e; done)
        | exact .uns
        | exact .stuck
        | exact dry_stringOp _ _ _
        | (split; exact .stuck; exact dry_intCmp _ _ _)
end
end Go.Am
end
section
set_option linter.unusedVariables false
set_option linter.unusedSectionVars false
set_option linter.unusedSimpArgs false
namespace Go.Am
open Go.Ren (grow EvO Guar Rely)
section
variable {P : Program} {ρ σ : Env} {α β γ δ : Type}
theorem sr_zeroS [Zeros P] (t : TypeId) : SR P (fun _ a b => a = b ∧ ∀ τ : Env, VR τ a a) ρ (zeroValue t) (zeroValue t) := by
  unfold zeroValue
  refine (sr_typeInfo t).bnd fun σ _ a b h => ?_
  obtain ⟨rfl, hi⟩ := h
  split
  · rename_i v hv; exact .pur ⟨rfl, Zeros.zero t a v hi hv⟩
  · exact .uns
theorem sr_sizeOfI (t : TypeId) : SR P (fun _ a b => a = b ∧ ∃ i, P.info? t = some i ∧ a = i.size) ρ (sizeOf t) (sizeOf t) := by
  unfold sizeOf
  refine (sr_typeInfo t).bnd fun σ _ a b h => ?_
  obtain ⟨rfl, hi⟩ := h
  exact .pur ⟨rfl, a, hi, rfl⟩
theorem SR.dry {Q : α → Prop} {s : Sem α} (h : Dry P Q s) : SR P Same ρ s s := (h ρ).imp fun _ _ _ _ e => e.1
theorem AR.get {R : α → β → Prop} {a : Array α} {b : Array β} (h : AR R a b) (i : Nat) : OptR R a[i]? b[i]? := by
  cases ha : a[i]? with
  | none =>
    have : b[i]? = none := by simp only [Array.getElem?_eq_none_iff] at ha ⊢; rw [← h.1]; exact ha
    rw [this]; exact .none
  | some x =>
    obtain ⟨hi, _⟩ := Array.getElem?_eq_some_iff.1 ha
    have hb : b[i]? = some (b[i]'(h.1 ▸ hi)) := by simp
    rw [hb]; exact .some (h.2 i _ _ ha hb)
theorem AR.extract {R : α → β → Prop} {a : Array α} {b : Array β} (h : AR R a b) (i j : Nat) : AR R (a.extract i j) (b.extract i j) := by
  refine ⟨by simp [h.1], fun k x y hx hy => ?_⟩
  rw [Array.getElem?_extract] at hx hy
  split at hx
  · split at hy
    · exact h.2 _ _ _ hx hy
    · cases hy
  · cases hx
theorem AR.set {R : α → β → Prop} {a : Array α} {b : Array β} (h : AR R a b) (i : Nat) {x : α} {y : β} (hxy : R x y) : AR R (a.setIfInBounds i x) (b.setIfInBounds i y) := by
  refine ⟨by simp [h.1], fun k u v hu hv => ?_⟩
  rw [Array.getElem?_setIfInBounds] at hu hv
  split at hu
  · rename_i e
    subst e
    rw [if_pos rfl] at hv
    split at hu
    · split at hv
      · cases hu; cases hv; exact hxy
      · cases hv
    · cases hu
  · rename_i e
    rw [if_neg e] at hv
    exact h.2 k u v hu hv
theorem AR.append {R : α → β → Prop} {a c : Array α} {b d : Array β} (h : AR R a b) (k : AR R c d) : AR R (a ++ c) (b ++ d) := by
  refine ⟨by simp [h.1, k.1], fun i u v hu hv => ?_⟩
  rw [Array.getElem?_append] at hu hv
  by_cases e : i < a.size
  · rw [if_pos e] at hu; rw [if_pos (h.1 ▸ e)] at hv; exact h.2 i u v hu hv
  · rw [if_neg e] at hu; rw [if_neg (h.1 ▸ e)] at hv; rw [← h.1] at hv; exact k.2 _ u v hu hv
theorem AR.refl {R : α → α → Prop} {a : Array α} (h : ∀ x ∈ a, R x x) : AR R a a := ⟨rfl, fun i x y hx hy => by rw [hx] at hy; cases hy; exact h x (Array.mem_of_getElem? hx)⟩
theorem vr_agg {c c' : Array Value} (h : AR (VR ρ) c c') : VR ρ (.agg c) (.agg c') := .agg h.1 h.2
theorem vr_tuple {c c' : Array Value} (h : AR (VR ρ) c c') : VR ρ (.tuple c) (.tuple c') := .tuple h.1 h.2
theorem vr_tuple2 {a a' b b' : Value} (h : VR ρ a a') (k : VR ρ b b') : VR ρ (.tuple #[a, b]) (.tuple #[a', b']) := vr_tuple (((AR.empty.push h).push k))
theorem vr_tuple3 {a a' b b' c c' : Value} (h : VR ρ a a') (k : VR ρ b b') (l : VR ρ c c') : VR ρ (.tuple #[a, b, c]) (.tuple #[a', b', c']) := vr_tuple ((((AR.empty.push h).push k).push l))
theorem vr_undef : VR ρ (.tuple #[]) (.tuple #[]) := vr_tuple .empty
theorem sr_part (t : TypeId) {c c' : Array Value} (h : AR (VR ρ) c c') (off : Nat) : SR P VR ρ (part t c off) (part t c' off) := by
  unfold part
  refine (sr_isAgg t).bndS fun σ hσ b => ?_
  cases b with
  | true => exact (sr_sizeOf t).bndS fun τ hτ n => .pur (vr_agg ((h.mono fun _ _ x => x.mono (hσ.trans hτ)).extract _ _))
  | false =>
    show SR P VR σ (match c[off]? with | some v => Pure.pure v | none => Go.stuck _) (match c'[off]? with | some v => Pure.pure v | none => Go.stuck _)
    have := h.get off
    revert this
    generalize c[off]? = x
    generalize c'[off]? = y
    intro this
    cases this with
    | none => exact .stuck
    | some h => exact .pur (h.mono hσ)
theorem sr_newVar (t : TypeId) {v v' : Value} (hv : VR ρ v v') : SR P (fun σ a a' => σ.born a.block ∧ a' = σ.addr a) ρ (newVar t v) (newVar t v') := by
  unfold newVar
  exact (sr_newRow t t (vr_cells hv)).imp fun _ _ _ _ h => ⟨h.1, h.2.2.2⟩
theorem sr_box (t : TypeId) {v v' : Value} (hv : VR ρ v v') : SR P VR ρ (Instr.box t v) (Instr.box t v') := by
  unfold Instr.box
  refine (sr_newVar t hv).bnd fun σ _ a a' h => ?_
  obtain ⟨h1, rfl⟩ := h
  exact .pur (.ptr h1)
theorem sr_alloc [Zeros P] (t : TypeId) : SR P VR ρ (Instr.alloc t true (.tuple #[])) (Instr.alloc t true (.tuple #[])) := by
  unfold Instr.alloc
  refine (sr_zero t).bnd fun σ _ z z' hz => ?_
  exact (sr_newVar t hz).bnd fun σ _ a a' h => by obtain ⟨h1, rfl⟩ := h; exact .pur (.ptr h1)
theorem fold_cells {l l' : List (Value × Nat)} (h : LR (fun a b => VR ρ a.1 b.1 ∧ b.2 = a.2) l l') (off : Nat) : ∀ {c c' : Array Value}, AR (VR ρ) c c' → AR (VR ρ) (l.foldl (fun cs (x : Value × Nat) => cs.setIfInBounds (off + x.2) x.1) c) (l'.foldl (fun cs (x : Value × Nat) => cs.setIfInBounds (off + x.2) x.1) c') := by
  induction h with
  | nil => intro c c' h; exact h
  | cons h _ ih =>
    intro c c' hc
    simp only [List.foldl_cons]
    rw [h.2]
    exact ih (hc.set _ h.1)
theorem zip_lr {R : α → β → Prop} {l : List α} {m : List β} (h : LR R l m) : ∀ (k : Nat), LR (fun (a : α × Nat) (b : β × Nat) => R a.1 b.1 ∧ b.2 = a.2) (l.zipIdx k) (m.zipIdx k) := by
  induction h with
  | nil => intro k; exact .nil
  | cons h _ ih => intro k; exact .cons ⟨h, rfl⟩ (ih (k + 1))
theorem sr_fill (place : Nat → Option (Nat × Nat)) {ps ps' : List (Nat × Value)} (h : LR (fun a b => b.1 = a.1 ∧ VR ρ a.2 b.2) ps ps') : ∀ {c c' : Array Value}, AR (VR ρ) c c' → OptR (AR (VR ρ)) (Instr.fill place c ps) (Instr.fill place c' ps') := by
  induction h with
  | nil => intro c c' hc; exact .some hc
  | @cons x y l m hxy _ ih =>
    intro c c' hc
    obtain ⟨i, v⟩ := x
    obtain ⟨j, v'⟩ := y
    obtain ⟨rfl, hv⟩ := hxy
    have hcs := vr_cells hv
    unfold Instr.fill
    cases place j with
    | none => exact .none
    | some p =>
      obtain ⟨off, size⟩ := p
      dsimp only
      rw [← hcs.1, ← hc.1]
      split
      · exact .none
      · refine ih ?_
        have := fold_cells (zip_lr hcs.list 0) off hc
        rw [← Array.foldl_toList, ← Array.foldl_toList, Array.toList_zipIdx, Array.toList_zipIdx]
        exact this
theorem LR.mapM_same {l : List α} {f : α → Sem β} (h : ∀ x ∈ l, ∀ ρ : Env, SR P Same ρ (f x) (f x)) : ∀ {ρ : Env}, SR P Same ρ (l.mapM f) (l.mapM f) := by
  induction l with
  | nil => intro ρ; exact .pur rfl
  | cons x l ih =>
    intro ρ
    rw [List.mapM_cons]
    refine (h x (by simp) ρ).bndS fun σ _ a => ?_
    refine (ih fun y hy => h y (by simp [hy])).bndS fun τ _ b => ?_
    exact .pur rfl
theorem sr_build [Zeros P] (t : TypeId) {ps ps' : Array (Nat × Value)} (h : LR (fun a b => b.1 = a.1 ∧ VR ρ a.2 b.2) ps.toList ps'.toList) : SR P VR ρ (Instr.build t ps) (Instr.build t ps') := by
  unfold Instr.build
  refine (sr_zeroS t).bnd fun σ hσ z z' hz => ?_
  obtain ⟨rfl, hz⟩ := hz
  have hzc : ∀ τ : Env, AR (VR τ) z.cells z.cells := fun τ => vr_cells (hz τ)
  dsimp only
  refine (sr_underlying t).bndS fun τ hτ d => ?_
  split
  · rename_i fields
    refine SR.bndS (s := fields.mapM _) (s' := fields.mapM _) ?_ fun υ hυ places => ?_
    · rw [Array.mapM_eq_mapM_toList]
      refine SR.bndS (LR.mapM_same fun x _ ρ => (sr_sizeOf _).bndS fun _ _ _ => .pur rfl) fun _ _ _ => .pur rfl
    · have := sr_fill (places[·]?) (h.mono fun _ _ x => ⟨x.1, x.2.mono ((hσ.trans hτ).trans hυ)⟩) (hzc υ)
      revert this
      generalize Instr.fill _ _ ps.toList = a
      generalize Instr.fill _ _ ps'.toList = b
      intro this
      cases this with
      | none => exact .stuck
      | some h => exact .pur (vr_agg h)
  · rename_i elem
    refine (sr_sizeOf elem).bndS fun υ hυ size => ?_
    have := sr_fill (fun i => some (i * size, size)) (h.mono fun _ _ x => ⟨x.1, x.2.mono ((hσ.trans hτ).trans hυ)⟩) (hzc υ)
    revert this
    generalize Instr.fill _ _ ps.toList = a
    generalize Instr.fill _ _ ps'.toList = b
    intro this
    cases this with
    | none => exact .stuck
    | some h => exact .pur (vr_agg h)
  · exact .stuck
theorem ar_none (f : Nat → Value) : AR (VR ρ) ((Array.range 0).map f) ((Array.range 0).map f) := .refl fun x hx => by
  obtain ⟨i, hi, _⟩ := Array.mem_map.1 hx
  rw [Array.mem_range] at hi
  exact absurd hi (Nat.not_lt_zero _)
theorem vr_default : VR ρ (default : Value) default := VR.bool _
theorem zeros_ar {z : Value} (hz : ∀ τ : Env, VR τ z z) (n : Nat) (f : Nat → Nat) : AR (VR ρ) ((Array.range n).map fun i => z.cells[f i]!) ((Array.range n).map fun i => z.cells[f i]!) := by
  refine .refl fun x hx => ?_
  obtain ⟨i, _, rfl⟩ := Array.mem_map.1 hx
  have h := vr_cells (hz ρ)
  rw [getElem!_def]
  have := h.get (f i)
  revert this
  cases h' : z.cells[f i]? with
  | none => intro _; exact vr_default
  | some x => intro h; cases h with | some h => exact h
theorem sr_buildSlice [Zeros P] (t : TypeId) (len : Nat) {ps ps' : Array (Nat × Value)} (h : LR (fun a b => b.1 = a.1 ∧ VR ρ a.2 b.2) ps.toList ps'.toList) : SR P VR ρ (Instr.buildSlice t len ps) (Instr.buildSlice t len ps') := by
  unfold Instr.buildSlice
  refine (sr_underlying t).bndS fun σ hσ d => ?_
  split
  · rename_i elem
    refine (sr_sizeOf elem).bndS fun τ hτ size => ?_
    dsimp only
    split
    · exact .dead fun _ _ => rfl
    · have key : ∀ (υ : Env) (zero : Array Value), τ.Le υ → AR (VR υ) ((Array.range (len * size)).map fun x => zero[x % zero.size]!) ((Array.range (len * size)).map fun x => zero[x % zero.size]!) →
          SR P VR υ (match Instr.fill (fun i => some (i * size, size)) ((Array.range (len * size)).map fun x => zero[x % zero.size]!) ps.toList with
            | some cells => (do pure (.slice (some (← newRow elem cells)) len len) : Sem Value) | _ => Go.stuck "buildSlice: a part of the wrong size")
          (match Instr.fill (fun i => some (i * size, size)) ((Array.range (len * size)).map fun x => zero[x % zero.size]!) ps'.toList with
            | some cells => (do pure (.slice (some (← newRow elem cells)) len len) : Sem Value) | _ => Go.stuck "buildSlice: a part of the wrong size") := by
        intro υ zero hυ hz
        have := sr_fill (fun i => some (i * size, size)) (h.mono fun _ _ x => ⟨x.1, x.2.mono ((hσ.trans hτ).trans hυ)⟩) hz
        revert this
        generalize Instr.fill _ _ ps.toList = a
        generalize Instr.fill _ _ ps'.toList = b
        intro this
        cases this with
        | none => exact .stuck
        | some h =>
          refine (sr_newRow elem elem h).bnd fun ω _ a a' h => ?_
          obtain ⟨h1, h2, _, rfl⟩ := h
          exact .pur (.slice h1 (.inl rfl))
      split
      · rename_i h0
        refine SR.bndS (SR.pur (R := Same) rfl) fun υ hυ zero => ?_
        refine key υ zero hυ ?_
        rw [h0]
        exact ar_none _
      · refine (sr_zeroS elem).bnd fun υ hυ z z' hz => ?_
        obtain ⟨rfl, hz⟩ := hz
        refine SR.bnd (R := fun _ a b => a = b ∧ a = z.cells) (SR.pur ⟨rfl, rfl⟩) fun ω hω zero zero' hz' => ?_
        obtain ⟨rfl, rfl⟩ := hz'
        exact key ω _ (hυ.trans hω) (zeros_ar hz _ _)
  · exact .stuck
end
end Go.Am
end
section
set_option linter.unusedVariables false
set_option linter.unusedSectionVars false
set_option linter.unusedSimpArgs false
namespace Go.Am
open Go.Ren (grow EvO Guar Rely)
section
variable {P : Program} {ρ σ : Env} {α β γ δ : Type}
theorem vr_int_inv {k : IntKind} {n : Int} {v : Value} (h : VR ρ (.int k n) v) : v = .int k n := by cases h; rfl
theorem sr_asIntOf {v v' : Value} (h : VR ρ v v') : SR P (fun _ a b => a = b ∧ v = .int a.1 a.2 ∧ v' = .int a.1 a.2) ρ (asIntOf v) (asIntOf v') := by
  cases h <;> first | exact .pur ⟨rfl, rfl, rfl⟩ | exact .stuck | exact .uns
theorem sr_asInt {v v' : Value} (h : VR ρ v v') : SR P Same ρ (asInt v) (asInt v') := by
  unfold asInt
  exact (sr_asIntOf h).bnd fun σ _ a b e => by obtain ⟨rfl, _⟩ := e; exact .pur rfl
theorem sr_asBool {v v' : Value} (h : VR ρ v v') : SR P Same ρ (asBool v) (asBool v') := by
  cases h <;> first | exact .pur rfl | exact .stuck
theorem sr_asAgg {v v' : Value} (h : VR ρ v v') : SR P (fun σ => AR (VR σ)) ρ (asAgg v) (asAgg v') := by
  cases h <;> first | exact .pur ⟨‹_›, ‹_›⟩ | exact .stuck
theorem sr_sureAddr {v v' : Value} (h : VR ρ v v') : SR P (fun σ a a' => σ.born a.block ∧ a' = σ.addr a) ρ (Instr.sureAddr v) (Instr.sureAddr v') := by
  cases h <;> first | exact .pur ⟨‹_›, rfl⟩ | exact .stuck
theorem sr_asAddr {v v' : Value} (h : VR ρ v v') : SR P (fun σ a a' => σ.born a.block ∧ a' = σ.addr a) ρ (asAddr v) (asAddr v') := by
  cases h <;> first | exact .pur ⟨‹_›, rfl⟩ | exact .stuck | exact (show SR P _ ρ (runtimePanic .nilDeref) (runtimePanic .nilDeref) from .rpanic)
theorem sr_loadAt (t : TypeId) {v v' : Value} (h : VR ρ v v') : SR P VR ρ (Instr.loadAt t v) (Instr.loadAt t v') := by
  unfold Instr.loadAt
  exact (sr_sureAddr h).bnd fun σ _ a a' e => by obtain ⟨h1, rfl⟩ := e; exact sr_loadVar t h1
theorem sr_storeAt (t : TypeId) {v v' x x' : Value} (h : VR ρ v v') (hx : VR ρ x x') : SR P Same ρ (Instr.storeAt t v x) (Instr.storeAt t v' x') := by
  unfold Instr.storeAt
  exact (sr_sureAddr h).bnd fun σ hσ a a' e => by obtain ⟨h1, rfl⟩ := e; exact sr_storeVar t h1 (hx.mono hσ)
def fieldOk (P : Program) (s : TypeId) (field : Nat) : Bool :=
  match P.underlying s with
  | some (.struct fields) => match fields[field]? with
    | some f => match P.info? f.type with
      | some i => i.size != 0
      | none => true
    | none => true
  | _ => true
theorem sr_underlyingI (t : TypeId) : SR P (fun _ a b => a = b ∧ P.underlying t = some a) ρ (underlying t) (underlying t) := by
  unfold underlying
  refine .prog ?_
  split
  · rename_i d hd; exact .pur ⟨rfl, hd⟩
  · exact .stuck
theorem sr_fieldAt (s : TypeId) {v v' : Value} (field : Nat) (hf : fieldOk P s field = true) (h : VR ρ v v') : SR P VR ρ (Instr.fieldAt s v field) (Instr.fieldAt s v' field) := by
  unfold Instr.fieldAt
  refine (sr_underlyingI s).bnd fun σ hσ d d' e => ?_
  obtain ⟨rfl, hd⟩ := e
  split
  · rename_i fields
    split
    · rename_i f hfi
      refine (sr_sureAddr (h.mono hσ)).bnd fun τ hτ a a' e => ?_
      obtain ⟨h1, rfl⟩ := e
      refine SR.bnd (R := fun υ a a' => υ.born a.block ∧ a' = υ.addr a) ?_ fun υ hυ x x' e => by obtain ⟨h2, rfl⟩ := e; exact .pur (.ptr h2)
      unfold fieldPlace
      refine (sr_sizeOfI f.type).bnd fun υ hυ n n' e => ?_
      obtain ⟨rfl, i, hi, rfl⟩ := e
      have : i.size ≠ 0 := by
        unfold fieldOk at hf
        rw [hd] at hf
        dsimp only at hf
        rw [hfi] at hf
        dsimp only at hf
        rw [hi] at hf
        simpa using hf
      rw [if_neg this, if_neg this]
      exact .pur ⟨by rw [block_add]; exact hυ.born _ h1, by rw [addr_add, hυ.addr h1]⟩
    · exact .stuck
  · exact .stuck
theorem sr_field (t : TypeId) {v v' : Value} (field : Nat) (h : VR ρ v v') : SR P VR ρ (Instr.field t v field) (Instr.field t v' field) := by
  unfold Instr.field
  refine (sr_underlying t).bndS fun σ hσ d => ?_
  split
  · split
    · exact (sr_asAgg (h.mono hσ)).bnd fun τ hτ a b e => sr_part _ e _
    · exact .stuck
  · exact .stuck
theorem sr_index (t : TypeId) {v v' x x' : Value} (h : VR ρ v v') (hx : VR ρ x x') : SR P VR ρ (Instr.index t v x) (Instr.index t v' x') := by
  unfold Instr.index
  refine (sr_asIntOf hx).bnd fun σ hσ a b e => ?_
  obtain ⟨rfl, _⟩ := e
  obtain ⟨k, i⟩ := a
  refine (sr_underlying t).bndS fun τ hτ d => ?_
  cases h.mono (hσ.trans hτ) with
  | agg hs hh =>
    cases d <;> first | exact .stuck | skip
    dsimp only
    split
    · exact (sr_sizeOf _).bndS fun υ hυ n => sr_part _ (AR.mono (R := VR τ) (fun _ _ x => x.mono hυ) ⟨hs, hh⟩) _
    · exact .bpanic
  | string s =>
    cases d <;> first | exact .stuck | skip
    dsimp only
    generalize (if 0 ≤ i then s[i.toNat]? else none) = x
    cases x with
    | none => exact .bpanic
    | some b => exact .pur (.int _ _)
  | _ => cases d <;> exact .stuck
def idxTail (t : TypeId) (k : IntKind) (i : Int) (x : Option Addr × Nat × TypeId) : Sem Value := do
  let d ← underlying t
  match x.1 with
  | some a =>
    if 0 ≤ i ∧ i < (x.2.1 : Int) then do
      let n ← sizeOf x.2.2
      pure (Value.pointer (some (a.add (i.toNat * n))))
    else if (decide (x.2.1 ≤ 1) && match d with | TypeDesc.array len elem => true | x => false) = true then unsupported (Unsupported.noEntry "op/indexAddr.an index out of range at an array of length 0 or 1 (ledger 616)")
    else boundsPanic k i (x.2.1 : Int) BoundsCode.index
  | none => boundsPanic k i 0 BoundsCode.index
theorem sr_idxTail (t : TypeId) (k : IntKind) (i : Int) (len : Nat) (elem : TypeId) {b b' : Option Addr} (e2 : OptR (fun a a' => ρ.born a.block ∧ a' = ρ.addr a) b b') : SR P VR ρ (idxTail t k i (b, len, elem)) (idxTail t k i (b', len, elem)) := by
  unfold idxTail
  refine (sr_underlying t).bndS fun ω hω d => ?_
  dsimp only
  cases e2 with
  | none => exact .bpanic
  | some e2 =>
    obtain ⟨h1, rfl⟩ := e2
    dsimp only
    split
    · refine (sr_sizeOf elem).bndS fun ψ hψ n => .pur ?_
      rw [← (hω.trans hψ).addr h1, ← addr_add]
      exact .ptr (by rw [block_add]; exact (hω.trans hψ).born _ h1)
    · split <;> (split <;> first | exact .uns | exact .bpanic)
theorem sr_indexAt (t : TypeId) {v v' x x' : Value} (h : VR ρ v v') (hx : VR ρ x x') : SR P VR ρ (Instr.indexAt t v x) (Instr.indexAt t v' x') := by
  unfold Instr.indexAt
  refine (sr_asIntOf hx).bnd fun σ hσ a b e => ?_
  obtain ⟨rfl, _⟩ := e
  obtain ⟨k, i⟩ := a
  dsimp only
  refine (sr_underlying t).bndS fun τ hτ d => ?_
  have h' := h.mono (hσ.trans hτ)
  cases d with
  | array len elem =>
    refine (sr_sureAddr h').bnd fun υ _ a a' e => ?_
    exact sr_idxTail t k i len elem (.some e)
  | slice elem =>
    cases h' <;> first | exact .dead fun _ _ => rfl | skip
    · rename_i n c; exact sr_idxTail t k i n elem .none
    · rename_i a n c c' hb hc; exact sr_idxTail t k i n elem (.some ⟨hb, rfl⟩)
  | _ => cases h' <;> exact .dead fun _ _ => rfl
theorem sr_extract {v v' : Value} (i : Nat) (h : VR ρ v v') : SR P VR ρ (Instr.extract v i) (Instr.extract v' i) := by
  unfold Instr.extract
  cases h <;> first | exact .stuck | skip
  rename_i a a' hs h
  have := AR.get (R := VR ρ) ⟨hs, h⟩ i
  dsimp only
  revert this
  generalize a[i]? = x
  generalize a'[i]? = y
  intro this
  cases this with
  | none => exact .stuck
  | some h => exact .pur h
theorem sr_makeFunc {f f' : Fn} {a a' b b' : Array Value} (hf : FnR ρ f f') (ha : AR (VR ρ) a a') (hb : AR (VR ρ) b b') : SR P VR ρ (Instr.makeFunc f a b) (Instr.makeFunc f' a' b') := .pur (.func hf ha.1 ha.2 hb.1 hb.2)
theorem sr_makeInterface (t : TypeId) {v v' : Value} (h : VR ρ v v') : SR P VR ρ (Instr.makeInterface t v) (Instr.makeInterface t v') := by
  unfold Instr.makeInterface
  refine (sr_underlying t).bndS fun σ hσ d => ?_
  split
  · exact .stuck
  · exact .pur (.iface (h.mono hσ))
theorem sr_makeMap (t : TypeId) {r r' : Option Value} (h : OptR (VR ρ) r r') : SR P VR ρ (Instr.makeMap t r) (Instr.makeMap t r') := by
  unfold Instr.makeMap
  have fin : ∀ σ : Env, SR P VR σ (do pure (.map (some (← newObj (.map #[] 0)))) : Sem Value) (do pure (.map (some (← newObj (.map #[] 0)))) : Sem Value) := fun σ =>
    SR.bnd (R := fun τ r r' => τ.ob r r') (.new (.obj (.map .empty)) fun τ _ r r' hr => .pure hr) fun τ _ r r' hr => .pur (.map hr)
  cases h with
  | none => exact fin ρ
  | some h =>
    dsimp only
    refine (sr_underlying t).bndS fun σ hσ d => ?_
    split
    · exact (sr_asInt (h.mono hσ)).bndS fun τ _ _ => fin τ
    · exact .dead fun _ _ => rfl
theorem sr_makeSlice [Zeros P] (t : TypeId) {l l' c c' : Value} (hl : VR ρ l l') (hc : VR ρ c c') : SR P VR ρ (Instr.makeSlice t l c) (Instr.makeSlice t l' c') := by
  unfold Instr.makeSlice
  refine (sr_underlying t).bndS fun σ hσ d => ?_
  split
  · rename_i elem
    refine (sr_asInt (hl.mono hσ)).bndS fun τ hτ len => ?_
    refine (sr_asInt (hc.mono (hσ.trans hτ))).bndS fun υ hυ cap => ?_
    refine (sr_typeInfo elem).bnd fun ω hω i i' e => ?_
    obtain ⟨rfl, _⟩ := e
    dsimp only
    split
    · refine .dead ?_
      split
      · exact dead_left _ (dead_rpanic _)
      · split
        · exact dead_left _ (dead_rpanic _)
        · exact dead_bind _ _ fun _ => dead_left _ (dead_rpanic _)
    · unfold askRoom
      split
      · exact .mark
      · refine SR.bndS (SR.pur (R := Same) rfl) fun ψ hψ _ => ?_
        refine (sr_sizeOf elem).bndS fun χ hχ n => ?_
        have key : ∀ (χ : Env) (zero : Array Value), AR (VR χ) ((Array.range ((IntKind.i64.wrap cap).toNat * n)).map fun x => zero[x % zero.size]!) ((Array.range ((IntKind.i64.wrap cap).toNat * n)).map fun x => zero[x % zero.size]!) →
            SR P VR χ (do pure (.slice (some (← newRow elem ((Array.range ((IntKind.i64.wrap cap).toNat * n)).map fun x => zero[x % zero.size]!))) (IntKind.i64.wrap len).toNat (IntKind.i64.wrap cap).toNat) : Sem Value) (do pure (.slice (some (← newRow elem ((Array.range ((IntKind.i64.wrap cap).toNat * n)).map fun x => zero[x % zero.size]!))) (IntKind.i64.wrap len).toNat (IntKind.i64.wrap cap).toNat) : Sem Value) := by
          intro χ zero hz
          refine (sr_newRow elem elem hz).bnd fun ξ _ a a' h => ?_
          obtain ⟨h1, h2, _, rfl⟩ := h
          exact .pur (.slice h1 (.inl rfl))
        split
        · rename_i h0
          refine SR.bndS (SR.pur (R := Same) rfl) fun ξ hξ zero => ?_
          refine key ξ zero ?_
          rw [h0]
          exact ar_none _
        · refine (sr_zeroS elem).bnd fun ξ hξ z z' hz => ?_
          obtain ⟨rfl, hz⟩ := hz
          refine SR.bnd (R := fun _ a b => a = b ∧ a = z.cells) (SR.pur ⟨rfl, rfl⟩) fun ζ hζ zero zero' hz' => ?_
          obtain ⟨rfl, rfl⟩ := hz'
          exact key ζ _ (zeros_ar hz _ _)
  · exact .stuck
end
end Go.Am
end
