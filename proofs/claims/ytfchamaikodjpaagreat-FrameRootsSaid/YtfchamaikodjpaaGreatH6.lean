/- A part of the proof that the frame keeps its roots: lemmas on which it leans. -/
import GoSem.Dispatch
import Derived.Test.YtfchamaikodjpaaGreatH5
section
set_option linter.unusedVariables false
set_option linter.unusedSectionVars false
set_option linter.unusedSimpArgs false
namespace Go.Am
open Go.Ren (grow EvO Guar Rely)
section
variable {P : Program} {ρ σ : Env} {α β γ δ : Type}
theorem sr_len (ts : Array TypeId) (t : TypeId) {a a' : Array Value} (h : AR (VR ρ) a a') : SR P VR ρ (Builtin.len_ ts t a) (Builtin.len_ ts t a') := by
  unfold Builtin.len_
  have h0 := h.get 0
  revert h0
  generalize a[0]? = x
  generalize a'[0]? = y
  intro h0
  cases h0 with
  | none => cases ts[0]? <;> exact .stuck
  | @some x y h0 =>
    cases ts[0]? with
    | none => exact .stuck
    | some t0 =>
      dsimp only
      refine (sr_underlying t0).bndS fun σ hσ d => ?_
      have h1 := h0.mono hσ
      cases d with
      | string => cases h1 <;> first | exact .pur (.int _ _) | exact .stuck
      | array n e => cases h1 <;> exact .pur (.int _ _)
      | pointer arr =>
        have : SR P VR σ (underlying arr >>= fun d => match d with | .array n _ => Pure.pure (goInt n) | _ => Go.stuck "len: pointer to array expected") (underlying arr >>= fun d => match d with | .array n _ => Pure.pure (goInt n) | _ => Go.stuck "len: pointer to array expected") :=
          (sr_underlying arr).bndS fun τ _ d => by split; exact .pur (.int _ _); exact .stuck
        cases h1 <;> exact this
      | slice e => cases h1 <;> first | exact .pur (.int _ _) | exact .stuck
      | map k e =>
        cases h1 with
        | nilmap => exact .pur (.int _ _)
        | map hr => exact sr_getMap hr (fun es es' n h => by dsimp only; rw [h.1]; exact .pur (.int _ _)) fun o ho => by cases o <;> first | exact absurd rfl (ho _ _) | exact fun _ _ => rfl
        | _ => exact .stuck
      | chan dir e =>
        cases h1 with
        | nilchan => exact .pur (.int _ _)
        | chan hr => exact .getObj hr fun o o' ho => by cases ho <;> exact .stuck
        | _ => exact .stuck
      | _ => cases h1 <;> exact .stuck
theorem sr_strPick (op : BinOp) (a b : ByteArray) : SR P VR ρ (do pure (.string (if ← asBool (← Op.stringOp op a b) then a else b)) : Sem Value) (do pure (.string (if ← asBool (← Op.stringOp op a b) then a else b)) : Sem Value) :=
  (dry_stringOp op a b ρ).bnd fun σ _ x y e => by
    obtain ⟨rfl, hp⟩ := e
    exact (sr_asBool (hp.vr σ)).bndS fun τ _ c => .pur (.string _)
theorem sr_min2 {x x' y y' : Value} (hx : VR ρ x x') (hy : VR ρ y y') : SR P VR ρ (Builtin.min2 x y) (Builtin.min2 x' y') := by
  cases hx with
  | int k n => cases hy with | int k n => exact .pur (.int _ _) | _ => exact .dead fun _ _ => rfl
  | string s => cases hy with | string s => exact sr_strPick _ _ _ | _ => exact .dead fun _ _ => rfl
  | _ => cases hy <;> exact .dead fun _ _ => rfl
theorem sr_max2 {x x' y y' : Value} (hx : VR ρ x x') (hy : VR ρ y y') : SR P VR ρ (Builtin.max2 x y) (Builtin.max2 x' y') := by
  cases hx with
  | int k n => cases hy with | int k n => exact .pur (.int _ _) | _ => exact .dead fun _ _ => rfl
  | string s => cases hy with | string s => exact sr_strPick _ _ _ | _ => exact .dead fun _ _ => rfl
  | _ => cases hy <;> exact .dead fun _ _ => rfl
theorem sr_foldlM {f : Value → Value → Sem Value} (hf : ∀ {ρ : Env} {x x' y y' : Value}, VR ρ x x' → VR ρ y y' → SR P VR ρ (f x y) (f x' y')) {l l' : List Value} : ∀ {ρ : Env} {x x' : Value}, LR (VR ρ) l l' → VR ρ x x' → SR P VR ρ (l.foldlM f x) (l'.foldlM f x') := by
  induction l generalizing l' with
  | nil => intro ρ x x' h hx; cases h; exact .pur hx
  | cons y l ih =>
    intro ρ x x' h hx
    cases h with
    | cons hy hl =>
      rw [List.foldlM_cons, List.foldlM_cons]
      exact (hf hx hy).bnd fun σ hσ a b hab => ih (hl.mono fun _ _ z => z.mono hσ) hab
theorem sr_min (ts : Array TypeId) (t : TypeId) {a a' : Array Value} (h : AR (VR ρ) a a') : SR P VR ρ (Builtin.min_ ts t a) (Builtin.min_ ts t a') := by
  unfold Builtin.min_
  have := h.list
  revert this
  generalize a.toList = l
  generalize a'.toList = l'
  intro this
  cases this with
  | nil => exact .stuck
  | cons hx hl => exact sr_foldlM (fun h k => sr_min2 h k) hl hx
theorem sr_max (ts : Array TypeId) (t : TypeId) {a a' : Array Value} (h : AR (VR ρ) a a') : SR P VR ρ (Builtin.max_ ts t a) (Builtin.max_ ts t a') := by
  unfold Builtin.max_
  have := h.list
  revert this
  generalize a.toList = l
  generalize a'.toList = l'
  intro this
  cases this with
  | nil => exact .stuck
  | cons hx hl => exact sr_foldlM (fun h k => sr_max2 h k) hl hx
theorem sr_lenOf {v v' : Value} (h : VR ρ v v') : SR P Same ρ (Builtin.lenOf v) (Builtin.lenOf v') := by
  cases h <;> first | exact .pur rfl | exact .stuck
theorem sr_firstCells (size n : Nat) {v v' : Value} (h : VR ρ v v') : SR P (fun σ => AR (VR σ)) ρ (Builtin.firstCells size n v) (Builtin.firstCells size n v') := by
  cases h with
  | nilslice => exact .pur .empty
  | slice hb hc => exact sr_loadCells _ hb
  | string s =>
    refine .pur (.refl fun x hx => ?_)
    obtain ⟨b, _, rfl⟩ := Array.mem_map.1 hx
    exact .int _ _
  | _ => exact .stuck
theorem sr_copy (ts : Array TypeId) (t : TypeId) {a a' : Array Value} (h : AR (VR ρ) a a') : SR P VR ρ (Builtin.copy_ ts t a) (Builtin.copy_ ts t a') := by
  unfold Builtin.copy_
  have h0 := h.get 0
  have h1 := h.get 1
  revert h0 h1
  generalize a[0]? = x
  generalize a'[0]? = x'
  generalize a[1]? = y
  generalize a'[1]? = y'
  intro h0 h1
  cases ts[0]? with
  | none => cases h0 <;> cases h1 <;> exact .stuck
  | some t0 =>
    cases h0 with
    | none => cases h1 <;> exact .stuck
    | @some x x' h0 =>
      cases h1 with
      | none => exact .stuck
      | @some y y' h1 =>
        dsimp only
        refine (sr_underlying t0).bndS fun σ hσ d => ?_
        split
        · rename_i elem
          have fin : ∀ (b b' : Option Addr) (n : Nat), OptR (fun a a' => ρ.born a.block ∧ a' = ρ.addr a) b b' → SR P VR σ (do
              let n ← pure (Nat.min (← Builtin.lenOf y) n)
              let cells ← Builtin.firstCells (← sizeOf elem) n y
              if let some a := b then storeCells a cells.toList
              pure (goInt n) : Sem Value) (do
              let n ← pure (Nat.min (← Builtin.lenOf y') n)
              let cells ← Builtin.firstCells (← sizeOf elem) n y'
              if let some a := b' then storeCells a cells.toList
              pure (goInt n) : Sem Value) := by
            intro b b' n hb
            refine (sr_lenOf (h1.mono hσ)).bndS fun τ hτ m => ?_
            refine SR.bndS (SR.pur (R := Same) rfl) fun τ' hτ' k => ?_
            refine (sr_sizeOf elem).bndS fun υ hυ s => ?_
            have hle := ((hσ.trans hτ).trans hτ').trans hυ
            refine (sr_firstCells s _ (h1.mono hle)).bnd fun ω hω c c' hc => ?_
            cases hb with
            | none => exact .pur (.int _ _)
            | some hb =>
              obtain ⟨hb, rfl⟩ := hb
              have hle' := hle.trans hω
              dsimp only
              rw [← hle'.addr hb]
              exact (sr_storeCells 0 (hle'.born _ hb) hc.list).bndS fun _ _ _ => .pur (.int _ _)
          cases h0 with
          | nilslice n c => exact fin none none n .none
          | @slice ad n c c' hb hc => exact fin _ _ n (.some ⟨hb, rfl⟩)
          | _ => exact .dead fun _ _ => rfl
        · exact .dead fun _ _ => rfl
theorem sr_clear [Zeros P] (ts : Array TypeId) (t : TypeId) {a a' : Array Value} (h : AR (VR ρ) a a') (hx : ∃ b n c, a[0]? = some (.slice b n c)) : SR P VR ρ (Builtin.clear_ ts t a) (Builtin.clear_ ts t a') := by
  unfold Builtin.clear_
  have h0 := h.get 0
  obtain ⟨b, n, c, hx⟩ := hx
  rw [hx] at h0
  rw [hx]
  revert h0
  generalize a'[0]? = x'
  intro h0
  cases ts[0]? with
  | none => cases h0; exact .stuck
  | some t0 =>
    cases h0 with
    | @some _ x' h =>
      have fin : ∀ (σ : Env), SR P VR σ (pure (.tuple #[]) : Sem Value) (pure (.tuple #[]) : Sem Value) := fun σ => .pur (.tuple rfl fun i x y hx => by simp at hx)
      dsimp only
      refine (sr_underlying t0).bndS fun σ hσ d => ?_
      cases h with
      | nilslice n c => exact fin σ
      | @slice a n c c' hb hc =>
        cases n with
        | zero => exact fin σ
        | succ n =>
          cases d with
          | slice elem =>
            refine (sr_zeroS elem).bnd fun τ hτ z z' hz => ?_
            obtain ⟨rfl, hz⟩ := hz
            have hle := hσ.trans hτ
            rw [← hle.addr hb]
            refine (sr_storeCells 0 (hle.born _ hb) (zeros_ar hz _ _).list).bndS fun υ _ _ => fin υ
          | _ => exact .dead fun _ _ => rfl
theorem sr_cap (ts : Array TypeId) (t : TypeId) {a a' : Array Value} (h : AR (VR ρ) a a') (hx : (∃ n c, a[0]? = some (.slice none n c)) ∨ ∃ b n c, a[0]? = some (.slice (some b) n c) ∧ ¬ ρ.slack b.block) : SR P VR ρ (Builtin.cap_ ts t a) (Builtin.cap_ ts t a') := by
  have key : ∃ o o' n c, a[0]? = some (.slice o n c) ∧ a'[0]? = some (.slice o' n c) := by
    have h0 := h.get 0
    rcases hx with ⟨n, c, hx⟩ | ⟨b, n, c, hx, hs⟩
    · rw [hx] at h0
      generalize a'[0]? = y at h0
      cases h0 with
      | some h => cases h; exact ⟨_, _, _, _, hx, rfl⟩
    · rw [hx] at h0
      generalize a'[0]? = y at h0
      cases h0 with
      | some h =>
        cases h with
        | @slice _ _ _ c' hb hc =>
          have : c' = c := hc.resolve_right fun x => hs x.1
          subst this
          exact ⟨_, _, _, _, hx, rfl⟩
  obtain ⟨o, o', n, c, h1, h2⟩ := key
  unfold Builtin.cap_
  rw [h1, h2]
  cases ts[0]? with
  | none => exact .stuck
  | some t0 =>
    dsimp only
    refine (sr_underlying t0).bndS fun σ hσ d => ?_
    cases d with
    | array n e => exact .pur (.int _ _)
    | slice e => exact .pur (.int _ _)
    | pointer arr => exact (sr_underlying arr).bndS fun τ _ d => by cases d <;> first | exact .pur (.int _ _) | exact .stuck
    | _ => exact .stuck
end
end Go.Am
end
