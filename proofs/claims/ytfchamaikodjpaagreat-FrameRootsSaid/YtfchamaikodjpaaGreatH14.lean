/- A part of the proof that the frame keeps its roots: lemmas on which it leans. -/
import Derived.Test.YtfchamaikodjpaaGreatH13
section
set_option linter.unusedVariables false
set_option linter.unusedSectionVars false
set_option linter.unusedSimpArgs false
namespace Go.Am
open Go.Ren (grow EvO Guar Rely)
section
variable {P : Program} {ρ σ : Env} {O D : Nat → Prop} {h h' : AH} {w w' : World} {X : Event → Prop} {m : Bool} {base : List Frame}
theorem stepG_run {f : Frame} {cs : List Frame} (hm : f.mode = .run) : stepG P m (gor f cs) w = stepG.exec P m true f cs none w := by
  unfold stepG gor
  dsimp only
  rw [hm]
theorem stepG_ret {f : Frame} {cs : List Frame} (hm : f.mode = .returning) : stepG P m (gor f cs) w = unwind P m f cs none w := by
  unfold stepG gor
  dsimp only
  rw [hm]
theorem out_of {α β : Type} {R : Env → α → β → Prop} {s' : Sem β} {x : α} (k : Out P X D R ρ O h w s' x h') (fn : FuncId) : ∃ (τ : Env) (y : β) (w' : World) (es : Array Event), s'.runT P w #[] = (.ok y w', es) ∧ Guar X O D w w' (seen P fn es) ∧ ρ.Le τ ∧ R τ x y ∧ Rel τ (grow O w w') D h' w' ∧ h.n ≤ h'.n ∧ ∀ x, x < h.n → τ.born x → ρ.born x := by
  obtain ⟨τ, y, w', es, h1, h2, h3, h4, h5, h6, h7⟩ := k
  exact ⟨τ, y, w', es, by have := h1 #[]; simpa using this, h5.less (seen_sub fn es), h2, h3, h4, h6, fun x hx hx' => ((h7 x).1 hx').elim id fun y => by omega⟩
theorem after_go (es : Array Event) (g : Goroutine) (w : World) : GStep.after es (.go g w) = .go g w es := by simp [GStep.after]
theorem leave_sim {s : AS} {f : Frame} {cs : List Frame} {jump : Option Code} {r : Res} {lo : Nat} (hf : F0 ρ s.fr f) (hlo : lo ≤ s.h.n) (hcs : Stk ρ lo s.cs cs) (rel : Rel ρ O D s.h w)
    (hst : stepG.exec P m true f (cs ++ base) none w = (match f.roundOf with
      | none => if jump matches none | some .ret then .go (gor { f with mode := .returning } (cs ++ base)) w else .ended (.stuck "exit, goto: no such block or label" (f.pos P)) w
      | some l => let (r, es) := (Instr.endRound l jump).runT P w #[]
        GStep.after (seen P f.fn es) (match r with
        | .ok v w => doReturn P m f (cs ++ base) none v w
        | .halt _ w => .ended (.stuck "range over a function: no such loop" (f.pos P)) w))) (hb : Has base r) (e : aleave P s jump = some r) (hm : f.mode = .run) :
    Steps1 P m X ρ O D base (gor f (cs ++ base)) w r := by
  unfold aleave at e
  have hr := hf.round
  obtain ⟨fn, tmps, todo, defers, mode, kind, ro⟩ := f
  cases har : s.fr.round with
  | none =>
    rw [har] at e hr
    cases ro with
    | some l => cases hr
    | none =>
      dsimp only at e hst
      have key : (jump = none ∨ jump = some .ret) → stepG P m (gor ⟨fn, tmps, todo, defers, mode, kind, none⟩ (cs ++ base)) w = .go (gor ⟨fn, tmps, todo, defers, .returning, kind, none⟩ (cs ++ base)) w #[] := by
        intro hj
        rw [stepG_run hm, hst]
        rcases hj with rfl | rfl <;> rfl
      have fin : (jump = none ∨ jump = some .ret) → r = .go { s with fr := { s.fr with ret := true } } → Steps1 P m X ρ O D base (gor ⟨fn, tmps, todo, defers, mode, kind, none⟩ (cs ++ base)) w r := by
        intro hj hr'
        subst hr'
        exact ⟨ρ, _, w, #[], key hj, .none w, .refl ρ, ⟨⟨lo, _, cs, hlo, rfl, .plain ⟨⟨hf.fn, hf.defers, rfl, hf.kind, by simp only [har]; exact .none⟩, hf.tmps, hf.todo⟩, hcs⟩, rel.grow⟩⟩
      split at e
      · exact fin (.inl rfl) (by cases e; rfl)
      · exact fin (.inr rfl) (by cases e; rfl)
      · cases e
  | some l =>
    rw [har] at e hr
    cases hr with
    | @some _ l' hl =>
      dsimp only at e hst
      split at e
      · rename_i v h₁ har'
        obtain ⟨τ, v', w', es, h1, h2, h3, h4, h5, h8, h9⟩ := out_of (X := X) ((sr_endRound jump hl).sim0 rel har') fn
        rw [h1] at hst
        dsimp only at hst
        obtain ⟨hdk, e⟩ := aret_dk e
        obtain ⟨g', h6, h7⟩ := doReturn_r (P := P) (m := m) (base := base) (f := ⟨fn, tmps, todo, defers, mode, kind, some l'⟩) (hf.normal hdk) (Nat.le_trans hlo h8) (hcs.mono h3 (fun x hx => h9 x (by omega)) (Nat.le_refl _)) h4 h5 hb e
        rw [h6, after_go] at hst
        exact ⟨τ, g', w', _, by rw [stepG_run hm, hst], h2, h3, h7⟩
      · cases e
theorem to_sim {s : AS} {f : Frame} {cs : List Frame} {k : List AItem} {k' : List Item} {r : Res} {lo : Nat} (hf : F0 ρ s.fr f) (hlo : lo ≤ s.h.n) (hcs : Stk ρ lo s.cs cs) (rel : Rel ρ O D s.h w) (hm : f.mode = .run) (e : ato s k = some r) (hk : LR (ItR ρ) k k')
    (hst : stepG.exec P m true f (cs ++ base) none w = .go (gor { f with todo := k' } (cs ++ base)) w #[]) : Steps1 P m X ρ O D base (gor f (cs ++ base)) w r := by
  simp only [ato, Option.some.injEq] at e
  subst e
  exact ctl (by rw [stepG_run hm, hst]) (hf.withTodo hk) hlo hcs rel
theorem LR.append {α β : Type} {R : α → β → Prop} {l m : List α} {l' m' : List β} (h : LR R l l') (k : LR R m m') : LR R (l ++ m) (l' ++ m') := by
  induction h with
  | nil => exact k
  | cons h _ ih => exact .cons h ih
theorem ar_bind_pure {α β : Type} (s : Sem α) (y : β) : ∀ (c : Option Nat) (h : AH) {x : α} {h' : AH}, s.ar P c h = some (x, h') → (s.bind fun _ => Sem.pure y).ar P c h = some (y, h') := by
  induction s with
  | pure a => intro c h x h' e; simp only [Sem.ar, Option.some.injEq, Prod.mk.injEq] at e; obtain ⟨_, rfl⟩ := e; rfl
  | load m a k ih =>
    intro c h x h' e
    simp only [Sem.bind]
    rw [Sem.ar.eq_def] at e ⊢
    dsimp only at e ⊢
    split at e
    · exact ih _ _ _ e
    · cases e
  | store m a v k ih =>
    intro c h x h' e
    simp only [Sem.bind]
    cases v <;> cases m <;> simp only [Sem.ar] at e ⊢ <;> first | (cases e; done) | skip
    all_goals
      split at e
      · exact ih _ _ e
      · cases e
  | new o k ih =>
    intro c h x h' e
    simp only [Sem.bind]
    simp only [Sem.ar] at e ⊢
    split at e <;> first | exact ih _ _ _ e | cases e
  | shape r k ih =>
    intro c h x h' e
    simp only [Sem.bind]
    simp only [Sem.ar] at e ⊢
    split at e
    · exact ih _ _ _ e
    · exact ih _ _ _ e
    · cases e
  | getObj r k ih =>
    intro c h x h' e
    simp only [Sem.bind]
    simp only [Sem.ar] at e ⊢
    split at e
    · cases e
    · exact ih _ _ _ e
    · cases e
  | setObj r o k ih =>
    intro c h x h' e
    simp only [Sem.bind]
    simp only [Sem.ar] at e ⊢
    split at e
    · cases e
    · cases e
    · split at e
      · cases e
      · rename_i hro; rw [if_neg hro]; exact ih _ _ e
    · cases e
  | choose q k ih =>
    intro c h x h' e
    simp only [Sem.bind]
    rw [Sem.ar.eq_def] at e ⊢
    dsimp only at e ⊢
    split at e
    · rename_i hq; first | exact ih _ _ _ e | (rw [if_pos hq]; exact ih _ _ _ e)
    · rename_i hq
      try rw [if_neg hq]
      split at e
      · exact ih _ _ _ e
      · cases e
  | program k ih => intro c h x h' e; exact ih _ _ _ e
  | _ => intro c h x h' e; cases e
theorem ResR.mono {O' : Nat → Prop} {r : Res} {g : Goroutine} (k : ResR P ρ O D base r g w) (hO : ∀ x, O x → O' x) : ResR P ρ O' D base r g w := by
  cases r with
  | go s => exact ⟨k.run, k.rel.mono hO⟩
  | ret v h => obtain ⟨b, bs, v', h0, h1, h2, h3⟩ := k; exact ⟨b, bs, v', h0, h1, h2, h3.mono hO⟩
theorem start_fd {ops : Array Oper} {l : List (Nat × List Nat)} {a : AFr} {f : Frame} {lo : Nat} {k : List AItem} {k' : List Item} (hp : okPlan ops l = true) (hrun : a.ret = false) (hf : FB ρ a f) (ht : AR (VR ρ) a.tmps f.tmps) (hl : LR (ItR ρ) k k') (t : Nat) :
    FT P ρ lo h { a with todo := .drawn ops l :: k } { f with todo := .inRegion ops (Region.schedule true ops t) :: k' } := by
  unfold okPlan at hp
  simp only [Bool.and_eq_true] at hp
  obtain ⟨⟨h1, h2⟩, h3⟩ := hp
  have hall : ∀ i, i < ops.size → i ∈ ix l := fun i hi => mem_ix_contains.1 (List.all_eq_true.1 h2 i (by simpa using hi))
  obtain ⟨s1, s2⟩ := schedule_lin (okDrawn_back h1) t
  have hnone : ∀ i ∈ Region.schedule true ops t, i ∉ ix l → False := fun i hi hn => hn (hall i ((s2 i).1 hi))
  refine .ahead (ops := ops) (l := l) (s := Region.schedule true ops t) ⟨⟨hf.fn, hf.defers, hf.mode, hf.kind, hf.round⟩, hrun, ⟨k, k', rfl, rfl, hl⟩, h1, h3, s1, fun i j hi hn => absurd ((s2 i).2 hi) hn, fun i hi => (s2 i).1 hi, fun i hi => (s2 i).2 (ord_lt h3 i hi), fun i hi hn => absurd (hall i hi) hn, fun i hi hn => (hnone i hi hn).elim, ht.1, fun t _ => ht.get t, fun i hi hn => (hnone i hi hn).elim, fun i hi hn => (hnone i hi hn).elim⟩ fun i hi hn => (hnone i hi hn).elim
theorem step_plain [Zeros P] {pl : Plan} {s : AS} {f : Frame} {cs : List Frame} {lo : Nat} (hlo : lo ≤ s.h.n) (hf : F0 ρ s.fr f) (hcs : Stk ρ lo s.cs cs) (rel : Rel ρ O D s.h w) : ∃ c : Nat, ∀ r, astep P pl (some c) s = some r → Has base r → Steps1 P m X ρ O D base (gor f (cs ++ base)) w r := by
  obtain ⟨o, ho⟩ : ∃ o : Option Oper, ∀ ops i l k, s.fr.todo = .region ops (i :: l) :: k → o = ops[i]? := by
    by_cases h : ∃ ops i l k, s.fr.todo = .region ops (i :: l) :: k
    · obtain ⟨ops, i, l, k, h⟩ := h
      exact ⟨ops[i]?, fun ops' i' l' k' h' => by rw [h] at h'; cases h'; rfl⟩
    · exact ⟨none, fun ops i l k h' => absurd ⟨ops, i, l, k, h'⟩ h⟩
  obtain ⟨c, hc⟩ : ∃ c : Nat, ∀ o', o = some o' → ∀ {n : Next} {h' : AH}, aexec P (some c) s.h s.fr.tmps o' = some (n, h') → Out P X D NR ρ O s.h w (execOp f.eval o') n h' := by
    cases o with
    | none => exact ⟨0, fun o' h => by cases h⟩
    | some o =>
      obtain ⟨c, k⟩ := aexec_out (X := X) (P := P) rel (o := o) (fun hk => eval_of hf.tmps hk)
      refine ⟨c, fun o' h' => ?_⟩
      cases h'
      intro n h' e
      exact k e
  refine ⟨c, fun r e hb => ?_⟩
  generalize hc₀ : c = c₀ at e
  subst hc₀
  unfold astep at e
  have hmode := hf.mode
  have hround := hf.round
  have htodo := hf.todo
  cases hret : s.fr.ret with
  | true =>
    rw [hret] at e hmode
    have hm : f.mode = .returning := hmode
    dsimp only at e
    unfold aunwind at e
    have hd := hf.defers
    obtain ⟨fn, tmps, todo, defers, mode, kind, ro⟩ := f
    dsimp only at hd hm
    subst hm
    split at e
    · rename_i lb args ds hdef
      rw [hdef] at hd
      cases hd with
      | @cons _ d' _ ds' hdd hds =>
        obtain ⟨ht, ha⟩ := hdd
        obtain ⟨tg, args'⟩ := d'
        dsimp only at ht ha
        cases ht with
        | @collected _ lb' hlb =>
          split at e
          · rename_i calls h₁ hx
            cases e
            obtain ⟨τ, calls', w', es, h1, h2, h3, h4, h5, h8, h9⟩ := out_of (X := X) ((sr_takeDeferred hlb).sim0 rel hx) fn
            refine ⟨τ, gor ⟨fn, tmps, todo, calls' ++ ds', .returning, kind, ro⟩ (cs ++ base), w', seen P fn es, ?_, h2, h3, ⟨⟨lo, _, cs, Nat.le_trans hlo h8, rfl, .plain ?_, hcs.mono h3 (fun x hx => h9 x (by omega)) (Nat.le_refl _)⟩, h5⟩⟩
            · rw [stepG_ret rfl]
              simp only [unwind, h1]
              rw [after_go]
              rfl
            · have hf' := hf.mono h3
              exact ⟨⟨hf'.fn, h4.append (hds.mono fun _ _ x => x.mono h3), hf'.mode, hf'.kind, hf'.round⟩, hf'.tmps, hf'.todo⟩
          · cases e
    · cases e
    · rename_i hdef
      rw [hdef] at hd
      cases hd
      split at e
      · cases e
      · rename_i fd hfd
        split at e
        · rename_i v h₁ hx
          obtain ⟨τ, v', w', es, h1, h2, h3, h4, h5, h8, h9⟩ := out_of (X := X) ((sr_results fd hf.tmps).sim0 rel hx) fn
          obtain ⟨hdk, e⟩ := aret_dk e
          obtain ⟨g', h6, h7⟩ := doReturn_r (P := P) (m := m) (base := base) (f := ⟨fn, tmps, todo, [], .returning, kind, ro⟩) (hf.normal hdk) (Nat.le_trans hlo h8) (hcs.mono h3 (fun x hx => h9 x (by omega)) (Nat.le_refl _)) h4 h5 hb e
          refine ⟨τ, g', w', seen P fn es, ?_, h2, h3, h7⟩
          have hfn : fn = s.fr.fn := hf.fn
          rw [stepG_ret rfl]
          simp only [unwind, hfn, hfd]
          dsimp only at h1
          rw [h1]
          dsimp only
          rw [hfn] at h6
          rw [h6, after_go]
        · cases e
  | false =>
    rw [hret] at e hmode
    have hm : f.mode = .run := hmode
    dsimp only at e
    obtain ⟨fn, tmps, todo, defers, mode, kind, ro⟩ := f
    dsimp only at htodo hround hm
    subst hm
    cases ht : s.fr.todo with
    | nil =>
      rw [ht] at e htodo
      cases htodo
      exact leave_sim hf hlo hcs rel (hb := hb) (by simp only [stepG.exec]; cases ro <;> rfl) e rfl
    | cons it k =>
      rw [ht] at e htodo
      cases htodo with
      | @cons _ it' _ k' hi hl =>
        cases hi with
        | inBlock id => exact to_sim hf hlo hcs rel rfl e hl (by simp only [stepG.exec]; rfl)
        | inScope x => exact to_sim hf hlo hcs rel rfl e hl (by simp only [stepG.exec]; rfl)
        | inLoop x => exact to_sim hf hlo hcs rel rfl e (.cons (.code _) (.cons (.inLoop _) hl)) (by simp only [stepG.exec]; rfl)
        | code x =>
          cases x with
          | ret => exact leave_sim hf hlo hcs rel (hb := hb) (by simp only [stepG.exec]; cases ro <;> rfl) e rfl
          | skip => exact to_sim hf hlo hcs rel rfl e hl (by simp only [stepG.exec]; rfl)
          | label l => exact to_sim hf hlo hcs rel rfl e hl (by simp only [stepG.exec]; rfl)
          | seq x y => exact to_sim hf hlo hcs rel rfl e (.cons (.code _) (.cons (.code _) hl)) (by simp only [stepG.exec]; rfl)
          | block id x => exact to_sim hf hlo hcs rel rfl e (.cons (.code _) (.cons (.inBlock _) hl)) (by simp only [stepG.exec]; rfl)
          | loop x => exact to_sim hf hlo hcs rel rfl e (.cons (.code _) (.cons (.inLoop _) hl)) (by simp only [stepG.exec]; rfl)
          | scope x => exact to_sim hf hlo hcs rel rfl e (.cons (.code _) (.cons (.inScope _) hl)) (by simp only [stepG.exec]; rfl)
          | cond x a b' =>
            dsimp only at e
            split at e
            · rename_i hk
              have hv := cond_r hf.tmps hk
              split at e
              · rename_i t hx
                rw [hx] at hv
                refine to_sim hf hlo hcs rel rfl e (.cons (.code _) hl) ?_
                simp only [stepG.exec]
                generalize Frame.eval _ x = v at hv
                cases hv
                rfl
              · cases e
            · cases e
          | exit id =>
            have hx := exitTo_r hl id
            dsimp only at e
            split at e
            · rename_i k₁ h₁
              rw [h₁] at hx
              generalize h₂ : exitTo id k' = z at hx
              cases hx with
              | some hx => exact to_sim hf hlo hcs rel rfl e hx (by simp only [stepG.exec, h₂]; rfl)
            · rename_i h₁
              rw [h₁] at hx
              generalize h₂ : exitTo id k' = z at hx
              cases hx
              exact leave_sim hf hlo hcs rel (hb := hb) (by simp only [stepG.exec, h₂]; cases ro <;> rfl) e rfl
          | goto l =>
            have hx := gotoIn_r hl l
            dsimp only at e
            split at e
            · rename_i k₁ h₁
              rw [h₁] at hx
              generalize h₂ : gotoIn l k' = z at hx
              cases hx with
              | some hx => exact to_sim hf hlo hcs rel rfl e hx (by simp only [stepG.exec, h₂]; rfl)
            · rename_i h₁
              rw [h₁] at hx
              generalize h₂ : gotoIn l k' = z at hx
              cases hx
              exact leave_sim hf hlo hcs rel (hb := hb) (by simp only [stepG.exec, h₂]; cases ro <;> rfl) e rfl
          | region id ops d =>
            cases d with
            | true =>
              dsimp only at e
              split at e
              · rename_i hp
                simp only [Bool.and_eq_true] at hp
                simp only [ato, Option.some.injEq] at e
                subst e
                have hst : stepG P m (gor ⟨fn, tmps, .code (.region id ops true) :: k', defers, .run, kind, ro⟩ (cs ++ base)) w = .go (gor ⟨fn, tmps, .inRegion ops (Region.schedule true ops (w.tape w.drawn (.order fn id))) :: k', defers, .run, kind, ro⟩ (cs ++ base)) { w with drawn := w.drawn + 1 } #[] := by
                  rw [stepG_run rfl]
                  simp only [stepG.exec, hp.2]
                  rfl
                refine ⟨ρ, _, _, #[], hst, guar_drawn _, .refl ρ, ⟨⟨lo, _, cs, hlo, rfl, ?_, hcs⟩, (rel.drawn _).mono fun _ => .inl⟩⟩
                exact start_fd ((okPlanF_eq _ _).symm.trans hp.1) hret (f := ⟨fn, tmps, .code (.region id ops true) :: k', defers, .run, kind, ro⟩) (a := s.fr) ⟨hf.fn, hf.defers, hf.mode, hf.kind, hf.round⟩ hf.tmps hl _
              · cases e
            | false => exact to_sim hf hlo hcs rel rfl e (.cons (.region _ _) hl) (by simp only [stepG.exec]; rfl)
          | rangeFunc x params assign body =>
            dsimp only at e
            split at e
            · rename_i hk
              have hv := cond_r hf.tmps hk
              split at e
              · rename_i gf first captured hx
                split at e
                · rename_i lp mark h₁ hen
                  obtain ⟨τ, y, w₁, es, h1, h2, h3, h4, h5, h8, h9⟩ := out_of (X := X) ((sr_enterLoop s.fr.fn hf.tmps params assign body hround).sim0 rel hen) fn
                  obtain ⟨lp', mark'⟩ := y
                  obtain ⟨hlp, hmark⟩ := h4
                  dsimp only at hlp hmark
                  have hf' := hf.mono h3
                  have hcs' : Stk τ lo s.cs cs := hcs.mono h3 (fun x hx => h9 x (by omega)) (Nat.le_refl _)
                  have hfF : F0 τ { s.fr with todo := .inRangeFunc lp :: k, defers := mark ++ s.fr.defers } ⟨fn, tmps, .inRangeFunc lp' :: k', mark' ++ defers, .run, kind, ro⟩ :=
                    ⟨⟨hf'.fn, hmark.append hf'.defers, hf'.mode, hf'.kind, hf'.round⟩, hf'.tmps, .cons (.inRangeFunc hlp) (hl.mono fun _ _ z => z.mono h3)⟩
                  rw [hx] at hv
                  have hst : stepG P m (gor ⟨fn, tmps, .code (.rangeFunc x params assign body) :: k', defers, .run, kind, ro⟩ (cs ++ base)) w = GStep.after (seen P fn es) (stepG.apply P true ⟨fn, tmps, .inRangeFunc lp' :: k', mark' ++ defers, .run, kind, ro⟩ (cs ++ base) none (do let d ← resolve (Frame.eval ⟨fn, tmps, .code (.rangeFunc x params assign body) :: k', defers, .run, kind, ro⟩) { callee := .value x, args := #[.const (.func (.yield lp') #[] #[])], argTypes := #[] } 0; invoke d.target d.args) w₁) := by
                    rw [stepG_run rfl]
                    have hfn : s.fr.fn = fn := hf.fn.symm
                    rw [hfn] at h1
                    dsimp only at h1
                    simp only [stepG.exec, h1]
                    rfl
                  generalize hfe : Frame.eval ⟨fn, tmps, .code (.rangeFunc x params assign body) :: k', defers, .run, kind, ro⟩ x = v at hv
                  cases hv with
                  | @func _ _ a₁ a₂ b₁ b₂ hfn hs1 hv1 hs2 hv2 =>
                    cases hfn
                    have hres : (do let d ← resolve (Frame.eval ⟨fn, tmps, .code (.rangeFunc x params assign body) :: k', defers, .run, kind, ro⟩) { callee := .value x, args := #[.const (.func (.yield lp') #[] #[])], argTypes := #[] } 0; invoke d.target d.args : Sem Next) = callFunc gf ((a₂ ++ #[.func (.yield lp') #[] #[]]) ++ b₂) := by
                      unfold resolve
                      dsimp only
                      rw [hfe]
                      simp only [List.map_toArray, List.map_cons, List.map_nil]
                      rfl
                    rw [hres] at hst
                    cases har : (callFunc gf ((first ++ #[.func (.yield lp) #[] #[]]) ++ captured)).ar P none h₁ with
                    | none => rw [har] at e; cases e
                    | some p =>
                      obtain ⟨n, h'⟩ := p
                      rw [har] at e
                      have hargs : AR (VR τ) ((first ++ #[.func (.yield lp) #[] #[]]) ++ captured) ((a₂ ++ #[.func (.yield lp') #[] #[]]) ++ b₂) := by
                        refine AR.append (AR.append ⟨hs1, fun i u v hu hv => (hv1 i u v hu hv).mono h3⟩ ?_) ⟨hs2, fun i u v hu hv => (hv2 i u v hu hv).mono h3⟩
                        exact AR.empty.push (.func (.yield hlp) rfl (fun i x y h => by simp at h) rfl (fun i x y h => by simp at h))
                      have k₂ := (sr_callFunc (P := P) gf hargs).sim0 (X := X) h5 har
                      obtain ⟨υ, g', w', es', i1, i2, i3, i4⟩ := apply_r (base := base) (.plain hfF) (Nat.le_trans hlo h8) hcs' e k₂
                      refine ⟨υ, g', w', seen P fn es ++ es', ?_, h2.trans i2, h3.trans i3, i4.mono fun z hz => Go.Ren.grow_trans hz h2.size i2.size⟩
                      rw [hst, i1]
                      rfl
                · cases e
              · cases e
            · cases e
          | refuse why => cases e
        | region ops l =>
          cases l with
          | nil => exact to_sim hf hlo hcs rel rfl e hl (by simp only [stepG.exec]; rfl)
          | cons i l =>
            dsimp only at e
            have ho' := ho ops i l k ht
            split at e
            · rename_i o' hoi
              have hoo : o = some o' := by rw [ho', hoi]
              have hy := yielded_r (ops := ops) hf.tmps
              dsimp only at hy
              split at e
              · rename_i hw
                have hst : stepG P m (gor ⟨fn, tmps, .inRegion ops (i :: l) :: k', defers, .run, kind, ro⟩ (cs ++ base)) w = stepG.apply P true ⟨fn, tmps, .inRegion ops (i :: l) :: k', defers, .run, kind, ro⟩ (cs ++ base) none (execOp (Frame.eval ⟨fn, tmps, .inRegion ops (i :: l) :: k', defers, .run, kind, ro⟩) o') w := by
                  rw [stepG_run rfl]
                  simp only [stepG.exec, hoi, Option.map_some, Option.getD_some]
                  rw [hy, if_pos hw]
                  simp only [stepG.oper, Frame.oper?, hoi]
                  have hnd : ∀ q, o'.op ≠ .defer q := by
                    cases hx : aexec P (some c) s.h s.fr.tmps o' with
                    | none => rw [hx] at e; simp [aapply] at e
                    | some p => exact aexec_nd hx
                  split
                  · rename_i hdf; exact absurd hdf (hnd _)
                  · rfl
                cases hx : aexec P (some c) s.h s.fr.tmps o' with
                | none => rw [hx] at e; simp [aapply] at e
                | some p =>
                  obtain ⟨n, h'⟩ := p
                  rw [hx] at e
                  have k := hc o' hoo hx
                  obtain ⟨τ, g', w', es, h1, h2, h3, h4⟩ := apply_r (X := X) (.plain hf) hlo hcs e k
                  exact ⟨τ, g', w', es, by rw [hst, h1], h2, h3, h4⟩
              · rename_i hw
                simp only [Option.map_eq_some_iff] at e
                obtain ⟨a', e1, rfl⟩ := e
                refine ctl ?_ (afinish_r hf vr_undef e1) hlo hcs rel
                rw [stepG_run rfl]
                simp only [stepG.exec, hoi, Option.map_some, Option.getD_some]
                rw [hy, if_neg hw]
                rfl
            · cases e
        | inRangeFunc hl' => cases e
        | @endRangeFunc lp lp' hlp =>
          dsimp only at e
          split at e
          · rename_i jump h₁ hx
            cases e
            obtain ⟨τ, j', w', es, h1, h2, h3, h4, h5, h8, h9⟩ := out_of (X := X) ((sr_endLoop hlp).sim0 rel hx) fn
            cases h4
            have hst : stepG P m (gor ⟨fn, tmps, .endRangeFunc lp' :: k', defers, .run, kind, ro⟩ (cs ++ base)) w = .go (gor ⟨fn, tmps, (jump.map Item.code).toList ++ k', defers, .run, kind, ro⟩ (cs ++ base)) w' (seen P fn es) := by
              rw [stepG_run rfl]
              simp only [stepG.exec, h1]
              rw [after_go]
              rfl
            refine ⟨τ, _, w', _, hst, h2, h3, ⟨⟨lo, _, cs, Nat.le_trans hlo h8, rfl, .plain ((hf.mono h3).withTodo ?_), hcs.mono h3 (fun x hx => h9 x (by omega)) (Nat.le_refl _)⟩, h5⟩⟩
            have hl' := hl.mono fun _ _ (x : ItR ρ _ _) => x.mono h3
            cases jump with
            | none => exact hl'
            | some c => exact .cons (.code c) hl'
          · cases e
        | beginRound =>
          dsimp only at e
          cases har : s.fr.round with
          | none => rw [har] at e; cases e
          | some lp =>
            rw [har] at e hround
            cases hround with
            | @some _ lp' hlp =>
              dsimp only at e
              split at e
              · rename_i u h₁ hx
                cases e
                rw [← har]
                have hout : Out P X D NR ρ O s.h w ((some lp').elim (Go.stuck "beginRound: no round") Instr.beginRound >>= fun _ => Pure.pure Next.skip) Next.skip h₁ := by
                  refine (SR.unit (sr_beginRound hlp)).sim0 rel ?_
                  show ((Instr.beginRound lp).bind fun _ => Sem.pure Next.skip).ar P none s.h = _
                  exact ar_bind_pure _ _ _ _ hx
                have e' : aapply P s.fr s.cs (some (Next.skip, h₁)) = some (Res.go { s with fr := { s.fr with todo := k }, h := h₁ }) := by
                  simp only [aapply, afinish, ht, Option.map_some]
                obtain ⟨τ, g', w', es, h1, h2, h3, h4⟩ := apply_r (X := X) (.plain hf) hlo hcs e' hout
                refine ⟨τ, g', w', es, ?_, h2, h3, h4⟩
                rw [stepG_run rfl]
                simp only [stepG.exec]
                exact h1
              · cases e
end
end Go.Am
end
