/- A part of the proof that the frame keeps its roots: lemmas on which it leans. -/
import Derived.Test.YtfchamaikodjpaaGreatH23
section
set_option linter.unusedVariables false
set_option linter.unusedSectionVars false
set_option linter.unusedSimpArgs false
namespace Go.Am
open Go.Conc (born QuitsD G scase rcase)
open Go.Conc.Lib
open Go.ConcR (WgAt)
open Go.Ren (grow EvO Guar Rely Wk WkD Idle IdleD X0 XS XM Lv WRel WSend WSnd WSkip hearing MAdd MGo MWait M1 Anch Spawns PhI At Leads Keep full Own Fr FinF)
def forgetTr (h : AH) : List Nat → Tr Blk
  | [] => .nil
  | b :: l => match h.look b with
    | some B => (forgetTr h l).set b B
    | none => forgetTr h l
def inFam (t : Tr Blk) (f b : Nat) : Bool := match t.get b with
  | some B => B.fam == some f
  | none => false
def forgetFams (h : AH) (t : Tr Blk) : List Nat → Tr (List Nat)
  | [] => .nil
  | b :: l => match h.look b with
    | some B => match B.fam with
      | some f => match h.fams.get f with
        | some bl => (forgetFams h t l).set f (bl.filter (inFam t f))
        | none => forgetFams h t l
      | none => forgetFams h t l
    | none => forgetFams h t l
def AH.forget (l : List Nat) (h : AH) : AH := ⟨h.n, forgetTr h l, forgetFams h (forgetTr h l) l⟩
theorem forgetTr_get {h : AH} : ∀ (l : List Nat) {b : Nat} {B : Blk}, (forgetTr h l).get b = some B → h.look b = some B
  | [], b, B, e => by cases e
  | c :: l, b, B, e => by
    unfold forgetTr at e
    split at e
    · rename_i C hC
      rw [Tr.get_set] at e
      split at e
      · rename_i hb; subst hb; cases e; exact hC
      · exact forgetTr_get l e
    · exact forgetTr_get l e
theorem forgetFams_get {h : AH} {t : Tr Blk} : ∀ (l : List Nat) {f : Nat} {m : List Nat}, (forgetFams h t l).get f = some m → ∃ bl, h.fams.get f = some bl ∧ m = bl.filter (inFam t f)
  | [], f, m, e => by cases e
  | c :: l, f, m, e => by
    unfold forgetFams at e
    split at e
    · split at e
      · split at e
        · rename_i bl hbl
          rw [Tr.get_set] at e
          split at e
          · rename_i hb; subst hb; cases e; exact ⟨bl, hbl, rfl⟩
          · exact forgetFams_get l e
        · exact forgetFams_get l e
      · exact forgetFams_get l e
    · exact forgetFams_get l e
section
variable {P : Program} {ρ σ : Env} {O O' D : Nat → Prop} {F W U Z Z' : Nat → Prop} {N : Nat} {h h' : AH} {w w' w₀ : World} {mm : Bool} {base cs : List Frame} {a a' : AFr} {f : Frame} {lo hi : Nat} {ops : Array Oper} {i : Nat} {o : Oper} {s s' s₀ : AS} {pl : Plan} {g g' : Goroutine}
  {L : WgLink} {wg ch gb cb j cap : Nat} {buf : List Value} {cl : Bool} {R : AS → Prop} {FinP : Machine → Outcome → World → Trace → Prop} {m : Machine} {t : Trace}
theorem forget_look {l : List Nat} {b : Nat} {B : Blk} (e : (h.forget l).look b = some B) : h.look b = some B := forgetTr_get l (look_tr e)
theorem Rel.forget (l : List Nat) (r : Rel ρ O D h w) : Rel ρ O D (h.forget l) w := by
  refine r.sub (Nat.le_refl _) (fun b B e => ⟨B, forget_look e, rfl, rfl, rfl, fun x => ⟨x, id⟩, id⟩) (fun b B e => ⟨B, look_tr (forgetTr_get l e), rfl⟩) (fun f m e => ?_) fun f m b e hb => ?_
  · obtain ⟨bl, h1, rfl⟩ := forgetFams_get l e
    exact ⟨bl, h1, List.filter_sublist⟩
  · obtain ⟨bl, h1, rfl⟩ := forgetFams_get l e
    have := (List.mem_filter.1 hb).2
    unfold inFam at this
    split at this
    · rename_i B hB
      exact ⟨B, hB, by simpa using this⟩
    · cases this
def notDrawn (a : AFr) : Bool := match a.todo with
  | .drawn .. :: _ => false
  | _ => true
theorem Sim.forget {D : Nat → Prop} (l : List Nat) (S : Sim P ρ O D base s g w) (hd : notDrawn s.fr = true) : Sim P ρ O D base ⟨s.fr, s.cs, s.h.forget l⟩ g w := by
  obtain ⟨⟨lo, f, cs, h1, h2, h3, h4⟩, rel⟩ := S
  refine ⟨⟨lo, f, cs, h1, h2, .plain (h3.f0 fun ops l k e => ?_), h4⟩, rel.forget l⟩
  unfold notDrawn at hd
  rw [e] at hd
  cases hd
theorem Sd.forget (l : List Nat) (S : Sd P base F w₀ W U Z N ρ s g w m t) (hd : notDrawn s.fr = true) : Sd P base F w₀ W U Z N ρ ⟨s.fr, s.cs, s.h.forget l⟩ g w m t :=
  ⟨⟨S.st.at_, S.st.sim.forget l hd, S.st.lt⟩, S.wu, S.fz, S.fwu, S.keep⟩
def beqEnt (a b : MapEntry) : Bool := beqV 9 a.key b.key && beqV 9 a.val b.val && a.born == b.born
def beqEnts : List MapEntry → List MapEntry → Bool
  | [], [] => true
  | a :: l, b :: m => beqEnt a b && beqEnts l m
  | _, _ => false
def beqObj : Obj → Obj → Bool
  | .cells c e f, .cells c' e' f' => beqV 9 (.agg c) (.agg c') && e == e' && f == f'
  | .map es k, .map es' k' => beqEnts es.toList es'.toList && k == k'
  | _, _ => false
def beqLook : Option Blk → Option Blk → Bool
  | none, none => true
  | some A, some B => beqObj A.obj B.obj && A.fam == B.fam && A.ro == B.ro && A.u == B.u
  | _, _ => false
def agree (h h' : AH) : List Nat → Bool
  | [] => h.n == h'.n
  | b :: l => beqLook (h.look b) (h'.look b) && (match h.look b with
    | some B => match B.fam with
      | some f => h.fams.get f == h'.fams.get f
      | none => true
    | none => true) && agree h h' l
theorem beqEnts_eq : ∀ {l m : List MapEntry}, beqEnts l m = true → l = m
  | [], [], _ => rfl
  | a :: l, b :: m, h => by
    unfold beqEnts at h
    rw [Bool.and_eq_true] at h
    obtain ⟨h1, h2⟩ := h
    unfold beqEnt at h1
    simp only [Bool.and_eq_true, beq_iff_eq] at h1
    obtain ⟨⟨k1, k2⟩, k3⟩ := h1
    obtain ⟨ak, av, ab⟩ := a
    obtain ⟨bk, bv, bb⟩ := b
    rw [beqEnts_eq h2]
    have e1 := beqV_eq _ _ _ k1
    have e2 := beqV_eq _ _ _ k2
    dsimp only at e1 e2 k3
    subst e1 e2 k3
    rfl
  | [], _ :: _, h => by cases h
  | _ :: _, [], h => by cases h
theorem beqObj_eq {a b : Obj} (h : beqObj a b = true) : a = b := by
  unfold beqObj at h
  split at h
  · simp only [Bool.and_eq_true, beq_iff_eq] at h
    obtain ⟨⟨h1, rfl⟩, rfl⟩ := h
    have := beqV_eq _ _ _ h1
    cases this
    rfl
  · simp only [Bool.and_eq_true, beq_iff_eq] at h
    obtain ⟨h1, rfl⟩ := h
    rw [Array.ext' (beqEnts_eq h1)]
  · cases h
theorem beqLook_eq {a b : Option Blk} (h : beqLook a b = true) : a = b := by
  unfold beqLook at h
  split at h
  · rfl
  · rename_i A B
    simp only [Bool.and_eq_true, beq_iff_eq] at h
    obtain ⟨⟨⟨h1, h2⟩, h3⟩, h4⟩ := h
    obtain ⟨a1, a2, a3, a4⟩ := A
    obtain ⟨b1, b2, b3, b4⟩ := B
    have := beqObj_eq h1
    dsimp only at this h2 h3 h4
    subst this h2 h3 h4
    rfl
  · cases h
theorem agree_n : ∀ {l : List Nat}, agree h h' l = true → h.n = h'.n
  | [], e => by unfold agree at e; simpa using e
  | b :: l, e => by unfold agree at e; simp only [Bool.and_eq_true] at e; exact agree_n e.2
theorem agree_tr : ∀ {l : List Nat}, agree h h' l = true → forgetTr h l = forgetTr h' l
  | [], e => rfl
  | b :: l, e => by
    unfold agree at e
    simp only [Bool.and_eq_true] at e
    unfold forgetTr
    rw [beqLook_eq e.1.1, agree_tr e.2]
theorem agree_fams {t : Tr Blk} : ∀ {l : List Nat}, agree h h' l = true → forgetFams h t l = forgetFams h' t l
  | [], e => rfl
  | b :: l, e => by
    unfold agree at e
    simp only [Bool.and_eq_true] at e
    obtain ⟨⟨e1, e2⟩, e3⟩ := e
    have e4 := beqLook_eq e1
    unfold forgetFams
    rw [← e4]
    cases hb : h.look b with
    | none => exact agree_fams e3
    | some B =>
      rw [hb] at e2
      dsimp only at e2 ⊢
      cases hf : B.fam with
      | none => exact agree_fams e3
      | some f =>
        rw [hf] at e2
        dsimp only at e2 ⊢
        rw [beq_iff_eq] at e2
        rw [e2, agree_fams e3]
theorem agree_forget {l : List Nat} (e : agree h h' l = true) : h.forget l = h'.forget l := by
  unfold AH.forget
  rw [agree_n e, agree_tr e, agree_fams e]
end
end Go.Am
end
section
set_option linter.unusedVariables false
set_option linter.unusedSectionVars false
set_option linter.unusedSimpArgs false
namespace Go.Am
open Go.Conc (born QuitsD G scase rcase)
open Go.Conc.Lib
open Go.ConcR (WgAt)
open Go.Ren (grow EvO Guar Rely Wk WkD Idle IdleD X0 XS XM Lv WRel WSend WSnd WSkip hearing MAdd MGo MWait M1 Anch Spawns PhI At Leads Keep full Own Fr FinF)
inductive Ph where
  | idle
  | chan (cb cap : Nat)
  | ready (cb cap gb : Nat)
  | joined (cb cap : Nat) (vs : List Value)
  | closed (cb cap : Nat) (vs : List Value)
def merge (P : Program) (c : AFr) (cs : List AFr) (l : List Nat) : List (Value × AH) → Option AS
  | [] => none
  | (v, h) :: r => match afinish P c h v with
    | some a => if notDrawn a && notDrawn c && r.all (fun x => beqV 9 x.1 v && agree h x.2 l) then some ⟨a, cs, h.forget l⟩ else none
    | none => none
section
variable {P : Program} {ρ σ : Env} {O O' D : Nat → Prop} {F W U Z Z' : Nat → Prop} {N : Nat} {h h' : AH} {w w' w₀ : World} {mm : Bool} {base cs : List Frame} {a a' : AFr} {f : Frame} {lo hi : Nat} {ops : Array Oper} {i : Nat} {o : Oper} {s s' s₀ : AS} {pl : Plan} {g g' : Goroutine}
  {L : WgLink} {wg ch gb cb j cap : Nat} {buf : List Value} {cl : Bool} {R : AS → Prop} {FinP : Machine → Outcome → World → Trace → Prop} {m : Machine} {t : Trace} {c : AFr} {cs' : List AFr}
def Ph.Holds (L : WgLink) (F W U Z : Nat → Prop) (ρ : Env) (w : World) : Ph → Prop
  | .idle => True
  | .chan cb cap => ∃ ch, U ch ∧ Chn F W Z ρ w cb cap [] false ch
  | .ready cb cap gb => ∃ ch wg, U ch ∧ U wg ∧ wg ≠ ch ∧ Z wg ∧ ρ.born gb ∧ ρ.to gb = (wg, 0) ∧ WgAt L.tWg wg w 0 0 ∧ Chn F W Z ρ w cb cap [] false ch
  | .joined cb cap vs => (U = fun _ => False) ∧ ∃ ch buf, buf.Perm vs ∧ Chn F W Z ρ w cb cap buf false ch
  | .closed cb cap vs => (U = fun _ => False) ∧ ∃ ch buf, buf.Perm vs ∧ Chn F W Z ρ w cb cap buf true ch
theorem Ph.Holds.step {ph : Ph} (k : ph.Holds L F W U Z ρ w) (hle : ρ.Le σ) (hk : Keep Z w w') : ph.Holds L F W U Z σ w' := by
  cases ph with
  | idle => trivial
  | chan cb cap => obtain ⟨ch, h1, h2⟩ := k; exact ⟨ch, h1, h2.step hle hk fun b hb => hb⟩
  | ready cb cap gb =>
    obtain ⟨ch, wg, h1, h2, h3, h4, h5, h6, h7, h8⟩ := k
    exact ⟨ch, wg, h1, h2, h3, h4, hle.born _ h5, (hle.to _ h5).trans h6, (hk.1 wg h4).trans h7, h8.step hle hk fun b hb => hb⟩
  | joined cb cap vs => obtain ⟨h0, ch, buf, h1, h2⟩ := k; exact ⟨h0, ch, buf, h1, h2.step hle hk fun b hb => hb⟩
  | closed cb cap vs => obtain ⟨h0, ch, buf, h1, h2⟩ := k; exact ⟨h0, ch, buf, h1, h2.step hle hk fun b hb => hb⟩
def Stand (P : Program) (L : WgLink) (base : List Frame) (F : Nat → Prop) (w₀ : World) (ph : Ph) (s : AS) (m : Machine) (t : Trace) : Prop :=
  ∃ (W U Z : Nat → Prop) (N : Nat) (ρ : Env) (g : Goroutine) (w : World), Sd P base F w₀ W U Z N ρ s g w m t ∧ ph.Holds L F W U Z ρ w
theorem Stand.reach [Zeros P] {ph : Ph} (S : Stand P L base F w₀ ph s m t) (k : AReach P pl (· = s') s) : Leads P FinP (Stand P L base F w₀ ph s') m t := by
  obtain ⟨W, U, Z, N, ρ, g, w, S, hp⟩ := S
  refine (S.reach k).mono ?_
  rintro m t ⟨σ, s₁, g', w', rfl, h1, h2, h3⟩
  exact ⟨W, U, Z, N, σ, g', w', h2, hp.step h1 h3⟩
theorem Stand.forget (l : List Nat) {ph : Ph} (S : Stand P L base F w₀ ph s m t) (hd : notDrawn s.fr = true) : Stand P L base F w₀ ph ⟨s.fr, s.cs, s.h.forget l⟩ m t := by
  obtain ⟨W, U, Z, N, ρ, g, w, S, hp⟩ := S
  exact ⟨W, U, Z, N, ρ, g, w, S.forget l hd, hp⟩
theorem afinish_plain {h h' : AH} {v : Value} (hd : notDrawn c = true) : afinish P c h v = afinish P c h' v := by
  unfold notDrawn at hd
  unfold afinish
  split at hd
  · cases hd
  · rename_i hn
    split <;> first | rfl | skip
    rename_i ht
    exact absurd ht (hn _ _ _)
theorem merge_some {l : List Nat} {r : List (Value × AH)} (e : merge P c cs' l r = some s') : ∀ x ∈ r, ∃ a, afinish P c x.2 x.1 = some a ∧ notDrawn a = true ∧ s' = ⟨a, cs', x.2.forget l⟩ := by
  cases r with
  | nil => cases e
  | cons y r =>
    obtain ⟨v, h⟩ := y
    unfold merge at e
    dsimp only at e
    split at e
    · rename_i a ha
      split at e
      · rename_i hc
        cases e
        simp only [Bool.and_eq_true, List.all_eq_true] at hc
        obtain ⟨⟨h1, h2⟩, h3⟩ := hc
        intro x hx
        rcases List.mem_cons.1 hx with rfl | hx
        · exact ⟨a, ha, h1, rfl⟩
        · obtain ⟨e1, e2⟩ := h3 x hx
          have e3 := beqV_eq _ _ _ e1
          refine ⟨a, ?_, h1, ?_⟩
          · rw [e3, afinish_plain (h' := h) h2]
            exact ha
          · rw [agree_forget e2]
      · cases e
    · cases e
def Back (P : Program) (b : Frame) (bs : List Frame) (F : Nat → Prop) (w₀ : World) (v : Value) (m : Machine) (t : Trace) : Prop :=
  ∃ (W U Z : Nat → Prop) (N : Nat) (w : World), At P W U Z N 0 (gor (b.finish v) bs) w m t ∧ (∀ x, W x ∨ U x → Z x) ∧ (∀ x, F x → Z x) ∧ (∀ x, F x → ¬ (W x ∨ U x)) ∧ Keep F w₀ w ∧ ∀ x, Z x → x < w.heap.size
end
end Go.Am
end
section
set_option linter.unusedVariables false
set_option linter.unusedSectionVars false
set_option linter.unusedSimpArgs false
namespace Go.Am
open Go.Conc (born QuitsD G scase rcase)
open Go.Conc.Lib
open Go.ConcR (WgAt)
open Go.Ren (grow EvO Guar Rely Wk WkD Idle IdleD X0 XS XM Lv WRel WSend WSnd WSkip hearing MAdd MGo MWait M1 Anch Spawns PhI At Leads Keep full Own Fr FinF)
section
variable {P : Program} {ρ σ : Env} {O O' D : Nat → Prop} {F W U Z Z' : Nat → Prop} {N : Nat} {h h' : AH} {w w' w₀ : World} {mm : Bool} {base cs : List Frame} {a a' : AFr} {f : Frame} {lo hi : Nat} {ops : Array Oper} {i : Nat} {o : Oper} {s s' s₀ : AS} {pl : Plan} {g g' : Goroutine}
  {L : WgLink} {wg ch gb cb j cap : Nat} {buf : List Value} {cl : Bool} {R : AS → Prop} {FinP : Machine → Outcome → World → Trace → Prop} {m : Machine} {t : Trace} {c : AFr} {cs' : List AFr} {fid : FuncId} {v : Value}
structure ACallV (P : Program) (fid : FuncId) (v : Value) (s s' : AS) : Prop where
  run : s.fr.ret = false
  round : s.fr.round = none
  at_ : ∃ ops i l k o ats a', s.fr.todo = .region ops (i :: l) :: k ∧ ops[i]? = some o ∧ Region.wanted o (yielded ops s.fr.tmps) = true ∧ operOk o = true ∧ o.op = .call { callee := .value (.func fid), args := #[], argTypes := ats } ∧
    afinish P s.fr s.h v = some a' ∧ s' = ⟨a', s.cs, s.h⟩
theorem sim_enter0 (O D : Nat → Prop) (base : List Frame) (w : World) : Sim P env0 O D base ⟨AFr.enter P fid #[], [], h0⟩ (gor (Frame.enter P fid #[] .normal) base) w :=
  ⟨⟨0, _, [], Nat.le_refl _, rfl, .plain (enter_r fid ⟨rfl, fun i u v hu hv => by simp at hu⟩), .nil⟩, rel_h0 _ _ _⟩
end
end Go.Am
end
section
set_option linter.unusedVariables false
set_option linter.unusedSectionVars false
set_option linter.unusedSimpArgs false
namespace Go.Am
noncomputable section
def nth {α : Type} : List α → Nat → Option α := fun l => List.rec (fun _ => none) (fun x _ ih n => Nat.rec (some x) (fun n _ => ih n) n) l
def rep (v : Value) (n : Nat) : List Value := Nat.rec [] (fun _ ih => v :: ih) n
def app (l m : List Value) : List Value := List.rec m (fun x _ ih => x :: ih) l
structure Ctx where
  fn : FuncId
  defers : List Deferred
  round : Option Nat
  dk : Bool
  cs : List AFr
def mk (todo : List AItem) (c : Ctx) (tmps : List Value) (h : AH) : AS := ⟨⟨c.fn, ⟨tmps⟩, todo, c.defers, false, c.round, c.dk⟩, c.cs, h⟩
abbrev K := Ctx → List Value → AH → Option AS
def kGo (todo : List AItem) : K := fun c tmps h => some (mk todo c tmps h)
def kNo : K := fun _ _ _ => none
def enterL (P : Program) (f : FuncId) (args : List Value) (fn : Func) (c : Ctx) (todo : List AItem) (tmps : List Value) (h : AH) : Option AS :=
  some ⟨⟨f, ⟨app args (rep undef (fn.ntmps - args.length))⟩, [.code (fn.body.getD (.refuse "unsupported: a function without a Go body is entered"))], [], false, none, false⟩, ⟨c.fn, ⟨tmps⟩, todo, c.defers, false, c.round, c.dk⟩ :: c.cs, h⟩
def enterK (P : Program) (f : FuncId) (args : Array Value) (c : Ctx) (todo : List AItem) (tmps : List Value) (h : AH) : Option AS :=
  Option.rec none (fun fn => enterL P f args.toList fn c todo tmps h) P.funcs[f]?
def condK (a b : K) (x : Operand) : K := fun c tmps h => match x with
  | .tmp t => match nth tmps t with
    | some (.bool v) => Bool.rec (b c tmps h) (a c tmps h) v
    | _ => none
  | _ => none
end
end Go.Am
end
section
set_option linter.unusedVariables false
set_option linter.unusedSectionVars false
set_option linter.unusedSimpArgs false
namespace Go.Am
section
variable {P : Program} {h h' : AH}
theorem ar_bind {α β : Type} (s : Sem α) (f : α → Sem β) : ∀ (h : AH) {x : α} {h' : AH}, s.ar P none h = some (x, h') → (s.bind f).ar P none h = (f x).ar P none h' := by
  induction s with
  | pure a => intro h x h' e; cases e; rfl
  | load m a k ih =>
    intro h x h' e
    simp only [Sem.bind]
    rw [Sem.ar.eq_def] at e
    conv => lhs; rw [Sem.ar.eq_def]
    dsimp only at e ⊢
    generalize h.cell a = q at e ⊢
    cases q with
    | none => cases e
    | some v =>
      cases m with
      | plain => exact ih v _ e
      | atomic => cases e
  | store m a v k ih =>
    intro h x h' e
    cases v <;> cases m <;> simp only [Sem.bind, Sem.ar] at e ⊢ <;> first | (cases e; done) | skip
    all_goals
      split at e
      · exact ih _ e
      · cases e
  | new o k ih =>
    intro h x h' e
    simp only [Sem.bind, Sem.ar] at e ⊢
    split at e <;> first | (cases e; done) | exact ih _ _ e
  | shape r k ih =>
    intro h x h' e
    simp only [Sem.bind, Sem.ar] at e ⊢
    split at e <;> first | (cases e; done) | exact ih _ _ e
  | getObj r k ih =>
    intro h x h' e
    simp only [Sem.bind, Sem.ar] at e ⊢
    split at e <;> first | (cases e; done) | exact ih _ _ e
  | setObj r o k ih =>
    intro h x h' e
    simp only [Sem.bind, Sem.ar] at e ⊢
    split at e
    · cases e
    · cases e
    · rename_i B _ hnc hq
      split at e
      · cases e
      · rename_i hro
        rw [if_neg hro]
        exact ih _ e
    · cases e
  | choose q k ih =>
    intro h x h' e
    rw [Sem.ar.eq_def] at e
    simp only [Sem.bind]
    conv => lhs; rw [Sem.ar.eq_def]
    dsimp only at e ⊢
    split at e
    · rename_i hq; rw [if_pos hq]; exact ih _ _ e
    · cases q <;> cases e
  | program k ih => intro h x h' e; simp only [Sem.bind, Sem.ar] at e ⊢; exact ih _ _ e
  | _ => intro h x h' e; cases e
theorem ar_bnd {α β : Type} {s : Sem α} {f : α → Sem β} {x : α} (e : s.ar P none h = some (x, h')) : (s >>= f).ar P none h = (f x).ar P none h' := ar_bind s f h e
theorem ar_pure' {α : Type} (a : α) : (pure a : Sem α).ar P none h = some (a, h) := rfl
theorem ar_info {t : TypeId} {d : TypeInfo} (e : P.info? t = some d) : (typeInfo t).ar P none h = some (d, h) := by
  show (match P.info? t with | some d => _ | none => _ : Sem TypeInfo).ar P none h = _
  rw [e]
  rfl
theorem ar_size {t : TypeId} {d : TypeInfo} (e : P.info? t = some d) : (sizeOf t).ar P none h = some (d.size, h) := by
  unfold sizeOf
  rw [ar_bnd (ar_info e)]
  rfl
theorem ar_zero {t : TypeId} {z : Value} (e : zeroOf P t = some z) : (zeroValue t).ar P none h = some (z, h) := by
  unfold zeroOf at e
  cases hi : P.info? t with
  | none => rw [hi] at e; cases e
  | some i =>
    rw [hi] at e
    have e' : i.zero = some z := e
    unfold zeroValue
    rw [ar_bnd (ar_info hi), e']
    rfl
theorem ro_bind {α β : Type} (s : Sem α) (f : α → Sem β) : ∀ {x : α}, s.aro P h = some x → (s.bind f).aro P h = (f x).aro P h := by
  induction s with
  | pure a => intro x e; cases e; rfl
  | load m a k ih =>
    intro x e
    simp only [Sem.bind]
    rw [Sem.aro.eq_def] at e
    conv => lhs; rw [Sem.aro.eq_def]
    dsimp only at e ⊢
    generalize h.cell a = q at e ⊢
    cases q with
    | none => cases e
    | some v =>
      cases m with
      | plain => exact ih v e
      | atomic => cases e
  | shape r k ih =>
    intro x e
    simp only [Sem.bind, Sem.aro] at e ⊢
    split at e <;> first | (cases e; done) | exact ih _ e
  | getObj r k ih =>
    intro x e
    simp only [Sem.bind, Sem.aro] at e ⊢
    split at e <;> first | (cases e; done) | exact ih _ e
  | choose q k ih =>
    intro x e
    simp only [Sem.bind, Sem.aro] at e ⊢
    split at e
    · rename_i hq; rw [if_pos hq]; exact ih _ e
    · cases e
  | program k ih => intro x e; simp only [Sem.bind, Sem.aro] at e ⊢; exact ih _ e
  | _ => intro x e; cases e
theorem ro_bnd {α β : Type} {s : Sem α} {f : α → Sem β} {x : α} (e : s.aro P h = some x) : (s >>= f).aro P h = (f x).aro P h := ro_bind s f e
theorem ro_pure' {α : Type} (a : α) : (pure a : Sem α).aro P h = some a := rfl
theorem ro_under {t : TypeId} {d : TypeDesc} (e : P.underlying t = some d) : (underlying t).aro P h = some d := by
  show (match P.underlying t with | some d => _ | none => _ : Sem TypeDesc).aro P h = _
  rw [e]
  rfl
theorem ro_info {t : TypeId} {d : TypeInfo} (e : P.info? t = some d) : (typeInfo t).aro P h = some d := by
  show (match P.info? t with | some d => _ | none => _ : Sem TypeInfo).aro P h = _
  rw [e]
  rfl
theorem ro_size {t : TypeId} {d : TypeInfo} (e : P.info? t = some d) : (sizeOf t).aro P h = some d.size := by
  unfold sizeOf
  rw [ro_bnd (ro_info e)]
  rfl
theorem ro_zero {t : TypeId} {z : Value} (e : zeroOf P t = some z) : (zeroValue t).aro P h = some z := by
  unfold zeroOf at e
  cases hi : P.info? t with
  | none => rw [hi] at e; cases e
  | some i =>
    rw [hi] at e
    have e' : i.zero = some z := e
    unfold zeroValue
    rw [ro_bnd (ro_info hi), e']
    rfl
end
end Go.Am
end
section
set_option linter.unusedVariables false
set_option linter.unusedSectionVars false
set_option linter.unusedSimpArgs false
namespace Go.Am
structure TI where
  size : Nat
  und : TypeDesc
  zero : Option Value
  places : List (Nat × Nat)
noncomputable section
def fAlloc (T : Tr TI) (h : AH) (t : Nat) : Option (Value × AH) := match T.get t with
  | some ⟨_, _, some z, _⟩ => some (.pointer (some ⟨h.n, 0, none⟩), h.new (.cells z.cells t (0, 0)))
  | _ => none
def fBox (h : AH) (t : Nat) (x : Option Value) : Option (Value × AH) := match x with
  | some v => some (.pointer (some ⟨h.n, 0, none⟩), h.new (.cells v.cells t (0, 0)))
  | none => none
def evF (tmps : List Value) (x : Operand) : Option Value := match x with
  | .tmp t => nth tmps t
  | .const v => bif plainV 9 v then some v else none
  | .func f => some (.func (.func f) #[] #[])
  | .global _ => none
def isAggT (d : TypeDesc) : Bool := match d with
  | .struct _ | .array _ _ => true
  | _ => false
def takeL : Nat → List Value → Option (List Value) := fun n => Nat.rec (fun _ => some []) (fun _ ih l => match l with
  | x :: l => match ih l with
    | some m => some (x :: m)
    | none => none
  | [] => none) n
def dropL : Nat → List Value → List Value := fun n => Nat.rec (fun l => l) (fun _ ih l => ih l.tail) n
def fMove (tmps : List Value) (h : AH) (x : Operand) : Option Value := match evF tmps x with
  | some v => some v
  | none => none
def fField (T : Tr TI) (h : AH) (s f : Nat) (v : Option Value) : Option Value := match v with
  | some (.pointer (some a)) => match T.get s with
    | some ⟨_, .struct fields, _, _⟩ => match nth fields.toList f with
      | some fd => match T.get fd.type with
        | some ⟨sz, _, _, _⟩ => bif Nat.beq sz 0 then none else some (.pointer (some (a.add fd.offset)))
        | none => none
      | none => none
    | _ => none
  | _ => none
def cellF (h : AH) (a : Addr) : Option Value := match a, h.look a.block with
  | ⟨_, off, none⟩, some ⟨.cells c _ _, _, _, _⟩ => nth c.toList off
  | _, _ => none
def aggF (h : AH) (a : Addr) (n : Nat) : Option Value := match a, h.look a.block with
  | ⟨_, off, none⟩, some ⟨.cells c _ _, _, _, _⟩ => match takeL n (dropL off c.toList) with
    | some l => some (.agg ⟨l⟩)
    | none => none
  | _, _ => none
def fLoad (T : Tr TI) (h : AH) (t : Nat) (v : Option Value) : Option Value := match v with
  | some (.pointer (some a)) => match T.get t with
    | some ⟨sz, d, _, _⟩ => match bif isAggT d then aggF h a sz else cellF h a with
      | some v => some v
      | none => none
    | none => none
  | _ => none
def intF (op : BinOp) (k : IntKind) (a b : Int) : Option Value := match op with
  | .add => some (.int k (k.wrap (a + b)))
  | .sub => some (.int k (k.wrap (a - b)))
  | .eql => some (.bool (decide (a = b)))
  | .neq => some (.bool (decide (a ≠ b)))
  | .lss => some (.bool (decide (a < b)))
  | .leq => some (.bool (decide (a ≤ b)))
  | .gtr => some (.bool (decide (a > b)))
  | .geq => some (.bool (decide (a ≥ b)))
  | _ => none
def fBin (h : AH) (op : BinOp) (x y : Option Value) : Option Value := match x, y with
  | some (.int k a), some (.int k' b) => if k = k' then match intF op k a b with
    | some v => some v
    | none => none else none
  | _, _ => none
def fNot (h : AH) (x : Option Value) : Option Value := match x with
  | some (.bool b) => some (.bool (!b))
  | _ => none
def fExtract (h : AH) (i : Nat) (x : Option Value) : Option Value := match x with
  | some (.tuple vs) => match nth vs.toList i with
    | some v => some v
    | none => none
  | _ => none
def fPick (h : AH) (c a b : Option Value) : Option Value := match c with
  | some (.bool t) => match a, b with
    | some u, some v => some (bif t then u else v)
    | _, _ => none
  | _ => none
def fIndex (T : Tr TI) (h : AH) (t : Nat) (x i : Option Value) : Option Value := match x, i with
  | some (.slice (some a) len _), some (.int k n) => match T.get t with
    | some ⟨_, .slice e, _, _⟩ => match T.get e with
      | some ⟨sz, _, _, _⟩ => if 0 ≤ n ∧ n < len then some (.pointer (some (a.add (n.toNat * sz)))) else none
      | none => none
    | _ => none
  | some (.pointer (some a)), some (.int k n) => match T.get t with
    | some ⟨_, .array len e, _, _⟩ => match T.get e with
      | some ⟨sz, _, _, _⟩ => if 0 ≤ n ∧ n < len then some (.pointer (some (a.add (n.toNat * sz)))) else none
      | none => none
    | _ => none
  | _, _ => none
def fLen (h : AH) (x : Option Value) : Option Value := match x with
  | some (.slice _ n _) => some (.int .i64 n)
  | _ => none
def setK {β : Type} (v : Value) (l : List Value) : Nat → (List Value → β) → β :=
  List.rec (fun _ k => k []) (fun x l ih n k => Nat.rec (k (v :: l)) (fun n _ => ih n fun l' => k (x :: l')) n) l
def cellsL (v : Value) : List Value := match v with
  | .agg c => c.toList
  | v => [v]
def splK {β : Type} (vs : List Value) : Nat → List Value → (List Value → β) → β :=
  List.rec (fun _ cells k => k cells) (fun v _ ih off cells k => setK v cells off fun cells => ih (off + 1) cells k) vs
def fillK (pl : List (Nat × Nat)) (tmps : List Value) (ps : List (Nat × Operand)) : List Value → Option Value :=
  List.rec (fun cells => some (.agg ⟨cells⟩)) (fun p _ ih cells => match evF tmps p.2 with
    | some v => match nth pl p.1 with
      | some q => bif Nat.beq (cellsL v).length q.2 && Nat.ble (q.1 + q.2) cells.length then splK (cellsL v) q.1 cells ih else none
      | none => none
    | none => none) ps
def fBuild (T : Tr TI) (tmps : List Value) (t : Nat) (ps : List (Nat × Operand)) : Option Value := match T.get t with
  | some ⟨_, .struct _, some z, pl⟩ => fillK pl tmps ps z.cells.toList
  | _ => none
def fast (T : Tr TI) (tmps : List Value) (h : AH) (op : Op) : Option Value := match op with
  | .move x => fMove tmps h x
  | .assign x => fMove tmps h x
  | .fieldAddr s x f => fField T h s f (evF tmps x)
  | .load t x => fLoad T h t (evF tmps x)
  | .binOp op _ x y _ => fBin h op (evF tmps x) (evF tmps y)
  | .unOp .not _ x => fNot h (evF tmps x)
  | .extract x i => fExtract h i (evF tmps x)
  | .pick c a b => fPick h (evF tmps c) (evF tmps a) (evF tmps b)
  | .indexAddr t x i => fIndex T h t (evF tmps x) (evF tmps i)
  | .build t ps => fBuild T tmps t ps.toList
  | .call ⟨.builtin .len, args, ats⟩ => match args.toList with
    | [x] => match ats.toList with
      | t :: _ => match T.get t with
        | some ⟨_, .slice _, _, _⟩ => fLen h (evF tmps x)
        | _ => none
      | [] => none
    | _ => none
  | _ => none
end
structure TabOk (P : Program) (T : Tr TI) : Prop where
  get : ∀ t i, T.get t = some i → P.underlying t = some i.und ∧ (∃ d, P.info? t = some d ∧ d.size = i.size) ∧ zeroOf P t = i.zero ∧ ∀ fields, i.und = .struct fields → fields.toList.map (fun f => (f.offset, P.cellsOf f.type)) = i.places ∧ ∀ f ∈ fields.toList, ∃ d, P.info? f.type = some d
section
variable {P : Program} {T : Tr TI} {tmps : List Value} {h h' : AH} {o : Oper} {v : Value} {x : Operand}
theorem nth_eq {α : Type} : ∀ (l : List α) (n : Nat), nth l n = l[n]?
  | [], n => by simp [nth]
  | x :: l, 0 => rfl
  | x :: l, n + 1 => by
    have := nth_eq l n
    show nth l n = _
    simp [this]
theorem nth_arr {α : Type} (l : List α) (n : Nat) : nth l n = (Array.mk l)[n]? := by rw [nth_eq]; simp
theorem getD_nth (l : List Value) (t : Nat) (e : nth l t = some v) : (Array.mk l).getD t undef = v := by
  rw [nth_arr] at e
  simp [Array.getD_eq_getD_getElem?, e]
def okX (x : Operand) : Bool := match x with
  | .const v => plainV 9 v
  | .global _ => false
  | _ => true
theorem evF_some (e : evF tmps x = some v) : aeval ⟨tmps⟩ x = v ∧ okX x = true := by
  unfold evF at e
  cases x with
  | tmp t => exact ⟨getD_nth _ _ e, rfl⟩
  | const u =>
    dsimp only at e
    cases hp : plainV 9 u with
    | false => rw [hp] at e; cases e
    | true => rw [hp] at e; cases e; exact ⟨rfl, hp⟩
  | func f => cases e; exact ⟨rfl, rfl⟩
  | global g => cases e
theorem operOk_of (hx : ∀ x ∈ o.op.operands, okX x = true) : operOk o = true := by
  unfold operOk
  rw [List.all_eq_true]
  intro x hm
  have := hx x (Array.mem_toList_iff.1 hm)
  cases x <;> exact this
theorem rexec_of {s : Sem Value} (hop : ∀ x ∈ o.op.operands, okX x = true) (hok : opOk P h (aeval ⟨tmps⟩) o = true) (hs : execOp (aeval ⟨tmps⟩) o = (s >>= fun v => Pure.pure (Next.value v))) (hr : s.aro P h = some v) :
    (operOk o && opOk P h (aeval ⟨tmps⟩) o) = true ∧ (execOp (aeval ⟨tmps⟩) o).aro P h = some (.value v) := by
  refine ⟨by rw [operOk_of hop, hok]; rfl, ?_⟩
  rw [hs, ro_bnd hr]
  rfl
theorem aexec_of {s : Sem Value} (hap : isAppend o = false) (hop : ∀ x ∈ o.op.operands, okX x = true) (hok : opOk P h (aeval ⟨tmps⟩) o = true) (hs : execOp (aeval ⟨tmps⟩) o = (s >>= fun v => Pure.pure (Next.value v))) (hr : s.ar P none h = some (v, h')) :
    aexec P none h ⟨tmps⟩ o = some (.value v, h') := by
  unfold aexec
  rw [hap, operOk_of hop, hok, hs]
  simp only [Bool.false_eq_true, if_false, Bool.and_self, if_true]
  rw [ar_bnd hr]
  rfl
theorem aexec_ro (hap : isAppend o = false) (hr : (operOk o && opOk P h (aeval ⟨tmps⟩) o) = true ∧ (execOp (aeval ⟨tmps⟩) o).aro P h = some (.value v)) : aexec P none h ⟨tmps⟩ o = some (.value v, h) := by
  unfold aexec
  rw [hap, hr.1]
  simp only [Bool.false_eq_true, if_false, if_true]
  exact aro_ar _ hr.2
theorem lightVal_ro (hr : (operOk o && opOk P h (aeval ⟨tmps⟩) o) = true ∧ (execOp (aeval ⟨tmps⟩) o).aro P h = some (.value v)) : lightVal P h ⟨tmps⟩ o = some v := by
  unfold lightVal
  rw [hr.1, hr.2]
  rfl
end
end Go.Am
end
