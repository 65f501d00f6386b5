/- A part of the proof that the frame keeps its roots: lemmas on which it leans. -/
import Derived.Conc.CrowdTrace
import Derived.Conc.JoinTrace
import Derived.Test.YtfchamaikodjpaaGreatH1
section
set_option linter.unusedVariables false
set_option linter.unusedSectionVars false
set_option linter.unusedSimpArgs false
namespace Go.Ren
open Go.Conc hiding mem_ofEvents
open Go.ConcN (PermW)
def inB (S : Nat → Prop) : Loc → Prop
  | .cell a => S a.block
  | .obj r => S r
  | _ => False
theorem inB_low {S : Nat → Prop} {B : Nat} (h : ∀ b, S b → b < B) {l : Loc} (hl : inB S l) : l.low B ∧ l.isMemory = true := by
  cases l <;> first | exact ⟨h _ hl, rfl⟩ | exact hl.elim
theorem inB_both {S T : Nat → Prop} {l : Loc} (h : inB S l) (k : inB T l) : ∃ b, S b ∧ T b := by
  cases l <;> first | exact ⟨_, h, k⟩ | exact h.elim
structure TI (W : Nat → Prop) (O D : Nat → Nat → Prop) (n B : Nat) (t : Trace) : Prop where
  quiet : Quiet (inB W) t
  own : ∀ i, i < n → ∀ l, inB (O i) l → Perm t i l
  rd : ∀ i, i < n → ∀ l, inB (D i) l → PermW t i l
  nr : ∀ said, ¬ Race said t
  gs : ∀ (i : Nat) (op : MemOp), t[i]? = some op → op.g < n
  low : ∀ op ∈ t, op.act.low B
structure Own (W : Nat → Prop) (O D : Nat → Nat → Prop) (n B : Nat) : Prop where
  oo : ∀ i j b, i < n → j < n → O i b → O j b → i = j
  od : ∀ i j b, i < n → j < n → O i b → ¬ D j b
  ow : ∀ i b, i < n → O i b → ¬ W b
  dw : ∀ i b, i < n → D i b → ¬ W b
  olt : ∀ i b, i < n → O i b → b < B
  dlt : ∀ i b, i < n → D i b → b < B
  wlt : ∀ b, W b → b < B
section
variable {W : Nat → Prop} {O D : Nat → Nat → Prop} {n B B' : Nat} {t u : Trace}
def XOk (W : Nat → Prop) (i : Nat) (e : Event) : Prop := ∀ x, (MemAct.ofEvent e).touch? = some x → inB W x.loc ∧ x.kind ≠ .plain ∧ (x.kind = .said → i = 0)
def with_ (O : Nat → Nat → Prop) (i B B' : Nat) : Nat → Nat → Prop := fun j b => O j b ∨ (j = i ∧ B ≤ b ∧ b < B')
theorem Own.grow (h : Own W O D n B) {i : Nat} (hi : i < n) (hB : B ≤ B') : Own W (with_ O i B B') D n B' := by
  refine ⟨?_, ?_, ?_, fun j b hj hd => h.dw j b hj hd, ?_, fun j b hj hd => Nat.lt_of_lt_of_le (h.dlt j b hj hd) hB, fun b hb => Nat.lt_of_lt_of_le (h.wlt b hb) hB⟩
  · rintro j k b hj hk (h1 | ⟨rfl, h1, h2⟩) (h3 | ⟨rfl, h3, h4⟩)
    · exact h.oo j k b hj hk h1 h3
    · have := h.olt j b hj h1; omega
    · have := h.olt k b hk h3; omega
    · rfl
  · rintro j k b hj hk (h1 | ⟨rfl, h1, h2⟩) hd
    · exact h.od j k b hj hk h1 hd
    · have := h.dlt k b hk hd; omega
  · rintro j b hj (h1 | ⟨rfl, h1, h2⟩) hw
    · exact h.ow j b hj h1 hw
    · have := h.wlt b hw; omega
  · rintro j b hj (h1 | ⟨rfl, h1, h2⟩)
    · exact Nat.lt_of_lt_of_le (h.olt j b hj h1) hB
    · exact h2
theorem perm_new (hl : ∀ op ∈ t, op.act.low B) {l : Loc} (h : ¬ l.low B) (hm : l.isMemory = true) (g : Nat) : Perm t g l := by
  intro i a ha e
  obtain ⟨x, hx, hxa⟩ := touch_of ha
  have := hl x (Array.mem_of_getElem? hx)
  exfalso
  apply h
  rw [← e]
  obtain ⟨g', fn, pos, act⟩ := x
  dsimp only at hxa this
  cases act with
  | access e => simp only [MemAct.touch?, Option.some.injEq] at hxa; subst hxa; exact this
  | mark m =>
    cases m <;> simp only [MemAct.touch?, Option.some.injEq, reduceCtorEq] at hxa
    all_goals (subst hxa; exact this)
  | _ => cases hxa
theorem TI.step (h : TI W O D n B t) (w : Own W O D n B) {i : Nat} (hi : i < n) (hB : B ≤ B') {X : Event → Prop} (hX : ∀ e, X e → XOk W i e) {es : Array Event} {fn : FuncId} {pos : String}
    (hes : ∀ e ∈ es, EvO X B' (fun b => with_ O i B B' i b) (D i) e) : TI W (with_ O i B B') D n B' (t ++ MemOp.ofEvents i fn pos es) := by
  have w' := w.grow hi hB
  have hg : ∀ op ∈ MemOp.ofEvents i fn pos es, op.g = i := fun op hop => by obtain ⟨e, _, rfl⟩ := Go.Conc.mem_ofEvents hop; rfl
  have touch : ∀ op ∈ MemOp.ofEvents i fn pos es, ∀ x, op.act.touch? = some x → (inB W x.loc ∧ x.kind ≠ .plain ∧ (x.kind = .said → i = 0)) ∨ inB (with_ O i B B' i) x.loc ∨ (inB (D i) x.loc ∧ x.write = false) ∨ x.loc.isMemory = false := by
    intro op hop x hx
    obtain ⟨e, he, rfl⟩ := Go.Conc.mem_ofEvents hop
    rcases hes e he with hk | hk
    · exact .inl (hX e hk.1 x hx)
    · obtain ⟨loc, wr, sy⟩ := e
      cases loc with
      | cell a =>
        simp only [MemAct.ofEvent, MemAct.touch?, Option.some.injEq] at hx
        subst hx
        rcases hk with hk | ⟨h1, h2⟩
        · exact .inr (.inl hk)
        · exact .inr (.inr (.inl ⟨h1, h2⟩))
      | obj r =>
        have : x.loc = .obj r ∧ (wr = false → x.write = false) := by
          cases wr <;> cases sy <;> simp only [MemAct.ofEvent, MemAct.touch?, Option.some.injEq, reduceCtorEq] at hx
          all_goals (subst hx; first | exact ⟨rfl, fun _ => rfl⟩ | exact ⟨rfl, fun h => by cases h⟩)
        rw [this.1]
        rcases hk with hk | ⟨h1, h2⟩
        · exact .inr (.inl hk)
        · exact .inr (.inr (.inl ⟨h1, this.2 h2⟩))
      | mark m =>
        have hm : okMark m = true := hk
        cases m <;> first | (simp [MemAct.ofEvent, MemAct.touch?] at hx; done) | cases hm
      | output =>
        simp only [MemAct.ofEvent, MemAct.touch?, Option.some.injEq] at hx
        subst hx
        exact .inr (.inr (.inr rfl))
      | _ => exact absurd hk id
  refine ⟨h.quiet.app fun op hop x hx hs => ?_, fun j hj l hl => ?_, fun j hj l hl => ?_, fun said => ?_, fun k op hop => ?_, fun op hop => ?_⟩
  · rcases touch op hop x hx with ⟨_, h2, h3⟩ | h2 | ⟨h2, _⟩ | h2
    · exact ⟨h2, fun e => (hg op hop).trans (h3 e)⟩
    · obtain ⟨b, h3, h4⟩ := inB_both h2 hs; exact absurd h4 (w'.ow i b hi h3)
    · obtain ⟨b, h3, h4⟩ := inB_both h2 hs; exact absurd h4 (w'.dw i b hi h3)
    · have := (inB_low w.wlt hs).2; rw [h2] at this; cases this
  · have hp : Perm t j l := by
      by_cases ho : inB (O j) l
      · exact h.own j hj l ho
      · refine perm_new h.low (fun hlow => ho ?_) (inB_low (fun b hb => w'.olt j b hj hb) hl).2 j
        cases l with
        | cell a => rcases hl with hl | ⟨_, h1, _⟩; exact hl; exact absurd hlow (by simp [Loc.low]; omega)
        | obj r => rcases hl with hl | ⟨_, h1, _⟩; exact hl; exact absurd hlow (by simp [Loc.low]; omega)
        | _ => exact hl
    refine hp.app fun op hop x hx e => ?_
    rw [hg op hop]
    rcases touch op hop x hx with ⟨h2, _⟩ | h2 | ⟨h2, _⟩ | h2
    · rw [e] at h2; obtain ⟨b, h3, h4⟩ := inB_both hl h2; exact absurd h4 (w'.ow j b hj h3)
    · rw [e] at h2; obtain ⟨b, h3, h4⟩ := inB_both hl h2; exact w'.oo i j b hi hj h4 h3
    · rw [e] at h2; obtain ⟨b, h3, h4⟩ := inB_both hl h2; exact absurd h4 (w'.od j i b hj hi h3)
    · rw [e] at h2; have := (inB_low (fun b hb => w'.olt j b hj hb) hl).2; rw [h2] at this; cases this
  · refine (h.rd j hj l hl).app fun op hop x hx e hw => ?_
    exfalso
    rcases touch op hop x hx with ⟨h2, _⟩ | h2 | ⟨_, h2⟩ | h2
    · rw [e] at h2; obtain ⟨b, h3, h4⟩ := inB_both hl h2; exact w'.dw j b hj h3 h4
    · rw [e] at h2; obtain ⟨b, h3, h4⟩ := inB_both hl h2; exact w'.od i j b hi hj h4 h3
    · rw [h2] at hw; cases hw
    · rw [e] at h2; have := (inB_low (fun b hb => w'.dlt j b hj hb) hl).2; rw [h2] at this; cases this
  · refine noRace_append (h.nr said) hg fun k a ha op hop b hb hc => ?_
    rcases touch op hop b hb with ⟨h1, h2, h3⟩ | h2 | ⟨h2, h3⟩ | h2
    · exact h.quiet.known h1 h2 (fun e => h3 e) k a ha hc
    · have hp : Perm t i b.loc := by
        by_cases ho : inB (O i) b.loc
        · exact h.own i hi _ ho
        · refine perm_new h.low (fun hlow => ho ?_) (inB_low (fun b hb => w'.olt i b hi hb) h2).2 i
          revert h2 hlow
          cases b.loc with
          | cell a => intro h2 hlow; rcases h2 with h2 | ⟨_, h1, _⟩; exact h2; exact absurd hlow (by simp [Loc.low]; omega)
          | obj r => intro h2 hlow; rcases h2 with h2 | ⟨_, h1, _⟩; exact h2; exact absurd hlow (by simp [Loc.low]; omega)
          | _ => intro h2; exact h2.elim
      exact hp k a ha hc.1
    · exact h.rd i hi _ h2 k a ha hc.1 (hc.2.2.1.resolve_right (by simp [h3]))
    · have := hc.2.1; rw [hc.1] at this; rw [h2] at this; cases this
  · rcases getElem?_append_cases hop with ⟨_, h1⟩ | ⟨_, h1⟩
    · exact h.gs k op h1
    · rw [hg op h1]; exact hi
  · rcases Array.mem_append.1 hop with h1 | h1
    · exact MemAct.low_mono hB (h.low op h1)
    · obtain ⟨e, he, rfl⟩ := Go.Conc.mem_ofEvents h1
      rcases hes e he with hk | hk
      · exact hk.2
      · obtain ⟨loc, wr, sy⟩ := e
        cases loc with
        | cell a =>
          rcases hk with hk | ⟨h1, _⟩
          · exact w'.olt i _ hi hk
          · exact w'.dlt i _ hi h1
        | obj r =>
          have : r < B' := by
            rcases hk with hk | ⟨h1, _⟩
            · exact w'.olt i _ hi hk
            · exact w'.dlt i _ hi h1
          cases wr <;> cases sy <;> exact this
        | mark m =>
          have hm : okMark m = true := hk
          cases m <;> first | trivial | cases hm
        | output => trivial
        | _ => exact absurd hk id
def forkO (O : Nat → Nat → Prop) (n : Nat) (M H : Nat → Prop) (j b : Nat) : Prop := if j = 0 then O 0 b ∧ ¬ M b ∧ ¬ H b else if j = n then H b else O j b
def forkD (D : Nat → Nat → Prop) (n : Nat) (M N : Nat → Prop) (j b : Nat) : Prop := if j = 0 then D 0 b ∨ M b else if j = n then N b else D j b
theorem Own.fork (w : Own W O D n B) (hn : 0 < n) {M H N : Nat → Prop} (hM : ∀ b, M b → O 0 b) (hH : ∀ b, H b → O 0 b ∧ ¬ M b) (hN : ∀ b, N b → D 0 b ∨ M b) : Own W (forkO O n M H) (forkD D n M N) (n + 1) B := by
  have down : ∀ j b, j < n + 1 → forkO O n M H j b → (j < n ∧ O j b ∧ ¬ M b ∧ (j = 0 → ¬ H b)) ∨ (j = n ∧ H b) := by
    intro j b hj h
    unfold forkO at h
    split at h
    · rename_i e; subst e; exact .inl ⟨hn, h.1, h.2.1, fun _ => h.2.2⟩
    · rename_i e
      split at h
      · rename_i e'; exact .inr ⟨e', h⟩
      · refine .inl ⟨by omega, h, fun hm => ?_, fun e' => absurd e' e⟩
        exact e (w.oo j 0 b (by omega) hn h (hM b hm))
  have dn : ∀ j b, j < n + 1 → forkD D n M N j b → ∃ k, k < n ∧ (D k b ∨ M b) := by
    intro j b hj h
    unfold forkD at h
    split at h
    · exact ⟨0, hn, h⟩
    · split at h
      · exact ⟨0, hn, hN b h⟩
      · exact ⟨j, by omega, .inl h⟩
  refine ⟨fun i j b hi hj h k => ?_, fun i j b hi hj h k => ?_, fun i b hi h => ?_, fun i b hi h => ?_, fun i b hi h => ?_, fun i b hi h => ?_, w.wlt⟩
  · rcases down i b hi h with ⟨i1, i2, i3, i4⟩ | ⟨i1, i2⟩ <;> rcases down j b hj k with ⟨j1, j2, j3, j4⟩ | ⟨j1, j2⟩
    · exact w.oo i j b i1 j1 i2 j2
    · have := w.oo i 0 b i1 hn i2 (hH b j2).1; exact absurd j2 (i4 this)
    · have := w.oo j 0 b j1 hn j2 (hH b i2).1; exact absurd i2 (j4 this)
    · omega
  · obtain ⟨a, ha, hk⟩ := dn j b hj k
    rcases down i b hi h with ⟨i1, i2, i3, i4⟩ | ⟨i1, i2⟩
    · rcases hk with hk | hk
      · exact w.od i a b i1 ha i2 hk
      · exact i3 hk
    · rcases hk with hk | hk
      · exact w.od 0 a b hn ha (hH b i2).1 hk
      · exact (hH b i2).2 hk
  · rcases down i b hi h with ⟨i1, i2, _⟩ | ⟨i1, i2⟩
    · exact w.ow i b i1 i2
    · exact w.ow 0 b hn (hH b i2).1
  · obtain ⟨a, ha, hk⟩ := dn i b hi h
    rcases hk with hk | hk
    · exact w.dw a b ha hk
    · exact w.ow 0 b hn (hM b hk)
  · rcases down i b hi h with ⟨i1, i2, _⟩ | ⟨i1, i2⟩
    · exact w.olt i b i1 i2
    · exact w.olt 0 b hn (hH b i2).1
  · obtain ⟨a, ha, hk⟩ := dn i b hi h
    rcases hk with hk | hk
    · exact w.dlt a b ha hk
    · exact w.olt 0 b hn (hM b hk)
theorem touch_fork {x y : MemOp} {n : Nat} (hx : x.act = .go n) (hy : y.act = .start) {op : MemOp} (h : op ∈ #[x, y]) : op.act.touch? = none := by
  simp only [List.mem_toArray, List.mem_cons, List.not_mem_nil, or_false] at h
  rcases h with rfl | rfl
  · rw [hx]; rfl
  · rw [hy]; rfl
theorem inB_mono {S T : Nat → Prop} (h : ∀ b, S b → T b) {l : Loc} (hl : inB S l) : inB T l := by
  cases l <;> first | exact h _ hl | exact hl.elim
theorem inB_or {S T U : Nat → Prop} (h : ∀ b, S b → T b ∨ U b) {l : Loc} (hl : inB S l) : inB T l ∨ inB U l := by
  cases l <;> first | exact h _ hl | exact hl.elim
theorem TI.fork (h : TI W O D n B t) (hn : 0 < n) {x y : MemOp} (hx : x.g = 0 ∧ x.act = .go n) (hy : y.g = n ∧ y.act = .start) (h0 : Go.Conc.Deaf t 0 = 0)
    {M H N : Nat → Prop} (hM : ∀ b, M b → O 0 b) (hH : ∀ b, H b → O 0 b ∧ ¬ M b) (hN : ∀ b, N b → D 0 b ∨ M b) : TI W (forkO O n M H) (forkD D n M N) (n + 1) B (t ++ #[x, y]) := by
  have hk : Go.Conc.Deaf t n = 0 := Go.ConcN.Deaf_absent fun i op hi e => by have := h.gs i op hi; omega
  have hnt : ∀ op ∈ #[x, y], ∀ b, op.act.touch? = some b → False := fun op hop b hb => by rw [touch_fork hx.2 hy.2 hop] at hb; cases hb
  have old : ∀ {i : Nat} {a : Touch}, touchAt (t ++ #[x, y]) i = some a → touchAt t i = some a := by
    intro i a ha
    obtain ⟨z, hz, hza⟩ := touch_of ha
    rcases getElem?_append_cases hz with ⟨_, hz'⟩ | ⟨_, hzu⟩
    · rw [touchAt_of hz']; exact hza
    · exact (hnt z hzu a hza).elim
  have up : ∀ j l, Perm t j l → Perm (t ++ #[x, y]) j l := fun j l hp => hp.app fun op hop b hb _ => (hnt op hop b hb).elim
  have upW : ∀ j l, PermW t j l → PermW (t ++ #[x, y]) j l := fun j l hp => hp.app fun op hop b hb _ _ => (hnt op hop b hb).elim
  refine ⟨h.quiet.app fun op hop b hb _ => (hnt op hop b hb).elim, fun j hj l hl => ?_, fun j hj l hl => ?_, fun said => ?_, fun i op hi => ?_, fun op hop => ?_⟩
  · by_cases j0 : j = 0
    · subst j0
      exact up 0 l (h.own 0 hn l (inB_mono (fun b hb => by simp only [forkO, if_true] at hb; exact hb.1) hl))
    · by_cases jn : j = n
      · subst jn
        have : inB (O 0) l := inB_mono (fun b hb => by simp only [forkO, if_neg j0, if_true] at hb; exact (hH b hb).1) hl
        exact fun i a ha e => Go.ConcN.fork_knows hx hy h0 hk (h.own 0 hn l this i a (old ha) e)
      · exact up j l (h.own j (by omega) l (inB_mono (fun b hb => by simp only [forkO, if_neg j0, if_neg jn] at hb; exact hb) hl))
  · have key : inB (D 0) l ∨ inB M l → PermW t 0 l := by
      rintro (x | x)
      · exact h.rd 0 hn l x
      · exact PermW.of (h.own 0 hn l (inB_mono hM x))
    by_cases j0 : j = 0
    · subst j0
      exact upW 0 l (key (inB_or (fun b hb => by simp only [forkD, if_true] at hb; exact hb) hl))
    · by_cases jn : j = n
      · subst jn
        have : inB (D 0) l ∨ inB M l := inB_or (fun b hb => by simp only [forkD, if_neg j0, if_true] at hb; exact hN b hb) hl
        exact fun i a ha e hw => Go.ConcN.fork_knows hx hy h0 hk (key this i a (old ha) e hw)
      · exact upW j l (h.rd j (by omega) l (inB_mono (fun b hb => by simp only [forkD, if_neg j0, if_neg jn] at hb; exact hb) hl))
  · have e : t ++ #[x, y] = (t ++ #[x]) ++ #[y] := by apply Array.ext'; simp
    rw [e]
    refine noRace_append (g := n) (noRace_append (g := 0) (h.nr said) (fun op hop => by simp at hop; rw [hop]; exact hx.1) (fun i a _ op hop b hb _ => (hnt op (by simp at hop ⊢; exact .inl hop) b hb).elim))
      (fun op hop => by simp at hop; rw [hop]; exact hy.1) (fun i a _ op hop b hb _ => (hnt op (by simp at hop ⊢; exact .inr hop) b hb).elim)
  · rcases getElem?_append_cases hi with ⟨_, hi'⟩ | ⟨_, hiu⟩
    · exact Nat.lt_succ_of_lt (h.gs i op hi')
    · simp only [List.mem_toArray, List.mem_cons, List.not_mem_nil, or_false] at hiu
      rcases hiu with rfl | rfl
      · rw [hx.1]; omega
      · rw [hy.1]; omega
  · rcases Array.mem_append.1 hop with h1 | h1
    · exact h.low op h1
    · simp only [List.mem_toArray, List.mem_cons, List.not_mem_nil, or_false] at h1
      rcases h1 with rfl | rfl
      · rw [hx.2]; trivial
      · rw [hy.2]; trivial
end
end Go.Ren
end
section
set_option linter.unusedVariables false
set_option linter.unusedSectionVars false
set_option linter.unusedSimpArgs false
namespace Go.Ren
open Go.Conc hiding mem_ofEvents Deaf
open Go.ConcN (PermW)
def Vec {α : Type} (r : Nat → α → α → Prop) (n : Nat) (v' v : Nat → α) : Prop := ∃ i, i < n ∧ r i (v' i) (v i) ∧ ∀ j, j ≠ i → v' j = v j
theorem acc_vec {α : Type} (r : Nat → α → α → Prop) : ∀ (n : Nat) (v : Nat → α), (∀ i, i < n → Acc (r i) (v i)) → Acc (Vec r n) v
  | 0, v, _ => .intro _ fun v' ⟨i, hi, _⟩ => absurd hi (Nat.not_lt_zero _)
  | n + 1, v, h => by
    have key : ∀ a, Acc (r n) a → ∀ v : Nat → α, v n = a → (∀ i, i < n → Acc (r i) (v i)) → Acc (Vec r (n + 1)) v := by
      intro a ha
      induction ha with
      | intro a _ iha =>
        intro v hv hacc
        have hn := acc_vec r n v hacc
        revert hv hacc
        induction hn with
        | intro v _ ihv =>
          intro hv hacc
          refine .intro _ fun v' hv' => ?_
          obtain ⟨i, hi, hr, hj⟩ := hv'
          rcases Nat.lt_or_ge i n with hlt | hge
          · refine ihv v' ⟨i, hlt, hr, hj⟩ ?_ fun k hk => ?_
            · rw [hj n (by omega)]; exact hv
            · by_cases hki : k = i
              · subst hki; exact (hacc k hk).inv hr
              · rw [hj k hki]; exact hacc k hk
          · obtain rfl : i = n := by omega
            refine iha (v' i) (hv ▸ hr) v' rfl fun k hk => ?_
            rw [hj k (by omega)]; exact hacc k hk
    exact key (v n) (h n (by omega)) v rfl fun i hi => h i (by omega)
abbrev Where := (Nat → Prop) × Goroutine × World
def Nx (P : Program) (m : Bool) (I : World → Prop) (D : Nat → Prop) (Stop : (Nat → Prop) → Goroutine → World → Prop) (x' x : Where) : Prop :=
  ¬ Stop x.1 x.2.1 x.2.2 ∧ ∃ w₁ es, Rely x.1 D x.2.2 w₁ ∧ I w₁ ∧ stepG P m x.2.1 w₁ = .go x'.2.1 x'.2.2 es ∧ x'.1 = grow x.1 w₁ x'.2.2
section
variable {P : Program} {W : Nat → Prop} {O D : Nat → Nat → Prop} {gs : Array Goroutine} {w w' : World} {sl : Option (Nat × Nat)} {t : Trace} {i : Nat} {g g' : Goroutine} {es : Array Event} {X : Event → Prop}
theorem with_self (O : Nat → Nat → Prop) (i : Nat) (w w' : World) : with_ O i w.heap.size w'.heap.size i = grow (O i) w w' := by
  funext b
  apply propext
  unfold with_ grow
  simp
theorem with_other {j : Nat} (h : j ≠ i) (B B' : Nat) : with_ O i B B' j = O j := by
  funext b
  apply propext
  unfold with_
  simp [h]
end
end Go.Ren
end
section
set_option linter.unusedVariables false
set_option linter.unusedSectionVars false
set_option linter.unusedSimpArgs false
namespace Go.Ren
open Go.Conc hiding mem_ofEvents Deaf
section
variable {P : Program} {Fin : Machine → Outcome → World → Trace → Prop} {K K' : Machine → Trace → Prop} {m m' : Machine} {t : Trace} {ops : Array MemOp}
inductive Leads (P : Program) (Fin : Machine → Outcome → World → Trace → Prop) (K : Machine → Trace → Prop) : Machine → Trace → Prop
  | here {m : Machine} {t : Trace} (h : K m t) : Leads P Fin K m t
  | ends {m : Machine} {t : Trace} {o : Outcome} {w : World} {ops : Array MemOp} (h : stepT P m = (.ended o w, ops)) (f : Fin m o w (t ++ ops)) : Leads P Fin K m t
  | next {m : Machine} {t : Trace} {m' : Machine} {ops : Array MemOp} (h : stepT P m = (.next m', ops)) (k : Leads P Fin K m' (t ++ ops)) : Leads P Fin K m t
theorem Leads.bind (h : Leads P Fin K m t) (k : ∀ m t, K m t → Leads P Fin K' m t) : Leads P Fin K' m t := by
  induction h with
  | here h => exact k _ _ h
  | ends h f => exact .ends h f
  | next h _ ih => exact .next h ih
theorem Leads.mono (h : Leads P Fin K m t) (k : ∀ m t, K m t → K' m t) : Leads P Fin K' m t := h.bind fun m t x => .here (k m t x)
theorem Leads.of_acc {α : Type _} {r : α → α → Prop} {J : α → Machine → Trace → Prop}
    (h : ∀ a m t, J a m t → K m t ∨ (∃ o w ops, stepT P m = (.ended o w, ops) ∧ Fin m o w (t ++ ops)) ∨ (∃ m' ops, stepT P m = (.next m', ops) ∧ (K m' (t ++ ops) ∨ ∃ a', r a' a ∧ J a' m' (t ++ ops))))
    {a : α} (ha : Acc r a) : ∀ {m : Machine} {t : Trace}, J a m t → Leads P Fin K m t := by
  induction ha with
  | intro a _ ih =>
    intro m t hj
    rcases h a m t hj with x | ⟨o, w, ops, x, y⟩ | ⟨m', ops, x, y | ⟨a', y, z⟩⟩
    · exact .here x
    · exact .ends x y
    · exact .next x (.here y)
    · exact .next x (ih a' y z)
theorem runNT_next {n : Nat} (h : stepT P m = (.next m', ops)) : runNT P (n + 1) m t = runNT P n m' (t ++ ops) := by
  simp [runNT, h]
theorem runN_next {n : Nat} (h : stepT P m = (.next m', ops)) : runN P (n + 1) m = runN P n m' := by
  simp [runN, step, h]
theorem Leads.run (h : Leads P Fin (fun _ _ => False) m t) : ∃ N last o w' t', runNT P (N + 1) m t = (.ended o w', t') ∧ runN P N m = .next last ∧ step P last = .ended o w' ∧ Fin last o w' t' := by
  induction h with
  | here h => exact h.elim
  | @ends m t o w ops h f => exact ⟨0, m, o, w, t ++ ops, by simp [runNT, h], rfl, by simp [step, h], f⟩
  | @next m t m' ops h _ ih =>
    obtain ⟨N, last, o, w', t', h1, h2, h3, h4⟩ := ih
    exact ⟨N + 1, last, o, w', t', by rw [runNT_next h]; exact h1, by rw [runN_next h]; exact h2, h3, h4⟩
end
end Go.Ren
end
section
set_option linter.unusedVariables false
set_option linter.unusedSectionVars false
set_option linter.unusedSimpArgs false
namespace Go.Ren
open Go.Conc hiding mem_ofEvents
open Go.ConcN (PermW RelBy)
section
variable {W : Nat → Prop} {O D : Nat → Nat → Prop} {n B : Nat} {t u : Trace} {a : Addr} {k r : Nat}
def Mild (W : Nat → Prop) (x : Touch) : Prop := x.loc.isMemory = true → inB W x.loc
structure Over (a : Addr) (W : Nat → Prop) (t : Trace) (k r : Nat) : Prop where
  rel : RelBy a t k r
  mild : ∀ i x, r < i → t.g? i = some k → touchAt t i = some x → Mild W x
structure Gone (W : Nat → Prop) (t : Trace) (k : Nat) : Prop where
  over : ∀ i, t.g? i = some k → t.counts i → ∃ j, t.g? j = some 0 ∧ HappensBefore t i j
  known : ∀ i x, t.g? i = some k → touchAt t i = some x → ¬ Mild W x → Knows t 0 i
theorem g?_of {i : Nat} {op : MemOp} (h : t[i]? = some op) : t.g? i = some op.g := by simp [Trace.g?, h]
theorem of_g? {i g : Nat} (h : t.g? i = some g) : ∃ op, t[i]? = some op ∧ op.g = g := by
  unfold Trace.g? at h
  obtain ⟨op, h1, h2⟩ := Option.map_eq_some_iff.1 h
  exact ⟨op, h1, h2⟩
theorem lt_of_g? {i g : Nat} (h : t.g? i = some g) : i < t.size := by
  obtain ⟨op, h1, _⟩ := of_g? h
  exact lt_size_of_getElem? h1
theorem Over.app (h : Over a W t k r) (hu : ∀ i, t.size ≤ i → (t ++ u).g? i = some k → ¬ (t ++ u).counts i) (hm : ∀ op ∈ u, op.g = k → ∀ x, op.act.touch? = some x → Mild W x) : Over a W (t ++ u) k r := by
  refine ⟨h.rel.app hu, fun i x hi hg hx => ?_⟩
  obtain ⟨op, h1, h2⟩ := of_g? hg
  rcases getElem?_append_cases h1 with ⟨hl, h1'⟩ | ⟨_, hou⟩
  · refine h.mild i x hi (by rw [g?_of h1', h2]) ?_
    rw [touchAt_old hl] at hx
    exact hx
  · rw [touchAt_of h1] at hx
    exact hm op hou h2 x hx
theorem Over.appNot (h : Over a W t k r) (hu : ∀ op ∈ u, op.g ≠ k) : Over a W (t ++ u) k r :=
  h.app (fun i hi hg => by
    obtain ⟨op, h1, h2⟩ := of_g? hg
    rcases getElem?_append_cases h1 with ⟨hl, _⟩ | ⟨_, hou⟩
    · omega
    · exact absurd h2 (hu op hou)) (fun op hop e => absurd e (hu op hop))
theorem Gone.app (h : Gone W t k) (hu : ∀ i, t.size ≤ i → (t ++ u).g? i = some k → ¬ (t ++ u).counts i) (hm : ∀ op ∈ u, op.g = k → ∀ x, op.act.touch? = some x → Mild W x) : Gone W (t ++ u) k := by
  refine ⟨fun i hg hc => ?_, fun i x hg hx hn => ?_⟩
  · obtain ⟨op, h1, h2⟩ := of_g? hg
    rcases getElem?_append_cases h1 with ⟨hl, h1'⟩ | ⟨hl, hou⟩
    · obtain ⟨j, h3, h4⟩ := h.over i (by rw [g?_of h1', h2]) ((counts_old hl).1 hc)
      exact ⟨j, by rw [g?_old (lt_of_g? h3)]; exact h3, hb_app u h4⟩
    · exact absurd hc (hu i hl hg)
  · obtain ⟨op, h1, h2⟩ := of_g? hg
    rcases getElem?_append_cases h1 with ⟨hl, h1'⟩ | ⟨hl, hou⟩
    · rw [touchAt_old hl] at hx
      exact (h.known i x (by rw [g?_of h1', h2]) hx hn).app u
    · rw [touchAt_of h1] at hx
      exact absurd (hm op hou h2 x hx) hn
theorem Gone.appNot (h : Gone W t k) (hu : ∀ op ∈ u, op.g ≠ k) : Gone W (t ++ u) k :=
  h.app (fun i hi hg => by
    obtain ⟨op, h1, h2⟩ := of_g? hg
    rcases getElem?_append_cases h1 with ⟨hl, _⟩ | ⟨_, hou⟩
    · omega
    · exact absurd h2 (hu op hou)) (fun op hop e => absurd e (hu op hop))
theorem Gone.widen {W' : Nat → Prop} (h : Gone W t k) (hw : ∀ b, W b → W' b) : Gone W' t k :=
  ⟨h.over, fun i x hg hx hn => h.known i x hg hx fun hm => hn fun hmem => inB_mono hw (hm hmem)⟩
theorem Over.gone {z : MemOp} (h : Over a W t k r) (hz : z.g = 0 ∧ z.act = .mark (.acquire a)) (hk : k ≠ 0) (hn : NoRelease a t) (h0 : Go.Conc.Deaf t 0 = 0) : Gone W (t ++ #[z]) k := by
  have hr : r < t.size := lt_of_act? h.rel.act
  have hzp : (t ++ #[z])[t.size]? = some z := by rw [Array.getElem?_append_right (Nat.le_refl _)]; simp
  have hheard : (t ++ #[z]).heard t.size := ⟨0, by rw [g?_of hzp, hz.1], by rw [deaf_old (Nat.le_refl _)]; exact h0⟩
  have edge : HappensBefore (t ++ #[z]) r t.size :=
    .single (.inr ⟨.marked hr (.inr (by rw [act?_old hr]; exact h.rel.act)) (by rw [act?_of hzp, hz.2]) (fun i h1 h2 => by rw [act?_old h2]; exact hn i), (heard_old hr).2 h.rel.heard, hheard⟩)
  have before : ∀ i, t.g? i = some k → i ≤ r → HappensBefore (t ++ #[z]) i t.size := by
    intro i hg hi
    rcases Nat.lt_or_ge i r with hlt | hge
    · have hit := lt_of_g? hg
      exact .trans (.single (.inl ⟨hlt, k, by rw [g?_old hit]; exact hg, by rw [g?_old hr]; exact h.rel.g⟩)) edge
    · obtain rfl : i = r := by omega
      exact edge
  have old : ∀ i, (t ++ #[z]).g? i = some k → i < t.size ∧ t.g? i = some k := by
    intro i hg
    obtain ⟨op, h1, h2⟩ := of_g? hg
    rcases getElem?_append_cases h1 with ⟨hl, h1'⟩ | ⟨_, hou⟩
    · exact ⟨hl, by rw [g?_of h1', h2]⟩
    · simp only [List.mem_toArray, List.mem_cons, List.not_mem_nil, or_false] at hou
      subst hou
      exact absurd (h2.symm.trans hz.1) hk
  refine ⟨fun i hg hc => ?_, fun i x hg hx hm => ?_⟩
  · obtain ⟨hl, hg'⟩ := old i hg
    refine ⟨t.size, by rw [g?_of hzp, hz.1], before i hg' (Nat.le_of_not_lt fun hlt => h.rel.after i hlt hg' ((counts_old hl).1 hc))⟩
  · obtain ⟨hl, hg'⟩ := old i hg
    rw [touchAt_old hl] at hx
    exact ⟨t.size, z, hzp, hz.1, .inr (before i hg' (Nat.le_of_not_lt fun hlt => hm (h.mild i x hlt hg' hx)))⟩
def aloneO (W : Nat → Prop) (B : Nat) (j b : Nat) : Prop := j = 0 ∧ b < B ∧ ¬ W b
def aloneD : Nat → Nat → Prop := fun _ _ => False
theorem TI.alone (h : TI W O D n B t) (hg : ∀ k, k ≠ 0 → k < n → Gone W t k) : TI W (aloneO W B) aloneD n B t := by
  refine ⟨h.quiet, fun j hj l hl => ?_, fun j hj l hl => ?_, h.nr, h.gs, h.low⟩
  · have e0 : j = 0 := by
      cases l <;> first | exact hl.1 | exact hl.elim
    subst e0
    have hnl : l.isMemory = true ∧ ¬ inB W l := by
      cases l <;> first | exact ⟨rfl, hl.2.2⟩ | exact hl.elim
    intro i x hx e
    obtain ⟨op, h1, h2⟩ := touch_of hx
    by_cases hz : op.g = 0
    · rw [← hz]; exact knows_own h1
    · refine (hg op.g hz (h.gs i op h1)).known i x (g?_of h1) hx fun hm => ?_
      rw [← e] at hnl
      exact hnl.2 (hm hnl.1)
  · cases l <;> exact hl.elim
theorem TI.less {O' D' : Nat → Nat → Prop} (h : TI W O D n B t) (hO : ∀ i b, O' i b → O i b) (hD : ∀ i b, D' i b → D i b ∨ O i b) : TI W O' D' n B t :=
  ⟨h.quiet, fun i hi l hl => h.own i hi l (inB_mono (hO i) hl), fun i hi l hl => (inB_or (hD i) hl).elim (h.rd i hi l) (fun x => PermW.of (h.own i hi l x)), h.nr, h.gs, h.low⟩
theorem TI.share {S : Nat → Prop} (h : TI W O D n B t) (hq : Quiet (inB S) t) : TI (fun b => W b ∨ S b) O D n B t :=
  ⟨fun i op x hi hx hs => (inB_or (T := W) (U := S) (fun _ y => y) hs).elim (h.quiet i op x hi hx) (hq i op x hi hx), h.own, h.rd, h.nr, h.gs, h.low⟩
theorem TI.still (h : TI W O D n B t) {z : MemOp} (hg : z.g < n) (hn : z.act.touch? = none) (hl : z.act.low B) : TI W O D n B (t ++ #[z]) := by
  have nt : ∀ op ∈ #[z], ∀ b, op.act.touch? = some b → False := fun op hop b hb => by
    simp only [List.mem_toArray, List.mem_cons, List.not_mem_nil, or_false] at hop
    subst hop
    rw [hn] at hb
    cases hb
  refine ⟨h.quiet.app fun op hop b hb _ => (nt op hop b hb).elim, fun i hi l hl => (h.own i hi l hl).app fun op hop b hb _ => (nt op hop b hb).elim, fun i hi l hl => (h.rd i hi l hl).app fun op hop b hb _ _ => (nt op hop b hb).elim,
    fun said => noRace_append (g := z.g) (h.nr said) (fun op hop => by simp at hop; rw [hop]) (fun i a _ op hop b hb _ => (nt op hop b hb).elim), fun i op hi => ?_, fun op hop => ?_⟩
  · rcases getElem?_append_cases hi with ⟨_, hi'⟩ | ⟨_, hiu⟩
    · exact h.gs i op hi'
    · simp only [List.mem_toArray, List.mem_cons, List.not_mem_nil, or_false] at hiu
      subst hiu
      exact hg
  · rcases Array.mem_append.1 hop with h1 | h1
    · exact h.low op h1
    · simp only [List.mem_toArray, List.mem_cons, List.not_mem_nil, or_false] at h1
      subst h1
      exact hl
end
end Go.Ren
end
section
set_option linter.unusedVariables false
set_option linter.unusedSectionVars false
set_option linter.unusedSimpArgs false
namespace Go.Ren
open Go.Conc hiding Goes
section
variable {P : Program} {m : Bool} {I : World → Prop} {X : Event → Prop} {D : Nat → Prop} {S T : Goroutine → Prop} {g g' : Goroutine}
inductive Idle (P : Program) (m : Bool) (I : World → Prop) (X : Event → Prop) (S : Goroutine → Prop) : Goroutine → Prop
  | stop {g : Goroutine} (h : S g) : Idle P m I X S g
  | step {g : Goroutine} (hs : g.status = .running) (f : World → Goroutine) (es : World → Array Event) (h : ∀ w, I w → stepG P m g w = .go (f w) w (es w) ∧ ∀ e ∈ es w, X e ∧ (MemAct.ofEvent e).low w.heap.size)
      (k : ∀ w, I w → Idle P m I X S (f w)) : Idle P m I X S g
theorem Idle.mk (hs : g.status = .running) (h : ∀ w, I w → (stepG P m g w).goes fun g' w' es => w' = w ∧ (∀ e ∈ es, X e ∧ (MemAct.ofEvent e).low w.heap.size) ∧ Idle P m I X S g') : Idle P m I X S g := by
  have h' : ∀ w, ∃ x : Goroutine × Array Event, I w → stepG P m g w = .go x.1 w x.2 ∧ (∀ e ∈ x.2, X e ∧ (MemAct.ofEvent e).low w.heap.size) ∧ Idle P m I X S x.1 := by
    intro w
    by_cases hi : I w
    · have := h w hi
      cases e : stepG P m g w with
      | go g' w' es =>
        rw [e, goes_go] at this
        obtain ⟨rfl, h2, h3⟩ := this
        exact ⟨(g', es), fun _ => ⟨rfl, h2, h3⟩⟩
      | _ => rw [e] at this; exact this.elim
    · exact ⟨(g, #[]), fun x => absurd x hi⟩
  refine .step hs (fun w => (Classical.choose (h' w)).1) (fun w => (Classical.choose (h' w)).2) (fun w hi => ?_) (fun w hi => ?_)
  · have := Classical.choose_spec (h' w) hi; exact ⟨this.1, this.2.1⟩
  · have := Classical.choose_spec (h' w) hi; exact this.2.2
theorem Idle.go (hs : g.status = .running) (h : ∀ w, I w → stepG P m g w = .go g' w #[]) (k : Idle P m I X S g') : Idle P m I X S g :=
  .step hs (fun _ => g') (fun _ => #[]) (fun w hi => ⟨h w hi, by simp⟩) (fun _ _ => k)
theorem Idle.says {es : Array Event} (hs : g.status = .running) (h : ∀ w, I w → stepG P m g w = .go g' w es) (hX : ∀ w, I w → ∀ e ∈ es, X e ∧ (MemAct.ofEvent e).low w.heap.size) (k : Idle P m I X S g') : Idle P m I X S g :=
  .step hs (fun _ => g') (fun _ => es) (fun w hi => ⟨h w hi, hX w hi⟩) (fun _ _ => k)
theorem Idle.bind (h : Idle P m I X S g) (k : ∀ g, S g → Idle P m I X T g) : Idle P m I X T g := by
  induction h with
  | stop h => exact k _ h
  | step hs f es h _ ih => exact .step hs f es h ih
theorem Idle.mono (h : Idle P m I X S g) (k : ∀ g, S g → T g) : Idle P m I X T g := h.bind fun g x => .stop (k g x)
theorem quiet {X : Event → Prop} {w : World} : ∀ e ∈ (#[] : Array Event), X e ∧ (MemAct.ofEvent e).low w.heap.size := by simp
theorem quiet_of {X : Event → Prop} {w : World} {es : Array Event} (h : ∀ e ∈ es, False) : ∀ e ∈ es, X e ∧ (MemAct.ofEvent e).low w.heap.size := fun e he => (h e he).elim
def Says (P : Program) (m : Bool) (I : World → Prop) (es : Array Event) (T : Goroutine → Prop) (g : Goroutine) : Prop :=
  g.status = .running ∧ ∃ g', (∀ w, I w → stepG P m g w = .go g' w es) ∧ T g'
def Turns (P : Program) (m : Bool) (I pre : World → Prop) (upd : World → World) (es : Array Event) (T : Goroutine → Prop) (g : Goroutine) : Prop :=
  ∃ g', (∀ w, I w → pre w → stepG P m g w = .go g' (upd w) es) ∧ T g'
end
end Go.Ren
end
