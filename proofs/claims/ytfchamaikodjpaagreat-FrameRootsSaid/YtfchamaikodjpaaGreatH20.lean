/- A part of the proof that the frame keeps its roots: lemmas on which it leans. -/
import Derived.Conc.Beside
import Derived.Test.YtfchamaikodjpaaGreatH15
import Derived.Test.YtfchamaikodjpaaGreatH16
import Derived.Test.YtfchamaikodjpaaGreatH19
section
set_option linter.unusedVariables false
set_option linter.unusedSectionVars false
set_option linter.unusedSimpArgs false
namespace Go.Ren
open Go.Conc hiding Goes mem_ofEvents
open Go.ConcN (sumTo upd upd_same upd_ne get_map_set get_map_set_same WgLive Deaf_absent)
open Go.Conc.Lib (WgLink)
open Go.ConcR (KK WgAt stA smA rd wr g_of_ofEvents loc_of_ofEvent)
section
variable {P : Program} {W U : Nat → Prop} {N : Nat} {x0 x' : Pos} {ls : Nat → Pos} {gs : Array Goroutine} {w w' : World} {sl : Option (Nat × Nat)} {t : Trace} {FinP : Machine → Outcome → World → Trace → Prop} {K : Machine → Trace → Prop}
theorem handed (h : ∀ k, 1 ≤ k → k < N → Gone W t k) (hg : ∀ (i : Nat) (op : MemOp), t[i]? = some op → op.g < N) : t.HandedOver := by
  intro i g hgi hne hc
  obtain ⟨op, h1, h2⟩ := of_g? hgi
  exact (h g (by omega) (by rw [← h2]; exact hg i op h1)).over i hgi hc
theorem Al.ends {Post : Value → World → Prop} {J : World → Prop} {X : Event → Prop} (hX : XAl W X) (h : Al P W U N x0 ls gs w t) (hr0 : x0.g.status = .running) (hJ : J w) (hJd : ∀ w d, J w → J (w.at d))
    (hret : ∀ w₁, Rely x0.O (fun _ => False) x0.w w₁ → J w₁ → ∃ v w' es, stepG P true x0.g w₁ = .ended (.done v) w' es ∧ Guar X x0.O (fun _ => False) w₁ w' es ∧ Post v w') : Leads P (Good P Post) K (crowd gs w sl) t := by
  refine h.turn hr0 hJ hJd fun ls gs w sl t h hJ => .inr ?_
  obtain ⟨v, w', es, hgo, hG, hp⟩ := hret w h.rely hJ
  have hN := h.hN
  have hoo : oneO x0.O 0 = x0.O := by funext b; apply propext; exact ⟨fun x => x.2, fun x => ⟨rfl, x⟩⟩
  have hown := h.own.less (W := W) fun b x => .inl x
  have hti := h.ti.step (i := 0) (B' := w'.heap.size) hown (by omega) hG.size (X := XOk W 0) (fun e he => he) (es := es) (fn := x0.g.frame.fn) (pos := x0.g.frame.place) (fun e he => by
    have := hG.ev e he
    have e1 : (fun b => with_ (oneO x0.O) 0 w.heap.size w'.heap.size 0 b) = grow x0.O w w' := by rw [with_self, hoo]
    rw [e1]
    exact this.imp (fun x => ⟨hX.ok e x.1, x.2⟩) id)
  have hops : ∀ op ∈ MemOp.ofEvents 0 x0.g.frame.fn x0.g.frame.place es, op.g = 0 := g_of_ofEvents
  refine ⟨_, w', _, runT_many_ended (i := 0) h.main (by simpa using hgo), fun m hm htm => ⟨v, rfl, hp, hti.nr, handed (W := W) (N := N) (fun k h1 h2 => ?_) hti.gs, ⟨fun g hg => ?_, by rw [htm]; rfl⟩, fun i g hg hne => ?_⟩⟩
  · exact (h.lv k h1 h2).2.2.2.appNot fun op hop e' => by rw [hops op hop] at e'; omega
  · rw [hm] at hg
    obtain ⟨i, hi, rfl⟩ := List.mem_iff_getElem.1 hg
    have hlt : 1 + i < gs.size := by simp at hi; omega
    obtain ⟨h1, ⟨q, h2⟩, _⟩ := h.lv (1 + i) (by omega) (by rw [← h.size]; exact hlt)
    have e : (gs.toList.drop 1)[i] = (ls (1 + i)).g := by
      rw [List.getElem_drop]
      have := (Array.getElem?_eq_some_iff.1 h1).2
      simpa using this
    rw [e]
    exact ⟨q, h2.leaves⟩
  · rw [hm] at hg
    have hlt : i < N := by rw [← h.size]; exact (Array.getElem?_eq_some_iff.1 hg).1
    obtain ⟨h1, ⟨q, h2⟩, h3, _⟩ := h.lv i (by omega) hlt
    rw [hg] at h1
    cases h1
    refine ⟨q, ?_⟩
    have e : (t ++ MemOp.ofEvents 0 x0.g.frame.fn x0.g.frame.place es).deaf i (t ++ MemOp.ofEvents 0 x0.g.frame.fn x0.g.frame.place es).size = (ls i).d := by
      rw [← h3]
      exact Deaf_other t (by omega) _ hops
    rw [e]
    exact h2.hears _
theorem Al.fresh {J : World → Prop} {o : Obj} {g' : Goroutine} (h : Al P W U N x0 ls gs w t) (hr0 : x0.g.status = .running) (hJ : J w) (hJd : ∀ w d, J w → J (w.at d))
    (hgo : ∀ w₁, Rely x0.O (fun _ => False) x0.w w₁ → J w₁ → stepG P true x0.g w₁ = .go g' (w₁.alloc o) #[]) :
    Leads P FinP (fun m t => ∃ w₁ ls gs sl, m = crowd gs (w₁.alloc o) sl ∧ J w₁ ∧ Rely x0.O (fun _ => False) x0.w w₁ ∧ Al P W (fun b => U b ∨ b = w₁.heap.size) N ⟨x0.O, fun _ => False, x0.d, g', w₁.alloc o⟩ ls gs (w₁.alloc o) t) (crowd gs w sl) t := by
  refine h.turn hr0 hJ hJd fun ls gs w sl t h hJ => .inl ?_
  have hgo := hgo w h.rely hJ
  have hN := h.hN
  have hsz := h.size
  have hrun := runT_crowd_go (P := P) (sl := sl) (i := 0) h.main (by simpa using hgo)
  have e0 : MemOp.ofEvents 0 x0.g.frame.fn x0.g.frame.place #[] = #[] := rfl
  rw [e0] at hrun
  have hs : (w.alloc o).heap.size = w.heap.size + 1 := by simp
  have hlow : ∀ b, ((fun b => W b ∨ U b ∨ b = w.heap.size) b) → b < w.heap.size + 1 := by
    rintro b (hb | hb | rfl)
    · exact Nat.lt_succ_of_lt (h.own.wlt b (.inl hb))
    · exact Nat.lt_succ_of_lt (h.own.wlt b (.inr hb))
    · omega
  refine ⟨_, _, hrun, w, ls, _, sl, rfl, hJ, h.rely, ?_⟩
  rw [Array.append_empty]
  refine ⟨h.hN, by simpa using hsz, get_map_set_same _ _ _ (by rw [hsz]; omega), rfl, ⟨_, rfl⟩, h.deaf, fun k h1 h2 => ?_, ?_, ?_, ?_, ?_, h.norel⟩
  · obtain ⟨a1, ⟨q, a2⟩, a3, a4⟩ := h.lv k h1 h2
    exact ⟨by rw [get_map_set _ _ _ _ (by omega), a1, Option.map_some, woken_rf a2.status], ⟨q, a2⟩, a3, a4⟩
  · exact ⟨h.ti.quiet, h.ti.own, h.ti.rd, h.ti.nr, h.ti.gs, fun op hop => MemAct.low_mono (by rw [hs]; omega) (h.ti.low op hop)⟩
  · refine ⟨h.own.oo, h.own.od, fun i b hi ho hx => ?_, fun _ _ _ x => x.elim, fun i b hi ho => ?_, fun _ _ _ x => x.elim, fun b hb => ?_⟩
    · rcases hx with hx | hx | hx
      · exact h.own.ow i b hi ho (.inl hx)
      · exact h.own.ow i b hi ho (.inr hx)
      · have := h.own.olt i b hi ho; omega
    · have := h.own.olt i b hi ho; rw [hs]; omega
    · rw [hs]; exact hlow b hb
  · intro i x hx hU
    obtain ⟨op, h1, h2⟩ := touch_of hx
    have hl := h.ti.low op (Array.mem_of_getElem? h1)
    have hxl : x.loc.low w.heap.size := by
      obtain ⟨g, fn, pos, act⟩ := op
      cases act with
      | access e => simp only [MemAct.touch?, Option.some.injEq] at h2; subst h2; exact hl
      | mark m =>
        cases m <;> simp only [MemAct.touch?, Option.some.injEq, reduceCtorEq] at h2
        all_goals (subst h2; exact hl)
      | _ => simp [MemAct.touch?] at h2
    revert hU hxl
    have hun := h.unt i x hx
    revert hun
    cases x.loc with
    | cell a =>
      rintro hun (hU | hU) hxl
      · exact hun hU
      · have : a.block < w.heap.size := hxl; omega
    | obj r =>
      rintro hun (hU | hU) hxl
      · exact hun hU
      · have : r < w.heap.size := hxl; omega
    | _ => intro _ hU _; exact hU
  · rintro b hb (hU | rfl)
    · exact h.wu b hb hU
    · exact absurd (h.own.wlt _ (.inl hb)) (Nat.lt_irrefl _)
end
end Go.Ren
end
section
set_option linter.unusedVariables false
set_option linter.unusedSectionVars false
set_option linter.unusedSimpArgs false
namespace Go.Ren
open Go.Conc hiding mem_ofEvents Deaf
open Go.ConcR (g_of_ofEvents loc_of_ofEvent)
section
variable {P : Program} {W U Z : Nat → Prop} {N : Nat} {d : Nat} {g : Goroutine} {w0 w : World} {ls : Nat → Pos} {gs : Array Goroutine} {sl : Option (Nat × Nat)} {t : Trace} {FinP : Machine → Outcome → World → Trace → Prop}
def full (Z : Nat → Prop) (w : World) (b : Nat) : Prop := b < w.heap.size ∧ ¬ Z b
theorem full_grow {Z : Nat → Prop} {w w' : World} (hZ : ∀ b, Z b → b < w.heap.size) (hs : w.heap.size ≤ w'.heap.size) : grow (full Z w) w w' = full Z w' := by
  funext b
  apply propext
  unfold grow full
  constructor
  · rintro (⟨h1, h2⟩ | ⟨h1, h2⟩)
    · exact ⟨by omega, h2⟩
    · exact ⟨h2, fun hz => by have := hZ b hz; omega⟩
  · rintro ⟨h1, h2⟩
    rcases Nat.lt_or_ge b w.heap.size with hlt | hge
    · exact .inl ⟨hlt, h2⟩
    · exact .inr ⟨hge, h1⟩
theorem xal_none : XAl W X0 := ⟨fun e h => h.elim, fun e h => h.elim⟩
def At (P : Program) (W U Z : Nat → Prop) (N : Nat) (d : Nat) (g : Goroutine) (w : World) (m : Machine) (t : Trace) : Prop :=
  ∃ (ls : Nat → Pos) (gs : Array Goroutine) (w₁ : World) (sl : Option (Nat × Nat)), m = crowd gs w₁ sl ∧ Al P W U N ⟨full Z w, fun _ => False, d, g, w⟩ ls gs w₁ t
theorem at_start (g : Goroutine) (w : World) : At P (fun _ => False) (fun _ => False) (fun _ => False) 1 0 g w (solo g w) #[] := by
  have nt : ∀ (i : Nat) (op : MemOp), (#[] : Trace)[i]? = some op → False := fun i op h => by simp at h
  have ntt : ∀ (i : Nat) (a : Touch), touchAt (#[] : Trace) i = some a → False := fun i a h => by simp [touchAt, Trace.act?] at h
  refine ⟨fun _ => ⟨fun _ => False, fun _ => False, 0, g, w⟩, #[g], w, none, solo_eq_crowd g w, Nat.le_refl _, rfl, rfl, rfl, ⟨w.drawn, rfl⟩, rfl, fun k h1 h2 => by omega, ?_, ?_, fun i x hx => (ntt i x hx).elim, fun _ h => h.elim, fun a i hi => by simp [Trace.act?] at hi⟩
  · refine ⟨fun i op x hi => (nt i op hi).elim, fun i _ l _ j a ha => (ntt j a ha).elim, fun i _ l _ j a ha => (ntt j a ha).elim, fun said => ?_, fun i op hi => (nt i op hi).elim, fun op hop => by simp at hop⟩
    rintro ⟨i, j, _, ⟨a, b, ha, _⟩, _⟩
    exact ntt i a ha
  · exact ⟨fun i j b hi hj _ _ => by omega, fun _ _ _ _ _ _ x => x, fun _ _ _ _ x => x.elim id id, fun _ _ _ x => x.elim, fun i b _ x => x.2.1, fun _ _ _ x => x.elim, fun b x => x.elim False.elim False.elim⟩
theorem runs_of_leads {Post : Value → World → Prop} {g : Goroutine} {w : World} (h : Leads P (Good P Post) (fun _ _ => False) (solo g w) #[]) :
    ∃ N last o w' t', runNT P (N + 1) (solo g w) #[] = (.ended o w', t') ∧ runN P N (solo g w) = .next last ∧ step P last = .ended o w' ∧ Good P Post last o w' t' := h.run
theorem At.ends {Post : Value → World → Prop} {K : Machine → Trace → Prop} {m : Machine} (hr : g.status = .running) (h : At P W U Z N d g w m t)
    (hret : ∀ d₁, ∃ v w' es, stepG P true g (w.at d₁) = .ended (.done v) w' es ∧ Guar X0 (full Z w) (fun _ => False) (w.at d₁) w' es ∧ Post v w') : Leads P (Good P Post) K m t := by
  obtain ⟨ls, gs, w₁, sl, rfl, hal⟩ := h
  have hw : ∃ d₁, w₁ = w.at d₁ := hal.same
  refine hal.ends (J := fun w₁ => ∃ d₁, w₁ = w.at d₁) xal_none hr hw (fun w' d' ⟨d₁, e⟩ => ⟨d', by rw [e]; rfl⟩) fun w' _ ⟨d₁, e⟩ => ?_
  obtain ⟨v, w₂, es, a1, a2, a3⟩ := hret d₁
  rw [e]
  exact ⟨v, w₂, es, a1, a2, a3⟩
end
end Go.Ren
end
section
set_option linter.unusedVariables false
set_option linter.unusedSectionVars false
set_option linter.unusedSimpArgs false
namespace Go.Ren
open Go.Conc hiding Goes mem_ofEvents Deaf
open Go.ConcN (upd upd_same upd_ne)
open Go.Conc.Lib (WgLink)
open Go.ConcR (WgAt stA smA rd wr g_of_ofEvents loc_of_ofEvent)
section
variable {P : Program} {W U Z : Nat → Prop} {N : Nat} {d : Nat} {g g' g₂ : Goroutine} {w w' : World} {x0 : Pos} {ls : Nat → Pos} {gs : Array Goroutine} {sl : Option (Nat × Nat)} {m : Machine} {t : Trace} {FinP : Machine → Outcome → World → Trace → Prop}
theorem At.undraw {d₁ : Nat} (h : At P W U Z N d g (w.at d₁) m t) : At P W U Z N d g w m t := by
  obtain ⟨ls, gs, w₁, sl, rfl, hal⟩ := h
  exact ⟨ls, gs, w₁, sl, rfl, hal.hN, hal.size, hal.main, rfl, (let ⟨d', e⟩ := hal.same; ⟨d', by rw [e]; rfl⟩), hal.deaf, hal.lv, hal.ti, hal.own, hal.unt, hal.wu, hal.norel⟩
theorem At.idle {X : Event → Prop} {I : World → Prop} {S : Nat → Goroutine → Prop} (hX : XAl W X) (hI : ∀ d₁, I (w.at d₁)) (h : IdleD P true I X S d g) : ∀ {m : Machine} {t : Trace}, At P W U Z N d g w m t → Leads P FinP (fun m t => ∃ d' g', S d' g' ∧ At P W U Z N d' g' w m t) m t := by
  induction h with
  | stop h => intro m t hat; exact .here ⟨_, _, h, hat⟩
  | @step d g hs f es h k ih =>
    rintro m t ⟨ls, gs, w₁, sl, rfl, hal⟩
    refine Leads.bind (K := fun m t => ∃ w₂, I w₂ ∧ At P W U Z N (deafBehind d (es w₂)) (f w₂) w m t) ?_ ?_
    · refine hal.turn (J := fun _ => True) hs trivial (fun _ _ _ => trivial) fun ls gs w₁ sl t h' _ => .inl ?_
      obtain ⟨d₁, hw⟩ := h'.same
      have hw' : w₁ = w.at d₁ := hw
      subst hw'
      obtain ⟨hgo, hev⟩ := h _ (hI d₁)
      have hG : Guar X (full Z w) (fun _ => False) (w.at d₁) (w.at d₁) (es (w.at d₁)) := ⟨Nat.le_refl _, fun _ _ _ => rfl, rfl, rfl, rfl, fun e he => .inl (hev e he)⟩
      obtain ⟨gs', ops, a1, a2⟩ := h'.own_step (sl := sl) hX (x' := ⟨full Z w, fun _ => False, deafBehind d (es (w.at d₁)), f (w.at d₁), w.at d₁⟩) hgo hG rfl (grow_same _ _).symm rfl rfl
      exact ⟨_, ops, a1, w.at d₁, hI d₁, At.undraw (d₁ := d₁) ⟨ls, gs', _, sl, rfl, a2⟩⟩
    · rintro m t ⟨w₂, hi, hat⟩
      exact ih w₂ hi hat
theorem At.fresh {o : Obj} (hr : g.status = .running) (hgo : ∀ d₁, stepG P true g (w.at d₁) = .go g' ((w.at d₁).alloc o) #[]) (h : At P W U Z N d g w m t) :
    Leads P FinP (At P W (fun b => U b ∨ b = w.heap.size) (fun b => Z b ∨ b = w.heap.size) N d g' (w.alloc o)) m t := by
  obtain ⟨ls, gs, w₁, sl, rfl, hal⟩ := h
  refine (hal.fresh (J := fun w₁ => ∃ d₁, w₁ = w.at d₁) hr hal.same (fun w' d' ⟨d₁, e⟩ => ⟨d', by rw [e]; rfl⟩) fun w₁ _ ⟨d₁, e⟩ => by rw [e]; exact hgo d₁).mono ?_
  rintro m t ⟨w₂, ls, gs, sl, rfl, ⟨d₁, rfl⟩, _, hal'⟩
  have hs : (w.alloc o).heap.size = w.heap.size + 1 := by simp
  have e : full Z w = full (fun b => Z b ∨ b = w.heap.size) (w.alloc o) := by
    funext b
    apply propext
    unfold full
    rw [hs]
    constructor
    · rintro ⟨h1, h2⟩
      exact ⟨by omega, fun h => h.elim h2 (by omega)⟩
    · rintro ⟨h1, h2⟩
      have : b ≠ w.heap.size := fun e => h2 (.inr e)
      exact ⟨by omega, fun h => h2 (.inl h)⟩
  have h2 := hal'
  dsimp only at h2
  rw [e] at h2
  exact ⟨ls, gs, _, sl, rfl, h2.hN, h2.size, h2.main, rfl, ⟨d₁, rfl⟩, h2.deaf, h2.lv, h2.ti, h2.own, h2.unt, h2.wu, h2.norel⟩
end
end Go.Ren
end
section
set_option linter.unusedVariables false
set_option linter.unusedSectionVars false
set_option linter.unusedSimpArgs false
namespace Go.Ren
open Go.Conc hiding mem_ofEvents Deaf
section
variable {P : Program} {W U Z Z' : Nat → Prop} {N : Nat} {d : Nat} {FinP : Machine → Outcome → World → Trace → Prop}
def Keep (Z : Nat → Prop) (w w' : World) : Prop := (∀ b, Z b → w'.heap[b]? = w.heap[b]?) ∧ w.heap.size ≤ w'.heap.size ∧ Tm w.os w'.os ∧ w'.output = w.output
theorem Keep.refl {w : World} : Keep Z w w := ⟨fun _ _ => rfl, Nat.le_refl _, .rfl, rfl⟩
theorem Keep.trans {w w' w'' : World} (h : Keep Z w w') (k : Keep Z w' w'') : Keep Z w w'' := ⟨fun b hb => (k.1 b hb).trans (h.1 b hb), Nat.le_trans h.2.1 k.2.1, h.2.2.1.trans k.2.2.1, k.2.2.2.trans h.2.2.2⟩
theorem Keep.mono {w w' : World} (h : Keep Z w w') (hZ : ∀ b, Z' b → Z b) : Keep Z' w w' := ⟨fun b hb => h.1 b (hZ b hb), h.2⟩
theorem Keep.lt {w w' : World} (h : Keep Z w w') (hZ : ∀ b, Z b → b < w.heap.size) : ∀ b, Z b → b < w'.heap.size := fun b hb => Nat.lt_of_lt_of_le (hZ b hb) h.2.1
theorem At.wk2 {S : (Nat → Prop) → Goroutine → World → Prop} {O : Nat → Prop} {g : Goroutine} {w : World} (hk : Wk P true (fun _ => True) X0 (fun _ => False) S O g w) (hZ : ∀ b, Z b → b < w.heap.size) :
    O = full Z w → ∀ {m : Machine} {t : Trace}, At P W U Z N d g w m t → Leads P FinP (fun m t => ∃ g' w', At P W U Z N d g' w' m t ∧ S (full Z w') g' w' ∧ Keep Z w w') m t := by
  induction hk with
  | stop h => intro hO m t hat; exact .here ⟨_, _, hat, hO ▸ h, .refl⟩
  | @step O g w hs f u es h k ih =>
    rintro rfl m t ⟨ls, gs, w₁, sl, rfl, hal⟩
    have rel : ∀ d₁, Rely (full Z w) (fun _ => False) w (w.at d₁) := fun d₁ => ⟨Nat.le_refl _, fun _ _ => rfl, fun _ _ => rfl, .rfl, rfl, rfl⟩
    refine Leads.bind (K := fun m t => ∃ d₁, At P W U Z N d (f (w.at d₁)) (u (w.at d₁)) m t ∧ grow (full Z w) (w.at d₁) (u (w.at d₁)) = full Z (u (w.at d₁)) ∧ Keep Z w (u (w.at d₁))) ?_ ?_
    · refine hal.turn (J := fun _ => True) hs trivial (fun _ _ _ => trivial) fun ls gs w₁ sl t h' _ => .inl ?_
      obtain ⟨d₁, hw⟩ := h'.same
      have hw' : w₁ = w.at d₁ := hw
      subst hw'
      obtain ⟨hst, hG⟩ := h (w.at d₁) (rel d₁) trivial
      have hd : deafBehind d (es (w.at d₁)) = d := deaf_still (fun e he => (hG.ev e he).hearing fun x => x.elim) d
      have hgr : grow (full Z w) (w.at d₁) (u (w.at d₁)) = full Z (u (w.at d₁)) := full_grow (w := w.at d₁) hZ hG.size
      obtain ⟨gs', ops, a1, a2⟩ := h'.own_step (sl := sl) xal_none (x' := ⟨full Z (u (w.at d₁)), fun _ => False, d, f (w.at d₁), u (w.at d₁)⟩) hst hG hd.symm hgr.symm rfl rfl
      exact ⟨_, ops, a1, d₁, ⟨ls, gs', u (w.at d₁), sl, rfl, a2⟩, hgr, fun b hb => hG.heap b (hZ b hb) fun x => x.2 hb, hG.size, .of hG.os, hG.output⟩
    · rintro m t ⟨d₁, hat', hgr, hkeep⟩
      refine (ih (w.at d₁) (rel d₁) trivial (hkeep.lt hZ) hgr hat').mono ?_
      rintro m t ⟨g', w', k1, k2, k3⟩
      exact ⟨g', w', k1, k2, hkeep.trans k3⟩
theorem At.drop {g : Goroutine} {w : World} {m : Machine} {t : Trace} (hZ : ∀ b, Z b → Z' b) (h : At P W U Z N d g w m t) : At P W U Z' N d g w m t := by
  obtain ⟨ls, gs, w₁, sl, rfl, hal⟩ := h
  have hf : ∀ b, full Z' w b → full Z w b := fun b hb => ⟨hb.1, fun x => hb.2 (hZ b x)⟩
  have ho : ∀ i b, oneO (full Z' w) i b → oneO (full Z w) i b := fun i b hb => ⟨hb.1, hf b hb.2⟩
  exact ⟨ls, gs, w₁, sl, rfl, hal.hN, hal.size, hal.main, rfl, hal.same, hal.deaf, hal.lv, hal.ti.less ho (fun _ _ x => .inl x),
    ⟨fun i j b hi hj a c => hal.own.oo i j b hi hj (ho _ _ a) (ho _ _ c), fun i j b hi hj a => hal.own.od i j b hi hj (ho _ _ a), fun i b hi a => hal.own.ow i b hi (ho _ _ a), hal.own.dw, fun i b hi a => hal.own.olt i b hi (ho _ _ a), hal.own.dlt, hal.own.wlt⟩, hal.unt, hal.wu, hal.norel⟩
end
end Go.Ren
namespace Go.Am
open Go.Ren (grow EvO Guar Rely Wk At full X0 Leads Keep)
section
variable {P : Program} {W U Z : Nat → Prop} {N : Nat} {d : Nat} {FinP : Machine → Outcome → World → Trace → Prop} {pl : Plan} {Q : Value → AH → Prop} {s : AS} {ρ : Env} {g : Goroutine} {w : World} {b : Frame} {bs : List Frame} {m : Machine} {t : Trace}
theorem areach_at2 [Zeros P] {K : AS → Prop} {base : List Frame} (hZ : ∀ b, Z b → b < w.heap.size) (k : AReach P pl K s) (S : Sim P ρ (full Z w) (fun _ => False) base s g w) (h : At P W U Z N d g w m t) :
    Leads P FinP (fun m t => ∃ (σ : Env) (s' : AS) (g' : Goroutine) (w' : World), K s' ∧ ρ.Le σ ∧ Sim P σ (full Z w') (fun _ => False) base s' g' w' ∧ At P W U Z N d g' w' m t ∧ Keep Z w w') m t := by
  refine (At.wk2 (areach_wk (X := X0) (I := fun _ => True) (m := true) k S) hZ rfl h).mono ?_
  rintro m t ⟨g', w', hat, ⟨σ, s', k1, k2, k3⟩, hk⟩
  exact ⟨σ, s', g', w', k1, k2, k3, hat, hk⟩
end
end Go.Am
end
section
set_option linter.unusedVariables false
set_option linter.unusedSectionVars false
set_option linter.unusedSimpArgs false
namespace Go.Ren
open Go.Conc hiding mem_ofEvents Deaf
section
variable {P : Program} {W U Z Z' : Nat → Prop} {N : Nat} {d : Nat} {FinP : Machine → Outcome → World → Trace → Prop} {g g' : Goroutine} {w : World} {m : Machine} {t : Trace}
theorem At.alone (h : At P W U Z N d g w m t) : At P W U (fun b => W b ∨ U b) N d g w m t := by
  obtain ⟨ls, gs, w₁, sl, rfl, hal⟩ := h
  obtain ⟨d', e⟩ := hal.same
  have hsz : w₁.heap.size = w.heap.size := by rw [e]; rfl
  have hti := hal.ti.alone fun k h1 h2 => (hal.lv k (by omega) h2).2.2.2
  refine ⟨ls, gs, w₁, sl, rfl, hal.hN, hal.size, hal.main, rfl, hal.same, hal.deaf, hal.lv, ?_, ?_, hal.unt, hal.wu, hal.norel⟩
  · refine hti.less (fun i b hb => ?_) fun i b hb => .inl hb
    obtain ⟨h1, h2, h3⟩ := hb
    exact ⟨h1, by rw [hsz]; exact h2, fun x => h3 (.inl x)⟩
  · refine ⟨fun i j b hi hj a c => a.1.trans c.1.symm, fun i j b hi hj a c => c.elim, fun i b hi a x => a.2.2 x, fun i b hi x => x.elim, fun i b hi a => by rw [hsz]; exact a.2.1, fun i b hi x => x.elim, hal.own.wlt⟩
end
end Go.Ren
end
