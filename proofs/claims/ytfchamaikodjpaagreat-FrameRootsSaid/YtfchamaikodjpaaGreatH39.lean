/- A part of the proof that the frame keeps its roots: lemmas on which it leans. -/
import Derived.Test.YtfchamaikodjpaaGreatH38
section
set_option linter.unusedVariables false
set_option linter.unusedSectionVars false
set_option linter.unusedSimpArgs false
namespace Go.Mx
open Go.Ren
open Go.Conc hiding Goes mem_ofEvents
open Go.ConcN (sumTo upd upd_same upd_ne RelBy get_map_set get_map_set_same WgLive PermW)
open Go.Conc.Lib (WgLink)
open Go.ConcR (KK WgAt stA smA rd wr g_of_ofEvents loc_of_ofEvent)
theorem one_event (k : Nat) (fn : FuncId) (pos : String) (m : Mark) : MemOp.ofEvents k fn pos #[Go.ConcR.mk m] = #[(⟨k, fn, pos, .mark m⟩ : MemOp)] := by rw [ofEvents_eq]; simp [Go.ConcR.ofEvent_mk]
theorem idle_go {P : Program} {m : Bool} {I : World → Prop} {w : World} {S : Nat → Goroutine → Prop} {d : Nat} {g : Goroutine} (h : IdleD P m I X0 S d g) (hl : I w) : S d g ∨ (¬ S d g ∧ ∃ g', stepG P m g w = .go g' w #[] ∧ IdleD P m I X0 S d g') := by
  by_cases hS : S d g
  · exact .inl hS
  · cases h with
    | stop h => exact absurd h hS
    | step hs f es h k =>
      have h1 := h w hl
      have he : es w = #[] := Array.eq_empty_iff_forall_not_mem.2 fun e he => (h1.2 e he).1
      have h2 := k w hl
      rw [he] at h1 h2
      exact .inr ⟨hS, _, h1.1, h2⟩
theorem EffM.refl (Mu : Nat) (w : World) : EffM Mu w w := ⟨rfl, fun _ _ => rfl, .rfl, rfl, rfl⟩
namespace Ph
variable {p : Ph} {W : Nat → Prop} {j : Nat} {tag : MTag} {x0 : Pos} {bl : Bool} {wt : Nat → WT} {bw : Nat → Bool} {xs ls : Nat → Pos} {O D : Nat → Nat → Prop} {gs : Array Goroutine} {w w' : World} {sl : Option (Nat × Nat)} {t : Trace}
def Nearer (p : Ph) (j : Nat) (wt : Nat → WT) (xs : Nat → Pos) (w : World) (i : Nat) (s' : WT) (x' : Pos) (w' : World) : Prop :=
  ∃ m q m' q', MuAt p.tM p.Mu w m q ∧ m.Bits ∧ MuAt p.tM p.Mu w' m' q' ∧ m'.Bits ∧ (Phi j (fun k => lkOf (upd wt i s' k)) q' < Phi j (fun k => lkOf (wt k)) q ∨
    (m' = m ∧ Phi j (fun k => lkOf (upd wt i s' k)) q' = Phi j (fun k => lkOf (wt k)) q ∧ (rkW m s' < rkW m (wt i) ∨ (s' = wt i ∧ p.WNx i (wt i) x' (xs i)))))
def Moved (p : Ph) (W : Nat → Prop) (j : Nat) (tag : MTag) (x0 : Pos) (wt : Nat → WT) (xs ls : Nat → Pos) (D : Nat → Nat → Prop) (t : Trace) (w : World) (i : Nat) (r : Stepped × Array MemOp) (sl : Option (Nat × Nat)) : Prop :=
  ∃ gs' w' bl' bw' s' x' O', r.1 = .next (crowd gs' w' sl) ∧ p.WSeat i s' x' ∧ Nearer p j wt xs w i s' x' w' ∧ p.MCo W j tag x0 bl' (upd wt i s') bw' (upd xs i x') ls O' D gs' w' (t ++ r.2)
theorem MCo.jn (h : p.MCo W j tag x0 bl wt bw xs ls O D gs w t) : j ≤ p.n := by
  have := h.left
  cases tag <;> simp only [leftM] at this <;> omega
theorem md_to (h : p.MCo W j tag x0 bl wt bw xs ls O D gs w t) {i : Nat} (hi : i < j) {s' : WT} (h5 : 5 ≤ stN (wt i)) (hs : stN s' = 8 ∨ stN s' = 7 ∨ stN s' = 5) (hw : w'.heap[p.Wg]? = w.heap[p.Wg]?) : ∃ a b, WgAt p.L.tWg p.Wg w' a b ∧ Md j (fun k => stN (upd wt i s' k)) tag a b := by
  obtain ⟨a, b, m1, m2⟩ := h.md
  refine ⟨a, b, by unfold WgAt at m1 ⊢; rw [hw]; exact m1, ?_⟩
  rw [upd_fun]
  exact m2.counted hi h5 hs
theorem bl_to (h : p.MCo W j tag x0 bl wt bw xs ls O D gs w t) {i : Nat} (hi : i < j) {s' : WT} (hs : 2 ≤ stN (wt i) → 2 ≤ stN s') : bl = true → ∃ k, k < j ∧ 2 ≤ stN (upd wt i s' k) := fun e => by
  obtain ⟨_, k, h1, h2⟩ := h.blk e
  refine ⟨k, h1, ?_⟩
  by_cases e : k = i
  · subst e; rw [upd_same]; exact hs h2
  · rw [upd_ne wt _ e]; exact h2
theorem lk_same {i : Nat} {s' : WT} (he : lkOf s' = lkOf (wt i)) : (fun k => lkOf (upd wt i s' k)) = fun k => lkOf (wt k) := by
  rw [upd_fun lkOf]
  funext k
  by_cases e : k = i
  · subst e; rw [upd_same]; exact he
  · rw [upd_ne _ _ e]
theorem mi_same (h : p.MCo W j tag x0 bl wt bw xs ls O D gs w t) {i : Nat} {s' : WT} {x' : Pos} (he : lkOf s' = lkOf (wt i)) (hw : w'.heap[p.Mu]? = w.heap[p.Mu]?) :
    ∃ m q, MuAt p.tM p.Mu w' m q ∧ MI p.B j (fun k => lkOf (upd wt i s' k)) m q ∧ (q = 0 ∨ (mayWake p.P (xs i).g = true ∧ x'.g.status = .running) ∨ ∀ k, k < j → bw k = false) := by
  obtain ⟨m, q, h1, h2, h3⟩ := h.mi
  refine ⟨m, q, by unfold MuAt at h1 ⊢; rw [hw]; exact h1, by rw [lk_same he]; exact h2, ?_⟩
  rcases Nat.eq_zero_or_pos q with e | e
  · exact .inl e
  · refine .inr (.inr fun k hk => ?_)
    cases hb : bw k with
    | false => rfl
    | true => have := h3 k hk hb; omega
theorem near_same (h : p.MCo W j tag x0 bl wt bw xs ls O D gs w t) {i : Nat} {s' : WT} {x' : Pos} (he : lkOf s' = lkOf (wt i)) (hw : w'.heap[p.Mu]? = w.heap[p.Mu]?) (hr : (∀ m, rkW m s' < rkW m (wt i)) ∨ (s' = wt i ∧ p.WNx i (wt i) x' (xs i))) : Nearer p j wt xs w i s' x' w' := by
  obtain ⟨m, q, h1, h2, _⟩ := h.mi
  refine ⟨m, q, m, q, h1, h2.bits, by unfold MuAt at h1 ⊢; rw [hw]; exact h1, h2.bits, .inr ⟨rfl, by rw [lk_same he], hr.imp (fun x => x m) id⟩⟩
theorem guar_eff {k : Nat} {es : Array Event} (hW : W p.Mu) (hlt : p.Mu < w.heap.size) (he : EffM p.Mu w w') (hes : ∀ e ∈ es, LibEv p.Mu e) : GuarW (XOk W k) W (O k) (D k) w w' es :=
  ⟨by rw [he.size]; exact Nat.le_refl _, fun c _ _ hc => he.heap c fun e => hc (e ▸ hW), he.os, he.output, he.tape, fun e h => .inl (by have := libEv_ok (k := k) hW hlt (hes e h); exact ⟨this.1, by rw [he.size]; exact this.2⟩)⟩
theorem MCo.quiet (h : p.MCo W j tag x0 bl wt bw xs ls O D gs w t) {i : Nat} (hi : i < j) (hbi : bw i = false) {g' : Goroutine} {es : Array Event} {s' : WT}
    (hgo : stepG p.P false (xs i).g w = .go g' w' es) (he : EffM p.Mu w w') (hes : ∀ e ∈ es, LibEv p.Mu e) (hseat : p.WSeat i s' { xs i with d := deafBehind (xs i).d es, g := g' }) (hh : holds s' ↔ holds (wt i)) (hea : early s' → early (wt i)) (hlkd : locking s' → p.locks i = true) (hph : phase s')
    (hp : p.locks i = true → (past s' ↔ past (wt i))) (hc : ∀ v, s' = .cr v ↔ wt i = .cr v) (h5 : 5 ≤ stN (wt i)) (hs : stN s' = 8 ∨ stN s' = 7)
    (hmi : ∃ m q, MuAt p.tM p.Mu w' m q ∧ MI p.B j (fun k => lkOf (upd wt i s' k)) m q ∧ (q = 0 ∨ (mayWake p.P (xs i).g = true ∧ g'.status = .running) ∨ ∀ k, k < j → bw k = false)) :
    ∃ gs' bl' bw' O', runT p.P (crowd gs w sl) (p.n0 + i) = (.next (crowd gs' w' sl), MemOp.ofEvents (p.n0 + i) (xs i).g.frame.fn (xs i).g.frame.place es) ∧
      p.MCo W j tag x0 bl' (upd wt i s') bw' (upd xs i { xs i with d := deafBehind (xs i).d es, g := g' }) ls O' D gs' w' (t ++ MemOp.ofEvents (p.n0 + i) (xs i).g.frame.fn (xs i).g.frame.place es) := by
  have hlt : p.Mu < w.heap.size := h.own.wlt _ (.inl h.hW.2.1)
  have hCM : p.C ≠ p.Mu := fun e => h.hW.2.2.2.1 (e ▸ h.hW.2.1)
  refine h.worker (sl := sl) hi hbi (x' := { xs i with d := deafBehind (xs i).d es, g := g' }) hgo (guar_eff h.hW.2.1 hlt he hes) rfl hseat hh (fun e => ?_) hlkd hph (Cell.same h.cell hi hp hc (.inr (he.heap _ hCM))) (fun e => by omega) (fun e he => libEv_norel (hes e he)) hmi
    (md_to h hi h5 (by omega) (he.heap _ h.hW.2.2.1)) (fun bl' hb _ _ => bl_to h hi (fun _ => by omega) hb)
  obtain ⟨a, b, c⟩ := h.wO i hi (hea e)
  refine ⟨by rw [grow_eq he.size]; exact a, b, ?_⟩
  show Rely (xs i).O (xs i).D (xs i).w w'
  rw [a, b]
  refine c.trans ⟨by rw [he.size]; exact Nat.le_refl _, fun b hb => he.heap b fun e => h.ownW.ow _ b (by omega) hb (e ▸ h.hW.2.1), fun b hb => he.heap b fun e => h.ownW.dw _ b (by omega) hb (e ▸ h.hW.2.1), he.os, he.output, he.tape⟩
theorem MCo.wsleep (h : p.MCo W j tag x0 bl wt bw xs ls O D gs w t) {i : Nat} (hi : i < j) (hbi : bw i = false) (hw : p.Waits i (wt i) (xs i)) (hq : ∀ m q, MuAt p.tM p.Mu w m q → q = 0) (hgo : stepG p.P false (xs i).g w = .go { (xs i).g with status := .blocked } w #[]) :
    ∃ gs' ops, runT p.P (crowd gs w sl) (p.n0 + i) = (.next (crowd gs' w sl), ops) ∧ p.MCo W j tag x0 bl wt (upd bw i true) xs ls O D gs' w (t ++ ops) := by
  obtain ⟨hgi, hsi, hdi⟩ := h.wk i hi
  rw [hbi] at hgi
  simp only [Bool.false_eq_true, if_false] at hgi
  have hsz := h.size
  have hpos : p.n0 + i ≠ 0 := by have := h.hn0; omega
  have hgo' : stepG p.P ((p.n0 + i) == 0) (xs i).g w = .go { (xs i).g with status := .blocked } w #[] := by
    have : ((p.n0 + i) == 0) = false := by simp; omega
    rw [this]; exact hgo
  have hrun := runT_crowd_go (P := p.P) (sl := sl) hgi hgo'
  have ew : woken p.P (xs i).g { (xs i).g with status := .blocked } w = id := by funext o; simp [woken]
  rw [ew, Array.map_id] at hrun
  have e0 : t ++ MemOp.ofEvents (p.n0 + i) (xs i).g.frame.fn (xs i).g.frame.place #[] = t := by simp [MemOp.ofEvents]
  refine ⟨_, _, hrun, ?_⟩
  rw [e0]
  refine ⟨h.hn0, by simpa using hsz, by rw [Array.getElem?_setIfInBounds_ne (by omega)]; exact h.main, h.blk, h.seat, h.O0, h.D0, h.rely, h.deaf, fun k hk => ?_, fun k hk hb => ?_, h.wO, h.lkd, h.ph, fun k h1 h2 => ?_, h.ti, h.own, h.hW, h.tok, h.hold, h.cell, h.over, h.norel, ?_, h.md, h.left⟩
  · obtain ⟨a1, a2⟩ := h.wk k hk
    refine ⟨?_, a2⟩
    by_cases e : k = i
    · subst e
      rw [upd_same]
      rw [Array.getElem?_setIfInBounds_self_of_lt (by rw [hsz]; omega)]
      rfl
    · rw [upd_ne bw _ e, Array.getElem?_setIfInBounds_ne (by omega)]
      exact a1
  · by_cases e : k = i
    · subst e; exact hw
    · rw [upd_ne bw _ e] at hb; exact h.bs k hk hb
  · obtain ⟨a1, a2⟩ := h.lv k h1 h2
    exact ⟨by rw [Array.getElem?_setIfInBounds_ne (by omega)]; exact a1, a2⟩
  · obtain ⟨m, q, h1, h2, _⟩ := h.mi
    exact ⟨m, q, h1, h2, fun _ _ _ => hq m q h1⟩
theorem MCo.take (h : p.MCo W j tag x0 bl wt bw xs ls O D gs w t) {i : Nat} (hi : i < j) (hbi : bw i = false) (hs : wt i = .ac) (hd0 : (xs i).d = 0) {g' : Goroutine}
    (hgo : stepG p.P false (xs i).g w = .go g' w #[Go.ConcR.mk (.acquire (stA p.Mu))]) (hT : p.CrT i (xs i).O (xs i).D (xs i).w g') :
    ∃ gs' bl' bw' v x' O' ops, runT p.P (crowd gs w sl) (p.n0 + i) = (.next (crowd gs' w sl), ops) ∧ p.WSeat i (.cr v) x' ∧ p.MCo W j tag x0 bl' (upd wt i (.cr v)) bw' (upd xs i x') ls O' D gs' w (t ++ ops) := by
  obtain ⟨hgi, hsi, hdi⟩ := h.wk i hi
  have hdi' := hdi
  rw [hd0] at hdi'
  rw [hbi] at hgi
  simp only [Bool.false_eq_true, if_false] at hgi
  have hsz := h.size
  have hn0 := h.hn0
  have hlt : p.Mu < w.heap.size := h.own.wlt _ (.inl h.hW.2.1)
  have hfr : free j wt := fun k hk hh => by
    have := h.one hi hk (by rw [hs]; rfl) (holds_own hh)
    subst this
    rw [hs] at hh
    exact hh
  obtain ⟨order, c1, c2, c3, c4, c5⟩ := h.cell
  have hcell := c5 fun k hk v e => hfr k hk (by rw [e]; trivial)
  obtain ⟨a, b, c⟩ := h.wO i hi (by rw [hs]; trivial)
  have hnO : ¬ O (p.n0 + i) p.C := fun x => h.own.ow _ _ (by omega) x (.inr ⟨hfr, rfl⟩)
  have hnD : ¬ D (p.n0 + i) p.C := fun x => h.own.dw _ _ (by omega) x (.inr ⟨hfr, rfl⟩)
  have hwk := hT w (p.fold order) (by rw [a, b]; exact c) c3 hcell (by rw [a]; exact hnO) (by rw [b]; exact hnD) h.hW.2.2.2.2
  have hes : ∀ e ∈ #[Go.ConcR.mk (.acquire (stA p.Mu))], LibEv p.Mu e := by intro e he; rw [Array.mem_singleton] at he; exact .inr (.inr (.inr (.inl he)))
  have hG := guar_eff (p := p) (k := p.n0 + i) (O := O) (D := D) h.hW.2.1 hlt (EffM.refl p.Mu w) hes
  have hti := h.ti
  have hown := h.ownW
  rw [← hsz] at hti hown
  have hgo' : stepG p.P ((p.n0 + i) == 0) (xs i).g w = .go g' w #[Go.ConcR.mk (.acquire (stA p.Mu))] := by
    have : ((p.n0 + i) == 0) = false := by simp; omega
    rw [this]; exact hgo
  obtain ⟨_, hti', _⟩ := core_step (sl := sl) hgi hgo' hti hown hG
  rw [hsz, with_none] at hti'
  have e1 := one_event (p.n0 + i) (xs i).g.frame.fn (xs i).g.frame.place (.acquire (stA p.Mu))
  have hperm : ∀ l, inB (· = p.C) l → Perm (t ++ MemOp.ofEvents (p.n0 + i) (xs i).g.frame.fn (xs i).g.frame.place #[Go.ConcR.mk (.acquire (stA p.Mu))]) (p.n0 + i) l := by
    rw [e1]
    exact (h.tok hfr).acquire (z := ⟨p.n0 + i, (xs i).g.frame.fn, (xs i).g.frame.place, .mark (.acquire (stA p.Mu))⟩) (by show p.n0 + i < p.n0 + j; omega) (Nat.le_add_right _ _) rfl hdi' (h.norel _)
  have hnf : ¬ free j (upd wt i (.cr (p.fold order))) := fun hf => hf i hi (by rw [upd_same]; trivial)
  have hown1 : Own (fun b => W b ∨ (True ∧ b = p.C)) O D (p.n0 + j) w.heap.size := by
    have := h.own
    rw [pred_eq (iff_true_intro hfr)] at this
    exact this
  have et : takeO O (p.n0 + i) p.C (p.n0 + i) = fun b => O (p.n0 + i) b ∨ b = p.C := by
    funext b
    unfold takeO
    exact propext ⟨fun x => x.imp id fun y => y.2, fun x => x.imp id fun y => ⟨rfl, y⟩⟩
  have hseat : p.WSeat i (.cr (p.fold order)) ⟨fun b => (xs i).O b ∨ b = p.C, (xs i).D, 0, g', w⟩ := hwk
  have hcell' : p.Cell j (upd wt i (.cr (p.fold order))) w := by
    refine ⟨order, c1, fun k => ?_, c3, fun k hk v e => ?_, fun hn => absurd (upd_same wt i _) (hn i hi _)⟩
    · rw [c2]
      by_cases e : k = i
      · subst e
        rw [upd_same, hs]
        exact ⟨fun x => x.2.2.elim, fun x => x.2.2.elim⟩
      · rw [upd_ne wt _ e]
    · by_cases e' : k = i
      · subst e'; rw [upd_same] at e; cases e; rfl
      · rw [upd_ne wt _ e'] at e
        exact absurd (show holds (wt k) by rw [e]; trivial) (hfr k hk)
  obtain ⟨gs', bl', bw', k1, k2⟩ := h.worker0 (sl := sl) hi hbi (x' := ⟨fun b => (xs i).O b ∨ b = p.C, (xs i).D, 0, g', w⟩) (es := #[Go.ConcR.mk (.acquire (stA p.Mu))]) (w' := w) (s' := .cr (p.fold order)) (O' := takeO O (p.n0 + i) p.C) hgo
    (by rw [hd0]; rfl) hseat (Nat.le_refl _) (fun k hk hne => .refl _) (fun k hk => by funext b; unfold takeO; exact propext ⟨fun x => x.resolve_right fun y => hk y.1, .inl⟩) (Go.Mx.TI.take hti' hperm) (Go.Mx.Own.take hown1 (by omega) h.hW.2.2.2.1 _ hnf)
    (fun _ => ⟨by show (fun b => (xs i).O b ∨ b = p.C) = _; rw [et, a], b, .refl _⟩) (fun _ => h.lkd i hi (by rw [hs]; trivial)) trivial (fun hf => absurd hf hnf) (fun _ => .inr ⟨rfl, rfl⟩) hcell' (fun e => by simp [stN] at e) (fun e he => libEv_norel (hes e he))
    (mi_same h (by rw [hs]; rfl) rfl) (md_to h hi (by rw [hs]; simp [stN]) (.inl rfl) rfl) (fun bl' hb _ _ => bl_to h hi (fun _ => by simp [stN]) hb)
  exact ⟨gs', bl', bw', _, _, _, _, k1, hseat, k2⟩
theorem MCo.give (h : p.MCo W j tag x0 bl wt bw xs ls O D gs w t) {i : Nat} (hi : i < j) (hbi : bw i = false) (hs : wt i = .rl) (hd0 : (xs i).d = 0) {g' : Goroutine}
    (hgo : stepG p.P false (xs i).g w = .go g' w #[Go.ConcR.mk (.releaseMerge (stA p.Mu))]) (hseat : p.WSeat i .ds { xs i with d := 0, g := g' }) :
    ∃ gs' bl' bw' O' ops, runT p.P (crowd gs w sl) (p.n0 + i) = (.next (crowd gs' w sl), ops) ∧ p.MCo W j tag x0 bl' (upd wt i .ds) bw' (upd xs i { xs i with d := 0, g := g' }) ls O' D gs' w (t ++ ops) := by
  obtain ⟨hgi, hsi, hdi⟩ := h.wk i hi
  have hdi' := hdi
  rw [hd0] at hdi'
  rw [hbi] at hgi
  simp only [Bool.false_eq_true, if_false] at hgi
  have hsz := h.size
  have hn0 := h.hn0
  have hlt : p.Mu < w.heap.size := h.own.wlt _ (.inl h.hW.2.1)
  have hhold := h.hold i hi (by rw [hs]; trivial)
  have hnfr : ¬ free j wt := fun hf => hf i hi (by rw [hs]; trivial)
  have hes : ∀ e ∈ #[Go.ConcR.mk (.releaseMerge (stA p.Mu))], LibEv p.Mu e := by intro e he; rw [Array.mem_singleton] at he; exact .inr (.inr (.inl he))
  have hG := guar_eff (p := p) (k := p.n0 + i) (O := O) (D := D) h.hW.2.1 hlt (EffM.refl p.Mu w) hes
  have hti := h.ti
  have hown := h.ownW
  rw [← hsz] at hti hown
  have hgo' : stepG p.P ((p.n0 + i) == 0) (xs i).g w = .go g' w #[Go.ConcR.mk (.releaseMerge (stA p.Mu))] := by
    have : ((p.n0 + i) == 0) = false := by simp; omega
    rw [this]; exact hgo
  obtain ⟨_, hti', _⟩ := core_step (sl := sl) hgi hgo' hti hown hG
  rw [hsz, with_none] at hti'
  have e1 := one_event (p.n0 + i) (xs i).g.frame.fn (xs i).g.frame.place (.releaseMerge (stA p.Mu))
  have hown1 : Own (fun b => W b ∨ (False ∧ b = p.C)) O D (p.n0 + j) w.heap.size := by
    have := h.own
    rw [pred_eq (iff_false_intro hnfr)] at this
    exact this
  have hO' : ∀ k, k ≠ p.n0 + i → giveO O (p.n0 + i) p.C k = O k := fun k hk => by
    funext b
    unfold giveO
    exact propext ⟨fun x => x.1, fun x => ⟨x, fun e => hk e.1⟩⟩
  have htok : free j (upd wt i .ds) → FreeTok p.C p.Mu p.n0 (t ++ MemOp.ofEvents (p.n0 + i) (xs i).g.frame.fn (xs i).g.frame.place #[Go.ConcR.mk (.releaseMerge (stA p.Mu))]) (p.n0 + j) := fun _ => by
    rw [e1]
    exact FreeTok.release (y := ⟨p.n0 + i, (xs i).g.frame.fn, (xs i).g.frame.place, .mark (.releaseMerge (stA p.Mu))⟩) (fun l hl => h.ti.own (p.n0 + i) (by omega) l (inB_mono (fun b (hb : b = p.C) => hb ▸ hhold) hl)) rfl hdi'
  have hcell' : p.Cell j (upd wt i .ds) w := Cell.same h.cell hi (fun _ => by rw [hs]; exact ⟨fun _ => trivial, fun _ => trivial⟩) (fun v => by rw [hs]; exact ⟨fun e => (by cases e), fun e => (by cases e)⟩) (.inr rfl)
  obtain ⟨gs', bl', bw', k1, k2⟩ := h.worker0 (sl := sl) hi hbi (x' := { xs i with d := 0, g := g' }) (es := #[Go.ConcR.mk (.releaseMerge (stA p.Mu))]) (w' := w) (s' := .ds) (O' := giveO O (p.n0 + i) p.C) hgo
    (by rw [hd0]; rfl) hseat (Nat.le_refl _) (fun k hk hne => .refl _) hO' (Go.Mx.TI.give (p.n0 + i) hti') (Go.Mx.Own.give hown1 (i := p.n0 + i) (by omega) hhold h.hW.2.2.2.2 _)
    (fun e => e.elim) (fun _ => h.lkd i hi (by rw [hs]; trivial)) trivial htok (fun e => e.elim) hcell' (fun e => by simp [stN] at e) (fun e he => libEv_norel (hes e he))
    (mi_same h (by rw [hs]; rfl) rfl) (md_to h hi (by rw [hs]; simp [stN]) (.inl rfl) rfl) (fun bl' hb _ _ => bl_to h hi (fun _ => by simp [stN]) hb)
  exact ⟨gs', bl', bw', _, _, k1, k2⟩
end Ph
end Go.Mx
end
