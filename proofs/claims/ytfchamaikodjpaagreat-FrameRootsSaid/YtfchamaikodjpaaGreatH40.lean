/- A part of the proof that the frame keeps its roots: lemmas on which it leans. -/
import Derived.Test.YtfchamaikodjpaaGreatH39
section
set_option linter.unusedVariables false
set_option linter.unusedSectionVars false
set_option linter.unusedSimpArgs false
namespace Go.Mx
open Go.Ren
open Go.Conc hiding Goes mem_ofEvents
open Go.ConcN (sumTo upd upd_same upd_ne RelBy get_map_set get_map_set_same WgLive PermW)
open Go.Conc.Lib (WgLink)
open Go.ConcR (KK WgAt stA smA rd wr g_of_ofEvents loc_of_ofEvent)
theorem Nx.ofL {R : Lk → Nat → Goroutine → Prop} {E : Nat → Goroutine → Prop} {y : Lk} {d : Nat} {g : Goroutine} (hy : isL y) (h : Nx R E y d g) : R y d g := by
  cases y <;> first | exact h | exact hy.elim
theorem Nx.ofU {R : Lk → Nat → Goroutine → Prop} {E : Nat → Goroutine → Prop} {y : Lk} {d : Nat} {g : Goroutine} (hy : isU y) (ho : y ≠ .own) (h : Nx R E y d g) : R y d g := by
  cases y <;> first | exact h | exact absurd rfl ho | exact hy.elim
theorem Mv.not_own {m m' : Wd} {q q' : Nat} {x y : Lk} (h : Mv m q x m' q' y) (hx : isU x) : y ≠ .own := by
  cases h <;> first | (intro e; cases e; done) | exact hx.elim
theorem Mv.q_le {m m' : Wd} {q q' : Nat} {x y : Lk} (h : Mv m q x m' q' y) (hx : x ≠ .us) : q' ≤ q := by
  cases h <;> first | exact Nat.le_refl _ | exact Nat.le_succ _ | exact absurd rfl hx
namespace Ph
variable {p : Ph} {W : Nat → Prop} {j : Nat} {tag : MTag} {x0 : Pos} {bl : Bool} {wt : Nat → WT} {bw : Nat → Bool} {xs ls : Nat → Pos} {O D : Nat → Nat → Prop} {gs : Array Goroutine} {w w' : World} {sl : Option (Nat × Nat)} {t : Trace}
theorem MCo.notC (h : p.MCo W j tag x0 bl wt bw xs ls O D gs w t) {i : Nat} (hi : i < j) (hn : ¬ holds (wt i)) : ¬ O (p.n0 + i) p.C := by
  intro hO
  by_cases hf : free j wt
  · exact h.own.ow _ _ (by omega) hO (.inr ⟨hf, rfl⟩)
  · apply hf
    intro k hk hh
    have h1 := h.hold k hk hh
    have := h.own.oo _ _ _ (by omega) (by omega) hO h1
    have : i = k := by omega
    subst this
    exact hn hh
theorem MCo.lib (h : p.MCo W j tag x0 bl wt bw xs ls O D gs w t) {i : Nat} (hi : i < j) (hbi : bw i = false) {g' : Goroutine} {es : Array Event} {k k' : Nat} (hs : wt i = .fin k)
    (hgo : stepG p.P false (xs i).g w = .go g' w' es) (hw : w' = w ∨ ∃ a v, a.block = p.Wg ∧ w' = w.setCell a v) (hes : ∀ e ∈ es, LibEv p.Wg e) (hseat : p.WSeat i (.fin k') { xs i with d := deafBehind (xs i).d es, g := g' })
    (hover : k' ≤ 5 → ∃ r, Over (stA p.Wg) W (t ++ MemOp.ofEvents (p.n0 + i) (xs i).g.frame.fn (xs i).g.frame.place es) (p.n0 + i) r)
    (hmd : ∃ a b, WgAt p.L.tWg p.Wg w' a b ∧ Md j (upd (fun k => stN (wt k)) i k') tag a b)
    (hbl : ∀ bl' : Bool, bl = true → (mayWake p.P (xs i).g = true → (g'.status = .running ∨ g'.status = .finished) → bl' = false) → bl' = true → ∃ q, q < j ∧ 2 ≤ stN (upd wt i (.fin k') q)) :
    ∃ gs' bl' bw' O', runT p.P (crowd gs w sl) (p.n0 + i) = (.next (crowd gs' w' sl), MemOp.ofEvents (p.n0 + i) (xs i).g.frame.fn (xs i).g.frame.place es) ∧
      p.MCo W j tag x0 bl' (upd wt i (.fin k')) bw' (upd xs i { xs i with d := deafBehind (xs i).d es, g := g' }) ls O' D gs' w' (t ++ MemOp.ofEvents (p.n0 + i) (xs i).g.frame.fn (xs i).g.frame.place es) := by
  have hlt : p.Wg < w.heap.size := h.own.wlt _ (.inl h.hW.1)
  have hev : ∀ e ∈ es, XOk W (p.n0 + i) e ∧ (MemAct.ofEvent e).low w.heap.size := fun e he => libEv_ok h.hW.1 hlt (hes e he)
  have hG : GuarW (XOk W (p.n0 + i)) W (O (p.n0 + i)) (D (p.n0 + i)) w w' es := by
    rcases hw with rfl | ⟨a, v, ha, rfl⟩
    · exact guarW_said hev
    · exact guarW_cell (by rw [ha]; exact h.hW.1) hev
  have hoth : ∀ b, b ≠ p.Wg → w'.heap[b]? = w.heap[b]? := fun b hb => by
    rcases hw with rfl | ⟨a, v, ha, rfl⟩
    · rfl
    · exact setCell_other (by rw [ha]; exact hb)
  have hCW : p.C ≠ p.Wg := fun e => h.hW.2.2.2.1 (e ▸ h.hW.1)
  refine h.worker (sl := sl) hi hbi (x' := { xs i with d := deafBehind (xs i).d es, g := g' }) hgo hG rfl hseat (by rw [hs]; exact Iff.rfl) (fun e => e.elim) (fun e => e.elim) trivial
    (Cell.same h.cell hi (fun _ => by rw [hs]; exact Iff.rfl) (fun v => by rw [hs]; exact ⟨fun e => (by cases e), fun e => (by cases e)⟩) (.inr (hoth _ hCW))) hover (fun e he => libEv_norel (hes e he))
    (mi_same h (by rw [hs]; rfl) (hoth _ h.hW.2.2.1.symm)) ?_ hbl
  obtain ⟨a, b, m1, m2⟩ := hmd
  exact ⟨a, b, m1, by rw [upd_fun]; exact m2⟩
theorem near_fin (h : p.MCo W j tag x0 bl wt bw xs ls O D gs w t) {i k k' : Nat} (hs : wt i = .fin k) {x' : Pos} (hw : w'.heap[p.Mu]? = w.heap[p.Mu]?) (hr : k' < k ∨ (k' = k ∧ p.WNx i (.fin k) x' (xs i))) : Nearer p j wt xs w i (.fin k') x' w' := by
  refine near_same h (by rw [hs]; rfl) hw ?_
  rw [hs]
  exact hr.imp (fun x _ => x) (fun ⟨e, x⟩ => ⟨by rw [e], x⟩)
theorem MCo.stepF (hn : p.n < 2147483647) (h : p.MCo W j tag x0 bl wt bw xs ls O D gs w t) {i : Nat} (hi : i < j) (hbi : bw i = false) (hr : (xs i).g.status = .running) {s : Nat} (hs : wt i = .fin s) :
    Moved p W j tag x0 wt xs ls D t w i (runT p.P (crowd gs w sl) (p.n0 + i)) sl := by
  obtain ⟨hgi, hsi, hdi⟩ := h.wk i hi
  have hinv := h.inv
  have hl : Lv p.L p.Wg w := hinv.1
  have hj := h.jn
  have hMW : p.Mu ≠ p.Wg := h.hW.2.2.1.symm
  obtain ⟨st, hst⟩ : ∃ st : Nat → Nat, st = fun k => stN (wt k) := ⟨_, rfl⟩
  have hsti : st i = s := by rw [hst]; show stN (wt i) = s; rw [hs]; rfl
  have hMd : ∃ a b, WgAt p.L.tWg p.Wg w a b ∧ Md j st tag a b := by rw [hst]; exact h.md
  have toS : ∀ k' k, stN (upd wt i (.fin k') k) = upd st i k' k := fun k' k => by
    have := congrFun (upd_fun stN wt i (.fin k')) k
    rw [hst]; exact this
  have fin : ∀ {k' : Nat} {g' : Goroutine} {w' : World} {es : Array Event}, (w'.heap[p.Mu]? = w.heap[p.Mu]?) → p.WSeat i (.fin k') { xs i with d := deafBehind (xs i).d es, g := g' } → (k' < s ∨ (k' = s ∧ p.WNx i (.fin s) { xs i with d := deafBehind (xs i).d es, g := g' } (xs i))) →
      (∃ gs' bl' bw' O', runT p.P (crowd gs w sl) (p.n0 + i) = (.next (crowd gs' w' sl), MemOp.ofEvents (p.n0 + i) (xs i).g.frame.fn (xs i).g.frame.place es) ∧
        p.MCo W j tag x0 bl' (upd wt i (.fin k')) bw' (upd xs i { xs i with d := deafBehind (xs i).d es, g := g' }) ls O' D gs' w' (t ++ MemOp.ofEvents (p.n0 + i) (xs i).g.frame.fn (xs i).g.frame.place es)) →
      Moved p W j tag x0 wt xs ls D t w i (runT p.P (crowd gs w sl) (p.n0 + i)) sl := by
    rintro k' g' w' es hw hseat ho ⟨gs', bl', bw', O', h1, h2⟩
    exact ⟨gs', w', bl', bw', _, _, O', by rw [h1], hseat, near_fin h hs hw ho, by rw [h1]; exact h2⟩
  have mdsame : ∃ a b, WgAt p.L.tWg p.Wg w a b ∧ Md j (upd (fun k => stN (wt k)) i s) tag a b := by
    obtain ⟨a, b, m1, m2⟩ := hMd
    rw [← hst]
    exact ⟨a, b, m1, m2.same hsti⟩
  have blsame : ∀ {k'}, (2 ≤ s → 2 ≤ k') → bl = true → ∃ k, k < j ∧ 2 ≤ stN (upd wt i (.fin k') k) := fun hk => bl_to h hi (by rw [hs]; exact hk)
  have overI : s ≤ 5 → ∃ r, Over (stA p.Wg) W t (p.n0 + i) r := fun h5 => h.over i hi (by rw [hs]; exact h5)
  have idle : ∀ {S : Nat → Goroutine → Prop}, 2 ≤ s → (∀ x : Pos, p.WSeat i (.fin s) x = IdleD p.P false (Lv p.L p.Wg) X0 S x.d x.g) → p.WNx i (.fin s) = NxI p.P false (Lv p.L p.Wg) S →
      ¬ S (xs i).d (xs i).g → (∃ g', stepG p.P false (xs i).g w = .go g' w #[] ∧ IdleD p.P false (Lv p.L p.Wg) X0 S (xs i).d g') →
      Moved p W j tag x0 wt xs ls D t w i (runT p.P (crowd gs w sl) (p.n0 + i)) sl := by
    rintro S h2 hW hN hnS ⟨g', hgo, hid⟩
    have hseat : p.WSeat i (.fin s) { xs i with d := deafBehind (xs i).d #[], g := g' } := by rw [hW]; exact hid
    refine fin (k' := s) (es := #[]) rfl hseat (.inr ⟨rfl, ?_⟩) (h.lib hi hbi hs hgo (.inl rfl) (by simp) hseat (fun h5 => ?_) mdsame (fun bl' hb _ _ => blsame (fun _ => h2) hb))
    · rw [hN]
      exact ⟨hnS, w, w, #[], hl, hgo, rfl⟩
    · obtain ⟨r, hr⟩ := overI h5
      exact ⟨r, by simpa [MemOp.ofEvents] using hr⟩
  rw [hs] at hsi
  match s, hsi with
  | 7, hsi =>
    rcases idle_none hsi hl with hx | ⟨hn', hx⟩
    · obtain ⟨hd0, hst', g', hgo, hid⟩ := hx
      have hseat : p.WSeat i (.fin 5) { xs i with d := deafBehind (xs i).d #[Go.ConcR.mk (.releaseMerge (stA p.Wg))], g := g' } := by
        show IdleD p.P false (Lv p.L p.Wg) XD (WAdd p.P p.L p.Wg) (deafBehind (xs i).d #[Go.ConcR.mk (.releaseMerge (stA p.Wg))]) g'
        rw [hd0]; exact hid
      refine fin (k' := 5) rfl hseat (.inl (by omega)) (h.lib hi hbi hs (hgo w hl) (.inl rfl) (by intro e he; rw [Array.mem_singleton] at he; exact .inr (.inr (.inl he))) hseat
        (fun _ => ⟨_, Over.new (by rw [hdi]; exact hd0)⟩) ?_ (fun bl' hb _ _ => blsame (fun _ => by omega) hb))
      obtain ⟨a, b, m1, m2⟩ := hMd
      rw [← hst]
      exact ⟨a, b, m1, m2.counted hi (by omega) (.inr (.inr rfl))⟩
    · exact idle (by omega) (fun x => rfl) rfl hn' hx
  | 5, hsi =>
    obtain ⟨r, hov⟩ := overI (by omega)
    by_cases hx : WAdd p.P p.L p.Wg (xs i).d (xs i).g
    · obtain ⟨hd1, hst', hall⟩ := hx
      obtain ⟨a, b, m1, m2⟩ := hMd
      have bk2 : ∀ e ∈ #[rd (stA p.Wg), wr (stA p.Wg)], Go.ConcR.Bk p.Wg e := by intro e he; simp at he; rcases he with rfl | rfl <;> exact .inr (.inr ⟨_, _, rfl, rfl⟩)
      have lb2 : ∀ e ∈ #[rd (stA p.Wg), wr (stA p.Wg)], LibEv p.Wg e := by intro e he; simp at he; rcases he with rfl | rfl <;> exact .inr (.inr (.inr (.inr ⟨_, _, rfl, rfl⟩)))
      have df2 : ∀ jx e, (#[rd (stA p.Wg), wr (stA p.Wg)] : Array Event)[jx]? = some e → (MemAct.ofEvent e).touch? = none ∨ 0 < deafBehind 1 ((#[rd (stA p.Wg), wr (stA p.Wg)] : Array Event).extract 0 jx) := by
        intro jx e he
        match jx, he with
        | 0, _ => exact .inr (by simp [deafBehind])
        | 1, _ => exact .inr (by simp [deafBehind, rd])
        | jx + 2, he => simp at he
      have hV1 := Vn_pos hi (by omega : 5 ≤ st i)
      have hVj := Vn_le j st
      have hupd := fun s (hi : i < j) => Vn_upd (st := st) (i := i) (j := j) s hi
      have c5 : cntW (st i) = 1 := by rw [hsti]; rfl
      have dd2 : deafBehind 1 #[rd (stA p.Wg), wr (stA p.Wg)] = 1 := by simp [deafBehind, rd, wr]
      have go : ∀ v wtt : Nat, wtt ≤ 1 → v < 2147483647 → WgAt p.L.tWg p.Wg w ((v + 1) * KK + wtt) 0 → ∀ s', ((v = 0 ∧ wtt = 1) → s' = 4) → (¬ (v = 0 ∧ wtt = 1) → s' = 1) → Md j (upd st i s') tag (v * KK + wtt) 0 → (bl = true → ∃ k, k < j ∧ 2 ≤ upd st i s' k) →
          Moved p W j tag x0 wt xs ls D t w i (runT p.P (crowd gs w sl) (p.n0 + i)) sl := by
        intro v wtt h1 h2 h3 s' hs4 hs1 hmd hb
        obtain ⟨g', hgo, hq4, hq1⟩ := hall v wtt h1 h2
        have hseat : p.WSeat i (.fin s') { xs i with d := deafBehind (xs i).d #[rd (stA p.Wg), wr (stA p.Wg)], g := g' } := by
          by_cases hc : v = 0 ∧ wtt = 1
          · rw [hs4 hc]
            show IdleD p.P false (Lv p.L p.Wg) X0 (WLd p.P p.L p.Wg) (deafBehind (xs i).d #[rd (stA p.Wg), wr (stA p.Wg)]) g'
            rw [hd1, dd2]; exact hq4 hc
          · rw [hs1 hc]
            show ∃ q, QuitsD p.P q (deafBehind (xs i).d #[rd (stA p.Wg), wr (stA p.Wg)]) g'
            rw [hd1, dd2]; exact hq1 hc
        have hs'5 : s' < 5 := by
          by_cases hc : v = 0 ∧ wtt = 1
          · rw [hs4 hc]; omega
          · rw [hs1 hc]; omega
        refine fin (k' := s') ((setCell_other (a := stA p.Wg) hMW)) hseat (.inl hs'5) (h.lib hi hbi hs (hgo w hl h3) (.inr ⟨_, _, rfl, rfl⟩) lb2 hseat (fun _ => ⟨r, hov.book h.hW.1 (by rw [hdi, hd1]) bk2 df2⟩) ⟨_, _, h3.setSt _, by rw [← hst]; exact hmd⟩ (fun bl' hb' _ _ => ?_))
        obtain ⟨k, hk, h2⟩ := hb hb'
        exact ⟨k, hk, by rw [toS]; exact h2⟩
      cases m2 with
      | @opn tag h1 h2 h3 =>
        obtain ⟨v, hv⟩ : ∃ v, Vn j st + pendM tag = v + 1 := ⟨Vn j st + pendM tag - 1, by omega⟩
        have hpend : pendM tag ≤ 1 := by unfold pendM; split <;> omega
        have hV' : Vn j (upd st i 1) + 1 = Vn j st := by have := hupd 1 hi; have : cntW 1 = 0 := rfl; omega
        refine go v 0 (by omega) (by omega) (by rw [hv] at m1; simpa using m1) 1 (fun x => by omega) (fun _ => rfl) ?_ (fun e => ?_)
        · have e2 : v = Vn j (upd st i 1) + pendM tag := by omega
          have := Md.opn (j := j) (st := upd st i 1) h1 (h2.upd (by simp)) (bndM_mono (by omega) h3)
          rw [e2]; simpa using this
        · obtain ⟨⟨gT, e1, _⟩, _⟩ := h.blk e
          subst e1; exact h1.elim
      | @reg gT h2 h3 =>
        have hV' : ∀ s', cntW s' = 0 → Vn j (upd st i s') + 1 = Vn j st := fun s' h0 => by have := hupd s' hi; omega
        obtain ⟨v, hv⟩ : ∃ v, Vn j st = v + 1 := ⟨Vn j st - 1, by omega⟩
        rw [hv] at m1
        rcases Nat.eq_zero_or_pos v with rfl | hvp
        · have hoth := others_quit h2 hi (by omega) (by omega)
          refine go 0 1 (by omega) (by omega) (by simpa using m1) 4 (fun _ => rfl) (fun x => absurd ⟨rfl, rfl⟩ x) ?_ (fun _ => ⟨i, hi, by rw [upd_same]; omega⟩)
          have := Md.last (gT := gT) (j := j) (st := upd st i 4) i hi (.inl (upd_same _ _ _)) (fun k hk e => by rw [upd_ne st _ e]; exact hoth k hk e)
          simpa [upd_same] using this
        · refine go v 1 (by omega) (by omega) (by simpa using m1) 1 (fun x => by omega) (fun _ => rfl) ?_ (fun _ => ?_)
          · have := Md.reg (gT := gT) (j := j) (st := upd st i 1) (h2.upd (by simp)) (by have := hV' 1 rfl; omega)
            have e2 : v = Vn j (upd st i 1) := by have := hV' 1 rfl; omega
            rw [e2]; simpa using this
          · obtain ⟨k, hk, h5⟩ := exists_cnt (j := j) (st := upd st i 1) (by have := hV' 1 rfl; omega)
            exact ⟨k, hk, by omega⟩
      | last K h2 h3 h4 =>
        by_cases e : i = K
        · subst e; omega
        · have := h4 i hi e; omega
      | sema h2 => have := h2 i hi; omega
      | fin h1 h2 => have := h2 i hi; omega
    · have hsi' : IdleD p.P false (Lv p.L p.Wg) XD (WAdd p.P p.L p.Wg) (xs i).d (xs i).g := hsi
      generalize hdd : (xs i).d = dd at hsi' hx
      generalize hgg : (xs i).g = gg at hsi' hx
      cases hsi' with
      | stop hy => exact absurd hy hx
      | step hst' f es hk k =>
        obtain ⟨hgo, he⟩ := hk w hl
        have hnext := k w hl
        have hseat : p.WSeat i (.fin 5) { xs i with d := deafBehind (xs i).d (es w), g := f w } := by
          show IdleD p.P false (Lv p.L p.Wg) XD (WAdd p.P p.L p.Wg) (deafBehind (xs i).d (es w)) (f w)
          rw [hdd]; exact hnext
        refine fin (k' := 5) rfl hseat (.inr ⟨rfl, ?_⟩) (h.lib hi hbi hs (by rw [hgg]; exact hgo) (.inl rfl) (fun e hx => .inl (by rw [(he e hx).1]; rfl)) hseat (fun _ => ⟨r, hov.book h.hW.1 rfl (fun e hx => .inl (by rw [(he e hx).1]; rfl)) (fun jx e hx => .inl ?_)⟩) mdsame (fun bl' hb _ _ => blsame (fun _ => by omega) hb))
        · show NxI p.P false (Lv p.L p.Wg) (WAdd p.P p.L p.Wg) _ _
          exact ⟨by rw [hdd, hgg]; exact hx, w, w, es w, hl, by rw [hgg]; exact hgo, rfl⟩
        · have := (he e (Array.mem_of_getElem? hx)).1
          rw [this]; rfl
  | 4, hsi =>
    rcases idle_none hsi hl with hx | ⟨hn', hx⟩
    · obtain ⟨r, hov⟩ := overI (by omega)
      obtain ⟨hd1, hst', g', hgo, hid⟩ := hx
      obtain ⟨a, b, m1, m2⟩ := hMd
      obtain ⟨⟨gT, rfl⟩, ho, rfl, rfl⟩ := m2.isLast hi (.inl hsti)
      have e1 : (if st i = 2 then (0 : Int) else 1) = 1 := by rw [hsti]; rfl
      rw [e1] at m1
      have hseat : p.WSeat i (.fin 3) { xs i with d := deafBehind (xs i).d #[rd (stA p.Wg)], g := g' } := by
        show IdleD p.P false (Lv p.L p.Wg) X0 (WSt p.P p.L p.Wg) (deafBehind (xs i).d #[rd (stA p.Wg)]) g'
        rw [hd1]; exact hid
      refine fin (k' := 3) rfl hseat (.inl (by omega)) (h.lib hi hbi hs (hgo w hl m1) (.inl rfl) (by intro e he; simp at he; subst he; exact .inr (.inr (.inr (.inr ⟨_, _, rfl, rfl⟩)))) hseat
        (fun _ => ⟨r, hov.book h.hW.1 (by rw [hdi, hd1]) (by intro e he; simp at he; subst he; exact .inr (.inr ⟨_, _, rfl, rfl⟩)) (by intro jx e he; match jx, he with | 0, _ => exact .inr (by simp [deafBehind]) | jx + 1, he => simp at he)⟩) ⟨_, _, m1, ?_⟩ (fun bl' hb _ _ => blsame (fun _ => by omega) hb))
      rw [← hst]
      have := Md.last (gT := gT) (j := j) (st := upd st i 3) i hi (.inr (.inl (upd_same _ _ _))) (fun k hk e => by rw [upd_ne st _ e]; exact ho k hk e)
      simpa [upd_same] using this
    · exact idle (by omega) (fun x => rfl) rfl hn' hx
  | 3, hsi =>
    rcases idle_none hsi hl with hx | ⟨hn', hx⟩
    · obtain ⟨r, hov⟩ := overI (by omega)
      obtain ⟨hd1, hst', g', hgo, hid⟩ := hx
      obtain ⟨a, b, m1, m2⟩ := hMd
      obtain ⟨⟨gT, rfl⟩, ho, rfl, rfl⟩ := m2.isLast hi (.inr (.inl hsti))
      have e1 : (if st i = 2 then (0 : Int) else 1) = 1 := by rw [hsti]; rfl
      rw [e1] at m1
      have hseat : p.WSeat i (.fin 2) { xs i with d := deafBehind (xs i).d #[wr (stA p.Wg)], g := g' } := by
        show IdleD p.P false (Lv p.L p.Wg) X0 (WSem p.P p.L p.Wg) (deafBehind (xs i).d #[wr (stA p.Wg)]) g'
        rw [hd1]; exact hid
      refine fin (k' := 2) (setCell_other (a := stA p.Wg) hMW) hseat (.inl (by omega)) (h.lib hi hbi hs (hgo w hl m1) (.inr ⟨_, _, rfl, rfl⟩) (by intro e he; simp at he; subst he; exact .inr (.inr (.inr (.inr ⟨_, _, rfl, rfl⟩)))) hseat
        (fun _ => ⟨r, hov.book h.hW.1 (by rw [hdi, hd1]) (by intro e he; simp at he; subst he; exact .inr (.inr ⟨_, _, rfl, rfl⟩)) (by intro jx e he; match jx, he with | 0, _ => exact .inr (by simp [deafBehind]) | jx + 1, he => simp at he)⟩) ⟨_, _, m1.setSt 0, ?_⟩ (fun bl' hb _ _ => blsame (fun _ => by omega) hb))
      rw [← hst]
      have := Md.last (gT := gT) (j := j) (st := upd st i 2) i hi (.inr (.inr (upd_same _ _ _))) (fun k hk e => by rw [upd_ne st _ e]; exact ho k hk e)
      simpa [upd_same] using this
    · exact idle (by omega) (fun x => rfl) rfl hn' hx
  | 2, hsi =>
    rcases idle_none hsi hl with hx | ⟨hn', hx⟩
    · obtain ⟨r, hov⟩ := overI (by omega)
      obtain ⟨hd1, hst', hwake, g', hgo, q, hid⟩ := hx
      obtain ⟨a, b, m1, m2⟩ := hMd
      obtain ⟨⟨gT, rfl⟩, ho, rfl, rfl⟩ := m2.isLast hi (.inr (.inr hsti))
      have e1 : (if st i = 2 then (0 : Int) else 1) = 0 := by rw [hsti]; rfl
      rw [e1] at m1
      have hsd : deafBehind 1 (semEvents (smA p.Wg)) = 1 := by simp [semEvents, deafBehind]
      have hseat : p.WSeat i (.fin 1) { xs i with d := deafBehind (xs i).d (semEvents (smA p.Wg)), g := g' } := by
        show ∃ q, QuitsD p.P q (deafBehind (xs i).d (semEvents (smA p.Wg))) g'
        rw [hd1, hsd]; exact ⟨q, hid⟩
      refine fin (k' := 1) (setCell_other (a := smA p.Wg) hMW) hseat (.inl (by omega)) (h.lib hi hbi hs (hgo w hl m1) (.inr ⟨_, _, rfl, rfl⟩) sem_lib hseat
        (fun _ => ⟨r, hov.book h.hW.1 (by rw [hdi, hd1]) Go.ConcN.bk_sem ?_⟩) ⟨_, _, m1.setSm 1, ?_⟩ (fun bl' hb hw hb' => ?_))
      · intro jx e he
        match jx, he with
        | 0, he => simp [semEvents] at he; subst he; exact .inl rfl
        | 1, _ => exact .inr (by simp [semEvents, deafBehind])
        | 2, _ => exact .inr (by simp [semEvents, deafBehind])
        | 3, he => simp [semEvents] at he; subst he; exact .inl rfl
        | jx + 4, he => simp [semEvents] at he
      · rw [← hst]
        refine Md.sema fun k hk => ?_
        by_cases e : k = i
        · subst e; rw [upd_same]
        · rw [upd_ne st _ e]; exact ho k hk e
      · rw [hw hwake hid.status] at hb'; cases hb'
    · exact idle (by omega) (fun x => rfl) rfl hn' hx
  | 1, hsi =>
    obtain ⟨q, hq⟩ := hsi
    obtain ⟨r, hov⟩ := overI (by omega)
    rcases q with _ | q
    · have := hq.1; rw [hr] at this; cases this
    · rcases hq with ⟨h1, _⟩ | ⟨_, g', es, hmute, hgo, hq'⟩
      · rw [hr] at h1; cases h1
      · have hmk : ∀ e ∈ es, Go.ConcR.Bk p.Wg e ∧ LibEv p.Wg e ∧ (MemAct.ofEvent e).touch? = none := fun e he => by
          have hm := hmute e he
          obtain ⟨loc, wr, sy⟩ := e
          cases loc with
          | mark m => cases m <;> first | exact ⟨.inl rfl, .inl rfl, rfl⟩ | exact ⟨.inr (.inl rfl), .inr (.inl rfl), rfl⟩ | simp [Event.mute] at hm
          | _ => simp [Event.mute] at hm
        have hseat : p.WSeat i (.fin 1) { xs i with d := deafBehind (xs i).d es, g := g' } := ⟨q, hq'⟩
        refine fin (k' := 1) rfl hseat (.inr ⟨rfl, ?_⟩) (h.lib hi hbi hs (hgo w) (.inl rfl) (fun e he => (hmk e he).2.1) hseat (fun _ => ⟨r, hov.book h.hW.1 rfl (fun e he => (hmk e he).1) (fun jx e he => .inl (hmk e (Array.mem_of_getElem? he)).2.2)⟩) mdsame (fun bl' hb _ _ => blsame (fun x => by omega) hb))
        exact ⟨hr, w, w, es, hgo w, rfl⟩
  | 0, h => exact h.elim
  | 6, h => exact h.elim
  | s + 8, h => exact h.elim
end Ph
end Go.Mx
end
