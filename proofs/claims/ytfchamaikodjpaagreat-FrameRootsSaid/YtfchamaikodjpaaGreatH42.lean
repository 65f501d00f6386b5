/- A part of the proof that the frame keeps its roots: lemmas on which it leans. -/
import Derived.Test.YtfchamaikodjpaaGreatH41
section
set_option linter.unusedVariables false
set_option linter.unusedSectionVars false
set_option linter.unusedSimpArgs false
namespace Go.Mx
open Go.Ren
open Go.Conc hiding Goes mem_ofEvents
open Go.ConcN (sumTo upd upd_same upd_ne sumTo_congr sumTo_upd le_sumTo RelBy get_map_set get_map_set_same WgLive norel_of Deaf_absent)
open Go.Conc.Lib (WgLink)
open Go.ConcR (KK WgAt stA smA rd wr g_of_ofEvents loc_of_ofEvent)
namespace Ph
variable {p : Ph} {W : Nat → Prop} {j : Nat} {tag : MTag} {x0 : Pos} {bl : Bool} {wt : Nat → WT} {bw : Nat → Bool} {xs ls : Nat → Pos} {O D : Nat → Nat → Prop} {gs : Array Goroutine} {w w' : World} {sl : Option (Nat × Nat)} {t : Trace}
theorem Cell.to {wt : Nat → WT} (h : p.Cell j wt w) (hw : w'.heap[p.C]? = w.heap[p.C]?) : p.Cell j wt w' := by
  obtain ⟨order, h1, h2, h3, h4, h5⟩ := h
  exact ⟨order, h1, h2, h3, h4, fun hn => by unfold CellIs; rw [hw]; exact h5 hn⟩
theorem MCo.notC0 (h : p.MCo W j tag x0 bl wt bw xs ls O D gs w t) : ¬ O 0 p.C := by
  intro hO
  have hn0 := h.hn0
  by_cases hf : free j wt
  · exact h.own.ow _ _ (by omega) hO (.inr ⟨hf, rfl⟩)
  · apply hf
    intro k hk hh
    have := h.own.oo _ _ _ (by omega) (by omega) hO (h.hold k hk hh)
    omega
theorem MCo.stepL (h : p.MCo W j tag x0 bl wt bw xs ls O D gs w t) {k : Nat} (hk1 : 1 ≤ k) (hk : k < p.n0) (hr : (ls k).g.status = .running) :
    ∃ gs' bl' bw' x' ops, runT p.P (crowd gs w sl) k = (.next (crowd gs' w sl), ops) ∧ NxQ p.P x' (ls k) ∧ p.MCo W j tag x0 bl' wt bw' xs (upd ls k x') O D gs' w (t ++ ops) := by
  obtain ⟨hgk, ⟨q, hq⟩, hdk, hgone⟩ := h.lv k hk1 hk
  rcases q with _ | q
  · have := hq.1; rw [hr] at this; cases this
  rcases hq with ⟨h1, _⟩ | ⟨_, g', es, hmute, hgo, hq'⟩
  · rw [hr] at h1; cases h1
  have hlt : p.Wg < w.heap.size := h.own.wlt _ (.inl h.hW.1)
  have hsz := h.size
  have hpos : k ≠ 0 := by omega
  have hgo' : stepG p.P (k == 0) (ls k).g w = .go g' w es := by
    have : (k == 0) = false := by simp; omega
    rw [this]; exact hgo w
  have hev : ∀ e ∈ es, XOk W k e ∧ (MemAct.ofEvent e).low w.heap.size := fun e he => libEv_ok (Wg := p.Wg) h.hW.1 hlt (mute_bk (hmute e he)).1
  have hG : GuarW (XOk W k) W (O k) (D k) w w es := guarW_said hev
  have hti := h.ti
  have hown := h.ownW
  rw [← hsz] at hti hown
  obtain ⟨hrun, hti', _⟩ := core_step (sl := sl) hgk hgo' hti hown hG
  rw [with_none, hsz] at hti'
  obtain ⟨bl', hw1, hw2, hw3⟩ := wokenM (P := p.P) (w' := w) (g := (ls k).g) (g' := g') (mseat_status h.seat) (blk_offers h)
  obtain ⟨bw', hbw⟩ := h.sleepers (ls k).g g' w
  have hops : ∀ op ∈ MemOp.ofEvents k (ls k).g.frame.fn (ls k).g.frame.place es, op.g = k := g_of_ofEvents
  have hnt : ∀ op ∈ MemOp.ofEvents k (ls k).g.frame.fn (ls k).g.frame.place es, op.act.touch? = none := fun op hop => by
    rw [ofEvents_eq] at hop
    obtain ⟨e, he, rfl⟩ := Array.mem_map.1 hop
    exact (mute_bk (Wg := p.Wg) (hmute e he)).2
  refine ⟨_, bl', bw', { ls k with d := deafBehind (ls k).d es, g := g' }, _, hrun, ⟨hr, w, w, es, hgo w, rfl⟩, h.hn0, by simpa using hsz, ?_, fun e => h.blk (hw2 e), h.seat, h.O0, h.D0, h.rely, ?_, fun i hi => ?_, fun i hi hb => h.bs i hi ((hbw i hi).2.1 hb), h.wO, h.lkd, h.ph, fun i h1 h2 => ?_, hti', h.own, h.hW,
    fun hf => (h.tok hf).app (fun op hop x hx => by rw [hnt op hop] at hx; cases hx), h.hold, h.cell, fun i hi hs => ?_, norel_app h.norel (fun e he => libEv_norel (Wg := p.Wg) (mute_bk (hmute e he)).1), ?_, h.md, h.left⟩
  · rw [get_map_set _ _ _ _ hpos, h.main, Option.map_some, hw1]
  · rw [Deaf_other t hpos _ hops]; exact h.deaf
  · obtain ⟨h1, h2, h3⟩ := h.wk i hi
    refine ⟨?_, h2, by rw [Deaf_other t (by omega) _ hops]; exact h3⟩
    rw [get_map_set _ _ _ _ (by omega), h1, Option.map_some, (hbw i hi).1]
  · by_cases e : i = k
    · subst e
      rw [upd_same]
      refine ⟨get_map_set_same _ _ _ (by rw [hsz]; omega), ⟨q, hq'⟩, by rw [Deaf_own, hdk], hgone.app (fun p hp hg hc => ?_) (fun op hop _ x hx => ?_)⟩
      · obtain ⟨op, a1, a2⟩ := of_g? hg
        obtain ⟨x, hx, _⟩ := hc
        rcases getElem?_append_cases a1 with ⟨hl, _⟩ | ⟨_, hou⟩
        · omega
        · have : touchAt (t ++ MemOp.ofEvents i (ls i).g.frame.fn (ls i).g.frame.place es) p = some x := hx
          rw [touchAt_of a1, hnt op hou] at this
          cases this
      · rw [hnt op hop] at hx; cases hx
    · obtain ⟨a1, ⟨q', a2⟩, a3, a4⟩ := h.lv i h1 h2
      rw [upd_ne ls _ e]
      refine ⟨?_, ⟨q', a2⟩, by rw [Deaf_other t (by omega) _ hops]; exact a3, a4.appNot fun op hop e' => by rw [hops op hop] at e'; omega⟩
      rw [get_map_set _ _ _ _ (by omega), a1, Option.map_some, woken_rf a2.status]
  · obtain ⟨r, hr'⟩ := h.over i hi hs
    exact ⟨r, hr'.appNot fun op hop e' => by rw [hops op hop] at e'; omega⟩
  · obtain ⟨m, q, m1, m2, m3⟩ := h.mi
    exact ⟨m, q, m1, m2, fun i hi hb => m3 i hi ((hbw i hi).2.1 hb)⟩
theorem MCo.starter (h : p.MCo W j tag x0 false wt bw xs ls O D gs w t) {x' : Pos} {es : Array Event} {tag' : MTag}
    (hgo : stepG p.P true x0.g w = .go x'.g w' es) (hG : GuarW (XOk W 0) W (O 0) (D 0) w w' es) (hd : x'.d = deafBehind x0.d es) (hseat : p.MSeat tag' x') (hO : x'.O = grow (O 0) w w') (hD : x'.D = D 0) (hrel : Rely x'.O x'.D x'.w w')
    (hnr : ∀ e ∈ es, ∀ a, e.loc ≠ .mark (.release a)) (hmu : w'.heap[p.Mu]? = w.heap[p.Mu]?) (hmd : ∃ a b, WgAt p.L.tWg p.Wg w' a b ∧ Md j (fun k => stN (wt k)) tag' a b) (hleft : leftM p.n j tag') :
    ∃ gs' O' bw' ops, runT p.P (crowd gs w sl) 0 = (.next (crowd gs' w' sl), ops) ∧ p.MCo W j tag' x' false wt bw' xs ls O' D gs' w' (t ++ ops) := by
  have hsz := h.size
  have hn0 := h.hn0
  have hg0 : gs[0]? = some x0.g := by have := h.main; simpa using this
  have hti := h.ti
  have hown := h.ownW
  rw [← hsz] at hti hown
  obtain ⟨hrun, hti', _⟩ := core_step (sl := sl) (i := 0) hg0 (by simpa using hgo) hti hown hG
  rw [hsz] at hti'
  have hown' := h.own.grow (i := 0) (by omega) hG.size
  have hrely : ∀ k, k < p.n0 + j → k ≠ 0 → Rely (O k) (D k) w w' := fun k hk hne => hG.rely h.ownW (by omega) hk hne
  have hoth : ∀ k, k ≠ 0 → with_ O 0 w.heap.size w'.heap.size k = O k := fun k hk => with_other hk _ _
  have hself : with_ O 0 w.heap.size w'.heap.size 0 = grow (O 0) w w' := with_self O 0 w w'
  have hops : ∀ op ∈ MemOp.ofEvents 0 x0.g.frame.fn x0.g.frame.place es, op.g = 0 := g_of_ofEvents
  obtain ⟨bw', hbw⟩ := h.sleepers x0.g x'.g w'
  have hnC := h.notC0
  refine ⟨_, _, bw', _, hrun, h.hn0, by simpa using hsz, ?_, fun e => (by cases e), hseat, by rw [hself, hO], hD, hrel, ?_, fun i hi => ?_, fun i hi hb => h.bs i hi ((hbw i hi).2.1 hb), fun i hi hs => ?_, h.lkd, h.ph, fun k h1 h2 => ?_, hti', hown', ⟨h.hW.1, h.hW.2.1, h.hW.2.2.1, h.hW.2.2.2.1, Nat.lt_of_lt_of_le h.hW.2.2.2.2 hG.size⟩,
    fun hf => (h.tok hf).app (ev_not hG.ev h.hW.2.2.2.1 ?_ ?_), fun i hi hs => ?_, Cell.to h.cell (hG.heap _ h.hW.2.2.2.2 hnC h.hW.2.2.2.1), fun i hi hs => ?_, norel_app h.norel hnr, ?_, hmd, hleft⟩
  · rw [get_map_set_same _ _ _ (by rw [hsz]; omega)]; rfl
  · rw [Deaf_own, h.deaf, hd]
  · obtain ⟨h1, h2, h3⟩ := h.wk i hi
    refine ⟨?_, h2, by rw [Deaf_other t (by omega) _ hops]; exact h3⟩
    rw [get_map_set _ _ _ _ (by omega), h1, Option.map_some, (hbw i hi).1]
  · obtain ⟨a1, a2, a3⟩ := h.wO i hi hs
    rw [hoth _ (by omega)]
    exact ⟨a1, a2, a3.trans (hrely _ (by omega) (by omega))⟩
  · obtain ⟨a1, ⟨q, a2⟩, a3, a4⟩ := h.lv k h1 h2
    refine ⟨?_, ⟨q, a2⟩, by rw [Deaf_other t (by omega) _ hops]; exact a3, a4.appNot fun op hop e' => by rw [hops op hop] at e'; omega⟩
    rw [get_map_set _ _ _ _ (by omega), a1, Option.map_some, woken_rf a2.status]
  · have how := hown'.ow 0 p.C (by omega)
    rw [hself] at how
    exact fun x => how x (.inr ⟨hf, rfl⟩)
  · exact fun x => h.own.dw 0 p.C (by omega) x (.inr ⟨hf, rfl⟩)
  · rw [hoth _ (by omega)]
    exact h.hold i hi hs
  · obtain ⟨r, hr'⟩ := h.over i hi hs
    exact ⟨r, hr'.appNot fun op hop e' => by rw [hops op hop] at e'; omega⟩
  · obtain ⟨m, q, m1, m2, m3⟩ := h.mi
    exact ⟨m, q, by unfold MuAt at m1 ⊢; rw [hmu]; exact m1, m2, fun i hi hb => m3 i hi ((hbw i hi).2.1 hb)⟩
theorem MCo.sleeps {gT : Goroutine} (h : p.MCo W j tag x0 false wt bw xs ls O D gs w t) (htag : tag = .w3 gT) (h3 : M3 p.P p.L p.Wg gT x0.d x0.g) (hex : ∃ i, i < j ∧ 2 ≤ stN (wt i)) (hgo : stepG p.P true x0.g w = .go { x0.g with status := .blocked } w #[]) :
    ∃ gs' ops, runT p.P (crowd gs w sl) 0 = (.next (crowd gs' w sl), ops) ∧ p.MCo W j tag x0 true wt bw xs ls O D gs' w (t ++ ops) := by
  have hsz := h.size
  have hn0 := h.hn0
  have hg0 : gs[0]? = some x0.g := by have := h.main; simpa using this
  have hrun := runT_crowd_go (P := p.P) (sl := sl) (i := 0) hg0 (by simpa using hgo)
  have ew : woken p.P x0.g { x0.g with status := .blocked } w = id := by funext o; simp [woken]
  rw [ew, Array.map_id] at hrun
  have e0 : t ++ MemOp.ofEvents 0 x0.g.frame.fn x0.g.frame.place #[] = t := by simp [MemOp.ofEvents]
  refine ⟨_, _, hrun, ?_⟩
  rw [e0]
  refine ⟨h.hn0, by simpa using hsz, ?_, fun _ => ⟨⟨gT, htag, h3⟩, hex⟩, h.seat, h.O0, h.D0, h.rely, h.deaf, fun i hi => ?_, h.bs, h.wO, h.lkd, h.ph, fun k h1 h2 => ?_, h.ti, h.own, h.hW, h.tok, h.hold, h.cell, h.over, h.norel, h.mi, h.md, h.left⟩
  · rw [Array.getElem?_setIfInBounds_self_of_lt (by rw [hsz]; omega)]; rfl
  · obtain ⟨a1, a2⟩ := h.wk i hi
    exact ⟨by rw [Array.getElem?_setIfInBounds_ne (by omega)]; exact a1, a2⟩
  · obtain ⟨a1, a2⟩ := h.lv k h1 h2
    exact ⟨by rw [Array.getElem?_setIfInBounds_ne (by omega)]; exact a1, a2⟩
theorem MCo.libM (h : p.MCo W j tag x0 false wt bw xs ls O D gs w t) {g' : Goroutine} {es : Array Event} {tag' : MTag}
    (hgo : stepG p.P true x0.g w = .go g' w' es) (hw : w' = w ∨ ∃ a v, a.block = p.Wg ∧ w' = w.setCell a v) (hes : ∀ e ∈ es, LibEv p.Wg e ∨ XM p.Wg e) (hseat : p.MSeat tag' { x0 with d := deafBehind x0.d es, g := g' })
    (hmd : ∃ a b, WgAt p.L.tWg p.Wg w' a b ∧ Md j (fun k => stN (wt k)) tag' a b) (hleft : leftM p.n j tag') :
    ∃ gs' O' bw' ops, runT p.P (crowd gs w sl) 0 = (.next (crowd gs' w' sl), ops) ∧ p.MCo W j tag' { x0 with d := deafBehind x0.d es, g := g' } false wt bw' xs ls O' D gs' w' (t ++ ops) := by
  have hlt : p.Wg < w.heap.size := h.own.wlt _ (.inl h.hW.1)
  have hn0 := h.hn0
  have hev : ∀ e ∈ es, XOk W 0 e ∧ (MemAct.ofEvent e).low w.heap.size := fun e he => (hes e he).elim (libEv_ok h.hW.1 hlt) (xm_ok h.hW.1 hlt)
  have hG : GuarW (XOk W 0) W (O 0) (D 0) w w' es := by
    rcases hw with rfl | ⟨a, v, ha, rfl⟩
    · exact guarW_said hev
    · exact guarW_cell (by rw [ha]; exact h.hW.1) hev
  have hsz : w'.heap.size = w.heap.size := by
    rcases hw with rfl | ⟨a, v, _, rfl⟩
    · rfl
    · simp
  have hoth : ∀ b, b ≠ p.Wg → w'.heap[b]? = w.heap[b]? := fun b hb => by
    rcases hw with rfl | ⟨a, v, ha, rfl⟩
    · rfl
    · exact setCell_other (by rw [ha]; exact hb)
  have hrel : Rely (O 0) (D 0) w w' := ⟨hG.size, fun b hb => hoth b fun e => h.ownW.ow 0 b (by omega) hb (e ▸ h.hW.1), fun b hb => hoth b fun e => h.ownW.dw 0 b (by omega) hb (e ▸ h.hW.1), hG.os, hG.output, hG.tape⟩
  refine h.starter (x' := { x0 with d := deafBehind x0.d es, g := g' }) hgo hG rfl hseat ?_ h.D0 ?_ (fun e he a => (hes e he).elim (fun x => libEv_norel x a) (fun x => xm_norel x a)) (hoth p.Mu (Ne.symm h.hW.2.2.1)) hmd hleft
  · show x0.O = _; rw [grow_eq hsz]; exact h.O0
  · exact h.rely.trans (by rw [h.O0, h.D0]; exact hrel)
end Ph
end Go.Mx
end
section
set_option linter.unusedVariables false
set_option linter.unusedSectionVars false
set_option linter.unusedSimpArgs false
namespace Go.Mx
open Go.Ren
open Go.Conc hiding Goes mem_ofEvents
open Go.ConcN (sumTo upd upd_same upd_ne sumTo_congr sumTo_upd le_sumTo RelBy get_map_set get_map_set_same WgLive norel_of Deaf_absent)
open Go.Conc.Lib (WgLink)
open Go.ConcR (KK WgAt stA smA rd wr g_of_ofEvents loc_of_ofEvent)
theorem sm_more {φ : Lk → Nat} {j : Nat} {lk lk' : Nat → Lk} (h0 : φ .out = 0) (hl : lk' j = .out) (he : ∀ k, k < j → lk' k = lk k) : sm φ (j + 1) lk' = sm φ j lk := by
  show sumTo j (fun i => φ (lk' i)) + φ (lk' j) = _
  rw [hl, h0, Nat.add_zero]
  exact sumTo_congr fun i hi => by rw [he i hi]
theorem MI.more {B j : Nat} {lk lk' : Nat → Lk} {m : Wd} {q : Nat} (h : MI B j lk m q) (hB : j + 1 ≤ B) (hl : lk' j = .out) (he : ∀ k, k < j → lk' k = lk k) : MI B (j + 1) lk' m q := by
  refine ⟨h.bits, hB, ?_, fun e => ?_, fun e => ?_, fun a b c d => ?_, fun i hi => ?_⟩
  · rw [sm_more rfl hl he]; exact h.own
  · rw [sm_more (φ := cK) rfl hl he, sm_more (φ := cT) rfl hl he, sm_more (φ := cU) rfl hl he, sm_more (φ := cA) rfl hl he, sm_more (φ := cW) rfl hl he]; exact h.nor e
  · rw [sm_more (φ := cK) rfl hl he, sm_more (φ := cT) rfl hl he, sm_more (φ := cU) rfl hl he, sm_more (φ := cA) rfl hl he, sm_more (φ := cW) rfl hl he]; exact h.sta e
  · obtain ⟨i, h1, h2⟩ := h.prog a b c d
    exact ⟨i, by omega, by rw [he i h1]; exact h2⟩
  · rcases Nat.lt_or_ge i j with h1 | h1
    · rw [he i h1]; exact h.wf i h1
    · obtain rfl : i = j := by omega
      rw [hl]; trivial
namespace Ph
variable {p : Ph} {W : Nat → Prop} {j : Nat} {tag : MTag} {x0 : Pos} {bl : Bool} {wt : Nat → WT} {bw : Nat → Bool} {xs ls : Nat → Pos} {O D : Nat → Nat → Prop} {gs : Array Goroutine} {w w' : World} {sl : Option (Nat × Nat)} {t : Trace}
theorem free_more {wt wt' : Nat → WT} (hl : wt' j = .work) (he : ∀ k, k < j → wt' k = wt k) : free (j + 1) wt' ↔ free j wt := by
  refine ⟨fun h k hk => ?_, fun h k hk => ?_⟩
  · rw [← he k hk]; exact h k (by omega)
  · rcases Nat.lt_or_ge k j with h1 | h1
    · rw [he k h1]; exact h k h1
    · obtain rfl : k = j := by omega
      rw [hl]; exact id
theorem MCo.spawn {r : Nat} (hB : p.n ≤ p.B) (h : p.MCo W j (.sp (r + 1) 0) x0 false wt bw xs ls O D gs w t) (hgo : p.MGo (p.n - (r + 1)) (p.Spn r) x0.D x0.d x0.O x0.g x0.w) :
    ∃ gs' x0' wt' bw' xs' O' D' ops, runT p.P (crowd gs w sl) 0 = (.next (crowd gs' w sl), ops) ∧ p.MCo W (j + 1) (.sp r 1) x0' false wt' bw' xs' ls O' D' gs' w (t ++ ops) := by
  have hsz := h.size
  have hn0 := h.hn0
  have hleft : r + 1 + j = p.n := h.left
  have hg0 : gs[0]? = some x0.g := by have := h.main; simpa using this
  obtain ⟨hd0, hrn, hall⟩ := hgo
  obtain ⟨g', child, M, H, N, hst, hM, hH, hN, hchild, hnx⟩ := hall w h.rely h.inv
  have hi : p.n - (r + 1) = j := by omega
  rw [hi] at hchild
  have hrun := runT_crowd_spawn (P := p.P) (sl := sl) (i := 0) hg0 (by simpa using hst)
  have e0 : ∀ x y : MemOp, ((MemOp.ofEvents 0 x0.g.frame.fn x0.g.frame.place #[]).push x).push y = #[x, y] := fun x y => by simp [MemOp.ofEvents]
  rw [e0] at hrun
  have hti := h.ti
  have hown := h.own
  rw [h.O0] at hM hH
  rw [h.D0] at hN
  have hx : (⟨0, x0.g.frame.fn, x0.g.frame.place, .go gs.size⟩ : MemOp).g = 0 ∧ (⟨0, x0.g.frame.fn, x0.g.frame.place, .go gs.size⟩ : MemOp).act = .go (p.n0 + j) := ⟨rfl, by rw [hsz]⟩
  have hy : (⟨gs.size, child.frame.fn, x0.g.frame.place, .start⟩ : MemOp).g = p.n0 + j ∧ (⟨gs.size, child.frame.fn, x0.g.frame.place, .start⟩ : MemOp).act = .start := ⟨hsz, rfl⟩
  have hdf : Go.Conc.Deaf t 0 = 0 := by rw [h.deaf]; exact hd0
  have hti' := hti.fork (by omega) hx hy hdf hM hH hN
  have hown' := hown.fork (by omega) hM hH hN
  have hm : ∀ op ∈ #[(⟨0, x0.g.frame.fn, x0.g.frame.place, .go gs.size⟩ : MemOp), ⟨gs.size, child.frame.fn, x0.g.frame.place, .start⟩], op.act ≠ .mark .disable ∧ op.act ≠ .mark .enable := by
    intro op hop
    simp only [List.mem_toArray, List.mem_cons, List.not_mem_nil, or_false] at hop
    rcases hop with rfl | rfl <;> simp
  have hgne : ∀ k, k ≠ 0 → k < p.n0 + j → ∀ op ∈ #[(⟨0, x0.g.frame.fn, x0.g.frame.place, .go gs.size⟩ : MemOp), ⟨gs.size, child.frame.fn, x0.g.frame.place, .start⟩], op.g ≠ k := by
    intro k hk hk2 op hop
    simp only [List.mem_toArray, List.mem_cons, List.not_mem_nil, or_false] at hop
    rcases hop with rfl | rfl
    · exact fun e => hk e.symm
    · show gs.size ≠ k; omega
  have hgsj : ∀ k, k < p.n0 + j → k ≠ 0 → ((gs.setIfInBounds 0 g').push child)[k]? = gs[k]? := fun k hk hk0 => by
    rw [Array.getElem?_push_lt (by simp [hsz]; omega), ← Array.getElem?_eq_getElem, Array.getElem?_setIfInBounds_ne (by omega)]
  have hO : ∀ k, k ≠ 0 → k < p.n0 + j → forkO O (p.n0 + j) M H k = O k := fun k h1 h2 => by
    funext b; unfold forkO; rw [if_neg h1, if_neg (by omega)]
  have hD : ∀ k, k ≠ 0 → k < p.n0 + j → forkD D (p.n0 + j) M N k = D k := fun k h1 h2 => by
    funext b; unfold forkD; rw [if_neg h1, if_neg (by omega)]
  have hOn : forkO O (p.n0 + j) M H (p.n0 + j) = H := by funext b; unfold forkO; rw [if_neg (by omega), if_pos rfl]
  have hDn : forkD D (p.n0 + j) M N (p.n0 + j) = N := by funext b; unfold forkD; rw [if_neg (by omega), if_pos rfl]
  have hseat : p.MSeat (.sp r 1) ⟨fun b => x0.O b ∧ ¬ M b ∧ ¬ H b, fun b => x0.D b ∨ M b, 0, g', w⟩ := by
    rcases r with _ | r <;> exact hnx
  have hcseat : p.WSeat j .work ⟨H, N, 0, child, w⟩ := hchild
  have hwj : ∀ i, i < j → upd wt j .work i = wt i := fun i hi => upd_ne wt _ (by omega)
  have hxsj : ∀ i, i < j → upd xs j ⟨H, N, 0, child, w⟩ i = xs i := fun i hi => upd_ne xs _ (by omega)
  have hbj : ∀ i, i < j → upd bw j false i = bw i := fun i hi => upd_ne bw _ (by omega)
  have hfr := free_more (j := j) (wt := wt) (wt' := upd wt j .work) (upd_same wt j _) hwj
  have hdn : Go.Conc.Deaf t (p.n0 + j) = 0 := Deaf_absent fun p op hp e => by have := h.ti.gs p op hp; omega
  refine ⟨_, ⟨fun b => x0.O b ∧ ¬ M b ∧ ¬ H b, fun b => x0.D b ∨ M b, 0, g', w⟩, upd wt j .work, upd bw j false, upd xs j ⟨H, N, 0, child, w⟩, forkO O (p.n0 + j) M H, forkD D (p.n0 + j) M N, _, hrun, h.hn0, by simp [hsz]; omega, ?_, fun e => (by cases e), hseat, ?_, ?_, .refl _, ?_, fun i hi => ?_, fun i hi hb => ?_, fun i hi hs => ?_, fun i hi hs => ?_, fun i hi => ?_, fun k h1 h2 => ?_, by rw [← Nat.add_assoc]; exact hti',
    by rw [← Nat.add_assoc, pred_eq hfr]; exact hown', h.hW, fun hf => ?_, fun i hi hs => ?_, ?_, fun i hi hs => ?_, norel_ops h.norel ?_, ?_, ?_, by show r + (j + 1) = p.n; omega⟩
  · rw [Array.getElem?_push_lt (by simp [hsz]; omega)]
    simp
  · funext b; unfold forkO; rw [if_pos rfl, h.O0]
  · funext b; unfold forkD; rw [if_pos rfl, h.D0]
  · rw [Go.ConcN.Deaf_still t 0 _ hm, h.deaf]; exact hd0
  · rcases Nat.lt_or_ge i j with hlt | hge
    · obtain ⟨a1, a2, a3⟩ := h.wk i hlt
      rw [hwj i hlt, hxsj i hlt, hbj i hlt]
      exact ⟨by rw [hgsj _ (by omega) (by omega)]; exact a1, a2, by rw [Go.ConcN.Deaf_still t _ _ hm]; exact a3⟩
    · obtain rfl : i = j := by omega
      rw [upd_same, upd_same, upd_same]
      refine ⟨?_, hcseat, ?_⟩
      · have : p.n0 + i = (gs.setIfInBounds 0 g').size := by simp [hsz]
        rw [this, Array.getElem?_push_size]
        rfl
      · rw [Go.ConcN.Deaf_still t _ _ hm]
        exact hdn
  · rcases Nat.lt_or_ge i j with hlt | hge
    · rw [hbj i hlt] at hb
      rw [hwj i hlt, hxsj i hlt]
      exact h.bs i hlt hb
    · obtain rfl : i = j := by omega
      rw [upd_same] at hb; cases hb
  · rcases Nat.lt_or_ge i j with hlt | hge
    · rw [hwj i hlt] at hs
      rw [hxsj i hlt, hO _ (by omega) (by omega), hD _ (by omega) (by omega)]
      exact h.wO i hlt hs
    · obtain rfl : i = j := by omega
      rw [upd_same, hOn, hDn]
      exact ⟨rfl, rfl, .refl _⟩
  · rcases Nat.lt_or_ge i j with hlt | hge
    · rw [hwj i hlt] at hs; exact h.lkd i hlt hs
    · obtain rfl : i = j := by omega
      rw [upd_same] at hs; exact hs.elim
  · rcases Nat.lt_or_ge i j with hlt | hge
    · rw [hwj i hlt]; exact h.ph i hlt
    · obtain rfl : i = j := by omega
      rw [upd_same]; trivial
  · obtain ⟨a1, a2, a3, a4⟩ := h.lv k h1 h2
    exact ⟨by rw [hgsj _ (by omega) (by omega)]; exact a1, a2, by rw [Go.ConcN.Deaf_still t _ _ hm]; exact a3, a4.appNot (hgne k (by omega) (by omega))⟩
  · rw [← Nat.add_assoc]
    exact (h.tok (hfr.1 hf)).fork (by omega) hx hy hdf hdn
  · rcases Nat.lt_or_ge i j with hlt | hge
    · rw [hwj i hlt] at hs
      rw [hO _ (by omega) (by omega)]
      exact h.hold i hlt hs
    · obtain rfl : i = j := by omega
      rw [upd_same] at hs; exact hs.elim
  · obtain ⟨order, c1, c2, c3, c4, c5⟩ := h.cell
    refine ⟨order, c1, fun k => ?_, c3, fun k hk v e => ?_, fun hn => c5 fun k hk v e => hn k (by omega) v (by rw [hwj k hk]; exact e)⟩
    · rw [c2]
      rcases Nat.lt_or_ge k j with hlt | hge
      · rw [hwj k hlt]
        exact ⟨fun x => ⟨by omega, x.2⟩, fun x => ⟨hlt, x.2⟩⟩
      · constructor
        · intro x; omega
        · rintro ⟨x, y, z⟩
          obtain rfl : k = j := by omega
          rw [upd_same] at z
          exact z.elim
    · rcases Nat.lt_or_ge k j with hlt | hge
      · rw [hwj k hlt] at e; exact c4 k hlt v e
      · obtain rfl : k = j := by omega
        rw [upd_same] at e; cases e
  · rcases Nat.lt_or_ge i j with hlt | hge
    · rw [hwj i hlt] at hs
      obtain ⟨r', hr'⟩ := h.over i hlt hs
      exact ⟨r', hr'.appNot (hgne _ (by omega) (by omega))⟩
    · obtain rfl : i = j := by omega
      rw [upd_same] at hs
      simp [stN] at hs
  · intro op hop a
    simp only [List.mem_toArray, List.mem_cons, List.not_mem_nil, or_false] at hop
    rcases hop with rfl | rfl <;> simp
  · obtain ⟨m, q, m1, m2, m3⟩ := h.mi
    refine ⟨m, q, m1, m2.more (by omega) (by rw [upd_same]; rfl) (fun k hk => by rw [hwj k hk]), fun i hi hb => ?_⟩
    rcases Nat.lt_or_ge i j with hlt | hge
    · rw [hbj i hlt] at hb; exact m3 i hlt hb
    · obtain rfl : i = j := by omega
      rw [upd_same] at hb; cases hb
  · obtain ⟨a, b, m1, m2⟩ := h.md
    rw [upd_fun stN]
    generalize hst' : (fun k => stN (wt k)) = st at m2
    have hstj : ∀ i, i < j → upd st j 8 i = st i := fun i hi => upd_ne st _ (by omega)
    show ∃ a b, WgAt p.L.tWg p.Wg w a b ∧ Md (j + 1) (upd st j 8) (.sp r 1) a b
    cases m2 with
    | opn h1 h2 h3 =>
      have hV : Vn (j + 1) (upd st j 8) = Vn j st + 1 := by
        show sumTo j (fun i => cntW (upd st j 8 i)) + cntW (upd st j 8 j) = _
        rw [upd_same, sumTo_congr (g := fun i => cntW (st i)) (fun i hi => by rw [hstj i hi])]
        rfl
      have hp : pendM (.sp r 1) = 0 := by rcases r with _ | r <;> rfl
      have hp1 : pendM (.sp (r + 1) 0) = 1 := rfl
      have := Md.opn (j := j + 1) (st := upd st j 8) (tag := .sp r 1) trivial (fun i hi => by
        rcases Nat.lt_or_ge i j with hlt | hge
        · rw [hstj i hlt]; exact h2 i hlt
        · obtain rfl : i = j := by omega
          rw [upd_same]; exact .inl rfl) trivial
      rw [hV, hp] at this
      rw [hp1] at m1
      exact ⟨_, _, m1, this⟩
    | fin h1 _ => exact h1.elim
end Ph
end Go.Mx
end
