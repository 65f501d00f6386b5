/- A part of the proof that the frame keeps its roots: lemmas on which it leans. -/
import Derived.Test.YtfchamaikodjpaaGreatH34
section
set_option linter.unusedVariables false
set_option linter.unusedSectionVars false
set_option linter.unusedSimpArgs false
namespace Go.Mx
open Go.Ren Go.Sy
open Go.Conc hiding Goes
open Go.Conc.Locks
open Go.ConcR (stA smA)
def newW (T : Lo) : Wd := if T.old.L = 0 ∧ T.old.S = 0 then ⟨1, if T.aw then 0 else T.old.W, 0, T.old.n⟩ else ⟨T.old.L, if T.aw then 0 else T.old.W, if T.sv = true ∧ T.old.L = 1 then 1 else T.old.S, T.old.n + 1⟩
def Bh (L : MxLink) (cs : List Frame) (ν : Nat → Value) (s : S) (g : Goroutine) : Prop := Behind ν 139 (base L.mu.lockSlow) [] cs s g
def Small (o : Wd) : Prop := o.Bits ∧ o.n < 63
def AtL (L : MxLink) (Mu : Nat) (cs : List Frame) (y : Lk) (d : Nat) (g : Goroutine) : Prop := d = 1 ∧ match y with
  | .rd aw sv it => ∃ wst o pl, Bh L cs (nu Mu wst it 0 o 0) (rdS L pl aw sv) g
  | .sq T => ∃ wst, Bh L cs (nu Mu wst T.it 0 T.old 0) (sqS L T.aw T.sv) g
  | .c1 T => T.aw = false ∧ ∃ wst, Bh L cs (nu Mu wst T.it 0 T.old 0) (c1S L T.sv) g
  | .c2 T => ∃ wst, Bh L cs (nu Mu wst T.it 0 T.old (newW T).num) (c2S L T.aw T.sv) g
  | .t1 sv => ∃ wst it o lifo, Small o ∧ Bh L cs (nu Mu wst it 0 o 0) (t1S L sv lifo) g
  | .s1 sv => ∃ wst it o lifo, Small o ∧ Bh L cs (nu Mu wst it 0 o 0) (s1S L sv lifo) g
  | .t2 => ∃ wst it o, Small o ∧ Bh L cs (nu Mu wst it 0 o 0) (t2S L) g
  | .r2 sv => ∃ wst it o, Small o ∧ Bh L cs (nu Mu wst it 0 o 0) (r2S L sv) g
  | .a1 sv cl => ∃ wst it o, Small o ∧ Bh L cs (nu Mu wst it 0 o 0) (a1S L (if cl then -11 else -7)) g
  | _ => False
section
variable {P : Program} {L : MxLink} {I : World → Prop} {tM : TypeId} {Mu B : Nat} {cs : List Frame} {d : Nat} {g : Goroutine} {wst it tv : Int} {o : Wd} {nw : Int}
theorem kb : (base L.mu.lockSlow).kind ≠ .early := by simp [base]
theorem ri_ok {tv' nw' : Int} : ∀ p ∈ ri, p.1.den (nu Mu wst it tv o nw) = p.2.den (nu Mu wst it tv' o nw') := by
  intro p hp
  simp only [ri, List.mem_cons, List.not_mem_nil, or_false] at hp
  rcases hp with rfl | rfl | rfl | rfl | rfl | rfl | rfl
  · exact nu_0.trans nu_0.symm
  · exact nu_1.trans nu_1.symm
  · exact nu_2.trans nu_2.symm
  · exact nu_3.trans nu_3.symm
  · exact nu_4.trans nu_4.symm
  · exact nu_5.trans nu_5.symm
  · exact nu_14.trans nu_14.symm
theorem rN_ok {tv' : Int} {k : Nat} {nw' : Int} (h : nu Mu wst it tv o nw k = .int .i32 nw') : ∀ p ∈ rN k, p.1.den (nu Mu wst it tv o nw) = p.2.den (nu Mu wst it tv' o nw') := by
  intro p hp
  simp only [rN, List.mem_cons] at hp
  rcases hp with rfl | hp
  · exact h.trans nu_30.symm
  · exact ri_ok p hp
theorem tabF_of {l w s : Bool} (hl : fl o.L = l) (hw : fl o.W = w) (hs : fl o.S = s) : tabF wst tv o = tab l w s (o.n == 0) (o.n == 1) (wst == 0) (decide (IntKind.i64.wrap (tv - wst) > 1000000)) := by unfold tabF; rw [hl, hw, hs]
theorem fl1 {k : Nat} (h : k = 1) : fl k = true := by rw [h]; rfl
theorem fl0 {k : Nat} (h : k = 0) : fl k = false := by rw [h]; rfl
theorem v10_is (ho : o.Bits) (hn : o.n < 63) : bor (o.num : Int) 1 = ((⟨1, o.W, o.S, o.n⟩ : Wd).num : Nat) := by
  have h1 := num_w4 (m := ⟨1, o.W, o.S, o.n⟩) ⟨Nat.le_refl _, ho.W, ho.S⟩
  rw [num_w4 ho, h1]
  exact (w_or _ (by omega) _ _ _).1
theorem v15_is (ho : o.Bits) (hn : o.n < 63) : bandn (bor (o.num : Int) 1) 2 = ((⟨1, 0, o.S, o.n⟩ : Wd).num : Nat) := by
  have h1 := num_w4 (m := ⟨1, o.W, o.S, o.n⟩) ⟨Nat.le_refl _, ho.W, ho.S⟩
  have h2 := num_w4 (m := ⟨1, 0, o.S, o.n⟩) ⟨Nat.le_refl _, Nat.zero_le _, ho.S⟩
  rw [v10_is ho hn, h1, h2]
  exact (w_or _ (by dsimp only; omega) _ _ _).2.2.2
theorem v11_is (ho : o.Bits) (hn : o.n < 63) : IntKind.i32.wrap ((o.num : Int) + 8) = ((⟨o.L, o.W, o.S, o.n + 1⟩ : Wd).num : Nat) := by
  have h2 := num_w4 (m := ⟨o.L, o.W, o.S, o.n + 1⟩) ⟨ho.L, ho.W, ho.S⟩
  rw [plus8 ho hn, h2]
theorem v18_is (ho : o.Bits) (hn : o.n < 63) : IntKind.i32.wrap (bor (o.num : Int) 1 + 8) = ((⟨1, o.W, o.S, o.n + 1⟩ : Wd).num : Nat) := by
  rw [v10_is ho hn]
  exact v11_is (o := ⟨1, o.W, o.S, o.n⟩) ⟨Nat.le_refl _, ho.W, ho.S⟩ hn
theorem v16_is (ho : o.Bits) (hn : o.n < 63) : bandn (IntKind.i32.wrap (bor (o.num : Int) 1 + 8)) 2 = ((⟨1, 0, o.S, o.n + 1⟩ : Wd).num : Nat) := by
  have h1 := num_w4 (m := ⟨1, o.W, o.S, o.n + 1⟩) ⟨Nat.le_refl _, ho.W, ho.S⟩
  have h2 := num_w4 (m := ⟨1, 0, o.S, o.n + 1⟩) ⟨Nat.le_refl _, Nat.zero_le _, ho.S⟩
  rw [v18_is ho hn, h1, h2]
  exact (w_or _ (by dsimp only; omega) _ _ _).2.2.2
theorem v17_is (ho : o.Bits) (hn : o.n < 63) : bandn (bor (IntKind.i32.wrap (bor (o.num : Int) 1 + 8)) 4) 2 = ((⟨1, 0, 1, o.n + 1⟩ : Wd).num : Nat) := by
  have h1 := num_w4 (m := ⟨1, o.W, o.S, o.n + 1⟩) ⟨Nat.le_refl _, ho.W, ho.S⟩
  have h2 := num_w4 (m := ⟨1, 0, 1, o.n + 1⟩) ⟨Nat.le_refl _, Nat.zero_le _, Nat.le_refl _⟩
  rw [v18_is ho hn, h1, h2, (w_or _ (by dsimp only; omega) _ _ _).2.2.1]
  exact (w_or _ (by dsimp only; omega) _ _ _).2.2.2
theorem v14_is (ho : o.Bits) (hn : o.n < 63) : bor (o.num : Int) 2 = ((⟨o.L, 1, o.S, o.n⟩ : Wd).num : Nat) := by
  have h1 := num_w4 (m := ⟨o.L, 1, o.S, o.n⟩) ⟨ho.L, Nat.le_refl _, ho.S⟩
  rw [num_w4 ho, h1]
  exact (w_or _ (by omega) _ _ _).2.1
theorem head_go (H : MxLib P L) (ho : o.Bits) (hn : o.n < 63) {aw sv : Bool} {it : Nat} (hw : aw = true → o.W = 1 ∧ o.S = 0) (hs : sv = true → aw = true) (hg : Bh L cs (nu Mu wst it 0 o 0) (head L aw sv) g) : IdleD P false I X0 (AtL L Mu cs (hd ⟨o, aw, sv, it⟩)) 1 g := by
  have hT := tab_ok H (Mu := Mu) (wst := wst) (it := it) (tv := 0) (nw := 0) ho hn
  have hL := ho.L
  have hS := ho.S
  have hW := ho.W
  by_cases hq : o.L = 1 ∧ o.S = 0
  · have e : hd ⟨o, aw, sv, it⟩ = .sq ⟨o, aw, sv, it⟩ := by unfold hd; rw [if_pos hq]
    rw [e]
    rw [tabF_of (fl1 hq.1) rfl (fl0 hq.2)] at hT
    exact (ck_sq L _ _ _ _ _ aw sv).walk hT ri_ok kb hg fun g' hb => .stop ⟨rfl, wst, hb⟩
  · have e : hd ⟨o, aw, sv, it⟩ = .c2 ⟨o, aw, sv, it⟩ := by unfold hd; rw [if_neg hq]
    rw [e]
    by_cases h0 : o.S = 0
    · have hl0 : o.L = 0 := by omega
      cases ha : aw with
      | false =>
        have hsv : sv = false := by cases h : sv with | false => rfl | true => exact absurd (hs h) (by rw [ha]; simp)
        subst ha hsv
        rw [tabF_of (fl0 hl0) rfl (fl0 h0)] at hT
        refine (ck_c00 L _ _ _ _ _).walk hT (rN_ok (nw' := ((newW ⟨o, false, false, it⟩).num : Nat)) ?_) kb hg fun g' hb => .stop ⟨rfl, wst, hb⟩
        rw [nu_10, v10_is ho hn]
        unfold newW
        rw [if_pos ⟨hl0, h0⟩]
        simp [h0]
      | true =>
        subst ha
        have hw1 := (hw rfl).1
        rw [tabF_of (fl0 hl0) (fl1 hw1) (fl0 h0)] at hT
        refine (ck_c00a L _ _ _ _ sv).walk hT (rN_ok (nw' := ((newW ⟨o, true, sv, it⟩).num : Nat)) ?_) kb hg fun g' hb => .stop ⟨rfl, wst, hb⟩
        rw [nu_15, v15_is ho hn]
        unfold newW
        rw [if_pos ⟨hl0, h0⟩]
        simp [h0]
    · have hs1 : o.S = 1 := by omega
      have ha : aw = false := by cases h : aw with | false => rfl | true => exact absurd (hw h).2 h0
      have hsv : sv = false := by cases h : sv with | false => rfl | true => exact absurd (hs h) (by rw [ha]; simp)
      subst ha hsv
      rw [tabF_of rfl rfl (fl1 hs1)] at hT
      refine (ck_c1 L _ _ _ _ _ _).walk hT (rN_ok (nw' := ((newW ⟨o, false, false, it⟩).num : Nat)) ?_) kb hg fun g' hb => .stop ⟨rfl, wst, hb⟩
      rw [nu_11, v11_is ho hn]
      unfold newW
      rw [if_neg (by intro x; exact h0 x.2)]
      simp
end
end Go.Mx
end
section
set_option linter.unusedVariables false
set_option linter.unusedSectionVars false
set_option linter.unusedSimpArgs false
namespace Go.Mx
open Go.Ren Go.Sy
open Go.Conc hiding Goes
open Go.Conc.Locks
open Go.ConcR (stA smA)
section
variable {P : Program} {L : MxLink} {I : World → Prop} {tM : TypeId} {Mu B : Nat} {cs : List Frame} {d : Nat} {g : Goroutine} {wst it tv : Int} {o : Wd} {nw : Int} {Q : Nat → Goroutine → Prop}
theorem wrap_it {it : Nat} (h : it ≤ 4) : IntKind.i64.wrap ((it : Int) + 1) = ((it + 1 : Nat) : Int) := by
  have : it = 0 ∨ it = 1 ∨ it = 2 ∨ it = 3 ∨ it = 4 := by omega
  rcases this with rfl | rfl | rfl | rfl | rfl <;> decide +kernel
def RL (P : Program) (L : MxLink) (I : World → Prop) (Mu : Nat) (cs : List Frame) (y : Lk) (d : Nat) (g : Goroutine) : Prop := IdleD P false I X0 (AtL L Mu cs y) d g
theorem nx_l {R : Lk → Nat → Goroutine → Prop} {E : Nat → Goroutine → Prop} {y : Lk} (hy : isL y) (h : R y d g) : Nx R E y d g := by
  cases y <;> first | exact h | exact hy.elim
theorem num_ne {a b : Wd} (ha : a.Bits) (hb : b.Bits) (h : a ≠ b) : ¬ ((a.num : Int) = b.num) := fun e => h (Wd.inj ha hb (Int.ofNat_inj.1 e))
theorem agree_v {wst' it' tv' nw' : Int} {o' : Wd} {e : Env} {A : Array Value} (ρ : List (E × E)) (hs : (Go.Sy.sub e e).all (okPair ρ) = true) (hρ : ∀ p ∈ ρ, p.1.den (nu Mu wst it tv o nw) = p.2.den (nu Mu wst' it' tv' o' nw')) (h : Agree (nu Mu wst it tv o nw) e A) : Agree (nu Mu wst' it' tv' o' nw') e A := agree_sub h hs hρ
def rv : List (E × E) := [(.v 0, .v 0), (.v 1, .v 1), (.v 2, .v 2), (.v 3, .v 3), (.v 5, .v 5)]
theorem rv_ok {tv' nw' : Int} {o' : Wd} : ∀ p ∈ rv, p.1.den (nu Mu wst it tv o nw) = p.2.den (nu Mu wst it tv' o' nw') := by
  intro p hp
  simp only [rv, List.mem_cons, List.not_mem_nil, or_false] at hp
  rcases hp with rfl | rfl | rfl | rfl | rfl
  · exact nu_0.trans nu_0.symm
  · exact nu_1.trans nu_1.symm
  · exact nu_2.trans nu_2.symm
  · exact nu_3.trans nu_3.symm
  · exact nu_5.trans nu_5.symm
theorem rd_env (L : MxLink) (pl : Pl) (aw sv : Bool) : (Go.Sy.sub (rdS L pl aw sv).env (rdS L pl aw sv).env).all (okPair rv) = true := by cases pl <;> cases aw <;> cases sv <;> kernel_rfl
theorem ck_rd1 (T : Tab) (pl : Pl) (aw sv : Bool) : ∃ n, To L.mu.tIMutex 139 T n 0 (next (rdS L pl aw sv) (some (.v 4))) (head L aw sv) ri := by
  obtain ⟨k1, k2, k3⟩ := ck_rd L T aw sv
  cases pl
  · exact ⟨_, k1⟩
  · exact ⟨_, k2⟩
  · exact ⟨_, k3⟩
theorem ls_norace (L : MxLink) : (some (lockSlowFn L)).any (·.norace) = true := by kernel_rfl
theorem ls_quiet (H : MxLib P L) : (P.funcs[(base L.mu.lockSlow).fn]?).any (·.norace) = true := by
  show (P.funcs[L.mu.lockSlow]?).any (·.norace) = true
  rw [H.f_lockSlow]; exact ls_norace L
variable (H : MxLib P L) (hB : B < 63)
include H hB
theorem law_rd {E : Nat → Goroutine → Prop} {aw sv : Bool} {it : Nat} (h : AtL L Mu cs (.rd aw sv it) d g) : Law P I tM Mu B (Nx (RL P L I Mu cs) E) (.rd aw sv it) d g := by
  obtain ⟨rfl, wst, o, pl, A, hz, ha, rfl⟩ := h
  refine ⟨rfl, rfl, rfl, fun e => (by cases e), fun w m q hw hm hf => .inr ?_⟩
  obtain ⟨hbits, hnB, hq1, hwf, hmm⟩ := hf
  have ha' : Agree (nu Mu wst it 0 m 0) (rdS L pl aw sv).env A := agree_v rv (rd_env L pl aw sv) rv_ok ha
  obtain ⟨g', hb, hstep⟩ := load_at (P := P) (m := false) (b := base L.mu.lockSlow) (ds := []) (cs := cs) (z := some (.v 4)) H.lib.runUnderlying_t21 H.lib.sizeOf_t21 H.lib.isAgg_t21 (at_rd L pl aw sv) hz ha' kb (ls_quiet H) (ad := mA Mu) nu_1 (v := (m.num : Int)) (fun u hu => by cases hu; exact nu_4.symm)
  refine ⟨hd ⟨m, aw, sv, it⟩, m, q, g', w, #[], .rd, hstep w hm.state, hm, ⟨rfl, fun _ _ => rfl, .rfl, rfl, rfl⟩, by simp, fun e => (by cases e), nx_l (isL_hd _) ?_⟩
  show IdleD P false I X0 _ 1 g'
  have hT := tab_ok H (Mu := Mu) (wst := wst) (it := it) (tv := 0) (nw := 0) hbits (by omega : m.n < 63)
  obtain ⟨n, hto⟩ := ck_rd1 (L := L) (tabF wst 0 m) pl aw sv
  exact hto.walk hT ri_ok kb hb fun g'' hb' => head_go H hbits (by omega) hmm hwf.1 hb'
theorem ds_go {aw sv : Bool} {it : Nat} (hs : Small o) (hit : it ≤ 4) (hb : Bh L cs (nu Mu wst it 0 o 0) (dsS L aw sv) g) : IdleD P false I X0 (AtL L Mu cs (.rd aw sv (it + 1))) 1 g := by
  obtain ⟨A, hz, ha, rfl⟩ := hb
  obtain ⟨g', hb, hstep⟩ := pure_at (P := P) (m := false) (b := base L.mu.lockSlow) (ds := []) (cs := cs) (.tuple #[]) (z := none) (fun u hu => by cases hu) (at_ds L aw sv) hz ha kb H.f_doSpin (e_do_n L) (e_do_b L) (e_do_x L) (e_do_f L)
  refine .step rfl (fun _ => g') (fun _ => #[]) (fun w _ => ⟨hstep w, by simp⟩) fun w _ => ?_
  show IdleD P false I X0 _ 1 g'
  have hT := tab_ok H (Mu := Mu) (wst := wst) (it := it) (tv := 0) (nw := 0) hs.1 hs.2
  refine (ck_ds L _ _ _ _ _ _ _ aw sv).walk (ν' := nu Mu wst ((it + 1 : Nat) : Int) 0 o 0) hT (fun p hp => ?_) kb hb fun g'' hb' => .stop ⟨rfl, wst, o, .b, hb'⟩
  simp only [List.mem_cons, List.not_mem_nil, or_false] at hp
  rcases hp with rfl | rfl | rfl | rfl
  · exact nu_0.trans nu_0.symm
  · exact nu_1.trans nu_1.symm
  · exact nu_3.trans nu_3.symm
  · refine (nu_6 (Mu := Mu)).trans ?_
    rw [wrap_it hit]
    exact nu_5.symm
theorem law_sq {E : Nat → Goroutine → Prop} {T : Lo} (h : AtL L Mu cs (.sq T) d g) : Law P I tM Mu B (Nx (RL P L I Mu cs) E) (.sq T) d g := by
  obtain ⟨rfl, wst, A, hz, ha, rfl⟩ := h
  refine ⟨rfl, rfl, rfl, fun e => (by cases e), fun w m q hw hm hf => .inr ?_⟩
  obtain ⟨hbits, hnB, hq1, ⟨⟨ob, on, osv, oaw, oit⟩, oL, oS⟩, _⟩ := hf
  obtain ⟨old, aw, sv, it⟩ := T
  dsimp only at ha ob on osv oaw oit oL oS ⊢
  have hsm : Small old := ⟨ob, by omega⟩
  have hT := tab_ok H (Mu := Mu) (wst := wst) (it := it) (tv := 0) (nw := 0) hsm.1 hsm.2
  obtain ⟨gt, hbt, hst⟩ := canSpin_at (P := P) (m := false) (b := base L.mu.lockSlow) (ds := []) (cs := cs) (at_sq L aw sv) hz ha kb H.f_canSpin (e_can_n L) (e_can_b L) (e_can_x L) (e_can_f L) (k := .i64) (n := (it : Int)) nu_5 true
  obtain ⟨gf, hbf, hsf⟩ := canSpin_at (P := P) (m := false) (b := base L.mu.lockSlow) (ds := []) (cs := cs) (at_sq L aw sv) hz ha kb H.f_canSpin (e_can_n L) (e_can_b L) (e_can_x L) (e_can_f L) (k := .i64) (n := (it : Int)) nu_5 false
  by_cases h4 : it < 4 ∧ w.spins = true
  · have hgo := (hst w).1 (by omega) h4.2
    by_cases hc : aw = false ∧ old.W = 0 ∧ old.n ≠ 0
    · refine ⟨.c1 ⟨old, aw, sv, it⟩, m, q, gt, w.asked, #[], .sqc h4.1 hc, hgo, hm, eff_asked, by simp, fun e => (by cases e), ?_⟩
      obtain ⟨rfl, hw0, hn0⟩ := hc
      rw [tabF_of (fl1 oL) (fl0 hw0) (fl0 oS), show (old.n == 0) = false from by simpa using hn0] at hT
      exact (ck_s0 L _ _ _ sv).walk hT ri_ok kb hbt fun g'' hb' => .stop ⟨rfl, rfl, wst, hb'⟩
    · refine ⟨.rd aw sv (it + 1), m, q, gt, w.asked, #[], .sqr h4.1 hc, hgo, hm, eff_asked, by simp, fun e => (by cases e), ?_⟩
      show IdleD P false I X0 _ 1 gt
      cases haw : aw with
      | true =>
        subst haw
        rw [tabF_of (fl1 oL) rfl (fl0 oS)] at hT
        exact (ck_s1 L _ _ _ _ _ sv).walk hT ri_ok kb hbt fun g'' hb' => ds_go H hB hsm oit hb'
      | false =>
        subst haw
        by_cases hw0 : old.W = 0
        · have hn0 : old.n = 0 := by
            apply Classical.byContradiction
            intro hn
            exact hc ⟨rfl, hw0, hn⟩
          rw [tabF_of (fl1 oL) (fl0 hw0) (fl0 oS), show (old.n == 0) = true from by simpa using hn0] at hT
          exact (ck_s3 L _ _ _ sv).walk hT ri_ok kb hbt fun g'' hb' => ds_go H hB hsm oit hb'
        · have hw1 : old.W = 1 := by have := ob.W; omega
          rw [tabF_of (fl1 oL) (fl1 hw1) (fl0 oS)] at hT
          exact (ck_s2 L _ _ _ _ sv).walk hT ri_ok kb hbt fun g'' hb' => ds_go H hB hsm oit hb'
  · have key : RL P L I Mu cs (.c2 ⟨old, aw, sv, it⟩) 1 gf := by
      show IdleD P false I X0 _ 1 gf
      have hnw : newW ⟨old, aw, sv, it⟩ = ⟨1, if aw then 0 else old.W, if sv = true then 1 else 0, old.n + 1⟩ := by
        unfold newW
        rw [if_neg (by intro x; have := x.1; dsimp only at this; omega)]
        simp [oL, oS]
      cases haw : aw with
      | false =>
        have hsv : sv = false := by cases h : sv with | false => rfl | true => exact absurd (osv h) (by rw [haw]; simp)
        subst haw hsv
        rw [tabF_of (fl1 oL) rfl (fl0 oS)] at hT
        refine (ck_q0 L _ _ _ _ _).walk hT (rN_ok (nw' := ((newW ⟨old, false, false, it⟩).num : Nat)) ?_) kb hbf fun g' hb => .stop ⟨rfl, wst, hb⟩
        rw [nu_18, v18_is hsm.1 hsm.2, hnw]
        simp [oS]
      | true =>
        have hw1 := (oaw haw).1
        subst haw
        rw [tabF_of (fl1 oL) (fl1 hw1) (fl0 oS)] at hT
        cases hsv : sv with
        | false =>
          subst hsv
          refine (ck_q1 L _ _ _ _).walk hT (rN_ok (nw' := ((newW ⟨old, true, false, it⟩).num : Nat)) ?_) kb hbf fun g' hb => .stop ⟨rfl, wst, hb⟩
          rw [nu_16, v16_is hsm.1 hsm.2, hnw]
          simp [oS]
        | true =>
          subst hsv
          refine (ck_q2 L _ _ _ _).walk hT (rN_ok (nw' := ((newW ⟨old, true, true, it⟩).num : Nat)) ?_) kb hbf fun g' hb => .stop ⟨rfl, wst, hb⟩
          rw [nu_17, v17_is hsm.1 hsm.2, hnw]
          simp
    by_cases h4' : it < 4
    · have hsp : w.spins = false := by cases h : w.spins with | false => rfl | true => exact absurd ⟨h4', h⟩ h4
      exact ⟨.c2 ⟨old, aw, sv, it⟩, m, q, gf, w.asked, #[], .sqn, (hsf w).1 (by omega) hsp, hm, eff_asked, by simp, fun e => (by cases e), key⟩
    · exact ⟨.c2 ⟨old, aw, sv, it⟩, m, q, gf, w, #[], .sqn, (hsf w).2 (by omega) rfl, hm, ⟨rfl, fun _ _ => rfl, .rfl, rfl, rfl⟩, by simp, fun e => (by cases e), key⟩
end
end Go.Mx
end
section
set_option linter.unusedVariables false
set_option linter.unusedSectionVars false
set_option linter.unusedSimpArgs false
namespace Go.Mx
open Go.Ren Go.Sy
open Go.Conc hiding Goes
open Go.Conc.Locks
open Go.ConcR (stA smA)
section
variable {P : Program} {L : MxLink} {I : World → Prop} {tM : TypeId} {Mu B : Nat} {cs : List Frame} {d : Nat} {g : Goroutine} {wst it tv : Int} {o : Wd} {nw : Int} {Q : Nat → Goroutine → Prop}
theorem eff_m {w : World} (v : Value) : EffM Mu w (w.setCell (mA Mu) v) := eff_set (a := mA Mu) rfl v
theorem eff_s {w : World} (v : Value) : EffM Mu w (w.setCell (sA Mu) v) := eff_set (a := sA Mu) rfl v
theorem eff_refl {w : World} : EffM Mu w w := ⟨rfl, fun _ _ => rfl, .rfl, rfl, rfl⟩
theorem num_m7 {m : Wd} (hm : m.Bits) (hn : m.n < 63) (hL : m.L = 0) (hW : m.W = 0) (hS : m.S = 1) (h1 : 1 ≤ m.n) (cl : Bool) : IntKind.i32.wrap ((m.num : Int) + (if cl then -11 else -7)) = ((⟨1, m.W, if cl then 0 else m.S, m.n - 1⟩ : Wd).num : Nat) := by
  have hb : (⟨1, m.W, if cl then 0 else m.S, m.n - 1⟩ : Wd).Bits := ⟨Nat.le_refl _, hm.W, by cases cl <;> simp [hS]⟩
  have e : (m.num : Int) + (if cl = true then -11 else -7) = ((⟨1, m.W, if cl then 0 else m.S, m.n - 1⟩ : Wd).num : Nat) := by
    unfold Wd.num
    dsimp only
    cases cl <;> simp [hL, hW, hS] <;> omega
  rw [e]
  exact wrap_w hb (by dsimp only; omega)
theorem nu_z {k : IntKind} {z : Int} {ν : Nat → Value} : (E.i k z).den ν = .int k z := rfl
def r4 : List (E × E) := [(.v 0, .v 0), (.v 1, .v 1), (.v 2, .v 2), (.v 3, .v 3)]
theorem r4_ok {it' tv' nw' : Int} {o' : Wd} : ∀ p ∈ r4, p.1.den (nu Mu wst it tv o nw) = p.2.den (nu Mu wst it' tv' o' nw') := by
  intro p hp
  simp only [r4, List.mem_cons, List.not_mem_nil, or_false] at hp
  rcases hp with rfl | rfl | rfl | rfl
  · exact nu_0.trans nu_0.symm
  · exact nu_1.trans nu_1.symm
  · exact nu_2.trans nu_2.symm
  · exact nu_3.trans nu_3.symm
theorem t1_env (L : MxLink) (sv lifo : Bool) : (Go.Sy.sub (t1S L sv lifo).env (t1S L sv lifo).env).all (okPair r4) = true := by cases sv <;> cases lifo <;> kernel_rfl
theorem t2_env (L : MxLink) : (Go.Sy.sub (t2S L).env (t2S L).env).all (okPair r4) = true := by kernel_rfl
theorem r2_env (L : MxLink) (sv : Bool) : (Go.Sy.sub (r2S L sv).env (r2S L sv).env).all (okPair r4) = true := by cases sv <;> kernel_rfl
theorem r0_ok : ∀ p ∈ r0, p.1.den (nu Mu 0 0 0 o 0) = p.2.den (nu Mu 0 ((0 : Nat) : Int) 0 o 0) := by
  intro p hp
  simp only [r0, List.mem_cons, List.not_mem_nil, or_false] at hp
  rcases hp with rfl | rfl | rfl | rfl
  · exact nu_0.trans nu_0.symm
  · exact nu_1.trans nu_1.symm
  · exact nu_3.symm
  · exact nu_5.symm
variable (H : MxLib P L) (hB : B < 63)
include H hB
theorem law_c1 {E : Nat → Goroutine → Prop} {T : Lo} (h : AtL L Mu cs (.c1 T) d g) : Law P I tM Mu B (Nx (RL P L I Mu cs) E) (.c1 T) d g := by
  obtain ⟨rfl, haw, wst, A, hz, ha, rfl⟩ := h
  refine ⟨rfl, rfl, rfl, fun e => (by cases e), fun w m q hw hm hf => .inr ?_⟩
  obtain ⟨hbits, hnB, hq1, ⟨⟨ob, on, osv, oaw, oit⟩, oL, oS, oW, on0, _, oit4⟩, _⟩ := hf
  obtain ⟨old, aw, sv, it⟩ := T
  dsimp only at ha ob on osv oaw oit oL oS oW on0 haw oit4 ⊢
  subst haw
  have hsm : Small old := ⟨ob, by omega⟩
  have hT := tab_ok H (Mu := Mu) (wst := wst) (it := it) (tv := 0) (nw := 0) hsm.1 hsm.2
  by_cases hmo : m = old
  · subst hmo
    obtain ⟨g', hb, hst⟩ := cas_hit (P := P) (m := false) (b := base L.mu.lockSlow) (ds := []) (cs := cs) (at_c1 L sv) hz ha kb H.lib.f_cas32 (e_cas_n L) (e_cas_b L) (e_cas_x L) (e_cas_f L) (ad := mA Mu) nu_1 nu_4 nu_14
    refine ⟨.rd true sv (it + 1), ⟨m.L, 1, m.S, m.n⟩, q, g', _, _, .c1y rfl, hst w hm.state (hm.thaw 0), hm.setState (v14_is hsm.1 hsm.2), eff_m _, ev_2, fun e => (by cases e), ?_⟩
    rw [df_2]
    exact (ck_c1y L _ _ _ _ _ _ _ sv).walk hT ri_ok kb hb fun g'' hb' => ds_go H hB hsm oit hb'
  · obtain ⟨g', hb, hst⟩ := cas_miss (P := P) (m := false) (b := base L.mu.lockSlow) (ds := []) (cs := cs) (at_c1 L sv) hz ha kb H.lib.f_cas32 (e_cas_n L) (e_cas_b L) (e_cas_x L) (e_cas_f L) (ad := mA Mu) nu_1 nu_4 nu_14
    refine ⟨.rd false sv (it + 1), m, q, g', _, _, .c1n hmo, hst w _ hm.state (hm.thaw 0) (num_ne hbits ob hmo), hm, eff_refl, ev_1, fun e => (by cases e), ?_⟩
    rw [df_1]
    exact (ck_c1n L _ _ _ _ _ _ _ sv).walk hT ri_ok kb hb fun g'' hb' => ds_go H hB hsm oit hb'
theorem law_c2 (hQ : ∀ wst it o g, Bh L cs (nu Mu wst it 0 o 0) (exS L) g → IdleD P false I X0 Q 1 g) {T : Lo} (h : AtL L Mu cs (.c2 T) d g) : Law P I tM Mu B (Nx (RL P L I Mu cs) (IdleD P false I X0 Q)) (.c2 T) d g := by
  obtain ⟨rfl, wst, A, hz, ha, rfl⟩ := h
  refine ⟨rfl, rfl, rfl, fun e => (by cases e), fun w m q hw hm hf => .inr ?_⟩
  obtain ⟨hbits, hnB, hq1, ⟨ob, on, osv, oaw, oit⟩, _⟩ := hf
  obtain ⟨old, aw, sv, it⟩ := T
  dsimp only at ha ob on osv oaw oit ⊢
  have hsm : Small old := ⟨ob, by omega⟩
  have hT := tab_ok H (Mu := Mu) (wst := wst) (it := it) (tv := 0) (nw := (newW ⟨old, aw, sv, it⟩).num) hsm.1 hsm.2
  have oL := ob.L
  have oS := ob.S
  by_cases hmo : m = old
  · subst hmo
    obtain ⟨g', hb, hst⟩ := cas_hit (P := P) (m := false) (b := base L.mu.lockSlow) (ds := []) (cs := cs) (at_c2 L aw sv) hz ha kb H.lib.f_cas32 (e_cas_n L) (e_cas_b L) (e_cas_x L) (e_cas_f L) (ad := mA Mu) nu_1 nu_4 nu_30
    have hgo := hst w hm.state (hm.thaw 0)
    have hmu := hm.setState (m' := newW ⟨m, aw, sv, it⟩) (v := ((newW ⟨m, aw, sv, it⟩).num : Nat)) rfl
    by_cases h0 : m.L = 0 ∧ m.S = 0
    · have hnw : newW ⟨m, aw, sv, it⟩ = ⟨1, if aw then 0 else m.W, 0, m.n⟩ := by unfold newW; rw [if_pos h0]
      refine ⟨.own, _, q, g', _, _, .c2l rfl h0, hgo, by rw [← hnw]; exact hmu, eff_m _, ev_2, fun e => (by cases e), ?_⟩
      rw [df_2]
      show IdleD P false I X0 Q 1 g'
      rw [tabF_of (fl0 h0.1) rfl (fl0 h0.2)] at hT
      exact (ck_c2l L _ _ _ _ _ aw sv).walk hT ri_ok kb hb fun g'' hb' => hQ _ _ _ _ hb'
    · have hnw : newW ⟨m, aw, sv, it⟩ = ⟨m.L, if aw then 0 else m.W, if sv = true ∧ m.L = 1 then 1 else m.S, m.n + 1⟩ := by unfold newW; rw [if_neg h0]
      have hcase : m.L = 1 ∨ (m.L = 0 ∧ m.S = 1) := by omega
      by_cases hws : wst = 0
      · refine ⟨.t1 sv, _, q, g', _, _, .c2q rfl h0 (.inl rfl), hgo, by rw [← hnw]; exact hmu, eff_m _, ev_2, fun e => (by cases e), ?_⟩
        rw [df_2]
        show IdleD P false I X0 _ 1 g'
        rcases hcase with hl | ⟨hl, hs⟩
        · rw [tabF_of (fl1 hl) rfl rfl, show (wst == 0) = true from by simpa using hws] at hT
          exact ((ck_c2t L _ _ _ _ _ aw sv).1).walk hT ri_ok kb hb fun g'' hb' => .stop ⟨rfl, wst, it, m, false, hsm, hb'⟩
        · rw [tabF_of (fl0 hl) rfl (fl1 hs), show (wst == 0) = true from by simpa using hws] at hT
          exact ((ck_c2t L _ true _ _ _ aw sv).2).walk hT ri_ok kb hb fun g'' hb' => .stop ⟨rfl, wst, it, m, false, hsm, hb'⟩
      · refine ⟨.s1 sv, _, q, g', _, _, .c2q rfl h0 (.inr rfl), hgo, by rw [← hnw]; exact hmu, eff_m _, ev_2, fun e => (by cases e), ?_⟩
        rw [df_2]
        show IdleD P false I X0 _ 1 g'
        rcases hcase with hl | ⟨hl, hs⟩
        · rw [tabF_of (fl1 hl) rfl rfl, show (wst == 0) = false from by simpa using hws] at hT
          exact ((ck_c2s L _ _ _ _ _ aw sv).1).walk hT ri_ok kb hb fun g'' hb' => .stop ⟨rfl, wst, it, m, true, hsm, hb'⟩
        · rw [tabF_of (fl0 hl) rfl (fl1 hs), show (wst == 0) = false from by simpa using hws] at hT
          exact ((ck_c2s L _ true _ _ _ aw sv).2).walk hT ri_ok kb hb fun g'' hb' => .stop ⟨rfl, wst, it, m, true, hsm, hb'⟩
  · obtain ⟨g', hb, hst⟩ := cas_miss (P := P) (m := false) (b := base L.mu.lockSlow) (ds := []) (cs := cs) (at_c2 L aw sv) hz ha kb H.lib.f_cas32 (e_cas_n L) (e_cas_b L) (e_cas_x L) (e_cas_f L) (ad := mA Mu) nu_1 nu_4 nu_30
    refine ⟨.rd aw sv it, m, q, g', _, _, .c2n hmo, hst w _ hm.state (hm.thaw 0) (num_ne hbits ob hmo), hm, eff_refl, ev_1, fun e => (by cases e), ?_⟩
    rw [df_1]
    exact (ck_c2n L _ _ _ _ _ _ _ aw sv).walk hT ri_ok kb hb fun g'' hb' => .stop ⟨rfl, wst, old, .c, hb'⟩
theorem law_t1 {E : Nat → Goroutine → Prop} {sv : Bool} (h : AtL L Mu cs (.t1 sv) d g) : Law P I tM Mu B (Nx (RL P L I Mu cs) E) (.t1 sv) d g := by
  obtain ⟨rfl, wst, it, o, lifo, hsm, A, hz, ha, rfl⟩ := h
  refine ⟨rfl, rfl, rfl, fun e => (by cases e), fun w m q hw hm hf => .inr ?_⟩
  obtain ⟨tv, htv⟩ : ∃ tv : Int, ((w.os.mono + w.tick : Nat) : Int) = tv := ⟨_, rfl⟩
  have hT := tab_ok H (Mu := Mu) (wst := wst) (it := it) (tv := tv) (nw := 0) hsm.1 hsm.2
  have ha' : Agree (nu Mu wst it tv o 0) (t1S L sv lifo).env A := agree_v r4 (t1_env L sv lifo) r4_ok ha
  obtain ⟨g', hb, hst⟩ := nano_at (P := P) (m := false) (b := base L.mu.lockSlow) (ds := []) (cs := cs) (z := some (.v 20)) (at_t1 L sv lifo) hz ha' kb H.f_nano (e_nano_n L) (e_nano_b L) (e_nano_x L) (e_nano_f L) (e_nano_q L) tv (fun u hu => by cases hu; exact nu_20.symm)
  refine ⟨.s1 sv, m, q, g', w.later, #[], .t1, hst w htv, hm, eff_later, by simp, fun e => (by cases e), ?_⟩
  show IdleD P false I X0 _ 1 g'
  refine (ck_t1 L _ _ _ _ _ _ _ sv lifo).walk (ν' := nu Mu tv it 0 o 0) hT (fun p hp => ?_) kb hb fun g'' hb' => .stop ⟨rfl, tv, it, o, lifo, hsm, hb'⟩
  simp only [List.mem_cons, List.not_mem_nil, or_false] at hp
  rcases hp with rfl | rfl | rfl
  · exact nu_0.trans nu_0.symm
  · exact nu_2.trans nu_2.symm
  · exact nu_20.trans nu_3.symm
theorem law_s1 {E : Nat → Goroutine → Prop} {sv : Bool} (h : AtL L Mu cs (.s1 sv) d g) : Law P I tM Mu B (Nx (RL P L I Mu cs) E) (.s1 sv) d g := by
  obtain ⟨rfl, wst, it, o, lifo, hsm, A, hz, ha, rfl⟩ := h
  refine ⟨rfl, rfl, rfl, fun e => (by cases e), fun w m q hw hm hf => ?_⟩
  have hT := tab_ok H (Mu := Mu) (wst := wst) (it := it) (tv := 0) (nw := 0) hsm.1 hsm.2
  obtain ⟨g', hb, hst, hwait⟩ := semacq_at (P := P) (m := false) (b := base L.mu.lockSlow) (ds := []) (cs := cs) (z := none) rfl (at_s1 L sv lifo) hz ha kb H.f_semacq (e_acq_n L) (e_acq_b L) (e_acq_x L) (e_acq_f L) (ad := sA Mu) nu_2
  rcases q with _ | q
  · exact .inl ⟨⟨sv, rfl⟩, rfl, hwait w hm.sema⟩
  · refine .inr ⟨if sv then .r2 true else .t2, m, q, g', _, _, .s1, hst w _ hm.sema (by omega) (hm.thaw 1), hm.setSema (by omega), eff_s _, ev_s, fun e => (by cases e), ?_⟩
    rw [df_s]
    cases sv with
    | true => exact (ck_s1t L _ _ _ _ _ _ _ lifo).walk hT ri_ok kb hb fun g'' hb' => .stop ⟨rfl, wst, it, o, hsm, hb'⟩
    | false => exact (ck_s1f L _ _ _ _ _ _ _ lifo).walk hT ri_ok kb hb fun g'' hb' => .stop ⟨rfl, wst, it, o, hsm, hb'⟩
theorem law_t2 {E : Nat → Goroutine → Prop} (h : AtL L Mu cs .t2 d g) : Law P I tM Mu B (Nx (RL P L I Mu cs) E) .t2 d g := by
  obtain ⟨rfl, wst, it, o, hsm, A, hz, ha, rfl⟩ := h
  refine ⟨rfl, rfl, rfl, fun e => (by cases e), fun w m q hw hm hf => .inr ?_⟩
  obtain ⟨tv, htv⟩ : ∃ tv : Int, ((w.os.mono + w.tick : Nat) : Int) = tv := ⟨_, rfl⟩
  have hT := tab_ok H (Mu := Mu) (wst := wst) (it := it) (tv := tv) (nw := 0) hsm.1 hsm.2
  have ha' : Agree (nu Mu wst it tv o 0) (t2S L).env A := agree_v r4 (t2_env L) r4_ok ha
  obtain ⟨g', hb, hst⟩ := nano_at (P := P) (m := false) (b := base L.mu.lockSlow) (ds := []) (cs := cs) (z := some (.v 20)) (at_t2 L) hz ha' kb H.f_nano (e_nano_n L) (e_nano_b L) (e_nano_x L) (e_nano_f L) (e_nano_q L) tv (fun u hu => by cases hu; exact nu_20.symm)
  refine ⟨.r2 (decide (IntKind.i64.wrap (tv - wst) > 1000000)), m, q, g', w.later, #[], .t2, hst w htv, hm, eff_later, by simp, fun e => (by cases e), ?_⟩
  show IdleD P false I X0 _ 1 g'
  exact (ck_t2 L _ _ _ _ _ _ (decide (IntKind.i64.wrap (tv - wst) > 1000000))).walk hT ri_ok kb hb fun g'' hb' => .stop ⟨rfl, wst, it, o, hsm, hb'⟩
theorem law_r2 {E : Nat → Goroutine → Prop} {sv : Bool} (h : AtL L Mu cs (.r2 sv) d g) : Law P I tM Mu B (Nx (RL P L I Mu cs) E) (.r2 sv) d g := by
  obtain ⟨rfl, wst, it, o, hsm, A, hz, ha, rfl⟩ := h
  refine ⟨rfl, rfl, rfl, fun e => (by cases e), fun w m q hw hm hf => .inr ?_⟩
  obtain ⟨hbits, hnB, hq1, hwf, hm0, hm1⟩ := hf
  have hms : Small m := ⟨hbits, by omega⟩
  have ha' : Agree (nu Mu wst it 0 m 0) (r2S L sv).env A := agree_v r4 (r2_env L sv) r4_ok ha
  have hT := tab_ok H (Mu := Mu) (wst := wst) (it := it) (tv := 0) (nw := 0) hms.1 hms.2
  obtain ⟨g', hb, hstep⟩ := load_at (P := P) (m := false) (b := base L.mu.lockSlow) (ds := []) (cs := cs) (z := some (.v 4)) H.lib.runUnderlying_t21 H.lib.sizeOf_t21 H.lib.isAgg_t21 (at_r2 L sv) hz ha' kb (ls_quiet H) (ad := mA Mu) nu_1 (v := (m.num : Int)) (fun u hu => by cases hu; exact nu_4.symm)
  have hS := hbits.S
  by_cases h0 : m.S = 0
  · refine ⟨hd ⟨m, true, sv, 0⟩, m, q, g', w, #[], .r2n h0, hstep w hm.state, hm, eff_refl, by simp, fun e => (by cases e), nx_l (isL_hd _) ?_⟩
    show IdleD P false I X0 _ 1 g'
    rw [tabF_of rfl rfl (fl0 h0)] at hT
    refine (ck_r2n L _ _ _ _ _ _ sv).walk (ν' := nu Mu wst ((0 : Nat) : Int) 0 m 0) hT (fun p hp => ?_) kb hb fun g'' hb' => head_go H hbits (by omega) (fun _ => ⟨hm0 h0, h0⟩) (fun _ => rfl) hb'
    simp only [List.mem_cons, List.not_mem_nil, or_false] at hp
    rcases hp with rfl | rfl | rfl | rfl
    · exact nu_0.trans nu_0.symm
    · exact nu_3.trans nu_3.symm
    · exact nu_4.trans nu_4.symm
    · exact nu_5.symm
  · have h1 : m.S = 1 := by omega
    obtain ⟨hL, hW, hn⟩ := hm1 h1
    refine ⟨.a1 sv (!sv || decide (m.n = 1)), m, q, g', w, #[], .r2s h1, hstep w hm.state, hm, eff_refl, by simp, fun e => (by cases e), ?_⟩
    show IdleD P false I X0 _ 1 g'
    have hn0 : (m.n == 0) = false := by simp; omega
    obtain ⟨k1, k2, k3⟩ := ck_r2s L (m.n == 1) (wst == 0) (decide (IntKind.i64.wrap (0 - wst) > 1000000))
    rw [tabF_of (fl0 hL) (fl0 hW) (fl1 h1), hn0] at hT
    cases sv with
    | false => exact k1.walk hT ri_ok kb hb fun g'' hb' => .stop ⟨rfl, wst, it, m, hms, hb'⟩
    | true =>
      by_cases hn1 : m.n = 1
      · rw [show (m.n == 1) = true from by simpa using hn1] at hT
        refine k2.walk (ν' := nu Mu wst it 0 m 0) hT ri_ok kb hb fun g'' hb' => .stop ⟨rfl, wst, it, m, hms, ?_⟩
        rw [show (!true || decide (m.n = 1)) = true from by simp [hn1]]
        exact hb'
      · rw [show (m.n == 1) = false from by simpa using hn1] at hT
        refine k3.walk (ν' := nu Mu wst it 0 m 0) hT ri_ok kb hb fun g'' hb' => .stop ⟨rfl, wst, it, m, hms, ?_⟩
        rw [show (!true || decide (m.n = 1)) = false from by simp [hn1]]
        exact hb'
theorem law_a1 (hQ : ∀ wst it o g, Bh L cs (nu Mu wst it 0 o 0) (exS L) g → IdleD P false I X0 Q 1 g) {sv cl : Bool} (h : AtL L Mu cs (.a1 sv cl) d g) : Law P I tM Mu B (Nx (RL P L I Mu cs) (IdleD P false I X0 Q)) (.a1 sv cl) d g := by
  obtain ⟨rfl, wst, it, o, hsm, A, hz, ha, rfl⟩ := h
  refine ⟨rfl, rfl, rfl, fun e => (by cases e), fun w m q hw hm hf => .inr ?_⟩
  obtain ⟨hbits, hnB, hq1, hwf, hS, hL, hW, hn⟩ := hf
  have hT := tab_ok H (Mu := Mu) (wst := wst) (it := it) (tv := 0) (nw := 0) hsm.1 hsm.2
  obtain ⟨g', hb, hst⟩ := add_at (P := P) (m := false) (b := base L.mu.lockSlow) (ds := []) (cs := cs) (z := none) (v := (m.num : Int)) (at_a1 L (if cl then -11 else -7)) hz ha kb H.lib.f_add32 (e_add_n L) (e_add_b L) (e_add_x L) (e_add_f L) (ad := mA Mu) nu_1 nu_z (fun y hy => by cases hy)
  refine ⟨.own, _, q, g', _, _, .a1, hst w hm.state (hm.thaw 0), hm.setState (num_m7 hbits (by omega) hL hW hS hn cl), eff_m _, ev_2, fun e => (by cases e), ?_⟩
  rw [df_2]
  show IdleD P false I X0 Q 1 g'
  exact (ck_a1 L _ _).walk hT ri_ok kb hb fun g'' hb' => hQ _ _ _ _ hb'
theorem law_ls (hQ : ∀ wst it o g, Bh L cs (nu Mu wst it 0 o 0) (exS L) g → IdleD P false I X0 Q 1 g) {y : Lk} (h : AtL L Mu cs y d g) : Law P I tM Mu B (Nx (RL P L I Mu cs) (IdleD P false I X0 Q)) y d g := by
  cases y with
  | rd aw sv it => exact law_rd H hB h
  | sq T => exact law_sq H hB h
  | c1 T => exact law_c1 H hB h
  | c2 T => exact law_c2 H hB hQ h
  | t1 sv => exact law_t1 H hB h
  | s1 sv => exact law_s1 H hB h
  | t2 => exact law_t2 H hB h
  | r2 sv => exact law_r2 H hB h
  | a1 sv cl => exact law_a1 H hB hQ h
  | _ => exact h.2.elim
theorem ls_seat (hQ : ∀ wst it o g, Bh L cs (nu Mu wst it 0 o 0) (exS L) g → IdleD P false I X0 Q 1 g) {A : Array Value} (hz : A.size = 139) (h0 : A[0]? = some (.pointer (some ⟨Mu, 0, none⟩))) : LSeat P I tM Mu B (IdleD P false I X0 Q) (.rd false false 0) 1 (G ((base L.mu.lockSlow).at ⟨A, []⟩ [.code (lsBody L)]) cs) := by
  refine ⟨RL P L I Mu cs, fun y d g hr => hr.mono fun d g k => law_ls H hB hQ k, ?_⟩
  have ha : Agree (nu Mu 0 0 0 ⟨0, 0, 0, 0⟩ 0) (enS L).env A := by
    intro k x hx
    unfold enS fresh Go.Sy.get at hx
    split at hx
    · rename_i e
      cases hx
      have : 0 = k := by simpa using e
      subst this
      rw [h0]
      exact congrArg some (nu_0.symm : _ = (E.v 0).den (nu Mu 0 0 0 ⟨0, 0, 0, 0⟩ 0))
    · cases hx
  have hs : Small ⟨0, 0, 0, 0⟩ := ⟨⟨Nat.zero_le _, Nat.zero_le _, Nat.zero_le _⟩, by decide⟩
  have hT := tab_ok H (Mu := Mu) (wst := 0) (it := 0) (tv := 0) (nw := 0) hs.1 hs.2
  exact (ck_en L _ _ _ _ _ _ _).walk (ν' := nu Mu 0 ((0 : Nat) : Int) 0 ⟨0, 0, 0, 0⟩ 0) hT r0_ok kb ⟨A, hz, ha, rfl⟩ fun g'' hb' => .stop ⟨rfl, 0, ⟨0, 0, 0, 0⟩, .a, hb'⟩
end
end Go.Mx
end
