/- A part of the proof that the frame keeps its roots: lemmas on which it leans. -/
import Derived.Test.YtfchamaikodjpaaGreatH44
section
set_option linter.unusedVariables false
set_option linter.unusedSectionVars false
set_option linter.unusedSimpArgs false
namespace Go.Ren
open Go.Conc hiding Goes mem_ofEvents Deaf
open Go.ConcN (WgLive)
open Go.Conc.Lib (WgLink)
open Go.ConcR (KK WgAt stA smA rd wr mk)
section
variable {P : Program} {L : WgLink} {Wg : Nat} {I : World → Prop} {O D : Nat → Prop} {g gT : Goroutine} {w : World} {Stop : Nat → (Nat → Prop) → Goroutine → World → Prop}
theorem AddS.walkG (h : AddS P true (XS Wg) L Wg (· = gT) g) (hI : ∀ w, I w → Lv L Wg w) (k : ∀ O' w', O' = O → Rely O D w w' → WkD P true I (XM Wg) D Stop 0 O' gT w') :
    WkD P true I (XM Wg) D (fun d O g w => d = 1 ∧ g.status = .running ∧ ∀ v : Nat, v < 2147483647 → Turns P true (Lv L Wg) (fun w => WgAt L.tWg Wg w (v * KK) 0) (fun w => w.setCell (stA Wg) (.int .u64 ((v + 1) * KK))) #[rd (stA Wg), wr (stA Wg)]
      (fun g' => ∀ w', Rely O D w w' → WkD P true I (XM Wg) D Stop 1 O g' w') g) 0 O g w := by
  have h1 : IdleD P true (Lv L Wg) (XM Wg) (fun d g => d = 1 ∧ AddAt P true (XS Wg) L Wg (· = gT) g) 0 g :=
    (Idle.deaf (fun e => xs_hearing) (fun e => xs_xm) 0 h).bind fun d g ⟨e, hs⟩ => by
      subst e
      exact hs.deaf (fun w _ => disable_low (.inl rfl)) fun g' hg => (Idle.deaf (fun e => xs_hearing) (fun e => xs_xm) 1 hg)
  refine (h1.wkD (O := O) (D := D) (w := w) hI).mono ?_
  rintro d O' g₁ w₁ ⟨⟨rfl, hr, h2⟩, rfl, r⟩
  refine ⟨rfl, hr, fun v hv => ?_⟩
  obtain ⟨g', h3, h4⟩ := h2 v hv
  refine ⟨g', h3, fun w' r' => ?_⟩
  have h5 : IdleD P true (Lv L Wg) (XM Wg) (fun d g => d = 0 ∧ g = gT) 1 g' :=
    (Idle.deaf (fun e => xs_hearing) (fun e => xs_xm) 1 h4).bind fun d g ⟨e, hs⟩ => by
      subst e
      exact hs.deaf (fun w _ => enable_low (.inr (.inl rfl))) fun g' hg => (Idle.deaf (fun e => xs_hearing) (fun e => xs_xm) 0 hg)
  refine (h5.wkD (O := O') (D := D) (w := w') hI).bind ?_
  rintro d O'' g₂ w₂ ⟨⟨rfl, rfl⟩, rfl, r₂⟩
  exact k _ _ rfl ((r.trans r').trans r₂)
end
end Go.Ren
namespace Go.Am
open Go.Conc (born QuitsD G dcall)
open Go.Conc.Lib
open Go.ConcR (WgAt)
open Go.Ren (grow EvO Guar Rely Wk WkD Idle IdleD X0 XS XM Lv WRel MWait)
open Go.Mx (CellIs Vals MxLink MxLib)
structure AGoM (P : Program) (C : AS → Prop) (s s' : AS) : Prop where
  run : s.fr.ret = false
  round : s.fr.round = none
  at_ : ∃ ops i l k o c x fid first cap a', s.fr.todo = .region ops (i :: l) :: k ∧ ops[i]? = some o ∧ Region.wanted o (yielded ops s.fr.tmps) = true ∧ operOk o = true ∧ o.op = .go c ∧ c.callee = .value x ∧ aeval s.fr.tmps x = .func (.func fid) first cap ∧ plainFn P fid = true ∧
    C ⟨{ AFr.enter P fid ((first ++ c.args.map (aeval s.fr.tmps)) ++ cap) with dk := true }, [], s.h.shared⟩ ∧ afinish P s.fr s.h.shared undef = some a' ∧ s' = ⟨a', s.cs, s.h.shared⟩
def ASpawnsM (P : Program) (pl : Plan) (L : WgLink) (M : MxLink) (gb mb vb : Nat) (V : Vals → Prop) (f : Nat → Vals → Vals) (locks : Nat → Bool) (n : Nat) (Fin : AS → Prop) : Nat → AS → Prop
  | 0, s => AReach P pl (fun s₁ => ∃ s', ACall P L.wait #[.pointer (some ⟨gb, 0, none⟩)] s₁ s' ∧ Fin s') s
  | r + 1, s => AReach P pl (fun s₁ => ∃ s', ACall P L.add #[.pointer (some ⟨gb, 0, none⟩), .int .i64 1] s₁ s' ∧ AReach P pl (fun s₂ => ∃ s'', AGoM P (AMWork P pl L M gb mb vb V (f (n - (r + 1))) (locks (n - (r + 1)))) s₂ s'' ∧ ASpawnsM P pl L M gb mb vb V f locks n Fin r s'') s') s
section
variable {p : Go.Mx.Ph} {M : MxLink} {ρ σ : Env} {O O' D D' : Nat → Prop} {h h' : AH} {w w' : World} {base cs : List Frame} {a a' : AFr} {f : Frame} {i gb mb vb : Nat} {s s₀ : AS} {pl : Plan} {g : Goroutine} {R : AS → Prop} {Nx : (Nat → Prop) → (Nat → Prop) → Goroutine → World → Prop}
theorem ph_lv : ∀ w, p.I w → Lv p.L p.Wg w := fun w h => h.1
theorem add_wkM [Zeros p.P] (H : WgLib p.P p.L) (hp : plainFn p.P p.L.add = true) (hi : ∃ w, Lv p.L p.Wg w)
    (k : AReach p.P pl (fun s₁ => ∃ s', ACall p.P p.L.add #[.pointer (some ⟨gb, 0, none⟩), .int .i64 1] s₁ s' ∧ R s') s) (S : Sim p.P ρ O D base s g w) (hgb : ρ.born gb) (hg : ρ.to gb = (p.Wg, 0))
    (next : ∀ s' σ O' g' w', R s' → ρ.Le σ → Sim p.P σ O' D base s' g' w' → WkD p.P true p.I (XM p.Wg) D (p.MGo i Nx D) 0 O' g' w') :
    WkD p.P true p.I (XM p.Wg) D (p.MAdd i Nx D) 0 O g w := by
  have hW : Wk p.P true p.I X0 D (fun O' g' w' => WkD p.P true p.I (XM p.Wg) D (p.MAdd i Nx D) 0 O' g' w') O g w := by
    refine (areach_wk k S).bind ?_
    rintro O₁ g₁ w₁ ⟨σ, s₁, ⟨s', ⟨hrun, hround, ops, i, l, kk, o, as, ats, a', t1, t2, t3, t4, t5, t6, t7, t8⟩, hR⟩, hle, S₁⟩
    have hg₁ : σ.to gb = (p.Wg, 0) := (hle.to _ hgb).trans hg
    refine (atop_wk (c := []) (l := []) S₁ hrun (.inr ⟨l, kk, t1⟩)).bind ?_
    rintro O₂ g₂ w₂ ⟨τ, lo, f, cs, hle₂, rfl, A⟩
    have hg₂ : τ.to gb = (p.Wg, 0) := (hle₂.to _ (hle.born _ hgb)).trans hg₁
    obtain ⟨hargs, sr, kr, hfat, hst⟩ := call_step (m := true) (base := base) hp A hround t2 t3 t4 t5
    rw [t6] at hargs
    have hargs' := args2 hg₂ hargs
    rw [hargs'] at hst
    refine .stop (.step rfl (fun _ => gor (Frame.enter p.P p.L.add #[.pointer (some ⟨p.Wg, 0, none⟩), .int .i64 1] .normal) (f :: (cs ++ base))) id (fun _ => #[]) (fun w₃ _ _ => ⟨hst w₃, .none w₃⟩) fun w₃ hr _ => ?_)
    show WkD p.P true p.I (XM p.Wg) D (p.MAdd _ Nx D) 0 (grow O₂ w₃ w₃) _ w₃
    rw [Go.Ren.grow_same]
    have hadd := Go.Ren.add_pos (P := p.P) (m := true) (X := XS p.Wg) (L := p.L) (Wg := p.Wg) (T := (· = G ((f.at ⟨f.tmps, f.defers⟩ (.inRegion ops (i :: sr) :: kr)).finish (.tuple #[])) (cs ++ base))) H hi (fun a ha => ⟨a, ha, .inl rfl⟩)
      (b₀ := f) (a₀ := ⟨f.tmps, f.defers⟩) (ops₀ := ops) (i₀ := i) (rest₀ := sr) (k₀ := kr) (cs := cs ++ base) (by rw [Frame.finish_at])
    rw [← hfat] at hadd
    refine Go.Ren.AddS.walkG (gT := G (f.finish (.tuple #[])) (cs ++ base)) hadd ph_lv ?_
    rintro O₄ w₄ rfl hr₄
    subst t8
    refine next _ τ _ _ w₄ hR (hle.trans hle₂) ?_
    exact (A.rely hr |>.rely hr₄).finish (.refl τ) (fun x _ hx => hx) (Nat.le_refl _) (.tuple rfl fun i x y hx => by simp at hx) (A.rely hr |>.rely hr₄).rel t7
  refine (Go.Ren.Wk.deaf (fun e x => x.elim) (fun e x => x.elim) 0 hW).bind ?_
  rintro d O g w ⟨rfl, h⟩
  exact h
theorem go_wkM [Zeros p.P] (H : MxLib p.P M) (HL : WgLib p.P p.L) (hp : plainFn p.P p.L.done = true) (hi : ∃ w, Lv p.L p.Wg w) (hB : p.B < 63) (hV : ∀ v, p.V v → ∀ x ∈ v, Plain x)
    (k : AReach p.P pl (fun s₁ => ∃ s', AGoM p.P (AMWork p.P pl p.L M gb mb vb p.V (p.f i) (p.locks i)) s₁ s' ∧ R s') s) (S : Sim p.P ρ O D base s g w) (n : Names ρ p gb mb vb)
    (next : ∀ s' σ O' D' g' w', R s' → ρ.Le σ → Sim p.P σ O' D' base s' g' w' → (∀ b, D b → D' b) → Nx D' O' g' w') :
    WkD p.P true p.I (XM p.Wg) D (p.MGo i Nx D) 0 O g w := by
  have hW : Wk p.P true p.I X0 D (fun O' g' w' => p.MGo i Nx D 0 O' g' w') O g w := by
    refine (areach_wk k S).bind ?_
    rintro O₁ g₁ w₁ ⟨σ, s₁, ⟨s', ⟨hrun, hround, ops, j, l, kk, o, c, x, fid, first, cap, a', t1, t2, t3, t4, t5, t6, t7, t8, t9, t10, t11⟩, hR⟩, hle, S₁⟩
    refine (atop_wk (c := []) (l := []) S₁ hrun (.inr ⟨l, kk, t1⟩)).mono ?_
    rintro O₂ g₂ w₂ ⟨τ, lo, f, cs, hle₂, rfl, A⟩
    have n₂ := (n.le hle).le hle₂
    refine ⟨rfl, rfl, fun w₃ hr _ => ?_⟩
    obtain ⟨sr, kr, ht⟩ := A.todo
    have hw' := A.wanted o t2
    rw [t3] at hw'
    have hv := A.ops_r o t2 t4
    have hfx := hv x (by rw [t5]; simp [Op.operands, Call.operands, t6])
    rw [t7] at hfx
    generalize hfe : f.eval x = y at hfx
    cases hfx with
    | @func _ fn' _ first' _ cap' hfn hs1 hv1 hs2 hv2 =>
      cases hfn
      have hargs : AR (VR τ) ((first ++ c.args.map (aeval s₁.fr.tmps)) ++ cap) ((first' ++ c.args.map f.eval) ++ cap') :=
        AR.append (AR.append ⟨hs1, hv1⟩ (args_r fun z hz => hv z (by rw [t5]; simp [Op.operands, Call.operands, t6, hz]))) ⟨hs2, hv2⟩
      have hrun : ∀ es₀, (execOp f.eval o).runT p.P w₃ es₀ = (.ok (.spawn { target := .fn (.func fid) cap', args := first' ++ c.args.map f.eval }) w₃, es₀ ++ #[]) := by
        intro es₀
        have : execOp f.eval o = Sem.pure (.spawn { target := .fn (.func fid) cap', args := first' ++ c.args.map f.eval }) := by
          unfold execOp
          rw [t5]
          dsimp only
          unfold resolve
          rw [t6]
          dsimp only
          rw [hfe]
          rfl
        rw [this]
        simp only [Sem.runT, Array.append_empty]
      obtain ⟨h1, h2⟩ := run_of hrun
      have hkind := not_early A.fs.base.ne
      have hst : stepG p.P true (gor f (cs ++ base)) w₃ = .spawn (gor (f.finish undef) (cs ++ base)) (born p.P { target := .fn (.func fid) cap', args := first' ++ c.args.map f.eval }) w₃ #[] := by
        rw [region_wanted A.run ht t2 hw' (fun q hq => by rw [t5] at hq; cases hq)]
        simp [stepG.apply, h1, h2, hkind, GStep.after, gor, born, seen]
      have A₃ := A.rely hr
      have relN : Rel τ (fun _ => False) (fun b => D b ∨ O₂ b) s₁.h.shared w₃ := A₃.rel.share fun b hb => hb.elim (fun x => .inr (.inr x)) (fun x => .inr (.inl x))
      refine ⟨_, _, O₂, fun _ => False, fun b => D b ∨ O₂ b, hst, fun b hb => hb, fun b hb => hb.elim, fun b hb => hb, ?_, ?_⟩
      · refine .step rfl (fun _ => gor (Frame.enter p.P fid ((first' ++ c.args.map f.eval) ++ cap') .deferred) [botF p.P]) id (fun _ => #[]) (fun w₄ _ _ => ⟨born_step t8 w₄, .none w₄⟩) fun w₄ hr₄ _ => ?_
        show WkD p.P false p.I X0 _ _ 0 (grow (fun _ => False) w₄ w₄) _ w₄
        rw [Go.Ren.grow_same]
        refine mwork_wk (pl := pl) (gb := gb) (mb := mb) (vb := vb) H HL hp hi hB hV t9 ?_ n₂
        refine ⟨⟨0, _, [], Nat.zero_le _, rfl, .plain (enter_rD fid hargs), .nil⟩, relN.rely hr₄⟩
      · have e : (fun b => O₂ b ∧ ¬ O₂ b ∧ ¬ False) = fun _ => False := by
          funext b
          exact propext ⟨fun x => x.2.1 x.1, fun x => x.elim⟩
        rw [e]
        subst t11
        refine next _ τ _ _ _ _ hR (hle.trans hle₂) ?_ fun b hb => .inl hb
        exact ⟨⟨lo, _, cs, A.bound, rfl, finish_S A.fs (Nat.le_refl _) vr_undef t10, A.stk⟩, relN⟩
  refine (Go.Ren.Wk.deaf (fun e x => x.elim) (fun e x => x.elim) 0 hW).mono ?_
  rintro d O g w ⟨rfl, h⟩
  exact h
theorem spawns_ofM [Zeros p.P] {Fin : AS → Prop} {ρ₀ : Env} (H : MxLib p.P M) (HL : Waits p.P p.L) (hi : ∃ w, Lv p.L p.Wg w) (hB : p.B < 63) (hV : ∀ v, p.V v → ∀ x ∈ v, Plain x) (hF : p.Fin = FinAll p.P ρ₀ base Fin) :
    ∀ (r : Nat) {s : AS} {ρ : Env} {O D : Nat → Prop} {g : Goroutine} {w : World}, ASpawnsM p.P pl p.L M gb mb vb p.V p.f p.locks p.n Fin r s → Sim p.P ρ O D base s g w → ρ₀.Le ρ → Names ρ p gb mb vb → p.Spn r D O g w
  | 0, s, ρ, O, D, g, w, k, S, hle₀, n => by
    show WkD p.P true p.I (XM p.Wg) D (MWait p.P p.L p.Wg p.Fin D) 0 O g w
    rw [hF]
    refine wait_wkD (gb := gb) HL.toWgLib HL.wait hi k S n.g n.gt ?_
    intro s' σ O' g' w' hF' hle S'
    exact ⟨σ, s', hF', hle₀.trans hle, S'⟩
  | r + 1, s, ρ, O, D, g, w, k, S, hle₀, n => by
    refine add_wkM (gb := gb) HL.toWgLib HL.add hi k S n.g n.gt ?_
    intro s' σ O' g' w' hR hle S'
    refine go_wkM (gb := gb) (mb := mb) (vb := vb) H HL.toWgLib HL.done hi hB hV hR S' (n.le hle) ?_
    intro s'' τ O'' D'' g'' w'' hR' hle' S'' _
    exact spawns_ofM H HL hi hB hV hF r hR' S'' ((hle₀.trans hle).trans hle') ((n.le hle).le hle')
end
end Go.Am
end
section
set_option linter.unusedVariables false
set_option linter.unusedSectionVars false
set_option linter.unusedSimpArgs false
namespace Go.Mx.Ph
open Go.Ren
open Go.Conc hiding Goes mem_ofEvents Deaf
open Go.Conc.Lib (WgLink)
variable {p : Ph} {D F O O' : Nat → Prop} {d i : Nat} {g : Goroutine} {w w' w₀ : World} {Nx Nx' : (Nat → Prop) → (Nat → Prop) → Goroutine → World → Prop}
def beside (p : Ph) (F : Nat → Prop) (w₀ : World) : Ph := { p with Fin := FinF F w₀ p.Fin }
theorem MGo.frame (hN : ∀ D O g w, Nx D O g w → Fr F D O w₀ w → Nx' D (fun b => O b ∨ F b) g w) (h : p.MGo i Nx D d O g w) (hF : Fr F D O w₀ w) : (p.beside F w₀).MGo i Nx' D d (fun b => O b ∨ F b) g w := by
  obtain ⟨h1, h2, h3⟩ := h
  refine ⟨h1, h2, fun w₁ hr hi => ?_⟩
  obtain ⟨g', child, M, H, N, k1, k2, k3, k4, k5, k6⟩ := h3 w₁ (hF.less hr) hi
  have hF₁ := hF.rely hr
  refine ⟨g', child, M, H, N, k1, fun b hb => .inl (k2 b hb), fun b hb => ⟨.inl (k3 b hb).1, (k3 b hb).2⟩, k4, k5, ?_⟩
  have e : (fun b => (O b ∨ F b) ∧ ¬ M b ∧ ¬ H b) = fun b => (O b ∧ ¬ M b ∧ ¬ H b) ∨ F b := by
    funext b
    apply propext
    constructor
    · rintro ⟨h1 | h1, h2⟩
      · exact .inl ⟨h1, h2⟩
      · exact .inr h1
    · rintro (h | h)
      · exact ⟨.inl h.1, h.2⟩
      · exact ⟨.inr h, fun x => (hF.f b h).2 (k2 b x), fun x => (hF.f b h).2 (k3 b x).1⟩
  rw [e]
  refine hN _ _ _ _ k6 ⟨fun b hb => ⟨(hF₁.f b hb).1, fun x => (hF₁.f b hb).2 x.1⟩, fun b hb => ?_, fun b hb => hF₁.o b hb.1, hF₁.keep, hF₁.size, hF₁.os, hF₁.output⟩
  rcases hb with hb | hb
  · exact ⟨(hF₁.d b hb).1, fun x => (hF₁.d b hb).2 x.1⟩
  · exact ⟨hF₁.o b (k2 b hb), fun x => x.2.1 hb⟩
theorem Spn.frame : ∀ (r : Nat) {D O : Nat → Prop} {g : Goroutine} {w : World}, p.Spn r D O g w → Fr F D O w₀ w → (p.beside F w₀).Spn r D (fun b => O b ∨ F b) g w
  | 0, D, O, g, w, h, hF => by
    refine (WkD.frame h hF).mono ?_
    rintro d O' g' w' ⟨O₁, ⟨gT, A, h1, h2, h3⟩, rfl, hF'⟩
    exact ⟨gT, A, h1, h2, fun w'' hr => ⟨O₁, h3 w'' (hF'.less hr), rfl, hF'.rely hr⟩⟩
  | r + 1, D, O, g, w, h, hF => by
    refine (WkD.frame h hF).mono ?_
    rintro d O' g' w' ⟨O₁, ⟨h1, h2, h3⟩, rfl, hF'⟩
    refine ⟨h1, h2, fun v hv => ?_⟩
    obtain ⟨g'', k1, k2⟩ := h3 v hv
    refine ⟨g'', k1, fun w'' hr => ?_⟩
    refine (WkD.frame (k2 w'' (hF'.less hr)) (hF'.rely hr)).mono ?_
    rintro d O'' g₃ w₃ ⟨O₂, h4, rfl, hF''⟩
    exact MGo.frame (fun D O g w => Spn.frame r) h4 hF''
end Go.Mx.Ph
namespace Go.Am
open Go.Conc (born QuitsD G dcall)
open Go.Conc.Lib
open Go.ConcR (WgAt)
open Go.Ren (grow EvO Guar Rely Wk WkD Idle IdleD X0 XS XM Lv WRel MWait At Leads Keep full Own Fr FinF)
open Go.Mx (CellIs Vals MxLink MxLib MuAt)
section
variable {P : Program} {ρ σ : Env} {O O' D : Nat → Prop} {F W U Z Z' : Nat → Prop} {N : Nat} {h h' : AH} {w w' w₀ : World} {base cs : List Frame} {a a' : AFr} {f : Frame} {s s' s₀ : AS} {pl : Plan} {g g' : Goroutine} {L : WgLink} {M : MxLink} {FinP : Machine → Outcome → World → Trace → Prop} {m : Machine} {t : Trace} {wg mu gb mb vb : Nat}
def AS.kill (s : AS) (b : Nat) : AS := ⟨s.fr, s.cs, s.h.kill b⟩
theorem Sim.kill {B : Blk} (S : Sim P ρ O D base s g w) (hd : notDrawn s.fr = true) (hb : ρ.born vb) (hl : s.h.look vb = some B) (hf : B.fam = none) (hn : (s.h.fams.get s.h.n).getD [] = []) : Sim P ρ (fun x => O x ∧ x ≠ (ρ.to vb).1) D base (s.kill vb) g w := by
  obtain ⟨⟨lo, f, cs, h1, h2, h3, h4⟩, rel⟩ := S
  refine ⟨⟨lo, f, cs, ?_, h2, .plain (h3.f0 fun ops l k e => ?_), h4⟩, rel.kill hb hl hf hn⟩
  · show lo ≤ (s.h.kill vb).n
    rw [kill_n]; exact h1
  · unfold notDrawn at hd
    rw [e] at hd
    cases hd
def Folds (n : Nat) (locks : Nat → Bool) (f : Nat → Vals → Vals) (v0 v : Vals) : Prop := ∀ order : List Nat, order.Nodup → (∀ i, i ∈ order ↔ i < n ∧ locks i = true) → order.foldl (fun a k => f k a) v0 = v
theorem Sd.phaseM [Zeros P] {B : Blk} {e : TypeId} {fz : Nat × Nat} {v0 v : Vals} {V : Vals → Prop} {fn : Nat → Vals → Vals} {locks : Nat → Bool} {n : Nat} {Fin : AS → Prop} (H : MxLib P M) (HL : Waits P L) (S : Sd P base F w₀ W U Z N ρ s g w m t) (hUg : U wg) (hUm : U mu) (hne : wg ≠ mu) (hgb : ρ.born gb ∧ ρ.to gb = (wg, 0)) (hmb : ρ.born mb ∧ ρ.to mb = (mu, 0))
    (hwg : WgAt L.tWg wg w 0 0) (hmu : MuAt M.mu.tMutex mu w ⟨0, 0, 0, 0⟩ 0) (hvb : ρ.born vb) (hl : s.h.look vb = some B) (ho : B.obj = .cells v0 e fz) (hf : B.fam = none) (hro : B.ro = false) (hk : (s.h.fams.get s.h.n).getD [] = []) (hd : notDrawn s.fr = true)
    (hn : n < 63) (hV : ∀ v, V v → ∀ x ∈ v, Plain x) (hVf : ∀ k v, V v → V (fn k v)) (hv0 : V v0) (hfold : Folds n locks fn v0 v)
    (hfin : ∀ s', Fin s' → notDrawn s'.fr = true ∧ s'.h.look vb = none) {lf : List Nat} (k : ASpawnsM P pl L M gb mb vb V fn locks n Fin n ⟨s.fr, s.cs, (s.h.kill vb).forget lf⟩) :
    Leads P FinP (fun m t => ∃ (σ : Env) (s' : AS) (g' : Goroutine) (w' : World) (W' Z' : Nat → Prop) (N' : Nat), Fin s' ∧ ρ.Le σ ∧ Sd P base F w₀ W' (fun _ => False) Z' N' σ (s'.tell vb v) g' w' m t) m t := by
  have hcell := S.st.sim.rel.cellIs hvb hl ho (hV v0 hv0)
  have hslack := S.st.sim.rel.noSlack hvb hl hf
  have hOC : full Z w (ρ.to vb).1 := (S.st.sim.rel.own vb B hvb hl).1 hro
  have hS := (S.st.sim.kill hd hvb hl hf hk).forget lf hd
  let p : Go.Mx.Ph := { P := P, L := L, tM := M.mu.tMutex, oe := ((ρ.to vb).2, ρ.ext vb), Wg := wg, Mu := mu, C := (ρ.to vb).1, B := 62, n := n, n0 := N, f := fn, V := V, v0 := v0, locks := locks, Fin := FinAll P ρ base Fin }
  have names : Names ρ p gb mb vb := ⟨hgb.1, hgb.2, hmb.1, hmb.2, hvb, rfl, rfl, hslack⟩
  haveI : Zeros p.P := (inferInstance : Zeros P)
  have hs : p.Spn n (fun _ => False) (fun x => full Z w x ∧ x ≠ (ρ.to vb).1) g w := spawns_ofM (p := p) (Fin := Fin) (ρ₀ := ρ) (base := base) H HL ⟨w, 0, 0, hwg⟩ (by show 62 < 63; omega) hV rfl n k hS (.refl ρ) names
  have hfr : Fr F (fun _ => False) (fun x => full Z w x ∧ x ≠ (ρ.to vb).1) w₀ w := ⟨fun b hb => ⟨S.st.lt b (S.fz b hb), fun x => x.1.2 (S.fz b hb)⟩, fun b hb => hb.elim, fun b hb => hb.1.1, S.keep.1, S.keep.2.1, S.keep.2.2.1, S.keep.2.2.2⟩
  have hs' := Go.Mx.Ph.Spn.frame n hs hfr
  have hCF : ¬ F (ρ.to vb).1 := fun hf => hOC.2 (S.fz _ hf)
  have eO : (fun b => (full Z w b ∧ b ≠ (ρ.to vb).1) ∨ F b) = fun b => full (fun b => Z b ∧ ¬ F b) w b ∧ b ≠ (ρ.to vb).1 := by
    rw [full_or S.fz S.st.lt]
    funext b
    apply propext
    constructor
    · rintro (h | h)
      · exact ⟨.inl h.1, h.2⟩
      · exact ⟨.inr h, fun e => hCF (e ▸ h)⟩
    · rintro ⟨h | h, h2⟩
      · exact .inl ⟨h, h2⟩
      · exact .inr h
  rw [eO] at hs'
  have hat := (S.st.at_.alone).drop (Z' := fun b => Z b ∧ ¬ F b) fun b hb => ⟨S.wu b hb, fun hf => S.fwu b hf hb⟩
  have hC' : full (fun b => Z b ∧ ¬ F b) w (ρ.to vb).1 := by rw [full_or S.fz S.st.lt]; exact .inl hOC
  refine (Go.Mx.Ph.phase (p := p.beside F w₀) (W := W) (U := U) (by show n ≤ 62; omega) hVf (by show n < 2147483647; omega) hUg hUm hne hC' hs' hwg hmu hcell hv0 hat).mono ?_
  rintro m t ⟨w', gT, O, D, order, hat, ⟨O₁, ⟨σ, s', hF, hle, hsim⟩, hO, hfr'⟩, hown, h1, h2, h3, h4⟩
  have hN : 1 ≤ N + n := At.N1 hat
  obtain ⟨hnd, hlk⟩ := hfin s' hF
  have hfd : (p.beside F w₀).fold order = v := hfold order h1 h2
  rw [hfd] at h4
  have hO0 : ∀ b, O₁ b → O 0 b := fun b hb => by rw [hO]; exact .inl hb
  have hf0 : ∀ b, F b → O 0 b := fun b hb => by rw [hO]; exact .inr hb
  have hWC : ∀ b, O 0 b ∨ D 0 b → ¬ (Go.Mx.Ph.W1 p W b) ∧ b ≠ (ρ.to vb).1 := fun b hb => by
    have : ¬ (Go.Mx.Ph.W1 p W b ∨ b = (ρ.to vb).1) := hb.elim (hown.ow 0 b (by show 0 < N + n; omega)) (hown.dw 0 b (by show 0 < N + n; omega))
    exact ⟨fun x => this (.inl x), fun x => this (.inr x)⟩
  have hCW : ¬ (Go.Mx.Ph.W1 p W (ρ.to vb).1) := by
    rintro (x | x | x)
    · exact hOC.2 (S.wu _ (.inl x))
    · exact hOC.2 (by rw [x]; exact S.wu _ (.inr hUg))
    · exact hOC.2 (by rw [x]; exact S.wu _ (.inr hUm))
  have hCsz : (ρ.to vb).1 < w'.heap.size := hown.wlt _ (.inr rfl)
  have hvσ := hle.born _ hvb
  have htσ := hle.to _ hvb
  have hxσ := hle.ext _ hvb
  have hsσ : ¬ σ.slack vb := fun x => hslack ((hle.slack _ hvb).1 x)
  let Zn : Nat → Prop := fun b => Go.Mx.Ph.W1 p W b ∨ F b
  have hrel1 : Rel σ (fun b => full Zn w' b ∧ b ≠ (ρ.to vb).1) (fun _ => False) s'.h w' := hsim.rel.all fun b hb => by
    rcases hb with hb | hb
    · have := hWC b (.inl (hO0 b hb))
      exact ⟨⟨hfr'.o b hb, fun x => x.elim this.1 fun hf => (hfr'.f b hf).2 hb⟩, this.2⟩
    · have := hWC b (.inr hb)
      exact ⟨⟨(hfr'.d b hb).1, fun x => x.elim this.1 fun hf => hown.od 0 0 b (by show 0 < N + n; omega) (by show 0 < N + n; omega) (hf0 b hf) hb⟩, this.2⟩
  have hsim1 : Sim P σ (fun b => full Zn w' b ∧ b ≠ (ρ.to vb).1) (fun _ => False) base s' gT w' := ⟨hsim.run, hrel1⟩
  have hCv : ∀ v, V v → V v := fun v h => h
  have hvV : V v := by have := h3; rw [hfd] at this; exact this
  have hsim2 := hsim1.tell (b := vb) (v := v) hnd hvσ hlk hsσ (hV v hvV) (by rw [htσ, hxσ]; exact h4) (by rw [htσ]; exact fun x => x.2 rfl) (fun x => x)
  rw [htσ] at hsim2
  have eF : (fun x => (full Zn w' x ∧ x ≠ (ρ.to vb).1) ∨ x = (ρ.to vb).1) = full Zn w' := by
    funext b
    apply propext
    constructor
    · rintro (h | rfl)
      · exact h.1
      · exact ⟨hCsz, fun x => x.elim hCW fun hf => hCF hf⟩
    · intro h
      by_cases e : b = (ρ.to vb).1
      · exact .inr e
      · exact .inl ⟨h, e⟩
  rw [eF] at hsim2
  refine ⟨σ, s', gT, w', Go.Mx.Ph.W1 p W, Zn, N + n, hF, hle, ⟨⟨hat.drop fun b hb => .inl hb, hsim2, fun b hb => ?_⟩, ?_, fun b hb => .inr hb, ?_, ⟨hfr'.keep, hfr'.size, hfr'.os, hfr'.output⟩⟩⟩
  · rcases hb with hb | hb
    · exact hown.wlt b (.inl hb)
    · exact (hfr'.f b hb).1
  · rintro b (hb | hb)
    · exact .inl hb
    · exact hb.elim
  · rintro b hf (hb | hb)
    · exact (hWC b (.inl (hf0 b hf))).1 hb
    · exact hb
end
end Go.Am
end
section
set_option linter.unusedVariables false
set_option linter.unusedSectionVars false
set_option linter.unusedSimpArgs false
namespace Go.Am
open Go.Conc.Lib
open Go.Ren (grow EvO Guar Rely Wk At Leads Keep full)
open Go.Mx (Vals MxLink MxLib)
def iv (l : List Int) : Vals := (l.map fun n => Value.int .i64 n).toArray
def unv (v : Vals) : List Int := v.toList.map fun x => match x with | .int _ n => n | _ => 0
theorem unv_iv (l : List Int) : unv (iv l) = l := by
  unfold unv iv
  simp only [List.map_map]
  conv => rhs; rw [← List.map_id l]
  rfl
theorem iv_plain (l : List Int) : ∀ x ∈ iv l, Plain x := by
  intro x hx
  unfold iv at hx
  simp only [List.mem_toArray, List.mem_map] at hx
  obtain ⟨n, _, rfl⟩ := hx
  exact plain_of (n := 1) rfl
def VIn (Vs : List (List Int)) (v : Vals) : Prop := ∃ l ∈ Vs, v = iv l
def fnOf (n : Nat) (locks : Nat → Bool) (f : Nat → List Int → List Int) (k : Nat) (v : Vals) : Vals := if k < n ∧ locks k = true then iv (f k (unv v)) else v
noncomputable section
def skipB (P : Program) (L : WgLink) (gb nt : Nat) (s : AS) : Bool := match s.cs with
  | [] => match s.fr.todo with
    | .drawn .. :: _ => false
    | _ => quitsAt P L gb nt s.fr
  | _ => false
def dstB (o : Oper) (n : Nat) : Bool := match o.dst with
  | some d => decide (d < n)
  | none => true
def xLock (P : Program) (fid : FuncId) (mb : Nat) (s : AS) : Option AS := match opAt s with
  | some o => match o.guard with
    | none => match o.op with
      | .call c => match c.callee with
        | .value (.func f) => match c.args.toList with
          | [.tmp t] => if f == fid && s.fr.round.isNone && beqV 3 (s.fr.tmps.getD t undef) (.pointer (some ⟨mb, 0, none⟩)) && (decide (t < s.fr.tmps.size)) && dstB o s.fr.tmps.size then xFin P s s.h (.tuple #[]) else none
          | _ => none
        | _ => none
      | _ => none
    | some _ => none
  | none => none
def endU (P : Program) (L : WgLink) (ul : FuncId) (gb mb : Nat) (a : AFr) : Bool :=
  a.ret && a.dk && a.round.isNone && (match P.funcs[a.fn]? with | some fn => fn.results.size == 0 | none => false) && match a.defers with
    | [⟨.fn (.func f) cap, args⟩, ⟨.fn (.func f') cap', args'⟩] => f == ul && cap.size == 0 && beqV 3 (.tuple args) (.tuple #[.pointer (some ⟨mb, 0, none⟩)]) && f' == L.done && cap'.size == 0 && beqV 3 (.tuple args') (.tuple #[.pointer (some ⟨gb, 0, none⟩)])
    | _ => false
def endB (P : Program) (L : WgLink) (ul : FuncId) (gb mb vb nt : Nat) (l : List Int) (s : AS) : Bool := match s.cs with
  | [] => notDrawn s.fr && (match atoret nt s.fr with | some a => endU P L ul gb mb a | none => false) && (match s.h.look vb with | some B => (match B.obj with | .cells c _ _ => beqV 9 (.agg c) (.agg (iv l)) | _ => false) | none => false)
  | _ => false
def critB (P : Program) (pl : Plan) (T : Tr TI) (Fu : Tr Func) (L : WgLink) (ul : FuncId) (gb mb vb nt n : Nat) (l : List Int) (s : AS) : Bool := match frunS P pl T Fu 100 s with
  | .inl s₄ => match xDefer P s₄ with
    | some s₅ => match frunS P pl T Fu n s₅ with
      | .inl s₆ => endB P L ul gb mb vb nt l s₆
      | .inr _ => false
    | none => false
  | .inr _ => false
def lockB (P : Program) (pl : Plan) (T : Tr TI) (Fu : Tr Func) (L : WgLink) (M : MxLink) (gb mb vb nt n : Nat) (Vs : List (List Int)) (f : List Int → List Int) (s : AS) : Bool := match xLock P M.mu.lock mb s with
  | some s₃ => notDrawn s₃.fr && (s₃.h.look vb).isNone && Vs.all fun l => critB P pl T Fu L M.mu.unlock gb mb vb nt n (f l) (s₃.tell vb (iv l))
  | none => false
def exploreG (P : Program) (pl : Plan) (T : Tr TI) (Fu : Tr Func) (fin : AS → Bool) (n d : Nat) : AS → Bool :=
  Nat.rec (fun _ => false) (fun _ ih s => match frunS P pl T Fu n s with
    | .inr _ => false
    | .inl s => bif fin s then true else match opNow s with
        | some o => bif Nat.beq ((execOp (aeval s.fr.tmps) o).arity P s.h) 0 then false else allB (fun c => match astep P pl (some c) s with
          | some (.go s') => ih s'
          | _ => false) ((execOp (aeval s.fr.tmps) o).arity P s.h)
        | none => false) d
def workM (P : Program) (pl : Plan) (T : Tr TI) (Fu : Tr Func) (L : WgLink) (M : MxLink) (gb mb vb nt nc : Nat) (Vs : List (List Int)) (f : Nat → List Int → List Int) (locks : Nat → Bool) (k n a : Nat) (s : AS) : Bool := match frunS P pl T Fu 100 s with
  | .inl s₁ => match xDefer P s₁ with
    | some s₂ => match frunS P pl T Fu n s₂ with
      | .inl s₃ => match arun P pl a s₃ with
        | some (.go s₄) => bif locks k then lockB P pl T Fu L M gb mb vb nt nc Vs (f k) s₄ else skipB P L gb nt s₄
        | _ => false
      | .inr _ => false
    | none => false
  | .inr _ => false
end
section
variable {P : Program} {pl : Plan} {L : WgLink} {M : MxLink} {gb mb vb nt nc n d k : Nat} {s s' : AS} {T : Tr TI} {Fu : Tr Func} {Vs : List (List Int)} {f : Nat → List Int → List Int} {locks : Nat → Bool} {l : List Int} {ul fid : FuncId} {a : AFr}
theorem skipB_some (h : skipB P L gb nt s = true) : ASkip P L gb s := by
  unfold skipB at h
  split at h
  · rename_i hcs
    split at h
    · cases h
    · rename_i hnd
      obtain ⟨a'', q1, q2, q3⟩ := quitsAt_some h
      exact ⟨hcs, fun ops l k e => hnd ops l k e, nt, a'', q1, q2, q3⟩
  · cases h
theorem ptr_eq {x : Value} {b : Nat} (h : beqV 3 x (.pointer (some ⟨b, 0, none⟩)) = true) : x = .pointer (some ⟨b, 0, none⟩) := beqV_eq _ _ _ h
theorem xLock_some {mb : Nat} (h : xLock P fid mb s = some s') : ALock P fid mb s s' := by
  unfold xLock at h
  split at h
  · rename_i o ho
    obtain ⟨h1, ops, i, l, k, h2, h3, h4, h5⟩ := opAt_some ho
    split at h
    · rename_i hg
      split at h
      · rename_i c hop
        split at h
        · rename_i f hf
          split at h
          · rename_i t ha
            split at h
            · rename_i hc
              simp only [Bool.and_eq_true, beq_iff_eq, Option.isNone_iff_eq_none, decide_eq_true_eq] at hc
              obtain ⟨⟨⟨⟨rfl, hr⟩, hp⟩, ht⟩, hd⟩ := hc
              obtain ⟨a', h6, h7⟩ := xFin_some h
              obtain ⟨callee, as, ats⟩ := c
              dsimp only at hf ha
              subst hf
              have has : as = #[.tmp t] := by rw [← Array.toArray_toList (xs := as), ha]
              subst has
              have hpt := ptr_eq hp
              refine ⟨h1, hr, ops, i, l, k, o, t, ats, a', h2, h3, h4, h5, hg, hop, ?_, fun d e => ?_, h6, h7⟩
              · have : s.fr.tmps.getD t undef = s.fr.tmps[t] := by simp [Array.getD, ht]
                rw [this] at hpt
                rw [← hpt]
                simp [ht]
              · unfold dstB at hd
                rw [e] at hd
                simpa using hd
            · cases h
          · cases h
        · cases h
      · cases h
    · cases h
  · cases h
theorem endU_some (h : endU P L ul gb mb a = true) : EndU P L ul gb mb a := by
  unfold endU at h
  simp only [Bool.and_eq_true, Option.isNone_iff_eq_none] at h
  obtain ⟨⟨⟨⟨h1, h2⟩, h3⟩, h4⟩, h5⟩ := h
  refine ⟨h1, h2, ?_, ?_, h3⟩
  · split at h4
    · rename_i fn hfn
      exact ⟨fn, hfn, Array.eq_empty_of_size_eq_zero (by simpa using h4)⟩
    · cases h4
  · split at h5
    · rename_i f cap args f' cap' args' hd
      simp only [Bool.and_eq_true, beq_iff_eq] at h5
      obtain ⟨⟨⟨⟨⟨rfl, hc⟩, ha⟩, rfl⟩, hc'⟩, ha'⟩ := h5
      rw [hd, tuple_eq ha, Array.eq_empty_of_size_eq_zero hc, tuple_eq ha', Array.eq_empty_of_size_eq_zero hc']
    · cases h5
theorem endB_some (h : endB P L ul gb mb vb nt l s = true) : AEndU P L ul gb mb vb (iv l) s := by
  unfold endB at h
  split at h
  · rename_i hcs
    simp only [Bool.and_eq_true] at h
    obtain ⟨⟨h1, h2⟩, h3⟩ := h
    refine ⟨hcs, h1, ?_, ?_, iv_plain l⟩
    · split at h2
      · rename_i a ha; exact ⟨nt, a, ha, endU_some h2⟩
      · cases h2
    · split at h3
      · rename_i B hB
        split at h3
        · rename_i c e f ho
          have := beqV_eq _ _ _ h3
          cases this
          exact ⟨B, e, f, hB, ho⟩
        · cases h3
      · cases h3
  · cases h
theorem critB_some (K : TabOk P T) (KF : FunOk P Fu) (h : critB P pl T Fu L ul gb mb vb nt nc l s = true) : ACrit P pl L ul gb mb vb (iv l) s := by
  unfold critB at h
  split at h
  · rename_i s₄ h₄
    split at h
    · rename_i s₅ h₅
      split at h
      · rename_i s₆ h₆
        exact (frunS_inl K KF 100 h₄).bind fun s h => by
          subst h
          exact .here ⟨s₅, xDefer_some h₅, (frunS_inl K KF nc h₆).bind fun s h' => by subst h'; exact .here (endB_some h)⟩
      · cases h
    · cases h
  · cases h
theorem lockB_some (K : TabOk P T) (KF : FunOk P Fu) (h : lockB P pl T Fu L M gb mb vb nt nc Vs (f k) s = true) {g : Vals → Vals} (hg : ∀ l ∈ Vs, g (iv l) = iv (f k l)) : ALocks P pl L M gb mb vb (VIn Vs) g s := by
  unfold lockB at h
  split at h
  · rename_i s₃ h₃
    simp only [Bool.and_eq_true, Option.isNone_iff_eq_none, List.all_eq_true] at h
    obtain ⟨⟨h1, h2⟩, h4⟩ := h
    refine ⟨s₃, xLock_some h₃, h1, h2, ?_⟩
    rintro v ⟨l, hl, rfl⟩
    rw [hg l hl]
    exact critB_some K KF (h4 l hl)
  · cases h
theorem workM_some (K : TabOk P T) (KF : FunOk P Fu) {m d : Nat} (hk : k < m) (h : workM P pl T Fu L M gb mb vb nt nc Vs f locks k n d s = true) : AMWork P pl L M gb mb vb (VIn Vs) (fnOf m locks f k) (locks k) s := by
  unfold workM at h
  split at h
  · rename_i s₁ h₁
    split at h
    · rename_i s₂ h₂
      split at h
      · rename_i s₃ h₃
        split at h
        · rename_i s₄ h₄
          refine (frunS_inl K KF 100 h₁).bind fun s h' => ?_
          subst h'
          refine .here ⟨s₂, xDefer_some h₂, (frunS_inl K KF n h₃).bind fun s h' => ?_⟩
          subst h'
          refine arun_reach d h₄ ?_
          cases hl : locks k with
          | true =>
            rw [hl] at h
            exact .here (.inr ⟨rfl, lockB_some K KF h fun l _ => by unfold fnOf; rw [if_pos ⟨hk, hl⟩, unv_iv]⟩)
          | false =>
            rw [hl] at h
            exact .here (.inl ⟨rfl, skipB_some h⟩)
        · cases h
      · cases h
    · cases h
  · cases h
end
end Go.Am
end
