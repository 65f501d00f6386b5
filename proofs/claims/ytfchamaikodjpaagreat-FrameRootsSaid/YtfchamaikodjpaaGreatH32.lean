/- A part of the proof that the frame keeps its roots: lemmas on which it leans. -/
import Derived.Conc.MuWords
import Derived.Conc.Walk
import Derived.Conc.Own5
import Derived.KernelRfl
import Derived.Test.YtfchamaikodjpaaGreatH18
import Derived.Test.YtfchamaikodjpaaGreatH19
import Derived.Test.YtfchamaikodjpaaGreatH30
import Derived.Test.YtfchamaikodjpaaGreatH31
section
set_option linter.unusedVariables false
set_option linter.unusedSectionVars false
set_option linter.unusedSimpArgs false
namespace Go.Mx
open Go.Ren
open Go.Conc hiding Goes mem_ofEvents
open Go.ConcN (sumTo upd upd_same upd_ne RelBy get_map_set get_map_set_same WgLive)
open Go.Conc.Lib (WgLink)
open Go.ConcR (KK WgAt stA smA rd wr mk g_of_ofEvents loc_of_ofEvent)
def MuAt (ty : TypeId) (Mu : Nat) (w : World) (m : Wd) (q : Nat) : Prop := w.heap[Mu]? = some (.cells #[.int .i32 (m.num : Int), .int .u32 (q : Int)] ty)
def MuLv (ty : TypeId) (Mu : Nat) (w : World) : Prop := ∃ m q : Int, w.heap[Mu]? = some (.cells #[.int .i32 m, .int .u32 q] ty)
abbrev Vals := Array Value
def CellIs (oe : Nat × Nat) (C : Nat) (v : Vals) (w : World) : Prop := ∃ (A : Array Value) (E : TypeId), w.heap[C]? = some (.cells A E (0, 0)) ∧ oe.1 + oe.2 ≤ A.size ∧ v.size ≤ oe.2 ∧ ∀ (i : Nat) (x : Value), v[i]? = some x → A[oe.1 + i]? = some x
structure EffM (Mu : Nat) (w w' : World) : Prop where
  size : w'.heap.size = w.heap.size
  heap : ∀ b, b ≠ Mu → w'.heap[b]? = w.heap[b]?
  os : Tm w.os w'.os
  output : w'.output = w.output
  tape : w'.tape = w.tape
def Fits (B : Nat) (m : Wd) (q : Nat) (x : Lk) : Prop := m.Bits ∧ m.n ≤ B ∧ q ≤ 1 ∧ Wf B m x ∧ match x with
  | .rd aw _ _ => aw = true → m.W = 1 ∧ m.S = 0
  | .r2 _ => (m.S = 0 → m.W = 1) ∧ (m.S = 1 → m.L = 0 ∧ m.W = 0 ∧ 1 ≤ m.n)
  | .a1 _ _ => m.S = 1 ∧ m.L = 0 ∧ m.W = 0 ∧ 1 ≤ m.n
  | .own => m.L = 1
  | _ => True
theorem MI.q_le {B j : Nat} {lk : Nat → Lk} {m : Wd} {q : Nat} (h : MI B j lk m q) : q ≤ 1 := by
  have hS := h.bits.S
  have hW := h.bits.W
  rcases Nat.eq_zero_or_pos m.S with e | e
  · have := h.nor e; omega
  · have := h.sta (by omega); omega
theorem MI.fits {B j : Nat} {lk : Nat → Lk} {m : Wd} {q i : Nat} (h : MI B j lk m q) (hi : i < j) : Fits B m q (lk i) := by
  have hle := h.le
  have hjB := h.jB
  refine ⟨h.bits, by omega, h.q_le, h.wf i hi, ?_⟩
  have hS := h.bits.S
  have hW := h.bits.W
  have lO := sm_le (lk := lk) cO hi
  have lK := sm_le (lk := lk) cK hi
  have lT := sm_le (lk := lk) cT hi
  have lA := sm_le (lk := lk) cA hi
  have nor := h.nor
  have sta := h.sta
  have own := h.own
  have hL := h.bits.L
  generalize lk i = x at lO lK lT lA
  cases x <;> dsimp only <;> try trivial
  · rename_i aw sv it
    intro ha
    subst ha
    simp only [cK, bit, if_true] at lK
    rcases Nat.eq_zero_or_pos m.S with e | e
    · have := nor e; omega
    · have := sta (by omega); omega
  · simp only [cT] at lT
    refine ⟨fun e => ?_, fun e => ?_⟩
    · have := nor e; omega
    · have := sta e; omega
  · simp only [cA] at lA
    rcases Nat.eq_zero_or_pos m.S with e | e
    · have := nor e; omega
    · have := sta (by omega); omega
  · simp only [cO] at lO
    omega
section
variable (P : Program) (I : World → Prop) (tM : TypeId) (Mu B : Nat)
def Law (K : Lk → Nat → Goroutine → Prop) (x : Lk) (d : Nat) (g : Goroutine) : Prop :=
  d = 1 ∧ g.status = .running ∧ g.offers = none ∧ (x = .us → mayWake P g = true) ∧ ∀ (w : World) (m : Wd) (q : Nat), I w → MuAt tM Mu w m q → Fits B m q x →
    ((∃ sv, x = .s1 sv) ∧ q = 0 ∧ stepG P false g w = .go { g with status := .blocked } w #[]) ∨
    (∃ (y : Lk) (m' : Wd) (q' : Nat) (g' : Goroutine) (w' : World) (es : Array Event), Mv m q x m' q' y ∧ stepG P false g w = .go g' w' es ∧ MuAt tM Mu w' m' q' ∧ EffM Mu w w' ∧ (∀ e ∈ es, LibEv Mu e) ∧ (x = .us → g'.status = .running) ∧ K y (deafBehind d es) g')
def Nx (R : Lk → Nat → Goroutine → Prop) (E : Nat → Goroutine → Prop) (y : Lk) (d : Nat) (g : Goroutine) : Prop := match y with
  | .own | .done => E d g
  | y => R y d g
def LSeat (E : Nat → Goroutine → Prop) (x : Lk) (d : Nat) (g : Goroutine) : Prop :=
  ∃ R : Lk → Nat → Goroutine → Prop, (∀ y d g, R y d g → IdleD P false I X0 (Law P I tM Mu B (Nx R E) y) d g) ∧ R x d g
end
section
variable {P : Program} {I : World → Prop} {tM : TypeId} {Mu B : Nat} {K K' : Lk → Nat → Goroutine → Prop} {E E' : Nat → Goroutine → Prop} {x : Lk} {d : Nat} {g : Goroutine}
theorem Law.mono (h : Law P I tM Mu B K x d g) (hk : ∀ y d g, K y d g → K' y d g) : Law P I tM Mu B K' x d g := by
  obtain ⟨h1, h2, h3, h4, h5⟩ := h
  refine ⟨h1, h2, h3, h4, fun w m q hi hm hf => ?_⟩
  rcases h5 w m q hi hm hf with h | ⟨y, m', q', g', w', es, k1, k2, k3, k4, k5, k6, k7⟩
  · exact .inl h
  · exact .inr ⟨y, m', q', g', w', es, k1, k2, k3, k4, k5, k6, hk _ _ _ k7⟩
theorem Nx.mono {R R' : Lk → Nat → Goroutine → Prop} (hr : ∀ y d g, R y d g → R' y d g) (he : ∀ d g, E d g → E' d g) {y : Lk} (h : Nx R E y d g) : Nx R' E' y d g := by
  cases y <;> first | exact he _ _ h | exact hr _ _ _ h
theorem LSeat.out (h : LSeat P I tM Mu B E x d g) : IdleD P false I X0 (Law P I tM Mu B (Nx (LSeat P I tM Mu B E) E) x) d g := by
  obtain ⟨R, h1, h2⟩ := h
  exact (h1 _ _ _ h2).mono fun d g k => k.mono fun y d g x => x.mono (fun y d g hr => ⟨R, h1, hr⟩) fun _ _ he => he
theorem LSeat.exit (he : ∀ d g, E d g → E' d g) (h : LSeat P I tM Mu B E x d g) : LSeat P I tM Mu B E' x d g := by
  obtain ⟨R, h1, h2⟩ := h
  exact ⟨R, fun y d g hr => (h1 y d g hr).mono fun d g k => k.mono fun y d g x => x.mono (fun _ _ _ z => z) he, h2⟩
theorem LSeat.idle (h : IdleD P false I X0 (Law P I tM Mu B (Nx (LSeat P I tM Mu B E) E) x) d g) : LSeat P I tM Mu B E x d g :=
  ⟨fun y d g => IdleD P false I X0 (Law P I tM Mu B (Nx (LSeat P I tM Mu B E) E) y) d g, fun y d g hr => hr.mono fun d g k => k.mono fun y d g z => z.mono (fun y d g hs => hs.out) fun _ _ he => he, h⟩
end
inductive WT where
  | work | lck (x : Lk) | en | ac | cr (v : Vals) | rl | ds | ulk (x : Lk) | ue | fin (s : Nat)
def lkOf : WT → Lk
  | .work => .out
  | .lck x | .ulk x => x
  | .en | .ac | .cr _ | .rl | .ds => .own
  | .ue | .fin _ => .done
def stN : WT → Nat
  | .fin s => s
  | _ => 8
def holds : WT → Prop
  | .cr _ | .rl => True
  | _ => False
def early : WT → Prop
  | .work | .lck _ | .en | .ac | .cr _ => True
  | _ => False
def past : WT → Prop
  | .rl | .ds | .ulk _ | .ue | .fin _ => True
  | _ => False
def isL : Lk → Prop
  | .l0 | .rd .. | .sq _ | .c1 _ | .c2 _ | .t1 _ | .s1 _ | .t2 | .r2 _ | .a1 .. => True
  | _ => False
def isU : Lk → Prop
  | .own | .uc _ | .ux | .us => True
  | _ => False
theorem isL_hd (T : Lo) : isL (hd T) := by unfold hd; split <;> trivial
theorem Mv.inL {m m' : Wd} {q q' : Nat} {x y : Lk} (h : Mv m q x m' q' y) (hx : isL x) : isL y ∨ y = .own := by
  cases h <;> first | exact .inr rfl | exact .inl (isL_hd _) | exact .inl trivial | (exact hx.elim) | skip
  · rename_i hy; rcases hy with rfl | rfl <;> exact .inl trivial
  · rename_i sv; cases sv <;> exact .inl trivial
theorem Mv.inU {m m' : Wd} {q q' : Nat} {x y : Lk} (h : Mv m q x m' q' y) (hx : isU x) : isU y ∨ y = .done := by
  cases h <;> first | exact .inr rfl | exact .inl trivial | (exact hx.elim)
def phase : WT → Prop
  | .lck x => isL x
  | .ulk x => isU x
  | _ => True
def rkW (m : Wd) : WT → Nat
  | .work => 2000
  | .lck x => 1000 + rk m x
  | .en => 900
  | .ac => 890
  | .cr _ => 880
  | .rl => 870
  | .ds => 860
  | .ulk x => 500 + rk m x
  | .ue => 400
  | .fin s => s
structure Ph where
  P : Program
  L : WgLink
  tM : TypeId
  oe : Nat × Nat
  Wg : Nat
  Mu : Nat
  C : Nat
  B : Nat
  n : Nat
  n0 : Nat
  f : Nat → Vals → Vals
  V : Vals → Prop
  v0 : Vals
  locks : Nat → Bool
  Fin : (Nat → Prop) → (Nat → Prop) → Goroutine → World → Prop
namespace Ph
variable (p : Ph)
def I (w : World) : Prop := Lv p.L p.Wg w ∧ MuLv p.tM p.Mu w
abbrev Lw (K : Lk → Nat → Goroutine → Prop) (x : Lk) : Nat → Goroutine → Prop := Law p.P p.I p.tM p.Mu p.B K x
abbrev Ls (E : Nat → Goroutine → Prop) (x : Lk) : Nat → Goroutine → Prop := LSeat p.P p.I p.tM p.Mu p.B E x
def UeS (d : Nat) (g : Goroutine) : Prop := d = 1 ∧ Says p.P false p.I #[Go.ConcR.mk .enable] (IdleD p.P false (Lv p.L p.Wg) X0 (WRel p.P p.L p.Wg) 0) g
def UnE : Nat → Goroutine → Prop := IdleD p.P false p.I X0 p.UeS
def DsS (d : Nat) (g : Goroutine) : Prop := d = 0 ∧ Says p.P false p.I #[Go.ConcR.mk .disable] (p.Ls p.UnE .own 1) g
def RlS (d : Nat) (g : Goroutine) : Prop := d = 0 ∧ Says p.P false p.I #[Go.ConcR.mk (.releaseMerge (stA p.Mu))] (IdleD p.P false p.I X0 p.DsS 0) g
def CrS (i : Nat) (v : Vals) (D : Nat → Prop) (d : Nat) (O : Nat → Prop) (g : Goroutine) (w : World) : Prop :=
  d = 0 ∧ g.status = .running ∧ CellIs p.oe p.C (p.f i v) w ∧ ∃ (g' : Goroutine) (es : Array Event), (∀ w m q, p.I w → MuAt p.tM p.Mu w m q → stepG p.P false g w = .go g' w es) ∧ (∀ e ∈ es, LibEv p.Mu e) ∧ deafBehind 0 es = 0 ∧ IdleD p.P false p.I X0 p.RlS 0 g'
def CrT (i : Nat) (O D : Nat → Prop) (w : World) (g : Goroutine) : Prop :=
  ∀ w' v, Rely O D w w' → p.V v → CellIs p.oe p.C v w' → ¬ O p.C → ¬ D p.C → p.C < w'.heap.size → WkD p.P false p.I X0 D (p.CrS i v D) 0 (fun b => O b ∨ b = p.C) g w'
def AcS (T : Goroutine → Prop) (d : Nat) (g : Goroutine) : Prop := d = 0 ∧ Says p.P false p.I #[Go.ConcR.mk (.acquire (stA p.Mu))] T g
def EnS (T : Goroutine → Prop) (d : Nat) (g : Goroutine) : Prop := d = 1 ∧ Says p.P false p.I #[Go.ConcR.mk .enable] (IdleD p.P false p.I X0 (p.AcS T) 0) g
def LkE (T : Goroutine → Prop) : Nat → Goroutine → Prop := IdleD p.P false p.I X0 (p.EnS T)
def WSkp (i : Nat) (d : Nat) (g : Goroutine) : Prop := d = 0 ∧ p.locks i = false ∧ IdleD p.P false (Lv p.L p.Wg) X0 (WRel p.P p.L p.Wg) 0 g
def WLok (i : Nat) (D : Nat → Prop) (d : Nat) (O : Nat → Prop) (g : Goroutine) (w : World) : Prop := d = 0 ∧ p.locks i = true ∧ Says p.P false p.I #[Go.ConcR.mk .disable] (p.Ls (p.LkE (p.CrT i O D w)) .l0 1) g
def WLk (i : Nat) (D : Nat → Prop) (d : Nat) (O : Nat → Prop) (g : Goroutine) (w : World) : Prop := g.status = .running ∧ (p.WLok i D d O g w ∨ p.WSkp i d g)
def MGo (i : Nat) (Nx : (Nat → Prop) → (Nat → Prop) → Goroutine → World → Prop) (D : Nat → Prop) (d : Nat) (O : Nat → Prop) (g : Goroutine) (w : World) : Prop :=
  d = 0 ∧ g.status = .running ∧ ∀ w₁, Rely O D w w₁ → p.I w₁ → ∃ (g' child : Goroutine) (M H N : Nat → Prop), stepG p.P true g w₁ = .spawn g' child w₁ #[] ∧ (∀ b, M b → O b) ∧ (∀ b, H b → O b ∧ ¬ M b) ∧ (∀ b, N b → D b ∨ M b) ∧
    WkD p.P false p.I X0 N (p.WLk i N) 0 H child w₁ ∧ Nx (fun b => D b ∨ M b) (fun b => O b ∧ ¬ M b ∧ ¬ H b) g' w₁
def MAdd (i : Nat) (Nx : (Nat → Prop) → (Nat → Prop) → Goroutine → World → Prop) (D : Nat → Prop) (d : Nat) (O : Nat → Prop) (g : Goroutine) (w : World) : Prop :=
  d = 1 ∧ g.status = .running ∧ ∀ v : Nat, v < 2147483647 → Turns p.P true (Lv p.L p.Wg) (fun w => WgAt p.L.tWg p.Wg w (v * KK) 0) (fun w => w.setCell (stA p.Wg) (.int .u64 ((v + 1) * KK))) #[rd (stA p.Wg), wr (stA p.Wg)]
    (fun g' => ∀ w', Rely O D w w' → WkD p.P true p.I (XM p.Wg) D (p.MGo i Nx D) 1 O g' w') g
def Spn : Nat → (Nat → Prop) → (Nat → Prop) → Goroutine → World → Prop
  | 0, D, O, g, w => WkD p.P true p.I (XM p.Wg) D (MWait p.P p.L p.Wg p.Fin D) 0 O g w
  | r + 1, D, O, g, w => WkD p.P true p.I (XM p.Wg) D (p.MAdd (p.n - (r + 1)) (Spn r) D) 0 O g w
def MSeat : MTag → Pos → Prop
  | .sp (r + 1) 1, x => WkD p.P true p.I (XM p.Wg) x.D (p.MAdd (p.n - (r + 1)) (p.Spn r) x.D) x.d x.O x.g x.w
  | .sp (r + 1) 0, x => WkD p.P true p.I (XM p.Wg) x.D (p.MGo (p.n - (r + 1)) (p.Spn r) x.D) x.d x.O x.g x.w
  | .sp 0 1, x => WkD p.P true p.I (XM p.Wg) x.D (MWait p.P p.L p.Wg p.Fin x.D) x.d x.O x.g x.w
  | .sp _ _, _ => False
  | .w1 _ gT A, x => Anch p.P p.L p.Wg gT A ∧ (∀ w', Rely x.O x.D x.w w' → p.Fin x.D x.O gT w') ∧ IdleD p.P true (Lv p.L p.Wg) (XM p.Wg) (M1 p.P p.L p.Wg gT A) x.d x.g
  | .w2 v gT A, x => Anch p.P p.L p.Wg gT A ∧ (∀ w', Rely x.O x.D x.w w' → p.Fin x.D x.O gT w') ∧ IdleD p.P true (Lv p.L p.Wg) (XM p.Wg) (M2 p.P p.L p.Wg gT A v) x.d x.g
  | .w3 gT, x => (∀ w', Rely x.O x.D x.w w' → p.Fin x.D x.O gT w') ∧ IdleD p.P true (Lv p.L p.Wg) (XM p.Wg) (M3 p.P p.L p.Wg gT) x.d x.g
  | .w4 gT, x => (∀ w', Rely x.O x.D x.w w' → p.Fin x.D x.O gT w') ∧ IdleD p.P true (Lv p.L p.Wg) (XM p.Wg) (M4 p.P p.L p.Wg gT) x.d x.g
  | .acq gT, x => (∀ w', Rely x.O x.D x.w w' → p.Fin x.D x.O gT w') ∧ IdleD p.P true (Lv p.L p.Wg) (XM p.Wg) (MAcq p.P p.L p.Wg gT) x.d x.g
def MNx : MTag → Pos → Pos → Prop
  | .sp (r + 1) 1 => NxD p.P true p.I fun D => p.MAdd (p.n - (r + 1)) (p.Spn r) D
  | .sp (r + 1) 0 => NxD p.P true p.I fun D => p.MGo (p.n - (r + 1)) (p.Spn r) D
  | .sp 0 1 => NxD p.P true p.I fun D => MWait p.P p.L p.Wg p.Fin D
  | .sp _ _ => fun _ _ => False
  | .w1 _ gT A => NxI p.P true (Lv p.L p.Wg) (M1 p.P p.L p.Wg gT A)
  | .w2 v gT A => NxI p.P true (Lv p.L p.Wg) (M2 p.P p.L p.Wg gT A v)
  | .w3 gT => NxI p.P true (Lv p.L p.Wg) (M3 p.P p.L p.Wg gT)
  | .w4 gT => NxI p.P true (Lv p.L p.Wg) (M4 p.P p.L p.Wg gT)
  | .acq gT => NxI p.P true (Lv p.L p.Wg) (MAcq p.P p.L p.Wg gT)
theorem mseat_acc : ∀ (s : MTag) (x : Pos), p.MSeat s x → Acc (p.MNx s) x := by
  intro s x h
  cases s with
  | sp r s =>
    rcases r with _ | r
    · rcases s with _ | _ | s
      · exact h.elim
      · exact WkD.acc h
      · exact h.elim
    · rcases s with _ | _ | s
      · exact WkD.acc h
      · exact WkD.acc h
      · exact h.elim
  | w1 v gT A => exact IdleD.acc h.2.2 x rfl rfl
  | w2 v gT A => exact IdleD.acc h.2.2 x rfl rfl
  | w3 gT => exact IdleD.acc h.2 x rfl rfl
  | w4 gT => exact IdleD.acc h.2 x rfl rfl
  | acq gT => exact IdleD.acc h.2 x rfl rfl
def St (i : Nat) : WT → Pos → Nat → Goroutine → Prop
  | .lck y, x => p.Lw (Nx (p.Ls (p.LkE (p.CrT i x.O x.D x.w))) (p.LkE (p.CrT i x.O x.D x.w))) y
  | .en, x => p.EnS (p.CrT i x.O x.D x.w)
  | .ac, x => p.AcS (p.CrT i x.O x.D x.w)
  | .rl, _ => p.RlS
  | .ds, _ => p.DsS
  | .ulk y, _ => p.Lw (Nx (p.Ls p.UnE) p.UnE) y
  | .ue, _ => p.UeS
  | _, _ => fun _ _ => False
def WSeat (i : Nat) : WT → Pos → Prop
  | .work, x => WkD p.P false p.I X0 x.D (p.WLk i x.D) x.d x.O x.g x.w
  | .cr v, x => WkD p.P false p.I X0 x.D (p.CrS i v x.D) x.d x.O x.g x.w
  | .fin 7, x => IdleD p.P false (Lv p.L p.Wg) X0 (WRel p.P p.L p.Wg) x.d x.g
  | .fin 5, x => IdleD p.P false (Lv p.L p.Wg) XD (WAdd p.P p.L p.Wg) x.d x.g
  | .fin 4, x => IdleD p.P false (Lv p.L p.Wg) X0 (WLd p.P p.L p.Wg) x.d x.g
  | .fin 3, x => IdleD p.P false (Lv p.L p.Wg) X0 (WSt p.P p.L p.Wg) x.d x.g
  | .fin 2, x => IdleD p.P false (Lv p.L p.Wg) X0 (WSem p.P p.L p.Wg) x.d x.g
  | .fin 1, x => ∃ q, QuitsD p.P q x.d x.g
  | .fin _, _ => False
  | wt, x => IdleD p.P false p.I X0 (p.St i wt x) x.d x.g
def WNx (i : Nat) : WT → Pos → Pos → Prop
  | .work => NxD p.P false p.I fun D => p.WLk i D
  | .cr v => NxD p.P false p.I fun D => p.CrS i v D
  | .fin 7 => NxI p.P false (Lv p.L p.Wg) (WRel p.P p.L p.Wg)
  | .fin 5 => NxI p.P false (Lv p.L p.Wg) (WAdd p.P p.L p.Wg)
  | .fin 4 => NxI p.P false (Lv p.L p.Wg) (WLd p.P p.L p.Wg)
  | .fin 3 => NxI p.P false (Lv p.L p.Wg) (WSt p.P p.L p.Wg)
  | .fin 2 => NxI p.P false (Lv p.L p.Wg) (WSem p.P p.L p.Wg)
  | .fin 1 => NxQ p.P
  | .fin _ => fun _ _ => False
  | wt => fun x' x => x'.O = x.O ∧ x'.D = x.D ∧ x'.w = x.w ∧ NxI p.P false p.I (p.St i wt x) x' x
theorem acc_st {i : Nat} {wt : WT} {x : Pos} (h : IdleD p.P false p.I X0 (p.St i wt x) x.d x.g) : Acc (fun x' x => x'.O = x.O ∧ x'.D = x.D ∧ x'.w = x.w ∧ NxI p.P false p.I (p.St i wt x) x' x) x := by
  have key : ∀ y, Acc (NxI p.P false p.I (p.St i wt x)) y → y.O = x.O → y.D = x.D → y.w = x.w → Acc (fun x' x => x'.O = x.O ∧ x'.D = x.D ∧ x'.w = x.w ∧ NxI p.P false p.I (p.St i wt x) x' x) y := by
    intro y hy
    induction hy with
    | intro y _ ih =>
      intro e1 e2 e3
      refine .intro _ fun z hz => ?_
      obtain ⟨h1, h2, h3, h4⟩ := hz
      have e : p.St i wt y = p.St i wt x := by cases wt <;> simp only [St, e1, e2, e3]
      rw [e] at h4
      exact ih z h4 (h1.trans e1) (h2.trans e2) (h3.trans e3)
  exact key x (IdleD.acc h x rfl rfl) rfl rfl rfl
theorem wseat_acc (i : Nat) : ∀ (s : WT) (x : Pos), p.WSeat i s x → Acc (p.WNx i s) x := by
  intro s x h
  match s, h with
  | .work, h => exact WkD.acc h
  | .cr v, h => exact WkD.acc h
  | .fin 7, h => exact IdleD.acc h x rfl rfl
  | .fin 5, h => exact IdleD.acc h x rfl rfl
  | .fin 4, h => exact IdleD.acc h x rfl rfl
  | .fin 3, h => exact IdleD.acc h x rfl rfl
  | .fin 2, h => exact IdleD.acc h x rfl rfl
  | .fin 1, h => obtain ⟨q, hq⟩ := h; exact quits_acc q x hq
  | .fin 0, h => exact h.elim
  | .fin 6, h => exact h.elim
  | .fin (s + 8), h => exact h.elim
  | .lck y, h => exact p.acc_st h
  | .en, h => exact p.acc_st h
  | .ac, h => exact p.acc_st h
  | .rl, h => exact p.acc_st h
  | .ds, h => exact p.acc_st h
  | .ulk y, h => exact p.acc_st h
  | .ue, h => exact p.acc_st h
end Ph
end Go.Mx
end
section
set_option linter.unusedVariables false
set_option linter.unusedSectionVars false
set_option linter.unusedSimpArgs false
namespace Go.Mx
open Go.Ren
open Go.Conc hiding Goes
open Go.Conc.Lib Go.Conc.Locks Go.RowKit
open Go.ConcN (upd)
open Go.ConcR (KK stA smA rd wr DC0)
def loopIn : Code → Option Code
  | .loop c => some c
  | .seq x y => match loopIn x with | some c => some c | none => loopIn y
  | .block _ c => loopIn c
  | _ => none
def restIn : Code → Option Code
  | .seq (.block _ _) r => some r
  | .seq _ y => restIn y
  | _ => none
def lsBody (L : MxLink) : Code := (lockSlowFn L).body.getD .skip
def lsLoop (L : MxLink) : Code := (loopIn (lsBody L)).getD .skip
def lsRest (L : MxLink) : Code := (restIn (lsBody L)).getD .skip
end Go.Mx
end
section
set_option linter.unusedVariables false
set_option linter.unusedSectionVars false
set_option linter.unusedSimpArgs false
namespace Go.Sy
open Go.Ren
open Go.Conc hiding Goes
inductive E where
  | b (x : Bool) | i (k : IntKind) (z : Int) | v (n : Nat)
  deriving DecidableEq
def E.den (ν : Nat → Value) : E → Value
  | .b x => .bool x
  | .i k z => .int k z
  | .v n => ν n
abbrev Env := List (Nat × Option E)
def get : Env → Nat → Option E
  | [], _ => none
  | (j, x) :: r, k => if j == k then x else get r k
def put (e : Env) (d : Option Nat) (x : Option E) : Env := match d with
  | some d => (d, x) :: e
  | none => e
inductive Key where
  | bin (op : BinOp) (x y : E) | fld (x : E) (i : Nat) | nil (x : E)
  deriving DecidableEq
abbrev Tab := List (Key × E)
def look : Tab → Key → Option E
  | [], _ => none
  | (j, x) :: r, k => if j = k then some x else look r k
def opE (e : Env) : Operand → Option E
  | .tmp t => get e t
  | .const (.bool b) => some (.b b)
  | .const (.int k z) => some (.i k z)
  | _ => none
def opv (T : Tab) (e : Env) (o : Oper) : Option (E × List TypeId) := match o.op with
  | .move x | .assign x => (opE e x).map (·, [])
  | .pick c a b => match opE e c with
    | some (.b true) => (opE e a).map (·, [])
    | some (.b false) => (opE e b).map (·, [])
    | _ => none
  | .nilCheck x => ((opE e x).bind fun x => look T (.nil x)).map (·, [])
  | .binOp op _ x y _ => match opE e x, opE e y with
    | some x, some y => (look T (.bin op x y)).map (·, [])
    | _, _ => none
  | .unOp .not _ x => match opE e x with
    | some (.b t) => some (.b !t, [])
    | _ => none
  | .fieldAddr s x f => ((opE e x).bind fun x => look T (.fld x f)).map (·, [s])
  | _ => none
def isWanted (ops : Array Oper) (e : Env) (o : Oper) : Option Bool := match o.guard with
  | none => some true
  | some (g, b) => match (ops[g]?).bind (·.dst) with
    | some d => match get e d with
      | some (.b t) => some (t == b)
      | _ => none
    | none => none
structure S where
  env : Env
  todo : List Item
  log : List TypeId
def dstOk (sz : Nat) (o : Oper) : Bool := match o.dst with
  | some d => d < sz
  | none => true
def step (sz : Nat) (T : Tab) (s : S) : Option S := match s.todo with
  | .code .skip :: k => some { s with todo := k }
  | .code (.seq x y) :: k => some { s with todo := .code x :: .code y :: k }
  | .code (.cond c x y) :: k => match opE s.env c with
    | some (.b t) => some { s with todo := .code (if t then x else y) :: k }
    | _ => none
  | .code (.block id c) :: k => some { s with todo := .code c :: .inBlock id :: k }
  | .code (.loop c) :: k => some { s with todo := .code c :: .inLoop c :: k }
  | .inLoop c :: k => some { s with todo := .code c :: .inLoop c :: k }
  | .inBlock _ :: k => some { s with todo := k }
  | .code (.exit id) :: k => (exitTo id k).map fun k => { s with todo := k }
  | .code (.region _ ops false) :: k => some { s with todo := .inRegion ops (List.range ops.size) :: k }
  | .inRegion _ [] :: k => some { s with todo := k }
  | .inRegion ops (i :: rest) :: k => match ops[i]? with
    | some o => if dstOk sz o = false then none else match isWanted ops s.env o with
      | some true => match opv T s.env o with
        | some (x, l) => some ⟨put s.env o.dst (some x), .inRegion ops rest :: k, l ++ s.log⟩
        | none => none
      | some false => some { s with env := put s.env o.dst none, todo := .inRegion ops rest :: k }
      | none => none
    | none => none
  | _ => none
def run (sz : Nat) (T : Tab) : Nat → S → S
  | 0, s => s
  | n + 1, s => match step sz T s with
    | some s => run sz T n s
    | none => s
def Agree (ν : Nat → Value) (e : Env) (A : Array Value) : Prop := ∀ k x, get e k = some x → A[k]? = some (x.den ν)
def Yields {α : Type} (P : Program) (e : Sem α) (v : α) : Prop := ∀ w, Sem.run P e w = .ok v w ∧ ∀ es, Sem.events P e w es = es
def KeyOk (P : Program) (tI : TypeId) (ν : Nat → Value) (k : Key) (z : E) : Prop := match k with
  | .bin op x y => ∀ (ty : TypeId) (xo yo : Operand), Yields P (do eqGuard op ty xo yo (x.den ν) (y.den ν); binOp op ty (x.den ν) (y.den ν)) (z.den ν)
  | .fld x i => Yields P (Instr.fieldAt tI (x.den ν) i) (z.den ν)
  | .nil x => z = x ∧ ∃ q, x.den ν = .pointer (some q)
def TabOk (P : Program) (tI : TypeId) (ν : Nat → Value) (T : Tab) : Prop := ∀ p ∈ T, KeyOk P tI ν p.1 p.2
end Go.Sy
end
section
set_option linter.unusedVariables false
set_option linter.unusedSectionVars false
set_option linter.unusedSimpArgs false
namespace Go.Sy
open Go.Ren
open Go.Conc hiding Goes
section
variable {P : Program} {tI : TypeId} {ν : Nat → Value} {T : Tab} {e : Env} {A : Array Value} {o : Oper}
theorem yields_pure {α : Type} (v : α) : Yields P (pure v : Sem α) v := fun w => ⟨by simp [go_sem], fun es => by simp [go_sem]⟩
theorem yields_map {α β : Type} {f : Sem α} {v : α} (g : α → β) (h : Yields P f v) : Yields P (do pure (g (← f))) (g v) := fun w => by
  obtain ⟨h1, h2⟩ := h w
  exact ⟨by simp [go_sem, h1], fun es => by simp [go_sem, h1, h2]⟩
theorem look_ok (h : TabOk P tI ν T) {k : Key} {z : E} (hl : look T k = some z) : KeyOk P tI ν k z := by
  induction T with
  | nil => cases hl
  | cons p T ih =>
    obtain ⟨j, x⟩ := p
    unfold look at hl
    split at hl
    · rename_i e; subst e; cases hl; exact h _ (List.mem_cons_self ..)
    · exact ih (fun q hq => h q (List.mem_cons_of_mem _ hq)) hl
theorem opE_ok (h : Agree ν e A) {ds : List Deferred} {x : Operand} {z : E} (hx : opE e x = some z) : Act.eval ⟨A, ds⟩ x = z.den ν := by
  unfold opE at hx
  split at hx
  · rename_i t
    have := h t z hx
    simp [Act.eval, Array.getD_eq_getD_getElem?, this]
  · cases hx; rfl
  · cases hx; rfl
  · cases hx
theorem Agree.put (h : Agree ν e A) {d : Option Nat} {x : Option E} {y : Value} (hy : ∀ z, x = some z → y = z.den ν) (hd : ∀ k, d = some k → k < A.size) : Agree ν (put e d x) ((Act.put ⟨A, []⟩ d y).tmps) := by
  intro k z hz
  unfold Act.put
  cases d with
  | none => exact h k z hz
  | some d =>
    have hlt := hd d rfl
    simp only [Go.Sy.put, get] at hz
    dsimp only
    split at hz
    · rename_i e1
      have : d = k := by simpa using e1
      subst this
      rw [Array.getElem?_setIfInBounds_self_of_lt hlt, hy z hz]
    · rename_i e1
      have : d ≠ k := by simpa using e1
      rw [Array.getElem?_setIfInBounds_ne this]
      exact h k z hz
theorem opv_ok (hT : TabOk P tI ν T) (h : Agree ν e A) {ds : List Deferred} {z : E} {l : List TypeId} (hv : opv T e o = some (z, l)) (hl : ∀ t ∈ l, t = tI) : Yields P (execOp (Act.eval ⟨A, ds⟩) o) (.value (z.den ν)) := by
  unfold opv at hv
  unfold execOp
  split at hv
  · rename_i x he
    rw [he]
    cases hx : opE e x with
    | none => rw [hx] at hv; cases hv
    | some y => rw [hx] at hv; simp only [Option.map_some, Option.some.injEq, Prod.mk.injEq] at hv; obtain ⟨rfl, rfl⟩ := hv; dsimp only; rw [opE_ok h hx]; exact yields_pure _
  · rename_i x he
    rw [he]
    cases hx : opE e x with
    | none => rw [hx] at hv; cases hv
    | some y => rw [hx] at hv; simp only [Option.map_some, Option.some.injEq, Prod.mk.injEq] at hv; obtain ⟨rfl, rfl⟩ := hv; dsimp only; rw [opE_ok h hx]; exact yields_pure _
  · rename_i c a b he
    rw [he]
    dsimp only
    split at hv
    · rename_i hc
      rw [opE_ok h hc]
      cases hx : opE e a with
      | none => rw [hx] at hv; cases hv
      | some y => rw [hx] at hv; simp only [Option.map_some, Option.some.injEq, Prod.mk.injEq] at hv; obtain ⟨rfl, rfl⟩ := hv; rw [opE_ok h hx]; exact fun w => ⟨by simp [go_sem, E.den, asBool], fun es => by simp [go_sem, E.den, asBool]⟩
    · rename_i hc
      rw [opE_ok h hc]
      cases hx : opE e b with
      | none => rw [hx] at hv; cases hv
      | some y => rw [hx] at hv; simp only [Option.map_some, Option.some.injEq, Prod.mk.injEq] at hv; obtain ⟨rfl, rfl⟩ := hv; rw [opE_ok h hx]; exact fun w => ⟨by simp [go_sem, E.den, asBool], fun es => by simp [go_sem, E.den, asBool]⟩
    · cases hv
  · rename_i x he
    rw [he]
    dsimp only
    cases hx : opE e x with
    | none => rw [hx] at hv; cases hv
    | some y =>
      rw [hx] at hv
      simp only [Option.bind_some] at hv
      cases hk : look T (.nil y) with
      | none => rw [hk] at hv; cases hv
      | some z' =>
        rw [hk] at hv; simp only [Option.map_some, Option.some.injEq, Prod.mk.injEq] at hv; obtain ⟨rfl, rfl⟩ := hv
        obtain ⟨rfl, q, hq⟩ := look_ok hT hk
        rw [opE_ok h hx, hq]
        exact yields_pure _
  · rename_i op ty x y r he
    rw [he]
    dsimp only
    split at hv
    · rename_i a b ha hb
      cases hk : look T (.bin op a b) with
      | none => rw [hk] at hv; cases hv
      | some z' =>
        rw [hk] at hv; simp only [Option.map_some, Option.some.injEq, Prod.mk.injEq] at hv; obtain ⟨rfl, rfl⟩ := hv
        rw [opE_ok h ha, opE_ok h hb]
        exact yields_map Next.value (look_ok hT hk ty x y)
    · cases hv
  · rename_i ty x he
    rw [he]
    dsimp only
    split at hv
    · rename_i t ht
      simp only [Option.some.injEq, Prod.mk.injEq] at hv
      obtain ⟨rfl, rfl⟩ := hv
      rw [opE_ok h ht]
      exact yields_map Next.value (yields_pure _)
    · cases hv
  · rename_i s x f he
    rw [he]
    dsimp only
    cases hx : opE e x with
    | none => rw [hx] at hv; cases hv
    | some y =>
      rw [hx] at hv
      simp only [Option.bind_some] at hv
      cases hk : look T (.fld y f) with
      | none => rw [hk] at hv; cases hv
      | some z' =>
        rw [hk] at hv; simp only [Option.map_some, Option.some.injEq, Prod.mk.injEq] at hv; obtain ⟨rfl, rfl⟩ := hv
        obtain rfl := hl s (List.mem_cons_self ..)
        rw [opE_ok h hx]
        exact yields_map Next.value (look_ok hT hk)
  · cases hv
theorem wanted_ok (h : Agree ν e A) {ops : Array Oper} {b : Bool} (hw : isWanted ops e o = some b) : Region.wanted o (yielded ops A) = b := by
  unfold isWanted at hw
  unfold Region.wanted
  split at hw
  · rename_i hg; rw [hg]; cases hw; rfl
  · rename_i g c hg
    rw [hg]
    dsimp only
    split at hw
    · rename_i d hd
      split at hw
      · rename_i t ht
        cases hw
        have := h d _ ht
        simp only [yielded, hd, Option.bind_some, this, E.den]
        cases t <;> cases c <;> rfl
      · cases hw
    · cases hw
end
end Go.Sy
end
section
set_option linter.unusedVariables false
set_option linter.unusedSectionVars false
set_option linter.unusedSimpArgs false
namespace Go.Sy
open Go.Ren
open Go.Conc hiding Goes
section
variable {P : Program} {tI : TypeId} {ν : Nat → Value} {T : Tab} {A : Array Value} {sz : Nat} {m : Bool} {b : Frame} {ds : List Deferred} {cs : List Frame} {s s' : S}
theorem dst_lt {o : Oper} (h : ¬ dstOk sz o = false) (hz : A.size = sz) : ∀ k, o.dst = some k → k < A.size := by
  intro k hk
  unfold dstOk at h
  rw [hk] at h
  dsimp only at h
  rw [hz]
  simpa using h
theorem step_ok (hT : TabOk P tI ν T) (hk : b.kind ≠ .early) (hz : A.size = sz) (h : Agree ν s.env A) (hs : step sz T s = some s') (hl : ∀ t ∈ s'.log, t = tI) :
    (∀ t ∈ s.log, t ∈ s'.log) ∧ ∃ A' : Array Value, A'.size = sz ∧ Agree ν s'.env A' ∧ ∀ w, stepG P m (G (b.at ⟨A, ds⟩ s.todo) cs) w = .go (G (b.at ⟨A', ds⟩ s'.todo) cs) w #[] := by
  obtain ⟨e, todo, log⟩ := s
  unfold step at hs
  dsimp only at hs h ⊢
  split at hs
  · cases hs; exact ⟨fun _ x => x, A, hz, h, fun w => stepG_skip⟩
  · cases hs; exact ⟨fun _ x => x, A, hz, h, fun w => stepG_seq⟩
  · split at hs
    · rename_i t ht
      cases hs
      exact ⟨fun _ x => x, A, hz, h, fun w => stepG_cond (opE_ok h ht)⟩
    · cases hs
  · cases hs; exact ⟨fun _ x => x, A, hz, h, fun w => stepG_block⟩
  · cases hs; exact ⟨fun _ x => x, A, hz, h, fun w => stepG_loop⟩
  · cases hs; exact ⟨fun _ x => x, A, hz, h, fun w => stepG_inLoop⟩
  · cases hs; exact ⟨fun _ x => x, A, hz, h, fun w => stepG_inBlock⟩
  · rename_i id k
    cases hx : exitTo id k with
    | none => rw [hx] at hs; cases hs
    | some k' => rw [hx] at hs; cases hs; exact ⟨fun _ x => x, A, hz, h, fun w => stepG_exit hx⟩
  · cases hs; exact ⟨fun _ x => x, A, hz, h, fun w => stepG_region⟩
  · cases hs; exact ⟨fun _ x => x, A, hz, h, fun w => stepG_region_end⟩
  · rename_i ops i rest k
    split at hs
    · rename_i o ho
      split at hs
      · cases hs
      · rename_i hd
        have hlt := dst_lt hd hz
        split at hs
        · rename_i hw
          split at hs
          · rename_i x l hv
            cases hs
            have hy := opv_ok (ds := ds) hT h hv fun t ht => hl t (List.mem_append_left _ ht)
            refine ⟨fun t ht => List.mem_append_right _ ht, (Act.put ⟨A, []⟩ o.dst (x.den ν)).tmps, ?_, h.put (fun z hz => by cases hz; rfl) hlt, fun w => ?_⟩
            · unfold Act.put; split <;> simp [hz]
            · have h1 := stepG_value (P := P) (main := m) (cs := cs) (b := b) (a := ⟨A, ds⟩) (k := k) (rest := rest) ho (wanted_ok h hw) hk (hy w).1
              rw [h1]
              unfold listed
              rw [(hy w).2, seen_none]
              unfold Act.put
              cases o.dst <;> rfl
          · cases hs
        · rename_i hw
          cases hs
          refine ⟨fun _ x => x, (Act.put ⟨A, []⟩ o.dst undef).tmps, ?_, h.put (fun z hz => by cases hz) hlt, fun w => ?_⟩
          · unfold Act.put; split <;> simp [hz]
          · rw [stepG_unwanted ho (wanted_ok h hw)]
            unfold Act.put
            cases o.dst <;> rfl
        · cases hs
    · cases hs
  · cases hs
theorem run_log (hs : ∀ {s s' : S}, step sz T s = some s' → ∀ t ∈ s.log, t ∈ s'.log) : ∀ (n : Nat) (s : S), ∀ t ∈ s.log, t ∈ (run sz T n s).log
  | 0, s, t, ht => ht
  | n + 1, s, t, ht => by
    unfold run
    split
    · rename_i s' h; exact run_log hs n s' t (hs h t ht)
    · exact ht
theorem step_log {s s' : S} (h : step sz T s = some s') : ∀ t ∈ s.log, t ∈ s'.log := by
  obtain ⟨e, todo, log⟩ := s
  intro t ht
  unfold step at h
  dsimp only at h
  split at h
  · cases h; exact ht
  · cases h; exact ht
  · split at h
    · cases h; exact ht
    · cases h
  · cases h; exact ht
  · cases h; exact ht
  · cases h; exact ht
  · cases h; exact ht
  · rename_i id k
    cases hx : exitTo id k with
    | none => rw [hx] at h; cases h
    | some k' => rw [hx] at h; cases h; exact ht
  · cases h; exact ht
  · cases h; exact ht
  · split at h
    · split at h
      · cases h
      · split at h
        · split at h
          · cases h; exact List.mem_append_right _ ht
          · cases h
        · cases h; exact ht
        · cases h
    · cases h
  · cases h
theorem run_ok {I : World → Prop} {X : Event → Prop} {Q : Nat → Goroutine → Prop} {d : Nat} (hT : TabOk P tI ν T) (hk : b.kind ≠ .early) : ∀ (n : Nat) (s : S) (A : Array Value), A.size = sz → Agree ν s.env A → (∀ t ∈ (run sz T n s).log, t = tI) →
    (∀ A' : Array Value, A'.size = sz → Agree ν (run sz T n s).env A' → IdleD P m I X Q d (G (b.at ⟨A', ds⟩ (run sz T n s).todo) cs)) → IdleD P m I X Q d (G (b.at ⟨A, ds⟩ s.todo) cs)
  | 0, s, A, hz, h, hl, k => k A hz h
  | n + 1, s, A, hz, h, hl, k => by
    unfold run at hl k
    split at hl
    · rename_i s' hs
      rw [hs] at k
      obtain ⟨_, A', hz', h', hg⟩ := step_ok (m := m) (ds := ds) (cs := cs) hT hk hz h hs fun t ht => hl t (run_log step_log n s' t ht)
      refine .step rfl (fun _ => G (b.at ⟨A', ds⟩ s'.todo) cs) (fun _ => #[]) (fun w _ => ⟨hg w, by simp⟩) fun w _ => ?_
      exact run_ok hT hk n s' A' hz' h' hl k
    · rename_i hs
      rw [hs] at k
      exact k A hz h
end
end Go.Sy
end
