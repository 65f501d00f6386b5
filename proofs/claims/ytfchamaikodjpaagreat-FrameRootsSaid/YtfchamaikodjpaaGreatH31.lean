/- A part of the proof that the frame keeps its roots: lemmas on which it leans. -/
import Derived.Conc.CrowdBase
section
set_option linter.unusedVariables false
set_option linter.unusedSectionVars false
set_option linter.unusedSimpArgs false
namespace Go.Mx
open Go.ConcN (sumTo upd upd_same upd_ne sumTo_upd le_sumTo sumTo_le sumTo_congr)
structure Wd where
  L : Nat
  W : Nat
  S : Nat
  n : Nat
  deriving DecidableEq
def Wd.num (m : Wd) : Nat := m.L + 2 * m.W + 4 * m.S + 8 * m.n
structure Wd.Bits (m : Wd) : Prop where
  L : m.L ≤ 1
  W : m.W ≤ 1
  S : m.S ≤ 1
theorem Wd.inj {a b : Wd} (ha : a.Bits) (hb : b.Bits) (h : a.num = b.num) : a = b := by
  obtain ⟨a1, a2, a3, a4⟩ := a
  obtain ⟨b1, b2, b3, b4⟩ := b
  obtain ⟨h1, h2, h3⟩ := ha
  obtain ⟨k1, k2, k3⟩ := hb
  simp only [Wd.num] at h h1 h2 h3 k1 k2 k3
  simp only [Wd.mk.injEq]
  omega
structure Lo where
  old : Wd
  aw : Bool
  sv : Bool
  it : Nat
inductive Lk where
  | out | l0 | rd (aw sv : Bool) (it : Nat) | sq (T : Lo) | c1 (T : Lo) | c2 (T : Lo) | t1 (sv : Bool) | s1 (sv : Bool) | t2 | r2 (sv : Bool) | a1 (sv cl : Bool)
  | own | uc (old : Wd) | ux | us | done
def hd (T : Lo) : Lk := if T.old.L = 1 ∧ T.old.S = 0 then .sq T else .c2 T
def bit (b : Bool) : Nat := if b then 1 else 0
def cO : Lk → Nat | .own => 1 | _ => 0
def cK : Lk → Nat | .rd aw _ _ => bit aw | .sq T => bit T.aw | .c1 T => bit T.aw | .c2 T => bit T.aw | _ => 0
def cT : Lk → Nat | .t2 => 1 | .r2 _ => 1 | _ => 0
def cU : Lk → Nat | .us => 1 | _ => 0
def cA : Lk → Nat | .a1 _ _ => 1 | _ => 0
def cW : Lk → Nat | .t1 _ => 1 | .s1 _ => 1 | _ => 0
def seeks : Lk → Prop | .uc _ => True | .ux => True | _ => False
def sm (φ : Lk → Nat) (j : Nat) (lk : Nat → Lk) : Nat := sumTo j fun i => φ (lk i)
def WfT (B : Nat) (T : Lo) : Prop := T.old.Bits ∧ T.old.n ≤ B ∧ (T.sv = true → T.aw = true) ∧ (T.aw = true → T.old.W = 1 ∧ T.old.S = 0) ∧ T.it ≤ 4
def Wf (B : Nat) (m : Wd) : Lk → Prop
  | .rd aw sv it => (sv = true → aw = true) ∧ it ≤ 4
  | .sq T => WfT B T ∧ T.old.L = 1 ∧ T.old.S = 0
  | .c1 T => WfT B T ∧ T.old.L = 1 ∧ T.old.S = 0 ∧ T.old.W = 0 ∧ 0 < T.old.n ∧ T.aw = false ∧ T.it < 4
  | .c2 T => WfT B T
  | .a1 _ cl => cl = false → 2 ≤ m.n
  | .uc o => o.Bits ∧ o.L = 0 ∧ o.W = 0 ∧ o.S = 0 ∧ 0 < o.n ∧ o.n ≤ B
  | _ => True
structure MI (B j : Nat) (lk : Nat → Lk) (m : Wd) (q : Nat) : Prop where
  bits : m.Bits
  jB : j ≤ B
  own : sm cO j lk = m.L
  nor : m.S = 0 → sm cK j lk + sm cT j lk + sm cU j lk + q = m.W ∧ sm cA j lk = 0 ∧ m.n + sm cU j lk + q = sm cW j lk
  sta : m.S = 1 → m.W = 0 ∧ sm cK j lk = 0 ∧ m.L + sm cT j lk + sm cA j lk + sm cU j lk + q = 1 ∧ m.n = sm cW j lk + sm cT j lk + sm cA j lk ∧ 1 ≤ m.n
  prog : m.L = 0 → m.S = 0 → m.W = 0 → 0 < m.n → ∃ i, i < j ∧ seeks (lk i)
  wf : ∀ i, i < j → Wf B m (lk i)
inductive Mv : Wd → Nat → Lk → Wd → Nat → Lk → Prop
  | enter {m q} : Mv m q .out m q .l0
  | l0f {m q} (h : m = ⟨0, 0, 0, 0⟩) : Mv m q .l0 ⟨1, 0, 0, 0⟩ q .own
  | l0s {m q} (h : m ≠ ⟨0, 0, 0, 0⟩) : Mv m q .l0 m q (.rd false false 0)
  | rd {m q aw sv it} : Mv m q (.rd aw sv it) m q (hd ⟨m, aw, sv, it⟩)
  | sqn {m q T} : Mv m q (.sq T) m q (.c2 T)
  | sqc {m q T} (h : T.it < 4) (ha : T.aw = false ∧ T.old.W = 0 ∧ T.old.n ≠ 0) : Mv m q (.sq T) m q (.c1 T)
  | sqr {m q T} (h : T.it < 4) (ha : ¬ (T.aw = false ∧ T.old.W = 0 ∧ T.old.n ≠ 0)) : Mv m q (.sq T) m q (.rd T.aw T.sv (T.it + 1))
  | c1y {m q T} (h : m = T.old) : Mv m q (.c1 T) ⟨m.L, 1, m.S, m.n⟩ q (.rd true T.sv (T.it + 1))
  | c1n {m q T} (h : m ≠ T.old) : Mv m q (.c1 T) m q (.rd false T.sv (T.it + 1))
  | c2l {m q T} (h : m = T.old) (h1 : m.L = 0 ∧ m.S = 0) : Mv m q (.c2 T) ⟨1, if T.aw then 0 else m.W, 0, m.n⟩ q .own
  | c2q {m q T y} (h : m = T.old) (h1 : ¬ (m.L = 0 ∧ m.S = 0)) (hy : y = .t1 T.sv ∨ y = .s1 T.sv) : Mv m q (.c2 T) ⟨m.L, if T.aw then 0 else m.W, if T.sv ∧ m.L = 1 then 1 else m.S, m.n + 1⟩ q y
  | c2n {m q T} (h : m ≠ T.old) : Mv m q (.c2 T) m q (.rd T.aw T.sv T.it)
  | t1 {m q sv} : Mv m q (.t1 sv) m q (.s1 sv)
  | s1 {m q sv} : Mv m (q + 1) (.s1 sv) m q (if sv then .r2 true else .t2)
  | t2 {m q b} : Mv m q .t2 m q (.r2 b)
  | r2n {m q sv} (h : m.S = 0) : Mv m q (.r2 sv) m q (hd ⟨m, true, sv, 0⟩)
  | r2s {m q sv} (h : m.S = 1) : Mv m q (.r2 sv) m q (.a1 sv (!sv || decide (m.n = 1)))
  | a1 {m q sv cl} : Mv m q (.a1 sv cl) ⟨1, m.W, if cl then 0 else m.S, m.n - 1⟩ q .own
  | u0d {m q} (h : m.S = 0 ∧ (m.W = 1 ∨ m.n = 0)) : Mv m q .own ⟨0, m.W, m.S, m.n⟩ q .done
  | u0c {m q} (h : m.S = 0 ∧ m.W = 0 ∧ 0 < m.n) : Mv m q .own ⟨0, m.W, m.S, m.n⟩ q (.uc ⟨0, m.W, m.S, m.n⟩)
  | u0s {m q} (h : m.S = 1) : Mv m q .own ⟨0, m.W, m.S, m.n⟩ q .us
  | ucy {m q o} (h : m = o) : Mv m q (.uc o) ⟨m.L, 1, m.S, m.n - 1⟩ q .us
  | ucn {m q o} (h : m ≠ o) : Mv m q (.uc o) m q .ux
  | uxd {m q} (h : ¬ (m.L = 0 ∧ m.W = 0 ∧ m.S = 0 ∧ 0 < m.n)) : Mv m q .ux m q .done
  | uxc {m q} (h : m.L = 0 ∧ m.W = 0 ∧ m.S = 0 ∧ 0 < m.n) : Mv m q .ux m q (.uc m)
  | us {m q} : Mv m q .us m (q + 1) .done
section
variable {B j q q' : Nat} {lk : Nat → Lk} {m m' : Wd} {i : Nat} {x y : Lk}
theorem sm_upd (φ : Lk → Nat) (y : Lk) (hi : i < j) : sm φ j (upd lk i y) + φ (lk i) = sm φ j lk + φ y := sumTo_upd lk y φ hi
theorem sm_le (φ : Lk → Nat) (hi : i < j) : φ (lk i) ≤ sm φ j lk := le_sumTo (f := fun i => φ (lk i)) hi
theorem sm_add (φ ψ : Lk → Nat) (j : Nat) (lk : Nat → Lk) : sm (fun x => φ x + ψ x) j lk = sm φ j lk + sm ψ j lk := by
  unfold sm
  induction j with
  | zero => rfl
  | succ j ih => simp only [sumTo]; rw [ih]; omega
theorem sm_one {φ : Lk → Nat} (h : ∀ x, φ x ≤ 1) : sm φ j lk ≤ j := by
  have := sumTo_le (f := fun i => φ (lk i)) (c := 1) (j := j) fun i _ => h _
  simpa [sm] using this
theorem MI.le (h : MI B j lk m q) : m.n ≤ j := by
  have h1 : sm (fun x => (cW x + cT x) + cA x) j lk ≤ j := sm_one fun x => by cases x <;> simp [cW, cT, cA]
  rw [sm_add (fun x => cW x + cT x) cA, sm_add cW cT] at h1
  have hb := h.bits.S
  rcases Nat.eq_zero_or_pos m.S with e | e
  · have := h.nor e; omega
  · have := h.sta (by omega); omega
theorem MI.mk' (h : MI B j lk m q) (hi : i < j) (bits : m'.Bits)
    (own : sm cO j (upd lk i y) = m'.L)
    (nor : m'.S = 0 → sm cK j (upd lk i y) + sm cT j (upd lk i y) + sm cU j (upd lk i y) + q' = m'.W ∧ sm cA j (upd lk i y) = 0 ∧ m'.n + sm cU j (upd lk i y) + q' = sm cW j (upd lk i y))
    (sta : m'.S = 1 → m'.W = 0 ∧ sm cK j (upd lk i y) = 0 ∧ m'.L + sm cT j (upd lk i y) + sm cA j (upd lk i y) + sm cU j (upd lk i y) + q' = 1 ∧ m'.n = sm cW j (upd lk i y) + sm cT j (upd lk i y) + sm cA j (upd lk i y) ∧ 1 ≤ m'.n)
    (prog : m'.L = 0 → m'.S = 0 → m'.W = 0 → 0 < m'.n → (seeks y ∨ (¬ seeks (lk i) ∧ m.L = 0 ∧ m.S = 0 ∧ m.W = 0 ∧ 0 < m.n)))
    (wfy : Wf B m' y) (wfo : m.n ≤ m'.n ∨ sm cA j lk = 0 ∨ 1 ≤ cA (lk i)) (ha : sm cA j lk ≤ 1) : MI B j (upd lk i y) m' q' := by
  refine ⟨bits, h.jB, own, nor, sta, fun h1 h2 h3 h4 => ?_, fun k hk => ?_⟩
  · rcases prog h1 h2 h3 h4 with p | ⟨p1, p2, p3, p4, p5⟩
    · exact ⟨i, hi, by rw [upd_same]; exact p⟩
    · obtain ⟨k, hk, hs⟩ := h.prog p2 p3 p4 p5
      have hne : k ≠ i := fun e => p1 (e ▸ hs)
      exact ⟨k, hk, by rw [upd_ne lk y hne]; exact hs⟩
  · by_cases e : k = i
    · subst e; rw [upd_same]; exact wfy
    · rw [upd_ne lk y e]
      have hw := h.wf k hk
      revert hw
      cases hlk : lk k <;> simp only [Wf] <;> try exact id
      intro hw hc
      have hw := hw hc
      rename_i sv cl
      have e1 := sm_upd (lk := lk) cA .out hi
      have e2 := sm_le (lk := upd lk i .out) cA hk
      rw [upd_ne lk .out e, hlk] at e2
      simp only [cA] at e1 e2
      rcases wfo with w | w | w
      · omega
      · omega
      · simp only [cA] at w; omega
theorem MI.a_le (h : MI B j lk m q) : sm cA j lk ≤ 1 := by
  have hb := h.bits.S
  rcases Nat.eq_zero_or_pos m.S with e | e
  · have := h.nor e; omega
  · have := h.sta (by omega); omega
theorem wf_hd {T : Lo} (h : WfT B T) : Wf B m (hd T) := by
  unfold hd
  split
  · rename_i e; exact ⟨h, e⟩
  · exact h
theorem c_hd (T : Lo) : cO (hd T) = 0 ∧ cK (hd T) = bit T.aw ∧ cT (hd T) = 0 ∧ cU (hd T) = 0 ∧ cA (hd T) = 0 ∧ cW (hd T) = 0 := by
  unfold hd; split <;> exact ⟨rfl, rfl, rfl, rfl, rfl, rfl⟩
end
end Go.Mx
end
section
set_option linter.unusedVariables false
set_option linter.unusedSectionVars false
set_option linter.unusedSimpArgs false
namespace Go.Mx
open Go.ConcN (sumTo upd upd_same upd_ne sumTo_upd le_sumTo sumTo_le sumTo_congr)
section
variable {B j q q' : Nat} {lk : Nat → Lk} {m m' : Wd} {i : Nat} {x y : Lk}
theorem MI.still (h : MI B j lk m q) (hi : i < j) (hO : cO y = cO (lk i)) (hK : cK y = cK (lk i)) (hT : cT y = cT (lk i)) (hU : cU y = cU (lk i)) (hA : cA y = cA (lk i)) (hW : cW y = cW (lk i))
    (hs : ¬ seeks (lk i) ∨ seeks y ∨ ¬ (m.L = 0 ∧ m.W = 0 ∧ m.S = 0 ∧ 0 < m.n)) (hw : Wf B m y) : MI B j (upd lk i y) m q := by
  have eO := sm_upd (lk := lk) cO y hi
  have eK := sm_upd (lk := lk) cK y hi
  have eT := sm_upd (lk := lk) cT y hi
  have eU := sm_upd (lk := lk) cU y hi
  have eA := sm_upd (lk := lk) cA y hi
  have eW := sm_upd (lk := lk) cW y hi
  have own := h.own
  have nor := h.nor
  have sta := h.sta
  refine h.mk' hi h.bits (by omega) (fun e => ?_) (fun e => ?_) (fun h1 h2 h3 h4 => ?_) hw (.inl (Nat.le_refl _)) h.a_le
  · have := nor e; omega
  · have := sta e; omega
  · rcases hs with hs | hs | hs
    · exact .inr ⟨hs, h1, h2, h3, h4⟩
    · exact .inl hs
    · exact absurd ⟨h1, h3, h2, h4⟩ hs
theorem MI.step (h : MI B j lk m q) (hi : i < j) (hx : lk i = x) (k : Mv m q x m' q' y) : MI B j (upd lk i y) m' q' := by
  have wfx := h.wf i hi
  rw [hx] at wfx
  have hle := h.le
  have hjB := h.jB
  have eO := sm_upd (lk := lk) cO y hi
  have eK := sm_upd (lk := lk) cK y hi
  have eT := sm_upd (lk := lk) cT y hi
  have eU := sm_upd (lk := lk) cU y hi
  have eA := sm_upd (lk := lk) cA y hi
  have eW := sm_upd (lk := lk) cW y hi
  have lO := sm_le (lk := lk) cO hi
  have lK := sm_le (lk := lk) cK hi
  have lT := sm_le (lk := lk) cT hi
  have lU := sm_le (lk := lk) cU hi
  have lA := sm_le (lk := lk) cA hi
  have lW := sm_le (lk := lk) cW hi
  rw [hx] at eO eK eT eU eA eW lO lK lT lU lA lW
  have own := h.own
  have nor := h.nor
  have sta := h.sta
  have bL := h.bits.L
  have bW := h.bits.W
  have bS := h.bits.S
  have seen : ∀ {aw sv : Bool} {it : Nat}, (sv = true → aw = true) → it ≤ 4 → (aw = true → m.W = 1 ∧ m.S = 0) → WfT B ⟨m, aw, sv, it⟩ := fun a b c => ⟨h.bits, by show m.n ≤ B; omega, a, c, b⟩
  have awake : ∀ {aw : Bool}, bit aw ≤ sm cK j lk → aw = true → m.W = 1 ∧ m.S = 0 := by
    intro aw hb ha
    subst ha
    simp only [bit, if_true] at hb
    rcases Nat.eq_zero_or_pos m.S with e | e
    · have := nor e; omega
    · have := sta (by omega); omega
  cases k with
  | enter => exact h.still hi (by rw [hx]; rfl) (by rw [hx]; rfl) (by rw [hx]; rfl) (by rw [hx]; rfl) (by rw [hx]; rfl) (by rw [hx]; rfl) (.inl (by rw [hx]; exact id)) trivial
  | l0f e =>
    subst e
    have hn := nor rfl
    simp only [cO, cK, cT, cU, cA, cW] at eO eK eT eU eA eW lO lK lT lU lA lW hn own
    exact h.mk' hi ⟨by simp, by simp, by simp⟩ (by simp only []; omega) (fun _ => by simp only []; omega) (fun e => by cases e) (fun e => by cases e) trivial (.inl (Nat.le_refl _)) h.a_le
  | l0s e => exact h.still hi (by rw [hx]; rfl) (by rw [hx]; rfl) (by rw [hx]; rfl) (by rw [hx]; rfl) (by rw [hx]; rfl) (by rw [hx]; rfl) (.inl (by rw [hx]; exact id)) ⟨fun x => x, by omega⟩
  | rd =>
    rename_i aw sv it
    obtain ⟨w1, w2⟩ := wfx
    obtain ⟨c1, c2, c3, c4, c5, c6⟩ := c_hd ⟨m, aw, sv, it⟩
    exact h.still hi (by rw [hx, c1]; rfl) (by rw [hx, c2]; rfl) (by rw [hx, c3]; rfl) (by rw [hx, c4]; rfl) (by rw [hx, c5]; rfl) (by rw [hx, c6]; rfl) (.inl (by rw [hx]; exact id)) (wf_hd (seen w1 w2 (awake lK)))
  | sqn => exact h.still hi (by rw [hx]; rfl) (by rw [hx]; rfl) (by rw [hx]; rfl) (by rw [hx]; rfl) (by rw [hx]; rfl) (by rw [hx]; rfl) (.inl (by rw [hx]; exact id)) wfx.1
  | sqc e ha => exact h.still hi (by rw [hx]; rfl) (by rw [hx]; rfl) (by rw [hx]; rfl) (by rw [hx]; rfl) (by rw [hx]; rfl) (by rw [hx]; rfl) (.inl (by rw [hx]; exact id)) ⟨wfx.1, wfx.2.1, wfx.2.2, ha.2.1, by omega, ha.1, e⟩
  | sqr e ha => exact h.still hi (by rw [hx]; rfl) (by rw [hx]; rfl) (by rw [hx]; rfl) (by rw [hx]; rfl) (by rw [hx]; rfl) (by rw [hx]; rfl) (.inl (by rw [hx]; exact id)) ⟨wfx.1.2.2.1, by omega⟩
  | c1y e =>
    rename_i T
    obtain ⟨w1, w2, w3, w4, w5, w6, w7⟩ := wfx
    subst e
    simp only [cO, cK, cT, cU, cA, cW, bit, w6, Bool.false_eq_true, if_false, if_true] at *
    have := nor w3
    refine h.mk' hi ⟨bL, Nat.le_refl _, bS⟩ (by simp only []; omega) (fun _ => by simp only []; omega) (fun e => by simp only [] at e; omega) (fun _ _ e => by simp at e) ⟨fun _ => rfl, by omega⟩ (.inl (Nat.le_refl _)) h.a_le
  | c1n e =>
    obtain ⟨w1, w2, w3, w4, w5, w6, w7⟩ := wfx
    exact h.still hi (by rw [hx]; rfl) (by rw [hx]; simp only [cK, w6]) (by rw [hx]; rfl) (by rw [hx]; rfl) (by rw [hx]; rfl) (by rw [hx]; rfl) (.inl (by rw [hx]; exact id)) ⟨fun e => by have := w1.2.2.1 e; rw [w6] at this; exact this, by omega⟩
  | c2l e e1 =>
    rename_i T
    obtain ⟨w1, w2, w3, w4, w5⟩ := wfx
    subst e
    have hn := nor e1.2
    cases haw : T.aw with
    | false =>
      simp only [cO, cK, cT, cU, cA, cW, bit, haw, Bool.false_eq_true, if_false, if_true] at *
      exact h.mk' hi ⟨Nat.le_refl _, bW, Nat.zero_le _⟩ (by simp only []; omega) (fun _ => by simp only []; omega) (fun e => by simp at e) (fun e => by simp at e) trivial (.inl (Nat.le_refl _)) h.a_le
    | true =>
      simp only [cO, cK, cT, cU, cA, cW, bit, haw, Bool.false_eq_true, if_false, if_true] at *
      have := (w4 trivial).1
      exact h.mk' hi ⟨Nat.le_refl _, Nat.zero_le _, Nat.zero_le _⟩ (by simp only []; omega) (fun _ => by simp only []; omega) (fun e => by simp at e) (fun e => by simp at e) trivial (.inl (Nat.le_refl _)) h.a_le
  | c2q e e1 hy =>
    rename_i T
    obtain ⟨w1, w2, w3, w4, w5⟩ := wfx
    have hcy : cO y = 0 ∧ cK y = 0 ∧ cT y = 0 ∧ cU y = 0 ∧ cA y = 0 ∧ cW y = 1 ∧ Wf B ⟨m.L, if T.aw then 0 else m.W, if T.sv ∧ m.L = 1 then 1 else m.S, m.n + 1⟩ y := by
      rcases hy with rfl | rfl <;> exact ⟨rfl, rfl, rfl, rfl, rfl, rfl, trivial⟩
    obtain ⟨y1, y2, y3, y4, y5, y6, y7⟩ := hcy
    rw [y1] at eO; rw [y2] at eK; rw [y3] at eT; rw [y4] at eU; rw [y5] at eA; rw [y6] at eW
    subst e
    simp only [cO, cK, cT, cU, cA, cW] at eO eK eT eU eA eW lO lK lT lU lA lW
    rcases Nat.eq_zero_or_pos T.old.S with eS | eS
    · have hn := nor eS
      have hL : T.old.L = 1 := by omega
      cases haw : T.aw with
      | false =>
        have hsv : T.sv = false := by cases hh : T.sv with | false => rfl | true => have := w3 hh; rw [haw] at this; cases this
        rw [haw, hsv] at y7
        simp only [bit, haw, hsv, Bool.false_eq_true, if_false, false_and] at *
        exact h.mk' hi ⟨bL, bW, bS⟩ (by simp only []; omega) (fun _ => by simp only []; omega) (fun e => by simp only [] at e; omega) (fun e => by simp only [] at e; omega) y7 (.inl (by simp only []; omega)) h.a_le
      | true =>
        have hw1 := (w4 haw).1
        cases hsv : T.sv with
        | false =>
          rw [haw, hsv] at y7
          simp only [bit, haw, hsv, Bool.false_eq_true, if_false, if_true, false_and] at *
          exact h.mk' hi ⟨bL, Nat.zero_le _, bS⟩ (by simp only []; omega) (fun _ => by simp only []; omega) (fun e => by simp only [] at e; omega) (fun e => by simp only [] at e; omega) y7 (.inl (by simp only []; omega)) h.a_le
        | true =>
          simp only [bit, haw, if_true] at eK lK
          simp only [haw, hsv, hL, if_true, and_self] at y7 ⊢
          exact h.mk' hi ⟨by simp, Nat.zero_le _, Nat.le_refl _⟩ (by simp only []; omega) (fun e => by simp at e) (fun _ => by simp only []; refine ⟨trivial, by omega, by omega, by omega, by omega⟩) (fun e => by simp at e) y7 (.inl (by simp only []; omega)) h.a_le
    · have hs := sta (by omega)
      have haw : T.aw = false := by cases hh : T.aw with | false => rfl | true => have := (w4 hh).2; omega
      have hsv : T.sv = false := by cases hh : T.sv with | false => rfl | true => have := w3 hh; rw [haw] at this; cases this
      rw [haw, hsv] at y7
      simp only [bit, haw, hsv, Bool.false_eq_true, if_false, false_and] at *
      exact h.mk' hi ⟨bL, bW, bS⟩ (by simp only []; omega) (fun e => by simp only [] at e; omega) (fun _ => by simp only []; omega) (fun _ e => by simp only [] at e; omega) y7 (.inl (by simp only []; omega)) h.a_le
  | c2n e => exact h.still hi (by rw [hx]; rfl) (by rw [hx]; rfl) (by rw [hx]; rfl) (by rw [hx]; rfl) (by rw [hx]; rfl) (by rw [hx]; rfl) (.inl (by rw [hx]; exact id)) ⟨wfx.2.2.1, wfx.2.2.2.2⟩
  | t1 => exact h.still hi (by rw [hx]; rfl) (by rw [hx]; rfl) (by rw [hx]; rfl) (by rw [hx]; rfl) (by rw [hx]; rfl) (by rw [hx]; rfl) (.inl (by rw [hx]; exact id)) trivial
  | s1 =>
    rename_i sv
    have hcy : ∀ y, y = (if sv then Lk.r2 true else .t2) → cO y = 0 ∧ cK y = 0 ∧ cT y = 1 ∧ cU y = 0 ∧ cA y = 0 ∧ cW y = 0 ∧ Wf B m y := by
      intro y e; subst e; cases sv <;> exact ⟨rfl, rfl, rfl, rfl, rfl, rfl, trivial⟩
    obtain ⟨y1, y2, y3, y4, y5, y6, y7⟩ := hcy _ rfl
    rw [y1] at eO; rw [y2] at eK; rw [y3] at eT; rw [y4] at eU; rw [y5] at eA; rw [y6] at eW
    simp only [cO, cK, cT, cU, cA, cW] at eO eK eT eU eA eW lO lK lT lU lA lW
    exact h.mk' hi h.bits (by omega) (fun e => by have := nor e; omega) (fun e => by have := sta e; omega) (fun a b c d => .inr ⟨by rw [hx]; exact id, a, b, c, d⟩) y7 (.inl (Nat.le_refl _)) h.a_le
  | t2 => exact h.still hi (by rw [hx]; rfl) (by rw [hx]; rfl) (by rw [hx]; rfl) (by rw [hx]; rfl) (by rw [hx]; rfl) (by rw [hx]; rfl) (.inl (by rw [hx]; exact id)) trivial
  | r2n e =>
    rename_i sv
    obtain ⟨c1, c2, c3, c4, c5, c6⟩ := c_hd ⟨m, true, sv, 0⟩
    rw [c1] at eO; rw [c2] at eK; rw [c3] at eT; rw [c4] at eU; rw [c5] at eA; rw [c6] at eW
    simp only [cO, cK, cT, cU, cA, cW, bit, if_true] at eO eK eT eU eA eW lO lK lT lU lA lW
    have hn := nor e
    exact h.mk' hi h.bits (by omega) (fun e => by omega) (fun e => by omega) (fun a b c d => .inr ⟨by rw [hx]; exact id, a, b, c, d⟩) (wf_hd (seen (fun _ => rfl) (by omega) fun _ => ⟨by omega, e⟩)) (.inl (Nat.le_refl _)) h.a_le
  | r2s e =>
    rename_i sv
    simp only [cO, cK, cT, cU, cA, cW] at eO eK eT eU eA eW lO lK lT lU lA lW
    have hs := sta e
    refine h.mk' hi h.bits (by omega) (fun e => by omega) (fun e => by omega) (fun a b c d => by omega) (fun hc => ?_) (.inl (Nat.le_refl _)) h.a_le
    simp only [Bool.or_eq_false_iff, Bool.not_eq_false', decide_eq_false_iff_not] at hc
    omega
  | a1 =>
    rename_i sv cl
    simp only [cO, cK, cT, cU, cA, cW] at eO eK eT eU eA eW lO lK lT lU lA lW
    have hS : m.S = 1 := by
      rcases Nat.eq_zero_or_pos m.S with e | e
      · have := nor e; omega
      · omega
    have hs := sta hS
    cases cl with
    | false =>
      have hw : 2 ≤ m.n := wfx rfl
      simp only [Bool.false_eq_true, if_false]
      exact h.mk' hi ⟨Nat.le_refl _, bW, bS⟩ (by simp only []; omega) (fun e => by simp only [] at e; omega) (fun _ => by simp only []; omega) (fun e => by simp at e) trivial (.inr (.inr (by rw [hx]; exact Nat.le_refl _))) h.a_le
    | true =>
      simp only [if_true]
      exact h.mk' hi ⟨Nat.le_refl _, bW, Nat.zero_le _⟩ (by simp only []; omega) (fun _ => by simp only []; omega) (fun e => by simp at e) (fun e => by simp at e) trivial (.inr (.inr (by rw [hx]; exact Nat.le_refl _))) h.a_le
  | u0d e =>
    simp only [cO, cK, cT, cU, cA, cW] at eO eK eT eU eA eW lO lK lT lU lA lW
    have hn := nor e.1
    exact h.mk' hi ⟨Nat.zero_le _, bW, bS⟩ (by simp only []; omega) (fun _ => by simp only []; omega) (fun e' => by simp only [] at e'; omega) (fun _ _ e2 e3 => by simp only [] at e2 e3; omega) trivial (.inl (Nat.le_refl _)) h.a_le
  | u0c e =>
    simp only [cO, cK, cT, cU, cA, cW] at eO eK eT eU eA eW lO lK lT lU lA lW
    have hn := nor e.1
    exact h.mk' hi ⟨Nat.zero_le _, bW, bS⟩ (by simp only []; omega) (fun _ => by simp only []; omega) (fun e' => by simp only [] at e'; omega) (fun _ _ _ _ => .inl trivial) ⟨⟨Nat.zero_le _, bW, bS⟩, rfl, e.2.1, e.1, e.2.2, by show m.n ≤ B; omega⟩ (.inl (Nat.le_refl _)) h.a_le
  | u0s e =>
    simp only [cO, cK, cT, cU, cA, cW] at eO eK eT eU eA eW lO lK lT lU lA lW
    have hs := sta e
    exact h.mk' hi ⟨Nat.zero_le _, bW, bS⟩ (by simp only []; omega) (fun e' => by simp only [] at e'; omega) (fun _ => by simp only []; omega) (fun _ e2 => by simp only [] at e2; omega) trivial (.inl (Nat.le_refl _)) h.a_le
  | ucy e =>
    rename_i o
    obtain ⟨w1, w2, w3, w4, w5, w6⟩ := wfx
    subst e
    simp only [cO, cK, cT, cU, cA, cW] at eO eK eT eU eA eW lO lK lT lU lA lW
    have hn := nor w4
    exact h.mk' hi ⟨bL, Nat.le_refl _, bS⟩ (by simp only []; omega) (fun _ => by simp only []; omega) (fun e' => by simp only [] at e'; omega) (fun _ _ e2 => by simp at e2) trivial (.inr (.inl (by omega))) h.a_le
  | ucn e => exact h.still hi (by rw [hx]; rfl) (by rw [hx]; rfl) (by rw [hx]; rfl) (by rw [hx]; rfl) (by rw [hx]; rfl) (by rw [hx]; rfl) (.inr (.inl trivial)) trivial
  | uxd e => exact h.still hi (by rw [hx]; rfl) (by rw [hx]; rfl) (by rw [hx]; rfl) (by rw [hx]; rfl) (by rw [hx]; rfl) (by rw [hx]; rfl) (.inr (.inr e)) trivial
  | uxc e => exact h.still hi (by rw [hx]; rfl) (by rw [hx]; rfl) (by rw [hx]; rfl) (by rw [hx]; rfl) (by rw [hx]; rfl) (by rw [hx]; rfl) (.inr (.inl trivial)) ⟨h.bits, e.1, e.2.1, e.2.2.1, e.2.2.2, by omega⟩
  | us =>
    simp only [cO, cK, cT, cU, cA, cW] at eO eK eT eU eA eW lO lK lT lU lA lW
    exact h.mk' hi h.bits (by omega) (fun e => by have := nor e; omega) (fun e => by have := sta e; omega) (fun a b c d => .inr ⟨by rw [hx]; exact id, a, b, c, d⟩) trivial (.inl (Nat.le_refl _)) h.a_le
end
end Go.Mx
end
section
set_option linter.unusedVariables false
set_option linter.unusedSectionVars false
set_option linter.unusedSimpArgs false
namespace Go.Mx
open Go.ConcN (sumTo upd upd_same upd_ne sumTo_upd le_sumTo sumTo_le sumTo_congr)
def pt : Lk → Nat
  | .out | .l0 | .c1 _ => 5
  | .rd aw _ _ => if aw then 4 else 5
  | .sq T | .c2 T => if T.aw then 4 else 5
  | .t1 _ | .s1 _ | .own => 3
  | .t2 | .r2 _ | .a1 _ _ => 4
  | .uc _ | .ux => 2
  | .us => 1
  | .done => 0
def rk (m : Wd) : Lk → Nat
  | .out => 60
  | .l0 => 59
  | .rd _ _ it => 3 * (5 - it) + 3
  | .sq T => if T.old = m then 3 * (5 - T.it) + 2 else 3 * (5 - T.it) + 6
  | .c1 T => if T.old = m then 3 * (5 - T.it) + 1 else 3 * (5 - T.it) + 5
  | .c2 T => if T.old = m then 1 else 3 * (5 - T.it) + 4
  | .t1 _ => 50
  | .s1 _ => 49
  | .t2 => 48
  | .r2 _ => 47
  | .a1 _ _ => 1
  | .own => 40
  | .uc o => if o = m then 1 else 3
  | .ux => 2
  | .us => 1
  | .done => 0
section
variable {B j q q' : Nat} {lk : Nat → Lk} {m m' : Wd} {i : Nat} {x y : Lk}
theorem pt_hd (T : Lo) : pt (hd T) = if T.aw then 4 else 5 := by unfold hd; split <;> rfl
theorem rk_hd (T : Lo) (h : T.old = m) : rk m (hd T) ≤ 3 * (5 - T.it) + 2 := by
  unfold hd
  split
  · simp [rk, h]
  · simp [rk, h]
theorem Mv.nearer (h : Mv m q x m' q' y) (hw : Wf B m x) : pt y + q' < pt x + q ∨ (m' = m ∧ pt y + q' = pt x + q ∧ rk m y < rk m x) := by
  cases h with
  | enter => exact .inr ⟨rfl, rfl, by simp [rk]⟩
  | l0f e => exact .inl (by simp [pt])
  | l0s e => exact .inr ⟨rfl, by simp [pt], by simp [rk]⟩
  | rd =>
    rename_i aw sv it
    refine .inr ⟨rfl, by rw [pt_hd]; rfl, ?_⟩
    have := rk_hd (m := m) ⟨m, aw, sv, it⟩ rfl
    show rk m (hd ⟨m, aw, sv, it⟩) < 3 * (5 - it) + 3
    dsimp only at this
    omega
  | sqn =>
    rename_i T
    refine .inr ⟨rfl, rfl, ?_⟩
    simp only [rk]
    split <;> omega
  | sqc e ha =>
    rename_i T
    refine .inr ⟨rfl, by simp [pt, ha.1], ?_⟩
    simp only [rk]
    split <;> omega
  | sqr e ha =>
    rename_i T
    refine .inr ⟨rfl, rfl, ?_⟩
    simp only [rk]
    split <;> omega
  | c1y e => exact .inl (by simp [pt])
  | c1n e =>
    rename_i T
    have h4 := hw.2.2.2.2.2.2
    refine .inr ⟨rfl, by simp [pt], ?_⟩
    simp only [rk]
    split <;> omega
  | c2l e e1 => exact .inl (by simp only [pt]; split <;> omega)
  | c2q e e1 hy =>
    refine .inl ?_
    rcases hy with rfl | rfl <;> (simp only [pt]; split <;> omega)
  | c2n e =>
    rename_i T
    refine .inr ⟨rfl, rfl, ?_⟩
    simp only [rk]
    rw [if_neg (fun x => e x.symm)]
    omega
  | t1 => exact .inr ⟨rfl, rfl, by simp [rk]⟩
  | s1 =>
    rename_i sv
    refine .inr ⟨rfl, ?_, ?_⟩
    · cases sv <;> simp only [pt] <;> simp <;> omega
    · cases sv <;> simp [rk]
  | t2 => exact .inr ⟨rfl, rfl, by simp [rk]⟩
  | r2n e =>
    rename_i sv
    refine .inr ⟨rfl, by rw [pt_hd]; rfl, ?_⟩
    have := rk_hd (m := m) ⟨m, true, sv, 0⟩ rfl
    dsimp only at this
    show rk m (hd ⟨m, true, sv, 0⟩) < 47
    omega
  | r2s e => exact .inr ⟨rfl, rfl, by simp [rk]⟩
  | a1 => exact .inl (by simp [pt])
  | u0d e => exact .inl (by simp [pt])
  | u0c e => exact .inl (by simp [pt])
  | u0s e => exact .inl (by simp [pt])
  | ucy e => exact .inl (by simp [pt])
  | ucn e =>
    refine .inr ⟨rfl, rfl, ?_⟩
    simp only [rk]
    rw [if_neg (fun x => e x.symm)]
    omega
  | uxd e => exact .inl (by simp [pt])
  | uxc e => exact .inr ⟨rfl, rfl, by simp [rk]⟩
  | us => exact .inr ⟨rfl, by simp only [pt]; omega, by simp [rk]⟩
def Phi (j : Nat) (lk : Nat → Lk) (q : Nat) : Nat := sm pt j lk + q
theorem Phi.step (hi : i < j) (hx : lk i = x) (h : Mv m q x m' q' y) (hw : Wf B m x) : Phi j (upd lk i y) q' < Phi j lk q ∨ (m' = m ∧ Phi j (upd lk i y) q' = Phi j lk q ∧ rk m y < rk m x) := by
  have e := sm_upd (lk := lk) pt y hi
  have l := sm_le (lk := lk) pt hi
  rw [hx] at e l
  unfold Phi
  rcases h.nearer hw with h | ⟨h1, h2, h3⟩
  · exact .inl (by omega)
  · exact .inr ⟨h1, by omega, h3⟩
def act : Lk → Prop
  | .out | .s1 _ | .done => False
  | _ => True
theorem sm_zero {φ : Lk → Nat} : ∀ {j : Nat}, (∀ k, k < j → φ (lk k) = 0) → sm φ j lk = 0
  | 0, _ => rfl
  | j + 1, h => by
    have h1 : sm φ j lk = 0 := sm_zero fun k hk => h k (by omega)
    unfold sm at h1 ⊢
    simp only [sumTo]
    rw [h1, h j (by omega)]
theorem MI.alive (h : MI B j lk m 0) (hi : i < j) {sv : Bool} (hx : lk i = .s1 sv) : ∃ k, k < j ∧ act (lk k) := by
  apply Classical.byContradiction
  intro hn
  have hall : ∀ k, k < j → lk k = .out ∨ (∃ sv, lk k = .s1 sv) ∨ lk k = .done := by
    intro k hk
    have : ¬ act (lk k) := fun x => hn ⟨k, hk, x⟩
    revert this
    cases lk k <;> simp [act]
  have z : ∀ {φ : Lk → Nat}, φ .out = 0 → φ .done = 0 → (∀ sv, φ (.s1 sv) = 0) → sm φ j lk = 0 := fun a b c => sm_zero fun k hk => by
    rcases hall k hk with e | ⟨sv, e⟩ | e <;> rw [e]
    · exact a
    · exact c _
    · exact b
  have zO := z (φ := cO) rfl rfl fun _ => rfl
  have zK := z (φ := cK) rfl rfl fun _ => rfl
  have zT := z (φ := cT) rfl rfl fun _ => rfl
  have zU := z (φ := cU) rfl rfl fun _ => rfl
  have zA := z (φ := cA) rfl rfl fun _ => rfl
  have lW := sm_le (lk := lk) cW hi
  rw [hx] at lW
  simp only [cW] at lW
  have own := h.own
  have bS := h.bits.S
  have bW := h.bits.W
  rcases Nat.eq_zero_or_pos m.S with e | e
  · have hn1 := h.nor e
    obtain ⟨k, hk, hs⟩ := h.prog (by omega) e (by omega) (by omega)
    refine hn ⟨k, hk, ?_⟩
    revert hs
    cases lk k <;> simp [seeks, act]
  · have hs := h.sta (by omega)
    omega
end
end Go.Mx
end
