/- A part of the proof that the frame keeps its roots: lemmas on which it leans. -/
import Derived.Test.YtfchamaikodjpaaGreatH45
section
set_option linter.unusedVariables false
set_option linter.unusedSectionVars false
set_option linter.unusedSimpArgs false
namespace Go.Am
open Go.Conc.Lib
open Go.ConcR (WgAt)
open Go.Ren (grow EvO Guar Rely Wk At Leads Keep full)
open Go.Mx (CellIs Vals MxLink MxLib MuAt)
theorem foldl_perm {α β : Type} {f : β → α → α} {V : α → Prop} {l l' : List β} (h : l.Perm l') : (∀ i ∈ l, ∀ v, V v → V (f i v)) → (∀ i ∈ l, ∀ j ∈ l, ∀ v, V v → f i (f j v) = f j (f i v)) → ∀ v, V v → l.foldl (fun a k => f k a) v = l'.foldl (fun a k => f k a) v := by
  induction h with
  | nil => intro _ _ v _; rfl
  | cons x _ ih =>
    intro h1 h2 v hv
    simp only [List.foldl_cons]
    exact ih (fun i hi => h1 i (.tail _ hi)) (fun i hi j hj => h2 i (.tail _ hi) j (.tail _ hj)) _ (h1 x (.head _) v hv)
  | swap x y l =>
    intro h1 h2 v hv
    simp only [List.foldl_cons]
    rw [h2 x (.tail _ (.head _)) y (.head _) v hv]
  | trans p q ih1 ih2 =>
    intro h1 h2 v hv
    rw [ih1 h1 h2 v hv]
    exact ih2 (fun i hi => h1 i (p.symm.subset hi)) (fun i hi j hj => h2 i (p.symm.subset hi) j (p.symm.subset hj)) v hv
def lsOf (n : Nat) (locks : Nat → Bool) : List Nat := (List.range n).filter locks
def foldB (n : Nat) (locks : Nat → Bool) (f : Nat → List Int → List Int) (Vs : List (List Int)) (l0 v : List Int) : Bool :=
  Vs.contains l0 && (lsOf n locks).all (fun i => Vs.all fun l => Vs.contains (f i l)) && (lsOf n locks).all (fun i => (lsOf n locks).all fun j => Vs.all fun l => f i (f j l) == f j (f i l)) && (lsOf n locks).foldl (fun a k => f k a) l0 == v
section
variable {P : Program} {ρ σ : Env} {F W U Z : Nat → Prop} {N : Nat} {h : AH} {w w' w₀ : World} {base cs : List Frame} {f : Nat → List Int → List Int} {locks : Nat → Bool} {Vs : List (List Int)} {n : Nat} {l0 v : List Int} {s s' s₁ ws : AS} {pl : Plan} {g g' : Goroutine} {L : WgLink} {M : MxLink} {FinP : Machine → Outcome → World → Trace → Prop} {m : Machine} {t : Trace}
  {gb mb vb r n₁ n₂ : Nat} {l : List Nat} {Fin : AS → Prop} {T : Tr TI} {Fu : Tr Func}
theorem foldB_all (h : foldB n locks f Vs l0 v = true) : VIn Vs (iv l0) ∧ (∀ k v, VIn Vs v → VIn Vs (fnOf n locks f k v)) ∧ Folds n locks (fnOf n locks f) (iv l0) (iv v) := by
  unfold foldB at h
  simp only [Bool.and_eq_true, List.all_eq_true, List.contains_iff_mem, beq_iff_eq] at h
  obtain ⟨⟨⟨h1, h2⟩, h3⟩, h4⟩ := h
  have mem : ∀ i, i ∈ lsOf n locks ↔ i < n ∧ locks i = true := fun i => by unfold lsOf; simp
  refine ⟨⟨l0, h1, rfl⟩, ?_, ?_⟩
  · rintro k _ ⟨l, hl, rfl⟩
    unfold fnOf
    split
    · rename_i hk
      rw [unv_iv]
      exact ⟨_, h2 k ((mem k).2 hk) l hl, rfl⟩
    · exact ⟨l, hl, rfl⟩
  · intro order hn ho
    have hp : order.Perm (lsOf n locks) := (List.perm_ext_iff_of_nodup hn (List.nodup_range.filter _)).2 fun a => (ho a).trans (mem a).symm
    have lift : ∀ (ls : List Nat), (∀ i ∈ ls, i < n ∧ locks i = true) → ∀ l, ls.foldl (fun a k => fnOf n locks f k a) (iv l) = iv (ls.foldl (fun a k => f k a) l) := by
      intro ls
      induction ls with
      | nil => intro _ l; rfl
      | cons x ls ih =>
        intro hx l
        simp only [List.foldl_cons]
        have : fnOf n locks f x (iv l) = iv (f x l) := by unfold fnOf; rw [if_pos (hx x (.head _)), unv_iv]
        rw [this]
        exact ih (fun i hi => hx i (.tail _ hi)) _
    rw [lift order (fun i hi => (ho i).1 hi)]
    have := foldl_perm (V := fun l => l ∈ Vs) hp (fun i hi l hl => h2 i ((mem i).2 ((ho i).1 hi)) l hl) (fun i hi j hj l hl => h3 i ((mem i).2 ((ho i).1 hi)) j ((mem j).2 ((ho j).1 hj)) l hl) l0 h1
    rw [this, h4]
structure AMutex (P : Program) (M : MxLink) (s s' : AS) : Prop where
  run : s.fr.ret = false
  at_ : ∃ ops i l k o z a', s.fr.todo = .region ops (i :: l) :: k ∧ ops[i]? = some o ∧ Region.wanted o (yielded ops s.fr.tmps) = true ∧ o.op = .alloc M.mu.tMutex ∧ zeroOf P M.mu.tMutex = some z ∧ z.cells = #[.int .i32 0, .int .u32 0] ∧
    s.h.look s.h.n = none ∧ afinish P s.fr s.h.blank (.pointer (some ⟨s.h.n, 0, none⟩)) = some a' ∧ s' = ⟨a', s.cs, s.h.blank⟩
def xMutex (P : Program) (M : MxLink) (s : AS) : Option AS := match opAt s with
  | some o => match o.op with
    | .alloc t => match zeroOf P t with
      | some z => if t == M.mu.tMutex && (s.h.look s.h.n).isNone && beqV 3 (.agg z.cells) (.agg #[.int .i32 0, .int .u32 0]) then xFin P s s.h.blank (.pointer (some ⟨s.h.n, 0, none⟩)) else none
      | none => none
    | _ => none
  | none => none
theorem xMutex_some (h : xMutex P M s = some s') : AMutex P M s s' := by
  unfold xMutex at h
  split at h
  · rename_i o ho
    obtain ⟨h1, ops, i, l, k, h2, h3, h4, h5⟩ := opAt_some ho
    split at h
    · rename_i t hop
      split at h
      · rename_i z hz
        split at h
        · rename_i hc
          simp only [Bool.and_eq_true, beq_iff_eq, Option.isNone_iff_eq_none] at hc
          obtain ⟨⟨rfl, hl⟩, hcells⟩ := hc
          obtain ⟨a', h6, h7⟩ := xFin_some h
          exact ⟨h1, ops, i, l, k, o, z, a', h2, h3, h4, hop, hz, agg_eq hcells, hl, h6, h7⟩
        · cases h
      · cases h
    · cases h
  · cases h
theorem St.mutex [Zeros P] {s' : AS} (S : St P base W U Z N ρ s g w m t) (k : AMutex P M s s') :
    Leads P FinP (fun m t => ∃ (σ : Env) (g' : Goroutine) (w' : World) (mu : Nat), ρ.Le σ ∧ St P base W (fun b => U b ∨ b = mu) (fun b => Z b ∨ b = mu) N σ s' g' w' m t ∧ Keep Z w w' ∧ σ.born s.h.n ∧ σ.to s.h.n = (mu, 0) ∧ MuAt M.mu.tMutex mu w' ⟨0, 0, 0, 0⟩ 0 ∧ ∀ b, Z b → b ≠ mu) m t := by
  obtain ⟨hrun, ops, i, l, k, o, z, a', t1, t2, t3, t5, t6, t7, t11, t12, t13⟩ := k
  refine (S.atop (c := []) hrun t1).bind ?_
  rintro m t ⟨σ, lo, f, cs, w', hle, A, hat, hk⟩
  have hnb : ¬ σ.born s.h.n := fun hb => Nat.lt_irrefl _ (A.rel.fresh _ hb)
  have hvp : VR (σ.add s.h.n (w'.heap.size, 0) False 0 0) (.pointer (some ⟨s.h.n, 0, none⟩)) (.pointer (some ⟨w'.heap.size, 0, none⟩)) := by
    have e : (Value.pointer (some ⟨w'.heap.size, 0, none⟩)) = .pointer (some ((σ.add s.h.n (w'.heap.size, 0) False 0 0).addr ⟨s.h.n, 0, none⟩)) := by
      simp only [Env.addr, add_to]
    rw [e]
    exact .ptr (.inl rfl)
  refine (blank_at (v := .pointer (some ⟨s.h.n, 0, none⟩)) (v' := .pointer (some ⟨w'.heap.size, 0, none⟩)) (obj := .cells #[.int .i32 0, .int .u32 0] M.mu.tMutex (0, 0)) A hat (hk.lt S.lt) t2 t3 (fun q hq => by rw [t5] at hq; cases hq) (fun d₁ es₀ => ?_) t11 t12 hvp).mono ?_
  · rw [← t7]
    exact run_alloc t5 t6 es₀
  · rintro m t ⟨h1, h2, h3, h4⟩
    subst t13
    refine ⟨_, _, _, w'.heap.size, hle.trans h1, h4, hk.trans ⟨fun b hb => ?_, by simp, .rfl, rfl⟩, h2, h3, ?_, fun b hb => ?_⟩
    · have := hk.lt S.lt b hb
      simp only [World.alloc]
      rw [Array.getElem?_push, if_neg (by omega)]
    · show (w'.heap.push _)[w'.heap.size]? = _
      simp [Go.Mx.Wd.num]
    · have := hk.lt S.lt b hb
      omega
theorem Sd.mutex [Zeros P] {s' : AS} (S : Sd P base F w₀ W U Z N ρ s g w m t) (k : AMutex P M s s') :
    Leads P FinP (fun m t => ∃ (σ : Env) (g' : Goroutine) (w' : World) (mu : Nat), ρ.Le σ ∧ Sd P base F w₀ W (fun b => U b ∨ b = mu) (fun b => Z b ∨ b = mu) N σ s' g' w' m t ∧ Keep Z w w' ∧ σ.born s.h.n ∧ σ.to s.h.n = (mu, 0) ∧ MuAt M.mu.tMutex mu w' ⟨0, 0, 0, 0⟩ 0 ∧ ∀ b, Z b → b ≠ mu) m t := by
  refine (S.st.mutex k).mono ?_
  rintro m t ⟨σ, g', w', mu, k1, k2, k3, k4, k5, k6, k7⟩
  refine ⟨σ, g', w', mu, k1, ⟨k2, ?_, fun b hb => .inl (S.fz b hb), ?_, S.keepF k3⟩, k3, k4, k5, k6, k7⟩
  · rintro b (hb | hb | hb)
    · exact .inl (S.wu b (.inl hb))
    · exact .inl (S.wu b (.inr hb))
    · exact .inr hb
  · rintro b hf (hb | hb | hb)
    · exact S.fwu b hf (.inl hb)
    · exact S.fwu b hf (.inr hb)
    · exact k7 b (S.fz b hf) hb
def StandM (P : Program) (L : WgLink) (M : MxLink) (base : List Frame) (F : Nat → Prop) (w₀ : World) (mb : Nat) (gb : Option Nat) (s : AS) (m : Machine) (t : Trace) : Prop :=
  ∃ (W U Z : Nat → Prop) (N : Nat) (ρ : Env) (g : Goroutine) (w : World), Sd P base F w₀ W U Z N ρ s g w m t ∧ ∃ mu, U mu ∧ ρ.born mb ∧ ρ.to mb = (mu, 0) ∧ MuAt M.mu.tMutex mu w ⟨0, 0, 0, 0⟩ 0 ∧
    match gb with
    | none => True
    | some gb => ∃ wg, U wg ∧ wg ≠ mu ∧ ρ.born gb ∧ ρ.to gb = (wg, 0) ∧ WgAt L.tWg wg w 0 0
theorem muAt_keep {mu : Nat} {d : Go.Mx.Wd} {q : Nat} {ty : TypeId} (h : MuAt ty mu w d q) (k : Keep Z w w') (hz : Z mu) : MuAt ty mu w' d q := (k.1 mu hz).trans h
theorem wgAt_keep {wg : Nat} {a b : Int} {ty : TypeId} (h : WgAt ty wg w a b) (k : Keep Z w w') (hz : Z wg) : WgAt ty wg w' a b := (k.1 wg hz).trans h
theorem Stand.mutex [Zeros P] (e : xMutex P M s = some s') (S : Stand P L base F w₀ .idle s m t) : Leads P FinP (StandM P L M base F w₀ s.h.n none s') m t := by
  obtain ⟨W, U, Z, N, ρ, g, w, S, hp⟩ := S
  refine (S.mutex (xMutex_some e)).mono ?_
  rintro m t ⟨σ, g', w', mu, k1, k2, k3, k4, k5, k6, k7⟩
  exact ⟨_, _, _, _, _, _, _, k2, mu, .inr rfl, k4, k5, k6, trivial⟩
theorem StandM.reach [Zeros P] {o : Option Nat} {K : AS → Prop} (k : AReach P pl K s) (S : StandM P L M base F w₀ mb o s m t) : Leads P FinP (fun m t => ∃ s', K s' ∧ StandM P L M base F w₀ mb o s' m t) m t := by
  obtain ⟨W, U, Z, N, ρ, g, w, S, mu, h1, h2, h3, h4, h5⟩ := S
  refine (S.reach k).mono ?_
  rintro m t ⟨σ, s', g', w', k1, k2, k3, k4⟩
  refine ⟨s', k1, W, U, Z, N, σ, g', w', k3, mu, h1, k2.born _ h2, (k2.to _ h2).trans h3, muAt_keep h4 k4 (S.wu _ (.inr h1)), ?_⟩
  cases o with
  | none => trivial
  | some gb =>
    obtain ⟨wg, q1, q2, q3, q4, q5⟩ := h5
    exact ⟨wg, q1, q2, k2.born _ q3, (k2.to _ q3).trans q4, wgAt_keep q5 k4 (S.wu _ (.inr q1))⟩
theorem StandM.forget {o : Option Nat} (l : List Nat) (hd : notDrawn s.fr = true) (S : StandM P L M base F w₀ mb o s m t) : StandM P L M base F w₀ mb o ⟨s.fr, s.cs, s.h.forget l⟩ m t := by
  obtain ⟨W, U, Z, N, ρ, g, w, S, h⟩ := S
  exact ⟨W, U, Z, N, ρ, g, w, S.forget l hd, h⟩
theorem StandM.step [Zeros P] (K : TabOk P T) (KF : FunOk P Fu) {o : Option Nat} {n : Nat} (e : stepS P pl T Fu n l s = some s') (S : StandM P L M base F w₀ mb o s m t) : Leads P FinP (StandM P L M base F w₀ mb o s') m t := by
  unfold stepS at e
  split at e
  · rename_i s₁ h₁
    split at e
    · rename_i hd
      cases e
      refine (S.reach (frunS_inl K KF n h₁)).mono ?_
      rintro m t ⟨s', rfl, S'⟩
      exact S'.forget l hd
    · cases e
  · cases e
theorem StandM.group [Zeros P] (e : xGroup P L s = some s') (S : StandM P L M base F w₀ mb none s m t) : Leads P FinP (StandM P L M base F w₀ mb (some s.h.n) s') m t := by
  obtain ⟨W, U, Z, N, ρ, g, w, S, mu, h1, h2, h3, h4, h5⟩ := S
  refine (S.group (xGroup_some e)).mono ?_
  rintro m t ⟨σ, g', w', wg, k1, k2, k3, k4, k5, k6, k7⟩
  exact ⟨_, _, _, _, _, _, _, k2, mu, .inl h1, k1.born _ h2, (k1.to _ h2).trans h3, muAt_keep h4 k3 (S.wu _ (.inr h1)), wg, .inr rfl, fun e => k7 mu (S.wu _ (.inr h1)) e.symm, k4, k5, k6⟩
theorem goS_someM {C : AS → Prop} (e : goS P s = some (ws, s')) (hw : C ws) : AGoM P C s s' := by
  unfold goS at e
  split at e
  · rename_i o ho
    obtain ⟨h1, ops, i, l, k, h2, h3, h4, h5⟩ := opAt_some ho
    split at e
    · rename_i c hop
      split at e
      · rename_i x hx
        split at e
        · rename_i fid first cap hf
          split at e
          · rename_i hc
            simp only [Bool.and_eq_true, Option.isNone_iff_eq_none] at hc
            split at e
            · rename_i s₂ hfin
              cases e
              obtain ⟨a', h6, h7⟩ := xFin_some hfin
              exact ⟨h1, hc.2, ops, i, l, k, o, c, x, fid, first, cap, a', h2, h3, h4, h5, hop, hx, hf, hc.1, hw, h6, h7⟩
            · cases e
          · cases e
        · cases e
      · cases e
    · cases e
  · cases e
theorem spawnM_cons {V : Vals → Prop} {fn : Nat → Vals → Vals} (e : spawnS1 P pl L gb n₁ n₂ s = some (ws, s')) (hw : AMWork P pl L M gb mb vb V (fn (n - (r + 1))) (locks (n - (r + 1))) ws) (k : ASpawnsM P pl L M gb mb vb V fn locks n Fin r s') : ASpawnsM P pl L M gb mb vb V fn locks n Fin (r + 1) s := by
  unfold spawnS1 at e
  split at e
  · rename_i s₁ hr₁
    split at e
    · rename_i s₂ hc
      split at e
      · rename_i s₃ hr₂
        exact arun_reach n₁ hr₁ (.here ⟨s₂, xCall_some hc, arun_reach n₂ hr₂ (.here ⟨s', goS_someM e hw, k⟩)⟩)
      · cases e
    · cases e
  · cases e
noncomputable section
def killS (vb tv : Nat) (l0 : List Int) (lf : List Nat) (s : AS) : Option AS := match s.h.look vb with
  | some B => match B.obj with
    | .cells c _ _ => if beqV 3 (s.fr.tmps.getD tv undef) (.pointer (some ⟨vb, 0, none⟩)) && beqV 9 (.agg c) (.agg (iv l0)) && B.fam.isNone && !B.ro && ((s.h.fams.get s.h.n).getD []).isEmpty && notDrawn s.fr then some ⟨s.fr, s.cs, (s.h.kill vb).forget lf⟩ else none
    | _ => none
  | none => none
def waitM (P : Program) (pl : Plan) (L : WgLink) (gb n vb : Nat) (v : List Int) (l : List Nat) (s : AS) : Option AS := match waitS P pl L gb n s with
  | some s₁ => bif notDrawn s₁.fr && (s₁.h.look vb).isNone then some ⟨s₁.fr, s₁.cs, ((s₁.h.tell vb (iv v)).forget l).unshared⟩ else none
  | none => none
end
def WaitedM (vb : Nat) (v : List Int) (l : List Nat) (s' s₁ : AS) : Prop := notDrawn s₁.fr = true ∧ s₁.h.look vb = none ∧ s' = ⟨s₁.fr, s₁.cs, ((s₁.h.tell vb (iv v)).forget l).unshared⟩
theorem spawnM_last {V : Vals → Prop} {fn : Nat → Vals → Vals} {k : Nat} (e : waitM P pl L gb k vb v l s = some s') : ASpawnsM P pl L M gb mb vb V fn locks n (WaitedM vb v l s') 0 s := by
  unfold waitM waitS at e
  split at e
  · rename_i s₁ hs
    split at hs
    · rename_i s₂ hr
      cases hb : notDrawn s₁.fr && (s₁.h.look vb).isNone with
      | false => rw [hb] at e; cases e
      | true =>
        rw [hb] at e
        cases e
        rw [Bool.and_eq_true, Option.isNone_iff_eq_none] at hb
        exact arun_reach k hr (.here ⟨s₁, xCall_some hs, hb.1, hb.2, rfl⟩)
    · cases hs
  · cases e
theorem StandM.phase [Zeros P] (H : MxLib P M) (HL : Waits P L) (hn : n < 63) {tv : Nat} {lf : List Nat} (ek : killS vb tv l0 lf s = some s₁) (ef : foldB n locks f Vs l0 v = true) (k : ASpawnsM P pl L M gb mb vb (VIn Vs) (fnOf n locks f) locks n (WaitedM vb v l s') n s₁) (S : StandM P L M base F w₀ mb (some gb) s m t) :
    Leads P FinP (Stand P L base F w₀ .idle s') m t := by
  obtain ⟨W, U, Z, N, ρ, g, w, S, mu, h1, h2, h3, h4, wg, q1, q2, q3, q4, q5⟩ := S
  obtain ⟨f1, f2, f3⟩ := foldB_all ef
  unfold killS at ek
  split at ek
  · rename_i B hB
    split at ek
    · rename_i c e fz ho
      split at ek
      · rename_i hc
        cases ek
        simp only [Bool.and_eq_true, Option.isNone_iff_eq_none, Bool.not_eq_true', List.isEmpty_iff] at hc
        obtain ⟨⟨⟨⟨⟨c0, c1⟩, c2⟩, c3⟩, c4⟩, c5⟩ := hc
        have hc0 := beqV_eq _ _ _ c1
        cases hc0
        have hvb : ρ.born vb := by
          obtain ⟨⟨lo, f, cs, _, _, hf, _⟩, _⟩ := S.st.sim
          have hf0 := hf.f0 fun ops l k e => by unfold notDrawn at c5; rw [e] at c5; cases c5
          have := vr_getD hf0.tmps tv
          rw [ptr_eq c0] at this
          generalize f.tmps.getD tv undef = y at this
          cases this with
          | ptr h => exact h
        refine (S.phaseM H HL q1 h1 q2 ⟨q3, q4⟩ ⟨h2, h3⟩ q5 h4 hvb hB ho c2 c3 c4 c5 hn (fun v ⟨l, _, e⟩ => e ▸ iv_plain l) f2 f1 f3 (fun s' h => ⟨h.1, h.2.1⟩) k).mono ?_
        rintro m t ⟨σ, s₂, g', w', W', Z', N', ⟨k1, k2, rfl⟩, k4, k5⟩
        exact ⟨_, _, _, _, _, _, _, (k5.forget l k1).unshare k1, trivial⟩
      · cases ek
    · cases ek
  · cases ek
noncomputable section
def muS (P : Program) (pl : Plan) (L : WgLink) (M : MxLink) (a b vb tv : Nat) (l0 : List Int) (lf : List Nat) (s : AS) : Option (Nat × Nat × AS) := match arun P pl a s with
  | some (.go s₀) => match xMutex P M s₀ with
    | some s₁ => match arun P pl b s₁ with
      | some (.go s₂) => match xGroup P L s₂ with
        | some s₃ => match killS vb tv l0 lf s₃ with
          | some s₄ => some (s₀.h.n, s₂.h.n, s₄)
          | none => none
        | none => none
      | _ => none
    | none => none
  | _ => none
end
theorem Stand.underM [Zeros P] (H : MxLib P M) (HL : Waits P L) {a b tv : Nat} {l' lf : List Nat} (hn : n < 63) (e : muS P pl L M a b vb tv l0 lf s = some (mb, gb, s₁)) (ef : foldB n locks f Vs l0 v = true) (ks : ASpawnsM P pl L M gb mb vb (VIn Vs) (fnOf n locks f) locks n (WaitedM vb v l' s') n s₁) (S : Stand P L base F w₀ .idle s m t) :
    Leads P FinP (Stand P L base F w₀ .idle s') m t := by
  unfold muS at e
  split at e
  · rename_i s₀ h₀
    split at e
    · rename_i s₂ h₂
      split at e
      · rename_i s₃ h₃
        split at e
        · rename_i s₄ h₄
          split at e
          · rename_i s₅ h₅
            cases e
            refine Leads.bind (K := Stand P L base F w₀ .idle s₀) ?_ fun m t S₁ => ?_
            · obtain ⟨W, U, Z, N, ρ, g, w, S, hp⟩ := S
              refine (S.reach (arun_reach a h₀ (.here rfl))).mono ?_
              rintro m t ⟨σ, s', g', w', rfl, k2, k3, k4⟩
              exact ⟨_, _, _, _, _, _, _, k3, trivial⟩
            · refine (Stand.mutex h₂ S₁).bind fun m t S₂ => (S₂.reach (arun_reach b h₃ (.here rfl))).bind ?_
              rintro m t ⟨s', rfl, S₃⟩
              exact (StandM.group h₄ S₃).bind fun m t S₄ => S₄.phase H HL hn h₅ ef ks
          · cases e
        · cases e
      · cases e
    · cases e
  · cases e
end
end Go.Am
end
section
set_option linter.unusedVariables false
set_option linter.unusedSectionVars false
set_option linter.unusedSimpArgs false
namespace Go.Am
open Go.Conc (born QuitsD G scase rcase Good)
open Go.Conc.Lib
open Go.ConcR (WgAt)
open Go.Ren (grow EvO Guar Rely Wk WkD Idle IdleD X0 At Leads Keep full Tm)
noncomputable section
def runO (P : Program) (pl : Plan) : List (Nat × Nat × Value) → AS → Option (List (Value × Value) × AS)
  | [], s => some ([], s)
  | (n, t, v) :: l, s => match arun P pl n s with
    | some (.go s₁) => match s₁.fr.tmps[t]? with
      | some u => match runO P pl l ⟨{ s₁.fr with tmps := s₁.fr.tmps.setIfInBounds t v }, s₁.cs, s₁.h⟩ with
        | some (ob, s') => some ((u, v) :: ob, s')
        | none => none
      | none => none
    | _ => none
def runR (P : Program) (pl : Plan) (l : List (Nat × Nat × Value)) (n : Nat) (s : AS) : Option (List (Value × Value) × Value × AH) := match runO P pl l s with
  | some (ob, s') => match arun P pl n s' with
    | some (.ret v h) => some (ob, v, h)
    | _ => none
  | none => none
def runG (P : Program) (pl : Plan) (l : List (Nat × Nat × Value)) (n : Nat) (s : AS) : Option (List (Value × Value) × AS) := match runO P pl l s with
  | some (ob, s') => match arun P pl n s' with
    | some (.go s'') => some (ob, s'')
    | _ => none
  | none => none
end
section
variable {P : Program} {pl : Plan} {s s' : AS} {ob : List (Value × Value)} {K : AS → Prop} {Q : Value → AH → Prop} {v : Value} {h : AH} {n : Nat}
theorem AReach.all {s : AS} (h : AReach P pl (AAll P pl Q) s) : AAll P pl Q s := by
  induction h with
  | here h => exact h
  | step hne hgo ih =>
    refine .step (fun c => let ⟨s', e⟩ := hne c; ⟨_, e⟩) ih fun c v h e => ?_
    obtain ⟨s', e'⟩ := hne c
    rw [e'] at e
    cases e
theorem set_same {a : Array Value} {t : Nat} {v : Value} (h : a[t]? = some v) : a.setIfInBounds t v = a := by
  obtain ⟨hlt, hx⟩ := Array.getElem?_eq_some_iff.1 h
  rw [Array.setIfInBounds, dif_pos hlt, ← hx]
  exact Array.set_getElem_self _
theorem runO_reach : ∀ (l : List (Nat × Nat × Value)) {s : AS} {ob : List (Value × Value)}, runO P pl l s = some (ob, s') → (∀ p ∈ ob, p.1 = p.2) → AReach P pl K s' → AReach P pl K s
  | [], s, ob, e, _, k => by cases e; exact k
  | (n, t, v) :: l, s, ob, e, hob, k => by
    unfold runO at e
    split at e
    · rename_i s₁ h₁
      split at e
      · rename_i u hu
        split at e
        · rename_i ob' s'' h₂
          cases e
          have := hob _ (.head _)
          dsimp only at this
          subst this
          rw [set_same hu] at h₂
          exact arun_reach n h₁ (runO_reach l h₂ (fun p hp => hob p (.tail _ hp)) k)
        · cases e
      · cases e
    · cases e
theorem runG_reach {l : List (Nat × Nat × Value)} (e : runG P pl l n s = some (ob, s')) (hob : ∀ p ∈ ob, p.1 = p.2) (k : AReach P pl K s') : AReach P pl K s := by
  unfold runG at e
  split at e
  · rename_i ob' s₁ h₁
    split at e
    · rename_i s₂ h₂
      cases e
      exact runO_reach l h₁ hob (arun_reach n h₂ k)
    · cases e
  · cases e
theorem runR_all {l : List (Nat × Nat × Value)} (e : runR P pl l n s = some (ob, v, h)) (hob : ∀ p ∈ ob, p.1 = p.2) (hq : Q v h) : AAll P pl Q s := by
  unfold runR at e
  split at e
  · rename_i ob' s₁ h₁
    split at e
    · rename_i v' h' h₂
      cases e
      exact (runO_reach l h₁ hob (.here (arun_all n h₂ hq))).all
    · cases e
  · cases e
end
section
variable {P : Program} {ρ σ : Env} {O D : Nat → Prop} {h h' : AH} {w w' : World} {X : Event → Prop} {m : Bool} {base cs' : List Frame} {I : World → Prop} {pl : Plan} {c : AFr} {cs : List AFr} {f : FuncId} {g : Goroutine} {Q : Value → AH → Prop} {args : Array Value}
theorem call_apartP [Zeros P] (k : AAll P pl Q ⟨AFr.enter P f args, [], h0⟩) (ha : ∀ x ∈ args, Plain x) (hp : ∀ v h, Q v h → Plain v) (S : Sim P ρ O D base ⟨AFr.enter P f args, c :: cs, h⟩ g w) (hO : ∀ b, O b → b < w.heap.size) (hD : ∀ b, D b → b < w.heap.size) :
    Wk P m I X D (fun O' g' w' => ∃ v h₁, Q v h₁ ∧ (∀ b, O b → O' b) ∧ ∀ a', afinish P c h v = some a' → Sim P ρ O' D base ⟨a', cs, h⟩ g' w') O g w := by
  obtain ⟨⟨lo, fr, cs', hlo, rfl, hf, hcs⟩, rel⟩ := S
  cases hcs with
  | @cons lo' _ _ fc _ fcs hlo' hfc hfcs =>
    have hf0 : F0 ρ (AFr.enter P f args) fr := by
      cases hf with
      | plain hf => exact hf
      | ahead kk _ =>
        obtain ⟨k1, k2, t1, _⟩ := kk.todo
        cases t1
    have S0 : Sim P env0 (fun _ => False) D (fc :: (fcs ++ base)) ⟨AFr.enter P f args, [], h0⟩ (gor fr ([] ++ fc :: (fcs ++ base))) w := by
      refine ⟨⟨0, fr, [], Nat.le_refl _, rfl, .plain ?_, .nil⟩, rel_h0 _ _ _⟩
      refine ⟨⟨hf0.fn, ?_, hf0.mode, hf0.kind, ?_⟩, ?_, ?_⟩
      · have := hf0.defers
        generalize fr.defers = d at this
        cases this
        exact .nil
      · have := hf0.round
        generalize fr.roundOf = r at this
        cases this
        exact .none
      · refine ⟨hf0.tmps.1, fun i x y hx hy => ?_⟩
        have hxp : Plain x := by
          have e : (AFr.enter P f args).tmps = args ++ Array.replicate (((P.funcs[f]?).map (·.ntmps)).getD 0 - args.size) undef := rfl
          rw [e] at hx
          by_cases hi : i < args.size
          · rw [Array.getElem?_append_left hi] at hx
            exact ha x (Array.mem_of_getElem? hx)
          · rw [Array.getElem?_append_right (by omega), Array.getElem?_replicate] at hx
            split at hx
            · cases hx; exact vr_undef
            · cases hx
        have := hf0.tmps.2 i x y hx hy
        rw [hxp.eq this]
        exact hxp
      · have := hf0.todo
        generalize fr.todo = d at this
        cases this with
        | cons hi hl =>
          cases hl
          cases hi
          exact .cons (.code _) .nil
    have W := (aall_wk (X := X) (I := I) (m := m) k S0).frame (F := O) (fun b hb => ⟨hO b hb, id⟩) (fun b hb => ⟨hD b hb, id⟩)
    have e1 : (fun b => False ∨ O b) = O := by funext b; simp
    rw [e1] at W
    refine W.mono fun O' g' w' hz => ?_
    obtain ⟨O₁, ⟨τ, v, h₁, v', q1, q2, q3, q4, q5⟩, rfl, hrely⟩ := hz
    refine ⟨v, h₁, q1, fun b hb => .inr hb, fun a' ha => ?_⟩
    have hv := (hp v h₁ q1)
    have hvv := hv.eq q3
    subst hvv
    refine ⟨⟨lo', _, fcs, Nat.le_trans hlo' hlo, q4, finish_S hfc hlo (hv.vr ρ) ha, hfcs⟩, (rel.rely hrely).mono fun b hb => .inr hb⟩
end
section
variable {P : Program} {ρ σ : Env} {F W U Z Z' : Nat → Prop} {N : Nat} {h h' : AH} {w w' w₀ : World} {base : List Frame} {s s' s₀ : AS} {pl : Plan} {g g' : Goroutine} {L : WgLink} {FinP : Machine → Outcome → World → Trace → Prop} {m : Machine} {t : Trace} {c : AFr} {cs : List AFr} {fid : FuncId} {v : Value} {args : Array Value}
theorem Sd.runG [Zeros P] {l : List (Nat × Nat × Value)} {n : Nat} {ob : List (Value × Value)} (e : runG P pl l n s = some (ob, s')) (hob : ∀ p ∈ ob, p.1 = p.2) (S : Sd P base F w₀ W U Z N ρ s g w m t) :
    Leads P FinP (fun m t => ∃ (σ : Env) (g' : Goroutine) (w' : World), Sd P base F w₀ W U Z N σ s' g' w' m t) m t := by
  refine (S.reach (K := (· = s')) (runG_reach e hob (.here rfl))).mono ?_
  rintro m t ⟨σ, s'', g', w', rfl, _, S', _⟩
  exact ⟨σ, g', w', S'⟩
theorem Sd.callP [Zeros P] (k : AAll P pl (fun v' _ => v' = v) ⟨AFr.enter P fid args, [], h0⟩) (ha : ∀ x ∈ args, Plain x) (hv : Plain v) (S : Sd P base F w₀ W U Z N ρ ⟨AFr.enter P fid args, c :: cs, h⟩ g w m t) {a' : AFr} (hfin : afinish P c h v = some a') :
    Leads P FinP (fun m t => ∃ (g' : Goroutine) (w' : World), Sd P base F w₀ W U Z N ρ ⟨a', cs, h⟩ g' w' m t ∧ Keep Z w w') m t := by
  refine (Go.Ren.At.wk2 (call_apartP (X := X0) (I := fun _ => True) (m := true) k ha (fun v' h e => e ▸ hv) S.st.sim (fun b hb => hb.1) (fun b hb => hb.elim)) S.st.lt rfl S.st.at_).mono ?_
  rintro m t ⟨g', w', hat, ⟨v', h₁, rfl, _, hs⟩, hk⟩
  exact ⟨g', w', ⟨⟨hat, hs a' hfin, hk.lt S.st.lt⟩, S.wu, S.fz, S.fwu, S.keepF hk⟩, hk⟩
theorem Sd.callR [Zeros P] {R : Value → Prop} (k : AAll P pl (fun v' _ => R v') ⟨AFr.enter P fid args, [], h0⟩) (ha : ∀ x ∈ args, Plain x) (hR : ∀ v, R v → Plain v) (S : Sd P base F w₀ W U Z N ρ ⟨AFr.enter P fid args, c :: cs, h⟩ g w m t) (hfin : ∀ v, R v → ∃ a', afinish P c h v = some a') :
    Leads P FinP (fun m t => ∃ (v : Value) (a' : AFr) (g' : Goroutine) (w' : World), R v ∧ afinish P c h v = some a' ∧ Sd P base F w₀ W U Z N ρ ⟨a', cs, h⟩ g' w' m t) m t := by
  refine (Go.Ren.At.wk2 (call_apartP (X := X0) (I := fun _ => True) (m := true) k ha (fun v' h e => hR v' e) S.st.sim (fun b hb => hb.1) (fun b hb => hb.elim)) S.st.lt rfl S.st.at_).mono ?_
  rintro m t ⟨g', w', hat, ⟨v', h₁, hv, _, hs⟩, hk⟩
  obtain ⟨a', ha'⟩ := hfin v' hv
  exact ⟨v', a', g', w', hv, ha', ⟨hat, hs a' ha', hk.lt S.st.lt⟩, S.wu, S.fz, S.fwu, S.keepF hk⟩
def xCallV (P : Program) (fid : FuncId) (v : Value) (s : AS) : Option AS := match opAt s with
  | some o => match o.op with
    | .call c => match c.callee with
      | .value (.func f) => if f == fid && s.fr.round.isNone && c.args.size == 0 then xFin P s s.h v else none
      | _ => none
    | _ => none
  | none => none
theorem xCallV_some (h : xCallV P fid v s = some s') : ACallV P fid v s s' := by
  unfold xCallV at h
  split at h
  · rename_i o ho
    obtain ⟨h1, ops, i, l, k, h2, h3, h4, h5⟩ := opAt_some ho
    split at h
    · rename_i c hop
      split at h
      · rename_i f hf
        split at h
        · rename_i hc
          simp only [Bool.and_eq_true, beq_iff_eq, Option.isNone_iff_eq_none] at hc
          obtain ⟨⟨rfl, hr⟩, ha⟩ := hc
          obtain ⟨a', h6, h7⟩ := xFin_some h
          obtain ⟨callee, as, ats⟩ := c
          dsimp only at hf ha
          subst hf
          have : as = #[] := Array.eq_empty_of_size_eq_zero ha
          subst this
          exact ⟨h1, hr, ops, i, l, k, o, ats, a', h2, h3, h4, h5, hop, h6, h7⟩
        · cases h
      · cases h
    · cases h
  · cases h
theorem Sd.callO [Zeros P] (hp : plainFn P fid = true) (hv : Plain v) (orc : ∀ {b : Frame} {bs : List Frame} {F : Nat → Prop} {w₀ : World} {m : Machine} {t : Trace}, Stand P L (b :: bs) F w₀ .idle ⟨AFr.enter P fid #[], [], h0⟩ m t → Leads P FinP (Back P b bs F w₀ v) m t) (S : Sd P base F w₀ W U Z N ρ s g w m t) (k : ACallV P fid v s s') :
    Leads P FinP (fun m t => ∃ (W' U' Z' : Nat → Prop) (N' : Nat) (σ : Env) (g' : Goroutine) (w' : World), ρ.Le σ ∧ Sd P base F w₀ W' U' Z' N' σ s' g' w' m t) m t := by
  obtain ⟨hrun, hround, ops, i, l, kk, o, ats, a', t1, t2, t3, t4, t5, t6, t7⟩ := k
  refine (S.atop (c := []) hrun t1).bind ?_
  rintro m t ⟨σ, lo, f, cs, w', hle, A, hat, hk, hkF, hlt⟩
  obtain ⟨hargs, sr, kr, hfat, hst⟩ := call_step (m := true) (base := base) hp A hround t2 t3 t4 t5
  have hargs' : (#[] : Array Operand).map f.eval = #[] := by simp
  rw [hargs'] at hst
  have hwk : Wk P true (fun _ => True) X0 (fun _ => False) (fun O' g' w'' => g' = gor (Frame.enter P fid #[] .normal) (f :: (cs ++ base)) ∧ Rely (full Z w') (fun _ => False) w' w'') (full Z w') (gor f (cs ++ base)) w' :=
    Wk.mk rfl fun w₁ hr _ => ⟨_, w₁, #[], hst w₁, .none w₁, .stop ⟨rfl, hr⟩⟩
  refine (Go.Ren.At.wk2 hwk hlt rfl hat).bind ?_
  rintro m t ⟨g₁, w₁, hat₁, ⟨rfl, hrely⟩, hk₁⟩
  have hsz : w'.heap.size ≤ w₁.heap.size := hrely.size
  have A₁ := A.rely hrely
  have St₁ : Stand P L (f :: (cs ++ base)) (fun b => full Z w' b ∨ F b) w₁ .idle ⟨AFr.enter P fid #[], [], h0⟩ m t := by
    refine ⟨W, U, fun b => b < w₁.heap.size, N, env0, _, w₁, ⟨⟨hat₁.drop fun b hb => Nat.lt_of_lt_of_le (hlt b hb) hsz, sim_enter0 _ _ _ _, fun b hb => hb⟩, fun b hb => Nat.lt_of_lt_of_le (hlt b (S.wu b hb)) hsz, fun b hb => ?_, fun b hb => ?_, .refl⟩, trivial⟩
    · rcases hb with hb | hb
      · exact Nat.lt_of_lt_of_le hb.1 hsz
      · exact Nat.lt_of_lt_of_le (hlt b (S.fz b hb)) hsz
    · rcases hb with hb | hb
      · exact fun x => hb.2 (S.wu b x)
      · exact S.fwu b hb
  refine (orc St₁).mono ?_
  rintro m t ⟨W', U', Z₁, N', w₂, hat₂, hwu, hfz, hfwu, hkeep, hlt₂⟩
  have hsub : ∀ b, full Z w' b → full (fun b => Z₁ b ∧ ¬ full Z w' b) w₂ b := fun b hb => ⟨Nat.lt_of_lt_of_le hb.1 (Nat.le_trans hsz hkeep.2.1), fun x => x.2 hb⟩
  have hrel : Rel σ (full (fun b => Z₁ b ∧ ¬ full Z w' b) w₂) (fun _ => False) s.h w₂ := by
    have r1 : Rel σ (full Z w') (fun _ => False) s.h { w₁ with heap := w₂.heap } := A₁.rel.rely ⟨hkeep.2.1, fun b hb => hkeep.1 b (.inl hb), fun b hb => hb.elim, .rfl, rfl, rfl⟩
    have r2 : Rel σ (full Z w') (fun _ => False) s.h w₂ := ⟨r1.cells, r1.obj, r1.own, r1.sep, r1.fresh, r1.low, r1.slack, r1.row, r1.mem⟩
    exact r2.mono hsub
  have A₂ : AtOp P σ lo s ops i f cs (full (fun b => Z₁ b ∧ ¬ full Z w' b) w₂) (fun _ => False) w₂ := ⟨A₁.bound, A₁.fs, A₁.run, A₁.todo, A₁.ops_r, A₁.wanted, A₁.stk, hrel⟩
  subst t7
  refine ⟨W', U', fun b => Z₁ b ∧ ¬ full Z w' b, N', σ, _, w₂, hle, ⟨hat₂.alone.drop fun b hb => ⟨hwu b hb, fun hf => hfwu b (.inl hf) hb⟩, ?_, fun b hb => hlt₂ b hb.1⟩, fun b hb => ⟨hwu b hb, fun hf => hfwu b (.inl hf) hb⟩, fun b hb => ⟨hfz b (.inr hb), fun hf => hf.2 (S.fz b hb)⟩, fun b hb => hfwu b (.inr hb), hkF.trans ?_⟩
  · exact A₂.finish (.refl σ) (fun x _ hx => hx) (Nat.le_refl _) (hv.vr σ) hrel t6
  · refine ⟨fun b hb => ?_, Nat.le_trans hsz hkeep.2.1, hrely.os.trans hkeep.2.2.1, hkeep.2.2.2.trans hrely.output⟩
    rw [hkeep.1 b (.inr hb)]
    exact hk₁.1 b (S.fz b hb)
theorem Sd.start {W : World} {f : FuncId} (ha : ∀ x ∈ args, Plain x) : Sd P [] (fun b => b < W.heap.size) W (fun _ => False) (fun _ => False) (fun b => b < W.heap.size) 1 env0 ⟨AFr.enter P f args, [], h0⟩ (gor (Frame.enter P f args .normal) []) W (Go.Conc.solo (G (Frame.enter P f args .normal) []) W) #[] := by
  refine ⟨⟨(Go.Ren.at_start _ W).drop fun b hb => hb.elim, ⟨⟨0, _, [], Nat.le_refl _, rfl, .plain (enter_r f ⟨rfl, fun i u v hu hv => ?_⟩), .nil⟩, rel_h0 _ _ _⟩, fun b hb => hb⟩, fun b hb => (hb.elim id id : False).elim, fun b hb => hb, fun b _ hb => (hb.elim id id : False), .refl⟩
  rw [hu] at hv
  cases hv
  exact ha u (Array.mem_of_getElem? hu)
theorem Sd.ends {Post : Value → World → Prop} {K : Machine → Trace → Prop} {fd : Func} {h₁ : AH} (S : Sd P [] F w₀ W U Z N ρ s g w m t) (hcs : s.cs = []) (hnd : notDrawn s.fr = true) (hret : s.fr.ret = true) (hdf : s.fr.defers = []) (hdk : s.fr.dk = false) (hfd : P.funcs[s.fr.fn]? = some fd) (hx : (results fd s.fr.tmps).ar P none s.h = some (v, h₁)) (hin : P.inits.idxOf? s.fr.fn = none) (hv : Plain v)
    (hP : ∀ w', Keep F w₀ w' → Post v w') : Leads P (Good P Post) K m t := by
  obtain ⟨⟨lo, f, cs, hlo, rfl, hf, hcs'⟩, rel⟩ := S.st.sim
  rw [hcs] at hcs'
  cases hcs'
  have key : ∀ d₁, ∃ v' w' es, stepG P true (gor f ([] ++ [])) (w.at d₁) = .ended (.done v') w' es ∧ Guar X0 (full Z w) (fun _ => False) (w.at d₁) w' es ∧ Post v' w' := fun d₁ => by
    obtain ⟨⟨lo', f', cs'', hlo', hg, hf', hcs''⟩, rel'⟩ := S.st.sim.at d₁
    have hb : f' = f ∧ cs'' = [] := by
      rw [hcs] at hcs''
      cases hcs''
      exact ⟨by injection hg with e1 _; exact e1.symm, rfl⟩
    obtain ⟨rfl, rfl⟩ := hb
    have hf0 : F0 ρ s.fr f' := hf'.f0 fun ops l k e => by unfold notDrawn at hnd; rw [e] at hnd; cases hnd
    have hmode0 : f'.mode = .returning := by
      have := hf0.mode
      rw [hret] at this
      exact this
    have hdef := hf0.defers
    rw [hdf] at hdef
    have hkind := hf0.toFB.normal hdk
    have hfn : f'.fn = s.fr.fn := hf0.fn
    obtain ⟨τ, v', w', es, h1, h2, h3, h4, h5, h8, h9⟩ := out_of (X := X0) ((sr_results fd hf0.tmps).sim0 rel' hx) f'.fn
    have hvv := hv.eq h4
    subst hvv
    refine ⟨v', w', seen P f'.fn es, ?_, h2, hP w' (S.keep.trans ⟨fun b hb => ?_, h2.size, .of h2.os, h2.output⟩)⟩
    · obtain ⟨fn, tmps, todo, defers, mode, kind, ro⟩ := f'
      dsimp only at hmode0 hkind hfn hdef h1
      subst hmode0 hkind hfn
      cases hdef
      rw [stepG_ret rfl]
      simp only [unwind, hfd]
      rw [h1]
      simp [doReturn, hin, GStep.after, List.append_nil]
    · have hlt := S.st.lt b (S.fz b hb)
      exact h2.heap b hlt fun x => x.2 (S.fz b hb)
  exact Go.Ren.At.ends rfl S.st.at_ key
end
end Go.Am
end
