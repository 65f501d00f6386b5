/- A part of the proof that the frame keeps its roots: lemmas on which it leans. -/
import Derived.Test.YtfchamaikodjpaaGreatH15
section
set_option linter.unusedVariables false
set_option linter.unusedSectionVars false
set_option linter.unusedSimpArgs false
namespace Go.Am
section
variable {P : Program} {pl : Plan} {n : Option Nat} {c fr : AFr} {cs cs₁ : List AFr} {h : AH}
def under (P : Program) (c : AFr) (cs : List AFr) : Res → Option Res
  | .go s => some (.go ⟨s.fr, s.cs ++ c :: cs, s.h⟩)
  | .ret v h => (afinish P c h v).map fun f => .go ⟨f, cs, h⟩
theorem aret_under {dk : Bool} (v : Value) : aret P dk (cs₁ ++ c :: cs) v h = (aret P dk cs₁ v h).bind (under P c cs) := by
  cases dk with
  | true => rfl
  | false =>
  cases cs₁ with
  | nil => rfl
  | cons x cs₁ =>
    simp only [List.cons_append, aret, Bool.false_eq_true, if_false]
    cases afinish P x h v <;> rfl
theorem aapply_under (x : Option (Next × AH)) : aapply P fr (cs₁ ++ c :: cs) x = (aapply P fr cs₁ x).bind (under P c cs) := by
  cases x with
  | none => rfl
  | some p =>
    obtain ⟨nx, h⟩ := p
    cases nx <;> simp only [aapply] <;> first | rfl | skip
    all_goals cases afinish P fr h _ <;> rfl
theorem aleave_under (j : Option Code) : aleave P ⟨fr, cs₁ ++ c :: cs, h⟩ j = (aleave P ⟨fr, cs₁, h⟩ j).bind (under P c cs) := by
  unfold aleave
  dsimp only
  cases fr.round with
  | none =>
    dsimp only
    split <;> rfl
  | some l =>
    dsimp only
    cases (Instr.endRound l j).ar P none h with
    | none => rfl
    | some p => exact aret_under p.1
theorem aunwind_under : aunwind P ⟨fr, cs₁ ++ c :: cs, h⟩ = (aunwind P ⟨fr, cs₁, h⟩).bind (under P c cs) := by
  unfold aunwind
  dsimp only
  split
  · rename_i b args ds hd
    cases (Instr.takeDeferred b).ar P none h <;> rfl
  · rfl
  · cases P.funcs[fr.fn]? with
    | none => rfl
    | some fn =>
      dsimp only
      cases (results fn fr.tmps).ar P none h with
      | none => rfl
      | some p => exact aret_under p.1
theorem astep_under : astep P pl n ⟨fr, cs₁ ++ c :: cs, h⟩ = (astep P pl n ⟨fr, cs₁, h⟩).bind (under P c cs) := by
  unfold astep
  dsimp only
  cases fr.ret with
  | true => exact aunwind_under
  | false =>
    dsimp only
    cases fr.todo with
    | nil => exact aleave_under none
    | cons it k =>
      cases it with
      | inBlock x => rfl
      | inLoop x => rfl
      | inScope x => rfl
      | inRangeFunc x => rfl
      | beginRound =>
        dsimp only
        cases fr.round with
        | none => rfl
        | some l =>
          dsimp only
          cases (Instr.beginRound l).ar P none h <;> rfl
      | endRangeFunc l =>
        dsimp only
        cases (Instr.endLoop l).ar P none h <;> rfl
      | region ops l =>
        cases l with
        | nil => rfl
        | cons i l =>
          dsimp only
          cases ops[i]? with
          | none => rfl
          | some o =>
            dsimp only
            split
            · exact aapply_under _
            · cases afinish P fr h undef <;> rfl
      | drawn ops l =>
        cases l with
        | nil => rfl
        | cons p l =>
          dsimp only
          cases ops[p.1]? with
          | none => rfl
          | some o =>
            dsimp only
            cases kindAt ops p.1 with
            | effect =>
              dsimp only
              split
              · exact aapply_under _
              · cases afinish P fr h undef <;> rfl
            | _ =>
              dsimp only
              (repeat' split) <;> rfl
      | code x =>
        cases x with
        | ret => exact aleave_under _
        | skip => rfl
        | label l => rfl
        | seq x y => rfl
        | block id x => rfl
        | loop x => rfl
        | scope x => rfl
        | cond x a b =>
          dsimp only
          (repeat' split) <;> rfl
        | exit id =>
          dsimp only
          cases aexitTo id k with
          | none => exact aleave_under _
          | some k => rfl
        | goto l =>
          dsimp only
          cases agotoIn l k with
          | none => exact aleave_under _
          | some k => rfl
        | region id ops d =>
          cases d with
          | false => rfl
          | true =>
            dsimp only
            split <;> rfl
        | rangeFunc f params assign body =>
          dsimp only
          split
          · split
            · split
              · exact aapply_under _
              · rfl
            · rfl
          · rfl
        | refuse why => rfl
theorem AAll.under {Q : Value → AH → Prop} {K : AS → Prop} {s : AS} (k : AAll P pl Q s) (hQ : ∀ v h, Q v h → ∃ c', afinish P c h v = some c' ∧ AReach P pl K ⟨c', cs, h⟩) : AReach P pl K ⟨s.fr, s.cs ++ c :: cs, s.h⟩ := by
  induction k with
  | @step s hne hgo hret ih =>
    have key : ∀ n : Nat, astep P pl (some n) ⟨s.fr, s.cs ++ c :: cs, s.h⟩ = (astep P pl (some n) s).bind (Go.Am.under P c cs) := fun n => astep_under
    refine .step (fun n => ?_) fun n s' hs' => ?_
    · obtain ⟨r, hr⟩ := hne n
      rw [key, hr]
      cases r with
      | go s' => exact ⟨_, rfl⟩
      | ret v h =>
        obtain ⟨c', h1, _⟩ := hQ v h (hret n v h hr)
        exact ⟨⟨c', cs, h⟩, by simp [Go.Am.under, h1]⟩
    · obtain ⟨r, hr⟩ := hne n
      rw [key, hr] at hs'
      cases r with
      | go s'' =>
        cases hs'
        exact ih n s'' hr
      | ret v h =>
        obtain ⟨c', h1, h2⟩ := hQ v h (hret n v h hr)
        simp only [Option.bind_some, Go.Am.under, h1, Option.map_some, Option.some.injEq, Res.go.injEq] at hs'
        subst hs'
        exact h2
theorem AAll.underAll {Q R : Value → AH → Prop} {s : AS} (k : AAll P pl Q s) (hQ : ∀ v h, Q v h → ∃ c', afinish P c h v = some c' ∧ AAll P pl R ⟨c', cs, h⟩) : AAll P pl R ⟨s.fr, s.cs ++ c :: cs, s.h⟩ := by
  induction k with
  | @step s hne hgo hret ih =>
    have key : ∀ n : Nat, astep P pl (some n) ⟨s.fr, s.cs ++ c :: cs, s.h⟩ = (astep P pl (some n) s).bind (Go.Am.under P c cs) := fun n => astep_under
    have none_ret : ∀ (n : Nat) v h, astep P pl (some n) ⟨s.fr, s.cs ++ c :: cs, s.h⟩ ≠ some (.ret v h) := fun n v h e => by
      obtain ⟨r, hr⟩ := hne n
      rw [key, hr] at e
      cases r with
      | go s' => simp [Go.Am.under] at e
      | ret v' h' => simp [Go.Am.under] at e
    refine .step (fun n => ?_) (fun n s' hs' => ?_) fun n v h e => absurd e (none_ret n v h)
    · obtain ⟨r, hr⟩ := hne n
      rw [key, hr]
      cases r with
      | go s' => exact ⟨_, rfl⟩
      | ret v h =>
        obtain ⟨c', h1, _⟩ := hQ v h (hret n v h hr)
        exact ⟨.go ⟨c', cs, h⟩, by simp [Go.Am.under, h1]⟩
    · obtain ⟨r, hr⟩ := hne n
      rw [key, hr] at hs'
      cases r with
      | go s'' =>
        cases hs'
        exact ih n s'' hr
      | ret v h =>
        obtain ⟨c', h1, h2⟩ := hQ v h (hret n v h hr)
        simp only [Option.bind_some, Go.Am.under, h1, Option.map_some, Option.some.injEq, Res.go.injEq] at hs'
        subst hs'
        exact h2
end
end Go.Am
end
section
set_option linter.unusedVariables false
set_option linter.unusedSectionVars false
set_option linter.unusedSimpArgs false
namespace Go.Am
open Go.Ren (grow EvO Guar Rely)
def Tr.map {α β : Type} (f : α → β) : Tr α → Tr β
  | .nil => .nil
  | .node l v r => .node (l.map f) (v.map f) (r.map f)
theorem Tr.get_map {α β : Type} (f : α → β) : ∀ (t : Tr α) (n : Nat), (t.map f).get n = (t.get n).map f
  | .nil, n => rfl
  | .node l v r, 0 => rfl
  | .node l v r, n + 1 => by
    simp only [Tr.map, Tr.get_succ, Tr.left, Tr.right]
    split
    · exact Tr.get_map f l _
    · exact Tr.get_map f r _
def AH.shared (h : AH) : AH := { h with tr := h.tr.map fun B => { B with ro := true } }
section
variable {P : Program} {ρ σ : Env} {O O' D D' : Nat → Prop} {h h' : AH} {w w' : World}
theorem Rel.sub (r : Rel ρ O D h w) (hn : h.n ≤ h'.n)
    (hl : ∀ b B', h'.look b = some B' → ∃ B, h.look b = some B ∧ B'.obj = B.obj ∧ B'.fam = B.fam ∧ B'.u = B.u ∧ (B'.ro = false → B.ro = false ∧ (O (ρ.to b).1 → O' (ρ.to b).1)) ∧ (O (ρ.to b).1 ∨ D (ρ.to b).1 → O' (ρ.to b).1 ∨ D' (ρ.to b).1))
    (ht : ∀ b B', h'.tr.get b = some B' → ∃ B, h.tr.get b = some B ∧ B'.obj = B.obj)
    (hf : ∀ f l, h'.fams.get f = some l → ∃ l', h.fams.get f = some l' ∧ l.Sublist l') (hm : ∀ f l b, h'.fams.get f = some l → b ∈ l → ∃ B, h'.tr.get b = some B ∧ B.fam = some f) : Rel ρ O' D' h' w := by
  have up : ∀ b n, h'.upTo ρ b n → h.upTo ρ b n := by
    rintro b n ⟨B', c, e, f, h1, h2, h3⟩
    obtain ⟨B, k1, k2⟩ := ht b B' h1
    exact ⟨B, c, e, f, k1, k2 ▸ h2, h3⟩
  refine ⟨fun b B c e f hb hk ho => ?_, fun b B hb hk ho => ?_, fun b B hb hk => ?_, fun b b' B B' hb hb' hk hk' hne hs => ?_, fun b hb => Nat.lt_of_lt_of_le (r.fresh b hb) hn, r.low, fun b B hb hk => ?_, fun f l hfl => ?_, fun f l hfl b hb => ?_⟩
  · obtain ⟨B₀, k1, k2, k3, k4, k5, k6⟩ := hl b B hk
    obtain ⟨C, E, g, c1, c2, c3, c4, c5⟩ := r.cells b B₀ c e f hb k1 (k2 ▸ ho)
    exact ⟨C, E, g, c1, c2, c3, c4, c5⟩
  · obtain ⟨B₀, k1, k2, k3, k4, k5, k6⟩ := hl b B hk
    obtain ⟨o1, o', o2, o3⟩ := r.obj b B₀ hb k1 (k2 ▸ ho)
    exact ⟨o1, o', o2, by rw [k2]; exact o3⟩
  · obtain ⟨B₀, k1, k2, k3, k4, k5, k6⟩ := hl b B hk
    obtain ⟨o1, o2⟩ := r.own b B₀ hb k1
    exact ⟨fun z => (k5 z).2 (o1 (k5 z).1), k6 o2⟩
  · obtain ⟨B₀, k1, _, k3, _⟩ := hl b B hk
    obtain ⟨B₁, j1, _, j3, _⟩ := hl b' B' hk'
    obtain ⟨f, g1, g2⟩ := r.sep b b' B₀ B₁ hb hb' k1 j1 hne hs
    exact ⟨f, k3.trans g1, j3.trans g2⟩
  · obtain ⟨B₀, k1, _, k3, k4, _⟩ := hl b B hk
    obtain ⟨s1, s2⟩ := r.slack b B₀ hb k1
    exact ⟨s1.trans (by rw [k3]), fun z => (s2 (k3 ▸ z)).trans k4.symm⟩
  · obtain ⟨l', g1, g2⟩ := hf f l hfl
    exact ((r.row f l' g1).sublist g2).imp fun hp b1 b2 hs n n' u1 u2 => hp b1 b2 hs n n' (up _ _ u1) (up _ _ u2)
  · obtain ⟨l', g1, g2⟩ := hf f l hfl
    exact ⟨Nat.lt_of_lt_of_le (r.mem f l' g1 b (g2.subset hb)).1 hn, hm f l b hfl hb⟩
theorem shared_tr (b : Nat) : h.shared.tr.get b = (h.tr.get b).map fun B => { B with ro := true } := Tr.get_map _ _ _
theorem look_shared {b : Nat} : h.shared.look b = (h.look b).map fun B => { B with ro := true } := by
  unfold AH.look
  rw [shared_tr]
  cases h.tr.get b with
  | none => rfl
  | some B =>
    obtain ⟨o, fam, ro, u⟩ := B
    cases fam with
    | none => rfl
    | some f =>
      simp only [Option.map_some]
      show (if ((h.fams.get f).getD []).contains b then _ else _) = _
      split <;> rfl
theorem Rel.share (r : Rel ρ O D h w) (hD : ∀ b, O b ∨ D b → O' b ∨ D' b) : Rel ρ O' D' h.shared w := by
  refine r.sub (Nat.le_refl _) (fun b B' hk => ?_) (fun b B' hk => ?_) (fun f l hfl => ⟨l, hfl, List.Sublist.refl _⟩) (fun f l b hfl hb => ?_)
  · rw [look_shared] at hk
    simp only [Option.map_eq_some_iff] at hk
    obtain ⟨B, k1, rfl⟩ := hk
    exact ⟨B, k1, rfl, rfl, rfl, fun z => (by cases z), hD _⟩
  · rw [shared_tr] at hk
    simp only [Option.map_eq_some_iff] at hk
    obtain ⟨B, k1, rfl⟩ := hk
    exact ⟨B, k1, rfl⟩
  · obtain ⟨m1, B, m2, m3⟩ := r.mem f l hfl b hb
    exact ⟨{ B with ro := true }, by rw [shared_tr, m2]; rfl, m3⟩
end
end Go.Am
end
section
set_option linter.unusedVariables false
set_option linter.unusedSectionVars false
set_option linter.unusedSimpArgs false
namespace Go.Am
open Go.Ren (grow EvO Guar Rely Wk)
section
variable {P : Program} {ρ σ : Env} {O D : Nat → Prop} {h h' : AH} {w w' : World} {X : Event → Prop} {m : Bool} {base cs : List Frame} {I : World → Prop} {pl : Plan}
  {lo : Nat} {ops : Array Oper} {c : List Nat} {i : Nat} {l : List (Nat × List Nat)}
structure AtOp (P : Program) (ρ : Env) (lo : Nat) (s₀ : AS) (ops : Array Oper) (i : Nat) (f : Frame) (cs : List Frame) (O D : Nat → Prop) (w : World) : Prop where
  bound : lo ≤ s₀.h.n
  fs : FSt ρ lo s₀.h.n s₀.fr f
  run : f.mode = .run
  todo : ∃ s' k', f.todo = .inRegion ops (i :: s') :: k'
  ops_r : ∀ o, ops[i]? = some o → operOk o = true → ∀ x ∈ o.op.operands, VR ρ (aeval s₀.fr.tmps x) (f.eval x)
  wanted : ∀ o, ops[i]? = some o → Region.wanted o (yielded ops f.tmps) = Region.wanted o (yielded ops s₀.fr.tmps)
  stk : Stk ρ lo s₀.cs cs
  rel : Rel ρ O D s₀.h w
theorem catch_wk [Zeros P] {s₀ : AS} (hk : kindAt ops i = .effect) (hlo : lo ≤ s₀.h.n) : ∀ (s : List Nat) {ρ : Env} {f : Frame} {O : Nat → Prop} {w : World}, FD ρ lo s₀.h.n ops ((i, c) :: l) s s₀.fr f → Eqs P s₀.h ops ((i, c) :: l) s s₀.fr.tmps → Stk ρ lo s₀.cs cs → Rel ρ O D s₀.h w →
    Wk P m I X D (fun O' g' w' => ∃ (σ : Env) (f' : Frame), ρ.Le σ ∧ g' = gor f' (cs ++ base) ∧ AtOp P σ lo s₀ ops i f' cs O' D w') O (gor f (cs ++ base)) w := by
  intro s
  induction s with
  | nil => intro ρ f O w k e hcs rel; exact absurd (k.sub i (by simp [ix_cons])) (by simp)
  | cons j s ih =>
    intro ρ f O w k e hcs rel
    obtain ⟨o1, o2, o3, o4, o5, o6⟩ := ord_cons k.ord
    by_cases hj : j = i
    · subst hj
      obtain ⟨k1, k2, t1, t2, hl⟩ := k.todo
      exact .stop ⟨ρ, f, .refl ρ, rfl, hlo, .ahead k hk, k.mode, ⟨s, k2, t2⟩, fun o ho hok => k.ops_r ho hok, fun o ho => k.wanted_r ho, hcs, rel⟩
    · have hn : j ∉ ix ((i, c) :: l) := fun hm => by
        have hm' : j ∈ ix l := (List.mem_cons.1 hm).resolve_left hj
        exact k.head_r (o4 hk j hm') (k.sub i (by simp [ix_cons]))
      refine Wk.mk rfl fun w₁ hr _ => ?_
      obtain ⟨τ, f', w', es, h1, h2, h3, h4, h5, h6⟩ := lag_step (X := X) (m := m) (cs := cs ++ base) (rel.rely hr) k hn (e j (by simp) hn)
      refine ⟨gor f' (cs ++ base), w', es, h1, h2, (ih h5 (fun j' hj' => e j' (List.mem_cons_of_mem _ hj')) (hcs.mono h3 (fun x hx hb => (h4 x hb).elim id fun hal => ?_) (Nat.le_refl _)) h6).mono fun _ _ _ z => ?_⟩
      · have := (k.bd j (by simp) hn x hal).1
        omega
      · obtain ⟨σ, f'', z1, z2, z3⟩ := z
        exact ⟨σ, f'', h3.trans z1, z2, z3⟩
theorem atop_wk [Zeros P] {s₀ : AS} {g : Goroutine} (S : Sim P ρ O D base s₀ g w) (hrun : s₀.fr.ret = false) (ht : (∃ k, s₀.fr.todo = .drawn ops ((i, c) :: l) :: k ∧ kindAt ops i = .effect) ∨ ∃ l k, s₀.fr.todo = .region ops (i :: l) :: k) :
    Wk P m I X D (fun O' g' w' => ∃ (σ : Env) (lo : Nat) (f' : Frame) (cs : List Frame), ρ.Le σ ∧ g' = gor f' (cs ++ base) ∧ AtOp P σ lo s₀ ops i f' cs O' D w') O g w := by
  obtain ⟨⟨lo, f, cs, hlo, rfl, hf, hcs⟩, rel⟩ := S
  cases hf with
  | plain hf =>
    rcases ht with ⟨k, ht, _⟩ | ⟨l, k, ht⟩
    · have := hf.todo
      rw [ht] at this
      generalize f.todo = z at this
      cases this with
      | cons hi _ => cases hi
    · have htd := hf.todo
      rw [ht] at htd
      obtain ⟨s', k', htf⟩ : ∃ s' k', f.todo = .inRegion ops (i :: s') :: k' := by
        generalize f.todo = z at htd
        cases htd with
        | @cons _ y _ ys hi hl =>
          cases hi
          exact ⟨l, ys, rfl⟩
      have hmode : f.mode = .run := by have := hf.mode; rw [hrun] at this; exact this
      exact .stop ⟨ρ, lo, f, cs, .refl ρ, rfl, hlo, .plain hf, hmode, ⟨s', k', htf⟩, fun o ho hok => eval_of hf.tmps hok, fun o ho => by rw [yielded_r hf.tmps], hcs, rel⟩
  | @ahead ops' l' s' k e =>
    obtain ⟨k1, k2, t1, t2, hl⟩ := k.todo
    rcases ht with ⟨kk, ht, hk⟩ | ⟨l, kk, ht⟩
    · rw [t1] at ht
      cases ht
      refine (catch_wk (base := base) hk hlo s' k e hcs rel).mono fun O' g' w' hz => ?_
      obtain ⟨σ, f', z1, z2, z3⟩ := hz
      exact ⟨σ, lo, f', cs, z1, z2, z3⟩
    · rw [t1] at ht
      cases ht
theorem AtOp.finish {s₀ : AS} {f : Frame} (k : AtOp P ρ lo s₀ ops i f cs O D w) {v v' : Value} {O' : Nat → Prop} (hle : ρ.Le σ) (hb : ∀ x, x < s₀.h.n → σ.born x → ρ.born x) (hn : s₀.h.n ≤ h'.n) (hv : VR σ v v') (hr : Rel σ O' D h' w') {a' : AFr} (e : afinish P s₀.fr h' v = some a') :
    Sim P σ O' D base ⟨a', s₀.cs, h'⟩ (gor (f.finish v') (cs ++ base)) w' :=
  ⟨⟨lo, _, cs, Nat.le_trans k.bound hn, rfl, finish_S (k.fs.mono hle hb hn) (Nat.le_refl _) hv e, k.stk.mono hle (fun x hx => hb x (Nat.lt_of_lt_of_le hx k.bound)) (Nat.le_refl _)⟩, hr⟩
end
end Go.Am
end
section
set_option linter.unusedVariables false
set_option linter.unusedSectionVars false
set_option linter.unusedSimpArgs false
namespace Go.Am
open Go.Ren (grow EvO Guar Rely)
def AH.kill (h : AH) (b : Nat) : AH := match h.tr.get b with
  | some B => { h with tr := h.tr.set b { B with fam := some h.n } }
  | none => h
def AH.blank (h : AH) : AH := { h with n := h.n + 1 }
section
variable {P : Program} {ρ σ : Env} {O O' D D' : Nat → Prop} {h h' : AH} {w w' : World} {b : Nat} {B : Blk}
theorem kill_tr (hB : h.tr.get b = some B) (x : Nat) : (h.kill b).tr.get x = if x = b then some { B with fam := some h.n } else h.tr.get x := by
  unfold AH.kill
  rw [hB]
  simp only [Tr.get_set]
theorem kill_fams (f : Nat) : (h.kill b).fams.get f = h.fams.get f := by
  unfold AH.kill
  split <;> rfl
theorem kill_n : (h.kill b).n = h.n := by
  unfold AH.kill
  split <;> rfl
theorem look_kill (hB : h.tr.get b = some B) (hd : (h.fams.get h.n).getD [] = []) (x : Nat) : (h.kill b).look x = if x = b then none else h.look x := by
  unfold AH.look
  rw [kill_tr hB]
  by_cases e : x = b
  · rw [if_pos e, if_pos e]
    dsimp only
    rw [kill_fams, hd]
    rfl
  · rw [if_neg e, if_neg e]
    cases h.tr.get x with
    | none => rfl
    | some C =>
      dsimp only
      cases C.fam with
      | none => rfl
      | some f =>
        dsimp only
        rw [kill_fams]
theorem Rel.kill (r : Rel ρ O D h w) (hb : ρ.born b) (hl : h.look b = some B) (hf : B.fam = none) (hd : (h.fams.get h.n).getD [] = []) : Rel ρ (fun x => O x ∧ x ≠ (ρ.to b).1) D (h.kill b) w := by
  have hB := look_tr hl
  have lk := look_kill hB hd
  have lk' : ∀ x C, (h.kill b).look x = some C → x ≠ b ∧ h.look x = some C := fun x C hk => by
    rw [lk] at hk
    split at hk
    · cases hk
    · rename_i e; exact ⟨e, hk⟩
  refine ⟨fun x C c e f hx hk ho => ?_, fun x C hx hk ho => ?_, fun x C hx hk => ?_, fun x y C C' hx hy hk hk' hne hs => ?_, fun x hx => ?_, r.low, fun x C hx hk => ?_, fun f l hfl => ?_, fun f l hfl x hx => ?_⟩
  · exact r.cells x C c e f hx (lk' x C hk).2 ho
  · exact r.obj x C hx (lk' x C hk).2 ho
  · obtain ⟨hne, hk⟩ := lk' x C hk
    have hna : (ρ.to x).1 ≠ (ρ.to b).1 := fun e => by
      obtain ⟨f, _, g2⟩ := r.sep x b C B hx hb hk hl hne e
      rw [hf] at g2; cases g2
    obtain ⟨o1, o2⟩ := r.own x C hx hk
    exact ⟨fun z => ⟨o1 z, hna⟩, o2.imp (fun z => ⟨z, hna⟩) id⟩
  · exact r.sep x y C C' hx hy (lk' x C hk).2 (lk' y C' hk').2 hne hs
  · rw [kill_n]; exact r.fresh x hx
  · exact r.slack x C hx (lk' x C hk).2
  · rw [kill_fams] at hfl
    refine (r.row f l hfl).imp fun hp b1 b2 hs n n' u1 u2 => hp b1 b2 hs n n' ?_ ?_
    · obtain ⟨C, c, e, g, h1, h2, h3⟩ := u1
      rw [kill_tr hB] at h1
      split at h1
      · rename_i ex; cases h1; exact ⟨B, c, e, g, ex ▸ hB, h2, h3⟩
      · exact ⟨C, c, e, g, h1, h2, h3⟩
    · obtain ⟨C, c, e, g, h1, h2, h3⟩ := u2
      rw [kill_tr hB] at h1
      split at h1
      · rename_i ex; cases h1; exact ⟨B, c, e, g, ex ▸ hB, h2, h3⟩
      · exact ⟨C, c, e, g, h1, h2, h3⟩
  · rw [kill_fams] at hfl
    obtain ⟨m1, C, m2, m3⟩ := r.mem f l hfl x hx
    rw [kill_n, kill_tr hB]
    refine ⟨m1, C, ?_, m3⟩
    rw [if_neg]
    · exact m2
    · intro e
      subst e
      rw [hB] at m2
      cases m2
      rw [hf] at m3
      cases m3
theorem Rel.blank (r : Rel ρ O D h w) (o' : Obj) (hn : h.look h.n = none) : Rel (ρ.add h.n (w.heap.size, 0) False 0 0) O D h.blank { w with heap := w.heap.push o' } := by
  have hnb : ¬ ρ.born h.n := fun hb => Nat.lt_irrefl _ (r.fresh _ hb)
  have hle : ρ.Le (ρ.add h.n (w.heap.size, 0) False 0 0) := Env.add_le hnb
  have lk : ∀ x, h.blank.look x = h.look x := fun x => rfl
  have old : ∀ x C, (ρ.add h.n (w.heap.size, 0) False 0 0).born x → h.look x = some C → x ≠ h.n ∧ ρ.born x := fun x C hx hk => by
    have hne : x ≠ h.n := fun e => by subst e; rw [hn] at hk; cases hk
    exact ⟨hne, hx.resolve_left hne⟩
  have heap : ∀ c, c < w.heap.size → (w.heap.push o')[c]? = w.heap[c]? := fun c hc => by rw [Array.getElem?_push, if_neg (by omega)]
  refine ⟨fun x C c e f hx hk ho => ?_, fun x C hx hk ho => ?_, fun x C hx hk => ?_, fun x y C C' hx hy hk hk' hne hs => ?_, fun x hx => ?_, fun x hx => ?_, fun x C hx hk => ?_, fun f l hfl => ?_, fun f l hfl x hx => ?_⟩
  · rw [lk] at hk
    obtain ⟨hne, hb⟩ := old x C hx hk
    obtain ⟨A, E, g, c1, c2, c3, c4, c5⟩ := r.cells x C c e f hb hk ho
    rw [add_to_ne hne, add_ext_ne hne]
    exact ⟨A, E, g, by dsimp only; rw [heap _ (r.low x hb)]; exact c1, c2, c3, c4, fun i v hv => by obtain ⟨v', k1, k2⟩ := c5 i v hv; exact ⟨v', k1, k2.mono hle⟩⟩
  · rw [lk] at hk
    obtain ⟨hne, hb⟩ := old x C hx hk
    obtain ⟨o1, o2, o3, o4⟩ := r.obj x C hb hk ho
    rw [add_to_ne hne]
    exact ⟨o1, o2, by dsimp only; rw [heap _ (r.low x hb)]; exact o3, o4.mono hle⟩
  · rw [lk] at hk
    obtain ⟨hne, hb⟩ := old x C hx hk
    rw [add_to_ne hne]
    exact r.own x C hb hk
  · rw [lk] at hk hk'
    obtain ⟨hne1, hb1⟩ := old x C hx hk
    obtain ⟨hne2, hb2⟩ := old y C' hy hk'
    rw [add_to_ne hne1, add_to_ne hne2] at hs
    exact r.sep x y C C' hb1 hb2 hk hk' hne hs
  · rcases hx with rfl | hx
    · exact Nat.lt_succ_self _
    · exact Nat.lt_succ_of_lt (r.fresh x hx)
  · by_cases e : x = h.n
    · subst e; rw [add_to]; simp
    · rw [add_to_ne e]
      have := r.low x (hx.resolve_left e)
      simp
      omega
  · rw [lk] at hk
    obtain ⟨hne, hb⟩ := old x C hx hk
    have := r.slack x C hb hk
    exact ⟨(add_slack_ne hne).trans this.1, fun z => (add_u_ne hne).trans (this.2 z)⟩
  · have hne : ∀ x ∈ l, x ≠ h.n := fun x hx e => by have := (r.mem f l hfl x hx).1; omega
    refine List.Pairwise.imp_of_mem (fun {x y} hx hy hp b1 b2 hs n n' u1 u2 => ?_) (r.row f l hfl)
    have ex := hne x hx
    have ey := hne y hy
    rw [add_to_ne ex, add_to_ne ey] at hs
    obtain ⟨C, c, e, g, h1, h2, h3⟩ := u1
    obtain ⟨C', c', e', g', h1', h2', h3'⟩ := u2
    rw [add_to_ne ex] at h3
    rw [add_to_ne ey] at h3'
    exact hp (b1.resolve_left ex) (b2.resolve_left ey) hs n n' ⟨C, c, e, g, h1, h2, h3⟩ ⟨C', c', e', g', h1', h2', h3'⟩
  · obtain ⟨m1, m2⟩ := r.mem f l hfl x hx
    exact ⟨Nat.lt_succ_of_lt m1, m2⟩
end
end Go.Am
end
section
set_option linter.unusedVariables false
set_option linter.unusedSectionVars false
set_option linter.unusedSimpArgs false
namespace Go.Ren
section
variable {P : Program} {O O' D F : Nat → Prop} {w w₁ w₂ w' : World} {g g' : Goroutine} {X : Event → Prop} {I : World → Prop} {m : Bool}
theorem Wk.frame {S : (Nat → Prop) → Goroutine → World → Prop} (h : Wk P m I X D S O g w) : (∀ b, F b → b < w.heap.size ∧ ¬ O b) → (∀ b, D b → b < w.heap.size ∧ ¬ O b) →
    Wk P m I X D (fun O' g' w' => ∃ O₁, S O₁ g' w' ∧ (O' = fun b => O₁ b ∨ F b) ∧ Rely F D w w') (fun b => O b ∨ F b) g w := by
  induction h with
  | @stop O g w h => intro _ _; exact .stop ⟨O, h, rfl, Rely.refl w⟩
  | @step O g w hs f u es h k ih =>
    intro hF hD
    have less : ∀ w₁, Rely (fun b => O b ∨ F b) D w w₁ → Rely O D w w₁ := fun w₁ r => ⟨r.size, fun b hb => r.own b (.inl hb), r.ro, r.os, r.output, r.tape⟩
    have grw : ∀ w₁, grow (fun b => O b ∨ F b) w₁ (u w₁) = fun b => grow O w₁ (u w₁) b ∨ F b := fun w₁ => by
      funext b
      apply propext
      unfold grow
      constructor
      · rintro ((x | x) | x)
        · exact .inl (.inl x)
        · exact .inr x
        · exact .inl (.inr x)
      · rintro ((x | x) | x)
        · exact .inl (.inl x)
        · exact .inr x
        · exact .inl (.inr x)
    refine .step hs f u es (fun w₁ hr hi => ?_) fun w₁ hr hi => ?_
    · obtain ⟨h1, h2⟩ := h w₁ (less w₁ hr) hi
      exact ⟨h1, h2.size, fun c hc hn => h2.heap c hc fun x => hn (.inl x), h2.os, h2.output, h2.tape, fun e he => by rw [grw]; exact (h2.ev e he).mono (Nat.le_refl _) fun b hb => .inl hb⟩
    · obtain ⟨_, h2⟩ := h w₁ (less w₁ hr) hi
      have hrel : Rely F D w (u w₁) := by
        refine ⟨Nat.le_trans hr.size h2.size, fun b hb => ?_, fun b hb => ?_, hr.os.trans (.of h2.os), h2.output.trans hr.output, h2.tape.trans hr.tape⟩
        · rw [h2.heap b (Nat.lt_of_lt_of_le (hF b hb).1 hr.size) (hF b hb).2]; exact hr.own b (.inr hb)
        · rw [h2.heap b (Nat.lt_of_lt_of_le (hD b hb).1 hr.size) (hD b hb).2]; exact hr.ro b hb
      have keep : ∀ b, b < w.heap.size ∧ ¬ O b → b < (u w₁).heap.size ∧ ¬ grow O w₁ (u w₁) b := fun b hb => by
        have h1 := hr.size
        have h3 := h2.size
        exact ⟨by omega, fun x => x.elim hb.2 fun y => by omega⟩
      rw [grw]
      refine (ih w₁ (less w₁ hr) hi (fun b hb => keep b (hF b hb)) (fun b hb => keep b (hD b hb))).mono fun O' g' w' hz => ?_
      obtain ⟨O₁, z1, z2, z3⟩ := hz
      exact ⟨O₁, z1, z2, hrel.trans z3⟩
end
end Go.Ren
namespace Go.Am
open Go.Ren (grow EvO Guar Rely Wk)
def h0 : AH := { n := 0, tr := .nil, fams := .nil }
section
variable {P : Program} {ρ σ : Env} {O D : Nat → Prop} {h h' : AH} {w w' : World} {X : Event → Prop} {m : Bool} {base cs' : List Frame} {I : World → Prop} {pl : Plan} {c : AFr} {cs : List AFr} {f : FuncId} {g : Goroutine} {Q : Value → AH → Prop}
theorem rel_h0 (O D : Nat → Prop) (w : World) : Rel env0 O D h0 w :=
  { cells := fun _ _ _ _ _ x => x.elim
    obj := fun _ _ x => x.elim
    own := fun _ _ x => x.elim
    sep := fun _ _ _ _ x => x.elim
    fresh := fun _ x => x.elim
    low := fun _ x => x.elim
    slack := fun _ _ x => x.elim
    row := fun f l hf => absurd (show (none : Option (List Nat)) = some l from hf) (by simp)
    mem := fun f l hf => absurd (show (none : Option (List Nat)) = some l from hf) (by simp) }
end
end Go.Am
end
section
set_option linter.unusedVariables false
set_option linter.unusedSectionVars false
set_option linter.unusedSimpArgs false
namespace Go.Am
open Go.Ren (grow EvO Guar Rely Wk)
section
variable {P : Program} {ρ σ : Env} {O D : Nat → Prop} {h h' : AH} {w w' : World} {X : Event → Prop} {m : Bool} {base cs : List Frame} {I : World → Prop} {pl : Plan}
  {lo hi : Nat} {ops : Array Oper} {i : Nat} {o : Oper} {f : Frame} {a : AFr} {s₀ : AS}
theorem FSt.defer (k : FSt ρ lo hi a f) {d d' : Deferred} (hd : DR ρ d d') : FSt ρ lo hi { a with defers := d :: a.defers } { f with defers := d' :: f.defers } := by
  cases k with
  | plain k => exact .plain ⟨⟨k.fn, .cons hd k.defers, k.mode, k.kind, k.round⟩, k.tmps, k.todo⟩
  | ahead k hk => exact .ahead ⟨⟨k.base.fn, .cons hd k.base.defers, k.base.mode, k.base.kind, k.base.round⟩, k.run, k.todo, k.ok, k.ord, k.lin, k.down, k.lt, k.sub, k.done, k.eff, k.size, k.tmps, k.bd, k.dist⟩ hk
theorem AtOp.defer {c : Call} {x : Operand} {fn : Fn} {first cap : Array Value} {a' : AFr} (A : AtOp P ρ lo s₀ ops i f cs O D w) (ho : ops[i]? = some o) (hw : Region.wanted o (yielded ops s₀.fr.tmps) = true) (hok : operOk o = true)
    (hop : o.op = .defer c) (hc : c.callee = .value x) (hx : aeval s₀.fr.tmps x = .func fn first cap) (hround : s₀.fr.round = none)
    (ha : afinish P { s₀.fr with defers := { target := .fn fn cap, args := first ++ c.args.map (aeval s₀.fr.tmps) } :: s₀.fr.defers } s₀.h undef = some a') :
    ∃ g', stepG P m (gor f (cs ++ base)) w = .go g' w #[] ∧ Sim P ρ O D base ⟨a', s₀.cs, s₀.h⟩ g' w := by
  obtain ⟨s', k', ht⟩ := A.todo
  have hw' := A.wanted o ho
  rw [hw] at hw'
  have hv := A.ops_r o ho hok
  have hfx := hv x (by rw [hop]; simp [Op.operands, Call.operands, hc])
  rw [hx] at hfx
  have hro : f.roundOf = none := by
    have := A.fs.base.round
    rw [hround] at this
    generalize f.roundOf = z at this
    cases this
    rfl
  generalize hfe : f.eval x = y at hfx
  cases hfx with
  | @func _ fn' _ first' _ cap' hfn hs1 hv1 hs2 hv2 =>
    have hargs : AR (VR ρ) (first ++ c.args.map (aeval s₀.fr.tmps)) (first' ++ c.args.map f.eval) := by
      refine AR.append ⟨hs1, hv1⟩ ⟨by simp, fun j u v hu hv' => ?_⟩
      rw [Array.getElem?_map] at hu hv'
      cases hj : c.args[j]? with
      | none => rw [hj] at hu; cases hu
      | some z =>
        rw [hj] at hu hv'
        cases hu
        cases hv'
        exact hv z (by rw [hop]; simp [Op.operands, Call.operands, hc, Array.mem_of_getElem? hj])
    have hd : DR ρ { target := .fn fn cap, args := first ++ c.args.map (aeval s₀.fr.tmps) } { target := .fn fn' cap', args := first' ++ c.args.map f.eval } := ⟨.fn hfn ⟨hs2, hv2⟩, hargs⟩
    have hrun : ∀ es₀, (execOp f.eval o).runT P w es₀ = (.ok (.defer { target := .fn fn' cap', args := first' ++ c.args.map f.eval }) w, es₀ ++ #[]) := by
      intro es₀
      have : execOp f.eval o = Sem.pure (.defer { target := .fn fn' cap', args := first' ++ c.args.map f.eval }) := by
        unfold execOp
        rw [hop]
        dsimp only
        unfold resolve
        rw [hc]
        dsimp only
        rw [hfe]
        rfl
      rw [this]
      simp only [Sem.runT, Array.append_empty]
    obtain ⟨h1, h2⟩ := run_of hrun
    have hst : stepG P m (gor f (cs ++ base)) w = .go (gor (Frame.finish { f with defers := { target := .fn fn' cap', args := first' ++ c.args.map f.eval } :: f.defers } undef) (cs ++ base)) w (seen P f.fn #[]) := by
      rw [stepG_run A.run]
      have hkind := not_early A.fs.base.ne
      have key : stepG.exec P m true f (cs ++ base) none w = stepG.apply P true f (cs ++ base) none (execOp f.eval o) w := by
        obtain ⟨gf, tmps, todo, defers, mode, kind, ro⟩ := f
        dsimp only at ht hw' hro
        subst ht
        subst hro
        simp only [stepG.exec, ho, Option.map_some, Option.getD_some]
        rw [hw', if_pos rfl]
        simp only [stepG.oper, Frame.oper?, ho]
      rw [key]
      simp [stepG.apply, h1, h2, hkind, GStep.after, gor]
    have hs : seen P f.fn #[] = #[] := by
      unfold seen
      rfl
    rw [hs] at hst
    exact ⟨_, hst, ⟨lo, _, cs, A.bound, rfl, finish_S (A.fs.defer hd) (Nat.le_refl _) vr_undef ha, A.stk⟩, A.rel⟩
end
end Go.Am
end
