/- A part of the proof that the frame keeps its roots: lemmas on which it leans. -/
import Derived.Test.YtfchamaikodjpaaGreatH28
section
set_option linter.unusedVariables false
set_option linter.unusedSectionVars false
set_option linter.unusedSimpArgs false
namespace Go.Am
open Go.Conc.Lib
open Go.Ren (grow EvO Guar Rely Wk At Leads Keep full)
def slotOf (c : AFr) : Option (Array Oper × Nat × List Nat × List AItem × Nat) := match c.todo with
  | .region ops (i :: rest) :: k => match (ops[i]?).bind (·.dst) with
    | some d => if d < c.tmps.size then some (ops, i, rest, k, d) else none
    | none => none
  | _ => none
def sameMv (h : AH) (len cap : Nat) (B : Blk) (l : List Nat) (x : Value × AH) : Bool := match x.1 with
  | .slice (some ⟨b, 0, none⟩) n c => n == len && c == cap && agree h x.2 l && match x.2.look b with
    | some B' => beqObj B'.obj B.obj && B'.ro == B.ro && B'.u == B.u && (B'.fam.isSome == B.fam.isSome) && moveOk x.2 b B' l
    | none => false
  | _ => false
def mergeMv (P : Program) (c : AFr) (cs : List AFr) (l : List Nat) (L : List (Value × AH)) : Option AS := match L with
  | (.slice (some ⟨b, 0, none⟩) n cap, h) :: _ => match h.look b with
    | some B => match B.obj with
      | .cells .. => match slotOf c with
        | some (ops, i, rest, k, d) => if L.all (sameMv h n cap B l) then some ⟨{ c with tmps := c.tmps.setIfInBounds d (.slice (some ⟨h.n, 0, none⟩) n cap), todo := .region ops rest :: k }, cs, h.move l B⟩ else none
        | none => none
      | _ => none
    | none => none
  | _ => none
section
variable {P : Program} {ρ σ : Env} {O D : Nat → Prop} {F W U Z Z' : Nat → Prop} {N : Nat} {h h' : AH} {w w' w₀ : World} {base cs : List Frame} {a a' : AFr} {f : Frame} {b : Nat} {B : Blk} {l : List Nat} {c : AFr} {cs' : List AFr} {g : Goroutine} {pl : Plan} {s s' : AS} {m : Machine} {t : Trace} {FinP : Machine → Outcome → World → Trace → Prop} {L : WgLink} {T : Tr TI} {Fu : Tr Func}
theorem slotOf_some {ops : Array Oper} {i d : Nat} {rest : List Nat} {k : List AItem} (e : slotOf c = some (ops, i, rest, k, d)) : c.todo = .region ops (i :: rest) :: k ∧ (ops[i]?).bind (·.dst) = some d ∧ d < c.tmps.size := by
  unfold slotOf at e
  split at e
  · rename_i ht
    split at e
    · rename_i d' hd
      split at e
      · rename_i hlt
        cases e
        exact ⟨ht, hd, hlt⟩
      · cases e
    · cases e
  · cases e
theorem slot_fin {ops : Array Oper} {i d : Nat} {rest : List Nat} {k : List AItem} (e : slotOf c = some (ops, i, rest, k, d)) (h : AH) (v : Value) : afinish P c h v = some { c with tmps := c.tmps.setIfInBounds d v, todo := .region ops rest :: k } := by
  obtain ⟨h1, h2, h3⟩ := slotOf_some e
  unfold afinish
  rw [h1]
  dsimp only
  rw [h2]
  rfl
theorem ar_reset {a a' : Array Value} {d : Nat} {v v' : Value} (hle : ρ.Le σ) (hd : d < a.size) (h : AR (VR ρ) (a.setIfInBounds d v) a') (hv : ∀ y, VR ρ v y → VR σ v' y) : AR (VR σ) (a.setIfInBounds d v') a' ∧ ∃ y, a'[d]? = some y ∧ VR ρ v y := by
  obtain ⟨h1, h2⟩ := h
  rw [Array.size_setIfInBounds] at h1
  have hget : ∀ u : Value, (a.setIfInBounds d u)[d]? = some u := fun u => by simp [hd]
  obtain ⟨y, hy⟩ : ∃ y, a'[d]? = some y := ⟨a'[d]'(by omega), by simp [show d < a'.size by omega]⟩
  have hvy := h2 d v y (hget v) hy
  refine ⟨⟨by rw [Array.size_setIfInBounds]; exact h1, fun i x z hx hz => ?_⟩, y, hy, hvy⟩
  by_cases hi : i = d
  · subst hi
    rw [hget] at hx
    cases hx
    rw [hy] at hz
    cases hz
    exact hv _ hvy
  · rw [Array.getElem?_setIfInBounds_ne (Ne.symm hi)] at hx
    refine (h2 i x z ?_ hz).mono hle
    rw [Array.getElem?_setIfInBounds_ne (Ne.symm hi)]
    exact hx
theorem slice_mv {n cap : Nat} {y : Value} (hv : VR ρ (.slice (some ⟨b, 0, none⟩) n cap) y) {N : Nat} : VR (ρ.mv b N) (.slice (some ⟨N, 0, none⟩) n cap) y := by
  cases hv with
  | @slice _ _ _ c' hb hc =>
    have e : (ρ.addr ⟨b, 0, none⟩) = (ρ.mv b N).addr ⟨N, 0, none⟩ := by
      unfold Env.addr Env.mv
      rw [add_to]
    rw [e]
    refine .slice (.inl rfl) (hc.imp id fun ⟨h1, h2, h3⟩ => ?_)
    unfold Env.mv
    dsimp only at h1 h3 ⊢
    rw [add_slack, add_u, add_ext]
    exact ⟨h1, h2, h3⟩
theorem Sim.move {ops : Array Oper} {i d n cap : Nat} {rest : List Nat} {k : List AItem} (hs : slotOf c = some (ops, i, rest, k, d)) (hb : h.look b = some B) (hc : ∃ cc e f, B.obj = .cells cc e f) (hok : moveOk h b B l = true)
    (S : Sim P ρ O D base ⟨{ c with tmps := c.tmps.setIfInBounds d (.slice (some ⟨b, 0, none⟩) n cap), todo := .region ops rest :: k }, cs', h⟩ g w) :
    Sim P (ρ.mv b h.n) O D base ⟨{ c with tmps := c.tmps.setIfInBounds d (.slice (some ⟨h.n, 0, none⟩) n cap), todo := .region ops rest :: k }, cs', h.move l B⟩ g w := by
  obtain ⟨⟨lo, f, cs, h1, h2, h3, h4⟩, rel⟩ := S
  have hnb : ¬ ρ.born h.n := fun hx => Nat.lt_irrefl _ (rel.fresh _ hx)
  have hle : ρ.Le (ρ.mv b h.n) := Env.add_le hnb
  have h0 := h3.f0 fun ops' l' k' e => by cases e
  obtain ⟨r1, y, hy, hvy⟩ := ar_reset hle (slotOf_some hs).2.2 h0.tmps fun y hy => slice_mv (N := h.n) hy
  have hbn : ρ.born b := by cases hvy; assumption
  have hm := h0.mono hle
  refine ⟨⟨lo, f, cs, Nat.le_succ_of_le h1, h2, .plain ⟨⟨hm.fn, hm.defers, hm.mode, hm.kind, hm.round⟩, r1, hm.todo⟩, h4.mono hle (fun x hx hb => hb.resolve_left fun e => ?_) (Nat.le_refl _)⟩, rel.move hb hc hbn hok⟩
  subst e
  have h1' : lo ≤ h.n := h1
  omega
theorem Sd.move {ops : Array Oper} {i d n cap : Nat} {rest : List Nat} {k : List AItem} (hs : slotOf c = some (ops, i, rest, k, d)) (hb : h.look b = some B) (hc : ∃ cc e f, B.obj = .cells cc e f) (hok : moveOk h b B l = true)
    (S : Sd P base F w₀ W U Z N ρ ⟨{ c with tmps := c.tmps.setIfInBounds d (.slice (some ⟨b, 0, none⟩) n cap), todo := .region ops rest :: k }, cs', h⟩ g w m t) :
    Sd P base F w₀ W U Z N (ρ.mv b h.n) ⟨{ c with tmps := c.tmps.setIfInBounds d (.slice (some ⟨h.n, 0, none⟩) n cap), todo := .region ops rest :: k }, cs', h.move l B⟩ g w m t :=
  ⟨⟨S.st.at_, S.st.sim.move hs hb hc hok, S.st.lt⟩, S.wu, S.fz, S.fwu, S.keep⟩
theorem move_eq {b b' : Nat} {B B' : Blk} (h1 : agree h h' l = true) (h2 : B'.obj = B.obj) (h3 : B'.ro = B.ro) (h4 : B'.u = B.u) (h5 : B'.fam.isSome = B.fam.isSome) : h'.move l B' = h.move l B := by
  have e1 := agree_n h1
  have e2 := agree_forget h1
  unfold AH.move
  rw [← e1, ← e2]
  obtain ⟨o, f, r, u⟩ := B
  obtain ⟨o', f', r', u'⟩ := B'
  dsimp only at h2 h3 h4 h5 ⊢
  subst h2 h3 h4
  cases f <;> cases f' <;> first | rfl | cases h5
end
end Go.Am
end
section
set_option linter.unusedVariables false
set_option linter.unusedSectionVars false
set_option linter.unusedSimpArgs false
namespace Go.Am
open Go.Conc (born QuitsD G scase rcase)
open Go.Conc.Lib
open Go.ConcR (WgAt)
open Go.Ren (grow EvO Guar Rely Wk WkD Idle IdleD X0 XS XM Lv WRel WSend WSnd WSkip hearing MAdd MGo MWait M1 Anch Spawns PhI At Leads Keep full Own Fr FinF)
def trL : List (Nat × Blk) → Tr Blk
  | [] => .nil
  | (b, B) :: l => (trL l).set b B
def fmL : List (Nat × List Nat) → Tr (List Nat)
  | [] => .nil
  | (f, m) :: l => (fmL l).set f m
def codeAt : Code → List Nat → Code
  | c, [] => c
  | .seq a b, i :: p => match i with | 0 => codeAt a p | _ => codeAt b p
  | .cond _ a b, i :: p => match i with | 0 => codeAt a p | _ => codeAt b p
  | .rangeFunc _ _ a b, i :: p => match i with | 0 => codeAt a p | _ => codeAt b p
  | .block _ b, _ :: p => codeAt b p
  | .loop b, _ :: p => codeAt b p
  | .scope b, _ :: p => codeAt b p
  | _, _ => .skip
def bodyIn (Fu : Tr Func) (f : Nat) : Code := match Fu.get f with
  | some fn => fn.body.getD .skip
  | none => .skip
def opsIn (Fu : Tr Func) (f : Nat) (p : List Nat) : Array Oper := match codeAt (bodyIn Fu f) p with
  | .region _ ops _ => ops
  | _ => #[]
noncomputable section
def stepS (P : Program) (pl : Plan) (T : Tr TI) (Fu : Tr Func) (n : Nat) (l : List Nat) (s : AS) : Option AS := match frunS P pl T Fu n s with
  | .inl s' => if notDrawn s'.fr then some ⟨s'.fr, s'.cs, s'.h.forget l⟩ else none
  | .inr _ => none
def lastS (P : Program) (pl : Plan) (T : Tr TI) (Fu : Tr Func) (n : Nat) (v : Value) (s : AS) : Bool := match frunS P pl T Fu n s with
  | .inl _ => false
  | .inr x => beqV 9 x.1 v && plainV 9 v
end
section
variable {P : Program} {ρ σ : Env} {F W U Z Z' : Nat → Prop} {N : Nat} {h h' : AH} {w w' w₀ : World} {base cs : List Frame} {a a' : AFr} {f : Frame} {l : List Nat} {c : AFr} {g : Goroutine} {pl : Plan} {s s' : AS} {m : Machine} {t : Trace} {FinP : Machine → Outcome → World → Trace → Prop} {L : WgLink} {T : Tr TI} {Fu : Tr Func} {ph : Ph}
  {gb cb cap nw nt nwt : Nat} {v : Value}
theorem frunS_inl (K : TabOk P T) (KF : FunOk P Fu) : ∀ (n : Nat) {s : AS}, frunS P pl T Fu n s = .inl s' → To P pl s' s
  | 0, s, e => by cases e; exact .here rfl
  | n + 1, s, e => by
    have hu : frunS P pl T Fu (n + 1) s = Option.rec (match astep P pl none s with
      | some (.go s') => frunS P pl T Fu n s'
      | some (.ret v h) => .inr (v, h)
      | none => .inl s) (frunS P pl T Fu n) (fstepF P T Fu s) := rfl
    rw [hu] at e
    cases hf : fstepF P T Fu s with
    | some s₁ =>
      rw [hf] at e
      exact (fstepF_sound K KF hf).bind fun s₂ h₂ => by subst h₂; exact frunS_inl K KF n e
    | none =>
      rw [hf] at e
      replace e : (match astep P pl none s with
        | some (.go s') => frunS P pl T Fu n s'
        | some (.ret v h) => .inr (v, h)
        | none => .inl s) = .inl s' := e
      cases ha : astep P pl none s with
      | none => rw [ha] at e; cases e; exact .here rfl
      | some r =>
        rw [ha] at e
        cases r with
        | go s₁ => exact .one ha (frunS_inl K KF n e)
        | ret v h => cases e
theorem frunS_inr (K : TabOk P T) (KF : FunOk P Fu) {n : Nat} {x : Value × AH} (e : frunS P pl T Fu n s = .inr x) : AAll P pl (fun v h => (v, h) = x) s :=
  frunS_all K KF n (fun s' e' => by rw [e] at e'; cases e') fun v h e' => by rw [e] at e'; cases e'; rfl
theorem Stand.step [Zeros P] (K : TabOk P T) (KF : FunOk P Fu) {n : Nat} (e : stepS P pl T Fu n l s = some s') (S : Stand P L base F w₀ ph s m t) : Leads P FinP (Stand P L base F w₀ ph s') m t := by
  unfold stepS at e
  split at e
  · rename_i s₁ h₁
    split at e
    · rename_i hd
      cases e
      exact (S.reach (frunS_inl K KF n h₁)).mono fun m t S' => S'.forget l hd
    · cases e
  · cases e
theorem Stand.last [Zeros P] (K : TabOk P T) (KF : FunOk P Fu) {n : Nat} {b : Frame} {bs : List Frame} (e : lastS P pl T Fu n v s = true) (S : Stand P L (b :: bs) F w₀ ph s m t) : Leads P FinP (Back P b bs F w₀ v) m t := by
  unfold lastS at e
  split at e
  · cases e
  · rename_i x hr
    rw [Bool.and_eq_true] at e
    have hv := beqV_eq _ _ _ e.1
    obtain ⟨W, U, Z, N, ρ, g, w, S, hp⟩ := S
    refine (Go.Ren.At.wk2 (aall_wk (X := X0) (I := fun _ => True) (m := true) (frunS_inr K KF hr) S.st.sim) S.st.lt rfl S.st.at_).mono ?_
    rintro m t ⟨g', w', hat, ⟨σ, v'', h, u, hx, k1, k2, rfl, k3⟩, hk⟩
    have hvv : v'' = v := by rw [← hv, ← hx]
    subst hvv
    have hu := (plain_of e.2).eq k2
    subst hu
    exact ⟨W, U, Z, N, w', hat, S.wu, S.fz, S.fwu, S.keepF hk, hk.lt S.st.lt⟩
end
end Go.Am
end
section
set_option linter.unusedVariables false
set_option linter.unusedSectionVars false
set_option linter.unusedSimpArgs false
namespace Go.Am
open Go.Conc (born QuitsD G scase rcase)
open Go.Conc.Lib
open Go.ConcR (WgAt)
open Go.Ren (grow EvO Guar Rely Wk WkD Idle IdleD X0 XS XM Lv WRel WSend WSnd WSkip hearing MAdd MGo MWait M1 Anch Spawns PhI At Leads Keep full Own Fr FinF)
def AH.unshared (h : AH) : AH := { h with tr := h.tr.map fun B => { B with ro := false } }
section
variable {P : Program} {ρ σ : Env} {O O' D : Nat → Prop} {F W U Z Z' : Nat → Prop} {N : Nat} {h h' : AH} {w w' w₀ : World} {mm : Bool} {base cs : List Frame} {s s' s₀ : AS} {pl : Plan} {g g' : Goroutine}
  {L : WgLink} {m : Machine} {t : Trace} {ph : Ph}
theorem unshared_tr (b : Nat) : h.unshared.tr.get b = (h.tr.get b).map fun B => { B with ro := false } := Tr.get_map _ _ _
theorem look_unshared {b : Nat} : h.unshared.look b = (h.look b).map fun B => { B with ro := false } := by
  unfold AH.look
  rw [unshared_tr]
  cases h.tr.get b with
  | none => rfl
  | some B =>
    obtain ⟨o, fam, ro, u⟩ := B
    cases fam with
    | none => rfl
    | some f =>
      simp only [Option.map_some]
      show (if ((h.fams.get f).getD []).contains b then _ else _) = _
      split <;> rfl
theorem Rel.unshare (r : Rel ρ O (fun _ => False) h w) : Rel ρ O (fun _ => False) h.unshared w := by
  have lk : ∀ b B', h.unshared.look b = some B' → ∃ B, h.look b = some B ∧ B'.obj = B.obj ∧ B'.fam = B.fam ∧ B'.u = B.u := by
    intro b B' hk
    rw [look_unshared] at hk
    simp only [Option.map_eq_some_iff] at hk
    obtain ⟨B, k1, rfl⟩ := hk
    exact ⟨B, k1, rfl, rfl, rfl⟩
  have up : ∀ b n, h.unshared.upTo ρ b n → h.upTo ρ b n := by
    rintro b n ⟨B', c, e, f, h1, h2, h3⟩
    rw [unshared_tr] at h1
    simp only [Option.map_eq_some_iff] at h1
    obtain ⟨B, k1, rfl⟩ := h1
    exact ⟨B, c, e, f, k1, h2, h3⟩
  refine ⟨fun b B c e f hb hk ho => ?_, fun b B hb hk ho => ?_, fun b B hb hk => ?_, fun b b' B B' hb hb' hk hk' hne hs => ?_, r.fresh, r.low, fun b B hb hk => ?_, fun f l hfl => ?_, fun f l hfl b hb => ?_⟩
  · obtain ⟨B₀, k1, k2, k3, k4⟩ := lk b B hk
    exact r.cells b B₀ c e f hb k1 (k2 ▸ ho)
  · obtain ⟨B₀, k1, k2, k3, k4⟩ := lk b B hk
    obtain ⟨o1, o', o2, o3⟩ := r.obj b B₀ hb k1 (k2 ▸ ho)
    exact ⟨o1, o', o2, by rw [k2]; exact o3⟩
  · obtain ⟨B₀, k1, k2, k3, k4⟩ := lk b B hk
    have hO := (r.own b B₀ hb k1).2.resolve_right id
    exact ⟨fun _ => hO, .inl hO⟩
  · obtain ⟨B₀, k1, _, k3, _⟩ := lk b B hk
    obtain ⟨B₁, j1, _, j3, _⟩ := lk b' B' hk'
    obtain ⟨f, g1, g2⟩ := r.sep b b' B₀ B₁ hb hb' k1 j1 hne hs
    exact ⟨f, k3.trans g1, j3.trans g2⟩
  · obtain ⟨B₀, k1, _, k3, k4⟩ := lk b B hk
    obtain ⟨s1, s2⟩ := r.slack b B₀ hb k1
    exact ⟨s1.trans (by rw [k3]), fun z => (s2 (k3 ▸ z)).trans k4.symm⟩
  · exact (r.row f l hfl).imp fun hp b1 b2 hs n n' u1 u2 => hp b1 b2 hs n n' (up _ _ u1) (up _ _ u2)
  · obtain ⟨m1, B, m2, m3⟩ := r.mem f l hfl b hb
    exact ⟨m1, { B with ro := false }, by rw [unshared_tr, m2]; rfl, m3⟩
theorem Sd.unshare (S : Sd P base F w₀ W U Z N ρ s g w m t) (hd : notDrawn s.fr = true) : Sd P base F w₀ W U Z N ρ ⟨s.fr, s.cs, s.h.unshared⟩ g w m t := by
  refine ⟨⟨S.st.at_, ?_, S.st.lt⟩, S.wu, S.fz, S.fwu, S.keep⟩
  obtain ⟨⟨lo, f, cs, h1, h2, h3, h4⟩, rel⟩ := S.st.sim
  refine ⟨⟨lo, f, cs, h1, h2, .plain (h3.f0 fun ops l k e => ?_), h4⟩, rel.unshare⟩
  unfold notDrawn at hd
  rw [e] at hd
  cases hd
end
end Go.Am
end
section
set_option linter.unusedVariables false
set_option linter.unusedSectionVars false
set_option linter.unusedSimpArgs false
namespace Go.Am
open Go.Conc.Lib
open Go.Ren (grow EvO Guar Rely Wk At Leads Keep full)
noncomputable section
def partS (P : Program) (pl : Plan) (T : Tr TI) (Fu : Tr Func) (n d : Nat) (mv : Bool) (l : List Nat) (i : Nat) (s : AS) : Option AS := match s.cs with
  | c :: cs => match astep P pl (some i) ⟨s.fr, [], s.h⟩ with
    | some (.go s₁) => match explore P pl T Fu n d s₁ with
      | some L => bif mv then mergeMv P c cs l L else merge P c cs l L
      | none => none
    | _ => none
  | [] => none
def arityS (P : Program) (s : AS) : Option Nat := match opNow ⟨s.fr, [], s.h⟩ with
  | some o => some ((execOp (aeval s.fr.tmps) o).arity P s.h)
  | none => none
end
section
variable {P : Program} {ρ σ : Env} {F W U Z : Nat → Prop} {w₀ : World} {base : List Frame} {s s' : AS} {pl : Plan} {c : AFr} {cs' : List AFr} {l : List Nat}
  {L : WgLink} {m : Machine} {t : Trace} {FinP : Machine → Outcome → World → Trace → Prop} {T : Tr TI} {Fu : Tr Func}
theorem mergeMv_slot {Lx : List (Value × AH)} (hm : mergeMv P c cs' l Lx = some s') : ∃ ops i rest k d, slotOf c = some (ops, i, rest, k, d) := by
  unfold mergeMv at hm
  split at hm
  · split at hm
    · split at hm
      · split at hm
        · rename_i ops i rest k d' hs
          exact ⟨_, _, _, _, _, hs⟩
        · cases hm
      · cases hm
    · cases hm
  · cases hm
theorem Stand.ordersQ [Zeros P] {ph : Ph} (hcs : s.cs = c :: cs') (hq : AAll P pl (fun v h => ∃ Lx, (v, h) ∈ Lx ∧ (merge P c cs' l Lx = some s' ∨ mergeMv P c cs' l Lx = some s')) ⟨s.fr, [], s.h⟩) (S : Stand P L base F w₀ ph s m t) :
    Leads P FinP (Stand P L base F w₀ .idle s') m t := by
  obtain ⟨W, U, Z, N, ρ, g, w, S, hp⟩ := S
  have S' : Sd P base F w₀ W U Z N ρ ⟨s.fr, [] ++ c :: cs', s.h⟩ g w m t := by
    obtain ⟨fr, ss, hh⟩ := s
    dsimp only at hcs
    subst hcs
    exact S
  have hr := AAll.under (c := c) (cs := cs') (K := fun s₁ => ∃ x Lx, x ∈ Lx ∧ (merge P c cs' l Lx = some s' ∨ mergeMv P c cs' l Lx = some s') ∧ ∃ a, afinish P c x.2 x.1 = some a ∧ s₁ = ⟨a, cs', x.2⟩) hq fun v h hv => by
    obtain ⟨Lx, hv, hm⟩ := hv
    have ha : ∃ a, afinish P c h v = some a := by
      rcases hm with hm | hm
      · obtain ⟨a, h1, _⟩ := merge_some hm _ hv
        exact ⟨a, h1⟩
      · obtain ⟨ops, i, rest, k, d', hs⟩ := mergeMv_slot hm
        exact ⟨_, slot_fin hs h v⟩
    obtain ⟨a, ha⟩ := ha
    exact ⟨a, ha, .here ⟨(v, h), Lx, hv, hm, a, ha, rfl⟩⟩
  refine (S'.reach hr).mono ?_
  rintro m t ⟨τ, s₁, g', w', ⟨x, Lx, hxm, hm, a, ha, rfl⟩, k1, k2, k3⟩
  rcases hm with hm | hm
  · obtain ⟨a', h1, h2, h3⟩ := merge_some hm x hxm
    rw [ha] at h1
    cases h1
    rw [h3]
    exact ⟨_, _, _, _, _, _, _, k2.forget l h2, trivial⟩
  · unfold mergeMv at hm
    split at hm
    · rename_i b n' cap h₁ rest₁
      split at hm
      · rename_i B hB
        split at hm
        · rename_i cc e f hobj
          split at hm
          · rename_i ops i rest k d' hs
            split at hm
            · rename_i hall
              cases hm
              rw [slot_fin hs] at ha
              cases ha
              have hsame := (List.all_eq_true.1 hall) x hxm
              unfold sameMv at hsame
              split at hsame
              · rename_i b' n₂ c₂ hx1
                simp only [Bool.and_eq_true, beq_iff_eq] at hsame
                obtain ⟨⟨⟨rfl, rfl⟩, hag⟩, hlk⟩ := hsame
                split at hlk
                · rename_i B' hB'
                  simp only [Bool.and_eq_true, beq_iff_eq] at hlk
                  obtain ⟨⟨⟨⟨q1, q2⟩, q3⟩, q4⟩, q5⟩ := hlk
                  have q1' := beqObj_eq q1
                  rw [hx1] at k2
                  have k4 := k2.move (l := l) hs hB' ⟨cc, e, f, q1'.trans hobj⟩ q5
                  rw [move_eq (b := b) (b' := b') hag q1' q2 q3 q4, ← agree_n hag] at k4
                  exact ⟨_, _, _, _, _, _, _, k4, trivial⟩
                · cases hlk
              · cases hsame
            · cases hm
          · cases hm
        · cases hm
      · cases hm
    · cases hm
theorem Stand.parts [Zeros P] (K : TabOk P T) (KF : FunOk P Fu) {ph : Ph} {n d q : Nat} {mv : Bool} (hq : arityS P s = some q) (h0 : q ≠ 0) (hp : ∀ i, i < q → partS P pl T Fu n d mv l i s = some s') (S : Stand P L base F w₀ ph s m t) :
    Leads P FinP (Stand P L base F w₀ .idle s') m t := by
  unfold arityS at hq
  split at hq
  rotate_left
  · cases hq
  rename_i o ho
  cases hq
  have hcs : ∃ c cs', s.cs = c :: cs' := by
    have := hp 0 (Nat.pos_of_ne_zero h0)
    unfold partS at this
    split at this
    · exact ⟨_, _, by assumption⟩
    · cases this
  obtain ⟨c, cs', hcs⟩ := hcs
  refine S.ordersQ (pl := pl) (l := l) (s' := s') hcs ?_
  have part : ∀ i, i < (execOp (aeval s.fr.tmps) o).arity P s.h → ∃ s₁, astep P pl (some i) ⟨s.fr, [], s.h⟩ = some (.go s₁) ∧ AAll P pl (fun v h => ∃ Lx, (v, h) ∈ Lx ∧ (merge P c cs' l Lx = some s' ∨ mergeMv P c cs' l Lx = some s')) s₁ := by
    intro i hi
    have := hp i hi
    unfold partS at this
    rw [hcs] at this
    dsimp only at this
    split at this
    · rename_i s₁ hs
      split at this
      · rename_i Lx hx
        refine ⟨s₁, hs, (explore_all K KF d hx).mono fun v h hv => ⟨Lx, hv, ?_⟩⟩
        cases mv with
        | false => exact .inl this
        | true => exact .inr this
      · cases this
    · cases this
  have all : ∀ i, ∃ s₁, astep P pl (some i) ⟨s.fr, [], s.h⟩ = some (.go s₁) ∧ AAll P pl (fun v h => ∃ Lx, (v, h) ∈ Lx ∧ (merge P c cs' l Lx = some s' ∨ mergeMv P c cs' l Lx = some s')) s₁ := by
    intro i
    have hm := astep_mod (P := P) (pl := pl) ho i
    obtain ⟨s₁, h1, h2⟩ := part _ (Nat.mod_lt i (Nat.pos_of_ne_zero h0))
    exact ⟨s₁, hm.trans h1, h2⟩
  refine .step (fun i => let ⟨s₁, h, _⟩ := all i; ⟨_, h⟩) (fun i s₁ hs => ?_) fun i v h hs => ?_
  · obtain ⟨s₂, h1, h2⟩ := all i
    rw [hs] at h1
    cases h1
    exact h2
  · obtain ⟨s₂, h1, h2⟩ := all i
    rw [hs] at h1
    cases h1
end
end Go.Am
end
section
set_option linter.unusedVariables false
set_option linter.unusedSectionVars false
set_option linter.unusedSimpArgs false
namespace Go.Am
open Go.Conc.Lib
open Go.Ren (grow EvO Guar Rely Wk At Leads Keep full)
noncomputable section
def allB (f : Nat → Bool) (m : Nat) : Bool := Nat.rec true (fun c ih => f c && ih) m
end
end Go.Am
end
section
set_option linter.unusedVariables false
set_option linter.unusedSectionVars false
set_option linter.unusedSimpArgs false
namespace Go.Am
open Go.Conc.Lib
open Go.ConcR (WgAt)
open Go.Ren (grow EvO Guar Rely Wk At Leads Keep full)
noncomputable section
def goS (P : Program) (s : AS) : Option (AS × AS) := match opAt s with
  | some o => match o.op with
    | .go c => match c.callee with
      | .value x => match aeval s.fr.tmps x with
        | .func (.func fid) first cap => if plainFn P fid && s.fr.round.isNone then
            match xFin P s s.h.shared undef with
            | some s' => some (⟨{ AFr.enter P fid ((first ++ c.args.map (aeval s.fr.tmps)) ++ cap) with dk := true }, [], s.h.shared⟩, s')
            | none => none
          else none
        | _ => none
      | _ => none
    | _ => none
  | none => none
def spawnS1 (P : Program) (pl : Plan) (L : WgLink) (gb n₁ n₂ : Nat) (s : AS) : Option (AS × AS) := match arun P pl n₁ s with
  | some (.go s₁) => match xCall P L.add #[.pointer (some ⟨gb, 0, none⟩), .int .i64 1] s₁ with
    | some s₂ => match arun P pl n₂ s₂ with
      | some (.go s₃) => goS P s₃
      | _ => none
    | none => none
  | _ => none
def waitS (P : Program) (pl : Plan) (L : WgLink) (gb n : Nat) (s : AS) : Option AS := match arun P pl n s with
  | some (.go s₁) => xCall P L.wait #[.pointer (some ⟨gb, 0, none⟩)] s₁
  | _ => none
end
end Go.Am
end
