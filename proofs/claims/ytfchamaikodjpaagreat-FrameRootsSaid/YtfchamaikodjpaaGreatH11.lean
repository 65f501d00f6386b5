/- A part of the proof that the frame keeps its roots: lemmas on which it leans. -/
import Derived.Conc.Events
import Derived.Test.YtfchamaikodjpaaGreatH10
section
set_option linter.unusedVariables false
set_option linter.unusedSectionVars false
set_option linter.unusedSimpArgs false
namespace Go.Am
open Go.Ren (grow EvO Guar Rely)
section
variable {P : Program} {ρ σ : Env} {O O' D : Nat → Prop} {h h' h₁ : AH} {w w' w₁ : World} {X : Event → Prop} {α β γ δ : Type}
theorem Out.bindR {R : Env → α → β → Prop} {Q : Env → γ → δ → Prop} {s' : Sem β} {k' : β → Sem δ} {a : α} {c : γ} (hs : Out P X D R ρ O h w s' a h₁)
    (hk : ∀ (σ : Env) (b : β) (w₁ : World), ρ.Le σ → R σ a b → Rel σ (grow O w w₁) D h₁ w₁ → Out P X D Q σ (grow O w w₁) h₁ w₁ (k' b) c h') : Out P X D Q ρ O h w (s'.bind k') c h' := by
  obtain ⟨σ, b, w₁, es, h1, h2, h3, h4, h5, h6, h7⟩ := hs
  refine Out.then (h₁ := h₁) (s₁ := k' b) (es₁ := es) (fun es₀ => ?_) h2 h5 h6 h7 (hk σ b w₁ h2 h3 h4)
  rw [Sem.runT_bind', h1]
theorem Out.same {R : Env → α → β → Prop} {s' s₁ : Sem β} {a : α} (hrun : ∀ w es, s'.runT P w es = s₁.runT P w es) (k : Out P X D R ρ O h w s₁ a h') : Out P X D R ρ O h w s' a h' := by
  obtain ⟨σ, b, w₁, es, h1, h2⟩ := k
  exact ⟨σ, b, w₁, es, fun es₀ => by rw [hrun, h1], h2⟩
theorem Out.pureR {R : Env → α → β → Prop} {a : α} {b : β} (r : Rel ρ O D h w) (hR : R ρ a b) : Out P X D R ρ O h w (.pure b) a h :=
  ⟨ρ, b, w, #[], fun es₀ => by simp only [Sem.runT, Array.append_empty], .refl ρ, hR, r.mono fun _ => .inl, .none w, Nat.le_refl _, fun x => ⟨.inl, fun h => h.elim id fun x => absurd x.1 (by omega)⟩⟩
def Pu (P : Program) (x : Sem α) (a : α) : Prop := ∀ w es, x.runT P w es = (.ok a w, es)
theorem Pu.pure (a : α) : Pu P (Sem.pure a) a := fun w es => by simp only [Sem.runT]
theorem Pu.pur (a : α) : Pu P (Pure.pure a : Sem α) a := Pu.pure a
theorem Pu.run {x : Sem α} {a : α} (h : Pu P x a) (f : α → Sem β) (w : World) (es : Array Event) : (x >>= f).runT P w es = (f a).runT P w es := by
  show (x.bind f).runT P w es = _
  rw [Sem.runT_bind', h]
theorem Pu.bind {x : Sem α} {a : α} {f : α → Sem β} {b : β} (h : Pu P x a) (k : Pu P (f a) b) : Pu P (x >>= f) b := fun w es => by rw [h.run, k]
theorem pu_program : Pu P program P := fun w es => rfl
theorem pu_info {t : TypeId} {i : TypeInfo} (h : P.info? t = some i) : Pu P (typeInfo t) i := by
  unfold typeInfo
  refine pu_program.bind ?_
  rw [h]
  exact .pur i
theorem pu_under {t : TypeId} {u : TypeDesc} (h : P.underlying t = some u) : Pu P (underlying t) u := by
  unfold underlying
  refine pu_program.bind ?_
  rw [h]
  exact .pur u
theorem pu_size {t : TypeId} {i : TypeInfo} (h : P.info? t = some i) : Pu P (sizeOf t) i.size := by
  unfold sizeOf
  exact (pu_info h).bind (.pur _)
theorem pu_zero {t : TypeId} {i : TypeInfo} {z : Value} (h : P.info? t = some i) (hz : i.zero = some z) : Pu P (zeroValue t) z := by
  unfold zeroValue
  refine (pu_info h).bind ?_
  rw [hz]
  exact .pur z
def flat : Value → Bool
  | .agg _ | .tuple _ => false
  | _ => true
theorem flat_r {v v' : Value} (h : VR ρ v v') (k : flat v = true) : flat v' = true := by cases h <;> first | rfl | cases k
theorem run_storeCells {T off : Nat} : ∀ (vs : List Value) (i : Nat) {w : World} {C : Array Value} {E : TypeId}, w.heap[T]? = some (.cells C E (0, 0)) → off + i + vs.length ≤ C.size → (∀ v ∈ vs, flat v = true) →
    ∃ (w' : World) (es : Array Event) (C' : Array Value), (∀ es₀, (storeCells ⟨T, off, none⟩ vs i).runT P w es₀ = (.ok () w', es₀ ++ es)) ∧ w'.heap[T]? = some (.cells C' E (0, 0)) ∧ C'.size = C.size ∧
      (∀ j, C'[j]? = if off + i ≤ j ∧ j < off + i + vs.length then vs[j - (off + i)]? else C[j]?) ∧ (∀ c, c ≠ T → w'.heap[c]? = w.heap[c]?) ∧ w'.heap.size = w.heap.size ∧ w'.os = w.os ∧ w'.output = w.output ∧ w'.tape = w.tape ∧
      ∀ e ∈ es, ∃ o, e.loc = .cell ⟨T, o, none⟩
  | [], i, w, C, E, hT, hle, hf => ⟨w, #[], C, fun es₀ => by simp [storeCells, pure, Sem.runT, -Sem.runT_eq], hT, rfl, fun j => by rw [if_neg (fun hh => by have h1 := hh.1; have h2 := hh.2; simp only [List.length_nil] at h2; omega)], fun _ _ => rfl, rfl, rfl, rfl, rfl, fun e he => by simp at he⟩
  | v :: vs, i, w, C, E, hT, hle, hf => by
    simp only [List.length_cons] at hle
    have hadd : (⟨T, off, none⟩ : Addr).add i = ⟨T, off + i, none⟩ := by
      unfold Addr.add
      split
      · rename_i h0; subst h0; rfl
      · rfl
    have hcell : w.cell? ⟨T, off + i, none⟩ = some C[off + i] := by
      unfold World.cell?
      dsimp only
      rw [hT]
      simp
    have hfro : w.frozen? ⟨T, off + i, none⟩ = false := by
      unfold World.frozen?
      dsimp only
      rw [hT]
      simp
    have hheap : (w.setCell ⟨T, off + i, none⟩ v).heap[T]? = some (.cells (C.setIfInBounds (off + i) v) E (0, 0)) := by
      unfold World.setCell
      dsimp only
      rw [Array.getElem?_modify, if_pos rfl, hT]
      simp
    obtain ⟨w', es, C', h1, h2, h3, h4, h5, h6, h7, h8, h9, h10⟩ := run_storeCells (off := off) vs (i + 1) hheap (by simp; omega) (fun x hx => hf x (by simp [hx]))
    have hfv := hf v (by simp)
    refine ⟨w', #[⟨.cell ⟨T, off + i, none⟩, true, Mode.plain == Mode.atomic⟩] ++ es, C', fun es₀ => ?_, h2, by rw [h3]; simp, fun j => ?_, fun c hc => ?_, by rw [h6]; simp [World.setCell], h7, h8, h9, fun e he => ?_⟩
    · have : storeCells ⟨T, off, none⟩ (v :: vs) i = (store ((⟨T, off, none⟩ : Addr).add i) v).bind fun _ => storeCells ⟨T, off, none⟩ vs (i + 1) := rfl
      rw [this, hadd, Sem.runT_bind']
      have hst : (store ⟨T, off + i, none⟩ v).runT P w es₀ = (.ok () (w.setCell ⟨T, off + i, none⟩ v), es₀.push ⟨.cell ⟨T, off + i, none⟩, true, Mode.plain == Mode.atomic⟩) := by
        unfold store
        cases v <;> first | (cases hfv; done) | simp only [Sem.runT, hcell, hfro] <;> rfl
      rw [hst]
      dsimp only
      rw [h1, ← Array.append_assoc]
      simp
    · rw [h4, Array.getElem?_setIfInBounds]
      by_cases e1 : j = off + i
      · subst e1
        rw [if_neg (by omega), if_pos rfl, if_pos (by omega), if_pos (by simp)]
        simp
      · by_cases e2 : off + (i + 1) ≤ j ∧ j < off + (i + 1) + vs.length
        · rw [if_pos e2, if_pos (by simp; omega)]
          have : j - (off + i) = (j - (off + (i + 1))) + 1 := by omega
          rw [this, List.getElem?_cons_succ]
        · rw [if_neg e2, if_neg (by omega), if_neg (by simp; omega)]
    · rw [h5 c hc]
      unfold World.setCell
      dsimp only
      rw [Array.getElem?_modify, if_neg (fun e => hc e.symm)]
    · rcases Array.mem_append.1 he with he | he
      · simp only [List.mem_toArray, List.mem_singleton] at he
        subst he
        exact ⟨_, rfl⟩
      · exact h10 e he
def AH.join (h : AH) (f : Nat) (l : List Nat) (o : Obj) (u : Nat) : AH := { n := h.n + 1, tr := h.tr.set h.n ⟨o, some f, false, u⟩, fams := h.fams.set f (l ++ [h.n]) }
theorem join_tr {f : Nat} {l : List Nat} {o : Obj} {u x : Nat} : (h.join f l o u).tr.get x = if x = h.n then some ⟨o, some f, false, u⟩ else h.tr.get x := by simp only [AH.join, Tr.get_set]
theorem join_fams {f g : Nat} {l : List Nat} {o : Obj} {u : Nat} : (h.join f l o u).fams.get g = if g = f then some (l ++ [h.n]) else h.fams.get g := by simp only [AH.join, Tr.get_set]
theorem look_join {f : Nat} {l : List Nat} {o : Obj} {u : Nat} : (h.join f l o u).look h.n = some ⟨o, some f, false, u⟩ := by
  unfold AH.look
  rw [join_tr, if_pos rfl]
  dsimp only
  rw [join_fams, if_pos rfl]
  simp
theorem look_join_ne {f : Nat} {l : List Nat} {o : Obj} {u x : Nat} {B : Blk} (hx : x ≠ h.n) (hl : ∀ y ∈ l, y ∈ (h.fams.get f).getD []) (k : (h.join f l o u).look x = some B) : h.look x = some B ∧ (B.fam = some f → x ∈ l) := by
  have ht := look_tr k
  rw [join_tr, if_neg hx] at ht
  have hm : ∀ g, B.fam = some g → g = f → x ∈ l := fun g hg e => by
    have := look_fam k hg
    rw [join_fams, if_pos e] at this
    simp only [Option.getD_some, List.mem_append, List.mem_singleton] at this
    exact this.resolve_right hx
  refine ⟨?_, fun hf => hm f hf rfl⟩
  unfold AH.look
  rw [ht]
  dsimp only
  cases hf : B.fam with
  | none => rfl
  | some g =>
    dsimp only
    by_cases e : g = f
    · subst e
      rw [if_pos (by simpa using hl x (hm g hf rfl))]
    · have := look_fam k hf
      rw [join_fams, if_neg e] at this
      rw [if_pos (by simpa using this)]
theorem Rel.join (r : Rel ρ O D h w) {f : Nat} {l : List Nat} {cs : Array Value} {e : TypeId} {u T off ext : Nat}
    (hsub : l.Sublist ((h.fams.get f).getD [])) (hO : ∀ b, O b → O' b) (hOT : O' T) (hsize : w.heap.size ≤ w'.heap.size) (hother : ∀ c, c ≠ T → c < w.heap.size → w'.heap[c]? = w.heap[c]?)
    (hT : ∃ C E, w'.heap[T]? = some (.cells C E (0, 0)) ∧ off + ext ≤ C.size ∧ cs.size ≤ ext ∧ ∀ (i : Nat) v, cs[i]? = some v → ∃ v', C[off + i]? = some v' ∧ VR ρ v v')
    (hfam : ∀ x B, ρ.born x → h.look x = some B → (ρ.to x).1 = T → B.fam = some f ∧ ∃ c e' g, B.obj = .cells c e' g)
    (hend : ∀ x ∈ l, ρ.born x → (ρ.to x).1 = T → ∀ n, h.upTo ρ x n → n ≤ off + cs.size)
    (hkeep : ∀ x B c e' g, ρ.born x → h.look x = some B → x ∈ l → (ρ.to x).1 = T → B.obj = .cells c e' g → ∃ C E g', w'.heap[T]? = some (.cells C E g') ∧ (ρ.to x).2 + ρ.ext x ≤ C.size ∧ c.size ≤ ρ.ext x ∧ (True → g' = (0, 0)) ∧ ∀ (i : Nat) v, c[i]? = some v → ∃ v', C[(ρ.to x).2 + i]? = some v' ∧ VR ρ v v') :
    Rel (ρ.add h.n (T, off) True u ext) O' D (h.join f l (.cells cs e (0, 0)) u) w' := by
  have hnb : ¬ ρ.born h.n := fun hb => Nat.lt_irrefl _ (r.fresh _ hb)
  have hle : ρ.Le (ρ.add h.n (T, off) True u ext) := Env.add_le hnb
  have hin : ∀ y ∈ l, y ∈ (h.fams.get f).getD [] := fun y hy => hsub.subset hy
  have hlT : ∀ y ∈ l, y < h.n ∧ ∃ B, h.tr.get y = some B ∧ B.fam = some f := fun y hy => by
    have := hin y hy
    cases hg : h.fams.get f with
    | none => rw [hg] at this; simp at this
    | some l' => rw [hg] at this; exact r.mem f l' hg y this
  have old : ∀ x, x ≠ h.n → (ρ.add h.n (T, off) True u ext).born x → ρ.born x := fun x hx hb => hb.resolve_left hx
  have lk : ∀ x B, x ≠ h.n → (h.join f l (.cells cs e (0, 0)) u).look x = some B → h.look x = some B ∧ (B.fam = some f → x ∈ l) := fun x B hx => look_join_ne hx hin
  have lkn : ∀ B, (h.join f l (.cells cs e (0, 0)) u).look h.n = some B → B = ⟨.cells cs e (0, 0), some f, false, u⟩ := fun B hB => by rw [look_join] at hB; cases hB; rfl
  have upTo : ∀ x n, x ≠ h.n → (h.join f l (.cells cs e (0, 0)) u).upTo (ρ.add h.n (T, off) True u ext) x n → h.upTo ρ x n := by
    rintro x n hx ⟨B, c, e', g, h1, h2, h3⟩
    rw [join_tr, if_neg hx] at h1
    rw [add_to_ne hx] at h3
    exact ⟨B, c, e', g, h1, h2, h3⟩
  refine ⟨fun x B c e' g hx hk hobj => ?_, fun x B hx hk hobj => ?_, fun x B hx hk => ?_, fun x y B B' hx hy hk hk' hne hs => ?_, fun x hx => ?_, fun x hx => ?_, fun x B hx hk => ?_, fun g l' hf => ?_, fun g l' hf x hm => ?_⟩
  · by_cases ex : x = h.n
    · subst ex
      have := lkn B hk
      subst this
      cases hobj
      rw [add_to, add_ext]
      obtain ⟨C, E, h1, h2, h3, h4⟩ := hT
      exact ⟨C, E, (0, 0), h1, h2, h3, fun _ => rfl, fun i v hv => by obtain ⟨v', k1, k2⟩ := h4 i v hv; exact ⟨v', k1, k2.mono hle⟩⟩
    · obtain ⟨k1, k2⟩ := lk x B ex hk
      have hb := old x ex hx
      rw [add_to_ne ex, add_ext_ne ex]
      have fin : (∃ C E g', w'.heap[(ρ.to x).1]? = some (.cells C E g') ∧ (ρ.to x).2 + ρ.ext x ≤ C.size ∧ c.size ≤ ρ.ext x ∧ (True → g' = (0, 0)) ∧ ∀ (i : Nat) v, c[i]? = some v → ∃ v', C[(ρ.to x).2 + i]? = some v' ∧ VR ρ v v') := by
        by_cases et : (ρ.to x).1 = T
        · rw [et]
          exact hkeep x B c e' g hb k1 (k2 (hfam x B hb k1 et).1) et hobj
        · rw [hother _ et (r.low x hb)]
          exact r.cells x B c e' g hb k1 hobj
      obtain ⟨C, E, g', f1, f2, f3, f4, f5⟩ := fin
      exact ⟨C, E, g', f1, f2, f3, f4, fun i v hv => by obtain ⟨v', k1, k2⟩ := f5 i v hv; exact ⟨v', k1, k2.mono hle⟩⟩
  · by_cases ex : x = h.n
    · subst ex
      have := lkn B hk
      subst this
      exact absurd rfl (hobj _ _ _)
    · obtain ⟨k1, k2⟩ := lk x B ex hk
      have hb := old x ex hx
      rw [add_to_ne ex]
      have et : (ρ.to x).1 ≠ T := fun et => by
        obtain ⟨_, c, e', g, hc⟩ := hfam x B hb k1 et
        exact hobj _ _ _ hc
      rw [hother _ et (r.low x hb)]
      obtain ⟨o1, o', o2, o3⟩ := r.obj x B hb k1 hobj
      exact ⟨o1, o', o2, o3.mono hle⟩
  · by_cases ex : x = h.n
    · subst ex
      rw [add_to]
      exact ⟨fun _ => hOT, .inl hOT⟩
    · obtain ⟨k1, k2⟩ := lk x B ex hk
      rw [add_to_ne ex]
      have := r.own x B (old x ex hx) k1
      exact ⟨fun z => hO _ (this.1 z), this.2.imp (hO _) id⟩
  · by_cases ex : x = h.n
    · subst ex
      have := lkn B hk
      subst this
      have ey : y ≠ h.n := fun e => hne e.symm
      obtain ⟨k1, k2⟩ := lk y B' ey hk'
      rw [add_to, add_to_ne ey] at hs
      exact ⟨f, rfl, (hfam y B' (old y ey hy) k1 hs.symm).1⟩
    · obtain ⟨k1, k2⟩ := lk x B ex hk
      by_cases ey : y = h.n
      · subst ey
        have := lkn B' hk'
        subst this
        rw [add_to, add_to_ne ex] at hs
        exact ⟨f, (hfam x B (old x ex hx) k1 hs).1, rfl⟩
      · obtain ⟨j1, j2⟩ := lk y B' ey hk'
        rw [add_to_ne ex, add_to_ne ey] at hs
        exact r.sep x y B B' (old x ex hx) (old y ey hy) k1 j1 hne hs
  · rcases hx with rfl | hx
    · exact Nat.lt_succ_self _
    · exact Nat.lt_succ_of_lt (r.fresh x hx)
  · by_cases ex : x = h.n
    · subst ex
      rw [add_to]
      obtain ⟨C, E, h1, _⟩ := hT
      exact (Array.getElem?_eq_some_iff.1 h1).1
    · rw [add_to_ne ex]
      exact Nat.lt_of_lt_of_le (r.low x (old x ex hx)) hsize
  · by_cases ex : x = h.n
    · subst ex
      have := lkn B hk
      subst this
      exact ⟨add_slack.trans ⟨fun _ => by simp, fun _ => trivial⟩, fun _ => add_u⟩
    · obtain ⟨k1, k2⟩ := lk x B ex hk
      have := r.slack x B (old x ex hx) k1
      exact ⟨(add_slack_ne ex).trans this.1, fun z => (add_u_ne ex).trans (this.2 z)⟩
  · rw [join_fams] at hf
    have pairs : ∀ (l' : List Nat), (∀ y ∈ l', y ≠ h.n) → (l'.Pairwise fun b b' => ρ.born b → ρ.born b' → (ρ.to b).1 = (ρ.to b').1 → ∀ n n', h.upTo ρ b n → h.upTo ρ b' n' → n ≤ n') →
        l'.Pairwise fun b b' => (ρ.add h.n (T, off) True u ext).born b → (ρ.add h.n (T, off) True u ext).born b' → ((ρ.add h.n (T, off) True u ext).to b).1 = ((ρ.add h.n (T, off) True u ext).to b').1 → ∀ n n', (h.join f l (.cells cs e (0, 0)) u).upTo (ρ.add h.n (T, off) True u ext) b n → (h.join f l (.cells cs e (0, 0)) u).upTo (ρ.add h.n (T, off) True u ext) b' n' → n ≤ n' := by
      intro l' hne hp
      refine List.Pairwise.imp_of_mem (fun {x y} hx hy hp b1 b2 hs n n' u1 u2 => ?_) hp
      have ex := hne x hx
      have ey := hne y hy
      rw [add_to_ne ex, add_to_ne ey] at hs
      exact hp (old x ex b1) (old y ey b2) hs n n' (upTo x n ex u1) (upTo y n' ey u2)
    by_cases eg : g = f
    · subst eg
      rw [if_pos rfl] at hf
      cases hf
      have hne : ∀ y ∈ l, y ≠ h.n := fun y hy e => by have := (hlT y hy).1; omega
      refine List.pairwise_append.2 ⟨pairs l hne ?_, List.pairwise_singleton _ _, fun x hx y hy => ?_⟩
      · cases hg : h.fams.get g with
        | none => rw [hg] at hsub; simp at hsub; subst hsub; exact List.Pairwise.nil
        | some l' => rw [hg] at hsub; exact (r.row g l' hg).sublist hsub
      · simp only [List.mem_singleton] at hy
        subst hy
        intro b1 b2 hs n n' u1 u2
        have ex := hne x hx
        rw [add_to, add_to_ne ex] at hs
        have := hend x hx (old x ex b1) hs n (upTo x n ex u1)
        obtain ⟨B, c, e', g', k1, k2, k3⟩ := u2
        rw [join_tr, if_pos rfl] at k1
        cases k1
        cases k2
        rw [add_to] at k3
        dsimp only at k3
        omega
    · rw [if_neg eg] at hf
      exact pairs l' (fun y hy e => by have := (r.mem g l' hf y hy).1; omega) (r.row g l' hf)
  · rw [join_fams] at hf
    rw [join_tr]
    by_cases eg : g = f
    · subst eg
      rw [if_pos rfl] at hf
      cases hf
      simp only [List.mem_append, List.mem_singleton] at hm
      rcases hm with hm | rfl
      · obtain ⟨m1, B, m2, m3⟩ := hlT x hm
        exact ⟨Nat.lt_succ_of_lt m1, B, by rw [if_neg (by omega)]; exact m2, m3⟩
      · exact ⟨Nat.lt_succ_self _, _, if_pos rfl, rfl⟩
    · rw [if_neg eg] at hf
      obtain ⟨m1, B, m2, m3⟩ := r.mem g l' hf x hm
      exact ⟨Nat.lt_succ_of_lt m1, B, by rw [if_neg (by omega)]; exact m2, m3⟩
end
end Go.Am
end
