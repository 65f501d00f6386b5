/- A part of the proof that the frame keeps its roots: lemmas on which it leans. -/
import Derived.Test.YtfchamaikodjpaaGreatH8
section
set_option linter.unusedVariables false
set_option linter.unusedSectionVars false
set_option linter.unusedSimpArgs false
namespace Go.Am
open Go.Ren (grow EvO Guar Rely)
def _root_.Go.Sem.aro {α : Type} (P : Program) : Sem α → AH → Option α
  | .pure a, _ => some a
  | .load m a k, h => match h.cell a, m with
    | some v, .plain => (k v).aro P h
    | _, _ => none
  | .shape r k, h => match h.look r with
    | some { obj := .cells l e _, .. } => (k (some (e, l.size))).aro P h
    | some _ => (k none).aro P h
    | none => none
  | .getObj r k, h => match h.look r with
    | some { obj := .cells _ _ _, .. } => none
    | some B => (k B.obj).aro P h
    | none => none
  | .choose q k, h => if q.forced then (k 0).aro P h else none
  | .program k, h => (k P).aro P h
  | _, _ => none
theorem aro_ar {P : Program} {α : Type} (s : Sem α) : ∀ {h : AH} {a : α}, s.aro P h = some a → s.ar P none h = some (a, h) := by
  induction s with
  | pure x => intro h a e; simp only [Sem.aro, Option.some.injEq] at e; subst e; rfl
  | load m ad k ih =>
    intro h a e
    rw [Sem.aro.eq_def] at e
    rw [Sem.ar.eq_def]
    dsimp only at e ⊢
    generalize h.cell ad = q at e ⊢
    cases q with
    | none => cases e
    | some v =>
      cases m with
      | plain => exact ih _ e
      | atomic => cases e
  | shape r k ih =>
    intro h a e
    simp only [Sem.aro] at e
    simp only [Sem.ar]
    generalize hq : h.look r = q at e ⊢
    cases q with
    | none => cases e
    | some B =>
      obtain ⟨o, f, ro, u⟩ := B
      cases o <;> exact ih _ e
  | getObj r k ih =>
    intro h a e
    simp only [Sem.aro] at e
    simp only [Sem.ar]
    generalize hq : h.look r = q at e ⊢
    cases q with
    | none => cases e
    | some B =>
      obtain ⟨o, f, ro, u⟩ := B
      cases o <;> first | (cases e; done) | exact ih _ e
  | choose q k ih =>
    intro h a e
    simp only [Sem.aro] at e
    simp only [Sem.ar]
    split at e
    · rename_i hq; rw [if_pos hq]; exact ih _ e
    · cases e
  | program k ih => intro h a e; exact ih _ e
  | _ => intro h a e; cases e
inductive Kind where
  | light | alloc | effect
  deriving DecidableEq
def kindOf (o : Oper) : Kind := match o.op with
  | .alloc _ | .buildSlice .. => .alloc
  | .move _ | .assign _ | .pick .. | .build .. | .load .. | .nilCheck _ | .binOp .. | .unOp .. | .convert .. | .makeInterface .. | .makeFunc .. | .slice .. | .fieldAddr .. | .field .. | .indexAddr .. | .index .. | .lookup .. | .extract .. => .light
  | .call { callee := .builtin .len, .. } | .call { callee := .builtin .min, .. } | .call { callee := .builtin .max, .. } => .light
  | _ => .effect
def over (ops : Array Oper) (i : Nat) (o : Oper) : Bool := match o.op with
  | .assign _ => (match o.dst with
    | some d => (ops.toList.take i).any fun p => p.op.operands.toList.any fun
      | .tmp t => t == d
      | _ => false
    | none => false)
  | _ => false
def kindAt (ops : Array Oper) (i : Nat) : Kind := match ops[i]? with
  | some o => cond (over ops i o) .effect (kindOf o)
  | none => .light
theorem kindAt_ne {ops : Array Oper} {i : Nat} {o : Oper} (ho : ops[i]? = some o) (hk : kindAt ops i ≠ .effect) : kindAt ops i = kindOf o := by
  unfold kindAt at hk ⊢
  rw [ho] at hk ⊢
  dsimp only at hk ⊢
  cases h : over ops i o with
  | true => rw [h] at hk; exact absurd rfl hk
  | false => rfl
theorem kindAt_alloc {ops : Array Oper} {i : Nat} {o : Oper} (ho : ops[i]? = some o) (hk : (∃ t, o.op = .alloc t) ∨ ∃ t n ps, o.op = .buildSlice t n ps) : kindAt ops i = .alloc := by
  unfold kindAt
  rw [ho]
  dsimp only
  rcases hk with ⟨t, e⟩ | ⟨t, n, ps, e⟩
  · unfold over kindOf; rw [e]; rfl
  · unfold over kindOf; rw [e]; rfl
def dstAt (ops : Array Oper) (i : Nat) : Option Tmp := (ops[i]?).bind (·.dst)
def wantedAt (ops : Array Oper) (tmps : Array Value) (i : Nat) : Bool := match ops[i]? with
  | some o => Region.wanted o (yielded ops tmps)
  | none => false
def ix (l : List (Nat × List Nat)) : List Nat := l.map (·.1)
def okDrawn (ops : Array Oper) : Bool :=
  backOk ops && (List.range ops.size).all fun i => match ops[i]? with
    | none => true
    | some o =>
      ((List.range ops.size).all fun j => (i == j || dstAt ops i == none || dstAt ops i != dstAt ops j) &&
        o.op.operands.toList.all fun
          | .tmp t => dstAt ops j != some t || dep ops ops.size i j || (kindAt ops j == .effect && dep ops ops.size j i)
          | _ => true) &&
      match o.guard with
      | none => true
      | some (j, _) => dep ops ops.size i j
def ordOk (ops : Array Oper) : List (Nat × List Nat) → Bool
  | [] => true
  | (i, c) :: l => decide (i < ops.size) && !(ix l).contains i && ((ix l).all fun j => !dep ops ops.size i j) &&
    (kindAt ops i != .effect || (ix l).all fun j => dep ops ops.size j i) &&
    (kindAt ops i == .light || (List.range ops.size).all fun j => (ix l).contains j || kindAt ops j == .effect || c.contains j ||
      (List.range ops.size).any fun e => kindAt ops e == .effect && !(ix l).contains e && dep ops ops.size e j) && ordOk ops l
def okPlan (ops : Array Oper) (l : List (Nat × List Nat)) : Bool := okDrawn ops && ((List.range ops.size).all fun i => (ix l).contains i) && ordOk ops l
def depT (T : List Nat) (n i j : Nat) : Bool := Nat.testBit (maskAt T n i) j
def okDrawnT (T : List Nat) (ops : Array Oper) : Bool :=
  backOk ops && (List.range ops.size).all fun i => match ops[i]? with
    | none => true
    | some o =>
      ((List.range ops.size).all fun j => (i == j || dstAt ops i == none || dstAt ops i != dstAt ops j) &&
        o.op.operands.toList.all fun
          | .tmp t => dstAt ops j != some t || depT T ops.size i j || (kindAt ops j == .effect && depT T ops.size j i)
          | _ => true) &&
      match o.guard with
      | none => true
      | some (j, _) => depT T ops.size i j
def ordOkT (T : List Nat) (ops : Array Oper) : List (Nat × List Nat) → Bool
  | [] => true
  | (i, c) :: l => decide (i < ops.size) && !(ix l).contains i && ((ix l).all fun j => !depT T ops.size i j) &&
    (kindAt ops i != .effect || (ix l).all fun j => depT T ops.size j i) &&
    (kindAt ops i == .light || (List.range ops.size).all fun j => (ix l).contains j || kindAt ops j == .effect || c.contains j ||
      (List.range ops.size).any fun e => kindAt ops e == .effect && !(ix l).contains e && depT T ops.size e j) && ordOkT T ops l
def okPlanT (T : List Nat) (ops : Array Oper) (l : List (Nat × List Nat)) : Bool := okDrawnT T ops && ((List.range ops.size).all fun i => (ix l).contains i) && ordOkT T ops l
def okPlanF (ops : Array Oper) (l : List (Nat × List Nat)) : Bool := okPlanT (depMask ops ops.size) ops l
theorem ordOkT_eq (ops : Array Oper) : ∀ l, ordOkT (depMask ops ops.size) ops l = ordOk ops l
  | [] => rfl
  | (i, c) :: l => by
    simp only [ordOkT, ordOk, ordOkT_eq ops l]
    rfl
theorem okPlanF_eq (ops : Array Oper) (l : List (Nat × List Nat)) : okPlanF ops l = okPlan ops l := by
  unfold okPlanF okPlanT okPlan
  rw [ordOkT_eq]
  rfl
section
variable {P : Program} {ρ σ : Env} {ops : Array Oper}
theorem mem_ix_contains {l : List (Nat × List Nat)} {i : Nat} : (ix l).contains i = true ↔ i ∈ ix l := by simp
theorem at_some {i : Nat} (h : i < ops.size) : ops[i]? = some ops[i] := by simp [h]
theorem okDrawn_back (h : okDrawn ops = true) : backOk ops = true := by unfold okDrawn at h; simp only [Bool.and_eq_true] at h; exact h.1
theorem okDrawn_at (h : okDrawn ops = true) {i : Nat} {o : Oper} (ho : ops[i]? = some o) :
    (∀ j, j < ops.size → (i = j ∨ dstAt ops i = none ∨ dstAt ops i ≠ dstAt ops j) ∧ ∀ t, .tmp t ∈ o.op.operands → dstAt ops j = some t → dep ops ops.size i j = true ∨ (kindAt ops j = .effect ∧ dep ops ops.size j i = true)) ∧ ∀ j b, o.guard = some (j, b) → dep ops ops.size i j = true := by
  have hi : i < ops.size := (Array.getElem?_eq_some_iff.1 ho).1
  unfold okDrawn at h
  simp only [Bool.and_eq_true] at h
  have h2 := List.all_eq_true.1 h.2 i (by simpa using hi)
  rw [ho] at h2
  dsimp only at h2
  simp only [Bool.and_eq_true] at h2
  obtain ⟨h2, h3⟩ := h2
  refine ⟨fun j hj => ?_, fun j b hg => ?_⟩
  · have := List.all_eq_true.1 h2 j (by simpa using hj)
    simp only [Bool.and_eq_true, Bool.or_eq_true, beq_iff_eq, bne_iff_ne, ne_eq] at this
    obtain ⟨k1, k2⟩ := this
    refine ⟨?_, fun t ht hd => ?_⟩
    · rcases k1 with (k1 | k1) | k1
      · exact .inl k1
      · exact .inr (.inl k1)
      · exact .inr (.inr k1)
    · have := List.all_eq_true.1 k2 (.tmp t) (by simpa using ht)
      simp only [Bool.or_eq_true, bne_iff_ne, ne_eq, Bool.and_eq_true, beq_iff_eq] at this
      rcases this with (x | x) | x
      · exact absurd hd x
      · exact .inl x
      · exact .inr x
  · rw [hg] at h3
    exact h3
theorem dst_uniq (h : okDrawn ops = true) {i j : Nat} {d : Tmp} (hi : i < ops.size) (hj : j < ops.size) (h1 : dstAt ops i = some d) (h2 : dstAt ops j = some d) : i = j := by
  rcases ((okDrawn_at h (at_some hi)).1 j hj).1 with k | k | k
  · exact k
  · rw [h1] at k; cases k
  · rw [h1, h2] at k; exact absurd rfl k
theorem edge_lt {i j : Nat} (h : okDrawn ops = true) (hi : i < ops.size) (k : dep ops ops.size i j = true) : j < i := by
  have ha := dep_anc _ _ _ k
  have hb := okDrawn_back h
  clear k
  induction ha with
  | one e => exact back_lt hb hi e
  | more e t ih => exact Nat.lt_trans (ih (Nat.lt_trans (back_lt hb hi e) hi)) (back_lt hb hi e)
theorem ord_cons {i : Nat} {c : List Nat} {l : List (Nat × List Nat)} (h : ordOk ops ((i, c) :: l) = true) :
    i < ops.size ∧ i ∉ ix l ∧ (∀ j ∈ ix l, dep ops ops.size i j = false) ∧ (kindAt ops i = .effect → ∀ j ∈ ix l, dep ops ops.size j i = true) ∧
    (kindAt ops i ≠ .light → ∀ j, j < ops.size → j ∉ ix l → kindAt ops j ≠ .effect → j ∈ c ∨ ∃ e, e < ops.size ∧ kindAt ops e = .effect ∧ e ∉ ix l ∧ dep ops ops.size e j = true) ∧ ordOk ops l = true := by
  unfold ordOk at h
  simp only [Bool.and_eq_true, decide_eq_true_eq] at h
  obtain ⟨⟨⟨⟨⟨h1, h2⟩, h3⟩, h4⟩, h5⟩, h6⟩ := h
  refine ⟨h1, fun hm => ?_, fun j hj => ?_, fun hk j hj => ?_, fun hk j hj hn he => ?_, h6⟩
  · rw [mem_ix_contains.2 hm] at h2; cases h2
  · have := List.all_eq_true.1 h3 j hj
    simpa using this
  · simp only [Bool.or_eq_true, bne_iff_ne, ne_eq] at h4
    exact List.all_eq_true.1 (h4.resolve_left fun x => x hk) j hj
  · simp only [Bool.or_eq_true, beq_iff_eq] at h5
    have := List.all_eq_true.1 (h5.resolve_left hk) j (by simpa using hj)
    simp only [Bool.or_eq_true, beq_iff_eq] at this
    rcases this with ((x | x) | x) | x
    · exact absurd (mem_ix_contains.1 x) hn
    · exact absurd x he
    · exact .inl (by simpa using x)
    · obtain ⟨e, e1, e2⟩ := List.any_eq_true.1 x
      simp only [Bool.and_eq_true, beq_iff_eq, Bool.not_eq_true'] at e2
      obtain ⟨⟨e2, e3⟩, e4⟩ := e2
      refine .inr ⟨e, by simpa using e1, e2, fun hm => ?_, e4⟩
      rw [mem_ix_contains.2 hm] at e3
      cases e3
theorem ord_lt : ∀ {l : List (Nat × List Nat)}, ordOk ops l = true → ∀ i ∈ ix l, i < ops.size
  | [], _, i, h => by cases h
  | (j, c) :: l, h, i, hi => by
    obtain ⟨o1, _, _, _, _, o6⟩ := ord_cons h
    rcases List.mem_cons.1 hi with rfl | hi
    · exact o1
    · exact ord_lt o6 i hi
def lightVal (P : Program) (h : AH) (tmps : Array Value) (o : Oper) : Option Value :=
  if operOk o && opOk P h (aeval tmps) o then match (execOp (aeval tmps) o).aro P h with
    | some (.value v) => some v
    | _ => none
  else none
def zeroOf (P : Program) (t : TypeId) : Option Value := (P.info? t).bind (·.zero)
def builtOf (P : Program) (e : Operand → Value) (t : TypeId) (len : Nat) (ps : Array (Nat × Operand)) : Option (TypeId × Array Value) :=
  match P.underlying t with
  | some (.slice elem) => match P.info? elem with
    | some i => if len * i.size > 2 ^ 24 then none else match i.zero with
      | some z => match Instr.fill (fun j => some (j * i.size, i.size)) ((Array.range (len * i.size)).map fun j => z.cells[j % z.cells.size]!) (ps.map fun p => (p.1, e p.2)).toList with
        | some cells => some (elem, cells)
        | none => none
      | none => none
    | none => none
  | _ => none
theorem builtOf_congr {e e' : Operand → Value} {t : TypeId} {len : Nat} {ps : Array (Nat × Operand)} (hv : ∀ x ∈ ps, e x.2 = e' x.2) : builtOf P e t len ps = builtOf P e' t len ps := by
  have : (ps.map fun p => (p.1, e p.2)) = ps.map fun p => (p.1, e' p.2) := Array.map_congr_left fun x hx => by rw [hv _ hx]
  unfold builtOf
  rw [this]
inductive EqAt (P : Program) (h : AH) (ops : Array Oper) (tmps : Array Value) (i : Nat) : Prop
  | unwanted {o : Oper} {d : Tmp} (ho : ops[i]? = some o) (hw : Region.wanted o (yielded ops tmps) = false) (hd : o.dst = some d) (hv : tmps[d]? = some undef)
  | light {o : Oper} {d : Tmp} {v : Value} (ho : ops[i]? = some o) (hw : Region.wanted o (yielded ops tmps) = true) (hk : kindOf o = .light) (hd : o.dst = some d) (hv : tmps[d]? = some v) (hl : lightVal P h tmps o = some v)
  | alloc {o : Oper} {d : Tmp} {t : TypeId} {b : Nat} {z : Value} (ho : ops[i]? = some o) (hw : Region.wanted o (yielded ops tmps) = true) (hd : o.dst = some d) (hop : o.op = .alloc t) (hz : zeroOf P t = some z)
      (hv : tmps[d]? = some (.pointer (some ⟨b, 0, none⟩))) (hl : h.look b = some ⟨.cells z.cells t (0, 0), none, false, 0⟩)
  | built {o : Oper} {d : Tmp} {t : TypeId} {n : Nat} {ps : Array (Nat × Operand)} {b : Nat} {elem : TypeId} {cells : Array Value} (ho : ops[i]? = some o) (hw : Region.wanted o (yielded ops tmps) = true) (hd : o.dst = some d) (hop : o.op = .buildSlice t n ps) (hk : operOk o = true)
      (hb : builtOf P (aeval tmps) t n ps = some (elem, cells)) (hv : tmps[d]? = some (.slice (some ⟨b, 0, none⟩) n n)) (hl : h.look b = some ⟨.cells cells elem (0, 0), none, false, 0⟩)
theorem aeval_set {tmps : Array Value} {d : Tmp} {v : Value} {x : Operand} (h : x ≠ .tmp d) : aeval (tmps.setIfInBounds d v) x = aeval tmps x := by
  cases x with
  | tmp t =>
    show (tmps.setIfInBounds d v).getD t undef = tmps.getD t undef
    rw [Array.getD_eq_getD_getElem?, Array.getD_eq_getD_getElem?, Array.getElem?_setIfInBounds, if_neg (fun e => h (by rw [e]))]
  | _ => rfl
theorem opOk_congr {h : AH} {e e' : Operand → Value} {o : Oper} (hv : ∀ x ∈ o.op.operands, e x = e' x) : opOk P h e o = opOk P h e' o := by
  unfold opOk
  cases hop : o.op with
  | nilCheck x => rw [hop] at hv; dsimp only; rw [hv x (by simp [Op.operands])]
  | binOp op t x y s => rw [hop] at hv; dsimp only; rw [hv x (by simp [Op.operands]), hv y (by simp [Op.operands])]
  | convert s d x => rw [hop] at hv; dsimp only; rw [hv x (by simp [Op.operands])]
  | lookup t x k c => rw [hop] at hv; dsimp only; rw [hv k (by simp [Op.operands])]
  | mapUpdate t x k v => rw [hop] at hv; dsimp only; rw [hv k (by simp [Op.operands])]
  | insert t x k v => rw [hop] at hv; dsimp only; rw [hv k (by simp [Op.operands])]
  | mapEntry t x k => rw [hop] at hv; dsimp only; rw [hv k (by simp [Op.operands])]
  | next it s => rw [hop] at hv; dsimp only; rw [hv it (by simp [Op.operands])]
  | entry it => rw [hop] at hv; dsimp only; rw [hv it (by simp [Op.operands])]
  | slice t x lo hi mx =>
    rw [hop] at hv
    dsimp only
    cases lo <;> cases hi <;> cases mx <;> simp_all [Op.operands]
  | call c =>
    rw [hop] at hv
    dsimp only
    cases hc : c.callee with
    | value f => dsimp only; rw [hv f (by simp [Op.operands, Call.operands, hc])]
    | builtin b =>
      cases b with
      | cap =>
        have hv' : ∀ x ∈ c.args.toList, e x = e' x := fun x hx => hv x (by simp only [Op.operands, Call.operands]; exact Array.mem_append.2 (.inr (Array.mem_toList_iff.1 hx)))
        dsimp only
        generalize c.args.toList = l at hv'
        match l, hv' with
        | [], _ => rfl
        | [x], hv' => dsimp only; rw [hv' x (by simp)]
        | _ :: _ :: _, _ => rfl
      | clear =>
        have hv' : ∀ x ∈ c.args.toList, e x = e' x := fun x hx => hv x (by simp only [Op.operands, Call.operands]; exact Array.mem_append.2 (.inr (Array.mem_toList_iff.1 hx)))
        dsimp only
        generalize c.args.toList = l at hv'
        match l, hv' with
        | [], _ => rfl
        | [x], hv' => dsimp only; rw [hv' x (by simp)]
        | _ :: _ :: _, _ => rfl
      | _ => rfl
    | _ => rfl
  | _ => rfl
theorem lightVal_congr {h : AH} {t t' : Array Value} {o : Oper} (hk : kindOf o = .light) (hv : ∀ x ∈ o.op.operands, aeval t x = aeval t' x) : lightVal P h t o = lightVal P h t' o := by
  have hs : ∀ cs b, o.op ≠ .select cs b := fun cs b e => by unfold kindOf at hk; rw [e] at hk; cases hk
  unfold lightVal
  rw [opOk_congr hv, execOp_congr o hs hv]
theorem EqAt.set {h : AH} {tmps : Array Value} {i j : Nat} {d : Tmp} {v : Value} (hok : okDrawn ops = true) (k : EqAt P h ops tmps i) (hi : i < ops.size) (hj : j < ops.size) (hd : dstAt ops j = some d) (hij : dep ops ops.size i j = false) (hne : i ≠ j) (hk : kindAt ops j ≠ .effect ∨ dep ops ops.size j i = false) : EqAt P h ops (tmps.setIfInBounds d v) i := by
  have hops : ∀ o, ops[i]? = some o → ∀ x ∈ o.op.operands, aeval (tmps.setIfInBounds d v) x = aeval tmps x := fun o ho x hx => aeval_set fun e => by
    subst e
    rcases ((okDrawn_at hok ho).1 j hj).2 d hx hd with this | ⟨k1, k2⟩
    · rw [hij] at this
      cases this
    · rcases hk with hk | hk
      · exact hk k1
      · rw [hk] at k2; cases k2
  have hdst : ∀ o t, ops[i]? = some o → o.dst = some t → (tmps.setIfInBounds d v)[t]? = tmps[t]? := fun o t ho ht => by
    rw [Array.getElem?_setIfInBounds, if_neg]
    intro e
    subst e
    exact hne (dst_uniq hok hi hj (by unfold dstAt; rw [ho]; exact ht) hd)
  have hw : ∀ o, ops[i]? = some o → Region.wanted o (yielded ops (tmps.setIfInBounds d v)) = Region.wanted o (yielded ops tmps) := fun o ho => by
    unfold Region.wanted
    cases hg : o.guard with
    | none => rfl
    | some p =>
      obtain ⟨g, b⟩ := p
      dsimp only
      have hig := (okDrawn_at hok ho).2 g b hg
      have : yielded ops (tmps.setIfInBounds d v) g = yielded ops tmps g := by
        unfold yielded
        cases hgd : (ops[g]?).bind (·.dst) with
        | none => rfl
        | some t =>
          simp only [Option.bind_some]
          rw [Array.getElem?_setIfInBounds, if_neg]
          intro e
          subst e
          have hgn : g < ops.size := Nat.lt_trans (edge_lt hok hi hig) hi
          have := dst_uniq hok hgn hj hgd hd
          subst this
          rw [hij] at hig
          cases hig
      rw [this]
  cases k with
  | @unwanted o t ho hw' ht hv => exact .unwanted ho (by rw [hw o ho]; exact hw') ht (by rw [hdst o t ho ht]; exact hv)
  | @light o t u ho hw' hk ht hv hl => exact .light ho (by rw [hw o ho]; exact hw') hk ht (by rw [hdst o t ho ht]; exact hv) (by rw [lightVal_congr hk (hops o ho)]; exact hl)
  | @alloc o t ty b z ho hw' ht hop hz hv hl => exact .alloc ho (by rw [hw o ho]; exact hw') ht hop hz (by rw [hdst o t ho ht]; exact hv) hl
  | @built o t ty n ps b elem cells ho hw' ht hop hk hb hv hl =>
    refine .built ho (by rw [hw o ho]; exact hw') ht hop hk ?_ (by rw [hdst o t ho ht]; exact hv) hl
    rw [builtOf_congr fun x hx => hops o ho x.2 ?_]
    · exact hb
    · rw [hop]
      simp only [Op.operands, List.mem_toArray, List.mem_map]
      exact ⟨x, by simpa using hx, rfl⟩
end
end Go.Am
end
