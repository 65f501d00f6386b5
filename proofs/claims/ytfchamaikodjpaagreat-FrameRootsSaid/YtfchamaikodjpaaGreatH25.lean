/- A part of the proof that the frame keeps its roots: lemmas on which it leans. -/
import Derived.Test.YtfchamaikodjpaaGreatH24
section
set_option linter.unusedVariables false
set_option linter.unusedSectionVars false
set_option linter.unusedSimpArgs false
namespace Go.Am
section
variable {P : Program} {T : Tr TI} {tmps : List Value} {h h' : AH} {o : Oper} {v : Value} {x : Operand}
theorem cellF_some {a : Addr} (e : cellF h a = some v) : h.cell a = some v := by
  unfold cellF at e
  split at e
  · rename_i blk off c e' f' fam ro u hl
    unfold AH.cell
    dsimp only at hl
    dsimp only
    rw [hl]
    dsimp only
    rw [nth_eq] at e
    simpa using e
  · cases e
theorem takeL_some : ∀ (n : Nat) (l : List Value) {m : List Value}, takeL n l = some m → m.length = n ∧ ∀ i, i < n → l[i]? = m[i]?
  | 0, l, m, e => by cases e; exact ⟨rfl, fun i hi => absurd hi (Nat.not_lt_zero _)⟩
  | n + 1, l, m, e => by
    cases l with
    | nil => cases e
    | cons x l =>
      replace e : (match takeL n l with
        | some m => some (x :: m)
        | none => none) = some m := e
      cases hm : takeL n l with
      | none => rw [hm] at e; cases e
      | some m' =>
        rw [hm] at e
        cases e
        obtain ⟨h1, h2⟩ := takeL_some n l hm
        refine ⟨by simp [h1], fun i hi => ?_⟩
        cases i with
        | zero => rfl
        | succ i => simpa using h2 i (by omega)
theorem dropL_eq : ∀ (n : Nat) (l : List Value), dropL n l = l.drop n
  | 0, l => rfl
  | n + 1, l => by
    show dropL n l.tail = _
    rw [dropL_eq n]
    cases l <;> simp
theorem ro_loadCells {a : Addr} (hs : a.spot = none) {c : Array Value} {e : TypeId} {f : Nat × Nat} {fam : Option Nat} {ro : Bool} {u : Nat} (hl : h.look a.block = some ⟨.cells c e f, fam, ro, u⟩) :
    ∀ (n i : Nat) (acc : Array Value) (m : List Value), m.length = n → (∀ j, j < n → c[a.off + i + j]? = m[j]?) → (loadCellsFrom a i n acc).aro P h = some ⟨acc.toList ++ m⟩
  | 0, i, acc, m, h1, h2 => by
    have : m = [] := List.eq_nil_of_length_eq_zero h1
    subst this
    show some acc = _
    simp
  | n + 1, i, acc, m, h1, h2 => by
    cases m with
    | nil => simp at h1
    | cons x m =>
      have hx : c[a.off + i]? = some x := by have := h2 0 (by omega); simpa using this
      have hc : h.cell (a.add i) = some x := by
        unfold AH.cell Addr.add
        obtain ⟨blk, off, spot⟩ := a
        dsimp only at hs hl hx
        subst hs
        by_cases hi : i = 0
        · subst hi
          simp only [if_true]
          rw [hl]
          simpa using hx
        · rw [if_neg hi]
          dsimp only
          rw [hl]
          exact hx
      have hload : (load (a.add i)).aro P h = some x := by
        unfold load
        rw [Sem.aro.eq_def]
        dsimp only
        rw [hc]
        rfl
      show ((load (a.add i)) >>= fun v => loadCellsFrom a (i + 1) n (acc.push v)).aro P h = _
      rw [ro_bnd hload, ro_loadCells hs hl n (i + 1) (acc.push x) m (by simpa using h1) fun j hj => ?_]
      · simp
      · have := h2 (j + 1) (by omega)
        have e : a.off + (i + 1) + j = a.off + i + (j + 1) := by omega
        rw [e, this]
        simp
theorem aggF_some {a : Addr} {n : Nat} (e : aggF h a n = some v) : (loadCells a n >>= fun c => (Pure.pure (Value.agg c) : Sem Value)).aro P h = some v := by
  unfold aggF at e
  split at e
  · rename_i blk off c e' f' fam ro u hl
    split at e
    · rename_i m hm
      cases e
      obtain ⟨h1, h2⟩ := takeL_some n _ hm
      have := ro_loadCells (P := P) (h := h) (a := ⟨blk, off, none⟩) rfl hl n 0 #[] m h1 fun j hj => by
        have := h2 j hj
        rw [dropL_eq, List.getElem?_drop] at this
        simpa using this
      rw [ro_bnd (show (loadCells ⟨blk, off, none⟩ n).aro P h = _ from this)]
      simp [ro_pure']
    · cases e
  · cases e
theorem setK_eq {β : Type} (v : Value) : ∀ (l : List Value) (n : Nat) (k : List Value → β), setK v l n k = k (l.set n v)
  | [], n, k => by simp [setK]
  | x :: l, 0, k => rfl
  | x :: l, n + 1, k => by
    show setK v l n (fun l' => k (x :: l')) = _
    rw [setK_eq v l n]
    rfl
def spl : List Value → Nat → List Value → List Value
  | [], _, cells => cells
  | v :: vs, off, cells => spl vs (off + 1) (cells.set off v)
theorem splK_eq {β : Type} : ∀ (vs : List Value) (off : Nat) (cells : List Value) (k : List Value → β), splK vs off cells k = k (spl vs off cells)
  | [], off, cells, k => rfl
  | v :: vs, off, cells, k => by
    show setK v cells off (fun cells => splK vs (off + 1) cells k) = _
    rw [setK_eq, splK_eq vs]
    rfl
theorem spl_foldl : ∀ (vs : List Value) (off s : Nat) (cells : Array Value), (vs.zipIdx s).foldl (fun cs p => cs.setIfInBounds (off + p.2) p.1) cells = ⟨spl vs (off + s) cells.toList⟩
  | [], off, s, cells => rfl
  | v :: vs, off, s, cells => by
    rw [List.zipIdx_cons, List.foldl_cons, spl_foldl vs off (s + 1)]
    have e : off + (s + 1) = off + s + 1 := by omega
    rw [e]
    congr 1
    show spl vs (off + s + 1) _ = spl vs (off + s + 1) _
    simp
theorem cellsL_eq (v : Value) : cellsL v = v.cells.toList := by cases v <;> rfl
theorem fillK_some {pl : List (Nat × Nat)} : ∀ (ps : List (Nat × Operand)) {cells : List Value}, fillK pl tmps ps cells = some v →
    (∀ p ∈ ps, okX p.2 = true) ∧ ∃ c, Instr.fill (fun i => pl[i]?) ⟨cells⟩ (ps.map fun p => (p.1, aeval ⟨tmps⟩ p.2)) = some ⟨c⟩ ∧ Value.agg ⟨c⟩ = v
  | [], cells, e => by cases e; exact ⟨fun p hp => (by cases hp), cells, rfl, rfl⟩
  | (i, x) :: ps, cells, e => by
    replace e : (match evF tmps x with
      | some v => match nth pl i with
        | some q => bif Nat.beq (cellsL v).length q.2 && Nat.ble (q.1 + q.2) cells.length then splK (cellsL v) q.1 cells (fillK pl tmps ps) else none
        | none => none
      | none => none) = some v := e
    split at e
    · rename_i u hu
      obtain ⟨e1, e2⟩ := evF_some hu
      split at e
      · rename_i q hq
        cases hb : (Nat.beq (cellsL u).length q.2 && Nat.ble (q.1 + q.2) cells.length) with
        | false => rw [hb] at e; cases e
        | true =>
          rw [hb] at e
          dsimp only [cond_true] at e
          rw [splK_eq] at e
          obtain ⟨h1, c, h2, h3⟩ := fillK_some ps e
          rw [Bool.and_eq_true] at hb
          have b1 := Nat.eq_of_beq_eq_true hb.1
          have b2 := Nat.le_of_ble_eq_true hb.2
          rw [cellsL_eq] at b1
          refine ⟨fun p hp => ?_, c, ?_, h3⟩
          · rcases List.mem_cons.1 hp with rfl | hp
            · exact e2
            · exact h1 p hp
          · rw [List.map_cons]
            unfold Instr.fill
            rw [nth_eq] at hq
            dsimp only
            rw [hq]
            dsimp only
            rw [e1]
            have c1 : u.cells.size = q.2 := by simpa using b1
            have c2 : ¬ (u.cells.size ≠ q.2 || decide (q.1 + u.cells.size > (Array.mk cells).size)) = true := by
              simp [c1]
              omega
            rw [if_neg c2]
            have hf : u.cells.zipIdx.foldl (fun cs (c, j) => cs.setIfInBounds (q.1 + j) c) (Array.mk cells) = ⟨spl (cellsL u) q.1 cells⟩ := by
              rw [← Array.foldl_toList, Array.toList_zipIdx]
              have := spl_foldl u.cells.toList q.1 0 ⟨cells⟩
              rw [cellsL_eq]
              exact this
            rw [hf]
            exact h2
      · cases e
    · cases e
theorem ro_places {fields : Array Field} {pls : List (Nat × Nat)} (h1 : fields.toList.map (fun f => (f.offset, P.cellsOf f.type)) = pls) (h2 : ∀ f ∈ fields.toList, ∃ d, P.info? f.type = some d) :
    (fields.mapM fun f => do pure (f.offset, ← sizeOf f.type) : Sem (Array (Nat × Nat))).aro P h = some pls.toArray := by
  have hm : ∀ (fs : List Field), (∀ f ∈ fs, ∃ d, P.info? f.type = some d) → (fs.mapM fun f => do pure (f.offset, ← sizeOf f.type) : Sem (List (Nat × Nat))).aro P h = some (fs.map fun f => (f.offset, P.cellsOf f.type)) := by
    intro fs
    induction fs with
    | nil => intro _; rfl
    | cons f fs ih =>
      intro hf
      obtain ⟨d, hd⟩ := hf f List.mem_cons_self
      have hs : (do pure (f.offset, ← sizeOf f.type) : Sem (Nat × Nat)).aro P h = some (f.offset, P.cellsOf f.type) := by
        show (sizeOf f.type >>= fun n => (Pure.pure (f.offset, n) : Sem (Nat × Nat))).aro P h = _
        rw [ro_bnd (ro_size hd)]
        unfold Program.cellsOf
        rw [hd]
        rfl
      rw [List.mapM_cons, ro_bnd hs, ro_bnd (ih fun g hg => hf g (List.mem_cons_of_mem _ hg))]
      rfl
  rw [Array.mapM_eq_mapM_toList]
  show ((fields.toList.mapM _) >>= fun a => (Pure.pure a.toArray : Sem (Array (Nat × Nat)))).aro P h = _
  rw [ro_bnd (hm _ h2), h1]
  rfl
theorem fast_sound (K : TabOk P T) (e : fast T tmps h o.op = some v) : (operOk o && opOk P h (aeval ⟨tmps⟩) o) = true ∧ (execOp (aeval ⟨tmps⟩) o).aro P h = some (.value v) := by
  have one : ∀ {x : Operand} {u : Value}, evF tmps x = some u → aeval ⟨tmps⟩ x = u ∧ okX x = true := evF_some
  obtain ⟨dst, op, type, pos, after, guard⟩ := o
  dsimp only at e
  unfold fast at e
  split at e
  · rename_i x
    unfold fMove at e
    split at e
    · rename_i u hu
      cases e
      obtain ⟨e1, e2⟩ := one hu
      refine rexec_of (s := Pure.pure v) (fun y hy => by simp [Op.operands] at hy; rw [hy]; exact e2) rfl ?_ rfl
      unfold execOp
      dsimp only
      rw [e1]
      rfl
    · cases e
  · rename_i x
    unfold fMove at e
    split at e
    · rename_i u hu
      cases e
      obtain ⟨e1, e2⟩ := one hu
      refine rexec_of (s := Pure.pure v) (fun y hy => by simp [Op.operands] at hy; rw [hy]; exact e2) rfl ?_ rfl
      unfold execOp
      dsimp only
      rw [e1]
      rfl
    · cases e
  · rename_i s x f
    unfold fField at e
    split at e
    · rename_i a hx
      obtain ⟨e1, e2⟩ := one hx
      split at e
      · rename_i sz fields z pls hs
        split at e
        · rename_i fd hfd
          split at e
          · rename_i sz' u' z' pls' hf
            cases hb : Nat.beq sz' 0 with
            | true => rw [hb] at e; cases e
            | false =>
              rw [hb] at e
              cases e
              have hun := (K.get _ _ hs).1
              obtain ⟨d, hd1, hd2⟩ := (K.get _ _ hf).2.1
              rw [nth_eq] at hfd
              have hfd' : fields[f]? = some fd := by simpa using hfd
              have hsz : sz' ≠ 0 := fun e0 => by rw [e0] at hb; cases hb
              refine rexec_of (s := Instr.fieldAt s (.pointer (some a)) f) (fun y hy => by simp [Op.operands] at hy; rw [hy]; exact e2) ?_ ?_ ?_
              · show fieldOk P s f = true
                unfold fieldOk
                rw [hun]
                dsimp only
                rw [hfd']
                dsimp only
                rw [hd1]
                simp [hd2, hsz]
              · unfold execOp
                dsimp only
                rw [e1]
              · unfold Instr.fieldAt
                rw [ro_bnd (ro_under hun)]
                dsimp only
                rw [hfd']
                dsimp only
                rw [ro_bnd (show (Instr.sureAddr (.pointer (some a))).aro P h = some a from rfl)]
                have : (fieldPlace a fd).aro P h = some (a.add fd.offset) := by
                  unfold fieldPlace
                  rw [ro_bnd (ro_size hd1), hd2, if_neg hsz]
                  rfl
                rw [ro_bnd this]
                rfl
          · cases e
        · cases e
      · cases e
    · cases e
  · rename_i t x
    unfold fLoad at e
    split at e
    · rename_i a hx
      obtain ⟨e1, e2⟩ := one hx
      split at e
      · rename_i sz d z pls ht
        have hun := (K.get _ _ ht).1
        obtain ⟨inf, hd1, hd2⟩ := (K.get _ _ ht).2.1
        refine rexec_of (s := Instr.loadAt t (.pointer (some a))) (fun y hy => by simp [Op.operands] at hy; rw [hy]; exact e2) rfl ?_ ?_
        · unfold execOp
          dsimp only
          rw [e1]
        · unfold Instr.loadAt
          rw [ro_bnd (show (Instr.sureAddr (.pointer (some a))).aro P h = some a from rfl)]
          unfold loadVar
          have hagg : (isAgg t).aro P h = some (isAggT d) := by
            unfold isAgg
            rw [ro_bnd (ro_under hun)]
            dsimp only
            cases d <;> rfl
          rw [ro_bnd hagg]
          cases hb : isAggT d with
          | true =>
            rw [hb] at e
            dsimp only [cond_true] at e
            split at e
            · rename_i u hu
              cases e
              simp only [if_true]
              rw [ro_bnd (ro_size hd1), hd2]
              exact aggF_some hu
            · cases e
          | false =>
            rw [hb] at e
            dsimp only [cond_false] at e
            split at e
            · rename_i u hu
              cases e
              simp only [Bool.false_eq_true, if_false]
              unfold load
              rw [Sem.aro.eq_def]
              dsimp only
              rw [cellF_some hu]
              rfl
            · cases e
      · cases e
    · cases e
  · rename_i bop t x y s
    unfold fBin at e
    split at e
    · rename_i k a k' b hx hy
      obtain ⟨e1, e2⟩ := one hx
      obtain ⟨e3, e4⟩ := one hy
      split at e
      · rename_i hk
        subst hk
        split at e
        · rename_i u hu
          cases e
          refine rexec_of (s := (eqGuard bop t x y (.int k a) (.int k b)) >>= fun _ => binOp bop t (.int k a) (.int k b)) (fun z hz => by simp [Op.operands] at hz; rcases hz with hz | hz <;> (rw [hz]; assumption)) ?_ ?_ ?_
          · show (binOk bop (aeval ⟨tmps⟩ x) (aeval ⟨tmps⟩ y) || nilOk bop (aeval ⟨tmps⟩ x) (aeval ⟨tmps⟩ y)) = true
            rw [e1, e3]
            cases bop <;> first | rfl | (cases hu; done)
          · unfold execOp
            dsimp only
            rw [e1, e3]
          · have hg : (eqGuard bop t x y (.int k a) (.int k b)).aro P h = some () := by
              unfold eqGuard
              cases bop <;> rfl
            rw [ro_bnd hg]
            unfold intF at hu
            cases bop <;> first | (cases hu; done) | skip
            all_goals
              cases hu
              simp only [binOp, ne_eq, not_true_eq_false, if_false]
              first | (simp [Op.intArith, Op.intCmp, ro_pure']; done) | (simp [Op.intArith, Op.intCmp, ro_pure']; by_cases hab : a = b <;> simp [hab])
        · cases e
      · cases e
    · cases e
  · rename_i t x
    unfold fNot at e
    split at e
    · rename_i b hx
      cases e
      obtain ⟨e1, e2⟩ := one hx
      refine rexec_of (s := Op.unary .not (.bool b)) (fun y hy => by simp [Op.operands] at hy; rw [hy]; exact e2) rfl ?_ rfl
      unfold execOp
      dsimp only
      rw [e1]
    · cases e
  · rename_i x i
    unfold fExtract at e
    split at e
    · rename_i vs hx
      obtain ⟨e1, e2⟩ := one hx
      split at e
      · rename_i u hu
        cases e
        rw [nth_eq] at hu
        have hu' : vs[i]? = some v := by simpa using hu
        refine rexec_of (s := Instr.extract (.tuple vs) i) (fun y hy => by simp [Op.operands] at hy; rw [hy]; exact e2) rfl ?_ ?_
        · unfold execOp
          dsimp only
          rw [e1]
        · unfold Instr.extract
          dsimp only
          rw [hu']
          rfl
      · cases e
    · cases e
  · rename_i c a b
    unfold fPick at e
    split at e
    · rename_i t hc
      split at e
      · rename_i u u' ha hb
        cases e
        obtain ⟨e1, e2⟩ := one hc
        obtain ⟨e3, e4⟩ := one ha
        obtain ⟨e5, e6⟩ := one hb
        refine rexec_of (s := Pure.pure (bif t then u else u')) (fun y hy => by simp [Op.operands] at hy; rcases hy with hy | hy | hy <;> (rw [hy]; assumption)) rfl ?_ rfl
        unfold execOp
        dsimp only
        rw [e1, e3, e5]
        cases t <;> rfl
      · cases e
    · cases e
  · rename_i t x i
    unfold fIndex at e
    split at e
    · rename_i a len cap k n hx hi
      obtain ⟨e1, e2⟩ := one hx
      obtain ⟨e3, e4⟩ := one hi
      split at e
      · rename_i sz el z pls ht
        split at e
        · rename_i sz' u' z' pls' hel
          split at e
          · rename_i hb
            cases e
            have hun := (K.get _ _ ht).1
            obtain ⟨inf, hd1, hd2⟩ := (K.get _ _ hel).2.1
            dsimp only at hd2
            refine rexec_of (s := Instr.indexAt t (.slice (some a) len cap) (.int k n)) (fun y hy => by simp [Op.operands] at hy; rcases hy with hy | hy <;> (rw [hy]; assumption)) rfl ?_ ?_
            · unfold execOp
              dsimp only
              rw [e1, e3]
            · unfold Instr.indexAt
              rw [ro_bnd (show (asIntOf (.int k n)).aro P h = some (k, n) from rfl)]
              dsimp only
              rw [ro_bnd (ro_under hun)]
              dsimp only
              rw [ro_bnd (ro_pure' _)]
              dsimp only
              rw [ro_bnd (ro_under hun)]
              dsimp only
              rw [if_pos hb, ro_bnd (ro_size hd1), hd2]
              rfl
          · cases e
        · cases e
      · cases e
    · rename_i a k n hx hi
      obtain ⟨e1, e2⟩ := one hx
      obtain ⟨e3, e4⟩ := one hi
      split at e
      · rename_i sz len el z pls ht
        split at e
        · rename_i sz' u' z' pls' hel
          split at e
          · rename_i hb
            cases e
            have hun := (K.get _ _ ht).1
            obtain ⟨inf, hd1, hd2⟩ := (K.get _ _ hel).2.1
            dsimp only at hd2
            refine rexec_of (s := Instr.indexAt t (.pointer (some a)) (.int k n)) (fun y hy => by simp [Op.operands] at hy; rcases hy with hy | hy <;> (rw [hy]; assumption)) rfl ?_ ?_
            · unfold execOp
              dsimp only
              rw [e1, e3]
            · unfold Instr.indexAt
              rw [ro_bnd (show (asIntOf (.int k n)).aro P h = some (k, n) from rfl)]
              dsimp only
              rw [ro_bnd (ro_under hun)]
              dsimp only
              rw [ro_bnd (show (Instr.sureAddr (.pointer (some a))).aro P h = some a from rfl)]
              rw [ro_bnd (ro_pure' _)]
              dsimp only
              rw [ro_bnd (ro_under hun)]
              dsimp only
              rw [if_pos hb, ro_bnd (ro_size hd1), hd2]
              rfl
          · cases e
        · cases e
      · cases e
    · cases e
  · rename_i t ps
    unfold fBuild at e
    split at e
    · rename_i sz fields z pls ht
      obtain ⟨hun, ⟨inf, hd1, hd2⟩, hz, hpl⟩ := K.get _ _ ht
      obtain ⟨hp1, hp2⟩ := hpl fields rfl
      dsimp only at hz hun hp1
      obtain ⟨hev, hfill⟩ := fillK_some _ e
      refine rexec_of (s := Instr.build t (ps.map fun p => (p.1, aeval ⟨tmps⟩ p.2))) (fun y hy => ?_) rfl ?_ ?_
      · simp [Op.operands] at hy
        obtain ⟨a, hp⟩ := hy
        exact hev (a, y) (Array.mem_toList_iff.2 hp)
      · unfold execOp
        rfl
      · unfold Instr.build
        rw [ro_bnd (ro_zero hz), ro_bnd (ro_under hun)]
        dsimp only
        rw [ro_bnd (ro_places hp1 hp2)]
        have hpar : (ps.map fun p => (p.1, aeval ⟨tmps⟩ p.2)).toList = ps.toList.map fun p => (p.1, aeval ⟨tmps⟩ p.2) := by simp
        obtain ⟨c, hc1, hc2⟩ := hfill
        have hzc : z.cells = ⟨z.cells.toList⟩ := rfl
        rw [hpar]
        have : (fun i : Nat => (pls.toArray)[i]?) = (fun i : Nat => pls[i]?) := by funext i; simp
        rw [show (fun x : Nat => pls.toArray[x]?) = (fun i : Nat => pls[i]?) from this]
        rw [hzc, hc1]
        show some (Value.agg ⟨c⟩) = some v
        rw [hc2]
    · cases e
  · rename_i args ats
    split at e
    · rename_i x hargs
      split at e
      · rename_i t rest hats
        split at e
        · rename_i sz el z pls ht
          unfold fLen at e
          split at e
          · rename_i base n cap hx
            cases e
            obtain ⟨e1, e2⟩ := one hx
            have hun := (K.get _ _ ht).1
            have ha : args = #[x] := Array.ext' hargs
            subst ha
            have hat : ats[0]? = some t := by rw [← Array.getElem?_toList, hats]; rfl
            refine rexec_of (s := Builtin.len_ ats type #[.slice base n cap]) (fun y hy => by simp [Op.operands, Call.operands] at hy; rw [hy]; exact e2) rfl ?_ ?_
            · unfold execOp
              dsimp only
              have hm : (#[x] : Array Operand).map (aeval ⟨tmps⟩) = #[.slice base n cap] := by simp [e1]
              unfold resolve
              dsimp only
              rw [hm]
              rfl
            · unfold Builtin.len_
              rw [hat]
              show (underlying t >>= fun d => _ : Sem Value).aro P h = _
              rw [ro_bnd (ro_under hun)]
              rfl
          · cases e
        · cases e
      · cases e
    · cases e
  · cases e
end
end Go.Am
end
section
set_option linter.unusedVariables false
set_option linter.unusedSectionVars false
set_option linter.unusedSimpArgs false
namespace Go.Am
noncomputable section
def opV (dst : Option Nat) (v : Value) (next : K) : K := fun c tmps h => Option.rec (next c tmps h) (fun d => setK v tmps d fun tmps => next c tmps h) dst
def opR (P : Program) (o : Oper) (todo : List AItem) (next : K) (c : Ctx) (tmps : List Value) (r : Option (Next × AH)) : Option AS := match r with
  | some (.value v, h) => opV o.dst v next c tmps h
  | some (.skip, h) => opV o.dst undef next c tmps h
  | some (.enter f args, h) => enterK P f args c todo tmps h
  | _ => none
def evL (tmps : List Value) (xs : List Operand) : Option (List Value) := List.rec (some []) (fun x _ ih => match evF tmps x with
  | some v => match ih with
    | some l => some (v :: l)
    | none => none
  | none => none) xs
def callG (Fu : Tr Func) (c : Ctx) (todo : List AItem) (tmps : List Value) (h : AH) (as : List Operand) (f : Option Value) : Option AS := match f with
  | some (.func (.func g) first cap) => match Fu.get g with
    | some fn => match evL tmps as with
      | some l => some ⟨⟨g, ⟨app (app first.toList (app l cap.toList)) (rep undef (fn.ntmps - (app first.toList (app l cap.toList)).length))⟩, [.code (fn.body.getD (.refuse "unsupported: a function without a Go body is entered"))], [], false, none, false⟩, ⟨c.fn, ⟨tmps⟩, todo, c.defers, false, c.round, c.dk⟩ :: c.cs, h⟩
      | none => none
    | none => none
  | _ => none
def callF (Fu : Tr Func) (c : Ctx) (todo : List AItem) (tmps : List Value) (h : AH) (op : Op) : Option AS := match op with
  | .call ⟨.value x, args, _⟩ => callG Fu c todo tmps h args.toList (evF tmps x)
  | _ => none
def op3 (P : Program) (Fu : Tr Func) (o : Oper) (todo : List AItem) (next : K) (c : Ctx) (tmps : List Value) (h : AH) : Option AS :=
  Option.rec (opR P o todo next c tmps (aexec P none h ⟨tmps⟩ o)) some (callF Fu c todo tmps h o.op)
def fStore (T : Tr TI) (h : AH) (t : Nat) (x v : Option Value) : Option AH := match x with
  | some (.pointer (some a)) => match v with
    | some v => match T.get t with
      | some ⟨sz, _, _, _⟩ => bif Nat.beq sz 1 then match v with
          | .agg _ => none
          | .tuple _ => none
          | v => h.setCell a v
        else none
      | none => none
    | none => none
  | _ => none
def fastS (T : Tr TI) (tmps : List Value) (h : AH) (op : Op) : Option AH := match op with
  | .store t x v => fStore T h t (evF tmps x) (evF tmps v)
  | _ => none
def fastA (T : Tr TI) (tmps : List Value) (h : AH) (op : Op) : Option (Value × AH) := match op with
  | .alloc t => fAlloc T h t
  | .box t x => fBox h t (evF tmps x)
  | _ => none
def op5 (P : Program) (T : Tr TI) (Fu : Tr Func) (o : Oper) (todo : List AItem) (next : K) (c : Ctx) (tmps : List Value) (h : AH) : Option AS :=
  Option.rec (op3 P Fu o todo next c tmps h) (fun h => opV o.dst undef next c tmps h) (fastS T tmps h o.op)
def op4 (P : Program) (T : Tr TI) (Fu : Tr Func) (o : Oper) (todo : List AItem) (next : K) (c : Ctx) (tmps : List Value) (h : AH) : Option AS :=
  Option.rec (op5 P T Fu o todo next c tmps h) (fun r => opV o.dst r.1 next c tmps r.2) (fastA T tmps h o.op)
def op2 (P : Program) (T : Tr TI) (Fu : Tr Func) (o : Oper) (todo : List AItem) (next : K) (c : Ctx) (tmps : List Value) (h : AH) : Option AS :=
  Option.rec (op4 P T Fu o todo next c tmps h) (fun v => opV o.dst v next c tmps h) (fast T tmps h o.op)
def wantF (ops : Array Oper) (tmps : List Value) (g : Nat × Bool) : Bool := match nth ops.toList g.1 with
  | some o => match o.dst with
    | some d => match nth tmps d with
      | some (.bool b) => b == g.2
      | _ => false
    | none => false
  | none => false
def opK (P : Program) (T : Tr TI) (Fu : Tr Func) (ops : Array Oper) (o : Oper) (todo : List AItem) (next : K) : K := fun c tmps h =>
  Option.rec (op2 P T Fu o todo next c tmps h) (fun g => Bool.rec (opV o.dst undef next c tmps h) (op2 P T Fu o todo next c tmps h) (wantF ops tmps g)) o.guard
def orStop (todo : List AItem) (first : Bool) (q : K) : K := fun c tmps h => Option.rec (Bool.rec (some (mk todo c tmps h)) none first) some (q c tmps h)
def opI (P : Program) (T : Tr TI) (Fu : Tr Func) (ops : Array Oper) (todo : List AItem) (next : K) (o : Option Oper) : K := Option.rec kNo (fun o => opK P T Fu ops o todo next) o
def opsF (P : Program) (T : Tr TI) (Fu : Tr Func) (ops : Array Oper) (k : List AItem) (l : List Nat) : Bool → K :=
  List.rec (fun _ => kGo k) (fun i l ih first => orStop (.region ops (i :: l) :: k) first (opI P T Fu ops (.region ops (i :: l) :: k) (ih false) (nth ops.toList i))) l
def regF (P : Program) (T : Tr TI) (Fu : Tr Func) (ops : Array Oper) (d : Bool) (k : List AItem) : K := Bool.rec (opsF P T Fu ops k (List.range ops.toList.length) false) kNo d
def reF (T : Tr TI) (tmps : List Value) (h : AH) (ops : Array Oper) (js : List Nat) : Bool := List.rec true (fun j _ ih => match nth ops.toList j with
  | some o => match o.dst, o.guard with
    | some d, none => match nth tmps d with
      | some v => match fast T tmps h o.op with
        | some v' => bif beqV 9 v v' && decide (kindOf o = .light) then ih else false
        | none => false
      | none => false
    | _, _ => false
  | none => false) js
def dNext (T : Tr TI) (ops : Array Oper) (again : List Nat) (next : K) : K := fun c tmps h => Bool.rec none (next c tmps h) (reF T tmps h ops again)
def dFin (T : Tr TI) (ops : Array Oper) (again : List Nat) (dst : Option Nat) (v : Value) (next : K) : K := fun c tmps h =>
  Option.rec (dNext T ops again next c tmps h) (fun d => setK v tmps d fun tmps => dNext T ops again next c tmps h) dst
def dR (P : Program) (T : Tr TI) (ops : Array Oper) (o : Oper) (again : List Nat) (todo : List AItem) (next : K) (c : Ctx) (tmps : List Value) (r : Option (Next × AH)) : Option AS := match r with
  | some (.value v, h) => dFin T ops again o.dst v next c tmps h
  | some (.skip, h) => dFin T ops again o.dst undef next c tmps h
  | some (.enter f args, h) => enterK P f args c todo tmps h
  | _ => none
def d3 (P : Program) (T : Tr TI) (Fu : Tr Func) (ops : Array Oper) (o : Oper) (again : List Nat) (todo : List AItem) (next : K) (c : Ctx) (tmps : List Value) (h : AH) : Option AS :=
  Option.rec (dR P T ops o again todo next c tmps (aexec P none h ⟨tmps⟩ o)) some (callF Fu c todo tmps h o.op)
def d2 (P : Program) (T : Tr TI) (Fu : Tr Func) (ops : Array Oper) (o : Oper) (again : List Nat) (todo : List AItem) (next : K) (c : Ctx) (tmps : List Value) (h : AH) : Option AS :=
  Option.rec (d3 P T Fu ops o again todo next c tmps h) (fun h => dFin T ops again o.dst undef next c tmps h) (fastS T tmps h o.op)
def dEff (P : Program) (T : Tr TI) (Fu : Tr Func) (ops : Array Oper) (o : Oper) (again : List Nat) (todo : List AItem) (next : K) : K := fun c tmps h =>
  Option.rec (d2 P T Fu ops o again todo next c tmps h) (fun r => dFin T ops again o.dst r.1 next c tmps r.2) (fastA T tmps h o.op)
def dLight (T : Tr TI) (o : Oper) (next : K) : K := fun c tmps h => match fast T tmps h o.op with
  | some v => match o.dst with
    | some d => bif Nat.blt d tmps.length then setK v tmps d fun tmps => next c tmps h else none
    | none => none
  | none => none
def dAlloc (T : Tr TI) (ops : Array Oper) (o : Oper) (again : List Nat) (next : K) : K := fun c tmps h => match o.op with
  | .alloc t => match T.get t with
    | some ⟨_, _, some z, _⟩ => match o.dst with
      | some d => bif Nat.blt d tmps.length then setK (.pointer (some ⟨h.n, 0, none⟩)) tmps d fun tmps => dNext T ops again next c tmps (h.new (.cells z.cells t (0, 0))) else none
      | none => none
    | _ => none
  | _ => none
def dOp (P : Program) (T : Tr TI) (Fu : Tr Func) (ops : Array Oper) (i : Nat) (o : Oper) (again : List Nat) (todo : List AItem) (next : K) : K :=
  Option.rec (Kind.rec (dLight T o next) (dAlloc T ops o again next) (dEff P T Fu ops o again todo next) (cond (over ops i o) .effect (kindOf o))) (fun _ => kNo) o.guard
def dI (P : Program) (T : Tr TI) (Fu : Tr Func) (ops : Array Oper) (i : Nat) (again : List Nat) (todo : List AItem) (next : K) (o : Option Oper) : K := Option.rec kNo (fun o => dOp P T Fu ops i o again todo next) o
def drawnF (P : Program) (T : Tr TI) (Fu : Tr Func) (ops : Array Oper) (k : List AItem) (l : List (Nat × List Nat)) : Bool → K :=
  List.rec (fun _ => kGo k) (fun i l ih first => orStop (.drawn ops (i :: l) :: k) first (dI P T Fu ops i.1 i.2 (.drawn ops (i :: l) :: k) (ih false) (nth ops.toList i.1))) l
def retK (k : List AItem) : K := fun c tmps h => match c.round with
  | none => some ⟨⟨c.fn, ⟨tmps⟩, .code .ret :: k, c.defers, true, none, c.dk⟩, c.cs, h⟩
  | some _ => none
def exitK (id : Nat) (k : List AItem) : K := fun c tmps h => match aexitTo id k with
  | some k => some (mk k c tmps h)
  | none => none
def codeF (P : Program) (T : Tr TI) (Fu : Tr Func) (x : Code) : List AItem → K :=
  Code.rec (motive := fun _ => List AItem → K)
    (skip := kGo) (region := fun _ ops d => regF P T Fu ops d) (seq := fun _ b iha _ k => iha (.code b :: k)) (cond := fun x _ _ iha ihb k => condK (iha k) (ihb k) x)
    (block := fun id _ ih k => ih (.inBlock id :: k)) (loop := fun b ih k => ih (.inLoop b :: k)) (exit := exitK) (goto := fun _ _ => kNo) (label := fun _ _ => kNo) (scope := fun _ _ _ => kNo)
    (ret := retK) (rangeFunc := fun _ _ _ _ _ _ _ => kNo) (refuse := fun _ _ => kNo) x
def itemF (P : Program) (T : Tr TI) (Fu : Tr Func) (x : AItem) : List AItem → K :=
  AItem.casesOn (motive := fun _ => List AItem → K) x (code := codeF P T Fu) (inBlock := fun _ => kGo) (inLoop := fun b k => codeF P T Fu b (.inLoop b :: k)) (inScope := fun _ => kGo)
    (region := fun ops l k => opsF P T Fu ops k l true) (drawn := fun ops l k => drawnF P T Fu ops k l true) (inRangeFunc := fun _ _ => kNo) (endRangeFunc := fun _ _ => kNo) (beginRound := fun _ => kNo)
def todoF (P : Program) (T : Tr TI) (Fu : Tr Func) (todo : List AItem) : K := List.casesOn (motive := fun _ => K) todo kNo (itemF P T Fu)
def resL (tmps : List Value) (l : List ResultVar) : Option (List Value) := List.rec (some []) (fun x _ ih => match x with
  | .tmp t => match nth tmps t with
    | some v => match ih with
      | some m => some (v :: m)
      | none => none
    | none => none
  | _ => none) l
def resV (l : List Value) : Value := match l with
  | [v] => v
  | l => .tuple ⟨l⟩
def backF (T : Tr TI) (h : AH) (cs : List AFr) (fn : FuncId) (tmps : Array Value) (todo : List AItem) (defers : List Deferred) (ret : Bool) (round : Option Nat) (dk : Bool) (v : Value) : Option AS := match todo with
  | .region ops (i :: l) :: k => match nth ops.toList i with
    | some o => match o.dst with
      | some d => setK v tmps.toList d fun tmps => some ⟨⟨fn, ⟨tmps⟩, .region ops l :: k, defers, ret, round, dk⟩, cs, h⟩
      | none => some ⟨⟨fn, tmps, .region ops l :: k, defers, ret, round, dk⟩, cs, h⟩
    | none => none
  | .drawn ops ((i, again) :: l) :: k => match nth ops.toList i with
    | some o => match kindOf o with
      | .effect => match o.dst with
        | some d => setK v tmps.toList d fun tmps => bif reF T tmps h ops again then some ⟨⟨fn, ⟨tmps⟩, .drawn ops l :: k, defers, ret, round, dk⟩, cs, h⟩ else none
        | none => bif reF T tmps.toList h ops again then some ⟨⟨fn, tmps, .drawn ops l :: k, defers, ret, round, dk⟩, cs, h⟩ else none
      | _ => none
    | none => none
  | _ => none
def retF (T : Tr TI) (Fu : Tr Func) (cs : List AFr) (h : AH) (fn : FuncId) (tmps : Array Value) (defers : List Deferred) (dk : Bool) : Option AS := match defers with
  | [] => match dk with
    | false => match cs with
      | c :: cs => match Fu.get fn with
        | some f => match resL tmps.toList f.results.toList with
          | some l => AFr.casesOn c (fun fn tmps todo defers ret round dk => backF T h cs fn tmps todo defers ret round dk (resV l))
          | none => none
        | none => none
      | [] => none
    | true => none
  | _ => none
def frF (P : Program) (T : Tr TI) (Fu : Tr Func) (cs : List AFr) (h : AH) (fn : FuncId) (tmps : Array Value) (todo : List AItem) (defers : List Deferred) (ret : Bool) (round : Option Nat) (dk : Bool) : Option AS :=
  Bool.rec (todoF P T Fu todo ⟨fn, defers, round, dk, cs⟩ tmps.toList h) (retF T Fu cs h fn tmps defers dk) ret
def fstepF (P : Program) (T : Tr TI) (Fu : Tr Func) (s : AS) : Option AS := AS.casesOn s fun fr cs h => AFr.casesOn fr (frF P T Fu cs h)
end
structure FunOk (P : Program) (Fu : Tr Func) : Prop where
  get : ∀ f fn, Fu.get f = some fn → P.funcs[f]? = some fn ∧ plainFn P f = true
end Go.Am
end
