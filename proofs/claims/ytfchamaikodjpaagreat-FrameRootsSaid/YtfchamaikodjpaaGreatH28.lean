/- A part of the proof that the frame keeps its roots: lemmas on which it leans. -/
import Derived.Test.YtfchamaikodjpaaGreatH24
import Derived.Test.YtfchamaikodjpaaGreatH27
section
set_option linter.unusedVariables false
set_option linter.unusedSectionVars false
set_option linter.unusedSimpArgs false
namespace Go.Am
section
variable {P : Program} {T : Tr TI} {Fu : Tr Func} {pl : Plan} {tmps : List Value} {h h' : AH} {o : Oper} {v : Value} {x : Operand} {c : Ctx} {s s' : AS} {k : List AItem} {ops : Array Oper} {i : Nat} {l : List Nat} {next : K}
theorem cond_sound {a b : Code} {qa qb : K} (ha : SoundAt P pl (.code a :: k) qa) (hb : SoundAt P pl (.code b :: k) qb) (x : Operand) : SoundAt P pl (.code (.cond x a b) :: k) (condK qa qb x) := by
  intro c tmps h s' e
  unfold condK at e
  split at e
  · rename_i t
    split at e
    · rename_i u hu
      have hv : aeval ⟨tmps⟩ (.tmp t) = .bool u := getD_nth _ _ hu
      have hs : astep P pl none (mk (.code (.cond (.tmp t) a b) :: k) c tmps h) = some (.go (mk (.code (if u then a else b) :: k) c tmps h)) := by
        unfold astep mk
        dsimp only
        rw [if_pos (show condOk (.tmp t) = true from rfl), hv]
        rfl
      cases u with
      | true => exact .one hs (ha c tmps h s' e)
      | false => exact .one hs (hb c tmps h s' e)
    · cases e
  · cases e
theorem ret_sound : SoundAt P pl (.code .ret :: k) (retK k) := by
  intro c tmps h s' e
  unfold retK at e
  split at e
  · rename_i hr
    cases e
    refine .one (s₁ := ⟨⟨c.fn, ⟨tmps⟩, .code .ret :: k, c.defers, true, none, c.dk⟩, c.cs, h⟩) ?_ (.here rfl)
    unfold astep mk aleave
    dsimp only
    rw [hr]
  · cases e
theorem exit_sound {id : Nat} : SoundAt P pl (.code (.exit id) :: k) (exitK id k) := by
  intro c tmps h s' e
  unfold exitK at e
  split at e
  · rename_i k' hk
    cases e
    refine .one (s₁ := mk k' c tmps h) ?_ (.here rfl)
    unfold astep mk
    dsimp only
    rw [hk]
    rfl
  · cases e
theorem codeF_sound (K : TabOk P T) (KF : FunOk P Fu) : ∀ (x : Code) (k : List AItem), SoundAt P pl (.code x :: k) (codeF P T Fu x k) := by
  intro x
  induction x with
  | skip => exact fun k => sound_step (fun c tmps h => rfl) (sound_go k)
  | region id ops d =>
    intro k
    cases d with
    | false =>
      have := opsF_sound (pl := pl) (ops := ops) (k := k) K KF (List.range ops.toList.length) false
      exact sound_step (fun c tmps h => rfl) this
    | true => exact sound_no _
  | seq a b iha ihb => exact fun k => sound_step (fun c tmps h => rfl) (iha (.code b :: k))
  | cond x a b iha ihb => exact fun k => cond_sound (iha k) (ihb k) x
  | block id b ih => exact fun k => sound_step (fun c tmps h => rfl) (ih (.inBlock id :: k))
  | loop b ih => exact fun k => sound_step (fun c tmps h => rfl) (ih (.inLoop b :: k))
  | exit id => exact fun k => exit_sound
  | ret => exact fun k => ret_sound
  | goto _ => exact fun k => sound_no _
  | label _ => exact fun k => sound_no _
  | scope _ _ => exact fun k => sound_no _
  | rangeFunc _ _ _ _ _ _ => exact fun k => sound_no _
  | refuse _ => exact fun k => sound_no _
theorem itemF_sound (K : TabOk P T) (KF : FunOk P Fu) (x : AItem) (k : List AItem) : SoundAt P pl (x :: k) (itemF P T Fu x k) := by
  cases x with
  | code x => exact codeF_sound K KF x k
  | inBlock id => exact sound_step (fun c tmps h => rfl) (sound_go k)
  | inLoop b => exact sound_step (fun c tmps h => rfl) (codeF_sound K KF b (.inLoop b :: k))
  | inScope b => exact sound_step (fun c tmps h => rfl) (sound_go k)
  | region ops l => exact opsF_sound K KF l true
  | drawn ops l => exact drawnF_sound K KF l true
  | inRangeFunc l => exact sound_no _
  | endRangeFunc l => exact sound_no _
  | beginRound => exact sound_no _
def resX (tmps : List Value) (r : ResultVar) : Value := match r with
  | .tmp t => (Array.mk tmps).getD t undef
  | _ => undef
theorem resL_some : ∀ (rs : List ResultVar) {l : List Value}, resL tmps rs = some l → (∀ r ∈ rs, ∃ t, r = .tmp t) ∧ rs.map (resX tmps) = l
  | [], l, e => by cases e; exact ⟨fun r hr => (by cases hr), rfl⟩
  | .cell a t :: rs, l, e => by cases e
  | .tmp t :: rs, l, e => by
    replace e : (match nth tmps t with
        | some v => match resL tmps rs with
          | some m => some (v :: m)
          | none => none
        | none => none) = some l := e
    split at e
    · rename_i v hv
      split at e
      · rename_i m hm
        cases e
        obtain ⟨h1, h2⟩ := resL_some rs hm
        refine ⟨fun r hr => ?_, ?_⟩
        · rcases List.mem_cons.1 hr with rfl | hr
          · exact ⟨t, rfl⟩
          · exact h1 r hr
        · rw [List.map_cons, h2]
          unfold resX
          dsimp only
          rw [getD_nth _ _ hv]
      · cases e
    · cases e
theorem results_ar {fn : Func} {l : List Value} (e : resL tmps fn.results.toList = some l) : (results fn ⟨tmps⟩).ar P none h = some (resV l, h) := by
  obtain ⟨h1, h2⟩ := resL_some _ e
  have hm : ∀ (f : ResultVar → Sem Value), (∀ t, f (.tmp t) = Pure.pure ((Array.mk tmps).getD t undef)) → ∀ (rs : List ResultVar) (m : List Value), (∀ r ∈ rs, ∃ t, r = .tmp t) → rs.map (resX tmps) = m → (rs.mapM f).ar P none h = some (m, h) := by
    intro f hf rs
    induction rs with
    | nil => intro m _ e; cases e; rfl
    | cons r rs ih =>
      intro m hr e
      obtain ⟨t, rfl⟩ := hr _ List.mem_cons_self
      rw [List.map_cons] at e
      subst e
      rw [List.mapM_cons, hf, ar_bnd (ar_pure' _), ar_bnd (ih _ (fun r h' => hr r (List.mem_cons_of_mem _ h')) rfl)]
      rfl
  unfold results
  rw [Array.mapM_eq_mapM_toList]
  have e1 : ∀ (X : Sem (List Value)), X.ar P none h = some (l, h) → (Functor.map List.toArray X).ar P none h = some (l.toArray, h) := by
    intro X hX
    show (X >>= fun a => (Pure.pure a.toArray : Sem (Array Value))).ar P none h = _
    rw [ar_bnd hX]
    rfl
  rw [ar_bnd (e1 _ (hm _ (fun t => by rfl) fn.results.toList l h1 h2))]
  show some (_, h) = _
  match l with
  | [] => rfl
  | [v] => rfl
  | u :: v :: l => rfl
theorem back_sound {d : AFr} {cs : List AFr} (K : TabOk P T) (KF : FunOk P Fu) (e : retF T Fu (d :: cs) h c.fn ⟨tmps⟩ c.defers c.dk = some s') : astep P pl none ⟨⟨c.fn, ⟨tmps⟩, k, c.defers, true, c.round, c.dk⟩, d :: cs, h⟩ = some (.go s') := by
  unfold retF at e
  split at e
  · rename_i hd
    split at e
    · rename_i hdk
      dsimp only at e
      split at e
      · rename_i fn hfn
        split at e
        · rename_i l hl
          obtain ⟨f1, f2⟩ := KF.get _ _ hfn
          obtain ⟨dfn, dtmps, dtodo, ddefers, dret, dround, ddk⟩ := d
          replace e : backF T h cs dfn dtmps dtodo ddefers dret dround ddk (resV l) = some s' := e
          unfold backF at e
          split at e
          · rename_i ops i rest k'
            split at e
            · rename_i o ho
              rw [nth_eq] at ho
              have ho' : ops[i]? = some o := by simpa using ho
              have hst : astep P pl none ⟨⟨c.fn, ⟨tmps⟩, k, c.defers, true, c.round, c.dk⟩, ⟨dfn, dtmps, .region ops (i :: rest) :: k', ddefers, dret, dround, ddk⟩ :: cs, h⟩ = some (.go ⟨⟨dfn, setTmp dtmps o.dst (resV l), .region ops rest :: k', ddefers, dret, dround, ddk⟩, cs, h⟩) := by
                unfold astep aunwind
                dsimp only
                rw [hd]
                dsimp only
                rw [f1]
                dsimp only
                rw [results_ar hl, hdk]
                unfold aret afinish
                dsimp only
                rw [ho']
                rfl
              rw [hst]
              split at e
              · rename_i t hdst
                rw [setK_eq] at e
                cases e
                rw [hdst]
                have es : setTmp dtmps (some t) (resV l) = ⟨dtmps.toList.set t (resV l)⟩ := by
                  unfold setTmp
                  apply Array.ext'
                  simp
                rw [es]
              · rename_i hdst
                cases e
                rw [hdst]
                rfl
            · cases e
          · rename_i ops i again rest k'
            split at e
            · rename_i o ho
              rw [nth_eq] at ho
              have ho' : ops[i]? = some o := by simpa using ho
              split at e
              · rename_i hkd
                have hst : ∀ t' : Array Value, setTmp dtmps o.dst (resV l) = t' → recheck P ops again t' h = true → astep P pl none ⟨⟨c.fn, ⟨tmps⟩, k, c.defers, true, c.round, c.dk⟩, ⟨dfn, dtmps, .drawn ops ((i, again) :: rest) :: k', ddefers, dret, dround, ddk⟩ :: cs, h⟩ = some (.go ⟨⟨dfn, t', .drawn ops rest :: k', ddefers, dret, dround, ddk⟩, cs, h⟩) := by
                  intro t' ht hre
                  unfold astep aunwind
                  dsimp only
                  rw [hd]
                  dsimp only
                  rw [f1]
                  dsimp only
                  rw [results_ar hl, hdk]
                  unfold aret afinish
                  dsimp only
                  rw [kindAt_eff ho' hkd, dstAt_of ho', ht]
                  simp only [Bool.false_eq_true, if_false]
                  rw [if_pos ⟨trivial, hre⟩]
                  rfl
                split at e
                · rename_i t hdst
                  rw [setK_eq] at e
                  cases hr : reF T (dtmps.toList.set t (resV l)) h ops again with
                  | false => rw [hr] at e; cases e
                  | true =>
                    rw [hr] at e
                    cases e
                    refine hst _ ?_ (reF_some K _ hr)
                    rw [hdst]
                    unfold setTmp
                    apply Array.ext'
                    simp
                · rename_i hdst
                  cases hr : reF T dtmps.toList h ops again with
                  | false => rw [hr] at e; cases e
                  | true =>
                    rw [hr] at e
                    cases e
                    exact hst _ (by rw [hdst]; rfl) (reF_some K _ hr)
              · cases e
            · cases e
          · cases e
        · cases e
      · cases e
    · cases e
  · cases e
theorem fstepF_sound (K : TabOk P T) (KF : FunOk P Fu) (e : fstepF P T Fu s = some s') : To P pl s' s := by
  obtain ⟨⟨fn, ⟨tmps⟩, todo, defers, ret, round, dk⟩, cs, h⟩ := s
  cases ret with
  | false =>
    cases todo with
    | nil => cases e
    | cons x k => exact itemF_sound K KF x k ⟨fn, defers, round, dk, cs⟩ tmps h s' e
  | true =>
    cases cs with
    | nil =>
      replace e : retF T Fu [] h fn ⟨tmps⟩ defers dk = some s' := e
      unfold retF at e
      split at e
      · split at e <;> cases e
      · cases e
    | cons d cs => exact .one (back_sound (c := ⟨fn, defers, round, dk, cs⟩) (k := todo) K KF e) (.here rfl)
theorem To.all {Q : Value → AH → Prop} (k : To P pl s' s) (q : AAll P pl Q s') : AAll P pl Q s := by
  induction k with
  | here h => exact h ▸ q
  | step hne hgo ih => exact .step (fun c => let ⟨s', h⟩ := hne c; ⟨_, h⟩) (fun c s₁ e => ih c s₁ e) (fun c v h e => by obtain ⟨s₁, h₁⟩ := hne c; rw [h₁] at e; cases e)
end
end Go.Am
end
section
set_option linter.unusedVariables false
set_option linter.unusedSectionVars false
set_option linter.unusedSimpArgs false
namespace Go.Am
open Go.Ren (grow EvO Guar Rely Wk)
def _root_.Go.Sem.arity {α : Type} (P : Program) : Sem α → AH → Nat
  | .load _ a k, h => match h.cell a with
    | some v => (k v).arity P h
    | none => 1
  | .store _ a v k, h => match h.setCell a v with
    | some h' => k.arity P h'
    | none => 1
  | .new o k, h => (k h.n).arity P (h.new o)
  | .shape r k, h => match h.look r with
    | some { obj := .cells l e _, .. } => (k (some (e, l.size))).arity P h
    | some _ => (k none).arity P h
    | none => 1
  | .getObj r k, h => match h.look r with
    | some B => (k B.obj).arity P h
    | none => 1
  | .setObj r o k, h => match h.look r with
    | some B => k.arity P (h.put r B o)
    | none => 1
  | .choose q k, h => if q.forced then (k 0).arity P h else match q with
    | .mapNext n => n
    | _ => 1
  | .program k, h => (k P).arity P h
  | _, _ => 1
section
variable {P : Program} {pl : Plan}
theorem ar_mod {α : Type} (s : Sem α) : ∀ (h : AH) (c : Nat), s.ar P (some c) h = s.ar P (some (c % s.arity P h)) h := by
  induction s with
  | load m a k ih =>
    intro h c
    have e := fun c => Sem.ar.eq_def (P := P) (Sem.load m a k) c h
    dsimp only at e
    rw [e, e, Sem.arity]
    generalize h.cell a = q
    cases q with
    | none => rfl
    | some v =>
      cases m with
      | plain => exact ih v h c
      | atomic => rfl
  | store m a v k ih =>
    intro h c
    have e := fun c => Sem.ar.eq_def (P := P) (Sem.store m a v k) c h
    dsimp only at e
    rw [e, e, Sem.arity]
    cases v <;> cases m <;> first | rfl | skip
    all_goals
      dsimp only
      generalize h.setCell a _ = q
      cases q with
      | none => rfl
      | some h' => exact ih h' c
  | new o k ih =>
    intro h c
    have e := fun c => Sem.ar.eq_def (P := P) (Sem.new o k) c h
    dsimp only at e
    rw [e, e, Sem.arity]
    split <;> first | rfl | exact ih _ _ c
  | shape r k ih =>
    intro h c
    have e := fun c => Sem.ar.eq_def (P := P) (Sem.shape r k) c h
    dsimp only at e
    rw [e, e, Sem.arity]
    generalize h.look r = q
    cases q with
    | none => rfl
    | some B =>
      obtain ⟨o, f, ro, u⟩ := B
      cases o <;> exact ih _ h c
  | getObj r k ih =>
    intro h c
    have e := fun c => Sem.ar.eq_def (P := P) (Sem.getObj r k) c h
    dsimp only at e
    rw [e, e, Sem.arity]
    generalize h.look r = q
    cases q with
    | none => rfl
    | some B =>
      obtain ⟨o, f, ro, u⟩ := B
      cases o <;> first | rfl | exact ih _ h c
  | setObj r o k ih =>
    intro h c
    have e := fun c => Sem.ar.eq_def (P := P) (Sem.setObj r o k) c h
    dsimp only at e
    rw [e, e, Sem.arity]
    generalize h.look r = q
    cases q with
    | none => cases o <;> rfl
    | some B =>
      obtain ⟨o', f, ro, u⟩ := B
      cases o' <;> cases o <;> first | rfl | skip
      all_goals
        cases ro <;> first | rfl | exact ih _ c
  | choose q k ih =>
    intro h c
    have e := fun c => Sem.ar.eq_def (P := P) (Sem.choose q k) c h
    have ea := Sem.arity.eq_def (P := P) (Sem.choose q k) h
    dsimp only at e ea
    rw [e, e, ea]
    by_cases hq : q.forced = true
    · rw [if_pos hq, if_pos hq, if_pos hq]; exact ih 0 h c
    · rw [if_neg hq, if_neg hq, if_neg hq]
      cases q <;> first | rfl | skip
      show (k (c % _)).ar P none h = (k (c % _ % _)).ar P none h
      rw [Nat.mod_mod]
  | program k ih =>
    intro h c
    have e := fun c => Sem.ar.eq_def (P := P) (Sem.program k) c h
    dsimp only at e
    rw [e, e, Sem.arity]
    exact ih P h c
  | _ => intro h c; rfl
def opNow (s : AS) : Option Oper := match s.fr.ret, s.fr.todo with
  | false, .region ops (i :: _) :: _ => match ops[i]? with
    | some o => if Region.wanted o (yielded ops s.fr.tmps) && !isAppend o then some o else none
    | none => none
  | _, _ => none
theorem astep_mod {s : AS} {o : Oper} (ho : opNow s = some o) (c : Nat) : astep P pl (some c) s = astep P pl (some (c % (execOp (aeval s.fr.tmps) o).arity P s.h)) s := by
  unfold opNow at ho
  split at ho
  · rename_i ops i l k hr ht
    split at ho
    · rename_i o' hoi
      split at ho
      · rename_i hc
        cases ho
        rw [Bool.and_eq_true, Bool.not_eq_true'] at hc
        unfold astep
        rw [hr, ht]
        dsimp only
        rw [hoi]
        dsimp only
        rw [if_pos hc.1, if_pos hc.1]
        congr 1
        unfold aexec
        rw [hc.2]
        simp only [Bool.false_eq_true, if_false]
        rw [ar_mod]
      · cases ho
    · cases ho
  · cases ho
noncomputable section
def frunS (P : Program) (pl : Plan) (T : Tr TI) (Fu : Tr Func) (n : Nat) : AS → Sum AS (Value × AH) :=
  Nat.rec (fun s => .inl s) (fun _ ih s => Option.rec (match astep P pl none s with
    | some (.go s') => ih s'
    | some (.ret v h) => .inr (v, h)
    | none => .inl s) ih (fstepF P T Fu s)) n
def tryAll (f : Nat → Option (List (Value × AH))) (m : Nat) : Option (List (Value × AH)) := Nat.rec (some []) (fun c ih => match f c with
  | some l => match ih with
    | some m => some (l ++ m)
    | none => none
  | none => none) m
def explore (P : Program) (pl : Plan) (T : Tr TI) (Fu : Tr Func) (n d : Nat) : AS → Option (List (Value × AH)) :=
  Nat.rec (fun _ => none) (fun _ ih s => match frunS P pl T Fu n s with
    | .inr x => some [x]
    | .inl s => match opNow s with
      | some o => bif Nat.beq ((execOp (aeval s.fr.tmps) o).arity P s.h) 0 then none else tryAll (fun c => match astep P pl (some c) s with
        | some (.go s') => ih s'
        | _ => none) ((execOp (aeval s.fr.tmps) o).arity P s.h)
      | none => none) d
end
variable {T : Tr TI} {Fu : Tr Func}
theorem frunS_all (K : TabOk P T) (KF : FunOk P Fu) {Q : Value → AH → Prop} : ∀ (n : Nat) {s : AS}, (∀ s', frunS P pl T Fu n s = .inl s' → AAll P pl Q s') → (∀ v h, frunS P pl T Fu n s = .inr (v, h) → Q v h) → AAll P pl Q s
  | 0, s, h1, h2 => h1 s rfl
  | n + 1, s, h1, h2 => by
    have hu : frunS P pl T Fu (n + 1) s = Option.rec (match astep P pl none s with
      | some (.go s') => frunS P pl T Fu n s'
      | some (.ret v h) => .inr (v, h)
      | none => .inl s) (frunS P pl T Fu n) (fstepF P T Fu s) := rfl
    cases hf : fstepF P T Fu s with
    | some s₁ =>
      rw [hf] at hu
      exact (fstepF_sound K KF hf).all (frunS_all K KF n (fun s' e => h1 s' (hu.trans e)) fun v h e => h2 v h (hu.trans e))
    | none =>
      rw [hf] at hu
      replace hu : frunS P pl T Fu (n + 1) s = (match astep P pl none s with
        | some (.go s') => frunS P pl T Fu n s'
        | some (.ret v h) => .inr (v, h)
        | none => .inl s) := hu
      cases ha : astep P pl none s with
      | none => rw [ha] at hu; exact h1 s hu
      | some r =>
        rw [ha] at hu
        cases r with
        | go s₁ => exact .one ha (frunS_all K KF n (fun s' e => h1 s' (hu.trans e)) fun v h e => h2 v h (hu.trans e))
        | ret v h => exact .ret ha (h2 v h hu)
theorem tryAll_some {f : Nat → Option (List (Value × AH))} : ∀ (m : Nat) {L : List (Value × AH)}, tryAll f m = some L → ∀ c, c < m → ∃ l, f c = some l ∧ ∀ x ∈ l, x ∈ L
  | 0, L, e, c, hc => absurd hc (Nat.not_lt_zero _)
  | m + 1, L, e, c, hc => by
    replace e : (match f m with
      | some l => match tryAll f m with
        | some m => some (l ++ m)
        | none => none
      | none => none) = some L := e
    split at e
    · rename_i l hl
      split at e
      · rename_i k hk
        cases e
        by_cases hcm : c = m
        · subst hcm
          exact ⟨l, hl, fun x hx => List.mem_append.2 (.inl hx)⟩
        · obtain ⟨l', h1, h2⟩ := tryAll_some m hk c (by omega)
          exact ⟨l', h1, fun x hx => List.mem_append.2 (.inr (h2 x hx))⟩
      · cases e
    · cases e
theorem explore_all (K : TabOk P T) (KF : FunOk P Fu) {n : Nat} : ∀ (d : Nat) {s : AS} {L : List (Value × AH)}, explore P pl T Fu n d s = some L → AAll P pl (fun v h => (v, h) ∈ L) s
  | 0, s, L, e => by cases e
  | d + 1, s, L, e => by
    replace e : (match frunS P pl T Fu n s with
      | .inr x => some [x]
      | .inl s => match opNow s with
        | some o => bif Nat.beq ((execOp (aeval s.fr.tmps) o).arity P s.h) 0 then none else tryAll (fun c => match astep P pl (some c) s with
          | some (.go s') => explore P pl T Fu n d s'
          | _ => none) ((execOp (aeval s.fr.tmps) o).arity P s.h)
        | none => none) = some L := e
    refine frunS_all K KF n (fun s₁ h₁ => ?_) fun v h h₁ => ?_
    · rw [h₁] at e
      dsimp only at e
      split at e
      · rename_i o ho
        cases hb : Nat.beq ((execOp (aeval s₁.fr.tmps) o).arity P s₁.h) 0 with
        | true => rw [hb] at e; cases e
        | false =>
        rw [hb] at e
        have hz : (execOp (aeval s₁.fr.tmps) o).arity P s₁.h ≠ 0 := fun h0 => by rw [h0] at hb; cases hb
        have all : ∀ c, ∃ s', astep P pl (some c) s₁ = some (.go s') ∧ AAll P pl (fun v h => (v, h) ∈ L) s' := by
          intro c
          have hm := astep_mod (P := P) (pl := pl) ho c
          obtain ⟨l, h1, h2⟩ := tryAll_some _ e (c % (execOp (aeval s₁.fr.tmps) o).arity P s₁.h) (Nat.mod_lt _ (Nat.pos_of_ne_zero hz))
          split at h1
          · rename_i s' hs'
            exact ⟨s', hm.trans hs', (explore_all K KF d h1).mono fun v h hx => h2 _ hx⟩
          · cases h1
        refine .step (fun c => let ⟨s', h, _⟩ := all c; ⟨_, h⟩) (fun c s' hs' => ?_) fun c v h hs' => ?_
        · obtain ⟨s₂, h1, h2⟩ := all c
          rw [hs'] at h1
          cases h1
          exact h2
        · obtain ⟨s₂, h1, h2⟩ := all c
          rw [hs'] at h1
          cases h1
      · cases e
    · rw [h₁] at e
      cases e
      exact List.mem_singleton.2 rfl
end
end Go.Am
end
section
set_option linter.unusedVariables false
set_option linter.unusedSectionVars false
set_option linter.unusedSimpArgs false
namespace Go.Am
open Go.Ren (grow EvO Guar Rely Wk)
def AH.move (h : AH) (l : List Nat) (B : Blk) : AH :=
  ⟨h.n + 1, (h.forget l).tr.set h.n { B with fam := B.fam.map fun _ => h.n }, match B.fam with
    | none => (h.forget l).fams
    | some _ => (h.forget l).fams.set h.n [h.n]⟩
def moveOk (h : AH) (b : Nat) (B : Blk) (l : List Nat) : Bool := l.all fun x => x != b && match h.look x with
  | some X => (match X.fam, B.fam with
    | some f, some g => f != g
    | _, _ => true) && X.fam != some h.n
  | none => true
section
variable {P : Program} {ρ σ : Env} {O D : Nat → Prop} {h h' : AH} {w w' : World} {b : Nat} {B : Blk} {l : List Nat}
theorem forgetTr_mem {h : AH} : ∀ (l : List Nat) {b : Nat} {B : Blk}, (forgetTr h l).get b = some B → b ∈ l
  | [], b, B, e => by cases e
  | c :: l, b, B, e => by
    unfold forgetTr at e
    split at e
    · rw [Tr.get_set] at e
      split at e
      · rename_i hb; subst hb; exact List.mem_cons_self
      · exact List.mem_cons_of_mem _ (forgetTr_mem l e)
    · exact List.mem_cons_of_mem _ (forgetTr_mem l e)
def Env.mv (ρ : Env) (b N : Nat) : Env := ρ.add N (ρ.to b) (ρ.slack b) (ρ.u b) (ρ.ext b)
theorem move_look {x : Nat} {X : Blk} (k : (h.move l B).look x = some X) : (x = h.n ∧ X = { B with fam := B.fam.map fun _ => h.n }) ∨ (x ≠ h.n ∧ (forgetTr h l).get x = some X ∧ h.look x = some X) := by
  have ht := look_tr k
  unfold AH.move at ht
  dsimp only at ht
  rw [Tr.get_set] at ht
  split at ht
  · rename_i hx
    cases ht
    exact .inl ⟨hx, rfl⟩
  · rename_i hx
    exact .inr ⟨hx, ht, forgetTr_get l ht⟩
theorem Rel.move (r : Rel ρ O D h w) (hb : h.look b = some B) (hc : ∃ c e f, B.obj = .cells c e f) (hbn : ρ.born b) (hok : moveOk h b B l = true) : Rel (ρ.mv b h.n) O D (h.move l B) w := by
  have hnb : ¬ ρ.born h.n := fun hx => Nat.lt_irrefl _ (r.fresh _ hx)
  have hle : ρ.Le (ρ.mv b h.n) := Env.add_le hnb
  have r1 : Rel ρ O D (h.forget l) w := r.forget l
  have hl : ∀ x X, (forgetTr h l).get x = some X → x ≠ b ∧ (∀ f, X.fam = some f → B.fam ≠ some f) ∧ X.fam ≠ some h.n := by
    intro x X hx
    have hm := forgetTr_mem l hx
    have hlook := forgetTr_get l hx
    have := (List.all_eq_true.1 hok) x hm
    rw [hlook] at this
    simp only [Bool.and_eq_true, bne_iff_ne, ne_eq] at this
    obtain ⟨h1, h2, h3⟩ := this
    refine ⟨h1, fun f hf hB => ?_, h3⟩
    rw [hf, hB] at h2
    simp at h2
  have born : ∀ x, (ρ.mv b h.n).born x → x ≠ h.n → ρ.born x := fun x hx hne => hx.resolve_left hne
  obtain ⟨cc, ee, ff, hobj⟩ := hc
  have old : ∀ f m, (h.move l B).fams.get f = some m → (f = h.n ∧ m = [h.n] ∧ ∃ g, B.fam = some g) ∨ (h.forget l).fams.get f = some m := by
    intro f m hf
    unfold AH.move at hf
    dsimp only at hf
    cases hB : B.fam with
    | none => rw [hB] at hf; exact .inr hf
    | some g =>
      rw [hB] at hf
      dsimp only at hf
      rw [Tr.get_set] at hf
      split at hf
      · rename_i e; cases hf; exact .inl ⟨e, rfl, g, hB ▸ rfl⟩
      · exact .inr hf
  have up : ∀ x n, x ≠ h.n → (h.move l B).upTo (ρ.mv b h.n) x n → (h.forget l).upTo ρ x n := by
    rintro x n hne ⟨X, c, e, f, h1, h2, h3⟩
    unfold AH.move at h1
    dsimp only at h1
    rw [Tr.get_set, if_neg hne] at h1
    unfold Env.mv at h3
    rw [add_to_ne hne] at h3
    exact ⟨X, c, e, f, h1, h2, h3⟩
  refine ⟨fun x X c e f hx hk ho => ?_, fun x X hx hk ho => ?_, fun x X hx hk => ?_, fun x y X Y hx hy hk hk' hne hs => ?_, fun x hx => ?_, fun x hx => ?_, fun x X hx hk => ?_, fun f m hf => ?_, fun f m hf x hxm => ?_⟩
  · rcases move_look hk with ⟨rfl, rfl⟩ | ⟨hne, _, hlk⟩
    · obtain ⟨A, E, g, c1, c2, c3, c4, c5⟩ := r.cells b B c e f hbn hb ho
      unfold Env.mv
      rw [add_to, add_ext]
      exact ⟨A, E, g, c1, c2, c3, c4, fun i v hv => by obtain ⟨v', k1, k2⟩ := c5 i v hv; exact ⟨v', k1, k2.mono hle⟩⟩
    · obtain ⟨A, E, g, c1, c2, c3, c4, c5⟩ := r.cells x X c e f (born x hx hne) hlk ho
      unfold Env.mv
      rw [add_to_ne hne, add_ext_ne hne]
      exact ⟨A, E, g, c1, c2, c3, c4, fun i v hv => by obtain ⟨v', k1, k2⟩ := c5 i v hv; exact ⟨v', k1, k2.mono hle⟩⟩
  · rcases move_look hk with ⟨rfl, rfl⟩ | ⟨hne, _, hlk⟩
    · exact absurd hobj (ho _ _ _)
    · obtain ⟨o1, o2, o3, o4⟩ := r.obj x X (born x hx hne) hlk ho
      unfold Env.mv
      rw [add_to_ne hne]
      exact ⟨o1, o2, o3, o4.mono hle⟩
  · rcases move_look hk with ⟨rfl, rfl⟩ | ⟨hne, _, hlk⟩
    · unfold Env.mv
      rw [add_to]
      exact r.own b B hbn hb
    · unfold Env.mv
      rw [add_to_ne hne]
      exact r.own x X (born x hx hne) hlk
  · rcases move_look hk with ⟨rfl, rfl⟩ | ⟨hne1, htr1, hlk1⟩
    · rcases move_look hk' with ⟨rfl, rfl⟩ | ⟨hne2, htr2, hlk2⟩
      · exact absurd rfl hne
      · exfalso
        unfold Env.mv at hs
        rw [add_to, add_to_ne hne2] at hs
        obtain ⟨h1, h2, h3⟩ := hl y Y htr2
        obtain ⟨f, g1, g2⟩ := r.sep b y B Y hbn (born y hy hne2) hb hlk2 (fun e => h1 e.symm) hs
        exact h2 f g2 g1
    · rcases move_look hk' with ⟨rfl, rfl⟩ | ⟨hne2, htr2, hlk2⟩
      · exfalso
        unfold Env.mv at hs
        rw [add_to, add_to_ne hne1] at hs
        obtain ⟨h1, h2, h3⟩ := hl x X htr1
        obtain ⟨f, g1, g2⟩ := r.sep b x B X hbn (born x hx hne1) hb hlk1 (fun e => h1 e.symm) hs.symm
        exact h2 f g2 g1
      · unfold Env.mv at hs
        rw [add_to_ne hne1, add_to_ne hne2] at hs
        exact r.sep x y X Y (born x hx hne1) (born y hy hne2) hlk1 hlk2 hne hs
  · rcases hx with rfl | hx
    · exact Nat.lt_succ_self _
    · exact Nat.lt_succ_of_lt (r.fresh x hx)
  · unfold Env.mv
    by_cases hne : x = h.n
    · subst hne
      rw [add_to]
      exact r.low b hbn
    · rw [add_to_ne hne]
      exact r.low x (born x hx hne)
  · rcases move_look hk with ⟨rfl, rfl⟩ | ⟨hne, _, hlk⟩
    · obtain ⟨s1, s2⟩ := r.slack b B hbn hb
      unfold Env.mv
      rw [add_slack, add_u]
      cases hf : B.fam with
      | none => rw [hf] at s1 s2; exact ⟨by simpa using s1, fun e => absurd rfl e⟩
      | some f =>
        rw [hf] at s1 s2
        refine ⟨⟨fun _ => by simp, fun _ => s1.2 (by simp)⟩, fun _ => s2 (by simp)⟩
    · unfold Env.mv
      rw [add_slack_ne hne, add_u_ne hne]
      exact r.slack x X (born x hx hne) hlk
  · rcases old f m hf with ⟨rfl, rfl, g, hg⟩ | hf'
    · exact List.pairwise_singleton _ _
    · have hm := r1.mem f m hf'
      refine (r1.row f m hf').imp_of_mem fun {x y} hx hy hxy => ?_
      have nx : x ≠ h.n := Nat.ne_of_lt (hm x hx).1
      have ny : y ≠ h.n := Nat.ne_of_lt (hm y hy).1
      intro bx bY hs n n' u1 u2
      unfold Env.mv at hs
      rw [add_to_ne nx, add_to_ne ny] at hs
      exact hxy (born x bx nx) (born y bY ny) hs n n' (up x n nx u1) (up y n' ny u2)
  · rcases old f m hf with ⟨rfl, rfl, g, hg⟩ | hf'
    · have := List.mem_singleton.1 hxm
      subst this
      refine ⟨Nat.lt_succ_self _, { B with fam := B.fam.map fun _ => h.n }, ?_, ?_⟩
      · unfold AH.move
        dsimp only
        rw [Tr.get_set, if_pos rfl]
      · dsimp only
        rw [hg]
        rfl
    · obtain ⟨h1, X, h2, h3⟩ := r1.mem f m hf' x hxm
      have hne : x ≠ h.n := Nat.ne_of_lt h1
      refine ⟨Nat.lt_succ_of_lt h1, X, ?_, h3⟩
      unfold AH.move
      dsimp only
      rw [Tr.get_set, if_neg hne]
      exact h2
end
end Go.Am
end
