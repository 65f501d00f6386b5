/- A part of the proof that the frame keeps its roots: lemmas on which it leans. -/
import Derived.Conc.Own2
import Derived.Test.YtfchamaikodjpaaGreatH18
import Derived.Test.YtfchamaikodjpaaGreatH20
section
set_option linter.unusedVariables false
set_option linter.unusedSectionVars false
set_option linter.unusedSimpArgs false
namespace Go.Ren
open Go.Conc hiding Goes
open Go.Conc.Lib Go.ConcR.Gen Go.RowKit Go.ConcN Go.ConcN.Gen
open Go.ConcR (KK wgBlock WgAt stA smA rd wr mk DC0)
section
variable {P : Program} {L : WgLink} {Wg : Nat} {S T : Goroutine → Prop}
theorem idleD_of (d : Nat) {m : Bool} {X : Event → Prop} {S : Nat → Goroutine → Prop} {g : Goroutine} (h : Idle P m (Lv L Wg) X0 (S d) g) : IdleD P m (Lv L Wg) X S d g :=
  (Idle.deaf (fun e x => x.elim) (fun e x => x.elim) d h).mono fun d' g ⟨e, x⟩ => e ▸ x
theorem quits_more {P : Program} {q d : Nat} {g : Goroutine} (k : Nat) (h : QuitsD P q d g) : QuitsD P (q + k) d g := by
  have one : ∀ {q d : Nat} {g : Goroutine}, QuitsD P q d g → QuitsD P (q + 1) d g := by
    intro q
    induction q with
    | zero => intro d g h; exact .inl h
    | succ q ih =>
      intro d g h
      rcases h with h | ⟨hs, g', es, h1, h2, h3⟩
      · exact .inl h
      · exact .inr ⟨hs, g', es, h1, h2, ih h3⟩
  induction k with
  | zero => exact h
  | succ k ih => exact one ih
theorem q_value {P : Program} {b : Frame} {a : Act} {k : List Item} {cs : List Frame} {n d : Nat} {ops : Array Oper} {i : Nat} {rest : List Nat} {o : Oper} (ho : ops[i]? = some o) (hw : Region.wanted o (yielded ops a.tmps) = true) (hk : b.kind ≠ .early)
    (h : ∃ v : Value, (∀ w, (execOp a.eval o).run P w = .ok (.value v) w) ∧ (∀ w, (execOp a.eval o).events P w #[] = #[]) ∧ QuitsD P n d (G (b.at (a.put o.dst v) (.inRegion ops rest :: k)) cs)) : QuitsD P (n + 1) d (G (b.at a (.inRegion ops (i :: rest) :: k)) cs) :=
  let ⟨v, h1, h2, h3⟩ := h
  .value v ho hw hk h1 h2 h3
theorem rel_next {g : Goroutine} (h : Idle P false (Lv L Wg) X0 (fun g => Says P false (Lv L Wg) #[Go.ConcR.mk .disable] (Idle P false (Lv L Wg) X0 (WAdd P L Wg 1)) g) g) : IdleD P false (Lv L Wg) XD (WAdd P L Wg) 0 g :=
  (idleD_of (S := fun d g => d = 0 ∧ Says P false (Lv L Wg) #[Go.ConcR.mk .disable] (Idle P false (Lv L Wg) X0 (WAdd P L Wg 1)) g) 0 (h.mono fun g x => ⟨rfl, x⟩)).bind (fun d g ⟨e, hs⟩ => by
    subst e
    exact hs.deaf (fun w _ => disable_low rfl) fun g' hg => idleD_of 1 hg)
set_option maxRecDepth 100000 in
set_option maxHeartbeats 8000000 in
theorem add_neg (H : WgLib P L) (hi : ∃ w, Lv L Wg w) {b₀ : Frame} {a₀ : Act} {ops₀ : Array Oper} {i₀ : Nat} {rest₀ : List Nat} {k₀ : List Item} {cs : List Frame} {qt : Nat}
    (hT : QuitsD P qt 0 (G (b₀.at (a₀.put ((ops₀[i₀]?).bind (·.dst)) (.tuple #[])) (.inRegion ops₀ rest₀ :: k₀)) cs)) :
    Idle P false (Lv L Wg) X0 (WRel P L Wg 0) (G (Frame.enter P L.add #[.pointer (some ⟨Wg, 0, none⟩), .int .i64 (-1)] .normal) (b₀.at a₀ (.inRegion ops₀ (i₀ :: rest₀) :: k₀) :: cs)) := by
  lib_facts
  rw [enter_at _ H.f_add rfl]
  walk_nrmf addFn
  refine idle_goes 30 (fun w hF => ?_) hi
  repeat (first
      | (with_reducible (show Go.Conc.Goes _ _ _ _ _ _ (G (Frame.at _ _ _) _) _)
         first
         | u_c stepG_seq (fun _ h => h) hF
         | u_c stepG_skip (fun _ h => h) hF
         | u_c stepG_region_end (fun _ h => h) hF
         | u_c stepG_ret' (fun _ h => h) hF
         | u_reg (fun _ h => h) hF
         | u_cond true (fun _ h => h) hF
         | u_cond false (fun _ h => h) hF
         | u_skip (fun _ h => h) hF
         | (with_reducible (show Go.Conc.Goes _ _ _ _ _ _ (G (Frame.at _ _ (Item.inRegion _ (_ :: _) :: _)) _) _)); u_op (fun _ h => h) hF
         | (with_reducible (show Go.Conc.Goes _ _ _ _ _ _ (G (Frame.at _ _ (Item.inRegion _ (_ :: _) :: _)) _) _)); u_conv H.underlying_tWgP H.room_tWg (WgLive.cell0 hF).choose_spec (fun _ h => h) hF)
      | fail)
  refine Goes.stop (fun w₁ h₁ => ?_)
  clear h₁ hF
  refine ⟨rfl, rfl, _, fun _ _ => stepG_markAt .releaseMerge (by simp) rfl rfl (by k_ne) rfl H.f_relMerge (x_relMerge_n L) (x_relMerge_b L) (x_relMerge_x L) (x_relMerge_f L) (by simp [Act.eval, stA]), ?_⟩
  clear w₁ w
  walk_nrm
  refine rel_next ?_
  refine idle_goes 10 (fun w hF => ?_) hi
  repeat (first
      | (with_reducible (show Go.Conc.Goes _ _ _ _ _ _ (G (Frame.at _ _ _) _) _)
         first
         | u_c stepG_seq (fun _ h => h) hF
         | u_c stepG_skip (fun _ h => h) hF
         | u_c stepG_region_end (fun _ h => h) hF
         | u_c stepG_ret' (fun _ h => h) hF
         | u_reg (fun _ h => h) hF
         | u_cond true (fun _ h => h) hF
         | u_cond false (fun _ h => h) hF
         | u_skip (fun _ h => h) hF
         | (with_reducible (show Go.Conc.Goes _ _ _ _ _ _ (G (Frame.at _ _ (Item.inRegion _ (_ :: _) :: _)) _) _)); u_op (fun _ h => h) hF)
      | fail)
  refine Goes.stop (fun w₁ h₁ => ?_)
  clear h₁ hF
  refine ⟨rfl, _, fun _ _ => stepG_mark0 .disable (by simp) rfl rfl (by k_ne) rfl H.f_disable (x_disable_n L) (x_disable_b L) (x_disable_x L) (x_disable_f L), ?_⟩
  clear w₁ w
  walk_nrm
  refine idle_goes 60 (fun w hF => ?_) hi
  repeat (first
      | (with_reducible (show Go.Conc.Goes _ _ _ _ _ _ (G (Frame.at _ _ _) _) _)
         first
         | u_c stepG_seq (fun _ h => h) hF
         | u_c stepG_skip (fun _ h => h) hF
         | u_c stepG_region_end (fun _ h => h) hF
         | u_c stepG_ret' (fun _ h => h) hF
         | u_reg (fun _ h => h) hF
         | u_cond true (fun _ h => h) hF
         | u_cond false (fun _ h => h) hF
         | u_skip (fun _ h => h) hF
         | u_call H.f_uAdd (nm_uAdd L) uAddFn (fun _ h => h) hF
         | u_defer (fun _ h => h) hF
         | u_bub (fun _ h => h) hF
         | (with_reducible (show Go.Conc.Goes _ _ _ _ _ _ (G (Frame.at _ _ (Item.inRegion _ (_ :: _) :: _)) _) _)); u_op (fun _ h => h) hF)
      | fail)
  refine Goes.stop (fun w₁ h₁ => ?_)
  clear h₁ hF
  refine ⟨rfl, rfl, fun v wt hwt hv => ?_⟩
  have e0 : IntKind.u64.wrap (KK + 18446744069414584320) = 0 := by decide
  have e1 : IntKind.u64.wrap (KK + 1 + 18446744069414584320) = 1 := by decide
  rcases Nat.eq_zero_or_pos v with rfl | hvp <;> (obtain rfl | rfl : wt = 0 ∨ wt = 1 := by omega)
  · have z : ((0 : Nat) : Int) * KK + ((0 : Nat) : Int) = 0 := by simp
    have z' : (((0 : Nat) : Int) + 1) * KK + ((0 : Nat) : Int) = KK := by simp
    rw [z, z']
    refine ⟨_, fun w _ hw => (stepG_add_atomic rfl rfl (by k_ne) rfl H.f_addU64 (x_addU64_n L) (x_addU64_b L) (x_addU64_x L) .u64 (x_addU64_f L) rfl rfl hw.cellSt (hw.thaw 0)).trans (by rw [e0]; rfl), fun hl => absurd hl.2 (by decide), fun _ => ?_⟩
    clear w₁ w
    refine ⟨qt + 250, ?_⟩
    walk_nrm
    repeat (first
        | (with_reducible (show QuitsD _ _ _ (G (Frame.at _ _ _) _))
           first
           | (with_reducible (show QuitsD _ _ _ (G (Frame.at _ _ (Item.code (Code.seq _ _) :: _)) _))); q_c stepG_seq
           | (with_reducible (show QuitsD _ _ _ (G (Frame.at _ _ (Item.code Code.skip :: _)) _))); q_c stepG_skip
           | (with_reducible (show QuitsD _ _ _ (G (Frame.at _ _ (Item.inRegion _ [] :: _)) _))); q_c stepG_region_end
           | (with_reducible (show QuitsD _ _ _ (G (Frame.at _ _ (Item.code (Code.region _ _ _) :: _)) _))); q_reg
           | (with_reducible (show QuitsD _ _ _ (G (Frame.at _ _ (Item.inBlock _ :: _)) _))); q_c stepG_inBlock
           | (with_reducible (show QuitsD _ _ _ (G (Frame.at _ _ (Item.inLoop _ :: _)) _))); q_c stepG_inLoop
           | (with_reducible (show QuitsD _ _ _ (G (Frame.at _ _ (Item.code (Code.block _ _) :: _)) _))); q_c stepG_block
           | (with_reducible (show QuitsD _ _ _ (G (Frame.at _ _ (Item.code (Code.loop _) :: _)) _))); q_c stepG_loop
           | (with_reducible (show QuitsD _ _ _ (G (Frame.at _ _ (Item.code (Code.exit _) :: _)) _))); q_exit
           | (with_reducible (show QuitsD _ _ _ (G (Frame.at _ _ (Item.code (Code.cond _ _ _) :: _)) _))); (q_c (stepG_cond (t := true) (by first | rfl | (simp [Act.eval]; omega)))); (simp only [if_true, if_false, Bool.false_eq_true, ↓reduceIte])
           | (with_reducible (show QuitsD _ _ _ (G (Frame.at _ _ (Item.code (Code.cond _ _ _) :: _)) _))); (q_c (stepG_cond (t := false) (by first | rfl | (simp [Act.eval]; omega)))); (simp only [if_true, if_false, Bool.false_eq_true, ↓reduceIte])
           | (with_reducible (show QuitsD _ _ _ (G (Frame.at _ _ (Item.inRegion _ (_ :: _) :: _)) _))); (first | (q_skip) | ((refine q_value rfl rfl (by k_ne) ?_; apply Exists.intro; refine And.intro (fun _ => ?_) (And.intro (fun _ => ?_) ?_); (go_simp; first | rfl | (w_num; rfl)); (simp [go_sem, *]); walk_nrm; try w_num)))
           | (with_reducible (show QuitsD _ _ _ (G (Frame.at _ _ []) _))); q_c stepG_end
           | q_c stepG_ret')
        | q_leave1 H.f_uAdd)
    q_enable
    q_leave0 H.f_add
    exact quits_more _ hT
  · have z : ((0 : Nat) : Int) * KK + ((1 : Nat) : Int) = 1 := by simp
    have z' : (((0 : Nat) : Int) + 1) * KK + ((1 : Nat) : Int) = KK + 1 := by simp
    rw [z, z']
    refine ⟨_, fun w _ hw => (stepG_add_atomic rfl rfl (by k_ne) rfl H.f_addU64 (x_addU64_n L) (x_addU64_b L) (x_addU64_x L) .u64 (x_addU64_f L) rfl rfl hw.cellSt (hw.thaw 0)).trans (by rw [e1]; rfl), fun _ => idleD_of 1 ?_, fun hl => absurd ⟨rfl, rfl⟩ hl⟩
    clear w₁ w
    walk_nrm
    refine idle_goes 120 (fun w hF => ?_) hi
    repeat (first
        | (with_reducible (show Go.Conc.Goes _ _ _ _ _ _ (G (Frame.at _ _ _) _) _)
           first
           | u_c stepG_seq (fun _ h => h) hF
           | u_c stepG_skip (fun _ h => h) hF
           | u_c stepG_region_end (fun _ h => h) hF
           | u_c stepG_ret' (fun _ h => h) hF
           | u_reg (fun _ h => h) hF
           | u_cond true (fun _ h => h) hF
           | u_cond false (fun _ h => h) hF
           | u_skip (fun _ h => h) hF
           | u_call H.f_uLoad (nm_uLoad L) uLoadFn (fun _ h => h) hF
           | u_cnd true (fun _ h => h) hF
           | u_cnd false (fun _ h => h) hF
           | (with_reducible (show Go.Conc.Goes _ _ _ _ _ _ (G (Frame.at _ _ (Item.inRegion _ (_ :: _) :: _)) _) _)); u_op (fun _ h => h) hF)
        | u_leave1 H.f_uAdd (fun _ h => h) hF)
    refine Goes.stop (fun w₁ h₁ => ?_)
    clear h₁ hF
    refine ⟨rfl, rfl, _, fun w _ hw => stepG_load_atomic (v := 1) rfl rfl (by k_ne) rfl H.f_loadU64 (x_loadU64_n L) (x_loadU64_b L) (x_loadU64_x L) .u64 (x_loadU64_f L) rfl hw.cellSt, idleD_of 1 ?_⟩
    clear w₁ w
    walk_nrm
    refine idle_goes 60 (fun w hF => ?_) hi
    repeat (first
        | (with_reducible (show Go.Conc.Goes _ _ _ _ _ _ (G (Frame.at _ _ _) _) _)
           first
           | u_c stepG_seq (fun _ h => h) hF
           | u_c stepG_skip (fun _ h => h) hF
           | u_c stepG_region_end (fun _ h => h) hF
           | u_c stepG_ret' (fun _ h => h) hF
           | u_reg (fun _ h => h) hF
           | u_cond true (fun _ h => h) hF
           | u_cond false (fun _ h => h) hF
           | u_skip (fun _ h => h) hF
           | u_call H.f_uStore (nm_uStore L) uStoreFn (fun _ h => h) hF
           | u_cnd true (fun _ h => h) hF
           | u_cnd false (fun _ h => h) hF
           | (with_reducible (show Go.Conc.Goes _ _ _ _ _ _ (G (Frame.at _ _ (Item.inRegion _ (_ :: _) :: _)) _) _)); u_op (fun _ h => h) hF)
        | u_leave1 H.f_uLoad (fun _ h => h) hF)
    refine Goes.stop (fun w₁ h₁ => ?_)
    clear h₁ hF
    refine ⟨rfl, rfl, _, fun w _ hw => stepG_store_atomic rfl rfl (by k_ne) rfl H.f_storeU64 (x_storeU64_n L) (x_storeU64_b L) (x_storeU64_x L) (x_storeU64_f L) rfl rfl hw.cellSt (hw.thaw 0), idleD_of 1 ?_⟩
    clear w₁ w
    walk_nrm
    refine idle_goes 60 (fun w hF => ?_) hi
    repeat (first
        | (with_reducible (show Go.Conc.Goes _ _ _ _ _ _ (G (Frame.at _ _ _) _) _)
           first
           | u_c stepG_seq (fun _ h => h) hF
           | u_c stepG_skip (fun _ h => h) hF
           | u_c stepG_region_end (fun _ h => h) hF
           | u_c stepG_ret' (fun _ h => h) hF
           | u_reg (fun _ h => h) hF
           | u_cond true (fun _ h => h) hF
           | u_cond false (fun _ h => h) hF
           | u_skip (fun _ h => h) hF
           | u_cnd true (fun _ h => h) hF
           | u_cnd false (fun _ h => h) hF
           | u_c stepG_end (fun _ h => h) hF
           | u_c stepG_block (fun _ h => h) hF
           | u_c stepG_loop (fun _ h => h) hF
           | (with_reducible (show Go.Conc.Goes _ _ _ _ _ _ (G (Frame.at _ _ (Item.inRegion _ (_ :: _) :: _)) _) _)); u_op (fun _ h => h) hF)
        | u_leave1 H.f_uLoad (fun _ h => h) hF
        | u_leave0 H.f_uStore (fun _ h => h) hF)
    refine Goes.stop (fun w₁ h₁ => ?_)
    clear h₁ hF
    refine ⟨rfl, rfl, mayWake_entry rfl rfl H.f_semrelease (x_semrelease_b L), _, fun w _ hw => (stepG_semrelease rfl rfl (by k_ne) rfl H.f_semrelease (x_semrelease_n L) (x_semrelease_b L) (x_semrelease_x L) (x_semrelease_f L) (by simp [Act.eval, smA]) hw.cellSm (hw.thaw 1)).trans (by rfl), ?_⟩
    clear w₁ w
    refine ⟨qt + 250, ?_⟩
    walk_nrm
    repeat (first
        | (with_reducible (show QuitsD _ _ _ (G (Frame.at _ _ _) _))
           first
           | (with_reducible (show QuitsD _ _ _ (G (Frame.at _ _ (Item.code (Code.seq _ _) :: _)) _))); q_c stepG_seq
           | (with_reducible (show QuitsD _ _ _ (G (Frame.at _ _ (Item.code Code.skip :: _)) _))); q_c stepG_skip
           | (with_reducible (show QuitsD _ _ _ (G (Frame.at _ _ (Item.inRegion _ [] :: _)) _))); q_c stepG_region_end
           | (with_reducible (show QuitsD _ _ _ (G (Frame.at _ _ (Item.code (Code.region _ _ _) :: _)) _))); q_reg
           | (with_reducible (show QuitsD _ _ _ (G (Frame.at _ _ (Item.inBlock _ :: _)) _))); q_c stepG_inBlock
           | (with_reducible (show QuitsD _ _ _ (G (Frame.at _ _ (Item.inLoop _ :: _)) _))); q_c stepG_inLoop
           | (with_reducible (show QuitsD _ _ _ (G (Frame.at _ _ (Item.code (Code.block _ _) :: _)) _))); q_c stepG_block
           | (with_reducible (show QuitsD _ _ _ (G (Frame.at _ _ (Item.code (Code.loop _) :: _)) _))); q_c stepG_loop
           | (with_reducible (show QuitsD _ _ _ (G (Frame.at _ _ (Item.code (Code.exit _) :: _)) _))); q_exit
           | (with_reducible (show QuitsD _ _ _ (G (Frame.at _ _ (Item.code (Code.cond _ _ _) :: _)) _))); (q_c (stepG_cond (t := true) (by first | rfl | (simp [Act.eval]; omega)))); (simp only [if_true, if_false, Bool.false_eq_true, ↓reduceIte])
           | (with_reducible (show QuitsD _ _ _ (G (Frame.at _ _ (Item.code (Code.cond _ _ _) :: _)) _))); (q_c (stepG_cond (t := false) (by first | rfl | (simp [Act.eval]; omega)))); (simp only [if_true, if_false, Bool.false_eq_true, ↓reduceIte])
           | (with_reducible (show QuitsD _ _ _ (G (Frame.at _ _ (Item.inRegion _ (_ :: _) :: _)) _))); (first | (q_skip) | ((refine q_value rfl rfl (by k_ne) ?_; apply Exists.intro; refine And.intro (fun _ => ?_) (And.intro (fun _ => ?_) ?_); (go_simp; first | rfl | (w_num; rfl)); (simp [go_sem, *]); walk_nrm; try w_num)))
           | (with_reducible (show QuitsD _ _ _ (G (Frame.at _ _ []) _))); q_c stepG_end
           | q_c stepG_ret')
        | q_leave1 H.f_uAdd)
    q_enable
    q_leave0 H.f_add
    exact quits_more _ hT
  · obtain ⟨V, hV⟩ : ∃ V : Int, V = (v : Int) := ⟨_, rfl⟩
    obtain ⟨N, hN⟩ : ∃ N : Int, N = V * KK + 0 := ⟨_, rfl⟩
    have eN : IntKind.u64.wrap (((v : Int) + 1) * KK + 0 + 18446744069414584320) = N := by rw [IntKind.wrap_u64, hN, hV]; simp only [KK]; omega
    have z : ((v : Nat) : Int) * KK + ((0 : Nat) : Int) = N := by rw [hN, hV]; simp
    have z' : (((v : Nat) : Int) + 1) * KK + ((0 : Nat) : Int) = ((v : Int) + 1) * KK + 0 := by simp
    have a1 : N / 4294967296 = V := by rw [hN]; simp only [KK]; omega
    have b1 : bits .and .u64 N 2147483648 = 0 := by rw [hN, hV]; have := st_flag v 0 (by omega) (by omega); simpa [KK] using this
    have b2 : bits .and .u64 N 2147483647 = 0 := by rw [hN, hV]; have := st_waiters v 0 (by omega) (by omega); simpa [KK] using this
    have c1 : IntKind.i32.wrap V = V := by rw [IntKind.wrap_i32]; omega
    have hV1 : 0 < V := by omega
    have hV2 : V < 2147483648 := by omega
    have q2 : decide (V = -1) = false := decide_eq_false (by omega)
    have q1 : (V == -1) = false := by simp; omega
    have q3 : decide (V < 0) = false := decide_eq_false (by omega)
    have q4 : decide (0 < V) = true := decide_eq_true (by omega)
    have q5 : (V == 0) = false := by simp; omega
    have q6 : decide (V = 0) = false := decide_eq_false (by omega)
    rw [z, z']
    refine ⟨_, fun w _ hw => (stepG_add_atomic rfl rfl (by k_ne) rfl H.f_addU64 (x_addU64_n L) (x_addU64_b L) (x_addU64_x L) .u64 (x_addU64_f L) rfl rfl hw.cellSt (hw.thaw 0)).trans (by rw [eN]; rfl), fun hl => absurd hl.1 (by omega), fun _ => ?_⟩
    clear hV hN eN z z' w₁ w
    refine ⟨qt + 250, ?_⟩
    walk_nrm
    repeat (first
        | (with_reducible (show QuitsD _ _ _ (G (Frame.at _ _ _) _))
           first
           | (with_reducible (show QuitsD _ _ _ (G (Frame.at _ _ (Item.code (Code.seq _ _) :: _)) _))); q_c stepG_seq
           | (with_reducible (show QuitsD _ _ _ (G (Frame.at _ _ (Item.code Code.skip :: _)) _))); q_c stepG_skip
           | (with_reducible (show QuitsD _ _ _ (G (Frame.at _ _ (Item.inRegion _ [] :: _)) _))); q_c stepG_region_end
           | (with_reducible (show QuitsD _ _ _ (G (Frame.at _ _ (Item.code (Code.region _ _ _) :: _)) _))); q_reg
           | (with_reducible (show QuitsD _ _ _ (G (Frame.at _ _ (Item.inBlock _ :: _)) _))); q_c stepG_inBlock
           | (with_reducible (show QuitsD _ _ _ (G (Frame.at _ _ (Item.inLoop _ :: _)) _))); q_c stepG_inLoop
           | (with_reducible (show QuitsD _ _ _ (G (Frame.at _ _ (Item.code (Code.block _ _) :: _)) _))); q_c stepG_block
           | (with_reducible (show QuitsD _ _ _ (G (Frame.at _ _ (Item.code (Code.loop _) :: _)) _))); q_c stepG_loop
           | (with_reducible (show QuitsD _ _ _ (G (Frame.at _ _ (Item.code (Code.exit _) :: _)) _))); q_exit
           | (with_reducible (show QuitsD _ _ _ (G (Frame.at _ _ (Item.code (Code.cond _ _ _) :: _)) _))); (q_c (stepG_cond (t := true) (by first | rfl | (simp [Act.eval]; omega)))); (simp only [if_true, if_false, Bool.false_eq_true, ↓reduceIte])
           | (with_reducible (show QuitsD _ _ _ (G (Frame.at _ _ (Item.code (Code.cond _ _ _) :: _)) _))); (q_c (stepG_cond (t := false) (by first | rfl | (simp [Act.eval]; omega)))); (simp only [if_true, if_false, Bool.false_eq_true, ↓reduceIte])
           | (with_reducible (show QuitsD _ _ _ (G (Frame.at _ _ (Item.inRegion _ (_ :: _) :: _)) _))); (first | (q_skip) | ((refine q_value rfl rfl (by k_ne) ?_; apply Exists.intro; refine And.intro (fun _ => ?_) (And.intro (fun _ => ?_) ?_); (go_simp; first | rfl | (w_num; rfl)); (simp [go_sem, *]); walk_nrm; try w_num)))
           | (with_reducible (show QuitsD _ _ _ (G (Frame.at _ _ []) _))); q_c stepG_end
           | q_c stepG_ret')
        | q_leave1 H.f_uAdd)
    q_enable
    q_leave0 H.f_add
    exact quits_more _ hT
  · obtain ⟨V, hV⟩ : ∃ V : Int, V = (v : Int) := ⟨_, rfl⟩
    obtain ⟨N, hN⟩ : ∃ N : Int, N = V * KK + 1 := ⟨_, rfl⟩
    have eN : IntKind.u64.wrap (((v : Int) + 1) * KK + 1 + 18446744069414584320) = N := by rw [IntKind.wrap_u64, hN, hV]; simp only [KK]; omega
    have z : ((v : Nat) : Int) * KK + ((1 : Nat) : Int) = N := by rw [hN, hV]; simp
    have z' : (((v : Nat) : Int) + 1) * KK + ((1 : Nat) : Int) = ((v : Int) + 1) * KK + 1 := by simp
    have a1 : N / 4294967296 = V := by rw [hN]; simp only [KK]; omega
    have b1 : bits .and .u64 N 2147483648 = 0 := by rw [hN, hV]; have := st_flag v 1 (by omega) (by omega); simpa [KK] using this
    have b2 : bits .and .u64 N 2147483647 = 1 := by rw [hN, hV]; have := st_waiters v 1 (by omega) (by omega); simpa [KK] using this
    have c1 : IntKind.i32.wrap V = V := by rw [IntKind.wrap_i32]; omega
    have hV1 : 0 < V := by omega
    have hV2 : V < 2147483648 := by omega
    have q2 : decide (V = -1) = false := decide_eq_false (by omega)
    have q1 : (V == -1) = false := by simp; omega
    have q3 : decide (V < 0) = false := decide_eq_false (by omega)
    have q4 : decide (0 < V) = true := decide_eq_true (by omega)
    have q5 : (V == 0) = false := by simp; omega
    have q6 : decide (V = 0) = false := decide_eq_false (by omega)
    rw [z, z']
    refine ⟨_, fun w _ hw => (stepG_add_atomic rfl rfl (by k_ne) rfl H.f_addU64 (x_addU64_n L) (x_addU64_b L) (x_addU64_x L) .u64 (x_addU64_f L) rfl rfl hw.cellSt (hw.thaw 0)).trans (by rw [eN]; rfl), fun hl => absurd hl.1 (by omega), fun _ => ?_⟩
    clear hV hN eN z z' w₁ w
    refine ⟨qt + 250, ?_⟩
    walk_nrm
    repeat (first
        | (with_reducible (show QuitsD _ _ _ (G (Frame.at _ _ _) _))
           first
           | (with_reducible (show QuitsD _ _ _ (G (Frame.at _ _ (Item.code (Code.seq _ _) :: _)) _))); q_c stepG_seq
           | (with_reducible (show QuitsD _ _ _ (G (Frame.at _ _ (Item.code Code.skip :: _)) _))); q_c stepG_skip
           | (with_reducible (show QuitsD _ _ _ (G (Frame.at _ _ (Item.inRegion _ [] :: _)) _))); q_c stepG_region_end
           | (with_reducible (show QuitsD _ _ _ (G (Frame.at _ _ (Item.code (Code.region _ _ _) :: _)) _))); q_reg
           | (with_reducible (show QuitsD _ _ _ (G (Frame.at _ _ (Item.inBlock _ :: _)) _))); q_c stepG_inBlock
           | (with_reducible (show QuitsD _ _ _ (G (Frame.at _ _ (Item.inLoop _ :: _)) _))); q_c stepG_inLoop
           | (with_reducible (show QuitsD _ _ _ (G (Frame.at _ _ (Item.code (Code.block _ _) :: _)) _))); q_c stepG_block
           | (with_reducible (show QuitsD _ _ _ (G (Frame.at _ _ (Item.code (Code.loop _) :: _)) _))); q_c stepG_loop
           | (with_reducible (show QuitsD _ _ _ (G (Frame.at _ _ (Item.code (Code.exit _) :: _)) _))); q_exit
           | (with_reducible (show QuitsD _ _ _ (G (Frame.at _ _ (Item.code (Code.cond _ _ _) :: _)) _))); (q_c (stepG_cond (t := true) (by first | rfl | (simp [Act.eval]; omega)))); (simp only [if_true, if_false, Bool.false_eq_true, ↓reduceIte])
           | (with_reducible (show QuitsD _ _ _ (G (Frame.at _ _ (Item.code (Code.cond _ _ _) :: _)) _))); (q_c (stepG_cond (t := false) (by first | rfl | (simp [Act.eval]; omega)))); (simp only [if_true, if_false, Bool.false_eq_true, ↓reduceIte])
           | (with_reducible (show QuitsD _ _ _ (G (Frame.at _ _ (Item.inRegion _ (_ :: _) :: _)) _))); (first | (q_skip) | ((refine q_value rfl rfl (by k_ne) ?_; apply Exists.intro; refine And.intro (fun _ => ?_) (And.intro (fun _ => ?_) ?_); (go_simp; first | rfl | (w_num; rfl)); (simp [go_sem, *]); walk_nrm; try w_num)))
           | (with_reducible (show QuitsD _ _ _ (G (Frame.at _ _ []) _))); q_c stepG_end
           | q_c stepG_ret')
        | q_leave1 H.f_uAdd)
    q_enable
    q_leave0 H.f_add
    exact quits_more _ hT
end
end Go.Ren
end
section
set_option linter.unusedVariables false
set_option linter.unusedSectionVars false
set_option linter.unusedSimpArgs false
namespace Go.Ren
open Go.Conc hiding Goes
open Go.Conc.Lib Go.ConcR.Gen Go.RowKit Go.ConcN Go.ConcN.Gen
open Go.ConcR (KK wgBlock WgAt stA smA rd wr mk DC0)
section
variable {P : Program} {L : WgLink} {Wg : Nat} {S T : Goroutine → Prop}
set_option maxRecDepth 100000 in
set_option maxHeartbeats 8000000 in
theorem done_walk (H : WgLib P L) (hi : ∃ w, Lv L Wg w) {c : Frame} {cs : List Frame} {qt : Nat} (hcm : c.mode = .returning) (hT : QuitsD P qt 0 (G c cs)) :
    Idle P false (Lv L Wg) X0 (WRel P L Wg 0) (G (Frame.enter P L.done #[.pointer (some ⟨Wg, 0, none⟩)] .deferred) (c :: cs)) := by
  lib_facts
  rw [enter_atD _ H.f_done rfl]
  walk_nrmf doneFn
  have hA := @add_neg P L Wg H hi
  simp only [enter_at #[Value.pointer (some (Addr.mk Wg 0 none)), Value.int .i64 (-1)] H.f_add rfl] at hA
  simp only [addFn, Act.put, Act.eval, List.map_toArray, List.map_cons, List.map_nil, Array.getD_eq_getD_getElem?, List.getElem?_toArray, List.getElem?_cons_succ, List.getElem?_cons_zero, Option.getD_some, Option.bind_some, List.size_toArray, List.length_cons, List.length_nil, Nat.reduceAdd, Nat.reduceSub, Array.replicate_succ, Array.replicate_zero, List.push_toArray, List.append_toArray, List.nil_append, List.cons_append, List.setIfInBounds_toArray, List.set_cons_succ, List.set_cons_zero, List.getElem_toArray, List.getElem_cons_succ, List.getElem_cons_zero] at hA
  refine Idle.go rfl (fun _ _ => stepG_region) ?_
  simp only [List.size_toArray, List.length_cons, List.length_nil, Nat.reduceAdd, Nat.zero_add, List.range, List.range.loop]
  refine Idle.mk rfl (fun w hw => ?_)
  refine goes_oper_k rfl rfl (by k_ne) (fun K hK => ?_)
  go_simp
  refine hK _ _ ⟨rfl, quiet_of ?_, ?_⟩
  · intro e he
    have hm := mem_listed he
    simp [go_sem, *] at hm
  clear hK K hw w
  refine Idle.mk rfl (fun w hw => ?_)
  refine goes_call rfl rfl (by k_ne) rfl H.f_add (nm_add L) rfl ⟨rfl, quiet, ?_⟩
  clear hw w
  walk_nrmf addFn
  refine hA (qt := qt + 3) ?_
  clear hA
  walk_nrm
  q_c stepG_region_end
  q_c stepG_end
  exact QuitsD.leaveD rfl rfl H.f_done rfl hcm hT
end
end Go.Ren
end
section
set_option linter.unusedVariables false
set_option linter.unusedSectionVars false
set_option linter.unusedSimpArgs false
namespace Go.Am
open Go.Conc (born QuitsD G)
open Go.Ren (grow EvO Guar Rely Wk WkD Idle IdleD X0 Lv WRel)
section
variable {P : Program} {ρ σ : Env} {O D : Nat → Prop} {h h' : AH} {w w' : World} {X : Event → Prop} {m : Bool} {base cs : List Frame} {I : World → Prop}
def plainFn (P : Program) (f : FuncId) : Bool := match P.funcs[f]? with
  | some fn => fn.body.isSome && !(fn.name == "runtime.NumGoroutine")
  | none => false
theorem run_callFunc {f : FuncId} {args : Array Value} (hf : plainFn P f = true) : ∀ (w : World) es₀, (callFunc f args).runT P w es₀ = (.ok (.enter f args) w, es₀ ++ #[]) := by
  unfold plainFn at hf
  intro w es₀
  cases hfn : P.funcs[f]? with
  | none => rw [hfn] at hf; cases hf
  | some fn =>
    rw [hfn] at hf
    simp only [Bool.and_eq_true, Bool.not_eq_true'] at hf
    have hb : ¬ fn.body = none := by cases hx : fn.body <;> simp_all
    have hn : ¬ fn.name = "runtime.NumGoroutine" := by simpa using hf.2
    unfold callFunc
    simp [program, -Sem.runT_eq, Sem.runT, bind, pure, Sem.bind, hfn, hn, hb]
def botF (P : Program) : Frame := { (default : Frame) with fn := P.funcs.size, defers := [], mode := .panicking [goexitEntry] }
theorem born_step {f : FuncId} {cap args : Array Value} (hf : plainFn P f = true) (w : World) :
    stepG P m (born P { target := .fn (.func f) cap, args }) w = .go (gor (Frame.enter P f (args ++ cap) .deferred) [botF P]) w #[] := by
  have hr := run_callFunc (args := args ++ cap) hf w #[]
  have h2 : (invoke (.fn (.func f) cap) args).runT P w #[] = (.ok (.enter f (args ++ cap)) w, #[]) := by
    rw [show invoke (.fn (.func f) cap) args = callFunc f (args ++ cap) from rfl, hr]
    rfl
  simp only [born, stepG, unwind, callDeferred, h2]
  simp [GStep.after, gor, botF, seen]
theorem bot_quits {f' : Frame} {fn : Func} (hm : f'.mode = .returning) (hd : f'.defers = []) (hk : f'.kind = .deferred) (hfn : P.funcs[f'.fn]? = some fn) (hres : fn.results = #[]) : QuitsD P 2 0 (gor f' [botF P]) := by
  refine QuitsD.ctl (g' := gor (botF P) []) rfl (fun w => ?_) ?_
  · rw [stepG_ret hm]
    obtain ⟨g, tmps, todo, defers, mode, kind, ro⟩ := f'
    dsimp only at hm hd hk hfn
    subst hm hd hk
    simp [unwind, hfn, results, hres, doReturn, botF, goexitEntry, gor, seen, GStep.after, pure]
  refine QuitsD.ctl (n := 0) (g' := { gor (botF P) [] with status := .finished }) rfl (fun w => ?_) ⟨rfl, rfl⟩
  simp [gor, stepG, unwind, botF, goexitEntry, Frame.catches]
  rfl
end
end Go.Am
end
section
set_option linter.unusedVariables false
set_option linter.unusedSectionVars false
set_option linter.unusedSimpArgs false
namespace Go.Am
open Go.Conc (born QuitsD G)
open Go.Conc.Lib
open Go.Ren (grow EvO Guar Rely Wk WkD Idle IdleD X0 Lv WRel)
def actl (a : AFr) : Option AFr :=
  match a.ret, a.round, a.todo with
  | true, _, _ | _, some _, _ => none
  | false, none, [] => some { a with ret := true }
  | false, none, .code .ret :: _ => some { a with ret := true }
  | false, none, .code .skip :: k => some { a with todo := k }
  | false, none, .inBlock _ :: k => some { a with todo := k }
  | false, none, .inScope _ :: k => some { a with todo := k }
  | false, none, .region _ [] :: k => some { a with todo := k }
  | false, none, .code (.seq x y) :: k => some { a with todo := .code x :: .code y :: k }
  | _, _, _ => none
def atoret : Nat → AFr → Option AFr
  | 0, a => if a.ret then some a else none
  | n + 1, a => if a.ret then some a else (actl a).bind (atoret n)
section
variable {P : Program} {ρ σ : Env} {O D : Nat → Prop} {h h' : AH} {w w' : World} {X : Event → Prop} {m : Bool} {base cs : List Frame} {I : World → Prop} {a a' : AFr} {f : Frame}
theorem actl_r (hf : F0 ρ a f) (e : actl a = some a') : ∃ f', (∀ w, stepG P m (gor f cs) w = .go (gor f' cs) w #[]) ∧ F0 ρ a' f' := by
  obtain ⟨afn, atm, atd, ads, aret, aro, adk⟩ := a
  obtain ⟨fn, tmps, todo, defers, mode, kind, ro⟩ := f
  obtain ⟨⟨h1, h2, h3, h4, h5⟩, h6, h7⟩ := hf
  dsimp only at h1 h2 h3 h4 h5 h6 h7
  unfold actl at e
  cases aret with
  | true => simp at e
  | false =>
  cases aro with
  | some l => simp at e
  | none =>
  cases h5
  simp only [Bool.false_eq_true, if_false] at h3
  subst h3
  have run : ∀ w, stepG P m (gor ⟨fn, tmps, todo, defers, .run, kind, none⟩ cs) w = stepG.exec P m true ⟨fn, tmps, todo, defers, .run, kind, none⟩ cs none w := fun w => stepG_run rfl
  have back : ∀ {k k'}, LR (ItR ρ) k k' → F0 ρ ⟨afn, atm, k, ads, false, none, adk⟩ ⟨fn, tmps, k', defers, .run, kind, none⟩ := fun hk => ⟨⟨h1, h2, rfl, h4, .none⟩, h6, hk⟩
  have out : F0 ρ ⟨afn, atm, atd, ads, true, none, adk⟩ ⟨fn, tmps, todo, defers, .returning, kind, none⟩ := ⟨⟨h1, h2, rfl, h4, .none⟩, h6, h7⟩
  cases h7 with
  | nil =>
    cases e
    exact ⟨_, fun w => by rw [run]; simp only [stepG.exec]; rfl, out⟩
  | @cons x y k k' hi hl =>
    cases hi with
    | inBlock id => cases e; exact ⟨_, fun w => by rw [run]; simp only [stepG.exec]; rfl, back hl⟩
    | inScope b => cases e; exact ⟨_, fun w => by rw [run]; simp only [stepG.exec]; rfl, back hl⟩
    | region ops l =>
      cases l with
      | nil => cases e; exact ⟨_, fun w => by rw [run]; simp only [stepG.exec]; rfl, back hl⟩
      | cons i l => cases e
    | code c =>
      cases c with
      | skip => cases e; exact ⟨_, fun w => by rw [run]; simp only [stepG.exec]; rfl, back hl⟩
      | ret => cases e; exact ⟨_, fun w => by rw [run]; simp only [stepG.exec]; rfl, out⟩
      | seq x y => cases e; exact ⟨_, fun w => by rw [run]; simp only [stepG.exec]; rfl, back (.cons (.code _) (.cons (.code _) hl))⟩
      | _ => cases e
    | _ => cases e
theorem atoret_idle {d : Nat} : ∀ (n : Nat) {a : AFr} {f : Frame}, F0 ρ a f → atoret n a = some a' → IdleD P m I X (fun d' g => d' = d ∧ ∃ f', F0 ρ a' f' ∧ a'.ret = true ∧ g = gor f' cs) d (gor f cs)
  | 0, a, f, hf, e => by
    unfold atoret at e
    split at e
    · rename_i hr; cases e; exact .stop ⟨rfl, f, hf, hr, rfl⟩
    · cases e
  | n + 1, a, f, hf, e => by
    unfold atoret at e
    split at e
    · rename_i hr; cases e; exact .stop ⟨rfl, f, hf, hr, rfl⟩
    · cases ha : actl a with
      | none => rw [ha] at e; cases e
      | some a₁ =>
        rw [ha] at e
        obtain ⟨f', h1, h2⟩ := actl_r (P := P) (m := m) (cs := cs) hf ha
        refine .step rfl (fun _ => gor f' cs) (fun _ => #[]) (fun w _ => ⟨h1 w, by simp⟩) fun w _ => ?_
        exact atoret_idle n h2 e
structure DoneOnly (P : Program) (L : WgLink) (gb : Nat) (a : AFr) : Prop where
  ret : a.ret = true
  dk : a.dk = true
  fn : ∃ fn, P.funcs[a.fn]? = some fn ∧ fn.results = #[]
  defers : a.defers = [{ target := .fn (.func L.done) #[], args := #[.pointer (some ⟨gb, 0, none⟩)] }]
theorem done_idle {L : WgLink} {Wg gb : Nat} (H : WgLib P L) (hp : plainFn P L.done = true) (hi : ∃ w, Lv L Wg w) (hf : F0 ρ a f) (hd : DoneOnly P L gb a) (hg : ρ.to gb = (Wg, 0)) (hro : a.round = none) : IdleD P false (Lv L Wg) X0 (WRel P L Wg) 0 (gor f [botF P]) := by
  have hm : f.mode = .returning := by have := hf.mode; rw [hd.ret] at this; exact this
  have hk : f.kind = .deferred := by have := hf.kind; rw [hd.dk] at this; exact this
  have hdf := hf.defers
  rw [hd.defers] at hdf
  have hfd : f.defers = [{ target := .fn (.func L.done) #[], args := #[.pointer (some ⟨Wg, 0, none⟩)] }] := by
    generalize f.defers = z at hdf
    cases hdf with
    | @cons _ y _ ys hx hl =>
      cases hl
      obtain ⟨ht, ha⟩ := hx
      obtain ⟨yt, ya⟩ := y
      dsimp only at ht ha
      cases ht with
      | fn hfn hc =>
        cases hfn
        rename_i c
        have hce : c = #[] := Array.eq_empty_of_size_eq_zero (by have := hc.1; simpa using this.symm)
        subst hce
        have hs : ya.size = 1 := by have := ha.1; simpa using this.symm
        obtain ⟨v, rfl⟩ : ∃ v, ya = #[v] := by
          refine ⟨ya[0], ?_⟩
          apply Array.ext (by simp [hs])
          intro i h1 h2
          simp at h2
          subst h2
          rfl
        have := ha.2 0 _ v rfl rfl
        cases this with
        | ptr hb => simp [Env.addr, hg]
  obtain ⟨fn, hfn, hres⟩ := hd.fn
  have hq : QuitsD P 2 0 (gor { f with defers := [] } [botF P]) := bot_quits (f' := { f with defers := [] }) hm rfl hk (by show P.funcs[f.fn]? = _; rw [hf.fn]; exact hfn) hres
  refine .step rfl (fun _ => gor (Frame.enter P L.done #[.pointer (some ⟨Wg, 0, none⟩)] .deferred) [{ f with defers := [] }, botF P]) (fun _ => #[]) (fun w _ => ⟨?_, by simp⟩) fun w _ => ?_
  · rw [stepG_ret hm]
    unfold unwind
    rw [hfd]
    dsimp only
    unfold callDeferred
    have hr := run_callFunc (args := #[Value.pointer (some ⟨Wg, 0, none⟩)]) hp w #[]
    have h2 : (invoke (.fn (.func L.done) #[]) #[Value.pointer (some ⟨Wg, 0, none⟩)]).runT P w #[] = (.ok (.enter L.done #[.pointer (some ⟨Wg, 0, none⟩)]) w, #[]) := by
      rw [show invoke (.fn (.func L.done) #[]) #[Value.pointer (some ⟨Wg, 0, none⟩)] = callFunc L.done #[.pointer (some ⟨Wg, 0, none⟩)] from rfl, hr]
      rfl
    dsimp only
    rw [h2]
    simp [GStep.after, gor, seen]
  · show IdleD P false (Lv L Wg) X0 (WRel P L Wg) 0 _
    have := Go.Ren.done_walk H hi (c := { f with defers := [] }) (cs := [botF P]) hm hq
    exact Go.Ren.idleD_of (S := WRel P L Wg) 0 this
end
end Go.Am
end
