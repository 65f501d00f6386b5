/- A part of the proof that the frame keeps its roots: lemmas on which it leans. -/
import Derived.Test.YtfchamaikodjpaaGreatH18
import Derived.Test.YtfchamaikodjpaaGreatH21
section
set_option linter.unusedVariables false
set_option linter.unusedSectionVars false
set_option linter.unusedSimpArgs false
namespace Go.Am
open Go.Conc (born QuitsD G scase rcase)
open Go.Conc.Lib
open Go.Ren (grow EvO Guar Rely Wk WkD Idle IdleD X0 Lv WRel WSend WSnd WSkip hearing)
section
variable {P : Program} {ρ σ : Env} {O D : Nat → Prop} {h h' : AH} {w w' : World} {X : Event → Prop} {m : Bool} {base cs : List Frame} {I : World → Prop} {a a' : AFr} {f : Frame} {lo hi : Nat} {ops : Array Oper} {i : Nat} {o : Oper} {s₀ : AS} {pl : Plan}
theorem FSt.f0 (hf : FSt ρ lo hi a f) (ht : ∀ ops l k, a.todo ≠ .drawn ops l :: k) : F0 ρ a f := by
  cases hf with
  | plain k => exact k
  | ahead k _ => obtain ⟨k1, _, t1, _⟩ := k.todo; exact absurd t1 (ht _ _ _)
theorem FT.f0 (hf : FT P ρ lo h a f) (ht : ∀ ops l k, a.todo ≠ .drawn ops l :: k) : F0 ρ a f := by
  cases hf with
  | plain k => exact k
  | ahead k _ => obtain ⟨k1, _, t1, _⟩ := k.todo; exact absurd t1 (ht _ _ _)
structure ASkip (P : Program) (L : WgLink) (gb : Nat) (s : AS) : Prop where
  cs : s.cs = []
  todo : ∀ ops l k, s.fr.todo ≠ .drawn ops l :: k
  at_ : ∃ n a'', atoret n s.fr = some a'' ∧ DoneOnly P L gb a'' ∧ a''.round = none
theorem tail_idle {L : WgLink} {Wg gb n : Nat} (H : WgLib P L) (hp : plainFn P L.done = true) (hi : ∃ w, Lv L Wg w) (hf : F0 ρ a f) (e : atoret n a = some a') (hd : DoneOnly P L gb a') (hro : a'.round = none) (hg : ρ.to gb = (Wg, 0)) :
    IdleD P false (Lv L Wg) X0 (WRel P L Wg) 0 (gor f [botF P]) := by
  refine (atoret_idle n hf e).bind ?_
  rintro d g ⟨rfl, f', h1, h2, rfl⟩
  exact done_idle H hp hi h1 hd hg hro
end
end Go.Am
end
section
set_option linter.unusedVariables false
set_option linter.unusedSectionVars false
set_option linter.unusedSimpArgs false
namespace Go.Ren
open Go.Conc hiding Goes
open Go.Conc.Lib Go.ConcR.Gen Go.RowKit Go.ConcN Go.ConcN.Gen
open Go.ConcR (KK wgBlock WgAt stA smA rd wr mk DC0)
section
variable {P : Program} {m : Bool} {X : Event → Prop} {L : WgLink} {Wg : Nat} {S T : Goroutine → Prop}
set_option maxRecDepth 100000 in
set_option maxHeartbeats 8000000 in
theorem add_pos (H : WgLib P L) (hi : ∃ w, Lv L Wg w) (hX : ∀ a : Addr, a.block = Wg → X ⟨.mark (.read a), false, true⟩)
    {b₀ : Frame} {a₀ : Act} {ops₀ : Array Oper} {i₀ : Nat} {rest₀ : List Nat} {k₀ : List Item} {cs : List Frame}
    (hT : T (G (b₀.at (a₀.put ((ops₀[i₀]?).bind (·.dst)) (.tuple #[])) (.inRegion ops₀ rest₀ :: k₀)) cs)) :
    AddS P m X L Wg T (G (Frame.enter P L.add #[.pointer (some ⟨Wg, 0, none⟩), .int .i64 1] .normal) (b₀.at a₀ (.inRegion ops₀ (i₀ :: rest₀) :: k₀) :: cs)) := by
  lib_facts
  rw [enter_at _ H.f_add rfl]
  unfold AddS
  walk_nrmf addFn
  refine idle_goes 30 (fun w hF => ?_) hi
  repeat (first
      | (with_reducible (show Go.Conc.Goes _ _ _ _ _ _ (G (Frame.at _ _ _) _) _)
         first
         | u_c stepG_seq (fun _ h => h) hF
         | u_c stepG_skip (fun _ h => h) hF
         | u_c stepG_region_end (fun _ h => h) hF
         | u_c stepG_ret' (fun _ h => h) hF
         | u_reg (fun _ h => h) hF
         | u_cond true (fun _ h => h) hF
         | u_cond false (fun _ h => h) hF
         | u_skip (fun _ h => h) hF
         | (with_reducible (show Go.Conc.Goes _ _ _ _ _ _ (G (Frame.at _ _ (Item.inRegion _ (_ :: _) :: _)) _) _)); u_op (fun _ h => h) hF)
      | fail)
  refine Goes.stop (fun w₁ h₁ => ?_)
  clear h₁ hF
  refine ⟨rfl, _, fun _ _ => stepG_mark0 .disable (by simp) rfl rfl (by k_ne) rfl H.f_disable (x_disable_n L) (x_disable_b L) (x_disable_x L) (x_disable_f L), ?_⟩
  clear w₁ w
  walk_nrm
  refine idle_goes 60 (fun w hF => ?_) hi
  repeat (first
      | (with_reducible (show Go.Conc.Goes _ _ _ _ _ _ (G (Frame.at _ _ _) _) _)
         first
         | u_c stepG_seq (fun _ h => h) hF
         | u_c stepG_skip (fun _ h => h) hF
         | u_c stepG_region_end (fun _ h => h) hF
         | u_c stepG_ret' (fun _ h => h) hF
         | u_reg (fun _ h => h) hF
         | u_cond true (fun _ h => h) hF
         | u_cond false (fun _ h => h) hF
         | u_skip (fun _ h => h) hF
         | u_call H.f_uAdd (nm_uAdd L) uAddFn (fun _ h => h) hF
         | u_defer (fun _ h => h) hF
         | u_bub (fun _ h => h) hF
         | (with_reducible (show Go.Conc.Goes _ _ _ _ _ _ (G (Frame.at _ _ (Item.inRegion _ (_ :: _) :: _)) _) _)); u_op (fun _ h => h) hF)
      | fail)
  refine Goes.stop (fun w₁ h₁ => ?_)
  clear h₁ hF
  refine ⟨rfl, fun v hv => ?_⟩
  rcases Nat.eq_zero_or_pos v with rfl | hvp
  · have z : (((0 : Nat) : Int) + 1) * KK = KK := by simp
    have z0 : ((0 : Nat) : Int) * KK = 0 := by simp
    rw [z, z0]
    have e0 : IntKind.u64.wrap (0 + 4294967296) = KK := by decide
    refine ⟨_, fun w _ hw => (stepG_add_atomic rfl rfl (by k_ne) rfl H.f_addU64 (x_addU64_n L) (x_addU64_b L) (x_addU64_x L) .u64 (x_addU64_f L) rfl rfl hw.cellSt (hw.thaw 0)).trans (by rw [e0]; rfl), ?_⟩
    clear w₁ w
    simp only [KK]
    walk_nrm
    refine Idle.bind (S := Says P m (Lv L Wg) #[⟨.mark (.read ⟨Wg, 1, none⟩), false, true⟩] (Idle P m (Lv L Wg) X (Says P m (Lv L Wg) #[mk .enable] (Idle P m (Lv L Wg) X T)))) ?_
      (fun g ⟨hs, g', hg, hk⟩ => Idle.says hs hg (fun w hw e he => by rw [Array.mem_singleton] at he; subst he; exact ⟨hX _ rfl, live_lt hw⟩) hk)
    refine idle_goes 90 (fun w hF => ?_) hi
    repeat (first
        | (with_reducible (show Go.Conc.Goes _ _ _ _ _ _ (G (Frame.at _ _ _) _) _)
           first
           | u_c stepG_seq (fun _ h => h) hF
           | u_c stepG_skip (fun _ h => h) hF
           | u_c stepG_region_end (fun _ h => h) hF
           | u_c stepG_ret' (fun _ h => h) hF
           | u_reg (fun _ h => h) hF
           | u_cond true (fun _ h => h) hF
           | u_cond false (fun _ h => h) hF
           | u_skip (fun _ h => h) hF
           | (with_reducible (show Go.Conc.Goes _ _ _ _ _ _ (G (Frame.at _ _ (Item.inRegion _ (_ :: _) :: _)) _) _)); u_op (fun _ h => h) hF
           | (with_reducible (show Go.Conc.Goes _ _ _ _ _ _ (G (Frame.at _ _ (Item.inRegion _ (_ :: _) :: _)) _) _)); u_conv H.underlying_tPU32 H.room_tU32 (WgLive.cell1 hF).choose_spec (fun _ h => h) hF)
        | u_leave1 H.f_uAdd (fun _ h => h) hF)
    refine Goes.stop (fun w₁ h₁ => ?_)
    clear h₁ hF
    refine ⟨rfl, _, fun _ _ => stepG_markAt .read (by simp) rfl rfl (by k_ne) rfl H.f_raceRead (x_raceRead_n L) (x_raceRead_b L) (x_raceRead_x L) (x_raceRead_f L) (ad := ⟨Wg, 1, none⟩) (by simp [Act.eval]), ?_⟩
    clear w₁ w
    walk_nrm
    refine idle_goes 90 (fun w hF => ?_) hi
    repeat (first
        | (with_reducible (show Go.Conc.Goes _ _ _ _ _ _ (G (Frame.at _ _ _) _) _)
           first
           | u_c stepG_seq (fun _ h => h) hF
           | u_c stepG_skip (fun _ h => h) hF
           | u_c stepG_region_end (fun _ h => h) hF
           | u_c stepG_ret' (fun _ h => h) hF
           | u_reg (fun _ h => h) hF
           | u_cond true (fun _ h => h) hF
           | u_cond false (fun _ h => h) hF
           | u_skip (fun _ h => h) hF
           | (with_reducible (show Go.Conc.Goes _ _ _ _ _ _ (G (Frame.at _ _ (Item.inRegion _ (_ :: _) :: _)) _) _)); u_op (fun _ h => h) hF)
        | fail)
    refine Goes.stop (fun w₁ h₁ => ?_)
    clear h₁ hF
    refine ⟨rfl, _, fun _ _ => stepG_unwind_entry (v := .tuple #[]) (evs := #[mk .enable]) rfl H.f_enable (x_enable_n L) (x_enable_b L) (x_enable_x L) (x_enable_f L) (by simp [Extern.Race.none_]) (by simp [mk]) (by simp [mk]), ?_⟩
    clear w₁ w
    refine idle_goes 2 (fun w hF => ?_) hi
    u_leave0 H.f_add (fun _ h => h) hF
    exact Goes.stop (fun _ _ => hT)
  · obtain ⟨V, hV⟩ : ∃ V : Int, V = (v : Int) + 1 := ⟨_, rfl⟩
    obtain ⟨N, hN⟩ : ∃ N : Int, N = V * KK := ⟨_, rfl⟩
    have eN : IntKind.u64.wrap ((v : Int) * KK + 4294967296) = N := by rw [IntKind.wrap_u64, hN, hV]; simp only [KK]; omega
    rw [← hV, ← hN]
    have a1 : N / 4294967296 = V := by rw [hN]; simp only [KK]; omega
    have b1 : bits .and .u64 N 2147483648 = 0 := by rw [hN, hV]; have := st_flag (v + 1) 0 (by omega) (by omega); simpa [KK] using this
    have b2 : bits .and .u64 N 2147483647 = 0 := by rw [hN, hV]; have := st_waiters (v + 1) 0 (by omega) (by omega); simpa [KK] using this
    have c1 : IntKind.i32.wrap V = V := by rw [IntKind.wrap_i32]; omega
    have hV1 : 1 < V := by omega
    have hV2 : V < 2147483648 := by omega
    have q1 : (V == 1) = false := by simp; omega
    have q2 : decide (V = 1) = false := decide_eq_false (by omega)
    have q3 : decide (V < 0) = false := decide_eq_false (by omega)
    have q4 : decide (0 < V) = true := decide_eq_true (by omega)
    have q5 : (V == 0) = false := by simp; omega
    have q6 : decide (V = 0) = false := decide_eq_false (by omega)
    refine ⟨_, fun w _ hw => (stepG_add_atomic rfl rfl (by k_ne) rfl H.f_addU64 (x_addU64_n L) (x_addU64_b L) (x_addU64_x L) .u64 (x_addU64_f L) rfl rfl hw.cellSt (hw.thaw 0)).trans (by rw [eN]; rfl), ?_⟩
    clear hV hN eN w₁ w
    walk_nrm
    refine idle_goes 120 (fun w hF => ?_) hi
    repeat (first
        | (with_reducible (show Go.Conc.Goes _ _ _ _ _ _ (G (Frame.at _ _ _) _) _)
           first
           | u_c stepG_seq (fun _ h => h) hF
           | u_c stepG_skip (fun _ h => h) hF
           | u_c stepG_region_end (fun _ h => h) hF
           | u_c stepG_ret' (fun _ h => h) hF
           | u_reg (fun _ h => h) hF
           | u_cond true (fun _ h => h) hF
           | u_cond false (fun _ h => h) hF
           | u_skip (fun _ h => h) hF
           | u_cnd true (fun _ h => h) hF
           | u_cnd false (fun _ h => h) hF
           | (with_reducible (show Go.Conc.Goes _ _ _ _ _ _ (G (Frame.at _ _ (Item.inRegion _ (_ :: _) :: _)) _) _)); u_op (fun _ h => h) hF)
        | u_leave1 H.f_uAdd (fun _ h => h) hF)
    refine Goes.stop (fun w₁ h₁ => ?_)
    clear h₁ hF
    refine ⟨rfl, _, fun _ _ => stepG_unwind_entry (v := .tuple #[]) (evs := #[mk .enable]) rfl H.f_enable (x_enable_n L) (x_enable_b L) (x_enable_x L) (x_enable_f L) (by simp [Extern.Race.none_]) (by simp [mk]) (by simp [mk]), ?_⟩
    clear w₁ w
    refine idle_goes 2 (fun w hF => ?_) hi
    u_leave0 H.f_add (fun _ h => h) hF
    exact Goes.stop (fun _ _ => hT)
end
end Go.Ren
end
section
set_option linter.unusedVariables false
set_option linter.unusedSectionVars false
set_option linter.unusedSimpArgs false
namespace Go.Ren
open Go.Conc hiding Goes
open Go.Conc.Lib Go.ConcR.Gen Go.RowKit Go.ConcN Go.ConcN.Gen
open Go.ConcR (KK wgBlock WgAt stA smA rd wr mk DC0)
section
variable {P : Program} {m : Bool} {X : Event → Prop} {L : WgLink} {Wg : Nat} {S T : Goroutine → Prop}
set_option maxRecDepth 100000 in
set_option maxHeartbeats 8000000 in
theorem wait_round (H : WgLib P L) (hi : ∃ w, Lv L Wg w) (hX : ∀ a : Addr, a.block = Wg → X ⟨.mark (.write a), false, true⟩)
    {b₀ : Frame} {a₀ : Act} {ops₀ : Array Oper} {i₀ : Nat} {rest₀ : List Nat} {k₀ : List Item} {cs : List Frame}
    (hT : T (G (b₀.at (a₀.put ((ops₀[i₀]?).bind (·.dst)) (.tuple #[])) (.inRegion ops₀ rest₀ :: k₀)) cs)) {g : Goroutine} (h : WaitHead L Wg (b₀.at a₀ (.inRegion ops₀ (i₀ :: rest₀) :: k₀)) cs g) :
    Idle P m (Lv L Wg) X (Wait1 P m X L Wg T (WaitHead L Wg (b₀.at a₀ (.inRegion ops₀ (i₀ :: rest₀) :: k₀)) cs)) g := by
  lib_facts
  obtain ⟨A, rfl, hA, t0⟩ := h
  obtain ⟨v0, v1, v2, v3, v4, v5, v6, v7, v8, v9, v10, v11, v12, v13, v14, v15, v16, v17, v18, v19, v20, v21, v22, v23, v24, v25, v26, v27, v28, v29, v30, v31, v32, v33, v34, v35, v36, v37, v38, v39, v40, v41, v42, v43, v44, v45, v46, v47, v48, v49, v50, v51, v52, v53, v54, v55, v56, v57, v58, v59, v60, v61, v62, v63, v64, v65, v66, v67, v68, v69, v70, v71, v72, v73, v74, v75, v76, v77, v78, v79, v80, v81, v82, v83, rfl⟩ := array84 A hA
  simp only [List.getElem?_toArray, List.getElem?_cons_zero, Option.some.injEq] at t0
  subst t0
  simp only [L7, body_wait, waitFn, Option.getD_some]
  refine idle_goes 40 (fun w hF => ?_) hi
  repeat (first
      | (with_reducible (show Go.Conc.Goes _ _ _ _ _ _ (G (Frame.at _ _ _) _) _)
         first
         | u_c stepG_seq (fun _ h => h) hF
         | u_c stepG_skip (fun _ h => h) hF
         | u_c stepG_region_end (fun _ h => h) hF
         | u_c stepG_ret' (fun _ h => h) hF
         | u_reg (fun _ h => h) hF
         | u_cond true (fun _ h => h) hF
         | u_cond false (fun _ h => h) hF
         | u_skip (fun _ h => h) hF
         | u_call H.f_uLoad (nm_uLoad L) uLoadFn (fun _ h => h) hF
         | u_c stepG_block (fun _ h => h) hF
         | (with_reducible (show Go.Conc.Goes _ _ _ _ _ _ (G (Frame.at _ _ (Item.inRegion _ (_ :: _) :: _)) _) _)); u_op (fun _ h => h) hF)
      | fail)
  refine Goes.stop (fun w₁ h₁ => ?_)
  clear h₁ hF
  refine ⟨rfl, fun v hv => ?_⟩
  rcases Nat.eq_zero_or_pos v with rfl | hvp
  · have z0 : ((0 : Nat) : Int) * KK = 0 := by simp
    rw [z0]
    refine ⟨_, fun w _ hw => stepG_load_atomic (v := 0) rfl rfl (by k_ne) rfl H.f_loadU64 (x_loadU64_n L) (x_loadU64_b L) (x_loadU64_x L) .u64 (x_loadU64_f L) rfl hw.cellSt, fun _ => ?_, fun h => absurd rfl h⟩
    clear w₁ w
    walk_nrm
    refine idle_goes 80 (fun w hF => ?_) hi
    repeat (first
        | (with_reducible (show Go.Conc.Goes _ _ _ _ _ _ (G (Frame.at _ _ _) _) _)
           first
           | u_c stepG_seq (fun _ h => h) hF
           | u_c stepG_skip (fun _ h => h) hF
           | u_c stepG_region_end (fun _ h => h) hF
           | u_c stepG_ret' (fun _ h => h) hF
           | u_reg (fun _ h => h) hF
           | u_cond true (fun _ h => h) hF
           | u_cond false (fun _ h => h) hF
           | u_skip (fun _ h => h) hF
           | (with_reducible (show Go.Conc.Goes _ _ _ _ _ _ (G (Frame.at _ _ (Item.inRegion _ (_ :: _) :: _)) _) _)); u_op (fun _ h => h) hF)
        | u_leave1 H.f_uLoad (fun _ h => h) hF
        | u_leave1 H.f_uCas (fun _ h => h) hF)
    refine Goes.stop (fun w₁ h₁ => ?_)
    clear h₁ hF
    refine ⟨rfl, _, fun _ _ => stepG_mark0 .enable (by simp) rfl rfl (by k_ne) rfl H.f_enable (x_enable_n L) (x_enable_b L) (x_enable_x L) (x_enable_f L), ?_⟩
    clear w₁ w
    walk_nrm
    refine idle_goes 40 (fun w hF => ?_) hi
    repeat (first
        | (with_reducible (show Go.Conc.Goes _ _ _ _ _ _ (G (Frame.at _ _ _) _) _)
           first
           | u_c stepG_seq (fun _ h => h) hF
           | u_c stepG_skip (fun _ h => h) hF
           | u_c stepG_region_end (fun _ h => h) hF
           | u_c stepG_ret' (fun _ h => h) hF
           | u_reg (fun _ h => h) hF
           | u_cond true (fun _ h => h) hF
           | u_cond false (fun _ h => h) hF
           | u_skip (fun _ h => h) hF
           | (with_reducible (show Go.Conc.Goes _ _ _ _ _ _ (G (Frame.at _ _ (Item.inRegion _ (_ :: _) :: _)) _) _)); u_op (fun _ h => h) hF
           | (with_reducible (show Go.Conc.Goes _ _ _ _ _ _ (G (Frame.at _ _ (Item.inRegion _ (_ :: _) :: _)) _) _)); u_conv H.underlying_tWgP H.room_tWg (WgLive.cell0 hF).choose_spec (fun _ h => h) hF)
        | fail)
    refine Goes.stop (fun w₁ h₁ => ?_)
    clear h₁ hF
    refine ⟨rfl, _, fun _ _ => stepG_markAt .acquire (by simp) rfl rfl (by k_ne) rfl H.f_acquire (x_acquire_n L) (x_acquire_b L) (x_acquire_x L) (x_acquire_f L) (by simp [Act.eval, stA]), ?_⟩
    clear w₁ w
    walk_nrm
    refine idle_goes 60 (fun w hF => ?_) hi
    repeat (first
        | (with_reducible (show Go.Conc.Goes _ _ _ _ _ _ (G (Frame.at _ _ _) _) _)
           first
           | u_c stepG_seq (fun _ h => h) hF
           | u_c stepG_skip (fun _ h => h) hF
           | u_c stepG_region_end (fun _ h => h) hF
           | u_c stepG_ret' (fun _ h => h) hF
           | u_reg (fun _ h => h) hF
           | u_cond true (fun _ h => h) hF
           | u_cond false (fun _ h => h) hF
           | u_skip (fun _ h => h) hF
           | (with_reducible (show Go.Conc.Goes _ _ _ _ _ _ (G (Frame.at _ _ (Item.inRegion _ (_ :: _) :: _)) _) _)); u_op (fun _ h => h) hF)
        | fail)
    u_leave0 H.f_wait (fun _ h => h) hF
    exact Goes.stop (fun _ _ => hT)
  · obtain ⟨N, hN⟩ : ∃ N : Int, (v : Int) * KK = N := ⟨_, rfl⟩
    have a1 : N / 4294967296 = (v : Int) := by rw [← hN]; simp only [KK]; omega
    have b1 : bits .and .u64 N 2147483648 = 0 := by rw [← hN]; have := st_flag v 0 (by omega) (by omega); simpa [KK] using this
    have b2 : bits .and .u64 N 2147483647 = 0 := by rw [← hN]; have := st_waiters v 0 (by omega) (by omega); simpa [KK] using this
    have c1 : IntKind.i32.wrap (v : Int) = (v : Int) := by rw [IntKind.wrap_i32]; omega
    have w1 : IntKind.u64.wrap (N + 1) = N + 1 := by rw [IntKind.wrap_u64, ← hN]; simp only [KK]; omega
    have q3 : decide ((v : Int) < 0) = false := decide_eq_false (by omega)
    have q4 : decide (0 < (v : Int)) = true := decide_eq_true (by omega)
    have q5 : ((v : Int) == 0) = false := by simp; omega
    have q6 : decide ((v : Int) = 0) = false := decide_eq_false (by omega)
    rw [hN]
    refine ⟨_, fun w _ hw => stepG_load_atomic (v := N) rfl rfl (by k_ne) rfl H.f_loadU64 (x_loadU64_n L) (x_loadU64_b L) (x_loadU64_x L) .u64 (x_loadU64_f L) rfl hw.cellSt, fun h0 => absurd h0 (by omega), fun _ => ?_⟩
    clear w₁ w
    walk_nrm
    refine idle_goes 120 (fun w hF => ?_) hi
    repeat (first
        | (with_reducible (show Go.Conc.Goes _ _ _ _ _ _ (G (Frame.at _ _ _) _) _)
           first
           | u_c stepG_seq (fun _ h => h) hF
           | u_c stepG_skip (fun _ h => h) hF
           | u_c stepG_region_end (fun _ h => h) hF
           | u_c stepG_ret' (fun _ h => h) hF
           | u_reg (fun _ h => h) hF
           | u_cond true (fun _ h => h) hF
           | u_cond false (fun _ h => h) hF
           | u_skip (fun _ h => h) hF
           | u_call H.f_uCas (nm_uCas L) uCasFn (fun _ h => h) hF
           | u_cnd true (fun _ h => h) hF
           | u_cnd false (fun _ h => h) hF
           | (with_reducible (show Go.Conc.Goes _ _ _ _ _ _ (G (Frame.at _ _ (Item.inRegion _ (_ :: _) :: _)) _) _)); u_op (fun _ h => h) hF)
        | u_leave1 H.f_uLoad (fun _ h => h) hF
        | u_leave1 H.f_uCas (fun _ h => h) hF)
    refine Goes.stop (fun w₁ h₁ => ?_)
    clear h₁ hF
    refine ⟨rfl, fun v' hv' => ⟨fun e => ?_, fun e => ?_⟩⟩
    · subst e
      rw [hN]
      refine ⟨_, fun w _ hw => (stepG_cas_hit (v := N) (n := N + 1) rfl rfl (by k_ne) rfl H.f_casU64 (x_casU64_n L) (x_casU64_b L) (x_casU64_x L) .u64 (x_casU64_f L) rfl rfl rfl hw.cellSt (hw.thaw 0)).trans (by rfl), ?_⟩
      clear w₁ w
      walk_nrm
      refine Idle.bind (S := Says P m (Lv L Wg) #[⟨.mark (.write ⟨Wg, 1, none⟩), false, true⟩] (Idle P m (Lv L Wg) X (Wait3 P m X L Wg T))) ?_
        (fun g ⟨hs, g', hg, hk⟩ => Idle.says hs hg (fun w hw e he => by rw [Array.mem_singleton] at he; subst he; exact ⟨hX _ rfl, live_lt hw⟩) hk)
      refine idle_goes 60 (fun w hF => ?_) hi
      repeat (first
          | (with_reducible (show Go.Conc.Goes _ _ _ _ _ _ (G (Frame.at _ _ _) _) _)
             first
             | u_c stepG_seq (fun _ h => h) hF
             | u_c stepG_skip (fun _ h => h) hF
             | u_c stepG_region_end (fun _ h => h) hF
             | u_c stepG_ret' (fun _ h => h) hF
             | u_reg (fun _ h => h) hF
             | u_cond true (fun _ h => h) hF
             | u_cond false (fun _ h => h) hF
             | u_skip (fun _ h => h) hF
             | (with_reducible (show Go.Conc.Goes _ _ _ _ _ _ (G (Frame.at _ _ (Item.inRegion _ (_ :: _) :: _)) _) _)); u_op (fun _ h => h) hF
             | (with_reducible (show Go.Conc.Goes _ _ _ _ _ _ (G (Frame.at _ _ (Item.inRegion _ (_ :: _) :: _)) _) _)); u_conv H.underlying_tPU32 H.room_tU32 (WgLive.cell1 hF).choose_spec (fun _ h => h) hF)
          | u_leave1 H.f_uLoad (fun _ h => h) hF
          | u_leave1 H.f_uCas (fun _ h => h) hF)
      refine Goes.stop (fun w₁ h₁ => ?_)
      clear h₁ hF
      refine ⟨rfl, _, fun _ _ => stepG_markAt .write (by simp) rfl rfl (by k_ne) rfl H.f_raceWrite (x_raceWrite_n L) (x_raceWrite_b L) (x_raceWrite_x L) (x_raceWrite_f L) (ad := ⟨Wg, 1, none⟩) (by simp [Act.eval] <;> rfl), ?_⟩
      clear w₁ w
      walk_nrm
      refine idle_goes 80 (fun w hF => ?_) hi
      repeat (first
          | (with_reducible (show Go.Conc.Goes _ _ _ _ _ _ (G (Frame.at _ _ _) _) _)
             first
             | u_c stepG_seq (fun _ h => h) hF
             | u_c stepG_skip (fun _ h => h) hF
             | u_c stepG_region_end (fun _ h => h) hF
             | u_c stepG_ret' (fun _ h => h) hF
             | u_reg (fun _ h => h) hF
             | u_cond true (fun _ h => h) hF
             | u_cond false (fun _ h => h) hF
             | u_skip (fun _ h => h) hF
             | (with_reducible (show Go.Conc.Goes _ _ _ _ _ _ (G (Frame.at _ _ (Item.inRegion _ (_ :: _) :: _)) _) _)); u_op (fun _ h => h) hF)
          | fail)
      refine Goes.stop (fun w₁ h₁ => ?_)
      clear h₁ hF
      refine ⟨rfl, rfl, fun w st hw => stepG_semacquire_wait rfl rfl rfl H.f_semacquire (x_semacquire_n L) (x_semacquire_b L) (x_semacquire_x L) (x_semacquire_f L) (by simp [Act.eval, smA]) hw.cellSm, ?_⟩
      refine ⟨_, fun w _ hf => (stepG_semacquire (n := 1) rfl rfl (by k_ne) rfl H.f_semacquire (x_semacquire_n L) (x_semacquire_b L) (x_semacquire_x L) (x_semacquire_f L) (by simp [Act.eval, smA]) hf.cellSm (by k_ne) (hf.thaw 1)).trans (by rfl), ?_⟩
      clear w₁ w
      walk_nrm
      refine idle_goes 60 (fun w hF => ?_) hi
      repeat (first
          | (with_reducible (show Go.Conc.Goes _ _ _ _ _ _ (G (Frame.at _ _ _) _) _)
             first
             | u_c stepG_seq (fun _ h => h) hF
             | u_c stepG_skip (fun _ h => h) hF
             | u_c stepG_region_end (fun _ h => h) hF
             | u_c stepG_ret' (fun _ h => h) hF
             | u_reg (fun _ h => h) hF
             | u_cond true (fun _ h => h) hF
             | u_cond false (fun _ h => h) hF
             | u_skip (fun _ h => h) hF
             | u_call H.f_uLoad (nm_uLoad L) uLoadFn (fun _ h => h) hF
             | (with_reducible (show Go.Conc.Goes _ _ _ _ _ _ (G (Frame.at _ _ (Item.inRegion _ (_ :: _) :: _)) _) _)); u_op (fun _ h => h) hF)
          | fail)
      refine Goes.stop (fun w₁ h₁ => ?_)
      clear h₁ hF
      refine ⟨rfl, _, fun w _ hw => stepG_load_atomic (v := 0) rfl rfl (by k_ne) rfl H.f_loadU64 (x_loadU64_n L) (x_loadU64_b L) (x_loadU64_x L) .u64 (x_loadU64_f L) rfl hw.cellSt, ?_⟩
      clear w₁ w
      walk_nrm
      refine idle_goes 60 (fun w hF => ?_) hi
      repeat (first
          | (with_reducible (show Go.Conc.Goes _ _ _ _ _ _ (G (Frame.at _ _ _) _) _)
             first
             | u_c stepG_seq (fun _ h => h) hF
             | u_c stepG_skip (fun _ h => h) hF
             | u_c stepG_region_end (fun _ h => h) hF
             | u_c stepG_ret' (fun _ h => h) hF
             | u_reg (fun _ h => h) hF
             | u_cond true (fun _ h => h) hF
             | u_cond false (fun _ h => h) hF
             | u_skip (fun _ h => h) hF
             | (with_reducible (show Go.Conc.Goes _ _ _ _ _ _ (G (Frame.at _ _ (Item.inRegion _ (_ :: _) :: _)) _) _)); u_op (fun _ h => h) hF)
          | u_leave1 H.f_uLoad (fun _ h => h) hF
          | u_leave1 H.f_uCas (fun _ h => h) hF)
      refine Goes.stop (fun w₁ h₁ => ?_)
      clear h₁ hF
      refine ⟨rfl, _, fun _ _ => stepG_mark0 .enable (by simp) rfl rfl (by k_ne) rfl H.f_enable (x_enable_n L) (x_enable_b L) (x_enable_x L) (x_enable_f L), ?_⟩
      clear w₁ w
      walk_nrm
      refine idle_goes 40 (fun w hF => ?_) hi
      repeat (first
          | (with_reducible (show Go.Conc.Goes _ _ _ _ _ _ (G (Frame.at _ _ _) _) _)
             first
             | u_c stepG_seq (fun _ h => h) hF
             | u_c stepG_skip (fun _ h => h) hF
             | u_c stepG_region_end (fun _ h => h) hF
             | u_c stepG_ret' (fun _ h => h) hF
             | u_reg (fun _ h => h) hF
             | u_cond true (fun _ h => h) hF
             | u_cond false (fun _ h => h) hF
             | u_skip (fun _ h => h) hF
             | (with_reducible (show Go.Conc.Goes _ _ _ _ _ _ (G (Frame.at _ _ (Item.inRegion _ (_ :: _) :: _)) _) _)); u_op (fun _ h => h) hF
             | (with_reducible (show Go.Conc.Goes _ _ _ _ _ _ (G (Frame.at _ _ (Item.inRegion _ (_ :: _) :: _)) _) _)); u_conv H.underlying_tWgP H.room_tWg (WgLive.cell0 hF).choose_spec (fun _ h => h) hF)
          | fail)
      refine Goes.stop (fun w₁ h₁ => ?_)
      clear h₁ hF
      refine ⟨rfl, _, fun _ _ => stepG_markAt .acquire (by simp) rfl rfl (by k_ne) rfl H.f_acquire (x_acquire_n L) (x_acquire_b L) (x_acquire_x L) (x_acquire_f L) (by simp [Act.eval, stA]), ?_⟩
      clear w₁ w
      walk_nrm
      refine idle_goes 60 (fun w hF => ?_) hi
      repeat (first
          | (with_reducible (show Go.Conc.Goes _ _ _ _ _ _ (G (Frame.at _ _ _) _) _)
             first
             | u_c stepG_seq (fun _ h => h) hF
             | u_c stepG_skip (fun _ h => h) hF
             | u_c stepG_region_end (fun _ h => h) hF
             | u_c stepG_ret' (fun _ h => h) hF
             | u_reg (fun _ h => h) hF
             | u_cond true (fun _ h => h) hF
             | u_cond false (fun _ h => h) hF
             | u_skip (fun _ h => h) hF
             | (with_reducible (show Go.Conc.Goes _ _ _ _ _ _ (G (Frame.at _ _ (Item.inRegion _ (_ :: _) :: _)) _) _)); u_op (fun _ h => h) hF)
          | fail)
      u_leave0 H.f_wait (fun _ h => h) hF
      exact Goes.stop (fun _ _ => hT)
    · refine ⟨_, fun w _ hw => stepG_cas_miss (v := (v' : Int) * KK) (old := N) (n := N + 1) rfl rfl (by k_ne) rfl H.f_casU64 (x_casU64_n L) (x_casU64_b L) (x_casU64_x L) .u64 (x_casU64_f L) rfl rfl rfl hw.cellSt (hw.thaw 0) (by rw [← hN]; simp only [KK]; omega), ?_⟩
      clear w₁ w
      walk_nrm
      refine idle_goes 40 (fun w hF => ?_) hi
      repeat (first
          | (with_reducible (show Go.Conc.Goes _ _ _ _ _ _ (G (Frame.at _ _ _) _) _)
             first
             | u_c stepG_seq (fun _ h => h) hF
             | u_c stepG_skip (fun _ h => h) hF
             | u_c stepG_region_end (fun _ h => h) hF
             | u_c stepG_ret' (fun _ h => h) hF
             | u_reg (fun _ h => h) hF
             | u_cond true (fun _ h => h) hF
             | u_cond false (fun _ h => h) hF
             | u_skip (fun _ h => h) hF
             | u_c stepG_inBlock (fun _ h => h) hF
             | u_c stepG_inLoop (fun _ h => h) hF
             | (with_reducible (show Go.Conc.Goes _ _ _ _ _ _ (G (Frame.at _ _ (Item.inRegion _ (_ :: _) :: _)) _) _)); u_op (fun _ h => h) hF)
          | u_leave1 H.f_uLoad (fun _ h => h) hF
          | u_leave1 H.f_uCas (fun _ h => h) hF)
      refine Goes.stop (fun w₁ h₁ => ?_)
      exact ⟨_, rfl, by simp, by simp⟩
set_option maxRecDepth 100000 in
set_option maxHeartbeats 8000000 in
theorem wait_start (H : WgLib P L) (hi : ∃ w, Lv L Wg w) {b₀ : Frame} {a₀ : Act} {ops₀ : Array Oper} {i₀ : Nat} {rest₀ : List Nat} {k₀ : List Item} {cs : List Frame} :
    Idle P m (Lv L Wg) X (Says P m (Lv L Wg) #[mk .disable] (Idle P m (Lv L Wg) X (WaitHead L Wg (b₀.at a₀ (.inRegion ops₀ (i₀ :: rest₀) :: k₀)) cs)))
      (G (Frame.enter P L.wait #[.pointer (some ⟨Wg, 0, none⟩)] .normal) (b₀.at a₀ (.inRegion ops₀ (i₀ :: rest₀) :: k₀) :: cs)) := by
  lib_facts
  rw [enter_at _ H.f_wait rfl]
  walk_nrmf waitFn
  refine idle_goes 20 (fun w hF => ?_) hi
  repeat (first
      | (with_reducible (show Go.Conc.Goes _ _ _ _ _ _ (G (Frame.at _ _ _) _) _)
         first
         | u_c stepG_seq (fun _ h => h) hF
         | u_c stepG_skip (fun _ h => h) hF
         | u_c stepG_region_end (fun _ h => h) hF
         | u_c stepG_ret' (fun _ h => h) hF
         | u_reg (fun _ h => h) hF
         | u_cond true (fun _ h => h) hF
         | u_cond false (fun _ h => h) hF
         | u_skip (fun _ h => h) hF
         | (with_reducible (show Go.Conc.Goes _ _ _ _ _ _ (G (Frame.at _ _ (Item.inRegion _ (_ :: _) :: _)) _) _)); u_op (fun _ h => h) hF)
      | fail)
  refine Goes.stop (fun w₁ h₁ => ?_)
  clear h₁ hF
  refine ⟨rfl, _, fun _ _ => stepG_mark0 .disable (by simp) rfl rfl (by k_ne) rfl H.f_disable (x_disable_n L) (x_disable_b L) (x_disable_x L) (x_disable_f L), ?_⟩
  clear w₁ w
  walk_nrm
  refine idle_goes 10 (fun w hF => ?_) hi
  u_c stepG_region_end (fun _ h => h) hF
  u_c stepG_block (fun _ h => h) hF
  u_c stepG_loop (fun _ h => h) hF
  exact Goes.stop (fun w₂ h₂ => ⟨_, rfl, by simp, by simp⟩)
end
end Go.Ren
end
section
set_option linter.unusedVariables false
set_option linter.unusedSectionVars false
set_option linter.unusedSimpArgs false
namespace Go.Am
open Go.Conc (born QuitsD G scase rcase)
open Go.Conc.Lib
open Go.Ren (grow EvO Guar Rely Wk WkD Idle IdleD X0 XS XM Lv WRel WSend WSnd WSkip hearing MAdd MGo MWait M1 Anch)
section
variable {P : Program} {ρ σ : Env} {O O' D D' : Nat → Prop} {h h' : AH} {w w' : World} {X : Event → Prop} {m : Bool} {base cs : List Frame} {I : World → Prop} {a a' : AFr} {f : Frame} {lo hi : Nat} {ops : Array Oper} {i : Nat} {o : Oper} {s s₀ : AS} {pl : Plan} {g : Goroutine}
theorem Sim.rely (S : Sim P ρ O D base s g w) (r : Rely O D w w') : Sim P ρ O D base s g w' := ⟨S.run, S.rel.rely r⟩
theorem AtOp.rely (A : AtOp P ρ lo s₀ ops i f cs O D w) (r : Rely O D w w') : AtOp P ρ lo s₀ ops i f cs O D w' := ⟨A.bound, A.fs, A.run, A.todo, A.ops_r, A.wanted, A.stk, A.rel.rely r⟩
structure ADefer (P : Program) (s s' : AS) : Prop where
  run : s.fr.ret = false
  round : s.fr.round = none
  at_ : ∃ ops i l k o c x fn first cap a', s.fr.todo = .region ops (i :: l) :: k ∧ ops[i]? = some o ∧ Region.wanted o (yielded ops s.fr.tmps) = true ∧ operOk o = true ∧ o.op = .defer c ∧ c.callee = .value x ∧ aeval s.fr.tmps x = .func fn first cap ∧
    afinish P { s.fr with defers := { target := .fn fn cap, args := first ++ c.args.map (aeval s.fr.tmps) } :: s.fr.defers } s.h undef = some a' ∧ s' = ⟨a', s.cs, s.h⟩
theorem defer_wk [Zeros P] {m : Bool} (k : ADefer P s s₀) (S : Sim P ρ O D base s g w) : Wk P m I X D (fun O' g' w' => ∃ σ, ρ.Le σ ∧ Sim P σ O' D base s₀ g' w') O g w := by
  obtain ⟨hrun, hround, ops, i, l, kk, o, c, x, fn, first, cap, a', t1, t2, t3, t4, t5, t6, t7, t8, t9⟩ := k
  refine (atop_wk (c := []) (l := []) S hrun (.inr ⟨l, kk, t1⟩)).bind ?_
  rintro O₂ g₂ w₂ ⟨τ, lo, f, cs, hle, rfl, A⟩
  refine Wk.mk rfl fun w₁ hr _ => ?_
  obtain ⟨g', h1, h2⟩ := (A.rely hr).defer (m := m) (base := base) t2 t3 t4 t5 t6 t7 hround t8
  refine ⟨g', w₁, #[], h1, .none w₁, .stop ⟨τ, hle, ?_⟩⟩
  rw [Go.Ren.grow_same]
  subst t9
  exact h2
theorem frame_at (hm : f.mode = .run) (hr : f.roundOf = none) : f.at ⟨f.tmps, f.defers⟩ f.todo = f := by
  obtain ⟨fn, tmps, todo, defers, mode, kind, ro⟩ := f
  dsimp only at hm hr
  subst hm hr
  rfl
theorem FB.noRound (h : FB ρ a f) (hr : a.round = none) : f.roundOf = none := by
  have := h.round
  rw [hr] at this
  generalize f.roundOf = z at this
  cases this
  rfl
structure ACall (P : Program) (fid : FuncId) (args : Array Value) (s s' : AS) : Prop where
  run : s.fr.ret = false
  round : s.fr.round = none
  at_ : ∃ ops i l k o as ats a', s.fr.todo = .region ops (i :: l) :: k ∧ ops[i]? = some o ∧ Region.wanted o (yielded ops s.fr.tmps) = true ∧ operOk o = true ∧ o.op = .call { callee := .value (.func fid), args := as, argTypes := ats } ∧ as.map (aeval s.fr.tmps) = args ∧
    afinish P s.fr s.h (.tuple #[]) = some a' ∧ s' = ⟨a', s.cs, s.h⟩
theorem args_r {as : Array Operand} {t : Array Value} {e : Operand → Value} (h : ∀ x ∈ as, VR ρ (aeval t x) (e x)) : AR (VR ρ) (as.map (aeval t)) (as.map e) := by
  refine ⟨by simp, fun j u v hu hv => ?_⟩
  rw [Array.getElem?_map] at hu hv
  cases hj : as[j]? with
  | none => rw [hj] at hu; cases hu
  | some z =>
    rw [hj] at hu hv
    cases hu
    cases hv
    exact h z (Array.mem_of_getElem? hj)
theorem call_step {fid : FuncId} {as : Array Operand} {ats : Array TypeId} (hp : plainFn P fid = true) (A : AtOp P ρ lo s₀ ops i f cs O D w) (hround : s₀.fr.round = none) (ho : ops[i]? = some o) (hw : Region.wanted o (yielded ops s₀.fr.tmps) = true) (hok : operOk o = true) (hop : o.op = .call { callee := .value (.func fid), args := as, argTypes := ats }) :
    AR (VR ρ) (as.map (aeval s₀.fr.tmps)) (as.map f.eval) ∧ ∃ s' k', f = f.at ⟨f.tmps, f.defers⟩ (.inRegion ops (i :: s') :: k') ∧ ∀ w₁, stepG P m (gor f (cs ++ base)) w₁ = .go (gor (Frame.enter P fid (as.map f.eval) .normal) (f :: (cs ++ base))) w₁ #[] := by
  obtain ⟨s', k', ht⟩ := A.todo
  have hw' := A.wanted o ho
  rw [hw] at hw'
  refine ⟨args_r fun x hx => A.ops_r o ho hok x (by rw [hop]; simp [Op.operands, Call.operands, hx]), s', k', ?_, fun w₁ => ?_⟩
  · have := frame_at A.run (A.fs.base.noRound hround)
    rw [ht] at this
    exact this.symm
  · rw [region_wanted A.run ht ho hw' (fun q hq => by rw [hop] at hq; cases hq)]
    have hex : ∀ es₀, (execOp f.eval o).runT P w₁ es₀ = (.ok (.enter fid (as.map f.eval)) w₁, es₀ ++ #[]) := by
      intro es₀
      have : execOp f.eval o = callFunc fid ((#[] ++ as.map f.eval) ++ #[]) := by
        unfold execOp
        rw [hop]
        rfl
      rw [this, run_callFunc hp]
      simp
    have := apply_enter (cs := cs ++ base) A.fs.base.ne (fun d x y k => A.fs.not_call d true x y k) hex
    rw [this]
    rfl
theorem args1 {as : Array Value} {gb Wg : Nat} (hg : ρ.to gb = (Wg, 0)) (h : AR (VR ρ) #[.pointer (some ⟨gb, 0, none⟩)] as) : as = #[.pointer (some ⟨Wg, 0, none⟩)] := by
  obtain ⟨h1, h2⟩ := h
  have hs : as.size = 1 := by simpa using h1.symm
  obtain ⟨v, rfl⟩ : ∃ v, as = #[v] := by
    refine ⟨as[0], ?_⟩
    apply Array.ext (by simp [hs])
    intro i h1 h2
    simp at h2
    subst h2
    rfl
  have := h2 0 _ v rfl rfl
  cases this with
  | ptr hb => simp [Env.addr, hg]
theorem args2 {as : Array Value} {gb Wg : Nat} {k : IntKind} {n : Int} (hg : ρ.to gb = (Wg, 0)) (h : AR (VR ρ) #[.pointer (some ⟨gb, 0, none⟩), .int k n] as) : as = #[.pointer (some ⟨Wg, 0, none⟩), .int k n] := by
  obtain ⟨h1, h2⟩ := h
  have hs : as.size = 2 := by simpa using h1.symm
  obtain ⟨u, v, rfl⟩ : ∃ u v, as = #[u, v] := by
    refine ⟨as[0], as[1], ?_⟩
    apply Array.ext (by simp [hs])
    intro i h1 h2
    simp at h2
    match i, h2 with
    | 0, _ => rfl
    | 1, _ => rfl
  have a1 := h2 0 _ u rfl rfl
  have a2 := h2 1 _ v rfl rfl
  cases a1 with
  | ptr hb => cases a2; simp [Env.addr, hg]
end
end Go.Am
end
