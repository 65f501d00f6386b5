/- A part of the proof that the frame keeps its roots: lemmas on which it leans. -/
import Derived.Conc.WgGenAddNeg
import Derived.Laws.LoneSync
import Derived.Conc.Own4
import Derived.Test.YtfchamaikodjpaaGreatH33
import Derived.Test.YtfchamaikodjpaaGreatH35
section
set_option linter.unusedVariables false
set_option linter.unusedSectionVars false
set_option linter.unusedSimpArgs false
namespace Go.Mx
open Go.Ren Go.Sy
open Go.Conc hiding Goes
open Go.Conc.Locks
open Go.ConcR (stA smA)
def usBody (L : MxLink) : Code := (unlockSlowFn L).body.getD .skip
def uEn (L : MxLink) : S := fresh [(0, some (.v 0)), (1, some (.v 4))] [.code (usBody L)]
def TU : Tab := tabU false false false false false
def ucR (L : MxLink) : S := run 43 TU 54 (uEn L)
def u1R (L : MxLink) : S := run 43 TU 7 (next (ucR L) (some (.b true)))
def uxR (L : MxLink) : S := run 43 TU 7 (next (ucR L) (some (.b false)))
def u2R (L : MxLink) : S := run 43 (tabU false false true false false) 21 (uEn L)
def retR (L : MxLink) : S := run 43 (tabU false true false false false) 60 (uEn L)
def ucS (L : MxLink) : S := fresh [(0, some (.v 0)), (27, some (.v 1)), (28, some (.v 4)), (29, some (.v 42))] (ucR L).todo
def uxS (L : MxLink) : S := fresh [(0, some (.v 0)), (37, some (.v 1))] (uxR L).todo
def u1S (L : MxLink) : S := fresh [(33, some (.v 2))] (u1R L).todo
def u2S (L : MxLink) : S := fresh [(41, some (.v 2))] (u2R L).todo
def retS (L : MxLink) : S := fresh [] (retR L).todo
def ret1S (L : MxLink) : S := fresh [] (run 43 TU 1 (next (u1R L) none)).todo
def ret2S : S := fresh [] []
def r5 : List (E × E) := [(.v 0, .v 0), (.v 1, .v 1), (.v 2, .v 2), (.v 4, .v 4), (.v 42, .v 42)]
section
variable (L : MxLink)
def isRet (t : List Item) : Bool := match t with
  | [] => true
  | .code .ret :: _ => true
  | _ => false
theorem ret_0 : isRet (retS L).todo = true := by kernel_rfl
theorem ret_1 : isRet (ret1S L).todo = true := by kernel_rfl
section
variable (w s n0 n1 : Bool)
theorem cu_w : To L.mu.tIMutex 43 (tabU false true false n0 n1) 60 0 (uEn L) (retS L) r5 := by cases n0 <;> exact ⟨by kernel_rfl, by kernel_rfl, by kernel_rfl⟩
theorem cu_n : To L.mu.tIMutex 43 (tabU false w false true n1) 60 0 (uEn L) (retS L) r5 := by cases w <;> exact ⟨by kernel_rfl, by kernel_rfl, by kernel_rfl⟩
theorem cu_c : To L.mu.tIMutex 43 (tabU false false false false n1) 60 1 (uEn L) (ucS L) r5 := ⟨by kernel_rfl, by kernel_rfl, by kernel_rfl⟩
theorem cu_s : To L.mu.tIMutex 43 (tabU false w true n0 n1) 60 1 (uEn L) (u2S L) r5 := ⟨by kernel_rfl, by kernel_rfl, by kernel_rfl⟩
theorem cu_y (l : Bool) : To L.mu.tIMutex 43 (tabU l w s n0 n1) 7 1 (next (ucS L) (some (.b true))) (u1S L) r5 := ⟨by kernel_rfl, by kernel_rfl, by kernel_rfl⟩
theorem cu_x (l : Bool) : To L.mu.tIMutex 43 (tabU l w s n0 n1) 7 1 (next (ucS L) (some (.b false))) (uxS L) r5 := ⟨by kernel_rfl, by kernel_rfl, by kernel_rfl⟩
theorem cx_n (l : Bool) : To L.mu.tIMutex 43 (tabU l w s true n1) 60 0 (next (uxS L) (some (.v 4))) (retS L) r5 := by cases l <;> cases w <;> cases s <;> exact ⟨by kernel_rfl, by kernel_rfl, by kernel_rfl⟩
theorem cx_l : To L.mu.tIMutex 43 (tabU true w s false n1) 60 0 (next (uxS L) (some (.v 4))) (retS L) r5 := by cases w <;> cases s <;> exact ⟨by kernel_rfl, by kernel_rfl, by kernel_rfl⟩
theorem cx_w (l : Bool) : To L.mu.tIMutex 43 (tabU l true s false n1) 60 0 (next (uxS L) (some (.v 4))) (retS L) r5 := by cases l <;> cases s <;> exact ⟨by kernel_rfl, by kernel_rfl, by kernel_rfl⟩
theorem cx_s (l : Bool) : To L.mu.tIMutex 43 (tabU l w true false n1) 60 0 (next (uxS L) (some (.v 4))) (retS L) r5 := by cases l <;> cases w <;> exact ⟨by kernel_rfl, by kernel_rfl, by kernel_rfl⟩
theorem cx_c : To L.mu.tIMutex 43 (tabU false false false false n1) 60 1 (next (uxS L) (some (.v 4))) (ucS L) r5 := ⟨by kernel_rfl, by kernel_rfl, by kernel_rfl⟩
theorem c1_r (l : Bool) : To L.mu.tIMutex 43 (tabU l w s n0 n1) 1 0 (next (u1S L) none) (ret1S L) r5 := ⟨by kernel_rfl, by kernel_rfl, by kernel_rfl⟩
theorem c2_r (l : Bool) : To L.mu.tIMutex 43 (tabU l w s n0 n1) 1 0 (next (u2S L) none) ret2S r5 := ⟨by kernel_rfl, by kernel_rfl, by kernel_rfl⟩
end
theorem at_uc : callAt 43 (ucS L) = some (L.mu.cas32, [some (.v 1), some (.v 4), some (.v 42)]) := by kernel_rfl
theorem at_ux : loadAt 43 (uxS L) = some (21, some (.v 1)) := by kernel_rfl
theorem at_u1 : callAt 43 (u1S L) = some (L.semrel, [some (.v 2), some (.b false), some (.i .i64 2)]) := by kernel_rfl
theorem at_u2 : callAt 43 (u2S L) = some (L.semrel, [some (.v 2), some (.b true), some (.i .i64 2)]) := by kernel_rfl
theorem us_norace : (some (unlockSlowFn L)).any (·.norace) = true := by kernel_rfl
end
end Go.Mx
end
section
set_option linter.unusedVariables false
set_option linter.unusedSectionVars false
set_option linter.unusedSimpArgs false
namespace Go.Mx
open Go.Ren Go.Sy
open Go.Conc hiding Goes
open Go.Conc.Locks
open Go.ConcR (stA smA)
def BhU (L : MxLink) (cs : List Frame) (ν : Nat → Value) (s : S) (g : Goroutine) : Prop := Behind ν 43 (base L.mu.unlockSlow) [] cs s g
def AtU (L : MxLink) (Mu : Nat) (cs : List Frame) (y : Lk) (d : Nat) (g : Goroutine) : Prop := d = 1 ∧ match y with
  | .uc o => Small o ∧ BhU L cs (nu Mu 0 0 0 o 0) (ucS L) g
  | .ux => ∃ o, Small o ∧ BhU L cs (nu Mu 0 0 0 o 0) (uxS L) g
  | .us => ∃ o, Small o ∧ (BhU L cs (nu Mu 0 0 0 o 0) (u1S L) g ∨ BhU L cs (nu Mu 0 0 0 o 0) (u2S L) g)
  | _ => False
section
variable {P : Program} {L : MxLink} {I : World → Prop} {tM : TypeId} {Mu B : Nat} {cs : List Frame} {d : Nat} {g : Goroutine} {wst it tv : Int} {o : Wd} {nw : Int} {Q : Nat → Goroutine → Prop}
def RU (P : Program) (L : MxLink) (I : World → Prop) (Mu : Nat) (cs : List Frame) (y : Lk) (d : Nat) (g : Goroutine) : Prop := IdleD P false I X0 (AtU L Mu cs y) d g
theorem kU : (base L.mu.unlockSlow).kind ≠ .early := by simp [base]
theorem r5_ok {tv' nw' : Int} : ∀ p ∈ r5, p.1.den (nu Mu wst it tv o nw) = p.2.den (nu Mu wst it tv' o nw') := by
  intro p hp
  simp only [r5, List.mem_cons, List.not_mem_nil, or_false] at hp
  rcases hp with rfl | rfl | rfl | rfl | rfl
  · exact nu_0.trans nu_0.symm
  · exact nu_1.trans nu_1.symm
  · exact nu_2.trans nu_2.symm
  · exact nu_4.trans nu_4.symm
  · exact nu_42.trans nu_42.symm
theorem ux_env (L : MxLink) : (Go.Sy.sub (uxS L).env (uxS L).env).all (okPair r4) = true := by kernel_rfl
theorem us_quiet (H : MxLib P L) : (P.funcs[(base L.mu.unlockSlow).fn]?).any (·.norace) = true := by
  show (P.funcs[L.mu.unlockSlow]?).any (·.norace) = true
  rw [H.f_unlockSlow]; exact us_norace L
theorem tabU_of {l w s n0 n1 : Bool} (hl : fl o.L = l) (hw : fl o.W = w) (hs : fl o.S = s) (h0 : (o.n == 0) = n0) : tabU (fl o.L) (fl o.W) (fl o.S) (o.n == 0) (o.n == 1) = tabU l w s n0 (o.n == 1) := by rw [hl, hw, hs, h0]
theorem v42_is (ho : o.Bits) (hn : o.n < 63) (h : o.L = 0 ∧ o.W = 0 ∧ o.S = 0 ∧ 0 < o.n) : bor (IntKind.i32.wrap ((o.num : Int) - 8)) 2 = ((⟨0, 1, 0, o.n - 1⟩ : Wd).num : Nat) := by
  have h1 := num_w4 (m := ⟨0, 1, 0, o.n - 1⟩) ⟨Nat.zero_le _, Nat.le_refl _, Nat.zero_le _⟩
  have h2 := num_w4 ho
  rw [h.1, h.2.1, h.2.2.1] at h2
  obtain ⟨k, hk⟩ : ∃ k, o.n = k + 1 := ⟨o.n - 1, by omega⟩
  rw [h2, h1, hk]
  exact w_m8 k (by omega)
theorem wake_at {sz : Nat} {s : S} {f : FuncId} {xs : List (Option E)} {A : Array Value} {b : Frame} {fn : Func} (hm : b.mode = .run) (hc : callAt sz s = some (f, xs)) (hf : P.funcs[f]? = some fn) (hb : fn.body.isNone = true) : mayWake P (G (b.at ⟨A, []⟩ s.todo) cs) = true := by
  obtain ⟨o, args, ats, ho, hop, ha⟩ := callAt_op hc
  unfold opAt at ho
  split at ho
  · rename_i ops i rest k he
    rw [he]
    split at ho
    · rename_i o' ho'
      split at ho
      · split at ho
        · cases ho
          exact Go.ConcR.Gen.mayWake_entry ho' hop hf hb
        · cases ho
      · cases ho
    · cases ho
  · cases ho
def AtR (L : MxLink) (cs : List Frame) (d : Nat) (g : Goroutine) : Prop := d = 1 ∧ ∃ (A : Array Value) (t : List Item), isRet t = true ∧ g = G ((base L.mu.unlockSlow).at ⟨A, []⟩ t) cs
variable (H : MxLib P L) (hB : B < 63) (hQ : ∀ g, AtR L cs 1 g → IdleD P false I X0 Q 1 g)
include H hB hQ
theorem law_uc {o : Wd} (h : AtU L Mu cs (.uc o) d g) : Law P I tM Mu B (Nx (RU P L I Mu cs) (IdleD P false I X0 Q)) (.uc o) d g := by
  obtain ⟨rfl, hsm, A, hz, ha, rfl⟩ := h
  refine ⟨rfl, rfl, rfl, fun e => (by cases e), fun w m q hw hm hf => .inr ?_⟩
  obtain ⟨hbits, hnB, hq1, ⟨ob, oL, oW, oS, on0, on⟩, _⟩ := hf
  have hT := tabU_ok H (Mu := Mu) (nw := 0) hsm.1 hsm.2
  by_cases hmo : m = o
  · subst hmo
    obtain ⟨g', hb, hst⟩ := cas_hit (P := P) (m := false) (b := base L.mu.unlockSlow) (ds := []) (cs := cs) (at_uc L) hz ha kU H.lib.f_cas32 (e_cas_n L) (e_cas_b L) (e_cas_x L) (e_cas_f L) (ad := mA Mu) nu_1 nu_4 nu_42
    refine ⟨.us, ⟨m.L, 1, m.S, m.n - 1⟩, q, g', _, _, .ucy rfl, hst w hm.state (hm.thaw 0), hm.setState ?_, eff_m _, ev_2, fun e => (by cases e), ?_⟩
    · rw [v42_is hsm.1 hsm.2 ⟨oL, oW, oS, on0⟩, oL, oS]
    · rw [df_2]
      exact (cu_y L _ _ _ _ _).walk (ν' := nu Mu 0 0 0 m 0) hT r5_ok kU hb fun g'' hb' => .stop ⟨rfl, m, hsm, .inl hb'⟩
  · obtain ⟨g', hb, hst⟩ := cas_miss (P := P) (m := false) (b := base L.mu.unlockSlow) (ds := []) (cs := cs) (at_uc L) hz ha kU H.lib.f_cas32 (e_cas_n L) (e_cas_b L) (e_cas_x L) (e_cas_f L) (ad := mA Mu) nu_1 nu_4 nu_42
    refine ⟨.ux, m, q, g', _, _, .ucn hmo, hst w _ hm.state (hm.thaw 0) (num_ne hbits ob hmo), hm, eff_refl, ev_1, fun e => (by cases e), ?_⟩
    rw [df_1]
    exact (cu_x L _ _ _ _ _).walk (ν' := nu Mu 0 0 0 o 0) hT r5_ok kU hb fun g'' hb' => .stop ⟨rfl, o, hsm, hb'⟩
theorem ret_go {ν : Nat → Value} (hb : BhU L cs ν (retS L) g) : IdleD P false I X0 Q 1 g := by
  obtain ⟨A, hz, ha, rfl⟩ := hb
  exact hQ _ ⟨rfl, A, _, ret_0 L, rfl⟩
theorem law_ux (h : AtU L Mu cs .ux d g) : Law P I tM Mu B (Nx (RU P L I Mu cs) (IdleD P false I X0 Q)) .ux d g := by
  obtain ⟨rfl, o, hsm, A, hz, ha, rfl⟩ := h
  refine ⟨rfl, rfl, rfl, fun e => (by cases e), fun w m q hw hm hf => .inr ?_⟩
  obtain ⟨hbits, hnB, hq1, hwf, _⟩ := hf
  have hms : Small m := ⟨hbits, by omega⟩
  have ha' : Agree (nu Mu 0 0 0 m 0) (uxS L).env A := agree_v r4 (ux_env L) r4_ok ha
  have hT := tabU_ok H (Mu := Mu) (nw := 0) hms.1 hms.2
  obtain ⟨g', hb, hstep⟩ := load_at (P := P) (m := false) (b := base L.mu.unlockSlow) (ds := []) (cs := cs) (z := some (.v 4)) H.lib.runUnderlying_t21 H.lib.sizeOf_t21 H.lib.isAgg_t21 (at_ux L) hz ha' kU (us_quiet H) (ad := mA Mu) nu_1 (v := (m.num : Int)) (fun u hu => by cases hu; exact nu_4.symm)
  have hL := hbits.L
  have hW := hbits.W
  have hS := hbits.S
  by_cases hc : m.L = 0 ∧ m.W = 0 ∧ m.S = 0 ∧ 0 < m.n
  · refine ⟨.uc m, m, q, g', w, #[], .uxc hc, hstep w hm.state, hm, eff_refl, by simp, fun e => (by cases e), ?_⟩
    show IdleD P false I X0 _ 1 g'
    rw [tabU_of (n1 := false) (fl0 hc.1) (fl0 hc.2.1) (fl0 hc.2.2.1) (show (m.n == 0) = false from by simp; omega)] at hT
    exact (cx_c L _).walk (ν' := nu Mu 0 0 0 m 0) hT r5_ok kU hb fun g'' hb' => .stop ⟨rfl, hms, hb'⟩
  · refine ⟨.done, m, q, g', w, #[], .uxd hc, hstep w hm.state, hm, eff_refl, by simp, fun e => (by cases e), ?_⟩
    show IdleD P false I X0 Q 1 g'
    by_cases hn : m.n = 0
    · rw [tabU_of (n1 := false) rfl rfl rfl (show (m.n == 0) = true from by simpa using hn)] at hT
      exact (cx_n L _ _ _ _).walk (ν' := nu Mu 0 0 0 m 0) hT r5_ok kU hb fun g'' hb' => ret_go H hB hQ hb'
    · have h0 : (m.n == 0) = false := by simpa using hn
      by_cases hl : m.L = 1
      · rw [tabU_of (n1 := false) (fl1 hl) rfl rfl h0] at hT
        exact (cx_l L _ _ _).walk (ν' := nu Mu 0 0 0 m 0) hT r5_ok kU hb fun g'' hb' => ret_go H hB hQ hb'
      · by_cases hw' : m.W = 1
        · rw [tabU_of (n1 := false) rfl (fl1 hw') rfl h0] at hT
          exact (cx_w L _ _ _).walk (ν' := nu Mu 0 0 0 m 0) hT r5_ok kU hb fun g'' hb' => ret_go H hB hQ hb'
        · have hs1 : m.S = 1 := by
            apply Classical.byContradiction
            intro hne
            exact hc ⟨by omega, by omega, by omega, by omega⟩
          rw [tabU_of (n1 := false) rfl rfl (fl1 hs1) h0] at hT
          exact (cx_s L _ _ _).walk (ν' := nu Mu 0 0 0 m 0) hT r5_ok kU hb fun g'' hb' => ret_go H hB hQ hb'
theorem law_us (h : AtU L Mu cs .us d g) : Law P I tM Mu B (Nx (RU P L I Mu cs) (IdleD P false I X0 Q)) .us d g := by
  obtain ⟨rfl, o, hsm, h⟩ := h
  have hT := tabU_ok H (Mu := Mu) (nw := 0) hsm.1 hsm.2
  have wr : ∀ q : Nat, q ≤ 1 → IntKind.u32.wrap ((q : Int) + 1) = ((q + 1 : Nat) : Int) := fun q hq => by
    have : q = 0 ∨ q = 1 := by omega
    rcases this with rfl | rfl <;> decide +kernel
  rcases h with ⟨A, hz, ha, rfl⟩ | ⟨A, hz, ha, rfl⟩
  · obtain ⟨g', hb, hst⟩ := semrel_at (P := P) (m := false) (b := base L.mu.unlockSlow) (ds := []) (cs := cs) (z := none) rfl (at_u1 L) hz ha kU H.f_semrel (e_rel_n L) (e_rel_b L) (e_rel_x L) (e_rel_f L) (ad := sA Mu) nu_2
    have hrun : g'.status = .running := by obtain ⟨_, _, _, rfl⟩ := hb; rfl
    refine ⟨rfl, rfl, rfl, fun _ => wake_at rfl (at_u1 L) H.f_semrel (e_rel_b L), fun w m q hw hm hf => .inr ⟨.done, m, q + 1, g', _, _, .us, hst w _ hm.sema (hm.thaw 1), hm.setSema (wr q hf.2.2.1), eff_s _, ev_s, fun _ => hrun, ?_⟩⟩
    rw [df_s]
    show IdleD P false I X0 Q 1 g'
    exact (c1_r L _ _ _ _ _).walk (ν' := nu Mu 0 0 0 o 0) hT r5_ok kU hb fun g'' hb' => by
      obtain ⟨A', _, _, rfl⟩ := hb'
      exact hQ _ ⟨rfl, A', _, ret_1 L, rfl⟩
  · obtain ⟨g', hb, hst⟩ := semrel_at (P := P) (m := false) (b := base L.mu.unlockSlow) (ds := []) (cs := cs) (z := none) rfl (at_u2 L) hz ha kU H.f_semrel (e_rel_n L) (e_rel_b L) (e_rel_x L) (e_rel_f L) (ad := sA Mu) nu_2
    have hrun : g'.status = .running := by obtain ⟨_, _, _, rfl⟩ := hb; rfl
    refine ⟨rfl, rfl, rfl, fun _ => wake_at rfl (at_u2 L) H.f_semrel (e_rel_b L), fun w m q hw hm hf => .inr ⟨.done, m, q + 1, g', _, _, .us, hst w _ hm.sema (hm.thaw 1), hm.setSema (wr q hf.2.2.1), eff_s _, ev_s, fun _ => hrun, ?_⟩⟩
    rw [df_s]
    show IdleD P false I X0 Q 1 g'
    exact (c2_r L _ _ _ _ _).walk (ν' := nu Mu 0 0 0 o 0) hT r5_ok kU hb fun g'' hb' => by
      obtain ⟨A', _, _, rfl⟩ := hb'
      exact hQ _ ⟨rfl, A', _, rfl, rfl⟩
theorem law_usl {y : Lk} (h : AtU L Mu cs y d g) : Law P I tM Mu B (Nx (RU P L I Mu cs) (IdleD P false I X0 Q)) y d g := by
  cases y with
  | uc o => exact law_uc H hB hQ h
  | ux => exact law_ux H hB hQ h
  | us => exact law_us H hB hQ h
  | _ => exact h.2.elim
end
end Go.Mx
end
section
set_option linter.unusedVariables false
set_option linter.unusedSectionVars false
set_option linter.unusedSimpArgs false
namespace Go.Sy
open Go.Ren
open Go.Conc hiding Goes
def convAt (sz : Nat) (s : S) : Option (TypeId × TypeId × Option E) := match opAt sz s with
  | some o => match o.op with
    | .convert a b x => some (a, b, opE s.env x)
    | _ => none
  | none => none
theorem convAt_op {sz : Nat} {s : S} {t u : TypeId} {x : Option E} (h : convAt sz s = some (t, u, x)) : ∃ (o : Oper) (y : Operand), opAt sz s = some o ∧ o.op = .convert t u y ∧ opE s.env y = x := by
  unfold convAt at h
  split at h
  · rename_i o ho
    split at h
    · rename_i a b y hc
      cases h
      exact ⟨o, y, ho, hc, rfl⟩
    · cases h
  · cases h
theorem conv_at {P : Program} {ν : Nat → Value} {A : Array Value} {sz : Nat} {m : Bool} {b : Frame} {ds : List Deferred} {cs : List Frame} {s : S} {src dst t : TypeId} {q : E} (hc : convAt sz s = some (src, dst, some q)) (hz : A.size = sz) (h : Agree ν s.env A) (hk : b.kind ≠ .early)
    (hs : P.underlying src = some (.pointer t)) (hd : P.underlying dst = some .unsafePointer) (hsz : (P.info? t).map (fun i => decide (i.size = 0)) = some false) {ad : Addr} (hq : q.den ν = .pointer (some ad)) :
    ∃ g', Behind ν sz b ds cs (next s (some q)) g' ∧ ∀ (w : World) (v : Value), w.cell? ad = some v → stepG P m (G (b.at ⟨A, ds⟩ s.todo) cs) w = .go g' w #[] := by
  obtain ⟨o, y, ho, hop, hy⟩ := convAt_op hc
  obtain ⟨ops, i, rest, k, h1, h2, h3, h4, h5⟩ := opAt_ok (ds := ds) ho hz h
  obtain ⟨k1, k2, k3⟩ := h5 (some q) (.pointer (some ad)) (fun z hz => by cases hz; exact hq.symm)
  have hx := (opE_ok (ds := ds) h hy).trans hq
  refine ⟨G (b.at (Act.put ⟨A, ds⟩ o.dst (.pointer (some ad))) (.inRegion ops rest :: k)) cs, ⟨_, k1, k3, by rw [h4, ← k2]⟩, fun w v hcell => ?_⟩
  rw [h1]
  have r1 := run_convert_to_unsafe (P := P) hs hd hsz hcell
  have r2 := fun es => events_convert_to_unsafe (P := P) hs hd hsz hcell es
  have hr : (execOp (Act.eval ⟨A, ds⟩) o).run P w = .ok (.value (.pointer (some ad))) w := by
    unfold execOp
    simp only [hop, hx]
    simp [go_sem, r1]
  have he : (execOp (Act.eval ⟨A, ds⟩) o).events P w #[] = #[] := by
    unfold execOp
    simp only [hop, hx]
    simp [go_sem, r1, r2]
  rw [stepG_value h2 h3 hk hr]
  unfold listed
  rw [he, seen_none]
end Go.Sy
namespace Go.Mx
open Go.Ren Go.Sy
open Go.Conc hiding Goes
open Go.Conc.Locks
open Go.ConcR (stA smA)
section
variable {P : Program} {L : MxLink} {I : World → Prop} {tM : TypeId} {Mu B : Nat} {cs : List Frame} {d : Nat} {g : Goroutine} {wst it tv : Int} {o : Wd} {nw : Int} {T : Goroutine → Prop}
theorem e_en_n (L : MxLink) : ((enableFn L.mu).name == "runtime.NumGoroutine") = false := by kernel_rfl
theorem e_en_b (L : MxLink) : (enableFn L.mu).body.isNone = true := by kernel_rfl
theorem e_en_x (L : MxLink) : Extern.findNext (enableFn L.mu) = none := by kernel_rfl
theorem e_en_f (L : MxLink) : Extern.find (enableFn L.mu) = some (fun _ => do mark .enable; pure Extern.Race.none_) := by kernel_rfl
theorem e_dis_n (L : MxLink) : ((disableFn L.mu).name == "runtime.NumGoroutine") = false := by kernel_rfl
theorem e_dis_b (L : MxLink) : (disableFn L.mu).body.isNone = true := by kernel_rfl
theorem e_dis_x (L : MxLink) : Extern.findNext (disableFn L.mu) = none := by kernel_rfl
theorem e_dis_f (L : MxLink) : Extern.find (disableFn L.mu) = some (fun _ => do mark .disable; pure Extern.Race.none_) := by kernel_rfl
theorem e_aq_n (L : MxLink) : ((acquireFn L.mu).name == "runtime.NumGoroutine") = false := by kernel_rfl
theorem e_aq_b (L : MxLink) : (acquireFn L.mu).body.isNone = true := by kernel_rfl
theorem e_aq_x (L : MxLink) : Extern.findNext (acquireFn L.mu) = none := by kernel_rfl
theorem e_aq_f (L : MxLink) : Extern.find (acquireFn L.mu) = some (Extern.Race.marked .acquire) := by kernel_rfl
theorem e_rm_n (L : MxLink) : ((relMergeFn L.mu).name == "runtime.NumGoroutine") = false := by kernel_rfl
theorem e_rm_b (L : MxLink) : (relMergeFn L.mu).body.isNone = true := by kernel_rfl
theorem e_rm_x (L : MxLink) : Extern.findNext (relMergeFn L.mu) = none := by kernel_rfl
theorem e_rm_f (L : MxLink) : Extern.find (relMergeFn L.mu) = some (Extern.Race.marked .releaseMerge) := by kernel_rfl
def Sees (I : World → Prop) (Mu : Nat) : Prop := ∀ w, I w → ∃ v, w.cell? (mA Mu) = some v
theorem tail_go (H : MxLib P L) (hI : Sees I Mu) {sz n1 n2 : Nat} {b : Frame} {sE sC sQ : S} {T0 : Tab} {ν : Nat → Value} {ρ : List (E × E)} (hk : b.kind ≠ .early) (hν : ν 0 = .pointer (some (mA Mu))) (hT : TabOk P L.mu.tIMutex ν T0) (hρ : ∀ p ∈ ρ, p.1.den ν = p.2.den ν)
    (hE : callAt sz sE = some (L.mu.enable, [])) (h1 : To L.mu.tIMutex sz T0 n1 0 (next sE none) sC ρ) (hC : convAt sz sC = some (L.mu.tPIMutex, L.mu.tUP, some (.v 0))) (h2 : To L.mu.tIMutex sz T0 n2 0 (next sC (some (.v 0))) sQ ρ) (hQ : callAt sz sQ = some (L.mu.acquire, [some (.v 0)]))
    (k : ∀ g, Behind ν sz b [] cs (next sQ none) g → T g) (hg : Behind ν sz b [] cs sE g) :
    Says P false I #[Go.ConcR.mk .enable] (IdleD P false I X0 (fun d g => d = 0 ∧ Says P false I #[Go.ConcR.mk (.acquire (stA Mu))] T g) 0) g := by
  obtain ⟨A, hz, ha, rfl⟩ := hg
  obtain ⟨g1, b1, s1⟩ := mark0_at (P := P) (m := false) (b := b) (ds := []) (cs := cs) .enable (by simp) (z := none) rfl hE hz ha hk H.lib.f_enable (e_en_n L) (e_en_b L) (e_en_x L) (e_en_f L)
  refine ⟨rfl, g1, fun w _ => s1 w, ?_⟩
  refine h1.walk hT hρ hk b1 fun g2 b2 => ?_
  obtain ⟨A2, hz2, ha2, rfl⟩ := b2
  obtain ⟨g3, b3, s3⟩ := conv_at (P := P) (m := false) (b := b) (ds := []) (cs := cs) hC hz2 ha2 hk H.lib.underlying_tPIMutex H.lib.underlying_tUP H.lib.room_tIMutex (ad := mA Mu) hν
  refine .step rfl (fun _ => g3) (fun _ => #[]) (fun w hw => ⟨?_, by simp⟩) fun w _ => ?_
  · obtain ⟨v, hv⟩ := hI w hw
    exact s3 w v hv
  · show IdleD P false I X0 _ 0 g3
    refine h2.walk hT hρ hk b3 fun g4 b4 => .stop ⟨rfl, ?_⟩
    obtain ⟨A4, hz4, ha4, rfl⟩ := b4
    obtain ⟨g5, b5, s5⟩ := markAt_at (P := P) (m := false) (b := b) (ds := []) (cs := cs) .acquire (by simp) (z := none) rfl hQ hz4 ha4 hk H.lib.f_acquire (e_aq_n L) (e_aq_b L) (e_aq_x L) (e_aq_f L) (ad := mA Mu) hν
    exact ⟨rfl, g5, fun w _ => s5 w, k _ b5⟩
def cvS (L : MxLink) : S := fresh [(0, some (.v 0)), (136, some (.v 0))] (run 139 T0 5 (next (exS L) none)).todo
def aqS (L : MxLink) : S := fresh [(137, some (.v 0))] (run 139 T0 0 (next (cvS L) (some (.v 0)))).todo
def rq : List (E × E) := [(.v 0, .v 0)]
theorem ck_ex (l w s n0 n1 z late : Bool) : To L.mu.tIMutex 139 (tab l w s n0 n1 z late) 5 0 (next (exS L) none) (cvS L) rq := ⟨by kernel_rfl, by kernel_rfl, by kernel_rfl⟩
theorem ck_cv (l w s n0 n1 z late : Bool) : To L.mu.tIMutex 139 (tab l w s n0 n1 z late) 0 0 (next (cvS L) (some (.v 0))) (aqS L) rq := ⟨by kernel_rfl, by kernel_rfl, by kernel_rfl⟩
theorem at_cv : convAt 139 (cvS L) = some (L.mu.tPIMutex, L.mu.tUP, some (.v 0)) := by kernel_rfl
theorem at_aq : callAt 139 (aqS L) = some (L.mu.acquire, [some (.v 0)]) := by kernel_rfl
theorem rq_ok : ∀ p ∈ rq, p.1.den (nu Mu wst it tv o nw) = p.2.den (nu Mu wst it tv o nw) := by
  intro p hp
  simp only [rq, List.mem_cons, List.not_mem_nil, or_false] at hp
  subst hp; rfl
end
end Go.Mx
end
section
set_option linter.unusedVariables false
set_option linter.unusedSectionVars false
set_option linter.unusedSimpArgs false
namespace Go.Sy
open Go.Ren
open Go.Conc hiding Goes
def envOf : Nat → List (Option E) → Env
  | _, [] => []
  | j, x :: xs => (j, x) :: envOf (j + 1) xs
theorem get_envOf : ∀ (xs : List (Option E)) (j k : Nat) (x : E), get (envOf j xs) k = some x → j ≤ k ∧ xs[k - j]? = some (some x)
  | [], j, k, x, h => by cases h
  | y :: xs, j, k, x, h => by
    unfold envOf get at h
    split at h
    · rename_i e
      have : j = k := by simpa using e
      subst this
      subst h
      exact ⟨Nat.le_refl _, by simp⟩
    · rename_i e
      have hne : j ≠ k := by simpa using e
      obtain ⟨h1, h2⟩ := get_envOf xs (j + 1) k x h
      refine ⟨by omega, ?_⟩
      obtain ⟨i, hi⟩ : ∃ i, k - j = i + 1 := ⟨k - j - 1, by omega⟩
      rw [hi, List.getElem?_cons_succ]
      have : i = k - (j + 1) := by omega
      rw [this]; exact h2
section
variable {P : Program} {ν : Nat → Value} {sz : Nat} {m : Bool} {b : Frame} {ds : List Deferred} {cs : List Frame} {s : S} {I : World → Prop} {X : Event → Prop} {Q : Nat → Goroutine → Prop} {d : Nat} {A : Array Value}
theorem enter_go {f : FuncId} {xs : List (Option E)} {fn : Func} {c : Code} (hc : callAt sz s = some (f, xs)) (hz : A.size = sz) (h : Agree ν s.env A) (hk : b.kind ≠ .early) (hf : P.funcs[f]? = some fn) (hname : (fn.name == "runtime.NumGoroutine") = false) (hb : fn.body = some c) (hn : xs.length ≤ fn.ntmps)
    (k : ∀ g, Behind ν fn.ntmps (base f) [] (b.at ⟨A, ds⟩ s.todo :: cs) ⟨envOf 0 xs, [.code c], []⟩ g → IdleD P m I X Q d g) : IdleD P m I X Q d (G (b.at ⟨A, ds⟩ s.todo) cs) := by
  obtain ⟨ops, i, rest, kk, o, args, ats, h1, h2, h3, h4, h5, h6, h7⟩ := callAt_ok hc hz h b ds cs
  have hb' : fn.body.isNone = false := by rw [hb]; rfl
  have hstep : ∀ w, stepG P m (G (b.at ⟨A, ds⟩ s.todo) cs) w = .go (G ((base f).at ⟨args.map (Act.eval ⟨A, ds⟩) ++ Array.replicate (fn.ntmps - (args.map (Act.eval ⟨A, ds⟩)).size) undef, []⟩ [.code c]) (b.at ⟨A, ds⟩ s.todo :: cs)) w #[] := by
    intro w
    rw [h1, stepG_enter h2 h3 hk (run_call_body h4 hf hname hb'), enter_at _ hf hb]
    have : listed P b.fn ⟨A, ds⟩ o w = #[] := by unfold listed; rw [events_call_body h4 hf hname hb']; exact seen_none P _
    rw [this]
  refine .step rfl (fun _ => _) (fun _ => #[]) (fun w _ => ⟨hstep w, by simp⟩) fun w _ => ?_
  refine k _ ⟨_, ?_, fun j x hx => ?_, rfl⟩
  · simp [h6]; omega
  · obtain ⟨_, hj⟩ := get_envOf xs 0 j x hx
    rw [Nat.sub_zero] at hj
    have := h5 j x hj
    have hlt : j < (args.map (Act.eval ⟨A, ds⟩)).size := (Array.getElem?_eq_some_iff.1 this).1
    rw [Array.getElem?_append_left hlt]
    exact this
theorem leave_back {f : FuncId} {xs : List (Option E)} {fn : Func} {t : List Item} {A' : Array Value} (hc : callAt sz s = some (f, xs)) (hz : A.size = sz) (h : Agree ν s.env A) (hf : P.funcs[f]? = some fn) (hr : fn.results = #[]) (ht : t = [] ∨ ∃ k, t = .code .ret :: k)
    (k : IdleD P m I X Q d (G ((b.at ⟨A, ds⟩ s.todo).finish (.tuple #[])) cs)) : IdleD P m I X Q d (G ((base f).at ⟨A', []⟩ t) (b.at ⟨A, ds⟩ s.todo :: cs)) := by
  obtain ⟨ops, i, rest, kk, o, args, ats, h1, h2, h3, h4, h5, h6, h7⟩ := callAt_ok hc hz h b ds cs
  have e1 : ∀ w, stepG P m (G ((base f).at ⟨A', []⟩ t) (b.at ⟨A, ds⟩ s.todo :: cs)) w = .go (G { (base f).at ⟨A', []⟩ t with mode := .returning } (b.at ⟨A, ds⟩ s.todo :: cs)) w #[] := by
    intro w
    rcases ht with rfl | ⟨kx, rfl⟩
    · exact stepG_end
    · exact stepG_ret'
  refine .step rfl (fun _ => _) (fun _ => #[]) (fun w _ => ⟨e1 w, by simp⟩) fun w _ => ?_
  have e2 : ∀ w, stepG P m (G { (base f).at ⟨A', []⟩ t with mode := .returning } (b.at ⟨A, ds⟩ s.todo :: cs)) w = .go (G ((b.at ⟨A, ds⟩ s.todo).finish (.tuple #[])) cs) w #[] := by
    intro w
    rw [h1, stepG_leave (b := base f) (a := ⟨A', []⟩) rfl rfl hf (results_none hr _ P w) (events_results_none hr _ _)]
  exact .step rfl (fun _ => _) (fun _ => #[]) (fun w _ => ⟨e2 w, by simp⟩) fun w _ => k
theorem leave_go {f : FuncId} {xs : List (Option E)} {fn : Func} {t : List Item} {A' : Array Value} (hc : callAt sz s = some (f, xs)) (hz : A.size = sz) (h : Agree ν s.env A) (hf : P.funcs[f]? = some fn) (hr : fn.results = #[]) (ht : t = [] ∨ ∃ k, t = .code .ret :: k)
    (k : ∀ g, Behind ν sz b ds cs (next s none) g → IdleD P m I X Q d g) : IdleD P m I X Q d (G ((base f).at ⟨A', []⟩ t) (b.at ⟨A, ds⟩ s.todo :: cs)) := by
  obtain ⟨ops, i, rest, kk, o, args, ats, h1, h2, h3, h4, h5, h6, h7⟩ := callAt_ok hc hz h b ds cs
  have e1 : ∀ w, stepG P m (G ((base f).at ⟨A', []⟩ t) (b.at ⟨A, ds⟩ s.todo :: cs)) w = .go (G { (base f).at ⟨A', []⟩ t with mode := .returning } (b.at ⟨A, ds⟩ s.todo :: cs)) w #[] := by
    intro w
    rcases ht with rfl | ⟨kx, rfl⟩
    · exact stepG_end
    · exact stepG_ret'
  refine .step rfl (fun _ => _) (fun _ => #[]) (fun w _ => ⟨e1 w, by simp⟩) fun w _ => ?_
  have e2 : ∀ w, stepG P m (G { (base f).at ⟨A', []⟩ t with mode := .returning } (b.at ⟨A, ds⟩ s.todo :: cs)) w = .go (G (b.at (Act.put ⟨A, ds⟩ o.dst (.tuple #[])) (.inRegion ops rest :: kk)) cs) w #[] := by
    intro w
    rw [h1, stepG_leave (b := base f) (a := ⟨A', []⟩) rfl rfl hf (results_none hr _ P w) (events_results_none hr _ _), Frame.finish_at, h2]
    rfl
  refine .step rfl (fun _ => _) (fun _ => #[]) (fun w _ => ⟨e2 w, by simp⟩) fun w _ => ?_
  exact k _ (h7 none (.tuple #[]) (fun u hu => by cases hu))
end
end Go.Sy
end
section
set_option linter.unusedVariables false
set_option linter.unusedSectionVars false
set_option linter.unusedSimpArgs false
namespace Go.Mx
open Go.Ren Go.Sy
open Go.Conc hiding Goes
open Go.Conc.Locks
open Go.ConcR (stA smA)
def lkBody (L : MxLink) : Code := (lockFn L.mu).body.getD .skip
def ilBody (L : MxLink) : Code := (ilockFn L.mu).body.getD .skip
def tabM : Tab := [(.nil (.v 0), .v 0), (.fld (.v 0) 1, .v 1)]
def lkE (L : MxLink) : S := ⟨envOf 0 [some (.v 0)], [.code (lkBody L)], []⟩
def lkS (L : MxLink) : S := fresh [(4, some (.v 1))] (run 6 tabM 200 (lkE L)).todo
def ilE (L : MxLink) : S := ⟨envOf 0 [some (.v 1)], [.code (ilBody L)], []⟩
def idS (L : MxLink) : S := fresh [(0, some (.v 0))] (run 13 T0 200 (ilE L)).todo
def icS (L : MxLink) : S := fresh [(0, some (.v 0)), (5, some (.v 1))] (run 13 T0 200 (next (idS L) none)).todo
def ieS (L : MxLink) : S := fresh [(0, some (.v 0))] (run 13 T0 200 (next (icS L) (some (.b true)))).todo
def ivS (L : MxLink) : S := fresh [(0, some (.v 0)), (8, some (.v 0))] (run 13 T0 200 (next (ieS L) none)).todo
def iaS (L : MxLink) : S := fresh [(9, some (.v 0))] (run 13 T0 200 (next (ivS L) (some (.v 0)))).todo
def irS (L : MxLink) : S := fresh [] (run 13 T0 200 (next (iaS L) none)).todo
def isS (L : MxLink) : S := fresh [(0, some (.v 0)), (11, some (.v 0))] (run 13 T0 200 (next (icS L) (some (.b false)))).todo
def nilS : S := fresh [] []
def rp : List (E × E) := [(.v 0, .v 0), (.v 1, .v 1), (.v 1, .v 0)]
section
variable (L : MxLink)
theorem il_l : To L.mu.tMutex 6 tabM 200 1 (lkE L) (lkS L) rp := ⟨by kernel_rfl, by kernel_rfl, by kernel_rfl⟩
theorem il_r : To L.mu.tMutex 6 tabM 200 0 (next (lkS L) none) nilS rp := ⟨by kernel_rfl, by kernel_rfl, by kernel_rfl⟩
theorem il_at : callAt 6 (lkS L) = some (L.mu.ilock, [some (.v 1)]) := by kernel_rfl
section
variable (l w s n0 n1 z late : Bool)
theorem il_e : To L.mu.tIMutex 13 (tab l w s n0 n1 z late) 200 0 (ilE L) (idS L) rp := ⟨by kernel_rfl, by kernel_rfl, by kernel_rfl⟩
theorem il_c : To L.mu.tIMutex 13 (tab l w s n0 n1 z late) 200 1 (next (idS L) none) (icS L) rp := ⟨by kernel_rfl, by kernel_rfl, by kernel_rfl⟩
theorem il_y : To L.mu.tIMutex 13 (tab l w s n0 n1 z late) 200 0 (next (icS L) (some (.b true))) (ieS L) rp := ⟨by kernel_rfl, by kernel_rfl, by kernel_rfl⟩
theorem il_v : To L.mu.tIMutex 13 (tab l w s n0 n1 z late) 200 0 (next (ieS L) none) (ivS L) rp := ⟨by kernel_rfl, by kernel_rfl, by kernel_rfl⟩
theorem il_a : To L.mu.tIMutex 13 (tab l w s n0 n1 z late) 200 0 (next (ivS L) (some (.v 0))) (iaS L) rp := ⟨by kernel_rfl, by kernel_rfl, by kernel_rfl⟩
theorem il_ar : To L.mu.tIMutex 13 (tab l w s n0 n1 z late) 200 0 (next (iaS L) none) (irS L) rp := ⟨by kernel_rfl, by kernel_rfl, by kernel_rfl⟩
theorem il_n : To L.mu.tIMutex 13 (tab l w s n0 n1 z late) 200 0 (next (icS L) (some (.b false))) (isS L) rp := ⟨by kernel_rfl, by kernel_rfl, by kernel_rfl⟩
theorem il_s : To L.mu.tIMutex 13 (tab l w s n0 n1 z late) 200 0 (next (isS L) none) nilS rp := ⟨by kernel_rfl, by kernel_rfl, by kernel_rfl⟩
theorem ls_r : To L.mu.tIMutex 139 (tab l w s n0 n1 z late) 200 0 (next (aqS L) none) nilS rp := ⟨by kernel_rfl, by kernel_rfl, by kernel_rfl⟩
end
theorem at_id : callAt 13 (idS L) = some (L.mu.disable, []) := by kernel_rfl
theorem at_ic : callAt 13 (icS L) = some (L.mu.cas32, [some (.v 1), some (.i .i32 0), some (.i .i32 1)]) := by kernel_rfl
theorem at_ie : callAt 13 (ieS L) = some (L.mu.enable, []) := by kernel_rfl
theorem at_iv : convAt 13 (ivS L) = some (L.mu.tPIMutex, L.mu.tUP, some (.v 0)) := by kernel_rfl
theorem at_ia : callAt 13 (iaS L) = some (L.mu.acquire, [some (.v 0)]) := by kernel_rfl
theorem at_is : callAt 13 (isS L) = some (L.mu.lockSlow, [some (.v 0)]) := by kernel_rfl
theorem ret_i : isRet (irS L).todo = true := by kernel_rfl
end
end Go.Mx
end
