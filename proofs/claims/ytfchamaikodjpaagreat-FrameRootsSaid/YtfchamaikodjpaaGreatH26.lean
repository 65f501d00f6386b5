/- A part of the proof that the frame keeps its roots: lemmas on which it leans. -/
import Derived.Test.YtfchamaikodjpaaGreatH25
section
set_option linter.unusedVariables false
set_option linter.unusedSectionVars false
set_option linter.unusedSimpArgs false
namespace Go.Am
noncomputable section
def undOf (P : Program) (d : TypeDesc) : Option TypeDesc := match d with
  | .named _ u => (P.info? u).map TypeInfo.desc
  | d => some d
def placesL (P : Program) (l : List Field) : Option (List (Nat × Nat)) := List.rec (some []) (fun f _ ih => match P.info? f.type with
  | some d => match ih with
    | some m => some ((f.offset, d.size) :: m)
    | none => none
  | none => none) l
def entryT (P : Program) (d : TypeInfo) : Option TI := match undOf P d.desc with
  | some (.struct fields) => match placesL P fields.toList with
    | some pl => some ⟨d.size, .struct fields, d.zero, pl⟩
    | none => none
  | some u => some ⟨d.size, u, d.zero, []⟩
  | none => none
def tabT (P : Program) (l : List TypeInfo) : Nat → Tr TI := List.rec (fun _ => .nil) (fun d _ ih i => match entryT P d with
  | some e => (ih (i + 1)).set i e
  | none => ih (i + 1)) l
def tabF (l : List Func) : Nat → Tr Func := List.rec (fun _ => .nil) (fun fn _ ih i => bif fn.body.isSome && !(fn.name == "runtime.NumGoroutine") then (ih (i + 1)).set i fn else ih (i + 1)) l
end
section
variable {P : Program}
theorem placesL_some : ∀ (l : List Field) {pl : List (Nat × Nat)}, placesL P l = some pl → l.map (fun f => (f.offset, P.cellsOf f.type)) = pl ∧ ∀ f ∈ l, ∃ d, P.info? f.type = some d
  | [], pl, e => by cases e; exact ⟨rfl, fun f hf => (by cases hf)⟩
  | f :: l, pl, e => by
    replace e : (match P.info? f.type with
      | some d => match placesL P l with
        | some m => some ((f.offset, d.size) :: m)
        | none => none
      | none => none) = some pl := e
    split at e
    · rename_i d hd
      split at e
      · rename_i m hm
        cases e
        obtain ⟨h1, h2⟩ := placesL_some l hm
        refine ⟨?_, fun g hg => ?_⟩
        · rw [List.map_cons, h1]
          unfold Program.cellsOf
          rw [hd]
          rfl
        · rcases List.mem_cons.1 hg with rfl | hg
          · exact ⟨d, hd⟩
          · exact h2 g hg
      · cases e
    · cases e
theorem entryT_ok {t : Nat} {d : TypeInfo} {i : TI} (hd : P.info? t = some d) (e : entryT P d = some i) :
    P.underlying t = some i.und ∧ (∃ d, P.info? t = some d ∧ d.size = i.size) ∧ zeroOf P t = i.zero ∧ ∀ fields, i.und = .struct fields → fields.toList.map (fun f => (f.offset, P.cellsOf f.type)) = i.places ∧ ∀ f ∈ fields.toList, ∃ d, P.info? f.type = some d := by
  have hu : P.underlying t = undOf P d.desc := by
    unfold Program.underlying undOf
    rw [hd]
    obtain ⟨desc⟩ := d
    cases desc <;> rfl
  have hz : zeroOf P t = d.zero := by unfold zeroOf; rw [hd]; rfl
  rw [hu]
  unfold entryT at e
  split at e
  · rename_i fields hf
    split at e
    · rename_i pl hpl
      cases e
      rw [hf]
      refine ⟨rfl, ⟨d, hd, rfl⟩, hz, fun fs hfs => ?_⟩
      cases hfs
      exact placesL_some _ hpl
    · cases e
  · rename_i u hns hu'
    cases e
    rw [hu']
    exact ⟨rfl, ⟨d, hd, rfl⟩, hz, fun fs hfs => absurd hfs (hns fs)⟩
  · cases e
theorem tabT_get : ∀ (l : List TypeInfo) (i : Nat), (∀ j d, l[j]? = some d → P.info? (i + j) = some d) → ∀ t ti, (tabT P l i).get t = some ti →
    P.underlying t = some ti.und ∧ (∃ d, P.info? t = some d ∧ d.size = ti.size) ∧ zeroOf P t = ti.zero ∧ ∀ fields, ti.und = .struct fields → fields.toList.map (fun f => (f.offset, P.cellsOf f.type)) = ti.places ∧ ∀ f ∈ fields.toList, ∃ d, P.info? f.type = some d
  | [], i, hl, t, ti, e => by cases e
  | d :: l, i, hl, t, ti, e => by
    have ih := tabT_get l (i + 1) fun j d' hj => by
      have := hl (j + 1) d' (by simpa using hj)
      rw [show i + 1 + j = i + (j + 1) from by omega]
      exact this
    replace e : (match entryT P d with
      | some en => (tabT P l (i + 1)).set i en
      | none => tabT P l (i + 1)).get t = some ti := e
    split at e
    · rename_i en hen
      rw [Tr.get_set] at e
      split at e
      · rename_i ht
        cases e
        subst ht
        exact entryT_ok (hl 0 d rfl) hen
      · exact ih t ti e
    · exact ih t ti e
theorem tabT_ok : TabOk P (tabT P P.types.toList 0) :=
  ⟨tabT_get P.types.toList 0 fun j d hj => by
    have h1 : P.types[j]? = some d := by simpa using hj
    have h2 : j < P.types.size := (Array.getElem?_eq_some_iff.1 h1).1
    rw [Nat.zero_add]
    unfold Tables.info?
    rw [if_pos h2]
    exact h1⟩
theorem tabF_get : ∀ (l : List Func) (i : Nat), (∀ j d, l[j]? = some d → P.funcs[i + j]? = some d) → ∀ f fn, (tabF l i).get f = some fn → P.funcs[f]? = some fn ∧ plainFn P f = true
  | [], i, hl, t, ti, e => by cases e
  | d :: l, i, hl, f, fn, e => by
    have ih := tabF_get l (i + 1) fun j d' hj => by
      have := hl (j + 1) d' (by simpa using hj)
      rw [show i + 1 + j = i + (j + 1) from by omega]
      exact this
    replace e : (bif d.body.isSome && !(d.name == "runtime.NumGoroutine") then (tabF l (i + 1)).set i d else tabF l (i + 1)).get f = some fn := e
    cases hb : (d.body.isSome && !(d.name == "runtime.NumGoroutine")) with
    | true =>
      rw [hb] at e
      dsimp only [cond_true] at e
      rw [Tr.get_set] at e
      split at e
      · rename_i ht
        cases e
        subst ht
        have h0 := hl 0 d rfl
        refine ⟨h0, ?_⟩
        unfold plainFn
        rw [show f + 0 = f from rfl] at h0
        rw [h0]
        exact hb
      · exact ih f fn e
    | false =>
      rw [hb] at e
      exact ih f fn e
theorem tabF_ok : FunOk P (tabF P.funcs.toList 0) :=
  ⟨tabF_get P.funcs.toList 0 fun j d hj => by
    rw [Nat.zero_add]
    simpa using hj⟩
end
end Go.Am
end
