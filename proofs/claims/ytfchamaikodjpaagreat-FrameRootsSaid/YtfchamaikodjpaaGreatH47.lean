/- A part of the proof that the frame keeps its roots: lemmas on which it leans. -/
import Derived.Test.YtfchamaikodjpaaGreatProg
import Derived.KernelRfl
import Derived.Conc.WgLib
import Derived.Test.YtfchamaikodjpaaGreatH15
import Derived.Test.YtfchamaikodjpaaGreatH46
section
set_option linter.unusedVariables false
set_option linter.unusedSectionVars false
set_option linter.unusedSimpArgs false
namespace Go.Am
def effects (ops : Array Oper) : List Nat := (List.range ops.size).filter fun i => kindAt ops i == .effect
def lastEff (ops : Array Oper) (t : List Nat) (i : Nat) : Option Nat := ((effects ops).filter fun e => Nat.testBit (maskAt t ops.size i) e).getLast?
def asap (ops : Array Oper) (t : List Nat) : List Nat :=
  let ls := (List.range ops.size).filter fun i => kindAt ops i != .effect
  (ls.filter fun i => lastEff ops t i == none) ++ (effects ops).flatMap fun e => e :: (ls.filter fun i => lastEff ops t i == some e)
def again (ops : Array Oper) (t : List Nat) (i : Nat) (rest : List Nat) : List Nat :=
  if kindAt ops i == .light then [] else
    let es := (effects ops).filter fun e => !rest.contains e
    (List.range ops.size).filter fun j => !rest.contains j && kindAt ops j != .effect && !es.any fun e => Nat.testBit (maskAt t ops.size e) j
def withAgain (ops : Array Oper) (t : List Nat) : List Nat → List (Nat × List Nat)
  | [] => []
  | i :: l => (i, again ops t i l) :: withAgain ops t l
def plan : Plan := fun _ ops => withAgain ops (depMask ops ops.size) (asap ops (depMask ops ops.size))
end Go.Am
end
section
set_option linter.unusedVariables false
set_option linter.unusedSectionVars false
set_option linter.unusedSimpArgs false
namespace Go.Am
open Go.Proofs
noncomputable def Tryz.tT : Tr TI := tabT Tryz.prog Tryz.prog.types.toList 0
noncomputable def Tryz.tF : Tr Func := tabF Tryz.prog.funcs.toList 0
noncomputable def at_ (f : Nat) (p : List Nat) : Code := codeAt (bodyIn Tryz.tF f) p
noncomputable def opsAt (f : Nat) (p : List Nat) : Array Oper := opsIn Tryz.tF f p
abbrev Tryz.link : Go.Conc.Lib.WgLink := { add := 92, done := 94, wait := 98, relMerge := 114, disable := 115, enable := 116, inBubble := 117, associate := 118, fatal := 119, uOr := 120, uAdd := 121, raceRead := 122, uLoad := 123, uStore := 124, disassociate := 125, semrelease := 126, acquire := 131, isAssociated := 132, uCas := 133, raceWrite := 134, semacquire := 135, orU64 := 146, addU64 := 147, loadU64 := 148, storeU64 := 149, casU64 := 154, tWgP := 188, tUP := 190, tAssoc := 191, tWg := 174, tAU := 172, tU64 := 170, tUint := 126, tU32 := 22, tPU32 := 195, tPAU := 224, tPU64 := 226, tNoCopy := 163, tANoCopy := 168, tAlign64 := 169 }
abbrev Tryz.mx : Go.Mx.MxLink := { mu := { lock := 96, unlock := 97, ilock := 129, iunlock := 130, lockSlow := 151, unlockSlow := 153, disable := 115, enable := 116, acquire := 131, relMerge := 114, cas32 := 150, add32 := 152, tMutex := 167, tIMutex := 165, tPMutex := 202, tPIMutex := 229, tPI32 := 231, tUP := 190, tNoCopy := 163, tU32 := 22 }, canSpin := 169, doSpin := 170, throw := 171, nano := 172, semacq := 173, fatal := 174, semrel := 175, tPU32 := 195, tUint := 126 }
end Go.Am
end
section
set_option linter.unusedVariables false
set_option linter.unusedSectionVars false
set_option linter.unusedSimpArgs false
namespace Go.Am
theorem forIn_inv {α β : Type} {I : β → Prop} {f : α → β → Option (ForInStep β)} (hf : ∀ a b r, I b → f a b = some r → I r.value) : ∀ (l : List α) {b c : β}, I b → forIn l b f = some c → I c
  | [], b, c, hb, h => by
    rw [List.forIn_nil] at h
    cases h
    exact hb
  | a :: l, b, c, hb, h => by
    rw [List.forIn_cons] at h
    simp only [bind, Option.bind_eq_some_iff] at h
    obtain ⟨r, hr, h⟩ := h
    have hi := hf a b r hb hr
    cases r with
    | done x => cases h; exact hi
    | yield x => exact forIn_inv hf l hi h
theorem cells_plain {z : Value} (h : Plain z) : ∀ x ∈ z.cells, Plain x := by
  intro x hx
  obtain ⟨h1, h2⟩ := vr_cells h
  obtain ⟨i, hi⟩ := Array.getElem?_of_mem hx
  exact h2 i x x hi hi
theorem step_zero {b : Option (Array Value)} {i : TypeInfo} {n : Nat} (hp : ∀ z, i.zero = some z → Plain z) (hb : ∀ a, b = some a → ∀ x ∈ a, Plain x) : ∀ a, (if n > Made.mostCells then none else b.bind fun u => i.zero.bind fun z => some (u ++ z.cells)) = some a → ∀ x ∈ a, Plain x := by
  intro a h x hx
  split at h
  · cases h
  · simp only [Option.bind_eq_some_iff] at h
    obtain ⟨u, h1, z, h2, h3⟩ := h
    cases h3
    rcases Array.mem_append.1 hx with k | k
    · exact hb u h1 x k
    · exact cells_plain (hp z h2) x k
theorem struct_plain {info : TypeId → Option TypeInfo} {fs : Array Field} {i : TypeInfo} {z : Value} (hp : ∀ t i z, info t = some i → i.zero = some z → Plain z) (h : Made.reckonStruct info fs = some i) (hz : i.zero = some z) : Plain z := by
  unfold Made.reckonStruct at h
  simp only [bind, Option.bind_eq_some_iff, pure] at h
  obtain ⟨a, hl, h⟩ := h
  have key : ∀ u, a.2.2.2.2.2.2.2.1 = some u → ∀ x ∈ u, Plain x := by
    rw [← Array.forIn_toList] at hl
    refine forIn_inv (I := fun s => ∀ u, s.2.2.2.2.2.2.2.1 = some u → ∀ x ∈ u, Plain x) (fun f b r hb hr => ?_) _ (fun u hu x hx => ?_) hl
    · simp only [Option.bind_eq_some_iff] at hr
      obtain ⟨j, hj, hr⟩ := hr
      have hs := fun n => step_zero (n := n) (i := j) (fun z hz => hp _ _ _ hj hz) hb
      repeat' first
        | (cases hr; exact hs _)
        | (cases hr; done)
        | (simp only [Option.bind_eq_some_iff] at hr; obtain ⟨_, _, hr⟩ := hr)
        | split at hr
        | (exact absurd hr (by simp))
    · cases hu
      simp at hx
  have fin : ∀ {z : Value}, a.2.2.2.2.2.2.2.1.map .agg = some z → Plain z := fun {z} hz => by
    rw [Option.map_eq_some_iff] at hz
    obtain ⟨u, h1, rfl⟩ := hz
    exact plain_agg (key u h1)
  split at h <;> (cases h; exact fin hz)
theorem reckon_plain {info : TypeId → Option TypeInfo} {d : TypeDesc} {i : TypeInfo} {z : Value} (hp : ∀ t i z, info t = some i → i.zero = some z → Plain z) (h : Made.reckon info d = some i) (hz : i.zero = some z) : Plain z := by
  unfold Made.reckon at h
  split at h
  case h_7 => exact struct_plain hp h hz
  case h_6 =>
    simp only [bind, Option.bind_eq_some_iff, pure] at h
    obtain ⟨j, hj, s, hs, h⟩ := h
    cases h
    dsimp only at hz
    split at hz
    · cases hz
    · split at hz
      · cases hz
        exact plain_agg fun x hx => by simp at hx
      · rw [Option.map_eq_some_iff] at hz
        obtain ⟨u, h1, rfl⟩ := hz
        refine plain_agg fun x hx => ?_
        rw [Array.mem_flatten] at hx
        obtain ⟨xs, h2, h3⟩ := hx
        rw [Array.mem_replicate] at h2
        rw [h2.2] at h3
        exact cells_plain (hp _ _ _ hj h1) x h3
  all_goals try simp only [bind, Option.bind_eq_some_iff, pure] at h
  all_goals repeat' first
    | (obtain ⟨_, _, h⟩ := h)
    | (split at h)
  all_goals first
    | (cases hz; first | exact .nilptr | exact .nilslice _ _ | exact .nilmap | exact .nilchan | exact .nilFunc)
    | (cases h; cases hz; first | exact .nilptr | exact .nilslice _ _ | exact .nilmap | exact .nilchan | exact .nilFunc)
    | (cases h; done)
    | (exfalso; simp at h; done)
    | (simp only [Option.bind_eq_some_iff] at h; obtain ⟨_, _, h⟩ := h; cases h; cases hz; first | exact .nilptr | exact .nilslice _ _ | exact .nilmap | exact .nilchan | exact .nilFunc)
def nilChan : Value → Bool
  | .chan none => true
  | _ => false
def zeroOk (v : Value) : Bool := plainV 12 v || nilChan v
def zerosB (T : Tables) : Bool := T.types.toList.all fun i => match i.zero with
  | some z => zeroOk z
  | none => true
theorem zeros_at {T : Tables} (h : zerosB T = true) : ∀ (n : Nat) (t : TypeId) (i : TypeInfo) (z : Value), Made.infoAt T n t = some i → i.zero = some z → Plain z
  | 0, t, i, z, e, _ => by cases e
  | n + 1, t, i, z, e, hz => by
    unfold Made.infoAt at e
    split at e
    · unfold zerosB at h
      rw [List.all_eq_true] at h
      have := h i (get_mem e)
      rw [hz] at this
      have this : zeroOk z = true := this
      unfold zeroOk at this
      rw [Bool.or_eq_true] at this
      rcases this with k | k
      · exact plain_of k
      · unfold nilChan at k
        split at k
        · exact .nilchan
        · cases k
    · simp only [Option.bind_eq_some_iff] at e
      obtain ⟨d, _, e⟩ := e
      exact reckon_plain (fun t i z h1 h2 => zeros_at h n t i z h1 h2) e hz
theorem zeros_of {P : Program} (h : zerosB P.toTables = true) : Zeros P := ⟨fun t i z hi hz ρ => by
  have hi' : P.toTables.info? t = some i := hi
  unfold Tables.info? at hi'
  split at hi'
  · rename_i ht
    exact (zeros_at h 1 t i z (by unfold Made.infoAt; rw [if_pos ht]; exact hi') hz).vr ρ
  · exact (zeros_at h _ t i z hi' hz).vr ρ⟩
end Go.Am
end
section
set_option linter.unusedVariables false
set_option linter.unusedSectionVars false
set_option linter.unusedSimpArgs false
namespace Go.Am
open Go.Proofs
theorem Tryz.wgLib : Go.Conc.Lib.WgLib Tryz.prog Tryz.link := by
  constructor <;> first | kernel_rfl | (intro w; kernel_rfl) | skip
theorem Tryz.mxLib : Go.Mx.MxLib Tryz.prog Tryz.mx := by
  constructor <;> first | kernel_rfl | (intro w; kernel_rfl) | (constructor <;> first | kernel_rfl | (intro w; kernel_rfl) | skip) | skip
theorem Tryz.waits : Waits Tryz.prog Tryz.link := ⟨Tryz.wgLib, by kernel_rfl, by kernel_rfl, by kernel_rfl⟩
theorem Tryz.tOk : TabOk Tryz.prog Tryz.tT := tabT_ok
theorem Tryz.fOk : FunOk Tryz.prog Tryz.tF := tabF_ok
instance Tryz.zeros : Zeros Tryz.prog := zeros_of (by kernel_rfl)
end Go.Am
end
section
set_option linter.unusedVariables false
set_option linter.unusedSectionVars false
set_option linter.unusedSimpArgs false
namespace Go.Am
open Go.Proofs
abbrev I (n : Int) : Value := .int .i64 n
abbrev Wr (n : Int) : Int := IntKind.i64.wrap n
def fpt : Value := .func (.func 31) #[] #[.pointer (some ⟨0, 0, none⟩)]
noncomputable def hpN (n : Int) : AH := ⟨1, trL [(0, ⟨.cells ⟨[I n]⟩ 3 (0, 0), none, false, 0⟩)], fmL []⟩
noncomputable def frRoot (n : Int) : AFr := ⟨8, #[I n, .pointer (some ⟨0, 0, none⟩), I 0, I n, I (n + 1), fpt, undef, undef], [.region (opsAt 8 [1, 0]) [3, 4, 5], .code .ret], [], false, none, false⟩
noncomputable def SL (n i j : Int) (x7 x9 x10 x11 x12 x13 x14 x15 x16 x17 x18 x19 x20 x21 x22 x23 x24 : Value) : AS :=
  ⟨⟨30, #[I (n + 1), fpt, undef, undef, I 0, I i, I j, x7, I (n + 1), x9, x10, x11, x12, x13, x14, x15, x16, x17, x18, x19, x20, x21, x22, x23, x24, undef], [.code (at_ 30 [1, 1, 0, 0, 0]), .inLoop (at_ 30 [1, 1, 0, 0, 0]), .inBlock 0, .code (at_ 30 [1, 1, 1])], [], false, none, false⟩, [frRoot n], hpN n⟩
theorem root_in (n : Int) : runG Tryz.prog plan [(9, 4, I (n + 1))] 15 ⟨AFr.enter Tryz.prog 8 #[I n], [], h0⟩ = some ([(I (Wr (n + 1)), I (n + 1))], SL n 0 (n + 1) undef undef undef undef undef undef undef undef undef undef undef undef undef undef undef undef undef) := by kernel_rfl
section
variable (n i j h : Int) (x7 x9 x10 x11 x12 x13 x14 x15 x16 x17 x18 x19 x20 x21 x22 x23 x24 : Value)
theorem root_lo : runG Tryz.prog plan [(6, 11, .bool true), (9, 14, I (i + j)), (1, 15, .int .u64 (i + j)), (1, 16, .int .u64 h), (1, 17, I h), (16, 6, I (h * h)), (2, 8, .bool false), (10, 23, I (h + 1))] 4 (SL n i j x7 x9 x10 x11 x12 x13 x14 x15 x16 x17 x18 x19 x20 x21 x22 x23 x24) =
    some ([(.bool (decide (i < j)), .bool true), (I (Wr (i + j)), I (i + j)), (.int .u64 (IntKind.u64.wrap (i + j)), .int .u64 (i + j)), (.int .u64 ((i + j).fdiv 2), .int .u64 h), (I (Wr h), I h), (I (Wr (h * h)), I (h * h)), (.bool (decide (h * h > n)), .bool false), (I (Wr (h + 1)), I (h + 1))],
      SL n (h + 1) j (I h) (I i) (I j) (.bool true) (I i) (I j) (I (i + j)) (.int .u64 (i + j)) (.int .u64 h) (I h) fpt (I h) (.bool false) (.bool true) (I h) (I (h + 1)) x24) := by kernel_rfl
theorem root_hi : runG Tryz.prog plan [(6, 11, .bool true), (9, 14, I (i + j)), (1, 15, .int .u64 (i + j)), (1, 16, .int .u64 h), (1, 17, I h), (16, 6, I (h * h)), (2, 8, .bool true)] 13 (SL n i j x7 x9 x10 x11 x12 x13 x14 x15 x16 x17 x18 x19 x20 x21 x22 x23 x24) =
    some ([(.bool (decide (i < j)), .bool true), (I (Wr (i + j)), I (i + j)), (.int .u64 (IntKind.u64.wrap (i + j)), .int .u64 (i + j)), (.int .u64 ((i + j).fdiv 2), .int .u64 h), (I (Wr h), I h), (I (Wr (h * h)), I (h * h)), (.bool (decide (h * h > n)), .bool true)],
      SL n i h (I h) (I i) (I j) (.bool true) (I i) (I j) (I (i + j)) (.int .u64 (i + j)) (.int .u64 h) (I h) fpt (I h) (.bool true) (.bool false) x22 x23 (I h)) := by kernel_rfl
theorem root_out : runR Tryz.prog plan [(6, 11, .bool false), (11, 7, I (i - 1))] 5 (SL n i j x7 x9 x10 x11 x12 x13 x14 x15 x16 x17 x18 x19 x20 x21 x22 x23 x24) =
    some ([(.bool (decide (i < j)), .bool false), (I (Wr (i - 1)), I (i - 1))], I (i - 1), hpN n) := by kernel_rfl
end
end Go.Am
end
section
set_option linter.unusedVariables false
set_option linter.unusedSectionVars false
set_option linter.unusedSimpArgs false
namespace Go.Am
open Go.Proofs
theorem wr_id {x : Int} (h1 : -9223372036854775808 ≤ x) (h2 : x ≤ 9223372036854775807) : Wr x = x := by
  simp [Wr, IntKind.wrap, IntKind.min, IntKind.max, IntKind.signed, IntKind.bits] <;> (try split) <;> omega
theorem wu_id {x : Int} (h1 : 0 ≤ x) (h2 : x ≤ 18446744073709551615) : IntKind.u64.wrap x = x := by
  simp [IntKind.wrap, IntKind.min, IntKind.max, IntKind.signed, IntKind.bits] <;> (try split) <;> omega
theorem bt {p : Prop} [Decidable p] (h : p) : Value.bool (decide p) = .bool true := by rw [decide_eq_true h]
theorem bf {p : Prop} [Decidable p] (h : ¬ p) : Value.bool (decide p) = .bool false := by rw [decide_eq_false h]
theorem ie {a b : Int} (h : a = b) : I a = I b := by rw [h]
theorem nil_ob : ∀ p ∈ ([] : List (Value × Value)), p.1 = p.2 := fun p hp => absurd hp (List.not_mem_nil)
theorem sq_lt {a b : Int} (h0 : 0 ≤ a) (h : a < b) : a * a < b * b := by
  have h1 : a * a ≤ a * b := Int.mul_le_mul_of_nonneg_left (by omega) h0
  have h2 : a * b < b * b := Int.mul_lt_mul_of_pos_right h (by omega)
  omega
theorem sq_bound {a : Int} (h0 : 0 ≤ a) (h : a ≤ 1000000) : a * a ≤ 1000000000000 := by
  have : a * a ≤ 1000000 * 1000000 := Int.mul_le_mul h h h0 (by omega)
  omega
def IsRoot (n r : Int) : Prop := 0 ≤ r ∧ r ≤ 1000 ∧ r * r ≤ n ∧ n < (r + 1) * (r + 1)
theorem root_loop (n : Int) (h0 : 0 ≤ n) (h1 : n ≤ 999999) : ∀ (k : Nat) (i j : Int) (x7 x9 x10 x11 x12 x13 x14 x15 x16 x17 x18 x19 x20 x21 x22 x23 x24 : Value), (j - i).toNat ≤ k → 0 ≤ i → i ≤ j → j ≤ n + 1 → (i = 0 ∨ (i - 1) * (i - 1) ≤ n) → n < j * j →
    AAll Tryz.prog plan (fun v _ => ∃ r, IsRoot n r ∧ v = I r) (SL n i j x7 x9 x10 x11 x12 x13 x14 x15 x16 x17 x18 x19 x20 x21 x22 x23 x24) := by
  intro k
  induction k with
  | zero =>
    intro i j x7 x9 x10 x11 x12 x13 x14 x15 x16 x17 x18 x19 x20 x21 x22 x23 x24 hk hi hij hj hl hu
    have e : i = j := by omega
    subst e
    have hpos : 1 ≤ i := by
      rcases Int.lt_or_le 0 i with hp | hp
      · omega
      · have : i = 0 := by omega
        subst this
        simp at hu
        omega
    refine runR_all (root_out n i i x7 x9 x10 x11 x12 x13 x14 x15 x16 x17 x18 x19 x20 x21 x22 x23 x24) ?_ ⟨i - 1, ⟨by omega, ?_, ?_, ?_⟩, rfl⟩
    · simp only [List.forall_mem_cons]
      exact ⟨bf (by omega), ie (wr_id (by omega) (by omega)), nil_ob⟩
    · rcases hl with hl | hl
      · omega
      · rcases Int.lt_or_le 1000 (i - 1) with hp | hp
        · have := sq_lt (a := 1000) (b := i - 1) (by omega) hp
          omega
        · exact hp
    · rcases hl with hl | hl
      · omega
      · exact hl
    · have : i - 1 + 1 = i := by omega
      rw [this]; exact hu
  | succ k ih =>
    intro i j x7 x9 x10 x11 x12 x13 x14 x15 x16 x17 x18 x19 x20 x21 x22 x23 x24 hk hi hij hj hl hu
    rcases Int.lt_or_le i j with hlt | hge
    · have hd : (i + j).fdiv 2 = (i + j) / 2 := Int.fdiv_eq_ediv_of_nonneg _ (by omega)
      obtain ⟨h, hh⟩ : ∃ h, h = (i + j) / 2 := ⟨_, rfl⟩
      have hb1 : i ≤ h := by omega
      have hb2 : h < j := by omega
      have hsq := sq_bound (a := h) (by omega) (by omega)
      have hsq0 : 0 ≤ h * h := Int.mul_nonneg (by omega) (by omega)
      have e1 : (Value.int .u64 ((i + j).fdiv 2)) = .int .u64 h := by rw [hd, hh]
      have e2 : (Value.int .u64 (IntKind.u64.wrap (i + j))) = .int .u64 (i + j) := by rw [wu_id (by omega) (by omega)]
      rcases Int.lt_or_le n (h * h) with hc | hc
      · refine (runG_reach (root_hi n i j h x7 x9 x10 x11 x12 x13 x14 x15 x16 x17 x18 x19 x20 x21 x22 x23 x24) ?_ (.here (ih _ _ _ _ _ _ _ _ _ _ _ _ _ _ _ _ _ _ _ (by omega) hi hb1 (by omega) hl hc))).all
        simp only [List.forall_mem_cons]
        exact ⟨bt hlt, ie (wr_id (by omega) (by omega)), e2, e1, ie (wr_id (by omega) (by omega)), ie (wr_id (by omega) (by omega)), bt hc, nil_ob⟩
      · refine (runG_reach (root_lo n i j h x7 x9 x10 x11 x12 x13 x14 x15 x16 x17 x18 x19 x20 x21 x22 x23 x24) ?_ (.here (ih _ _ _ _ _ _ _ _ _ _ _ _ _ _ _ _ _ _ _ (by omega) (by omega) (by omega) hj (.inr ?_) hu))).all
        · simp only [List.forall_mem_cons]
          exact ⟨bt hlt, ie (wr_id (by omega) (by omega)), e2, e1, ie (wr_id (by omega) (by omega)), ie (wr_id (by omega) (by omega)), bf (by omega), ie (wr_id (by omega) (by omega)), nil_ob⟩
        · have : h + 1 - 1 = h := by omega
          rw [this]; exact hc
    · exact ih i j _ _ _ _ _ _ _ _ _ _ _ _ _ _ _ _ _ (by omega) hi hij hj hl hu
theorem root_all (n : Int) (hn0 : 0 ≤ n) (hn1 : n ≤ 999999) : AAll Tryz.prog plan (fun v _ => ∃ r, IsRoot n r ∧ v = I r) ⟨AFr.enter Tryz.prog 8 #[I n], [], h0⟩ := by
  have hsq : (n + 1) * 1 ≤ (n + 1) * (n + 1) := Int.mul_le_mul_of_nonneg_left (by omega) (by omega)
  refine (runG_reach (root_in n) ?_ (.here (root_loop n hn0 hn1 (n + 1).toNat 0 (n + 1) _ _ _ _ _ _ _ _ _ _ _ _ _ _ _ _ _ (by omega) (by omega) (by omega) (by omega) (.inl rfl) (by omega)))).all
  simp only [List.forall_mem_cons]
  exact ⟨ie (wr_id (by omega) (by omega)), nil_ob⟩
theorem Root_ge (n : Int) : runG Tryz.prog plan [(18, 6, .bool false), (4, 10, .bool false)] 12 ⟨AFr.enter Tryz.prog 4 #[I n], [], h0⟩ = some ([(.bool (decide (n < 0)), .bool false), (.bool (decide (n > 999999)), .bool false)], ⟨AFr.enter Tryz.prog 8 #[I n], [⟨4, #[I n, undef, I 0, I 0, I n, .bool false, I n, undef], [.region (opsAt 4 [1, 1, 0]) [1, 2, 3], .code .ret], [], false, none, false⟩], h0⟩) := by kernel_rfl
theorem Root_lt (n : Int) : runR Tryz.prog plan [(18, 6, .bool true)] 18 ⟨AFr.enter Tryz.prog 4 #[I n], [], h0⟩ = some ([(.bool (decide (n < 0)), .bool true)], .tuple #[I 0, I 1], h0) := by kernel_rfl
end Go.Am
end
section
set_option linter.unusedVariables false
set_option linter.unusedSectionVars false
set_option linter.unusedSimpArgs false
namespace Go.Am
open Go.Proofs
instance : Inhabited AFr := ⟨⟨0, #[], [], [], false, none, false⟩⟩
theorem Root_back (n r : Int) (h : AH) : ∃ c', afinish Tryz.prog ⟨4, #[I n, undef, I 0, I 0, I n, .bool false, I n, undef], [.region (opsAt 4 [1, 1, 0]) [1, 2, 3], .code .ret], [], false, none, false⟩ h (I r) = some c' ∧ runR Tryz.prog plan [] 5 ⟨c', [], h⟩ = some ([], .tuple #[I r, I 0], h) :=
  ⟨⟨4, #[I n, undef, I 0, I 0, I n, .bool false, I n, I r], [.region (opsAt 4 [1, 1, 0]) [2, 3], .code .ret], [], false, none, false⟩, by kernel_rfl, by kernel_rfl⟩
theorem Root_all (n : Int) (hn0 : 0 ≤ n) (hn1 : n ≤ 999999) : AAll Tryz.prog plan (fun v _ => ∃ r, IsRoot n r ∧ v = .tuple #[I r, I 0]) ⟨AFr.enter Tryz.prog 4 #[I n], [], h0⟩ := by
  refine (runG_reach (Root_ge n) ?_ (.here ?_)).all
  · simp only [List.forall_mem_cons]
    exact ⟨bf (by omega), bf (by omega), nil_ob⟩
  · refine AAll.underAll (cs := []) (root_all n hn0 hn1) ?_
    rintro v h ⟨r, hr, rfl⟩
    obtain ⟨c', h1, h2⟩ := Root_back n r h
    exact ⟨c', h1, runR_all h2 nil_ob ⟨r, hr, rfl⟩⟩
theorem Root_neg (n : Int) (hn : n < 0) : AAll Tryz.prog plan (fun v _ => v = .tuple #[I 0, I 1]) ⟨AFr.enter Tryz.prog 4 #[I n], [], h0⟩ := by
  refine runR_all (Root_lt n) ?_ rfl
  simp only [List.forall_mem_cons]
  exact ⟨bt hn, nil_ob⟩
section
variable (a b n m r q : Int)
noncomputable def S0 : AS := ⟨AFr.enter Tryz.prog 3 #[.int .u32 a, .int .u32 b], [], h0⟩
noncomputable def c1 : AFr := match runG Tryz.prog plan [(9, 15, I n), (3, 18, I m)] 7 (S0 a b) with
  | some (_, s) => s.cs.headD default
  | none => default
theorem e1 : runG Tryz.prog plan [(9, 15, I n), (3, 18, I m)] 7 (S0 a b) = some ([(I ((Wr a).tmod 1000000), I n), (I ((Wr b).tmod 1000000), I m)], ⟨AFr.enter Tryz.prog 4 #[I n], [c1 a b n m], h0⟩) := by kernel_rfl
noncomputable def S2 : AS := ⟨(afinish Tryz.prog (c1 a b n m) h0 (.tuple #[I r, I 0])).getD default, [], h0⟩
theorem f1 : afinish Tryz.prog (c1 a b n m) h0 (.tuple #[I r, I 0]) = some (S2 a b n m r).fr := by kernel_rfl
noncomputable def c2 : AFr := match runG Tryz.prog plan [] 10 (S2 a b n m r) with
  | some (_, s) => s.cs.headD default
  | none => default
theorem e2 : runG Tryz.prog plan [] 10 (S2 a b n m r) = some ([], ⟨AFr.enter Tryz.prog 4 #[I m], [c2 a b n m r], h0⟩) := by kernel_rfl
noncomputable def S3 : AS := ⟨(afinish Tryz.prog (c2 a b n m r) h0 (.tuple #[I q, I 0])).getD default, [], h0⟩
theorem f2 : afinish Tryz.prog (c2 a b n m r) h0 (.tuple #[I q, I 0]) = some (S3 a b n m r q).fr := by kernel_rfl
noncomputable def c3 : AFr := match runG Tryz.prog plan [(10, 31, I (-1 - n))] 1 (S3 a b n m r q) with
  | some (_, s) => s.cs.headD default
  | none => default
theorem e3 : runG Tryz.prog plan [(10, 31, I (-1 - n))] 1 (S3 a b n m r q) = some ([(I (Wr (-1 - n)), I (-1 - n))], ⟨AFr.enter Tryz.prog 4 #[I (-1 - n)], [c3 a b n m r q], h0⟩) := by kernel_rfl
noncomputable def S4 : AS := ⟨(afinish Tryz.prog (c3 a b n m r q) h0 (.tuple #[I 0, I 1])).getD default, [], h0⟩
theorem f3 : afinish Tryz.prog (c3 a b n m r q) h0 (.tuple #[I 0, I 1]) = some (S4 a b n m r q).fr := by kernel_rfl
abbrev ins : List (Nat × Nat × Value) := [(34, 9, .bool true), (4, 13, .bool true), (10, 56, I (r * r)), (2, 58, .bool true), (4, 62, I (r + 1)), (2, 64, I (r + 1)), (1, 65, I ((r + 1) * (r + 1))), (2, 67, .bool true)]
abbrev obs : List (Value × Value) := [(.bool (decide (0 ≤ r)), .bool true), (.bool (decide (r ≤ 1000)), .bool true), (I (Wr (r * r)), I (r * r)), (.bool (decide (r * r ≤ n)), .bool true), (I (Wr (r + 1)), I (r + 1)), (I (Wr (r + 1)), I (r + 1)), (I (Wr ((r + 1) * (r + 1))), I ((r + 1) * (r + 1))), (.bool (decide ((r + 1) * (r + 1) > n)), .bool true)]
noncomputable def S5t : AS := match runG Tryz.prog plan (ins r ++ [(5, 72, .bool true)]) 7 (S4 a b n m r q) with
  | some (_, s) => s
  | none => S0 a b
theorem e5t : runG Tryz.prog plan (ins r ++ [(5, 72, .bool true)]) 7 (S4 a b n m r q) = some (obs n r ++ [(.bool (decide (n > m)), .bool true)], S5t a b n m r q) := by kernel_rfl
noncomputable def S5f : AS := match runG Tryz.prog plan (ins r ++ [(5, 72, .bool false), (4, 76, .bool true)]) 3 (S4 a b n m r q) with
  | some (_, s) => s
  | none => S0 a b
theorem e5f : runG Tryz.prog plan (ins r ++ [(5, 72, .bool false), (4, 76, .bool true)]) 3 (S4 a b n m r q) = some (obs n r ++ [(.bool (decide (n > m)), .bool false), (.bool (decide (r ≤ q)), .bool true)], S5f a b n m r q) := by kernel_rfl
noncomputable def S6t : AS := (xCallV Tryz.prog 6 (.bool true) (S5t a b n m r q)).getD (S0 a b)
theorem k6t : xCallV Tryz.prog 6 (.bool true) (S5t a b n m r q) = some (S6t a b n m r q) := by kernel_rfl
noncomputable def S6f : AS := (xCallV Tryz.prog 6 (.bool true) (S5f a b n m r q)).getD (S0 a b)
theorem k6f : xCallV Tryz.prog 6 (.bool true) (S5f a b n m r q) = some (S6f a b n m r q) := by kernel_rfl
noncomputable def S7t : AS := match runG Tryz.prog plan [] 4 (S6t a b n m r q) with
  | some (_, s) => s
  | none => S0 a b
theorem e7t : runG Tryz.prog plan [] 4 (S6t a b n m r q) = some ([], S7t a b n m r q) := by kernel_rfl
noncomputable def S7f : AS := match runG Tryz.prog plan [] 4 (S6f a b n m r q) with
  | some (_, s) => s
  | none => S0 a b
theorem e7f : runG Tryz.prog plan [] 4 (S6f a b n m r q) = some ([], S7f a b n m r q) := by kernel_rfl
theorem t7t : (S7t a b n m r q).fr.ret = true ∧ (S7t a b n m r q).cs = [] ∧ notDrawn (S7t a b n m r q).fr = true ∧ (S7t a b n m r q).fr.defers = [] ∧ (S7t a b n m r q).fr.dk = false ∧ (S7t a b n m r q).fr.fn = 3 ∧ (results Tryz.f3 (S7t a b n m r q).fr.tmps).ar Tryz.prog none (S7t a b n m r q).h = some (.bool true, (S7t a b n m r q).h) :=
  ⟨by kernel_rfl, by kernel_rfl, by kernel_rfl, by kernel_rfl, by kernel_rfl, by kernel_rfl, by kernel_rfl⟩
theorem t7f : (S7f a b n m r q).fr.ret = true ∧ (S7f a b n m r q).cs = [] ∧ notDrawn (S7f a b n m r q).fr = true ∧ (S7f a b n m r q).fr.defers = [] ∧ (S7f a b n m r q).fr.dk = false ∧ (S7f a b n m r q).fr.fn = 3 ∧ (results Tryz.f3 (S7f a b n m r q).fr.tmps).ar Tryz.prog none (S7f a b n m r q).h = some (.bool true, (S7f a b n m r q).h) :=
  ⟨by kernel_rfl, by kernel_rfl, by kernel_rfl, by kernel_rfl, by kernel_rfl, by kernel_rfl, by kernel_rfl⟩
end
end Go.Am
end
section
set_option linter.unusedVariables false
set_option linter.unusedSectionVars false
set_option linter.unusedSimpArgs false
namespace Go.Am
open Go.Proofs
open Go.Conc (G Good)
open Go.Ren (At Leads Keep)
def Checks (P : Program) (L : Go.Conc.Lib.WgLink) (fid : FuncId) (FinP : Machine → Outcome → World → Trace → Prop) : Prop :=
  ∀ {b : Frame} {bs : List Frame} {F : Nat → Prop} {w₀ : World} {m : Machine} {t : Trace}, Stand P L (b :: bs) F w₀ .idle ⟨AFr.enter P fid #[], [], h0⟩ m t → Leads P FinP (Back P b bs F w₀ (.bool true)) m t
theorem S2eq {a b n m r : Int} : (⟨(S2 a b n m r).fr, [], h0⟩ : AS) = S2 a b n m r := by kernel_rfl
theorem S3eq {a b n m r q : Int} : (⟨(S3 a b n m r q).fr, [], h0⟩ : AS) = S3 a b n m r q := by kernel_rfl
theorem S4eq {a b n m r q : Int} : (⟨(S4 a b n m r q).fr, [], h0⟩ : AS) = S4 a b n m r q := by kernel_rfl
theorem pi (n : Int) : ∀ x ∈ #[I n], Plain x := fun x hx => by
  rw [Array.mem_singleton] at hx
  subst hx
  exact .int _ _
theorem root_mono {n m r q : Int} (hr : IsRoot n r) (hq : IsRoot m q) (h : n ≤ m) : r ≤ q := by
  obtain ⟨a1, a2, a3, a4⟩ := hr
  obtain ⟨b1, b2, b3, b4⟩ := hq
  rcases Int.lt_or_le q r with hlt | hle
  · have h1 : q + 1 ≤ r := by omega
    have h2 : (q + 1) * (q + 1) ≤ r * r := Int.mul_le_mul h1 h1 (by omega) (by omega)
    omega
  · exact hle
theorem tup_plain (a b : Int) : Plain (.tuple #[I a, I b]) := vr_tuple2 (.int _ _) (.int _ _)
section
variable {W U Z : Nat → Prop} {N : Nat} {ρ : Env} {F : Nat → Prop} {w₀ w : World} {g : Goroutine} {s : AS} {m : Machine} {t : Trace} {Post : Value → World → Prop} {K : Machine → Trace → Prop}
theorem fr_end {s₆ s₇ : AS} (h6 : runG Tryz.prog plan [] 4 s₆ = some ([], s₇)) (h7 : s₇.fr.ret = true ∧ s₇.cs = [] ∧ notDrawn s₇.fr = true ∧ s₇.fr.defers = [] ∧ s₇.fr.dk = false ∧ s₇.fr.fn = 3 ∧ (results Tryz.f3 s₇.fr.tmps).ar Tryz.prog none s₇.h = some (.bool true, s₇.h))
    (orc : Checks Tryz.prog Tryz.link 6 (Good Tryz.prog Post)) (hv : xCallV Tryz.prog 6 (.bool true) s = some s₆) (hP : ∀ w', Keep F w₀ w' → Post (.bool true) w') (S : Sd Tryz.prog [] F w₀ W U Z N ρ s g w m t) : Leads Tryz.prog (Good Tryz.prog Post) K m t := by
  obtain ⟨k1, k2, k3, k4, k5, k6, k7⟩ := h7
  refine (Sd.callO (L := Tryz.link) (by kernel_rfl) (.bool _) orc S (xCallV_some hv)).bind ?_
  rintro m t ⟨W', U', Z', N', σ, g', w', _, S'⟩
  refine (S'.runG h6 nil_ob).bind ?_
  rintro m t ⟨τ, g'', w'', S''⟩
  exact S''.ends k2 k3 k1 k4 k5 (by rw [k6]; exact Tryz.func3) k7 (by rw [k6]; kernel_rfl) (.bool _) hP
theorem fr_run (a b : Int) (ha : 0 ≤ a ∧ a ≤ 4294967295) (hb : 0 ≤ b ∧ b ≤ 4294967295) (orc : Checks Tryz.prog Tryz.link 6 (Good Tryz.prog Post)) {V : World} (hP : ∀ w', Keep (fun b => b < V.heap.size) V w' → Post (.bool true) w') :
    Leads Tryz.prog (Good Tryz.prog Post) K (Go.Conc.solo (G (Frame.enter Tryz.prog 3 #[.int .u32 a, .int .u32 b] .normal) []) V) #[] := by
  have S : Sd Tryz.prog [] (fun b => b < V.heap.size) V (fun _ => False) (fun _ => False) (fun b => b < V.heap.size) 1 env0 (S0 a b) _ V _ #[] := Sd.start (P := Tryz.prog) (W := V) (f := 3) (args := #[.int .u32 a, .int .u32 b]) fun x hx => by
    simp only [List.mem_toArray, List.mem_cons, List.not_mem_nil, or_false] at hx
    rcases hx with rfl | rfl <;> exact .int _ _
  obtain ⟨n, hn⟩ : ∃ n, n = a.tmod 1000000 := ⟨_, rfl⟩
  obtain ⟨k, hk⟩ : ∃ k, k = b.tmod 1000000 := ⟨_, rfl⟩
  have en : a.tmod 1000000 = a % 1000000 := Int.tmod_eq_emod_of_nonneg ha.1
  have ek : b.tmod 1000000 = b % 1000000 := Int.tmod_eq_emod_of_nonneg hb.1
  have hn0 : 0 ≤ n ∧ n ≤ 999999 := by omega
  have hk0 : 0 ≤ k ∧ k ≤ 999999 := by omega
  refine (S.runG (e1 a b n k) ?_).bind ?_
  · simp only [List.forall_mem_cons]
    refine ⟨ie ?_, ie ?_, nil_ob⟩
    · rw [wr_id (by omega) (by omega)]; exact hn.symm
    · rw [wr_id (by omega) (by omega)]; exact hk.symm
  rintro m t ⟨σ, g1, w1, S1⟩
  refine (S1.callR (Root_all n hn0.1 hn0.2) (pi n) (fun v ⟨r, _, e⟩ => e ▸ tup_plain _ _) fun v ⟨r, _, e⟩ => ⟨(Go.Am.S2 a b n k r).fr, by rw [e]; exact f1 a b n k r⟩).bind ?_
  rintro m t ⟨v, a1, g2, w2, ⟨r, hr, rfl⟩, ha1, S2⟩
  rw [f1] at ha1
  have ha1 := Option.some.inj ha1
  subst ha1
  rw [S2eq] at S2
  refine (S2.runG (e2 a b n k r) nil_ob).bind ?_
  rintro m t ⟨σ2, g3, w3, S3⟩
  refine (S3.callR (Root_all k hk0.1 hk0.2) (pi k) (fun v ⟨r, _, e⟩ => e ▸ tup_plain _ _) fun v ⟨q, _, e⟩ => ⟨(Go.Am.S3 a b n k r q).fr, by rw [e]; exact f2 a b n k r q⟩).bind ?_
  rintro m t ⟨v, a2, g4, w4, ⟨q, hq, rfl⟩, ha2, S4⟩
  rw [f2] at ha2
  have ha2 := Option.some.inj ha2
  subst ha2
  rw [S3eq] at S4
  refine (S4.runG (e3 a b n k r q) ?_).bind ?_
  · simp only [List.forall_mem_cons]
    exact ⟨ie (wr_id (by omega) (by omega)), nil_ob⟩
  rintro m t ⟨σ3, g5, w5, S5⟩
  refine (S5.callP (Root_neg (-1 - n) (by omega)) (pi _) (tup_plain _ _) (f3 a b n k r q)).bind ?_
  rintro m t ⟨g6, w6, S6, _⟩
  rw [S4eq] at S6
  have hrr := hr
  obtain ⟨r1, r2, r3, r4⟩ := hr
  have s1 := sq_bound (a := r) r1 (by omega)
  have s2 := sq_bound (a := r + 1) (by omega) (by omega)
  have s3 : 0 ≤ r * r := Int.mul_nonneg r1 r1
  have s4 : 0 ≤ (r + 1) * (r + 1) := Int.mul_nonneg (by omega) (by omega)
  have hob : ∀ p ∈ obs n r, p.1 = p.2 := by
    simp only [List.forall_mem_cons]
    exact ⟨bt r1, bt r2, ie (wr_id (by omega) (by omega)), bt r3, ie (wr_id (by omega) (by omega)), ie (wr_id (by omega) (by omega)), ie (wr_id (by omega) (by omega)), bt r4, nil_ob⟩
  rcases Int.lt_or_le k n with hc | hc
  · refine (S6.runG (e5t a b n k r q) (fun p hp => ?_)).bind ?_
    · rcases List.mem_append.1 hp with h | h
      · exact hob p h
      · rw [List.mem_singleton] at h; subst h; exact bt hc
    rintro m t ⟨σ4, g7, w7, S7⟩
    exact fr_end (e7t a b n k r q) (t7t a b n k r q) orc (k6t a b n k r q) hP S7
  · refine (S6.runG (e5f a b n k r q) (fun p hp => ?_)).bind ?_
    · rcases List.mem_append.1 hp with h | h
      · exact hob p h
      · simp only [List.mem_cons, List.not_mem_nil, or_false] at h
        rcases h with rfl | rfl
        · exact bf (by omega)
        · exact bt (root_mono hrr hq hc)
    rintro m t ⟨σ4, g7, w7, S7⟩
    exact fr_end (e7f a b n k r q) (t7f a b n k r q) orc (k6f a b n k r q) hP S7
end
end Go.Am
end
