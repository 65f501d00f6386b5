import Derived.Test.YtgfjlblikffnaaaGreatProg
import Derived.KernelRfl
import Derived.Conc.WgLib
import Derived.Test.YtgfjlblikffnaaaGreatH19
import Derived.Test.YtgfjlblikffnaaaGreatH20
set_option linter.unusedVariables false
set_option linter.unusedSectionVars false
set_option linter.unusedSimpArgs false
namespace Go.Am
open Go.Proofs
noncomputable def Tryz.tT:Tr TI:=RI Tryz.prog Tryz.prog.types.toList 0
noncomputable def Tryz.tF:Tr Func:=RJ Tryz.prog.funcs.toList 0
noncomputable def at_(f:Nat)(p:List Nat):Code:=kE (RX Tryz.tF f) p
noncomputable def aC(f:Nat)(p:List Nat):Array Oper:=acC Tryz.tF f p
abbrev Tryz.link:Go.Conc.Lib.WgLink:={ add:=130,done:=132,wait:=133,relMerge:=145,disable:=146,enable:=147,inBubble:=148,associate:=149,fatal:=150,uOr:=151,uAdd:=152,raceRead:=153,uLoad:=154,uStore:=155,disassociate:=156,semrelease:=157,acquire:=158,isAssociated:=159,uCas:=160,raceWrite:=161,semacquire:=162,orU64:=175,addU64:=176,loadU64:=177,storeU64:=178,casU64:=179,tWgP:=190,tUP:=192,tAssoc:=193,tWg:=181,tAU:=178,tU64:=176,tUint:=188,tU32:=179,tPU32:=197,tPAU:=214,tPU64:=216,tNoCopy:=173,tANoCopy:=174,tAlign64:=175 }
end Go.Am
namespace Go.Am
theorem BB{α β:Type}{I:β→Prop}{f:α→β→Option (ForInStep β)}(hf:∀a b r,I b→f a b=some r→I r.value):∀(l:List α) {b c:β},I b→forIn l b f=some c→I c
 | [],b,c,hb,h=>by
  rw [List.forIn_nil] at h
  cases h
  exact hb
 |a :: l,b,c,hb,h=>by
  rw [List.forIn_cons] at h
  simp only [bind,Option.bind_eq_some_iff] at h
  obtain ⟨r,hr,h⟩:=h
  have hi:=hf a b r hb hr
  cases r with
  |done x=>cases h;exact hi
  |yield x=>exact BB hf l hi h
theorem wV{z:Value}(h:Plain z):∀x∈z.cells,Plain x:=by
 intro x hx
 obtain ⟨h1,h2⟩:=kG h
 obtain ⟨i,hi⟩:=Array.getElem?_of_mem hx
 exact h2 i x x hi hi
theorem PK{b:Option (Array Value)}{i:TypeInfo}{n:Nat}(hp:∀z,i.zero=some z→Plain z)(hb:∀a,b=some a→∀x∈a,Plain x):∀a,(if n > Made.mostCells then none else b.bind fun u=>i.zero.bind fun z=>some (u ++ z.cells))=some a→∀x∈a,Plain x:=by
 intro a h x hx
 split at h
 ·cases h
 ·simp only [Option.bind_eq_some_iff] at h
  obtain ⟨u,h1,z,h2,h3⟩:=h
  cases h3
  rcases Array.mem_append.1 hx with k|k
  ·exact hb u h1 x k
  ·exact wV (hp z h2) x k
theorem Du{info:TypeId→Option TypeInfo}{fs:Array Field}{i:TypeInfo}{z:Value}(hp:∀t i z,info t=some i→i.zero=some z→Plain z)(h:Made.reckonStruct info fs=some i)(hz:i.zero=some z):Plain z:=by
 unfold Made.reckonStruct at h
 simp only [bind,Option.bind_eq_some_iff,pure] at h
 obtain ⟨a,hl,h⟩:=h
 have key:∀u,a.2.2.2.2.2.2.2.1=some u→∀x∈u,Plain x:=by
  rw [←Array.forIn_toList] at hl
  refine BB (I:=fun s=>∀u,s.2.2.2.2.2.2.2.1=some u→∀x∈u,Plain x) (fun f b r hb hr=>?_) _ (fun u hu x hx=>?_) hl
  ·simp only [Option.bind_eq_some_iff] at hr
   obtain ⟨j,hj,hr⟩:=hr
   have hs:=fun n=>PK (n:=n) (i:=j) (fun z hz=>hp _ _ _ hj hz) hb
   repeat' first
    | (cases hr;exact hs _)
    | (cases hr;done)
    | (simp only [Option.bind_eq_some_iff] at hr;obtain ⟨_,_,hr⟩:=hr)
    | split at hr
    | (exact absurd hr (by simp))
  ·cases hu
   simp at hx
 have fin:∀ {z:Value},a.2.2.2.2.2.2.2.1.map .agg=some z→Plain z:=fun {z} hz=>by
  rw [Option.map_eq_some_iff] at hz
  obtain ⟨u,h1,rfl⟩:=hz
  exact qU (key u h1)
 split at h<;>(cases h;exact fin hz)
theorem Dv{info:TypeId→Option TypeInfo}{d:TypeDesc}{i:TypeInfo}{z:Value}(hp:∀t i z,info t=some i→i.zero=some z→Plain z)(h:Made.reckon info d=some i)(hz:i.zero=some z):Plain z:=by
 unfold Made.reckon at h
 split at h
 case h_7=>exact Du hp h hz
 case h_6=>
  simp only [bind,Option.bind_eq_some_iff,pure] at h
  obtain ⟨j,hj,s,hs,h⟩:=h
  cases h
  dsimp only at hz
  split at hz
  ·cases hz
  ·split at hz
   ·cases hz
    exact qU fun x hx=>by simp at hx
   ·rw [Option.map_eq_some_iff] at hz
    obtain ⟨u,h1,rfl⟩:=hz
    refine qU fun x hx=>?_
    rw [Array.mem_flatten] at hx
    obtain ⟨xs,h2,h3⟩:=hx
    rw [Array.mem_replicate] at h2
    rw [h2.2] at h3
    exact wV (hp _ _ _ hj h1) x h3
 all_goals try simp only [bind,Option.bind_eq_some_iff,pure] at h
 all_goals repeat' first
  |(obtain ⟨_,_,h⟩:=h)
  |(split at h)
 all_goals first
  |(cases hz;first|exact .eu|exact .nilslice _ _|exact .cu|exact .dJ|exact .nilFunc)
  |(cases h;cases hz;first|exact .eu|exact .nilslice _ _|exact .cu|exact .dJ|exact .nilFunc)
  |(cases h;done)
  |(exfalso;simp at h;done)
  |(simp only [Option.bind_eq_some_iff] at h;obtain ⟨_,_,h⟩:=h;cases h;cases hz;first|exact .eu|exact .nilslice _ _|exact .cu|exact .dJ|exact .nilFunc)
def MK:Value→Bool
 | .chan none=>true
 |_=>false
def KJ(v:Value):Bool:=fD 12 v || MK v
def KL(T:Tables):Bool:=T.types.toList.all fun i=>match i.zero with
 |some z=>KJ z
 |none=>true
theorem yT{T:Tables}(h:KL T=true):∀(n:Nat) (t:TypeId) (i:TypeInfo) (z:Value),Made.infoAt T n t=some i→i.zero=some z→Plain z
 |0,t,i,z,e,_=>by cases e
 |n+1,t,i,z,e,hz=>by
  unfold Made.infoAt at e
  split at e
  ·unfold KL at h
   rw [List.all_eq_true] at h
   have:=h i (get_mem e)
   rw [hz] at this
   have this:KJ z=true:=this
   unfold KJ at this
   rw [Bool.or_eq_true] at this
   rcases this with k|k
   ·exact dG k
   ·unfold MK at k
    split at k
    · exact .dJ
    · cases k
  ·simp only [Option.bind_eq_some_iff] at e
   obtain ⟨d,_,e⟩:=e
   exact Dv (fun t i z h1 h2=>yT h n t i z h1 h2) e hz
theorem Tu{P:Program}(h:KL P.toTables=true):aI P:=⟨fun t i z hi hz ρ=>by
 have hi':P.toTables.info? t=some i:=hi
 unfold Tables.info? at hi'
 split at hi'
 ·rename_i ht
  exact (yT h 1 t i z (by unfold Made.infoAt;rw [if_pos ht];exact hi') hz).vr ρ
 ·exact (yT h _ t i z hi' hz).vr ρ⟩
end Go.Am
namespace Go.Am
open Go.Proofs
theorem Tryz.wgLib:Go.Conc.Lib.WgLib Tryz.prog Tryz.link:=by
 constructor<;>first|kernel_rfl|(intro w;kernel_rfl)|skip
theorem Tryz.waits:xY Tryz.prog Tryz.link:=⟨Tryz.wgLib,by kernel_rfl,by kernel_rfl,by kernel_rfl⟩
theorem Tryz.tOk:dA Tryz.prog Tryz.tT:=U2
theorem Tryz.fOk:fO Tryz.prog Tryz.tF:=U3
instance Tryz.zeros:aI Tryz.prog:=Tu (by kernel_rfl)
end Go.Am
namespace Go.Am
open Go.Proofs
noncomputable def Tryz.X(cs:List Ct):TX:=⟨Tryz.prog,Tryz.tT,Tryz.tF,ctI cs⟩
theorem Tryz.ok{cs:List Ct}(h:∀c∈cs,dF Tryz.prog c):Dp (Tryz.X cs):=⟨Tryz.zeros,Tryz.tOk,Tryz.fOk,aaD (P:=Tryz.prog) h⟩
def iP:List (Int×Int)→Prop
 | []=>True
 |(l,u) :: r=>(0≤l∧l≤u∧u≤959∧u - l < 3)∧iP r
def iF(np:Int):List (Int×Int×Int)→Prop
 | []=>True
 |(f,a,b) :: r=>(0≤f∧f≤np - 2 ∧ -99999≤a∧a≤b∧b≤99999)∧iF np r
def Hd(run scale follow bite wrong:Int):Prop:=(1≤run∧run≤99)∧(1≤scale∧scale≤99)∧(0≤follow∧follow≤999)∧(1≤bite∧bite≤99)∧(0≤wrong∧wrong≤2)
def bm(run scale follow bite wrong:Int)(op:Option Addr)(np cp:Nat)(ot:Option Addr)(nt ct:Nat):Value:=.agg ⟨[.int .i64 run,.int .i64 scale,.int .i64 follow,.int .i64 bite,.int .i64 wrong,.slice op np cp,.slice ot nt ct]⟩
section
variable{run scale follow bite wrong:Int}{cp np nt ct:Nat}{op ot:Option Addr}
abbrev Zz:HT:=.br 0 4 13 (.br 10 6 10 (.br 0 6 16 (.br 0 6 22 (.br 14 5 9 (.br 0 4 13 (.br 10 6 10 (.br 0 6 16 (.br 0 6 22 (.ret 11 1) (.ret 6 1)) (.ret 6 1)) (.ret 6 1)) (.ret 9 1)) (.ret 9 1)) (.ret 6 1)) (.ret 6 1)) (.ret 6 1)) (.ret 9 1)
abbrev ZA:HT:=.br 0 4 13 (.br 10 6 10 (.br 0 6 16 (.br 0 6 22 (.br 14 5 9 Zz (.ret 9 1)) (.ret 6 1)) (.ret 6 1)) (.ret 6 1)) (.ret 9 1)
theorem Tryz.acL(Q:Value→Prop)(K:AS→Prop):tx (Tryz.X []) Q K (.br 3 5 9 (.br 0 4 13 (.br 5 5 9 (.br 0 4 13 (.br 5 5 9 (.br 0 4 13 (.br 5 5 9 (.br 0 4 13 (.br 5 5 9 (.br 0 4 13 (.val 5 6 37 (.br 2 5 9 (.br 0 4 13 .no (.ret 6 1)) (.ret 6 1))) (.ret 6 1)) (.ret 6 1)) (.ret 6 1)) (.ret 6 1)) (.ret 6 1)) (.ret 6 1)) (.ret 6 1)) (.ret 6 1)) (.ret 6 1)) (.ret 6 1)) ⟨aF.enter Tryz.prog 10 ⟨[bm run scale follow bite wrong op np cp ot nt ct]⟩,[],di 4 []⟩=(BR (decide (1≤run)) (BR (decide (run≤99)) (BR (decide (1≤scale)) (BR (decide (scale≤99)) (BR (decide (0≤follow)) (BR (decide (follow≤999)) (BR (decide (1≤bite)) (BR (decide (bite≤99)) (BR (decide (0≤wrong)) (BR (decide (wrong≤2)) (∀x0,x0=((np:Nat):Int)→BR (decide (3≤x0)) (BR (decide (x0≤6)) (False) (Q (.int .i64 2))) (Q (.int .i64 2))) (Q (.int .i64 1))) (Q (.int .i64 1))) (Q (.int .i64 1))) (Q (.int .i64 1))) (Q (.int .i64 1))) (Q (.int .i64 1))) (Q (.int .i64 1))) (Q (.int .i64 1))) (Q (.int .i64 1))) (Q (.int .i64 1))):=by kernel_rfl
theorem Tryz.ckm(hn:¬(3≤np∧np≤6)):bM Tryz.prog (fun v _=>∃x:Int,(x=0→False)∧v = .int .i64 x) ⟨aF.enter Tryz.prog 10 ⟨[bm run scale follow bite wrong op np cp ot nt ct]⟩,[],di 4 []⟩:=by
 refine aQ (Tryz.ok dM) (Tryz.acL _ _) ?_
 iterate 10 refine BR.mk (fun _=>?_) fun _=>fK (by omega)
 intro x0 _
 refine BR.mk (fun _=>?_) fun _=>fK (by omega)
 refine BR.rr ?_
 exact fK (by omega)
end
end Go.Am
namespace Go.Am
open Go.Proofs
section
variable{run scale follow bite wrong l0 u0 l1 u1 l2 u2:Int}{tc sc kc:Array Value}{cp ct:Nat}{ot:Option Addr}
theorem Tryz.aaE(Q:Value→Prop)(K:AS→Prop):tx (Tryz.X []) Q K (.br 3 5 9 (.br 0 4 13 (.br 5 5 9 (.br 0 4 13 (.br 5 5 9 (.br 0 4 13 (.br 5 5 9 (.br 0 4 13 (.br 5 5 9 (.br 0 4 13 (.br 18 6 10 (.br 0 6 16 (.br 0 6 22 (.val 3 7 60 (.br 0 1 61 (.ret 3 1) (.br 9 6 10 (.br 0 6 16 (.br 0 6 22 (.val 3 7 60 (.br 0 1 61 (.ret 3 1) (.br 9 6 10 (.br 0 6 16 (.br 0 6 22 (.val 3 7 60 (.br 0 1 61 (.ret 3 1) (.ret 13 1))) (.ret 6 1)) (.ret 6 1)) (.ret 6 1)))) (.ret 6 1)) (.ret 6 1)) (.ret 6 1)))) (.ret 6 1)) (.ret 6 1)) (.ret 6 1)) (.ret 6 1)) (.ret 6 1)) (.ret 6 1)) (.ret 6 1)) (.ret 6 1)) (.ret 6 1)) (.ret 6 1)) (.ret 6 1)) (.ret 6 1)) (.ret 6 1)) ⟨aF.enter Tryz.prog 10 ⟨[.agg ⟨[.int .i64 run,.int .i64 scale,.int .i64 follow,.int .i64 bite,.int .i64 wrong,.slice (some ⟨0,0,none⟩) 3 cp,.slice ot 0 ct]⟩]⟩,[],di 4 (L4 ⟨[.int .i64 l0,.int .i64 u0,.int .i64 l1,.int .i64 u1,.int .i64 l2,.int .i64 u2]⟩ tc sc kc)⟩=(BR (decide (1≤run)) (BR (decide (run≤99)) (BR (decide (1≤scale)) (BR (decide (scale≤99)) (BR (decide (0≤follow)) (BR (decide (follow≤999)) (BR (decide (1≤bite)) (BR (decide (bite≤99)) (BR (decide (0≤wrong)) (BR (decide (wrong≤2)) (BR (decide (0≤l0)) (BR (decide (l0≤u0)) (BR (decide (u0≤959)) (∀x0,x0=wi (u0 - l0)→BR (decide (x0≥3)) (Q (.int .i64 1)) (BR (decide (0≤l1)) (BR (decide (l1≤u1)) (BR (decide (u1≤959)) (∀x1,x1=wi (u1 - l1)→BR (decide (x1≥3)) (Q (.int .i64 1)) (BR (decide (0≤l2)) (BR (decide (l2≤u2)) (BR (decide (u2≤959)) (∀x2,x2=wi (u2 - l2)→BR (decide (x2≥3)) (Q (.int .i64 1)) (Q (.int .i64 0))) (Q (.int .i64 1))) (Q (.int .i64 1))) (Q (.int .i64 1)))) (Q (.int .i64 1))) (Q (.int .i64 1))) (Q (.int .i64 1)))) (Q (.int .i64 1))) (Q (.int .i64 1))) (Q (.int .i64 1))) (Q (.int .i64 1))) (Q (.int .i64 1))) (Q (.int .i64 1))) (Q (.int .i64 1))) (Q (.int .i64 1))) (Q (.int .i64 1))) (Q (.int .i64 1))) (Q (.int .i64 1))) (Q (.int .i64 1))) (Q (.int .i64 1))):=by kernel_rfl
theorem Tryz.aeP:bM Tryz.prog (fun v _=>∃x:Int,(x=0→Hd run scale follow bite wrong∧iP [(l0,u0),(l1,u1),(l2,u2)]∧iF 3 [])∧v = .int .i64 x) ⟨aF.enter Tryz.prog 10 ⟨[.agg ⟨[.int .i64 run,.int .i64 scale,.int .i64 follow,.int .i64 bite,.int .i64 wrong,.slice (some ⟨0,0,none⟩) 3 cp,.slice ot 0 ct]⟩]⟩,[],di 4 (L4 ⟨[.int .i64 l0,.int .i64 u0,.int .i64 l1,.int .i64 u1,.int .i64 l2,.int .i64 u2]⟩ tc sc kc)⟩:=by
 refine aQ (Tryz.ok dM) (Tryz.aaE _ _) ?_
 iterate 24 (first|refine BR.mk (fun _=>?_) fun _=>fK (by omega)|refine BR.mk (fun _=>fK (by omega)) fun _=>?_|refine va fun _ _=>?_)
 refine BR.mk (fun _=>?_) fun _=>lf0 ⟨by simp only [Hd]<;>omega,by simp only [iP,and_true]<;>omega,by simp only [iF,and_true]<;>omega⟩
 exact fK (by omega)
end
section
variable{run scale follow bite wrong l0 u0 l1 u1 l2 u2 f0 a0 b0:Int}{tc sc kc:Array Value}{cp ct:Nat}{ot:Option Addr}
theorem Tryz.aaF(Q:Value→Prop)(K:AS→Prop):tx (Tryz.X []) Q K (.br 3 5 9 (.br 0 4 13 (.br 5 5 9 (.br 0 4 13 (.br 5 5 9 (.br 0 4 13 (.br 5 5 9 (.br 0 4 13 (.br 5 5 9 (.br 0 4 13 (.br 18 6 10 (.br 0 6 16 (.br 0 6 22 (.val 3 7 60 (.br 0 1 61 (.ret 3 1) (.br 9 6 10 (.br 0 6 16 (.br 0 6 22 (.val 3 7 60 (.br 0 1 61 (.ret 3 1) (.br 9 6 10 (.br 0 6 16 (.br 0 6 22 (.val 3 7 60 (.br 0 1 61 (.ret 3 1) (.br 16 5 9 (.br 0 4 13 (.br 10 6 10 (.br 0 6 16 (.br 0 6 22 (.ret 11 1) (.ret 6 1)) (.ret 6 1)) (.ret 6 1)) (.ret 9 1)) (.ret 9 1)))) (.ret 6 1)) (.ret 6 1)) (.ret 6 1)))) (.ret 6 1)) (.ret 6 1)) (.ret 6 1)))) (.ret 6 1)) (.ret 6 1)) (.ret 6 1)) (.ret 6 1)) (.ret 6 1)) (.ret 6 1)) (.ret 6 1)) (.ret 6 1)) (.ret 6 1)) (.ret 6 1)) (.ret 6 1)) (.ret 6 1)) (.ret 6 1)) ⟨aF.enter Tryz.prog 10 ⟨[.agg ⟨[.int .i64 run,.int .i64 scale,.int .i64 follow,.int .i64 bite,.int .i64 wrong,.slice (some ⟨0,0,none⟩) 3 cp,.slice (some ⟨1,0,none⟩) 1 ct]⟩]⟩,[],di 4 (L4 ⟨[.int .i64 l0,.int .i64 u0,.int .i64 l1,.int .i64 u1,.int .i64 l2,.int .i64 u2]⟩ ⟨[.int .i64 f0,.int .i64 a0,.int .i64 b0]⟩ sc kc)⟩=(BR (decide (1≤run)) (BR (decide (run≤99)) (BR (decide (1≤scale)) (BR (decide (scale≤99)) (BR (decide (0≤follow)) (BR (decide (follow≤999)) (BR (decide (1≤bite)) (BR (decide (bite≤99)) (BR (decide (0≤wrong)) (BR (decide (wrong≤2)) (BR (decide (0≤l0)) (BR (decide (l0≤u0)) (BR (decide (u0≤959)) (∀x0,x0=wi (u0 - l0)→BR (decide (x0≥3)) (Q (.int .i64 1)) (BR (decide (0≤l1)) (BR (decide (l1≤u1)) (BR (decide (u1≤959)) (∀x1,x1=wi (u1 - l1)→BR (decide (x1≥3)) (Q (.int .i64 1)) (BR (decide (0≤l2)) (BR (decide (l2≤u2)) (BR (decide (u2≤959)) (∀x2,x2=wi (u2 - l2)→BR (decide (x2≥3)) (Q (.int .i64 1)) (BR (decide (0≤f0)) (BR (decide (f0≤1)) (BR (decide ((-99999)≤a0)) (BR (decide (a0≤b0)) (BR (decide (b0≤99999)) (Q (.int .i64 0)) (Q (.int .i64 1))) (Q (.int .i64 1))) (Q (.int .i64 1))) (Q (.int .i64 6))) (Q (.int .i64 6)))) (Q (.int .i64 1))) (Q (.int .i64 1))) (Q (.int .i64 1)))) (Q (.int .i64 1))) (Q (.int .i64 1))) (Q (.int .i64 1)))) (Q (.int .i64 1))) (Q (.int .i64 1))) (Q (.int .i64 1))) (Q (.int .i64 1))) (Q (.int .i64 1))) (Q (.int .i64 1))) (Q (.int .i64 1))) (Q (.int .i64 1))) (Q (.int .i64 1))) (Q (.int .i64 1))) (Q (.int .i64 1))) (Q (.int .i64 1))) (Q (.int .i64 1))):=by kernel_rfl
theorem Tryz.aeQ:bM Tryz.prog (fun v _=>∃x:Int,(x=0→Hd run scale follow bite wrong∧iP [(l0,u0),(l1,u1),(l2,u2)]∧iF 3 [(f0,a0,b0)])∧v = .int .i64 x) ⟨aF.enter Tryz.prog 10 ⟨[.agg ⟨[.int .i64 run,.int .i64 scale,.int .i64 follow,.int .i64 bite,.int .i64 wrong,.slice (some ⟨0,0,none⟩) 3 cp,.slice (some ⟨1,0,none⟩) 1 ct]⟩]⟩,[],di 4 (L4 ⟨[.int .i64 l0,.int .i64 u0,.int .i64 l1,.int .i64 u1,.int .i64 l2,.int .i64 u2]⟩ ⟨[.int .i64 f0,.int .i64 a0,.int .i64 b0]⟩ sc kc)⟩:=by
 refine aQ (Tryz.ok dM) (Tryz.aaF _ _) ?_
 iterate 29 (first|refine BR.mk (fun _=>?_) fun _=>fK (by omega)|refine BR.mk (fun _=>fK (by omega)) fun _=>?_|refine va fun _ _=>?_)
 refine BR.mk (fun _=>?_) fun _=>fK (by omega)
 exact lf0 ⟨by simp only [Hd]<;>omega,by simp only [iP,and_true]<;>omega,by simp only [iF,and_true]<;>omega⟩
end
section
variable{run scale follow bite wrong l0 u0 l1 u1 l2 u2 f0 a0 b0 f1 a1 b1:Int}{tc sc kc:Array Value}{cp ct:Nat}{ot:Option Addr}
theorem Tryz.aaG(Q:Value→Prop)(K:AS→Prop):tx (Tryz.X []) Q K (.br 3 5 9 (.br 0 4 13 (.br 5 5 9 (.br 0 4 13 (.br 5 5 9 (.br 0 4 13 (.br 5 5 9 (.br 0 4 13 (.br 5 5 9 (.br 0 4 13 (.br 18 6 10 (.br 0 6 16 (.br 0 6 22 (.val 3 7 60 (.br 0 1 61 (.ret 3 1) (.br 9 6 10 (.br 0 6 16 (.br 0 6 22 (.val 3 7 60 (.br 0 1 61 (.ret 3 1) (.br 9 6 10 (.br 0 6 16 (.br 0 6 22 (.val 3 7 60 (.br 0 1 61 (.ret 3 1) (.br 16 5 9 Zz (.ret 9 1)))) (.ret 6 1)) (.ret 6 1)) (.ret 6 1)))) (.ret 6 1)) (.ret 6 1)) (.ret 6 1)))) (.ret 6 1)) (.ret 6 1)) (.ret 6 1)) (.ret 6 1)) (.ret 6 1)) (.ret 6 1)) (.ret 6 1)) (.ret 6 1)) (.ret 6 1)) (.ret 6 1)) (.ret 6 1)) (.ret 6 1)) (.ret 6 1)) ⟨aF.enter Tryz.prog 10 ⟨[.agg ⟨[.int .i64 run,.int .i64 scale,.int .i64 follow,.int .i64 bite,.int .i64 wrong,.slice (some ⟨0,0,none⟩) 3 cp,.slice (some ⟨1,0,none⟩) 2 ct]⟩]⟩,[],di 4 (L4 ⟨[.int .i64 l0,.int .i64 u0,.int .i64 l1,.int .i64 u1,.int .i64 l2,.int .i64 u2]⟩ ⟨[.int .i64 f0,.int .i64 a0,.int .i64 b0,.int .i64 f1,.int .i64 a1,.int .i64 b1]⟩ sc kc)⟩=(BR (decide (1≤run)) (BR (decide (run≤99)) (BR (decide (1≤scale)) (BR (decide (scale≤99)) (BR (decide (0≤follow)) (BR (decide (follow≤999)) (BR (decide (1≤bite)) (BR (decide (bite≤99)) (BR (decide (0≤wrong)) (BR (decide (wrong≤2)) (BR (decide (0≤l0)) (BR (decide (l0≤u0)) (BR (decide (u0≤959)) (∀x0,x0=wi (u0 - l0)→BR (decide (x0≥3)) (Q (.int .i64 1)) (BR (decide (0≤l1)) (BR (decide (l1≤u1)) (BR (decide (u1≤959)) (∀x1,x1=wi (u1 - l1)→BR (decide (x1≥3)) (Q (.int .i64 1)) (BR (decide (0≤l2)) (BR (decide (l2≤u2)) (BR (decide (u2≤959)) (∀x2,x2=wi (u2 - l2)→BR (decide (x2≥3)) (Q (.int .i64 1)) (BR (decide (0≤f0)) (BR (decide (f0≤1)) (BR (decide ((-99999)≤a0)) (BR (decide (a0≤b0)) (BR (decide (b0≤99999)) (BR (decide (0≤f1)) (BR (decide (f1≤1)) (BR (decide ((-99999)≤a1)) (BR (decide (a1≤b1)) (BR (decide (b1≤99999)) (Q (.int .i64 0)) (Q (.int .i64 1))) (Q (.int .i64 1))) (Q (.int .i64 1))) (Q (.int .i64 6))) (Q (.int .i64 6))) (Q (.int .i64 1))) (Q (.int .i64 1))) (Q (.int .i64 1))) (Q (.int .i64 6))) (Q (.int .i64 6)))) (Q (.int .i64 1))) (Q (.int .i64 1))) (Q (.int .i64 1)))) (Q (.int .i64 1))) (Q (.int .i64 1))) (Q (.int .i64 1)))) (Q (.int .i64 1))) (Q (.int .i64 1))) (Q (.int .i64 1))) (Q (.int .i64 1))) (Q (.int .i64 1))) (Q (.int .i64 1))) (Q (.int .i64 1))) (Q (.int .i64 1))) (Q (.int .i64 1))) (Q (.int .i64 1))) (Q (.int .i64 1))) (Q (.int .i64 1))) (Q (.int .i64 1))):=by kernel_rfl
theorem Tryz.aeR:bM Tryz.prog (fun v _=>∃x:Int,(x=0→Hd run scale follow bite wrong∧iP [(l0,u0),(l1,u1),(l2,u2)]∧iF 3 [(f0,a0,b0),(f1,a1,b1)])∧v = .int .i64 x) ⟨aF.enter Tryz.prog 10 ⟨[.agg ⟨[.int .i64 run,.int .i64 scale,.int .i64 follow,.int .i64 bite,.int .i64 wrong,.slice (some ⟨0,0,none⟩) 3 cp,.slice (some ⟨1,0,none⟩) 2 ct]⟩]⟩,[],di 4 (L4 ⟨[.int .i64 l0,.int .i64 u0,.int .i64 l1,.int .i64 u1,.int .i64 l2,.int .i64 u2]⟩ ⟨[.int .i64 f0,.int .i64 a0,.int .i64 b0,.int .i64 f1,.int .i64 a1,.int .i64 b1]⟩ sc kc)⟩:=by
 refine aQ (Tryz.ok dM) (Tryz.aaG _ _) ?_
 iterate 34 (first|refine BR.mk (fun _=>?_) fun _=>fK (by omega)|refine BR.mk (fun _=>fK (by omega)) fun _=>?_|refine va fun _ _=>?_)
 refine BR.mk (fun _=>?_) fun _=>fK (by omega)
 exact lf0 ⟨by simp only [Hd]<;>omega,by simp only [iP,and_true]<;>omega,by simp only [iF,and_true]<;>omega⟩
end
section
variable{run scale follow bite wrong l0 u0 l1 u1 l2 u2 f0 a0 b0 f1 a1 b1 f2 a2 b2:Int}{tc sc kc:Array Value}{cp ct:Nat}{ot:Option Addr}
theorem Tryz.aaH(Q:Value→Prop)(K:AS→Prop):tx (Tryz.X []) Q K (.br 3 5 9 (.br 0 4 13 (.br 5 5 9 (.br 0 4 13 (.br 5 5 9 (.br 0 4 13 (.br 5 5 9 (.br 0 4 13 (.br 5 5 9 (.br 0 4 13 (.br 18 6 10 (.br 0 6 16 (.br 0 6 22 (.val 3 7 60 (.br 0 1 61 (.ret 3 1) (.br 9 6 10 (.br 0 6 16 (.br 0 6 22 (.val 3 7 60 (.br 0 1 61 (.ret 3 1) (.br 9 6 10 (.br 0 6 16 (.br 0 6 22 (.val 3 7 60 (.br 0 1 61 (.ret 3 1) (.br 16 5 9 ZA (.ret 9 1)))) (.ret 6 1)) (.ret 6 1)) (.ret 6 1)))) (.ret 6 1)) (.ret 6 1)) (.ret 6 1)))) (.ret 6 1)) (.ret 6 1)) (.ret 6 1)) (.ret 6 1)) (.ret 6 1)) (.ret 6 1)) (.ret 6 1)) (.ret 6 1)) (.ret 6 1)) (.ret 6 1)) (.ret 6 1)) (.ret 6 1)) (.ret 6 1)) ⟨aF.enter Tryz.prog 10 ⟨[.agg ⟨[.int .i64 run,.int .i64 scale,.int .i64 follow,.int .i64 bite,.int .i64 wrong,.slice (some ⟨0,0,none⟩) 3 cp,.slice (some ⟨1,0,none⟩) 3 ct]⟩]⟩,[],di 4 (L4 ⟨[.int .i64 l0,.int .i64 u0,.int .i64 l1,.int .i64 u1,.int .i64 l2,.int .i64 u2]⟩ ⟨[.int .i64 f0,.int .i64 a0,.int .i64 b0,.int .i64 f1,.int .i64 a1,.int .i64 b1,.int .i64 f2,.int .i64 a2,.int .i64 b2]⟩ sc kc)⟩=(BR (decide (1≤run)) (BR (decide (run≤99)) (BR (decide (1≤scale)) (BR (decide (scale≤99)) (BR (decide (0≤follow)) (BR (decide (follow≤999)) (BR (decide (1≤bite)) (BR (decide (bite≤99)) (BR (decide (0≤wrong)) (BR (decide (wrong≤2)) (BR (decide (0≤l0)) (BR (decide (l0≤u0)) (BR (decide (u0≤959)) (∀x0,x0=wi (u0 - l0)→BR (decide (x0≥3)) (Q (.int .i64 1)) (BR (decide (0≤l1)) (BR (decide (l1≤u1)) (BR (decide (u1≤959)) (∀x1,x1=wi (u1 - l1)→BR (decide (x1≥3)) (Q (.int .i64 1)) (BR (decide (0≤l2)) (BR (decide (l2≤u2)) (BR (decide (u2≤959)) (∀x2,x2=wi (u2 - l2)→BR (decide (x2≥3)) (Q (.int .i64 1)) (BR (decide (0≤f0)) (BR (decide (f0≤1)) (BR (decide ((-99999)≤a0)) (BR (decide (a0≤b0)) (BR (decide (b0≤99999)) (BR (decide (0≤f1)) (BR (decide (f1≤1)) (BR (decide ((-99999)≤a1)) (BR (decide (a1≤b1)) (BR (decide (b1≤99999)) (BR (decide (0≤f2)) (BR (decide (f2≤1)) (BR (decide ((-99999)≤a2)) (BR (decide (a2≤b2)) (BR (decide (b2≤99999)) (Q (.int .i64 0)) (Q (.int .i64 1))) (Q (.int .i64 1))) (Q (.int .i64 1))) (Q (.int .i64 6))) (Q (.int .i64 6))) (Q (.int .i64 1))) (Q (.int .i64 1))) (Q (.int .i64 1))) (Q (.int .i64 6))) (Q (.int .i64 6))) (Q (.int .i64 1))) (Q (.int .i64 1))) (Q (.int .i64 1))) (Q (.int .i64 6))) (Q (.int .i64 6)))) (Q (.int .i64 1))) (Q (.int .i64 1))) (Q (.int .i64 1)))) (Q (.int .i64 1))) (Q (.int .i64 1))) (Q (.int .i64 1)))) (Q (.int .i64 1))) (Q (.int .i64 1))) (Q (.int .i64 1))) (Q (.int .i64 1))) (Q (.int .i64 1))) (Q (.int .i64 1))) (Q (.int .i64 1))) (Q (.int .i64 1))) (Q (.int .i64 1))) (Q (.int .i64 1))) (Q (.int .i64 1))) (Q (.int .i64 1))) (Q (.int .i64 1))):=by kernel_rfl
theorem Tryz.aeS:bM Tryz.prog (fun v _=>∃x:Int,(x=0→Hd run scale follow bite wrong∧iP [(l0,u0),(l1,u1),(l2,u2)]∧iF 3 [(f0,a0,b0),(f1,a1,b1),(f2,a2,b2)])∧v = .int .i64 x) ⟨aF.enter Tryz.prog 10 ⟨[.agg ⟨[.int .i64 run,.int .i64 scale,.int .i64 follow,.int .i64 bite,.int .i64 wrong,.slice (some ⟨0,0,none⟩) 3 cp,.slice (some ⟨1,0,none⟩) 3 ct]⟩]⟩,[],di 4 (L4 ⟨[.int .i64 l0,.int .i64 u0,.int .i64 l1,.int .i64 u1,.int .i64 l2,.int .i64 u2]⟩ ⟨[.int .i64 f0,.int .i64 a0,.int .i64 b0,.int .i64 f1,.int .i64 a1,.int .i64 b1,.int .i64 f2,.int .i64 a2,.int .i64 b2]⟩ sc kc)⟩:=by
 refine aQ (Tryz.ok dM) (Tryz.aaH _ _) ?_
 iterate 39 (first|refine BR.mk (fun _=>?_) fun _=>fK (by omega)|refine BR.mk (fun _=>fK (by omega)) fun _=>?_|refine va fun _ _=>?_)
 refine BR.mk (fun _=>?_) fun _=>fK (by omega)
 exact lf0 ⟨by simp only [Hd]<;>omega,by simp only [iP,and_true]<;>omega,by simp only [iF,and_true]<;>omega⟩
end
section
variable{run scale follow bite wrong l0 u0 l1 u1 l2 u2 f0 a0 b0 f1 a1 b1 f2 a2 b2 f3 a3 b3:Int}{tc sc kc:Array Value}{cp ct:Nat}{ot:Option Addr}
theorem Tryz.aaI(Q:Value→Prop)(K:AS→Prop):tx (Tryz.X []) Q K (.br 3 5 9 (.br 0 4 13 (.br 5 5 9 (.br 0 4 13 (.br 5 5 9 (.br 0 4 13 (.br 5 5 9 (.br 0 4 13 (.br 5 5 9 (.br 0 4 13 (.br 18 6 10 (.br 0 6 16 (.br 0 6 22 (.val 3 7 60 (.br 0 1 61 (.ret 3 1) (.br 9 6 10 (.br 0 6 16 (.br 0 6 22 (.val 3 7 60 (.br 0 1 61 (.ret 3 1) (.br 9 6 10 (.br 0 6 16 (.br 0 6 22 (.val 3 7 60 (.br 0 1 61 (.ret 3 1) (.br 16 5 9 (.br 0 4 13 (.br 10 6 10 (.br 0 6 16 (.br 0 6 22 (.br 14 5 9 ZA (.ret 9 1)) (.ret 6 1)) (.ret 6 1)) (.ret 6 1)) (.ret 9 1)) (.ret 9 1)))) (.ret 6 1)) (.ret 6 1)) (.ret 6 1)))) (.ret 6 1)) (.ret 6 1)) (.ret 6 1)))) (.ret 6 1)) (.ret 6 1)) (.ret 6 1)) (.ret 6 1)) (.ret 6 1)) (.ret 6 1)) (.ret 6 1)) (.ret 6 1)) (.ret 6 1)) (.ret 6 1)) (.ret 6 1)) (.ret 6 1)) (.ret 6 1)) ⟨aF.enter Tryz.prog 10 ⟨[.agg ⟨[.int .i64 run,.int .i64 scale,.int .i64 follow,.int .i64 bite,.int .i64 wrong,.slice (some ⟨0,0,none⟩) 3 cp,.slice (some ⟨1,0,none⟩) 4 ct]⟩]⟩,[],di 4 (L4 ⟨[.int .i64 l0,.int .i64 u0,.int .i64 l1,.int .i64 u1,.int .i64 l2,.int .i64 u2]⟩ ⟨[.int .i64 f0,.int .i64 a0,.int .i64 b0,.int .i64 f1,.int .i64 a1,.int .i64 b1,.int .i64 f2,.int .i64 a2,.int .i64 b2,.int .i64 f3,.int .i64 a3,.int .i64 b3]⟩ sc kc)⟩=(BR (decide (1≤run)) (BR (decide (run≤99)) (BR (decide (1≤scale)) (BR (decide (scale≤99)) (BR (decide (0≤follow)) (BR (decide (follow≤999)) (BR (decide (1≤bite)) (BR (decide (bite≤99)) (BR (decide (0≤wrong)) (BR (decide (wrong≤2)) (BR (decide (0≤l0)) (BR (decide (l0≤u0)) (BR (decide (u0≤959)) (∀x0,x0=wi (u0 - l0)→BR (decide (x0≥3)) (Q (.int .i64 1)) (BR (decide (0≤l1)) (BR (decide (l1≤u1)) (BR (decide (u1≤959)) (∀x1,x1=wi (u1 - l1)→BR (decide (x1≥3)) (Q (.int .i64 1)) (BR (decide (0≤l2)) (BR (decide (l2≤u2)) (BR (decide (u2≤959)) (∀x2,x2=wi (u2 - l2)→BR (decide (x2≥3)) (Q (.int .i64 1)) (BR (decide (0≤f0)) (BR (decide (f0≤1)) (BR (decide ((-99999)≤a0)) (BR (decide (a0≤b0)) (BR (decide (b0≤99999)) (BR (decide (0≤f1)) (BR (decide (f1≤1)) (BR (decide ((-99999)≤a1)) (BR (decide (a1≤b1)) (BR (decide (b1≤99999)) (BR (decide (0≤f2)) (BR (decide (f2≤1)) (BR (decide ((-99999)≤a2)) (BR (decide (a2≤b2)) (BR (decide (b2≤99999)) (BR (decide (0≤f3)) (BR (decide (f3≤1)) (BR (decide ((-99999)≤a3)) (BR (decide (a3≤b3)) (BR (decide (b3≤99999)) (Q (.int .i64 0)) (Q (.int .i64 1))) (Q (.int .i64 1))) (Q (.int .i64 1))) (Q (.int .i64 6))) (Q (.int .i64 6))) (Q (.int .i64 1))) (Q (.int .i64 1))) (Q (.int .i64 1))) (Q (.int .i64 6))) (Q (.int .i64 6))) (Q (.int .i64 1))) (Q (.int .i64 1))) (Q (.int .i64 1))) (Q (.int .i64 6))) (Q (.int .i64 6))) (Q (.int .i64 1))) (Q (.int .i64 1))) (Q (.int .i64 1))) (Q (.int .i64 6))) (Q (.int .i64 6)))) (Q (.int .i64 1))) (Q (.int .i64 1))) (Q (.int .i64 1)))) (Q (.int .i64 1))) (Q (.int .i64 1))) (Q (.int .i64 1)))) (Q (.int .i64 1))) (Q (.int .i64 1))) (Q (.int .i64 1))) (Q (.int .i64 1))) (Q (.int .i64 1))) (Q (.int .i64 1))) (Q (.int .i64 1))) (Q (.int .i64 1))) (Q (.int .i64 1))) (Q (.int .i64 1))) (Q (.int .i64 1))) (Q (.int .i64 1))) (Q (.int .i64 1))):=by kernel_rfl
theorem Tryz.aeT:bM Tryz.prog (fun v _=>∃x:Int,(x=0→Hd run scale follow bite wrong∧iP [(l0,u0),(l1,u1),(l2,u2)]∧iF 3 [(f0,a0,b0),(f1,a1,b1),(f2,a2,b2),(f3,a3,b3)])∧v = .int .i64 x) ⟨aF.enter Tryz.prog 10 ⟨[.agg ⟨[.int .i64 run,.int .i64 scale,.int .i64 follow,.int .i64 bite,.int .i64 wrong,.slice (some ⟨0,0,none⟩) 3 cp,.slice (some ⟨1,0,none⟩) 4 ct]⟩]⟩,[],di 4 (L4 ⟨[.int .i64 l0,.int .i64 u0,.int .i64 l1,.int .i64 u1,.int .i64 l2,.int .i64 u2]⟩ ⟨[.int .i64 f0,.int .i64 a0,.int .i64 b0,.int .i64 f1,.int .i64 a1,.int .i64 b1,.int .i64 f2,.int .i64 a2,.int .i64 b2,.int .i64 f3,.int .i64 a3,.int .i64 b3]⟩ sc kc)⟩:=by
 refine aQ (Tryz.ok dM) (Tryz.aaI _ _) ?_
 iterate 44 (first|refine BR.mk (fun _=>?_) fun _=>fK (by omega)|refine BR.mk (fun _=>fK (by omega)) fun _=>?_|refine va fun _ _=>?_)
 refine BR.mk (fun _=>?_) fun _=>fK (by omega)
 exact lf0 ⟨by simp only [Hd]<;>omega,by simp only [iP,and_true]<;>omega,by simp only [iF,and_true]<;>omega⟩
end
section
variable{run scale follow bite wrong l0 u0 l1 u1 l2 u2:Int}{tc sc kc:Array Value}{cp nt ct:Nat}{ot:Option Addr}
theorem Tryz.aaJ(Q:Value→Prop)(K:AS→Prop):tx (Tryz.X []) Q K (.br 3 5 9 (.br 0 4 13 (.br 5 5 9 (.br 0 4 13 (.br 5 5 9 (.br 0 4 13 (.br 5 5 9 (.br 0 4 13 (.br 5 5 9 (.br 0 4 13 (.br 18 6 10 (.br 0 6 16 (.br 0 6 22 (.val 3 7 60 (.br 0 1 61 (.ret 3 1) (.br 9 6 10 (.br 0 6 16 (.br 0 6 22 (.val 3 7 60 (.br 0 1 61 (.ret 3 1) (.br 9 6 10 (.br 0 6 16 (.br 0 6 22 (.val 3 7 60 (.br 0 1 61 (.ret 3 1) (.val 6 6 65 (.br 0 1 66 (.ret 3 1) .no)))) (.ret 6 1)) (.ret 6 1)) (.ret 6 1)))) (.ret 6 1)) (.ret 6 1)) (.ret 6 1)))) (.ret 6 1)) (.ret 6 1)) (.ret 6 1)) (.ret 6 1)) (.ret 6 1)) (.ret 6 1)) (.ret 6 1)) (.ret 6 1)) (.ret 6 1)) (.ret 6 1)) (.ret 6 1)) (.ret 6 1)) (.ret 6 1)) ⟨aF.enter Tryz.prog 10 ⟨[.agg ⟨[.int .i64 run,.int .i64 scale,.int .i64 follow,.int .i64 bite,.int .i64 wrong,.slice (some ⟨0,0,none⟩) 3 cp,.slice ot nt ct]⟩]⟩,[],di 4 (L4 ⟨[.int .i64 l0,.int .i64 u0,.int .i64 l1,.int .i64 u1,.int .i64 l2,.int .i64 u2]⟩ tc sc kc)⟩=(BR (decide (1≤run)) (BR (decide (run≤99)) (BR (decide (1≤scale)) (BR (decide (scale≤99)) (BR (decide (0≤follow)) (BR (decide (follow≤999)) (BR (decide (1≤bite)) (BR (decide (bite≤99)) (BR (decide (0≤wrong)) (BR (decide (wrong≤2)) (BR (decide (0≤l0)) (BR (decide (l0≤u0)) (BR (decide (u0≤959)) (∀x0,x0=wi (u0 - l0)→BR (decide (x0≥3)) (Q (.int .i64 1)) (BR (decide (0≤l1)) (BR (decide (l1≤u1)) (BR (decide (u1≤959)) (∀x1,x1=wi (u1 - l1)→BR (decide (x1≥3)) (Q (.int .i64 1)) (BR (decide (0≤l2)) (BR (decide (l2≤u2)) (BR (decide (u2≤959)) (∀x2,x2=wi (u2 - l2)→BR (decide (x2≥3)) (Q (.int .i64 1)) (∀x3,x3=((nt:Nat):Int)→BR (decide (x3 > 4)) (Q (.int .i64 2)) (False))) (Q (.int .i64 1))) (Q (.int .i64 1))) (Q (.int .i64 1)))) (Q (.int .i64 1))) (Q (.int .i64 1))) (Q (.int .i64 1)))) (Q (.int .i64 1))) (Q (.int .i64 1))) (Q (.int .i64 1))) (Q (.int .i64 1))) (Q (.int .i64 1))) (Q (.int .i64 1))) (Q (.int .i64 1))) (Q (.int .i64 1))) (Q (.int .i64 1))) (Q (.int .i64 1))) (Q (.int .i64 1))) (Q (.int .i64 1))) (Q (.int .i64 1))):=by kernel_rfl
theorem Tryz.aeU(hn:5≤nt):bM Tryz.prog (fun v _=>∃x:Int,(x=0→False)∧v = .int .i64 x) ⟨aF.enter Tryz.prog 10 ⟨[.agg ⟨[.int .i64 run,.int .i64 scale,.int .i64 follow,.int .i64 bite,.int .i64 wrong,.slice (some ⟨0,0,none⟩) 3 cp,.slice ot nt ct]⟩]⟩,[],di 4 (L4 ⟨[.int .i64 l0,.int .i64 u0,.int .i64 l1,.int .i64 u1,.int .i64 l2,.int .i64 u2]⟩ tc sc kc)⟩:=by
 refine aQ (Tryz.ok dM) (Tryz.aaJ _ _) ?_
 iterate 25 (first|refine BR.mk (fun _=>?_) fun _=>fK (by omega)|refine BR.mk (fun _=>fK (by omega)) fun _=>?_|refine va fun _ _=>?_)
 intro x3 _
 refine BR.ll ?_
 exact fK (by omega)
end
end Go.Am
