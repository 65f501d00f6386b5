import Derived.Test.YtmgllphkofdnhaaGreatProg
import Derived.KernelRfl
import Derived.Conc.WgLib
import Derived.Test.YtmgllphkofdnhaaGreatH37
set_option linter.unusedVariables false
set_option linter.unusedSectionVars false
set_option linter.unusedSimpArgs false
namespace Go.Am
open Go.Proofs
noncomputable def Tryz.tT:Tr TI:=tabT Tryz.prog Tryz.prog.types.toList 0
noncomputable def Tryz.tF:Tr Func:=tabF Tryz.prog.funcs.toList 0
noncomputable def at_(f:Nat)(p:List Nat):Code:=codeAt (bodyIn Tryz.tF f) p
noncomputable def opsAt(f:Nat)(p:List Nat):Array Oper:=opsIn Tryz.tF f p
abbrev Tryz.link:Go.Conc.Lib.WgLink:={ add:=104,done:=106,wait:=110,relMerge:=126,disable:=127,enable:=128,inBubble:=129,associate:=130,fatal:=131,uOr:=132,uAdd:=133,raceRead:=134,uLoad:=135,uStore:=136,disassociate:=137,semrelease:=138,acquire:=143,isAssociated:=144,uCas:=145,raceWrite:=146,semacquire:=147,orU64:=158,addU64:=159,loadU64:=160,storeU64:=161,casU64:=166,tWgP:=197,tUP:=199,tAssoc:=200,tWg:=182,tAU:=180,tU64:=178,tUint:=187,tU32:=171,tPU32:=204,tPAU:=233,tPU64:=235,tNoCopy:=170,tANoCopy:=176,tAlign64:=177 }
abbrev Tryz.mx:Go.Mx.MxLink:={ mu:={ lock:=108,unlock:=109,ilock:=141,iunlock:=142,lockSlow:=163,unlockSlow:=165,disable:=127,enable:=128,acquire:=143,relMerge:=126,cas32:=162,add32:=164,tMutex:=175,tIMutex:=173,tPMutex:=211,tPIMutex:=238,tPI32:=240,tUP:=199,tNoCopy:=170,tU32:=171 },canSpin:=181,doSpin:=182,throw:=183,nano:=184,semacq:=185,fatal:=186,semrel:=187,tPU32:=204,tUint:=187 }
end Go.Am
namespace Go.Am
theorem forIn_inv{α β:Type}{I:β→Prop}{f:α→β→Option (ForInStep β)}(hf:∀a b r,I b→f a b=some r→I r.value):∀(l:List α) {b c:β},I b→forIn l b f=some c→I c
 | [],b,c,hb,h=>by
  rw [List.forIn_nil] at h
  cases h
  exact hb
 |a :: l,b,c,hb,h=>by
  rw [List.forIn_cons] at h
  simp only [bind,Option.bind_eq_some_iff] at h
  obtain ⟨r,hr,h⟩:=h
  have hi:=hf a b r hb hr
  cases r with
  |done x=>cases h;exact hi
  |yield x=>exact forIn_inv hf l hi h
theorem cells_plain{z:Value}(h:Plain z):∀x∈z.cells,Plain x:=by
 intro x hx
 obtain ⟨h1,h2⟩:=vr_cells h
 obtain ⟨i,hi⟩:=Array.getElem?_of_mem hx
 exact h2 i x x hi hi
theorem step_zero{b:Option (Array Value)}{i:TypeInfo}{n:Nat}(hp:∀z,i.zero=some z→Plain z)(hb:∀a,b=some a→∀x∈a,Plain x):∀a,(if n > Made.mostCells then none else b.bind fun u=>i.zero.bind fun z=>some (u ++ z.cells))=some a→∀x∈a,Plain x:=by
 intro a h x hx
 split at h
 ·cases h
 ·simp only [Option.bind_eq_some_iff] at h
  obtain ⟨u,h1,z,h2,h3⟩:=h
  cases h3
  rcases Array.mem_append.1 hx with k|k
  ·exact hb u h1 x k
  ·exact cells_plain (hp z h2) x k
theorem struct_plain{info:TypeId→Option TypeInfo}{fs:Array Field}{i:TypeInfo}{z:Value}(hp:∀t i z,info t=some i→i.zero=some z→Plain z)(h:Made.reckonStruct info fs=some i)(hz:i.zero=some z):Plain z:=by
 unfold Made.reckonStruct at h
 simp only [bind,Option.bind_eq_some_iff,pure] at h
 obtain ⟨a,hl,h⟩:=h
 have key:∀u,a.2.2.2.2.2.2.2.1=some u→∀x∈u,Plain x:=by
  rw [←Array.forIn_toList] at hl
  refine forIn_inv (I:=fun s=>∀u,s.2.2.2.2.2.2.2.1=some u→∀x∈u,Plain x) (fun f b r hb hr=>?_) _ (fun u hu x hx=>?_) hl
  ·simp only [Option.bind_eq_some_iff] at hr
   obtain ⟨j,hj,hr⟩:=hr
   have hs:=fun n=>step_zero (n:=n) (i:=j) (fun z hz=>hp _ _ _ hj hz) hb
   repeat' first
    | (cases hr;exact hs _)
    | (cases hr;done)
    | (simp only [Option.bind_eq_some_iff] at hr;obtain ⟨_,_,hr⟩:=hr)
    | split at hr
    | (exact absurd hr (by simp))
  ·cases hu
   simp at hx
 have fin:∀ {z:Value},a.2.2.2.2.2.2.2.1.map .agg=some z→Plain z:=fun {z} hz=>by
  rw [Option.map_eq_some_iff] at hz
  obtain ⟨u,h1,rfl⟩:=hz
  exact plain_agg (key u h1)
 split at h<;>(cases h;exact fin hz)
theorem reckon_plain{info:TypeId→Option TypeInfo}{d:TypeDesc}{i:TypeInfo}{z:Value}(hp:∀t i z,info t=some i→i.zero=some z→Plain z)(h:Made.reckon info d=some i)(hz:i.zero=some z):Plain z:=by
 unfold Made.reckon at h
 split at h
 case h_7=>exact struct_plain hp h hz
 case h_6=>
  simp only [bind,Option.bind_eq_some_iff,pure] at h
  obtain ⟨j,hj,s,hs,h⟩:=h
  cases h
  dsimp only at hz
  split at hz
  ·cases hz
  ·split at hz
   ·cases hz
    exact plain_agg fun x hx=>by simp at hx
   ·rw [Option.map_eq_some_iff] at hz
    obtain ⟨u,h1,rfl⟩:=hz
    refine plain_agg fun x hx=>?_
    rw [Array.mem_flatten] at hx
    obtain ⟨xs,h2,h3⟩:=hx
    rw [Array.mem_replicate] at h2
    rw [h2.2] at h3
    exact cells_plain (hp _ _ _ hj h1) x h3
 all_goals try simp only [bind,Option.bind_eq_some_iff,pure] at h
 all_goals repeat' first
  |(obtain ⟨_,_,h⟩:=h)
  |(split at h)
 all_goals first
  |(cases hz;first|exact .nilptr|exact .nilslice _ _|exact .nilmap|exact .nilchan|exact .nilFunc)
  |(cases h;cases hz;first|exact .nilptr|exact .nilslice _ _|exact .nilmap|exact .nilchan|exact .nilFunc)
  |(cases h;done)
  |(exfalso;simp at h;done)
  |(simp only [Option.bind_eq_some_iff] at h;obtain ⟨_,_,h⟩:=h;cases h;cases hz;first|exact .nilptr|exact .nilslice _ _|exact .nilmap|exact .nilchan|exact .nilFunc)
def nilChan:Value→Bool
 | .chan none=>true
 |_=>false
def zeroOk(v:Value):Bool:=plainV 12 v || nilChan v
def zerosB(T:Tables):Bool:=T.types.toList.all fun i=>match i.zero with
 |some z=>zeroOk z
 |none=>true
theorem zeros_at{T:Tables}(h:zerosB T=true):∀(n:Nat) (t:TypeId) (i:TypeInfo) (z:Value),Made.infoAt T n t=some i→i.zero=some z→Plain z
 |0,t,i,z,e,_=>by cases e
 |n+1,t,i,z,e,hz=>by
  unfold Made.infoAt at e
  split at e
  ·unfold zerosB at h
   rw [List.all_eq_true] at h
   have:=h i (get_mem e)
   rw [hz] at this
   have this:zeroOk z=true:=this
   unfold zeroOk at this
   rw [Bool.or_eq_true] at this
   rcases this with k|k
   ·exact plain_of k
   ·unfold nilChan at k
    split at k
    · exact .nilchan
    · cases k
  ·simp only [Option.bind_eq_some_iff] at e
   obtain ⟨d,_,e⟩:=e
   exact reckon_plain (fun t i z h1 h2=>zeros_at h n t i z h1 h2) e hz
theorem zeros_of{P:Program}(h:zerosB P.toTables=true):Zeros P:=⟨fun t i z hi hz ρ=>by
 have hi':P.toTables.info? t=some i:=hi
 unfold Tables.info? at hi'
 split at hi'
 ·rename_i ht
  exact (zeros_at h 1 t i z (by unfold Made.infoAt;rw [if_pos ht];exact hi') hz).vr ρ
 ·exact (zeros_at h _ t i z hi' hz).vr ρ⟩
end Go.Am
namespace Go.Am
open Go.Proofs
theorem Tryz.wgLib:Go.Conc.Lib.WgLib Tryz.prog Tryz.link:=by
 constructor<;>first|kernel_rfl|(intro w;kernel_rfl)|skip
theorem Tryz.mxLib:Go.Mx.MxLib Tryz.prog Tryz.mx:=by
 constructor<;>first|kernel_rfl|(intro w;kernel_rfl)|(constructor<;>first|kernel_rfl|(intro w;kernel_rfl)|skip)|skip
theorem Tryz.waits:Waits Tryz.prog Tryz.link:=⟨Tryz.wgLib,by kernel_rfl,by kernel_rfl,by kernel_rfl⟩
theorem Tryz.tOk:TabOk Tryz.prog Tryz.tT:=tabT_ok
theorem Tryz.fOk:FunOk Tryz.prog Tryz.tF:=tabF_ok
instance Tryz.zeros:Zeros Tryz.prog:=zeros_of (by kernel_rfl)
end Go.Am
