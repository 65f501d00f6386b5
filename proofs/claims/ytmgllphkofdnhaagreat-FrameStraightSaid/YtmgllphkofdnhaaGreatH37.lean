import Derived.Test.YtmgllphkofdnhaaGreatH10
import Derived.Test.YtmgllphkofdnhaaGreatH24
import Derived.Test.YtmgllphkofdnhaaGreatH36
set_option linter.unusedVariables false
set_option linter.unusedSectionVars false
set_option linter.unusedSimpArgs false
namespace Go.Am
open Go.Conc (born QuitsD G scase rcase Good)
open Go.Conc.Lib
open Go.ConcR (WgAt)
open Go.Ren (grow EvO Guar Rely Wk WkD Idle IdleD X0 At Leads Keep full Tm)
section
variable{P:Program}{ρ σ:Env}{F W U Z Z':Nat→Prop}{N:Nat}{h h':AH}{w w' w₀:World}{base:List Frame}{s s' s₀:AS}{pl:Plan}{g g':Goroutine}{L:WgLink}{FinP:Machine→Outcome→World→Trace→Prop}{m:Machine}{t:Trace}{c:AFr}{cs:List AFr}{fid:FuncId}{v:Value}{args:Array Value}
def xCallV(P:Program)(fid:FuncId)(v:Value)(s:AS):Option AS:=match opAt s with
 | some o=>match o.op with
   | .call c=>match c.callee with
    | .value (.func f)=>if f == fid && s.fr.round.isNone && c.args.size == 0 then xFin P s s.h v else none
    |_=>none
   |_=>none
 | none=>none
theorem xCallV_some(h:xCallV P fid v s=some s'):ACallV P fid v s s' :=by
 unfold xCallV at h
 split at h
 · rename_i o ho
   obtain ⟨h1,ops,i,l,k,h2,h3,h4,h5⟩:=opAt_some ho
   split at h
   ·rename_i c hop
    split at h
    ·rename_i f hf
     split at h
     ·rename_i hc
      simp only [Bool.and_eq_true,beq_iff_eq,Option.isNone_iff_eq_none] at hc
      obtain ⟨⟨rfl,hr⟩,ha⟩:=hc
      obtain ⟨a',h6,h7⟩:=xFin_some h
      obtain ⟨callee,as,ats⟩:=c
      dsimp only at hf ha
      subst hf
      have:as = #[]:=Array.eq_empty_of_size_eq_zero ha
      subst this
      exact ⟨h1,hr,ops,i,l,k,o,ats,a',h2,h3,h4,h5,hop,h6,h7⟩
     ·cases h
    ·cases h
   ·cases h
 · cases h
theorem Sd.callO[Zeros P](hp:plainFn P fid=true)(hv:Plain v)(orc:∀ {b:Frame} {bs:List Frame} {F:Nat→Prop} {w₀:World} {m:Machine} {t:Trace},Stand P L (b :: bs) F w₀ .idle ⟨AFr.enter P fid #[],[],h0⟩ m t→Leads P FinP (Back P b bs F w₀ v) m t)(S:Sd P base F w₀ W U Z N ρ s g w m t)(k:ACallV P fid v s s') :
   Leads P FinP (fun m t=>∃(W' U' Z':Nat→Prop) (N':Nat) (σ:Env) (g':Goroutine) (w':World),ρ.Le σ∧Sd P base F w₀ W' U' Z' N' σ s' g' w' m t) m t:=by
 obtain ⟨hrun,hround,ops,i,l,kk,o,ats,a',t1,t2,t3,t4,t5,t6,t7⟩:=k
 refine (S.atop (c:=[]) hrun t1).bind ?_
 rintro m t ⟨σ,lo,f,cs,w',hle,A,hat,hk,hkF,hlt⟩
 obtain ⟨hargs,sr,kr,hfat,hst⟩:=call_step (m:=true) (base:=base) hp A hround t2 t3 t4 t5
 have hargs':(#[]:Array Operand).map f.eval = #[]:=by simp
 rw [hargs'] at hst
 have hwk:Wk P true (fun _=>True) X0 (fun _=>False) (fun O' g' w''=>g' = gor (Frame.enter P fid #[] .normal) (f :: (cs ++ base))∧Rely (full Z w') (fun _=>False) w' w'') (full Z w') (gor f (cs ++ base)) w' :=
   Wk.mk rfl fun w₁ hr _=>⟨_,w₁,#[],hst w₁,.none w₁,.stop ⟨rfl,hr⟩⟩
 refine (Go.Ren.At.wk2 hwk hlt rfl hat).bind ?_
 rintro m t ⟨g₁,w₁,hat₁,⟨rfl,hrely⟩,hk₁⟩
 have hsz:w'.heap.size≤w₁.heap.size:=hrely.size
 have A₁:=A.rely hrely
 have St₁:Stand P L (f :: (cs ++ base)) (fun b=>full Z w' b∨F b) w₁ .idle ⟨AFr.enter P fid #[],[],h0⟩ m t:=by
   refine ⟨W,U,fun b=>b < w₁.heap.size,N,env0,_,w₁,⟨⟨hat₁.drop fun b hb=>Nat.lt_of_lt_of_le (hlt b hb) hsz,sim_enter0 _ _ _ _,fun b hb=>hb⟩,fun b hb=>Nat.lt_of_lt_of_le (hlt b (S.wu b hb)) hsz,fun b hb=>?_,fun b hb=>?_,.refl⟩,trivial⟩
   ·rcases hb with hb|hb
    ·exact Nat.lt_of_lt_of_le hb.1 hsz
    ·exact Nat.lt_of_lt_of_le (hlt b (S.fz b hb)) hsz
   ·rcases hb with hb|hb
    ·exact fun x=>hb.2 (S.wu b x)
    ·exact S.fwu b hb
 refine (orc St₁).mono ?_
 rintro m t ⟨W',U',Z₁,N',w₂,hat₂,hwu,hfz,hfwu,hkeep,hlt₂⟩
 have hsub:∀b,full Z w' b→full (fun b=>Z₁ b∧¬full Z w' b) w₂ b:=fun b hb=>⟨Nat.lt_of_lt_of_le hb.1 (Nat.le_trans hsz hkeep.2.1),fun x=>x.2 hb⟩
 have hrel:Rel σ (full (fun b=>Z₁ b∧¬full Z w' b) w₂) (fun _=>False) s.h w₂:=by
   have r1:Rel σ (full Z w') (fun _=>False) s.h { w₁ with heap:=w₂.heap }:=A₁.rel.rely ⟨hkeep.2.1,fun b hb=>hkeep.1 b (.inl hb),fun b hb=>hb.elim,.rfl,rfl,rfl⟩
   have r2:Rel σ (full Z w') (fun _=>False) s.h w₂:=⟨r1.cells,r1.obj,r1.own,r1.sep,r1.fresh,r1.low,r1.slack,r1.row,r1.mem⟩
   exact r2.mono hsub
 have A₂:AtOp P σ lo s ops i f cs (full (fun b=>Z₁ b∧¬full Z w' b) w₂) (fun _=>False) w₂:=⟨A₁.bound,A₁.fs,A₁.run,A₁.todo,A₁.ops_r,A₁.wanted,A₁.stk,hrel⟩
 subst t7
 refine ⟨W',U',fun b=>Z₁ b∧¬full Z w' b,N',σ,_,w₂,hle,⟨hat₂.alone.drop fun b hb=>⟨hwu b hb,fun hf=>hfwu b (.inl hf) hb⟩,?_,fun b hb=>hlt₂ b hb.1⟩,fun b hb=>⟨hwu b hb,fun hf=>hfwu b (.inl hf) hb⟩,fun b hb=>⟨hfz b (.inr hb),fun hf=>hf.2 (S.fz b hb)⟩,fun b hb=>hfwu b (.inr hb),hkF.trans ?_⟩
 · exact A₂.finish (.refl σ) (fun x _ hx=>hx) (Nat.le_refl _) (hv.vr σ) hrel t6
 · refine ⟨fun b hb=>?_,Nat.le_trans hsz hkeep.2.1,hrely.os.trans hkeep.2.2.1,hkeep.2.2.2.trans hrely.output⟩
   rw [hkeep.1 b (.inr hb)]
   exact hk₁.1 b (S.fz b hb)
theorem Sd.ends{Post:Value→World→Prop}{K:Machine→Trace→Prop}{fd:Func}{h₁:AH}(S:Sd P [] F w₀ W U Z N ρ s g w m t)(hcs:s.cs=[])(hnd:notDrawn s.fr=true)(hret:s.fr.ret=true)(hdf:s.fr.defers=[])(hdk:s.fr.dk=false)(hfd:P.funcs[s.fr.fn]? = some fd)(hx:(results fd s.fr.tmps).ar P none s.h=some (v,h₁))(hin:P.inits.idxOf? s.fr.fn=none)(hv:Plain v)
   (hP:∀w',Keep F w₀ w' → Post v w'):Leads P (Good P Post) K m t:=by
 obtain ⟨⟨lo,f,cs,hlo,rfl,hf,hcs'⟩,rel⟩:=S.st.sim
 rw [hcs] at hcs'
 cases hcs'
 have key:∀d₁,∃v' w' es,stepG P true (gor f ([] ++ [])) (w.at d₁) = .ended (.done v') w' es∧Guar X0 (full Z w) (fun _=>False) (w.at d₁) w' es∧Post v' w' :=fun d₁=>by
   obtain ⟨⟨lo',f',cs'',hlo',hg,hf',hcs''⟩,rel'⟩:=S.st.sim.at d₁
   have hb:f' = f∧cs'' = []:=by
    rw [hcs] at hcs''
    cases hcs''
    exact ⟨by injection hg with e1 _;exact e1.symm,rfl⟩
   obtain ⟨rfl,rfl⟩:=hb
   have hf0:F0 ρ s.fr f' :=hf'.f0 fun ops l k e=>by unfold notDrawn at hnd;rw [e] at hnd;cases hnd
   have hmode0:f'.mode = .returning:=by
    have:=hf0.mode
    rw [hret] at this
    exact this
   have hdef:=hf0.defers
   rw [hdf] at hdef
   have hkind:=hf0.toFB.normal hdk
   have hfn:f'.fn=s.fr.fn:=hf0.fn
   obtain ⟨τ,v',w',es,h1,h2,h3,h4,h5,h8,h9⟩:=out_of (X:=X0) ((sr_results fd hf0.tmps).sim0 rel' hx) f'.fn
   have hvv:=hv.eq h4
   subst hvv
   refine ⟨v',w',seen P f'.fn es,?_,h2,hP w' (S.keep.trans ⟨fun b hb=>?_,h2.size,.of h2.os,h2.output⟩)⟩
   ·obtain ⟨fn,tmps,todo,defers,mode,kind,ro⟩:=f'
    dsimp only at hmode0 hkind hfn hdef h1
    subst hmode0 hkind hfn
    cases hdef
    rw [stepG_ret rfl]
    simp only [unwind,hfd]
    rw [h1]
    simp [doReturn,hin,GStep.after,List.append_nil]
   ·have hlt:=S.st.lt b (S.fz b hb)
    exact h2.heap b hlt fun x=>x.2 (S.fz b hb)
 exact Go.Ren.At.ends rfl S.st.at_ key
end
end Go.Am
namespace Go.Ren
section
variable{P:Program}{O O' D D' A F:Nat→Prop}{w w₁ w₂ w':World}{g g':Goroutine}{X:Event→Prop}{I:World→Prop}{m:Bool}
theorem EvO.lessD{B:Nat}{e:Event}(h:EvO X B O D' e)(hD:∀b,D' b→O b∨D b):EvO X B O D e:=by
 rcases h with h|h
 · exact .inl h
 · right
   revert h
   cases e.loc with
   |cell a=>exact fun h=>h.elim .inl fun x=>(hD _ x.1).imp id fun y=>⟨y,x.2⟩
   |obj r=>exact fun h=>h.elim .inl fun x=>(hD _ x.1).imp id fun y=>⟨y,x.2⟩
   |_=>exact id
theorem Wk.lessD{S:(Nat→Prop)→Goroutine→World→Prop}(h:Wk P m I X D' S O g w):(∀b,D' b→O b∨D b)→Wk P m I X D S O g w:=by
 induction h with
 | stop h=>intro _;exact .stop h
 | @step O g w hs f u es h k ih=>
   intro hD
   have less:∀w₁,Rely O D w w₁→Rely O D' w w₁:=fun w₁ r=>⟨r.size,r.own,fun b hb=>(hD b hb).elim (r.own b) (r.ro b),r.os,r.output,r.tape⟩
   refine .step hs f u es (fun w₁ hr hi=>?_) fun w₁ hr hi=>ih w₁ (less w₁ hr) hi fun b hb=>(hD b hb).imp .inl id
   obtain ⟨h1,h2⟩:=h w₁ (less w₁ hr) hi
   exact ⟨h1,h2.size,h2.heap,h2.os,h2.output,h2.tape,fun e he=>(h2.ev e he).lessD fun b hb=>(hD b hb).imp .inl id⟩
theorem Wk.bnd{S:(Nat→Prop)→Goroutine→World→Prop}(h:Wk P m I X D S O g w):(∀b,O b→b < w.heap.size)→(∀b,D b→b < w.heap.size) →
   Wk P m I X D (fun O' g' w'=>S O' g' w' ∧ (∀b,O' b→b < w'.heap.size)∧(∀b,D b→b < w'.heap.size)∧∀b,O b→O' b) O g w:=by
 induction h with
 | stop h=>intro hO hD;exact .stop ⟨h,hO,hD,fun _=>id⟩
 | @step O g w hs f u es h k ih=>
   intro hO hD
   refine .step hs f u es h fun w₁ hr hi=>?_
   obtain ⟨_,h2⟩:=h w₁ hr hi
   refine (ih w₁ hr hi (fun b hb=>?_) fun b hb=>Nat.lt_of_lt_of_le (hD b hb) (Nat.le_trans hr.size h2.size)).mono fun O' g' w' z=>⟨z.1,z.2.1,z.2.2.1,fun b hb=>z.2.2.2 b (.inl hb)⟩
   rcases hb with hb|hb
   ·exact Nat.lt_of_lt_of_le (hO b hb) (Nat.le_trans hr.size h2.size)
   ·exact hb.2
theorem Wk.apart{S:(Nat→Prop)→Goroutine→World→Prop}(h:Wk P m I X D S O g w):(∀b,A b→b < w.heap.size∧¬O b) →
   Wk P m I X D (fun O' g' w'=>S O' g' w' ∧ ∀b,A b→b < w'.heap.size∧¬O' b) O g w:=by
 induction h with
 | stop h=>intro hA;exact .stop ⟨h,hA⟩
 | @step O g w hs f u es h k ih=>
   intro hA
   refine .step hs f u es h fun w₁ hr hi=>ih w₁ hr hi fun b hb=>?_
   obtain ⟨_,h2⟩:=h w₁ hr hi
   have h3:=h2.size
   have h4:=hr.size
   have h5:=(hA b hb).1
   exact ⟨by omega,fun x=>x.elim (hA b hb).2 fun y=>by omega⟩
theorem Wk.read{S:(Nat→Prop)→Goroutine→World→Prop}(h:Wk P m I X A S O g w)(hA:∀b,A b→b < w.heap.size∧¬O b) :
   Wk P m I X (fun _=>False) (fun O' g' w'=>∃O₁,S O₁ g' w' ∧ (O' = fun b=>O₁ b∨A b)∧(∀b,A b→¬O₁ b)∧Rely A A w w') (fun b=>O b∨A b) g w:=by
 refine (((h.apart hA).frame hA hA).lessD (D:=fun _=>False) fun b hb=>.inl (.inr hb)).mono ?_
 rintro O' g' w' ⟨O₁,⟨h1,h2⟩,rfl,h3⟩
 exact ⟨O₁,h1,rfl,fun b hb=>(h2 b hb).2,h3⟩
end
end Go.Ren
namespace Go.Am
open Go.Ren (grow EvO Guar Rely Wk X0)
section
variable{P:Program}{ρ σ τ:Env}{O O' D D':Nat→Prop}{h h' hA:AH}{w w':World}{base:List Frame}{pl:Plan}{s s':AS}{K L:AS→Prop}{Q R:Value→AH→Prop}{c:AFr}{cs:List AFr}{f:FuncId}{args:Array Value}{g:Goroutine}
structure Runs(P:Program)(K:AS→Prop)(s:AS):Prop where
 go:∀ {ρ:Env} {O D:Nat→Prop} {base:List Frame} {g:Goroutine} {w:World},(∀b,O b→b < w.heap.size)→(∀b,D b→b < w.heap.size)→Sim P ρ O D base s g w →
 Wk P true (fun _=>True) X0 D (fun O' g' w'=>∃(σ:Env) (s':AS),K s' ∧ ρ.Le σ∧Sim P σ O' D base s' g' w') O g w
structure Rets(P:Program)(Q:Value→AH→Prop)(s:AS):Prop where
 go:∀ {ρ:Env} {O D:Nat→Prop} {b:Frame} {bs:List Frame} {g:Goroutine} {w:World},(∀b,O b→b < w.heap.size)→(∀b,D b→b < w.heap.size)→Sim P ρ O D (b :: bs) s g w →
 Wk P true (fun _=>True) X0 D (fun O' g' w'=>∃(σ:Env) (v:Value) (h:AH) (v':Value),Q v h∧ρ.Le σ∧VR σ v v' ∧ g' = gor (b.finish v') bs∧Rel σ O' D h w') O g w
theorem AReach.runs[Zeros P](k:AReach P pl K s):Runs P K s:=⟨fun _ _ S=>areach_wk k S⟩
theorem AAll.rets[Zeros P](k:AAll P pl Q s):Rets P Q s:=⟨fun _ _ S=>aall_wk k S⟩
theorem Runs.here(h:K s):Runs P K s:=⟨fun _ _ S=>.stop ⟨_,_,h,.refl _,S⟩⟩
theorem Runs.bind(k:Runs P K s)(l:∀s,K s→Runs P L s):Runs P L s:=by
 refine ⟨fun hO hD S=>?_⟩
 refine ((k.go hO hD S).bnd hO hD).bind ?_
 rintro O₁ g₁ w₁ ⟨⟨σ,s₁,h1,h2,h3⟩,h4,h5,_⟩
 refine ((l s₁ h1).go h4 h5 h3).mono ?_
 rintro O₂ g₂ w₂ ⟨τ,s₂,k1,k2,k3⟩
 exact ⟨τ,s₂,k1,h2.trans k2,k3⟩
theorem Runs.mono(k:Runs P K s)(l:∀s,K s→L s):Runs P L s:=k.bind fun s h=>Runs.here (l s h)
theorem Runs.rets(k:Runs P K s)(l:∀s,K s→Rets P Q s):Rets P Q s:=by
 refine ⟨fun hO hD S=>?_⟩
 refine ((k.go hO hD S).bnd hO hD).bind ?_
 rintro O₁ g₁ w₁ ⟨⟨σ,s₁,h1,h2,h3⟩,h4,h5,_⟩
 refine ((l s₁ h1).go h4 h5 h3).mono ?_
 rintro O₂ g₂ w₂ ⟨τ,v,h,v',k1,k2,k3⟩
 exact ⟨τ,v,h,v',k1,h2.trans k2,k3⟩
theorem Rets.mono(k:Rets P Q s)(l:∀v h,Q v h→R v h):Rets P R s:=by
 refine ⟨fun hO hD S=>?_⟩
 refine (k.go hO hD S).mono ?_
 rintro O₂ g₂ w₂ ⟨τ,v,h,v',k1,k2⟩
 exact ⟨τ,v,h,v',l v h k1,k2⟩
end
end Go.Am
namespace Go.Am
open Go.Ren (grow EvO Guar Rely Wk X0)
def OkF(p:Nat→Prop):Fn→Prop
 | .yield l=>p l
 | _=>True
inductive OkV(p:Nat→Prop):Value→Prop
 | bool (b:Bool):OkV p (.bool b)
 | int (k:IntKind) (n:Int):OkV p (.int k n)
 | string (s:ByteArray):OkV p (.string s)
 | nilptr:OkV p (.pointer none)
 | ptr {a:Addr} (h:p a.block):OkV p (.pointer (some a))
 | nilslice (n c:Nat):OkV p (.slice none n c)
 | slice {a:Addr} {n c:Nat} (h:p a.block):OkV p (.slice (some a) n c)
 | nilmap:OkV p (.map none)
 | map {r:Nat} (h:p r):OkV p (.map (some r))
 | nilchan:OkV p (.chan none)
 | chan {r:Nat} (h:p r):OkV p (.chan (some r))
 | nilFunc:OkV p .nilFunc
 | func {f:Fn} {a b:Array Value} (hf:OkF p f) (h:∀x∈a,OkV p x) (k:∀x∈b,OkV p x):OkV p (.func f a b)
 | nilIface:OkV p .nilIface
 | iface {t:TypeId} {v:Value} (h:OkV p v):OkV p (.iface t v)
 | agg {a:Array Value} (h:∀x∈a,OkV p x):OkV p (.agg a)
 | tuple {a:Array Value} (h:∀x∈a,OkV p x):OkV p (.tuple a)
theorem related_of_mem{ρ:Env}{a a':Array Value}(hs:a.size=a'.size){x:Value}(hx:x∈a):∃(i:Nat) (y:Value),a[i]? = some x∧a'[i]? = some y:=by
 obtain ⟨i,hi,rfl⟩:=Array.mem_iff_getElem.1 hx
 exact ⟨i,a'[i]'(hs ▸ hi),by simp [hi],by simp [hs ▸ hi]⟩
theorem VR.ok{ρ:Env}{q:Nat→Prop}{v v':Value}(k:VR ρ v v'):OkV q v→OkV (fun b=>ρ.born b∧q b) v:=by
 induction k with
 | bool b=>intro _;exact .bool b
 | int k n=>intro _;exact .int k n
 | string s=>intro _;exact .string s
 | nilptr=>intro _;exact .nilptr
 | ptr h=>intro k;cases k with|ptr k=>exact .ptr ⟨h,k⟩
 | nilslice n c=>intro _;exact .nilslice n c
 | slice h _=>intro k;cases k with|slice k=>exact .slice ⟨h,k⟩
 | nilmap=>intro _;exact .nilmap
 | map h=>intro k;cases k with|map k=>exact .map ⟨h.1,k⟩
 | nilchan=>intro _;exact .nilchan
 | chan h=>intro k;cases k with|chan k=>exact .chan ⟨h.1,k⟩
 | nilFunc=>intro _;exact .nilFunc
 | @func f f' a a' b b' hf hs _ ks _ ih ik=>
   intro k
   cases k with
   |func k1 k2 k3=>
    refine .func ?_ (fun x hx=>?_) fun x hx=>?_
    ·cases hf with
     |yield h=>exact ⟨h.1,k1⟩
     |_=>trivial
    ·obtain ⟨i,y,h1,h2⟩:=related_of_mem (ρ:=ρ) hs hx
     exact ih i x y h1 h2 (k2 x hx)
    ·obtain ⟨i,y,h1,h2⟩:=related_of_mem (ρ:=ρ) ks hx
     exact ik i x y h1 h2 (k3 x hx)
 | nilIface=>intro _;exact .nilIface
 | iface _ ih=>intro k;cases k with|iface k=>exact .iface (ih k)
 | agg hs _ ih=>
   intro k
   cases k with
   |agg k=>
    refine .agg fun x hx=>?_
    obtain ⟨i,y,h1,h2⟩:=related_of_mem (ρ:=ρ) hs hx
    exact ih i x y h1 h2 (k x hx)
 | tuple hs _ ih=>
   intro k
   cases k with
   |tuple k=>
    refine .tuple fun x hx=>?_
    obtain ⟨i,y,h1,h2⟩:=related_of_mem (ρ:=ρ) hs hx
    exact ih i x y h1 h2 (k x hx)
structure Env.Ag(ρ τ:Env)(b:Nat):Prop where
 born:τ.born b
 to:τ.to b=ρ.to b
 slack:ρ.slack b→τ.slack b
 u:τ.u b=ρ.u b
 ext:τ.ext b=ρ.ext b
theorem VR.carry{ρ τ:Env}{p:Nat→Prop}{v v':Value}(k:VR ρ v v')(hp:∀b,p b→ρ.born b→ρ.Ag τ b):OkV p v→VR τ v v' :=by
 have had:∀a:Addr,ρ.Ag τ a.block→τ.addr a=ρ.addr a:=fun a h=>by unfold Env.addr;rw [h.to]
 have hob:∀r r',p r→ρ.ob r r' → τ.ob r r' :=fun r r' h k=>⟨(hp r h k.1).born,(hp r h k.1).to.trans k.2⟩
 induction k with
 | bool b=>intro _;exact .bool b
 | int k n=>intro _;exact .int k n
 | string s=>intro _;exact .string s
 | nilptr=>intro _;exact .nilptr
 | ptr h=>intro k;cases k with|ptr k=>rw [←had _ (hp _ k h)];exact .ptr (hp _ k h).born
 | nilslice n c=>intro _;exact .nilslice n c
 | slice h hc=>
   intro k
   cases k with
   |slice k=>
    have e:=hp _ k h
    rw [←had _ e]
    refine .slice e.born (hc.imp id fun ⟨x,y,z⟩=>⟨e.slack x,y,?_⟩)
    rw [e.u,e.ext];exact z
 | nilmap=>intro _;exact .nilmap
 | map h=>intro k;cases k with|map k=>exact .map (hob _ _ k h)
 | nilchan=>intro _;exact .nilchan
 | chan h=>intro k;cases k with|chan k=>exact .chan (hob _ _ k h)
 | nilFunc=>intro _;exact .nilFunc
 | @func f f' a a' b b' hf hs _ ks _ ih ik=>
   intro k
   cases k with
   |func k1 k2 k3=>
    refine .func ?_ hs (fun i x y hx hy=>ih i x y hx hy (k2 x (Array.mem_of_getElem? hx))) ks fun i x y hx hy=>ik i x y hx hy (k3 x (Array.mem_of_getElem? hx))
    cases hf with
    |yield h=>exact .yield (hob _ _ k1 h)
    |func f=>exact .func f
    |method n=>exact .method n
    |methodOf t n=>exact .methodOf t n
    |via t p f x=>exact .via t p f x
 | nilIface=>intro _;exact .nilIface
 | iface _ ih=>intro k;cases k with|iface k=>exact .iface (ih k)
 | agg hs _ ih=>intro k;cases k with|agg k=>exact .agg hs fun i x y hx hy=>ih i x y hx hy (k x (Array.mem_of_getElem? hx))
 | tuple hs _ ih=>intro k;cases k with|tuple k=>exact .tuple hs fun i x y hx hy=>ih i x y hx hy (k x (Array.mem_of_getElem? hx))
def Env.cut(ρ:Env)(n:Nat):Env:={ ρ with born:=fun b=>ρ.born b∧b < n }
structure AH.Sub(hA h:AH):Prop where
 look:∀b B,hA.look b=some B→∃B₀,h.look b=some B₀∧B.obj=B₀.obj∧B.fam=B₀.fam∧B.u=B₀.u∧B.ro=true
 cells:∀b B,hA.look b=some B→∃c e f,B.obj = .cells c e f∧∀x∈c,OkV (· < hA.n) x
 tr:∀b B,hA.tr.get b=some B→∃B₀,h.tr.get b=some B₀∧B.obj=B₀.obj
 fams:∀f l,hA.fams.get f=some l→∃l',h.fams.get f=some l' ∧ l.Sublist l'
 mem:∀f l b,hA.fams.get f=some l→b∈l→b < hA.n∧∃B,hA.tr.get b=some B∧B.fam=some f
section
variable{P:Program}{ρ σ τ:Env}{O O' D D':Nat→Prop}{h h' hA:AH}{w w':World}{base:List Frame}{pl:Plan}{s s':AS}{K L:AS→Prop}{Q R:Value→AH→Prop}{c:AFr}{cs:List AFr}{f:FuncId}{args:Array Value}{g:Goroutine}
theorem Env.cut_ag{n b:Nat}(hb:b < n)(k:ρ.born b):ρ.Ag (ρ.cut n) b:=⟨⟨k,hb⟩,rfl,id,rfl,rfl⟩
theorem Rel.view(r:Rel ρ O D h w)(k:hA.Sub h):Rel (ρ.cut hA.n) (fun _=>False) (fun b=>O b∨D b) hA w:=by
 have up:∀b n,hA.upTo (ρ.cut hA.n) b n→h.upTo ρ b n:=by
   rintro b n ⟨B',c,e,f,h1,h2,h3⟩
   obtain ⟨B,k1,k2⟩:=k.tr b B' h1
   exact ⟨B,c,e,f,k1,k2 ▸ h2,h3⟩
 refine ⟨fun b B c e f hb hk ho=>?_,fun b B hb hk ho=>?_,fun b B hb hk=>?_,fun b b' B B' hb hb' hk hk' hne hs=>?_,fun b hb=>hb.2,fun b hb=>r.low b hb.1,fun b B hb hk=>?_,fun f l hfl=>?_,fun f l hfl b hb=>k.mem f l b hfl hb⟩
 · obtain ⟨B₀,k1,k2,k7,k8,k9⟩:=k.look b B hk
   obtain ⟨c',e',f',k3,k4⟩:=k.cells b B hk
   rw [ho] at k3
   cases k3
   obtain ⟨C,E,g,c1,c2,c3,c4,c5⟩:=r.cells b B₀ c e f hb.1 k1 (k2 ▸ ho)
   refine ⟨C,E,g,c1,c2,c3,fun hn=>c4 fun hp=>hn ⟨k7.trans hp.1,k9,k8.trans hp.2.2⟩,fun i v hv=>?_⟩
   obtain ⟨v',p1,p2⟩:=c5 i v hv
   exact ⟨v',p1,p2.carry (fun b hb hb'=>Env.cut_ag hb hb') (k4 v (Array.mem_of_getElem? hv))⟩
 · obtain ⟨c',e',f',k3,_⟩:=k.cells b B hk
   exact absurd k3 (ho _ _ _)
 · obtain ⟨B₀,k1,_,_,_,k5⟩:=k.look b B hk
   exact ⟨fun z=>absurd (k5.symm.trans z) (by decide),.inr (r.own b B₀ hb.1 k1).2⟩
 · obtain ⟨B₀,k1,_,k3,k4,k5⟩:=k.look b B hk
   obtain ⟨B₁,j1,_,j3,j4,j5⟩:=k.look b' B' hk'
   rcases r.sep b b' B₀ B₁ hb.1 hb'.1 k1 j1 hne hs with ⟨f,g1,g2⟩|⟨⟨g1,_,g3⟩,i1,_,i3⟩
   ·exact .inl ⟨f,k3.trans g1,j3.trans g2⟩
   ·exact .inr ⟨⟨k3.trans g1,k5,k4.trans g3⟩,j3.trans i1,j5,j4.trans i3⟩
 · obtain ⟨B₀,k1,_,k3,k4,_⟩:=k.look b B hk
   obtain ⟨s1,s2⟩:=r.slack b B₀ hb.1 k1
   exact ⟨s1.trans (by rw [k3]),fun z=>(s2 (k3 ▸ z)).trans k4.symm⟩
 · obtain ⟨l',g1,g2⟩:=k.fams f l hfl
   exact ((r.row f l' g1).sublist g2).imp fun hp b1 b2 hs n n' u1 u2=>hp b1.1 b2.1 hs n n' (up _ _ u1) (up _ _ u2)
theorem Runs.call[Zeros P](k:Rets P Q ⟨AFr.enter P f args,[],hA⟩)(hs:hA.Sub h)(ha:∀x∈args,OkV (· < hA.n) x)(hq:∀p:Nat→Prop,(∀x∈args,OkV p x)→∀v h',Q v h' → OkV p v)(hfin:∀v h',Q v h' → ∃a',afinish P c h v=some a') :
   Runs P (fun s'=>∃v h' a',Q v h' ∧ afinish P c h v=some a' ∧ s' = ⟨a',cs,h⟩) ⟨AFr.enter P f args,c :: cs,h⟩:=by
 refine ⟨?_⟩
 intro ρ O D base g w hO hD S
 obtain ⟨⟨lo,fr,cs',hlo,rfl,hf,hcs⟩,rel⟩:=S
 cases hcs with
 | @cons lo' _ _ fc _ fcs hlo' hfc hfcs=>
   have hf0:F0 ρ (AFr.enter P f args) fr:=by
    cases hf with
    |plain hf=>exact hf
    |ahead kk _=>
     obtain ⟨k1,k2,t1,_⟩:=kk.todo
     cases t1
   have eT:(AFr.enter P f args).tmps=args ++ Array.replicate (((P.funcs[f]?).map (·.ntmps)).getD 0 - args.size) undef:=rfl
   have S0:Sim P (ρ.cut hA.n) (fun _=>False) (fun b=>O b∨D b) (fc :: (fcs ++ base)) ⟨AFr.enter P f args,[],hA⟩ (gor fr ([] ++ fc :: (fcs ++ base))) w:=by
    refine ⟨⟨0,fr,[],Nat.zero_le _,rfl,.plain ?_,.nil⟩,rel.view hs⟩
    refine ⟨⟨hf0.fn,?_,hf0.mode,hf0.kind,?_⟩,?_,?_⟩
    ·have:=hf0.defers
     generalize fr.defers=d at this
     cases this
     exact .nil
    ·have:=hf0.round
     generalize fr.roundOf=r at this
     cases this
     exact .none
    ·refine ⟨hf0.tmps.1,fun i x y hx hy=>?_⟩
     have hxy:=hf0.tmps.2 i x y hx hy
     rw [eT] at hx
     by_cases hi:i < args.size
     ·rw [Array.getElem?_append_left hi] at hx
      exact hxy.carry (fun b hb hb'=>Env.cut_ag hb hb') (ha x (Array.mem_of_getElem? hx))
     ·rw [Array.getElem?_append_right (by omega),Array.getElem?_replicate] at hx
      split at hx
      ·cases hx
       exact hxy.carry (p:=fun _=>False) (fun b hb _=>hb.elim) (.tuple fun x hx=>by simp [undef] at hx)
      ·cases hx
    ·have:=hf0.todo
     generalize fr.todo=d at this
     cases this with
     |cons hi hl=>
      cases hl
      cases hi
      exact .cons (.code _) .nil
   have hargs:∀x∈args,OkV (fun b=>ρ.born b∧b < hA.n) x:=fun x hx=>by
    obtain ⟨i,hi,rfl⟩:=Array.mem_iff_getElem.1 hx
    have h1:(AFr.enter P f args).tmps[i]? = some args[i]:=by rw [eT,Array.getElem?_append_left hi];simp [hi]
    have h2:i < fr.tmps.size:=by rw [←hf0.tmps.1];exact (Array.getElem?_eq_some_iff.1 h1).1
    exact (hf0.tmps.2 i _ _ h1 (Array.getElem?_eq_getElem h2)).ok (ha _ hx)
   have W:=((k.go (fun b hb=>hb.elim) (fun b hb=>hb.elim (hO b) (hD b)) S0).frame (F:=O) (fun b hb=>⟨hO b hb,id⟩) (fun b hb=>⟨hb.elim (hO b) (hD b),id⟩)).lessD (D:=D) fun b hb=>hb.imp .inr id
   have e1:(fun b=>False∨O b)=O:=by funext b;simp
   rw [e1] at W
   refine W.mono fun O' g' w' hz=>?_
   obtain ⟨O₁,⟨τ,v,h₁,v',q1,q2,q3,q4,q5⟩,rfl,hrely⟩:=hz
   obtain ⟨a',ha'⟩:=hfin v h₁ q1
   have hv:VR ρ v v' :=q3.carry (fun b hb hb'=>⟨hb.1,(q2.to b hb).symm,(q2.slack b hb).1,(q2.u b hb).symm,(q2.ext b hb).symm⟩) (hq _ hargs v h₁ q1)
   have hrely':Rely O D w w' :=⟨hrely.size,hrely.own,fun b hb=>hrely.ro b (.inr hb),hrely.os,hrely.output,hrely.tape⟩
   exact ⟨ρ,_,⟨v,h₁,a',q1,ha',rfl⟩,.refl ρ,⟨lo',_,fcs,Nat.le_trans hlo' hlo,q4,finish_S hfc hlo hv ha',hfcs⟩,(rel.rely hrely').mono fun b hb=>.inr hb⟩
end
end Go.Am
namespace Go.Am
open Go.Conc (born QuitsD G scase rcase Good)
open Go.Conc.Lib
open Go.ConcR (WgAt)
open Go.Ren (grow EvO Guar Rely Wk X0 At Leads Keep full Tm)
structure Sr(P:Program)(base:List Frame)(F:Nat→Prop)(w₀:World)(W U Z:Nat→Prop)(N:Nat)(ρ:Env)(s:AS)(g:Goroutine)(w:World)(m:Machine)(t:Trace):Prop where
 at_:At P W U (fun b=>Z b∧¬F b) N 0 g w m t
 sim:Sim P ρ (full Z w) F base s g w
 lt:∀b,Z b→b < w.heap.size
 wu:∀b,W b∨U b→Z b
 fz:∀b,F b→Z b
 fwu:∀b,F b→¬(W b∨U b)
 keep:Keep F w₀ w
section
variable{P:Program}{ρ σ τ:Env}{O O' D D' F W U Z:Nat→Prop}{N:Nat}{h h' hA:AH}{w w' w₀:World}{base:List Frame}{pl:Plan}{s s':AS}{K L:AS→Prop}{Q R:Value→AH→Prop}{c:AFr}{cs:List AFr}{f:FuncId}{args:Array Value}{g:Goroutine}{m:Machine}{t:Trace}{FinP:Machine→Outcome→World→Trace→Prop}
theorem Sr.runs(k:Runs P K s)(S:Sr P base F w₀ W U Z N ρ s g w m t) :
   Leads P FinP (fun m t=>∃(σ:Env) (s':AS) (g':Goroutine) (w':World),K s' ∧ ρ.Le σ∧Sr P base F w₀ W U Z N σ s' g' w' m t) m t:=by
 have hF:∀b,F b→b < w.heap.size∧¬full Z w b:=fun b hb=>⟨S.lt b (S.fz b hb),fun x=>x.2 (S.fz b hb)⟩
 have e:(fun b=>full Z w b∨F b)=full (fun b=>Z b∧¬F b) w:=by
   funext b
   apply propext
   constructor
   ·rintro (hb|hb)
    ·exact ⟨hb.1,fun x=>hb.2 x.1⟩
    ·exact ⟨(hF b hb).1,fun x=>x.2 hb⟩
   ·rintro ⟨h1,h2⟩
    by_cases hb:F b
    ·exact .inr hb
    ·exact .inl ⟨h1,fun x=>h2 ⟨x,hb⟩⟩
 have hlt0:∀b,(Z b∧¬F b)→b < w.heap.size:=fun b hb=>S.lt b hb.1
 refine (Go.Ren.At.wk2 ((k.go (fun b hb=>hb.1) (fun b hb=>(hF b hb).1) S.sim).read hF) hlt0 e S.at_).mono ?_
 rintro m t ⟨g',w',hat,⟨O₁,⟨σ,s',h1,h2,h3⟩,h4,h5,h6⟩,hk⟩
 have hlt':∀b,Z b→b < w'.heap.size:=fun b hb=>Nat.lt_of_lt_of_le (S.lt b hb) h6.size
 have e1:O₁=full Z w' :=by
   funext b
   apply propext
   have hb:=congrFun h4 b
   constructor
   ·intro ho
    have:full (fun b=>Z b∧¬F b) w' b:=by rw [hb];exact .inl ho
    exact ⟨this.1,fun x=>this.2 ⟨x,fun y=>h5 b y ho⟩⟩
   ·rintro ⟨x1,x2⟩
    have:full (fun b=>Z b∧¬F b) w' b:=⟨x1,fun y=>x2 y.1⟩
    rw [hb] at this
    exact this.resolve_right fun y=>x2 (S.fz b y)
 subst e1
 exact ⟨σ,s',g',w',h1,h2,hat,h3,hlt',S.wu,S.fz,S.fwu,S.keep.trans ⟨h6.own,h6.size,h6.os,h6.output⟩⟩
theorem Sr.sd(S:Sr P base F w₀ W U Z N ρ s g w m t)(hd:notDrawn s.fr=true):Sd P base F w₀ W U Z N ρ ⟨s.fr,s.cs,⟨s.h.n,.nil,.nil⟩⟩ g w m t:=by
 have S' :=S.sim.forget [] hd
 have e:s.h.forget []=⟨s.h.n,.nil,.nil⟩:=rfl
 rw [e] at S'
 have nl:∀b B,(⟨s.h.n,.nil,.nil⟩:AH).look b=some B→False:=fun b B h=>by cases h
 refine ⟨⟨S.at_.drop fun b hb=>hb.1,⟨S'.run,?_⟩,S.lt⟩,S.wu,S.fz,S.fwu,S.keep⟩
 have r:=S'.rel
 exact ⟨fun b B _ _ _ _ hl=>(nl b B hl).elim,fun b B _ hl=>(nl b B hl).elim,fun b B _ hl=>(nl b B hl).elim,fun b _ B _ _ _ hl=>(nl b B hl).elim,r.fresh,r.low,fun b B _ hl=>(nl b B hl).elim,fun f l hf=>(by cases hf),fun f l hf=>(by cases hf)⟩
def envP(to:Nat→Nat×Nat)(hA:AH):Env:={ to:=to,born:=fun b=>b < hA.n,slack:=fun _=>False,u:=fun _=>0,ext:=fun b=>match hA.look b with|some B=>sizeO B.obj|none=>0 }
theorem rel_pins{W:World}{to:Nat→Nat×Nat}(hl:∀b B,hA.look b=some B→B.Pin∧∃c e f C E,B.obj = .cells c e f∧(∃g,W.heap[(to b).1]? = some (.cells C E g))∧(to b).2+c.size≤C.size∧∀(i:Nat) v,c[i]? = some v→C[(to b).2+i]? = some v∧Plain v)
   (hf:hA.fams = .nil) (hlow:∀b,b < hA.n→(to b).1 < W.heap.size):Rel (envP to hA) (fun _=>False) (fun b=>b < W.heap.size) hA W:=by
 refine ⟨fun b B c e f hb hk ho=>?_,fun b B hb hk ho=>?_,fun b B hb hk=>?_,fun b b' B B' hb hb' hk hk' hne hs=>?_,fun b hb=>hb,fun b hb=>hlow b hb,fun b B hb hk=>?_,fun f l hfl=>?_,fun f l hfl b hb=>?_⟩
 · obtain ⟨hp,c',e',f',C,E,h1,⟨g,h2⟩,h3,h4⟩:=hl b B hk
   rw [ho] at h1
   cases h1
   have hext:(envP to hA).ext b=c.size:=by
    show (match hA.look b with|some B=>sizeO B.obj|none=>0)=c.size
    rw [hk]
    show sizeO B.obj=c.size
    rw [ho]
    rfl
   refine ⟨C,E,g,h2,by rw [hext];exact h3,Nat.le_of_eq hext.symm,fun hn=>absurd hp hn,fun i v hv=>?_⟩
   obtain ⟨k1,k2⟩:=h4 i v hv
   exact ⟨v,k1,k2.vr _⟩
 · obtain ⟨_,c',e',f',C,E,h1,_⟩:=hl b B hk
   exact absurd h1 (ho _ _ _)
 · exact ⟨fun z=>absurd ((hl b B hk).1.2.1.symm.trans z) (by decide),.inr (hlow b hb)⟩
 · exact .inr ⟨(hl b B hk).1,(hl b' B' hk').1⟩
 · obtain ⟨⟨h1,_⟩,_⟩:=hl b B hk
   exact ⟨⟨fun z=>z.elim,fun z=>z h1⟩,fun z=>absurd h1 z⟩
 · rw [hf] at hfl;cases hfl
 · rw [hf] at hfl;cases hfl
theorem Sr.start{W:World}{f:FuncId}{args':Array Value}(hr:Rel ρ (fun _=>False) (fun b=>b < W.heap.size) hA W)(ha:AR (VR ρ) args args') :
   Sr P [] (fun b=>b < W.heap.size) W (fun _=>False) (fun _=>False) (fun b=>b < W.heap.size) 1 ρ ⟨AFr.enter P f args,[],hA⟩ (gor (Frame.enter P f args' .normal) []) W (Go.Conc.solo (G (Frame.enter P f args' .normal) []) W) #[]:=
 ⟨(Go.Ren.at_start _ W).drop fun b hb=>hb.elim,⟨⟨0,_,[],Nat.zero_le _,rfl,.plain (enter_r f ha),.nil⟩,hr.mono fun b hb=>hb.elim⟩,fun b hb=>hb,fun b hb=>(hb.elim id id:False).elim,fun b hb=>hb,fun b _ hb=>(hb.elim id id:False),.refl⟩
end
end Go.Am
namespace Go.Am
theorem wr_id{x:Int}(h1 : -9223372036854775808≤x)(h2:x≤9223372036854775807):IntKind.i64.wrap x=x:=by
 simp [IntKind.wrap,IntKind.min,IntKind.max,IntKind.signed,IntKind.bits]<;>(try split)<;>omega
theorem mx_if(a b:Int):(if b > a then b else a)=max a b:=by rw [Int.max_def];split<;>split<;>omega
theorem mn_if(a b:Int):(if b < a then b else a)=min a b:=by rw [Int.min_def];split<;>split<;>omega
end Go.Am
namespace Go.Am
theorem VR.okV{ρ:Env}{q:Nat→Prop}{v v':Value}(k:VR ρ v v')(hp:∀b,ρ.born b→q b):OkV q v:=by
 induction k with
 | bool b=>exact .bool b
 | int k n=>exact .int k n
 | string s=>exact .string s
 | nilptr=>exact .nilptr
 | ptr h=>exact .ptr (hp _ h)
 | nilslice n c=>exact .nilslice n c
 | slice h _=>exact .slice (hp _ h)
 | nilmap=>exact .nilmap
 | map h=>exact .map (hp _ h.1)
 | nilchan=>exact .nilchan
 | chan h=>exact .chan (hp _ h.1)
 | nilFunc=>exact .nilFunc
 | @func f f' a a' b b' hf hs _ ks _ ih ik=>
   refine .func ?_ (fun x hx=>?_) fun x hx=>?_
   ·cases hf with
    |yield h=>exact hp _ h.1
    |_=>trivial
   ·obtain ⟨i,y,h1,h2⟩:=related_of_mem (ρ:=ρ) hs hx
    exact ih i x y h1 h2
   ·obtain ⟨i,y,h1,h2⟩:=related_of_mem (ρ:=ρ) ks hx
    exact ik i x y h1 h2
 | nilIface=>exact .nilIface
 | iface _ ih=>exact .iface ih
 | agg hs _ ih=>
   refine .agg fun x hx=>?_
   obtain ⟨i,y,h1,h2⟩:=related_of_mem (ρ:=ρ) hs hx
   exact ih i x y h1 h2
 | tuple hs _ ih=>
   refine .tuple fun x hx=>?_
   obtain ⟨i,y,h1,h2⟩:=related_of_mem (ρ:=ρ) hs hx
   exact ih i x y h1 h2
theorem Plain.okV{p:Nat→Prop}{v:Value}(h:Plain v):OkV p v:=VR.okV (ρ:=env0) h fun b hb=>hb.elim
section
variable{P:Program}{Q:Value→AH→Prop}{R:Value→Prop}{c:AFr}{cs:List AFr}{f:FuncId}{args:Array Value}{h hA:AH}{nA:Nat}
theorem trL_get:∀(l:List (Nat×Blk)) {b:Nat} {B:Blk},(trL l).get b=some B→(b,B)∈l
 | [],b,B,e=>by cases e
 | (c,C) :: l,b,B,e=>by
   unfold trL at e
   rw [Tr.get_set] at e
   split at e
   ·rename_i hb;subst hb;cases e;exact .head _
   ·exact .tail _ (trL_get l e)
end
end Go.Am
namespace Go.Am
def effects(ops:Array Oper):List Nat:=(List.range ops.size).filter fun i=>kindAt ops i == .effect
def lastEff(ops:Array Oper)(t:List Nat)(i:Nat):Option Nat:=((effects ops).filter fun e=>Nat.testBit (maskAt t ops.size i) e).getLast?
def asap(ops:Array Oper)(t:List Nat):List Nat:=
 let ls:=(List.range ops.size).filter fun i=>kindAt ops i != .effect
 (ls.filter fun i=>lastEff ops t i == none) ++ (effects ops).flatMap fun e=>e :: (ls.filter fun i=>lastEff ops t i == some e)
def again(ops:Array Oper)(t:List Nat)(i:Nat)(rest:List Nat):List Nat:=
 if kindAt ops i == .light then [] else
   let es:=(effects ops).filter fun e=> !rest.contains e
   (List.range ops.size).filter fun j=> !rest.contains j && kindAt ops j != .effect && !es.any fun e=>Nat.testBit (maskAt t ops.size e) j
def withAgain(ops:Array Oper)(t:List Nat):List Nat→List (Nat×List Nat)
 | []=>[]
 | i :: l=>(i,again ops t i l) :: withAgain ops t l
def plan:Plan:=fun _ ops=>withAgain ops (depMask ops ops.size) (asap ops (depMask ops ops.size))
end Go.Am
