import Derived.Conc.Own2
import Derived.Test.YtbpcjpbcgeccbaaGreatH8
import Derived.Test.YtbpcjpbcgeccbaaGreatH10
set_option linter.unusedVariables false
set_option linter.unusedSectionVars false
set_option linter.unusedSimpArgs false
namespace Go.Am
open Go.Conc (born QuitsD G)
open Go.Ren (grow fK aN au Wk dM Idle ag X0 Lv fQ)
section
variable{P:Program}{ρ σ:Env}{O D:Nat→Prop}{h h':AH}{w w':World}{X:Event→Prop}{m:Bool}{base cs:List Frame}{I:World→Prop}
def bQ(P:Program)(f:FuncId):Bool:=match P.funcs[f]? with
 |some fn=>fn.body.isSome && !(fn.name == "runtime.NumGoroutine")
 |none=>false
theorem pU{f:FuncId}{args:Array Value}(hf:bQ P f=true):∀(w:World) ay,(callFunc f args).runT P w ay=(.ok (.enter f args) w,ay ++ #[]):=by
 unfold bQ at hf
 intro w ay
 cases hfn:P.funcs[f]? with
 |none=>rw [hfn] at hf;cases hf
 |some fn=>
  rw [hfn] at hf
  simp only [Bool.and_eq_true,Bool.not_eq_true'] at hf
  have hb:¬fn.body=none:=by cases hx:fn.body<;>simp_all
  have hn:¬fn.name = "runtime.NumGoroutine" :=by simpa using hf.2
  unfold callFunc
  simp [program,-Sem.runT_eq,Sem.runT,bind,pure,Sem.bind,hfn,hn,hb]
def nK(P:Program):Frame:={ (default:Frame) with fn:=P.funcs.size,defers:=[],mode:=.panicking [goexitEntry] }
theorem born_step{f:FuncId}{cap args:Array Value}(hf:bQ P f=true)(w:World) :
  stepG P m (born P { target:=.fn (.func f) cap,args }) w = .go (dN (Frame.enter P f (args ++ cap) .deferred) [nK P]) w #[]:=by
 have hr:=pU (args:=args ++ cap) hf w #[]
 have h2:(invoke (.fn (.func f) cap) args).runT P w #[]=(.ok (.enter f (args ++ cap)) w,#[]):=by
  rw [show invoke (.fn (.func f) cap) args=callFunc f (args ++ cap) from rfl,hr]
  rfl
 simp only [born,stepG,unwind,callDeferred,h2]
 simp [GStep.after,dN,nK,seen]
theorem O8{f':Frame}{fn:Func}(hm:f'.mode = .returning)(hd:f'.defers=[])(hk:f'.kind = .deferred)(hfn:P.funcs[f'.fn]? = some fn)(hres:fn.results = #[]):QuitsD P 2 0 (dN f' [nK P]):=by
 refine QuitsD.ctl (g' :=dN (nK P) []) rfl (fun w=>?_) ?_
 ·rw [stepG_ret hm]
  obtain ⟨g,tmps,todo,defers,mode,kind,ro⟩:=f'
  dsimp only at hm hd hk hfn
  subst hm hd hk
  simp [unwind,hfn,results,hres,doReturn,nK,goexitEntry,dN,seen,GStep.after,pure]
 refine QuitsD.ctl (n:=0) (g' :={ dN (nK P) [] with status:=.finished }) rfl (fun w=>?_) ⟨rfl,rfl⟩
 simp [dN,stepG,unwind,nK,goexitEntry,Frame.catches]
 rfl
end
end Go.Am
namespace Go.Am
open Go.Conc (born QuitsD G)
open Go.Conc.Lib
open Go.Ren (grow fK aN au Wk dM Idle ag X0 Lv fQ)
def VS(a:aB):Option aB:=
 match a.ret,a.round,a.todo with
 |true,_,_|_,some _,_=>none
 |false,none,[]=>some { a with ret:=true }
 |false,none,.code .ret :: _=>some { a with ret:=true }
 |false,none,.code .skip :: k=>some { a with todo:=k }
 |false,none,.inBlock _ :: k=>some { a with todo:=k }
 |false,none,.inScope _ :: k=>some { a with todo:=k }
 |false,none,.region _ [] :: k=>some { a with todo:=k }
 |false,none,.code (.seq x y) :: k=>some { a with todo:=.code x :: .code y :: k }
 |_,_,_=>none
def oq:Nat→aB→Option aB
 |0,a=>if a.ret then some a else none
 |n+1,a=>if a.ret then some a else (VS a).bind (oq n)
section
variable{P:Program}{ρ σ:Env}{O D:Nat→Prop}{h h':AH}{w w':World}{X:Event→Prop}{m:Bool}{base cs:List Frame}{I:World→Prop}{a a':aB}{f:Frame}
theorem Ze(hf:F0 ρ a f)(e:VS a=some a'):∃f',(∀w,stepG P m (dN f cs) w = .go (dN f' cs) w #[])∧F0 ρ a' f' :=by
 obtain ⟨afn,atm,atd,ads,uG,fO,adk⟩:=a
 obtain ⟨fn,tmps,todo,defers,mode,kind,ro⟩:=f
 obtain ⟨⟨h1,h2,h3,h4,h5⟩,h6,h7⟩:=hf
 dsimp only at h1 h2 h3 h4 h5 h6 h7
 unfold VS at e
 cases uG with
 |true=>simp at e
 |false=>
 cases fO with
 |some l=>simp at e
 |none=>
 cases h5
 simp only [Bool.false_eq_true,if_false] at h3
 subst h3
 have run:∀w,stepG P m (dN ⟨fn,tmps,todo,defers,.run,kind,none⟩ cs) w=stepG.exec P m true ⟨fn,tmps,todo,defers,.run,kind,none⟩ cs none w:=fun w=>dL rfl
 have back:∀ {k k'},LR (AQ ρ) k k' → F0 ρ ⟨afn,atm,k,ads,false,none,adk⟩ ⟨fn,tmps,k',defers,.run,kind,none⟩:=fun hk=>⟨⟨h1,h2,rfl,h4,.none⟩,h6,hk⟩
 have out:F0 ρ ⟨afn,atm,atd,ads,true,none,adk⟩ ⟨fn,tmps,todo,defers,.returning,kind,none⟩:=⟨⟨h1,h2,rfl,h4,.none⟩,h6,h7⟩
 cases h7 with
 |nil=>
  cases e
  exact ⟨_,fun w=>by rw [run];simp only [stepG.exec];rfl,out⟩
 | @cons x y k k' hi hl=>
  cases hi with
  |inBlock id=>cases e;exact ⟨_,fun w=>by rw [run];simp only [stepG.exec];rfl,back hl⟩
  |inScope b=>cases e;exact ⟨_,fun w=>by rw [run];simp only [stepG.exec];rfl,back hl⟩
  |region ops l=>
   cases l with
   |nil=>cases e;exact ⟨_,fun w=>by rw [run];simp only [stepG.exec];rfl,back hl⟩
   |cons i l=>cases e
  |code c=>
   cases c with
   |skip=>cases e;exact ⟨_,fun w=>by rw [run];simp only [stepG.exec];rfl,back hl⟩
   |ret=>cases e;exact ⟨_,fun w=>by rw [run];simp only [stepG.exec];rfl,out⟩
   |seq x y=>cases e;exact ⟨_,fun w=>by rw [run];simp only [stepG.exec];rfl,back (.cons (.code _) (.cons (.code _) hl))⟩
   |_=>cases e
  |_=>cases e
theorem qX{d:Nat}:∀(n:Nat) {a:aB} {f:Frame},F0 ρ a f→oq n a=some a' → ag P m I X (fun d' g=>d' = d∧∃f',F0 ρ a' f' ∧ a'.ret=true∧g=dN f' cs) d (dN f cs)
 |0,a,f,hf,e=>by
  unfold oq at e
  split at e
  ·rename_i hr;cases e;exact .stop ⟨rfl,f,hf,hr,rfl⟩
  ·cases e
 |n+1,a,f,hf,e=>by
  unfold oq at e
  split at e
  ·rename_i hr;cases e;exact .stop ⟨rfl,f,hf,hr,rfl⟩
  ·cases ha:VS a with
   |none=>rw [ha] at e;cases e
   |some a₁=>
    rw [ha] at e
    obtain ⟨f',h1,h2⟩:=Ze (P:=P) (m:=m) (cs:=cs) hf ha
    refine .step rfl (fun _=>dN f' cs) (fun _=>#[]) (fun w _=>⟨h1 w,by simp⟩) fun w _=>?_
    exact qX n h2 e
structure qY(P:Program)(L:WgLink)(gb:Nat)(a:aB):Prop where
 ret:a.ret=true
 dk:a.dk=true
 fn:∃fn,P.funcs[a.fn]? = some fn∧fn.results = #[]
 defers:a.defers=[{ target:=.fn (.func L.done) #[],args:=#[.pointer (some ⟨gb,0,none⟩)] }]
theorem D8{L:WgLink}{Wg gb:Nat}(H:WgLib P L)(hp:bQ P L.done=true)(hi:∃w,Lv L Wg w)(hf:F0 ρ a f)(hd:qY P L gb a)(hg:ρ.to gb=(Wg,0))(hro:a.round=none):ag P false (Lv L Wg) X0 (fQ P L Wg) 0 (dN f [nK P]):=by
 have hm:f.mode = .returning:=by have:=hf.mode;rw [hd.ret] at this;exact this
 have hk:f.kind = .deferred:=by have:=hf.kind;rw [hd.dk] at this;exact this
 have hdf:=hf.defers
 rw [hd.defers] at hdf
 have hfd:f.defers=[{ target:=.fn (.func L.done) #[],args:=#[.pointer (some ⟨Wg,0,none⟩)] }]:=by
  generalize f.defers=z at hdf
  cases hdf with
  | @cons _ y _ ys hx hl=>
   cases hl
   obtain ⟨ht,ha⟩:=hx
   obtain ⟨yt,ya⟩:=y
   dsimp only at ht ha
   cases ht with
   |fn hfn hc=>
    cases hfn
    rename_i c
    have hce:c = #[]:=Array.eq_empty_of_size_eq_zero (by have:=hc.1;simpa using this.symm)
    subst hce
    have hs:ya.size=1:=by have:=ha.1;simpa using this.symm
    obtain ⟨v,rfl⟩:∃v,ya = #[v]:=by
     refine ⟨ya[0],?_⟩
     apply Array.ext (by simp [hs])
     intro i h1 h2
     simp at h2
     subst h2
     rfl
    have:=ha.2 0 _ v rfl rfl
    cases this with
    |ptr hb=>simp [Env.addr,hg]
 obtain ⟨fn,hfn,hres⟩:=hd.fn
 have hq:QuitsD P 2 0 (dN { f with defers:=[] } [nK P]):=O8 (f' :={ f with defers:=[] }) hm rfl hk (by show P.funcs[f.fn]? = _;rw [hf.fn];exact hfn) hres
 refine .step rfl (fun _=>dN (Frame.enter P L.done #[.pointer (some ⟨Wg,0,none⟩)] .deferred) [{ f with defers:=[] },nK P]) (fun _=>#[]) (fun w _=>⟨?_,by simp⟩) fun w _=>?_
 ·rw [stepG_ret hm]
  unfold unwind
  rw [hfd]
  dsimp only
  unfold callDeferred
  have hr:=pU (args:=#[Value.pointer (some ⟨Wg,0,none⟩)]) hp w #[]
  have h2:(invoke (.fn (.func L.done) #[]) #[Value.pointer (some ⟨Wg,0,none⟩)]).runT P w #[]=(.ok (.enter L.done #[.pointer (some ⟨Wg,0,none⟩)]) w,#[]):=by
   rw [show invoke (.fn (.func L.done) #[]) #[Value.pointer (some ⟨Wg,0,none⟩)]=callFunc L.done #[.pointer (some ⟨Wg,0,none⟩)] from rfl,hr]
   rfl
  dsimp only
  rw [h2]
  simp [GStep.after,dN,seen]
 ·show ag P false (Lv L Wg) X0 (fQ P L Wg) 0 _
  have:=Go.Ren.done_walk H hi (c:={ f with defers:=[] }) (cs:=[nK P]) hm hq
  exact Go.Ren.oJ (S:=fQ P L Wg) 0 this
end
end Go.Am
namespace Go.Am
open Go.Conc (born QuitsD G scase rcase)
open Go.Conc.Lib
open Go.Ren (grow fK aN au Wk dM Idle ag X0 Lv fQ lD uV mM hearing)
section
variable{P:Program}{ρ σ:Env}{O D:Nat→Prop}{h h':AH}{w w':World}{X:Event→Prop}{m:Bool}{base cs:List Frame}{I:World→Prop}{a a':aB}{f:Frame}{lo hi:Nat}{ops:Array Oper}{i:Nat}{o:Oper}{s₀:AS}{pl:bH}
theorem Ie.f0(hf:Ie ρ lo hi a f)(ht:∀ops l k,a.todo ≠ .drawn ops l :: k):F0 ρ a f:=by
 cases hf with
 |plain k=>exact k
 |ahead k _=>obtain ⟨k1,_,t1,_⟩:=k.todo;exact absurd t1 (ht _ _ _)
theorem FT.f0(hf:FT P ρ lo h a f)(ht:∀ops l k,a.todo ≠ .drawn ops l :: k):F0 ρ a f:=by
 cases hf with
 |plain k=>exact k
 |ahead k _=>obtain ⟨k1,_,t1,_⟩:=k.todo;exact absurd t1 (ht _ _ _)
structure X7(P:Program)(L:WgLink)(gb:Nat)(s:AS):Prop where
 cs:s.cs=[]
 todo:∀ops l k,s.fr.todo ≠ .drawn ops l :: k
 at_:∃n a'',oq n s.fr=some a'' ∧ qY P L gb a'' ∧ a''.round=none
theorem O9{L:WgLink}{Wg gb n:Nat}(H:WgLib P L)(hp:bQ P L.done=true)(hi:∃w,Lv L Wg w)(hf:F0 ρ a f)(e:oq n a=some a')(hd:qY P L gb a')(hro:a'.round=none)(hg:ρ.to gb=(Wg,0)) :
  ag P false (Lv L Wg) X0 (fQ P L Wg) 0 (dN f [nK P]):=by
 refine (qX n hf e).bind ?_
 rintro d g ⟨rfl,f',h1,h2,rfl⟩
 exact D8 H hp hi h1 hd hg hro
end
end Go.Am
