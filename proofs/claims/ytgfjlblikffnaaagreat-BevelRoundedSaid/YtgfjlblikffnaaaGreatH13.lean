import Derived.Conc.Own2
import Derived.Test.YtgfjlblikffnaaaGreatH10
import Derived.Test.YtgfjlblikffnaaaGreatH12
set_option linter.unusedVariables false
set_option linter.unusedSectionVars false
set_option linter.unusedSimpArgs false
namespace Go.Am
open Go.Conc (born QuitsD G)
open Go.Ren (grow fM aO az Wk fH Idle ag X0 Lv jh)
section
variable{P:Program}{ρ σ:Env}{O D:Nat→Prop}{h h':AH}{w w':World}{X:Event→Prop}{m:Bool}{base cs:List Frame}{I:World→Prop}
def bV(P:Program)(f:FuncId):Bool:=match P.funcs[f]? with
 |some fn=>fn.body.isSome && !(fn.name == "runtime.NumGoroutine")
 |none=>false
theorem nI{f:FuncId}{args:Array Value}(hf:bV P f=true):∀(w:World) ah,(callFunc f args).runT P w ah=(.ok (.enter f args) w,ah ++ #[]):=by
 unfold bV at hf
 intro w ah
 cases hfn:P.funcs[f]? with
 |none=>rw [hfn] at hf;cases hf
 |some fn=>
  rw [hfn] at hf
  simp only [Bool.and_eq_true,Bool.not_eq_true'] at hf
  have hb:¬fn.body=none:=by cases hx:fn.body<;>simp_all
  have hn:¬fn.name = "runtime.NumGoroutine" :=by simpa using hf.2
  unfold callFunc
  simp [program,-Sem.runT_eq,Sem.runT,bind,pure,Sem.bind,hfn,hn,hb]
def oL(P:Program):Frame:={ (default:Frame) with fn:=P.funcs.size,defers:=[],mode:=.panicking [goexitEntry] }
theorem born_step{f:FuncId}{cap args:Array Value}(hf:bV P f=true)(w:World) :
  stepG P m (born P { target:=.fn (.func f) cap,args }) w = .go (cO (Frame.enter P f (args ++ cap) .deferred) [oL P]) w #[]:=by
 have hr:=nI (args:=args ++ cap) hf w #[]
 have h2:(invoke (.fn (.func f) cap) args).runT P w #[]=(.ok (.enter f (args ++ cap)) w,#[]):=by
  rw [show invoke (.fn (.func f) cap) args=callFunc f (args ++ cap) from rfl,hr]
  rfl
 simp only [born,stepG,unwind,callDeferred,h2]
 simp [GStep.after,cO,oL,seen]
theorem O3{f':Frame}{fn:Func}(hm:f'.mode = .returning)(hd:f'.defers=[])(hk:f'.kind = .deferred)(hfn:P.funcs[f'.fn]? = some fn)(hres:fn.results = #[]):QuitsD P 2 0 (cO f' [oL P]):=by
 refine QuitsD.ctl (g' :=cO (oL P) []) rfl (fun w=>?_) ?_
 ·rw [stepG_ret hm]
  obtain ⟨g,tmps,todo,defers,mode,kind,ro⟩:=f'
  dsimp only at hm hd hk hfn
  subst hm hd hk
  simp [unwind,hfn,results,hres,doReturn,oL,goexitEntry,cO,seen,GStep.after,pure]
 refine QuitsD.ctl (n:=0) (g' :={ cO (oL P) [] with status:=.finished }) rfl (fun w=>?_) ⟨rfl,rfl⟩
 simp [cO,stepG,unwind,oL,goexitEntry,Frame.catches]
 rfl
end
end Go.Am
namespace Go.Am
open Go.Conc (born QuitsD G)
open Go.Conc.Lib
open Go.Ren (grow fM aO az Wk fH Idle ag X0 Lv jh)
def UJ(a:aF):Option aF:=
 match a.ret,a.round,a.todo with
 |true,_,_|_,some _,_=>none
 |false,none,[]=>some { a with ret:=true }
 |false,none,.code .ret :: _=>some { a with ret:=true }
 |false,none,.code .skip :: k=>some { a with todo:=k }
 |false,none,.inBlock _ :: k=>some { a with todo:=k }
 |false,none,.inScope _ :: k=>some { a with todo:=k }
 |false,none,.region _ [] :: k=>some { a with todo:=k }
 |false,none,.code (.seq x y) :: k=>some { a with todo:=.code x :: .code y :: k }
 |_,_,_=>none
def nJ:Nat→aF→Option aF
 |0,a=>if a.ret then some a else none
 |n+1,a=>if a.ret then some a else (UJ a).bind (nJ n)
section
variable{P:Program}{ρ σ:Env}{O D:Nat→Prop}{h h':AH}{w w':World}{X:Event→Prop}{m:Bool}{base cs:List Frame}{I:World→Prop}{a a':aF}{f:Frame}
theorem aac(hf:F0 ρ a f)(e:UJ a=some a'):∃f',(∀w,stepG P m (cO f cs) w = .go (cO f' cs) w #[])∧F0 ρ a' f' :=by
 obtain ⟨afn,atm,atd,ads,rE,fC,adk⟩:=a
 obtain ⟨fn,tmps,todo,defers,mode,kind,ro⟩:=f
 obtain ⟨⟨h1,h2,h3,h4,h5⟩,h6,h7⟩:=hf
 dsimp only at h1 h2 h3 h4 h5 h6 h7
 unfold UJ at e
 cases rE with
 |true=>simp at e
 |false=>
 cases fC with
 |some l=>simp at e
 |none=>
 cases h5
 simp only [Bool.false_eq_true,if_false] at h3
 subst h3
 have run:∀w,stepG P m (cO ⟨fn,tmps,todo,defers,.run,kind,none⟩ cs) w=stepG.exec P m true ⟨fn,tmps,todo,defers,.run,kind,none⟩ cs none w:=fun w=>dm rfl
 have back:∀ {k k'},LR (xR ρ) k k' → F0 ρ ⟨afn,atm,k,ads,false,none,adk⟩ ⟨fn,tmps,k',defers,.run,kind,none⟩:=fun hk=>⟨⟨h1,h2,rfl,h4,.none⟩,h6,hk⟩
 have out:F0 ρ ⟨afn,atm,atd,ads,true,none,adk⟩ ⟨fn,tmps,todo,defers,.returning,kind,none⟩:=⟨⟨h1,h2,rfl,h4,.none⟩,h6,h7⟩
 cases h7 with
 |nil=>
  cases e
  exact ⟨_,fun w=>by rw [run];simp only [stepG.exec];rfl,out⟩
 | @cons x y k k' hi hl=>
  cases hi with
  |inBlock id=>cases e;exact ⟨_,fun w=>by rw [run];simp only [stepG.exec];rfl,back hl⟩
  |inScope b=>cases e;exact ⟨_,fun w=>by rw [run];simp only [stepG.exec];rfl,back hl⟩
  |region ops l=>
   cases l with
   |nil=>cases e;exact ⟨_,fun w=>by rw [run];simp only [stepG.exec];rfl,back hl⟩
   |cons i l=>cases e
  |code c=>
   cases c with
   |skip=>cases e;exact ⟨_,fun w=>by rw [run];simp only [stepG.exec];rfl,back hl⟩
   |ret=>cases e;exact ⟨_,fun w=>by rw [run];simp only [stepG.exec];rfl,out⟩
   |seq x y=>cases e;exact ⟨_,fun w=>by rw [run];simp only [stepG.exec];rfl,back (.cons (.code _) (.cons (.code _) hl))⟩
   |_=>cases e
  |_=>cases e
theorem vY{d:Nat}:∀(n:Nat) {a:aF} {f:Frame},F0 ρ a f→nJ n a=some a' → ag P m I X (fun d' g=>d' = d∧∃f',F0 ρ a' f' ∧ a'.ret=true∧g=cO f' cs) d (cO f cs)
 |0,a,f,hf,e=>by
  unfold nJ at e
  split at e
  ·rename_i hr;cases e;exact .stop ⟨rfl,f,hf,hr,rfl⟩
  ·cases e
 |n+1,a,f,hf,e=>by
  unfold nJ at e
  split at e
  ·rename_i hr;cases e;exact .stop ⟨rfl,f,hf,hr,rfl⟩
  ·cases ha:UJ a with
   |none=>rw [ha] at e;cases e
   |some a₁=>
    rw [ha] at e
    obtain ⟨f',h1,h2⟩:=aac (P:=P) (m:=m) (cs:=cs) hf ha
    refine .step rfl (fun _=>cO f' cs) (fun _=>#[]) (fun w _=>⟨h1 w,by simp⟩) fun w _=>?_
    exact vY n h2 e
structure lX(P:Program)(L:WgLink)(gb:Nat)(a:aF):Prop where
 ret:a.ret=true
 dk:a.dk=true
 fn:∃fn,P.funcs[a.fn]? = some fn∧fn.results = #[]
 defers:a.defers=[{ target:=.fn (.func L.done) #[],args:=#[.pointer (some ⟨gb,0,none⟩)] }]
theorem O4{L:WgLink}{Wg gb:Nat}(H:WgLib P L)(hp:bV P L.done=true)(hi:∃w,Lv L Wg w)(hf:F0 ρ a f)(hd:lX P L gb a)(hg:ρ.to gb=(Wg,0))(hro:a.round=none):ag P false (Lv L Wg) X0 (jh P L Wg) 0 (cO f [oL P]):=by
 have hm:f.mode = .returning:=by have:=hf.mode;rw [hd.ret] at this;exact this
 have hk:f.kind = .deferred:=by have:=hf.kind;rw [hd.dk] at this;exact this
 have hdf:=hf.defers
 rw [hd.defers] at hdf
 have hfd:f.defers=[{ target:=.fn (.func L.done) #[],args:=#[.pointer (some ⟨Wg,0,none⟩)] }]:=by
  generalize f.defers=z at hdf
  cases hdf with
  | @cons _ y _ ys hx hl=>
   cases hl
   obtain ⟨ht,ha⟩:=hx
   obtain ⟨yt,ya⟩:=y
   dsimp only at ht ha
   cases ht with
   |fn hfn hc=>
    cases hfn
    rename_i c
    have hce:c = #[]:=Array.eq_empty_of_size_eq_zero (by have:=hc.1;simpa using this.symm)
    subst hce
    have hs:ya.size=1:=by have:=ha.1;simpa using this.symm
    obtain ⟨v,rfl⟩:∃v,ya = #[v]:=by
     refine ⟨ya[0],?_⟩
     apply Array.ext (by simp [hs])
     intro i h1 h2
     simp at h2
     subst h2
     rfl
    have:=ha.2 0 _ v rfl rfl
    cases this with
    |ptr hb=>simp [Env.addr,hg]
 obtain ⟨fn,hfn,hres⟩:=hd.fn
 have hq:QuitsD P 2 0 (cO { f with defers:=[] } [oL P]):=O3 (f' :={ f with defers:=[] }) hm rfl hk (by show P.funcs[f.fn]? = _;rw [hf.fn];exact hfn) hres
 refine .step rfl (fun _=>cO (Frame.enter P L.done #[.pointer (some ⟨Wg,0,none⟩)] .deferred) [{ f with defers:=[] },oL P]) (fun _=>#[]) (fun w _=>⟨?_,by simp⟩) fun w _=>?_
 ·rw [stepG_ret hm]
  unfold unwind
  rw [hfd]
  dsimp only
  unfold callDeferred
  have hr:=nI (args:=#[Value.pointer (some ⟨Wg,0,none⟩)]) hp w #[]
  have h2:(invoke (.fn (.func L.done) #[]) #[Value.pointer (some ⟨Wg,0,none⟩)]).runT P w #[]=(.ok (.enter L.done #[.pointer (some ⟨Wg,0,none⟩)]) w,#[]):=by
   rw [show invoke (.fn (.func L.done) #[]) #[Value.pointer (some ⟨Wg,0,none⟩)]=callFunc L.done #[.pointer (some ⟨Wg,0,none⟩)] from rfl,hr]
   rfl
  dsimp only
  rw [h2]
  simp [GStep.after,cO,seen]
 ·show ag P false (Lv L Wg) X0 (jh P L Wg) 0 _
  have:=Go.Ren.done_walk H hi (c:={ f with defers:=[] }) (cs:=[oL P]) hm hq
  exact Go.Ren.lW (S:=jh P L Wg) 0 this
end
end Go.Am
namespace Go.Am
open Go.Conc (born QuitsD G scase rcase)
open Go.Conc.Lib
open Go.Ren (grow fM aO az Wk fH Idle ag X0 Lv jh fQ rF je hearing)
section
variable{P:Program}{ρ σ:Env}{O D:Nat→Prop}{h h':AH}{w w':World}{X:Event→Prop}{m:Bool}{base cs:List Frame}{I:World→Prop}{a a':aF}{f:Frame}{lo hi:Nat}{ops:Array Oper}{i:Nat}{o:Oper}{s₀:AS}{pl:bz}
theorem Io.f0(hf:Io ρ lo hi a f)(ht:∀ops l k,a.todo ≠ .drawn ops l :: k):F0 ρ a f:=by
 cases hf with
 |plain k=>exact k
 |ahead k _=>obtain ⟨k1,_,t1,_⟩:=k.todo;exact absurd t1 (ht _ _ _)
theorem FT.f0(hf:FT P ρ lo h a f)(ht:∀ops l k,a.todo ≠ .drawn ops l :: k):F0 ρ a f:=by
 cases hf with
 |plain k=>exact k
 |ahead k _=>obtain ⟨k1,_,t1,_⟩:=k.todo;exact absurd t1 (ht _ _ _)
structure acg(P:Program)(L:WgLink)(gb cb:Nat)(v:Value)(s:AS):Prop where
 cs:s.cs=[]
 run:s.fr.ret=false
 round:s.fr.round=none
 plain:Plain v
 at_:∃ops i l k o c x a' n a'',s.fr.todo = .region ops (i :: l) :: k∧ops[i]? = some o∧Region.wanted o (yielded ops s.fr.tmps)=true∧bf o=true∧o.op = .send c x∧af s.fr.tmps c = .chan (some cb)∧af s.fr.tmps x=v ∧
  au P s.fr s.h undef=some a' ∧ nJ n a' = some a'' ∧ lX P L gb a'' ∧ a''.round=none
structure ach(P:Program)(L:WgLink)(gb:Nat)(s:AS):Prop where
 cs:s.cs=[]
 todo:∀ops l k,s.fr.todo ≠ .drawn ops l :: k
 at_:∃n a'',nJ n s.fr=some a'' ∧ lX P L gb a'' ∧ a''.round=none
def Au(P:Program)(L:WgLink)(gb cb:Nat):Option Value→AS→Prop
 |some v,s=>acg P L gb cb v s
 |none,s=>ach P L gb s
theorem Aw{L:WgLink}{Wg gb n:Nat}(H:WgLib P L)(hp:bV P L.done=true)(hi:∃w,Lv L Wg w)(hf:F0 ρ a f)(e:nJ n a=some a')(hd:lX P L gb a')(hro:a'.round=none)(hg:ρ.to gb=(Wg,0)) :
  ag P false (Lv L Wg) X0 (jh P L Wg) 0 (cO f [oL P]):=by
 refine (vY n hf e).bind ?_
 rintro d g ⟨rfl,f',h1,h2,rfl⟩
 exact O4 H hp hi h1 hd hg hro
theorem Az[aI P]{L:WgLink}{Wg Ch gb cb:Nat}{v:Option Value}{g:Goroutine}(H:WgLib P L)(hp:bV P L.done=true)(hi:∃w,Lv L Wg w)(k:bn P pl (Au P L gb cb v) s₀)(S:lV P ρ O D [oL P] s₀ g w)
  (hgb:ρ.born gb) (hg:ρ.to gb=(Wg,0)) (hc:ρ.born cb∧ρ.to cb=(Ch,0)) :
  fH P false I X0 D (fQ P L Wg Ch (fun _ _ u _=>u=v) I D) 0 O g w:=by
 have hW:Wk P false I X0 D (fun O' g' w'=>fQ P L Wg Ch (fun _ _ u _=>u=v) I D 0 O' g' w') O g w:=by
  refine (jg k S).bind ?_
  rintro fU g₁ w₁ ⟨σ,s,hs,hle,xU⟩
  have hg₁:σ.to gb=(Wg,0):=(hle.to _ hgb).trans hg
  have hc₁:σ.to cb=(Ch,0):=(hle.to _ hc.1).trans hc.2
  cases v with
  |none=>
   obtain ⟨hcs,htd,n,a'',e1,e2,e3⟩:=hs
   obtain ⟨⟨lo,f,cs,hlo,rfl,hf,hcs'⟩,rel⟩:=xU
   rw [hcs] at hcs'
   cases hcs'
   have hf0:=hf.f0 htd
   exact .stop ⟨rfl,.inr ⟨rfl,rfl,Aw H hp hi hf0 e1 e2 e3 hg₁⟩⟩
  |some v=>
   obtain ⟨hcs,hrun,fJ,hpl,ops,i,l,k,o,c,x,a',n,a'',t1,t2,t3,t4,t5,t6,t7,t8,t9,t10,t11⟩:=hs
   refine (qN (c:=[]) (l:=[]) xU hrun (.inr ⟨l,k,t1⟩)).bind ?_
   rintro rW g₂ w₂ ⟨τ,lo,f,cs,eG,rfl,A⟩
   have aad:cs=[]:=by have:=A.stk;rw [hcs] at this;cases this;rfl
   subst aad
   have hg₂:τ.to gb=(Wg,0):=(eG.to _ (hle.born _ hgb)).trans hg₁
   have hc₂:τ.to cb=(Ch,0):=(eG.to _ (hle.born _ hc.1)).trans hc₁
   have hf0:F0 τ s.fr f:=A.fs.f0 (by rw [t1];intro _ _ _ e;cases e)
   obtain ⟨s',k',ht⟩:=A.todo
   have hw' :=A.wanted o t2
   rw [t3] at hw'
   have hv:=A.kW o t2 t4
   have hvc:=hv c (by rw [t5];simp [Op.operands])
   have hvx:=hv x (by rw [t5];simp [Op.operands])
   rw [t6] at hvc
   rw [t7] at hvx
   have ec:f.eval c = .chan (some Ch):=by
    generalize f.eval c=y at hvc
    cases hvc with
    |chan hb=>
     have:=hb.2
     rw [hc₂] at this
     cases this
     rfl
   have ex:f.eval x=v:=hpl.eq hvx
   have hst:∀w₁,stepG P false (cO f ([] ++ [oL P])) w₁ = .comm (cO f [oL P]) #[scase Ch v (.tuple #[])] true .send w₁ #[]:=by
    intro w₁
    rw [bT A.run ht t2 hw' (fun q hq=>by rw [t5] at hq;cases hq)]
    have hex:execOp f.eval o=Sem.pure (.comm #[scase Ch v (.tuple #[])] true .send):=by
     unfold execOp
     rw [t5]
     dsimp only
     rw [ec,ex]
     rfl
    rw [hex]
    have hkind:=ji A.fs.base.ne
    simp [stepG.apply,hkind,GStep.after,cO,Sem.run,seen,scase]
   have ha:F0 τ a' (f.finish undef):=uS hf0 gV t8
   refine .stop ⟨rfl,.inl ⟨rfl,rfl,cO f [oL P],v,.tuple #[],fun w₁ _ _=>hst w₁,rfl,?_⟩⟩
   exact Aw H hp hi ha t9 t10 t11 hg₂
 exact (Go.Ren.Wk.deaf (fun e x=>x.elim) (fun e x=>x) 0 hW).mono fun d O g w ⟨e,x⟩=>e ▸ x
end
end Go.Am
