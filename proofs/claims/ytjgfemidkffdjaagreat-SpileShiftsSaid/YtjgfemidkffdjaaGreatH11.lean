import Derived.Conc.Own2
import Derived.Test.YtjgfemidkffdjaaGreatH8
import Derived.Test.YtjgfemidkffdjaaGreatH10
set_option linter.all false
namespace Go.Am
open Go.Conc (born QuitsD G)
open Go.Ren (grow gU aT aB Wk dY Idle af X0 Lv iP)
section
variable{P:Program}{ρ σ:Env}{O D:Nat->Prop}{h h':AH}{w w':World}{X:Event->Prop}{m:Bool}{base cs:List Frame}{I:World->Prop}
def cu(P:Program)(f:FuncId):Bool:=match P.funcs[f]? with
 |some a=>a.body.isSome&&!(a.name== "runtime.NumGoroutine")
 |none=>false
theorem qF{f:FuncId}{args:Array Value}(c:cu P f=true):∀(w:World) a,(callFunc f args).runT P w a=(.ok (.enter f args) w,a++#[]):=by
 unfold cu at c;intro w a;cases b:P.funcs[f]? with
 |none=>rw[b]at c;cases c
 |some d=>
  rw[b]at c;simp only[Bool.and_eq_true,Bool.not_eq_true']at c;have e:¬d.body=none:=by cases i:d.body<;>simp_all
  have g:¬d.name= "runtime.NumGoroutine" :=by simpa using c.2
  unfold callFunc;simp[program,-Sem.runT_eq,Sem.runT,bind,pure,Sem.bind,b,g,e]
def oQ(P:Program):Frame:={(default:Frame)with fn:=P.funcs.size,defers:=[],mode:=.panicking [goexitEntry]}
theorem born_step{f:FuncId}{a args:Array Value}(b:cu P f=true)(w:World):
  stepG P m (born P {target:=.fn (.func f) a,args}) w=.go (dZ (Frame.enter P f (args++a) .deferred) [oQ P]) w #[]:=by
 have c:=qF (args:=args++a) b w #[]
 have d:(invoke (.fn (.func f) a) args).runT P w #[]=(.ok (.enter f (args++a)) w,#[]):=by rw[show invoke (.fn (.func f) a) args=callFunc f (args++a)from rfl,c];rfl
 simp only[born,stepG,unwind,callDeferred,d]
 simp[GStep.after,dZ,oQ,seen]
theorem UA{f':Frame}{d:Func}(c:f'.mode=.returning)(hd:f'.defers=[])(e:f'.kind=.deferred)(a:P.funcs[f'.fn]?=some d)(b:d.results=#[]):QuitsD P 2 0 (dZ f' [oQ P]):=by
 refine QuitsD.ctl (g':=dZ (oQ P) []) rfl (fun w=>?_) ?_
 ·rw[stepG_ret c];obtain⟨g,f,i,defers,mode,kind,k⟩:=f'
  dsimp only at c hd e a;subst c hd e;simp[unwind,a,results,b,doReturn,oQ,goexitEntry,dZ,seen,GStep.after,pure]
 refine QuitsD.ctl (n:=0) (g':={dZ (oQ P) []with status:=.finished}) rfl (fun w=>?_) ⟨rfl,rfl⟩;simp[dZ,stepG,unwind,oQ,goexitEntry,Frame.catches];rfl
end
end Go.Am
namespace Go.Am
open Go.Conc (born QuitsD G)
open Go.Conc.Lib
open Go.Ren (grow gU aT aB Wk dY Idle af X0 Lv iP)
def abe(a:aN):Option aN:=
 match a.ret,a.round,a.todo with
 |true,_,_|_,some _,_=>none
 |false,none,[]=>some {a with ret:=true}
 |false,none,.code .ret::_=>some {a with ret:=true}
 |false,none,.code .skip::k=>some {a with todo:=k}
 |false,none,.inBlock _::k=>some {a with todo:=k}
 |false,none,.inScope _::k=>some {a with todo:=k}
 |false,none,.region _ []::k=>some {a with todo:=k}
 |false,none,.code (.seq x y)::k=>some {a with todo:=.code x::.code y::k}
 |_,_,_=>none
def pJ:Nat->aN->Option aN
 |0,a=>if a.ret then some a else none
 |n+1,a=>if a.ret then some a else(abe a).bind (pJ n)
section
variable{P:Program}{j σ:Env}{O D:Nat->Prop}{h h':AH}{w w':World}{X:Event->Prop}{m:Bool}{base cs:List Frame}{I:World->Prop}{a o:aN}{f:Frame}
theorem aek(N:F0 j a f)(e:abe a=some o):∃L,(∀w,stepG P m (dZ f cs) w=.go (dZ L cs) w #[])/\F0 j o L:=by
 obtain⟨p,q,v,r,vg,z,s⟩:=a
 obtain⟨u,g,n,defers,mode,kind,V⟩:=f
 obtain⟨⟨A,B,C,E,M⟩,F,H⟩:=N
 dsimp only at A B C E M F H;unfold abe at e;cases vg with
 |true=>simp at e
 |false=>
 cases z with
 |some l=>simp at e
 |none=>
 cases M;simp only[Bool.false_eq_true,if_false]at C;subst C;have run:∀w,stepG P m (dZ ⟨u,g,n,defers,.run,kind,none⟩ cs) w=stepG.exec P m true ⟨u,g,n,defers,.run,kind,none⟩ cs none w:=fun w=>dX rfl
 have d:∀{k J},LR (Cf j) k J->F0 j ⟨p,q,k,r,false,none,s⟩ ⟨u,g,J,defers,.run,kind,none⟩:=fun Q=>⟨⟨A,B,rfl,E,.none⟩,F,Q⟩
 have out:F0 j ⟨p,q,v,r,true,none,s⟩ ⟨u,g,n,defers,.returning,kind,none⟩:=⟨⟨A,B,rfl,E,.none⟩,F,H⟩
 cases H with
 |nil=>cases e;exact⟨_,fun w=>by rw[run];simp only[stepG.exec];rfl,out⟩
 | @cons x y k J R t=>
  cases R with
  |inBlock id=>cases e;exact⟨_,fun w=>by rw[run];simp only[stepG.exec];rfl,d t⟩
  |inScope b=>cases e;exact⟨_,fun w=>by rw[run];simp only[stepG.exec];rfl,d t⟩
  |region T l=>
   cases l with
   |nil=>cases e;exact⟨_,fun w=>by rw[run];simp only[stepG.exec];rfl,d t⟩
   |cons i l=>cases e
  |code c=>
   cases c with
   |skip=>cases e;exact⟨_,fun w=>by rw[run];simp only[stepG.exec];rfl,d t⟩
   |ret=>cases e;exact⟨_,fun w=>by rw[run];simp only[stepG.exec];rfl,out⟩
   |seq x y=>cases e;exact⟨_,fun w=>by rw[run];simp only[stepG.exec];rfl,d (.cons (.code _) (.cons (.code _) t))⟩
   |_=>cases e
  |_=>cases e
theorem sD{d:Nat}:∀(n:Nat) {a:aN} {f:Frame},F0 j a f->pJ n a=some o->af P m I X (fun p g=>p=d/\∃b,F0 j o b/\o.ret=true/\g=dZ b cs) d (dZ f cs)
 |0,a,f,c,e=>by
  unfold pJ at e;split at e
  ·rename_i i;cases e;exact .stop ⟨rfl,f,c,i,rfl⟩
  ·cases e
 |n+1,a,f,c,e=>by
  unfold pJ at e;split at e
  ·rename_i i;cases e;exact .stop ⟨rfl,f,c,i,rfl⟩
  ·cases k:abe a with
   |none=>rw[k]at e;cases e
   |some l=>
    rw[k]at e;obtain⟨b,q,r⟩:=aek (P:=P) (m:=m) (cs:=cs) c k
    refine .step rfl (fun _=>dZ b cs) (fun _=>#[]) (fun w _=>⟨q w,by simp⟩) fun w _=>?_
    exact sD n r e
structure sF(P:Program)(L:WgLink)(gb:Nat)(a:aN):Prop where
 ret:a.ret=true
 dk:a.dk=true
 fn:∃fn,P.funcs[a.fn]?=some fn/\fn.results=#[]
 defers:a.defers=[{target:=.fn (.func L.done) #[],args:=#[.pointer (some ⟨gb,0,none⟩)]}]
theorem Gq{L:WgLink}{Wg s:Nat}(H:WgLib P L)(u:cu P L.done=true)(x:∃w,Lv L Wg w)(g:F0 j a f)(hd:sF P L s a)(A:j.to s=(Wg,0))(B:a.round=none):af P false (Lv L Wg) X0 (iP P L Wg) 0 (dZ f [oQ P]):=by
 have l:f.mode=.returning:=by have:=g.mode;rw[hd.ret]at this;exact this
 have C:f.kind=.deferred:=by have:=g.kind;rw[hd.dk]at this;exact this
 have b:=g.defers
 rw[hd.defers]at b;have n:f.defers=[{target:=.fn (.func L.done) #[],args:=#[.pointer (some ⟨Wg,0,none⟩)]}]:=by
  generalize f.defers=z at b
  cases b with
  | @cons _ y _ U E F=>
   cases F;obtain⟨t,p⟩:=E
   obtain⟨V,q⟩:=y
   dsimp only at t p;cases t with
   |fn d M=>
    cases d;rename_i c;have r:c=#[]:=Array.eq_empty_of_size_eq_zero (by have:=M.1;simpa using this.symm)
    subst r;have N:q.size=1:=by have:=p.1;simpa using this.symm
    obtain⟨v,rfl⟩:∃v,q=#[v]:=by refine⟨q[0],?_⟩;apply Array.ext (by simp[N]);intro i W k;simp at k;subst k;rfl
    have:=p.2 0 _ v rfl rfl;cases this with
    |ptr Y=>simp[Env.addr,A]
 obtain⟨J,d,e⟩:=hd.fn
 have R:QuitsD P 2 0 (dZ {f with defers:=[]} [oQ P]):=UA (f':={f with defers:=[]}) l rfl C (by show P.funcs[f.fn]?=_;rw[g.fn];exact d) e
 refine .step rfl (fun _=>dZ (Frame.enter P L.done #[.pointer (some ⟨Wg,0,none⟩)] .deferred) [{f with defers:=[]},oQ P]) (fun _=>#[]) (fun w _=>⟨?_,by simp⟩) fun w _=>?_
 ·rw[stepG_ret l];unfold unwind;rw[n];dsimp only
  unfold callDeferred;have T:=qF (args:=#[Value.pointer (some ⟨Wg,0,none⟩)]) u w #[]
  have k:(invoke (.fn (.func L.done) #[]) #[Value.pointer (some ⟨Wg,0,none⟩)]).runT P w #[]=(.ok (.enter L.done #[.pointer (some ⟨Wg,0,none⟩)]) w,#[]):=by rw[show invoke (.fn (.func L.done) #[]) #[Value.pointer (some ⟨Wg,0,none⟩)]=callFunc L.done #[.pointer (some ⟨Wg,0,none⟩)]from rfl,T];rfl
  dsimp only
  rw[k];simp[GStep.after,dZ,seen]
 ·show af P false (Lv L Wg) X0 (iP P L Wg) 0 _;have:=Go.Ren.done_walk H x (c:={f with defers:=[]}) (cs:=[oQ P]) l R
  exact Go.Ren.pY (S:=iP P L Wg) 0 this
end
end Go.Am
namespace Go.Am
open Go.Conc (born QuitsD G scase rcase)
open Go.Conc.Lib
open Go.Ren (grow gU aT aB Wk dY Idle af X0 Lv iP nT xg oV hearing)
section
variable{P:Program}{c σ:Env}{O D:Nat->Prop}{h h':AH}{w w':World}{X:Event->Prop}{m:Bool}{base cs:List Frame}{I:World->Prop}{a j:aN}{f:Frame}{q p:Nat}{b:Array Oper}{i:Nat}{o:Oper}{s₀:AS}{pl:bI}
theorem Kr.f0(d:Kr c q p a f)(e:∀b l k,a.todo≠.drawn b l::k):F0 c a f:=by
 cases d with
 |plain k=>exact k
 |ahead k _=>obtain⟨n,_,g,_⟩:=k.todo;exact absurd g (e _ _ _)
theorem FT.f0(d:FT P c q h a f)(e:∀b l k,a.todo≠.drawn b l::k):F0 c a f:=by
 cases d with
 |plain k=>exact k
 |ahead k _=>obtain⟨n,_,g,_⟩:=k.todo;exact absurd g (e _ _ _)
structure Xe(P:Program)(L:WgLink)(gb:Nat)(s:AS):Prop where
 cs:s.cs=[]
 todo:∀b l k,s.fr.todo≠.drawn b l::k
 at_:∃n a'',pJ n s.fr=some a''/\sF P L gb a''/\a''.round=none
theorem UB{L:WgLink}{Wg l n:Nat}(H:WgLib P L)(r:cu P L.done=true)(p:∃w,Lv L Wg w)(s:F0 c a f)(e:pJ n a=some j)(hd:sF P L l j)(k:j.round=none)(t:c.to l=(Wg,0)):
  af P false (Lv L Wg) X0 (iP P L Wg) 0 (dZ f [oQ P]):=by
 refine(sD n s e).bind ?_;rintro d g ⟨rfl,v,u,x,rfl⟩;exact Gq H r p u hd t k
end
end Go.Am
