import Derived.Conc.Own2
import Derived.Test.YtkgmngkagkoepaaGreatH8
import Derived.Test.YtkgmngkagkoepaaGreatH10
set_option linter.all false
namespace Go.Am
open Go.Conc (born QuitsD G)
open Go.Ren (grow gp aQ az Wk dU Idle af X0 Lv gG)
section
variable{P:Program}{ρ σ:Env}{O D:Nat->Prop}{h h':AH}{w w':World}{X:Event->Prop}{m:Bool}{base cs:List Frame}{I:World->Prop}
def dA(P:Program)(f:FuncId):Bool:=match P.funcs[f]? with
 |some a=>a.body.isSome&&!(a.name== "runtime.NumGoroutine")
 |none=>false
theorem pF{f:FuncId}{args:Array Value}(c:dA P f=true):∀(w:World) a,(callFunc f args).runT P w a=(.ok (.enter f args) w,a++#[]):=by
 unfold dA at c;intro w a;cases b:P.funcs[f]? with
 |none=>rw[b]at c;cases c
 |some d=>
  rw[b]at c;simp only[Bool.and_eq_true,Bool.not_eq_true']at c;have e:¬d.body=none:=by cases i:d.body<;>simp_all
  have g:¬d.name= "runtime.NumGoroutine" :=by simpa using c.2
  unfold callFunc;simp[program,-Sem.runT_eq,Sem.runT,bind,pure,Sem.bind,b,g,e]
def nK(P:Program):Frame:={(default:Frame)with fn:=P.funcs.size,defers:=[],mode:=.panicking [goexitEntry]}
theorem born_step{f:FuncId}{a args:Array Value}(b:dA P f=true)(w:World):
  stepG P m (born P {target:=.fn (.func f) a,args}) w=.go (dV (Frame.enter P f (args++a) .deferred) [nK P]) w #[]:=by
 have c:=pF (args:=args++a) b w #[]
 have d:(invoke (.fn (.func f) a) args).runT P w #[]=(.ok (.enter f (args++a)) w,#[]):=by rw[show invoke (.fn (.func f) a) args=callFunc f (args++a)from rfl,c];rfl
 simp only[born,stepG,unwind,callDeferred,d]
 simp[GStep.after,dV,nK,seen]
theorem Qb{f':Frame}{d:Func}(c:f'.mode=.returning)(hd:f'.defers=[])(e:f'.kind=.deferred)(a:P.funcs[f'.fn]?=some d)(b:d.results=#[]):QuitsD P 2 0 (dV f' [nK P]):=by
 refine QuitsD.ctl (g':=dV (nK P) []) rfl (fun w=>?_) ?_
 ·rw[stepG_ret c];obtain⟨g,f,i,defers,j,kind,l⟩:=f'
  dsimp only at c hd e a;subst c hd e;simp[unwind,a,results,b,doReturn,nK,goexitEntry,dV,seen,GStep.after,pure]
 refine QuitsD.ctl (n:=0) (g':={dV (nK P) []with status:=.finished}) rfl (fun w=>?_) ⟨rfl,rfl⟩;simp[dV,stepG,unwind,nK,goexitEntry,Frame.catches];rfl
end
end Go.Am
namespace Go.Am
open Go.Conc (born QuitsD G)
open Go.Conc.Lib
open Go.Ren (grow gp aQ az Wk dU Idle af X0 Lv gG)
def ZM(a:ak):Option ak:=
 match a.ret,a.round,a.todo with
 |true,_,_|_,some _,_=>none
 |false,none,[]=>some {a with ret:=true}
 |false,none,.code .ret::_=>some {a with ret:=true}
 |false,none,.code .skip::k=>some {a with todo:=k}
 |false,none,.inBlock _::k=>some {a with todo:=k}
 |false,none,.inScope _::k=>some {a with todo:=k}
 |false,none,.region _ []::k=>some {a with todo:=k}
 |false,none,.code (.seq x y)::k=>some {a with todo:=.code x::.code y::k}
 |_,_,_=>none
def nX:Nat->ak->Option ak
 |0,a=>if a.ret then some a else none
 |n+1,a=>if a.ret then some a else(ZM a).bind (nX n)
section
variable{P:Program}{j σ:Env}{O D:Nat->Prop}{h h':AH}{w w':World}{X:Event->Prop}{m:Bool}{base cs:List Frame}{I:World->Prop}{a o:ak}{f:Frame}
theorem adB(T:F0 j a f)(e:ZM a=some o):∃M,(∀w,stepG P m (dV f cs) w=.go (dV M cs) w #[])/\F0 j o M:=by
 obtain⟨p,q,z,r,uF,A,s⟩:=a
 obtain⟨v,g,n,defers,N,kind,Z⟩:=f
 obtain⟨⟨B,C,E,F,Q⟩,H,J⟩:=T
 dsimp only at B C E F Q H J;unfold ZM at e;cases uF with
 |true=>simp at e
 |false=>
 cases A with
 |some l=>simp at e
 |none=>
 cases Q;simp only[Bool.false_eq_true,if_false]at E;subst E;have run:∀w,stepG P m (dV ⟨v,g,n,defers,.run,kind,none⟩ cs) w=stepG.exec P m true ⟨v,g,n,defers,.run,kind,none⟩ cs none w:=fun w=>dS rfl
 have d:∀{k L},LR (AO j) k L->F0 j ⟨p,q,k,r,false,none,s⟩ ⟨v,g,L,defers,.run,kind,none⟩:=fun U=>⟨⟨B,C,rfl,F,.none⟩,H,U⟩
 have t:F0 j ⟨p,q,z,r,true,none,s⟩ ⟨v,g,n,defers,.returning,kind,none⟩:=⟨⟨B,C,rfl,F,.none⟩,H,J⟩
 cases J with
 |nil=>cases e;exact⟨_,fun w=>by rw[run];simp only[stepG.exec];rfl,t⟩
 | @cons x y k L V u=>
  cases V with
  |inBlock id=>cases e;exact⟨_,fun w=>by rw[run];simp only[stepG.exec];rfl,d u⟩
  |inScope b=>cases e;exact⟨_,fun w=>by rw[run];simp only[stepG.exec];rfl,d u⟩
  |region W l=>
   cases l with
   |nil=>cases e;exact⟨_,fun w=>by rw[run];simp only[stepG.exec];rfl,d u⟩
   |cons i l=>cases e
  |code c=>
   cases c with
   |skip=>cases e;exact⟨_,fun w=>by rw[run];simp only[stepG.exec];rfl,d u⟩
   |ret=>cases e;exact⟨_,fun w=>by rw[run];simp only[stepG.exec];rfl,t⟩
   |seq x y=>cases e;exact⟨_,fun w=>by rw[run];simp only[stepG.exec];rfl,d (.cons (.code _) (.cons (.code _) u))⟩
   |_=>cases e
  |_=>cases e
theorem rG{d:Nat}:∀(n:Nat) {a:ak} {f:Frame},F0 j a f->nX n a=some o->af P m I X (fun p g=>p=d/\∃b,F0 j o b/\o.ret=true/\g=dV b cs) d (dV f cs)
 |0,a,f,c,e=>by
  unfold nX at e;split at e
  ·rename_i i;cases e;exact .stop ⟨rfl,f,c,i,rfl⟩
  ·cases e
 |n+1,a,f,c,e=>by
  unfold nX at e;split at e
  ·rename_i i;cases e;exact .stop ⟨rfl,f,c,i,rfl⟩
  ·cases k:ZM a with
   |none=>rw[k]at e;cases e
   |some l=>
    rw[k]at e;obtain⟨b,q,r⟩:=adB (P:=P) (m:=m) (cs:=cs) c k
    refine .step rfl (fun _=>dV b cs) (fun _=>#[]) (fun w _=>⟨q w,by simp⟩) fun w _=>?_
    exact rG n r e
structure rH(P:Program)(L:WgLink)(gb:Nat)(a:ak):Prop where
 ret:a.ret=true
 dk:a.dk=true
 fn:∃fn,P.funcs[a.fn]?=some fn/\fn.results=#[]
 defers:a.defers=[{target:=.fn (.func L.done) #[],args:=#[.pointer (some ⟨gb,0,none⟩)]}]
theorem D6{L:WgLink}{Wg s:Nat}(H:WgLib P L)(u:dA P L.done=true)(x:∃w,Lv L Wg w)(g:F0 j a f)(hd:rH P L s a)(A:j.to s=(Wg,0))(B:a.round=none):af P false (Lv L Wg) X0 (gG P L Wg) 0 (dV f [nK P]):=by
 have l:f.mode=.returning:=by have:=g.mode;rw[hd.ret]at this;exact this
 have C:f.kind=.deferred:=by have:=g.kind;rw[hd.dk]at this;exact this
 have b:=g.defers
 rw[hd.defers]at b;have n:f.defers=[{target:=.fn (.func L.done) #[],args:=#[.pointer (some ⟨Wg,0,none⟩)]}]:=by
  generalize f.defers=z at b
  cases b with
  | @cons _ y _ U E F=>
   cases F;obtain⟨t,p⟩:=E
   obtain⟨V,q⟩:=y
   dsimp only at t p;cases t with
   |fn d M=>
    cases d;rename_i c;have r:c=#[]:=Array.eq_empty_of_size_eq_zero (by have:=M.1;simpa using this.symm)
    subst r;have N:q.size=1:=by have:=p.1;simpa using this.symm
    obtain⟨v,rfl⟩:∃v,q=#[v]:=by refine⟨q[0],?_⟩;apply Array.ext (by simp[N]);intro i W k;simp at k;subst k;rfl
    have:=p.2 0 _ v rfl rfl;cases this with
    |ptr Y=>simp[Env.addr,A]
 obtain⟨J,d,e⟩:=hd.fn
 have R:QuitsD P 2 0 (dV {f with defers:=[]} [nK P]):=Qb (f':={f with defers:=[]}) l rfl C (by show P.funcs[f.fn]?=_;rw[g.fn];exact d) e
 refine .step rfl (fun _=>dV (Frame.enter P L.done #[.pointer (some ⟨Wg,0,none⟩)] .deferred) [{f with defers:=[]},nK P]) (fun _=>#[]) (fun w _=>⟨?_,by simp⟩) fun w _=>?_
 ·rw[stepG_ret l];unfold unwind;rw[n];dsimp only
  unfold callDeferred;have T:=pF (args:=#[Value.pointer (some ⟨Wg,0,none⟩)]) u w #[]
  have k:(invoke (.fn (.func L.done) #[]) #[Value.pointer (some ⟨Wg,0,none⟩)]).runT P w #[]=(.ok (.enter L.done #[.pointer (some ⟨Wg,0,none⟩)]) w,#[]):=by rw[show invoke (.fn (.func L.done) #[]) #[Value.pointer (some ⟨Wg,0,none⟩)]=callFunc L.done #[.pointer (some ⟨Wg,0,none⟩)]from rfl,T];rfl
  dsimp only
  rw[k];simp[GStep.after,dV,seen]
 ·show af P false (Lv L Wg) X0 (gG P L Wg) 0 _;have:=Go.Ren.done_walk H x (c:={f with defers:=[]}) (cs:=[nK P]) l R
  exact Go.Ren.oD (S:=gG P L Wg) 0 this
end
end Go.Am
namespace Go.Am
open Go.Conc (born QuitsD G scase rcase)
open Go.Conc.Lib
open Go.Ren (grow gp aQ az Wk dU Idle af X0 Lv gG lF uY mP hearing)
section
variable{P:Program}{c σ:Env}{O D:Nat->Prop}{h h':AH}{w w':World}{X:Event->Prop}{m:Bool}{base cs:List Frame}{I:World->Prop}{a j:ak}{f:Frame}{q p:Nat}{b:Array Oper}{i:Nat}{o:Oper}{s₀:AS}{pl:bP}
theorem H6.f0(d:H6 c q p a f)(e:∀b l k,a.todo≠.drawn b l::k):F0 c a f:=by
 cases d with
 |plain k=>exact k
 |ahead k _=>obtain⟨n,_,g,_⟩:=k.todo;exact absurd g (e _ _ _)
theorem FT.f0(d:FT P c q h a f)(e:∀b l k,a.todo≠.drawn b l::k):F0 c a f:=by
 cases d with
 |plain k=>exact k
 |ahead k _=>obtain⟨n,_,g,_⟩:=k.todo;exact absurd g (e _ _ _)
structure abR(P:Program)(L:WgLink)(gb:Nat)(s:AS):Prop where
 cs:s.cs=[]
 todo:∀b l k,s.fr.todo≠.drawn b l::k
 at_:∃n a'',nX n s.fr=some a''/\rH P L gb a''/\a''.round=none
theorem Qc{L:WgLink}{Wg l n:Nat}(H:WgLib P L)(r:dA P L.done=true)(p:∃w,Lv L Wg w)(s:F0 c a f)(e:nX n a=some j)(hd:rH P L l j)(k:j.round=none)(t:c.to l=(Wg,0)):
  af P false (Lv L Wg) X0 (gG P L Wg) 0 (dV f [nK P]):=by
 refine(rG n s e).bind ?_;rintro d g ⟨rfl,v,u,x,rfl⟩;exact D6 H r p u hd t k
end
end Go.Am
