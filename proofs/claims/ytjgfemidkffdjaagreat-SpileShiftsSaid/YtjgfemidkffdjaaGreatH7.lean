import Derived.Conc.CrowdTrace
import Derived.Conc.JoinTrace
import Derived.Conc.WgGenN2
import Derived.Conc.WgGenWait
import Derived.Test.YtjgfemidkffdjaaGreatH1
import Derived.Test.YtjgfemidkffdjaaGreatH6
set_option linter.all false
namespace Go.Am
open Go.Ren (grow gU aT aB)
def AH.kill(h:AH)(b:Nat):AH:=match h.tr.get b with
 |some B=>{h with tr:=h.tr.set b {B with gB:=some h.n}}
 |none=>h
def AH.blank(h:AH):AH:={h with n:=h.n+1}
section
variable{P:Program}{a σ:Env}{O O' D D':Nat->Prop}{h h':AH}{w w':World}{b:Nat}{B:cZ}
theorem BX(c:h.tr.get b=some B)(x:Nat):(h.kill b).tr.get x=if x=b then some {B with gB:=some h.n}else h.tr.get x:=by
 unfold AH.kill;rw[c];simp only[Tr.dW]
theorem ve(f:Nat):(h.kill b).dn.get f=h.dn.get f:=by
 unfold AH.kill;split<;>rfl
theorem Ol:(h.kill b).n=h.n:=by
 unfold AH.kill;split<;>rfl
theorem WW(c:h.tr.get b=some B)(hd:(h.dn.get h.n).getD []=[])(x:Nat):(h.kill b).look x=if x=b then none else h.look x:=by
 unfold AH.look;rw[BX c];by_cases e:x=b
 ·rw[if_pos e,if_pos e];dsimp only
  rw[ve,hd];rfl
 ·rw[if_neg e,if_neg e];cases h.tr.get x with
  |none=>rfl
  |some C=>
   dsimp only
   cases C.gB with
   |none=>rfl
   |some f=>
    dsimp only
    rw[ve]
theorem Rel.kill(r:Rel a O D h w)(R:a.born b)(M:h.look b=some B)(N:B.gB=none)(v:B.ro=false)(hd:(h.dn.get h.n).getD []=[]):Rel a (fun x=>O x/\x≠(a.to b).1) D (h.kill b) w:=by
 have o:=gy M
 have T:=WW o hd
 have j:∀x C,(h.kill b).look x=some C->x≠b/\h.look x=some C:=fun x C d=>by
  rw[T]at d;split at d
  ·cases d
  ·rename_i e;exact⟨e,d⟩
 refine⟨fun x C c e f i d A=>?_,fun x C i d A=>?_,fun x C i d=>?_,fun x y C Q i U d E p F=>?_,fun x i=>?_,r.low,fun x C i d=>?_,fun f l k=>?_,fun f l k x i=>?_⟩
 ·exact r.cells x C c e f i (j x C d).2 A
 ·exact r.obj x C i (j x C d).2 A
 ·obtain⟨p,d⟩:=j x C d
  have q:(a.to x).1≠(a.to b).1:=fun e=>by
   rcases r.sep x b C B i R d M p e with⟨f,_,s⟩|⟨_,_,s,_⟩
   ·rw[N]at s;cases s
   ·rw[v]at s;cases s
  obtain⟨V,W⟩:=r.own x C i d
  exact⟨fun z=>⟨V z,q⟩,W.imp (fun z=>⟨z,q⟩) id⟩
 ·exact r.sep x y C Q i U (j x C d).2 (j y Q E).2 p F
 ·rw[Ol];exact r.fresh x i
 ·exact r.bg x C i (j x C d).2
 ·rw[ve]at k;refine(r.row f l k).imp fun X Y Z F n n' u1 u2=>X Y Z F n n' ?_ ?_
  ·obtain⟨C,c,e,g,m,t,u⟩:=u1
   rw[BX o]at m;split at m
   ·rename_i H;cases m;exact⟨B,c,e,g,H▸o,t,u⟩
   ·exact⟨C,c,e,g,m,t,u⟩
  ·obtain⟨C,c,e,g,m,t,u⟩:=u2
   rw[BX o]at m;split at m
   ·rename_i H;cases m;exact⟨B,c,e,g,H▸o,t,u⟩
   ·exact⟨C,c,e,g,m,t,u⟩
 ·rw[ve]at k;obtain⟨m1,C,J,L⟩:=r.mem f l k x i
  rw[Ol,BX o];refine⟨m1,C,?_,L⟩;rw[if_neg]
  ·exact J
  ·intro e;subst e;rw[o]at J;cases J;rw[N]at L;cases L
theorem Rel.blank(r:Rel a O D h w)(Z:Obj)(hn:h.look h.n=none):Rel (a.add h.n (w.heap.size,0) False 0 0) O D h.blank {w with heap:=w.heap.push Z}:=by
 have N:¬a.born h.n:=fun p=>Nat.lt_irrefl _ (r.fresh _ p)
 have t:a.Le (a.add h.n (w.heap.size,0) False 0 0):=Env.jA N
 have u:∀x,h.blank.look x=h.look x:=fun x=>rfl
 have m:∀x C,(a.add h.n (w.heap.size,0) False 0 0).born x->h.look x=some C->x≠h.n/\a.born x:=fun x C j k=>by
  have d:x≠h.n:=fun e=>by subst e;rw[hn]at k;cases k
  exact⟨d,j.resolve_left d⟩
 have o:∀c,c<w.heap.size->(w.heap.push Z)[c]?=w.heap[c]?:=fun c hc=>by rw[Array.getElem?_push,if_neg (by omega)]
 refine⟨fun x C c e f j k Q=>?_,fun x C j k Q=>?_,fun x C j k=>?_,fun x y C M j R k s d F=>?_,fun x j=>?_,fun x j=>?_,fun x C j k=>?_,fun f l q=>?_,fun f l q x j=>?_⟩
 ·rw[u]at k;obtain⟨d,p⟩:=m x C j k
  obtain⟨A,E,g,c1,c2,c3,c4,c5⟩:=r.cells x C c e f p k Q
  rw[ax d,qE d];exact⟨A,E,g,by dsimp only;rw[o _ (r.low x p)];exact c1,c2,c3,c4,fun i v hv=>by obtain⟨v',k1,k2⟩:=c5 i v hv;exact⟨v',k1,k2.mono t⟩⟩
 ·rw[u]at k;obtain⟨d,p⟩:=m x C j k
  obtain⟨o1,o2,o3,o4⟩:=r.obj x C p k Q
  rw[ax d];exact⟨o1,o2,by dsimp only;rw[o _ (r.low x p)];exact o3,o4.mono t⟩
 ·rw[u]at k;obtain⟨d,p⟩:=m x C j k
  rw[ax d];exact r.own x C p k
 ·rw[u]at k s;obtain⟨H,T⟩:=m x C j k
  obtain⟨J,U⟩:=m y M R s
  rw[ax H,ax J]at F;exact r.sep x y C M T U k s d F
 ·rcases j with rfl|j
  ·exact Nat.lt_succ_self _
  ·exact Nat.lt_succ_of_lt (r.fresh x j)
 ·by_cases e:x=h.n
  ·subst e;rw[dA];simp
  ·rw[ax e];have:=r.low x (j.resolve_left e)
   simp;omega
 ·rw[u]at k;obtain⟨d,p⟩:=m x C j k
  have:=r.bg x C p k
  exact⟨(ni d).trans this.1,fun z=>(wZ d).trans (this.2 z)⟩
 ·have d:∀x∈l,x≠h.n:=fun x j e=>by have:=(r.mem f l q x j).1;omega
  refine List.Pairwise.imp_of_mem (fun{x y} j R hp b1 b2 F n n' u1 u2=>?_) (r.row f l q);have V:=d x j
  have W:=d y R
  rw[ax V,ax W]at F;obtain⟨C,c,e,g,h1,h2,h3⟩:=u1
  obtain⟨M,c',e',g',X,Y,L⟩:=u2
  rw[ax V]at h3;rw[ax W]at L;exact hp (b1.resolve_left V) (b2.resolve_left W) F n n' ⟨C,c,e,g,h1,h2,h3⟩ ⟨M,c',e',g',X,Y,L⟩
 ·obtain⟨m1,m2⟩:=r.mem f l q x j
  exact⟨Nat.lt_succ_of_lt m1,m2⟩
end
end Go.Am
namespace Go.Ren
section
variable{P:Program}{O O' D F:Nat->Prop}{w a w₂ w':World}{g g':Goroutine}{X:Event->Prop}{I:World->Prop}{m:Bool}
theorem Wk.frame{S:(Nat->Prop)->Goroutine->World->Prop}(h:Wk P m I X D S O g w):(∀b,F b->b<w.heap.size/\¬O b)->(∀b,D b->b<w.heap.size/\¬O b)->
  Wk P m I X D (fun O' g' w'=>∃i,S i g' w'/\(O'=fun b=>i b∨F b)/\aB F D w w') (fun b=>O b∨F b) g w:=by
 induction h with
 | @stop O g w h=>intro _ _;exact .stop ⟨O,h,rfl,aB.refl w⟩
 | @step O g w A f u B h k C=>
  intro t v;have n:∀a,aB (fun b=>O b∨F b) D w a->aB O D w a:=fun a r=>⟨r.size,fun b d=>r.own b (.inl d),r.ro,r.os,r.output,r.tape⟩
  have p:∀a,grow (fun b=>O b∨F b) a (u a)=fun b=>grow O a (u a) b∨F b:=fun a=>by
   funext b;apply propext;unfold grow;constructor
   ·rintro((x|x)|x)
    ·exact .inl (.inl x)
    ·exact .inr x
    ·exact .inl (.inr x)
   ·rintro((x|x)|x)
    ·exact .inl (.inl x)
    ·exact .inr x
    ·exact .inl (.inr x)
  refine .step A f u B (fun a l s=>?_) fun a l s=>?_
  ·obtain⟨z,j⟩:=h a (n a l) s
   exact⟨z,j.size,fun c E H=>j.heap c E fun x=>H (.inl x),j.os,j.output,j.tape,fun e J=>by rw[p];exact(j.ev e J).mono (Nat.le_refl _) fun b d=>.inl d⟩
  ·obtain⟨_,j⟩:=h a (n a l) s
   have q:aB F D w (u a):=by
    refine⟨Nat.le_trans l.size j.size,fun b d=>?_,fun b d=>?_,l.os.trans (.of j.os),j.output.trans l.output,j.tape.trans l.tape⟩
    ·rw[j.heap b (Nat.lt_of_lt_of_le (t b d).1 l.size) (t b d).2];exact l.own b (.inr d)
    ·rw[j.heap b (Nat.lt_of_lt_of_le (v b d).1 l.size) (v b d).2];exact l.ro b d
   have o:∀b,b<w.heap.size/\¬O b->b<(u a).heap.size/\¬grow O a (u a) b:=fun b d=>by
    have z:=l.size
    have R:=j.size
    exact⟨by omega,fun x=>x.elim d.2 fun y=>by omega⟩
   rw[p];refine(C a (n a l) s (fun b d=>o b (t b d)) (fun b d=>o b (v b d))).mono fun O' g' w' L=>?_
   obtain⟨i,M,N,Q⟩:=L
   exact⟨i,M,N,q.trans Q⟩
end
end Go.Ren
namespace Go.Am
open Go.Ren (grow gU aT aB Wk)
def h0:AH:={n:=0,tr:=.nil,dn:=.nil}
section
variable{P:Program}{ρ σ:Env}{O D:Nat->Prop}{h h':AH}{w w':World}{X:Event->Prop}{m:Bool}{base cs':List Frame}{I:World->Prop}{pl:bI}{c:aN}{cs:List aN}{f:FuncId}{g:Goroutine}{Q:Value->AH->Prop}
theorem aen(O D:Nat->Prop)(w:World):Rel vO O D h0 w:=
 {cells:=fun _ _ _ _ _ x=>x.elim
  obj:=fun _ _ x=>x.elim
  own:=fun _ _ x=>x.elim
  sep:=fun _ _ _ _ x=>x.elim
  fresh:=fun _ x=>x.elim
  low:=fun _ x=>x.elim
  bg:=fun _ _ x=>x.elim
  row:=fun f l a=>absurd (show(none:Option (List Nat))=some l from a) (by simp)
  mem:=fun f l a=>absurd (show(none:Option (List Nat))=some l from a) (by simp)}
end
end Go.Am
namespace Go.Am
open Go.Ren (grow gU aT aB Wk)
section
variable{P:Program}{e σ:Env}{O D:Nat->Prop}{h h':AH}{w w':World}{X:Event->Prop}{m:Bool}{base cs:List Frame}{I:World->Prop}{pl:bI}
 {g l:Nat} {ops:Array Oper} {i:Nat} {o:Oper} {f:Frame} {a:aN} {b:AS}
theorem Kr.defer(k:Kr e g l a f){d c:Deferred}(hd:DR e d c):Kr e g l {a with defers:=d::a.defers} {f with defers:=c::f.defers}:=by
 cases k with
 |plain k=>exact .plain ⟨⟨k.fn,.cons hd k.defers,k.mode,k.kind,k.round⟩,k.tmps,k.todo⟩
 |ahead k j=>exact .ahead ⟨⟨k.base.fn,.cons hd k.base.defers,k.base.mode,k.base.kind,k.base.round⟩,k.run,k.todo,k.ok,k.ord,k.lin,k.down,k.lt,k.sub,k.done,k.eff,k.size,k.tmps,k.bd,k.WR⟩ j
theorem vT.defer{c:Call}{x:Operand}{Q:Fn}{first r:Array Value}{a':aN}(A:vT P e g b ops i f cs O D w)(N:ops[i]?=some o)(hw:Region.wanted o (yielded ops b.fr.tmps)=true)(R:bC o=true)
  (s:o.op=.defer c) (T:c.callee=.value x) (hx:ay b.fr.tmps x=.func Q first r) (p:b.fr.round=none)
  (ha:aA P {b.fr with defers:={target:=.fn Q r,args:=first++c.args.map (ay b.fr.tmps)}::b.fr.defers} b.h undef=some a'):
  ∃g',stepG P m (dZ f (cs++base)) w=.go g' w #[]/\mJ P e O D base ⟨a',b.cs,b.h⟩ g' w:=by
 obtain⟨s',k',ht⟩:=A.todo
 have t:=A.wanted o N
 rw[hw]at t;have hv:=A.sH o N R
 have B:=hv x (by rw[s];simp[Op.operands,Call.operands,T])
 rw[hx]at B;have H:f.roundOf=none:=by
  have:=A.fs.base.round
  rw[p]at this;generalize f.roundOf=z at this
  cases this;rfl
 generalize U:f.eval x=y at B
 cases B with
 | @func _ q _ d _ n V W Y Z a0=>
  have C:AR (VR e) (first++c.args.map (ay b.fr.tmps)) (d++c.args.map f.eval):=by
   refine AR.append ⟨W,Y⟩ ⟨by simp,fun j u v J E=>?_⟩;rw[Array.getElem?_map]at J E;cases hj:c.args[j]? with
   |none=>rw[hj]at J;cases J
   |some z=>rw[hj]at J E;cases J;cases E;exact hv z (by rw[s];simp[Op.operands,Call.operands,T,Array.mem_of_getElem? hj])
  have hd:DR e {target:=.fn Q r,args:=first++c.args.map (ay b.fr.tmps)} {target:=.fn q n,args:=d++c.args.map f.eval}:=⟨.fn V ⟨Z,a0⟩,C⟩
  have L:∀k,(execOp f.eval o).runT P w k=(.ok (.defer {target:=.fn q n,args:=d++c.args.map f.eval}) w,k++#[]):=by
   intro k;have:execOp f.eval o=Sem.pure (.defer {target:=.fn q n,args:=d++c.args.map f.eval}):=by
    unfold execOp;rw[s];dsimp only
    unfold resolve;rw[T];dsimp only
    rw[U];rfl
   rw[this];simp only[Sem.runT,Array.append_empty]
  obtain⟨h1,h2⟩:=yZ L
  have M:stepG P m (dZ f (cs++base)) w=.go (dZ (Frame.finish {f with defers:={target:=.fn q n,args:=d++c.args.map f.eval}::f.defers} undef) (cs++base)) w (seen P f.fn #[]):=by
   rw[dX A.run];have F:=qA A.fs.base.ne
   have a1:stepG.exec P m true f (cs++base) none w=stepG.apply P true f (cs++base) none (execOp f.eval o) w:=by
    obtain⟨gf,a3,a4,defers,mode,kind,ro⟩:=f
    dsimp only at ht t H;subst ht;subst H;simp only[stepG.exec,N,Option.map_some,Option.getD_some]
    rw[t,if_pos rfl];simp only[stepG.oper,Frame.oper?,N]
   rw[a1];simp[stepG.apply,h1,h2,F,GStep.after,dZ]
  have hs:seen P f.fn #[]=#[]:=by unfold seen;rfl
  rw[hs]at M;exact⟨_,M,⟨g,_,cs,A.bound,rfl,l9 (A.fs.defer hd) (Nat.le_refl _) kE ha,A.stk⟩,A.rel⟩
end
end Go.Am
namespace Go.Ren
open Go.Conc hiding mem_ofEvents
open Go.ConcN (PermW)
def inB(S:Nat->Prop):Loc->Prop
 | .cell a=>S a.block
 | .obj r=>S r
 |_=>False
theorem yx{S:Nat->Prop}{B:Nat}(h:∀b,S b->b<B){l:Loc}(a:inB S l):l.low B/\l.isMemory=true:=by
 cases l<;>first|exact⟨h _ a,rfl⟩|exact a.elim
theorem kH{S T:Nat->Prop}{l:Loc}(h:inB S l)(k:inB T l):∃b,S b/\T b:=by
 cases l<;>first|exact⟨_,h,k⟩|exact h.elim
structure TI(W:Nat->Prop)(O D:Nat->Nat->Prop)(n B:Nat)(t:Trace):Prop where
 quiet:Quiet (inB W) t
 own:∀i,i<n->∀l,inB (O i) l->Perm t i l
 rd:∀i,i<n->∀l,inB (D i) l->PermW t i l
 nr:∀said,¬Race said t
 gs:∀(i:Nat) (op:MemOp),t[i]?=some op->op.g<n
 low:∀op∈t,op.act.low B
structure Own(W:Nat->Prop)(O D:Nat->Nat->Prop)(n B:Nat):Prop where
 oo:∀i j b,i<n->j<n->O i b->O j b->i=j
 od:∀i j b,i<n->j<n->O i b->¬D j b
 ow:∀i b,i<n->O i b->¬W b
 dw:∀i b,i<n->D i b->¬W b
 G9:∀i b,i<n->O i b->b<B
 YF:∀i b,i<n->D i b->b<B
 wV:∀b,W b->b<B
section
variable{W:Nat->Prop}{O D:Nat->Nat->Prop}{n B B':Nat}{t u:Trace}
def IY(W:Nat->Prop)(i:Nat)(e:Event):Prop:=∀x,(MemAct.ofEvent e).touch?=some x->inB W x.loc/\x.kind≠.plain/\(x.kind=.said->i=0)
def with_(O:Nat->Nat->Prop)(i B B':Nat):Nat->Nat->Prop:=fun j b=>O j b∨(j=i/\B<=b/\b<B')
theorem Own.grow(h:Own W O D n B){i:Nat}(o:i<n)(f:B<=B'):Own W (with_ O i B B') D n B':=by
 refine⟨?_,?_,?_,fun j b a hd=>h.dw j b a hd,?_,fun j b a hd=>Nat.lt_of_lt_of_le (h.YF j b a hd) f,fun b m=>Nat.lt_of_lt_of_le (h.wV b m) f⟩
 ·rintro j k b a d (c|⟨rfl,c,e⟩) (g|⟨rfl,g,p⟩)
  ·exact h.oo j k b a d c g
  ·have:=h.G9 j b a c;omega
  ·have:=h.G9 k b d g;omega
  ·rfl
 ·rintro j k b a d (c|⟨rfl,c,e⟩) hd
  ·exact h.od j k b a d c hd
  ·have:=h.YF k b d hd;omega
 ·rintro j b a (c|⟨rfl,c,e⟩) l
  ·exact h.ow j b a c l
  ·have:=h.wV b l;omega
 ·rintro j b a (c|⟨rfl,c,e⟩)
  ·exact Nat.lt_of_lt_of_le (h.G9 j b a c) f
  ·exact e
theorem MW(c:∀op∈t,op.act.low B){l:Loc}(h:¬l.low B)(j:l.isMemory=true)(g:Nat):Perm t g l:=by
 intro i a d e;obtain⟨x,f,b⟩:=touch_of d
 have:=c x (Array.mem_of_getElem? f)
 exfalso;apply h;rw[←e];obtain⟨k,o,pos,act⟩:=x
 dsimp only at b this;cases act with
 |access e=>simp only[MemAct.touch?,Option.some.injEq]at b;subst b;exact this
 |mark m=>
  cases m<;>simp only[MemAct.touch?,Option.some.injEq,reduceCtorEq]at b
  all_goals (subst b;exact this)
 |_=>cases b
theorem TI.step(h:TI W O D n B t)(w:Own W O D n B){i:Nat}(y:i<n)(Z:B<=B'){X:Event->Prop}(hX:∀e,X e->IY W i e){es:Array Event}{fn:FuncId}{pos:String}
  (L:∀e∈es,gU X B' (fun b=>with_ O i B B' i b) (D i) e):TI W (with_ O i B B') D n B' (t++MemOp.ofEvents i fn pos es):=by
 have v:=w.grow y Z
 have P:∀op∈MemOp.ofEvents i fn pos es,op.g=i:=fun op d=>by obtain⟨e,_,rfl⟩:=Go.Conc.mem_ofEvents d;rfl
 have touch:∀op∈MemOp.ofEvents i fn pos es,∀x,op.act.touch?=some x->(inB W x.loc/\x.kind≠.plain/\(x.kind=.said->i=0))∨inB (with_ O i B B' i) x.loc∨(inB (D i) x.loc/\x.write=false)∨x.loc.isMemory=false:=by
  intro op d x z;obtain⟨e,Q,rfl⟩:=Go.Conc.mem_ofEvents d
  rcases L e Q with o|o
  ·exact .inl (hX e o.1 x z)
  ·obtain⟨loc,wr,R⟩:=e
   cases loc with
   |cell a=>
    simp only[MemAct.ofEvent,MemAct.touch?,Option.some.injEq]at z;subst z;rcases o with o|⟨p,c⟩
    ·exact .inr (.inl o)
    ·exact .inr (.inr (.inl ⟨p,c⟩))
   |obj r=>
    have:x.loc=.obj r/\(wr=false->x.write=false):=by
     cases wr<;>cases R<;>simp only[MemAct.ofEvent,MemAct.touch?,Option.some.injEq,reduceCtorEq]at z
     all_goals (subst z;first|exact⟨rfl,fun _=>rfl⟩|exact⟨rfl,fun h=>by cases h⟩)
    rw[this.1];rcases o with o|⟨p,c⟩
    ·exact .inr (.inl o)
    ·exact .inr (.inr (.inl ⟨p,this.2 c⟩))
   |mark m=>
    have T:vM m=true:=o
    cases m<;>first|(simp[MemAct.ofEvent,MemAct.touch?]at z;done)|cases T
   |output=>simp only[MemAct.ofEvent,MemAct.touch?,Option.some.injEq]at z;subst z;exact .inr (.inr (.inr rfl))
   |_=>exact absurd o id
 refine⟨h.quiet.app fun op d x z U=>?_,fun j E l s=>?_,fun j E l s=>?_,fun M=>?_,fun k op d=>?_,fun op d=>?_⟩
 ·rcases touch op d x z with⟨_,c,q⟩|c|⟨c,_⟩|c
  ·exact⟨c,fun e=>(P op d).trans (q e)⟩
  ·obtain⟨b,q,A⟩:=kH c U;exact absurd A (v.ow i b y q)
  ·obtain⟨b,q,A⟩:=kH c U;exact absurd A (v.dw i b y q)
  ·have:=(yx w.wV U).2;rw[c]at this;cases this
 ·have V:Perm t j l:=by
   by_cases N:inB (O j) l
   ·exact h.own j E l N
   ·refine MW h.low (fun f=>N ?_) (yx (fun b F=>v.G9 j b E F) s).2 j;cases l with
    |cell a=>rcases s with s|⟨_,p,_⟩;exact s;exact absurd f (by simp[Loc.low];omega)
    |obj r=>rcases s with s|⟨_,p,_⟩;exact s;exact absurd f (by simp[Loc.low];omega)
    |_=>exact s
  refine V.app fun op d x z e=>?_
  rw[P op d];rcases touch op d x z with⟨c,_⟩|c|⟨c,_⟩|c
  ·rw[e]at c;obtain⟨b,q,A⟩:=kH s c;exact absurd A (v.ow j b E q)
  ·rw[e]at c;obtain⟨b,q,A⟩:=kH s c;exact v.oo i j b y E A q
  ·rw[e]at c;obtain⟨b,q,A⟩:=kH s c;exact absurd A (v.od j i b E y q)
  ·rw[e]at c;have:=(yx (fun b F=>v.G9 j b E F) s).2;rw[c]at this;cases this
 ·refine(h.rd j E l s).app fun op d x z e hw=>?_
  exfalso;rcases touch op d x z with⟨c,_⟩|c|⟨_,c⟩|c
  ·rw[e]at c;obtain⟨b,q,A⟩:=kH s c;exact v.dw j b E q A
  ·rw[e]at c;obtain⟨b,q,A⟩:=kH s c;exact v.od i j b y E A q
  ·rw[c]at hw;cases hw
  ·rw[e]at c;have:=(yx (fun b F=>v.YF j b E F) s).2;rw[c]at this;cases this
 ·refine noRace_append (h.nr M) P fun k a Y op d b F J=>?_
  rcases touch op d b F with⟨p,c,q⟩|c|⟨c,q⟩|c
  ·exact h.quiet.known p c (fun e=>q e) k a Y J
  ·have V:Perm t i b.loc:=by
    by_cases N:inB (O i) b.loc
    ·exact h.own i y _ N
    ·refine MW h.low (fun f=>N ?_) (yx (fun b F=>v.G9 i b y F) c).2 i;revert c f;cases b.loc with
     |cell a=>intro c f;rcases c with c|⟨_,p,_⟩;exact c;exact absurd f (by simp[Loc.low];omega)
     |obj r=>intro c f;rcases c with c|⟨_,p,_⟩;exact c;exact absurd f (by simp[Loc.low];omega)
     |_=>intro c;exact c.elim
   exact V k a Y J.1
  ·exact h.rd i y _ c k a Y J.1 (J.2.2.1.resolve_right (by simp[q]))
  ·have:=J.2.1;rw[J.1]at this;rw[c]at this;cases this
 ·rcases getElem?_append_cases d with⟨_,p⟩|⟨_,p⟩
  ·exact h.gs k op p
  ·rw[P op p];exact y
 ·rcases Array.mem_append.1 d with p|p
  ·exact MemAct.low_mono Z (h.low op p)
  ·obtain⟨e,Q,rfl⟩:=Go.Conc.mem_ofEvents p
   rcases L e Q with o|o
   ·exact o.2
   ·obtain⟨loc,wr,R⟩:=e
    cases loc with
    |cell a=>
     rcases o with o|⟨p,_⟩
     ·exact v.G9 i _ y o
     ·exact v.YF i _ y p
    |obj r=>
     have:r<B':=by
      rcases o with o|⟨p,_⟩
      ·exact v.G9 i _ y o
      ·exact v.YF i _ y p
     cases wr<;>cases R<;>exact this
    |mark m=>
     have T:vM m=true:=o
     cases m<;>first|trivial|cases T
    |output=>trivial
    |_=>exact absurd o id
def qw(O:Nat->Nat->Prop)(n:Nat)(M H:Nat->Prop)(j b:Nat):Prop:=if j=0 then O 0 b/\¬M b/\¬H b else if j=n then H b else O j b
def qx(D:Nat->Nat->Prop)(n:Nat)(M N:Nat->Prop)(j b:Nat):Prop:=if j=0 then D 0 b∨M b else if j=n then N b else D j b
theorem Own.fork(w:Own W O D n B)(l:0<n){M H N:Nat->Prop}(s:∀b,M b->O 0 b)(o:∀b,H b->O 0 b/\¬M b)(C:∀b,N b->D 0 b∨M b):Own W (qw O n M H) (qx D n M N) (n+1) B:=by
 have f:∀j b,j<n+1->qw O n M H j b->(j<n/\O j b/\¬M b/\(j=0->¬H b))∨(j=n/\H b):=by
  intro j b q h;unfold qw at h;split at h
  ·rename_i e;subst e;exact .inl ⟨l,h.1,h.2.1,fun _=>h.2.2⟩
  ·rename_i e;split at h
   ·rename_i v;exact .inr ⟨v,h⟩
   ·refine .inl ⟨by omega,h,fun E=>?_,fun v=>absurd v e⟩;exact e (w.oo j 0 b (by omega) l h (s b E))
 have x:∀j b,j<n+1->qx D n M N j b->∃k,k<n/\(D k b∨M b):=by
  intro j b q h;unfold qx at h;split at h
  ·exact⟨0,l,h⟩
  ·split at h
   ·exact⟨0,l,C b h⟩
   ·exact⟨j,by omega,.inl h⟩
 refine⟨fun i j b m q h k=>?_,fun i j b m q h k=>?_,fun i b m h=>?_,fun i b m h=>?_,fun i b m h=>?_,fun i b m h=>?_,w.wV⟩
 ·rcases f i b m h with⟨g,d,z,A⟩|⟨g,d⟩<;>rcases f j b q k with⟨y,r,J,F⟩|⟨y,r⟩
  ·exact w.oo i j b g y d r
  ·have:=w.oo i 0 b g l d (o b r).1;exact absurd r (A this)
  ·have:=w.oo j 0 b y l r (o b d).1;exact absurd d (F this)
  ·omega
 ·obtain⟨a,p,c⟩:=x j b q k
  rcases f i b m h with⟨g,d,z,A⟩|⟨g,d⟩
  ·rcases c with c|c
   ·exact w.od i a b g p d c
   ·exact z c
  ·rcases c with c|c
   ·exact w.od 0 a b l p (o b d).1 c
   ·exact(o b d).2 c
 ·rcases f i b m h with⟨g,d,_⟩|⟨g,d⟩
  ·exact w.ow i b g d
  ·exact w.ow 0 b l (o b d).1
 ·obtain⟨a,p,c⟩:=x i b m h
  rcases c with c|c
  ·exact w.dw a b p c
  ·exact w.ow 0 b l (s b c)
 ·rcases f i b m h with⟨g,d,_⟩|⟨g,d⟩
  ·exact w.G9 i b g d
  ·exact w.G9 0 b l (o b d).1
 ·obtain⟨a,p,c⟩:=x i b m h
  rcases c with c|c
  ·exact w.YF a b p c
  ·exact w.G9 0 b l (s b c)
theorem Du{x y:MemOp}{n:Nat}(a:x.act=.go n)(b:y.act=.start){op:MemOp}(h:op∈#[x,y]):op.act.touch?=none:=by
 simp only[List.mem_toArray,List.mem_cons,List.not_mem_nil,or_false]at h;rcases h with rfl|rfl
 ·rw[a];rfl
 ·rw[b];rfl
theorem jf{S T:Nat->Prop}(h:∀b,S b->T b){l:Loc}(a:inB S l):inB T l:=by
 cases l<;>first|exact h _ a|exact a.elim
theorem Dv{S T U:Nat->Prop}(h:∀b,S b->T b∨U b){l:Loc}(a:inB S l):inB T l∨inB U l:=by
 cases l<;>first|exact h _ a|exact a.elim
theorem TI.fork(h:TI W O D n B t)(F:0<n){x y:MemOp}(o:x.g=0/\x.act=.go n)(p:y.g=n/\y.act=.start)(h0:Go.Conc.Deaf t 0=0)
  {M H N:Nat->Prop} (V:∀b,M b->O 0 b) (X:∀b,H b->O 0 b/\¬M b) (Y:∀b,N b->D 0 b∨M b):TI W (qw O n M H) (qx D n M N) (n+1) B (t++#[x,y]):=by
 have U:Go.Conc.Deaf t n=0:=Go.ConcN.Deaf_absent fun i op L e=>by have:=h.gs i op L;omega
 have f:∀op∈#[x,y],∀b,op.act.touch?=some b->False:=fun op c b d=>by rw[Du o.2 p.2 c]at d;cases d
 have q:∀{i:Nat} {a:Touch},touchAt (t++#[x,y]) i=some a->touchAt t i=some a:=by
  intro i a r;obtain⟨z,Z,s⟩:=touch_of r
  rcases getElem?_append_cases Z with⟨_,P⟩|⟨_,Q⟩
  ·rw[touchAt_of P];exact s
  ·exact(f z Q a s).elim
 have up:∀j l,Perm t j l->Perm (t++#[x,y]) j l:=fun j l R=>R.app fun op c b d _=>(f op c b d).elim;have v:∀j l,PermW t j l->PermW (t++#[x,y]) j l:=fun j l R=>R.app fun op c b d _ _=>(f op c b d).elim;refine⟨h.quiet.app fun op c b d _=>(f op c b d).elim,fun j hj l k=>?_,fun j hj l k=>?_,fun w=>?_,fun i op L=>?_,fun op c=>?_⟩
 ·by_cases m:j=0
  ·subst m;exact up 0 l (h.own 0 F l (jf (fun b d=>by simp only[qw,if_true]at d;exact d.1) k))
  ·by_cases A:j=n
   ·subst A;have:inB (O 0) l:=jf (fun b d=>by simp only[qw,if_neg m,if_true]at d;exact(X b d).1) k
    exact fun i a r e=>Go.ConcN.fork_knows o p h0 U (h.own 0 F l this i a (q r) e)
   ·exact up j l (h.own j (by omega) l (jf (fun b d=>by simp only[qw,if_neg m,if_neg A]at d;exact d) k))
 ·have C:inB (D 0) l∨inB M l->PermW t 0 l:=by
   rintro(x|x)
   ·exact h.rd 0 F l x
   ·exact PermW.of (h.own 0 F l (jf V x))
  by_cases m:j=0
  ·subst m;exact v 0 l (C (Dv (fun b d=>by simp only[qx,if_true]at d;exact d) k))
  ·by_cases A:j=n
   ·subst A;have:inB (D 0) l∨inB M l:=Dv (fun b d=>by simp only[qx,if_neg m,if_true]at d;exact Y b d) k
    exact fun i a r e hw=>Go.ConcN.fork_knows o p h0 U (C this i a (q r) e hw)
   ·exact v j l (h.rd j (by omega) l (jf (fun b d=>by simp only[qx,if_neg m,if_neg A]at d;exact d) k))
 ·have e:t++#[x,y]=(t++#[x])++#[y]:=by apply Array.ext';simp
  rw[e];refine noRace_append (g:=n) (noRace_append (g:=0) (h.nr w) (fun op c=>by simp at c;rw[c];exact o.1) (fun i a _ op c b d _=>(f op (by simp at c⊢;exact .inl c) b d).elim))
   (fun op c=>by simp at c;rw[c];exact p.1) (fun i a _ op c b d _=>(f op (by simp at c⊢;exact .inr c) b d).elim)
 ·rcases getElem?_append_cases L with⟨_,T⟩|⟨_,E⟩
  ·exact Nat.lt_succ_of_lt (h.gs i op T)
  ·simp only[List.mem_toArray,List.mem_cons,List.not_mem_nil,or_false]at E;rcases E with rfl|rfl
   ·rw[o.1];omega
   ·rw[p.1];omega
 ·rcases Array.mem_append.1 c with J|J
  ·exact h.low op J
  ·simp only[List.mem_toArray,List.mem_cons,List.not_mem_nil,or_false]at J;rcases J with rfl|rfl
   ·rw[o.2];trivial
   ·rw[p.2];trivial
end
end Go.Ren
namespace Go.Ren
open Go.Conc hiding mem_ofEvents Deaf
open Go.ConcN (PermW)
def Vec{a:Type}(r:Nat->a->a->Prop)(n:Nat)(b v:Nat->a):Prop:=∃i,i<n/\r i (b i) (v i)/\∀j,j≠i->b j=v j
theorem I9{d:Type}(r:Nat->d->d->Prop):∀(n:Nat) (v:Nat->d),(∀i,i<n->Acc (r i) (v i))->Acc (Vec r n) v
 |0,v,_=>.intro _ fun e ⟨i,l,_⟩=>absurd l (Nat.not_lt_zero _)
 |n+1,v,h=>by
  have m:∀a,Acc (r n) a->∀v:Nat->d,v n=a->(∀i,i<n->Acc (r i) (v i))->Acc (Vec r (n+1)) v:=by
   intro a u;induction u with
   |intro a _ o=>
    intro v f b;have w:=I9 r n v b
    revert f b;induction w with
    |intro v _ p=>
     intro f b;refine .intro _ fun e q=>?_
     obtain⟨i,l,s,g⟩:=q
     rcases Nat.lt_or_ge i n with t|x
     ·refine p e ⟨i,t,s,g⟩ ?_ fun k j=>?_
      ·rw[g n (by omega)];exact f
      ·by_cases c:k=i
       · subst c;exact(b k j).inv s
       · rw[g k c];exact b k j
     ·obtain rfl:i=n:=by omega
      refine o (e i) (f▸s) e rfl fun k j=>?_
      rw[g k (by omega)];exact b k j
  exact m (v n) (h n (by omega)) v rfl fun i l=>h i (by omega)
abbrev Where:=(Nat->Prop)×Goroutine×World
def Nx(P:Program)(m:Bool)(I:World->Prop)(D:Nat->Prop)(Stop:(Nat->Prop)->Goroutine->World->Prop)(x' x:Where):Prop:=
 ¬Stop x.1 x.2.1 x.2.2/\∃a b,aB x.1 D x.2.2 a/\I a/\stepG P m x.2.1 a=.go x'.2.1 x'.2.2 b/\x'.1=grow x.1 a x'.2.2
section
variable{P:Program}{W:Nat->Prop}{O D:Nat->Nat->Prop}{gs:Array Goroutine}{w a:World}{sl:Option (Nat×Nat)}{t:Trace}{i:Nat}{g g':Goroutine}{es:Array Event}{X:Event->Prop}
theorem uQ(O:Nat->Nat->Prop)(i:Nat)(w a:World):with_ O i w.heap.size a.heap.size i=grow (O i) w a:=by
 funext b;apply propext;unfold with_ grow;simp
theorem Dy{j:Nat}(h:j≠i)(B c:Nat):with_ O i B c j=O j:=by
 funext b;apply propext;unfold with_;simp[h]
end
end Go.Ren
namespace Go.Ren
open Go.Conc hiding mem_ofEvents Deaf
section
variable{P:Program}{Fin:Machine->Outcome->World->Trace->Prop}{K b:Machine->Trace->Prop}{m m':Machine}{t:Trace}{ops:Array MemOp}
inductive aH(P:Program)(Fin:Machine->Outcome->World->Trace->Prop)(K:Machine->Trace->Prop):Machine->Trace->Prop
 |here {m:Machine} {t:Trace} (h:K m t):aH P Fin K m t
 |ends {m:Machine} {t:Trace} {o:Outcome} {w:World} {ops:Array MemOp} (h:stepT P m=(.ended o w,ops)) (f:Fin m o w (t++ops)):aH P Fin K m t
 |next {m:Machine} {t:Trace} {m':Machine} {ops:Array MemOp} (h:stepT P m=(.next m',ops)) (k:aH P Fin K m' (t++ops)):aH P Fin K m t
theorem aH.bind(h:aH P Fin K m t)(k:∀m t,K m t->aH P Fin b m t):aH P Fin b m t:=by
 induction h with
 |here h=>exact k _ _ h
 |ends h f=>exact .ends h f
 |next h _ c=>exact .next h c
theorem aH.mono(h:aH P Fin K m t)(k:∀m t,K m t->b m t):aH P Fin b m t:=h.bind fun m t x=>.here (k m t x)
theorem aH.YN{c:Type _}{r:c->c->Prop}{J:c->Machine->Trace->Prop}
  (h:∀a m t,J a m t->K m t∨(∃o w ops,stepT P m=(.ended o w,ops)/\Fin m o w (t++ops))∨(∃m' ops,stepT P m=(.next m',ops)/\(K m' (t++ops)∨∃d,r d a/\J d m' (t++ops))))
  {a:c} (e:Acc r a):∀{m:Machine} {t:Trace},J a m t->aH P Fin K m t:=by
 induction e with
 |intro a _ f=>
  intro m t g;rcases h a m t g with x|⟨o,w,ops,x,y⟩|⟨m',ops,x,y|⟨d,y,z⟩⟩
  ·exact .here x
  ·exact .ends x y
  ·exact .next x (.here y)
  ·exact .next x (f d y z)
theorem RG{n:Nat}(h:stepT P m=(.next m',ops)):runNT P (n+1) m t=runNT P n m' (t++ops):=by
 simp[runNT,h]
theorem WX{n:Nat}(h:stepT P m=(.next m',ops)):runN P (n+1) m=runN P n m':=by
 simp[runN,step,h]
theorem aH.run(h:aH P Fin (fun _ _=>False) m t):∃N last o a c,runNT P (N+1) m t=(.ended o a,c)/\runN P N m=.next last/\step P last=.ended o a/\Fin last o a c:=by
 induction h with
 |here h=>exact h.elim
 | @ends m t o w ops h f=>exact⟨0,m,o,w,t++ops,by simp[runNT,h],rfl,by simp[step,h],f⟩
 | @next m t m' ops h _ e=>
  obtain⟨N,last,o,a,c,g,i,j,k⟩:=e
  exact⟨N+1,last,o,a,c,by rw[RG h];exact g,by rw[WX h];exact i,j,k⟩
end
end Go.Ren
namespace Go.Ren
open Go.Conc hiding mem_ofEvents
open Go.ConcN (PermW RelBy)
section
variable{W:Nat->Prop}{O D:Nat->Nat->Prop}{n B:Nat}{t u:Trace}{a:Addr}{k r:Nat}
def adb(W:Nat->Prop)(x:Touch):Prop:=x.loc.isMemory=true->inB W x.loc
structure Over(a:Addr)(W:Nat->Prop)(t:Trace)(k r:Nat):Prop where
 rel:RelBy a t k r
 agw:∀i x,r<i->t.g? i=some k->touchAt t i=some x->adb W x
structure Gone(W:Nat->Prop)(t:Trace)(k:Nat):Prop where
 over:∀i,t.g? i=some k->t.counts i->∃j,t.g? j=some 0/\HappensBefore t i j
 known:∀i x,t.g? i=some k->touchAt t i=some x->¬adb W x->Knows t 0 i
theorem g?_of{i:Nat}{op:MemOp}(h:t[i]?=some op):t.g? i=some op.g:=by simp[Trace.g?,h]
theorem rV{i g:Nat}(h:t.g? i=some g):∃op,t[i]?=some op/\op.g=g:=by
 unfold Trace.g? at h;obtain⟨op,b,c⟩:=Option.map_eq_some_iff.1 h;exact⟨op,b,c⟩
theorem lt_of_g?{i g:Nat}(h:t.g? i=some g):i<t.size:=by
 obtain⟨op,b,_⟩:=rV h
 exact lt_size_of_getElem? b
theorem Over.app(h:Over a W t k r)(j:∀i,t.size<=i->(t++u).g? i=some k->¬(t++u).counts i)(l:∀op∈u,op.g=k->∀x,op.act.touch?=some x->adb W x):Over a W (t++u) k r:=by
 refine⟨h.rel.app j,fun i x m o b=>?_⟩;obtain⟨op,e,f⟩:=rV o
 rcases getElem?_append_cases e with⟨p,c⟩|⟨_,d⟩
 ·refine h.agw i x m (by rw[g?_of c,f]) ?_;rw[touchAt_old p]at b;exact b
 ·rw[touchAt_of e]at b;exact l op d f x b
theorem Over.appNot(h:Over a W t k r)(d:∀op∈u,op.g≠k):Over a W (t++u) k r:=
 h.app (fun i m f=>by
  obtain⟨op,j,l⟩:=rV f
  rcases getElem?_append_cases j with⟨o,_⟩|⟨_,b⟩
  ·omega
  ·exact absurd l (d op b)) (fun op c e=>absurd e (d op c))
theorem Gone.app(h:Gone W t k)(s:∀i,t.size<=i->(t++u).g? i=some k->¬(t++u).counts i)(v:∀op∈u,op.g=k->∀x,op.act.touch?=some x->adb W x):Gone W (t++u) k:=by
 refine⟨fun i e o=>?_,fun i x e f p=>?_⟩
 ·obtain⟨op,l,m⟩:=rV e
  rcases getElem?_append_cases l with⟨c,b⟩|⟨c,d⟩
  ·obtain⟨j,q,w⟩:=h.over i (by rw[g?_of b,m]) ((counts_old c).1 o)
   exact⟨j,by rw[g?_old (lt_of_g? q)];exact q,hb_app u w⟩
  ·exact absurd o (s i c e)
 ·obtain⟨op,l,m⟩:=rV e
  rcases getElem?_append_cases l with⟨c,b⟩|⟨c,d⟩
  ·rw[touchAt_old c]at f;exact(h.known i x (by rw[g?_of b,m]) f p).app u
  ·rw[touchAt_of l]at f;exact absurd (v op d m x f) p
theorem Gone.appNot(h:Gone W t k)(d:∀op∈u,op.g≠k):Gone W (t++u) k:=
 h.app (fun i m f=>by
  obtain⟨op,j,l⟩:=rV f
  rcases getElem?_append_cases j with⟨o,_⟩|⟨_,b⟩
  ·omega
  ·exact absurd l (d op b)) (fun op c e=>absurd e (d op c))
theorem Gone.widen{d:Nat->Prop}(h:Gone W t k)(e:∀b,W b->d b):Gone d t k:=
 ⟨h.over,fun i x f g j=>h.known i x f g fun l=>j fun c=>jf e (l c)⟩
theorem Over.gone{z:MemOp}(h:Over a W t k r)(l:z.g=0/\z.act=.mark (.acquire a))(C:k≠0)(E:NoRelease a t)(h0:Go.Conc.Deaf t 0=0):Gone W (t++#[z]) k:=by
 have q:r<t.size:=lt_of_act? h.rel.act
 have d:(t++#[z])[t.size]?=some z:=by rw[Array.getElem?_append_right (Nat.le_refl _)];simp
 have e:(t++#[z]).heard t.size:=⟨0,by rw[g?_of d,l.1],by rw[deaf_old (Nat.le_refl _)];exact h0⟩
 have f:HappensBefore (t++#[z]) r t.size:=
  .single (.inr ⟨.marked q (.inr (by rw[act?_old q];exact h.rel.act)) (by rw[act?_of d,l.2]) (fun i y s=>by rw[act?_old s];exact E i),(heard_old q).2 h.rel.heard,e⟩)
 have before:∀i,t.g? i=some k->i<=r->HappensBefore (t++#[z]) i t.size:=by
  intro i j L;rcases Nat.lt_or_ge i r with b|F
  ·have v:=lt_of_g? j
   exact .trans (.single (.inl ⟨b,k,by rw[g?_old v];exact j,by rw[g?_old q];exact h.rel.g⟩)) f
  ·obtain rfl:i=r:=by omega
   exact f
 have m:∀i,(t++#[z]).g? i=some k->i<t.size/\t.g? i=some k:=by
  intro i j;obtain⟨op,y,s⟩:=rV j
  rcases getElem?_append_cases y with⟨o,w⟩|⟨_,p⟩
  ·exact⟨o,by rw[g?_of w,s]⟩
  ·simp only[List.mem_toArray,List.mem_cons,List.not_mem_nil,or_false]at p;subst p;exact absurd (s.symm.trans l.1) C
 refine⟨fun i j H=>?_,fun i x j A J=>?_⟩
 ·obtain⟨o,c⟩:=m i j
  refine⟨t.size,by rw[g?_of d,l.1],before i c (Nat.le_of_not_lt fun b=>h.rel.after i b c ((counts_old o).1 H))⟩
 ·obtain⟨o,c⟩:=m i j
  rw[touchAt_old o]at A;exact⟨t.size,z,d,l.1,.inr (before i c (Nat.le_of_not_lt fun b=>J (h.agw i x b c A)))⟩
def Oi(W:Nat->Prop)(B:Nat)(j b:Nat):Prop:=j=0/\b<B/\¬W b
def rF:Nat->Nat->Prop:=fun _ _=>False
theorem TI.alone(h:TI W O D n B t)(o:∀k,k≠0->k<n->Gone W t k):TI W (Oi W B) rF n B t:=by
 refine⟨h.quiet,fun j p l c=>?_,fun j p l c=>?_,h.nr,h.gs,h.low⟩
 ·have q:j=0:=by cases l<;>first|exact c.1|exact c.elim
  subst q;have b:l.isMemory=true/\¬inB W l:=by
   cases l<;>first|exact⟨rfl,c.2.2⟩|exact c.elim
  intro i x f e;obtain⟨op,d,v⟩:=touch_of f
  by_cases m:op.g=0
  ·rw[←m];exact knows_own d
  ·refine(o op.g m (h.gs i op d)).known i x (g?_of d) f fun s=>?_
   rw[←e]at b;exact b.2 (s b.1)
 ·cases l<;>exact c.elim
theorem TI.less{e f:Nat->Nat->Prop}(h:TI W O D n B t)(g:∀i b,e i b->O i b)(j:∀i b,f i b->D i b∨O i b):TI W e f n B t:=
 ⟨h.quiet,fun i c l d=>h.own i c l (jf (g i) d),fun i c l d=>(Dv (j i) d).elim (h.rd i c l) (fun x=>PermW.of (h.own i c l x)),h.nr,h.gs,h.low⟩
theorem TI.share{S:Nat->Prop}(h:TI W O D n B t)(e:Quiet (inB S) t):TI (fun b=>W b∨S b) O D n B t:=
 ⟨fun i op x c d f=>(Dv (T:=W) (U:=S) (fun _ y=>y) f).elim (h.quiet i op x c d) (e i op x c d),h.own,h.rd,h.nr,h.gs,h.low⟩
theorem TI.still(h:TI W O D n B t){z:MemOp}(s:z.g<n)(v:z.act.touch?=none)(e:z.act.low B):TI W O D n B (t++#[z]):=by
 have o:∀op∈#[z],∀b,op.act.touch?=some b->False:=fun op c b d=>by simp only[List.mem_toArray,List.mem_cons,List.not_mem_nil,or_false]at c;subst c;rw[v]at d;cases d
 refine⟨h.quiet.app fun op c b d _=>(o op c b d).elim,fun i f l e=>(h.own i f l e).app fun op c b d _=>(o op c b d).elim,fun i f l e=>(h.rd i f l e).app fun op c b d _ _=>(o op c b d).elim,
  fun j=>noRace_append (g:=z.g) (h.nr j) (fun op c=>by simp at c;rw[c]) (fun i a _ op c b d _=>(o op c b d).elim),fun i op f=>?_,fun op c=>?_⟩
 ·rcases getElem?_append_cases f with⟨_,q⟩|⟨_,m⟩
  ·exact h.gs i op q
  ·simp only[List.mem_toArray,List.mem_cons,List.not_mem_nil,or_false]at m;subst m;exact s
 ·rcases Array.mem_append.1 c with p|p
  ·exact h.low op p
  ·simp only[List.mem_toArray,List.mem_cons,List.not_mem_nil,or_false]at p;subst p;exact e
end
end Go.Ren
namespace Go.Ren
open Go.Conc hiding Goes
section
variable{P:Program}{m:Bool}{I:World->Prop}{X:Event->Prop}{D:Nat->Prop}{S T:Goroutine->Prop}{g g':Goroutine}
inductive Idle(P:Program)(m:Bool)(I:World->Prop)(X:Event->Prop)(S:Goroutine->Prop):Goroutine->Prop
 |stop {g:Goroutine} (h:S g):Idle P m I X S g
 |step {g:Goroutine} (hs:g.status=.running) (f:World->Goroutine) (es:World->Array Event) (h:∀w,I w->stepG P m g w=.go (f w) w (es w)/\∀e∈es w,X e/\(MemAct.ofEvent e).low w.heap.size)
   (k:∀w,I w->Idle P m I X S (f w)):Idle P m I X S g
theorem Idle.mk(c:g.status=.running)(h:∀w,I w->(stepG P m g w).goes fun g' w' es=>w'=w/\(∀e∈es,X e/\(MemAct.ofEvent e).low w.heap.size)/\Idle P m I X S g'):Idle P m I X S g:=by
 have b:∀w,∃x:Goroutine×Array Event,I w->stepG P m g w=.go x.1 w x.2/\(∀e∈x.2,X e/\(MemAct.ofEvent e).low w.heap.size)/\Idle P m I X S x.1:=by
  intro w;by_cases a:I w
  ·have:=h w a
   cases e:stepG P m g w with
   |go g' w' es=>
    rw[e,goes_go]at this;obtain⟨rfl,d,f⟩:=this
    exact⟨(g',es),fun _=>⟨rfl,d,f⟩⟩
   |_=>rw[e]at this;exact this.elim
  ·exact⟨(g,#[]),fun x=>absurd x a⟩
 refine .step c (fun w=>(Classical.choose (b w)).1) (fun w=>(Classical.choose (b w)).2) (fun w a=>?_) (fun w a=>?_)
 ·have:=Classical.choose_spec (b w) a;exact⟨this.1,this.2.1⟩
 ·have:=Classical.choose_spec (b w) a;exact this.2.2
theorem Idle.go(a:g.status=.running)(h:∀w,I w->stepG P m g w=.go g' w #[])(k:Idle P m I X S g'):Idle P m I X S g:=
 .step a (fun _=>g') (fun _=>#[]) (fun w b=>⟨h w b,by simp⟩) (fun _ _=>k)
theorem Idle.says{a:Array Event}(c:g.status=.running)(h:∀w,I w->stepG P m g w=.go g' w a)(d:∀w,I w->∀e∈a,X e/\(MemAct.ofEvent e).low w.heap.size)(k:Idle P m I X S g'):Idle P m I X S g:=
 .step c (fun _=>g') (fun _=>a) (fun w b=>⟨h w b,d w b⟩) (fun _ _=>k)
theorem Idle.bind(h:Idle P m I X S g)(k:∀g,S g->Idle P m I X T g):Idle P m I X T g:=by
 induction h with
 |stop h=>exact k _ h
 |step a f b h _ c=>exact .step a f b h c
theorem Idle.mono(h:Idle P m I X S g)(k:∀g,S g->T g):Idle P m I X T g:=h.bind fun g x=>.stop (k g x)
theorem quiet{X:Event->Prop}{w:World}:∀e∈(#[]:Array Event),X e/\(MemAct.ofEvent e).low w.heap.size:=by simp
theorem quiet_of{X:Event->Prop}{w:World}{a:Array Event}(h:∀e∈a,False):∀e∈a,X e/\(MemAct.ofEvent e).low w.heap.size:=fun e b=>(h e b).elim
def Says(P:Program)(m:Bool)(I:World->Prop)(a:Array Event)(T:Goroutine->Prop)(g:Goroutine):Prop:=
 g.status=.running/\∃g',(∀w,I w->stepG P m g w=.go g' w a)/\T g'
def kP(P:Program)(m:Bool)(I pre:World->Prop)(upd:World->World)(a:Array Event)(T:Goroutine->Prop)(g:Goroutine):Prop:=
 ∃g',(∀w,I w->pre w->stepG P m g w=.go g' (upd w) a)/\T g'
end
end Go.Ren
namespace Go.Ren
open Go.Conc hiding Goes mem_ofEvents Deaf
open Go.ConcN (WgLive)
open Go.ConcR (KK WgAt stA smA rd wr mk deafBehind_cons deafBehind_one)
section
variable{a b:Type _}
def Ord(rk:a->Nat)(c:a->b->Prop)(Nx:a->b->b->Prop)(d x:a×b):Prop:=(rk d.1<rk x.1/\c d.1 d.2)∨(d.1=x.1/\Nx x.1 d.2 x.2)
theorem TN{rk:a->Nat}{c:a->b->Prop}{Nx:a->b->b->Prop}(h:∀s x,c s x->Acc (Nx s) x):∀(k:Nat) (s:a) (x:b),rk s=k->c s x->Acc (Ord rk c Nx) (s,x):=by
 intro k;induction k using Nat.strongRecOn with
 |_ k l=>
  intro s x o i;have:=h s x i
  clear i;induction this with
  |intro x _ f=>
   refine .intro _ ?_;rintro⟨e,j⟩ (⟨g,d⟩|⟨m,n⟩)
   ·exact l (rk e) (by have:rk e<rk s:=g;omega) e j rfl d
   ·obtain rfl:e=s:=m
    exact f j n
end
section
variable{P:Program}{m:Bool}{I:World->Prop}{X c:Event->Prop}{O D:Nat->Prop}{w w₁:World}{g g':Goroutine}{d:Nat}{es:Array Event}
def hearing(e:Event):Prop:=e.loc≠.mark .disable/\e.loc≠.mark .enable
theorem oP(h:∀e∈es,hearing e)(d:Nat):deafBehind d es=d:=by
 obtain⟨l⟩:=es
 induction l with
 |nil=>rfl
 |cons e l b=>rw[deafBehind_cons,deafBehind_one (h e (by simp)).1 (h e (by simp)).2];exact b fun x a=>h x (by simp at a⊢;exact .inr a)
theorem gU.hearing{B:Nat}{e:Event}(h:gU X B O D e)(a:X e->hearing e):hearing e:=by
 rcases h with h|h
 ·exact a h.1
 ·obtain⟨loc,wr,f⟩:=e
  cases loc with
  |mark m=>
   have b:vM m=true:=h
   cases m<;>first|(exfalso;cases b;done)|exact⟨by simp,by simp⟩
  |_=>exact⟨by simp,by simp⟩
inductive dY(P:Program)(m:Bool)(I:World->Prop)(X:Event->Prop)(D:Nat->Prop)(Stop:Nat->(Nat->Prop)->Goroutine->World->Prop):Nat->(Nat->Prop)->Goroutine->World->Prop
 |stop {d:Nat} {O:Nat->Prop} {g:Goroutine} {w:World} (h:Stop d O g w):dY P m I X D Stop d O g w
 |step {d:Nat} {O:Nat->Prop} {g:Goroutine} {w:World} (hs:g.status=.running) (f:World->Goroutine) (u:World->World) (es:World->Array Event)
   (h:∀w₁,aB O D w w₁->I w₁->stepG P m g w₁=.go (f w₁) (u w₁) (es w₁)/\aT X O D w₁ (u w₁) (es w₁))
   (k:∀w₁,aB O D w w₁->I w₁->dY P m I X D Stop (deafBehind d (es w₁)) (grow O w₁ (u w₁)) (f w₁) (u w₁)):dY P m I X D Stop d O g w
variable{Stop a:Nat->(Nat->Prop)->Goroutine->World->Prop}
theorem dY.bind(h:dY P m I X D Stop d O g w)(k:∀d O g w,Stop d O g w->dY P m I X D a d O g w):dY P m I X D a d O g w:=by
 induction h with
 |stop h=>exact k _ _ _ _ h
 |step b f u es h _ e=>exact .step b f u es h fun w₁ i j=>e w₁ i j
theorem dY.mono(h:dY P m I X D Stop d O g w)(k:∀d O g w,Stop d O g w->a d O g w):dY P m I X D a d O g w:=h.bind fun d O g w x=>.stop (k d O g w x)
theorem Wk.deaf{S:(Nat->Prop)->Goroutine->World->Prop}(n:∀e,X e->hearing e)(k:∀e,X e->c e)(d:Nat)(h:Wk P m I X D S O g w):dY P m I c D (fun o O g w=>o=d/\S O g w) d O g w:=by
 induction h with
 |stop h=>exact .stop ⟨rfl,h⟩
 | @step O g w p f u es h _ q=>
  refine .step p f u es (fun w₁ i j=>⟨(h w₁ i j).1,?_⟩) fun w₁ i j=>?_
  ·have b:=(h w₁ i j).2;exact⟨b.size,b.heap,b.os,b.output,b.tape,fun e l=>(b.ev e l).imp (fun x=>⟨k e x.1,x.2⟩) id⟩
  ·rw[oP (fun e l=>((h w₁ i j).2.ev e l).hearing (n e)) d];exact q w₁ i j
inductive af(P:Program)(m:Bool)(I:World->Prop)(X:Event->Prop)(S:Nat->Goroutine->Prop):Nat->Goroutine->Prop
 |stop {d:Nat} {g:Goroutine} (h:S d g):af P m I X S d g
 |step {d:Nat} {g:Goroutine} (hs:g.status=.running) (f:World->Goroutine) (es:World->Array Event) (h:∀w,I w->stepG P m g w=.go (f w) w (es w)/\∀e∈es w,X e/\(MemAct.ofEvent e).low w.heap.size)
   (k:∀w,I w->af P m I X S (deafBehind d (es w)) (f w)):af P m I X S d g
variable{S T:Nat->Goroutine->Prop}
theorem af.bind(h:af P m I X S d g)(k:∀d g,S d g->af P m I X T d g):af P m I X T d g:=by
 induction h with
 |stop h=>exact k _ _ h
 |step b f es h _ e=>exact .step b f es h e
theorem af.mono(h:af P m I X S d g)(k:∀d g,S d g->T d g):af P m I X T d g:=h.bind fun d g x=>.stop (k d g x)
theorem Idle.deaf{S:Goroutine->Prop}(k:∀e,X e->hearing e)(j:∀e,X e->c e)(d:Nat)(h:Idle P m I X S g):af P m I c (fun l g=>l=d/\S g) d g:=by
 induction h with
 |stop h=>exact .stop ⟨rfl,h⟩
 | @step g n f es h _ o=>
  refine .step n f es (fun w b=>⟨(h w b).1,fun e i=>⟨j e ((h w b).2 e i).1,((h w b).2 e i).2⟩⟩) fun w b=>?_
  rw[oP (fun e i=>k e ((h w b).2 e i).1) d];exact o w b
theorem Says.deaf{T:Goroutine->Prop}(f:∀w,I w->∀e∈es,X e/\(MemAct.ofEvent e).low w.heap.size)(h:Says P m I es T g)(k:∀g,T g->af P m I X S (deafBehind d es) g):af P m I X S d g:=by
 obtain⟨i,g',j,l⟩:=h
 exact .step i (fun _=>g') (fun _=>es) (fun w b=>⟨j w b,f w b⟩) fun w b=>k g' l
theorem jS(O:Nat->Prop)(w:World):grow O w w=O:=by
 funext b;apply propext;unfold grow;constructor
 ·rintro(x|x)
  ·exact x
  ·omega
 ·exact .inl
theorem af.wkD{I':World->Prop}(h:af P m I X S d g)(j:∀w,I' w->I w):dY P m I' X D (fun k l g' b=>S k g'/\l=O/\aB O D w b) d O g w:=by
 have n:∀{d:Nat} {g:Goroutine},af P m I X S d g->∀b,aB O D w b->dY P m I' X D (fun k l g' b=>S k g'/\l=O/\aB O D w b) d O g b:=by
  intro d g h;induction h with
  |stop h=>intro b r;exact .stop ⟨h,rfl,r⟩
  | @step d g p f es h _ q=>
   intro b r;refine .step p f id es (fun w₁ o i=>⟨(h w₁ (j w₁ i)).1,⟨Nat.le_refl _,fun _ _ _=>rfl,rfl,rfl,rfl,fun e s=>.inl ((h w₁ (j w₁ i)).2 e s)⟩⟩) fun w₁ o i=>?_
   show dY P m I' X D _ _ (grow O w₁ w₁) _ _;rw[jS];exact q w₁ (j w₁ i) w₁ (r.trans o)
 exact n h w (.refl w)
structure Pos where
 O:Nat->Prop
 D:Nat->Prop
 d:Nat
 g:Goroutine
 w:World
def NxD(P:Program)(m:Bool)(I:World->Prop)(Stop:(Nat->Prop)->Nat->(Nat->Prop)->Goroutine->World->Prop)(x' x:Pos):Prop:=
 x'.D=x.D/\¬Stop x.D x.d x.O x.g x.w/\∃w₁ es,aB x.O x.D x.w w₁/\I w₁/\stepG P m x.g w₁=.go x'.g x'.w es/\x'.O=grow x.O w₁ x'.w/\x'.d=deafBehind x.d es
theorem dY.acc{St:(Nat->Prop)->Nat->(Nat->Prop)->Goroutine->World->Prop}(h:dY P m I X D (St D) d O g w):Acc (NxD P m I St) ⟨O,D,d,g,w⟩:=by
 induction h with
 |stop h=>exact .intro _ fun x e=>absurd h e.2.1
 | @step d O g w s f u es h _ n=>
  refine .intro _ fun x e=>?_
  obtain⟨j,_,w₁,o,i,k,b,l,hd⟩:=e
  obtain⟨t,v,y,g',z⟩:=x
  dsimp only at i b l hd j;rw[(h w₁ i k).1]at b;injection b with p q r;subst p q r l hd j;exact n w₁ i k
def II(P:Program)(m:Bool)(I:World->Prop)(S:Nat->Goroutine->Prop)(e x:Pos):Prop:=
 ¬S x.d x.g/\∃w₁ b es,I w₁/\stepG P m x.g w₁=.go e.g b es/\e.d=deafBehind x.d es
theorem af.acc(h:af P m I X S d g):∀x:Pos,x.d=d->x.g=g->Acc (II P m I S) x:=by
 induction h with
 | @stop d g h=>intro x e i;exact .intro _ fun y j=>absurd (by rw[e,i];exact h) j.1
 | @step d g s f es h _ n=>
  intro x e i;refine .intro _ fun y j=>?_
  obtain⟨_,w₁,k,o,l,b,hd⟩:=j
  rw[i,(h w₁ l).1]at b;injection b with p q r;subst q r;exact n w₁ l y (by rw[hd,e]) p.symm
def NxQ(P:Program)(e x:Pos):Prop:=x.g.status=.running/\∃w₁ b es,stepG P false x.g w₁=.go e.g b es/\e.d=deafBehind x.d es
theorem uH:∀(q:Nat) (x:Pos),QuitsD P q x.d x.g->Acc (NxQ P) x
 |0,x,h=>.intro _ fun y e=>by have:=h.1;rw[e.1]at this;cases this
 |q+1,x,h=>by
  refine .intro _ fun y e=>?_
  obtain⟨j,w₁,f,es,b,hd⟩:=e
  rcases h with⟨i,_⟩|⟨_,g',k,_,l,n⟩
  ·rw[j]at i;cases i
  ·rw[l w₁]at b;injection b with o r p;subst p;exact uH q y (by rw[hd,←o];exact n)
end
end Go.Ren
namespace Go.Ren
open Go.Conc hiding Goes
open Go.ConcR (DC0)
section
variable{P:Program}{m:Bool}{I:World->Prop}{X:Event->Prop}{S T:Goroutine->Prop}{g g':Goroutine}
def RU(I:World->Prop)(_ a:World):Prop:=I a
theorem yz(c:∃w,I w):∀{n:Nat} {g:Goroutine} {w:World},Go.Conc.Goes P m (RU I) DC0 (fun g _=>S g) n g w->Idle P m I X S g
 |0,g,w,h=>let⟨a,b⟩:=c;.stop (h a b)
 |n+1,g,w,h=>by
  rcases h with h|⟨d,h⟩
  ·obtain⟨a,b⟩:=c
   exact .stop (h a b)
  ·refine Idle.mk d fun a b=>?_
   have:=h a b
   revert this;cases stepG P m g a<;>simp only[GStep.goes,imp_self]
   rintro⟨⟨rfl,rfl⟩,k⟩;exact⟨rfl,by simp,yz c k⟩
theorem aW(n:Nat)(h:∀w,I w->Go.Conc.Goes P m (RU I) DC0 (fun g _=>S g) n g w)(a:∃w,I w):Idle P m I X S g:=let⟨w,b⟩:=a;yz a (h w b)
end
end Go.Ren
namespace Go.Ren
open Go.Conc hiding Goes
open Go.Conc.Lib Go.ConcR.Gen Go.RowKit Go.ConcN Go.ConcN.Gen
open Go.ConcR (KK wgBlock WgAt stA smA rd wr mk DC0)
section
variable{P:Program}{m:Bool}{X:Event->Prop}{L:WgLink}{Wg:Nat}{S T:Goroutine->Prop}
def Lv(L:WgLink)(Wg:Nat)(w:World):Prop:=WgLive L.tWg Wg w
def adR(P:Program)(m:Bool)(X:Event->Prop)(L:WgLink)(Wg:Nat)(T:Goroutine->Prop)(g:Goroutine):Prop:=
 g.status=.running/\∀v:Nat,v<2147483647->kP P m (Lv L Wg) (fun w=>WgAt L.tWg Wg w (v*KK) 0) (fun w=>w.setCell (stA Wg) (.int .u64 ((v+1)*KK))) #[rd (stA Wg),wr (stA Wg)] (Idle P m (Lv L Wg) X (Says P m (Lv L Wg) #[mk .enable] (Idle P m (Lv L Wg) X T))) g
def Xf(P:Program)(m:Bool)(X:Event->Prop)(L:WgLink)(Wg:Nat)(T:Goroutine->Prop):Goroutine->Prop:=
 Idle P m (Lv L Wg) X (Says P m (Lv L Wg) #[mk .disable] (Idle P m (Lv L Wg) X (adR P m X L Wg T)))
theorem RH{a:TypeId}{w:World}(h:WgLive a Wg w):Wg<w.heap.size:=by
 obtain⟨b,sm,h⟩:=h
 exact(Array.getElem?_eq_some_iff.1 h).1
def JX(P:Program)(m:Bool)(X:Event->Prop)(L:WgLink)(Wg:Nat)(T:Goroutine->Prop):Goroutine->Prop:=
 Says P m (Lv L Wg) #[mk .enable] (Idle P m (Lv L Wg) X (Says P m (Lv L Wg) #[mk (.acquire (stA Wg))] (Idle P m (Lv L Wg) X T)))
def aej(P:Program)(m:Bool)(X:Event->Prop)(L:WgLink)(Wg:Nat)(T:Goroutine->Prop):Goroutine->Prop:=fun g=>
 g.status=.running/\kP P m (Lv L Wg) (fun w=>WgAt L.tWg Wg w 0 0) (fun w=>w) #[rd (stA Wg)] (Idle P m (Lv L Wg) X (JX P m X L Wg T)) g
def Xg(P:Program)(m:Bool)(X:Event->Prop)(L:WgLink)(Wg:Nat)(T:Goroutine->Prop):Goroutine->Prop:=fun g=>
 g.status=.running/\g.offers=none/\(∀w a,WgAt L.tWg Wg w a 0->stepG P m g w=.go {g with status:=.blocked} w #[])/\
 kP P m (Lv L Wg) (fun w=>WgAt L.tWg Wg w 0 1) (fun w=>w.setCell (smA Wg) (.int .u32 0)) (semEvents (smA Wg)) (Idle P m (Lv L Wg) X (aej P m X L Wg T)) g
def sG(L:WgLink)(Wg:Nat)(c:Frame)(cs:List Frame)(g:Goroutine):Prop:=
 ∃A:Array Value,g=G ((base L.wait).at ⟨A,[]⟩ [.code (L7 L),.inLoop (L7 L),.inBlock 0]) (c::cs)/\A.size=84/\A[0]?=some (.pointer (some ⟨Wg,0,none⟩))
def aiM(P:Program)(m:Bool)(X:Event->Prop)(L:WgLink)(Wg:Nat)(T A:Goroutine->Prop)(vs:Nat):Goroutine->Prop:=fun g=>
 g.status=.running/\∀v:Nat,v<2147483648->
  (v=vs->kP P m (Lv L Wg) (fun w=>WgAt L.tWg Wg w (v*KK) 0) (fun w=>w.setCell (stA Wg) (.int .u64 (v*KK+1))) #[rd (stA Wg),wr (stA Wg)] (Idle P m (Lv L Wg) X (Xg P m X L Wg T)) g)/\
  (v≠vs->kP P m (Lv L Wg) (fun w=>WgAt L.tWg Wg w (v*KK) 0) (fun w=>w) #[rd (stA Wg)] (Idle P m (Lv L Wg) X A) g)
def adg(P:Program)(m:Bool)(X:Event->Prop)(L:WgLink)(Wg:Nat)(T A:Goroutine->Prop):Goroutine->Prop:=fun g=>
 g.status=.running/\∀v:Nat,v<2147483648->kP P m (Lv L Wg) (fun w=>WgAt L.tWg Wg w (v*KK) 0) (fun w=>w) #[rd (stA Wg)]
  (fun a=>(v=0->Idle P m (Lv L Wg) X (JX P m X L Wg T) a)/\(v≠0->Idle P m (Lv L Wg) X (aiM P m X L Wg T A v) a)) g
end
end Go.Ren
namespace Go.Ren
open Go.Conc hiding Goes mem_ofEvents Deaf
open Go.ConcN (WgLive)
open Go.Conc.Lib (WgLink)
open Go.ConcR (KK WgAt stA smA rd wr mk)
def X0(_:Event):Prop:=False
def XD(e:Event):Prop:=e=mk .disable
def XM(Wg:Nat)(e:Event):Prop:=e=mk .disable∨e=mk .enable∨∃a:Addr,a.block=Wg/\(e=⟨.mark (.read a),false,true⟩∨e=⟨.mark (.write a),false,true⟩)
section
variable(P:Program)(L:WgLink)(Wg:Nat)
def XV(d:Nat)(g:Goroutine):Prop:=
 d=1/\g.status=.running/\mayWake P g=true/\kP P false (Lv L Wg) (fun w=>WgAt L.tWg Wg w 0 0) (fun w=>w.setCell (smA Wg) (.int .u32 1)) (semEvents (smA Wg)) (fun a=>∃q,QuitsD P q 1 a) g
def WSt(d:Nat)(g:Goroutine):Prop:=
 d=1/\g.status=.running/\kP P false (Lv L Wg) (fun w=>WgAt L.tWg Wg w 1 0) (fun w=>w.setCell (stA Wg) (.int .u64 0)) #[wr (stA Wg)] (af P false (Lv L Wg) X0 (XV P L Wg) 1) g
def WLd(d:Nat)(g:Goroutine):Prop:=
 d=1/\g.status=.running/\kP P false (Lv L Wg) (fun w=>WgAt L.tWg Wg w 1 0) (fun w=>w) #[rd (stA Wg)] (af P false (Lv L Wg) X0 (WSt P L Wg) 1) g
def AZ(d:Nat)(g:Goroutine):Prop:=
 d=1/\g.status=.running/\∀v a:Nat,a<=1->v<2147483647->
  kP P false (Lv L Wg) (fun w=>WgAt L.tWg Wg w ((v+1)*KK+a) 0) (fun w=>w.setCell (stA Wg) (.int .u64 (v*KK+a))) #[rd (stA Wg),wr (stA Wg)]
   (fun b=>((v=0/\a=1)->af P false (Lv L Wg) X0 (WLd P L Wg) 1 b)/\(¬(v=0/\a=1)->∃q,QuitsD P q 1 b)) g
def iP(d:Nat)(g:Goroutine):Prop:=
 d=0/\Says P false (Lv L Wg) #[mk (.releaseMerge (stA Wg))] (af P false (Lv L Wg) XD (AZ P L Wg) 0) g
def xg(e:Nat)(c:(Nat->Prop)->(Nat->Prop)->Option Value->World->Prop)(I:World->Prop)(D:Nat->Prop)(d:Nat)(O:Nat->Prop)(g:Goroutine)(w:World):Prop:=
 d=0/\g.status=.running/\∃(b:Goroutine) (v z:Value),(∀a,aB O D w a->I a->stepG P false g a=.comm b #[scase e v z] true .send a #[])/\c O D (some v) w/\
  af P false (Lv L Wg) X0 (iP P L Wg) 0 (Go.Conc.served b undef)
def oV(a:(Nat->Prop)->(Nat->Prop)->Option Value->World->Prop)(D:Nat->Prop)(d:Nat)(O:Nat->Prop)(g:Goroutine)(w:World):Prop:=
 d=0/\a O D none w/\af P false (Lv L Wg) X0 (iP P L Wg) 0 g
def nT(b:Nat)(a:(Nat->Prop)->(Nat->Prop)->Option Value->World->Prop)(I:World->Prop)(D:Nat->Prop)(d:Nat)(O:Nat->Prop)(g:Goroutine)(w:World):Prop:=
 g.status=.running/\(xg P L Wg b a I D d O g w∨oV P L Wg a D d O g w)
section
variable(a:Goroutine)(A:Goroutine->Prop)
def NI(d:Nat)(g:Goroutine):Prop:=d=0/\Says P true (Lv L Wg) #[mk (.acquire (stA Wg))] (af P true (Lv L Wg) (XM Wg) (fun d g=>d=0/\g=a) 0) g
def M4(d:Nat)(g:Goroutine):Prop:=d=1/\g.status=.running/\kP P true (Lv L Wg) (fun w=>WgAt L.tWg Wg w 0 0) (fun w=>w) #[rd (stA Wg)] (af P true (Lv L Wg) (XM Wg) (NI P L Wg a) 1) g
def M3(d:Nat)(g:Goroutine):Prop:=
 d=1/\g.status=.running/\g.offers=none/\(∀w b,WgAt L.tWg Wg w b 0->stepG P true g w=.go {g with status:=.blocked} w #[])/\
 kP P true (Lv L Wg) (fun w=>WgAt L.tWg Wg w 0 1) (fun w=>w.setCell (smA Wg) (.int .u32 0)) (semEvents (smA Wg)) (af P true (Lv L Wg) (XM Wg) (M4 P L Wg a) 1) g
def M2(vs d:Nat)(g:Goroutine):Prop:=
 d=1/\g.status=.running/\∀v:Nat,v<2147483648->
  (v=vs->kP P true (Lv L Wg) (fun w=>WgAt L.tWg Wg w (v*KK) 0) (fun w=>w.setCell (stA Wg) (.int .u64 (v*KK+1))) #[rd (stA Wg),wr (stA Wg)] (af P true (Lv L Wg) (XM Wg) (M3 P L Wg a) 1) g)/\
  (v≠vs->kP P true (Lv L Wg) (fun w=>WgAt L.tWg Wg w (v*KK) 0) (fun w=>w) #[rd (stA Wg)] (af P true (Lv L Wg) (XM Wg) (fun d g=>d=1/\A g) 1) g)
def M1(d:Nat)(g:Goroutine):Prop:=
 d=1/\g.status=.running/\∀v:Nat,v<2147483648->kP P true (Lv L Wg) (fun w=>WgAt L.tWg Wg w (v*KK) 0) (fun w=>w) #[rd (stA Wg)]
  (fun b=>(v=0->af P true (Lv L Wg) (XM Wg) (NI P L Wg a) 1 b)/\(v≠0->af P true (Lv L Wg) (XM Wg) (M2 P L Wg a A v) 1 b)) g
end
def Anch(a:Goroutine)(A:Goroutine->Prop):Prop:=∀g,A g->af P true (Lv L Wg) (XM Wg) (M1 P L Wg a A) 1 g
section
variable(c:Nat)(a:Nat->(Nat->Prop)->(Nat->Prop)->Option Value->World->Prop)(I:World->Prop)(Fin:(Nat->Prop)->(Nat->Prop)->Goroutine->World->Prop)
def iR(D:Nat->Prop)(d:Nat)(O:Nat->Prop)(g:Goroutine)(w:World):Prop:=
 ∃(b:Goroutine) (A:Goroutine->Prop),Anch P L Wg b A/\af P true (Lv L Wg) (XM Wg) (M1 P L Wg b A) d g/\∀e,aB O D w e->Fin D O b e
def yA(i:Nat)(Nx:(Nat->Prop)->(Nat->Prop)->Goroutine->World->Prop)(D:Nat->Prop)(d:Nat)(O:Nat->Prop)(g:Goroutine)(w:World):Prop:=
 d=0/\g.status=.running/\∀e,aB O D w e->I e->∃(f child:Goroutine) (M H N:Nat->Prop),stepG P true g e=.spawn f child e #[]/\(∀b,M b->O b)/\(∀b,H b->O b/\¬M b)/\(∀b,N b->D b∨M b)/\
  dY P false I X0 N (nT P L Wg c (a i) I N) 0 H child e/\Nx (fun b=>D b∨M b) (fun b=>O b/\¬M b/\¬H b) f e
def oU(i:Nat)(Nx:(Nat->Prop)->(Nat->Prop)->Goroutine->World->Prop)(D:Nat->Prop)(d:Nat)(O:Nat->Prop)(g:Goroutine)(w:World):Prop:=
 d=1/\g.status=.running/\∀v:Nat,v<2147483647->kP P true (Lv L Wg) (fun w=>WgAt L.tWg Wg w (v*KK) 0) (fun w=>w.setCell (stA Wg) (.int .u64 ((v+1)*KK))) #[rd (stA Wg),wr (stA Wg)]
  (fun e=>∀b,aB O D w b->dY P true I (XM Wg) D (yA P L Wg c a I i Nx D) 1 O e b) g
def Spawns(n:Nat):Nat->(Nat->Prop)->(Nat->Prop)->Goroutine->World->Prop
 |0,D,O,g,w=>dY P true I (XM Wg) D (iR P L Wg Fin D) 0 O g w
 |r+1,D,O,g,w=>dY P true I (XM Wg) D (oU P L Wg c a I (n-(r+1)) (Spawns n r) D) 0 O g w
end
end
section
variable{P:Program}{L:WgLink}{Wg Ch:Nat}{I:World->Prop}{O D:Nat->Prop}{g:Goroutine}{w w':World}{d i:Nat}
variable{Sent:Nat->(Nat->Prop)->(Nat->Prop)->Option Value->World->Prop}{Fin Nx:(Nat->Prop)->(Nat->Prop)->Goroutine->World->Prop}
def XS(Wg:Nat)(e:Event):Prop:=∃a:Addr,a.block=Wg/\(e=⟨.mark (.read a),false,true⟩∨e=⟨.mark (.write a),false,true⟩)
theorem jJ{e:Event}(h:XS Wg e):hearing e:=by
 obtain⟨a,_,rfl|rfl⟩:=h<;>exact⟨by simp,by simp⟩
theorem Ci{e:Event}(h:XS Wg e):XM Wg e:=.inr (.inr h)
theorem sJ{w:World}{Q:Event->Prop}(b:Q (mk .disable)):∀e∈#[mk .disable],Q e/\(MemAct.ofEvent e).low w.heap.size:=by
 intro e a;rw[Array.mem_singleton]at a;subst a;exact⟨b,trivial⟩
theorem DK{w:World}{Q:Event->Prop}(b:Q (mk .enable)):∀e∈#[mk .enable],Q e/\(MemAct.ofEvent e).low w.heap.size:=by
 intro e a;rw[Array.mem_singleton]at a;subst a;exact⟨b,trivial⟩
theorem abf{gT:Goroutine}{A:Goroutine->Prop}(h:∀g,A g->Idle P true (Lv L Wg) (XS Wg) (adg P true (XS Wg) L Wg (· =gT) A) g):Anch P L Wg gT A:=by
 have b:∀{S:Goroutine->Prop} {g:Goroutine} (d:Nat),Idle P true (Lv L Wg) (XS Wg) S g->af P true (Lv L Wg) (XM Wg) (fun u g=>u=d/\S g) d g:=fun d h=>Idle.deaf (fun e=>jJ) (fun e=>Ci) d h
 have c:∀d g,(d=1/\JX P true (XS Wg) L Wg (· =gT) g)->af P true (Lv L Wg) (XM Wg) (NI P L Wg gT) d g:=by rintro d g ⟨rfl,x⟩;refine Says.deaf (fun w _=>DK (.inr (.inl rfl))) x fun l y=>(b 0 y).mono ?_;rintro d g ⟨rfl,f,n,j,k⟩;exact⟨rfl,f,n,j,b 0 k⟩
 have z:∀d g,(d=1/\aej P true (XS Wg) L Wg (· =gT) g)->M4 P L Wg gT d g:=by rintro d g ⟨rfl,f,l,j,k⟩;exact⟨rfl,f,l,j,(b 1 k).bind c⟩
 have k:∀d g,(d=1/\Xg P true (XS Wg) L Wg (· =gT) g)->M3 P L Wg gT d g:=by rintro d g ⟨rfl,f,j,k,l,o,p⟩;exact⟨rfl,f,j,k,l,o,(b 1 p).mono z⟩
 intro g B;refine(b 1 (h g B)).mono ?_;rintro d g ⟨rfl,f,j⟩;refine⟨rfl,f,fun v C=>?_⟩;obtain⟨l,o,p,E⟩:=j v C
 refine⟨l,o,fun e=>(b 1 (p e)).bind c,fun e=>(b 1 (E e)).mono ?_⟩;rintro d g ⟨rfl,F,s⟩;refine⟨rfl,F,fun t m=>⟨fun e=>?_,fun e=>?_⟩⟩
 ·obtain⟨a,q,r⟩:=(s t m).1 e;exact⟨a,q,(b 1 r).mono k⟩
 ·obtain⟨a,q,r⟩:=(s t m).2 e;exact⟨a,q,b 1 r⟩
end
end Go.Ren
