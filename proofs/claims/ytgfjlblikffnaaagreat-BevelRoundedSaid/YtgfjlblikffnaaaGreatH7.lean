import Derived.Conc.CrowdTrace
import Derived.Conc.JoinTrace
import Derived.Conc.WgGenN2
import Derived.Conc.WgGenWait
import Derived.Test.YtgfjlblikffnaaaGreatH1
import Derived.Test.YtgfjlblikffnaaaGreatH6
set_option linter.unusedVariables false
set_option linter.unusedSectionVars false
set_option linter.unusedSimpArgs false
namespace Go.Am
open Go.Ren (grow fM aO az)
def AH.blank(h:AH):AH:={ h with n:=h.n+1 }
section
variable{P:Program}{ρ σ:Env}{O O' D D':Nat→Prop}{h h':AH}{w w':World}{b:Nat}{B:bg}
theorem Rel.blank(r:Rel ρ O D h w)(o':Obj)(hn:h.look h.n=none):Rel (ρ.add h.n (w.heap.size,0) False 0 0) O D h.blank { w with heap:=w.heap.push o' }:=by
 have hnb:¬ρ.born h.n:=fun hb=>Nat.lt_irrefl _ (r.fresh _ hb)
 have hle:ρ.Le (ρ.add h.n (w.heap.size,0) False 0 0):=Env.iC hnb
 have lk:∀x,h.blank.look x=h.look x:=fun x=>rfl
 have old:∀x C,(ρ.add h.n (w.heap.size,0) False 0 0).born x→h.look x=some C→x≠h.n∧ρ.born x:=fun x C hx hk=>by
  have hne:x≠h.n:=fun e=>by subst e;rw [hn] at hk;cases hk
  exact ⟨hne,hx.resolve_left hne⟩
 have heap:∀c,c < w.heap.size→(w.heap.push o')[c]? = w.heap[c]? :=fun c hc=>by rw [Array.getElem?_push,if_neg (by omega)]
 refine ⟨fun x C c e f hx hk ho=>?_,fun x C hx hk ho=>?_,fun x C hx hk=>?_,fun x y C C' hx hy hk hk' hne hs=>?_,fun x hx=>?_,fun x hx=>?_,fun x C hx hk=>?_,fun f l hfl=>?_,fun f l hfl x hx=>?_⟩
 ·rw [lk] at hk
  obtain ⟨hne,hb⟩:=old x C hx hk
  obtain ⟨A,E,g,c1,c2,c3,c4,c5⟩:=r.cells x C c e f hb hk ho
  rw [ai hne,nG hne]
  exact ⟨A,E,g,by dsimp only;rw [heap _ (r.low x hb)];exact c1,c2,c3,c4,fun i v hv=>by obtain ⟨v',k1,k2⟩:=c5 i v hv;exact ⟨v',k1,k2.mono hle⟩⟩
 ·rw [lk] at hk
  obtain ⟨hne,hb⟩:=old x C hx hk
  obtain ⟨o1,o2,o3,o4⟩:=r.obj x C hb hk ho
  rw [ai hne]
  exact ⟨o1,o2,by dsimp only;rw [heap _ (r.low x hb)];exact o3,o4.mono hle⟩
 ·rw [lk] at hk
  obtain ⟨hne,hb⟩:=old x C hx hk
  rw [ai hne]
  exact r.own x C hb hk
 ·rw [lk] at hk hk'
  obtain ⟨hne1,hb1⟩:=old x C hx hk
  obtain ⟨hne2,hb2⟩:=old y C' hy hk'
  rw [ai hne1,ai hne2] at hs
  exact r.sep x y C C' hb1 hb2 hk hk' hne hs
 ·rcases hx with rfl|hx
  ·exact Nat.lt_succ_self _
  ·exact Nat.lt_succ_of_lt (r.fresh x hx)
 ·by_cases e:x=h.n
  ·subst e;rw [bU];simp
  ·rw [ai e]
   have:=r.low x (hx.resolve_left e)
   simp
   omega
 ·rw [lk] at hk
  obtain ⟨hne,hb⟩:=old x C hx hk
  have:=r.bD x C hb hk
  exact ⟨(jO hne).trans this.1,fun z=>(tu hne).trans (this.2 z)⟩
 ·have hne:∀x∈l,x≠h.n:=fun x hx e=>by have:=(r.mem f l hfl x hx).1;omega
  refine List.Pairwise.imp_of_mem (fun {x y} hx hy hp b1 b2 hs n n' u1 u2=>?_) (r.row f l hfl)
  have ex:=hne x hx
  have ey:=hne y hy
  rw [ai ex,ai ey] at hs
  obtain ⟨C,c,e,g,h1,h2,h3⟩:=u1
  obtain ⟨C',c',e',g',h1',h2',h3'⟩:=u2
  rw [ai ex] at h3
  rw [ai ey] at h3'
  exact hp (b1.resolve_left ex) (b2.resolve_left ey) hs n n' ⟨C,c,e,g,h1,h2,h3⟩ ⟨C',c',e',g',h1',h2',h3'⟩
 ·obtain ⟨m1,m2⟩:=r.mem f l hfl x hx
  exact ⟨Nat.lt_succ_of_lt m1,m2⟩
end
end Go.Am
namespace Go.Am
open Go.Ren (grow fM aO az Wk)
section
variable{P:Program}{ρ σ:Env}{O D:Nat→Prop}{h h':AH}{w w':World}{X:Event→Prop}{m:Bool}{base cs:List Frame}{I:World→Prop}{pl:bz}
 {lo:Nat} {ops:Array Oper} {i:Nat} {o:Oper} {f:Frame} {s₀:AS}
theorem run_makeChan{e:Operand→Value}{t elem:TypeId}{sz:Operand}{k:IntKind}{n:Int}{dir:ChanDir}{inf:TypeInfo}(hop:o.op = .makeChan t sz)(he:e sz = .int k n)(hu:P.underlying t=some (.chan dir elem))(hi:P.info? elem=some inf)
  (hn:0≤n∧n≤IntKind.i64.max∧inf.bytes * n≤2 ^ 48 - 112) :
  ∀ah,(execOp e o).runT P w ah=(.ok (.value (.chan (some w.heap.size))) { w with heap:=w.heap.push (.chan n.toNat #[] false 0 0 false) },ah ++ #[]):=by
 intro ah
 have hex:execOp e o=(Instr.makeChan t (.int k n)) >>= fun v=>Pure.pure (Next.value v):=by
  unfold execOp
  rw [hop]
  dsimp only
  rw [he]
 rw [hex]
 show ((Instr.makeChan t (.int k n)).bind _).runT P w ah=_
 rw [Sem.runT_bind']
 have:(Instr.makeChan t (.int k n)).runT P w ah=(.ok (.chan (some w.heap.size)) { w with heap:=w.heap.push (.chan n.toNat #[] false 0 0 false) },ah):=by
  unfold Instr.makeChan
  rw [(show Pu P (asInt (.int k n)) n from .aN n).run]
  rw [(oW hu).run]
  dsimp only
  rw [(ou hi).run]
  rw [if_neg (by omega)]
  simp [newObj,-Sem.runT_eq,Sem.runT,bind,pure,Sem.bind]
 rw [this]
 simp [-Sem.runT_eq,Sem.runT,pure]
end
end Go.Am
namespace Go.Ren
section
variable{P:Program}{O O' D F:Nat→Prop}{w w₁ w₂ w':World}{g g':Goroutine}{X:Event→Prop}{I:World→Prop}{m:Bool}
theorem Wk.frame{S:(Nat→Prop)→Goroutine→World→Prop}(h:Wk P m I X D S O g w):(∀b,F b→b < w.heap.size∧¬O b)→(∀b,D b→b < w.heap.size∧¬O b) →
  Wk P m I X D (fun O' g' w'=>∃fU,S fU g' w' ∧ (O' = fun b=>fU b∨F b)∧az F D w w') (fun b=>O b∨F b) g w:=by
 induction h with
 | @stop O g w h=>intro _ _;exact .stop ⟨O,h,rfl,az.refl w⟩
 | @step O g w hs f u es h k ih=>
  intro hF hD
  have less:∀w₁,az (fun b=>O b∨F b) D w w₁→az O D w w₁:=fun w₁ r=>⟨r.size,fun b hb=>r.own b (.inl hb),r.ro,r.os,r.output,r.tape⟩
  have grw:∀w₁,grow (fun b=>O b∨F b) w₁ (u w₁)=fun b=>grow O w₁ (u w₁) b∨F b:=fun w₁=>by
   funext b
   apply propext
   unfold grow
   constructor
   ·rintro ((x|x)|x)
    ·exact .inl (.inl x)
    ·exact .inr x
    ·exact .inl (.inr x)
   ·rintro ((x|x)|x)
    ·exact .inl (.inl x)
    ·exact .inr x
    ·exact .inl (.inr x)
  refine .step hs f u es (fun w₁ hr hi=>?_) fun w₁ hr hi=>?_
  ·obtain ⟨h1,h2⟩:=h w₁ (less w₁ hr) hi
   exact ⟨h1,h2.size,fun c hc hn=>h2.heap c hc fun x=>hn (.inl x),h2.os,h2.output,h2.tape,fun e he=>by rw [grw];exact (h2.ev e he).mono (Nat.le_refl _) fun b hb=>.inl hb⟩
  ·obtain ⟨_,h2⟩:=h w₁ (less w₁ hr) hi
   have hrel:az F D w (u w₁):=by
    refine ⟨Nat.le_trans hr.size h2.size,fun b hb=>?_,fun b hb=>?_,hr.os.trans (.of h2.os),h2.output.trans hr.output,h2.tape.trans hr.tape⟩
    ·rw [h2.heap b (Nat.lt_of_lt_of_le (hF b hb).1 hr.size) (hF b hb).2];exact hr.own b (.inr hb)
    ·rw [h2.heap b (Nat.lt_of_lt_of_le (hD b hb).1 hr.size) (hD b hb).2];exact hr.ro b hb
   have keep:∀b,b < w.heap.size∧¬O b→b < (u w₁).heap.size∧¬grow O w₁ (u w₁) b:=fun b hb=>by
    have h1:=hr.size
    have h3:=h2.size
    exact ⟨by omega,fun x=>x.elim hb.2 fun y=>by omega⟩
   rw [grw]
   refine (ih w₁ (less w₁ hr) hi (fun b hb=>keep b (hF b hb)) (fun b hb=>keep b (hD b hb))).mono fun O' g' w' hz=>?_
   obtain ⟨fU,z1,z2,z3⟩:=hz
   exact ⟨fU,z1,z2,hrel.trans z3⟩
end
end Go.Ren
namespace Go.Am
open Go.Ren (grow fM aO az Wk)
def h0:AH:={ n:=0,tr:=.nil,dH:=.nil }
section
variable{P:Program}{ρ σ:Env}{O D:Nat→Prop}{h h':AH}{w w':World}{X:Event→Prop}{m:Bool}{base cs':List Frame}{I:World→Prop}{pl:bz}{c:aF}{cs:List aF}{f:FuncId}{g:Goroutine}{Q:Value→AH→Prop}
theorem aak(O D:Nat→Prop)(w:World):Rel zT O D h0 w:=
 {cells:=fun _ _ _ _ _ x=>x.elim
  obj:=fun _ _ x=>x.elim
  own:=fun _ _ x=>x.elim
  sep:=fun _ _ _ _ x=>x.elim
  fresh:=fun _ x=>x.elim
  low:=fun _ x=>x.elim
  bD:=fun _ _ x=>x.elim
  row:=fun f l hf=>absurd (show (none:Option (List Nat))=some l from hf) (by simp)
  mem:=fun f l hf=>absurd (show (none:Option (List Nat))=some l from hf) (by simp) }
end
end Go.Am
namespace Go.Am
open Go.Ren (grow fM aO az Wk)
section
variable{P:Program}{ρ σ:Env}{O D:Nat→Prop}{h h':AH}{w w':World}{X:Event→Prop}{m:Bool}{base cs:List Frame}{I:World→Prop}{pl:bz}
 {lo hi:Nat} {ops:Array Oper} {i:Nat} {o:Oper} {f:Frame} {a:aF} {s₀:AS}
theorem Io.defer(k:Io ρ lo hi a f){d d':Deferred}(hd:DR ρ d d'):Io ρ lo hi { a with defers:=d :: a.defers } { f with defers:=d' :: f.defers }:=by
 cases k with
 |plain k=>exact .plain ⟨⟨k.fn,.cons hd k.defers,k.mode,k.kind,k.round⟩,k.tmps,k.todo⟩
 |ahead k hk=>exact .ahead ⟨⟨k.base.fn,.cons hd k.base.defers,k.base.mode,k.base.kind,k.base.round⟩,k.run,k.todo,k.ok,k.ord,k.ZW,k.down,k.lt,k.sub,k.done,k.eff,k.size,k.tmps,k.bd,k.Qy⟩ hk
theorem tH.defer{c:Call}{x:Operand}{fn:Fn}{first cap:Array Value}{a':aF}(A:tH P ρ lo s₀ ops i f cs O D w)(ho:ops[i]? = some o)(hw:Region.wanted o (yielded ops s₀.fr.tmps)=true)(hok:bf o=true)
  (hop:o.op = .defer c) (hc:c.callee = .value x) (hx:af s₀.fr.tmps x = .func fn first cap) (fJ:s₀.fr.round=none)
  (ha:au P { s₀.fr with defers:={ target:=.fn fn cap,args:=first ++ c.args.map (af s₀.fr.tmps) } :: s₀.fr.defers } s₀.h undef=some a') :
  ∃g',stepG P m (cO f (cs ++ base)) w = .go g' w #[]∧lV P ρ O D base ⟨a',s₀.cs,s₀.h⟩ g' w:=by
 obtain ⟨s',k',ht⟩:=A.todo
 have hw' :=A.wanted o ho
 rw [hw] at hw'
 have hv:=A.kW o ho hok
 have hfx:=hv x (by rw [hop];simp [Op.operands,Call.operands,hc])
 rw [hx] at hfx
 have hro:f.roundOf=none:=by
  have:=A.fs.base.round
  rw [fJ] at this
  generalize f.roundOf=z at this
  cases this
  rfl
 generalize hfe:f.eval x=y at hfx
 cases hfx with
 | @func _ fn' _ first' _ cap' hfn hs1 hv1 hs2 hv2=>
  have hargs:AR (VR ρ) (first ++ c.args.map (af s₀.fr.tmps)) (first' ++ c.args.map f.eval):=by
   refine AR.append ⟨hs1,hv1⟩ ⟨by simp,fun j u v hu hv'=>?_⟩
   rw [Array.getElem?_map] at hu hv'
   cases hj:c.args[j]? with
   |none=>rw [hj] at hu;cases hu
   |some z=>
    rw [hj] at hu hv'
    cases hu
    cases hv'
    exact hv z (by rw [hop];simp [Op.operands,Call.operands,hc,Array.mem_of_getElem? hj])
  have hd:DR ρ { target:=.fn fn cap,args:=first ++ c.args.map (af s₀.fr.tmps) } { target:=.fn fn' cap',args:=first' ++ c.args.map f.eval }:=⟨.fn hfn ⟨hs2,hv2⟩,hargs⟩
  have hrun:∀ah,(execOp f.eval o).runT P w ah=(.ok (.defer { target:=.fn fn' cap',args:=first' ++ c.args.map f.eval }) w,ah ++ #[]):=by
   intro ah
   have:execOp f.eval o=Sem.pure (.defer { target:=.fn fn' cap',args:=first' ++ c.args.map f.eval }):=by
    unfold execOp
    rw [hop]
    dsimp only
    unfold resolve
    rw [hc]
    dsimp only
    rw [hfe]
    rfl
   rw [this]
   simp only [Sem.runT,Array.append_empty]
  obtain ⟨h1,h2⟩:=rX hrun
  have hst:stepG P m (cO f (cs ++ base)) w = .go (cO (Frame.finish { f with defers:={ target:=.fn fn' cap',args:=first' ++ c.args.map f.eval } :: f.defers } undef) (cs ++ base)) w (seen P f.fn #[]):=by
   rw [dm A.run]
   have hkind:=ji A.fs.base.ne
   have key:stepG.exec P m true f (cs ++ base) none w=stepG.apply P true f (cs ++ base) none (execOp f.eval o) w:=by
    obtain ⟨gf,tmps,todo,defers,mode,kind,ro⟩:=f
    dsimp only at ht hw' hro
    subst ht
    subst hro
    simp only [stepG.exec,ho,Option.map_some,Option.getD_some]
    rw [hw',if_pos rfl]
    simp only [stepG.oper,Frame.oper?,ho]
   rw [key]
   simp [stepG.apply,h1,h2,hkind,GStep.after,cO]
  have hs:seen P f.fn #[] = #[]:=by
   unfold seen
   rfl
  rw [hs] at hst
  exact ⟨_,hst,⟨lo,_,cs,A.bound,rfl,jA (A.fs.defer hd) (Nat.le_refl _) gV ha,A.stk⟩,A.rel⟩
end
end Go.Am
namespace Go.Ren
open Go.Conc hiding mem_ofEvents
open Go.ConcN (PermW)
def inB(S:Nat→Prop):Loc→Prop
 | .cell a=>S a.block
 | .obj r=>S r
 |_=>False
theorem uK{S:Nat→Prop}{B:Nat}(h:∀b,S b→b < B){l:Loc}(hl:inB S l):l.low B∧l.isMemory=true:=by
 cases l<;>first|exact ⟨h _ hl,rfl⟩|exact hl.elim
theorem jE{S T:Nat→Prop}{l:Loc}(h:inB S l)(k:inB T l):∃b,S b∧T b:=by
 cases l<;>first|exact ⟨_,h,k⟩|exact h.elim
structure TI(W:Nat→Prop)(O D:Nat→Nat→Prop)(n B:Nat)(t:Trace):Prop where
 quiet:Quiet (inB W) t
 own:∀i,i < n→∀l,inB (O i) l→Perm t i l
 rd:∀i,i < n→∀l,inB (D i) l→PermW t i l
 nr:∀said,¬Race said t
 gs:∀(i:Nat) (op:MemOp),t[i]? = some op→op.g < n
 low:∀op∈t,op.act.low B
structure Own(W:Nat→Prop)(O D:Nat→Nat→Prop)(n B:Nat):Prop where
 oo:∀i j b,i < n→j < n→O i b→O j b→i=j
 od:∀i j b,i < n→j < n→O i b→¬D j b
 ow:∀i b,i < n→O i b→¬W b
 dw:∀i b,i < n→D i b→¬W b
 Il:∀i b,i < n→O i b→b < B
 UC:∀i b,i < n→D i b→b < B
 zU:∀b,W b→b < B
section
variable{W:Nat→Prop}{O D:Nat→Nat→Prop}{n B B':Nat}{t u:Trace}
def Jv(W:Nat→Prop)(i:Nat)(e:Event):Prop:=∀x,(MemAct.ofEvent e).touch? = some x→inB W x.loc∧x.kind ≠ .plain∧(x.kind = .said→i=0)
def with_(O:Nat→Nat→Prop)(i B B':Nat):Nat→Nat→Prop:=fun j b=>O j b∨(j=i∧B≤b∧b < B')
theorem Own.grow(h:Own W O D n B){i:Nat}(hi:i < n)(hB:B≤B'):Own W (with_ O i B B') D n B' :=by
 refine ⟨?_,?_,?_,fun j b hj hd=>h.dw j b hj hd,?_,fun j b hj hd=>Nat.lt_of_lt_of_le (h.UC j b hj hd) hB,fun b hb=>Nat.lt_of_lt_of_le (h.zU b hb) hB⟩
 ·rintro j k b hj hk (h1|⟨rfl,h1,h2⟩) (h3|⟨rfl,h3,h4⟩)
  ·exact h.oo j k b hj hk h1 h3
  ·have:=h.Il j b hj h1;omega
  ·have:=h.Il k b hk h3;omega
  ·rfl
 ·rintro j k b hj hk (h1|⟨rfl,h1,h2⟩) hd
  ·exact h.od j k b hj hk h1 hd
  ·have:=h.UC k b hk hd;omega
 ·rintro j b hj (h1|⟨rfl,h1,h2⟩) hw
  ·exact h.ow j b hj h1 hw
  ·have:=h.zU b hw;omega
 ·rintro j b hj (h1|⟨rfl,h1,h2⟩)
  ·exact Nat.lt_of_lt_of_le (h.Il j b hj h1) hB
  ·exact h2
theorem Jw(hl:∀op∈t,op.act.low B){l:Loc}(h:¬l.low B)(hm:l.isMemory=true)(g:Nat):Perm t g l:=by
 intro i a ha e
 obtain ⟨x,hx,hxa⟩:=touch_of ha
 have:=hl x (Array.mem_of_getElem? hx)
 exfalso
 apply h
 rw [←e]
 obtain ⟨g',fn,pos,act⟩:=x
 dsimp only at hxa this
 cases act with
 |access e=>simp only [MemAct.touch?,Option.some.injEq] at hxa;subst hxa;exact this
 |mark m=>
  cases m<;>simp only [MemAct.touch?,Option.some.injEq,reduceCtorEq] at hxa
  all_goals (subst hxa;exact this)
 |_=>cases hxa
theorem TI.step(h:TI W O D n B t)(w:Own W O D n B){i:Nat}(hi:i < n)(hB:B≤B'){X:Event→Prop}(hX:∀e,X e→Jv W i e){es:Array Event}{fn:FuncId}{pos:String}
  (hes:∀e∈es,fM X B' (fun b=>with_ O i B B' i b) (D i) e):TI W (with_ O i B B') D n B' (t ++ MemOp.ofEvents i fn pos es):=by
 have w' :=w.grow hi hB
 have hg:∀op∈MemOp.ofEvents i fn pos es,op.g=i:=fun op hop=>by obtain ⟨e,_,rfl⟩:=Go.Conc.mem_ofEvents hop;rfl
 have touch:∀op∈MemOp.ofEvents i fn pos es,∀x,op.act.touch? = some x→(inB W x.loc∧x.kind ≠ .plain∧(x.kind = .said→i=0))∨inB (with_ O i B B' i) x.loc∨(inB (D i) x.loc∧x.write=false)∨x.loc.isMemory=false:=by
  intro op hop x hx
  obtain ⟨e,he,rfl⟩:=Go.Conc.mem_ofEvents hop
  rcases hes e he with hk|hk
  ·exact .inl (hX e hk.1 x hx)
  ·obtain ⟨loc,wr,sy⟩:=e
   cases loc with
   |cell a=>
    simp only [MemAct.ofEvent,MemAct.touch?,Option.some.injEq] at hx
    subst hx
    rcases hk with hk|⟨h1,h2⟩
    ·exact .inr (.inl hk)
    ·exact .inr (.inr (.inl ⟨h1,h2⟩))
   |obj r=>
    have:x.loc = .obj r∧(wr=false→x.write=false):=by
     cases wr<;>cases sy<;>simp only [MemAct.ofEvent,MemAct.touch?,Option.some.injEq,reduceCtorEq] at hx
     all_goals (subst hx;first|exact ⟨rfl,fun _=>rfl⟩|exact ⟨rfl,fun h=>by cases h⟩)
    rw [this.1]
    rcases hk with hk|⟨h1,h2⟩
    ·exact .inr (.inl hk)
    ·exact .inr (.inr (.inl ⟨h1,this.2 h2⟩))
   |mark m=>
    have hm:uP m=true:=hk
    cases m<;>first|(simp [MemAct.ofEvent,MemAct.touch?] at hx;done)|cases hm
   |output=>
    simp only [MemAct.ofEvent,MemAct.touch?,Option.some.injEq] at hx
    subst hx
    exact .inr (.inr (.inr rfl))
   |_=>exact absurd hk id
 refine ⟨h.quiet.app fun op hop x hx hs=>?_,fun j hj l hl=>?_,fun j hj l hl=>?_,fun said=>?_,fun k op hop=>?_,fun op hop=>?_⟩
 ·rcases touch op hop x hx with ⟨_,h2,h3⟩|h2|⟨h2,_⟩|h2
  ·exact ⟨h2,fun e=>(hg op hop).trans (h3 e)⟩
  ·obtain ⟨b,h3,h4⟩:=jE h2 hs;exact absurd h4 (w'.ow i b hi h3)
  ·obtain ⟨b,h3,h4⟩:=jE h2 hs;exact absurd h4 (w'.dw i b hi h3)
  ·have:=(uK w.zU hs).2;rw [h2] at this;cases this
 ·have hp:Perm t j l:=by
   by_cases ho:inB (O j) l
   ·exact h.own j hj l ho
   ·refine Jw h.low (fun hlow=>ho ?_) (uK (fun b hb=>w'.Il j b hj hb) hl).2 j
    cases l with
    |cell a=>rcases hl with hl|⟨_,h1,_⟩;exact hl;exact absurd hlow (by simp [Loc.low];omega)
    |obj r=>rcases hl with hl|⟨_,h1,_⟩;exact hl;exact absurd hlow (by simp [Loc.low];omega)
    |_=>exact hl
  refine hp.app fun op hop x hx e=>?_
  rw [hg op hop]
  rcases touch op hop x hx with ⟨h2,_⟩|h2|⟨h2,_⟩|h2
  ·rw [e] at h2;obtain ⟨b,h3,h4⟩:=jE hl h2;exact absurd h4 (w'.ow j b hj h3)
  ·rw [e] at h2;obtain ⟨b,h3,h4⟩:=jE hl h2;exact w'.oo i j b hi hj h4 h3
  ·rw [e] at h2;obtain ⟨b,h3,h4⟩:=jE hl h2;exact absurd h4 (w'.od j i b hj hi h3)
  ·rw [e] at h2;have:=(uK (fun b hb=>w'.Il j b hj hb) hl).2;rw [h2] at this;cases this
 ·refine (h.rd j hj l hl).app fun op hop x hx e hw=>?_
  exfalso
  rcases touch op hop x hx with ⟨h2,_⟩|h2|⟨_,h2⟩|h2
  ·rw [e] at h2;obtain ⟨b,h3,h4⟩:=jE hl h2;exact w'.dw j b hj h3 h4
  ·rw [e] at h2;obtain ⟨b,h3,h4⟩:=jE hl h2;exact w'.od i j b hi hj h4 h3
  ·rw [h2] at hw;cases hw
  ·rw [e] at h2;have:=(uK (fun b hb=>w'.UC j b hj hb) hl).2;rw [h2] at this;cases this
 ·refine noRace_append (h.nr said) hg fun k a ha op hop b hb hc=>?_
  rcases touch op hop b hb with ⟨h1,h2,h3⟩|h2|⟨h2,h3⟩|h2
  ·exact h.quiet.known h1 h2 (fun e=>h3 e) k a ha hc
  ·have hp:Perm t i b.loc:=by
    by_cases ho:inB (O i) b.loc
    ·exact h.own i hi _ ho
    ·refine Jw h.low (fun hlow=>ho ?_) (uK (fun b hb=>w'.Il i b hi hb) h2).2 i
     revert h2 hlow
     cases b.loc with
     |cell a=>intro h2 hlow;rcases h2 with h2|⟨_,h1,_⟩;exact h2;exact absurd hlow (by simp [Loc.low];omega)
     |obj r=>intro h2 hlow;rcases h2 with h2|⟨_,h1,_⟩;exact h2;exact absurd hlow (by simp [Loc.low];omega)
     |_=>intro h2;exact h2.elim
   exact hp k a ha hc.1
  ·exact h.rd i hi _ h2 k a ha hc.1 (hc.2.2.1.resolve_right (by simp [h3]))
  ·have:=hc.2.1;rw [hc.1] at this;rw [h2] at this;cases this
 ·rcases getElem?_append_cases hop with ⟨_,h1⟩|⟨_,h1⟩
  ·exact h.gs k op h1
  ·rw [hg op h1];exact hi
 ·rcases Array.mem_append.1 hop with h1|h1
  ·exact MemAct.low_mono hB (h.low op h1)
  ·obtain ⟨e,he,rfl⟩:=Go.Conc.mem_ofEvents h1
   rcases hes e he with hk|hk
   ·exact hk.2
   ·obtain ⟨loc,wr,sy⟩:=e
    cases loc with
    |cell a=>
     rcases hk with hk|⟨h1,_⟩
     ·exact w'.Il i _ hi hk
     ·exact w'.UC i _ hi h1
    |obj r=>
     have:r < B' :=by
      rcases hk with hk|⟨h1,_⟩
      ·exact w'.Il i _ hi hk
      ·exact w'.UC i _ hi h1
     cases wr<;>cases sy<;>exact this
    |mark m=>
     have hm:uP m=true:=hk
     cases m<;>first|trivial|cases hm
    |output=>trivial
    |_=>exact absurd hk id
def mX(O:Nat→Nat→Prop)(n:Nat)(M H:Nat→Prop)(j b:Nat):Prop:=if j=0 then O 0 b∧¬M b∧¬H b else if j=n then H b else O j b
def mY(D:Nat→Nat→Prop)(n:Nat)(M N:Nat→Prop)(j b:Nat):Prop:=if j=0 then D 0 b∨M b else if j=n then N b else D j b
theorem Own.fork(w:Own W O D n B)(hn:0 < n){M H N:Nat→Prop}(hM:∀b,M b→O 0 b)(hH:∀b,H b→O 0 b∧¬M b)(hN:∀b,N b→D 0 b∨M b):Own W (mX O n M H) (mY D n M N) (n+1) B:=by
 have down:∀j b,j < n+1→mX O n M H j b→(j < n∧O j b∧¬M b∧(j=0→¬H b))∨(j=n∧H b):=by
  intro j b hj h
  unfold mX at h
  split at h
  ·rename_i e;subst e;exact .inl ⟨hn,h.1,h.2.1,fun _=>h.2.2⟩
  ·rename_i e
   split at h
   ·rename_i e';exact .inr ⟨e',h⟩
   ·refine .inl ⟨by omega,h,fun hm=>?_,fun e'=>absurd e' e⟩
    exact e (w.oo j 0 b (by omega) hn h (hM b hm))
 have dn:∀j b,j < n+1→mY D n M N j b→∃k,k < n∧(D k b∨M b):=by
  intro j b hj h
  unfold mY at h
  split at h
  ·exact ⟨0,hn,h⟩
  ·split at h
   ·exact ⟨0,hn,hN b h⟩
   ·exact ⟨j,by omega,.inl h⟩
 refine ⟨fun i j b hi hj h k=>?_,fun i j b hi hj h k=>?_,fun i b hi h=>?_,fun i b hi h=>?_,fun i b hi h=>?_,fun i b hi h=>?_,w.zU⟩
 ·rcases down i b hi h with ⟨i1,i2,i3,i4⟩|⟨i1,i2⟩<;>rcases down j b hj k with ⟨j1,j2,j3,j4⟩|⟨j1,j2⟩
  ·exact w.oo i j b i1 j1 i2 j2
  ·have:=w.oo i 0 b i1 hn i2 (hH b j2).1;exact absurd j2 (i4 this)
  ·have:=w.oo j 0 b j1 hn j2 (hH b i2).1;exact absurd i2 (j4 this)
  ·omega
 ·obtain ⟨a,ha,hk⟩:=dn j b hj k
  rcases down i b hi h with ⟨i1,i2,i3,i4⟩|⟨i1,i2⟩
  ·rcases hk with hk|hk
   ·exact w.od i a b i1 ha i2 hk
   ·exact i3 hk
  ·rcases hk with hk|hk
   ·exact w.od 0 a b hn ha (hH b i2).1 hk
   ·exact (hH b i2).2 hk
 ·rcases down i b hi h with ⟨i1,i2,_⟩|⟨i1,i2⟩
  ·exact w.ow i b i1 i2
  ·exact w.ow 0 b hn (hH b i2).1
 ·obtain ⟨a,ha,hk⟩:=dn i b hi h
  rcases hk with hk|hk
  ·exact w.dw a b ha hk
  ·exact w.ow 0 b hn (hM b hk)
 ·rcases down i b hi h with ⟨i1,i2,_⟩|⟨i1,i2⟩
  ·exact w.Il i b i1 i2
  ·exact w.Il 0 b hn (hH b i2).1
 ·obtain ⟨a,ha,hk⟩:=dn i b hi h
  rcases hk with hk|hk
  ·exact w.UC a b ha hk
  ·exact w.Il 0 b hn (hM b hk)
theorem Lp{x y:MemOp}{n:Nat}(hx:x.act = .go n)(hy:y.act = .start){op:MemOp}(h:op ∈ #[x,y]):op.act.touch? = none:=by
 simp only [List.mem_toArray,List.mem_cons,List.not_mem_nil,or_false] at h
 rcases h with rfl|rfl
 ·rw [hx];rfl
 ·rw [hy];rfl
theorem jF{S T:Nat→Prop}(h:∀b,S b→T b){l:Loc}(hl:inB S l):inB T l:=by
 cases l<;>first|exact h _ hl|exact hl.elim
theorem HY{S T U:Nat→Prop}(h:∀b,S b→T b∨U b){l:Loc}(hl:inB S l):inB T l∨inB U l:=by
 cases l<;>first|exact h _ hl|exact hl.elim
theorem TI.fork(h:TI W O D n B t)(hn:0 < n){x y:MemOp}(hx:x.g=0∧x.act = .go n)(hy:y.g=n∧y.act = .start)(h0:Go.Conc.Deaf t 0=0)
  {M H N:Nat→Prop} (hM:∀b,M b→O 0 b) (hH:∀b,H b→O 0 b∧¬M b) (hN:∀b,N b→D 0 b∨M b):TI W (mX O n M H) (mY D n M N) (n+1) B (t ++ #[x,y]):=by
 have hk:Go.Conc.Deaf t n=0:=Go.ConcN.Deaf_absent fun i op hi e=>by have:=h.gs i op hi;omega
 have hnt:∀op ∈ #[x,y],∀b,op.act.touch? = some b→False:=fun op hop b hb=>by rw [Lp hx.2 hy.2 hop] at hb;cases hb
 have old:∀ {i:Nat} {a:Touch},touchAt (t ++ #[x,y]) i=some a→touchAt t i=some a:=by
  intro i a ha
  obtain ⟨z,hz,hza⟩:=touch_of ha
  rcases getElem?_append_cases hz with ⟨_,hz'⟩|⟨_,hzu⟩
  ·rw [touchAt_of hz'];exact hza
  ·exact (hnt z hzu a hza).elim
 have up:∀j l,Perm t j l→Perm (t ++ #[x,y]) j l:=fun j l hp=>hp.app fun op hop b hb _=>(hnt op hop b hb).elim
 have upW:∀j l,PermW t j l→PermW (t ++ #[x,y]) j l:=fun j l hp=>hp.app fun op hop b hb _ _=>(hnt op hop b hb).elim
 refine ⟨h.quiet.app fun op hop b hb _=>(hnt op hop b hb).elim,fun j hj l hl=>?_,fun j hj l hl=>?_,fun said=>?_,fun i op hi=>?_,fun op hop=>?_⟩
 ·by_cases j0:j=0
  ·subst j0
   exact up 0 l (h.own 0 hn l (jF (fun b hb=>by simp only [mX,if_true] at hb;exact hb.1) hl))
  ·by_cases jn:j=n
   ·subst jn
    have:inB (O 0) l:=jF (fun b hb=>by simp only [mX,if_neg j0,if_true] at hb;exact (hH b hb).1) hl
    exact fun i a ha e=>Go.ConcN.fork_knows hx hy h0 hk (h.own 0 hn l this i a (old ha) e)
   ·exact up j l (h.own j (by omega) l (jF (fun b hb=>by simp only [mX,if_neg j0,if_neg jn] at hb;exact hb) hl))
 ·have key:inB (D 0) l∨inB M l→PermW t 0 l:=by
   rintro (x|x)
   ·exact h.rd 0 hn l x
   ·exact PermW.of (h.own 0 hn l (jF hM x))
  by_cases j0:j=0
  ·subst j0
   exact upW 0 l (key (HY (fun b hb=>by simp only [mY,if_true] at hb;exact hb) hl))
  ·by_cases jn:j=n
   ·subst jn
    have:inB (D 0) l∨inB M l:=HY (fun b hb=>by simp only [mY,if_neg j0,if_true] at hb;exact hN b hb) hl
    exact fun i a ha e hw=>Go.ConcN.fork_knows hx hy h0 hk (key this i a (old ha) e hw)
   ·exact upW j l (h.rd j (by omega) l (jF (fun b hb=>by simp only [mY,if_neg j0,if_neg jn] at hb;exact hb) hl))
 ·have e:t ++ #[x,y]=(t ++ #[x]) ++ #[y]:=by apply Array.ext';simp
  rw [e]
  refine noRace_append (g:=n) (noRace_append (g:=0) (h.nr said) (fun op hop=>by simp at hop;rw [hop];exact hx.1) (fun i a _ op hop b hb _=>(hnt op (by simp at hop ⊢;exact .inl hop) b hb).elim))
   (fun op hop=>by simp at hop;rw [hop];exact hy.1) (fun i a _ op hop b hb _=>(hnt op (by simp at hop ⊢;exact .inr hop) b hb).elim)
 ·rcases getElem?_append_cases hi with ⟨_,hi'⟩|⟨_,hiu⟩
  ·exact Nat.lt_succ_of_lt (h.gs i op hi')
  ·simp only [List.mem_toArray,List.mem_cons,List.not_mem_nil,or_false] at hiu
   rcases hiu with rfl|rfl
   ·rw [hx.1];omega
   ·rw [hy.1];omega
 ·rcases Array.mem_append.1 hop with h1|h1
  ·exact h.low op h1
  ·simp only [List.mem_toArray,List.mem_cons,List.not_mem_nil,or_false] at h1
   rcases h1 with rfl|rfl
   ·rw [hx.2];trivial
   ·rw [hy.2];trivial
end
end Go.Ren
namespace Go.Ren
open Go.Conc hiding mem_ofEvents Deaf
open Go.ConcN (PermW)
def Vec{α:Type}(r:Nat→α→α→Prop)(n:Nat)(v' v:Nat→α):Prop:=∃i,i < n∧r i (v' i) (v i)∧∀j,j≠i→v' j=v j
theorem H6{α:Type}(r:Nat→α→α→Prop):∀(n:Nat) (v:Nat→α),(∀i,i < n→Acc (r i) (v i))→Acc (Vec r n) v
 |0,v,_=>.intro _ fun v' ⟨i,hi,_⟩=>absurd hi (Nat.not_lt_zero _)
 |n+1,v,h=>by
  have key:∀a,Acc (r n) a→∀v:Nat→α,v n=a→(∀i,i < n→Acc (r i) (v i))→Acc (Vec r (n+1)) v:=by
   intro a ha
   induction ha with
   |intro a _ iha=>
    intro v hv hacc
    have hn:=H6 r n v hacc
    revert hv hacc
    induction hn with
    |intro v _ ihv=>
     intro hv hacc
     refine .intro _ fun v' hv'=>?_
     obtain ⟨i,hi,hr,hj⟩:=hv'
     rcases Nat.lt_or_ge i n with hlt|hge
     ·refine ihv v' ⟨i,hlt,hr,hj⟩ ?_ fun k hk=>?_
      ·rw [hj n (by omega)];exact hv
      ·by_cases hki:k=i
       · subst hki;exact (hacc k hk).inv hr
       · rw [hj k hki];exact hacc k hk
     ·obtain rfl:i=n:=by omega
      refine iha (v' i) (hv ▸ hr) v' rfl fun k hk=>?_
      rw [hj k (by omega)];exact hacc k hk
  exact key (v n) (h n (by omega)) v rfl fun i hi=>h i (by omega)
abbrev Where:=(Nat→Prop)×Goroutine×World
def Nx(P:Program)(m:Bool)(I:World→Prop)(D:Nat→Prop)(Stop:(Nat→Prop)→Goroutine→World→Prop)(x' x:Where):Prop:=
 ¬Stop x.1 x.2.1 x.2.2∧∃w₁ es,az x.1 D x.2.2 w₁∧I w₁∧stepG P m x.2.1 w₁ = .go x'.2.1 x'.2.2 es∧x'.1=grow x.1 w₁ x'.2.2
section
variable{P:Program}{W:Nat→Prop}{O D:Nat→Nat→Prop}{gs:Array Goroutine}{w w':World}{sl:Option (Nat×Nat)}{t:Trace}{i:Nat}{g g':Goroutine}{es:Array Event}{X:Event→Prop}
theorem ru(O:Nat→Nat→Prop)(i:Nat)(w w':World):with_ O i w.heap.size w'.heap.size i=grow (O i) w w' :=by
 funext b
 apply propext
 unfold with_ grow
 simp
theorem zI{j:Nat}(h:j≠i)(B B':Nat):with_ O i B B' j=O j:=by
 funext b
 apply propext
 unfold with_
 simp [h]
end
end Go.Ren
namespace Go.Ren
open Go.Conc hiding mem_ofEvents Deaf
section
variable{P:Program}{Fin:Machine→Outcome→World→Trace→Prop}{K K':Machine→Trace→Prop}{m m':Machine}{t:Trace}{ops:Array MemOp}
inductive aA(P:Program)(Fin:Machine→Outcome→World→Trace→Prop)(K:Machine→Trace→Prop):Machine→Trace→Prop
 |here {m:Machine} {t:Trace} (h:K m t):aA P Fin K m t
 |ends {m:Machine} {t:Trace} {o:Outcome} {w:World} {ops:Array MemOp} (h:stepT P m=(.ended o w,ops)) (f:Fin m o w (t ++ ops)):aA P Fin K m t
 |next {m:Machine} {t:Trace} {m':Machine} {ops:Array MemOp} (h:stepT P m=(.next m',ops)) (k:aA P Fin K m' (t ++ ops)):aA P Fin K m t
theorem aA.bind(h:aA P Fin K m t)(k:∀m t,K m t→aA P Fin K' m t):aA P Fin K' m t:=by
 induction h with
 |here h=>exact k _ _ h
 |ends h f=>exact .ends h f
 |next h _ ih=>exact .next h ih
theorem aA.mono(h:aA P Fin K m t)(k:∀m t,K m t→K' m t):aA P Fin K' m t:=h.bind fun m t x=>.here (k m t x)
theorem aA.Us{α:Type _}{r:α→α→Prop}{J:α→Machine→Trace→Prop}
  (h:∀a m t,J a m t→K m t∨(∃o w ops,stepT P m=(.ended o w,ops)∧Fin m o w (t ++ ops))∨(∃m' ops,stepT P m=(.next m',ops)∧(K m' (t ++ ops)∨∃a',r a' a∧J a' m' (t ++ ops))))
  {a:α} (ha:Acc r a):∀ {m:Machine} {t:Trace},J a m t→aA P Fin K m t:=by
 induction ha with
 |intro a _ ih=>
  intro m t hj
  rcases h a m t hj with x|⟨o,w,ops,x,y⟩|⟨m',ops,x,y|⟨a',y,z⟩⟩
  ·exact .here x
  ·exact .ends x y
  ·exact .next x (.here y)
  ·exact .next x (ih a' y z)
theorem Lr{n:Nat}(h:stepT P m=(.next m',ops)):runNT P (n+1) m t=runNT P n m' (t ++ ops):=by
 simp [runNT,h]
theorem QC{n:Nat}(h:stepT P m=(.next m',ops)):runN P (n+1) m=runN P n m' :=by
 simp [runN,step,h]
theorem aA.run(h:aA P Fin (fun _ _=>False) m t):∃N last o w' t',runNT P (N+1) m t=(.ended o w',t')∧runN P N m = .next last∧step P last = .ended o w' ∧ Fin last o w' t' :=by
 induction h with
 |here h=>exact h.elim
 | @ends m t o w ops h f=>exact ⟨0,m,o,w,t ++ ops,by simp [runNT,h],rfl,by simp [step,h],f⟩
 | @next m t m' ops h _ ih=>
  obtain ⟨N,last,o,w',t',h1,h2,h3,h4⟩:=ih
  exact ⟨N+1,last,o,w',t',by rw [Lr h];exact h1,by rw [QC h];exact h2,h3,h4⟩
end
end Go.Ren
namespace Go.Ren
open Go.Conc hiding mem_ofEvents
open Go.ConcN (PermW RelBy)
section
variable{W:Nat→Prop}{O D:Nat→Nat→Prop}{n B:Nat}{t u:Trace}{a:Addr}{k r:Nat}
def Zf(W:Nat→Prop)(x:Touch):Prop:=x.loc.isMemory=true→inB W x.loc
structure Over(a:Addr)(W:Nat→Prop)(t:Trace)(k r:Nat):Prop where
 rel:RelBy a t k r
 abS:∀i x,r < i→t.g? i=some k→touchAt t i=some x→Zf W x
structure Gone(W:Nat→Prop)(t:Trace)(k:Nat):Prop where
 over:∀i,t.g? i=some k→t.counts i→∃j,t.g? j=some 0∧HappensBefore t i j
 known:∀i x,t.g? i=some k→touchAt t i=some x→¬Zf W x→Knows t 0 i
theorem g?_of{i:Nat}{op:MemOp}(h:t[i]? = some op):t.g? i=some op.g:=by simp [Trace.g?,h]
theorem oK{i g:Nat}(h:t.g? i=some g):∃op,t[i]? = some op∧op.g=g:=by
 unfold Trace.g? at h
 obtain ⟨op,h1,h2⟩:=Option.map_eq_some_iff.1 h
 exact ⟨op,h1,h2⟩
theorem lt_of_g?{i g:Nat}(h:t.g? i=some g):i < t.size:=by
 obtain ⟨op,h1,_⟩:=oK h
 exact lt_size_of_getElem? h1
theorem Over.app(h:Over a W t k r)(hu:∀i,t.size≤i→(t ++ u).g? i=some k→¬(t ++ u).counts i)(hm:∀op∈u,op.g=k→∀x,op.act.touch? = some x→Zf W x):Over a W (t ++ u) k r:=by
 refine ⟨h.rel.app hu,fun i x hi hg hx=>?_⟩
 obtain ⟨op,h1,h2⟩:=oK hg
 rcases getElem?_append_cases h1 with ⟨hl,h1'⟩|⟨_,hou⟩
 ·refine h.abS i x hi (by rw [g?_of h1',h2]) ?_
  rw [touchAt_old hl] at hx
  exact hx
 ·rw [touchAt_of h1] at hx
  exact hm op hou h2 x hx
theorem Over.appNot(h:Over a W t k r)(hu:∀op∈u,op.g≠k):Over a W (t ++ u) k r:=
 h.app (fun i hi hg=>by
  obtain ⟨op,h1,h2⟩:=oK hg
  rcases getElem?_append_cases h1 with ⟨hl,_⟩|⟨_,hou⟩
  ·omega
  ·exact absurd h2 (hu op hou)) (fun op hop e=>absurd e (hu op hop))
theorem Gone.app(h:Gone W t k)(hu:∀i,t.size≤i→(t ++ u).g? i=some k→¬(t ++ u).counts i)(hm:∀op∈u,op.g=k→∀x,op.act.touch? = some x→Zf W x):Gone W (t ++ u) k:=by
 refine ⟨fun i hg hc=>?_,fun i x hg hx hn=>?_⟩
 ·obtain ⟨op,h1,h2⟩:=oK hg
  rcases getElem?_append_cases h1 with ⟨hl,h1'⟩|⟨hl,hou⟩
  ·obtain ⟨j,h3,h4⟩:=h.over i (by rw [g?_of h1',h2]) ((counts_old hl).1 hc)
   exact ⟨j,by rw [g?_old (lt_of_g? h3)];exact h3,hb_app u h4⟩
  ·exact absurd hc (hu i hl hg)
 ·obtain ⟨op,h1,h2⟩:=oK hg
  rcases getElem?_append_cases h1 with ⟨hl,h1'⟩|⟨hl,hou⟩
  ·rw [touchAt_old hl] at hx
   exact (h.known i x (by rw [g?_of h1',h2]) hx hn).app u
  ·rw [touchAt_of h1] at hx
   exact absurd (hm op hou h2 x hx) hn
theorem Gone.appNot(h:Gone W t k)(hu:∀op∈u,op.g≠k):Gone W (t ++ u) k:=
 h.app (fun i hi hg=>by
  obtain ⟨op,h1,h2⟩:=oK hg
  rcases getElem?_append_cases h1 with ⟨hl,_⟩|⟨_,hou⟩
  ·omega
  ·exact absurd h2 (hu op hou)) (fun op hop e=>absurd e (hu op hop))
theorem Gone.widen{W':Nat→Prop}(h:Gone W t k)(hw:∀b,W b→W' b):Gone W' t k:=
 ⟨h.over,fun i x hg hx hn=>h.known i x hg hx fun hm=>hn fun hmem=>jF hw (hm hmem)⟩
theorem Over.gone{z:MemOp}(h:Over a W t k r)(hz:z.g=0∧z.act = .mark (.acquire a))(hk:k≠0)(hn:NoRelease a t)(h0:Go.Conc.Deaf t 0=0):Gone W (t ++ #[z]) k:=by
 have hr:r < t.size:=lt_of_act? h.rel.act
 have hzp:(t ++ #[z])[t.size]? = some z:=by rw [Array.getElem?_append_right (Nat.le_refl _)];simp
 have hheard:(t ++ #[z]).heard t.size:=⟨0,by rw [g?_of hzp,hz.1],by rw [deaf_old (Nat.le_refl _)];exact h0⟩
 have edge:HappensBefore (t ++ #[z]) r t.size:=
  .single (.inr ⟨.marked hr (.inr (by rw [act?_old hr];exact h.rel.act)) (by rw [act?_of hzp,hz.2]) (fun i h1 h2=>by rw [act?_old h2];exact hn i),(heard_old hr).2 h.rel.heard,hheard⟩)
 have before:∀i,t.g? i=some k→i≤r→HappensBefore (t ++ #[z]) i t.size:=by
  intro i hg hi
  rcases Nat.lt_or_ge i r with hlt|hge
  ·have hit:=lt_of_g? hg
   exact .trans (.single (.inl ⟨hlt,k,by rw [g?_old hit];exact hg,by rw [g?_old hr];exact h.rel.g⟩)) edge
  ·obtain rfl:i=r:=by omega
   exact edge
 have old:∀i,(t ++ #[z]).g? i=some k→i < t.size∧t.g? i=some k:=by
  intro i hg
  obtain ⟨op,h1,h2⟩:=oK hg
  rcases getElem?_append_cases h1 with ⟨hl,h1'⟩|⟨_,hou⟩
  ·exact ⟨hl,by rw [g?_of h1',h2]⟩
  ·simp only [List.mem_toArray,List.mem_cons,List.not_mem_nil,or_false] at hou
   subst hou
   exact absurd (h2.symm.trans hz.1) hk
 refine ⟨fun i hg hc=>?_,fun i x hg hx hm=>?_⟩
 ·obtain ⟨hl,hg'⟩:=old i hg
  refine ⟨t.size,by rw [g?_of hzp,hz.1],before i hg' (Nat.le_of_not_lt fun hlt=>h.rel.after i hlt hg' ((counts_old hl).1 hc))⟩
 ·obtain ⟨hl,hg'⟩:=old i hg
  rw [touchAt_old hl] at hx
  exact ⟨t.size,z,hzp,hz.1,.inr (before i hg' (Nat.le_of_not_lt fun hlt=>hm (h.abS i x hlt hg' hx)))⟩
def Ls(W:Nat→Prop)(B:Nat)(j b:Nat):Prop:=j=0∧b < B∧¬W b
def kC:Nat→Nat→Prop:=fun _ _=>False
theorem TI.alone(h:TI W O D n B t)(hg:∀k,k≠0→k < n→Gone W t k):TI W (Ls W B) kC n B t:=by
 refine ⟨h.quiet,fun j hj l hl=>?_,fun j hj l hl=>?_,h.nr,h.gs,h.low⟩
 ·have e0:j=0:=by
   cases l<;>first|exact hl.1|exact hl.elim
  subst e0
  have hnl:l.isMemory=true∧¬inB W l:=by
   cases l<;>first|exact ⟨rfl,hl.2.2⟩|exact hl.elim
  intro i x hx e
  obtain ⟨op,h1,h2⟩:=touch_of hx
  by_cases hz:op.g=0
  ·rw [←hz];exact knows_own h1
  ·refine (hg op.g hz (h.gs i op h1)).known i x (g?_of h1) hx fun hm=>?_
   rw [←e] at hnl
   exact hnl.2 (hm hnl.1)
 ·cases l<;>exact hl.elim
theorem TI.less{O' D':Nat→Nat→Prop}(h:TI W O D n B t)(hO:∀i b,O' i b→O i b)(hD:∀i b,D' i b→D i b∨O i b):TI W O' D' n B t:=
 ⟨h.quiet,fun i hi l hl=>h.own i hi l (jF (hO i) hl),fun i hi l hl=>(HY (hD i) hl).elim (h.rd i hi l) (fun x=>PermW.of (h.own i hi l x)),h.nr,h.gs,h.low⟩
theorem TI.share{S:Nat→Prop}(h:TI W O D n B t)(hq:Quiet (inB S) t):TI (fun b=>W b∨S b) O D n B t:=
 ⟨fun i op x hi hx hs=>(HY (T:=W) (U:=S) (fun _ y=>y) hs).elim (h.quiet i op x hi hx) (hq i op x hi hx),h.own,h.rd,h.nr,h.gs,h.low⟩
theorem TI.still(h:TI W O D n B t){z:MemOp}(hg:z.g < n)(hn:z.act.touch? = none)(hl:z.act.low B):TI W O D n B (t ++ #[z]):=by
 have nt:∀op ∈ #[z],∀b,op.act.touch? = some b→False:=fun op hop b hb=>by
  simp only [List.mem_toArray,List.mem_cons,List.not_mem_nil,or_false] at hop
  subst hop
  rw [hn] at hb
  cases hb
 refine ⟨h.quiet.app fun op hop b hb _=>(nt op hop b hb).elim,fun i hi l hl=>(h.own i hi l hl).app fun op hop b hb _=>(nt op hop b hb).elim,fun i hi l hl=>(h.rd i hi l hl).app fun op hop b hb _ _=>(nt op hop b hb).elim,
  fun said=>noRace_append (g:=z.g) (h.nr said) (fun op hop=>by simp at hop;rw [hop]) (fun i a _ op hop b hb _=>(nt op hop b hb).elim),fun i op hi=>?_,fun op hop=>?_⟩
 ·rcases getElem?_append_cases hi with ⟨_,hi'⟩|⟨_,hiu⟩
  ·exact h.gs i op hi'
  ·simp only [List.mem_toArray,List.mem_cons,List.not_mem_nil,or_false] at hiu
   subst hiu
   exact hg
 ·rcases Array.mem_append.1 hop with h1|h1
  ·exact h.low op h1
  ·simp only [List.mem_toArray,List.mem_cons,List.not_mem_nil,or_false] at h1
   subst h1
   exact hl
end
end Go.Ren
namespace Go.Ren
open Go.Conc hiding Goes
section
variable{P:Program}{m:Bool}{I:World→Prop}{X:Event→Prop}{D:Nat→Prop}{S T:Goroutine→Prop}{g g':Goroutine}
inductive Idle(P:Program)(m:Bool)(I:World→Prop)(X:Event→Prop)(S:Goroutine→Prop):Goroutine→Prop
 |stop {g:Goroutine} (h:S g):Idle P m I X S g
 |step {g:Goroutine} (hs:g.status = .running) (f:World→Goroutine) (es:World→Array Event) (h:∀w,I w→stepG P m g w = .go (f w) w (es w)∧∀e∈es w,X e∧(MemAct.ofEvent e).low w.heap.size)
   (k:∀w,I w→Idle P m I X S (f w)):Idle P m I X S g
theorem Idle.mk(hs:g.status = .running)(h:∀w,I w→(stepG P m g w).goes fun g' w' es=>w' = w∧(∀e∈es,X e∧(MemAct.ofEvent e).low w.heap.size)∧Idle P m I X S g'):Idle P m I X S g:=by
 have h':∀w,∃x:Goroutine×Array Event,I w→stepG P m g w = .go x.1 w x.2∧(∀e∈x.2,X e∧(MemAct.ofEvent e).low w.heap.size)∧Idle P m I X S x.1:=by
  intro w
  by_cases hi:I w
  ·have:=h w hi
   cases e:stepG P m g w with
   |go g' w' es=>
    rw [e,goes_go] at this
    obtain ⟨rfl,h2,h3⟩:=this
    exact ⟨(g',es),fun _=>⟨rfl,h2,h3⟩⟩
   |_=>rw [e] at this;exact this.elim
  ·exact ⟨(g,#[]),fun x=>absurd x hi⟩
 refine .step hs (fun w=>(Classical.choose (h' w)).1) (fun w=>(Classical.choose (h' w)).2) (fun w hi=>?_) (fun w hi=>?_)
 ·have:=Classical.choose_spec (h' w) hi;exact ⟨this.1,this.2.1⟩
 ·have:=Classical.choose_spec (h' w) hi;exact this.2.2
theorem Idle.go(hs:g.status = .running)(h:∀w,I w→stepG P m g w = .go g' w #[])(k:Idle P m I X S g'):Idle P m I X S g:=
 .step hs (fun _=>g') (fun _=>#[]) (fun w hi=>⟨h w hi,by simp⟩) (fun _ _=>k)
theorem Idle.says{es:Array Event}(hs:g.status = .running)(h:∀w,I w→stepG P m g w = .go g' w es)(hX:∀w,I w→∀e∈es,X e∧(MemAct.ofEvent e).low w.heap.size)(k:Idle P m I X S g'):Idle P m I X S g:=
 .step hs (fun _=>g') (fun _=>es) (fun w hi=>⟨h w hi,hX w hi⟩) (fun _ _=>k)
theorem Idle.bind(h:Idle P m I X S g)(k:∀g,S g→Idle P m I X T g):Idle P m I X T g:=by
 induction h with
 |stop h=>exact k _ h
 |step hs f es h _ ih=>exact .step hs f es h ih
theorem Idle.mono(h:Idle P m I X S g)(k:∀g,S g→T g):Idle P m I X T g:=h.bind fun g x=>.stop (k g x)
theorem quiet{X:Event→Prop}{w:World}:∀e∈(#[]:Array Event),X e∧(MemAct.ofEvent e).low w.heap.size:=by simp
theorem quiet_of{X:Event→Prop}{w:World}{es:Array Event}(h:∀e∈es,False):∀e∈es,X e∧(MemAct.ofEvent e).low w.heap.size:=fun e he=>(h e he).elim
def Says(P:Program)(m:Bool)(I:World→Prop)(es:Array Event)(T:Goroutine→Prop)(g:Goroutine):Prop:=
 g.status = .running∧∃g',(∀w,I w→stepG P m g w = .go g' w es)∧T g'
def jL(P:Program)(m:Bool)(I pre:World→Prop)(upd:World→World)(es:Array Event)(T:Goroutine→Prop)(g:Goroutine):Prop:=
 ∃g',(∀w,I w→pre w→stepG P m g w = .go g' (upd w) es)∧T g'
end
end Go.Ren
namespace Go.Ren
open Go.Conc hiding Goes mem_ofEvents Deaf
open Go.ConcN (WgLive)
open Go.ConcR (KK WgAt stA smA rd wr mk deafBehind_cons deafBehind_one)
section
variable{τ α:Type _}
def Ord(rk:τ→Nat)(Seat:τ→α→Prop)(Nx:τ→α→α→Prop)(x' x:τ×α):Prop:=(rk x'.1 < rk x.1∧Seat x'.1 x'.2)∨(x'.1=x.1∧Nx x.1 x'.2 x.2)
theorem OT{rk:τ→Nat}{Seat:τ→α→Prop}{Nx:τ→α→α→Prop}(h:∀s x,Seat s x→Acc (Nx s) x):∀(k:Nat) (s:τ) (x:α),rk s=k→Seat s x→Acc (Ord rk Seat Nx) (s,x):=by
 intro k
 induction k using Nat.strongRecOn with
 |_ k ih=>
  intro s x hk hs
  have:=h s x hs
  clear hs
  induction this with
  |intro x _ ihx=>
   refine .intro _ ?_
   rintro ⟨s',x'⟩ (⟨hlt,aU⟩|⟨he,hn⟩)
   ·exact ih (rk s') (by have:rk s' < rk s:=hlt;omega) s' x' rfl aU
   ·obtain rfl:s' = s:=he
    exact ihx x' hn
end
section
variable{P:Program}{m:Bool}{I:World→Prop}{X X':Event→Prop}{O D:Nat→Prop}{w w₁:World}{g g':Goroutine}{d:Nat}{es:Array Event}
def hearing(e:Event):Prop:=e.loc ≠ .mark .disable∧e.loc ≠ .mark .enable
theorem iD(h:∀e∈es,hearing e)(d:Nat):deafBehind d es=d:=by
 obtain ⟨l⟩:=es
 induction l with
 |nil=>rfl
 |cons e l ih=>
  rw [deafBehind_cons,deafBehind_one (h e (by simp)).1 (h e (by simp)).2]
  exact ih fun x hx=>h x (by simp at hx ⊢;exact .inr hx)
theorem fM.hearing{B:Nat}{e:Event}(h:fM X B O D e)(hX:X e→hearing e):hearing e:=by
 rcases h with h|h
 ·exact hX h.1
 ·obtain ⟨loc,wr,sy⟩:=e
  cases loc with
  |mark m=>
   have hm:uP m=true:=h
   cases m<;>first|(exfalso;cases hm;done)|exact ⟨by simp,by simp⟩
  |_=>exact ⟨by simp,by simp⟩
inductive fH(P:Program)(m:Bool)(I:World→Prop)(X:Event→Prop)(D:Nat→Prop)(Stop:Nat→(Nat→Prop)→Goroutine→World→Prop):Nat→(Nat→Prop)→Goroutine→World→Prop
 |stop {d:Nat} {O:Nat→Prop} {g:Goroutine} {w:World} (h:Stop d O g w):fH P m I X D Stop d O g w
 |step {d:Nat} {O:Nat→Prop} {g:Goroutine} {w:World} (hs:g.status = .running) (f:World→Goroutine) (u:World→World) (es:World→Array Event)
   (h:∀w₁,az O D w w₁→I w₁→stepG P m g w₁ = .go (f w₁) (u w₁) (es w₁)∧aO X O D w₁ (u w₁) (es w₁))
   (k:∀w₁,az O D w w₁→I w₁→fH P m I X D Stop (deafBehind d (es w₁)) (grow O w₁ (u w₁)) (f w₁) (u w₁)):fH P m I X D Stop d O g w
variable{Stop Stop':Nat→(Nat→Prop)→Goroutine→World→Prop}
theorem fH.bind(h:fH P m I X D Stop d O g w)(k:∀d O g w,Stop d O g w→fH P m I X D Stop' d O g w):fH P m I X D Stop' d O g w:=by
 induction h with
 |stop h=>exact k _ _ _ _ h
 |step hs f u es h _ ih=>exact .step hs f u es h fun w₁ hr hi=>ih w₁ hr hi
theorem fH.mono(h:fH P m I X D Stop d O g w)(k:∀d O g w,Stop d O g w→Stop' d O g w):fH P m I X D Stop' d O g w:=h.bind fun d O g w x=>.stop (k d O g w x)
theorem Wk.deaf{S:(Nat→Prop)→Goroutine→World→Prop}(hX:∀e,X e→hearing e)(hX':∀e,X e→X' e)(d:Nat)(h:Wk P m I X D S O g w):fH P m I X' D (fun d' O g w=>d' = d∧S O g w) d O g w:=by
 induction h with
 |stop h=>exact .stop ⟨rfl,h⟩
 | @step O g w hs f u es h _ ih=>
  refine .step hs f u es (fun w₁ hr hi=>⟨(h w₁ hr hi).1,?_⟩) fun w₁ hr hi=>?_
  ·have hG:=(h w₁ hr hi).2
   exact ⟨hG.size,hG.heap,hG.os,hG.output,hG.tape,fun e he=>(hG.ev e he).imp (fun x=>⟨hX' e x.1,x.2⟩) id⟩
  ·rw [iD (fun e he=>((h w₁ hr hi).2.ev e he).hearing (hX e)) d]
   exact ih w₁ hr hi
inductive ag(P:Program)(m:Bool)(I:World→Prop)(X:Event→Prop)(S:Nat→Goroutine→Prop):Nat→Goroutine→Prop
 |stop {d:Nat} {g:Goroutine} (h:S d g):ag P m I X S d g
 |step {d:Nat} {g:Goroutine} (hs:g.status = .running) (f:World→Goroutine) (es:World→Array Event) (h:∀w,I w→stepG P m g w = .go (f w) w (es w)∧∀e∈es w,X e∧(MemAct.ofEvent e).low w.heap.size)
   (k:∀w,I w→ag P m I X S (deafBehind d (es w)) (f w)):ag P m I X S d g
variable{S T:Nat→Goroutine→Prop}
theorem ag.bind(h:ag P m I X S d g)(k:∀d g,S d g→ag P m I X T d g):ag P m I X T d g:=by
 induction h with
 |stop h=>exact k _ _ h
 |step hs f es h _ ih=>exact .step hs f es h ih
theorem ag.mono(h:ag P m I X S d g)(k:∀d g,S d g→T d g):ag P m I X T d g:=h.bind fun d g x=>.stop (k d g x)
theorem Idle.deaf{S:Goroutine→Prop}(hX:∀e,X e→hearing e)(hX':∀e,X e→X' e)(d:Nat)(h:Idle P m I X S g):ag P m I X' (fun d' g=>d' = d∧S g) d g:=by
 induction h with
 |stop h=>exact .stop ⟨rfl,h⟩
 | @step g hs f es h _ ih=>
  refine .step hs f es (fun w hi=>⟨(h w hi).1,fun e he=>⟨hX' e ((h w hi).2 e he).1,((h w hi).2 e he).2⟩⟩) fun w hi=>?_
  rw [iD (fun e he=>hX e ((h w hi).2 e he).1) d]
  exact ih w hi
theorem Says.deaf{T:Goroutine→Prop}(hX:∀w,I w→∀e∈es,X e∧(MemAct.ofEvent e).low w.heap.size)(h:Says P m I es T g)(k:∀g,T g→ag P m I X S (deafBehind d es) g):ag P m I X S d g:=by
 obtain ⟨hs,g',hg,ht⟩:=h
 exact .step hs (fun _=>g') (fun _=>es) (fun w hi=>⟨hg w hi,hX w hi⟩) fun w hi=>k g' ht
theorem iI(O:Nat→Prop)(w:World):grow O w w=O:=by
 funext b
 apply propext
 unfold grow
 constructor
 ·rintro (x|x)
  ·exact x
  ·omega
 ·exact .inl
theorem ag.wkD{I':World→Prop}(h:ag P m I X S d g)(hI:∀w,I' w→I w):fH P m I' X D (fun d' O' g' w'=>S d' g' ∧ O' = O∧az O D w w') d O g w:=by
 have key:∀ {d:Nat} {g:Goroutine},ag P m I X S d g→∀w',az O D w w' → fH P m I' X D (fun d' O' g' w'=>S d' g' ∧ O' = O∧az O D w w') d O g w' :=by
  intro d g h
  induction h with
  |stop h=>intro w' r;exact .stop ⟨h,rfl,r⟩
  | @step d g hs f es h _ ih=>
   intro w' r
   refine .step hs f id es (fun w₁ hr hi=>⟨(h w₁ (hI w₁ hi)).1,⟨Nat.le_refl _,fun _ _ _=>rfl,rfl,rfl,rfl,fun e he=>.inl ((h w₁ (hI w₁ hi)).2 e he)⟩⟩) fun w₁ hr hi=>?_
   show fH P m I' X D _ _ (grow O w₁ w₁) _ _
   rw [iI]
   exact ih w₁ (hI w₁ hi) w₁ (r.trans hr)
 exact key h w (.refl w)
structure Pos where
 O:Nat→Prop
 D:Nat→Prop
 d:Nat
 g:Goroutine
 w:World
def NxD(P:Program)(m:Bool)(I:World→Prop)(Stop:(Nat→Prop)→Nat→(Nat→Prop)→Goroutine→World→Prop)(x' x:Pos):Prop:=
 x'.D=x.D∧¬Stop x.D x.d x.O x.g x.w∧∃w₁ es,az x.O x.D x.w w₁∧I w₁∧stepG P m x.g w₁ = .go x'.g x'.w es∧x'.O=grow x.O w₁ x'.w∧x'.d=deafBehind x.d es
theorem fH.acc{St:(Nat→Prop)→Nat→(Nat→Prop)→Goroutine→World→Prop}(h:fH P m I X D (St D) d O g w):Acc (NxD P m I St) ⟨O,D,d,g,w⟩:=by
 induction h with
 |stop h=>exact .intro _ fun x hx=>absurd h hx.2.1
 | @step d O g w hs f u es h _ ih=>
  refine .intro _ fun x hx=>?_
  obtain ⟨hD,_,w₁,es',hr,hi,hst,hO,hd⟩:=hx
  obtain ⟨O',D',d',g',w'⟩:=x
  dsimp only at hr hst hO hd hD
  rw [(h w₁ hr hi).1] at hst
  injection hst with h1 h2 h3
  subst h1 h2 h3 hO hd hD
  exact ih w₁ hr hi
def QD(P:Program)(m:Bool)(I:World→Prop)(S:Nat→Goroutine→Prop)(x' x:Pos):Prop:=
 ¬S x.d x.g∧∃w₁ w₂ es,I w₁∧stepG P m x.g w₁ = .go x'.g w₂ es∧x'.d=deafBehind x.d es
theorem ag.acc(h:ag P m I X S d g):∀x:Pos,x.d=d→x.g=g→Acc (QD P m I S) x:=by
 induction h with
 | @stop d g h=>intro x e1 e2;exact .intro _ fun y hy=>absurd (by rw [e1,e2];exact h) hy.1
 | @step d g hs f es h _ ih=>
  intro x e1 e2
  refine .intro _ fun y hy=>?_
  obtain ⟨_,w₁,w₂,es',hi,hst,hd⟩:=hy
  rw [e2,(h w₁ hi).1] at hst
  injection hst with h1 h2 h3
  subst h2 h3
  exact ih w₁ hi y (by rw [hd,e1]) h1.symm
def UG(P:Program)(x' x:Pos):Prop:=x.g.status = .running∧∃w₁ w₂ es,stepG P false x.g w₁ = .go x'.g w₂ es∧x'.d=deafBehind x.d es
theorem ry:∀(q:Nat) (x:Pos),QuitsD P q x.d x.g→Acc (UG P) x
 |0,x,h=>.intro _ fun y hy=>by have:=h.1;rw [hy.1] at this;cases this
 |q+1,x,h=>by
  refine .intro _ fun y hy=>?_
  obtain ⟨hr,w₁,w₂,es,hst,hd⟩:=hy
  rcases h with ⟨h1,_⟩|⟨_,g',es',_,h3,h4⟩
  ·rw [hr] at h1;cases h1
  ·rw [h3 w₁] at hst
   injection hst with a1 a2 a3
   subst a3
   exact ry q y (by rw [hd,←a1];exact h4)
end
end Go.Ren
namespace Go.Ren
open Go.Conc hiding Goes
open Go.ConcR (DC0)
section
variable{P:Program}{m:Bool}{I:World→Prop}{X:Event→Prop}{S T:Goroutine→Prop}{g g':Goroutine}
def RU(I:World→Prop)(_ w₁:World):Prop:=I w₁
theorem uM(hi:∃w,I w):∀ {n:Nat} {g:Goroutine} {w:World},Go.Conc.Goes P m (RU I) DC0 (fun g _=>S g) n g w→Idle P m I X S g
 |0,g,w,h=>let ⟨w₁,h₁⟩:=hi;.stop (h w₁ h₁)
 |n+1,g,w,h=>by
  rcases h with h|⟨hs,h⟩
  ·obtain ⟨w₁,h₁⟩:=hi
   exact .stop (h w₁ h₁)
  ·refine Idle.mk hs fun w₁ h₁=>?_
   have:=h w₁ h₁
   revert this
   cases stepG P m g w₁<;>simp only [GStep.goes,imp_self]
   rintro ⟨⟨rfl,rfl⟩,k⟩
   exact ⟨rfl,by simp,uM hi k⟩
theorem aP(n:Nat)(h:∀w,I w→Go.Conc.Goes P m (RU I) DC0 (fun g _=>S g) n g w)(hi:∃w,I w):Idle P m I X S g:=let ⟨w,hw⟩:=hi;uM hi (h w hw)
end
end Go.Ren
namespace Go.Ren
open Go.Conc hiding Goes
open Go.Conc.Lib Go.ConcR.Gen Go.RowKit Go.ConcN Go.ConcN.Gen
open Go.ConcR (KK wgBlock WgAt stA smA rd wr mk DC0)
section
variable{P:Program}{m:Bool}{X:Event→Prop}{L:WgLink}{Wg:Nat}{S T:Goroutine→Prop}
def Lv(L:WgLink)(Wg:Nat)(w:World):Prop:=WgLive L.tWg Wg w
def Z4(P:Program)(m:Bool)(X:Event→Prop)(L:WgLink)(Wg:Nat)(T:Goroutine→Prop)(g:Goroutine):Prop:=
 g.status = .running∧∀v:Nat,v < 2147483647→jL P m (Lv L Wg) (fun w=>WgAt L.tWg Wg w (v * KK) 0) (fun w=>w.setCell (stA Wg) (.int .u64 ((v+1) * KK))) #[rd (stA Wg),wr (stA Wg)] (Idle P m (Lv L Wg) X (Says P m (Lv L Wg) #[mk .enable] (Idle P m (Lv L Wg) X T))) g
def QS(P:Program)(m:Bool)(X:Event→Prop)(L:WgLink)(Wg:Nat)(T:Goroutine→Prop):Goroutine→Prop:=
 Idle P m (Lv L Wg) X (Says P m (Lv L Wg) #[mk .disable] (Idle P m (Lv L Wg) X (Z4 P m X L Wg T)))
theorem LH{ty:TypeId}{w:World}(h:WgLive ty Wg w):Wg < w.heap.size:=by
 obtain ⟨st,sm,h⟩:=h
 exact (Array.getElem?_eq_some_iff.1 h).1
def H7(P:Program)(m:Bool)(X:Event→Prop)(L:WgLink)(Wg:Nat)(T:Goroutine→Prop):Goroutine→Prop:=
 Says P m (Lv L Wg) #[mk .enable] (Idle P m (Lv L Wg) X (Says P m (Lv L Wg) #[mk (.acquire (stA Wg))] (Idle P m (Lv L Wg) X T)))
def Z5(P:Program)(m:Bool)(X:Event→Prop)(L:WgLink)(Wg:Nat)(T:Goroutine→Prop):Goroutine→Prop:=fun g=>
 g.status = .running∧jL P m (Lv L Wg) (fun w=>WgAt L.tWg Wg w 0 0) (fun w=>w) #[rd (stA Wg)] (Idle P m (Lv L Wg) X (H7 P m X L Wg T)) g
def QT(P:Program)(m:Bool)(X:Event→Prop)(L:WgLink)(Wg:Nat)(T:Goroutine→Prop):Goroutine→Prop:=fun g=>
 g.status = .running∧g.offers=none∧(∀w st,WgAt L.tWg Wg w st 0→stepG P m g w = .go { g with status:=.blocked } w #[]) ∧
 jL P m (Lv L Wg) (fun w=>WgAt L.tWg Wg w 0 1) (fun w=>w.setCell (smA Wg) (.int .u32 0)) (semEvents (smA Wg)) (Idle P m (Lv L Wg) X (Z5 P m X L Wg T)) g
def oV(L:WgLink)(Wg:Nat)(c:Frame)(cs:List Frame)(g:Goroutine):Prop:=
 ∃A:Array Value,g=G ((base L.wait).at ⟨A,[]⟩ [.code (L7 L),.inLoop (L7 L),.inBlock 0]) (c :: cs)∧A.size=84∧A[0]? = some (.pointer (some ⟨Wg,0,none⟩))
def adN(P:Program)(m:Bool)(X:Event→Prop)(L:WgLink)(Wg:Nat)(T A:Goroutine→Prop)(vs:Nat):Goroutine→Prop:=fun g=>
 g.status = .running∧∀v:Nat,v < 2147483648 →
  (v=vs→jL P m (Lv L Wg) (fun w=>WgAt L.tWg Wg w (v * KK) 0) (fun w=>w.setCell (stA Wg) (.int .u64 (v * KK+1))) #[rd (stA Wg),wr (stA Wg)] (Idle P m (Lv L Wg) X (QT P m X L Wg T)) g) ∧
  (v≠vs→jL P m (Lv L Wg) (fun w=>WgAt L.tWg Wg w (v * KK) 0) (fun w=>w) #[rd (stA Wg)] (Idle P m (Lv L Wg) X A) g)
def Zm(P:Program)(m:Bool)(X:Event→Prop)(L:WgLink)(Wg:Nat)(T A:Goroutine→Prop):Goroutine→Prop:=fun g=>
 g.status = .running∧∀v:Nat,v < 2147483648→jL P m (Lv L Wg) (fun w=>WgAt L.tWg Wg w (v * KK) 0) (fun w=>w) #[rd (stA Wg)]
  (fun g'=>(v=0→Idle P m (Lv L Wg) X (H7 P m X L Wg T) g')∧(v≠0→Idle P m (Lv L Wg) X (adN P m X L Wg T A v) g')) g
end
end Go.Ren
namespace Go.Ren
open Go.Conc hiding Goes mem_ofEvents Deaf
open Go.ConcN (WgLive)
open Go.Conc.Lib (WgLink)
open Go.ConcR (KK WgAt stA smA rd wr mk)
def X0(_:Event):Prop:=False
def XD(e:Event):Prop:=e=mk .disable
def XM(Wg:Nat)(e:Event):Prop:=e=mk .disable∨e=mk .enable∨∃a:Addr,a.block=Wg∧(e=⟨.mark (.read a),false,true⟩∨e=⟨.mark (.write a),false,true⟩)
section
variable(P:Program)(L:WgLink)(Wg:Nat)
def Zg(d:Nat)(g:Goroutine):Prop:=
 d=1∧g.status = .running∧mayWake P g=true∧jL P false (Lv L Wg) (fun w=>WgAt L.tWg Wg w 0 0) (fun w=>w.setCell (smA Wg) (.int .u32 1)) (semEvents (smA Wg)) (fun g'=>∃q,QuitsD P q 1 g') g
def WSt(d:Nat)(g:Goroutine):Prop:=
 d=1∧g.status = .running∧jL P false (Lv L Wg) (fun w=>WgAt L.tWg Wg w 1 0) (fun w=>w.setCell (stA Wg) (.int .u64 0)) #[wr (stA Wg)] (ag P false (Lv L Wg) X0 (Zg P L Wg) 1) g
def WLd(d:Nat)(g:Goroutine):Prop:=
 d=1∧g.status = .running∧jL P false (Lv L Wg) (fun w=>WgAt L.tWg Wg w 1 0) (fun w=>w) #[rd (stA Wg)] (ag P false (Lv L Wg) X0 (WSt P L Wg) 1) g
def zV(d:Nat)(g:Goroutine):Prop:=
 d=1∧g.status = .running∧∀v wt:Nat,wt≤1→v < 2147483647 →
  jL P false (Lv L Wg) (fun w=>WgAt L.tWg Wg w ((v+1) * KK+wt) 0) (fun w=>w.setCell (stA Wg) (.int .u64 (v * KK+wt))) #[rd (stA Wg),wr (stA Wg)]
   (fun g'=>((v=0∧wt=1)→ag P false (Lv L Wg) X0 (WLd P L Wg) 1 g')∧(¬(v=0∧wt=1)→∃q,QuitsD P q 1 g')) g
def jh(d:Nat)(g:Goroutine):Prop:=
 d=0∧Says P false (Lv L Wg) #[mk (.releaseMerge (stA Wg))] (ag P false (Lv L Wg) XD (zV P L Wg) 0) g
def rF(Ch:Nat)(Sent:(Nat→Prop)→(Nat→Prop)→Option Value→World→Prop)(I:World→Prop)(D:Nat→Prop)(d:Nat)(O:Nat→Prop)(g:Goroutine)(w:World):Prop:=
 d=0∧g.status = .running∧∃(g₂:Goroutine) (v z:Value),(∀w₁,az O D w w₁→I w₁→stepG P false g w₁ = .comm g₂ #[scase Ch v z] true .send w₁ #[])∧Sent O D (some v) w ∧
  ag P false (Lv L Wg) X0 (jh P L Wg) 0 (Go.Conc.served g₂ undef)
def je(Sent:(Nat→Prop)→(Nat→Prop)→Option Value→World→Prop)(D:Nat→Prop)(d:Nat)(O:Nat→Prop)(g:Goroutine)(w:World):Prop:=
 d=0∧Sent O D none w∧ag P false (Lv L Wg) X0 (jh P L Wg) 0 g
def fQ(Ch:Nat)(Sent:(Nat→Prop)→(Nat→Prop)→Option Value→World→Prop)(I:World→Prop)(D:Nat→Prop)(d:Nat)(O:Nat→Prop)(g:Goroutine)(w:World):Prop:=
 g.status = .running∧(rF P L Wg Ch Sent I D d O g w∨je P L Wg Sent D d O g w)
section
variable(gT:Goroutine)(A:Goroutine→Prop)
def QE(d:Nat)(g:Goroutine):Prop:=d=0∧Says P true (Lv L Wg) #[mk (.acquire (stA Wg))] (ag P true (Lv L Wg) (XM Wg) (fun d g=>d=0∧g=gT) 0) g
def M4(d:Nat)(g:Goroutine):Prop:=d=1∧g.status = .running∧jL P true (Lv L Wg) (fun w=>WgAt L.tWg Wg w 0 0) (fun w=>w) #[rd (stA Wg)] (ag P true (Lv L Wg) (XM Wg) (QE P L Wg gT) 1) g
def M3(d:Nat)(g:Goroutine):Prop:=
 d=1∧g.status = .running∧g.offers=none∧(∀w st,WgAt L.tWg Wg w st 0→stepG P true g w = .go { g with status:=.blocked } w #[]) ∧
 jL P true (Lv L Wg) (fun w=>WgAt L.tWg Wg w 0 1) (fun w=>w.setCell (smA Wg) (.int .u32 0)) (semEvents (smA Wg)) (ag P true (Lv L Wg) (XM Wg) (M4 P L Wg gT) 1) g
def M2(vs d:Nat)(g:Goroutine):Prop:=
 d=1∧g.status = .running∧∀v:Nat,v < 2147483648 →
  (v=vs→jL P true (Lv L Wg) (fun w=>WgAt L.tWg Wg w (v * KK) 0) (fun w=>w.setCell (stA Wg) (.int .u64 (v * KK+1))) #[rd (stA Wg),wr (stA Wg)] (ag P true (Lv L Wg) (XM Wg) (M3 P L Wg gT) 1) g) ∧
  (v≠vs→jL P true (Lv L Wg) (fun w=>WgAt L.tWg Wg w (v * KK) 0) (fun w=>w) #[rd (stA Wg)] (ag P true (Lv L Wg) (XM Wg) (fun d g=>d=1∧A g) 1) g)
def M1(d:Nat)(g:Goroutine):Prop:=
 d=1∧g.status = .running∧∀v:Nat,v < 2147483648→jL P true (Lv L Wg) (fun w=>WgAt L.tWg Wg w (v * KK) 0) (fun w=>w) #[rd (stA Wg)]
  (fun g'=>(v=0→ag P true (Lv L Wg) (XM Wg) (QE P L Wg gT) 1 g')∧(v≠0→ag P true (Lv L Wg) (XM Wg) (M2 P L Wg gT A v) 1 g')) g
end
def Anch(gT:Goroutine)(A:Goroutine→Prop):Prop:=∀g,A g→ag P true (Lv L Wg) (XM Wg) (M1 P L Wg gT A) 1 g
section
variable(Ch:Nat)(Sent:Nat→(Nat→Prop)→(Nat→Prop)→Option Value→World→Prop)(I:World→Prop)(Fin:(Nat→Prop)→(Nat→Prop)→Goroutine→World→Prop)
def iJ(D:Nat→Prop)(d:Nat)(O:Nat→Prop)(g:Goroutine)(w:World):Prop:=
 ∃(gT:Goroutine) (A:Goroutine→Prop),Anch P L Wg gT A∧ag P true (Lv L Wg) (XM Wg) (M1 P L Wg gT A) d g∧∀w',az O D w w' → Fin D O gT w'
def uT(i:Nat)(Nx:(Nat→Prop)→(Nat→Prop)→Goroutine→World→Prop)(D:Nat→Prop)(d:Nat)(O:Nat→Prop)(g:Goroutine)(w:World):Prop:=
 d=0∧g.status = .running∧∀w₁,az O D w w₁→I w₁→∃(g' child:Goroutine) (M H N:Nat→Prop),stepG P true g w₁ = .spawn g' child w₁ #[]∧(∀b,M b→O b)∧(∀b,H b→O b∧¬M b)∧(∀b,N b→D b∨M b) ∧
  fH P false I X0 N (fQ P L Wg Ch (Sent i) I N) 0 H child w₁∧Nx (fun b=>D b∨M b) (fun b=>O b∧¬M b∧¬H b) g' w₁
def lH(i:Nat)(Nx:(Nat→Prop)→(Nat→Prop)→Goroutine→World→Prop)(D:Nat→Prop)(d:Nat)(O:Nat→Prop)(g:Goroutine)(w:World):Prop:=
 d=1∧g.status = .running∧∀v:Nat,v < 2147483647→jL P true (Lv L Wg) (fun w=>WgAt L.tWg Wg w (v * KK) 0) (fun w=>w.setCell (stA Wg) (.int .u64 ((v+1) * KK))) #[rd (stA Wg),wr (stA Wg)]
  (fun g'=>∀w',az O D w w' → fH P true I (XM Wg) D (uT P L Wg Ch Sent I i Nx D) 1 O g' w') g
def Spawns(n:Nat):Nat→(Nat→Prop)→(Nat→Prop)→Goroutine→World→Prop
 |0,D,O,g,w=>fH P true I (XM Wg) D (iJ P L Wg Fin D) 0 O g w
 |r+1,D,O,g,w=>fH P true I (XM Wg) D (lH P L Wg Ch Sent I (n - (r+1)) (Spawns n r) D) 0 O g w
end
end
section
variable{P:Program}{L:WgLink}{Wg Ch:Nat}{I:World→Prop}{O D:Nat→Prop}{g:Goroutine}{w w':World}{d i:Nat}
variable{Sent:Nat→(Nat→Prop)→(Nat→Prop)→Option Value→World→Prop}{Fin Nx:(Nat→Prop)→(Nat→Prop)→Goroutine→World→Prop}
def XS(Wg:Nat)(e:Event):Prop:=∃a:Addr,a.block=Wg∧(e=⟨.mark (.read a),false,true⟩∨e=⟨.mark (.write a),false,true⟩)
theorem iE{e:Event}(h:XS Wg e):hearing e:=by
 obtain ⟨a,_,rfl|rfl⟩:=h<;>exact ⟨by simp,by simp⟩
theorem xW{e:Event}(h:XS Wg e):XM Wg e:=.inr (.inr h)
theorem oU{w:World}{Q:Event→Prop}(hQ:Q (mk .disable)):∀e ∈ #[mk .disable],Q e∧(MemAct.ofEvent e).low w.heap.size:=by
 intro e he
 rw [Array.mem_singleton] at he
 subst he
 exact ⟨hQ,trivial⟩
theorem zJ{w:World}{Q:Event→Prop}(hQ:Q (mk .enable)):∀e ∈ #[mk .enable],Q e∧(MemAct.ofEvent e).low w.heap.size:=by
 intro e he
 rw [Array.mem_singleton] at he
 subst he
 exact ⟨hQ,trivial⟩
theorem QS.walk{gT:Goroutine}(h:QS P true (XS Wg) L Wg (· = gT) g)(hI:∀w,I w→Lv L Wg w)
  (k:∀O' w',O' = O→az O D w w' → fH P true I (XM Wg) D (uT P L Wg Ch Sent I i Nx D) 0 O' gT w'):fH P true I (XM Wg) D (lH P L Wg Ch Sent I i Nx D) 0 O g w:=by
 have h1:ag P true (Lv L Wg) (XM Wg) (fun d g=>d=1∧Z4 P true (XS Wg) L Wg (· = gT) g) 0 g:=
  (Idle.deaf (fun e=>iE) (fun e=>xW) 0 h).bind fun d g ⟨e,hs⟩=>by
   subst e
   exact hs.deaf (fun w _=>oU (.inl rfl)) fun g' hg=>(Idle.deaf (fun e=>iE) (fun e=>xW) 1 hg)
 refine (h1.wkD (O:=O) (D:=D) (w:=w) hI).mono ?_
 rintro d O' g₁ w₁ ⟨⟨rfl,hr,h2⟩,rfl,r⟩
 refine ⟨rfl,hr,fun v hv=>?_⟩
 obtain ⟨g',h3,h4⟩:=h2 v hv
 refine ⟨g',h3,fun w' r'=>?_⟩
 have h5:ag P true (Lv L Wg) (XM Wg) (fun d g=>d=0∧g=gT) 1 g' :=
  (Idle.deaf (fun e=>iE) (fun e=>xW) 1 h4).bind fun d g ⟨e,hs⟩=>by
   subst e
   exact hs.deaf (fun w _=>zJ (.inr (.inl rfl))) fun g' hg=>(Idle.deaf (fun e=>iE) (fun e=>xW) 0 hg)
 refine (h5.wkD (O:=O') (D:=D) (w:=w') hI).bind ?_
 rintro d O'' g₂ w₂ ⟨⟨rfl,rfl⟩,rfl,r₂⟩
 exact k _ _ rfl ((r.trans r').trans r₂)
theorem UN{gT:Goroutine}{A:Goroutine→Prop}(h:∀g,A g→Idle P true (Lv L Wg) (XS Wg) (Zm P true (XS Wg) L Wg (· = gT) A) g):Anch P L Wg gT A:=by
 have dd:∀ {S:Goroutine→Prop} {g:Goroutine} (d:Nat),Idle P true (Lv L Wg) (XS Wg) S g→ag P true (Lv L Wg) (XM Wg) (fun d' g=>d' = d∧S g) d g:=fun d h=>Idle.deaf (fun e=>iE) (fun e=>xW) d h
 have adO:∀d g,(d=1∧H7 P true (XS Wg) L Wg (· = gT) g)→ag P true (Lv L Wg) (XM Wg) (QE P L Wg gT) d g:=by
  rintro d g ⟨rfl,hs⟩
  refine Says.deaf (fun w _=>zJ (.inr (.inl rfl))) hs fun g' hg=>(dd 0 hg).mono ?_
  rintro d g ⟨rfl,h1,g'',h2,h3⟩
  exact ⟨rfl,h1,g'',h2,dd 0 h3⟩
 have h4:∀d g,(d=1∧Z5 P true (XS Wg) L Wg (· = gT) g)→M4 P L Wg gT d g:=by
  rintro d g ⟨rfl,h1,g',h2,h3⟩
  exact ⟨rfl,h1,g',h2,(dd 1 h3).bind adO⟩
 have h3:∀d g,(d=1∧QT P true (XS Wg) L Wg (· = gT) g)→M3 P L Wg gT d g:=by
  rintro d g ⟨rfl,h1,h2,h3,g',h5,h6⟩
  exact ⟨rfl,h1,h2,h3,g',h5,(dd 1 h6).mono h4⟩
 intro g hA
 refine (dd 1 (h g hA)).mono ?_
 rintro d g ⟨rfl,h1,h2⟩
 refine ⟨rfl,h1,fun v hv=>?_⟩
 obtain ⟨g',h5,h6,h7⟩:=h2 v hv
 refine ⟨g',h5,fun e=>(dd 1 (h6 e)).bind adO,fun e=>(dd 1 (h7 e)).mono ?_⟩
 rintro d g ⟨rfl,h8,h9⟩
 refine ⟨rfl,h8,fun v' hv'=>⟨fun e=>?_,fun e=>?_⟩⟩
 ·obtain ⟨g₂,a1,a2⟩:=(h9 v' hv').1 e
  exact ⟨g₂,a1,(dd 1 a2).mono h3⟩
 ·obtain ⟨g₂,a1,a2⟩:=(h9 v' hv').2 e
  exact ⟨g₂,a1,dd 1 a2⟩
end
end Go.Ren
