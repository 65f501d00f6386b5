import Derived.Conc.EventLaws
import Derived.Test.YtbpcjpbcgeccbaaGreatH11
import Derived.Test.YtbpcjpbcgeccbaaGreatH12
import Derived.Test.YtbpcjpbcgeccbaaGreatH13
set_option linter.unusedVariables false
set_option linter.unusedSectionVars false
set_option linter.unusedSimpArgs false
namespace Go.Am
open Go.Conc (born QuitsD G scase rcase)
open Go.Conc.Lib
open Go.Ren (grow fK aN au Wk dM Idle ag X0 XS XM Lv fQ lD uV mM hearing mO vZ fU M1 Anch)
section
variable{P:Program}{ρ σ:Env}{O O' D D':Nat→Prop}{h h':AH}{w w':World}{X:Event→Prop}{m:Bool}{base cs:List Frame}{I:World→Prop}{a a':aB}{f:Frame}{lo hi:Nat}{ops:Array Oper}{i:Nat}{o:Oper}{s s₀:AS}{pl:bH}{g:Goroutine}
theorem lI.rely(S:lI P ρ O D base s g w)(r:au O D w w'):lI P ρ O D base s g w' :=⟨S.run,S.rel.rely r⟩
theorem wo.rely(A:wo P ρ lo s₀ ops i f cs O D w)(r:au O D w w'):wo P ρ lo s₀ ops i f cs O D w' :=⟨A.bound,A.fs,A.run,A.todo,A.uI,A.wanted,A.stk,A.rel.rely r⟩
structure FC(P:Program)(s s':AS):Prop where
 run:s.fr.ret=false
 round:s.fr.round=none
 at_:∃ops i l k o c x fn first cap a',s.fr.todo = .region ops (i :: l) :: k∧ops[i]? = some o∧Region.wanted o (yielded ops s.fr.tmps)=true∧bu o=true∧o.op = .defer c∧c.callee = .value x∧ax s.fr.tmps x = .func fn first cap ∧
   az P { s.fr with defers:={ target:=.fn fn cap,args:=first ++ c.args.map (ax s.fr.tmps) } :: s.fr.defers } s.h undef=some a' ∧ s' = ⟨a',s.cs,s.h⟩
theorem Ig[aI P]{m:Bool}(k:FC P s s₀)(S:lI P ρ O D base s g w):Wk P m I X D (fun O' g' w'=>∃σ,ρ.Le σ∧lI P σ O' D base s₀ g' w') O g w:=by
 obtain ⟨hrun,eu,ops,i,l,kk,o,c,x,fn,first,cap,a',t1,t2,t3,t4,t5,t6,t7,t8,t9⟩:=k
 refine (tH (c:=[]) (l:=[]) S hrun (.inr ⟨l,kk,t1⟩)).bind ?_
 rintro uX g₂ w₂ ⟨τ,lo,f,cs,hle,rfl,A⟩
 refine Wk.mk rfl fun w₁ hr _=>?_
 obtain ⟨g',h1,h2⟩:=(A.rely hr).defer (m:=m) (base:=base) t2 t3 t4 t5 t6 t7 eu t8
 refine ⟨g',w₁,#[],h1,.none w₁,.stop ⟨τ,hle,?_⟩⟩
 rw [Go.Ren.jr]
 subst t9
 exact h2
theorem Ri(hm:f.mode = .run)(hr:f.roundOf=none):f.at ⟨f.tmps,f.defers⟩ f.todo=f:=by
 obtain ⟨fn,tmps,todo,defers,mode,kind,ro⟩:=f
 dsimp only at hm hr
 subst hm hr
 rfl
theorem FB.MV(h:FB ρ a f)(hr:a.round=none):f.roundOf=none:=by
 have:=h.round
 rw [hr] at this
 generalize f.roundOf=z at this
 cases this
 rfl
structure Ih(P:Program)(fid:FuncId)(args:Array Value)(s s':AS):Prop where
 run:s.fr.ret=false
 round:s.fr.round=none
 at_:∃ops i l k o as ats a',s.fr.todo = .region ops (i :: l) :: k∧ops[i]? = some o∧Region.wanted o (yielded ops s.fr.tmps)=true∧bu o=true∧o.op = .call { callee:=.value (.func fid),args:=as,argTypes:=ats }∧as.map (ax s.fr.tmps)=args ∧
   az P s.fr s.h (.tuple #[])=some a' ∧ s' = ⟨a',s.cs,s.h⟩
theorem Rj{as:Array Operand}{t:Array Value}{e:Operand→Value}(h:∀x∈as,VR ρ (ax t x) (e x)):AR (VR ρ) (as.map (ax t)) (as.map e):=by
 refine ⟨by simp,fun j u v hu hv=>?_⟩
 rw [Array.getElem?_map] at hu hv
 cases hj:as[j]? with
 | none=>rw [hj] at hu;cases hu
 | some z=>
   rw [hj] at hu hv
   cases hu
   cases hv
   exact h z (Array.mem_of_getElem? hj)
theorem tJ{fid:FuncId}{as:Array Operand}{ats:Array TypeId}(hp:bQ P fid=true)(A:wo P ρ lo s₀ ops i f cs O D w)(eu:s₀.fr.round=none)(ho:ops[i]? = some o)(hw:Region.wanted o (yielded ops s₀.fr.tmps)=true)(hok:bu o=true)(hop:o.op = .call { callee:=.value (.func fid),args:=as,argTypes:=ats }) :
   AR (VR ρ) (as.map (ax s₀.fr.tmps)) (as.map f.eval)∧∃s' k',f=f.at ⟨f.tmps,f.defers⟩ (.inRegion ops (i :: s') :: k')∧∀w₁,stepG P m (dN f (cs ++ base)) w₁ = .go (dN (Frame.enter P fid (as.map f.eval) .normal) (f :: (cs ++ base))) w₁ #[]:=by
 obtain ⟨s',k',ht⟩:=A.todo
 have hw' :=A.wanted o ho
 rw [hw] at hw'
 refine ⟨Rj fun x hx=>A.uI o ho hok x (by rw [hop];simp [Op.operands,Call.operands,hx]),s',k',?_,fun w₁=>?_⟩
 · have:=Ri A.run (A.fs.base.MV eu)
   rw [ht] at this
   exact this.symm
 · rw [eX A.run ht ho hw' (fun q hq=>by rw [hop] at hq;cases hq)]
   have hex:∀ay,(execOp f.eval o).runT P w₁ ay=(.ok (.enter fid (as.map f.eval)) w₁,ay ++ #[]):=by
    intro ay
    have:execOp f.eval o=callFunc fid ((#[] ++ as.map f.eval) ++ #[]):=by
     unfold execOp
     rw [hop]
     rfl
    rw [this,pU hp]
    simp
   have:=yP (cs:=cs ++ base) A.fs.base.ne (fun d x y k=>A.fs.wz d true x y k) hex
   rw [this]
   rfl
theorem args1{as:Array Value}{gb Wg:Nat}(hg:ρ.to gb=(Wg,0))(h:AR (VR ρ) #[.pointer (some ⟨gb,0,none⟩)] as):as = #[.pointer (some ⟨Wg,0,none⟩)]:=by
 obtain ⟨h1,h2⟩:=h
 have hs:as.size=1:=by simpa using h1.symm
 obtain ⟨v,rfl⟩:∃v,as = #[v]:=by
   refine ⟨as[0],?_⟩
   apply Array.ext (by simp [hs])
   intro i h1 h2
   simp at h2
   subst h2
   rfl
 have:=h2 0 _ v rfl rfl
 cases this with
 | ptr hb=>simp [Env.addr,hg]
theorem args2{as:Array Value}{gb Wg:Nat}{k:IntKind}{n:Int}(hg:ρ.to gb=(Wg,0))(h:AR (VR ρ) #[.pointer (some ⟨gb,0,none⟩),.int k n] as):as = #[.pointer (some ⟨Wg,0,none⟩),.int k n]:=by
 obtain ⟨h1,h2⟩:=h
 have hs:as.size=2:=by simpa using h1.symm
 obtain ⟨u,v,rfl⟩:∃u v,as = #[u,v]:=by
   refine ⟨as[0],as[1],?_⟩
   apply Array.ext (by simp [hs])
   intro i h1 h2
   simp at h2
   match i,h2 with
   |0,_=>rfl
   |1,_=>rfl
 have a1:=h2 0 _ u rfl rfl
 have a2:=h2 1 _ v rfl rfl
 cases a1 with
 | ptr hb=>cases a2;simp [Env.addr,hg]
end
end Go.Am
namespace Go.Am
open Go.Conc (born QuitsD G scase rcase)
open Go.Conc.Lib
open Go.Ren (grow fK aN au Wk dM Idle ag X0 XS XM Lv fQ lD uV mM hearing mO vZ fU M1 Anch)
section
variable{P:Program}{ρ σ:Env}{O O' D D':Nat→Prop}{h h':AH}{w w':World}{X:Event→Prop}{m:Bool}{base cs:List Frame}{I:World→Prop}{a a':aB}{f:Frame}{lo hi:Nat}{ops:Array Oper}{i:Nat}{o:Oper}{s s₀:AS}{pl:bH}{g:Goroutine}
 {L:WgLink} {Wg Ch gb cb j:Nat} {R:AS→Prop}
theorem Rk[aI P]{Fin:(Nat→Prop)→(Nat→Prop)→Goroutine→World→Prop}(H:WgLib P L)(hp:bQ P L.wait=true)(hi:∃w,Lv L Wg w)
   (k:aY P pl (fun s₁=>∃s',Ih P L.wait #[.pointer (some ⟨gb,0,none⟩)] s₁ s' ∧ R s') s) (S:lI P ρ O D base s g w) (hgb:ρ.born gb) (hg:ρ.to gb=(Wg,0))
   (fin:∀s' σ O' g' w',R s' → ρ.Le σ→lI P σ O' D base s' g' w' → Fin D O' g' w') :
   dM P true I (XM Wg) D (fU P L Wg Fin D) 0 O g w:=by
 have hW:Wk P true I X0 D (fun O' g' w'=>fU P L Wg Fin D 0 O' g' w') O g w:=by
   refine (iF k S).bind ?_
   rintro iP g₁ w₁ ⟨σ,s₁,⟨s',⟨hrun,eu,ops,i,l,kk,o,as,ats,a',t1,t2,t3,t4,t5,t6,t7,t8⟩,hR⟩,hle,AU⟩
   have hg₁:σ.to gb=(Wg,0):=(hle.to _ hgb).trans hg
   refine (tH (c:=[]) (l:=[]) AU hrun (.inr ⟨l,kk,t1⟩)).bind ?_
   rintro uX g₂ w₂ ⟨τ,lo,f,cs,iQ,rfl,A⟩
   have hg₂:τ.to gb=(Wg,0):=(iQ.to _ (hle.born _ hgb)).trans hg₁
   obtain ⟨hargs,sr,kr,Pg,hst⟩:=tJ (m:=true) (base:=base) hp A eu t2 t3 t4 t5
   rw [t6] at hargs
   have hargs' :=args1 hg₂ hargs
   rw [hargs'] at hst
   refine Wk.mk rfl fun w₃ hr _=>⟨_,_,_,hst w₃,.none w₃,?_⟩
   rw [Go.Ren.jr]
   have e0:=Go.Ren.J5 (P:=P) (m:=true) (X:=XS Wg) (L:=L) (Wg:=Wg) H hi (b₀:=f) (a₀:=⟨f.tmps,f.defers⟩) (ops₀:=ops) (i₀:=i) (rest₀:=sr) (k₀:=kr) (cs:=cs ++ base)
   have e1:=fun {g} (hA:Go.Ren.qZ L Wg (f.at ⟨f.tmps,f.defers⟩ (.inRegion ops (i :: sr) :: kr)) (cs ++ base) g)=>Go.Ren.J4 (P:=P) (m:=true) (X:=XS Wg) (L:=L) (Wg:=Wg) (T:=(· = G ((f.at ⟨f.tmps,f.defers⟩ (.inRegion ops (i :: sr) :: kr)).finish (.tuple #[])) (cs ++ base))) H hi (fun a ha=>⟨a,ha,.inr rfl⟩)
    (b₀:=f) (a₀:=⟨f.tmps,f.defers⟩) (ops₀:=ops) (i₀:=i) (rest₀:=sr) (k₀:=kr) (cs:=cs ++ base) (by rw [Frame.finish_at]) (g:=g) hA
   have hanch:=Go.Ren.VT (P:=P) (L:=L) (Wg:=Wg) (gT:=G ((f.at ⟨f.tmps,f.defers⟩ (.inRegion ops (i :: sr) :: kr)).finish (.tuple #[])) (cs ++ base)) (A:=Go.Ren.qZ L Wg (f.at ⟨f.tmps,f.defers⟩ (.inRegion ops (i :: sr) :: kr)) (cs ++ base)) (fun g hA=>e1 hA)
   rw [←Pg] at e0 hanch
   refine .stop ⟨G (f.finish (.tuple #[])) (cs ++ base),_,hanch,?_,fun w' hr'=>?_⟩
   ·refine (Idle.deaf (fun e=>Go.Ren.jm) (fun e=>Go.Ren.AV) 0 e0).bind fun d g ⟨e,hs⟩=>?_
    subst e
    refine hs.deaf (fun w _=>Go.Ren.ru (.inl rfl)) fun g' hg=>?_
    refine (Idle.deaf (fun e=>Go.Ren.jm) (fun e=>Go.Ren.AV) 1 hg).bind ?_
    rintro d g ⟨rfl,hA⟩
    exact hanch g hA
   ·subst t8
    refine fin _ τ _ _ w' hR (hle.trans iQ) ?_
    exact (A.rely hr |>.rely hr').finish (.refl τ) (fun x _ hx=>hx) (Nat.le_refl _) (.tuple rfl fun i x y hx=>by simp at hx) (A.rely hr |>.rely hr').rel t7
 refine (Go.Ren.Wk.deaf (fun e x=>x.elim) (fun e x=>x.elim) 0 hW).mono ?_
 rintro d O g w ⟨rfl,h⟩
 exact h
theorem Rl(fid:FuncId){a a':Array Value}(h:AR (VR ρ) a a'):F0 ρ { aB.enter P fid a with dk:=true } (Frame.enter P fid a' .deferred):=by
 have k:=Ad (P:=P) fid h
 exact ⟨⟨k.fn,k.defers,k.mode,rfl,k.round⟩,k.tmps,k.todo⟩
end
end Go.Am
namespace Go.Am
open Go.Conc (born QuitsD G scase rcase)
open Go.Conc.Lib
open Go.ConcR (WgAt)
open Go.Ren (grow fK aN au Wk dM Idle ag X0 XS XM Lv fQ lD uV mM hearing mO vZ fU M1 Anch Spawns FH)
section
variable{P:Program}{ρ σ:Env}{O O' D D':Nat→Prop}{h h':AH}{w w':World}{X:Event→Prop}{m:Bool}{base cs:List Frame}{I:World→Prop}{a a':aB}{f:Frame}{lo hi:Nat}{ops:Array Oper}{i:Nat}{o:Oper}{s s₀:AS}{pl:bH}{g:Goroutine}
 {L:WgLink} {Wg Ch gb cb j:Nat} {R:AS→Prop}
def Rn(P:Program)(Ii:Env)(base:List Frame)(Fin:AS→Prop):(Nat→Prop)→(Nat→Prop)→Goroutine→World→Prop:=fun D O g w=>∃σ s',Fin s' ∧ Ii.Le σ∧lI P σ O D base s' g w
structure uJ(P:Program)(L:WgLink):Prop extends WgLib P L where
 add:bQ P L.add=true
 done:bQ P L.done=true
 wait:bQ P L.wait=true
end
end Go.Am
namespace Go.Am
open Go.Conc (born QuitsD G scase rcase)
open Go.Conc.Lib
open Go.ConcR (WgAt)
open Go.Ren (grow fK aN au Wk dM Idle ag X0 XS XM Lv fQ lD uV mM hearing mO vZ fU M1 Anch Spawns FH At aC Keep full)
structure St(P:Program)(base:List Frame)(W U Z:Nat→Prop)(N:Nat)(ρ:Env)(s:AS)(g:Goroutine)(w:World)(m:Machine)(t:Trace):Prop where
 at_:At P W U Z N 0 g w m t
 JX:lI P ρ (full Z w) (fun _=>False) base s g w
 lt:∀b,Z b→b < w.heap.size
section
variable{P:Program}{ρ σ:Env}{W U Z:Nat→Prop}{N:Nat}{h h':AH}{w w':World}{mm:Bool}{base cs:List Frame}{a a':aB}{f:Frame}{lo hi:Nat}{ops:Array Oper}{i:Nat}{o:Oper}{s s₀:AS}{pl:bH}{g:Goroutine}
 {L:WgLink} {Wg Ch gb cb j:Nat} {R:AS→Prop} {aZ:Machine→Outcome→World→Trace→Prop} {m:Machine} {t:Trace}
theorem St.reach[aI P]{K:AS→Prop}(S:St P base W U Z N ρ s g w m t)(k:aY P pl K s) :
   aC P aZ (fun m t=>∃(σ:Env) (s':AS) (g':Goroutine) (w':World),K s' ∧ ρ.Le σ∧St P base W U Z N σ s' g' w' m t∧Keep Z w w') m t:=by
 refine (J6 S.lt k S.JX S.at_).mono ?_
 rintro m t ⟨σ,s',g',w',k1,k2,k3,k4,k5⟩
 exact ⟨σ,s',g',w',k1,k2,⟨k4,k3,k5.lt S.lt⟩,k5⟩
theorem St.Ro[aI P]{c:List Nat}(S:St P base W U Z N ρ s g w m t)(hrun:s.fr.ret=false){l:List Nat}{k:List aK}(ht:s.fr.todo = .region ops (i :: l) :: k) :
   aC P aZ (fun m t=>∃(σ:Env) (lo:Nat) (f:Frame) (cs:List Frame) (w':World),ρ.Le σ∧wo P σ lo s ops i f cs (full Z w') (fun _=>False) w' ∧ At P W U Z N 0 (dN f (cs ++ base)) w' m t∧Keep Z w w') m t:=by
 refine (Go.Ren.At.wk2 (tH (X:=X0) (I:=fun _=>True) (m:=true) (c:=[]) (l:=[]) S.JX hrun (.inr ⟨l,k,ht⟩)) S.lt rfl S.at_).mono ?_
 rintro m t ⟨g',w',hat,⟨σ,lo,f',cs,k1,rfl,k3⟩,hk⟩
 exact ⟨σ,lo,f',cs,w',k1,k3,hat,hk⟩
theorem lI.at(S:lI P ρ (full Z w) (fun _=>False) base s g w)(d:Nat):lI P ρ (full Z w) (fun _=>False) base s g (w.at d):=S.rely ⟨Nat.le_refl _,fun _ _=>rfl,fun _ _=>rfl,.rfl,rfl,rfl⟩
theorem Ij{v v':Value}{obj:Obj}(A:wo P ρ lo s₀ ops i f cs (full Z w) (fun _=>False) w)(hat:At P W U Z N 0 (dN f (cs ++ base)) w m t)(hlt:∀b,Z b→b < w.heap.size)(ho:ops[i]? = some o)(hw:Region.wanted o (yielded ops s₀.fr.tmps)=true)(hnd:∀q,o.op ≠ .defer q)
   (hrun:∀d₁ ay,(execOp f.eval o).runT P (w.at d₁) ay=(.ok (.value v') ((w.at d₁).alloc obj),ay ++ #[])) (hl:s₀.h.look s₀.h.n=none) (ha:az P s₀.fr s₀.h.blank v=some a') (hv:VR (ρ.add s₀.h.n (w.heap.size,0) False 0 0) v v') :
   aC P aZ (fun m t=>ρ.Le (ρ.add s₀.h.n (w.heap.size,0) False 0 0)∧(ρ.add s₀.h.n (w.heap.size,0) False 0 0).born s₀.h.n∧(ρ.add s₀.h.n (w.heap.size,0) False 0 0).to s₀.h.n=(w.heap.size,0) ∧
    St P base W (fun b=>U b∨b=w.heap.size) (fun b=>Z b∨b=w.heap.size) N (ρ.add s₀.h.n (w.heap.size,0) False 0 0) ⟨a',s₀.cs,s₀.h.blank⟩ (dN (f.finish v') (cs ++ base)) (w.alloc obj) m t) m t:=by
 obtain ⟨s',k',ht⟩:=A.todo
 have hw' :=A.wanted o ho
 rw [hw] at hw'
 have hst:∀d₁,stepG P true (dN f (cs ++ base)) (w.at d₁) = .go (dN (f.finish v') (cs ++ base)) ((w.at d₁).alloc obj) #[]:=by
   intro d₁
   rw [eX A.run ht ho hw' hnd]
   have:=kN (cs:=cs ++ base) A.fs.base.ne (hrun d₁)
   rw [this]
   rfl
 have hnb:¬ρ.born s₀.h.n:=fun hb=>Nat.lt_irrefl _ (A.rel.fresh _ hb)
 refine (hat.fresh rfl hst).mono ?_
 intro m t hat'
 refine ⟨Env.jl hnb,.inl rfl,bV,hat',?_,fun b hb=>?_⟩
 · have e:full Z w=full (fun b=>Z b∨b=w.heap.size) (w.alloc obj):=by
    funext b
    apply propext
    unfold full
    have hs:(w.alloc obj).heap.size=w.heap.size+1:=by simp
    rw [hs]
    constructor
    ·rintro ⟨h1,h2⟩
     exact ⟨by omega,fun h=>h.elim h2 (by omega)⟩
    ·rintro ⟨h1,h2⟩
     have:b≠w.heap.size:=fun e=>h2 (.inr e)
     exact ⟨by omega,fun h=>h2 (.inl h)⟩
   rw [←e]
   exact A.finish (Env.jl hnb) (fun x hx hb=>hb.resolve_left (by omega)) (Nat.le_succ _) hv (A.rel.blank _ hl) ha
 · have hs:(w.alloc obj).heap.size=w.heap.size+1:=by simp
   rw [hs]
   rcases hb with hb|rfl
   ·exact Nat.lt_succ_of_lt (hlt b hb)
   ·exact Nat.lt_succ_self _
structure J7(P:Program)(L:WgLink)(s s':AS):Prop where
 run:s.fr.ret=false
 at_:∃ops i l k o z a',s.fr.todo = .region ops (i :: l) :: k∧ops[i]? = some o∧Region.wanted o (yielded ops s.fr.tmps)=true∧o.op = .alloc L.tWg∧zeroOf P L.tWg=some z∧z.cells = #[.int .u64 0,.int .u32 0] ∧
   s.h.look s.h.n=none∧az P s.fr s.h.blank (.pointer (some ⟨s.h.n,0,none⟩))=some a' ∧ s' = ⟨a',s.cs,s.h.blank⟩
theorem St.group[aI P]{s':AS}(S:St P base W U Z N ρ s g w m t)(k:J7 P L s s') :
   aC P aZ (fun m t=>∃(σ:Env) (g':Goroutine) (w':World) (wg:Nat),ρ.Le σ∧St P base W (fun b=>U b∨b=wg) (fun b=>Z b∨b=wg) N σ s' g' w' m t∧Keep Z w w' ∧ σ.born s.h.n∧σ.to s.h.n=(wg,0)∧WgAt L.tWg wg w' 0 0∧∀b,Z b→b≠wg) m t:=by
 obtain ⟨hrun,ops,i,l,k,o,z,a',t1,t2,t3,t5,t6,t7,t11,t12,t13⟩:=k
 refine (S.Ro (c:=[]) hrun t1).bind ?_
 rintro m t ⟨σ,lo,f,cs,w',hle,A,hat,hk⟩
 have hnb:¬σ.born s.h.n:=fun hb=>Nat.lt_irrefl _ (A.rel.fresh _ hb)
 have hvp:VR (σ.add s.h.n (w'.heap.size,0) False 0 0) (.pointer (some ⟨s.h.n,0,none⟩)) (.pointer (some ⟨w'.heap.size,0,none⟩)):=by
   have e:(Value.pointer (some ⟨w'.heap.size,0,none⟩)) = .pointer (some ((σ.add s.h.n (w'.heap.size,0) False 0 0).addr ⟨s.h.n,0,none⟩)):=by
    simp only [Env.addr,bV]
   rw [e]
   exact .ptr (.inl rfl)
 refine (Ij (v:=.pointer (some ⟨s.h.n,0,none⟩)) (v' :=.pointer (some ⟨w'.heap.size,0,none⟩)) (obj:=.cells #[.int .u64 0,.int .u32 0] L.tWg (0,0)) A hat (hk.lt S.lt) t2 t3 (fun q hq=>by rw [t5] at hq;cases hq) (fun d₁ ay=>?_) t11 t12 hvp).mono ?_
 · rw [←t7]
   exact xN t5 t6 ay
 · rintro m t ⟨h1,h2,h3,h4⟩
   subst t13
   refine ⟨_,_,_,w'.heap.size,hle.trans h1,h4,hk.trans ⟨fun b hb=>?_,by simp,.rfl,rfl⟩,h2,h3,?_,fun b hb=>?_⟩
   ·have:=hk.lt S.lt b hb
    simp only [World.alloc]
    rw [Array.getElem?_push,if_neg (by omega)]
   ·show (w'.heap.push _)[w'.heap.size]? = _
    simp [Go.ConcR.wgBlock]
   ·have:=hk.lt S.lt b hb
    omega
end
end Go.Am
namespace Go.Am
open Go.Conc (born QuitsD G scase rcase)
open Go.Conc.Lib
open Go.ConcR (WgAt)
open Go.Ren (grow fK aN au Wk dM Idle ag X0 XS XM Lv fQ lD uV mM hearing mO vZ fU M1 Anch Spawns FH At aC Keep full Own)
section
variable{P:Program}{ρ σ:Env}{O O' D:Nat→Prop}{W U Z:Nat→Prop}{N:Nat}{h h':AH}{w w':World}{mm:Bool}{base cs:List Frame}{a a':aB}{f:Frame}{lo hi:Nat}{ops:Array Oper}{i:Nat}{o:Oper}{s s₀:AS}{pl:bH}{g:Goroutine}
 {L:WgLink} {wg ch gb cb j:Nat} {R:AS→Prop} {aZ:Machine→Outcome→World→Trace→Prop} {m:Machine} {t:Trace}
theorem Rel.all(r:Rel ρ O D h w)(hO:∀b,O b∨D b→O' b):Rel ρ O' (fun _=>False) h w:=by
 refine r.sub (Nat.le_refl _) (fun b B hb=>⟨B,hb,rfl,rfl,rfl,fun e=>⟨e,fun x=>hO _ (.inl x)⟩,fun x=>.inl (hO _ x)⟩) (fun b B hb=>⟨B,hb,rfl⟩) (fun f l hf=>⟨l,hf,List.Sublist.refl _⟩) fun f l b hf hb=>(r.mem f l hf b hb).2
theorem At.N1(h:At P W U Z N j g w m t):1≤N:=by
 obtain ⟨ls,gs,w₁,sl,rfl,hal⟩:=h
 exact hal.hN
end
end Go.Am
namespace Go.Ren
open Go.Conc hiding Goes mem_ofEvents Deaf
open Go.ConcN (WgLive)
open Go.Conc.Lib (WgLink)
open Go.ConcR (KK WgAt stA smA rd wr mk)
section
variable{P:Program}{m:Bool}{I:World→Prop}{X:Event→Prop}{D F O O':Nat→Prop}{d:Nat}{g:Goroutine}{w w' w₀:World}{L:WgLink}{Wg Ch n r i:Nat}
structure Fr(F D O:Nat→Prop)(w₀ w:World):Prop where
 f:∀b,F b→b < w.heap.size∧¬O b
 d:∀b,D b→b < w.heap.size∧¬O b
 o:∀b,O b→b < w.heap.size
 keep:∀b,F b→w.heap[b]? = w₀.heap[b]?
 size:w₀.heap.size≤w.heap.size
 os:Tm w₀.os w.os
 output:w.output=w₀.output
theorem Fr.rely(h:Fr F D O w₀ w)(r:au (fun b=>O b∨F b) D w w'):Fr F D O w₀ w' :=
 ⟨fun b hb=>⟨Nat.lt_of_lt_of_le (h.f b hb).1 r.size,(h.f b hb).2⟩,fun b hb=>⟨Nat.lt_of_lt_of_le (h.d b hb).1 r.size,(h.d b hb).2⟩,fun b hb=>Nat.lt_of_lt_of_le (h.o b hb) r.size,fun b hb=>(r.own b (.inr hb)).trans (h.keep b hb),Nat.le_trans h.size r.size,h.os.trans r.os,r.output.trans h.output⟩
theorem Fr.less(h:Fr F D O w₀ w):∀ {w₁},au (fun b=>O b∨F b) D w w₁→au O D w w₁:=fun r=>⟨r.size,fun b hb=>r.own b (.inl hb),r.ro,r.os,r.output,r.tape⟩
theorem Fr.guar{es:Array Event}(h:Fr F D O w₀ w)(hG:aN X O D w w' es):aN X (fun b=>O b∨F b) D w w' es∧Fr F D (grow O w w') w₀ w' :=by
 have keep:∀b,b < w.heap.size∧¬O b→b < w'.heap.size∧¬grow O w w' b:=fun b hb=>by
   have h3:=hG.size
   exact ⟨by omega,fun x=>x.elim hb.2 fun y=>by omega⟩
 refine ⟨⟨hG.size,fun c hc hn=>hG.heap c hc fun x=>hn (.inl x),hG.os,hG.output,hG.tape,fun e he=>(hG.ev e he).mono (Nat.le_refl _) fun b hb=>hb.imp .inl id⟩,fun b hb=>keep b (h.f b hb),fun b hb=>keep b (h.d b hb),fun b hb=>?_,fun b hb=>?_,Nat.le_trans h.size hG.size,h.os.trans (.of hG.os),hG.output.trans h.output⟩
 · rcases hb with hb|hb
   ·exact Nat.lt_of_lt_of_le (h.o b hb) hG.size
   ·exact hb.2
 · rw [hG.heap b (h.f b hb).1 (h.f b hb).2]
   exact h.keep b hb
theorem VU(O F:Nat→Prop)(w w':World):grow (fun b=>O b∨F b) w w' = fun b=>grow O w w' b∨F b:=by
 funext b
 apply propext
 unfold grow
 constructor
 · rintro ((x|x)|x)
   ·exact .inl (.inl x)
   ·exact .inr x
   ·exact .inl (.inr x)
 · rintro ((x|x)|x)
   ·exact .inl (.inl x)
   ·exact .inr x
   ·exact .inl (.inr x)
theorem dM.frame{S:Nat→(Nat→Prop)→Goroutine→World→Prop}(h:dM P m I X D S d O g w):Fr F D O w₀ w →
   dM P m I X D (fun d O' g' w'=>∃iP,S d iP g' w' ∧ (O' = fun b=>iP b∨F b)∧Fr F D iP w₀ w') d (fun b=>O b∨F b) g w:=by
 induction h with
 | stop h=>intro hF;exact .stop ⟨_,h,rfl,hF⟩
 | @step d O g w hs f u es h k ih=>
   intro hF
   refine .step hs f u es (fun w₁ hr hi=>?_) fun w₁ hr hi=>?_
   ·obtain ⟨h1,h2⟩:=h w₁ (hF.less hr) hi
    exact ⟨h1,((hF.rely hr).guar h2).1⟩
   ·obtain ⟨_,h2⟩:=h w₁ (hF.less hr) hi
    have:=ih w₁ (hF.less hr) hi ((hF.rely hr).guar h2).2
    rw [VU]
    exact this
variable{Sent:Nat→(Nat→Prop)→(Nat→Prop)→Option Value→World→Prop}{Fin:(Nat→Prop)→(Nat→Prop)→Goroutine→World→Prop}{Nx Nx':(Nat→Prop)→(Nat→Prop)→Goroutine→World→Prop}
def Dx(F:Nat→Prop)(w₀:World)(Fin:(Nat→Prop)→(Nat→Prop)→Goroutine→World→Prop)(D O:Nat→Prop)(g:Goroutine)(w:World):Prop:=∃iP,Fin D iP g w∧(O=fun b=>iP b∨F b)∧Fr F D iP w₀ w
end
end Go.Ren
namespace Go.Am
open Go.Conc (born QuitsD G scase rcase)
open Go.Conc.Lib
open Go.ConcR (WgAt)
open Go.Ren (grow fK aN au Wk dM Idle ag X0 XS XM Lv fQ lD uV mM hearing mO vZ fU M1 Anch Spawns FH At aC Keep full Own Fr Dx)
structure Sd(P:Program)(base:List Frame)(F:Nat→Prop)(w₀:World)(W U Z:Nat→Prop)(N:Nat)(ρ:Env)(s:AS)(g:Goroutine)(w:World)(m:Machine)(t:Trace):Prop where
 st:St P base W U Z N ρ s g w m t
 wu:∀b,W b∨U b→Z b
 fz:∀b,F b→Z b
 MW:∀b,F b→¬(W b∨U b)
 keep:Keep F w₀ w
structure Zf(F W Z:Nat→Prop)(ρ:Env)(w:World)(cb cap:Nat)(buf:List Value)(closed:Bool)(ch:Nat):Prop where
 nat:ρ.born cb
 to:ρ.to cb=(ch,0)
 heap:∃sn rc tm,w.heap[ch]? = some (.chan cap buf.toArray closed sn rc tm)
 z:Z ch
 f:¬F ch
 w:¬W ch
section
variable{P:Program}{ρ σ:Env}{O O' D:Nat→Prop}{F W U Z Z':Nat→Prop}{N:Nat}{h h':AH}{w w' w₀:World}{mm:Bool}{base cs:List Frame}{a a':aB}{f:Frame}{lo hi:Nat}{ops:Array Oper}{i:Nat}{o:Oper}{s s' s₀:AS}{pl:bH}{g g':Goroutine}
 {L:WgLink} {wg ch gb cb j cap:Nat} {buf:List Value} {cl:Bool} {R:AS→Prop} {aZ:Machine→Outcome→World→Trace→Prop} {m:Machine} {t:Trace}
theorem Zf.step(c:Zf F W Z ρ w cb cap buf cl ch)(hle:ρ.Le σ)(hk:Keep Z w w')(hZ:∀b,Z b→Z' b):Zf F W Z' σ w' cb cap buf cl ch:=
 ⟨hle.born _ c.nat,(hle.to _ c.nat).trans c.to,let ⟨sn,rc,tm,e⟩:=c.heap;⟨sn,rc,tm,(hk.1 ch c.z).trans e⟩,hZ _ c.z,c.f,c.w⟩
theorem Sd.Ik(S:Sd P base F w₀ W U Z N ρ s g w m t)(hk:Keep Z w w'):Keep F w₀ w' :=S.keep.trans (hk.mono S.fz)
theorem Sd.reach[aI P]{K:AS→Prop}(S:Sd P base F w₀ W U Z N ρ s g w m t)(k:aY P pl K s) :
   aC P aZ (fun m t=>∃(σ:Env) (s':AS) (g':Goroutine) (w':World),K s' ∧ ρ.Le σ∧Sd P base F w₀ W U Z N σ s' g' w' m t∧Keep Z w w') m t:=by
 refine (S.st.reach k).mono ?_
 rintro m t ⟨σ,s',g',w',k1,k2,k3,k4⟩
 exact ⟨σ,s',g',w',k1,k2,⟨k3,S.wu,S.fz,S.MW,S.Ik k4⟩,k4⟩
theorem Sd.group[aI P]{s':AS}(S:Sd P base F w₀ W U Z N ρ s g w m t)(k:J7 P L s s') :
   aC P aZ (fun m t=>∃(σ:Env) (g':Goroutine) (w':World) (wg:Nat),ρ.Le σ∧Sd P base F w₀ W (fun b=>U b∨b=wg) (fun b=>Z b∨b=wg) N σ s' g' w' m t∧Keep Z w w' ∧ σ.born s.h.n∧σ.to s.h.n=(wg,0)∧WgAt L.tWg wg w' 0 0∧∀b,Z b→b≠wg) m t:=by
 refine (S.st.group k).mono ?_
 rintro m t ⟨σ,g',w',wg,k1,k2,k3,k4,k5,k6,k7⟩
 refine ⟨σ,g',w',wg,k1,⟨k2,?_,fun b hb=>.inl (S.fz b hb),?_,S.Ik k3⟩,k3,k4,k5,k6,k7⟩
 · rintro b (hb|hb|hb)
   ·exact .inl (S.wu b (.inl hb))
   ·exact .inl (S.wu b (.inr hb))
   ·exact .inr hb
 · rintro b hf (hb|hb|hb)
   ·exact S.MW b hf (.inl hb)
   ·exact S.MW b hf (.inr hb)
   ·exact k7 b (S.fz b hf) hb
theorem MX(hF:∀b,F b→Z b)(hlt:∀b,Z b→b < w.heap.size):full (fun b=>Z b∧¬F b) w=fun b=>full Z w b∨F b:=by
 funext b
 apply propext
 unfold full
 constructor
 · rintro ⟨h1,h2⟩
   by_cases hf:F b
   ·exact .inr hf
   ·exact .inl ⟨h1,fun hz=>h2 ⟨hz,hf⟩⟩
 · rintro (h|h)
   ·exact ⟨h.1,fun x=>h.2 x.1⟩
   ·exact ⟨hlt b (hF b h),fun x=>x.2 h⟩
end
end Go.Am
namespace Go.Am
open Go.Conc (born QuitsD G scase rcase)
open Go.Conc.Lib
open Go.ConcR (WgAt)
open Go.Ren (grow fK aN au Wk dM Idle ag X0 XS XM Lv fQ lD uV mM hearing mO vZ fU M1 Anch Spawns FH At aC Keep full Own Fr Dx)
section
variable{P:Program}{ρ σ:Env}{O O' D:Nat→Prop}{F W U Z Z':Nat→Prop}{N:Nat}{h h':AH}{w w' w₀:World}{mm:Bool}{base cs:List Frame}{a a':aB}{f:Frame}{lo hi:Nat}{ops:Array Oper}{i:Nat}{o:Oper}{s s' s₀:AS}{pl:bH}{g g':Goroutine}
 {L:WgLink} {wg ch gb cb j cap:Nat} {buf:List Value} {cl:Bool} {R:AS→Prop} {aZ:Machine→Outcome→World→Trace→Prop} {m:Machine} {t:Trace}
theorem Sd.Ro[aI P]{c:List Nat}(S:Sd P base F w₀ W U Z N ρ s g w m t)(hrun:s.fr.ret=false){l:List Nat}{k:List aK}(ht:s.fr.todo = .region ops (i :: l) :: k) :
   aC P aZ (fun m t=>∃(σ:Env) (lo:Nat) (f:Frame) (cs:List Frame) (w':World),ρ.Le σ∧wo P σ lo s ops i f cs (full Z w') (fun _=>False) w' ∧ At P W U Z N 0 (dN f (cs ++ base)) w' m t∧Keep Z w w' ∧ Keep F w₀ w' ∧ ∀b,Z b→b < w'.heap.size) m t:=by
 refine (S.st.Ro (c:=c) hrun ht).mono ?_
 rintro m t ⟨σ,lo,f,cs,w',k1,k2,k3,k4⟩
 exact ⟨σ,lo,f,cs,w',k1,k2,k3,k4,S.Ik k4,k4.lt S.st.lt⟩
end
end Go.Am
namespace Go.Am
open Go.Conc (born QuitsD G scase rcase)
open Go.Conc.Lib
open Go.ConcR (WgAt)
open Go.Ren (grow fK aN au Wk dM Idle ag X0 XS XM Lv fQ lD uV mM hearing mO vZ fU M1 Anch Spawns FH At aC Keep full Own Fr Dx)
def opAt(s:AS):Option Oper:=
 match s.fr.ret,s.fr.todo with
 | false,.region ops (i :: _) :: _=>match ops[i]? with
   |some o=>if Region.wanted o (yielded ops s.fr.tmps) && bu o then some o else none
   |none=>none
 | _,_=>none
def Il(P:Program)(s:AS)(h:AH)(v:Value):Option AS:=match az P s.fr h v with
 | some a=>some ⟨a,s.cs,h⟩
 | none=>none
def FI(P:Program)(L:WgLink)(s:AS):Option AS:=match opAt s with
 | some o=>match o.op with
   | .alloc t=>match zeroOf P t with
    |some z=>if t == L.tWg && (s.h.look s.h.n).isNone && iR 3 (.agg z.cells) (.agg #[.int .u64 0,.int .u32 0]) then Il P s s.h.blank (.pointer (some ⟨s.h.n,0,none⟩)) else none
    |none=>none
   |_=>none
 | none=>none
def MZ(P:Program)(fid:FuncId)(args:Array Value)(s:AS):Option AS:=match opAt s with
 | some o=>match o.op with
   | .call c=>match c.callee with
    | .value (.func f)=>if f == fid && s.fr.round.isNone && iR 3 (.tuple (c.args.map (ax s.fr.tmps))) (.tuple args) then Il P s s.h (.tuple #[]) else none
    |_=>none
   |_=>none
 | none=>none
def AX(P:Program)(L:WgLink)(gb:Nat)(a:aB):Bool:=
 a.ret && a.dk && a.round.isNone && (match P.funcs[a.fn]? with|some fn=>fn.results.size == 0|none=>false) && match a.defers with
   | [⟨.fn (.func f) cap,args⟩]=>f == L.done && cap.size == 0 && iR 3 (.tuple args) (.tuple #[.pointer (some ⟨gb,0,none⟩)])
   |_=>false
def FM(P:Program)(L:WgLink)(gb nt:Nat)(a:aB):Bool:=match oq nt a with
 | some a'=>AX P L gb a'
 | none=>false
def FN(P:Program)(s:AS):Option AS:=match opAt s with
 | some o=>match o.op with
   | .defer c=>match c.callee with
    | .value x=>match ax s.fr.tmps x with
     | .func fn first cap=>if s.fr.round.isNone then match az P { s.fr with defers:={ target:=.fn fn cap,args:=first ++ c.args.map (ax s.fr.tmps) } :: s.fr.defers } s.h undef with
       |some a=>some ⟨a,s.cs,s.h⟩
       |none=>none
      else none
     |_=>none
    |_=>none
   |_=>none
 | none=>none
section
variable{P:Program}{s s':AS}{o:Oper}{L:WgLink}{cap cb gb nt nw akA:Nat}{pl:bH}{a a':aB}{v:Option Value}
theorem ku(h:opAt s=some o):s.fr.ret=false∧∃ops i l k,s.fr.todo = .region ops (i :: l) :: k∧ops[i]? = some o∧Region.wanted o (yielded ops s.fr.tmps)=true∧bu o=true:=by
 unfold opAt at h
 split at h
 · rename_i ops i l k hr ht
   split at h
   ·rename_i o' ho
    split at h
    ·rename_i hc
     cases h
     rw [Bool.and_eq_true] at hc
     exact ⟨hr,ops,i,l,k,ht,ho,hc.1,hc.2⟩
    ·cases h
   ·cases h
 · cases h
theorem mg{h:AH}{v:Value}(e:Il P s h v=some s'):∃a',az P s.fr h v=some a' ∧ s' = ⟨a',s.cs,h⟩:=by
 unfold Il at e
 split at e
 · rename_i a ha;cases e;exact ⟨a,ha,rfl⟩
 · cases e
theorem wB{a b:Array Value}(h:iR 3 (.tuple a) (.tuple b)=true):a=b:=by
 have:=gB _ _ _ h
 cases this
 rfl
theorem Rq{a b:Array Value}(h:iR 3 (.agg a) (.agg b)=true):a=b:=by
 have:=gB _ _ _ h
 cases this
 rfl
theorem Io(h:FI P L s=some s'):J7 P L s s' :=by
 unfold FI at h
 split at h
 · rename_i o ho
   obtain ⟨h1,ops,i,l,k,h2,h3,h4,h5⟩:=ku ho
   split at h
   ·rename_i t hop
    split at h
    ·rename_i z hz
     split at h
     ·rename_i hc
      simp only [Bool.and_eq_true,beq_iff_eq,Option.isNone_iff_eq_none] at hc
      obtain ⟨⟨rfl,hl⟩,hcells⟩:=hc
      obtain ⟨a',h6,h7⟩:=mg h
      exact ⟨h1,ops,i,l,k,o,z,a',h2,h3,h4,hop,hz,Rq hcells,hl,h6,h7⟩
     ·cases h
    ·cases h
   ·cases h
 · cases h
theorem AY{fid:FuncId}{args:Array Value}(h:MZ P fid args s=some s'):Ih P fid args s s' :=by
 unfold MZ at h
 split at h
 · rename_i o ho
   obtain ⟨h1,ops,i,l,k,h2,h3,h4,h5⟩:=ku ho
   split at h
   ·rename_i c hop
    split at h
    ·rename_i f hf
     split at h
     ·rename_i hc
      simp only [Bool.and_eq_true,beq_iff_eq,Option.isNone_iff_eq_none] at hc
      obtain ⟨⟨rfl,hr⟩,ha⟩:=hc
      obtain ⟨a',h6,h7⟩:=mg h
      obtain ⟨callee,as,ats⟩:=c
      dsimp only at hf
      subst hf
      exact ⟨h1,hr,ops,i,l,k,o,as,ats,a',h2,h3,h4,h5,hop,wB ha,h6,h7⟩
     ·cases h
    ·cases h
   ·cases h
 · cases h
theorem Dy{gb:Nat}(h:AX P L gb a=true):qY P L gb a∧a.round=none:=by
 unfold AX at h
 simp only [Bool.and_eq_true,Option.isNone_iff_eq_none] at h
 obtain ⟨⟨⟨⟨h1,h2⟩,h3⟩,h4⟩,h5⟩:=h
 refine ⟨⟨h1,h2,?_,?_⟩,h3⟩
 · split at h4
   ·rename_i fn hfn
    exact ⟨fn,hfn,Array.eq_empty_of_size_eq_zero (by simpa using h4)⟩
   ·cases h4
 · split at h5
   ·rename_i f cap args hd
    simp only [Bool.and_eq_true,beq_iff_eq] at h5
    obtain ⟨⟨rfl,hc⟩,ha⟩:=h5
    rw [hd,wB ha,Array.eq_empty_of_size_eq_zero hc]
   ·cases h5
theorem FO{gb:Nat}(h:FM P L gb nt a=true):∃a',oq nt a=some a' ∧ qY P L gb a' ∧ a'.round=none:=by
 unfold FM at h
 split at h
 · rename_i a' ha
   obtain ⟨h1,h2⟩:=Dy h
   exact ⟨a',ha,h1,h2⟩
 · cases h
theorem yQ(h:FN P s=some s'):FC P s s' :=by
 unfold FN at h
 split at h
 · rename_i o ho
   obtain ⟨h1,ops,i,l,k,h2,h3,h4,h5⟩:=ku ho
   split at h
   ·rename_i c hop
    split at h
    ·rename_i x hx
     split at h
     ·rename_i fn first cap hf
      split at h
      ·rename_i hr
       split at h
       ·rename_i a ha
        cases h
        exact ⟨h1,by simpa using hr,ops,i,l,k,o,c,x,fn,first,cap,a,h2,h3,h4,h5,hop,hx,hf,ha,rfl⟩
       ·cases h
      ·cases h
     ·cases h
    ·cases h
   ·cases h
 · cases h
end
end Go.Am
namespace Go.Am
open Go.Conc (born QuitsD G scase rcase)
open Go.Conc.Lib
open Go.ConcR (WgAt)
open Go.Ren (grow fK aN au Wk dM Idle ag X0 XS XM Lv fQ lD uV mM hearing mO vZ fU M1 Anch Spawns FH At aC Keep full Own Fr Dx)
def fF(h:AH):List Nat→Tr cZ
 | []=>.nil
 | b :: l=>match h.look b with
   |some B=>(fF h l).set b B
   |none=>fF h l
def Rt(t:Tr cZ)(f b:Nat):Bool:=match t.get b with
 | some B=>B.dP == some f
 | none=>false
def eY(h:AH)(t:Tr cZ):List Nat→Tr (List Nat)
 | []=>.nil
 | b :: l=>match h.look b with
   |some B=>match B.dP with
    |some f=>match h.bU.get f with
     |some bl=>(eY h t l).set f (bl.filter (Rt t f))
     |none=>eY h t l
    |none=>eY h t l
   |none=>eY h t l
def AH.forget(l:List Nat)(h:AH):AH:=⟨h.n,fF h l,eY h (fF h l) l⟩
theorem iG{h:AH}:∀(l:List Nat) {b:Nat} {B:cZ},(fF h l).get b=some B→h.look b=some B
 | [],b,B,e=>by cases e
 | c :: l,b,B,e=>by
   unfold fF at e
   split at e
   ·rename_i C hC
    rw [Tr.dK] at e
    split at e
    ·rename_i hb;subst hb;cases e;exact hC
    ·exact iG l e
   ·exact iG l e
theorem fG{h:AH}{t:Tr cZ}:∀(l:List Nat) {f:Nat} {m:List Nat},(eY h t l).get f=some m→∃bl,h.bU.get f=some bl∧m=bl.filter (Rt t f)
 | [],f,m,e=>by cases e
 | c :: l,f,m,e=>by
   unfold eY at e
   split at e
   ·split at e
    ·split at e
     ·rename_i bl hbl
      rw [Tr.dK] at e
      split at e
      ·rename_i hb;subst hb;cases e;exact ⟨bl,hbl,rfl⟩
      ·exact fG l e
     ·exact fG l e
    ·exact fG l e
   ·exact fG l e
section
variable{P:Program}{ρ σ:Env}{O O' D:Nat→Prop}{F W U Z Z':Nat→Prop}{N:Nat}{h h':AH}{w w' w₀:World}{mm:Bool}{base cs:List Frame}{a a':aB}{f:Frame}{lo hi:Nat}{ops:Array Oper}{i:Nat}{o:Oper}{s s' s₀:AS}{pl:bH}{g g':Goroutine}
 {L:WgLink} {wg ch gb cb j cap:Nat} {buf:List Value} {cl:Bool} {R:AS→Prop} {aZ:Machine→Outcome→World→Trace→Prop} {m:Machine} {t:Trace}
theorem Ip{l:List Nat}{b:Nat}{B:cZ}(e:(h.forget l).look b=some B):h.look b=some B:=iG l (fC e)
theorem Rel.forget(l:List Nat)(r:Rel ρ O D h w):Rel ρ O D (h.forget l) w:=by
 refine r.sub (Nat.le_refl _) (fun b B e=>⟨B,Ip e,rfl,rfl,rfl,fun x=>⟨x,id⟩,id⟩) (fun b B e=>⟨B,fC (iG l e),rfl⟩) (fun f m e=>?_) fun f m b e hb=>?_
 · obtain ⟨bl,h1,rfl⟩:=fG l e
   exact ⟨bl,h1,List.filter_sublist⟩
 · obtain ⟨bl,h1,rfl⟩:=fG l e
   have:=(List.mem_filter.1 hb).2
   unfold Rt at this
   split at this
   ·rename_i B hB
    exact ⟨B,hB,by simpa using this⟩
   ·cases this
def aH(a:aB):Bool:=match a.todo with
 | .drawn .. :: _=>false
 | _=>true
theorem lI.forget{D:Nat→Prop}(l:List Nat)(S:lI P ρ O D base s g w)(hd:aH s.fr=true):lI P ρ O D base ⟨s.fr,s.cs,s.h.forget l⟩ g w:=by
 obtain ⟨⟨lo,f,cs,h1,h2,h3,h4⟩,rel⟩:=S
 refine ⟨⟨lo,f,cs,h1,h2,.plain (h3.f0 fun ops l k e=>?_),h4⟩,rel.forget l⟩
 unfold aH at hd
 rw [e] at hd
 cases hd
theorem Sd.forget(l:List Nat)(S:Sd P base F w₀ W U Z N ρ s g w m t)(hd:aH s.fr=true):Sd P base F w₀ W U Z N ρ ⟨s.fr,s.cs,s.h.forget l⟩ g w m t:=
 ⟨⟨S.st.at_,S.st.JX.forget l hd,S.st.lt⟩,S.wu,S.fz,S.MW,S.keep⟩
def Ru(a b:MapEntry):Bool:=iR 9 a.key b.key && iR 9 a.val b.val && a.born == b.born
def Ae:List MapEntry→List MapEntry→Bool
 | [],[]=>true
 | a :: l,b :: m=>Ru a b && Ae l m
 | _,_=>false
def FP:Obj→Obj→Bool
 | .cells c e f,.cells c' e' f'=>iR 9 (.agg c) (.agg c') && e == e' && f == f'
 | .map es k,.map es' k'=>Ae es.toList es'.toList && k == k'
 | _,_=>false
def FQ:Option cZ→Option cZ→Bool
 | none,none=>true
 | some A,some B=>FP A.obj B.obj && A.dP == B.dP && A.ro == B.ro && A.u == B.u
 | _,_=>false
def agree(h h':AH):List Nat→Bool
 | []=>h.n == h'.n
 | b :: l=>FQ (h.look b) (h'.look b) && (match h.look b with
   |some B=>match B.dP with
    |some f=>h.bU.get f == h'.bU.get f
    |none=>true
   |none=>true) && agree h h' l
theorem AZ:∀ {l m:List MapEntry},Ae l m=true→l=m
 | [],[],_=>rfl
 | a :: l,b :: m,h=>by
   unfold Ae at h
   rw [Bool.and_eq_true] at h
   obtain ⟨h1,h2⟩:=h
   unfold Ru at h1
   simp only [Bool.and_eq_true,beq_iff_eq] at h1
   obtain ⟨⟨k1,k2⟩,k3⟩:=h1
   obtain ⟨ak,av,ab⟩:=a
   obtain ⟨bk,bv,bb⟩:=b
   rw [AZ h2]
   have e1:=gB _ _ _ k1
   have e2:=gB _ _ _ k2
   dsimp only at e1 e2 k3
   subst e1 e2 k3
   rfl
 | [],_ :: _,h=>by cases h
 | _ :: _,[],h=>by cases h
theorem D9{a b:Obj}(h:FP a b=true):a=b:=by
 unfold FP at h
 split at h
 · simp only [Bool.and_eq_true,beq_iff_eq] at h
   obtain ⟨⟨h1,rfl⟩,rfl⟩:=h
   have:=gB _ _ _ h1
   cases this
   rfl
 · simp only [Bool.and_eq_true,beq_iff_eq] at h
   obtain ⟨h1,rfl⟩:=h
   rw [Array.ext' (AZ h1)]
 · cases h
theorem Ba{a b:Option cZ}(h:FQ a b=true):a=b:=by
 unfold FQ at h
 split at h
 · rfl
 · rename_i A B
   simp only [Bool.and_eq_true,beq_iff_eq] at h
   obtain ⟨⟨⟨h1,h2⟩,h3⟩,h4⟩:=h
   obtain ⟨a1,a2,a3,a4⟩:=A
   obtain ⟨b1,b2,b3,b4⟩:=B
   have:=D9 h1
   dsimp only at this h2 h3 h4
   subst this h2 h3 h4
   rfl
 · cases h
theorem Af:∀ {l:List Nat},agree h h' l=true→h.n=h'.n
 | [],e=>by unfold agree at e;simpa using e
 | b :: l,e=>by unfold agree at e;simp only [Bool.and_eq_true] at e;exact Af e.2
theorem Iq:∀ {l:List Nat},agree h h' l=true→fF h l=fF h' l
 | [],e=>rfl
 | b :: l,e=>by
   unfold agree at e
   simp only [Bool.and_eq_true] at e
   unfold fF
   rw [Ba e.1.1,Iq e.2]
theorem pV{t:Tr cZ}:∀ {l:List Nat},agree h h' l=true→eY h t l=eY h' t l
 | [],e=>rfl
 | b :: l,e=>by
   unfold agree at e
   simp only [Bool.and_eq_true] at e
   obtain ⟨⟨e1,e2⟩,e3⟩:=e
   have e4:=Ba e1
   unfold eY
   rw [←e4]
   cases hb:h.look b with
   |none=>exact pV e3
   |some B=>
    rw [hb] at e2
    dsimp only at e2 ⊢
    cases hf:B.dP with
    |none=>exact pV e3
    |some f=>
     rw [hf] at e2
     dsimp only at e2 ⊢
     rw [beq_iff_eq] at e2
     rw [e2,pV e3]
theorem wC{l:List Nat}(e:agree h h' l=true):h.forget l=h'.forget l:=by
 unfold AH.forget
 rw [Af e,Iq e,pV e]
end
end Go.Am
namespace Go.Am
open Go.Conc (born QuitsD G scase rcase)
open Go.Conc.Lib
open Go.ConcR (WgAt)
open Go.Ren (grow fK aN au Wk dM Idle ag X0 XS XM Lv fQ lD uV mM hearing mO vZ fU M1 Anch Spawns FH At aC Keep full Own Fr Dx)
inductive Ph where
 | idle
 | chan (cb cap:Nat)
 | ready (cb cap gb:Nat)
 | joined (cb cap:Nat) (vs:List Value)
 | closed (cb cap:Nat) (vs:List Value)
def merge(P:Program)(c:aB)(cs:List aB)(l:List Nat):List (Value×AH)→Option AS
 | []=>none
 | (v,h) :: r=>match az P c h v with
   |some a=>if aH a && aH c && r.all (fun x=>iR 9 x.1 v && agree h x.2 l) then some ⟨a,cs,h.forget l⟩ else none
   |none=>none
section
variable{P:Program}{ρ σ:Env}{O O' D:Nat→Prop}{F W U Z Z':Nat→Prop}{N:Nat}{h h':AH}{w w' w₀:World}{mm:Bool}{base cs:List Frame}{a a':aB}{f:Frame}{lo hi:Nat}{ops:Array Oper}{i:Nat}{o:Oper}{s s' s₀:AS}{pl:bH}{g g':Goroutine}
 {L:WgLink} {wg ch gb cb j cap:Nat} {buf:List Value} {cl:Bool} {R:AS→Prop} {aZ:Machine→Outcome→World→Trace→Prop} {m:Machine} {t:Trace} {c:aB} {cs':List aB}
def Ph.Holds(L:WgLink)(F W U Z:Nat→Prop)(ρ:Env)(w:World):Ph→Prop
 | .idle=>True
 | .chan cb cap=>∃ch,U ch∧Zf F W Z ρ w cb cap [] false ch
 | .ready cb cap gb=>∃ch wg,U ch∧U wg∧wg≠ch∧Z wg∧ρ.born gb∧ρ.to gb=(wg,0)∧WgAt L.tWg wg w 0 0∧Zf F W Z ρ w cb cap [] false ch
 | .joined cb cap vs=>(U=fun _=>False)∧∃ch buf,buf.Perm vs∧Zf F W Z ρ w cb cap buf false ch
 | .closed cb cap vs=>(U=fun _=>False)∧∃ch buf,buf.Perm vs∧Zf F W Z ρ w cb cap buf true ch
theorem Ph.Holds.step{ph:Ph}(k:ph.Holds L F W U Z ρ w)(hle:ρ.Le σ)(hk:Keep Z w w'):ph.Holds L F W U Z σ w' :=by
 cases ph with
 | idle=>trivial
 | chan cb cap=>obtain ⟨ch,h1,h2⟩:=k;exact ⟨ch,h1,h2.step hle hk fun b hb=>hb⟩
 | ready cb cap gb=>
   obtain ⟨ch,wg,h1,h2,h3,h4,h5,h6,h7,h8⟩:=k
   exact ⟨ch,wg,h1,h2,h3,h4,hle.born _ h5,(hle.to _ h5).trans h6,(hk.1 wg h4).trans h7,h8.step hle hk fun b hb=>hb⟩
 | joined cb cap vs=>obtain ⟨h0,ch,buf,h1,h2⟩:=k;exact ⟨h0,ch,buf,h1,h2.step hle hk fun b hb=>hb⟩
 | closed cb cap vs=>obtain ⟨h0,ch,buf,h1,h2⟩:=k;exact ⟨h0,ch,buf,h1,h2.step hle hk fun b hb=>hb⟩
def bg(P:Program)(L:WgLink)(base:List Frame)(F:Nat→Prop)(w₀:World)(ph:Ph)(s:AS)(m:Machine)(t:Trace):Prop:=
 ∃(W U Z:Nat→Prop) (N:Nat) (ρ:Env) (g:Goroutine) (w:World),Sd P base F w₀ W U Z N ρ s g w m t∧ph.Holds L F W U Z ρ w
theorem bg.reach[aI P]{ph:Ph}(S:bg P L base F w₀ ph s m t)(k:aY P pl (· = s') s):aC P aZ (bg P L base F w₀ ph s') m t:=by
 obtain ⟨W,U,Z,N,ρ,g,w,S,hp⟩:=S
 refine (S.reach k).mono ?_
 rintro m t ⟨σ,s₁,g',w',rfl,h1,h2,h3⟩
 exact ⟨W,U,Z,N,σ,g',w',h2,hp.step h1 h3⟩
theorem bg.forget(l:List Nat){ph:Ph}(S:bg P L base F w₀ ph s m t)(hd:aH s.fr=true):bg P L base F w₀ ph ⟨s.fr,s.cs,s.h.forget l⟩ m t:=by
 obtain ⟨W,U,Z,N,ρ,g,w,S,hp⟩:=S
 exact ⟨W,U,Z,N,ρ,g,w,S.forget l hd,hp⟩
theorem Dz{h h':AH}{v:Value}(hd:aH c=true):az P c h v=az P c h' v:=by
 unfold aH at hd
 unfold az
 split at hd
 · cases hd
 · rename_i hn
   split<;>first|rfl|skip
   rename_i ht
   exact absurd ht (hn _ _ _)
theorem Bc{l:List Nat}{r:List (Value×AH)}(e:merge P c cs' l r=some s'):∀x∈r,∃a,az P c x.2 x.1=some a∧aH a=true∧s' = ⟨a,cs',x.2.forget l⟩:=by
 cases r with
 | nil=>cases e
 | cons y r=>
   obtain ⟨v,h⟩:=y
   unfold merge at e
   dsimp only at e
   split at e
   ·rename_i a ha
    split at e
    ·rename_i hc
     cases e
     simp only [Bool.and_eq_true,List.all_eq_true] at hc
     obtain ⟨⟨h1,h2⟩,h3⟩:=hc
     intro x hx
     rcases List.mem_cons.1 hx with rfl|hx
     ·exact ⟨a,ha,h1,rfl⟩
     ·obtain ⟨e1,e2⟩:=h3 x hx
      have e3:=gB _ _ _ e1
      refine ⟨a,?_,h1,?_⟩
      ·rw [e3,Dz (h' :=h) h2]
       exact ha
      ·rw [wC e2]
    ·cases e
   ·cases e
def Back(P:Program)(b:Frame)(bs:List Frame)(F:Nat→Prop)(w₀:World)(v:Value)(m:Machine)(t:Trace):Prop:=
 ∃(W U Z:Nat→Prop) (N:Nat) (w:World),At P W U Z N 0 (dN (b.finish v) bs) w m t∧(∀x,W x∨U x→Z x)∧(∀x,F x→Z x)∧(∀x,F x→¬(W x∨U x))∧Keep F w₀ w∧∀x,Z x→x < w.heap.size
end
end Go.Am
namespace Go.Am
open Go.Conc (born QuitsD G scase rcase)
open Go.Conc.Lib
open Go.ConcR (WgAt)
open Go.Ren (grow fK aN au Wk dM Idle ag X0 XS XM Lv fQ lD uV mM hearing mO vZ fU M1 Anch Spawns FH At aC Keep full Own Fr Dx)
section
variable{P:Program}{ρ σ:Env}{O O' D:Nat→Prop}{F W U Z Z':Nat→Prop}{N:Nat}{h h':AH}{w w' w₀:World}{mm:Bool}{base cs:List Frame}{a a':aB}{f:Frame}{lo hi:Nat}{ops:Array Oper}{i:Nat}{o:Oper}{s s' s₀:AS}{pl:bH}{g g':Goroutine}
 {L:WgLink} {wg ch gb cb j cap:Nat} {buf:List Value} {cl:Bool} {R:AS→Prop} {aZ:Machine→Outcome→World→Trace→Prop} {m:Machine} {t:Trace} {c:aB} {cs':List aB} {fid:FuncId} {v:Value}
structure Rw(P:Program)(fid:FuncId)(v:Value)(s s':AS):Prop where
 run:s.fr.ret=false
 round:s.fr.round=none
 at_:∃ops i l k o ats a',s.fr.todo = .region ops (i :: l) :: k∧ops[i]? = some o∧Region.wanted o (yielded ops s.fr.tmps)=true∧bu o=true∧o.op = .call { callee:=.value (.func fid),args:=#[],argTypes:=ats } ∧
   az P s.fr s.h v=some a' ∧ s' = ⟨a',s.cs,s.h⟩
theorem J8(O D:Nat→Prop)(base:List Frame)(w:World):lI P uT O D base ⟨aB.enter P fid #[],[],h0⟩ (dN (Frame.enter P fid #[] .normal) base) w:=
 ⟨⟨0,_,[],Nat.le_refl _,rfl,.plain (Ad fid ⟨rfl,fun i u v hu hv=>by simp at hu⟩),.nil⟩,Zg _ _ _⟩
end
end Go.Am
namespace Go.Am
noncomputable section
def nth{α:Type}:List α→Nat→Option α:=fun l=>List.rec (fun _=>none) (fun x _ ih n=>Nat.rec (some x) (fun n _=>ih n) n) l
def rep(v:Value)(n:Nat):List Value:=Nat.rec [] (fun _ ih=>v :: ih) n
def app(l m:List Value):List Value:=List.rec m (fun x _ ih=>x :: ih) l
structure Ctx where
 fn:FuncId
 defers:List Deferred
 round:Option Nat
 dk:Bool
 cs:List aB
def mk(todo:List aK)(c:Ctx)(tmps:List Value)(h:AH):AS:=⟨⟨c.fn,⟨tmps⟩,todo,c.defers,false,c.round,c.dk⟩,c.cs,h⟩
abbrev K:=Ctx→List Value→AH→Option AS
def kGo(todo:List aK):K:=fun c tmps h=>some (mk todo c tmps h)
def Na:K:=fun _ _ _=>none
def Rx(P:Program)(f:FuncId)(args:List Value)(fn:Func)(c:Ctx)(todo:List aK)(tmps:List Value)(h:AH):Option AS:=
 some ⟨⟨f,⟨app args (rep undef (fn.ntmps - args.length))⟩,[.code (fn.body.getD (.refuse "unsupported: a function without a Go body is entered"))],[],false,none,false⟩,⟨c.fn,⟨tmps⟩,todo,c.defers,false,c.round,c.dk⟩ :: c.cs,h⟩
def FU(P:Program)(f:FuncId)(args:Array Value)(c:Ctx)(todo:List aK)(tmps:List Value)(h:AH):Option AS:=
 Option.rec none (fun fn=>Rx P f args.toList fn c todo tmps h) P.funcs[f]?
def Ry(a b:K)(x:Operand):K:=fun c tmps h=>match x with
 | .tmp t=>match nth tmps t with
   |some (.bool v)=>Bool.rec (b c tmps h) (a c tmps h) v
   |_=>none
 | _=>none
def Nb(P:Program)(pl:bH)(s:AS)(ih:AS→Option xO):Option xO:=match aF P pl none s with
 | some (.go s)=>ih s
 | r=>r
end
end Go.Am
namespace Go.Am
section
variable{P:Program}{h h':AH}
theorem VV{α β:Type}(s:Sem α)(f:α→Sem β):∀(h:AH) {x:α} {h':AH},s.ar P none h=some (x,h')→(s.bind f).ar P none h=(f x).ar P none h' :=by
 induction s with
 | pure a=>intro h x h' e;cases e;rfl
 | load m a k ih=>
   intro h x h' e
   simp only [Sem.bind]
   rw [Sem.ar.eq_def] at e
   conv=>lhs;rw [Sem.ar.eq_def]
   dsimp only at e ⊢
   generalize h.cell a=q at e ⊢
   cases q with
   |none=>cases e
   |some v=>
    cases m with
    |plain=>exact ih v _ e
    |atomic=>cases e
 | store m a v k ih=>
   intro h x h' e
   cases v<;>cases m<;>simp only [Sem.bind,Sem.ar] at e ⊢<;>first|(cases e;done)|skip
   all_goals
    split at e
    ·exact ih _ e
    ·cases e
 | new o k ih=>
   intro h x h' e
   simp only [Sem.bind,Sem.ar] at e ⊢
   split at e<;>first|(cases e;done)|exact ih _ _ e
 | shape r k ih=>
   intro h x h' e
   simp only [Sem.bind,Sem.ar] at e ⊢
   split at e<;>first|(cases e;done)|exact ih _ _ e
 | getObj r k ih=>
   intro h x h' e
   simp only [Sem.bind,Sem.ar] at e ⊢
   split at e<;>first|(cases e;done)|exact ih _ _ e
 | setObj r o k ih=>
   intro h x h' e
   simp only [Sem.bind,Sem.ar] at e ⊢
   split at e
   ·cases e
   ·cases e
   ·rename_i B _ hnc hq
    split at e
    ·cases e
    ·rename_i hro
     rw [if_neg hro]
     exact ih _ e
   ·cases e
 | choose q k ih=>
   intro h x h' e
   rw [Sem.ar.eq_def] at e
   simp only [Sem.bind]
   conv=>lhs;rw [Sem.ar.eq_def]
   dsimp only at e ⊢
   split at e
   ·rename_i hq;rw [if_pos hq];exact ih _ _ e
   ·cases q<;>cases e
 | program k ih=>intro h x h' e;simp only [Sem.bind,Sem.ar] at e ⊢;exact ih _ _ e
 | _=>intro h x h' e;cases e
theorem kX{α β:Type}{s:Sem α}{f:α→Sem β}{x:α}(e:s.ar P none h=some (x,h')):(s >>= f).ar P none h=(f x).ar P none h' :=VV s f h e
theorem Rz{α:Type}(a:α):(pure a:Sem α).ar P none h=some (a,h):=rfl
theorem Nc{t:TypeId}{d:TypeInfo}(e:P.info? t=some d):(typeInfo t).ar P none h=some (d,h):=by
 show (match P.info? t with|some d=>_|none=>_:Sem TypeInfo).ar P none h=_
 rw [e]
 rfl
theorem VW{t:TypeId}{d:TypeInfo}(e:P.info? t=some d):(sizeOf t).ar P none h=some (d.size,h):=by
 unfold sizeOf
 rw [kX (Nc e)]
 rfl
theorem VX{t:TypeId}{z:Value}(e:zeroOf P t=some z):(zeroValue t).ar P none h=some (z,h):=by
 unfold zeroOf at e
 cases hi:P.info? t with
 | none=>rw [hi] at e;cases e
 | some i=>
   rw [hi] at e
   have e':i.zero=some z:=e
   unfold zeroValue
   rw [kX (Nc hi),e']
   rfl
theorem VY{α β:Type}(s:Sem α)(f:α→Sem β):∀ {x:α},s.fO P h=some x→(s.bind f).fO P h=(f x).fO P h:=by
 induction s with
 | pure a=>intro x e;cases e;rfl
 | load m a k ih=>
   intro x e
   simp only [Sem.bind]
   rw [Sem.fO.eq_def] at e
   conv=>lhs;rw [Sem.fO.eq_def]
   dsimp only at e ⊢
   generalize h.cell a=q at e ⊢
   cases q with
   |none=>cases e
   |some v=>
    cases m with
    |plain=>exact ih v e
    |atomic=>cases e
 | shape r k ih=>
   intro x e
   simp only [Sem.bind,Sem.fO] at e ⊢
   split at e<;>first|(cases e;done)|exact ih _ e
 | getObj r k ih=>
   intro x e
   simp only [Sem.bind,Sem.fO] at e ⊢
   split at e<;>first|(cases e;done)|exact ih _ e
 | choose q k ih=>
   intro x e
   simp only [Sem.bind,Sem.fO] at e ⊢
   split at e
   ·rename_i hq;rw [if_pos hq];exact ih _ e
   ·cases e
 | program k ih=>intro x e;simp only [Sem.bind,Sem.fO] at e ⊢;exact ih _ e
 | _=>intro x e;cases e
theorem aT{α β:Type}{s:Sem α}{f:α→Sem β}{x:α}(e:s.fO P h=some x):(s >>= f).fO P h=(f x).fO P h:=VY s f e
theorem oK{α:Type}(a:α):(pure a:Sem α).fO P h=some a:=rfl
theorem gU{t:TypeId}{d:TypeDesc}(e:P.underlying t=some d):(underlying t).fO P h=some d:=by
 show (match P.underlying t with|some d=>_|none=>_:Sem TypeDesc).fO P h=_
 rw [e]
 rfl
theorem Nh{t:TypeId}{d:TypeInfo}(e:P.info? t=some d):(typeInfo t).fO P h=some d:=by
 show (match P.info? t with|some d=>_|none=>_:Sem TypeInfo).fO P h=_
 rw [e]
 rfl
theorem tK{t:TypeId}{d:TypeInfo}(e:P.info? t=some d):(sizeOf t).fO P h=some d.size:=by
 unfold sizeOf
 rw [aT (Nh e)]
 rfl
theorem VZ{t:TypeId}{z:Value}(e:zeroOf P t=some z):(zeroValue t).fO P h=some z:=by
 unfold zeroOf at e
 cases hi:P.info? t with
 | none=>rw [hi] at e;cases e
 | some i=>
   rw [hi] at e
   have e':i.zero=some z:=e
   unfold zeroValue
   rw [aT (Nh hi),e']
   rfl
end
end Go.Am
namespace Go.Am
structure TI where
 size:Nat
 und:TypeDesc
 zero:Option Value
 places:List (Nat×Nat)
noncomputable section
def RD(T:Tr TI)(h:AH)(t:Nat):Option (Value×AH):=match T.get t with
 | some ⟨_,_,some z,_⟩=>some (.pointer (some ⟨h.n,0,none⟩),h.new (.cells z.cells t (0,0)))
 | _=>none
def acC(h:AH)(t:Nat)(x:Option Value):Option (Value×AH):=match x with
 | some v=>some (.pointer (some ⟨h.n,0,none⟩),h.new (.cells v.cells t (0,0)))
 | none=>none
def vO(tmps:List Value)(x:Operand):Option Value:=match x with
 | .tmp t=>nth tmps t
 | .const v=>bif iT 9 v then some v else none
 | .func f=>some (.func (.func f) #[] #[])
 | .global _=>none
def xP(d:TypeDesc):Bool:=match d with
 | .struct _ | .array _ _=>true
 | _=>false
def Nj:Nat→List Value→Option (List Value):=fun n=>Nat.rec (fun _=>some []) (fun _ ih l=>match l with
 | x :: l=>match ih l with
   |some m=>some (x :: m)
   |none=>none
 | []=>none) n
def RF:Nat→List Value→List Value:=fun n=>Nat.rec (fun l=>l) (fun _ ih l=>ih l.tail) n
def Nk(tmps:List Value)(h:AH)(x:Operand):Option Value:=match vO tmps x with
 | some v=>some v
 | none=>none
def RG(T:Tr TI)(h:AH)(s f:Nat)(v:Option Value):Option Value:=match v with
 | some (.pointer (some a))=>match T.get s with
   |some ⟨_,.struct fields,_,_⟩=>match nth fields.toList f with
    |some fd=>match T.get fd.type with
     |some ⟨sz,_,_,_⟩=>bif Nat.beq sz 0 then none else some (.pointer (some (a.add fd.offset)))
     |none=>none
    |none=>none
   |_=>none
 | _=>none
def Nl(h:AH)(a:Addr):Option Value:=match a,h.look a.block with
 | ⟨_,off,none⟩,some ⟨.cells c _ _,_,_,_⟩=>nth c.toList off
 | _,_=>none
def Zh(h:AH)(a:Addr)(n:Nat):Option Value:=match a,h.look a.block with
 | ⟨_,off,none⟩,some ⟨.cells c _ _,_,_,_⟩=>match Nj n (RF off c.toList) with
   |some l=>some (.agg ⟨l⟩)
   |none=>none
 | _,_=>none
def X9(T:Tr TI)(h:AH)(t:Nat)(v:Option Value):Option Value:=match v with
 | some (.pointer (some a))=>match T.get t with
   |some ⟨sz,d,_,_⟩=>match bif xP d then Zh h a sz else Nl h a with
    |some v=>some v
    |none=>none
   |none=>none
 | _=>none
def acD(op:BinOp)(k:IntKind)(a b:Int):Option Value:=match op with
 | .add=>some (.int k (k.wrap (a+b)))
 | .sub=>some (.int k (k.wrap (a - b)))
 | .eql=>some (.bool (decide (a=b)))
 | .neq=>some (.bool (decide (a≠b)))
 | .lss=>some (.bool (decide (a < b)))
 | .leq=>some (.bool (decide (a≤b)))
 | .gtr=>some (.bool (decide (a > b)))
 | .geq=>some (.bool (decide (a≥b)))
 | _=>none
def acE(h:AH)(op:BinOp)(x y:Option Value):Option Value:=match x,y with
 | some (.int k a),some (.int k' b)=>if k=k' then match acD op k a b with
   |some v=>some v
   |none=>none else none
 | _,_=>none
def acF(h:AH)(x:Option Value):Option Value:=match x with
 | some (.bool b)=>some (.bool (!b))
 | _=>none
def Ir(h:AH)(i:Nat)(x:Option Value):Option Value:=match x with
 | some (.tuple vs)=>match nth vs.toList i with
   |some v=>some v
   |none=>none
 | _=>none
def Ya(h:AH)(c a b:Option Value):Option Value:=match c with
 | some (.bool t)=>match a,b with
   |some u,some v=>some (bif t then u else v)
   |_,_=>none
 | _=>none
def RH(T:Tr TI)(h:AH)(t:Nat)(x i:Option Value):Option Value:=match x,i with
 | some (.slice (some a) len _),some (.int k n)=>match T.get t with
   |some ⟨_,.slice e,_,_⟩=>match T.get e with
    |some ⟨sz,_,_,_⟩=>if 0≤n∧n < len then some (.pointer (some (a.add (n.toNat * sz)))) else none
    |none=>none
   |_=>none
 | some (.pointer (some a)),some (.int k n)=>match T.get t with
   |some ⟨_,.array len e,_,_⟩=>match T.get e with
    |some ⟨sz,_,_,_⟩=>if 0≤n∧n < len then some (.pointer (some (a.add (n.toNat * sz)))) else none
    |none=>none
   |_=>none
 | _,_=>none
def acG(h:AH)(x:Option Value):Option Value:=match x with
 | some (.slice _ n _)=>some (.int .i64 n)
 | _=>none
def qQ{β:Type}(v:Value)(l:List Value):Nat→(List Value→β)→β:=
 List.rec (fun _ k=>k []) (fun x l ih n k=>Nat.rec (k (v :: l)) (fun n _=>ih n fun l'=>k (x :: l')) n) l
def uY(v:Value):List Value:=match v with
 | .agg c=>c.toList
 | v=>[v]
def V4{β:Type}(vs:List Value):Nat→List Value→(List Value→β)→β:=
 List.rec (fun _ cells k=>k cells) (fun v _ ih off cells k=>qQ v cells off fun cells=>ih (off+1) cells k) vs
def RI(pl:List (Nat×Nat))(tmps:List Value)(ps:List (Nat×Operand)):List Value→Option Value:=
 List.rec (fun cells=>some (.agg ⟨cells⟩)) (fun p _ ih cells=>match vO tmps p.2 with
   |some v=>match nth pl p.1 with
    |some q=>bif Nat.beq (uY v).length q.2 && Nat.ble (q.1+q.2) cells.length then V4 (uY v) q.1 cells ih else none
    |none=>none
   |none=>none) ps
def RJ(T:Tr TI)(tmps:List Value)(t:Nat)(ps:List (Nat×Operand)):Option Value:=match T.get t with
 | some ⟨_,.struct _,some z,pl⟩=>RI pl tmps ps z.cells.toList
 | _=>none
def fast(T:Tr TI)(tmps:List Value)(h:AH)(op:Op):Option Value:=match op with
 | .move x=>Nk tmps h x
 | .assign x=>Nk tmps h x
 | .fieldAddr s x f=>RG T h s f (vO tmps x)
 | .load t x=>X9 T h t (vO tmps x)
 | .binOp op _ x y _=>acE h op (vO tmps x) (vO tmps y)
 | .unOp .not _ x=>acF h (vO tmps x)
 | .extract x i=>Ir h i (vO tmps x)
 | .pick c a b=>Ya h (vO tmps c) (vO tmps a) (vO tmps b)
 | .indexAddr t x i=>RH T h t (vO tmps x) (vO tmps i)
 | .build t ps=>RJ T tmps t ps.toList
 | .call ⟨.builtin .len,args,ats⟩=>match args.toList with
   | [x]=>match ats.toList with
    |t :: _=>match T.get t with
     |some ⟨_,.slice _,_,_⟩=>acG h (vO tmps x)
     |_=>none
    | []=>none
   |_=>none
 | _=>none
end
structure aW(P:Program)(T:Tr TI):Prop where
 get:∀t i,T.get t=some i→P.underlying t=some i.und∧(∃d,P.info? t=some d∧d.size=i.size)∧zeroOf P t=i.zero∧∀fields,i.und = .struct fields→fields.toList.map (fun f=>(f.offset,P.cellsOf f.type))=i.places∧∀f∈fields.toList,∃d,P.info? f.type=some d
section
variable{P:Program}{T:Tr TI}{tmps:List Value}{h h':AH}{o:Oper}{v:Value}{x:Operand}
theorem iU{α:Type}:∀(l:List α) (n:Nat),nth l n=l[n]?
 | [],n=>by simp [nth]
 | x :: l,0=>rfl
 | x :: l,n+1=>by
   have:=iU l n
   show nth l n=_
   simp [this]
theorem lJ{α:Type}(l:List α)(n:Nat):nth l n=(Array.mk l)[n]? :=by rw [iU];simp
theorem Bd(l:List Value)(t:Nat)(e:nth l t=some v):(Array.mk l).getD t undef=v:=by
 rw [lJ] at e
 simp [Array.getD_eq_getD_getElem?,e]
def Zi(x:Operand):Bool:=match x with
 | .const v=>iT 9 v
 | .global _=>false
 | _=>true
theorem kP(e:vO tmps x=some v):ax ⟨tmps⟩ x=v∧Zi x=true:=by
 unfold vO at e
 cases x with
 | tmp t=>exact ⟨Bd _ _ e,rfl⟩
 | const u=>
   dsimp only at e
   cases hp:iT 9 u with
   |false=>rw [hp] at e;cases e
   |true=>rw [hp] at e;cases e;exact ⟨rfl,hp⟩
 | func f=>cases e;exact ⟨rfl,rfl⟩
 | global g=>cases e
theorem tN(hx:∀x∈o.op.operands,Zi x=true):bu o=true:=by
 unfold bu
 rw [List.all_eq_true]
 intro x hm
 have:=hx x (Array.mem_toList_iff.1 hm)
 cases x<;>exact this
theorem fV{s:Sem Value}(hop:∀x∈o.op.operands,Zi x=true)(hok:mP P h (ax ⟨tmps⟩) o=true)(hs:execOp (ax ⟨tmps⟩) o=(s >>= fun v=>Pure.pure (Next.value v)))(hr:s.fO P h=some v) :
   (bu o && mP P h (ax ⟨tmps⟩) o)=true∧(execOp (ax ⟨tmps⟩) o).fO P h=some (.value v):=by
 refine ⟨by rw [tN hop,hok];rfl,?_⟩
 rw [hs,aT hr]
 rfl
theorem Iu{s:Sem Value}(hap:bK o=false)(hop:∀x∈o.op.operands,Zi x=true)(hok:mP P h (ax ⟨tmps⟩) o=true)(hs:execOp (ax ⟨tmps⟩) o=(s >>= fun v=>Pure.pure (Next.value v)))(hr:s.ar P none h=some (v,h')) :
   bf P none h ⟨tmps⟩ o=some (.value v,h'):=by
 unfold bf
 rw [hap,tN hop,hok,hs]
 simp only [Bool.false_eq_true,if_false,Bool.and_self,if_true]
 rw [kX hr]
 rfl
theorem RN(hap:bK o=false)(hr:(bu o && mP P h (ax ⟨tmps⟩) o)=true∧(execOp (ax ⟨tmps⟩) o).fO P h=some (.value v)):bf P none h ⟨tmps⟩ o=some (.value v,h):=by
 unfold bf
 rw [hap,hr.1]
 simp only [Bool.false_eq_true,if_false,if_true]
 exact Be _ hr.2
theorem yR(hr:(bu o && mP P h (ax ⟨tmps⟩) o)=true∧(execOp (ax ⟨tmps⟩) o).fO P h=some (.value v)):gV P h ⟨tmps⟩ o=some v:=by
 unfold gV
 rw [hr.1,hr.2]
 rfl
end
end Go.Am
