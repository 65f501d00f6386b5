import Derived.Conc.EventLaws
import Derived.Test.YtgfjlblikffnaaaGreatH13
import Derived.Test.YtgfjlblikffnaaaGreatH14
import Derived.Test.YtgfjlblikffnaaaGreatH15
set_option linter.unusedVariables false
set_option linter.unusedSectionVars false
set_option linter.unusedSimpArgs false
namespace Go.Am
open Go.Conc (born QuitsD G scase rcase)
open Go.Conc.Lib
open Go.Ren (grow fM aO az Wk fH Idle ag X0 XS XM Lv jh fQ rF je hearing lH uT iJ M1 Anch)
section
variable{P:Program}{ρ σ:Env}{O O' D D':Nat→Prop}{h h':AH}{w w':World}{X:Event→Prop}{m:Bool}{base cs:List Frame}{I:World→Prop}{a a':aF}{f:Frame}{lo hi:Nat}{ops:Array Oper}{i:Nat}{o:Oper}{s s₀:AS}{pl:bz}{g:Goroutine}
theorem lV.rely(S:lV P ρ O D base s g w)(r:az O D w w'):lV P ρ O D base s g w' :=⟨S.run,S.rel.rely r⟩
theorem tH.rely(A:tH P ρ lo s₀ ops i f cs O D w)(r:az O D w w'):tH P ρ lo s₀ ops i f cs O D w' :=⟨A.bound,A.fs,A.run,A.todo,A.kW,A.wanted,A.stk,A.rel.rely r⟩
structure JL(P:Program)(s s':AS):Prop where
 run:s.fr.ret=false
 round:s.fr.round=none
 at_:∃ops i l k o c x fn first cap a',s.fr.todo = .region ops (i :: l) :: k∧ops[i]? = some o∧Region.wanted o (yielded ops s.fr.tmps)=true∧bf o=true∧o.op = .defer c∧c.callee = .value x∧af s.fr.tmps x = .func fn first cap ∧
  au P { s.fr with defers:={ target:=.fn fn cap,args:=first ++ c.args.map (af s.fr.tmps) } :: s.fr.defers } s.h undef=some a' ∧ s' = ⟨a',s.cs,s.h⟩
theorem QU[aI P]{m:Bool}(k:JL P s s₀)(S:lV P ρ O D base s g w):Wk P m I X D (fun O' g' w'=>∃σ,ρ.Le σ∧lV P σ O' D base s₀ g' w') O g w:=by
 obtain ⟨hrun,fJ,ops,i,l,kk,o,c,x,fn,first,cap,a',t1,t2,t3,t4,t5,t6,t7,t8,t9⟩:=k
 refine (qN (c:=[]) (l:=[]) S hrun (.inr ⟨l,kk,t1⟩)).bind ?_
 rintro rW g₂ w₂ ⟨τ,lo,f,cs,hle,rfl,A⟩
 refine Wk.mk rfl fun w₁ hr _=>?_
 obtain ⟨g',h1,h2⟩:=(A.rely hr).defer (m:=m) (base:=base) t2 t3 t4 t5 t6 t7 fJ t8
 refine ⟨g',w₁,#[],h1,.none w₁,.stop ⟨τ,hle,?_⟩⟩
 rw [Go.Ren.iI]
 subst t9
 exact h2
def AA(P:Program)(pl:bz)(L:WgLink)(gb cb:Nat)(v:Option Value)(s:AS):Prop:=
 bn P pl (fun s₁=>Au P L gb cb v s₁∨∃s',JL P s₁ s' ∧ bn P pl (Au P L gb cb v) s') s
theorem JM[aI P]{L:WgLink}{Wg Ch gb cb:Nat}{v:Option Value}(H:WgLib P L)(hp:bV P L.done=true)(hi:∃w,Lv L Wg w)(k:AA P pl L gb cb v s₀)(S:lV P ρ O D [oL P] s₀ g w)
  (hgb:ρ.born gb) (hg:ρ.to gb=(Wg,0)) (hc:ρ.born cb∧ρ.to cb=(Ch,0)) :
  fH P false I X0 D (fQ P L Wg Ch (fun _ _ u _=>u=v) I D) 0 O g w:=by
 have hW:Wk P false I X0 D (fun O' g' w'=>fH P false I X0 D (fQ P L Wg Ch (fun _ _ u _=>u=v) I D) 0 O' g' w') O g w:=by
  refine (jg k S).bind ?_
  rintro fU g₁ w₁ ⟨σ,s₁,hs|⟨s',hd,hs⟩,hle,xU⟩
  ·exact .stop (Az (pl:=pl) H hp hi (.here hs) xU (hle.born _ hgb) ((hle.to _ hgb).trans hg) ⟨hle.born _ hc.1,(hle.to _ hc.1).trans hc.2⟩)
  ·refine (QU hd xU).bind ?_
   rintro rW g₂ w₂ ⟨τ,eG,aaf⟩
   have hle:=hle.trans eG
   exact .stop (Az (pl:=pl) H hp hi hs aaf (hle.born _ hgb) ((hle.to _ hgb).trans hg) ⟨hle.born _ hc.1,(hle.to _ hc.1).trans hc.2⟩)
 refine (Go.Ren.Wk.deaf (fun e x=>x.elim) (fun e x=>x) 0 hW).bind ?_
 rintro d O g w ⟨rfl,h⟩
 exact h
theorem QV(hm:f.mode = .run)(hr:f.roundOf=none):f.at ⟨f.tmps,f.defers⟩ f.todo=f:=by
 obtain ⟨fn,tmps,todo,defers,mode,kind,ro⟩:=f
 dsimp only at hm hr
 subst hm hr
 rfl
theorem FB.UK(h:FB ρ a f)(hr:a.round=none):f.roundOf=none:=by
 have:=h.round
 rw [hr] at this
 generalize f.roundOf=z at this
 cases this
 rfl
structure Ip(P:Program)(fid:FuncId)(args:Array Value)(s s':AS):Prop where
 run:s.fr.ret=false
 round:s.fr.round=none
 at_:∃ops i l k o as ats a',s.fr.todo = .region ops (i :: l) :: k∧ops[i]? = some o∧Region.wanted o (yielded ops s.fr.tmps)=true∧bf o=true∧o.op = .call { callee:=.value (.func fid),args:=as,argTypes:=ats }∧as.map (af s.fr.tmps)=args ∧
  au P s.fr s.h (.tuple #[])=some a' ∧ s' = ⟨a',s.cs,s.h⟩
theorem QW{as:Array Operand}{t:Array Value}{e:Operand→Value}(h:∀x∈as,VR ρ (af t x) (e x)):AR (VR ρ) (as.map (af t)) (as.map e):=by
 refine ⟨by simp,fun j u v hu hv=>?_⟩
 rw [Array.getElem?_map] at hu hv
 cases hj:as[j]? with
 |none=>rw [hj] at hu;cases hu
 |some z=>
  rw [hj] at hu hv
  cases hu
  cases hv
  exact h z (Array.mem_of_getElem? hj)
theorem uU{fid:FuncId}{as:Array Operand}{ats:Array TypeId}(hp:bV P fid=true)(A:tH P ρ lo s₀ ops i f cs O D w)(fJ:s₀.fr.round=none)(ho:ops[i]? = some o)(hw:Region.wanted o (yielded ops s₀.fr.tmps)=true)(hok:bf o=true)(hop:o.op = .call { callee:=.value (.func fid),args:=as,argTypes:=ats }) :
  AR (VR ρ) (as.map (af s₀.fr.tmps)) (as.map f.eval)∧∃s' k',f=f.at ⟨f.tmps,f.defers⟩ (.inRegion ops (i :: s') :: k')∧∀w₁,stepG P m (cO f (cs ++ base)) w₁ = .go (cO (Frame.enter P fid (as.map f.eval) .normal) (f :: (cs ++ base))) w₁ #[]:=by
 obtain ⟨s',k',ht⟩:=A.todo
 have hw' :=A.wanted o ho
 rw [hw] at hw'
 refine ⟨QW fun x hx=>A.kW o ho hok x (by rw [hop];simp [Op.operands,Call.operands,hx]),s',k',?_,fun w₁=>?_⟩
 ·have:=QV A.run (A.fs.base.UK fJ)
  rw [ht] at this
  exact this.symm
 ·rw [bT A.run ht ho hw' (fun q hq=>by rw [hop] at hq;cases hq)]
  have hex:∀ah,(execOp f.eval o).runT P w₁ ah=(.ok (.enter fid (as.map f.eval)) w₁,ah ++ #[]):=by
   intro ah
   have:execOp f.eval o=callFunc fid ((#[] ++ as.map f.eval) ++ #[]):=by
    unfold execOp
    rw [hop]
    rfl
   rw [this,nI hp]
   simp
  have:=vZ (cs:=cs ++ base) A.fs.base.ne (fun d x y k=>A.fs.tJ d true x y k) hex
  rw [this]
  rfl
theorem args1{as:Array Value}{gb Wg:Nat}(hg:ρ.to gb=(Wg,0))(h:AR (VR ρ) #[.pointer (some ⟨gb,0,none⟩)] as):as = #[.pointer (some ⟨Wg,0,none⟩)]:=by
 obtain ⟨h1,h2⟩:=h
 have hs:as.size=1:=by simpa using h1.symm
 obtain ⟨v,rfl⟩:∃v,as = #[v]:=by
  refine ⟨as[0],?_⟩
  apply Array.ext (by simp [hs])
  intro i h1 h2
  simp at h2
  subst h2
  rfl
 have:=h2 0 _ v rfl rfl
 cases this with
 |ptr hb=>simp [Env.addr,hg]
theorem args2{as:Array Value}{gb Wg:Nat}{k:IntKind}{n:Int}(hg:ρ.to gb=(Wg,0))(h:AR (VR ρ) #[.pointer (some ⟨gb,0,none⟩),.int k n] as):as = #[.pointer (some ⟨Wg,0,none⟩),.int k n]:=by
 obtain ⟨h1,h2⟩:=h
 have hs:as.size=2:=by simpa using h1.symm
 obtain ⟨u,v,rfl⟩:∃u v,as = #[u,v]:=by
  refine ⟨as[0],as[1],?_⟩
  apply Array.ext (by simp [hs])
  intro i h1 h2
  simp at h2
  match i,h2 with
  |0,_=>rfl
  |1,_=>rfl
 have a1:=h2 0 _ u rfl rfl
 have a2:=h2 1 _ v rfl rfl
 cases a1 with
 |ptr hb=>cases a2;simp [Env.addr,hg]
theorem UL[aI P]{L:WgLink}{Wg Ch gb j:Nat}{R:AS→Prop}{Sent:Nat→(Nat→Prop)→(Nat→Prop)→Option Value→World→Prop}{Nx:(Nat→Prop)→(Nat→Prop)→Goroutine→World→Prop}(H:WgLib P L)(hp:bV P L.add=true)(hi:∃w,Lv L Wg w)(hI:∀w,I w→Lv L Wg w)
  (k:bn P pl (fun s₁=>∃s',Ip P L.add #[.pointer (some ⟨gb,0,none⟩),.int .i64 1] s₁ s' ∧ R s') s) (S:lV P ρ O D base s g w) (hgb:ρ.born gb) (hg:ρ.to gb=(Wg,0))
  (next:∀s' σ O' g' w',R s' → ρ.Le σ→lV P σ O' D base s' g' w' → fH P true I (XM Wg) D (uT P L Wg Ch Sent I j Nx D) 0 O' g' w') :
  fH P true I (XM Wg) D (lH P L Wg Ch Sent I j Nx D) 0 O g w:=by
 have hW:Wk P true I X0 D (fun O' g' w'=>fH P true I (XM Wg) D (lH P L Wg Ch Sent I j Nx D) 0 O' g' w') O g w:=by
  refine (jg k S).bind ?_
  rintro fU g₁ w₁ ⟨σ,s₁,⟨s',⟨hrun,fJ,ops,i,l,kk,o,as,ats,a',t1,t2,t3,t4,t5,t6,t7,t8⟩,hR⟩,hle,xU⟩
  have hg₁:σ.to gb=(Wg,0):=(hle.to _ hgb).trans hg
  refine (qN (c:=[]) (l:=[]) xU hrun (.inr ⟨l,kk,t1⟩)).bind ?_
  rintro rW g₂ w₂ ⟨τ,lo,f,cs,eG,rfl,A⟩
  have hg₂:τ.to gb=(Wg,0):=(eG.to _ (hle.born _ hgb)).trans hg₁
  obtain ⟨hargs,sr,kr,UM,hst⟩:=uU (m:=true) (base:=base) hp A fJ t2 t3 t4 t5
  rw [t6] at hargs
  have hargs' :=args2 hg₂ hargs
  rw [hargs'] at hst
  refine .stop (.step rfl (fun _=>cO (Frame.enter P L.add #[.pointer (some ⟨Wg,0,none⟩),.int .i64 1] .normal) (f :: (cs ++ base))) id (fun _=>#[]) (fun w₃ _ _=>⟨hst w₃,.none w₃⟩) fun w₃ hr _=>?_)
  show fH P true I (XM Wg) D (lH P L Wg Ch Sent I j Nx D) 0 (grow rW w₃ w₃) _ w₃
  rw [Go.Ren.iI]
  have hadd:=Go.Ren.add_pos (P:=P) (m:=true) (X:=XS Wg) (L:=L) (Wg:=Wg) (T:=(· = G ((f.at ⟨f.tmps,f.defers⟩ (.inRegion ops (i :: sr) :: kr)).finish (.tuple #[])) (cs ++ base))) H hi (fun a ha=>⟨a,ha,.inl rfl⟩)
   (b₀:=f) (a₀:=⟨f.tmps,f.defers⟩) (ops₀:=ops) (i₀:=i) (rest₀:=sr) (k₀:=kr) (cs:=cs ++ base) (by rw [Frame.finish_at])
  rw [←UM] at hadd
  refine Go.Ren.QS.walk (gT:=G (f.finish (.tuple #[])) (cs ++ base)) hadd hI ?_
  rintro agU w₄ rfl LJ
  subst t8
  refine next _ τ _ _ w₄ hR (hle.trans eG) ?_
  exact (A.rely hr |>.rely LJ).finish (.refl τ) (fun x _ hx=>hx) (Nat.le_refl _) (.tuple rfl fun i x y hx=>by simp at hx) (A.rely hr |>.rely LJ).rel t7
 refine (Go.Ren.Wk.deaf (fun e x=>x.elim) (fun e x=>x.elim) 0 hW).bind ?_
 rintro d O g w ⟨rfl,h⟩
 exact h
end
end Go.Am
namespace Go.Am
open Go.Conc (born QuitsD G scase rcase)
open Go.Conc.Lib
open Go.Ren (grow fM aO az Wk fH Idle ag X0 XS XM Lv jh fQ rF je hearing lH uT iJ M1 Anch)
section
variable{P:Program}{ρ σ:Env}{O O' D D':Nat→Prop}{h h':AH}{w w':World}{X:Event→Prop}{m:Bool}{base cs:List Frame}{I:World→Prop}{a a':aF}{f:Frame}{lo hi:Nat}{ops:Array Oper}{i:Nat}{o:Oper}{s s₀:AS}{pl:bz}{g:Goroutine}
 {L:WgLink} {Wg Ch gb cb j:Nat} {R:AS→Prop}
theorem QX[aI P]{Fin:(Nat→Prop)→(Nat→Prop)→Goroutine→World→Prop}(H:WgLib P L)(hp:bV P L.wait=true)(hi:∃w,Lv L Wg w)
  (k:bn P pl (fun s₁=>∃s',Ip P L.wait #[.pointer (some ⟨gb,0,none⟩)] s₁ s' ∧ R s') s) (S:lV P ρ O D base s g w) (hgb:ρ.born gb) (hg:ρ.to gb=(Wg,0))
  (fin:∀s' σ O' g' w',R s' → ρ.Le σ→lV P σ O' D base s' g' w' → Fin D O' g' w') :
  fH P true I (XM Wg) D (iJ P L Wg Fin D) 0 O g w:=by
 have hW:Wk P true I X0 D (fun O' g' w'=>iJ P L Wg Fin D 0 O' g' w') O g w:=by
  refine (jg k S).bind ?_
  rintro fU g₁ w₁ ⟨σ,s₁,⟨s',⟨hrun,fJ,ops,i,l,kk,o,as,ats,a',t1,t2,t3,t4,t5,t6,t7,t8⟩,hR⟩,hle,xU⟩
  have hg₁:σ.to gb=(Wg,0):=(hle.to _ hgb).trans hg
  refine (qN (c:=[]) (l:=[]) xU hrun (.inr ⟨l,kk,t1⟩)).bind ?_
  rintro rW g₂ w₂ ⟨τ,lo,f,cs,eG,rfl,A⟩
  have hg₂:τ.to gb=(Wg,0):=(eG.to _ (hle.born _ hgb)).trans hg₁
  obtain ⟨hargs,sr,kr,UM,hst⟩:=uU (m:=true) (base:=base) hp A fJ t2 t3 t4 t5
  rw [t6] at hargs
  have hargs' :=args1 hg₂ hargs
  rw [hargs'] at hst
  refine Wk.mk rfl fun w₃ hr _=>⟨_,_,_,hst w₃,.none w₃,?_⟩
  rw [Go.Ren.iI]
  have e0:=Go.Ren.JK (P:=P) (m:=true) (X:=XS Wg) (L:=L) (Wg:=Wg) H hi (b₀:=f) (a₀:=⟨f.tmps,f.defers⟩) (ops₀:=ops) (i₀:=i) (rest₀:=sr) (k₀:=kr) (cs:=cs ++ base)
  have e1:=fun {g} (hA:Go.Ren.oV L Wg (f.at ⟨f.tmps,f.defers⟩ (.inRegion ops (i :: sr) :: kr)) (cs ++ base) g)=>Go.Ren.JJ (P:=P) (m:=true) (X:=XS Wg) (L:=L) (Wg:=Wg) (T:=(· = G ((f.at ⟨f.tmps,f.defers⟩ (.inRegion ops (i :: sr) :: kr)).finish (.tuple #[])) (cs ++ base))) H hi (fun a ha=>⟨a,ha,.inr rfl⟩)
   (b₀:=f) (a₀:=⟨f.tmps,f.defers⟩) (ops₀:=ops) (i₀:=i) (rest₀:=sr) (k₀:=kr) (cs:=cs ++ base) (by rw [Frame.finish_at]) (g:=g) hA
  have hanch:=Go.Ren.UN (P:=P) (L:=L) (Wg:=Wg) (gT:=G ((f.at ⟨f.tmps,f.defers⟩ (.inRegion ops (i :: sr) :: kr)).finish (.tuple #[])) (cs ++ base)) (A:=Go.Ren.oV L Wg (f.at ⟨f.tmps,f.defers⟩ (.inRegion ops (i :: sr) :: kr)) (cs ++ base)) (fun g hA=>e1 hA)
  rw [←UM] at e0 hanch
  refine .stop ⟨G (f.finish (.tuple #[])) (cs ++ base),_,hanch,?_,fun w' hr'=>?_⟩
  ·refine (Idle.deaf (fun e=>Go.Ren.iE) (fun e=>Go.Ren.xW) 0 e0).bind fun d g ⟨e,hs⟩=>?_
   subst e
   refine hs.deaf (fun w _=>Go.Ren.oU (.inl rfl)) fun g' hg=>?_
   refine (Idle.deaf (fun e=>Go.Ren.iE) (fun e=>Go.Ren.xW) 1 hg).bind ?_
   rintro d g ⟨rfl,hA⟩
   exact hanch g hA
  ·subst t8
   refine fin _ τ _ _ w' hR (hle.trans eG) ?_
   exact (A.rely hr |>.rely hr').finish (.refl τ) (fun x _ hx=>hx) (Nat.le_refl _) (.tuple rfl fun i x y hx=>by simp at hx) (A.rely hr |>.rely hr').rel t7
 refine (Go.Ren.Wk.deaf (fun e x=>x.elim) (fun e x=>x.elim) 0 hW).mono ?_
 rintro d O g w ⟨rfl,h⟩
 exact h
structure AGo(P:Program)(pl:bz)(L:WgLink)(gb cb:Nat)(v:Option Value)(s s':AS):Prop where
 run:s.fr.ret=false
 round:s.fr.round=none
 at_:∃ops i l k o c x fid first cap a',s.fr.todo = .region ops (i :: l) :: k∧ops[i]? = some o∧Region.wanted o (yielded ops s.fr.tmps)=true∧bf o=true∧o.op = .go c∧c.callee = .value x∧af s.fr.tmps x = .func (.func fid) first cap∧bV P fid=true ∧
  AA P pl L gb cb v ⟨{ aF.enter P fid ((first ++ c.args.map (af s.fr.tmps)) ++ cap) with dk:=true },[],s.h.shared⟩∧au P s.fr s.h.shared undef=some a' ∧ s' = ⟨a',s.cs,s.h.shared⟩
theorem QY(fid:FuncId){a a':Array Value}(h:AR (VR ρ) a a'):F0 ρ { aF.enter P fid a with dk:=true } (Frame.enter P fid a' .deferred):=by
 have k:=xw (P:=P) fid h
 exact ⟨⟨k.fn,k.defers,k.mode,rfl,k.round⟩,k.tmps,k.todo⟩
theorem aag[aI P]{v:Option Value}{Sent:Nat→(Nat→Prop)→(Nat→Prop)→Option Value→World→Prop}{Nx:(Nat→Prop)→(Nat→Prop)→Goroutine→World→Prop}(H:WgLib P L)(hp:bV P L.done=true)(hi:∃w,Lv L Wg w)(hS:Sent j=fun _ _ u _=>u=v)
  (k:bn P pl (fun s₁=>∃s',AGo P pl L gb cb v s₁ s' ∧ R s') s) (S:lV P ρ O D base s g w) (hgb:ρ.born gb) (hg:ρ.to gb=(Wg,0)) (hc:ρ.born cb∧ρ.to cb=(Ch,0))
  (next:∀s' σ O' D' g' w',R s' → ρ.Le σ→lV P σ O' D' base s' g' w' → (∀b,D b→D' b)→Nx D' O' g' w') :
  fH P true I (XM Wg) D (uT P L Wg Ch Sent I j Nx D) 0 O g w:=by
 have hW:Wk P true I X0 D (fun O' g' w'=>uT P L Wg Ch Sent I j Nx D 0 O' g' w') O g w:=by
  refine (jg k S).bind ?_
  rintro fU g₁ w₁ ⟨σ,s₁,⟨s',⟨hrun,fJ,ops,i,l,kk,o,c,x,fid,first,cap,a',t1,t2,t3,t4,t5,t6,t7,t8,t9,t10,t11⟩,hR⟩,hle,xU⟩
  have hg₁:σ.to gb=(Wg,0):=(hle.to _ hgb).trans hg
  have hc₁:σ.to cb=(Ch,0):=(hle.to _ hc.1).trans hc.2
  refine (qN (c:=[]) (l:=[]) xU hrun (.inr ⟨l,kk,t1⟩)).mono ?_
  rintro rW g₂ w₂ ⟨τ,lo,f,cs,eG,rfl,A⟩
  have hg₂:τ.to gb=(Wg,0):=(eG.to _ (hle.born _ hgb)).trans hg₁
  have hc₂:τ.to cb=(Ch,0):=(eG.to _ (hle.born _ hc.1)).trans hc₁
  have aah:τ.born gb:=eG.born _ (hle.born _ hgb)
  have aai:τ.born cb:=eG.born _ (hle.born _ hc.1)
  refine ⟨rfl,rfl,fun w₃ hr _=>?_⟩
  obtain ⟨sr,kr,ht⟩:=A.todo
  have hw' :=A.wanted o t2
  rw [t3] at hw'
  have hv:=A.kW o t2 t4
  have hfx:=hv x (by rw [t5];simp [Op.operands,Call.operands,t6])
  rw [t7] at hfx
  generalize hfe:f.eval x=y at hfx
  cases hfx with
  | @func _ fn' _ first' _ cap' hfn hs1 hv1 hs2 hv2=>
   cases hfn
   have hargs:AR (VR τ) ((first ++ c.args.map (af s₁.fr.tmps)) ++ cap) ((first' ++ c.args.map f.eval) ++ cap'):=
    AR.append (AR.append ⟨hs1,hv1⟩ (QW fun z hz=>hv z (by rw [t5];simp [Op.operands,Call.operands,t6,hz]))) ⟨hs2,hv2⟩
   have hrun:∀ah,(execOp f.eval o).runT P w₃ ah=(.ok (.spawn { target:=.fn (.func fid) cap',args:=first' ++ c.args.map f.eval }) w₃,ah ++ #[]):=by
    intro ah
    have:execOp f.eval o=Sem.pure (.spawn { target:=.fn (.func fid) cap',args:=first' ++ c.args.map f.eval }):=by
     unfold execOp
     rw [t5]
     dsimp only
     unfold resolve
     rw [t6]
     dsimp only
     rw [hfe]
     rfl
    rw [this]
    simp only [Sem.runT,Array.append_empty]
   obtain ⟨h1,h2⟩:=rX hrun
   have hkind:=ji A.fs.base.ne
   have hst:stepG P true (cO f (cs ++ base)) w₃ = .spawn (cO (f.finish undef) (cs ++ base)) (born P { target:=.fn (.func fid) cap',args:=first' ++ c.args.map f.eval }) w₃ #[]:=by
    rw [bT A.run ht t2 hw' (fun q hq=>by rw [t5] at hq;cases hq)]
    simp [stepG.apply,h1,h2,hkind,GStep.after,cO,born,seen]
   have aep:=A.rely hr
   have aci:Rel τ (fun _=>False) (fun b=>D b∨rW b) s₁.h.shared w₃:=aep.rel.share fun b hb=>hb.elim (fun x=>.inr (.inr x)) (fun x=>.inr (.inl x))
   refine ⟨_,_,rW,fun _=>False,fun b=>D b∨rW b,hst,fun b hb=>hb,fun b hb=>hb.elim,fun b hb=>hb,?_,?_⟩
   ·refine .step rfl (fun _=>cO (Frame.enter P fid ((first' ++ c.args.map f.eval) ++ cap') .deferred) [oL P]) id (fun _=>#[]) (fun w₄ _ _=>⟨born_step t8 w₄,.none w₄⟩) fun w₄ LJ _=>?_
    show fH P false I X0 _ _ 0 (grow (fun _=>False) w₄ w₄) _ w₄
    rw [Go.Ren.iI,hS]
    refine JM (pl:=pl) (gb:=gb) (cb:=cb) H hp hi t9 ?_ aah hg₂ ⟨aai,hc₂⟩
    refine ⟨⟨0,_,[],Nat.zero_le _,rfl,.plain (QY fid hargs),.nil⟩,aci.rely LJ⟩
   ·have e:(fun b=>rW b∧¬rW b∧¬False)=fun _=>False:=by
     funext b
     exact propext ⟨fun x=>x.2.1 x.1,fun x=>x.elim⟩
    rw [e]
    subst t11
    refine next _ τ _ _ _ _ hR (hle.trans eG) ?_ fun b hb=>.inl hb
    exact ⟨⟨lo,_,cs,A.bound,rfl,jA A.fs (Nat.le_refl _) gV t10,A.stk⟩,aci⟩
 refine (Go.Ren.Wk.deaf (fun e x=>x.elim) (fun e x=>x.elim) 0 hW).mono ?_
 rintro d O g w ⟨rfl,h⟩
 exact h
end
end Go.Am
namespace Go.Am
open Go.Conc (born QuitsD G scase rcase)
open Go.Conc.Lib
open Go.ConcR (WgAt)
open Go.Ren (grow fM aO az Wk fH Idle ag X0 XS XM Lv jh fQ rF je hearing lH uT iJ M1 Anch Spawns kV)
section
variable{P:Program}{ρ σ:Env}{O O' D D':Nat→Prop}{h h':AH}{w w':World}{X:Event→Prop}{m:Bool}{base cs:List Frame}{I:World→Prop}{a a':aF}{f:Frame}{lo hi:Nat}{ops:Array Oper}{i:Nat}{o:Oper}{s s₀:AS}{pl:bz}{g:Goroutine}
 {L:WgLink} {Wg Ch gb cb j:Nat} {R:AS→Prop}
def kX(P:Program)(pl:bz)(L:WgLink)(gb cb:Nat)(Fin:AS→Prop):List (Option Value)→AS→Prop
 | [],s=>bn P pl (fun s₁=>∃s',Ip P L.wait #[.pointer (some ⟨gb,0,none⟩)] s₁ s' ∧ Fin s') s
 |v :: vs,s=>bn P pl (fun s₁=>∃s',Ip P L.add #[.pointer (some ⟨gb,0,none⟩),.int .i64 1] s₁ s' ∧ bn P pl (fun s₂=>∃s'',AGo P pl L gb cb v s₂ s'' ∧ kX P pl L gb cb Fin vs s'') s') s
def Cm(all:List (Option Value)):Nat→(Nat→Prop)→(Nat→Prop)→Option Value→World→Prop:=fun i _ _ u _=>u=(all[i]?).getD none
def xX(P:Program)(wo:Env)(base:List Frame)(Fin:AS→Prop):(Nat→Prop)→(Nat→Prop)→Goroutine→World→Prop:=fun D O g w=>∃σ s',Fin s' ∧ wo.Le σ∧lV P σ O D base s' g w
theorem xX.rely{wo:Env}{Fin:AS→Prop}:∀D O g w w',xX P wo base Fin D O g w→az O D w w' → xX P wo base Fin D O g w' :=fun D O g w w' ⟨σ,s',h1,h2,h3⟩ r=>⟨σ,s',h1,h2,h3.rely r⟩
structure xY(P:Program)(L:WgLink):Prop extends WgLib P L where
 add:bV P L.add=true
 done:bV P L.done=true
 wait:bV P L.wait=true
theorem AB[aI P]{Fin:AS→Prop}{wo:Env}{all:List (Option Value)}(H:xY P L)(hi:∃w,Lv L Wg w)(hI:∀w,I w→Lv L Wg w) :
  ∀(vs:List (Option Value)) {n:Nat} {s:AS} {ρ:Env} {O D:Nat→Prop} {g:Goroutine} {w:World},all.drop (n - vs.length)=vs→vs.length≤n→n=all.length→kX P pl L gb cb Fin vs s→lV P ρ O D base s g w→wo.Le ρ→ρ.born gb→ρ.to gb=(Wg,0)→ρ.born cb∧ρ.to cb=(Ch,0) →
   Spawns P L Wg Ch (Cm all) I (xX P wo base Fin) n vs.length D O g w
 | [],n,s,ρ,O,D,g,w,_,_,_,k,S,JO,hgb,hg,hc=>by
  refine QX (gb:=gb) H.toWgLib H.wait hi k S hgb hg ?_
  intro s' σ O' g' w' hF hle S'
  exact ⟨σ,s',hF,JO.trans hle,S'⟩
 |v :: vs,n,s,ρ,O,D,g,w,hd,hlen,hn,k,S,JO,hgb,hg,hc=>by
  simp only [List.length_cons] at hd hlen
  refine UL (gb:=gb) H.toWgLib H.add hi hI k S hgb hg ?_
  intro s' σ O' g' w' hR hle S'
  have JP:=hle.born _ hgb
  have hg₁:=(hle.to _ hgb).trans hg
  have hc₁:σ.born cb∧σ.to cb=(Ch,0):=⟨hle.born _ hc.1,(hle.to _ hc.1).trans hc.2⟩
  refine aag (gb:=gb) (cb:=cb) (v:=v) H.toWgLib H.done hi ?_ hR S' JP hg₁ hc₁ ?_
  ·funext _ _ u _
   unfold Cm
   have:all[n - (vs.length+1)]? = some v:=by
    have:=congrArg (·[0]?) hd
    simpa using this
   rw [this]
   rfl
  ·intro s'' τ O'' D'' g'' w'' hR' hle' S'' _
   refine AB H hi hI vs (?_:all.drop (n - vs.length)=vs) (by omega) hn hR' S'' ((JO.trans hle).trans hle') (hle'.born _ JP) ((hle'.to _ JP).trans hg₁) ⟨hle'.born _ hc₁.1,(hle'.to _ hc₁.1).trans hc₁.2⟩
   have e:n - vs.length=(n - (vs.length+1))+1:=by omega
   rw [e,←List.drop_drop,hd]
   rfl
end
end Go.Am
namespace Go.Am
open Go.Conc (born QuitsD G scase rcase)
open Go.Conc.Lib
open Go.ConcR (WgAt)
open Go.Ren (grow fM aO az Wk fH Idle ag X0 XS XM Lv jh fQ rF je hearing lH uT iJ M1 Anch Spawns kV At aA Keep full)
structure St(P:Program)(base:List Frame)(W U Z:Nat→Prop)(N:Nat)(ρ:Env)(s:AS)(g:Goroutine)(w:World)(m:Machine)(t:Trace):Prop where
 at_:At P W U Z N 0 g w m t
 QJ:lV P ρ (full Z w) (fun _=>False) base s g w
 lt:∀b,Z b→b < w.heap.size
section
variable{P:Program}{ρ σ:Env}{W U Z:Nat→Prop}{N:Nat}{h h':AH}{w w':World}{mm:Bool}{base cs:List Frame}{a a':aF}{f:Frame}{lo hi:Nat}{ops:Array Oper}{i:Nat}{o:Oper}{s s₀:AS}{pl:bz}{g:Goroutine}
 {L:WgLink} {Wg Ch gb cb j:Nat} {R:AS→Prop} {bJ:Machine→Outcome→World→Trace→Prop} {m:Machine} {t:Trace}
theorem St.reach[aI P]{K:AS→Prop}(S:St P base W U Z N ρ s g w m t)(k:bn P pl K s) :
  aA P bJ (fun m t=>∃(σ:Env) (s':AS) (g':Goroutine) (w':World),K s' ∧ ρ.Le σ∧St P base W U Z N σ s' g' w' m t∧Keep Z w w') m t:=by
 refine (JI S.lt k S.QJ S.at_).mono ?_
 rintro m t ⟨σ,s',g',w',k1,k2,k3,k4,k5⟩
 exact ⟨σ,s',g',w',k1,k2,⟨k4,k3,k5.lt S.lt⟩,k5⟩
theorem St.JQ[aI P]{c:List Nat}(S:St P base W U Z N ρ s g w m t)(hrun:s.fr.ret=false){l:List Nat}{k:List aK}(ht:s.fr.todo = .region ops (i :: l) :: k) :
  aA P bJ (fun m t=>∃(σ:Env) (lo:Nat) (f:Frame) (cs:List Frame) (w':World),ρ.Le σ∧tH P σ lo s ops i f cs (full Z w') (fun _=>False) w' ∧ At P W U Z N 0 (cO f (cs ++ base)) w' m t∧Keep Z w w') m t:=by
 refine (Go.Ren.At.wk2 (qN (X:=X0) (I:=fun _=>True) (m:=true) (c:=[]) (l:=[]) S.QJ hrun (.inr ⟨l,k,ht⟩)) S.lt rfl S.at_).mono ?_
 rintro m t ⟨g',w',hat,⟨σ,lo,f',cs,k1,rfl,k3⟩,hk⟩
 exact ⟨σ,lo,f',cs,w',k1,k3,hat,hk⟩
theorem lV.at(S:lV P ρ (full Z w) (fun _=>False) base s g w)(d:Nat):lV P ρ (full Z w) (fun _=>False) base s g (w.at d):=S.rely ⟨Nat.le_refl _,fun _ _=>rfl,fun _ _=>rfl,.rfl,rfl,rfl⟩
theorem Iq{v v':Value}{obj:Obj}(A:tH P ρ lo s₀ ops i f cs (full Z w) (fun _=>False) w)(hat:At P W U Z N 0 (cO f (cs ++ base)) w m t)(hlt:∀b,Z b→b < w.heap.size)(ho:ops[i]? = some o)(hw:Region.wanted o (yielded ops s₀.fr.tmps)=true)(hnd:∀q,o.op ≠ .defer q)
  (hrun:∀d₁ ah,(execOp f.eval o).runT P (w.at d₁) ah=(.ok (.value v') ((w.at d₁).alloc obj),ah ++ #[])) (hl:s₀.h.look s₀.h.n=none) (ha:au P s₀.fr s₀.h.blank v=some a') (hv:VR (ρ.add s₀.h.n (w.heap.size,0) False 0 0) v v') :
  aA P bJ (fun m t=>ρ.Le (ρ.add s₀.h.n (w.heap.size,0) False 0 0)∧(ρ.add s₀.h.n (w.heap.size,0) False 0 0).born s₀.h.n∧(ρ.add s₀.h.n (w.heap.size,0) False 0 0).to s₀.h.n=(w.heap.size,0) ∧
   St P base W (fun b=>U b∨b=w.heap.size) (fun b=>Z b∨b=w.heap.size) N (ρ.add s₀.h.n (w.heap.size,0) False 0 0) ⟨a',s₀.cs,s₀.h.blank⟩ (cO (f.finish v') (cs ++ base)) (w.alloc obj) m t) m t:=by
 obtain ⟨s',k',ht⟩:=A.todo
 have hw' :=A.wanted o ho
 rw [hw] at hw'
 have hst:∀d₁,stepG P true (cO f (cs ++ base)) (w.at d₁) = .go (cO (f.finish v') (cs ++ base)) ((w.at d₁).alloc obj) #[]:=by
  intro d₁
  rw [bT A.run ht ho hw' hnd]
  have:=iK (cs:=cs ++ base) A.fs.base.ne (hrun d₁)
  rw [this]
  rfl
 have hnb:¬ρ.born s₀.h.n:=fun hb=>Nat.lt_irrefl _ (A.rel.fresh _ hb)
 refine (hat.fresh rfl hst).mono ?_
 intro m t hat'
 refine ⟨Env.iC hnb,.inl rfl,bU,hat',?_,fun b hb=>?_⟩
 ·have e:full Z w=full (fun b=>Z b∨b=w.heap.size) (w.alloc obj):=by
   funext b
   apply propext
   unfold full
   have hs:(w.alloc obj).heap.size=w.heap.size+1:=by simp
   rw [hs]
   constructor
   ·rintro ⟨h1,h2⟩
    exact ⟨by omega,fun h=>h.elim h2 (by omega)⟩
   ·rintro ⟨h1,h2⟩
    have:b≠w.heap.size:=fun e=>h2 (.inr e)
    exact ⟨by omega,fun h=>h2 (.inl h)⟩
  rw [←e]
  exact A.finish (Env.iC hnb) (fun x hx hb=>hb.resolve_left (by omega)) (Nat.le_succ _) hv (A.rel.blank _ hl) ha
 ·have hs:(w.alloc obj).heap.size=w.heap.size+1:=by simp
  rw [hs]
  rcases hb with hb|rfl
  ·exact Nat.lt_succ_of_lt (hlt b hb)
  ·exact Nat.lt_succ_self _
structure QZ(P:Program)(cap:Nat)(s s':AS):Prop where
 run:s.fr.ret=false
 at_:∃ops i l k o t sz kd n dir elem inf a',s.fr.todo = .region ops (i :: l) :: k∧ops[i]? = some o∧Region.wanted o (yielded ops s.fr.tmps)=true∧bf o=true∧o.op = .makeChan t sz∧af s.fr.tmps sz = .int kd n∧P.underlying t=some (.chan dir elem)∧P.info? elem=some inf ∧
  (0≤n∧n≤IntKind.i64.max∧inf.bytes * n≤2 ^ 48 - 112)∧n.toNat=cap∧s.h.look s.h.n=none∧au P s.fr s.h.blank (.chan (some s.h.n))=some a' ∧ s' = ⟨a',s.cs,s.h.blank⟩
structure JR(P:Program)(L:WgLink)(s s':AS):Prop where
 run:s.fr.ret=false
 at_:∃ops i l k o z a',s.fr.todo = .region ops (i :: l) :: k∧ops[i]? = some o∧Region.wanted o (yielded ops s.fr.tmps)=true∧o.op = .alloc L.tWg∧zeroOf P L.tWg=some z∧z.cells = #[.int .u64 0,.int .u32 0] ∧
  s.h.look s.h.n=none∧au P s.fr s.h.blank (.pointer (some ⟨s.h.n,0,none⟩))=some a' ∧ s' = ⟨a',s.cs,s.h.blank⟩
theorem St.make[aI P]{cap:Nat}{s':AS}(S:St P base W U Z N ρ s g w m t)(k:QZ P cap s s') :
  aA P bJ (fun m t=>∃(σ:Env) (g':Goroutine) (w':World) (ch:Nat),ρ.Le σ∧St P base W (fun b=>U b∨b=ch) (fun b=>Z b∨b=ch) N σ s' g' w' m t∧Keep Z w w' ∧ σ.born s.h.n∧σ.to s.h.n=(ch,0)∧w'.heap[ch]? = some (.chan cap #[] false 0 0 false)∧∀b,Z b→b≠ch) m t:=by
 obtain ⟨hrun,ops,i,l,k,o,ty,sz,kd,n,dir,elem,inf,a',t1,t2,t3,t4,t5,t6,t7,t8,t9,t10,t11,t12,t13⟩:=k
 refine (S.JQ (c:=[]) hrun t1).bind ?_
 rintro m t ⟨σ,lo,f,cs,w',hle,A,hat,hk⟩
 have hv:=A.kW o t2 t4 sz (by rw [t5];simp [Op.operands])
 rw [t6] at hv
 have he':f.eval sz = .int kd n:=by
  generalize f.eval sz=v at hv
  cases hv
  rfl
 have hnb:¬σ.born s.h.n:=fun hb=>Nat.lt_irrefl _ (A.rel.fresh _ hb)
 refine (Iq (v:=.chan (some s.h.n)) (v' :=.chan (some w'.heap.size)) (obj:=.chan cap #[] false 0 0 false) A hat (hk.lt S.lt) t2 t3 (fun q hq=>by rw [t5] at hq;cases hq) (fun d₁ ah=>?_) t11 t12 (.chan ⟨.inl rfl,bU⟩)).mono ?_
 ·rw [←t10]
  exact run_makeChan t5 he' t7 t8 t9 ah
 ·rintro m t ⟨h1,h2,h3,h4⟩
  subst t13
  refine ⟨_,_,_,w'.heap.size,hle.trans h1,h4,hk.trans ⟨fun b hb=>?_,by simp,.rfl,rfl⟩,h2,h3,by show (w'.heap.push _)[w'.heap.size]? = _;simp,fun b hb=>?_⟩
  ·have:=hk.lt S.lt b hb
   simp only [World.alloc]
   rw [Array.getElem?_push,if_neg (by omega)]
  ·have:=hk.lt S.lt b hb
   omega
theorem St.group[aI P]{s':AS}(S:St P base W U Z N ρ s g w m t)(k:JR P L s s') :
  aA P bJ (fun m t=>∃(σ:Env) (g':Goroutine) (w':World) (wg:Nat),ρ.Le σ∧St P base W (fun b=>U b∨b=wg) (fun b=>Z b∨b=wg) N σ s' g' w' m t∧Keep Z w w' ∧ σ.born s.h.n∧σ.to s.h.n=(wg,0)∧WgAt L.tWg wg w' 0 0∧∀b,Z b→b≠wg) m t:=by
 obtain ⟨hrun,ops,i,l,k,o,z,a',t1,t2,t3,t5,t6,t7,t11,t12,t13⟩:=k
 refine (S.JQ (c:=[]) hrun t1).bind ?_
 rintro m t ⟨σ,lo,f,cs,w',hle,A,hat,hk⟩
 have hnb:¬σ.born s.h.n:=fun hb=>Nat.lt_irrefl _ (A.rel.fresh _ hb)
 have hvp:VR (σ.add s.h.n (w'.heap.size,0) False 0 0) (.pointer (some ⟨s.h.n,0,none⟩)) (.pointer (some ⟨w'.heap.size,0,none⟩)):=by
  have e:(Value.pointer (some ⟨w'.heap.size,0,none⟩)) = .pointer (some ((σ.add s.h.n (w'.heap.size,0) False 0 0).addr ⟨s.h.n,0,none⟩)):=by
   simp only [Env.addr,bU]
  rw [e]
  exact .ptr (.inl rfl)
 refine (Iq (v:=.pointer (some ⟨s.h.n,0,none⟩)) (v' :=.pointer (some ⟨w'.heap.size,0,none⟩)) (obj:=.cells #[.int .u64 0,.int .u32 0] L.tWg (0,0)) A hat (hk.lt S.lt) t2 t3 (fun q hq=>by rw [t5] at hq;cases hq) (fun d₁ ah=>?_) t11 t12 hvp).mono ?_
 ·rw [←t7]
  exact AL t5 t6 ah
 ·rintro m t ⟨h1,h2,h3,h4⟩
  subst t13
  refine ⟨_,_,_,w'.heap.size,hle.trans h1,h4,hk.trans ⟨fun b hb=>?_,by simp,.rfl,rfl⟩,h2,h3,?_,fun b hb=>?_⟩
  ·have:=hk.lt S.lt b hb
   simp only [World.alloc]
   rw [Array.getElem?_push,if_neg (by omega)]
  ·show (w'.heap.push _)[w'.heap.size]? = _
   simp [Go.ConcR.wgBlock]
  ·have:=hk.lt S.lt b hb
   omega
end
end Go.Am
namespace Go.Am
open Go.Conc (born QuitsD G scase rcase)
open Go.Conc.Lib
open Go.ConcR (WgAt)
open Go.Ren (grow fM aO az Wk fH Idle ag X0 XS XM Lv jh fQ rF je hearing lH uT iJ M1 Anch Spawns kV At aA Keep full Own jv)
theorem lY{α β:Type}{f g:α→Option β}:∀ {l:List α},(∀a∈l,f a=g a)→l.filterMap f=l.filterMap g
 | [],_=>rfl
 |a :: l,h=>by
  rw [List.filterMap_cons,List.filterMap_cons,h a (by simp),lY fun x hx=>h x (List.mem_cons_of_mem _ hx)]
theorem O5{β:Type}(all:List (Option β)):(List.range all.length).filterMap (fun i=>(all[i]?).getD none)=all.filterMap id:=by
 have e:(List.range all.length).map (fun i=>(all[i]?).getD none)=all:=by
  apply List.ext_getElem
  ·simp
  ·intro i h1 h2
   simp [h2]
 conv=>rhs;rw [←e]
 rw [List.filterMap_map]
 rfl
theorem O6{β:Type}{all:List (Option β)}{order:List Nat}{vals:Nat→Option β}(h1:order.Nodup)(h2:∀i,i∈order↔i < all.length)(h3:∀i∈order,vals i=(all[i]?).getD none):(order.filterMap vals).Perm (all.filterMap id):=by
 rw [lY h3,←O5]
 refine List.Perm.filterMap _ ((List.perm_ext_iff_of_nodup h1 List.nodup_range).2 fun a=>?_)
 rw [h2,List.mem_range]
section
variable{P:Program}{ρ σ:Env}{O O' D:Nat→Prop}{W U Z:Nat→Prop}{N:Nat}{h h':AH}{w w':World}{mm:Bool}{base cs:List Frame}{a a':aF}{f:Frame}{lo hi:Nat}{ops:Array Oper}{i:Nat}{o:Oper}{s s₀:AS}{pl:bz}{g:Goroutine}
 {L:WgLink} {wg ch gb cb j:Nat} {R:AS→Prop} {bJ:Machine→Outcome→World→Trace→Prop} {m:Machine} {t:Trace}
theorem Rel.all(r:Rel ρ O D h w)(hO:∀b,O b∨D b→O' b):Rel ρ O' (fun _=>False) h w:=by
 refine r.sub (Nat.le_refl _) (fun b B hb=>⟨B,hb,rfl,rfl,rfl,fun e=>⟨e,fun x=>hO _ (.inl x)⟩,fun x=>.inl (hO _ x)⟩) (fun b B hb=>⟨B,hb,rfl⟩) (fun f l hf=>⟨l,hf,List.Sublist.refl _⟩) fun f l b hf hb=>(r.mem f l hf b hb).2
theorem At.N1(h:At P W U Z N j g w m t):1≤N:=by
 obtain ⟨ls,gs,w₁,sl,rfl,hal⟩:=h
 exact hal.hN
end
end Go.Am
namespace Go.Ren
open Go.Conc hiding Goes mem_ofEvents Deaf
open Go.ConcN (WgLive)
open Go.Conc.Lib (WgLink)
open Go.ConcR (KK WgAt stA smA rd wr mk)
section
variable{P:Program}{m:Bool}{I:World→Prop}{X:Event→Prop}{D F O O':Nat→Prop}{d:Nat}{g:Goroutine}{w w' w₀:World}{L:WgLink}{Wg Ch n r i:Nat}
structure Fr(F D O:Nat→Prop)(w₀ w:World):Prop where
 f:∀b,F b→b < w.heap.size∧¬O b
 d:∀b,D b→b < w.heap.size∧¬O b
 o:∀b,O b→b < w.heap.size
 keep:∀b,F b→w.heap[b]? = w₀.heap[b]?
 size:w₀.heap.size≤w.heap.size
 os:Tm w₀.os w.os
 output:w.output=w₀.output
theorem Fr.rely(h:Fr F D O w₀ w)(r:az (fun b=>O b∨F b) D w w'):Fr F D O w₀ w' :=
 ⟨fun b hb=>⟨Nat.lt_of_lt_of_le (h.f b hb).1 r.size,(h.f b hb).2⟩,fun b hb=>⟨Nat.lt_of_lt_of_le (h.d b hb).1 r.size,(h.d b hb).2⟩,fun b hb=>Nat.lt_of_lt_of_le (h.o b hb) r.size,fun b hb=>(r.own b (.inr hb)).trans (h.keep b hb),Nat.le_trans h.size r.size,h.os.trans r.os,r.output.trans h.output⟩
theorem Fr.less(h:Fr F D O w₀ w):∀ {w₁},az (fun b=>O b∨F b) D w w₁→az O D w w₁:=fun r=>⟨r.size,fun b hb=>r.own b (.inl hb),r.ro,r.os,r.output,r.tape⟩
theorem Fr.guar{es:Array Event}(h:Fr F D O w₀ w)(hG:aO X O D w w' es):aO X (fun b=>O b∨F b) D w w' es∧Fr F D (grow O w w') w₀ w' :=by
 have keep:∀b,b < w.heap.size∧¬O b→b < w'.heap.size∧¬grow O w w' b:=fun b hb=>by
  have h3:=hG.size
  exact ⟨by omega,fun x=>x.elim hb.2 fun y=>by omega⟩
 refine ⟨⟨hG.size,fun c hc hn=>hG.heap c hc fun x=>hn (.inl x),hG.os,hG.output,hG.tape,fun e he=>(hG.ev e he).mono (Nat.le_refl _) fun b hb=>hb.imp .inl id⟩,fun b hb=>keep b (h.f b hb),fun b hb=>keep b (h.d b hb),fun b hb=>?_,fun b hb=>?_,Nat.le_trans h.size hG.size,h.os.trans (.of hG.os),hG.output.trans h.output⟩
 ·rcases hb with hb|hb
  ·exact Nat.lt_of_lt_of_le (h.o b hb) hG.size
  ·exact hb.2
 ·rw [hG.heap b (h.f b hb).1 (h.f b hb).2]
  exact h.keep b hb
theorem UO(O F:Nat→Prop)(w w':World):grow (fun b=>O b∨F b) w w' = fun b=>grow O w w' b∨F b:=by
 funext b
 apply propext
 unfold grow
 constructor
 ·rintro ((x|x)|x)
  ·exact .inl (.inl x)
  ·exact .inr x
  ·exact .inl (.inr x)
 ·rintro ((x|x)|x)
  ·exact .inl (.inl x)
  ·exact .inr x
  ·exact .inl (.inr x)
theorem fH.frame{S:Nat→(Nat→Prop)→Goroutine→World→Prop}(h:fH P m I X D S d O g w):Fr F D O w₀ w →
  fH P m I X D (fun d O' g' w'=>∃fU,S d fU g' w' ∧ (O' = fun b=>fU b∨F b)∧Fr F D fU w₀ w') d (fun b=>O b∨F b) g w:=by
 induction h with
 |stop h=>intro hF;exact .stop ⟨_,h,rfl,hF⟩
 | @step d O g w hs f u es h k ih=>
  intro hF
  refine .step hs f u es (fun w₁ hr hi=>?_) fun w₁ hr hi=>?_
  ·obtain ⟨h1,h2⟩:=h w₁ (hF.less hr) hi
   exact ⟨h1,((hF.rely hr).guar h2).1⟩
  ·obtain ⟨_,h2⟩:=h w₁ (hF.less hr) hi
   have:=ih w₁ (hF.less hr) hi ((hF.rely hr).guar h2).2
   rw [UO]
   exact this
variable{Sent:Nat→(Nat→Prop)→(Nat→Prop)→Option Value→World→Prop}{Fin:(Nat→Prop)→(Nat→Prop)→Goroutine→World→Prop}{Nx Nx':(Nat→Prop)→(Nat→Prop)→Goroutine→World→Prop}
def uV(F:Nat→Prop)(w₀:World)(Fin:(Nat→Prop)→(Nat→Prop)→Goroutine→World→Prop)(D O:Nat→Prop)(g:Goroutine)(w:World):Prop:=∃fU,Fin D fU g w∧(O=fun b=>fU b∨F b)∧Fr F D fU w₀ w
theorem uV.rely(hF:∀D O g w w',Fin D O g w→az O D w w' → Fin D O g w'):∀D O g w w',uV F w₀ Fin D O g w→az O D w w' → uV F w₀ Fin D O g w' :=by
 rintro D O g w w' ⟨fU,h1,rfl,h3⟩ r
 exact ⟨fU,hF _ _ _ _ _ h1 (h3.less r),rfl,h3.rely r⟩
theorem uT.frame(hN:∀D O g w,Nx D O g w→Fr F D O w₀ w→Nx' D (fun b=>O b∨F b) g w)(h:uT P L Wg Ch Sent I i Nx D d O g w)(hF:Fr F D O w₀ w):uT P L Wg Ch Sent I i Nx' D d (fun b=>O b∨F b) g w:=by
 obtain ⟨h1,h2,h3⟩:=h
 refine ⟨h1,h2,fun w₁ hr hi=>?_⟩
 obtain ⟨g',child,M,H,N,k1,k2,k3,k4,k5,k6⟩:=h3 w₁ (hF.less hr) hi
 have hF₁:=hF.rely hr
 refine ⟨g',child,M,H,N,k1,fun b hb=>.inl (k2 b hb),fun b hb=>⟨.inl (k3 b hb).1,(k3 b hb).2⟩,k4,k5,?_⟩
 have e:(fun b=>(O b∨F b)∧¬M b∧¬H b)=fun b=>(O b∧¬M b∧¬H b)∨F b:=by
  funext b
  apply propext
  constructor
  ·rintro ⟨h1|h1,h2⟩
   ·exact .inl ⟨h1,h2⟩
   ·exact .inr h1
  ·rintro (h|h)
   ·exact ⟨.inl h.1,h.2⟩
   ·exact ⟨.inr h,fun x=>(hF.f b h).2 (k2 b x),fun x=>(hF.f b h).2 (k3 b x).1⟩
 rw [e]
 refine hN _ _ _ _ k6 ⟨fun b hb=>⟨(hF₁.f b hb).1,fun x=>(hF₁.f b hb).2 x.1⟩,fun b hb=>?_,fun b hb=>hF₁.o b hb.1,hF₁.keep,hF₁.size,hF₁.os,hF₁.output⟩
 rcases hb with hb|hb
 ·exact ⟨(hF₁.d b hb).1,fun x=>(hF₁.d b hb).2 x.1⟩
 ·exact ⟨hF₁.o b (k2 b hb),fun x=>x.2.1 hb⟩
theorem Spawns.frame:∀(r:Nat) {D O:Nat→Prop} {g:Goroutine} {w:World},Spawns P L Wg Ch Sent I Fin n r D O g w→Fr F D O w₀ w→Spawns P L Wg Ch Sent I (uV F w₀ Fin) n r D (fun b=>O b∨F b) g w
 |0,D,O,g,w,h,hF=>by
  refine (fH.frame h hF).mono ?_
  rintro d O' g' w' ⟨fU,⟨gT,A,h1,h2,h3⟩,rfl,hF'⟩
  exact ⟨gT,A,h1,h2,fun w'' hr=>⟨fU,h3 w'' (hF'.less hr),rfl,hF'.rely hr⟩⟩
 |r+1,D,O,g,w,h,hF=>by
  refine (fH.frame h hF).mono ?_
  rintro d O' g' w' ⟨fU,⟨h1,h2,h3⟩,rfl,hF'⟩
  refine ⟨h1,h2,fun v hv=>?_⟩
  obtain ⟨g'',k1,k2⟩:=h3 v hv
  refine ⟨g'',k1,fun w'' hr=>?_⟩
  refine (fH.frame (k2 w'' (hF'.less hr)) (hF'.rely hr)).mono ?_
  rintro d O'' g₃ w₃ ⟨rW,h4,rfl,aeq⟩
  exact uT.frame (fun D O g w=>Spawns.frame r) h4 aeq
end
end Go.Ren
namespace Go.Am
open Go.Conc (born QuitsD G scase rcase)
open Go.Conc.Lib
open Go.ConcR (WgAt)
open Go.Ren (grow fM aO az Wk fH Idle ag X0 XS XM Lv jh fQ rF je hearing lH uT iJ M1 Anch Spawns kV At aA Keep full Own jv Fr uV)
structure Sd(P:Program)(base:List Frame)(F:Nat→Prop)(w₀:World)(W U Z:Nat→Prop)(N:Nat)(ρ:Env)(s:AS)(g:Goroutine)(w:World)(m:Machine)(t:Trace):Prop where
 st:St P base W U Z N ρ s g w m t
 wu:∀b,W b∨U b→Z b
 fz:∀b,F b→Z b
 JD:∀b,F b→¬(W b∨U b)
 keep:Keep F w₀ w
structure JE(F W Z:Nat→Prop)(ρ:Env)(w:World)(cb cap:Nat)(buf:List Value)(closed:Bool)(ch:Nat):Prop where
 nat:ρ.born cb
 to:ρ.to cb=(ch,0)
 heap:∃sn rc tm,w.heap[ch]? = some (.chan cap buf.toArray closed sn rc tm)
 z:Z ch
 f:¬F ch
 w:¬W ch
section
variable{P:Program}{ρ σ:Env}{O O' D:Nat→Prop}{F W U Z Z':Nat→Prop}{N:Nat}{h h':AH}{w w' w₀:World}{mm:Bool}{base cs:List Frame}{a a':aF}{f:Frame}{lo hi:Nat}{ops:Array Oper}{i:Nat}{o:Oper}{s s' s₀:AS}{pl:bz}{g g':Goroutine}
 {L:WgLink} {wg ch gb cb j cap:Nat} {buf:List Value} {cl:Bool} {R:AS→Prop} {bJ:Machine→Outcome→World→Trace→Prop} {m:Machine} {t:Trace}
theorem JE.step(c:JE F W Z ρ w cb cap buf cl ch)(hle:ρ.Le σ)(hk:Keep Z w w')(hZ:∀b,Z b→Z' b):JE F W Z' σ w' cb cap buf cl ch:=
 ⟨hle.born _ c.nat,(hle.to _ c.nat).trans c.to,let ⟨sn,rc,tm,e⟩:=c.heap;⟨sn,rc,tm,(hk.1 ch c.z).trans e⟩,hZ _ c.z,c.f,c.w⟩
theorem Sd.Ir(S:Sd P base F w₀ W U Z N ρ s g w m t)(hk:Keep Z w w'):Keep F w₀ w' :=S.keep.trans (hk.mono S.fz)
theorem Sd.reach[aI P]{K:AS→Prop}(S:Sd P base F w₀ W U Z N ρ s g w m t)(k:bn P pl K s) :
  aA P bJ (fun m t=>∃(σ:Env) (s':AS) (g':Goroutine) (w':World),K s' ∧ ρ.Le σ∧Sd P base F w₀ W U Z N σ s' g' w' m t∧Keep Z w w') m t:=by
 refine (S.st.reach k).mono ?_
 rintro m t ⟨σ,s',g',w',k1,k2,k3,k4⟩
 exact ⟨σ,s',g',w',k1,k2,⟨k3,S.wu,S.fz,S.JD,S.Ir k4⟩,k4⟩
theorem Sd.make[aI P]{cap:Nat}{s':AS}(S:Sd P base F w₀ W U Z N ρ s g w m t)(k:QZ P cap s s') :
  aA P bJ (fun m t=>∃(σ:Env) (g':Goroutine) (w':World) (ch:Nat),ρ.Le σ∧Sd P base F w₀ W (fun b=>U b∨b=ch) (fun b=>Z b∨b=ch) N σ s' g' w' m t∧Keep Z w w' ∧ JE F W (fun b=>Z b∨b=ch) σ w' s.h.n cap [] false ch) m t:=by
 refine (S.st.make k).mono ?_
 rintro m t ⟨σ,g',w',ch,k1,k2,k3,k4,k5,k6,k7⟩
 refine ⟨σ,g',w',ch,k1,⟨k2,?_,fun b hb=>.inl (S.fz b hb),?_,S.Ir k3⟩,k3,⟨k4,k5,⟨0,0,false,k6⟩,.inr rfl,fun hf=>k7 ch (S.fz ch hf) rfl,fun hw=>k7 ch (S.wu ch (.inl hw)) rfl⟩⟩
 ·rintro b (hb|hb|hb)
  ·exact .inl (S.wu b (.inl hb))
  ·exact .inl (S.wu b (.inr hb))
  ·exact .inr hb
 ·rintro b hf (hb|hb|hb)
  ·exact S.JD b hf (.inl hb)
  ·exact S.JD b hf (.inr hb)
  ·exact k7 b (S.fz b hf) hb
theorem Sd.group[aI P]{s':AS}(S:Sd P base F w₀ W U Z N ρ s g w m t)(k:JR P L s s') :
  aA P bJ (fun m t=>∃(σ:Env) (g':Goroutine) (w':World) (wg:Nat),ρ.Le σ∧Sd P base F w₀ W (fun b=>U b∨b=wg) (fun b=>Z b∨b=wg) N σ s' g' w' m t∧Keep Z w w' ∧ σ.born s.h.n∧σ.to s.h.n=(wg,0)∧WgAt L.tWg wg w' 0 0∧∀b,Z b→b≠wg) m t:=by
 refine (S.st.group k).mono ?_
 rintro m t ⟨σ,g',w',wg,k1,k2,k3,k4,k5,k6,k7⟩
 refine ⟨σ,g',w',wg,k1,⟨k2,?_,fun b hb=>.inl (S.fz b hb),?_,S.Ir k3⟩,k3,k4,k5,k6,k7⟩
 ·rintro b (hb|hb|hb)
  ·exact .inl (S.wu b (.inl hb))
  ·exact .inl (S.wu b (.inr hb))
  ·exact .inr hb
 ·rintro b hf (hb|hb|hb)
  ·exact S.JD b hf (.inl hb)
  ·exact S.JD b hf (.inr hb)
  ·exact k7 b (S.fz b hf) hb
theorem UQ(hF:∀b,F b→Z b)(hlt:∀b,Z b→b < w.heap.size):full (fun b=>Z b∧¬F b) w=fun b=>full Z w b∨F b:=by
 funext b
 apply propext
 unfold full
 constructor
 ·rintro ⟨h1,h2⟩
  by_cases hf:F b
  ·exact .inr hf
  ·exact .inl ⟨h1,fun hz=>h2 ⟨hz,hf⟩⟩
 ·rintro (h|h)
  ·exact ⟨h.1,fun x=>h.2 x.1⟩
  ·exact ⟨hlt b (hF b h),fun x=>x.2 h⟩
theorem Sd.phase[aI P]{all:List (Option Value)}{Fin:AS→Prop}(H:xY P L)(S:Sd P base F w₀ W U Z N ρ s g w m t)(hUc:U ch)(hUg:U wg)(hne:wg≠ch)(hgb:ρ.born gb∧ρ.to gb=(wg,0))(hwg:WgAt L.tWg wg w 0 0)(hch:JE F W Z ρ w cb cap [] false ch)(hcap:all.length≤cap)(hn:all.length < 2147483647)(k:kX P pl L gb cb Fin all s) :
  aA P bJ (fun m t=>∃(σ:Env) (s':AS) (g':Goroutine) (w':World) (W' Z':Nat→Prop) (N':Nat) (buf:List Value),Fin s' ∧ ρ.Le σ∧Sd P base F w₀ W' (fun _=>False) Z' N' σ s' g' w' m t∧buf.Perm (all.filterMap id)∧JE F W' Z' σ w' cb cap buf false ch) m t:=by
 have hs:=AB (Wg:=wg) (Ch:=ch) (I:=kV L wg ch cap) (wo:=ρ) (all:=all) (D:=fun _=>False) (n:=all.length) H ⟨w,0,0,hwg⟩ (fun w h=>h.1) all (by simp) (Nat.le_refl _) rfl k S.st.QJ (.refl ρ) hgb.1 hgb.2 ⟨hch.nat,hch.to⟩
 have hfr:Fr F (fun _=>False) (full Z w) w₀ w:=⟨fun b hb=>⟨S.st.lt b (S.fz b hb),fun x=>x.2 (S.fz b hb)⟩,fun b hb=>hb.elim,fun b hb=>hb.1,S.keep.1,S.keep.2.1,S.keep.2.2.1,S.keep.2.2.2⟩
 have hs' :=Go.Ren.Spawns.frame _ hs hfr
 rw [←UQ S.fz S.st.lt] at hs'
 have hat:=(S.st.at_.alone).drop (Z' :=fun b=>Z b∧¬F b) fun b hb=>⟨S.wu b hb,fun hf=>S.JD b hf hb⟩
 obtain ⟨sn,rc,tm,hheap⟩:=hch.heap
 have hS:Go.Ren.dY (Cm all):=fun i O D v w w' h _=>h
 refine (Go.Ren.At.phase (cap:=cap) hS (uV.rely xX.rely) hcap hn hUg hUc hne hs' hwg ⟨sn,rc,tm,hheap⟩ hat).mono ?_
 rintro m t ⟨w',gT,O,D,order,vals,sn',rc',tm',hat,⟨fU,⟨σ,s',hF,hle,Iu⟩,hO,Iw⟩,hown,h1,h2,h3,h4⟩
 have hN:=At.N1 hat
 have hO0:∀b,fU b→O 0 b:=fun b hb=>by rw [hO];exact .inl hb
 have hf0:∀b,F b→O 0 b:=fun b hb=>by rw [hO];exact .inr hb
 have hFU:∀b,F b→¬((W b∨b=wg)∨(U b∧b≠wg)):=fun b hb=>hown.ow 0 b (by omega) (hf0 b hb)
 refine ⟨σ,s',gT,w',fun b=>W b∨b=wg,fun b=>((W b∨b=wg)∨(U b∧b≠wg))∨F b,_,order.filterMap vals,hF,hle,⟨⟨hat.drop fun b hb=>.inl (.inl hb),⟨Iu.run,Iu.rel.all fun b hb=>?_⟩,fun b hb=>?_⟩,?_,fun b hb=>.inr hb,?_,?_⟩,O6 h1 h2 h4,?_⟩
 ·rcases hb with hb|hb
  ·exact ⟨Iw.o b hb,fun x=>x.elim (hown.ow 0 b (by omega) (hO0 b hb)) fun hf=>(Iw.f b hf).2 hb⟩
  ·exact ⟨(Iw.d b hb).1,fun x=>x.elim (hown.dw 0 b (by omega) hb) fun hf=>hown.od 0 0 b (by omega) (by omega) (hf0 b hf) hb⟩
 ·rcases hb with hb|hb
  ·exact hown.zU b hb
  ·exact (Iw.f b hb).1
 ·rintro b (hb|hb)
  ·exact .inl (.inl hb)
  ·exact hb.elim
 ·rintro b hf (hb|hb)
  ·exact hFU b hf (.inl hb)
  ·exact hb
 ·exact ⟨Iw.keep,Iw.size,Iw.os,Iw.output⟩
 ·exact ⟨hle.born _ hch.nat,(hle.to _ hch.nat).trans hch.to,⟨sn',rc',tm',h3⟩,.inl (.inr ⟨hUc,Ne.symm hne⟩),hch.f,fun x=>x.elim hch.w fun e=>hne e.symm⟩
end
end Go.Am
namespace Go.Am
open Go.Conc (born QuitsD G scase rcase)
open Go.Conc.Lib
open Go.ConcR (WgAt)
open Go.Ren (grow fM aO az Wk fH Idle ag X0 XS XM Lv jh fQ rF je hearing lH uT iJ M1 Anch Spawns kV At aA Keep full Own jv Fr uV)
section
variable{P:Program}{ρ σ:Env}{O O' D:Nat→Prop}{F W U Z Z':Nat→Prop}{N:Nat}{h h':AH}{w w' w₀:World}{mm:Bool}{base cs:List Frame}{a a':aF}{f:Frame}{lo hi:Nat}{ops:Array Oper}{i:Nat}{o:Oper}{s s' s₀:AS}{pl:bz}{g g':Goroutine}
 {L:WgLink} {wg ch gb cb j cap:Nat} {buf:List Value} {cl:Bool} {R:AS→Prop} {bJ:Machine→Outcome→World→Trace→Prop} {m:Machine} {t:Trace}
structure Q3(P:Program)(cb:Nat)(s s':AS):Prop where
 run:s.fr.ret=false
 at_:∃ops i l k o x ats a',s.fr.todo = .region ops (i :: l) :: k∧ops[i]? = some o∧Region.wanted o (yielded ops s.fr.tmps)=true∧bf o=true∧o.op = .call { callee:=.builtin .close,args:=#[x],argTypes:=ats }∧af s.fr.tmps x = .chan (some cb) ∧
  (P.funcs[s.fr.fn]?).any (·.norace)=false∧au P s.fr s.h (.tuple #[])=some a' ∧ s' = ⟨a',s.cs,s.h⟩
theorem O7{e:Operand→Value}{x:Operand}{ats:Array TypeId}{c sn rc:Nat}{buf:Array Value}{tm:Bool}(hop:o.op = .call { callee:=.builtin .close,args:=#[x],argTypes:=ats })(he:e x = .chan (some c))(hc:w.heap[c]? = some (.chan cap buf false sn rc tm)) :
  ∀ah,(execOp e o).runT P w ah=(.ok (.value (.tuple #[])) (w.setChan c cap buf true sn rc tm),ah ++ #[⟨.obj c,false,true⟩,⟨.obj c,true,true⟩]):=by
 intro ah
 rw [Sem.runT_eq]
 unfold execOp
 simp only [hop]
 have e1:=run_close_open (P:=P) ats o.type hc
 have e2:∀es,_:=fun es=>events_close_open (P:=P) (es:=es) ats o.type hc
 simp [go_sem,he,e1,e2,World.setChan]
 apply Array.ext' ;simp
theorem AO{c:Nat}{buf:Array Value}{cl:Bool}{sn rc:Nat}{tm:Bool}{Z:Nat→Prop}(hz:∀b,Z b→b≠c):Keep Z w (w.setChan c cap buf cl sn rc tm):=
 ⟨fun b hb=>by simp only [World.setChan];rw [Array.getElem?_setIfInBounds_ne (Ne.symm (hz b hb))],by simp [World.setChan],.rfl,rfl⟩
theorem AP{c:Nat}{buf:Array Value}{cl:Bool}{sn rc:Nat}{tm:Bool}{x:Obj}(h:w.heap[c]? = some x):(w.setChan c cap buf cl sn rc tm).heap[c]? = some (.chan cap buf cl sn rc tm):=by
 simp only [World.setChan]
 rw [Array.getElem?_setIfInBounds_self_of_lt (Array.getElem?_eq_some_iff.1 h).1]
theorem AQ{c:Nat}{buf:Array Value}{cl:Bool}{sn rc:Nat}{tm:Bool}:full Z (w.setChan c cap buf cl sn rc tm)=full Z w:=by
 unfold full
 have:(w.setChan c cap buf cl sn rc tm).heap.size=w.heap.size:=by simp [World.setChan]
 rw [this]
theorem AU{c:Nat}{buf:Array Value}{cl:Bool}{sn rc:Nat}{tm:Bool}(hz:Z c):az (full Z w) (fun _=>False) w (w.setChan c cap buf cl sn rc tm):=
 ⟨by simp [World.setChan],fun b hb=>by
  have hne:c≠b:=fun e=>hb.2 (by rw [←e];exact hz)
  simp only [World.setChan]
  rw [Array.getElem?_setIfInBounds_ne hne],fun b hb=>hb.elim,.rfl,rfl,rfl⟩
theorem Sd.JQ[aI P]{c:List Nat}(S:Sd P base F w₀ W U Z N ρ s g w m t)(hrun:s.fr.ret=false){l:List Nat}{k:List aK}(ht:s.fr.todo = .region ops (i :: l) :: k) :
  aA P bJ (fun m t=>∃(σ:Env) (lo:Nat) (f:Frame) (cs:List Frame) (w':World),ρ.Le σ∧tH P σ lo s ops i f cs (full Z w') (fun _=>False) w' ∧ At P W U Z N 0 (cO f (cs ++ base)) w' m t∧Keep Z w w' ∧ Keep F w₀ w' ∧ ∀b,Z b→b < w'.heap.size) m t:=by
 refine (S.st.JQ (c:=c) hrun ht).mono ?_
 rintro m t ⟨σ,lo,f,cs,w',k1,k2,k3,k4⟩
 exact ⟨σ,lo,f,cs,w',k1,k2,k3,k4,S.Ir k4,k4.lt S.st.lt⟩
theorem Sd.close[aI P](S:Sd P base F w₀ W (fun _=>False) Z N ρ s g w m t)(hc:JE F W Z ρ w cb cap buf false ch)(k:Q3 P cb s s') :
  aA P bJ (fun m t=>∃(σ:Env) (g':Goroutine) (w':World),ρ.Le σ∧Sd P base F w₀ W (fun _=>False) Z N σ s' g' w' m t∧JE F W Z σ w' cb cap buf true ch) m t:=by
 obtain ⟨hrun,ops,i,l,k,o,x,ats,a',t1,t2,t3,t4,t5,t6,t7,t8,t9⟩:=k
 refine (S.JQ (c:=[]) hrun t1).bind ?_
 rintro m t ⟨σ,lo,f,cs,w',hle,A,hat,hk,hkF,hlt⟩
 have hv:=A.kW o t2 t4 x (by rw [t5];simp [Op.operands,Call.operands])
 rw [t6] at hv
 have hc' :=hc.step hle hk (fun b hb=>hb)
 have he:f.eval x = .chan (some ch):=by
  generalize f.eval x=v at hv
  cases hv with
  |chan hb=>
   have:=hb.2
   rw [hc'.to] at this
   cases this
   rfl
 obtain ⟨sn,rc,tm,hheap⟩:=hc'.heap
 obtain ⟨sr,kr,ht⟩:=A.todo
 have hw' :=A.wanted o t2
 rw [t3] at hw'
 have hfn:f.fn=s.fr.fn:=A.fs.base.fn
 have hst:∀d₁,stepG P true (cO f (cs ++ base)) (w'.at d₁) = .go (cO (f.finish (.tuple #[])) (cs ++ base)) ((w'.at d₁).setChan ch cap buf.toArray true sn rc tm) #[⟨.obj ch,false,true⟩,⟨.obj ch,true,true⟩]:=by
  intro d₁
  rw [bT A.run ht t2 hw' (fun q hq=>by rw [t5] at hq;cases hq)]
  have:=iK (cs:=cs ++ base) A.fs.base.ne (O7 (P:=P) (w:=w'.at d₁) (cap:=cap) (buf:=buf.toArray) (sn:=sn) (rc:=rc) (tm:=tm) t5 he hheap)
  rw [this,Go.Conc.seen_eq (by rw [hfn];exact t7) (by intro e he f;simp only [List.mem_toArray,List.mem_cons,List.not_mem_nil,or_false] at he;rcases he with rfl|rfl<;>simp)]
 refine ((Go.Ren.At.close rfl hst hheap ⟨hc.w,fun x=>x⟩ hat).mono ?_)
 intro m t hat'
 subst t9
 have Iu:=A.rely (AU (cap:=cap) (buf:=buf.toArray) (cl:=true) (sn:=sn) (rc:=rc) (tm:=tm) hc.z)
 refine ⟨σ,_,_,hle,⟨⟨hat'.drop S.wu,?_,fun b hb=>?_⟩,S.wu,S.fz,S.JD,hkF.trans (AO fun b hb e=>hc.f (e ▸ hb))⟩,hc'.nat,hc'.to,⟨sn,rc,tm,AP hheap⟩,hc'.z,hc'.f,hc'.w⟩
 ·rw [AQ]
  exact Iu.finish (.refl σ) (fun x _ hx=>hx) (Nat.le_refl _) (.tuple rfl fun i x y hx=>by simp at hx) Iu.rel t8
 ·have:(w'.setChan ch cap buf.toArray true sn rc tm).heap.size=w'.heap.size:=by simp [World.setChan]
  rw [this]
  exact hlt b hb
structure Zn(P:Program)(cb:Nat)(v:Value)(ok:Bool)(s s':AS):Prop where
 run:s.fr.ret=false
 at_:∃ops i l k o x ty dir elem z a',s.fr.todo = .region ops (i :: l) :: k∧ops[i]? = some o∧Region.wanted o (yielded ops s.fr.tmps)=true∧bf o=true∧o.op = .recv ty x true∧af s.fr.tmps x = .chan (some cb)∧P.underlying ty=some (.chan dir elem)∧zeroOf P elem=some z∧Plain z ∧
  (ok=false→v=z)∧Plain v∧au P s.fr s.h (.tuple #[v,.bool ok])=some a' ∧ s' = ⟨a',s.cs,s.h⟩
theorem Sd.recv[aI P]{v:Value}{ok:Bool}{buf':List Value}(S:Sd P base F w₀ W (fun _=>False) Z N ρ s g w m t)(hc:JE F W Z ρ w cb cap buf cl ch)(hb:(ok=true∧buf=v :: buf')∨(ok=false∧buf=[]∧buf' = []∧cl=true))(k:Zn P cb v ok s s') :
  aA P bJ (fun m t=>∃(σ:Env) (g':Goroutine) (w':World),ρ.Le σ∧Sd P base F w₀ W (fun _=>False) Z N σ s' g' w' m t∧JE F W Z σ w' cb cap buf' cl ch) m t:=by
 obtain ⟨hrun,ops,i,l,k,o,x,ty,dir,elem,z,a',t1,t2,t3,t4,t5,t6,t7,t8,t9,t10,t11,t12,t13⟩:=k
 refine (S.JQ (c:=[]) hrun t1).bind ?_
 rintro m t ⟨σ,lo,f,cs,w',hle,A,hat,hk,hkF,hlt⟩
 have hv:=A.kW o t2 t4 x (by rw [t5];simp [Op.operands])
 rw [t6] at hv
 have hc' :=hc.step hle hk (fun b hb=>hb)
 have he:f.eval x = .chan (some ch):=by
  generalize f.eval x=y at hv
  cases hv with
  |chan hb=>
   have:=hb.2
   rw [hc'.to] at this
   cases this
   rfl
 obtain ⟨sn,rc,tm,hheap⟩:=hc'.heap
 obtain ⟨sr,kr,ht⟩:=A.todo
 have hw' :=A.wanted o t2
 rw [t3] at hw'
 have hst:∀d₁,stepG P true (cO f (cs ++ base)) (w'.at d₁) = .comm (cO f (cs ++ base)) #[rcase ch z] true (.recv true) (w'.at d₁) #[]:=by
  intro d₁
  rw [bT A.run ht t2 hw' (fun q hq=>by rw [t5] at hq;cases hq)]
  have hex:∀ah,(execOp f.eval o).runT P (w'.at d₁) ah=(.ok (.comm #[rcase ch z] true (.recv true)) (w'.at d₁),ah ++ #[]):=by
   intro ah
   have:execOp f.eval o=(underlying ty >>= fun d=>match d with
    | .chan _ elem=>(zeroValue elem) >>= fun z=>Pure.pure (Next.comm #[{ chan:=f.eval x,send:=none,zero:=z }] true (.recv true))
    |_=>stuck "receive: channel type expected"):=by
    unfold execOp
    rw [t5]
    rfl
   obtain ⟨inf,hi,hz⟩:∃inf,P.info? elem=some inf∧inf.zero=some z:=by
    unfold zeroOf at t8
    cases hi:P.info? elem with
    |none=>rw [hi] at t8;cases t8
    |some inf=>rw [hi] at t8;exact ⟨inf,rfl,t8⟩
   rw [this,he,(oW t7).run]
   dsimp only
   rw [(xx hi hz).run]
   simp [-Sem.runT_eq,Sem.runT,Pure.pure,rcase]
  obtain ⟨h1,h2⟩:=rX hex
  have hkind:=ji A.fs.base.ne
  simp [stepG.apply,h1,h2,hkind,GStep.after,cO,seen]
 subst t13
 have hplain:VR σ (.tuple #[v,.bool ok]) (.tuple #[v,.bool ok]):=lZ (Plain.vr t11 σ) (.bool _)
 have fin:∀(sn' rc':Nat) (tm':Bool) (b:List Value) {m t},At P W (fun _=>False) Z N 0 (cO (f.finish (.tuple #[v,.bool ok])) (cs ++ base)) (w'.setChan ch cap b.toArray cl sn' rc' tm') m t →
   ∃(τ:Env) (g':Goroutine) (w₁:World),ρ.Le τ∧Sd P base F w₀ W (fun _=>False) Z N τ ⟨a',s.cs,s.h⟩ g' w₁ m t∧JE F W Z τ w₁ cb cap b cl ch:=by
  intro sn' rc' tm' b m t hat'
  have Iu:=A.rely (AU (cap:=cap) (buf:=b.toArray) (cl:=cl) (sn:=sn') (rc:=rc') (tm:=tm') hc.z)
  refine ⟨σ,_,_,hle,⟨⟨hat',?_,fun b hb=>?_⟩,S.wu,S.fz,S.JD,hkF.trans (AO fun b hb e=>hc.f (e ▸ hb))⟩,hc'.nat,hc'.to,⟨sn',rc',tm',AP hheap⟩,hc'.z,hc'.f,hc'.w⟩
  ·rw [AQ]
   exact Iu.finish (.refl σ) (fun x _ hx=>hx) (Nat.le_refl _) hplain Iu.rel t12
  ·simp only [World.setChan,Array.size_setIfInBounds]
   exact hlt _ hb
 rcases hb with ⟨rfl,rfl⟩|⟨rfl,rfl,rfl,rfl⟩
 ·refine (Go.Ren.At.QN rfl hst hheap (by simp) hat).mono ?_
  intro m t hat'
  refine fin sn (rc+1) tm buf' ?_
  have e1:((v :: buf').toArray.getD 0 undef)=v:=by simp
  have e2:((v :: buf').toArray.extract 1 (v :: buf').toArray.size)=buf'.toArray:=by simp
  rw [e1,e2] at hat'
  exact hat'
 ·refine (Go.Ren.At.Ik rfl hst hheap hat).mono ?_
  intro m t hat'
  have hvz:=t10 rfl
  subst hvz
  have hsame:w'.setChan ch cap (#[]:Array Value) true sn rc tm=w' :=by
   obtain ⟨hlt,hx⟩:=Array.getElem?_eq_some_iff.1 hheap
   have:w'.heap.setIfInBounds ch (.chan cap #[] true sn rc tm)=w'.heap:=by
    rw [Array.setIfInBounds,dif_pos hlt,←hx]
    exact Array.set_getElem_self _
   simp only [World.setChan,this]
  refine fin sn rc tm [] ?_
  show At P W (fun _=>False) Z N 0 _ (w'.setChan ch cap #[] true sn rc tm) m t
  rw [hsame]
  exact hat'
end
end Go.Am
