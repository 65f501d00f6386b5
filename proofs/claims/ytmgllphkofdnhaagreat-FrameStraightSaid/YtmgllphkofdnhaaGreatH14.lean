import Derived.Test.YtmgllphkofdnhaaGreatH10
import Derived.Test.YtmgllphkofdnhaaGreatH11
import Derived.Test.YtmgllphkofdnhaaGreatH13
set_option linter.unusedVariables false
set_option linter.unusedSectionVars false
set_option linter.unusedSimpArgs false
namespace Go.Ren
open Go.Conc hiding Goes mem_ofEvents Deaf
open Go.ConcN (upd upd_same upd_ne)
open Go.Conc.Lib (WgLink)
open Go.ConcR (WgAt stA smA rd wr g_of_ofEvents loc_of_ofEvent)
section
variable{P:Program}{W U Z:Nat→Prop}{N:Nat}{d:Nat}{g g' g₂:Goroutine}{w w':World}{x0:Pos}{ls:Nat→Pos}{gs:Array Goroutine}{sl:Option (Nat×Nat)}{m:Machine}{t:Trace}{FinP:Machine→Outcome→World→Trace→Prop}
theorem At.undraw{d₁:Nat}(h:At P W U Z N d g (w.at d₁) m t):At P W U Z N d g w m t:=by
 obtain ⟨ls,gs,w₁,sl,rfl,hal⟩:=h
 exact ⟨ls,gs,w₁,sl,rfl,hal.hN,hal.size,hal.main,rfl,(let ⟨d',e⟩:=hal.same;⟨d',by rw [e];rfl⟩),hal.deaf,hal.lv,hal.ti,hal.own,hal.unt,hal.wu,hal.norel⟩
theorem At.idle{X:Event→Prop}{I:World→Prop}{S:Nat→Goroutine→Prop}(hX:XAl W X)(hI:∀d₁,I (w.at d₁))(h:IdleD P true I X S d g):∀ {m:Machine} {t:Trace},At P W U Z N d g w m t→Leads P FinP (fun m t=>∃d' g',S d' g' ∧ At P W U Z N d' g' w m t) m t:=by
 induction h with
 |stop h=>intro m t hat;exact .here ⟨_,_,h,hat⟩
 | @step d g hs f es h k ih=>
  rintro m t ⟨ls,gs,w₁,sl,rfl,hal⟩
  refine Leads.bind (K:=fun m t=>∃w₂,I w₂∧At P W U Z N (deafBehind d (es w₂)) (f w₂) w m t) ?_ ?_
  ·refine hal.turn (J:=fun _=>True) hs trivial (fun _ _ _=>trivial) fun ls gs w₁ sl t h' _=>.inl ?_
   obtain ⟨d₁,hw⟩:=h'.same
   have hw':w₁=w.at d₁:=hw
   subst hw'
   obtain ⟨hgo,hev⟩:=h _ (hI d₁)
   have hG:Guar X (full Z w) (fun _=>False) (w.at d₁) (w.at d₁) (es (w.at d₁)):=⟨Nat.le_refl _,fun _ _ _=>rfl,rfl,rfl,rfl,fun e he=>.inl (hev e he)⟩
   obtain ⟨gs',ops,a1,a2⟩:=h'.own_step (sl:=sl) hX (x' :=⟨full Z w,fun _=>False,deafBehind d (es (w.at d₁)),f (w.at d₁),w.at d₁⟩) hgo hG rfl (grow_same _ _).symm rfl rfl
   exact ⟨_,ops,a1,w.at d₁,hI d₁,At.undraw (d₁:=d₁) ⟨ls,gs',_,sl,rfl,a2⟩⟩
  ·rintro m t ⟨w₂,hi,hat⟩
   exact ih w₂ hi hat
theorem At.fresh{o:Obj}(hr:g.status = .running)(hgo:∀d₁,stepG P true g (w.at d₁) = .go g' ((w.at d₁).alloc o) #[])(h:At P W U Z N d g w m t) :
  Leads P FinP (At P W (fun b=>U b∨b=w.heap.size) (fun b=>Z b∨b=w.heap.size) N d g' (w.alloc o)) m t:=by
 obtain ⟨ls,gs,w₁,sl,rfl,hal⟩:=h
 refine (hal.fresh (J:=fun w₁=>∃d₁,w₁=w.at d₁) hr hal.same (fun w' d' ⟨d₁,e⟩=>⟨d',by rw [e];rfl⟩) fun w₁ _ ⟨d₁,e⟩=>by rw [e];exact hgo d₁).mono ?_
 rintro m t ⟨w₂,ls,gs,sl,rfl,⟨d₁,rfl⟩,_,hal'⟩
 have hs:(w.alloc o).heap.size=w.heap.size+1:=by simp
 have e:full Z w=full (fun b=>Z b∨b=w.heap.size) (w.alloc o):=by
  funext b
  apply propext
  unfold full
  rw [hs]
  constructor
  ·rintro ⟨h1,h2⟩
   exact ⟨by omega,fun h=>h.elim h2 (by omega)⟩
  ·rintro ⟨h1,h2⟩
   have:b≠w.heap.size:=fun e=>h2 (.inr e)
   exact ⟨by omega,fun h=>h2 (.inl h)⟩
 have h2:=hal'
 dsimp only at h2
 rw [e] at h2
 exact ⟨ls,gs,_,sl,rfl,h2.hN,h2.size,h2.main,rfl,⟨d₁,rfl⟩,h2.deaf,h2.lv,h2.ti,h2.own,h2.unt,h2.wu,h2.norel⟩
end
end Go.Ren
namespace Go.Ren
open Go.Conc hiding mem_ofEvents Deaf
section
variable{P:Program}{W U Z Z':Nat→Prop}{N:Nat}{d:Nat}{FinP:Machine→Outcome→World→Trace→Prop}
def Keep(Z:Nat→Prop)(w w':World):Prop:=(∀b,Z b→w'.heap[b]? = w.heap[b]?)∧w.heap.size≤w'.heap.size∧Tm w.os w'.os∧w'.output=w.output
theorem Keep.refl{w:World}:Keep Z w w:=⟨fun _ _=>rfl,Nat.le_refl _,.rfl,rfl⟩
theorem Keep.trans{w w' w'':World}(h:Keep Z w w')(k:Keep Z w' w''):Keep Z w w'' :=⟨fun b hb=>(k.1 b hb).trans (h.1 b hb),Nat.le_trans h.2.1 k.2.1,h.2.2.1.trans k.2.2.1,k.2.2.2.trans h.2.2.2⟩
theorem Keep.mono{w w':World}(h:Keep Z w w')(hZ:∀b,Z' b→Z b):Keep Z' w w' :=⟨fun b hb=>h.1 b (hZ b hb),h.2⟩
theorem Keep.lt{w w':World}(h:Keep Z w w')(hZ:∀b,Z b→b < w.heap.size):∀b,Z b→b < w'.heap.size:=fun b hb=>Nat.lt_of_lt_of_le (hZ b hb) h.2.1
theorem At.wk2{S:(Nat→Prop)→Goroutine→World→Prop}{O:Nat→Prop}{g:Goroutine}{w:World}(hk:Wk P true (fun _=>True) X0 (fun _=>False) S O g w)(hZ:∀b,Z b→b < w.heap.size) :
  O=full Z w→∀ {m:Machine} {t:Trace},At P W U Z N d g w m t→Leads P FinP (fun m t=>∃g' w',At P W U Z N d g' w' m t∧S (full Z w') g' w' ∧ Keep Z w w') m t:=by
 induction hk with
 |stop h=>intro hO m t hat;exact .here ⟨_,_,hat,hO ▸ h,.refl⟩
 | @step O g w hs f u es h k ih=>
  rintro rfl m t ⟨ls,gs,w₁,sl,rfl,hal⟩
  have rel:∀d₁,Rely (full Z w) (fun _=>False) w (w.at d₁):=fun d₁=>⟨Nat.le_refl _,fun _ _=>rfl,fun _ _=>rfl,.rfl,rfl,rfl⟩
  refine Leads.bind (K:=fun m t=>∃d₁,At P W U Z N d (f (w.at d₁)) (u (w.at d₁)) m t∧grow (full Z w) (w.at d₁) (u (w.at d₁))=full Z (u (w.at d₁))∧Keep Z w (u (w.at d₁))) ?_ ?_
  ·refine hal.turn (J:=fun _=>True) hs trivial (fun _ _ _=>trivial) fun ls gs w₁ sl t h' _=>.inl ?_
   obtain ⟨d₁,hw⟩:=h'.same
   have hw':w₁=w.at d₁:=hw
   subst hw'
   obtain ⟨hst,hG⟩:=h (w.at d₁) (rel d₁) trivial
   have hd:deafBehind d (es (w.at d₁))=d:=deaf_still (fun e he=>(hG.ev e he).hearing fun x=>x.elim) d
   have hgr:grow (full Z w) (w.at d₁) (u (w.at d₁))=full Z (u (w.at d₁)):=full_grow (w:=w.at d₁) hZ hG.size
   obtain ⟨gs',ops,a1,a2⟩:=h'.own_step (sl:=sl) xal_none (x' :=⟨full Z (u (w.at d₁)),fun _=>False,d,f (w.at d₁),u (w.at d₁)⟩) hst hG hd.symm hgr.symm rfl rfl
   exact ⟨_,ops,a1,d₁,⟨ls,gs',u (w.at d₁),sl,rfl,a2⟩,hgr,fun b hb=>hG.heap b (hZ b hb) fun x=>x.2 hb,hG.size,.of hG.os,hG.output⟩
  ·rintro m t ⟨d₁,hat',hgr,hkeep⟩
   refine (ih (w.at d₁) (rel d₁) trivial (hkeep.lt hZ) hgr hat').mono ?_
   rintro m t ⟨g',w',k1,k2,k3⟩
   exact ⟨g',w',k1,k2,hkeep.trans k3⟩
theorem At.drop{g:Goroutine}{w:World}{m:Machine}{t:Trace}(hZ:∀b,Z b→Z' b)(h:At P W U Z N d g w m t):At P W U Z' N d g w m t:=by
 obtain ⟨ls,gs,w₁,sl,rfl,hal⟩:=h
 have hf:∀b,full Z' w b→full Z w b:=fun b hb=>⟨hb.1,fun x=>hb.2 (hZ b x)⟩
 have ho:∀i b,oneO (full Z' w) i b→oneO (full Z w) i b:=fun i b hb=>⟨hb.1,hf b hb.2⟩
 exact ⟨ls,gs,w₁,sl,rfl,hal.hN,hal.size,hal.main,rfl,hal.same,hal.deaf,hal.lv,hal.ti.less ho (fun _ _ x=>.inl x),
  ⟨fun i j b hi hj a c=>hal.own.oo i j b hi hj (ho _ _ a) (ho _ _ c),fun i j b hi hj a=>hal.own.od i j b hi hj (ho _ _ a),fun i b hi a=>hal.own.ow i b hi (ho _ _ a),hal.own.dw,fun i b hi a=>hal.own.olt i b hi (ho _ _ a),hal.own.dlt,hal.own.wlt⟩,hal.unt,hal.wu,hal.norel⟩
end
end Go.Ren
namespace Go.Am
open Go.Ren (grow EvO Guar Rely Wk At full X0 Leads Keep)
section
variable{P:Program}{W U Z:Nat→Prop}{N:Nat}{d:Nat}{FinP:Machine→Outcome→World→Trace→Prop}{pl:Plan}{Q:Value→AH→Prop}{s:AS}{ρ:Env}{g:Goroutine}{w:World}{b:Frame}{bs:List Frame}{m:Machine}{t:Trace}
theorem areach_at2[Zeros P]{K:AS→Prop}{base:List Frame}(hZ:∀b,Z b→b < w.heap.size)(k:AReach P pl K s)(S:Sim P ρ (full Z w) (fun _=>False) base s g w)(h:At P W U Z N d g w m t) :
  Leads P FinP (fun m t=>∃(σ:Env) (s':AS) (g':Goroutine) (w':World),K s' ∧ ρ.Le σ∧Sim P σ (full Z w') (fun _=>False) base s' g' w' ∧ At P W U Z N d g' w' m t∧Keep Z w w') m t:=by
 refine (At.wk2 (areach_wk (X:=X0) (I:=fun _=>True) (m:=true) k S) hZ rfl h).mono ?_
 rintro m t ⟨g',w',hat,⟨σ,s',k1,k2,k3⟩,hk⟩
 exact ⟨σ,s',g',w',k1,k2,k3,hat,hk⟩
end
end Go.Am
namespace Go.Ren
open Go.Conc hiding mem_ofEvents Deaf
section
variable{P:Program}{W U Z Z':Nat→Prop}{N:Nat}{d:Nat}{FinP:Machine→Outcome→World→Trace→Prop}{g g':Goroutine}{w:World}{m:Machine}{t:Trace}
theorem At.alone(h:At P W U Z N d g w m t):At P W U (fun b=>W b∨U b) N d g w m t:=by
 obtain ⟨ls,gs,w₁,sl,rfl,hal⟩:=h
 obtain ⟨d',e⟩:=hal.same
 have hsz:w₁.heap.size=w.heap.size:=by rw [e];rfl
 have hti:=hal.ti.alone fun k h1 h2=>(hal.lv k (by omega) h2).2.2.2
 refine ⟨ls,gs,w₁,sl,rfl,hal.hN,hal.size,hal.main,rfl,hal.same,hal.deaf,hal.lv,?_,?_,hal.unt,hal.wu,hal.norel⟩
 ·refine hti.less (fun i b hb=>?_) fun i b hb=>.inl hb
  obtain ⟨h1,h2,h3⟩:=hb
  exact ⟨h1,by rw [hsz];exact h2,fun x=>h3 (.inl x)⟩
 ·refine ⟨fun i j b hi hj a c=>a.1.trans c.1.symm,fun i j b hi hj a c=>c.elim,fun i b hi a x=>a.2.2 x,fun i b hi x=>x.elim,fun i b hi a=>by rw [hsz];exact a.2.1,fun i b hi x=>x.elim,hal.own.wlt⟩
end
end Go.Ren
