import Derived.Test.YtmgllphkofdnhaaGreatH31
set_option linter.unusedVariables false
set_option linter.unusedSectionVars false
set_option linter.unusedSimpArgs false
namespace Go.Mx
open Go.Ren
open Go.Conc hiding Goes mem_ofEvents
open Go.ConcN (sumTo upd upd_same upd_ne RelBy get_map_set get_map_set_same WgLive PermW)
open Go.Conc.Lib (WgLink)
open Go.ConcR (KK WgAt stA smA rd wr g_of_ofEvents loc_of_ofEvent)
theorem one_event(k:Nat)(fn:FuncId)(pos:String)(m:Mark):MemOp.ofEvents k fn pos #[Go.ConcR.mk m] = #[(⟨k,fn,pos,.mark m⟩:MemOp)]:=by rw [ofEvents_eq];simp [Go.ConcR.ofEvent_mk]
theorem idle_go{P:Program}{m:Bool}{I:World→Prop}{w:World}{S:Nat→Goroutine→Prop}{d:Nat}{g:Goroutine}(h:IdleD P m I X0 S d g)(hl:I w):S d g∨(¬S d g∧∃g',stepG P m g w = .go g' w #[]∧IdleD P m I X0 S d g'):=by
 by_cases hS:S d g
 ·exact .inl hS
 ·cases h with
  |stop h=>exact absurd h hS
  |step hs f es h k=>
   have h1:=h w hl
   have he:es w = #[]:=Array.eq_empty_iff_forall_not_mem.2 fun e he=>(h1.2 e he).1
   have h2:=k w hl
   rw [he] at h1 h2
   exact .inr ⟨hS,_,h1.1,h2⟩
theorem EffM.refl(Mu:Nat)(w:World):EffM Mu w w:=⟨rfl,fun _ _=>rfl,.rfl,rfl,rfl⟩
namespace Ph
variable{p:Ph}{W:Nat→Prop}{j:Nat}{tag:MTag}{x0:Pos}{bl:Bool}{wt:Nat→WT}{bw:Nat→Bool}{xs ls:Nat→Pos}{O D:Nat→Nat→Prop}{gs:Array Goroutine}{w w':World}{sl:Option (Nat×Nat)}{t:Trace}
def Nearer(p:Ph)(j:Nat)(wt:Nat→WT)(xs:Nat→Pos)(w:World)(i:Nat)(s':WT)(x':Pos)(w':World):Prop:=
 ∃m q m' q',MuAt p.tM p.Mu w m q∧m.Bits∧MuAt p.tM p.Mu w' m' q' ∧ m'.Bits∧(Phi j (fun k=>lkOf (upd wt i s' k)) q' < Phi j (fun k=>lkOf (wt k)) q ∨
  (m' = m∧Phi j (fun k=>lkOf (upd wt i s' k)) q' = Phi j (fun k=>lkOf (wt k)) q∧(rkW m s' < rkW m (wt i)∨(s' = wt i∧p.WNx i (wt i) x' (xs i)))))
def Moved(p:Ph)(W:Nat→Prop)(j:Nat)(tag:MTag)(x0:Pos)(wt:Nat→WT)(xs ls:Nat→Pos)(D:Nat→Nat→Prop)(t:Trace)(w:World)(i:Nat)(r:Stepped×Array MemOp)(sl:Option (Nat×Nat)):Prop:=
 ∃gs' w' bl' bw' s' x' O',r.1 = .next (crowd gs' w' sl)∧p.WSeat i s' x' ∧ Nearer p j wt xs w i s' x' w' ∧ p.MCo W j tag x0 bl' (upd wt i s') bw' (upd xs i x') ls O' D gs' w' (t ++ r.2)
theorem MCo.jn(h:p.MCo W j tag x0 bl wt bw xs ls O D gs w t):j≤p.n:=by
 have:=h.left
 cases tag<;>simp only [leftM] at this<;>omega
theorem md_to(h:p.MCo W j tag x0 bl wt bw xs ls O D gs w t){i:Nat}(hi:i < j){s':WT}(h5:5≤stN (wt i))(hs:stN s' = 8∨stN s' = 7∨stN s' = 5)(hw:w'.heap[p.Wg]? = w.heap[p.Wg]?):∃a b,WgAt p.L.tWg p.Wg w' a b∧Md j (fun k=>stN (upd wt i s' k)) tag a b:=by
 obtain ⟨a,b,m1,m2⟩:=h.md
 refine ⟨a,b,by unfold WgAt at m1 ⊢;rw [hw];exact m1,?_⟩
 rw [upd_fun]
 exact m2.counted hi h5 hs
theorem bl_to(h:p.MCo W j tag x0 bl wt bw xs ls O D gs w t){i:Nat}(hi:i < j){s':WT}(hs:2≤stN (wt i)→2≤stN s'):bl=true→∃k,k < j∧2≤stN (upd wt i s' k):=fun e=>by
 obtain ⟨_,k,h1,h2⟩:=h.blk e
 refine ⟨k,h1,?_⟩
 by_cases e:k=i
 ·subst e;rw [upd_same];exact hs h2
 ·rw [upd_ne wt _ e];exact h2
theorem lk_same{i:Nat}{s':WT}(he:lkOf s' = lkOf (wt i)):(fun k=>lkOf (upd wt i s' k))=fun k=>lkOf (wt k):=by
 rw [upd_fun lkOf]
 funext k
 by_cases e:k=i
 ·subst e;rw [upd_same];exact he
 ·rw [upd_ne _ _ e]
theorem mi_same(h:p.MCo W j tag x0 bl wt bw xs ls O D gs w t){i:Nat}{s':WT}{x':Pos}(he:lkOf s' = lkOf (wt i))(hw:w'.heap[p.Mu]? = w.heap[p.Mu]?) :
  ∃m q,MuAt p.tM p.Mu w' m q∧MI p.B j (fun k=>lkOf (upd wt i s' k)) m q∧(q=0∨(mayWake p.P (xs i).g=true∧x'.g.status = .running)∨∀k,k < j→bw k=false):=by
 obtain ⟨m,q,h1,h2,h3⟩:=h.mi
 refine ⟨m,q,by unfold MuAt at h1 ⊢;rw [hw];exact h1,by rw [lk_same he];exact h2,?_⟩
 rcases Nat.eq_zero_or_pos q with e|e
 ·exact .inl e
 ·refine .inr (.inr fun k hk=>?_)
  cases hb:bw k with
  |false=>rfl
  |true=>have:=h3 k hk hb;omega
theorem near_same(h:p.MCo W j tag x0 bl wt bw xs ls O D gs w t){i:Nat}{s':WT}{x':Pos}(he:lkOf s' = lkOf (wt i))(hw:w'.heap[p.Mu]? = w.heap[p.Mu]?)(hr:(∀m,rkW m s' < rkW m (wt i))∨(s' = wt i∧p.WNx i (wt i) x' (xs i))):Nearer p j wt xs w i s' x' w' :=by
 obtain ⟨m,q,h1,h2,_⟩:=h.mi
 refine ⟨m,q,m,q,h1,h2.bits,by unfold MuAt at h1 ⊢;rw [hw];exact h1,h2.bits,.inr ⟨rfl,by rw [lk_same he],hr.imp (fun x=>x m) id⟩⟩
theorem guar_eff{k:Nat}{es:Array Event}(hW:W p.Mu)(hlt:p.Mu < w.heap.size)(he:EffM p.Mu w w')(hes:∀e∈es,LibEv p.Mu e):GuarW (XOk W k) W (O k) (D k) w w' es:=
 ⟨by rw [he.size];exact Nat.le_refl _,fun c _ _ hc=>he.heap c fun e=>hc (e ▸ hW),he.os,he.output,he.tape,fun e h=>.inl (by have:=libEv_ok (k:=k) hW hlt (hes e h);exact ⟨this.1,by rw [he.size];exact this.2⟩)⟩
theorem MCo.quiet(h:p.MCo W j tag x0 bl wt bw xs ls O D gs w t){i:Nat}(hi:i < j)(hbi:bw i=false){g':Goroutine}{es:Array Event}{s':WT}
  (hgo:stepG p.P false (xs i).g w = .go g' w' es) (he:EffM p.Mu w w') (hes:∀e∈es,LibEv p.Mu e) (hseat:p.WSeat i s' { xs i with d:=deafBehind (xs i).d es,g:=g' }) (hh:holds s' ↔ holds (wt i)) (hea:early s' → early (wt i)) (hlkd:locking s' → p.locks i=true) (hph:phase s')
  (hp:p.locks i=true→(past s' ↔ past (wt i))) (hc:∀v,s' = .cr v↔wt i = .cr v) (h5:5≤stN (wt i)) (hs:stN s' = 8∨stN s' = 7)
  (hmi:∃m q,MuAt p.tM p.Mu w' m q∧MI p.B j (fun k=>lkOf (upd wt i s' k)) m q∧(q=0∨(mayWake p.P (xs i).g=true∧g'.status = .running)∨∀k,k < j→bw k=false)) :
  ∃gs' bl' bw' O',runT p.P (crowd gs w sl) (p.n0+i)=(.next (crowd gs' w' sl),MemOp.ofEvents (p.n0+i) (xs i).g.frame.fn (xs i).g.frame.place es) ∧
   p.MCo W j tag x0 bl' (upd wt i s') bw' (upd xs i { xs i with d:=deafBehind (xs i).d es,g:=g' }) ls O' D gs' w' (t ++ MemOp.ofEvents (p.n0+i) (xs i).g.frame.fn (xs i).g.frame.place es):=by
 have hlt:p.Mu < w.heap.size:=h.own.wlt _ (.inl h.hW.2.1)
 have hCM:p.C≠p.Mu:=fun e=>h.hW.2.2.2.1 (e ▸ h.hW.2.1)
 refine h.worker (sl:=sl) hi hbi (x' :={ xs i with d:=deafBehind (xs i).d es,g:=g' }) hgo (guar_eff h.hW.2.1 hlt he hes) rfl hseat hh (fun e=>?_) hlkd hph (Cell.same h.cell hi hp hc (.inr (he.heap _ hCM))) (fun e=>by omega) (fun e he=>libEv_norel (hes e he)) hmi
  (md_to h hi h5 (by omega) (he.heap _ h.hW.2.2.1)) (fun bl' hb _ _=>bl_to h hi (fun _=>by omega) hb)
 obtain ⟨a,b,c⟩:=h.wO i hi (hea e)
 refine ⟨by rw [grow_eq he.size];exact a,b,?_⟩
 show Rely (xs i).O (xs i).D (xs i).w w'
 rw [a,b]
 refine c.trans ⟨by rw [he.size];exact Nat.le_refl _,fun b hb=>he.heap b fun e=>h.ownW.ow _ b (by omega) hb (e ▸ h.hW.2.1),fun b hb=>he.heap b fun e=>h.ownW.dw _ b (by omega) hb (e ▸ h.hW.2.1),he.os,he.output,he.tape⟩
theorem MCo.wsleep(h:p.MCo W j tag x0 bl wt bw xs ls O D gs w t){i:Nat}(hi:i < j)(hbi:bw i=false)(hw:p.Waits i (wt i) (xs i))(hq:∀m q,MuAt p.tM p.Mu w m q→q=0)(hgo:stepG p.P false (xs i).g w = .go { (xs i).g with status:=.blocked } w #[]) :
  ∃gs' ops,runT p.P (crowd gs w sl) (p.n0+i)=(.next (crowd gs' w sl),ops)∧p.MCo W j tag x0 bl wt (upd bw i true) xs ls O D gs' w (t ++ ops):=by
 obtain ⟨hgi,hsi,hdi⟩:=h.wk i hi
 rw [hbi] at hgi
 simp only [Bool.false_eq_true,if_false] at hgi
 have hsz:=h.size
 have hpos:p.n0+i≠0:=by have:=h.hn0;omega
 have hgo':stepG p.P ((p.n0+i) == 0) (xs i).g w = .go { (xs i).g with status:=.blocked } w #[]:=by
  have:((p.n0+i) == 0)=false:=by simp;omega
  rw [this];exact hgo
 have hrun:=runT_crowd_go (P:=p.P) (sl:=sl) hgi hgo'
 have ew:woken p.P (xs i).g { (xs i).g with status:=.blocked } w=id:=by funext o;simp [woken]
 rw [ew,Array.map_id] at hrun
 have e0:t ++ MemOp.ofEvents (p.n0+i) (xs i).g.frame.fn (xs i).g.frame.place #[]=t:=by simp [MemOp.ofEvents]
 refine ⟨_,_,hrun,?_⟩
 rw [e0]
 refine ⟨h.hn0,by simpa using hsz,by rw [Array.getElem?_setIfInBounds_ne (by omega)];exact h.main,h.blk,h.seat,h.O0,h.D0,h.rely,h.deaf,fun k hk=>?_,fun k hk hb=>?_,h.wO,h.lkd,h.ph,fun k h1 h2=>?_,h.ti,h.own,h.hW,h.tok,h.hold,h.cell,h.over,h.norel,?_,h.md,h.left⟩
 ·obtain ⟨a1,a2⟩:=h.wk k hk
  refine ⟨?_,a2⟩
  by_cases e:k=i
  ·subst e
   rw [upd_same]
   rw [Array.getElem?_setIfInBounds_self_of_lt (by rw [hsz];omega)]
   rfl
  ·rw [upd_ne bw _ e,Array.getElem?_setIfInBounds_ne (by omega)]
   exact a1
 ·by_cases e:k=i
  ·subst e;exact hw
  ·rw [upd_ne bw _ e] at hb;exact h.bs k hk hb
 ·obtain ⟨a1,a2⟩:=h.lv k h1 h2
  exact ⟨by rw [Array.getElem?_setIfInBounds_ne (by omega)];exact a1,a2⟩
 ·obtain ⟨m,q,h1,h2,_⟩:=h.mi
  exact ⟨m,q,h1,h2,fun _ _ _=>hq m q h1⟩
theorem MCo.take(h:p.MCo W j tag x0 bl wt bw xs ls O D gs w t){i:Nat}(hi:i < j)(hbi:bw i=false)(hs:wt i = .ac)(hd0:(xs i).d=0){g':Goroutine}
  (hgo:stepG p.P false (xs i).g w = .go g' w #[Go.ConcR.mk (.acquire (stA p.Mu))]) (hT:p.CrT i (xs i).O (xs i).D (xs i).w g') :
  ∃gs' bl' bw' v x' O' ops,runT p.P (crowd gs w sl) (p.n0+i)=(.next (crowd gs' w sl),ops)∧p.WSeat i (.cr v) x' ∧ p.MCo W j tag x0 bl' (upd wt i (.cr v)) bw' (upd xs i x') ls O' D gs' w (t ++ ops):=by
 obtain ⟨hgi,hsi,hdi⟩:=h.wk i hi
 have hdi' :=hdi
 rw [hd0] at hdi'
 rw [hbi] at hgi
 simp only [Bool.false_eq_true,if_false] at hgi
 have hsz:=h.size
 have hn0:=h.hn0
 have hlt:p.Mu < w.heap.size:=h.own.wlt _ (.inl h.hW.2.1)
 have hfr:free j wt:=fun k hk hh=>by
  have:=h.one hi hk (by rw [hs];rfl) (holds_own hh)
  subst this
  rw [hs] at hh
  exact hh
 obtain ⟨order,c1,c2,c3,c4,c5⟩:=h.cell
 have hcell:=c5 fun k hk v e=>hfr k hk (by rw [e];trivial)
 obtain ⟨a,b,c⟩:=h.wO i hi (by rw [hs];trivial)
 have hnO:¬O (p.n0+i) p.C:=fun x=>h.own.ow _ _ (by omega) x (.inr ⟨hfr,rfl⟩)
 have hnD:¬D (p.n0+i) p.C:=fun x=>h.own.dw _ _ (by omega) x (.inr ⟨hfr,rfl⟩)
 have hwk:=hT w (p.fold order) (by rw [a,b];exact c) c3 hcell (by rw [a];exact hnO) (by rw [b];exact hnD) h.hW.2.2.2.2
 have hes:∀e ∈ #[Go.ConcR.mk (.acquire (stA p.Mu))],LibEv p.Mu e:=by intro e he;rw [Array.mem_singleton] at he;exact .inr (.inr (.inr (.inl he)))
 have hG:=guar_eff (p:=p) (k:=p.n0+i) (O:=O) (D:=D) h.hW.2.1 hlt (EffM.refl p.Mu w) hes
 have hti:=h.ti
 have hown:=h.ownW
 rw [←hsz] at hti hown
 have hgo':stepG p.P ((p.n0+i) == 0) (xs i).g w = .go g' w #[Go.ConcR.mk (.acquire (stA p.Mu))]:=by
  have:((p.n0+i) == 0)=false:=by simp;omega
  rw [this];exact hgo
 obtain ⟨_,hti',_⟩:=core_step (sl:=sl) hgi hgo' hti hown hG
 rw [hsz,with_none] at hti'
 have e1:=one_event (p.n0+i) (xs i).g.frame.fn (xs i).g.frame.place (.acquire (stA p.Mu))
 have hperm:∀l,inB (· = p.C) l→Perm (t ++ MemOp.ofEvents (p.n0+i) (xs i).g.frame.fn (xs i).g.frame.place #[Go.ConcR.mk (.acquire (stA p.Mu))]) (p.n0+i) l:=by
  rw [e1]
  exact (h.tok hfr).acquire (z:=⟨p.n0+i,(xs i).g.frame.fn,(xs i).g.frame.place,.mark (.acquire (stA p.Mu))⟩) (by show p.n0+i < p.n0+j;omega) (Nat.le_add_right _ _) rfl hdi' (h.norel _)
 have hnf:¬free j (upd wt i (.cr (p.fold order))):=fun hf=>hf i hi (by rw [upd_same];trivial)
 have hown1:Own (fun b=>W b∨(True∧b=p.C)) O D (p.n0+j) w.heap.size:=by
  have:=h.own
  rw [pred_eq (iff_true_intro hfr)] at this
  exact this
 have et:takeO O (p.n0+i) p.C (p.n0+i)=fun b=>O (p.n0+i) b∨b=p.C:=by
  funext b
  unfold takeO
  exact propext ⟨fun x=>x.imp id fun y=>y.2,fun x=>x.imp id fun y=>⟨rfl,y⟩⟩
 have hseat:p.WSeat i (.cr (p.fold order)) ⟨fun b=>(xs i).O b∨b=p.C,(xs i).D,0,g',w⟩:=hwk
 have hcell':p.Cell j (upd wt i (.cr (p.fold order))) w:=by
  refine ⟨order,c1,fun k=>?_,c3,fun k hk v e=>?_,fun hn=>absurd (upd_same wt i _) (hn i hi _)⟩
  ·rw [c2]
   by_cases e:k=i
   ·subst e
    rw [upd_same,hs]
    exact ⟨fun x=>x.2.2.elim,fun x=>x.2.2.elim⟩
   ·rw [upd_ne wt _ e]
  ·by_cases e':k=i
   ·subst e';rw [upd_same] at e;cases e;rfl
   ·rw [upd_ne wt _ e'] at e
    exact absurd (show holds (wt k) by rw [e];trivial) (hfr k hk)
 obtain ⟨gs',bl',bw',k1,k2⟩:=h.worker0 (sl:=sl) hi hbi (x' :=⟨fun b=>(xs i).O b∨b=p.C,(xs i).D,0,g',w⟩) (es:=#[Go.ConcR.mk (.acquire (stA p.Mu))]) (w' :=w) (s' :=.cr (p.fold order)) (O' :=takeO O (p.n0+i) p.C) hgo
  (by rw [hd0];rfl) hseat (Nat.le_refl _) (fun k hk hne=>.refl _) (fun k hk=>by funext b;unfold takeO;exact propext ⟨fun x=>x.resolve_right fun y=>hk y.1,.inl⟩) (Go.Mx.TI.take hti' hperm) (Go.Mx.Own.take hown1 (by omega) h.hW.2.2.2.1 _ hnf)
  (fun _=>⟨by show (fun b=>(xs i).O b∨b=p.C)=_;rw [et,a],b,.refl _⟩) (fun _=>h.lkd i hi (by rw [hs];trivial)) trivial (fun hf=>absurd hf hnf) (fun _=>.inr ⟨rfl,rfl⟩) hcell' (fun e=>by simp [stN] at e) (fun e he=>libEv_norel (hes e he))
  (mi_same h (by rw [hs];rfl) rfl) (md_to h hi (by rw [hs];simp [stN]) (.inl rfl) rfl) (fun bl' hb _ _=>bl_to h hi (fun _=>by simp [stN]) hb)
 exact ⟨gs',bl',bw',_,_,_,_,k1,hseat,k2⟩
theorem MCo.give(h:p.MCo W j tag x0 bl wt bw xs ls O D gs w t){i:Nat}(hi:i < j)(hbi:bw i=false)(hs:wt i = .rl)(hd0:(xs i).d=0){g':Goroutine}
  (hgo:stepG p.P false (xs i).g w = .go g' w #[Go.ConcR.mk (.releaseMerge (stA p.Mu))]) (hseat:p.WSeat i .ds { xs i with d:=0,g:=g' }) :
  ∃gs' bl' bw' O' ops,runT p.P (crowd gs w sl) (p.n0+i)=(.next (crowd gs' w sl),ops)∧p.MCo W j tag x0 bl' (upd wt i .ds) bw' (upd xs i { xs i with d:=0,g:=g' }) ls O' D gs' w (t ++ ops):=by
 obtain ⟨hgi,hsi,hdi⟩:=h.wk i hi
 have hdi' :=hdi
 rw [hd0] at hdi'
 rw [hbi] at hgi
 simp only [Bool.false_eq_true,if_false] at hgi
 have hsz:=h.size
 have hn0:=h.hn0
 have hlt:p.Mu < w.heap.size:=h.own.wlt _ (.inl h.hW.2.1)
 have hhold:=h.hold i hi (by rw [hs];trivial)
 have hnfr:¬free j wt:=fun hf=>hf i hi (by rw [hs];trivial)
 have hes:∀e ∈ #[Go.ConcR.mk (.releaseMerge (stA p.Mu))],LibEv p.Mu e:=by intro e he;rw [Array.mem_singleton] at he;exact .inr (.inr (.inl he))
 have hG:=guar_eff (p:=p) (k:=p.n0+i) (O:=O) (D:=D) h.hW.2.1 hlt (EffM.refl p.Mu w) hes
 have hti:=h.ti
 have hown:=h.ownW
 rw [←hsz] at hti hown
 have hgo':stepG p.P ((p.n0+i) == 0) (xs i).g w = .go g' w #[Go.ConcR.mk (.releaseMerge (stA p.Mu))]:=by
  have:((p.n0+i) == 0)=false:=by simp;omega
  rw [this];exact hgo
 obtain ⟨_,hti',_⟩:=core_step (sl:=sl) hgi hgo' hti hown hG
 rw [hsz,with_none] at hti'
 have e1:=one_event (p.n0+i) (xs i).g.frame.fn (xs i).g.frame.place (.releaseMerge (stA p.Mu))
 have hown1:Own (fun b=>W b∨(False∧b=p.C)) O D (p.n0+j) w.heap.size:=by
  have:=h.own
  rw [pred_eq (iff_false_intro hnfr)] at this
  exact this
 have hO':∀k,k≠p.n0+i→giveO O (p.n0+i) p.C k=O k:=fun k hk=>by
  funext b
  unfold giveO
  exact propext ⟨fun x=>x.1,fun x=>⟨x,fun e=>hk e.1⟩⟩
 have htok:free j (upd wt i .ds)→FreeTok p.C p.Mu p.n0 (t ++ MemOp.ofEvents (p.n0+i) (xs i).g.frame.fn (xs i).g.frame.place #[Go.ConcR.mk (.releaseMerge (stA p.Mu))]) (p.n0+j):=fun _=>by
  rw [e1]
  exact FreeTok.release (y:=⟨p.n0+i,(xs i).g.frame.fn,(xs i).g.frame.place,.mark (.releaseMerge (stA p.Mu))⟩) (fun l hl=>h.ti.own (p.n0+i) (by omega) l (inB_mono (fun b (hb:b=p.C)=>hb ▸ hhold) hl)) rfl hdi'
 have hcell':p.Cell j (upd wt i .ds) w:=Cell.same h.cell hi (fun _=>by rw [hs];exact ⟨fun _=>trivial,fun _=>trivial⟩) (fun v=>by rw [hs];exact ⟨fun e=>(by cases e),fun e=>(by cases e)⟩) (.inr rfl)
 obtain ⟨gs',bl',bw',k1,k2⟩:=h.worker0 (sl:=sl) hi hbi (x' :={ xs i with d:=0,g:=g' }) (es:=#[Go.ConcR.mk (.releaseMerge (stA p.Mu))]) (w' :=w) (s' :=.ds) (O' :=giveO O (p.n0+i) p.C) hgo
  (by rw [hd0];rfl) hseat (Nat.le_refl _) (fun k hk hne=>.refl _) hO' (Go.Mx.TI.give (p.n0+i) hti') (Go.Mx.Own.give hown1 (i:=p.n0+i) (by omega) hhold h.hW.2.2.2.2 _)
  (fun e=>e.elim) (fun _=>h.lkd i hi (by rw [hs];trivial)) trivial htok (fun e=>e.elim) hcell' (fun e=>by simp [stN] at e) (fun e he=>libEv_norel (hes e he))
  (mi_same h (by rw [hs];rfl) rfl) (md_to h hi (by rw [hs];simp [stN]) (.inl rfl) rfl) (fun bl' hb _ _=>bl_to h hi (fun _=>by simp [stN]) hb)
 exact ⟨gs',bl',bw',_,_,k1,k2⟩
end Ph
end Go.Mx
namespace Go.Mx
open Go.Ren
open Go.Conc hiding Goes mem_ofEvents
open Go.ConcN (sumTo upd upd_same upd_ne RelBy get_map_set get_map_set_same WgLive PermW)
open Go.Conc.Lib (WgLink)
open Go.ConcR (KK WgAt stA smA rd wr g_of_ofEvents loc_of_ofEvent)
theorem Nx.ofL{R:Lk→Nat→Goroutine→Prop}{E:Nat→Goroutine→Prop}{y:Lk}{d:Nat}{g:Goroutine}(hy:isL y)(h:Nx R E y d g):R y d g:=by
 cases y<;>first|exact h|exact hy.elim
theorem Nx.ofU{R:Lk→Nat→Goroutine→Prop}{E:Nat→Goroutine→Prop}{y:Lk}{d:Nat}{g:Goroutine}(hy:isU y)(ho:y ≠ .own)(h:Nx R E y d g):R y d g:=by
 cases y<;>first|exact h|exact absurd rfl ho|exact hy.elim
theorem Mv.not_own{m m':Wd}{q q':Nat}{x y:Lk}(h:Mv m q x m' q' y)(hx:isU x):y ≠ .own:=by
 cases h<;>first|(intro e;cases e;done)|exact hx.elim
theorem Mv.q_le{m m':Wd}{q q':Nat}{x y:Lk}(h:Mv m q x m' q' y)(hx:x ≠ .us):q' ≤ q:=by
 cases h<;>first|exact Nat.le_refl _|exact Nat.le_succ _|exact absurd rfl hx
namespace Ph
variable{p:Ph}{W:Nat→Prop}{j:Nat}{tag:MTag}{x0:Pos}{bl:Bool}{wt:Nat→WT}{bw:Nat→Bool}{xs ls:Nat→Pos}{O D:Nat→Nat→Prop}{gs:Array Goroutine}{w w':World}{sl:Option (Nat×Nat)}{t:Trace}
theorem MCo.notC(h:p.MCo W j tag x0 bl wt bw xs ls O D gs w t){i:Nat}(hi:i < j)(hn:¬holds (wt i)):¬O (p.n0+i) p.C:=by
 intro hO
 by_cases hf:free j wt
 ·exact h.own.ow _ _ (by omega) hO (.inr ⟨hf,rfl⟩)
 ·apply hf
  intro k hk hh
  have h1:=h.hold k hk hh
  have:=h.own.oo _ _ _ (by omega) (by omega) hO h1
  have:i=k:=by omega
  subst this
  exact hn hh
theorem MCo.lib(h:p.MCo W j tag x0 bl wt bw xs ls O D gs w t){i:Nat}(hi:i < j)(hbi:bw i=false){g':Goroutine}{es:Array Event}{k k':Nat}(hs:wt i = .fin k)
  (hgo:stepG p.P false (xs i).g w = .go g' w' es) (hw:w' = w∨∃a v,a.block=p.Wg∧w' = w.setCell a v) (hes:∀e∈es,LibEv p.Wg e) (hseat:p.WSeat i (.fin k') { xs i with d:=deafBehind (xs i).d es,g:=g' })
  (hover:k' ≤ 5→∃r,Over (stA p.Wg) W (t ++ MemOp.ofEvents (p.n0+i) (xs i).g.frame.fn (xs i).g.frame.place es) (p.n0+i) r)
  (hmd:∃a b,WgAt p.L.tWg p.Wg w' a b∧Md j (upd (fun k=>stN (wt k)) i k') tag a b)
  (hbl:∀bl':Bool,bl=true→(mayWake p.P (xs i).g=true→(g'.status = .running∨g'.status = .finished)→bl' = false)→bl' = true→∃q,q < j∧2≤stN (upd wt i (.fin k') q)) :
  ∃gs' bl' bw' O',runT p.P (crowd gs w sl) (p.n0+i)=(.next (crowd gs' w' sl),MemOp.ofEvents (p.n0+i) (xs i).g.frame.fn (xs i).g.frame.place es) ∧
   p.MCo W j tag x0 bl' (upd wt i (.fin k')) bw' (upd xs i { xs i with d:=deafBehind (xs i).d es,g:=g' }) ls O' D gs' w' (t ++ MemOp.ofEvents (p.n0+i) (xs i).g.frame.fn (xs i).g.frame.place es):=by
 have hlt:p.Wg < w.heap.size:=h.own.wlt _ (.inl h.hW.1)
 have hev:∀e∈es,XOk W (p.n0+i) e∧(MemAct.ofEvent e).low w.heap.size:=fun e he=>libEv_ok h.hW.1 hlt (hes e he)
 have hG:GuarW (XOk W (p.n0+i)) W (O (p.n0+i)) (D (p.n0+i)) w w' es:=by
  rcases hw with rfl|⟨a,v,ha,rfl⟩
  ·exact guarW_said hev
  ·exact guarW_cell (by rw [ha];exact h.hW.1) hev
 have hoth:∀b,b≠p.Wg→w'.heap[b]? = w.heap[b]? :=fun b hb=>by
  rcases hw with rfl|⟨a,v,ha,rfl⟩
  ·rfl
  ·exact setCell_other (by rw [ha];exact hb)
 have hCW:p.C≠p.Wg:=fun e=>h.hW.2.2.2.1 (e ▸ h.hW.1)
 refine h.worker (sl:=sl) hi hbi (x' :={ xs i with d:=deafBehind (xs i).d es,g:=g' }) hgo hG rfl hseat (by rw [hs];exact Iff.rfl) (fun e=>e.elim) (fun e=>e.elim) trivial
  (Cell.same h.cell hi (fun _=>by rw [hs];exact Iff.rfl) (fun v=>by rw [hs];exact ⟨fun e=>(by cases e),fun e=>(by cases e)⟩) (.inr (hoth _ hCW))) hover (fun e he=>libEv_norel (hes e he))
  (mi_same h (by rw [hs];rfl) (hoth _ h.hW.2.2.1.symm)) ?_ hbl
 obtain ⟨a,b,m1,m2⟩:=hmd
 exact ⟨a,b,m1,by rw [upd_fun];exact m2⟩
theorem near_fin(h:p.MCo W j tag x0 bl wt bw xs ls O D gs w t){i k k':Nat}(hs:wt i = .fin k){x':Pos}(hw:w'.heap[p.Mu]? = w.heap[p.Mu]?)(hr:k' < k∨(k' = k∧p.WNx i (.fin k) x' (xs i))):Nearer p j wt xs w i (.fin k') x' w' :=by
 refine near_same h (by rw [hs];rfl) hw ?_
 rw [hs]
 exact hr.imp (fun x _=>x) (fun ⟨e,x⟩=>⟨by rw [e],x⟩)
theorem MCo.stepF(hn:p.n < 2147483647)(h:p.MCo W j tag x0 bl wt bw xs ls O D gs w t){i:Nat}(hi:i < j)(hbi:bw i=false)(hr:(xs i).g.status = .running){s:Nat}(hs:wt i = .fin s) :
  Moved p W j tag x0 wt xs ls D t w i (runT p.P (crowd gs w sl) (p.n0+i)) sl:=by
 obtain ⟨hgi,hsi,hdi⟩:=h.wk i hi
 have hinv:=h.inv
 have hl:Lv p.L p.Wg w:=hinv.1
 have hj:=h.jn
 have hMW:p.Mu≠p.Wg:=h.hW.2.2.1.symm
 obtain ⟨st,hst⟩:∃st:Nat→Nat,st=fun k=>stN (wt k):=⟨_,rfl⟩
 have hsti:st i=s:=by rw [hst];show stN (wt i)=s;rw [hs];rfl
 have hMd:∃a b,WgAt p.L.tWg p.Wg w a b∧Md j st tag a b:=by rw [hst];exact h.md
 have toS:∀k' k,stN (upd wt i (.fin k') k)=upd st i k' k:=fun k' k=>by
  have:=congrFun (upd_fun stN wt i (.fin k')) k
  rw [hst];exact this
 have fin:∀ {k':Nat} {g':Goroutine} {w':World} {es:Array Event},(w'.heap[p.Mu]? = w.heap[p.Mu]?)→p.WSeat i (.fin k') { xs i with d:=deafBehind (xs i).d es,g:=g' }→(k' < s∨(k' = s∧p.WNx i (.fin s) { xs i with d:=deafBehind (xs i).d es,g:=g' } (xs i))) →
   (∃gs' bl' bw' O',runT p.P (crowd gs w sl) (p.n0+i)=(.next (crowd gs' w' sl),MemOp.ofEvents (p.n0+i) (xs i).g.frame.fn (xs i).g.frame.place es) ∧
    p.MCo W j tag x0 bl' (upd wt i (.fin k')) bw' (upd xs i { xs i with d:=deafBehind (xs i).d es,g:=g' }) ls O' D gs' w' (t ++ MemOp.ofEvents (p.n0+i) (xs i).g.frame.fn (xs i).g.frame.place es)) →
   Moved p W j tag x0 wt xs ls D t w i (runT p.P (crowd gs w sl) (p.n0+i)) sl:=by
  rintro k' g' w' es hw hseat ho ⟨gs',bl',bw',O',h1,h2⟩
  exact ⟨gs',w',bl',bw',_,_,O',by rw [h1],hseat,near_fin h hs hw ho,by rw [h1];exact h2⟩
 have mdsame:∃a b,WgAt p.L.tWg p.Wg w a b∧Md j (upd (fun k=>stN (wt k)) i s) tag a b:=by
  obtain ⟨a,b,m1,m2⟩:=hMd
  rw [←hst]
  exact ⟨a,b,m1,m2.same hsti⟩
 have blsame:∀ {k'},(2≤s→2≤k')→bl=true→∃k,k < j∧2≤stN (upd wt i (.fin k') k):=fun hk=>bl_to h hi (by rw [hs];exact hk)
 have overI:s≤5→∃r,Over (stA p.Wg) W t (p.n0+i) r:=fun h5=>h.over i hi (by rw [hs];exact h5)
 have idle:∀ {S:Nat→Goroutine→Prop},2≤s→(∀x:Pos,p.WSeat i (.fin s) x=IdleD p.P false (Lv p.L p.Wg) X0 S x.d x.g)→p.WNx i (.fin s)=NxI p.P false (Lv p.L p.Wg) S →
   ¬S (xs i).d (xs i).g→(∃g',stepG p.P false (xs i).g w = .go g' w #[]∧IdleD p.P false (Lv p.L p.Wg) X0 S (xs i).d g') →
   Moved p W j tag x0 wt xs ls D t w i (runT p.P (crowd gs w sl) (p.n0+i)) sl:=by
  rintro S h2 hW hN hnS ⟨g',hgo,hid⟩
  have hseat:p.WSeat i (.fin s) { xs i with d:=deafBehind (xs i).d #[],g:=g' }:=by rw [hW];exact hid
  refine fin (k' :=s) (es:=#[]) rfl hseat (.inr ⟨rfl,?_⟩) (h.lib hi hbi hs hgo (.inl rfl) (by simp) hseat (fun h5=>?_) mdsame (fun bl' hb _ _=>blsame (fun _=>h2) hb))
  ·rw [hN]
   exact ⟨hnS,w,w,#[],hl,hgo,rfl⟩
  ·obtain ⟨r,hr⟩:=overI h5
   exact ⟨r,by simpa [MemOp.ofEvents] using hr⟩
 rw [hs] at hsi
 match s,hsi with
 |7,hsi=>
  rcases idle_none hsi hl with hx|⟨hn',hx⟩
  ·obtain ⟨hd0,hst',g',hgo,hid⟩:=hx
   have hseat:p.WSeat i (.fin 5) { xs i with d:=deafBehind (xs i).d #[Go.ConcR.mk (.releaseMerge (stA p.Wg))],g:=g' }:=by
    show IdleD p.P false (Lv p.L p.Wg) XD (WAdd p.P p.L p.Wg) (deafBehind (xs i).d #[Go.ConcR.mk (.releaseMerge (stA p.Wg))]) g'
    rw [hd0];exact hid
   refine fin (k' :=5) rfl hseat (.inl (by omega)) (h.lib hi hbi hs (hgo w hl) (.inl rfl) (by intro e he;rw [Array.mem_singleton] at he;exact .inr (.inr (.inl he))) hseat
    (fun _=>⟨_,Over.new (by rw [hdi];exact hd0)⟩) ?_ (fun bl' hb _ _=>blsame (fun _=>by omega) hb))
   obtain ⟨a,b,m1,m2⟩:=hMd
   rw [←hst]
   exact ⟨a,b,m1,m2.counted hi (by omega) (.inr (.inr rfl))⟩
  ·exact idle (by omega) (fun x=>rfl) rfl hn' hx
 |5,hsi=>
  obtain ⟨r,hov⟩:=overI (by omega)
  by_cases hx:WAdd p.P p.L p.Wg (xs i).d (xs i).g
  ·obtain ⟨hd1,hst',hall⟩:=hx
   obtain ⟨a,b,m1,m2⟩:=hMd
   have bk2:∀e ∈ #[rd (stA p.Wg),wr (stA p.Wg)],Go.ConcR.Bk p.Wg e:=by intro e he;simp at he;rcases he with rfl|rfl<;>exact .inr (.inr ⟨_,_,rfl,rfl⟩)
   have lb2:∀e ∈ #[rd (stA p.Wg),wr (stA p.Wg)],LibEv p.Wg e:=by intro e he;simp at he;rcases he with rfl|rfl<;>exact .inr (.inr (.inr (.inr ⟨_,_,rfl,rfl⟩)))
   have df2:∀jx e,(#[rd (stA p.Wg),wr (stA p.Wg)]:Array Event)[jx]? = some e→(MemAct.ofEvent e).touch? = none∨0 < deafBehind 1 ((#[rd (stA p.Wg),wr (stA p.Wg)]:Array Event).extract 0 jx):=by
    intro jx e he
    match jx,he with
    |0,_=>exact .inr (by simp [deafBehind])
    |1,_=>exact .inr (by simp [deafBehind,rd])
    |jx+2,he=>simp at he
   have hV1:=Vn_pos hi (by omega:5≤st i)
   have hVj:=Vn_le j st
   have hupd:=fun s (hi:i < j)=>Vn_upd (st:=st) (i:=i) (j:=j) s hi
   have c5:cntW (st i)=1:=by rw [hsti];rfl
   have dd2:deafBehind 1 #[rd (stA p.Wg),wr (stA p.Wg)]=1:=by simp [deafBehind,rd,wr]
   have go:∀v wtt:Nat,wtt≤1→v < 2147483647→WgAt p.L.tWg p.Wg w ((v+1) * KK+wtt) 0→∀s',((v=0∧wtt=1)→s' = 4)→(¬(v=0∧wtt=1)→s' = 1)→Md j (upd st i s') tag (v * KK+wtt) 0→(bl=true→∃k,k < j∧2≤upd st i s' k) →
     Moved p W j tag x0 wt xs ls D t w i (runT p.P (crowd gs w sl) (p.n0+i)) sl:=by
    intro v wtt h1 h2 h3 s' hs4 hs1 hmd hb
    obtain ⟨g',hgo,hq4,hq1⟩:=hall v wtt h1 h2
    have hseat:p.WSeat i (.fin s') { xs i with d:=deafBehind (xs i).d #[rd (stA p.Wg),wr (stA p.Wg)],g:=g' }:=by
     by_cases hc:v=0∧wtt=1
     ·rw [hs4 hc]
      show IdleD p.P false (Lv p.L p.Wg) X0 (WLd p.P p.L p.Wg) (deafBehind (xs i).d #[rd (stA p.Wg),wr (stA p.Wg)]) g'
      rw [hd1,dd2];exact hq4 hc
     ·rw [hs1 hc]
      show ∃q,QuitsD p.P q (deafBehind (xs i).d #[rd (stA p.Wg),wr (stA p.Wg)]) g'
      rw [hd1,dd2];exact hq1 hc
    have hs'5:s' < 5:=by
     by_cases hc:v=0∧wtt=1
     ·rw [hs4 hc];omega
     ·rw [hs1 hc];omega
    refine fin (k' :=s') ((setCell_other (a:=stA p.Wg) hMW)) hseat (.inl hs'5) (h.lib hi hbi hs (hgo w hl h3) (.inr ⟨_,_,rfl,rfl⟩) lb2 hseat (fun _=>⟨r,hov.book h.hW.1 (by rw [hdi,hd1]) bk2 df2⟩) ⟨_,_,h3.setSt _,by rw [←hst];exact hmd⟩ (fun bl' hb' _ _=>?_))
    obtain ⟨k,hk,h2⟩:=hb hb'
    exact ⟨k,hk,by rw [toS];exact h2⟩
   cases m2 with
   | @opn tag h1 h2 h3=>
    obtain ⟨v,hv⟩:∃v,Vn j st+pendM tag=v+1:=⟨Vn j st+pendM tag - 1,by omega⟩
    have hpend:pendM tag≤1:=by unfold pendM;split<;>omega
    have hV':Vn j (upd st i 1)+1=Vn j st:=by have:=hupd 1 hi;have:cntW 1=0:=rfl;omega
    refine go v 0 (by omega) (by omega) (by rw [hv] at m1;simpa using m1) 1 (fun x=>by omega) (fun _=>rfl) ?_ (fun e=>?_)
    ·have e2:v=Vn j (upd st i 1)+pendM tag:=by omega
     have:=Md.opn (j:=j) (st:=upd st i 1) h1 (h2.upd (by simp)) (bndM_mono (by omega) h3)
     rw [e2];simpa using this
    ·obtain ⟨⟨gT,e1,_⟩,_⟩:=h.blk e
     subst e1;exact h1.elim
   | @reg gT h2 h3=>
    have hV':∀s',cntW s' = 0→Vn j (upd st i s')+1=Vn j st:=fun s' h0=>by have:=hupd s' hi;omega
    obtain ⟨v,hv⟩:∃v,Vn j st=v+1:=⟨Vn j st - 1,by omega⟩
    rw [hv] at m1
    rcases Nat.eq_zero_or_pos v with rfl|hvp
    ·have hoth:=others_quit h2 hi (by omega) (by omega)
     refine go 0 1 (by omega) (by omega) (by simpa using m1) 4 (fun _=>rfl) (fun x=>absurd ⟨rfl,rfl⟩ x) ?_ (fun _=>⟨i,hi,by rw [upd_same];omega⟩)
     have:=Md.last (gT:=gT) (j:=j) (st:=upd st i 4) i hi (.inl (upd_same _ _ _)) (fun k hk e=>by rw [upd_ne st _ e];exact hoth k hk e)
     simpa [upd_same] using this
    ·refine go v 1 (by omega) (by omega) (by simpa using m1) 1 (fun x=>by omega) (fun _=>rfl) ?_ (fun _=>?_)
     ·have:=Md.reg (gT:=gT) (j:=j) (st:=upd st i 1) (h2.upd (by simp)) (by have:=hV' 1 rfl;omega)
      have e2:v=Vn j (upd st i 1):=by have:=hV' 1 rfl;omega
      rw [e2];simpa using this
     ·obtain ⟨k,hk,h5⟩:=exists_cnt (j:=j) (st:=upd st i 1) (by have:=hV' 1 rfl;omega)
      exact ⟨k,hk,by omega⟩
   |last K h2 h3 h4=>
    by_cases e:i=K
    ·subst e;omega
    ·have:=h4 i hi e;omega
   |sema h2=>have:=h2 i hi;omega
   |fin h1 h2=>have:=h2 i hi;omega
  ·have hsi':IdleD p.P false (Lv p.L p.Wg) XD (WAdd p.P p.L p.Wg) (xs i).d (xs i).g:=hsi
   generalize hdd:(xs i).d=dd at hsi' hx
   generalize hgg:(xs i).g=gg at hsi' hx
   cases hsi' with
   |stop hy=>exact absurd hy hx
   |step hst' f es hk k=>
    obtain ⟨hgo,he⟩:=hk w hl
    have hnext:=k w hl
    have hseat:p.WSeat i (.fin 5) { xs i with d:=deafBehind (xs i).d (es w),g:=f w }:=by
     show IdleD p.P false (Lv p.L p.Wg) XD (WAdd p.P p.L p.Wg) (deafBehind (xs i).d (es w)) (f w)
     rw [hdd];exact hnext
    refine fin (k' :=5) rfl hseat (.inr ⟨rfl,?_⟩) (h.lib hi hbi hs (by rw [hgg];exact hgo) (.inl rfl) (fun e hx=>.inl (by rw [(he e hx).1];rfl)) hseat (fun _=>⟨r,hov.book h.hW.1 rfl (fun e hx=>.inl (by rw [(he e hx).1];rfl)) (fun jx e hx=>.inl ?_)⟩) mdsame (fun bl' hb _ _=>blsame (fun _=>by omega) hb))
    ·show NxI p.P false (Lv p.L p.Wg) (WAdd p.P p.L p.Wg) _ _
     exact ⟨by rw [hdd,hgg];exact hx,w,w,es w,hl,by rw [hgg];exact hgo,rfl⟩
    ·have:=(he e (Array.mem_of_getElem? hx)).1
     rw [this];rfl
 |4,hsi=>
  rcases idle_none hsi hl with hx|⟨hn',hx⟩
  ·obtain ⟨r,hov⟩:=overI (by omega)
   obtain ⟨hd1,hst',g',hgo,hid⟩:=hx
   obtain ⟨a,b,m1,m2⟩:=hMd
   obtain ⟨⟨gT,rfl⟩,ho,rfl,rfl⟩:=m2.isLast hi (.inl hsti)
   have e1:(if st i=2 then (0:Int) else 1)=1:=by rw [hsti];rfl
   rw [e1] at m1
   have hseat:p.WSeat i (.fin 3) { xs i with d:=deafBehind (xs i).d #[rd (stA p.Wg)],g:=g' }:=by
    show IdleD p.P false (Lv p.L p.Wg) X0 (WSt p.P p.L p.Wg) (deafBehind (xs i).d #[rd (stA p.Wg)]) g'
    rw [hd1];exact hid
   refine fin (k' :=3) rfl hseat (.inl (by omega)) (h.lib hi hbi hs (hgo w hl m1) (.inl rfl) (by intro e he;simp at he;subst he;exact .inr (.inr (.inr (.inr ⟨_,_,rfl,rfl⟩)))) hseat
    (fun _=>⟨r,hov.book h.hW.1 (by rw [hdi,hd1]) (by intro e he;simp at he;subst he;exact .inr (.inr ⟨_,_,rfl,rfl⟩)) (by intro jx e he;match jx,he with|0,_=>exact .inr (by simp [deafBehind])|jx+1,he=>simp at he)⟩) ⟨_,_,m1,?_⟩ (fun bl' hb _ _=>blsame (fun _=>by omega) hb))
   rw [←hst]
   have:=Md.last (gT:=gT) (j:=j) (st:=upd st i 3) i hi (.inr (.inl (upd_same _ _ _))) (fun k hk e=>by rw [upd_ne st _ e];exact ho k hk e)
   simpa [upd_same] using this
  ·exact idle (by omega) (fun x=>rfl) rfl hn' hx
 |3,hsi=>
  rcases idle_none hsi hl with hx|⟨hn',hx⟩
  ·obtain ⟨r,hov⟩:=overI (by omega)
   obtain ⟨hd1,hst',g',hgo,hid⟩:=hx
   obtain ⟨a,b,m1,m2⟩:=hMd
   obtain ⟨⟨gT,rfl⟩,ho,rfl,rfl⟩:=m2.isLast hi (.inr (.inl hsti))
   have e1:(if st i=2 then (0:Int) else 1)=1:=by rw [hsti];rfl
   rw [e1] at m1
   have hseat:p.WSeat i (.fin 2) { xs i with d:=deafBehind (xs i).d #[wr (stA p.Wg)],g:=g' }:=by
    show IdleD p.P false (Lv p.L p.Wg) X0 (WSem p.P p.L p.Wg) (deafBehind (xs i).d #[wr (stA p.Wg)]) g'
    rw [hd1];exact hid
   refine fin (k' :=2) (setCell_other (a:=stA p.Wg) hMW) hseat (.inl (by omega)) (h.lib hi hbi hs (hgo w hl m1) (.inr ⟨_,_,rfl,rfl⟩) (by intro e he;simp at he;subst he;exact .inr (.inr (.inr (.inr ⟨_,_,rfl,rfl⟩)))) hseat
    (fun _=>⟨r,hov.book h.hW.1 (by rw [hdi,hd1]) (by intro e he;simp at he;subst he;exact .inr (.inr ⟨_,_,rfl,rfl⟩)) (by intro jx e he;match jx,he with|0,_=>exact .inr (by simp [deafBehind])|jx+1,he=>simp at he)⟩) ⟨_,_,m1.setSt 0,?_⟩ (fun bl' hb _ _=>blsame (fun _=>by omega) hb))
   rw [←hst]
   have:=Md.last (gT:=gT) (j:=j) (st:=upd st i 2) i hi (.inr (.inr (upd_same _ _ _))) (fun k hk e=>by rw [upd_ne st _ e];exact ho k hk e)
   simpa [upd_same] using this
  ·exact idle (by omega) (fun x=>rfl) rfl hn' hx
 |2,hsi=>
  rcases idle_none hsi hl with hx|⟨hn',hx⟩
  ·obtain ⟨r,hov⟩:=overI (by omega)
   obtain ⟨hd1,hst',hwake,g',hgo,q,hid⟩:=hx
   obtain ⟨a,b,m1,m2⟩:=hMd
   obtain ⟨⟨gT,rfl⟩,ho,rfl,rfl⟩:=m2.isLast hi (.inr (.inr hsti))
   have e1:(if st i=2 then (0:Int) else 1)=0:=by rw [hsti];rfl
   rw [e1] at m1
   have hsd:deafBehind 1 (semEvents (smA p.Wg))=1:=by simp [semEvents,deafBehind]
   have hseat:p.WSeat i (.fin 1) { xs i with d:=deafBehind (xs i).d (semEvents (smA p.Wg)),g:=g' }:=by
    show ∃q,QuitsD p.P q (deafBehind (xs i).d (semEvents (smA p.Wg))) g'
    rw [hd1,hsd];exact ⟨q,hid⟩
   refine fin (k' :=1) (setCell_other (a:=smA p.Wg) hMW) hseat (.inl (by omega)) (h.lib hi hbi hs (hgo w hl m1) (.inr ⟨_,_,rfl,rfl⟩) sem_lib hseat
    (fun _=>⟨r,hov.book h.hW.1 (by rw [hdi,hd1]) Go.ConcN.bk_sem ?_⟩) ⟨_,_,m1.setSm 1,?_⟩ (fun bl' hb hw hb'=>?_))
   ·intro jx e he
    match jx,he with
    |0,he=>simp [semEvents] at he;subst he;exact .inl rfl
    |1,_=>exact .inr (by simp [semEvents,deafBehind])
    |2,_=>exact .inr (by simp [semEvents,deafBehind])
    |3,he=>simp [semEvents] at he;subst he;exact .inl rfl
    |jx+4,he=>simp [semEvents] at he
   ·rw [←hst]
    refine Md.sema fun k hk=>?_
    by_cases e:k=i
    ·subst e;rw [upd_same]
    ·rw [upd_ne st _ e];exact ho k hk e
   ·rw [hw hwake hid.status] at hb';cases hb'
  ·exact idle (by omega) (fun x=>rfl) rfl hn' hx
 |1,hsi=>
  obtain ⟨q,hq⟩:=hsi
  obtain ⟨r,hov⟩:=overI (by omega)
  rcases q with _|q
  ·have:=hq.1;rw [hr] at this;cases this
  ·rcases hq with ⟨h1,_⟩|⟨_,g',es,hmute,hgo,hq'⟩
   ·rw [hr] at h1;cases h1
   ·have hmk:∀e∈es,Go.ConcR.Bk p.Wg e∧LibEv p.Wg e∧(MemAct.ofEvent e).touch? = none:=fun e he=>by
     have hm:=hmute e he
     obtain ⟨loc,wr,sy⟩:=e
     cases loc with
     |mark m=>cases m<;>first|exact ⟨.inl rfl,.inl rfl,rfl⟩|exact ⟨.inr (.inl rfl),.inr (.inl rfl),rfl⟩|simp [Event.mute] at hm
     |_=>simp [Event.mute] at hm
    have hseat:p.WSeat i (.fin 1) { xs i with d:=deafBehind (xs i).d es,g:=g' }:=⟨q,hq'⟩
    refine fin (k' :=1) rfl hseat (.inr ⟨rfl,?_⟩) (h.lib hi hbi hs (hgo w) (.inl rfl) (fun e he=>(hmk e he).2.1) hseat (fun _=>⟨r,hov.book h.hW.1 rfl (fun e he=>(hmk e he).1) (fun jx e he=>.inl (hmk e (Array.mem_of_getElem? he)).2.2)⟩) mdsame (fun bl' hb _ _=>blsame (fun x=>by omega) hb))
    exact ⟨hr,w,w,es,hgo w,rfl⟩
 |0,h=>exact h.elim
 |6,h=>exact h.elim
 |s+8,h=>exact h.elim
end Ph
end Go.Mx
