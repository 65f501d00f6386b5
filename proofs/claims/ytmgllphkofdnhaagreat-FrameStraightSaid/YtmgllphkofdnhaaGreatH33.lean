import Derived.Test.YtmgllphkofdnhaaGreatH32
set_option linter.unusedVariables false
set_option linter.unusedSectionVars false
set_option linter.unusedSimpArgs false
namespace Go.Mx
open Go.Ren
open Go.Conc hiding Goes mem_ofEvents
open Go.ConcN (sumTo upd upd_same upd_ne RelBy get_map_set get_map_set_same WgLive PermW)
open Go.Conc.Lib (WgLink)
open Go.ConcR (KK WgAt stA smA rd wr g_of_ofEvents loc_of_ofEvent)
theorem lib_mark{Mu:Nat}{m:Mark}(h:m = .disable∨m = .enable):∀e ∈ #[Go.ConcR.mk m],LibEv Mu e:=by
 intro e he
 rw [Array.mem_singleton] at he
 subst he
 rcases h with rfl|rfl
 ·exact .inl rfl
 ·exact .inr (.inl rfl)
namespace Ph
variable{p:Ph}{W:Nat→Prop}{j:Nat}{tag:MTag}{x0:Pos}{bl:Bool}{wt:Nat→WT}{bw:Nat→Bool}{xs ls:Nat→Pos}{O D:Nat→Nat→Prop}{gs:Array Goroutine}{w w':World}{sl:Option (Nat×Nat)}{t:Trace}
def Went(p:Ph)(W:Nat→Prop)(j:Nat)(tag:MTag)(x0:Pos)(bl:Bool)(wt:Nat→WT)(bw:Nat→Bool)(xs ls:Nat→Pos)(O D:Nat→Nat→Prop)(t:Trace)(w:World)(i:Nat)(r:Stepped×Array MemOp)(sl:Option (Nat×Nat)):Prop:=
 Moved p W j tag x0 wt xs ls D t w i r sl∨∃gs',r.1 = .next (crowd gs' w sl)∧p.MCo W j tag x0 bl wt (upd bw i true) xs ls O D gs' w (t ++ r.2)
def idles:WT→Prop
 | .lck _ | .en | .ac | .rl | .ds | .ulk _ | .ue=>True
 |_=>False
theorem seat_st{i:Nat}{s:WT}{x:Pos}(hs:idles s):p.WSeat i s x=IdleD p.P false p.I X0 (p.St i s x) x.d x.g:=by
 cases s<;>first|rfl|exact hs.elim
theorem wnx_st{i:Nat}{s:WT}(hs:idles s):p.WNx i s=fun x' x=>x'.O=x.O∧x'.D=x.D∧x'.w=x.w∧NxI p.P false p.I (p.St i s x) x' x:=by
 cases s<;>first|rfl|exact hs.elim
theorem st_pos{i:Nat}{s:WT}{x:Pos}{d:Nat}{g:Goroutine}:p.St i s { x with d:=d,g:=g }=p.St i s x:=by
 cases s<;>rfl
theorem idles_8{s:WT}(hs:idles s):stN s=8:=by cases s<;>first|rfl|exact hs.elim
theorem quietMoved(h:p.MCo W j tag x0 bl wt bw xs ls O D gs w t){i:Nat}(hi:i < j){g':Goroutine}{es:Array Event}{s':WT}(hseat:p.WSeat i s' { xs i with d:=deafBehind (xs i).d es,g:=g' })
  (hn:Nearer p j wt xs w i s' { xs i with d:=deafBehind (xs i).d es,g:=g' } w')
  (hk:∃gs' bl' bw' O',runT p.P (crowd gs w sl) (p.n0+i)=(.next (crowd gs' w' sl),MemOp.ofEvents (p.n0+i) (xs i).g.frame.fn (xs i).g.frame.place es) ∧
   p.MCo W j tag x0 bl' (upd wt i s') bw' (upd xs i { xs i with d:=deafBehind (xs i).d es,g:=g' }) ls O' D gs' w' (t ++ MemOp.ofEvents (p.n0+i) (xs i).g.frame.fn (xs i).g.frame.place es)) :
  Moved p W j tag x0 wt xs ls D t w i (runT p.P (crowd gs w sl) (p.n0+i)) sl:=by
 obtain ⟨gs',bl',bw',O',h1,h2⟩:=hk
 exact ⟨gs',w',bl',bw',_,_,O',by rw [h1],hseat,hn,by rw [h1];exact h2⟩
theorem MCo.idleW(h:p.MCo W j tag x0 bl wt bw xs ls O D gs w t){i:Nat}(hi:i < j)(hbi:bw i=false)(hs:idles (wt i))(hns:¬p.St i (wt i) (xs i) (xs i).d (xs i).g){g':Goroutine}
  (hgo:stepG p.P false (xs i).g w = .go g' w #[]) (hid:IdleD p.P false p.I X0 (p.St i (wt i) (xs i)) (xs i).d g'):Moved p W j tag x0 wt xs ls D t w i (runT p.P (crowd gs w sl) (p.n0+i)) sl:=by
 have hseat:p.WSeat i (wt i) { xs i with d:=deafBehind (xs i).d #[],g:=g' }:=by
  rw [seat_st hs,st_pos]
  exact hid
 refine quietMoved h hi hseat (near_same h rfl rfl (.inr ⟨rfl,?_⟩)) (h.quiet hi hbi hgo (EffM.refl _ _) (by simp) hseat Iff.rfl id (fun e=>h.lkd i hi e) (h.ph i hi) (fun _=>Iff.rfl) (fun _=>Iff.rfl) (by rw [idles_8 hs];omega) (.inl (idles_8 hs)) (mi_same h rfl rfl (x' :={ xs i with d:=deafBehind (xs i).d #[],g:=g' })))
 rw [wnx_st hs]
 exact ⟨rfl,rfl,rfl,hns,w,w,#[],h.inv,hgo,rfl⟩
theorem MCo.lawW(h:p.MCo W j tag x0 bl wt bw xs ls O D gs w t){i:Nat}(hi:i < j)(hbi:bw i=false){y:Lk}{K:Lk→Nat→Goroutine→Prop}(hy:lkOf (wt i)=y)(h8:stN (wt i)=8)(hea':∀s':WT,early s' → stN s' = 8→True)
  (hx:p.Lw K y (xs i).d (xs i).g) (to:Lk→WT) (hto:∀y' m q m' q' d g,Mv m q y m' q' y' → K y' d g→lkOf (to y')=y' ∧ stN (to y')=8∧p.WSeat i (to y') { xs i with d:=d,g:=g }∧(holds (to y')↔holds (wt i))∧(early (to y')→early (wt i)) ∧
   (locking (to y')→p.locks i=true)∧phase (to y')∧(past (to y')↔past (wt i))∧(∀v,to y' = .cr v↔wt i = .cr v)∧(∀m,rk m y' < rk m y→rkW m (to y') < rkW m (wt i))) (hw:∀sv,y = .s1 sv→p.Waits i (wt i) (xs i)) :
  Went p W j tag x0 bl wt bw xs ls O D t w i (runT p.P (crowd gs w sl) (p.n0+i)) sl:=by
 obtain ⟨m,q,hm,hmi,hbq⟩:=h.mi
 have hf:=hmi.fits hi
 rw [hy] at hf
 obtain ⟨hd1,hr,_,hus,hall⟩:=hx
 rcases hall w m q h.inv hm hf with ⟨⟨sv,hs1⟩,hq0,hgo⟩|⟨y',m',q',g',w',es,hmv,hgo,hm',he,hes,hrun,hK⟩
 ·refine .inr ?_
  have hq:∀m₁ q₁,MuAt p.tM p.Mu w m₁ q₁→q₁=0:=by
   intro m₁ q₁ h1
   unfold MuAt at h1 hm
   rw [hm] at h1
   simp at h1
   omega
  obtain ⟨gs',ops,k1,k2⟩:=h.wsleep (sl:=sl) hi hbi (hw sv hs1) hq hgo
  exact ⟨gs',by rw [k1],by rw [k1];exact k2⟩
 ·refine .inl ?_
  obtain ⟨t1,t2,t3,t4,t5,t6,t7,t8,t9,t10⟩:=hto y' m q m' q' _ _ hmv hK
  have e1:(fun k=>lkOf (upd wt i (to y') k))=upd (fun k=>lkOf (wt k)) i y' :=by rw [upd_fun,t1]
  have hmi':MI p.B j (fun k=>lkOf (upd wt i (to y') k)) m' q' :=by
   rw [e1]
   exact hmi.step hi hy hmv
  have hph:=Phi.step (lk:=fun k=>lkOf (wt k)) hi hy hmv (hf.2.2.2.1)
  refine quietMoved h hi t3 ⟨m,q,m',q',hm,hmi.bits,hm',hmi'.bits,?_⟩ (h.quiet hi hbi hgo he hes t3 t4 t5 t6 t7 (fun _=>t8) t9 (by omega) (.inl t2) ⟨m',q',hm',hmi',?_⟩)
  ·rw [e1]
   rcases hph with hp|⟨p1,p2,p3⟩
   ·exact .inl hp
   ·exact .inr ⟨p1,p2,.inl (t10 m p3)⟩
  ·by_cases hyu:y = .us
   ·exact .inr (.inl ⟨hus hyu,hrun hyu⟩)
   ·have hle:=hmv.q_le hyu
    rcases Nat.eq_zero_or_pos q' with e|e
    ·exact .inl e
    ·refine .inr (.inr fun k hk=>?_)
     cases hb:bw k with
     |false=>rfl
     |true=>have:=hbq k hk hb;omega
theorem MCo.skip(h:p.MCo W j tag x0 bl wt bw xs ls O D gs w t){i:Nat}(hi:i < j)(hbi:bw i=false)(hs:wt i = .work)(hx:p.WSkp i (xs i).d (xs i).g):p.MCo W j tag x0 bl (upd wt i (.fin 7)) bw xs ls O D gs w t:=by
 obtain ⟨hd0,hl,hnx⟩:=hx
 have hsx:p.WSeat i (.fin 7) (xs i):=by
  show IdleD p.P false (Lv p.L p.Wg) X0 (WRel p.P p.L p.Wg) (xs i).d (xs i).g
  rw [hd0];exact hnx
 have hfr:=free_upd (j:=j) (wt:=wt) (s' :=.fin 7) hi (by rw [hs];exact Iff.rfl)
 obtain ⟨m,q,m1,m2,m3⟩:=h.mi
 refine ⟨h.hn0,h.size,h.main,fun e=>?_,h.seat,h.O0,h.D0,h.rely,h.deaf,fun k hk=>?_,fun k hk hb=>?_,fun k hk he=>?_,fun k hk he=>?_,fun k hk=>?_,h.lv,h.ti,by rw [pred_eq hfr];exact h.own,h.hW,fun hf=>h.tok (hfr.1 hf),fun k hk he=>?_,
  Cell.same h.cell hi (fun e=>by rw [hl] at e;cases e) (fun v=>by rw [hs];exact ⟨fun e=>(by cases e),fun e=>(by cases e)⟩) (.inr rfl),fun k hk he=>?_,h.norel,⟨m,q,m1,?_,m3⟩,md_to h hi (by rw [hs];simp [stN]) (.inr (.inl rfl)) rfl,h.left⟩
 ·exact ⟨(h.blk e).1,bl_to h hi (fun _=>by simp [stN]) e⟩
 ·obtain ⟨h1,h2,h3⟩:=h.wk k hk
  refine ⟨h1,?_,h3⟩
  by_cases e:k=i
  ·subst e;rw [upd_same];exact hsx
  ·rw [upd_ne wt _ e];exact h2
 ·by_cases e:k=i
  ·subst e;rw [hbi] at hb;cases hb
  ·rw [upd_ne wt _ e];exact h.bs k hk hb
 ·by_cases e:k=i
  ·subst e;rw [upd_same] at he;exact he.elim
  ·rw [upd_ne wt _ e] at he;exact h.wO k hk he
 ·by_cases e:k=i
  ·subst e;rw [upd_same] at he;exact he.elim
  ·rw [upd_ne wt _ e] at he;exact h.lkd k hk he
 ·by_cases e:k=i
  ·subst e;rw [upd_same];trivial
  ·rw [upd_ne wt _ e];exact h.ph k hk
 ·by_cases e:k=i
  ·subst e;rw [upd_same] at he;exact he.elim
  ·rw [upd_ne wt _ e] at he;exact h.hold k hk he
 ·by_cases e:k=i
  ·subst e;rw [upd_same] at he;simp [stN] at he
  ·rw [upd_ne wt _ e] at he;exact h.over k hk he
 ·rw [upd_fun]
  exact m2.still (y:=.done) hi (by rw [hs];rfl) (by rw [hs];rfl) (by rw [hs];rfl) (by rw [hs];rfl) (by rw [hs];rfl) (by rw [hs];rfl) (.inl (by rw [hs];exact id)) trivial
theorem MCo.walkW(h:p.MCo W j tag x0 bl wt bw xs ls O D gs w t){i:Nat}(hi:i < j)(hbi:bw i=false){Stop:(Nat→Prop)→Nat→(Nat→Prop)→Goroutine→World→Prop}(he:early (wt i))(h8:stN (wt i)=8)
  (hsi:WkD p.P false p.I X0 (xs i).D (Stop (xs i).D) (xs i).d (xs i).O (xs i).g (xs i).w) (hns:¬Stop (xs i).D (xs i).d (xs i).O (xs i).g (xs i).w)
  (hS:∀x:Pos,p.WSeat i (wt i) x=WkD p.P false p.I X0 x.D (Stop x.D) x.d x.O x.g x.w) (hN:p.WNx i (wt i)=NxD p.P false p.I Stop) (hc:(∃v,wt i = .cr v)∨¬holds (wt i)) :
  Moved p W j tag x0 wt xs ls D t w i (runT p.P (crowd gs w sl) (p.n0+i)) sl:=by
 obtain ⟨hO,hD,hrel⟩:=h.wO i hi he
 have hinv:=h.inv
 generalize hx:xs i=y at hsi hns hO hD hrel
 obtain ⟨OO,DD,dd,gg,ww⟩:=y
 dsimp only at hsi hns hO hD hrel
 cases hsi with
 |stop hs=>exact absurd hs hns
 |step hst f u es hk k=>
  have hrw:Rely OO DD ww w:=by rw [hO,hD];exact hrel
  obtain ⟨hgo,hG⟩:=hk w hrw hinv
  have hnext:=k w hrw hinv
  have hG':Guar X0 (O (p.n0+i)) (D (p.n0+i)) w (u w) (es w):=by rw [←hO,←hD];exact hG
  have hkeep:∀b,W b→(u w).heap[b]? = w.heap[b]? :=fun b hb=>hG'.heap b (h.own.wlt b (.inl hb)) fun ho=>h.own.ow _ b (by omega) ho (.inl hb)
  have hseat:p.WSeat i (wt i) ⟨grow OO w (u w),DD,deafBehind dd (es w),f w,u w⟩:=by rw [hS];exact hnext
  have hsame:upd wt i (wt i)=wt:=by
   funext k
   by_cases e:k=i
   ·subst e;rw [upd_same]
   ·rw [upd_ne wt _ e]
  have hcl:(∃v,wt i = .cr v)∨(u w).heap[p.C]? = w.heap[p.C]? :=by
   rcases hc with hc|hc
   ·exact .inl hc
   ·exact .inr (hG'.heap _ h.hW.2.2.2.2 (h.notC hi hc))
  obtain ⟨gs',bl',bw',O',k1,k2⟩:=h.worker (sl:=sl) hi hbi (x' :=⟨grow OO w (u w),DD,deafBehind dd (es w),f w,u w⟩) (s' :=wt i) (es:=es w) (w' :=u w) (by rw [hx];exact hgo) (hG'.wide fun e x=>x.elim) (by rw [hx]) hseat Iff.rfl
   (fun _=>⟨by rw [hO],hD,.refl _⟩) (fun e=>h.lkd i hi e) (h.ph i hi) (Cell.same h.cell hi (fun _=>Iff.rfl) (fun _=>Iff.rfl) hcl) (fun e=>by omega) (fun e he=>evO_norel (hG'.ev e he) fun x=>x.elim)
   (mi_same h rfl (hkeep _ h.hW.2.1) (x' :=⟨grow OO w (u w),DD,deafBehind dd (es w),f w,u w⟩)) (md_to h hi (by omega) (.inl h8) (hkeep _ h.hW.1)) (fun bl' hb _ _=>bl_to h hi id hb)
  refine ⟨gs',u w,bl',bw',wt i,_,O',by rw [k1],hseat,near_same h rfl (hkeep _ h.hW.2.1) (.inr ⟨rfl,?_⟩),by rw [k1];exact k2⟩
  rw [hN,hx]
  exact ⟨rfl,hns,w,es w,hrw,hinv,hgo,rfl,rfl⟩
theorem MCo.done(h:p.MCo W j tag x0 bl wt bw xs ls O D gs w t)(hV:∀k v,p.V v→p.V (p.f k v)){i:Nat}(hi:i < j)(hbi:bw i=false){v:Vals}(hs:wt i = .cr v)(hx:p.CrS i v (xs i).D (xs i).d (xs i).O (xs i).g (xs i).w) :
  Moved p W j tag x0 wt xs ls D t w i (runT p.P (crowd gs w sl) (p.n0+i)) sl:=by
 obtain ⟨hd0,hr,hcell,g',es,hgo,hes,hde,hid⟩:=hx
 obtain ⟨m,q,hm,hmi,hbq⟩:=h.mi
 obtain ⟨hO,hD,hrel⟩:=h.wO i hi (by rw [hs];trivial)
 have hgo:=hgo w m q h.inv hm
 have hseat:p.WSeat i .rl { xs i with d:=deafBehind (xs i).d es,g:=g' }:=by
  show IdleD p.P false p.I X0 p.RlS (deafBehind (xs i).d es) g'
  rw [hd0,hde];exact hid
 have hlt:p.Mu < w.heap.size:=h.own.wlt _ (.inl h.hW.2.1)
 have hOC:=h.hold i hi (by rw [hs];trivial)
 obtain ⟨order,c1,c2,c3,c4,c5⟩:=h.cell
 have hv:=c4 i hi v hs
 have hlk:=h.lkd i hi (by rw [hs];trivial)
 have hnot:i∉order:=fun hm=>by have:=((c2 i).1 hm).2.2;rw [hs] at this;exact this
 have hfold:p.fold (order ++ [i])=p.f i v:=by unfold fold;rw [List.foldl_append,hv];rfl
 have hcell':p.Cell j (upd wt i .rl) w:=by
  refine ⟨order ++ [i],?_,fun k=>?_,by rw [hfold,hv];exact hV i _ c3,fun k hk u e=>?_,fun hn=>?_⟩
  ·rw [List.nodup_append]
   exact ⟨c1,by simp,fun a ha b hb=>by simp at hb;subst hb;exact fun e=>hnot (e ▸ ha)⟩
  ·rw [List.mem_append,c2]
   by_cases e:k=i
   ·subst e;rw [upd_same];simp [hi,hlk,past]
   ·rw [upd_ne wt _ e];simp [e]
  ·by_cases e':k=i
   ·subst e';rw [upd_same] at e;cases e
   ·rw [upd_ne wt _ e'] at e
    exact absurd (h.one hk hi (by rw [e];rfl) (by rw [hs];rfl)) e'
  ·rw [hfold]
   unfold CellIs at hcell ⊢
   rw [hrel.own p.C hOC]
   exact hcell
 have hG:=guar_eff (p:=p) (k:=p.n0+i) (O:=O) (D:=D) h.hW.2.1 hlt (EffM.refl p.Mu w) hes
 refine quietMoved h hi hseat (near_same h (by rw [hs];rfl) rfl (.inl fun m=>by rw [hs];simp [rkW])) (h.worker (sl:=sl) hi hbi (x' :={ xs i with d:=deafBehind (xs i).d es,g:=g' }) hgo hG rfl hseat (by rw [hs];exact Iff.rfl) (fun e=>e.elim) (fun _=>hlk) trivial hcell' (fun e=>by simp [stN] at e) (fun e he=>libEv_norel (hes e he))
  (mi_same h (by rw [hs];rfl) rfl (x' :={ xs i with d:=deafBehind (xs i).d es,g:=g' })) (md_to h hi (by rw [hs];simp [stN]) (.inl rfl) rfl) (fun bl' hb _ _=>bl_to h hi (fun _=>by simp [stN]) hb))
theorem MCo.stepW(hn:p.n < 2147483647)(hV:∀k v,p.V v→p.V (p.f k v))(h:p.MCo W j tag x0 bl wt bw xs ls O D gs w t){i:Nat}(hi:i < j)(hbi:bw i=false)(hr:(xs i).g.status = .running) :
  Went p W j tag x0 bl wt bw xs ls O D t w i (runT p.P (crowd gs w sl) (p.n0+i)) sl:=by
 obtain ⟨hgi,hsi,hdi⟩:=h.wk i hi
 have hinv:=h.inv
 have hphi:=h.ph i hi
 have on:∀ {s':WT} {g':Goroutine} {es:Array Event},stepG p.P false (xs i).g w = .go g' w es→(∀e∈es,LibEv p.Mu e)→p.WSeat i s' { xs i with d:=deafBehind (xs i).d es,g:=g' }→lkOf s' = lkOf (wt i)→(∀m,rkW m s' < rkW m (wt i))→(holds s' ↔ holds (wt i))→(early s' → early (wt i)) →
   (locking s' → p.locks i=true)→phase s' → (past s' ↔ past (wt i))→(∀v,s' = .cr v↔wt i = .cr v)→stN (wt i)=8→(stN s' = 8∨stN s' = 7)→Went p W j tag x0 bl wt bw xs ls O D t w i (runT p.P (crowd gs w sl) (p.n0+i)) sl:=by
  intro s' g' es hgo hes hseat h1 h2 h3 h4 h5 h6 h7 h8 h9 h10
  exact .inl (quietMoved h hi hseat (near_same h h1 rfl (.inl h2)) (h.quiet hi hbi hgo (EffM.refl _ _) hes hseat h3 h4 h5 h6 (fun _=>h7) h8 (by omega) h10 (mi_same h h1 rfl (x' :={ xs i with d:=deafBehind (xs i).d es,g:=g' }))))
 have crne:∀ {s s':WT},(∀v,s ≠ .cr v)→(∀v,s' ≠ .cr v)→∀v,s' = .cr v↔s = .cr v:=fun a b v=>⟨fun e=>absurd e (b v),fun e=>absurd e (a v)⟩
 cases hs:wt i with
 |work=>
  rw [hs] at hsi
  by_cases hsk:p.WSkp i (xs i).d (xs i).g
  ·have h' :=h.skip hi hbi hs hsk
   obtain ⟨gs',w',bl',bw',s',x',O',k1,k2,⟨m,q,m',q',n1,n2,n3,n4,n5⟩,k4⟩:=MCo.stepF (sl:=sl) hn h' hi hbi hr (upd_same wt i _)
   have e1:upd (upd wt i (.fin 7)) i s' = upd wt i s' :=by
    funext k
    by_cases e:k=i
    ·subst e;rw [upd_same,upd_same]
    ·rw [upd_ne _ _ e,upd_ne _ _ e,upd_ne _ _ e]
   rw [e1] at k4
   refine .inl ⟨gs',w',bl',bw',s',x',O',k1,k2,⟨m,q,m',q',n1,n2,n3,n4,.inl ?_⟩,k4⟩
   rw [e1] at n5
   have hlt:Phi j (fun k=>lkOf (upd wt i (.fin 7) k)) q < Phi j (fun k=>lkOf (wt k)) q:=by
    rw [upd_fun]
    have e:=sm_upd (lk:=fun k=>lkOf (wt k)) pt .done hi
    have l:=sm_le (lk:=fun k=>lkOf (wt k)) pt hi
    rw [hs] at e l
    unfold Phi
    have e2:pt (lkOf .work)=5:=rfl
    have e3:pt .done=0:=rfl
    have e4:lkOf (.fin 7) = .done:=rfl
    rw [e4]
    omega
   rcases n5 with n5|⟨_,n5,_⟩<;>omega
  ·by_cases hst:p.WLk i (xs i).D (xs i).d (xs i).O (xs i).g (xs i).w
   ·obtain ⟨hr',hst|hst⟩:=hst
    ·obtain ⟨hd0,hlk,_,g',hgo,hls⟩:=hst
     have hseat:p.WSeat i (.lck .l0) { xs i with d:=deafBehind (xs i).d #[Go.ConcR.mk .disable],g:=g' }:=by
      show IdleD p.P false p.I X0 _ (deafBehind (xs i).d #[Go.ConcR.mk .disable]) g'
      have e:deafBehind (xs i).d #[Go.ConcR.mk .disable]=1:=by rw [hd0];rfl
      rw [e]
      exact hls.out
     obtain ⟨m,q,hm,hmi,hbq⟩:=h.mi
     have hlw:lkOf (wt i) = .out:=by rw [hs];rfl
     have e1:(fun k=>lkOf (upd wt i (.lck .l0) k))=upd (fun k=>lkOf (wt k)) i .l0:=upd_fun lkOf wt i _
     have hmi':MI p.B j (fun k=>lkOf (upd wt i (.lck .l0) k)) m q:=by rw [e1];exact hmi.step hi hlw .enter
     refine .inl (quietMoved h hi hseat ⟨m,q,m,q,hm,hmi.bits,hm,hmi.bits,?_⟩ (h.quiet hi hbi (hgo w hinv) (EffM.refl _ _) (lib_mark (.inl rfl)) hseat (by rw [hs];exact Iff.rfl) (fun _=>by rw [hs];trivial) (fun _=>hlk) trivial (fun _=>by rw [hs];exact Iff.rfl) (by rw [hs];exact crne (fun _ e=>by cases e) (fun _ e=>by cases e)) (by rw [hs];simp [stN]) (.inl rfl) ⟨m,q,hm,hmi',?_⟩))
     ·rw [e1]
      rcases Phi.step (B:=p.B) (lk:=fun k=>lkOf (wt k)) hi hlw (Mv.enter (m:=m) (q:=q)) trivial with hp|⟨p1,p2,p3⟩
      ·exact .inl hp
      ·exact .inr ⟨rfl,p2,.inl (by rw [hs];simp [rkW,rk])⟩
     ·rcases Nat.eq_zero_or_pos q with e|e
      ·exact .inl e
      ·refine .inr (.inr fun k hk=>?_)
       cases hb:bw k with
       | false=>rfl
       | true=>have:=hbq k hk hb;omega
    ·exact absurd hst hsk
   ·exact .inl (h.walkW hi hbi (Stop:=fun D=>p.WLk i D) (by rw [hs];trivial) (by rw [hs];rfl) hsi hst (fun x=>by rw [hs];rfl) (by rw [hs];rfl) (.inr (by rw [hs];exact id)))
 |lck y=>
  rw [hs] at hsi hphi
  have hyL:isL y:=hphi
  rcases idle_go hsi hinv with hx|⟨hnS,g',hgo,hid⟩
  ·have hlkd:=h.lkd i hi (by rw [hs];trivial)
   refine h.lawW hi hbi (y:=y) (by rw [hs];rfl) (by rw [hs];rfl) (fun _ _ _=>trivial) hx (fun y'=>match y' with | .own=>.en|y'=>.lck y') (fun y' m q m' q' d g hmv hK=>?_) (fun sv e=>?_)
   ·rcases hmv.inL hyL with hL|rfl
    ·have e:(match y' with | .own=>WT.en|y'=>.lck y') = .lck y' :=by cases y'<;>first|rfl|exact hL.elim
     rw [e,hs]
     refine ⟨rfl,rfl,(Nx.ofL hL hK).out,Iff.rfl,id,fun _=>hlkd,hL,Iff.rfl,crne (fun _ e=>by cases e) (fun _ e=>by cases e),fun m hlt=>by simp only [rkW];omega⟩
    ·rw [hs]
     exact ⟨rfl,rfl,hK,Iff.rfl,fun _=>trivial,fun _=>hlkd,trivial,Iff.rfl,crne (fun _ e=>by cases e) (fun _ e=>by cases e),fun m hlt=>by simp only [rkW];omega⟩
   ·exact ⟨⟨sv,by rw [hs,e]⟩,by rw [hs];exact hx⟩
  ·exact .inl (h.idleW hi hbi (by rw [hs];trivial) (by rw [hs];exact hnS) hgo (by rw [hs];exact hid))
 |en=>
  rw [hs] at hsi
  rcases idle_go hsi hinv with hx|⟨hnS,g',hgo,hid⟩
  ·obtain ⟨hd1,_,g',hgo,hid⟩:=hx
   refine on (s' :=.ac) (hgo w hinv) (lib_mark (.inr rfl)) ?_ (by rw [hs];rfl) (fun m=>by rw [hs];simp [rkW]) (by rw [hs];exact Iff.rfl) (fun _=>by rw [hs];trivial) (fun _=>h.lkd i hi (by rw [hs];trivial)) trivial (by rw [hs];exact Iff.rfl) (by rw [hs];exact crne (fun _ e=>by cases e) (fun _ e=>by cases e)) (by rw [hs];rfl) (.inl rfl)
   show IdleD p.P false p.I X0 _ (deafBehind (xs i).d #[Go.ConcR.mk .enable]) g'
   have e:deafBehind (xs i).d #[Go.ConcR.mk .enable]=0:=by rw [hd1];rfl
   rw [e];exact hid
  ·exact .inl (h.idleW hi hbi (by rw [hs];trivial) (by rw [hs];exact hnS) hgo (by rw [hs];exact hid))
 |ac=>
  rw [hs] at hsi
  rcases idle_go hsi hinv with hx|⟨hnS,g',hgo,hid⟩
  ·obtain ⟨hd0,_,g',hgo,hT⟩:=hx
   obtain ⟨gs',bl',bw',v,x',O',ops,k1,k2,k3⟩:=h.take (sl:=sl) hi hbi hs hd0 (hgo w hinv) hT
   exact .inl ⟨gs',w,bl',bw',.cr v,x',O',by rw [k1],k2,near_same h (by rw [hs];rfl) rfl (.inl fun m=>by rw [hs];simp [rkW]),by rw [k1];exact k3⟩
  ·exact .inl (h.idleW hi hbi (by rw [hs];trivial) (by rw [hs];exact hnS) hgo (by rw [hs];exact hid))
 |cr v=>
  rw [hs] at hsi
  by_cases hst:p.CrS i v (xs i).D (xs i).d (xs i).O (xs i).g (xs i).w
  ·exact .inl (h.done hV hi hbi hs hst)
  ·exact .inl (h.walkW hi hbi (Stop:=fun D=>p.CrS i v D) (by rw [hs];trivial) (by rw [hs];rfl) hsi hst (fun x=>by rw [hs];rfl) (by rw [hs];rfl) (.inl ⟨v,hs⟩))
 |rl=>
  rw [hs] at hsi
  rcases idle_go hsi hinv with hx|⟨hnS,g',hgo,hid⟩
  ·obtain ⟨hd0,_,g',hgo,hid⟩:=hx
   have hseat:p.WSeat i .ds { xs i with d:=0,g:=g' }:=hid
   obtain ⟨gs',bl',bw',O',ops,k1,k2⟩:=h.give (sl:=sl) hi hbi hs hd0 (hgo w hinv) hseat
   exact .inl ⟨gs',w,bl',bw',.ds,_,O',by rw [k1],hseat,near_same h (by rw [hs];rfl) rfl (.inl fun m=>by rw [hs];simp [rkW]),by rw [k1];exact k2⟩
  ·exact .inl (h.idleW hi hbi (by rw [hs];trivial) (by rw [hs];exact hnS) hgo (by rw [hs];exact hid))
 |ds=>
  rw [hs] at hsi
  rcases idle_go hsi hinv with hx|⟨hnS,g',hgo,hid⟩
  ·obtain ⟨hd0,_,g',hgo,hls⟩:=hx
   refine on (s' :=.ulk .own) (hgo w hinv) (lib_mark (.inl rfl)) ?_ (by rw [hs];rfl) (fun m=>by rw [hs];simp [rkW,rk]) (by rw [hs];exact Iff.rfl) (fun e=>e.elim) (fun _=>h.lkd i hi (by rw [hs];trivial)) trivial (by rw [hs];exact Iff.rfl) (by rw [hs];exact crne (fun _ e=>by cases e) (fun _ e=>by cases e)) (by rw [hs];rfl) (.inl rfl)
   show IdleD p.P false p.I X0 _ (deafBehind (xs i).d #[Go.ConcR.mk .disable]) g'
   have e:deafBehind (xs i).d #[Go.ConcR.mk .disable]=1:=by rw [hd0];rfl
   rw [e];exact hls.out
  ·exact .inl (h.idleW hi hbi (by rw [hs];trivial) (by rw [hs];exact hnS) hgo (by rw [hs];exact hid))
 |ulk y=>
  rw [hs] at hsi hphi
  have hyU:isU y:=hphi
  rcases idle_go hsi hinv with hx|⟨hnS,g',hgo,hid⟩
  ·have hlkd:=h.lkd i hi (by rw [hs];trivial)
   refine h.lawW hi hbi (y:=y) (by rw [hs];rfl) (by rw [hs];rfl) (fun _ _ _=>trivial) hx (fun y'=>match y' with | .done=>.ue|y'=>.ulk y') (fun y' m q m' q' d g hmv hK=>?_) (fun sv e=>by rw [e] at hyU;exact hyU.elim)
   rcases hmv.inU hyU with hU|rfl
   ·have hno:=hmv.not_own hyU
    have e:(match y' with | .done=>WT.ue|y'=>.ulk y') = .ulk y' :=by cases y'<;>first|rfl|exact hU.elim
    rw [e,hs]
    refine ⟨rfl,rfl,(Nx.ofU hU hno hK).out,Iff.rfl,fun e=>e.elim,fun _=>hlkd,hU,Iff.rfl,crne (fun _ e=>by cases e) (fun _ e=>by cases e),fun m hlt=>by simp only [rkW];omega⟩
   ·rw [hs]
    exact ⟨rfl,rfl,hK,Iff.rfl,fun e=>e.elim,fun _=>hlkd,trivial,Iff.rfl,crne (fun _ e=>by cases e) (fun _ e=>by cases e),fun m hlt=>by simp only [rkW];omega⟩
  ·exact .inl (h.idleW hi hbi (by rw [hs];trivial) (by rw [hs];exact hnS) hgo (by rw [hs];exact hid))
 |ue=>
  rw [hs] at hsi
  rcases idle_go hsi hinv with hx|⟨hnS,g',hgo,hid⟩
  ·obtain ⟨hd1,_,g',hgo,hid⟩:=hx
   refine on (s' :=.fin 7) (hgo w hinv) (lib_mark (.inr rfl)) ?_ (by rw [hs];rfl) (fun m=>by rw [hs];simp [rkW]) (by rw [hs];exact Iff.rfl) (fun e=>e.elim) (fun e=>e.elim) trivial (by rw [hs];exact Iff.rfl) (by rw [hs];exact crne (fun _ e=>by cases e) (fun _ e=>by cases e)) (by rw [hs];rfl) (.inr rfl)
   show IdleD p.P false (Lv p.L p.Wg) X0 (WRel p.P p.L p.Wg) (deafBehind (xs i).d #[Go.ConcR.mk .enable]) g'
   have e:deafBehind (xs i).d #[Go.ConcR.mk .enable]=0:=by rw [hd1];rfl
   rw [e];exact hid
  ·exact .inl (h.idleW hi hbi (by rw [hs];trivial) (by rw [hs];exact hnS) hgo (by rw [hs];exact hid))
 |fin s=>exact .inl (h.stepF hn hi hbi hr hs)
end Ph
end Go.Mx
namespace Go.Mx
open Go.Ren
open Go.Conc hiding Goes mem_ofEvents
open Go.ConcN (sumTo upd upd_same upd_ne sumTo_congr sumTo_upd le_sumTo RelBy get_map_set get_map_set_same WgLive norel_of Deaf_absent)
open Go.Conc.Lib (WgLink)
open Go.ConcR (KK WgAt stA smA rd wr g_of_ofEvents loc_of_ofEvent)
namespace Ph
variable{p:Ph}{W:Nat→Prop}{j:Nat}{tag:MTag}{x0:Pos}{bl:Bool}{wt:Nat→WT}{bw:Nat→Bool}{xs ls:Nat→Pos}{O D:Nat→Nat→Prop}{gs:Array Goroutine}{w w':World}{sl:Option (Nat×Nat)}{t:Trace}
theorem Cell.to{wt:Nat→WT}(h:p.Cell j wt w)(hw:w'.heap[p.C]? = w.heap[p.C]?):p.Cell j wt w' :=by
 obtain ⟨order,h1,h2,h3,h4,h5⟩:=h
 exact ⟨order,h1,h2,h3,h4,fun hn=>by unfold CellIs;rw [hw];exact h5 hn⟩
theorem MCo.notC0(h:p.MCo W j tag x0 bl wt bw xs ls O D gs w t):¬O 0 p.C:=by
 intro hO
 have hn0:=h.hn0
 by_cases hf:free j wt
 ·exact h.own.ow _ _ (by omega) hO (.inr ⟨hf,rfl⟩)
 ·apply hf
  intro k hk hh
  have:=h.own.oo _ _ _ (by omega) (by omega) hO (h.hold k hk hh)
  omega
theorem MCo.stepL(h:p.MCo W j tag x0 bl wt bw xs ls O D gs w t){k:Nat}(hk1:1≤k)(hk:k < p.n0)(hr:(ls k).g.status = .running) :
  ∃gs' bl' bw' x' ops,runT p.P (crowd gs w sl) k=(.next (crowd gs' w sl),ops)∧NxQ p.P x' (ls k)∧p.MCo W j tag x0 bl' wt bw' xs (upd ls k x') O D gs' w (t ++ ops):=by
 obtain ⟨hgk,⟨q,hq⟩,hdk,hgone⟩:=h.lv k hk1 hk
 rcases q with _|q
 ·have:=hq.1;rw [hr] at this;cases this
 rcases hq with ⟨h1,_⟩|⟨_,g',es,hmute,hgo,hq'⟩
 ·rw [hr] at h1;cases h1
 have hlt:p.Wg < w.heap.size:=h.own.wlt _ (.inl h.hW.1)
 have hsz:=h.size
 have hpos:k≠0:=by omega
 have hgo':stepG p.P (k == 0) (ls k).g w = .go g' w es:=by
  have:(k == 0)=false:=by simp;omega
  rw [this];exact hgo w
 have hev:∀e∈es,XOk W k e∧(MemAct.ofEvent e).low w.heap.size:=fun e he=>libEv_ok (Wg:=p.Wg) h.hW.1 hlt (mute_bk (hmute e he)).1
 have hG:GuarW (XOk W k) W (O k) (D k) w w es:=guarW_said hev
 have hti:=h.ti
 have hown:=h.ownW
 rw [←hsz] at hti hown
 obtain ⟨hrun,hti',_⟩:=core_step (sl:=sl) hgk hgo' hti hown hG
 rw [with_none,hsz] at hti'
 obtain ⟨bl',hw1,hw2,hw3⟩:=wokenM (P:=p.P) (w' :=w) (g:=(ls k).g) (g' :=g') (mseat_status h.seat) (blk_offers h)
 obtain ⟨bw',hbw⟩:=h.sleepers (ls k).g g' w
 have hops:∀op∈MemOp.ofEvents k (ls k).g.frame.fn (ls k).g.frame.place es,op.g=k:=g_of_ofEvents
 have hnt:∀op∈MemOp.ofEvents k (ls k).g.frame.fn (ls k).g.frame.place es,op.act.touch? = none:=fun op hop=>by
  rw [ofEvents_eq] at hop
  obtain ⟨e,he,rfl⟩:=Array.mem_map.1 hop
  exact (mute_bk (Wg:=p.Wg) (hmute e he)).2
 refine ⟨_,bl',bw',{ ls k with d:=deafBehind (ls k).d es,g:=g' },_,hrun,⟨hr,w,w,es,hgo w,rfl⟩,h.hn0,by simpa using hsz,?_,fun e=>h.blk (hw2 e),h.seat,h.O0,h.D0,h.rely,?_,fun i hi=>?_,fun i hi hb=>h.bs i hi ((hbw i hi).2.1 hb),h.wO,h.lkd,h.ph,fun i h1 h2=>?_,hti',h.own,h.hW,
  fun hf=>(h.tok hf).app (fun op hop x hx=>by rw [hnt op hop] at hx;cases hx),h.hold,h.cell,fun i hi hs=>?_,norel_app h.norel (fun e he=>libEv_norel (Wg:=p.Wg) (mute_bk (hmute e he)).1),?_,h.md,h.left⟩
 ·rw [get_map_set _ _ _ _ hpos,h.main,Option.map_some,hw1]
 ·rw [Deaf_other t hpos _ hops];exact h.deaf
 ·obtain ⟨h1,h2,h3⟩:=h.wk i hi
  refine ⟨?_,h2,by rw [Deaf_other t (by omega) _ hops];exact h3⟩
  rw [get_map_set _ _ _ _ (by omega),h1,Option.map_some,(hbw i hi).1]
 ·by_cases e:i=k
  ·subst e
   rw [upd_same]
   refine ⟨get_map_set_same _ _ _ (by rw [hsz];omega),⟨q,hq'⟩,by rw [Deaf_own,hdk],hgone.app (fun p hp hg hc=>?_) (fun op hop _ x hx=>?_)⟩
   ·obtain ⟨op,a1,a2⟩:=of_g? hg
    obtain ⟨x,hx,_⟩:=hc
    rcases getElem?_append_cases a1 with ⟨hl,_⟩|⟨_,hou⟩
    ·omega
    ·have:touchAt (t ++ MemOp.ofEvents i (ls i).g.frame.fn (ls i).g.frame.place es) p=some x:=hx
     rw [touchAt_of a1,hnt op hou] at this
     cases this
   ·rw [hnt op hop] at hx;cases hx
  ·obtain ⟨a1,⟨q',a2⟩,a3,a4⟩:=h.lv i h1 h2
   rw [upd_ne ls _ e]
   refine ⟨?_,⟨q',a2⟩,by rw [Deaf_other t (by omega) _ hops];exact a3,a4.appNot fun op hop e'=>by rw [hops op hop] at e';omega⟩
   rw [get_map_set _ _ _ _ (by omega),a1,Option.map_some,woken_rf a2.status]
 ·obtain ⟨r,hr'⟩:=h.over i hi hs
  exact ⟨r,hr'.appNot fun op hop e'=>by rw [hops op hop] at e';omega⟩
 ·obtain ⟨m,q,m1,m2,m3⟩:=h.mi
  exact ⟨m,q,m1,m2,fun i hi hb=>m3 i hi ((hbw i hi).2.1 hb)⟩
theorem MCo.starter(h:p.MCo W j tag x0 false wt bw xs ls O D gs w t){x':Pos}{es:Array Event}{tag':MTag}
  (hgo:stepG p.P true x0.g w = .go x'.g w' es) (hG:GuarW (XOk W 0) W (O 0) (D 0) w w' es) (hd:x'.d=deafBehind x0.d es) (hseat:p.MSeat tag' x') (hO:x'.O=grow (O 0) w w') (hD:x'.D=D 0) (hrel:Rely x'.O x'.D x'.w w')
  (hnr:∀e∈es,∀a,e.loc ≠ .mark (.release a)) (hmu:w'.heap[p.Mu]? = w.heap[p.Mu]?) (hmd:∃a b,WgAt p.L.tWg p.Wg w' a b∧Md j (fun k=>stN (wt k)) tag' a b) (hleft:leftM p.n j tag') :
  ∃gs' O' bw' ops,runT p.P (crowd gs w sl) 0=(.next (crowd gs' w' sl),ops)∧p.MCo W j tag' x' false wt bw' xs ls O' D gs' w' (t ++ ops):=by
 have hsz:=h.size
 have hn0:=h.hn0
 have hg0:gs[0]? = some x0.g:=by have:=h.main;simpa using this
 have hti:=h.ti
 have hown:=h.ownW
 rw [←hsz] at hti hown
 obtain ⟨hrun,hti',_⟩:=core_step (sl:=sl) (i:=0) hg0 (by simpa using hgo) hti hown hG
 rw [hsz] at hti'
 have hown' :=h.own.grow (i:=0) (by omega) hG.size
 have hrely:∀k,k < p.n0+j→k≠0→Rely (O k) (D k) w w' :=fun k hk hne=>hG.rely h.ownW (by omega) hk hne
 have hoth:∀k,k≠0→with_ O 0 w.heap.size w'.heap.size k=O k:=fun k hk=>with_other hk _ _
 have hself:with_ O 0 w.heap.size w'.heap.size 0=grow (O 0) w w' :=with_self O 0 w w'
 have hops:∀op∈MemOp.ofEvents 0 x0.g.frame.fn x0.g.frame.place es,op.g=0:=g_of_ofEvents
 obtain ⟨bw',hbw⟩:=h.sleepers x0.g x'.g w'
 have hnC:=h.notC0
 refine ⟨_,_,bw',_,hrun,h.hn0,by simpa using hsz,?_,fun e=>(by cases e),hseat,by rw [hself,hO],hD,hrel,?_,fun i hi=>?_,fun i hi hb=>h.bs i hi ((hbw i hi).2.1 hb),fun i hi hs=>?_,h.lkd,h.ph,fun k h1 h2=>?_,hti',hown',⟨h.hW.1,h.hW.2.1,h.hW.2.2.1,h.hW.2.2.2.1,Nat.lt_of_lt_of_le h.hW.2.2.2.2 hG.size⟩,
  fun hf=>(h.tok hf).app (ev_not hG.ev h.hW.2.2.2.1 ?_ ?_),fun i hi hs=>?_,Cell.to h.cell (hG.heap _ h.hW.2.2.2.2 hnC h.hW.2.2.2.1),fun i hi hs=>?_,norel_app h.norel hnr,?_,hmd,hleft⟩
 ·rw [get_map_set_same _ _ _ (by rw [hsz];omega)];rfl
 ·rw [Deaf_own,h.deaf,hd]
 ·obtain ⟨h1,h2,h3⟩:=h.wk i hi
  refine ⟨?_,h2,by rw [Deaf_other t (by omega) _ hops];exact h3⟩
  rw [get_map_set _ _ _ _ (by omega),h1,Option.map_some,(hbw i hi).1]
 ·obtain ⟨a1,a2,a3⟩:=h.wO i hi hs
  rw [hoth _ (by omega)]
  exact ⟨a1,a2,a3.trans (hrely _ (by omega) (by omega))⟩
 ·obtain ⟨a1,⟨q,a2⟩,a3,a4⟩:=h.lv k h1 h2
  refine ⟨?_,⟨q,a2⟩,by rw [Deaf_other t (by omega) _ hops];exact a3,a4.appNot fun op hop e'=>by rw [hops op hop] at e';omega⟩
  rw [get_map_set _ _ _ _ (by omega),a1,Option.map_some,woken_rf a2.status]
 ·have how:=hown'.ow 0 p.C (by omega)
  rw [hself] at how
  exact fun x=>how x (.inr ⟨hf,rfl⟩)
 ·exact fun x=>h.own.dw 0 p.C (by omega) x (.inr ⟨hf,rfl⟩)
 ·rw [hoth _ (by omega)]
  exact h.hold i hi hs
 ·obtain ⟨r,hr'⟩:=h.over i hi hs
  exact ⟨r,hr'.appNot fun op hop e'=>by rw [hops op hop] at e';omega⟩
 ·obtain ⟨m,q,m1,m2,m3⟩:=h.mi
  exact ⟨m,q,by unfold MuAt at m1 ⊢;rw [hmu];exact m1,m2,fun i hi hb=>m3 i hi ((hbw i hi).2.1 hb)⟩
theorem MCo.sleeps{gT:Goroutine}(h:p.MCo W j tag x0 false wt bw xs ls O D gs w t)(htag:tag = .w3 gT)(h3:M3 p.P p.L p.Wg gT x0.d x0.g)(hex:∃i,i < j∧2≤stN (wt i))(hgo:stepG p.P true x0.g w = .go { x0.g with status:=.blocked } w #[]) :
  ∃gs' ops,runT p.P (crowd gs w sl) 0=(.next (crowd gs' w sl),ops)∧p.MCo W j tag x0 true wt bw xs ls O D gs' w (t ++ ops):=by
 have hsz:=h.size
 have hn0:=h.hn0
 have hg0:gs[0]? = some x0.g:=by have:=h.main;simpa using this
 have hrun:=runT_crowd_go (P:=p.P) (sl:=sl) (i:=0) hg0 (by simpa using hgo)
 have ew:woken p.P x0.g { x0.g with status:=.blocked } w=id:=by funext o;simp [woken]
 rw [ew,Array.map_id] at hrun
 have e0:t ++ MemOp.ofEvents 0 x0.g.frame.fn x0.g.frame.place #[]=t:=by simp [MemOp.ofEvents]
 refine ⟨_,_,hrun,?_⟩
 rw [e0]
 refine ⟨h.hn0,by simpa using hsz,?_,fun _=>⟨⟨gT,htag,h3⟩,hex⟩,h.seat,h.O0,h.D0,h.rely,h.deaf,fun i hi=>?_,h.bs,h.wO,h.lkd,h.ph,fun k h1 h2=>?_,h.ti,h.own,h.hW,h.tok,h.hold,h.cell,h.over,h.norel,h.mi,h.md,h.left⟩
 ·rw [Array.getElem?_setIfInBounds_self_of_lt (by rw [hsz];omega)];rfl
 ·obtain ⟨a1,a2⟩:=h.wk i hi
  exact ⟨by rw [Array.getElem?_setIfInBounds_ne (by omega)];exact a1,a2⟩
 ·obtain ⟨a1,a2⟩:=h.lv k h1 h2
  exact ⟨by rw [Array.getElem?_setIfInBounds_ne (by omega)];exact a1,a2⟩
theorem MCo.libM(h:p.MCo W j tag x0 false wt bw xs ls O D gs w t){g':Goroutine}{es:Array Event}{tag':MTag}
  (hgo:stepG p.P true x0.g w = .go g' w' es) (hw:w' = w∨∃a v,a.block=p.Wg∧w' = w.setCell a v) (hes:∀e∈es,LibEv p.Wg e∨XM p.Wg e) (hseat:p.MSeat tag' { x0 with d:=deafBehind x0.d es,g:=g' })
  (hmd:∃a b,WgAt p.L.tWg p.Wg w' a b∧Md j (fun k=>stN (wt k)) tag' a b) (hleft:leftM p.n j tag') :
  ∃gs' O' bw' ops,runT p.P (crowd gs w sl) 0=(.next (crowd gs' w' sl),ops)∧p.MCo W j tag' { x0 with d:=deafBehind x0.d es,g:=g' } false wt bw' xs ls O' D gs' w' (t ++ ops):=by
 have hlt:p.Wg < w.heap.size:=h.own.wlt _ (.inl h.hW.1)
 have hn0:=h.hn0
 have hev:∀e∈es,XOk W 0 e∧(MemAct.ofEvent e).low w.heap.size:=fun e he=>(hes e he).elim (libEv_ok h.hW.1 hlt) (xm_ok h.hW.1 hlt)
 have hG:GuarW (XOk W 0) W (O 0) (D 0) w w' es:=by
  rcases hw with rfl|⟨a,v,ha,rfl⟩
  ·exact guarW_said hev
  ·exact guarW_cell (by rw [ha];exact h.hW.1) hev
 have hsz:w'.heap.size=w.heap.size:=by
  rcases hw with rfl|⟨a,v,_,rfl⟩
  ·rfl
  ·simp
 have hoth:∀b,b≠p.Wg→w'.heap[b]? = w.heap[b]? :=fun b hb=>by
  rcases hw with rfl|⟨a,v,ha,rfl⟩
  ·rfl
  ·exact setCell_other (by rw [ha];exact hb)
 have hrel:Rely (O 0) (D 0) w w' :=⟨hG.size,fun b hb=>hoth b fun e=>h.ownW.ow 0 b (by omega) hb (e ▸ h.hW.1),fun b hb=>hoth b fun e=>h.ownW.dw 0 b (by omega) hb (e ▸ h.hW.1),hG.os,hG.output,hG.tape⟩
 refine h.starter (x' :={ x0 with d:=deafBehind x0.d es,g:=g' }) hgo hG rfl hseat ?_ h.D0 ?_ (fun e he a=>(hes e he).elim (fun x=>libEv_norel x a) (fun x=>xm_norel x a)) (hoth p.Mu (Ne.symm h.hW.2.2.1)) hmd hleft
 ·show x0.O=_;rw [grow_eq hsz];exact h.O0
 ·exact h.rely.trans (by rw [h.O0,h.D0];exact hrel)
end Ph
end Go.Mx
