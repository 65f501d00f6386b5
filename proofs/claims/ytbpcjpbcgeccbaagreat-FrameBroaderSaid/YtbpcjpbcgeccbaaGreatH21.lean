import Derived.Test.YtbpcjpbcgeccbaaGreatH20
set_option linter.unusedVariables false
set_option linter.unusedSectionVars false
set_option linter.unusedSimpArgs false
namespace Go.Mx
open Go.Ren
open Go.Conc hiding Goes mem_ofEvents
open Go.ConcN (sumTo upd upd_same upd_ne RelBy get_map_set get_map_set_same WgLive PermW)
open Go.Conc.Lib (WgLink)
open Go.ConcR (KK WgAt stA smA rd wr g_of_ofEvents loc_of_ofEvent)
theorem Nx.ofL{R:Lk→Nat→Goroutine→Prop}{E:Nat→Goroutine→Prop}{y:Lk}{d:Nat}{g:Goroutine}(hy:Zt y)(h:Nx R E y d g):R y d g:=by
 cases y<;>first|exact h|exact hy.elim
theorem Nx.ofU{R:Lk→Nat→Goroutine→Prop}{E:Nat→Goroutine→Prop}{y:Lk}{d:Nat}{g:Goroutine}(hy:isU y)(ho:y ≠ .own)(h:Nx R E y d g):R y d g:=by
 cases y<;>first|exact h|exact absurd rfl ho|exact hy.elim
theorem Mv.WQ{m m':Wd}{q q':Nat}{x y:Lk}(h:Mv m q x m' q' y)(hx:isU x):y ≠ .own:=by
 cases h<;>first|(intro e;cases e;done)|exact hx.elim
theorem Mv.Zr{m m':Wd}{q q':Nat}{x y:Lk}(h:Mv m q x m' q' y)(hx:x ≠ .us):q' ≤ q:=by
 cases h<;>first|exact Nat.le_refl _|exact Nat.le_succ _|exact absurd rfl hx
namespace Ph
variable{p:Ph}{W:Nat→Prop}{j:Nat}{tag:dZ}{x0:Pos}{bl:Bool}{wt:Nat→WT}{bw:Nat→Bool}{xs ls:Nat→Pos}{O D:Nat→Nat→Prop}{gs:Array Goroutine}{w w':World}{sl:Option (Nat×Nat)}{t:Trace}
theorem dH.aiw(h:p.dH W j tag x0 bl wt bw xs ls O D gs w t){i:Nat}(hi:i < j)(hn:¬holds (wt i)):¬O (p.n0+i) p.C:=by
 intro hO
 by_cases hf:free j wt
 ·exact h.own.ow _ _ (by omega) hO (.inr ⟨hf,rfl⟩)
 ·apply hf
  intro k hk hh
  have h1:=h.hold k hk hh
  have:=h.own.oo _ _ _ (by omega) (by omega) hO h1
  have:i=k:=by omega
  subst this
  exact hn hh
theorem dH.lib(h:p.dH W j tag x0 bl wt bw xs ls O D gs w t){i:Nat}(hi:i < j)(hbi:bw i=false){g':Goroutine}{es:Array Event}{k k':Nat}(hs:wt i = .fin k)
  (hgo:stepG p.P false (xs i).g w = .go g' w' es) (hw:w' = w∨∃a v,a.block=p.Wg∧w' = w.setCell a v) (hes:∀e∈es,iM p.Wg e) (aA:p.dh i (.fin k') { xs i with d:=deafBehind (xs i).d es,g:=g' })
  (Jb:k' ≤ 5→∃r,Over (stA p.Wg) W (t ++ MemOp.ofEvents (p.n0+i) (xs i).g.frame.fn (xs i).g.frame.place es) (p.n0+i) r)
  (hmd:∃a b,WgAt p.L.tWg p.Wg w' a b∧Md j (upd (fun k=>fH (wt k)) i k') tag a b)
  (hbl:∀gz:Bool,bl=true→(mayWake p.P (xs i).g=true→(g'.status = .running∨g'.status = .finished)→gz = false)→gz = true→∃q,q < j∧2≤fH (upd wt i (.fin k') q)) :
  ∃gs' gz gy O',runT p.P (crowd gs w sl) (p.n0+i)=(.next (crowd gs' w' sl),MemOp.ofEvents (p.n0+i) (xs i).g.frame.fn (xs i).g.frame.place es) ∧
   p.dH W j tag x0 gz (upd wt i (.fin k')) gy (upd xs i { xs i with d:=deafBehind (xs i).d es,g:=g' }) ls O' D gs' w' (t ++ MemOp.ofEvents (p.n0+i) (xs i).g.frame.fn (xs i).g.frame.place es):=by
 have hlt:p.Wg < w.heap.size:=h.own.vP _ (.inl h.hW.1)
 have hev:∀e∈es,Gt W (p.n0+i) e∧(MemAct.ofEvent e).low w.heap.size:=fun e he=>xk h.hW.1 hlt (hes e he)
 have hG:ng (Gt W (p.n0+i)) W (O (p.n0+i)) (D (p.n0+i)) w w' es:=by
  rcases hw with rfl|⟨a,v,ha,rfl⟩
  ·exact qE hev
  ·exact BV (by rw [ha];exact h.hW.1) hev
 have hoth:∀b,b≠p.Wg→w'.heap[b]? = w.heap[b]? :=fun b hb=>by
  rcases hw with rfl|⟨a,v,ha,rfl⟩
  ·rfl
  ·exact dS (by rw [ha];exact hb)
 have hCW:p.C≠p.Wg:=fun e=>h.hW.2.2.2.1 (e ▸ h.hW.1)
 refine h.worker (sl:=sl) hi hbi (x' :={ xs i with d:=deafBehind (xs i).d es,g:=g' }) hgo hG rfl aA (by rw [hs];exact Iff.rfl) (fun e=>e.elim) (fun e=>e.elim) trivial
  (Cell.same h.cell hi (fun _=>by rw [hs];exact Iff.rfl) (fun v=>by rw [hs];exact ⟨fun e=>(by cases e),fun e=>(by cases e)⟩) (.inr (hoth _ hCW))) Jb (fun e he=>fJ (hes e he))
  (qC h (by rw [hs];rfl) (hoth _ h.hW.2.2.1.symm)) ?_ hbl
 obtain ⟨a,b,m1,m2⟩:=hmd
 exact ⟨a,b,m1,by rw [lS];exact m2⟩
theorem Ui(h:p.dH W j tag x0 bl wt bw xs ls O D gs w t){i k k':Nat}(hs:wt i = .fin k){x':Pos}(hw:w'.heap[p.Mu]? = w.heap[p.Mu]?)(hr:k' < k∨(k' = k∧p.VI i (.fin k) x' (xs i))):Gw p j wt xs w i (.fin k') x' w' :=by
 refine kF h (by rw [hs];rfl) hw ?_
 rw [hs]
 exact hr.imp (fun x _=>x) (fun ⟨e,x⟩=>⟨by rw [e],x⟩)
theorem dH.YE(hn:p.n < 2147483647)(h:p.dH W j tag x0 bl wt bw xs ls O D gs w t){i:Nat}(hi:i < j)(hbi:bw i=false)(hr:(xs i).g.status = .running){s:Nat}(hs:wt i = .fin s) :
  xg p W j tag x0 wt xs ls D t w i (runT p.P (crowd gs w sl) (p.n0+i)) sl:=by
 obtain ⟨hgi,hsi,hdi⟩:=h.wk i hi
 have hinv:=h.inv
 have hl:Lv p.L p.Wg w:=hinv.1
 have hj:=h.jn
 have hMW:p.Mu≠p.Wg:=h.hW.2.2.1.symm
 obtain ⟨st,hst⟩:∃st:Nat→Nat,st=fun k=>fH (wt k):=⟨_,rfl⟩
 have Jd:st i=s:=by rw [hst];show fH (wt i)=s;rw [hs];rfl
 have hMd:∃a b,WgAt p.L.tWg p.Wg w a b∧Md j st tag a b:=by rw [hst];exact h.md
 have toS:∀k' k,fH (upd wt i (.fin k') k)=upd st i k' k:=fun k' k=>by
  have:=congrFun (lS fH wt i (.fin k')) k
  rw [hst];exact this
 have fin:∀ {k':Nat} {g':Goroutine} {w':World} {es:Array Event},(w'.heap[p.Mu]? = w.heap[p.Mu]?)→p.dh i (.fin k') { xs i with d:=deafBehind (xs i).d es,g:=g' }→(k' < s∨(k' = s∧p.VI i (.fin s) { xs i with d:=deafBehind (xs i).d es,g:=g' } (xs i))) →
   (∃gs' gz gy O',runT p.P (crowd gs w sl) (p.n0+i)=(.next (crowd gs' w' sl),MemOp.ofEvents (p.n0+i) (xs i).g.frame.fn (xs i).g.frame.place es) ∧
    p.dH W j tag x0 gz (upd wt i (.fin k')) gy (upd xs i { xs i with d:=deafBehind (xs i).d es,g:=g' }) ls O' D gs' w' (t ++ MemOp.ofEvents (p.n0+i) (xs i).g.frame.fn (xs i).g.frame.place es)) →
   xg p W j tag x0 wt xs ls D t w i (runT p.P (crowd gs w sl) (p.n0+i)) sl:=by
  rintro k' g' w' es hw aA ho ⟨gs',gz,gy,O',h1,h2⟩
  exact ⟨gs',w',gz,gy,_,_,O',by rw [h1],aA,Ui h hs hw ho,by rw [h1];exact h2⟩
 have Ld:∃a b,WgAt p.L.tWg p.Wg w a b∧Md j (upd (fun k=>fH (wt k)) i s) tag a b:=by
  obtain ⟨a,b,m1,m2⟩:=hMd
  rw [←hst]
  exact ⟨a,b,m1,m2.same Jd⟩
 have yA:∀ {k'},(2≤s→2≤k')→bl=true→∃k,k < j∧2≤fH (upd wt i (.fin k') k):=fun hk=>BU h hi (by rw [hs];exact hk)
 have EM:s≤5→∃r,Over (stA p.Wg) W t (p.n0+i) r:=fun h5=>h.over i hi (by rw [hs];exact h5)
 have idle:∀ {S:Nat→Goroutine→Prop},2≤s→(∀x:Pos,p.dh i (.fin s) x=ag p.P false (Lv p.L p.Wg) X0 S x.d x.g)→p.VI i (.fin s)=Gf p.P false (Lv p.L p.Wg) S →
   ¬S (xs i).d (xs i).g→(∃g',stepG p.P false (xs i).g w = .go g' w #[]∧ag p.P false (Lv p.L p.Wg) X0 S (xs i).d g') →
   xg p W j tag x0 wt xs ls D t w i (runT p.P (crowd gs w sl) (p.n0+i)) sl:=by
  rintro S h2 hW hN hnS ⟨g',hgo,hid⟩
  have aA:p.dh i (.fin s) { xs i with d:=deafBehind (xs i).d #[],g:=g' }:=by rw [hW];exact hid
  refine fin (k' :=s) (es:=#[]) rfl aA (.inr ⟨rfl,?_⟩) (h.lib hi hbi hs hgo (.inl rfl) (by simp) aA (fun h5=>?_) Ld (fun gz hb _ _=>yA (fun _=>h2) hb))
  ·rw [hN]
   exact ⟨hnS,w,w,#[],hl,hgo,rfl⟩
  ·obtain ⟨r,hr⟩:=EM h5
   exact ⟨r,by simpa [MemOp.ofEvents] using hr⟩
 rw [hs] at hsi
 match s,hsi with
 |7,hsi=>
  rcases uq hsi hl with hx|⟨hn',hx⟩
  ·obtain ⟨hd0,hst',g',hgo,hid⟩:=hx
   have aA:p.dh i (.fin 5) { xs i with d:=deafBehind (xs i).d #[Go.ConcR.mk (.releaseMerge (stA p.Wg))],g:=g' }:=by
    show ag p.P false (Lv p.L p.Wg) XD (zS p.P p.L p.Wg) (deafBehind (xs i).d #[Go.ConcR.mk (.releaseMerge (stA p.Wg))]) g'
    rw [hd0];exact hid
   refine fin (k' :=5) rfl aA (.inl (by omega)) (h.lib hi hbi hs (hgo w hl) (.inl rfl) (by intro e he;rw [Array.mem_singleton] at he;exact .inr (.inr (.inl he))) aA
    (fun _=>⟨_,Over.new (by rw [hdi];exact hd0)⟩) ?_ (fun gz hb _ _=>yA (fun _=>by omega) hb))
   obtain ⟨a,b,m1,m2⟩:=hMd
   rw [←hst]
   exact ⟨a,b,m1,m2.counted hi (by omega) (.inr (.inr rfl))⟩
  ·exact idle (by omega) (fun x=>rfl) rfl hn' hx
 |5,hsi=>
  obtain ⟨r,hov⟩:=EM (by omega)
  by_cases hx:zS p.P p.L p.Wg (xs i).d (xs i).g
  ·obtain ⟨hd1,hst',hall⟩:=hx
   obtain ⟨a,b,m1,m2⟩:=hMd
   have bk2:∀e ∈ #[rd (stA p.Wg),wr (stA p.Wg)],Go.ConcR.Bk p.Wg e:=by intro e he;simp at he;rcases he with rfl|rfl<;>exact .inr (.inr ⟨_,_,rfl,rfl⟩)
   have lb2:∀e ∈ #[rd (stA p.Wg),wr (stA p.Wg)],iM p.Wg e:=by intro e he;simp at he;rcases he with rfl|rfl<;>exact .inr (.inr (.inr (.inr ⟨_,_,rfl,rfl⟩)))
   have df2:∀jx e,(#[rd (stA p.Wg),wr (stA p.Wg)]:Array Event)[jx]? = some e→(MemAct.ofEvent e).touch? = none∨0 < deafBehind 1 ((#[rd (stA p.Wg),wr (stA p.Wg)]:Array Event).extract 0 jx):=by
    intro jx e he
    match jx,he with
    |0,_=>exact .inr (by simp [deafBehind])
    |1,_=>exact .inr (by simp [deafBehind,rd])
    |jx+2,he=>simp at he
   have hV1:=Lh hi (by omega:5≤st i)
   have hVj:=Uj j st
   have aeg:=fun s (hi:i < j)=>Lj (st:=st) (i:=i) (j:=j) s hi
   have c5:oD (st i)=1:=by rw [Jd];rfl
   have dd2:deafBehind 1 #[rd (stA p.Wg),wr (stA p.Wg)]=1:=by simp [deafBehind,rd,wr]
   have go:∀v wtt:Nat,wtt≤1→v < 2147483647→WgAt p.L.tWg p.Wg w ((v+1) * KK+wtt) 0→∀s',((v=0∧wtt=1)→s' = 4)→(¬(v=0∧wtt=1)→s' = 1)→Md j (upd st i s') tag (v * KK+wtt) 0→(bl=true→∃k,k < j∧2≤upd st i s' k) →
     xg p W j tag x0 wt xs ls D t w i (runT p.P (crowd gs w sl) (p.n0+i)) sl:=by
    intro v wtt h1 h2 h3 s' hs4 hs1 hmd hb
    obtain ⟨g',hgo,hq4,hq1⟩:=hall v wtt h1 h2
    have aA:p.dh i (.fin s') { xs i with d:=deafBehind (xs i).d #[rd (stA p.Wg),wr (stA p.Wg)],g:=g' }:=by
     by_cases hc:v=0∧wtt=1
     ·rw [hs4 hc]
      show ag p.P false (Lv p.L p.Wg) X0 (WLd p.P p.L p.Wg) (deafBehind (xs i).d #[rd (stA p.Wg),wr (stA p.Wg)]) g'
      rw [hd1,dd2];exact hq4 hc
     ·rw [hs1 hc]
      show ∃q,QuitsD p.P q (deafBehind (xs i).d #[rd (stA p.Wg),wr (stA p.Wg)]) g'
      rw [hd1,dd2];exact hq1 hc
    have aix:s' < 5:=by
     by_cases hc:v=0∧wtt=1
     ·rw [hs4 hc];omega
     ·rw [hs1 hc];omega
    refine fin (k' :=s') ((dS (a:=stA p.Wg) hMW)) aA (.inl aix) (h.lib hi hbi hs (hgo w hl h3) (.inr ⟨_,_,rfl,rfl⟩) lb2 aA (fun _=>⟨r,hov.book h.hW.1 (by rw [hdi,hd1]) bk2 df2⟩) ⟨_,_,h3.setSt _,by rw [←hst];exact hmd⟩ (fun gz hb' _ _=>?_))
    obtain ⟨k,hk,h2⟩:=hb hb'
    exact ⟨k,hk,by rw [toS];exact h2⟩
   cases m2 with
   | @opn tag h1 h2 h3=>
    obtain ⟨v,hv⟩:∃v,Vn j st+lF tag=v+1:=⟨Vn j st+lF tag - 1,by omega⟩
    have akR:lF tag≤1:=by unfold lF;split<;>omega
    have hV':Vn j (upd st i 1)+1=Vn j st:=by have:=aeg 1 hi;have:oD 1=0:=rfl;omega
    refine go v 0 (by omega) (by omega) (by rw [hv] at m1;simpa using m1) 1 (fun x=>by omega) (fun _=>rfl) ?_ (fun e=>?_)
    ·have e2:v=Vn j (upd st i 1)+lF tag:=by omega
     have:=Md.opn (j:=j) (st:=upd st i 1) h1 (h2.upd (by simp)) (P7 (by omega) h3)
     rw [e2];simpa using this
    ·obtain ⟨⟨gT,e1,_⟩,_⟩:=h.blk e
     subst e1;exact h1.elim
   | @reg gT h2 h3=>
    have hV':∀s',oD s' = 0→Vn j (upd st i s')+1=Vn j st:=fun s' h0=>by have:=aeg s' hi;omega
    obtain ⟨v,hv⟩:∃v,Vn j st=v+1:=⟨Vn j st - 1,by omega⟩
    rw [hv] at m1
    rcases Nat.eq_zero_or_pos v with rfl|hvp
    ·have hoth:=Je h2 hi (by omega) (by omega)
     refine go 0 1 (by omega) (by omega) (by simpa using m1) 4 (fun _=>rfl) (fun x=>absurd ⟨rfl,rfl⟩ x) ?_ (fun _=>⟨i,hi,by rw [upd_same];omega⟩)
     have:=Md.last (gT:=gT) (j:=j) (st:=upd st i 4) i hi (.inl (upd_same _ _ _)) (fun k hk e=>by rw [upd_ne st _ e];exact hoth k hk e)
     simpa [upd_same] using this
    ·refine go v 1 (by omega) (by omega) (by simpa using m1) 1 (fun x=>by omega) (fun _=>rfl) ?_ (fun _=>?_)
     ·have:=Md.reg (gT:=gT) (j:=j) (st:=upd st i 1) (h2.upd (by simp)) (by have:=hV' 1 rfl;omega)
      have e2:v=Vn j (upd st i 1):=by have:=hV' 1 rfl;omega
      rw [e2];simpa using this
     ·obtain ⟨k,hk,h5⟩:=vK (j:=j) (st:=upd st i 1) (by have:=hV' 1 rfl;omega)
      exact ⟨k,hk,by omega⟩
   |last K h2 h3 h4=>
    by_cases e:i=K
    ·subst e;omega
    ·have:=h4 i hi e;omega
   |sema h2=>have:=h2 i hi;omega
   |fin h1 h2=>have:=h2 i hi;omega
  ·have aaC:ag p.P false (Lv p.L p.Wg) XD (zS p.P p.L p.Wg) (xs i).d (xs i).g:=hsi
   generalize hdd:(xs i).d=dd at aaC hx
   generalize hgg:(xs i).g=gg at aaC hx
   cases aaC with
   |stop hy=>exact absurd hy hx
   |step hst' f es hk k=>
    obtain ⟨hgo,he⟩:=hk w hl
    have hnext:=k w hl
    have aA:p.dh i (.fin 5) { xs i with d:=deafBehind (xs i).d (es w),g:=f w }:=by
     show ag p.P false (Lv p.L p.Wg) XD (zS p.P p.L p.Wg) (deafBehind (xs i).d (es w)) (f w)
     rw [hdd];exact hnext
    refine fin (k' :=5) rfl aA (.inr ⟨rfl,?_⟩) (h.lib hi hbi hs (by rw [hgg];exact hgo) (.inl rfl) (fun e hx=>.inl (by rw [(he e hx).1];rfl)) aA (fun _=>⟨r,hov.book h.hW.1 rfl (fun e hx=>.inl (by rw [(he e hx).1];rfl)) (fun jx e hx=>.inl ?_)⟩) Ld (fun gz hb _ _=>yA (fun _=>by omega) hb))
    ·show Gf p.P false (Lv p.L p.Wg) (zS p.P p.L p.Wg) _ _
     exact ⟨by rw [hdd,hgg];exact hx,w,w,es w,hl,by rw [hgg];exact hgo,rfl⟩
    ·have:=(he e (Array.mem_of_getElem? hx)).1
     rw [this];rfl
 |4,hsi=>
  rcases uq hsi hl with hx|⟨hn',hx⟩
  ·obtain ⟨r,hov⟩:=EM (by omega)
   obtain ⟨hd1,hst',g',hgo,hid⟩:=hx
   obtain ⟨a,b,m1,m2⟩:=hMd
   obtain ⟨⟨gT,rfl⟩,ho,rfl,rfl⟩:=m2.isLast hi (.inl Jd)
   have e1:(if st i=2 then (0:Int) else 1)=1:=by rw [Jd];rfl
   rw [e1] at m1
   have aA:p.dh i (.fin 3) { xs i with d:=deafBehind (xs i).d #[rd (stA p.Wg)],g:=g' }:=by
    show ag p.P false (Lv p.L p.Wg) X0 (WSt p.P p.L p.Wg) (deafBehind (xs i).d #[rd (stA p.Wg)]) g'
    rw [hd1];exact hid
   refine fin (k' :=3) rfl aA (.inl (by omega)) (h.lib hi hbi hs (hgo w hl m1) (.inl rfl) (by intro e he;simp at he;subst he;exact .inr (.inr (.inr (.inr ⟨_,_,rfl,rfl⟩)))) aA
    (fun _=>⟨r,hov.book h.hW.1 (by rw [hdi,hd1]) (by intro e he;simp at he;subst he;exact .inr (.inr ⟨_,_,rfl,rfl⟩)) (by intro jx e he;match jx,he with|0,_=>exact .inr (by simp [deafBehind])|jx+1,he=>simp at he)⟩) ⟨_,_,m1,?_⟩ (fun gz hb _ _=>yA (fun _=>by omega) hb))
   rw [←hst]
   have:=Md.last (gT:=gT) (j:=j) (st:=upd st i 3) i hi (.inr (.inl (upd_same _ _ _))) (fun k hk e=>by rw [upd_ne st _ e];exact ho k hk e)
   simpa [upd_same] using this
  ·exact idle (by omega) (fun x=>rfl) rfl hn' hx
 |3,hsi=>
  rcases uq hsi hl with hx|⟨hn',hx⟩
  ·obtain ⟨r,hov⟩:=EM (by omega)
   obtain ⟨hd1,hst',g',hgo,hid⟩:=hx
   obtain ⟨a,b,m1,m2⟩:=hMd
   obtain ⟨⟨gT,rfl⟩,ho,rfl,rfl⟩:=m2.isLast hi (.inr (.inl Jd))
   have e1:(if st i=2 then (0:Int) else 1)=1:=by rw [Jd];rfl
   rw [e1] at m1
   have aA:p.dh i (.fin 2) { xs i with d:=deafBehind (xs i).d #[wr (stA p.Wg)],g:=g' }:=by
    show ag p.P false (Lv p.L p.Wg) X0 (SK p.P p.L p.Wg) (deafBehind (xs i).d #[wr (stA p.Wg)]) g'
    rw [hd1];exact hid
   refine fin (k' :=2) (dS (a:=stA p.Wg) hMW) aA (.inl (by omega)) (h.lib hi hbi hs (hgo w hl m1) (.inr ⟨_,_,rfl,rfl⟩) (by intro e he;simp at he;subst he;exact .inr (.inr (.inr (.inr ⟨_,_,rfl,rfl⟩)))) aA
    (fun _=>⟨r,hov.book h.hW.1 (by rw [hdi,hd1]) (by intro e he;simp at he;subst he;exact .inr (.inr ⟨_,_,rfl,rfl⟩)) (by intro jx e he;match jx,he with|0,_=>exact .inr (by simp [deafBehind])|jx+1,he=>simp at he)⟩) ⟨_,_,m1.setSt 0,?_⟩ (fun gz hb _ _=>yA (fun _=>by omega) hb))
   rw [←hst]
   have:=Md.last (gT:=gT) (j:=j) (st:=upd st i 2) i hi (.inr (.inr (upd_same _ _ _))) (fun k hk e=>by rw [upd_ne st _ e];exact ho k hk e)
   simpa [upd_same] using this
  ·exact idle (by omega) (fun x=>rfl) rfl hn' hx
 |2,hsi=>
  rcases uq hsi hl with hx|⟨hn',hx⟩
  ·obtain ⟨r,hov⟩:=EM (by omega)
   obtain ⟨hd1,hst',hwake,g',hgo,q,hid⟩:=hx
   obtain ⟨a,b,m1,m2⟩:=hMd
   obtain ⟨⟨gT,rfl⟩,ho,rfl,rfl⟩:=m2.isLast hi (.inr (.inr Jd))
   have e1:(if st i=2 then (0:Int) else 1)=0:=by rw [Jd];rfl
   rw [e1] at m1
   have hsd:deafBehind 1 (semEvents (smA p.Wg))=1:=by simp [semEvents,deafBehind]
   have aA:p.dh i (.fin 1) { xs i with d:=deafBehind (xs i).d (semEvents (smA p.Wg)),g:=g' }:=by
    show ∃q,QuitsD p.P q (deafBehind (xs i).d (semEvents (smA p.Wg))) g'
    rw [hd1,hsd];exact ⟨q,hid⟩
   refine fin (k' :=1) (dS (a:=smA p.Wg) hMW) aA (.inl (by omega)) (h.lib hi hbi hs (hgo w hl m1) (.inr ⟨_,_,rfl,rfl⟩) Om aA
    (fun _=>⟨r,hov.book h.hW.1 (by rw [hdi,hd1]) Go.ConcN.bk_sem ?_⟩) ⟨_,_,m1.setSm 1,?_⟩ (fun gz hb hw hb'=>?_))
   ·intro jx e he
    match jx,he with
    |0,he=>simp [semEvents] at he;subst he;exact .inl rfl
    |1,_=>exact .inr (by simp [semEvents,deafBehind])
    |2,_=>exact .inr (by simp [semEvents,deafBehind])
    |3,he=>simp [semEvents] at he;subst he;exact .inl rfl
    |jx+4,he=>simp [semEvents] at he
   ·rw [←hst]
    refine Md.sema fun k hk=>?_
    by_cases e:k=i
    ·subst e;rw [upd_same]
    ·rw [upd_ne st _ e];exact ho k hk e
   ·rw [hw hwake hid.status] at hb';cases hb'
  ·exact idle (by omega) (fun x=>rfl) rfl hn' hx
 |1,hsi=>
  obtain ⟨q,hq⟩:=hsi
  obtain ⟨r,hov⟩:=EM (by omega)
  rcases q with _|q
  ·have:=hq.1;rw [hr] at this;cases this
  ·rcases hq with ⟨h1,_⟩|⟨_,g',es,hmute,hgo,hq'⟩
   ·rw [hr] at h1;cases h1
   ·have hmk:∀e∈es,Go.ConcR.Bk p.Wg e∧iM p.Wg e∧(MemAct.ofEvent e).touch? = none:=fun e he=>by
     have hm:=hmute e he
     obtain ⟨loc,wr,sy⟩:=e
     cases loc with
     |mark m=>cases m<;>first|exact ⟨.inl rfl,.inl rfl,rfl⟩|exact ⟨.inr (.inl rfl),.inr (.inl rfl),rfl⟩|simp [Event.mute] at hm
     |_=>simp [Event.mute] at hm
    have aA:p.dh i (.fin 1) { xs i with d:=deafBehind (xs i).d es,g:=g' }:=⟨q,hq'⟩
    refine fin (k' :=1) rfl aA (.inr ⟨rfl,?_⟩) (h.lib hi hbi hs (hgo w) (.inl rfl) (fun e he=>(hmk e he).2.1) aA (fun _=>⟨r,hov.book h.hW.1 rfl (fun e he=>(hmk e he).1) (fun jx e he=>.inl (hmk e (Array.mem_of_getElem? he)).2.2)⟩) Ld (fun gz hb _ _=>yA (fun x=>by omega) hb))
    exact ⟨hr,w,w,es,hgo w,rfl⟩
 |0,h=>exact h.elim
 |6,h=>exact h.elim
 |s+8,h=>exact h.elim
end Ph
end Go.Mx
namespace Go.Mx
open Go.Ren
open Go.Conc hiding Goes mem_ofEvents
open Go.ConcN (sumTo upd upd_same upd_ne RelBy get_map_set get_map_set_same WgLive PermW)
open Go.Conc.Lib (WgLink)
open Go.ConcR (KK WgAt stA smA rd wr g_of_ofEvents loc_of_ofEvent)
theorem xm{Mu:Nat}{m:Mark}(h:m = .disable∨m = .enable):∀e ∈ #[Go.ConcR.mk m],iM Mu e:=by
 intro e he
 rw [Array.mem_singleton] at he
 subst he
 rcases h with rfl|rfl
 ·exact .inl rfl
 ·exact .inr (.inl rfl)
namespace Ph
variable{p:Ph}{W:Nat→Prop}{j:Nat}{tag:dZ}{x0:Pos}{bl:Bool}{wt:Nat→WT}{bw:Nat→Bool}{xs ls:Nat→Pos}{O D:Nat→Nat→Prop}{gs:Array Goroutine}{w w':World}{sl:Option (Nat×Nat)}{t:Trace}
def aaD(p:Ph)(W:Nat→Prop)(j:Nat)(tag:dZ)(x0:Pos)(bl:Bool)(wt:Nat→WT)(bw:Nat→Bool)(xs ls:Nat→Pos)(O D:Nat→Nat→Prop)(t:Trace)(w:World)(i:Nat)(r:Stepped×Array MemOp)(sl:Option (Nat×Nat)):Prop:=
 xg p W j tag x0 wt xs ls D t w i r sl∨∃gs',r.1 = .next (crowd gs' w sl)∧p.dH W j tag x0 bl wt (upd bw i true) xs ls O D gs' w (t ++ r.2)
def Oo:WT→Prop
 | .IL _ | .en | .ac | .rl | .ds | .Nu _ | .ue=>True
 |_=>False
theorem WR{i:Nat}{s:WT}{x:Pos}(hs:Oo s):p.dh i s x=ag p.P false p.I X0 (p.St i s x) x.d x.g:=by
 cases s<;>first|rfl|exact hs.elim
theorem aaE{i:Nat}{s:WT}(hs:Oo s):p.VI i s=fun x' x=>x'.O=x.O∧x'.D=x.D∧x'.w=x.w∧Gf p.P false p.I (p.St i s x) x' x:=by
 cases s<;>first|rfl|exact hs.elim
theorem aaF{i:Nat}{s:WT}{x:Pos}{d:Nat}{g:Goroutine}:p.St i s { x with d:=d,g:=g }=p.St i s x:=by
 cases s<;>rfl
theorem Oq{s:WT}(hs:Oo s):fH s=8:=by cases s<;>first|rfl|exact hs.elim
theorem nC(h:p.dH W j tag x0 bl wt bw xs ls O D gs w t){i:Nat}(hi:i < j){g':Goroutine}{es:Array Event}{s':WT}(aA:p.dh i s' { xs i with d:=deafBehind (xs i).d es,g:=g' })
  (hn:Gw p j wt xs w i s' { xs i with d:=deafBehind (xs i).d es,g:=g' } w')
  (hk:∃gs' gz gy O',runT p.P (crowd gs w sl) (p.n0+i)=(.next (crowd gs' w' sl),MemOp.ofEvents (p.n0+i) (xs i).g.frame.fn (xs i).g.frame.place es) ∧
   p.dH W j tag x0 gz (upd wt i s') gy (upd xs i { xs i with d:=deafBehind (xs i).d es,g:=g' }) ls O' D gs' w' (t ++ MemOp.ofEvents (p.n0+i) (xs i).g.frame.fn (xs i).g.frame.place es)) :
  xg p W j tag x0 wt xs ls D t w i (runT p.P (crowd gs w sl) (p.n0+i)) sl:=by
 obtain ⟨gs',gz,gy,O',h1,h2⟩:=hk
 exact ⟨gs',w',gz,gy,_,_,O',by rw [h1],aA,hn,by rw [h1];exact h2⟩
theorem dH.BX(h:p.dH W j tag x0 bl wt bw xs ls O D gs w t){i:Nat}(hi:i < j)(hbi:bw i=false)(hs:Oo (wt i))(hns:¬p.St i (wt i) (xs i) (xs i).d (xs i).g){g':Goroutine}
  (hgo:stepG p.P false (xs i).g w = .go g' w #[]) (hid:ag p.P false p.I X0 (p.St i (wt i) (xs i)) (xs i).d g'):xg p W j tag x0 wt xs ls D t w i (runT p.P (crowd gs w sl) (p.n0+i)) sl:=by
 have aA:p.dh i (wt i) { xs i with d:=deafBehind (xs i).d #[],g:=g' }:=by
  rw [WR hs,aaF]
  exact hid
 refine nC h hi aA (kF h rfl rfl (.inr ⟨rfl,?_⟩)) (h.quiet hi hbi hgo (rJ.refl _ _) (by simp) aA Iff.rfl id (fun e=>h.H6 i hi e) (h.ph i hi) (fun _=>Iff.rfl) (fun _=>Iff.rfl) (by rw [Oq hs];omega) (.inl (Oq hs)) (qC h rfl rfl (x' :={ xs i with d:=deafBehind (xs i).d #[],g:=g' })))
 rw [aaE hs]
 exact ⟨rfl,rfl,rfl,hns,w,w,#[],h.inv,hgo,rfl⟩
theorem dH.aeh(h:p.dH W j tag x0 bl wt bw xs ls O D gs w t){i:Nat}(hi:i < j)(hbi:bw i=false){y:Lk}{K:Lk→Nat→Goroutine→Prop}(hy:dW (wt i)=y)(h8:fH (wt i)=8)(alG:∀s':WT,early s' → fH s' = 8→True)
  (hx:p.Lw K y (xs i).d (xs i).g) (to:Lk→WT) (hto:∀y' m q m' q' d g,Mv m q y m' q' y' → K y' d g→dW (to y')=y' ∧ fH (to y')=8∧p.dh i (to y') { xs i with d:=d,g:=g }∧(holds (to y')↔holds (wt i))∧(early (to y')→early (wt i)) ∧
   (locking (to y')→p.locks i=true)∧phase (to y')∧(past (to y')↔past (wt i))∧(∀v,to y' = .cr v↔wt i = .cr v)∧(∀m,rk m y' < rk m y→DF m (to y') < DF m (wt i))) (hw:∀sv,y = .s1 sv→p.uJ i (wt i) (xs i)) :
  aaD p W j tag x0 bl wt bw xs ls O D t w i (runT p.P (crowd gs w sl) (p.n0+i)) sl:=by
 obtain ⟨m,q,hm,BN,hbq⟩:=h.mi
 have hf:=BN.fits hi
 rw [hy] at hf
 obtain ⟨hd1,hr,_,hus,hall⟩:=hx
 rcases hall w m q h.inv hm hf with ⟨⟨sv,hs1⟩,hq0,hgo⟩|⟨y',m',q',g',w',es,hmv,hgo,hm',he,hes,hrun,hK⟩
 ·refine .inr ?_
  have hq:∀m₁ q₁,MuAt p.tM p.Mu w m₁ q₁→q₁=0:=by
   intro m₁ q₁ h1
   unfold MuAt at h1 hm
   rw [hm] at h1
   simp at h1
   omega
  obtain ⟨gs',ops,k1,k2⟩:=h.aaA (sl:=sl) hi hbi (hw sv hs1) hq hgo
  exact ⟨gs',by rw [k1],by rw [k1];exact k2⟩
 ·refine .inl ?_
  obtain ⟨t1,t2,t3,t4,t5,t6,t7,t8,t9,t10⟩:=hto y' m q m' q' _ _ hmv hK
  have e1:(fun k=>dW (upd wt i (to y') k))=upd (fun k=>dW (wt k)) i y' :=by rw [lS,t1]
  have WS:MI p.B j (fun k=>dW (upd wt i (to y') k)) m' q' :=by
   rw [e1]
   exact BN.step hi hy hmv
  have hph:=Hz.step (lk:=fun k=>dW (wt k)) hi hy hmv (hf.2.2.2.1)
  refine nC h hi t3 ⟨m,q,m',q',hm,BN.bits,hm',WS.bits,?_⟩ (h.quiet hi hbi hgo he hes t3 t4 t5 t6 t7 (fun _=>t8) t9 (by omega) (.inl t2) ⟨m',q',hm',WS,?_⟩)
  ·rw [e1]
   rcases hph with hp|⟨p1,p2,p3⟩
   ·exact .inl hp
   ·exact .inr ⟨p1,p2,.inl (t10 m p3)⟩
  ·by_cases hyu:y = .us
   ·exact .inr (.inl ⟨hus hyu,hrun hyu⟩)
   ·have hle:=hmv.Zr hyu
    rcases Nat.eq_zero_or_pos q' with e|e
    ·exact .inl e
    ·refine .inr (.inr fun k hk=>?_)
     cases hb:bw k with
     |false=>rfl
     |true=>have:=hbq k hk hb;omega
theorem dH.skip(h:p.dH W j tag x0 bl wt bw xs ls O D gs w t){i:Nat}(hi:i < j)(hbi:bw i=false)(hs:wt i = .work)(hx:p.Zu i (xs i).d (xs i).g):p.dH W j tag x0 bl (upd wt i (.fin 7)) bw xs ls O D gs w t:=by
 obtain ⟨hd0,hl,hnx⟩:=hx
 have hsx:p.dh i (.fin 7) (xs i):=by
  show ag p.P false (Lv p.L p.Wg) X0 (fQ p.P p.L p.Wg) (xs i).d (xs i).g
  rw [hd0];exact hnx
 have hfr:=Jc (j:=j) (wt:=wt) (s' :=.fin 7) hi (by rw [hs];exact Iff.rfl)
 obtain ⟨m,q,m1,m2,m3⟩:=h.mi
 refine ⟨h.hn0,h.size,h.main,fun e=>?_,h.seat,h.O0,h.D0,h.rely,h.deaf,fun k hk=>?_,fun k hk hb=>?_,fun k hk he=>?_,fun k hk he=>?_,fun k hk=>?_,h.lv,h.ti,by rw [uk hfr];exact h.own,h.hW,fun hf=>h.tok (hfr.1 hf),fun k hk he=>?_,
  Cell.same h.cell hi (fun e=>by rw [hl] at e;cases e) (fun v=>by rw [hs];exact ⟨fun e=>(by cases e),fun e=>(by cases e)⟩) (.inr rfl),fun k hk he=>?_,h.norel,⟨m,q,m1,?_,m3⟩,EL h hi (by rw [hs];simp [fH]) (.inr (.inl rfl)) rfl,h.left⟩
 ·exact ⟨(h.blk e).1,BU h hi (fun _=>by simp [fH]) e⟩
 ·obtain ⟨h1,h2,h3⟩:=h.wk k hk
  refine ⟨h1,?_,h3⟩
  by_cases e:k=i
  ·subst e;rw [upd_same];exact hsx
  ·rw [upd_ne wt _ e];exact h2
 ·by_cases e:k=i
  ·subst e;rw [hbi] at hb;cases hb
  ·rw [upd_ne wt _ e];exact h.bs k hk hb
 ·by_cases e:k=i
  ·subst e;rw [upd_same] at he;exact he.elim
  ·rw [upd_ne wt _ e] at he;exact h.wO k hk he
 ·by_cases e:k=i
  ·subst e;rw [upd_same] at he;exact he.elim
  ·rw [upd_ne wt _ e] at he;exact h.H6 k hk he
 ·by_cases e:k=i
  ·subst e;rw [upd_same];trivial
  ·rw [upd_ne wt _ e];exact h.ph k hk
 ·by_cases e:k=i
  ·subst e;rw [upd_same] at he;exact he.elim
  ·rw [upd_ne wt _ e] at he;exact h.hold k hk he
 ·by_cases e:k=i
  ·subst e;rw [upd_same] at he;simp [fH] at he
  ·rw [upd_ne wt _ e] at he;exact h.over k hk he
 ·rw [lS]
  exact m2.still (y:=.done) hi (by rw [hs];rfl) (by rw [hs];rfl) (by rw [hs];rfl) (by rw [hs];rfl) (by rw [hs];rfl) (by rw [hs];rfl) (.inl (by rw [hs];exact id)) trivial
theorem dH.YF(h:p.dH W j tag x0 bl wt bw xs ls O D gs w t){i:Nat}(hi:i < j)(hbi:bw i=false){Stop:(Nat→Prop)→Nat→(Nat→Prop)→Goroutine→World→Prop}(he:early (wt i))(h8:fH (wt i)=8)
  (hsi:dM p.P false p.I X0 (xs i).D (Stop (xs i).D) (xs i).d (xs i).O (xs i).g (xs i).w) (hns:¬Stop (xs i).D (xs i).d (xs i).O (xs i).g (xs i).w)
  (hS:∀x:Pos,p.dh i (wt i) x=dM p.P false p.I X0 x.D (Stop x.D) x.d x.O x.g x.w) (hN:p.VI i (wt i)=Yj p.P false p.I Stop) (hc:(∃v,wt i = .cr v)∨¬holds (wt i)) :
  xg p W j tag x0 wt xs ls D t w i (runT p.P (crowd gs w sl) (p.n0+i)) sl:=by
 obtain ⟨hO,hD,hrel⟩:=h.wO i hi he
 have hinv:=h.inv
 generalize hx:xs i=y at hsi hns hO hD hrel
 obtain ⟨OO,DD,dd,gg,ww⟩:=y
 dsimp only at hsi hns hO hD hrel
 cases hsi with
 |stop hs=>exact absurd hs hns
 |step hst f u es hk k=>
  have hrw:au OO DD ww w:=by rw [hO,hD];exact hrel
  obtain ⟨hgo,hG⟩:=hk w hrw hinv
  have hnext:=k w hrw hinv
  have hG':aN X0 (O (p.n0+i)) (D (p.n0+i)) w (u w) (es w):=by rw [←hO,←hD];exact hG
  have hkeep:∀b,W b→(u w).heap[b]? = w.heap[b]? :=fun b hb=>hG'.heap b (h.own.vP b (.inl hb)) fun ho=>h.own.ow _ b (by omega) ho (.inl hb)
  have aA:p.dh i (wt i) ⟨grow OO w (u w),DD,deafBehind dd (es w),f w,u w⟩:=by rw [hS];exact hnext
  have hsame:upd wt i (wt i)=wt:=by
   funext k
   by_cases e:k=i
   ·subst e;rw [upd_same]
   ·rw [upd_ne wt _ e]
  have hcl:(∃v,wt i = .cr v)∨(u w).heap[p.C]? = w.heap[p.C]? :=by
   rcases hc with hc|hc
   ·exact .inl hc
   ·exact .inr (hG'.heap _ h.hW.2.2.2.2 (h.aiw hi hc))
  obtain ⟨gs',gz,gy,O',k1,k2⟩:=h.worker (sl:=sl) hi hbi (x' :=⟨grow OO w (u w),DD,deafBehind dd (es w),f w,u w⟩) (s' :=wt i) (es:=es w) (w' :=u w) (by rw [hx];exact hgo) (hG'.wide fun e x=>x.elim) (by rw [hx]) aA Iff.rfl
   (fun _=>⟨by rw [hO],hD,.refl _⟩) (fun e=>h.H6 i hi e) (h.ph i hi) (Cell.same h.cell hi (fun _=>Iff.rfl) (fun _=>Iff.rfl) hcl) (fun e=>by omega) (fun e he=>yB (hG'.ev e he) fun x=>x.elim)
   (qC h rfl (hkeep _ h.hW.2.1) (x' :=⟨grow OO w (u w),DD,deafBehind dd (es w),f w,u w⟩)) (EL h hi (by omega) (.inl h8) (hkeep _ h.hW.1)) (fun gz hb _ _=>BU h hi id hb)
  refine ⟨gs',u w,gz,gy,wt i,_,O',by rw [k1],aA,kF h rfl (hkeep _ h.hW.2.1) (.inr ⟨rfl,?_⟩),by rw [k1];exact k2⟩
  rw [hN,hx]
  exact ⟨rfl,hns,w,es w,hrw,hinv,hgo,rfl,rfl⟩
theorem dH.done(h:p.dH W j tag x0 bl wt bw xs ls O D gs w t)(hV:∀k v,p.V v→p.V (p.f k v)){i:Nat}(hi:i < j)(hbi:bw i=false){v:dA}(hs:wt i = .cr v)(hx:p.VH i v (xs i).D (xs i).d (xs i).O (xs i).g (xs i).w) :
  xg p W j tag x0 wt xs ls D t w i (runT p.P (crowd gs w sl) (p.n0+i)) sl:=by
 obtain ⟨hd0,hr,hcell,g',es,hgo,hes,hde,hid⟩:=hx
 obtain ⟨m,q,hm,BN,hbq⟩:=h.mi
 obtain ⟨hO,hD,hrel⟩:=h.wO i hi (by rw [hs];trivial)
 have hgo:=hgo w m q h.inv hm
 have aA:p.dh i .rl { xs i with d:=deafBehind (xs i).d es,g:=g' }:=by
  show ag p.P false p.I X0 p.RlS (deafBehind (xs i).d es) g'
  rw [hd0,hde];exact hid
 have hlt:p.Mu < w.heap.size:=h.own.vP _ (.inl h.hW.2.1)
 have WU:=h.hold i hi (by rw [hs];trivial)
 obtain ⟨order,c1,c2,c3,c4,c5⟩:=h.cell
 have hv:=c4 i hi v hs
 have hlk:=h.H6 i hi (by rw [hs];trivial)
 have hnot:i∉order:=fun hm=>by have:=((c2 i).1 hm).2.2;rw [hs] at this;exact this
 have hfold:p.fold (order ++ [i])=p.f i v:=by unfold fold;rw [List.foldl_append,hv];rfl
 have hcell':p.Cell j (upd wt i .rl) w:=by
  refine ⟨order ++ [i],?_,fun k=>?_,by rw [hfold,hv];exact hV i _ c3,fun k hk u e=>?_,fun hn=>?_⟩
  ·rw [List.nodup_append]
   exact ⟨c1,by simp,fun a ha b hb=>by simp at hb;subst hb;exact fun e=>hnot (e ▸ ha)⟩
  ·rw [List.mem_append,c2]
   by_cases e:k=i
   ·subst e;rw [upd_same];simp [hi,hlk,past]
   ·rw [upd_ne wt _ e];simp [e]
  ·by_cases e':k=i
   ·subst e';rw [upd_same] at e;cases e
   ·rw [upd_ne wt _ e'] at e
    exact absurd (h.one hk hi (by rw [e];rfl) (by rw [hs];rfl)) e'
  ·rw [hfold]
   unfold CellIs at hcell ⊢
   rw [hrel.own p.C WU]
   exact hcell
 have hG:=xh (p:=p) (k:=p.n0+i) (O:=O) (D:=D) h.hW.2.1 hlt (rJ.refl p.Mu w) hes
 refine nC h hi aA (kF h (by rw [hs];rfl) rfl (.inl fun m=>by rw [hs];simp [DF])) (h.worker (sl:=sl) hi hbi (x' :={ xs i with d:=deafBehind (xs i).d es,g:=g' }) hgo hG rfl aA (by rw [hs];exact Iff.rfl) (fun e=>e.elim) (fun _=>hlk) trivial hcell' (fun e=>by simp [fH] at e) (fun e he=>fJ (hes e he))
  (qC h (by rw [hs];rfl) rfl (x' :={ xs i with d:=deafBehind (xs i).d es,g:=g' })) (EL h hi (by rw [hs];simp [fH]) (.inl rfl) rfl) (fun gz hb _ _=>BU h hi (fun _=>by simp [fH]) hb))
theorem dH.stepW(hn:p.n < 2147483647)(hV:∀k v,p.V v→p.V (p.f k v))(h:p.dH W j tag x0 bl wt bw xs ls O D gs w t){i:Nat}(hi:i < j)(hbi:bw i=false)(hr:(xs i).g.status = .running) :
  aaD p W j tag x0 bl wt bw xs ls O D t w i (runT p.P (crowd gs w sl) (p.n0+i)) sl:=by
 obtain ⟨hgi,hsi,hdi⟩:=h.wk i hi
 have hinv:=h.inv
 have WV:=h.ph i hi
 have on:∀ {s':WT} {g':Goroutine} {es:Array Event},stepG p.P false (xs i).g w = .go g' w es→(∀e∈es,iM p.Mu e)→p.dh i s' { xs i with d:=deafBehind (xs i).d es,g:=g' }→dW s' = dW (wt i)→(∀m,DF m s' < DF m (wt i))→(holds s' ↔ holds (wt i))→(early s' → early (wt i)) →
   (locking s' → p.locks i=true)→phase s' → (past s' ↔ past (wt i))→(∀v,s' = .cr v↔wt i = .cr v)→fH (wt i)=8→(fH s' = 8∨fH s' = 7)→aaD p W j tag x0 bl wt bw xs ls O D t w i (runT p.P (crowd gs w sl) (p.n0+i)) sl:=by
  intro s' g' es hgo hes aA h1 h2 h3 h4 h5 h6 h7 h8 h9 h10
  exact .inl (nC h hi aA (kF h h1 rfl (.inl h2)) (h.quiet hi hbi hgo (rJ.refl _ _) hes aA h3 h4 h5 h6 (fun _=>h7) h8 (by omega) h10 (qC h h1 rfl (x' :={ xs i with d:=deafBehind (xs i).d es,g:=g' }))))
 have Jf:∀ {s s':WT},(∀v,s ≠ .cr v)→(∀v,s' ≠ .cr v)→∀v,s' = .cr v↔s = .cr v:=fun a b v=>⟨fun e=>absurd e (b v),fun e=>absurd e (a v)⟩
 cases hs:wt i with
 |work=>
  rw [hs] at hsi
  by_cases hsk:p.Zu i (xs i).d (xs i).g
  ·have h' :=h.skip hi hbi hs hsk
   obtain ⟨gs',w',gz,gy,s',x',O',k1,k2,⟨m,q,m',q',n1,n2,n3,n4,n5⟩,k4⟩:=dH.YE (sl:=sl) hn h' hi hbi hr (upd_same wt i _)
   have e1:upd (upd wt i (.fin 7)) i s' = upd wt i s' :=by
    funext k
    by_cases e:k=i
    ·subst e;rw [upd_same,upd_same]
    ·rw [upd_ne _ _ e,upd_ne _ _ e,upd_ne _ _ e]
   rw [e1] at k4
   refine .inl ⟨gs',w',gz,gy,s',x',O',k1,k2,⟨m,q,m',q',n1,n2,n3,n4,.inl ?_⟩,k4⟩
   rw [e1] at n5
   have hlt:Hz j (fun k=>dW (upd wt i (.fin 7) k)) q < Hz j (fun k=>dW (wt k)) q:=by
    rw [lS]
    have e:=iV (lk:=fun k=>dW (wt k)) pt .done hi
    have l:=mV (lk:=fun k=>dW (wt k)) pt hi
    rw [hs] at e l
    unfold Hz
    have e2:pt (dW .work)=5:=rfl
    have e3:pt .done=0:=rfl
    have e4:dW (.fin 7) = .done:=rfl
    rw [e4]
    omega
   rcases n5 with n5|⟨_,n5,_⟩<;>omega
  ·by_cases hst:p.Wi i (xs i).D (xs i).d (xs i).O (xs i).g (xs i).w
   ·obtain ⟨hr',hst|hst⟩:=hst
    ·obtain ⟨hd0,hlk,_,g',hgo,hls⟩:=hst
     have aA:p.dh i (.IL .l0) { xs i with d:=deafBehind (xs i).d #[Go.ConcR.mk .disable],g:=g' }:=by
      show ag p.P false p.I X0 _ (deafBehind (xs i).d #[Go.ConcR.mk .disable]) g'
      have e:deafBehind (xs i).d #[Go.ConcR.mk .disable]=1:=by rw [hd0];rfl
      rw [e]
      exact hls.out
     obtain ⟨m,q,hm,BN,hbq⟩:=h.mi
     have hlw:dW (wt i) = .out:=by rw [hs];rfl
     have e1:(fun k=>dW (upd wt i (.IL .l0) k))=upd (fun k=>dW (wt k)) i .l0:=lS dW wt i _
     have WS:MI p.B j (fun k=>dW (upd wt i (.IL .l0) k)) m q:=by rw [e1];exact BN.step hi hlw .enter
     refine .inl (nC h hi aA ⟨m,q,m,q,hm,BN.bits,hm,BN.bits,?_⟩ (h.quiet hi hbi (hgo w hinv) (rJ.refl _ _) (xm (.inl rfl)) aA (by rw [hs];exact Iff.rfl) (fun _=>by rw [hs];trivial) (fun _=>hlk) trivial (fun _=>by rw [hs];exact Iff.rfl) (by rw [hs];exact Jf (fun _ e=>by cases e) (fun _ e=>by cases e)) (by rw [hs];simp [fH]) (.inl rfl) ⟨m,q,hm,WS,?_⟩))
     ·rw [e1]
      rcases Hz.step (B:=p.B) (lk:=fun k=>dW (wt k)) hi hlw (Mv.enter (m:=m) (q:=q)) trivial with hp|⟨p1,p2,p3⟩
      ·exact .inl hp
      ·exact .inr ⟨rfl,p2,.inl (by rw [hs];simp [DF,rk])⟩
     ·rcases Nat.eq_zero_or_pos q with e|e
      ·exact .inl e
      ·refine .inr (.inr fun k hk=>?_)
       cases hb:bw k with
       | false=>rfl
       | true=>have:=hbq k hk hb;omega
    ·exact absurd hst hsk
   ·exact .inl (h.YF hi hbi (Stop:=fun D=>p.Wi i D) (by rw [hs];trivial) (by rw [hs];rfl) hsi hst (fun x=>by rw [hs];rfl) (by rw [hs];rfl) (.inr (by rw [hs];exact id)))
 |IL y=>
  rw [hs] at hsi WV
  have hyL:Zt y:=WV
  rcases qB hsi hinv with hx|⟨hnS,g',hgo,hid⟩
  ·have BP:=h.H6 i hi (by rw [hs];trivial)
   refine h.aeh hi hbi (y:=y) (by rw [hs];rfl) (by rw [hs];rfl) (fun _ _ _=>trivial) hx (fun y'=>match y' with | .own=>.en|y'=>.IL y') (fun y' m q m' q' d g hmv hK=>?_) (fun sv e=>?_)
   ·rcases hmv.inL hyL with hL|rfl
    ·have e:(match y' with | .own=>WT.en|y'=>.IL y') = .IL y' :=by cases y'<;>first|rfl|exact hL.elim
     rw [e,hs]
     refine ⟨rfl,rfl,(Nx.ofL hL hK).out,Iff.rfl,id,fun _=>BP,hL,Iff.rfl,Jf (fun _ e=>by cases e) (fun _ e=>by cases e),fun m hlt=>by simp only [DF];omega⟩
    ·rw [hs]
     exact ⟨rfl,rfl,hK,Iff.rfl,fun _=>trivial,fun _=>BP,trivial,Iff.rfl,Jf (fun _ e=>by cases e) (fun _ e=>by cases e),fun m hlt=>by simp only [DF];omega⟩
   ·exact ⟨⟨sv,by rw [hs,e]⟩,by rw [hs];exact hx⟩
  ·exact .inl (h.BX hi hbi (by rw [hs];trivial) (by rw [hs];exact hnS) hgo (by rw [hs];exact hid))
 |en=>
  rw [hs] at hsi
  rcases qB hsi hinv with hx|⟨hnS,g',hgo,hid⟩
  ·obtain ⟨hd1,_,g',hgo,hid⟩:=hx
   refine on (s' :=.ac) (hgo w hinv) (xm (.inr rfl)) ?_ (by rw [hs];rfl) (fun m=>by rw [hs];simp [DF]) (by rw [hs];exact Iff.rfl) (fun _=>by rw [hs];trivial) (fun _=>h.H6 i hi (by rw [hs];trivial)) trivial (by rw [hs];exact Iff.rfl) (by rw [hs];exact Jf (fun _ e=>by cases e) (fun _ e=>by cases e)) (by rw [hs];rfl) (.inl rfl)
   show ag p.P false p.I X0 _ (deafBehind (xs i).d #[Go.ConcR.mk .enable]) g'
   have e:deafBehind (xs i).d #[Go.ConcR.mk .enable]=0:=by rw [hd1];rfl
   rw [e];exact hid
  ·exact .inl (h.BX hi hbi (by rw [hs];trivial) (by rw [hs];exact hnS) hgo (by rw [hs];exact hid))
 |ac=>
  rw [hs] at hsi
  rcases qB hsi hinv with hx|⟨hnS,g',hgo,hid⟩
  ·obtain ⟨hd0,_,g',hgo,hT⟩:=hx
   obtain ⟨gs',gz,gy,v,x',O',ops,k1,k2,k3⟩:=h.take (sl:=sl) hi hbi hs hd0 (hgo w hinv) hT
   exact .inl ⟨gs',w,gz,gy,.cr v,x',O',by rw [k1],k2,kF h (by rw [hs];rfl) rfl (.inl fun m=>by rw [hs];simp [DF]),by rw [k1];exact k3⟩
  ·exact .inl (h.BX hi hbi (by rw [hs];trivial) (by rw [hs];exact hnS) hgo (by rw [hs];exact hid))
 |cr v=>
  rw [hs] at hsi
  by_cases hst:p.VH i v (xs i).D (xs i).d (xs i).O (xs i).g (xs i).w
  ·exact .inl (h.done hV hi hbi hs hst)
  ·exact .inl (h.YF hi hbi (Stop:=fun D=>p.VH i v D) (by rw [hs];trivial) (by rw [hs];rfl) hsi hst (fun x=>by rw [hs];rfl) (by rw [hs];rfl) (.inl ⟨v,hs⟩))
 |rl=>
  rw [hs] at hsi
  rcases qB hsi hinv with hx|⟨hnS,g',hgo,hid⟩
  ·obtain ⟨hd0,_,g',hgo,hid⟩:=hx
   have aA:p.dh i .ds { xs i with d:=0,g:=g' }:=hid
   obtain ⟨gs',gz,gy,O',ops,k1,k2⟩:=h.give (sl:=sl) hi hbi hs hd0 (hgo w hinv) aA
   exact .inl ⟨gs',w,gz,gy,.ds,_,O',by rw [k1],aA,kF h (by rw [hs];rfl) rfl (.inl fun m=>by rw [hs];simp [DF]),by rw [k1];exact k2⟩
  ·exact .inl (h.BX hi hbi (by rw [hs];trivial) (by rw [hs];exact hnS) hgo (by rw [hs];exact hid))
 |ds=>
  rw [hs] at hsi
  rcases qB hsi hinv with hx|⟨hnS,g',hgo,hid⟩
  ·obtain ⟨hd0,_,g',hgo,hls⟩:=hx
   refine on (s' :=.Nu .own) (hgo w hinv) (xm (.inl rfl)) ?_ (by rw [hs];rfl) (fun m=>by rw [hs];simp [DF,rk]) (by rw [hs];exact Iff.rfl) (fun e=>e.elim) (fun _=>h.H6 i hi (by rw [hs];trivial)) trivial (by rw [hs];exact Iff.rfl) (by rw [hs];exact Jf (fun _ e=>by cases e) (fun _ e=>by cases e)) (by rw [hs];rfl) (.inl rfl)
   show ag p.P false p.I X0 _ (deafBehind (xs i).d #[Go.ConcR.mk .disable]) g'
   have e:deafBehind (xs i).d #[Go.ConcR.mk .disable]=1:=by rw [hd0];rfl
   rw [e];exact hls.out
  ·exact .inl (h.BX hi hbi (by rw [hs];trivial) (by rw [hs];exact hnS) hgo (by rw [hs];exact hid))
 |Nu y=>
  rw [hs] at hsi WV
  have hyU:isU y:=WV
  rcases qB hsi hinv with hx|⟨hnS,g',hgo,hid⟩
  ·have BP:=h.H6 i hi (by rw [hs];trivial)
   refine h.aeh hi hbi (y:=y) (by rw [hs];rfl) (by rw [hs];rfl) (fun _ _ _=>trivial) hx (fun y'=>match y' with | .done=>.ue|y'=>.Nu y') (fun y' m q m' q' d g hmv hK=>?_) (fun sv e=>by rw [e] at hyU;exact hyU.elim)
   rcases hmv.inU hyU with hU|rfl
   ·have hno:=hmv.WQ hyU
    have e:(match y' with | .done=>WT.ue|y'=>.Nu y') = .Nu y' :=by cases y'<;>first|rfl|exact hU.elim
    rw [e,hs]
    refine ⟨rfl,rfl,(Nx.ofU hU hno hK).out,Iff.rfl,fun e=>e.elim,fun _=>BP,hU,Iff.rfl,Jf (fun _ e=>by cases e) (fun _ e=>by cases e),fun m hlt=>by simp only [DF];omega⟩
   ·rw [hs]
    exact ⟨rfl,rfl,hK,Iff.rfl,fun e=>e.elim,fun _=>BP,trivial,Iff.rfl,Jf (fun _ e=>by cases e) (fun _ e=>by cases e),fun m hlt=>by simp only [DF];omega⟩
  ·exact .inl (h.BX hi hbi (by rw [hs];trivial) (by rw [hs];exact hnS) hgo (by rw [hs];exact hid))
 |ue=>
  rw [hs] at hsi
  rcases qB hsi hinv with hx|⟨hnS,g',hgo,hid⟩
  ·obtain ⟨hd1,_,g',hgo,hid⟩:=hx
   refine on (s' :=.fin 7) (hgo w hinv) (xm (.inr rfl)) ?_ (by rw [hs];rfl) (fun m=>by rw [hs];simp [DF]) (by rw [hs];exact Iff.rfl) (fun e=>e.elim) (fun e=>e.elim) trivial (by rw [hs];exact Iff.rfl) (by rw [hs];exact Jf (fun _ e=>by cases e) (fun _ e=>by cases e)) (by rw [hs];rfl) (.inr rfl)
   show ag p.P false (Lv p.L p.Wg) X0 (fQ p.P p.L p.Wg) (deafBehind (xs i).d #[Go.ConcR.mk .enable]) g'
   have e:deafBehind (xs i).d #[Go.ConcR.mk .enable]=0:=by rw [hd1];rfl
   rw [e];exact hid
  ·exact .inl (h.BX hi hbi (by rw [hs];trivial) (by rw [hs];exact hnS) hgo (by rw [hs];exact hid))
 |fin s=>exact .inl (h.YE hn hi hbi hr hs)
end Ph
end Go.Mx
namespace Go.Mx
open Go.Ren
open Go.Conc hiding Goes mem_ofEvents
open Go.ConcN (sumTo upd upd_same upd_ne sumTo_congr sumTo_upd le_sumTo RelBy get_map_set get_map_set_same WgLive norel_of Deaf_absent)
open Go.Conc.Lib (WgLink)
open Go.ConcR (KK WgAt stA smA rd wr g_of_ofEvents loc_of_ofEvent)
namespace Ph
variable{p:Ph}{W:Nat→Prop}{j:Nat}{tag:dZ}{x0:Pos}{bl:Bool}{wt:Nat→WT}{bw:Nat→Bool}{xs ls:Nat→Pos}{O D:Nat→Nat→Prop}{gs:Array Goroutine}{w w':World}{sl:Option (Nat×Nat)}{t:Trace}
theorem Cell.to{wt:Nat→WT}(h:p.Cell j wt w)(hw:w'.heap[p.C]? = w.heap[p.C]?):p.Cell j wt w' :=by
 obtain ⟨order,h1,h2,h3,h4,h5⟩:=h
 exact ⟨order,h1,h2,h3,h4,fun hn=>by unfold CellIs;rw [hw];exact h5 hn⟩
theorem dH.aei(h:p.dH W j tag x0 bl wt bw xs ls O D gs w t):¬O 0 p.C:=by
 intro hO
 have hn0:=h.hn0
 by_cases hf:free j wt
 ·exact h.own.ow _ _ (by omega) hO (.inr ⟨hf,rfl⟩)
 ·apply hf
  intro k hk hh
  have:=h.own.oo _ _ _ (by omega) (by omega) hO (h.hold k hk hh)
  omega
theorem dH.Uk(h:p.dH W j tag x0 bl wt bw xs ls O D gs w t){k:Nat}(hk1:1≤k)(hk:k < p.n0)(hr:(ls k).g.status = .running) :
  ∃gs' gz gy x' ops,runT p.P (crowd gs w sl) k=(.next (crowd gs' w sl),ops)∧VJ p.P x' (ls k)∧p.dH W j tag x0 gz wt gy xs (upd ls k x') O D gs' w (t ++ ops):=by
 obtain ⟨hgk,⟨q,hq⟩,hdk,BZ⟩:=h.lv k hk1 hk
 rcases q with _|q
 ·have:=hq.1;rw [hr] at this;cases this
 rcases hq with ⟨h1,_⟩|⟨_,g',es,hmute,hgo,hq'⟩
 ·rw [hr] at h1;cases h1
 have hlt:p.Wg < w.heap.size:=h.own.vP _ (.inl h.hW.1)
 have hsz:=h.size
 have hpos:k≠0:=by omega
 have hgo':stepG p.P (k == 0) (ls k).g w = .go g' w es:=by
  have:(k == 0)=false:=by simp;omega
  rw [this];exact hgo w
 have hev:∀e∈es,Gt W k e∧(MemAct.ofEvent e).low w.heap.size:=fun e he=>xk (Wg:=p.Wg) h.hW.1 hlt (xq (hmute e he)).1
 have hG:ng (Gt W k) W (O k) (D k) w w es:=qE hev
 have hti:=h.ti
 have hown:=h.yx
 rw [←hsz] at hti hown
 obtain ⟨hrun,ni,_⟩:=kE (sl:=sl) hgk hgo' hti hown hG
 rw [uo,hsz] at ni
 obtain ⟨gz,hw1,hw2,hw3⟩:=La (P:=p.P) (w' :=w) (g:=(ls k).g) (g' :=g') (jL h.seat) (BO h)
 obtain ⟨gy,hbw⟩:=h.sleepers (ls k).g g' w
 have hops:∀op∈MemOp.ofEvents k (ls k).g.frame.fn (ls k).g.frame.place es,op.g=k:=g_of_ofEvents
 have hnt:∀op∈MemOp.ofEvents k (ls k).g.frame.fn (ls k).g.frame.place es,op.act.touch? = none:=fun op hop=>by
  rw [ofEvents_eq] at hop
  obtain ⟨e,he,rfl⟩:=Array.mem_map.1 hop
  exact (xq (Wg:=p.Wg) (hmute e he)).2
 refine ⟨_,gz,gy,{ ls k with d:=deafBehind (ls k).d es,g:=g' },_,hrun,⟨hr,w,w,es,hgo w,rfl⟩,h.hn0,by simpa using hsz,?_,fun e=>h.blk (hw2 e),h.seat,h.O0,h.D0,h.rely,?_,fun i hi=>?_,fun i hi hb=>h.bs i hi ((hbw i hi).2.1 hb),h.wO,h.H6,h.ph,fun i h1 h2=>?_,ni,h.own,h.hW,
  fun hf=>(h.tok hf).app (fun op hop x hx=>by rw [hnt op hop] at hx;cases hx),h.hold,h.cell,fun i hi hs=>?_,oZ h.norel (fun e he=>fJ (Wg:=p.Wg) (xq (hmute e he)).1),?_,h.md,h.left⟩
 ·rw [get_map_set _ _ _ _ hpos,h.main,Option.map_some,hw1]
 ·rw [Deaf_other t hpos _ hops];exact h.deaf
 ·obtain ⟨h1,h2,h3⟩:=h.wk i hi
  refine ⟨?_,h2,by rw [Deaf_other t (by omega) _ hops];exact h3⟩
  rw [get_map_set _ _ _ _ (by omega),h1,Option.map_some,(hbw i hi).1]
 ·by_cases e:i=k
  ·subst e
   rw [upd_same]
   refine ⟨get_map_set_same _ _ _ (by rw [hsz];omega),⟨q,hq'⟩,by rw [Deaf_own,hdk],BZ.app (fun p hp hg hc=>?_) (fun op hop _ x hx=>?_)⟩
   ·obtain ⟨op,a1,a2⟩:=qM hg
    obtain ⟨x,hx,_⟩:=hc
    rcases getElem?_append_cases a1 with ⟨hl,_⟩|⟨_,hou⟩
    ·omega
    ·have:touchAt (t ++ MemOp.ofEvents i (ls i).g.frame.fn (ls i).g.frame.place es) p=some x:=hx
     rw [touchAt_of a1,hnt op hou] at this
     cases this
   ·rw [hnt op hop] at hx;cases hx
  ·obtain ⟨a1,⟨q',a2⟩,a3,a4⟩:=h.lv i h1 h2
   rw [upd_ne ls _ e]
   refine ⟨?_,⟨q',a2⟩,by rw [Deaf_other t (by omega) _ hops];exact a3,a4.appNot fun op hop e'=>by rw [hops op hop] at e';omega⟩
   rw [get_map_set _ _ _ _ (by omega),a1,Option.map_some,woken_rf a2.status]
 ·obtain ⟨r,hr'⟩:=h.over i hi hs
  exact ⟨r,hr'.appNot fun op hop e'=>by rw [hops op hop] at e';omega⟩
 ·obtain ⟨m,q,m1,m2,m3⟩:=h.mi
  exact ⟨m,q,m1,m2,fun i hi hb=>m3 i hi ((hbw i hi).2.1 hb)⟩
theorem dH.starter(h:p.dH W j tag x0 false wt bw xs ls O D gs w t){x':Pos}{es:Array Event}{tag':dZ}
  (hgo:stepG p.P true x0.g w = .go x'.g w' es) (hG:ng (Gt W 0) W (O 0) (D 0) w w' es) (hd:x'.d=deafBehind x0.d es) (aA:p.jY tag' x') (hO:x'.O=grow (O 0) w w') (hD:x'.D=D 0) (hrel:au x'.O x'.D x'.w w')
  (hnr:∀e∈es,∀a,e.loc ≠ .mark (.release a)) (hmu:w'.heap[p.Mu]? = w.heap[p.Mu]?) (hmd:∃a b,WgAt p.L.tWg p.Wg w' a b∧Md j (fun k=>fH (wt k)) tag' a b) (hleft:BM p.n j tag') :
  ∃gs' O' gy ops,runT p.P (crowd gs w sl) 0=(.next (crowd gs' w' sl),ops)∧p.dH W j tag' x' false wt gy xs ls O' D gs' w' (t ++ ops):=by
 have hsz:=h.size
 have hn0:=h.hn0
 have hg0:gs[0]? = some x0.g:=by have:=h.main;simpa using this
 have hti:=h.ti
 have hown:=h.yx
 rw [←hsz] at hti hown
 obtain ⟨hrun,ni,_⟩:=kE (sl:=sl) (i:=0) hg0 (by simpa using hgo) hti hown hG
 rw [hsz] at ni
 have hown' :=h.own.grow (i:=0) (by omega) hG.size
 have o7:∀k,k < p.n0+j→k≠0→au (O k) (D k) w w' :=fun k hk hne=>hG.rely h.yx (by omega) hk hne
 have hoth:∀k,k≠0→with_ O 0 w.heap.size w'.heap.size k=O k:=fun k hk=>BQ hk _ _
 have hself:with_ O 0 w.heap.size w'.heap.size 0=grow (O 0) w w' :=um O 0 w w'
 have hops:∀op∈MemOp.ofEvents 0 x0.g.frame.fn x0.g.frame.place es,op.g=0:=g_of_ofEvents
 obtain ⟨gy,hbw⟩:=h.sleepers x0.g x'.g w'
 have hnC:=h.aei
 refine ⟨_,_,gy,_,hrun,h.hn0,by simpa using hsz,?_,fun e=>(by cases e),aA,by rw [hself,hO],hD,hrel,?_,fun i hi=>?_,fun i hi hb=>h.bs i hi ((hbw i hi).2.1 hb),fun i hi hs=>?_,h.H6,h.ph,fun k h1 h2=>?_,ni,hown',⟨h.hW.1,h.hW.2.1,h.hW.2.2.1,h.hW.2.2.2.1,Nat.lt_of_lt_of_le h.hW.2.2.2.2 hG.size⟩,
  fun hf=>(h.tok hf).app (Ug hG.ev h.hW.2.2.2.1 ?_ ?_),fun i hi hs=>?_,Cell.to h.cell (hG.heap _ h.hW.2.2.2.2 hnC h.hW.2.2.2.1),fun i hi hs=>?_,oZ h.norel hnr,?_,hmd,hleft⟩
 ·rw [get_map_set_same _ _ _ (by rw [hsz];omega)];rfl
 ·rw [Deaf_own,h.deaf,hd]
 ·obtain ⟨h1,h2,h3⟩:=h.wk i hi
  refine ⟨?_,h2,by rw [Deaf_other t (by omega) _ hops];exact h3⟩
  rw [get_map_set _ _ _ _ (by omega),h1,Option.map_some,(hbw i hi).1]
 ·obtain ⟨a1,a2,a3⟩:=h.wO i hi hs
  rw [hoth _ (by omega)]
  exact ⟨a1,a2,a3.trans (o7 _ (by omega) (by omega))⟩
 ·obtain ⟨a1,⟨q,a2⟩,a3,a4⟩:=h.lv k h1 h2
  refine ⟨?_,⟨q,a2⟩,by rw [Deaf_other t (by omega) _ hops];exact a3,a4.appNot fun op hop e'=>by rw [hops op hop] at e';omega⟩
  rw [get_map_set _ _ _ _ (by omega),a1,Option.map_some,woken_rf a2.status]
 ·have how:=hown'.ow 0 p.C (by omega)
  rw [hself] at how
  exact fun x=>how x (.inr ⟨hf,rfl⟩)
 ·exact fun x=>h.own.dw 0 p.C (by omega) x (.inr ⟨hf,rfl⟩)
 ·rw [hoth _ (by omega)]
  exact h.hold i hi hs
 ·obtain ⟨r,hr'⟩:=h.over i hi hs
  exact ⟨r,hr'.appNot fun op hop e'=>by rw [hops op hop] at e';omega⟩
 ·obtain ⟨m,q,m1,m2,m3⟩:=h.mi
  exact ⟨m,q,by unfold MuAt at m1 ⊢;rw [hmu];exact m1,m2,fun i hi hb=>m3 i hi ((hbw i hi).2.1 hb)⟩
theorem dH.sleeps{gT:Goroutine}(h:p.dH W j tag x0 false wt bw xs ls O D gs w t)(htag:tag = .w3 gT)(h3:M3 p.P p.L p.Wg gT x0.d x0.g)(hex:∃i,i < j∧2≤fH (wt i))(hgo:stepG p.P true x0.g w = .go { x0.g with status:=.blocked } w #[]) :
  ∃gs' ops,runT p.P (crowd gs w sl) 0=(.next (crowd gs' w sl),ops)∧p.dH W j tag x0 true wt bw xs ls O D gs' w (t ++ ops):=by
 have hsz:=h.size
 have hn0:=h.hn0
 have hg0:gs[0]? = some x0.g:=by have:=h.main;simpa using this
 have hrun:=runT_crowd_go (P:=p.P) (sl:=sl) (i:=0) hg0 (by simpa using hgo)
 have ew:woken p.P x0.g { x0.g with status:=.blocked } w=id:=by funext o;simp [woken]
 rw [ew,Array.map_id] at hrun
 have e0:t ++ MemOp.ofEvents 0 x0.g.frame.fn x0.g.frame.place #[]=t:=by simp [MemOp.ofEvents]
 refine ⟨_,_,hrun,?_⟩
 rw [e0]
 refine ⟨h.hn0,by simpa using hsz,?_,fun _=>⟨⟨gT,htag,h3⟩,hex⟩,h.seat,h.O0,h.D0,h.rely,h.deaf,fun i hi=>?_,h.bs,h.wO,h.H6,h.ph,fun k h1 h2=>?_,h.ti,h.own,h.hW,h.tok,h.hold,h.cell,h.over,h.norel,h.mi,h.md,h.left⟩
 ·rw [Array.getElem?_setIfInBounds_self_of_lt (by rw [hsz];omega)];rfl
 ·obtain ⟨a1,a2⟩:=h.wk i hi
  exact ⟨by rw [Array.getElem?_setIfInBounds_ne (by omega)];exact a1,a2⟩
 ·obtain ⟨a1,a2⟩:=h.lv k h1 h2
  exact ⟨by rw [Array.getElem?_setIfInBounds_ne (by omega)];exact a1,a2⟩
theorem dH.aej(h:p.dH W j tag x0 false wt bw xs ls O D gs w t){g':Goroutine}{es:Array Event}{tag':dZ}
  (hgo:stepG p.P true x0.g w = .go g' w' es) (hw:w' = w∨∃a v,a.block=p.Wg∧w' = w.setCell a v) (hes:∀e∈es,iM p.Wg e∨XM p.Wg e) (aA:p.jY tag' { x0 with d:=deafBehind x0.d es,g:=g' })
  (hmd:∃a b,WgAt p.L.tWg p.Wg w' a b∧Md j (fun k=>fH (wt k)) tag' a b) (hleft:BM p.n j tag') :
  ∃gs' O' gy ops,runT p.P (crowd gs w sl) 0=(.next (crowd gs' w' sl),ops)∧p.dH W j tag' { x0 with d:=deafBehind x0.d es,g:=g' } false wt gy xs ls O' D gs' w' (t ++ ops):=by
 have hlt:p.Wg < w.heap.size:=h.own.vP _ (.inl h.hW.1)
 have hn0:=h.hn0
 have hev:∀e∈es,Gt W 0 e∧(MemAct.ofEvent e).low w.heap.size:=fun e he=>(hes e he).elim (xk h.hW.1 hlt) (Ul h.hW.1 hlt)
 have hG:ng (Gt W 0) W (O 0) (D 0) w w' es:=by
  rcases hw with rfl|⟨a,v,ha,rfl⟩
  ·exact qE hev
  ·exact BV (by rw [ha];exact h.hW.1) hev
 have hsz:w'.heap.size=w.heap.size:=by
  rcases hw with rfl|⟨a,v,_,rfl⟩
  ·rfl
  ·simp
 have hoth:∀b,b≠p.Wg→w'.heap[b]? = w.heap[b]? :=fun b hb=>by
  rcases hw with rfl|⟨a,v,ha,rfl⟩
  ·rfl
  ·exact dS (by rw [ha];exact hb)
 have hrel:au (O 0) (D 0) w w' :=⟨hG.size,fun b hb=>hoth b fun e=>h.yx.ow 0 b (by omega) hb (e ▸ h.hW.1),fun b hb=>hoth b fun e=>h.yx.dw 0 b (by omega) hb (e ▸ h.hW.1),hG.os,hG.output,hG.tape⟩
 refine h.starter (x' :={ x0 with d:=deafBehind x0.d es,g:=g' }) hgo hG rfl aA ?_ h.D0 ?_ (fun e he a=>(hes e he).elim (fun x=>fJ x a) (fun x=>Cb x a)) (hoth p.Mu (Ne.symm h.hW.2.2.1)) hmd hleft
 ·show x0.O=_;rw [Ol hsz];exact h.O0
 ·exact h.rely.trans (by rw [h.O0,h.D0];exact hrel)
end Ph
end Go.Mx
namespace Go.Mx
open Go.Ren
open Go.Conc hiding Goes mem_ofEvents
open Go.ConcN (sumTo upd upd_same upd_ne sumTo_congr sumTo_upd le_sumTo RelBy get_map_set get_map_set_same WgLive norel_of Deaf_absent)
open Go.Conc.Lib (WgLink)
open Go.ConcR (KK WgAt stA smA rd wr g_of_ofEvents loc_of_ofEvent)
theorem jO{φ:Lk→Nat}{j:Nat}{lk lk':Nat→Lk}(h0:φ .out=0)(hl:lk' j = .out)(he:∀k,k < j→lk' k=lk k):sm φ (j+1) lk' = sm φ j lk:=by
 show sumTo j (fun i=>φ (lk' i))+φ (lk' j)=_
 rw [hl,h0,Nat.add_zero]
 exact sumTo_congr fun i hi=>by rw [he i hi]
theorem MI.more{B j:Nat}{lk lk':Nat→Lk}{m:Wd}{q:Nat}(h:MI B j lk m q)(hB:j+1≤B)(hl:lk' j = .out)(he:∀k,k < j→lk' k=lk k):MI B (j+1) lk' m q:=by
 refine ⟨h.bits,hB,?_,fun e=>?_,fun e=>?_,fun a b c d=>?_,fun i hi=>?_⟩
 ·rw [jO rfl hl he];exact h.own
 ·rw [jO (φ:=cK) rfl hl he,jO (φ:=cT) rfl hl he,jO (φ:=cU) rfl hl he,jO (φ:=cA) rfl hl he,jO (φ:=cW) rfl hl he];exact h.nor e
 ·rw [jO (φ:=cK) rfl hl he,jO (φ:=cT) rfl hl he,jO (φ:=cU) rfl hl he,jO (φ:=cA) rfl hl he,jO (φ:=cW) rfl hl he];exact h.Ah e
 ·obtain ⟨i,h1,h2⟩:=h.prog a b c d
  exact ⟨i,by omega,by rw [he i h1];exact h2⟩
 ·rcases Nat.lt_or_ge i j with h1|h1
  ·rw [he i h1];exact h.wf i h1
  ·obtain rfl:i=j:=by omega
   rw [hl];trivial
namespace Ph
variable{p:Ph}{W:Nat→Prop}{j:Nat}{tag:dZ}{x0:Pos}{bl:Bool}{wt:Nat→WT}{bw:Nat→Bool}{xs ls:Nat→Pos}{O D:Nat→Nat→Prop}{gs:Array Goroutine}{w w':World}{sl:Option (Nat×Nat)}{t:Trace}
theorem P8{wt wt':Nat→WT}(hl:wt' j = .work)(he:∀k,k < j→wt' k=wt k):free (j+1) wt' ↔ free j wt:=by
 refine ⟨fun h k hk=>?_,fun h k hk=>?_⟩
 ·rw [←he k hk];exact h k (by omega)
 ·rcases Nat.lt_or_ge k j with h1|h1
  ·rw [he k h1];exact h k h1
  ·obtain rfl:k=j:=by omega
   rw [hl];exact id
theorem dH.spawn{r:Nat}(hB:p.n≤p.B)(h:p.dH W j (.sp (r+1) 0) x0 false wt bw xs ls O D gs w t)(hgo:p.vZ (p.n - (r+1)) (p.HY r) x0.D x0.d x0.O x0.g x0.w) :
  ∃gs' x0' wt' gy xs' O' D' ops,runT p.P (crowd gs w sl) 0=(.next (crowd gs' w sl),ops)∧p.dH W (j+1) (.sp r 1) x0' false wt' gy xs' ls O' D' gs' w (t ++ ops):=by
 have hsz:=h.size
 have hn0:=h.hn0
 have hleft:r+1+j=p.n:=h.left
 have hg0:gs[0]? = some x0.g:=by have:=h.main;simpa using this
 obtain ⟨hd0,hrn,hall⟩:=hgo
 obtain ⟨g',child,M,H,N,hst,hM,hH,hN,hchild,hnx⟩:=hall w h.rely h.inv
 have hi:p.n - (r+1)=j:=by omega
 rw [hi] at hchild
 have hrun:=runT_crowd_spawn (P:=p.P) (sl:=sl) (i:=0) hg0 (by simpa using hst)
 have e0:∀x y:MemOp,((MemOp.ofEvents 0 x0.g.frame.fn x0.g.frame.place #[]).push x).push y = #[x,y]:=fun x y=>by simp [MemOp.ofEvents]
 rw [e0] at hrun
 have hti:=h.ti
 have hown:=h.own
 rw [h.O0] at hM hH
 rw [h.D0] at hN
 have hx:(⟨0,x0.g.frame.fn,x0.g.frame.place,.go gs.size⟩:MemOp).g=0∧(⟨0,x0.g.frame.fn,x0.g.frame.place,.go gs.size⟩:MemOp).act = .go (p.n0+j):=⟨rfl,by rw [hsz]⟩
 have hy:(⟨gs.size,child.frame.fn,x0.g.frame.place,.start⟩:MemOp).g=p.n0+j∧(⟨gs.size,child.frame.fn,x0.g.frame.place,.start⟩:MemOp).act = .start:=⟨hsz,rfl⟩
 have hdf:Go.Conc.Deaf t 0=0:=by rw [h.deaf];exact hd0
 have ni :=hti.fork (by omega) hx hy hdf hM hH hN
 have hown' :=hown.fork (by omega) hM hH hN
 have hm:∀op ∈ #[(⟨0,x0.g.frame.fn,x0.g.frame.place,.go gs.size⟩:MemOp),⟨gs.size,child.frame.fn,x0.g.frame.place,.start⟩],op.act ≠ .mark .disable∧op.act ≠ .mark .enable:=by
  intro op hop
  simp only [List.mem_toArray,List.mem_cons,List.not_mem_nil,or_false] at hop
  rcases hop with rfl|rfl<;>simp
 have aek:∀k,k≠0→k < p.n0+j→∀op ∈ #[(⟨0,x0.g.frame.fn,x0.g.frame.place,.go gs.size⟩:MemOp),⟨gs.size,child.frame.fn,x0.g.frame.place,.start⟩],op.g≠k:=by
  intro k hk hk2 op hop
  simp only [List.mem_toArray,List.mem_cons,List.not_mem_nil,or_false] at hop
  rcases hop with rfl|rfl
  ·exact fun e=>hk e.symm
  ·show gs.size≠k;omega
 have ael:∀k,k < p.n0+j→k≠0→((gs.setIfInBounds 0 g').push child)[k]? = gs[k]? :=fun k hk hk0=>by
  rw [Array.getElem?_push_lt (by simp [hsz];omega),←Array.getElem?_eq_getElem,Array.getElem?_setIfInBounds_ne (by omega)]
 have hO:∀k,k≠0→k < p.n0+j→o8 O (p.n0+j) M H k=O k:=fun k h1 h2=>by
  funext b;unfold o8;rw [if_neg h1,if_neg (by omega)]
 have hD:∀k,k≠0→k < p.n0+j→o9 D (p.n0+j) M N k=D k:=fun k h1 h2=>by
  funext b;unfold o9;rw [if_neg h1,if_neg (by omega)]
 have hOn:o8 O (p.n0+j) M H (p.n0+j)=H:=by funext b;unfold o8;rw [if_neg (by omega),if_pos rfl]
 have hDn:o9 D (p.n0+j) M N (p.n0+j)=N:=by funext b;unfold o9;rw [if_neg (by omega),if_pos rfl]
 have aA:p.jY (.sp r 1) ⟨fun b=>x0.O b∧¬M b∧¬H b,fun b=>x0.D b∨M b,0,g',w⟩:=by
  rcases r with _|r<;>exact hnx
 have aaG:p.dh j .work ⟨H,N,0,child,w⟩:=hchild
 have Q3:∀i,i < j→upd wt j .work i=wt i:=fun i hi=>upd_ne wt _ (by omega)
 have aaH:∀i,i < j→upd xs j ⟨H,N,0,child,w⟩ i=xs i:=fun i hi=>upd_ne xs _ (by omega)
 have hbj:∀i,i < j→upd bw j false i=bw i:=fun i hi=>upd_ne bw _ (by omega)
 have hfr:=P8 (j:=j) (wt:=wt) (wt' :=upd wt j .work) (upd_same wt j _) Q3
 have hdn:Go.Conc.Deaf t (p.n0+j)=0:=Deaf_absent fun p op hp e=>by have:=h.ti.gs p op hp;omega
 refine ⟨_,⟨fun b=>x0.O b∧¬M b∧¬H b,fun b=>x0.D b∨M b,0,g',w⟩,upd wt j .work,upd bw j false,upd xs j ⟨H,N,0,child,w⟩,o8 O (p.n0+j) M H,o9 D (p.n0+j) M N,_,hrun,h.hn0,by simp [hsz];omega,?_,fun e=>(by cases e),aA,?_,?_,.refl _,?_,fun i hi=>?_,fun i hi hb=>?_,fun i hi hs=>?_,fun i hi hs=>?_,fun i hi=>?_,fun k h1 h2=>?_,by rw [←Nat.add_assoc];exact ni,
  by rw [←Nat.add_assoc,uk hfr];exact hown',h.hW,fun hf=>?_,fun i hi hs=>?_,?_,fun i hi hs=>?_,EN h.norel ?_,?_,?_,by show r+(j+1)=p.n;omega⟩
 ·rw [Array.getElem?_push_lt (by simp [hsz];omega)]
  simp
 ·funext b;unfold o8;rw [if_pos rfl,h.O0]
 ·funext b;unfold o9;rw [if_pos rfl,h.D0]
 ·rw [Go.ConcN.Deaf_still t 0 _ hm,h.deaf];exact hd0
 ·rcases Nat.lt_or_ge i j with hlt|hge
  ·obtain ⟨a1,a2,a3⟩:=h.wk i hlt
   rw [Q3 i hlt,aaH i hlt,hbj i hlt]
   exact ⟨by rw [ael _ (by omega) (by omega)];exact a1,a2,by rw [Go.ConcN.Deaf_still t _ _ hm];exact a3⟩
  ·obtain rfl:i=j:=by omega
   rw [upd_same,upd_same,upd_same]
   refine ⟨?_,aaG,?_⟩
   ·have:p.n0+i=(gs.setIfInBounds 0 g').size:=by simp [hsz]
    rw [this,Array.getElem?_push_size]
    rfl
   ·rw [Go.ConcN.Deaf_still t _ _ hm]
    exact hdn
 ·rcases Nat.lt_or_ge i j with hlt|hge
  ·rw [hbj i hlt] at hb
   rw [Q3 i hlt,aaH i hlt]
   exact h.bs i hlt hb
  ·obtain rfl:i=j:=by omega
   rw [upd_same] at hb;cases hb
 ·rcases Nat.lt_or_ge i j with hlt|hge
  ·rw [Q3 i hlt] at hs
   rw [aaH i hlt,hO _ (by omega) (by omega),hD _ (by omega) (by omega)]
   exact h.wO i hlt hs
  ·obtain rfl:i=j:=by omega
   rw [upd_same,hOn,hDn]
   exact ⟨rfl,rfl,.refl _⟩
 ·rcases Nat.lt_or_ge i j with hlt|hge
  ·rw [Q3 i hlt] at hs;exact h.H6 i hlt hs
  ·obtain rfl:i=j:=by omega
   rw [upd_same] at hs;exact hs.elim
 ·rcases Nat.lt_or_ge i j with hlt|hge
  ·rw [Q3 i hlt];exact h.ph i hlt
  ·obtain rfl:i=j:=by omega
   rw [upd_same];trivial
 ·obtain ⟨a1,a2,a3,a4⟩:=h.lv k h1 h2
  exact ⟨by rw [ael _ (by omega) (by omega)];exact a1,a2,by rw [Go.ConcN.Deaf_still t _ _ hm];exact a3,a4.appNot (aek k (by omega) (by omega))⟩
 ·rw [←Nat.add_assoc]
  exact (h.tok (hfr.1 hf)).fork (by omega) hx hy hdf hdn
 ·rcases Nat.lt_or_ge i j with hlt|hge
  ·rw [Q3 i hlt] at hs
   rw [hO _ (by omega) (by omega)]
   exact h.hold i hlt hs
  ·obtain rfl:i=j:=by omega
   rw [upd_same] at hs;exact hs.elim
 ·obtain ⟨order,c1,c2,c3,c4,c5⟩:=h.cell
  refine ⟨order,c1,fun k=>?_,c3,fun k hk v e=>?_,fun hn=>c5 fun k hk v e=>hn k (by omega) v (by rw [Q3 k hk];exact e)⟩
  ·rw [c2]
   rcases Nat.lt_or_ge k j with hlt|hge
   ·rw [Q3 k hlt]
    exact ⟨fun x=>⟨by omega,x.2⟩,fun x=>⟨hlt,x.2⟩⟩
   ·constructor
    ·intro x;omega
    ·rintro ⟨x,y,z⟩
     obtain rfl:k=j:=by omega
     rw [upd_same] at z
     exact z.elim
  ·rcases Nat.lt_or_ge k j with hlt|hge
   ·rw [Q3 k hlt] at e;exact c4 k hlt v e
   ·obtain rfl:k=j:=by omega
    rw [upd_same] at e;cases e
 ·rcases Nat.lt_or_ge i j with hlt|hge
  ·rw [Q3 i hlt] at hs
   obtain ⟨r',hr'⟩:=h.over i hlt hs
   exact ⟨r',hr'.appNot (aek _ (by omega) (by omega))⟩
  ·obtain rfl:i=j:=by omega
   rw [upd_same] at hs
   simp [fH] at hs
 ·intro op hop a
  simp only [List.mem_toArray,List.mem_cons,List.not_mem_nil,or_false] at hop
  rcases hop with rfl|rfl<;>simp
 ·obtain ⟨m,q,m1,m2,m3⟩:=h.mi
  refine ⟨m,q,m1,m2.more (by omega) (by rw [upd_same];rfl) (fun k hk=>by rw [Q3 k hk]),fun i hi hb=>?_⟩
  rcases Nat.lt_or_ge i j with hlt|hge
  ·rw [hbj i hlt] at hb;exact m3 i hlt hb
  ·obtain rfl:i=j:=by omega
   rw [upd_same] at hb;cases hb
 ·obtain ⟨a,b,m1,m2⟩:=h.md
  rw [lS fH]
  generalize hst':(fun k=>fH (wt k))=st at m2
  have aem:∀i,i < j→upd st j 8 i=st i:=fun i hi=>upd_ne st _ (by omega)
  show ∃a b,WgAt p.L.tWg p.Wg w a b∧Md (j+1) (upd st j 8) (.sp r 1) a b
  cases m2 with
  |opn h1 h2 h3=>
   have hV:Vn (j+1) (upd st j 8)=Vn j st+1:=by
    show sumTo j (fun i=>oD (upd st j 8 i))+oD (upd st j 8 j)=_
    rw [upd_same,sumTo_congr (g:=fun i=>oD (st i)) (fun i hi=>by rw [aem i hi])]
    rfl
   have hp:lF (.sp r 1)=0:=by rcases r with _|r<;>rfl
   have hp1:lF (.sp (r+1) 0)=1:=rfl
   have:=Md.opn (j:=j+1) (st:=upd st j 8) (tag:=.sp r 1) trivial (fun i hi=>by
    rcases Nat.lt_or_ge i j with hlt|hge
    ·rw [aem i hlt];exact h2 i hlt
    ·obtain rfl:i=j:=by omega
     rw [upd_same];exact .inl rfl) trivial
   rw [hV,hp] at this
   rw [hp1] at m1
   exact ⟨_,_,m1,this⟩
  |fin h1 _=>exact h1.elim
end Ph
end Go.Mx
