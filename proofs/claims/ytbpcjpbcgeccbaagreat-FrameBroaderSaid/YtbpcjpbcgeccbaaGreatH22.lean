import Derived.Conc.DeferLaws
import Derived.Test.YtbpcjpbcgeccbaaGreatH8
import Derived.Test.YtbpcjpbcgeccbaaGreatH16
import Derived.Test.YtbpcjpbcgeccbaaGreatH20
import Derived.Test.YtbpcjpbcgeccbaaGreatH21
set_option linter.unusedVariables false
set_option linter.unusedSectionVars false
set_option linter.unusedSimpArgs false
namespace Go.Mx
open Go.Ren
open Go.Conc hiding Goes mem_ofEvents
open Go.ConcN (sumTo upd upd_same upd_ne sumTo_congr sumTo_upd le_sumTo RelBy get_map_set get_map_set_same WgLive norel_of Deaf_absent)
open Go.Conc.Lib (WgLink)
open Go.ConcR (KK WgAt stA smA rd wr g_of_ofEvents loc_of_ofEvent)
namespace Ph
variable{p:Ph}{W:Nat→Prop}{j:Nat}{tag:dZ}{x0:Pos}{bl:Bool}{wt:Nat→WT}{bw:Nat→Bool}{xs ls:Nat→Pos}{O D:Nat→Nat→Prop}{gs:Array Goroutine}{w w':World}{sl:Option (Nat×Nat)}{t:Trace}
def After(p:Ph)(W:Nat→Prop)(m:Machine)(t:Trace):Prop:=
 ∃(gs:Array Goroutine) (w:World) (sl:Option (Nat×Nat)) (g gT:Goroutine) (ls:Nat→Pos) (O D:Nat→Nat→Prop) (order:List Nat),
  m=crowd gs w sl∧gs.size=p.n0+p.n∧gs[0]? = some g∧ag p.P true (Lv p.L p.Wg) (XM p.Wg) (fun d g=>d=0∧g=gT) 0 g∧p.Fin (D 0) (O 0) gT w∧Go.Conc.Deaf t 0=0 ∧
  (∀k,1≤k→k < p.n0+p.n→gs[k]? = some (ls k).g∧(∃q,QuitsD p.P q (ls k).d (ls k).g)∧Go.Conc.Deaf t k=(ls k).d∧Gone W t k) ∧
  TI W (Ll W w.heap.size) qF (p.n0+p.n) w.heap.size t∧Own (fun b=>W b∨b=p.C) O D (p.n0+p.n) w.heap.size∧WgAt p.L.tWg p.Wg w 0 0∧(∀a,NoRelease a t) ∧
  order.Nodup∧(∀i,i∈order↔i < p.n∧p.locks i=true)∧p.V (p.fold order)∧CellIs p.oe p.C (p.fold order) w
theorem aaI{s:WT}(h:fH s=1):s = .fin 1:=by cases s<;>simp [fH] at h;rw [h]
theorem dH.acquire{gT:Goroutine}(h:p.dH W j (.acq gT) x0 false wt bw xs ls O D gs w t)(hx:KA p.P p.L p.Wg gT x0.d x0.g) :
  ∃m' ops,runT p.P (crowd gs w sl) 0=(.next m',ops)∧p.After W m' (t ++ ops):=by
 have hsz:=h.size
 have hn0:=h.hn0
 have hj:j=p.n:=h.left
 subst hj
 have hg0:gs[0]? = some x0.g:=by have:=h.main;simpa using this
 obtain ⟨hd0,hst,g',hgo,hid⟩:=hx
 have hinv:=h.inv
 obtain ⟨a,b,m1,m2⟩:=h.md
 have hall:WW p.n (fun k=>fH (wt k))∧a=0∧b=0:=by
  cases m2 with
  |opn h1=>exact h1.elim
  |fin _ h2=>exact ⟨h2,rfl,rfl⟩
 obtain ⟨hq,rfl,rfl⟩:=hall
 have hq:∀i,i < p.n→wt i = .fin 1:=fun i hi=>aaI (hq i hi)
 have hrun:=runT_crowd_go (P:=p.P) (sl:=sl) (i:=0) hg0 (by simpa using hgo w hinv.1)
 have e1:MemOp.ofEvents 0 x0.g.frame.fn x0.g.frame.place #[Go.ConcR.mk (.acquire (stA p.Wg))] = #[(⟨0,x0.g.frame.fn,x0.g.frame.place,.mark (.acquire (stA p.Wg))⟩:MemOp)]:=yz _ _ _ _
 rw [e1] at hrun
 have hz:(⟨0,x0.g.frame.fn,x0.g.frame.place,.mark (.acquire (stA p.Wg))⟩:MemOp).g=0∧(⟨0,x0.g.frame.fn,x0.g.frame.place,.mark (.acquire (stA p.Wg))⟩:MemOp).act = .mark (.acquire (stA p.Wg)):=⟨rfl,rfl⟩
 have hdf:Go.Conc.Deaf t 0=0:=by rw [h.deaf];exact hd0
 have hm:∀op ∈ #[(⟨0,x0.g.frame.fn,x0.g.frame.place,.mark (.acquire (stA p.Wg))⟩:MemOp)],op.act ≠ .mark .disable∧op.act ≠ .mark .enable:=by
  intro op hop
  simp only [List.mem_toArray,List.mem_cons,List.not_mem_nil,or_false] at hop
  subst hop
  simp
 have BZ:∀k,k≠0→k < p.n0+p.n→Gone W (t ++ #[(⟨0,x0.g.frame.fn,x0.g.frame.place,.mark (.acquire (stA p.Wg))⟩:MemOp)]) k:=by
  intro k hk hk2
  rcases Nat.lt_or_ge k p.n0 with h1|h1
  ·obtain ⟨_,_,_,a4⟩:=h.lv k (by omega) h1
   refine a4.appNot fun op hop=>?_
   simp only [List.mem_toArray,List.mem_cons,List.not_mem_nil,or_false] at hop
   subst hop
   exact fun e=>hk e.symm
  ·obtain ⟨i,rfl⟩:∃i,k=p.n0+i:=⟨k - p.n0,by omega⟩
   obtain ⟨r,hr⟩:=h.over i (by omega) (by rw [hq i (by omega)];simp [fH])
   exact hr.gone hz hk (h.norel _) hdf
 have hti:TI W (Ll W w.heap.size) qF (p.n0+p.n) w.heap.size (t ++ #[(⟨0,x0.g.frame.fn,x0.g.frame.place,.mark (.acquire (stA p.Wg))⟩:MemOp)]):=
  (h.ti.still (z:=⟨0,x0.g.frame.fn,x0.g.frame.place,.mark (.acquire (stA p.Wg))⟩) (by show 0 < p.n0+p.n;omega) rfl (h.own.vP _ (.inl h.hW.1))).alone BZ
 have hfr:free p.n wt:=fun i hi=>by rw [hq i hi];exact id
 have hown:Own (fun b=>W b∨b=p.C) O D (p.n0+p.n) w.heap.size:=by
  have:=h.own
  rw [uk (iff_true_intro hfr)] at this
  have e:(fun b=>W b∨(True∧b=p.C))=fun b=>W b∨b=p.C:=by funext b;simp
  rw [e] at this
  exact this
 obtain ⟨order,c1,c2,c3,c4,c5⟩:=h.cell
 have hfin:=h.seat.1 w h.rely
 rw [h.O0,h.D0] at hfin
 have hoff:∀k,k < p.n0+p.n→1≤k→True:=fun _ _ _=>trivial
 refine ⟨_,_,hrun,_,w,sl,g',gT,fun k=>if k < p.n0 then ls k else xs (k - p.n0),O,D,order,rfl,by simpa using hsz,get_map_set_same _ _ _ (by rw [hsz];omega),hid,hfin,by rw [Go.ConcN.Deaf_still t 0 _ hm];exact hdf,fun k h1 h2=>?_,hti,hown,m1,EN h.norel ?_,c1,fun i=>?_,c3,
  c5 fun k hk v e=>by rw [hq k hk] at e;cases e⟩
 ·rw [Go.ConcN.Deaf_still t _ _ hm]
  rcases Nat.lt_or_ge k p.n0 with h3|h3
  ·dsimp only
   rw [if_pos h3]
   obtain ⟨a1,⟨q,a2⟩,a3,_⟩:=h.lv k h1 h3
   exact ⟨by rw [get_map_set _ _ _ _ (by omega),a1,Option.map_some,woken_rf a2.status],⟨q,a2⟩,a3,BZ k (by omega) h2⟩
  ·dsimp only
   rw [if_neg (by omega)]
   obtain ⟨i,rfl⟩:∃i,k=p.n0+i:=⟨k - p.n0,by omega⟩
   rw [Nat.add_sub_cancel_left]
   obtain ⟨a1,a2,a3⟩:=h.wk i (by omega)
   have hbi:bw i=false:=by
    cases e:bw i with
    |false=>rfl
    |true=>
     obtain ⟨⟨sv,e'⟩,_⟩:=h.bs i (by omega) e
     rw [hq i (by omega)] at e';cases e'
   rw [hq i (by omega)] at a2
   rw [hbi] at a1
   obtain ⟨q,a2⟩:=a2
   exact ⟨by rw [get_map_set _ _ _ _ (by omega),a1,Option.map_some];simp only [Bool.false_eq_true,if_false];rw [woken_rf a2.status],⟨q,a2⟩,a3,BZ _ (by omega) h2⟩
 ·intro op hop a
  simp only [List.mem_toArray,List.mem_cons,List.not_mem_nil,or_false] at hop
  subst hop
  simp
 ·rw [c2]
  exact ⟨fun x=>⟨x.1,x.2.1⟩,fun x=>⟨x.1,x.2,by rw [hq i x.1];trivial⟩⟩
inductive rZ(p:Ph)(W:Nat→Prop)(j:Nat)(tag:dZ)(x0:Pos)(wt:Nat→WT)(bw:Nat→Bool)(xs ls:Nat→Pos)(w:World)(t:Trace)(m':Machine)(ops:Array MemOp):Prop
 |on {gs':Array Goroutine} {w':World} {sl:Option (Nat×Nat)} {tag':dZ} {x':Pos} {gy:Nat→Bool} {O' D':Nat→Nat→Prop} (e:m' = crowd gs' w' sl) (hmu:w'.heap[p.Mu]? = w.heap[p.Mu]?) (ho:Ord (rkM p.n) p.jY p.Yi (tag',x') (tag,x0)) (h:p.dH W j tag' x' false wt gy xs ls O' D' gs' w' (t ++ ops)):rZ p W j tag x0 wt bw xs ls w t m' ops
 |sleep {gs':Array Goroutine} {sl:Option (Nat×Nat)} {O' D':Nat→Nat→Prop} (e:m' = crowd gs' w sl) (h:p.dH W j tag x0 true wt bw xs ls O' D' gs' w (t ++ ops)):rZ p W j tag x0 wt bw xs ls w t m' ops
 |more {gs':Array Goroutine} {w':World} {sl:Option (Nat×Nat)} {r:Nat} {x':Pos} {wt':Nat→WT} {gy:Nat→Bool} {xs':Nat→Pos} {O' D':Nat→Nat→Prop} (e:m' = crowd gs' w' sl) (h:p.dH W (j+1) (.sp r 1) x' false wt' gy xs' ls O' D' gs' w' (t ++ ops)):rZ p W j tag x0 wt bw xs ls w t m' ops
 |join (h:p.After W m' (t ++ ops)):rZ p W j tag x0 wt bw xs ls w t m' ops
theorem dH.Jg(hn:p.n < 2147483647)(h:p.dH W j tag x0 false wt bw xs ls O D gs w t)(hw:∀r s,tag ≠ .sp r s) :
  ∃m' ops,runT p.P (crowd gs w sl) 0=(.next m',ops)∧p.rZ W j tag x0 wt bw xs ls w t m' ops:=by
 have hinv:=h.inv
 have hl:Lv p.L p.Wg w:=hinv.1
 obtain ⟨a,b,m1,m2⟩:=h.md
 generalize hst:(fun k=>fH (wt k))=st at m2
 have hVj:=Uj j st
 have hMW:p.Mu≠p.Wg:=h.hW.2.2.1.symm
 have hjn:j=p.n:=by
  have:=h.left
  cases tag with
  |sp r s=>exact absurd rfl (hw r s)
  |_=>exact this
 have put:∀ {tag':dZ} {g':Goroutine} {w':World} {es:Array Event},stepG p.P true x0.g w = .go g' w' es→(w' = w∨∃a v,a.block=p.Wg∧w' = w.setCell a v)→(∀e∈es,iM p.Wg e∨XM p.Wg e)→p.jY tag' { x0 with d:=deafBehind x0.d es,g:=g' } →
   (∃a b,WgAt p.L.tWg p.Wg w' a b∧Md j st tag' a b)→(BM p.n j tag') →
   (rkM p.n tag' < rkM p.n tag∨(tag' = tag∧p.Yi tag { x0 with d:=deafBehind x0.d es,g:=g' } x0)) →
   ∃m' ops,runT p.P (crowd gs w sl) 0=(.next m',ops)∧p.rZ W j tag x0 wt bw xs ls w t m' ops:=by
  intro tag' g' w' es hgo hw' hes aA hmd hleft hord
  obtain ⟨gs',O',gy,ops,h1,h2⟩:=h.aej (sl:=sl) hgo hw' hes aA (by rw [hst];exact hmd) hleft
  refine ⟨_,ops,h1,.on rfl ?_ (hord.imp (fun x=>⟨x,aA⟩) (fun x=>x)) h2⟩
  rcases hw' with rfl|⟨a,v,ha,rfl⟩
  ·rfl
  ·exact dS (by rw [ha];exact hMW)
 have idle:∀ {S:Nat→Goroutine→Prop},p.Yi tag=Gf p.P true (Lv p.L p.Wg) S→(∀d g,ag p.P true (Lv p.L p.Wg) (XM p.Wg) S d g→p.jY tag { x0 with d:=d,g:=g })→¬S x0.d x0.g →
   (∃g' es,stepG p.P true x0.g w = .go g' w es∧(∀e∈es,XM p.Wg e)∧ag p.P true (Lv p.L p.Wg) (XM p.Wg) S (deafBehind x0.d es) g') →
   ∃m' ops,runT p.P (crowd gs w sl) 0=(.next m',ops)∧p.rZ W j tag x0 wt bw xs ls w t m' ops:=by
  rintro S hN aA hnS ⟨g',es,hgo,hes,hid⟩
  refine put (tag' :=tag) hgo (.inl rfl) (fun e he=>.inr (hes e he)) (aA _ _ hid) ⟨a,b,m1,m2⟩ h.left (.inr ⟨rfl,?_⟩)
  rw [hN]
  exact ⟨hnS,w,w,es,hl,hgo,rfl⟩
 have aA:=h.seat
 cases tag with
 |sp r s=>exact absurd rfl (hw r s)
 |w1 v gT A=>
  obtain ⟨hA,hFn,hid⟩:=aA
  rcases pg hid hl with hx|⟨hnS,hx⟩
  ·obtain ⟨hd1,_,hall⟩:=hx
   cases m2 with
   |opn h1 h2 h3=>
    have e0:lF (.w1 v gT A)=0:=rfl
    rw [e0,Nat.add_zero] at m1
    obtain ⟨g',hgo,hz,hnz⟩:=hall (Vn j st) (by omega)
    have hgo' :=hgo w hl m1
    rcases Nat.eq_zero_or_pos (Vn j st) with hz0|hpos
    ·have hq:=h2.Gx hz0
     refine put (tag' :=.acq gT) hgo' (.inl rfl) WX ⟨hFn,by rw [Gy,hd1];exact hz hz0⟩ ⟨0,0,by rw [hz0] at m1;simpa using m1,.fin trivial hq⟩ hjn (.inl (by show 1 < 8 * v+6;omega))
    ·refine put (tag' :=.w2 (Vn j st) gT A) hgo' (.inl rfl) WX ⟨hA,hFn,by rw [Gy,hd1];exact hnz (by omega)⟩ ⟨_,_,m1,?_⟩ hjn (.inl (by show 8 * Vn j st+4 < 8 * v+6;have:Vn j st≤v:=h3;omega))
     have:=Md.opn (j:=j) (st:=st) (tag:=.w2 (Vn j st) gT A) trivial h2 ⟨Nat.le_refl _,hpos⟩
     simpa [lF] using this
   |fin h1=>exact h1.elim
  ·exact idle rfl (fun d g x=>⟨hA,hFn,x⟩) hnS hx
 |w2 v gT A=>
  obtain ⟨hA,hFn,hid⟩:=aA
  rcases pg hid hl with hx|⟨hnS,hx⟩
  ·obtain ⟨hd1,_,hall⟩:=hx
   cases m2 with
   |opn h1 h2 h3=>
    have e0:lF (.w2 v gT A)=0:=rfl
    rw [e0,Nat.add_zero] at m1
    obtain ⟨h3a,h3b⟩:Vn j st≤v∧1≤v:=h3
    obtain ⟨hhit,hmiss⟩:=hall (Vn j st) (by omega)
    by_cases hv:Vn j st=v
    ·obtain ⟨g',hgo,Lm⟩:=hhit hv
     refine put (tag' :=.w3 gT) (hgo w hl m1) (.inr ⟨_,_,rfl,rfl⟩) bk_rw ⟨hFn,by rw [Ot,hd1];exact Lm⟩ ⟨_,_,m1.setSt _,.reg h2 (by omega)⟩ hjn (.inl (by show 3 < 8 * v+4;omega))
    ·obtain ⟨g',hgo,Lm⟩:=hmiss hv
     refine put (tag' :=.w1 (Vn j st) gT A) (hgo w hl m1) (.inl rfl) WX ⟨hA,hFn,?_⟩ ⟨_,_,m1,?_⟩ hjn (.inl (by show 8 * Vn j st+6 < 8 * v+4;omega))
     ·rw [Gy,hd1]
      refine Lm.bind ?_
      rintro d g ⟨rfl,hg⟩
      exact hA g hg
     ·have:=Md.opn (j:=j) (st:=st) (tag:=.w1 (Vn j st) gT A) trivial h2 (Nat.le_refl _)
      simpa [lF] using this
   |fin h1=>exact h1.elim
  ·exact idle rfl (fun d g x=>⟨hA,hFn,x⟩) hnS hx
 |w3 gT=>
  obtain ⟨hFn,hid⟩:=aA
  rcases pg hid hl with hx|⟨hnS,hx⟩
  ·have hx' :=hx
   obtain ⟨hd1,hrn,hoff,hblk,g',hgo,Lm⟩:=hx
   have sleeps:(∃i,i < j∧2≤st i)→b=0→∃m' ops,runT p.P (crowd gs w sl) 0=(.next m',ops)∧p.rZ W j (.w3 gT) x0 wt bw xs ls w t m' ops:=by
    rintro hex rfl
    obtain ⟨gs',ops,h1,h2⟩:=h.sleeps (sl:=sl) rfl hx' (by rw [←hst] at hex;exact hex) (hblk w a m1)
    exact ⟨_,ops,h1,.sleep rfl h2⟩
   cases m2 with
   |opn h1=>exact h1.elim
   |reg h2 h3=>
    obtain ⟨i,hi,h5⟩:=vK h3
    exact sleeps ⟨i,hi,by omega⟩ rfl
   |last K h2 h3 h4=>exact sleeps ⟨K,h2,by omega⟩ rfl
   |sema h2=>
    have hsd:deafBehind x0.d (semEvents (smA p.Wg))=1:=by rw [hd1];simp [semEvents,deafBehind]
    exact put (tag' :=.w4 gT) (hgo w hl m1) (.inr ⟨_,_,rfl,rfl⟩) (fun e he=>.inl (Om e he)) ⟨hFn,by rw [hsd];exact Lm⟩ ⟨_,_,m1.setSm 0,.fin trivial h2⟩ hjn (.inl (by show 2 < 3;omega))
   |fin h1=>exact h1.elim
  ·exact idle rfl (fun d g x=>⟨hFn,x⟩) hnS hx
 |w4 gT=>
  obtain ⟨hFn,hid⟩:=aA
  rcases pg hid hl with hx|⟨hnS,hx⟩
  ·obtain ⟨hd1,hrn,g',hgo,Lm⟩:=hx
   cases m2 with
   |opn h1=>exact h1.elim
   |fin _ h2=>exact put (tag' :=.acq gT) (hgo w hl m1) (.inl rfl) WX ⟨hFn,by rw [Gy,hd1];exact Lm⟩ ⟨_,_,m1,.fin trivial h2⟩ hjn (.inl (by show 1 < 2;omega))
  ·exact idle rfl (fun d g x=>⟨hFn,x⟩) hnS hx
 |acq gT=>
  rcases pg aA.2 hl with hx|⟨hnS,hx⟩
  ·obtain ⟨m',ops,h1,h2⟩:=h.acquire (sl:=sl) hx
   exact ⟨m',ops,h1,.join h2⟩
  ·exact idle rfl (fun d g x=>⟨aA.1,x⟩) hnS hx
theorem dH.aaK{Stop:(Nat→Prop)→Nat→(Nat→Prop)→Goroutine→World→Prop}(h:p.dH W j tag x0 false wt bw xs ls O D gs w t)(hid:dM p.P true p.I (XM p.Wg) x0.D (Stop x0.D) x0.d x0.O x0.g x0.w)
  (hN:p.Yi tag=Yj p.P true p.I Stop) (hM:∀x':Pos,x'.D=x0.D→dM p.P true p.I (XM p.Wg) x'.D (Stop x'.D) x'.d x'.O x'.g x'.w→p.jY tag x') (hns:¬Stop x0.D x0.d x0.O x0.g x0.w) :
  ∃m' ops,runT p.P (crowd gs w sl) 0=(.next m',ops)∧p.rZ W j tag x0 wt bw xs ls w t m' ops:=by
 have hinv:=h.inv
 have hn0:=h.hn0
 have Jh:=h.rely
 have hO:=h.O0
 have hD:=h.D0
 have hmain:=h.main
 generalize hx:x0=y at hid hns Jh hO hD hmain
 obtain ⟨OO,DD,dd,gg,ww⟩:=y
 dsimp only at hid hns Jh hO hD
 cases hid with
 |stop hs=>exact absurd hs hns
 |step hst f u es hk k=>
  obtain ⟨hgo,hG⟩:=hk w Jh hinv
  have hnext:=k w Jh hinv
  subst hO hD
  have hlt:p.Wg < w.heap.size:=h.own.vP _ (.inl h.hW.1)
  have hGw:ng (Gt W 0) W (O 0) (D 0) w (u w) (es w):=hG.wide fun e he=>(Ul (w:=w) h.hW.1 hlt he).1
  have hkeep:∀b,W b→(u w).heap[b]? = w.heap[b]? :=fun b hb=>hG.heap b (h.yx.vP b hb) fun hO'=>h.yx.ow 0 b (by omega) hO' hb
  have aA:p.jY tag ⟨grow (O 0) w (u w),D 0,deafBehind dd (es w),f w,u w⟩:=hM ⟨grow (O 0) w (u w),D 0,deafBehind dd (es w),f w,u w⟩ (by rw [hx]) hnext
  obtain ⟨gs',O',gy,ops,h1,h2⟩:=h.starter (sl:=sl) (x' :=⟨grow (O 0) w (u w),D 0,deafBehind dd (es w),f w,u w⟩) (es:=es w) (w' :=u w) (tag' :=tag) (by rw [hx];exact hgo) hGw (by rw [hx]) aA rfl rfl (.refl _) (fun e he=>yB (hG.ev e he) fun x=>Cb x) (hkeep _ h.hW.2.1)
   (by obtain ⟨a,b,m1,m2⟩:=h.md;exact ⟨a,b,by unfold WgAt at m1 ⊢;rw [hkeep p.Wg h.hW.1];exact m1,m2⟩) h.left
  refine ⟨_,ops,h1,.on (x' :=⟨grow (O 0) w (u w),D 0,deafBehind dd (es w),f w,u w⟩) rfl (hkeep _ h.hW.2.1) (.inr ⟨rfl,?_⟩) h2⟩
  show p.Yi tag _ _
  rw [hN]
  exact ⟨rfl,hns,w,es w,Jh,hinv,hgo,rfl,rfl⟩
theorem dH.aaL{r s:Nat}(hB:p.n≤p.B)(hn:p.n < 2147483647)(h:p.dH W j (.sp r s) x0 false wt bw xs ls O D gs w t) :
  ∃m' ops,runT p.P (crowd gs w sl) 0=(.next m',ops)∧p.rZ W j (.sp r s) x0 wt bw xs ls w t m' ops:=by
 have hinv:=h.inv
 have hleft:r+j=p.n:=h.left
 have aA:=h.seat
 have hMW:p.Mu≠p.Wg:=h.hW.2.2.1.symm
 have hVj:=Uj j (fun k=>fH (wt k))
 rcases r with _|r
 ·rcases s with _|_|s
  ·exact aA.elim
  ·by_cases hx:fU p.P p.L p.Wg p.Fin x0.D x0.d x0.O x0.g x0.w
   ·obtain ⟨gT,A,hA,hid,hFn⟩:=hx
    have h':p.dH W j (.w1 p.n gT A) x0 false wt bw xs ls O D gs w t:=by
     refine ⟨h.hn0,h.size,h.main,fun e=>(by cases e),⟨hA,hFn,hid⟩,h.O0,h.D0,h.rely,h.deaf,h.wk,h.bs,h.wO,h.H6,h.ph,h.lv,h.ti,h.own,h.hW,h.tok,h.hold,h.cell,h.over,h.norel,h.mi,?_,by show j=p.n;omega⟩
     obtain ⟨a,b,m1,m2⟩:=h.md
     generalize (fun k=>fH (wt k))=st at m2 hVj
     show ∃a b,WgAt p.L.tWg p.Wg w a b∧Md j st (.w1 p.n gT A) a b
     cases m2 with
     |opn h1 h2 h3=>
      refine ⟨_,_,m1,?_⟩
      have:=Md.opn (j:=j) (st:=st) (tag:=.w1 p.n gT A) trivial h2 (by show Vn j st≤p.n;omega)
      simpa [lF] using this
     |fin h1=>exact h1.elim
    obtain ⟨m',ops,h1,h2⟩:=h'.Jg (sl:=sl) hn (fun r s e=>by cases e)
    refine ⟨m',ops,h1,?_⟩
    cases h2 with
    |on e hmu ho hc=>
     refine .on e hmu (.inl ⟨?_,hc.seat⟩) hc
     rcases ho with ⟨x,_⟩|⟨x,_⟩
     ·have x':rkM p.n _ < 8 * p.n+6:=x
      show rkM p.n _ < 8 * p.n+8+2 * 0+1
      omega
     ·dsimp only at x
      subst x
      show 8 * p.n+6 < 8 * p.n+8+2 * 0+1
      omega
    |sleep e hc=>obtain ⟨⟨gT',e',_⟩,_⟩:=hc.blk rfl;cases e'
    |more e hc=>exact .more e hc
    |join hc=>exact .join hc
   ·exact h.aaK aA rfl (fun x' hx' hk=>hk) hx
  ·exact aA.elim
 ·rcases s with _|_|s
  ·by_cases hx:p.vZ (p.n - (r+1)) (p.HY r) x0.D x0.d x0.O x0.g x0.w
   ·obtain ⟨gs',x0',wt',gy,xs',O',D',ops,h1,h2⟩:=h.spawn (sl:=sl) hB hx
    exact ⟨_,ops,h1,.more rfl h2⟩
   ·exact h.aaK aA rfl (fun x' hx' hk=>hk) hx
  ·by_cases hx:p.mO (p.n - (r+1)) (p.HY r) x0.D x0.d x0.O x0.g x0.w
   ·obtain ⟨hd1,hrn,hall⟩:=hx
    obtain ⟨a,b,m1,m2⟩:=h.md
    generalize hst:(fun k=>fH (wt k))=st at m2 hVj
    cases m2 with
    |opn h1 h2 h3=>
     have e0:lF (.sp (r+1) 1)=0:=rfl
     rw [e0,Nat.add_zero] at m1
     obtain ⟨g',hgo,hk⟩:=hall (Vn j st) (by omega)
     have hs':p.jY (.sp (r+1) 0) { x0 with d:=deafBehind x0.d #[rd (stA p.Wg),wr (stA p.Wg)],g:=g' }:=by
      show dM p.P true p.I (XM p.Wg) x0.D (p.vZ (p.n - (r+1)) (p.HY r) x0.D) (deafBehind x0.d #[rd (stA p.Wg),wr (stA p.Wg)]) x0.O g' x0.w
      rw [Ot,hd1]
      exact hk x0.w (.refl _)
     obtain ⟨gs',O',gy,ops,h1',h2'⟩:=h.aej (sl:=sl) (hgo w hinv.1 m1) (.inr ⟨_,_,rfl,rfl⟩) bk_rw hs' ⟨_,_,m1.setSt _,(by
      have:=Md.opn (j:=j) (st:=st) (tag:=.sp (r+1) 0) trivial h2 trivial
      have e1:lF (.sp (r+1) 0)=1:=rfl
      rw [e1] at this
      rw [hst]
      simpa using this)⟩ hleft
     exact ⟨_,ops,h1',.on rfl (dS (a:=stA p.Wg) hMW) (.inl ⟨by show 8 * p.n+8+2 * (r+1)+0 < 8 * p.n+8+2 * (r+1)+1;omega,hs'⟩) h2'⟩
    |fin h1=>exact h1.elim
   ·exact h.aaK aA rfl (fun x' hx' hk=>hk) hx
  ·exact aA.elim
end Ph
end Go.Mx
namespace Go.Mx
open Go.Ren
open Go.Conc hiding Goes mem_ofEvents
open Go.ConcN (sumTo upd upd_same upd_ne sumTo_congr sumTo_upd le_sumTo RelBy get_map_set get_map_set_same WgLive norel_of Deaf_absent)
open Go.Conc.Lib (WgLink)
open Go.ConcR (KK WgAt stA smA rd wr g_of_ofEvents loc_of_ofEvent)
theorem MuAt.inj{ty:TypeId}{Mu:Nat}{w:World}{m m':Wd}{q q':Nat}(h:MuAt ty Mu w m q)(h':MuAt ty Mu w m' q')(hb:m.Bits)(hb':m'.Bits):m=m' ∧ q=q' :=by
 unfold MuAt at h h'
 rw [h] at h'
 simp only [Option.some.injEq,Obj.cells.injEq,Array.mk.injEq,List.cons.injEq,Value.int.injEq,and_true,true_and] at h'
 exact ⟨Wd.inj hb hb' (by omega),by omega⟩
namespace Ph
abbrev Zp:=(dZ×WT)×Pos
def rz(p:Ph)(m:Wd)(k:Nat)(z' z:Zp):Prop:=
 if k=0 then Ord (rkM p.n) p.jY p.Yi (z'.1.1,z'.2) (z.1.1,z.2)
 else if k < p.n0 then VJ p.P z'.2 z.2 else Ord (DF m) (p.dh (k - p.n0)) (p.VI (k - p.n0)) (z'.1.2,z'.2) (z.1.2,z.2)
def JZ(n0:Nat)(tag:dZ)(x0:Pos)(wt:Nat→WT)(xs ls:Nat→Pos)(k:Nat):Zp:=
 if k=0 then ((tag,.work),x0) else if k < n0 then ((.sp 0 0,.work),ls k) else ((.sp 0 0,wt (k - n0)),xs (k - n0))
def Um(j:Nat)(bl:Bool)(bw:Nat→Bool):Nat:=(if bl then 0 else 1)+sumTo j fun k=>if bw k then 0 else 1
variable{p:Ph}{W:Nat→Prop}{j:Nat}{tag:dZ}{x0:Pos}{bl:Bool}{wt:Nat→WT}{bw:Nat→Bool}{xs ls:Nat→Pos}{O D:Nat→Nat→Prop}{gs:Array Goroutine}{w w':World}{sl:Option (Nat×Nat)}{t:Trace}
theorem P9{i:Nat}(hi:i < j)(hb:bw i=false):Um j bl (upd bw i true) < Um j bl bw:=by
 have e:=sumTo_upd bw true (fun b=>if b=true then 0 else 1) hi
 unfold Um
 rw [hb] at e
 simp only [if_true,Bool.false_eq_true,if_false,Nat.add_zero] at e
 omega
theorem dH.acc(m:Wd)(h:p.dH W j tag x0 bl wt bw xs ls O D gs w t):∀k,k < p.n0+j→Acc (p.rz m k) (JZ p.n0 tag x0 wt xs ls k):=by
 intro k hk
 rcases Nat.eq_zero_or_pos k with rfl|hpos
 ·have e:p.rz m 0=InvImage (Ord (rkM p.n) p.jY p.Yi) (fun z:Zp=>(z.1.1,z.2)):=by funext z' z;unfold rz;rw [if_pos rfl];rfl
  rw [e]
  exact InvImage.accessible _ (Ou p.PD _ tag x0 rfl h.seat)
 ·by_cases hlt:k < p.n0
  ·have e:p.rz m k=InvImage (VJ p.P) (fun z:Zp=>z.2):=by funext z' z;unfold rz;rw [if_neg (by omega),if_pos hlt];rfl
   rw [e]
   refine InvImage.accessible _ ?_
   unfold JZ
   rw [if_neg (by omega),if_pos hlt]
   obtain ⟨_,⟨q,hq⟩,_⟩:=h.lv k hpos hlt
   exact tX q _ hq
  ·have e:p.rz m k=InvImage (Ord (DF m) (p.dh (k - p.n0)) (p.VI (k - p.n0))) (fun z:Zp=>(z.1.2,z.2)):=by funext z' z;unfold rz;rw [if_neg (by omega),if_neg hlt];rfl
   rw [e]
   refine InvImage.accessible _ ?_
   unfold JZ
   rw [if_neg (by omega),if_neg hlt]
   exact Ou (p.PE (k - p.n0)) _ _ _ rfl (h.wk (k - p.n0) (by omega)).2.1
def Some(p:Ph)(W:Nat→Prop)(j:Nat)(m:Machine)(t:Trace):Prop:=∃tag x0 bl wt bw xs ls O D gs w sl,m=crowd gs w sl∧p.dH W j tag x0 bl wt bw xs ls O D gs w t
def Sm(p:Ph)(W:Nat→Prop)(j:Nat)(F:Nat)(m:Machine)(t:Trace):Prop:=∃tag x0 bl wt bw xs ls O D gs w sl mw q,m=crowd gs w sl∧MuAt p.tM p.Mu w mw q∧mw.Bits∧Hz j (fun k=>dW (wt k)) q=F∧p.dH W j tag x0 bl wt bw xs ls O D gs w t
theorem Un{aZ:Machine→Outcome→World→Trace→Prop}(hB:p.n≤p.B)(hV:∀k v,p.V v→p.V (p.f k v))(hn:p.n < 2147483647){F:Nat}{mw:Wd}{q:Nat}(hq:MuAt p.tM p.Mu w mw q)(hb:mw.Bits)(hF:Hz j (fun k=>dW (wt k)) q=F)(h:p.dH W j tag x0 bl wt bw xs ls O D gs w t) :
  aC p.P aZ (fun m t=>p.After W m t∨p.Some W (j+1) m t∨∃F',F' < F∧p.Sm W j F' m t) (crowd gs w sl) t:=by
 refine aC.Uo (r:=Prod.Lex (Vec (p.rz mw) (p.n0+j)) (· < ·)) (J:=fun a m t=>∃tag x0 bl wt bw xs ls O D gs w sl q,a=(JZ p.n0 tag x0 wt xs ls,Um j bl bw)∧m=crowd gs w sl∧MuAt p.tM p.Mu w mw q∧Hz j (fun k=>dW (wt k)) q=F∧p.dH W j tag x0 bl wt bw xs ls O D gs w t) ?_
  (a:=(JZ p.n0 tag x0 wt xs ls,Um j bl bw)) (Prod.lexAccessible (Gz _ _ _ (h.acc mw)) (fun b=>Nat.lt_wfRel.wf.apply b) _) ⟨tag,x0,bl,wt,bw,xs,ls,O,D,gs,w,sl,q,rfl,rfl,hq,hF,h⟩
 clear Un h hq hF tag x0 bl wt bw xs ls O D gs w sl t q
 rintro a m t ⟨tag,x0,bl,wt,bw,xs,ls,O,D,gs,w,sl,q,rfl,rfl,hq,hF,h⟩
 obtain ⟨i,g,d,sl',hg,hrun,hstep⟩:=h.pick (sl:=sl)
 rw [hstep]
 have h' :=h.at d
 have hn0:=h.hn0
 right
 right
 rcases Nat.eq_zero_or_pos i with rfl|hpos
 ·have hb:bl=false:=by
   cases hb:bl with
   |false=>rfl
   |true=>
    have:=h.main
    rw [hb,hg] at this
    cases this
    cases hrun
  subst hb
  have key:∃m' ops,runT p.P (crowd gs (w.at d) sl') 0=(.next m',ops)∧p.rZ W j tag x0 wt bw xs ls (w.at d) t m' ops:=by
   by_cases hw:∃r s,tag = .sp r s
   ·obtain ⟨r,s,rfl⟩:=hw
    exact h'.aaL hB hn
   ·exact h'.Jg hn fun r s e=>hw ⟨r,s,e⟩
  obtain ⟨m',ops,h1,h2⟩:=key
  refine ⟨m',ops,h1,?_⟩
  cases h2 with
  | @on gs' w' sl'' tag' x' gy O' D' e hmu ho hc=>
   refine .inr ⟨(JZ p.n0 tag' x' wt xs ls,Um j false gy),.left _ _ ⟨0,by omega,?_,fun k hk=>?_⟩,tag',x',false,wt,gy,xs,ls,O',D',gs',w',sl'',q,rfl,e,by unfold MuAt at hq ⊢;rw [hmu];exact hq,hF,hc⟩
   ·unfold rz;rw [if_pos rfl];exact ho
   ·unfold JZ;rw [if_neg hk,if_neg hk]
  | @sleep gs' sl'' O' D' e hc=>exact .inr ⟨(JZ p.n0 tag x0 wt xs ls,Um j true bw),.right _ (by unfold Um;simp),tag,x0,true,wt,bw,xs,ls,O',D',gs',_,sl'',q,rfl,e,hq,hF,hc⟩
  | @more gs' w' sl'' r x' wt' gy xs' O' D' e hc=>exact .inl (.inr (.inl ⟨.sp r 1,x',false,wt',gy,xs',ls,O',D',gs',w',sl'',e,hc⟩))
  |join hc=>exact .inl (.inl hc)
 ·have hlt:i < p.n0+j:=by rw [←h.size];exact (Array.getElem?_eq_some_iff.1 hg).1
  rcases Nat.lt_or_ge i p.n0 with h1|h1
  ·have hr:(ls i).g.status = .running:=by
    have:=(h.lv i hpos h1).1
    rw [hg] at this
    cases this
    exact hrun
   obtain ⟨gs',gz,gy,x',ops,h2,h3,h4⟩:=h'.Uk (sl:=sl') hpos h1 hr
   refine ⟨_,ops,h2,.inr ⟨(JZ p.n0 tag x0 wt xs (upd ls i x'),Um j gz gy),.left _ _ ⟨i,hlt,?_,fun k hk=>?_⟩,tag,x0,gz,wt,gy,xs,upd ls i x',O,D,gs',_,sl',q,rfl,rfl,hq,hF,h4⟩⟩
   ·unfold rz;rw [if_neg (by omega),if_pos h1];unfold JZ;rw [if_neg (by omega),if_pos h1,if_neg (by omega),if_pos h1,upd_same];exact h3
   ·unfold JZ;rw [upd_ne ls _ hk]
  ·obtain ⟨i,rfl⟩:∃i',i=p.n0+i' :=⟨i - p.n0,by omega⟩
   have hi:i < j:=by omega
   have hbi:bw i=false:=by
    cases hb:bw i with
    |false=>rfl
    |true=>
     have:=(h.wk i hi).1
     rw [hb,hg] at this
     cases this
     cases hrun
   have hr:(xs i).g.status = .running:=by
    have:=(h.wk i hi).1
    rw [hbi,hg] at this
    cases this
    exact hrun
   rcases h'.stepW (sl:=sl') hn hV hi hbi hr with ⟨gs',w',gz,gy,s',x',O',h2,h3,⟨m₁,q₁,m₂,q₂,n1,n2,n3,n4,n5⟩,h4⟩|⟨gs',h2,h4⟩
   ·have hq':MuAt p.tM p.Mu (w.at d) mw q:=hq
    obtain ⟨rfl,rfl⟩:=MuAt.inj hq' n1 hb n2
    refine ⟨_,(runT p.P (crowd gs (w.at d) sl') (p.n0+i)).2,Prod.ext h2 rfl,?_⟩
    rcases n5 with n5|⟨rfl,n5,n6⟩
    ·exact .inl (.inr (.inr ⟨_,by rw [←hF];exact n5,tag,x0,gz,_,gy,_,ls,O',D,gs',w',sl',m₂,q₂,rfl,n3,n4,rfl,h4⟩))
    ·refine .inr ⟨(JZ p.n0 tag x0 (upd wt i s') (upd xs i x') ls,Um j gz gy),.left _ _ ⟨p.n0+i,hlt,?_,fun k hk=>?_⟩,tag,x0,gz,upd wt i s',gy,upd xs i x',ls,O',D,gs',w',sl',q₂,rfl,rfl,n3,by rw [n5];exact hF,h4⟩
     ·unfold rz;rw [if_neg (by omega),if_neg (by omega)]
      unfold JZ
      rw [if_neg (by omega),if_neg (by omega),if_neg (by omega),if_neg (by omega),Nat.add_sub_cancel_left,upd_same,upd_same]
      exact n6.imp (fun x=>⟨x,h3⟩) (fun x=>x)
     ·unfold JZ
      by_cases e0:k=0
      ·rw [if_pos e0,if_pos e0]
      ·rw [if_neg e0,if_neg e0]
       by_cases e1:k < p.n0
       · rw [if_pos e1,if_pos e1]
       · rw [if_neg e1,if_neg e1,upd_ne wt _ (by omega),upd_ne xs _ (by omega)]
   ·exact ⟨_,(runT p.P (crowd gs (w.at d) sl') (p.n0+i)).2,Prod.ext h2 rfl,.inr ⟨(JZ p.n0 tag x0 wt xs ls,Um j bl (upd bw i true)),.right _ (P9 hi hbi),tag,x0,bl,wt,upd bw i true,xs,ls,O,D,gs',_,sl',q,rfl,rfl,hq,hF,h4⟩⟩
theorem Ur{aZ:Machine→Outcome→World→Trace→Prop}(hB:p.n≤p.B)(hV:∀k v,p.V v→p.V (p.f k v))(hn:p.n < 2147483647):∀(F:Nat) {m:Machine} {t:Trace},p.Sm W j F m t→aC p.P aZ (fun m t=>p.After W m t∨p.Some W (j+1) m t) m t:=by
 intro F
 induction F using Nat.strongRecOn with
 |_ F ih=>
  rintro m t ⟨tag,x0,bl,wt,bw,xs,ls,O,D,gs,w,sl,mw,q,rfl,hq,hb,hF,h⟩
  refine (Un (aZ:=aZ) (sl:=sl) hB hV hn hq hb hF h).bind ?_
  rintro m t (x|x|⟨F',hlt,x⟩)
  ·exact .here (.inl x)
  ·exact .here (.inr x)
  ·exact ih F' hlt x
theorem leads{aZ:Machine→Outcome→World→Trace→Prop}(hB:p.n≤p.B)(hV:∀k v,p.V v→p.V (p.f k v))(hn:p.n < 2147483647):∀(k:Nat) {j:Nat} {m:Machine} {t:Trace},j+k=p.n→p.Some W j m t→aC p.P aZ (p.After W) m t:=by
 intro k
 induction k with
 |zero=>
  rintro j m t hj ⟨tag,x0,bl,wt,bw,xs,ls,O,D,gs,w,sl,rfl,h⟩
  obtain ⟨mw,q,hq,BN,_⟩:=h.mi
  refine (Ur (aZ:=aZ) hB hV hn _ ⟨tag,x0,bl,wt,bw,xs,ls,O,D,gs,w,sl,mw,q,rfl,hq,BN.bits,rfl,h⟩).mono ?_
  rintro m t (x|⟨tag,x0,bl,wt,bw,xs,ls,O,D,gs,w,sl,rfl,hc⟩)
  ·exact x
  ·have:=hc.left
   cases tag<;>simp only [BM] at this<;>omega
 |succ k ih=>
  rintro j m t hj ⟨tag,x0,bl,wt,bw,xs,ls,O,D,gs,w,sl,rfl,h⟩
  obtain ⟨mw,q,hq,BN,_⟩:=h.mi
  refine (Ur (aZ:=aZ) hB hV hn _ ⟨tag,x0,bl,wt,bw,xs,ls,O,D,gs,w,sl,mw,q,rfl,hq,BN.bits,rfl,h⟩).bind ?_
  rintro m t (x|x)
  ·exact .here x
  ·exact ih (by omega) x
end Ph
end Go.Mx
namespace Go.Mx
open Go.Ren
open Go.Conc hiding Goes mem_ofEvents
open Go.ConcN (sumTo upd upd_same upd_ne get_map_set get_map_set_same WgLive Deaf_absent)
open Go.Conc.Lib (WgLink)
open Go.ConcR (KK WgAt stA smA rd wr g_of_ofEvents loc_of_ofEvent)
namespace Ph
variable{p:Ph}{W U Z:Nat→Prop}{x0:Pos}{ls:Nat→Pos}{gs:Array Goroutine}{g:Goroutine}{w:World}{sl:Option (Nat×Nat)}{m:Machine}{t:Trace}{aZ:Machine→Outcome→World→Trace→Prop}
def W1(p:Ph)(W:Nat→Prop)(b:Nat):Prop:=W b∨b=p.Wg∨b=p.Mu
theorem begins(h:Al p.P W U p.n0 x0 ls gs w t)(hWg:U p.Wg)(hMu:U p.Mu)(hne:p.Wg≠p.Mu)(hC:x0.O p.C)(hd:x0.d=0)(hs:p.HY p.n (fun _=>False) (fun b=>x0.O b∧b≠p.C) x0.g x0.w)(hwg:WgAt p.L.tWg p.Wg w 0 0)(hmu:MuAt p.tM p.Mu w ⟨0,0,0,0⟩ 0)
  (hc:CellIs p.oe p.C p.v0 w) (hv:p.V p.v0):p.dH (p.W1 W) 0 (.sp p.n 1) { x0 with O:=fun b=>x0.O b∧b≠p.C } false (fun _=>.work) (fun _=>false) (fun _=>x0) ls (xu fun b=>x0.O b∧b≠p.C) qF gs w t:=by
 have hN:=h.hN
 have WY:xu (fun b=>x0.O b∧b≠p.C) 0=fun b=>x0.O b∧b≠p.C:=by funext b;apply propext;exact ⟨fun x=>x.2,fun x=>⟨rfl,x⟩⟩
 have aA:p.jY (.sp p.n 1) { x0 with O:=fun b=>x0.O b∧b≠p.C }:=by
  have hD:=h.D0
  generalize hn:p.n=n at hs ⊢
  rcases n with _|n
  ·show dM p.P true p.I (XM p.Wg) x0.D _ x0.d (fun b=>x0.O b∧b≠p.C) x0.g x0.w
   rw [hD,hd];exact hs
  ·show dM p.P true p.I (XM p.Wg) x0.D _ x0.d (fun b=>x0.O b∧b≠p.C) x0.g x0.w
   rw [hD,hd];exact hs
 have hCn:¬(W p.C∨U p.C):=h.own.ow 0 p.C (by omega) ⟨rfl,hC⟩
 have aen:p.C < w.heap.size:=h.own.EK 0 p.C (by omega) ⟨rfl,hC⟩
 have hrel:=h.rely
 refine ⟨h.hN,h.size,h.main,fun e=>(by cases e),aA,WY.symm,h.D0,⟨hrel.size,fun b hb=>hrel.own b hb.1,fun b hb=>hrel.ro b (by have e:x0.D b:=hb;rw [h.D0] at e;exact e),hrel.os,hrel.output,hrel.tape⟩,h.deaf,fun i hi=>absurd hi (Nat.not_lt_zero _),fun i hi=>absurd hi (Nat.not_lt_zero _),fun i hi=>absurd hi (Nat.not_lt_zero _),fun i hi=>absurd hi (Nat.not_lt_zero _),fun i hi=>absurd hi (Nat.not_lt_zero _),fun k h1 h2=>?_,?_,?_,
  ⟨.inr (.inl rfl),.inr (.inr rfl),hne,?_,aen⟩,fun _=>?_,fun i hi=>absurd hi (Nat.not_lt_zero _),?_,fun i hi=>absurd hi (Nat.not_lt_zero _),h.norel,⟨_,_,hmu,?_,fun i hi=>absurd hi (Nat.not_lt_zero _)⟩,⟨0,0,hwg,?_⟩,rfl⟩
 ·obtain ⟨a1,a2,a3,a4⟩:=h.lv k h1 h2
  exact ⟨a1,a2,a3,a4.widen fun b hb=>.inl hb⟩
 ·have:=h.ti.share (S:=fun b=>b=p.Wg∨b=p.Mu) (fun i op x hi hx hS=>by
   have:touchAt t i=some x:=by rw [touchAt_of hi];exact hx
   exact absurd (gZ (fun b (hb:b=p.Wg∨b=p.Mu)=>hb.elim (fun e=>e ▸ hWg) (fun e=>e ▸ hMu)) hS) (h.WZ i x this))
  exact this.less (fun i b hb=>⟨hb.1,hb.2.1⟩) (fun i b hb=>.inl hb)
 ·refine ⟨fun i k b hi hk x y=>x.1.trans y.1.symm,fun _ _ _ _ _ _ x=>x,fun i b hi ho hx=>?_,fun _ _ _ x=>x.elim,fun i b hi x=>h.own.EK i b hi ⟨x.1,x.2.1⟩,fun _ _ _ x=>x.elim,fun b hb=>?_⟩
  ·rcases hx with (hx|rfl|rfl)|⟨_,rfl⟩
   ·exact h.own.ow i b hi ⟨ho.1,ho.2.1⟩ (.inl hx)
   ·exact h.own.ow i _ hi ⟨ho.1,ho.2.1⟩ (.inr hWg)
   ·exact h.own.ow i _ hi ⟨ho.1,ho.2.1⟩ (.inr hMu)
   ·exact ho.2.2 rfl
  ·rcases hb with (hx|rfl|rfl)|⟨_,rfl⟩
   ·exact h.own.vP b (.inl hx)
   ·exact h.own.vP _ (.inr hWg)
   ·exact h.own.vP _ (.inr hMu)
   ·exact aen
 ·rintro (x|e|e)
  ·exact hCn (.inl x)
  ·exact hCn (.inr (e ▸ hWg))
  ·exact hCn (.inr (e ▸ hMu))
 ·exact FreeTok.one fun l hl=>h.ti.own 0 (by omega) l (gZ (fun b (hb:b=p.C)=>⟨rfl,hb ▸ hC⟩) hl)
 ·exact ⟨[],List.nodup_nil,fun k=>by simp,hv,fun k hk=>absurd hk (Nat.not_lt_zero _),fun _=>hc⟩
 ·exact ⟨⟨by decide,by decide,by decide⟩,Nat.zero_le _,rfl,fun _=>⟨rfl,rfl,rfl⟩,fun e=>(by cases e),fun _ _ _ e=>absurd e (Nat.not_lt_zero _),fun i hi=>absurd hi (Nat.not_lt_zero _)⟩
 ·have:=Md.opn (j:=0) (st:=fun _=>8) (tag:=.sp p.n 1) trivial (fun i hi=>absurd hi (Nat.not_lt_zero _)) trivial
  have e:Vn 0 (fun _=>8)+lF (.sp p.n 1)=0:=by generalize p.n=n;rcases n with _|n<;>rfl
  rw [e] at this
  show Md 0 (fun _=>8) (.sp p.n 1) 0 0
  simpa using this
def W9(p:Ph)(W:Nat→Prop)(m:Machine)(t:Trace):Prop:=
 ∃(w:World) (gT:Goroutine) (O D:Nat→Nat→Prop) (order:List Nat),At p.P (p.W1 W) (fun _=>False) (p.W1 W) (p.n0+p.n) 0 gT w m t∧p.Fin (D 0) (O 0) gT w ∧
  Own (fun b=>p.W1 W b∨b=p.C) O D (p.n0+p.n) w.heap.size∧order.Nodup∧(∀i,i∈order↔i < p.n∧p.locks i=true)∧p.V (p.fold order)∧CellIs p.oe p.C (p.fold order) w
theorem phase(hB:p.n≤p.B)(hV:∀k v,p.V v→p.V (p.f k v))(hn:p.n < 2147483647)(hWg:U p.Wg)(hMu:U p.Mu)(hne:p.Wg≠p.Mu)(hC:full Z w p.C)(hs:p.HY p.n (fun _=>False) (fun b=>full Z w b∧b≠p.C) g w)(hwg:WgAt p.L.tWg p.Wg w 0 0)(hmu:MuAt p.tM p.Mu w ⟨0,0,0,0⟩ 0)
  (hc:CellIs p.oe p.C p.v0 w) (hv:p.V p.v0) (h:At p.P W U Z p.n0 0 g w m t):aC p.P aZ (p.W9 W) m t:=by
 obtain ⟨ls,gs,w₁,sl,rfl,hal⟩:=h
 have hN:=hal.hN
 obtain ⟨d₁,hw⟩:=hal.same
 have hw':w₁=w.at d₁:=hw
 subst hw'
 have co:=begins hal hWg hMu hne hC rfl hs hwg hmu hc hv
 refine (leads (aZ:=aZ) hB hV hn p.n (Nat.zero_add p.n) ⟨_,_,_,_,_,_,_,_,_,_,_,sl,rfl,co⟩).bind ?_
 rintro m t ⟨gs,w,sl,g,gT,ls,O,D,order,rfl,h1,h2,h3,h4,h5,h6,h7,h8,h9,h10,h11,h12,h13,h14⟩
 have hat:At p.P (p.W1 W) (fun _=>False) (p.W1 W) (p.n0+p.n) 0 g w (crowd gs w sl) t:=by
  refine ⟨ls,gs,w,sl,rfl,by omega,h1,h2,rfl,⟨w.drawn,rfl⟩,h5,h6,?_,?_,fun i x _ hU=>?_,fun _ _ x=>x,h10⟩
  ·refine h7.less (fun i b hb=>?_) (fun i b hb=>.inl hb)
   exact ⟨hb.1,hb.2.1,hb.2.2⟩
  ·refine ⟨fun i j b _ _ x y=>x.1.trans y.1.symm,fun _ _ _ _ _ _ x=>x,fun i b _ x y=>y.elim x.2.2 id,fun _ _ _ x=>x.elim,fun i b _ x=>x.2.1,fun _ _ _ x=>x.elim,fun b x=>x.elim (fun y=>h8.vP b (.inl y)) False.elim⟩
  ·revert hU
   cases x.loc<;>exact id
 have hX:XAl (p.W1 W) (XM p.Wg):=by
  refine ⟨fun e he=>?_,fun e he=>Cb he⟩
  exact (Ul (w:=w) (W:=p.W1 W) (.inr (.inl rfl)) (Qa h9) he).1
 refine (hat.idle hX (I:=Lv p.L p.Wg) (fun d₁=>⟨0,0,h9⟩) h3).mono ?_
 rintro m t ⟨d',g',⟨rfl,rfl⟩,hat'⟩
 exact ⟨w,_,O,D,order,hat',h4,h8,h11,h12,h13,h14⟩
end Ph
end Go.Mx
namespace Go.Mx
open Go.Ren Go.Sy
open Go.Conc hiding Goes
open Go.Conc.Locks
open Go.ConcR (stA smA)
section
variable{P:Program}{I:World→Prop}{tM:TypeId}{Mu B:Nat}{T T' X X':Goroutine→Prop}{d:Nat}{g:Goroutine}
theorem yC{es:Array Event}(hT:∀g,T g→T' g)(h:Says P false I es T g):Says P false I es T' g:=by
 obtain ⟨h1,g',h2,h3⟩:=h
 exact ⟨h1,g',h2,hT _ h3⟩
theorem EnQ.mono(hT:∀g,T g→T' g)(h:EnQ P I Mu T d g):EnQ P I Mu T' d g:=
 ⟨h.1,yC (fun g h=>h.mono fun d g k=>⟨k.1,yC hT k.2⟩) h.2⟩
end
namespace Ph
variable{p:Ph}{L:ah}{O D:Nat→Prop}{i:Nat}{w:World}
theorem sees:aau p.I p.Mu:=fun w hw=>by
 obtain ⟨m,q,hm⟩:=hw.2
 exact ⟨.int .i32 m,by simp [World.cell?,mA,hm]⟩
theorem reads:Reads p.I p.Mu:=fun w hw=>by
 obtain ⟨m,q,hm⟩:=hw.2
 exact ⟨m,by simp [World.cell?,mA,hm]⟩
theorem Pz.later{w':World}{g:Goroutine}(h:p.Pz i O D w g)(hr:au O D w w'):p.Pz i O D w' g:=fun w₁ v h1 h2 h3 h4 h5 h6=>h w₁ v (hr.trans h1) h2 h3 h4 h5 h6
theorem Qb(H:dQ p.P L)(hB:p.B < 63)(hl:p.locks i=true){sz:Nat}{b:Frame}{ds:List Deferred}{cs:List Frame}{s:S}{A:Array Value}(hc:aQ sz s=some (L.mu.lock,[some (.v 0)]))(hz:A.size=sz)(ha:Agree (Go.Mx.n0 p.Mu) s.env A)(hk:b.kind ≠ .early)
  (hcr:∀w',au O D w w' → p.Pz i O D w' (G ((b.at ⟨A,ds⟩ s.todo).finish (.tuple #[])) cs)):dM p.P false p.I X0 D (p.Wi i D) 0 O (G (b.at ⟨A,ds⟩ s.todo) cs) w:=by
 have hT:∀w₀,au O D w w₀→∀g,ag p.P false p.I X0 (fun d g=>d=0∧g=G ((b.at ⟨A,ds⟩ s.todo).finish (.tuple #[])) cs) 0 g→p.Pz i O D w₀ g:=fun w₀ hr₀ g hg w' v hrel hv hcell hO hD hC=>by
  have:=hg.wkD (I' :=p.I) (D:=D) (O:=fun b=>O b∨b=p.C) (w:=w') fun _ x=>x
  refine this.bind ?_
  rintro d' O' g' w'' ⟨⟨rfl,rfl⟩,rfl,hr⟩
  have hr':au O D w' w'' :=⟨hr.size,fun b hb=>hr.own b (.inl hb),hr.ro,hr.os,hr.output,hr.tape⟩
  refine hcr w₀ hr₀ w'' v (hrel.trans hr') hv ?_ hO hD (Nat.lt_of_lt_of_le hC hr.size)
  unfold CellIs at hcell ⊢
  rw [hr.own p.C (.inr rfl)];exact hcell
 have hT' :=hT w ⟨Nat.le_refl _,fun _ _=>rfl,fun _ _=>rfl,.rfl,rfl,rfl⟩
 have h:=(WG (tM:=p.tM) (B:=p.B) H hB (sees (p:=p)) hc hz ha hk hT').wkD (I' :=p.I) (D:=D) (O:=O) (w:=w) fun _ x=>x
 refine h.bind ?_
 rintro d' O' g' w' ⟨⟨rfl,hs⟩,rfl,hr⟩
 refine .stop ⟨hs.1,.inl ⟨rfl,hl,yC (fun g hg=>?_) hs⟩⟩
 exact hg.exit fun d g he=>he.mono fun d g k=>EnQ.mono (fun g hg=>Pz.later hg hr) k
theorem Ji(H:dQ p.P L)(hB:p.B < 63){v:dA}{sz:Nat}{b:Frame}{ds:List Deferred}{cs:List Frame}{A:Array Value}{todo:List Item}(hcell:CellIs p.oe p.C (p.f i v) w)
  (hX:ag p.P false (Lv p.L p.Wg) X0 (fQ p.P p.L p.Wg) 0 (G { b.at ⟨A,ds⟩ todo with mode:=.returning } cs)) :
  p.VH i v D 0 O (G { b.at ⟨A,dcall L.mu.unlock #[.pointer (some ⟨p.Mu,0,none⟩)] :: ds⟩ todo with mode:=.returning } cs) w:=by
 have hk:(baseD L.mu.unlock).kind ≠ .early:=by simp [baseD]
 refine ⟨rfl,rfl,hcell,_,#[],fun w m q _ _=>stepG_unwind_enter (c:=KZ L) rfl H.lib.f_unlock (by kernel_rfl) (aik L),by simp,rfl,?_⟩
 refine P5 (tM:=p.tM) (B:=p.B) (I' :=Lv p.L p.Wg) (X:=ag p.P false (Lv p.L p.Wg) X0 (fQ p.P p.L p.Wg) 0) H hB (reads (p:=p)) hk (fun g hg=>?_) (b:=baseD L.mu.unlock) (cs:={ b.at ⟨A,ds⟩ todo with mode:=.returning } :: cs) ⟨_,?_,fun j x hx=>?_,rfl⟩
 ·refine hg.bind ?_
  rintro d g ⟨rfl,A',_,_,rfl⟩
  refine .step rfl (fun _=>_) (fun _=>#[]) (fun w _=>⟨stepG_end,by simp⟩) fun w _=>?_
  refine .step rfl (fun _=>_) (fun _=>#[]) (fun w _=>⟨stepG_leave_deferred (b:=baseD L.mu.unlock) (a:=⟨A',[]⟩) rfl rfl H.lib.f_unlock (results_none (by kernel_rfl) _ _ w) (events_results_none (by kernel_rfl) _ _) rfl,by simp⟩) fun w _=>?_
  exact hX
 ·rfl
 ·unfold ulE fresh Go.Sy.get at hx
  split at hx
  ·rename_i e
   cases hx
   have:0=j:=by simpa using e
   subst this
   exact congrArg some (jC.symm:_=(E.v 0).den (Go.Mx.n0 p.Mu))
  ·cases hx
end Ph
end Go.Mx
namespace Go.Am
open Go.Conc (born QuitsD G dcall)
open Go.Conc.Lib
open Go.ConcR (WgAt)
open Go.Ren (grow fK aN au Wk dM Idle ag X0 Lv fQ)
open Go.Mx (CellIs dA ah dQ)
def AH.tell(h:AH)(b:Nat)(v:dA):AH:={ h with tr:=h.tr.set b ⟨.cells v 0 (0,0),none,false,0⟩ }
section
variable{P:Program}{ρ σ:Env}{O O' D D':Nat→Prop}{h h':AH}{w w':World}{b:Nat}{B:cZ}{v:dA}
theorem GG(x:Nat):(h.tell b v).tr.get x=if x=b then some ⟨.cells v 0 (0,0),none,false,0⟩ else h.tr.get x:=by
 unfold AH.tell
 simp only [Tr.dK]
theorem Qc(x:Nat):(h.tell b v).look x=if x=b then some ⟨.cells v 0 (0,0),none,false,0⟩ else h.look x:=by
 unfold AH.look
 rw [GG]
 by_cases e:x=b
 ·rw [if_pos e,if_pos e]
 ·rw [if_neg e,if_neg e]
  rfl
theorem Rel.tell(r:Rel ρ O D h w)(hb:ρ.born b)(hl:h.look b=none)(hs:¬ρ.aV b)(hv:∀x∈v,Plain x)(hc:CellIs ((ρ.to b).2,ρ.ext b) (ρ.to b).1 v w)(hO:¬O (ρ.to b).1)(hD:¬D (ρ.to b).1):Rel ρ (fun x=>O x∨x=(ρ.to b).1) D (h.tell b v) w:=by
 have lk:∀x C,(h.tell b v).look x=some C→(x=b∧C=⟨.cells v 0 (0,0),none,false,0⟩)∨(x≠b∧h.look x=some C):=fun x C hk=>by
  rw [Qc] at hk
  split at hk
  ·rename_i e;cases hk;exact .inl ⟨e,rfl⟩
  ·rename_i e;exact .inr ⟨e,hk⟩
 have apart:∀x C,ρ.born x→h.look x=some C→(ρ.to x).1≠(ρ.to b).1:=fun x C hx hk e=>by
  rcases (r.own x C hx hk).2 with k|k
  ·exact hO (e ▸ k)
  ·exact hD (e ▸ k)
 have nin:∀f l,h.bU.get f=some l→b∉l:=fun f l hf hm=>by
  obtain ⟨m1,C,m2,m3⟩:=r.mem f l hf b hm
  have:h.look b=some C:=by
   unfold AH.look
   rw [m2]
   dsimp only
   rw [m3]
   dsimp only
   rw [hf]
   simp [hm]
  rw [hl] at this
  cases this
 refine ⟨fun x C c e f hx hk ho=>?_,fun x C hx hk ho=>?_,fun x C hx hk=>?_,fun x y C C' hx hy hk hk' hne hs'=>?_,r.fresh,r.low,fun x C hx hk=>?_,fun f l hfl=>?_,fun f l hfl x hx=>?_⟩
 ·rcases lk x C hk with ⟨rfl,rfl⟩|⟨hne,hk⟩
  ·cases ho
   obtain ⟨A,E,c1,c2,c3,c4⟩:=hc
   refine ⟨A,E,(0,0),c1,c2,c3,fun _=>rfl,fun i u hu=>⟨u,c4 i u hu,(hv u (Array.mem_of_getElem? hu)).vr ρ⟩⟩
  ·exact r.cells x C c e f hx hk ho
 ·rcases lk x C hk with ⟨rfl,rfl⟩|⟨hne,hk⟩
  ·exact absurd rfl (ho _ _ _)
  ·exact r.obj x C hx hk ho
 ·rcases lk x C hk with ⟨rfl,rfl⟩|⟨hne,hk⟩
  ·exact ⟨fun _=>.inr rfl,.inl (.inr rfl)⟩
  ·obtain ⟨o1,o2⟩:=r.own x C hx hk
   exact ⟨fun z=>.inl (o1 z),o2.imp .inl id⟩
 ·rcases lk x C hk with ⟨ex,_⟩|⟨hne1,hk1⟩<;>rcases lk y C' hk' with ⟨ey,_⟩|⟨hne2,hk2⟩
  ·exact absurd (ex.trans ey.symm) hne
  ·exact absurd (ex ▸ hs'.symm) (apart y C' hy hk2)
  ·exact absurd (ey ▸ hs') (apart x C hx hk1)
  ·exact r.sep x y C C' hx hy hk1 hk2 hne hs'
 ·rcases lk x C hk with ⟨rfl,rfl⟩|⟨hne,hk⟩
  ·exact ⟨⟨fun z=>absurd z hs,fun z=>absurd rfl z⟩,fun z=>absurd rfl z⟩
  ·exact r.aV x C hx hk
 ·have Us:h.bU.get f=some l:=hfl
  have up:∀x∈l,∀n,(h.tell b v).upTo ρ x n→h.upTo ρ x n:=fun x hx n u=>by
   obtain ⟨C,c,e,g,h1,h2,h3⟩:=u
   rw [GG,if_neg (fun (ee:x=b)=>nin f l Us (ee ▸ hx))] at h1
   exact ⟨C,c,e,g,h1,h2,h3⟩
  exact List.Pairwise.imp_of_mem (fun {x y} hx hy hp b1 b2 hs n n' u1 u2=>hp b1 b2 hs n n' (up x hx n u1) (up y hy n' u2)) (r.row f l Us)
 ·have Us:h.bU.get f=some l:=hfl
  obtain ⟨m1,C,m2,m3⟩:=r.mem f l Us x hx
  refine ⟨m1,C,?_,m3⟩
  rw [GG,if_neg (fun (ee:x=b)=>nin f l Us (ee ▸ hx))]
  exact m2
theorem Rel.Ut(r:Rel ρ O D h w)(hb:ρ.born b)(hl:h.look b=some B)(hp:¬B.Q8){e:TypeId}{f:Nat×Nat}(ho:B.obj = .cells v e f)(hv:∀x∈v,Plain x):CellIs ((ρ.to b).2,ρ.ext b) (ρ.to b).1 v w:=by
 obtain ⟨C,E,g,c1,c2,c3,c4,c5⟩:=r.cells b B v e f hb hl ho
 have hg:=c4 hp
 subst hg
 refine ⟨C,E,c1,c2,c3,fun i x hx=>?_⟩
 obtain ⟨x',k1,k2⟩:=c5 i x hx
 rw [k1,(hv x (Array.mem_of_getElem? hx)).eq k2]
theorem Rel.Xa(r:Rel ρ O D h w)(hb:ρ.born b)(hl:h.look b=some B)(hf:B.dP=none):¬ρ.aV b:=fun z=>(r.aV b B hb hl).1.1 z hf
def AS.tell(s:AS)(b:Nat)(v:dA):AS:=⟨s.fr,s.cs,s.h.tell b v⟩
theorem lI.tell{base:List Frame}{s:AS}{g:Goroutine}(S:lI P ρ O D base s g w)(hd:aH s.fr=true)(hb:ρ.born b)(hl:s.h.look b=none)(hs:¬ρ.aV b)(hv:∀x∈v,Plain x)(hc:CellIs ((ρ.to b).2,ρ.ext b) (ρ.to b).1 v w)(hO:¬O (ρ.to b).1)(hD:¬D (ρ.to b).1) :
  lI P ρ (fun x=>O x∨x=(ρ.to b).1) D base (s.tell b v) g w:=by
 obtain ⟨⟨lo,f,cs,h1,h2,h3,h4⟩,rel⟩:=S
 refine ⟨⟨lo,f,cs,h1,h2,.plain (h3.f0 fun ops l k e=>?_),h4⟩,rel.tell hb hl hs hv hc hO hD⟩
 unfold aH at hd
 rw [e] at hd
 cases hd
theorem Ov{x:FuncId}{y:Deferred}{gb Wg:Nat}(hg:ρ.to gb=(Wg,0))(h:DR ρ { target:=.fn (.func x) #[],args:=#[.pointer (some ⟨gb,0,none⟩)] } y):y=dcall x #[.pointer (some ⟨Wg,0,none⟩)]:=by
 obtain ⟨ht,ha⟩:=h
 obtain ⟨yt,ya⟩:=y
 dsimp only at ht ha
 cases ht with
 |fn hfn hc=>
  cases hfn
  rename_i c
  have hce:c = #[]:=Array.eq_empty_of_size_eq_zero (by have:=hc.1;simpa using this.symm)
  subst hce
  have hs:ya.size=1:=by have:=ha.1;simpa using this.symm
  obtain ⟨v,rfl⟩:∃v,ya = #[v]:=by
   refine ⟨ya[0],?_⟩
   apply Array.ext (by simp [hs])
   intro i h1 h2
   simp at h2
   subst h2
   rfl
  have:=ha.2 0 _ v rfl rfl
  cases this with
  |ptr hb=>simp [Env.addr,hg,dcall]
end
end Go.Am
namespace Go.Am
open Go.Conc (born QuitsD G dcall)
open Go.Conc.Lib
open Go.ConcR (WgAt)
open Go.Ren (grow fK aN au Wk dM Idle ag X0 Lv fQ)
open Go.Mx (CellIs dA ah dQ)
structure YG(P:Program)(fid:FuncId)(mb:Nat)(s s':AS):Prop where
 run:s.fr.ret=false
 round:s.fr.round=none
 at_:∃ops i l k o t ats a',s.fr.todo = .region ops (i :: l) :: k∧ops[i]? = some o∧Region.wanted o (yielded ops s.fr.tmps)=true∧bu o=true∧o.guard=none∧o.op = .call { callee:=.value (.func fid),args:=#[.tmp t],argTypes:=ats } ∧
  s.fr.tmps[t]? = some (.pointer (some ⟨mb,0,none⟩))∧(∀d,o.dst=some d→d < s.fr.tmps.size)∧az P s.fr s.h (.tuple #[])=some a' ∧ s' = ⟨a',s.cs,s.h⟩
structure aaM(P:Program)(L:WgLink)(ul:FuncId)(gb mb:Nat)(a:aB):Prop where
 ret:a.ret=true
 dk:a.dk=true
 fn:∃fn,P.funcs[a.fn]? = some fn∧fn.results = #[]
 defers:a.defers=[{ target:=.fn (.func ul) #[],args:=#[.pointer (some ⟨mb,0,none⟩)] },{ target:=.fn (.func L.done) #[],args:=#[.pointer (some ⟨gb,0,none⟩)] }]
 round:a.round=none
structure YH(P:Program)(L:WgLink)(ul:FuncId)(gb mb vb:Nat)(v:dA)(s:AS):Prop where
 cs:s.cs=[]
 todo:aH s.fr=true
 at_:∃n a'',oq n s.fr=some a'' ∧ aaM P L ul gb mb a''
 val:∃B e f,s.h.look vb=some B∧B.obj = .cells v e f∧B.ro=false
 plain:∀x∈v,Plain x
def Uu(P:Program)(pl:bH)(L:WgLink)(ul:FuncId)(gb mb vb:Nat)(v':dA)(s:AS):Prop:=
 aY P pl (fun s₄=>∃s₅,FC P s₄ s₅∧aY P pl (YH P L ul gb mb vb v') s₅) s
def Uw(P:Program)(pl:bH)(L:WgLink)(M:ah)(gb mb vb:Nat)(V:dA→Prop)(f:dA→dA)(s:AS):Prop:=
 ∃s₃,YG P M.mu.lock mb s s₃∧aH s₃.fr=true∧s₃.h.look vb=none∧∀v,V v→Uu P pl L M.mu.unlock gb mb vb (f v) (s₃.tell vb v)
def Cc(P:Program)(pl:bH)(L:WgLink)(M:ah)(gb mb vb:Nat)(V:dA→Prop)(f:dA→dA)(lk:Bool)(s:AS):Prop:=
 aY P pl (fun s₁=>∃s',FC P s₁ s' ∧ aY P pl (fun s₂=>(lk=false∧X7 P L gb s₂)∨(lk=true∧Uw P pl L M gb mb vb V f s₂)) s') s
section
variable{P:Program}{ρ σ:Env}{O O' D D':Nat→Prop}{h h':AH}{w w':World}{X:Event→Prop}{m:Bool}{base cs:List Frame}{I:World→Prop}{a a':aB}{f:Frame}{lo hi:Nat}{ops:Array Oper}{i:Nat}{o:Oper}{s s₀:AS}{pl:bH}{g:Goroutine}{p:Go.Mx.Ph}{M:ah}
theorem Xb(H:dQ p.P M)(hB:p.B < 63)(hl:p.locks i=true){k t:Nat}{sr:List Nat}{kr:List Item}{ats:Array TypeId}(hf:f=f.at ⟨f.tmps,f.defers⟩ (.inRegion ops (k :: sr) :: kr))(ho:ops[k]? = some o)(hg:o.guard=none)(hop:o.op = .call { callee:=.value (.func M.mu.lock),args:=#[.tmp t],argTypes:=ats })
  (ht:f.tmps[t]? = some (.pointer (some ⟨p.Mu,0,none⟩))) (hd:∀d,o.dst=some d→d < f.tmps.size) (hk:f.kind ≠ .early) (hcr:p.Pz i O D w (dN (f.finish (.tuple #[])) cs)):dM p.P false p.I X0 D (p.Wi i D) 0 O (dN f cs) w:=by
 have hdst:Go.Sy.Ep f.tmps.size o=true:=by
  unfold Go.Sy.Ep
  split
  ·rename_i d e;simpa using hd d e
  ·rfl
 have hc:Go.Sy.aQ f.tmps.size ⟨[(t,some (.v 0))],.inRegion ops (k :: sr) :: kr,[]⟩=some (M.mu.lock,[some (.v 0)]):=by
  unfold Go.Sy.aQ Go.Sy.opAt
  dsimp only
  rw [ho]
  dsimp only
  unfold Go.Sy.rM
  rw [hg]
  dsimp only
  rw [if_pos rfl,hdst]
  simp [hop,Go.Sy.zV,Go.Sy.get]
 have ha:Go.Sy.Agree (Go.Mx.n0 p.Mu) [(t,some (.v 0))] f.tmps:=by
  intro j x hx
  unfold Go.Sy.get at hx
  split at hx
  ·rename_i e
   cases hx
   have:t=j:=by simpa using e
   subst this
   rw [ht]
   exact congrArg some (Go.Mx.jC.symm:_=(Go.Sy.E.v 0).den (Go.Mx.n0 p.Mu))
  ·cases hx
 have key:=Go.Mx.Ph.Qb (p:=p) (O:=O) (D:=D) (i:=i) (w:=w) H hB hl (b:=f) (ds:=f.defers) (cs:=cs) hc rfl ha hk (fun w' hr=>by
  have:=hcr.later hr
  rw [←hf]
  exact this)
 rw [←hf] at key
 exact key
theorem aeq{x y:FuncId}{gb mb Wg Mu:Nat}{ds:List Deferred}(hg:ρ.to gb=(Wg,0))(hm:ρ.to mb=(Mu,0))(h:LR (DR ρ) [{ target:=.fn (.func x) #[],args:=#[.pointer (some ⟨mb,0,none⟩)] },{ target:=.fn (.func y) #[],args:=#[.pointer (some ⟨gb,0,none⟩)] }] ds) :
  ds=[dcall x #[.pointer (some ⟨Mu,0,none⟩)],dcall y #[.pointer (some ⟨Wg,0,none⟩)]]:=by
 cases h with
 |cons h1 h2=>
  cases h2 with
  |cons h3 h4=>
   cases h4
   rw [Ov hm h1,Ov hg h3]
theorem Ux{L:WgLink}{gb mb:Nat}{v:dA}(H:dQ p.P M)(HL:WgLib p.P p.L)(hp:bQ p.P p.L.done=true)(hi:∃w,Lv p.L p.Wg w)(hB:p.B < 63)(hf:F0 ρ a f)(he:aaM p.P p.L M.mu.unlock gb mb a)(hg:ρ.to gb=(p.Wg,0))(hm:ρ.to mb=(p.Mu,0))(hc:CellIs p.oe p.C (p.f i v) w) :
  p.VH i v D 0 O (dN f [nK p.P]) w:=by
 have hmode:f.mode = .returning:=by have:=hf.mode;rw [he.ret] at this;exact this
 have eu:f.roundOf=none:=hf.toFB.MV he.round
 have hds:=hf.defers
 rw [he.defers] at hds
 have hds:=aeq hg hm hds
 have e:({ f.at ⟨f.tmps,dcall M.mu.unlock #[.pointer (some ⟨p.Mu,0,none⟩)] :: [dcall p.L.done #[.pointer (some ⟨p.Wg,0,none⟩)]]⟩ f.todo with mode:=.returning }:Frame)=f:=by
  rw [←hds]
  obtain ⟨fn,tmps,todo,defers,mode,kind,ro⟩:=f
  dsimp only at hmode eu
  subst hmode eu
  rfl
 have key:=Go.Mx.Ph.Ji (p:=p) (O:=O) (D:=D) (i:=i) (w:=w) (v:=v) (sz:=0) (b:=f) (ds:=[dcall p.L.done #[.pointer (some ⟨p.Wg,0,none⟩)]]) (cs:=[nK p.P]) (A:=f.tmps) (todo:=f.todo) H hB hc (by
  have hf':F0 ρ { a with defers:=[{ target:=.fn (.func p.L.done) #[],args:=#[.pointer (some ⟨gb,0,none⟩)] }] } { f.at ⟨f.tmps,[dcall p.L.done #[.pointer (some ⟨p.Wg,0,none⟩)]]⟩ f.todo with mode:=.returning }:=by
   refine ⟨⟨hf.fn,?_,?_,hf.kind,?_⟩,hf.tmps,hf.todo⟩
   ·have hd:=hf.defers
    rw [he.defers] at hd
    rw [hds] at hd
    cases hd with
    |cons _ h2=>exact h2
   ·show _=if a.ret then _ else _
    rw [he.ret];rfl
   ·show fB ρ.ob a.round none
    rw [he.round];exact .none
  exact D8 HL hp hi hf' ⟨he.ret,he.dk,he.fn,rfl⟩ hg he.round)
 rw [e] at key
 exact key
end
end Go.Am
namespace Go.Am
open Go.Conc (born QuitsD G dcall)
open Go.Conc.Lib
open Go.ConcR (WgAt)
open Go.Ren (grow fK aN au Wk dM Idle ag X0 Lv fQ)
open Go.Mx (CellIs dA ah dQ)
structure Names(ρ:Env)(p:Go.Mx.Ph)(gb mb vb:Nat):Prop where
 g:ρ.born gb
 gt:ρ.to gb=(p.Wg,0)
 m:ρ.born mb
 mt:ρ.to mb=(p.Mu,0)
 v:ρ.born vb
 vt:ρ.to vb=(p.C,p.oe.1)
 vx:ρ.ext vb=p.oe.2
 vs:¬ρ.aV vb
section
variable{p:Go.Mx.Ph}{M:ah}{ρ σ:Env}{O O' D D':Nat→Prop}{h h':AH}{w w':World}{base cs:List Frame}{a a':aB}{f:Frame}{i gb mb vb:Nat}{s s₀:AS}{pl:bH}{g:Goroutine}
theorem Names.le(n:Names ρ p gb mb vb)(h:ρ.Le σ):Names σ p gb mb vb:=
 ⟨h.born _ n.g,(h.to _ n.g).trans n.gt,h.born _ n.m,(h.to _ n.m).trans n.mt,h.born _ n.v,(h.to _ n.v).trans n.vt,(h.ext _ n.v).trans n.vx,fun x=>n.vs ((h.aV _ n.v).1 x)⟩
theorem Names.cell(n:Names ρ p gb mb vb){v:dA}:CellIs ((ρ.to vb).2,ρ.ext vb) (ρ.to vb).1 v w↔CellIs p.oe p.C v w:=by rw [n.vt,n.vx]
theorem Xc[aI p.P]{v:dA}(H:dQ p.P M)(HL:WgLib p.P p.L)(hp:bQ p.P p.L.done=true)(hi:∃w,Lv p.L p.Wg w)(hB:p.B < 63)(k:Uu p.P pl p.L M.mu.unlock gb mb vb (p.f i v) s)(S:lI p.P ρ O D [nK p.P] s g w)(n:Names ρ p gb mb vb) :
  dM p.P false p.I X0 D (p.VH i v D) 0 O g w:=by
 have hW:Wk p.P false p.I X0 D (fun O' g' w'=>dM p.P false p.I X0 D (p.VH i v D) 0 O' g' w') O g w:=by
  refine (iF k S).bind ?_
  rintro iP g₁ w₁ ⟨σ,s₄,⟨s₅,hd,hs⟩,hle,AU⟩
  refine (Ig hd AU).bind ?_
  rintro uX g₂ w₂ ⟨τ,iQ,Lp⟩
  refine (iF hs Lp).bind ?_
  rintro aaN g₃ w₃ ⟨υ,s₆,he,Lr,Jj⟩
  have GH:=((n.le hle).le iQ).le Lr
  obtain ⟨hcs,htd,⟨nn,a'',e1,e2⟩,⟨B,e,fz,e3,e4,e6⟩,e5⟩:=he
  obtain ⟨⟨lo,f,cs,hlo,rfl,hf,hcs'⟩,rel⟩:=Jj
  rw [hcs] at hcs'
  cases hcs'
  have hf0:=hf.f0 fun ops l k e=>by unfold aH at htd;rw [e] at htd;cases htd
  have hcell:=GH.cell.1 (rel.Ut GH.v e3 (Ac e6) e4 e5)
  have WU:aaN p.C∨D p.C:=by
   have:=(rel.own vb B GH.v e3).2
   rw [GH.vt] at this
   exact this
  refine .stop ?_
  refine ((qX (P:=p.P) (m:=false) (I:=p.I) (X:=X0) (cs:=[nK p.P]) nn hf0 e1).wkD (I' :=p.I) (D:=D) (O:=aaN) (w:=w₃) fun _ x=>x).bind ?_
  rintro d O' g' w' ⟨⟨rfl,f',h1,h2,rfl⟩,rfl,hr⟩
  refine .stop (Ux (gb:=gb) (mb:=mb) (L:=p.L) H HL hp hi hB h1 e2 GH.gt GH.mt ?_)
  unfold CellIs at hcell ⊢
  rw [WU.elim (hr.own p.C) (hr.ro p.C)]
  exact hcell
 refine (Go.Ren.Wk.deaf (fun e x=>x.elim) (fun e x=>x) 0 hW).bind ?_
 rintro d O g w ⟨rfl,h⟩
 exact h
theorem Uy[aI p.P](H:dQ p.P M)(HL:WgLib p.P p.L)(hp:bQ p.P p.L.done=true)(hi:∃w,Lv p.L p.Wg w)(hB:p.B < 63)(hV:∀v,p.V v→∀x∈v,Plain x)(k:Cc p.P pl p.L M gb mb vb p.V (p.f i) (p.locks i) s₀)(S:lI p.P ρ O D [nK p.P] s₀ g w)(n:Names ρ p gb mb vb) :
  dM p.P false p.I X0 D (p.Wi i D) 0 O g w:=by
 have hW:Wk p.P false p.I X0 D (fun O' g' w'=>dM p.P false p.I X0 D (p.Wi i D) 0 O' g' w') O g w:=by
  refine (iF k S).bind ?_
  rintro iP g₁ w₁ ⟨σ,s₁,⟨s',hd,hs⟩,hle,AU⟩
  refine (Ig hd AU).bind ?_
  rintro uX g₂ w₂ ⟨τ,iQ,Lp⟩
  refine (iF hs Lp).bind ?_
  rintro aaN g₃ w₃ ⟨υ,s₂,he,Lr,Jj⟩
  have GH:=((n.le hle).le iQ).le Lr
  rcases he with ⟨hl,hcs,htd,nn,a'',e1,e2,e3⟩|⟨hl,s₃,⟨hrun,eu,ops,j,l,kk,o,t,ats,a',t1,t2,t3,t4,t5,t6,t7,t8,t9,t10⟩,hnd,hlk,hcr⟩
  ·obtain ⟨⟨lo,f,cs,hlo,rfl,hf,hcs'⟩,rel⟩:=Jj
   rw [hcs] at hcs'
   cases hcs'
   exact .stop (.stop ⟨rfl,.inr ⟨rfl,hl,O9 HL hp hi (hf.f0 htd) e1 e2 e3 GH.gt⟩⟩)
  ·refine (tH (c:=[]) (l:=[]) Jj hrun (.inr ⟨l,kk,t1⟩)).bind ?_
   rintro aaO alL w₄ ⟨φ,lo,f,cs,aaP,rfl,A⟩
   have Jk:=GH.le aaP
   obtain ⟨hargs,sr,kr,Pg,hst⟩:=tJ (m:=false) (base:=[nK p.P]) (fid:=M.mu.lock) (by
    unfold bQ
    rw [H.lib.f_lock]
    kernel_rfl) A eu t2 t3 t4 t6
   have hf0:F0 φ s₂.fr f:=A.fs.f0 (by rw [t1];intro _ _ _ e;cases e)
   have hsz:s₂.fr.tmps.size=f.tmps.size:=hf0.tmps.1
   have hft:f.tmps[t]? = some (.pointer (some ⟨p.Mu,0,none⟩)):=by
    have hlt:t < f.tmps.size:=Nat.lt_of_lt_of_le (Array.getElem?_eq_some_iff.1 t7).1 (Nat.le_of_eq hsz)
    obtain ⟨y,hy⟩:∃y,f.tmps[t]? = some y:=⟨f.tmps[t],by simp [hlt]⟩
    have:=hf0.tmps.2 t _ y t7 hy
    rw [hy]
    cases this with
    |ptr hb=>simp [Env.addr,Jk.mt]
   refine .stop (Xb (O:=aaO) (D:=D) (w:=w₄) (cs:=cs ++ [nK p.P]) H hB hl Pg t2 t5 t6 hft (fun d hd=>Nat.lt_of_lt_of_le (t8 d hd) (Nat.le_of_eq hsz)) A.fs.base.ne ?_)
   intro w' v hrel hv hcell hO hD hC
   have A' :=A.rely hrel
   subst t10
   have aiA:lI p.P φ aaO D [nK p.P] ⟨a',s₂.cs,s₂.h⟩ (dN (f.finish (.tuple #[])) (cs ++ [nK p.P])) w' :=A'.finish (.refl φ) (fun x _ hx=>hx) (Nat.le_refl _) (.tuple rfl fun i x y hx=>by simp at hx) A'.rel t9
   have aer:=aiA.tell (b:=vb) hnd Jk.v hlk Jk.vs (hV v hv) (Jk.cell.2 hcell) (by rw [Jk.vt];exact hO) (by rw [Jk.vt];exact hD)
   rw [Jk.vt] at aer
   exact Xc H HL hp hi hB (hcr v hv) aer Jk
 refine (Go.Ren.Wk.deaf (fun e x=>x.elim) (fun e x=>x) 0 hW).bind ?_
 rintro d O g w ⟨rfl,h⟩
 exact h
end
end Go.Am
namespace Go.Ren
open Go.Conc hiding Goes mem_ofEvents Deaf
open Go.ConcN (WgLive)
open Go.Conc.Lib (WgLink)
open Go.ConcR (KK WgAt stA smA rd wr mk)
section
variable{P:Program}{L:WgLink}{Wg:Nat}{I:World→Prop}{O D:Nat→Prop}{g gT:Goroutine}{w:World}{Stop:Nat→(Nat→Prop)→Goroutine→World→Prop}
theorem Rf.aes(h:Rf P true (XS Wg) L Wg (· = gT) g)(hI:∀w,I w→Lv L Wg w)(k:∀O' w',O' = O→au O D w w' → dM P true I (XM Wg) D Stop 0 O' gT w') :
  dM P true I (XM Wg) D (fun d O g w=>d=1∧g.status = .running∧∀v:Nat,v < 2147483647→jX P true (Lv L Wg) (fun w=>WgAt L.tWg Wg w (v * KK) 0) (fun w=>w.setCell (stA Wg) (.int .u64 ((v+1) * KK))) #[rd (stA Wg),wr (stA Wg)]
   (fun g'=>∀w',au O D w w' → dM P true I (XM Wg) D Stop 1 O g' w') g) 0 O g w:=by
 have h1:ag P true (Lv L Wg) (XM Wg) (fun d g=>d=1∧YI P true (XS Wg) L Wg (· = gT) g) 0 g:=
  (Idle.deaf (fun e=>jm) (fun e=>AV) 0 h).bind fun d g ⟨e,hs⟩=>by
   subst e
   exact hs.deaf (fun w _=>ru (.inl rfl)) fun g' hg=>(Idle.deaf (fun e=>jm) (fun e=>AV) 1 hg)
 refine (h1.wkD (O:=O) (D:=D) (w:=w) hI).mono ?_
 rintro d O' g₁ w₁ ⟨⟨rfl,hr,h2⟩,rfl,r⟩
 refine ⟨rfl,hr,fun v hv=>?_⟩
 obtain ⟨g',h3,h4⟩:=h2 v hv
 refine ⟨g',h3,fun w' r'=>?_⟩
 have h5:ag P true (Lv L Wg) (XM Wg) (fun d g=>d=0∧g=gT) 1 g' :=
  (Idle.deaf (fun e=>jm) (fun e=>AV) 1 h4).bind fun d g ⟨e,hs⟩=>by
   subst e
   exact hs.deaf (fun w _=>Ce (.inr (.inl rfl))) fun g' hg=>(Idle.deaf (fun e=>jm) (fun e=>AV) 0 hg)
 refine (h5.wkD (O:=O') (D:=D) (w:=w') hI).bind ?_
 rintro d O'' g₂ w₂ ⟨⟨rfl,rfl⟩,rfl,r₂⟩
 exact k _ _ rfl ((r.trans r').trans r₂)
end
end Go.Ren
namespace Go.Am
open Go.Conc (born QuitsD G dcall)
open Go.Conc.Lib
open Go.ConcR (WgAt)
open Go.Ren (grow fK aN au Wk dM Idle ag X0 XS XM Lv fQ fU)
open Go.Mx (CellIs dA ah dQ)
structure aaQ(P:Program)(C:AS→Prop)(s s':AS):Prop where
 run:s.fr.ret=false
 round:s.fr.round=none
 at_:∃ops i l k o c x fid first cap a',s.fr.todo = .region ops (i :: l) :: k∧ops[i]? = some o∧Region.wanted o (yielded ops s.fr.tmps)=true∧bu o=true∧o.op = .go c∧c.callee = .value x∧ax s.fr.tmps x = .func (.func fid) first cap∧bQ P fid=true ∧
  C ⟨{ aB.enter P fid ((first ++ c.args.map (ax s.fr.tmps)) ++ cap) with dk:=true },[],s.h.shared⟩∧az P s.fr s.h.shared undef=some a' ∧ s' = ⟨a',s.cs,s.h.shared⟩
def kT(P:Program)(pl:bH)(L:WgLink)(M:ah)(gb mb vb:Nat)(V:dA→Prop)(f:Nat→dA→dA)(locks:Nat→Bool)(n:Nat)(Fin:AS→Prop):Nat→AS→Prop
 |0,s=>aY P pl (fun s₁=>∃s',Ih P L.wait #[.pointer (some ⟨gb,0,none⟩)] s₁ s' ∧ Fin s') s
 |r+1,s=>aY P pl (fun s₁=>∃s',Ih P L.add #[.pointer (some ⟨gb,0,none⟩),.int .i64 1] s₁ s' ∧ aY P pl (fun s₂=>∃s'',aaQ P (Cc P pl L M gb mb vb V (f (n - (r+1))) (locks (n - (r+1)))) s₂ s'' ∧ kT P pl L M gb mb vb V f locks n Fin r s'') s') s
section
variable{p:Go.Mx.Ph}{M:ah}{ρ σ:Env}{O O' D D':Nat→Prop}{h h':AH}{w w':World}{base cs:List Frame}{a a':aB}{f:Frame}{i gb mb vb:Nat}{s s₀:AS}{pl:bH}{g:Goroutine}{R:AS→Prop}{Nx:(Nat→Prop)→(Nat→Prop)→Goroutine→World→Prop}
theorem aet:∀w,p.I w→Lv p.L p.Wg w:=fun w h=>h.1
theorem Xd[aI p.P](H:WgLib p.P p.L)(hp:bQ p.P p.L.add=true)(hi:∃w,Lv p.L p.Wg w)
  (k:aY p.P pl (fun s₁=>∃s',Ih p.P p.L.add #[.pointer (some ⟨gb,0,none⟩),.int .i64 1] s₁ s' ∧ R s') s) (S:lI p.P ρ O D base s g w) (hgb:ρ.born gb) (hg:ρ.to gb=(p.Wg,0))
  (next:∀s' σ O' g' w',R s' → ρ.Le σ→lI p.P σ O' D base s' g' w' → dM p.P true p.I (XM p.Wg) D (p.vZ i Nx D) 0 O' g' w') :
  dM p.P true p.I (XM p.Wg) D (p.mO i Nx D) 0 O g w:=by
 have hW:Wk p.P true p.I X0 D (fun O' g' w'=>dM p.P true p.I (XM p.Wg) D (p.mO i Nx D) 0 O' g' w') O g w:=by
  refine (iF k S).bind ?_
  rintro iP g₁ w₁ ⟨σ,s₁,⟨s',⟨hrun,eu,ops,i,l,kk,o,as,ats,a',t1,t2,t3,t4,t5,t6,t7,t8⟩,hR⟩,hle,AU⟩
  have hg₁:σ.to gb=(p.Wg,0):=(hle.to _ hgb).trans hg
  refine (tH (c:=[]) (l:=[]) AU hrun (.inr ⟨l,kk,t1⟩)).bind ?_
  rintro uX g₂ w₂ ⟨τ,lo,f,cs,iQ,rfl,A⟩
  have hg₂:τ.to gb=(p.Wg,0):=(iQ.to _ (hle.born _ hgb)).trans hg₁
  obtain ⟨hargs,sr,kr,Pg,hst⟩:=tJ (m:=true) (base:=base) hp A eu t2 t3 t4 t5
  rw [t6] at hargs
  have hargs' :=args2 hg₂ hargs
  rw [hargs'] at hst
  refine .stop (.step rfl (fun _=>dN (Frame.enter p.P p.L.add #[.pointer (some ⟨p.Wg,0,none⟩),.int .i64 1] .normal) (f :: (cs ++ base))) id (fun _=>#[]) (fun w₃ _ _=>⟨hst w₃,.none w₃⟩) fun w₃ hr _=>?_)
  show dM p.P true p.I (XM p.Wg) D (p.mO _ Nx D) 0 (grow uX w₃ w₃) _ w₃
  rw [Go.Ren.jr]
  have hadd:=Go.Ren.add_pos (P:=p.P) (m:=true) (X:=XS p.Wg) (L:=p.L) (Wg:=p.Wg) (T:=(· = G ((f.at ⟨f.tmps,f.defers⟩ (.inRegion ops (i :: sr) :: kr)).finish (.tuple #[])) (cs ++ base))) H hi (fun a ha=>⟨a,ha,.inl rfl⟩)
   (b₀:=f) (a₀:=⟨f.tmps,f.defers⟩) (ops₀:=ops) (i₀:=i) (rest₀:=sr) (k₀:=kr) (cs:=cs ++ base) (by rw [Frame.finish_at])
  rw [←Pg] at hadd
  refine Go.Ren.Rf.aes (gT:=G (f.finish (.tuple #[])) (cs ++ base)) hadd aet ?_
  rintro aaO w₄ rfl Ox
  subst t8
  refine next _ τ _ _ w₄ hR (hle.trans iQ) ?_
  exact (A.rely hr |>.rely Ox).finish (.refl τ) (fun x _ hx=>hx) (Nat.le_refl _) (.tuple rfl fun i x y hx=>by simp at hx) (A.rely hr |>.rely Ox).rel t7
 refine (Go.Ren.Wk.deaf (fun e x=>x.elim) (fun e x=>x.elim) 0 hW).bind ?_
 rintro d O g w ⟨rfl,h⟩
 exact h
theorem aaR[aI p.P](H:dQ p.P M)(HL:WgLib p.P p.L)(hp:bQ p.P p.L.done=true)(hi:∃w,Lv p.L p.Wg w)(hB:p.B < 63)(hV:∀v,p.V v→∀x∈v,Plain x)
  (k:aY p.P pl (fun s₁=>∃s',aaQ p.P (Cc p.P pl p.L M gb mb vb p.V (p.f i) (p.locks i)) s₁ s' ∧ R s') s) (S:lI p.P ρ O D base s g w) (n:Names ρ p gb mb vb)
  (next:∀s' σ O' D' g' w',R s' → ρ.Le σ→lI p.P σ O' D' base s' g' w' → (∀b,D b→D' b)→Nx D' O' g' w') :
  dM p.P true p.I (XM p.Wg) D (p.vZ i Nx D) 0 O g w:=by
 have hW:Wk p.P true p.I X0 D (fun O' g' w'=>p.vZ i Nx D 0 O' g' w') O g w:=by
  refine (iF k S).bind ?_
  rintro iP g₁ w₁ ⟨σ,s₁,⟨s',⟨hrun,eu,ops,j,l,kk,o,c,x,fid,first,cap,a',t1,t2,t3,t4,t5,t6,t7,t8,t9,t10,t11⟩,hR⟩,hle,AU⟩
  refine (tH (c:=[]) (l:=[]) AU hrun (.inr ⟨l,kk,t1⟩)).mono ?_
  rintro uX g₂ w₂ ⟨τ,lo,f,cs,iQ,rfl,A⟩
  have n₂:=(n.le hle).le iQ
  refine ⟨rfl,rfl,fun w₃ hr _=>?_⟩
  obtain ⟨sr,kr,ht⟩:=A.todo
  have hw' :=A.wanted o t2
  rw [t3] at hw'
  have hv:=A.uI o t2 t4
  have hfx:=hv x (by rw [t5];simp [Op.operands,Call.operands,t6])
  rw [t7] at hfx
  generalize hfe:f.eval x=y at hfx
  cases hfx with
  | @func _ fn' _ first' _ cap' hfn hs1 hv1 hs2 hv2=>
   cases hfn
   have hargs:AR (VR τ) ((first ++ c.args.map (ax s₁.fr.tmps)) ++ cap) ((first' ++ c.args.map f.eval) ++ cap'):=
    AR.append (AR.append ⟨hs1,hv1⟩ (Rj fun z hz=>hv z (by rw [t5];simp [Op.operands,Call.operands,t6,hz]))) ⟨hs2,hv2⟩
   have hrun:∀ay,(execOp f.eval o).runT p.P w₃ ay=(.ok (.spawn { target:=.fn (.func fid) cap',args:=first' ++ c.args.map f.eval }) w₃,ay ++ #[]):=by
    intro ay
    have:execOp f.eval o=Sem.pure (.spawn { target:=.fn (.func fid) cap',args:=first' ++ c.args.map f.eval }):=by
     unfold execOp
     rw [t5]
     dsimp only
     unfold resolve
     rw [t6]
     dsimp only
     rw [hfe]
     rfl
    rw [this]
    simp only [Sem.runT,Array.append_empty]
   obtain ⟨h1,h2⟩:=yD hrun
   have hkind:=pq A.fs.base.ne
   have hst:stepG p.P true (dN f (cs ++ base)) w₃ = .spawn (dN (f.finish undef) (cs ++ base)) (born p.P { target:=.fn (.func fid) cap',args:=first' ++ c.args.map f.eval }) w₃ #[]:=by
    rw [eX A.run ht t2 hw' (fun q hq=>by rw [t5] at hq;cases hq)]
    simp [stepG.apply,h1,h2,hkind,GStep.after,dN,born,seen]
   have aiB:=A.rely hr
   have aeu:Rel τ (fun _=>False) (fun b=>D b∨uX b) s₁.h.shared w₃:=aiB.rel.share fun b hb=>hb.elim (fun x=>.inr (.inr x)) (fun x=>.inr (.inl x))
   refine ⟨_,_,uX,fun _=>False,fun b=>D b∨uX b,hst,fun b hb=>hb,fun b hb=>hb.elim,fun b hb=>hb,?_,?_⟩
   ·refine .step rfl (fun _=>dN (Frame.enter p.P fid ((first' ++ c.args.map f.eval) ++ cap') .deferred) [nK p.P]) id (fun _=>#[]) (fun w₄ _ _=>⟨born_step t8 w₄,.none w₄⟩) fun w₄ Ox _=>?_
    show dM p.P false p.I X0 _ _ 0 (grow (fun _=>False) w₄ w₄) _ w₄
    rw [Go.Ren.jr]
    refine Uy (pl:=pl) (gb:=gb) (mb:=mb) (vb:=vb) H HL hp hi hB hV t9 ?_ n₂
    refine ⟨⟨0,_,[],Nat.zero_le _,rfl,.plain (Rl fid hargs),.nil⟩,aeu.rely Ox⟩
   ·have e:(fun b=>uX b∧¬uX b∧¬False)=fun _=>False:=by
     funext b
     exact propext ⟨fun x=>x.2.1 x.1,fun x=>x.elim⟩
    rw [e]
    subst t11
    refine next _ τ _ _ _ _ hR (hle.trans iQ) ?_ fun b hb=>.inl hb
    exact ⟨⟨lo,_,cs,A.bound,rfl,kV A.fs (Nat.le_refl _) jJ t10,A.stk⟩,aeu⟩
 refine (Go.Ren.Wk.deaf (fun e x=>x.elim) (fun e x=>x.elim) 0 hW).mono ?_
 rintro d O g w ⟨rfl,h⟩
 exact h
theorem Cf[aI p.P]{Fin:AS→Prop}{Ii:Env}(H:dQ p.P M)(HL:uJ p.P p.L)(hi:∃w,Lv p.L p.Wg w)(hB:p.B < 63)(hV:∀v,p.V v→∀x∈v,Plain x)(hF:p.Fin=Rn p.P Ii base Fin) :
  ∀(r:Nat) {s:AS} {ρ:Env} {O D:Nat→Prop} {g:Goroutine} {w:World},kT p.P pl p.L M gb mb vb p.V p.f p.locks p.n Fin r s→lI p.P ρ O D base s g w→Ii.Le ρ→Names ρ p gb mb vb→p.HY r D O g w
 |0,s,ρ,O,D,g,w,k,S,Lt,n=>by
  show dM p.P true p.I (XM p.Wg) D (fU p.P p.L p.Wg p.Fin D) 0 O g w
  rw [hF]
  refine Rk (gb:=gb) HL.toWgLib HL.wait hi k S n.g n.gt ?_
  intro s' σ O' g' w' hF' hle S'
  exact ⟨σ,s',hF',Lt.trans hle,S'⟩
 |r+1,s,ρ,O,D,g,w,k,S,Lt,n=>by
  refine Xd (gb:=gb) HL.toWgLib HL.add hi k S n.g n.gt ?_
  intro s' σ O' g' w' hR hle S'
  refine aaR (gb:=gb) (mb:=mb) (vb:=vb) H HL.toWgLib HL.done hi hB hV hR S' (n.le hle) ?_
  intro s'' τ O'' D'' g'' w'' hR' hle' S'' _
  exact Cf H HL hi hB hV hF r hR' S'' ((Lt.trans hle).trans hle') ((n.le hle).le hle')
end
end Go.Am
