import Derived.Test.YtmgllphkofdnhaaGreatH33
set_option linter.unusedVariables false
set_option linter.unusedSectionVars false
set_option linter.unusedSimpArgs false
namespace Go.Mx
open Go.Ren
open Go.Conc hiding Goes mem_ofEvents
open Go.ConcN (sumTo upd upd_same upd_ne sumTo_congr sumTo_upd le_sumTo RelBy get_map_set get_map_set_same WgLive norel_of Deaf_absent)
open Go.Conc.Lib (WgLink)
open Go.ConcR (KK WgAt stA smA rd wr g_of_ofEvents loc_of_ofEvent)
theorem sm_more{φ:Lk→Nat}{j:Nat}{lk lk':Nat→Lk}(h0:φ .out=0)(hl:lk' j = .out)(he:∀k,k < j→lk' k=lk k):sm φ (j+1) lk' = sm φ j lk:=by
 show sumTo j (fun i=>φ (lk' i))+φ (lk' j)=_
 rw [hl,h0,Nat.add_zero]
 exact sumTo_congr fun i hi=>by rw [he i hi]
theorem MI.more{B j:Nat}{lk lk':Nat→Lk}{m:Wd}{q:Nat}(h:MI B j lk m q)(hB:j+1≤B)(hl:lk' j = .out)(he:∀k,k < j→lk' k=lk k):MI B (j+1) lk' m q:=by
 refine ⟨h.bits,hB,?_,fun e=>?_,fun e=>?_,fun a b c d=>?_,fun i hi=>?_⟩
 ·rw [sm_more rfl hl he];exact h.own
 ·rw [sm_more (φ:=cK) rfl hl he,sm_more (φ:=cT) rfl hl he,sm_more (φ:=cU) rfl hl he,sm_more (φ:=cA) rfl hl he,sm_more (φ:=cW) rfl hl he];exact h.nor e
 ·rw [sm_more (φ:=cK) rfl hl he,sm_more (φ:=cT) rfl hl he,sm_more (φ:=cU) rfl hl he,sm_more (φ:=cA) rfl hl he,sm_more (φ:=cW) rfl hl he];exact h.sta e
 ·obtain ⟨i,h1,h2⟩:=h.prog a b c d
  exact ⟨i,by omega,by rw [he i h1];exact h2⟩
 ·rcases Nat.lt_or_ge i j with h1|h1
  ·rw [he i h1];exact h.wf i h1
  ·obtain rfl:i=j:=by omega
   rw [hl];trivial
namespace Ph
variable{p:Ph}{W:Nat→Prop}{j:Nat}{tag:MTag}{x0:Pos}{bl:Bool}{wt:Nat→WT}{bw:Nat→Bool}{xs ls:Nat→Pos}{O D:Nat→Nat→Prop}{gs:Array Goroutine}{w w':World}{sl:Option (Nat×Nat)}{t:Trace}
theorem free_more{wt wt':Nat→WT}(hl:wt' j = .work)(he:∀k,k < j→wt' k=wt k):free (j+1) wt' ↔ free j wt:=by
 refine ⟨fun h k hk=>?_,fun h k hk=>?_⟩
 ·rw [←he k hk];exact h k (by omega)
 ·rcases Nat.lt_or_ge k j with h1|h1
  ·rw [he k h1];exact h k h1
  ·obtain rfl:k=j:=by omega
   rw [hl];exact id
theorem MCo.spawn{r:Nat}(hB:p.n≤p.B)(h:p.MCo W j (.sp (r+1) 0) x0 false wt bw xs ls O D gs w t)(hgo:p.MGo (p.n - (r+1)) (p.Spn r) x0.D x0.d x0.O x0.g x0.w) :
  ∃gs' x0' wt' bw' xs' O' D' ops,runT p.P (crowd gs w sl) 0=(.next (crowd gs' w sl),ops)∧p.MCo W (j+1) (.sp r 1) x0' false wt' bw' xs' ls O' D' gs' w (t ++ ops):=by
 have hsz:=h.size
 have hn0:=h.hn0
 have hleft:r+1+j=p.n:=h.left
 have hg0:gs[0]? = some x0.g:=by have:=h.main;simpa using this
 obtain ⟨hd0,hrn,hall⟩:=hgo
 obtain ⟨g',child,M,H,N,hst,hM,hH,hN,hchild,hnx⟩:=hall w h.rely h.inv
 have hi:p.n - (r+1)=j:=by omega
 rw [hi] at hchild
 have hrun:=runT_crowd_spawn (P:=p.P) (sl:=sl) (i:=0) hg0 (by simpa using hst)
 have e0:∀x y:MemOp,((MemOp.ofEvents 0 x0.g.frame.fn x0.g.frame.place #[]).push x).push y = #[x,y]:=fun x y=>by simp [MemOp.ofEvents]
 rw [e0] at hrun
 have hti:=h.ti
 have hown:=h.own
 rw [h.O0] at hM hH
 rw [h.D0] at hN
 have hx:(⟨0,x0.g.frame.fn,x0.g.frame.place,.go gs.size⟩:MemOp).g=0∧(⟨0,x0.g.frame.fn,x0.g.frame.place,.go gs.size⟩:MemOp).act = .go (p.n0+j):=⟨rfl,by rw [hsz]⟩
 have hy:(⟨gs.size,child.frame.fn,x0.g.frame.place,.start⟩:MemOp).g=p.n0+j∧(⟨gs.size,child.frame.fn,x0.g.frame.place,.start⟩:MemOp).act = .start:=⟨hsz,rfl⟩
 have hdf:Go.Conc.Deaf t 0=0:=by rw [h.deaf];exact hd0
 have hti' :=hti.fork (by omega) hx hy hdf hM hH hN
 have hown' :=hown.fork (by omega) hM hH hN
 have hm:∀op ∈ #[(⟨0,x0.g.frame.fn,x0.g.frame.place,.go gs.size⟩:MemOp),⟨gs.size,child.frame.fn,x0.g.frame.place,.start⟩],op.act ≠ .mark .disable∧op.act ≠ .mark .enable:=by
  intro op hop
  simp only [List.mem_toArray,List.mem_cons,List.not_mem_nil,or_false] at hop
  rcases hop with rfl|rfl<;>simp
 have hgne:∀k,k≠0→k < p.n0+j→∀op ∈ #[(⟨0,x0.g.frame.fn,x0.g.frame.place,.go gs.size⟩:MemOp),⟨gs.size,child.frame.fn,x0.g.frame.place,.start⟩],op.g≠k:=by
  intro k hk hk2 op hop
  simp only [List.mem_toArray,List.mem_cons,List.not_mem_nil,or_false] at hop
  rcases hop with rfl|rfl
  ·exact fun e=>hk e.symm
  ·show gs.size≠k;omega
 have hgsj:∀k,k < p.n0+j→k≠0→((gs.setIfInBounds 0 g').push child)[k]? = gs[k]? :=fun k hk hk0=>by
  rw [Array.getElem?_push_lt (by simp [hsz];omega),←Array.getElem?_eq_getElem,Array.getElem?_setIfInBounds_ne (by omega)]
 have hO:∀k,k≠0→k < p.n0+j→forkO O (p.n0+j) M H k=O k:=fun k h1 h2=>by
  funext b;unfold forkO;rw [if_neg h1,if_neg (by omega)]
 have hD:∀k,k≠0→k < p.n0+j→forkD D (p.n0+j) M N k=D k:=fun k h1 h2=>by
  funext b;unfold forkD;rw [if_neg h1,if_neg (by omega)]
 have hOn:forkO O (p.n0+j) M H (p.n0+j)=H:=by funext b;unfold forkO;rw [if_neg (by omega),if_pos rfl]
 have hDn:forkD D (p.n0+j) M N (p.n0+j)=N:=by funext b;unfold forkD;rw [if_neg (by omega),if_pos rfl]
 have hseat:p.MSeat (.sp r 1) ⟨fun b=>x0.O b∧¬M b∧¬H b,fun b=>x0.D b∨M b,0,g',w⟩:=by
  rcases r with _|r<;>exact hnx
 have hcseat:p.WSeat j .work ⟨H,N,0,child,w⟩:=hchild
 have hwj:∀i,i < j→upd wt j .work i=wt i:=fun i hi=>upd_ne wt _ (by omega)
 have hxsj:∀i,i < j→upd xs j ⟨H,N,0,child,w⟩ i=xs i:=fun i hi=>upd_ne xs _ (by omega)
 have hbj:∀i,i < j→upd bw j false i=bw i:=fun i hi=>upd_ne bw _ (by omega)
 have hfr:=free_more (j:=j) (wt:=wt) (wt' :=upd wt j .work) (upd_same wt j _) hwj
 have hdn:Go.Conc.Deaf t (p.n0+j)=0:=Deaf_absent fun p op hp e=>by have:=h.ti.gs p op hp;omega
 refine ⟨_,⟨fun b=>x0.O b∧¬M b∧¬H b,fun b=>x0.D b∨M b,0,g',w⟩,upd wt j .work,upd bw j false,upd xs j ⟨H,N,0,child,w⟩,forkO O (p.n0+j) M H,forkD D (p.n0+j) M N,_,hrun,h.hn0,by simp [hsz];omega,?_,fun e=>(by cases e),hseat,?_,?_,.refl _,?_,fun i hi=>?_,fun i hi hb=>?_,fun i hi hs=>?_,fun i hi hs=>?_,fun i hi=>?_,fun k h1 h2=>?_,by rw [←Nat.add_assoc];exact hti',
  by rw [←Nat.add_assoc,pred_eq hfr];exact hown',h.hW,fun hf=>?_,fun i hi hs=>?_,?_,fun i hi hs=>?_,norel_ops h.norel ?_,?_,?_,by show r+(j+1)=p.n;omega⟩
 ·rw [Array.getElem?_push_lt (by simp [hsz];omega)]
  simp
 ·funext b;unfold forkO;rw [if_pos rfl,h.O0]
 ·funext b;unfold forkD;rw [if_pos rfl,h.D0]
 ·rw [Go.ConcN.Deaf_still t 0 _ hm,h.deaf];exact hd0
 ·rcases Nat.lt_or_ge i j with hlt|hge
  ·obtain ⟨a1,a2,a3⟩:=h.wk i hlt
   rw [hwj i hlt,hxsj i hlt,hbj i hlt]
   exact ⟨by rw [hgsj _ (by omega) (by omega)];exact a1,a2,by rw [Go.ConcN.Deaf_still t _ _ hm];exact a3⟩
  ·obtain rfl:i=j:=by omega
   rw [upd_same,upd_same,upd_same]
   refine ⟨?_,hcseat,?_⟩
   ·have:p.n0+i=(gs.setIfInBounds 0 g').size:=by simp [hsz]
    rw [this,Array.getElem?_push_size]
    rfl
   ·rw [Go.ConcN.Deaf_still t _ _ hm]
    exact hdn
 ·rcases Nat.lt_or_ge i j with hlt|hge
  ·rw [hbj i hlt] at hb
   rw [hwj i hlt,hxsj i hlt]
   exact h.bs i hlt hb
  ·obtain rfl:i=j:=by omega
   rw [upd_same] at hb;cases hb
 ·rcases Nat.lt_or_ge i j with hlt|hge
  ·rw [hwj i hlt] at hs
   rw [hxsj i hlt,hO _ (by omega) (by omega),hD _ (by omega) (by omega)]
   exact h.wO i hlt hs
  ·obtain rfl:i=j:=by omega
   rw [upd_same,hOn,hDn]
   exact ⟨rfl,rfl,.refl _⟩
 ·rcases Nat.lt_or_ge i j with hlt|hge
  ·rw [hwj i hlt] at hs;exact h.lkd i hlt hs
  ·obtain rfl:i=j:=by omega
   rw [upd_same] at hs;exact hs.elim
 ·rcases Nat.lt_or_ge i j with hlt|hge
  ·rw [hwj i hlt];exact h.ph i hlt
  ·obtain rfl:i=j:=by omega
   rw [upd_same];trivial
 ·obtain ⟨a1,a2,a3,a4⟩:=h.lv k h1 h2
  exact ⟨by rw [hgsj _ (by omega) (by omega)];exact a1,a2,by rw [Go.ConcN.Deaf_still t _ _ hm];exact a3,a4.appNot (hgne k (by omega) (by omega))⟩
 ·rw [←Nat.add_assoc]
  exact (h.tok (hfr.1 hf)).fork (by omega) hx hy hdf hdn
 ·rcases Nat.lt_or_ge i j with hlt|hge
  ·rw [hwj i hlt] at hs
   rw [hO _ (by omega) (by omega)]
   exact h.hold i hlt hs
  ·obtain rfl:i=j:=by omega
   rw [upd_same] at hs;exact hs.elim
 ·obtain ⟨order,c1,c2,c3,c4,c5⟩:=h.cell
  refine ⟨order,c1,fun k=>?_,c3,fun k hk v e=>?_,fun hn=>c5 fun k hk v e=>hn k (by omega) v (by rw [hwj k hk];exact e)⟩
  ·rw [c2]
   rcases Nat.lt_or_ge k j with hlt|hge
   ·rw [hwj k hlt]
    exact ⟨fun x=>⟨by omega,x.2⟩,fun x=>⟨hlt,x.2⟩⟩
   ·constructor
    ·intro x;omega
    ·rintro ⟨x,y,z⟩
     obtain rfl:k=j:=by omega
     rw [upd_same] at z
     exact z.elim
  ·rcases Nat.lt_or_ge k j with hlt|hge
   ·rw [hwj k hlt] at e;exact c4 k hlt v e
   ·obtain rfl:k=j:=by omega
    rw [upd_same] at e;cases e
 ·rcases Nat.lt_or_ge i j with hlt|hge
  ·rw [hwj i hlt] at hs
   obtain ⟨r',hr'⟩:=h.over i hlt hs
   exact ⟨r',hr'.appNot (hgne _ (by omega) (by omega))⟩
  ·obtain rfl:i=j:=by omega
   rw [upd_same] at hs
   simp [stN] at hs
 ·intro op hop a
  simp only [List.mem_toArray,List.mem_cons,List.not_mem_nil,or_false] at hop
  rcases hop with rfl|rfl<;>simp
 ·obtain ⟨m,q,m1,m2,m3⟩:=h.mi
  refine ⟨m,q,m1,m2.more (by omega) (by rw [upd_same];rfl) (fun k hk=>by rw [hwj k hk]),fun i hi hb=>?_⟩
  rcases Nat.lt_or_ge i j with hlt|hge
  ·rw [hbj i hlt] at hb;exact m3 i hlt hb
  ·obtain rfl:i=j:=by omega
   rw [upd_same] at hb;cases hb
 ·obtain ⟨a,b,m1,m2⟩:=h.md
  rw [upd_fun stN]
  generalize hst':(fun k=>stN (wt k))=st at m2
  have hstj:∀i,i < j→upd st j 8 i=st i:=fun i hi=>upd_ne st _ (by omega)
  show ∃a b,WgAt p.L.tWg p.Wg w a b∧Md (j+1) (upd st j 8) (.sp r 1) a b
  cases m2 with
  |opn h1 h2 h3=>
   have hV:Vn (j+1) (upd st j 8)=Vn j st+1:=by
    show sumTo j (fun i=>cntW (upd st j 8 i))+cntW (upd st j 8 j)=_
    rw [upd_same,sumTo_congr (g:=fun i=>cntW (st i)) (fun i hi=>by rw [hstj i hi])]
    rfl
   have hp:pendM (.sp r 1)=0:=by rcases r with _|r<;>rfl
   have hp1:pendM (.sp (r+1) 0)=1:=rfl
   have:=Md.opn (j:=j+1) (st:=upd st j 8) (tag:=.sp r 1) trivial (fun i hi=>by
    rcases Nat.lt_or_ge i j with hlt|hge
    ·rw [hstj i hlt];exact h2 i hlt
    ·obtain rfl:i=j:=by omega
     rw [upd_same];exact .inl rfl) trivial
   rw [hV,hp] at this
   rw [hp1] at m1
   exact ⟨_,_,m1,this⟩
  |fin h1 _=>exact h1.elim
end Ph
end Go.Mx
namespace Go.Mx
open Go.Ren
open Go.Conc hiding Goes mem_ofEvents
open Go.ConcN (sumTo upd upd_same upd_ne sumTo_congr sumTo_upd le_sumTo RelBy get_map_set get_map_set_same WgLive norel_of Deaf_absent)
open Go.Conc.Lib (WgLink)
open Go.ConcR (KK WgAt stA smA rd wr g_of_ofEvents loc_of_ofEvent)
namespace Ph
variable{p:Ph}{W:Nat→Prop}{j:Nat}{tag:MTag}{x0:Pos}{bl:Bool}{wt:Nat→WT}{bw:Nat→Bool}{xs ls:Nat→Pos}{O D:Nat→Nat→Prop}{gs:Array Goroutine}{w w':World}{sl:Option (Nat×Nat)}{t:Trace}
def After(p:Ph)(W:Nat→Prop)(m:Machine)(t:Trace):Prop:=
 ∃(gs:Array Goroutine) (w:World) (sl:Option (Nat×Nat)) (g gT:Goroutine) (ls:Nat→Pos) (O D:Nat→Nat→Prop) (order:List Nat),
  m=crowd gs w sl∧gs.size=p.n0+p.n∧gs[0]? = some g∧IdleD p.P true (Lv p.L p.Wg) (XM p.Wg) (fun d g=>d=0∧g=gT) 0 g∧p.Fin (D 0) (O 0) gT w∧Go.Conc.Deaf t 0=0 ∧
  (∀k,1≤k→k < p.n0+p.n→gs[k]? = some (ls k).g∧(∃q,QuitsD p.P q (ls k).d (ls k).g)∧Go.Conc.Deaf t k=(ls k).d∧Gone W t k) ∧
  TI W (aloneO W w.heap.size) aloneD (p.n0+p.n) w.heap.size t∧Own (fun b=>W b∨b=p.C) O D (p.n0+p.n) w.heap.size∧WgAt p.L.tWg p.Wg w 0 0∧(∀a,NoRelease a t) ∧
  order.Nodup∧(∀i,i∈order↔i < p.n∧p.locks i=true)∧p.V (p.fold order)∧CellIs p.oe p.C (p.fold order) w
theorem fin_of{s:WT}(h:stN s=1):s = .fin 1:=by cases s<;>simp [stN] at h;rw [h]
theorem MCo.acquire{gT:Goroutine}(h:p.MCo W j (.acq gT) x0 false wt bw xs ls O D gs w t)(hx:MAcq p.P p.L p.Wg gT x0.d x0.g) :
  ∃m' ops,runT p.P (crowd gs w sl) 0=(.next m',ops)∧p.After W m' (t ++ ops):=by
 have hsz:=h.size
 have hn0:=h.hn0
 have hj:j=p.n:=h.left
 subst hj
 have hg0:gs[0]? = some x0.g:=by have:=h.main;simpa using this
 obtain ⟨hd0,hst,g',hgo,hid⟩:=hx
 have hinv:=h.inv
 obtain ⟨a,b,m1,m2⟩:=h.md
 have hall:AllQ p.n (fun k=>stN (wt k))∧a=0∧b=0:=by
  cases m2 with
  |opn h1=>exact h1.elim
  |fin _ h2=>exact ⟨h2,rfl,rfl⟩
 obtain ⟨hq,rfl,rfl⟩:=hall
 have hq:∀i,i < p.n→wt i = .fin 1:=fun i hi=>fin_of (hq i hi)
 have hrun:=runT_crowd_go (P:=p.P) (sl:=sl) (i:=0) hg0 (by simpa using hgo w hinv.1)
 have e1:MemOp.ofEvents 0 x0.g.frame.fn x0.g.frame.place #[Go.ConcR.mk (.acquire (stA p.Wg))] = #[(⟨0,x0.g.frame.fn,x0.g.frame.place,.mark (.acquire (stA p.Wg))⟩:MemOp)]:=one_event _ _ _ _
 rw [e1] at hrun
 have hz:(⟨0,x0.g.frame.fn,x0.g.frame.place,.mark (.acquire (stA p.Wg))⟩:MemOp).g=0∧(⟨0,x0.g.frame.fn,x0.g.frame.place,.mark (.acquire (stA p.Wg))⟩:MemOp).act = .mark (.acquire (stA p.Wg)):=⟨rfl,rfl⟩
 have hdf:Go.Conc.Deaf t 0=0:=by rw [h.deaf];exact hd0
 have hm:∀op ∈ #[(⟨0,x0.g.frame.fn,x0.g.frame.place,.mark (.acquire (stA p.Wg))⟩:MemOp)],op.act ≠ .mark .disable∧op.act ≠ .mark .enable:=by
  intro op hop
  simp only [List.mem_toArray,List.mem_cons,List.not_mem_nil,or_false] at hop
  subst hop
  simp
 have hgone:∀k,k≠0→k < p.n0+p.n→Gone W (t ++ #[(⟨0,x0.g.frame.fn,x0.g.frame.place,.mark (.acquire (stA p.Wg))⟩:MemOp)]) k:=by
  intro k hk hk2
  rcases Nat.lt_or_ge k p.n0 with h1|h1
  ·obtain ⟨_,_,_,a4⟩:=h.lv k (by omega) h1
   refine a4.appNot fun op hop=>?_
   simp only [List.mem_toArray,List.mem_cons,List.not_mem_nil,or_false] at hop
   subst hop
   exact fun e=>hk e.symm
  ·obtain ⟨i,rfl⟩:∃i,k=p.n0+i:=⟨k - p.n0,by omega⟩
   obtain ⟨r,hr⟩:=h.over i (by omega) (by rw [hq i (by omega)];simp [stN])
   exact hr.gone hz hk (h.norel _) hdf
 have hti:TI W (aloneO W w.heap.size) aloneD (p.n0+p.n) w.heap.size (t ++ #[(⟨0,x0.g.frame.fn,x0.g.frame.place,.mark (.acquire (stA p.Wg))⟩:MemOp)]):=
  (h.ti.still (z:=⟨0,x0.g.frame.fn,x0.g.frame.place,.mark (.acquire (stA p.Wg))⟩) (by show 0 < p.n0+p.n;omega) rfl (h.own.wlt _ (.inl h.hW.1))).alone hgone
 have hfr:free p.n wt:=fun i hi=>by rw [hq i hi];exact id
 have hown:Own (fun b=>W b∨b=p.C) O D (p.n0+p.n) w.heap.size:=by
  have:=h.own
  rw [pred_eq (iff_true_intro hfr)] at this
  have e:(fun b=>W b∨(True∧b=p.C))=fun b=>W b∨b=p.C:=by funext b;simp
  rw [e] at this
  exact this
 obtain ⟨order,c1,c2,c3,c4,c5⟩:=h.cell
 have hfin:=h.seat.1 w h.rely
 rw [h.O0,h.D0] at hfin
 have hoff:∀k,k < p.n0+p.n→1≤k→True:=fun _ _ _=>trivial
 refine ⟨_,_,hrun,_,w,sl,g',gT,fun k=>if k < p.n0 then ls k else xs (k - p.n0),O,D,order,rfl,by simpa using hsz,get_map_set_same _ _ _ (by rw [hsz];omega),hid,hfin,by rw [Go.ConcN.Deaf_still t 0 _ hm];exact hdf,fun k h1 h2=>?_,hti,hown,m1,norel_ops h.norel ?_,c1,fun i=>?_,c3,
  c5 fun k hk v e=>by rw [hq k hk] at e;cases e⟩
 ·rw [Go.ConcN.Deaf_still t _ _ hm]
  rcases Nat.lt_or_ge k p.n0 with h3|h3
  ·dsimp only
   rw [if_pos h3]
   obtain ⟨a1,⟨q,a2⟩,a3,_⟩:=h.lv k h1 h3
   exact ⟨by rw [get_map_set _ _ _ _ (by omega),a1,Option.map_some,woken_rf a2.status],⟨q,a2⟩,a3,hgone k (by omega) h2⟩
  ·dsimp only
   rw [if_neg (by omega)]
   obtain ⟨i,rfl⟩:∃i,k=p.n0+i:=⟨k - p.n0,by omega⟩
   rw [Nat.add_sub_cancel_left]
   obtain ⟨a1,a2,a3⟩:=h.wk i (by omega)
   have hbi:bw i=false:=by
    cases e:bw i with
    |false=>rfl
    |true=>
     obtain ⟨⟨sv,e'⟩,_⟩:=h.bs i (by omega) e
     rw [hq i (by omega)] at e';cases e'
   rw [hq i (by omega)] at a2
   rw [hbi] at a1
   obtain ⟨q,a2⟩:=a2
   exact ⟨by rw [get_map_set _ _ _ _ (by omega),a1,Option.map_some];simp only [Bool.false_eq_true,if_false];rw [woken_rf a2.status],⟨q,a2⟩,a3,hgone _ (by omega) h2⟩
 ·intro op hop a
  simp only [List.mem_toArray,List.mem_cons,List.not_mem_nil,or_false] at hop
  subst hop
  simp
 ·rw [c2]
  exact ⟨fun x=>⟨x.1,x.2.1⟩,fun x=>⟨x.1,x.2,by rw [hq i x.1];trivial⟩⟩
inductive Went0(p:Ph)(W:Nat→Prop)(j:Nat)(tag:MTag)(x0:Pos)(wt:Nat→WT)(bw:Nat→Bool)(xs ls:Nat→Pos)(w:World)(t:Trace)(m':Machine)(ops:Array MemOp):Prop
 |on {gs':Array Goroutine} {w':World} {sl:Option (Nat×Nat)} {tag':MTag} {x':Pos} {bw':Nat→Bool} {O' D':Nat→Nat→Prop} (e:m' = crowd gs' w' sl) (hmu:w'.heap[p.Mu]? = w.heap[p.Mu]?) (ho:Ord (rkM p.n) p.MSeat p.MNx (tag',x') (tag,x0)) (h:p.MCo W j tag' x' false wt bw' xs ls O' D' gs' w' (t ++ ops)):Went0 p W j tag x0 wt bw xs ls w t m' ops
 |sleep {gs':Array Goroutine} {sl:Option (Nat×Nat)} {O' D':Nat→Nat→Prop} (e:m' = crowd gs' w sl) (h:p.MCo W j tag x0 true wt bw xs ls O' D' gs' w (t ++ ops)):Went0 p W j tag x0 wt bw xs ls w t m' ops
 |more {gs':Array Goroutine} {w':World} {sl:Option (Nat×Nat)} {r:Nat} {x':Pos} {wt':Nat→WT} {bw':Nat→Bool} {xs':Nat→Pos} {O' D':Nat→Nat→Prop} (e:m' = crowd gs' w' sl) (h:p.MCo W (j+1) (.sp r 1) x' false wt' bw' xs' ls O' D' gs' w' (t ++ ops)):Went0 p W j tag x0 wt bw xs ls w t m' ops
 |join (h:p.After W m' (t ++ ops)):Went0 p W j tag x0 wt bw xs ls w t m' ops
theorem MCo.stepWait(hn:p.n < 2147483647)(h:p.MCo W j tag x0 false wt bw xs ls O D gs w t)(hw:∀r s,tag ≠ .sp r s) :
  ∃m' ops,runT p.P (crowd gs w sl) 0=(.next m',ops)∧p.Went0 W j tag x0 wt bw xs ls w t m' ops:=by
 have hinv:=h.inv
 have hl:Lv p.L p.Wg w:=hinv.1
 obtain ⟨a,b,m1,m2⟩:=h.md
 generalize hst:(fun k=>stN (wt k))=st at m2
 have hVj:=Vn_le j st
 have hMW:p.Mu≠p.Wg:=h.hW.2.2.1.symm
 have hjn:j=p.n:=by
  have:=h.left
  cases tag with
  |sp r s=>exact absurd rfl (hw r s)
  |_=>exact this
 have put:∀ {tag':MTag} {g':Goroutine} {w':World} {es:Array Event},stepG p.P true x0.g w = .go g' w' es→(w' = w∨∃a v,a.block=p.Wg∧w' = w.setCell a v)→(∀e∈es,LibEv p.Wg e∨XM p.Wg e)→p.MSeat tag' { x0 with d:=deafBehind x0.d es,g:=g' } →
   (∃a b,WgAt p.L.tWg p.Wg w' a b∧Md j st tag' a b)→(leftM p.n j tag') →
   (rkM p.n tag' < rkM p.n tag∨(tag' = tag∧p.MNx tag { x0 with d:=deafBehind x0.d es,g:=g' } x0)) →
   ∃m' ops,runT p.P (crowd gs w sl) 0=(.next m',ops)∧p.Went0 W j tag x0 wt bw xs ls w t m' ops:=by
  intro tag' g' w' es hgo hw' hes hseat hmd hleft hord
  obtain ⟨gs',O',bw',ops,h1,h2⟩:=h.libM (sl:=sl) hgo hw' hes hseat (by rw [hst];exact hmd) hleft
  refine ⟨_,ops,h1,.on rfl ?_ (hord.imp (fun x=>⟨x,hseat⟩) (fun x=>x)) h2⟩
  rcases hw' with rfl|⟨a,v,ha,rfl⟩
  ·rfl
  ·exact setCell_other (by rw [ha];exact hMW)
 have idle:∀ {S:Nat→Goroutine→Prop},p.MNx tag=NxI p.P true (Lv p.L p.Wg) S→(∀d g,IdleD p.P true (Lv p.L p.Wg) (XM p.Wg) S d g→p.MSeat tag { x0 with d:=d,g:=g })→¬S x0.d x0.g →
   (∃g' es,stepG p.P true x0.g w = .go g' w es∧(∀e∈es,XM p.Wg e)∧IdleD p.P true (Lv p.L p.Wg) (XM p.Wg) S (deafBehind x0.d es) g') →
   ∃m' ops,runT p.P (crowd gs w sl) 0=(.next m',ops)∧p.Went0 W j tag x0 wt bw xs ls w t m' ops:=by
  rintro S hN hseat hnS ⟨g',es,hgo,hes,hid⟩
  refine put (tag' :=tag) hgo (.inl rfl) (fun e he=>.inr (hes e he)) (hseat _ _ hid) ⟨a,b,m1,m2⟩ h.left (.inr ⟨rfl,?_⟩)
  rw [hN]
  exact ⟨hnS,w,w,es,hl,hgo,rfl⟩
 have hseat:=h.seat
 cases tag with
 |sp r s=>exact absurd rfl (hw r s)
 |w1 v gT A=>
  obtain ⟨hA,hFn,hid⟩:=hseat
  rcases idle_step hid hl with hx|⟨hnS,hx⟩
  ·obtain ⟨hd1,_,hall⟩:=hx
   cases m2 with
   |opn h1 h2 h3=>
    have e0:pendM (.w1 v gT A)=0:=rfl
    rw [e0,Nat.add_zero] at m1
    obtain ⟨g',hgo,hz,hnz⟩:=hall (Vn j st) (by omega)
    have hgo' :=hgo w hl m1
    rcases Nat.eq_zero_or_pos (Vn j st) with hz0|hpos
    ·have hq:=h2.quit_of_zero hz0
     refine put (tag' :=.acq gT) hgo' (.inl rfl) bk_r ⟨hFn,by rw [deaf_r,hd1];exact hz hz0⟩ ⟨0,0,by rw [hz0] at m1;simpa using m1,.fin trivial hq⟩ hjn (.inl (by show 1 < 8 * v+6;omega))
    ·refine put (tag' :=.w2 (Vn j st) gT A) hgo' (.inl rfl) bk_r ⟨hA,hFn,by rw [deaf_r,hd1];exact hnz (by omega)⟩ ⟨_,_,m1,?_⟩ hjn (.inl (by show 8 * Vn j st+4 < 8 * v+6;have:Vn j st≤v:=h3;omega))
     have:=Md.opn (j:=j) (st:=st) (tag:=.w2 (Vn j st) gT A) trivial h2 ⟨Nat.le_refl _,hpos⟩
     simpa [pendM] using this
   |fin h1=>exact h1.elim
  ·exact idle rfl (fun d g x=>⟨hA,hFn,x⟩) hnS hx
 |w2 v gT A=>
  obtain ⟨hA,hFn,hid⟩:=hseat
  rcases idle_step hid hl with hx|⟨hnS,hx⟩
  ·obtain ⟨hd1,_,hall⟩:=hx
   cases m2 with
   |opn h1 h2 h3=>
    have e0:pendM (.w2 v gT A)=0:=rfl
    rw [e0,Nat.add_zero] at m1
    obtain ⟨h3a,h3b⟩:Vn j st≤v∧1≤v:=h3
    obtain ⟨hhit,hmiss⟩:=hall (Vn j st) (by omega)
    by_cases hv:Vn j st=v
    ·obtain ⟨g',hgo,hid'⟩:=hhit hv
     refine put (tag' :=.w3 gT) (hgo w hl m1) (.inr ⟨_,_,rfl,rfl⟩) bk_rw ⟨hFn,by rw [deaf_rw,hd1];exact hid'⟩ ⟨_,_,m1.setSt _,.reg h2 (by omega)⟩ hjn (.inl (by show 3 < 8 * v+4;omega))
    ·obtain ⟨g',hgo,hid'⟩:=hmiss hv
     refine put (tag' :=.w1 (Vn j st) gT A) (hgo w hl m1) (.inl rfl) bk_r ⟨hA,hFn,?_⟩ ⟨_,_,m1,?_⟩ hjn (.inl (by show 8 * Vn j st+6 < 8 * v+4;omega))
     ·rw [deaf_r,hd1]
      refine hid'.bind ?_
      rintro d g ⟨rfl,hg⟩
      exact hA g hg
     ·have:=Md.opn (j:=j) (st:=st) (tag:=.w1 (Vn j st) gT A) trivial h2 (Nat.le_refl _)
      simpa [pendM] using this
   |fin h1=>exact h1.elim
  ·exact idle rfl (fun d g x=>⟨hA,hFn,x⟩) hnS hx
 |w3 gT=>
  obtain ⟨hFn,hid⟩:=hseat
  rcases idle_step hid hl with hx|⟨hnS,hx⟩
  ·have hx' :=hx
   obtain ⟨hd1,hrn,hoff,hblk,g',hgo,hid'⟩:=hx
   have sleeps:(∃i,i < j∧2≤st i)→b=0→∃m' ops,runT p.P (crowd gs w sl) 0=(.next m',ops)∧p.Went0 W j (.w3 gT) x0 wt bw xs ls w t m' ops:=by
    rintro hex rfl
    obtain ⟨gs',ops,h1,h2⟩:=h.sleeps (sl:=sl) rfl hx' (by rw [←hst] at hex;exact hex) (hblk w a m1)
    exact ⟨_,ops,h1,.sleep rfl h2⟩
   cases m2 with
   |opn h1=>exact h1.elim
   |reg h2 h3=>
    obtain ⟨i,hi,h5⟩:=exists_cnt h3
    exact sleeps ⟨i,hi,by omega⟩ rfl
   |last K h2 h3 h4=>exact sleeps ⟨K,h2,by omega⟩ rfl
   |sema h2=>
    have hsd:deafBehind x0.d (semEvents (smA p.Wg))=1:=by rw [hd1];simp [semEvents,deafBehind]
    exact put (tag' :=.w4 gT) (hgo w hl m1) (.inr ⟨_,_,rfl,rfl⟩) (fun e he=>.inl (sem_lib e he)) ⟨hFn,by rw [hsd];exact hid'⟩ ⟨_,_,m1.setSm 0,.fin trivial h2⟩ hjn (.inl (by show 2 < 3;omega))
   |fin h1=>exact h1.elim
  ·exact idle rfl (fun d g x=>⟨hFn,x⟩) hnS hx
 |w4 gT=>
  obtain ⟨hFn,hid⟩:=hseat
  rcases idle_step hid hl with hx|⟨hnS,hx⟩
  ·obtain ⟨hd1,hrn,g',hgo,hid'⟩:=hx
   cases m2 with
   |opn h1=>exact h1.elim
   |fin _ h2=>exact put (tag' :=.acq gT) (hgo w hl m1) (.inl rfl) bk_r ⟨hFn,by rw [deaf_r,hd1];exact hid'⟩ ⟨_,_,m1,.fin trivial h2⟩ hjn (.inl (by show 1 < 2;omega))
  ·exact idle rfl (fun d g x=>⟨hFn,x⟩) hnS hx
 |acq gT=>
  rcases idle_step hseat.2 hl with hx|⟨hnS,hx⟩
  ·obtain ⟨m',ops,h1,h2⟩:=h.acquire (sl:=sl) hx
   exact ⟨m',ops,h1,.join h2⟩
  ·exact idle rfl (fun d g x=>⟨hseat.1,x⟩) hnS hx
theorem MCo.ownM{Stop:(Nat→Prop)→Nat→(Nat→Prop)→Goroutine→World→Prop}(h:p.MCo W j tag x0 false wt bw xs ls O D gs w t)(hid:WkD p.P true p.I (XM p.Wg) x0.D (Stop x0.D) x0.d x0.O x0.g x0.w)
  (hN:p.MNx tag=NxD p.P true p.I Stop) (hM:∀x':Pos,x'.D=x0.D→WkD p.P true p.I (XM p.Wg) x'.D (Stop x'.D) x'.d x'.O x'.g x'.w→p.MSeat tag x') (hns:¬Stop x0.D x0.d x0.O x0.g x0.w) :
  ∃m' ops,runT p.P (crowd gs w sl) 0=(.next m',ops)∧p.Went0 W j tag x0 wt bw xs ls w t m' ops:=by
 have hinv:=h.inv
 have hn0:=h.hn0
 have hrelx:=h.rely
 have hO:=h.O0
 have hD:=h.D0
 have hmain:=h.main
 generalize hx:x0=y at hid hns hrelx hO hD hmain
 obtain ⟨OO,DD,dd,gg,ww⟩:=y
 dsimp only at hid hns hrelx hO hD
 cases hid with
 |stop hs=>exact absurd hs hns
 |step hst f u es hk k=>
  obtain ⟨hgo,hG⟩:=hk w hrelx hinv
  have hnext:=k w hrelx hinv
  subst hO hD
  have hlt:p.Wg < w.heap.size:=h.own.wlt _ (.inl h.hW.1)
  have hGw:GuarW (XOk W 0) W (O 0) (D 0) w (u w) (es w):=hG.wide fun e he=>(xm_ok (w:=w) h.hW.1 hlt he).1
  have hkeep:∀b,W b→(u w).heap[b]? = w.heap[b]? :=fun b hb=>hG.heap b (h.ownW.wlt b hb) fun hO'=>h.ownW.ow 0 b (by omega) hO' hb
  have hseat:p.MSeat tag ⟨grow (O 0) w (u w),D 0,deafBehind dd (es w),f w,u w⟩:=hM ⟨grow (O 0) w (u w),D 0,deafBehind dd (es w),f w,u w⟩ (by rw [hx]) hnext
  obtain ⟨gs',O',bw',ops,h1,h2⟩:=h.starter (sl:=sl) (x' :=⟨grow (O 0) w (u w),D 0,deafBehind dd (es w),f w,u w⟩) (es:=es w) (w' :=u w) (tag' :=tag) (by rw [hx];exact hgo) hGw (by rw [hx]) hseat rfl rfl (.refl _) (fun e he=>evO_norel (hG.ev e he) fun x=>xm_norel x) (hkeep _ h.hW.2.1)
   (by obtain ⟨a,b,m1,m2⟩:=h.md;exact ⟨a,b,by unfold WgAt at m1 ⊢;rw [hkeep p.Wg h.hW.1];exact m1,m2⟩) h.left
  refine ⟨_,ops,h1,.on (x' :=⟨grow (O 0) w (u w),D 0,deafBehind dd (es w),f w,u w⟩) rfl (hkeep _ h.hW.2.1) (.inr ⟨rfl,?_⟩) h2⟩
  show p.MNx tag _ _
  rw [hN]
  exact ⟨rfl,hns,w,es w,hrelx,hinv,hgo,rfl,rfl⟩
theorem MCo.stepSp{r s:Nat}(hB:p.n≤p.B)(hn:p.n < 2147483647)(h:p.MCo W j (.sp r s) x0 false wt bw xs ls O D gs w t) :
  ∃m' ops,runT p.P (crowd gs w sl) 0=(.next m',ops)∧p.Went0 W j (.sp r s) x0 wt bw xs ls w t m' ops:=by
 have hinv:=h.inv
 have hleft:r+j=p.n:=h.left
 have hseat:=h.seat
 have hMW:p.Mu≠p.Wg:=h.hW.2.2.1.symm
 have hVj:=Vn_le j (fun k=>stN (wt k))
 rcases r with _|r
 ·rcases s with _|_|s
  ·exact hseat.elim
  ·by_cases hx:MWait p.P p.L p.Wg p.Fin x0.D x0.d x0.O x0.g x0.w
   ·obtain ⟨gT,A,hA,hid,hFn⟩:=hx
    have h':p.MCo W j (.w1 p.n gT A) x0 false wt bw xs ls O D gs w t:=by
     refine ⟨h.hn0,h.size,h.main,fun e=>(by cases e),⟨hA,hFn,hid⟩,h.O0,h.D0,h.rely,h.deaf,h.wk,h.bs,h.wO,h.lkd,h.ph,h.lv,h.ti,h.own,h.hW,h.tok,h.hold,h.cell,h.over,h.norel,h.mi,?_,by show j=p.n;omega⟩
     obtain ⟨a,b,m1,m2⟩:=h.md
     generalize (fun k=>stN (wt k))=st at m2 hVj
     show ∃a b,WgAt p.L.tWg p.Wg w a b∧Md j st (.w1 p.n gT A) a b
     cases m2 with
     |opn h1 h2 h3=>
      refine ⟨_,_,m1,?_⟩
      have:=Md.opn (j:=j) (st:=st) (tag:=.w1 p.n gT A) trivial h2 (by show Vn j st≤p.n;omega)
      simpa [pendM] using this
     |fin h1=>exact h1.elim
    obtain ⟨m',ops,h1,h2⟩:=h'.stepWait (sl:=sl) hn (fun r s e=>by cases e)
    refine ⟨m',ops,h1,?_⟩
    cases h2 with
    |on e hmu ho hc=>
     refine .on e hmu (.inl ⟨?_,hc.seat⟩) hc
     rcases ho with ⟨x,_⟩|⟨x,_⟩
     ·have x':rkM p.n _ < 8 * p.n+6:=x
      show rkM p.n _ < 8 * p.n+8+2 * 0+1
      omega
     ·dsimp only at x
      subst x
      show 8 * p.n+6 < 8 * p.n+8+2 * 0+1
      omega
    |sleep e hc=>obtain ⟨⟨gT',e',_⟩,_⟩:=hc.blk rfl;cases e'
    |more e hc=>exact .more e hc
    |join hc=>exact .join hc
   ·exact h.ownM hseat rfl (fun x' hx' hk=>hk) hx
  ·exact hseat.elim
 ·rcases s with _|_|s
  ·by_cases hx:p.MGo (p.n - (r+1)) (p.Spn r) x0.D x0.d x0.O x0.g x0.w
   ·obtain ⟨gs',x0',wt',bw',xs',O',D',ops,h1,h2⟩:=h.spawn (sl:=sl) hB hx
    exact ⟨_,ops,h1,.more rfl h2⟩
   ·exact h.ownM hseat rfl (fun x' hx' hk=>hk) hx
  ·by_cases hx:p.MAdd (p.n - (r+1)) (p.Spn r) x0.D x0.d x0.O x0.g x0.w
   ·obtain ⟨hd1,hrn,hall⟩:=hx
    obtain ⟨a,b,m1,m2⟩:=h.md
    generalize hst:(fun k=>stN (wt k))=st at m2 hVj
    cases m2 with
    |opn h1 h2 h3=>
     have e0:pendM (.sp (r+1) 1)=0:=rfl
     rw [e0,Nat.add_zero] at m1
     obtain ⟨g',hgo,hk⟩:=hall (Vn j st) (by omega)
     have hs':p.MSeat (.sp (r+1) 0) { x0 with d:=deafBehind x0.d #[rd (stA p.Wg),wr (stA p.Wg)],g:=g' }:=by
      show WkD p.P true p.I (XM p.Wg) x0.D (p.MGo (p.n - (r+1)) (p.Spn r) x0.D) (deafBehind x0.d #[rd (stA p.Wg),wr (stA p.Wg)]) x0.O g' x0.w
      rw [deaf_rw,hd1]
      exact hk x0.w (.refl _)
     obtain ⟨gs',O',bw',ops,h1',h2'⟩:=h.libM (sl:=sl) (hgo w hinv.1 m1) (.inr ⟨_,_,rfl,rfl⟩) bk_rw hs' ⟨_,_,m1.setSt _,(by
      have:=Md.opn (j:=j) (st:=st) (tag:=.sp (r+1) 0) trivial h2 trivial
      have e1:pendM (.sp (r+1) 0)=1:=rfl
      rw [e1] at this
      rw [hst]
      simpa using this)⟩ hleft
     exact ⟨_,ops,h1',.on rfl (setCell_other (a:=stA p.Wg) hMW) (.inl ⟨by show 8 * p.n+8+2 * (r+1)+0 < 8 * p.n+8+2 * (r+1)+1;omega,hs'⟩) h2'⟩
    |fin h1=>exact h1.elim
   ·exact h.ownM hseat rfl (fun x' hx' hk=>hk) hx
  ·exact hseat.elim
end Ph
end Go.Mx
namespace Go.Mx
open Go.Ren
open Go.Conc hiding Goes mem_ofEvents
open Go.ConcN (sumTo upd upd_same upd_ne sumTo_congr sumTo_upd le_sumTo RelBy get_map_set get_map_set_same WgLive norel_of Deaf_absent)
open Go.Conc.Lib (WgLink)
open Go.ConcR (KK WgAt stA smA rd wr g_of_ofEvents loc_of_ofEvent)
theorem MuAt.inj{ty:TypeId}{Mu:Nat}{w:World}{m m':Wd}{q q':Nat}(h:MuAt ty Mu w m q)(h':MuAt ty Mu w m' q')(hb:m.Bits)(hb':m'.Bits):m=m' ∧ q=q' :=by
 unfold MuAt at h h'
 rw [h] at h'
 simp only [Option.some.injEq,Obj.cells.injEq,Array.mk.injEq,List.cons.injEq,Value.int.injEq,and_true,true_and] at h'
 exact ⟨Wd.inj hb hb' (by omega),by omega⟩
namespace Ph
abbrev Zp:=(MTag×WT)×Pos
def rz(p:Ph)(m:Wd)(k:Nat)(z' z:Zp):Prop:=
 if k=0 then Ord (rkM p.n) p.MSeat p.MNx (z'.1.1,z'.2) (z.1.1,z.2)
 else if k < p.n0 then NxQ p.P z'.2 z.2 else Ord (rkW m) (p.WSeat (k - p.n0)) (p.WNx (k - p.n0)) (z'.1.2,z'.2) (z.1.2,z.2)
def mkv(n0:Nat)(tag:MTag)(x0:Pos)(wt:Nat→WT)(xs ls:Nat→Pos)(k:Nat):Zp:=
 if k=0 then ((tag,.work),x0) else if k < n0 then ((.sp 0 0,.work),ls k) else ((.sp 0 0,wt (k - n0)),xs (k - n0))
def awk(j:Nat)(bl:Bool)(bw:Nat→Bool):Nat:=(if bl then 0 else 1)+sumTo j fun k=>if bw k then 0 else 1
variable{p:Ph}{W:Nat→Prop}{j:Nat}{tag:MTag}{x0:Pos}{bl:Bool}{wt:Nat→WT}{bw:Nat→Bool}{xs ls:Nat→Pos}{O D:Nat→Nat→Prop}{gs:Array Goroutine}{w w':World}{sl:Option (Nat×Nat)}{t:Trace}
theorem awk_sleep{i:Nat}(hi:i < j)(hb:bw i=false):awk j bl (upd bw i true) < awk j bl bw:=by
 have e:=sumTo_upd bw true (fun b=>if b=true then 0 else 1) hi
 unfold awk
 rw [hb] at e
 simp only [if_true,Bool.false_eq_true,if_false,Nat.add_zero] at e
 omega
theorem MCo.acc(m:Wd)(h:p.MCo W j tag x0 bl wt bw xs ls O D gs w t):∀k,k < p.n0+j→Acc (p.rz m k) (mkv p.n0 tag x0 wt xs ls k):=by
 intro k hk
 rcases Nat.eq_zero_or_pos k with rfl|hpos
 ·have e:p.rz m 0=InvImage (Ord (rkM p.n) p.MSeat p.MNx) (fun z:Zp=>(z.1.1,z.2)):=by funext z' z;unfold rz;rw [if_pos rfl];rfl
  rw [e]
  exact InvImage.accessible _ (ord_acc p.mseat_acc _ tag x0 rfl h.seat)
 ·by_cases hlt:k < p.n0
  ·have e:p.rz m k=InvImage (NxQ p.P) (fun z:Zp=>z.2):=by funext z' z;unfold rz;rw [if_neg (by omega),if_pos hlt];rfl
   rw [e]
   refine InvImage.accessible _ ?_
   unfold mkv
   rw [if_neg (by omega),if_pos hlt]
   obtain ⟨_,⟨q,hq⟩,_⟩:=h.lv k hpos hlt
   exact quits_acc q _ hq
  ·have e:p.rz m k=InvImage (Ord (rkW m) (p.WSeat (k - p.n0)) (p.WNx (k - p.n0))) (fun z:Zp=>(z.1.2,z.2)):=by funext z' z;unfold rz;rw [if_neg (by omega),if_neg hlt];rfl
   rw [e]
   refine InvImage.accessible _ ?_
   unfold mkv
   rw [if_neg (by omega),if_neg hlt]
   exact ord_acc (p.wseat_acc (k - p.n0)) _ _ _ rfl (h.wk (k - p.n0) (by omega)).2.1
def Some(p:Ph)(W:Nat→Prop)(j:Nat)(m:Machine)(t:Trace):Prop:=∃tag x0 bl wt bw xs ls O D gs w sl,m=crowd gs w sl∧p.MCo W j tag x0 bl wt bw xs ls O D gs w t
def Sm(p:Ph)(W:Nat→Prop)(j:Nat)(F:Nat)(m:Machine)(t:Trace):Prop:=∃tag x0 bl wt bw xs ls O D gs w sl mw q,m=crowd gs w sl∧MuAt p.tM p.Mu w mw q∧mw.Bits∧Phi j (fun k=>lkOf (wt k)) q=F∧p.MCo W j tag x0 bl wt bw xs ls O D gs w t
theorem leads0{FinP:Machine→Outcome→World→Trace→Prop}(hB:p.n≤p.B)(hV:∀k v,p.V v→p.V (p.f k v))(hn:p.n < 2147483647){F:Nat}{mw:Wd}{q:Nat}(hq:MuAt p.tM p.Mu w mw q)(hb:mw.Bits)(hF:Phi j (fun k=>lkOf (wt k)) q=F)(h:p.MCo W j tag x0 bl wt bw xs ls O D gs w t) :
  Leads p.P FinP (fun m t=>p.After W m t∨p.Some W (j+1) m t∨∃F',F' < F∧p.Sm W j F' m t) (crowd gs w sl) t:=by
 refine Leads.of_acc (r:=Prod.Lex (Vec (p.rz mw) (p.n0+j)) (· < ·)) (J:=fun a m t=>∃tag x0 bl wt bw xs ls O D gs w sl q,a=(mkv p.n0 tag x0 wt xs ls,awk j bl bw)∧m=crowd gs w sl∧MuAt p.tM p.Mu w mw q∧Phi j (fun k=>lkOf (wt k)) q=F∧p.MCo W j tag x0 bl wt bw xs ls O D gs w t) ?_
  (a:=(mkv p.n0 tag x0 wt xs ls,awk j bl bw)) (Prod.lexAccessible (acc_vec _ _ _ (h.acc mw)) (fun b=>Nat.lt_wfRel.wf.apply b) _) ⟨tag,x0,bl,wt,bw,xs,ls,O,D,gs,w,sl,q,rfl,rfl,hq,hF,h⟩
 clear leads0 h hq hF tag x0 bl wt bw xs ls O D gs w sl t q
 rintro a m t ⟨tag,x0,bl,wt,bw,xs,ls,O,D,gs,w,sl,q,rfl,rfl,hq,hF,h⟩
 obtain ⟨i,g,d,sl',hg,hrun,hstep⟩:=h.pick (sl:=sl)
 rw [hstep]
 have h' :=h.at d
 have hn0:=h.hn0
 right
 right
 rcases Nat.eq_zero_or_pos i with rfl|hpos
 ·have hb:bl=false:=by
   cases hb:bl with
   |false=>rfl
   |true=>
    have:=h.main
    rw [hb,hg] at this
    cases this
    cases hrun
  subst hb
  have key:∃m' ops,runT p.P (crowd gs (w.at d) sl') 0=(.next m',ops)∧p.Went0 W j tag x0 wt bw xs ls (w.at d) t m' ops:=by
   by_cases hw:∃r s,tag = .sp r s
   ·obtain ⟨r,s,rfl⟩:=hw
    exact h'.stepSp hB hn
   ·exact h'.stepWait hn fun r s e=>hw ⟨r,s,e⟩
  obtain ⟨m',ops,h1,h2⟩:=key
  refine ⟨m',ops,h1,?_⟩
  cases h2 with
  | @on gs' w' sl'' tag' x' bw' O' D' e hmu ho hc=>
   refine .inr ⟨(mkv p.n0 tag' x' wt xs ls,awk j false bw'),.left _ _ ⟨0,by omega,?_,fun k hk=>?_⟩,tag',x',false,wt,bw',xs,ls,O',D',gs',w',sl'',q,rfl,e,by unfold MuAt at hq ⊢;rw [hmu];exact hq,hF,hc⟩
   ·unfold rz;rw [if_pos rfl];exact ho
   ·unfold mkv;rw [if_neg hk,if_neg hk]
  | @sleep gs' sl'' O' D' e hc=>exact .inr ⟨(mkv p.n0 tag x0 wt xs ls,awk j true bw),.right _ (by unfold awk;simp),tag,x0,true,wt,bw,xs,ls,O',D',gs',_,sl'',q,rfl,e,hq,hF,hc⟩
  | @more gs' w' sl'' r x' wt' bw' xs' O' D' e hc=>exact .inl (.inr (.inl ⟨.sp r 1,x',false,wt',bw',xs',ls,O',D',gs',w',sl'',e,hc⟩))
  |join hc=>exact .inl (.inl hc)
 ·have hlt:i < p.n0+j:=by rw [←h.size];exact (Array.getElem?_eq_some_iff.1 hg).1
  rcases Nat.lt_or_ge i p.n0 with h1|h1
  ·have hr:(ls i).g.status = .running:=by
    have:=(h.lv i hpos h1).1
    rw [hg] at this
    cases this
    exact hrun
   obtain ⟨gs',bl',bw',x',ops,h2,h3,h4⟩:=h'.stepL (sl:=sl') hpos h1 hr
   refine ⟨_,ops,h2,.inr ⟨(mkv p.n0 tag x0 wt xs (upd ls i x'),awk j bl' bw'),.left _ _ ⟨i,hlt,?_,fun k hk=>?_⟩,tag,x0,bl',wt,bw',xs,upd ls i x',O,D,gs',_,sl',q,rfl,rfl,hq,hF,h4⟩⟩
   ·unfold rz;rw [if_neg (by omega),if_pos h1];unfold mkv;rw [if_neg (by omega),if_pos h1,if_neg (by omega),if_pos h1,upd_same];exact h3
   ·unfold mkv;rw [upd_ne ls _ hk]
  ·obtain ⟨i,rfl⟩:∃i',i=p.n0+i' :=⟨i - p.n0,by omega⟩
   have hi:i < j:=by omega
   have hbi:bw i=false:=by
    cases hb:bw i with
    |false=>rfl
    |true=>
     have:=(h.wk i hi).1
     rw [hb,hg] at this
     cases this
     cases hrun
   have hr:(xs i).g.status = .running:=by
    have:=(h.wk i hi).1
    rw [hbi,hg] at this
    cases this
    exact hrun
   rcases h'.stepW (sl:=sl') hn hV hi hbi hr with ⟨gs',w',bl',bw',s',x',O',h2,h3,⟨m₁,q₁,m₂,q₂,n1,n2,n3,n4,n5⟩,h4⟩|⟨gs',h2,h4⟩
   ·have hq':MuAt p.tM p.Mu (w.at d) mw q:=hq
    obtain ⟨rfl,rfl⟩:=MuAt.inj hq' n1 hb n2
    refine ⟨_,(runT p.P (crowd gs (w.at d) sl') (p.n0+i)).2,Prod.ext h2 rfl,?_⟩
    rcases n5 with n5|⟨rfl,n5,n6⟩
    ·exact .inl (.inr (.inr ⟨_,by rw [←hF];exact n5,tag,x0,bl',_,bw',_,ls,O',D,gs',w',sl',m₂,q₂,rfl,n3,n4,rfl,h4⟩))
    ·refine .inr ⟨(mkv p.n0 tag x0 (upd wt i s') (upd xs i x') ls,awk j bl' bw'),.left _ _ ⟨p.n0+i,hlt,?_,fun k hk=>?_⟩,tag,x0,bl',upd wt i s',bw',upd xs i x',ls,O',D,gs',w',sl',q₂,rfl,rfl,n3,by rw [n5];exact hF,h4⟩
     ·unfold rz;rw [if_neg (by omega),if_neg (by omega)]
      unfold mkv
      rw [if_neg (by omega),if_neg (by omega),if_neg (by omega),if_neg (by omega),Nat.add_sub_cancel_left,upd_same,upd_same]
      exact n6.imp (fun x=>⟨x,h3⟩) (fun x=>x)
     ·unfold mkv
      by_cases e0:k=0
      ·rw [if_pos e0,if_pos e0]
      ·rw [if_neg e0,if_neg e0]
       by_cases e1:k < p.n0
       · rw [if_pos e1,if_pos e1]
       · rw [if_neg e1,if_neg e1,upd_ne wt _ (by omega),upd_ne xs _ (by omega)]
   ·exact ⟨_,(runT p.P (crowd gs (w.at d) sl') (p.n0+i)).2,Prod.ext h2 rfl,.inr ⟨(mkv p.n0 tag x0 wt xs ls,awk j bl (upd bw i true)),.right _ (awk_sleep hi hbi),tag,x0,bl,wt,upd bw i true,xs,ls,O,D,gs',_,sl',q,rfl,rfl,hq,hF,h4⟩⟩
theorem leads1{FinP:Machine→Outcome→World→Trace→Prop}(hB:p.n≤p.B)(hV:∀k v,p.V v→p.V (p.f k v))(hn:p.n < 2147483647):∀(F:Nat) {m:Machine} {t:Trace},p.Sm W j F m t→Leads p.P FinP (fun m t=>p.After W m t∨p.Some W (j+1) m t) m t:=by
 intro F
 induction F using Nat.strongRecOn with
 |_ F ih=>
  rintro m t ⟨tag,x0,bl,wt,bw,xs,ls,O,D,gs,w,sl,mw,q,rfl,hq,hb,hF,h⟩
  refine (leads0 (FinP:=FinP) (sl:=sl) hB hV hn hq hb hF h).bind ?_
  rintro m t (x|x|⟨F',hlt,x⟩)
  ·exact .here (.inl x)
  ·exact .here (.inr x)
  ·exact ih F' hlt x
theorem leads{FinP:Machine→Outcome→World→Trace→Prop}(hB:p.n≤p.B)(hV:∀k v,p.V v→p.V (p.f k v))(hn:p.n < 2147483647):∀(k:Nat) {j:Nat} {m:Machine} {t:Trace},j+k=p.n→p.Some W j m t→Leads p.P FinP (p.After W) m t:=by
 intro k
 induction k with
 |zero=>
  rintro j m t hj ⟨tag,x0,bl,wt,bw,xs,ls,O,D,gs,w,sl,rfl,h⟩
  obtain ⟨mw,q,hq,hmi,_⟩:=h.mi
  refine (leads1 (FinP:=FinP) hB hV hn _ ⟨tag,x0,bl,wt,bw,xs,ls,O,D,gs,w,sl,mw,q,rfl,hq,hmi.bits,rfl,h⟩).mono ?_
  rintro m t (x|⟨tag,x0,bl,wt,bw,xs,ls,O,D,gs,w,sl,rfl,hc⟩)
  ·exact x
  ·have:=hc.left
   cases tag<;>simp only [leftM] at this<;>omega
 |succ k ih=>
  rintro j m t hj ⟨tag,x0,bl,wt,bw,xs,ls,O,D,gs,w,sl,rfl,h⟩
  obtain ⟨mw,q,hq,hmi,_⟩:=h.mi
  refine (leads1 (FinP:=FinP) hB hV hn _ ⟨tag,x0,bl,wt,bw,xs,ls,O,D,gs,w,sl,mw,q,rfl,hq,hmi.bits,rfl,h⟩).bind ?_
  rintro m t (x|x)
  ·exact .here x
  ·exact ih (by omega) x
end Ph
end Go.Mx
