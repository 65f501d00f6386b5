import Derived.Test.YtgfjlblikffnaaaGreatH6
import Derived.Test.YtgfjlblikffnaaaGreatH7
import Derived.Test.YtgfjlblikffnaaaGreatH9
set_option linter.unusedVariables false
set_option linter.unusedSectionVars false
set_option linter.unusedSimpArgs false
namespace Go.Ren
open Go.Conc hiding Goes mem_ofEvents Deaf
open Go.ConcN (upd upd_same upd_ne)
open Go.Conc.Lib (WgLink)
open Go.ConcR (WgAt stA smA rd wr g_of_ofEvents loc_of_ofEvent)
section
variable{P:Program}{W U Z:Nat→Prop}{N:Nat}{d:Nat}{g g' g₂:Goroutine}{w w':World}{x0:Pos}{ls:Nat→Pos}{gs:Array Goroutine}{sl:Option (Nat×Nat)}{m:Machine}{t:Trace}{bJ:Machine→Outcome→World→Trace→Prop}
theorem At.Cj{d₁:Nat}(h:At P W U Z N d g (w.at d₁) m t):At P W U Z N d g w m t:=by
 obtain ⟨ls,gs,w₁,sl,rfl,hal⟩:=h
 exact ⟨ls,gs,w₁,sl,rfl,hal.hN,hal.size,hal.main,rfl,(let ⟨d',e⟩:=hal.same;⟨d',by rw [e];rfl⟩),hal.deaf,hal.lv,hal.ti,hal.own,hal.UB,hal.wu,hal.norel⟩
theorem At.idle{X:Event→Prop}{I:World→Prop}{S:Nat→Goroutine→Prop}(hX:XAl W X)(hI:∀d₁,I (w.at d₁))(h:ag P true I X S d g):∀ {m:Machine} {t:Trace},At P W U Z N d g w m t→aA P bJ (fun m t=>∃d' g',S d' g' ∧ At P W U Z N d' g' w m t) m t:=by
 induction h with
 |stop h=>intro m t hat;exact .here ⟨_,_,h,hat⟩
 | @step d g hs f es h k ih=>
  rintro m t ⟨ls,gs,w₁,sl,rfl,hal⟩
  refine aA.bind (K:=fun m t=>∃w₂,I w₂∧At P W U Z N (deafBehind d (es w₂)) (f w₂) w m t) ?_ ?_
  ·refine hal.turn (J:=fun _=>True) hs trivial (fun _ _ _=>trivial) fun ls gs w₁ sl t h' _=>.inl ?_
   obtain ⟨d₁,hw⟩:=h'.same
   have hw':w₁=w.at d₁:=hw
   subst hw'
   obtain ⟨hgo,hev⟩:=h _ (hI d₁)
   have hG:aO X (full Z w) (fun _=>False) (w.at d₁) (w.at d₁) (es (w.at d₁)):=⟨Nat.le_refl _,fun _ _ _=>rfl,rfl,rfl,rfl,fun e he=>.inl (hev e he)⟩
   obtain ⟨gs',ops,a1,a2⟩:=h'.xO (sl:=sl) hX (x' :=⟨full Z w,fun _=>False,deafBehind d (es (w.at d₁)),f (w.at d₁),w.at d₁⟩) hgo hG rfl (iI _ _).symm rfl rfl
   exact ⟨_,ops,a1,w.at d₁,hI d₁,At.Cj (d₁:=d₁) ⟨ls,gs',_,sl,rfl,a2⟩⟩
  ·rintro m t ⟨w₂,hi,hat⟩
   exact ih w₂ hi hat
theorem At.fresh{o:Obj}(hr:g.status = .running)(hgo:∀d₁,stepG P true g (w.at d₁) = .go g' ((w.at d₁).alloc o) #[])(h:At P W U Z N d g w m t) :
  aA P bJ (At P W (fun b=>U b∨b=w.heap.size) (fun b=>Z b∨b=w.heap.size) N d g' (w.alloc o)) m t:=by
 obtain ⟨ls,gs,w₁,sl,rfl,hal⟩:=h
 refine (hal.fresh (J:=fun w₁=>∃d₁,w₁=w.at d₁) hr hal.same (fun w' d' ⟨d₁,e⟩=>⟨d',by rw [e];rfl⟩) fun w₁ _ ⟨d₁,e⟩=>by rw [e];exact hgo d₁).mono ?_
 rintro m t ⟨w₂,ls,gs,sl,rfl,⟨d₁,rfl⟩,_,hal'⟩
 have hs:(w.alloc o).heap.size=w.heap.size+1:=by simp
 have e:full Z w=full (fun b=>Z b∨b=w.heap.size) (w.alloc o):=by
  funext b
  apply propext
  unfold full
  rw [hs]
  constructor
  ·rintro ⟨h1,h2⟩
   exact ⟨by omega,fun h=>h.elim h2 (by omega)⟩
  ·rintro ⟨h1,h2⟩
   have:b≠w.heap.size:=fun e=>h2 (.inr e)
   exact ⟨by omega,fun h=>h2 (.inl h)⟩
 have h2:=hal'
 dsimp only at h2
 rw [e] at h2
 exact ⟨ls,gs,_,sl,rfl,h2.hN,h2.size,h2.main,rfl,⟨d₁,rfl⟩,h2.deaf,h2.lv,h2.ti,h2.own,h2.UB,h2.wu,h2.norel⟩
def jv(P:Program)(Ch cap n n0:Nat)(Sent:Nat→(Nat→Prop)→(Nat→Prop)→Option Value→World→Prop)(Fin:(Nat→Prop)→(Nat→Prop)→Goroutine→World→Prop)(W U:Nat→Prop)(m:Machine)(t:Trace):Prop:=
 ∃(w:World) (gT:Goroutine) (O D:Nat→Nat→Prop) (order:List Nat) (vals:Nat→Option Value) (s r:Nat) (tm:Bool),At P W (fun _=>False) W (n0+n) 0 gT w m t∧Fin (D 0) (O 0) gT w ∧
  Own (fun b=>W b∨U b) O D (n0+n) w.heap.size∧order.Nodup∧(∀i,i∈order↔i < n)∧w.heap[Ch]? = some (.chan cap (order.filterMap vals).toArray false s r tm)∧∀i∈order,Sent i (O (n0+i)) (D (n0+i)) (vals i) w
theorem At.phase{L:WgLink}{Wg Ch cap n:Nat}{Sent:Nat→(Nat→Prop)→(Nat→Prop)→Option Value→World→Prop}{Fin:(Nat→Prop)→(Nat→Prop)→Goroutine→World→Prop}(hS:dY Sent)(hF:∀D O g w w',Fin D O g w→az O D w w' → Fin D O g w')(hcap:n≤cap)(hn:n < 2147483647)
  (hWg:U Wg) (hCh:U Ch) (hne:Wg≠Ch) (hs:Spawns P L Wg Ch Sent (kV L Wg Ch cap) Fin n n (fun _=>False) (full Z w) g w) (hwg:WgAt L.tWg Wg w 0 0) (hch:∃s r tm,w.heap[Ch]? = some (.chan cap #[] false s r tm)) (h:At P W U Z N 0 g w m t) :
  aA P bJ (jv P Ch cap n N Sent Fin (fun b=>W b∨b=Wg) (fun b=>U b∧b≠Wg)) m t:=by
 obtain ⟨ls,gs,w₁,sl,rfl,hal⟩:=h
 have hN:=hal.hN
 obtain ⟨d₁,hw⟩:=hal.same
 have hw':w₁=w.at d₁:=hw
 subst hw'
 have co:=hal.phase (cap:=cap) hWg hCh hne rfl hs hwg hch
 refine (co.leads hS hF hcap hn n (Nat.zero_add n)).bind ?_
 intro m t haf
 obtain ⟨gs,w,sl,g,gT,ls,O,D,order,vals,s,r,tm,rfl,hal,hid,hfin,hown,hwg,h1,h2,h3,h4⟩:=haf.al hN
 have hat:At P (fun b=>W b∨b=Wg) (fun _=>False) (fun b=>W b∨b=Wg) (N+n) 0 g w (crowd gs w sl) t:=⟨ls,gs,w,sl,rfl,hal⟩
 have hX:XAl (fun b=>W b∨b=Wg) (XM Wg):=by
  refine ⟨fun e he=>?_,fun e he=>xP he⟩
  exact (QM (w:=w) (W:=fun b=>W b∨b=Wg) (.inr rfl) (OZ hwg) he).1
 refine (hat.idle hX (I:=Lv L Wg) (fun d₁=>⟨0,0,hwg⟩) hid).mono ?_
 rintro m t ⟨d',g',⟨rfl,rfl⟩,hat'⟩
 exact ⟨w,_,O,D,order,vals,s,r,tm,hat',hfin,hown,h1,h2,h3,h4⟩
theorem Al.still(h:Al P W U N x0 ls gs w t){ops:Array MemOp}(hg:∀op∈ops,op.g=0)(hn:∀op∈ops,op.act.touch? = none)(hl:∀op∈ops,op.act.low w.heap.size)(hm:∀op∈ops,op.act ≠ .mark .disable∧op.act ≠ .mark .enable)(hr:∀op∈ops,∀a,op.act ≠ .mark (.release a))(hsz:w'.heap.size=w.heap.size) :
  Al P W U N ⟨x0.O,fun _=>False,x0.d,g',w'⟩ ls (gs.setIfInBounds 0 g') w' (t ++ ops):=by
 have hN:=h.hN
 have hs:=h.size
 refine ⟨h.hN,by simpa using hs,Array.getElem?_setIfInBounds_self_of_lt (by omega),rfl,⟨w'.drawn,rfl⟩,by rw [Go.ConcN.Deaf_still t 0 _ hm];exact h.deaf,fun k h1 h2=>?_,?_,by rw [hsz];exact h.own,h.UB.app fun op hop x hx=>(by rw [hn op hop] at hx;cases hx),h.wu,qM h.norel hr⟩
 ·obtain ⟨a1,a2,a3,a4⟩:=h.lv k h1 h2
  exact ⟨by rw [Array.getElem?_setIfInBounds_ne (by omega)];exact a1,a2,by rw [Go.ConcN.Deaf_still t _ _ hm];exact a3,a4.appNot fun op hop e=>by rw [hg op hop] at e;omega⟩
 ·rw [hsz]
  have key:∀(l:List MemOp) (t:Trace),TI W (rD x0.O) kC N w.heap.size t→(∀op∈l,op.g=0∧op.act.touch? = none∧op.act.low w.heap.size)→TI W (rD x0.O) kC N w.heap.size (t ++ l.toArray):=by
   intro l
   induction l with
   |nil=>intro t ht _;simpa using ht
   |cons z l ih=>
    intro t ht hz
    obtain ⟨z1,z2,z3⟩:=hz z (by simp)
    have:=ih (t ++ #[z]) (ht.still (by rw [z1];omega) z2 z3) fun op hop=>hz op (by simp [hop])
    have e:t ++ (z :: l).toArray=t ++ #[z] ++ l.toArray:=by apply Array.ext';simp
    rw [e]
    exact this
  have:=key ops.toList t h.ti fun op hop=>⟨hg op (by simpa using hop),hn op (by simpa using hop),hl op (by simpa using hop)⟩
  simpa using this
theorem Al.partners(h:Al P W U N x0 ls gs w t)(c:Nat)(b:Bool):partners (gs.setIfInBounds 0 ph) c b=[]:=by
 refine partners_nil fun k g hk=>?_
 rcases getElem?_stand _ _ _ _ hk with ⟨_,rfl⟩|⟨hne,hk⟩
 ·exact offersAt_ph _ _
 ·have hlt:k < N:=by rw [←h.size];exact (Array.getElem?_eq_some_iff.1 hk).1
  obtain ⟨h2,⟨q,h3⟩,_⟩:=h.lv k (by omega) hlt
  rw [h2] at hk
  cases hk
  exact offersAt_of_not_blocked (by rcases h3.status with e|e<;>rw [e]<;>simp) _ _
section
variable{c cap s r:Nat}{buf:Array Value}{closed tm bl:Bool}{shape:CommShape}{z:Value}
theorem At.QN(hr:g.status = .running)(hst:∀d₁,stepG P true g (w.at d₁) = .comm g₂ #[rcase c z] bl shape (w.at d₁) #[])(hc:w.heap[c]? = some (.chan cap buf closed s r tm))(hsome:0 < buf.size)(h:At P W U Z N d g w m t) :
  aA P bJ (At P W U Z N d (g₂.finishComm P #[rcase c z] shape 0 (buf.getD 0 undef) true) (w.setChan c cap (buf.extract 1 buf.size) closed s (r+1) tm)) m t:=by
 obtain ⟨ls,gs,w₁,sl,rfl,hal⟩:=h
 refine hal.turn (J:=fun _=>True) hr trivial (fun _ _ _=>trivial) fun ls gs w₁ sl t h' _=>.inl ?_
 obtain ⟨d₁,hw⟩:=h'.same
 have hw':w₁=w.at d₁:=hw
 subst hw'
 have hlt:c < w.heap.size:=(Array.getElem?_eq_some_iff.1 hc).1
 have hrun:=crowd_recv_buf (sl:=sl) (i:=0) h'.main (hst d₁) hc hsome (h'.partners c true)
 have hev:MemOp.ofEvents 0 g.frame.fn g.frame.place #[] = #[]:=rfl
 rw [hev,Array.empty_append] at hrun
 refine ⟨_,_,hrun,At.Cj (d₁:=d₁) ⟨ls,_,_,sl,rfl,?_⟩⟩
 have hsz:((w.at d₁).setChan c cap (buf.extract 1 buf.size) closed s (r+1) tm).heap.size=(w.at d₁).heap.size:=by simp [World.setChan]
 have:=h'.still (w' :=(w.at d₁).setChan c cap (buf.extract 1 buf.size) closed s (r+1) tm) (g' :=g₂.finishComm P #[rcase c z] shape 0 (buf.getD 0 undef) true)
  (ops:=#[{ g:=0,fn:=g₂.frame.fn,pos:=g₂.frame.place,act:=.recv c r cap },{ g:=0,fn:=g₂.frame.fn,pos:=g₂.frame.place,act:=.recvDone c r }])
  (by intro op hop;simp only [List.mem_toArray,List.mem_cons,List.not_mem_nil,or_false] at hop;rcases hop with rfl|rfl<;>rfl)
  (by intro op hop;simp only [List.mem_toArray,List.mem_cons,List.not_mem_nil,or_false] at hop;rcases hop with rfl|rfl<;>rfl)
  (by intro op hop;simp only [List.mem_toArray,List.mem_cons,List.not_mem_nil,or_false] at hop;rcases hop with rfl|rfl<;>exact hlt)
  (by intro op hop;simp only [List.mem_toArray,List.mem_cons,List.not_mem_nil,or_false] at hop;rcases hop with rfl|rfl<;>simp)
  (by intro op hop a;simp only [List.mem_toArray,List.mem_cons,List.not_mem_nil,or_false] at hop;rcases hop with rfl|rfl<;>simp) hsz
 have e:full Z w=full Z ((w.at d₁).setChan c cap (buf.extract 1 buf.size) closed s (r+1) tm):=by
  funext b;unfold full;rw [hsz];rfl
 dsimp only at this
 rw [e] at this
 exact this
theorem At.Ik(hr:g.status = .running)(hst:∀d₁,stepG P true g (w.at d₁) = .comm g₂ #[rcase c z] bl shape (w.at d₁) #[])(hc:w.heap[c]? = some (.chan cap #[] true s r tm))(h:At P W U Z N d g w m t) :
  aA P bJ (At P W U Z N d (g₂.finishComm P #[rcase c z] shape 0 z false) w) m t:=by
 obtain ⟨ls,gs,w₁,sl,rfl,hal⟩:=h
 refine hal.turn (J:=fun _=>True) hr trivial (fun _ _ _=>trivial) fun ls gs w₁ sl t h' _=>.inl ?_
 obtain ⟨d₁,hw⟩:=h'.same
 have hw':w₁=w.at d₁:=hw
 subst hw'
 have hlt:c < w.heap.size:=(Array.getElem?_eq_some_iff.1 hc).1
 have hrun:=crowd_recv_closed (sl:=sl) (i:=0) h'.main (hst d₁) hc (h'.partners c true)
 have hev:MemOp.ofEvents 0 g.frame.fn g.frame.place #[] = #[]:=rfl
 rw [hev,Array.empty_append] at hrun
 refine ⟨_,_,hrun,At.Cj (d₁:=d₁) ⟨ls,_,_,sl,rfl,?_⟩⟩
 exact h'.still (w' :=w.at d₁) (g' :=g₂.finishComm P #[rcase c z] shape 0 z false) (ops:=#[{ g:=0,fn:=g₂.frame.fn,pos:=g₂.frame.place,act:=.recvClosed c }])
  (by intro op hop;simp only [List.mem_toArray,List.mem_cons,List.not_mem_nil,or_false] at hop;subst hop;rfl)
  (by intro op hop;simp only [List.mem_toArray,List.mem_cons,List.not_mem_nil,or_false] at hop;subst hop;rfl)
  (by intro op hop;simp only [List.mem_toArray,List.mem_cons,List.not_mem_nil,or_false] at hop;subst hop;exact hlt)
  (by intro op hop;simp only [List.mem_toArray,List.mem_cons,List.not_mem_nil,or_false] at hop;subst hop;simp)
  (by intro op hop a;simp only [List.mem_toArray,List.mem_cons,List.not_mem_nil,or_false] at hop;subst hop;simp) rfl
end
end
end Go.Ren
namespace Go.Ren
open Go.Conc hiding mem_ofEvents Deaf
section
variable{P:Program}{W U Z Z':Nat→Prop}{N:Nat}{d:Nat}{bJ:Machine→Outcome→World→Trace→Prop}
def Keep(Z:Nat→Prop)(w w':World):Prop:=(∀b,Z b→w'.heap[b]? = w.heap[b]?)∧w.heap.size≤w'.heap.size∧Tm w.os w'.os∧w'.output=w.output
theorem Keep.refl{w:World}:Keep Z w w:=⟨fun _ _=>rfl,Nat.le_refl _,.rfl,rfl⟩
theorem Keep.trans{w w' w'':World}(h:Keep Z w w')(k:Keep Z w' w''):Keep Z w w'' :=⟨fun b hb=>(k.1 b hb).trans (h.1 b hb),Nat.le_trans h.2.1 k.2.1,h.2.2.1.trans k.2.2.1,k.2.2.2.trans h.2.2.2⟩
theorem Keep.mono{w w':World}(h:Keep Z w w')(hZ:∀b,Z' b→Z b):Keep Z' w w' :=⟨fun b hb=>h.1 b (hZ b hb),h.2⟩
theorem Keep.lt{w w':World}(h:Keep Z w w')(hZ:∀b,Z b→b < w.heap.size):∀b,Z b→b < w'.heap.size:=fun b hb=>Nat.lt_of_lt_of_le (hZ b hb) h.2.1
theorem At.wk2{S:(Nat→Prop)→Goroutine→World→Prop}{O:Nat→Prop}{g:Goroutine}{w:World}(hk:Wk P true (fun _=>True) X0 (fun _=>False) S O g w)(hZ:∀b,Z b→b < w.heap.size) :
  O=full Z w→∀ {m:Machine} {t:Trace},At P W U Z N d g w m t→aA P bJ (fun m t=>∃g' w',At P W U Z N d g' w' m t∧S (full Z w') g' w' ∧ Keep Z w w') m t:=by
 induction hk with
 |stop h=>intro hO m t hat;exact .here ⟨_,_,hat,hO ▸ h,.refl⟩
 | @step O g w hs f u es h k ih=>
  rintro rfl m t ⟨ls,gs,w₁,sl,rfl,hal⟩
  have rel:∀d₁,az (full Z w) (fun _=>False) w (w.at d₁):=fun d₁=>⟨Nat.le_refl _,fun _ _=>rfl,fun _ _=>rfl,.rfl,rfl,rfl⟩
  refine aA.bind (K:=fun m t=>∃d₁,At P W U Z N d (f (w.at d₁)) (u (w.at d₁)) m t∧grow (full Z w) (w.at d₁) (u (w.at d₁))=full Z (u (w.at d₁))∧Keep Z w (u (w.at d₁))) ?_ ?_
  ·refine hal.turn (J:=fun _=>True) hs trivial (fun _ _ _=>trivial) fun ls gs w₁ sl t h' _=>.inl ?_
   obtain ⟨d₁,hw⟩:=h'.same
   have hw':w₁=w.at d₁:=hw
   subst hw'
   obtain ⟨hst,hG⟩:=h (w.at d₁) (rel d₁) trivial
   have hd:deafBehind d (es (w.at d₁))=d:=iD (fun e he=>(hG.ev e he).hearing fun x=>x.elim) d
   have hgr:grow (full Z w) (w.at d₁) (u (w.at d₁))=full Z (u (w.at d₁)):=O1 (w:=w.at d₁) hZ hG.size
   obtain ⟨gs',ops,a1,a2⟩:=h'.xO (sl:=sl) xQ (x' :=⟨full Z (u (w.at d₁)),fun _=>False,d,f (w.at d₁),u (w.at d₁)⟩) hst hG hd.symm hgr.symm rfl rfl
   exact ⟨_,ops,a1,d₁,⟨ls,gs',u (w.at d₁),sl,rfl,a2⟩,hgr,fun b hb=>hG.heap b (hZ b hb) fun x=>x.2 hb,hG.size,.of hG.os,hG.output⟩
  ·rintro m t ⟨d₁,hat',hgr,hkeep⟩
   refine (ih (w.at d₁) (rel d₁) trivial (hkeep.lt hZ) hgr hat').mono ?_
   rintro m t ⟨g',w',k1,k2,k3⟩
   exact ⟨g',w',k1,k2,hkeep.trans k3⟩
theorem At.drop{g:Goroutine}{w:World}{m:Machine}{t:Trace}(hZ:∀b,Z b→Z' b)(h:At P W U Z N d g w m t):At P W U Z' N d g w m t:=by
 obtain ⟨ls,gs,w₁,sl,rfl,hal⟩:=h
 have hf:∀b,full Z' w b→full Z w b:=fun b hb=>⟨hb.1,fun x=>hb.2 (hZ b x)⟩
 have ho:∀i b,rD (full Z' w) i b→rD (full Z w) i b:=fun i b hb=>⟨hb.1,hf b hb.2⟩
 exact ⟨ls,gs,w₁,sl,rfl,hal.hN,hal.size,hal.main,rfl,hal.same,hal.deaf,hal.lv,hal.ti.less ho (fun _ _ x=>.inl x),
  ⟨fun i j b hi hj a c=>hal.own.oo i j b hi hj (ho _ _ a) (ho _ _ c),fun i j b hi hj a=>hal.own.od i j b hi hj (ho _ _ a),fun i b hi a=>hal.own.ow i b hi (ho _ _ a),hal.own.dw,fun i b hi a=>hal.own.Il i b hi (ho _ _ a),hal.own.UC,hal.own.zU⟩,hal.UB,hal.wu,hal.norel⟩
end
end Go.Ren
namespace Go.Am
open Go.Ren (grow fM aO az Wk At full X0 aA Keep)
section
variable{P:Program}{W U Z:Nat→Prop}{N:Nat}{d:Nat}{bJ:Machine→Outcome→World→Trace→Prop}{pl:bz}{Q:Value→AH→Prop}{s:AS}{ρ:Env}{g:Goroutine}{w:World}{b:Frame}{bs:List Frame}{m:Machine}{t:Trace}
theorem JI[aI P]{K:AS→Prop}{base:List Frame}(hZ:∀b,Z b→b < w.heap.size)(k:bn P pl K s)(S:lV P ρ (full Z w) (fun _=>False) base s g w)(h:At P W U Z N d g w m t) :
  aA P bJ (fun m t=>∃(σ:Env) (s':AS) (g':Goroutine) (w':World),K s' ∧ ρ.Le σ∧lV P σ (full Z w') (fun _=>False) base s' g' w' ∧ At P W U Z N d g' w' m t∧Keep Z w w') m t:=by
 refine (At.wk2 (jg (X:=X0) (I:=fun _=>True) (m:=true) k S) hZ rfl h).mono ?_
 rintro m t ⟨g',w',hat,⟨σ,s',k1,k2,k3⟩,hk⟩
 exact ⟨σ,s',g',w',k1,k2,k3,hat,hk⟩
end
end Go.Am
namespace Go.Ren
open Go.Conc hiding mem_ofEvents Deaf
section
variable{P:Program}{W U Z Z':Nat→Prop}{N:Nat}{d:Nat}{bJ:Machine→Outcome→World→Trace→Prop}{g g':Goroutine}{w:World}{m:Machine}{t:Trace}
theorem At.alone(h:At P W U Z N d g w m t):At P W U (fun b=>W b∨U b) N d g w m t:=by
 obtain ⟨ls,gs,w₁,sl,rfl,hal⟩:=h
 obtain ⟨d',e⟩:=hal.same
 have hsz:w₁.heap.size=w.heap.size:=by rw [e];rfl
 have hti:=hal.ti.alone fun k h1 h2=>(hal.lv k (by omega) h2).2.2.2
 refine ⟨ls,gs,w₁,sl,rfl,hal.hN,hal.size,hal.main,rfl,hal.same,hal.deaf,hal.lv,?_,?_,hal.UB,hal.wu,hal.norel⟩
 ·refine hti.less (fun i b hb=>?_) fun i b hb=>.inl hb
  obtain ⟨h1,h2,h3⟩:=hb
  exact ⟨h1,by rw [hsz];exact h2,fun x=>h3 (.inl x)⟩
 ·refine ⟨fun i j b hi hj a c=>a.1.trans c.1.symm,fun i j b hi hj a c=>c.elim,fun i b hi a x=>a.2.2 x,fun i b hi x=>x.elim,fun i b hi a=>by rw [hsz];exact a.2.1,fun i b hi x=>x.elim,hal.own.zU⟩
theorem At.close{c cap s r:Nat}{buf:Array Value}{tm:Bool}(hr:g.status = .running)(hst:∀d₁,stepG P true g (w.at d₁) = .go g' ((w.at d₁).setChan c cap buf true s r tm) #[⟨.obj c,false,true⟩,⟨.obj c,true,true⟩])(hc:w.heap[c]? = some (.chan cap buf false s r tm))(hW:¬W c∧¬U c)(h:At P W U Z N d g w m t) :
  aA P bJ (At P W U (fun b=>W b∨U b) N d g' (w.setChan c cap buf true s r tm)) m t:=by
 obtain ⟨ls,gs,w₁,sl,rfl,hal⟩:=h.alone
 refine hal.turn (J:=fun _=>True) hr trivial (fun _ _ _=>trivial) fun ls gs w₁ sl t h' _=>.inl ?_
 obtain ⟨d₁,hw⟩:=h'.same
 have hw':w₁=w.at d₁:=hw
 subst hw'
 have hlt:c < w.heap.size:=(Array.getElem?_eq_some_iff.1 hc).1
 have hown:full (fun b=>W b∨U b) w c:=⟨hlt,fun x=>x.elim hW.1 hW.2⟩
 have hsz:((w.at d₁).setChan c cap buf true s r tm).heap.size=(w.at d₁).heap.size:=by simp [World.setChan]
 have hG:aO X0 (full (fun b=>W b∨U b) w) (fun _=>False) (w.at d₁) ((w.at d₁).setChan c cap buf true s r tm) #[⟨.obj c,false,true⟩,⟨.obj c,true,true⟩]:=by
  refine ⟨by rw [hsz];exact Nat.le_refl _,fun b hb hn=>?_,rfl,rfl,rfl,fun e he=>.inr ?_⟩
  ·have hne:b≠c:=fun e=>hn (e ▸ hown)
   simp only [World.setChan]
   rw [Array.getElem?_setIfInBounds_ne (Ne.symm hne)]
  ·simp only [List.mem_toArray,List.mem_cons,List.not_mem_nil,or_false] at he
   rcases he with rfl|rfl<;>exact .inl (.inl hown)
 have hgr:grow (full (fun b=>W b∨U b) w) (w.at d₁) ((w.at d₁).setChan c cap buf true s r tm)=full (fun b=>W b∨U b) ((w.at d₁).setChan c cap buf true s r tm):=by
  funext b
  apply propext
  unfold grow full
  rw [hsz]
  exact ⟨fun x=>x.elim id fun y=>absurd y.1 (by have:=y.2;omega),.inl⟩
 obtain ⟨gs',ops,a1,a2⟩:=h'.xO (sl:=sl) xQ (x' :=⟨full (fun b=>W b∨U b) ((w.at d₁).setChan c cap buf true s r tm),fun _=>False,d,g',(w.at d₁).setChan c cap buf true s r tm⟩) (hst d₁) hG (iD (fun e he=>by
  simp only [List.mem_toArray,List.mem_cons,List.not_mem_nil,or_false] at he
  rcases he with rfl|rfl<;>exact ⟨by simp,by simp⟩) d).symm hgr.symm rfl rfl
 exact ⟨_,ops,a1,At.Cj (d₁:=d₁) ⟨ls,gs',_,sl,rfl,a2⟩⟩
end
end Go.Ren
