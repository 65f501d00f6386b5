import Derived.Conc.Beside
import Derived.Test.YtgfjlblikffnaaaGreatH8
set_option linter.unusedVariables false
set_option linter.unusedSectionVars false
set_option linter.unusedSimpArgs false
namespace Go.Ren
open Go.Conc hiding Goes mem_ofEvents
open Go.ConcN (sumTo upd upd_same upd_ne sumTo_congr sumTo_upd le_sumTo RelBy get_map_set get_map_set_same WgLive norel_of Deaf_absent)
open Go.Conc.Lib (WgLink)
open Go.ConcR (KK WgAt stA smA rd wr mk g_of_ofEvents loc_of_ofEvent)
section
variable{P:Program}{L:WgLink}{Wg Ch cap n n0:Nat}{Sent:Nat→(Nat→Prop)→(Nat→Prop)→Option Value→World→Prop}{Fin:(Nat→Prop)→(Nat→Prop)→Goroutine→World→Prop}
 {W U:Nat→Prop} {j:Nat} {tag:ig} {x0:Pos} {bl:Bool} {st:Nat→Nat} {xs ls:Nat→Pos} {O D:Nat→Nat→Prop} {gs:Array Goroutine} {w w':World} {sl:Option (Nat×Nat)} {t:Trace}
theorem Cf(O:Nat→Nat→Prop)(i B:Nat):with_ O i B B=O:=by
 funext k b
 apply propext
 unfold with_
 constructor
 ·rintro (x|⟨_,x,y⟩)
  ·exact x
  ·omega
 ·exact .inl
theorem uN{Wg:Nat}{e:Event}(h:e.mute=true):qI Wg e∧(MemAct.ofEvent e).touch? = none:=by
 obtain ⟨loc,wr,sy⟩:=e
 cases loc with
 |mark m=>cases m<;>first|exact ⟨.inl rfl,rfl⟩|exact ⟨.inr (.inl rfl),rfl⟩|simp [Event.mute] at h
 |_=>simp [Event.mute] at h
theorem Co.Uz(h:(Co P L Wg Ch cap n n0 Sent Fin W U) j tag x0 bl st xs ls O D gs w t){k:Nat}(hk1:1≤k)(hk:k < n0)(hr:(ls k).g.status = .running) :
  ∃gs' lS x' ops,runT P (crowd gs w sl) k=(.next (crowd gs' w sl),ops)∧UG P x' (ls k)∧(Co P L Wg Ch cap n n0 Sent Fin W U) j tag x0 lS st xs (upd ls k x') O D gs' w (t ++ ops):=by
 obtain ⟨hgk,⟨q,hq⟩,hdk,zQ⟩:=h.lv k hk1 hk
 rcases q with _|q
 ·have:=hq.1;rw [hr] at this;cases this
 rcases hq with ⟨h1,_⟩|⟨_,g',es,hmute,hgo,hq'⟩
 ·rw [hr] at h1;cases h1
 have hlt:Wg < w.heap.size:=h.own.zU _ (.inl h.hW.1)
 have hsz:=h.size
 have hpos:k≠0:=by omega
 have hgo':stepG P (k == 0) (ls k).g w = .go g' w es:=by
  have:(k == 0)=false:=by simp;omega
  rw [this];exact hgo w
 have hev:∀e∈es,Jv W k e∧(MemAct.ofEvent e).low w.heap.size:=fun e he=>zO (Wg:=Wg) h.hW.1 hlt (uN (hmute e he)).1
 have hG:lF (Jv W k) W (O k) (D k) w w es:=oC hev
 have hti:=h.ti
 have hown:=h.H9
 rw [←hsz] at hti hown
 obtain ⟨hrun,qH,_⟩:=mZ (sl:=sl) hgk hgo' hti hown hG
 rw [Cf,hsz] at qH
 have hown' :=h.own
 obtain ⟨lS,hw1,hw2,hw3⟩:=Uu (P:=P) (w' :=w) (g:=(ls k).g) (g' :=g') (jb h.seat) (sU h)
 have hops:∀op∈MemOp.ofEvents k (ls k).g.frame.fn (ls k).g.frame.place es,op.g=k:=g_of_ofEvents
 have hnt:∀op∈MemOp.ofEvents k (ls k).g.frame.fn (ls k).g.frame.place es,op.act.touch? = none:=fun op hop=>by
  rw [ofEvents_eq] at hop
  obtain ⟨e,he,rfl⟩:=Array.mem_map.1 hop
  exact (uN (Wg:=Wg) (hmute e he)).2
 refine ⟨_,lS,{ ls k with d:=deafBehind (ls k).d es,g:=g' },_,hrun,⟨hr,w,w,es,hgo w,rfl⟩,h.hn0,by simpa using hsz,?_,fun e=>h.blk (hw2 e),h.seat,h.O0,h.D0,h.rely,?_,fun i hi=>?_,h.wO,fun i h1 h2=>?_,qH,hown',h.hW,fun i hi hs=>?_,ng h.norel (fun e he=>lG (Wg:=Wg) (uN (hmute e he)).1),h.sent,h.md,h.left⟩
 ·rw [get_map_set _ _ _ _ hpos,h.main,Option.map_some,hw1]
 ·rw [Deaf_other t hpos _ hops];exact h.deaf
 ·obtain ⟨h1,h2,h3⟩:=h.wk i hi
  refine ⟨?_,h2,by rw [Deaf_other t (by omega) _ hops];exact h3⟩
  rw [get_map_set _ _ _ _ (by omega),h1,Option.map_some,woken_rf]
  rcases gQ h2 with ⟨x,_⟩|⟨x,_⟩
  ·exact .inl x
  ·exact x
 ·by_cases e:i=k
  ·subst e
   rw [upd_same]
   refine ⟨get_map_set_same _ _ _ (by rw [hsz];omega),⟨q,hq'⟩,by rw [Deaf_own,hdk],zQ.app (fun p hp hg hc=>?_) (fun op hop _ x hx=>?_)⟩
   ·obtain ⟨op,a1,a2⟩:=oK hg
    obtain ⟨x,hx,_⟩:=hc
    rcases getElem?_append_cases a1 with ⟨hl,_⟩|⟨_,hou⟩
    ·omega
    ·have:touchAt (t ++ MemOp.ofEvents i (ls i).g.frame.fn (ls i).g.frame.place es) p=some x:=hx
     rw [touchAt_of a1,hnt op hou] at this
     cases this
   ·rw [hnt op hop] at hx;cases hx
  ·obtain ⟨a1,⟨q',a2⟩,a3,a4⟩:=h.lv i h1 h2
   rw [upd_ne ls _ e]
   refine ⟨?_,⟨q',a2⟩,by rw [Deaf_other t (by omega) _ hops];exact a3,a4.appNot fun op hop e'=>by rw [hops op hop] at e';omega⟩
   rw [get_map_set _ _ _ _ (by omega),a1,Option.map_some,woken_rf a2.status]
 ·obtain ⟨r,hr'⟩:=h.over i hi hs
  exact ⟨r,hr'.appNot fun op hop e'=>by rw [hops op hop] at e';omega⟩
theorem Co.starter(hS:dY Sent)(h:(Co P L Wg Ch cap n n0 Sent Fin W U) j tag x0 false st xs ls O D gs w t){x':Pos}{es:Array Event}{tag':ig}
  (hgo:stepG P true x0.g w = .go x'.g w' es) (hG:lF (Jv W 0) W (O 0) (D 0) w w' es) (hd:x'.d=deafBehind x0.d es) (aU:kQ P L Wg Ch cap n Sent Fin tag' x') (hO:x'.O=grow (O 0) w w') (hD:x'.D=D 0) (hrel:az x'.O x'.D x'.w w')
  (hnr:∀e∈es,∀a,e.loc ≠ .mark (.release a)) (hch:w'.heap[Ch]? = w.heap[Ch]?) (hmd:∃a b,WgAt L.tWg Wg w' a b∧Md j st tag' a b) (hleft:zL n j tag') :
  ∃gs' O' ops,runT P (crowd gs w sl) 0=(.next (crowd gs' w' sl),ops)∧(Co P L Wg Ch cap n n0 Sent Fin W U) j tag' x' false st xs ls O' D gs' w' (t ++ ops):=by
 have hsz:=h.size
 have hn0:=h.hn0
 have hg0:gs[0]? = some x0.g:=by have:=h.main;simpa using this
 have hti:=h.ti
 have hown:=h.H9
 rw [←hsz] at hti hown
 obtain ⟨hrun,qH,_⟩:=mZ (sl:=sl) (i:=0) hg0 (by simpa using hgo) hti hown hG
 rw [hsz] at qH
 have hown' :=h.own.grow (i:=0) (by omega) hG.size
 have lq:∀k,k < n0+j→k≠0→az (O k) (D k) w w' :=fun k hk hne=>hG.rely h.H9 (by omega) hk hne
 have hoth:∀k,k≠0→with_ O 0 w.heap.size w'.heap.size k=O k:=fun k hk=>zI hk _ _
 have hself:with_ O 0 w.heap.size w'.heap.size 0=grow (O 0) w w' :=ru O 0 w w'
 have hops:∀op∈MemOp.ofEvents 0 x0.g.frame.fn x0.g.frame.place es,op.g=0:=g_of_ofEvents
 refine ⟨_,_,_,hrun,h.hn0,by simpa using hsz,?_,fun e=>(by cases e),aU,by rw [hself,hO],hD,hrel,?_,fun i hi=>?_,fun i hi hs=>?_,fun k h1 h2=>?_,qH,hown',h.hW,fun i hi hs=>?_,ng h.norel hnr,?_,hmd,hleft⟩
 ·rw [get_map_set_same _ _ _ (by rw [hsz];omega)];rfl
 ·rw [Deaf_own,h.deaf,hd]
 ·obtain ⟨h1,h2,h3⟩:=h.wk i hi
  refine ⟨?_,h2,by rw [Deaf_other t (by omega) _ hops];exact h3⟩
  rw [get_map_set _ _ _ _ (by omega),h1,Option.map_some,woken_rf]
  rcases gQ h2 with ⟨x,_⟩|⟨x,_⟩
  ·exact .inl x
  ·exact x
 ·obtain ⟨a1,a2,a3⟩:=h.wO i hi hs
  rw [hoth _ (by omega)]
  exact ⟨a1,a2,a3.trans (lq _ (by omega) (by omega))⟩
 ·obtain ⟨a1,⟨q,a2⟩,a3,a4⟩:=h.lv k h1 h2
  refine ⟨?_,⟨q,a2⟩,by rw [Deaf_other t (by omega) _ hops];exact a3,a4.appNot fun op hop e'=>by rw [hops op hop] at e';omega⟩
  rw [get_map_set _ _ _ _ (by omega),a1,Option.map_some,woken_rf a2.status]
 ·obtain ⟨r,hr'⟩:=h.over i hi hs
  exact ⟨r,hr'.appNot fun op hop e'=>by rw [hops op hop] at e';omega⟩
 ·obtain ⟨order,vals,s,r,tm,b1,b2,b3,b4⟩:=h.sent
  refine ⟨order,vals,s,r,tm,b1,b2,by rw [hch];exact b3,fun k hk=>?_⟩
  have:=(b2 k).1 hk
  rw [hoth _ (by omega)]
  exact hS _ _ _ _ _ _ (b4 k hk) (lq _ (by omega) (by omega))
theorem Co.sleeps{gT:Goroutine}(h:(Co P L Wg Ch cap n n0 Sent Fin W U) j tag x0 false st xs ls O D gs w t)(htag:tag = .w3 gT)(h3:M3 P L Wg gT x0.d x0.g)(hex:∃i,i < j∧2≤st i)(hgo:stepG P true x0.g w = .go { x0.g with status:=.blocked } w #[]) :
  ∃gs' ops,runT P (crowd gs w sl) 0=(.next (crowd gs' w sl),ops)∧(Co P L Wg Ch cap n n0 Sent Fin W U) j tag x0 true st xs ls O D gs' w (t ++ ops):=by
 have hsz:=h.size
 have hn0:=h.hn0
 have hg0:gs[0]? = some x0.g:=by have:=h.main;simpa using this
 have hrun:=runT_crowd_go (P:=P) (sl:=sl) (i:=0) hg0 (by simpa using hgo)
 have ew:woken P x0.g { x0.g with status:=.blocked } w=id:=by funext o;simp [woken]
 rw [ew,Array.map_id] at hrun
 have e0:t ++ MemOp.ofEvents 0 x0.g.frame.fn x0.g.frame.place #[]=t:=by simp [MemOp.ofEvents]
 refine ⟨_,_,hrun,?_⟩
 rw [e0]
 refine ⟨h.hn0,by simpa using hsz,?_,fun _=>⟨⟨gT,htag,h3⟩,hex⟩,h.seat,h.O0,h.D0,h.rely,h.deaf,fun i hi=>?_,h.wO,fun k h1 h2=>?_,h.ti,h.own,h.hW,h.over,h.norel,h.sent,h.md,h.left⟩
 ·rw [Array.getElem?_setIfInBounds_self_of_lt (by rw [hsz];omega)];rfl
 ·obtain ⟨a1,a2⟩:=h.wk i hi
  exact ⟨by rw [Array.getElem?_setIfInBounds_ne (by omega)];exact a1,a2⟩
 ·obtain ⟨a1,a2⟩:=h.lv k h1 h2
  exact ⟨by rw [Array.getElem?_setIfInBounds_ne (by omega)];exact a1,a2⟩
theorem Co.spawn{r:Nat}(h:(Co P L Wg Ch cap n n0 Sent Fin W U) j (.sp (r+1) 0) x0 false st xs ls O D gs w t)(hgo:uT P L Wg Ch Sent (kV L Wg Ch cap) (n - (r+1)) (Z7 P L Wg Ch cap n Sent Fin r) x0.D x0.d x0.O x0.g x0.w) :
  ∃gs' x0' st' xs' O' D' ops,runT P (crowd gs w sl) 0=(.next (crowd gs' w sl),ops)∧(Co P L Wg Ch cap n n0 Sent Fin W U) (j+1) (.sp r 1) x0' false st' xs' ls O' D' gs' w (t ++ ops):=by
 have hsz:=h.size
 have hn0:=h.hn0
 have hleft:r+1+j=n:=h.left
 have hg0:gs[0]? = some x0.g:=by have:=h.main;simpa using this
 obtain ⟨hd0,hrn,hall⟩:=hgo
 obtain ⟨g',child,M,H,N,hst,hM,hH,hN,hchild,hnx⟩:=hall w h.rely h.inv
 have hi:n - (r+1)=j:=by omega
 rw [hi] at hchild
 have hrun:=runT_crowd_spawn (P:=P) (sl:=sl) (i:=0) hg0 (by simpa using hst)
 have e0:∀x y:MemOp,((MemOp.ofEvents 0 x0.g.frame.fn x0.g.frame.place #[]).push x).push y = #[x,y]:=fun x y=>by simp [MemOp.ofEvents]
 rw [e0] at hrun
 have hti:=h.ti
 have hown:=h.own
 rw [h.O0] at hM hH
 rw [h.D0] at hN
 have hx:(⟨0,x0.g.frame.fn,x0.g.frame.place,.go gs.size⟩:MemOp).g=0∧(⟨0,x0.g.frame.fn,x0.g.frame.place,.go gs.size⟩:MemOp).act = .go (n0+j):=⟨rfl,by rw [hsz]⟩
 have hy:(⟨gs.size,child.frame.fn,x0.g.frame.place,.start⟩:MemOp).g=n0+j∧(⟨gs.size,child.frame.fn,x0.g.frame.place,.start⟩:MemOp).act = .start:=⟨hsz,rfl⟩
 have qH :=hti.fork (by omega) hx hy (by rw [h.deaf];exact hd0) hM hH hN
 have hown' :=hown.fork (by omega) hM hH hN
 have hm:∀op ∈ #[(⟨0,x0.g.frame.fn,x0.g.frame.place,.go gs.size⟩:MemOp),⟨gs.size,child.frame.fn,x0.g.frame.place,.start⟩],op.act ≠ .mark .disable∧op.act ≠ .mark .enable:=by
  intro op hop
  simp only [List.mem_toArray,List.mem_cons,List.not_mem_nil,or_false] at hop
  rcases hop with rfl|rfl<;>simp
 have adR:∀k,k≠0→k < n0+j→∀op ∈ #[(⟨0,x0.g.frame.fn,x0.g.frame.place,.go gs.size⟩:MemOp),⟨gs.size,child.frame.fn,x0.g.frame.place,.start⟩],op.g≠k:=by
  intro k hk hk2 op hop
  simp only [List.mem_toArray,List.mem_cons,List.not_mem_nil,or_false] at hop
  rcases hop with rfl|rfl
  ·exact fun e=>hk e.symm
  ·show gs.size≠k;omega
 have adS:∀k,k < n0+j→k≠0→((gs.setIfInBounds 0 g').push child)[k]? = gs[k]? :=fun k hk hk0=>by
  rw [Array.getElem?_push_lt (by simp [hsz];omega),←Array.getElem?_eq_getElem,Array.getElem?_setIfInBounds_ne (by omega)]
 have hO:∀k,k≠0→k < n0+j→mX O (n0+j) M H k=O k:=fun k h1 h2=>by
  funext b;unfold mX;rw [if_neg h1,if_neg (by omega)]
 have hD:∀k,k≠0→k < n0+j→mY D (n0+j) M N k=D k:=fun k h1 h2=>by
  funext b;unfold mY;rw [if_neg h1,if_neg (by omega)]
 have hOn:mX O (n0+j) M H (n0+j)=H:=by funext b;unfold mX;rw [if_neg (by omega),if_pos rfl]
 have hDn:mY D (n0+j) M N (n0+j)=N:=by funext b;unfold mY;rw [if_neg (by omega),if_pos rfl]
 have aU:kQ P L Wg Ch cap n Sent Fin (.sp r 1) ⟨fun b=>x0.O b∧¬M b∧¬H b,fun b=>x0.D b∨M b,0,g',w⟩:=by
  rcases r with _|r<;>exact hnx
 have abW:fP P L Wg Ch cap Sent j 8 ⟨H,N,0,child,w⟩:=hchild
 have QI:∀i,i < j→upd st j 8 i=st i:=fun i hi=>upd_ne st _ (by omega)
 have adT:∀i,i < j→upd xs j ⟨H,N,0,child,w⟩ i=xs i:=fun i hi=>upd_ne xs _ (by omega)
 refine ⟨_,⟨fun b=>x0.O b∧¬M b∧¬H b,fun b=>x0.D b∨M b,0,g',w⟩,upd st j 8,upd xs j ⟨H,N,0,child,w⟩,mX O (n0+j) M H,mY D (n0+j) M N,_,hrun,h.hn0,by simp [hsz];omega,?_,fun e=>(by cases e),aU,?_,?_,.refl _,?_,fun i hi=>?_,fun i hi hs=>?_,fun k h1 h2=>?_,by rw [←Nat.add_assoc];exact qH,by rw [←Nat.add_assoc];exact hown',h.hW,fun i hi hs=>?_,qM h.norel ?_,?_,?_,by show r+(j+1)=n;omega⟩
 ·rw [Array.getElem?_push_lt (by simp [hsz];omega)]
  simp
 ·funext b;unfold mX;rw [if_pos rfl,h.O0]
 ·funext b;unfold mY;rw [if_pos rfl,h.D0]
 ·rw [Go.ConcN.Deaf_still t 0 _ hm,h.deaf];exact hd0
 ·rcases Nat.lt_or_ge i j with hlt|hge
  ·obtain ⟨a1,a2,a3⟩:=h.wk i hlt
   rw [QI i hlt,adT i hlt]
   exact ⟨by rw [adS _ (by omega) (by omega)];exact a1,a2,by rw [Go.ConcN.Deaf_still t _ _ hm];exact a3⟩
  ·obtain rfl:i=j:=by omega
   rw [upd_same,upd_same]
   refine ⟨?_,abW,?_⟩
   ·have:n0+i=(gs.setIfInBounds 0 g').size:=by simp [hsz]
    rw [this,Array.getElem?_push_size]
   ·rw [Go.ConcN.Deaf_still t _ _ hm]
    exact Deaf_absent fun p op hp e=>by have:=h.ti.gs p op hp;omega
 ·rcases Nat.lt_or_ge i j with hlt|hge
  ·rw [QI i hlt] at hs
   rw [adT i hlt,hO _ (by omega) (by omega),hD _ (by omega) (by omega)]
   exact h.wO i hlt hs
  ·obtain rfl:i=j:=by omega
   rw [upd_same,hOn,hDn]
   exact ⟨rfl,rfl,.refl _⟩
 ·obtain ⟨a1,a2,a3,a4⟩:=h.lv k h1 h2
  exact ⟨by rw [adS _ (by omega) (by omega)];exact a1,a2,by rw [Go.ConcN.Deaf_still t _ _ hm];exact a3,a4.appNot (adR k (by omega) (by omega))⟩
 ·rcases Nat.lt_or_ge i j with hlt|hge
  ·rw [QI i hlt] at hs
   obtain ⟨r',hr'⟩:=h.over i hlt hs
   exact ⟨r',hr'.appNot (adR _ (by omega) (by omega))⟩
  ·obtain rfl:i=j:=by omega
   rw [upd_same] at hs
   omega
 ·intro op hop a
  simp only [List.mem_toArray,List.mem_cons,List.not_mem_nil,or_false] at hop
  rcases hop with rfl|rfl<;>simp
 ·obtain ⟨order,vals,s,r',tm,b1,b2,b3,b4⟩:=h.sent
  refine ⟨order,vals,s,r',tm,b1,fun i=>?_,b3,fun i hi=>?_⟩
  ·rw [b2]
   rcases Nat.lt_or_ge i j with hlt|hge
   ·rw [QI i hlt]
    exact ⟨fun x=>⟨by omega,x.2⟩,fun x=>⟨hlt,x.2⟩⟩
   ·constructor
    ·intro x;omega
    ·rintro ⟨x,y⟩
     obtain rfl:i=j:=by omega
     rw [upd_same] at y
     omega
  ·have:=(b2 i).1 hi
   rw [hO _ (by omega) (by omega),hD _ (by omega) (by omega)]
   exact b4 i hi
 ·obtain ⟨a,b,m1,m2⟩:=h.md
  cases m2 with
  |opn h1 h2 h3=>
   have hV:Vn (j+1) (upd st j 8)=Vn j st+1:=by
    show sumTo j (fun i=>lQ (upd st j 8 i))+lQ (upd st j 8 j)=_
    rw [upd_same,sumTo_congr (g:=fun i=>lQ (st i)) (fun i hi=>by rw [QI i hi])]
    rfl
   have hp:jM (.sp r 1)=0:=by rcases r with _|r<;>rfl
   have hp1:jM (.sp (r+1) 0)=1:=rfl
   have:=Md.opn (j:=j+1) (st:=upd st j 8) (tag:=.sp r 1) trivial (fun i hi=>by
    rcases Nat.lt_or_ge i j with hlt|hge
    ·rw [QI i hlt];exact h2 i hlt
    ·obtain rfl:i=j:=by omega
     rw [upd_same];exact .inl rfl) trivial
   rw [hV,hp] at this
   rw [hp1] at m1
   exact ⟨_,_,m1,this⟩
  |fin h1 _=>exact h1.elim
end
end Go.Ren
namespace Go.Ren
open Go.Conc hiding Goes mem_ofEvents
open Go.ConcN (sumTo upd upd_same upd_ne sumTo_congr sumTo_upd le_sumTo RelBy get_map_set get_map_set_same WgLive norel_of Deaf_absent)
open Go.Conc.Lib (WgLink)
open Go.ConcR (KK WgAt stA smA rd wr mk g_of_ofEvents loc_of_ofEvent)
section
variable{P:Program}{L:WgLink}{Wg Ch cap n n0:Nat}{Sent:Nat→(Nat→Prop)→(Nat→Prop)→Option Value→World→Prop}{Fin:(Nat→Prop)→(Nat→Prop)→Goroutine→World→Prop}
 {W U:Nat→Prop} {j:Nat} {tag:ig} {x0:Pos} {bl:Bool} {st:Nat→Nat} {xs ls:Nat→Pos} {O D:Nat→Nat→Prop} {gs:Array Goroutine} {w w':World} {sl:Option (Nat×Nat)} {t:Trace}
theorem Co.adU(hS:dY Sent)(h:(Co P L Wg Ch cap n n0 Sent Fin W U) j tag x0 false st xs ls O D gs w t){g':Goroutine}{es:Array Event}{tag':ig}
  (hgo:stepG P true x0.g w = .go g' w' es) (hw:w' = w∨∃a v,a.block=Wg∧w' = w.setCell a v) (hes:∀e∈es,qI Wg e∨XM Wg e) (aU:kQ P L Wg Ch cap n Sent Fin tag' { x0 with d:=deafBehind x0.d es,g:=g' })
  (hmd:∃a b,WgAt L.tWg Wg w' a b∧Md j st tag' a b) (hleft:zL n j tag') :
  ∃gs' O' ops,runT P (crowd gs w sl) 0=(.next (crowd gs' w' sl),ops)∧(Co P L Wg Ch cap n n0 Sent Fin W U) j tag' { x0 with d:=deafBehind x0.d es,g:=g' } false st xs ls O' D gs' w' (t ++ ops):=by
 have hlt:Wg < w.heap.size:=h.own.zU _ (.inl h.hW.1)
 have hn0:=h.hn0
 have hev:∀e∈es,Jv W 0 e∧(MemAct.ofEvent e).low w.heap.size:=fun e he=>(hes e he).elim (zO h.hW.1 hlt) (QM h.hW.1 hlt)
 have hG:lF (Jv W 0) W (O 0) (D 0) w w' es:=by
  rcases hw with rfl|⟨a,v,ha,rfl⟩
  ·exact oC hev
  ·exact zK (by rw [ha];exact h.hW.1) hev
 have hsz:w'.heap.size=w.heap.size:=by
  rcases hw with rfl|⟨a,v,_,rfl⟩
  ·rfl
  ·simp
 have hoth:∀b,b≠Wg→w'.heap[b]? = w.heap[b]? :=fun b hb=>by
  rcases hw with rfl|⟨a,v,ha,rfl⟩
  ·rfl
  ·exact rQ (by rw [ha];exact hb)
 have hrel:az (O 0) (D 0) w w' :=⟨hG.size,fun b hb=>hoth b fun e=>h.H9.ow 0 b (by omega) hb (e ▸ h.hW.1),fun b hb=>hoth b fun e=>h.H9.dw 0 b (by omega) hb (e ▸ h.hW.1),hG.os,hG.output,hG.tape⟩
 refine h.starter hS (x' :={ x0 with d:=deafBehind x0.d es,g:=g' }) hgo hG rfl aU ?_ h.D0 ?_ (fun e he a=>(hes e he).elim (fun x=>lG x a) (fun x=>xP x a)) (hoth Ch (Ne.symm h.hW.2.2)) hmd hleft
 ·show x0.O=_;rw [OU hsz];exact h.O0
 ·exact h.rely.trans (by rw [h.O0,h.D0];exact hrel)
def After(P:Program)(L:WgLink)(Wg Ch cap n n0:Nat)(Sent:Nat→(Nat→Prop)→(Nat→Prop)→Option Value→World→Prop)(Fin:(Nat→Prop)→(Nat→Prop)→Goroutine→World→Prop)(W U:Nat→Prop)(m:Machine)(t:Trace):Prop:=
 ∃(gs:Array Goroutine) (w:World) (sl:Option (Nat×Nat)) (g gT:Goroutine) (ls:Nat→Pos) (O D:Nat→Nat→Prop) (order:List Nat) (vals:Nat→Option Value) (s r:Nat) (tm:Bool),
  m=crowd gs w sl∧gs.size=n0+n∧gs[0]? = some g∧ag P true (Lv L Wg) (XM Wg) (fun d g=>d=0∧g=gT) 0 g∧Fin (D 0) (O 0) gT w∧Go.Conc.Deaf t 0=0 ∧
  (∀k,1≤k→k < n0+n→gs[k]? = some (ls k).g∧(∃q,QuitsD P q (ls k).d (ls k).g)∧Go.Conc.Deaf t k=(ls k).d∧Gone W t k) ∧
  TI W (Ls W w.heap.size) kC (n0+n) w.heap.size t∧Own (fun b=>W b∨U b) O D (n0+n) w.heap.size∧WgAt L.tWg Wg w 0 0∧(∀a,NoRelease a t) ∧
  order.Nodup∧(∀i,i∈order↔i < n)∧w.heap[Ch]? = some (.chan cap (order.filterMap vals).toArray false s r tm)∧∀i∈order,Sent i (O (n0+i)) (D (n0+i)) (vals i) w
theorem Co.acquire{gT:Goroutine}(hF:∀D O g w w',Fin D O g w→az O D w w' → Fin D O g w')(h:(Co P L Wg Ch cap n n0 Sent Fin W U) j (.acq gT) x0 false st xs ls O D gs w t)(hx:QE P L Wg gT x0.d x0.g) :
  ∃m' ops,runT P (crowd gs w sl) 0=(.next m',ops)∧After P L Wg Ch cap n n0 Sent Fin W U m' (t ++ ops):=by
 have hsz:=h.size
 have hn0:=h.hn0
 have hj:j=n:=h.left
 subst hj
 have hg0:gs[0]? = some x0.g:=by have:=h.main;simpa using this
 obtain ⟨hd0,hst,g',hgo,hid⟩:=hx
 have hinv:=h.inv
 obtain ⟨a,b,m1,m2⟩:=h.md
 have hall:Zh j st∧a=0∧b=0:=by
  cases m2 with
  |opn h1=>exact h1.elim
  |fin _ h2=>exact ⟨h2,rfl,rfl⟩
 obtain ⟨hq,rfl,rfl⟩:=hall
 have hrun:=runT_crowd_go (P:=P) (sl:=sl) (i:=0) hg0 (by simpa using hgo w hinv.1)
 have e1:MemOp.ofEvents 0 x0.g.frame.fn x0.g.frame.place #[Go.ConcR.mk (.acquire (stA Wg))] = #[(⟨0,x0.g.frame.fn,x0.g.frame.place,.mark (.acquire (stA Wg))⟩:MemOp)]:=by rw [ofEvents_eq];simp [Go.ConcR.ofEvent_mk]
 rw [e1] at hrun
 have hz:(⟨0,x0.g.frame.fn,x0.g.frame.place,.mark (.acquire (stA Wg))⟩:MemOp).g=0∧(⟨0,x0.g.frame.fn,x0.g.frame.place,.mark (.acquire (stA Wg))⟩:MemOp).act = .mark (.acquire (stA Wg)):=⟨rfl,rfl⟩
 have hdf:Go.Conc.Deaf t 0=0:=by rw [h.deaf];exact hd0
 have hm:∀op ∈ #[(⟨0,x0.g.frame.fn,x0.g.frame.place,.mark (.acquire (stA Wg))⟩:MemOp)],op.act ≠ .mark .disable∧op.act ≠ .mark .enable:=by
  intro op hop
  simp only [List.mem_toArray,List.mem_cons,List.not_mem_nil,or_false] at hop
  subst hop
  simp
 have zQ:∀k,k≠0→k < n0+j→Gone W (t ++ #[(⟨0,x0.g.frame.fn,x0.g.frame.place,.mark (.acquire (stA Wg))⟩:MemOp)]) k:=by
  intro k hk hk2
  rcases Nat.lt_or_ge k n0 with h1|h1
  ·obtain ⟨_,_,_,a4⟩:=h.lv k (by omega) h1
   refine a4.appNot fun op hop=>?_
   simp only [List.mem_toArray,List.mem_cons,List.not_mem_nil,or_false] at hop
   subst hop
   exact fun e=>hk e.symm
  ·obtain ⟨i,rfl⟩:∃i,k=n0+i:=⟨k - n0,by omega⟩
   obtain ⟨r,hr⟩:=h.over i (by omega) (by rw [hq i (by omega)];omega)
   exact hr.gone hz hk (h.norel _) hdf
 have hti:TI W (Ls W w.heap.size) kC (n0+j) w.heap.size (t ++ #[(⟨0,x0.g.frame.fn,x0.g.frame.place,.mark (.acquire (stA Wg))⟩:MemOp)]):=
  (h.ti.still (z:=⟨0,x0.g.frame.fn,x0.g.frame.place,.mark (.acquire (stA Wg))⟩) (by show 0 < n0+j;omega) rfl (h.own.zU _ (.inl h.hW.1))).alone zQ
 obtain ⟨order,vals,s,r,tm,b1,b2,b3,b4⟩:=h.sent
 have hfin:=h.seat.1 w h.rely
 rw [h.O0,h.D0] at hfin
 refine ⟨_,_,hrun,_,w,sl,g',gT,fun k=>if k < n0 then ls k else xs (k - n0),O,D,order,vals,s,r,tm,rfl,by simpa using hsz,get_map_set_same _ _ _ (by rw [hsz];omega),hid,hfin,by rw [Go.ConcN.Deaf_still t 0 _ hm];exact hdf,fun k h1 h2=>?_,hti,h.own,m1,qM h.norel ?_,b1,fun i=>?_,b3,b4⟩
 ·rw [Go.ConcN.Deaf_still t _ _ hm]
  rcases Nat.lt_or_ge k n0 with h3|h3
  ·dsimp only
   rw [if_pos h3]
   obtain ⟨a1,⟨q,a2⟩,a3,_⟩:=h.lv k h1 h3
   exact ⟨by rw [get_map_set _ _ _ _ (by omega),a1,Option.map_some,woken_rf a2.status],⟨q,a2⟩,a3,zQ k (by omega) h2⟩
  ·dsimp only
   rw [if_neg (by omega)]
   obtain ⟨i,rfl⟩:∃i,k=n0+i:=⟨k - n0,by omega⟩
   rw [Nat.add_sub_cancel_left]
   obtain ⟨a1,a2,a3⟩:=h.wk i (by omega)
   rw [hq i (by omega)] at a2
   obtain ⟨q,a2⟩:=a2
   exact ⟨by rw [get_map_set _ _ _ _ (by omega),a1,Option.map_some,woken_rf a2.status],⟨q,a2⟩,a3,zQ _ (by omega) h2⟩
 ·intro op hop a
  simp only [List.mem_toArray,List.mem_cons,List.not_mem_nil,or_false] at hop
  subst hop
  simp
 ·rw [b2]
  exact ⟨fun x=>x.1,fun x=>⟨x,by rw [hq i x];omega⟩⟩
inductive qJ(P:Program)(L:WgLink)(Wg Ch cap n n0:Nat)(Sent:Nat→(Nat→Prop)→(Nat→Prop)→Option Value→World→Prop)(Fin:(Nat→Prop)→(Nat→Prop)→Goroutine→World→Prop)(W U:Nat→Prop)(j:Nat)(tag:ig)(x0:Pos)(st:Nat→Nat)(xs ls:Nat→Pos)(t:Trace)(m':Machine)(ops:Array MemOp):Prop
 |on {gs':Array Goroutine} {w':World} {sl:Option (Nat×Nat)} {tag':ig} {x':Pos} {O' D':Nat→Nat→Prop} (e:m' = crowd gs' w' sl) (ho:Ord (rkM n) (kQ P L Wg Ch cap n Sent Fin) (Z8 P L Wg Ch cap n Sent Fin) (tag',x') (tag,x0)) (h:Co P L Wg Ch cap n n0 Sent Fin W U j tag' x' false st xs ls O' D' gs' w' (t ++ ops)):qJ P L Wg Ch cap n n0 Sent Fin W U j tag x0 st xs ls t m' ops
 |sleep {gs':Array Goroutine} {w':World} {sl:Option (Nat×Nat)} {O' D':Nat→Nat→Prop} (e:m' = crowd gs' w' sl) (h:Co P L Wg Ch cap n n0 Sent Fin W U j tag x0 true st xs ls O' D' gs' w' (t ++ ops)):qJ P L Wg Ch cap n n0 Sent Fin W U j tag x0 st xs ls t m' ops
 |more {gs':Array Goroutine} {w':World} {sl:Option (Nat×Nat)} {r:Nat} {x':Pos} {st':Nat→Nat} {xs':Nat→Pos} {O' D':Nat→Nat→Prop} (e:m' = crowd gs' w' sl) (h:Co P L Wg Ch cap n n0 Sent Fin W U (j+1) (.sp r 1) x' false st' xs' ls O' D' gs' w' (t ++ ops)):qJ P L Wg Ch cap n n0 Sent Fin W U j tag x0 st xs ls t m' ops
 |join (h:After P L Wg Ch cap n n0 Sent Fin W U m' (t ++ ops)):qJ P L Wg Ch cap n n0 Sent Fin W U j tag x0 st xs ls t m' ops
theorem ni{m:Bool}{X:Event→Prop}{S:Nat→Goroutine→Prop}{d:Nat}{g:Goroutine}(h:ag P m (Lv L Wg) X S d g)(hl:Lv L Wg w) :
  S d g∨(¬S d g∧∃g' es,stepG P m g w = .go g' w es∧(∀e∈es,X e)∧ag P m (Lv L Wg) X S (deafBehind d es) g'):=by
 by_cases hS:S d g
 ·exact .inl hS
 ·cases h with
  |stop h=>exact absurd h hS
  |step hs f es h k=>exact .inr ⟨hS,_,_,(h w hl).1,fun e he=>((h w hl).2 e he).1,k w hl⟩
theorem bk_rw:∀e ∈ #[rd (stA Wg),wr (stA Wg)],qI Wg e∨XM Wg e:=by intro e he;simp at he;rcases he with rfl|rfl<;>exact .inl (.inr (.inr (.inr (.inr ⟨_,_,rfl,rfl⟩))))
theorem Zj:∀e ∈ #[rd (stA Wg)],qI Wg e∨XM Wg e:=by intro e he;simp at he;subst he;exact .inl (.inr (.inr (.inr (.inr ⟨_,_,rfl,rfl⟩))))
theorem OW{a b:Addr}(d:Nat):deafBehind d #[rd a,wr b]=d:=iD (by intro e he;simp at he;rcases he with rfl|rfl<;>exact ⟨by simp [rd,wr],by simp [rd,wr]⟩) d
theorem Ie{a:Addr}(d:Nat):deafBehind d #[rd a]=d:=iD (by intro e he;simp at he;subst he;exact ⟨by simp [rd],by simp [rd]⟩) d
theorem Co.JB(hS:dY Sent)(hF:∀D O g w w',Fin D O g w→az O D w w' → Fin D O g w')(hn:n < 2147483647)(h:(Co P L Wg Ch cap n n0 Sent Fin W U) j tag x0 false st xs ls O D gs w t)(hw:∀r s,tag ≠ .sp r s) :
  ∃m' ops,runT P (crowd gs w sl) 0=(.next m',ops)∧qJ P L Wg Ch cap n n0 Sent Fin W U j tag x0 st xs ls t m' ops:=by
 have hinv:=h.inv
 have hl:Lv L Wg w:=hinv.1
 obtain ⟨a,b,m1,m2⟩:=h.md
 have hVj:=Ut j st
 have hjn:j=n:=by
  have:=h.left
  cases tag with
  |sp r s=>exact absurd rfl (hw r s)
  |_=>exact this
 have put:∀ {tag':ig} {g':Goroutine} {w':World} {es:Array Event},stepG P true x0.g w = .go g' w' es→(w' = w∨∃a v,a.block=Wg∧w' = w.setCell a v)→(∀e∈es,qI Wg e∨XM Wg e)→kQ P L Wg Ch cap n Sent Fin tag' { x0 with d:=deafBehind x0.d es,g:=g' } →
   (∃a b,WgAt L.tWg Wg w' a b∧Md j st tag' a b)→(zL n j tag') →
   (rkM n tag' < rkM n tag∨(tag' = tag∧Z8 P L Wg Ch cap n Sent Fin tag { x0 with d:=deafBehind x0.d es,g:=g' } x0)) →
   ∃m' ops,runT P (crowd gs w sl) 0=(.next m',ops)∧qJ P L Wg Ch cap n n0 Sent Fin W U j tag x0 st xs ls t m' ops:=by
  intro tag' g' w' es hgo hw' hes aU hmd hleft hord
  obtain ⟨gs',O',ops,h1,h2⟩:=h.adU (sl:=sl) hS hgo hw' hes aU hmd hleft
  exact ⟨_,ops,h1,.on rfl (hord.imp (fun x=>⟨x,aU⟩) (fun x=>x)) h2⟩
 have idle:∀ {S:Nat→Goroutine→Prop},Z8 P L Wg Ch cap n Sent Fin tag=QD P true (Lv L Wg) S→(∀d g,ag P true (Lv L Wg) (XM Wg) S d g→kQ P L Wg Ch cap n Sent Fin tag { x0 with d:=d,g:=g })→¬S x0.d x0.g →
   (∃g' es,stepG P true x0.g w = .go g' w es∧(∀e∈es,XM Wg e)∧ag P true (Lv L Wg) (XM Wg) S (deafBehind x0.d es) g') →
   ∃m' ops,runT P (crowd gs w sl) 0=(.next m',ops)∧qJ P L Wg Ch cap n n0 Sent Fin W U j tag x0 st xs ls t m' ops:=by
  rintro S hN aU hnS ⟨g',es,hgo,hes,hid⟩
  refine put (tag' :=tag) hgo (.inl rfl) (fun e he=>.inr (hes e he)) (aU _ _ hid) ⟨a,b,m1,m2⟩ h.left (.inr ⟨rfl,?_⟩)
  rw [hN]
  exact ⟨hnS,w,w,es,hl,hgo,rfl⟩
 have aU:=h.seat
 cases tag with
 |sp r s=>exact absurd rfl (hw r s)
 |w1 v gT A=>
  obtain ⟨hA,hFn,hid⟩:=aU
  rcases ni hid hl with hx|⟨hnS,hx⟩
  ·obtain ⟨hd1,_,hall⟩:=hx
   cases m2 with
   |opn h1 h2 h3=>
    have e0:jM (.w1 v gT A)=0:=rfl
    rw [e0,Nat.add_zero] at m1
    obtain ⟨g',hgo,hz,hnz⟩:=hall (Vn j st) (by omega)
    have hgo' :=hgo w hl m1
    rcases Nat.eq_zero_or_pos (Vn j st) with hz0|hpos
    ·have hq:=h2.H8 hz0
     refine put (tag' :=.acq gT) hgo' (.inl rfl) Zj ⟨hFn,by rw [Ie,hd1];exact hz hz0⟩ ⟨0,0,by rw [hz0] at m1;simpa using m1,.fin trivial hq⟩ hjn (.inl (by show 1 < 8 * v+6;omega))
    ·refine put (tag' :=.w2 (Vn j st) gT A) hgo' (.inl rfl) Zj ⟨hA,hFn,by rw [Ie,hd1];exact hnz (by omega)⟩ ⟨_,_,m1,?_⟩ hjn (.inl (by show 8 * Vn j st+4 < 8 * v+6;have:Vn j st≤v:=h3;omega))
     have:=Md.opn (j:=j) (st:=st) (tag:=.w2 (Vn j st) gT A) trivial h2 ⟨Nat.le_refl _,hpos⟩
     simpa [jM] using this
   |fin h1=>exact h1.elim
  ·exact idle rfl (fun d g x=>⟨hA,hFn,x⟩) hnS hx
 |w2 v gT A=>
  obtain ⟨hA,hFn,hid⟩:=aU
  rcases ni hid hl with hx|⟨hnS,hx⟩
  ·obtain ⟨hd1,_,hall⟩:=hx
   cases m2 with
   |opn h1 h2 h3=>
    have e0:jM (.w2 v gT A)=0:=rfl
    rw [e0,Nat.add_zero] at m1
    obtain ⟨h3a,h3b⟩:Vn j st≤v∧1≤v:=h3
    obtain ⟨hhit,hmiss⟩:=hall (Vn j st) (by omega)
    by_cases hv:Vn j st=v
    ·obtain ⟨g',hgo,LC⟩:=hhit hv
     refine put (tag' :=.w3 gT) (hgo w hl m1) (.inr ⟨_,_,rfl,rfl⟩) bk_rw ⟨hFn,by rw [OW,hd1];exact LC⟩ ⟨_,_,m1.setSt _,.reg h2 (by omega)⟩ hjn (.inl (by show 3 < 8 * v+4;omega))
    ·obtain ⟨g',hgo,LC⟩:=hmiss hv
     refine put (tag' :=.w1 (Vn j st) gT A) (hgo w hl m1) (.inl rfl) Zj ⟨hA,hFn,?_⟩ ⟨_,_,m1,?_⟩ hjn (.inl (by show 8 * Vn j st+6 < 8 * v+4;omega))
     ·rw [Ie,hd1]
      refine LC.bind ?_
      rintro d g ⟨rfl,hg⟩
      exact hA g hg
     ·have:=Md.opn (j:=j) (st:=st) (tag:=.w1 (Vn j st) gT A) trivial h2 (Nat.le_refl _)
      simpa [jM] using this
   |fin h1=>exact h1.elim
  ·exact idle rfl (fun d g x=>⟨hA,hFn,x⟩) hnS hx
 |w3 gT=>
  obtain ⟨hFn,hid⟩:=aU
  rcases ni hid hl with hx|⟨hnS,hx⟩
  ·have hx' :=hx
   obtain ⟨hd1,hrn,hoff,hblk,g',hgo,LC⟩:=hx
   have sleeps:(∃i,i < j∧2≤st i)→b=0→∃m' ops,runT P (crowd gs w sl) 0=(.next m',ops)∧qJ P L Wg Ch cap n n0 Sent Fin W U j (.w3 gT) x0 st xs ls t m' ops:=by
    rintro hex rfl
    obtain ⟨gs',ops,h1,h2⟩:=h.sleeps (sl:=sl) rfl hx' hex (hblk w a m1)
    exact ⟨_,ops,h1,.sleep rfl h2⟩
   cases m2 with
   |opn h1=>exact h1.elim
   |reg h2 h3=>
    obtain ⟨i,hi,h5⟩:=sS h3
    exact sleeps ⟨i,hi,by omega⟩ rfl
   |last K h2 h3 h4=>exact sleeps ⟨K,h2,by omega⟩ rfl
   |sema h2=>
    have hsd:deafBehind x0.d (semEvents (smA Wg))=1:=by rw [hd1];simp [semEvents,deafBehind]
    exact put (tag' :=.w4 gT) (hgo w hl m1) (.inr ⟨_,_,rfl,rfl⟩) (fun e he=>.inl (OV e he)) ⟨hFn,by rw [hsd];exact LC⟩ ⟨_,_,m1.setSm 0,.fin trivial h2⟩ hjn (.inl (by show 2 < 3;omega))
   |fin h1=>exact h1.elim
  ·exact idle rfl (fun d g x=>⟨hFn,x⟩) hnS hx
 |w4 gT=>
  obtain ⟨hFn,hid⟩:=aU
  rcases ni hid hl with hx|⟨hnS,hx⟩
  ·obtain ⟨hd1,hrn,g',hgo,LC⟩:=hx
   cases m2 with
   |opn h1=>exact h1.elim
   |fin _ h2=>exact put (tag' :=.acq gT) (hgo w hl m1) (.inl rfl) Zj ⟨hFn,by rw [Ie,hd1];exact LC⟩ ⟨_,_,m1,.fin trivial h2⟩ hjn (.inl (by show 1 < 2;omega))
  ·exact idle rfl (fun d g x=>⟨hFn,x⟩) hnS hx
 |acq gT=>
  rcases ni aU.2 hl with hx|⟨hnS,hx⟩
  ·obtain ⟨m',ops,h1,h2⟩:=h.acquire (sl:=sl) hF hx
   exact ⟨m',ops,h1,.join h2⟩
  ·exact idle rfl (fun d g x=>⟨aU.1,x⟩) hnS hx
end
end Go.Ren
namespace Go.Ren
open Go.Conc hiding Goes mem_ofEvents
open Go.ConcN (sumTo upd upd_same upd_ne sumTo_congr sumTo_upd le_sumTo RelBy get_map_set get_map_set_same WgLive norel_of Deaf_absent)
open Go.Conc.Lib (WgLink)
open Go.ConcR (KK WgAt stA smA rd wr mk g_of_ofEvents loc_of_ofEvent)
section
variable{P:Program}{L:WgLink}{Wg Ch cap n n0:Nat}{Sent:Nat→(Nat→Prop)→(Nat→Prop)→Option Value→World→Prop}{Fin:(Nat→Prop)→(Nat→Prop)→Goroutine→World→Prop}
 {W U:Nat→Prop} {j:Nat} {tag:ig} {x0:Pos} {bl:Bool} {st:Nat→Nat} {xs ls:Nat→Pos} {O D:Nat→Nat→Prop} {gs:Array Goroutine} {w w':World} {sl:Option (Nat×Nat)} {t:Trace}
theorem Co.abX{Stop:(Nat→Prop)→Nat→(Nat→Prop)→Goroutine→World→Prop}(hS:dY Sent)(h:(Co P L Wg Ch cap n n0 Sent Fin W U) j tag x0 false st xs ls O D gs w t)(hid:fH P true (kV L Wg Ch cap) (XM Wg) x0.D (Stop x0.D) x0.d x0.O x0.g x0.w)
  (hN:Z8 P L Wg Ch cap n Sent Fin tag=NxD P true (kV L Wg Ch cap) Stop) (hM:∀x':Pos,x'.D=x0.D→fH P true (kV L Wg Ch cap) (XM Wg) x'.D (Stop x'.D) x'.d x'.O x'.g x'.w→kQ P L Wg Ch cap n Sent Fin tag x') (hns:¬Stop x0.D x0.d x0.O x0.g x0.w) :
  ∃m' ops,runT P (crowd gs w sl) 0=(.next m',ops)∧qJ P L Wg Ch cap n n0 Sent Fin W U j tag x0 st xs ls t m' ops:=by
 have hinv:=h.inv
 have hn0:=h.hn0
 have JC:=h.rely
 have hO:=h.O0
 have hD:=h.D0
 have hmain:=h.main
 generalize hx:x0=y at hid hns JC hO hD hmain
 obtain ⟨OO,DD,dd,gg,ww⟩:=y
 dsimp only at hid hns JC hO hD
 cases hid with
 |stop hs=>exact absurd hs hns
 |step hst f u es hk k=>
  obtain ⟨hgo,hG⟩:=hk w JC hinv
  have hnext:=k w JC hinv
  subst hO hD
  have hlt:Wg < w.heap.size:=h.own.zU _ (.inl h.hW.1)
  have hGw:lF (Jv W 0) W (O 0) (D 0) w (u w) (es w):=hG.wide fun e he=>(QM (w:=w) h.hW.1 hlt he).1
  have hkeep:∀b,W b∨U b→(u w).heap[b]? = w.heap[b]? :=fun b hb=>hG.heap b (h.own.zU b hb) fun hO'=>h.own.ow 0 b (by omega) hO' hb
  have aU:kQ P L Wg Ch cap n Sent Fin tag ⟨grow (O 0) w (u w),D 0,deafBehind dd (es w),f w,u w⟩:=hM ⟨grow (O 0) w (u w),D 0,deafBehind dd (es w),f w,u w⟩ (by rw [hx]) hnext
  obtain ⟨gs',O',ops,h1,h2⟩:=h.starter (sl:=sl) hS (x' :=⟨grow (O 0) w (u w),D 0,deafBehind dd (es w),f w,u w⟩) (es:=es w) (w' :=u w) (tag' :=tag) (by rw [hx];exact hgo) hGw (by rw [hx]) aU rfl rfl (.refl _) (fun e he=>vU (hG.ev e he) fun x=>xP x) (hkeep Ch (.inr h.hW.2.1))
   (by obtain ⟨a,b,m1,m2⟩:=h.md;exact ⟨a,b,by unfold WgAt at m1 ⊢;rw [hkeep Wg (.inl h.hW.1)];exact m1,m2⟩) h.left
  refine ⟨_,ops,h1,.on (x' :=⟨grow (O 0) w (u w),D 0,deafBehind dd (es w),f w,u w⟩) rfl (.inr ⟨rfl,?_⟩) h2⟩
  show Z8 P L Wg Ch cap n Sent Fin tag _ _
  rw [hN]
  exact ⟨rfl,hns,w,es w,JC,hinv,hgo,rfl,rfl⟩
theorem Co.abY{r s:Nat}(hS:dY Sent)(hF:∀D O g w w',Fin D O g w→az O D w w' → Fin D O g w')(hn:n < 2147483647)(h:(Co P L Wg Ch cap n n0 Sent Fin W U) j (.sp r s) x0 false st xs ls O D gs w t) :
  ∃m' ops,runT P (crowd gs w sl) 0=(.next m',ops)∧qJ P L Wg Ch cap n n0 Sent Fin W U j (.sp r s) x0 st xs ls t m' ops:=by
 have hinv:=h.inv
 have hVj:=Ut j st
 have hleft:r+j=n:=h.left
 have aU:=h.seat
 rcases r with _|r
 ·rcases s with _|_|s
  ·exact aU.elim
  ·by_cases hx:iJ P L Wg Fin x0.D x0.d x0.O x0.g x0.w
   ·obtain ⟨gT,A,hA,hid,hFn⟩:=hx
    have h':(Co P L Wg Ch cap n n0 Sent Fin W U) j (.w1 n gT A) x0 false st xs ls O D gs w t:=by
     refine ⟨h.hn0,h.size,h.main,fun e=>(by cases e),⟨hA,hFn,hid⟩,h.O0,h.D0,h.rely,h.deaf,h.wk,h.wO,h.lv,h.ti,h.own,h.hW,h.over,h.norel,h.sent,?_,by show j=n;omega⟩
     obtain ⟨a,b,m1,m2⟩:=h.md
     cases m2 with
     |opn h1 h2 h3=>
      refine ⟨_,_,m1,?_⟩
      have:=Md.opn (j:=j) (st:=st) (tag:=.w1 n gT A) trivial h2 (by show Vn j st≤n;omega)
      simpa [jM] using this
     |fin h1=>exact h1.elim
    obtain ⟨m',ops,h1,h2⟩:=h'.JB (sl:=sl) hS hF hn (fun r s e=>by cases e)
    refine ⟨m',ops,h1,?_⟩
    cases h2 with
    |on e ho hc=>
     refine .on e (.inl ⟨?_,hc.seat⟩) hc
     rcases ho with ⟨x,_⟩|⟨x,_⟩
     ·have x':rkM n _ < 8 * n+6:=x
      show rkM n _ < 8 * n+8+2 * 0+1
      omega
     ·dsimp only at x
      subst x
      show 8 * n+6 < 8 * n+8+2 * 0+1
      omega
    |sleep e hc=>obtain ⟨⟨gT',e',_⟩,_⟩:=hc.blk rfl;cases e'
    |more e hc=>exact .more e hc
    |join hc=>exact .join hc
   ·exact h.abX hS aU rfl (fun x' hx' hk=>hk) hx
  ·exact aU.elim
 ·rcases s with _|_|s
  ·by_cases hx:uT P L Wg Ch Sent (kV L Wg Ch cap) (n - (r+1)) (Z7 P L Wg Ch cap n Sent Fin r) x0.D x0.d x0.O x0.g x0.w
   ·obtain ⟨gs',x0',st',xs',O',D',ops,h1,h2⟩:=h.spawn (sl:=sl) hx
    exact ⟨_,ops,h1,.more rfl h2⟩
   ·exact h.abX hS aU rfl (fun x' hx' hk=>hk) hx
  ·by_cases hx:lH P L Wg Ch Sent (kV L Wg Ch cap) (n - (r+1)) (Z7 P L Wg Ch cap n Sent Fin r) x0.D x0.d x0.O x0.g x0.w
   ·obtain ⟨hd1,hrn,hall⟩:=hx
    obtain ⟨a,b,m1,m2⟩:=h.md
    cases m2 with
    |opn h1 h2 h3=>
     have e0:jM (.sp (r+1) 1)=0:=rfl
     rw [e0,Nat.add_zero] at m1
     obtain ⟨g',hgo,hk⟩:=hall (Vn j st) (by omega)
     have hs':kQ P L Wg Ch cap n Sent Fin (.sp (r+1) 0) { x0 with d:=deafBehind x0.d #[rd (stA Wg),wr (stA Wg)],g:=g' }:=by
      show fH P true (kV L Wg Ch cap) (XM Wg) x0.D (uT P L Wg Ch Sent (kV L Wg Ch cap) (n - (r+1)) (Z7 P L Wg Ch cap n Sent Fin r) x0.D) (deafBehind x0.d #[rd (stA Wg),wr (stA Wg)]) x0.O g' x0.w
      rw [OW,hd1]
      exact hk x0.w (.refl _)
     obtain ⟨gs',O',ops,h1',h2'⟩:=h.adU (sl:=sl) hS (hgo w hinv.1 m1) (.inr ⟨_,_,rfl,rfl⟩) bk_rw hs' ⟨_,_,m1.setSt _,(by
      have:=Md.opn (j:=j) (st:=st) (tag:=.sp (r+1) 0) trivial h2 trivial
      have e1:jM (.sp (r+1) 0)=1:=rfl
      rw [e1] at this
      simpa using this)⟩ hleft
     exact ⟨_,ops,h1',.on rfl (.inl ⟨by show 8 * n+8+2 * (r+1)+0 < 8 * n+8+2 * (r+1)+1;omega,hs'⟩) h2'⟩
    |fin h1=>exact h1.elim
   ·exact h.abX hS aU rfl (fun x' hx' hk=>hk) hx
  ·exact aU.elim
abbrev Zp:=(ig×Nat)×Pos
def rz(P:Program)(L:WgLink)(Wg Ch cap n n0:Nat)(Sent:Nat→(Nat→Prop)→(Nat→Prop)→Option Value→World→Prop)(Fin:(Nat→Prop)→(Nat→Prop)→Goroutine→World→Prop)(k:Nat)(z' z:Zp):Prop:=
 if k=0 then Ord (rkM n) (kQ P L Wg Ch cap n Sent Fin) (Z8 P L Wg Ch cap n Sent Fin) (z'.1.1,z'.2) (z.1.1,z.2)
 else if k < n0 then UG P z'.2 z.2 else Ord id (fP P L Wg Ch cap Sent (k - n0)) (UH P L Wg Ch cap Sent (k - n0)) (z'.1.2,z'.2) (z.1.2,z.2)
def OX(n0:Nat)(tag:ig)(x0:Pos)(st:Nat→Nat)(xs ls:Nat→Pos)(k:Nat):Zp:=
 if k=0 then ((tag,0),x0) else if k < n0 then ((.sp 0 0,0),ls k) else ((.sp 0 0,st (k - n0)),xs (k - n0))
theorem Co.acc(h:(Co P L Wg Ch cap n n0 Sent Fin W U) j tag x0 bl st xs ls O D gs w t):∀k,k < n0+j→Acc (rz P L Wg Ch cap n n0 Sent Fin k) (OX n0 tag x0 st xs ls k):=by
 intro k hk
 rcases Nat.eq_zero_or_pos k with rfl|hpos
 ·have e:rz P L Wg Ch cap n n0 Sent Fin 0=InvImage (Ord (rkM n) (kQ P L Wg Ch cap n Sent Fin) (Z8 P L Wg Ch cap n Sent Fin)) (fun z:Zp=>(z.1.1,z.2)):=by funext z' z;unfold rz;rw [if_pos rfl];rfl
  rw [e]
  exact InvImage.accessible _ (OT (QG P L Wg Ch cap n Sent Fin) _ tag x0 rfl h.seat)
 ·by_cases hlt:k < n0
  ·have e:rz P L Wg Ch cap n n0 Sent Fin k=InvImage (UG P) (fun z:Zp=>z.2):=by funext z' z;unfold rz;rw [if_neg (by omega),if_pos hlt];rfl
   rw [e]
   refine InvImage.accessible _ ?_
   unfold OX
   rw [if_neg (by omega),if_pos hlt]
   obtain ⟨_,⟨q,hq⟩,_⟩:=h.lv k hpos hlt
   exact ry q _ hq
  ·have e:rz P L Wg Ch cap n n0 Sent Fin k=InvImage (Ord id (fP P L Wg Ch cap Sent (k - n0)) (UH P L Wg Ch cap Sent (k - n0))) (fun z:Zp=>(z.1.2,z.2)):=by funext z' z;unfold rz;rw [if_neg (by omega),if_neg hlt];rfl
   rw [e]
   refine InvImage.accessible _ ?_
   unfold OX
   rw [if_neg (by omega),if_neg hlt]
   exact OT (QH P L Wg Ch cap Sent (k - n0)) _ _ _ rfl (h.wk (k - n0) (by omega)).2.1
def rB(b' b:Bool):Prop:=b' = true∧b=false
theorem abZ(b:Bool):Acc rB b:=by
 have ht:Acc rB true:=.intro _ fun b' h=>by cases h.2
 cases b with
 |true=>exact ht
 |false=>exact .intro _ fun b' h=>by rw [h.1];exact ht
theorem Co.LD{bJ:Machine→Outcome→World→Trace→Prop}(hS:dY Sent)(hF:∀D O g w w',Fin D O g w→az O D w w' → Fin D O g w')(hcap:n≤cap)(hn:n < 2147483647)(h:(Co P L Wg Ch cap n n0 Sent Fin W U) j tag x0 bl st xs ls O D gs w t) :
  aA P bJ (fun m t=>After P L Wg Ch cap n n0 Sent Fin W U m t∨∃tag x0 bl st xs ls O D gs w sl,m=crowd gs w sl∧(Co P L Wg Ch cap n n0 Sent Fin W U) (j+1) tag x0 bl st xs ls O D gs w t) (crowd gs w sl) t:=by
 refine aA.Us (r:=Prod.Lex (Vec (rz P L Wg Ch cap n n0 Sent Fin) (n0+j)) rB) (J:=fun a m t=>∃tag x0 bl st xs ls O D gs w sl,a=(OX n0 tag x0 st xs ls,bl)∧m=crowd gs w sl∧(Co P L Wg Ch cap n n0 Sent Fin W U) j tag x0 bl st xs ls O D gs w t) ?_
  (a:=(OX n0 tag x0 st xs ls,bl)) (Prod.lexAccessible (H6 _ _ _ h.acc) abZ bl) ⟨tag,x0,bl,st,xs,ls,O,D,gs,w,sl,rfl,rfl,h⟩
 clear LD h tag x0 bl st xs ls O D gs w sl t
 rintro a m t ⟨tag,x0,bl,st,xs,ls,O,D,gs,w,sl,rfl,rfl,h⟩
 obtain ⟨i,g,d,sl',hg,hrun,hstep⟩:=h.pick (sl:=sl)
 rw [hstep]
 have h' :=h.at hS d
 have hn0:=h.hn0
 right
 right
 rcases Nat.eq_zero_or_pos i with rfl|hpos
 ·have hb:bl=false:=by
   cases hb:bl with
   |false=>rfl
   |true=>
    have:=h.main
    rw [hb,hg] at this
    cases this
    cases hrun
  subst hb
  have key:∃m' ops,runT P (crowd gs (w.at d) sl') 0=(.next m',ops)∧qJ P L Wg Ch cap n n0 Sent Fin W U j tag x0 st xs ls t m' ops:=by
   by_cases hw:∃r s,tag = .sp r s
   ·obtain ⟨r,s,rfl⟩:=hw
    exact h'.abY hS hF hn
   ·exact h'.JB hS hF hn fun r s e=>hw ⟨r,s,e⟩
  obtain ⟨m',ops,h1,h2⟩:=key
  refine ⟨m',ops,h1,?_⟩
  cases h2 with
  | @on gs' w' sl'' tag' x' O' D' e ho hc=>
   refine .inr ⟨(OX n0 tag' x' st xs ls,false),.left _ _ ⟨0,by omega,?_,fun k hk=>?_⟩,tag',x',false,st,xs,ls,O',D',gs',w',sl'',rfl,e,hc⟩
   ·unfold rz;rw [if_pos rfl];exact ho
   ·unfold OX;rw [if_neg hk,if_neg hk]
  | @sleep gs' w' sl'' O' D' e hc=>exact .inr ⟨(OX n0 tag x0 st xs ls,true),.right _ ⟨rfl,rfl⟩,tag,x0,true,st,xs,ls,O',D',gs',w',sl'',rfl,e,hc⟩
  | @more gs' w' sl'' r x' st' xs' O' D' e hc=>exact .inl (.inr ⟨.sp r 1,x',false,st',xs',ls,O',D',gs',w',sl'',e,hc⟩)
  |join hc=>exact .inl (.inl hc)
 ·have hlt:i < n0+j:=by rw [←h.size];exact (Array.getElem?_eq_some_iff.1 hg).1
  rcases Nat.lt_or_ge i n0 with h1|h1
  ·have hr:(ls i).g.status = .running:=by
    have:=(h.lv i hpos h1).1
    rw [hg] at this
    cases this
    exact hrun
   obtain ⟨gs',lS,x',ops,h2,h3,h4⟩:=h'.Uz (sl:=sl') hpos h1 hr
   refine ⟨_,ops,h2,.inr ⟨(OX n0 tag x0 st xs (upd ls i x'),lS),.left _ _ ⟨i,hlt,?_,fun k hk=>?_⟩,tag,x0,lS,st,xs,upd ls i x',O,D,gs',_,sl',rfl,rfl,h4⟩⟩
   ·unfold rz;rw [if_neg (by omega),if_pos h1];unfold OX;rw [if_neg (by omega),if_pos h1,if_neg (by omega),if_pos h1,upd_same];exact h3
   ·unfold OX;rw [upd_ne ls _ hk]
  ·obtain ⟨i,rfl⟩:∃i',i=n0+i' :=⟨i - n0,by omega⟩
   have hi:i < j:=by omega
   have hr:(xs i).g.status = .running:=by
    have:=(h.wk i hi).1
    rw [hg] at this
    cases this
    exact hrun
   obtain ⟨gs',w',lS,s',x',O',h2,h3,h4⟩:=h'.stepW (sl:=sl') hS hcap hn hi hr
   refine ⟨_,(runT P (crowd gs (w.at d) sl') (n0+i)).2,Prod.ext h2 rfl,.inr ⟨(OX n0 tag x0 (upd st i s') (upd xs i x') ls,lS),.left _ _ ⟨n0+i,hlt,?_,fun k hk=>?_⟩,tag,x0,lS,upd st i s',upd xs i x',ls,O',D,gs',w',sl',rfl,rfl,h4⟩⟩
   ·unfold rz;rw [if_neg (by omega),if_neg (by omega)]
    unfold OX
    rw [if_neg (by omega),if_neg (by omega),if_neg (by omega),if_neg (by omega),Nat.add_sub_cancel_left,upd_same,upd_same]
    exact h3
   ·unfold OX
    by_cases e0:k=0
    ·rw [if_pos e0,if_pos e0]
    ·rw [if_neg e0,if_neg e0]
     by_cases e1:k < n0
     ·rw [if_pos e1,if_pos e1]
     ·rw [if_neg e1,if_neg e1,upd_ne st _ (by omega),upd_ne xs _ (by omega)]
theorem Co.leads{bJ:Machine→Outcome→World→Trace→Prop}(hS:dY Sent)(hF:∀D O g w w',Fin D O g w→az O D w w' → Fin D O g w')(hcap:n≤cap)(hn:n < 2147483647) :
  ∀(k:Nat) {j:Nat} {tag:ig} {x0:Pos} {bl:Bool} {st:Nat→Nat} {xs ls:Nat→Pos} {O D:Nat→Nat→Prop} {gs:Array Goroutine} {w:World} {sl:Option (Nat×Nat)} {t:Trace},j+k=n →
   (Co P L Wg Ch cap n n0 Sent Fin W U) j tag x0 bl st xs ls O D gs w t→aA P bJ (After P L Wg Ch cap n n0 Sent Fin W U) (crowd gs w sl) t:=by
 intro k
 induction k with
 |zero=>
  intro j tag x0 bl st xs ls O D gs w sl t hj h
  refine (h.LD hS hF hcap hn).mono ?_
  rintro m t (x|⟨tag,x0,bl,st,xs,ls,O,D,gs,w,sl,rfl,hc⟩)
  ·exact x
  ·have:=hc.left
   cases tag<;>simp only [zL] at this<;>omega
 |succ k ih=>
  intro j tag x0 bl st xs ls O D gs w sl t hj h
  refine (h.LD hS hF hcap hn).bind ?_
  rintro m t (x|⟨tag,x0,bl,st,xs,ls,O,D,gs,w,sl,rfl,hc⟩)
  ·exact .here x
  ·exact ih (by omega) hc
end
end Go.Ren
namespace Go.Ren
open Go.Conc hiding Goes mem_ofEvents
open Go.ConcN (sumTo upd upd_same upd_ne get_map_set get_map_set_same WgLive Deaf_absent)
open Go.Conc.Lib (WgLink)
open Go.ConcR (KK WgAt stA smA rd wr g_of_ofEvents loc_of_ofEvent)
def Unt(U:Nat→Prop)(t:Trace):Prop:=∀i x,touchAt t i=some x→¬inB U x.loc
theorem Unt.app{U:Nat→Prop}{t u:Trace}(h:Unt U t)(hu:∀op∈u,∀x,op.act.touch? = some x→¬inB U x.loc):Unt U (t ++ u):=by
 intro i x hx
 obtain ⟨op,h1,h2⟩:=touch_of hx
 rcases getElem?_append_cases h1 with ⟨hl,h1'⟩|⟨_,hou⟩
 ·exact h i x (by rw [touchAt_of h1'];exact h2)
 ·exact hu op hou x h2
def rD(O:Nat→Prop)(k b:Nat):Prop:=k=0∧O b
structure Al(P:Program)(W U:Nat→Prop)(N:Nat)(x0:Pos)(ls:Nat→Pos)(gs:Array Goroutine)(w:World)(t:Trace):Prop where
 hN:1≤N
 size:gs.size=N
 main:gs[0]? = some x0.g
 D0:x0.D=fun _=>False
 same:∃d,w=x0.w.at d
 deaf:Go.Conc.Deaf t 0=x0.d
 lv:∀k,1≤k→k < N→gs[k]? = some (ls k).g∧(∃q,QuitsD P q (ls k).d (ls k).g)∧Go.Conc.Deaf t k=(ls k).d∧Gone W t k
 ti:TI W (rD x0.O) kC N w.heap.size t
 own:Own (fun b=>W b∨U b) (rD x0.O) kC N w.heap.size
 UB:Unt U t
 wu:∀b,W b→¬U b
 norel:∀a,NoRelease a t
section
variable{P:Program}{W U:Nat→Prop}{N:Nat}{x0 x':Pos}{ls:Nat→Pos}{gs:Array Goroutine}{w w':World}{sl:Option (Nat×Nat)}{t:Trace}{bJ:Machine→Outcome→World→Trace→Prop}{K:Machine→Trace→Prop}
theorem Al.rely(h:Al P W U N x0 ls gs w t):az x0.O (fun _=>False) x0.w w:=by
 obtain ⟨d,rfl⟩:=h.same
 exact .draw _ d
theorem Al.at(h:Al P W U N x0 ls gs w t)(d:Nat):Al P W U N x0 ls gs (w.at d) t:=
 ⟨h.hN,h.size,h.main,h.D0,(let ⟨d',e⟩:=h.same;⟨d,by rw [e];rfl⟩),h.deaf,h.lv,h.ti,h.own,h.UB,h.wu,h.norel⟩
theorem Al.awake(h:Al P W U N x0 ls gs w t)(hr:x0.g.status = .running):∀g∈gs,awake g:=by
 intro g hg
 obtain ⟨k,hk⟩:=Array.mem_iff_getElem?.1 hg
 intro tm
 rcases Nat.eq_zero_or_pos k with rfl|hpos
 ·rw [h.main] at hk
  cases hk
  rw [hr];simp
 ·obtain ⟨h1,⟨q,h2⟩,_⟩:=h.lv k hpos (by rw [←h.size];exact (Array.getElem?_eq_some_iff.1 hk).1)
  rw [h1] at hk
  cases hk
  rcases h2.status with e|e<;>rw [e]<;>simp
theorem Al.pick(h:Al P W U N x0 ls gs w t)(hr:x0.g.status = .running):∃(i:Nat) (g:Goroutine) (d:Nat) (sl':Option (Nat×Nat)),gs[i]? = some g∧g.status = .running∧stepT P (crowd gs w sl)=runT P (crowd gs (w.at d) sl') i:=
 crowd_pick (h.awake hr) ⟨0,_,h.main,hr⟩
theorem Al.Uz(h:Al P W U N x0 ls gs w t)(hr0:x0.g.status = .running){k:Nat}(hk1:1≤k)(hk:k < N)(hr:(ls k).g.status = .running) :
  ∃gs' x' ops,runT P (crowd gs w sl) k=(.next (crowd gs' w sl),ops)∧UG P x' (ls k)∧Al P W U N x0 (upd ls k x') gs' w (t ++ ops):=by
 obtain ⟨hgk,⟨q,hq⟩,hdk,zQ⟩:=h.lv k hk1 hk
 rcases q with _|q
 ·have:=hq.1;rw [hr] at this;cases this
 rcases hq with ⟨h1,_⟩|⟨_,g',es,hmute,hgo,hq'⟩
 ·rw [hr] at h1;cases h1
 have hsz:=h.size
 have hpos:k≠0:=by omega
 have hgo':stepG P (k == 0) (ls k).g w = .go g' w es:=by
  have:(k == 0)=false:=by simp;omega
  rw [this];exact hgo w
 have hops:∀op∈MemOp.ofEvents k (ls k).g.frame.fn (ls k).g.frame.place es,op.g=k:=g_of_ofEvents
 have hnt:∀op∈MemOp.ofEvents k (ls k).g.frame.fn (ls k).g.frame.place es,op.act.touch? = none:=fun op hop=>by
  rw [ofEvents_eq] at hop
  obtain ⟨e,he,rfl⟩:=Array.mem_map.1 hop
  exact (uN (Wg:=0) (hmute e he)).2
 have hG:lF (Jv W k) W (rD x0.O k) (kC k) w w es:=oC fun e he=>by
  have hm:=hmute e he
  obtain ⟨loc,wr,sy⟩:=e
  cases loc with
  |mark m=>cases m<;>first|exact ⟨fun x hx=>by simp [MemAct.ofEvent,MemAct.touch?] at hx,trivial⟩|simp [Event.mute] at hm
  |_=>simp [Event.mute] at hm
 have hti:=h.ti
 have hown:=h.own.less (W:=W) fun b x=>.inl x
 rw [←hsz] at hti hown
 obtain ⟨hrun,qH,_⟩:=mZ (sl:=sl) hgk hgo' hti hown hG
 rw [Cf,hsz] at qH
 refine ⟨_,{ ls k with d:=deafBehind (ls k).d es,g:=g' },_,hrun,⟨hr,w,w,es,hgo w,rfl⟩,h.hN,by simpa using hsz,?_,h.D0,h.same,?_,fun i h1 h2=>?_,qH,h.own,h.UB.app fun op hop x hx=>(by rw [hnt op hop] at hx;cases hx),h.wu,ng h.norel (fun e he=>lG (Wg:=0) (uN (hmute e he)).1)⟩
 ·rw [get_map_set _ _ _ _ hpos,h.main,Option.map_some,woken_running hr0]
 ·rw [Deaf_other t hpos _ hops];exact h.deaf
 ·by_cases e:i=k
  ·subst e
   rw [upd_same]
   refine ⟨get_map_set_same _ _ _ (by rw [hsz];omega),⟨q,hq'⟩,by rw [Deaf_own,hdk],zQ.app (fun p hp hg hc=>?_) (fun op hop _ x hx=>?_)⟩
   ·obtain ⟨op,a1,a2⟩:=oK hg
    obtain ⟨x,hx,_⟩:=hc
    rcases getElem?_append_cases a1 with ⟨hl,_⟩|⟨_,hou⟩
    ·omega
    ·have:touchAt (t ++ MemOp.ofEvents i (ls i).g.frame.fn (ls i).g.frame.place es) p=some x:=hx
     rw [touchAt_of a1,hnt op hou] at this
     cases this
   ·rw [hnt op hop] at hx;cases hx
  ·obtain ⟨a1,⟨q',a2⟩,a3,a4⟩:=h.lv i h1 h2
   rw [upd_ne ls _ e]
   refine ⟨?_,⟨q',a2⟩,by rw [Deaf_other t (by omega) _ hops];exact a3,a4.appNot fun op hop e'=>by rw [hops op hop] at e';omega⟩
   rw [get_map_set _ _ _ _ (by omega),a1,Option.map_some,woken_rf a2.status]
theorem Al.turn{J:World→Prop}(h:Al P W U N x0 ls gs w t)(hr0:x0.g.status = .running)(hJ:J w)(hJd:∀w d,J w→J (w.at d))
  (hk:∀ls gs w sl t,Al P W U N x0 ls gs w t→J w→(∃m' ops,runT P (crowd gs w sl) 0=(.next m',ops)∧K m' (t ++ ops))∨(∃o w' ops,runT P (crowd gs w sl) 0=(.ended o w',ops)∧∀m,m.gs=gs→m.rest.timers = #[]→bJ m o w' (t ++ ops))):aA P bJ K (crowd gs w sl) t:=by
 have hacc:∀k,k < N→Acc (fun x' x:Pos=>k≠0∧UG P x' x) (ls k):=by
  intro k hkN
  rcases Nat.eq_zero_or_pos k with rfl|hpos
  ·exact .intro _ fun y hy=>absurd rfl hy.1
  ·obtain ⟨_,⟨q,hq⟩,_⟩:=h.lv k hpos hkN
   have:=ry (P:=P) q (ls k) hq
   have e:(fun x' x:Pos=>k≠0∧UG P x' x)=UG P:=by
    funext a b;apply propext;exact ⟨fun x=>x.2,fun x=>⟨by omega,x⟩⟩
   rw [e]
   exact this
 refine aA.Us (r:=Vec (fun k x' x=>k≠0∧UG P x' x) N) (J:=fun ls m t=>∃gs w sl,m=crowd gs w sl∧Al P W U N x0 ls gs w t∧J w) ?_ (H6 _ N ls hacc) ⟨gs,w,sl,rfl,h,hJ⟩
 clear turn h hJ hacc ls gs w sl t
 rintro ls m t ⟨gs,w,sl,rfl,h,hJ⟩
 obtain ⟨i,g,d,sl',hg,hrun,hstep⟩:=h.pick (sl:=sl) hr0
 rw [hstep]
 have h' :=h.at d
 right
 rcases Nat.eq_zero_or_pos i with rfl|hpos
 ·rcases hk ls gs (w.at d) sl' t h' (hJd w d hJ) with ⟨m',ops,h1,h2⟩|⟨o,w',ops,h1,h2⟩
  ·exact .inr ⟨m',ops,h1,.inl h2⟩
  ·exact .inl ⟨o,w',ops,h1,h2 _ rfl rfl⟩
 ·have hlt:i < N:=by rw [←h.size];exact (Array.getElem?_eq_some_iff.1 hg).1
  have hr:(ls i).g.status = .running:=by
   have:=(h.lv i hpos hlt).1
   rw [hg] at this
   cases this
   exact hrun
  obtain ⟨gs',x',ops,h2,h3,h4⟩:=h'.Uz (sl:=sl') hr0 hpos hlt hr
  exact .inr ⟨_,ops,h2,.inr ⟨upd ls i x',⟨i,hlt,by rw [upd_same];exact ⟨by omega,h3⟩,fun k hk=>upd_ne ls x' hk⟩,gs',_,sl',rfl,h4,hJd w d hJ⟩⟩
structure XAl(W:Nat→Prop)(X:Event→Prop):Prop where
 ok:∀e,X e→Jv W 0 e
 nr:∀e,X e→∀a,e.loc ≠ .mark (.release a)
theorem Al.xO{X:Event→Prop}(hX:XAl W X)(h:Al P W U N x0 ls gs w t){es:Array Event}(hgo:stepG P true x0.g w = .go x'.g w' es)(hG:aO X x0.O (fun _=>False) w w' es)(hd:x'.d=deafBehind x0.d es)(hO:x'.O=grow x0.O w w')(hD:x'.D=fun _=>False)(hw:x'.w=w') :
  ∃gs' ops,runT P (crowd gs w sl) 0=(.next (crowd gs' w' sl),ops)∧Al P W U N x' ls gs' w' (t ++ ops):=by
 have hsz:=h.size
 have hN:=h.hN
 have Zc:rD x0.O 0=x0.O:=by funext b;apply propext;exact ⟨fun x=>x.2,fun x=>⟨rfl,x⟩⟩
 have hdd:kC 0=fun _=>False:=rfl
 have hGw:lF (Jv W 0) W (rD x0.O 0) (kC 0) w w' es:=by rw [Zc,hdd];exact hG.wide hX.ok
 have hti:=h.ti
 have hown:=h.own.less (W:=W) fun b x=>.inl x
 rw [←hsz] at hti hown
 obtain ⟨hrun,qH,_⟩:=mZ (sl:=sl) (i:=0) h.main (by simpa using hgo) hti hown hGw
 rw [hsz] at qH
 have hown' :=h.own.grow (i:=0) (by omega) hG.size
 have hwo:with_ (rD x0.O) 0 w.heap.size w'.heap.size=rD x'.O:=by
  funext k b
  apply propext
  unfold with_ rD
  rw [hO]
  unfold grow
  constructor
  ·rintro (⟨a,b⟩|⟨a,b⟩)
   ·exact ⟨a,.inl b⟩
   ·exact ⟨a,.inr b⟩
  ·rintro ⟨a,b|b⟩
   ·exact .inl ⟨a,b⟩
   ·exact .inr ⟨a,b⟩
 rw [hwo] at qH hown'
 have hops:∀op∈MemOp.ofEvents 0 x0.g.frame.fn x0.g.frame.place es,op.g=0:=g_of_ofEvents
 refine ⟨_,_,hrun,h.hN,by simpa using hsz,get_map_set_same _ _ _ (by rw [hsz];omega),hD,⟨w'.drawn,by rw [hw];rfl⟩,by rw [Deaf_own,h.deaf,hd],fun k h1 h2=>?_,qH,hown',h.UB.app fun op hop x hx=>?_,h.wu,ng h.norel fun e he=>vU (hG.ev e he) (hX.nr e)⟩
 ·obtain ⟨a1,⟨q,a2⟩,a3,a4⟩:=h.lv k h1 h2
  exact ⟨by rw [get_map_set _ _ _ _ (by omega),a1,Option.map_some,woken_rf a2.status],⟨q,a2⟩,by rw [Deaf_other t (by omega) _ hops];exact a3,a4.appNot fun op hop e'=>by rw [hops op hop] at e';omega⟩
 ·rw [ofEvents_eq] at hop
  obtain ⟨e,he,rfl⟩:=Array.mem_map.1 hop
  have hev:=hG.ev e he
  intro hU
  rcases hev with ⟨h1,_⟩|h1
  ·obtain ⟨b,h2,h3⟩:=jE (hX.ok e h1 x hx).1 hU
   exact h.wu b h2 h3
  ·obtain ⟨loc,wr,sy⟩:=e
   cases loc with
   |cell a=>
    simp only [MemAct.ofEvent,MemAct.touch?,Option.some.injEq] at hx
    subst hx
    have hU':U a.block:=hU
    rcases h1 with h1|⟨h1,_⟩
    ·exact hown'.ow 0 a.block (by omega) ⟨rfl,by rw [hO];exact h1⟩ (.inr hU')
    ·exact h1
   |obj r=>
    have hl:x.loc = .obj r:=by
     cases wr<;>cases sy<;>simp only [MemAct.ofEvent,MemAct.touch?,Option.some.injEq,reduceCtorEq] at hx
     all_goals (subst hx;rfl)
    rw [hl] at hU
    rcases h1 with h1|⟨h1,_⟩
    ·exact hown'.ow 0 r (by omega) ⟨rfl,by rw [hO];exact h1⟩ (.inr hU)
    ·exact h1
   |mark m=>
    have hm:uP m=true:=h1
    cases m<;>first|(simp [MemAct.ofEvent,MemAct.touch?] at hx;done)|cases hm
   |output=>
    simp only [MemAct.ofEvent,MemAct.touch?,Option.some.injEq] at hx
    subst hx
    exact hU
   |_=>exact absurd h1 id
end
end Go.Ren
namespace Go.Ren
open Go.Conc hiding Goes mem_ofEvents
open Go.ConcN (sumTo upd upd_same upd_ne get_map_set get_map_set_same WgLive Deaf_absent)
open Go.Conc.Lib (WgLink)
open Go.ConcR (KK WgAt stA smA rd wr g_of_ofEvents loc_of_ofEvent)
section
variable{P:Program}{W U:Nat→Prop}{N:Nat}{x0 x':Pos}{ls:Nat→Pos}{gs:Array Goroutine}{w w':World}{sl:Option (Nat×Nat)}{t:Trace}{bJ:Machine→Outcome→World→Trace→Prop}{K:Machine→Trace→Prop}
theorem handed(h:∀k,1≤k→k < N→Gone W t k)(hg:∀(i:Nat) (op:MemOp),t[i]? = some op→op.g < N):t.HandedOver:=by
 intro i g hgi hne hc
 obtain ⟨op,h1,h2⟩:=oK hgi
 exact (h g (by omega) (by rw [←h2];exact hg i op h1)).over i hgi hc
theorem Al.ends{Post:Value→World→Prop}{J:World→Prop}{X:Event→Prop}(hX:XAl W X)(h:Al P W U N x0 ls gs w t)(hr0:x0.g.status = .running)(hJ:J w)(hJd:∀w d,J w→J (w.at d))
  (hret:∀w₁,az x0.O (fun _=>False) x0.w w₁→J w₁→∃v w' es,stepG P true x0.g w₁ = .ended (.done v) w' es∧aO X x0.O (fun _=>False) w₁ w' es∧Post v w'):aA P (Good P Post) K (crowd gs w sl) t:=by
 refine h.turn hr0 hJ hJd fun ls gs w sl t h hJ=>.inr ?_
 obtain ⟨v,w',es,hgo,hG,hp⟩:=hret w h.rely hJ
 have hN:=h.hN
 have Zc:rD x0.O 0=x0.O:=by funext b;apply propext;exact ⟨fun x=>x.2,fun x=>⟨rfl,x⟩⟩
 have hown:=h.own.less (W:=W) fun b x=>.inl x
 have hti:=h.ti.step (i:=0) (B' :=w'.heap.size) hown (by omega) hG.size (X:=Jv W 0) (fun e he=>he) (es:=es) (fn:=x0.g.frame.fn) (pos:=x0.g.frame.place) (fun e he=>by
  have:=hG.ev e he
  have e1:(fun b=>with_ (rD x0.O) 0 w.heap.size w'.heap.size 0 b)=grow x0.O w w' :=by rw [ru,Zc]
  rw [e1]
  exact this.imp (fun x=>⟨hX.ok e x.1,x.2⟩) id)
 have hops:∀op∈MemOp.ofEvents 0 x0.g.frame.fn x0.g.frame.place es,op.g=0:=g_of_ofEvents
 refine ⟨_,w',_,runT_many_ended (i:=0) h.main (by simpa using hgo),fun m hm htm=>⟨v,rfl,hp,hti.nr,handed (W:=W) (N:=N) (fun k h1 h2=>?_) hti.gs,⟨fun g hg=>?_,by rw [htm];rfl⟩,fun i g hg hne=>?_⟩⟩
 ·exact (h.lv k h1 h2).2.2.2.appNot fun op hop e'=>by rw [hops op hop] at e';omega
 ·rw [hm] at hg
  obtain ⟨i,hi,rfl⟩:=List.mem_iff_getElem.1 hg
  have hlt:1+i < gs.size:=by simp at hi;omega
  obtain ⟨h1,⟨q,h2⟩,_⟩:=h.lv (1+i) (by omega) (by rw [←h.size];exact hlt)
  have e:(gs.toList.drop 1)[i]=(ls (1+i)).g:=by
   rw [List.getElem_drop]
   have:=(Array.getElem?_eq_some_iff.1 h1).2
   simpa using this
  rw [e]
  exact ⟨q,h2.leaves⟩
 ·rw [hm] at hg
  have hlt:i < N:=by rw [←h.size];exact (Array.getElem?_eq_some_iff.1 hg).1
  obtain ⟨h1,⟨q,h2⟩,h3,_⟩:=h.lv i (by omega) hlt
  rw [hg] at h1
  cases h1
  refine ⟨q,?_⟩
  have e:(t ++ MemOp.ofEvents 0 x0.g.frame.fn x0.g.frame.place es).deaf i (t ++ MemOp.ofEvents 0 x0.g.frame.fn x0.g.frame.place es).size=(ls i).d:=by
   rw [←h3]
   exact Deaf_other t (by omega) _ hops
  rw [e]
  exact h2.hears _
theorem Al.fresh{J:World→Prop}{o:Obj}{g':Goroutine}(h:Al P W U N x0 ls gs w t)(hr0:x0.g.status = .running)(hJ:J w)(hJd:∀w d,J w→J (w.at d))
  (hgo:∀w₁,az x0.O (fun _=>False) x0.w w₁→J w₁→stepG P true x0.g w₁ = .go g' (w₁.alloc o) #[]) :
  aA P bJ (fun m t=>∃w₁ ls gs sl,m=crowd gs (w₁.alloc o) sl∧J w₁∧az x0.O (fun _=>False) x0.w w₁∧Al P W (fun b=>U b∨b=w₁.heap.size) N ⟨x0.O,fun _=>False,x0.d,g',w₁.alloc o⟩ ls gs (w₁.alloc o) t) (crowd gs w sl) t:=by
 refine h.turn hr0 hJ hJd fun ls gs w sl t h hJ=>.inl ?_
 have hgo:=hgo w h.rely hJ
 have hN:=h.hN
 have hsz:=h.size
 have hrun:=runT_crowd_go (P:=P) (sl:=sl) (i:=0) h.main (by simpa using hgo)
 have e0:MemOp.ofEvents 0 x0.g.frame.fn x0.g.frame.place #[] = #[]:=rfl
 rw [e0] at hrun
 have hs:(w.alloc o).heap.size=w.heap.size+1:=by simp
 have hlow:∀b,((fun b=>W b∨U b∨b=w.heap.size) b)→b < w.heap.size+1:=by
  rintro b (hb|hb|rfl)
  ·exact Nat.lt_succ_of_lt (h.own.zU b (.inl hb))
  ·exact Nat.lt_succ_of_lt (h.own.zU b (.inr hb))
  ·omega
 refine ⟨_,_,hrun,w,ls,_,sl,rfl,hJ,h.rely,?_⟩
 rw [Array.append_empty]
 refine ⟨h.hN,by simpa using hsz,get_map_set_same _ _ _ (by rw [hsz];omega),rfl,⟨_,rfl⟩,h.deaf,fun k h1 h2=>?_,?_,?_,?_,?_,h.norel⟩
 ·obtain ⟨a1,⟨q,a2⟩,a3,a4⟩:=h.lv k h1 h2
  exact ⟨by rw [get_map_set _ _ _ _ (by omega),a1,Option.map_some,woken_rf a2.status],⟨q,a2⟩,a3,a4⟩
 ·exact ⟨h.ti.quiet,h.ti.own,h.ti.rd,h.ti.nr,h.ti.gs,fun op hop=>MemAct.low_mono (by rw [hs];omega) (h.ti.low op hop)⟩
 ·refine ⟨h.own.oo,h.own.od,fun i b hi ho hx=>?_,fun _ _ _ x=>x.elim,fun i b hi ho=>?_,fun _ _ _ x=>x.elim,fun b hb=>?_⟩
  ·rcases hx with hx|hx|hx
   ·exact h.own.ow i b hi ho (.inl hx)
   ·exact h.own.ow i b hi ho (.inr hx)
   ·have:=h.own.Il i b hi ho;omega
  ·have:=h.own.Il i b hi ho;rw [hs];omega
  ·rw [hs];exact hlow b hb
 ·intro i x hx hU
  obtain ⟨op,h1,h2⟩:=touch_of hx
  have hl:=h.ti.low op (Array.mem_of_getElem? h1)
  have hxl:x.loc.low w.heap.size:=by
   obtain ⟨g,fn,pos,act⟩:=op
   cases act with
   |access e=>simp only [MemAct.touch?,Option.some.injEq] at h2;subst h2;exact hl
   |mark m=>
    cases m<;>simp only [MemAct.touch?,Option.some.injEq,reduceCtorEq] at h2
    all_goals (subst h2;exact hl)
   |_=>simp [MemAct.touch?] at h2
  revert hU hxl
  have hun:=h.UB i x hx
  revert hun
  cases x.loc with
  |cell a=>
   rintro hun (hU|hU) hxl
   ·exact hun hU
   ·have:a.block < w.heap.size:=hxl;omega
  |obj r=>
   rintro hun (hU|hU) hxl
   ·exact hun hU
   ·have:r < w.heap.size:=hxl;omega
  |_=>intro _ hU _;exact hU
 ·rintro b hb (hU|rfl)
  ·exact h.wu b hb hU
  ·exact absurd (h.own.zU _ (.inl hb)) (Nat.lt_irrefl _)
theorem Al.phase{L:WgLink}{Wg Ch cap n:Nat}{Sent:Nat→(Nat→Prop)→(Nat→Prop)→Option Value→World→Prop}{Fin:(Nat→Prop)→(Nat→Prop)→Goroutine→World→Prop}(h:Al P W U N x0 ls gs w t)
  (hWg:U Wg) (hCh:U Ch) (hne:Wg≠Ch) (hd:x0.d=0) (hs:Spawns P L Wg Ch Sent (kV L Wg Ch cap) Fin n n (fun _=>False) x0.O x0.g x0.w) (hwg:WgAt L.tWg Wg w 0 0) (hch:∃s r tm,w.heap[Ch]? = some (.chan cap #[] false s r tm)) :
  Co P L Wg Ch cap n N Sent Fin (fun b=>W b∨b=Wg) (fun b=>U b∧b≠Wg) 0 (.sp n 1) x0 false (fun _=>8) (fun _=>x0) ls (rD x0.O) kC gs w t:=by
 have Zc:rD x0.O 0=x0.O:=by funext b;apply propext;exact ⟨fun x=>x.2,fun x=>⟨rfl,x⟩⟩
 have aU:kQ P L Wg Ch cap n Sent Fin (.sp n 1) x0:=by
  have hD:=h.D0
  rcases n with _|n
  ·show fH P true (kV L Wg Ch cap) (XM Wg) x0.D _ x0.d x0.O x0.g x0.w
   rw [hD,hd];exact hs
  ·show fH P true (kV L Wg Ch cap) (XM Wg) x0.D _ x0.d x0.O x0.g x0.w
   rw [hD,hd];exact hs
 refine ⟨h.hN,h.size,h.main,fun e=>(by cases e),aU,Zc.symm,h.D0,by rw [h.D0];exact h.rely,h.deaf,fun i hi=>absurd hi (Nat.not_lt_zero _),fun i hi=>absurd hi (Nat.not_lt_zero _),fun k h1 h2=>?_,?_,?_,⟨.inr rfl,⟨hCh,hne.symm⟩,hne⟩,fun i hi=>absurd hi (Nat.not_lt_zero _),h.norel,?_,⟨0,0,hwg,?_⟩,rfl⟩
 ·obtain ⟨a1,a2,a3,a4⟩:=h.lv k h1 h2
  exact ⟨a1,a2,a3,a4.widen fun b hb=>.inl hb⟩
 ·have:=h.ti.share (S:=fun b=>b=Wg) (fun i op x hi hx hS=>by
   have:touchAt t i=some x:=by rw [touchAt_of hi];exact hx
   exact absurd (jF (fun b (hb:b=Wg)=>by rw [hb];exact hWg) hS) (h.UB i x this))
  simpa using this
 ·refine ⟨h.own.oo,h.own.od,fun i b hi ho hx=>h.own.ow i b hi ho ?_,fun _ _ _ x=>x.elim,h.own.Il,fun _ _ _ x=>x.elim,fun b hb=>h.own.zU b ?_⟩
  ·rcases hx with (hx|rfl)|hx
   ·exact .inl hx
   ·exact .inr hWg
   ·exact .inr hx.1
  ·rcases hb with (hx|rfl)|hx
   ·exact .inl hx
   ·exact .inr hWg
   ·exact .inr hx.1
 ·obtain ⟨s,r,tm,hc⟩:=hch
  exact ⟨[],fun _=>undef,s,r,tm,List.nodup_nil,fun i=>by simp,by simpa using hc,fun i hi=>by simp at hi⟩
 ·have:=Md.opn (j:=0) (st:=fun _=>8) (tag:=.sp n 1) trivial (fun i hi=>absurd hi (Nat.not_lt_zero _)) trivial
  have e:Vn 0 (fun _=>8)+jM (.sp n 1)=0:=by rcases n with _|n<;>rfl
  rw [e] at this
  simpa using this
theorem After.al{L:WgLink}{Wg Ch cap n n0:Nat}{Sent:Nat→(Nat→Prop)→(Nat→Prop)→Option Value→World→Prop}{Fin:(Nat→Prop)→(Nat→Prop)→Goroutine→World→Prop}{m:Machine}(hn0:1≤n0)(h:After P L Wg Ch cap n n0 Sent Fin W U m t) :
  ∃(gs:Array Goroutine) (w:World) (sl:Option (Nat×Nat)) (g gT:Goroutine) (ls:Nat→Pos) (O D:Nat→Nat→Prop) (order:List Nat) (vals:Nat→Option Value) (s r:Nat) (tm:Bool),
   m=crowd gs w sl∧Al P W (fun _=>False) (n0+n) ⟨fun b=>b < w.heap.size∧¬W b,fun _=>False,0,g,w⟩ ls gs w t∧ag P true (Lv L Wg) (XM Wg) (fun d g=>d=0∧g=gT) 0 g∧Fin (D 0) (O 0) gT w ∧
   Own (fun b=>W b∨U b) O D (n0+n) w.heap.size∧WgAt L.tWg Wg w 0 0∧order.Nodup∧(∀i,i∈order↔i < n)∧w.heap[Ch]? = some (.chan cap (order.filterMap vals).toArray false s r tm)∧∀i∈order,Sent i (O (n0+i)) (D (n0+i)) (vals i) w:=by
 obtain ⟨gs,w,sl,g,gT,ls,O,D,order,vals,s,r,tm,rfl,h1,h2,h3,h4,h5,h6,h7,h8,h9,h10,h11,h12,h13,h14⟩:=h
 refine ⟨gs,w,sl,g,gT,ls,O,D,order,vals,s,r,tm,rfl,⟨by omega,h1,h2,rfl,⟨w.drawn,rfl⟩,h5,h6,?_,?_,fun i x _ hU=>?_,fun _ _ x=>x,h10⟩,h3,h4,h8,h9,h11,h12,h13,h14⟩
 ·refine h7.less (fun i b hb=>?_) (fun i b hb=>.inl hb)
  exact ⟨hb.1,hb.2.1,hb.2.2⟩
 ·refine ⟨fun i j b _ _ x y=>x.1.trans y.1.symm,fun _ _ _ _ _ _ x=>x,fun i b _ x y=>y.elim x.2.2 id,fun _ _ _ x=>x.elim,fun i b _ x=>x.2.1,fun _ _ _ x=>x.elim,fun b x=>x.elim (fun y=>h8.zU b (.inl y)) False.elim⟩
 ·revert hU
  cases x.loc<;>exact id
end
end Go.Ren
namespace Go.Ren
open Go.Conc hiding mem_ofEvents Deaf
open Go.ConcR (g_of_ofEvents loc_of_ofEvent)
section
variable{P:Program}{W U Z:Nat→Prop}{N:Nat}{d:Nat}{g:Goroutine}{w0 w:World}{ls:Nat→Pos}{gs:Array Goroutine}{sl:Option (Nat×Nat)}{t:Trace}{bJ:Machine→Outcome→World→Trace→Prop}
def full(Z:Nat→Prop)(w:World)(b:Nat):Prop:=b < w.heap.size∧¬Z b
theorem O1{Z:Nat→Prop}{w w':World}(hZ:∀b,Z b→b < w.heap.size)(hs:w.heap.size≤w'.heap.size):grow (full Z w) w w' = full Z w' :=by
 funext b
 apply propext
 unfold grow full
 constructor
 ·rintro (⟨h1,h2⟩|⟨h1,h2⟩)
  ·exact ⟨by omega,h2⟩
  ·exact ⟨h2,fun hz=>by have:=hZ b hz;omega⟩
 ·rintro ⟨h1,h2⟩
  rcases Nat.lt_or_ge b w.heap.size with hlt|hge
  ·exact .inl ⟨hlt,h2⟩
  ·exact .inr ⟨hge,h1⟩
theorem xQ:XAl W X0:=⟨fun e h=>h.elim,fun e h=>h.elim⟩
def At(P:Program)(W U Z:Nat→Prop)(N:Nat)(d:Nat)(g:Goroutine)(w:World)(m:Machine)(t:Trace):Prop:=
 ∃(ls:Nat→Pos) (gs:Array Goroutine) (w₁:World) (sl:Option (Nat×Nat)),m=crowd gs w₁ sl∧Al P W U N ⟨full Z w,fun _=>False,d,g,w⟩ ls gs w₁ t
theorem SY(g:Goroutine)(w:World):At P (fun _=>False) (fun _=>False) (fun _=>False) 1 0 g w (solo g w) #[]:=by
 have nt:∀(i:Nat) (op:MemOp),(#[]:Trace)[i]? = some op→False:=fun i op h=>by simp at h
 have ntt:∀(i:Nat) (a:Touch),touchAt (#[]:Trace) i=some a→False:=fun i a h=>by simp [touchAt,Trace.act?] at h
 refine ⟨fun _=>⟨fun _=>False,fun _=>False,0,g,w⟩,#[g],w,none,solo_eq_crowd g w,Nat.le_refl _,rfl,rfl,rfl,⟨w.drawn,rfl⟩,rfl,fun k h1 h2=>by omega,?_,?_,fun i x hx=>(ntt i x hx).elim,fun _ h=>h.elim,fun a i hi=>by simp [Trace.act?] at hi⟩
 ·refine ⟨fun i op x hi=>(nt i op hi).elim,fun i _ l _ j a ha=>(ntt j a ha).elim,fun i _ l _ j a ha=>(ntt j a ha).elim,fun said=>?_,fun i op hi=>(nt i op hi).elim,fun op hop=>by simp at hop⟩
  rintro ⟨i,j,_,⟨a,b,ha,_⟩,_⟩
  exact ntt i a ha
 ·exact ⟨fun i j b hi hj _ _=>by omega,fun _ _ _ _ _ _ x=>x,fun _ _ _ _ x=>x.elim id id,fun _ _ _ x=>x.elim,fun i b _ x=>x.2.1,fun _ _ _ x=>x.elim,fun b x=>x.elim False.elim False.elim⟩
theorem Aj{Post:Value→World→Prop}{g:Goroutine}{w:World}(h:aA P (Good P Post) (fun _ _=>False) (solo g w) #[]) :
  ∃N last o w' t',runNT P (N+1) (solo g w) #[]=(.ended o w',t')∧runN P N (solo g w) = .next last∧step P last = .ended o w' ∧ Good P Post last o w' t' :=h.run
theorem At.ends{Post:Value→World→Prop}{K:Machine→Trace→Prop}{m:Machine}(hr:g.status = .running)(h:At P W U Z N d g w m t)
  (hret:∀d₁,∃v w' es,stepG P true g (w.at d₁) = .ended (.done v) w' es∧aO X0 (full Z w) (fun _=>False) (w.at d₁) w' es∧Post v w'):aA P (Good P Post) K m t:=by
 obtain ⟨ls,gs,w₁,sl,rfl,hal⟩:=h
 have hw:∃d₁,w₁=w.at d₁:=hal.same
 refine hal.ends (J:=fun w₁=>∃d₁,w₁=w.at d₁) xQ hr hw (fun w' d' ⟨d₁,e⟩=>⟨d',by rw [e];rfl⟩) fun w' _ ⟨d₁,e⟩=>?_
 obtain ⟨v,w₂,es,a1,a2,a3⟩:=hret d₁
 rw [e]
 exact ⟨v,w₂,es,a1,a2,a3⟩
end
end Go.Ren
