import Derived.Test.YtmgllphkofdnhaaGreatH26
set_option linter.unusedVariables false
set_option linter.unusedSectionVars false
set_option linter.unusedSimpArgs false
namespace Go.Mx
open Go.Ren
open Go.Conc hiding Goes mem_ofEvents
open Go.ConcN (sumTo upd upd_same upd_ne RelBy get_map_set get_map_set_same WgLive PermW)
open Go.Conc.Lib (WgLink)
open Go.ConcR (KK WgAt stA smA rd wr g_of_ofEvents loc_of_ofEvent)
section
variable{C Mu n n0 B:Nat}{t u:Trace}{W:Nat→Prop}{O D:Nat→Nat→Prop}{i:Nat}{fr:Prop}
def FreeTok(C Mu n0:Nat)(t:Trace)(n:Nat):Prop:=∀i x,touchAt t i=some x→inB (· = C) x.loc→(∀g,g < n→(g=0∨n0≤g)→Knows t g i)∨∃r,t.act? r=some (.mark (.releaseMerge (stA Mu)))∧t.heard r∧Before t i r
theorem old_touch'{z:MemOp}(hn:z.act.touch? = none){i:Nat}{x:Touch}(h:touchAt (t ++ #[z]) i=some x):touchAt t i=some x:=by
 obtain ⟨y,hy,hyx⟩:=touch_of h
 rcases getElem?_append_cases hy with ⟨_,h1⟩|⟨_,h1⟩
 · rw [touchAt_of h1];exact hyx
 · simp at h1;subst h1;rw [hn] at hyx;cases hyx
theorem FreeTok.app(h:FreeTok C Mu n0 t n)(hu:∀op∈u,∀x,op.act.touch? = some x→¬inB (· = C) x.loc):FreeTok C Mu n0 (t ++ u) n:=by
 intro i x hx hl
 obtain ⟨y,hy,hyx⟩:=touch_of hx
 rcases getElem?_append_cases hy with ⟨hi,h1⟩|⟨_,h1⟩
 · rcases h i x (by rw [touchAt_of h1];exact hyx) hl with k|⟨r,h2,h3,h4⟩
   ·exact .inl fun g hg h0=>(k g hg h0).app u
   ·have hr:=lt_of_act? h2
    exact .inr ⟨r,by rw [act?_old hr];exact h2,(heard_old hr).2 h3,h4.app u⟩
 · exact absurd hl (hu y h1 x hyx)
theorem FreeTok.acquire(h:FreeTok C Mu n0 t n){z:MemOp}(hg:z.g < n)(hg0:n0≤z.g)(hz:z.act = .mark (.acquire (stA Mu)))(hd:Go.Conc.Deaf t z.g=0)(hr:NoRelease (stA Mu) t):∀l,inB (· = C) l→Perm (t ++ #[z]) z.g l:=by
 intro l hl i x hx e
 have hn:z.act.touch? = none:=by rw [hz];rfl
 have hq:(t ++ #[z])[t.size]? = some z:=by simp
 have hnr:NoRelease (stA Mu) (t ++ #[z]):=hr.app fun op hop=>by simp at hop;subst hop;rw [hz];simp
 rcases h i x (old_touch' hn hx) (e ▸ hl) with hk|⟨p,h1,h2,h3⟩
 · exact (hk z.g hg (.inr hg0)).app _
 · have hp:=lt_of_act? h1
   have edge:HappensBefore (t ++ #[z]) p t.size:=.single (.inr ⟨.marked hp (.inr (by rw [act?_old hp];exact h1)) (by rw [act?_of hq,hz]) (fun k _ _=>hnr k),(heard_old hp).2 h2,
    ⟨z.g,by simp [Trace.g?],by rw [deaf_old (Nat.le_refl _)];exact hd⟩⟩)
   exact ⟨t.size,z,hq,rfl,.inr ((h3.app #[z]).hb edge)⟩
theorem FreeTok.release{y:MemOp}(hP:∀l,inB (· = C) l→Perm t y.g l)(hy:y.act = .mark (.releaseMerge (stA Mu)))(hd:Go.Conc.Deaf t y.g=0):FreeTok C Mu n0 (t ++ #[y]) n:=by
 intro i x hx hl
 have hn:y.act.touch? = none:=by rw [hy];rfl
 have hq:(t ++ #[y])[t.size]? = some y:=by simp
 refine .inr ⟨t.size,by rw [act?_of hq,hy],⟨y.g,by simp [Trace.g?],by rw [deaf_old (Nat.le_refl _)];exact hd⟩,.inr ?_⟩
 exact (hP x.loc hl i x (old_touch' hn hx) rfl).hb_new (Nat.le_refl _) hq rfl
theorem FreeTok.fork(h:FreeTok C Mu n0 t n)(hn:0 < n){x y:MemOp}(hx:x.g=0∧x.act = .go n)(hy:y.g=n∧y.act = .start)(h0:Go.Conc.Deaf t 0=0)(hk:Go.Conc.Deaf t n=0):FreeTok C Mu n0 (t ++ #[x,y]) (n+1):=by
 have hnt:∀op ∈ #[x,y],∀b,op.act.touch? = some b→False:=fun op hop b hb=>by rw [touch_fork hx.2 hy.2 hop] at hb;cases hb
 intro i a ha hl
 obtain ⟨z,hz,hza⟩:=touch_of ha
 rcases getElem?_append_cases hz with ⟨_,hz'⟩|⟨_,hzu⟩
 · rcases h i a (by rw [touchAt_of hz'];exact hza) hl with k|⟨r,h2,h3,h4⟩
   ·refine .inl fun g hg h00=>?_
    by_cases e:g=n
    ·subst e;exact Go.ConcN.fork_knows hx hy h0 hk (k 0 hn (.inl rfl))
    ·exact (k g (by omega) h00).app _
   ·have hr:=lt_of_act? h2
    exact .inr ⟨r,by rw [act?_old hr];exact h2,(heard_old hr).2 h3,h4.app _⟩
 · exact (hnt z hzu a hza).elim
theorem FreeTok.one(h:∀l,inB (· = C) l→Perm t 0 l):FreeTok C Mu n0 t n0:=fun i x hx hl=>.inl fun g hg h0=>by
 obtain rfl:g=0:=by omega
 exact h x.loc hl i x hx rfl
def takeO(O:Nat→Nat→Prop)(i C:Nat)(k b:Nat):Prop:=O k b∨(k=i∧b=C)
def giveO(O:Nat→Nat→Prop)(i C:Nat)(k b:Nat):Prop:=O k b∧¬(k=i∧b=C)
theorem TI.take(h:TI W O D n B t)(hP:∀l,inB (· = C) l→Perm t i l):TI W (takeO O i C) D n B t:=by
 refine ⟨h.quiet,fun k hk l hl=>?_,h.rd,h.nr,h.gs,h.low⟩
 rcases inB_or (T:=O k) (U:=fun b=>k=i∧b=C) (fun b hb=>hb) hl with h1|h1
 · exact h.own k hk l h1
 · have:k=i∧inB (· = C) l:=by
    cases l<;>first|exact h1|exact h1.elim
   obtain ⟨rfl,h2⟩:=this
   exact hP l h2
theorem TI.give(i:Nat)(h:TI W O D n B t):TI W (giveO O i C) D n B t:=⟨h.quiet,fun k hk l hl=>h.own k hk l (inB_mono (fun b hb=>hb.1) hl),h.rd,h.nr,h.gs,h.low⟩
theorem Own.take(h:Own (fun b=>W b∨(True∧b=C)) O D n B)(hi:i < n)(hW:¬W C)(fr:Prop)(hf:¬fr):Own (fun b=>W b∨(fr∧b=C)) (takeO O i C) D n B:=by
 have hC:∀k,k < n→¬O k C:=fun k hk x=>h.ow k C hk x (.inr ⟨trivial,rfl⟩)
 refine ⟨?_,?_,?_,fun k b hk hd hx=>?_,?_,h.dlt,fun b hb=>?_⟩
 · rintro a c b ha hc (x|⟨e1,e2⟩) (y|⟨e3,e4⟩)
   ·exact h.oo a c b ha hc x y
   ·exact absurd (e4 ▸ x) (hC a ha)
   ·exact absurd (e2 ▸ y) (hC c hc)
   ·exact e1.trans e3.symm
 · rintro a c b ha hc (x|⟨rfl,rfl⟩) hd
   ·exact h.od a c b ha hc x hd
   ·exact h.dw c b hc hd (.inr ⟨trivial,rfl⟩)
 · rintro a b ha (x|⟨rfl,rfl⟩) (y|⟨y,_⟩)
   ·exact h.ow a b ha x (.inl y)
   ·exact hf y
   ·exact hW y
   ·exact hf y
 · exact h.dw k b hk hd (hx.imp id fun y=>⟨trivial,y.2⟩)
 · rintro a b ha (x|⟨rfl,rfl⟩)
   ·exact h.olt a b ha x
   ·exact h.wlt b (.inr ⟨trivial,rfl⟩)
 · exact h.wlt b (hb.imp id fun y=>⟨trivial,y.2⟩)
theorem Own.give(h:Own (fun b=>W b∨(False∧b=C)) O D n B)(hi:i < n)(hO:O i C)(hlt:C < B)(fr:Prop):Own (fun b=>W b∨(fr∧b=C)) (giveO O i C) D n B:=by
 refine ⟨fun a c b ha hc x y=>h.oo a c b ha hc x.1 y.1,fun a c b ha hc x=>h.od a c b ha hc x.1,fun a b ha x y=>?_,fun a b ha hd y=>?_,fun a b ha x=>h.olt a b ha x.1,h.dlt,fun b hb=>?_⟩
 · rcases y with y|⟨_,y⟩
   ·exact h.ow a b ha x.1 (.inl y)
   ·subst y
    exact x.2 ⟨h.oo a i _ ha hi x.1 hO,rfl⟩
 · rcases y with y|⟨_,rfl⟩
   ·exact h.dw a b ha hd (.inl y)
   ·exact h.od i a b hi ha hO hd
 · rcases hb with y|⟨_,rfl⟩
   ·exact h.wlt b (.inl y)
   ·exact hlt
end
def free(j:Nat)(wt:Nat→WT):Prop:=∀i,i < j→¬holds (wt i)
namespace Ph
variable(p:Ph)
def fold(order:List Nat):Vals:=order.foldl (fun a k=>p.f k a) p.v0
def Cell(j:Nat)(wt:Nat→WT)(w:World):Prop:=∃order:List Nat,order.Nodup∧(∀k,k∈order↔k < j∧p.locks k=true∧past (wt k))∧p.V (p.fold order)∧(∀k,k < j→∀v,wt k = .cr v→v=p.fold order) ∧
 ((∀k,k < j→∀v,wt k ≠ .cr v)→CellIs p.oe p.C (p.fold order) w)
def locking:WT→Prop
 | .work | .fin _=>False
 | _=>True
def Waits(i:Nat)(wt:WT)(x:Pos):Prop:=(∃sv,wt = .lck (.s1 sv))∧p.St i wt x x.d x.g
structure MCo(W:Nat→Prop)(j:Nat)(tag:MTag)(x0:Pos)(bl:Bool)(wt:Nat→WT)(bw:Nat→Bool)(xs ls:Nat→Pos)(O D:Nat→Nat→Prop)(gs:Array Goroutine)(w:World)(t:Trace):Prop where
 hn0:1≤p.n0
 size:gs.size=p.n0+j
 main:gs[0]? = some (if bl then { x0.g with status:=.blocked } else x0.g)
 blk:bl=true→(∃gT,tag = .w3 gT∧M3 p.P p.L p.Wg gT x0.d x0.g)∧∃i,i < j∧2≤stN (wt i)
 seat:p.MSeat tag x0
 O0:x0.O=O 0
 D0:x0.D=D 0
 rely:Rely x0.O x0.D x0.w w
 deaf:Go.Conc.Deaf t 0=x0.d
 wk:∀i,i < j→gs[p.n0+i]? = some (if bw i then { (xs i).g with status:=.blocked } else (xs i).g)∧p.WSeat i (wt i) (xs i)∧Go.Conc.Deaf t (p.n0+i)=(xs i).d
 bs:∀i,i < j→bw i=true→p.Waits i (wt i) (xs i)
 wO:∀i,i < j→early (wt i)→(xs i).O=O (p.n0+i)∧(xs i).D=D (p.n0+i)∧Rely (O (p.n0+i)) (D (p.n0+i)) (xs i).w w
 lkd:∀i,i < j→locking (wt i)→p.locks i=true
 ph:∀i,i < j→phase (wt i)
 lv:∀k,1≤k→k < p.n0→gs[k]? = some (ls k).g∧(∃q,QuitsD p.P q (ls k).d (ls k).g)∧Go.Conc.Deaf t k=(ls k).d∧Gone W t k
 ti:TI W O D (p.n0+j) w.heap.size t
 own:Own (fun b=>W b∨(free j wt∧b=p.C)) O D (p.n0+j) w.heap.size
 hW:W p.Wg∧W p.Mu∧p.Wg≠p.Mu∧¬W p.C∧p.C < w.heap.size
 tok:free j wt→FreeTok p.C p.Mu p.n0 t (p.n0+j)
 hold:∀i,i < j→holds (wt i)→O (p.n0+i) p.C
 cell:p.Cell j wt w
 over:∀i,i < j→stN (wt i)≤5→∃r,Over (stA p.Wg) W t (p.n0+i) r
 norel:∀a,NoRelease a t
 mi:∃m q,MuAt p.tM p.Mu w m q∧MI p.B j (fun i=>lkOf (wt i)) m q∧∀i,i < j→bw i=true→q=0
 md:∃a b,WgAt p.L.tWg p.Wg w a b∧Md j (fun i=>stN (wt i)) tag a b
 left:leftM p.n j tag
variable{p}{W:Nat→Prop}{j:Nat}{tag:MTag}{x0:Pos}{bl:Bool}{wt:Nat→WT}{bw:Nat→Bool}{xs ls:Nat→Pos}{O D:Nat→Nat→Prop}{gs:Array Goroutine}{w w':World}{sl:Option (Nat×Nat)}{t:Trace}
theorem MCo.ownW(h:p.MCo W j tag x0 bl wt bw xs ls O D gs w t):Own W O D (p.n0+j) w.heap.size:=h.own.less fun _=>.inl
theorem MCo.inv(h:p.MCo W j tag x0 bl wt bw xs ls O D gs w t):p.I w:=by
 obtain ⟨a,b,h1,_⟩:=h.md
 obtain ⟨m,q,h2,_⟩:=h.mi
 exact ⟨⟨a,b,h1⟩,_,_,h2⟩
theorem st_status{i:Nat}{s:WT}{x:Pos}{d:Nat}{g:Goroutine}(h:p.St i s x d g):g.status = .running:=by
 cases s<;>first|exact h.2.1|exact h.2.1.1|exact h.elim
theorem wseat_status{i:Nat}{s:WT}{x:Pos}(h:p.WSeat i s x):(x.g.status = .running∧2≤stN s)∨((x.g.status = .running∨x.g.status = .finished)∧s = .fin 1):=by
 match s,h with
 | .work,h=>exact .inl ⟨WkD.status (fun _ _ _ _ x=>x.1) h,by simp [stN]⟩
 | .cr v,h=>exact .inl ⟨WkD.status (fun _ _ _ _ x=>x.2.1) h,by simp [stN]⟩
 | .fin 7,h=>exact .inl ⟨IdleD.status (fun _ _ x=>x.2.1) h,by simp [stN]⟩
 | .fin 5,h=>exact .inl ⟨IdleD.status (fun _ _ x=>x.2.1) h,by simp [stN]⟩
 | .fin 4,h=>exact .inl ⟨IdleD.status (fun _ _ x=>x.2.1) h,by simp [stN]⟩
 | .fin 3,h=>exact .inl ⟨IdleD.status (fun _ _ x=>x.2.1) h,by simp [stN]⟩
 | .fin 2,h=>exact .inl ⟨IdleD.status (fun _ _ x=>x.2.1) h,by simp [stN]⟩
 | .fin 1,h=>obtain ⟨q,hq⟩:=h;exact .inr ⟨hq.status,rfl⟩
 | .fin 0,h=>exact h.elim
 | .fin 6,h=>exact h.elim
 | .fin (s+8),h=>exact h.elim
 | .lck y,h=>exact .inl ⟨IdleD.status (fun _ _ x=>st_status (i:=i) (s:=.lck y) x) h,by simp [stN]⟩
 | .en,h=>exact .inl ⟨IdleD.status (fun _ _ x=>st_status (i:=i) (s:=.en) x) h,by simp [stN]⟩
 | .ac,h=>exact .inl ⟨IdleD.status (fun _ _ x=>st_status (i:=i) (s:=.ac) x) h,by simp [stN]⟩
 | .rl,h=>exact .inl ⟨IdleD.status (fun _ _ z=>st_status (i:=i) (s:=.rl) (x:=x) z) h,by simp [stN]⟩
 | .ds,h=>exact .inl ⟨IdleD.status (fun _ _ z=>st_status (i:=i) (s:=.ds) (x:=x) z) h,by simp [stN]⟩
 | .ulk y,h=>exact .inl ⟨IdleD.status (fun _ _ z=>st_status (i:=i) (s:=.ulk y) (x:=x) z) h,by simp [stN]⟩
 | .ue,h=>exact .inl ⟨IdleD.status (fun _ _ z=>st_status (i:=i) (s:=.ue) (x:=x) z) h,by simp [stN]⟩
theorem mseat_status{tag:MTag}{x:Pos}(h:p.MSeat tag x):x.g.status = .running:=by
 cases tag with
 | sp r s=>
   rcases r with _|r
   ·rcases s with _|_|s
    ·exact h.elim
    ·exact WkD.status (fun _ _ _ _ x=>mwait_status x) h
    ·exact h.elim
   ·rcases s with _|_|s
    ·exact WkD.status (fun _ _ _ _ x=>x.2.1) h
    ·exact WkD.status (fun _ _ _ _ x=>x.2.1) h
    ·exact h.elim
 | w1 v gT A=>exact IdleD.status (fun _ _ x=>x.2.1) h.2.2
 | w2 v gT A=>exact IdleD.status (fun _ _ x=>x.2.1) h.2.2
 | w3 gT=>exact IdleD.status (fun _ _ x=>x.2.1) h.2
 | w4 gT=>exact IdleD.status (fun _ _ x=>x.2.1) h.2
 | acq gT=>exact IdleD.status (fun _ _ x=>x.2.1) h.2
theorem MCo.at(h:p.MCo W j tag x0 bl wt bw xs ls O D gs w t)(d:Nat):p.MCo W j tag x0 bl wt bw xs ls O D gs (w.at d) t:=
 ⟨h.hn0,h.size,h.main,h.blk,h.seat,h.O0,h.D0,h.rely.trans (.draw w d),h.deaf,h.wk,h.bs,fun i hi hs=>let ⟨x,y,z⟩:=h.wO i hi hs;⟨x,y,z.trans (.draw w d)⟩,h.lkd,h.ph,h.lv,h.ti,h.own,h.hW,h.tok,h.hold,h.cell,h.over,h.norel,h.mi,h.md,h.left⟩
theorem MCo.awake(h:p.MCo W j tag x0 bl wt bw xs ls O D gs w t):∀g∈gs,awake g:=by
 intro g hg
 obtain ⟨k,hk⟩:=Array.mem_iff_getElem?.1 hg
 rcases Nat.eq_zero_or_pos k with rfl|hpos
 · rw [h.main] at hk
   cases hk
   intro tm
   cases bl with
   |true=>simp
   |false=>simp [mseat_status h.seat]
 · have hlt:k < p.n0+j:=by rw [←h.size];exact (Array.getElem?_eq_some_iff.1 hk).1
   rcases Nat.lt_or_ge k p.n0 with h1|h1
   ·obtain ⟨h2,⟨q,h3⟩,_⟩:=h.lv k hpos h1
    rw [h2] at hk
    cases hk
    intro tm
    rcases h3.status with e|e<;>rw [e]<;>simp
   ·obtain ⟨i,rfl⟩:∃i,k=p.n0+i:=⟨k - p.n0,by omega⟩
    obtain ⟨h2,h3,_⟩:=h.wk i (by omega)
    rw [h2] at hk
    cases hk
    intro tm
    cases bw i with
    |true=>simp
    |false=>
     simp only [Bool.false_eq_true,if_false]
     rcases wseat_status h3 with ⟨e,_⟩|⟨e|e,_⟩<;>rw [e]<;>simp
theorem MCo.someone(h:p.MCo W j tag x0 bl wt bw xs ls O D gs w t):∃(i:Nat) (g:Goroutine),gs[i]? = some g∧g.status = .running:=by
 cases hb:bl with
 | false=>
   have:=h.main
   rw [hb] at this
   exact ⟨0,_,this,mseat_status h.seat⟩
 | true=>
   obtain ⟨_,i,hi,h2⟩:=h.blk hb
   have go:∀k,k < j→2≤stN (wt k)→bw k=false→∃(i:Nat) (g:Goroutine),gs[i]? = some g∧g.status = .running:=by
    intro k hk h2 hf
    obtain ⟨h3,h4,_⟩:=h.wk k hk
    rw [hf] at h3
    rcases wseat_status h4 with ⟨e,_⟩|⟨_,e⟩
    ·exact ⟨_,_,h3,e⟩
    ·rw [e] at h2;simp [stN] at h2
   cases hbi:bw i with
   |false=>exact go i hi h2 hbi
   |true=>
    obtain ⟨⟨sv,e1⟩,_⟩:=h.bs i hi hbi
    obtain ⟨m,q,_,hmi,hq⟩:=h.mi
    have hq0:=hq i hi hbi
    subst hq0
    obtain ⟨k,hk,ha⟩:=hmi.alive hi (sv:=sv) (by rw [e1];rfl)
    refine go k hk ?_ ?_
    ·revert ha;cases wt k<;>simp [lkOf,act,stN]
    ·cases hbk:bw k with
     |false=>rfl
     |true=>
      obtain ⟨⟨sv',e2⟩,_⟩:=h.bs k hk hbk
      rw [e2] at ha
      exact ha.elim
theorem MCo.pick(h:p.MCo W j tag x0 bl wt bw xs ls O D gs w t):∃(i:Nat) (g:Goroutine) (d:Nat) (sl':Option (Nat×Nat)),gs[i]? = some g∧g.status = .running∧stepT p.P (crowd gs w sl)=runT p.P (crowd gs (w.at d) sl') i:=
 crowd_pick h.awake h.someone
theorem holds_own{s:WT}(h:holds s):cO (lkOf s)=1:=by cases s<;>first|rfl|exact h.elim
theorem MCo.one(h:p.MCo W j tag x0 bl wt bw xs ls O D gs w t){i k:Nat}(hi:i < j)(hk:k < j)(h1:cO (lkOf (wt i))=1)(h2:cO (lkOf (wt k))=1):i=k:=by
 obtain ⟨m,q,_,hmi,_⟩:=h.mi
 have hL:=hmi.bits.L
 have ho:=hmi.own
 apply Classical.byContradiction
 intro hne
 have e:=sm_upd (lk:=fun i=>lkOf (wt i)) cO .out hi
 have l:=sm_le (lk:=upd (fun i=>lkOf (wt i)) i .out) cO hk
 rw [upd_ne _ _ (fun e=>hne e.symm)] at l
 rw [h1] at e
 rw [h2] at l
 simp only [cO] at e
 omega
end Ph
end Go.Mx
namespace Go.Mx
open Go.Ren
open Go.Conc hiding Goes mem_ofEvents
open Go.ConcN (sumTo upd upd_same upd_ne RelBy get_map_set get_map_set_same WgLive PermW)
open Go.Conc.Lib (WgLink)
open Go.ConcR (KK WgAt stA smA rd wr g_of_ofEvents loc_of_ofEvent)
theorem pred_eq{W:Nat→Prop}{C:Nat}{a b:Prop}(h:a↔b):(fun x=>W x∨(a∧x=C))=fun x=>W x∨(b∧x=C):=by
 funext x
 rw [propext h]
theorem ev_not{W O D:Nat→Prop}{B k C:Nat}{es:Array Event}{fn:FuncId}{pos:String}(hev:∀e∈es,EvO (XOk W k) B O D e)(h1:¬W C)(h2:¬O C)(h3:¬D C) :
   ∀op∈MemOp.ofEvents k fn pos es,∀x,op.act.touch? = some x→¬inB (· = C) x.loc:=by
 intro op hop x hx hl
 rw [ofEvents_eq] at hop
 obtain ⟨e,he,rfl⟩:=Array.mem_map.1 hop
 rcases hev e he with ⟨k1,_⟩|k1
 · obtain ⟨b,b1,b2⟩:=inB_both (k1 x hx).1 hl
   exact h1 (b2 ▸ b1)
 · obtain ⟨loc,wr,sy⟩:=e
   cases loc with
   |cell a=>
    simp only [MemAct.ofEvent,MemAct.touch?,Option.some.injEq] at hx
    subst hx
    have hl':a.block=C:=hl
    rcases k1 with k1|⟨k1,_⟩
    ·exact h2 (hl' ▸ k1)
    ·exact h3 (hl' ▸ k1)
   |obj r=>
    have hr:x.loc = .obj r:=by
     cases wr<;>cases sy<;>simp only [MemAct.ofEvent,MemAct.touch?,Option.some.injEq,reduceCtorEq] at hx
     all_goals (subst hx;rfl)
    rw [hr] at hl
    have hl':r=C:=hl
    rcases k1 with k1|⟨k1,_⟩
    ·exact h2 (hl' ▸ k1)
    ·exact h3 (hl' ▸ k1)
   |mark m=>
    have hm:okMark m=true:=k1
    cases m<;>first|(simp [MemAct.ofEvent,MemAct.touch?] at hx;done)|cases hm
   |output=>
    simp only [MemAct.ofEvent,MemAct.touch?,Option.some.injEq] at hx
    subst hx
    exact hl
   |_=>exact absurd k1 id
namespace Ph
variable{p:Ph}{W:Nat→Prop}{j:Nat}{tag:MTag}{x0:Pos}{bl:Bool}{wt:Nat→WT}{bw:Nat→Bool}{xs ls:Nat→Pos}{O D:Nat→Nat→Prop}{gs:Array Goroutine}{w w':World}{sl:Option (Nat×Nat)}{t:Trace}
theorem blk_offers(h:p.MCo W j tag x0 bl wt bw xs ls O D gs w t):bl=true→x0.g.offers=none:=fun e=>by
 obtain ⟨⟨gT,_,h1⟩,_⟩:=h.blk e
 exact h1.2.2.1
theorem waits_offers{i:Nat}{s:WT}{x:Pos}(h:p.Waits i s x):x.g.status = .running∧x.g.offers=none:=by
 obtain ⟨⟨sv,rfl⟩,h2⟩:=h
 exact ⟨h2.2.1,h2.2.2.1⟩
theorem MCo.sleepers(h:p.MCo W j tag x0 bl wt bw xs ls O D gs w t)(g g':Goroutine)(w':World):∃bw':Nat→Bool,∀k,k < j→woken p.P g g' w' (if bw k then { (xs k).g with status:=.blocked } else (xs k).g)=(if bw' k then { (xs k).g with status:=.blocked } else (xs k).g)∧(bw' k=true→bw k=true) ∧
   (mayWake p.P g=true→(g'.status = .running∨g'.status = .finished)→bw' k=false):=by
 have:∀k,∃b':Bool,k < j→woken p.P g g' w' (if bw k then { (xs k).g with status:=.blocked } else (xs k).g)=(if b' then { (xs k).g with status:=.blocked } else (xs k).g)∧(b' = true→bw k=true) ∧
   (mayWake p.P g=true→(g'.status = .running∨g'.status = .finished)→b' = false):=by
   intro k
   by_cases hk:k < j
   ·cases hb:bw k with
    |true=>
     obtain ⟨h1,h2⟩:=waits_offers (h.bs k hk hb)
     obtain ⟨b',k1,k2,k3⟩:=wokenM (P:=p.P) (w' :=w') (g:=g) (g' :=g') (x:=(xs k).g) (bl:=true) h1 (fun _=>h2)
     exact ⟨b',fun _=>⟨k1,k2,k3⟩⟩
    |false=>
     refine ⟨false,fun _=>⟨?_,fun x=>(by cases x),fun _ _=>rfl⟩⟩
     simp only [Bool.false_eq_true,if_false]
     obtain ⟨_,h2,_⟩:=h.wk k hk
     rw [woken_rf]
     rcases wseat_status h2 with ⟨x,_⟩|⟨x,_⟩
     ·exact .inl x
     ·exact x
   ·exact ⟨false,fun x=>absurd x hk⟩
 exact ⟨fun k=>Classical.choose (this k),fun k hk=>Classical.choose_spec (this k) hk⟩
theorem MCo.worker0(h:p.MCo W j tag x0 bl wt bw xs ls O D gs w t){i:Nat}(hi:i < j)(hbi:bw i=false){x':Pos}{es:Array Event}{s':WT}{O':Nat→Nat→Prop}
   (hgo:stepG p.P false (xs i).g w = .go x'.g w' es) (hd:x'.d=deafBehind (xs i).d es) (hseat:p.WSeat i s' x') (hsize:w.heap.size≤w'.heap.size)
   (hrel:∀k,k < p.n0+j→k≠p.n0+i→Rely (O k) (D k) w w') (hO:∀k,k≠p.n0+i→O' k=O k)
   (hti:TI W O' D (p.n0+j) w'.heap.size (t ++ MemOp.ofEvents (p.n0+i) (xs i).g.frame.fn (xs i).g.frame.place es)) (hown:Own (fun b=>W b∨(free j (upd wt i s')∧b=p.C)) O' D (p.n0+j) w'.heap.size)
   (hearly:early s' → x'.O=O' (p.n0+i)∧x'.D=D (p.n0+i)∧Rely (O' (p.n0+i)) (D (p.n0+i)) x'.w w') (hlkd:locking s' → p.locks i=true) (hph:phase s')
   (htok:free j (upd wt i s')→FreeTok p.C p.Mu p.n0 (t ++ MemOp.ofEvents (p.n0+i) (xs i).g.frame.fn (xs i).g.frame.place es) (p.n0+j)) (hhold:holds s' → O' (p.n0+i) p.C) (hcell:p.Cell j (upd wt i s') w')
   (hover:stN s' ≤ 5→∃r,Over (stA p.Wg) W (t ++ MemOp.ofEvents (p.n0+i) (xs i).g.frame.fn (xs i).g.frame.place es) (p.n0+i) r)
   (hnr:∀e∈es,∀a,e.loc ≠ .mark (.release a))
   (hmi:∃m q,MuAt p.tM p.Mu w' m q∧MI p.B j (fun k=>lkOf (upd wt i s' k)) m q∧(q=0∨(mayWake p.P (xs i).g=true∧x'.g.status = .running)∨∀k,k < j→bw k=false))
   (hmd:∃a b,WgAt p.L.tWg p.Wg w' a b∧Md j (fun k=>stN (upd wt i s' k)) tag a b)
   (hbl:∀bl':Bool,bl=true→(mayWake p.P (xs i).g=true→(x'.g.status = .running∨x'.g.status = .finished)→bl' = false)→bl' = true→∃k,k < j∧2≤stN (upd wt i s' k)) :
   ∃gs' bl' bw',runT p.P (crowd gs w sl) (p.n0+i)=(.next (crowd gs' w' sl),MemOp.ofEvents (p.n0+i) (xs i).g.frame.fn (xs i).g.frame.place es) ∧
    p.MCo W j tag x0 bl' (upd wt i s') bw' (upd xs i x') ls O' D gs' w' (t ++ MemOp.ofEvents (p.n0+i) (xs i).g.frame.fn (xs i).g.frame.place es):=by
 obtain ⟨hgi,hsi,hdi⟩:=h.wk i hi
 rw [hbi] at hgi
 simp only [Bool.false_eq_true,if_false] at hgi
 have hsz:=h.size
 have hpos:p.n0+i≠0:=by have:=h.hn0;omega
 have hgo':stepG p.P ((p.n0+i) == 0) (xs i).g w = .go x'.g w' es:=by
   have:((p.n0+i) == 0)=false:=by simp;omega
   rw [this];exact hgo
 have hrun:=runT_crowd_go (P:=p.P) (sl:=sl) hgi hgo'
 obtain ⟨bl',hw1,hw2,hw3⟩:=wokenM (P:=p.P) (w' :=w') (g:=(xs i).g) (g' :=x'.g) (mseat_status h.seat) (blk_offers h)
 obtain ⟨bw',hbw⟩:=h.sleepers (xs i).g x'.g w'
 have hops:∀op∈MemOp.ofEvents (p.n0+i) (xs i).g.frame.fn (xs i).g.frame.place es,op.g=p.n0+i:=g_of_ofEvents
 have hbwi:bw' i=false:=by
   cases e:bw' i with
   |false=>rfl
   |true=>have:=(hbw i hi).2.1 e;rw [hbi] at this;cases this
 refine ⟨_,bl',bw',hrun,h.hn0,by simpa using hsz,?_,fun e=>?_,h.seat,by rw [hO 0 hpos.symm];exact h.O0,h.D0,h.rely.trans (by rw [h.O0,h.D0];exact hrel 0 (by have:=h.hn0;omega) hpos.symm),?_,fun k hk=>?_,fun k hk hb=>?_,fun k hk hs=>?_,fun k hk hs=>?_,fun k hk=>?_,fun k h1 h2=>?_,hti,hown,⟨h.hW.1,h.hW.2.1,h.hW.2.2.1,h.hW.2.2.2.1,Nat.lt_of_lt_of_le h.hW.2.2.2.2 hsize⟩,htok,fun k hk hs=>?_,hcell,fun k hk hs=>?_,norel_app h.norel hnr,?_,hmd,h.left⟩
 · rw [get_map_set _ _ _ _ hpos,h.main,Option.map_some,hw1]
 · obtain ⟨h1,_⟩:=h.blk (hw2 e)
   exact ⟨h1,hbl bl' (hw2 e) hw3 e⟩
 · rw [Deaf_other t hpos _ hops];exact h.deaf
 · by_cases e:k=i
   ·subst e
    rw [upd_same,upd_same,hbwi]
    simp only [Bool.false_eq_true,if_false]
    exact ⟨get_map_set_same _ _ _ (by rw [hsz];omega),hseat,by rw [Deaf_own,hdi];exact hd.symm⟩
   ·obtain ⟨h1,h2,h3⟩:=h.wk k hk
    rw [upd_ne xs _ e,upd_ne wt _ e]
    refine ⟨?_,h2,by rw [Deaf_other t (by omega) _ hops];exact h3⟩
    rw [get_map_set _ _ _ _ (by omega),h1,Option.map_some,(hbw k hk).1]
 · by_cases e:k=i
   ·subst e;rw [hbwi] at hb;cases hb
   ·rw [upd_ne xs _ e,upd_ne wt _ e]
    exact h.bs k hk ((hbw k hk).2.1 hb)
 · by_cases e:k=i
   ·subst e
    rw [upd_same] at hs
    rw [upd_same]
    exact hearly hs
   ·rw [upd_ne wt _ e] at hs
    obtain ⟨a1,a2,a3⟩:=h.wO k hk hs
    rw [upd_ne xs _ e,hO _ (by omega)]
    exact ⟨a1,a2,a3.trans (hrel _ (by omega) (by omega))⟩
 · by_cases e:k=i
   ·subst e;rw [upd_same] at hs;exact hlkd hs
   ·rw [upd_ne wt _ e] at hs;exact h.lkd k hk hs
 · by_cases e:k=i
   ·subst e;rw [upd_same];exact hph
   ·rw [upd_ne wt _ e];exact h.ph k hk
 · obtain ⟨a1,⟨q,a2⟩,a3,a4⟩:=h.lv k h1 h2
   refine ⟨?_,⟨q,a2⟩,by rw [Deaf_other t (by omega) _ hops];exact a3,a4.appNot fun op hop e=>by rw [hops op hop] at e;omega⟩
   rw [get_map_set _ _ _ _ (by omega),a1,Option.map_some,woken_rf a2.status]
 · by_cases e:k=i
   ·subst e;rw [upd_same] at hs;exact hhold hs
   ·rw [upd_ne wt _ e] at hs
    rw [hO _ (by omega)]
    exact h.hold k hk hs
 · by_cases e:k=i
   ·subst e
    rw [upd_same] at hs
    exact hover hs
   ·rw [upd_ne wt _ e] at hs
    obtain ⟨r,hr⟩:=h.over k hk hs
    exact ⟨r,hr.appNot fun op hop e'=>by rw [hops op hop] at e';omega⟩
 · obtain ⟨m,q,h1,h2,h3⟩:=hmi
   refine ⟨m,q,h1,h2,fun k hk hb=>?_⟩
   rcases h3 with h3|⟨h3,h4⟩|h3
   ·exact h3
   ·have:=(hbw k hk).2.2 h3 (.inl h4);rw [this] at hb;cases hb
   ·have:=(hbw k hk).2.1 hb;rw [h3 k hk] at this;cases this
theorem Cell.same{p:Ph}{j:Nat}{wt:Nat→WT}{w w':World}{i:Nat}{s':WT}(h:p.Cell j wt w)(hi:i < j)(hp:p.locks i=true→(past s' ↔ past (wt i)))(hc:∀v,s' = .cr v↔wt i = .cr v)
   (hw:(∃v,wt i = .cr v)∨w'.heap[p.C]? = w.heap[p.C]?):p.Cell j (upd wt i s') w' :=by
 obtain ⟨order,h1,h2,h3,h4,h5⟩:=h
 refine ⟨order,h1,fun k=>?_,h3,fun k hk v e=>?_,fun hn=>?_⟩
 · rw [h2]
   by_cases e:k=i
   ·subst e
    rw [upd_same]
    exact ⟨fun ⟨a,b,c⟩=>⟨a,b,(hp b).2 c⟩,fun ⟨a,b,c⟩=>⟨a,b,(hp b).1 c⟩⟩
   ·rw [upd_ne wt _ e]
 · by_cases e':k=i
   ·subst e'
    rw [upd_same] at e
    exact h4 k hk v ((hc v).1 e)
   ·rw [upd_ne wt _ e'] at e
    exact h4 k hk v e
 · have hno:∀k,k < j→∀v,wt k ≠ .cr v:=fun k hk v e=>by
    by_cases e':k=i
    ·subst e';exact hn k hk v (by rw [upd_same];exact (hc v).2 e)
    ·exact hn k hk v (by rw [upd_ne wt _ e'];exact e)
   rcases hw with ⟨v,e⟩|hw
   ·exact absurd e (hno i hi v)
   ·unfold CellIs;rw [hw];exact h5 hno
theorem free_upd{j i:Nat}{wt:Nat→WT}{s':WT}(hi:i < j)(h:holds s' ↔ holds (wt i)):free j (upd wt i s')↔free j wt:=by
 unfold free
 refine ⟨fun x k hk=>?_,fun x k hk=>?_⟩
 · by_cases e:k=i
   ·subst e;have:=x k hk;rw [upd_same] at this;exact fun y=>this (h.2 y)
   ·have:=x k hk;rw [upd_ne wt _ e] at this;exact this
 · by_cases e:k=i
   ·subst e;rw [upd_same];exact fun y=>x k hk (h.1 y)
   ·rw [upd_ne wt _ e];exact x k hk
theorem upd_fun{φ:Type}(g:WT→φ)(wt:Nat→WT)(i:Nat)(s':WT):(fun k=>g (upd wt i s' k))=upd (fun k=>g (wt k)) i (g s'):=by
 funext k
 by_cases e:k=i
 · subst e;rw [upd_same,upd_same]
 · rw [upd_ne _ _ e,upd_ne _ _ e]
theorem MCo.worker(h:p.MCo W j tag x0 bl wt bw xs ls O D gs w t){i:Nat}(hi:i < j)(hbi:bw i=false){x':Pos}{es:Array Event}{s':WT}
   (hgo:stepG p.P false (xs i).g w = .go x'.g w' es) (hG:GuarW (XOk W (p.n0+i)) W (O (p.n0+i)) (D (p.n0+i)) w w' es) (hd:x'.d=deafBehind (xs i).d es) (hseat:p.WSeat i s' x') (hh:holds s' ↔ holds (wt i))
   (hearly:early s' → x'.O=grow (O (p.n0+i)) w w' ∧ x'.D=D (p.n0+i)∧Rely x'.O x'.D x'.w w') (hlkd:locking s' → p.locks i=true) (hph:phase s') (hcell:p.Cell j (upd wt i s') w')
   (hover:stN s' ≤ 5→∃r,Over (stA p.Wg) W (t ++ MemOp.ofEvents (p.n0+i) (xs i).g.frame.fn (xs i).g.frame.place es) (p.n0+i) r)
   (hnr:∀e∈es,∀a,e.loc ≠ .mark (.release a))
   (hmi:∃m q,MuAt p.tM p.Mu w' m q∧MI p.B j (fun k=>lkOf (upd wt i s' k)) m q∧(q=0∨(mayWake p.P (xs i).g=true∧x'.g.status = .running)∨∀k,k < j→bw k=false))
   (hmd:∃a b,WgAt p.L.tWg p.Wg w' a b∧Md j (fun k=>stN (upd wt i s' k)) tag a b)
   (hbl:∀bl':Bool,bl=true→(mayWake p.P (xs i).g=true→(x'.g.status = .running∨x'.g.status = .finished)→bl' = false)→bl' = true→∃k,k < j∧2≤stN (upd wt i s' k)) :
   ∃gs' bl' bw' O',runT p.P (crowd gs w sl) (p.n0+i)=(.next (crowd gs' w' sl),MemOp.ofEvents (p.n0+i) (xs i).g.frame.fn (xs i).g.frame.place es) ∧
    p.MCo W j tag x0 bl' (upd wt i s') bw' (upd xs i x') ls O' D gs' w' (t ++ MemOp.ofEvents (p.n0+i) (xs i).g.frame.fn (xs i).g.frame.place es):=by
 obtain ⟨hgi,_,_⟩:=h.wk i hi
 rw [hbi] at hgi
 simp only [Bool.false_eq_true,if_false] at hgi
 have hsz:=h.size
 have hn0:=h.hn0
 have hgo':stepG p.P ((p.n0+i) == 0) (xs i).g w = .go x'.g w' es:=by
   have:((p.n0+i) == 0)=false:=by simp;omega
   rw [this];exact hgo
 have hti:=h.ti
 have hown:=h.ownW
 rw [←hsz] at hti hown
 have hown' :=h.own.grow (i:=p.n0+i) (by omega) hG.size
 obtain ⟨_,hti',_⟩:=core_step (sl:=sl) hgi hgo' hti hown hG
 rw [hsz] at hti'
 have hself:with_ O (p.n0+i) w.heap.size w'.heap.size (p.n0+i)=grow (O (p.n0+i)) w w' :=with_self O (p.n0+i) w w'
 have hfr:=free_upd hi hh
 have htok:free j (upd wt i s')→FreeTok p.C p.Mu p.n0 (t ++ MemOp.ofEvents (p.n0+i) (xs i).g.frame.fn (xs i).g.frame.place es) (p.n0+j):=fun hf=>by
   have hf' :=hfr.1 hf
   refine (h.tok hf').app (ev_not hG.ev h.hW.2.2.2.1 ?_ ?_)
   ·have how:=hown'.ow (p.n0+i) p.C (by omega)
    rw [hself] at how
    exact fun x=>how x (.inr ⟨hf',rfl⟩)
   ·exact fun x=>h.own.dw (p.n0+i) p.C (by omega) x (.inr ⟨hf',rfl⟩)
 obtain ⟨gs',bl',bw',k1,k2⟩:=h.worker0 (sl:=sl) hi hbi hgo hd hseat hG.size (fun k hk hne=>hG.rely h.ownW (by omega) hk hne) (fun k hk=>with_other hk _ _) hti'
   (by rw [pred_eq hfr];exact hown') (fun he=>by rw [hself];obtain ⟨a,b,c⟩:=hearly he;exact ⟨a,b,by rw [←a,←b];exact c⟩) hlkd hph htok (fun hs=>.inl (h.hold i hi (hh.1 hs))) hcell hover hnr hmi hmd hbl
 exact ⟨gs',bl',bw',_,k1,k2⟩
end Ph
end Go.Mx
