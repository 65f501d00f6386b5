import Derived.Conc.MuWords
import Derived.Conc.Walk
import Derived.Conc.Own5
import Derived.KernelRfl
import Derived.Test.YtmgllphkofdnhaaGreatH12
import Derived.Test.YtmgllphkofdnhaaGreatH13
import Derived.Test.YtmgllphkofdnhaaGreatH25
set_option linter.unusedVariables false
set_option linter.unusedSectionVars false
set_option linter.unusedSimpArgs false
namespace Go.Mx
open Go.ConcN (sumTo upd upd_same upd_ne sumTo_upd le_sumTo sumTo_le sumTo_congr)
section
variable{B j q q':Nat}{lk:Nat→Lk}{m m':Wd}{i:Nat}{x y:Lk}
theorem MI.still(h:MI B j lk m q)(hi:i < j)(hO:cO y=cO (lk i))(hK:cK y=cK (lk i))(hT:cT y=cT (lk i))(hU:cU y=cU (lk i))(hA:cA y=cA (lk i))(hW:cW y=cW (lk i))
  (hs:¬seeks (lk i)∨seeks y∨¬(m.L=0∧m.W=0∧m.S=0∧0 < m.n)) (hw:Wf B m y):MI B j (upd lk i y) m q:=by
 have eO:=sm_upd (lk:=lk) cO y hi
 have eK:=sm_upd (lk:=lk) cK y hi
 have eT:=sm_upd (lk:=lk) cT y hi
 have eU:=sm_upd (lk:=lk) cU y hi
 have eA:=sm_upd (lk:=lk) cA y hi
 have eW:=sm_upd (lk:=lk) cW y hi
 have own:=h.own
 have nor:=h.nor
 have sta:=h.sta
 refine h.mk' hi h.bits (by omega) (fun e=>?_) (fun e=>?_) (fun h1 h2 h3 h4=>?_) hw (.inl (Nat.le_refl _)) h.a_le
 ·have:=nor e;omega
 ·have:=sta e;omega
 ·rcases hs with hs|hs|hs
  · exact .inr ⟨hs,h1,h2,h3,h4⟩
  · exact .inl hs
  · exact absurd ⟨h1,h3,h2,h4⟩ hs
theorem MI.step(h:MI B j lk m q)(hi:i < j)(hx:lk i=x)(k:Mv m q x m' q' y):MI B j (upd lk i y) m' q' :=by
 have wfx:=h.wf i hi
 rw [hx] at wfx
 have hle:=h.le
 have hjB:=h.jB
 have eO:=sm_upd (lk:=lk) cO y hi
 have eK:=sm_upd (lk:=lk) cK y hi
 have eT:=sm_upd (lk:=lk) cT y hi
 have eU:=sm_upd (lk:=lk) cU y hi
 have eA:=sm_upd (lk:=lk) cA y hi
 have eW:=sm_upd (lk:=lk) cW y hi
 have lO:=sm_le (lk:=lk) cO hi
 have lK:=sm_le (lk:=lk) cK hi
 have lT:=sm_le (lk:=lk) cT hi
 have lU:=sm_le (lk:=lk) cU hi
 have lA:=sm_le (lk:=lk) cA hi
 have lW:=sm_le (lk:=lk) cW hi
 rw [hx] at eO eK eT eU eA eW lO lK lT lU lA lW
 have own:=h.own
 have nor:=h.nor
 have sta:=h.sta
 have bL:=h.bits.L
 have bW:=h.bits.W
 have bS:=h.bits.S
 have seen:∀ {aw sv:Bool} {it:Nat},(sv=true→aw=true)→it≤4→(aw=true→m.W=1∧m.S=0)→WfT B ⟨m,aw,sv,it⟩:=fun a b c=>⟨h.bits,by show m.n≤B;omega,a,c,b⟩
 have awake:∀ {aw:Bool},bit aw≤sm cK j lk→aw=true→m.W=1∧m.S=0:=by
  intro aw hb ha
  subst ha
  simp only [bit,if_true] at hb
  rcases Nat.eq_zero_or_pos m.S with e|e
  · have:=nor e;omega
  · have:=sta (by omega);omega
 cases k with
 |enter=>exact h.still hi (by rw [hx];rfl) (by rw [hx];rfl) (by rw [hx];rfl) (by rw [hx];rfl) (by rw [hx];rfl) (by rw [hx];rfl) (.inl (by rw [hx];exact id)) trivial
 |l0f e=>
  subst e
  have hn:=nor rfl
  simp only [cO,cK,cT,cU,cA,cW] at eO eK eT eU eA eW lO lK lT lU lA lW hn own
  exact h.mk' hi ⟨by simp,by simp,by simp⟩ (by simp only [];omega) (fun _=>by simp only [];omega) (fun e=>by cases e) (fun e=>by cases e) trivial (.inl (Nat.le_refl _)) h.a_le
 |l0s e=>exact h.still hi (by rw [hx];rfl) (by rw [hx];rfl) (by rw [hx];rfl) (by rw [hx];rfl) (by rw [hx];rfl) (by rw [hx];rfl) (.inl (by rw [hx];exact id)) ⟨fun x=>x,by omega⟩
 |rd=>
  rename_i aw sv it
  obtain ⟨w1,w2⟩:=wfx
  obtain ⟨c1,c2,c3,c4,c5,c6⟩:=c_hd ⟨m,aw,sv,it⟩
  exact h.still hi (by rw [hx,c1];rfl) (by rw [hx,c2];rfl) (by rw [hx,c3];rfl) (by rw [hx,c4];rfl) (by rw [hx,c5];rfl) (by rw [hx,c6];rfl) (.inl (by rw [hx];exact id)) (wf_hd (seen w1 w2 (awake lK)))
 |sqn=>exact h.still hi (by rw [hx];rfl) (by rw [hx];rfl) (by rw [hx];rfl) (by rw [hx];rfl) (by rw [hx];rfl) (by rw [hx];rfl) (.inl (by rw [hx];exact id)) wfx.1
 |sqc e ha=>exact h.still hi (by rw [hx];rfl) (by rw [hx];rfl) (by rw [hx];rfl) (by rw [hx];rfl) (by rw [hx];rfl) (by rw [hx];rfl) (.inl (by rw [hx];exact id)) ⟨wfx.1,wfx.2.1,wfx.2.2,ha.2.1,by omega,ha.1,e⟩
 |sqr e ha=>exact h.still hi (by rw [hx];rfl) (by rw [hx];rfl) (by rw [hx];rfl) (by rw [hx];rfl) (by rw [hx];rfl) (by rw [hx];rfl) (.inl (by rw [hx];exact id)) ⟨wfx.1.2.2.1,by omega⟩
 |c1y e=>
  rename_i T
  obtain ⟨w1,w2,w3,w4,w5,w6,w7⟩:=wfx
  subst e
  simp only [cO,cK,cT,cU,cA,cW,bit,w6,Bool.false_eq_true,if_false,if_true] at *
  have:=nor w3
  refine h.mk' hi ⟨bL,Nat.le_refl _,bS⟩ (by simp only [];omega) (fun _=>by simp only [];omega) (fun e=>by simp only [] at e;omega) (fun _ _ e=>by simp at e) ⟨fun _=>rfl,by omega⟩ (.inl (Nat.le_refl _)) h.a_le
 |c1n e=>
  obtain ⟨w1,w2,w3,w4,w5,w6,w7⟩:=wfx
  exact h.still hi (by rw [hx];rfl) (by rw [hx];simp only [cK,w6]) (by rw [hx];rfl) (by rw [hx];rfl) (by rw [hx];rfl) (by rw [hx];rfl) (.inl (by rw [hx];exact id)) ⟨fun e=>by have:=w1.2.2.1 e;rw [w6] at this;exact this,by omega⟩
 |c2l e e1=>
  rename_i T
  obtain ⟨w1,w2,w3,w4,w5⟩:=wfx
  subst e
  have hn:=nor e1.2
  cases haw:T.aw with
  | false=>
    simp only [cO,cK,cT,cU,cA,cW,bit,haw,Bool.false_eq_true,if_false,if_true] at *
    exact h.mk' hi ⟨Nat.le_refl _,bW,Nat.zero_le _⟩ (by simp only [];omega) (fun _=>by simp only [];omega) (fun e=>by simp at e) (fun e=>by simp at e) trivial (.inl (Nat.le_refl _)) h.a_le
  | true=>
    simp only [cO,cK,cT,cU,cA,cW,bit,haw,Bool.false_eq_true,if_false,if_true] at *
    have:=(w4 trivial).1
    exact h.mk' hi ⟨Nat.le_refl _,Nat.zero_le _,Nat.zero_le _⟩ (by simp only [];omega) (fun _=>by simp only [];omega) (fun e=>by simp at e) (fun e=>by simp at e) trivial (.inl (Nat.le_refl _)) h.a_le
 |c2q e e1 hy=>
  rename_i T
  obtain ⟨w1,w2,w3,w4,w5⟩:=wfx
  have hcy:cO y=0∧cK y=0∧cT y=0∧cU y=0∧cA y=0∧cW y=1∧Wf B ⟨m.L,if T.aw then 0 else m.W,if T.sv∧m.L=1 then 1 else m.S,m.n+1⟩ y:=by
    rcases hy with rfl|rfl<;>exact ⟨rfl,rfl,rfl,rfl,rfl,rfl,trivial⟩
  obtain ⟨y1,y2,y3,y4,y5,y6,y7⟩:=hcy
  rw [y1] at eO;rw [y2] at eK;rw [y3] at eT;rw [y4] at eU;rw [y5] at eA;rw [y6] at eW
  subst e
  simp only [cO,cK,cT,cU,cA,cW] at eO eK eT eU eA eW lO lK lT lU lA lW
  rcases Nat.eq_zero_or_pos T.old.S with eS|eS
  · have hn:=nor eS
    have hL:T.old.L=1:=by omega
    cases haw:T.aw with
    |false=>
     have hsv:T.sv=false:=by cases hh:T.sv with|false=>rfl|true=>have:=w3 hh;rw [haw] at this;cases this
     rw [haw,hsv] at y7
     simp only [bit,haw,hsv,Bool.false_eq_true,if_false,false_and] at *
     exact h.mk' hi ⟨bL,bW,bS⟩ (by simp only [];omega) (fun _=>by simp only [];omega) (fun e=>by simp only [] at e;omega) (fun e=>by simp only [] at e;omega) y7 (.inl (by simp only [];omega)) h.a_le
    |true=>
     have hw1:=(w4 haw).1
     cases hsv:T.sv with
     |false=>
      rw [haw,hsv] at y7
      simp only [bit,haw,hsv,Bool.false_eq_true,if_false,if_true,false_and] at *
      exact h.mk' hi ⟨bL,Nat.zero_le _,bS⟩ (by simp only [];omega) (fun _=>by simp only [];omega) (fun e=>by simp only [] at e;omega) (fun e=>by simp only [] at e;omega) y7 (.inl (by simp only [];omega)) h.a_le
     |true=>
      simp only [bit,haw,if_true] at eK lK
      simp only [haw,hsv,hL,if_true,and_self] at y7 ⊢
      exact h.mk' hi ⟨by simp,Nat.zero_le _,Nat.le_refl _⟩ (by simp only [];omega) (fun e=>by simp at e) (fun _=>by simp only [];refine ⟨trivial,by omega,by omega,by omega,by omega⟩) (fun e=>by simp at e) y7 (.inl (by simp only [];omega)) h.a_le
  · have hs:=sta (by omega)
    have haw:T.aw=false:=by cases hh:T.aw with|false=>rfl|true=>have:=(w4 hh).2;omega
    have hsv:T.sv=false:=by cases hh:T.sv with|false=>rfl|true=>have:=w3 hh;rw [haw] at this;cases this
    rw [haw,hsv] at y7
    simp only [bit,haw,hsv,Bool.false_eq_true,if_false,false_and] at *
    exact h.mk' hi ⟨bL,bW,bS⟩ (by simp only [];omega) (fun e=>by simp only [] at e;omega) (fun _=>by simp only [];omega) (fun _ e=>by simp only [] at e;omega) y7 (.inl (by simp only [];omega)) h.a_le
 |c2n e=>exact h.still hi (by rw [hx];rfl) (by rw [hx];rfl) (by rw [hx];rfl) (by rw [hx];rfl) (by rw [hx];rfl) (by rw [hx];rfl) (.inl (by rw [hx];exact id)) ⟨wfx.2.2.1,wfx.2.2.2.2⟩
 |t1=>exact h.still hi (by rw [hx];rfl) (by rw [hx];rfl) (by rw [hx];rfl) (by rw [hx];rfl) (by rw [hx];rfl) (by rw [hx];rfl) (.inl (by rw [hx];exact id)) trivial
 |s1=>
  rename_i sv
  have hcy:∀y,y=(if sv then Lk.r2 true else .t2)→cO y=0∧cK y=0∧cT y=1∧cU y=0∧cA y=0∧cW y=0∧Wf B m y:=by
    intro y e;subst e;cases sv<;>exact ⟨rfl,rfl,rfl,rfl,rfl,rfl,trivial⟩
  obtain ⟨y1,y2,y3,y4,y5,y6,y7⟩:=hcy _ rfl
  rw [y1] at eO;rw [y2] at eK;rw [y3] at eT;rw [y4] at eU;rw [y5] at eA;rw [y6] at eW
  simp only [cO,cK,cT,cU,cA,cW] at eO eK eT eU eA eW lO lK lT lU lA lW
  exact h.mk' hi h.bits (by omega) (fun e=>by have:=nor e;omega) (fun e=>by have:=sta e;omega) (fun a b c d=>.inr ⟨by rw [hx];exact id,a,b,c,d⟩) y7 (.inl (Nat.le_refl _)) h.a_le
 |t2=>exact h.still hi (by rw [hx];rfl) (by rw [hx];rfl) (by rw [hx];rfl) (by rw [hx];rfl) (by rw [hx];rfl) (by rw [hx];rfl) (.inl (by rw [hx];exact id)) trivial
 |r2n e=>
  rename_i sv
  obtain ⟨c1,c2,c3,c4,c5,c6⟩:=c_hd ⟨m,true,sv,0⟩
  rw [c1] at eO;rw [c2] at eK;rw [c3] at eT;rw [c4] at eU;rw [c5] at eA;rw [c6] at eW
  simp only [cO,cK,cT,cU,cA,cW,bit,if_true] at eO eK eT eU eA eW lO lK lT lU lA lW
  have hn:=nor e
  exact h.mk' hi h.bits (by omega) (fun e=>by omega) (fun e=>by omega) (fun a b c d=>.inr ⟨by rw [hx];exact id,a,b,c,d⟩) (wf_hd (seen (fun _=>rfl) (by omega) fun _=>⟨by omega,e⟩)) (.inl (Nat.le_refl _)) h.a_le
 |r2s e=>
  rename_i sv
  simp only [cO,cK,cT,cU,cA,cW] at eO eK eT eU eA eW lO lK lT lU lA lW
  have hs:=sta e
  refine h.mk' hi h.bits (by omega) (fun e=>by omega) (fun e=>by omega) (fun a b c d=>by omega) (fun hc=>?_) (.inl (Nat.le_refl _)) h.a_le
  simp only [Bool.or_eq_false_iff,Bool.not_eq_false',decide_eq_false_iff_not] at hc
  omega
 |a1=>
  rename_i sv cl
  simp only [cO,cK,cT,cU,cA,cW] at eO eK eT eU eA eW lO lK lT lU lA lW
  have hS:m.S=1:=by
    rcases Nat.eq_zero_or_pos m.S with e|e
    ·have:=nor e;omega
    ·omega
  have hs:=sta hS
  cases cl with
  | false=>
    have hw:2≤m.n:=wfx rfl
    simp only [Bool.false_eq_true,if_false]
    exact h.mk' hi ⟨Nat.le_refl _,bW,bS⟩ (by simp only [];omega) (fun e=>by simp only [] at e;omega) (fun _=>by simp only [];omega) (fun e=>by simp at e) trivial (.inr (.inr (by rw [hx];exact Nat.le_refl _))) h.a_le
  | true=>
    simp only [if_true]
    exact h.mk' hi ⟨Nat.le_refl _,bW,Nat.zero_le _⟩ (by simp only [];omega) (fun _=>by simp only [];omega) (fun e=>by simp at e) (fun e=>by simp at e) trivial (.inr (.inr (by rw [hx];exact Nat.le_refl _))) h.a_le
 |u0d e=>
  simp only [cO,cK,cT,cU,cA,cW] at eO eK eT eU eA eW lO lK lT lU lA lW
  have hn:=nor e.1
  exact h.mk' hi ⟨Nat.zero_le _,bW,bS⟩ (by simp only [];omega) (fun _=>by simp only [];omega) (fun e'=>by simp only [] at e';omega) (fun _ _ e2 e3=>by simp only [] at e2 e3;omega) trivial (.inl (Nat.le_refl _)) h.a_le
 |u0c e=>
  simp only [cO,cK,cT,cU,cA,cW] at eO eK eT eU eA eW lO lK lT lU lA lW
  have hn:=nor e.1
  exact h.mk' hi ⟨Nat.zero_le _,bW,bS⟩ (by simp only [];omega) (fun _=>by simp only [];omega) (fun e'=>by simp only [] at e';omega) (fun _ _ _ _=>.inl trivial) ⟨⟨Nat.zero_le _,bW,bS⟩,rfl,e.2.1,e.1,e.2.2,by show m.n≤B;omega⟩ (.inl (Nat.le_refl _)) h.a_le
 |u0s e=>
  simp only [cO,cK,cT,cU,cA,cW] at eO eK eT eU eA eW lO lK lT lU lA lW
  have hs:=sta e
  exact h.mk' hi ⟨Nat.zero_le _,bW,bS⟩ (by simp only [];omega) (fun e'=>by simp only [] at e';omega) (fun _=>by simp only [];omega) (fun _ e2=>by simp only [] at e2;omega) trivial (.inl (Nat.le_refl _)) h.a_le
 |ucy e=>
  rename_i o
  obtain ⟨w1,w2,w3,w4,w5,w6⟩:=wfx
  subst e
  simp only [cO,cK,cT,cU,cA,cW] at eO eK eT eU eA eW lO lK lT lU lA lW
  have hn:=nor w4
  exact h.mk' hi ⟨bL,Nat.le_refl _,bS⟩ (by simp only [];omega) (fun _=>by simp only [];omega) (fun e'=>by simp only [] at e';omega) (fun _ _ e2=>by simp at e2) trivial (.inr (.inl (by omega))) h.a_le
 |ucn e=>exact h.still hi (by rw [hx];rfl) (by rw [hx];rfl) (by rw [hx];rfl) (by rw [hx];rfl) (by rw [hx];rfl) (by rw [hx];rfl) (.inr (.inl trivial)) trivial
 |uxd e=>exact h.still hi (by rw [hx];rfl) (by rw [hx];rfl) (by rw [hx];rfl) (by rw [hx];rfl) (by rw [hx];rfl) (by rw [hx];rfl) (.inr (.inr e)) trivial
 |uxc e=>exact h.still hi (by rw [hx];rfl) (by rw [hx];rfl) (by rw [hx];rfl) (by rw [hx];rfl) (by rw [hx];rfl) (by rw [hx];rfl) (.inr (.inl trivial)) ⟨h.bits,e.1,e.2.1,e.2.2.1,e.2.2.2,by omega⟩
 |us=>
  simp only [cO,cK,cT,cU,cA,cW] at eO eK eT eU eA eW lO lK lT lU lA lW
  exact h.mk' hi h.bits (by omega) (fun e=>by have:=nor e;omega) (fun e=>by have:=sta e;omega) (fun a b c d=>.inr ⟨by rw [hx];exact id,a,b,c,d⟩) trivial (.inl (Nat.le_refl _)) h.a_le
end
end Go.Mx
namespace Go.Mx
open Go.ConcN (sumTo upd upd_same upd_ne sumTo_upd le_sumTo sumTo_le sumTo_congr)
def pt:Lk→Nat
 | .out | .l0 | .c1 _=>5
 | .rd aw _ _=>if aw then 4 else 5
 | .sq T | .c2 T=>if T.aw then 4 else 5
 | .t1 _ | .s1 _ | .own=>3
 | .t2 | .r2 _ | .a1 _ _=>4
 | .uc _ | .ux=>2
 | .us=>1
 | .done=>0
def rk(m:Wd):Lk→Nat
 | .out=>60
 | .l0=>59
 | .rd _ _ it=>3 * (5 - it)+3
 | .sq T=>if T.old=m then 3 * (5 - T.it)+2 else 3 * (5 - T.it)+6
 | .c1 T=>if T.old=m then 3 * (5 - T.it)+1 else 3 * (5 - T.it)+5
 | .c2 T=>if T.old=m then 1 else 3 * (5 - T.it)+4
 | .t1 _=>50
 | .s1 _=>49
 | .t2=>48
 | .r2 _=>47
 | .a1 _ _=>1
 | .own=>40
 | .uc o=>if o=m then 1 else 3
 | .ux=>2
 | .us=>1
 | .done=>0
section
variable{B j q q':Nat}{lk:Nat→Lk}{m m':Wd}{i:Nat}{x y:Lk}
theorem pt_hd(T:Lo):pt (hd T)=if T.aw then 4 else 5:=by unfold hd;split<;>rfl
theorem rk_hd(T:Lo)(h:T.old=m):rk m (hd T)≤3 * (5 - T.it)+2:=by
 unfold hd
 split
 ·simp [rk,h]
 ·simp [rk,h]
theorem Mv.nearer(h:Mv m q x m' q' y)(hw:Wf B m x):pt y+q' < pt x+q∨(m' = m∧pt y+q' = pt x+q∧rk m y < rk m x):=by
 cases h with
 |enter=>exact .inr ⟨rfl,rfl,by simp [rk]⟩
 |l0f e=>exact .inl (by simp [pt])
 |l0s e=>exact .inr ⟨rfl,by simp [pt],by simp [rk]⟩
 |rd=>
  rename_i aw sv it
  refine .inr ⟨rfl,by rw [pt_hd];rfl,?_⟩
  have:=rk_hd (m:=m) ⟨m,aw,sv,it⟩ rfl
  show rk m (hd ⟨m,aw,sv,it⟩) < 3 * (5 - it)+3
  dsimp only at this
  omega
 |sqn=>
  rename_i T
  refine .inr ⟨rfl,rfl,?_⟩
  simp only [rk]
  split<;>omega
 |sqc e ha=>
  rename_i T
  refine .inr ⟨rfl,by simp [pt,ha.1],?_⟩
  simp only [rk]
  split<;>omega
 |sqr e ha=>
  rename_i T
  refine .inr ⟨rfl,rfl,?_⟩
  simp only [rk]
  split<;>omega
 |c1y e=>exact .inl (by simp [pt])
 |c1n e=>
  rename_i T
  have h4:=hw.2.2.2.2.2.2
  refine .inr ⟨rfl,by simp [pt],?_⟩
  simp only [rk]
  split<;>omega
 |c2l e e1=>exact .inl (by simp only [pt];split<;>omega)
 |c2q e e1 hy=>
  refine .inl ?_
  rcases hy with rfl|rfl<;>(simp only [pt];split<;>omega)
 |c2n e=>
  rename_i T
  refine .inr ⟨rfl,rfl,?_⟩
  simp only [rk]
  rw [if_neg (fun x=>e x.symm)]
  omega
 |t1=>exact .inr ⟨rfl,rfl,by simp [rk]⟩
 |s1=>
  rename_i sv
  refine .inr ⟨rfl,?_,?_⟩
  · cases sv<;>simp only [pt]<;>simp<;>omega
  · cases sv<;>simp [rk]
 |t2=>exact .inr ⟨rfl,rfl,by simp [rk]⟩
 |r2n e=>
  rename_i sv
  refine .inr ⟨rfl,by rw [pt_hd];rfl,?_⟩
  have:=rk_hd (m:=m) ⟨m,true,sv,0⟩ rfl
  dsimp only at this
  show rk m (hd ⟨m,true,sv,0⟩) < 47
  omega
 |r2s e=>exact .inr ⟨rfl,rfl,by simp [rk]⟩
 |a1=>exact .inl (by simp [pt])
 |u0d e=>exact .inl (by simp [pt])
 |u0c e=>exact .inl (by simp [pt])
 |u0s e=>exact .inl (by simp [pt])
 |ucy e=>exact .inl (by simp [pt])
 |ucn e=>
  refine .inr ⟨rfl,rfl,?_⟩
  simp only [rk]
  rw [if_neg (fun x=>e x.symm)]
  omega
 |uxd e=>exact .inl (by simp [pt])
 |uxc e=>exact .inr ⟨rfl,rfl,by simp [rk]⟩
 |us=>exact .inr ⟨rfl,by simp only [pt];omega,by simp [rk]⟩
def Phi(j:Nat)(lk:Nat→Lk)(q:Nat):Nat:=sm pt j lk+q
theorem Phi.step(hi:i < j)(hx:lk i=x)(h:Mv m q x m' q' y)(hw:Wf B m x):Phi j (upd lk i y) q' < Phi j lk q∨(m' = m∧Phi j (upd lk i y) q' = Phi j lk q∧rk m y < rk m x):=by
 have e:=sm_upd (lk:=lk) pt y hi
 have l:=sm_le (lk:=lk) pt hi
 rw [hx] at e l
 unfold Phi
 rcases h.nearer hw with h|⟨h1,h2,h3⟩
 ·exact .inl (by omega)
 ·exact .inr ⟨h1,by omega,h3⟩
def act:Lk→Prop
 | .out | .s1 _ | .done=>False
 |_=>True
theorem sm_zero{φ:Lk→Nat}:∀ {j:Nat},(∀k,k < j→φ (lk k)=0)→sm φ j lk=0
 |0,_=>rfl
 |j+1,h=>by
  have h1:sm φ j lk=0:=sm_zero fun k hk=>h k (by omega)
  unfold sm at h1 ⊢
  simp only [sumTo]
  rw [h1,h j (by omega)]
theorem MI.alive(h:MI B j lk m 0)(hi:i < j){sv:Bool}(hx:lk i = .s1 sv):∃k,k < j∧act (lk k):=by
 apply Classical.byContradiction
 intro hn
 have hall:∀k,k < j→lk k = .out∨(∃sv,lk k = .s1 sv)∨lk k = .done:=by
  intro k hk
  have:¬act (lk k):=fun x=>hn ⟨k,hk,x⟩
  revert this
  cases lk k<;>simp [act]
 have z:∀ {φ:Lk→Nat},φ .out=0→φ .done=0→(∀sv,φ (.s1 sv)=0)→sm φ j lk=0:=fun a b c=>sm_zero fun k hk=>by
  rcases hall k hk with e|⟨sv,e⟩|e<;>rw [e]
  · exact a
  · exact c _
  · exact b
 have zO:=z (φ:=cO) rfl rfl fun _=>rfl
 have zK:=z (φ:=cK) rfl rfl fun _=>rfl
 have zT:=z (φ:=cT) rfl rfl fun _=>rfl
 have zU:=z (φ:=cU) rfl rfl fun _=>rfl
 have zA:=z (φ:=cA) rfl rfl fun _=>rfl
 have lW:=sm_le (lk:=lk) cW hi
 rw [hx] at lW
 simp only [cW] at lW
 have own:=h.own
 have bS:=h.bits.S
 have bW:=h.bits.W
 rcases Nat.eq_zero_or_pos m.S with e|e
 ·have hn1:=h.nor e
  obtain ⟨k,hk,hs⟩:=h.prog (by omega) e (by omega) (by omega)
  refine hn ⟨k,hk,?_⟩
  revert hs
  cases lk k<;>simp [seeks,act]
 ·have hs:=h.sta (by omega)
  omega
end
end Go.Mx
namespace Go.Mx
open Go.Ren
open Go.Conc hiding Goes mem_ofEvents
open Go.ConcN (sumTo upd upd_same upd_ne RelBy get_map_set get_map_set_same WgLive)
open Go.Conc.Lib (WgLink)
open Go.ConcR (KK WgAt stA smA rd wr mk g_of_ofEvents loc_of_ofEvent)
def MuAt(ty:TypeId)(Mu:Nat)(w:World)(m:Wd)(q:Nat):Prop:=w.heap[Mu]? = some (.cells #[.int .i32 (m.num:Int),.int .u32 (q:Int)] ty)
def MuLv(ty:TypeId)(Mu:Nat)(w:World):Prop:=∃m q:Int,w.heap[Mu]? = some (.cells #[.int .i32 m,.int .u32 q] ty)
abbrev Vals:=Array Value
def CellIs(oe:Nat×Nat)(C:Nat)(v:Vals)(w:World):Prop:=∃(A:Array Value) (E:TypeId),w.heap[C]? = some (.cells A E (0,0))∧oe.1+oe.2≤A.size∧v.size≤oe.2∧∀(i:Nat) (x:Value),v[i]? = some x→A[oe.1+i]? = some x
structure EffM(Mu:Nat)(w w':World):Prop where
 size:w'.heap.size=w.heap.size
 heap:∀b,b≠Mu→w'.heap[b]? = w.heap[b]?
 os:Tm w.os w'.os
 output:w'.output=w.output
 tape:w'.tape=w.tape
def Fits(B:Nat)(m:Wd)(q:Nat)(x:Lk):Prop:=m.Bits∧m.n≤B∧q≤1∧Wf B m x∧match x with
 | .rd aw _ _=>aw=true→m.W=1∧m.S=0
 | .r2 _=>(m.S=0→m.W=1)∧(m.S=1→m.L=0∧m.W=0∧1≤m.n)
 | .a1 _ _=>m.S=1∧m.L=0∧m.W=0∧1≤m.n
 | .own=>m.L=1
 |_=>True
theorem MI.q_le{B j:Nat}{lk:Nat→Lk}{m:Wd}{q:Nat}(h:MI B j lk m q):q≤1:=by
 have hS:=h.bits.S
 have hW:=h.bits.W
 rcases Nat.eq_zero_or_pos m.S with e|e
 ·have:=h.nor e;omega
 ·have:=h.sta (by omega);omega
theorem MI.fits{B j:Nat}{lk:Nat→Lk}{m:Wd}{q i:Nat}(h:MI B j lk m q)(hi:i < j):Fits B m q (lk i):=by
 have hle:=h.le
 have hjB:=h.jB
 refine ⟨h.bits,by omega,h.q_le,h.wf i hi,?_⟩
 have hS:=h.bits.S
 have hW:=h.bits.W
 have lO:=sm_le (lk:=lk) cO hi
 have lK:=sm_le (lk:=lk) cK hi
 have lT:=sm_le (lk:=lk) cT hi
 have lA:=sm_le (lk:=lk) cA hi
 have nor:=h.nor
 have sta:=h.sta
 have own:=h.own
 have hL:=h.bits.L
 generalize lk i=x at lO lK lT lA
 cases x<;>dsimp only<;>try trivial
 ·rename_i aw sv it
  intro ha
  subst ha
  simp only [cK,bit,if_true] at lK
  rcases Nat.eq_zero_or_pos m.S with e|e
  · have:=nor e;omega
  · have:=sta (by omega);omega
 ·simp only [cT] at lT
  refine ⟨fun e=>?_,fun e=>?_⟩
  · have:=nor e;omega
  · have:=sta e;omega
 ·simp only [cA] at lA
  rcases Nat.eq_zero_or_pos m.S with e|e
  · have:=nor e;omega
  · have:=sta (by omega);omega
 ·simp only [cO] at lO
  omega
section
variable(P:Program)(I:World→Prop)(tM:TypeId)(Mu B:Nat)
def Law(K:Lk→Nat→Goroutine→Prop)(x:Lk)(d:Nat)(g:Goroutine):Prop:=
 d=1∧g.status = .running∧g.offers=none∧(x = .us→mayWake P g=true)∧∀(w:World) (m:Wd) (q:Nat),I w→MuAt tM Mu w m q→Fits B m q x →
  ((∃sv,x = .s1 sv)∧q=0∧stepG P false g w = .go { g with status:=.blocked } w #[]) ∨
  (∃(y:Lk) (m':Wd) (q':Nat) (g':Goroutine) (w':World) (es:Array Event),Mv m q x m' q' y∧stepG P false g w = .go g' w' es∧MuAt tM Mu w' m' q' ∧ EffM Mu w w' ∧ (∀e∈es,LibEv Mu e)∧(x = .us→g'.status = .running)∧K y (deafBehind d es) g')
def Nx(R:Lk→Nat→Goroutine→Prop)(E:Nat→Goroutine→Prop)(y:Lk)(d:Nat)(g:Goroutine):Prop:=match y with
 | .own | .done=>E d g
 |y=>R y d g
def LSeat(E:Nat→Goroutine→Prop)(x:Lk)(d:Nat)(g:Goroutine):Prop:=
 ∃R:Lk→Nat→Goroutine→Prop,(∀y d g,R y d g→IdleD P false I X0 (Law P I tM Mu B (Nx R E) y) d g)∧R x d g
end
section
variable{P:Program}{I:World→Prop}{tM:TypeId}{Mu B:Nat}{K K':Lk→Nat→Goroutine→Prop}{E E':Nat→Goroutine→Prop}{x:Lk}{d:Nat}{g:Goroutine}
theorem Law.mono(h:Law P I tM Mu B K x d g)(hk:∀y d g,K y d g→K' y d g):Law P I tM Mu B K' x d g:=by
 obtain ⟨h1,h2,h3,h4,h5⟩:=h
 refine ⟨h1,h2,h3,h4,fun w m q hi hm hf=>?_⟩
 rcases h5 w m q hi hm hf with h|⟨y,m',q',g',w',es,k1,k2,k3,k4,k5,k6,k7⟩
 ·exact .inl h
 ·exact .inr ⟨y,m',q',g',w',es,k1,k2,k3,k4,k5,k6,hk _ _ _ k7⟩
theorem Nx.mono{R R':Lk→Nat→Goroutine→Prop}(hr:∀y d g,R y d g→R' y d g)(he:∀d g,E d g→E' d g){y:Lk}(h:Nx R E y d g):Nx R' E' y d g:=by
 cases y<;>first|exact he _ _ h|exact hr _ _ _ h
theorem LSeat.out(h:LSeat P I tM Mu B E x d g):IdleD P false I X0 (Law P I tM Mu B (Nx (LSeat P I tM Mu B E) E) x) d g:=by
 obtain ⟨R,h1,h2⟩:=h
 exact (h1 _ _ _ h2).mono fun d g k=>k.mono fun y d g x=>x.mono (fun y d g hr=>⟨R,h1,hr⟩) fun _ _ he=>he
theorem LSeat.exit(he:∀d g,E d g→E' d g)(h:LSeat P I tM Mu B E x d g):LSeat P I tM Mu B E' x d g:=by
 obtain ⟨R,h1,h2⟩:=h
 exact ⟨R,fun y d g hr=>(h1 y d g hr).mono fun d g k=>k.mono fun y d g x=>x.mono (fun _ _ _ z=>z) he,h2⟩
theorem LSeat.idle(h:IdleD P false I X0 (Law P I tM Mu B (Nx (LSeat P I tM Mu B E) E) x) d g):LSeat P I tM Mu B E x d g:=
 ⟨fun y d g=>IdleD P false I X0 (Law P I tM Mu B (Nx (LSeat P I tM Mu B E) E) y) d g,fun y d g hr=>hr.mono fun d g k=>k.mono fun y d g z=>z.mono (fun y d g hs=>hs.out) fun _ _ he=>he,h⟩
end
inductive WT where
 |work|lck (x:Lk)|en|ac|cr (v:Vals)|rl|ds|ulk (x:Lk)|ue|fin (s:Nat)
def lkOf:WT→Lk
 | .work=>.out
 | .lck x | .ulk x=>x
 | .en | .ac | .cr _ | .rl | .ds=>.own
 | .ue | .fin _=>.done
def stN:WT→Nat
 | .fin s=>s
 |_=>8
def holds:WT→Prop
 | .cr _ | .rl=>True
 |_=>False
def early:WT→Prop
 | .work | .lck _ | .en | .ac | .cr _=>True
 |_=>False
def past:WT→Prop
 | .rl | .ds | .ulk _ | .ue | .fin _=>True
 |_=>False
def isL:Lk→Prop
 | .l0 | .rd .. | .sq _ | .c1 _ | .c2 _ | .t1 _ | .s1 _ | .t2 | .r2 _ | .a1 .. =>True
 |_=>False
def isU:Lk→Prop
 | .own | .uc _ | .ux | .us=>True
 |_=>False
theorem isL_hd(T:Lo):isL (hd T):=by unfold hd;split<;>trivial
theorem Mv.inL{m m':Wd}{q q':Nat}{x y:Lk}(h:Mv m q x m' q' y)(hx:isL x):isL y∨y = .own:=by
 cases h<;>first|exact .inr rfl|exact .inl (isL_hd _)|exact .inl trivial|(exact hx.elim)|skip
 ·rename_i hy;rcases hy with rfl|rfl<;>exact .inl trivial
 ·rename_i sv;cases sv<;>exact .inl trivial
theorem Mv.inU{m m':Wd}{q q':Nat}{x y:Lk}(h:Mv m q x m' q' y)(hx:isU x):isU y∨y = .done:=by
 cases h<;>first|exact .inr rfl|exact .inl trivial|(exact hx.elim)
def phase:WT→Prop
 | .lck x=>isL x
 | .ulk x=>isU x
 |_=>True
def rkW(m:Wd):WT→Nat
 | .work=>2000
 | .lck x=>1000+rk m x
 | .en=>900
 | .ac=>890
 | .cr _=>880
 | .rl=>870
 | .ds=>860
 | .ulk x=>500+rk m x
 | .ue=>400
 | .fin s=>s
structure Ph where
 P:Program
 L:WgLink
 tM:TypeId
 oe:Nat×Nat
 Wg:Nat
 Mu:Nat
 C:Nat
 B:Nat
 n:Nat
 n0:Nat
 f:Nat→Vals→Vals
 V:Vals→Prop
 v0:Vals
 locks:Nat→Bool
 Fin:(Nat→Prop)→(Nat→Prop)→Goroutine→World→Prop
namespace Ph
variable(p:Ph)
def I(w:World):Prop:=Lv p.L p.Wg w∧MuLv p.tM p.Mu w
abbrev Lw(K:Lk→Nat→Goroutine→Prop)(x:Lk):Nat→Goroutine→Prop:=Law p.P p.I p.tM p.Mu p.B K x
abbrev Ls(E:Nat→Goroutine→Prop)(x:Lk):Nat→Goroutine→Prop:=LSeat p.P p.I p.tM p.Mu p.B E x
def UeS(d:Nat)(g:Goroutine):Prop:=d=1∧Says p.P false p.I #[Go.ConcR.mk .enable] (IdleD p.P false (Lv p.L p.Wg) X0 (WRel p.P p.L p.Wg) 0) g
def UnE:Nat→Goroutine→Prop:=IdleD p.P false p.I X0 p.UeS
def DsS(d:Nat)(g:Goroutine):Prop:=d=0∧Says p.P false p.I #[Go.ConcR.mk .disable] (p.Ls p.UnE .own 1) g
def RlS(d:Nat)(g:Goroutine):Prop:=d=0∧Says p.P false p.I #[Go.ConcR.mk (.releaseMerge (stA p.Mu))] (IdleD p.P false p.I X0 p.DsS 0) g
def CrS(i:Nat)(v:Vals)(D:Nat→Prop)(d:Nat)(O:Nat→Prop)(g:Goroutine)(w:World):Prop:=
 d=0∧g.status = .running∧CellIs p.oe p.C (p.f i v) w∧∃(g':Goroutine) (es:Array Event),(∀w m q,p.I w→MuAt p.tM p.Mu w m q→stepG p.P false g w = .go g' w es)∧(∀e∈es,LibEv p.Mu e)∧deafBehind 0 es=0∧IdleD p.P false p.I X0 p.RlS 0 g'
def CrT(i:Nat)(O D:Nat→Prop)(w:World)(g:Goroutine):Prop:=
 ∀w' v,Rely O D w w' → p.V v→CellIs p.oe p.C v w' → ¬O p.C→¬D p.C→p.C < w'.heap.size→WkD p.P false p.I X0 D (p.CrS i v D) 0 (fun b=>O b∨b=p.C) g w'
def AcS(T:Goroutine→Prop)(d:Nat)(g:Goroutine):Prop:=d=0∧Says p.P false p.I #[Go.ConcR.mk (.acquire (stA p.Mu))] T g
def EnS(T:Goroutine→Prop)(d:Nat)(g:Goroutine):Prop:=d=1∧Says p.P false p.I #[Go.ConcR.mk .enable] (IdleD p.P false p.I X0 (p.AcS T) 0) g
def LkE(T:Goroutine→Prop):Nat→Goroutine→Prop:=IdleD p.P false p.I X0 (p.EnS T)
def WSkp(i:Nat)(d:Nat)(g:Goroutine):Prop:=d=0∧p.locks i=false∧IdleD p.P false (Lv p.L p.Wg) X0 (WRel p.P p.L p.Wg) 0 g
def WLok(i:Nat)(D:Nat→Prop)(d:Nat)(O:Nat→Prop)(g:Goroutine)(w:World):Prop:=d=0∧p.locks i=true∧Says p.P false p.I #[Go.ConcR.mk .disable] (p.Ls (p.LkE (p.CrT i O D w)) .l0 1) g
def WLk(i:Nat)(D:Nat→Prop)(d:Nat)(O:Nat→Prop)(g:Goroutine)(w:World):Prop:=g.status = .running∧(p.WLok i D d O g w∨p.WSkp i d g)
def MGo(i:Nat)(Nx:(Nat→Prop)→(Nat→Prop)→Goroutine→World→Prop)(D:Nat→Prop)(d:Nat)(O:Nat→Prop)(g:Goroutine)(w:World):Prop:=
 d=0∧g.status = .running∧∀w₁,Rely O D w w₁→p.I w₁→∃(g' child:Goroutine) (M H N:Nat→Prop),stepG p.P true g w₁ = .spawn g' child w₁ #[]∧(∀b,M b→O b)∧(∀b,H b→O b∧¬M b)∧(∀b,N b→D b∨M b) ∧
  WkD p.P false p.I X0 N (p.WLk i N) 0 H child w₁∧Nx (fun b=>D b∨M b) (fun b=>O b∧¬M b∧¬H b) g' w₁
def MAdd(i:Nat)(Nx:(Nat→Prop)→(Nat→Prop)→Goroutine→World→Prop)(D:Nat→Prop)(d:Nat)(O:Nat→Prop)(g:Goroutine)(w:World):Prop:=
 d=1∧g.status = .running∧∀v:Nat,v < 2147483647→Turns p.P true (Lv p.L p.Wg) (fun w=>WgAt p.L.tWg p.Wg w (v * KK) 0) (fun w=>w.setCell (stA p.Wg) (.int .u64 ((v+1) * KK))) #[rd (stA p.Wg),wr (stA p.Wg)]
  (fun g'=>∀w',Rely O D w w' → WkD p.P true p.I (XM p.Wg) D (p.MGo i Nx D) 1 O g' w') g
def Spn:Nat→(Nat→Prop)→(Nat→Prop)→Goroutine→World→Prop
 |0,D,O,g,w=>WkD p.P true p.I (XM p.Wg) D (MWait p.P p.L p.Wg p.Fin D) 0 O g w
 |r+1,D,O,g,w=>WkD p.P true p.I (XM p.Wg) D (p.MAdd (p.n - (r+1)) (Spn r) D) 0 O g w
def MSeat:MTag→Pos→Prop
 | .sp (r+1) 1,x=>WkD p.P true p.I (XM p.Wg) x.D (p.MAdd (p.n - (r+1)) (p.Spn r) x.D) x.d x.O x.g x.w
 | .sp (r+1) 0,x=>WkD p.P true p.I (XM p.Wg) x.D (p.MGo (p.n - (r+1)) (p.Spn r) x.D) x.d x.O x.g x.w
 | .sp 0 1,x=>WkD p.P true p.I (XM p.Wg) x.D (MWait p.P p.L p.Wg p.Fin x.D) x.d x.O x.g x.w
 | .sp _ _,_=>False
 | .w1 _ gT A,x=>Anch p.P p.L p.Wg gT A∧(∀w',Rely x.O x.D x.w w' → p.Fin x.D x.O gT w')∧IdleD p.P true (Lv p.L p.Wg) (XM p.Wg) (M1 p.P p.L p.Wg gT A) x.d x.g
 | .w2 v gT A,x=>Anch p.P p.L p.Wg gT A∧(∀w',Rely x.O x.D x.w w' → p.Fin x.D x.O gT w')∧IdleD p.P true (Lv p.L p.Wg) (XM p.Wg) (M2 p.P p.L p.Wg gT A v) x.d x.g
 | .w3 gT,x=>(∀w',Rely x.O x.D x.w w' → p.Fin x.D x.O gT w')∧IdleD p.P true (Lv p.L p.Wg) (XM p.Wg) (M3 p.P p.L p.Wg gT) x.d x.g
 | .w4 gT,x=>(∀w',Rely x.O x.D x.w w' → p.Fin x.D x.O gT w')∧IdleD p.P true (Lv p.L p.Wg) (XM p.Wg) (M4 p.P p.L p.Wg gT) x.d x.g
 | .acq gT,x=>(∀w',Rely x.O x.D x.w w' → p.Fin x.D x.O gT w')∧IdleD p.P true (Lv p.L p.Wg) (XM p.Wg) (MAcq p.P p.L p.Wg gT) x.d x.g
def MNx:MTag→Pos→Pos→Prop
 | .sp (r+1) 1=>NxD p.P true p.I fun D=>p.MAdd (p.n - (r+1)) (p.Spn r) D
 | .sp (r+1) 0=>NxD p.P true p.I fun D=>p.MGo (p.n - (r+1)) (p.Spn r) D
 | .sp 0 1=>NxD p.P true p.I fun D=>MWait p.P p.L p.Wg p.Fin D
 | .sp _ _=>fun _ _=>False
 | .w1 _ gT A=>NxI p.P true (Lv p.L p.Wg) (M1 p.P p.L p.Wg gT A)
 | .w2 v gT A=>NxI p.P true (Lv p.L p.Wg) (M2 p.P p.L p.Wg gT A v)
 | .w3 gT=>NxI p.P true (Lv p.L p.Wg) (M3 p.P p.L p.Wg gT)
 | .w4 gT=>NxI p.P true (Lv p.L p.Wg) (M4 p.P p.L p.Wg gT)
 | .acq gT=>NxI p.P true (Lv p.L p.Wg) (MAcq p.P p.L p.Wg gT)
theorem mseat_acc:∀(s:MTag) (x:Pos),p.MSeat s x→Acc (p.MNx s) x:=by
 intro s x h
 cases s with
 |sp r s=>
  rcases r with _|r
  · rcases s with _|_|s
    ·exact h.elim
    ·exact WkD.acc h
    ·exact h.elim
  · rcases s with _|_|s
    ·exact WkD.acc h
    ·exact WkD.acc h
    ·exact h.elim
 |w1 v gT A=>exact IdleD.acc h.2.2 x rfl rfl
 |w2 v gT A=>exact IdleD.acc h.2.2 x rfl rfl
 |w3 gT=>exact IdleD.acc h.2 x rfl rfl
 |w4 gT=>exact IdleD.acc h.2 x rfl rfl
 |acq gT=>exact IdleD.acc h.2 x rfl rfl
def St(i:Nat):WT→Pos→Nat→Goroutine→Prop
 | .lck y,x=>p.Lw (Nx (p.Ls (p.LkE (p.CrT i x.O x.D x.w))) (p.LkE (p.CrT i x.O x.D x.w))) y
 | .en,x=>p.EnS (p.CrT i x.O x.D x.w)
 | .ac,x=>p.AcS (p.CrT i x.O x.D x.w)
 | .rl,_=>p.RlS
 | .ds,_=>p.DsS
 | .ulk y,_=>p.Lw (Nx (p.Ls p.UnE) p.UnE) y
 | .ue,_=>p.UeS
 |_,_=>fun _ _=>False
def WSeat(i:Nat):WT→Pos→Prop
 | .work,x=>WkD p.P false p.I X0 x.D (p.WLk i x.D) x.d x.O x.g x.w
 | .cr v,x=>WkD p.P false p.I X0 x.D (p.CrS i v x.D) x.d x.O x.g x.w
 | .fin 7,x=>IdleD p.P false (Lv p.L p.Wg) X0 (WRel p.P p.L p.Wg) x.d x.g
 | .fin 5,x=>IdleD p.P false (Lv p.L p.Wg) XD (WAdd p.P p.L p.Wg) x.d x.g
 | .fin 4,x=>IdleD p.P false (Lv p.L p.Wg) X0 (WLd p.P p.L p.Wg) x.d x.g
 | .fin 3,x=>IdleD p.P false (Lv p.L p.Wg) X0 (WSt p.P p.L p.Wg) x.d x.g
 | .fin 2,x=>IdleD p.P false (Lv p.L p.Wg) X0 (WSem p.P p.L p.Wg) x.d x.g
 | .fin 1,x=>∃q,QuitsD p.P q x.d x.g
 | .fin _,_=>False
 |wt,x=>IdleD p.P false p.I X0 (p.St i wt x) x.d x.g
def WNx(i:Nat):WT→Pos→Pos→Prop
 | .work=>NxD p.P false p.I fun D=>p.WLk i D
 | .cr v=>NxD p.P false p.I fun D=>p.CrS i v D
 | .fin 7=>NxI p.P false (Lv p.L p.Wg) (WRel p.P p.L p.Wg)
 | .fin 5=>NxI p.P false (Lv p.L p.Wg) (WAdd p.P p.L p.Wg)
 | .fin 4=>NxI p.P false (Lv p.L p.Wg) (WLd p.P p.L p.Wg)
 | .fin 3=>NxI p.P false (Lv p.L p.Wg) (WSt p.P p.L p.Wg)
 | .fin 2=>NxI p.P false (Lv p.L p.Wg) (WSem p.P p.L p.Wg)
 | .fin 1=>NxQ p.P
 | .fin _=>fun _ _=>False
 |wt=>fun x' x=>x'.O=x.O∧x'.D=x.D∧x'.w=x.w∧NxI p.P false p.I (p.St i wt x) x' x
theorem acc_st{i:Nat}{wt:WT}{x:Pos}(h:IdleD p.P false p.I X0 (p.St i wt x) x.d x.g):Acc (fun x' x=>x'.O=x.O∧x'.D=x.D∧x'.w=x.w∧NxI p.P false p.I (p.St i wt x) x' x) x:=by
 have key:∀y,Acc (NxI p.P false p.I (p.St i wt x)) y→y.O=x.O→y.D=x.D→y.w=x.w→Acc (fun x' x=>x'.O=x.O∧x'.D=x.D∧x'.w=x.w∧NxI p.P false p.I (p.St i wt x) x' x) y:=by
  intro y hy
  induction hy with
  | intro y _ ih=>
    intro e1 e2 e3
    refine .intro _ fun z hz=>?_
    obtain ⟨h1,h2,h3,h4⟩:=hz
    have e:p.St i wt y=p.St i wt x:=by cases wt<;>simp only [St,e1,e2,e3]
    rw [e] at h4
    exact ih z h4 (h1.trans e1) (h2.trans e2) (h3.trans e3)
 exact key x (IdleD.acc h x rfl rfl) rfl rfl rfl
theorem wseat_acc(i:Nat):∀(s:WT) (x:Pos),p.WSeat i s x→Acc (p.WNx i s) x:=by
 intro s x h
 match s,h with
 | .work,h=>exact WkD.acc h
 | .cr v,h=>exact WkD.acc h
 | .fin 7,h=>exact IdleD.acc h x rfl rfl
 | .fin 5,h=>exact IdleD.acc h x rfl rfl
 | .fin 4,h=>exact IdleD.acc h x rfl rfl
 | .fin 3,h=>exact IdleD.acc h x rfl rfl
 | .fin 2,h=>exact IdleD.acc h x rfl rfl
 | .fin 1,h=>obtain ⟨q,hq⟩:=h;exact quits_acc q x hq
 | .fin 0,h=>exact h.elim
 | .fin 6,h=>exact h.elim
 | .fin (s+8),h=>exact h.elim
 | .lck y,h=>exact p.acc_st h
 | .en,h=>exact p.acc_st h
 | .ac,h=>exact p.acc_st h
 | .rl,h=>exact p.acc_st h
 | .ds,h=>exact p.acc_st h
 | .ulk y,h=>exact p.acc_st h
 | .ue,h=>exact p.acc_st h
end Ph
end Go.Mx
namespace Go.Mx
open Go.Ren
open Go.Conc hiding Goes
open Go.Conc.Lib Go.Conc.Locks Go.RowKit
open Go.ConcN (upd)
open Go.ConcR (KK stA smA rd wr DC0)
def loopIn:Code→Option Code
 | .loop c=>some c
 | .seq x y=>match loopIn x with|some c=>some c|none=>loopIn y
 | .block _ c=>loopIn c
 |_=>none
def restIn:Code→Option Code
 | .seq (.block _ _) r=>some r
 | .seq _ y=>restIn y
 |_=>none
def lsBody(L:MxLink):Code:=(lockSlowFn L).body.getD .skip
def lsLoop(L:MxLink):Code:=(loopIn (lsBody L)).getD .skip
def lsRest(L:MxLink):Code:=(restIn (lsBody L)).getD .skip
end Go.Mx
namespace Go.Sy
open Go.Ren
open Go.Conc hiding Goes
inductive E where
 |b (x:Bool)|i (k:IntKind) (z:Int)|v (n:Nat)
 deriving DecidableEq
def E.den(ν:Nat→Value):E→Value
 | .b x=>.bool x
 | .i k z=>.int k z
 | .v n=>ν n
abbrev Env:=List (Nat×Option E)
def get:Env→Nat→Option E
 | [],_=>none
 |(j,x) :: r,k=>if j == k then x else get r k
def put(e:Env)(d:Option Nat)(x:Option E):Env:=match d with
 |some d=>(d,x) :: e
 |none=>e
inductive Key where
 |bin (op:BinOp) (x y:E)|fld (x:E) (i:Nat)|nil (x:E)
 deriving DecidableEq
abbrev Tab:=List (Key×E)
def look:Tab→Key→Option E
 | [],_=>none
 |(j,x) :: r,k=>if j=k then some x else look r k
def opE(e:Env):Operand→Option E
 | .tmp t=>get e t
 | .const (.bool b)=>some (.b b)
 | .const (.int k z)=>some (.i k z)
 |_=>none
def opv(T:Tab)(e:Env)(o:Oper):Option (E×List TypeId):=match o.op with
 | .move x | .assign x=>(opE e x).map (·,[])
 | .pick c a b=>match opE e c with
  | some (.b true)=>(opE e a).map (·,[])
  | some (.b false)=>(opE e b).map (·,[])
  | _=>none
 | .nilCheck x=>((opE e x).bind fun x=>look T (.nil x)).map (·,[])
 | .binOp op _ x y _=>match opE e x,opE e y with
  | some x,some y=>(look T (.bin op x y)).map (·,[])
  | _,_=>none
 | .unOp .not _ x=>match opE e x with
  | some (.b t)=>some (.b !t,[])
  | _=>none
 | .fieldAddr s x f=>((opE e x).bind fun x=>look T (.fld x f)).map (·,[s])
 |_=>none
def isWanted(ops:Array Oper)(e:Env)(o:Oper):Option Bool:=match o.guard with
 |none=>some true
 |some (g,b)=>match (ops[g]?).bind (·.dst) with
  | some d=>match get e d with
    |some (.b t)=>some (t == b)
    |_=>none
  | none=>none
structure S where
 env:Env
 todo:List Item
 log:List TypeId
def dstOk(sz:Nat)(o:Oper):Bool:=match o.dst with
 |some d=>d < sz
 |none=>true
def step(sz:Nat)(T:Tab)(s:S):Option S:=match s.todo with
 | .code .skip :: k=>some { s with todo:=k }
 | .code (.seq x y) :: k=>some { s with todo:=.code x :: .code y :: k }
 | .code (.cond c x y) :: k=>match opE s.env c with
  | some (.b t)=>some { s with todo:=.code (if t then x else y) :: k }
  | _=>none
 | .code (.block id c) :: k=>some { s with todo:=.code c :: .inBlock id :: k }
 | .code (.loop c) :: k=>some { s with todo:=.code c :: .inLoop c :: k }
 | .inLoop c :: k=>some { s with todo:=.code c :: .inLoop c :: k }
 | .inBlock _ :: k=>some { s with todo:=k }
 | .code (.exit id) :: k=>(exitTo id k).map fun k=>{ s with todo:=k }
 | .code (.region _ ops false) :: k=>some { s with todo:=.inRegion ops (List.range ops.size) :: k }
 | .inRegion _ [] :: k=>some { s with todo:=k }
 | .inRegion ops (i :: rest) :: k=>match ops[i]? with
  | some o=>if dstOk sz o=false then none else match isWanted ops s.env o with
    |some true=>match opv T s.env o with
     |some (x,l)=>some ⟨put s.env o.dst (some x),.inRegion ops rest :: k,l ++ s.log⟩
     |none=>none
    |some false=>some { s with env:=put s.env o.dst none,todo:=.inRegion ops rest :: k }
    |none=>none
  | none=>none
 |_=>none
def run(sz:Nat)(T:Tab):Nat→S→S
 |0,s=>s
 |n+1,s=>match step sz T s with
  | some s=>run sz T n s
  | none=>s
def Agree(ν:Nat→Value)(e:Env)(A:Array Value):Prop:=∀k x,get e k=some x→A[k]? = some (x.den ν)
def Yields{α:Type}(P:Program)(e:Sem α)(v:α):Prop:=∀w,Sem.run P e w = .ok v w∧∀es,Sem.events P e w es=es
def KeyOk(P:Program)(tI:TypeId)(ν:Nat→Value)(k:Key)(z:E):Prop:=match k with
 | .bin op x y=>∀(ty:TypeId) (xo yo:Operand),Yields P (do eqGuard op ty xo yo (x.den ν) (y.den ν);binOp op ty (x.den ν) (y.den ν)) (z.den ν)
 | .fld x i=>Yields P (Instr.fieldAt tI (x.den ν) i) (z.den ν)
 | .nil x=>z=x∧∃q,x.den ν = .pointer (some q)
def TabOk(P:Program)(tI:TypeId)(ν:Nat→Value)(T:Tab):Prop:=∀p∈T,KeyOk P tI ν p.1 p.2
end Go.Sy
