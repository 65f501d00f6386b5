import Derived.Conc.WgGenAddNeg
import Derived.Laws.LoneSync
import Derived.Conc.Own4
import Derived.Test.YtghfookpaompmaaGreatH18
set_option linter.unusedVariables false
set_option linter.unusedSectionVars false
set_option linter.unusedSimpArgs false
namespace Go.Mx
open Go.Ren Go.Sy
open Go.Conc hiding Goes
open Go.Conc.Locks
open Go.ConcR (stA smA)
def newW(T:Lo):Wd:=if T.old.L=0∧T.old.S=0 then ⟨1,if T.aw then 0 else T.old.W,0,T.old.n⟩ else ⟨T.old.L,if T.aw then 0 else T.old.W,if T.sv=true∧T.old.L=1 then 1 else T.old.S,T.old.n+1⟩
def Bh(L:MxLink)(cs:List Frame)(ν:Nat→Value)(s:S)(g:Goroutine):Prop:=Behind ν 139 (base L.mu.lockSlow) [] cs s g
def Small(o:Wd):Prop:=o.Bits∧o.n < 63
def AtL(L:MxLink)(Mu:Nat)(cs:List Frame)(y:Lk)(d:Nat)(g:Goroutine):Prop:=d=1∧match y with
 | .rd aw sv it=>∃wst o pl,Bh L cs (nu Mu wst it 0 o 0) (rdS L pl aw sv) g
 | .sq T=>∃wst,Bh L cs (nu Mu wst T.it 0 T.old 0) (sqS L T.aw T.sv) g
 | .c1 T=>T.aw=false∧∃wst,Bh L cs (nu Mu wst T.it 0 T.old 0) (c1S L T.sv) g
 | .c2 T=>∃wst,Bh L cs (nu Mu wst T.it 0 T.old (newW T).num) (c2S L T.aw T.sv) g
 | .t1 sv=>∃wst it o lifo,Small o∧Bh L cs (nu Mu wst it 0 o 0) (t1S L sv lifo) g
 | .s1 sv=>∃wst it o lifo,Small o∧Bh L cs (nu Mu wst it 0 o 0) (s1S L sv lifo) g
 | .t2=>∃wst it o,Small o∧Bh L cs (nu Mu wst it 0 o 0) (t2S L) g
 | .r2 sv=>∃wst it o,Small o∧Bh L cs (nu Mu wst it 0 o 0) (r2S L sv) g
 | .a1 sv cl=>∃wst it o,Small o∧Bh L cs (nu Mu wst it 0 o 0) (a1S L (if cl then -11 else -7)) g
 |_=>False
section
variable{P:Program}{L:MxLink}{I:World→Prop}{tM:TypeId}{Mu B:Nat}{cs:List Frame}{d:Nat}{g:Goroutine}{wst it tv:Int}{o:Wd}{nw:Int}
theorem kb:(base L.mu.lockSlow).kind ≠ .early:=by simp [base]
theorem ri_ok{tv' nw':Int}:∀p∈ri,p.1.den (nu Mu wst it tv o nw)=p.2.den (nu Mu wst it tv' o nw'):=by
 intro p hp
 simp only [ri,List.mem_cons,List.not_mem_nil,or_false] at hp
 rcases hp with rfl|rfl|rfl|rfl|rfl|rfl|rfl
 ·exact nu_0.trans nu_0.symm
 ·exact nu_1.trans nu_1.symm
 ·exact nu_2.trans nu_2.symm
 ·exact nu_3.trans nu_3.symm
 ·exact nu_4.trans nu_4.symm
 ·exact nu_5.trans nu_5.symm
 ·exact nu_14.trans nu_14.symm
theorem rN_ok{tv':Int}{k:Nat}{nw':Int}(h:nu Mu wst it tv o nw k = .int .i32 nw'):∀p∈rN k,p.1.den (nu Mu wst it tv o nw)=p.2.den (nu Mu wst it tv' o nw'):=by
 intro p hp
 simp only [rN,List.mem_cons] at hp
 rcases hp with rfl|hp
 ·exact h.trans nu_30.symm
 ·exact ri_ok p hp
theorem tabF_of{l w s:Bool}(hl:fl o.L=l)(hw:fl o.W=w)(hs:fl o.S=s):tabF wst tv o=tab l w s (o.n == 0) (o.n == 1) (wst == 0) (decide (IntKind.i64.wrap (tv - wst) > 1000000)):=by unfold tabF;rw [hl,hw,hs]
theorem fl1{k:Nat}(h:k=1):fl k=true:=by rw [h];rfl
theorem fl0{k:Nat}(h:k=0):fl k=false:=by rw [h];rfl
theorem v10_is(ho:o.Bits)(hn:o.n < 63):bor (o.num:Int) 1=((⟨1,o.W,o.S,o.n⟩:Wd).num:Nat):=by
 have h1:=num_w4 (m:=⟨1,o.W,o.S,o.n⟩) ⟨Nat.le_refl _,ho.W,ho.S⟩
 rw [num_w4 ho,h1]
 exact (w_or _ (by omega) _ _ _).1
theorem v15_is(ho:o.Bits)(hn:o.n < 63):bandn (bor (o.num:Int) 1) 2=((⟨1,0,o.S,o.n⟩:Wd).num:Nat):=by
 have h1:=num_w4 (m:=⟨1,o.W,o.S,o.n⟩) ⟨Nat.le_refl _,ho.W,ho.S⟩
 have h2:=num_w4 (m:=⟨1,0,o.S,o.n⟩) ⟨Nat.le_refl _,Nat.zero_le _,ho.S⟩
 rw [v10_is ho hn,h1,h2]
 exact (w_or _ (by dsimp only;omega) _ _ _).2.2.2
theorem v11_is(ho:o.Bits)(hn:o.n < 63):IntKind.i32.wrap ((o.num:Int)+8)=((⟨o.L,o.W,o.S,o.n+1⟩:Wd).num:Nat):=by
 have h2:=num_w4 (m:=⟨o.L,o.W,o.S,o.n+1⟩) ⟨ho.L,ho.W,ho.S⟩
 rw [plus8 ho hn,h2]
theorem v18_is(ho:o.Bits)(hn:o.n < 63):IntKind.i32.wrap (bor (o.num:Int) 1+8)=((⟨1,o.W,o.S,o.n+1⟩:Wd).num:Nat):=by
 rw [v10_is ho hn]
 exact v11_is (o:=⟨1,o.W,o.S,o.n⟩) ⟨Nat.le_refl _,ho.W,ho.S⟩ hn
theorem v16_is(ho:o.Bits)(hn:o.n < 63):bandn (IntKind.i32.wrap (bor (o.num:Int) 1+8)) 2=((⟨1,0,o.S,o.n+1⟩:Wd).num:Nat):=by
 have h1:=num_w4 (m:=⟨1,o.W,o.S,o.n+1⟩) ⟨Nat.le_refl _,ho.W,ho.S⟩
 have h2:=num_w4 (m:=⟨1,0,o.S,o.n+1⟩) ⟨Nat.le_refl _,Nat.zero_le _,ho.S⟩
 rw [v18_is ho hn,h1,h2]
 exact (w_or _ (by dsimp only;omega) _ _ _).2.2.2
theorem v17_is(ho:o.Bits)(hn:o.n < 63):bandn (bor (IntKind.i32.wrap (bor (o.num:Int) 1+8)) 4) 2=((⟨1,0,1,o.n+1⟩:Wd).num:Nat):=by
 have h1:=num_w4 (m:=⟨1,o.W,o.S,o.n+1⟩) ⟨Nat.le_refl _,ho.W,ho.S⟩
 have h2:=num_w4 (m:=⟨1,0,1,o.n+1⟩) ⟨Nat.le_refl _,Nat.zero_le _,Nat.le_refl _⟩
 rw [v18_is ho hn,h1,h2,(w_or _ (by dsimp only;omega) _ _ _).2.2.1]
 exact (w_or _ (by dsimp only;omega) _ _ _).2.2.2
theorem v14_is(ho:o.Bits)(hn:o.n < 63):bor (o.num:Int) 2=((⟨o.L,1,o.S,o.n⟩:Wd).num:Nat):=by
 have h1:=num_w4 (m:=⟨o.L,1,o.S,o.n⟩) ⟨ho.L,Nat.le_refl _,ho.S⟩
 rw [num_w4 ho,h1]
 exact (w_or _ (by omega) _ _ _).2.1
theorem head_go(H:MxLib P L)(ho:o.Bits)(hn:o.n < 63){aw sv:Bool}{it:Nat}(hw:aw=true→o.W=1∧o.S=0)(hs:sv=true→aw=true)(hg:Bh L cs (nu Mu wst it 0 o 0) (head L aw sv) g):IdleD P false I X0 (AtL L Mu cs (hd ⟨o,aw,sv,it⟩)) 1 g:=by
 have hT:=tab_ok H (Mu:=Mu) (wst:=wst) (it:=it) (tv:=0) (nw:=0) ho hn
 have hL:=ho.L
 have hS:=ho.S
 have hW:=ho.W
 by_cases hq:o.L=1∧o.S=0
 ·have e:hd ⟨o,aw,sv,it⟩ = .sq ⟨o,aw,sv,it⟩:=by unfold hd;rw [if_pos hq]
  rw [e]
  rw [tabF_of (fl1 hq.1) rfl (fl0 hq.2)] at hT
  exact (ck_sq L _ _ _ _ _ aw sv).walk hT ri_ok kb hg fun g' hb=>.stop ⟨rfl,wst,hb⟩
 ·have e:hd ⟨o,aw,sv,it⟩ = .c2 ⟨o,aw,sv,it⟩:=by unfold hd;rw [if_neg hq]
  rw [e]
  by_cases h0:o.S=0
  ·have hl0:o.L=0:=by omega
   cases ha:aw with
   |false=>
    have hsv:sv=false:=by cases h:sv with|false=>rfl|true=>exact absurd (hs h) (by rw [ha];simp)
    subst ha hsv
    rw [tabF_of (fl0 hl0) rfl (fl0 h0)] at hT
    refine (ck_c00 L _ _ _ _ _).walk hT (rN_ok (nw' :=((newW ⟨o,false,false,it⟩).num:Nat)) ?_) kb hg fun g' hb=>.stop ⟨rfl,wst,hb⟩
    rw [nu_10,v10_is ho hn]
    unfold newW
    rw [if_pos ⟨hl0,h0⟩]
    simp [h0]
   |true=>
    subst ha
    have hw1:=(hw rfl).1
    rw [tabF_of (fl0 hl0) (fl1 hw1) (fl0 h0)] at hT
    refine (ck_c00a L _ _ _ _ sv).walk hT (rN_ok (nw' :=((newW ⟨o,true,sv,it⟩).num:Nat)) ?_) kb hg fun g' hb=>.stop ⟨rfl,wst,hb⟩
    rw [nu_15,v15_is ho hn]
    unfold newW
    rw [if_pos ⟨hl0,h0⟩]
    simp [h0]
  ·have hs1:o.S=1:=by omega
   have ha:aw=false:=by cases h:aw with|false=>rfl|true=>exact absurd (hw h).2 h0
   have hsv:sv=false:=by cases h:sv with|false=>rfl|true=>exact absurd (hs h) (by rw [ha];simp)
   subst ha hsv
   rw [tabF_of rfl rfl (fl1 hs1)] at hT
   refine (ck_c1 L _ _ _ _ _ _).walk hT (rN_ok (nw' :=((newW ⟨o,false,false,it⟩).num:Nat)) ?_) kb hg fun g' hb=>.stop ⟨rfl,wst,hb⟩
   rw [nu_11,v11_is ho hn]
   unfold newW
   rw [if_neg (by intro x;exact h0 x.2)]
   simp
end
end Go.Mx
namespace Go.Mx
open Go.Ren Go.Sy
open Go.Conc hiding Goes
open Go.Conc.Locks
open Go.ConcR (stA smA)
section
variable{P:Program}{L:MxLink}{I:World→Prop}{tM:TypeId}{Mu B:Nat}{cs:List Frame}{d:Nat}{g:Goroutine}{wst it tv:Int}{o:Wd}{nw:Int}{Q:Nat→Goroutine→Prop}
theorem wrap_it{it:Nat}(h:it≤4):IntKind.i64.wrap ((it:Int)+1)=((it+1:Nat):Int):=by
 have:it=0∨it=1∨it=2∨it=3∨it=4:=by omega
 rcases this with rfl|rfl|rfl|rfl|rfl<;>decide +kernel
def RL(P:Program)(L:MxLink)(I:World→Prop)(Mu:Nat)(cs:List Frame)(y:Lk)(d:Nat)(g:Goroutine):Prop:=IdleD P false I X0 (AtL L Mu cs y) d g
theorem nx_l{R:Lk→Nat→Goroutine→Prop}{E:Nat→Goroutine→Prop}{y:Lk}(hy:isL y)(h:R y d g):Nx R E y d g:=by
 cases y<;>first|exact h|exact hy.elim
theorem num_ne{a b:Wd}(ha:a.Bits)(hb:b.Bits)(h:a≠b):¬((a.num:Int)=b.num):=fun e=>h (Wd.inj ha hb (Int.ofNat_inj.1 e))
theorem agree_v{wst' it' tv' nw':Int}{o':Wd}{e:Env}{A:Array Value}(ρ:List (E×E))(hs:(Go.Sy.sub e e).all (okPair ρ)=true)(hρ:∀p∈ρ,p.1.den (nu Mu wst it tv o nw)=p.2.den (nu Mu wst' it' tv' o' nw'))(h:Agree (nu Mu wst it tv o nw) e A):Agree (nu Mu wst' it' tv' o' nw') e A:=agree_sub h hs hρ
def rv:List (E×E):=[(.v 0,.v 0),(.v 1,.v 1),(.v 2,.v 2),(.v 3,.v 3),(.v 5,.v 5)]
theorem rv_ok{tv' nw':Int}{o':Wd}:∀p∈rv,p.1.den (nu Mu wst it tv o nw)=p.2.den (nu Mu wst it tv' o' nw'):=by
 intro p hp
 simp only [rv,List.mem_cons,List.not_mem_nil,or_false] at hp
 rcases hp with rfl|rfl|rfl|rfl|rfl
 ·exact nu_0.trans nu_0.symm
 ·exact nu_1.trans nu_1.symm
 ·exact nu_2.trans nu_2.symm
 ·exact nu_3.trans nu_3.symm
 ·exact nu_5.trans nu_5.symm
theorem rd_env(L:MxLink)(pl:Pl)(aw sv:Bool):(Go.Sy.sub (rdS L pl aw sv).env (rdS L pl aw sv).env).all (okPair rv)=true:=by cases pl<;>cases aw<;>cases sv<;>kernel_rfl
theorem ck_rd1(T:Tab)(pl:Pl)(aw sv:Bool):∃n,To L.mu.tIMutex 139 T n 0 (next (rdS L pl aw sv) (some (.v 4))) (head L aw sv) ri:=by
 obtain ⟨k1,k2,k3⟩:=ck_rd L T aw sv
 cases pl
 ·exact ⟨_,k1⟩
 ·exact ⟨_,k2⟩
 ·exact ⟨_,k3⟩
theorem ls_norace(L:MxLink):(some (lockSlowFn L)).any (·.norace)=true:=by kernel_rfl
theorem ls_quiet(H:MxLib P L):(P.funcs[(base L.mu.lockSlow).fn]?).any (·.norace)=true:=by
 show (P.funcs[L.mu.lockSlow]?).any (·.norace)=true
 rw [H.f_lockSlow];exact ls_norace L
variable(H:MxLib P L)(hB:B < 63)
include H hB
theorem law_rd{E:Nat→Goroutine→Prop}{aw sv:Bool}{it:Nat}(h:AtL L Mu cs (.rd aw sv it) d g):Law P I tM Mu B (Nx (RL P L I Mu cs) E) (.rd aw sv it) d g:=by
 obtain ⟨rfl,wst,o,pl,A,hz,ha,rfl⟩:=h
 refine ⟨rfl,rfl,rfl,fun e=>(by cases e),fun w m q hw hm hf=>.inr ?_⟩
 obtain ⟨hbits,hnB,hq1,hwf,hmm⟩:=hf
 have ha':Agree (nu Mu wst it 0 m 0) (rdS L pl aw sv).env A:=agree_v rv (rd_env L pl aw sv) rv_ok ha
 obtain ⟨g',hb,hstep⟩:=load_at (P:=P) (m:=false) (b:=base L.mu.lockSlow) (ds:=[]) (cs:=cs) (z:=some (.v 4)) H.lib.runUnderlying_t21 H.lib.sizeOf_t21 H.lib.isAgg_t21 (at_rd L pl aw sv) hz ha' kb (ls_quiet H) (ad:=mA Mu) nu_1 (v:=(m.num:Int)) (fun u hu=>by cases hu;exact nu_4.symm)
 refine ⟨hd ⟨m,aw,sv,it⟩,m,q,g',w,#[],.rd,hstep w hm.state,hm,⟨rfl,fun _ _=>rfl,.rfl,rfl,rfl⟩,by simp,fun e=>(by cases e),nx_l (isL_hd _) ?_⟩
 show IdleD P false I X0 _ 1 g'
 have hT:=tab_ok H (Mu:=Mu) (wst:=wst) (it:=it) (tv:=0) (nw:=0) hbits (by omega:m.n < 63)
 obtain ⟨n,hto⟩:=ck_rd1 (L:=L) (tabF wst 0 m) pl aw sv
 exact hto.walk hT ri_ok kb hb fun g'' hb'=>head_go H hbits (by omega) hmm hwf.1 hb'
theorem ds_go{aw sv:Bool}{it:Nat}(hs:Small o)(hit:it≤4)(hb:Bh L cs (nu Mu wst it 0 o 0) (dsS L aw sv) g):IdleD P false I X0 (AtL L Mu cs (.rd aw sv (it+1))) 1 g:=by
 obtain ⟨A,hz,ha,rfl⟩:=hb
 obtain ⟨g',hb,hstep⟩:=pure_at (P:=P) (m:=false) (b:=base L.mu.lockSlow) (ds:=[]) (cs:=cs) (.tuple #[]) (z:=none) (fun u hu=>by cases hu) (at_ds L aw sv) hz ha kb H.f_doSpin (e_do_n L) (e_do_b L) (e_do_x L) (e_do_f L)
 refine .step rfl (fun _=>g') (fun _=>#[]) (fun w _=>⟨hstep w,by simp⟩) fun w _=>?_
 show IdleD P false I X0 _ 1 g'
 have hT:=tab_ok H (Mu:=Mu) (wst:=wst) (it:=it) (tv:=0) (nw:=0) hs.1 hs.2
 refine (ck_ds L _ _ _ _ _ _ _ aw sv).walk (ν' :=nu Mu wst ((it+1:Nat):Int) 0 o 0) hT (fun p hp=>?_) kb hb fun g'' hb'=>.stop ⟨rfl,wst,o,.b,hb'⟩
 simp only [List.mem_cons,List.not_mem_nil,or_false] at hp
 rcases hp with rfl|rfl|rfl|rfl
 ·exact nu_0.trans nu_0.symm
 ·exact nu_1.trans nu_1.symm
 ·exact nu_3.trans nu_3.symm
 ·refine (nu_6 (Mu:=Mu)).trans ?_
  rw [wrap_it hit]
  exact nu_5.symm
theorem law_sq{E:Nat→Goroutine→Prop}{T:Lo}(h:AtL L Mu cs (.sq T) d g):Law P I tM Mu B (Nx (RL P L I Mu cs) E) (.sq T) d g:=by
 obtain ⟨rfl,wst,A,hz,ha,rfl⟩:=h
 refine ⟨rfl,rfl,rfl,fun e=>(by cases e),fun w m q hw hm hf=>.inr ?_⟩
 obtain ⟨hbits,hnB,hq1,⟨⟨ob,on,osv,oaw,oit⟩,oL,oS⟩,_⟩:=hf
 obtain ⟨old,aw,sv,it⟩:=T
 dsimp only at ha ob on osv oaw oit oL oS ⊢
 have hsm:Small old:=⟨ob,by omega⟩
 have hT:=tab_ok H (Mu:=Mu) (wst:=wst) (it:=it) (tv:=0) (nw:=0) hsm.1 hsm.2
 obtain ⟨gt,hbt,hst⟩:=canSpin_at (P:=P) (m:=false) (b:=base L.mu.lockSlow) (ds:=[]) (cs:=cs) (at_sq L aw sv) hz ha kb H.f_canSpin (e_can_n L) (e_can_b L) (e_can_x L) (e_can_f L) (k:=.i64) (n:=(it:Int)) nu_5 true
 obtain ⟨gf,hbf,hsf⟩:=canSpin_at (P:=P) (m:=false) (b:=base L.mu.lockSlow) (ds:=[]) (cs:=cs) (at_sq L aw sv) hz ha kb H.f_canSpin (e_can_n L) (e_can_b L) (e_can_x L) (e_can_f L) (k:=.i64) (n:=(it:Int)) nu_5 false
 by_cases h4:it < 4∧w.spins=true
 ·have hgo:=(hst w).1 (by omega) h4.2
  by_cases hc:aw=false∧old.W=0∧old.n≠0
  ·refine ⟨.c1 ⟨old,aw,sv,it⟩,m,q,gt,w.asked,#[],.sqc h4.1 hc,hgo,hm,eff_asked,by simp,fun e=>(by cases e),?_⟩
   obtain ⟨rfl,hw0,hn0⟩:=hc
   rw [tabF_of (fl1 oL) (fl0 hw0) (fl0 oS),show (old.n == 0)=false from by simpa using hn0] at hT
   exact (ck_s0 L _ _ _ sv).walk hT ri_ok kb hbt fun g'' hb'=>.stop ⟨rfl,rfl,wst,hb'⟩
  ·refine ⟨.rd aw sv (it+1),m,q,gt,w.asked,#[],.sqr h4.1 hc,hgo,hm,eff_asked,by simp,fun e=>(by cases e),?_⟩
   show IdleD P false I X0 _ 1 gt
   cases haw:aw with
   |true=>
    subst haw
    rw [tabF_of (fl1 oL) rfl (fl0 oS)] at hT
    exact (ck_s1 L _ _ _ _ _ sv).walk hT ri_ok kb hbt fun g'' hb'=>ds_go H hB hsm oit hb'
   |false=>
    subst haw
    by_cases hw0:old.W=0
    ·have hn0:old.n=0:=by
      apply Classical.byContradiction
      intro hn
      exact hc ⟨rfl,hw0,hn⟩
     rw [tabF_of (fl1 oL) (fl0 hw0) (fl0 oS),show (old.n == 0)=true from by simpa using hn0] at hT
     exact (ck_s3 L _ _ _ sv).walk hT ri_ok kb hbt fun g'' hb'=>ds_go H hB hsm oit hb'
    ·have hw1:old.W=1:=by have:=ob.W;omega
     rw [tabF_of (fl1 oL) (fl1 hw1) (fl0 oS)] at hT
     exact (ck_s2 L _ _ _ _ sv).walk hT ri_ok kb hbt fun g'' hb'=>ds_go H hB hsm oit hb'
 ·have key:RL P L I Mu cs (.c2 ⟨old,aw,sv,it⟩) 1 gf:=by
   show IdleD P false I X0 _ 1 gf
   have hnw:newW ⟨old,aw,sv,it⟩=⟨1,if aw then 0 else old.W,if sv=true then 1 else 0,old.n+1⟩:=by
    unfold newW
    rw [if_neg (by intro x;have:=x.1;dsimp only at this;omega)]
    simp [oL,oS]
   cases haw:aw with
   |false=>
    have hsv:sv=false:=by cases h:sv with|false=>rfl|true=>exact absurd (osv h) (by rw [haw];simp)
    subst haw hsv
    rw [tabF_of (fl1 oL) rfl (fl0 oS)] at hT
    refine (ck_q0 L _ _ _ _ _).walk hT (rN_ok (nw' :=((newW ⟨old,false,false,it⟩).num:Nat)) ?_) kb hbf fun g' hb=>.stop ⟨rfl,wst,hb⟩
    rw [nu_18,v18_is hsm.1 hsm.2,hnw]
    simp [oS]
   |true=>
    have hw1:=(oaw haw).1
    subst haw
    rw [tabF_of (fl1 oL) (fl1 hw1) (fl0 oS)] at hT
    cases hsv:sv with
    |false=>
     subst hsv
     refine (ck_q1 L _ _ _ _).walk hT (rN_ok (nw' :=((newW ⟨old,true,false,it⟩).num:Nat)) ?_) kb hbf fun g' hb=>.stop ⟨rfl,wst,hb⟩
     rw [nu_16,v16_is hsm.1 hsm.2,hnw]
     simp [oS]
    |true=>
     subst hsv
     refine (ck_q2 L _ _ _ _).walk hT (rN_ok (nw' :=((newW ⟨old,true,true,it⟩).num:Nat)) ?_) kb hbf fun g' hb=>.stop ⟨rfl,wst,hb⟩
     rw [nu_17,v17_is hsm.1 hsm.2,hnw]
     simp
  by_cases h4':it < 4
  ·have hsp:w.spins=false:=by cases h:w.spins with|false=>rfl|true=>exact absurd ⟨h4',h⟩ h4
   exact ⟨.c2 ⟨old,aw,sv,it⟩,m,q,gf,w.asked,#[],.sqn,(hsf w).1 (by omega) hsp,hm,eff_asked,by simp,fun e=>(by cases e),key⟩
  ·exact ⟨.c2 ⟨old,aw,sv,it⟩,m,q,gf,w,#[],.sqn,(hsf w).2 (by omega) rfl,hm,⟨rfl,fun _ _=>rfl,.rfl,rfl,rfl⟩,by simp,fun e=>(by cases e),key⟩
end
end Go.Mx
namespace Go.Mx
open Go.Ren Go.Sy
open Go.Conc hiding Goes
open Go.Conc.Locks
open Go.ConcR (stA smA)
section
variable{P:Program}{L:MxLink}{I:World→Prop}{tM:TypeId}{Mu B:Nat}{cs:List Frame}{d:Nat}{g:Goroutine}{wst it tv:Int}{o:Wd}{nw:Int}{Q:Nat→Goroutine→Prop}
theorem eff_m{w:World}(v:Value):EffM Mu w (w.setCell (mA Mu) v):=eff_set (a:=mA Mu) rfl v
theorem eff_s{w:World}(v:Value):EffM Mu w (w.setCell (sA Mu) v):=eff_set (a:=sA Mu) rfl v
theorem eff_refl{w:World}:EffM Mu w w:=⟨rfl,fun _ _=>rfl,.rfl,rfl,rfl⟩
theorem num_m7{m:Wd}(hm:m.Bits)(hn:m.n < 63)(hL:m.L=0)(hW:m.W=0)(hS:m.S=1)(h1:1≤m.n)(cl:Bool):IntKind.i32.wrap ((m.num:Int)+(if cl then -11 else -7))=((⟨1,m.W,if cl then 0 else m.S,m.n - 1⟩:Wd).num:Nat):=by
 have hb:(⟨1,m.W,if cl then 0 else m.S,m.n - 1⟩:Wd).Bits:=⟨Nat.le_refl _,hm.W,by cases cl<;>simp [hS]⟩
 have e:(m.num:Int)+(if cl=true then -11 else -7)=((⟨1,m.W,if cl then 0 else m.S,m.n - 1⟩:Wd).num:Nat):=by
  unfold Wd.num
  dsimp only
  cases cl<;>simp [hL,hW,hS]<;>omega
 rw [e]
 exact wrap_w hb (by dsimp only;omega)
theorem nu_z{k:IntKind}{z:Int}{ν:Nat→Value}:(E.i k z).den ν = .int k z:=rfl
def r4:List (E×E):=[(.v 0,.v 0),(.v 1,.v 1),(.v 2,.v 2),(.v 3,.v 3)]
theorem r4_ok{it' tv' nw':Int}{o':Wd}:∀p∈r4,p.1.den (nu Mu wst it tv o nw)=p.2.den (nu Mu wst it' tv' o' nw'):=by
 intro p hp
 simp only [r4,List.mem_cons,List.not_mem_nil,or_false] at hp
 rcases hp with rfl|rfl|rfl|rfl
 ·exact nu_0.trans nu_0.symm
 ·exact nu_1.trans nu_1.symm
 ·exact nu_2.trans nu_2.symm
 ·exact nu_3.trans nu_3.symm
theorem t1_env(L:MxLink)(sv lifo:Bool):(Go.Sy.sub (t1S L sv lifo).env (t1S L sv lifo).env).all (okPair r4)=true:=by cases sv<;>cases lifo<;>kernel_rfl
theorem t2_env(L:MxLink):(Go.Sy.sub (t2S L).env (t2S L).env).all (okPair r4)=true:=by kernel_rfl
theorem r2_env(L:MxLink)(sv:Bool):(Go.Sy.sub (r2S L sv).env (r2S L sv).env).all (okPair r4)=true:=by cases sv<;>kernel_rfl
theorem r0_ok:∀p∈r0,p.1.den (nu Mu 0 0 0 o 0)=p.2.den (nu Mu 0 ((0:Nat):Int) 0 o 0):=by
 intro p hp
 simp only [r0,List.mem_cons,List.not_mem_nil,or_false] at hp
 rcases hp with rfl|rfl|rfl|rfl
 ·exact nu_0.trans nu_0.symm
 ·exact nu_1.trans nu_1.symm
 ·exact nu_3.symm
 ·exact nu_5.symm
variable(H:MxLib P L)(hB:B < 63)
include H hB
theorem law_c1{E:Nat→Goroutine→Prop}{T:Lo}(h:AtL L Mu cs (.c1 T) d g):Law P I tM Mu B (Nx (RL P L I Mu cs) E) (.c1 T) d g:=by
 obtain ⟨rfl,haw,wst,A,hz,ha,rfl⟩:=h
 refine ⟨rfl,rfl,rfl,fun e=>(by cases e),fun w m q hw hm hf=>.inr ?_⟩
 obtain ⟨hbits,hnB,hq1,⟨⟨ob,on,osv,oaw,oit⟩,oL,oS,oW,on0,_,oit4⟩,_⟩:=hf
 obtain ⟨old,aw,sv,it⟩:=T
 dsimp only at ha ob on osv oaw oit oL oS oW on0 haw oit4 ⊢
 subst haw
 have hsm:Small old:=⟨ob,by omega⟩
 have hT:=tab_ok H (Mu:=Mu) (wst:=wst) (it:=it) (tv:=0) (nw:=0) hsm.1 hsm.2
 by_cases hmo:m=old
 ·subst hmo
  obtain ⟨g',hb,hst⟩:=cas_hit (P:=P) (m:=false) (b:=base L.mu.lockSlow) (ds:=[]) (cs:=cs) (at_c1 L sv) hz ha kb H.lib.f_cas32 (e_cas_n L) (e_cas_b L) (e_cas_x L) (e_cas_f L) (ad:=mA Mu) nu_1 nu_4 nu_14
  refine ⟨.rd true sv (it+1),⟨m.L,1,m.S,m.n⟩,q,g',_,_,.c1y rfl,hst w hm.state (hm.thaw 0),hm.setState (v14_is hsm.1 hsm.2),eff_m _,ev_2,fun e=>(by cases e),?_⟩
  rw [df_2]
  exact (ck_c1y L _ _ _ _ _ _ _ sv).walk hT ri_ok kb hb fun g'' hb'=>ds_go H hB hsm oit hb'
 ·obtain ⟨g',hb,hst⟩:=cas_miss (P:=P) (m:=false) (b:=base L.mu.lockSlow) (ds:=[]) (cs:=cs) (at_c1 L sv) hz ha kb H.lib.f_cas32 (e_cas_n L) (e_cas_b L) (e_cas_x L) (e_cas_f L) (ad:=mA Mu) nu_1 nu_4 nu_14
  refine ⟨.rd false sv (it+1),m,q,g',_,_,.c1n hmo,hst w _ hm.state (hm.thaw 0) (num_ne hbits ob hmo),hm,eff_refl,ev_1,fun e=>(by cases e),?_⟩
  rw [df_1]
  exact (ck_c1n L _ _ _ _ _ _ _ sv).walk hT ri_ok kb hb fun g'' hb'=>ds_go H hB hsm oit hb'
theorem law_c2(hQ:∀wst it o g,Bh L cs (nu Mu wst it 0 o 0) (exS L) g→IdleD P false I X0 Q 1 g){T:Lo}(h:AtL L Mu cs (.c2 T) d g):Law P I tM Mu B (Nx (RL P L I Mu cs) (IdleD P false I X0 Q)) (.c2 T) d g:=by
 obtain ⟨rfl,wst,A,hz,ha,rfl⟩:=h
 refine ⟨rfl,rfl,rfl,fun e=>(by cases e),fun w m q hw hm hf=>.inr ?_⟩
 obtain ⟨hbits,hnB,hq1,⟨ob,on,osv,oaw,oit⟩,_⟩:=hf
 obtain ⟨old,aw,sv,it⟩:=T
 dsimp only at ha ob on osv oaw oit ⊢
 have hsm:Small old:=⟨ob,by omega⟩
 have hT:=tab_ok H (Mu:=Mu) (wst:=wst) (it:=it) (tv:=0) (nw:=(newW ⟨old,aw,sv,it⟩).num) hsm.1 hsm.2
 have oL:=ob.L
 have oS:=ob.S
 by_cases hmo:m=old
 ·subst hmo
  obtain ⟨g',hb,hst⟩:=cas_hit (P:=P) (m:=false) (b:=base L.mu.lockSlow) (ds:=[]) (cs:=cs) (at_c2 L aw sv) hz ha kb H.lib.f_cas32 (e_cas_n L) (e_cas_b L) (e_cas_x L) (e_cas_f L) (ad:=mA Mu) nu_1 nu_4 nu_30
  have hgo:=hst w hm.state (hm.thaw 0)
  have hmu:=hm.setState (m' :=newW ⟨m,aw,sv,it⟩) (v:=((newW ⟨m,aw,sv,it⟩).num:Nat)) rfl
  by_cases h0:m.L=0∧m.S=0
  ·have hnw:newW ⟨m,aw,sv,it⟩=⟨1,if aw then 0 else m.W,0,m.n⟩:=by unfold newW;rw [if_pos h0]
   refine ⟨.own,_,q,g',_,_,.c2l rfl h0,hgo,by rw [←hnw];exact hmu,eff_m _,ev_2,fun e=>(by cases e),?_⟩
   rw [df_2]
   show IdleD P false I X0 Q 1 g'
   rw [tabF_of (fl0 h0.1) rfl (fl0 h0.2)] at hT
   exact (ck_c2l L _ _ _ _ _ aw sv).walk hT ri_ok kb hb fun g'' hb'=>hQ _ _ _ _ hb'
  ·have hnw:newW ⟨m,aw,sv,it⟩=⟨m.L,if aw then 0 else m.W,if sv=true∧m.L=1 then 1 else m.S,m.n+1⟩:=by unfold newW;rw [if_neg h0]
   have hcase:m.L=1∨(m.L=0∧m.S=1):=by omega
   by_cases hws:wst=0
   ·refine ⟨.t1 sv,_,q,g',_,_,.c2q rfl h0 (.inl rfl),hgo,by rw [←hnw];exact hmu,eff_m _,ev_2,fun e=>(by cases e),?_⟩
    rw [df_2]
    show IdleD P false I X0 _ 1 g'
    rcases hcase with hl|⟨hl,hs⟩
    ·rw [tabF_of (fl1 hl) rfl rfl,show (wst == 0)=true from by simpa using hws] at hT
     exact ((ck_c2t L _ _ _ _ _ aw sv).1).walk hT ri_ok kb hb fun g'' hb'=>.stop ⟨rfl,wst,it,m,false,hsm,hb'⟩
    ·rw [tabF_of (fl0 hl) rfl (fl1 hs),show (wst == 0)=true from by simpa using hws] at hT
     exact ((ck_c2t L _ true _ _ _ aw sv).2).walk hT ri_ok kb hb fun g'' hb'=>.stop ⟨rfl,wst,it,m,false,hsm,hb'⟩
   ·refine ⟨.s1 sv,_,q,g',_,_,.c2q rfl h0 (.inr rfl),hgo,by rw [←hnw];exact hmu,eff_m _,ev_2,fun e=>(by cases e),?_⟩
    rw [df_2]
    show IdleD P false I X0 _ 1 g'
    rcases hcase with hl|⟨hl,hs⟩
    ·rw [tabF_of (fl1 hl) rfl rfl,show (wst == 0)=false from by simpa using hws] at hT
     exact ((ck_c2s L _ _ _ _ _ aw sv).1).walk hT ri_ok kb hb fun g'' hb'=>.stop ⟨rfl,wst,it,m,true,hsm,hb'⟩
    ·rw [tabF_of (fl0 hl) rfl (fl1 hs),show (wst == 0)=false from by simpa using hws] at hT
     exact ((ck_c2s L _ true _ _ _ aw sv).2).walk hT ri_ok kb hb fun g'' hb'=>.stop ⟨rfl,wst,it,m,true,hsm,hb'⟩
 ·obtain ⟨g',hb,hst⟩:=cas_miss (P:=P) (m:=false) (b:=base L.mu.lockSlow) (ds:=[]) (cs:=cs) (at_c2 L aw sv) hz ha kb H.lib.f_cas32 (e_cas_n L) (e_cas_b L) (e_cas_x L) (e_cas_f L) (ad:=mA Mu) nu_1 nu_4 nu_30
  refine ⟨.rd aw sv it,m,q,g',_,_,.c2n hmo,hst w _ hm.state (hm.thaw 0) (num_ne hbits ob hmo),hm,eff_refl,ev_1,fun e=>(by cases e),?_⟩
  rw [df_1]
  exact (ck_c2n L _ _ _ _ _ _ _ aw sv).walk hT ri_ok kb hb fun g'' hb'=>.stop ⟨rfl,wst,old,.c,hb'⟩
theorem law_t1{E:Nat→Goroutine→Prop}{sv:Bool}(h:AtL L Mu cs (.t1 sv) d g):Law P I tM Mu B (Nx (RL P L I Mu cs) E) (.t1 sv) d g:=by
 obtain ⟨rfl,wst,it,o,lifo,hsm,A,hz,ha,rfl⟩:=h
 refine ⟨rfl,rfl,rfl,fun e=>(by cases e),fun w m q hw hm hf=>.inr ?_⟩
 obtain ⟨tv,htv⟩:∃tv:Int,((w.os.mono+w.tick:Nat):Int)=tv:=⟨_,rfl⟩
 have hT:=tab_ok H (Mu:=Mu) (wst:=wst) (it:=it) (tv:=tv) (nw:=0) hsm.1 hsm.2
 have ha':Agree (nu Mu wst it tv o 0) (t1S L sv lifo).env A:=agree_v r4 (t1_env L sv lifo) r4_ok ha
 obtain ⟨g',hb,hst⟩:=nano_at (P:=P) (m:=false) (b:=base L.mu.lockSlow) (ds:=[]) (cs:=cs) (z:=some (.v 20)) (at_t1 L sv lifo) hz ha' kb H.f_nano (e_nano_n L) (e_nano_b L) (e_nano_x L) (e_nano_f L) (e_nano_q L) tv (fun u hu=>by cases hu;exact nu_20.symm)
 refine ⟨.s1 sv,m,q,g',w.later,#[],.t1,hst w htv,hm,eff_later,by simp,fun e=>(by cases e),?_⟩
 show IdleD P false I X0 _ 1 g'
 refine (ck_t1 L _ _ _ _ _ _ _ sv lifo).walk (ν' :=nu Mu tv it 0 o 0) hT (fun p hp=>?_) kb hb fun g'' hb'=>.stop ⟨rfl,tv,it,o,lifo,hsm,hb'⟩
 simp only [List.mem_cons,List.not_mem_nil,or_false] at hp
 rcases hp with rfl|rfl|rfl
 ·exact nu_0.trans nu_0.symm
 ·exact nu_2.trans nu_2.symm
 ·exact nu_20.trans nu_3.symm
theorem law_s1{E:Nat→Goroutine→Prop}{sv:Bool}(h:AtL L Mu cs (.s1 sv) d g):Law P I tM Mu B (Nx (RL P L I Mu cs) E) (.s1 sv) d g:=by
 obtain ⟨rfl,wst,it,o,lifo,hsm,A,hz,ha,rfl⟩:=h
 refine ⟨rfl,rfl,rfl,fun e=>(by cases e),fun w m q hw hm hf=>?_⟩
 have hT:=tab_ok H (Mu:=Mu) (wst:=wst) (it:=it) (tv:=0) (nw:=0) hsm.1 hsm.2
 obtain ⟨g',hb,hst,hwait⟩:=semacq_at (P:=P) (m:=false) (b:=base L.mu.lockSlow) (ds:=[]) (cs:=cs) (z:=none) rfl (at_s1 L sv lifo) hz ha kb H.f_semacq (e_acq_n L) (e_acq_b L) (e_acq_x L) (e_acq_f L) (ad:=sA Mu) nu_2
 rcases q with _|q
 ·exact .inl ⟨⟨sv,rfl⟩,rfl,hwait w hm.sema⟩
 ·refine .inr ⟨if sv then .r2 true else .t2,m,q,g',_,_,.s1,hst w _ hm.sema (by omega) (hm.thaw 1),hm.setSema (by omega),eff_s _,ev_s,fun e=>(by cases e),?_⟩
  rw [df_s]
  cases sv with
  |true=>exact (ck_s1t L _ _ _ _ _ _ _ lifo).walk hT ri_ok kb hb fun g'' hb'=>.stop ⟨rfl,wst,it,o,hsm,hb'⟩
  |false=>exact (ck_s1f L _ _ _ _ _ _ _ lifo).walk hT ri_ok kb hb fun g'' hb'=>.stop ⟨rfl,wst,it,o,hsm,hb'⟩
theorem law_t2{E:Nat→Goroutine→Prop}(h:AtL L Mu cs .t2 d g):Law P I tM Mu B (Nx (RL P L I Mu cs) E) .t2 d g:=by
 obtain ⟨rfl,wst,it,o,hsm,A,hz,ha,rfl⟩:=h
 refine ⟨rfl,rfl,rfl,fun e=>(by cases e),fun w m q hw hm hf=>.inr ?_⟩
 obtain ⟨tv,htv⟩:∃tv:Int,((w.os.mono+w.tick:Nat):Int)=tv:=⟨_,rfl⟩
 have hT:=tab_ok H (Mu:=Mu) (wst:=wst) (it:=it) (tv:=tv) (nw:=0) hsm.1 hsm.2
 have ha':Agree (nu Mu wst it tv o 0) (t2S L).env A:=agree_v r4 (t2_env L) r4_ok ha
 obtain ⟨g',hb,hst⟩:=nano_at (P:=P) (m:=false) (b:=base L.mu.lockSlow) (ds:=[]) (cs:=cs) (z:=some (.v 20)) (at_t2 L) hz ha' kb H.f_nano (e_nano_n L) (e_nano_b L) (e_nano_x L) (e_nano_f L) (e_nano_q L) tv (fun u hu=>by cases hu;exact nu_20.symm)
 refine ⟨.r2 (decide (IntKind.i64.wrap (tv - wst) > 1000000)),m,q,g',w.later,#[],.t2,hst w htv,hm,eff_later,by simp,fun e=>(by cases e),?_⟩
 show IdleD P false I X0 _ 1 g'
 exact (ck_t2 L _ _ _ _ _ _ (decide (IntKind.i64.wrap (tv - wst) > 1000000))).walk hT ri_ok kb hb fun g'' hb'=>.stop ⟨rfl,wst,it,o,hsm,hb'⟩
theorem law_r2{E:Nat→Goroutine→Prop}{sv:Bool}(h:AtL L Mu cs (.r2 sv) d g):Law P I tM Mu B (Nx (RL P L I Mu cs) E) (.r2 sv) d g:=by
 obtain ⟨rfl,wst,it,o,hsm,A,hz,ha,rfl⟩:=h
 refine ⟨rfl,rfl,rfl,fun e=>(by cases e),fun w m q hw hm hf=>.inr ?_⟩
 obtain ⟨hbits,hnB,hq1,hwf,hm0,hm1⟩:=hf
 have hms:Small m:=⟨hbits,by omega⟩
 have ha':Agree (nu Mu wst it 0 m 0) (r2S L sv).env A:=agree_v r4 (r2_env L sv) r4_ok ha
 have hT:=tab_ok H (Mu:=Mu) (wst:=wst) (it:=it) (tv:=0) (nw:=0) hms.1 hms.2
 obtain ⟨g',hb,hstep⟩:=load_at (P:=P) (m:=false) (b:=base L.mu.lockSlow) (ds:=[]) (cs:=cs) (z:=some (.v 4)) H.lib.runUnderlying_t21 H.lib.sizeOf_t21 H.lib.isAgg_t21 (at_r2 L sv) hz ha' kb (ls_quiet H) (ad:=mA Mu) nu_1 (v:=(m.num:Int)) (fun u hu=>by cases hu;exact nu_4.symm)
 have hS:=hbits.S
 by_cases h0:m.S=0
 ·refine ⟨hd ⟨m,true,sv,0⟩,m,q,g',w,#[],.r2n h0,hstep w hm.state,hm,eff_refl,by simp,fun e=>(by cases e),nx_l (isL_hd _) ?_⟩
  show IdleD P false I X0 _ 1 g'
  rw [tabF_of rfl rfl (fl0 h0)] at hT
  refine (ck_r2n L _ _ _ _ _ _ sv).walk (ν' :=nu Mu wst ((0:Nat):Int) 0 m 0) hT (fun p hp=>?_) kb hb fun g'' hb'=>head_go H hbits (by omega) (fun _=>⟨hm0 h0,h0⟩) (fun _=>rfl) hb'
  simp only [List.mem_cons,List.not_mem_nil,or_false] at hp
  rcases hp with rfl|rfl|rfl|rfl
  ·exact nu_0.trans nu_0.symm
  ·exact nu_3.trans nu_3.symm
  ·exact nu_4.trans nu_4.symm
  ·exact nu_5.symm
 ·have h1:m.S=1:=by omega
  obtain ⟨hL,hW,hn⟩:=hm1 h1
  refine ⟨.a1 sv (!sv || decide (m.n=1)),m,q,g',w,#[],.r2s h1,hstep w hm.state,hm,eff_refl,by simp,fun e=>(by cases e),?_⟩
  show IdleD P false I X0 _ 1 g'
  have hn0:(m.n == 0)=false:=by simp;omega
  obtain ⟨k1,k2,k3⟩:=ck_r2s L (m.n == 1) (wst == 0) (decide (IntKind.i64.wrap (0 - wst) > 1000000))
  rw [tabF_of (fl0 hL) (fl0 hW) (fl1 h1),hn0] at hT
  cases sv with
  |false=>exact k1.walk hT ri_ok kb hb fun g'' hb'=>.stop ⟨rfl,wst,it,m,hms,hb'⟩
  |true=>
   by_cases hn1:m.n=1
   ·rw [show (m.n == 1)=true from by simpa using hn1] at hT
    refine k2.walk (ν' :=nu Mu wst it 0 m 0) hT ri_ok kb hb fun g'' hb'=>.stop ⟨rfl,wst,it,m,hms,?_⟩
    rw [show (!true || decide (m.n=1))=true from by simp [hn1]]
    exact hb'
   ·rw [show (m.n == 1)=false from by simpa using hn1] at hT
    refine k3.walk (ν' :=nu Mu wst it 0 m 0) hT ri_ok kb hb fun g'' hb'=>.stop ⟨rfl,wst,it,m,hms,?_⟩
    rw [show (!true || decide (m.n=1))=false from by simp [hn1]]
    exact hb'
theorem law_a1(hQ:∀wst it o g,Bh L cs (nu Mu wst it 0 o 0) (exS L) g→IdleD P false I X0 Q 1 g){sv cl:Bool}(h:AtL L Mu cs (.a1 sv cl) d g):Law P I tM Mu B (Nx (RL P L I Mu cs) (IdleD P false I X0 Q)) (.a1 sv cl) d g:=by
 obtain ⟨rfl,wst,it,o,hsm,A,hz,ha,rfl⟩:=h
 refine ⟨rfl,rfl,rfl,fun e=>(by cases e),fun w m q hw hm hf=>.inr ?_⟩
 obtain ⟨hbits,hnB,hq1,hwf,hS,hL,hW,hn⟩:=hf
 have hT:=tab_ok H (Mu:=Mu) (wst:=wst) (it:=it) (tv:=0) (nw:=0) hsm.1 hsm.2
 obtain ⟨g',hb,hst⟩:=add_at (P:=P) (m:=false) (b:=base L.mu.lockSlow) (ds:=[]) (cs:=cs) (z:=none) (v:=(m.num:Int)) (at_a1 L (if cl then -11 else -7)) hz ha kb H.lib.f_add32 (e_add_n L) (e_add_b L) (e_add_x L) (e_add_f L) (ad:=mA Mu) nu_1 nu_z (fun y hy=>by cases hy)
 refine ⟨.own,_,q,g',_,_,.a1,hst w hm.state (hm.thaw 0),hm.setState (num_m7 hbits (by omega) hL hW hS hn cl),eff_m _,ev_2,fun e=>(by cases e),?_⟩
 rw [df_2]
 show IdleD P false I X0 Q 1 g'
 exact (ck_a1 L _ _).walk hT ri_ok kb hb fun g'' hb'=>hQ _ _ _ _ hb'
theorem law_ls(hQ:∀wst it o g,Bh L cs (nu Mu wst it 0 o 0) (exS L) g→IdleD P false I X0 Q 1 g){y:Lk}(h:AtL L Mu cs y d g):Law P I tM Mu B (Nx (RL P L I Mu cs) (IdleD P false I X0 Q)) y d g:=by
 cases y with
 |rd aw sv it=>exact law_rd H hB h
 |sq T=>exact law_sq H hB h
 |c1 T=>exact law_c1 H hB h
 |c2 T=>exact law_c2 H hB hQ h
 |t1 sv=>exact law_t1 H hB h
 |s1 sv=>exact law_s1 H hB h
 |t2=>exact law_t2 H hB h
 |r2 sv=>exact law_r2 H hB h
 |a1 sv cl=>exact law_a1 H hB hQ h
 |_=>exact h.2.elim
theorem ls_seat(hQ:∀wst it o g,Bh L cs (nu Mu wst it 0 o 0) (exS L) g→IdleD P false I X0 Q 1 g){A:Array Value}(hz:A.size=139)(h0:A[0]? = some (.pointer (some ⟨Mu,0,none⟩))):LSeat P I tM Mu B (IdleD P false I X0 Q) (.rd false false 0) 1 (G ((base L.mu.lockSlow).at ⟨A,[]⟩ [.code (lsBody L)]) cs):=by
 refine ⟨RL P L I Mu cs,fun y d g hr=>hr.mono fun d g k=>law_ls H hB hQ k,?_⟩
 have ha:Agree (nu Mu 0 0 0 ⟨0,0,0,0⟩ 0) (enS L).env A:=by
  intro k x hx
  unfold enS fresh Go.Sy.get at hx
  split at hx
  ·rename_i e
   cases hx
   have:0=k:=by simpa using e
   subst this
   rw [h0]
   exact congrArg some (nu_0.symm:_=(E.v 0).den (nu Mu 0 0 0 ⟨0,0,0,0⟩ 0))
  ·cases hx
 have hs:Small ⟨0,0,0,0⟩:=⟨⟨Nat.zero_le _,Nat.zero_le _,Nat.zero_le _⟩,by decide⟩
 have hT:=tab_ok H (Mu:=Mu) (wst:=0) (it:=0) (tv:=0) (nw:=0) hs.1 hs.2
 exact (ck_en L _ _ _ _ _ _ _).walk (ν' :=nu Mu 0 ((0:Nat):Int) 0 ⟨0,0,0,0⟩ 0) hT r0_ok kb ⟨A,hz,ha,rfl⟩ fun g'' hb'=>.stop ⟨rfl,0,⟨0,0,0,0⟩,.a,hb'⟩
end
end Go.Mx
namespace Go.Mx
open Go.Ren Go.Sy
open Go.Conc hiding Goes
open Go.Conc.Locks
open Go.ConcR (stA smA)
def usBody(L:MxLink):Code:=(unlockSlowFn L).body.getD .skip
def uEn(L:MxLink):S:=fresh [(0,some (.v 0)),(1,some (.v 4))] [.code (usBody L)]
def TU:Tab:=tabU false false false false false
def ucR(L:MxLink):S:=run 43 TU 54 (uEn L)
def u1R(L:MxLink):S:=run 43 TU 7 (next (ucR L) (some (.b true)))
def uxR(L:MxLink):S:=run 43 TU 7 (next (ucR L) (some (.b false)))
def u2R(L:MxLink):S:=run 43 (tabU false false true false false) 21 (uEn L)
def retR(L:MxLink):S:=run 43 (tabU false true false false false) 60 (uEn L)
def ucS(L:MxLink):S:=fresh [(0,some (.v 0)),(27,some (.v 1)),(28,some (.v 4)),(29,some (.v 42))] (ucR L).todo
def uxS(L:MxLink):S:=fresh [(0,some (.v 0)),(37,some (.v 1))] (uxR L).todo
def u1S(L:MxLink):S:=fresh [(33,some (.v 2))] (u1R L).todo
def u2S(L:MxLink):S:=fresh [(41,some (.v 2))] (u2R L).todo
def retS(L:MxLink):S:=fresh [] (retR L).todo
def ret1S(L:MxLink):S:=fresh [] (run 43 TU 1 (next (u1R L) none)).todo
def ret2S:S:=fresh [] []
def r5:List (E×E):=[(.v 0,.v 0),(.v 1,.v 1),(.v 2,.v 2),(.v 4,.v 4),(.v 42,.v 42)]
section
variable(L:MxLink)
def isRet(t:List Item):Bool:=match t with
 | []=>true
 | .code .ret :: _=>true
 |_=>false
theorem ret_0:isRet (retS L).todo=true:=by kernel_rfl
theorem ret_1:isRet (ret1S L).todo=true:=by kernel_rfl
section
variable(w s n0 n1:Bool)
theorem cu_w:To L.mu.tIMutex 43 (tabU false true false n0 n1) 60 0 (uEn L) (retS L) r5:=by cases n0<;>exact ⟨by kernel_rfl,by kernel_rfl,by kernel_rfl⟩
theorem cu_n:To L.mu.tIMutex 43 (tabU false w false true n1) 60 0 (uEn L) (retS L) r5:=by cases w<;>exact ⟨by kernel_rfl,by kernel_rfl,by kernel_rfl⟩
theorem cu_c:To L.mu.tIMutex 43 (tabU false false false false n1) 60 1 (uEn L) (ucS L) r5:=⟨by kernel_rfl,by kernel_rfl,by kernel_rfl⟩
theorem cu_s:To L.mu.tIMutex 43 (tabU false w true n0 n1) 60 1 (uEn L) (u2S L) r5:=⟨by kernel_rfl,by kernel_rfl,by kernel_rfl⟩
theorem cu_y(l:Bool):To L.mu.tIMutex 43 (tabU l w s n0 n1) 7 1 (next (ucS L) (some (.b true))) (u1S L) r5:=⟨by kernel_rfl,by kernel_rfl,by kernel_rfl⟩
theorem cu_x(l:Bool):To L.mu.tIMutex 43 (tabU l w s n0 n1) 7 1 (next (ucS L) (some (.b false))) (uxS L) r5:=⟨by kernel_rfl,by kernel_rfl,by kernel_rfl⟩
theorem cx_n(l:Bool):To L.mu.tIMutex 43 (tabU l w s true n1) 60 0 (next (uxS L) (some (.v 4))) (retS L) r5:=by cases l<;>cases w<;>cases s<;>exact ⟨by kernel_rfl,by kernel_rfl,by kernel_rfl⟩
theorem cx_l:To L.mu.tIMutex 43 (tabU true w s false n1) 60 0 (next (uxS L) (some (.v 4))) (retS L) r5:=by cases w<;>cases s<;>exact ⟨by kernel_rfl,by kernel_rfl,by kernel_rfl⟩
theorem cx_w(l:Bool):To L.mu.tIMutex 43 (tabU l true s false n1) 60 0 (next (uxS L) (some (.v 4))) (retS L) r5:=by cases l<;>cases s<;>exact ⟨by kernel_rfl,by kernel_rfl,by kernel_rfl⟩
theorem cx_s(l:Bool):To L.mu.tIMutex 43 (tabU l w true false n1) 60 0 (next (uxS L) (some (.v 4))) (retS L) r5:=by cases l<;>cases w<;>exact ⟨by kernel_rfl,by kernel_rfl,by kernel_rfl⟩
theorem cx_c:To L.mu.tIMutex 43 (tabU false false false false n1) 60 1 (next (uxS L) (some (.v 4))) (ucS L) r5:=⟨by kernel_rfl,by kernel_rfl,by kernel_rfl⟩
theorem c1_r(l:Bool):To L.mu.tIMutex 43 (tabU l w s n0 n1) 1 0 (next (u1S L) none) (ret1S L) r5:=⟨by kernel_rfl,by kernel_rfl,by kernel_rfl⟩
theorem c2_r(l:Bool):To L.mu.tIMutex 43 (tabU l w s n0 n1) 1 0 (next (u2S L) none) ret2S r5:=⟨by kernel_rfl,by kernel_rfl,by kernel_rfl⟩
end
theorem at_uc:callAt 43 (ucS L)=some (L.mu.cas32,[some (.v 1),some (.v 4),some (.v 42)]):=by kernel_rfl
theorem at_ux:loadAt 43 (uxS L)=some (21,some (.v 1)):=by kernel_rfl
theorem at_u1:callAt 43 (u1S L)=some (L.semrel,[some (.v 2),some (.b false),some (.i .i64 2)]):=by kernel_rfl
theorem at_u2:callAt 43 (u2S L)=some (L.semrel,[some (.v 2),some (.b true),some (.i .i64 2)]):=by kernel_rfl
theorem us_norace:(some (unlockSlowFn L)).any (·.norace)=true:=by kernel_rfl
end
end Go.Mx
namespace Go.Mx
open Go.Ren Go.Sy
open Go.Conc hiding Goes
open Go.Conc.Locks
open Go.ConcR (stA smA)
def BhU(L:MxLink)(cs:List Frame)(ν:Nat→Value)(s:S)(g:Goroutine):Prop:=Behind ν 43 (base L.mu.unlockSlow) [] cs s g
def AtU(L:MxLink)(Mu:Nat)(cs:List Frame)(y:Lk)(d:Nat)(g:Goroutine):Prop:=d=1∧match y with
 | .uc o=>Small o∧BhU L cs (nu Mu 0 0 0 o 0) (ucS L) g
 | .ux=>∃o,Small o∧BhU L cs (nu Mu 0 0 0 o 0) (uxS L) g
 | .us=>∃o,Small o∧(BhU L cs (nu Mu 0 0 0 o 0) (u1S L) g∨BhU L cs (nu Mu 0 0 0 o 0) (u2S L) g)
 |_=>False
section
variable{P:Program}{L:MxLink}{I:World→Prop}{tM:TypeId}{Mu B:Nat}{cs:List Frame}{d:Nat}{g:Goroutine}{wst it tv:Int}{o:Wd}{nw:Int}{Q:Nat→Goroutine→Prop}
def RU(P:Program)(L:MxLink)(I:World→Prop)(Mu:Nat)(cs:List Frame)(y:Lk)(d:Nat)(g:Goroutine):Prop:=IdleD P false I X0 (AtU L Mu cs y) d g
theorem kU:(base L.mu.unlockSlow).kind ≠ .early:=by simp [base]
theorem r5_ok{tv' nw':Int}:∀p∈r5,p.1.den (nu Mu wst it tv o nw)=p.2.den (nu Mu wst it tv' o nw'):=by
 intro p hp
 simp only [r5,List.mem_cons,List.not_mem_nil,or_false] at hp
 rcases hp with rfl|rfl|rfl|rfl|rfl
 ·exact nu_0.trans nu_0.symm
 ·exact nu_1.trans nu_1.symm
 ·exact nu_2.trans nu_2.symm
 ·exact nu_4.trans nu_4.symm
 ·exact nu_42.trans nu_42.symm
theorem ux_env(L:MxLink):(Go.Sy.sub (uxS L).env (uxS L).env).all (okPair r4)=true:=by kernel_rfl
theorem us_quiet(H:MxLib P L):(P.funcs[(base L.mu.unlockSlow).fn]?).any (·.norace)=true:=by
 show (P.funcs[L.mu.unlockSlow]?).any (·.norace)=true
 rw [H.f_unlockSlow];exact us_norace L
theorem tabU_of{l w s n0 n1:Bool}(hl:fl o.L=l)(hw:fl o.W=w)(hs:fl o.S=s)(h0:(o.n == 0)=n0):tabU (fl o.L) (fl o.W) (fl o.S) (o.n == 0) (o.n == 1)=tabU l w s n0 (o.n == 1):=by rw [hl,hw,hs,h0]
theorem v42_is(ho:o.Bits)(hn:o.n < 63)(h:o.L=0∧o.W=0∧o.S=0∧0 < o.n):bor (IntKind.i32.wrap ((o.num:Int) - 8)) 2=((⟨0,1,0,o.n - 1⟩:Wd).num:Nat):=by
 have h1:=num_w4 (m:=⟨0,1,0,o.n - 1⟩) ⟨Nat.zero_le _,Nat.le_refl _,Nat.zero_le _⟩
 have h2:=num_w4 ho
 rw [h.1,h.2.1,h.2.2.1] at h2
 obtain ⟨k,hk⟩:∃k,o.n=k+1:=⟨o.n - 1,by omega⟩
 rw [h2,h1,hk]
 exact w_m8 k (by omega)
theorem wake_at{sz:Nat}{s:S}{f:FuncId}{xs:List (Option E)}{A:Array Value}{b:Frame}{fn:Func}(hm:b.mode = .run)(hc:callAt sz s=some (f,xs))(hf:P.funcs[f]? = some fn)(hb:fn.body.isNone=true):mayWake P (G (b.at ⟨A,[]⟩ s.todo) cs)=true:=by
 obtain ⟨o,args,ats,ho,hop,ha⟩:=callAt_op hc
 unfold opAt at ho
 split at ho
 ·rename_i ops i rest k he
  rw [he]
  split at ho
  ·rename_i o' ho'
   split at ho
   ·split at ho
    ·cases ho
     exact Go.ConcR.Gen.mayWake_entry ho' hop hf hb
    ·cases ho
   ·cases ho
  ·cases ho
 ·cases ho
def AtR(L:MxLink)(cs:List Frame)(d:Nat)(g:Goroutine):Prop:=d=1∧∃(A:Array Value) (t:List Item),isRet t=true∧g=G ((base L.mu.unlockSlow).at ⟨A,[]⟩ t) cs
variable(H:MxLib P L)(hB:B < 63)(hQ:∀g,AtR L cs 1 g→IdleD P false I X0 Q 1 g)
include H hB hQ
theorem law_uc{o:Wd}(h:AtU L Mu cs (.uc o) d g):Law P I tM Mu B (Nx (RU P L I Mu cs) (IdleD P false I X0 Q)) (.uc o) d g:=by
 obtain ⟨rfl,hsm,A,hz,ha,rfl⟩:=h
 refine ⟨rfl,rfl,rfl,fun e=>(by cases e),fun w m q hw hm hf=>.inr ?_⟩
 obtain ⟨hbits,hnB,hq1,⟨ob,oL,oW,oS,on0,on⟩,_⟩:=hf
 have hT:=tabU_ok H (Mu:=Mu) (nw:=0) hsm.1 hsm.2
 by_cases hmo:m=o
 ·subst hmo
  obtain ⟨g',hb,hst⟩:=cas_hit (P:=P) (m:=false) (b:=base L.mu.unlockSlow) (ds:=[]) (cs:=cs) (at_uc L) hz ha kU H.lib.f_cas32 (e_cas_n L) (e_cas_b L) (e_cas_x L) (e_cas_f L) (ad:=mA Mu) nu_1 nu_4 nu_42
  refine ⟨.us,⟨m.L,1,m.S,m.n - 1⟩,q,g',_,_,.ucy rfl,hst w hm.state (hm.thaw 0),hm.setState ?_,eff_m _,ev_2,fun e=>(by cases e),?_⟩
  ·rw [v42_is hsm.1 hsm.2 ⟨oL,oW,oS,on0⟩,oL,oS]
  ·rw [df_2]
   exact (cu_y L _ _ _ _ _).walk (ν' :=nu Mu 0 0 0 m 0) hT r5_ok kU hb fun g'' hb'=>.stop ⟨rfl,m,hsm,.inl hb'⟩
 ·obtain ⟨g',hb,hst⟩:=cas_miss (P:=P) (m:=false) (b:=base L.mu.unlockSlow) (ds:=[]) (cs:=cs) (at_uc L) hz ha kU H.lib.f_cas32 (e_cas_n L) (e_cas_b L) (e_cas_x L) (e_cas_f L) (ad:=mA Mu) nu_1 nu_4 nu_42
  refine ⟨.ux,m,q,g',_,_,.ucn hmo,hst w _ hm.state (hm.thaw 0) (num_ne hbits ob hmo),hm,eff_refl,ev_1,fun e=>(by cases e),?_⟩
  rw [df_1]
  exact (cu_x L _ _ _ _ _).walk (ν' :=nu Mu 0 0 0 o 0) hT r5_ok kU hb fun g'' hb'=>.stop ⟨rfl,o,hsm,hb'⟩
theorem ret_go{ν:Nat→Value}(hb:BhU L cs ν (retS L) g):IdleD P false I X0 Q 1 g:=by
 obtain ⟨A,hz,ha,rfl⟩:=hb
 exact hQ _ ⟨rfl,A,_,ret_0 L,rfl⟩
theorem law_ux(h:AtU L Mu cs .ux d g):Law P I tM Mu B (Nx (RU P L I Mu cs) (IdleD P false I X0 Q)) .ux d g:=by
 obtain ⟨rfl,o,hsm,A,hz,ha,rfl⟩:=h
 refine ⟨rfl,rfl,rfl,fun e=>(by cases e),fun w m q hw hm hf=>.inr ?_⟩
 obtain ⟨hbits,hnB,hq1,hwf,_⟩:=hf
 have hms:Small m:=⟨hbits,by omega⟩
 have ha':Agree (nu Mu 0 0 0 m 0) (uxS L).env A:=agree_v r4 (ux_env L) r4_ok ha
 have hT:=tabU_ok H (Mu:=Mu) (nw:=0) hms.1 hms.2
 obtain ⟨g',hb,hstep⟩:=load_at (P:=P) (m:=false) (b:=base L.mu.unlockSlow) (ds:=[]) (cs:=cs) (z:=some (.v 4)) H.lib.runUnderlying_t21 H.lib.sizeOf_t21 H.lib.isAgg_t21 (at_ux L) hz ha' kU (us_quiet H) (ad:=mA Mu) nu_1 (v:=(m.num:Int)) (fun u hu=>by cases hu;exact nu_4.symm)
 have hL:=hbits.L
 have hW:=hbits.W
 have hS:=hbits.S
 by_cases hc:m.L=0∧m.W=0∧m.S=0∧0 < m.n
 ·refine ⟨.uc m,m,q,g',w,#[],.uxc hc,hstep w hm.state,hm,eff_refl,by simp,fun e=>(by cases e),?_⟩
  show IdleD P false I X0 _ 1 g'
  rw [tabU_of (n1:=false) (fl0 hc.1) (fl0 hc.2.1) (fl0 hc.2.2.1) (show (m.n == 0)=false from by simp;omega)] at hT
  exact (cx_c L _).walk (ν' :=nu Mu 0 0 0 m 0) hT r5_ok kU hb fun g'' hb'=>.stop ⟨rfl,hms,hb'⟩
 ·refine ⟨.done,m,q,g',w,#[],.uxd hc,hstep w hm.state,hm,eff_refl,by simp,fun e=>(by cases e),?_⟩
  show IdleD P false I X0 Q 1 g'
  by_cases hn:m.n=0
  ·rw [tabU_of (n1:=false) rfl rfl rfl (show (m.n == 0)=true from by simpa using hn)] at hT
   exact (cx_n L _ _ _ _).walk (ν' :=nu Mu 0 0 0 m 0) hT r5_ok kU hb fun g'' hb'=>ret_go H hB hQ hb'
  ·have h0:(m.n == 0)=false:=by simpa using hn
   by_cases hl:m.L=1
   ·rw [tabU_of (n1:=false) (fl1 hl) rfl rfl h0] at hT
    exact (cx_l L _ _ _).walk (ν' :=nu Mu 0 0 0 m 0) hT r5_ok kU hb fun g'' hb'=>ret_go H hB hQ hb'
   ·by_cases hw':m.W=1
    ·rw [tabU_of (n1:=false) rfl (fl1 hw') rfl h0] at hT
     exact (cx_w L _ _ _).walk (ν' :=nu Mu 0 0 0 m 0) hT r5_ok kU hb fun g'' hb'=>ret_go H hB hQ hb'
    ·have hs1:m.S=1:=by
      apply Classical.byContradiction
      intro hne
      exact hc ⟨by omega,by omega,by omega,by omega⟩
     rw [tabU_of (n1:=false) rfl rfl (fl1 hs1) h0] at hT
     exact (cx_s L _ _ _).walk (ν' :=nu Mu 0 0 0 m 0) hT r5_ok kU hb fun g'' hb'=>ret_go H hB hQ hb'
theorem law_us(h:AtU L Mu cs .us d g):Law P I tM Mu B (Nx (RU P L I Mu cs) (IdleD P false I X0 Q)) .us d g:=by
 obtain ⟨rfl,o,hsm,h⟩:=h
 have hT:=tabU_ok H (Mu:=Mu) (nw:=0) hsm.1 hsm.2
 have wr:∀q:Nat,q≤1→IntKind.u32.wrap ((q:Int)+1)=((q+1:Nat):Int):=fun q hq=>by
  have:q=0∨q=1:=by omega
  rcases this with rfl|rfl<;>decide +kernel
 rcases h with ⟨A,hz,ha,rfl⟩|⟨A,hz,ha,rfl⟩
 ·obtain ⟨g',hb,hst⟩:=semrel_at (P:=P) (m:=false) (b:=base L.mu.unlockSlow) (ds:=[]) (cs:=cs) (z:=none) rfl (at_u1 L) hz ha kU H.f_semrel (e_rel_n L) (e_rel_b L) (e_rel_x L) (e_rel_f L) (ad:=sA Mu) nu_2
  have hrun:g'.status = .running:=by obtain ⟨_,_,_,rfl⟩:=hb;rfl
  refine ⟨rfl,rfl,rfl,fun _=>wake_at rfl (at_u1 L) H.f_semrel (e_rel_b L),fun w m q hw hm hf=>.inr ⟨.done,m,q+1,g',_,_,.us,hst w _ hm.sema (hm.thaw 1),hm.setSema (wr q hf.2.2.1),eff_s _,ev_s,fun _=>hrun,?_⟩⟩
  rw [df_s]
  show IdleD P false I X0 Q 1 g'
  exact (c1_r L _ _ _ _ _).walk (ν' :=nu Mu 0 0 0 o 0) hT r5_ok kU hb fun g'' hb'=>by
   obtain ⟨A',_,_,rfl⟩:=hb'
   exact hQ _ ⟨rfl,A',_,ret_1 L,rfl⟩
 ·obtain ⟨g',hb,hst⟩:=semrel_at (P:=P) (m:=false) (b:=base L.mu.unlockSlow) (ds:=[]) (cs:=cs) (z:=none) rfl (at_u2 L) hz ha kU H.f_semrel (e_rel_n L) (e_rel_b L) (e_rel_x L) (e_rel_f L) (ad:=sA Mu) nu_2
  have hrun:g'.status = .running:=by obtain ⟨_,_,_,rfl⟩:=hb;rfl
  refine ⟨rfl,rfl,rfl,fun _=>wake_at rfl (at_u2 L) H.f_semrel (e_rel_b L),fun w m q hw hm hf=>.inr ⟨.done,m,q+1,g',_,_,.us,hst w _ hm.sema (hm.thaw 1),hm.setSema (wr q hf.2.2.1),eff_s _,ev_s,fun _=>hrun,?_⟩⟩
  rw [df_s]
  show IdleD P false I X0 Q 1 g'
  exact (c2_r L _ _ _ _ _).walk (ν' :=nu Mu 0 0 0 o 0) hT r5_ok kU hb fun g'' hb'=>by
   obtain ⟨A',_,_,rfl⟩:=hb'
   exact hQ _ ⟨rfl,A',_,rfl,rfl⟩
theorem law_usl{y:Lk}(h:AtU L Mu cs y d g):Law P I tM Mu B (Nx (RU P L I Mu cs) (IdleD P false I X0 Q)) y d g:=by
 cases y with
 |uc o=>exact law_uc H hB hQ h
 |ux=>exact law_ux H hB hQ h
 |us=>exact law_us H hB hQ h
 |_=>exact h.2.elim
end
end Go.Mx
namespace Go.Sy
open Go.Ren
open Go.Conc hiding Goes
def convAt(sz:Nat)(s:S):Option (TypeId×TypeId×Option E):=match opAt sz s with
 |some o=>match o.op with
  | .convert a b x=>some (a,b,opE s.env x)
  |_=>none
 |none=>none
theorem convAt_op{sz:Nat}{s:S}{t u:TypeId}{x:Option E}(h:convAt sz s=some (t,u,x)):∃(o:Oper) (y:Operand),opAt sz s=some o∧o.op = .convert t u y∧opE s.env y=x:=by
 unfold convAt at h
 split at h
 ·rename_i o ho
  split at h
  ·rename_i a b y hc
   cases h
   exact ⟨o,y,ho,hc,rfl⟩
  ·cases h
 ·cases h
theorem conv_at{P:Program}{ν:Nat→Value}{A:Array Value}{sz:Nat}{m:Bool}{b:Frame}{ds:List Deferred}{cs:List Frame}{s:S}{src dst t:TypeId}{q:E}(hc:convAt sz s=some (src,dst,some q))(hz:A.size=sz)(h:Agree ν s.env A)(hk:b.kind ≠ .early)
  (hs:P.underlying src=some (.pointer t)) (hd:P.underlying dst=some .unsafePointer) (hsz:(P.info? t).map (fun i=>decide (i.size=0))=some false) {ad:Addr} (hq:q.den ν = .pointer (some ad)) :
  ∃g',Behind ν sz b ds cs (next s (some q)) g' ∧ ∀(w:World) (v:Value),w.cell? ad=some v→stepG P m (G (b.at ⟨A,ds⟩ s.todo) cs) w = .go g' w #[]:=by
 obtain ⟨o,y,ho,hop,hy⟩:=convAt_op hc
 obtain ⟨ops,i,rest,k,h1,h2,h3,h4,h5⟩:=opAt_ok (ds:=ds) ho hz h
 obtain ⟨k1,k2,k3⟩:=h5 (some q) (.pointer (some ad)) (fun z hz=>by cases hz;exact hq.symm)
 have hx:=(opE_ok (ds:=ds) h hy).trans hq
 refine ⟨G (b.at (Act.put ⟨A,ds⟩ o.dst (.pointer (some ad))) (.inRegion ops rest :: k)) cs,⟨_,k1,k3,by rw [h4,←k2]⟩,fun w v hcell=>?_⟩
 rw [h1]
 have r1:=run_convert_to_unsafe (P:=P) hs hd hsz hcell
 have r2:=fun es=>events_convert_to_unsafe (P:=P) hs hd hsz hcell es
 have hr:(execOp (Act.eval ⟨A,ds⟩) o).run P w = .ok (.value (.pointer (some ad))) w:=by
  unfold execOp
  simp only [hop,hx]
  simp [go_sem,r1]
 have he:(execOp (Act.eval ⟨A,ds⟩) o).events P w #[] = #[]:=by
  unfold execOp
  simp only [hop,hx]
  simp [go_sem,r1,r2]
 rw [stepG_value h2 h3 hk hr]
 unfold listed
 rw [he,seen_none]
end Go.Sy
namespace Go.Mx
open Go.Ren Go.Sy
open Go.Conc hiding Goes
open Go.Conc.Locks
open Go.ConcR (stA smA)
section
variable{P:Program}{L:MxLink}{I:World→Prop}{tM:TypeId}{Mu B:Nat}{cs:List Frame}{d:Nat}{g:Goroutine}{wst it tv:Int}{o:Wd}{nw:Int}{T:Goroutine→Prop}
theorem e_en_n(L:MxLink):((enableFn L.mu).name == "runtime.NumGoroutine")=false:=by kernel_rfl
theorem e_en_b(L:MxLink):(enableFn L.mu).body.isNone=true:=by kernel_rfl
theorem e_en_x(L:MxLink):Extern.findNext (enableFn L.mu)=none:=by kernel_rfl
theorem e_en_f(L:MxLink):Extern.find (enableFn L.mu)=some (fun _=>do mark .enable;pure Extern.Race.none_):=by kernel_rfl
theorem e_dis_n(L:MxLink):((disableFn L.mu).name == "runtime.NumGoroutine")=false:=by kernel_rfl
theorem e_dis_b(L:MxLink):(disableFn L.mu).body.isNone=true:=by kernel_rfl
theorem e_dis_x(L:MxLink):Extern.findNext (disableFn L.mu)=none:=by kernel_rfl
theorem e_dis_f(L:MxLink):Extern.find (disableFn L.mu)=some (fun _=>do mark .disable;pure Extern.Race.none_):=by kernel_rfl
theorem e_aq_n(L:MxLink):((acquireFn L.mu).name == "runtime.NumGoroutine")=false:=by kernel_rfl
theorem e_aq_b(L:MxLink):(acquireFn L.mu).body.isNone=true:=by kernel_rfl
theorem e_aq_x(L:MxLink):Extern.findNext (acquireFn L.mu)=none:=by kernel_rfl
theorem e_aq_f(L:MxLink):Extern.find (acquireFn L.mu)=some (Extern.Race.marked .acquire):=by kernel_rfl
theorem e_rm_n(L:MxLink):((relMergeFn L.mu).name == "runtime.NumGoroutine")=false:=by kernel_rfl
theorem e_rm_b(L:MxLink):(relMergeFn L.mu).body.isNone=true:=by kernel_rfl
theorem e_rm_x(L:MxLink):Extern.findNext (relMergeFn L.mu)=none:=by kernel_rfl
theorem e_rm_f(L:MxLink):Extern.find (relMergeFn L.mu)=some (Extern.Race.marked .releaseMerge):=by kernel_rfl
def Sees(I:World→Prop)(Mu:Nat):Prop:=∀w,I w→∃v,w.cell? (mA Mu)=some v
theorem tail_go(H:MxLib P L)(hI:Sees I Mu){sz n1 n2:Nat}{b:Frame}{sE sC sQ:S}{T0:Tab}{ν:Nat→Value}{ρ:List (E×E)}(hk:b.kind ≠ .early)(hν:ν 0 = .pointer (some (mA Mu)))(hT:TabOk P L.mu.tIMutex ν T0)(hρ:∀p∈ρ,p.1.den ν=p.2.den ν)
  (hE:callAt sz sE=some (L.mu.enable,[])) (h1:To L.mu.tIMutex sz T0 n1 0 (next sE none) sC ρ) (hC:convAt sz sC=some (L.mu.tPIMutex,L.mu.tUP,some (.v 0))) (h2:To L.mu.tIMutex sz T0 n2 0 (next sC (some (.v 0))) sQ ρ) (hQ:callAt sz sQ=some (L.mu.acquire,[some (.v 0)]))
  (k:∀g,Behind ν sz b [] cs (next sQ none) g→T g) (hg:Behind ν sz b [] cs sE g) :
  Says P false I #[Go.ConcR.mk .enable] (IdleD P false I X0 (fun d g=>d=0∧Says P false I #[Go.ConcR.mk (.acquire (stA Mu))] T g) 0) g:=by
 obtain ⟨A,hz,ha,rfl⟩:=hg
 obtain ⟨g1,b1,s1⟩:=mark0_at (P:=P) (m:=false) (b:=b) (ds:=[]) (cs:=cs) .enable (by simp) (z:=none) rfl hE hz ha hk H.lib.f_enable (e_en_n L) (e_en_b L) (e_en_x L) (e_en_f L)
 refine ⟨rfl,g1,fun w _=>s1 w,?_⟩
 refine h1.walk hT hρ hk b1 fun g2 b2=>?_
 obtain ⟨A2,hz2,ha2,rfl⟩:=b2
 obtain ⟨g3,b3,s3⟩:=conv_at (P:=P) (m:=false) (b:=b) (ds:=[]) (cs:=cs) hC hz2 ha2 hk H.lib.underlying_tPIMutex H.lib.underlying_tUP H.lib.room_tIMutex (ad:=mA Mu) hν
 refine .step rfl (fun _=>g3) (fun _=>#[]) (fun w hw=>⟨?_,by simp⟩) fun w _=>?_
 ·obtain ⟨v,hv⟩:=hI w hw
  exact s3 w v hv
 ·show IdleD P false I X0 _ 0 g3
  refine h2.walk hT hρ hk b3 fun g4 b4=>.stop ⟨rfl,?_⟩
  obtain ⟨A4,hz4,ha4,rfl⟩:=b4
  obtain ⟨g5,b5,s5⟩:=markAt_at (P:=P) (m:=false) (b:=b) (ds:=[]) (cs:=cs) .acquire (by simp) (z:=none) rfl hQ hz4 ha4 hk H.lib.f_acquire (e_aq_n L) (e_aq_b L) (e_aq_x L) (e_aq_f L) (ad:=mA Mu) hν
  exact ⟨rfl,g5,fun w _=>s5 w,k _ b5⟩
def cvS(L:MxLink):S:=fresh [(0,some (.v 0)),(136,some (.v 0))] (run 139 T0 5 (next (exS L) none)).todo
def aqS(L:MxLink):S:=fresh [(137,some (.v 0))] (run 139 T0 0 (next (cvS L) (some (.v 0)))).todo
def rq:List (E×E):=[(.v 0,.v 0)]
theorem ck_ex(l w s n0 n1 z late:Bool):To L.mu.tIMutex 139 (tab l w s n0 n1 z late) 5 0 (next (exS L) none) (cvS L) rq:=⟨by kernel_rfl,by kernel_rfl,by kernel_rfl⟩
theorem ck_cv(l w s n0 n1 z late:Bool):To L.mu.tIMutex 139 (tab l w s n0 n1 z late) 0 0 (next (cvS L) (some (.v 0))) (aqS L) rq:=⟨by kernel_rfl,by kernel_rfl,by kernel_rfl⟩
theorem at_cv:convAt 139 (cvS L)=some (L.mu.tPIMutex,L.mu.tUP,some (.v 0)):=by kernel_rfl
theorem at_aq:callAt 139 (aqS L)=some (L.mu.acquire,[some (.v 0)]):=by kernel_rfl
theorem rq_ok:∀p∈rq,p.1.den (nu Mu wst it tv o nw)=p.2.den (nu Mu wst it tv o nw):=by
 intro p hp
 simp only [rq,List.mem_cons,List.not_mem_nil,or_false] at hp
 subst hp;rfl
end
end Go.Mx
namespace Go.Sy
open Go.Ren
open Go.Conc hiding Goes
def envOf:Nat→List (Option E)→Env
 |_,[]=>[]
 |j,x :: xs=>(j,x) :: envOf (j+1) xs
theorem get_envOf:∀(xs:List (Option E)) (j k:Nat) (x:E),get (envOf j xs) k=some x→j≤k∧xs[k - j]? = some (some x)
 | [],j,k,x,h=>by cases h
 |y :: xs,j,k,x,h=>by
  unfold envOf get at h
  split at h
  ·rename_i e
   have:j=k:=by simpa using e
   subst this
   subst h
   exact ⟨Nat.le_refl _,by simp⟩
  ·rename_i e
   have hne:j≠k:=by simpa using e
   obtain ⟨h1,h2⟩:=get_envOf xs (j+1) k x h
   refine ⟨by omega,?_⟩
   obtain ⟨i,hi⟩:∃i,k - j=i+1:=⟨k - j - 1,by omega⟩
   rw [hi,List.getElem?_cons_succ]
   have:i=k - (j+1):=by omega
   rw [this];exact h2
section
variable{P:Program}{ν:Nat→Value}{sz:Nat}{m:Bool}{b:Frame}{ds:List Deferred}{cs:List Frame}{s:S}{I:World→Prop}{X:Event→Prop}{Q:Nat→Goroutine→Prop}{d:Nat}{A:Array Value}
theorem enter_go{f:FuncId}{xs:List (Option E)}{fn:Func}{c:Code}(hc:callAt sz s=some (f,xs))(hz:A.size=sz)(h:Agree ν s.env A)(hk:b.kind ≠ .early)(hf:P.funcs[f]? = some fn)(hname:(fn.name == "runtime.NumGoroutine")=false)(hb:fn.body=some c)(hn:xs.length≤fn.ntmps)
  (k:∀g,Behind ν fn.ntmps (base f) [] (b.at ⟨A,ds⟩ s.todo :: cs) ⟨envOf 0 xs,[.code c],[]⟩ g→IdleD P m I X Q d g):IdleD P m I X Q d (G (b.at ⟨A,ds⟩ s.todo) cs):=by
 obtain ⟨ops,i,rest,kk,o,args,ats,h1,h2,h3,h4,h5,h6,h7⟩:=callAt_ok hc hz h b ds cs
 have hb':fn.body.isNone=false:=by rw [hb];rfl
 have hstep:∀w,stepG P m (G (b.at ⟨A,ds⟩ s.todo) cs) w = .go (G ((base f).at ⟨args.map (Act.eval ⟨A,ds⟩) ++ Array.replicate (fn.ntmps - (args.map (Act.eval ⟨A,ds⟩)).size) undef,[]⟩ [.code c]) (b.at ⟨A,ds⟩ s.todo :: cs)) w #[]:=by
  intro w
  rw [h1,stepG_enter h2 h3 hk (run_call_body h4 hf hname hb'),enter_at _ hf hb]
  have:listed P b.fn ⟨A,ds⟩ o w = #[]:=by unfold listed;rw [events_call_body h4 hf hname hb'];exact seen_none P _
  rw [this]
 refine .step rfl (fun _=>_) (fun _=>#[]) (fun w _=>⟨hstep w,by simp⟩) fun w _=>?_
 refine k _ ⟨_,?_,fun j x hx=>?_,rfl⟩
 ·simp [h6];omega
 ·obtain ⟨_,hj⟩:=get_envOf xs 0 j x hx
  rw [Nat.sub_zero] at hj
  have:=h5 j x hj
  have hlt:j < (args.map (Act.eval ⟨A,ds⟩)).size:=(Array.getElem?_eq_some_iff.1 this).1
  rw [Array.getElem?_append_left hlt]
  exact this
theorem leave_back{f:FuncId}{xs:List (Option E)}{fn:Func}{t:List Item}{A':Array Value}(hc:callAt sz s=some (f,xs))(hz:A.size=sz)(h:Agree ν s.env A)(hf:P.funcs[f]? = some fn)(hr:fn.results = #[])(ht:t=[]∨∃k,t = .code .ret :: k)
  (k:IdleD P m I X Q d (G ((b.at ⟨A,ds⟩ s.todo).finish (.tuple #[])) cs)):IdleD P m I X Q d (G ((base f).at ⟨A',[]⟩ t) (b.at ⟨A,ds⟩ s.todo :: cs)):=by
 obtain ⟨ops,i,rest,kk,o,args,ats,h1,h2,h3,h4,h5,h6,h7⟩:=callAt_ok hc hz h b ds cs
 have e1:∀w,stepG P m (G ((base f).at ⟨A',[]⟩ t) (b.at ⟨A,ds⟩ s.todo :: cs)) w = .go (G { (base f).at ⟨A',[]⟩ t with mode:=.returning } (b.at ⟨A,ds⟩ s.todo :: cs)) w #[]:=by
  intro w
  rcases ht with rfl|⟨kx,rfl⟩
  ·exact stepG_end
  ·exact stepG_ret'
 refine .step rfl (fun _=>_) (fun _=>#[]) (fun w _=>⟨e1 w,by simp⟩) fun w _=>?_
 have e2:∀w,stepG P m (G { (base f).at ⟨A',[]⟩ t with mode:=.returning } (b.at ⟨A,ds⟩ s.todo :: cs)) w = .go (G ((b.at ⟨A,ds⟩ s.todo).finish (.tuple #[])) cs) w #[]:=by
  intro w
  rw [h1,stepG_leave (b:=base f) (a:=⟨A',[]⟩) rfl rfl hf (results_none hr _ P w) (events_results_none hr _ _)]
 exact .step rfl (fun _=>_) (fun _=>#[]) (fun w _=>⟨e2 w,by simp⟩) fun w _=>k
theorem leave_go{f:FuncId}{xs:List (Option E)}{fn:Func}{t:List Item}{A':Array Value}(hc:callAt sz s=some (f,xs))(hz:A.size=sz)(h:Agree ν s.env A)(hf:P.funcs[f]? = some fn)(hr:fn.results = #[])(ht:t=[]∨∃k,t = .code .ret :: k)
  (k:∀g,Behind ν sz b ds cs (next s none) g→IdleD P m I X Q d g):IdleD P m I X Q d (G ((base f).at ⟨A',[]⟩ t) (b.at ⟨A,ds⟩ s.todo :: cs)):=by
 obtain ⟨ops,i,rest,kk,o,args,ats,h1,h2,h3,h4,h5,h6,h7⟩:=callAt_ok hc hz h b ds cs
 have e1:∀w,stepG P m (G ((base f).at ⟨A',[]⟩ t) (b.at ⟨A,ds⟩ s.todo :: cs)) w = .go (G { (base f).at ⟨A',[]⟩ t with mode:=.returning } (b.at ⟨A,ds⟩ s.todo :: cs)) w #[]:=by
  intro w
  rcases ht with rfl|⟨kx,rfl⟩
  ·exact stepG_end
  ·exact stepG_ret'
 refine .step rfl (fun _=>_) (fun _=>#[]) (fun w _=>⟨e1 w,by simp⟩) fun w _=>?_
 have e2:∀w,stepG P m (G { (base f).at ⟨A',[]⟩ t with mode:=.returning } (b.at ⟨A,ds⟩ s.todo :: cs)) w = .go (G (b.at (Act.put ⟨A,ds⟩ o.dst (.tuple #[])) (.inRegion ops rest :: kk)) cs) w #[]:=by
  intro w
  rw [h1,stepG_leave (b:=base f) (a:=⟨A',[]⟩) rfl rfl hf (results_none hr _ P w) (events_results_none hr _ _),Frame.finish_at,h2]
  rfl
 refine .step rfl (fun _=>_) (fun _=>#[]) (fun w _=>⟨e2 w,by simp⟩) fun w _=>?_
 exact k _ (h7 none (.tuple #[]) (fun u hu=>by cases hu))
end
end Go.Sy
namespace Go.Mx
open Go.Ren Go.Sy
open Go.Conc hiding Goes
open Go.Conc.Locks
open Go.ConcR (stA smA)
def lkBody(L:MxLink):Code:=(lockFn L.mu).body.getD .skip
def ilBody(L:MxLink):Code:=(ilockFn L.mu).body.getD .skip
def tabM:Tab:=[(.nil (.v 0),.v 0),(.fld (.v 0) 1,.v 1)]
def lkE(L:MxLink):S:=⟨envOf 0 [some (.v 0)],[.code (lkBody L)],[]⟩
def lkS(L:MxLink):S:=fresh [(4,some (.v 1))] (run 6 tabM 200 (lkE L)).todo
def ilE(L:MxLink):S:=⟨envOf 0 [some (.v 1)],[.code (ilBody L)],[]⟩
def idS(L:MxLink):S:=fresh [(0,some (.v 0))] (run 13 T0 200 (ilE L)).todo
def icS(L:MxLink):S:=fresh [(0,some (.v 0)),(5,some (.v 1))] (run 13 T0 200 (next (idS L) none)).todo
def ieS(L:MxLink):S:=fresh [(0,some (.v 0))] (run 13 T0 200 (next (icS L) (some (.b true)))).todo
def ivS(L:MxLink):S:=fresh [(0,some (.v 0)),(8,some (.v 0))] (run 13 T0 200 (next (ieS L) none)).todo
def iaS(L:MxLink):S:=fresh [(9,some (.v 0))] (run 13 T0 200 (next (ivS L) (some (.v 0)))).todo
def irS(L:MxLink):S:=fresh [] (run 13 T0 200 (next (iaS L) none)).todo
def isS(L:MxLink):S:=fresh [(0,some (.v 0)),(11,some (.v 0))] (run 13 T0 200 (next (icS L) (some (.b false)))).todo
def nilS:S:=fresh [] []
def rp:List (E×E):=[(.v 0,.v 0),(.v 1,.v 1),(.v 1,.v 0)]
section
variable(L:MxLink)
theorem il_l:To L.mu.tMutex 6 tabM 200 1 (lkE L) (lkS L) rp:=⟨by kernel_rfl,by kernel_rfl,by kernel_rfl⟩
theorem il_r:To L.mu.tMutex 6 tabM 200 0 (next (lkS L) none) nilS rp:=⟨by kernel_rfl,by kernel_rfl,by kernel_rfl⟩
theorem il_at:callAt 6 (lkS L)=some (L.mu.ilock,[some (.v 1)]):=by kernel_rfl
section
variable(l w s n0 n1 z late:Bool)
theorem il_e:To L.mu.tIMutex 13 (tab l w s n0 n1 z late) 200 0 (ilE L) (idS L) rp:=⟨by kernel_rfl,by kernel_rfl,by kernel_rfl⟩
theorem il_c:To L.mu.tIMutex 13 (tab l w s n0 n1 z late) 200 1 (next (idS L) none) (icS L) rp:=⟨by kernel_rfl,by kernel_rfl,by kernel_rfl⟩
theorem il_y:To L.mu.tIMutex 13 (tab l w s n0 n1 z late) 200 0 (next (icS L) (some (.b true))) (ieS L) rp:=⟨by kernel_rfl,by kernel_rfl,by kernel_rfl⟩
theorem il_v:To L.mu.tIMutex 13 (tab l w s n0 n1 z late) 200 0 (next (ieS L) none) (ivS L) rp:=⟨by kernel_rfl,by kernel_rfl,by kernel_rfl⟩
theorem il_a:To L.mu.tIMutex 13 (tab l w s n0 n1 z late) 200 0 (next (ivS L) (some (.v 0))) (iaS L) rp:=⟨by kernel_rfl,by kernel_rfl,by kernel_rfl⟩
theorem il_ar:To L.mu.tIMutex 13 (tab l w s n0 n1 z late) 200 0 (next (iaS L) none) (irS L) rp:=⟨by kernel_rfl,by kernel_rfl,by kernel_rfl⟩
theorem il_n:To L.mu.tIMutex 13 (tab l w s n0 n1 z late) 200 0 (next (icS L) (some (.b false))) (isS L) rp:=⟨by kernel_rfl,by kernel_rfl,by kernel_rfl⟩
theorem il_s:To L.mu.tIMutex 13 (tab l w s n0 n1 z late) 200 0 (next (isS L) none) nilS rp:=⟨by kernel_rfl,by kernel_rfl,by kernel_rfl⟩
theorem ls_r:To L.mu.tIMutex 139 (tab l w s n0 n1 z late) 200 0 (next (aqS L) none) nilS rp:=⟨by kernel_rfl,by kernel_rfl,by kernel_rfl⟩
end
theorem at_id:callAt 13 (idS L)=some (L.mu.disable,[]):=by kernel_rfl
theorem at_ic:callAt 13 (icS L)=some (L.mu.cas32,[some (.v 1),some (.i .i32 0),some (.i .i32 1)]):=by kernel_rfl
theorem at_ie:callAt 13 (ieS L)=some (L.mu.enable,[]):=by kernel_rfl
theorem at_iv:convAt 13 (ivS L)=some (L.mu.tPIMutex,L.mu.tUP,some (.v 0)):=by kernel_rfl
theorem at_ia:callAt 13 (iaS L)=some (L.mu.acquire,[some (.v 0)]):=by kernel_rfl
theorem at_is:callAt 13 (isS L)=some (L.mu.lockSlow,[some (.v 0)]):=by kernel_rfl
theorem ret_i:isRet (irS L).todo=true:=by kernel_rfl
end
end Go.Mx
namespace Go.Mx
open Go.Ren Go.Sy
open Go.Conc hiding Goes
open Go.Conc.Locks
open Go.ConcR (stA smA)
theorem isRet_or{t:List Item}(h:isRet t=true):t=[]∨∃k,t = .code .ret :: k:=by
 unfold isRet at h
 split at h
 ·exact .inl rfl
 ·exact .inr ⟨_,rfl⟩
 ·cases h
def o0:Wd:=⟨0,0,0,0⟩
def n0(Mu:Nat):Nat→Value:=nu Mu 0 0 0 o0 0
theorem sm0:Small o0:=⟨⟨Nat.zero_le _,Nat.zero_le _,Nat.zero_le _⟩,by decide⟩
section
variable{P:Program}{L:MxLink}{I:World→Prop}{tM:TypeId}{Mu B:Nat}{T:Goroutine→Prop}
def AcQ(P:Program)(I:World→Prop)(Mu:Nat)(T:Goroutine→Prop)(d:Nat)(g:Goroutine):Prop:=d=0∧Says P false I #[Go.ConcR.mk (.acquire (stA Mu))] T g
def EnQ(P:Program)(I:World→Prop)(Mu:Nat)(T:Goroutine→Prop)(d:Nat)(g:Goroutine):Prop:=d=1∧Says P false I #[Go.ConcR.mk .enable] (IdleD P false I X0 (AcQ P I Mu T) 0) g
theorem LSeat.pre{E:Nat→Goroutine→Prop}{x:Lk}{d:Nat}{g:Goroutine}(h:IdleD P false I X0 (fun d g=>LSeat P I tM Mu B E x d g) d g):LSeat P I tM Mu B E x d g:=LSeat.idle (h.bind fun d g k=>k.out)
theorem rp_ok:∀p∈rp,p.1.den (n0 Mu)=p.2.den (n0 Mu):=by
 intro p hp
 simp only [rp,List.mem_cons,List.not_mem_nil,or_false] at hp
 rcases hp with rfl|rfl|rfl
 ·rfl
 ·rfl
 ·exact nu_1.trans nu_0.symm
theorem tabM_ok(H:MxLib P L):TabOk P L.mu.tMutex (n0 Mu) tabM:=by
 unfold TabOk tabM
 simp only [List.forall_mem_cons]
 refine ⟨⟨rfl,_,nu_0⟩,?_,fun p hp=>absurd hp (List.not_mem_nil)⟩
 show Go.Sy.Yields P (Instr.fieldAt L.mu.tMutex (n0 Mu 0) 1) (n0 Mu 1)
 rw [show n0 Mu 0 = .pointer (some ⟨Mu,0,none⟩) from nu_0,show n0 Mu 1 = .pointer (some ⟨Mu,0,none⟩) from nu_1]
 have hu:=H.lib.runUnderlying_tMutex
 have h2:=H.lib.sizeOf_tIMutex
 exact fun w=>⟨by simp [go_sem,hu,h2],fun es=>by simp [go_sem,hu,h2]⟩
theorem agree_ex{wst it:Int}{o:Wd}{A:Array Value}(h:Agree (nu Mu wst it 0 o 0) (exS L).env A):Agree (n0 Mu) (exS L).env A:=by
 refine agree_sub (ρ:=[(.v 0,.v 0)]) h (by kernel_rfl) fun p hp=>?_
 simp only [List.mem_cons,List.not_mem_nil,or_false] at hp
 subst hp
 exact nu_0.trans nu_0.symm
theorem lk_b(L:MxLink):(lockFn L.mu).body=some (lkBody L):=by kernel_rfl
theorem il_b(L:MxLink):(ilockFn L.mu).body=some (ilBody L):=by kernel_rfl
theorem ls_b(L:MxLink):(lockSlowFn L).body=some (lsBody L):=by kernel_rfl
theorem lk_n(L:MxLink):((lockFn L.mu).name == "runtime.NumGoroutine")=false:=by kernel_rfl
theorem il_nm(L:MxLink):((ilockFn L.mu).name == "runtime.NumGoroutine")=false:=by kernel_rfl
theorem ls_n(L:MxLink):((lockSlowFn L).name == "runtime.NumGoroutine")=false:=by kernel_rfl
theorem lk_r(L:MxLink):(lockFn L.mu).results = #[]:=by kernel_rfl
theorem il_rs(L:MxLink):(ilockFn L.mu).results = #[]:=by kernel_rfl
theorem ls_rs(L:MxLink):(lockSlowFn L).results = #[]:=by kernel_rfl
theorem lock_go(H:MxLib P L)(hB:B < 63)(hI:Sees I Mu){sz:Nat}{b:Frame}{ds:List Deferred}{cs:List Frame}{s:S}{A:Array Value}(hc:callAt sz s=some (L.mu.lock,[some (.v 0)]))(hz:A.size=sz)(ha:Agree (n0 Mu) s.env A)(hk:b.kind ≠ .early)
  (hT:∀g,IdleD P false I X0 (fun d g=>d=0∧g=G ((b.at ⟨A,ds⟩ s.todo).finish (.tuple #[])) cs) 0 g→T g) :
  IdleD P false I X0 (fun d g=>d=0∧Says P false I #[Go.ConcR.mk .disable] (LSeat P I tM Mu B (IdleD P false I X0 (EnQ P I Mu T)) .l0 1) g) 0 (G (b.at ⟨A,ds⟩ s.todo) cs):=by
 have hTT:=tab_ok H (Mu:=Mu) (wst:=0) (it:=0) (tv:=0) (nw:=0) sm0.1 sm0.2
 have hTM:=tabM_ok (Mu:=Mu) H
 have k1:(base L.mu.lock).kind ≠ .early:=by simp [base]
 have k2:(base L.mu.ilock).kind ≠ .early:=by simp [base]
 refine enter_go hc hz ha hk H.lib.f_lock (lk_n L) (lk_b L) (by show 1≤6;omega) fun g1 b1=>?_
 refine (il_l L).walk hTM rp_ok k1 (s:=lkE L) b1 fun g2 b2=>?_
 obtain ⟨A2,hz2,ha2,rfl⟩:=b2
 have back1:∀g,Behind (n0 Mu) 6 (base L.mu.lock) [] (b.at ⟨A,ds⟩ s.todo :: cs) (next (lkS L) none) g→IdleD P false I X0 (fun d g=>d=0∧g=G ((b.at ⟨A,ds⟩ s.todo).finish (.tuple #[])) cs) 0 g:=fun g hg=>by
  refine (il_r L).walk hTM rp_ok k1 hg fun g' hg'=>?_
  obtain ⟨A',_,_,rfl⟩:=hg'
  exact leave_back hc hz ha H.lib.f_lock (lk_r L) (.inl rfl) (.stop ⟨rfl,rfl⟩)
 refine enter_go (il_at L) hz2 ha2 k1 H.lib.f_ilock (il_nm L) (il_b L) (by show 1≤13;omega) fun g3 b3=>?_
 refine (il_e L _ _ _ _ _ _ _).walk hTT rp_ok k2 (s:=ilE L) b3 fun g4 b4=>.stop ⟨rfl,?_⟩
 obtain ⟨A4,hz4,ha4,rfl⟩:=b4
 obtain ⟨g5,b5,s5⟩:=mark0_at (P:=P) (m:=false) (b:=base L.mu.ilock) (ds:=[]) (cs:=(base L.mu.lock).at ⟨A2,[]⟩ (lkS L).todo :: b.at ⟨A,ds⟩ s.todo :: cs) .disable (by simp) (z:=none) rfl (at_id L) hz4 ha4 k2 H.lib.f_disable (e_dis_n L) (e_dis_b L) (e_dis_x L) (e_dis_f L)
 refine ⟨rfl,g5,fun w _=>s5 w,LSeat.idle ?_⟩
 refine (il_c L _ _ _ _ _ _ _).walk hTT rp_ok k2 b5 fun g6 b6=>.stop ?_
 obtain ⟨A6,hz6,ha6,rfl⟩:=b6
 refine ⟨rfl,rfl,rfl,fun e=>(by cases e),fun w m q hw hm hf=>.inr ?_⟩
 have hbits:=hf.1
 by_cases hm0:m=o0
 ·obtain ⟨g',hb,hst⟩:=cas_hit (P:=P) (m:=false) (b:=base L.mu.ilock) (ds:=[]) (cs:=(base L.mu.lock).at ⟨A2,[]⟩ (lkS L).todo :: b.at ⟨A,ds⟩ s.todo :: cs) (at_ic L) hz6 ha6 k2 H.lib.f_cas32 (e_cas_n L) (e_cas_b L) (e_cas_x L) (e_cas_f L) (ad:=mA Mu) nu_1 nu_z nu_z
  have hcell:w.cell? (mA Mu)=some (.int .i32 0):=by rw [hm.state,hm0];rfl
  refine ⟨.own,⟨1,0,0,0⟩,q,g',_,_,.l0f hm0,hst w hcell (hm.thaw 0),hm.setState rfl,eff_m _,ev_2,fun e=>(by cases e),?_⟩
  rw [df_2]
  show IdleD P false I X0 (EnQ P I Mu T) 1 g'
  refine (il_y L _ _ _ _ _ _ _).walk hTT rp_ok k2 hb fun g7 b7=>.stop ⟨rfl,?_⟩
  refine tail_go H hI k2 (by exact nu_0) hTT rp_ok (at_ie L) (il_v L _ _ _ _ _ _ _) (at_iv L) (il_a L _ _ _ _ _ _ _) (at_ia L) (fun g hg=>hT g ?_) b7
  refine (il_ar L _ _ _ _ _ _ _).walk hTT rp_ok k2 hg fun g' hg'=>?_
  obtain ⟨A',_,_,rfl⟩:=hg'
  exact leave_go (il_at L) hz2 ha2 H.lib.f_ilock (il_rs L) (isRet_or (ret_i L)) back1
 ·obtain ⟨g',hb,hst⟩:=cas_miss (P:=P) (m:=false) (b:=base L.mu.ilock) (ds:=[]) (cs:=(base L.mu.lock).at ⟨A2,[]⟩ (lkS L).todo :: b.at ⟨A,ds⟩ s.todo :: cs) (at_ic L) hz6 ha6 k2 H.lib.f_cas32 (e_cas_n L) (e_cas_b L) (e_cas_x L) (e_cas_f L) (ad:=mA Mu) nu_1 nu_z nu_z
  have hne:¬((m.num:Int)=0):=fun e=>hm0 (Wd.inj hbits sm0.1 (by rw [show m.num=0 by omega];rfl))
  refine ⟨.rd false false 0,m,q,g',_,_,.l0s hm0,hst w _ hm.state (hm.thaw 0) hne,hm,eff_refl,ev_1,fun e=>(by cases e),?_⟩
  rw [df_1]
  show LSeat P I tM Mu B _ (.rd false false 0) 1 g'
  refine LSeat.pre ?_
  refine (il_n L _ _ _ _ _ _ _).walk hTT rp_ok k2 hb fun g7 b7=>?_
  obtain ⟨A7,hz7,ha7,rfl⟩:=b7
  refine enter_go (at_is L) hz7 ha7 k2 H.f_lockSlow (ls_n L) (ls_b L) (by show 1≤139;omega) fun g8 b8=>.stop ?_
  obtain ⟨A8,hz8,ha8,rfl⟩:=b8
  refine ls_seat H hB (fun wst it o g hg=>.stop ⟨rfl,?_⟩) hz8 ((ha8 0 (.v 0) rfl).trans (congrArg some nu_0))
  have hg0:Behind (n0 Mu) 139 (base L.mu.lockSlow) [] ((base L.mu.ilock).at ⟨A7,[]⟩ (isS L).todo :: (base L.mu.lock).at ⟨A2,[]⟩ (lkS L).todo :: b.at ⟨A,ds⟩ s.todo :: cs) (exS L) g:=by
   obtain ⟨A9,hz9,ha9,rfl⟩:=hg
   exact ⟨A9,hz9,agree_ex ha9,rfl⟩
  refine tail_go H hI kb (by exact nu_0) hTT rq_ok (at_ex L) (ck_ex _ _ _ _ _ _ _) at_cv (ck_cv _ _ _ _ _ _ _) at_aq (fun g hg=>hT g ?_) hg0
  refine (ls_r L _ _ _ _ _ _ _).walk hTT rp_ok kb hg fun g' hg'=>?_
  obtain ⟨A',_,_,rfl⟩:=hg'
  refine leave_go (at_is L) hz7 ha7 H.f_lockSlow (ls_rs L) (.inl rfl) fun g'' hg''=>?_
  refine (il_s L _ _ _ _ _ _ _).walk hTT rp_ok k2 hg'' fun g' hg'=>?_
  obtain ⟨A',_,_,rfl⟩:=hg'
  exact leave_go (il_at L) hz2 ha2 H.lib.f_ilock (il_rs L) (.inl rfl) back1
end
end Go.Mx
