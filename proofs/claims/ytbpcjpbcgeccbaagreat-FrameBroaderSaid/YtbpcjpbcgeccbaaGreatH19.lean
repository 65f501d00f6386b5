import Derived.Conc.WgGenAddNeg
import Derived.Laws.LoneSync
import Derived.Conc.Own4
import Derived.Test.YtbpcjpbcgeccbaaGreatH18
set_option linter.unusedVariables false
set_option linter.unusedSectionVars false
set_option linter.unusedSimpArgs false
namespace Go.Mx
open Go.Ren Go.Sy
open Go.Conc hiding Goes
open Go.Conc.Locks
open Go.ConcR (stA smA)
def qi(T:Lo):Wd:=if T.old.L=0∧T.old.S=0 then ⟨1,if T.aw then 0 else T.old.W,0,T.old.n⟩ else ⟨T.old.L,if T.aw then 0 else T.old.W,if T.sv=true∧T.old.L=1 then 1 else T.old.S,T.old.n+1⟩
def Bh(L:ah)(cs:List Frame)(ν:Nat→Value)(s:S)(g:Goroutine):Prop:=Behind ν 139 (base L.mu.lockSlow) [] cs s g
def Small(o:Wd):Prop:=o.Bits∧o.n < 63
def PK(L:ah)(Mu:Nat)(cs:List Frame)(y:Lk)(d:Nat)(g:Goroutine):Prop:=d=1∧match y with
 | .rd aw sv it=>∃wst o pl,Bh L cs (nu Mu wst it 0 o 0) (QY L pl aw sv) g
 | .sq T=>∃wst,Bh L cs (nu Mu wst T.it 0 T.old 0) (VK L T.aw T.sv) g
 | .c1 T=>T.aw=false∧∃wst,Bh L cs (nu Mu wst T.it 0 T.old 0) (c1S L T.sv) g
 | .c2 T=>∃wst,Bh L cs (nu Mu wst T.it 0 T.old (qi T).num) (NG L T.aw T.sv) g
 | .t1 sv=>∃wst it o gJ,Small o∧Bh L cs (nu Mu wst it 0 o 0) (Ym L sv gJ) g
 | .s1 sv=>∃wst it o gJ,Small o∧Bh L cs (nu Mu wst it 0 o 0) (Zx L sv gJ) g
 | .t2=>∃wst it o,Small o∧Bh L cs (nu Mu wst it 0 o 0) (Zy L) g
 | .r2 sv=>∃wst it o,Small o∧Bh L cs (nu Mu wst it 0 o 0) (Tj L sv) g
 | .a1 sv cl=>∃wst it o,Small o∧Bh L cs (nu Mu wst it 0 o 0) (a1S L (if cl then -11 else -7)) g
 |_=>False
section
variable{P:Program}{L:ah}{I:World→Prop}{tM:TypeId}{Mu B:Nat}{cs:List Frame}{d:Nat}{g:Goroutine}{wst it tv:Int}{o:Wd}{nw:Int}
theorem kb:(base L.mu.lockSlow).kind ≠ .early:=by simp [base]
theorem iO{tv' Gj:Int}:∀p∈ri,p.1.den (nu Mu wst it tv o nw)=p.2.den (nu Mu wst it tv' o Gj):=by
 intro p hp
 simp only [ri,List.mem_cons,List.not_mem_nil,or_false] at hp
 rcases hp with rfl|rfl|rfl|rfl|rfl|rfl|rfl
 ·exact jC.trans jC.symm
 ·exact jI.trans jI.symm
 ·exact yf.trans yf.symm
 ·exact zW.trans zW.symm
 ·exact rQ.trans rQ.symm
 ·exact Gh.trans Gh.symm
 ·exact ND.trans ND.symm
theorem Ew{tv':Int}{k:Nat}{Gj:Int}(h:nu Mu wst it tv o nw k = .int .i32 Gj):∀p∈rN k,p.1.den (nu Mu wst it tv o nw)=p.2.den (nu Mu wst it tv' o Gj):=by
 intro p hp
 simp only [rN,List.mem_cons] at hp
 rcases hp with rfl|hp
 ·exact h.trans Ti.symm
 ·exact iO p hp
theorem eH{l w s:Bool}(hl:fl o.L=l)(hw:fl o.W=w)(hs:fl o.S=s):xR wst tv o=tab l w s (o.n == 0) (o.n == 1) (wst == 0) (decide (IntKind.i64.wrap (tv - wst) > 1000000)):=by unfold xR;rw [hl,hw,hs]
theorem DL{k:Nat}(h:k=1):fl k=true:=by rw [h];rfl
theorem vG{k:Nat}(h:k=0):fl k=false:=by rw [h];rfl
theorem KD(ho:o.Bits)(hn:o.n < 63):tZ (o.num:Int) 1=((⟨1,o.W,o.S,o.n⟩:Wd).num:Nat):=by
 have h1:=fP (m:=⟨1,o.W,o.S,o.n⟩) ⟨Nat.le_refl _,ho.W,ho.S⟩
 rw [fP ho,h1]
 exact (IM _ (by omega) _ _ _).1
theorem ZP(ho:o.Bits)(hn:o.n < 63):oP (tZ (o.num:Int) 1) 2=((⟨1,0,o.S,o.n⟩:Wd).num:Nat):=by
 have h1:=fP (m:=⟨1,o.W,o.S,o.n⟩) ⟨Nat.le_refl _,ho.W,ho.S⟩
 have h2:=fP (m:=⟨1,0,o.S,o.n⟩) ⟨Nat.le_refl _,Nat.zero_le _,ho.S⟩
 rw [KD ho hn,h1,h2]
 exact (IM _ (by dsimp only;omega) _ _ _).2.2.2
theorem Tt(ho:o.Bits)(hn:o.n < 63):IntKind.i32.wrap ((o.num:Int)+8)=((⟨o.L,o.W,o.S,o.n+1⟩:Wd).num:Nat):=by
 have h2:=fP (m:=⟨o.L,o.W,o.S,o.n+1⟩) ⟨ho.L,ho.W,ho.S⟩
 rw [ac5 ho hn,h2]
theorem KE(ho:o.Bits)(hn:o.n < 63):IntKind.i32.wrap (tZ (o.num:Int) 1+8)=((⟨1,o.W,o.S,o.n+1⟩:Wd).num:Nat):=by
 rw [KD ho hn]
 exact Tt (o:=⟨1,o.W,o.S,o.n⟩) ⟨Nat.le_refl _,ho.W,ho.S⟩ hn
theorem ZQ(ho:o.Bits)(hn:o.n < 63):oP (IntKind.i32.wrap (tZ (o.num:Int) 1+8)) 2=((⟨1,0,o.S,o.n+1⟩:Wd).num:Nat):=by
 have h1:=fP (m:=⟨1,o.W,o.S,o.n+1⟩) ⟨Nat.le_refl _,ho.W,ho.S⟩
 have h2:=fP (m:=⟨1,0,o.S,o.n+1⟩) ⟨Nat.le_refl _,Nat.zero_le _,ho.S⟩
 rw [KE ho hn,h1,h2]
 exact (IM _ (by dsimp only;omega) _ _ _).2.2.2
theorem ZR(ho:o.Bits)(hn:o.n < 63):oP (tZ (IntKind.i32.wrap (tZ (o.num:Int) 1+8)) 4) 2=((⟨1,0,1,o.n+1⟩:Wd).num:Nat):=by
 have h1:=fP (m:=⟨1,o.W,o.S,o.n+1⟩) ⟨Nat.le_refl _,ho.W,ho.S⟩
 have h2:=fP (m:=⟨1,0,1,o.n+1⟩) ⟨Nat.le_refl _,Nat.zero_le _,Nat.le_refl _⟩
 rw [KE ho hn,h1,h2,(IM _ (by dsimp only;omega) _ _ _).2.2.1]
 exact (IM _ (by dsimp only;omega) _ _ _).2.2.2
theorem ZT(ho:o.Bits)(hn:o.n < 63):tZ (o.num:Int) 2=((⟨o.L,1,o.S,o.n⟩:Wd).num:Nat):=by
 have h1:=fP (m:=⟨o.L,1,o.S,o.n⟩) ⟨ho.L,Nat.le_refl _,ho.S⟩
 rw [fP ho,h1]
 exact (IM _ (by omega) _ _ _).2.1
theorem NW(H:dQ P L)(ho:o.Bits)(hn:o.n < 63){aw sv:Bool}{it:Nat}(hw:aw=true→o.W=1∧o.S=0)(hs:sv=true→aw=true)(hg:Bh L cs (nu Mu wst it 0 o 0) (head L aw sv) g):ag P false I X0 (PK L Mu cs (hd ⟨o,aw,sv,it⟩)) 1 g:=by
 have hT:=jH H (Mu:=Mu) (wst:=wst) (it:=it) (tv:=0) (nw:=0) ho hn
 have hL:=ho.L
 have hS:=ho.S
 have hW:=ho.W
 by_cases hq:o.L=1∧o.S=0
 ·have e:hd ⟨o,aw,sv,it⟩ = .sq ⟨o,aw,sv,it⟩:=by unfold hd;rw [if_pos hq]
  rw [e]
  rw [eH (DL hq.1) rfl (vG hq.2)] at hT
  exact (adh L _ _ _ _ _ aw sv).walk hT iO kb hg fun g' hb=>.stop ⟨rfl,wst,hb⟩
 ·have e:hd ⟨o,aw,sv,it⟩ = .c2 ⟨o,aw,sv,it⟩:=by unfold hd;rw [if_neg hq]
  rw [e]
  by_cases h0:o.S=0
  ·have hl0:o.L=0:=by omega
   cases ha:aw with
   |false=>
    have hsv:sv=false:=by cases h:sv with|false=>rfl|true=>exact absurd (hs h) (by rw [ha];simp)
    subst ha hsv
    rw [eH (vG hl0) rfl (vG h0)] at hT
    refine (Zz L _ _ _ _ _).walk hT (Ew (Gj :=((qi ⟨o,false,false,it⟩).num:Nat)) ?_) kb hg fun g' hb=>.stop ⟨rfl,wst,hb⟩
    rw [ac6,KD ho hn]
    unfold qi
    rw [if_pos ⟨hl0,h0⟩]
    simp [h0]
   |true=>
    subst ha
    have hw1:=(hw rfl).1
    rw [eH (vG hl0) (DL hw1) (vG h0)] at hT
    refine (Wp L _ _ _ _ sv).walk hT (Ew (Gj :=((qi ⟨o,true,sv,it⟩).num:Nat)) ?_) kb hg fun g' hb=>.stop ⟨rfl,wst,hb⟩
    rw [ac8,ZP ho hn]
    unfold qi
    rw [if_pos ⟨hl0,h0⟩]
    simp [h0]
  ·have hs1:o.S=1:=by omega
   have ha:aw=false:=by cases h:aw with|false=>rfl|true=>exact absurd (hw h).2 h0
   have hsv:sv=false:=by cases h:sv with|false=>rfl|true=>exact absurd (hs h) (by rw [ha];simp)
   subst ha hsv
   rw [eH rfl rfl (DL hs1)] at hT
   refine (adi L _ _ _ _ _ _).walk hT (Ew (Gj :=((qi ⟨o,false,false,it⟩).num:Nat)) ?_) kb hg fun g' hb=>.stop ⟨rfl,wst,hb⟩
   rw [ac7,Tt ho hn]
   unfold qi
   rw [if_neg (by intro x;exact h0 x.2)]
   simp
end
end Go.Mx
namespace Go.Mx
open Go.Ren Go.Sy
open Go.Conc hiding Goes
open Go.Conc.Locks
open Go.ConcR (stA smA)
section
variable{P:Program}{L:ah}{I:World→Prop}{tM:TypeId}{Mu B:Nat}{cs:List Frame}{d:Nat}{g:Goroutine}{wst it tv:Int}{o:Wd}{nw:Int}{Q:Nat→Goroutine→Prop}
theorem WA{it:Nat}(h:it≤4):IntKind.i64.wrap ((it:Int)+1)=((it+1:Nat):Int):=by
 have:it=0∨it=1∨it=2∨it=3∨it=4:=by omega
 rcases this with rfl|rfl|rfl|rfl|rfl<;>decide +kernel
def RL(P:Program)(L:ah)(I:World→Prop)(Mu:Nat)(cs:List Frame)(y:Lk)(d:Nat)(g:Goroutine):Prop:=ag P false I X0 (PK L Mu cs y) d g
theorem adF{R:Lk→Nat→Goroutine→Prop}{E:Nat→Goroutine→Prop}{y:Lk}(hy:Zt y)(h:R y d g):Nx R E y d g:=by
 cases y<;>first|exact h|exact hy.elim
theorem KG{a b:Wd}(ha:a.Bits)(hb:b.Bits)(h:a≠b):¬((a.num:Int)=b.num):=fun e=>h (Wd.inj ha hb (Int.ofNat_inj.1 e))
theorem qj{wst' it' tv' Gj:Int}{o':Wd}{e:Env}{A:Array Value}(ρ:List (E×E))(hs:(Go.Sy.sub e e).all (kY ρ)=true)(hρ:∀p∈ρ,p.1.den (nu Mu wst it tv o nw)=p.2.den (nu Mu wst' it' tv' o' Gj))(h:Agree (nu Mu wst it tv o nw) e A):Agree (nu Mu wst' it' tv' o' Gj) e A:=uf h hs hρ
def rv:List (E×E):=[(.v 0,.v 0),(.v 1,.v 1),(.v 2,.v 2),(.v 3,.v 3),(.v 5,.v 5)]
theorem adG{tv' Gj:Int}{o':Wd}:∀p∈rv,p.1.den (nu Mu wst it tv o nw)=p.2.den (nu Mu wst it tv' o' Gj):=by
 intro p hp
 simp only [rv,List.mem_cons,List.not_mem_nil,or_false] at hp
 rcases hp with rfl|rfl|rfl|rfl|rfl
 ·exact jC.trans jC.symm
 ·exact jI.trans jI.symm
 ·exact yf.trans yf.symm
 ·exact zW.trans zW.symm
 ·exact Gh.trans Gh.symm
theorem ZU(L:ah)(pl:Pl)(aw sv:Bool):(Go.Sy.sub (QY L pl aw sv).env (QY L pl aw sv).env).all (kY rv)=true:=by cases pl<;>cases aw<;>cases sv<;>kernel_rfl
theorem ZV(T:Tab)(pl:Pl)(aw sv:Bool):∃n,To L.mu.tIMutex 139 T n 0 (next (QY L pl aw sv) (some (.v 4))) (head L aw sv) ri:=by
 obtain ⟨k1,k2,k3⟩:=adg L T aw sv
 cases pl
 ·exact ⟨_,k1⟩
 ·exact ⟨_,k2⟩
 ·exact ⟨_,k3⟩
theorem PL(L:ah):(some (kC L)).any (·.norace)=true:=by kernel_rfl
theorem IX(H:dQ P L):(P.funcs[(base L.mu.lockSlow).fn]?).any (·.norace)=true:=by
 show (P.funcs[L.mu.lockSlow]?).any (·.norace)=true
 rw [H.vz];exact PL L
variable(H:dQ P L)(hB:B < 63)
include H hB
theorem ZW{E:Nat→Goroutine→Prop}{aw sv:Bool}{it:Nat}(h:PK L Mu cs (.rd aw sv it) d g):Dv P I tM Mu B (Nx (RL P L I Mu cs) E) (.rd aw sv it) d g:=by
 obtain ⟨rfl,wst,o,pl,A,hz,ha,rfl⟩:=h
 refine ⟨rfl,rfl,rfl,fun e=>(by cases e),fun w m q hw hm hf=>.inr ?_⟩
 obtain ⟨eP,hnB,hq1,hwf,hmm⟩:=hf
 have ha':Agree (nu Mu wst it 0 m 0) (QY L pl aw sv).env A:=qj rv (ZU L pl aw sv) adG ha
 obtain ⟨g',hb,hstep⟩:=Aj (P:=P) (m:=false) (b:=base L.mu.lockSlow) (ds:=[]) (cs:=cs) (z:=some (.v 4)) H.lib.runUnderlying_t21 H.lib.sizeOf_t21 H.lib.isAgg_t21 (adx L pl aw sv) hz ha' kb (IX H) (ad:=mA Mu) jI (v:=(m.num:Int)) (fun u hu=>by cases hu;exact rQ.symm)
 refine ⟨hd ⟨m,aw,sv,it⟩,m,q,g',w,#[],.rd,hstep w hm.state,hm,⟨rfl,fun _ _=>rfl,.rfl,rfl,rfl⟩,by simp,fun e=>(by cases e),adF (Kz _) ?_⟩
 show ag P false I X0 _ 1 g'
 have hT:=jH H (Mu:=Mu) (wst:=wst) (it:=it) (tv:=0) (nw:=0) eP (by omega:m.n < 63)
 obtain ⟨n,hto⟩:=ZV (L:=L) (xR wst 0 m) pl aw sv
 exact hto.walk hT iO kb hb fun g'' hb'=>NW H eP (by omega) hmm hwf.1 hb'
theorem IY{aw sv:Bool}{it:Nat}(hs:Small o)(hit:it≤4)(hb:Bh L cs (nu Mu wst it 0 o 0) (Yl L aw sv) g):ag P false I X0 (PK L Mu cs (.rd aw sv (it+1))) 1 g:=by
 obtain ⟨A,hz,ha,rfl⟩:=hb
 obtain ⟨g',hb,hstep⟩:=Wl (P:=P) (m:=false) (b:=base L.mu.lockSlow) (ds:=[]) (cs:=cs) (.tuple #[]) (z:=none) (fun u hu=>by cases hu) (ady L aw sv) hz ha kb H.SE (ZJ L) (ZK L) (ZL L) (ZM L)
 refine .step rfl (fun _=>g') (fun _=>#[]) (fun w _=>⟨hstep w,by simp⟩) fun w _=>?_
 show ag P false I X0 _ 1 g'
 have hT:=jH H (Mu:=Mu) (wst:=wst) (it:=it) (tv:=0) (nw:=0) hs.1 hs.2
 refine (adt L _ _ _ _ _ _ _ aw sv).walk (Ap :=nu Mu wst ((it+1:Nat):Int) 0 o 0) hT (fun p hp=>?_) kb hb fun g'' hb'=>.stop ⟨rfl,wst,o,.b,hb'⟩
 simp only [List.mem_cons,List.not_mem_nil,or_false] at hp
 rcases hp with rfl|rfl|rfl|rfl
 ·exact jC.trans jC.symm
 ·exact jI.trans jI.symm
 ·exact zW.trans zW.symm
 ·refine (ahn (Mu:=Mu)).trans ?_
  rw [WA hit]
  exact Gh.symm
theorem ZX{E:Nat→Goroutine→Prop}{T:Lo}(h:PK L Mu cs (.sq T) d g):Dv P I tM Mu B (Nx (RL P L I Mu cs) E) (.sq T) d g:=by
 obtain ⟨rfl,wst,A,hz,ha,rfl⟩:=h
 refine ⟨rfl,rfl,rfl,fun e=>(by cases e),fun w m q hw hm hf=>.inr ?_⟩
 obtain ⟨eP,hnB,hq1,⟨⟨ob,on,osv,oaw,oit⟩,oL,oS⟩,_⟩:=hf
 obtain ⟨old,aw,sv,it⟩:=T
 dsimp only at ha ob on osv oaw oit oL oS ⊢
 have hsm:Small old:=⟨ob,by omega⟩
 have hT:=jH H (Mu:=Mu) (wst:=wst) (it:=it) (tv:=0) (nw:=0) hsm.1 hsm.2
 obtain ⟨gt,hbt,hst⟩:=BD (P:=P) (m:=false) (b:=base L.mu.lockSlow) (ds:=[]) (cs:=cs) (Yn L aw sv) hz ha kb H.En (NL L) (NM L) (NP L) (NQ L) (k:=.i64) (n:=(it:Int)) Gh true
 obtain ⟨gf,hbf,hsf⟩:=BD (P:=P) (m:=false) (b:=base L.mu.lockSlow) (ds:=[]) (cs:=cs) (Yn L aw sv) hz ha kb H.En (NL L) (NM L) (NP L) (NQ L) (k:=.i64) (n:=(it:Int)) Gh false
 by_cases h4:it < 4∧w.spins=true
 ·have hgo:=(hst w).1 (by omega) h4.2
  by_cases hc:aw=false∧old.W=0∧old.n≠0
  ·refine ⟨.c1 ⟨old,aw,sv,it⟩,m,q,gt,w.asked,#[],.sqc h4.1 hc,hgo,hm,yg,by simp,fun e=>(by cases e),?_⟩
   obtain ⟨rfl,hw0,hn0⟩:=hc
   rw [eH (DL oL) (vG hw0) (vG oS),show (old.n == 0)=false from by simpa using hn0] at hT
   exact (ado L _ _ _ sv).walk hT iO kb hbt fun g'' hb'=>.stop ⟨rfl,rfl,wst,hb'⟩
  ·refine ⟨.rd aw sv (it+1),m,q,gt,w.asked,#[],.sqr h4.1 hc,hgo,hm,yg,by simp,fun e=>(by cases e),?_⟩
   show ag P false I X0 _ 1 gt
   cases haw:aw with
   |true=>
    subst haw
    rw [eH (DL oL) rfl (vG oS)] at hT
    exact (adp L _ _ _ _ _ sv).walk hT iO kb hbt fun g'' hb'=>IY H hB hsm oit hb'
   |false=>
    subst haw
    by_cases hw0:old.W=0
    ·have hn0:old.n=0:=by
      apply Classical.byContradiction
      intro hn
      exact hc ⟨rfl,hw0,hn⟩
     rw [eH (DL oL) (vG hw0) (vG oS),show (old.n == 0)=true from by simpa using hn0] at hT
     exact (adr L _ _ _ sv).walk hT iO kb hbt fun g'' hb'=>IY H hB hsm oit hb'
    ·have hw1:old.W=1:=by have:=ob.W;omega
     rw [eH (DL oL) (DL hw1) (vG oS)] at hT
     exact (adq L _ _ _ _ sv).walk hT iO kb hbt fun g'' hb'=>IY H hB hsm oit hb'
 ·have key:RL P L I Mu cs (.c2 ⟨old,aw,sv,it⟩) 1 gf:=by
   show ag P false I X0 _ 1 gf
   have hnw:qi ⟨old,aw,sv,it⟩=⟨1,if aw then 0 else old.W,if sv=true then 1 else 0,old.n+1⟩:=by
    unfold qi
    rw [if_neg (by intro x;have:=x.1;dsimp only at this;omega)]
    simp [oL,oS]
   cases haw:aw with
   |false=>
    have hsv:sv=false:=by cases h:sv with|false=>rfl|true=>exact absurd (osv h) (by rw [haw];simp)
    subst haw hsv
    rw [eH (DL oL) rfl (vG oS)] at hT
    refine (adl L _ _ _ _ _).walk hT (Ew (Gj :=((qi ⟨old,false,false,it⟩).num:Nat)) ?_) kb hbf fun g' hb=>.stop ⟨rfl,wst,hb⟩
    rw [adb,KE hsm.1 hsm.2,hnw]
    simp [oS]
   |true=>
    have hw1:=(oaw haw).1
    subst haw
    rw [eH (DL oL) (DL hw1) (vG oS)] at hT
    cases hsv:sv with
    |false=>
     subst hsv
     refine (adm L _ _ _ _).walk hT (Ew (Gj :=((qi ⟨old,true,false,it⟩).num:Nat)) ?_) kb hbf fun g' hb=>.stop ⟨rfl,wst,hb⟩
     rw [ac9,ZQ hsm.1 hsm.2,hnw]
     simp [oS]
    |true=>
     subst hsv
     refine (adn L _ _ _ _).walk hT (Ew (Gj :=((qi ⟨old,true,true,it⟩).num:Nat)) ?_) kb hbf fun g' hb=>.stop ⟨rfl,wst,hb⟩
     rw [ada,ZR hsm.1 hsm.2,hnw]
     simp
  by_cases h4':it < 4
  ·have hsp:w.spins=false:=by cases h:w.spins with|false=>rfl|true=>exact absurd ⟨h4',h⟩ h4
   exact ⟨.c2 ⟨old,aw,sv,it⟩,m,q,gf,w.asked,#[],.sqn,(hsf w).1 (by omega) hsp,hm,yg,by simp,fun e=>(by cases e),key⟩
  ·exact ⟨.c2 ⟨old,aw,sv,it⟩,m,q,gf,w,#[],.sqn,(hsf w).2 (by omega) rfl,hm,⟨rfl,fun _ _=>rfl,.rfl,rfl,rfl⟩,by simp,fun e=>(by cases e),key⟩
end
end Go.Mx
namespace Go.Mx
open Go.Ren Go.Sy
open Go.Conc hiding Goes
open Go.Conc.Locks
open Go.ConcR (stA smA)
section
variable{P:Program}{L:ah}{I:World→Prop}{tM:TypeId}{Mu B:Nat}{cs:List Frame}{d:Nat}{g:Goroutine}{wst it tv:Int}{o:Wd}{nw:Int}{Q:Nat→Goroutine→Prop}
theorem uM{w:World}(v:Value):rJ Mu w (w.setCell (mA Mu) v):=NV (a:=mA Mu) rfl v
theorem Tu{w:World}(v:Value):rJ Mu w (w.setCell (sA Mu) v):=NV (a:=sA Mu) rfl v
theorem kR{w:World}:rJ Mu w w:=⟨rfl,fun _ _=>rfl,.rfl,rfl,rfl⟩
theorem ZY{m:Wd}(hm:m.Bits)(hn:m.n < 63)(hL:m.L=0)(hW:m.W=0)(hS:m.S=1)(h1:1≤m.n)(cl:Bool):IntKind.i32.wrap ((m.num:Int)+(if cl then -11 else -7))=((⟨1,m.W,if cl then 0 else m.S,m.n - 1⟩:Wd).num:Nat):=by
 have hb:(⟨1,m.W,if cl then 0 else m.S,m.n - 1⟩:Wd).Bits:=⟨Nat.le_refl _,hm.W,by cases cl<;>simp [hS]⟩
 have e:(m.num:Int)+(if cl=true then -11 else -7)=((⟨1,m.W,if cl then 0 else m.S,m.n - 1⟩:Wd).num:Nat):=by
  unfold Wd.num
  dsimp only
  cases cl<;>simp [hL,hW,hS]<;>omega
 rw [e]
 exact Td hb (by dsimp only;omega)
theorem PM{k:IntKind}{z:Int}{ν:Nat→Value}:(E.i k z).den ν = .int k z:=rfl
def r4:List (E×E):=[(.v 0,.v 0),(.v 1,.v 1),(.v 2,.v 2),(.v 3,.v 3)]
theorem Ey{it' tv' Gj:Int}{o':Wd}:∀p∈r4,p.1.den (nu Mu wst it tv o nw)=p.2.den (nu Mu wst it' tv' o' Gj):=by
 intro p hp
 simp only [r4,List.mem_cons,List.not_mem_nil,or_false] at hp
 rcases hp with rfl|rfl|rfl|rfl
 ·exact jC.trans jC.symm
 ·exact jI.trans jI.symm
 ·exact yf.trans yf.symm
 ·exact zW.trans zW.symm
theorem ZZ(L:ah)(sv gJ:Bool):(Go.Sy.sub (Ym L sv gJ).env (Ym L sv gJ).env).all (kY r4)=true:=by cases sv<;>cases gJ<;>kernel_rfl
theorem Z4(L:ah):(Go.Sy.sub (Zy L).env (Zy L).env).all (kY r4)=true:=by kernel_rfl
theorem Z5(L:ah)(sv:Bool):(Go.Sy.sub (Tj L sv).env (Tj L sv).env).all (kY r4)=true:=by cases sv<;>kernel_rfl
theorem adH:∀p∈r0,p.1.den (nu Mu 0 0 0 o 0)=p.2.den (nu Mu 0 ((0:Nat):Int) 0 o 0):=by
 intro p hp
 simp only [r0,List.mem_cons,List.not_mem_nil,or_false] at hp
 rcases hp with rfl|rfl|rfl|rfl
 ·exact jC.trans jC.symm
 ·exact jI.trans jI.symm
 ·exact zW.symm
 ·exact Gh.symm
variable(H:dQ P L)(hB:B < 63)
include H hB
theorem Z7{E:Nat→Goroutine→Prop}{T:Lo}(h:PK L Mu cs (.c1 T) d g):Dv P I tM Mu B (Nx (RL P L I Mu cs) E) (.c1 T) d g:=by
 obtain ⟨rfl,haw,wst,A,hz,ha,rfl⟩:=h
 refine ⟨rfl,rfl,rfl,fun e=>(by cases e),fun w m q hw hm hf=>.inr ?_⟩
 obtain ⟨eP,hnB,hq1,⟨⟨ob,on,osv,oaw,oit⟩,oL,oS,oW,on0,_,aht⟩,_⟩:=hf
 obtain ⟨old,aw,sv,it⟩:=T
 dsimp only at ha ob on osv oaw oit oL oS oW on0 haw aht ⊢
 subst haw
 have hsm:Small old:=⟨ob,by omega⟩
 have hT:=jH H (Mu:=Mu) (wst:=wst) (it:=it) (tv:=0) (nw:=0) hsm.1 hsm.2
 by_cases hmo:m=old
 ·subst hmo
  obtain ⟨g',hb,hst⟩:=Ai (P:=P) (m:=false) (b:=base L.mu.lockSlow) (ds:=[]) (cs:=cs) (Yo L sv) hz ha kb H.lib.f_cas32 (nU L) (nV L) (nX L) (nY L) (ad:=mA Mu) jI rQ ND
  refine ⟨.rd true sv (it+1),⟨m.L,1,m.S,m.n⟩,q,g',_,_,.c1y rfl,hst w hm.state (hm.thaw 0),hm.setState (ZT hsm.1 hsm.2),uM _,DJ,fun e=>(by cases e),?_⟩
  rw [DK]
  exact (ZA L _ _ _ _ _ _ _ sv).walk hT iO kb hb fun g'' hb'=>IY H hB hsm oit hb'
 ·obtain ⟨g',hb,hst⟩:=wP (P:=P) (m:=false) (b:=base L.mu.lockSlow) (ds:=[]) (cs:=cs) (Yo L sv) hz ha kb H.lib.f_cas32 (nU L) (nV L) (nX L) (nY L) (ad:=mA Mu) jI rQ ND
  refine ⟨.rd false sv (it+1),m,q,g',_,_,.c1n hmo,hst w _ hm.state (hm.thaw 0) (KG eP ob hmo),hm,kR,Wx,fun e=>(by cases e),?_⟩
  rw [Wy]
  exact (ZB L _ _ _ _ _ _ _ sv).walk hT iO kb hb fun g'' hb'=>IY H hB hsm oit hb'
theorem Z8(hQ:∀wst it o g,Bh L cs (nu Mu wst it 0 o 0) (QZ L) g→ag P false I X0 Q 1 g){T:Lo}(h:PK L Mu cs (.c2 T) d g):Dv P I tM Mu B (Nx (RL P L I Mu cs) (ag P false I X0 Q)) (.c2 T) d g:=by
 obtain ⟨rfl,wst,A,hz,ha,rfl⟩:=h
 refine ⟨rfl,rfl,rfl,fun e=>(by cases e),fun w m q hw hm hf=>.inr ?_⟩
 obtain ⟨eP,hnB,hq1,⟨ob,on,osv,oaw,oit⟩,_⟩:=hf
 obtain ⟨old,aw,sv,it⟩:=T
 dsimp only at ha ob on osv oaw oit ⊢
 have hsm:Small old:=⟨ob,by omega⟩
 have hT:=jH H (Mu:=Mu) (wst:=wst) (it:=it) (tv:=0) (nw:=(qi ⟨old,aw,sv,it⟩).num) hsm.1 hsm.2
 have oL:=ob.L
 have oS:=ob.S
 by_cases hmo:m=old
 ·subst hmo
  obtain ⟨g',hb,hst⟩:=Ai (P:=P) (m:=false) (b:=base L.mu.lockSlow) (ds:=[]) (cs:=cs) (Yp L aw sv) hz ha kb H.lib.f_cas32 (nU L) (nV L) (nX L) (nY L) (ad:=mA Mu) jI rQ Ti
  have hgo:=hst w hm.state (hm.thaw 0)
  have hmu:=hm.setState (m' :=qi ⟨m,aw,sv,it⟩) (v:=((qi ⟨m,aw,sv,it⟩).num:Nat)) rfl
  by_cases h0:m.L=0∧m.S=0
  ·have hnw:qi ⟨m,aw,sv,it⟩=⟨1,if aw then 0 else m.W,0,m.n⟩:=by unfold qi;rw [if_pos h0]
   refine ⟨.own,_,q,g',_,_,.c2l rfl h0,hgo,by rw [←hnw];exact hmu,uM _,DJ,fun e=>(by cases e),?_⟩
   rw [DK]
   show ag P false I X0 Q 1 g'
   rw [eH (vG h0.1) rfl (vG h0.2)] at hT
   exact (ZE L _ _ _ _ _ aw sv).walk hT iO kb hb fun g'' hb'=>hQ _ _ _ _ hb'
  ·have hnw:qi ⟨m,aw,sv,it⟩=⟨m.L,if aw then 0 else m.W,if sv=true∧m.L=1 then 1 else m.S,m.n+1⟩:=by unfold qi;rw [if_neg h0]
   have hcase:m.L=1∨(m.L=0∧m.S=1):=by omega
   by_cases hws:wst=0
   ·refine ⟨.t1 sv,_,q,g',_,_,.c2q rfl h0 (.inl rfl),hgo,by rw [←hnw];exact hmu,uM _,DJ,fun e=>(by cases e),?_⟩
    rw [DK]
    show ag P false I X0 _ 1 g'
    rcases hcase with hl|⟨hl,hs⟩
    ·rw [eH (DL hl) rfl rfl,show (wst == 0)=true from by simpa using hws] at hT
     exact ((Tn L _ _ _ _ _ aw sv).1).walk hT iO kb hb fun g'' hb'=>.stop ⟨rfl,wst,it,m,false,hsm,hb'⟩
    ·rw [eH (vG hl) rfl (DL hs),show (wst == 0)=true from by simpa using hws] at hT
     exact ((Tn L _ true _ _ _ aw sv).2).walk hT iO kb hb fun g'' hb'=>.stop ⟨rfl,wst,it,m,false,hsm,hb'⟩
   ·refine ⟨.s1 sv,_,q,g',_,_,.c2q rfl h0 (.inr rfl),hgo,by rw [←hnw];exact hmu,uM _,DJ,fun e=>(by cases e),?_⟩
    rw [DK]
    show ag P false I X0 _ 1 g'
    rcases hcase with hl|⟨hl,hs⟩
    ·rw [eH (DL hl) rfl rfl,show (wst == 0)=false from by simpa using hws] at hT
     exact ((Tq L _ _ _ _ _ aw sv).1).walk hT iO kb hb fun g'' hb'=>.stop ⟨rfl,wst,it,m,true,hsm,hb'⟩
    ·rw [eH (vG hl) rfl (DL hs),show (wst == 0)=false from by simpa using hws] at hT
     exact ((Tq L _ true _ _ _ aw sv).2).walk hT iO kb hb fun g'' hb'=>.stop ⟨rfl,wst,it,m,true,hsm,hb'⟩
 ·obtain ⟨g',hb,hst⟩:=wP (P:=P) (m:=false) (b:=base L.mu.lockSlow) (ds:=[]) (cs:=cs) (Yp L aw sv) hz ha kb H.lib.f_cas32 (nU L) (nV L) (nX L) (nY L) (ad:=mA Mu) jI rQ Ti
  refine ⟨.rd aw sv it,m,q,g',_,_,.c2n hmo,hst w _ hm.state (hm.thaw 0) (KG eP ob hmo),hm,kR,Wx,fun e=>(by cases e),?_⟩
  rw [Wy]
  exact (ZC L _ _ _ _ _ _ _ aw sv).walk hT iO kb hb fun g'' hb'=>.stop ⟨rfl,wst,old,.c,hb'⟩
theorem Z9{E:Nat→Goroutine→Prop}{sv:Bool}(h:PK L Mu cs (.t1 sv) d g):Dv P I tM Mu B (Nx (RL P L I Mu cs) E) (.t1 sv) d g:=by
 obtain ⟨rfl,wst,it,o,gJ,hsm,A,hz,ha,rfl⟩:=h
 refine ⟨rfl,rfl,rfl,fun e=>(by cases e),fun w m q hw hm hf=>.inr ?_⟩
 obtain ⟨tv,htv⟩:∃tv:Int,((w.os.mono+w.tick:Nat):Int)=tv:=⟨_,rfl⟩
 have hT:=jH H (Mu:=Mu) (wst:=wst) (it:=it) (tv:=tv) (nw:=0) hsm.1 hsm.2
 have ha':Agree (nu Mu wst it tv o 0) (Ym L sv gJ).env A:=qj r4 (ZZ L sv gJ) Ey ha
 obtain ⟨g',hb,hst⟩:=Nw (P:=P) (m:=false) (b:=base L.mu.lockSlow) (ds:=[]) (cs:=cs) (z:=some (.v 20)) (adz L sv gJ) hz ha' kb H.SG (IP L) (IQ L) (IU L) (IV L) (IW L) tv (fun u hu=>by cases hu;exact Tf.symm)
 refine ⟨.s1 sv,m,q,g',w.later,#[],.t1,hst w htv,hm,Eu,by simp,fun e=>(by cases e),?_⟩
 show ag P false I X0 _ 1 g'
 refine (adu L _ _ _ _ _ _ _ sv gJ).walk (Ap :=nu Mu tv it 0 o 0) hT (fun p hp=>?_) kb hb fun g'' hb'=>.stop ⟨rfl,tv,it,o,gJ,hsm,hb'⟩
 simp only [List.mem_cons,List.not_mem_nil,or_false] at hp
 rcases hp with rfl|rfl|rfl
 ·exact jC.trans jC.symm
 ·exact yf.trans yf.symm
 ·exact Tf.trans zW.symm
theorem aab{E:Nat→Goroutine→Prop}{sv:Bool}(h:PK L Mu cs (.s1 sv) d g):Dv P I tM Mu B (Nx (RL P L I Mu cs) E) (.s1 sv) d g:=by
 obtain ⟨rfl,wst,it,o,gJ,hsm,A,hz,ha,rfl⟩:=h
 refine ⟨rfl,rfl,rfl,fun e=>(by cases e),fun w m q hw hm hf=>?_⟩
 have hT:=jH H (Mu:=Mu) (wst:=wst) (it:=it) (tv:=0) (nw:=0) hsm.1 hsm.2
 obtain ⟨g',hb,hst,adI⟩:=PI (P:=P) (m:=false) (b:=base L.mu.lockSlow) (ds:=[]) (cs:=cs) (z:=none) rfl (adA L sv gJ) hz ha kb H.SH (Wq L) (Ws L) (Wu L) (Wv L) (ad:=sA Mu) yf
 rcases q with _|q
 ·exact .inl ⟨⟨sv,rfl⟩,rfl,adI w hm.sema⟩
 ·refine .inr ⟨if sv then .r2 true else .t2,m,q,g',_,_,.s1,hst w _ hm.sema (by omega) (hm.thaw 1),hm.Gi (by omega),Tu _,ZN,fun e=>(by cases e),?_⟩
  rw [ZO]
  cases sv with
  |true=>exact (ZG L _ _ _ _ _ _ _ gJ).walk hT iO kb hb fun g'' hb'=>.stop ⟨rfl,wst,it,o,hsm,hb'⟩
  |false=>exact (ZF L _ _ _ _ _ _ _ gJ).walk hT iO kb hb fun g'' hb'=>.stop ⟨rfl,wst,it,o,hsm,hb'⟩
theorem aac{E:Nat→Goroutine→Prop}(h:PK L Mu cs .t2 d g):Dv P I tM Mu B (Nx (RL P L I Mu cs) E) .t2 d g:=by
 obtain ⟨rfl,wst,it,o,hsm,A,hz,ha,rfl⟩:=h
 refine ⟨rfl,rfl,rfl,fun e=>(by cases e),fun w m q hw hm hf=>.inr ?_⟩
 obtain ⟨tv,htv⟩:∃tv:Int,((w.os.mono+w.tick:Nat):Int)=tv:=⟨_,rfl⟩
 have hT:=jH H (Mu:=Mu) (wst:=wst) (it:=it) (tv:=tv) (nw:=0) hsm.1 hsm.2
 have ha':Agree (nu Mu wst it tv o 0) (Zy L).env A:=qj r4 (Z4 L) Ey ha
 obtain ⟨g',hb,hst⟩:=Nw (P:=P) (m:=false) (b:=base L.mu.lockSlow) (ds:=[]) (cs:=cs) (z:=some (.v 20)) (adB L) hz ha' kb H.SG (IP L) (IQ L) (IU L) (IV L) (IW L) tv (fun u hu=>by cases hu;exact Tf.symm)
 refine ⟨.r2 (decide (IntKind.i64.wrap (tv - wst) > 1000000)),m,q,g',w.later,#[],.t2,hst w htv,hm,Eu,by simp,fun e=>(by cases e),?_⟩
 show ag P false I X0 _ 1 g'
 exact (adv L _ _ _ _ _ _ (decide (IntKind.i64.wrap (tv - wst) > 1000000))).walk hT iO kb hb fun g'' hb'=>.stop ⟨rfl,wst,it,o,hsm,hb'⟩
theorem aad{E:Nat→Goroutine→Prop}{sv:Bool}(h:PK L Mu cs (.r2 sv) d g):Dv P I tM Mu B (Nx (RL P L I Mu cs) E) (.r2 sv) d g:=by
 obtain ⟨rfl,wst,it,o,hsm,A,hz,ha,rfl⟩:=h
 refine ⟨rfl,rfl,rfl,fun e=>(by cases e),fun w m q hw hm hf=>.inr ?_⟩
 obtain ⟨eP,hnB,hq1,hwf,hm0,hm1⟩:=hf
 have hms:Small m:=⟨eP,by omega⟩
 have ha':Agree (nu Mu wst it 0 m 0) (Tj L sv).env A:=qj r4 (Z5 L sv) Ey ha
 have hT:=jH H (Mu:=Mu) (wst:=wst) (it:=it) (tv:=0) (nw:=0) hms.1 hms.2
 obtain ⟨g',hb,hstep⟩:=Aj (P:=P) (m:=false) (b:=base L.mu.lockSlow) (ds:=[]) (cs:=cs) (z:=some (.v 4)) H.lib.runUnderlying_t21 H.lib.sizeOf_t21 H.lib.isAgg_t21 (adC L sv) hz ha' kb (IX H) (ad:=mA Mu) jI (v:=(m.num:Int)) (fun u hu=>by cases hu;exact rQ.symm)
 have hS:=eP.S
 by_cases h0:m.S=0
 ·refine ⟨hd ⟨m,true,sv,0⟩,m,q,g',w,#[],.r2n h0,hstep w hm.state,hm,kR,by simp,fun e=>(by cases e),adF (Kz _) ?_⟩
  show ag P false I X0 _ 1 g'
  rw [eH rfl rfl (vG h0)] at hT
  refine (ZH L _ _ _ _ _ _ sv).walk (Ap :=nu Mu wst ((0:Nat):Int) 0 m 0) hT (fun p hp=>?_) kb hb fun g'' hb'=>NW H eP (by omega) (fun _=>⟨hm0 h0,h0⟩) (fun _=>rfl) hb'
  simp only [List.mem_cons,List.not_mem_nil,or_false] at hp
  rcases hp with rfl|rfl|rfl|rfl
  ·exact jC.trans jC.symm
  ·exact zW.trans zW.symm
  ·exact rQ.trans rQ.symm
  ·exact Gh.symm
 ·have h1:m.S=1:=by omega
  obtain ⟨hL,hW,hn⟩:=hm1 h1
  refine ⟨.a1 sv (!sv || decide (m.n=1)),m,q,g',w,#[],.r2s h1,hstep w hm.state,hm,kR,by simp,fun e=>(by cases e),?_⟩
  show ag P false I X0 _ 1 g'
  have hn0:(m.n == 0)=false:=by simp;omega
  obtain ⟨k1,k2,k3⟩:=ZI L (m.n == 1) (wst == 0) (decide (IntKind.i64.wrap (0 - wst) > 1000000))
  rw [eH (vG hL) (vG hW) (DL h1),hn0] at hT
  cases sv with
  |false=>exact k1.walk hT iO kb hb fun g'' hb'=>.stop ⟨rfl,wst,it,m,hms,hb'⟩
  |true=>
   by_cases hn1:m.n=1
   ·rw [show (m.n == 1)=true from by simpa using hn1] at hT
    refine k2.walk (Ap :=nu Mu wst it 0 m 0) hT iO kb hb fun g'' hb'=>.stop ⟨rfl,wst,it,m,hms,?_⟩
    rw [show (!true || decide (m.n=1))=true from by simp [hn1]]
    exact hb'
   ·rw [show (m.n == 1)=false from by simpa using hn1] at hT
    refine k3.walk (Ap :=nu Mu wst it 0 m 0) hT iO kb hb fun g'' hb'=>.stop ⟨rfl,wst,it,m,hms,?_⟩
    rw [show (!true || decide (m.n=1))=false from by simp [hn1]]
    exact hb'
theorem aae(hQ:∀wst it o g,Bh L cs (nu Mu wst it 0 o 0) (QZ L) g→ag P false I X0 Q 1 g){sv cl:Bool}(h:PK L Mu cs (.a1 sv cl) d g):Dv P I tM Mu B (Nx (RL P L I Mu cs) (ag P false I X0 Q)) (.a1 sv cl) d g:=by
 obtain ⟨rfl,wst,it,o,hsm,A,hz,ha,rfl⟩:=h
 refine ⟨rfl,rfl,rfl,fun e=>(by cases e),fun w m q hw hm hf=>.inr ?_⟩
 obtain ⟨eP,hnB,hq1,hwf,hS,hL,hW,hn⟩:=hf
 have hT:=jH H (Mu:=Mu) (wst:=wst) (it:=it) (tv:=0) (nw:=0) hsm.1 hsm.2
 obtain ⟨g',hb,hst⟩:=SY (P:=P) (m:=false) (b:=base L.mu.lockSlow) (ds:=[]) (cs:=cs) (z:=none) (v:=(m.num:Int)) (adE L (if cl then -11 else -7)) hz ha kb H.lib.f_add32 (NH L) (NI L) (NJ L) (NK L) (ad:=mA Mu) jI PM (fun y hy=>by cases hy)
 refine ⟨.own,_,q,g',_,_,.a1,hst w hm.state (hm.thaw 0),hm.setState (ZY eP (by omega) hL hW hS hn cl),uM _,DJ,fun e=>(by cases e),?_⟩
 rw [DK]
 show ag P false I X0 Q 1 g'
 exact (adw L _ _).walk hT iO kb hb fun g'' hb'=>hQ _ _ _ _ hb'
theorem aaf(hQ:∀wst it o g,Bh L cs (nu Mu wst it 0 o 0) (QZ L) g→ag P false I X0 Q 1 g){y:Lk}(h:PK L Mu cs y d g):Dv P I tM Mu B (Nx (RL P L I Mu cs) (ag P false I X0 Q)) y d g:=by
 cases y with
 |rd aw sv it=>exact ZW H hB h
 |sq T=>exact ZX H hB h
 |c1 T=>exact Z7 H hB h
 |c2 T=>exact Z8 H hB hQ h
 |t1 sv=>exact Z9 H hB h
 |s1 sv=>exact aab H hB h
 |t2=>exact aac H hB h
 |r2 sv=>exact aad H hB h
 |a1 sv cl=>exact aae H hB hQ h
 |_=>exact h.2.elim
theorem WB(hQ:∀wst it o g,Bh L cs (nu Mu wst it 0 o 0) (QZ L) g→ag P false I X0 Q 1 g){A:Array Value}(hz:A.size=139)(h0:A[0]? = some (.pointer (some ⟨Mu,0,none⟩))):gG P I tM Mu B (ag P false I X0 Q) (.rd false false 0) 1 (G ((base L.mu.lockSlow).at ⟨A,[]⟩ [.code (BC L)]) cs):=by
 refine ⟨RL P L I Mu cs,fun y d g hr=>hr.mono fun d g k=>aaf H hB hQ k,?_⟩
 have ha:Agree (nu Mu 0 0 0 ⟨0,0,0,0⟩ 0) (enS L).env A:=by
  intro k x hx
  unfold enS fresh Go.Sy.get at hx
  split at hx
  ·rename_i e
   cases hx
   have:0=k:=by simpa using e
   subst this
   rw [h0]
   exact congrArg some (jC.symm:_=(E.v 0).den (nu Mu 0 0 0 ⟨0,0,0,0⟩ 0))
  ·cases hx
 have hs:Small ⟨0,0,0,0⟩:=⟨⟨Nat.zero_le _,Nat.zero_le _,Nat.zero_le _⟩,by decide⟩
 have hT:=jH H (Mu:=Mu) (wst:=0) (it:=0) (tv:=0) (nw:=0) hs.1 hs.2
 exact (adf L _ _ _ _ _ _ _).walk (Ap :=nu Mu 0 ((0:Nat):Int) 0 ⟨0,0,0,0⟩ 0) hT adH kb ⟨A,hz,ha,rfl⟩ fun g'' hb'=>.stop ⟨rfl,0,⟨0,0,0,0⟩,.a,hb'⟩
end
end Go.Mx
namespace Go.Mx
open Go.Ren Go.Sy
open Go.Conc hiding Goes
open Go.Conc.Locks
open Go.ConcR (stA smA)
def Tv(L:ah):Code:=(iH L).body.getD .skip
def WC(L:ah):S:=fresh [(0,some (.v 0)),(1,some (.v 4))] [.code (Tv L)]
def TU:Tab:=oz false false false false false
def ucR(L:ah):S:=run 43 TU 54 (WC L)
def u1R(L:ah):S:=run 43 TU 7 (next (ucR L) (some (.b true)))
def uxR(L:ah):S:=run 43 TU 7 (next (ucR L) (some (.b false)))
def u2R(L:ah):S:=run 43 (oz false false true false false) 21 (WC L)
def ahw(L:ah):S:=run 43 (oz false true false false false) 60 (WC L)
def ucS(L:ah):S:=fresh [(0,some (.v 0)),(27,some (.v 1)),(28,some (.v 4)),(29,some (.v 42))] (ucR L).todo
def Tz(L:ah):S:=fresh [(0,some (.v 0)),(37,some (.v 1))] (uxR L).todo
def u1S(L:ah):S:=fresh [(33,some (.v 2))] (u1R L).todo
def u2S(L:ah):S:=fresh [(41,some (.v 2))] (u2R L).todo
def IZ(L:ah):S:=fresh [] (ahw L).todo
def Yq(L:ah):S:=fresh [] (run 43 TU 1 (next (u1R L) none)).todo
def adJ:S:=fresh [] []
def r5:List (E×E):=[(.v 0,.v 0),(.v 1,.v 1),(.v 2,.v 2),(.v 4,.v 4),(.v 42,.v 42)]
section
variable(L:ah)
def Ez(t:List Item):Bool:=match t with
 | []=>true
 | .code .ret :: _=>true
 |_=>false
theorem TA:Ez (IZ L).todo=true:=by kernel_rfl
theorem adK:Ez (Yq L).todo=true:=by kernel_rfl
section
variable(w s n0 n1:Bool)
theorem ahx:To L.mu.tIMutex 43 (oz false true false n0 n1) 60 0 (WC L) (IZ L) r5:=by cases n0<;>exact ⟨by kernel_rfl,by kernel_rfl,by kernel_rfl⟩
theorem ahy:To L.mu.tIMutex 43 (oz false w false true n1) 60 0 (WC L) (IZ L) r5:=by cases w<;>exact ⟨by kernel_rfl,by kernel_rfl,by kernel_rfl⟩
theorem ahz:To L.mu.tIMutex 43 (oz false false false false n1) 60 1 (WC L) (ucS L) r5:=⟨by kernel_rfl,by kernel_rfl,by kernel_rfl⟩
theorem ahA:To L.mu.tIMutex 43 (oz false w true n0 n1) 60 1 (WC L) (u2S L) r5:=⟨by kernel_rfl,by kernel_rfl,by kernel_rfl⟩
theorem ahB(l:Bool):To L.mu.tIMutex 43 (oz l w s n0 n1) 7 1 (next (ucS L) (some (.b true))) (u1S L) r5:=⟨by kernel_rfl,by kernel_rfl,by kernel_rfl⟩
theorem ahC(l:Bool):To L.mu.tIMutex 43 (oz l w s n0 n1) 7 1 (next (ucS L) (some (.b false))) (Tz L) r5:=⟨by kernel_rfl,by kernel_rfl,by kernel_rfl⟩
theorem ahD(l:Bool):To L.mu.tIMutex 43 (oz l w s true n1) 60 0 (next (Tz L) (some (.v 4))) (IZ L) r5:=by cases l<;>cases w<;>cases s<;>exact ⟨by kernel_rfl,by kernel_rfl,by kernel_rfl⟩
theorem ahE:To L.mu.tIMutex 43 (oz true w s false n1) 60 0 (next (Tz L) (some (.v 4))) (IZ L) r5:=by cases w<;>cases s<;>exact ⟨by kernel_rfl,by kernel_rfl,by kernel_rfl⟩
theorem ahF(l:Bool):To L.mu.tIMutex 43 (oz l true s false n1) 60 0 (next (Tz L) (some (.v 4))) (IZ L) r5:=by cases l<;>cases s<;>exact ⟨by kernel_rfl,by kernel_rfl,by kernel_rfl⟩
theorem ahG(l:Bool):To L.mu.tIMutex 43 (oz l w true false n1) 60 0 (next (Tz L) (some (.v 4))) (IZ L) r5:=by cases l<;>cases w<;>exact ⟨by kernel_rfl,by kernel_rfl,by kernel_rfl⟩
theorem ahH:To L.mu.tIMutex 43 (oz false false false false n1) 60 1 (next (Tz L) (some (.v 4))) (ucS L) r5:=⟨by kernel_rfl,by kernel_rfl,by kernel_rfl⟩
theorem ahI(l:Bool):To L.mu.tIMutex 43 (oz l w s n0 n1) 1 0 (next (u1S L) none) (Yq L) r5:=⟨by kernel_rfl,by kernel_rfl,by kernel_rfl⟩
theorem ahJ(l:Bool):To L.mu.tIMutex 43 (oz l w s n0 n1) 1 0 (next (u2S L) none) adJ r5:=⟨by kernel_rfl,by kernel_rfl,by kernel_rfl⟩
end
theorem Yr:aQ 43 (ucS L)=some (L.mu.cas32,[some (.v 1),some (.v 4),some (.v 42)]):=by kernel_rfl
theorem adL:loadAt 43 (Tz L)=some (21,some (.v 1)):=by kernel_rfl
theorem Yt:aQ 43 (u1S L)=some (L.semrel,[some (.v 2),some (.b false),some (.i .i64 2)]):=by kernel_rfl
theorem Yu:aQ 43 (u2S L)=some (L.semrel,[some (.v 2),some (.b true),some (.i .i64 2)]):=by kernel_rfl
theorem PN:(some (iH L)).any (·.norace)=true:=by kernel_rfl
end
end Go.Mx
namespace Go.Mx
open Go.Ren Go.Sy
open Go.Conc hiding Goes
open Go.Conc.Locks
open Go.ConcR (stA smA)
def BhU(L:ah)(cs:List Frame)(ν:Nat→Value)(s:S)(g:Goroutine):Prop:=Behind ν 43 (base L.mu.unlockSlow) [] cs s g
def AtU(L:ah)(Mu:Nat)(cs:List Frame)(y:Lk)(d:Nat)(g:Goroutine):Prop:=d=1∧match y with
 | .uc o=>Small o∧BhU L cs (nu Mu 0 0 0 o 0) (ucS L) g
 | .ux=>∃o,Small o∧BhU L cs (nu Mu 0 0 0 o 0) (Tz L) g
 | .us=>∃o,Small o∧(BhU L cs (nu Mu 0 0 0 o 0) (u1S L) g∨BhU L cs (nu Mu 0 0 0 o 0) (u2S L) g)
 |_=>False
section
variable{P:Program}{L:ah}{I:World→Prop}{tM:TypeId}{Mu B:Nat}{cs:List Frame}{d:Nat}{g:Goroutine}{wst it tv:Int}{o:Wd}{nw:Int}{Q:Nat→Goroutine→Prop}
def RU(P:Program)(L:ah)(I:World→Prop)(Mu:Nat)(cs:List Frame)(y:Lk)(d:Nat)(g:Goroutine):Prop:=ag P false I X0 (AtU L Mu cs y) d g
theorem kU:(base L.mu.unlockSlow).kind ≠ .early:=by simp [base]
theorem oU{tv' Gj:Int}:∀p∈r5,p.1.den (nu Mu wst it tv o nw)=p.2.den (nu Mu wst it tv' o Gj):=by
 intro p hp
 simp only [r5,List.mem_cons,List.not_mem_nil,or_false] at hp
 rcases hp with rfl|rfl|rfl|rfl|rfl
 ·exact jC.trans jC.symm
 ·exact jI.trans jI.symm
 ·exact yf.trans yf.symm
 ·exact rQ.trans rQ.symm
 ·exact NF.trans NF.symm
theorem aah(L:ah):(Go.Sy.sub (Tz L).env (Tz L).env).all (kY r4)=true:=by kernel_rfl
theorem TB(H:dQ P L):(P.funcs[(base L.mu.unlockSlow).fn]?).any (·.norace)=true:=by
 show (P.funcs[L.mu.unlockSlow]?).any (·.norace)=true
 rw [H.qg];exact PN L
theorem lN{l w s n0 n1:Bool}(hl:fl o.L=l)(hw:fl o.W=w)(hs:fl o.S=s)(h0:(o.n == 0)=n0):oz (fl o.L) (fl o.W) (fl o.S) (o.n == 0) (o.n == 1)=oz l w s n0 (o.n == 1):=by rw [hl,hw,hs,h0]
theorem aai(ho:o.Bits)(hn:o.n < 63)(h:o.L=0∧o.W=0∧o.S=0∧0 < o.n):tZ (IntKind.i32.wrap ((o.num:Int) - 8)) 2=((⟨0,1,0,o.n - 1⟩:Wd).num:Nat):=by
 have h1:=fP (m:=⟨0,1,0,o.n - 1⟩) ⟨Nat.zero_le _,Nat.le_refl _,Nat.zero_le _⟩
 have h2:=fP ho
 rw [h.1,h.2.1,h.2.2.1] at h2
 obtain ⟨k,hk⟩:∃k,o.n=k+1:=⟨o.n - 1,by omega⟩
 rw [h2,h1,hk]
 exact ahp k (by omega)
theorem NY{sz:Nat}{s:S}{f:FuncId}{xs:List (Option E)}{A:Array Value}{b:Frame}{fn:Func}(hm:b.mode = .run)(hc:aQ sz s=some (f,xs))(hf:P.funcs[f]? = some fn)(hb:fn.body.isNone=true):mayWake P (G (b.at ⟨A,[]⟩ s.todo) cs)=true:=by
 obtain ⟨o,args,ats,ho,hop,ha⟩:=oO hc
 unfold opAt at ho
 split at ho
 ·rename_i ops i rest k he
  rw [he]
  split at ho
  ·rename_i o' ho'
   split at ho
   ·split at ho
    ·cases ho
     exact Go.ConcR.Gen.mayWake_entry ho' hop hf hb
    ·cases ho
   ·cases ho
  ·cases ho
 ·cases ho
def AtR(L:ah)(cs:List Frame)(d:Nat)(g:Goroutine):Prop:=d=1∧∃(A:Array Value) (t:List Item),Ez t=true∧g=G ((base L.mu.unlockSlow).at ⟨A,[]⟩ t) cs
variable(H:dQ P L)(hB:B < 63)(hQ:∀g,AtR L cs 1 g→ag P false I X0 Q 1 g)
include H hB hQ
theorem aaj{o:Wd}(h:AtU L Mu cs (.uc o) d g):Dv P I tM Mu B (Nx (RU P L I Mu cs) (ag P false I X0 Q)) (.uc o) d g:=by
 obtain ⟨rfl,hsm,A,hz,ha,rfl⟩:=h
 refine ⟨rfl,rfl,rfl,fun e=>(by cases e),fun w m q hw hm hf=>.inr ?_⟩
 obtain ⟨eP,hnB,hq1,⟨ob,oL,oW,oS,on0,on⟩,_⟩:=hf
 have hT:=wR H (Mu:=Mu) (nw:=0) hsm.1 hsm.2
 by_cases hmo:m=o
 ·subst hmo
  obtain ⟨g',hb,hst⟩:=Ai (P:=P) (m:=false) (b:=base L.mu.unlockSlow) (ds:=[]) (cs:=cs) (Yr L) hz ha kU H.lib.f_cas32 (nU L) (nV L) (nX L) (nY L) (ad:=mA Mu) jI rQ NF
  refine ⟨.us,⟨m.L,1,m.S,m.n - 1⟩,q,g',_,_,.ucy rfl,hst w hm.state (hm.thaw 0),hm.setState ?_,uM _,DJ,fun e=>(by cases e),?_⟩
  ·rw [aai hsm.1 hsm.2 ⟨oL,oW,oS,on0⟩,oL,oS]
  ·rw [DK]
   exact (ahB L _ _ _ _ _).walk (Ap :=nu Mu 0 0 0 m 0) hT oU kU hb fun g'' hb'=>.stop ⟨rfl,m,hsm,.inl hb'⟩
 ·obtain ⟨g',hb,hst⟩:=wP (P:=P) (m:=false) (b:=base L.mu.unlockSlow) (ds:=[]) (cs:=cs) (Yr L) hz ha kU H.lib.f_cas32 (nU L) (nV L) (nX L) (nY L) (ad:=mA Mu) jI rQ NF
  refine ⟨.ux,m,q,g',_,_,.ucn hmo,hst w _ hm.state (hm.thaw 0) (KG eP ob hmo),hm,kR,Wx,fun e=>(by cases e),?_⟩
  rw [Wy]
  exact (ahC L _ _ _ _ _).walk (Ap :=nu Mu 0 0 0 o 0) hT oU kU hb fun g'' hb'=>.stop ⟨rfl,o,hsm,hb'⟩
theorem Gl{ν:Nat→Value}(hb:BhU L cs ν (IZ L) g):ag P false I X0 Q 1 g:=by
 obtain ⟨A,hz,ha,rfl⟩:=hb
 exact hQ _ ⟨rfl,A,_,TA L,rfl⟩
theorem aak(h:AtU L Mu cs .ux d g):Dv P I tM Mu B (Nx (RU P L I Mu cs) (ag P false I X0 Q)) .ux d g:=by
 obtain ⟨rfl,o,hsm,A,hz,ha,rfl⟩:=h
 refine ⟨rfl,rfl,rfl,fun e=>(by cases e),fun w m q hw hm hf=>.inr ?_⟩
 obtain ⟨eP,hnB,hq1,hwf,_⟩:=hf
 have hms:Small m:=⟨eP,by omega⟩
 have ha':Agree (nu Mu 0 0 0 m 0) (Tz L).env A:=qj r4 (aah L) Ey ha
 have hT:=wR H (Mu:=Mu) (nw:=0) hms.1 hms.2
 obtain ⟨g',hb,hstep⟩:=Aj (P:=P) (m:=false) (b:=base L.mu.unlockSlow) (ds:=[]) (cs:=cs) (z:=some (.v 4)) H.lib.runUnderlying_t21 H.lib.sizeOf_t21 H.lib.isAgg_t21 (adL L) hz ha' kU (TB H) (ad:=mA Mu) jI (v:=(m.num:Int)) (fun u hu=>by cases hu;exact rQ.symm)
 have hL:=eP.L
 have hW:=eP.W
 have hS:=eP.S
 by_cases hc:m.L=0∧m.W=0∧m.S=0∧0 < m.n
 ·refine ⟨.uc m,m,q,g',w,#[],.uxc hc,hstep w hm.state,hm,kR,by simp,fun e=>(by cases e),?_⟩
  show ag P false I X0 _ 1 g'
  rw [lN (n1:=false) (vG hc.1) (vG hc.2.1) (vG hc.2.2.1) (show (m.n == 0)=false from by simp;omega)] at hT
  exact (ahH L _).walk (Ap :=nu Mu 0 0 0 m 0) hT oU kU hb fun g'' hb'=>.stop ⟨rfl,hms,hb'⟩
 ·refine ⟨.done,m,q,g',w,#[],.uxd hc,hstep w hm.state,hm,kR,by simp,fun e=>(by cases e),?_⟩
  show ag P false I X0 Q 1 g'
  by_cases hn:m.n=0
  ·rw [lN (n1:=false) rfl rfl rfl (show (m.n == 0)=true from by simpa using hn)] at hT
   exact (ahD L _ _ _ _).walk (Ap :=nu Mu 0 0 0 m 0) hT oU kU hb fun g'' hb'=>Gl H hB hQ hb'
  ·have h0:(m.n == 0)=false:=by simpa using hn
   by_cases hl:m.L=1
   ·rw [lN (n1:=false) (DL hl) rfl rfl h0] at hT
    exact (ahE L _ _ _).walk (Ap :=nu Mu 0 0 0 m 0) hT oU kU hb fun g'' hb'=>Gl H hB hQ hb'
   ·by_cases hw':m.W=1
    ·rw [lN (n1:=false) rfl (DL hw') rfl h0] at hT
     exact (ahF L _ _ _).walk (Ap :=nu Mu 0 0 0 m 0) hT oU kU hb fun g'' hb'=>Gl H hB hQ hb'
    ·have hs1:m.S=1:=by
      apply Classical.byContradiction
      intro hne
      exact hc ⟨by omega,by omega,by omega,by omega⟩
     rw [lN (n1:=false) rfl rfl (DL hs1) h0] at hT
     exact (ahG L _ _ _).walk (Ap :=nu Mu 0 0 0 m 0) hT oU kU hb fun g'' hb'=>Gl H hB hQ hb'
theorem aal(h:AtU L Mu cs .us d g):Dv P I tM Mu B (Nx (RU P L I Mu cs) (ag P false I X0 Q)) .us d g:=by
 obtain ⟨rfl,o,hsm,h⟩:=h
 have hT:=wR H (Mu:=Mu) (nw:=0) hsm.1 hsm.2
 have wr:∀q:Nat,q≤1→IntKind.u32.wrap ((q:Int)+1)=((q+1:Nat):Int):=fun q hq=>by
  have:q=0∨q=1:=by omega
  rcases this with rfl|rfl<;>decide +kernel
 rcases h with ⟨A,hz,ha,rfl⟩|⟨A,hz,ha,rfl⟩
 ·obtain ⟨g',hb,hst⟩:=Et (P:=P) (m:=false) (b:=base L.mu.unlockSlow) (ds:=[]) (cs:=cs) (z:=none) rfl (Yt L) hz ha kU H.wM (NS L) (Aq L) (NT L) (NU L) (ad:=sA Mu) yf
  have hrun:g'.status = .running:=by obtain ⟨_,_,_,rfl⟩:=hb;rfl
  refine ⟨rfl,rfl,rfl,fun _=>NY rfl (Yt L) H.wM (Aq L),fun w m q hw hm hf=>.inr ⟨.done,m,q+1,g',_,_,.us,hst w _ hm.sema (hm.thaw 1),hm.Gi (wr q hf.2.2.1),Tu _,ZN,fun _=>hrun,?_⟩⟩
  rw [ZO]
  show ag P false I X0 Q 1 g'
  exact (ahI L _ _ _ _ _).walk (Ap :=nu Mu 0 0 0 o 0) hT oU kU hb fun g'' hb'=>by
   obtain ⟨A',_,_,rfl⟩:=hb'
   exact hQ _ ⟨rfl,A',_,adK L,rfl⟩
 ·obtain ⟨g',hb,hst⟩:=Et (P:=P) (m:=false) (b:=base L.mu.unlockSlow) (ds:=[]) (cs:=cs) (z:=none) rfl (Yu L) hz ha kU H.wM (NS L) (Aq L) (NT L) (NU L) (ad:=sA Mu) yf
  have hrun:g'.status = .running:=by obtain ⟨_,_,_,rfl⟩:=hb;rfl
  refine ⟨rfl,rfl,rfl,fun _=>NY rfl (Yu L) H.wM (Aq L),fun w m q hw hm hf=>.inr ⟨.done,m,q+1,g',_,_,.us,hst w _ hm.sema (hm.thaw 1),hm.Gi (wr q hf.2.2.1),Tu _,ZN,fun _=>hrun,?_⟩⟩
  rw [ZO]
  show ag P false I X0 Q 1 g'
  exact (ahJ L _ _ _ _ _).walk (Ap :=nu Mu 0 0 0 o 0) hT oU kU hb fun g'' hb'=>by
   obtain ⟨A',_,_,rfl⟩:=hb'
   exact hQ _ ⟨rfl,A',_,rfl,rfl⟩
theorem WE{y:Lk}(h:AtU L Mu cs y d g):Dv P I tM Mu B (Nx (RU P L I Mu cs) (ag P false I X0 Q)) y d g:=by
 cases y with
 |uc o=>exact aaj H hB hQ h
 |ux=>exact aak H hB hQ h
 |us=>exact aal H hB hQ h
 |_=>exact h.2.elim
end
end Go.Mx
namespace Go.Sy
open Go.Ren
open Go.Conc hiding Goes
def vH(sz:Nat)(s:S):Option (TypeId×TypeId×Option E):=match opAt sz s with
 |some o=>match o.op with
  | .convert a b x=>some (a,b,zV s.env x)
  |_=>none
 |none=>none
theorem PO{sz:Nat}{s:S}{t u:TypeId}{x:Option E}(h:vH sz s=some (t,u,x)):∃(o:Oper) (y:Operand),opAt sz s=some o∧o.op = .convert t u y∧zV s.env y=x:=by
 unfold vH at h
 split at h
 ·rename_i o ho
  split at h
  ·rename_i a b y hc
   cases h
   exact ⟨o,y,ho,hc,rfl⟩
  ·cases h
 ·cases h
theorem NZ{P:Program}{ν:Nat→Value}{A:Array Value}{sz:Nat}{m:Bool}{b:Frame}{ds:List Deferred}{cs:List Frame}{s:S}{src dst t:TypeId}{q:E}(hc:vH sz s=some (src,dst,some q))(hz:A.size=sz)(h:Agree ν s.env A)(hk:b.kind ≠ .early)
  (hs:P.underlying src=some (.pointer t)) (hd:P.underlying dst=some .unsafePointer) (hsz:(P.info? t).map (fun i=>decide (i.size=0))=some false) {ad:Addr} (hq:q.den ν = .pointer (some ad)) :
  ∃g',Behind ν sz b ds cs (next s (some q)) g' ∧ ∀(w:World) (v:Value),w.cell? ad=some v→stepG P m (G (b.at ⟨A,ds⟩ s.todo) cs) w = .go g' w #[]:=by
 obtain ⟨o,y,ho,hop,hy⟩:=PO hc
 obtain ⟨ops,i,rest,k,h1,h2,h3,h4,h5⟩:=tY (ds:=ds) ho hz h
 obtain ⟨k1,k2,k3⟩:=h5 (some q) (.pointer (some ad)) (fun z hz=>by cases hz;exact hq.symm)
 have hx:=(dX (ds:=ds) h hy).trans hq
 refine ⟨G (b.at (Act.put ⟨A,ds⟩ o.dst (.pointer (some ad))) (.inRegion ops rest :: k)) cs,⟨_,k1,k3,by rw [h4,←k2]⟩,fun w v hcell=>?_⟩
 rw [h1]
 have r1:=run_convert_to_unsafe (P:=P) hs hd hsz hcell
 have r2:=fun es=>events_convert_to_unsafe (P:=P) hs hd hsz hcell es
 have hr:(execOp (Act.eval ⟨A,ds⟩) o).run P w = .ok (.value (.pointer (some ad))) w:=by
  unfold execOp
  simp only [hop,hx]
  simp [go_sem,r1]
 have he:(execOp (Act.eval ⟨A,ds⟩) o).events P w #[] = #[]:=by
  unfold execOp
  simp only [hop,hx]
  simp [go_sem,r1,r2]
 rw [stepG_value h2 h3 hk hr]
 unfold listed
 rw [he,seen_none]
end Go.Sy
namespace Go.Mx
open Go.Ren Go.Sy
open Go.Conc hiding Goes
open Go.Conc.Locks
open Go.ConcR (stA smA)
section
variable{P:Program}{L:ah}{I:World→Prop}{tM:TypeId}{Mu B:Nat}{cs:List Frame}{d:Nat}{g:Goroutine}{wst it tv:Int}{o:Wd}{nw:Int}{T:Goroutine→Prop}
theorem TC(L:ah):((enableFn L.mu).name == "runtime.NumGoroutine")=false:=by kernel_rfl
theorem TD(L:ah):(enableFn L.mu).body.isNone=true:=by kernel_rfl
theorem TE(L:ah):Extern.findNext (enableFn L.mu)=none:=by kernel_rfl
theorem TF(L:ah):Extern.find (enableFn L.mu)=some (fun _=>do mark .enable;pure Extern.Race.none_):=by kernel_rfl
theorem N7(L:ah):((disableFn L.mu).name == "runtime.NumGoroutine")=false:=by kernel_rfl
theorem N8(L:ah):(disableFn L.mu).body.isNone=true:=by kernel_rfl
theorem N9(L:ah):Extern.findNext (disableFn L.mu)=none:=by kernel_rfl
theorem Oa(L:ah):Extern.find (disableFn L.mu)=some (fun _=>do mark .disable;pure Extern.Race.none_):=by kernel_rfl
theorem aam(L:ah):((acquireFn L.mu).name == "runtime.NumGoroutine")=false:=by kernel_rfl
theorem aan(L:ah):(acquireFn L.mu).body.isNone=true:=by kernel_rfl
theorem aao(L:ah):Extern.findNext (acquireFn L.mu)=none:=by kernel_rfl
theorem aap(L:ah):Extern.find (acquireFn L.mu)=some (Extern.Race.marked .acquire):=by kernel_rfl
theorem aaq(L:ah):((relMergeFn L.mu).name == "runtime.NumGoroutine")=false:=by kernel_rfl
theorem aar(L:ah):(relMergeFn L.mu).body.isNone=true:=by kernel_rfl
theorem aas(L:ah):Extern.findNext (relMergeFn L.mu)=none:=by kernel_rfl
theorem aat(L:ah):Extern.find (relMergeFn L.mu)=some (Extern.Race.marked .releaseMerge):=by kernel_rfl
def aau(I:World→Prop)(Mu:Nat):Prop:=∀w,I w→∃v,w.cell? (mA Mu)=some v
theorem Ob(H:dQ P L)(hI:aau I Mu){sz n1 n2:Nat}{b:Frame}{sE sC sQ:S}{T0:Tab}{ν:Nat→Value}{ρ:List (E×E)}(hk:b.kind ≠ .early)(hν:ν 0 = .pointer (some (mA Mu)))(hT:aW P L.mu.tIMutex ν T0)(hρ:∀p∈ρ,p.1.den ν=p.2.den ν)
  (hE:aQ sz sE=some (L.mu.enable,[])) (h1:To L.mu.tIMutex sz T0 n1 0 (next sE none) sC ρ) (hC:vH sz sC=some (L.mu.tPIMutex,L.mu.tUP,some (.v 0))) (h2:To L.mu.tIMutex sz T0 n2 0 (next sC (some (.v 0))) sQ ρ) (hQ:aQ sz sQ=some (L.mu.acquire,[some (.v 0)]))
  (k:∀g,Behind ν sz b [] cs (next sQ none) g→T g) (hg:Behind ν sz b [] cs sE g) :
  Says P false I #[Go.ConcR.mk .enable] (ag P false I X0 (fun d g=>d=0∧Says P false I #[Go.ConcR.mk (.acquire (stA Mu))] T g) 0) g:=by
 obtain ⟨A,hz,ha,rfl⟩:=hg
 obtain ⟨g1,b1,s1⟩:=wQ (P:=P) (m:=false) (b:=b) (ds:=[]) (cs:=cs) .enable (by simp) (z:=none) rfl hE hz ha hk H.lib.f_enable (TC L) (TD L) (TE L) (TF L)
 refine ⟨rfl,g1,fun w _=>s1 w,?_⟩
 refine h1.walk hT hρ hk b1 fun g2 b2=>?_
 obtain ⟨A2,hz2,ha2,rfl⟩:=b2
 obtain ⟨g3,b3,s3⟩:=NZ (P:=P) (m:=false) (b:=b) (ds:=[]) (cs:=cs) hC hz2 ha2 hk H.lib.underlying_tPIMutex H.lib.underlying_tUP H.lib.room_tIMutex (ad:=mA Mu) hν
 refine .step rfl (fun _=>g3) (fun _=>#[]) (fun w hw=>⟨?_,by simp⟩) fun w _=>?_
 ·obtain ⟨v,hv⟩:=hI w hw
  exact s3 w v hv
 ·show ag P false I X0 _ 0 g3
  refine h2.walk hT hρ hk b3 fun g4 b4=>.stop ⟨rfl,?_⟩
  obtain ⟨A4,hz4,ha4,rfl⟩:=b4
  obtain ⟨g5,b5,s5⟩:=Es (P:=P) (m:=false) (b:=b) (ds:=[]) (cs:=cs) .acquire (by simp) (z:=none) rfl hQ hz4 ha4 hk H.lib.f_acquire (aam L) (aan L) (aao L) (aap L) (ad:=mA Mu) hν
  exact ⟨rfl,g5,fun w _=>s5 w,k _ b5⟩
def cvS(L:ah):S:=fresh [(0,some (.v 0)),(136,some (.v 0))] (run 139 T0 5 (next (QZ L) none)).todo
def aqS(L:ah):S:=fresh [(137,some (.v 0))] (run 139 T0 0 (next (cvS L) (some (.v 0)))).todo
def rq:List (E×E):=[(.v 0,.v 0)]
theorem adO(l w s n0 n1 z late:Bool):To L.mu.tIMutex 139 (tab l w s n0 n1 z late) 5 0 (next (QZ L) none) (cvS L) rq:=⟨by kernel_rfl,by kernel_rfl,by kernel_rfl⟩
theorem adP(l w s n0 n1 z late:Bool):To L.mu.tIMutex 139 (tab l w s n0 n1 z late) 0 0 (next (cvS L) (some (.v 0))) (aqS L) rq:=⟨by kernel_rfl,by kernel_rfl,by kernel_rfl⟩
theorem adQ:vH 139 (cvS L)=some (L.mu.tPIMutex,L.mu.tUP,some (.v 0)):=by kernel_rfl
theorem adR:aQ 139 (aqS L)=some (L.mu.acquire,[some (.v 0)]):=by kernel_rfl
theorem adS:∀p∈rq,p.1.den (nu Mu wst it tv o nw)=p.2.den (nu Mu wst it tv o nw):=by
 intro p hp
 simp only [rq,List.mem_cons,List.not_mem_nil,or_false] at hp
 subst hp;rfl
end
end Go.Mx
namespace Go.Sy
open Go.Ren
open Go.Conc hiding Goes
def EC:Nat→List (Option E)→Env
 |_,[]=>[]
 |j,x :: xs=>(j,x) :: EC (j+1) xs
theorem ED:∀(xs:List (Option E)) (j k:Nat) (x:E),get (EC j xs) k=some x→j≤k∧xs[k - j]? = some (some x)
 | [],j,k,x,h=>by cases h
 |y :: xs,j,k,x,h=>by
  unfold EC get at h
  split at h
  ·rename_i e
   have:j=k:=by simpa using e
   subst this
   subst h
   exact ⟨Nat.le_refl _,by simp⟩
  ·rename_i e
   have hne:j≠k:=by simpa using e
   obtain ⟨h1,h2⟩:=ED xs (j+1) k x h
   refine ⟨by omega,?_⟩
   obtain ⟨i,hi⟩:∃i,k - j=i+1:=⟨k - j - 1,by omega⟩
   rw [hi,List.getElem?_cons_succ]
   have:i=k - (j+1):=by omega
   rw [this];exact h2
section
variable{P:Program}{ν:Nat→Value}{sz:Nat}{m:Bool}{b:Frame}{ds:List Deferred}{cs:List Frame}{s:S}{I:World→Prop}{X:Event→Prop}{Q:Nat→Goroutine→Prop}{d:Nat}{A:Array Value}
theorem rU{f:FuncId}{xs:List (Option E)}{fn:Func}{c:Code}(hc:aQ sz s=some (f,xs))(hz:A.size=sz)(h:Agree ν s.env A)(hk:b.kind ≠ .early)(hf:P.funcs[f]? = some fn)(hname:(fn.name == "runtime.NumGoroutine")=false)(hb:fn.body=some c)(hn:xs.length≤fn.ntmps)
  (k:∀g,Behind ν fn.ntmps (base f) [] (b.at ⟨A,ds⟩ s.todo :: cs) ⟨EC 0 xs,[.code c],[]⟩ g→ag P m I X Q d g):ag P m I X Q d (G (b.at ⟨A,ds⟩ s.todo) cs):=by
 obtain ⟨ops,i,rest,kk,o,args,ats,h1,h2,h3,h4,h5,h6,h7⟩:=gq hc hz h b ds cs
 have hb':fn.body.isNone=false:=by rw [hb];rfl
 have hstep:∀w,stepG P m (G (b.at ⟨A,ds⟩ s.todo) cs) w = .go (G ((base f).at ⟨args.map (Act.eval ⟨A,ds⟩) ++ Array.replicate (fn.ntmps - (args.map (Act.eval ⟨A,ds⟩)).size) undef,[]⟩ [.code c]) (b.at ⟨A,ds⟩ s.todo :: cs)) w #[]:=by
  intro w
  rw [h1,stepG_enter h2 h3 hk (run_call_body h4 hf hname hb'),enter_at _ hf hb]
  have:listed P b.fn ⟨A,ds⟩ o w = #[]:=by unfold listed;rw [events_call_body h4 hf hname hb'];exact seen_none P _
  rw [this]
 refine .step rfl (fun _=>_) (fun _=>#[]) (fun w _=>⟨hstep w,by simp⟩) fun w _=>?_
 refine k _ ⟨_,?_,fun j x hx=>?_,rfl⟩
 ·simp [h6];omega
 ·obtain ⟨_,hj⟩:=ED xs 0 j x hx
  rw [Nat.sub_zero] at hj
  have:=h5 j x hj
  have hlt:j < (args.map (Act.eval ⟨A,ds⟩)).size:=(Array.getElem?_eq_some_iff.1 this).1
  rw [Array.getElem?_append_left hlt]
  exact this
theorem KH{f:FuncId}{xs:List (Option E)}{fn:Func}{t:List Item}{A':Array Value}(hc:aQ sz s=some (f,xs))(hz:A.size=sz)(h:Agree ν s.env A)(hf:P.funcs[f]? = some fn)(hr:fn.results = #[])(ht:t=[]∨∃k,t = .code .ret :: k)
  (k:ag P m I X Q d (G ((b.at ⟨A,ds⟩ s.todo).finish (.tuple #[])) cs)):ag P m I X Q d (G ((base f).at ⟨A',[]⟩ t) (b.at ⟨A,ds⟩ s.todo :: cs)):=by
 obtain ⟨ops,i,rest,kk,o,args,ats,h1,h2,h3,h4,h5,h6,h7⟩:=gq hc hz h b ds cs
 have e1:∀w,stepG P m (G ((base f).at ⟨A',[]⟩ t) (b.at ⟨A,ds⟩ s.todo :: cs)) w = .go (G { (base f).at ⟨A',[]⟩ t with mode:=.returning } (b.at ⟨A,ds⟩ s.todo :: cs)) w #[]:=by
  intro w
  rcases ht with rfl|⟨kx,rfl⟩
  ·exact stepG_end
  ·exact stepG_ret'
 refine .step rfl (fun _=>_) (fun _=>#[]) (fun w _=>⟨e1 w,by simp⟩) fun w _=>?_
 have e2:∀w,stepG P m (G { (base f).at ⟨A',[]⟩ t with mode:=.returning } (b.at ⟨A,ds⟩ s.todo :: cs)) w = .go (G ((b.at ⟨A,ds⟩ s.todo).finish (.tuple #[])) cs) w #[]:=by
  intro w
  rw [h1,stepG_leave (b:=base f) (a:=⟨A',[]⟩) rfl rfl hf (results_none hr _ P w) (events_results_none hr _ _)]
 exact .step rfl (fun _=>_) (fun _=>#[]) (fun w _=>⟨e2 w,by simp⟩) fun w _=>k
theorem rV{f:FuncId}{xs:List (Option E)}{fn:Func}{t:List Item}{A':Array Value}(hc:aQ sz s=some (f,xs))(hz:A.size=sz)(h:Agree ν s.env A)(hf:P.funcs[f]? = some fn)(hr:fn.results = #[])(ht:t=[]∨∃k,t = .code .ret :: k)
  (k:∀g,Behind ν sz b ds cs (next s none) g→ag P m I X Q d g):ag P m I X Q d (G ((base f).at ⟨A',[]⟩ t) (b.at ⟨A,ds⟩ s.todo :: cs)):=by
 obtain ⟨ops,i,rest,kk,o,args,ats,h1,h2,h3,h4,h5,h6,h7⟩:=gq hc hz h b ds cs
 have e1:∀w,stepG P m (G ((base f).at ⟨A',[]⟩ t) (b.at ⟨A,ds⟩ s.todo :: cs)) w = .go (G { (base f).at ⟨A',[]⟩ t with mode:=.returning } (b.at ⟨A,ds⟩ s.todo :: cs)) w #[]:=by
  intro w
  rcases ht with rfl|⟨kx,rfl⟩
  ·exact stepG_end
  ·exact stepG_ret'
 refine .step rfl (fun _=>_) (fun _=>#[]) (fun w _=>⟨e1 w,by simp⟩) fun w _=>?_
 have e2:∀w,stepG P m (G { (base f).at ⟨A',[]⟩ t with mode:=.returning } (b.at ⟨A,ds⟩ s.todo :: cs)) w = .go (G (b.at (Act.put ⟨A,ds⟩ o.dst (.tuple #[])) (.inRegion ops rest :: kk)) cs) w #[]:=by
  intro w
  rw [h1,stepG_leave (b:=base f) (a:=⟨A',[]⟩) rfl rfl hf (results_none hr _ P w) (events_results_none hr _ _),Frame.finish_at,h2]
  rfl
 refine .step rfl (fun _=>_) (fun _=>#[]) (fun w _=>⟨e2 w,by simp⟩) fun w _=>?_
 exact k _ (h7 none (.tuple #[]) (fun u hu=>by cases hu))
end
end Go.Sy
namespace Go.Mx
open Go.Ren Go.Sy
open Go.Conc hiding Goes
open Go.Conc.Locks
open Go.ConcR (stA smA)
def TG(L:ah):Code:=(lockFn L.mu).body.getD .skip
def TJ(L:ah):Code:=(ilockFn L.mu).body.getD .skip
def I4:Tab:=[(.nil (.v 0),.v 0),(.Wj (.v 0) 1,.v 1)]
def lkE(L:ah):S:=⟨EC 0 [some (.v 0)],[.code (TG L)],[]⟩
def Yv(L:ah):S:=fresh [(4,some (.v 1))] (run 6 I4 200 (lkE L)).todo
def ilE(L:ah):S:=⟨EC 0 [some (.v 1)],[.code (TJ L)],[]⟩
def idS(L:ah):S:=fresh [(0,some (.v 0))] (run 13 T0 200 (ilE L)).todo
def icS(L:ah):S:=fresh [(0,some (.v 0)),(5,some (.v 1))] (run 13 T0 200 (next (idS L) none)).todo
def ieS(L:ah):S:=fresh [(0,some (.v 0))] (run 13 T0 200 (next (icS L) (some (.b true)))).todo
def ivS(L:ah):S:=fresh [(0,some (.v 0)),(8,some (.v 0))] (run 13 T0 200 (next (ieS L) none)).todo
def iaS(L:ah):S:=fresh [(9,some (.v 0))] (run 13 T0 200 (next (ivS L) (some (.v 0)))).todo
def irS(L:ah):S:=fresh [] (run 13 T0 200 (next (iaS L) none)).todo
def isS(L:ah):S:=fresh [(0,some (.v 0)),(11,some (.v 0))] (run 13 T0 200 (next (icS L) (some (.b false)))).todo
def PR:S:=fresh [] []
def rp:List (E×E):=[(.v 0,.v 0),(.v 1,.v 1),(.v 1,.v 0)]
section
variable(L:ah)
theorem ahN:To L.mu.tMutex 6 I4 200 1 (lkE L) (Yv L) rp:=⟨by kernel_rfl,by kernel_rfl,by kernel_rfl⟩
theorem ahO:To L.mu.tMutex 6 I4 200 0 (next (Yv L) none) PR rp:=⟨by kernel_rfl,by kernel_rfl,by kernel_rfl⟩
theorem TK:aQ 6 (Yv L)=some (L.mu.ilock,[some (.v 1)]):=by kernel_rfl
section
variable(l w s n0 n1 z late:Bool)
theorem ahP:To L.mu.tIMutex 13 (tab l w s n0 n1 z late) 200 0 (ilE L) (idS L) rp:=⟨by kernel_rfl,by kernel_rfl,by kernel_rfl⟩
theorem ahQ:To L.mu.tIMutex 13 (tab l w s n0 n1 z late) 200 1 (next (idS L) none) (icS L) rp:=⟨by kernel_rfl,by kernel_rfl,by kernel_rfl⟩
theorem ahR:To L.mu.tIMutex 13 (tab l w s n0 n1 z late) 200 0 (next (icS L) (some (.b true))) (ieS L) rp:=⟨by kernel_rfl,by kernel_rfl,by kernel_rfl⟩
theorem ahS:To L.mu.tIMutex 13 (tab l w s n0 n1 z late) 200 0 (next (ieS L) none) (ivS L) rp:=⟨by kernel_rfl,by kernel_rfl,by kernel_rfl⟩
theorem ahT:To L.mu.tIMutex 13 (tab l w s n0 n1 z late) 200 0 (next (ivS L) (some (.v 0))) (iaS L) rp:=⟨by kernel_rfl,by kernel_rfl,by kernel_rfl⟩
theorem adT:To L.mu.tIMutex 13 (tab l w s n0 n1 z late) 200 0 (next (iaS L) none) (irS L) rp:=⟨by kernel_rfl,by kernel_rfl,by kernel_rfl⟩
theorem ahU:To L.mu.tIMutex 13 (tab l w s n0 n1 z late) 200 0 (next (icS L) (some (.b false))) (isS L) rp:=⟨by kernel_rfl,by kernel_rfl,by kernel_rfl⟩
theorem ahV:To L.mu.tIMutex 13 (tab l w s n0 n1 z late) 200 0 (next (isS L) none) PR rp:=⟨by kernel_rfl,by kernel_rfl,by kernel_rfl⟩
theorem ahW:To L.mu.tIMutex 139 (tab l w s n0 n1 z late) 200 0 (next (aqS L) none) PR rp:=⟨by kernel_rfl,by kernel_rfl,by kernel_rfl⟩
end
theorem adU:aQ 13 (idS L)=some (L.mu.disable,[]):=by kernel_rfl
theorem Yw:aQ 13 (icS L)=some (L.mu.cas32,[some (.v 1),some (.i .i32 0),some (.i .i32 1)]):=by kernel_rfl
theorem adV:aQ 13 (ieS L)=some (L.mu.enable,[]):=by kernel_rfl
theorem adW:vH 13 (ivS L)=some (L.mu.tPIMutex,L.mu.tUP,some (.v 0)):=by kernel_rfl
theorem adX:aQ 13 (iaS L)=some (L.mu.acquire,[some (.v 0)]):=by kernel_rfl
theorem Yx:aQ 13 (isS L)=some (L.mu.lockSlow,[some (.v 0)]):=by kernel_rfl
theorem adY:Ez (irS L).todo=true:=by kernel_rfl
end
end Go.Mx
namespace Go.Mx
open Go.Ren Go.Sy
open Go.Conc hiding Goes
open Go.Conc.Locks
open Go.ConcR (stA smA)
theorem I5{t:List Item}(h:Ez t=true):t=[]∨∃k,t = .code .ret :: k:=by
 unfold Ez at h
 split at h
 ·exact .inl rfl
 ·exact .inr ⟨_,rfl⟩
 ·cases h
def o0:Wd:=⟨0,0,0,0⟩
def n0(Mu:Nat):Nat→Value:=nu Mu 0 0 0 o0 0
theorem sm0:Small o0:=⟨⟨Nat.zero_le _,Nat.zero_le _,Nat.zero_le _⟩,by decide⟩
section
variable{P:Program}{L:ah}{I:World→Prop}{tM:TypeId}{Mu B:Nat}{T:Goroutine→Prop}
def AcQ(P:Program)(I:World→Prop)(Mu:Nat)(T:Goroutine→Prop)(d:Nat)(g:Goroutine):Prop:=d=0∧Says P false I #[Go.ConcR.mk (.acquire (stA Mu))] T g
def EnQ(P:Program)(I:World→Prop)(Mu:Nat)(T:Goroutine→Prop)(d:Nat)(g:Goroutine):Prop:=d=1∧Says P false I #[Go.ConcR.mk .enable] (ag P false I X0 (AcQ P I Mu T) 0) g
theorem gG.pre{E:Nat→Goroutine→Prop}{x:Lk}{d:Nat}{g:Goroutine}(h:ag P false I X0 (fun d g=>gG P I tM Mu B E x d g) d g):gG P I tM Mu B E x d g:=gG.idle (h.bind fun d g k=>k.out)
theorem oV:∀p∈rp,p.1.den (n0 Mu)=p.2.den (n0 Mu):=by
 intro p hp
 simp only [rp,List.mem_cons,List.not_mem_nil,or_false] at hp
 rcases hp with rfl|rfl|rfl
 ·rfl
 ·rfl
 ·exact jI.trans jC.symm
theorem Oc(H:dQ P L):aW P L.mu.tMutex (n0 Mu) I4:=by
 unfold aW I4
 simp only [List.forall_mem_cons]
 refine ⟨⟨rfl,_,jC⟩,?_,fun p hp=>absurd hp (List.not_mem_nil)⟩
 show Go.Sy.Yields P (Instr.fieldAt L.mu.tMutex (n0 Mu 0) 1) (n0 Mu 1)
 rw [show n0 Mu 0 = .pointer (some ⟨Mu,0,none⟩) from jC,show n0 Mu 1 = .pointer (some ⟨Mu,0,none⟩) from jI]
 have hu:=H.lib.runUnderlying_tMutex
 have h2:=H.lib.sizeOf_tIMutex
 exact fun w=>⟨by simp [go_sem,hu,h2],fun es=>by simp [go_sem,hu,h2]⟩
theorem TL{wst it:Int}{o:Wd}{A:Array Value}(h:Agree (nu Mu wst it 0 o 0) (QZ L).env A):Agree (n0 Mu) (QZ L).env A:=by
 refine uf (ρ:=[(.v 0,.v 0)]) h (by kernel_rfl) fun p hp=>?_
 simp only [List.mem_cons,List.not_mem_nil,or_false] at hp
 subst hp
 exact jC.trans jC.symm
theorem ahX(L:ah):(lockFn L.mu).body=some (TG L):=by kernel_rfl
theorem ahY(L:ah):(ilockFn L.mu).body=some (TJ L):=by kernel_rfl
theorem ahZ(L:ah):(kC L).body=some (BC L):=by kernel_rfl
theorem ah0(L:ah):((lockFn L.mu).name == "runtime.NumGoroutine")=false:=by kernel_rfl
theorem adZ(L:ah):((ilockFn L.mu).name == "runtime.NumGoroutine")=false:=by kernel_rfl
theorem ah1(L:ah):((kC L).name == "runtime.NumGoroutine")=false:=by kernel_rfl
theorem ah2(L:ah):(lockFn L.mu).results = #[]:=by kernel_rfl
theorem Yy(L:ah):(ilockFn L.mu).results = #[]:=by kernel_rfl
theorem ad1(L:ah):(kC L).results = #[]:=by kernel_rfl
theorem WG(H:dQ P L)(hB:B < 63)(hI:aau I Mu){sz:Nat}{b:Frame}{ds:List Deferred}{cs:List Frame}{s:S}{A:Array Value}(hc:aQ sz s=some (L.mu.lock,[some (.v 0)]))(hz:A.size=sz)(ha:Agree (n0 Mu) s.env A)(hk:b.kind ≠ .early)
  (hT:∀g,ag P false I X0 (fun d g=>d=0∧g=G ((b.at ⟨A,ds⟩ s.todo).finish (.tuple #[])) cs) 0 g→T g) :
  ag P false I X0 (fun d g=>d=0∧Says P false I #[Go.ConcR.mk .disable] (gG P I tM Mu B (ag P false I X0 (EnQ P I Mu T)) .l0 1) g) 0 (G (b.at ⟨A,ds⟩ s.todo) cs):=by
 have JY:=jH H (Mu:=Mu) (wst:=0) (it:=0) (tv:=0) (nw:=0) sm0.1 sm0.2
 have hTM:=Oc (Mu:=Mu) H
 have k1:(base L.mu.lock).kind ≠ .early:=by simp [base]
 have k2:(base L.mu.ilock).kind ≠ .early:=by simp [base]
 refine rU hc hz ha hk H.lib.f_lock (ah0 L) (ahX L) (by show 1≤6;omega) fun g1 b1=>?_
 refine (ahN L).walk hTM oV k1 (s:=lkE L) b1 fun g2 b2=>?_
 obtain ⟨A2,hz2,ha2,rfl⟩:=b2
 have Yz:∀g,Behind (n0 Mu) 6 (base L.mu.lock) [] (b.at ⟨A,ds⟩ s.todo :: cs) (next (Yv L) none) g→ag P false I X0 (fun d g=>d=0∧g=G ((b.at ⟨A,ds⟩ s.todo).finish (.tuple #[])) cs) 0 g:=fun g hg=>by
  refine (ahO L).walk hTM oV k1 hg fun g' hg'=>?_
  obtain ⟨A',_,_,rfl⟩:=hg'
  exact KH hc hz ha H.lib.f_lock (ah2 L) (.inl rfl) (.stop ⟨rfl,rfl⟩)
 refine rU (TK L) hz2 ha2 k1 H.lib.f_ilock (adZ L) (ahY L) (by show 1≤13;omega) fun g3 b3=>?_
 refine (ahP L _ _ _ _ _ _ _).walk JY oV k2 (s:=ilE L) b3 fun g4 b4=>.stop ⟨rfl,?_⟩
 obtain ⟨A4,hz4,ha4,rfl⟩:=b4
 obtain ⟨g5,b5,s5⟩:=wQ (P:=P) (m:=false) (b:=base L.mu.ilock) (ds:=[]) (cs:=(base L.mu.lock).at ⟨A2,[]⟩ (Yv L).todo :: b.at ⟨A,ds⟩ s.todo :: cs) .disable (by simp) (z:=none) rfl (adU L) hz4 ha4 k2 H.lib.f_disable (N7 L) (N8 L) (N9 L) (Oa L)
 refine ⟨rfl,g5,fun w _=>s5 w,gG.idle ?_⟩
 refine (ahQ L _ _ _ _ _ _ _).walk JY oV k2 b5 fun g6 b6=>.stop ?_
 obtain ⟨A6,hz6,ha6,rfl⟩:=b6
 refine ⟨rfl,rfl,rfl,fun e=>(by cases e),fun w m q hw hm hf=>.inr ?_⟩
 have eP:=hf.1
 by_cases hm0:m=o0
 ·obtain ⟨g',hb,hst⟩:=Ai (P:=P) (m:=false) (b:=base L.mu.ilock) (ds:=[]) (cs:=(base L.mu.lock).at ⟨A2,[]⟩ (Yv L).todo :: b.at ⟨A,ds⟩ s.todo :: cs) (Yw L) hz6 ha6 k2 H.lib.f_cas32 (nU L) (nV L) (nX L) (nY L) (ad:=mA Mu) jI PM PM
  have hcell:w.cell? (mA Mu)=some (.int .i32 0):=by rw [hm.state,hm0];rfl
  refine ⟨.own,⟨1,0,0,0⟩,q,g',_,_,.l0f hm0,hst w hcell (hm.thaw 0),hm.setState rfl,uM _,DJ,fun e=>(by cases e),?_⟩
  rw [DK]
  show ag P false I X0 (EnQ P I Mu T) 1 g'
  refine (ahR L _ _ _ _ _ _ _).walk JY oV k2 hb fun g7 b7=>.stop ⟨rfl,?_⟩
  refine Ob H hI k2 (by exact jC) JY oV (adV L) (ahS L _ _ _ _ _ _ _) (adW L) (ahT L _ _ _ _ _ _ _) (adX L) (fun g hg=>hT g ?_) b7
  refine (adT L _ _ _ _ _ _ _).walk JY oV k2 hg fun g' hg'=>?_
  obtain ⟨A',_,_,rfl⟩:=hg'
  exact rV (TK L) hz2 ha2 H.lib.f_ilock (Yy L) (I5 (adY L)) Yz
 ·obtain ⟨g',hb,hst⟩:=wP (P:=P) (m:=false) (b:=base L.mu.ilock) (ds:=[]) (cs:=(base L.mu.lock).at ⟨A2,[]⟩ (Yv L).todo :: b.at ⟨A,ds⟩ s.todo :: cs) (Yw L) hz6 ha6 k2 H.lib.f_cas32 (nU L) (nV L) (nX L) (nY L) (ad:=mA Mu) jI PM PM
  have hne:¬((m.num:Int)=0):=fun e=>hm0 (Wd.inj eP sm0.1 (by rw [show m.num=0 by omega];rfl))
  refine ⟨.rd false false 0,m,q,g',_,_,.l0s hm0,hst w _ hm.state (hm.thaw 0) hne,hm,kR,Wx,fun e=>(by cases e),?_⟩
  rw [Wy]
  show gG P I tM Mu B _ (.rd false false 0) 1 g'
  refine gG.pre ?_
  refine (ahU L _ _ _ _ _ _ _).walk JY oV k2 hb fun g7 b7=>?_
  obtain ⟨A7,hz7,ha7,rfl⟩:=b7
  refine rU (Yx L) hz7 ha7 k2 H.vz (ah1 L) (ahZ L) (by show 1≤139;omega) fun g8 b8=>.stop ?_
  obtain ⟨A8,hz8,ha8,rfl⟩:=b8
  refine WB H hB (fun wst it o g hg=>.stop ⟨rfl,?_⟩) hz8 ((ha8 0 (.v 0) rfl).trans (congrArg some jC))
  have hg0:Behind (n0 Mu) 139 (base L.mu.lockSlow) [] ((base L.mu.ilock).at ⟨A7,[]⟩ (isS L).todo :: (base L.mu.lock).at ⟨A2,[]⟩ (Yv L).todo :: b.at ⟨A,ds⟩ s.todo :: cs) (QZ L) g:=by
   obtain ⟨A9,hz9,ha9,rfl⟩:=hg
   exact ⟨A9,hz9,TL ha9,rfl⟩
  refine Ob H hI kb (by exact jC) JY adS (adD L) (adO _ _ _ _ _ _ _) adQ (adP _ _ _ _ _ _ _) adR (fun g hg=>hT g ?_) hg0
  refine (ahW L _ _ _ _ _ _ _).walk JY oV kb hg fun g' hg'=>?_
  obtain ⟨A',_,_,rfl⟩:=hg'
  refine rV (Yx L) hz7 ha7 H.vz (ad1 L) (.inl rfl) fun g'' hg''=>?_
  refine (ahV L _ _ _ _ _ _ _).walk JY oV k2 hg'' fun g' hg'=>?_
  obtain ⟨A',_,_,rfl⟩:=hg'
  exact rV (TK L) hz2 ha2 H.lib.f_ilock (Yy L) (.inl rfl) Yz
end
end Go.Mx
