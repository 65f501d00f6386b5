import Derived.Conc.WgGenAddNeg
import Derived.Laws.LoneSync
import Derived.Conc.Own4
import Derived.Test.YtkgmngkagkoepaaGreatH18
set_option linter.all false
namespace Go.Mx
open Go.Ren Go.Sy
open Go.Conc hiding Goes
open Go.Conc.Locks
open Go.ConcR (stA smA)
def pW(T:Lo):Wd:=if T.old.L=0/\T.old.S=0 then⟨1,if T.aw then 0 else T.old.W,0,T.old.n⟩else⟨T.old.L,if T.aw then 0 else T.old.W,if T.sv=true/\T.old.L=1 then 1 else T.old.S,T.old.n+1⟩
def Bh(L:ah)(cs:List Frame)(a:Nat->Value)(s:S)(g:Goroutine):Prop:=Behind a 139 (base L.mu.lockSlow) [] cs s g
def Small(o:Wd):Prop:=o.Bits/\o.n<63
def Qr(L:ah)(Mu:Nat)(cs:List Frame)(y:Lk)(d:Nat)(g:Goroutine):Prop:=d=1/\match y with
 | .rd f e b=>∃a o h,Bh L cs (nu Mu a b 0 o 0) (Ux L h f e) g
 | .sq T=>∃a,Bh L cs (nu Mu a T.it 0 T.old 0) (ZG L T.aw T.sv) g
 | .c1 T=>T.aw=false/\∃a,Bh L cs (nu Mu a T.it 0 T.old 0) (c1S L T.sv) g
 | .c2 T=>∃a,Bh L cs (nu Mu a T.it 0 T.old (pW T).num) (Ou L T.aw T.sv) g
 | .t1 e=>∃a b o c,Small o/\Bh L cs (nu Mu a b 0 o 0) (t1S L e c) g
 | .s1 e=>∃a b o c,Small o/\Bh L cs (nu Mu a b 0 o 0) (s1S L e c) g
 | .t2=>∃a b o,Small o/\Bh L cs (nu Mu a b 0 o 0) (t2S L) g
 | .r2 e=>∃a b o,Small o/\Bh L cs (nu Mu a b 0 o 0) (VB L e) g
 | .a1 e i=>∃a b o,Small o/\Bh L cs (nu Mu a b 0 o 0) (a1S L (if i then-11 else-7)) g
 |_=>False
section
variable{P:Program}{L:ah}{I:World->Prop}{tM:TypeId}{Mu B:Nat}{cs:List Frame}{d:Nat}{g:Goroutine}{wst it tv:Int}{o:Wd}{nw:Int}
theorem kb:(base L.mu.lockSlow).kind≠.early:=by simp[base]
theorem iP{a ZH:Int}:∀p∈ri,p.1.den (nu Mu wst it tv o nw)=p.2.den (nu Mu wst it a o ZH):=by
 intro p b;simp only[ri,List.mem_cons,List.not_mem_nil,or_false]at b;rcases b with rfl|rfl|rfl|rfl|rfl|rfl|rfl
 ·exact jq.trans jq.symm
 ·exact jE.trans jE.symm
 ·exact yh.trans yh.symm
 ·exact zQ.trans zQ.symm
 ·exact sG.trans sG.symm
 ·exact F6.trans F6.symm
 ·exact Oq.trans Oq.symm
theorem Ep{b:Int}{k:Nat}{ZH:Int}(h:nu Mu wst it tv o nw k=.int .i32 ZH):∀p∈rN k,p.1.den (nu Mu wst it tv o nw)=p.2.den (nu Mu wst it b o ZH):=by
 intro p a;simp only[rN,List.mem_cons]at a;rcases a with rfl|a
 ·exact h.trans VA.symm
 ·exact iP p a
theorem eY{l w s:Bool}(a:fl o.L=l)(b:fl o.W=w)(c:fl o.S=s):xY wst tv o=tab l w s (o.n==0) (o.n==1) (wst==0) (decide (IntKind.i64.wrap (tv-wst)>1000000)):=by unfold xY;rw[a,b,c]
theorem Dp{k:Nat}(h:k=1):fl k=true:=by rw[h];rfl
theorem vH{k:Nat}(h:k=0):fl k=false:=by rw[h];rfl
theorem Kv(a:o.Bits)(c:o.n<63):ug (o.num:Int) 1=((⟨1,o.W,o.S,o.n⟩:Wd).num:Nat):=by
 have b:=gz (m:=⟨1,o.W,o.S,o.n⟩) ⟨Nat.le_refl _,a.W,a.S⟩
 rw[gz a,b];exact(IB _ (by omega) _ _ _).1
theorem ad8(a:o.Bits)(b:o.n<63):oJ (ug (o.num:Int) 1) 2=((⟨1,0,o.S,o.n⟩:Wd).num:Nat):=by
 have c:=gz (m:=⟨1,o.W,o.S,o.n⟩) ⟨Nat.le_refl _,a.W,a.S⟩
 have e:=gz (m:=⟨1,0,o.S,o.n⟩) ⟨Nat.le_refl _,Nat.zero_le _,a.S⟩
 rw[Kv a b,c,e];exact(IB _ (by dsimp only;omega) _ _ _).2.2.2
theorem VE(a:o.Bits)(b:o.n<63):IntKind.i32.wrap ((o.num:Int)+8)=((⟨o.L,o.W,o.S,o.n+1⟩:Wd).num:Nat):=by
 have c:=gz (m:=⟨o.L,o.W,o.S,o.n+1⟩) ⟨a.L,a.W,a.S⟩
 rw[agC a b,c]
theorem Kw(a:o.Bits)(b:o.n<63):IntKind.i32.wrap (ug (o.num:Int) 1+8)=((⟨1,o.W,o.S,o.n+1⟩:Wd).num:Nat):=by
 rw[Kv a b];exact VE (o:=⟨1,o.W,o.S,o.n⟩) ⟨Nat.le_refl _,a.W,a.S⟩ b
theorem ad9(a:o.Bits)(b:o.n<63):oJ (IntKind.i32.wrap (ug (o.num:Int) 1+8)) 2=((⟨1,0,o.S,o.n+1⟩:Wd).num:Nat):=by
 have c:=gz (m:=⟨1,o.W,o.S,o.n+1⟩) ⟨Nat.le_refl _,a.W,a.S⟩
 have e:=gz (m:=⟨1,0,o.S,o.n+1⟩) ⟨Nat.le_refl _,Nat.zero_le _,a.S⟩
 rw[Kw a b,c,e];exact(IB _ (by dsimp only;omega) _ _ _).2.2.2
theorem aea(a:o.Bits)(b:o.n<63):oJ (ug (IntKind.i32.wrap (ug (o.num:Int) 1+8)) 4) 2=((⟨1,0,1,o.n+1⟩:Wd).num:Nat):=by
 have c:=gz (m:=⟨1,o.W,o.S,o.n+1⟩) ⟨Nat.le_refl _,a.W,a.S⟩
 have e:=gz (m:=⟨1,0,1,o.n+1⟩) ⟨Nat.le_refl _,Nat.zero_le _,Nat.le_refl _⟩
 rw[Kw a b,c,e,(IB _ (by dsimp only;omega) _ _ _).2.2.1];exact(IB _ (by dsimp only;omega) _ _ _).2.2.2
theorem aeb(a:o.Bits)(c:o.n<63):ug (o.num:Int) 2=((⟨o.L,1,o.S,o.n⟩:Wd).num:Nat):=by
 have b:=gz (m:=⟨o.L,1,o.S,o.n⟩) ⟨a.L,Nat.le_refl _,a.S⟩
 rw[gz a,b];exact(IB _ (by omega) _ _ _).2.1
theorem OJ(H:dX P L)(i:o.Bits)(p:o.n<63){b a:Bool}{it:Nat}(v:b=true->o.W=1/\o.S=0)(w:a=true->b=true)(q:Bh L cs (nu Mu wst it 0 o 0) (head L b a) g):af P false I X0 (Qr L Mu cs (hd ⟨o,b,a,it⟩)) 1 g:=by
 have f:=jD H (Mu:=Mu) (wst:=wst) (it:=it) (tv:=0) (nw:=0) i p
 have y:=i.L
 have z:=i.S
 have A:=i.W
 by_cases r:o.L=1/\o.S=0
 ·have e:hd ⟨o,b,a,it⟩=.sq ⟨o,b,a,it⟩:=by unfold hd;rw[if_pos r]
  rw[e];rw[eY (Dp r.1) rfl (vH r.2)]at f;exact(agM L _ _ _ _ _ b a).walk f iP kb q fun s j=>.stop ⟨rfl,wst,j⟩
 ·have e:hd ⟨o,b,a,it⟩=.c2 ⟨o,b,a,it⟩:=by unfold hd;rw[if_neg r]
  rw[e];by_cases h0:o.S=0
  ·have c:o.L=0:=by omega
   cases l:b with
   |false=>
    have k:a=false:=by cases h:a with|false=>rfl|true=>exact absurd (w h) (by rw[l];simp)
    subst l k;rw[eY (vH c) rfl (vH h0)]at f;refine(adS L _ _ _ _ _).walk f (Ep (ZH:=((pW ⟨o,false,false,it⟩).num:Nat)) ?_) kb q fun s j=>.stop ⟨rfl,wst,j⟩;rw[agD,Kv i p];unfold pW;rw[if_pos ⟨c,h0⟩];simp[h0]
   |true=>subst l;have t:=(v rfl).1;rw[eY (vH c) (Dp t) (vH h0)]at f;refine(aac L _ _ _ _ a).walk f (Ep (ZH:=((pW ⟨o,true,a,it⟩).num:Nat)) ?_) kb q fun s j=>.stop ⟨rfl,wst,j⟩;rw[agF,ad8 i p];unfold pW;rw[if_pos ⟨c,h0⟩];simp[h0]
  ·have u:o.S=1:=by omega
   have l:b=false:=by cases h:b with|false=>rfl|true=>exact absurd (v h).2 h0
   have k:a=false:=by cases h:a with|false=>rfl|true=>exact absurd (w h) (by rw[l];simp)
   subst l k;rw[eY rfl rfl (Dp u)]at f;refine(agN L _ _ _ _ _ _).walk f (Ep (ZH:=((pW ⟨o,false,false,it⟩).num:Nat)) ?_) kb q fun s j=>.stop ⟨rfl,wst,j⟩;rw[agE,VE i p];unfold pW;rw[if_neg (by intro x;exact h0 x.2)];simp
end
end Go.Mx
namespace Go.Mx
open Go.Ren Go.Sy
open Go.Conc hiding Goes
open Go.Conc.Locks
open Go.ConcR (stA smA)
section
variable{P:Program}{L:ah}{I:World->Prop}{tM:TypeId}{Mu B:Nat}{cs:List Frame}{d:Nat}{g:Goroutine}{wst it tv:Int}{o:Wd}{nw:Int}{Q:Nat->Goroutine->Prop}
theorem aaj{it:Nat}(h:it<=4):IntKind.i64.wrap ((it:Int)+1)=((it+1:Nat):Int):=by
 have:it=0∨it=1∨it=2∨it=3∨it=4:=by omega
 rcases this with rfl|rfl|rfl|rfl|rfl<;>decide+kernel
def RL(P:Program)(L:ah)(I:World->Prop)(Mu:Nat)(cs:List Frame)(y:Lk)(d:Nat)(g:Goroutine):Prop:=af P false I X0 (Qr L Mu cs y) d g
theorem ag7{R:Lk->Nat->Goroutine->Prop}{E:Nat->Goroutine->Prop}{y:Lk}(a:isL y)(h:R y d g):Nx R E y d g:=by
 cases y<;>first|exact h|exact a.elim
theorem Ky{a b:Wd}(c:a.Bits)(f:b.Bits)(h:a≠b):¬((a.num:Int)=b.num):=fun e=>h (Wd.inj c f (Int.ofNat_inj.1 e))
theorem pX{a b c f:Int}{o':Wd}{e:Env}{A:Array Value}(ρ:List (E×E))(j:(Go.Sy.sub e e).all (lg ρ)=true)(i:∀p∈ρ,p.1.den (nu Mu wst it tv o nw)=p.2.den (nu Mu a b c o' f))(h:Agree (nu Mu wst it tv o nw) e A):Agree (nu Mu a b c o' f) e A:=uh h j i
def rv:List (E×E):=[(.v 0,.v 0),(.v 1,.v 1),(.v 2,.v 2),(.v 3,.v 3),(.v 5,.v 5)]
theorem ag8{a b:Int}{e:Wd}:∀p∈rv,p.1.den (nu Mu wst it tv o nw)=p.2.den (nu Mu wst it a e b):=by
 intro p c;simp only[rv,List.mem_cons,List.not_mem_nil,or_false]at c;rcases c with rfl|rfl|rfl|rfl|rfl
 ·exact jq.trans jq.symm
 ·exact jE.trans jE.symm
 ·exact yh.trans yh.symm
 ·exact zQ.trans zQ.symm
 ·exact F6.trans F6.symm
theorem aec(L:ah)(a:Pl)(b c:Bool):(Go.Sy.sub (Ux L a b c).env (Ux L a b c).env).all (lg rv)=true:=by cases a<;>cases b<;>cases c<;>kernel_rfl
theorem aed(T:Tab)(c:Pl)(a b:Bool):∃n,To L.mu.tIMutex 139 T n 0 (next (Ux L c a b) (some (.v 4))) (head L a b) ri:=by
 obtain⟨e,f,h⟩:=agL L T a b
 cases c
 ·exact⟨_,e⟩
 ·exact⟨_,f⟩
 ·exact⟨_,h⟩
theorem Qs(L:ah):(some (jW L)).any (·.norace)=true:=by kernel_rfl
theorem IK(H:dX P L):(P.funcs[(base L.mu.lockSlow).fn]?).any (·.norace)=true:=by
 show(P.funcs[L.mu.lockSlow]?).any (·.norace)=true
 rw[H.vC];exact Qs L
variable(H:dX P L)(c:B<63)
include H c
theorem aee{E:Nat->Goroutine->Prop}{f i:Bool}{it:Nat}(h:Qr L Mu cs (.rd f i it) d g):C9 P I tM Mu B (Nx (RL P L I Mu cs) E) (.rd f i it) d g:=by
 obtain⟨rfl,wst,o,k,A,C,D,rfl⟩:=h
 refine⟨rfl,rfl,rfl,fun e=>(by cases e),fun w m q U x F=>.inr ?_⟩;obtain⟨a,J,M,l,p⟩:=F
 have r:Agree (nu Mu wst it 0 m 0) (Ux L k f i).env A:=pX rv (aec L k f i) ag8 D
 obtain⟨y,N,j⟩:=Af (P:=P) (m:=false) (b:=base L.mu.lockSlow) (ds:=[]) (cs:=cs) (z:=some (.v 4)) H.lib.runUnderlying_t21 H.lib.sizeOf_t21 H.lib.isAgg_t21 (agZ L k f i) C r kb (IK H) (ad:=mA Mu) jE (v:=(m.num:Int)) (fun u O=>by cases O;exact sG.symm)
 refine⟨hd ⟨m,f,i,it⟩,m,q,y,w,#[],.rd,j w x.state,x,⟨rfl,fun _ _=>rfl,.rfl,rfl,rfl⟩,by simp,fun e=>(by cases e),ag7 (Kr _) ?_⟩;show af P false I X0 _ 1 y;have R:=jD H (Mu:=Mu) (wst:=wst) (it:=it) (tv:=0) (nw:=0) a (by omega:m.n<63)
 obtain⟨n,s⟩:=aed (L:=L) (xY wst 0 m) k f i
 exact s.walk R iP kb N fun T t=>OJ H a (by omega) p l.1 t
theorem IL{e f:Bool}{it:Nat}(k:Small o)(h:it<=4)(i:Bh L cs (nu Mu wst it 0 o 0) (dsS L e f) g):af P false I X0 (Qr L Mu cs (.rd e f (it+1))) 1 g:=by
 obtain⟨A,q,r,rfl⟩:=i
 obtain⟨l,i,a⟩:=Z9 (P:=P) (m:=false) (b:=base L.mu.lockSlow) (ds:=[]) (cs:=cs) (.tuple #[]) (z:=none) (fun u s=>by cases s) (ag0 L e f) q r kb H.Vh (ad2 L) (ad3 L) (ad4 L) (ad5 L)
 refine .step rfl (fun _=>l) (fun _=>#[]) (fun w _=>⟨a w,by simp⟩) fun w _=>?_
 show af P false I X0 _ 1 l;have t:=jD H (Mu:=Mu) (wst:=wst) (it:=it) (tv:=0) (nw:=0) k.1 k.2;refine(agV L _ _ _ _ _ _ _ e f).walk (Ai:=nu Mu wst ((it+1:Nat):Int) 0 o 0) t (fun p n=>?_) kb i fun x j=>.stop ⟨rfl,wst,o,.b,j⟩;simp only[List.mem_cons,List.not_mem_nil,or_false]at n;rcases n with rfl|rfl|rfl|rfl
 ·exact jq.trans jq.symm
 ·exact jE.trans jE.symm
 ·exact zQ.trans zQ.symm
 ·refine(ajC (Mu:=Mu)).trans ?_;rw[aaj h];exact F6.symm
theorem aef{E:Nat->Goroutine->Prop}{T:Lo}(h:Qr L Mu cs (.sq T) d g):C9 P I tM Mu B (Nx (RL P L I Mu cs) E) (.sq T) d g:=by
 obtain⟨rfl,wst,A,hz,ha,rfl⟩:=h
 refine⟨rfl,rfl,rfl,fun e=>(by cases e),fun w m q hw Z hf=>.inr ?_⟩;obtain⟨a0,a4,a5,⟨⟨ob,on,N,O,t⟩,z,s⟩,_⟩:=hf
 obtain⟨a,r,i,it⟩:=T
 dsimp only at ha ob on N O t z s⊢;have f:Small a:=⟨ob,by omega⟩
 have p:=jD H (Mu:=Mu) (wst:=wst) (it:=it) (tv:=0) (nw:=0) f.1 f.2;obtain⟨gt,u,a1⟩:=BA (P:=P) (m:=false) (b:=base L.mu.lockSlow) (ds:=[]) (cs:=cs) (ab9 L r i) hz ha kb H.Eh (OA L) (OB L) (OC L) (OD L) (k:=.i64) (n:=(it:Int)) F6 true
 obtain⟨gf,C,R⟩:=BA (P:=P) (m:=false) (b:=base L.mu.lockSlow) (ds:=[]) (cs:=cs) (ab9 L r i) hz ha kb H.Eh (OA L) (OB L) (OC L) (OD L) (k:=.i64) (n:=(it:Int)) F6 false
 by_cases h4:it<4/\w.spins=true
 ·have U:=(a1 w).1 (by omega) h4.2;by_cases hc:r=false/\a.W=0/\a.n≠0
  ·refine⟨.c1 ⟨a,r,i,it⟩,m,q,gt,w.asked,#[],.sqc h4.1 hc,U,Z,yj,by simp,fun e=>(by cases e),?_⟩;obtain⟨rfl,v,D⟩:=hc
   rw[eY (Dp z) (vH v) (vH s),show(a.n==0)=false from by simpa using D]at p;exact(agR L _ _ _ i).walk p iP kb u fun F j=>.stop ⟨rfl,rfl,wst,j⟩
  ·refine⟨.rd r i (it+1),m,q,gt,w.asked,#[],.sqr h4.1 hc,U,Z,yj,by simp,fun e=>(by cases e),?_⟩;show af P false I X0 _ 1 gt;cases l:r with
   |true=>subst l;rw[eY (Dp z) rfl (vH s)]at p;exact(agS L _ _ _ _ _ i).walk p iP kb u fun F j=>IL H c f t j
   |false=>
    subst l;by_cases v:a.W=0
    ·have D:a.n=0:=by apply Classical.byContradiction;intro hn;exact hc ⟨rfl,v,hn⟩
     rw[eY (Dp z) (vH v) (vH s),show(a.n==0)=true from by simpa using D]at p;exact(agU L _ _ _ i).walk p iP kb u fun F j=>IL H c f t j
    ·have J:a.W=1:=by have:=ob.W;omega
     rw[eY (Dp z) (Dp J) (vH s)]at p;exact(agT L _ _ _ _ i).walk p iP kb u fun F j=>IL H c f t j
 ·have V:RL P L I Mu cs (.c2 ⟨a,r,i,it⟩) 1 gf:=by
   show af P false I X0 _ 1 gf;have M:pW ⟨a,r,i,it⟩=⟨1,if r then 0 else a.W,if i=true then 1 else 0,a.n+1⟩:=by unfold pW;rw[if_neg (by intro x;have:=x.1;dsimp only at this;omega)];simp[z,s]
   cases l:r with
   |false=>
    have y:i=false:=by cases h:i with|false=>rfl|true=>exact absurd (N h) (by rw[l];simp)
    subst l y;rw[eY (Dp z) rfl (vH s)]at p;refine(agO L _ _ _ _ _).walk p (Ep (ZH:=((pW ⟨a,false,false,it⟩).num:Nat)) ?_) kb C fun g' Y=>.stop ⟨rfl,wst,Y⟩;rw[agI,Kw f.1 f.2,M];simp[s]
   |true=>
    have J:=(O l).1;subst l;rw[eY (Dp z) (Dp J) (vH s)]at p;cases y:i with
    |false=>subst y;refine(agP L _ _ _ _).walk p (Ep (ZH:=((pW ⟨a,true,false,it⟩).num:Nat)) ?_) kb C fun g' Y=>.stop ⟨rfl,wst,Y⟩;rw[agG,ad9 f.1 f.2,M];simp[s]
    |true=>subst y;refine(agQ L _ _ _ _).walk p (Ep (ZH:=((pW ⟨a,true,true,it⟩).num:Nat)) ?_) kb C fun g' Y=>.stop ⟨rfl,wst,Y⟩;rw[agH,aea f.1 f.2,M];simp
  by_cases a2:it<4
  ·have a3:w.spins=false:=by cases h:w.spins with|false=>rfl|true=>exact absurd ⟨a2,h⟩ h4
   exact⟨.c2 ⟨a,r,i,it⟩,m,q,gf,w.asked,#[],.sqn,(R w).1 (by omega) a3,Z,yj,by simp,fun e=>(by cases e),V⟩
  ·exact⟨.c2 ⟨a,r,i,it⟩,m,q,gf,w,#[],.sqn,(R w).2 (by omega) rfl,Z,⟨rfl,fun _ _=>rfl,.rfl,rfl,rfl⟩,by simp,fun e=>(by cases e),V⟩
end
end Go.Mx
namespace Go.Mx
open Go.Ren Go.Sy
open Go.Conc hiding Goes
open Go.Conc.Locks
open Go.ConcR (stA smA)
section
variable{P:Program}{L:ah}{I:World->Prop}{tM:TypeId}{Mu B:Nat}{cs:List Frame}{d:Nat}{g:Goroutine}{wst it tv:Int}{o:Wd}{nw:Int}{Q:Nat->Goroutine->Prop}
theorem uP{w:World}(v:Value):rZ Mu w (w.setCell (mA Mu) v):=OI (a:=mA Mu) rfl v
theorem VF{w:World}(v:Value):rZ Mu w (w.setCell (sA Mu) v):=OI (a:=sA Mu) rfl v
theorem kH{w:World}:rZ Mu w w:=⟨rfl,fun _ _=>rfl,.rfl,rfl,rfl⟩
theorem aeg{m:Wd}(c:m.Bits)(j:m.n<63)(f:m.L=0)(h:m.W=0)(b:m.S=1)(k:1<=m.n)(a:Bool):IntKind.i32.wrap ((m.num:Int)+(if a then-11 else-7))=((⟨1,m.W,if a then 0 else m.S,m.n-1⟩:Wd).num:Nat):=by
 have i:(⟨1,m.W,if a then 0 else m.S,m.n-1⟩:Wd).Bits:=⟨Nat.le_refl _,c.W,by cases a<;>simp[b]⟩
 have e:(m.num:Int)+(if a=true then-11 else-7)=((⟨1,m.W,if a then 0 else m.S,m.n-1⟩:Wd).num:Nat):=by
  unfold Wd.num;dsimp only
  cases a<;>simp[f,h,b]<;>omega
 rw[e];exact Vy i (by dsimp only;omega)
theorem Qu{k:IntKind}{z:Int}{a:Nat->Value}:(E.i k z).den a=.int k z:=rfl
def r4:List (E×E):=[(.v 0,.v 0),(.v 1,.v 1),(.v 2,.v 2),(.v 3,.v 3)]
theorem Es{a b c:Int}{o':Wd}:∀p∈r4,p.1.den (nu Mu wst it tv o nw)=p.2.den (nu Mu wst a b o' c):=by
 intro p e;simp only[r4,List.mem_cons,List.not_mem_nil,or_false]at e;rcases e with rfl|rfl|rfl|rfl
 ·exact jq.trans jq.symm
 ·exact jE.trans jE.symm
 ·exact yh.trans yh.symm
 ·exact zQ.trans zQ.symm
theorem aeh(L:ah)(b a:Bool):(Go.Sy.sub (t1S L b a).env (t1S L b a).env).all (lg r4)=true:=by cases b<;>cases a<;>kernel_rfl
theorem aei(L:ah):(Go.Sy.sub (t2S L).env (t2S L).env).all (lg r4)=true:=by kernel_rfl
theorem aej(L:ah)(a:Bool):(Go.Sy.sub (VB L a).env (VB L a).env).all (lg r4)=true:=by cases a<;>kernel_rfl
theorem ag9:∀p∈r0,p.1.den (nu Mu 0 0 0 o 0)=p.2.den (nu Mu 0 ((0:Nat):Int) 0 o 0):=by
 intro p a;simp only[r0,List.mem_cons,List.not_mem_nil,or_false]at a;rcases a with rfl|rfl|rfl|rfl
 ·exact jq.trans jq.symm
 ·exact jE.trans jE.symm
 ·exact zQ.symm
 ·exact F6.symm
variable(H:dX P L)(f:B<63)
include H f
theorem aek{E:Nat->Goroutine->Prop}{T:Lo}(h:Qr L Mu cs (.c1 T) d g):C9 P I tM Mu B (Nx (RL P L I Mu cs) E) (.c1 T) d g:=by
 obtain⟨rfl,s,wst,A,M,v,rfl⟩:=h
 refine⟨rfl,rfl,rfl,fun e=>(by cases e),fun w m q hw p O=>.inr ?_⟩;obtain⟨c,R,U,⟨⟨x,V,y,z,i⟩,W,X,Y,C,_,t⟩,_⟩:=O
 obtain⟨u,aw,r,it⟩:=T
 dsimp only at v x V y z i W X Y C s t⊢;subst s;have a:Small u:=⟨x,by omega⟩
 have N:=jD H (Mu:=Mu) (wst:=wst) (it:=it) (tv:=0) (nw:=0) a.1 a.2;by_cases j:m=u
 ·subst j;obtain⟨D,F,k⟩:=Ae (P:=P) (m:=false) (b:=base L.mu.lockSlow) (ds:=[]) (cs:=cs) (acd L r) M v kb H.lib.f_cas32 (nP L) (nR L) (nS L) (nT L) (ad:=mA Mu) jE sG Oq
  refine⟨.rd true r (it+1),⟨m.L,1,m.S,m.n⟩,q,D,_,_,.c1y rfl,k w p.state (p.thaw 0),p.setState (aeb a.1 a.2),uP _,Dl,fun e=>(by cases e),?_⟩;rw[Dn];exact(adT L _ _ _ _ _ _ _ r).walk N iP kb F fun J l=>IL H f a i l
 ·obtain⟨D,F,k⟩:=wS (P:=P) (m:=false) (b:=base L.mu.lockSlow) (ds:=[]) (cs:=cs) (acd L r) M v kb H.lib.f_cas32 (nP L) (nR L) (nS L) (nT L) (ad:=mA Mu) jE sG Oq
  refine⟨.rd false r (it+1),m,q,D,_,_,.c1n j,k w _ p.state (p.thaw 0) (Ky c x j),p,kH,aah,fun e=>(by cases e),?_⟩;rw[aai];exact(adU L _ _ _ _ _ _ _ r).walk N iP kb F fun J l=>IL H f a i l
theorem ael(Z:∀wst it o g,Bh L cs (nu Mu wst it 0 o 0) (Uy L) g->af P false I X0 Q 1 g){T:Lo}(h:Qr L Mu cs (.c2 T) d g):C9 P I tM Mu B (Nx (RL P L I Mu cs) (af P false I X0 Q)) (.c2 T) d g:=by
 obtain⟨rfl,wst,A,Y,O,rfl⟩:=h
 refine⟨rfl,rfl,rfl,fun e=>(by cases e),fun w m q hw M hf=>.inr ?_⟩;obtain⟨y,a0,a1,⟨N,on,R,U,V⟩,_⟩:=hf
 obtain⟨s,j,i,it⟩:=T
 dsimp only at O N on R U V⊢;have k:Small s:=⟨N,by omega⟩
 have l:=jD H (Mu:=Mu) (wst:=wst) (it:=it) (tv:=0) (nw:=(pW ⟨s,j,i,it⟩).num) k.1 k.2;have oL:=N.L
 have oS:=N.S
 by_cases z:m=s
 ·subst z;obtain⟨x,C,D⟩:=Ae (P:=P) (m:=false) (b:=base L.mu.lockSlow) (ds:=[]) (cs:=cs) (ace L j i) Y O kb H.lib.f_cas32 (nP L) (nR L) (nS L) (nT L) (ad:=mA Mu) jE sG VA
  have E:=D w M.state (M.thaw 0)
  have F:=M.setState (m':=pW ⟨m,j,i,it⟩) (v:=((pW ⟨m,j,i,it⟩).num:Nat)) rfl
  by_cases h0:m.L=0/\m.S=0
  ·have t:pW ⟨m,j,i,it⟩=⟨1,if j then 0 else m.W,0,m.n⟩:=by unfold pW;rw[if_pos h0]
   refine⟨.own,_,q,x,_,_,.c2l rfl h0,E,by rw[←t];exact F,uP _,Dl,fun e=>(by cases e),?_⟩;rw[Dn];show af P false I X0 Q 1 x;rw[eY (vH h0.1) rfl (vH h0.2)]at l;exact(adW L _ _ _ _ _ j i).walk l iP kb C fun p a=>Z _ _ _ _ a
  ·have t:pW ⟨m,j,i,it⟩=⟨m.L,if j then 0 else m.W,if i=true/\m.L=1 then 1 else m.S,m.n+1⟩:=by unfold pW;rw[if_neg h0]
   have r:m.L=1∨(m.L=0/\m.S=1):=by omega
   by_cases u:wst=0
   ·refine⟨.t1 i,_,q,x,_,_,.c2q rfl h0 (.inl rfl),E,by rw[←t];exact F,uP _,Dl,fun e=>(by cases e),?_⟩;rw[Dn];show af P false I X0 _ 1 x;rcases r with J|⟨J,X⟩
    ·rw[eY (Dp J) rfl rfl,show(wst==0)=true from by simpa using u]at l;exact((VC L _ _ _ _ _ j i).1).walk l iP kb C fun p a=>.stop ⟨rfl,wst,it,m,false,k,a⟩
    ·rw[eY (vH J) rfl (Dp X),show(wst==0)=true from by simpa using u]at l;exact((VC L _ true _ _ _ j i).2).walk l iP kb C fun p a=>.stop ⟨rfl,wst,it,m,false,k,a⟩
   ·refine⟨.s1 i,_,q,x,_,_,.c2q rfl h0 (.inr rfl),E,by rw[←t];exact F,uP _,Dl,fun e=>(by cases e),?_⟩;rw[Dn];show af P false I X0 _ 1 x;rcases r with J|⟨J,X⟩
    ·rw[eY (Dp J) rfl rfl,show(wst==0)=false from by simpa using u]at l;exact((VD L _ _ _ _ _ j i).1).walk l iP kb C fun p a=>.stop ⟨rfl,wst,it,m,true,k,a⟩
    ·rw[eY (vH J) rfl (Dp X),show(wst==0)=false from by simpa using u]at l;exact((VD L _ true _ _ _ j i).2).walk l iP kb C fun p a=>.stop ⟨rfl,wst,it,m,true,k,a⟩
 ·obtain⟨x,C,D⟩:=wS (P:=P) (m:=false) (b:=base L.mu.lockSlow) (ds:=[]) (cs:=cs) (ace L j i) Y O kb H.lib.f_cas32 (nP L) (nR L) (nS L) (nT L) (ad:=mA Mu) jE sG VA
  refine⟨.rd j i it,m,q,x,_,_,.c2n z,D w _ M.state (M.thaw 0) (Ky y N z),M,kH,aah,fun e=>(by cases e),?_⟩;rw[aai];exact(adV L _ _ _ _ _ _ _ j i).walk l iP kb C fun p a=>.stop ⟨rfl,wst,s,.c,a⟩
theorem aem{E:Nat->Goroutine->Prop}{c:Bool}(h:Qr L Mu cs (.t1 c) d g):C9 P I tM Mu B (Nx (RL P L I Mu cs) E) (.t1 c) d g:=by
 obtain⟨rfl,wst,it,o,a,i,A,t,x,rfl⟩:=h
 refine⟨rfl,rfl,rfl,fun e=>(by cases e),fun w m q N y O=>.inr ?_⟩;obtain⟨tv,j⟩:∃tv:Int,((w.os.mono+w.tick:Nat):Int)=tv:=⟨_,rfl⟩
 have C:=jD H (Mu:=Mu) (wst:=wst) (it:=it) (tv:=tv) (nw:=0) i.1 i.2;have k:Agree (nu Mu wst it tv o 0) (t1S L c a).env A:=pX r4 (aeh L c a) Es x
 obtain⟨r,D,l⟩:=Oj (P:=P) (m:=false) (b:=base L.mu.lockSlow) (ds:=[]) (cs:=cs) (z:=some (.v 20)) (ag1 L c a) t k kb H.Vj (IC L) (IE L) (IG L) (II L) (IJ L) tv (fun u F=>by cases F;exact Vz.symm)
 refine⟨.s1 c,m,q,r,w.later,#[],.t1,l w j,y,Eo,by simp,fun e=>(by cases e),?_⟩;show af P false I X0 _ 1 r;refine(agW L _ _ _ _ _ _ _ c a).walk (Ai:=nu Mu tv it 0 o 0) C (fun p s=>?_) kb D fun M n=>.stop ⟨rfl,tv,it,o,a,i,n⟩;simp only[List.mem_cons,List.not_mem_nil,or_false]at s;rcases s with rfl|rfl|rfl
 ·exact jq.trans jq.symm
 ·exact yh.trans yh.symm
 ·exact Vz.trans zQ.symm
theorem aen{E:Nat->Goroutine->Prop}{k:Bool}(h:Qr L Mu cs (.s1 k) d g):C9 P I tM Mu B (Nx (RL P L I Mu cs) E) (.s1 k) d g:=by
 obtain⟨rfl,wst,it,o,a,c,A,t,u,rfl⟩:=h
 refine⟨rfl,rfl,rfl,fun e=>(by cases e),fun w m q x l y=>?_⟩;have r:=jD H (Mu:=Mu) (wst:=wst) (it:=it) (tv:=0) (nw:=0) c.1 c.2;obtain⟨v,s,n,i⟩:=Qq (P:=P) (m:=false) (b:=base L.mu.lockSlow) (ds:=[]) (cs:=cs) (z:=none) rfl (ag2 L k a) t u kb H.Vk (aad L) (aae L) (aaf L) (aag L) (ad:=sA Mu) yh
 rcases q with _|q
 ·exact .inl ⟨⟨k,rfl⟩,rfl,i w l.sema⟩
 ·refine .inr ⟨if k then .r2 true else .t2,m,q,v,_,_,.s1,n w _ l.sema (by omega) (l.thaw 1),l.F7 (by omega),VF _,ad6,fun e=>(by cases e),?_⟩;rw[ad7];cases k with
  |true=>exact(adY L _ _ _ _ _ _ _ a).walk r iP kb s fun p j=>.stop ⟨rfl,wst,it,o,c,j⟩
  |false=>exact(adX L _ _ _ _ _ _ _ a).walk r iP kb s fun p j=>.stop ⟨rfl,wst,it,o,c,j⟩
theorem aeo{E:Nat->Goroutine->Prop}(h:Qr L Mu cs .t2 d g):C9 P I tM Mu B (Nx (RL P L I Mu cs) E) .t2 d g:=by
 obtain⟨rfl,wst,it,o,a,A,n,p,rfl⟩:=h
 refine⟨rfl,rfl,rfl,fun e=>(by cases e),fun w m q C r D=>.inr ?_⟩;obtain⟨tv,c⟩:∃tv:Int,((w.os.mono+w.tick:Nat):Int)=tv:=⟨_,rfl⟩
 have s:=jD H (Mu:=Mu) (wst:=wst) (it:=it) (tv:=tv) (nw:=0) a.1 a.2;have i:Agree (nu Mu wst it tv o 0) (t2S L).env A:=pX r4 (aei L) Es p
 obtain⟨l,t,j⟩:=Oj (P:=P) (m:=false) (b:=base L.mu.lockSlow) (ds:=[]) (cs:=cs) (z:=some (.v 20)) (ag3 L) n i kb H.Vj (IC L) (IE L) (IG L) (II L) (IJ L) tv (fun u x=>by cases x;exact Vz.symm)
 refine⟨.r2 (decide (IntKind.i64.wrap (tv-wst)>1000000)),m,q,l,w.later,#[],.t2,j w c,r,Eo,by simp,fun e=>(by cases e),?_⟩;show af P false I X0 _ 1 l;exact(agX L _ _ _ _ _ _ (decide (IntKind.i64.wrap (tv-wst)>1000000))).walk s iP kb t fun y k=>.stop ⟨rfl,wst,it,o,a,k⟩
theorem aep{E:Nat->Goroutine->Prop}{k:Bool}(h:Qr L Mu cs (.r2 k) d g):C9 P I tM Mu B (Nx (RL P L I Mu cs) E) (.r2 k) d g:=by
 obtain⟨rfl,wst,it,o,R,A,T,U,rfl⟩:=h
 refine⟨rfl,rfl,rfl,fun e=>(by cases e),fun w m q hw x V=>.inr ?_⟩;obtain⟨a,W,X,Y,D,F⟩:=V
 have i:Small m:=⟨a,by omega⟩
 have J:Agree (nu Mu wst it 0 m 0) (VB L k).env A:=pX r4 (aej L k) Es U
 have r:=jD H (Mu:=Mu) (wst:=wst) (it:=it) (tv:=0) (nw:=0) i.1 i.2;obtain⟨y,C,j⟩:=Af (P:=P) (m:=false) (b:=base L.mu.lockSlow) (ds:=[]) (cs:=cs) (z:=some (.v 4)) H.lib.runUnderlying_t21 H.lib.sizeOf_t21 H.lib.isAgg_t21 (ag4 L k) T J kb (IK H) (ad:=mA Mu) jE (v:=(m.num:Int)) (fun u Z=>by cases Z;exact sG.symm)
 have hS:=a.S
 by_cases h0:m.S=0
 ·refine⟨hd ⟨m,true,k,0⟩,m,q,y,w,#[],.r2n h0,j w x.state,x,kH,by simp,fun e=>(by cases e),ag7 (Kr _) ?_⟩;show af P false I X0 _ 1 y;rw[eY rfl rfl (vH h0)]at r;refine(adZ L _ _ _ _ _ _ k).walk (Ai:=nu Mu wst ((0:Nat):Int) 0 m 0) r (fun p O=>?_) kb C fun s c=>OJ H a (by omega) (fun _=>⟨D h0,h0⟩) (fun _=>rfl) c
  simp only[List.mem_cons,List.not_mem_nil,or_false]at O;rcases O with rfl|rfl|rfl|rfl
  ·exact jq.trans jq.symm
  ·exact zQ.trans zQ.symm
  ·exact sG.trans sG.symm
  ·exact F6.symm
 ·have M:m.S=1:=by omega
  obtain⟨hL,hW,hn⟩:=F M
  refine⟨.a1 k (!k||decide (m.n=1)),m,q,y,w,#[],.r2s M,j w x.state,x,kH,by simp,fun e=>(by cases e),?_⟩;show af P false I X0 _ 1 y;have N:(m.n==0)=false:=by simp;omega
  obtain⟨k1,k2,k3⟩:=ad1 L (m.n==1) (wst==0) (decide (IntKind.i64.wrap (0-wst)>1000000))
  rw[eY (vH hL) (vH hW) (Dp M),N]at r;cases k with
  |false=>exact k1.walk r iP kb C fun s c=>.stop ⟨rfl,wst,it,m,i,c⟩
  |true=>
   by_cases l:m.n=1
   ·rw[show(m.n==1)=true from by simpa using l]at r;refine k2.walk (Ai:=nu Mu wst it 0 m 0) r iP kb C fun s c=>.stop ⟨rfl,wst,it,m,i,?_⟩;rw[show(!true||decide (m.n=1))=true from by simp[l]];exact c
   ·rw[show(m.n==1)=false from by simpa using l]at r;refine k3.walk (Ai:=nu Mu wst it 0 m 0) r iP kb C fun s c=>.stop ⟨rfl,wst,it,m,i,?_⟩;rw[show(!true||decide (m.n=1))=false from by simp[l]];exact c
theorem aeq(r:∀wst it o g,Bh L cs (nu Mu wst it 0 o 0) (Uy L) g->af P false I X0 Q 1 g){n i:Bool}(h:Qr L Mu cs (.a1 n i) d g):C9 P I tM Mu B (Nx (RL P L I Mu cs) (af P false I X0 Q)) (.a1 n i) d g:=by
 obtain⟨rfl,wst,it,o,c,A,s,t,rfl⟩:=h
 refine⟨rfl,rfl,rfl,fun e=>(by cases e),fun w m q U j u=>.inr ?_⟩;obtain⟨a,x,C,D,E,F,J,M⟩:=u
 have N:=jD H (Mu:=Mu) (wst:=wst) (it:=it) (tv:=0) (nw:=0) c.1 c.2;obtain⟨p,O,k⟩:=Vu (P:=P) (m:=false) (b:=base L.mu.lockSlow) (ds:=[]) (cs:=cs) (z:=none) (v:=(m.num:Int)) (ag6 L (if i then-11 else-7)) s t kb H.lib.f_add32 (Ov L) (Ox L) (Oy L) (Oz L) (ad:=mA Mu) jE Qu (fun y R=>by cases R)
 refine⟨.own,_,q,p,_,_,.a1,k w j.state (j.thaw 0),j.setState (aeg a (by omega) F J E M i),uP _,Dl,fun e=>(by cases e),?_⟩;rw[Dn];show af P false I X0 Q 1 p;exact(agY L _ _).walk N iP kb O fun T l=>r _ _ _ _ l
theorem aer(b:∀wst it o g,Bh L cs (nu Mu wst it 0 o 0) (Uy L) g->af P false I X0 Q 1 g){y:Lk}(h:Qr L Mu cs y d g):C9 P I tM Mu B (Nx (RL P L I Mu cs) (af P false I X0 Q)) y d g:=by
 cases y with
 |rd c a it=>exact aee H f h
 |sq T=>exact aef H f h
 |c1 T=>exact aek H f h
 |c2 T=>exact ael H f b h
 |t1 a=>exact aem H f h
 |s1 a=>exact aen H f h
 |t2=>exact aeo H f h
 |r2 a=>exact aep H f h
 |a1 a q=>exact aeq H f b h
 |_=>exact h.2.elim
theorem aak(i:∀wst it o g,Bh L cs (nu Mu wst it 0 o 0) (Uy L) g->af P false I X0 Q 1 g){A:Array Value}(j:A.size=139)(h0:A[0]?=some (.pointer (some ⟨Mu,0,none⟩))):gX P I tM Mu B (af P false I X0 Q) (.rd false false 0) 1 (G ((base L.mu.lockSlow).at ⟨A,[]⟩ [.code (Bz L)]) cs):=by
 refine⟨RL P L I Mu cs,fun y d g l=>l.mono fun d g k=>aer H f i k,?_⟩;have m:Agree (nu Mu 0 0 0 ⟨0,0,0,0⟩ 0) (enS L).env A:=by
  intro k x b;unfold enS fresh Go.Sy.get at b;split at b
  ·rename_i e;cases b;have:0=k:=by simpa using e
   subst this;rw[h0];exact congrArg some (jq.symm:_=(E.v 0).den (nu Mu 0 0 0 ⟨0,0,0,0⟩ 0))
  ·cases b
 have h:Small ⟨0,0,0,0⟩:=⟨⟨Nat.zero_le _,Nat.zero_le _,Nat.zero_le _⟩,by decide⟩
 have n:=jD H (Mu:=Mu) (wst:=0) (it:=0) (tv:=0) (nw:=0) h.1 h.2;exact(agK L _ _ _ _ _ _ _).walk (Ai:=nu Mu 0 ((0:Nat):Int) 0 ⟨0,0,0,0⟩ 0) n ag9 kb ⟨A,j,m,rfl⟩ fun q c=>.stop ⟨rfl,0,⟨0,0,0,0⟩,.a,c⟩
end
end Go.Mx
namespace Go.Mx
open Go.Ren Go.Sy
open Go.Conc hiding Goes
open Go.Conc.Locks
open Go.ConcR (stA smA)
def VG(L:ah):Code:=(iK L).body.getD .skip
def uEn(L:ah):S:=fresh [(0,some (.v 0)),(1,some (.v 4))] [.code (VG L)]
def TU:Tab:=nZ false false false false false
def ucR(L:ah):S:=run 43 TU 54 (uEn L)
def u1R(L:ah):S:=run 43 TU 7 (next (ucR L) (some (.b true)))
def uxR(L:ah):S:=run 43 TU 7 (next (ucR L) (some (.b false)))
def u2R(L:ah):S:=run 43 (nZ false false true false false) 21 (uEn L)
def ajI(L:ah):S:=run 43 (nZ false true false false false) 60 (uEn L)
def ucS(L:ah):S:=fresh [(0,some (.v 0)),(27,some (.v 1)),(28,some (.v 4)),(29,some (.v 42))] (ucR L).todo
def VH(L:ah):S:=fresh [(0,some (.v 0)),(37,some (.v 1))] (uxR L).todo
def u1S(L:ah):S:=fresh [(33,some (.v 2))] (u1R L).todo
def u2S(L:ah):S:=fresh [(41,some (.v 2))] (u2R L).todo
def IM(L:ah):S:=fresh [] (ajI L).todo
def acf(L:ah):S:=fresh [] (run 43 TU 1 (next (u1R L) none)).todo
def aha:S:=fresh [] []
def r5:List (E×E):=[(.v 0,.v 0),(.v 1,.v 1),(.v 2,.v 2),(.v 4,.v 4),(.v 42,.v 42)]
section
variable(L:ah)
def Et(t:List Item):Bool:=match t with
 | []=>true
 | .code .ret::_=>true
 |_=>false
theorem VI:Et (IM L).todo=true:=by kernel_rfl
theorem ahb:Et (acf L).todo=true:=by kernel_rfl
section
variable(w s n0 n1:Bool)
theorem ajJ:To L.mu.tIMutex 43 (nZ false true false n0 n1) 60 0 (uEn L) (IM L) r5:=by cases n0<;>exact⟨by kernel_rfl,by kernel_rfl,by kernel_rfl⟩
theorem ajK:To L.mu.tIMutex 43 (nZ false w false true n1) 60 0 (uEn L) (IM L) r5:=by cases w<;>exact⟨by kernel_rfl,by kernel_rfl,by kernel_rfl⟩
theorem ajL:To L.mu.tIMutex 43 (nZ false false false false n1) 60 1 (uEn L) (ucS L) r5:=⟨by kernel_rfl,by kernel_rfl,by kernel_rfl⟩
theorem ajM:To L.mu.tIMutex 43 (nZ false w true n0 n1) 60 1 (uEn L) (u2S L) r5:=⟨by kernel_rfl,by kernel_rfl,by kernel_rfl⟩
theorem ajN(l:Bool):To L.mu.tIMutex 43 (nZ l w s n0 n1) 7 1 (next (ucS L) (some (.b true))) (u1S L) r5:=⟨by kernel_rfl,by kernel_rfl,by kernel_rfl⟩
theorem ajO(l:Bool):To L.mu.tIMutex 43 (nZ l w s n0 n1) 7 1 (next (ucS L) (some (.b false))) (VH L) r5:=⟨by kernel_rfl,by kernel_rfl,by kernel_rfl⟩
theorem ajP(l:Bool):To L.mu.tIMutex 43 (nZ l w s true n1) 60 0 (next (VH L) (some (.v 4))) (IM L) r5:=by cases l<;>cases w<;>cases s<;>exact⟨by kernel_rfl,by kernel_rfl,by kernel_rfl⟩
theorem ajQ:To L.mu.tIMutex 43 (nZ true w s false n1) 60 0 (next (VH L) (some (.v 4))) (IM L) r5:=by cases w<;>cases s<;>exact⟨by kernel_rfl,by kernel_rfl,by kernel_rfl⟩
theorem ajR(l:Bool):To L.mu.tIMutex 43 (nZ l true s false n1) 60 0 (next (VH L) (some (.v 4))) (IM L) r5:=by cases l<;>cases s<;>exact⟨by kernel_rfl,by kernel_rfl,by kernel_rfl⟩
theorem ajS(l:Bool):To L.mu.tIMutex 43 (nZ l w true false n1) 60 0 (next (VH L) (some (.v 4))) (IM L) r5:=by cases l<;>cases w<;>exact⟨by kernel_rfl,by kernel_rfl,by kernel_rfl⟩
theorem ajT:To L.mu.tIMutex 43 (nZ false false false false n1) 60 1 (next (VH L) (some (.v 4))) (ucS L) r5:=⟨by kernel_rfl,by kernel_rfl,by kernel_rfl⟩
theorem ajU(l:Bool):To L.mu.tIMutex 43 (nZ l w s n0 n1) 1 0 (next (u1S L) none) (acf L) r5:=⟨by kernel_rfl,by kernel_rfl,by kernel_rfl⟩
theorem ajV(l:Bool):To L.mu.tIMutex 43 (nZ l w s n0 n1) 1 0 (next (u2S L) none) aha r5:=⟨by kernel_rfl,by kernel_rfl,by kernel_rfl⟩
end
theorem acg:aV 43 (ucS L)=some (L.mu.cas32,[some (.v 1),some (.v 4),some (.v 42)]):=by kernel_rfl
theorem ahc:loadAt 43 (VH L)=some (21,some (.v 1)):=by kernel_rfl
theorem ach:aV 43 (u1S L)=some (L.semrel,[some (.v 2),some (.b false),some (.i .i64 2)]):=by kernel_rfl
theorem aci:aV 43 (u2S L)=some (L.semrel,[some (.v 2),some (.b true),some (.i .i64 2)]):=by kernel_rfl
theorem Qv:(some (iK L)).any (·.norace)=true:=by kernel_rfl
end
end Go.Mx
namespace Go.Mx
open Go.Ren Go.Sy
open Go.Conc hiding Goes
open Go.Conc.Locks
open Go.ConcR (stA smA)
def BhU(L:ah)(cs:List Frame)(a:Nat->Value)(s:S)(g:Goroutine):Prop:=Behind a 43 (base L.mu.unlockSlow) [] cs s g
def AtU(L:ah)(Mu:Nat)(cs:List Frame)(y:Lk)(d:Nat)(g:Goroutine):Prop:=d=1/\match y with
 | .uc o=>Small o/\BhU L cs (nu Mu 0 0 0 o 0) (ucS L) g
 | .ux=>∃o,Small o/\BhU L cs (nu Mu 0 0 0 o 0) (VH L) g
 | .us=>∃o,Small o/\(BhU L cs (nu Mu 0 0 0 o 0) (u1S L) g∨BhU L cs (nu Mu 0 0 0 o 0) (u2S L) g)
 |_=>False
section
variable{P:Program}{L:ah}{I:World->Prop}{tM:TypeId}{Mu B:Nat}{cs:List Frame}{d:Nat}{g:Goroutine}{j r x:Int}{o:Wd}{nw:Int}{Q:Nat->Goroutine->Prop}
def RU(P:Program)(L:ah)(I:World->Prop)(Mu:Nat)(cs:List Frame)(y:Lk)(d:Nat)(g:Goroutine):Prop:=af P false I X0 (AtU L Mu cs y) d g
theorem kU:(base L.mu.unlockSlow).kind≠.early:=by simp[base]
theorem oM{a b:Int}:∀p∈r5,p.1.den (nu Mu j r x o nw)=p.2.den (nu Mu j r a o b):=by
 intro p c;simp only[r5,List.mem_cons,List.not_mem_nil,or_false]at c;rcases c with rfl|rfl|rfl|rfl|rfl
 ·exact jq.trans jq.symm
 ·exact jE.trans jE.symm
 ·exact yh.trans yh.symm
 ·exact sG.trans sG.symm
 ·exact Ot.trans Ot.symm
theorem aet(L:ah):(Go.Sy.sub (VH L).env (VH L).env).all (lg r4)=true:=by kernel_rfl
theorem VJ(H:dX P L):(P.funcs[(base L.mu.unlockSlow).fn]?).any (·.norace)=true:=by
 show(P.funcs[L.mu.unlockSlow]?).any (·.norace)=true
 rw[H.pU];exact Qv L
theorem lX{l w s n0 n1:Bool}(a:fl o.L=l)(b:fl o.W=w)(c:fl o.S=s)(h0:(o.n==0)=n0):nZ (fl o.L) (fl o.W) (fl o.S) (o.n==0) (o.n==1)=nZ l w s n0 (o.n==1):=by rw[a,b,c,h0]
theorem aeu(b:o.Bits)(f:o.n<63)(h:o.L=0/\o.W=0/\o.S=0/\0<o.n):ug (IntKind.i32.wrap ((o.num:Int)-8)) 2=((⟨0,1,0,o.n-1⟩:Wd).num:Nat):=by
 have c:=gz (m:=⟨0,1,0,o.n-1⟩) ⟨Nat.zero_le _,Nat.le_refl _,Nat.zero_le _⟩
 have a:=gz b
 rw[h.1,h.2.1,h.2.2.1]at a;obtain⟨k,e⟩:∃k,o.n=k+1:=⟨o.n-1,by omega⟩
 rw[a,c,e];exact ajE k (by omega)
theorem OL{l:Nat}{s:S}{f:FuncId}{xs:List (Option E)}{A:Array Value}{b:Frame}{h:Func}(v:b.mode=.run)(m:aV l s=some (f,xs))(n:P.funcs[f]?=some h)(p:h.body.isNone=true):mayWake P (G (b.at ⟨A,[]⟩ s.todo) cs)=true:=by
 obtain⟨o,args,q,a,c,w⟩:=oI m
 unfold opAt at a;split at a
 ·rename_i t i rest k u;rw[u];split at a
  ·rename_i y e;split at a
   ·split at a
    ·cases a;exact Go.ConcR.Gen.mayWake_entry e c n p
    ·cases a
   ·cases a
  ·cases a
 ·cases a
def AtR(L:ah)(cs:List Frame)(d:Nat)(g:Goroutine):Prop:=d=1/\∃(A:Array Value) (t:List Item),Et t=true/\g=G ((base L.mu.unlockSlow).at ⟨A,[]⟩ t) cs
variable(H:dX P L)(c:B<63)(a:∀g,AtR L cs 1 g->af P false I X0 Q 1 g)
include H c a
theorem aev{o:Wd}(h:AtU L Mu cs (.uc o) d g):C9 P I tM Mu B (Nx (RU P L I Mu cs) (af P false I X0 Q)) (.uc o) d g:=by
 obtain⟨rfl,f,A,C,D,rfl⟩:=h
 refine⟨rfl,rfl,rfl,fun e=>(by cases e),fun w m q W s M=>.inr ?_⟩;obtain⟨i,N,O,⟨R,E,T,F,t,X⟩,_⟩:=M
 have J:=wV H (Mu:=Mu) (nw:=0) f.1 f.2;by_cases k:m=o
 ·subst k;obtain⟨u,v,l⟩:=Ae (P:=P) (m:=false) (b:=base L.mu.unlockSlow) (ds:=[]) (cs:=cs) (acg L) C D kU H.lib.f_cas32 (nP L) (nR L) (nS L) (nT L) (ad:=mA Mu) jE sG Ot
  refine⟨.us,⟨m.L,1,m.S,m.n-1⟩,q,u,_,_,.ucy rfl,l w s.state (s.thaw 0),s.setState ?_,uP _,Dl,fun e=>(by cases e),?_⟩
  ·rw[aeu f.1 f.2 ⟨E,T,F,t⟩,E,F]
  ·rw[Dn];exact(ajN L _ _ _ _ _).walk (Ai:=nu Mu 0 0 0 m 0) J oM kU v fun z p=>.stop ⟨rfl,m,f,.inl p⟩
 ·obtain⟨u,v,l⟩:=wS (P:=P) (m:=false) (b:=base L.mu.unlockSlow) (ds:=[]) (cs:=cs) (acg L) C D kU H.lib.f_cas32 (nP L) (nR L) (nS L) (nT L) (ad:=mA Mu) jE sG Ot
  refine⟨.ux,m,q,u,_,_,.ucn k,l w _ s.state (s.thaw 0) (Ky i R k),s,kH,aah,fun e=>(by cases e),?_⟩;rw[aai];exact(ajO L _ _ _ _ _).walk (Ai:=nu Mu 0 0 0 o 0) J oM kU v fun z p=>.stop ⟨rfl,o,f,p⟩
theorem F8{b:Nat->Value}(e:BhU L cs b (IM L) g):af P false I X0 Q 1 g:=by
 obtain⟨A,f,h,rfl⟩:=e
 exact a _ ⟨rfl,A,_,VI L,rfl⟩
theorem aew(h:AtU L Mu cs .ux d g):C9 P I tM Mu B (Nx (RU P L I Mu cs) (af P false I X0 Q)) .ux d g:=by
 obtain⟨rfl,o,R,A,T,U,rfl⟩:=h
 refine⟨rfl,rfl,rfl,fun e=>(by cases e),fun w m q hw D V=>.inr ?_⟩;obtain⟨f,X,Y,Z,_⟩:=V
 have t:Small m:=⟨f,by omega⟩
 have J:Agree (nu Mu 0 0 0 m 0) (VH L).env A:=pX r4 (aet L) Es U
 have l:=wV H (Mu:=Mu) (nw:=0) t.1 t.2;obtain⟨E,C,k⟩:=Af (P:=P) (m:=false) (b:=base L.mu.unlockSlow) (ds:=[]) (cs:=cs) (z:=some (.v 4)) H.lib.runUnderlying_t21 H.lib.sizeOf_t21 H.lib.isAgg_t21 (ahc L) T J kU (VJ H) (ad:=mA Mu) jE (v:=(m.num:Int)) (fun u hu=>by cases hu;exact sG.symm)
 have hL:=f.L
 have hW:=f.W
 have hS:=f.S
 by_cases y:m.L=0/\m.W=0/\m.S=0/\0<m.n
 ·refine⟨.uc m,m,q,E,w,#[],.uxc y,k w D.state,D,kH,by simp,fun e=>(by cases e),?_⟩;show af P false I X0 _ 1 E;rw[lX (n1:=false) (vH y.1) (vH y.2.1) (vH y.2.2.1) (show(m.n==0)=false from by simp;omega)]at l;exact(ajT L _).walk (Ai:=nu Mu 0 0 0 m 0) l oM kU C fun s i=>.stop ⟨rfl,t,i⟩
 ·refine⟨.done,m,q,E,w,#[],.uxd y,k w D.state,D,kH,by simp,fun e=>(by cases e),?_⟩;show af P false I X0 Q 1 E;by_cases O:m.n=0
  ·rw[lX (n1:=false) rfl rfl rfl (show(m.n==0)=true from by simpa using O)]at l;exact(ajP L _ _ _ _).walk (Ai:=nu Mu 0 0 0 m 0) l oM kU C fun s i=>F8 H c a i
  ·have h0:(m.n==0)=false:=by simpa using O
   by_cases hl:m.L=1
   ·rw[lX (n1:=false) (Dp hl) rfl rfl h0]at l;exact(ajQ L _ _ _).walk (Ai:=nu Mu 0 0 0 m 0) l oM kU C fun s i=>F8 H c a i
   ·by_cases M:m.W=1
    ·rw[lX (n1:=false) rfl (Dp M) rfl h0]at l;exact(ajR L _ _ _).walk (Ai:=nu Mu 0 0 0 m 0) l oM kU C fun s i=>F8 H c a i
    ·have N:m.S=1:=by apply Classical.byContradiction;intro a0;exact y ⟨by omega,by omega,by omega,by omega⟩
     rw[lX (n1:=false) rfl rfl (Dp N) h0]at l;exact(ajS L _ _ _).walk (Ai:=nu Mu 0 0 0 m 0) l oM kU C fun s i=>F8 H c a i
theorem aex(h:AtU L Mu cs .us d g):C9 P I tM Mu B (Nx (RU P L I Mu cs) (af P false I X0 Q)) .us d g:=by
 obtain⟨rfl,o,n,h⟩:=h
 have D:=wV H (Mu:=Mu) (nw:=0) n.1 n.2;have wr:∀q:Nat,q<=1->IntKind.u32.wrap ((q:Int)+1)=((q+1:Nat):Int):=fun q M=>by
  have:q=0∨q=1:=by omega
  rcases this with rfl|rfl<;>decide+kernel
 rcases h with⟨A,s,t,rfl⟩|⟨A,s,t,rfl⟩
 ·obtain⟨f,p,i⟩:=En (P:=P) (m:=false) (b:=base L.mu.unlockSlow) (ds:=[]) (cs:=cs) (z:=none) rfl (ach L) s t kU H.wR (OE L) (Aj L) (OG L) (OH L) (ad:=sA Mu) yh
  have e:f.status=.running:=by obtain⟨_,_,_,rfl⟩:=p;rfl
  refine⟨rfl,rfl,rfl,fun _=>OL rfl (ach L) H.wR (Aj L),fun w m q J k u=>.inr ⟨.done,m,q+1,f,_,_,.us,i w _ k.sema (k.thaw 1),k.F7 (wr q u.2.2.1),VF _,ad6,fun _=>e,?_⟩⟩;rw[ad7];show af P false I X0 Q 1 f;exact(ajU L _ _ _ _ _).walk (Ai:=nu Mu 0 0 0 o 0) D oM kU p fun y l=>by
   obtain⟨C,_,_,rfl⟩:=l
   exact a _ ⟨rfl,C,_,ahb L,rfl⟩
 ·obtain⟨f,p,i⟩:=En (P:=P) (m:=false) (b:=base L.mu.unlockSlow) (ds:=[]) (cs:=cs) (z:=none) rfl (aci L) s t kU H.wR (OE L) (Aj L) (OG L) (OH L) (ad:=sA Mu) yh
  have e:f.status=.running:=by obtain⟨_,_,_,rfl⟩:=p;rfl
  refine⟨rfl,rfl,rfl,fun _=>OL rfl (aci L) H.wR (Aj L),fun w m q J k u=>.inr ⟨.done,m,q+1,f,_,_,.us,i w _ k.sema (k.thaw 1),k.F7 (wr q u.2.2.1),VF _,ad6,fun _=>e,?_⟩⟩;rw[ad7];show af P false I X0 Q 1 f;exact(ajV L _ _ _ _ _).walk (Ai:=nu Mu 0 0 0 o 0) D oM kU p fun y l=>by
   obtain⟨C,_,_,rfl⟩:=l
   exact a _ ⟨rfl,C,_,rfl,rfl⟩
theorem aam{y:Lk}(h:AtU L Mu cs y d g):C9 P I tM Mu B (Nx (RU P L I Mu cs) (af P false I X0 Q)) y d g:=by
 cases y with
 |uc o=>exact aev H c a h
 |ux=>exact aew H c a h
 |us=>exact aex H c a h
 |_=>exact h.2.elim
end
end Go.Mx
namespace Go.Sy
open Go.Ren
open Go.Conc hiding Goes
def vI(c:Nat)(s:S):Option (TypeId×TypeId×Option E):=match opAt c s with
 |some o=>match o.op with
  | .convert a b x=>some (a,b,zO s.env x)
  |_=>none
 |none=>none
theorem Qw{c:Nat}{s:S}{t u:TypeId}{x:Option E}(h:vI c s=some (t,u,x)):∃(o:Oper) (y:Operand),opAt c s=some o/\o.op=.convert t u y/\zO s.env y=x:=by
 unfold vI at h;split at h
 ·rename_i o d;split at h
  ·rename_i a b y e;cases h;exact⟨o,y,d,e,rfl⟩
  ·cases h
 ·cases h
theorem OM{P:Program}{g:Nat->Value}{A:Array Value}{j:Nat}{m:Bool}{b:Frame}{ds:List Deferred}{cs:List Frame}{s:S}{c d t:TypeId}{q:E}(C:vI j s=some (c,d,some q))(l:A.size=j)(h:Agree g s.env A)(D:b.kind≠.early)
  (p:P.underlying c=some (.pointer t)) (hd:P.underlying d=some .unsafePointer) (e:(P.info? t).map (fun i=>decide (i.size=0))=some false) {ad:Addr} (r:q.den g=.pointer (some ad)):
  ∃u,Behind g j b ds cs (next s (some q)) u/\∀(w:World) (v:Value),w.cell? ad=some v->stepG P m (G (b.at ⟨A,ds⟩ s.todo) cs) w=.go u w #[]:=by
 obtain⟨o,y,F,f,H⟩:=Qw C
 obtain⟨n,i,rest,k,J,L,M,N,O⟩:=uf (ds:=ds) F l h
 obtain⟨Q,R,T⟩:=O (some q) (.pointer (some ad)) (fun z l=>by cases l;exact r.symm)
 have x:=(eH (ds:=ds) h H).trans r;refine⟨G (b.at (Act.put ⟨A,ds⟩ o.dst (.pointer (some ad))) (.inRegion n rest::k)) cs,⟨_,Q,T,by rw[N,←R]⟩,fun w v a=>?_⟩;rw[J];have B:=run_convert_to_unsafe (P:=P) p hd e a
 have U:=fun V=>events_convert_to_unsafe (P:=P) p hd e a V
 have W:(execOp (Act.eval ⟨A,ds⟩) o).run P w=.ok (.value (.pointer (some ad))) w:=by
  unfold execOp;simp only[f,x]
  simp[go_sem,B]
 have X:(execOp (Act.eval ⟨A,ds⟩) o).events P w #[]=#[]:=by
  unfold execOp;simp only[f,x]
  simp[go_sem,B,U]
 rw[stepG_value L M D W];unfold listed;rw[X,seen_none]
end Go.Sy
namespace Go.Mx
open Go.Ren Go.Sy
open Go.Conc hiding Goes
open Go.Conc.Locks
open Go.ConcR (stA smA)
section
variable{P:Program}{L:ah}{I:World->Prop}{tM:TypeId}{Mu B:Nat}{cs:List Frame}{d:Nat}{g:Goroutine}{wst it tv:Int}{o:Wd}{nw:Int}{T:Goroutine->Prop}
theorem VK(L:ah):((enableFn L.mu).name== "runtime.NumGoroutine")=false:=by kernel_rfl
theorem VL(L:ah):(enableFn L.mu).body.isNone=true:=by kernel_rfl
theorem VM(L:ah):Extern.findNext (enableFn L.mu)=none:=by kernel_rfl
theorem VN(L:ah):Extern.find (enableFn L.mu)=some (fun _=>do mark .enable;pure Extern.Race.none_):=by kernel_rfl
theorem OQ(L:ah):((disableFn L.mu).name== "runtime.NumGoroutine")=false:=by kernel_rfl
theorem OT(L:ah):(disableFn L.mu).body.isNone=true:=by kernel_rfl
theorem OU(L:ah):Extern.findNext (disableFn L.mu)=none:=by kernel_rfl
theorem OV(L:ah):Extern.find (disableFn L.mu)=some (fun _=>do mark .disable;pure Extern.Race.none_):=by kernel_rfl
theorem aey(L:ah):((acquireFn L.mu).name== "runtime.NumGoroutine")=false:=by kernel_rfl
theorem aez(L:ah):(acquireFn L.mu).body.isNone=true:=by kernel_rfl
theorem aeA(L:ah):Extern.findNext (acquireFn L.mu)=none:=by kernel_rfl
theorem aeB(L:ah):Extern.find (acquireFn L.mu)=some (Extern.Race.marked .acquire):=by kernel_rfl
theorem aeC(L:ah):((relMergeFn L.mu).name== "runtime.NumGoroutine")=false:=by kernel_rfl
theorem aeD(L:ah):(relMergeFn L.mu).body.isNone=true:=by kernel_rfl
theorem aeE(L:ah):Extern.findNext (relMergeFn L.mu)=none:=by kernel_rfl
theorem aeF(L:ah):Extern.find (relMergeFn L.mu)=some (Extern.Race.marked .releaseMerge):=by kernel_rfl
def aeG(I:World->Prop)(Mu:Nat):Prop:=∀w,I w->∃v,w.cell? (mA Mu)=some v
theorem OW(H:dX P L)(u:aeG I Mu){a x y:Nat}{b:Frame}{sE sC sQ:S}{T0:Tab}{c:Nat->Value}{i:List (E×E)}(e:b.kind≠.early)(f:c 0=.pointer (some (mA Mu)))(r:bF P L.mu.tIMutex c T0)(h:∀p∈i,p.1.den c=p.2.den c)
  (C:aV a sE=some (L.mu.enable,[])) (D:To L.mu.tIMutex a T0 x 0 (next sE none) sC i) (F:vI a sC=some (L.mu.tPIMutex,L.mu.tUP,some (.v 0))) (J:To L.mu.tIMutex a T0 y 0 (next sC (some (.v 0))) sQ i) (M:aV a sQ=some (L.mu.acquire,[some (.v 0)]))
  (k:∀g,Behind c a b [] cs (next sQ none) g->T g) (N:Behind c a b [] cs sE g):
  Says P false I #[Go.ConcR.mk .enable] (af P false I X0 (fun d g=>d=0/\Says P false I #[Go.ConcR.mk (.acquire (stA Mu))] T g) 0) g:=by
 obtain⟨A,O,Q,rfl⟩:=N
 obtain⟨R,U,V⟩:=wU (P:=P) (m:=false) (b:=b) (ds:=[]) (cs:=cs) .enable (by simp) (z:=none) rfl C O Q e H.lib.f_enable (VK L) (VL L) (VM L) (VN L);refine⟨rfl,R,fun w _=>V w,?_⟩;refine D.walk r h e U fun g2 W=>?_
 obtain⟨A2,j,l,rfl⟩:=W
 obtain⟨t,X,Y⟩:=OM (P:=P) (m:=false) (b:=b) (ds:=[]) (cs:=cs) F j l e H.lib.underlying_tPIMutex H.lib.underlying_tUP H.lib.room_tIMutex (ad:=mA Mu) f
 refine .step rfl (fun _=>t) (fun _=>#[]) (fun w hw=>⟨?_,by simp⟩) fun w _=>?_
 ·obtain⟨v,hv⟩:=u w hw
  exact Y w v hv
 ·show af P false I X0 _ 0 t;refine J.walk r h e X fun g4 b4=>.stop ⟨rfl,?_⟩;obtain⟨A4,n,q,rfl⟩:=b4
  obtain⟨g5,b5,s5⟩:=Em (P:=P) (m:=false) (b:=b) (ds:=[]) (cs:=cs) .acquire (by simp) (z:=none) rfl M n q e H.lib.f_acquire (aey L) (aez L) (aeA L) (aeB L) (ad:=mA Mu) f;exact⟨rfl,g5,fun w _=>s5 w,k _ b5⟩
def cvS(L:ah):S:=fresh [(0,some (.v 0)),(136,some (.v 0))] (run 139 T0 5 (next (Uy L) none)).todo
def aqS(L:ah):S:=fresh [(137,some (.v 0))] (run 139 T0 0 (next (cvS L) (some (.v 0)))).todo
def rq:List (E×E):=[(.v 0,.v 0)]
theorem ahd(l w s n0 b z a:Bool):To L.mu.tIMutex 139 (tab l w s n0 b z a) 5 0 (next (Uy L) none) (cvS L) rq:=⟨by kernel_rfl,by kernel_rfl,by kernel_rfl⟩
theorem ahe(l w s n0 b z a:Bool):To L.mu.tIMutex 139 (tab l w s n0 b z a) 0 0 (next (cvS L) (some (.v 0))) (aqS L) rq:=⟨by kernel_rfl,by kernel_rfl,by kernel_rfl⟩
theorem ahf:vI 139 (cvS L)=some (L.mu.tPIMutex,L.mu.tUP,some (.v 0)):=by kernel_rfl
theorem ahg:aV 139 (aqS L)=some (L.mu.acquire,[some (.v 0)]):=by kernel_rfl
theorem ahh:∀p∈rq,p.1.den (nu Mu wst it tv o nw)=p.2.den (nu Mu wst it tv o nw):=by
 intro p a;simp only[rq,List.mem_cons,List.not_mem_nil,or_false]at a;subst a;rfl
end
end Go.Mx
namespace Go.Sy
open Go.Ren
open Go.Conc hiding Goes
def Eu:Nat->List (Option E)->Env
 |_,[]=>[]
 |j,x::xs=>(j,x)::Eu (j+1) xs
theorem Ew:∀(xs:List (Option E)) (j k:Nat) (x:E),get (Eu j xs) k=some x->j<=k/\xs[k-j]?=some (some x)
 | [],j,k,x,h=>by cases h
 |y::xs,j,k,x,h=>by
  unfold Eu get at h;split at h
  ·rename_i e;have:j=k:=by simpa using e
   subst this;subst h;exact⟨Nat.le_refl _,by simp⟩
  ·rename_i e;have a:j≠k:=by simpa using e
   obtain⟨d,b⟩:=Ew xs (j+1) k x h
   refine⟨by omega,?_⟩;obtain⟨i,c⟩:∃i,k-j=i+1:=⟨k-j-1,by omega⟩
   rw[c,List.getElem?_cons_succ];have:i=k-(j+1):=by omega
   rw[this];exact b
section
variable{P:Program}{l:Nat->Value}{e:Nat}{m:Bool}{b:Frame}{ds:List Deferred}{cs:List Frame}{s:S}{I:World->Prop}{X:Event->Prop}{Q:Nat->Goroutine->Prop}{d:Nat}{A:Array Value}
theorem sH{f:FuncId}{xs:List (Option E)}{n:Func}{c:Code}(z:aV e s=some (f,xs))(B:A.size=e)(h:Agree l s.env A)(C:b.kind≠.early)(r:P.funcs[f]?=some n)(a:(n.name== "runtime.NumGoroutine")=false)(u:n.body=some c)(R:xs.length<=n.ntmps)
  (k:∀g,Behind l n.ntmps (base f) [] (b.at ⟨A,ds⟩ s.todo::cs) ⟨Eu 0 xs,[.code c],[]⟩ g->af P m I X Q d g):af P m I X Q d (G (b.at ⟨A,ds⟩ s.todo) cs):=by
 obtain⟨D,i,rest,T,o,args,F,H,J,L,v,M,N,U⟩:=gU z B h b ds cs
 have q:n.body.isNone=false:=by rw[u];rfl
 have p:∀w,stepG P m (G (b.at ⟨A,ds⟩ s.todo) cs) w=.go (G ((base f).at ⟨args.map (Act.eval ⟨A,ds⟩)++Array.replicate (n.ntmps-(args.map (Act.eval ⟨A,ds⟩)).size) undef,[]⟩ [.code c]) (b.at ⟨A,ds⟩ s.todo::cs)) w #[]:=by
  intro w;rw[H,stepG_enter J L C (run_call_body v r a q),enter_at _ r u];have:listed P b.fn ⟨A,ds⟩ o w=#[]:=by unfold listed;rw[events_call_body v r a q];exact seen_none P _
  rw[this]
 refine .step rfl (fun _=>_) (fun _=>#[]) (fun w _=>⟨p w,by simp⟩) fun w _=>?_
 refine k _ ⟨_,?_,fun j x O=>?_,rfl⟩
 ·simp[N];omega
 ·obtain⟨_,y⟩:=Ew xs 0 j x O
  rw[Nat.sub_zero]at y;have:=M j x y
  have t:j<(args.map (Act.eval ⟨A,ds⟩)).size:=(Array.getElem?_eq_some_iff.1 this).1;rw[Array.getElem?_append_left t];exact this
theorem Kz{f:FuncId}{xs:List (Option E)}{j:Func}{t:List Item}{c:Array Value}(p:aV e s=some (f,xs))(q:A.size=e)(h:Agree l s.env A)(r:P.funcs[f]?=some j)(n:j.results=#[])(u:t=[]∨∃k,t=.code .ret::k)
  (k:af P m I X Q d (G ((b.at ⟨A,ds⟩ s.todo).finish (.tuple #[])) cs)):af P m I X Q d (G ((base f).at ⟨c,[]⟩ t) (b.at ⟨A,ds⟩ s.todo::cs)):=by
 obtain⟨v,i,rest,C,o,args,x,y,D,F,H,J,L,M⟩:=gU p q h b ds cs
 have z:∀w,stepG P m (G ((base f).at ⟨c,[]⟩ t) (b.at ⟨A,ds⟩ s.todo::cs)) w=.go (G {(base f).at ⟨c,[]⟩ t with mode:=.returning} (b.at ⟨A,ds⟩ s.todo::cs)) w #[]:=by
  intro w;rcases u with rfl|⟨N,rfl⟩
  ·exact stepG_end
  ·exact stepG_ret'
 refine .step rfl (fun _=>_) (fun _=>#[]) (fun w _=>⟨z w,by simp⟩) fun w _=>?_
 have B:∀w,stepG P m (G {(base f).at ⟨c,[]⟩ t with mode:=.returning} (b.at ⟨A,ds⟩ s.todo::cs)) w=.go (G ((b.at ⟨A,ds⟩ s.todo).finish (.tuple #[])) cs) w #[]:=by intro w;rw[y,stepG_leave (b:=base f) (a:=⟨c,[]⟩) rfl rfl r (results_none n _ P w) (events_results_none n _ _)]
 exact .step rfl (fun _=>_) (fun _=>#[]) (fun w _=>⟨B w,by simp⟩) fun w _=>k
theorem sJ{f:FuncId}{xs:List (Option E)}{p:Func}{t:List Item}{c:Array Value}(r:aV e s=some (f,xs))(v:A.size=e)(h:Agree l s.env A)(x:P.funcs[f]?=some p)(q:p.results=#[])(y:t=[]∨∃k,t=.code .ret::k)
  (k:∀g,Behind l e b ds cs (next s none) g->af P m I X Q d g):af P m I X Q d (G ((base f).at ⟨c,[]⟩ t) (b.at ⟨A,ds⟩ s.todo::cs)):=by
 obtain⟨n,i,rest,z,o,args,B,C,D,M,N,O,R,F⟩:=gU r v h b ds cs
 have H:∀w,stepG P m (G ((base f).at ⟨c,[]⟩ t) (b.at ⟨A,ds⟩ s.todo::cs)) w=.go (G {(base f).at ⟨c,[]⟩ t with mode:=.returning} (b.at ⟨A,ds⟩ s.todo::cs)) w #[]:=by
  intro w;rcases y with rfl|⟨T,rfl⟩
  ·exact stepG_end
  ·exact stepG_ret'
 refine .step rfl (fun _=>_) (fun _=>#[]) (fun w _=>⟨H w,by simp⟩) fun w _=>?_
 have J:∀w,stepG P m (G {(base f).at ⟨c,[]⟩ t with mode:=.returning} (b.at ⟨A,ds⟩ s.todo::cs)) w=.go (G (b.at (Act.put ⟨A,ds⟩ o.dst (.tuple #[])) (.inRegion n rest::z)) cs) w #[]:=by intro w;rw[C,stepG_leave (b:=base f) (a:=⟨c,[]⟩) rfl rfl x (results_none q _ P w) (events_results_none q _ _),Frame.finish_at,D];rfl
 refine .step rfl (fun _=>_) (fun _=>#[]) (fun w _=>⟨J w,by simp⟩) fun w _=>?_
 exact k _ (F none (.tuple #[]) (fun u L=>by cases L))
end
end Go.Sy
namespace Go.Mx
open Go.Ren Go.Sy
open Go.Conc hiding Goes
open Go.Conc.Locks
open Go.ConcR (stA smA)
def VO(L:ah):Code:=(lockFn L.mu).body.getD .skip
def VP(L:ah):Code:=(ilockFn L.mu).body.getD .skip
def IP:Tab:=[(.nil (.v 0),.v 0),(.F5 (.v 0) 1,.v 1)]
def lkE(L:ah):S:=⟨Eu 0 [some (.v 0)],[.code (VO L)],[]⟩
def lkS(L:ah):S:=fresh [(4,some (.v 1))] (run 6 IP 200 (lkE L)).todo
def ilE(L:ah):S:=⟨Eu 0 [some (.v 1)],[.code (VP L)],[]⟩
def idS(L:ah):S:=fresh [(0,some (.v 0))] (run 13 T0 200 (ilE L)).todo
def icS(L:ah):S:=fresh [(0,some (.v 0)),(5,some (.v 1))] (run 13 T0 200 (next (idS L) none)).todo
def ieS(L:ah):S:=fresh [(0,some (.v 0))] (run 13 T0 200 (next (icS L) (some (.b true)))).todo
def ivS(L:ah):S:=fresh [(0,some (.v 0)),(8,some (.v 0))] (run 13 T0 200 (next (ieS L) none)).todo
def iaS(L:ah):S:=fresh [(9,some (.v 0))] (run 13 T0 200 (next (ivS L) (some (.v 0)))).todo
def irS(L:ah):S:=fresh [] (run 13 T0 200 (next (iaS L) none)).todo
def isS(L:ah):S:=fresh [(0,some (.v 0)),(11,some (.v 0))] (run 13 T0 200 (next (icS L) (some (.b false)))).todo
def Qx:S:=fresh [] []
def rp:List (E×E):=[(.v 0,.v 0),(.v 1,.v 1),(.v 1,.v 0)]
section
variable(L:ah)
theorem ajZ:To L.mu.tMutex 6 IP 200 1 (lkE L) (lkS L) rp:=⟨by kernel_rfl,by kernel_rfl,by kernel_rfl⟩
theorem aj0:To L.mu.tMutex 6 IP 200 0 (next (lkS L) none) Qx rp:=⟨by kernel_rfl,by kernel_rfl,by kernel_rfl⟩
theorem VQ:aV 6 (lkS L)=some (L.mu.ilock,[some (.v 1)]):=by kernel_rfl
section
variable(l w s n0 c z a:Bool)
theorem aj1:To L.mu.tIMutex 13 (tab l w s n0 c z a) 200 0 (ilE L) (idS L) rp:=⟨by kernel_rfl,by kernel_rfl,by kernel_rfl⟩
theorem aj2:To L.mu.tIMutex 13 (tab l w s n0 c z a) 200 1 (next (idS L) none) (icS L) rp:=⟨by kernel_rfl,by kernel_rfl,by kernel_rfl⟩
theorem aj3:To L.mu.tIMutex 13 (tab l w s n0 c z a) 200 0 (next (icS L) (some (.b true))) (ieS L) rp:=⟨by kernel_rfl,by kernel_rfl,by kernel_rfl⟩
theorem aj6:To L.mu.tIMutex 13 (tab l w s n0 c z a) 200 0 (next (ieS L) none) (ivS L) rp:=⟨by kernel_rfl,by kernel_rfl,by kernel_rfl⟩
theorem aj7:To L.mu.tIMutex 13 (tab l w s n0 c z a) 200 0 (next (ivS L) (some (.v 0))) (iaS L) rp:=⟨by kernel_rfl,by kernel_rfl,by kernel_rfl⟩
theorem ahi:To L.mu.tIMutex 13 (tab l w s n0 c z a) 200 0 (next (iaS L) none) (irS L) rp:=⟨by kernel_rfl,by kernel_rfl,by kernel_rfl⟩
theorem aj8:To L.mu.tIMutex 13 (tab l w s n0 c z a) 200 0 (next (icS L) (some (.b false))) (isS L) rp:=⟨by kernel_rfl,by kernel_rfl,by kernel_rfl⟩
theorem aj9:To L.mu.tIMutex 13 (tab l w s n0 c z a) 200 0 (next (isS L) none) Qx rp:=⟨by kernel_rfl,by kernel_rfl,by kernel_rfl⟩
theorem aka:To L.mu.tIMutex 139 (tab l w s n0 c z a) 200 0 (next (aqS L) none) Qx rp:=⟨by kernel_rfl,by kernel_rfl,by kernel_rfl⟩
end
theorem ahj:aV 13 (idS L)=some (L.mu.disable,[]):=by kernel_rfl
theorem ack:aV 13 (icS L)=some (L.mu.cas32,[some (.v 1),some (.i .i32 0),some (.i .i32 1)]):=by kernel_rfl
theorem ahk:aV 13 (ieS L)=some (L.mu.enable,[]):=by kernel_rfl
theorem ahl:vI 13 (ivS L)=some (L.mu.tPIMutex,L.mu.tUP,some (.v 0)):=by kernel_rfl
theorem ahm:aV 13 (iaS L)=some (L.mu.acquire,[some (.v 0)]):=by kernel_rfl
theorem acm:aV 13 (isS L)=some (L.mu.lockSlow,[some (.v 0)]):=by kernel_rfl
theorem ahn:Et (irS L).todo=true:=by kernel_rfl
end
end Go.Mx
namespace Go.Mx
open Go.Ren Go.Sy
open Go.Conc hiding Goes
open Go.Conc.Locks
open Go.ConcR (stA smA)
theorem IQ{t:List Item}(h:Et t=true):t=[]∨∃k,t=.code .ret::k:=by
 unfold Et at h;split at h
 ·exact .inl rfl
 ·exact .inr ⟨_,rfl⟩
 ·cases h
def o0:Wd:=⟨0,0,0,0⟩
def n0(Mu:Nat):Nat->Value:=nu Mu 0 0 0 o0 0
theorem sm0:Small o0:=⟨⟨Nat.zero_le _,Nat.zero_le _,Nat.zero_le _⟩,by decide⟩
section
variable{P:Program}{L:ah}{I:World->Prop}{tM:TypeId}{Mu B:Nat}{T:Goroutine->Prop}
def AcQ(P:Program)(I:World->Prop)(Mu:Nat)(T:Goroutine->Prop)(d:Nat)(g:Goroutine):Prop:=d=0/\Says P false I #[Go.ConcR.mk (.acquire (stA Mu))] T g
def EnQ(P:Program)(I:World->Prop)(Mu:Nat)(T:Goroutine->Prop)(d:Nat)(g:Goroutine):Prop:=d=1/\Says P false I #[Go.ConcR.mk .enable] (af P false I X0 (AcQ P I Mu T) 0) g
theorem gX.pre{E:Nat->Goroutine->Prop}{x:Lk}{d:Nat}{g:Goroutine}(h:af P false I X0 (fun d g=>gX P I tM Mu B E x d g) d g):gX P I tM Mu B E x d g:=gX.idle (h.bind fun d g k=>k.out)
theorem oN:∀p∈rp,p.1.den (n0 Mu)=p.2.den (n0 Mu):=by
 intro p a;simp only[rp,List.mem_cons,List.not_mem_nil,or_false]at a;rcases a with rfl|rfl|rfl
 ·rfl
 ·rfl
 ·exact jE.trans jq.symm
theorem OX(H:dX P L):bF P L.mu.tMutex (n0 Mu) IP:=by
 unfold bF IP;simp only[List.forall_mem_cons]
 refine⟨⟨rfl,_,jq⟩,?_,fun p c=>absurd c (List.not_mem_nil)⟩;show Go.Sy.Yields P (Instr.fieldAt L.mu.tMutex (n0 Mu 0) 1) (n0 Mu 1);rw[show n0 Mu 0=.pointer (some ⟨Mu,0,none⟩)from jq,show n0 Mu 1=.pointer (some ⟨Mu,0,none⟩)from jE];have a:=H.lib.runUnderlying_tMutex
 have b:=H.lib.sizeOf_tIMutex
 exact fun w=>⟨by simp[go_sem,a,b],fun d=>by simp[go_sem,a,b]⟩
theorem VS{wst it:Int}{o:Wd}{A:Array Value}(h:Agree (nu Mu wst it 0 o 0) (Uy L).env A):Agree (n0 Mu) (Uy L).env A:=by
 refine uh (ρ:=[(.v 0,.v 0)]) h (by kernel_rfl) fun p a=>?_
 simp only[List.mem_cons,List.not_mem_nil,or_false]at a;subst a;exact jq.trans jq.symm
theorem akb(L:ah):(lockFn L.mu).body=some (VO L):=by kernel_rfl
theorem akc(L:ah):(ilockFn L.mu).body=some (VP L):=by kernel_rfl
theorem akd(L:ah):(jW L).body=some (Bz L):=by kernel_rfl
theorem ake(L:ah):((lockFn L.mu).name== "runtime.NumGoroutine")=false:=by kernel_rfl
theorem aho(L:ah):((ilockFn L.mu).name== "runtime.NumGoroutine")=false:=by kernel_rfl
theorem akf(L:ah):((jW L).name== "runtime.NumGoroutine")=false:=by kernel_rfl
theorem akg(L:ah):(lockFn L.mu).results=#[]:=by kernel_rfl
theorem acn(L:ah):(ilockFn L.mu).results=#[]:=by kernel_rfl
theorem ahp(L:ah):(jW L).results=#[]:=by kernel_rfl
theorem aan(H:dX P L)(hB:B<63)(hI:aeG I Mu){sz:Nat}{b:Frame}{ds:List Deferred}{cs:List Frame}{s:S}{A:Array Value}(hc:aV sz s=some (L.mu.lock,[some (.v 0)]))(hz:A.size=sz)(ha:Agree (n0 Mu) s.env A)(hk:b.kind≠.early)
  (hT:∀g,af P false I X0 (fun d g=>d=0/\g=G ((b.at ⟨A,ds⟩ s.todo).finish (.tuple #[])) cs) 0 g->T g):
  af P false I X0 (fun d g=>d=0/\Says P false I #[Go.ConcR.mk .disable] (gX P I tM Mu B (af P false I X0 (EnQ P I Mu T)) .l0 1) g) 0 (G (b.at ⟨A,ds⟩ s.todo) cs):=by
 have a:=jD H (Mu:=Mu) (wst:=0) (it:=0) (tv:=0) (nw:=0) sm0.1 sm0.2;have x:=OX (Mu:=Mu) H
 have N:(base L.mu.lock).kind≠.early:=by simp[base]
 have f:(base L.mu.ilock).kind≠.early:=by simp[base]
 refine sH hc hz ha hk H.lib.f_lock (ake L) (akb L) (by show 1<=6;omega) fun g1 b1=>?_
 refine(ajZ L).walk x oN N (s:=lkE L) b1 fun g2 b2=>?_
 obtain⟨J,k,l,rfl⟩:=b2
 have h:∀g,Behind (n0 Mu) 6 (base L.mu.lock) [] (b.at ⟨A,ds⟩ s.todo::cs) (next (lkS L) none) g->af P false I X0 (fun d g=>d=0/\g=G ((b.at ⟨A,ds⟩ s.todo).finish (.tuple #[])) cs) 0 g:=fun g n=>by
  refine(aj0 L).walk x oN N n fun i c=>?_
  obtain⟨O,_,_,rfl⟩:=c
  exact Kz hc hz ha H.lib.f_lock (akg L) (.inl rfl) (.stop ⟨rfl,rfl⟩)
 refine sH (VQ L) k l N H.lib.f_ilock (aho L) (akc L) (by show 1<=13;omega) fun g3 b3=>?_
 refine(aj1 L _ _ _ _ _ _ _).walk a oN f (s:=ilE L) b3 fun g4 b4=>.stop ⟨rfl,?_⟩;obtain⟨A4,Q,R,rfl⟩:=b4
 obtain⟨g5,b5,s5⟩:=wU (P:=P) (m:=false) (b:=base L.mu.ilock) (ds:=[]) (cs:=(base L.mu.lock).at ⟨J,[]⟩ (lkS L).todo::b.at ⟨A,ds⟩ s.todo::cs) .disable (by simp) (z:=none) rfl (ahj L) Q R f H.lib.f_disable (OQ L) (OT L) (OU L) (OV L);refine⟨rfl,g5,fun w _=>s5 w,gX.idle ?_⟩;refine(aj2 L _ _ _ _ _ _ _).walk a oN f b5 fun g6 b6=>.stop ?_;obtain⟨A6,y,C,rfl⟩:=b6
 refine⟨rfl,rfl,rfl,fun e=>(by cases e),fun w m q hw u hf=>.inr ?_⟩;have p:=hf.1;by_cases j:m=o0
 ·obtain⟨i,U,r⟩:=Ae (P:=P) (m:=false) (b:=base L.mu.ilock) (ds:=[]) (cs:=(base L.mu.lock).at ⟨J,[]⟩ (lkS L).todo::b.at ⟨A,ds⟩ s.todo::cs) (ack L) y C f H.lib.f_cas32 (nP L) (nR L) (nS L) (nT L) (ad:=mA Mu) jE Qu Qu
  have t:w.cell? (mA Mu)=some (.int .i32 0):=by rw[u.state,j];rfl
  refine⟨.own,⟨1,0,0,0⟩,q,i,_,_,.l0f j,r w t (u.thaw 0),u.setState rfl,uP _,Dl,fun e=>(by cases e),?_⟩;rw[Dn];show af P false I X0 (EnQ P I Mu T) 1 i;refine(aj3 L _ _ _ _ _ _ _).walk a oN f U fun g7 V=>.stop ⟨rfl,?_⟩;refine OW H hI f (by exact jq) a oN (ahk L) (aj6 L _ _ _ _ _ _ _) (ahl L) (aj7 L _ _ _ _ _ _ _) (ahm L) (fun g n=>hT g ?_) V;refine(ahi L _ _ _ _ _ _ _).walk a oN f n fun i c=>?_
  obtain⟨O,_,_,rfl⟩:=c
  exact sJ (VQ L) k l H.lib.f_ilock (acn L) (IQ (ahn L)) h
 ·obtain⟨i,U,r⟩:=wS (P:=P) (m:=false) (b:=base L.mu.ilock) (ds:=[]) (cs:=(base L.mu.lock).at ⟨J,[]⟩ (lkS L).todo::b.at ⟨A,ds⟩ s.todo::cs) (ack L) y C f H.lib.f_cas32 (nP L) (nR L) (nS L) (nT L) (ad:=mA Mu) jE Qu Qu
  have W:¬((m.num:Int)=0):=fun e=>j (Wd.inj p sm0.1 (by rw[show m.num=0 by omega];rfl))
  refine⟨.rd false false 0,m,q,i,_,_,.l0s j,r w _ u.state (u.thaw 0) W,u,kH,aah,fun e=>(by cases e),?_⟩;rw[aai];show gX P I tM Mu B _ (.rd false false 0) 1 i;refine gX.pre ?_;refine(aj8 L _ _ _ _ _ _ _).walk a oN f U fun g7 V=>?_
  obtain⟨A7,D,E,rfl⟩:=V
  refine sH (acm L) D E f H.vC (akf L) (akd L) (by show 1<=139;omega) fun g8 b8=>.stop ?_;obtain⟨A8,X,Y,rfl⟩:=b8
  refine aak H hB (fun M it o g n=>.stop ⟨rfl,?_⟩) X ((Y 0 (.v 0) rfl).trans (congrArg some jq));have Z:Behind (n0 Mu) 139 (base L.mu.lockSlow) [] ((base L.mu.ilock).at ⟨A7,[]⟩ (isS L).todo::(base L.mu.lock).at ⟨J,[]⟩ (lkS L).todo::b.at ⟨A,ds⟩ s.todo::cs) (Uy L) g:=by
   obtain⟨A9,a0,a1,rfl⟩:=n
   exact⟨A9,a0,VS a1,rfl⟩
  refine OW H hI kb (by exact jq) a ahh (ag5 L) (ahd _ _ _ _ _ _ _) ahf (ahe _ _ _ _ _ _ _) ahg (fun g n=>hT g ?_) Z;refine(aka L _ _ _ _ _ _ _).walk a oN kb n fun i c=>?_
  obtain⟨O,_,_,rfl⟩:=c
  refine sJ (acm L) D E H.vC (ahp L) (.inl rfl) fun a2 F=>?_
  refine(aj9 L _ _ _ _ _ _ _).walk a oN f F fun i c=>?_
  obtain⟨O,_,_,rfl⟩:=c
  exact sJ (VQ L) k l H.lib.f_ilock (acn L) (.inl rfl) h
end
end Go.Mx
