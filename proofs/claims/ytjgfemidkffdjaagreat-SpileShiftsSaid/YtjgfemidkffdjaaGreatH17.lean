import Derived.Conc.CrowdBase
import Derived.Conc.MuWords
import Derived.Conc.Walk
import Derived.Conc.Own5
import Derived.KernelRfl
import Derived.Test.YtjgfemidkffdjaaGreatH7
import Derived.Test.YtjgfemidkffdjaaGreatH8
import Derived.Test.YtjgfemidkffdjaaGreatH16
set_option linter.all false
namespace Go.Mx
open Go.ConcN (sumTo upd upd_same upd_ne sumTo_upd le_sumTo sumTo_le sumTo_congr)
structure Wd where
 L:Nat
 W:Nat
 S:Nat
 n:Nat
 deriving DecidableEq
def Wd.num(m:Wd):Nat:=m.L+2*m.W+4*m.S+8*m.n
structure Wd.Bits(m:Wd):Prop where
 L:m.L<=1
 W:m.W<=1
 S:m.S<=1
theorem Wd.inj{a b:Wd}(c:a.Bits)(d:b.Bits)(h:a.num=b.num):a=b:=by
 obtain⟨l,m,n,o⟩:=a
 obtain⟨p,q,r,s⟩:=b
 obtain⟨e,f,g⟩:=c
 obtain⟨i,j,k⟩:=d
 simp only[Wd.num]at h e f g i j k;simp only[Wd.mk.injEq]
 omega
structure Lo where
 old:Wd
 aw:Bool
 sv:Bool
 it:Nat
inductive Lk where
 |out|l0|rd (aw sv:Bool) (it:Nat)|sq (T:Lo)|c1 (T:Lo)|c2 (T:Lo)|t1 (sv:Bool)|s1 (sv:Bool)|t2|r2 (sv:Bool)|a1 (sv cl:Bool)
 |own|uc (old:Wd)|ux|us|done
def hd(T:Lo):Lk:=if T.old.L=1/\T.old.S=0 then .sq T else .c2 T
def bit(b:Bool):Nat:=if b then 1 else 0
def cO:Lk->Nat|.own=>1|_=>0
def cK:Lk->Nat|.rd a _ _=>bit a|.sq T=>bit T.aw|.c1 T=>bit T.aw|.c2 T=>bit T.aw|_=>0
def cT:Lk->Nat|.t2=>1|.r2 _=>1|_=>0
def cU:Lk->Nat|.us=>1|_=>0
def cA:Lk->Nat|.a1 _ _=>1|_=>0
def cW:Lk->Nat|.t1 _=>1|.s1 _=>1|_=>0
def GH:Lk->Prop|.uc _=>True|.ux=>True|_=>False
def sm(φ:Lk->Nat)(j:Nat)(lk:Nat->Lk):Nat:=sumTo j fun i=>φ (lk i)
def WfT(B:Nat)(T:Lo):Prop:=T.old.Bits/\T.old.n<=B/\(T.sv=true->T.aw=true)/\(T.aw=true->T.old.W=1/\T.old.S=0)/\T.it<=4
def Wf(B:Nat)(m:Wd):Lk->Prop
 | .rd a b it=>(b=true->a=true)/\it<=4
 | .sq T=>WfT B T/\T.old.L=1/\T.old.S=0
 | .c1 T=>WfT B T/\T.old.L=1/\T.old.S=0/\T.old.W=0/\0<T.old.n/\T.aw=false/\T.it<4
 | .c2 T=>WfT B T
 | .a1 _ c=>c=false->2<=m.n
 | .uc o=>o.Bits/\o.L=0/\o.W=0/\o.S=0/\0<o.n/\o.n<=B
 |_=>True
structure MI(B j:Nat)(lk:Nat->Lk)(m:Wd)(q:Nat):Prop where
 bits:m.Bits
 jB:j<=B
 own:sm cO j lk=m.L
 nor:m.S=0->sm cK j lk+sm cT j lk+sm cU j lk+q=m.W/\sm cA j lk=0/\m.n+sm cU j lk+q=sm cW j lk
 sta:m.S=1->m.W=0/\sm cK j lk=0/\m.L+sm cT j lk+sm cA j lk+sm cU j lk+q=1/\m.n=sm cW j lk+sm cT j lk+sm cA j lk/\1<=m.n
 prog:m.L=0->m.S=0->m.W=0->0<m.n->∃i,i<j/\GH (lk i)
 wf:∀i,i<j->Wf B m (lk i)
inductive Mv:Wd->Nat->Lk->Wd->Nat->Lk->Prop
 |enter {m q}:Mv m q .out m q .l0
 |l0f {m q} (h:m=⟨0,0,0,0⟩):Mv m q .l0 ⟨1,0,0,0⟩ q .own
 |l0s {m q} (h:m≠⟨0,0,0,0⟩):Mv m q .l0 m q (.rd false false 0)
 |rd {m q aw sv it}:Mv m q (.rd aw sv it) m q (hd ⟨m,aw,sv,it⟩)
 |sqn {m q T}:Mv m q (.sq T) m q (.c2 T)
 |sqc {m q T} (h:T.it<4) (ha:T.aw=false/\T.old.W=0/\T.old.n≠0):Mv m q (.sq T) m q (.c1 T)
 |sqr {m q T} (h:T.it<4) (ha:¬(T.aw=false/\T.old.W=0/\T.old.n≠0)):Mv m q (.sq T) m q (.rd T.aw T.sv (T.it+1))
 |c1y {m q T} (h:m=T.old):Mv m q (.c1 T) ⟨m.L,1,m.S,m.n⟩ q (.rd true T.sv (T.it+1))
 |c1n {m q T} (h:m≠T.old):Mv m q (.c1 T) m q (.rd false T.sv (T.it+1))
 |c2l {m q T} (h:m=T.old) (h1:m.L=0/\m.S=0):Mv m q (.c2 T) ⟨1,if T.aw then 0 else m.W,0,m.n⟩ q .own
 |c2q {m q T y} (h:m=T.old) (h1:¬(m.L=0/\m.S=0)) (hy:y=.t1 T.sv∨y=.s1 T.sv):Mv m q (.c2 T) ⟨m.L,if T.aw then 0 else m.W,if T.sv/\m.L=1 then 1 else m.S,m.n+1⟩ q y
 |c2n {m q T} (h:m≠T.old):Mv m q (.c2 T) m q (.rd T.aw T.sv T.it)
 |t1 {m q sv}:Mv m q (.t1 sv) m q (.s1 sv)
 |s1 {m q sv}:Mv m (q+1) (.s1 sv) m q (if sv then .r2 true else .t2)
 |t2 {m q b}:Mv m q .t2 m q (.r2 b)
 |r2n {m q sv} (h:m.S=0):Mv m q (.r2 sv) m q (hd ⟨m,true,sv,0⟩)
 |r2s {m q sv} (h:m.S=1):Mv m q (.r2 sv) m q (.a1 sv (!sv||decide (m.n=1)))
 |a1 {m q sv cl}:Mv m q (.a1 sv cl) ⟨1,m.W,if cl then 0 else m.S,m.n-1⟩ q .own
 |u0d {m q} (h:m.S=0/\(m.W=1∨m.n=0)):Mv m q .own ⟨0,m.W,m.S,m.n⟩ q .done
 |u0c {m q} (h:m.S=0/\m.W=0/\0<m.n):Mv m q .own ⟨0,m.W,m.S,m.n⟩ q (.uc ⟨0,m.W,m.S,m.n⟩)
 |u0s {m q} (h:m.S=1):Mv m q .own ⟨0,m.W,m.S,m.n⟩ q .us
 |ucy {m q o} (h:m=o):Mv m q (.uc o) ⟨m.L,1,m.S,m.n-1⟩ q .us
 |ucn {m q o} (h:m≠o):Mv m q (.uc o) m q .ux
 |uxd {m q} (h:¬(m.L=0/\m.W=0/\m.S=0/\0<m.n)):Mv m q .ux m q .done
 |uxc {m q} (h:m.L=0/\m.W=0/\m.S=0/\0<m.n):Mv m q .ux m q (.uc m)
 |us {m q}:Mv m q .us m (q+1) .done
section
variable{B j q b:Nat}{lk:Nat->Lk}{m a:Wd}{i:Nat}{x y:Lk}
theorem jD(c:Lk->Nat)(y:Lk)(d:i<j):sm c j (upd lk i y)+c (lk i)=sm c j lk+c y:=sumTo_upd lk y c d
theorem nV(φ:Lk->Nat)(c:i<j):φ (lk i)<=sm φ j lk:=le_sumTo (f:=fun i=>φ (lk i)) c
theorem XU(c d:Lk->Nat)(j:Nat)(lk:Nat->Lk):sm (fun x=>c x+d x) j lk=sm c j lk+sm d j lk:=by
 unfold sm;induction j with
 |zero=>rfl
 |succ j f=>simp only[sumTo];rw[f];omega
theorem aeu{d:Lk->Nat}(h:∀x,d x<=1):sm d j lk<=j:=by
 have:=sumTo_le (f:=fun i=>d (lk i)) (c:=1) (j:=j) fun i _=>h _
 simpa [sm]using this
theorem MI.le(h:MI B j lk m q):m.n<=j:=by
 have c:sm (fun x=>(cW x+cT x)+cA x) j lk<=j:=aeu fun x=>by cases x<;>simp[cW,cT,cA]
 rw[XU (fun x=>cW x+cT x) cA,XU cW cT]at c;have d:=h.bits.S
 rcases Nat.eq_zero_or_pos m.S with e|e
 ·have:=h.nor e;omega
 ·have:=h.sta (by omega);omega
theorem MI.mk'(h:MI B j lk m q)(t:i<j)(bits:a.Bits)
  (own:sm cO j (upd lk i y)=a.L)
  (nor:a.S=0->sm cK j (upd lk i y)+sm cT j (upd lk i y)+sm cU j (upd lk i y)+b=a.W/\sm cA j (upd lk i y)=0/\a.n+sm cU j (upd lk i y)+b=sm cW j (upd lk i y))
  (g:a.S=1->a.W=0/\sm cK j (upd lk i y)=0/\a.L+sm cT j (upd lk i y)+sm cA j (upd lk i y)+sm cU j (upd lk i y)+b=1/\a.n=sm cW j (upd lk i y)+sm cT j (upd lk i y)+sm cA j (upd lk i y)/\1<=a.n)
  (c:a.L=0->a.S=0->a.W=0->0<a.n->(GH y∨(¬GH (lk i)/\m.L=0/\m.S=0/\m.W=0/\0<m.n)))
  (l:Wf B a y) (o:m.n<=a.n∨sm cA j lk=0∨1<=cA (lk i)) (P:sm cA j lk<=1):MI B j (upd lk i y) a b:=by
 refine⟨bits,h.jB,own,nor,g,fun z A C D=>?_,fun k d=>?_⟩
 ·rcases c z A C D with p|⟨E,F,H,J,M⟩
  · exact⟨i,t,by rw[upd_same];exact p⟩
  · obtain⟨k,d,u⟩:=h.prog F H J M
    have r:k≠i:=fun e=>E (e▸u)
    exact⟨k,d,by rw[upd_ne lk y r];exact u⟩
 ·by_cases e:k=i
  · subst e;rw[upd_same];exact l
  · rw[upd_ne lk y e];have f:=h.wf k d
    revert f;cases s:lk k<;>simp only[Wf]<;>try exact id
    intro f N;have f:=f N
    rename_i Q R;have O:=jD (lk:=lk) cA .out t;have v:=nV (lk:=upd lk i .out) cA d
    rw[upd_ne lk .out e,s]at v;simp only[cA]at O v;rcases o with w|w|w
    ·omega
    ·omega
    ·simp only[cA]at w;omega
theorem MI.qP(h:MI B j lk m q):sm cA j lk<=1:=by
 have c:=h.bits.S
 rcases Nat.eq_zero_or_pos m.S with e|e
 ·have:=h.nor e;omega
 ·have:=h.sta (by omega);omega
theorem adp{T:Lo}(h:WfT B T):Wf B m (hd T):=by
 unfold hd;split
 ·rename_i e;exact⟨h,e⟩
 ·exact h
theorem agZ(T:Lo):cO (hd T)=0/\cK (hd T)=bit T.aw/\cT (hd T)=0/\cU (hd T)=0/\cA (hd T)=0/\cW (hd T)=0:=by
 unfold hd;split<;>exact⟨rfl,rfl,rfl,rfl,rfl,rfl⟩
end
end Go.Mx
namespace Go.Mx
open Go.ConcN (sumTo upd upd_same upd_ne sumTo_upd le_sumTo sumTo_le sumTo_congr)
section
variable{B j q f:Nat}{lk:Nat->Lk}{m m':Wd}{i:Nat}{x y:Lk}
theorem MI.still(h:MI B j lk m q)(a:i<j)(p:cO y=cO (lk i))(r:cK y=cK (lk i))(s:cT y=cT (lk i))(t:cU y=cU (lk i))(u:cA y=cA (lk i))(v:cW y=cW (lk i))
  (b:¬GH (lk i)∨GH y∨¬(m.L=0/\m.W=0/\m.S=0/\0<m.n)) (o:Wf B m y):MI B j (upd lk i y) m q:=by
 have w:=jD (lk:=lk) cO y a
 have z:=jD (lk:=lk) cK y a
 have A:=jD (lk:=lk) cT y a
 have C:=jD (lk:=lk) cU y a
 have D:=jD (lk:=lk) cA y a
 have E:=jD (lk:=lk) cW y a
 have own:=h.own
 have nor:=h.nor
 have c:=h.sta
 refine h.mk' a h.bits (by omega) (fun e=>?_) (fun e=>?_) (fun d g k l=>?_) o (.inl (Nat.le_refl _)) h.qP
 ·have:=nor e;omega
 ·have:=c e;omega
 ·rcases b with b|b|b
  · exact .inr ⟨b,d,g,k,l⟩
  · exact .inl b
  · exact absurd ⟨d,k,g,l⟩ b
theorem MI.step(h:MI B j lk m q)(l:i<j)(g:lk i=x)(k:Mv m q x m' f y):MI B j (upd lk i y) m' f:=by
 have p:=h.wf i l
 rw[g]at p;have a0:=h.le
 have a2:=h.jB
 have u:=jD (lk:=lk) cO y l
 have t:=jD (lk:=lk) cK y l
 have v:=jD (lk:=lk) cT y l
 have w:=jD (lk:=lk) cU y l
 have z:=jD (lk:=lk) cA y l
 have A:=jD (lk:=lk) cW y l
 have E:=nV (lk:=lk) cO l
 have D:=nV (lk:=lk) cK l
 have F:=nV (lk:=lk) cT l
 have H:=nV (lk:=lk) cU l
 have J:=nV (lk:=lk) cA l
 have M:=nV (lk:=lk) cW l
 rw[g]at u t v w z A E D F H J M;have own:=h.own
 have nor:=h.nor
 have C:=h.sta
 have bL:=h.bits.L
 have Q:=h.bits.W
 have O:=h.bits.S
 have seen:∀{R N:Bool} {it:Nat},(N=true->R=true)->it<=4->(R=true->m.W=1/\m.S=0)->WfT B ⟨m,R,N,it⟩:=fun a b c=>⟨h.bits,by show m.n<=B;omega,a,c,b⟩
 have awake:∀{R:Bool},bit R<=sm cK j lk->R=true->m.W=1/\m.S=0:=by
  intro R hb ha;subst ha;simp only[bit,if_true]at hb;rcases Nat.eq_zero_or_pos m.S with e|e
  · have:=nor e;omega
  · have:=C (by omega);omega
 cases k with
 |enter=>exact h.still l (by rw[g];rfl) (by rw[g];rfl) (by rw[g];rfl) (by rw[g];rfl) (by rw[g];rfl) (by rw[g];rfl) (.inl (by rw[g];exact id)) trivial
 |l0f e=>
  subst e;have V:=nor rfl
  simp only[cO,cK,cT,cU,cA,cW]at u t v w z A E D F H J M V own;exact h.mk' l ⟨by simp,by simp,by simp⟩ (by simp only[];omega) (fun _=>by simp only[];omega) (fun e=>by cases e) (fun e=>by cases e) trivial (.inl (Nat.le_refl _)) h.qP
 |l0s e=>exact h.still l (by rw[g];rfl) (by rw[g];rfl) (by rw[g];rfl) (by rw[g];rfl) (by rw[g];rfl) (by rw[g];rfl) (.inl (by rw[g];exact id)) ⟨fun x=>x,by omega⟩
 |rd=>
  rename_i R N it;obtain⟨X,w2⟩:=p
  obtain⟨c1,c2,c3,c4,c5,c6⟩:=agZ ⟨m,R,N,it⟩
  exact h.still l (by rw[g,c1];rfl) (by rw[g,c2];rfl) (by rw[g,c3];rfl) (by rw[g,c4];rfl) (by rw[g,c5];rfl) (by rw[g,c6];rfl) (.inl (by rw[g];exact id)) (adp (seen X w2 (awake D)))
 |sqn=>exact h.still l (by rw[g];rfl) (by rw[g];rfl) (by rw[g];rfl) (by rw[g];rfl) (by rw[g];rfl) (by rw[g];rfl) (.inl (by rw[g];exact id)) p.1
 |sqc e ha=>exact h.still l (by rw[g];rfl) (by rw[g];rfl) (by rw[g];rfl) (by rw[g];rfl) (by rw[g];rfl) (by rw[g];rfl) (.inl (by rw[g];exact id)) ⟨p.1,p.2.1,p.2.2,ha.2.1,by omega,ha.1,e⟩
 |sqr e ha=>exact h.still l (by rw[g];rfl) (by rw[g];rfl) (by rw[g];rfl) (by rw[g];rfl) (by rw[g];rfl) (by rw[g];rfl) (.inl (by rw[g];exact id)) ⟨p.1.2.2.1,by omega⟩
 |c1y e=>
  rename_i T;obtain⟨X,w2,Y,U,w5,w6,w7⟩:=p
  subst e;simp only[cO,cK,cT,cU,cA,cW,bit,w6,Bool.false_eq_true,if_false,if_true]at*;have:=nor Y
  refine h.mk' l ⟨bL,Nat.le_refl _,O⟩ (by simp only[];omega) (fun _=>by simp only[];omega) (fun e=>by simp only[]at e;omega) (fun _ _ e=>by simp at e) ⟨fun _=>rfl,by omega⟩ (.inl (Nat.le_refl _)) h.qP
 |c1n e=>
  obtain⟨X,w2,Y,U,w5,w6,w7⟩:=p
  exact h.still l (by rw[g];rfl) (by rw[g];simp only[cK,w6]) (by rw[g];rfl) (by rw[g];rfl) (by rw[g];rfl) (by rw[g];rfl) (.inl (by rw[g];exact id)) ⟨fun e=>by have:=X.2.2.1 e;rw[w6]at this;exact this,by omega⟩
 |c2l e e1=>
  rename_i T;obtain⟨X,w2,Y,U,w5⟩:=p
  subst e;have V:=nor e1.2;cases r:T.aw with
  | false=>simp only[cO,cK,cT,cU,cA,cW,bit,r,Bool.false_eq_true,if_false,if_true]at*;exact h.mk' l ⟨Nat.le_refl _,Q,Nat.zero_le _⟩ (by simp only[];omega) (fun _=>by simp only[];omega) (fun e=>by simp at e) (fun e=>by simp at e) trivial (.inl (Nat.le_refl _)) h.qP
  | true=>simp only[cO,cK,cT,cU,cA,cW,bit,r,Bool.false_eq_true,if_false,if_true]at*;have:=(U trivial).1;exact h.mk' l ⟨Nat.le_refl _,Nat.zero_le _,Nat.zero_le _⟩ (by simp only[];omega) (fun _=>by simp only[];omega) (fun e=>by simp at e) (fun e=>by simp at e) trivial (.inl (Nat.le_refl _)) h.qP
 |c2q e e1 hy=>
  rename_i T;obtain⟨X,w2,Y,U,w5⟩:=p
  have Z:cO y=0/\cK y=0/\cT y=0/\cU y=0/\cA y=0/\cW y=1/\Wf B ⟨m.L,if T.aw then 0 else m.W,if T.sv/\m.L=1 then 1 else m.S,m.n+1⟩ y:=by rcases hy with rfl|rfl<;>exact⟨rfl,rfl,rfl,rfl,rfl,rfl,trivial⟩
  obtain⟨y1,y2,y3,y4,y5,y6,P⟩:=Z
  rw[y1]at u;rw[y2]at t;rw[y3]at v;rw[y4]at w;rw[y5]at z;rw[y6]at A;subst e;simp only[cO,cK,cT,cU,cA,cW]at u t v w z A E D F H J M;rcases Nat.eq_zero_or_pos T.old.S with eS|eS
  · have V:=nor eS
    have hL:T.old.L=1:=by omega
    cases r:T.aw with
    |false=>
     have s:T.sv=false:=by cases hh:T.sv with|false=>rfl|true=>have:=Y hh;rw[r]at this;cases this
     rw[r,s]at P;simp only[bit,r,s,Bool.false_eq_true,if_false,false_and]at*;exact h.mk' l ⟨bL,Q,O⟩ (by simp only[];omega) (fun _=>by simp only[];omega) (fun e=>by simp only[]at e;omega) (fun e=>by simp only[]at e;omega) P (.inl (by simp only[];omega)) h.qP
    |true=>
     have b2:=(U r).1;cases s:T.sv with
     |false=>rw[r,s]at P;simp only[bit,r,s,Bool.false_eq_true,if_false,if_true,false_and]at*;exact h.mk' l ⟨bL,Nat.zero_le _,O⟩ (by simp only[];omega) (fun _=>by simp only[];omega) (fun e=>by simp only[]at e;omega) (fun e=>by simp only[]at e;omega) P (.inl (by simp only[];omega)) h.qP
     |true=>simp only[bit,r,if_true]at t D;simp only[r,s,hL,if_true,and_self]at P⊢;exact h.mk' l ⟨by simp,Nat.zero_le _,Nat.le_refl _⟩ (by simp only[];omega) (fun e=>by simp at e) (fun _=>by simp only[];refine⟨trivial,by omega,by omega,by omega,by omega⟩) (fun e=>by simp at e) P (.inl (by simp only[];omega)) h.qP
  · have hs:=C (by omega)
    have r:T.aw=false:=by cases hh:T.aw with|false=>rfl|true=>have:=(U hh).2;omega
    have s:T.sv=false:=by cases hh:T.sv with|false=>rfl|true=>have:=Y hh;rw[r]at this;cases this
    rw[r,s]at P;simp only[bit,r,s,Bool.false_eq_true,if_false,false_and]at*;exact h.mk' l ⟨bL,Q,O⟩ (by simp only[];omega) (fun e=>by simp only[]at e;omega) (fun _=>by simp only[];omega) (fun _ e=>by simp only[]at e;omega) P (.inl (by simp only[];omega)) h.qP
 |c2n e=>exact h.still l (by rw[g];rfl) (by rw[g];rfl) (by rw[g];rfl) (by rw[g];rfl) (by rw[g];rfl) (by rw[g];rfl) (.inl (by rw[g];exact id)) ⟨p.2.2.1,p.2.2.2.2⟩
 |t1=>exact h.still l (by rw[g];rfl) (by rw[g];rfl) (by rw[g];rfl) (by rw[g];rfl) (by rw[g];rfl) (by rw[g];rfl) (.inl (by rw[g];exact id)) trivial
 |s1=>
  rename_i N;have Z:∀y,y=(if N then Lk.r2 true else .t2)->cO y=0/\cK y=0/\cT y=1/\cU y=0/\cA y=0/\cW y=0/\Wf B m y:=by
    intro y e;subst e;cases N<;>exact⟨rfl,rfl,rfl,rfl,rfl,rfl,trivial⟩
  obtain⟨y1,y2,y3,y4,y5,y6,P⟩:=Z _ rfl
  rw[y1]at u;rw[y2]at t;rw[y3]at v;rw[y4]at w;rw[y5]at z;rw[y6]at A;simp only[cO,cK,cT,cU,cA,cW]at u t v w z A E D F H J M;exact h.mk' l h.bits (by omega) (fun e=>by have:=nor e;omega) (fun e=>by have:=C e;omega) (fun a b c d=>.inr ⟨by rw[g];exact id,a,b,c,d⟩) P (.inl (Nat.le_refl _)) h.qP
 |t2=>exact h.still l (by rw[g];rfl) (by rw[g];rfl) (by rw[g];rfl) (by rw[g];rfl) (by rw[g];rfl) (by rw[g];rfl) (.inl (by rw[g];exact id)) trivial
 |r2n e=>
  rename_i N;obtain⟨c1,c2,c3,c4,c5,c6⟩:=agZ ⟨m,true,N,0⟩
  rw[c1]at u;rw[c2]at t;rw[c3]at v;rw[c4]at w;rw[c5]at z;rw[c6]at A;simp only[cO,cK,cT,cU,cA,cW,bit,if_true]at u t v w z A E D F H J M;have V:=nor e
  exact h.mk' l h.bits (by omega) (fun e=>by omega) (fun e=>by omega) (fun a b c d=>.inr ⟨by rw[g];exact id,a,b,c,d⟩) (adp (seen (fun _=>rfl) (by omega) fun _=>⟨by omega,e⟩)) (.inl (Nat.le_refl _)) h.qP
 |r2s e=>
  rename_i N;simp only[cO,cK,cT,cU,cA,cW]at u t v w z A E D F H J M;have hs:=C e
  refine h.mk' l h.bits (by omega) (fun e=>by omega) (fun e=>by omega) (fun a b c d=>by omega) (fun hc=>?_) (.inl (Nat.le_refl _)) h.qP;simp only[Bool.or_eq_false_iff,Bool.not_eq_false',decide_eq_false_iff_not]at hc;omega
 |a1=>
  rename_i N cl;simp only[cO,cK,cT,cU,cA,cW]at u t v w z A E D F H J M;have hS:m.S=1:=by
    rcases Nat.eq_zero_or_pos m.S with e|e
    ·have:=nor e;omega
    ·omega
  have hs:=C hS
  cases cl with
  | false=>
    have hw:2<=m.n:=p rfl
    simp only[Bool.false_eq_true,if_false]
    exact h.mk' l ⟨Nat.le_refl _,Q,O⟩ (by simp only[];omega) (fun e=>by simp only[]at e;omega) (fun _=>by simp only[];omega) (fun e=>by simp at e) trivial (.inr (.inr (by rw[g];exact Nat.le_refl _))) h.qP
  | true=>
    simp only[if_true]
    exact h.mk' l ⟨Nat.le_refl _,Q,Nat.zero_le _⟩ (by simp only[];omega) (fun _=>by simp only[];omega) (fun e=>by simp at e) (fun e=>by simp at e) trivial (.inr (.inr (by rw[g];exact Nat.le_refl _))) h.qP
 |u0d e=>simp only[cO,cK,cT,cU,cA,cW]at u t v w z A E D F H J M;have V:=nor e.1;exact h.mk' l ⟨Nat.zero_le _,Q,O⟩ (by simp only[];omega) (fun _=>by simp only[];omega) (fun e'=>by simp only[]at e';omega) (fun _ _ e2 e3=>by simp only[]at e2 e3;omega) trivial (.inl (Nat.le_refl _)) h.qP
 |u0c e=>simp only[cO,cK,cT,cU,cA,cW]at u t v w z A E D F H J M;have V:=nor e.1;exact h.mk' l ⟨Nat.zero_le _,Q,O⟩ (by simp only[];omega) (fun _=>by simp only[];omega) (fun e'=>by simp only[]at e';omega) (fun _ _ _ _=>.inl trivial) ⟨⟨Nat.zero_le _,Q,O⟩,rfl,e.2.1,e.1,e.2.2,by show m.n<=B;omega⟩ (.inl (Nat.le_refl _)) h.qP
 |u0s e=>
  simp only[cO,cK,cT,cU,cA,cW]at u t v w z A E D F H J M;have hs:=C e
  exact h.mk' l ⟨Nat.zero_le _,Q,O⟩ (by simp only[];omega) (fun e'=>by simp only[]at e';omega) (fun _=>by simp only[];omega) (fun _ e2=>by simp only[]at e2;omega) trivial (.inl (Nat.le_refl _)) h.qP
 |ucy e=>
  rename_i o;obtain⟨X,w2,Y,U,w5,w6⟩:=p
  subst e;simp only[cO,cK,cT,cU,cA,cW]at u t v w z A E D F H J M;have V:=nor U
  exact h.mk' l ⟨bL,Nat.le_refl _,O⟩ (by simp only[];omega) (fun _=>by simp only[];omega) (fun e'=>by simp only[]at e';omega) (fun _ _ e2=>by simp at e2) trivial (.inr (.inl (by omega))) h.qP
 |ucn e=>exact h.still l (by rw[g];rfl) (by rw[g];rfl) (by rw[g];rfl) (by rw[g];rfl) (by rw[g];rfl) (by rw[g];rfl) (.inr (.inl trivial)) trivial
 |uxd e=>exact h.still l (by rw[g];rfl) (by rw[g];rfl) (by rw[g];rfl) (by rw[g];rfl) (by rw[g];rfl) (by rw[g];rfl) (.inr (.inr e)) trivial
 |uxc e=>exact h.still l (by rw[g];rfl) (by rw[g];rfl) (by rw[g];rfl) (by rw[g];rfl) (by rw[g];rfl) (by rw[g];rfl) (.inr (.inl trivial)) ⟨h.bits,e.1,e.2.1,e.2.2.1,e.2.2.2,by omega⟩
 |us=>simp only[cO,cK,cT,cU,cA,cW]at u t v w z A E D F H J M;exact h.mk' l h.bits (by omega) (fun e=>by have:=nor e;omega) (fun e=>by have:=C e;omega) (fun a b c d=>.inr ⟨by rw[g];exact id,a,b,c,d⟩) trivial (.inl (Nat.le_refl _)) h.qP
end
end Go.Mx
namespace Go.Mx
open Go.ConcN (sumTo upd upd_same upd_ne sumTo_upd le_sumTo sumTo_le sumTo_congr)
def pt:Lk->Nat
 | .out|.l0|.c1 _=>5
 | .rd a _ _=>if a then 4 else 5
 | .sq T|.c2 T=>if T.aw then 4 else 5
 | .t1 _|.s1 _|.own=>3
 | .t2|.r2 _|.a1 _ _=>4
 | .uc _|.ux=>2
 | .us=>1
 | .done=>0
def rk(m:Wd):Lk->Nat
 | .out=>60
 | .l0=>59
 | .rd _ _ it=>3*(5-it)+3
 | .sq T=>if T.old=m then 3*(5-T.it)+2 else 3*(5-T.it)+6
 | .c1 T=>if T.old=m then 3*(5-T.it)+1 else 3*(5-T.it)+5
 | .c2 T=>if T.old=m then 1 else 3*(5-T.it)+4
 | .t1 _=>50
 | .s1 _=>49
 | .t2=>48
 | .r2 _=>47
 | .a1 _ _=>1
 | .own=>40
 | .uc o=>if o=m then 1 else 3
 | .ux=>2
 | .us=>1
 | .done=>0
section
variable{B j q d:Nat}{lk:Nat->Lk}{m m':Wd}{i:Nat}{x y:Lk}
theorem adq(T:Lo):pt (hd T)=if T.aw then 4 else 5:=by unfold hd;split<;>rfl
theorem adr(T:Lo)(h:T.old=m):rk m (hd T)<=3*(5-T.it)+2:=by
 unfold hd;split
 ·simp[rk,h]
 ·simp[rk,h]
theorem Mv.nearer(h:Mv m q x m' d y)(f:Wf B m x):pt y+d<pt x+q∨(m'=m/\pt y+d=pt x+q/\rk m y<rk m x):=by
 cases h with
 |enter=>exact .inr ⟨rfl,rfl,by simp[rk]⟩
 |l0f e=>exact .inl (by simp[pt])
 |l0s e=>exact .inr ⟨rfl,by simp[pt],by simp[rk]⟩
 |rd=>
  rename_i b a it;refine .inr ⟨rfl,by rw[adq];rfl,?_⟩;have:=adr (m:=m) ⟨m,b,a,it⟩ rfl
  show rk m (hd ⟨m,b,a,it⟩)<3*(5-it)+3;dsimp only at this;omega
 |sqn=>
  rename_i T;refine .inr ⟨rfl,rfl,?_⟩;simp only[rk]
  split<;>omega
 |sqc e c=>
  rename_i T;refine .inr ⟨rfl,by simp[pt,c.1],?_⟩;simp only[rk]
  split<;>omega
 |sqr e c=>
  rename_i T;refine .inr ⟨rfl,rfl,?_⟩;simp only[rk]
  split<;>omega
 |c1y e=>exact .inl (by simp[pt])
 |c1n e=>
  rename_i T;have M:=f.2.2.2.2.2.2;refine .inr ⟨rfl,by simp[pt],?_⟩;simp only[rk]
  split<;>omega
 |c2l e t=>exact .inl (by simp only[pt];split<;>omega)
 |c2q e t v=>refine .inl ?_;rcases v with rfl|rfl<;>(simp only[pt];split<;>omega)
 |c2n e=>
  rename_i T;refine .inr ⟨rfl,rfl,?_⟩;simp only[rk]
  rw[if_neg (fun x=>e x.symm)];omega
 |t1=>exact .inr ⟨rfl,rfl,by simp[rk]⟩
 |s1=>
  rename_i a;refine .inr ⟨rfl,?_,?_⟩
  · cases a<;>simp only[pt]<;>simp<;>omega
  · cases a<;>simp[rk]
 |t2=>exact .inr ⟨rfl,rfl,by simp[rk]⟩
 |r2n e=>
  rename_i a;refine .inr ⟨rfl,by rw[adq];rfl,?_⟩;have:=adr (m:=m) ⟨m,true,a,0⟩ rfl
  dsimp only at this;show rk m (hd ⟨m,true,a,0⟩)<47;omega
 |r2s e=>exact .inr ⟨rfl,rfl,by simp[rk]⟩
 |a1=>exact .inl (by simp[pt])
 |u0d e=>exact .inl (by simp[pt])
 |u0c e=>exact .inl (by simp[pt])
 |u0s e=>exact .inl (by simp[pt])
 |ucy e=>exact .inl (by simp[pt])
 |ucn e=>
  refine .inr ⟨rfl,rfl,?_⟩;simp only[rk]
  rw[if_neg (fun x=>e x.symm)];omega
 |uxd e=>exact .inl (by simp[pt])
 |uxc e=>exact .inr ⟨rfl,rfl,by simp[rk]⟩
 |us=>exact .inr ⟨rfl,by simp only[pt];omega,by simp[rk]⟩
def J3(j:Nat)(lk:Nat->Lk)(q:Nat):Nat:=sm pt j lk+q
theorem J3.step(a:i<j)(b:lk i=x)(h:Mv m q x m' d y)(c:Wf B m x):J3 j (upd lk i y) d<J3 j lk q∨(m'=m/\J3 j (upd lk i y) d=J3 j lk q/\rk m y<rk m x):=by
 have e:=jD (lk:=lk) pt y a
 have l:=nV (lk:=lk) pt a
 rw[b]at e l;unfold J3;rcases h.nearer c with h|⟨f,k,g⟩
 ·exact .inl (by omega)
 ·exact .inr ⟨f,by omega,g⟩
def act:Lk->Prop
 | .out|.s1 _|.done=>False
 |_=>True
theorem Sv{φ:Lk->Nat}:∀{j:Nat},(∀k,k<j->φ (lk k)=0)->sm φ j lk=0
 |0,_=>rfl
 |j+1,h=>by
  have a:sm φ j lk=0:=Sv fun k b=>h k (by omega)
  unfold sm at a⊢;simp only[sumTo]
  rw[a,h j (by omega)]
theorem MI.alive(h:MI B j lk m 0)(p:i<j){sv:Bool}(r:lk i=.s1 sv):∃k,k<j/\act (lk k):=by
 apply Classical.byContradiction;intro l;have f:∀k,k<j->lk k=.out∨(∃sv,lk k=.s1 sv)∨lk k=.done:=by
  intro k g;have:¬act (lk k):=fun x=>l ⟨k,g,x⟩
  revert this;cases lk k<;>simp[act]
 have z:∀{φ:Lk->Nat},φ .out=0->φ .done=0->(∀sv,φ (.s1 sv)=0)->sm φ j lk=0:=fun a b c=>Sv fun k g=>by
  rcases f k g with e|⟨sv,e⟩|e<;>rw[e]
  · exact a
  · exact c _
  · exact b
 have t:=z (φ:=cO) rfl rfl fun _=>rfl
 have u:=z (φ:=cK) rfl rfl fun _=>rfl
 have zT:=z (φ:=cT) rfl rfl fun _=>rfl
 have v:=z (φ:=cU) rfl rfl fun _=>rfl
 have w:=z (φ:=cA) rfl rfl fun _=>rfl
 have n:=nV (lk:=lk) cW p
 rw[r]at n;simp only[cW]at n;have own:=h.own
 have A:=h.bits.S
 have C:=h.bits.W
 rcases Nat.eq_zero_or_pos m.S with e|e
 ·have s:=h.nor e
  obtain⟨k,g,o⟩:=h.prog (by omega) e (by omega) (by omega)
  refine l ⟨k,g,?_⟩;revert o;cases lk k<;>simp[GH,act]
 ·have o:=h.sta (by omega)
  omega
end
end Go.Mx
namespace Go.Mx
open Go.Ren
open Go.Conc hiding Goes mem_ofEvents
open Go.ConcN (sumTo upd upd_same upd_ne RelBy get_map_set get_map_set_same WgLive)
open Go.Conc.Lib (WgLink)
open Go.ConcR (KK WgAt stA smA rd wr mk g_of_ofEvents loc_of_ofEvent)
def MuAt(a:TypeId)(Mu:Nat)(w:World)(m:Wd)(q:Nat):Prop:=w.heap[Mu]?=some (.cells #[.int .i32 (m.num:Int),.int .u32 (q:Int)] a)
def ajC(a:TypeId)(Mu:Nat)(w:World):Prop:=∃m q:Int,w.heap[Mu]?=some (.cells #[.int .i32 m,.int .u32 q] a)
abbrev dm:=Array Value
def CellIs(oe:Nat×Nat)(C:Nat)(v:dm)(w:World):Prop:=∃(A:Array Value) (E:TypeId),w.heap[C]?=some (.cells A E (0,0))/\oe.1+oe.2<=A.size/\v.size<=oe.2/\∀(i:Nat) (x:Value),v[i]?=some x->A[oe.1+i]?=some x
structure tq(Mu:Nat)(w w':World):Prop where
 size:w'.heap.size=w.heap.size
 heap:∀b,b≠Mu->w'.heap[b]?=w.heap[b]?
 os:Tm w.os w'.os
 output:w'.output=w.output
 tape:w'.tape=w.tape
def Fits(B:Nat)(m:Wd)(q:Nat)(x:Lk):Prop:=m.Bits/\m.n<=B/\q<=1/\Wf B m x/\match x with
 | .rd a _ _=>a=true->m.W=1/\m.S=0
 | .r2 _=>(m.S=0->m.W=1)/\(m.S=1->m.L=0/\m.W=0/\1<=m.n)
 | .a1 _ _=>m.S=1/\m.L=0/\m.W=0/\1<=m.n
 | .own=>m.L=1
 |_=>True
theorem MI.aev{B j:Nat}{lk:Nat->Lk}{m:Wd}{q:Nat}(h:MI B j lk m q):q<=1:=by
 have a:=h.bits.S
 have b:=h.bits.W
 rcases Nat.eq_zero_or_pos m.S with e|e
 ·have:=h.nor e;omega
 ·have:=h.sta (by omega);omega
theorem MI.fits{B j:Nat}{lk:Nat->Lk}{m:Wd}{q i:Nat}(h:MI B j lk m q)(b:i<j):Fits B m q (lk i):=by
 have k:=h.le
 have l:=h.jB
 refine⟨h.bits,by omega,h.aev,h.wf i b,?_⟩;have o:=h.bits.S
 have p:=h.bits.W
 have c:=nV (lk:=lk) cO b
 have d:=nV (lk:=lk) cK b
 have f:=nV (lk:=lk) cT b
 have g:=nV (lk:=lk) cA b
 have nor:=h.nor
 have a:=h.sta
 have own:=h.own
 have r:=h.bits.L
 generalize lk i=x at c d f g
 cases x<;>dsimp only<;>try trivial
 ·rename_i s t it;intro n;subst n;simp only[cK,bit,if_true]at d;rcases Nat.eq_zero_or_pos m.S with e|e
  · have:=nor e;omega
  · have:=a (by omega);omega
 ·simp only[cT]at f;refine⟨fun e=>?_,fun e=>?_⟩
  · have:=nor e;omega
  · have:=a e;omega
 ·simp only[cA]at g;rcases Nat.eq_zero_or_pos m.S with e|e
  · have:=nor e;omega
  · have:=a (by omega);omega
 ·simp only[cO]at c;omega
section
variable(P:Program)(I:World->Prop)(tM:TypeId)(Mu B:Nat)
def EN(K:Lk->Nat->Goroutine->Prop)(x:Lk)(d:Nat)(g:Goroutine):Prop:=
 d=1/\g.status=.running/\g.offers=none/\(x=.us->mayWake P g=true)/\∀(w:World) (m:Wd) (q:Nat),I w->MuAt tM Mu w m q->Fits B m q x->
  ((∃i,x=.s1 i)/\q=0/\stepG P false g w=.go {g with status:=.blocked} w #[])∨
  (∃(y:Lk) (f:Wd) (h:Nat) (a:Goroutine) (b:World) (c:Array Event),Mv m q x f h y/\stepG P false g w=.go a b c/\MuAt tM Mu b f h/\tq Mu w b/\(∀e∈c,jw Mu e)/\(x=.us->a.status=.running)/\K y (deafBehind d c) a)
def Nx(R:Lk->Nat->Goroutine->Prop)(E:Nat->Goroutine->Prop)(y:Lk)(d:Nat)(g:Goroutine):Prop:=match y with
 | .own|.done=>E d g
 |y=>R y d g
def iV(E:Nat->Goroutine->Prop)(x:Lk)(d:Nat)(g:Goroutine):Prop:=
 ∃R:Lk->Nat->Goroutine->Prop,(∀y d g,R y d g->af P false I X0 (EN P I tM Mu B (Nx R E) y) d g)/\R x d g
end
section
variable{P:Program}{I:World->Prop}{tM:TypeId}{Mu B:Nat}{K b:Lk->Nat->Goroutine->Prop}{E a:Nat->Goroutine->Prop}{x:Lk}{d:Nat}{g:Goroutine}
theorem EN.mono(h:EN P I tM Mu B K x d g)(c:∀y d g,K y d g->b y d g):EN P I tM Mu B b x d g:=by
 obtain⟨e,f,i,j,k⟩:=h
 refine⟨e,f,i,j,fun w m q l n o=>?_⟩;rcases k w m q l n o with h|⟨y,p,r,s,t,u,v,z,A,C,D,F,H⟩
 ·exact .inl h
 ·exact .inr ⟨y,p,r,s,t,u,v,z,A,C,D,F,c _ _ _ H⟩
theorem Nx.mono{R c:Lk->Nat->Goroutine->Prop}(e:∀y d g,R y d g->c y d g)(f:∀d g,E d g->a d g){y:Lk}(h:Nx R E y d g):Nx c a y d g:=by
 cases y<;>first|exact f _ _ h|exact e _ _ _ h
theorem iV.out(h:iV P I tM Mu B E x d g):af P false I X0 (EN P I tM Mu B (Nx (iV P I tM Mu B E) E) x) d g:=by
 obtain⟨R,c,e⟩:=h
 exact(c _ _ _ e).mono fun d g k=>k.mono fun y d g x=>x.mono (fun y d g f=>⟨R,c,f⟩) fun _ _ i=>i
theorem iV.exit(c:∀d g,E d g->a d g)(h:iV P I tM Mu B E x d g):iV P I tM Mu B a x d g:=by
 obtain⟨R,e,f⟩:=h
 exact⟨R,fun y d g i=>(e y d g i).mono fun d g k=>k.mono fun y d g x=>x.mono (fun _ _ _ z=>z) c,f⟩
theorem iV.idle(h:af P false I X0 (EN P I tM Mu B (Nx (iV P I tM Mu B E) E) x) d g):iV P I tM Mu B E x d g:=
 ⟨fun y d g=>af P false I X0 (EN P I tM Mu B (Nx (iV P I tM Mu B E) E) y) d g,fun y d g c=>c.mono fun d g k=>k.mono fun y d g z=>z.mono (fun y d g e=>e.out) fun _ _ f=>f,h⟩
end
inductive WT where
 |work|KT (x:Lk)|en|ac|cr (v:dm)|rl|ds|Sz (x:Lk)|ue|fin (s:Nat)
def fD:WT->Lk
 | .work=>.out
 | .KT x|.Sz x=>x
 | .en|.ac|.cr _|.rl|.ds=>.own
 | .ue|.fin _=>.done
def gV:WT->Nat
 | .fin s=>s
 |_=>8
def holds:WT->Prop
 | .cr _|.rl=>True
 |_=>False
def early:WT->Prop
 | .work|.KT _|.en|.ac|.cr _=>True
 |_=>False
def past:WT->Prop
 | .rl|.ds|.Sz _|.ue|.fin _=>True
 |_=>False
def isL:Lk->Prop
 | .l0|.rd ..|.sq _|.c1 _|.c2 _|.t1 _|.s1 _|.t2|.r2 _|.a1 ..=>True
 |_=>False
def isU:Lk->Prop
 | .own|.uc _|.ux|.us=>True
 |_=>False
theorem NH(T:Lo):isL (hd T):=by unfold hd;split<;>trivial
theorem Mv.inL{m a:Wd}{q b:Nat}{x y:Lk}(h:Mv m q x a b y)(c:isL x):isL y∨y=.own:=by
 cases h<;>first|exact .inr rfl|exact .inl (NH _)|exact .inl trivial|(exact c.elim)|skip
 ·rename_i d;rcases d with rfl|rfl<;>exact .inl trivial
 ·rename_i e;cases e<;>exact .inl trivial
theorem Mv.inU{m a:Wd}{q b:Nat}{x y:Lk}(h:Mv m q x a b y)(c:isU x):isU y∨y=.done:=by
 cases h<;>first|exact .inr rfl|exact .inl trivial|(exact c.elim)
def phase:WT->Prop
 | .KT x=>isL x
 | .Sz x=>isU x
 |_=>True
def ES(m:Wd):WT->Nat
 | .work=>2000
 | .KT x=>1000+rk m x
 | .en=>900
 | .ac=>890
 | .cr _=>880
 | .rl=>870
 | .ds=>860
 | .Sz x=>500+rk m x
 | .ue=>400
 | .fin s=>s
structure Ph where
 P:Program
 L:WgLink
 tM:TypeId
 oe:Nat×Nat
 Wg:Nat
 Mu:Nat
 C:Nat
 B:Nat
 n:Nat
 n0:Nat
 f:Nat->dm->dm
 V:dm->Prop
 v0:dm
 locks:Nat->Bool
 Fin:(Nat->Prop)->(Nat->Prop)->Goroutine->World->Prop
namespace Ph
variable(p:Ph)
def I(w:World):Prop:=Lv p.L p.Wg w/\ajC p.tM p.Mu w
abbrev Lw(K:Lk->Nat->Goroutine->Prop)(x:Lk):Nat->Goroutine->Prop:=EN p.P p.I p.tM p.Mu p.B K x
abbrev Ls(E:Nat->Goroutine->Prop)(x:Lk):Nat->Goroutine->Prop:=iV p.P p.I p.tM p.Mu p.B E x
def UeS(d:Nat)(g:Goroutine):Prop:=d=1/\Says p.P false p.I #[Go.ConcR.mk .enable] (af p.P false (Lv p.L p.Wg) X0 (iP p.P p.L p.Wg) 0) g
def UnE:Nat->Goroutine->Prop:=af p.P false p.I X0 p.UeS
def DsS(d:Nat)(g:Goroutine):Prop:=d=0/\Says p.P false p.I #[Go.ConcR.mk .disable] (p.Ls p.UnE .own 1) g
def RlS(d:Nat)(g:Goroutine):Prop:=d=0/\Says p.P false p.I #[Go.ConcR.mk (.releaseMerge (stA p.Mu))] (af p.P false p.I X0 p.DsS 0) g
def CrS(i:Nat)(v:dm)(D:Nat->Prop)(d:Nat)(O:Nat->Prop)(g:Goroutine)(w:World):Prop:=
 d=0/\g.status=.running/\CellIs p.oe p.C (p.f i v) w/\∃(b:Goroutine) (a:Array Event),(∀w m q,p.I w->MuAt p.tM p.Mu w m q->stepG p.P false g w=.go b w a)/\(∀e∈a,jw p.Mu e)/\deafBehind 0 a=0/\af p.P false p.I X0 p.RlS 0 b
def UL(i:Nat)(O D:Nat->Prop)(w:World)(g:Goroutine):Prop:=
 ∀a v,aB O D w a->p.V v->CellIs p.oe p.C v a->¬O p.C->¬D p.C->p.C<a.heap.size->dY p.P false p.I X0 D (p.CrS i v D) 0 (fun b=>O b∨b=p.C) g a
def AcS(T:Goroutine->Prop)(d:Nat)(g:Goroutine):Prop:=d=0/\Says p.P false p.I #[Go.ConcR.mk (.acquire (stA p.Mu))] T g
def EnS(T:Goroutine->Prop)(d:Nat)(g:Goroutine):Prop:=d=1/\Says p.P false p.I #[Go.ConcR.mk .enable] (af p.P false p.I X0 (p.AcS T) 0) g
def LkE(T:Goroutine->Prop):Nat->Goroutine->Prop:=af p.P false p.I X0 (p.EnS T)
def aex(i:Nat)(d:Nat)(g:Goroutine):Prop:=d=0/\p.locks i=false/\af p.P false (Lv p.L p.Wg) X0 (iP p.P p.L p.Wg) 0 g
def ajG(i:Nat)(D:Nat->Prop)(d:Nat)(O:Nat->Prop)(g:Goroutine)(w:World):Prop:=d=0/\p.locks i=true/\Says p.P false p.I #[Go.ConcR.mk .disable] (p.Ls (p.LkE (p.UL i O D w)) .l0 1) g
def WLk(i:Nat)(D:Nat->Prop)(d:Nat)(O:Nat->Prop)(g:Goroutine)(w:World):Prop:=g.status=.running/\(p.ajG i D d O g w∨p.aex i d g)
def yA(i:Nat)(Nx:(Nat->Prop)->(Nat->Prop)->Goroutine->World->Prop)(D:Nat->Prop)(d:Nat)(O:Nat->Prop)(g:Goroutine)(w:World):Prop:=
 d=0/\g.status=.running/\∀a,aB O D w a->p.I a->∃(c child:Goroutine) (M H N:Nat->Prop),stepG p.P true g a=.spawn c child a #[]/\(∀b,M b->O b)/\(∀b,H b->O b/\¬M b)/\(∀b,N b->D b∨M b)/\
  dY p.P false p.I X0 N (p.WLk i N) 0 H child a/\Nx (fun b=>D b∨M b) (fun b=>O b/\¬M b/\¬H b) c a
def oU(i:Nat)(Nx:(Nat->Prop)->(Nat->Prop)->Goroutine->World->Prop)(D:Nat->Prop)(d:Nat)(O:Nat->Prop)(g:Goroutine)(w:World):Prop:=
 d=1/\g.status=.running/\∀v:Nat,v<2147483647->kP p.P true (Lv p.L p.Wg) (fun w=>WgAt p.L.tWg p.Wg w (v*KK) 0) (fun w=>w.setCell (stA p.Wg) (.int .u64 ((v+1)*KK))) #[rd (stA p.Wg),wr (stA p.Wg)]
  (fun b=>∀a,aB O D w a->dY p.P true p.I (XM p.Wg) D (p.yA i Nx D) 1 O b a) g
def J4:Nat->(Nat->Prop)->(Nat->Prop)->Goroutine->World->Prop
 |0,D,O,g,w=>dY p.P true p.I (XM p.Wg) D (iR p.P p.L p.Wg p.Fin D) 0 O g w
 |r+1,D,O,g,w=>dY p.P true p.I (XM p.Wg) D (p.oU (p.n-(r+1)) (J4 r) D) 0 O g w
def kQ:fM->Pos->Prop
 | .sp (r+1) 1,x=>dY p.P true p.I (XM p.Wg) x.D (p.oU (p.n-(r+1)) (p.J4 r) x.D) x.d x.O x.g x.w
 | .sp (r+1) 0,x=>dY p.P true p.I (XM p.Wg) x.D (p.yA (p.n-(r+1)) (p.J4 r) x.D) x.d x.O x.g x.w
 | .sp 0 1,x=>dY p.P true p.I (XM p.Wg) x.D (iR p.P p.L p.Wg p.Fin x.D) x.d x.O x.g x.w
 | .sp _ _,_=>False
 | .w1 _ a A,x=>Anch p.P p.L p.Wg a A/\(∀b,aB x.O x.D x.w b->p.Fin x.D x.O a b)/\af p.P true (Lv p.L p.Wg) (XM p.Wg) (M1 p.P p.L p.Wg a A) x.d x.g
 | .w2 v a A,x=>Anch p.P p.L p.Wg a A/\(∀b,aB x.O x.D x.w b->p.Fin x.D x.O a b)/\af p.P true (Lv p.L p.Wg) (XM p.Wg) (M2 p.P p.L p.Wg a A v) x.d x.g
 | .w3 a,x=>(∀b,aB x.O x.D x.w b->p.Fin x.D x.O a b)/\af p.P true (Lv p.L p.Wg) (XM p.Wg) (M3 p.P p.L p.Wg a) x.d x.g
 | .w4 a,x=>(∀b,aB x.O x.D x.w b->p.Fin x.D x.O a b)/\af p.P true (Lv p.L p.Wg) (XM p.Wg) (M4 p.P p.L p.Wg a) x.d x.g
 | .acq a,x=>(∀b,aB x.O x.D x.w b->p.Fin x.D x.O a b)/\af p.P true (Lv p.L p.Wg) (XM p.Wg) (NI p.P p.L p.Wg a) x.d x.g
def MNx:fM->Pos->Pos->Prop
 | .sp (r+1) 1=>NxD p.P true p.I fun D=>p.oU (p.n-(r+1)) (p.J4 r) D
 | .sp (r+1) 0=>NxD p.P true p.I fun D=>p.yA (p.n-(r+1)) (p.J4 r) D
 | .sp 0 1=>NxD p.P true p.I fun D=>iR p.P p.L p.Wg p.Fin D
 | .sp _ _=>fun _ _=>False
 | .w1 _ a A=>II p.P true (Lv p.L p.Wg) (M1 p.P p.L p.Wg a A)
 | .w2 v a A=>II p.P true (Lv p.L p.Wg) (M2 p.P p.L p.Wg a A v)
 | .w3 a=>II p.P true (Lv p.L p.Wg) (M3 p.P p.L p.Wg a)
 | .w4 a=>II p.P true (Lv p.L p.Wg) (M4 p.P p.L p.Wg a)
 | .acq a=>II p.P true (Lv p.L p.Wg) (NI p.P p.L p.Wg a)
theorem UM:∀(s:fM) (x:Pos),p.kQ s x->Acc (p.MNx s) x:=by
 intro s x h;cases s with
 |sp r s=>
  rcases r with _|r
  · rcases s with _|_|s
    ·exact h.elim
    ·exact dY.acc h
    ·exact h.elim
  · rcases s with _|_|s
    ·exact dY.acc h
    ·exact dY.acc h
    ·exact h.elim
 |w1 v a A=>exact af.acc h.2.2 x rfl rfl
 |w2 v a A=>exact af.acc h.2.2 x rfl rfl
 |w3 a=>exact af.acc h.2 x rfl rfl
 |w4 a=>exact af.acc h.2 x rfl rfl
 |acq a=>exact af.acc h.2 x rfl rfl
def St(i:Nat):WT->Pos->Nat->Goroutine->Prop
 | .KT y,x=>p.Lw (Nx (p.Ls (p.LkE (p.UL i x.O x.D x.w))) (p.LkE (p.UL i x.O x.D x.w))) y
 | .en,x=>p.EnS (p.UL i x.O x.D x.w)
 | .ac,x=>p.AcS (p.UL i x.O x.D x.w)
 | .rl,_=>p.RlS
 | .ds,_=>p.DsS
 | .Sz y,_=>p.Lw (Nx (p.Ls p.UnE) p.UnE) y
 | .ue,_=>p.UeS
 |_,_=>fun _ _=>False
def dF(i:Nat):WT->Pos->Prop
 | .work,x=>dY p.P false p.I X0 x.D (p.WLk i x.D) x.d x.O x.g x.w
 | .cr v,x=>dY p.P false p.I X0 x.D (p.CrS i v x.D) x.d x.O x.g x.w
 | .fin 7,x=>af p.P false (Lv p.L p.Wg) X0 (iP p.P p.L p.Wg) x.d x.g
 | .fin 5,x=>af p.P false (Lv p.L p.Wg) XD (AZ p.P p.L p.Wg) x.d x.g
 | .fin 4,x=>af p.P false (Lv p.L p.Wg) X0 (WLd p.P p.L p.Wg) x.d x.g
 | .fin 3,x=>af p.P false (Lv p.L p.Wg) X0 (WSt p.P p.L p.Wg) x.d x.g
 | .fin 2,x=>af p.P false (Lv p.L p.Wg) X0 (XV p.P p.L p.Wg) x.d x.g
 | .fin 1,x=>∃q,QuitsD p.P q x.d x.g
 | .fin _,_=>False
 |a,x=>af p.P false p.I X0 (p.St i a x) x.d x.g
def WNx(i:Nat):WT->Pos->Pos->Prop
 | .work=>NxD p.P false p.I fun D=>p.WLk i D
 | .cr v=>NxD p.P false p.I fun D=>p.CrS i v D
 | .fin 7=>II p.P false (Lv p.L p.Wg) (iP p.P p.L p.Wg)
 | .fin 5=>II p.P false (Lv p.L p.Wg) (AZ p.P p.L p.Wg)
 | .fin 4=>II p.P false (Lv p.L p.Wg) (WLd p.P p.L p.Wg)
 | .fin 3=>II p.P false (Lv p.L p.Wg) (WSt p.P p.L p.Wg)
 | .fin 2=>II p.P false (Lv p.L p.Wg) (XV p.P p.L p.Wg)
 | .fin 1=>NxQ p.P
 | .fin _=>fun _ _=>False
 |b=>fun a x=>a.O=x.O/\a.D=x.D/\a.w=x.w/\II p.P false p.I (p.St i b x) a x
theorem wz{i:Nat}{b:WT}{x:Pos}(h:af p.P false p.I X0 (p.St i b x) x.d x.g):Acc (fun a x=>a.O=x.O/\a.D=x.D/\a.w=x.w/\II p.P false p.I (p.St i b x) a x) x:=by
 have c:∀y,Acc (II p.P false p.I (p.St i b x)) y->y.O=x.O->y.D=x.D->y.w=x.w->Acc (fun a x=>a.O=x.O/\a.D=x.D/\a.w=x.w/\II p.P false p.I (p.St i b x) a x) y:=by
  intro y m;induction m with
  | intro y _ n=>
    intro f j k;refine .intro _ fun z o=>?_
    obtain⟨q,r,s,l⟩:=o
    have e:p.St i b y=p.St i b x:=by cases b<;>simp only[St,f,j,k]
    rw[e]at l;exact n z l (q.trans f) (r.trans j) (s.trans k)
 exact c x (af.acc h x rfl rfl) rfl rfl rfl
theorem UN(i:Nat):∀(s:WT) (x:Pos),p.dF i s x->Acc (p.WNx i s) x:=by
 intro s x h;match s,h with
 | .work,h=>exact dY.acc h
 | .cr v,h=>exact dY.acc h
 | .fin 7,h=>exact af.acc h x rfl rfl
 | .fin 5,h=>exact af.acc h x rfl rfl
 | .fin 4,h=>exact af.acc h x rfl rfl
 | .fin 3,h=>exact af.acc h x rfl rfl
 | .fin 2,h=>exact af.acc h x rfl rfl
 | .fin 1,h=>obtain⟨q,a⟩:=h;exact uH q x a
 | .fin 0,h=>exact h.elim
 | .fin 6,h=>exact h.elim
 | .fin (s+8),h=>exact h.elim
 | .KT y,h=>exact p.wz h
 | .en,h=>exact p.wz h
 | .ac,h=>exact p.wz h
 | .rl,h=>exact p.wz h
 | .ds,h=>exact p.wz h
 | .Sz y,h=>exact p.wz h
 | .ue,h=>exact p.wz h
end Ph
end Go.Mx
namespace Go.Mx
open Go.Ren
open Go.Conc hiding Goes
open Go.Conc.Lib Go.Conc.Locks Go.RowKit
open Go.ConcN (upd)
open Go.ConcR (KK stA smA rd wr DC0)
def IJ:Code->Option Code
 | .loop c=>some c
 | .seq x y=>match IJ x with|some c=>some c|none=>IJ y
 | .block _ c=>IJ c
 |_=>none
def XW:Code->Option Code
 | .seq (.block _ _) r=>some r
 | .seq _ y=>XW y
 |_=>none
def Dj(L:ag):Code:=(kS L).body.getD .skip
def XX(L:ag):Code:=(IJ (Dj L)).getD .skip
def XY(L:ag):Code:=(XW (Dj L)).getD .skip
end Go.Mx
namespace Go.Sy
open Go.Ren
open Go.Conc hiding Goes
inductive E where
 |b (x:Bool)|i (k:IntKind) (z:Int)|v (n:Nat)
 deriving DecidableEq
def E.den(a:Nat->Value):E->Value
 | .b x=>.bool x
 | .i k z=>.int k z
 | .v n=>a n
abbrev Env:=List (Nat×Option E)
def get:Env->Nat->Option E
 | [],_=>none
 |(j,x)::r,k=>if j==k then x else get r k
def put(e:Env)(d:Option Nat)(x:Option E):Env:=match d with
 |some d=>(d,x)::e
 |none=>e
inductive Key where
 |bin (op:BinOp) (x y:E)|fld (x:E) (i:Nat)|nil (x:E)
 deriving DecidableEq
abbrev Tab:=List (Key×E)
def look:Tab->Key->Option E
 | [],_=>none
 |(j,x)::r,k=>if j=k then some x else look r k
def Ba(e:Env):Operand->Option E
 | .tmp t=>get e t
 | .const (.bool b)=>some (.b b)
 | .const (.int k z)=>some (.i k z)
 |_=>none
def opv(T:Tab)(e:Env)(o:Oper):Option (E×List TypeId):=match o.op with
 | .move x|.assign x=>(Ba e x).map (·,[])
 | .pick c a b=>match Ba e c with
  | some (.b true)=>(Ba e a).map (·,[])
  | some (.b false)=>(Ba e b).map (·,[])
  | _=>none
 | .nilCheck x=>((Ba e x).bind fun x=>look T (.nil x)).map (·,[])
 | .binOp op _ x y _=>match Ba e x,Ba e y with
  | some x,some y=>(look T (.bin op x y)).map (·,[])
  | _,_=>none
 | .unOp .not _ x=>match Ba e x with
  | some (.b t)=>some (.b !t,[])
  | _=>none
 | .fieldAddr s x f=>((Ba e x).bind fun x=>look T (.fld x f)).map (·,[s])
 |_=>none
def tu(a:Array Oper)(e:Env)(o:Oper):Option Bool:=match o.guard with
 |none=>some true
 |some (g,b)=>match(a[g]?).bind (·.dst)with
  | some d=>match get e d with
    |some (.b t)=>some (t==b)
    |_=>none
  | none=>none
structure S where
 env:Env
 todo:List Item
 log:List TypeId
def GI(a:Nat)(o:Oper):Bool:=match o.dst with
 |some d=>d<a
 |none=>true
def step(e:Nat)(T:Tab)(s:S):Option S:=match s.todo with
 | .code .skip::k=>some {s with todo:=k}
 | .code (.seq x y)::k=>some {s with todo:=.code x::.code y::k}
 | .code (.cond c x y)::k=>match Ba s.env c with
  | some (.b t)=>some {s with todo:=.code (if t then x else y)::k}
  | _=>none
 | .code (.block id c)::k=>some {s with todo:=.code c::.inBlock id::k}
 | .code (.loop c)::k=>some {s with todo:=.code c::.inLoop c::k}
 | .inLoop c::k=>some {s with todo:=.code c::.inLoop c::k}
 | .inBlock _::k=>some {s with todo:=k}
 | .code (.exit id)::k=>(exitTo id k).map fun k=>{s with todo:=k}
 | .code (.region _ d false)::k=>some {s with todo:=.inRegion d (List.range d.size)::k}
 | .inRegion _ []::k=>some {s with todo:=k}
 | .inRegion d (i::rest)::k=>match d[i]? with
  | some o=>if GI e o=false then none else match tu d s.env o with
    |some true=>match opv T s.env o with
     |some (x,l)=>some ⟨put s.env o.dst (some x),.inRegion d rest::k,l++s.log⟩
     |none=>none
    |some false=>some {s with env:=put s.env o.dst none,todo:=.inRegion d rest::k}
    |none=>none
  | none=>none
 |_=>none
def run(a:Nat)(T:Tab):Nat->S->S
 |0,s=>s
 |n+1,s=>match step a T s with
  | some s=>run a T n s
  | none=>s
def Agree(a:Nat->Value)(e:Env)(A:Array Value):Prop:=∀k x,get e k=some x->A[k]?=some (x.den a)
def Yields{a:Type}(P:Program)(e:Sem a)(v:a):Prop:=∀w,Sem.run P e w=.ok v w/\∀b,Sem.events P e w b=b
def tC(P:Program)(c:TypeId)(a:Nat->Value)(k:Key)(z:E):Prop:=match k with
 | .bin op x y=>∀(b:TypeId) (d e:Operand),Yields P (do eqGuard op b d e (x.den a) (y.den a);binOp op b (x.den a) (y.den a)) (z.den a)
 | .fld x i=>Yields P (Instr.fieldAt c (x.den a) i) (z.den a)
 | .nil x=>z=x/\∃q,x.den a=.pointer (some q)
def aZ(P:Program)(a:TypeId)(b:Nat->Value)(T:Tab):Prop:=∀p∈T,tC P a b p.1 p.2
end Go.Sy
namespace Go.Sy
open Go.Ren
open Go.Conc hiding Goes
section
variable{P:Program}{m:TypeId}{i:Nat->Value}{T:Tab}{e:Env}{A:Array Value}{o:Oper}
theorem o9{a:Type}(v:a):Yields P (pure v:Sem a) v:=fun w=>⟨by simp[go_sem],fun b=>by simp[go_sem]⟩
theorem wB{a c:Type}{f:Sem a}{v:a}(g:a->c)(h:Yields P f v):Yields P (do pure (g (←f))) (g v):=fun w=>by
 obtain⟨b,d⟩:=h w
 exact⟨by simp[go_sem,b],fun j=>by simp[go_sem,b,d]⟩
theorem look_ok(h:aZ P m i T){k:Key}{z:E}(a:look T k=some z):tC P m i k z:=by
 induction T with
 |nil=>cases a
 |cons p T b=>
  obtain⟨j,x⟩:=p
  unfold look at a;split at a
  · rename_i e;subst e;cases a;exact h _ (List.mem_cons_self ..)
  · exact b (fun q c=>h q (List.mem_cons_of_mem _ c)) a
theorem fE(h:Agree i e A){ds:List Deferred}{x:Operand}{z:E}(a:Ba e x=some z):Act.eval ⟨A,ds⟩ x=z.den i:=by
 unfold Ba at a;split at a
 ·rename_i t;have:=h t z a
  simp[Act.eval,Array.getD_eq_getD_getElem?,this]
 ·cases a;rfl
 ·cases a;rfl
 ·cases a
theorem Agree.put(h:Agree i e A){d:Option Nat}{x:Option E}{y:Value}(f:∀z,x=some z->y=z.den i)(hd:∀k,d=some k->k<A.size):Agree i (put e d x) ((Act.put ⟨A,[]⟩ d y).tmps):=by
 intro k z a;unfold Act.put;cases d with
 |none=>exact h k z a
 |some d=>
  have b:=hd d rfl
  simp only[Go.Sy.put,get]at a;dsimp only
  split at a
  · rename_i c;have:d=k:=by simpa using c
    subst this;rw[Array.getElem?_setIfInBounds_self_of_lt b,f z a]
  · rename_i c;have:d≠k:=by simpa using c
    rw[Array.getElem?_setIfInBounds_ne this];exact h k z a
theorem aey(n:aZ P m i T)(h:Agree i e A){ds:List Deferred}{z:E}{l:List TypeId}(d:opv T e o=some (z,l))(B:∀t∈l,t=m):Yields P (execOp (Act.eval ⟨A,ds⟩) o) (.value (z.den i)):=by
 unfold opv at d;unfold execOp;split at d
 ·rename_i x j;rw[j];cases g:Ba e x with
  | none=>rw[g]at d;cases d
  | some y=>rw[g]at d;simp only[Option.map_some,Option.some.injEq,Prod.mk.injEq]at d;obtain⟨rfl,rfl⟩:=d;dsimp only;rw[fE h g];exact o9 _
 ·rename_i x j;rw[j];cases g:Ba e x with
  | none=>rw[g]at d;cases d
  | some y=>rw[g]at d;simp only[Option.map_some,Option.some.injEq,Prod.mk.injEq]at d;obtain⟨rfl,rfl⟩:=d;dsimp only;rw[fE h g];exact o9 _
 ·rename_i c a b j;rw[j];dsimp only
  split at d
  · rename_i p;rw[fE h p];cases g:Ba e a with
    |none=>rw[g]at d;cases d
    |some y=>rw[g]at d;simp only[Option.map_some,Option.some.injEq,Prod.mk.injEq]at d;obtain⟨rfl,rfl⟩:=d;rw[fE h g];exact fun w=>⟨by simp[go_sem,E.den,asBool],fun C=>by simp[go_sem,E.den,asBool]⟩
  · rename_i p;rw[fE h p];cases g:Ba e b with
    |none=>rw[g]at d;cases d
    |some y=>rw[g]at d;simp only[Option.map_some,Option.some.injEq,Prod.mk.injEq]at d;obtain⟨rfl,rfl⟩:=d;rw[fE h g];exact fun w=>⟨by simp[go_sem,E.den,asBool],fun C=>by simp[go_sem,E.den,asBool]⟩
  · cases d
 ·rename_i x j;rw[j];dsimp only
  cases g:Ba e x with
  | none=>rw[g]at d;cases d
  | some y=>
    rw[g]at d;simp only[Option.bind_some]at d;cases k:look T (.nil y)with
    |none=>rw[k]at d;cases d
    |some u=>
     rw[k]at d;simp only[Option.map_some,Option.some.injEq,Prod.mk.injEq]at d;obtain⟨rfl,rfl⟩:=d
     obtain⟨rfl,q,D⟩:=look_ok n k
     rw[fE h g,D];exact o9 _
 ·rename_i op v x y r j;rw[j];dsimp only
  split at d
  · rename_i a b F H;cases k:look T (.bin op a b)with
    |none=>rw[k]at d;cases d
    |some u=>
     rw[k]at d;simp only[Option.map_some,Option.some.injEq,Prod.mk.injEq]at d;obtain⟨rfl,rfl⟩:=d
     rw[fE h F,fE h H];exact wB Next.value (look_ok n k v x y)
  · cases d
 ·rename_i v x j;rw[j];dsimp only
  split at d
  · rename_i t J;simp only[Option.some.injEq,Prod.mk.injEq]at d;obtain⟨rfl,rfl⟩:=d
    rw[fE h J];exact wB Next.value (o9 _)
  · cases d
 ·rename_i s x f j;rw[j];dsimp only
  cases g:Ba e x with
  | none=>rw[g]at d;cases d
  | some y=>
    rw[g]at d;simp only[Option.bind_some]at d;cases k:look T (.fld y f)with
    |none=>rw[k]at d;cases d
    |some u=>
     rw[k]at d;simp only[Option.map_some,Option.some.injEq,Prod.mk.injEq]at d;obtain⟨rfl,rfl⟩:=d
     obtain rfl:=B s (List.mem_cons_self ..)
     rw[fE h g];exact wB Next.value (look_ok n k)
 ·cases d
theorem yL(h:Agree i e A){f:Array Oper}{b:Bool}(a:tu f e o=some b):Region.wanted o (yielded f A)=b:=by
 unfold tu at a;unfold Region.wanted;split at a
 ·rename_i j;rw[j];cases a;rfl
 ·rename_i g c j;rw[j];dsimp only
  split at a
  · rename_i d hd;split at a
    ·rename_i t k;cases a;have:=h d _ k
     simp only[yielded,hd,Option.bind_some,this,E.den]
     cases t<;>cases c<;>rfl
    ·cases a
  · cases a
end
end Go.Sy
namespace Go.Sy
open Go.Ren
open Go.Conc hiding Goes
section
variable{P:Program}{j:TypeId}{g:Nat->Value}{T:Tab}{A:Array Value}{f:Nat}{m:Bool}{b:Frame}{ds:List Deferred}{cs:List Frame}{s c:S}
theorem XZ{o:Oper}(h:¬GI f o=false)(a:A.size=f):∀k,o.dst=some k->k<A.size:=by
 intro k d;unfold GI at h;rw[d]at h;dsimp only at h;rw[a];simpa using h
theorem step_ok(D:aZ P j g T)(E:b.kind≠.early)(n:A.size=f)(h:Agree g s.env A)(d:step f T s=some c)(F:∀t∈c.log,t=j):
  (∀t∈s.log,t∈c.log)/\∃r:Array Value,r.size=f/\Agree g c.env r/\∀w,stepG P m (G (b.at ⟨A,ds⟩ s.todo) cs) w=.go (G (b.at ⟨r,ds⟩ c.todo) cs) w #[]:=by
 obtain⟨e,y,log⟩:=s
 unfold step at d;dsimp only at d h⊢;split at d
 ·cases d;exact⟨fun _ x=>x,A,n,h,fun w=>stepG_skip⟩
 ·cases d;exact⟨fun _ x=>x,A,n,h,fun w=>stepG_seq⟩
 ·split at d
  · rename_i t p;cases d;exact⟨fun _ x=>x,A,n,h,fun w=>stepG_cond (fE h p)⟩
  · cases d
 ·cases d;exact⟨fun _ x=>x,A,n,h,fun w=>stepG_block⟩
 ·cases d;exact⟨fun _ x=>x,A,n,h,fun w=>stepG_loop⟩
 ·cases d;exact⟨fun _ x=>x,A,n,h,fun w=>stepG_inLoop⟩
 ·cases d;exact⟨fun _ x=>x,A,n,h,fun w=>stepG_inBlock⟩
 ·rename_i id k;cases u:exitTo id k with
  | none=>rw[u]at d;cases d
  | some M=>rw[u]at d;cases d;exact⟨fun _ x=>x,A,n,h,fun w=>stepG_exit u⟩
 ·cases d;exact⟨fun _ x=>x,A,n,h,fun w=>stepG_region⟩
 ·cases d;exact⟨fun _ x=>x,A,n,h,fun w=>stepG_region_end⟩
 ·rename_i H i rest k;split at d
  · rename_i o B;split at d
    ·cases d
    ·rename_i hd;have q:=XZ hd n
     split at d
     ·rename_i v;split at d
      ·rename_i x l J;cases d;have C:=aey (ds:=ds) D h J fun t p=>F t (List.mem_append_left _ p)
       refine⟨fun t p=>List.mem_append_right _ p,(Act.put ⟨A,[]⟩ o.dst (x.den g)).tmps,?_,h.put (fun z n=>by cases n;rfl) q,fun w=>?_⟩
       ·unfold Act.put;split<;>simp[n]
       ·have L:=stepG_value (P:=P) (main:=m) (cs:=cs) (b:=b) (a:=⟨A,ds⟩) (k:=k) (rest:=rest) B (yL h v) E (C w).1;rw[L];unfold listed;rw[(C w).2,seen_none];unfold Act.put;cases o.dst<;>rfl
      ·cases d
     ·rename_i v;cases d;refine⟨fun _ x=>x,(Act.put ⟨A,[]⟩ o.dst undef).tmps,?_,h.put (fun z n=>by cases n) q,fun w=>?_⟩
      ·unfold Act.put;split<;>simp[n]
      ·rw[stepG_unwanted B (yL h v)];unfold Act.put;cases o.dst<;>rfl
     ·cases d
  · cases d
 ·cases d
theorem SA(d:∀{s c:S},step f T s=some c->∀t∈s.log,t∈c.log):∀(n:Nat) (s:S),∀t∈s.log,t∈(run f T n s).log
 |0,s,t,a=>a
 |n+1,s,t,a=>by
  unfold run;split
  · rename_i c h;exact SA d n c t (d h t a)
  · exact a
theorem X3{s c:S}(h:step f T s=some c):∀t∈s.log,t∈c.log:=by
 obtain⟨e,d,log⟩:=s
 intro t a;unfold step at h;dsimp only at h;split at h
 ·cases h;exact a
 ·cases h;exact a
 ·split at h
  · cases h;exact a
  · cases h
 ·cases h;exact a
 ·cases h;exact a
 ·cases h;exact a
 ·cases h;exact a
 ·rename_i id k;cases i:exitTo id k with
  | none=>rw[i]at h;cases h
  | some l=>rw[i]at h;cases h;exact a
 ·cases h;exact a
 ·cases h;exact a
 ·split at h
  · split at h
    ·cases h
    ·split at h
     ·split at h
      ·cases h;exact List.mem_append_right _ a
      ·cases h
     ·cases h;exact a
     ·cases h
  · cases h
 ·cases h
theorem X4{I:World->Prop}{X:Event->Prop}{Q:Nat->Goroutine->Prop}{d:Nat}(p:aZ P j g T)(q:b.kind≠.early):∀(n:Nat) (s:S) (A:Array Value),A.size=f->Agree g s.env A->(∀t∈(run f T n s).log,t=j)->
  (∀a:Array Value,a.size=f->Agree g (run f T n s).env a->af P m I X Q d (G (b.at ⟨a,ds⟩ (run f T n s).todo) cs))->af P m I X Q d (G (b.at ⟨A,ds⟩ s.todo) cs)
 |0,s,A,i,h,e,k=>k A i h
 |n+1,s,A,i,h,e,k=>by
  unfold run at e k;split at e
  · rename_i c l;rw[l]at k;obtain⟨_,a,o,r,u⟩:=step_ok (m:=m) (ds:=ds) (cs:=cs) p q i h l fun t v=>e t (SA X3 n c t v)
    refine .step rfl (fun _=>G (b.at ⟨a,ds⟩ c.todo) cs) (fun _=>#[]) (fun w _=>⟨u w,by simp⟩) fun w _=>?_
    exact X4 p q n c a o r e k
  · rename_i l;rw[l]at k;exact k A i h
end
end Go.Sy
