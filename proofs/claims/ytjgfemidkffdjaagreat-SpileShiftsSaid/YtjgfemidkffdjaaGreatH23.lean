import Derived.Test.YtjgfemidkffdjaaGreatH6
import Derived.Test.YtjgfemidkffdjaaGreatH16
import Derived.Test.YtjgfemidkffdjaaGreatH22
set_option linter.all false
namespace Go.Mx.Ph
open Go.Ren
open Go.Conc hiding Goes mem_ofEvents Deaf
open Go.Conc.Lib (WgLink)
variable{p:Ph}{D F O O':Nat->Prop}{d i:Nat}{g:Goroutine}{w w' a:World}{Nx c:(Nat->Prop)->(Nat->Prop)->Goroutine->World->Prop}
def beside(p:Ph)(F:Nat->Prop)(a:World):Ph:={p with Fin:=Ij F a p.Fin}
theorem yA.frame(u:∀D O g w,Nx D O g w->Fr F D O a w->c D (fun b=>O b∨F b) g w)(h:p.yA i Nx D d O g w)(n:Fr F D O a w):(p.beside F a).yA i c D d (fun b=>O b∨F b) g w:=by
 obtain⟨l,q,v⟩:=h
 refine⟨l,q,fun m t y=>?_⟩;obtain⟨z,child,M,H,N,A,r,s,B,C,E⟩:=v m (n.less t) y
 have j:=n.rely t
 refine⟨z,child,M,H,N,A,fun b k=>.inl (r b k),fun b k=>⟨.inl (s b k).1,(s b k).2⟩,B,C,?_⟩;have e:(fun b=>(O b∨F b)/\¬M b/\¬H b)=fun b=>(O b/\¬M b/\¬H b)∨F b:=by
   funext b;apply propext;constructor
   ·rintro⟨l|l,q⟩
    ·exact .inl ⟨l,q⟩
    ·exact .inr l
   ·rintro(h|h)
    ·exact⟨.inl h.1,h.2⟩
    ·exact⟨.inr h,fun x=>(n.f b h).2 (r b x),fun x=>(n.f b h).2 (s b x).1⟩
 rw[e];refine u _ _ _ _ E ⟨fun b k=>⟨(j.f b k).1,fun x=>(j.f b k).2 x.1⟩,fun b k=>?_,fun b k=>j.o b k.1,j.keep,j.size,j.os,j.output⟩;rcases k with k|k
 · exact⟨(j.d b k).1,fun x=>(j.d b k).2 x.1⟩
 · exact⟨j.o b (r b k),fun x=>x.2.1 k⟩
theorem J4.frame:∀(r:Nat) {D O:Nat->Prop} {g:Goroutine} {w:World},p.J4 r D O g w->Fr F D O a w->(p.beside F a).J4 r D (fun b=>O b∨F b) g w
 | 0,D,O,g,w,h,m=>by
   refine(dY.frame h m).mono ?_;rintro d O' y w' ⟨f,⟨z,A,n,o,q⟩,rfl,e⟩;exact⟨z,A,n,o,fun j k=>⟨f,q j (e.less k),rfl,e.rely k⟩⟩
 | r+1,D,O,g,w,h,m=>by
   refine(dY.frame h m).mono ?_;rintro d O' y w' ⟨f,⟨n,o,q⟩,rfl,e⟩;refine⟨n,o,fun v B=>?_⟩;obtain⟨s,C,E⟩:=q v B
   refine⟨s,C,fun j k=>?_⟩;refine(dY.frame (E j (e.less k)) (e.rely k)).mono ?_;rintro d H t u ⟨x,J,rfl,l⟩;exact yA.frame (fun D O g w=>J4.frame r) J l
end Go.Mx.Ph
namespace Go.Am
open Go.Conc (born QuitsD G dcall)
open Go.Conc.Lib
open Go.ConcR (WgAt)
open Go.Ren (grow gU aT aB Wk dY Idle af X0 XS XM Lv iP iR At aH Keep full Own Fr Ij)
open Go.Mx (CellIs dm ag fC MuAt)
section
variable{P:Program}{c y:Env}{O O' D:Nat->Prop}{F W U Z Z':Nat->Prop}{N:Nat}{h h':AH}{w u q:World}{base R:List Frame}{a a':aN}{f:Frame}{s r s₀:AS}{pl:bI}{g g':Goroutine}{L:WgLink}{M:ag}{z:Machine->Outcome->World->Trace->Prop}{m:Machine}{t:Trace}{A E J Q j:Nat}
def AS.kill(s:AS)(b:Nat):AS:=⟨s.fr,s.cs,s.h.kill b⟩
theorem mJ.kill{B:cZ}(S:mJ P c O D base s g w)(hd:aP s.fr=true)(o:c.born j)(p:s.h.look j=some B)(v:B.gB=none)(b:B.ro=false)(C:(s.h.dn.get s.h.n).getD []=[]):mJ P c (fun x=>O x/\x≠(c.to j).1) D base (s.kill j) g w:=by
 obtain⟨⟨i,f,R,H,T,V,X⟩,d⟩:=S
 refine⟨⟨i,f,R,?_,T,.plain (V.f0 fun Y l k e=>?_),X⟩,d.kill o p v b C⟩
 · show i<=(s.h.kill j).n;rw[Ol];exact H
 · unfold aP at hd;rw[e]at hd;cases hd
def Folds(n:Nat)(locks:Nat->Bool)(f:Nat->dm->dm)(v0 v:dm):Prop:=∀order:List Nat,order.Nodup->(∀i,i∈order↔i<n/\locks i=true)->order.foldl (fun a k=>f k a) v0=v
theorem Sd.afF[aO P]{B:cZ}{e:TypeId}{fz:Nat×Nat}{v0 v:dm}{V:dm->Prop}{fn:Nat->dm->dm}{locks:Nat->Bool}{n:Nat}{Fin:AS->Prop}(H:fC P M)(HL:xk P L)(S:Sd P base F q W U Z N c s g w m t)(b2:U A)(b3:U E)(c8:A≠E)(b4:c.born J/\c.to J=(A,0))(b5:c.born Q/\c.to Q=(E,0))
   (b6:WgAt L.tWg A w 0 0) (c9:MuAt M.mu.tMutex E w ⟨0,0,0,0⟩ 0) (T:c.born j) (hl:s.h.look j=some B) (ho:B.obj=.cells v0 e fz) (hf:B.gB=none) (a6:B.ro=false) (hk:(s.h.dn.get s.h.n).getD []=[]) (hd:aP s.fr=true)
   (hn:n<63) (hV:∀v,V v->∀x∈v,Plain x) (d0:∀k v,V v->V (fn k v)) (b7:V v0) (a7:Folds n locks fn v0 v)
   (b8:∀r,Fin r->aP r.fr=true/\r.h.look j=none) {lf:List Nat} (k:ou P pl L M J Q j V fn locks n Fin n ⟨s.fr,s.cs,(s.h.kill j).forget lf⟩):
   aH P z (fun m t=>∃(y:Env) (r:AS) (g':Goroutine) (u:World) (W' Z':Nat->Prop) (N':Nat),Fin r/\c.Le y/\Sd P base F q W' (fun _=>False) Z' N' y (r.tell j v) g' u m t) m t:=by
 have a8:=S.st.Na.rel.YP T hl (Bq a6) ho (hV v0 b7)
 have a0:=S.st.Na.rel.abX T hl hf
 have a1:full Z w (c.to j).1:=(S.st.Na.rel.own j B T hl).1 a6;have hS:=(S.st.Na.kill hd T hl hf a6 hk).forget lf hd;let p:Go.Mx.Ph:={P:=P,L:=L,tM:=M.mu.tMutex,oe:=((c.to j).2,c.ext j),Wg:=A,Mu:=E,C:=(c.to j).1,B:=62,n:=n,n0:=N,f:=fn,V:=V,v0:=v0,locks:=locks,Fin:=Xl P c base Fin}
 have names:Names c p J Q j:=⟨b4.1,b4.2,b5.1,b5.2,T,rfl,rfl,a0⟩
 haveI:aO p.P:=(inferInstance:aO P)
 have hs:p.J4 n (fun _=>False) (fun x=>full Z w x/\x≠(c.to j).1) g w:=DL (p:=p) (Fin:=Fin) (Kv:=c) (base:=base) H HL ⟨w,0,0,b6⟩ (by show 62<63;omega) hV rfl n k hS (.refl c) names
 have d4:Fr F (fun _=>False) (fun x=>full Z w x/\x≠(c.to j).1) q w:=⟨fun b i=>⟨S.st.lt b (S.fz b i),fun x=>x.1.2 (S.fz b i)⟩,fun b i=>i.elim,fun b i=>i.1.1,S.keep.1,S.keep.2.1,S.keep.2.2.1,S.keep.2.2.2⟩
 have b9:=Go.Mx.Ph.J4.frame n hs d4
 have c0:¬F (c.to j).1:=fun hf=>a1.2 (S.fz _ hf);have eO:(fun b=>(full Z w b/\b≠(c.to j).1)∨F b)=fun b=>full (fun b=>Z b/\¬F b) w b/\b≠(c.to j).1:=by
   rw[RJ S.fz S.st.lt];funext b;apply propext;constructor
   ·rintro(h|h)
    ·exact⟨.inl h.1,h.2⟩
    ·exact⟨.inr h,fun e=>c0 (e▸h)⟩
   ·rintro⟨h|h,h2⟩
    ·exact .inl ⟨h,h2⟩
    ·exact .inr h
 rw[eO]at b9;have a4:=(S.st.at_.alone).drop (Z':=fun b=>Z b/\¬F b) fun b i=>⟨S.wu b i,fun hf=>S.UC b hf i⟩
 have d5:full (fun b=>Z b/\¬F b) w (c.to j).1:=by rw[RJ S.fz S.st.lt];exact .inl a1
 refine(Go.Mx.Ph.phase (p:=p.beside F q) (W:=W) (U:=U) (by show n<=62;omega) d0 (by show n<2147483647;omega) b2 b3 c8 d5 b9 b6 c9 a8 b7 a4).mono ?_;rintro m t ⟨u,gT,O,D,order,a4,⟨c1,⟨y,r,hF,a2,a5⟩,hO,l⟩,X,h1,h2,h3,h4⟩;have hN:1<=N+n:=At.N1 a4
 obtain⟨d6,d7⟩:=b8 r hF
 have c2:(p.beside F q).fold order=v:=a7 order h1 h2
 rw[c2]at h4;have d8:∀b,c1 b->O 0 b:=fun b i=>by rw[hO];exact .inl i
 have c3:∀b,F b->O 0 b:=fun b i=>by rw[hO];exact .inr i
 have a9:∀b,O 0 b∨D 0 b->¬(Go.Mx.Ph.W1 p W b)/\b≠(c.to j).1:=fun b i=>by
   have:¬(Go.Mx.Ph.W1 p W b∨b=(c.to j).1):=i.elim (X.ow 0 b (by show 0<N+n;omega)) (X.dw 0 b (by show 0<N+n;omega))
   exact⟨fun x=>this (.inl x),fun x=>this (.inr x)⟩
 have d9:¬(Go.Mx.Ph.W1 p W (c.to j).1):=by
   rintro(x|x|x)
   ·exact a1.2 (S.wu _ (.inl x))
   ·exact a1.2 (by rw[x];exact S.wu _ (.inr b2))
   ·exact a1.2 (by rw[x];exact S.wu _ (.inr b3))
 have c4:(c.to j).1<u.heap.size:=X.wV _ (.inr rfl)
 have c5:=a2.born _ T
 have a3:=a2.to _ T
 have c6:=a2.ext _ T
 have c7:¬y.bg j:=fun x=>a0 ((a2.bg _ T).1 x)
 let Zn:Nat->Prop:=fun b=>Go.Mx.Ph.W1 p W b∨F b;have b0:Rel y (fun b=>full Zn u b/\b≠(c.to j).1) (fun _=>False) r.h u:=a5.rel.all fun b i=>by
   rcases i with i|i
   ·have:=a9 b (.inl (d8 b i))
    exact⟨⟨l.o b i,fun x=>x.elim this.1 fun hf=>(l.f b hf).2 i⟩,this.2⟩
   ·have:=a9 b (.inr i)
    exact⟨⟨(l.d b i).1,fun x=>x.elim this.1 fun hf=>X.od 0 0 b (by show 0<N+n;omega) (by show 0<N+n;omega) (c3 b hf) i⟩,this.2⟩
 have b1:mJ P y (fun b=>full Zn u b/\b≠(c.to j).1) (fun _=>False) base r gT u:=⟨a5.run,b0⟩
 have e1:∀v,V v->V v:=fun v h=>h
 have e0:V v:=by have:=h3;rw[c2]at this;exact this
 have Y:=b1.tell (b:=j) (v:=v) d6 c5 d7 c7 (hV v e0) (by rw[a3,c6];exact h4) (by rw[a3];exact fun x=>x.2 rfl) (fun x=>x)
 rw[a3]at Y;have eF:(fun x=>(full Zn u x/\x≠(c.to j).1)∨x=(c.to j).1)=full Zn u:=by
   funext b;apply propext;constructor
   ·rintro(h|rfl)
    ·exact h.1
    ·exact⟨c4,fun x=>x.elim d9 fun hf=>c0 hf⟩
   ·intro h;by_cases e:b=(c.to j).1
    ·exact .inr e
    ·exact .inl ⟨h,e⟩
 rw[eF]at Y;refine⟨y,r,gT,u,Go.Mx.Ph.W1 p W,Zn,N+n,hF,a2,⟨⟨a4.drop fun b i=>.inl i,Y,fun b i=>?_⟩,?_,fun b i=>.inr i,?_,⟨l.keep,l.size,l.os,l.output⟩⟩⟩
 · rcases i with i|i
   ·exact X.wV b (.inl i)
   ·exact(l.f b i).1
 · rintro b (i|i)
   ·exact .inl i
   ·exact i.elim
 · rintro b hf (i|i)
   ·exact(a9 b (.inl (c3 b hf))).1 i
   ·exact i
end
end Go.Am
namespace Go.Am
open Go.Conc.Lib
open Go.Ren (grow gU aT aB Wk At aH Keep full)
open Go.Mx (dm ag fC)
def iv(l:List Int):dm:=(l.map fun n=>Value.int .i64 n).toArray
def unv(v:dm):List Int:=v.toList.map fun x=>match x with|.int _ n=>n|_=>0
theorem Om(l:List Int):unv (iv l)=l:=by
 unfold unv iv;simp only[List.map_map]
 conv=>rhs;rw[←List.map_id l]
 rfl
theorem LH(l:List Int):∀x∈iv l,Plain x:=by
 intro x a;unfold iv at a;simp only[List.mem_toArray,List.mem_map]at a;obtain⟨n,_,rfl⟩:=a
 exact iG (n:=1) rfl
def VIn(a:List (List Int))(v:dm):Prop:=∃l∈a,v=iv l
def Jb(n:Nat)(locks:Nat->Bool)(f:Nat->List Int->List Int)(k:Nat)(v:dm):dm:=if k<n/\locks k=true then iv (f k (unv v))else v
noncomputable section
def YU(P:Program)(L:WgLink)(a b:Nat)(s:AS):Bool:=match s.cs with
 | []=>match s.fr.todo with
   | .drawn ..::_=>false
   |_=>Ik P L a b s.fr
 | _=>false
def ain(o:Oper)(n:Nat):Bool:=match o.dst with
 | some d=>decide (d<n)
 | none=>true
def YV(P:Program)(a:FuncId)(b:Nat)(s:AS):Option AS:=match opAt s with
 | some o=>match o.guard with
   |none=>match o.op with
    | .call c=>match c.callee with
     | .value (.func f)=>match c.args.toList with
      | [.tmp t]=>if f==a&&s.fr.round.isNone&&jl 3 (s.fr.tmps.getD t undef) (.pointer (some ⟨b,0,none⟩))&&(decide (t<s.fr.tmps.size))&&ain o s.fr.tmps.size then Nr P s s.h (.tuple #[])else none
      |_=>none
     |_=>none
    |_=>none
   |some _=>none
 | none=>none
def afG(P:Program)(L:WgLink)(e:FuncId)(g h:Nat)(a:aN):Bool:=
 a.ret&&a.dk&&a.round.isNone&&(match P.funcs[a.fn]? with|some i=>i.results.size==0|none=>false)&&match a.defers with
   | [⟨.fn (.func f) d,args⟩,⟨.fn (.func j) c,b⟩]=>f==e&&d.size==0&&jl 3 (.tuple args) (.tuple #[.pointer (some ⟨h,0,none⟩)])&&j==L.done&&c.size==0&&jl 3 (.tuple b) (.tuple #[.pointer (some ⟨g,0,none⟩)])
   |_=>false
def afH(P:Program)(L:WgLink)(b:FuncId)(d e f g:Nat)(l:List Int)(s:AS):Bool:=match s.cs with
 | []=>aP s.fr&&(match pJ g s.fr with|some a=>afG P L b d e a|none=>false)&&(match s.h.look f with|some B=>!B.ro&&(match B.obj with|.cells c _ _=>jl 9 (.agg c) (.agg (iv l))|_=>false)|none=>false)
 | _=>false
def YW(P:Program)(d:bI)(T:Tr TI)(e:Tr Func)(L:WgLink)(f:FuncId)(g h i j n:Nat)(l:List Int)(s:AS):Bool:=match jb P d T e 100 s with
 | .inl a=>match Il P a with
   |some b=>match jb P d T e n b with
    | .inl c=>afH P L f g h i j l c
    | .inr _=>false
   |none=>false
 | .inr _=>false
def YX(P:Program)(d:bI)(T:Tr TI)(e:Tr Func)(L:WgLink)(M:ag)(g c b i n:Nat)(j:List (List Int))(f:List Int->List Int)(s:AS):Bool:=match YV P M.mu.lock c s with
 | some a=>aP a.fr&&(a.h.look b).isNone&&j.all fun l=>YW P d T e L M.mu.unlock g c b i n (f l) (a.tell b (iv l))
 | none=>false
def aio(P:Program)(b:bI)(T:Tr TI)(e:Tr Func)(a:AS->Bool)(n d:Nat):AS->Bool:=
 Nat.rec (fun _=>false) (fun _ f s=>match jb P b T e n s with
   | .inr _=>false
   | .inl s=>bif a s then true else match Di s with
     |some o=>bif Nat.beq ((execOp (ay s.fr.tmps) o).arity P s.h) 0 then false else allB (fun c=>match aI P b (some c) s with
      |some (.go g)=>f g
      |_=>false) ((execOp (ay s.fr.tmps) o).arity P s.h)
     |none=>false) d
end
section
variable{P:Program}{pl:bI}{L:WgLink}{M:ag}{j p q u y n d k:Nat}{s s':AS}{T:Tr TI}{r:Tr Func}{w:List (List Int)}{f:Nat->List Int->List Int}{locks:Nat->Bool}{l:List Int}{ul z:FuncId}{a:aN}
theorem Oo(h:YU P L j u s=true):Xe P L j s:=by
 unfold YU at h;split at h
 · rename_i b;split at h
   ·cases h
   ·rename_i c;obtain⟨g,q1,m,o⟩:=Io h
    exact⟨b,fun i l k e=>c i l k e,u,g,q1,m,o⟩
 · cases h
theorem YY{x:Value}{b:Nat}(h:jl 3 x (.pointer (some ⟨b,0,none⟩))=true):x=.pointer (some ⟨b,0,none⟩):=iT _ _ _ h
theorem Oq{p:Nat}(h:YV P z p s=some s'):adP P z p s s':=by
 unfold YV at h;split at h
 · rename_i o D;obtain⟨E,g,i,l,k,F,H,J,N⟩:=nN D
   split at h
   ·rename_i O;split at h
    ·rename_i c m;split at h
     ·rename_i f x;split at h
      ·rename_i t A;split at h
       ·rename_i B;simp only[Bool.and_eq_true,beq_iff_eq,Option.isNone_iff_eq_none,decide_eq_true_eq]at B;obtain⟨⟨⟨⟨rfl,Q⟩,R⟩,C⟩,hd⟩:=B
        obtain⟨U,V,W⟩:=qc h
        obtain⟨callee,as,v⟩:=c
        dsimp only at x A;subst x;have has:as=#[.tmp t]:=by rw[←Array.toArray_toList (xs:=as),A]
        subst has;have b:=YY R
        refine⟨E,Q,g,i,l,k,o,t,v,U,F,H,J,N,O,m,?_,fun d e=>?_,V,W⟩
        ·have:s.fr.tmps.getD t undef=s.fr.tmps[t]:=by simp[Array.getD,C]
         rw[this]at b;rw[←b];simp[C]
        ·unfold ain at hd;rw[e]at hd;simpa using hd
       ·cases h
      ·cases h
     ·cases h
    ·cases h
   ·cases h
 · cases h
theorem Vh(h:afG P L ul j p a=true):afC P L ul j p a:=by
 unfold afG at h;simp only[Bool.and_eq_true,Option.isNone_iff_eq_none]at h;obtain⟨⟨⟨⟨t,v⟩,x⟩,c⟩,b⟩:=h
 refine⟨t,v,?_,?_,x⟩
 · split at c
   ·rename_i A e;exact⟨A,e,Array.eq_empty_of_size_eq_zero (by simpa using c)⟩
   ·cases c
 · split at b
   ·rename_i f B args E o g hd;simp only[Bool.and_eq_true,beq_iff_eq]at b;obtain⟨⟨⟨⟨⟨rfl,C⟩,D⟩,rfl⟩,i⟩,m⟩:=b
    rw[hd,xm D,Array.eq_empty_of_size_eq_zero C,xm m,Array.eq_empty_of_size_eq_zero i]
   ·cases b
theorem Vj(h:afH P L ul j p q u l s=true):adQ P L ul j p q (iv l) s:=by
 unfold afH at h;split at h
 · rename_i g;simp only[Bool.and_eq_true]at h;obtain⟨⟨m,i⟩,b⟩:=h
   refine⟨g,m,?_,?_,LH l⟩
   ·split at i
    ·rename_i a o;exact⟨u,a,o,Vh i⟩
    ·cases i
   ·split at b
    ·rename_i B t;rw[Bool.and_eq_true]at b;obtain⟨v,b⟩:=b
     split at b
     ·rename_i c e f x;have:=iT _ _ _ b
      cases this;exact⟨B,e,f,t,x,by simpa using v⟩
     ·cases b
    ·cases b
 · cases h
theorem Ot(K:aZ P T)(KF:gq P r)(h:YW P pl T r L ul j p q u y l s=true):YR P pl L ul j p q (iv l) s:=by
 unfold YW at h;split at h
 · rename_i i b;split at h
   ·rename_i c e;split at h
    ·rename_i m g;exact(jo K KF 100 b).bind fun s h=>by
      subst h;exact .here ⟨c,Aa e,(jo K KF y g).bind fun s o=>by subst o;exact .here (Vj h)⟩
    ·cases h
   ·cases h
 · cases h
theorem Ou(K:aZ P T)(KF:gq P r)(h:YX P pl T r L M j p q u y w (f k) s=true){g:dm->dm}(i:∀l∈w,g (iv l)=iv (f k l)):Oj P pl L M j p q (VIn w) g s:=by
 unfold YX at h;split at h
 · rename_i b c;simp only[Bool.and_eq_true,Option.isNone_iff_eq_none,List.all_eq_true]at h;obtain⟨⟨m,o⟩,t⟩:=h
   refine⟨b,Oq c,m,o,?_⟩;rintro v ⟨l,e,rfl⟩;rw[i l e];exact Ot K KF (t l e)
 · cases h
noncomputable section
def aip(t:List (Nat×List Int×List Int))(k:Nat)(l:List Int):List Int:=List.rec l (fun x _ b=>bif Nat.beq x.1 k&&decide (x.2.1=l)then x.2.2 else b) t
def Aw(P:Program)(pl:bI)(T:Tr TI)(r:Tr Func)(n:Nat)(l:List Nat)(s:AS):Option AS:=match jb P pl T r 100 s with
 | .inl b=>match Il P b with
   |some c=>stepS P pl T r n l c
   |none=>none
 | .inr _=>none
def Az(P:Program)(pl:bI)(T:Tr TI)(r:Tr Func)(L:WgLink)(M:ag)(j p q u y:Nat)(w:List (List Int))(f:Nat->List Int->List Int)(locks:Nat->Bool)(k n a:Nat)(s:AS):Bool:=match jb P pl T r n s with
 | .inl c=>match vZ P pl a c with
   |some (.go b)=>bif locks k then YX P pl T r L M j p q u y w (f k) b else YU P L j u b
   |_=>false
 | .inr _=>false
end
def aiq(P:Program)(pl:bI)(L:WgLink)(M:ag)(j p q:Nat)(V:dm->Prop)(f:dm->dm)(c:Bool)(b:AS):Prop:=(c=false/\Xe P L j b)∨(c=true/\Oj P pl L M j p q V f b)
theorem kX[aO P]{V:dm->Prop}{h:dm->dm}{i:Bool}{o:List Nat}(K:aZ P T)(KF:gq P r)(e:Aw P pl T r n o s=some s')(k:Way P (aiq P pl L M j p q V h i) s'):DJ P pl L M j p q V h i s:=by
 unfold Aw at e;split at e
 · rename_i m b;split at e
   ·rename_i c g;refine(jo K KF 100 b).bind fun s t=>?_
    subst t;exact .here ⟨c,Aa g,(Way.stepS K KF e).then k⟩
   ·cases e
 · cases e
theorem kY[aO P](K:aZ P T)(KF:gq P r){m d:Nat}(o:k<m)(h:Az P pl T r L M j p q u y w f locks k n d s=true):Way P (aiq P pl L M j p q (VIn w) (Jb m locks f k) (locks k)) s:=by
 unfold Az at h;split at h
 · rename_i g b;split at h
   ·rename_i i c;refine bJ.way (pl:=pl) ((jo K KF n b).bind fun s t=>?_);subst t;refine jg d c ?_;cases e:locks k with
    |true=>rw[e]at h;exact .here (.inr ⟨rfl,Ou K KF h fun l _=>by unfold Jb;rw[if_pos ⟨o,e⟩,Om]⟩)
    |false=>rw[e]at h;exact .here (.inl ⟨rfl,Oo h⟩)
   ·cases h
 · cases h
end
end Go.Am
namespace Go.Am
open Go.Conc.Lib
open Go.ConcR (WgAt)
open Go.Ren (grow gU aT aB Wk At aH Keep full)
open Go.Mx (CellIs dm ag fC MuAt)
theorem Ov{g r:Type}{f:r->g->g}{V:g->Prop}{l s:List r}(h:l.Perm s):(∀i∈l,∀v,V v->V (f i v))->(∀i∈l,∀j∈l,∀v,V v->f i (f j v)=f j (f i v))->∀v,V v->l.foldl (fun a k=>f k a) v=s.foldl (fun a k=>f k a) v:=by
 induction h with
 | nil=>intro _ _ v _;rfl
 | cons x _ u=>
   intro c d v e;simp only[List.foldl_cons]
   exact u (fun i b=>c i (.tail _ b)) (fun i b j m=>d i (.tail _ b) j (.tail _ m)) _ (c x (.head _) v e)
 | swap x y l=>
   intro c d v e;simp only[List.foldl_cons]
   rw[d x (.tail _ (.head _)) y (.head _) v e]
 | trans p q n o=>intro c d v e;rw[n c d v e];exact o (fun i b=>c i (p.symm.subset b)) (fun i b j m=>d i (p.symm.subset b) j (p.symm.subset m)) v e
def Ox(n:Nat)(locks:Nat->Bool):List Nat:=(List.range n).filter locks
def LJ(n:Nat)(locks:Nat->Bool)(f:Nat->List Int->List Int)(b:List (List Int))(c v:List Int):Bool:=
 b.contains c&&(Ox n locks).all (fun i=>b.all fun l=>b.contains (f i l))&&(Ox n locks).all (fun i=>(Ox n locks).all fun j=>b.all fun l=>f i (f j l)==f j (f i l))&&(Ox n locks).foldl (fun a k=>f k a) c==v
section
variable{P:Program}{ρ D:Env}{F W U Z:Nat->Prop}{N:Nat}{h:AH}{w w' u:World}{base cs:List Frame}{f:Nat->List Int->List Int}{locks:Nat->Bool}{O:List (List Int)}{n:Nat}{l0 v:List Int}{s s' p ws:AS}{pl:bI}{g g':Goroutine}{L:WgLink}{M:ag}{dU:Machine->Outcome->World->Trace->Prop}{m:Machine}{t:Trace}
 {gb mb vb r E J:Nat} {l:List Nat} {Fin:AS->Prop} {T:Tr TI} {Q:Tr Func}
theorem Vk(h:LJ n locks f O l0 v=true):VIn O (iv l0)/\(∀k v,VIn O v->VIn O (Jb n locks f k v))/\Folds n locks (Jb n locks f) (iv l0) (iv v):=by
 unfold LJ at h;simp only[Bool.and_eq_true,List.all_eq_true,List.contains_iff_mem,beq_iff_eq]at h;obtain⟨⟨⟨q,y⟩,A⟩,B⟩:=h
 have mem:∀i,i∈Ox n locks↔i<n/\locks i=true:=fun i=>by unfold Ox;simp
 refine⟨⟨l0,q,rfl⟩,?_,?_⟩
 · rintro k _ ⟨l,c,rfl⟩;unfold Jb;split
   ·rename_i C;rw[Om];exact⟨_,y k ((mem k).2 C) l c,rfl⟩
   ·exact⟨l,c,rfl⟩
 · intro order H e;have R:order.Perm (Ox n locks):=(List.perm_ext_iff_of_nodup H (List.nodup_range.filter _)).2 fun a=>(e a).trans (mem a).symm;have o:∀(d:List Nat),(∀i∈d,i<n/\locks i=true)->∀l,d.foldl (fun a k=>Jb n locks f k a) (iv l)=iv (d.foldl (fun a k=>f k a) l):=by
    intro d;induction d with
    |nil=>intro _ l;rfl
    |cons x d X=>
     intro z l;simp only[List.foldl_cons]
     have:Jb n locks f x (iv l)=iv (f x l):=by unfold Jb;rw[if_pos (z x (.head _)),Om]
     rw[this];exact X (fun i b=>z i (.tail _ b)) _
   rw[o order (fun i b=>(e i).1 b)];have:=Ov (V:=fun l=>l∈O) R (fun i b l c=>y i ((mem i).2 ((e i).1 b)) l c) (fun i b j Y l c=>A i ((mem i).2 ((e i).1 b)) j ((mem j).2 ((e j).1 Y)) l c) l0 q
   rw[this,B]
structure Oy(P:Program)(M:ag)(s s':AS):Prop where
 run:s.fr.ret=false
 at_:∃ops i l k o z a',s.fr.todo=.region ops (i::l)::k/\ops[i]?=some o/\Region.wanted o (yielded ops s.fr.tmps)=true/\o.op=.alloc M.mu.tMutex/\zeroOf P M.mu.tMutex=some z/\z.cells=#[.int .i32 0,.int .u32 0]/\
   s.h.look s.h.n=none/\aA P s.fr s.h.blank (.pointer (some ⟨s.h.n,0,none⟩))=some a'/\s'=⟨a',s.cs,s.h.blank⟩
def DN(P:Program)(M:ag)(s:AS):Option AS:=match opAt s with
 | some o=>match o.op with
   | .alloc t=>match zeroOf P t with
    |some z=>if t==M.mu.tMutex&&(s.h.look s.h.n).isNone&&jl 3 (.agg z.cells) (.agg #[.int .i32 0,.int .u32 0])then Nr P s s.h.blank (.pointer (some ⟨s.h.n,0,none⟩))else none
    |none=>none
   |_=>none
 | none=>none
theorem LK(h:DN P M s=some s'):Oy P M s s':=by
 unfold DN at h;split at h
 · rename_i o e;obtain⟨j,b,i,l,k,q,x,y,V⟩:=nN e
   split at h
   ·rename_i t c;split at h
    ·rename_i z A;split at h
     ·rename_i d;simp only[Bool.and_eq_true,beq_iff_eq,Option.isNone_iff_eq_none]at d;obtain⟨⟨rfl,B⟩,a⟩:=d
      obtain⟨C,H,R⟩:=qc h
      exact⟨j,b,i,l,k,o,z,C,q,x,y,c,A,Xm a,B,H,R⟩
     ·cases h
    ·cases h
   ·cases h
 · cases h
theorem St.mutex[aO P]{s':AS}(S:St P base W U Z N ρ s g w m t)(k:Oy P M s s'):
   aH P dU (fun m t=>∃(D:Env) (g':Goroutine) (w':World) (d:Nat),ρ.Le D/\St P base W (fun b=>U b∨b=d) (fun b=>Z b∨b=d) N D s' g' w' m t/\Keep Z w w'/\D.born s.h.n/\D.to s.h.n=(d,0)/\MuAt M.mu.tMutex d w' ⟨0,0,0,0⟩ 0/\∀b,Z b->b≠d) m t:=by
 obtain⟨j,a1,i,l,k,o,z,a',t1,t2,t3,Y,t6,t7,B,C,H⟩:=k
 refine(S.agP (c:=[]) j t1).bind ?_;rintro m t ⟨D,lo,f,cs,w',R,A,V,y⟩;have a2:¬D.born s.h.n:=fun x=>Nat.lt_irrefl _ (A.rel.fresh _ x)
 have X:VR (D.add s.h.n (w'.heap.size,0) False 0 0) (.pointer (some ⟨s.h.n,0,none⟩)) (.pointer (some ⟨w'.heap.size,0,none⟩)):=by
   have e:(Value.pointer (some ⟨w'.heap.size,0,none⟩))=.pointer (some ((D.add s.h.n (w'.heap.size,0) False 0 0).addr ⟨s.h.n,0,none⟩)):=by simp only[Env.addr,dA]
   rw[e];exact .ptr (.inl rfl)
 refine(Kw (v:=.pointer (some ⟨s.h.n,0,none⟩)) (v':=.pointer (some ⟨w'.heap.size,0,none⟩)) (obj:=.cells #[.int .i32 0,.int .u32 0] M.mu.tMutex (0,0)) A V (y.lt S.lt) t2 t3 (fun q hq=>by rw[Y]at hq;cases hq) (fun a0 a=>?_) B C X).mono ?_
 · rw[←t7];exact yC Y t6 a
 · rintro m t ⟨h1,h2,h3,h4⟩;subst H;refine⟨_,_,_,w'.heap.size,R.trans h1,h4,y.trans ⟨fun b x=>?_,by simp,.rfl,rfl⟩,h2,h3,?_,fun b x=>?_⟩
   ·have:=y.lt S.lt b x
    simp only[World.alloc]
    rw[Array.getElem?_push,if_neg (by omega)]
   ·show(w'.heap.push _)[w'.heap.size]?=_
    simp[Go.Mx.Wd.num]
   ·have:=y.lt S.lt b x
    omega
theorem Sd.mutex[aO P]{s':AS}(S:Sd P base F u W U Z N ρ s g w m t)(k:Oy P M s s'):
   aH P dU (fun m t=>∃(D:Env) (g':Goroutine) (w':World) (c:Nat),ρ.Le D/\Sd P base F u W (fun b=>U b∨b=c) (fun b=>Z b∨b=c) N D s' g' w' m t/\Keep Z w w'/\D.born s.h.n/\D.to s.h.n=(c,0)/\MuAt M.mu.tMutex c w' ⟨0,0,0,0⟩ 0/\∀b,Z b->b≠c) m t:=by
 refine(S.st.mutex k).mono ?_;rintro m t ⟨D,g',w',c,j,o,e,q,x,y,i⟩;refine⟨D,g',w',c,j,⟨o,?_,fun b a=>.inl (S.fz b a),?_,S.Ky e⟩,e,q,x,y,i⟩
 · rintro b (a|a|a)
   ·exact .inl (S.wu b (.inl a))
   ·exact .inl (S.wu b (.inr a))
   ·exact .inr a
 · rintro b d (a|a|a)
   ·exact S.UC b d (.inl a)
   ·exact S.UC b d (.inr a)
   ·exact i b (S.fz b d) a
def dh(P:Program)(L:WgLink)(M:ag)(base:List Frame)(F:Nat->Prop)(u:World)(mb:Nat)(gb:Option Nat)(s:AS)(m:Machine)(t:Trace):Prop:=
 ∃(W U Z:Nat->Prop) (N:Nat) (ρ:Env) (g:Goroutine) (w:World),Sd P base F u W U Z N ρ s g w m t/\∃a,U a/\ρ.born mb/\ρ.to mb=(a,0)/\MuAt M.mu.tMutex a w ⟨0,0,0,0⟩ 0/\
   match gb with
   |none=>True
   |some gb=>∃b,U b/\b≠a/\ρ.born gb/\ρ.to gb=(b,0)/\WgAt L.tWg b w 0 0
theorem y7{a:Nat}{d:Go.Mx.Wd}{q:Nat}{b:TypeId}(h:MuAt b a w d q)(k:Keep Z w w')(c:Z a):MuAt b a w' d q:=(k.1 a c).trans h
theorem Hg{c:Nat}{a b:Int}{d:TypeId}(h:WgAt d c w a b)(k:Keep Z w w')(e:Z c):WgAt d c w' a b:=(k.1 c e).trans h
theorem bK.mutex[aO P](e:DN P M s=some s')(S:bK P L base F u .idle s m t):aH P dU (dh P L M base F u s.h.n none s') m t:=by
 obtain⟨W,U,Z,N,ρ,g,w,S,j⟩:=S
 refine(S.mutex (LK e)).mono ?_;rintro m t ⟨D,g',w',a,k,b,o,c,d,i,q⟩;exact⟨_,_,_,_,_,_,_,b,a,.inr rfl,c,d,i,trivial⟩
theorem dh.reach[aO P]{o:Option Nat}{K:AS->Prop}(k:bJ P pl K s)(S:dh P L M base F u mb o s m t):aH P dU (fun m t=>∃s',K s'/\dh P L M base F u mb o s' m t) m t:=by
 obtain⟨W,U,Z,N,ρ,g,w,S,i,b,c,j,q,x⟩:=S
 refine(S.reach k).mono ?_;rintro m t ⟨D,s',g',w',y,a,z,d⟩;refine⟨s',y,W,U,Z,N,D,g',w',z,i,b,a.born _ c,(a.to _ c).trans j,y7 q d (S.wu _ (.inr b)),?_⟩;cases o with
 | none=>trivial
 | some gb=>
   obtain⟨A,q1,B,e,C,H⟩:=x
   exact⟨A,q1,B,a.born _ e,(a.to _ e).trans C,Hg H d (S.wu _ (.inr q1))⟩
theorem dh.way{o:Option Nat}{K:AS->Prop}(k:Way P K s)(S:dh P L M base F u mb o s m t):aH P dU (fun m t=>∃s',K s'/\dh P L M base F u mb o s' m t) m t:=by
 obtain⟨W,U,Z,N,ρ,g,w,S,i,b,c,j,q,x⟩:=S
 refine(S.way k).mono ?_;rintro m t ⟨D,s',g',w',y,a,z,d⟩;refine⟨s',y,W,U,Z,N,D,g',w',z,i,b,a.born _ c,(a.to _ c).trans j,y7 q d (S.wu _ (.inr b)),?_⟩;cases o with
 | none=>trivial
 | some gb=>
   obtain⟨A,q1,B,e,C,H⟩:=x
   exact⟨A,q1,B,a.born _ e,(a.to _ e).trans C,Hg H d (S.wu _ (.inr q1))⟩
theorem dh.on{o:Option Nat}(k:Way P (· =s') s)(S:dh P L M base F u mb o s m t):aH P dU (dh P L M base F u mb o s') m t:=by
 refine(S.way k).mono ?_;rintro m t ⟨p,rfl,h⟩;exact h
theorem dh.forget{o:Option Nat}(l:List Nat)(hd:aP s.fr=true)(S:dh P L M base F u mb o s m t):dh P L M base F u mb o ⟨s.fr,s.cs,s.h.forget l⟩ m t:=by
 obtain⟨W,U,Z,N,ρ,g,w,S,h⟩:=S
 exact⟨W,U,Z,N,ρ,g,w,S.forget l hd,h⟩
theorem dh.step[aO P](K:aZ P T)(KF:gq P Q){o:Option Nat}{n:Nat}(e:stepS P pl T Q n l s=some s')(S:dh P L M base F u mb o s m t):aH P dU (dh P L M base F u mb o s') m t:=by
 unfold stepS at e;split at e
 · rename_i p a;split at e
   ·rename_i hd;cases e;refine(S.reach (jo K KF n a)).mono ?_;rintro m t ⟨s',rfl,b⟩;exact b.forget l hd
   ·cases e
 · cases e
theorem dh.group[aO P](e:Cj P L s=some s')(S:dh P L M base F u mb none s m t):aH P dU (dh P L M base F u mb (some s.h.n) s') m t:=by
 obtain⟨W,U,Z,N,ρ,g,w,S,b,a,c,i,j,B⟩:=S
 refine(S.group (Kz e)).mono ?_;rintro m t ⟨D,g',w',k,d,o,q,x,y,z,A⟩;exact⟨_,_,_,_,_,_,_,o,b,.inl a,d.born _ c,(d.to _ c).trans i,y7 j q (S.wu _ (.inr a)),k,.inr rfl,fun e=>A b (S.wu _ (.inr a)) e.symm,x,y,z⟩
theorem Vl{C:AS->Prop}(e:goS P s=some (ws,s'))(A:C ws):afD P C s s':=by
 unfold goS at e;split at e
 · rename_i o B;obtain⟨H,b,i,l,k,R,V,X,Y⟩:=nN B
   split at e
   ·rename_i c d;split at e
    ·rename_i x hx;split at e
     ·rename_i j first q hf
      split at e
      ·rename_i y;simp only[Bool.and_eq_true,Option.isNone_iff_eq_none]at y;split at e
       ·rename_i z a;cases e;obtain⟨a',h6,h7⟩:=qc a
        exact⟨H,y.2,b,i,l,k,o,c,x,j,first,q,a',R,V,X,Y,d,hx,hf,y.1,A,h6,h7⟩
       ·cases e
      ·cases e
     ·cases e
    ·cases e
   ·cases e
 · cases e
theorem jV{V:dm->Prop}{d:Nat->dm->dm}(e:iU P pl L gb E J s=some (ws,s'))(j:DJ P pl L M gb mb vb V (d (n-(r+1))) (locks (n-(r+1))) ws)(k:ou P pl L M gb mb vb V d locks n Fin r s'):ou P pl L M gb mb vb V d locks n Fin (r+1) s:=by
 unfold iU at e;split at e
 · rename_i p a;split at e
   ·rename_i c o;split at e
    ·rename_i i b;exact jg E a (.here ⟨c,CB o,jg J b (.here ⟨s',Vl e j,k⟩)⟩)
    ·cases e
   ·cases e
 · cases e
noncomputable section
def DT(vb a:Nat)(l0:List Int)(b:List Nat)(s:AS):Option AS:=match s.h.look vb with
 | some B=>match B.obj with
   | .cells c _ _=>if jl 3 (s.fr.tmps.getD a undef) (.pointer (some ⟨vb,0,none⟩))&&jl 9 (.agg c) (.agg (iv l0))&&B.gB.isNone&&!B.ro&&((s.h.dn.get s.h.n).getD []).isEmpty&&aP s.fr then some ⟨s.fr,s.cs,(s.h.kill vb).forget b⟩else none
   |_=>none
 | none=>none
def TQ(P:Program)(pl:bI)(L:WgLink)(gb n vb:Nat)(v:List Int)(l:List Nat)(s:AS):Option AS:=match adn P pl L gb n s with
 | some p=>bif aP p.fr&&(p.h.look vb).isNone then some ⟨p.fr,p.cs,((p.h.tell vb (iv v)).forget l).lY⟩else none
 | none=>none
end
def TR(vb:Nat)(v:List Int)(l:List Nat)(s' p:AS):Prop:=aP p.fr=true/\p.h.look vb=none/\s'=⟨p.fr,p.cs,((p.h.tell vb (iv v)).forget l).lY⟩
theorem AA{V:dm->Prop}{d:Nat->dm->dm}{k:Nat}(e:TQ P pl L gb k vb v l s=some s'):ou P pl L M gb mb vb V d locks n (TR vb v l s') 0 s:=by
 unfold TQ adn at e;split at e
 · rename_i p b;split at b
   ·rename_i c i;cases a:aP p.fr&&(p.h.look vb).isNone with
    |false=>rw[a]at e;cases e
    |true=>rw[a]at e;cases e;rw[Bool.and_eq_true,Option.isNone_iff_eq_none]at a;exact jg k i (.here ⟨p,CB b,a.1,a.2,rfl⟩)
   ·cases b
 · cases e
theorem dh.phase[aO P](H:fC P M)(A:xk P L)(C:n<63){d:Nat}{R:List Nat}(a:DT vb d l0 R s=some p)(V:LJ n locks f O l0 v=true)(k:ou P pl L M gb mb vb (VIn O) (Jb n locks f) locks n (TR vb v l s') n p)(S:dh P L M base F u mb (some gb) s m t):
   aH P dU (bK P L base F u .idle s') m t:=by
 obtain⟨W,U,Z,N,ρ,g,w,S,mu,X,Y,h3,h4,wg,q1,q2,q3,q4,q5⟩:=S
 obtain⟨f1,f2,f3⟩:=Vk V
 unfold DT at a;split at a
 · rename_i B hB;split at a
   ·rename_i c e fz ho;split at a
    ·rename_i q;cases a;simp only[Bool.and_eq_true,Option.isNone_iff_eq_none,Bool.not_eq_true',List.isEmpty_iff]at q;obtain⟨⟨⟨⟨⟨c0,c1⟩,c2⟩,c3⟩,c4⟩,b⟩:=q
     have i:=iT _ _ _ c1
     cases i;have j:ρ.born vb:=by
      obtain⟨⟨lo,f,cs,_,_,hf,_⟩,_⟩:=S.st.Na
      have o:=hf.f0 fun a0 l k e=>by unfold aP at b;rw[e]at b;cases b
      have:=xZ o.tmps d
      rw[YY c0]at this;generalize f.tmps.getD d undef=y at this
      cases this with
      |ptr h=>exact h
     refine(S.afF H A q1 X q2 ⟨q3,q4⟩ ⟨Y,h3⟩ q5 h4 j hB ho c2 c3 c4 b C (fun v ⟨l,_,e⟩=>e▸LH l) f2 f1 f3 (fun s' h=>⟨h.1,h.2.1⟩) k).mono ?_;rintro m t ⟨D,x,g',w',W',Z',N',⟨z,k2,rfl⟩,k4,k5⟩;exact⟨_,_,_,_,_,_,_,(k5.forget l z).IB z,trivial⟩
    ·cases a
   ·cases a
 · cases a
noncomputable section
def muS(P:Program)(pl:bI)(L:WgLink)(M:ag)(a b vb j:Nat)(l0:List Int)(k:List Nat)(s:AS):Option (Nat×Nat×AS):=match vZ P pl a s with
 | some (.go c)=>match DN P M c with
   |some p=>match vZ P pl b p with
    |some (.go d)=>match Cj P L d with
     |some e=>match DT vb j l0 k e with
      |some i=>some (c.h.n,d.h.n,i)
      |none=>none
     |none=>none
    |_=>none
   |none=>none
 | _=>none
end
noncomputable section
def muG(P:Program)(pl:bI)(L:WgLink)(M:ag)(a b:Nat)(i:List Nat)(s:AS):Option (Nat×Nat×AS):=match vZ P pl a s with
 | some (.go d)=>match DN P M d with
   |some p=>match vZ P pl b p with
    |some (.go e)=>match Cj P L e with
     |some c=>bif aP c.fr then some (d.h.n,e.h.n,⟨c.fr,c.cs,c.h.forget i⟩)else none
     |none=>none
    |_=>none
   |none=>none
 | _=>none
end
theorem bK.muG[aO P]{a b:Nat}{A:List Nat}(e:muG P pl L M a b A s=some (mb,gb,p))(S:bK P L base F u .idle s m t):aH P dU (dh P L M base F u mb (some gb) p) m t:=by
 unfold Go.Am.muG at e;split at e
 · rename_i c d;split at e
   ·rename_i B i;split at e
    ·rename_i C j;split at e
     ·rename_i k o;cases hd:aP k.fr with
      |false=>rw[hd]at e;cases e
      |true=>
       rw[hd]at e;cases e;refine aH.bind (K:=bK P L base F u .idle c) ?_ fun m t q=>?_
       ·obtain⟨W,U,Z,N,ρ,g,w,S,R⟩:=S
        refine(S.reach (jg a d (.here rfl))).mono ?_;rintro m t ⟨D,s',g',w',rfl,V,H,X⟩;exact⟨_,_,_,_,_,_,_,H,trivial⟩
       ·refine(bK.mutex i q).bind fun m t x=>(x.reach (jg b j (.here rfl))).bind ?_;rintro m t ⟨s',rfl,y⟩;exact(dh.group o y).mono fun m t z=>z.forget A hd
     ·cases e
    ·cases e
   ·cases e
 · cases e
end
end Go.Am
namespace Go.Am
open Go.Conc (born QuitsD G scase rcase Good)
open Go.Conc.Lib
open Go.ConcR (WgAt)
open Go.Ren (grow gU aT aB Wk dY Idle af X0 At aH Keep full Tm)
section
variable{P:Program}{i σ:Env}{F W U Z Z':Nat->Prop}{N:Nat}{h h':AH}{w a d:World}{base:List Frame}{s s' s₀:AS}{pl:bI}{g g':Goroutine}{L:WgLink}{dU:Machine->Outcome->World->Trace->Prop}{m:Machine}{t:Trace}{c:aN}{cs:List aN}{fid:FuncId}{v:Value}{args:Array Value}
theorem Sd.ends{o:Value->World->Prop}{K:Machine->Trace->Prop}{T:Func}{B:AH}(S:Sd P [] F d W U Z N i s g w m t)(C:s.cs=[])(z:aP s.fr=true)(D:s.fr.ret=true)(V:s.fr.defers=[])(Y:s.fr.dk=false)(a0:P.funcs[s.fr.fn]?=some T)(hx:(results T s.fr.tmps).ar P none s.h=some (v,B))(a1:P.inits.idxOf? s.fr.fn=none)(hv:Plain v)
   (hP:∀a,Keep F d a->o v a):aH P (Good P o) K m t:=by
 obtain⟨⟨lo,f,cs,a9,rfl,hf,y⟩,b0⟩:=S.st.Na
 rw[C]at y;cases y;have a2:∀j,∃O a Q,stepG P true (dZ f ([]++[])) (w.at j)=.ended (.done O) a Q/\aT X0 (full Z w) (fun _=>False) (w.at j) a Q/\o O a:=fun j=>by
   obtain⟨⟨b1,A,E,a6,hg,a3,p⟩,H⟩:=S.st.Na.at j
   have R:A=f/\E=[]:=by rw[C]at p;cases p;exact⟨by injection hg with e1 _;exact e1.symm,rfl⟩
   obtain⟨rfl,rfl⟩:=R
   have q:F0 i s.fr A:=a3.f0 fun b2 l k e=>by unfold aP at z;rw[e]at z;cases z
   have n:A.mode=.returning:=by
    have:=q.mode
    rw[D]at this;exact this
   have r:=q.defers
   rw[V]at r;have u:=q.toFB.normal Y
   have J:A.fn=s.fr.fn:=q.fn
   obtain⟨τ,O,a,Q,h1,M,h3,h4,h5,h8,h9⟩:=y8 (X:=X0) ((DU T q.tmps).yB H hx) A.fn
   have a4:=hv.eq h4
   subst a4;refine⟨O,a,seen P A.fn Q,?_,M,hP a (S.keep.trans ⟨fun b R=>?_,M.size,.of M.os,M.output⟩)⟩
   ·obtain⟨fn,a7,a8,defers,mode,kind,ro⟩:=A
    dsimp only at n u J r h1;subst n u J;cases r;rw[stepG_ret rfl];simp only[unwind,a0]
    rw[h1];simp[doReturn,a1,GStep.after,List.append_nil]
   ·have a5:=S.st.lt b (S.fz b R)
    exact M.heap b a5 fun x=>x.2 (S.fz b R)
 exact Go.Ren.At.ends rfl S.st.at_ a2
end
end Go.Am
namespace Go.Ren
section
variable{P:Program}{O i D l A F:Nat->Prop}{w c w₂ d:World}{g j:Goroutine}{X:Event->Prop}{I:World->Prop}{m:Bool}
theorem gU.TS{B:Nat}{e:Event}(h:gU X B O l e)(f:∀b,l b->O b∨D b):gU X B O D e:=by
 rcases h with h|h
 · exact .inl h
 · right;revert h;cases e.loc with
   |cell a=>exact fun h=>h.elim .inl fun x=>(f _ x.1).imp id fun y=>⟨y,x.2⟩
   |obj r=>exact fun h=>h.elim .inl fun x=>(f _ x.1).imp id fun y=>⟨y,x.2⟩
   |_=>exact id
theorem Wk.TS{S:(Nat->Prop)->Goroutine->World->Prop}(h:Wk P m I X l S O g w):(∀b,l b->O b∨D b)->Wk P m I X D S O g w:=by
 induction h with
 | stop h=>intro _;exact .stop h
 | @step O g w t f u v h k x=>
   intro p;have a:∀c,aB O D w c->aB O l w c:=fun c r=>⟨r.size,r.own,fun b o=>(p b o).elim (r.own b) (r.ro b),r.os,r.output,r.tape⟩
   refine .step t f u v (fun c q s=>?_) fun c q s=>x c (a c q) s fun b o=>(p b o).imp .inl id;obtain⟨y,n⟩:=h c (a c q) s
   exact⟨y,n.size,n.heap,n.os,n.output,n.tape,fun e z=>(n.ev e z).TS fun b o=>(p b o).imp .inl id⟩
theorem Wk.bnd{S:(Nat->Prop)->Goroutine->World->Prop}(h:Wk P m I X D S O g w):(∀b,O b->b<w.heap.size)->(∀b,D b->b<w.heap.size)->
   Wk P m I X D (fun i j d=>S i j d/\(∀b,i b->b<d.heap.size)/\(∀b,D b->b<d.heap.size)/\∀b,O b->i b) O g w:=by
 induction h with
 | stop h=>intro n o;exact .stop ⟨h,n,o,fun _=>id⟩
 | @step O g w r f u s h k t=>
   intro n o;refine .step r f u s h fun c e p=>?_
   obtain⟨_,q⟩:=h c e p
   refine(t c e p (fun b a=>?_) fun b a=>Nat.lt_of_lt_of_le (o b a) (Nat.le_trans e.size q.size)).mono fun i j d z=>⟨z.1,z.2.1,z.2.2.1,fun b a=>z.2.2.2 b (.inl a)⟩
   rcases a with a|a
   ·exact Nat.lt_of_lt_of_le (n b a) (Nat.le_trans e.size q.size)
   ·exact a.2
theorem Wk.apart{S:(Nat->Prop)->Goroutine->World->Prop}(h:Wk P m I X D S O g w):(∀b,A b->b<w.heap.size/\¬O b)->
   Wk P m I X D (fun i j d=>S i j d/\∀b,A b->b<d.heap.size/\¬i b) O g w:=by
 induction h with
 | stop h=>intro a;exact .stop ⟨h,a⟩
 | @step O g w p f u q h k r=>
   intro a;refine .step p f u q h fun c e n=>r c e n fun b o=>?_
   obtain⟨_,s⟩:=h c e n
   have t:=s.size
   have v:=e.size
   have z:=(a b o).1;exact⟨by omega,fun x=>x.elim (a b o).2 fun y=>by omega⟩
theorem Wk.read{S:(Nat->Prop)->Goroutine->World->Prop}(h:Wk P m I X A S O g w)(e:∀b,A b->b<w.heap.size/\¬O b):
   Wk P m I X (fun _=>False) (fun i j d=>∃a,S a j d/\(i=fun b=>a b∨A b)/\(∀b,A b->¬a b)/\aB A A w d) (fun b=>O b∨A b) g w:=by
 refine(((h.apart e).frame e e).TS (D:=fun _=>False) fun b f=>.inl (.inr f)).mono ?_;rintro i j d ⟨a,⟨k,n⟩,rfl,o⟩;exact⟨a,k,rfl,fun b f=>(n b f).2,o⟩
end
end Go.Ren
namespace Go.Am
open Go.Ren (grow gU aT aB Wk X0)
section
variable{P:Program}{ρ a d:Env}{O O' D D':Nat->Prop}{h h' hA:AH}{w w':World}{base:List Frame}{pl:bI}{s s':AS}{K L:AS->Prop}{Q R:Value->AH->Prop}{c:aN}{cs:List aN}{f:FuncId}{args:Array Value}{g:Goroutine}
structure aJ(P:Program)(K:AS->Prop)(s:AS):Prop where
 go:∀{ρ:Env} {O D:Nat->Prop} {base:List Frame} {g:Goroutine} {w:World},(∀b,O b->b<w.heap.size)->(∀b,D b->b<w.heap.size)->mJ P ρ O D base s g w->
 Wk P true (fun _=>True) X0 D (fun O' g' w'=>∃(a:Env) (s':AS),K s'/\ρ.Le a/\mJ P a O' D base s' g' w') O g w
structure dQ(P:Program)(Q:Value->AH->Prop)(s:AS):Prop where
 go:∀{ρ:Env} {O D:Nat->Prop} {b:Frame} {bs:List Frame} {g:Goroutine} {w:World},(∀b,O b->b<w.heap.size)->(∀b,D b->b<w.heap.size)->mJ P ρ O D (b::bs) s g w->
 Wk P true (fun _=>True) X0 D (fun O' g' w'=>∃(a:Env) (v:Value) (h:AH) (v':Value),Q v h/\ρ.Le a/\VR a v v'/\g'=dZ (b.finish v') bs/\Rel a O' D h w') O g w
theorem bJ.runs[aO P](k:bJ P pl K s):aJ P K s:=⟨fun _ _ S=>jk k S⟩
theorem jC.YZ[aO P](k:jC P pl Q s):dQ P Q s:=⟨fun _ _ S=>Su k S⟩
theorem aJ.here(h:K s):aJ P K s:=⟨fun _ _ S=>.stop ⟨_,_,h,.refl _,S⟩⟩
theorem aJ.bind(k:aJ P K s)(l:∀s,K s->aJ P L s):aJ P L s:=by
 refine⟨fun i j S=>?_⟩;refine((k.go i j S).bnd i j).bind ?_;rintro m n o ⟨⟨a,b,t,u,v⟩,x,y,_⟩;refine((l b t).go x y v).mono ?_;rintro p q r ⟨d,e,z,A,B⟩;exact⟨d,e,z,u.trans A,B⟩
theorem aJ.mono(k:aJ P K s)(l:∀s,K s->L s):aJ P L s:=k.bind fun s h=>aJ.here (l s h)
theorem aJ.YZ(k:aJ P K s)(l:∀s,K s->dQ P Q s):dQ P Q s:=by
 refine⟨fun e i S=>?_⟩;refine((k.go e i S).bnd e i).bind ?_;rintro j m n ⟨⟨a,b,r,t,u⟩,x,y,_⟩;refine((l b r).go x y u).mono ?_;rintro o p q ⟨d,v,h,z,A,B,C⟩;exact⟨d,v,h,z,A,t.trans B,C⟩
theorem dQ.mono(k:dQ P Q s)(l:∀v h,Q v h->R v h):dQ P R s:=by
 refine⟨fun j m S=>?_⟩;refine(k.go j m S).mono ?_;rintro b e i ⟨d,v,h,n,o,p⟩;exact⟨d,v,h,n,l v h o,p⟩
end
end Go.Am
namespace Go.Am
open Go.Ren (grow gU aT aB Wk X0)
def OkF(p:Nat->Prop):Fn->Prop
 | .yield l=>p l
 | _=>True
inductive pW(p:Nat->Prop):Value->Prop
 | bool (b:Bool):pW p (.bool b)
 | int (k:IntKind) (n:Int):pW p (.int k n)
 | string (s:ByteArray):pW p (.string s)
 | gG:pW p (.pointer none)
 | ptr {a:Addr} (h:p a.block):pW p (.pointer (some a))
 | nilslice (n c:Nat):pW p (.slice none n c)
 | slice {a:Addr} {n c:Nat} (h:p a.block):pW p (.slice (some a) n c)
 | dO:pW p (.map none)
 | map {r:Nat} (h:p r):pW p (.map (some r))
 | eH:pW p (.chan none)
 | chan {r:Nat} (h:p r):pW p (.chan (some r))
 | nilFunc:pW p .nilFunc
 | func {f:Fn} {a b:Array Value} (hf:OkF p f) (h:∀x∈a,pW p x) (k:∀x∈b,pW p x):pW p (.func f a b)
 | nilIface:pW p .nilIface
 | iface {t:TypeId} {v:Value} (h:pW p v):pW p (.iface t v)
 | agg {a:Array Value} (h:∀x∈a,pW p x):pW p (.agg a)
 | tuple {a:Array Value} (h:∀x∈a,pW p x):pW p (.tuple a)
theorem dS{ρ:Env}{a b:Array Value}(d:a.size=b.size){x:Value}(e:x∈a):∃(i:Nat) (y:Value),a[i]?=some x/\b[i]?=some y:=by
 obtain⟨i,c,rfl⟩:=Array.mem_iff_getElem.1 e;exact⟨i,b[i]'(d▸c),by simp[c],by simp[d▸c]⟩
theorem VR.ok{ρ:Env}{q:Nat->Prop}{v t:Value}(k:VR ρ v t):pW q v->pW (fun b=>ρ.born b/\q b) v:=by
 induction k with
 | bool b=>intro _;exact .bool b
 | int k n=>intro _;exact .int k n
 | string s=>intro _;exact .string s
 | gG=>intro _;exact .gG
 | ptr h=>intro k;cases k with|ptr k=>exact .ptr ⟨h,k⟩
 | nilslice n c=>intro _;exact .nilslice n c
 | slice h _=>intro k;cases k with|slice k=>exact .slice ⟨h,k⟩
 | dO=>intro _;exact .dO
 | map h=>intro k;cases k with|map k=>exact .map ⟨h.1,k⟩
 | eH=>intro _;exact .eH
 | chan h=>intro k;cases k with|chan k=>exact .chan ⟨h.1,k⟩
 | nilFunc=>intro _;exact .nilFunc
 | @func f E a F b H w o _ z _ e A=>
   intro k;cases k with
   |func B C D=>
    refine .func ?_ (fun x d=>?_) fun x d=>?_
    ·cases w with
     |yield h=>exact⟨h.1,B⟩
     |_=>trivial
    ·obtain⟨i,y,g,j⟩:=dS (ρ:=ρ) o d
     exact e i x y g j (C x d)
    ·obtain⟨i,y,g,j⟩:=dS (ρ:=ρ) z d
     exact A i x y g j (D x d)
 | nilIface=>intro _;exact .nilIface
 | iface _ e=>intro k;cases k with|iface k=>exact .iface (e k)
 | agg o _ e=>
   intro k;cases k with
   |agg k=>
    refine .agg fun x d=>?_
    obtain⟨i,y,g,j⟩:=dS (ρ:=ρ) o d
    exact e i x y g j (k x d)
 | tuple o _ e=>
   intro k;cases k with
   |tuple k=>
    refine .tuple fun x d=>?_
    obtain⟨i,y,g,j⟩:=dS (ρ:=ρ) o d
    exact e i x y g j (k x d)
structure Env.Ag(ρ τ:Env)(b:Nat):Prop where
 born:τ.born b
 to:τ.to b=ρ.to b
 bg:ρ.bg b->τ.bg b
 u:τ.u b=ρ.u b
 ext:τ.ext b=ρ.ext b
theorem VR.carry{o q:Env}{p:Nat->Prop}{v H:Value}(k:VR o v H)(w:∀b,p b->o.born b->o.Ag q b):pW p v->VR q v H:=by
 have A:∀a:Addr,o.Ag q a.block->q.addr a=o.addr a:=fun a h=>by unfold Env.addr;rw[h.to]
 have j:∀r D,p r->o.ob r D->q.ob r D:=fun r D h k=>⟨(w r h k.1).born,(w r h k.1).to.trans k.2⟩
 induction k with
 | bool b=>intro _;exact .bool b
 | int k n=>intro _;exact .int k n
 | string s=>intro _;exact .string s
 | gG=>intro _;exact .gG
 | ptr h=>intro k;cases k with|ptr k=>rw[←A _ (w _ k h)];exact .ptr (w _ k h).born
 | nilslice n c=>intro _;exact .nilslice n c
 | slice h L=>
   intro k;cases k with
   |slice k=>
    have e:=w _ k h
    rw[←A _ e];refine .slice e.born (L.imp id fun⟨x,y,z⟩=>⟨e.bg x,y,?_⟩);rw[e.u,e.ext];exact z
 | dO=>intro _;exact .dO
 | map h=>intro k;cases k with|map k=>exact .map (j _ _ k h)
 | eH=>intro _;exact .eH
 | chan h=>intro k;cases k with|chan k=>exact .chan (j _ _ k h)
 | nilFunc=>intro _;exact .nilFunc
 | @func f U a V b W M C _ N _ l O=>
   intro k;cases k with
   |func P Q R=>
    refine .func ?_ C (fun i x y d m=>l i x y d m (Q x (Array.mem_of_getElem? d))) N fun i x y d m=>O i x y d m (R x (Array.mem_of_getElem? d))
    cases M with
    |yield h=>exact .yield (j _ _ P h)
    |func f=>exact .func f
    |method n=>exact .method n
    |methodOf t n=>exact .methodOf t n
    |via t p f x=>exact .via t p f x
 | nilIface=>intro _;exact .nilIface
 | iface _ l=>intro k;cases k with|iface k=>exact .iface (l k)
 | agg C _ l=>intro k;cases k with|agg k=>exact .agg C fun i x y d m=>l i x y d m (k x (Array.mem_of_getElem? d))
 | tuple C _ l=>intro k;cases k with|tuple k=>exact .tuple C fun i x y d m=>l i x y d m (k x (Array.mem_of_getElem? d))
def Env.cut(a:Env)(n:Nat):Env:={a with born:=fun b=>a.born b/\b<n}
structure AH.Sub(hA h:AH):Prop where
 look:∀b B,hA.look b=some B->∃Oz,h.look b=some Oz/\B.obj=Oz.obj/\B.gB=Oz.gB/\B.u=Oz.u/\B.ro=true
 cells:∀b B,hA.look b=some B->∃c e f,B.obj=.cells c e f/\∀x∈c,pW (· <hA.n) x
 tr:∀b B,hA.tr.get b=some B->∃Oz,h.tr.get b=some Oz/\B.obj=Oz.obj
 dn:∀f l,hA.dn.get f=some l->∃l',h.dn.get f=some l'/\l.Sublist l'
 mem:∀f l b,hA.dn.get f=some l->b∈l->b<hA.n/\∃B,hA.tr.get b=some B/\B.gB=some f
section
variable{P:Program}{a σ t:Env}{O A D D':Nat->Prop}{h m j:AH}{w o:World}{base:List Frame}{pl:bI}{s q:AS}{K L:AS->Prop}{Q R:Value->AH->Prop}{c:aN}{cs:List aN}{f:FuncId}{args:Array Value}{g:Goroutine}
theorem Env.Y0{n b:Nat}(d:b<n)(k:a.born b):a.Ag (a.cut n) b:=⟨⟨k,d⟩,rfl,id,rfl,rfl⟩
theorem Rel.view(r:Rel a O D h w)(k:j.Sub h):Rel (a.cut j.n) (fun _=>False) (fun b=>O b∨D b) j w:=by
 have up:∀b n,j.upTo (a.cut j.n) b n->h.upTo a b n:=by
   rintro b n ⟨V,c,e,f,h1,h2,h3⟩;obtain⟨B,y,W⟩:=k.tr b V h1
   exact⟨B,c,e,f,y,W▸h2,h3⟩
 refine⟨fun b B c e f p u T=>?_,fun b B p u T=>?_,fun b B p u=>?_,fun b b' B V p F u X Y Z=>?_,fun b p=>p.2,fun b p=>r.low b p.1,fun b B p u=>?_,fun f l H=>?_,fun f l H b p=>k.mem f l b H p⟩
 · obtain⟨d,y,W,k7,k8,k9⟩:=k.look b B u
   obtain⟨c',e',f',x,J⟩:=k.cells b B u
   rw[T]at x;cases x;obtain⟨C,E,g,c1,c2,c3,c4,c5⟩:=r.cells b d c e f p.1 y (W▸T);refine⟨C,E,g,c1,c2,c3,fun hn=>c4 fun U=>hn ⟨k7.trans U.1,k9,k8.trans U.2.2⟩,fun i v hv=>?_⟩;obtain⟨v',p1,p2⟩:=c5 i v hv
   exact⟨v',p1,p2.carry (fun b p F=>Env.Y0 p F) (J v (Array.mem_of_getElem? hv))⟩
 · obtain⟨c',e',f',x,_⟩:=k.cells b B u
   exact absurd x (T _ _ _)
 · obtain⟨d,y,_,_,_,k5⟩:=k.look b B u
   exact⟨fun z=>absurd (k5.symm.trans z) (by decide),.inr (r.own b d p.1 y).2⟩
 · obtain⟨d,y,_,x,J,k5⟩:=k.look b B u
   obtain⟨M,j1,_,j3,j4,j5⟩:=k.look b' V X
   rcases r.sep b b' d M p.1 F.1 y j1 Y Z with⟨f,N,g2⟩|⟨⟨N,_,g3⟩,i1,_,i3⟩
   ·exact .inl ⟨f,x.trans N,j3.trans g2⟩
   ·exact .inr ⟨⟨x.trans N,k5,J.trans g3⟩,j3.trans i1,j5,j4.trans i3⟩
 · obtain⟨d,y,_,x,J,_⟩:=k.look b B u
   obtain⟨s1,s2⟩:=r.bg b d p.1 y;exact⟨s1.trans (by rw[x]),fun z=>(s2 (x▸z)).trans J.symm⟩
 · obtain⟨l',N,g2⟩:=k.dn f l H
   exact((r.row f l' N).sublist g2).imp fun U b1 b2 Z n n' u1 u2=>U b1.1 b2.1 Z n n' (up _ _ u1) (up _ _ u2)
theorem aJ.call[aO P](k:dQ P Q ⟨aN.enter P f args,[],j⟩)(hs:j.Sub h)(ha:∀x∈args,pW (· <j.n) x)(hq:∀p:Nat->Prop,(∀x∈args,pW p x)->∀v m,Q v m->pW p v)(U:∀v m,Q v m->∃N,aA P c h v=some N):
   aJ P (fun q=>∃v m N,Q v m/\aA P c h v=some N/\q=⟨N,cs,h⟩) ⟨aN.enter P f args,c::cs,h⟩:=by
 refine⟨?_⟩;intro a O D base g w hO hD S;obtain⟨⟨lo,H,a7,V,rfl,hf,a3⟩,X⟩:=S
 cases a3 with
 | @cons a4 _ _ fc _ J Y a5 Z=>
   have z:F0 a (aN.enter P f args) H:=by
    cases hf with
    |plain hf=>exact hf
    |ahead kk _=>
     obtain⟨k1,k2,t1,_⟩:=kk.todo
     cases t1
   have eT:(aN.enter P f args).tmps=args++Array.replicate (((P.funcs[f]?).map (·.ntmps)).getD 0-args.size) undef:=rfl
   have S0:mJ P (a.cut j.n) (fun _=>False) (fun b=>O b∨D b) (fc::(J++base)) ⟨aN.enter P f args,[],j⟩ (dZ H ([]++fc::(J++base))) w:=by
    refine⟨⟨0,H,[],Nat.zero_le _,rfl,.plain ?_,.nil⟩,X.view hs⟩;refine⟨⟨z.fn,?_,z.mode,z.kind,?_⟩,?_,?_⟩
    ·have:=z.defers
     generalize H.defers=d at this
     cases this;exact .nil
    ·have:=z.round
     generalize H.roundOf=r at this
     cases this;exact .none
    ·refine⟨z.tmps.1,fun i x y B hy=>?_⟩;have a0:=z.tmps.2 i x y B hy;rw[eT]at B;by_cases T:i<args.size
     ·rw[Array.getElem?_append_left T]at B;exact a0.carry (fun b l a1=>Env.Y0 l a1) (ha x (Array.mem_of_getElem? B))
     ·rw[Array.getElem?_append_right (by omega),Array.getElem?_replicate]at B;split at B
      ·cases B;exact a0.carry (p:=fun _=>False) (fun b l _=>l.elim) (.tuple fun x B=>by simp[undef]at B)
      ·cases B
    ·have:=z.todo
     generalize H.todo=d at this
     cases this with
     |cons T hl=>cases hl;cases T;exact .cons (.code _) .nil
   have M:∀x∈args,pW (fun b=>a.born b/\b<j.n) x:=fun x B=>by
    obtain⟨i,T,rfl⟩:=Array.mem_iff_getElem.1 B;have h1:(aN.enter P f args).tmps[i]?=some args[i]:=by rw[eT,Array.getElem?_append_left T];simp[T]
    have h2:i<H.tmps.size:=by rw[←z.tmps.1];exact(Array.getElem?_eq_some_iff.1 h1).1
    exact(z.tmps.2 i _ _ h1 (Array.getElem?_eq_getElem h2)).ok (ha _ B)
   have W:=((k.go (fun b l=>l.elim) (fun b l=>l.elim (hO b) (hD b)) S0).frame (F:=O) (fun b l=>⟨hO b l,id⟩) (fun b l=>⟨l.elim (hO b) (hD b),id⟩)).TS (D:=D) fun b l=>l.imp .inr id;have e1:(fun b=>False∨O b)=O:=by funext b;simp
   rw[e1]at W;refine W.mono fun A g' o hz=>?_
   obtain⟨a6,⟨t,v,C,v',q1,q2,q3,q4,q5⟩,rfl,e⟩:=hz
   obtain⟨N,a2⟩:=U v C q1
   have hv:VR a v v':=q3.carry (fun b l a1=>⟨l.1,(q2.to b l).symm,(q2.bg b l).1,(q2.u b l).symm,(q2.ext b l).symm⟩) (hq _ M v C q1)
   have E:aB O D w o:=⟨e.size,e.own,fun b l=>e.ro b (.inr l),e.os,e.output,e.tape⟩
   exact⟨a,_,⟨v,C,N,q1,a2,rfl⟩,.refl a,⟨a4,_,J,Nat.le_trans Y V,q4,l9 a5 V hv a2,Z⟩,(X.rely E).mono fun b l=>.inr l⟩
end
end Go.Am
namespace Go.Am
open Go.Conc (born QuitsD G scase rcase Good)
open Go.Conc.Lib
open Go.ConcR (WgAt)
open Go.Ren (grow gU aT aB Wk X0 At aH Keep full Tm)
structure Sr(P:Program)(base:List Frame)(F:Nat->Prop)(w₀:World)(W U Z:Nat->Prop)(N:Nat)(ρ:Env)(s:AS)(g:Goroutine)(w:World)(m:Machine)(t:Trace):Prop where
 at_:At P W U (fun b=>Z b/\¬F b) N 0 g w m t
 Na:mJ P ρ (full Z w) F base s g w
 lt:∀b,Z b->b<w.heap.size
 wu:∀b,W b∨U b->Z b
 fz:∀b,F b->Z b
 UC:∀b,F b->¬(W b∨U b)
 keep:Keep F w₀ w
section
variable{P:Program}{ρ o τ:Env}{O O' D D' F W U Z:Nat->Prop}{N:Nat}{h h' a:AH}{w d j:World}{base:List Frame}{pl:bI}{s p:AS}{K L:AS->Prop}{Q R:Value->AH->Prop}{c:aN}{cs:List aN}{f:FuncId}{args:Array Value}{g:Goroutine}{m:Machine}{t:Trace}{q:Machine->Outcome->World->Trace->Prop}
theorem Sr.runs(k:aJ P K s)(S:Sr P base F j W U Z N ρ s g w m t):
   aH P q (fun m t=>∃(o:Env) (p:AS) (v:Goroutine) (d:World),K p/\ρ.Le o/\Sr P base F j W U Z N o p v d m t) m t:=by
 have z:∀b,F b->b<w.heap.size/\¬full Z w b:=fun b i=>⟨S.lt b (S.fz b i),fun x=>x.2 (S.fz b i)⟩
 have e:(fun b=>full Z w b∨F b)=full (fun b=>Z b/\¬F b) w:=by
   funext b;apply propext;constructor
   ·rintro(i|i)
    ·exact⟨i.1,fun x=>i.2 x.1⟩
    ·exact⟨(z b i).1,fun x=>x.2 i⟩
   ·rintro⟨A,B⟩;by_cases i:F b
    ·exact .inr i
    ·exact .inl ⟨A,fun x=>B ⟨x,i⟩⟩
 have l:∀b,(Z b/\¬F b)->b<w.heap.size:=fun b i=>S.lt b i.1;refine(Go.Ren.At.wk2 ((k.go (fun b i=>i.1) (fun b i=>(z b i).1) S.Na).read z) l e S.at_).mono ?_;rintro m t ⟨v,d,C,⟨n,⟨o,p,A,B,J⟩,M,T,r⟩,Y⟩;have u:∀b,Z b->b<d.heap.size:=fun b i=>Nat.lt_of_lt_of_le (S.lt b i) r.size
 have V:n=full Z d:=by
   funext b;apply propext;have i:=congrFun M b
   constructor
   ·intro E;have:full (fun b=>Z b/\¬F b) d b:=by rw[i];exact .inl E
    exact⟨this.1,fun x=>this.2 ⟨x,fun y=>T b y E⟩⟩
   ·rintro⟨X,H⟩;have:full (fun b=>Z b/\¬F b) d b:=⟨X,fun y=>H y.1⟩
    rw[i]at this;exact this.resolve_right fun y=>H (S.fz b y)
 subst V;exact⟨o,p,v,d,A,B,C,J,u,S.wu,S.fz,S.UC,S.keep.trans ⟨r.own,r.size,r.os,r.output⟩⟩
def ab4(to:Nat->Nat×Nat)(a:AH):Env:={to:=to,born:=fun b=>b<a.n,bg:=fun _=>False,u:=fun _=>0,ext:=fun b=>match a.look b with|some B=>su B.obj|none=>0}
theorem Y1{W:World}{to:Nat->Nat×Nat}(H:∀b B,a.look b=some B->B.Xc/\∃c e f C E,B.obj=.cells c e f/\(∃g,W.heap[(to b).1]?=some (.cells C E g))/\(to b).2+c.size<=C.size/\∀(i:Nat) v,c[i]?=some v->C[(to b).2+i]?=some v/\Plain v)
   (T:a.dn=.nil) (x:∀b,b<a.n->(to b).1<W.heap.size):Rel (ab4 to a) (fun _=>False) (fun b=>b<W.heap.size) a W:=by
 refine⟨fun b B c e f r u J=>?_,fun b B r u J=>?_,fun b B r u=>?_,fun b V B X r Y u M a0 hs=>?_,fun b r=>r,fun b r=>x b r,fun b B r u=>?_,fun f l k=>?_,fun f l k b r=>?_⟩
 · obtain⟨hp,c',e',f',C,E,A,⟨g,h2⟩,h3,h4⟩:=H b B u
   rw[J]at A;cases A;have y:(ab4 to a).ext b=c.size:=by
    show(match a.look b with|some B=>su B.obj|none=>0)=c.size
    rw[u];show su B.obj=c.size
    rw[J];rfl
   refine⟨C,E,g,h2,by rw[y];exact h3,Nat.le_of_eq y.symm,fun hn=>absurd hp hn,fun i v hv=>?_⟩;obtain⟨k1,k2⟩:=h4 i v hv
   exact⟨v,k1,k2.vr _⟩
 · obtain⟨_,c',e',f',C,E,A,_⟩:=H b B u
   exact absurd A (J _ _ _)
 · exact⟨fun z=>absurd ((H b B u).1.2.1.symm.trans z) (by decide),.inr (x b r)⟩
 · exact .inr ⟨(H b B u).1,(H V X M).1⟩
 · obtain⟨⟨A,_⟩,_⟩:=H b B u
   exact⟨⟨fun z=>z.elim,fun z=>z A⟩,fun z=>absurd A z⟩
 · rw[T]at k;cases k
 · rw[T]at k;cases k
theorem Sr.start{W:World}{f:FuncId}{e:Array Value}(k:Rel ρ (fun _=>False) (fun b=>b<W.heap.size) a W)(l:AR (VR ρ) args e):
   Sr P [] (fun b=>b<W.heap.size) W (fun _=>False) (fun _=>False) (fun b=>b<W.heap.size) 1 ρ ⟨aN.enter P f args,[],a⟩ (dZ (Frame.enter P f e .normal) []) W (Go.Conc.solo (G (Frame.enter P f e .normal) []) W) #[]:=
 ⟨(Go.Ren.Y2 _ W).drop fun b i=>i.elim,⟨⟨0,_,[],Nat.zero_le _,rfl,.plain (Bv f l),.nil⟩,k.mono fun b i=>i.elim⟩,fun b i=>i,fun b i=>(i.elim id id:False).elim,fun b i=>i,fun b _ i=>(i.elim id id:False),.refl⟩
end
end Go.Am
namespace Go.Am
section
variable{P:Program}{pl:bI}{s s' s₁ s₂:AS}{K:AS->Prop}{ob:List (Value×Value)}{v:Value}{h:AH}{n:Nat}{Q:Value->AH->Prop}
theorem aJ.forget(l:List Nat)(hd:aP s.fr=true):aJ P (· =⟨s.fr,s.cs,s.h.forget l⟩) s:=⟨fun a b S=>.stop ⟨_,_,rfl,.refl _,S.forget l hd⟩⟩
end
theorem bu{x:Int}(a:-9223372036854775808<=x)(b:x<=9223372036854775807):IntKind.i64.wrap x=x:=by
 simp[IntKind.wrap,IntKind.min,IntKind.max,IntKind.signed,IntKind.bits]<;>(try split)<;>omega
theorem air(a b:Int):(if b>a then b else a)=max a b:=by rw[Int.max_def];split<;>split<;>omega
theorem ais(a b:Int):(if b<a then b else a)=min a b:=by rw[Int.min_def];split<;>split<;>omega
end Go.Am
namespace Go.Am
theorem VR.okV{ρ:Env}{q:Nat->Prop}{v r:Value}(k:VR ρ v r)(l:∀b,ρ.born b->q b):pW q v:=by
 induction k with
 | bool b=>exact .bool b
 | int k n=>exact .int k n
 | string s=>exact .string s
 | gG=>exact .gG
 | ptr h=>exact .ptr (l _ h)
 | nilslice n c=>exact .nilslice n c
 | slice h _=>exact .slice (l _ h)
 | dO=>exact .dO
 | map h=>exact .map (l _ h.1)
 | eH=>exact .eH
 | chan h=>exact .chan (l _ h.1)
 | nilFunc=>exact .nilFunc
 | @func f C a D b E w m _ z _ d A=>
   refine .func ?_ (fun x e=>?_) fun x e=>?_
   ·cases w with
    |yield h=>exact l _ h.1
    |_=>trivial
   ·obtain⟨i,y,g,j⟩:=dS (ρ:=ρ) m e
    exact d i x y g j
   ·obtain⟨i,y,g,j⟩:=dS (ρ:=ρ) z e
    exact A i x y g j
 | nilIface=>exact .nilIface
 | iface _ d=>exact .iface d
 | agg m _ d=>
   refine .agg fun x e=>?_
   obtain⟨i,y,g,j⟩:=dS (ρ:=ρ) m e
   exact d i x y g j
 | tuple m _ d=>
   refine .tuple fun x e=>?_
   obtain⟨i,y,g,j⟩:=dS (ρ:=ρ) m e
   exact d i x y g j
theorem Plain.okV{p:Nat->Prop}{v:Value}(h:Plain v):pW p v:=VR.okV (ρ:=vO) h fun b a=>a.elim
section
variable{P:Program}{Q:Value->AH->Prop}{R:Value->Prop}{c:aN}{cs:List aN}{f:FuncId}{args:Array Value}{h hA:AH}{nA:Nat}
theorem Jc:∀(l:List (Nat×cZ)) {b:Nat} {B:cZ},(jG l).get b=some B->(b,B)∈l
 | [],b,B,e=>by cases e
 | (c,C)::l,b,B,e=>by
   unfold jG at e;rw[Tr.dW]at e;split at e
   ·rename_i a;subst a;cases e;exact .head _
   ·exact .tail _ (Jc l e)
end
end Go.Am
namespace Go.Am
def Jd(a:Array Oper):List Nat:=(List.range a.size).filter fun i=>aK a i==.effect
def TT(a:Array Oper)(t:List Nat)(i:Nat):Option Nat:=((Jd a).filter fun e=>Nat.testBit (maskAt t a.size i) e).getLast?
def akV(a:Array Oper)(t:List Nat):List Nat:=
 let b:=(List.range a.size).filter fun i=>aK a i !=.effect
 (b.filter fun i=>TT a t i==none)++(Jd a).flatMap fun e=>e::(b.filter fun i=>TT a t i==some e)
def again(a:Array Oper)(t:List Nat)(i:Nat)(rest:List Nat):List Nat:=
 if aK a i==.fO then []else
   let b:=(Jd a).filter fun e=>!rest.contains e
   (List.range a.size).filter fun j=>!rest.contains j&&aK a j !=.effect&&!b.any fun e=>Nat.testBit (maskAt t a.size e) j
def Hl(a:Array Oper)(t:List Nat):List Nat->List (Nat×List Nat)
 | []=>[]
 | i::l=>(i,again a t i l)::Hl a t l
def plan:bI:=fun _ a=>Hl a (kK a a.size) (akV a (kK a a.size))
end Go.Am
