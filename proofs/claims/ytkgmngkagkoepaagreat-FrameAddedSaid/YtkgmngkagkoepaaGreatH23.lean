import Derived.Test.YtkgmngkagkoepaaGreatH22
set_option linter.all false
namespace Go.Mx.Ph
open Go.Ren
open Go.Conc hiding Goes mem_ofEvents Deaf
open Go.Conc.Lib (WgLink)
variable{p:Ph}{D F O O':Nat->Prop}{d i:Nat}{g:Goroutine}{w w' a:World}{Nx c:(Nat->Prop)->(Nat->Prop)->Goroutine->World->Prop}
def beside(p:Ph)(F:Nat->Prop)(a:World):Ph:={p with Fin:=Dc F a p.Fin}
theorem wF.frame(u:∀D O g w,Nx D O g w->Fr F D O a w->c D (fun b=>O b∨F b) g w)(h:p.wF i Nx D d O g w)(n:Fr F D O a w):(p.beside F a).wF i c D d (fun b=>O b∨F b) g w:=by
 obtain⟨l,q,v⟩:=h
 refine⟨l,q,fun m t y=>?_⟩;obtain⟨z,child,M,H,N,A,r,s,B,C,E⟩:=v m (n.less t) y
 have j:=n.rely t
 refine⟨z,child,M,H,N,A,fun b k=>.inl (r b k),fun b k=>⟨.inl (s b k).1,(s b k).2⟩,B,C,?_⟩;have e:(fun b=>(O b∨F b)/\¬M b/\¬H b)=fun b=>(O b/\¬M b/\¬H b)∨F b:=by
   funext b;apply propext;constructor
   ·rintro⟨l|l,q⟩
    ·exact .inl ⟨l,q⟩
    ·exact .inr l
   ·rintro(h|h)
    ·exact⟨.inl h.1,h.2⟩
    ·exact⟨.inr h,fun x=>(n.f b h).2 (r b x),fun x=>(n.f b h).2 (s b x).1⟩
 rw[e];refine u _ _ _ _ E ⟨fun b k=>⟨(j.f b k).1,fun x=>(j.f b k).2 x.1⟩,fun b k=>?_,fun b k=>j.o b k.1,j.keep,j.size,j.os,j.output⟩;rcases k with k|k
 · exact⟨(j.d b k).1,fun x=>(j.d b k).2 x.1⟩
 · exact⟨j.o b (r b k),fun x=>x.2.1 k⟩
theorem Ho.frame:∀(r:Nat) {D O:Nat->Prop} {g:Goroutine} {w:World},p.Ho r D O g w->Fr F D O a w->(p.beside F a).Ho r D (fun b=>O b∨F b) g w
 | 0,D,O,g,w,h,m=>by
   refine(dU.frame h m).mono ?_;rintro d O' y w' ⟨f,⟨z,A,n,o,q⟩,rfl,e⟩;exact⟨z,A,n,o,fun j k=>⟨f,q j (e.less k),rfl,e.rely k⟩⟩
 | r+1,D,O,g,w,h,m=>by
   refine(dU.frame h m).mono ?_;rintro d O' y w' ⟨f,⟨n,o,q⟩,rfl,e⟩;refine⟨n,o,fun v B=>?_⟩;obtain⟨s,C,E⟩:=q v B
   refine⟨s,C,fun j k=>?_⟩;refine(dU.frame (E j (e.less k)) (e.rely k)).mono ?_;rintro d H t u ⟨x,J,rfl,l⟩;exact wF.frame (fun D O g w=>Ho.frame r) J l
end Go.Mx.Ph
namespace Go.Am
open Go.Conc (born QuitsD G dcall)
open Go.Conc.Lib
open Go.ConcR (WgAt)
open Go.Ren (grow gp aQ az Wk dU Idle af X0 XS XM Lv gG gI At aG Keep full Own Fr Dc)
open Go.Mx (CellIs dH ah dX MuAt)
section
variable{P:Program}{c y:Env}{O O' D:Nat->Prop}{F W U Z Z':Nat->Prop}{N:Nat}{h h':AH}{w u q:World}{base R:List Frame}{a a':ak}{f:Frame}{s r s₀:AS}{pl:bP}{g g':Goroutine}{L:WgLink}{M:ah}{z:Machine->Outcome->World->Trace->Prop}{m:Machine}{t:Trace}{A E J Q j:Nat}
def AS.kill(s:AS)(b:Nat):AS:=⟨s.fr,s.cs,s.h.kill b⟩
theorem lU.kill{B:aY}(S:lU P c O D base s g w)(hd:aK s.fr=true)(o:c.born j)(p:s.h.look j=some B)(v:B.fM=none)(b:B.ro=false)(C:(s.h.dB.get s.h.n).getD []=[]):lU P c (fun x=>O x/\x≠(c.to j).1) D base (s.kill j) g w:=by
 obtain⟨⟨i,f,R,H,T,V,X⟩,d⟩:=S
 refine⟨⟨i,f,R,?_,T,.plain (V.f0 fun Y l k e=>?_),X⟩,d.kill o p v b C⟩
 · show i<=(s.h.kill j).n;rw[KY];exact H
 · unfold aK at hd;rw[e]at hd;cases hd
def Folds(n:Nat)(locks:Nat->Bool)(f:Nat->dH->dH)(v0 v:dH):Prop:=∀order:List Nat,order.Nodup->(∀i,i∈order↔i<n/\locks i=true)->order.foldl (fun a k=>f k a) v0=v
theorem Sd.aeW[aP P]{B:aY}{e:TypeId}{fz:Nat×Nat}{v0 v:dH}{V:dH->Prop}{fn:Nat->dH->dH}{locks:Nat->Bool}{n:Nat}{Fin:AS->Prop}(H:dX P M)(HL:uN P L)(S:Sd P base F q W U Z N c s g w m t)(b2:U A)(b3:U E)(c8:A≠E)(b4:c.born J/\c.to J=(A,0))(b5:c.born Q/\c.to Q=(E,0))
   (b6:WgAt L.tWg A w 0 0) (c9:MuAt M.mu.tMutex E w ⟨0,0,0,0⟩ 0) (T:c.born j) (hl:s.h.look j=some B) (ho:B.obj=.cells v0 e fz) (hf:B.fM=none) (a6:B.ro=false) (hk:(s.h.dB.get s.h.n).getD []=[]) (hd:aK s.fr=true)
   (hn:n<63) (hV:∀v,V v->∀x∈v,Plain x) (d0:∀k v,V v->V (fn k v)) (b7:V v0) (a7:Folds n locks fn v0 v)
   (b8:∀r,Fin r->aK r.fr=true/\r.h.look j=none) {lf:List Nat} (k:kK P pl L M J Q j V fn locks n Fin n ⟨s.fr,s.cs,(s.h.kill j).forget lf⟩):
   aG P z (fun m t=>∃(y:Env) (r:AS) (g':Goroutine) (u:World) (W' Z':Nat->Prop) (N':Nat),Fin r/\c.Le y/\Sd P base F q W' (fun _=>False) Z' N' y (r.tell j v) g' u m t) m t:=by
 have a8:=S.st.JS.rel.Wq T hl (zZ a6) ho (hV v0 b7)
 have a0:=S.st.JS.rel.aaB T hl hf
 have a1:full Z w (c.to j).1:=(S.st.JS.rel.own j B T hl).1 a6;have hS:=(S.st.JS.kill hd T hl hf a6 hk).forget lf hd;let p:Go.Mx.Ph:={P:=P,L:=L,tM:=M.mu.tMutex,oe:=((c.to j).2,c.ext j),Wg:=A,Mu:=E,C:=(c.to j).1,B:=62,n:=n,n0:=N,f:=fn,V:=V,v0:=v0,locks:=locks,Fin:=UJ P c base Fin}
 have names:Names c p J Q j:=⟨b4.1,b4.2,b5.1,b5.2,T,rfl,rfl,a0⟩
 haveI:aP p.P:=(inferInstance:aP P)
 have hs:p.Ho n (fun _=>False) (fun x=>full Z w x/\x≠(c.to j).1) g w:=BV (p:=p) (Fin:=Fin) (H9:=c) (base:=base) H HL ⟨w,0,0,b6⟩ (by show 62<63;omega) hV rfl n k hS (.refl c) names
 have d4:Fr F (fun _=>False) (fun x=>full Z w x/\x≠(c.to j).1) q w:=⟨fun b i=>⟨S.st.lt b (S.fz b i),fun x=>x.1.2 (S.fz b i)⟩,fun b i=>i.elim,fun b i=>i.1.1,S.keep.1,S.keep.2.1,S.keep.2.2.1,S.keep.2.2.2⟩
 have b9:=Go.Mx.Ph.Ho.frame n hs d4
 have c0:¬F (c.to j).1:=fun hf=>a1.2 (S.fz _ hf);have eO:(fun b=>(full Z w b/\b≠(c.to j).1)∨F b)=fun b=>full (fun b=>Z b/\¬F b) w b/\b≠(c.to j).1:=by
   rw[NU S.fz S.st.lt];funext b;apply propext;constructor
   ·rintro(h|h)
    ·exact⟨.inl h.1,h.2⟩
    ·exact⟨.inr h,fun e=>c0 (e▸h)⟩
   ·rintro⟨h|h,h2⟩
    ·exact .inl ⟨h,h2⟩
    ·exact .inr h
 rw[eO]at b9;have a4:=(S.st.at_.alone).drop (Z':=fun b=>Z b/\¬F b) fun b i=>⟨S.wu b i,fun hf=>S.NT b hf i⟩
 have d5:full (fun b=>Z b/\¬F b) w (c.to j).1:=by rw[NU S.fz S.st.lt];exact .inl a1
 refine(Go.Mx.Ph.phase (p:=p.beside F q) (W:=W) (U:=U) (by show n<=62;omega) d0 (by show n<2147483647;omega) b2 b3 c8 d5 b9 b6 c9 a8 b7 a4).mono ?_;rintro m t ⟨u,gT,O,D,order,a4,⟨c1,⟨y,r,hF,a2,a5⟩,hO,l⟩,X,h1,h2,h3,h4⟩;have hN:1<=N+n:=At.N1 a4
 obtain⟨d6,d7⟩:=b8 r hF
 have c2:(p.beside F q).fold order=v:=a7 order h1 h2
 rw[c2]at h4;have d8:∀b,c1 b->O 0 b:=fun b i=>by rw[hO];exact .inl i
 have c3:∀b,F b->O 0 b:=fun b i=>by rw[hO];exact .inr i
 have a9:∀b,O 0 b∨D 0 b->¬(Go.Mx.Ph.W1 p W b)/\b≠(c.to j).1:=fun b i=>by
   have:¬(Go.Mx.Ph.W1 p W b∨b=(c.to j).1):=i.elim (X.ow 0 b (by show 0<N+n;omega)) (X.dw 0 b (by show 0<N+n;omega))
   exact⟨fun x=>this (.inl x),fun x=>this (.inr x)⟩
 have d9:¬(Go.Mx.Ph.W1 p W (c.to j).1):=by
   rintro(x|x|x)
   ·exact a1.2 (S.wu _ (.inl x))
   ·exact a1.2 (by rw[x];exact S.wu _ (.inr b2))
   ·exact a1.2 (by rw[x];exact S.wu _ (.inr b3))
 have c4:(c.to j).1<u.heap.size:=X.vZ _ (.inr rfl)
 have c5:=a2.born _ T
 have a3:=a2.to _ T
 have c6:=a2.ext _ T
 have c7:¬y.bD j:=fun x=>a0 ((a2.bD _ T).1 x)
 let Zn:Nat->Prop:=fun b=>Go.Mx.Ph.W1 p W b∨F b;have b0:Rel y (fun b=>full Zn u b/\b≠(c.to j).1) (fun _=>False) r.h u:=a5.rel.all fun b i=>by
   rcases i with i|i
   ·have:=a9 b (.inl (d8 b i))
    exact⟨⟨l.o b i,fun x=>x.elim this.1 fun hf=>(l.f b hf).2 i⟩,this.2⟩
   ·have:=a9 b (.inr i)
    exact⟨⟨(l.d b i).1,fun x=>x.elim this.1 fun hf=>X.od 0 0 b (by show 0<N+n;omega) (by show 0<N+n;omega) (c3 b hf) i⟩,this.2⟩
 have b1:lU P y (fun b=>full Zn u b/\b≠(c.to j).1) (fun _=>False) base r gT u:=⟨a5.run,b0⟩
 have e1:∀v,V v->V v:=fun v h=>h
 have e0:V v:=by have:=h3;rw[c2]at this;exact this
 have Y:=b1.tell (b:=j) (v:=v) d6 c5 d7 c7 (hV v e0) (by rw[a3,c6];exact h4) (by rw[a3];exact fun x=>x.2 rfl) (fun x=>x)
 rw[a3]at Y;have eF:(fun x=>(full Zn u x/\x≠(c.to j).1)∨x=(c.to j).1)=full Zn u:=by
   funext b;apply propext;constructor
   ·rintro(h|rfl)
    ·exact h.1
    ·exact⟨c4,fun x=>x.elim d9 fun hf=>c0 hf⟩
   ·intro h;by_cases e:b=(c.to j).1
    ·exact .inr e
    ·exact .inl ⟨h,e⟩
 rw[eF]at Y;refine⟨y,r,gT,u,Go.Mx.Ph.W1 p W,Zn,N+n,hF,a2,⟨⟨a4.drop fun b i=>.inl i,Y,fun b i=>?_⟩,?_,fun b i=>.inr i,?_,⟨l.keep,l.size,l.os,l.output⟩⟩⟩
 · rcases i with i|i
   ·exact X.vZ b (.inl i)
   ·exact(l.f b i).1
 · rintro b (i|i)
   ·exact .inl i
   ·exact i.elim
 · rintro b hf (i|i)
   ·exact(a9 b (.inl (c3 b hf))).1 i
   ·exact i
end
end Go.Am
namespace Go.Am
open Go.Conc.Lib
open Go.Ren (grow gp aQ az Wk At aG Keep full)
open Go.Mx (dH ah dX)
def iv(l:List Int):dH:=(l.map fun n=>Value.int .i64 n).toArray
def unv(v:dH):List Int:=v.toList.map fun x=>match x with|.int _ n=>n|_=>0
theorem KZ(l:List Int):unv (iv l)=l:=by
 unfold unv iv;simp only[List.map_map]
 conv=>rhs;rw[←List.map_id l]
 rfl
theorem I7(l:List Int):∀x∈iv l,Plain x:=by
 intro x a;unfold iv at a;simp only[List.mem_toArray,List.mem_map]at a;obtain⟨n,_,rfl⟩:=a
 exact gQ (n:=1) rfl
def VIn(a:List (List Int))(v:dH):Prop:=∃l∈a,v=iv l
def Dv(n:Nat)(locks:Nat->Bool)(f:Nat->List Int->List Int)(k:Nat)(v:dH):dH:=if k<n/\locks k=true then iv (f k (unv v))else v
noncomputable section
def Wy(P:Program)(L:WgLink)(a b:Nat)(s:AS):Bool:=match s.cs with
 | []=>match s.fr.todo with
   | .drawn ..::_=>false
   |_=>Fp P L a b s.fr
 | _=>false
def ahI(o:Oper)(n:Nat):Bool:=match o.dst with
 | some d=>decide (d<n)
 | none=>true
def WA(P:Program)(a:FuncId)(b:Nat)(s:AS):Option AS:=match opAt s with
 | some o=>match o.guard with
   |none=>match o.op with
    | .call c=>match c.callee with
     | .value (.func f)=>match c.args.toList with
      | [.tmp t]=>if f==a&&s.fr.round.isNone&&iI 3 (s.fr.tmps.getD t undef) (.pointer (some ⟨b,0,none⟩))&&(decide (t<s.fr.tmps.size))&&ahI o s.fr.tmps.size then Ic P s s.h (.tuple #[])else none
      |_=>none
     |_=>none
    |_=>none
   |some _=>none
 | none=>none
def aeY(P:Program)(L:WgLink)(e:FuncId)(g h:Nat)(a:ak):Bool:=
 a.ret&&a.dk&&a.round.isNone&&(match P.funcs[a.fn]? with|some i=>i.results.size==0|none=>false)&&match a.defers with
   | [⟨.fn (.func f) d,args⟩,⟨.fn (.func j) c,b⟩]=>f==e&&d.size==0&&iI 3 (.tuple args) (.tuple #[.pointer (some ⟨h,0,none⟩)])&&j==L.done&&c.size==0&&iI 3 (.tuple b) (.tuple #[.pointer (some ⟨g,0,none⟩)])
   |_=>false
def aeZ(P:Program)(L:WgLink)(b:FuncId)(d e f g:Nat)(l:List Int)(s:AS):Bool:=match s.cs with
 | []=>aK s.fr&&(match nX g s.fr with|some a=>aeY P L b d e a|none=>false)&&(match s.h.look f with|some B=>!B.ro&&(match B.obj with|.cells c _ _=>iI 9 (.agg c) (.agg (iv l))|_=>false)|none=>false)
 | _=>false
def WB(P:Program)(d:bP)(T:Tr TI)(e:Tr Func)(L:WgLink)(f:FuncId)(g h i j n:Nat)(l:List Int)(s:AS):Bool:=match ig P d T e 100 s with
 | .inl a=>match Fq P a with
   |some b=>match ig P d T e n b with
    | .inl c=>aeZ P L f g h i j l c
    | .inr _=>false
   |none=>false
 | .inr _=>false
def WC(P:Program)(d:bP)(T:Tr TI)(e:Tr Func)(L:WgLink)(M:ah)(g c b i n:Nat)(j:List (List Int))(f:List Int->List Int)(s:AS):Bool:=match WA P M.mu.lock c s with
 | some a=>aK a.fr&&(a.h.look b).isNone&&j.all fun l=>WB P d T e L M.mu.unlock g c b i n (f l) (a.tell b (iv l))
 | none=>false
def ahJ(P:Program)(b:bP)(T:Tr TI)(e:Tr Func)(a:AS->Bool)(n d:Nat):AS->Bool:=
 Nat.rec (fun _=>false) (fun _ f s=>match ig P b T e n s with
   | .inr _=>false
   | .inl s=>bif a s then true else match Bv s with
     |some o=>bif Nat.beq ((execOp (au s.fr.tmps) o).arity P s.h) 0 then false else allB (fun c=>match aH P b (some c) s with
      |some (.go g)=>f g
      |_=>false) ((execOp (au s.fr.tmps) o).arity P s.h)
     |none=>false) d
def jS(P:Program)(g:bP)(T:Tr TI)(h:Tr Func)(L:WgLink)(M:ah)(i l m j o:Nat)(p:List (List Int))(f:Nat->List Int->List Int)(locks:Nat->Bool)(k n a:Nat)(s:AS):Bool:=match ig P g T h 100 s with
 | .inl c=>match Fq P c with
   |some d=>match ig P g T h n d with
    | .inl e=>match uI P g a e with
     |some (.go b)=>bif locks k then WC P g T h L M i l m j o p (f k) b else Wy P L i j b
     |_=>false
    | .inr _=>false
   |none=>false
 | .inr _=>false
end
section
variable{P:Program}{u:bP}{L:WgLink}{M:ah}{p j q r A n d k:Nat}{s s':AS}{T:Tr TI}{w:Tr Func}{y:List (List Int)}{f:Nat->List Int->List Int}{locks:Nat->Bool}{l:List Int}{ul z:FuncId}{a:ak}
theorem La(h:Wy P L p r s=true):abR P L p s:=by
 unfold Wy at h;split at h
 · rename_i b;split at h
   ·cases h
   ·rename_i c;obtain⟨g,q1,m,o⟩:=Fv h
    exact⟨b,fun i l k e=>c i l k e,r,g,q1,m,o⟩
 · cases h
theorem WE{x:Value}{b:Nat}(h:iI 3 x (.pointer (some ⟨b,0,none⟩))=true):x=.pointer (some ⟨b,0,none⟩):=gW _ _ _ h
theorem Lc{j:Nat}(h:WA P z j s=some s'):acw P z j s s':=by
 unfold WA at h;split at h
 · rename_i o F;obtain⟨H,g,i,l,k,J,N,O,Q⟩:=jU F
   split at h
   ·rename_i R;split at h
    ·rename_i c m;split at h
     ·rename_i f B;split at h
      ·rename_i t C;split at h
       ·rename_i D;simp only[Bool.and_eq_true,beq_iff_eq,Option.isNone_iff_eq_none,decide_eq_true_eq]at D;obtain⟨⟨⟨⟨rfl,U⟩,V⟩,E⟩,hd⟩:=D
        obtain⟨W,X,Y⟩:=mG h
        obtain⟨callee,as,v⟩:=c
        dsimp only at B C;subst B;have x:as=#[.tmp t]:=by rw[←Array.toArray_toList (xs:=as),C]
        subst x;have b:=WE V
        refine⟨H,U,g,i,l,k,o,t,v,W,J,N,O,Q,R,m,?_,fun d e=>?_,X,Y⟩
        ·have:s.fr.tmps.getD t undef=s.fr.tmps[t]:=by simp[Array.getD,E]
         rw[this]at b;rw[←b];simp[E]
        ·unfold ahI at hd;rw[e]at hd;simpa using hd
       ·cases h
      ·cases h
     ·cases h
    ·cases h
   ·cases h
 · cases h
theorem QO(h:aeY P L ul p j a=true):aeT P L ul p j a:=by
 unfold aeY at h;simp only[Bool.and_eq_true,Option.isNone_iff_eq_none]at h;obtain⟨⟨⟨⟨t,v⟩,x⟩,c⟩,b⟩:=h
 refine⟨t,v,?_,?_,x⟩
 · split at c
   ·rename_i B e;exact⟨B,e,Array.eq_empty_of_size_eq_zero (by simpa using c)⟩
   ·cases c
 · split at b
   ·rename_i f C args F o g hd;simp only[Bool.and_eq_true,beq_iff_eq]at b;obtain⟨⟨⟨⟨⟨rfl,D⟩,E⟩,rfl⟩,i⟩,m⟩:=b
    rw[hd,wI E,Array.eq_empty_of_size_eq_zero D,wI m,Array.eq_empty_of_size_eq_zero i]
   ·cases b
theorem QS(h:aeZ P L ul p j q r l s=true):acy P L ul p j q (iv l) s:=by
 unfold aeZ at h;split at h
 · rename_i g;simp only[Bool.and_eq_true]at h;obtain⟨⟨m,i⟩,b⟩:=h
   refine⟨g,m,?_,?_,I7 l⟩
   ·split at i
    ·rename_i a o;exact⟨r,a,o,QO i⟩
    ·cases i
   ·split at b
    ·rename_i B t;rw[Bool.and_eq_true]at b;obtain⟨v,b⟩:=b
     split at b
     ·rename_i c e f x;have:=gW _ _ _ b
      cases this;exact⟨B,e,f,t,x,by simpa using v⟩
     ·cases b
    ·cases b
 · cases h
theorem Ld(K:bF P T)(KF:gK P w)(h:WB P u T w L ul p j q r A l s=true):Ws P u L ul p j q (iv l) s:=by
 unfold WB at h;split at h
 · rename_i i b;split at h
   ·rename_i c e;split at h
    ·rename_i m g;exact(jg K KF 100 b).bind fun s h=>by
      subst h;exact .here ⟨c,yY e,(jg K KF A g).bind fun s o=>by subst o;exact .here (QS h)⟩
    ·cases h
   ·cases h
 · cases h
theorem Lh(K:bF P T)(KF:gK P w)(h:WC P u T w L M p j q r A y (f k) s=true){g:dH->dH}(i:∀l∈y,g (iv l)=iv (f k l)):Wu P u L M p j q (VIn y) g s:=by
 unfold WC at h;split at h
 · rename_i b c;simp only[Bool.and_eq_true,Option.isNone_iff_eq_none,List.all_eq_true]at h;obtain⟨⟨m,o⟩,t⟩:=h
   refine⟨b,Lc c,m,o,?_⟩;rintro v ⟨l,e,rfl⟩;rw[i l e];exact Ld K KF (t l e)
 · cases h
theorem dh(K:bF P T)(KF:gK P w){m d:Nat}(C:k<m)(h:jS P u T w L M p j q r A y f locks k n d s=true):BQ P u L M p j q (VIn y) (Dv m locks f k) (locks k) s:=by
 unfold jS at h;split at h
 · rename_i v b;split at h
   ·rename_i c e;split at h
    ·rename_i x g;split at h
     ·rename_i B i;refine(jg K KF 100 b).bind fun s o=>?_
      subst o;refine .here ⟨c,yY e,(jg K KF n g).bind fun s o=>?_⟩;subst o;refine fG d i ?_;cases t:locks k with
      |true=>rw[t]at h;exact .here (.inr ⟨rfl,Lh K KF h fun l _=>by unfold Dv;rw[if_pos ⟨C,t⟩,KZ]⟩)
      |false=>rw[t]at h;exact .here (.inl ⟨rfl,La h⟩)
     ·cases h
    ·cases h
   ·cases h
 · cases h
end
end Go.Am
namespace Go.Am
open Go.Conc.Lib
open Go.ConcR (WgAt)
open Go.Ren (grow gp aQ az Wk At aG Keep full)
open Go.Mx (CellIs dH ah dX MuAt)
theorem Lj{g r:Type}{f:r->g->g}{V:g->Prop}{l s:List r}(h:l.Perm s):(∀i∈l,∀v,V v->V (f i v))->(∀i∈l,∀j∈l,∀v,V v->f i (f j v)=f j (f i v))->∀v,V v->l.foldl (fun a k=>f k a) v=s.foldl (fun a k=>f k a) v:=by
 induction h with
 | nil=>intro _ _ v _;rfl
 | cons x _ u=>
   intro c d v e;simp only[List.foldl_cons]
   exact u (fun i b=>c i (.tail _ b)) (fun i b j m=>d i (.tail _ b) j (.tail _ m)) _ (c x (.head _) v e)
 | swap x y l=>
   intro c d v e;simp only[List.foldl_cons]
   rw[d x (.tail _ (.head _)) y (.head _) v e]
 | trans p q n o=>intro c d v e;rw[n c d v e];exact o (fun i b=>c i (p.symm.subset b)) (fun i b j m=>d i (p.symm.subset b) j (p.symm.subset m)) v e
def Ll(n:Nat)(locks:Nat->Bool):List Nat:=(List.range n).filter locks
def I8(n:Nat)(locks:Nat->Bool)(f:Nat->List Int->List Int)(b:List (List Int))(c v:List Int):Bool:=
 b.contains c&&(Ll n locks).all (fun i=>b.all fun l=>b.contains (f i l))&&(Ll n locks).all (fun i=>(Ll n locks).all fun j=>b.all fun l=>f i (f j l)==f j (f i l))&&(Ll n locks).foldl (fun a k=>f k a) c==v
section
variable{P:Program}{ρ D:Env}{F W U Z:Nat->Prop}{N:Nat}{h:AH}{w w' u:World}{base cs:List Frame}{f:Nat->List Int->List Int}{locks:Nat->Bool}{E:List (List Int)}{n:Nat}{l0 v:List Int}{s s' p ws:AS}{pl:bP}{g g':Goroutine}{L:WgLink}{M:ah}{eX:Machine->Outcome->World->Trace->Prop}{m:Machine}{t:Trace}
 {gb mb vb r J O:Nat} {l:List Nat} {Fin:AS->Prop} {T:Tr TI} {Q:Tr Func}
theorem QT(h:I8 n locks f E l0 v=true):VIn E (iv l0)/\(∀k v,VIn E v->VIn E (Dv n locks f k v))/\Folds n locks (Dv n locks f) (iv l0) (iv v):=by
 unfold I8 at h;simp only[Bool.and_eq_true,List.all_eq_true,List.contains_iff_mem,beq_iff_eq]at h;obtain⟨⟨⟨q,y⟩,A⟩,B⟩:=h
 have mem:∀i,i∈Ll n locks↔i<n/\locks i=true:=fun i=>by unfold Ll;simp
 refine⟨⟨l0,q,rfl⟩,?_,?_⟩
 · rintro k _ ⟨l,c,rfl⟩;unfold Dv;split
   ·rename_i C;rw[KZ];exact⟨_,y k ((mem k).2 C) l c,rfl⟩
   ·exact⟨l,c,rfl⟩
 · intro order H e;have R:order.Perm (Ll n locks):=(List.perm_ext_iff_of_nodup H (List.nodup_range.filter _)).2 fun a=>(e a).trans (mem a).symm;have o:∀(d:List Nat),(∀i∈d,i<n/\locks i=true)->∀l,d.foldl (fun a k=>Dv n locks f k a) (iv l)=iv (d.foldl (fun a k=>f k a) l):=by
    intro d;induction d with
    |nil=>intro _ l;rfl
    |cons x d X=>
     intro z l;simp only[List.foldl_cons]
     have:Dv n locks f x (iv l)=iv (f x l):=by unfold Dv;rw[if_pos (z x (.head _)),KZ]
     rw[this];exact X (fun i b=>z i (.tail _ b)) _
   rw[o order (fun i b=>(e i).1 b)];have:=Lj (V:=fun l=>l∈E) R (fun i b l c=>y i ((mem i).2 ((e i).1 b)) l c) (fun i b j Y l c=>A i ((mem i).2 ((e i).1 b)) j ((mem j).2 ((e j).1 Y)) l c) l0 q
   rw[this,B]
structure Lm(P:Program)(M:ah)(s s':AS):Prop where
 run:s.fr.ret=false
 at_:∃ops i l k o z a',s.fr.todo=.region ops (i::l)::k/\ops[i]?=some o/\Region.wanted o (yielded ops s.fr.tmps)=true/\o.op=.alloc M.mu.tMutex/\zeroOf P M.mu.tMutex=some z/\z.cells=#[.int .i32 0,.int .u32 0]/\
   s.h.look s.h.n=none/\aF P s.fr s.h.blank (.pointer (some ⟨s.h.n,0,none⟩))=some a'/\s'=⟨a',s.cs,s.h.blank⟩
def Gu(P:Program)(M:ah)(s:AS):Option AS:=match opAt s with
 | some o=>match o.op with
   | .alloc t=>match zeroOf P t with
    |some z=>if t==M.mu.tMutex&&(s.h.look s.h.n).isNone&&iI 3 (.agg z.cells) (.agg #[.int .i32 0,.int .u32 0])then Ic P s s.h.blank (.pointer (some ⟨s.h.n,0,none⟩))else none
    |none=>none
   |_=>none
 | none=>none
theorem I9(h:Gu P M s=some s'):Lm P M s s':=by
 unfold Gu at h;split at h
 · rename_i o e;obtain⟨j,b,i,l,k,q,x,y,V⟩:=jU e
   split at h
   ·rename_i t c;split at h
    ·rename_i z A;split at h
     ·rename_i d;simp only[Bool.and_eq_true,beq_iff_eq,Option.isNone_iff_eq_none]at d;obtain⟨⟨rfl,B⟩,a⟩:=d
      obtain⟨C,H,R⟩:=mG h
      exact⟨j,b,i,l,k,o,z,C,q,x,y,c,A,UL a,B,H,R⟩
     ·cases h
    ·cases h
   ·cases h
 · cases h
theorem St.mutex[aP P]{s':AS}(S:St P base W U Z N ρ s g w m t)(k:Lm P M s s'):
   aG P eX (fun m t=>∃(D:Env) (g':Goroutine) (w':World) (d:Nat),ρ.Le D/\St P base W (fun b=>U b∨b=d) (fun b=>Z b∨b=d) N D s' g' w' m t/\Keep Z w w'/\D.born s.h.n/\D.to s.h.n=(d,0)/\MuAt M.mu.tMutex d w' ⟨0,0,0,0⟩ 0/\∀b,Z b->b≠d) m t:=by
 obtain⟨j,a1,i,l,k,o,z,a',t1,t2,t3,Y,t6,t7,B,C,H⟩:=k
 refine(S.UK (c:=[]) j t1).bind ?_;rintro m t ⟨D,lo,f,cs,w',R,A,V,y⟩;have a2:¬D.born s.h.n:=fun x=>Nat.lt_irrefl _ (A.rel.fresh _ x)
 have X:VR (D.add s.h.n (w'.heap.size,0) False 0 0) (.pointer (some ⟨s.h.n,0,none⟩)) (.pointer (some ⟨w'.heap.size,0,none⟩)):=by
   have e:(Value.pointer (some ⟨w'.heap.size,0,none⟩))=.pointer (some ((D.add s.h.n (w'.heap.size,0) False 0 0).addr ⟨s.h.n,0,none⟩)):=by simp only[Env.addr,dD]
   rw[e];exact .ptr (.inl rfl)
 refine(Ia (v:=.pointer (some ⟨s.h.n,0,none⟩)) (v':=.pointer (some ⟨w'.heap.size,0,none⟩)) (obj:=.cells #[.int .i32 0,.int .u32 0] M.mu.tMutex (0,0)) A V (y.lt S.lt) t2 t3 (fun q hq=>by rw[Y]at hq;cases hq) (fun a0 a=>?_) B C X).mono ?_
 · rw[←t7];exact xR Y t6 a
 · rintro m t ⟨h1,h2,h3,h4⟩;subst H;refine⟨_,_,_,w'.heap.size,R.trans h1,h4,y.trans ⟨fun b x=>?_,by simp,.rfl,rfl⟩,h2,h3,?_,fun b x=>?_⟩
   ·have:=y.lt S.lt b x
    simp only[World.alloc]
    rw[Array.getElem?_push,if_neg (by omega)]
   ·show(w'.heap.push _)[w'.heap.size]?=_
    simp[Go.Mx.Wd.num]
   ·have:=y.lt S.lt b x
    omega
theorem Sd.mutex[aP P]{s':AS}(S:Sd P base F u W U Z N ρ s g w m t)(k:Lm P M s s'):
   aG P eX (fun m t=>∃(D:Env) (g':Goroutine) (w':World) (c:Nat),ρ.Le D/\Sd P base F u W (fun b=>U b∨b=c) (fun b=>Z b∨b=c) N D s' g' w' m t/\Keep Z w w'/\D.born s.h.n/\D.to s.h.n=(c,0)/\MuAt M.mu.tMutex c w' ⟨0,0,0,0⟩ 0/\∀b,Z b->b≠c) m t:=by
 refine(S.st.mutex k).mono ?_;rintro m t ⟨D,g',w',c,j,o,e,q,x,y,i⟩;refine⟨D,g',w',c,j,⟨o,?_,fun b a=>.inl (S.fz b a),?_,S.Ib e⟩,e,q,x,y,i⟩
 · rintro b (a|a|a)
   ·exact .inl (S.wu b (.inl a))
   ·exact .inl (S.wu b (.inr a))
   ·exact .inr a
 · rintro b d (a|a|a)
   ·exact S.NT b d (.inl a)
   ·exact S.NT b d (.inr a)
   ·exact i b (S.fz b d) a
def iU(P:Program)(L:WgLink)(M:ah)(base:List Frame)(F:Nat->Prop)(u:World)(mb:Nat)(gb:Option Nat)(s:AS)(m:Machine)(t:Trace):Prop:=
 ∃(W U Z:Nat->Prop) (N:Nat) (ρ:Env) (g:Goroutine) (w:World),Sd P base F u W U Z N ρ s g w m t/\∃a,U a/\ρ.born mb/\ρ.to mb=(a,0)/\MuAt M.mu.tMutex a w ⟨0,0,0,0⟩ 0/\
   match gb with
   |none=>True
   |some gb=>∃b,U b/\b≠a/\ρ.born gb/\ρ.to gb=(b,0)/\WgAt L.tWg b w 0 0
theorem EJ{a:Nat}{d:Go.Mx.Wd}{q:Nat}{b:TypeId}(h:MuAt b a w d q)(k:Keep Z w w')(c:Z a):MuAt b a w' d q:=(k.1 a c).trans h
theorem QU{c:Nat}{a b:Int}{d:TypeId}(h:WgAt d c w a b)(k:Keep Z w w')(e:Z c):WgAt d c w' a b:=(k.1 c e).trans h
theorem bW.mutex[aP P](e:Gu P M s=some s')(S:bW P L base F u .idle s m t):aG P eX (iU P L M base F u s.h.n none s') m t:=by
 obtain⟨W,U,Z,N,ρ,g,w,S,j⟩:=S
 refine(S.mutex (I9 e)).mono ?_;rintro m t ⟨D,g',w',a,k,b,o,c,d,i,q⟩;exact⟨_,_,_,_,_,_,_,b,a,.inr rfl,c,d,i,trivial⟩
theorem iU.reach[aP P]{o:Option Nat}{K:AS->Prop}(k:bG P pl K s)(S:iU P L M base F u mb o s m t):aG P eX (fun m t=>∃s',K s'/\iU P L M base F u mb o s' m t) m t:=by
 obtain⟨W,U,Z,N,ρ,g,w,S,i,b,c,j,q,x⟩:=S
 refine(S.reach k).mono ?_;rintro m t ⟨D,s',g',w',y,a,z,d⟩;refine⟨s',y,W,U,Z,N,D,g',w',z,i,b,a.born _ c,(a.to _ c).trans j,EJ q d (S.wu _ (.inr b)),?_⟩;cases o with
 | none=>trivial
 | some gb=>
   obtain⟨A,q1,B,e,C,H⟩:=x
   exact⟨A,q1,B,a.born _ e,(a.to _ e).trans C,QU H d (S.wu _ (.inr q1))⟩
theorem iU.forget{o:Option Nat}(l:List Nat)(hd:aK s.fr=true)(S:iU P L M base F u mb o s m t):iU P L M base F u mb o ⟨s.fr,s.cs,s.h.forget l⟩ m t:=by
 obtain⟨W,U,Z,N,ρ,g,w,S,h⟩:=S
 exact⟨W,U,Z,N,ρ,g,w,S.forget l hd,h⟩
theorem iU.step[aP P](K:bF P T)(KF:gK P Q){o:Option Nat}{n:Nat}(e:stepS P pl T Q n l s=some s')(S:iU P L M base F u mb o s m t):aG P eX (iU P L M base F u mb o s') m t:=by
 unfold stepS at e;split at e
 · rename_i p a;split at e
   ·rename_i hd;cases e;refine(S.reach (jg K KF n a)).mono ?_;rintro m t ⟨s',rfl,b⟩;exact b.forget l hd
   ·cases e
 · cases e
theorem iU.group[aP P](e:Fj P L s=some s')(S:iU P L M base F u mb none s m t):aG P eX (iU P L M base F u mb (some s.h.n) s') m t:=by
 obtain⟨W,U,Z,N,ρ,g,w,S,b,a,c,i,j,B⟩:=S
 refine(S.group (Ie e)).mono ?_;rintro m t ⟨D,g',w',k,d,o,q,x,y,z,A⟩;exact⟨_,_,_,_,_,_,_,o,b,.inl a,d.born _ c,(d.to _ c).trans i,EJ j q (S.wu _ (.inr a)),k,.inr rfl,fun e=>A b (S.wu _ (.inr a)) e.symm,x,y,z⟩
theorem QV{C:AS->Prop}(e:goS P s=some (ws,s'))(A:C ws):aeU P C s s':=by
 unfold goS at e;split at e
 · rename_i o B;obtain⟨H,b,i,l,k,R,V,X,Y⟩:=jU B
   split at e
   ·rename_i c d;split at e
    ·rename_i x hx;split at e
     ·rename_i j first q hf
      split at e
      ·rename_i y;simp only[Bool.and_eq_true,Option.isNone_iff_eq_none]at y;split at e
       ·rename_i z a;cases e;obtain⟨a',h6,h7⟩:=mG a
        exact⟨H,y.2,b,i,l,k,o,c,x,j,first,q,a',R,V,X,Y,d,hx,hf,y.1,A,h6,h7⟩
       ·cases e
      ·cases e
     ·cases e
    ·cases e
   ·cases e
 · cases e
theorem bK{V:dH->Prop}{d:Nat->dH->dH}(e:bC P pl L gb J O s=some (ws,s'))(j:BQ P pl L M gb mb vb V (d (n-(r+1))) (locks (n-(r+1))) ws)(k:kK P pl L M gb mb vb V d locks n Fin r s'):kK P pl L M gb mb vb V d locks n Fin (r+1) s:=by
 unfold bC at e;split at e
 · rename_i p a;split at e
   ·rename_i c o;split at e
    ·rename_i i b;exact fG J a (.here ⟨c,AU o,fG O b (.here ⟨s',QV e j,k⟩)⟩)
    ·cases e
   ·cases e
 · cases e
noncomputable section
def WG(vb a:Nat)(l0:List Int)(b:List Nat)(s:AS):Option AS:=match s.h.look vb with
 | some B=>match B.obj with
   | .cells c _ _=>if iI 3 (s.fr.tmps.getD a undef) (.pointer (some ⟨vb,0,none⟩))&&iI 9 (.agg c) (.agg (iv l0))&&B.fM.isNone&&!B.ro&&((s.h.dB.get s.h.n).getD []).isEmpty&&aK s.fr then some ⟨s.fr,s.cs,(s.h.kill vb).forget b⟩else none
   |_=>none
 | none=>none
def WH(P:Program)(pl:bP)(L:WgLink)(gb n vb:Nat)(v:List Int)(l:List Nat)(s:AS):Option AS:=match abY P pl L gb n s with
 | some p=>bif aK p.fr&&(p.h.look vb).isNone then some ⟨p.fr,p.cs,((p.h.tell vb (iv v)).forget l).kG⟩else none
 | none=>none
end
def Gv(vb:Nat)(v:List Int)(l:List Nat)(s' p:AS):Prop:=aK p.fr=true/\p.h.look vb=none/\s'=⟨p.fr,p.cs,((p.h.tell vb (iv v)).forget l).kG⟩
theorem Ja{V:dH->Prop}{d:Nat->dH->dH}{k:Nat}(e:WH P pl L gb k vb v l s=some s'):kK P pl L M gb mb vb V d locks n (Gv vb v l s') 0 s:=by
 unfold WH abY at e;split at e
 · rename_i p b;split at b
   ·rename_i c i;cases a:aK p.fr&&(p.h.look vb).isNone with
    |false=>rw[a]at e;cases e
    |true=>rw[a]at e;cases e;rw[Bool.and_eq_true,Option.isNone_iff_eq_none]at a;exact fG k i (.here ⟨p,AU b,a.1,a.2,rfl⟩)
   ·cases b
 · cases e
theorem iU.phase[aP P](H:dX P M)(A:uN P L)(C:n<63){d:Nat}{R:List Nat}(a:WG vb d l0 R s=some p)(V:I8 n locks f E l0 v=true)(k:kK P pl L M gb mb vb (VIn E) (Dv n locks f) locks n (Gv vb v l s') n p)(S:iU P L M base F u mb (some gb) s m t):
   aG P eX (bW P L base F u .idle s') m t:=by
 obtain⟨W,U,Z,N,ρ,g,w,S,mu,X,Y,h3,h4,wg,q1,q2,q3,q4,q5⟩:=S
 obtain⟨f1,f2,f3⟩:=QT V
 unfold WG at a;split at a
 · rename_i B hB;split at a
   ·rename_i c e fz ho;split at a
    ·rename_i q;cases a;simp only[Bool.and_eq_true,Option.isNone_iff_eq_none,Bool.not_eq_true',List.isEmpty_iff]at q;obtain⟨⟨⟨⟨⟨c0,c1⟩,c2⟩,c3⟩,c4⟩,b⟩:=q
     have i:=gW _ _ _ c1
     cases i;have j:ρ.born vb:=by
      obtain⟨⟨lo,f,cs,_,_,hf,_⟩,_⟩:=S.st.JS
      have o:=hf.f0 fun a0 l k e=>by unfold aK at b;rw[e]at b;cases b
      have:=xA o.tmps d
      rw[WE c0]at this;generalize f.tmps.getD d undef=y at this
      cases this with
      |ptr h=>exact h
     refine(S.aeW H A q1 X q2 ⟨q3,q4⟩ ⟨Y,h3⟩ q5 h4 j hB ho c2 c3 c4 b C (fun v ⟨l,_,e⟩=>e▸I7 l) f2 f1 f3 (fun s' h=>⟨h.1,h.2.1⟩) k).mono ?_;rintro m t ⟨D,x,g',w',W',Z',N',⟨z,k2,rfl⟩,k4,k5⟩;exact⟨_,_,_,_,_,_,_,(k5.forget l z).FU z,trivial⟩
    ·cases a
   ·cases a
 · cases a
noncomputable section
def muS(P:Program)(pl:bP)(L:WgLink)(M:ah)(a b vb j:Nat)(l0:List Int)(k:List Nat)(s:AS):Option (Nat×Nat×AS):=match uI P pl a s with
 | some (.go c)=>match Gu P M c with
   |some p=>match uI P pl b p with
    |some (.go d)=>match Fj P L d with
     |some e=>match WG vb j l0 k e with
      |some i=>some (c.h.n,d.h.n,i)
      |none=>none
     |none=>none
    |_=>none
   |none=>none
 | _=>none
end
theorem bW.ae0[aP P](H:dX P M)(V:uN P L){a b X:Nat}{Y lf:List Nat}(hn:n<63)(e:muS P pl L M a b vb X l0 lf s=some (mb,gb,p))(ef:I8 n locks f E l0 v=true)(ks:kK P pl L M gb mb vb (VIn E) (Dv n locks f) locks n (Gv vb v Y s') n p)(S:bW P L base F u .idle s m t):
   aG P eX (bW P L base F u .idle s') m t:=by
 unfold muS at e;split at e
 · rename_i c d;split at e
   ·rename_i A i;split at e
    ·rename_i B j;split at e
     ·rename_i C k;split at e
      ·rename_i R o;cases e;refine aG.bind (K:=bW P L base F u .idle c) ?_ fun m t q=>?_
       ·obtain⟨W,U,Z,N,ρ,g,w,S,hp⟩:=S
        refine(S.reach (fG a d (.here rfl))).mono ?_;rintro m t ⟨D,s',g',w',rfl,k2,k3,k4⟩;exact⟨_,_,_,_,_,_,_,k3,trivial⟩
       ·refine(bW.mutex i q).bind fun m t x=>(x.reach (fG b j (.here rfl))).bind ?_;rintro m t ⟨s',rfl,y⟩;exact(iU.group k y).bind fun m t z=>z.phase H V hn o ef ks
      ·cases e
     ·cases e
    ·cases e
   ·cases e
 · cases e
end
end Go.Am
namespace Go.Am
open Go.Conc (born QuitsD G scase rcase Good)
open Go.Conc.Lib
open Go.ConcR (WgAt)
open Go.Ren (grow gp aQ az Wk dU Idle af X0 At aG Keep full Tm)
noncomputable section
def WI(P:Program)(b:bP):List (Nat×Nat×Value)->AS->Option (List (Value×Value)×AS)
 | [],s=>some ([],s)
 | (n,t,v)::l,s=>match uI P b n s with
   |some (.go a)=>match a.fr.tmps[t]? with
    |some u=>match WI P b l ⟨{a.fr with tmps:=a.fr.tmps.setIfInBounds t v},a.cs,a.h⟩with
     |some (d,e)=>some ((u,v)::d,e)
     |none=>none
    |none=>none
   |_=>none
def ae1(P:Program)(a:bP)(l:List (Nat×Nat×Value))(n:Nat)(s:AS):Option (List (Value×Value)×Value×AH):=match WI P a l s with
 | some (b,c)=>match uI P a n c with
   |some (.ret v h)=>some (b,v,h)
   |_=>none
 | none=>none
def Lp(P:Program)(b:bP)(l:List (Nat×Nat×Value))(n:Nat)(s:AS):Option (List (Value×Value)×AS):=match WI P b l s with
 | some (c,d)=>match uI P b n d with
   |some (.go a)=>some (c,a)
   |_=>none
 | none=>none
end
section
variable{P:Program}{pl:bP}{s s':AS}{b:List (Value×Value)}{K:AS->Prop}{Q:Value->AH->Prop}{v:Value}{h:AH}{n:Nat}
theorem bG.all{s:AS}(h:bG P pl (iV P pl Q) s):iV P pl Q s:=by
 induction h with
 | here h=>exact h
 | step a d f=>
   refine .step (fun c=>let⟨s',e⟩:=a c;⟨_,e⟩) f fun c v h e=>?_
   obtain⟨s',g⟩:=a c
   rw[g]at e;cases e
theorem WJ{a:Array Value}{t:Nat}{v:Value}(h:a[t]?=some v):a.setIfInBounds t v=a:=by
 obtain⟨c,d⟩:=Array.getElem?_eq_some_iff.1 h;rw[Array.setIfInBounds,dif_pos c,←d];exact Array.set_getElem_self _
theorem vN:∀(l:List (Nat×Nat×Value)) {s:AS} {b:List (Value×Value)},WI P pl l s=some (b,s')->(∀p∈b,p.1=p.2)->bG P pl K s'->bG P pl K s
 | [],s,b,e,_,k=>by cases e;exact k
 | (n,t,v)::l,s,b,e,c,k=>by
   unfold WI at e;split at e
   ·rename_i f d;split at e
    ·rename_i u g;split at e
     ·rename_i i j a;cases e;have:=c _ (.head _)
      dsimp only at this;subst this;rw[WJ g]at a;exact fG n d (vN l a (fun p m=>c p (.tail _ m)) k)
     ·cases e
    ·cases e
   ·cases e
theorem qx{l:List (Nat×Nat×Value)}(e:Lp P pl l n s=some (b,s'))(d:∀p∈b,p.1=p.2)(k:bG P pl K s'):bG P pl K s:=by
 unfold Lp at e;split at e
 · rename_i i f a;split at e
   ·rename_i g c;cases e;exact vN l a d (fG n c k)
   ·cases e
 · cases e
theorem WL{l:List (Nat×Nat×Value)}(e:ae1 P pl l n s=some (b,v,h))(d:∀p∈b,p.1=p.2)(g:Q v h):iV P pl Q s:=by
 unfold ae1 at e;split at e
 · rename_i i f a;split at e
   ·rename_i j k c;cases e;exact(vN l a d (.here (BX n c g))).all
   ·cases e
 · cases e
end
section
variable{P:Program}{B q:Env}{F W U Z C:Nat->Prop}{N:Nat}{h h':AH}{w a d:World}{base:List Frame}{s y s₀:AS}{pl:bP}{g u:Goroutine}{L:WgLink}{r:Machine->Outcome->World->Trace->Prop}{m:Machine}{t:Trace}{c:ak}{z:List ak}{j:FuncId}{v:Value}{args:Array Value}
theorem Sd.Lp[aP P]{l:List (Nat×Nat×Value)}{n:Nat}{f:List (Value×Value)}(e:Lp P pl l n s=some (f,y))(b:∀p∈f,p.1=p.2)(S:Sd P base F d W U Z N B s g w m t):
   aG P r (fun m t=>∃(q:Env) (u:Goroutine) (a:World),Sd P base F d W U Z N q y u a m t) m t:=by
 refine(S.reach (K:=(· =y)) (qx e b (.here rfl))).mono ?_;rintro m t ⟨q,i,u,a,rfl,_,k,_⟩;exact⟨q,u,a,k⟩
def Lr(P:Program)(j:FuncId)(v:Value)(s:AS):Option AS:=match opAt s with
 | some o=>match o.op with
   | .call c=>match c.callee with
    | .value (.func f)=>if f==j&&s.fr.round.isNone&&c.args.size==0 then Ic P s s.h v else none
    |_=>none
   |_=>none
 | none=>none
theorem Jb(h:Lr P j v s=some y):UO P j v s y:=by
 unfold Lr at h;split at h
 · rename_i o D;obtain⟨E,b,i,l,k,H,J,M,O⟩:=jU D
   split at h
   ·rename_i c e;split at h
    ·rename_i f p;split at h
     ·rename_i x;simp only[Bool.and_eq_true,beq_iff_eq,Option.isNone_iff_eq_none]at x;obtain⟨⟨rfl,Q⟩,A⟩:=x
      obtain⟨R,T,V⟩:=mG h
      obtain⟨callee,as,n⟩:=c
      dsimp only at p A;subst p;have:as=#[]:=Array.eq_empty_of_size_eq_zero A
      subst this;exact⟨E,Q,b,i,l,k,o,n,R,H,J,M,O,e,T,V⟩
     ·cases h
    ·cases h
   ·cases h
 · cases h
theorem Sd.ahK[aP P](hp:dA P j=true)(hv:Plain v)(a8:∀{b:Frame} {bs:List Frame} {F:Nat->Prop} {d:World} {m:Machine} {t:Trace},bW P L (b::bs) F d .idle ⟨ak.enter P j #[],[],h0⟩ m t->aG P r (Back P b bs F d v) m t)(S:Sd P base F d W U Z N B s g w m t)(k:UO P j v s y):
   aG P r (fun m t=>∃(W' U' C:Nat->Prop) (N':Nat) (q:Env) (u:Goroutine) (a:World),B.Le q/\Sd P base F d W' U' C N' q y u a m t) m t:=by
 obtain⟨a3,Q,a9,i,l,kk,o,c0,a',t1,t2,t3,t4,t5,t6,t7⟩:=k
 refine(S.UK (c:=[]) a3 t1).bind ?_;rintro m t ⟨q,lo,f,z,a,b0,A,b1,hk,b2,R⟩;obtain⟨b3,sr,kr,b7,a4⟩:=tV (m:=true) (base:=base) hp A Q t2 t3 t4 t5
 have T:(#[]:Array Operand).map f.eval=#[]:=by simp
 rw[T]at a4;have b4:Wk P true (fun _=>True) X0 (fun _=>False) (fun O' u b5=>u=dV (Frame.enter P j #[] .normal) (f::(z++base))/\az (full Z a) (fun _=>False) a b5) (full Z a) (dV f (z++base)) a:=
   Wk.mk rfl fun p hr _=>⟨_,p,#[],a4 p,.none p,.stop ⟨rfl,hr⟩⟩
 refine(Go.Ren.At.wk2 b4 R rfl b1).bind ?_;rintro m t ⟨b8,p,V,⟨rfl,H⟩,a1⟩;have M:a.heap.size<=p.heap.size:=H.size
 have D:=A.rely H
 have a2:bW P L (f::(z++base)) (fun b=>full Z a b∨F b) p .idle ⟨ak.enter P j #[],[],h0⟩ m t:=by
   refine⟨W,U,fun b=>b<p.heap.size,N,uV,_,p,⟨⟨V.drop fun b e=>Nat.lt_of_lt_of_le (R b e) M,J3 _ _ _ _,fun b e=>e⟩,fun b e=>Nat.lt_of_lt_of_le (R b (S.wu b e)) M,fun b e=>?_,fun b e=>?_,.refl⟩,trivial⟩
   ·rcases e with e|e
    ·exact Nat.lt_of_lt_of_le e.1 M
    ·exact Nat.lt_of_lt_of_le (R b (S.fz b e)) M
   ·rcases e with e|e
    ·exact fun x=>e.2 (S.wu b x)
    ·exact S.NT b e
 refine(a8 a2).mono ?_;rintro m t ⟨W',U',J,N',E,X,a5,b6,O,n,Y⟩;have a6:∀b,full Z a b->full (fun b=>J b/\¬full Z a b) E b:=fun b e=>⟨Nat.lt_of_lt_of_le e.1 (Nat.le_trans M n.2.1),fun x=>x.2 e⟩
 have a0:Rel q (full (fun b=>J b/\¬full Z a b) E) (fun _=>False) s.h E:=by
   have r1:Rel q (full Z a) (fun _=>False) s.h {p with heap:=E.heap}:=D.rel.rely ⟨n.2.1,fun b e=>n.1 b (.inl e),fun b e=>e.elim,.rfl,rfl,rfl⟩
   have r2:Rel q (full Z a) (fun _=>False) s.h E:=⟨r1.cells,r1.obj,r1.own,r1.sep,r1.fresh,r1.low,r1.bD,r1.row,r1.mem⟩
   exact r2.mono a6
 have a7:wG P q lo s a9 i f z (full (fun b=>J b/\¬full Z a b) E) (fun _=>False) E:=⟨D.bound,D.fs,D.run,D.todo,D.uM,D.wanted,D.stk,a0⟩
 subst t7;refine⟨W',U',fun b=>J b/\¬full Z a b,N',q,_,E,b0,⟨X.alone.drop fun b e=>⟨a5 b e,fun hf=>O b (.inl hf) e⟩,?_,fun b e=>Y b e.1⟩,fun b e=>⟨a5 b e,fun hf=>O b (.inl hf) e⟩,fun b e=>⟨b6 b (.inr e),fun hf=>hf.2 (S.fz b e)⟩,fun b e=>O b (.inr e),b2.trans ?_⟩
 · exact a7.finish (.refl q) (fun x _ hx=>hx) (Nat.le_refl _) (hv.vr q) a0 t6
 · refine⟨fun b e=>?_,Nat.le_trans M n.2.1,H.os.trans n.2.2.1,n.2.2.2.trans H.output⟩;rw[n.1 b (.inr e)];exact a1.1 b (S.fz b e)
theorem Sd.ends{o:Value->World->Prop}{K:Machine->Trace->Prop}{fd:Func}{O:AH}(S:Sd P [] F d W U Z N B s g w m t)(Q:s.cs=[])(J:aK s.fr=true)(R:s.fr.ret=true)(a0:s.fr.defers=[])(a1:s.fr.dk=false)(a2:P.funcs[s.fr.fn]?=some fd)(hx:(results fd s.fr.tmps).ar P none s.h=some (v,O))(a3:P.inits.idxOf? s.fr.fn=none)(hv:Plain v)
   (hP:∀a,Keep F d a->o v a):aG P (Good P o) K m t:=by
 obtain⟨⟨lo,f,z,b2,rfl,hf,H⟩,b3⟩:=S.st.JS
 rw[Q]at H;cases H;have a4:∀i,∃v' a es,stepG P true (dV f ([]++[])) (w.at i)=.ended (.done v') a es/\aQ X0 (full Z w) (fun _=>False) (w.at i) a es/\o v' a:=fun i=>by
   obtain⟨⟨b4,M,T,a8,hg,a5,p⟩,V⟩:=S.st.JS.at i
   have hb:M=f/\T=[]:=by rw[Q]at p;cases p;exact⟨by injection hg with e1 _;exact e1.symm,rfl⟩
   obtain⟨rfl,rfl⟩:=hb
   have A:F0 B s.fr M:=a5.f0 fun b5 l k e=>by unfold aK at J;rw[e]at J;cases J
   have n:M.mode=.returning:=by
    have:=A.mode
    rw[R]at this;exact this
   have D:=A.defers
   rw[a0]at D;have E:=A.toFB.normal a1
   have Y:M.fn=s.fr.fn:=A.fn
   obtain⟨τ,v',a,es,h1,h2,h3,h4,h5,h8,h9⟩:=yF (X:=X0) ((BZ fd A.tmps).xQ V hx) M.fn
   have a6:=hv.eq h4
   subst a6;refine⟨v',a,seen P M.fn es,?_,h2,hP a (S.keep.trans ⟨fun b hb=>?_,h2.size,.of h2.os,h2.output⟩)⟩
   ·obtain⟨fn,a9,b0,defers,b1,kind,ro⟩:=M
    dsimp only at n E Y D h1;subst n E Y;cases D;rw[stepG_ret rfl];simp only[unwind,a2]
    rw[h1];simp[doReturn,a3,GStep.after,List.append_nil]
   ·have a7:=S.st.lt b (S.fz b hb)
    exact h2.heap b a7 fun x=>x.2 (S.fz b hb)
 exact Go.Ren.At.ends rfl S.st.at_ a4
end
end Go.Am
namespace Go.Ren
section
variable{P:Program}{O i D l A F:Nat->Prop}{w c w₂ d:World}{g j:Goroutine}{X:Event->Prop}{I:World->Prop}{m:Bool}
theorem gp.Pj{B:Nat}{e:Event}(h:gp X B O l e)(f:∀b,l b->O b∨D b):gp X B O D e:=by
 rcases h with h|h
 · exact .inl h
 · right;revert h;cases e.loc with
   |cell a=>exact fun h=>h.elim .inl fun x=>(f _ x.1).imp id fun y=>⟨y,x.2⟩
   |obj r=>exact fun h=>h.elim .inl fun x=>(f _ x.1).imp id fun y=>⟨y,x.2⟩
   |_=>exact id
theorem Wk.Pj{S:(Nat->Prop)->Goroutine->World->Prop}(h:Wk P m I X l S O g w):(∀b,l b->O b∨D b)->Wk P m I X D S O g w:=by
 induction h with
 | stop h=>intro _;exact .stop h
 | @step O g w t f u v h k x=>
   intro p;have a:∀c,az O D w c->az O l w c:=fun c r=>⟨r.size,r.own,fun b o=>(p b o).elim (r.own b) (r.ro b),r.os,r.output,r.tape⟩
   refine .step t f u v (fun c q s=>?_) fun c q s=>x c (a c q) s fun b o=>(p b o).imp .inl id;obtain⟨y,n⟩:=h c (a c q) s
   exact⟨y,n.size,n.heap,n.os,n.output,n.tape,fun e z=>(n.ev e z).Pj fun b o=>(p b o).imp .inl id⟩
theorem Wk.bnd{S:(Nat->Prop)->Goroutine->World->Prop}(h:Wk P m I X D S O g w):(∀b,O b->b<w.heap.size)->(∀b,D b->b<w.heap.size)->
   Wk P m I X D (fun i j d=>S i j d/\(∀b,i b->b<d.heap.size)/\(∀b,D b->b<d.heap.size)/\∀b,O b->i b) O g w:=by
 induction h with
 | stop h=>intro n o;exact .stop ⟨h,n,o,fun _=>id⟩
 | @step O g w r f u s h k t=>
   intro n o;refine .step r f u s h fun c e p=>?_
   obtain⟨_,q⟩:=h c e p
   refine(t c e p (fun b a=>?_) fun b a=>Nat.lt_of_lt_of_le (o b a) (Nat.le_trans e.size q.size)).mono fun i j d z=>⟨z.1,z.2.1,z.2.2.1,fun b a=>z.2.2.2 b (.inl a)⟩
   rcases a with a|a
   ·exact Nat.lt_of_lt_of_le (n b a) (Nat.le_trans e.size q.size)
   ·exact a.2
theorem Wk.apart{S:(Nat->Prop)->Goroutine->World->Prop}(h:Wk P m I X D S O g w):(∀b,A b->b<w.heap.size/\¬O b)->
   Wk P m I X D (fun i j d=>S i j d/\∀b,A b->b<d.heap.size/\¬i b) O g w:=by
 induction h with
 | stop h=>intro a;exact .stop ⟨h,a⟩
 | @step O g w p f u q h k r=>
   intro a;refine .step p f u q h fun c e n=>r c e n fun b o=>?_
   obtain⟨_,s⟩:=h c e n
   have t:=s.size
   have v:=e.size
   have z:=(a b o).1;exact⟨by omega,fun x=>x.elim (a b o).2 fun y=>by omega⟩
theorem Wk.read{S:(Nat->Prop)->Goroutine->World->Prop}(h:Wk P m I X A S O g w)(e:∀b,A b->b<w.heap.size/\¬O b):
   Wk P m I X (fun _=>False) (fun i j d=>∃a,S a j d/\(i=fun b=>a b∨A b)/\(∀b,A b->¬a b)/\az A A w d) (fun b=>O b∨A b) g w:=by
 refine(((h.apart e).frame e e).Pj (D:=fun _=>False) fun b f=>.inl (.inr f)).mono ?_;rintro i j d ⟨a,⟨k,n⟩,rfl,o⟩;exact⟨a,k,rfl,fun b f=>(n b f).2,o⟩
end
end Go.Ren
namespace Go.Am
open Go.Ren (grow gp aQ az Wk X0)
section
variable{P:Program}{ρ a d:Env}{O O' D D':Nat->Prop}{h h' hA:AH}{w w':World}{base:List Frame}{pl:bP}{s s':AS}{K L:AS->Prop}{Q R:Value->AH->Prop}{c:ak}{cs:List ak}{f:FuncId}{args:Array Value}{g:Goroutine}
structure bT(P:Program)(K:AS->Prop)(s:AS):Prop where
 go:∀{ρ:Env} {O D:Nat->Prop} {base:List Frame} {g:Goroutine} {w:World},(∀b,O b->b<w.heap.size)->(∀b,D b->b<w.heap.size)->lU P ρ O D base s g w->
 Wk P true (fun _=>True) X0 D (fun O' g' w'=>∃(a:Env) (s':AS),K s'/\ρ.Le a/\lU P a O' D base s' g' w') O g w
structure bu(P:Program)(Q:Value->AH->Prop)(s:AS):Prop where
 go:∀{ρ:Env} {O D:Nat->Prop} {b:Frame} {bs:List Frame} {g:Goroutine} {w:World},(∀b,O b->b<w.heap.size)->(∀b,D b->b<w.heap.size)->lU P ρ O D (b::bs) s g w->
 Wk P true (fun _=>True) X0 D (fun O' g' w'=>∃(a:Env) (v:Value) (h:AH) (v':Value),Q v h/\ρ.Le a/\VR a v v'/\g'=dV (b.finish v') bs/\Rel a O' D h w') O g w
theorem bG.runs[aP P](k:bG P pl K s):bT P K s:=⟨fun _ _ S=>iH k S⟩
theorem iV.Dw[aP P](k:iV P pl Q s):bu P Q s:=⟨fun _ _ S=>Oe k S⟩
theorem bT.here(h:K s):bT P K s:=⟨fun _ _ S=>.stop ⟨_,_,h,.refl _,S⟩⟩
theorem bT.bind(k:bT P K s)(l:∀s,K s->bT P L s):bT P L s:=by
 refine⟨fun i j S=>?_⟩;refine((k.go i j S).bnd i j).bind ?_;rintro m n o ⟨⟨a,b,t,u,v⟩,x,y,_⟩;refine((l b t).go x y v).mono ?_;rintro p q r ⟨d,e,z,A,B⟩;exact⟨d,e,z,u.trans A,B⟩
theorem bT.mono(k:bT P K s)(l:∀s,K s->L s):bT P L s:=k.bind fun s h=>bT.here (l s h)
theorem bT.Dw(k:bT P K s)(l:∀s,K s->bu P Q s):bu P Q s:=by
 refine⟨fun e i S=>?_⟩;refine((k.go e i S).bnd e i).bind ?_;rintro j m n ⟨⟨a,b,r,t,u⟩,x,y,_⟩;refine((l b r).go x y u).mono ?_;rintro o p q ⟨d,v,h,z,A,B,C⟩;exact⟨d,v,h,z,A,t.trans B,C⟩
theorem bu.mono(k:bu P Q s)(l:∀v h,Q v h->R v h):bu P R s:=by
 refine⟨fun j m S=>?_⟩;refine(k.go j m S).mono ?_;rintro b e i ⟨d,v,h,n,o,p⟩;exact⟨d,v,h,n,l v h o,p⟩
end
end Go.Am
namespace Go.Am
open Go.Ren (grow gp aQ az Wk X0)
def OkF(p:Nat->Prop):Fn->Prop
 | .yield l=>p l
 | _=>True
inductive l7(p:Nat->Prop):Value->Prop
 | bool (b:Bool):l7 p (.bool b)
 | int (k:IntKind) (n:Int):l7 p (.int k n)
 | string (s:ByteArray):l7 p (.string s)
 | fO:l7 p (.pointer none)
 | ptr {a:Addr} (h:p a.block):l7 p (.pointer (some a))
 | nilslice (n c:Nat):l7 p (.slice none n c)
 | slice {a:Addr} {n c:Nat} (h:p a.block):l7 p (.slice (some a) n c)
 | dL:l7 p (.map none)
 | map {r:Nat} (h:p r):l7 p (.map (some r))
 | dW:l7 p (.chan none)
 | chan {r:Nat} (h:p r):l7 p (.chan (some r))
 | nilFunc:l7 p .nilFunc
 | func {f:Fn} {a b:Array Value} (hf:OkF p f) (h:∀x∈a,l7 p x) (k:∀x∈b,l7 p x):l7 p (.func f a b)
 | nilIface:l7 p .nilIface
 | iface {t:TypeId} {v:Value} (h:l7 p v):l7 p (.iface t v)
 | agg {a:Array Value} (h:∀x∈a,l7 p x):l7 p (.agg a)
 | tuple {a:Array Value} (h:∀x∈a,l7 p x):l7 p (.tuple a)
theorem dN{ρ:Env}{a b:Array Value}(d:a.size=b.size){x:Value}(e:x∈a):∃(i:Nat) (y:Value),a[i]?=some x/\b[i]?=some y:=by
 obtain⟨i,c,rfl⟩:=Array.mem_iff_getElem.1 e;exact⟨i,b[i]'(d▸c),by simp[c],by simp[d▸c]⟩
theorem VR.ok{ρ:Env}{q:Nat->Prop}{v t:Value}(k:VR ρ v t):l7 q v->l7 (fun b=>ρ.born b/\q b) v:=by
 induction k with
 | bool b=>intro _;exact .bool b
 | int k n=>intro _;exact .int k n
 | string s=>intro _;exact .string s
 | fO=>intro _;exact .fO
 | ptr h=>intro k;cases k with|ptr k=>exact .ptr ⟨h,k⟩
 | nilslice n c=>intro _;exact .nilslice n c
 | slice h _=>intro k;cases k with|slice k=>exact .slice ⟨h,k⟩
 | dL=>intro _;exact .dL
 | map h=>intro k;cases k with|map k=>exact .map ⟨h.1,k⟩
 | dW=>intro _;exact .dW
 | chan h=>intro k;cases k with|chan k=>exact .chan ⟨h.1,k⟩
 | nilFunc=>intro _;exact .nilFunc
 | @func f E a F b H w o _ z _ e A=>
   intro k;cases k with
   |func B C D=>
    refine .func ?_ (fun x d=>?_) fun x d=>?_
    ·cases w with
     |yield h=>exact⟨h.1,B⟩
     |_=>trivial
    ·obtain⟨i,y,g,j⟩:=dN (ρ:=ρ) o d
     exact e i x y g j (C x d)
    ·obtain⟨i,y,g,j⟩:=dN (ρ:=ρ) z d
     exact A i x y g j (D x d)
 | nilIface=>intro _;exact .nilIface
 | iface _ e=>intro k;cases k with|iface k=>exact .iface (e k)
 | agg o _ e=>
   intro k;cases k with
   |agg k=>
    refine .agg fun x d=>?_
    obtain⟨i,y,g,j⟩:=dN (ρ:=ρ) o d
    exact e i x y g j (k x d)
 | tuple o _ e=>
   intro k;cases k with
   |tuple k=>
    refine .tuple fun x d=>?_
    obtain⟨i,y,g,j⟩:=dN (ρ:=ρ) o d
    exact e i x y g j (k x d)
structure Env.Ag(ρ τ:Env)(b:Nat):Prop where
 born:τ.born b
 to:τ.to b=ρ.to b
 bD:ρ.bD b->τ.bD b
 u:τ.u b=ρ.u b
 ext:τ.ext b=ρ.ext b
theorem VR.carry{o q:Env}{p:Nat->Prop}{v H:Value}(k:VR o v H)(w:∀b,p b->o.born b->o.Ag q b):l7 p v->VR q v H:=by
 have A:∀a:Addr,o.Ag q a.block->q.addr a=o.addr a:=fun a h=>by unfold Env.addr;rw[h.to]
 have j:∀r D,p r->o.ob r D->q.ob r D:=fun r D h k=>⟨(w r h k.1).born,(w r h k.1).to.trans k.2⟩
 induction k with
 | bool b=>intro _;exact .bool b
 | int k n=>intro _;exact .int k n
 | string s=>intro _;exact .string s
 | fO=>intro _;exact .fO
 | ptr h=>intro k;cases k with|ptr k=>rw[←A _ (w _ k h)];exact .ptr (w _ k h).born
 | nilslice n c=>intro _;exact .nilslice n c
 | slice h L=>
   intro k;cases k with
   |slice k=>
    have e:=w _ k h
    rw[←A _ e];refine .slice e.born (L.imp id fun⟨x,y,z⟩=>⟨e.bD x,y,?_⟩);rw[e.u,e.ext];exact z
 | dL=>intro _;exact .dL
 | map h=>intro k;cases k with|map k=>exact .map (j _ _ k h)
 | dW=>intro _;exact .dW
 | chan h=>intro k;cases k with|chan k=>exact .chan (j _ _ k h)
 | nilFunc=>intro _;exact .nilFunc
 | @func f U a V b W M C _ N _ l O=>
   intro k;cases k with
   |func P Q R=>
    refine .func ?_ C (fun i x y d m=>l i x y d m (Q x (Array.mem_of_getElem? d))) N fun i x y d m=>O i x y d m (R x (Array.mem_of_getElem? d))
    cases M with
    |yield h=>exact .yield (j _ _ P h)
    |func f=>exact .func f
    |method n=>exact .method n
    |methodOf t n=>exact .methodOf t n
    |via t p f x=>exact .via t p f x
 | nilIface=>intro _;exact .nilIface
 | iface _ l=>intro k;cases k with|iface k=>exact .iface (l k)
 | agg C _ l=>intro k;cases k with|agg k=>exact .agg C fun i x y d m=>l i x y d m (k x (Array.mem_of_getElem? d))
 | tuple C _ l=>intro k;cases k with|tuple k=>exact .tuple C fun i x y d m=>l i x y d m (k x (Array.mem_of_getElem? d))
def Env.cut(a:Env)(n:Nat):Env:={a with born:=fun b=>a.born b/\b<n}
structure AH.Sub(hA h:AH):Prop where
 look:∀b B,hA.look b=some B->∃Lt,h.look b=some Lt/\B.obj=Lt.obj/\B.fM=Lt.fM/\B.u=Lt.u/\B.ro=true
 cells:∀b B,hA.look b=some B->∃c e f,B.obj=.cells c e f/\∀x∈c,l7 (· <hA.n) x
 tr:∀b B,hA.tr.get b=some B->∃Lt,h.tr.get b=some Lt/\B.obj=Lt.obj
 dB:∀f l,hA.dB.get f=some l->∃l',h.dB.get f=some l'/\l.Sublist l'
 mem:∀f l b,hA.dB.get f=some l->b∈l->b<hA.n/\∃B,hA.tr.get b=some B/\B.fM=some f
section
variable{P:Program}{a σ t:Env}{O A D D':Nat->Prop}{h m j:AH}{w o:World}{base:List Frame}{pl:bP}{s q:AS}{K L:AS->Prop}{Q R:Value->AH->Prop}{c:ak}{cs:List ak}{f:FuncId}{args:Array Value}{g:Goroutine}
theorem Env.WM{n b:Nat}(d:b<n)(k:a.born b):a.Ag (a.cut n) b:=⟨⟨k,d⟩,rfl,id,rfl,rfl⟩
theorem Rel.view(r:Rel a O D h w)(k:j.Sub h):Rel (a.cut j.n) (fun _=>False) (fun b=>O b∨D b) j w:=by
 have up:∀b n,j.upTo (a.cut j.n) b n->h.upTo a b n:=by
   rintro b n ⟨V,c,e,f,h1,h2,h3⟩;obtain⟨B,y,W⟩:=k.tr b V h1
   exact⟨B,c,e,f,y,W▸h2,h3⟩
 refine⟨fun b B c e f p u T=>?_,fun b B p u T=>?_,fun b B p u=>?_,fun b b' B V p F u X Y Z=>?_,fun b p=>p.2,fun b p=>r.low b p.1,fun b B p u=>?_,fun f l H=>?_,fun f l H b p=>k.mem f l b H p⟩
 · obtain⟨d,y,W,k7,k8,k9⟩:=k.look b B u
   obtain⟨c',e',f',x,J⟩:=k.cells b B u
   rw[T]at x;cases x;obtain⟨C,E,g,c1,c2,c3,c4,c5⟩:=r.cells b d c e f p.1 y (W▸T);refine⟨C,E,g,c1,c2,c3,fun hn=>c4 fun U=>hn ⟨k7.trans U.1,k9,k8.trans U.2.2⟩,fun i v hv=>?_⟩;obtain⟨v',p1,p2⟩:=c5 i v hv
   exact⟨v',p1,p2.carry (fun b p F=>Env.WM p F) (J v (Array.mem_of_getElem? hv))⟩
 · obtain⟨c',e',f',x,_⟩:=k.cells b B u
   exact absurd x (T _ _ _)
 · obtain⟨d,y,_,_,_,k5⟩:=k.look b B u
   exact⟨fun z=>absurd (k5.symm.trans z) (by decide),.inr (r.own b d p.1 y).2⟩
 · obtain⟨d,y,_,x,J,k5⟩:=k.look b B u
   obtain⟨M,j1,_,j3,j4,j5⟩:=k.look b' V X
   rcases r.sep b b' d M p.1 F.1 y j1 Y Z with⟨f,N,g2⟩|⟨⟨N,_,g3⟩,i1,_,i3⟩
   ·exact .inl ⟨f,x.trans N,j3.trans g2⟩
   ·exact .inr ⟨⟨x.trans N,k5,J.trans g3⟩,j3.trans i1,j5,j4.trans i3⟩
 · obtain⟨d,y,_,x,J,_⟩:=k.look b B u
   obtain⟨s1,s2⟩:=r.bD b d p.1 y;exact⟨s1.trans (by rw[x]),fun z=>(s2 (x▸z)).trans J.symm⟩
 · obtain⟨l',N,g2⟩:=k.dB f l H
   exact((r.row f l' N).sublist g2).imp fun U b1 b2 Z n n' u1 u2=>U b1.1 b2.1 Z n n' (up _ _ u1) (up _ _ u2)
theorem bT.call[aP P](k:bu P Q ⟨ak.enter P f args,[],j⟩)(hs:j.Sub h)(ha:∀x∈args,l7 (· <j.n) x)(hq:∀p:Nat->Prop,(∀x∈args,l7 p x)->∀v m,Q v m->l7 p v)(U:∀v m,Q v m->∃N,aF P c h v=some N):
   bT P (fun q=>∃v m N,Q v m/\aF P c h v=some N/\q=⟨N,cs,h⟩) ⟨ak.enter P f args,c::cs,h⟩:=by
 refine⟨?_⟩;intro a O D base g w hO hD S;obtain⟨⟨lo,H,a7,V,rfl,hf,a3⟩,X⟩:=S
 cases a3 with
 | @cons a4 _ _ fc _ J Y a5 Z=>
   have z:F0 a (ak.enter P f args) H:=by
    cases hf with
    |plain hf=>exact hf
    |ahead kk _=>
     obtain⟨k1,k2,t1,_⟩:=kk.todo
     cases t1
   have eT:(ak.enter P f args).tmps=args++Array.replicate (((P.funcs[f]?).map (·.ntmps)).getD 0-args.size) undef:=rfl
   have S0:lU P (a.cut j.n) (fun _=>False) (fun b=>O b∨D b) (fc::(J++base)) ⟨ak.enter P f args,[],j⟩ (dV H ([]++fc::(J++base))) w:=by
    refine⟨⟨0,H,[],Nat.zero_le _,rfl,.plain ?_,.nil⟩,X.view hs⟩;refine⟨⟨z.fn,?_,z.mode,z.kind,?_⟩,?_,?_⟩
    ·have:=z.defers
     generalize H.defers=d at this
     cases this;exact .nil
    ·have:=z.round
     generalize H.roundOf=r at this
     cases this;exact .none
    ·refine⟨z.tmps.1,fun i x y B hy=>?_⟩;have a0:=z.tmps.2 i x y B hy;rw[eT]at B;by_cases T:i<args.size
     ·rw[Array.getElem?_append_left T]at B;exact a0.carry (fun b l a1=>Env.WM l a1) (ha x (Array.mem_of_getElem? B))
     ·rw[Array.getElem?_append_right (by omega),Array.getElem?_replicate]at B;split at B
      ·cases B;exact a0.carry (p:=fun _=>False) (fun b l _=>l.elim) (.tuple fun x B=>by simp[undef]at B)
      ·cases B
    ·have:=z.todo
     generalize H.todo=d at this
     cases this with
     |cons T hl=>cases hl;cases T;exact .cons (.code _) .nil
   have M:∀x∈args,l7 (fun b=>a.born b/\b<j.n) x:=fun x B=>by
    obtain⟨i,T,rfl⟩:=Array.mem_iff_getElem.1 B;have h1:(ak.enter P f args).tmps[i]?=some args[i]:=by rw[eT,Array.getElem?_append_left T];simp[T]
    have h2:i<H.tmps.size:=by rw[←z.tmps.1];exact(Array.getElem?_eq_some_iff.1 h1).1
    exact(z.tmps.2 i _ _ h1 (Array.getElem?_eq_getElem h2)).ok (ha _ B)
   have W:=((k.go (fun b l=>l.elim) (fun b l=>l.elim (hO b) (hD b)) S0).frame (F:=O) (fun b l=>⟨hO b l,id⟩) (fun b l=>⟨l.elim (hO b) (hD b),id⟩)).Pj (D:=D) fun b l=>l.imp .inr id;have e1:(fun b=>False∨O b)=O:=by funext b;simp
   rw[e1]at W;refine W.mono fun A g' o hz=>?_
   obtain⟨a6,⟨t,v,C,v',q1,q2,q3,q4,q5⟩,rfl,e⟩:=hz
   obtain⟨N,a2⟩:=U v C q1
   have hv:VR a v v':=q3.carry (fun b l a1=>⟨l.1,(q2.to b l).symm,(q2.bD b l).1,(q2.u b l).symm,(q2.ext b l).symm⟩) (hq _ M v C q1)
   have E:az O D w o:=⟨e.size,e.own,fun b l=>e.ro b (.inr l),e.os,e.output,e.tape⟩
   exact⟨a,_,⟨v,C,N,q1,a2,rfl⟩,.refl a,⟨a4,_,J,Nat.le_trans Y V,q4,kL a5 V hv a2,Z⟩,(X.rely E).mono fun b l=>.inr l⟩
end
end Go.Am
namespace Go.Am
open Go.Conc (born QuitsD G scase rcase Good)
open Go.Conc.Lib
open Go.ConcR (WgAt)
open Go.Ren (grow gp aQ az Wk X0 At aG Keep full Tm)
structure Sr(P:Program)(base:List Frame)(F:Nat->Prop)(w₀:World)(W U Z:Nat->Prop)(N:Nat)(ρ:Env)(s:AS)(g:Goroutine)(w:World)(m:Machine)(t:Trace):Prop where
 at_:At P W U (fun b=>Z b/\¬F b) N 0 g w m t
 JS:lU P ρ (full Z w) F base s g w
 lt:∀b,Z b->b<w.heap.size
 wu:∀b,W b∨U b->Z b
 fz:∀b,F b->Z b
 NT:∀b,F b->¬(W b∨U b)
 keep:Keep F w₀ w
section
variable{P:Program}{ρ o τ:Env}{O O' D D' F W U Z:Nat->Prop}{N:Nat}{h h' d:AH}{w j a:World}{base:List Frame}{pl:bP}{s p:AS}{K L:AS->Prop}{Q R:Value->AH->Prop}{c:ak}{cs:List ak}{f:FuncId}{args:Array Value}{g:Goroutine}{m:Machine}{t:Trace}{q:Machine->Outcome->World->Trace->Prop}
theorem Sr.runs(k:bT P K s)(S:Sr P base F a W U Z N ρ s g w m t):
   aG P q (fun m t=>∃(o:Env) (p:AS) (v:Goroutine) (j:World),K p/\ρ.Le o/\Sr P base F a W U Z N o p v j m t) m t:=by
 have z:∀b,F b->b<w.heap.size/\¬full Z w b:=fun b i=>⟨S.lt b (S.fz b i),fun x=>x.2 (S.fz b i)⟩
 have e:(fun b=>full Z w b∨F b)=full (fun b=>Z b/\¬F b) w:=by
   funext b;apply propext;constructor
   ·rintro(i|i)
    ·exact⟨i.1,fun x=>i.2 x.1⟩
    ·exact⟨(z b i).1,fun x=>x.2 i⟩
   ·rintro⟨A,B⟩;by_cases i:F b
    ·exact .inr i
    ·exact .inl ⟨A,fun x=>B ⟨x,i⟩⟩
 have l:∀b,(Z b/\¬F b)->b<w.heap.size:=fun b i=>S.lt b i.1;refine(Go.Ren.At.wk2 ((k.go (fun b i=>i.1) (fun b i=>(z b i).1) S.JS).read z) l e S.at_).mono ?_;rintro m t ⟨v,j,C,⟨n,⟨o,p,A,B,J⟩,M,T,r⟩,Y⟩;have u:∀b,Z b->b<j.heap.size:=fun b i=>Nat.lt_of_lt_of_le (S.lt b i) r.size
 have V:n=full Z j:=by
   funext b;apply propext;have i:=congrFun M b
   constructor
   ·intro E;have:full (fun b=>Z b/\¬F b) j b:=by rw[i];exact .inl E
    exact⟨this.1,fun x=>this.2 ⟨x,fun y=>T b y E⟩⟩
   ·rintro⟨X,H⟩;have:full (fun b=>Z b/\¬F b) j b:=⟨X,fun y=>H y.1⟩
    rw[i]at this;exact this.resolve_right fun y=>H (S.fz b y)
 subst V;exact⟨o,p,v,j,A,B,C,J,u,S.wu,S.fz,S.NT,S.keep.trans ⟨r.own,r.size,r.os,r.output⟩⟩
theorem Sr.sd(S:Sr P base F a W U Z N ρ s g w m t)(hd:aK s.fr=true):Sd P base F a W U Z N ρ ⟨s.fr,s.cs,⟨s.h.n,.nil,.nil⟩⟩ g w m t:=by
 have u:=S.JS.forget [] hd
 have e:s.h.forget []=⟨s.h.n,.nil,.nil⟩:=rfl
 rw[e]at u;have k:∀b B,(⟨s.h.n,.nil,.nil⟩:AH).look b=some B->False:=fun b B h=>by cases h
 refine⟨⟨S.at_.drop fun b x=>x.1,⟨u.run,?_⟩,S.lt⟩,S.wu,S.fz,S.NT,S.keep⟩;have r:=u.rel
 exact⟨fun b B _ _ _ _ i=>(k b B i).elim,fun b B _ i=>(k b B i).elim,fun b B _ i=>(k b B i).elim,fun b _ B _ _ _ i=>(k b B i).elim,r.fresh,r.low,fun b B _ i=>(k b B i).elim,fun f l v=>(by cases v),fun f l v=>(by cases v)⟩
def aaF(to:Nat->Nat×Nat)(d:AH):Env:={to:=to,born:=fun b=>b<d.n,bD:=fun _=>False,u:=fun _=>0,ext:=fun b=>match d.look b with|some B=>rF B.obj|none=>0}
theorem WN{W:World}{to:Nat->Nat×Nat}(H:∀b B,d.look b=some B->B.UB/\∃c e f C E,B.obj=.cells c e f/\(∃g,W.heap[(to b).1]?=some (.cells C E g))/\(to b).2+c.size<=C.size/\∀(i:Nat) v,c[i]?=some v->C[(to b).2+i]?=some v/\Plain v)
   (T:d.dB=.nil) (x:∀b,b<d.n->(to b).1<W.heap.size):Rel (aaF to d) (fun _=>False) (fun b=>b<W.heap.size) d W:=by
 refine⟨fun b B c e f r u J=>?_,fun b B r u J=>?_,fun b B r u=>?_,fun b V B X r Y u M a0 hs=>?_,fun b r=>r,fun b r=>x b r,fun b B r u=>?_,fun f l k=>?_,fun f l k b r=>?_⟩
 · obtain⟨hp,c',e',f',C,E,A,⟨g,h2⟩,h3,h4⟩:=H b B u
   rw[J]at A;cases A;have y:(aaF to d).ext b=c.size:=by
    show(match d.look b with|some B=>rF B.obj|none=>0)=c.size
    rw[u];show rF B.obj=c.size
    rw[J];rfl
   refine⟨C,E,g,h2,by rw[y];exact h3,Nat.le_of_eq y.symm,fun hn=>absurd hp hn,fun i v hv=>?_⟩;obtain⟨k1,k2⟩:=h4 i v hv
   exact⟨v,k1,k2.vr _⟩
 · obtain⟨_,c',e',f',C,E,A,_⟩:=H b B u
   exact absurd A (J _ _ _)
 · exact⟨fun z=>absurd ((H b B u).1.2.1.symm.trans z) (by decide),.inr (x b r)⟩
 · exact .inr ⟨(H b B u).1,(H V X M).1⟩
 · obtain⟨⟨A,_⟩,_⟩:=H b B u
   exact⟨⟨fun z=>z.elim,fun z=>z A⟩,fun z=>absurd A z⟩
 · rw[T]at k;cases k
 · rw[T]at k;cases k
theorem Sr.start{W:World}{f:FuncId}{e:Array Value}(k:Rel ρ (fun _=>False) (fun b=>b<W.heap.size) d W)(l:AR (VR ρ) args e):
   Sr P [] (fun b=>b<W.heap.size) W (fun _=>False) (fun _=>False) (fun b=>b<W.heap.size) 1 ρ ⟨ak.enter P f args,[],d⟩ (dV (Frame.enter P f e .normal) []) W (Go.Conc.solo (G (Frame.enter P f e .normal) []) W) #[]:=
 ⟨(Go.Ren.WO _ W).drop fun b i=>i.elim,⟨⟨0,_,[],Nat.zero_le _,rfl,.plain (Aa f l),.nil⟩,k.mono fun b i=>i.elim⟩,fun b i=>i,fun b i=>(i.elim id id:False).elim,fun b i=>i,fun b _ i=>(i.elim id id:False),.refl⟩
end
end Go.Am
namespace Go.Am
section
variable{P:Program}{pl:bP}{s s' s₁ s₂:AS}{K:AS->Prop}{ob:List (Value×Value)}{v:Value}{h:AH}{n:Nat}{Q:Value->AH->Prop}
theorem bT.forget(l:List Nat)(hd:aK s.fr=true):bT P (· =⟨s.fr,s.cs,s.h.forget l⟩) s:=⟨fun a b S=>.stop ⟨_,_,rfl,.refl _,S.forget l hd⟩⟩
end
theorem gu{x:Int}(a:-9223372036854775808<=x)(b:x<=9223372036854775807):IntKind.i64.wrap x=x:=by
 simp[IntKind.wrap,IntKind.min,IntKind.max,IntKind.signed,IntKind.bits]<;>(try split)<;>omega
theorem ahL{x:Int}(a:0<=x)(b:x<=18446744073709551615):IntKind.u64.wrap x=x:=by
 simp[IntKind.wrap,IntKind.min,IntKind.max,IntKind.signed,IntKind.bits]<;>(try split)<;>omega
theorem bt{p:Prop}[Decidable p](h:p):Value.bool (decide p)=.bool true:=by rw[decide_eq_true h]
theorem bf{p:Prop}[Decidable p](h:¬p):Value.bool (decide p)=.bool false:=by rw[decide_eq_false h]
theorem ie{k:IntKind}{a b:Int}(h:a=b):Value.int k a=.int k b:=by rw[h]
theorem Gw:∀p∈([]:List (Value×Value)),p.1=p.2:=fun p a=>absurd a (List.not_mem_nil)
end Go.Am
