import Derived.Test.YtjgfemidkffdjaaGreatH3
import Derived.Test.YtjgfemidkffdjaaGreatH4
set_option linter.all false
namespace Go.Am
open Go.Ren (grow gU aT aB)
def isInt:TypeDesc->Bool
 | .int _=>true
 | _=>false
def yt(b:Nat):List Nat->List Nat
 | []=>[]
 | x::l=>if x=b then [x]else x::yt b l
def aei(P:Program)(h:AH)(b:TypeId)(i:TypeInfo)(base:Option Addr)(n c m:Nat)(new:Array Value):Option (Value×AH):=
 match i.zero,(Builtin.firstCells i.size n (.slice base n c)).fJ P h with
 | some z,some d=>
   if d.size=n*i.size/\new.size=m*i.size/\z.cells.size=i.size/\i.bytes≠0/\(n+m)*4*i.bytes<=2^48/\new.toList.all flat=true then
    match base with
    |none=>some (.slice (some ⟨h.n,0,none⟩) (n+m) (n+m),h.join h.n [] (.cells (d++new) b (0,0)) i.size)
    |some a=>match a.spot,h.look a.block with
     |none,some B=>match B.obj with
      | .cells e _ _=>match B.gB with
       |none=>some (.slice (some ⟨h.n,0,none⟩) (n+m) (n+m),h.join h.n [] (.cells (d++new) b (0,0)) i.size)
       |some f=>if B.ro=false/\B.u=i.size then
         some (.slice (some ⟨h.n,0,none⟩) (n+m) (n+m),h.join f (if a.off+n*i.size=e.size then yt a.block ((h.dn.get f).getD [])else []) (.cells (d++new) b (0,0)) i.size)else none
      |_=>none
     |_,_=>none
   else none
 | _,_=>none
def agr(P:Program)(h:AH)(u:TypeDesc)(i:TypeInfo)(x:Value):Option Nat:=
 if isInt u=true then match x with
   | .int _ v=>if 0<=IntKind.i64.wrap v/\IntKind.i64.wrap v*i.bytes<=2^48 then some (IntKind.i64.wrap v).toNat else none
   |_=>none
 else(Builtin.lenOf x).fJ P h
def anew(P:Program)(h:AH)(u:TypeDesc)(i:TypeInfo)(m:Nat)(x:Value):Option (Array Value):=
 if isInt u=true then match i.zero with
   |some z=>if z.cells.size=i.size then some (Builtin.zeroCells z.cells m)else none
   |none=>none
 else(Builtin.firstCells i.size m x).fJ P h
def ags(P:Program)(h:AH)(argTypes:Array TypeId)(s x:Value):Option (Value×AH):=
 match argTypes[0]?,argTypes[1]? with
 | some d,some e=>match P.underlying d,P.underlying e,s with
   |some (.slice b),some u,.slice base n c=>
    match P.info? b with
    |none=>none
    |some i=>match agr P h u i x with
     |none=>none
     |some m=>match anew P h u i m x with
      |none=>none
      |some new=>
       if n+m<=c then match base with
        |none=>some (.slice none (n+m) c,h)
        |some a=>match(storeCells (a.add (n*i.size)) new.toList).ar P none h with
         |some (_,f)=>some (.slice (some a) (n+m) c,f)
         |none=>none
       else aei P h b i base n c m new
   |_,_,_=>none
 | _,_=>none
section
variable{P:Program}{ρ A:Env}{O O' D:Nat->Prop}{h p h₁:AH}{w w' w₁:World}{X:Event->Prop}{t d F δ:Type}
theorem Out.pu{R:Env->t->d->Prop}{a:t}{x:Sem F}{y:F}{f:F->Sem d}(b:Pu P x y)(k:Out P X D R ρ O h w (f y) a p):Out P X D R ρ O h w (x>>=f) a p:=Out.same (fun w c=>b.run f w c) k
theorem Out.choose{R:Env->t->d->Prop}{a:t}{q:Question}{f:Nat->Sem d}(e:q.forced=false)(k:Out P X D R ρ O h {w with drawn:=w.drawn+1} (f (q.cut (w.tape w.drawn q))) a p):Out P X D R ρ O h w (Go.choose q>>=f) a p:=by
 refine Out.here (h₁:=h) (w₁:={w with drawn:=w.drawn+1}) (es₁:=#[]) (fun b=>?_) (vP (w.drawn+1)) rfl rfl k;show((Go.choose q).bind f).runT P w b=_
 simp only[Go.choose,Sem.bind,Sem.runT,e,Array.append_empty]
 rfl
theorem Out.room{R:Env->t->d->Prop}{a:t}{n:Nat}{f:Unit->Sem d}(k:Out P X D R ρ O h w (f ()) a p):Out P X D R ρ O h w (askRoom n>>=f) a p:=by
 unfold askRoom;split
 · refine Out.here (h₁:=h) (w₁:=w) (s₁:=f ()) (es₁:=#[⟨.mark .noRoom,false,true⟩]) (fun b=>?_) ⟨Nat.le_refl _,fun _ _ _=>rfl,rfl,rfl,rfl,fun e i=>?_⟩ rfl rfl k
   ·show((Go.mark .noRoom).bind f).runT P w b=_
    rw[jX];simp only[Go.mark,Sem.bind,Sem.runT]
   ·simp only[List.mem_toArray,List.mem_singleton]at i;subst i;exact .inr rfl
 · exact Out.pu (.aU ()) k
theorem zV(b:Nat):∀l:List Nat,(yt b l).Sublist l
 | []=>.slnil
 | x::l=>by
   unfold yt;split
   ·exact List.Sublist.cons_cons _ (List.nil_sublist l)
   ·exact List.Sublist.cons_cons _ (zV b l)
theorem MJ{R:Nat->Nat->Prop}{b:Nat}:∀{l:List Nat},l.Pairwise R->b∈l->∀x∈yt b l,x=b∨R x b
 | [],_,f,_,_=>by cases f
 | y::l,g,f,x,a=>by
   unfold yt at a;split at a
   ·rename_i e;simp only[List.mem_singleton]at a;exact .inl (a.trans e)
   ·rename_i e;have c:b∈l:=(List.mem_cons.1 f).resolve_left fun z=>e z.symm
    rcases List.mem_cons.1 a with rfl|a
    ·exact .inr (List.rel_of_pairwise_cons g c)
    ·exact MJ g.of_cons c x a
theorem Ia{n:Nat}:∀(r c:Nat),c<=2*n+192->Builtin.growBy n r c<=2*n+192
 | 0,c,h=>h
 | r+1,c,h=>by
   unfold Builtin.growBy;split
   ·exact h
   ·exact Ia r _ (by omega)
theorem nextslicecap_le{n c:Nat}(h:c<n):Builtin.nextslicecap n c<=4*n:=by
 unfold Builtin.nextslicecap;split
 · omega
 · split
   ·omega
   ·have:=Ia (n:=n) 4 c (by omega)
    omega
theorem agt{x a:Value}{m:Nat}(b:VR ρ x a)(e:(Builtin.lenOf x).fJ P h=some m):Pu P (Builtin.lenOf a) m:=by
 cases b<;>first
   |(simp only[Builtin.lenOf,stuck,Sem.fJ]at e;cases e;done)
   |(have c:some _=some m:=e;cases c;exact .aU _)
theorem uB(z:Array Value)(n:Nat):(Builtin.zeroCells z n).size=n*z.size:=by simp[Builtin.zeroCells]
theorem AR.alc{R:t->d->Prop}{a:Array t}{b:Array d}(h:AR R a b):LR R a.toList b.toList:=by
 obtain⟨a⟩:=a
 obtain⟨b⟩:=b
 obtain⟨c,e⟩:=h
 simp only at c⊢;simp only[List.size_toArray,List.getElem?_toArray]at c e;induction a generalizing b with
 | nil=>cases b with|nil=>exact .nil|cons y b=>simp at c
 | cons x a f=>
   cases b with
   |nil=>simp at c
   |cons y b=>exact .cons (e 0 x y (by simp) (by simp)) (f b (by simpa using c) fun i u v g j=>e (i+1) u v (by simpa using g) (by simpa using j))
theorem elsewhere{f:Nat}{l:List Nat}{r new b j zs:Array Value}{o:TypeId}{n m q u:Nat}(E:Rel ρ O D h w)(H:l.Sublist ((h.dn.get f).getD []))(J:AR (VR ρ) r b)(L:AR (VR ρ) new j)(W:r.size=n*u)(Y:new.size=m*u)
   (hz:zs.size=(q-(n+m))*u) (z:n+m<=q):
   Out P X D VR ρ O h w (newRow o (b++j++zs)>>=fun a=>Pure.pure (Value.slice (some a) (n+m) q)) (.slice (some ⟨h.n,0,none⟩) (n+m) (n+m)) (h.join f l (.cells (r++new) o (0,0)) u):=by
 have Q:¬ρ.born h.n:=fun s=>Nat.lt_irrefl _ (E.fresh _ s)
 have R:(b++j++zs).size=q*u:=by
   simp only[Array.size_append,hz,←J.1,←L.1,W,Y]
   rw[←Nat.add_mul,←Nat.add_mul];congr 1;omega
 have C:AR (VR ρ) (r++new) (b++j):=J.append L
 have low:∀x,ρ.born x->(ρ.to x).1≠w.heap.size:=fun x s e=>by have:=E.low x s;omega
 have hr:=E.join (w':={w with heap:=w.heap.push (.cells (b++j++zs) o (0,0))}) (O':=grow O w {w with heap:=w.heap.push (.cells (b++j++zs) o (0,0))}) (f:=f) (l:=l) (cs:=r++new) (e:=o) (u:=u) (T:=w.heap.size) (off:=0) (ext:=q*u) H (fun _=>.inl) (.inr ⟨Nat.le_refl _,by simp⟩) (by simp)
   (fun c hc N=>by dsimp only;rw[Array.getElem?_push,if_neg (by omega)]) ⟨_,o,by dsimp only;rw[Array.getElem?_push,if_pos rfl],by rw[R];omega,by
    rw[Array.size_append,W,Y,←Nat.add_mul];exact Nat.mul_le_mul_right _ z,fun i v Z=>by
    have N:=(Array.getElem?_eq_some_iff.1 Z).1;have:=C.get i
    rw[Z]at this;rw[Nat.zero_add,Array.getElem?_append_left (by rw[←C.1];exact N)];generalize (b++j)[i]?=y at this
    cases this with
    |some k=>exact⟨_,rfl,k⟩⟩ (fun x B s _ e=>absurd e (low x s)) (fun x _ s e=>absurd e (low x s)) (fun x B c e' g s _ _ e=>absurd e (low x s))
 refine⟨_,.slice (some ⟨w.heap.size,0,none⟩) (n+m) q,_,#[],fun U=>?_,Env.jA Q,?_,hr,pX _,Nat.le_succ _,fun x=>?_⟩
 · simp[newRow,newObj,-Sem.runT_eq,Sem.runT,bind,pure,Sem.bind]
 · have:(⟨w.heap.size,0,none⟩:Addr)=(ρ.add h.n (w.heap.size,0) True u (q*u)).addr ⟨h.n,0,none⟩:=by simp only[Env.addr,dA]
   rw[this];refine .slice (.inl rfl) (.inr ⟨nM.2 trivial,z,?_⟩);show 0+q*_<=_;rw[Ko,uD];omega
 · show(x=h.n∨ρ.born x)↔_;constructor
   ·rintro(rfl|V)
    ·exact .inr ⟨Nat.le_refl _,Nat.lt_succ_self _⟩
    ·exact .inl V
   ·rintro(V|⟨h1,h2⟩)
    ·exact .inr V
    ·have:x<h.n+1:=h2
     exact .inl (by omega)
theorem yu{a:Addr}:∀(n i:Nat) (b r:Array Value),(loadCellsFrom a i n b).fJ P h=some r->r.size=b.size+n/\(∀j,j<b.size->r[j]?=b[j]?)/\∀j,j<n->h.cell (a.add (i+j))=r[b.size+j]?
 | 0,i,b,r,e=>by
   have c:some b=some r:=e
   cases c;exact⟨by simp,fun j f=>rfl,fun j f=>by omega⟩
 | n+1,i,b,r,e=>by
   have c:(Sem.load .plain (a.add i) fun v=>loadCellsFrom a (i+1) n (b.push v)).fJ P h=some r:=e
   rw[Sem.fJ.eq_def]at c;dsimp only at c;split at c
   ·rename_i v m _;obtain⟨o,g,k⟩:=yu n (i+1) (b.push v) r c
    rw[Array.size_push]at o g k;refine⟨by omega,fun j f=>?_,fun j f=>?_⟩
    ·rw[g j (by omega),Array.getElem?_push,if_neg (by omega)]
    ·cases j with
     |zero=>rw[Nat.add_zero,Nat.add_zero,m,g b.size (by omega),Array.getElem?_push,if_pos rfl]
     |succ j=>
      have:=k j (by omega)
      rw[show i+(j+1)=i+1+j by omega,this];congr 1;omega
   ·cases c
theorem aaX{f n m c c':Nat}{a:Addr}{B:cZ}{cs N new i:Array Value}{ce a0:TypeId}{cg:Nat×Nat}{u:Nat}{b':Addr}(q:Rel ρ O D h w)(Q:ρ.born a.block)(a3:b'=ρ.addr a)(b6:a.off+c'*u<=ρ.ext a.block)(s:a.spot=none)(b:h.look a.block=some B)(R:B.obj=.cells cs ce cg)(hf:B.gB=some f)(a4:B.ro=false)(a5:n+m<=c')(Y:AR (VR ρ) new i)(k1:N.size=n*u)(k2:new.size=m*u)(a1:∀v∈new.toList,flat v=true)
   (a6:(Builtin.firstCells u n (.slice (some a) n c)).fJ P h=some N):
   Out P X D VR ρ O h w (storeCells (b'.add (n*u)) i.toList>>=fun _=>Pure.pure (Value.slice (some b') (n+m) c')) (.slice (some ⟨h.n,0,none⟩) (n+m) (n+m)) (h.join f (if a.off+n*u=cs.size then yt a.block ((h.dn.get f).getD [])else []) (.cells (N++new) a0 (0,0)) u):=by
 obtain⟨C,E,g,c1,c2,c3,c4,c5⟩:=q.cells a.block B cs ce cg Q b R
 have hg:g=(0,0):=c4 (Bq a4)
 subst hg;have hO:O (ρ.to a.block).1:=(q.own a.block B Q b).1 a4;have b1:¬ρ.born h.n:=fun hb=>Nat.lt_irrefl _ (q.fresh _ hb)
 have a7:b'.add (n*u)=⟨(ρ.to a.block).1,(ρ.to a.block).2+a.off+n*u,none⟩:=by
   rw[a3];unfold Addr.add Env.addr;split
   ·rename_i h0;rw[h0,s];rfl
   ·rfl
 have b7:n*u+m*u<=c'*u:=by rw[←Nat.add_mul];exact Nat.mul_le_mul_right _ a5
 have b8:i.toList.length=m*u:=by rw[←k2,Y.1];simp
 have Z:∀v∈i.toList,flat v=true:=by
   intro v L;rw[Array.mem_toList_iff]at L;obtain⟨k,hk,rfl⟩:=Array.mem_iff_getElem.1 L;have b2:k<new.size:=by rw[Y.1];exact hk
   exact agq (Y.2 k new[k] i[k] (by simp[b2]) (by simp[hk])) (a1 _ (by simp))
 obtain⟨w',es,C',s1,s2,s3,s4,s5,s6,s7,s8,s9,b3⟩:=uA (P:=P) (T:=(ρ.to a.block).1) (off:=(ρ.to a.block).2+a.off+n*u) i.toList 0 c1 (by omega) Z
 obtain⟨o1,_,o3⟩:=yu (n*u) 0 #[] N a6
 have H:a.block∈(h.dn.get f).getD []:=rZ b hf
 have U:∀x∈(if a.off+n*u=cs.size then yt a.block ((h.dn.get f).getD [])else []),ρ.born x->(ρ.to x).1=(ρ.to a.block).1->∀k,h.upTo ρ x k->k<=(ρ.to a.block).2+a.off+n*u:=by
   intro x M r hT k hk;split at M
   ·rename_i c8;cases hg:h.dn.get f with
    |none=>rw[hg]at H;simp at H
    |some l'=>
     rw[hg]at M H;rcases MJ (q.row f l' hg) H x M with rfl|hR
     ·obtain⟨B',d1,d2,d3,d4,d5,d6⟩:=hk
      rw[gy b]at d4;cases d4;rw[R]at d5;cases d5;omega
     ·have:=hR r Q hT k _ hk ⟨B,cs,ce,cg,gy b,R,rfl⟩
      omega
   ·cases M
 have J:∀j,j<(ρ.to a.block).2+a.off+n*u->C'[j]?=C[j]?:=fun j hj=>by rw[s4,if_neg (by omega)]
 have hr:=q.join (w':=w') (O':=grow O w w') (f:=f) (l:=if a.off+n*u=cs.size then yt a.block ((h.dn.get f).getD [])else []) (cs:=N++new) (e:=a0) (u:=u) (T:=(ρ.to a.block).1) (off:=(ρ.to a.block).2+a.off) (ext:=ρ.ext a.block-a.off)
   (by split;exact zV _ _;exact List.nil_sublist _) (fun _=>.inl) (.inl hO) (Nat.le_of_eq s6.symm) (fun c hc _=>s5 c hc)
   ⟨C',E,s2,by omega,by rw[Array.size_append,k1,k2];omega,fun j v L=>by
    rw[Array.getElem?_append]at L;split at L
    ·rename_i hj;rw[k1]at hj;have V:=o3 j hj
     have a8:(#[]:Array Value).size+j=j:=by simp
     rw[a8,L,Nat.zero_add]at V;obtain⟨v',l1,l2,_⟩:=q.load (a:=a.add j) (by rw[block_add];exact Q) V
     refine⟨v',?_,l2⟩;have a9:ρ.addr (a.add j)=⟨(ρ.to a.block).1,(ρ.to a.block).2+a.off+j,none⟩:=by
      unfold Addr.add Env.addr;split
      ·rename_i h0;rw[h0,s];rfl
      ·simp only[Nat.add_assoc]
     rw[a9]at l1;unfold World.cell? at l1;dsimp only at l1;rw[c1]at l1;rw[J _ (by omega)];simpa using l1
    ·rename_i hj;rw[k1]at hj L;have b5:=(Array.getElem?_eq_some_iff.1 L).1;have:=Y.get (j-n*u)
     rw[L]at this;rw[s4,if_pos (by omega)];have b0:(ρ.to a.block).2+a.off+j-((ρ.to a.block).2+a.off+n*u+0)=j-n*u:=by omega
     rw[b0,Array.getElem?_toList];generalize i[j-n*u]?=y at this
     cases this with
     |some k=>exact⟨_,rfl,k⟩⟩
   (fun x B' r z hT=>by
    refine⟨?_,?_⟩
    ·by_cases ex:x=a.block
     ·subst ex;rw[b]at z;cases z;exact hf
     ·rcases q.sep x a.block B' B r Q z b ex hT with⟨f',g1,g2⟩|⟨_,g2,_⟩
      ·rw[hf]at g2;cases g2;exact g1
      ·rw[hf]at g2;cases g2
    ·by_cases hc:∃c e' g,B'.obj=.cells c e' g
     ·exact hc
     ·obtain⟨_,o',p1,p2⟩:=q.obj x B' r z fun c e g hh=>hc ⟨c,e,g,hh⟩
      rw[hT,c1]at p1;cases p1;exact absurd rfl (p2.ji.2 _ _ _))
   (fun x M r hT k hk=>by
    have:=U x M r hT k hk
    rw[Array.size_append,k1];omega)
   (fun x B' c e' g r z M hT W=>by
    obtain⟨b9,c0,c6,p1,p2,p3,p4,p5⟩:=q.cells x B' c e' g r z W
    rw[hT,c1]at p1;cases p1;refine⟨C',E,(0,0),s2,by omega,p3,fun _=>rfl,fun j v L=>?_⟩;have b5:=(Array.getElem?_eq_some_iff.1 L).1;have c7:=U x M r hT _ ⟨B',c,e',g,gy z,W,rfl⟩
    rw[J _ (by omega)];exact p5 j v L)
 refine⟨_,.slice (some b') (n+m) c',w',es,fun a2=>?_,Env.jA b1,?_,hr,⟨Nat.le_of_eq s6.symm,fun c hc hn=>s5 c fun e=>hn (e▸hO),s7,s8,s9,fun e he=>?_⟩,Nat.le_succ _,fun x=>?_⟩
 · show((storeCells (b'.add (n*u)) i.toList).bind _).runT P w a2=_
   rw[Sem.runT_bind',a7,s1];rfl
 · have:b'=(ρ.add h.n ((ρ.to a.block).1,(ρ.to a.block).2+a.off) True u (ρ.ext a.block-a.off)).addr ⟨h.n,0,none⟩:=by rw[a3];simp only[Env.addr,dA,s,Nat.add_zero]
   rw[this];refine .slice (.inl rfl) (.inr ⟨nM.2 trivial,a5,?_⟩);show 0+c'*_<=_;rw[Ko,uD];omega
 · obtain⟨o,ho⟩:=b3 e he
   right;rw[ho];exact .inl (.inl hO)
 · show(x=h.n∨ρ.born x)↔_;constructor
   ·rintro(rfl|M)
    ·exact .inr ⟨Nat.le_refl _,Nat.lt_succ_self _⟩
    ·exact .inl M
   ·rintro(M|⟨h1,h2⟩)
    ·exact .inr M
    ·have:x<h.n+1:=h2
     exact .inl (by omega)
theorem EJ{z:Array Value}{n:Nat}(h:n*z.size=0):Builtin.zeroCells z n=#[]:=by
 apply Array.eq_empty_of_size_eq_zero;rw[uB,h]
theorem Out.alt{R:Env->t->d->Prop}{a:t}{b:TypeId}{i:TypeInfo}{u:TypeDesc}{x g:Value}{m:Nat}{c:Int->Sem d}{f:Int->TypeInfo->Sem d}{K:Nat->Sem d}(o:P.info? b=some i)(l:VR ρ x g)(e:agr P h u i x=some m)
   (k:Out P X D R ρ O h w (K m) a p):Out P X D R ρ O h w (if isInt u=true then asInt g>>=fun v=>if IntKind.i64.wrap v<0 then c v else typeInfo b>>=fun n=>if IntKind.i64.wrap v*(n.bytes:Int)>2^48 then f v n else Pure.pure (IntKind.i64.wrap v).toNat>>=K else Builtin.lenOf g>>=K) a p:=by
 unfold agr at e;split at e
 · rename_i j;rw[if_pos j];cases l<;>dsimp only at e<;>first|(cases e;done)|skip
   split at e
   ·rename_i q;cases e;refine Out.pu (y:=_) (.aU _) ?_;dsimp only
    rw[if_neg (by omega)];refine Out.pu (uY o) ?_;rw[if_neg (by omega)];exact Out.pu (.aU _) k
   ·cases e
 · rename_i j;rw[if_neg j];exact Out.pu (agt l e) k
theorem JU[aO P]{a:TypeId}{i:TypeInfo}{u:TypeDesc}{x f:Value}{m:Nat}{new:Array Value}(b:Rel ρ O D h w)(g:P.info? a=some i)(k:VR ρ x f)(e:anew P h u i m x=some new):
   Out P X D (fun A=>AR (VR A)) ρ O h w (if(!isInt u)=true then Builtin.firstCells i.size m f else if m*i.size=0 then Pure.pure #[]else zeroValue a>>=fun z=>Pure.pure (Builtin.zeroCells z.cells m)) new h:=by
 unfold anew at e;split at e
 · rename_i c;rw[c];split at e
   ·rename_i z j;split at e
    ·rename_i l;cases e;simp only[Bool.not_true,Bool.false_eq_true,if_false]
     split
     ·rename_i h0;rw[EJ (by rw[l];exact h0)];exact Out.MB b ⟨rfl,fun _ _ _ n=>by simp at n⟩
     ·refine Out.pu (JM g j) (Out.MB b (tV (fun o=>aO.zero a i z g j o) _ _))
    ·cases e
   ·cases e
 · rename_i c;rw[show isInt u=false by simpa using c];exact(pV i.size m k).yB b (CP _ e)
theorem Ru[aO P]{argTypes:Array TypeId}{ty:TypeId}{s s' x x' v:Value}(N:Rel ρ O D h w)(hs:VR ρ s s')(hx:VR ρ x x')(e:ags P h argTypes s x=some (v,p)):
   Out P X D VR ρ O h w (Builtin.append_ argTypes ty #[s',x']) v p:=by
 unfold ags at e;split at e;rotate_left
 · cases e
 rename_i st xt h0 h1;split at e;rotate_left
 · cases e
 rename_i r u base n c a6 a7;split at e
 · cases e
 rename_i i Q;split at e
 · cases e
 rename_i m hm;split at e
 · cases e
 rename_i new H;obtain⟨g,E,rfl,hb⟩:∃g E,s'=.slice g n E/\((base=none/\g=none/\E=c)∨∃a,base=some a/\g=some (ρ.addr a)/\ρ.born a.block/\(E=c∨(ρ.bg a.block/\c<=E/\a.off+E*ρ.u a.block<=ρ.ext a.block))):=by
   cases hs with
   |nilslice=>exact⟨none,c,rfl,.inl ⟨rfl,rfl,rfl⟩⟩
   |slice hb hc=>exact⟨_,_,rfl,.inr ⟨_,rfl,rfl,hb,hc⟩⟩
 have b9:c<=E:=by rcases hb with⟨_,_,h⟩|⟨_,_,_,_,h|h⟩<;>omega
 unfold Builtin.append_;simp only[h0,h1,List.getElem?_toArray,List.getElem?_cons_zero,List.getElem?_cons_succ]
 refine Out.pu (EI a6) ?_;dsimp only
 refine Out.pu (Ut Q) ?_;refine Out.pu (EI a7) ?_;refine Out.pu (y:=isInt u) (by cases u<;>exact .aU _) ?_;refine Out.alt Q hx hm ?_;by_cases j:n+m<=c
 · rw[if_pos j]at e;rw[if_pos (by omega)];refine Out.H9 (JU N Q hx H) fun A R w₁ k J b=>?_
   rcases hb with⟨rfl,rfl,rfl⟩|⟨a,rfl,rfl,C,hc⟩
   ·cases e;exact Out.MB b (.nilslice _ _)
   ·dsimp only at e⊢;split at e
    ·rename_i b5 b6 a1;cases e;have a2:A.born (a.add (n*i.size)).block:=by rw[block_add];exact k.born _ C
     have a8:(ρ.addr a).add (n*i.size)=A.addr (a.add (n*i.size)):=by rw[←k.addr C,←addr_add]
     rw[a8];refine Out.H9 ((lT 0 a2 J.alc).yB b a1) fun τ _ a3 o _ q=>?_
     refine Out.MB q ?_;exact((VR.slice C hc:VR ρ (.slice (some a) (n+m) c) (.slice (some (ρ.addr a)) (n+m) E)).mono k).mono o
    ·cases e
 rw[if_neg j]at e;unfold aei at e;split at e;rotate_left
 · cases e
 rename_i z a9 hz T;split at e;rotate_left
 · cases e
 rename_i hk;obtain⟨k1,k2,k3,k4,k5,k6⟩:=hk
 have Y:∀v∈new.toList,flat v=true:=List.all_eq_true.1 k6;by_cases L:n+m<=E
 ·
   rw[if_pos L];rcases hb with⟨rfl,rfl,rfl⟩|⟨a,rfl,rfl,C,hc⟩
   ·exact absurd L j
   obtain⟨b0,b7,U⟩:=hc.resolve_left fun z=>j (z▸L)
   dsimp only at e;split at e;rotate_left
   ·cases e
   rename_i B Z M;split at e;rotate_left
   ·cases e
   rename_i cs ce cg a4;obtain⟨b1,b2⟩:=N.bg _ B C M
   have V:=b1.1 b0;split at e
   ·rename_i hf;exact absurd hf V
   rename_i f hf;split at e;rotate_left
   ·cases e
   rename_i a0;obtain⟨a0,hu⟩:=a0
   cases e;rw[b2 V,hu]at U;refine Out.H9 (JU N Q hx H) fun A R w₁ k J b=>?_
   dsimp only
   exact aaX b (k.born _ C) (k.addr C).symm (by rw[k.ext _ C];exact U) Z M a4 hf a0 L J k1 k2 Y T
 ·
   rw[if_neg L];obtain⟨f,l,a5,rfl,rfl⟩:∃f l,l.Sublist ((h.dn.get f).getD [])/\v=.slice (some ⟨h.n,0,none⟩) (n+m) (n+m)/\p=h.join f l (.cells (a9++new) r (0,0)) i.size:=by
    split at e
    ·cases e;exact⟨h.n,[],List.nil_sublist _,rfl,rfl⟩
    ·split at e
     ·split at e
      ·split at e
       ·cases e;exact⟨h.n,[],List.nil_sublist _,rfl,rfl⟩
       ·split at e
        ·cases e;refine⟨_,_,?_,rfl,rfl⟩;split
         ·exact zV _ _
         ·exact List.nil_sublist _
        ·cases e
      ·cases e
     ·cases e
   have b3:VR ρ (.slice base n c) (.slice g n E):=hs
   refine Out.pu (uY Q) ?_;rw[if_neg (fun hh=>by
    have h2:(n+m)*4*1<=(n+m)*4*i.bytes:=Nat.mul_le_mul_left _ (by omega)
    have:=hh.1;have h3:(n+m:Nat)>(9223372036854775807:Int):=this
    omega)]
   refine Out.pu (uY Q) ?_;rw[if_neg (fun hh=>by
    have h1:=nextslicecap_le (n:=n+m) (c:=E) (by omega)
    have h2:=Nat.mul_le_mul_right i.bytes h1
    have h3:(n+m)*4*i.bytes=4*(n+m)*i.bytes:=by rw[Nat.mul_comm (n+m) 4]
    omega)]
   refine Out.choose rfl ?_;have W:n+m<=(Question.appendCap (n+m) E r).cut (w.tape w.drawn (.appendCap (n+m) E r)):=Nat.le_add_right _ _
   generalize (Question.appendCap (n+m) E r).cut (w.tape w.drawn (.appendCap (n+m) E r))=c0 at W
   refine Out.pu (uY Q) ?_;refine Out.room ?_;refine Out.H9 ((pV i.size n b3).yB (N.drawn _) (CP _ T)) fun A b8 w₁ k b4 b=>?_
   refine Out.H9 (JU b Q (hx.mono k) H) fun τ R a3 o J q=>?_
   refine Out.pu (JM Q hz) ?_;exact elsewhere q a5 (b4.mono fun _ _ x=>x.mono o) J k1 k2 (by rw[uB,k3]) W
end
end Go.Am
namespace Go.Am
open Go.Ren (grow gU aT aB)
inductive yD where
 | go (s:AS)
 | ret (v:Value) (h:AH)
def aA(P:Program)(f:aN)(h:AH)(v:Value):Option aN:=
 match f.todo with
 | .region a (i::rest)::k=>some {f with tmps:=dP f.tmps ((a[i]?).bind (·.dst)) v,todo:=.region a rest::k}
 | .inRangeFunc l::k=>some {f with todo:=.endRangeFunc l::k}
 | .beginRound::k=>some {f with todo:=k}
 | .drawn a ((i,c)::rest)::k=>if aK a i=.effect/\recheck P a c (dP f.tmps (bT a i) v) h=true then some {f with tmps:=dP f.tmps (bT a i) v,todo:=.drawn a rest::k}else none
 | _=>none
def vg(P:Program)(b:Bool)(a:List aN)(v:Value)(h:AH):Option yD:=
 if b then none else match a with
 | []=>some (.ret v h)
 | c::a=>(aA P c h v).map fun f=>.go ⟨f,a,h⟩
def bZ(P:Program)(a:aN)(c:List aN):Option (Next×AH)->Option yD
 | some (.value v,h)=>(aA P a h v).map fun f=>.go ⟨f,c,h⟩
 | some (.skip,h)=>(aA P a h undef).map fun f=>.go ⟨f,c,h⟩
 | some (.enter f args,h)=>some (.go ⟨aN.enter P f args,a::c,h⟩)
 | some (.round l f t x b,h)=>some (.go ⟨aN.Ug l f t x b,a::c,h⟩)
 | _=>none
def Uu(P:Program)(h:AH)(a:Array Value)(o:Oper):Option (Next×AH):=
 match o.op with
 | .call c=>match c.args.toList with
   | [p,q]=>if bC o then(ags P h c.argTypes (ay a p) (ay a q)).map fun r=>(.value r.1,r.2)else none
   |_=>none
 | _=>none
def bP(P:Program)(c:Option Nat)(h:AH)(tmps:Array Value)(o:Oper):Option (Next×AH):=
 if bM o then Uu P h tmps o else if bC o&&lX P h (ay tmps) o then(execOp (ay tmps) o).ar P c h else none
def pK(P:Program)(s:AS)(a:Option Code):Option yD:=
 match s.fr.round with
 | none=>match a with
   |none|some .ret=>some (.go {s with fr:={s.fr with ret:=true}})
   |_=>none
 | some l=>match(Instr.endRound l a).ar P none s.h with
   |some (v,h)=>vg P s.fr.dk s.cs v h
   |none=>none
def Ib(s:AS)(todo:List aV):Option yD:=some (.go {s with fr:={s.fr with todo}})
def o7(P:Program)(s:AS):Option yD:=
 match s.fr.defers with
 | {target:=.collected b,..}::a=>match(Instr.takeDeferred b).ar P none s.h with
   |some (calls,h)=>some (.go {s with fr:={s.fr with defers:=calls++a},h})
   |none=>none
 | _::_=>none
 | []=>match P.funcs[s.fr.fn]? with
   |none=>none
   |some c=>match(results c s.fr.tmps).ar P none s.h with
    |some (v,h)=>vg P s.fr.dk s.cs v h
    |none=>none
def IA:Operand->Bool
 | .tmp _=>true
 | .const v=>iQ 9 v
 | _=>false
abbrev bI:=Nat->Array Oper->List (Nat×List Nat)
def aI(P:Program)(pl:bI)(c:Option Nat)(s:AS):Option yD:=
 match s.fr.ret with
 | true=>o7 P s
 | false=>match s.fr.todo with
   | []=>pK P s none
   | .code x::k=>match x with
    | .ret=>pK P s (some .ret)
    | .skip=>Ib s k
    | .label _=>Ib s k
    | .seq a b=>Ib s (.code a::.code b::k)
    | .cond x a b=>if IA x then match ay s.fr.tmps x with
     | .bool t=>Ib s (.code (if t then a else b)::k)
     |_=>none else none
    | .block id b=>Ib s (.code b::.inBlock id::k)
    | .loop b=>Ib s (.code b::.inLoop b::k)
    | .scope b=>Ib s (.code b::.inScope b::k)
    | .exit id=>match qJ id k with
     |some k=>Ib s k
     |none=>pK P s (some (.exit id))
    | .goto l=>match uU l k with
     |some k=>Ib s k
     |none=>pK P s (some (.goto l))
    | .region _ e false=>Ib s (.region e (List.range e.size)::k)
    | .region id e true=>if JK e (pl id e)&&P.follows .mixedOrders then Ib s (.drawn e (pl id e)::k)else none
    | .rangeFunc f params assign r=>if IA f then match ay s.fr.tmps f with
     | .func (.func g) first captured=>match(Instr.enterLoop s.fr.fn s.fr.tmps params assign r s.fr.round).ar P none s.h with
      |some ((l,mark),h)=>bZ P {s.fr with todo:=.inRangeFunc l::k,defers:=mark++s.fr.defers} s.cs ((callFunc g ((first++#[.func (.yield l) #[] #[]])++captured)).ar P none h)
      |none=>none
     |_=>none else none
    |_=>none
   | .inBlock _::k=>Ib s k
   | .inScope _::k=>Ib s k
   | .inLoop b::k=>Ib s (.code b::.inLoop b::k)
   | .beginRound::k=>match s.fr.round with
    |some l=>match(Instr.beginRound l).ar P none s.h with
     |some (_,h)=>some (.go {s with fr:={s.fr with todo:=k},h})
     |none=>none
    |none=>none
   | .endRangeFunc l::k=>match(Instr.endLoop l).ar P none s.h with
    |some (u,h)=>some (.go {s with fr:={s.fr with todo:=(u.map aV.code).toList++k},h})
    |none=>none
   | .region _ []::k=>Ib s k
   | .region e (i::_)::_=>match e[i]? with
    |some o=>if Region.wanted o (yielded e s.fr.tmps)then bZ P s.fr s.cs (bP P c s.h s.fr.tmps o)else(aA P s.fr s.h undef).map fun f=>.go {s with fr:=f}
    |none=>none
   | .drawn _ []::k=>Ib s k
   | .drawn e ((i,again)::l)::k=>match e[i]? with
    |none=>none
    |some o=>match aK e i with
     | .effect=>if Region.wanted o (yielded e s.fr.tmps)then bZ P s.fr s.cs (bP P c s.h s.fr.tmps o)else(aA P s.fr s.h undef).map fun f=>.go {s with fr:=f}
     |_=>match o.dst with
      |none=>none
      |some d=>if d<s.fr.tmps.size then
        if Region.wanted o (yielded e s.fr.tmps)then match o.op with
         | .alloc t=>match zeroOf P t with
          | some z=>if recheck P e again (s.fr.tmps.setIfInBounds d (.pointer (some ⟨s.h.n,0,none⟩))) (s.h.new (.cells z.cells t (0,0)))then
           some (.go {s with fr:={s.fr with tmps:=s.fr.tmps.setIfInBounds d (.pointer (some ⟨s.h.n,0,none⟩)),todo:=.drawn e l::k},h:=s.h.new (.cells z.cells t (0,0))})else none
          | none=>none
         | .buildSlice t n w=>match jH P (ay s.fr.tmps) t n w with
          | some (p,cells)=>if bC o&&recheck P e again (s.fr.tmps.setIfInBounds d (.slice (some ⟨s.h.n,0,none⟩) n n)) (s.h.new (.cells cells p (0,0)))then
           some (.go {s with fr:={s.fr with tmps:=s.fr.tmps.setIfInBounds d (.slice (some ⟨s.h.n,0,none⟩) n n),todo:=.drawn e l::k},h:=s.h.new (.cells cells p (0,0))})else none
          | none=>none
         |_=>match gK P s.h s.fr.tmps o with
          | some v=>some (.go {s with fr:={s.fr with tmps:=s.fr.tmps.setIfInBounds d v,todo:=.drawn e l::k}})
          | none=>none
        else some (.go {s with fr:={s.fr with tmps:=s.fr.tmps.setIfInBounds d undef,todo:=.drawn e l::k}})
       else none
   |_=>none
inductive FT(P:Program)(ρ:Env)(lo:Nat)(h:AH)(a:aN)(f:Frame):Prop
 | plain (k:F0 ρ a f)
 | ahead {ops:Array Oper} {l:List (Nat×List Nat)} {s:List Nat} (k:FD ρ lo h.n ops l s a f) (e:Eqs P h ops l s a.tmps)
inductive Kr(ρ:Env)(lo hi:Nat)(a:aN)(f:Frame):Prop
 | plain (k:F0 ρ a f)
 | ahead {ops:Array Oper} {i:Nat} {c:List Nat} {l:List (Nat×List Nat)} {s:List Nat} (k:FD ρ lo hi ops ((i,c)::l) (i::s) a f) (hk:aK ops i=.effect)
inductive Ic(ρ:Env):Nat->List aN->List Frame->Prop
 | nil {hi:Nat}:Ic ρ hi [] []
 | cons {lo hi:Nat} {a:aN} {f:Frame} {as:List aN} {fs:List Frame} (hlo:lo<=hi) (h:Kr ρ lo hi a f) (k:Ic ρ lo as fs):Ic ρ hi (a::as) (f::fs)
theorem Kr.mono{ρ d:Env}{g e b:Nat}{a:aN}{f:Frame}(k:Kr ρ g e a f)(c:ρ.Le d)(hb:∀x,x<e->d.born x->ρ.born x)(h:e<=b):Kr d g b a f:=by
 cases k with
 | plain k=>exact .plain (k.mono c)
 | ahead k i=>exact .ahead (k.mono c hb h) i
theorem Ic.mono{ρ c:Env}{d a:Nat}{as:List aN}{f:List Frame}(k:Ic ρ d as f)(e:ρ.Le c)(hb:∀x,x<d->c.born x->ρ.born x)(g:d<=a):Ic c a as f:=by
 induction k generalizing a with
 | nil=>exact .nil
 | cons b h _ i=>exact .cons (Nat.le_trans b g) (h.mono e hb g) (i (fun x j=>hb x (Nat.lt_of_lt_of_le j b)) (Nat.le_refl _))
theorem Kr.base{ρ:Env}{b c:Nat}{a:aN}{f:Frame}(k:Kr ρ b c a f):FB ρ a f:=by
 cases k with
 | plain k=>exact k.toFB
 | ahead k _=>exact k.base
def dZ(f:Frame)(cs:List Frame):Goroutine:={frame:=f,callers:=cs,status:=.running,dying:=none}
structure mJ(P:Program)(ρ:Env)(O D:Nat->Prop)(base:List Frame)(s:AS)(g:Goroutine)(w:World):Prop where
 run:∃lo f cs,lo<=s.h.n/\g=dZ f (cs++base)/\FT P ρ lo s.h s.fr f/\Ic ρ lo s.cs cs
 rel:Rel ρ O D s.h w
def Has(base:List Frame)(r:yD):Prop:=(∃v h,r=.ret v h)->base≠[]
def MK(P:Program)(a:Env)(O D:Nat->Prop)(base:List Frame):yD->Goroutine->World->Prop
 | .go s,g,w=>mJ P a O D base s g w
 | .ret v h,g,w=>∃(b:Frame) (c:List Frame) (d:Value),base=b::c/\VR a v d/\g=dZ (b.finish d) c/\Rel a O D h w
def wU(P:Program)(m:Bool)(X:Event->Prop)(e:Env)(O D:Nat->Prop)(base:List Frame)(g:Goroutine)(w:World)(r:yD):Prop:=
 ∃(b:Env) (c:Goroutine) (a:World) (d:Array Event),stepG P m g w=.go c a d/\aT X O D w a d/\e.Le b/\MK P b (grow O w a) D base r c a
section
variable{P:Program}{b σ:Env}{O D:Nat->Prop}{h h':AH}{w w':World}{X:Event->Prop}{m:Bool}{base:List Frame}
theorem Rel.grow(r:Rel b O D h w):Rel b (grow O w w') D h w:=r.mono fun _=>.inl
theorem ctl{s:AS}{f:Frame}{cs:List Frame}{a':aN}{a:Frame}(c:stepG P m (dZ f (cs++base)) w=.go (dZ a (cs++base)) w #[]){d:Nat}(i:F0 b a' a)(e:d<=s.h.n)(g:Ic b d s.cs cs)(r:Rel b O D s.h w):
   wU P m X b O D base (dZ f (cs++base)) w (.go {s with fr:=a'}):=
 ⟨b,_,w,#[],c,.none w,.refl b,⟨⟨d,a,cs,e,rfl,.plain i,g⟩,r.grow⟩⟩
theorem F0.ML{a:aN}{f:Frame}(h:F0 b a f){k:List aV}{d:List Item}(e:LR (Cf b) k d):F0 b {a with todo:=k} {f with todo:=d}:=
 ⟨⟨h.fn,h.defers,h.mode,h.kind,h.round⟩,h.tmps,e⟩
theorem Ie{a q:aN}{f:Frame}{v v':Value}{H:AH}(h:F0 b a f)(s:VR b v v')(e:aA P a H v=some q):F0 b q (f.finish v'):=by
 unfold aA at e;have c:=h.todo
 split at e
 · rename_i t i rest k n;rw[n]at c;cases e;obtain⟨g,d,j,defers,mode,kind,r⟩:=f
   dsimp only at c;cases c with
   |cons o p=>
    cases o;unfold Frame.finish;dsimp only
    refine⟨⟨h.fn,h.defers,h.mode,h.kind,h.round⟩,?_,.cons (.region _ _) p⟩;exact ZZ h.tmps _ s
 · rename_i l k n;rw[n]at c;cases e;obtain⟨g,d,j,defers,mode,kind,r⟩:=f
   dsimp only at c;cases c with
   |cons o p=>cases o;exact⟨⟨h.fn,h.defers,h.mode,h.kind,h.round⟩,h.tmps,.cons (.endRangeFunc ‹_›) p⟩
 · rename_i k n;rw[n]at c;cases e;obtain⟨g,d,j,defers,mode,kind,r⟩:=f
   dsimp only at c;cases c with
   |cons o p=>cases o;exact⟨⟨h.fn,h.defers,h.mode,h.kind,h.round⟩,h.tmps,p⟩
 · rename_i n;rw[n]at c;generalize f.todo=z at c
   cases c with
   |cons o _=>cases o
 · cases e
theorem l9{d g:Nat}{a j:aN}{f:Frame}{v v':Value}(r:Kr b d g a f)(t:g<=h.n)(o:VR b v v')(e:aA P a h v=some j):FT P b d h j (f.finish v'):=by
 cases r with
 | plain k=>exact .plain (Ie k o e)
 | @ahead u i c l s k y=>
   obtain⟨B,C,p,E,F⟩:=k.todo
   unfold aA at e;rw[p]at e;dsimp only at e;split at e
   ·rename_i z;cases e;have q:=k.effect (v:=v) (v':=v') p o
    exact .ahead (q.mono (.refl b) (fun x _ A=>A) t) (q.eqs k.ord (by rw[y];exact fun x=>by cases x) z.2)
   ·cases e
theorem Ig{ops:Array Oper}{a c:Array Value}(h:AR (VR b) a c):yielded ops c=yielded ops a:=by
 funext j;unfold yielded;cases (ops[j]?).bind (·.dst)with
 | none=>rfl
 | some d=>
   have:=h.get d
   simp only[Option.bind_some]
   revert this;generalize a[d]?=x
   generalize c[d]?=y
   intro this;cases this with
   |none=>rfl
   |some h=>cases h<;>rfl
end
end Go.Am
namespace Go.Am
open Go.Ren (grow gU aT aB)
section
variable{P:Program}{i A:Env}{O D:Nat->Prop}{h C:AH}{w B:World}{X:Event->Prop}{m:Bool}{base:List Frame}
theorem yZ{b:Type}{s:Sem b}{r:Result b}{c:Array Event}(d:∀a,s.runT P w a=(r,a++c)):s.run P w=r/\s.events P w #[]=c:=by
 have:=d #[]
 rw[Sem.runT_eq]at this;simp only[Prod.mk.injEq]at this;exact⟨this.1,by simpa using this.2⟩
theorem qA{k:CallKind}(h:k≠.early):(k==CallKind.early)=false:=by cases k<;>first|rfl|exact absurd rfl h
theorem lW{b:Frame}{cs:List Frame}{s:Sem Next}{v:Value}{c:Array Event}(d:b.kind≠.early)(e:∀a,s.runT P w a=(.ok (.value v) B,a++c)):stepG.apply P true b cs none s w=.go (dZ (b.finish v) cs) B (seen P b.fn c):=by
 obtain⟨f,g⟩:=yZ e
 have j:=qA d
 simp[stepG.apply,f,g,j,GStep.after,dZ]
theorem Rw{b:Frame}{c:List Frame}{s:Sem Next}{d:Array Event}(e:b.kind≠.early)(f:∀a,s.runT P w a=(.ok .skip B,a++d)):stepG.apply P true b c none s w=.go (dZ (b.finish undef) c) B (seen P b.fn d):=by
 obtain⟨g,j⟩:=yZ f
 have k:=qA e
 simp[stepG.apply,g,j,k,GStep.after,dZ]
theorem zZ{b:Frame}{cs:List Frame}{s:Sem Next}{f:FuncId}{args:Array Value}{c:Array Event}(e:b.kind≠.early)(g:∀d x y k,b.todo≠.call d true x y::k)(j:∀a,s.runT P w a=(.ok (.enter f args) B,a++c)):
   stepG.apply P true b cs none s w=.go (dZ (Frame.enter P f args .normal) (b::cs)) B (seen P b.fn c):=by
 obtain⟨l,n⟩:=yZ j
 have:(match b.todo with|.call _ true _ _::_=>CallKind.wrapped|_=>.normal)=.normal:=by
   split
   ·rename_i o;exact absurd o (g _ _ _ _)
   ·rfl
 simp[stepG.apply,l,n,e,GStep.after,dZ]
theorem MM{b:Frame}{c:List Frame}{s:Sem Next}{l:Nat}{f:FuncId}{t:Array Value}{x y:Code}{d:Array Event}(e:b.kind≠.early)(g:∀a,s.runT P w a=(.ok (.round l f t x y) B,a++d)):
   stepG.apply P true b c none s w=.go (dZ (Frame.round l f t x y .normal) (b::c)) B (seen P b.fn d):=by
 obtain⟨j,k⟩:=yZ g
 have n:=qA e
 simp[stepG.apply,j,k,n,GStep.after,dZ]
theorem xh{k:List aV}{b:List Item}(h:LR (Cf i) k b):∀d x y z a,b≠.call d x y z::a:=by
 intro d x y z a e;subst e;cases h with
 | cons h _=>cases h
theorem Kr.xh{c g:Nat}{a:aN}{f:Frame}(h:Kr i c g a f):∀d x y z b,f.todo≠.call d x y z::b:=by
 cases h with
 | plain h=>exact Go.Am.xh h.todo
 | ahead k _=>
   obtain⟨_,_,_,j,_⟩:=k.todo
   intro d x y z b e;rw[j]at e;cases e
theorem BV{a:aN}{f:Frame}{J:List aN}{c:List Frame}{U:Sem Next}{s:Nat}(L:Kr i s h.n a f)(M:s<=h.n)(N:Ic i s J c){n:Next}{r:yD}(e:bZ P a J (some (n,C))=some r)
   (k:Out P X D NR i O h w U n C):∃(p:Env) (V:Goroutine) (B:World) (z:Array Event),stepG.apply P true f (c++base) none U w=.go V B z/\aT X O D w B z/\i.Le p/\MK P p (grow O w B) D base r V B:=by
 obtain⟨p,n',B,z,E,u,Z,F,h5,W,h7⟩:=k
 have Y:∀x,x<h.n->p.born x->i.born x:=fun x Q R=>((h7 x).1 R).elim id fun y=>by omega
 have H:aT X O D w B (seen P f.fn z):=h5.less (um f.fn z)
 have q:=L.mono u Y W
 have j:Ic p s J c:=N.mono u (fun x Q=>Y x (by omega)) (Nat.le_refl _)
 have o:s<=C.n:=Nat.le_trans M W
 have b:=L.base.ne
 cases Z with
 | @value v v' hv=>
   simp only[bZ,Option.map_eq_some_iff]at e;obtain⟨a',T,rfl⟩:=e
   exact⟨p,_,B,_,lW b E,H,u,⟨⟨s,_,c,o,rfl,l9 q (Nat.le_refl _) hv T,j⟩,F⟩⟩
 | skip=>
   simp only[bZ,Option.map_eq_some_iff]at e;obtain⟨a',T,rfl⟩:=e
   exact⟨p,_,B,_,Rw b E,H,u,⟨⟨s,_,c,o,rfl,l9 q (Nat.le_refl _) kE T,j⟩,F⟩⟩
 | @enter g x x' Q=>simp only[bZ,Option.some.injEq]at e;subst e;exact⟨p,_,B,_,zZ b (fun d x y k=>L.xh d true x y k) E,H,u,⟨⟨C.n,_,f::c,Nat.le_refl _,rfl,.plain (Bv g Q),.cons o q j⟩,F⟩⟩
 | @round l l' g t t' x y hl ht=>simp only[bZ,Option.some.injEq]at e;subst e;exact⟨p,_,B,_,MM b E,H,u,⟨⟨C.n,_,f::c,Nat.le_refl _,rfl,.plain (acG hl g ht x y),.cons o q j⟩,F⟩⟩
 | odd=>simp only[bZ]at e;cases e
theorem Uw{a:aN}{f:Frame}(b:AR (VR i) a.tmps f.tmps){o:Oper}(c:bC o=true):∀x∈o.op.operands,VR i (ay a.tmps x) (f.eval x):=aga c b (O3 f)
theorem aaY{a:aN}{f:Frame}(c:AR (VR i) a.tmps f.tmps){x:Operand}(b:IA x=true):VR i (ay a.tmps x) (f.eval x):=by
 cases x with
 | tmp t=>exact xZ c t
 | const v=>exact(iG b).vr i
 | _=>cases b
theorem Ux{a:Bool}{b:List aN}{v:Value}{r:yD}(e:vg P a b v h=some r):a=false/\vg P false b v h=some r:=by
 cases a with
 | true=>simp[vg]at e
 | false=>exact⟨rfl,e⟩
theorem EK{f:Frame}{o:List aN}{a:List Frame}{v g:Value}{r:yD}{q:Nat}(s:f.kind=.normal)(j:q<=h.n)(d:Ic i q o a)(t:VR i v g)(k:Rel i O D h w)(hb:Has base r)(e:vg P false o v h=some r):∃u,doReturn P m f (a++base) none g w=.go u w #[]/\MK P i O D base r u w:=by
 cases d with
 | nil=>
   simp only[vg,Bool.false_eq_true,if_false,Option.some.injEq]at e;subst e;cases base with
   |nil=>exact absurd rfl (hb ⟨_,_,rfl⟩)
   |cons b x=>refine⟨dZ (b.finish g) x,?_,b,x,g,rfl,t,rfl,k⟩;simp[doReturn,s,dZ]
 | @cons p _ c y o a l z d=>
   simp only[vg,Bool.false_eq_true,if_false,Option.map_eq_some_iff]at e;obtain⟨F,E,rfl⟩:=e
   refine⟨dZ (y.finish g) (a++base),?_,⟨⟨p,_,a,Nat.le_trans l j,rfl,l9 z j t E,d⟩,k⟩⟩;simp[doReturn,s,dZ]
theorem MN{l c:Nat}(j:Option Code)(d:i.ob l c):SR P VR i (Instr.endRound l j) (Instr.endRound c j):=by
 unfold Instr.endRound;refine(oK d).bnd fun A b r e a=>?_
 exact .setObj (b.ob d) (.loop ⟨rfl,rfl,a.fn,a.tmps,a.params,a.assign,a.body,a.defers⟩) (.pure (.bool _))
theorem Gn{l c:Nat}(d:i.ob l c):SR P Same i (Instr.beginRound l) (Instr.beginRound c):=by
 unfold Instr.beginRound;refine(oK d).bnd fun A b r e a=>?_
 refine .setObj (b.ob d) (.loop ⟨rfl,a.pending,a.fn,a.tmps,a.params,a.assign,a.body,a.defers⟩) ?_;rw[a.state];cases r.state with
 | ready=>exact .pure rfl
 | _=>exact(show SR P Same A (runtimePanic (.error _):Sem Unit) (runtimePanic (.error _))from .yO)
theorem Rx{l c:Nat}(d:i.ob l c):SR P Same i (Instr.endLoop l) (Instr.endLoop c):=by
 unfold Instr.endLoop;refine(oK d).bnd fun A b r e a=>?_
 rw[a.state,a.pending];dsimp only
 split
 · exact .dead (nO _ (bV _))
 · exact .setObj (b.ob d) (.loop ⟨rfl,rfl,a.fn,a.tmps,a.params,a.assign,a.body,a.defers⟩) (.pure rfl)
theorem Bo{l a:Nat}(b:i.ob l a):SR P (fun A=>LR (DR A)) i (Instr.takeDeferred l) (Instr.takeDeferred a):=by
 unfold Instr.takeDeferred;refine .getObj b fun o d c=>?_
 cases c with
 | deferred h=>exact .setObj b .taken (.pure h)
 | _=>exact .dead fun _ _=>rfl
theorem JV(fn:FuncId){t g:Array Value}(u:AR (VR i) t g)(params:Array Tmp)(x y:Code){r j:Option Nat}(n:gu i.ob r j):SR P (fun A p q=>A.ob p.1 q.1/\LR (DR A) p.2 q.2) i (Instr.enterLoop fn t params x y r) (Instr.enterLoop fn g params x y j):=by
 unfold Instr.enterLoop;have b:∀(A:Env) (d c:Nat) (k o:List Deferred),i.Le A->A.ob d c->LR (DR A) k o->SR P (fun A p q=>A.ob p.1 q.1/\LR (DR A) p.2 q.2) A
    (do pure (←newObj (.loop {state:=.ready,pending:=none,fn,tmps:=t,params,assign:=x,body:=y,defers:=d}),k):Sem (Nat×List Deferred)) (do pure (←newObj (.loop {state:=.ready,pending:=none,fn,tmps:=g,params,assign:=x,body:=y,defers:=c}),o):Sem (Nat×List Deferred)):=by
   intro A d c k o a hd v;refine .new (.obj (.loop ⟨rfl,rfl,rfl,u.mono fun _ _ z=>z.mono a,rfl,rfl,rfl,hd⟩)) fun F s r j n=>.pure ⟨n,v.mono fun _ _ z=>z.mono s⟩
 cases n with
 | none=>
   dsimp only
   refine .new (.obj (.deferred .nil)) fun A a d c hd=>?_
   exact b A d c _ _ a hd (.cons ⟨.collected hd,.empty⟩ .nil)
 | some h=>
   dsimp only
   refine(oK h).bnd fun A a l H E=>?_
   exact b A _ _ _ _ a E.defers .nil
theorem DU(n:Func){t f:Array Value}(g:AR (VR i) t f):SR P VR i (results n t) (results n f):=by
 unfold results;refine SR.bnd (R:=fun A=>AR (VR A)) ?_ fun A d a b c=>.aU ?_
 · rw[Array.mapM_eq_mapM_toList,Array.mapM_eq_mapM_toList];refine SR.bnd (R:=fun A=>LR (VR A)) ?_ fun A d a b c=>.aU c.arr;have:∀(l:List ResultVar) (i:Env),AR (VR i) t f->SR P (fun A=>LR (VR A)) i (l.mapM fun|.tmp x=>Pure.pure (t.getD x undef)|.cell a u=>do loadVar u (←asAddr (t.getD a undef))) (l.mapM fun|.tmp x=>Pure.pure (f.getD x undef)|.cell a u=>do loadVar u (←asAddr (f.getD a undef))):=by
    intro l;induction l with
    |nil=>intro i _;exact .aU .nil
    |cons x l p=>
     intro i g;rw[List.mapM_cons,List.mapM_cons];refine SR.bnd (R:=VR) ?_ fun A d v y q=>?_
     ·cases x with
      |tmp x=>exact .aU (xZ g x)
      |cell a u=>exact(yR (xZ g a)).bnd fun A _ a E h=>by obtain⟨e,rfl⟩:=h;exact qU u e
     ·exact(p A (g.mono fun _ _ z=>z.mono d)).bnd fun F k l H s=>.aU (.cons (q.mono k) s)
   exact this _ _ g
 · by_cases e:a.size=1
   ·have j:b.size=1:=c.1▸e
    rw[dif_pos e,dif_pos j];exact c.2 0 _ _ (by simp[e]) (by simp[j])
   ·have j:¬b.size=1:=c.1▸e
    rw[dif_neg e,dif_neg j];exact og c
end
end Go.Am
namespace Go.Am
open Go.Ren (grow gU aT aB)
section
variable{P:Program}{a d:Env}{O D:Nat->Prop}{h b:AH}{w w':World}{X:Event->Prop}
theorem WU[aO P](s:Rel a O D h w){g:Array Value}{k:Operand->Value}{o:Oper}(C:bC o=true->∀x∈o.op.operands,VR a (ay g x) (k x))(l:bM o=true){n:Next}(e:Uu P h g o=some (n,b)):
   Out P X D NR a O h w (execOp k o) n b:=by
 unfold Uu at e;split at e;rotate_left
 · cases e
 rename_i c i;split at e;rotate_left
 · cases e
 rename_i p q t;split at e;rotate_left
 · cases e
 rename_i u;simp only[Option.map_eq_some_iff]at e;obtain⟨⟨v,A⟩,E,F⟩:=e
 cases F;have m:=C u
 have r:c.callee=.builtin .append:=by
   unfold bM at l;rw[i]at l;obtain⟨callee,args,types⟩:=c
   dsimp only at l⊢;split at l
   ·rename_i H;cases H;rfl
   ·cases l
 have f:c.args=#[p,q]:=by
   have:=congrArg List.toArray t
   simpa using this
 have J:VR a (ay g p) (k p):=m p (by rw[i];simp[Op.operands,Call.operands,f])
 have L:VR a (ay g q) (k q):=m q (by rw[i];simp[Op.operands,Call.operands,f])
 have y:execOp k o=(Builtin.append_ c.argTypes o.type #[k p,k q]).bind fun v=>Sem.pure (.value v):=by
   unfold execOp;rw[i];dsimp only
   unfold resolve;rw[r];dsimp only
   rw[f];simp only[List.map_toArray,List.map_cons,List.map_nil]
   rfl
 rw[y];exact(Ru s J L E).H9 fun d N B M z j=>.MB j (.value z)
theorem Ih[aO P](g:Rel a O D h w){f:Array Value}{m:Operand->Value}{o:Oper}(p:bC o=true->∀x∈o.op.operands,VR a (ay f x) (m x)):
   ∃c:Nat,∀{n:Next} {b:AH},bP P (some c) h f o=some (n,b)->Out P X D NR a O h w (execOp m o) n b:=by
 by_cases j:bM o=true
 · refine⟨0,fun e=>?_⟩;unfold bP at e;rw[if_pos j]at e;exact WU g p j e
 · by_cases l:(bC o&&lX P h (ay f) o)=true
   ·have i:=l
    simp only[Bool.and_eq_true]at i;obtain⟨c,k⟩:=(Uf g o (p i.1) i.2).aja (X:=X) g;refine⟨c,fun e=>?_⟩;unfold bP at e;rw[if_neg j,if_pos l]at e;exact k e
   ·refine⟨0,fun e=>?_⟩;unfold bP at e;rw[if_neg j,if_neg l]at e;cases e
theorem MO{c:Option Nat}{f:Array Value}{o:Oper}{r:Next×AH}(e:bP P c h f o=some r):∀q,o.op≠.defer q:=by
 intro q g;unfold bP at e;split at e
 · unfold Uu at e;rw[g]at e;cases e
 · split at e
   ·rename_i i;simp only[Bool.and_eq_true]at i;have:=i.2;unfold lX at this;rw[g]at this;cases this
   ·cases e
end
end Go.Am
