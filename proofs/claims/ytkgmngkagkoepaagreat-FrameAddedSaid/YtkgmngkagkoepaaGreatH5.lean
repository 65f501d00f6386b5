import Derived.Test.YtkgmngkagkoepaaGreatH3
import Derived.Test.YtkgmngkagkoepaaGreatH4
set_option linter.all false
namespace Go.Am
open Go.Ren (grow gp aQ az)
def isInt:TypeDesc->Bool
 | .int _=>true
 | _=>false
def xJ(b:Nat):List Nat->List Nat
 | []=>[]
 | x::l=>if x=b then [x]else x::xJ b l
def adz(P:Program)(h:AH)(b:TypeId)(i:TypeInfo)(base:Option Addr)(n c m:Nat)(d:Array Value):Option (Value×AH):=
 match i.zero,(Builtin.firstCells i.size n (.slice base n c)).fU P h with
 | some z,some e=>
   if e.size=n*i.size/\d.size=m*i.size/\z.cells.size=i.size/\i.bytes≠0/\(n+m)*4*i.bytes<=2^48/\d.toList.all flat=true then
    match base with
    |none=>some (.slice (some ⟨h.n,0,none⟩) (n+m) (n+m),h.join h.n [] (.cells (e++d) b (0,0)) i.size)
    |some a=>match a.spot,h.look a.block with
     |none,some B=>match B.obj with
      | .cells g _ _=>match B.fM with
       |none=>some (.slice (some ⟨h.n,0,none⟩) (n+m) (n+m),h.join h.n [] (.cells (e++d) b (0,0)) i.size)
       |some f=>if B.ro=false/\B.u=i.size then
         some (.slice (some ⟨h.n,0,none⟩) (n+m) (n+m),h.join f (if a.off+n*i.size=g.size then xJ a.block ((h.dB.get f).getD [])else []) (.cells (e++d) b (0,0)) i.size)else none
      |_=>none
     |_,_=>none
   else none
 | _,_=>none
def afR(P:Program)(h:AH)(u:TypeDesc)(i:TypeInfo)(x:Value):Option Nat:=
 if isInt u=true then match x with
   | .int _ v=>if 0<=IntKind.i64.wrap v/\IntKind.i64.wrap v*i.bytes<=2^48 then some (IntKind.i64.wrap v).toNat else none
   |_=>none
 else(Builtin.lenOf x).fU P h
def anew(P:Program)(h:AH)(u:TypeDesc)(i:TypeInfo)(m:Nat)(x:Value):Option (Array Value):=
 if isInt u=true then match i.zero with
   |some z=>if z.cells.size=i.size then some (Builtin.zeroCells z.cells m)else none
   |none=>none
 else(Builtin.firstCells i.size m x).fU P h
def afS(P:Program)(h:AH)(argTypes:Array TypeId)(s x:Value):Option (Value×AH):=
 match argTypes[0]?,argTypes[1]? with
 | some e,some f=>match P.underlying e,P.underlying f,s with
   |some (.slice b),some u,.slice base n c=>
    match P.info? b with
    |none=>none
    |some i=>match afR P h u i x with
     |none=>none
     |some m=>match anew P h u i m x with
      |none=>none
      |some d=>
       if n+m<=c then match base with
        |none=>some (.slice none (n+m) c,h)
        |some a=>match(storeCells (a.add (n*i.size)) d.toList).ar P none h with
         |some (_,g)=>some (.slice (some a) (n+m) c,g)
         |none=>none
       else adz P h b i base n c m d
   |_,_,_=>none
 | _,_=>none
section
variable{P:Program}{ρ A:Env}{O O' D:Nat->Prop}{h p h₁:AH}{w w' w₁:World}{X:Event->Prop}{t d F δ:Type}
theorem Out.pu{R:Env->t->d->Prop}{a:t}{x:Sem F}{y:F}{f:F->Sem d}(b:Pu P x y)(k:Out P X D R ρ O h w (f y) a p):Out P X D R ρ O h w (x>>=f) a p:=Out.same (fun w c=>b.run f w c) k
theorem Out.choose{R:Env->t->d->Prop}{a:t}{q:Question}{f:Nat->Sem d}(e:q.forced=false)(k:Out P X D R ρ O h {w with drawn:=w.drawn+1} (f (q.cut (w.tape w.drawn q))) a p):Out P X D R ρ O h w (Go.choose q>>=f) a p:=by
 refine Out.here (h₁:=h) (w₁:={w with drawn:=w.drawn+1}) (es₁:=#[]) (fun b=>?_) (uX (w.drawn+1)) rfl rfl k;show((Go.choose q).bind f).runT P w b=_
 simp only[Go.choose,Sem.bind,Sem.runT,e,Array.append_empty]
 rfl
theorem Out.room{R:Env->t->d->Prop}{a:t}{n:Nat}{f:Unit->Sem d}(k:Out P X D R ρ O h w (f ()) a p):Out P X D R ρ O h w (askRoom n>>=f) a p:=by
 unfold askRoom;split
 · refine Out.here (h₁:=h) (w₁:=w) (s₁:=f ()) (es₁:=#[⟨.mark .noRoom,false,true⟩]) (fun b=>?_) ⟨Nat.le_refl _,fun _ _ _=>rfl,rfl,rfl,rfl,fun e i=>?_⟩ rfl rfl k
   ·show((Go.mark .noRoom).bind f).runT P w b=_
    rw[jv];simp only[Go.mark,Sem.bind,Sem.runT]
   ·simp only[List.mem_toArray,List.mem_singleton]at i;subst i;exact .inr rfl
 · exact Out.pu (.aT ()) k
theorem yS(b:Nat):∀l:List Nat,(xJ b l).Sublist l
 | []=>.slnil
 | x::l=>by
   unfold xJ;split
   ·exact List.Sublist.cons_cons _ (List.nil_sublist l)
   ·exact List.Sublist.cons_cons _ (yS b l)
theorem JD{R:Nat->Nat->Prop}{b:Nat}:∀{l:List Nat},l.Pairwise R->b∈l->∀x∈xJ b l,x=b∨R x b
 | [],_,f,_,_=>by cases f
 | y::l,g,f,x,a=>by
   unfold xJ at a;split at a
   ·rename_i e;simp only[List.mem_singleton]at a;exact .inl (a.trans e)
   ·rename_i e;have c:b∈l:=(List.mem_cons.1 f).resolve_left fun z=>e z.symm
    rcases List.mem_cons.1 a with rfl|a
    ·exact .inr (List.rel_of_pairwise_cons g c)
    ·exact JD g.of_cons c x a
theorem E5{n:Nat}:∀(r c:Nat),c<=2*n+192->Builtin.growBy n r c<=2*n+192
 | 0,c,h=>h
 | r+1,c,h=>by
   unfold Builtin.growBy;split
   ·exact h
   ·exact E5 r _ (by omega)
theorem nextslicecap_le{n c:Nat}(h:c<n):Builtin.nextslicecap n c<=4*n:=by
 unfold Builtin.nextslicecap;split
 · omega
 · split
   ·omega
   ·have:=E5 (n:=n) 4 c (by omega)
    omega
theorem afT{x a:Value}{m:Nat}(b:VR ρ x a)(e:(Builtin.lenOf x).fU P h=some m):Pu P (Builtin.lenOf a) m:=by
 cases b<;>first
   |(simp only[Builtin.lenOf,stuck,Sem.fU]at e;cases e;done)
   |(have c:some _=some m:=e;cases c;exact .aT _)
theorem tH(z:Array Value)(n:Nat):(Builtin.zeroCells z n).size=n*z.size:=by simp[Builtin.zeroCells]
theorem AR.ak1{R:t->d->Prop}{a:Array t}{b:Array d}(h:AR R a b):LR R a.toList b.toList:=by
 obtain⟨a⟩:=a
 obtain⟨b⟩:=b
 obtain⟨c,e⟩:=h
 simp only at c⊢;simp only[List.size_toArray,List.getElem?_toArray]at c e;induction a generalizing b with
 | nil=>cases b with|nil=>exact .nil|cons y b=>simp at c
 | cons x a f=>
   cases b with
   |nil=>simp at c
   |cons y b=>exact .cons (e 0 x y (by simp) (by simp)) (f b (by simpa using c) fun i u v g j=>e (i+1) u v (by simpa using g) (by simpa using j))
theorem elsewhere{f:Nat}{l:List Nat}{r s b j zs:Array Value}{o:TypeId}{n m q u:Nat}(H:Rel ρ O D h w)(J:l.Sublist ((h.dB.get f).getD []))(L:AR (VR ρ) r b)(M:AR (VR ρ) s j)(Y:r.size=n*u)(Z:s.size=m*u)
   (hz:zs.size=(q-(n+m))*u) (C:n+m<=q):
   Out P X D VR ρ O h w (newRow o (b++j++zs)>>=fun a=>Pure.pure (Value.slice (some a) (n+m) q)) (.slice (some ⟨h.n,0,none⟩) (n+m) (n+m)) (h.join f l (.cells (r++s) o (0,0)) u):=by
 have R:¬ρ.born h.n:=fun z=>Nat.lt_irrefl _ (H.fresh _ z)
 have U:(b++j++zs).size=q*u:=by
   simp only[Array.size_append,hz,←L.1,←M.1,Y,Z]
   rw[←Nat.add_mul,←Nat.add_mul];congr 1;omega
 have E:AR (VR ρ) (r++s) (b++j):=L.append M
 have low:∀x,ρ.born x->(ρ.to x).1≠w.heap.size:=fun x z e=>by have:=H.low x z;omega
 have hr:=H.join (w':={w with heap:=w.heap.push (.cells (b++j++zs) o (0,0))}) (O':=grow O w {w with heap:=w.heap.push (.cells (b++j++zs) o (0,0))}) (f:=f) (l:=l) (cs:=r++s) (e:=o) (u:=u) (T:=w.heap.size) (off:=0) (ext:=q*u) J (fun _=>.inl) (.inr ⟨Nat.le_refl _,by simp⟩) (by simp)
   (fun c hc Q=>by dsimp only;rw[Array.getElem?_push,if_neg (by omega)]) ⟨_,o,by dsimp only;rw[Array.getElem?_push,if_pos rfl],by rw[U];omega,by
    rw[Array.size_append,Y,Z,←Nat.add_mul];exact Nat.mul_le_mul_right _ C,fun i v hv=>by
    have Q:=(Array.getElem?_eq_some_iff.1 hv).1;have:=E.get i
    rw[hv]at this;rw[Nat.zero_add,Array.getElem?_append_left (by rw[←E.1];exact Q)];generalize (b++j)[i]?=y at this
    cases this with
    |some k=>exact⟨_,rfl,k⟩⟩ (fun x B z _ e=>absurd e (low x z)) (fun x _ z e=>absurd e (low x z)) (fun x B c e' g z _ _ e=>absurd e (low x z))
 refine⟨_,.slice (some ⟨w.heap.size,0,none⟩) (n+m) q,_,#[],fun V=>?_,Env.jb R,?_,hr,oC _,Nat.le_succ _,fun x=>?_⟩
 · simp[newRow,newObj,-Sem.runT_eq,Sem.runT,bind,pure,Sem.bind]
 · have:(⟨w.heap.size,0,none⟩:Addr)=(ρ.add h.n (w.heap.size,0) True u (q*u)).addr ⟨h.n,0,none⟩:=by simp only[Env.addr,dD]
   rw[this];refine .slice (.inl rfl) (.inr ⟨mF.2 trivial,C,?_⟩);show 0+q*_<=_;rw[Hz,tK];omega
 · show(x=h.n∨ρ.born x)↔_;constructor
   ·rintro(rfl|W)
    ·exact .inr ⟨Nat.le_refl _,Nat.lt_succ_self _⟩
    ·exact .inl W
   ·rintro(W|⟨h1,h2⟩)
    ·exact .inr W
    ·have:x<h.n+1:=h2
     exact .inl (by omega)
theorem xK{a:Addr}:∀(n i:Nat) (b r:Array Value),(loadCellsFrom a i n b).fU P h=some r->r.size=b.size+n/\(∀j,j<b.size->r[j]?=b[j]?)/\∀j,j<n->h.cell (a.add (i+j))=r[b.size+j]?
 | 0,i,b,r,e=>by
   have c:some b=some r:=e
   cases c;exact⟨by simp,fun j f=>rfl,fun j f=>by omega⟩
 | n+1,i,b,r,e=>by
   have c:(Sem.load .plain (a.add i) fun v=>loadCellsFrom a (i+1) n (b.push v)).fU P h=some r:=e
   rw[Sem.fU.eq_def]at c;dsimp only at c;split at c
   ·rename_i v m _;obtain⟨o,g,k⟩:=xK n (i+1) (b.push v) r c
    rw[Array.size_push]at o g k;refine⟨by omega,fun j f=>?_,fun j f=>?_⟩
    ·rw[g j (by omega),Array.getElem?_push,if_neg (by omega)]
    ·cases j with
     |zero=>rw[Nat.add_zero,Nat.add_zero,m,g b.size (by omega),Array.getElem?_push,if_pos rfl]
     |succ j=>
      have:=k j (by omega)
      rw[show i+(j+1)=i+1+j by omega,this];congr 1;omega
   ·cases c
theorem Zu{f n m c c':Nat}{a:Addr}{B:aY}{cs Q s i:Array Value}{ce a1:TypeId}{cg:Nat×Nat}{u:Nat}{b':Addr}(q:Rel ρ O D h w)(R:ρ.born a.block)(a4:b'=ρ.addr a)(b7:a.off+c'*u<=ρ.ext a.block)(z:a.spot=none)(b:h.look a.block=some B)(U:B.obj=.cells cs ce cg)(hf:B.fM=some f)(a5:B.ro=false)(a6:n+m<=c')(Z:AR (VR ρ) s i)(k1:Q.size=n*u)(k2:s.size=m*u)(a2:∀v∈s.toList,flat v=true)
   (a7:(Builtin.firstCells u n (.slice (some a) n c)).fU P h=some Q):
   Out P X D VR ρ O h w (storeCells (b'.add (n*u)) i.toList>>=fun _=>Pure.pure (Value.slice (some b') (n+m) c')) (.slice (some ⟨h.n,0,none⟩) (n+m) (n+m)) (h.join f (if a.off+n*u=cs.size then xJ a.block ((h.dB.get f).getD [])else []) (.cells (Q++s) a1 (0,0)) u):=by
 obtain⟨C,E,g,c1,c2,c3,c4,c5⟩:=q.cells a.block B cs ce cg R b U
 have hg:g=(0,0):=c4 (zZ a5)
 subst hg;have hO:O (ρ.to a.block).1:=(q.own a.block B R b).1 a5;have b2:¬ρ.born h.n:=fun hb=>Nat.lt_irrefl _ (q.fresh _ hb)
 have a8:b'.add (n*u)=⟨(ρ.to a.block).1,(ρ.to a.block).2+a.off+n*u,none⟩:=by
   rw[a4];unfold Addr.add Env.addr;split
   ·rename_i h0;rw[h0,z];rfl
   ·rfl
 have b8:n*u+m*u<=c'*u:=by rw[←Nat.add_mul];exact Nat.mul_le_mul_right _ a6
 have b9:i.toList.length=m*u:=by rw[←k2,Z.1];simp
 have a0:∀v∈i.toList,flat v=true:=by
   intro v M;rw[Array.mem_toList_iff]at M;obtain⟨k,hk,rfl⟩:=Array.mem_iff_getElem.1 M;have b3:k<s.size:=by rw[Z.1];exact hk
   exact afQ (Z.2 k s[k] i[k] (by simp[b3]) (by simp[hk])) (a2 _ (by simp))
 obtain⟨w',es,C',s1,s2,s3,s4,s5,s6,s7,s8,s9,b4⟩:=tC (P:=P) (T:=(ρ.to a.block).1) (off:=(ρ.to a.block).2+a.off+n*u) i.toList 0 c1 (by omega) a0
 obtain⟨o1,_,o3⟩:=xK (n*u) 0 #[] Q a7
 have J:a.block∈(h.dB.get f).getD []:=rE b hf
 have V:∀x∈(if a.off+n*u=cs.size then xJ a.block ((h.dB.get f).getD [])else []),ρ.born x->(ρ.to x).1=(ρ.to a.block).1->∀k,h.upTo ρ x k->k<=(ρ.to a.block).2+a.off+n*u:=by
   intro x N r hT k hk;split at N
   ·rename_i c9;cases hg:h.dB.get f with
    |none=>rw[hg]at J;simp at J
    |some l'=>
     rw[hg]at N J;rcases JD (q.row f l' hg) J x N with rfl|hR
     ·obtain⟨B',d1,d2,d3,d4,d5,d6⟩:=hk
      rw[fJ b]at d4;cases d4;rw[U]at d5;cases d5;omega
     ·have:=hR r R hT k _ hk ⟨B,cs,ce,cg,fJ b,U,rfl⟩
      omega
   ·cases N
 have L:∀j,j<(ρ.to a.block).2+a.off+n*u->C'[j]?=C[j]?:=fun j hj=>by rw[s4,if_neg (by omega)]
 have hr:=q.join (w':=w') (O':=grow O w w') (f:=f) (l:=if a.off+n*u=cs.size then xJ a.block ((h.dB.get f).getD [])else []) (cs:=Q++s) (e:=a1) (u:=u) (T:=(ρ.to a.block).1) (off:=(ρ.to a.block).2+a.off) (ext:=ρ.ext a.block-a.off)
   (by split;exact yS _ _;exact List.nil_sublist _) (fun _=>.inl) (.inl hO) (Nat.le_of_eq s6.symm) (fun c hc _=>s5 c hc)
   ⟨C',E,s2,by omega,by rw[Array.size_append,k1,k2];omega,fun j v M=>by
    rw[Array.getElem?_append]at M;split at M
    ·rename_i hj;rw[k1]at hj;have W:=o3 j hj
     have a9:(#[]:Array Value).size+j=j:=by simp
     rw[a9,M,Nat.zero_add]at W;obtain⟨v',l1,l2,_⟩:=q.load (a:=a.add j) (by rw[block_add];exact R) W
     refine⟨v',?_,l2⟩;have b0:ρ.addr (a.add j)=⟨(ρ.to a.block).1,(ρ.to a.block).2+a.off+j,none⟩:=by
      unfold Addr.add Env.addr;split
      ·rename_i h0;rw[h0,z];rfl
      ·simp only[Nat.add_assoc]
     rw[b0]at l1;unfold World.cell? at l1;dsimp only at l1;rw[c1]at l1;rw[L _ (by omega)];simpa using l1
    ·rename_i hj;rw[k1]at hj M;have b6:=(Array.getElem?_eq_some_iff.1 M).1;have:=Z.get (j-n*u)
     rw[M]at this;rw[s4,if_pos (by omega)];have b1:(ρ.to a.block).2+a.off+j-((ρ.to a.block).2+a.off+n*u+0)=j-n*u:=by omega
     rw[b1,Array.getElem?_toList];generalize i[j-n*u]?=y at this
     cases this with
     |some k=>exact⟨_,rfl,k⟩⟩
   (fun x B' r H hT=>by
    refine⟨?_,?_⟩
    ·by_cases ex:x=a.block
     ·subst ex;rw[b]at H;cases H;exact hf
     ·rcases q.sep x a.block B' B r R H b ex hT with⟨f',g1,g2⟩|⟨_,g2,_⟩
      ·rw[hf]at g2;cases g2;exact g1
      ·rw[hf]at g2;cases g2
    ·by_cases hc:∃c e' g,B'.obj=.cells c e' g
     ·exact hc
     ·obtain⟨_,o',p1,p2⟩:=q.obj x B' r H fun c e g hh=>hc ⟨c,e,g,hh⟩
      rw[hT,c1]at p1;cases p1;exact absurd rfl (p2.iG.2 _ _ _))
   (fun x N r hT k hk=>by
    have:=V x N r hT k hk
    rw[Array.size_append,k1];omega)
   (fun x B' c e' g r H N hT Y=>by
    obtain⟨c0,c6,c7,p1,p2,p3,p4,p5⟩:=q.cells x B' c e' g r H Y
    rw[hT,c1]at p1;cases p1;refine⟨C',E,(0,0),s2,by omega,p3,fun _=>rfl,fun j v M=>?_⟩;have b6:=(Array.getElem?_eq_some_iff.1 M).1;have c8:=V x N r hT _ ⟨B',c,e',g,fJ H,Y,rfl⟩
    rw[L _ (by omega)];exact p5 j v M)
 refine⟨_,.slice (some b') (n+m) c',w',es,fun a3=>?_,Env.jb b2,?_,hr,⟨Nat.le_of_eq s6.symm,fun c hc hn=>s5 c fun e=>hn (e▸hO),s7,s8,s9,fun e he=>?_⟩,Nat.le_succ _,fun x=>?_⟩
 · show((storeCells (b'.add (n*u)) i.toList).bind _).runT P w a3=_
   rw[Sem.runT_bind',a8,s1];rfl
 · have:b'=(ρ.add h.n ((ρ.to a.block).1,(ρ.to a.block).2+a.off) True u (ρ.ext a.block-a.off)).addr ⟨h.n,0,none⟩:=by rw[a4];simp only[Env.addr,dD,z,Nat.add_zero]
   rw[this];refine .slice (.inl rfl) (.inr ⟨mF.2 trivial,a6,?_⟩);show 0+c'*_<=_;rw[Hz,tK];omega
 · obtain⟨o,ho⟩:=b4 e he
   right;rw[ho];exact .inl (.inl hO)
 · show(x=h.n∨ρ.born x)↔_;constructor
   ·rintro(rfl|N)
    ·exact .inr ⟨Nat.le_refl _,Nat.lt_succ_self _⟩
    ·exact .inl N
   ·rintro(N|⟨h1,h2⟩)
    ·exact .inr N
    ·have:x<h.n+1:=h2
     exact .inl (by omega)
theorem CW{z:Array Value}{n:Nat}(h:n*z.size=0):Builtin.zeroCells z n=#[]:=by
 apply Array.eq_empty_of_size_eq_zero;rw[tH,h]
theorem Out.alt{R:Env->t->d->Prop}{a:t}{b:TypeId}{i:TypeInfo}{u:TypeDesc}{x g:Value}{m:Nat}{c:Int->Sem d}{f:Int->TypeInfo->Sem d}{K:Nat->Sem d}(o:P.info? b=some i)(l:VR ρ x g)(e:afR P h u i x=some m)
   (k:Out P X D R ρ O h w (K m) a p):Out P X D R ρ O h w (if isInt u=true then asInt g>>=fun v=>if IntKind.i64.wrap v<0 then c v else typeInfo b>>=fun n=>if IntKind.i64.wrap v*(n.bytes:Int)>2^48 then f v n else Pure.pure (IntKind.i64.wrap v).toNat>>=K else Builtin.lenOf g>>=K) a p:=by
 unfold afR at e;split at e
 · rename_i j;rw[if_pos j];cases l<;>dsimp only at e<;>first|(cases e;done)|skip
   split at e
   ·rename_i q;cases e;refine Out.pu (y:=_) (.aT _) ?_;dsimp only
    rw[if_neg (by omega)];refine Out.pu (uB o) ?_;rw[if_neg (by omega)];exact Out.pu (.aT _) k
   ·cases e
 · rename_i j;rw[if_neg j];exact Out.pu (afT l e) k
theorem G9[aP P]{a:TypeId}{i:TypeInfo}{u:TypeDesc}{x g:Value}{m:Nat}{c:Array Value}(b:Rel ρ O D h w)(j:P.info? a=some i)(l:VR ρ x g)(e:anew P h u i m x=some c):
   Out P X D (fun A=>AR (VR A)) ρ O h w (if(!isInt u)=true then Builtin.firstCells i.size m g else if m*i.size=0 then Pure.pure #[]else zeroValue a>>=fun z=>Pure.pure (Builtin.zeroCells z.cells m)) c h:=by
 unfold anew at e;split at e
 · rename_i f;rw[f];split at e
   ·rename_i z k;split at e
    ·rename_i n;cases e;simp only[Bool.not_true,Bool.false_eq_true,if_false]
     split
     ·rename_i h0;rw[CW (by rw[n];exact h0)];exact Out.JC b ⟨rfl,fun _ _ _ o=>by simp at o⟩
     ·refine Out.pu (G7 j k) (Out.JC b (sK (fun q=>aP.zero a i z j k q) _ _))
    ·cases e
   ·cases e
 · rename_i f;rw[show isInt u=false by simpa using f];exact(oh i.size m l).xQ b (Ba _ e)
theorem NG[aP P]{argTypes:Array TypeId}{ty:TypeId}{s s' x x' v:Value}(N:Rel ρ O D h w)(hs:VR ρ s s')(hx:VR ρ x x')(e:afS P h argTypes s x=some (v,p)):
   Out P X D VR ρ O h w (Builtin.append_ argTypes ty #[s',x']) v p:=by
 unfold afS at e;split at e;rotate_left
 · cases e
 rename_i st xt h0 h1;split at e;rotate_left
 · cases e
 rename_i r u base n c a7 a8;split at e
 · cases e
 rename_i i Q;split at e
 · cases e
 rename_i m hm;split at e
 · cases e
 rename_i a1 H;obtain⟨g,E,rfl,hb⟩:∃g E,s'=.slice g n E/\((base=none/\g=none/\E=c)∨∃a,base=some a/\g=some (ρ.addr a)/\ρ.born a.block/\(E=c∨(ρ.bD a.block/\c<=E/\a.off+E*ρ.u a.block<=ρ.ext a.block))):=by
   cases hs with
   |nilslice=>exact⟨none,c,rfl,.inl ⟨rfl,rfl,rfl⟩⟩
   |slice hb hc=>exact⟨_,_,rfl,.inr ⟨_,rfl,rfl,hb,hc⟩⟩
 have c0:c<=E:=by rcases hb with⟨_,_,h⟩|⟨_,_,_,_,h|h⟩<;>omega
 unfold Builtin.append_;simp only[h0,h1,List.getElem?_toArray,List.getElem?_cons_zero,List.getElem?_cons_succ]
 refine Out.pu (CV a7) ?_;dsimp only
 refine Out.pu (P5 Q) ?_;refine Out.pu (CV a8) ?_;refine Out.pu (y:=isInt u) (by cases u<;>exact .aT _) ?_;refine Out.alt Q hx hm ?_;by_cases j:n+m<=c
 · rw[if_pos j]at e;rw[if_pos (by omega)];refine Out.EZ (G9 N Q hx H) fun A R w₁ k J b=>?_
   rcases hb with⟨rfl,rfl,rfl⟩|⟨a,rfl,rfl,C,hc⟩
   ·cases e;exact Out.JC b (.nilslice _ _)
   ·dsimp only at e⊢;split at e
    ·rename_i b6 b7 a2;cases e;have a3:A.born (a.add (n*i.size)).block:=by rw[block_add];exact k.born _ C
     have a9:(ρ.addr a).add (n*i.size)=A.addr (a.add (n*i.size)):=by rw[←k.addr C,←addr_add]
     rw[a9];refine Out.EZ ((kD 0 a3 J.ak1).xQ b a2) fun τ _ a4 o _ q=>?_
     refine Out.JC q ?_;exact((VR.slice C hc:VR ρ (.slice (some a) (n+m) c) (.slice (some (ρ.addr a)) (n+m) E)).mono k).mono o
    ·cases e
 rw[if_neg j]at e;unfold adz at e;split at e;rotate_left
 · cases e
 rename_i z b0 hz T;split at e;rotate_left
 · cases e
 rename_i hk;obtain⟨k1,k2,k3,k4,k5,k6⟩:=hk
 have Y:∀v∈a1.toList,flat v=true:=List.all_eq_true.1 k6;by_cases L:n+m<=E
 ·
   rw[if_pos L];rcases hb with⟨rfl,rfl,rfl⟩|⟨a,rfl,rfl,C,hc⟩
   ·exact absurd L j
   obtain⟨b1,b8,U⟩:=hc.resolve_left fun z=>j (z▸L)
   dsimp only at e;split at e;rotate_left
   ·cases e
   rename_i B Z M;split at e;rotate_left
   ·cases e
   rename_i cs ce cg a5;obtain⟨b2,b3⟩:=N.bD _ B C M
   have V:=b2.1 b1;split at e
   ·rename_i hf;exact absurd hf V
   rename_i f hf;split at e;rotate_left
   ·cases e
   rename_i a0;obtain⟨a0,hu⟩:=a0
   cases e;rw[b3 V,hu]at U;refine Out.EZ (G9 N Q hx H) fun A R w₁ k J b=>?_
   dsimp only
   exact Zu b (k.born _ C) (k.addr C).symm (by rw[k.ext _ C];exact U) Z M a5 hf a0 L J k1 k2 Y T
 ·
   rw[if_neg L];obtain⟨f,l,a6,rfl,rfl⟩:∃f l,l.Sublist ((h.dB.get f).getD [])/\v=.slice (some ⟨h.n,0,none⟩) (n+m) (n+m)/\p=h.join f l (.cells (b0++a1) r (0,0)) i.size:=by
    split at e
    ·cases e;exact⟨h.n,[],List.nil_sublist _,rfl,rfl⟩
    ·split at e
     ·split at e
      ·split at e
       ·cases e;exact⟨h.n,[],List.nil_sublist _,rfl,rfl⟩
       ·split at e
        ·cases e;refine⟨_,_,?_,rfl,rfl⟩;split
         ·exact yS _ _
         ·exact List.nil_sublist _
        ·cases e
      ·cases e
     ·cases e
   have b4:VR ρ (.slice base n c) (.slice g n E):=hs
   refine Out.pu (uB Q) ?_;rw[if_neg (fun hh=>by
    have h2:(n+m)*4*1<=(n+m)*4*i.bytes:=Nat.mul_le_mul_left _ (by omega)
    have:=hh.1;have h3:(n+m:Nat)>(9223372036854775807:Int):=this
    omega)]
   refine Out.pu (uB Q) ?_;rw[if_neg (fun hh=>by
    have h1:=nextslicecap_le (n:=n+m) (c:=E) (by omega)
    have h2:=Nat.mul_le_mul_right i.bytes h1
    have h3:(n+m)*4*i.bytes=4*(n+m)*i.bytes:=by rw[Nat.mul_comm (n+m) 4]
    omega)]
   refine Out.choose rfl ?_;have W:n+m<=(Question.appendCap (n+m) E r).cut (w.tape w.drawn (.appendCap (n+m) E r)):=Nat.le_add_right _ _
   generalize (Question.appendCap (n+m) E r).cut (w.tape w.drawn (.appendCap (n+m) E r))=c1 at W
   refine Out.pu (uB Q) ?_;refine Out.room ?_;refine Out.EZ ((oh i.size n b4).xQ (N.drawn _) (Ba _ T)) fun A b9 w₁ k b5 b=>?_
   refine Out.EZ (G9 b Q (hx.mono k) H) fun τ R a4 o J q=>?_
   refine Out.pu (G7 Q hz) ?_;exact elsewhere q a6 (b5.mono fun _ _ x=>x.mono o) J k1 k2 (by rw[tH,k3]) W
end
end Go.Am
namespace Go.Am
open Go.Ren (grow gp aQ az)
inductive xU where
 | go (s:AS)
 | ret (v:Value) (h:AH)
def aF(P:Program)(f:ak)(h:AH)(v:Value):Option ak:=
 match f.todo with
 | .region a (i::rest)::k=>some {f with tmps:=dM f.tmps ((a[i]?).bind (·.dst)) v,todo:=.region a rest::k}
 | .inRangeFunc l::k=>some {f with todo:=.endRangeFunc l::k}
 | .beginRound::k=>some {f with todo:=k}
 | .drawn a ((i,c)::rest)::k=>if aI a i=.effect/\recheck P a c (dM f.tmps (cZ a i) v) h=true then some {f with tmps:=dM f.tmps (cZ a i) v,todo:=.drawn a rest::k}else none
 | _=>none
def uF(P:Program)(b:Bool)(a:List ak)(v:Value)(h:AH):Option xU:=
 if b then none else match a with
 | []=>some (.ret v h)
 | c::a=>(aF P c h v).map fun f=>.go ⟨f,a,h⟩
def dn(P:Program)(a:ak)(c:List ak):Option (Next×AH)->Option xU
 | some (.value v,h)=>(aF P a h v).map fun f=>.go ⟨f,c,h⟩
 | some (.skip,h)=>(aF P a h undef).map fun f=>.go ⟨f,c,h⟩
 | some (.enter f args,h)=>some (.go ⟨ak.enter P f args,a::c,h⟩)
 | some (.round l f t x b,h)=>some (.go ⟨ak.PR l f t x b,a::c,h⟩)
 | _=>none
def P6(P:Program)(h:AH)(a:Array Value)(o:Oper):Option (Next×AH):=
 match o.op with
 | .call c=>match c.args.toList with
   | [p,q]=>if bU o then(afS P h c.argTypes (au a p) (au a q)).map fun r=>(.value r.1,r.2)else none
   |_=>none
 | _=>none
def bV(P:Program)(c:Option Nat)(h:AH)(tmps:Array Value)(o:Oper):Option (Next×AH):=
 if cu o then P6 P h tmps o else if bU o&&kZ P h (au tmps) o then(execOp (au tmps) o).ar P c h else none
def nY(P:Program)(s:AS)(a:Option Code):Option xU:=
 match s.fr.round with
 | none=>match a with
   |none|some .ret=>some (.go {s with fr:={s.fr with ret:=true}})
   |_=>none
 | some l=>match(Instr.endRound l a).ar P none s.h with
   |some (v,h)=>uF P s.fr.dk s.cs v h
   |none=>none
def E8(s:AS)(todo:List aS):Option xU:=some (.go {s with fr:={s.fr with todo}})
def nN(P:Program)(s:AS):Option xU:=
 match s.fr.defers with
 | {target:=.collected b,..}::a=>match(Instr.takeDeferred b).ar P none s.h with
   |some (calls,h)=>some (.go {s with fr:={s.fr with defers:=calls++a},h})
   |none=>none
 | _::_=>none
 | []=>match P.funcs[s.fr.fn]? with
   |none=>none
   |some c=>match(results c s.fr.tmps).ar P none s.h with
    |some (v,h)=>uF P s.fr.dk s.cs v h
    |none=>none
def FP:Operand->Bool
 | .tmp _=>true
 | .const v=>iQ 9 v
 | _=>false
abbrev bP:=Nat->Array Oper->List (Nat×List Nat)
def aH(P:Program)(pl:bP)(c:Option Nat)(s:AS):Option xU:=
 match s.fr.ret with
 | true=>nN P s
 | false=>match s.fr.todo with
   | []=>nY P s none
   | .code x::k=>match x with
    | .ret=>nY P s (some .ret)
    | .skip=>E8 s k
    | .label _=>E8 s k
    | .seq a b=>E8 s (.code a::.code b::k)
    | .cond x a b=>if FP x then match au s.fr.tmps x with
     | .bool t=>E8 s (.code (if t then a else b)::k)
     |_=>none else none
    | .block id b=>E8 s (.code b::.inBlock id::k)
    | .loop b=>E8 s (.code b::.inLoop b::k)
    | .scope b=>E8 s (.code b::.inScope b::k)
    | .exit id=>match pJ id k with
     |some k=>E8 s k
     |none=>nY P s (some (.exit id))
    | .goto l=>match uw l k with
     |some k=>E8 s k
     |none=>nY P s (some (.goto l))
    | .region _ e false=>E8 s (.region e (List.range e.size)::k)
    | .region id e true=>if G5 e (pl id e)&&P.follows .mixedOrders then E8 s (.drawn e (pl id e)::k)else none
    | .rangeFunc f params assign r=>if FP f then match au s.fr.tmps f with
     | .func (.func g) first captured=>match(Instr.enterLoop s.fr.fn s.fr.tmps params assign r s.fr.round).ar P none s.h with
      |some ((l,mark),h)=>dn P {s.fr with todo:=.inRangeFunc l::k,defers:=mark++s.fr.defers} s.cs ((callFunc g ((first++#[.func (.yield l) #[] #[]])++captured)).ar P none h)
      |none=>none
     |_=>none else none
    |_=>none
   | .inBlock _::k=>E8 s k
   | .inScope _::k=>E8 s k
   | .inLoop b::k=>E8 s (.code b::.inLoop b::k)
   | .beginRound::k=>match s.fr.round with
    |some l=>match(Instr.beginRound l).ar P none s.h with
     |some (_,h)=>some (.go {s with fr:={s.fr with todo:=k},h})
     |none=>none
    |none=>none
   | .endRangeFunc l::k=>match(Instr.endLoop l).ar P none s.h with
    |some (u,h)=>some (.go {s with fr:={s.fr with todo:=(u.map aS.code).toList++k},h})
    |none=>none
   | .region _ []::k=>E8 s k
   | .region e (i::_)::_=>match e[i]? with
    |some o=>if Region.wanted o (yielded e s.fr.tmps)then dn P s.fr s.cs (bV P c s.h s.fr.tmps o)else(aF P s.fr s.h undef).map fun f=>.go {s with fr:=f}
    |none=>none
   | .drawn _ []::k=>E8 s k
   | .drawn e ((i,again)::l)::k=>match e[i]? with
    |none=>none
    |some o=>match aI e i with
     | .effect=>if Region.wanted o (yielded e s.fr.tmps)then dn P s.fr s.cs (bV P c s.h s.fr.tmps o)else(aF P s.fr s.h undef).map fun f=>.go {s with fr:=f}
     |_=>match o.dst with
      |none=>none
      |some d=>if d<s.fr.tmps.size then
        if Region.wanted o (yielded e s.fr.tmps)then match o.op with
         | .alloc t=>match zeroOf P t with
          | some z=>if recheck P e again (s.fr.tmps.setIfInBounds d (.pointer (some ⟨s.h.n,0,none⟩))) (s.h.new (.cells z.cells t (0,0)))then
           some (.go {s with fr:={s.fr with tmps:=s.fr.tmps.setIfInBounds d (.pointer (some ⟨s.h.n,0,none⟩)),todo:=.drawn e l::k},h:=s.h.new (.cells z.cells t (0,0))})else none
          | none=>none
         | .buildSlice t n w=>match iY P (au s.fr.tmps) t n w with
          | some (p,cells)=>if bU o&&recheck P e again (s.fr.tmps.setIfInBounds d (.slice (some ⟨s.h.n,0,none⟩) n n)) (s.h.new (.cells cells p (0,0)))then
           some (.go {s with fr:={s.fr with tmps:=s.fr.tmps.setIfInBounds d (.slice (some ⟨s.h.n,0,none⟩) n n),todo:=.drawn e l::k},h:=s.h.new (.cells cells p (0,0))})else none
          | none=>none
         |_=>match fZ P s.h s.fr.tmps o with
          | some v=>some (.go {s with fr:={s.fr with tmps:=s.fr.tmps.setIfInBounds d v,todo:=.drawn e l::k}})
          | none=>none
        else some (.go {s with fr:={s.fr with tmps:=s.fr.tmps.setIfInBounds d undef,todo:=.drawn e l::k}})
       else none
   |_=>none
inductive FT(P:Program)(ρ:Env)(lo:Nat)(h:AH)(a:ak)(f:Frame):Prop
 | plain (k:F0 ρ a f)
 | ahead {ops:Array Oper} {l:List (Nat×List Nat)} {s:List Nat} (k:FD ρ lo h.n ops l s a f) (e:ZK P h ops l s a.tmps)
inductive H6(ρ:Env)(lo hi:Nat)(a:ak)(f:Frame):Prop
 | plain (k:F0 ρ a f)
 | ahead {ops:Array Oper} {i:Nat} {c:List Nat} {l:List (Nat×List Nat)} {s:List Nat} (k:FD ρ lo hi ops ((i,c)::l) (i::s) a f) (hk:aI ops i=.effect)
inductive Fa(ρ:Env):Nat->List ak->List Frame->Prop
 | nil {hi:Nat}:Fa ρ hi [] []
 | cons {lo hi:Nat} {a:ak} {f:Frame} {as:List ak} {fs:List Frame} (hlo:lo<=hi) (h:H6 ρ lo hi a f) (k:Fa ρ lo as fs):Fa ρ hi (a::as) (f::fs)
theorem H6.mono{ρ d:Env}{lo hi b:Nat}{a:ak}{f:Frame}(k:H6 ρ lo hi a f)(c:ρ.Le d)(hb:∀x,x<hi->d.born x->ρ.born x)(e:hi<=b):H6 d lo b a f:=by
 cases k with
 | plain k=>exact .plain (k.mono c)
 | ahead k g=>exact .ahead (k.mono c hb e) g
theorem Fa.mono{ρ c:Env}{hi a:Nat}{as:List ak}{e:List Frame}(k:Fa ρ hi as e)(d:ρ.Le c)(hb:∀x,x<hi->c.born x->ρ.born x)(f:hi<=a):Fa c a as e:=by
 induction k generalizing a with
 | nil=>exact .nil
 | cons b h _ g=>exact .cons (Nat.le_trans b f) (h.mono d hb f) (g (fun x i=>hb x (Nat.lt_of_lt_of_le i b)) (Nat.le_refl _))
theorem H6.base{ρ:Env}{b c:Nat}{a:ak}{f:Frame}(k:H6 ρ b c a f):FB ρ a f:=by
 cases k with
 | plain k=>exact k.toFB
 | ahead k _=>exact k.base
def dV(f:Frame)(cs:List Frame):Goroutine:={frame:=f,callers:=cs,status:=.running,dying:=none}
structure lU(P:Program)(ρ:Env)(O D:Nat->Prop)(base:List Frame)(s:AS)(g:Goroutine)(w:World):Prop where
 run:∃lo f cs,lo<=s.h.n/\g=dV f (cs++base)/\FT P ρ lo s.h s.fr f/\Fa ρ lo s.cs cs
 rel:Rel ρ O D s.h w
def Has(base:List Frame)(r:xU):Prop:=(∃v h,r=.ret v h)->base≠[]
def JE(P:Program)(a:Env)(O D:Nat->Prop)(base:List Frame):xU->Goroutine->World->Prop
 | .go s,g,w=>lU P a O D base s g w
 | .ret v h,g,w=>∃(b:Frame) (c:List Frame) (d:Value),base=b::c/\VR a v d/\g=dV (b.finish d) c/\Rel a O D h w
def vY(P:Program)(m:Bool)(X:Event->Prop)(e:Env)(O D:Nat->Prop)(base:List Frame)(g:Goroutine)(w:World)(r:xU):Prop:=
 ∃(b:Env) (c:Goroutine) (a:World) (d:Array Event),stepG P m g w=.go c a d/\aQ X O D w a d/\e.Le b/\JE P b (grow O w a) D base r c a
section
variable{P:Program}{b σ:Env}{O D:Nat->Prop}{h h':AH}{w w':World}{X:Event->Prop}{m:Bool}{base:List Frame}
theorem Rel.grow(r:Rel b O D h w):Rel b (grow O w w') D h w:=r.mono fun _=>.inl
theorem ctl{s:AS}{f:Frame}{cs:List Frame}{a':ak}{a:Frame}(c:stepG P m (dV f (cs++base)) w=.go (dV a (cs++base)) w #[]){d:Nat}(i:F0 b a' a)(e:d<=s.h.n)(g:Fa b d s.cs cs)(r:Rel b O D s.h w):
   vY P m X b O D base (dV f (cs++base)) w (.go {s with fr:=a'}):=
 ⟨b,_,w,#[],c,.none w,.refl b,⟨⟨d,a,cs,e,rfl,.plain i,g⟩,r.grow⟩⟩
theorem F0.JF{a:ak}{f:Frame}(h:F0 b a f){k:List aS}{d:List Item}(e:LR (AO b) k d):F0 b {a with todo:=k} {f with todo:=d}:=
 ⟨⟨h.fn,h.defers,h.mode,h.kind,h.round⟩,h.tmps,e⟩
theorem Fb{a r:ak}{f:Frame}{v v':Value}{H:AH}(h:F0 b a f)(t:VR b v v')(e:aF P a H v=some r):F0 b r (f.finish v'):=by
 unfold aF at e;have c:=h.todo
 split at e
 · rename_i u i rest k o;rw[o]at c;cases e;obtain⟨g,d,j,defers,n,kind,s⟩:=f
   dsimp only at c;cases c with
   |cons p q=>
    cases p;unfold Frame.finish;dsimp only
    refine⟨⟨h.fn,h.defers,h.mode,h.kind,h.round⟩,?_,.cons (.region _ _) q⟩;exact YB h.tmps _ t
 · rename_i l k o;rw[o]at c;cases e;obtain⟨g,d,j,defers,n,kind,s⟩:=f
   dsimp only at c;cases c with
   |cons p q=>cases p;exact⟨⟨h.fn,h.defers,h.mode,h.kind,h.round⟩,h.tmps,.cons (.endRangeFunc ‹_›) q⟩
 · rename_i k o;rw[o]at c;cases e;obtain⟨g,d,j,defers,n,kind,s⟩:=f
   dsimp only at c;cases c with
   |cons p q=>cases p;exact⟨⟨h.fn,h.defers,h.mode,h.kind,h.round⟩,h.tmps,q⟩
 · rename_i o;rw[o]at c;generalize f.todo=z at c
   cases c with
   |cons p _=>cases p
 · cases e
theorem kL{d g:Nat}{a j:ak}{f:Frame}{v v':Value}(r:H6 b d g a f)(t:g<=h.n)(o:VR b v v')(e:aF P a h v=some j):FT P b d h j (f.finish v'):=by
 cases r with
 | plain k=>exact .plain (Fb k o e)
 | @ahead u i c l s k y=>
   obtain⟨B,C,p,E,F⟩:=k.todo
   unfold aF at e;rw[p]at e;dsimp only at e;split at e
   ·rename_i z;cases e;have q:=k.effect (v:=v) (v':=v') p o
    exact .ahead (q.mono (.refl b) (fun x _ A=>A) t) (q.eqs k.ord (by rw[y];exact fun x=>by cases x) z.2)
   ·cases e
theorem Fe{ops:Array Oper}{a c:Array Value}(h:AR (VR b) a c):yielded ops c=yielded ops a:=by
 funext j;unfold yielded;cases (ops[j]?).bind (·.dst)with
 | none=>rfl
 | some d=>
   have:=h.get d
   simp only[Option.bind_some]
   revert this;generalize a[d]?=x
   generalize c[d]?=y
   intro this;cases this with
   |none=>rfl
   |some h=>cases h<;>rfl
end
end Go.Am
namespace Go.Am
open Go.Ren (grow gp aQ az)
section
variable{P:Program}{i A:Env}{O D:Nat->Prop}{h C:AH}{w B:World}{X:Event->Prop}{m:Bool}{base:List Frame}
theorem yE{b:Type}{s:Sem b}{r:Result b}{c:Array Event}(d:∀a,s.runT P w a=(r,a++c)):s.run P w=r/\s.events P w #[]=c:=by
 have:=d #[]
 rw[Sem.runT_eq]at this;simp only[Prod.mk.injEq]at this;exact⟨this.1,by simpa using this.2⟩
theorem oW{k:CallKind}(h:k≠.early):(k==CallKind.early)=false:=by cases k<;>first|rfl|exact absurd rfl h
theorem kF{b:Frame}{cs:List Frame}{s:Sem Next}{v:Value}{c:Array Event}(d:b.kind≠.early)(e:∀a,s.runT P w a=(.ok (.value v) B,a++c)):stepG.apply P true b cs none s w=.go (dV (b.finish v) cs) B (seen P b.fn c):=by
 obtain⟨f,g⟩:=yE e
 have j:=oW d
 simp[stepG.apply,f,g,j,GStep.after,dV]
theorem NH{b:Frame}{c:List Frame}{s:Sem Next}{d:Array Event}(e:b.kind≠.early)(f:∀a,s.runT P w a=(.ok .skip B,a++d)):stepG.apply P true b c none s w=.go (dV (b.finish undef) c) B (seen P b.fn d):=by
 obtain⟨g,j⟩:=yE f
 have k:=oW e
 simp[stepG.apply,g,j,k,GStep.after,dV]
theorem yX{b:Frame}{cs:List Frame}{s:Sem Next}{f:FuncId}{args:Array Value}{c:Array Event}(e:b.kind≠.early)(g:∀d x y k,b.todo≠.call d true x y::k)(j:∀a,s.runT P w a=(.ok (.enter f args) B,a++c)):
   stepG.apply P true b cs none s w=.go (dV (Frame.enter P f args .normal) (b::cs)) B (seen P b.fn c):=by
 obtain⟨l,n⟩:=yE j
 have:(match b.todo with|.call _ true _ _::_=>CallKind.wrapped|_=>.normal)=.normal:=by
   split
   ·rename_i o;exact absurd o (g _ _ _ _)
   ·rfl
 simp[stepG.apply,l,n,e,GStep.after,dV]
theorem JG{b:Frame}{c:List Frame}{s:Sem Next}{l:Nat}{f:FuncId}{t:Array Value}{x y:Code}{d:Array Event}(e:b.kind≠.early)(g:∀a,s.runT P w a=(.ok (.round l f t x y) B,a++d)):
   stepG.apply P true b c none s w=.go (dV (Frame.round l f t x y .normal) (b::c)) B (seen P b.fn d):=by
 obtain⟨j,k⟩:=yE g
 have n:=oW e
 simp[stepG.apply,j,k,n,GStep.after,dV]
theorem wH{k:List aS}{b:List Item}(h:LR (AO i) k b):∀d x y z a,b≠.call d x y z::a:=by
 intro d x y z a e;subst e;cases h with
 | cons h _=>cases h
theorem H6.wH{c g:Nat}{a:ak}{f:Frame}(h:H6 i c g a f):∀d x y z b,f.todo≠.call d x y z::b:=by
 cases h with
 | plain h=>exact Go.Am.wH h.todo
 | ahead k _=>
   obtain⟨_,_,_,j,_⟩:=k.todo
   intro d x y z b e;rw[j]at e;cases e
theorem Au{a:ak}{f:Frame}{J:List ak}{c:List Frame}{U:Sem Next}{s:Nat}(L:H6 i s h.n a f)(M:s<=h.n)(N:Fa i s J c){n:Next}{r:xU}(e:dn P a J (some (n,C))=some r)
   (k:Out P X D NR i O h w U n C):∃(p:Env) (V:Goroutine) (B:World) (z:Array Event),stepG.apply P true f (c++base) none U w=.go V B z/\aQ X O D w B z/\i.Le p/\JE P p (grow O w B) D base r V B:=by
 obtain⟨p,n',B,z,E,u,Z,F,h5,W,h7⟩:=k
 have Y:∀x,x<h.n->p.born x->i.born x:=fun x Q R=>((h7 x).1 R).elim id fun y=>by omega
 have H:aQ X O D w B (seen P f.fn z):=h5.less (sW f.fn z)
 have q:=L.mono u Y W
 have j:Fa p s J c:=N.mono u (fun x Q=>Y x (by omega)) (Nat.le_refl _)
 have o:s<=C.n:=Nat.le_trans M W
 have b:=L.base.ne
 cases Z with
 | @value v v' hv=>
   simp only[dn,Option.map_eq_some_iff]at e;obtain⟨a',T,rfl⟩:=e
   exact⟨p,_,B,_,kF b E,H,u,⟨⟨s,_,c,o,rfl,kL q (Nat.le_refl _) hv T,j⟩,F⟩⟩
 | skip=>
   simp only[dn,Option.map_eq_some_iff]at e;obtain⟨a',T,rfl⟩:=e
   exact⟨p,_,B,_,NH b E,H,u,⟨⟨s,_,c,o,rfl,kL q (Nat.le_refl _) jF T,j⟩,F⟩⟩
 | @enter g x x' Q=>simp only[dn,Option.some.injEq]at e;subst e;exact⟨p,_,B,_,yX b (fun d x y k=>L.wH d true x y k) E,H,u,⟨⟨C.n,_,f::c,Nat.le_refl _,rfl,.plain (Aa g Q),.cons o q j⟩,F⟩⟩
 | @round l l' g t t' x y hl ht=>simp only[dn,Option.some.injEq]at e;subst e;exact⟨p,_,B,_,JG b E,H,u,⟨⟨C.n,_,f::c,Nat.le_refl _,rfl,.plain (abz hl g ht x y),.cons o q j⟩,F⟩⟩
 | odd=>simp only[dn]at e;cases e
theorem P7{a:ak}{f:Frame}(b:AR (VR i) a.tmps f.tmps){o:Oper}(c:bU o=true):∀x∈o.op.operands,VR i (au a.tmps x) (f.eval x):=afB c b (MJ f)
theorem Zv{a:ak}{f:Frame}(c:AR (VR i) a.tmps f.tmps){x:Operand}(b:FP x=true):VR i (au a.tmps x) (f.eval x):=by
 cases x with
 | tmp t=>exact xA c t
 | const v=>exact(gQ b).vr i
 | _=>cases b
theorem P8{a:Bool}{b:List ak}{v:Value}{r:xU}(e:uF P a b v h=some r):a=false/\uF P false b v h=some r:=by
 cases a with
 | true=>simp[uF]at e
 | false=>exact⟨rfl,e⟩
theorem CX{f:Frame}{o:List ak}{a:List Frame}{v g:Value}{r:xU}{q:Nat}(s:f.kind=.normal)(j:q<=h.n)(d:Fa i q o a)(t:VR i v g)(k:Rel i O D h w)(hb:Has base r)(e:uF P false o v h=some r):∃u,doReturn P m f (a++base) none g w=.go u w #[]/\JE P i O D base r u w:=by
 cases d with
 | nil=>
   simp only[uF,Bool.false_eq_true,if_false,Option.some.injEq]at e;subst e;cases base with
   |nil=>exact absurd rfl (hb ⟨_,_,rfl⟩)
   |cons b x=>refine⟨dV (b.finish g) x,?_,b,x,g,rfl,t,rfl,k⟩;simp[doReturn,s,dV]
 | @cons p _ c y o a l z d=>
   simp only[uF,Bool.false_eq_true,if_false,Option.map_eq_some_iff]at e;obtain⟨F,E,rfl⟩:=e
   refine⟨dV (y.finish g) (a++base),?_,⟨⟨p,_,a,Nat.le_trans l j,rfl,kL z j t E,d⟩,k⟩⟩;simp[doReturn,s,dV]
theorem JH{l c:Nat}(j:Option Code)(d:i.ob l c):SR P VR i (Instr.endRound l j) (Instr.endRound c j):=by
 unfold Instr.endRound;refine(nG d).bnd fun A b r e a=>?_
 exact .setObj (b.ob d) (.loop ⟨rfl,rfl,a.fn,a.tmps,a.params,a.assign,a.body,a.defers⟩) (.pure (.bool _))
theorem DZ{l c:Nat}(d:i.ob l c):SR P Same i (Instr.beginRound l) (Instr.beginRound c):=by
 unfold Instr.beginRound;refine(nG d).bnd fun A b r e a=>?_
 refine .setObj (b.ob d) (.loop ⟨rfl,a.pending,a.fn,a.tmps,a.params,a.assign,a.body,a.defers⟩) ?_;rw[a.state];cases r.state with
 | ready=>exact .pure rfl
 | _=>exact(show SR P Same A (runtimePanic (.error _):Sem Unit) (runtimePanic (.error _))from .yl)
theorem NI{l c:Nat}(d:i.ob l c):SR P Same i (Instr.endLoop l) (Instr.endLoop c):=by
 unfold Instr.endLoop;refine(nG d).bnd fun A b r e a=>?_
 rw[a.state,a.pending];dsimp only
 split
 · exact .dead (mJ _ (dm _))
 · exact .setObj (b.ob d) (.loop ⟨rfl,rfl,a.fn,a.tmps,a.params,a.assign,a.body,a.defers⟩) (.pure rfl)
theorem zY{l a:Nat}(b:i.ob l a):SR P (fun A=>LR (DR A)) i (Instr.takeDeferred l) (Instr.takeDeferred a):=by
 unfold Instr.takeDeferred;refine .getObj b fun o d c=>?_
 cases c with
 | deferred h=>exact .setObj b .taken (.pure h)
 | _=>exact .dead fun _ _=>rfl
theorem He(fn:FuncId){t g:Array Value}(u:AR (VR i) t g)(params:Array Tmp)(x y:Code){r j:Option Nat}(n:fH i.ob r j):SR P (fun A p q=>A.ob p.1 q.1/\LR (DR A) p.2 q.2) i (Instr.enterLoop fn t params x y r) (Instr.enterLoop fn g params x y j):=by
 unfold Instr.enterLoop;have b:∀(A:Env) (d c:Nat) (k o:List Deferred),i.Le A->A.ob d c->LR (DR A) k o->SR P (fun A p q=>A.ob p.1 q.1/\LR (DR A) p.2 q.2) A
    (do pure (←newObj (.loop {state:=.ready,pending:=none,fn,tmps:=t,params,assign:=x,body:=y,defers:=d}),k):Sem (Nat×List Deferred)) (do pure (←newObj (.loop {state:=.ready,pending:=none,fn,tmps:=g,params,assign:=x,body:=y,defers:=c}),o):Sem (Nat×List Deferred)):=by
   intro A d c k o a hd v;refine .new (.obj (.loop ⟨rfl,rfl,rfl,u.mono fun _ _ z=>z.mono a,rfl,rfl,rfl,hd⟩)) fun F s r j n=>.pure ⟨n,v.mono fun _ _ z=>z.mono s⟩
 cases n with
 | none=>
   dsimp only
   refine .new (.obj (.deferred .nil)) fun A a d c hd=>?_
   exact b A d c _ _ a hd (.cons ⟨.collected hd,.empty⟩ .nil)
 | some h=>
   dsimp only
   refine(nG h).bnd fun A a l H E=>?_
   exact b A _ _ _ _ a E.defers .nil
theorem BZ(n:Func){t f:Array Value}(g:AR (VR i) t f):SR P VR i (results n t) (results n f):=by
 unfold results;refine SR.bnd (R:=fun A=>AR (VR A)) ?_ fun A d a b c=>.aT ?_
 · rw[Array.mapM_eq_mapM_toList,Array.mapM_eq_mapM_toList];refine SR.bnd (R:=fun A=>LR (VR A)) ?_ fun A d a b c=>.aT c.arr;have:∀(l:List ResultVar) (i:Env),AR (VR i) t f->SR P (fun A=>LR (VR A)) i (l.mapM fun|.tmp x=>Pure.pure (t.getD x undef)|.cell a u=>do loadVar u (←asAddr (t.getD a undef))) (l.mapM fun|.tmp x=>Pure.pure (f.getD x undef)|.cell a u=>do loadVar u (←asAddr (f.getD a undef))):=by
    intro l;induction l with
    |nil=>intro i _;exact .aT .nil
    |cons x l p=>
     intro i g;rw[List.mapM_cons,List.mapM_cons];refine SR.bnd (R:=VR) ?_ fun A d v y q=>?_
     ·cases x with
      |tmp x=>exact .aT (xA g x)
      |cell a u=>exact(yw (xA g a)).bnd fun A _ a E h=>by obtain⟨e,rfl⟩:=h;exact pY u e
     ·exact(p A (g.mono fun _ _ z=>z.mono d)).bnd fun F k l H s=>.aT (.cons (q.mono k) s)
   exact this _ _ g
 · by_cases e:a.size=1
   ·have j:b.size=1:=c.1▸e
    rw[dif_pos e,dif_pos j];exact c.2 0 _ _ (by simp[e]) (by simp[j])
   ·have j:¬b.size=1:=c.1▸e
    rw[dif_neg e,dif_neg j];exact ng c
end
end Go.Am
namespace Go.Am
open Go.Ren (grow gp aQ az)
section
variable{P:Program}{a d:Env}{O D:Nat->Prop}{h b:AH}{w w':World}{X:Event->Prop}
theorem Ur[aP P](s:Rel a O D h w){g:Array Value}{k:Operand->Value}{o:Oper}(C:bU o=true->∀x∈o.op.operands,VR a (au g x) (k x))(l:cu o=true){n:Next}(e:P6 P h g o=some (n,b)):
   Out P X D NR a O h w (execOp k o) n b:=by
 unfold P6 at e;split at e;rotate_left
 · cases e
 rename_i c i;split at e;rotate_left
 · cases e
 rename_i p q t;split at e;rotate_left
 · cases e
 rename_i u;simp only[Option.map_eq_some_iff]at e;obtain⟨⟨v,A⟩,E,F⟩:=e
 cases F;have m:=C u
 have r:c.callee=.builtin .append:=by
   unfold cu at l;rw[i]at l;obtain⟨callee,args,types⟩:=c
   dsimp only at l⊢;split at l
   ·rename_i H;cases H;rfl
   ·cases l
 have f:c.args=#[p,q]:=by
   have:=congrArg List.toArray t
   simpa using this
 have J:VR a (au g p) (k p):=m p (by rw[i];simp[Op.operands,Call.operands,f])
 have L:VR a (au g q) (k q):=m q (by rw[i];simp[Op.operands,Call.operands,f])
 have y:execOp k o=(Builtin.append_ c.argTypes o.type #[k p,k q]).bind fun v=>Sem.pure (.value v):=by
   unfold execOp;rw[i];dsimp only
   unfold resolve;rw[r];dsimp only
   rw[f];simp only[List.map_toArray,List.map_cons,List.map_nil]
   rfl
 rw[y];exact(NG s J L E).EZ fun d N B M z j=>.JC j (.value z)
theorem Ff[aP P](g:Rel a O D h w){f:Array Value}{m:Operand->Value}{o:Oper}(p:bU o=true->∀x∈o.op.operands,VR a (au f x) (m x)):
   ∃c:Nat,∀{n:Next} {b:AH},bV P (some c) h f o=some (n,b)->Out P X D NR a O h w (execOp m o) n b:=by
 by_cases j:cu o=true
 · refine⟨0,fun e=>?_⟩;unfold bV at e;rw[if_pos j]at e;exact Ur g p j e
 · by_cases l:(bU o&&kZ P h (au f) o)=true
   ·have i:=l
    simp only[Bool.and_eq_true]at i;obtain⟨c,k⟩:=(PO g o (p i.1) i.2).ai3 (X:=X) g;refine⟨c,fun e=>?_⟩;unfold bV at e;rw[if_neg j,if_pos l]at e;exact k e
   ·refine⟨0,fun e=>?_⟩;unfold bV at e;rw[if_neg j,if_neg l]at e;cases e
theorem JI{c:Option Nat}{f:Array Value}{o:Oper}{r:Next×AH}(e:bV P c h f o=some r):∀q,o.op≠.defer q:=by
 intro q g;unfold bV at e;split at e
 · unfold P6 at e;rw[g]at e;cases e
 · split at e
   ·rename_i i;simp only[Bool.and_eq_true]at i;have:=i.2;unfold kZ at this;rw[g]at this;cases this
   ·cases e
end
end Go.Am
