import Derived.Test.YtkgmngkagkoepaaGreatH26
import Derived.Test.YtkgmngkagkoepaaGreatH27
import Derived.Test.YtkgmngkagkoepaaGreatH28
import Derived.Test.YtkgmngkagkoepaaGreatH29
set_option linter.all false
namespace Go.Am
open Go.Proofs
theorem StL.cons{ro:Bool}{N m:Nat}{L:List (Nat×aY)}{c:Array Value}{e f u:Nat}(S:StL m L)(h:m<=N)(b:∀x∈c,Plain x):StL (N+1) ((N,⟨.cells c e (0,0),some f,ro,u⟩)::L):=by
 refine⟨fun p a=>?_,fun p a=>?_,?_⟩
 ·rcases List.mem_cons.1 a with rfl|a
  ·exact Nat.lt_succ_self N
  ·have:=S.lt p a;omega
 ·rcases List.mem_cons.1 a with rfl|a
  ·exact⟨c,_,_,rfl,b⟩
  ·exact S.plain p a
 ·simp only[List.map_cons,List.nodup_cons]
  refine⟨fun d=>?_,S.nodup⟩;obtain⟨p,g,i⟩:=List.mem_map.1 d;have:=S.lt p g
  omega
theorem ax(l:List Int):∀x∈(⟨l.map fun n=>zJ n⟩:Array Value),Plain x:=fun x a=>by
 simp only[List.mem_toArray,List.mem_map]at a;obtain⟨n,_,rfl⟩:=a
 exact .int _ _
theorem bM(a b:Int):Plain (.tuple ⟨[zJ a,zJ b]⟩):=oO (.int _ _) (.int _ _)
theorem CE{u v w:Array Value}{y:Option Addr}{ck:Nat}{d:List Int}(h:∀x∈u,Plain x)(j:∀x∈v,Plain x)(o:∀x∈w,Plain x)(b:rD 3 d.length y)(c:∀n∈d,0<=n/\n<=65535):
  aX Tryz.prog ⟨34,fun a _=>[iD a 1],4,fun _=>L4 u v w ⟨rC d⟩,fun A=>⟨[.slice y d.length ck,zJ (A.headD 0)]⟩,fun _=>True,fun _ x=>(0<=x/\x<=65535),fun _ x=>zJ x⟩:=by
 refine⟨fun p _=>?_,fun _ _=>jr h j o (fun x g=>jd d x (by simpa using g)),fun p x g=>?_,fun _ _ x _=>.int _ _⟩
 ·dsimp only
  generalize p.headD 0=k
  match d,b,c with
  | [],b,c=>exact aft
  |n::r,b,c=>
   obtain rfl:=b.1 (by simp);refine ahU fun i f=>?_
   have q:∀(l:List Int) (i:Nat),i<l.length->nth (rC l) i=some (.int .u16 (l.getD i 0))/\l.getD i 0∈l:=by
    intro l;induction l with
    |nil=>intro i f;exact absurd f (Nat.not_lt_zero _)
    |cons a l B=>
     intro i f;cases i with
     |zero=>exact⟨rfl,by simp⟩
     |succ i=>
      obtain⟨s,t⟩:=B i (by simpa using f)
      have e:(a::l).getD (i+1) 0=l.getD i 0:=by simp[List.getD]
      rw[e];exact⟨s,.tail _ t⟩
   obtain⟨s,t⟩:=q (n::r) i f
   exact⟨_,s,c _ t⟩
 ·simp only[List.mem_toArray,List.mem_cons,List.not_mem_nil,or_false]at g;rcases g with rfl|rfl
  ·exact b.ok (m:=4) (by decide)
  ·exact .int _ _
theorem SA{q:Nat->Prop}{a b c d e:Int}:l7 q (.agg ⟨[zJ a,zJ b,zJ c,zJ d,zJ e]⟩):=by
 refine .agg fun y f=>?_
 simp only[List.mem_toArray,List.mem_cons,List.not_mem_nil,or_false]at f;rcases f with rfl|rfl|rfl|rfl|rfl<;>exact .int _ _
theorem SB{q:Nat->Prop}{v w:Value}(h:l7 q v)(k:l7 q w):l7 q (.tuple ⟨[v,w,zJ 0]⟩):=by
 refine .tuple fun y a=>?_
 simp only[List.mem_toArray,List.mem_cons,List.not_mem_nil,or_false]at a;rcases a with rfl|rfl|rfl
 ·exact h
 ·exact k
 ·exact .int _ _
theorem mem2{c:Type}{a b x:c}(h:x∈(⟨[a,b]⟩:Array c)):x=a∨x=b:=by simpa using h
theorem mem3{d:Type}{a b c x:d}(h:x∈(⟨[a,b,c]⟩:Array d)):x=a∨x=b∨x=c:=by simpa using h
theorem SC{e:Type}{a b c d x:e}(h:x∈(⟨[a,b,c,d]⟩:Array e)):x=a∨x=b∨x=c∨x=d:=by simpa using h
theorem hz0{b:Nat}:rD 0 b (some ⟨0,0,none⟩):=⟨fun _=>rfl,fun a e=>by cases e;rfl⟩
theorem yL:aX Tryz.prog ⟨45,fun a _=>[iD a 0],0,fun _=>[],fun b=>⟨[zJ (b.headD 0)]⟩,fun b=>0<=b.headD 0/\b.headD 0<=4000000,fun b x=>x=rt (b.headD 0),fun _ x=>zJ x⟩:=by
 refine⟨fun p d=>(Q5 _ d.1 d.2).mono fun v _ ⟨r,c,e⟩=>⟨r,acI ⟨c.1,c.2.2.1,c.2.2.2⟩,e⟩,fun _ _=>⟨by simp,by simp,by simp⟩,fun p x f=>?_,fun _ _ x _=>.int _ _⟩;rw[mem1 f];exact .int _ _
section
variable{ag h0 hl:Int}{n:Option Addr}{cp cs:Nat}{s tc t:Array Value}{g:List (Int×Int×Bool)}(j:∀x∈s,Plain x)(k:∀x∈tc,Plain x)(l:∀x∈t,Plain x)(i:rD 2 g.length n)(v:0<=ag/\ag<=20)(w:0<=h0/\hl<=959)(o:V3 h0 hl g)
include j k l i v
omit v in
theorem aid{y z A H B q1 C D E:Int}(J:0<=ag/\ag<=20/\0<=y/\C<=959/\y<H/\H<C/\0<=z/\z<=A/\A<=959/\A-z<3/\0<=B/\B<=q1/\q1<=959/\q1-B<3/\0<=D/\D<=E/\E<=959/\E-D<3)(h:V3 y C g):
  aX Tryz.prog ⟨87,fun _ _=>[],28,fun _=>((27,⟨.cells ⟨[zJ y,zJ z,zJ A,zJ H,zJ B,zJ q1,zJ C,zJ D,zJ E]⟩ 37 (0,0),some 22,true,3⟩):Nat×aY)::L4 s tc ⟨encS g⟩ t,fun _=>⟨[(bo 27 3 ag n g.length cs)]⟩,fun _=>True,fun _ x=>x=0,fun _ x=>zJ x⟩:=by
 have F:=(jr (tc:=tc) (sc:=⟨encS g⟩) j k (fun x L=>aB g x (by simpa using L)) l).cons (N:=27) (e:=37) (f:=22) (u:=3) (ro:=true) (by decide) (ax [y,z,A,H,B,q1,C,D,E]);have m:∀(p:List Int),∀x∈(⟨[(bo 27 3 ag n g.length cs)]⟩:Array Value),l7 (· <28) x:=fun p x L=>by rw[mem1 L];exact vO (by decide) (by decide) i
 refine⟨fun p _=>?_,fun _ _=>F,m,fun _ _ x _=>.int _ _⟩;refine abb ⟨J.1,J.2.1⟩ (aO ⟨fun _ _=>aa9 J,fun _ _=>F,m,fun _ _ x _=>.int _ _⟩ (aO ⟨fun _ _=>aba,fun _ _=>F,m,fun _ _ x _=>.int _ _⟩ (aO ⟨fun _ _=>?_,fun _ _=>F,m,fun _ _ x _=>.int _ _⟩ bI)));clear m F;match g,i,h with
 | [],q,h=>exact Yc h.2
 | [(M,O,P)],q,h=>obtain rfl:=q.1 (by simp);exact Yd h.2
 | [(M,O,P),(Q,R,T)],q,h=>obtain rfl:=q.1 (by simp);exact Ye h.2
 | [(M,O,P),(Q,R,T),(W,X,Y)],q,h=>obtain rfl:=q.1 (by simp);exact Yf h.2
 |a::b::c::d::r,q,h=>exact absurd h.1 (by simp)
omit v in
theorem YC{a b c A d q1 e f r u y z:Int}(C:0<=ag/\ag<=20/\0<=a/\e<=959/\a<A/\A<e/\0<=b/\b<=c/\c<=959/\c-b<3/\0<=d/\d<=q1/\q1<=959/\q1-d<3/\0<=f/\f<=r/\r<=959/\r-f<3)(D:0<=u/\u<=959/\0<=y/\y<=959/\0<=z/\z<=959)(E:V3 a e g):
  aX Tryz.prog ⟨35,fun _ _=>[],33,fun _=>((32,⟨.cells ⟨[zJ u,zJ y,zJ z]⟩ 3 (0,0),some 30,true,1⟩):Nat×aY)::((27,⟨.cells ⟨[zJ a,zJ b,zJ c,zJ A,zJ d,zJ q1,zJ e,zJ f,zJ r]⟩ 37 (0,0),some 22,true,3⟩):Nat×aY)::L4 s tc ⟨encS g⟩ t,fun _=>⟨[(bo 27 3 ag n g.length cs),zS 32 3 3]⟩,fun _=>True,fun _ x=>x=0,fun _ _=>.tuple ⟨[(bo 27 3 ag n g.length cs),.agg ⟨[zJ u,zJ y,zJ z,zJ 0,zJ 0]⟩,zJ 0]⟩⟩:=by
 refine⟨fun p _=>aa5 C D (aO (aid j k l i C E) bI),fun _ _=>((jr (tc:=tc) (sc:=⟨encS g⟩) j k (fun x B=>aB g x (by simpa using B)) l).cons (N:=27) (by decide) (ax [a,b,c,A,d,q1,e,f,r])).cons (by decide) (ax [u,y,z]),fun p x B=>?_,fun q p x h=>SB (h _ (by simp)) SA⟩;rcases mem2 B with rfl|rfl
 ·exact vO (m:=33) (by decide) (by decide) i
 ·exact .slice (show 32<33 by decide)
omit j k l i v in
theorem SE{p:List Int}(h:XU h0 hl p):∃f m a b q c q1 r d e u y z,p=[f,m,a,b,q,c,q1,r,d,e,u,y,z]/\h0<=f/\f<=hl/\m=h0/\r=hl/\m<q/\q<r/\0<=a/\a<=b/\b<=959/\b-a<3/\0<=c/\c<=q1/\q1<=959/\q1-c<3/\0<=d/\d<=e/\e<=959/\e-d<3/\0<=u/\u<=959/\0<=y/\y<=959/\0<=z/\z<=959:=by
 unfold XU at h;split at h
 ·exact⟨_,_,_,_,_,_,_,_,_,_,_,_,_,rfl,h⟩
 ·exact h.elim
include w o in
theorem aie:aX Tryz.prog (acV h0 hl ag g.length cs s tc ⟨encS g⟩ t n):=by
 refine⟨fun p a=>?_,fun p a=>((jr (tc:=tc) (sc:=⟨encS g⟩) j k (fun x b=>aB g x (by simpa using b)) l).cons (N:=27) (by decide) (ax _)).cons (by decide) (ax _),fun p x b=>?_,fun _ _ x _=>(bM _ _).okV⟩
 ·obtain⟨J,q,c,d,r,e,q1,u,f,h,y,z,A,rfl,B⟩:=SE (h0:=h0) (hl:=hl) a
  obtain⟨E,F,rfl,rfl,B⟩:=B
  have C:0<=ag/\ag<=20/\0<=q/\u<=959/\q<r/\r<u/\0<=c/\c<=d/\d<=959/\d-c<3/\0<=e/\e<=q1/\q1<=959/\q1-e<3/\0<=f/\f<=h/\h<=959/\h-f<3:=by omega
  have D:0<=y/\y<=959/\0<=z/\z<=959/\0<=A/\A<=959:=by omega
  exact aa6 C D ⟨E,F⟩ (aO (YC j k l i C D o) bI)
 rcases mem3 b with rfl|rfl|rfl
 ·exact vO (m:=33) (by decide) (by decide) i
 ·exact .slice (show 32<33 by decide)
 ·exact .int _ _
omit j k l i v in
theorem SG{p:List Int}(h:XV h0 hl p):∃f a b m c q1 q d e r u y,p=[f,a,b,m,c,q1,q,d,e,r,u,y]/\f=h0/\q=hl/\f<m/\m<q/\0<=a/\a<=b/\b<=959/\b-a<3/\0<=c/\c<=q1/\q1<=959/\q1-c<3/\0<=d/\d<=e/\e<=959/\e-d<3/\0<=r/\r<=959/\0<=u/\u<=959/\0<=y/\y<=959:=by
 unfold XV at h;split at h
 ·exact⟨_,_,_,_,_,_,_,_,_,_,_,_,rfl,h⟩
 ·exact h.elim
include w o in
theorem aif:aX Tryz.prog (acW h0 hl ag g.length cs s tc ⟨encS g⟩ t n):=by
 refine⟨fun p a=>?_,fun p a=>((jr (tc:=tc) (sc:=⟨encS g⟩) j k (fun x b=>aB g x (by simpa using b)) l).cons (N:=27) (by decide) (ax _)).cons (by decide) (ax _),fun p x b=>?_,fun _ _ x _=>(bM _ _).okV⟩
 ·obtain⟨q,c,d,r,e,q1,u,f,h,y,z,A,rfl,B⟩:=SG (h0:=h0) (hl:=hl) a
  obtain⟨rfl,rfl,B⟩:=B
  have C:0<=ag/\ag<=20/\0<=q/\u<=959/\q<r/\r<u/\0<=c/\c<=d/\d<=959/\d-c<3/\0<=e/\e<=q1/\q1<=959/\q1-e<3/\0<=f/\f<=h/\h<=959/\h-f<3:=by omega
  have D:0<=y/\y<=959/\0<=z/\z<=959/\0<=A/\A<=959:=by omega
  exact aa7 C D (aO (YC j k l i C D o) bI)
 rcases mem2 b with rfl|rfl
 ·exact vO (m:=33) (by decide) (by decide) i
 ·exact .slice (show 32<33 by decide)
omit j k l i v in
theorem SH{p:List Int}(h:XW h0 hl p):∃f a b m c q1 q d e r u y,p=[f,a,b,m,c,q1,q,d,e,r,u,y]/\f=h0/\q=hl/\f<m/\m<q/\0<=a/\a<=b/\b<=959/\b-a<3/\0<=c/\c<=q1/\q1<=959/\q1-c<3/\0<=d/\d<=e/\e<=959/\e-d<3/\0<=r/\r<=959/\0<=u/\u<=959/\0<=y/\y<=959:=by
 unfold XW at h;split at h
 ·exact⟨_,_,_,_,_,_,_,_,_,_,_,_,rfl,h⟩
 ·exact h.elim
include w o in
theorem aih:aX Tryz.prog (acX h0 hl ag g.length cs s tc ⟨encS g⟩ t n):=by
 refine⟨fun p a=>?_,fun p a=>((jr (tc:=tc) (sc:=⟨encS g⟩) j k (fun x b=>aB g x (by simpa using b)) l).cons (N:=27) (by decide) (ax _)).cons (by decide) (ax _),fun p x b=>?_,fun _ _ x _=>(bM _ _).okV⟩
 ·obtain⟨q,c,d,r,e,q1,u,f,h,y,z,A,rfl,B⟩:=SH (h0:=h0) (hl:=hl) a
  obtain⟨rfl,rfl,B⟩:=B
  have C:0<=ag/\ag<=20/\0<=q/\u<=959/\q<r/\r<u/\0<=c/\c<=d/\d<=959/\d-c<3/\0<=e/\e<=q1/\q1<=959/\q1-e<3/\0<=f/\f<=h/\h<=959/\h-f<3:=by omega
  have D:0<=y/\y<=959/\0<=z/\z<=959/\0<=A/\A<=959:=by omega
  exact aa8 C D (aO (YC j k l i C D o) (aO yL bI))
 rcases SC b with rfl|rfl|rfl|rfl
 ·exact vO (m:=33) (by decide) (by decide) i
 ·exact .slice (show 32<33 by decide)
 ·exact .int _ _
 ·exact .int _ _
omit v in
theorem aii{y z A L B q1 M C D E F H:Int}(O:0<=ag/\ag<=20/\0<=y/\E<=959/\y<L/\L<M/\M<E/\0<=z/\z<=A/\A<=959/\A-z<3/\0<=B/\B<=q1/\q1<=959/\q1-B<3/\0<=C/\C<=D/\D<=959/\D-C<3/\0<=F/\F<=H/\H<=959/\H-F<3)(h:V3 y E g):
  aX Tryz.prog ⟨87,fun _ _=>[],31,fun _=>((30,⟨.cells ⟨[zJ y,zJ z,zJ A,zJ L,zJ B,zJ q1,zJ M,zJ C,zJ D,zJ E,zJ F,zJ H]⟩ 37 (0,0),some 25,true,3⟩):Nat×aY)::L4 s tc ⟨encS g⟩ t,fun _=>⟨[(bo 30 4 ag n g.length cs)]⟩,fun _=>True,fun _ x=>x=0,fun _ x=>zJ x⟩:=by
 have J:=(jr (tc:=tc) (sc:=⟨encS g⟩) j k (fun x P=>aB g x (by simpa using P)) l).cons (N:=30) (e:=37) (f:=25) (u:=3) (ro:=true) (by decide) (ax [y,z,A,L,B,q1,M,C,D,E,F,H]);have m:∀(p:List Int),∀x∈(⟨[(bo 30 4 ag n g.length cs)]⟩:Array Value),l7 (· <31) x:=fun p x P=>by rw[mem1 P];exact vO (by decide) (by decide) i
 refine⟨fun p _=>?_,fun _ _=>J,m,fun _ _ x _=>.int _ _⟩;refine abk ⟨O.1,O.2.1⟩ (aO ⟨fun _ _=>abh O,fun _ _=>J,m,fun _ _ x _=>.int _ _⟩ (aO ⟨fun _ _=>abj,fun _ _=>J,m,fun _ _ x _=>.int _ _⟩ (aO ⟨fun _ _=>?_,fun _ _=>J,m,fun _ _ x _=>.int _ _⟩ bI)));clear m J;match g,i,h with
 | [],q,h=>exact Yg h.2
 | [(Q,R,T)],q,h=>obtain rfl:=q.1 (by simp);exact Yh h.2
 | [(Q,R,T),(U,V,W)],q,h=>obtain rfl:=q.1 (by simp);exact Yi h.2
 | [(Q,R,T),(U,V,W),(Z,b2,w2)],q,h=>obtain rfl:=q.1 (by simp);exact Yj h.2
 |a::b::c::d::r,q,h=>exact absurd h.1 (by simp)
omit v in
theorem YD{a b c D d q1 E e f r u y z A B C:Int}(H:0<=ag/\ag<=20/\0<=a/\r<=959/\a<D/\D<E/\E<r/\0<=b/\b<=c/\c<=959/\c-b<3/\0<=d/\d<=q1/\q1<=959/\q1-d<3/\0<=e/\e<=f/\f<=959/\f-e<3/\0<=u/\u<=y/\y<=959/\y-u<3)(J:0<=z/\z<=959/\0<=A/\A<=959/\0<=B/\B<=959/\0<=C/\C<=959)(L:V3 a r g):
  aX Tryz.prog ⟨35,fun _ _=>[],36,fun _=>((35,⟨.cells ⟨[zJ z,zJ A,zJ B,zJ C]⟩ 3 (0,0),some 33,true,1⟩):Nat×aY)::((30,⟨.cells ⟨[zJ a,zJ b,zJ c,zJ D,zJ d,zJ q1,zJ E,zJ e,zJ f,zJ r,zJ u,zJ y]⟩ 37 (0,0),some 25,true,3⟩):Nat×aY)::L4 s tc ⟨encS g⟩ t,fun _=>⟨[(bo 30 4 ag n g.length cs),zS 35 4 4]⟩,fun _=>True,fun _ x=>x=0,fun _ _=>.tuple ⟨[(bo 30 4 ag n g.length cs),.agg ⟨[zJ z,zJ A,zJ B,zJ C,zJ 0]⟩,zJ 0]⟩⟩:=by
 refine⟨fun p _=>abd H J (aO (aii j k l i H L) bI),fun _ _=>((jr (tc:=tc) (sc:=⟨encS g⟩) j k (fun x F=>aB g x (by simpa using F)) l).cons (N:=30) (by decide) (ax [a,b,c,D,d,q1,E,e,f,r,u,y])).cons (by decide) (ax [z,A,B,C]),fun p x F=>?_,fun q p x h=>SB (h _ (by simp)) SA⟩;rcases mem2 F with rfl|rfl
 ·exact vO (m:=36) (by decide) (by decide) i
 ·exact .slice (show 35<36 by decide)
omit j k l i v in
theorem SI{p:List Int}(h:XX h0 hl p):∃q r a b u c q1 y d e z f m A B C D,p=[q,r,a,b,u,c,q1,y,d,e,z,f,m,A,B,C,D]/\h0<=q/\q<=hl/\r=h0/\z=hl/\r<u/\u<y/\y<z/\0<=a/\a<=b/\b<=959/\b-a<3/\0<=c/\c<=q1/\q1<=959/\q1-c<3/\0<=d/\d<=e/\e<=959/\e-d<3/\0<=f/\f<=m/\m<=959/\m-f<3/\0<=A/\A<=959/\0<=B/\B<=959/\0<=C/\C<=959/\0<=D/\D<=959:=by
 unfold XX at h;split at h
 ·exact⟨_,_,_,_,_,_,_,_,_,_,_,_,_,_,_,_,_,rfl,h⟩
 ·exact h.elim
include w o in
theorem aij:aX Tryz.prog (acY h0 hl ag g.length cs s tc ⟨encS g⟩ t n):=by
 refine⟨fun p a=>?_,fun p a=>((jr (tc:=tc) (sc:=⟨encS g⟩) j k (fun x b=>aB g x (by simpa using b)) l).cons (N:=30) (by decide) (ax _)).cons (by decide) (ax _),fun p x b=>?_,fun _ _ x _=>(bM _ _).okV⟩
 ·obtain⟨P,u,c,d,y,e,q1,z,f,h,A,q,r,B,C,D,E,rfl,F⟩:=SI (h0:=h0) (hl:=hl) a
  obtain⟨L,M,rfl,rfl,F⟩:=F
  have H:0<=ag/\ag<=20/\0<=u/\A<=959/\u<y/\y<z/\z<A/\0<=c/\c<=d/\d<=959/\d-c<3/\0<=e/\e<=q1/\q1<=959/\q1-e<3/\0<=f/\f<=h/\h<=959/\h-f<3/\0<=q/\q<=r/\r<=959/\r-q<3:=by omega
  have J:0<=B/\B<=959/\0<=C/\C<=959/\0<=D/\D<=959/\0<=E/\E<=959:=by omega
  exact abe H J ⟨L,M⟩ (aO (YD j k l i H J o) bI)
 rcases mem3 b with rfl|rfl|rfl
 ·exact vO (m:=36) (by decide) (by decide) i
 ·exact .slice (show 35<36 by decide)
 ·exact .int _ _
omit j k l i v in
theorem SK{p:List Int}(h:XY h0 hl p):∃q a b r c q1 u d e y f m z A B C,p=[q,a,b,r,c,q1,u,d,e,y,f,m,z,A,B,C]/\q=h0/\y=hl/\q<r/\r<u/\u<y/\0<=a/\a<=b/\b<=959/\b-a<3/\0<=c/\c<=q1/\q1<=959/\q1-c<3/\0<=d/\d<=e/\e<=959/\e-d<3/\0<=f/\f<=m/\m<=959/\m-f<3/\0<=z/\z<=959/\0<=A/\A<=959/\0<=B/\B<=959/\0<=C/\C<=959:=by
 unfold XY at h;split at h
 ·exact⟨_,_,_,_,_,_,_,_,_,_,_,_,_,_,_,_,rfl,h⟩
 ·exact h.elim
include w o in
theorem aik:aX Tryz.prog (acZ h0 hl ag g.length cs s tc ⟨encS g⟩ t n):=by
 refine⟨fun p a=>?_,fun p a=>((jr (tc:=tc) (sc:=⟨encS g⟩) j k (fun x b=>aB g x (by simpa using b)) l).cons (N:=30) (by decide) (ax _)).cons (by decide) (ax _),fun p x b=>?_,fun _ _ x _=>(bM _ _).okV⟩
 ·obtain⟨u,c,d,y,e,q1,z,f,h,A,q,r,B,C,D,E,rfl,F⟩:=SK (h0:=h0) (hl:=hl) a
  obtain⟨rfl,rfl,F⟩:=F
  have H:0<=ag/\ag<=20/\0<=u/\A<=959/\u<y/\y<z/\z<A/\0<=c/\c<=d/\d<=959/\d-c<3/\0<=e/\e<=q1/\q1<=959/\q1-e<3/\0<=f/\f<=h/\h<=959/\h-f<3/\0<=q/\q<=r/\r<=959/\r-q<3:=by omega
  have J:0<=B/\B<=959/\0<=C/\C<=959/\0<=D/\D<=959/\0<=E/\E<=959:=by omega
  exact abf H J (aO (YD j k l i H J o) bI)
 rcases mem2 b with rfl|rfl
 ·exact vO (m:=36) (by decide) (by decide) i
 ·exact .slice (show 35<36 by decide)
omit j k l i v in
theorem SN{p:List Int}(h:XZ h0 hl p):∃q a b r c q1 u d e y f m z A B C,p=[q,a,b,r,c,q1,u,d,e,y,f,m,z,A,B,C]/\q=h0/\y=hl/\q<r/\r<u/\u<y/\0<=a/\a<=b/\b<=959/\b-a<3/\0<=c/\c<=q1/\q1<=959/\q1-c<3/\0<=d/\d<=e/\e<=959/\e-d<3/\0<=f/\f<=m/\m<=959/\m-f<3/\0<=z/\z<=959/\0<=A/\A<=959/\0<=B/\B<=959/\0<=C/\C<=959:=by
 unfold XZ at h;split at h
 ·exact⟨_,_,_,_,_,_,_,_,_,_,_,_,_,_,_,_,rfl,h⟩
 ·exact h.elim
include w o in
theorem ail:aX Tryz.prog (ac0 h0 hl ag g.length cs s tc ⟨encS g⟩ t n):=by
 refine⟨fun p a=>?_,fun p a=>((jr (tc:=tc) (sc:=⟨encS g⟩) j k (fun x b=>aB g x (by simpa using b)) l).cons (N:=30) (by decide) (ax _)).cons (by decide) (ax _),fun p x b=>?_,fun _ _ x _=>(bM _ _).okV⟩
 ·obtain⟨u,c,d,y,e,q1,z,f,h,A,q,r,B,C,D,E,rfl,F⟩:=SN (h0:=h0) (hl:=hl) a
  obtain⟨rfl,rfl,F⟩:=F
  have H:0<=ag/\ag<=20/\0<=u/\A<=959/\u<y/\y<z/\z<A/\0<=c/\c<=d/\d<=959/\d-c<3/\0<=e/\e<=q1/\q1<=959/\q1-e<3/\0<=f/\f<=h/\h<=959/\h-f<3/\0<=q/\q<=r/\r<=959/\r-q<3:=by omega
  have J:0<=B/\B<=959/\0<=C/\C<=959/\0<=D/\D<=959/\0<=E/\E<=959:=by omega
  exact abg H J (aO (YD j k l i H J o) (aO yL bI))
 rcases SC b with rfl|rfl|rfl|rfl
 ·exact vO (m:=36) (by decide) (by decide) i
 ·exact .slice (show 35<36 by decide)
 ·exact .int _ _
 ·exact .int _ _
omit v in
theorem aim{y z A O B q1 P C D Q E F H J L:Int}(R:0<=ag/\ag<=20/\0<=y/\H<=959/\y<O/\O<P/\P<Q/\Q<H/\0<=z/\z<=A/\A<=959/\A-z<3/\0<=B/\B<=q1/\q1<=959/\q1-B<3/\0<=C/\C<=D/\D<=959/\D-C<3/\0<=E/\E<=F/\F<=959/\F-E<3/\0<=J/\J<=L/\L<=959/\L-J<3)(h:V3 y H g):
  aX Tryz.prog ⟨87,fun _ _=>[],34,fun _=>((33,⟨.cells ⟨[zJ y,zJ z,zJ A,zJ O,zJ B,zJ q1,zJ P,zJ C,zJ D,zJ Q,zJ E,zJ F,zJ H,zJ J,zJ L]⟩ 37 (0,0),some 28,true,3⟩):Nat×aY)::L4 s tc ⟨encS g⟩ t,fun _=>⟨[(bo 33 5 ag n g.length cs)]⟩,fun _=>True,fun _ x=>x=0,fun _ x=>zJ x⟩:=by
 have M:=(jr (tc:=tc) (sc:=⟨encS g⟩) j k (fun x T=>aB g x (by simpa using T)) l).cons (N:=33) (e:=37) (f:=28) (u:=3) (ro:=true) (by decide) (ax [y,z,A,O,B,q1,P,C,D,Q,E,F,H,J,L]);have m:∀(p:List Int),∀x∈(⟨[(bo 33 5 ag n g.length cs)]⟩:Array Value),l7 (· <34) x:=fun p x T=>by rw[mem1 T];exact vO (by decide) (by decide) i
 refine⟨fun p _=>?_,fun _ _=>M,m,fun _ _ x _=>.int _ _⟩;refine abr ⟨R.1,R.2.1⟩ (aO ⟨fun _ _=>abp R,fun _ _=>M,m,fun _ _ x _=>.int _ _⟩ (aO ⟨fun _ _=>abq,fun _ _=>M,m,fun _ _ x _=>.int _ _⟩ (aO ⟨fun _ _=>?_,fun _ _=>M,m,fun _ _ x _=>.int _ _⟩ bI)));clear m M;match g,i,h with
 | [],q,h=>exact Yk h.2
 | [(U,V,W)],q,h=>obtain rfl:=q.1 (by simp);exact Yl h.2
 | [(U,V,W),(X,Y,Z)],q,h=>obtain rfl:=q.1 (by simp);exact Ym h.2
 | [(U,V,W),(X,Y,Z),(a2,b2,w2)],q,h=>obtain rfl:=q.1 (by simp);exact Yn h.2
 |a::b::c::d::r,q,h=>exact absurd h.1 (by simp)
omit v in
theorem YE{a b c H d q1 J e f L r u y z A B C D E F:Int}(O:0<=ag/\ag<=20/\0<=a/\y<=959/\a<H/\H<J/\J<L/\L<y/\0<=b/\b<=c/\c<=959/\c-b<3/\0<=d/\d<=q1/\q1<=959/\q1-d<3/\0<=e/\e<=f/\f<=959/\f-e<3/\0<=r/\r<=u/\u<=959/\u-r<3/\0<=z/\z<=A/\A<=959/\A-z<3)(P:0<=B/\B<=959/\0<=C/\C<=959/\0<=D/\D<=959/\0<=E/\E<=959/\0<=F/\F<=959)(Q:V3 a y g):
  aX Tryz.prog ⟨35,fun _ _=>[],39,fun _=>((38,⟨.cells ⟨[zJ B,zJ C,zJ D,zJ E,zJ F]⟩ 3 (0,0),some 36,true,1⟩):Nat×aY)::((33,⟨.cells ⟨[zJ a,zJ b,zJ c,zJ H,zJ d,zJ q1,zJ J,zJ e,zJ f,zJ L,zJ r,zJ u,zJ y,zJ z,zJ A]⟩ 37 (0,0),some 28,true,3⟩):Nat×aY)::L4 s tc ⟨encS g⟩ t,fun _=>⟨[(bo 33 5 ag n g.length cs),zS 38 5 5]⟩,fun _=>True,fun _ x=>x=0,fun _ _=>.tuple ⟨[(bo 33 5 ag n g.length cs),.agg ⟨[zJ B,zJ C,zJ D,zJ E,zJ F]⟩,zJ 0]⟩⟩:=by
 refine⟨fun p _=>abl O P (aO (aim j k l i O Q) bI),fun _ _=>((jr (tc:=tc) (sc:=⟨encS g⟩) j k (fun x M=>aB g x (by simpa using M)) l).cons (N:=33) (by decide) (ax [a,b,c,H,d,q1,J,e,f,L,r,u,y,z,A])).cons (by decide) (ax [B,C,D,E,F]),fun p x M=>?_,fun q p x h=>SB (h _ (by simp)) SA⟩;rcases mem2 M with rfl|rfl
 ·exact vO (m:=39) (by decide) (by decide) i
 ·exact .slice (show 38<39 by decide)
omit j k l i v in
theorem SQ{p:List Int}(h:X3 h0 hl p):∃u y a b z c q1 A d e B f m C q r D E F H J,p=[u,y,a,b,z,c,q1,A,d,e,B,f,m,C,q,r,D,E,F,H,J]/\h0<=u/\u<=hl/\y=h0/\C=hl/\y<z/\z<A/\A<B/\B<C/\0<=a/\a<=b/\b<=959/\b-a<3/\0<=c/\c<=q1/\q1<=959/\q1-c<3/\0<=d/\d<=e/\e<=959/\e-d<3/\0<=f/\f<=m/\m<=959/\m-f<3/\0<=q/\q<=r/\r<=959/\r-q<3/\0<=D/\D<=959/\0<=E/\E<=959/\0<=F/\F<=959/\0<=H/\H<=959/\0<=J/\J<=959:=by
 unfold X3 at h;split at h
 ·exact⟨_,_,_,_,_,_,_,_,_,_,_,_,_,_,_,_,_,_,_,_,_,rfl,h⟩
 ·exact h.elim
include w o in
theorem ain:aX Tryz.prog (ac1 h0 hl ag g.length cs s tc ⟨encS g⟩ t n):=by
 refine⟨fun p a=>?_,fun p a=>((jr (tc:=tc) (sc:=⟨encS g⟩) j k (fun x b=>aB g x (by simpa using b)) l).cons (N:=33) (by decide) (ax _)).cons (by decide) (ax _),fun p x b=>?_,fun _ _ x _=>(bM _ _).okV⟩
 ·obtain⟨U,z,c,d,A,e,q1,B,f,h,C,q,r,D,u,y,E,F,H,J,L,rfl,M⟩:=SQ (h0:=h0) (hl:=hl) a
  obtain⟨Q,R,rfl,rfl,M⟩:=M
  have O:0<=ag/\ag<=20/\0<=z/\D<=959/\z<A/\A<B/\B<C/\C<D/\0<=c/\c<=d/\d<=959/\d-c<3/\0<=e/\e<=q1/\q1<=959/\q1-e<3/\0<=f/\f<=h/\h<=959/\h-f<3/\0<=q/\q<=r/\r<=959/\r-q<3/\0<=u/\u<=y/\y<=959/\y-u<3:=by omega
  have P:0<=E/\E<=959/\0<=F/\F<=959/\0<=H/\H<=959/\0<=J/\J<=959/\0<=L/\L<=959:=by omega
  exact abm O P ⟨Q,R⟩ (aO (YE j k l i O P o) bI)
 rcases mem3 b with rfl|rfl|rfl
 ·exact vO (m:=39) (by decide) (by decide) i
 ·exact .slice (show 38<39 by decide)
 ·exact .int _ _
omit j k l i v in
theorem SS{p:List Int}(h:X4 h0 hl p):∃u a b y c q1 z d e A f m B q r C D E F H,p=[u,a,b,y,c,q1,z,d,e,A,f,m,B,q,r,C,D,E,F,H]/\u=h0/\B=hl/\u<y/\y<z/\z<A/\A<B/\0<=a/\a<=b/\b<=959/\b-a<3/\0<=c/\c<=q1/\q1<=959/\q1-c<3/\0<=d/\d<=e/\e<=959/\e-d<3/\0<=f/\f<=m/\m<=959/\m-f<3/\0<=q/\q<=r/\r<=959/\r-q<3/\0<=C/\C<=959/\0<=D/\D<=959/\0<=E/\E<=959/\0<=F/\F<=959/\0<=H/\H<=959:=by
 unfold X4 at h;split at h
 ·exact⟨_,_,_,_,_,_,_,_,_,_,_,_,_,_,_,_,_,_,_,_,rfl,h⟩
 ·exact h.elim
include w o in
theorem aio:aX Tryz.prog (ac2 h0 hl ag g.length cs s tc ⟨encS g⟩ t n):=by
 refine⟨fun p a=>?_,fun p a=>((jr (tc:=tc) (sc:=⟨encS g⟩) j k (fun x b=>aB g x (by simpa using b)) l).cons (N:=33) (by decide) (ax _)).cons (by decide) (ax _),fun p x b=>?_,fun _ _ x _=>(bM _ _).okV⟩
 ·obtain⟨z,c,d,A,e,q1,B,f,h,C,q,r,D,u,y,E,F,H,J,L,rfl,M⟩:=SS (h0:=h0) (hl:=hl) a
  obtain⟨rfl,rfl,M⟩:=M
  have O:0<=ag/\ag<=20/\0<=z/\D<=959/\z<A/\A<B/\B<C/\C<D/\0<=c/\c<=d/\d<=959/\d-c<3/\0<=e/\e<=q1/\q1<=959/\q1-e<3/\0<=f/\f<=h/\h<=959/\h-f<3/\0<=q/\q<=r/\r<=959/\r-q<3/\0<=u/\u<=y/\y<=959/\y-u<3:=by omega
  have P:0<=E/\E<=959/\0<=F/\F<=959/\0<=H/\H<=959/\0<=J/\J<=959/\0<=L/\L<=959:=by omega
  exact abn O P (aO (YE j k l i O P o) bI)
 rcases mem2 b with rfl|rfl
 ·exact vO (m:=39) (by decide) (by decide) i
 ·exact .slice (show 38<39 by decide)
omit j k l i v in
theorem SV{p:List Int}(h:X5 h0 hl p):∃u a b y c q1 z d e A f m B q r C D E F H,p=[u,a,b,y,c,q1,z,d,e,A,f,m,B,q,r,C,D,E,F,H]/\u=h0/\B=hl/\u<y/\y<z/\z<A/\A<B/\0<=a/\a<=b/\b<=959/\b-a<3/\0<=c/\c<=q1/\q1<=959/\q1-c<3/\0<=d/\d<=e/\e<=959/\e-d<3/\0<=f/\f<=m/\m<=959/\m-f<3/\0<=q/\q<=r/\r<=959/\r-q<3/\0<=C/\C<=959/\0<=D/\D<=959/\0<=E/\E<=959/\0<=F/\F<=959/\0<=H/\H<=959:=by
 unfold X5 at h;split at h
 ·exact⟨_,_,_,_,_,_,_,_,_,_,_,_,_,_,_,_,_,_,_,_,rfl,h⟩
 ·exact h.elim
include w o in
theorem aip:aX Tryz.prog (ac3 h0 hl ag g.length cs s tc ⟨encS g⟩ t n):=by
 refine⟨fun p a=>?_,fun p a=>((jr (tc:=tc) (sc:=⟨encS g⟩) j k (fun x b=>aB g x (by simpa using b)) l).cons (N:=33) (by decide) (ax _)).cons (by decide) (ax _),fun p x b=>?_,fun _ _ x _=>(bM _ _).okV⟩
 ·obtain⟨z,c,d,A,e,q1,B,f,h,C,q,r,D,u,y,E,F,H,J,L,rfl,M⟩:=SV (h0:=h0) (hl:=hl) a
  obtain⟨rfl,rfl,M⟩:=M
  have O:0<=ag/\ag<=20/\0<=z/\D<=959/\z<A/\A<B/\B<C/\C<D/\0<=c/\c<=d/\d<=959/\d-c<3/\0<=e/\e<=q1/\q1<=959/\q1-e<3/\0<=f/\f<=h/\h<=959/\h-f<3/\0<=q/\q<=r/\r<=959/\r-q<3/\0<=u/\u<=y/\y<=959/\y-u<3:=by omega
  have P:0<=E/\E<=959/\0<=F/\F<=959/\0<=H/\H<=959/\0<=J/\J<=959/\0<=L/\L<=959:=by omega
  exact abo O P (aO (YE j k l i O P o) (aO yL bI))
 rcases SC b with rfl|rfl|rfl|rfl
 ·exact vO (m:=39) (by decide) (by decide) i
 ·exact .slice (show 38<39 by decide)
 ·exact .int _ _
 ·exact .int _ _
end
theorem o7(h0 b c h1 d e:Int):∀x∈qX h0 b c h1 d e,Plain x:=fun x a=>by
 simp only[qX,List.mem_toArray,List.mem_cons,List.not_mem_nil,or_false]at a;rcases a with rfl|rfl|rfl|rfl|rfl|rfl<;>exact .int _ _
section
variable{ag h0 l0 u0 h1 e f:Int}{j:Option Addr}{cp cs:Nat}{tc k:Array Value}{a:List (Int×Int×Bool)}(b:∀x∈tc,Plain x)(c:∀x∈k,Plain x)(d:rD 2 a.length j)(g:0<=ag/\ag<=20/\0<=h0/\h1<=959/\h0<h1/\0<=l0/\l0<=u0/\u0<=959/\u0-l0<3/\0<=e/\e<=f/\f<=959/\f-e<3)(i:aX Tryz.prog ⟨87,fun _ _=>[],4,fun _=>L4 (qX h0 l0 u0 h1 e f) tc ⟨encS a⟩ k,fun _=>⟨[(bn 2 ag cp j a.length cs)]⟩,fun _=>True,fun _ x=>x=0,fun _ x=>zJ x⟩)
include b c d g i
theorem YF{l n:Int}(r:0<=l/\l<=959/\0<=n/\n<=959):
  aX Tryz.prog ⟨35,fun _ _=>[],14,fun _=>((13,⟨.cells ⟨[zJ l,zJ n]⟩ 3 (0,0),some 10,true,1⟩):Nat×aY)::L4 (qX h0 l0 u0 h1 e f) tc ⟨encS a⟩ k,fun _=>⟨[(bn 2 ag cp j a.length cs),zS 13 2 2]⟩,fun _=>True,fun _ x=>x=0,fun _ _=>.tuple ⟨[(bn 2 ag cp j a.length cs),.agg ⟨[zJ l,zJ n,zJ 0,zJ 0,zJ 0]⟩,zJ 0]⟩⟩:=by
 refine⟨fun p _=>aaT g r (aO i bI),fun _ _=>(jr (tc:=tc) (sc:=⟨encS a⟩) (o7 h0 l0 u0 h1 e f) b (fun x o=>aB a x (by simpa using o)) c).cons (by decide) (ax [l,n]),fun p x o=>?_,fun q p x h=>SB (h _ (by simp)) SA⟩;rcases mem2 o with rfl|rfl
 ·exact uK (m:=14) (by decide) hz0 d
 ·exact .slice (show 13<14 by decide)
omit b c d g i in
theorem SX{p:List Int}(h:XJ h0 h1 p):∃l m n,p=[l,m,n]/\h0<=l/\l<=h1/\0<=m/\m<=959/\0<=n/\n<=959:=by
 unfold XJ at h;split at h
 ·exact⟨_,_,_,rfl,h⟩
 ·exact h.elim
theorem aiq:aX Tryz.prog (acM h0 l0 u0 h1 e f ag cp a.length cs tc ⟨encS a⟩ k j):=by
 refine⟨fun p h=>?_,fun p h=>(jr (tc:=tc) (sc:=⟨encS a⟩) (o7 h0 l0 u0 h1 e f) b (fun x l=>aB a x (by simpa using l)) c).cons (by decide) (ax _),fun p x l=>?_,fun _ _ x _=>(bM _ _).okV⟩
 ·obtain⟨s,n,o,rfl,h⟩:=SX (h0:=h0) (h1:=h1) h
  have q:0<=n/\n<=959/\0<=o/\o<=959:=by omega
  exact aaU g q ⟨h.1,h.2.1⟩ (aO (YF b c d g i q) bI)
 rcases mem3 l with rfl|rfl|rfl
 ·exact uK (m:=14) (by decide) hz0 d
 ·exact .slice (show 13<14 by decide)
 ·exact .int _ _
omit b c d g i in
theorem SY{p:List Int}(h:XK h0 h1 p):∃l m,p=[l,m]/\0<=l/\l<=959/\0<=m/\m<=959:=by
 unfold XK at h;split at h
 ·exact⟨_,_,rfl,h⟩
 ·exact h.elim
theorem air:aX Tryz.prog (acN h0 l0 u0 h1 e f ag cp a.length cs tc ⟨encS a⟩ k j):=by
 refine⟨fun p h=>?_,fun p h=>(jr (tc:=tc) (sc:=⟨encS a⟩) (o7 h0 l0 u0 h1 e f) b (fun x l=>aB a x (by simpa using l)) c).cons (by decide) (ax _),fun p x l=>?_,fun _ _ x _=>(bM _ _).okV⟩
 ·obtain⟨n,o,rfl,h⟩:=SY (h0:=h0) (h1:=h1) h
  have q:0<=n/\n<=959/\0<=o/\o<=959:=by omega
  exact aaV g q (aO (YF b c d g i q) bI)
 rcases mem2 l with rfl|rfl
 ·exact uK (m:=14) (by decide) hz0 d
 ·exact .slice (show 13<14 by decide)
omit b c d g i in
theorem S9{p:List Int}(h:XL h0 h1 p):∃l m,p=[l,m]/\0<=l/\l<=959/\0<=m/\m<=959:=by
 unfold XL at h;split at h
 ·exact⟨_,_,rfl,h⟩
 ·exact h.elim
theorem ais:aX Tryz.prog (acO h0 l0 u0 h1 e f ag cp a.length cs tc ⟨encS a⟩ k j):=by
 refine⟨fun p h=>?_,fun p h=>(jr (tc:=tc) (sc:=⟨encS a⟩) (o7 h0 l0 u0 h1 e f) b (fun x l=>aB a x (by simpa using l)) c).cons (by decide) (ax _),fun p x l=>?_,fun _ _ x _=>(bM _ _).okV⟩
 ·obtain⟨n,o,rfl,h⟩:=S9 (h0:=h0) (h1:=h1) h
  have q:0<=n/\n<=959/\0<=o/\o<=959:=by omega
  exact aaW g q (aO (YF b c d g i q) (aO yL bI))
 rcases SC l with rfl|rfl|rfl|rfl
 ·exact uK (m:=14) (by decide) hz0 d
 ·exact .slice (show 13<14 by decide)
 ·exact .int _ _
 ·exact .int _ _
end
theorem o8(h0 b c h1 d e h2 f g:Int):∀x∈oz h0 b c h1 d e h2 f g,Plain x:=fun x a=>by
 simp only[oz,List.mem_toArray,List.mem_cons,List.not_mem_nil,or_false]at a;rcases a with rfl|rfl|rfl|rfl|rfl|rfl|rfl|rfl|rfl<;>exact .int _ _
section
variable{ag h0 l0 u0 h1 e f h2 g i:Int}{l:Option Addr}{cp cs:Nat}{tc n:Array Value}{a:List (Int×Int×Bool)}(b:∀x∈tc,Plain x)(c:∀x∈n,Plain x)(d:rD 2 a.length l)(j:0<=ag/\ag<=20/\0<=h0/\h2<=959/\h0<h1/\h1<h2/\0<=l0/\l0<=u0/\u0<=959/\u0-l0<3/\0<=e/\e<=f/\f<=959/\f-e<3/\0<=g/\g<=i/\i<=959/\i-g<3)(k:aX Tryz.prog ⟨87,fun _ _=>[],4,fun _=>L4 (oz h0 l0 u0 h1 e f h2 g i) tc ⟨encS a⟩ n,fun _=>⟨[(bn 3 ag cp l a.length cs)]⟩,fun _=>True,fun _ x=>x=0,fun _ x=>zJ x⟩)
include b c d j k
theorem YG{o r s:Int}(u:0<=o/\o<=959/\0<=r/\r<=959/\0<=s/\s<=959):
  aX Tryz.prog ⟨35,fun _ _=>[],17,fun _=>((16,⟨.cells ⟨[zJ o,zJ r,zJ s]⟩ 3 (0,0),some 10,true,1⟩):Nat×aY)::L4 (oz h0 l0 u0 h1 e f h2 g i) tc ⟨encS a⟩ n,fun _=>⟨[(bn 3 ag cp l a.length cs),zS 16 3 3]⟩,fun _=>True,fun _ x=>x=0,fun _ _=>.tuple ⟨[(bn 3 ag cp l a.length cs),.agg ⟨[zJ o,zJ r,zJ s,zJ 0,zJ 0]⟩,zJ 0]⟩⟩:=by
 refine⟨fun p _=>aaX j u (aO k bI),fun _ _=>(jr (tc:=tc) (sc:=⟨encS a⟩) (o8 h0 l0 u0 h1 e f h2 g i) b (fun x t=>aB a x (by simpa using t)) c).cons (by decide) (ax [o,r,s]),fun p x t=>?_,fun q p x h=>SB (h _ (by simp)) SA⟩;rcases mem2 t with rfl|rfl
 ·exact uK (m:=17) (by decide) hz0 d
 ·exact .slice (show 16<17 by decide)
omit b c d j k in
theorem Tc{p:List Int}(h:XN h0 h1 h2 p):∃m o q r,p=[m,o,q,r]/\h0<=m/\m<=h2/\0<=o/\o<=959/\0<=q/\q<=959/\0<=r/\r<=959:=by
 unfold XN at h;split at h
 ·exact⟨_,_,_,_,rfl,h⟩
 ·exact h.elim
theorem ait:aX Tryz.prog (acP h0 l0 u0 h1 e f h2 g i ag cp a.length cs tc ⟨encS a⟩ n l):=by
 refine⟨fun p h=>?_,fun p h=>(jr (tc:=tc) (sc:=⟨encS a⟩) (o8 h0 l0 u0 h1 e f h2 g i) b (fun x o=>aB a x (by simpa using o)) c).cons (by decide) (ax _),fun p x o=>?_,fun _ _ x _=>(bM _ _).okV⟩
 ·obtain⟨v,q,r,s,rfl,h⟩:=Tc (h0:=h0) (h1:=h1) (h2:=h2) h
  have t:0<=q/\q<=959/\0<=r/\r<=959/\0<=s/\s<=959:=by omega
  exact aaY j t ⟨h.1,h.2.1⟩ (aO (YG b c d j k t) bI)
 rcases mem3 o with rfl|rfl|rfl
 ·exact uK (m:=17) (by decide) hz0 d
 ·exact .slice (show 16<17 by decide)
 ·exact .int _ _
omit b c d j k in
theorem Td{p:List Int}(h:XO h0 h1 h2 p):∃m o q,p=[m,o,q]/\0<=m/\m<=959/\0<=o/\o<=959/\0<=q/\q<=959:=by
 unfold XO at h;split at h
 ·exact⟨_,_,_,rfl,h⟩
 ·exact h.elim
theorem aiu:aX Tryz.prog (acQ h0 l0 u0 h1 e f h2 g i ag cp a.length cs tc ⟨encS a⟩ n l):=by
 refine⟨fun p h=>?_,fun p h=>(jr (tc:=tc) (sc:=⟨encS a⟩) (o8 h0 l0 u0 h1 e f h2 g i) b (fun x o=>aB a x (by simpa using o)) c).cons (by decide) (ax _),fun p x o=>?_,fun _ _ x _=>(bM _ _).okV⟩
 ·obtain⟨q,r,s,rfl,h⟩:=Td (h0:=h0) (h1:=h1) (h2:=h2) h
  have t:0<=q/\q<=959/\0<=r/\r<=959/\0<=s/\s<=959:=by omega
  exact aaZ j t (aO (YG b c d j k t) bI)
 rcases mem2 o with rfl|rfl
 ·exact uK (m:=17) (by decide) hz0 d
 ·exact .slice (show 16<17 by decide)
omit b c d j k in
theorem Tf{p:List Int}(h:XP h0 h1 h2 p):∃m o q,p=[m,o,q]/\0<=m/\m<=959/\0<=o/\o<=959/\0<=q/\q<=959:=by
 unfold XP at h;split at h
 ·exact⟨_,_,_,rfl,h⟩
 ·exact h.elim
theorem aiv:aX Tryz.prog (acR h0 l0 u0 h1 e f h2 g i ag cp a.length cs tc ⟨encS a⟩ n l):=by
 refine⟨fun p h=>?_,fun p h=>(jr (tc:=tc) (sc:=⟨encS a⟩) (o8 h0 l0 u0 h1 e f h2 g i) b (fun x o=>aB a x (by simpa using o)) c).cons (by decide) (ax _),fun p x o=>?_,fun _ _ x _=>(bM _ _).okV⟩
 ·obtain⟨q,r,s,rfl,h⟩:=Tf (h0:=h0) (h1:=h1) (h2:=h2) h
  have t:0<=q/\q<=959/\0<=r/\r<=959/\0<=s/\s<=959:=by omega
  exact aa0 j t (aO (YG b c d j k t) (aO yL bI))
 rcases SC o with rfl|rfl|rfl|rfl
 ·exact uK (m:=17) (by decide) hz0 d
 ·exact .slice (show 16<17 by decide)
 ·exact .int _ _
 ·exact .int _ _
end
theorem o9(h0 b c h1 d e h2 f g h3 h i:Int):∀x∈lI h0 b c h1 d e h2 f g h3 h i,Plain x:=fun x a=>by
 simp only[lI,List.mem_toArray,List.mem_cons,List.not_mem_nil,or_false]at a;rcases a with rfl|rfl|rfl|rfl|rfl|rfl|rfl|rfl|rfl|rfl|rfl|rfl<;>exact .int _ _
section
variable{ag h0 l0 u0 h1 e f h2 g i h3 j k:Int}{o:Option Addr}{cp cs:Nat}{tc r:Array Value}{a:List (Int×Int×Bool)}(b:∀x∈tc,Plain x)(c:∀x∈r,Plain x)(d:rD 2 a.length o)(l:0<=ag/\ag<=20/\0<=h0/\h3<=959/\h0<h1/\h1<h2/\h2<h3/\0<=l0/\l0<=u0/\u0<=959/\u0-l0<3/\0<=e/\e<=f/\f<=959/\f-e<3/\0<=g/\g<=i/\i<=959/\i-g<3/\0<=j/\j<=k/\k<=959/\k-j<3)(n:aX Tryz.prog ⟨87,fun _ _=>[],4,fun _=>L4 (lI h0 l0 u0 h1 e f h2 g i h3 j k) tc ⟨encS a⟩ r,fun _=>⟨[(bn 4 ag cp o a.length cs)]⟩,fun _=>True,fun _ x=>x=0,fun _ x=>zJ x⟩)
include b c d l n
theorem YH{s t u v:Int}(y:0<=s/\s<=959/\0<=t/\t<=959/\0<=u/\u<=959/\0<=v/\v<=959):
  aX Tryz.prog ⟨35,fun _ _=>[],20,fun _=>((19,⟨.cells ⟨[zJ s,zJ t,zJ u,zJ v]⟩ 3 (0,0),some 10,true,1⟩):Nat×aY)::L4 (lI h0 l0 u0 h1 e f h2 g i h3 j k) tc ⟨encS a⟩ r,fun _=>⟨[(bn 4 ag cp o a.length cs),zS 19 4 4]⟩,fun _=>True,fun _ x=>x=0,fun _ _=>.tuple ⟨[(bn 4 ag cp o a.length cs),.agg ⟨[zJ s,zJ t,zJ u,zJ v,zJ 0]⟩,zJ 0]⟩⟩:=by
 refine⟨fun p _=>aa1 l y (aO n bI),fun _ _=>(jr (tc:=tc) (sc:=⟨encS a⟩) (o9 h0 l0 u0 h1 e f h2 g i h3 j k) b (fun x w=>aB a x (by simpa using w)) c).cons (by decide) (ax [s,t,u,v]),fun p x w=>?_,fun q p x h=>SB (h _ (by simp)) SA⟩;rcases mem2 w with rfl|rfl
 ·exact uK (m:=20) (by decide) hz0 d
 ·exact .slice (show 19<20 by decide)
omit b c d l n in
theorem Ti{p:List Int}(h:XQ h0 h1 h2 h3 p):∃m q s t u,p=[m,q,s,t,u]/\h0<=m/\m<=h3/\0<=q/\q<=959/\0<=s/\s<=959/\0<=t/\t<=959/\0<=u/\u<=959:=by
 unfold XQ at h;split at h
 ·exact⟨_,_,_,_,_,rfl,h⟩
 ·exact h.elim
theorem aiw:aX Tryz.prog (acS h0 l0 u0 h1 e f h2 g i h3 j k ag cp a.length cs tc ⟨encS a⟩ r o):=by
 refine⟨fun p h=>?_,fun p h=>(jr (tc:=tc) (sc:=⟨encS a⟩) (o9 h0 l0 u0 h1 e f h2 g i h3 j k) b (fun x q=>aB a x (by simpa using q)) c).cons (by decide) (ax _),fun p x q=>?_,fun _ _ x _=>(bM _ _).okV⟩
 ·obtain⟨z,s,t,u,v,rfl,h⟩:=Ti (h0:=h0) (h1:=h1) (h2:=h2) (h3:=h3) h
  have w:0<=s/\s<=959/\0<=t/\t<=959/\0<=u/\u<=959/\0<=v/\v<=959:=by omega
  exact aa2 l w ⟨h.1,h.2.1⟩ (aO (YH b c d l n w) bI)
 rcases mem3 q with rfl|rfl|rfl
 ·exact uK (m:=20) (by decide) hz0 d
 ·exact .slice (show 19<20 by decide)
 ·exact .int _ _
omit b c d l n in
theorem Tj{p:List Int}(h:XR h0 h1 h2 h3 p):∃m q s t,p=[m,q,s,t]/\0<=m/\m<=959/\0<=q/\q<=959/\0<=s/\s<=959/\0<=t/\t<=959:=by
 unfold XR at h;split at h
 ·exact⟨_,_,_,_,rfl,h⟩
 ·exact h.elim
theorem aix:aX Tryz.prog (acT h0 l0 u0 h1 e f h2 g i h3 j k ag cp a.length cs tc ⟨encS a⟩ r o):=by
 refine⟨fun p h=>?_,fun p h=>(jr (tc:=tc) (sc:=⟨encS a⟩) (o9 h0 l0 u0 h1 e f h2 g i h3 j k) b (fun x q=>aB a x (by simpa using q)) c).cons (by decide) (ax _),fun p x q=>?_,fun _ _ x _=>(bM _ _).okV⟩
 ·obtain⟨s,t,u,v,rfl,h⟩:=Tj (h0:=h0) (h1:=h1) (h2:=h2) (h3:=h3) h
  have w:0<=s/\s<=959/\0<=t/\t<=959/\0<=u/\u<=959/\0<=v/\v<=959:=by omega
  exact aa3 l w (aO (YH b c d l n w) bI)
 rcases mem2 q with rfl|rfl
 ·exact uK (m:=20) (by decide) hz0 d
 ·exact .slice (show 19<20 by decide)
omit b c d l n in
theorem Tn{p:List Int}(h:XT h0 h1 h2 h3 p):∃m q s t,p=[m,q,s,t]/\0<=m/\m<=959/\0<=q/\q<=959/\0<=s/\s<=959/\0<=t/\t<=959:=by
 unfold XT at h;split at h
 ·exact⟨_,_,_,_,rfl,h⟩
 ·exact h.elim
theorem aiy:aX Tryz.prog (acU h0 l0 u0 h1 e f h2 g i h3 j k ag cp a.length cs tc ⟨encS a⟩ r o):=by
 refine⟨fun p h=>?_,fun p h=>(jr (tc:=tc) (sc:=⟨encS a⟩) (o9 h0 l0 u0 h1 e f h2 g i h3 j k) b (fun x q=>aB a x (by simpa using q)) c).cons (by decide) (ax _),fun p x q=>?_,fun _ _ x _=>(bM _ _).okV⟩
 ·obtain⟨s,t,u,v,rfl,h⟩:=Tn (h0:=h0) (h1:=h1) (h2:=h2) (h3:=h3) h
  have w:0<=s/\s<=959/\0<=t/\t<=959/\0<=u/\u<=959/\0<=v/\v<=959:=by omega
  exact aa4 l w (aO (YH b c d l n w) (aO yL bI))
 rcases SC q with rfl|rfl|rfl|rfl
 ·exact uK (m:=20) (by decide) hz0 d
 ·exact .slice (show 19<20 by decide)
 ·exact .int _ _
 ·exact .int _ _
end
end Go.Am
