import Derived.OpenShut
import Derived.WideKeyArgs
import Derived.Test.YtkgmngkagkoepaaGreatRows
import Derived.ProofKit
import Derived.Conc.HoldsTime
import Derived.Test.YtkgmngkagkoepaaGreatH16
import Derived.Test.YtkgmngkagkoepaaGreatH24
import Derived.Test.YtkgmngkagkoepaaGreatH30
import Derived.Test.YtkgmngkagkoepaaGreatH31
import Derived.Test.YtkgmngkagkoepaaGreatH32
import Derived.Test.YtkgmngkagkoepaaGreatH33
set_option linter.all false
namespace Go.Am
open Go.Proofs
section
variable{ag b other:Int}{j i ok:Option Addr}{cp k cs ck:Nat}{f:List (Int×Int×Int×Int)}{c:List (Int×Int×Bool)}{g:List Int}
theorem akK{h0 s t r u w:Int}(M:rD 1 f.length j)(l:rD 2 c.length i)(B:rD 3 g.length ok)(C:∀n∈g,0<=n/\n<=65535)(V:0<=b/\b<=65535/\0<=other/\other<=65535)(N:2<=cp):
  bT Tryz.prog zC ⟨ak.enter Tryz.prog 3 ⟨[bv 2 ag cp j f.length k i c.length cs,.slice ok g.length ck,.int .u16 b,.int .u16 other]⟩,[],bz 4 (L4 (qX h0 s t r u w) ⟨uJ f⟩ ⟨encS c⟩ ⟨rC g⟩)⟩:=by
 have o:=o7 h0 s t r u w
 have a:∀x∈(⟨uJ f⟩:Array Value),Plain x:=fun x z=>ku f x (by simpa using z)
 have D:∀x∈(⟨encS c⟩:Array Value),Plain x:=fun x z=>aB c x (by simpa using z)
 have m:∀x∈(⟨rC g⟩:Array Value),Plain x:=fun x z=>jd g x (by simpa using z)
 have A:=Ap (np:=2) (by decide) (ag:=ag) (cp:=cp) (cs:=cs) (lo:=h0) (hi:=r) o a m rfl rfl l ae7
 by_cases q:(0<=ag/\ag<=20)/\lH [(h0,s,t),(r,u,w)]/\True/\V3 h0 r c
 ·have E:=GU (np:=2) (by decide) (ag:=ag) (cp:=cp) (cs:=cs) (lo:=h0) (hi:=r) o a m rfl rfl l q.1 q.2.2.2 (afi q.2.1);have R:=q.2.1;have L:=q.1;simp only[lH,ry,and_true]at R;have F:0<=ag/\ag<=20/\0<=h0/\r<=959/\h0<r/\0<=s/\s<=t/\t<=959/\t-s<3/\0<=u/\u<=w/\w<=959/\w-u<3:=by omega
  have H:0<=h0/\r<=959:=by omega
  have T:=aO A (aO (CE (ck:=ck) o a D B C) (aO (aiq a m l F E) (aO (aie (cs:=cs) o a m l q.1 H q.2.2.2) (aO (air a m l F E) (aO (aif (cs:=cs) o a m l q.1 H q.2.2.2) (aO (ais a m l F E) (aO (aih (cs:=cs) o a m l q.1 H q.2.2.2) bI)))))))
  have J:0<=b/\b<=65535/\0<=other/\other<=65535/\2<=cp:=by omega
  exact Tq (fun h=>⟨h.1,h.2.1⟩) J (fun y d x W X Y=>⟨trivial,trivial⟩) T
 ·exact Ce (aO ⟨fun p L=>(A.Dw p L).mono fun v _ ⟨x,r,U⟩=>⟨x,fun e=>q (r e),U⟩,A.st,A.okA,A.okR⟩ bI)
theorem akL{h0 t u s w z q A B:Int}(V:rD 1 f.length j)(l:rD 2 c.length i)(F:rD 3 g.length ok)(H:∀n∈g,0<=n/\n<=65535)(hn:0<=b/\b<=65535/\0<=other/\other<=65535)(W:3<=cp):
  bT Tryz.prog zC ⟨ak.enter Tryz.prog 3 ⟨[bv 3 ag cp j f.length k i c.length cs,.slice ok g.length ck,.int .u16 b,.int .u16 other]⟩,[],bz 4 (L4 (oz h0 t u s w z q A B) ⟨uJ f⟩ ⟨encS c⟩ ⟨rC g⟩)⟩:=by
 have o:=o8 h0 t u s w z q A B
 have a:∀x∈(⟨uJ f⟩:Array Value),Plain x:=fun x C=>ku f x (by simpa using C)
 have J:∀x∈(⟨encS c⟩:Array Value),Plain x:=fun x C=>aB c x (by simpa using C)
 have m:∀x∈(⟨rC g⟩:Array Value),Plain x:=fun x C=>jd g x (by simpa using C)
 have D:=Ap (np:=3) (by decide) (ag:=ag) (cp:=cp) (cs:=cs) (lo:=h0) (hi:=q) o a m rfl rfl l ae8
 by_cases r:(0<=ag/\ag<=20)/\lH [(h0,t,u),(s,w,z),(q,A,B)]/\True/\V3 h0 q c
 ·have L:=GU (np:=3) (by decide) (ag:=ag) (cp:=cp) (cs:=cs) (lo:=h0) (hi:=q) o a m rfl rfl l r.1 r.2.2.2 (afj r.2.1);have hq:=r.2.1;have R:=r.1;simp only[lH,ry,and_true]at hq;have M:0<=ag/\ag<=20/\0<=h0/\q<=959/\h0<s/\s<q/\0<=t/\t<=u/\u<=959/\u-t<3/\0<=w/\w<=z/\z<=959/\z-w<3/\0<=A/\A<=B/\B<=959/\B-A<3:=by omega
  have N:0<=h0/\q<=959:=by omega
  have T:=aO D (aO (CE (ck:=ck) o a J F H) (aO (ait a m l M L) (aO (aij (cs:=cs) o a m l r.1 N r.2.2.2) (aO (aiu a m l M L) (aO (aik (cs:=cs) o a m l r.1 N r.2.2.2) (aO (aiv a m l M L) (aO (ail (cs:=cs) o a m l r.1 N r.2.2.2) bI)))))))
  have E:0<=b/\b<=65535/\0<=other/\other<=65535/\3<=cp:=by omega
  by_cases U:h0+Int.tmod b (q-h0+1)<=s
  ·exact Tt (fun h=>⟨h.1,h.2.1⟩) E (fun y d x O P Q=>by subst O P Q;exact⟨trivial,U⟩) T
  ·exact Tu (fun h=>⟨h.1,h.2.1⟩) E (fun y d x O P Q=>by subst O P Q;exact⟨Int.not_le.1 U,trivial⟩) T
 ·exact Ce (aO ⟨fun p R=>(D.Dw p R).mono fun v _ ⟨x,s,q⟩=>⟨x,fun e=>r (s e),q⟩,D.st,D.okA,D.okR⟩ bI)
theorem akM{h0 w z s A B t C D r E F:Int}(Z:rD 1 f.length j)(l:rD 2 c.length i)(O:rD 3 g.length ok)(P:∀n∈g,0<=n/\n<=65535)(hn:0<=b/\b<=65535/\0<=other/\other<=65535)(a0:4<=cp):
  bT Tryz.prog zC ⟨ak.enter Tryz.prog 3 ⟨[bv 4 ag cp j f.length k i c.length cs,.slice ok g.length ck,.int .u16 b,.int .u16 other]⟩,[],bz 4 (L4 (lI h0 w z s A B t C D r E F) ⟨uJ f⟩ ⟨encS c⟩ ⟨rC g⟩)⟩:=by
 have o:=o9 h0 w z s A B t C D r E F
 have a:∀x∈(⟨uJ f⟩:Array Value),Plain x:=fun x H=>ku f x (by simpa using H)
 have Q:∀x∈(⟨encS c⟩:Array Value),Plain x:=fun x H=>aB c x (by simpa using H)
 have m:∀x∈(⟨rC g⟩:Array Value),Plain x:=fun x H=>jd g x (by simpa using H)
 have J:=Ap (np:=4) (by decide) (ag:=ag) (cp:=cp) (cs:=cs) (lo:=h0) (hi:=r) o a m rfl rfl l ae9
 by_cases q:(0<=ag/\ag<=20)/\lH [(h0,w,z),(s,A,B),(t,C,D),(r,E,F)]/\True/\V3 h0 r c
 ·have R:=GU (np:=4) (by decide) (ag:=ag) (cp:=cp) (cs:=cs) (lo:=h0) (hi:=r) o a m rfl rfl l q.1 q.2.2.2 (afk q.2.1);have hq:=q.2.1;have W:=q.1;simp only[lH,ry,and_true]at hq;have T:0<=ag/\ag<=20/\0<=h0/\r<=959/\h0<s/\s<t/\t<r/\0<=w/\w<=z/\z<=959/\z-w<3/\0<=A/\A<=B/\B<=959/\B-A<3/\0<=C/\C<=D/\D<=959/\D-C<3/\0<=E/\E<=F/\F<=959/\F-E<3:=by omega
  have U:0<=h0/\r<=959:=by omega
  have V:=aO J (aO (CE (ck:=ck) o a Q O P) (aO (aiw a m l T R) (aO (ain (cs:=cs) o a m l q.1 U q.2.2.2) (aO (aix a m l T R) (aO (aio (cs:=cs) o a m l q.1 U q.2.2.2) (aO (aiy a m l T R) (aO (aip (cs:=cs) o a m l q.1 U q.2.2.2) bI)))))))
  have u:0<=b/\b<=65535/\0<=other/\other<=65535/\4<=cp:=by omega
  by_cases X:h0+Int.tmod b (r-h0+1)<=s
  ·exact Tv (fun h=>⟨h.1,h.2.1⟩) u (fun y d x L M N=>by subst L M N;exact⟨trivial,X⟩) V
  ·by_cases Y:h0+Int.tmod b (r-h0+1)<=t
   ·exact Tz (fun h=>⟨h.1,h.2.1⟩) u (fun y d x L M N=>by subst L M N;exact⟨Int.not_le.1 X,Y⟩) V
   ·exact TA (fun h=>⟨h.1,h.2.1⟩) u (fun y d x L M N=>by subst L M N;exact⟨Int.not_le.1 Y,trivial⟩) V
 ·exact Ce (aO ⟨fun p W=>(J.Dw p W).mono fun v _ ⟨x,s,t⟩=>⟨x,fun e=>q (s e),t⟩,J.st,J.okA,J.okR⟩ bI)
theorem TB(h0 d e h l m n o p q r s t u v:Int):∀x∈pc5 h0 d e h l m n o p q r s t u v,Plain x:=fun x a=>by
 simp only[pc5,List.mem_toArray,List.mem_cons,List.not_mem_nil,or_false]at a;rcases a with rfl|rfl|rfl|rfl|rfl|rfl|rfl|rfl|rfl|rfl|rfl|rfl|rfl|rfl|rfl<;>exact .int _ _
theorem akN{h0 r s t u w d y z A B C h D E:Int}(F:rD 1 f.length j)(l:rD 2 c.length i)(H:rD 3 g.length ok)(J:∀n∈g,0<=n/\n<=65535)(P:0<=b/\b<=65535/\0<=other/\other<=65535)(L:5<=cp):
  bT Tryz.prog zC ⟨ak.enter Tryz.prog 3 ⟨[bv 5 ag cp j f.length k i c.length cs,.slice ok g.length ck,.int .u16 b,.int .u16 other]⟩,[],bz 4 (L4 (pc5 h0 r s t u w d y z A B C h D E) ⟨uJ f⟩ ⟨encS c⟩ ⟨rC g⟩)⟩:=by
 have m:=TB h0 r s t u w d y z A B C h D E
 have o:∀x∈(⟨uJ f⟩:Array Value),Plain x:=fun x a=>ku f x (by simpa using a)
 have M:∀x∈(⟨encS c⟩:Array Value),Plain x:=fun x a=>aB c x (by simpa using a)
 have q:∀x∈(⟨rC g⟩:Array Value),Plain x:=fun x a=>jd g x (by simpa using a)
 have e:=Ap (np:=5) (by decide) (ag:=ag) (cp:=cp) (cs:=cs) (lo:=h0) (hi:=h) m o q rfl rfl l afa
 exact XG (np:=5) (by decide) (aO ⟨fun p O=>(e.Dw p O).mono fun v _ ⟨x,_,d⟩=>⟨x,trivial,d⟩,e.st,e.okA,e.okR⟩ bI)
theorem akO{d t o u v w z b3:Nat}{op:Option Addr}(h:¬(2<=d/\d<=5))(h0:rD 0 v op)(B:rD 1 w j)(A:rD 2 z i):
  bT Tryz.prog zC ⟨ak.enter Tryz.prog 3 ⟨[bm ag op d cp j t k i o cs,.slice ok u ck,.int .u16 b,.int .u16 other]⟩,[],bz 4 []⟩:=by
 have q:StL 4 []:=⟨fun p l=>absurd l List.not_mem_nil,fun p l=>absurd l List.not_mem_nil,List.nodup_nil⟩
 have r:l7 (· <4) (.slice op d cp):=afw fun a e=>by rw[h0.2 a e];decide
 have m:∀x∈(⟨[ZI ag op d cp i o cs]⟩:Array Value),l7 (· <4) x:=fun x n=>by
  rw[mem1 n];refine .agg fun y s=>?_
  simp only[List.mem_toArray,List.mem_cons,List.not_mem_nil,or_false]at s;rcases s with rfl|rfl|rfl|rfl
  ·exact .int _ _
  ·exact r
  ·exact .nilslice _ _
  ·exact afw fun a e=>by rw[A.2 a e];decide
 refine XF (aO ⟨fun p _=>?_,fun _ _=>q,fun _=>m,fun _ _ x _=>.int _ _⟩ bI);exact afu (aO ⟨fun p _=>afb h,fun _ _=>q,fun p x n=>by rw[mem1 n];exact r,fun _ _ x _=>.int _ _⟩ bI)
end
end Go.Am
namespace Go.Am
inductive FK where
 |int (k:IntKind)
 |bool
def FK.ok:FK->Value->Prop
 | .int k,v=>∃n,v=.int k n/\(Lit.int k n).wf=true
 | .bool,v=>∃b,v=.bool b
def TC(a:List FK)(vs:List Value):Prop:=vs.length=a.length/\∀(i:Nat) k,a[i]?=some k->∃v,vs[i]?=some v/\k.ok v
noncomputable def sZ(P:Program)(g:TypeId->Option (List FK))(a:Option (List FK))(f:Field):Option (List FK):=match a with
 |some l=>if f.offset=l.length then match g f.type with
  |some b=>if b.length=P.cellsOf f.type then some (l++b)else none
  |none=>none else none
 |none=>none
noncomputable def qY(P:Program):Nat->TypeId->Option (List FK)
 |0,_=>none
 |n+1,t=>match P.underlying t with
  |some (.int k)=>some [.int k]
  |some .bool=>some [.bool]
  |some (.struct a)=>match a.toList.foldl (sZ P (qY P n)) (some [])with
   |some l=>if l.length=P.cellsOf t then some l else none
   |none=>none
  |_=>none
theorem mapM_mem{e g:Type}{f:e->Option g}:∀{l:List e} {c:List g},l.mapM f=some c->∀x∈l,∃y,f x=some y
 | [],c,h,x,b=>by cases b
 |a::l,c,h,x,b=>by
  rw[List.mapM_cons]at h;cases d:f a with
  |none=>rw[d]at h;cases h
  |some y=>
   rw[d]at h;cases i:l.mapM f with
   |none=>rw[i]at h;cases h
   |some zs=>
    rcases List.mem_cons.1 b with rfl|b
    ·exact⟨y,d⟩
    ·exact mapM_mem i x b
theorem CG{g j:Type}{f:g->Option j}:∀{l:List g} {c:List j},l.mapM f=some c->c.length=l.length/\∀(i:Nat) x,l[i]?=some x->∃y,c[i]?=some y/\f x=some y
 | [],c,h=>by cases h;exact⟨rfl,fun i x b=>by simp at b⟩
 |a::l,c,h=>by
  rw[List.mapM_cons]at h;cases d:f a with
  |none=>rw[d]at h;cases h
  |some y=>
   rw[d]at h;cases e:l.mapM f with
   |none=>rw[e]at h;cases h
   |some zs=>
    rw[e]at h;cases h;obtain⟨m,n⟩:=CG e
    refine⟨by simp[m],fun i x b=>?_⟩;cases i with
    |zero=>simp at b;subst b;exact⟨y,rfl,d⟩
    |succ i=>simp at b;obtain⟨z,o,p⟩:=n i x b;exact⟨z,by simpa using o,p⟩
section
variable{H:Type}{enc:TypeId×Value->H}{P:Program}{W:World}{base:Nat}{spare:Nat->Bool}{held:Bool}
theorem zG{a:Nat}{t:TypeId}{c:Array Field}{b:List Value}{x:DataW H×List MemPlace}(e:P.underlying t=some (.struct c))(h:DataW.trod enc P W base spare held (a+1) t b=some x):
  b.length=P.cellsOf t/\∀f∈c.toList,∃y,DataW.trod enc P W base spare held a f.type ((b.drop f.offset).take (P.cellsOf f.type))=some y:=by
 unfold DataW.trod at h;rw[e]at h;dsimp only at h;split at h
 ·rename_i g;refine⟨g,fun f i=>?_⟩;cases d:(c.toList.mapM fun f=>DataW.trod enc P W base spare held a f.type ((b.drop f.offset).take (P.cellsOf f.type)))with
  |none=>rw[d]at h;cases h
  |some j=>exact mapM_mem d f i
 ·cases h
theorem ER{g:TypeId->Option (List FK)}:∀l:List Field,l.foldl (sZ P g) none=none
 | []=>rfl
 |f::l=>by rw[List.foldl_cons];exact ER l
theorem yM:∀(n b:Nat) (t:TypeId) (j:List Value) (x:DataW H×List MemPlace) (m:List FK),DataW.trod enc P W base spare held b t j=some x->qY P n t=some m->TC m j
 |0,b,t,j,x,m,h,k=>by cases k
 |n+1,0,t,j,x,m,h,k=>by cases h
 |n+1,b+1,t,j,x,m,h,k=>by
  unfold qY at k;split at k
  ·rename_i Z p;cases k;unfold DataW.trod at h;rw[p]at h;split at h<;>first|(rename_i e;cases e;done)|(cases h;done)|skip
   all_goals first|(rename_i e;cases e)|skip
   split at h
   ·rename_i z;cases h;refine⟨rfl,fun i k c=>?_⟩;cases i with
    |zero=>simp at c;subst c;exact⟨_,rfl,_,by rw[z.1],z.2⟩
    |succ i=>simp at c
   ·cases h
  ·rename_i p;cases k;unfold DataW.trod at h;rw[p]at h;split at h<;>first|(rename_i e;cases e;done)|(cases h;done)|skip
   all_goals first|(rename_i e;cases e)|skip
   refine⟨rfl,fun i k c=>?_⟩;cases i with
   |zero=>simp at c;subst c;exact⟨_,rfl,_,rfl⟩
   |succ i=>simp at c
  ·rename_i L p;obtain⟨M,N⟩:=zG p h
   split at k
   ·rename_i l O;split at k
    ·rename_i r;cases k;refine⟨M.trans r.symm,?_⟩;have A:∀(s:List Field) (a:List FK),(∀f∈s,∃y,DataW.trod enc P W base spare held b f.type ((j.drop f.offset).take (P.cellsOf f.type))=some y)->
       (∀(i:Nat) k,a[i]?=some k->∃v,j[i]?=some v/\k.ok v)->s.foldl (sZ P (qY P n)) (some a)=some m->∀(i:Nat) k,m[i]?=some k->∃v,j[i]?=some v/\k.ok v:=by
      intro s;induction s with
      |nil=>intro a _ h0 o;cases o;exact h0
      |cons f s Q=>
       intro a E h0 o;rw[List.foldl_cons]at o;cases d:sZ P (qY P n) (some a) f with
       |none=>rw[d,ER]at o;cases o
       |some u=>
        rw[d]at o;refine Q u (fun R B=>E R (.tail _ B)) ?_ o;unfold sZ at d;dsimp only at d;split at d
        ·rename_i w;split at d
         ·rename_i F C;split at d
          ·rename_i T;cases d;obtain⟨y,U⟩:=E f (.head _)
           have V:=yM n b f.type _ y F U C
           intro i k g;by_cases X:i<a.length
           ·rw[List.getElem?_append_left X]at g;exact h0 i k g
           ·rw[List.getElem?_append_right (by omega)]at g;obtain⟨v,J,D⟩:=V.2 _ k g;have Y:i-a.length<F.length:=(List.getElem?_eq_some_iff.1 g).1;rw[List.getElem?_take_of_lt (by omega),List.getElem?_drop,w]at J;exact⟨v,by rw[show i=a.length+(i-a.length) by omega];exact J,D⟩
          ·cases d
         ·cases d
        ·cases d
     exact A L.toList [] N (fun i k z=>by simp at z) O
    ·cases k
   ·cases k
  ·cases k
theorem trod_slice{f:Nat}{t e:TypeId}{v:Value}{x:DataW H×List MemPlace}{ks:List FK}{d:Nat}(O:P.underlying t=some (.slice e))(Q:qY P d e=some ks)(R:P.cellsOf e=ks.length)(s:0<ks.length)(h:DataW.trod enc P W base spare held f t [v]=some x):
  v=.slice none 0 0∨∃a n c,v=.slice (some a) n c/\n<=c/\c<=maxLen/\∀i,i<n->a.spot=none/\∃C E g,W.heap[a.block]?=some (.cells C E g)/\∃q:List Value,q.length=ks.length/\TC ks q/\∀j,j<ks.length->C[a.off+i*ks.length+j]?=q[j]?:=by
 cases f with
 |zero=>cases h
 |succ f=>
  unfold DataW.trod at h;rw[O]at h;split at h<;>first|(rename_i r;cases r;done)|(rename_i r w;cases r;done)|skip
  all_goals first|(cases h;done)|skip
  ·rename_i r w;cases w;exact .inl rfl
  ·rename_i r w;cases r;cases w;right;rename_i a n c;refine⟨a,n,c,rfl,?_⟩;dsimp only at h;split at h
   ·rename_i F;refine⟨F.2.1,F.2.2,fun i T=>?_⟩;cases A:((List.range n).mapM fun i=>(W.cells? base (a.add (i*P.cellsOf e)) (P.cellsOf e)).bind (DataW.trod enc P W base spare held f e))with
    |none=>rw[A]at h;cases h
    |some ys=>
     obtain⟨y,z⟩:=mapM_mem A i (List.mem_range.2 T)
     cases m:W.cells? base (a.add (i*P.cellsOf e)) (P.cellsOf e)with
     |none=>rw[m]at z;cases z
     |some q=>
      rw[m]at z;have J:=yM d f e q y ks z Q
      unfold World.cells? at m;split at m
      ·obtain⟨g1,U⟩:=CG m
       have cellAt:∀j,j<ks.length->∃v,q[j]?=some v/\W.cell? ((a.add (i*P.cellsOf e)).add j)=some v:=fun j L=>by
        obtain⟨v,B,l⟩:=U j j (by rw[List.getElem?_range];omega)
        exact⟨v,B,l⟩
       have o:a.spot=none:=by
        obtain⟨y0,u⟩:=mapM_mem A 0 (List.mem_range.2 (by omega))
        cases k:W.cells? base (a.add (0*P.cellsOf e)) (P.cellsOf e)with
        |none=>rw[k]at u;cases u
        |some V=>
         unfold World.cells? at k;split at k
         ·obtain⟨_,X⟩:=CG k
          obtain⟨v,_,l⟩:=X 0 0 (by rw[List.getElem?_range];omega)
          rw[Nat.zero_mul]at l;have:(a.add 0).add 0=a:=rfl
          rw[this]at l;unfold World.cell? at l;split at l
          ·split at l
           ·cases l
           ·rename_i Y;simpa using Y
          ·cases l
         ·cases k
       refine⟨o,?_⟩;have M:∀j,(a.add (i*P.cellsOf e)).add j=⟨a.block,a.off+i*P.cellsOf e+j,none⟩:=fun j=>by
        obtain⟨b,Z,sp⟩:=a
        dsimp only at o;subst o;rw[add_plain,add_plain]
       obtain⟨v0,_,p⟩:=cellAt 0 s
       rw[M]at p;unfold World.cell? at p;dsimp only at p;split at p
       ·rename_i C E g N;refine⟨C,E,g,N,q,J.1,J,fun j L=>?_⟩;obtain⟨v,B,l⟩:=cellAt j L
        rw[M]at l;unfold World.cell? at l;dsimp only at l;rw[N]at l;rw[B,←R];exact l
       ·cases p
      ·cases m
   ·cases h
end
end Go.Am
namespace Go.Am
noncomputable def fieldsOf(P:Program)(t:TypeId):List (TypeId×Nat):=match P.underlying t with
 |some (.struct a)=>a.toList.map fun f=>(f.type,f.offset)
 |_=>[]
section
variable{H:Type}{enc:TypeId×Value->H}{P:Program}{W:World}{base:Nat}{spare:Nat->Bool}{held:Bool}
theorem abA{a:Nat}{t:TypeId}{g:List Value}{x:DataW H×List MemPlace}{l:List (TypeId×Nat)}(b:fieldsOf P t=l)(h:DataW.trod enc P W base spare held (a+1) t g=some x){d:TypeId}{c:Nat}(i:(d,c)∈l):
  ∃y,DataW.trod enc P W base spare held a d ((g.drop c).take (P.cellsOf d))=some y:=by
 unfold fieldsOf at b;split at b
 ·rename_i k j;subst b;obtain⟨f,b,e⟩:=List.mem_map.1 i;cases e;exact(zG j h).2 f b
 ·subst b;cases i
theorem YI{b:TypeId->Bool}:∀(d:Nat) {e:TypeId} {count a n:Nat},rowAt P b d e count a n=true->a<=count*P.cellsOf e
 |0,e,count,a,n,h=>by cases h
 |d+1,e,count,a,n,h=>by
  unfold rowAt at h;dsimp only at h;split at h
  ·cases h
  ·rename_i j;have c:0<P.cellsOf e:=Nat.pos_of_ne_zero j
   have f:=Nat.div_add_mod a (P.cellsOf e)
   have k:=Nat.mod_lt a c
   rw[Bool.or_eq_true]at h;rcases h with h|h
   ·simp only[Bool.and_eq_true,beq_iff_eq,decide_eq_true_eq]at h;have g:a/P.cellsOf e<=count:=by omega
    have i:=Nat.mul_le_mul_right (P.cellsOf e) g
    rw[Nat.mul_comm]at f;omega
   ·rw[Bool.and_eq_true,decide_eq_true_eq]at h;have g:a/P.cellsOf e+1<=count:=h.1;have i:=Nat.mul_le_mul_right (P.cellsOf e) g
    rw[Nat.add_mul,Nat.one_mul]at i;rw[Nat.mul_comm]at f;omega
theorem ES:∀(d:Nat) {e u:TypeId} {count a n:Nat},liesAt P d e count a u n=true->a<=count*P.cellsOf e
 |0,e,u,count,a,n,h=>by cases h
 |d+1,e,u,count,a,n,h=>by
  unfold liesAt at h;rw[Bool.or_eq_true]at h;rcases h with h|h
  ·exact YI _ h
  ·split at h
   ·exact ES d h
   ·cases h
theorem TD{r:Reach}{i:Nat}{a:Addr}{e:TypeId}{n:Nat}(h:W.has P r i a e n):a.spot=none/\∃C E g,W.heap[a.block]?=some (.cells C E g)/\a.off<=C.size:=by
 obtain⟨_,j,k,cells,b,l⟩:=h
 refine⟨j,?_⟩;unfold World.shape? at b;split at b
 ·rename_i c d f m;cases b;refine⟨c,_,f,m,Nat.le_trans (ES _ l) (Nat.div_mul_le_self _ _)⟩
 ·cases b
theorem adq{C:Array Value}{ks:List FK}:∀(n a:Nat),(∀i,i<n->∃c:List Value,TC ks c/\∀j,j<ks.length->C[a+i*ks.length+j]?=c[j]?)->
  ∃b:List (List Value),b.length=n/\(∀e∈b,TC ks e)/\∀(i:Nat) v,b.flatten[i]?=some v->C[a+i]?=some v
 |0,a,h=>⟨[],rfl,fun e f=>absurd f List.not_mem_nil,fun i v d=>by simp at d⟩
 |n+1,a,h=>by
  obtain⟨c,k,l⟩:=h 0 (by omega)
  obtain⟨b,m,o,p⟩:=adq n (a+ks.length) fun i g=>by
   obtain⟨c,q1,q⟩:=h (i+1) (by omega)
   exact⟨c,q1,fun j r=>by rw[←q j r,Nat.add_mul,Nat.one_mul];congr 1;omega⟩
  refine⟨c::b,by simp[m],fun e f=>?_,fun i v d=>?_⟩
  ·rcases List.mem_cons.1 f with rfl|f
   ·exact k
   ·exact o e f
  ·rw[List.flatten_cons]at d;by_cases g:i<c.length
   ·rw[List.getElem?_append_left g]at d;have:=l i (by rw[←k.1];exact g)
    rw[Nat.zero_mul,Nat.add_zero]at this;rw[this];exact d
   ·rw[List.getElem?_append_right (by omega)]at d;have:=p _ v d
    rw[k.1]at this g;rw[←this];congr 1;omega
structure Sl(W:World)(ks:List FK)(v:Value)(o:Option Addr)(n c:Nat)(els:List (List Value)):Prop where
 len:els.length=n
 fk:∀e∈els,TC ks e
 val:v=.slice o n c
 lies:∀a,o=some a->a.spot=none/\∃C E g,W.heap[a.block]?=some (.cells C E g)/\a.off+els.flatten.length<=C.size/\∀(i:Nat) v,els.flatten[i]?=some v->C[a.off+i]?=some v
 nil:o=none->n=0
 cap:n<=c
theorem PS{r:Reach}{q j d:Nat}{t e:TypeId}{v:Value}{x:DataW H×List MemPlace}{ks:List FK}(m:P.underlying t=some (.slice e))(y:qY P d e=some ks)(z:P.cellsOf e=ks.length)(k:0<ks.length)
  (h:DataW.trod enc P W base spare held j t [v]=some x) (f:Cell.okWide P W r q t v):∃o n c b,Sl W ks v o n c b:=by
 rcases trod_slice m y z k h with rfl|⟨a,n,c,rfl,R,T,p⟩
 ·exact⟨none,0,0,[],rfl,fun e A=>absurd A List.not_mem_nil,rfl,fun a e=>(by cases e),fun _=>rfl,Nat.le_refl _⟩
 ·have B:W.has P r q a e c:=by unfold Cell.okWide at f;rw[m]at f;dsimp only at f;unfold Cell.ok at f;rw[m]at f;exact f.2.2
  obtain⟨D,C,E,g,s,u⟩:=TD B
  obtain⟨b,F,J,w⟩:=adq (C:=C) (ks:=ks) n a.off fun i L=>by
   obtain⟨_,U,V,X,l,M,q1,N,O⟩:=p i L
   rw[s]at l;cases l;exact⟨M,N,O⟩
  refine⟨some a,n,c,b,F,J,rfl,fun Y e=>?_,fun e=>(by cases e),by omega⟩;cases e;refine⟨D,C,E,g,s,?_,w⟩;by_cases Z:b.flatten.length=0
  ·omega
  ·have Q:b.flatten.length-1<b.flatten.length:=by omega
   have:=w (b.flatten.length-1) _ (List.getElem?_eq_getElem Q)
   have:=(Array.getElem?_eq_some_iff.1 this).1;omega
end
def slO(b:Nat)(o:Option Addr):Option Addr:=match o with
 |some _=>some ⟨b,0,none⟩
 |none=>none
def vP(d:Nat×Nat)(o:Option Addr):Nat×Nat:=match o with
 |some a=>(a.block,a.off)
 |none=>d
theorem Sl.vr{W:World}{i:List FK}{v:Value}{o:Option Addr}{n c b:Nat}{f:List (List Value)}{ρ:Env}{d:Nat×Nat}(S:Sl W i v o n c f)(j:o≠none->ρ.born b)(k:ρ.to b=vP d o):VR ρ (.slice (slO b o) n c) v:=by
 rw[S.val];cases o with
 |none=>exact .nilslice n c
 |some a=>
  obtain⟨h,_⟩:=S.lies a rfl
  have e:a=ρ.addr ⟨b,0,none⟩:=by
   obtain⟨l,g,m⟩:=a
   dsimp only at h;subst h;have:ρ.to b=(l,g):=k
   simp[Env.addr,this]
  conv=>rhs;rw[e]
  exact .slice (j (by simp)) (.inl rfl)
end Go.Am
namespace Go.Am
open Go.Proofs
def JA:List (Int×Int×Int)->List Value
 | []=>[]
 |(h,l,u)::r=>zJ h::zJ l::zJ u::JA r
abbrev i64:FK:=.int .i64
theorem fk1{e:List Value}{k:IntKind}(h:TC [.int k] e):∃a,e=[.int k a]/\(Lit.int k a).wf=true:=by
 obtain⟨c,h⟩:=h
 rcases e with _|⟨x,_|_⟩<;>simp at c
 obtain⟨v,b,a,rfl,d⟩:=h 0 _ rfl
 simp at b;exact⟨a,by rw[b],d⟩
theorem fk3{e:List Value}(h:TC [i64,i64,i64] e):∃a b c,e=[zJ a,zJ b,zJ c]:=by
 obtain⟨i,h⟩:=h
 rcases e with _|⟨x,_|⟨y,_|⟨z,_|_⟩⟩⟩<;>simp at i
 obtain⟨v,d,a,rfl,_⟩:=h 0 _ rfl
 obtain⟨w,f,b,rfl,_⟩:=h 1 _ rfl
 obtain⟨w,g,c,rfl,_⟩:=h 2 _ rfl
 simp at d f g;exact⟨a,b,c,by rw[d,f,g]⟩
theorem fk4{e:List Value}(h:TC [i64,i64,i64,i64] e):∃a b c d,e=[zJ a,zJ b,zJ c,zJ d]:=by
 obtain⟨k,h⟩:=h
 rcases e with _|⟨x,_|⟨y,_|⟨z,_|⟨u,_|_⟩⟩⟩⟩<;>simp at k
 obtain⟨v,f,a,rfl,_⟩:=h 0 _ rfl
 obtain⟨w,g,b,rfl,_⟩:=h 1 _ rfl
 obtain⟨w,i,c,rfl,_⟩:=h 2 _ rfl
 obtain⟨w,j,d,rfl,_⟩:=h 3 _ rfl
 simp at f g i j;exact⟨a,b,c,d,by rw[f,g,i,j]⟩
theorem fkS{e:List Value}(h:TC [i64,i64,.bool] e):∃a b c,e=[zJ a,zJ b,.bool c]:=by
 obtain⟨i,h⟩:=h
 rcases e with _|⟨x,_|⟨y,_|⟨z,_|_⟩⟩⟩<;>simp at i
 obtain⟨v,d,a,rfl,_⟩:=h 0 _ rfl
 obtain⟨w,f,b,rfl,_⟩:=h 1 _ rfl
 obtain⟨w,g,c,rfl⟩:=h 2 _ rfl
 simp at d f g;exact⟨a,b,c,by rw[d,f,g]⟩
theorem aiz:∀f:List (List Value),(∀e∈f,TC [i64,i64,i64] e)->∃d,f.flatten=JA d/\d.length=f.length
 | [],h=>⟨[],rfl,rfl⟩
 |e::r,h=>by
  obtain⟨a,b,c,rfl⟩:=fk3 (h e (.head _))
  obtain⟨d,g,i⟩:=aiz r fun e j=>h e (.tail _ j)
  exact⟨(a,b,c)::d,by rw[List.flatten_cons,g];rfl,by simp[i]⟩
theorem aiA:∀f:List (List Value),(∀e∈f,TC [i64,i64,i64,i64] e)->∃g,f.flatten=uJ g/\g.length=f.length
 | [],h=>⟨[],rfl,rfl⟩
 |e::r,h=>by
  obtain⟨a,b,c,d,rfl⟩:=fk4 (h e (.head _))
  obtain⟨i,j,k⟩:=aiA r fun e l=>h e (.tail _ l)
  exact⟨(a,b,c,d)::i,by rw[List.flatten_cons,j];rfl,by simp[k]⟩
theorem aiB:∀d:List (List Value),(∀e∈d,TC [i64,i64,.bool] e)->∃f,d.flatten=encS f/\f.length=d.length
 | [],h=>⟨[],rfl,rfl⟩
 |e::r,h=>by
  obtain⟨a,b,c,rfl⟩:=fkS (h e (.head _))
  obtain⟨g,i,j⟩:=aiB r fun e k=>h e (.tail _ k)
  exact⟨(a,b,c)::g,by rw[List.flatten_cons,i];rfl,by simp[j]⟩
theorem aiC:∀b:List (List Value),(∀e∈b,TC [.int .u16] e)->∃c,b.flatten=rC c/\c.length=b.length/\∀n∈c,0<=n/\n<=65535
 | [],h=>⟨[],rfl,rfl,fun n h=>absurd h List.not_mem_nil⟩
 |e::r,h=>by
  obtain⟨a,rfl,f⟩:=fk1 (h e (.head _))
  obtain⟨c,g,i,j⟩:=aiC r fun e k=>h e (.tail _ k)
  refine⟨a::c,by rw[List.flatten_cons,g];rfl,by simp[i],fun n d=>?_⟩;rcases List.mem_cons.1 d with rfl|d
  ·simpa [Lit.wf,IntKind.min,IntKind.max,IntKind.signed,IntKind.bits]using f
  ·exact j n d
theorem CJ:∀l,∀x∈JA l,Plain x
 | [],x,h=>absurd h List.not_mem_nil
 |(f,t,a)::r,x,h=>by
  simp only[JA,List.mem_cons]at h;rcases h with rfl|rfl|rfl|h;iterate 3 exact .int _ _
  exact CJ r x h
section
variable{b a other:Int}{f g ok:Option Addr}{h i j k:Nat}{c:List (Int×Int×Int×Int)}{d:List (Int×Int×Bool)}{e:List Int}
theorem akP(l:List (Int×Int×Int))(B:2<=l.length/\l.length<=5)(m:rD 1 c.length f)(o:rD 2 d.length g)(p:rD 3 e.length ok)(q:∀n∈e,0<=n/\n<=65535)(s:0<=a/\a<=65535/\0<=other/\other<=65535)(r:l.length<=h):
  bT Tryz.prog zC ⟨ak.enter Tryz.prog 3 ⟨[bm b (some ⟨0,0,none⟩) l.length h f c.length i g d.length j,.slice ok e.length k,.int .u16 a,.int .u16 other]⟩,[],bz 4 (L4 ⟨JA l⟩ ⟨uJ c⟩ ⟨encS d⟩ ⟨rC e⟩)⟩:=by
 match l,B with
 | [(h0,t,u),(v,w,x)],_=>exact akK m o p q s r
 | [(h0,t,u),(v,w,x),(y,z,A)],_=>exact akL m o p q s r
 | [(h0,t,u),(v,w,x),(y,z,A),(C,D,E)],_=>exact akM m o p q s r
 | [(h0,t,u),(v,w,x),(y,z,A),(C,D,E),(F,H,J)],_=>exact akN m o p q s r
end
theorem yN{W:World}{f:List FK}{v:Value}{o:Option Addr}{n c b:Nat}{d:List (List Value)}(S:Sl W f v o n c d):rD b n (slO b o):=by
 refine⟨fun g=>?_,fun a e=>?_⟩
 ·cases o with
  |none=>exact absurd (S.nil rfl) g
  |some a=>rfl
 ·cases o with
  |none=>cases e
  |some h=>cases e;rfl
theorem YJ{ρ:Env}:∀{l m:List Value},LR (VR ρ) l m->AR (VR ρ) (⟨l⟩:Array Value) ⟨m⟩
 | [],[],_=>⟨rfl,fun i x y c _=>by simp at c⟩
 |a::l,b::m,.cons h k=>by
  obtain⟨g,j⟩:=YJ k
  have d:l.length=m.length:=by simpa using g
  refine⟨by simp[d],fun i x y c e=>?_⟩;cases i with
  |zero=>simp at c e;subst c;subst e;exact h
  |succ i=>exact j i x y (by simpa using c) (by simpa using e)
end Go.Am
namespace Go.Am
open Go.Proofs
open Go.Conc (G)
open Go.Ren (aG Keep full)
theorem afE{W:World}{j:List FK}{v:Value}{o:Option Addr}{n c:Nat}{b:List (List Value)}{l:List Value}{d:Nat×Nat}(S:Sl W j v o n c b)(k:b.flatten=l)(hd:∃C E g,W.heap[d.1]?=some (.cells C E g)/\d.2<=C.size):
  ∃C E,(∃g,W.heap[(vP d o).1]?=some (.cells C E g))/\(vP d o).2+(⟨l⟩:Array Value).size<=C.size/\∀(i:Nat) v,(⟨l⟩:Array Value)[i]?=some v->C[(vP d o).2+i]?=some v:=by
 subst k;cases o with
 |none=>
  have:b=[]:=List.eq_nil_of_length_eq_zero (S.len.trans (S.nil rfl))
  subst this;obtain⟨C,E,g,e,f⟩:=hd
  exact⟨C,E,⟨g,e⟩,by simpa [vP]using f,fun i v h=>by simp at h⟩
 |some a=>
  obtain⟨_,C,E,g,e,f,m⟩:=S.lies a rfl
  exact⟨C,E,⟨g,e⟩,by simpa [vP]using f,fun i v h=>m i v (by simpa using h)⟩
theorem xC{W:World}{e:List FK}{v:Value}{o:Option Addr}{n c:Nat}{b:List (List Value)}{d:Nat×Nat}(S:Sl W e v o n c b)(h:o≠none):(vP d o).1<W.heap.size:=by
 cases o with
 |none=>exact absurd rfl h
 |some a=>
  obtain⟨_,C,E,g,f,_⟩:=S.lies a rfl
  exact(Array.getElem?_eq_some_iff.1 f).1
def to4(d:Nat×Nat)(o0 a c e:Option Addr)(b:Nat):Nat×Nat:=match b with
 |0=>vP d o0
 |1=>vP d a
 |2=>vP d c
 |_=>vP d e
theorem aiD{a c d e:Array Value}{b:Nat}{B:aY}(h:(bz 4 (L4 a c d e)).look b=some B):(b=0/\B=rdB (bk a))∨(b=1/\B=rdB (bk c))∨(b=2/\B=rdB (bk d))∨(b=3/\B=rdB (bk e)):=by
 have:=Gx _ (fJ h)
 simp only[L4,List.map_cons,List.map_nil,List.mem_cons,Prod.mk.injEq,List.not_mem_nil,or_false]at this;exact this
theorem straight{W:World}{m j other:Int}{v0 N O P:Value}{o0 t w y:Option Addr}{n0 n1 n2 n3 c0 c1 c2 c3:Nat}{e0 e1 e2 e3:List (List Value)}(s:Sl W [i64,i64,i64] v0 o0 n0 c0 e0)(H:Sl W [i64,i64,i64,i64] N t n1 c1 e1)(J:Sl W [i64,i64,.bool] O w n2 c2 e2)(M:Sl W [.int .u16] P y n3 c3 e3)
  (hn:0<=j/\j<=65535/\0<=other/\other<=65535) {p:Value->World->Prop} {K:Machine->Trace->Prop} (a0:GM Tryz.prog aA 5 (Go.Conc.Good Tryz.prog p)) (hP:∀w',Keep (fun b=>b<W.heap.size) W w'->p (.bool true) w'):
  aG Tryz.prog (Go.Conc.Good Tryz.prog p) K (Go.Conc.solo (G (Frame.enter Tryz.prog 3 ⟨[.agg ⟨[zJ m,v0,N,O]⟩,P,.int .u16 j,.int .u16 other]⟩ .normal) []) W) #[]:=by
 obtain⟨q,d0,l0⟩:=aiz e0 s.fk
 obtain⟨z,d1,l1⟩:=aiA e1 H.fk
 obtain⟨A,d2,l2⟩:=aiB e2 J.fk
 obtain⟨L,d3,l3,a1⟩:=aiC e3 M.fk
 have m0:q.length=n0:=l0.trans s.len
 have m1:z.length=n1:=l1.trans H.len
 have m2:A.length=n2:=l2.trans J.len
 have m3:L.length=n3:=l3.trans M.len
 have args {ρ:Env} {d:Nat×Nat} (b0:o0≠none->ρ.born 0) (b1:t≠none->ρ.born 1) (b2:w≠none->ρ.born 2) (b3:y≠none->ρ.born 3) (ht:ρ.to=to4 d o0 t w y):
   AR (VR ρ) (⟨[bm m (slO 0 o0) n0 c0 (slO 1 t) n1 c1 (slO 2 w) n2 c2,.slice (slO 3 y) n3 c3,.int .u16 j,.int .u16 other]⟩:Array Value) ⟨[.agg ⟨[zJ m,v0,N,O]⟩,P,.int .u16 j,.int .u16 other]⟩:=by
  have k:=YJ (ρ:=ρ) (.cons (.int .i64 m) (.cons (s.vr (d:=d) b0 (by rw[ht];rfl)) (.cons (H.vr (d:=d) b1 (by rw[ht];rfl)) (.cons (J.vr (d:=d) b2 (by rw[ht];rfl)) .nil))))
  exact YJ (.cons (.agg k.1 k.2) (.cons (M.vr (d:=d) b3 (by rw[ht];rfl)) (.cons (.int _ _) (.cons (.int _ _) .nil))))
 have Q {ρ:Env} {hA:AH} (T:Rel ρ (fun _=>False) (fun b=>b<W.heap.size) hA W) {av:Array Value} (ha:AR (VR ρ) av ⟨[.agg ⟨[zJ m,v0,N,O]⟩,P,.int .u16 j,.int .u16 other]⟩)
   (R:bT Tryz.prog zC ⟨ak.enter Tryz.prog 3 av,[],hA⟩):aG Tryz.prog (Go.Conc.Good Tryz.prog p) K (Go.Conc.solo (G (Frame.enter Tryz.prog 3 ⟨[.agg ⟨[zJ m,v0,N,O]⟩,P,.int .u16 j,.int .u16 other]⟩ .normal) []) W) #[]:=
  LJ (X:=aJ []) (aC bI) R a0 (by kernel_rfl) (by kernel_rfl) hP (Sr.start T ha)
 by_cases U:2<=n0/\n0<=5
 ·obtain⟨a,rfl⟩:∃a,o0=some a:=by
   cases o0 with
   |none=>have:=s.nil rfl;omega
   |some a=>exact⟨a,rfl⟩
  have hd:∃C E g,W.heap[(a.block,a.off).1]?=some (.cells C E g)/\(a.block,a.off).2<=C.size:=by
   obtain⟨_,C,E,g,V,h2,_⟩:=s.lies a rfl
   exact⟨C,E,g,V,by dsimp only;omega⟩
  have a2:a.block<W.heap.size:=by
   obtain⟨C,E,g,V,_⟩:=hd
   exact(Array.getElem?_eq_some_iff.1 V).1
  have lt (o:Option Addr) {L:List FK} {v:Value} {n c:Nat} {D:List (List Value)} (S:Sl W L v o n c D):(vP (a.block,a.off) o).1<W.heap.size:=by
   cases o with
   |none=>exact a2
   |some b=>exact xC S (by simp)
  have Y:∀b,b<4->(to4 (a.block,a.off) (some a) t w y b).1<W.heap.size:=fun b F=>by
   match b,F with
   |0,_=>exact lt _ s
   |1,_=>exact lt _ H
   |2,_=>exact lt _ J
   |3,_=>exact lt _ M
  have T:Rel (aaF (to4 (a.block,a.off) (some a) t w y) (bz 4 (L4 ⟨JA q⟩ ⟨uJ z⟩ ⟨encS A⟩ ⟨rC L⟩))) (fun _=>False) (fun b=>b<W.heap.size) (bz 4 (L4 ⟨JA q⟩ ⟨uJ z⟩ ⟨encS A⟩ ⟨rC L⟩)) W:=by
   refine WN (fun b B F=>?_) rfl Y;have one {o:Option Addr} {L:List FK} {v:Value} {n c:Nat} {D:List (List Value)} {l:List Value} (S:Sl W L v o n c D) (r:D.flatten=l) (hp:∀x∈l,Plain x):
     (rdB (bk ⟨l⟩)).UB/\∃c e f C E,(rdB (bk ⟨l⟩)).obj=.cells c e f/\(∃g,W.heap[(vP (a.block,a.off) o).1]?=some (.cells C E g))/\(vP (a.block,a.off) o).2+c.size<=C.size/\∀(i:Nat) v,c[i]?=some v->C[(vP (a.block,a.off) o).2+i]?=some v/\Plain v:=by
    obtain⟨C,E,V,h2,h3⟩:=afE S r hd
    exact⟨⟨rfl,rfl,rfl⟩,⟨l⟩,_,_,C,E,rfl,V,h2,fun i v hv=>⟨h3 i v hv,hp v (List.mem_of_getElem? (by simpa using hv))⟩⟩
   rcases aiD F with⟨rfl,rfl⟩|⟨rfl,rfl⟩|⟨rfl,rfl⟩|⟨rfl,rfl⟩
   ·exact one s d0 (CJ _)
   ·exact one H d1 (ku _)
   ·exact one J d2 (aB _)
   ·exact one M d3 (jd _)
  have born:∀b,b<4->(aaF (to4 (a.block,a.off) (some a) t w y) (bz 4 (L4 ⟨JA q⟩ ⟨uJ z⟩ ⟨encS A⟩ ⟨rC L⟩))).born b:=fun b F=>F
  refine Q T (args (fun _=>born 0 (by decide)) (fun _=>born 1 (by decide)) (fun _=>born 2 (by decide)) (fun _=>born 3 (by decide)) rfl) ?_;subst m0 m1 m2 m3;exact akP q U (yN H) (yN J) (yN M) a1 hn s.cap
 ·have T:Rel {to:=to4 (0,0) o0 t w y,born:=fun b=>b<4/\(to4 (0,0) o0 t w y b).1<W.heap.size,bD:=fun _=>False,u:=fun _=>0,ext:=fun _=>0} (fun _=>False) (fun b=>b<W.heap.size) (bz 4 []) W:=by
   have Z:∀b B,(bz 4 []).look b=some B->False:=fun b B h=>by cases h
   exact⟨fun b B _ _ _ _ r=>(Z b B r).elim,fun b B _ r=>(Z b B r).elim,fun b B _ r=>(Z b B r).elim,fun b _ B _ _ _ r=>(Z b B r).elim,fun b F=>F.1,fun b F=>F.2,fun b B _ r=>(Z b B r).elim,fun f l hf=>(by cases hf),fun f l hf=>(by cases hf)⟩
  refine Q T (args (d:=(0,0)) (fun h=>⟨by decide,xC s h⟩) (fun h=>⟨by decide,xC H h⟩) (fun h=>⟨by decide,xC J h⟩) (fun h=>⟨by decide,xC M h⟩) rfl) ?_;exact akO (b3:=0) U (yN s) (yN H) (yN J)
end Go.Am
namespace Go.Am
def isStruct(P:Program)(t:TypeId):Bool:=match P.underlying t with
 |some (.struct _)=>true
 |_=>false
section
variable{H:Type}{enc:TypeId×Value->H}{P:Program}{W:World}{base:Nat}{spare:Nat->Bool}{held:Bool}
theorem TE{t:TypeId}{l:List (TypeId×Nat)}{e:List TypeId}{n:Nat}{v:Value}{d:DataW H}{p:List MemPlace}{r:Reach}{j:Nat}(f:isStruct P t=true)(s:fieldsOf P t=l)(w:P.cellTypes P.depth t=some e)(z:P.cellsOf t=n)
  (a:Value.okWide P W r j t v) (h:DataW.Trod enc P W base spare held t v d p):
  ∃c:List Value,v=.agg ⟨c⟩/\c.length=n/\(∀(i:Nat) x,c[i]?=some x->∃u,e[i%e.length]?=some u/\Cell.okWide P W r j u x)/\∃b,∀q∈l,∃y,DataW.trod enc P W base spare held b q.1 ((c.drop q.2).take (P.cellsOf q.1))=some y:=by
 unfold isStruct at f;split at f
 ·rename_i F A;unfold Value.okWide at a;rw[A]at a;obtain⟨c,rfl,g,B,m,_,C⟩:=a
  rw[w]at m;cases m;obtain⟨b,h⟩:=h
  cases b with
  |zero=>unfold DataW.trod at h;cases h
  |succ k=>
   obtain⟨c⟩:=c
   exact⟨c,rfl,by rw[←z];simpa using g,fun i x D=>C i x (by simpa using D),k,fun q E=>abA s h E⟩
 ·cases f
theorem TF{W c:World}{p:MemPlace}(h:c.heap[p.block]?=W.heap[p.block]?):W.sameAt c p:=by
 cases p with
 |cell b a=>
  show c.cell? ⟨b,a,none⟩=W.cell? ⟨b,a,none⟩
  unfold World.cell?;have h:c.heap[b]?=W.heap[b]?:=h
  rw[h]
 |map b=>exact h
theorem zH{t:TypeId}(i:laidOutB P=true)(j:P.readableRec t=true)(a:t<P.types.size){g:World}{v:Value}{d:DataW H}{e:List MemPlace}
  (h:DataW.Trod enc P W base (fun _=>true) true t v d e) (c:∀q∈e,q.block<W.heap.size) (k:∀b,b<W.heap.size->g.heap[b]?=W.heap[b]?):
  DataW.Trod enc P g base (fun b=>decide (b<W.heap.size)) true t v d e:=
 WideElems.Trod_stays i j a h (fun q f=>TF (k _ (c q f))) (fun q f=>decide_eq_true (c q f))
end
end Go.Am
namespace Go.Proofs.YtkgmngkagkoepaaGreat
open Go.ChangeShapes Go.WideShapes Go.ChangeAt Go.RowKit
open Go.Ren (Keep)
theorem own:ownKnob Tryz.prog.godebug=Option.none:=by kernel_rfl
theorem kept{W e:World}(h:Keep (fun b=>b<W.heap.size) W e)(d:MemPlace->Prop):W.keptBut {e with os:=W.os} d:=by
 refine⟨rfl,h.2.2.2,fun i l=>?_⟩;show match W.heap[i]?,e.heap[i]? with
  |some (.cells c t m),some (.cells k n f)=>n=t/\f=m/\k.size=c.size/\∀j:Nat,¬d (.cell i j)->k[j]?=c[j]?
  |some (.map p clock),some (.map g a)=>d (.map i)∨(g=p/\a=clock)
  |o,q=>q=o
 rw[h.1 i l];split<;>simp_all
theorem laidOut:laidOutB Tryz.prog=true:=by kernel_rfl
theorem akQ:Go.Am.isStruct Tryz.prog 26=true:=by kernel_rfl
theorem akR:Go.Am.fieldsOf Tryz.prog 26=[(3,0),(22,1),(23,2),(24,3)]:=by kernel_rfl
theorem akS:Tryz.prog.cellTypes Tryz.prog.depth 26=some [3,22,23,24]:=by kernel_rfl
theorem akT:Tryz.prog.cellsOf 26=4:=by kernel_rfl
theorem cz3:Tryz.prog.cellsOf 3=1:=by kernel_rfl
theorem akU:Tryz.prog.cellsOf 22=1:=by kernel_rfl
theorem akV:Tryz.prog.cellsOf 23=1:=by kernel_rfl
theorem akW:Tryz.prog.cellsOf 24=1:=by kernel_rfl
theorem fl3:Go.Am.qY Tryz.prog 4 3=some [Go.Am.i64]:=by kernel_rfl
theorem akX:Go.Am.qY Tryz.prog 4 37=some [Go.Am.i64,Go.Am.i64,Go.Am.i64]:=by kernel_rfl
theorem akY:Go.Am.qY Tryz.prog 4 73=some [Go.Am.i64,Go.Am.i64,Go.Am.i64,Go.Am.i64]:=by kernel_rfl
theorem akZ:Go.Am.qY Tryz.prog 4 69=some [Go.Am.i64,Go.Am.i64,.bool]:=by kernel_rfl
theorem ak0:Go.Am.qY Tryz.prog 4 28=some [.int .u16]:=by kernel_rfl
set_option maxRecDepth 100000 in
theorem lifted(D:∀n,Go.Am.GM Tryz.prog Go.Am.aA 5 (Go.Conc.Good Tryz.prog n))(O:Os)(started:O.Started)(H:Type)(enc:TypeId×Value->H)(F:Stop.Interp):
  ReturnsInLeavingWide {calm:=true} Tryz.checked O 3 .any (Rows.frameAddedSpec.pre6 enc Tryz.prog Tryz.f3 Rows.frameAddedRow.domain false) ((OpenSpec.ofChange Rows.frameAddedSpec).postWith enc Tryz.prog Tryz.f3 F (outsideKept [.timePasses]) false true false):=by
 refine returnsInLeavingWide_of_change_time (C:=Tryz.checked) own started Tryz.func3
  (ChangeSpec.witness6c (enc:=enc) (C:=Tryz.checked) ⟨#[],#[.agg #[.int .i64 0,.slice none 0 0,.slice none 0 0,.slice none 0 0],.slice none 0 0,.int .u16 0,.int .u16 0],[]⟩ 8 (by kernel_rfl) (by kernel_rfl) (by kernel_rfl) (by kernel_rfl)) ?_
 intro W base args ds gs before b P Q _ _;have a:∀(j:Nat) t v,Tryz.f3.params[j]?=some t->args[j]?=some v->Value.okWide Tryz.prog W .any base t v:=b
 have e:=P
 obtain⟨p,q,o,hV,rfl,a0,a1⟩:=P
 have R:DataW.TrodAll enc Tryz.prog W 0 (fun _=>true) true Tryz.f3.params.toList args.toList ds p:=o
 rw[Tryz.params3]at R a;obtain⟨v0,a4,d0,a5,p0,q0,E,rfl,rfl,h0,r0⟩:=trodAll_cons R
 obtain⟨r,a6,d1,a7,T,q1,rfl,rfl,rfl,h1,r1⟩:=trodAll_cons r0
 obtain⟨U,a8,d2,a9,p2,q2,rfl,rfl,rfl,h2,r2⟩:=trodAll_cons r1
 obtain⟨V,b0,d3,b1,p3,q3,rfl,rfl,rfl,h3,r3⟩:=trodAll_cons r2
 obtain⟨rfl,rfl,rfl⟩:=trodAll_nil r3
 obtain rfl:args=#[v0,r,U,V]:=by cases args;simp_all
 obtain⟨rfl,rfl⟩:=trodVars_none hV
 obtain⟨X,rfl,rfl,rfl,Y⟩:=open_int Tryz.underlying28 (a 2 28 U rfl rfl) h2
 obtain⟨Z,rfl,rfl,rfl,w3⟩:=open_int Tryz.underlying28 (a 3 28 V rfl rfl) h3
 have k0:=a 0 26 v0 rfl rfl
 have J:=a 1 27 r rfl rfl
 clear o b;simp only[List.append_nil]at e;have b2:0<=X/\X<=65535:=by simpa [Lit.wf,IntKind.min,IntKind.max,IntKind.signed,IntKind.bits]using Y
 have b3:0<=Z/\Z<=65535:=by simpa [Lit.wf,IntKind.min,IntKind.max,IntKind.signed,IntKind.bits]using w3
 obtain⟨cs,rfl,hl,i,g,w⟩:=Go.Am.TE akQ akR akS akT k0 h0
 obtain⟨y,k,l,m,rfl⟩:∃y k l m,cs=[y,k,l,m]:=by
  rcases cs with _|⟨y,_|⟨k,_|⟨l,_|⟨m,_|_⟩⟩⟩⟩<;>simp at hl
  exact⟨y,k,l,m,rfl⟩
 obtain⟨y0,t0⟩:=w (3,0) (by simp)
 obtain⟨y1,z⟩:=w (22,1) (by simp)
 obtain⟨y2,t2⟩:=w (23,2) (by simp)
 obtain⟨y3,t3⟩:=w (24,3) (by simp)
 simp only[cz3,List.drop,List.take]at t0;simp only[akU,List.drop,List.take]at z;simp only[akV,List.drop,List.take]at t2;simp only[akW,List.drop,List.take]at t3;obtain⟨L,e0,_⟩:=Go.Am.fk1 (Go.Am.yM 4 g 3 _ _ _ t0 fl3)
 cases e0;have u1:Cell.okWide Tryz.prog W .any base 22 k:=by obtain⟨u,s,h⟩:=i 1 k rfl;cases s;exact h
 have u2:Cell.okWide Tryz.prog W .any base 23 l:=by obtain⟨u,s,h⟩:=i 2 l rfl;cases s;exact h
 have u3:Cell.okWide Tryz.prog W .any base 24 m:=by obtain⟨u,s,h⟩:=i 3 m rfl;cases s;exact h
 have A:Cell.okWide Tryz.prog W .any base 27 r:=by unfold Value.okWide at J;rw[Tryz.underlying27]at J;exact J
 obtain⟨c,t4⟩:=h1
 have d:∃x,DataW.trod enc Tryz.prog W 0 (fun _=>true) true c 27 [r]=some x:=by refine⟨(d1,T),?_⟩;rw[←t4];congr 1;unfold Cell.okWide at A;rw[Tryz.underlying27]at A;cases r<;>first|rfl|(simp[Cell.ok,Tryz.underlying27]at A)
 obtain⟨x4,d⟩:=d
 have hf:g≠0:=by rintro rfl;unfold DataW.trod at z;cases z
 obtain⟨f,rfl⟩:=Nat.exists_eq_succ_of_ne_zero hf
 have M:c≠0:=by rintro rfl;unfold DataW.trod at d;cases d
 obtain⟨b4,rfl⟩:=Nat.exists_eq_succ_of_ne_zero M
 obtain⟨o0,n0,m0,s0,S0⟩:=Go.Am.PS Tryz.underlying22 akX (by kernel_rfl) (by decide) z u1
 obtain⟨o1,n1,m1,s1,S1⟩:=Go.Am.PS Tryz.underlying23 akY (by kernel_rfl) (by decide) t2 u2
 obtain⟨o2,n2,m2,s2,S2⟩:=Go.Am.PS Tryz.underlying24 akZ (by kernel_rfl) (by decide) t3 u3
 obtain⟨o3,n3,m3,s3,S3⟩:=Go.Am.PS Tryz.underlying27 ak0 (by kernel_rfl) (by decide) d A
 refine Go.Ren.DW ?_;refine Go.Am.straight S0 S1 S2 S3 ⟨b2.1,b2.2,b3.1,b3.2⟩ (D _) fun w' B=>⟨?_,B.2.2.1⟩
 refine⟨_,_,_,[],p0++(T++[]),[],e,trodAll_cons_mk (shut_bool Tryz.underlying4 _) trodAll_mk0,?_,rfl,kept B _,fun h=>by cases h⟩;refine trodAll_cons_mk (Go.Am.zH laidOut (by kernel_rfl) (of_decide_eq_true (by kernel_rfl)) h0 ?_ B.1) (trodAll_cons_mk (Go.Am.zH laidOut (by kernel_rfl) (of_decide_eq_true (by kernel_rfl)) ⟨_,t4⟩ ?_ B.1) (trodAll_cons_mk (shut_int Tryz.underlying28 Y) (trodAll_cons_mk (shut_int Tryz.underlying28 w3) trodAll_mk0)))
 ·exact fun x N=>by simpa using e.lt x (by simp[N])
 ·exact fun x N=>by simpa using e.lt x (by simp[N])
theorem over(b:∀a,Go.Am.GM Tryz.prog Go.Am.aA 5 (Go.Conc.Good Tryz.prog a)):Rows.FrameAddedSaid:=
 OpenClaim.holds_of_wide_leaving_time 3 Tryz.f3 rfl rfl rfl rfl rfl rfl rfl ⟨rfl,rfl,rfl,rfl,rfl⟩ rfl rfl rfl rfl rfl (by kernel_rfl) Tryz.func3 (by kernel_rfl)
  (of_decide_eq_true (by kernel_rfl)) (by unfold Func.isWrapper;first|(rw[if_pos (by decide+kernel)];kernel_rfl)|(rw[if_neg (by decide+kernel)];exact⟨rfl,rfl⟩))
  (fun d started H c _ F=>lifted b d started H c F)
end Go.Proofs.YtkgmngkagkoepaaGreat
namespace Go.Am
open Go.Conc.Lib
open Go.Ren (grow gp aQ az Wk At aG Keep full)
noncomputable section
def adr(P:Program)(c:bP)(T:Tr TI)(d:Tr Func)(n i:Nat)(s:AS):Option AS:=match aH P c (some i) ⟨s.fr,[],s.h⟩with
 |some (.go a)=>match ig P c T d n a with
  | .inl b=>some b
  | .inr _=>none
 |_=>none
def ai1(P:Program)(b:bP)(T:Tr TI)(c:Tr Func)(n:Nat)(s:AS)(i:Nat):Option Nat:=match adr P b T c n i s with
 |some a=>match Bv a with
  |some o=>some ((execOp (au a.fr.tmps) o).arity P a.h)
  |none=>none
 |none=>none
def YK(P:Program)(e:bP)(T:Tr TI)(f:Tr Func)(n d:Nat)(h:Bool)(l:List Nat)(i:Nat)(s:AS)(j:Nat):Option AS:=match s.cs with
 |c::g=>match adr P e T f n i s with
  |some a=>match aH P e (some j) a with
   |some (.go b)=>match explore P e T f n d b with
    |some L=>bif h then lW P c g l L else merge P c g l L
    |none=>none
   |_=>none
  |none=>none
 | []=>none
def P2(P:Program)(b:bP)(T:Tr TI)(c:Tr Func)(n d:Nat)(e:Bool)(l:List Nat)(s f:AS)(i:Nat)(a:List Nat):Prop:=a.map (YK P b T c n d e l i s)=a.map fun _=>some f
end
section
variable{P:Program}{F:Nat->Prop}{w₀:World}{base:List Frame}{s s':AS}{pl:bP}{l:List Nat}{L:WgLink}{m:Machine}{t:Trace}{eX:Machine->Outcome->World->Trace->Prop}{T:Tr TI}{Fu:Tr Func}{n d i:Nat}{mv:Bool}
theorem P2.at{a:List Nat}(h:P2 P pl T Fu n d mv l s s' i a){j:Nat}(b:j∈a):YK P pl T Fu n d mv l i s j=some s':=by
 unfold P2 at h;exact List.map_inj_left.1 h j b
end
end Go.Am
