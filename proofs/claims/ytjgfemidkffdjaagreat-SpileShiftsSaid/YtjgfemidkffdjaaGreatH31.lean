import Derived.OpenShut
import Derived.WideKeyArgs
import Derived.Test.YtjgfemidkffdjaaGreatRows
import Derived.ProofKit
import Derived.Conc.HoldsTime
import Derived.Test.YtjgfemidkffdjaaGreatH24
import Derived.Test.YtjgfemidkffdjaaGreatH27
import Derived.Test.YtjgfemidkffdjaaGreatH28
import Derived.Test.YtjgfemidkffdjaaGreatH29
import Derived.Test.YtjgfemidkffdjaaGreatH30
set_option linter.all false
namespace Go.Am
open Go.Proofs
section
variable{pw qs shift more:Int}{d ok:Option Addr}{cp ct f:Nat}{b:List (Int×Int×Int)}{c:List Int}
theorem ak6{a0 b0 c0 d0 e0 a1 b1 c1 d1 e1:Int}(a:Bf 1 b.length d)(o:Bf 3 c.length ok)(q:∀n∈c,0<=n/\n<=65535)(u:-32768<=shift/\shift<=32767/\0<=more/\more<=255):
  aJ Tryz.prog zC ⟨aN.enter Tryz.prog 3 ⟨[bm pw qs (some ⟨0,0,none⟩) 2 cp d b.length ct,.slice ok c.length f,.int .i16 shift,.int .u8 more]⟩,[],fF 4 (L4 ⟨uk [(a0,b0,c0,d0,e0),(a1,b1,c1,d1,e1)]⟩ ⟨encR b⟩ ⟨[]⟩ ⟨rG c⟩)⟩:=by
 have k:∀x∈(⟨uk [(a0,b0,c0,d0,e0),(a1,b1,c1,d1,e1)]⟩:Array Value),Plain x:=fun x g=>oC _ x (by simpa using g)
 have l:∀x∈(⟨encR b⟩:Array Value),Plain x:=fun x g=>oD b x (by simpa using g)
 have m:∀x∈(⟨[]⟩:Array Value),Plain x:=fun x g=>by simp at g
 have r:∀x∈(⟨rG c⟩:Array Value),Plain x:=fun x g=>kZ c x (by simpa using g)
 have i:=acz k l m r
 have h:∀(p:List Int),∀x∈(⟨[bm pw qs (some ⟨0,0,none⟩) 2 cp d b.length ct]⟩:Array Value),pW (· <4) x:=fun p x g=>by rw[mem1 g];exact OT (by decide) hz0 a
 have t:=ck2 (pw:=pw) (qs:=qs) (cp:=cp) (ct:=ct) (sc:=⟨[]⟩) (kc:=⟨rG c⟩) (a0:=a0) (b0:=b0) (c0:=c0) (d0:=d0) (e0:=e0) (a1:=a1) (b1:=b1) (c1:=c1) (d1:=d1) (e1:=e1) a
 by_cases j:Hd pw qs/\pR [(a0,b0,c0,d0,e0),(a1,b1,c1,d1,e1)]/\b.length<=3/\pU 2 b
 ·have s:0<=c0/\c0<=d0/\d0<=199/\0<=e0/\e0<=199/\0<=c1/\c1<=d1/\d1<=199/\0<=e1/\e1<=199:=by have:=j.2.1;simp only[pR,and_true]at this;omega
  exact ZJ (V:=Hd pw qs/\pR [(a0,b0,c0,d0,e0),(a1,b1,c1,d1,e1)]/\b.length<=3/\pU 2 b) u (fun _=>s) (jF ⟨fun p _=>t,fun _ _=>i,h,fun _ _ _ _=>.int _ _⟩ (jF (DX k l m o q) (jF ⟨fun p _=>snR j.1 (by decide) j.2.2.1 j.2.2.2 a i (afQ j.2.1),fun _ _=>i,h,fun _ _ _ _=>.int _ _⟩ (jF ⟨fun p _=>afZ s,fun _ _=>i,h,fun _ _ _ _=>.int _ _⟩ (jF (aiD s i a) gX)))))
 ·exact DW (jF ⟨fun p _=>t.mono fun v _ ⟨x,w,y⟩=>⟨x,fun e=>j (w e),y⟩,fun _ _=>i,h,fun _ _ _ _=>.int _ _⟩ gX)
theorem ak7{a0 b0 c0 d0 e0 a1 b1 c1 d1 e1 a2 b2 c2 d2 e2:Int}(a:Bf 1 b.length d)(o:Bf 3 c.length ok)(q:∀n∈c,0<=n/\n<=65535)(u:-32768<=shift/\shift<=32767/\0<=more/\more<=255):
  aJ Tryz.prog zC ⟨aN.enter Tryz.prog 3 ⟨[bm pw qs (some ⟨0,0,none⟩) 3 cp d b.length ct,.slice ok c.length f,.int .i16 shift,.int .u8 more]⟩,[],fF 4 (L4 ⟨uk [(a0,b0,c0,d0,e0),(a1,b1,c1,d1,e1),(a2,b2,c2,d2,e2)]⟩ ⟨encR b⟩ ⟨[]⟩ ⟨rG c⟩)⟩:=by
 have k:∀x∈(⟨uk [(a0,b0,c0,d0,e0),(a1,b1,c1,d1,e1),(a2,b2,c2,d2,e2)]⟩:Array Value),Plain x:=fun x g=>oC _ x (by simpa using g)
 have l:∀x∈(⟨encR b⟩:Array Value),Plain x:=fun x g=>oD b x (by simpa using g)
 have m:∀x∈(⟨[]⟩:Array Value),Plain x:=fun x g=>by simp at g
 have r:∀x∈(⟨rG c⟩:Array Value),Plain x:=fun x g=>kZ c x (by simpa using g)
 have i:=acz k l m r
 have h:∀(p:List Int),∀x∈(⟨[bm pw qs (some ⟨0,0,none⟩) 3 cp d b.length ct]⟩:Array Value),pW (· <4) x:=fun p x g=>by rw[mem1 g];exact OT (by decide) hz0 a
 have t:=ck3 (pw:=pw) (qs:=qs) (cp:=cp) (ct:=ct) (sc:=⟨[]⟩) (kc:=⟨rG c⟩) (a0:=a0) (b0:=b0) (c0:=c0) (d0:=d0) (e0:=e0) (a1:=a1) (b1:=b1) (c1:=c1) (d1:=d1) (e1:=e1) (a2:=a2) (b2:=b2) (c2:=c2) (d2:=d2) (e2:=e2) a
 by_cases j:Hd pw qs/\pR [(a0,b0,c0,d0,e0),(a1,b1,c1,d1,e1),(a2,b2,c2,d2,e2)]/\b.length<=3/\pU 3 b
 ·have s:0<=c0/\c0<=d0/\d0<=199/\0<=e0/\e0<=199/\0<=c1/\c1<=d1/\d1<=199/\0<=e1/\e1<=199/\0<=c2/\c2<=d2/\d2<=199/\0<=e2/\e2<=199:=by have:=j.2.1;simp only[pR,and_true]at this;omega
  exact ZL (V:=Hd pw qs/\pR [(a0,b0,c0,d0,e0),(a1,b1,c1,d1,e1),(a2,b2,c2,d2,e2)]/\b.length<=3/\pU 3 b) u (fun _=>s) (jF ⟨fun p _=>t,fun _ _=>i,h,fun _ _ _ _=>.int _ _⟩ (jF (DX k l m o q) (jF ⟨fun p _=>snR j.1 (by decide) j.2.2.1 j.2.2.2 a i (afR j.2.1),fun _ _=>i,h,fun _ _ _ _=>.int _ _⟩ (jF ⟨fun p _=>af1 s,fun _ _=>i,h,fun _ _ _ _=>.int _ _⟩ (jF (aiE s i a) gX)))))
 ·exact DW (jF ⟨fun p _=>t.mono fun v _ ⟨x,w,y⟩=>⟨x,fun e=>j (w e),y⟩,fun _ _=>i,h,fun _ _ _ _=>.int _ _⟩ gX)
theorem ak8{a0 b0 c0 d0 e0 a1 b1 c1 d1 e1 a2 b2 c2 d2 e2 a3 b3 c3 d3 e3:Int}(a:Bf 1 b.length d)(o:Bf 3 c.length ok)(q:∀n∈c,0<=n/\n<=65535)(u:-32768<=shift/\shift<=32767/\0<=more/\more<=255):
  aJ Tryz.prog zC ⟨aN.enter Tryz.prog 3 ⟨[bm pw qs (some ⟨0,0,none⟩) 4 cp d b.length ct,.slice ok c.length f,.int .i16 shift,.int .u8 more]⟩,[],fF 4 (L4 ⟨uk [(a0,b0,c0,d0,e0),(a1,b1,c1,d1,e1),(a2,b2,c2,d2,e2),(a3,b3,c3,d3,e3)]⟩ ⟨encR b⟩ ⟨[]⟩ ⟨rG c⟩)⟩:=by
 have k:∀x∈(⟨uk [(a0,b0,c0,d0,e0),(a1,b1,c1,d1,e1),(a2,b2,c2,d2,e2),(a3,b3,c3,d3,e3)]⟩:Array Value),Plain x:=fun x g=>oC _ x (by simpa using g)
 have l:∀x∈(⟨encR b⟩:Array Value),Plain x:=fun x g=>oD b x (by simpa using g)
 have m:∀x∈(⟨[]⟩:Array Value),Plain x:=fun x g=>by simp at g
 have r:∀x∈(⟨rG c⟩:Array Value),Plain x:=fun x g=>kZ c x (by simpa using g)
 have i:=acz k l m r
 have h:∀(p:List Int),∀x∈(⟨[bm pw qs (some ⟨0,0,none⟩) 4 cp d b.length ct]⟩:Array Value),pW (· <4) x:=fun p x g=>by rw[mem1 g];exact OT (by decide) hz0 a
 have t:=ck4 (pw:=pw) (qs:=qs) (cp:=cp) (ct:=ct) (sc:=⟨[]⟩) (kc:=⟨rG c⟩) (a0:=a0) (b0:=b0) (c0:=c0) (d0:=d0) (e0:=e0) (a1:=a1) (b1:=b1) (c1:=c1) (d1:=d1) (e1:=e1) (a2:=a2) (b2:=b2) (c2:=c2) (d2:=d2) (e2:=e2) (a3:=a3) (b3:=b3) (c3:=c3) (d3:=d3) (e3:=e3) a
 by_cases j:Hd pw qs/\pR [(a0,b0,c0,d0,e0),(a1,b1,c1,d1,e1),(a2,b2,c2,d2,e2),(a3,b3,c3,d3,e3)]/\b.length<=3/\pU 4 b
 ·have s:0<=c0/\c0<=d0/\d0<=199/\0<=e0/\e0<=199/\0<=c1/\c1<=d1/\d1<=199/\0<=e1/\e1<=199/\0<=c2/\c2<=d2/\d2<=199/\0<=e2/\e2<=199/\0<=c3/\c3<=d3/\d3<=199/\0<=e3/\e3<=199:=by have:=j.2.1;simp only[pR,and_true]at this;omega
  exact Z5 (V:=Hd pw qs/\pR [(a0,b0,c0,d0,e0),(a1,b1,c1,d1,e1),(a2,b2,c2,d2,e2),(a3,b3,c3,d3,e3)]/\b.length<=3/\pU 4 b) u (fun _=>s) (jF ⟨fun p _=>t,fun _ _=>i,h,fun _ _ _ _=>.int _ _⟩ (jF (DX k l m o q) (jF ⟨fun p _=>snR j.1 (by decide) j.2.2.1 j.2.2.2 a i (afS j.2.1),fun _ _=>i,h,fun _ _ _ _=>.int _ _⟩ (jF ⟨fun p _=>af4 s,fun _ _=>i,h,fun _ _ _ _=>.int _ _⟩ (jF (aiF s i a) gX)))))
 ·exact DW (jF ⟨fun p _=>t.mono fun v _ ⟨x,w,y⟩=>⟨x,fun e=>j (w e),y⟩,fun _ _=>i,h,fun _ _ _ _=>.int _ _⟩ gX)
theorem ak9{g k l m n:Nat}{op:Option Addr}(h:¬(2<=g/\g<=4))(h0:Bf 0 m op)(o:Bf 1 n d):
  aJ Tryz.prog zC ⟨aN.enter Tryz.prog 3 ⟨[bm pw qs op g cp d k ct,.slice ok l f,.int .i16 shift,.int .u8 more]⟩,[],fF 4 []⟩:=by
 have q:Xa 4 []:=⟨fun p i=>absurd i List.not_mem_nil,fun p i=>absurd i List.not_mem_nil,List.nodup_nil⟩
 refine ZH (jF ⟨fun p _=>afP h,fun _ _=>q,fun p x r=>?_,fun _ _ _ _=>.int _ _⟩ gX);rw[mem1 r];refine .agg fun y j=>?_
 simp only[List.mem_toArray,List.mem_cons,List.not_mem_nil,or_false]at j;rcases j with rfl|rfl|rfl|rfl;iterate 2 exact .int _ _
 ·exact af5 fun a e=>by rw[h0.2 a e];exact(by decide:(0:Nat)<4)
 ·exact af5 fun a e=>by rw[o.2 a e];exact(by decide:(1:Nat)<4)
end
end Go.Am
namespace Go.Am
inductive FK where
 |int (k:IntKind)
 |bool
def FK.ok:FK->Value->Prop
 | .int k,v=>∃n,v=.int k n/\(Lit.int k n).wf=true
 | .bool,v=>∃b,v=.bool b
def Z7(a:List FK)(vs:List Value):Prop:=vs.length=a.length/\∀(i:Nat) k,a[i]?=some k->∃v,vs[i]?=some v/\k.ok v
noncomputable def uo(P:Program)(g:TypeId->Option (List FK))(a:Option (List FK))(f:Field):Option (List FK):=match a with
 |some l=>if f.offset=l.length then match g f.type with
  |some b=>if b.length=P.cellsOf f.type then some (l++b)else none
  |none=>none else none
 |none=>none
noncomputable def uq(P:Program):Nat->TypeId->Option (List FK)
 |0,_=>none
 |n+1,t=>match P.underlying t with
  |some (.int k)=>some [.int k]
  |some .bool=>some [.bool]
  |some (.struct a)=>match a.toList.foldl (uo P (uq P n)) (some [])with
   |some l=>if l.length=P.cellsOf t then some l else none
   |none=>none
  |_=>none
theorem mapM_mem{e g:Type}{f:e->Option g}:∀{l:List e} {c:List g},l.mapM f=some c->∀x∈l,∃y,f x=some y
 | [],c,h,x,b=>by cases b
 |a::l,c,h,x,b=>by
  rw[List.mapM_cons]at h;cases d:f a with
  |none=>rw[d]at h;cases h
  |some y=>
   rw[d]at h;cases i:l.mapM f with
   |none=>rw[i]at h;cases h
   |some zs=>
    rcases List.mem_cons.1 b with rfl|b
    ·exact⟨y,d⟩
    ·exact mapM_mem i x b
theorem Ej{g j:Type}{f:g->Option j}:∀{l:List g} {c:List j},l.mapM f=some c->c.length=l.length/\∀(i:Nat) x,l[i]?=some x->∃y,c[i]?=some y/\f x=some y
 | [],c,h=>by cases h;exact⟨rfl,fun i x b=>by simp at b⟩
 |a::l,c,h=>by
  rw[List.mapM_cons]at h;cases d:f a with
  |none=>rw[d]at h;cases h
  |some y=>
   rw[d]at h;cases e:l.mapM f with
   |none=>rw[e]at h;cases h
   |some zs=>
    rw[e]at h;cases h;obtain⟨m,n⟩:=Ej e
    refine⟨by simp[m],fun i x b=>?_⟩;cases i with
    |zero=>simp at b;subst b;exact⟨y,rfl,d⟩
    |succ i=>simp at b;obtain⟨z,o,p⟩:=n i x b;exact⟨z,by simpa using o,p⟩
section
variable{H:Type}{enc:TypeId×Value->H}{P:Program}{W:World}{base:Nat}{spare:Nat->Bool}{held:Bool}
theorem AQ{a:Nat}{t:TypeId}{c:Array Field}{b:List Value}{x:DataW H×List MemPlace}(e:P.underlying t=some (.struct c))(h:DataW.trod enc P W base spare held (a+1) t b=some x):
  b.length=P.cellsOf t/\∀f∈c.toList,∃y,DataW.trod enc P W base spare held a f.type ((b.drop f.offset).take (P.cellsOf f.type))=some y:=by
 unfold DataW.trod at h;rw[e]at h;dsimp only at h;split at h
 ·rename_i g;refine⟨g,fun f i=>?_⟩;cases d:(c.toList.mapM fun f=>DataW.trod enc P W base spare held a f.type ((b.drop f.offset).take (P.cellsOf f.type)))with
  |none=>rw[d]at h;cases h
  |some j=>exact mapM_mem d f i
 ·cases h
theorem Hw{g:TypeId->Option (List FK)}:∀l:List Field,l.foldl (uo P g) none=none
 | []=>rfl
 |f::l=>by rw[List.foldl_cons];exact Hw l
theorem uX:∀(n b:Nat) (t:TypeId) (j:List Value) (x:DataW H×List MemPlace) (m:List FK),DataW.trod enc P W base spare held b t j=some x->uq P n t=some m->Z7 m j
 |0,b,t,j,x,m,h,k=>by cases k
 |n+1,0,t,j,x,m,h,k=>by cases h
 |n+1,b+1,t,j,x,m,h,k=>by
  unfold uq at k;split at k
  ·rename_i Z p;cases k;unfold DataW.trod at h;rw[p]at h;split at h<;>first|(rename_i e;cases e;done)|(cases h;done)|skip
   all_goals first|(rename_i e;cases e)|skip
   split at h
   ·rename_i z;cases h;refine⟨rfl,fun i k c=>?_⟩;cases i with
    |zero=>simp at c;subst c;exact⟨_,rfl,_,by rw[z.1],z.2⟩
    |succ i=>simp at c
   ·cases h
  ·rename_i p;cases k;unfold DataW.trod at h;rw[p]at h;split at h<;>first|(rename_i e;cases e;done)|(cases h;done)|skip
   all_goals first|(rename_i e;cases e)|skip
   refine⟨rfl,fun i k c=>?_⟩;cases i with
   |zero=>simp at c;subst c;exact⟨_,rfl,_,rfl⟩
   |succ i=>simp at c
  ·rename_i L p;obtain⟨M,N⟩:=AQ p h
   split at k
   ·rename_i l O;split at k
    ·rename_i r;cases k;refine⟨M.trans r.symm,?_⟩;have A:∀(s:List Field) (a:List FK),(∀f∈s,∃y,DataW.trod enc P W base spare held b f.type ((j.drop f.offset).take (P.cellsOf f.type))=some y)->
       (∀(i:Nat) k,a[i]?=some k->∃v,j[i]?=some v/\k.ok v)->s.foldl (uo P (uq P n)) (some a)=some m->∀(i:Nat) k,m[i]?=some k->∃v,j[i]?=some v/\k.ok v:=by
      intro s;induction s with
      |nil=>intro a _ h0 o;cases o;exact h0
      |cons f s Q=>
       intro a E h0 o;rw[List.foldl_cons]at o;cases d:uo P (uq P n) (some a) f with
       |none=>rw[d,Hw]at o;cases o
       |some u=>
        rw[d]at o;refine Q u (fun R B=>E R (.tail _ B)) ?_ o;unfold uo at d;dsimp only at d;split at d
        ·rename_i w;split at d
         ·rename_i F C;split at d
          ·rename_i T;cases d;obtain⟨y,U⟩:=E f (.head _)
           have V:=uX n b f.type _ y F U C
           intro i k g;by_cases X:i<a.length
           ·rw[List.getElem?_append_left X]at g;exact h0 i k g
           ·rw[List.getElem?_append_right (by omega)]at g;obtain⟨v,J,D⟩:=V.2 _ k g;have Y:i-a.length<F.length:=(List.getElem?_eq_some_iff.1 g).1;rw[List.getElem?_take_of_lt (by omega),List.getElem?_drop,w]at J;exact⟨v,by rw[show i=a.length+(i-a.length) by omega];exact J,D⟩
          ·cases d
         ·cases d
        ·cases d
     exact A L.toList [] N (fun i k z=>by simp at z) O
    ·cases k
   ·cases k
  ·cases k
theorem trod_slice{f:Nat}{t e:TypeId}{v:Value}{x:DataW H×List MemPlace}{ks:List FK}{d:Nat}(O:P.underlying t=some (.slice e))(Q:uq P d e=some ks)(R:P.cellsOf e=ks.length)(s:0<ks.length)(h:DataW.trod enc P W base spare held f t [v]=some x):
  v=.slice none 0 0∨∃a n c,v=.slice (some a) n c/\n<=c/\c<=maxLen/\∀i,i<n->a.spot=none/\∃C E g,W.heap[a.block]?=some (.cells C E g)/\∃q:List Value,q.length=ks.length/\Z7 ks q/\∀j,j<ks.length->C[a.off+i*ks.length+j]?=q[j]?:=by
 cases f with
 |zero=>cases h
 |succ f=>
  unfold DataW.trod at h;rw[O]at h;split at h<;>first|(rename_i r;cases r;done)|(rename_i r w;cases r;done)|skip
  all_goals first|(cases h;done)|skip
  ·rename_i r w;cases w;exact .inl rfl
  ·rename_i r w;cases r;cases w;right;rename_i a n c;refine⟨a,n,c,rfl,?_⟩;dsimp only at h;split at h
   ·rename_i F;refine⟨F.2.1,F.2.2,fun i T=>?_⟩;cases A:((List.range n).mapM fun i=>(W.cells? base (a.add (i*P.cellsOf e)) (P.cellsOf e)).bind (DataW.trod enc P W base spare held f e))with
    |none=>rw[A]at h;cases h
    |some ys=>
     obtain⟨y,z⟩:=mapM_mem A i (List.mem_range.2 T)
     cases m:W.cells? base (a.add (i*P.cellsOf e)) (P.cellsOf e)with
     |none=>rw[m]at z;cases z
     |some q=>
      rw[m]at z;have J:=uX d f e q y ks z Q
      unfold World.cells? at m;split at m
      ·obtain⟨g1,U⟩:=Ej m
       have cellAt:∀j,j<ks.length->∃v,q[j]?=some v/\W.cell? ((a.add (i*P.cellsOf e)).add j)=some v:=fun j L=>by
        obtain⟨v,B,l⟩:=U j j (by rw[List.getElem?_range];omega)
        exact⟨v,B,l⟩
       have o:a.spot=none:=by
        obtain⟨y0,u⟩:=mapM_mem A 0 (List.mem_range.2 (by omega))
        cases k:W.cells? base (a.add (0*P.cellsOf e)) (P.cellsOf e)with
        |none=>rw[k]at u;cases u
        |some V=>
         unfold World.cells? at k;split at k
         ·obtain⟨_,X⟩:=Ej k
          obtain⟨v,_,l⟩:=X 0 0 (by rw[List.getElem?_range];omega)
          rw[Nat.zero_mul]at l;have:(a.add 0).add 0=a:=rfl
          rw[this]at l;unfold World.cell? at l;split at l
          ·split at l
           ·cases l
           ·rename_i Y;simpa using Y
          ·cases l
         ·cases k
       refine⟨o,?_⟩;have M:∀j,(a.add (i*P.cellsOf e)).add j=⟨a.block,a.off+i*P.cellsOf e+j,none⟩:=fun j=>by
        obtain⟨b,Z,sp⟩:=a
        dsimp only at o;subst o;rw[add_plain,add_plain]
       obtain⟨v0,_,p⟩:=cellAt 0 s
       rw[M]at p;unfold World.cell? at p;dsimp only at p;split at p
       ·rename_i C E g N;refine⟨C,E,g,N,q,J.1,J,fun j L=>?_⟩;obtain⟨v,B,l⟩:=cellAt j L
        rw[M]at l;unfold World.cell? at l;dsimp only at l;rw[N]at l;rw[B,←R];exact l
       ·cases p
      ·cases m
   ·cases h
end
end Go.Am
namespace Go.Am
noncomputable def fieldsOf(P:Program)(t:TypeId):List (TypeId×Nat):=match P.underlying t with
 |some (.struct a)=>a.toList.map fun f=>(f.type,f.offset)
 |_=>[]
section
variable{H:Type}{enc:TypeId×Value->H}{P:Program}{W:World}{base:Nat}{spare:Nat->Bool}{held:Bool}
theorem acH{a:Nat}{t:TypeId}{g:List Value}{x:DataW H×List MemPlace}{l:List (TypeId×Nat)}(b:fieldsOf P t=l)(h:DataW.trod enc P W base spare held (a+1) t g=some x){d:TypeId}{c:Nat}(i:(d,c)∈l):
  ∃y,DataW.trod enc P W base spare held a d ((g.drop c).take (P.cellsOf d))=some y:=by
 unfold fieldsOf at b;split at b
 ·rename_i k j;subst b;obtain⟨f,b,e⟩:=List.mem_map.1 i;cases e;exact(AQ j h).2 f b
 ·subst b;cases i
theorem Z8{b:TypeId->Bool}:∀(d:Nat) {e:TypeId} {count a n:Nat},rowAt P b d e count a n=true->a<=count*P.cellsOf e
 |0,e,count,a,n,h=>by cases h
 |d+1,e,count,a,n,h=>by
  unfold rowAt at h;dsimp only at h;split at h
  ·cases h
  ·rename_i j;have c:0<P.cellsOf e:=Nat.pos_of_ne_zero j
   have f:=Nat.div_add_mod a (P.cellsOf e)
   have k:=Nat.mod_lt a c
   rw[Bool.or_eq_true]at h;rcases h with h|h
   ·simp only[Bool.and_eq_true,beq_iff_eq,decide_eq_true_eq]at h;have g:a/P.cellsOf e<=count:=by omega
    have i:=Nat.mul_le_mul_right (P.cellsOf e) g
    rw[Nat.mul_comm]at f;omega
   ·rw[Bool.and_eq_true,decide_eq_true_eq]at h;have g:a/P.cellsOf e+1<=count:=h.1;have i:=Nat.mul_le_mul_right (P.cellsOf e) g
    rw[Nat.add_mul,Nat.one_mul]at i;rw[Nat.mul_comm]at f;omega
theorem Hy:∀(d:Nat) {e u:TypeId} {count a n:Nat},liesAt P d e count a u n=true->a<=count*P.cellsOf e
 |0,e,u,count,a,n,h=>by cases h
 |d+1,e,u,count,a,n,h=>by
  unfold liesAt at h;rw[Bool.or_eq_true]at h;rcases h with h|h
  ·exact Z8 _ h
  ·split at h
   ·exact Hy d h
   ·cases h
theorem VM{r:Reach}{i:Nat}{a:Addr}{e:TypeId}{n:Nat}(h:W.has P r i a e n):a.spot=none/\∃C E g,W.heap[a.block]?=some (.cells C E g)/\a.off<=C.size:=by
 obtain⟨_,j,k,cells,b,l⟩:=h
 refine⟨j,?_⟩;unfold World.shape? at b;split at b
 ·rename_i c d f m;cases b;refine⟨c,_,f,m,Nat.le_trans (Hy _ l) (Nat.div_mul_le_self _ _)⟩
 ·cases b
theorem aeb{C:Array Value}{ks:List FK}:∀(n a:Nat),(∀i,i<n->∃c:List Value,Z7 ks c/\∀j,j<ks.length->C[a+i*ks.length+j]?=c[j]?)->
  ∃b:List (List Value),b.length=n/\(∀e∈b,Z7 ks e)/\∀(i:Nat) v,b.flatten[i]?=some v->C[a+i]?=some v
 |0,a,h=>⟨[],rfl,fun e f=>absurd f List.not_mem_nil,fun i v d=>by simp at d⟩
 |n+1,a,h=>by
  obtain⟨c,k,l⟩:=h 0 (by omega)
  obtain⟨b,m,o,p⟩:=aeb n (a+ks.length) fun i g=>by
   obtain⟨c,q1,q⟩:=h (i+1) (by omega)
   exact⟨c,q1,fun j r=>by rw[←q j r,Nat.add_mul,Nat.one_mul];congr 1;omega⟩
  refine⟨c::b,by simp[m],fun e f=>?_,fun i v d=>?_⟩
  ·rcases List.mem_cons.1 f with rfl|f
   ·exact k
   ·exact o e f
  ·rw[List.flatten_cons]at d;by_cases g:i<c.length
   ·rw[List.getElem?_append_left g]at d;have:=l i (by rw[←k.1];exact g)
    rw[Nat.zero_mul,Nat.add_zero]at this;rw[this];exact d
   ·rw[List.getElem?_append_right (by omega)]at d;have:=p _ v d
    rw[k.1]at this g;rw[←this];congr 1;omega
structure Sl(W:World)(ks:List FK)(v:Value)(o:Option Addr)(n c:Nat)(els:List (List Value)):Prop where
 len:els.length=n
 fk:∀e∈els,Z7 ks e
 val:v=.slice o n c
 lies:∀a,o=some a->a.spot=none/\∃C E g,W.heap[a.block]?=some (.cells C E g)/\a.off+els.flatten.length<=C.size/\∀(i:Nat) v,els.flatten[i]?=some v->C[a.off+i]?=some v
 nil:o=none->n=0
 cap:n<=c
theorem Z9{r:Reach}{q j d:Nat}{t e:TypeId}{v:Value}{x:DataW H×List MemPlace}{ks:List FK}(m:P.underlying t=some (.slice e))(y:uq P d e=some ks)(z:P.cellsOf e=ks.length)(k:0<ks.length)
  (h:DataW.trod enc P W base spare held j t [v]=some x) (f:Cell.okWide P W r q t v):∃o n c b,Sl W ks v o n c b:=by
 rcases trod_slice m y z k h with rfl|⟨a,n,c,rfl,R,T,p⟩
 ·exact⟨none,0,0,[],rfl,fun e A=>absurd A List.not_mem_nil,rfl,fun a e=>(by cases e),fun _=>rfl,Nat.le_refl _⟩
 ·have B:W.has P r q a e c:=by unfold Cell.okWide at f;rw[m]at f;dsimp only at f;unfold Cell.ok at f;rw[m]at f;exact f.2.2
  obtain⟨D,C,E,g,s,u⟩:=VM B
  obtain⟨b,F,J,w⟩:=aeb (C:=C) (ks:=ks) n a.off fun i L=>by
   obtain⟨_,U,V,X,l,M,q1,N,O⟩:=p i L
   rw[s]at l;cases l;exact⟨M,N,O⟩
  refine⟨some a,n,c,b,F,J,rfl,fun Y e=>?_,fun e=>(by cases e),by omega⟩;cases e;refine⟨D,C,E,g,s,?_,w⟩;by_cases Z:b.flatten.length=0
  ·omega
  ·have Q:b.flatten.length-1<b.flatten.length:=by omega
   have:=w (b.flatten.length-1) _ (List.getElem?_eq_getElem Q)
   have:=(Array.getElem?_eq_some_iff.1 this).1;omega
end
def slO(b:Nat)(o:Option Addr):Option Addr:=match o with
 |some _=>some ⟨b,0,none⟩
 |none=>none
def vz(d:Nat×Nat)(o:Option Addr):Nat×Nat:=match o with
 |some a=>(a.block,a.off)
 |none=>d
theorem Sl.vr{W:World}{i:List FK}{v:Value}{o:Option Addr}{n c b:Nat}{f:List (List Value)}{ρ:Env}{d:Nat×Nat}(S:Sl W i v o n c f)(j:o≠none->ρ.born b)(k:ρ.to b=vz d o):VR ρ (.slice (slO b o) n c) v:=by
 rw[S.val];cases o with
 |none=>exact .nilslice n c
 |some a=>
  obtain⟨h,_⟩:=S.lies a rfl
  have e:a=ρ.addr ⟨b,0,none⟩:=by
   obtain⟨l,g,m⟩:=a
   dsimp only at h;subst h;have:ρ.to b=(l,g):=k
   simp[Env.addr,this]
  conv=>rhs;rw[e]
  exact .slice (j (by simp)) (.inl rfl)
end Go.Am
namespace Go.Am
open Go.Proofs
abbrev i64:FK:=.int .i64
theorem fk1{e:List Value}{k:IntKind}(h:Z7 [.int k] e):∃a,e=[.int k a]/\(Lit.int k a).wf=true:=by
 obtain⟨c,h⟩:=h
 rcases e with _|⟨x,_|_⟩<;>simp at c
 obtain⟨v,b,a,rfl,d⟩:=h 0 _ rfl
 simp at b;exact⟨a,by rw[b],d⟩
theorem fk3{e:List Value}(h:Z7 [i64,i64,i64] e):∃a b c,e=[zJ a,zJ b,zJ c]:=by
 obtain⟨i,h⟩:=h
 rcases e with _|⟨x,_|⟨y,_|⟨z,_|_⟩⟩⟩<;>simp at i
 obtain⟨v,d,a,rfl,_⟩:=h 0 _ rfl
 obtain⟨w,f,b,rfl,_⟩:=h 1 _ rfl
 obtain⟨w,g,c,rfl,_⟩:=h 2 _ rfl
 simp at d f g;exact⟨a,b,c,by rw[d,f,g]⟩
theorem fk5{e:List Value}(h:Z7 [i64,i64,i64,i64,i64] e):∃a b c d f,e=[zJ a,zJ b,zJ c,zJ d,zJ f]:=by
 obtain⟨m,h⟩:=h
 rcases e with _|⟨x,_|⟨y,_|⟨z,_|⟨u,_|⟨s,_|_⟩⟩⟩⟩⟩<;>simp at m
 obtain⟨v,g,a,rfl,_⟩:=h 0 _ rfl
 obtain⟨w,i,b,rfl,_⟩:=h 1 _ rfl
 obtain⟨w,j,c,rfl,_⟩:=h 2 _ rfl
 obtain⟨w,k,d,rfl,_⟩:=h 3 _ rfl
 obtain⟨w,l,f,rfl,_⟩:=h 4 _ rfl
 simp at g i j k l;exact⟨a,b,c,d,f,by rw[g,i,j,k,l]⟩
theorem aiH:∀i:List (List Value),(∀e∈i,Z7 [i64,i64,i64,i64,i64] e)->∃g,i.flatten=uk g/\g.length=i.length
 | [],h=>⟨[],rfl,rfl⟩
 |e::r,h=>by
  obtain⟨a,b,c,d,f,rfl⟩:=fk5 (h e (.head _))
  obtain⟨g,j,k⟩:=aiH r fun e l=>h e (.tail _ l)
  exact⟨(a,b,c,d,f)::g,by rw[List.flatten_cons,j];rfl,by simp[k]⟩
theorem aiI:∀f:List (List Value),(∀e∈f,Z7 [i64,i64,i64] e)->∃d,f.flatten=encR d/\d.length=f.length
 | [],h=>⟨[],rfl,rfl⟩
 |e::r,h=>by
  obtain⟨a,b,c,rfl⟩:=fk3 (h e (.head _))
  obtain⟨d,g,i⟩:=aiI r fun e j=>h e (.tail _ j)
  exact⟨(a,b,c)::d,by rw[List.flatten_cons,g];rfl,by simp[i]⟩
theorem aiJ:∀b:List (List Value),(∀e∈b,Z7 [.int .u16] e)->∃c,b.flatten=rG c/\c.length=b.length/\∀n∈c,0<=n/\n<=65535
 | [],h=>⟨[],rfl,rfl,fun n h=>absurd h List.not_mem_nil⟩
 |e::r,h=>by
  obtain⟨a,rfl,f⟩:=fk1 (h e (.head _))
  obtain⟨c,g,i,j⟩:=aiJ r fun e k=>h e (.tail _ k)
  refine⟨a::c,by rw[List.flatten_cons,g];rfl,by simp[i],fun n d=>?_⟩;rcases List.mem_cons.1 d with rfl|d
  ·simpa [Lit.wf,IntKind.min,IntKind.max,IntKind.signed,IntKind.bits]using f
  ·exact j n d
section
variable{d e shift more:Int}{c ok:Option Addr}{f g h:Nat}{a:List (Int×Int×Int)}{b:List Int}
theorem alb(i:List (Int×Int×Int×Int×Int))(y:2<=i.length/\i.length<=4)(j:Bf 1 a.length c)(k:Bf 3 b.length ok)(l:∀n∈b,0<=n/\n<=65535)(m:-32768<=shift/\shift<=32767/\0<=more/\more<=255):
  aJ Tryz.prog zC ⟨aN.enter Tryz.prog 3 ⟨[bm d e (some ⟨0,0,none⟩) i.length f c a.length g,.slice ok b.length h,.int .i16 shift,.int .u8 more]⟩,[],fF 4 (L4 ⟨uk i⟩ ⟨encR a⟩ ⟨[]⟩ ⟨rG b⟩)⟩:=by
 match i,y with
 | [(o,p,q,r,s),(t,u,v,w,x)],_=>exact ak6 j k l m
 | [(o,p,q,r,s),(t,u,v,w,x),(z,A,B,d2,C)],_=>exact ak7 j k l m
 | [(o,p,q,r,s),(t,u,v,w,x),(z,A,B,d2,C),(D,E,F,d3,H)],_=>exact ak8 j k l m
end
theorem Jy{W:World}{f:List FK}{v:Value}{o:Option Addr}{n c b:Nat}{d:List (List Value)}(S:Sl W f v o n c d):Bf b n (slO b o):=by
 refine⟨fun g=>?_,fun a e=>?_⟩
 ·cases o with
  |none=>exact absurd (S.nil rfl) g
  |some a=>rfl
 ·cases o with
  |none=>cases e
  |some h=>cases e;rfl
theorem aab{ρ:Env}:∀{l m:List Value},LR (VR ρ) l m->AR (VR ρ) (⟨l⟩:Array Value) ⟨m⟩
 | [],[],_=>⟨rfl,fun i x y c _=>by simp at c⟩
 |a::l,b::m,.cons h k=>by
  obtain⟨g,j⟩:=aab k
  have d:l.length=m.length:=by simpa using g
  refine⟨by simp[d],fun i x y c e=>?_⟩;cases i with
  |zero=>simp at c e;subst c;subst e;exact h
  |succ i=>exact j i x y (by simpa using c) (by simpa using e)
end Go.Am
namespace Go.Am
open Go.Proofs
open Go.Conc (G)
open Go.Ren (aH Keep full)
theorem agd{W:World}{j:List FK}{v:Value}{o:Option Addr}{n c:Nat}{b:List (List Value)}{l:List Value}{d:Nat×Nat}(S:Sl W j v o n c b)(k:b.flatten=l)(hd:∃C E g,W.heap[d.1]?=some (.cells C E g)/\d.2<=C.size):
  ∃C E,(∃g,W.heap[(vz d o).1]?=some (.cells C E g))/\(vz d o).2+(⟨l⟩:Array Value).size<=C.size/\∀(i:Nat) v,(⟨l⟩:Array Value)[i]?=some v->C[(vz d o).2+i]?=some v:=by
 subst k;cases o with
 |none=>
  have:b=[]:=List.eq_nil_of_length_eq_zero (S.len.trans (S.nil rfl))
  subst this;obtain⟨C,E,g,e,f⟩:=hd
  exact⟨C,E,⟨g,e⟩,by simpa [vz]using f,fun i v h=>by simp at h⟩
 |some a=>
  obtain⟨_,C,E,g,e,f,m⟩:=S.lies a rfl
  exact⟨C,E,⟨g,e⟩,by simpa [vz]using f,fun i v h=>m i v (by simpa using h)⟩
theorem BI{W:World}{e:List FK}{v:Value}{o:Option Addr}{n c:Nat}{b:List (List Value)}{d:Nat×Nat}(S:Sl W e v o n c b)(h:o≠none):(vz d o).1<W.heap.size:=by
 cases o with
 |none=>exact absurd rfl h
 |some a=>
  obtain⟨_,C,E,g,f,_⟩:=S.lies a rfl
  exact(Array.getElem?_eq_some_iff.1 f).1
def to4(d:Nat×Nat)(o0 a c e:Option Addr)(b:Nat):Nat×Nat:=match b with
 |0=>vz d o0
 |1=>vz d a
 |2=>vz d c
 |_=>vz d e
theorem aiK{a c d e:Array Value}{b:Nat}{B:cZ}(h:(fF 4 (L4 a c d e)).look b=some B):(b=0/\B=rdB (bk a))∨(b=1/\B=rdB (bk c))∨(b=2/\B=rdB (bk d))∨(b=3/\B=rdB (bk e)):=by
 have:=Jc _ (gy h)
 simp only[L4,List.map_cons,List.map_nil,List.mem_cons,Prod.mk.injEq,List.not_mem_nil,or_false]at this;exact this
theorem straight{W:World}{H J shift more:Int}{v0 L M:Value}{o0 q r:Option Addr}{n0 Z n3 c0 c1 c3:Nat}{e0 e1 e3:List (List Value)}(s:Sl W [i64,i64,i64,i64,i64] v0 o0 n0 c0 e0)(z:Sl W [i64,i64,i64] L q Z c1 e1)(D:Sl W [.int .u16] M r n3 c3 e3)
  (hn:-32768<=shift/\shift<=32767/\0<=more/\more<=255) {j:Value->World->Prop} {K:Machine->Trace->Prop} (a0:Jj Tryz.prog bD 5 (Go.Conc.Good Tryz.prog j)) (hP:∀w',Keep (fun b=>b<W.heap.size) W w'->j (.bool true) w'):
  aH Tryz.prog (Go.Conc.Good Tryz.prog j) K (Go.Conc.solo (G (Frame.enter Tryz.prog 3 ⟨[.agg ⟨[zJ H,zJ J,v0,L]⟩,M,.int .i16 shift,.int .u8 more]⟩ .normal) []) W) #[]:=by
 obtain⟨m,d0,l0⟩:=aiH e0 s.fk
 obtain⟨t,d1,l1⟩:=aiI e1 z.fk
 obtain⟨A,d3,l3,a1⟩:=aiJ e3 D.fk
 have m0:m.length=n0:=l0.trans s.len
 have m1:t.length=Z:=l1.trans z.len
 have m3:A.length=n3:=l3.trans D.len
 have args {ρ:Env} {d:Nat×Nat} (b0:o0≠none->ρ.born 0) (b1:q≠none->ρ.born 1) (b3:r≠none->ρ.born 3) (ht:ρ.to=to4 d o0 q none r):
   AR (VR ρ) (⟨[bm H J (slO 0 o0) n0 c0 (slO 1 q) Z c1,.slice (slO 3 r) n3 c3,.int .i16 shift,.int .u8 more]⟩:Array Value) ⟨[.agg ⟨[zJ H,zJ J,v0,L]⟩,M,.int .i16 shift,.int .u8 more]⟩:=by
  have k:=aab (ρ:=ρ) (.cons (.int .i64 H) (.cons (.int .i64 J) (.cons (s.vr (d:=d) b0 (by rw[ht];rfl)) (.cons (z.vr (d:=d) b1 (by rw[ht];rfl)) .nil))))
  exact aab (.cons (.agg k.1 k.2) (.cons (D.vr (d:=d) b3 (by rw[ht];rfl)) (.cons (.int _ _) (.cons (.int _ _) .nil))))
 have N {ρ:Env} {hA:AH} (O:Rel ρ (fun _=>False) (fun b=>b<W.heap.size) hA W) {av:Array Value} (ha:AR (VR ρ) av ⟨[.agg ⟨[zJ H,zJ J,v0,L]⟩,M,.int .i16 shift,.int .u8 more]⟩)
   (R:aJ Tryz.prog zC ⟨aN.enter Tryz.prog 3 av,[],hA⟩):aH Tryz.prog (Go.Conc.Good Tryz.prog j) K (Go.Conc.solo (G (Frame.enter Tryz.prog 3 ⟨[.agg ⟨[zJ H,zJ J,v0,L]⟩,M,.int .i16 shift,.int .u8 more]⟩ .normal) []) W) #[]:=
  OI (X:=aY []) (bf gX) R a0 (by kernel_rfl) (by kernel_rfl) hP (Sr.start O ha)
 by_cases P:2<=n0/\n0<=4
 ·obtain⟨a,rfl⟩:∃a,o0=some a:=by
   cases o0 with
   |none=>have:=s.nil rfl;omega
   |some a=>exact⟨a,rfl⟩
  have hd:∃C E g,W.heap[(a.block,a.off).1]?=some (.cells C E g)/\(a.block,a.off).2<=C.size:=by
   obtain⟨_,C,E,g,F,V,_⟩:=s.lies a rfl
   exact⟨C,E,g,F,by dsimp only;omega⟩
  have Q:a.block<W.heap.size:=by
   obtain⟨C,E,g,F,_⟩:=hd
   exact(Array.getElem?_eq_some_iff.1 F).1
  have lt (o:Option Addr) {A:List FK} {v:Value} {n c:Nat} {w:List (List Value)} (S:Sl W A v o n c w):(vz (a.block,a.off) o).1<W.heap.size:=by
   cases o with
   |none=>exact Q
   |some b=>exact BI S (by simp)
  have T:∀b,b<4->(to4 (a.block,a.off) (some a) q none r b).1<W.heap.size:=fun b y=>by
   match b,y with
   |0,_=>exact lt _ s
   |1,_=>exact lt _ z
   |2,_=>exact Q
   |3,_=>exact lt _ D
  have O:Rel (ab4 (to4 (a.block,a.off) (some a) q none r) (fF 4 (L4 ⟨uk m⟩ ⟨encR t⟩ ⟨[]⟩ ⟨rG A⟩))) (fun _=>False) (fun b=>b<W.heap.size) (fF 4 (L4 ⟨uk m⟩ ⟨encR t⟩ ⟨[]⟩ ⟨rG A⟩)) W:=by
   refine Y1 (fun b B y=>?_) rfl T;have one {o:Option Addr} {A:List FK} {v:Value} {n c:Nat} {w:List (List Value)} {l:List Value} (S:Sl W A v o n c w) (p:w.flatten=l) (hp:∀x∈l,Plain x):
     (rdB (bk ⟨l⟩)).Xc/\∃c e f C E,(rdB (bk ⟨l⟩)).obj=.cells c e f/\(∃g,W.heap[(vz (a.block,a.off) o).1]?=some (.cells C E g))/\(vz (a.block,a.off) o).2+c.size<=C.size/\∀(i:Nat) v,c[i]?=some v->C[(vz (a.block,a.off) o).2+i]?=some v/\Plain v:=by
    obtain⟨C,E,F,V,h3⟩:=agd S p hd
    exact⟨⟨rfl,rfl,rfl⟩,⟨l⟩,_,_,C,E,rfl,F,V,fun i v Y=>⟨h3 i v Y,hp v (List.mem_of_getElem? (by simpa using Y))⟩⟩
   rcases aiK y with⟨rfl,rfl⟩|⟨rfl,rfl⟩|⟨rfl,rfl⟩|⟨rfl,rfl⟩
   ·exact one s d0 (oC _)
   ·exact one z d1 (oD _)
   ·obtain⟨C,E,g,F,V⟩:=hd
    exact⟨⟨rfl,rfl,rfl⟩,⟨[]⟩,_,_,C,E,rfl,⟨g,F⟩,by simpa [to4,vz]using V,fun i v Y=>by simp at Y⟩
   ·exact one D d3 (kZ _)
  have born:∀b,b<4->(ab4 (to4 (a.block,a.off) (some a) q none r) (fF 4 (L4 ⟨uk m⟩ ⟨encR t⟩ ⟨[]⟩ ⟨rG A⟩))).born b:=fun b y=>y
  refine N O (args (fun _=>born 0 (by decide)) (fun _=>born 1 (by decide)) (fun _=>born 3 (by decide)) rfl) ?_;subst m0 m1 m3;exact alb m P (Jy z) (Jy D) a1 hn
 ·have O:Rel {to:=to4 (0,0) o0 q none r,born:=fun b=>b<4/\(to4 (0,0) o0 q none r b).1<W.heap.size,bg:=fun _=>False,u:=fun _=>0,ext:=fun _=>0} (fun _=>False) (fun b=>b<W.heap.size) (fF 4 []) W:=by
   have U:∀b B,(fF 4 []).look b=some B->False:=fun b B h=>by cases h
   exact⟨fun b B _ _ _ _ p=>(U b B p).elim,fun b B _ p=>(U b B p).elim,fun b B _ p=>(U b B p).elim,fun b _ B _ _ _ p=>(U b B p).elim,fun b y=>y.1,fun b y=>y.2,fun b B _ p=>(U b B p).elim,fun f l hf=>(by cases hf),fun f l hf=>(by cases hf)⟩
  refine N O (args (d:=(0,0)) (fun h=>⟨by decide,BI s h⟩) (fun h=>⟨by decide,BI z h⟩) (fun h=>⟨by decide,BI D h⟩) rfl) ?_;exact ak9 P (Jy s) (Jy z)
end Go.Am
namespace Go.Am
def isStruct(P:Program)(t:TypeId):Bool:=match P.underlying t with
 |some (.struct _)=>true
 |_=>false
section
variable{H:Type}{enc:TypeId×Value->H}{P:Program}{W:World}{base:Nat}{spare:Nat->Bool}{held:Bool}
theorem VN{t:TypeId}{l:List (TypeId×Nat)}{e:List TypeId}{n:Nat}{v:Value}{d:DataW H}{p:List MemPlace}{r:Reach}{j:Nat}(f:isStruct P t=true)(s:fieldsOf P t=l)(w:P.cellTypes P.depth t=some e)(z:P.cellsOf t=n)
  (a:Value.okWide P W r j t v) (h:DataW.Trod enc P W base spare held t v d p):
  ∃c:List Value,v=.agg ⟨c⟩/\c.length=n/\(∀(i:Nat) x,c[i]?=some x->∃u,e[i%e.length]?=some u/\Cell.okWide P W r j u x)/\∃b,∀q∈l,∃y,DataW.trod enc P W base spare held b q.1 ((c.drop q.2).take (P.cellsOf q.1))=some y:=by
 unfold isStruct at f;split at f
 ·rename_i F A;unfold Value.okWide at a;rw[A]at a;obtain⟨c,rfl,g,B,m,_,C⟩:=a
  rw[w]at m;cases m;obtain⟨b,h⟩:=h
  cases b with
  |zero=>unfold DataW.trod at h;cases h
  |succ k=>
   obtain⟨c⟩:=c
   exact⟨c,rfl,by rw[←z];simpa using g,fun i x D=>C i x (by simpa using D),k,fun q E=>acH s h E⟩
 ·cases f
theorem VO{W c:World}{p:MemPlace}(h:c.heap[p.block]?=W.heap[p.block]?):W.sameAt c p:=by
 cases p with
 |cell b a=>
  show c.cell? ⟨b,a,none⟩=W.cell? ⟨b,a,none⟩
  unfold World.cell?;have h:c.heap[b]?=W.heap[b]?:=h
  rw[h]
 |map b=>exact h
theorem AU{t:TypeId}(i:laidOutB P=true)(j:P.readableRec t=true)(a:t<P.types.size){g:World}{v:Value}{d:DataW H}{e:List MemPlace}
  (h:DataW.Trod enc P W base (fun _=>true) true t v d e) (c:∀q∈e,q.block<W.heap.size) (k:∀b,b<W.heap.size->g.heap[b]?=W.heap[b]?):
  DataW.Trod enc P g base (fun b=>decide (b<W.heap.size)) true t v d e:=
 WideElems.Trod_stays i j a h (fun q f=>VO (k _ (c q f))) (fun q f=>decide_eq_true (c q f))
end
end Go.Am
namespace Go.Proofs.YtjgfemidkffdjaaGreat
open Go.ChangeShapes Go.WideShapes Go.ChangeAt Go.RowKit
open Go.Ren (Keep)
theorem own:ownKnob Tryz.prog.godebug=Option.none:=by kernel_rfl
theorem kept{W e:World}(h:Keep (fun b=>b<W.heap.size) W e)(d:MemPlace->Prop):W.keptBut {e with os:=W.os} d:=by
 refine⟨rfl,h.2.2.2,fun i l=>?_⟩;show match W.heap[i]?,e.heap[i]? with
  |some (.cells c t m),some (.cells k n f)=>n=t/\f=m/\k.size=c.size/\∀j:Nat,¬d (.cell i j)->k[j]?=c[j]?
  |some (.map p clock),some (.map g a)=>d (.map i)∨(g=p/\a=clock)
  |o,q=>q=o
 rw[h.1 i l];split<;>simp_all
theorem laidOut:laidOutB Tryz.prog=true:=by kernel_rfl
theorem stB:Go.Am.isStruct Tryz.prog 25=true:=by kernel_rfl
theorem fdB:Go.Am.fieldsOf Tryz.prog 25=[(3,0),(3,1),(22,2),(23,3)]:=by kernel_rfl
theorem ctB:Tryz.prog.cellTypes Tryz.prog.depth 25=some [3,3,22,23]:=by kernel_rfl
theorem czB:Tryz.prog.cellsOf 25=4:=by kernel_rfl
theorem czI:Tryz.prog.cellsOf 3=1:=by kernel_rfl
theorem czO:Tryz.prog.cellsOf 22=1:=by kernel_rfl
theorem czR:Tryz.prog.cellsOf 23=1:=by kernel_rfl
theorem flI:Go.Am.uq Tryz.prog 4 3=some [Go.Am.i64]:=by kernel_rfl
theorem flO:Go.Am.uq Tryz.prog 4 41=some [Go.Am.i64,Go.Am.i64,Go.Am.i64,Go.Am.i64,Go.Am.i64]:=by kernel_rfl
theorem flR:Go.Am.uq Tryz.prog 4 67=some [Go.Am.i64,Go.Am.i64,Go.Am.i64]:=by kernel_rfl
theorem flK:Go.Am.uq Tryz.prog 4 73=some [.int .u16]:=by kernel_rfl
set_option maxRecDepth 100000 in
theorem lifted(B:∀l,Go.Am.Jj Tryz.prog Go.Am.bD 5 (Go.Conc.Good Tryz.prog l))(N:Os)(started:N.Started)(H:Type)(enc:TypeId×Value->H)(F:Stop.Interp):
  ReturnsInLeavingWide {calm:=true} Tryz.checked N 3 .any (Rows.spileShiftsSpec.pre6 enc Tryz.prog Tryz.f3 Rows.spileShiftsRow.domain false) ((OpenSpec.ofChange Rows.spileShiftsSpec).postWith enc Tryz.prog Tryz.f3 F (outsideKept [.timePasses]) false true false):=by
 refine returnsInLeavingWide_of_change_time (C:=Tryz.checked) own started Tryz.func3
  (ChangeSpec.witness6c (enc:=enc) (C:=Tryz.checked) ⟨#[],#[.agg #[.int .i64 0,.int .i64 0,.slice none 0 0,.slice none 0 0],.slice none 0 0,.int .i16 0,.int .u8 0],[]⟩ 8 (by kernel_rfl) (by kernel_rfl) (by kernel_rfl) (by kernel_rfl)) ?_
 intro W base args ds gs before b O P _ _;have a:∀(j:Nat) t v,Tryz.f3.params[j]?=some t->args[j]?=some v->Value.okWide Tryz.prog W .any base t v:=b
 have g:=O
 obtain⟨p,q,m,hV,rfl,a0,a1⟩:=O
 have Q:DataW.TrodAll enc Tryz.prog W 0 (fun _=>true) true Tryz.f3.params.toList args.toList ds p:=m
 rw[Tryz.params3]at Q a;obtain⟨v0,a4,d0,a5,p0,q0,D,rfl,rfl,h0,r0⟩:=trodAll_cons Q
 obtain⟨n,a6,d1,a7,R,q1,rfl,rfl,rfl,h1,r1⟩:=trodAll_cons r0
 obtain⟨T,a8,d2,a9,p2,q2,rfl,rfl,rfl,h2,r2⟩:=trodAll_cons r1
 obtain⟨U,b0,d3,b1,p3,q3,rfl,rfl,rfl,h3,r3⟩:=trodAll_cons r2
 obtain⟨rfl,rfl,rfl⟩:=trodAll_nil r3
 obtain rfl:args=#[v0,n,T,U]:=by cases args;simp_all
 obtain⟨rfl,rfl⟩:=trodVars_none hV
 obtain⟨V,rfl,rfl,rfl,X⟩:=open_int Tryz.underlying27 (a 2 27 T rfl rfl) h2
 obtain⟨Y,rfl,rfl,rfl,Z⟩:=open_int Tryz.underlying5 (a 3 5 U rfl rfl) h3
 have k0:=a 0 25 v0 rfl rfl
 have E:=a 1 26 n rfl rfl
 clear m b;simp only[List.append_nil]at g;have b2:-32768<=V/\V<=32767:=by simpa [Lit.wf,IntKind.min,IntKind.max,IntKind.signed,IntKind.bits]using X
 have b3:0<=Y/\Y<=255:=by simpa [Lit.wf,IntKind.min,IntKind.max,IntKind.signed,IntKind.bits]using Z
 obtain⟨cs,rfl,hl,o,c,r⟩:=Go.Am.VN stB fdB ctB czB k0 h0
 obtain⟨s,w,i,k,rfl⟩:∃s w i k,cs=[s,w,i,k]:=by
  rcases cs with _|⟨s,_|⟨w,_|⟨i,_|⟨k,_|_⟩⟩⟩⟩<;>simp at hl
  exact⟨s,w,i,k,rfl⟩
 obtain⟨y0,t0⟩:=r (3,0) (by simp)
 obtain⟨y1,t1⟩:=r (3,1) (by simp)
 obtain⟨y2,y⟩:=r (22,2) (by simp)
 obtain⟨y3,t3⟩:=r (23,3) (by simp)
 simp only[czI,List.drop,List.take]at t0;simp only[czI,List.drop,List.take]at t1;simp only[czO,List.drop,List.take]at y;simp only[czR,List.drop,List.take]at t3;obtain⟨pw,e0,_⟩:=Go.Am.fk1 (Go.Am.uX 4 c 3 _ _ _ t0 flI)
 cases e0;obtain⟨qs,e1,_⟩:=Go.Am.fk1 (Go.Am.uX 4 c 3 _ _ _ t1 flI)
 cases e1;have u2:Cell.okWide Tryz.prog W .any base 22 i:=by obtain⟨u,J,h⟩:=o 2 i rfl;cases J;exact h
 have u3:Cell.okWide Tryz.prog W .any base 23 k:=by obtain⟨u,J,h⟩:=o 3 k rfl;cases J;exact h
 have z:Cell.okWide Tryz.prog W .any base 26 n:=by unfold Value.okWide at E;rw[Tryz.underlying26]at E;exact E
 obtain⟨d,t4⟩:=h1
 have e:∃x,DataW.trod enc Tryz.prog W 0 (fun _=>true) true d 26 [n]=some x:=by refine⟨(d1,R),?_⟩;rw[←t4];congr 1;unfold Cell.okWide at z;rw[Tryz.underlying26]at z;cases n<;>first|rfl|(simp[Cell.ok,Tryz.underlying26]at z)
 obtain⟨x4,e⟩:=e
 have hf:c≠0:=by rintro rfl;unfold DataW.trod at y;cases y
 obtain⟨f,rfl⟩:=Nat.exists_eq_succ_of_ne_zero hf
 have L:d≠0:=by rintro rfl;unfold DataW.trod at e;cases e
 obtain⟨b4,rfl⟩:=Nat.exists_eq_succ_of_ne_zero L
 obtain⟨o0,n0,m0,s0,S0⟩:=Go.Am.Z9 Tryz.underlying22 flO (by kernel_rfl) (by decide) y u2
 obtain⟨o1,n1,m1,s1,S1⟩:=Go.Am.Z9 Tryz.underlying23 flR (by kernel_rfl) (by decide) t3 u3
 obtain⟨o3,n3,m3,s3,S3⟩:=Go.Am.Z9 Tryz.underlying26 flK (by kernel_rfl) (by decide) e z
 refine Go.Ren.Fa ?_;refine Go.Am.straight S0 S1 S3 ⟨b2.1,b2.2,b3.1,b3.2⟩ (B _) fun w' A=>⟨?_,A.2.2.1⟩
 refine⟨_,_,_,[],p0++(R++[]),[],g,trodAll_cons_mk (shut_bool Tryz.underlying4 _) trodAll_mk0,?_,rfl,kept A _,fun h=>by cases h⟩;refine trodAll_cons_mk (Go.Am.AU laidOut (by kernel_rfl) (of_decide_eq_true (by kernel_rfl)) h0 ?_ A.1) (trodAll_cons_mk (Go.Am.AU laidOut (by kernel_rfl) (of_decide_eq_true (by kernel_rfl)) ⟨_,t4⟩ ?_ A.1) (trodAll_cons_mk (shut_int Tryz.underlying27 X) (trodAll_cons_mk (shut_int Tryz.underlying5 Z) trodAll_mk0)))
 ·exact fun x M=>by simpa using g.lt x (by simp[M])
 ·exact fun x M=>by simpa using g.lt x (by simp[M])
theorem over(b:∀a,Go.Am.Jj Tryz.prog Go.Am.bD 5 (Go.Conc.Good Tryz.prog a)):Rows.SpileShiftsSaid:=
 OpenClaim.holds_of_wide_leaving_time 3 Tryz.f3 rfl rfl rfl rfl rfl rfl rfl ⟨rfl,rfl,rfl,rfl,rfl⟩ rfl rfl rfl rfl rfl (by kernel_rfl) Tryz.func3 (by kernel_rfl)
  (of_decide_eq_true (by kernel_rfl)) (by unfold Func.isWrapper;first|(rw[if_pos (by decide+kernel)];kernel_rfl)|(rw[if_neg (by decide+kernel)];exact⟨rfl,rfl⟩))
  (fun d started H c _ F=>lifted b d started H c F)
end Go.Proofs.YtjgfemidkffdjaaGreat
