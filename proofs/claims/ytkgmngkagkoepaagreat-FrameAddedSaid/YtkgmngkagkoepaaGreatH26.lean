import Derived.Test.YtkgmngkagkoepaaGreatH25
set_option linter.all false
namespace Go.Am
open Go.Proofs
theorem lfx{x:Int}(h:0<=x/\x<=65535):∀_:AH,∃y:Int,(0<=y/\y<=65535)/\Value.int .i64 x=zJ y:=fun _=>⟨x,h,rfl⟩
def bm(a:Int)(op:Option Addr)(b c:Nat)(d:Option Addr)(e f:Nat)(g:Option Addr)(h i:Nat):Value:=.agg ⟨[zJ a,.slice op b c,.slice d e f,.slice g h i]⟩
def ZI(a:Int)(op:Option Addr)(b c:Nat)(d:Option Addr)(e f:Nat):Value:=.agg ⟨[zJ a,.slice op b c,.slice none 0 0,.slice d e f]⟩
section
variable{k:Int}{a c:Nat}{d e f b:Array Value}
abbrev acK:HT:=.val 6 5 5 (.br 0 1 6 (.cut 7 3) (.val 0 10 16 (.br 0 1 17 (.cut 7 3) (.call 3 3 (.br 0 1 9 .no (.cut 4 3))))))
theorem aaS(Q:Value->Prop)(K:AS->Prop):tx (aJ []) Q K (.br 1 5 6 (.val 0 4 10 (.br 0 1 11 (.ov 1 5 (.GH 0 0 .u16 (.val 0 1 17 (.ret 2 1)))) (.ret 4 1))) (.ret 4 1)) ⟨ak.enter Tryz.prog 34 ⟨[zS 3 a c,zJ k]⟩,[],bz 4 (L4 d e f b)⟩=(BR (decide (k>=0)) (∀g,g=((a:Nat):Int)->BR (decide (k<g)) (((0:Int)<=k/\k<((a:Nat):Int))/\∃h:Int,nth b.toList (0+Int.toNat k*1)=some (.int .u16 h)/\∀i,i=wi h->Q (zJ i)) (Q (zJ 0))) (Q (zJ 0))):=by kernel_rfl
theorem ahU(g:∀i:Nat,i<a->∃x:Int,nth b.toList i=some (.int .u16 x)/\0<=x/\x<=65535):bu Tryz.prog (fun v _=>∃x:Int,(0<=x/\x<=65535)/\v=zJ x) ⟨ak.enter Tryz.prog 34 ⟨[zS 3 a c,zJ k]⟩,[],bz 4 (L4 d e f b)⟩:=by
 refine ai (aC bI) (aaS _ _) ?_;refine BR.mk (fun _=>?_) fun _=>lfx (by omega)
 intro l _;refine BR.mk (fun _=>?_) fun _=>lfx (by omega)
 refine⟨⟨by omega,by omega⟩,?_⟩;obtain⟨h,j,_,_⟩:=g (Int.toNat k) (by omega)
 refine⟨h,by rw[show 0+Int.toNat k*1=Int.toNat k by omega];exact j,?_⟩;refine va fun m _=>?_
 exact lfx (by omega)
end
section
variable{k:Int}{a:Nat}{b c d e:Array Value}{ok:Option Addr}
theorem XC(Q:Value->Prop)(K:AS->Prop):tx (aJ []) Q K (.br 1 5 6 (.br 0 5 11 .no (.ret 4 1)) (.ret 4 1)) ⟨ak.enter Tryz.prog 34 ⟨[.slice ok 0 a,zJ k]⟩,[],bz 4 (L4 b c d e)⟩=(BR (decide (k>=0)) (BR (decide (k<0)) (False) (Q (zJ 0))) (Q (zJ 0))):=by kernel_rfl
theorem aft:bu Tryz.prog (fun v _=>∃x:Int,(0<=x/\x<=65535)/\v=zJ x) ⟨ak.enter Tryz.prog 34 ⟨[.slice ok 0 a,zJ k]⟩,[],bz 4 (L4 b c d e)⟩:=by
 refine ai (aC bI) (XC _ _) ?_;refine BR.mk (fun _=>?_) fun _=>lfx (by omega)
 refine BR.rr ?_;exact lfx (by omega)
end
section
variable{a:Int}{b d f:Value}
theorem XE(Q:Value->Prop)(K:AS->Prop):tx (aJ [⟨41,fun _ _=>[],4,fun _=>[],fun _=>⟨[b]⟩,fun _=>True,fun _ x=>(¬x=0),fun _ x=>zJ x⟩]) Q K (.br 3 5 9 (.br 0 4 13 (.call 5 5 (.br 1 4 13 (.ret 3 1) .no)) (.ret 6 1)) (.ret 6 1)) ⟨ak.enter Tryz.prog 14 ⟨[.agg ⟨[zJ a,b,d,f]⟩]⟩,[],bz 4 []⟩=(BR (decide (0<=a)) (BR (decide (a<=20)) (((AE ⟨[b]⟩)/\(True)/\True)/\∀c:Int,(¬c=0)->RK (true) (BR (!decide (c=0)) (Q (zJ c)) (False))) (Q (zJ 1))) (Q (zJ 1))):=by kernel_rfl
theorem afu(g:∀c∈([⟨41,fun _ _=>[],4,fun _=>[],fun _=>⟨[b]⟩,fun _=>True,fun _ x=>(¬x=0),fun _ x=>zJ x⟩]:List Ct),aX Tryz.prog c):bu Tryz.prog (fun v _=>∃x:Int,(x=0->False)/\v=zJ x) ⟨ak.enter Tryz.prog 14 ⟨[.agg ⟨[zJ a,b,d,f]⟩]⟩,[],bz 4 []⟩:=by
 refine ai (aC g) (XE _ _) ?_;iterate 2 refine BR.mk (fun _=>?_) fun _=>zy (by omega)
 refine⟨⟨rfl,trivial,trivial⟩,fun h _=>⟨rfl,?_⟩⟩;refine BR.nl (by omega) ?_;exact fun _=>⟨_,fun e=>by omega,rfl⟩
end
section
variable{a b other:Int}{d f i j e g k l:Nat}{op m h ok:Option Addr}
theorem LQ:tx (aJ [⟨14,fun _ _=>[],4,fun _=>[],fun _=>⟨[(ZI a op d f h e g)]⟩,fun _=>True,fun _ x=>(¬x=0),fun _ x=>zJ x⟩]) (fun _=>False) zC acK ⟨ak.enter Tryz.prog 3 ⟨[(bm a op d f m i j h e g),.slice ok k l,.int .u16 b,.int .u16 other]⟩,[],bz 4 ([])⟩=(∀c,c=((d:Nat):Int)->BR (decide (c>20)) ((true=true)) (∀n,n=((e:Nat):Int)->BR (decide (n>20)) ((true=true)) (((AE ⟨[(ZI a op d f h e g)]⟩)/\(True)/\True)/\∀o:Int,(¬o=0)->RK (true) (BR (decide (o=0)) (False) ((true=true)))))):=by kernel_rfl
set_option maxHeartbeats 4000000 in
theorem XF(n:∀c∈([⟨14,fun _ _=>[],4,fun _=>[],fun _=>⟨[(ZI a op d f h e g)]⟩,fun _=>True,fun _ x=>(¬x=0),fun _ x=>zJ x⟩]:List Ct),aX Tryz.prog c):bT Tryz.prog zC ⟨ak.enter Tryz.prog 3 ⟨[(bm a op d f m i j h e g),.slice ok k l,.int .u16 b,.int .u16 other]⟩,[],bz 4 ([])⟩:=by
 refine dJ (aC n) LQ ?_;intro o _;refine BR.mk (fun _=>?_) (fun _=>?_)
 ·
  exact rfl
 intro p _;refine BR.mk (fun _=>?_) (fun _=>?_)
 ·
  exact rfl
 refine⟨⟨rfl,trivial,trivial⟩,fun q r=>⟨rfl,?_⟩⟩;refine BR.rr ?_;exact rfl
end
section
variable{ag a other:Int}{np cp i j b cs k ck:Nat}{op l d ok:Option Addr}{e f g h:Array Value}
theorem LU:tx (aJ [⟨14,fun _ _=>[],4,fun _=>L4 e f g h,fun _=>⟨[(ZI ag op np cp d b cs)]⟩,fun _=>True,fun _ x=>(¬x=0),fun _ x=>zJ x⟩]) (fun _=>False) zC acK ⟨ak.enter Tryz.prog 3 ⟨[(bm ag op np cp l i j d b cs),.slice ok k ck,.int .u16 a,.int .u16 other]⟩,[],bz 4 (L4 e f g h)⟩=(∀c,c=((np:Nat):Int)->BR (decide (c>20)) ((true=true)) (∀m,m=((b:Nat):Int)->BR (decide (m>20)) ((true=true)) (((AE ⟨[(ZI ag op np cp d b cs)]⟩)/\(E4 e f g h)/\True)/\∀n:Int,(¬n=0)->RK (true) (BR (decide (n=0)) (False) ((true=true)))))):=by kernel_rfl
set_option maxHeartbeats 4000000 in
theorem Ce(m:∀c∈([⟨14,fun _ _=>[],4,fun _=>L4 e f g h,fun _=>⟨[(ZI ag op np cp d b cs)]⟩,fun _=>True,fun _ x=>(¬x=0),fun _ x=>zJ x⟩]:List Ct),aX Tryz.prog c):bT Tryz.prog zC ⟨ak.enter Tryz.prog 3 ⟨[(bm ag op np cp l i j d b cs),.slice ok k ck,.int .u16 a,.int .u16 other]⟩,[],bz 4 (L4 e f g h)⟩:=by
 refine dJ (aC m) LU ?_;intro n _;refine BR.mk (fun _=>?_) (fun _=>?_)
 ·
  exact rfl
 intro o _;refine BR.mk (fun _=>?_) (fun _=>?_)
 ·
  exact rfl
 refine⟨⟨rfl,dK,trivial⟩,fun p q=>⟨rfl,?_⟩⟩;refine BR.rr ?_;exact rfl
end
section
variable{ag a other:Int}{np cp i j b cs k l:Nat}{op m d ok:Option Addr}{e f g h:Array Value}
theorem LV:tx (aJ [⟨14,fun _ _=>[],4,fun _=>L4 e f g h,fun _=>⟨[(ZI ag op np cp d b cs)]⟩,fun _=>True,fun _ x=>True,fun _ x=>zJ x⟩]) (fun _=>False) zC (.val 6 5 5 (.br 0 1 6 (.cut 7 3) (.val 0 10 16 (.br 0 1 17 (.cut 7 3) (.call 3 3 (.br 0 1 9 (.val 3 5 38 (.br 0 1 39 (.cut 1 3) .no)) (.cut 4 3))))))) ⟨ak.enter Tryz.prog 3 ⟨[(bm ag op np cp m i j d b cs),.slice ok k l,.int .u16 a,.int .u16 other]⟩,[],bz 4 (L4 e f g h)⟩=(∀c,c=((np:Nat):Int)->BR (decide (c>20)) ((true=true)) (∀n,n=((b:Nat):Int)->BR (decide (n>20)) ((true=true)) (((AE ⟨[(ZI ag op np cp d b cs)]⟩)/\(E4 e f g h)/\True)/\∀p:Int,True->RK (true) (BR (decide (p=0)) (∀o,o=((np:Nat):Int)->BR (decide (o>=5)) ((true=true)) (False)) ((true=true)))))):=by kernel_rfl
set_option maxHeartbeats 4000000 in
theorem XG(o:5<=np)(n:∀c∈([⟨14,fun _ _=>[],4,fun _=>L4 e f g h,fun _=>⟨[(ZI ag op np cp d b cs)]⟩,fun _=>True,fun _ x=>True,fun _ x=>zJ x⟩]:List Ct),aX Tryz.prog c):bT Tryz.prog zC ⟨ak.enter Tryz.prog 3 ⟨[(bm ag op np cp m i j d b cs),.slice ok k l,.int .u16 a,.int .u16 other]⟩,[],bz 4 (L4 e f g h)⟩:=by
 refine dJ (aC n) LV ?_;intro p _;refine BR.mk (fun _=>?_) (fun _=>?_)
 ·
  exact rfl
 intro q _;refine BR.mk (fun _=>?_) (fun _=>?_)
 ·
  exact rfl
 refine⟨⟨rfl,dK,trivial⟩,fun r s=>⟨rfl,?_⟩⟩;refine BR.mk (fun _=>?_) (fun _=>?_)
 ·
  intro t _;refine BR.ll ?_;exact rfl
 exact rfl
end
end Go.Am
namespace Go.Am
open Go.Proofs
noncomputable def F5(v:Option Value)(i:Nat):Option Value:=match v with
 | some (.agg c)=>nth c.toList i
 | _=>none
theorem zV{a b a' b':Int}{F:Int->Prop}(c:a=a')(d:b=b')(e:-3000000<=a')(f:a'<=3000000)(g:-3000000<=b')(h:b'<=3000000)(k:∀x,x=a'*b'->-9000000000000<=x->x<=9000000000000->F x):∀x,x=IntKind.i64.wrap (a*b)->F x:=by
 subst c d;exact vm e f g h k
theorem vqZ{g d2 y1 d1 r u s B:Int}{F:Int->Prop}(n:g=u*s)(o:d2=B)(p:y1=u*s)(t:d1=B)(i:r=Int.tmod y1 d1)(h0:r=0)(j:0<B)(d:0<=s/\s<=B)(y:-959<=u/\u<=959)
   (k:∀x,x=u*s/B->x*B=u*s->((0<=u->0<=x/\x<=u)/\(u<=0->u<=x/\x<=0))->F x):∀x,x=IntKind.i64.wrap (Int.tdiv g d2)->F x:=fun x e=>by
 rw[n,o]at e;rw[p,t]at i;have v:Int.tmod (u*s) B=0:=by rw[←i];exact h0
 have m:=Int.tmod_add_mul_tdiv (u*s) B
 obtain⟨q,w⟩:∃q,q=Int.tdiv (u*s) B:=⟨_,rfl⟩
 rw[←w]at m e;rw[v]at m;have a:q*B=u*s:=by rw[Int.mul_comm];omega
 have f:(0<=u->0<=q/\q<=u)/\(u<=0->u<=q/\q<=0):=by
   refine⟨fun h=>⟨?_,?_⟩,fun h=>⟨?_,?_⟩⟩
   ·rcases Int.lt_or_le q 0 with l|l
    ·have b:0<=u*s:=Int.mul_nonneg h d.1;have c:q*B<0:=Int.mul_neg_of_neg_of_pos l j
     omega
    ·exact l
   ·rcases Int.lt_or_le u q with l|l
    ·have b:u*s<=u*B:=Int.mul_le_mul_of_nonneg_left d.2 h;have c:(u+1)*B<=q*B:=Int.mul_le_mul_of_nonneg_right (by omega) (by omega)
     rw[Int.add_mul,Int.one_mul]at c;omega
    ·exact l
   ·rcases Int.lt_or_le q u with l|l
    ·have b:-u*s<=-u*B:=Int.mul_le_mul_of_nonneg_left d.2 (by omega);have c:(q+1)*B<=u*B:=Int.mul_le_mul_of_nonneg_right (by omega) (by omega)
     rw[Int.add_mul,Int.one_mul]at c;rw[Int.neg_mul,Int.neg_mul]at b;omega
    ·exact l
   ·rcases Int.lt_or_le 0 q with l|l
    ·have b:0<=-u*s:=Int.mul_nonneg (by omega) d.1;have c:0<q*B:=Int.mul_pos l j
     rw[Int.neg_mul]at b;omega
    ·exact l
 rw[gu (by omega) (by omega)]at e;subst e;refine k x ?_ a f;rw[←a,Int.mul_ediv_cancel _ (by omega)]
theorem acL{a b c d:Int}(e:0<b)(hd:0<d)(h:a*d=c*b):a/b=c/d:=by
 have f:a/b=(a*d)/(b*d):=(Int.mul_ediv_mul_of_pos_left a b hd).symm;have g:c/d=(c*b)/(d*b):=(Int.mul_ediv_mul_of_pos_left c d e).symm;rw[f,g,h,Int.mul_comm b d]
section
variable{p z q g h n:Int}(j:p<h)(k:h<q)(i:(n-z)*(q-p)=(g-z)*(h-p))
include j k i
theorem akI(t:Int):z+(g-z)*(t-p)/(q-p)=z+(n-z)*(t-p)/(h-p):=by
 rw[acL (a:=(g-z)*(t-p)) (b:=q-p) (c:=(n-z)*(t-p)) (d:=h-p) (by omega) (by omega) ?_];rw[Int.mul_right_comm (n-z) (t-p) (q-p),i,Int.mul_right_comm (g-z) (h-p) (t-p)]
theorem akJ(t:Int):z+(g-z)*(t-p)/(q-p)=n+(g-n)*(t-h)/(q-h):=by
 have J:(g-n)*(q-p)=(g-z)*(q-h):=by
   have:(g-n)*(q-p)=(g-z)*(q-p)-(n-z)*(q-p):=by rw[←Int.sub_mul];congr 1;omega
   rw[this,i,←Int.mul_sub];congr 1;omega
 have e:(g-n)*(t-h)/(q-h)=(g-z)*(t-h)/(q-p):=by refine acL (by omega) (by omega) ?_;rw[Int.mul_right_comm (g-n) (t-h) (q-p),J,Int.mul_right_comm (g-z) (q-h) (t-h)]
 have f:(g-z)*(t-p)=(g-z)*(t-h)+(n-z)*(q-p):=by rw[i,←Int.mul_add];congr 1;omega
 rw[e,f,Int.add_mul_ediv_right _ _ (by omega)];omega
end
theorem yG(pre:List (Int×Int))(p z q g h n:Int)(f:List (Int×Int))(t:Int)(k:p<h)(l:h<q)(m:(n-z)*(q-p)=(g-z)*(h-p)):gY (pre++(p,z)::(q,g)::f) t=gY (pre++(p,z)::(h,n)::(q,g)::f) t:=by
 induction pre with
 | nil=>
   simp only[List.nil_append,gY]
   by_cases o:t<=h
   ·rw[if_pos (show t<=q by omega),if_pos o];exact akI k l m t
   ·rw[if_neg o];by_cases i:t<=q
    ·rw[if_pos i,if_pos i];exact akJ k l m t
    ·rw[if_neg i,if_neg i]
 | cons e r j=>
   obtain⟨a,b⟩:=e
   cases r with
   |nil=>
    simp only[List.nil_append]at j;show(if t<=p then b+(z-b)*(t-a)/(p-a)else gY ((p,z)::(q,g)::f) t)=(if t<=p then b+(z-b)*(t-a)/(p-a)else gY ((p,z)::(h,n)::(q,g)::f) t)
    rw[j]
   |cons e r=>
    obtain⟨c,d⟩:=e
    show(if t<=c then b+(d-b)*(t-a)/(c-a)else gY ((c,d)::r++(p,z)::(q,g)::f) t)=(if t<=c then b+(d-b)*(t-a)/(c-a)else gY ((c,d)::r++(p,z)::(h,n)::(q,g)::f) t)
    rw[j]
theorem yH(pre:List (Int×Int))(p z q g h n:Int)(f:List (Int×Int))(j:(n-z)*(q-p)=(g-z)*(h-p)):qW (pre++(p,z)::(q,g)::f)=qW (pre++(p,z)::(h,n)::(q,g)::f):=by
 induction pre with
 | nil=>
   simp only[List.nil_append,qW]
   simp only[Int.add_mul,Int.sub_mul,Int.mul_sub]at*;omega
 | cons e r i=>
   obtain⟨a,b⟩:=e
   cases r with
   |nil=>simp only[List.nil_append]at i;show(b+z)*(p-a)+qW ((p,z)::(q,g)::f)=(b+z)*(p-a)+qW ((p,z)::(h,n)::(q,g)::f);rw[i]
   |cons e r=>
    obtain⟨c,d⟩:=e
    show(b+d)*(c-a)+qW ((c,d)::r++(p,z)::(q,g)::f)=(b+d)*(c-a)+qW ((c,d)::r++(p,z)::(h,n)::(q,g)::f);rw[i]
theorem XH{a b:Int}(c:0<=b)(h:a*a<=b*b):a<=b:=by
 rcases Int.lt_or_le b a with l|l
 · have:=PD c l;omega
 · exact l
theorem XI{a b:Int}(c:0<=b)(h:a*a<b*b):a<b:=by
 rcases Int.lt_or_le a b with l|l
 · exact l
 · have:=zB c l;omega
theorem afv{H K U W:Int}(j:0<H)(k:0<K)(e:U*K=W*H):rt (H*H+U*U)+rt (K*K+W*W)<=rt ((H+K)*(H+K)+(U+W)*(U+W))/\rt ((H+K)*(H+K)+(U+W)*(U+W))<=rt (H*H+U*U)+rt (K*K+W*W)+1:=by
 have f:∀x:Int,0<=x*x:=fun x=>by
   rcases Int.le_total 0 x with l|l
   ·exact Int.mul_nonneg l l
   ·exact Int.mul_nonneg_of_nonpos_of_nonpos l l
 obtain⟨A,m⟩:∃A,A=H*H+U*U:=⟨_,rfl⟩
 obtain⟨B,o⟩:∃B,B=K*K+W*W:=⟨_,rfl⟩
 obtain⟨D,q⟩:∃D,D=H*K+U*W:=⟨_,rfl⟩
 have t:(H+K)*(H+K)+(U+W)*(U+W)=A+B+(D+D):=by
   have u:=Int.mul_comm K H
   have v:=Int.mul_comm W U
   rw[Int.add_mul,Int.mul_add,Int.mul_add,Int.add_mul,Int.mul_add,Int.mul_add];omega
 have c:0<=A:=by have:=f H;have:=f U;omega
 have h:0<=B:=by have:=f K;have:=f W;omega
 have w:0<=U*W:=by
   have d:0<=U*W*(K*H):=by
    have:U*W*(K*H)=(U*K)*(W*H):=by rw[Int.mul_assoc,Int.mul_assoc,←Int.mul_assoc W K H,Int.mul_comm W K,Int.mul_assoc K W H]
    rw[this,e];exact f _
   rcases Int.lt_or_le (U*W) 0 with l|l
   ·have:=Int.mul_neg_of_neg_of_pos l (Int.mul_pos k j)
    omega
   ·exact l
 have i:0<=D:=by have:=Int.mul_pos j k;omega
 have g:D*D=A*B:=by
   have d:(H*W-U*K)*(H*W-U*K)=0:=by rw[e,Int.mul_comm H W];simp
   have p:A*B-D*D=(H*W-U*K)*(H*W-U*K):=by
    rw[m,o,q];simp only[Int.add_mul,Int.mul_add,Int.sub_mul,Int.mul_sub]
    have J:H*H*(K*K)=H*K*(H*K):=by rw[Int.mul_assoc,Int.mul_assoc,Int.mul_left_comm H K K,Int.mul_left_comm K H K]
    have L:U*U*(W*W)=U*W*(U*W):=by rw[Int.mul_assoc,Int.mul_assoc,Int.mul_left_comm U W W,Int.mul_left_comm W U W]
    have M:H*H*(W*W)=H*W*(H*W):=by rw[Int.mul_assoc,Int.mul_assoc,Int.mul_left_comm H W W,Int.mul_left_comm W H W]
    have N:U*U*(K*K)=U*K*(U*K):=by rw[Int.mul_assoc,Int.mul_assoc,Int.mul_left_comm U K K,Int.mul_left_comm K U K]
    have O:H*K*(U*W)=H*W*(U*K):=by rw[Int.mul_assoc,Int.mul_assoc,Int.mul_left_comm K U W,Int.mul_comm K W,Int.mul_left_comm U W K]
    have P:U*W*(H*K)=U*K*(H*W):=by rw[Int.mul_assoc,Int.mul_assoc,Int.mul_comm H K,Int.mul_left_comm W K H,Int.mul_comm W H]
    have Q:H*W*(U*K)=U*K*(H*W):=Int.mul_comm _ _
    omega
   omega
 obtain⟨T,z,C⟩:=Jc c
 obtain⟨V,E,F⟩:=Jc h
 obtain⟨X,u,v⟩:=Jc (n:=A+B+(D+D)) (by omega)
 rw[t,←m,←o];generalize rt A=r at*;generalize rt B=s at*;generalize rt (A+B+(D+D))=R at*;have Y:r*s<=D:=by
   refine XH i ?_;have d:r*s*(r*s)=r*r*(s*s):=by rw[Int.mul_assoc,Int.mul_assoc,Int.mul_left_comm s r s]
   rw[d,g];exact Int.le_trans (Int.mul_le_mul_of_nonneg_right z (f s)) (Int.mul_le_mul_of_nonneg_left E c)
 have Z:D<(r+1)*(s+1):=by
   refine XI (Int.mul_nonneg (by omega) (by omega)) ?_;have d:(r+1)*(s+1)*((r+1)*(s+1))=(r+1)*(r+1)*((s+1)*(s+1)):=by rw[Int.mul_assoc,Int.mul_assoc,Int.mul_left_comm (s+1) (r+1) (s+1)]
   rw[d,g];exact Int.lt_of_le_of_lt (Int.mul_le_mul_of_nonneg_left (Int.le_of_lt F) c) (Int.mul_lt_mul_of_pos_right C (by omega))
 constructor
 · rcases Int.lt_or_le R (r+s)with l|l
   ·have d:=zB (a:=R+1) (b:=r+s) (by omega) (by omega)
    have p:(r+s)*(r+s)=r*r+s*s+(r*s+r*s):=by rw[Int.add_mul,Int.mul_add,Int.mul_add,Int.mul_comm s r];omega
    omega
   ·exact l
 · rcases Int.lt_or_le (r+s+1) R with l|l
   ·have d:=zB (a:=(r+1)+(s+1)) (b:=R) (by omega) (by omega)
    have p:((r+1)+(s+1))*((r+1)+(s+1))=(r+1)*(r+1)+(s+1)*(s+1)+((r+1)*(s+1)+(r+1)*(s+1)):=by
     generalize r+1=x
     generalize s+1=y
     rw[Int.add_mul,Int.mul_add,Int.mul_add,Int.mul_comm y x];omega
    omega
   ·exact l
theorem yI(pre:List (Int×Int))(p z q g h n:Int)(f:List (Int×Int))(m:p<h)(o:h<q)(i:(n-z)*(q-p)=(g-z)*(h-p)):gL (pre++(p,z)::(h,n)::(q,g)::f)<=gL (pre++(p,z)::(q,g)::f)/\gL (pre++(p,z)::(q,g)::f)<=gL (pre++(p,z)::(h,n)::(q,g)::f)+1:=by
 induction pre with
 | nil=>
   simp only[List.nil_append,gL,sg]
   have k:=afv (H:=h-p) (K:=q-h) (U:=n-z) (W:=g-n) (by omega) (by omega) (by
    have j:(n-z)*(q-h)=(n-z)*(q-p)-(n-z)*(h-p):=by rw[←Int.mul_sub];congr 1;omega
    rw[j,i,←Int.sub_mul];congr 1;omega)
   rw[show h-p+(q-h)=q-p by omega,show n-z+(g-n)=g-z by omega]at k;omega
 | cons e r l=>
   obtain⟨a,b⟩:=e
   cases r with
   |nil=>simp only[List.nil_append]at l;show sg a b p z+gL ((p,z)::(h,n)::(q,g)::f)<=sg a b p z+gL ((p,z)::(q,g)::f)/\sg a b p z+gL ((p,z)::(q,g)::f)<=sg a b p z+gL ((p,z)::(h,n)::(q,g)::f)+1;omega
   |cons e r=>
    obtain⟨c,d⟩:=e
    show sg a b c d+gL ((c,d)::r++(p,z)::(h,n)::(q,g)::f)<=sg a b c d+gL ((c,d)::r++(p,z)::(q,g)::f)/\sg a b c d+gL ((c,d)::r++(p,z)::(q,g)::f)<=sg a b c d+gL ((c,d)::r++(p,z)::(h,n)::(q,g)::f)+1;omega
def gB:List (Int×Int)->Prop
 | []=>True
 | [_]=>True
 | (h,z)::(q,y)::r=>(0<=h/\h<q/\q<=959/\0<=z/\z<=959/\0<=y/\y<=959)/\gB ((q,y)::r)
theorem Cf:∀L,gB L->0<=gL L/\gL L<=2000*(L.length:Int)
 | []=>fun _=>by simp[gL]
 | [_]=>fun _=>by simp[gL]
 | (h,z)::(q,y)::r=>fun g=>by
   have k:=Cf ((q,y)::r) g.2;have s:=ahS h z q y g.1.2.1;have b:=g.1;show 0<=sg h z q y+gL ((q,y)::r)/\sg h z q y+gL ((q,y)::r)<=2000*(((q,y)::r).length+1:Nat);omega
def XJ(h0 d:Int):List Int->Prop
 | [a,b,c]=>h0<=a/\a<=d/\0<=b/\b<=959/\0<=c/\c<=959
 | _=>False
def ahV(h0 a:Int):List Int->Int->Prop
 | [b,c,d],x=>x=gY [(h0,c),(a,d)] b
 | _,_=>False
noncomputable def acM(h0 d e h1 f g b:Int)(i j k:Nat)(tc sc l:Array Value)(m:Option Addr):Ct:=⟨8,fun a h=>iD a 2::dG h (nth a.toList 1),14,fun c=>(13,⟨.cells ⟨(c.tail).map fun n=>zJ n⟩ 3 (0,0),some 10,false,1⟩)::L4 (qX h0 d e h1 f g) tc sc l,fun c=>⟨[(bn 2 b i m j k),zS 13 2 2,zJ (c.headD 0)]⟩,XJ h0 h1,ahV h0 h1,fun _ x=>.tuple ⟨[zJ x,zJ 0]⟩⟩
def XK(h0 c:Int):List Int->Prop
 | [a,b]=>0<=a/\a<=959/\0<=b/\b<=959
 | _=>False
def ahW(h0 a:Int):List Int->Int->Prop
 | [b,c],x=>x=qW [(h0,b),(a,c)]
 | _,_=>False
noncomputable def acN(h0 d e h1 f g b:Int)(i j k:Nat)(tc sc l:Array Value)(m:Option Addr):Ct:=⟨10,fun a h=>dG h (nth a.toList 1),14,fun c=>(13,⟨.cells ⟨(c).map fun n=>zJ n⟩ 3 (0,0),some 10,false,1⟩)::L4 (qX h0 d e h1 f g) tc sc l,fun c=>⟨[(bn 2 b i m j k),zS 13 2 2]⟩,XK h0 h1,ahW h0 h1,fun _ x=>.tuple ⟨[zJ x,zJ 0]⟩⟩
def XL(h0 c:Int):List Int->Prop
 | [a,b]=>0<=a/\a<=959/\0<=b/\b<=959
 | _=>False
def ahX(h0 a:Int):List Int->Int->Prop
 | [b,c],x=>x=gL [(h0,b),(a,c)]
 | _,_=>False
noncomputable def acO(h0 d e h1 f g b:Int)(i j k:Nat)(tc sc l:Array Value)(m:Option Addr):Ct:=⟨11,fun a h=>dG h (nth a.toList 1),14,fun c=>(13,⟨.cells ⟨(c).map fun n=>zJ n⟩ 3 (0,0),some 10,false,1⟩)::L4 (qX h0 d e h1 f g) tc sc l,fun c=>⟨[(bn 2 b i m j k),zS 13 2 2,zJ 0,zJ 1]⟩,XL h0 h1,ahX h0 h1,fun _ x=>.tuple ⟨[zJ x,zJ 0]⟩⟩
def XN(h0 f e:Int):List Int->Prop
 | [a,b,c,d]=>h0<=a/\a<=e/\0<=b/\b<=959/\0<=c/\c<=959/\0<=d/\d<=959
 | _=>False
def ahY(h0 a b:Int):List Int->Int->Prop
 | [c,d,e,f],x=>x=gY [(h0,d),(a,e),(b,f)] c
 | _,_=>False
noncomputable def acP(h0 d e h1 f g h2 i j b:Int)(k l m:Nat)(tc sc o:Array Value)(p:Option Addr):Ct:=⟨8,fun a h=>iD a 2::dG h (nth a.toList 1),17,fun c=>(16,⟨.cells ⟨(c.tail).map fun n=>zJ n⟩ 3 (0,0),some 10,false,1⟩)::L4 (oz h0 d e h1 f g h2 i j) tc sc o,fun c=>⟨[(bn 3 b k p l m),zS 16 3 3,zJ (c.headD 0)]⟩,XN h0 h1 h2,ahY h0 h1 h2,fun _ x=>.tuple ⟨[zJ x,zJ 0]⟩⟩
def XO(h0 d e:Int):List Int->Prop
 | [a,b,c]=>0<=a/\a<=959/\0<=b/\b<=959/\0<=c/\c<=959
 | _=>False
def ahZ(h0 a b:Int):List Int->Int->Prop
 | [c,d,e],x=>x=qW [(h0,c),(a,d),(b,e)]
 | _,_=>False
noncomputable def acQ(h0 d e h1 f g h2 i j b:Int)(k l m:Nat)(tc sc o:Array Value)(p:Option Addr):Ct:=⟨10,fun a h=>dG h (nth a.toList 1),17,fun c=>(16,⟨.cells ⟨(c).map fun n=>zJ n⟩ 3 (0,0),some 10,false,1⟩)::L4 (oz h0 d e h1 f g h2 i j) tc sc o,fun c=>⟨[(bn 3 b k p l m),zS 16 3 3]⟩,XO h0 h1 h2,ahZ h0 h1 h2,fun _ x=>.tuple ⟨[zJ x,zJ 0]⟩⟩
def XP(h0 d e:Int):List Int->Prop
 | [a,b,c]=>0<=a/\a<=959/\0<=b/\b<=959/\0<=c/\c<=959
 | _=>False
def ah0(h0 a b:Int):List Int->Int->Prop
 | [c,d,e],x=>x=gL [(h0,c),(a,d),(b,e)]
 | _,_=>False
noncomputable def acR(h0 d e h1 f g h2 i j b:Int)(k l m:Nat)(tc sc o:Array Value)(p:Option Addr):Ct:=⟨11,fun a h=>dG h (nth a.toList 1),17,fun c=>(16,⟨.cells ⟨(c).map fun n=>zJ n⟩ 3 (0,0),some 10,false,1⟩)::L4 (oz h0 d e h1 f g h2 i j) tc sc o,fun c=>⟨[(bn 3 b k p l m),zS 16 3 3,zJ 0,zJ 2]⟩,XP h0 h1 h2,ah0 h0 h1 h2,fun _ x=>.tuple ⟨[zJ x,zJ 0]⟩⟩
def XQ(h0 g h f:Int):List Int->Prop
 | [a,b,c,d,e]=>h0<=a/\a<=f/\0<=b/\b<=959/\0<=c/\c<=959/\0<=d/\d<=959/\0<=e/\e<=959
 | _=>False
def ah1(h0 a b c:Int):List Int->Int->Prop
 | [d,e,f,g,h],x=>x=gY [(h0,e),(a,f),(b,g),(c,h)] d
 | _,_=>False
noncomputable def acS(h0 d e h1 f g h2 i j h3 k l b:Int)(m o p:Nat)(tc sc q:Array Value)(r:Option Addr):Ct:=⟨8,fun a h=>iD a 2::dG h (nth a.toList 1),20,fun c=>(19,⟨.cells ⟨(c.tail).map fun n=>zJ n⟩ 3 (0,0),some 10,false,1⟩)::L4 (lI h0 d e h1 f g h2 i j h3 k l) tc sc q,fun c=>⟨[(bn 4 b m r o p),zS 19 4 4,zJ (c.headD 0)]⟩,XQ h0 h1 h2 h3,ah1 h0 h1 h2 h3,fun _ x=>.tuple ⟨[zJ x,zJ 0]⟩⟩
def XR(h0 e f g:Int):List Int->Prop
 | [a,b,c,d]=>0<=a/\a<=959/\0<=b/\b<=959/\0<=c/\c<=959/\0<=d/\d<=959
 | _=>False
def ah2(h0 a b c:Int):List Int->Int->Prop
 | [d,e,f,g],x=>x=qW [(h0,d),(a,e),(b,f),(c,g)]
 | _,_=>False
noncomputable def acT(h0 d e h1 f g h2 i j h3 k l b:Int)(m o p:Nat)(tc sc q:Array Value)(r:Option Addr):Ct:=⟨10,fun a h=>dG h (nth a.toList 1),20,fun c=>(19,⟨.cells ⟨(c).map fun n=>zJ n⟩ 3 (0,0),some 10,false,1⟩)::L4 (lI h0 d e h1 f g h2 i j h3 k l) tc sc q,fun c=>⟨[(bn 4 b m r o p),zS 19 4 4]⟩,XR h0 h1 h2 h3,ah2 h0 h1 h2 h3,fun _ x=>.tuple ⟨[zJ x,zJ 0]⟩⟩
def XT(h0 e f g:Int):List Int->Prop
 | [a,b,c,d]=>0<=a/\a<=959/\0<=b/\b<=959/\0<=c/\c<=959/\0<=d/\d<=959
 | _=>False
def ah3(h0 a b c:Int):List Int->Int->Prop
 | [d,e,f,g],x=>x=gL [(h0,d),(a,e),(b,f),(c,g)]
 | _,_=>False
noncomputable def acU(h0 d e h1 f g h2 i j h3 k l b:Int)(m o p:Nat)(tc sc q:Array Value)(r:Option Addr):Ct:=⟨11,fun a h=>dG h (nth a.toList 1),20,fun c=>(19,⟨.cells ⟨(c).map fun n=>zJ n⟩ 3 (0,0),some 10,false,1⟩)::L4 (lI h0 d e h1 f g h2 i j h3 k l) tc sc q,fun c=>⟨[(bn 4 b m r o p),zS 19 4 4,zJ 0,zJ 3]⟩,XT h0 h1 h2 h3,ah3 h0 h1 h2 h3,fun _ x=>.tuple ⟨[zJ x,zJ 0]⟩⟩
def XU(h0 f:Int):List Int->Prop
 | [g,h,a,b,i,c,q1,j,d,e,k,l,m]=>h0<=g/\g<=f/\h=h0/\j=f/\h<i/\i<j/\0<=a/\a<=b/\b<=959/\b-a<3/\0<=c/\c<=q1/\q1<=959/\q1-c<3/\0<=d/\d<=e/\e<=959/\e-d<3/\0<=k/\k<=959/\0<=l/\l<=959/\0<=m/\m<=959
 | _=>False
def ah4:List Int->Int->Prop
 | [a,b,h,i,c,j,q1,d,k,l,e,f,g],x=>x=gY [(b,e),(c,f),(d,g)] a
 | _,_=>False
noncomputable def acV(h0 hl b:Int)(d e:Nat)(f tc sc g:Array Value)(i:Option Addr):Ct:=⟨8,fun a h=>iD a 2::(dG h (F5 (nth a.toList 0) 1)++dG h (nth a.toList 1)),33,fun c=>(32,⟨.cells ⟨(c.tail.drop 9).map fun n=>zJ n⟩ 3 (0,0),some 30,false,1⟩)::(27,⟨.cells ⟨(c.tail.take 9).map fun n=>zJ n⟩ 37 (0,0),some 22,false,3⟩)::L4 f tc sc g,fun c=>⟨[(bo 27 3 b i d e),zS 32 3 3,zJ (c.headD 0)]⟩,XU h0 hl,ah4,fun _ x=>.tuple ⟨[zJ x,zJ 0]⟩⟩
def XV(h0 l:Int):List Int->Prop
 | [f,a,b,g,c,q1,h,d,e,i,j,k]=>f=h0/\h=l/\f<g/\g<h/\0<=a/\a<=b/\b<=959/\b-a<3/\0<=c/\c<=q1/\q1<=959/\q1-c<3/\0<=d/\d<=e/\e<=959/\e-d<3/\0<=i/\i<=959/\0<=j/\j<=959/\0<=k/\k<=959
 | _=>False
def ah5:List Int->Int->Prop
 | [a,g,h,b,i,q1,c,j,k,d,e,f],x=>x=qW [(a,d),(b,e),(c,f)]
 | _,_=>False
noncomputable def acW(h0 hl b:Int)(d e:Nat)(f tc sc g:Array Value)(i:Option Addr):Ct:=⟨10,fun a h=>(dG h (F5 (nth a.toList 0) 1)++dG h (nth a.toList 1)),33,fun c=>(32,⟨.cells ⟨(c.drop 9).map fun n=>zJ n⟩ 3 (0,0),some 30,false,1⟩)::(27,⟨.cells ⟨(c.take 9).map fun n=>zJ n⟩ 37 (0,0),some 22,false,3⟩)::L4 f tc sc g,fun c=>⟨[(bo 27 3 b i d e),zS 32 3 3]⟩,XV h0 hl,ah5,fun _ x=>.tuple ⟨[zJ x,zJ 0]⟩⟩
def XW(h0 l:Int):List Int->Prop
 | [f,a,b,g,c,q1,h,d,e,i,j,k]=>f=h0/\h=l/\f<g/\g<h/\0<=a/\a<=b/\b<=959/\b-a<3/\0<=c/\c<=q1/\q1<=959/\q1-c<3/\0<=d/\d<=e/\e<=959/\e-d<3/\0<=i/\i<=959/\0<=j/\j<=959/\0<=k/\k<=959
 | _=>False
def ah6:List Int->Int->Prop
 | [a,g,h,b,i,q1,c,j,k,d,e,f],x=>x=gL [(a,d),(b,e),(c,f)]
 | _,_=>False
noncomputable def acX(h0 hl b:Int)(d e:Nat)(f tc sc g:Array Value)(i:Option Addr):Ct:=⟨11,fun a h=>(dG h (F5 (nth a.toList 0) 1)++dG h (nth a.toList 1)),33,fun c=>(32,⟨.cells ⟨(c.drop 9).map fun n=>zJ n⟩ 3 (0,0),some 30,false,1⟩)::(27,⟨.cells ⟨(c.take 9).map fun n=>zJ n⟩ 37 (0,0),some 22,false,3⟩)::L4 f tc sc g,fun c=>⟨[(bo 27 3 b i d e),zS 32 3 3,zJ 0,zJ 2]⟩,XW h0 hl,ah6,fun _ x=>.tuple ⟨[zJ x,zJ 0]⟩⟩
def XX(h0 h:Int):List Int->Prop
 | [i,j,a,b,k,c,q1,l,d,e,m,f,g,n,o,p,q]=>h0<=i/\i<=h/\j=h0/\m=h/\j<k/\k<l/\l<m/\0<=a/\a<=b/\b<=959/\b-a<3/\0<=c/\c<=q1/\q1<=959/\q1-c<3/\0<=d/\d<=e/\e<=959/\e-d<3/\0<=f/\f<=g/\g<=959/\g-f<3/\0<=n/\n<=959/\0<=o/\o<=959/\0<=p/\p<=959/\0<=q/\q<=959
 | _=>False
def ah7:List Int->Int->Prop
 | [a,b,j,k,c,l,q1,d,m,n,e,o,p,f,g,h,i],x=>x=gY [(b,f),(c,g),(d,h),(e,i)] a
 | _,_=>False
noncomputable def acY(h0 hl b:Int)(d e:Nat)(f tc sc g:Array Value)(i:Option Addr):Ct:=⟨8,fun a h=>iD a 2::(dG h (F5 (nth a.toList 0) 1)++dG h (nth a.toList 1)),36,fun c=>(35,⟨.cells ⟨(c.tail.drop 12).map fun n=>zJ n⟩ 3 (0,0),some 33,false,1⟩)::(30,⟨.cells ⟨(c.tail.take 12).map fun n=>zJ n⟩ 37 (0,0),some 25,false,3⟩)::L4 f tc sc g,fun c=>⟨[(bo 30 4 b i d e),zS 35 4 4,zJ (c.headD 0)]⟩,XX h0 hl,ah7,fun _ x=>.tuple ⟨[zJ x,zJ 0]⟩⟩
def XY(h0 p:Int):List Int->Prop
 | [h,a,b,i,c,q1,j,d,e,k,f,g,l,m,n,o]=>h=h0/\k=p/\h<i/\i<j/\j<k/\0<=a/\a<=b/\b<=959/\b-a<3/\0<=c/\c<=q1/\q1<=959/\q1-c<3/\0<=d/\d<=e/\e<=959/\e-d<3/\0<=f/\f<=g/\g<=959/\g-f<3/\0<=l/\l<=959/\0<=m/\m<=959/\0<=n/\n<=959/\0<=o/\o<=959
 | _=>False
def ah8:List Int->Int->Prop
 | [a,i,j,b,k,q1,c,l,m,d,n,o,e,f,g,h],x=>x=qW [(a,e),(b,f),(c,g),(d,h)]
 | _,_=>False
noncomputable def acZ(h0 hl b:Int)(d e:Nat)(f tc sc g:Array Value)(i:Option Addr):Ct:=⟨10,fun a h=>(dG h (F5 (nth a.toList 0) 1)++dG h (nth a.toList 1)),36,fun c=>(35,⟨.cells ⟨(c.drop 12).map fun n=>zJ n⟩ 3 (0,0),some 33,false,1⟩)::(30,⟨.cells ⟨(c.take 12).map fun n=>zJ n⟩ 37 (0,0),some 25,false,3⟩)::L4 f tc sc g,fun c=>⟨[(bo 30 4 b i d e),zS 35 4 4]⟩,XY h0 hl,ah8,fun _ x=>.tuple ⟨[zJ x,zJ 0]⟩⟩
def XZ(h0 p:Int):List Int->Prop
 | [h,a,b,i,c,q1,j,d,e,k,f,g,l,m,n,o]=>h=h0/\k=p/\h<i/\i<j/\j<k/\0<=a/\a<=b/\b<=959/\b-a<3/\0<=c/\c<=q1/\q1<=959/\q1-c<3/\0<=d/\d<=e/\e<=959/\e-d<3/\0<=f/\f<=g/\g<=959/\g-f<3/\0<=l/\l<=959/\0<=m/\m<=959/\0<=n/\n<=959/\0<=o/\o<=959
 | _=>False
def ah9:List Int->Int->Prop
 | [a,i,j,b,k,q1,c,l,m,d,n,o,e,f,g,h],x=>x=gL [(a,e),(b,f),(c,g),(d,h)]
 | _,_=>False
noncomputable def ac0(h0 hl b:Int)(d e:Nat)(f tc sc g:Array Value)(i:Option Addr):Ct:=⟨11,fun a h=>(dG h (F5 (nth a.toList 0) 1)++dG h (nth a.toList 1)),36,fun c=>(35,⟨.cells ⟨(c.drop 12).map fun n=>zJ n⟩ 3 (0,0),some 33,false,1⟩)::(30,⟨.cells ⟨(c.take 12).map fun n=>zJ n⟩ 37 (0,0),some 25,false,3⟩)::L4 f tc sc g,fun c=>⟨[(bo 30 4 b i d e),zS 35 4 4,zJ 0,zJ 3]⟩,XZ h0 hl,ah9,fun _ x=>.tuple ⟨[zJ x,zJ 0]⟩⟩
def X3(h0 j:Int):List Int->Prop
 | [k,l,a,b,m,c,q1,n,d,e,o,f,g,p,h,i,q,r,s,t,u]=>h0<=k/\k<=j/\l=h0/\p=j/\l<m/\m<n/\n<o/\o<p/\0<=a/\a<=b/\b<=959/\b-a<3/\0<=c/\c<=q1/\q1<=959/\q1-c<3/\0<=d/\d<=e/\e<=959/\e-d<3/\0<=f/\f<=g/\g<=959/\g-f<3/\0<=h/\h<=i/\i<=959/\i-h<3/\0<=q/\q<=959/\0<=r/\r<=959/\0<=s/\s<=959/\0<=t/\t<=959/\0<=u/\u<=959
 | _=>False
def aia:List Int->Int->Prop
 | [a,b,l,m,c,n,q1,d,o,p,e,q,r,f,s,t,g,h,i,j,k],x=>x=gY [(b,g),(c,h),(d,i),(e,j),(f,k)] a
 | _,_=>False
noncomputable def ac1(h0 hl b:Int)(d e:Nat)(f tc sc g:Array Value)(i:Option Addr):Ct:=⟨8,fun a h=>iD a 2::(dG h (F5 (nth a.toList 0) 1)++dG h (nth a.toList 1)),39,fun c=>(38,⟨.cells ⟨(c.tail.drop 15).map fun n=>zJ n⟩ 3 (0,0),some 36,false,1⟩)::(33,⟨.cells ⟨(c.tail.take 15).map fun n=>zJ n⟩ 37 (0,0),some 28,false,3⟩)::L4 f tc sc g,fun c=>⟨[(bo 33 5 b i d e),zS 38 5 5,zJ (c.headD 0)]⟩,X3 h0 hl,aia,fun _ x=>.tuple ⟨[zJ x,zJ 0]⟩⟩
def X4(h0 t:Int):List Int->Prop
 | [j,a,b,k,c,q1,l,d,e,m,f,g,n,h,i,o,p,q,r,s]=>j=h0/\n=t/\j<k/\k<l/\l<m/\m<n/\0<=a/\a<=b/\b<=959/\b-a<3/\0<=c/\c<=q1/\q1<=959/\q1-c<3/\0<=d/\d<=e/\e<=959/\e-d<3/\0<=f/\f<=g/\g<=959/\g-f<3/\0<=h/\h<=i/\i<=959/\i-h<3/\0<=o/\o<=959/\0<=p/\p<=959/\0<=q/\q<=959/\0<=r/\r<=959/\0<=s/\s<=959
 | _=>False
def aib:List Int->Int->Prop
 | [a,k,l,b,m,q1,c,n,o,d,p,q,e,r,s,f,g,h,i,j],x=>x=qW [(a,f),(b,g),(c,h),(d,i),(e,j)]
 | _,_=>False
noncomputable def ac2(h0 hl b:Int)(d e:Nat)(f tc sc g:Array Value)(i:Option Addr):Ct:=⟨10,fun a h=>(dG h (F5 (nth a.toList 0) 1)++dG h (nth a.toList 1)),39,fun c=>(38,⟨.cells ⟨(c.drop 15).map fun n=>zJ n⟩ 3 (0,0),some 36,false,1⟩)::(33,⟨.cells ⟨(c.take 15).map fun n=>zJ n⟩ 37 (0,0),some 28,false,3⟩)::L4 f tc sc g,fun c=>⟨[(bo 33 5 b i d e),zS 38 5 5]⟩,X4 h0 hl,aib,fun _ x=>.tuple ⟨[zJ x,zJ 0]⟩⟩
def X5(h0 t:Int):List Int->Prop
 | [j,a,b,k,c,q1,l,d,e,m,f,g,n,h,i,o,p,q,r,s]=>j=h0/\n=t/\j<k/\k<l/\l<m/\m<n/\0<=a/\a<=b/\b<=959/\b-a<3/\0<=c/\c<=q1/\q1<=959/\q1-c<3/\0<=d/\d<=e/\e<=959/\e-d<3/\0<=f/\f<=g/\g<=959/\g-f<3/\0<=h/\h<=i/\i<=959/\i-h<3/\0<=o/\o<=959/\0<=p/\p<=959/\0<=q/\q<=959/\0<=r/\r<=959/\0<=s/\s<=959
 | _=>False
def aic:List Int->Int->Prop
 | [a,k,l,b,m,q1,c,n,o,d,p,q,e,r,s,f,g,h,i,j],x=>x=gL [(a,f),(b,g),(c,h),(d,i),(e,j)]
 | _,_=>False
noncomputable def ac3(h0 hl b:Int)(d e:Nat)(f tc sc g:Array Value)(i:Option Addr):Ct:=⟨11,fun a h=>(dG h (F5 (nth a.toList 0) 1)++dG h (nth a.toList 1)),39,fun c=>(38,⟨.cells ⟨(c.drop 15).map fun n=>zJ n⟩ 3 (0,0),some 36,false,1⟩)::(33,⟨.cells ⟨(c.take 15).map fun n=>zJ n⟩ 37 (0,0),some 28,false,3⟩)::L4 f tc sc g,fun c=>⟨[(bo 33 5 b i d e),zS 38 5 5,zJ 0,zJ 4]⟩,X5 h0 hl,aic,fun _ x=>.tuple ⟨[zJ x,zJ 0]⟩⟩
noncomputable abbrev cR2(b h0 d e c f g:Int)(n k l o p:Nat)(h i j:Array Value)(m q:Option Addr)(V:Prop):List Ct:=[⟨14,fun _ _=>[],4,fun _=>L4 (qX h0 d e c f g) h i j,fun _=>⟨[(bn 2 b n m k l)]⟩,fun _=>True,fun _ x=>(x=0->V),fun _ x=>zJ x⟩,⟨34,fun a _=>[iD a 1],4,fun _=>L4 (qX h0 d e c f g) h i j,fun r=>⟨[.slice q o p,zJ (r.headD 0)]⟩,fun _=>True,fun _ x=>(0<=x/\x<=65535),fun _ x=>zJ x⟩,acM h0 d e c f g b n k l h i j m,acV h0 c b k l (qX h0 d e c f g) h i j m,acN h0 d e c f g b n k l h i j m,acW h0 c b k l (qX h0 d e c f g) h i j m,acO h0 d e c f g b n k l h i j m,acX h0 c b k l (qX h0 d e c f g) h i j m]
noncomputable abbrev Uz(b h0 d e f g h c i j:Int)(q n o r s:Nat)(k l m:Array Value)(p t:Option Addr)(V:Prop):List Ct:=[⟨14,fun _ _=>[],4,fun _=>L4 (oz h0 d e f g h c i j) k l m,fun _=>⟨[(bn 3 b q p n o)]⟩,fun _=>True,fun _ x=>(x=0->V),fun _ x=>zJ x⟩,⟨34,fun a _=>[iD a 1],4,fun _=>L4 (oz h0 d e f g h c i j) k l m,fun u=>⟨[.slice t r s,zJ (u.headD 0)]⟩,fun _=>True,fun _ x=>(0<=x/\x<=65535),fun _ x=>zJ x⟩,acP h0 d e f g h c i j b q n o k l m p,acY h0 c b n o (oz h0 d e f g h c i j) k l m p,acQ h0 d e f g h c i j b q n o k l m p,acZ h0 c b n o (oz h0 d e f g h c i j) k l m p,acR h0 d e f g h c i j b q n o k l m p,ac0 h0 c b n o (oz h0 d e f g h c i j) k l m p]
noncomputable abbrev Hr(b h0 d e f g h i j k c l m:Int)(t q r u v:Nat)(n o p:Array Value)(s w:Option Addr)(V:Prop):List Ct:=[⟨14,fun _ _=>[],4,fun _=>L4 (lI h0 d e f g h i j k c l m) n o p,fun _=>⟨[(bn 4 b t s q r)]⟩,fun _=>True,fun _ x=>(x=0->V),fun _ x=>zJ x⟩,⟨34,fun a _=>[iD a 1],4,fun _=>L4 (lI h0 d e f g h i j k c l m) n o p,fun y=>⟨[.slice w u v,zJ (y.headD 0)]⟩,fun _=>True,fun _ x=>(0<=x/\x<=65535),fun _ x=>zJ x⟩,acS h0 d e f g h i j k c l m b t q r n o p s,ac1 h0 c b q r (lI h0 d e f g h i j k c l m) n o p s,acT h0 d e f g h i j k c l m b t q r n o p s,ac2 h0 c b q r (lI h0 d e f g h i j k c l m) n o p s,acU h0 d e f g h i j k c l m b t q r n o p s,ac3 h0 c b q r (lI h0 d e f g h i j k c l m) n o p s]
end Go.Am
namespace Go.Am
open Go.Proofs
def uJ:List (Int×Int×Int×Int)->List Value
 | []=>[]
 | (f,t,a,b)::r=>zJ f::zJ t::zJ a::zJ b::uJ r
def encS:List (Int×Int×Bool)->List Value
 | []=>[]
 | (g,m,w)::r=>zJ g::zJ m::.bool w::encS r
def rC:List Int->List Value
 | []=>[]
 | n::r=>.int .u16 n::rC r
def V2(b:Nat)(a:List (Int×Int×Int×Int)):Prop:=a.length<=3/\Tps b a
def V3(lo hi:Int)(a:List (Int×Int×Bool)):Prop:=a.length<=3/\Sts lo hi (a.map fun x=>(x.1,x.2.1))
theorem ku:∀l,∀x∈uJ l,Plain x
 | [],x,h=>absurd h List.not_mem_nil
 | (f,t,a,b)::r,x,h=>by
   simp only[uJ,List.mem_cons]at h;rcases h with rfl|rfl|rfl|rfl|h;iterate 4 exact .int _ _
   exact ku r x h
theorem aB:∀l,∀x∈encS l,Plain x
 | [],x,h=>absurd h List.not_mem_nil
 | (g,m,w)::r,x,h=>by
   simp only[encS,List.mem_cons]at h;rcases h with rfl|rfl|rfl|h
   ·exact .int _ _
   ·exact .int _ _
   ·exact .bool _
   ·exact aB r x h
theorem jd:∀l,∀x∈rC l,Plain x
 | [],x,h=>absurd h List.not_mem_nil
 | n::r,x,h=>by
   simp only[rC,List.mem_cons]at h;rcases h with rfl|h
   ·exact .int _ _
   ·exact jd r x h
theorem jr{b tc sc c:Array Value}(h1:∀x∈b,Plain x)(h2:∀x∈tc,Plain x)(h3:∀x∈sc,Plain x)(d:∀x∈c,Plain x):StL 4 (L4 b tc sc c):=by
 refine⟨fun p a=>?_,fun p a=>?_,by simp[L4]⟩
 · simp only[L4,List.mem_cons,List.not_mem_nil,or_false]at a;rcases a with rfl|rfl|rfl|rfl<;>simp
 · simp only[L4,List.mem_cons,List.not_mem_nil,or_false]at a;rcases a with rfl|rfl|rfl|rfl
   ·exact⟨b,_,_,rfl,h1⟩
   ·exact⟨tc,_,_,rfl,h2⟩
   ·exact⟨sc,_,_,rfl,h3⟩
   ·exact⟨c,_,_,rfl,d⟩
theorem afw{p:Nat->Prop}{o:Option Addr}{n c:Nat}(h:∀a,o=some a->p a.block):l7 p (.slice o n c):=by
 cases o with
 | none=>exact .nilslice n c
 | some a=>exact .slice (h a rfl)
def rD(b:Nat)(n:Nat)(o:Option Addr):Prop:=(n≠0->o=some ⟨b,0,none⟩)/\∀a,o=some a->a.block=b
theorem rD.ok{b n c m:Nat}{o:Option Addr}(h:rD b n o)(d:b<m):l7 (· <m) (.slice o n c):=afw fun a e=>by rw[h.2 a e];exact d
theorem uK{m b f c g:Nat}{a:Int}{d:Option Addr}(h:3<=m)(h1:rD 0 b (some ⟨0,0,none⟩))(h3:rD 2 c d):l7 (· <m) (bn b a f d c g):=by
 refine .agg fun x e=>?_
 simp only[List.mem_toArray,List.mem_cons,List.not_mem_nil,or_false]at e;rcases e with rfl|rfl|rfl|rfl
 · exact .int _ _
 · exact h1.ok (by omega)
 · exact .nilslice _ _
 · exact h3.ok (by omega)
theorem vO{m N e b f:Nat}{a:Int}{c:Option Addr}(i:3<=m)(g:N<m)(h:rD 2 b c):l7 (· <m) (bo N e a c b f):=by
 refine .agg fun x d=>?_
 simp only[List.mem_toArray,List.mem_cons,List.not_mem_nil,or_false]at d;rcases d with rfl|rfl|rfl|rfl
 · exact .int _ _
 · exact .slice g
 · exact .nilslice _ _
 · exact h.ok (by omega)
theorem mem1{b:Type}{a x:b}(h:x∈(⟨[a]⟩:Array b)):x=a:=by simpa using h
section
variable{np:Nat}(g:2<=np/\np<=5){ag:Int}{i sc k tc:Array Value}{op ot j:Option Addr}{cp ct cs:Nat}{tps:List (Int×Int×Int×Int)}{f:List (Int×Int×Bool)}{lo hi:Int}
include g
theorem X6{u:Value}(l:nth i.toList 0=some (zJ lo))(m:nth i.toList ((np-1)*3)=some (zJ hi))(n:rD 2 f.length j):bu Tryz.prog (fun v _=>∃x:Int,(x=0->V3 lo hi f)/\v=zJ x) ⟨ak.enter Tryz.prog 43 ⟨[.agg ⟨[zJ ag,zS 0 np cp,u,.slice j f.length cs]⟩]⟩,[],bz 4 (L4 i tc ⟨encS f⟩ k)⟩:=by
 have o:∀{s:AS} {V W:Prop},(V->W)->bu Tryz.prog (fun v _=>∃x:Int,(x=0->V)/\v=zJ x) s->bu Tryz.prog (fun v _=>∃x:Int,(x=0->W)/\v=zJ x) s:=
   fun h r=>r.mono fun v _ ⟨x,w,y⟩=>⟨x,fun e=>h (w e),y⟩
 match f,n with
 | [],n=>exact o (fun h=>⟨by decide,h⟩) (afd g l m)
 | [(p,q,t)],n=>obtain rfl:=n.1 (by simp);exact o (fun h=>⟨by simp,h⟩) (afe g l m)
 | [(p,q,t),(z,A,B)],n=>obtain rfl:=n.1 (by simp);exact o (fun h=>⟨by simp,h⟩) (aff g l m)
 | [(p,q,t),(z,A,B),(C,D,E)],n=>obtain rfl:=n.1 (by simp);exact o (fun h=>⟨by simp,h⟩) (afg g l m)
 | a::b::c::d::r,n=>exact o False.elim (afh (nt:=r.length+4) (by omega))
theorem Ap{V1:Prop}(h:∀x∈i,Plain x)(l:∀x∈tc,Plain x)(n:∀x∈k,Plain x)(o:nth i.toList 0=some (zJ lo))(q:nth i.toList ((np-1)*3)=some (zJ hi))(b:rD 2 f.length j)
   (r:bu Tryz.prog (fun v _=>∃x:Int,(x=0->V1)/\v=zJ x) ⟨ak.enter Tryz.prog 41 ⟨[zS 0 np cp]⟩,[],bz 4 (L4 i tc ⟨encS f⟩ k)⟩):
   aX Tryz.prog ⟨14,fun _ _=>[],4,fun _=>L4 i tc ⟨encS f⟩ k,fun _=>⟨[bn np ag cp j f.length cs]⟩,fun _=>True,fun _ x=>(x=0->(0<=ag/\ag<=20)/\V1/\True/\V3 lo hi f),fun _ x=>zJ x⟩:=by
 have d:=jr (tc:=tc) (sc:=⟨encS f⟩) h l (fun x c=>aB f x (by simpa using c)) n
 have h0:rD 0 np (some ⟨0,0,none⟩):=⟨fun _=>rfl,fun a e=>by cases e;rfl⟩
 refine⟨fun p _=>?_,fun _ _=>d,fun p x c=>?_,fun _ _ x _=>.int _ _⟩
 · refine ahP (V1:=V1) (V2:=True) (V3:=V3 lo hi f) (aO ⟨fun _ _=>r,fun _ _=>d,fun p x c=>?_,fun _ _ x _=>.int _ _⟩ (aO ⟨fun _ _=>(afc g).mono fun v _ ⟨x,_,s⟩=>⟨x,fun _=>trivial,s⟩,fun _ _=>d,fun p x c=>?_,fun _ _ x _=>.int _ _⟩ (aO ⟨fun _ _=>X6 g o q b,fun _ _=>d,fun p x c=>?_,fun _ _ x _=>.int _ _⟩ bI)))
   ·rw[mem1 c];exact h0.ok (m:=4) (by decide)
   ·rw[mem1 c];exact uK (m:=4) (by decide) h0 b
   ·rw[mem1 c];exact uK (m:=4) (by decide) h0 b
 · rw[mem1 c];exact uK (m:=4) (by decide) h0 b
theorem X7{q:Value}(h:nth i.toList 0=some (zJ lo))(l:nth i.toList ((np-1)*3)=some (zJ hi))(m:rD 2 f.length j)(e:V3 lo hi f):bu Tryz.prog (fun v _=>∃x:Int,x=0/\v=zJ x) ⟨ak.enter Tryz.prog 120 ⟨[.agg ⟨[zJ ag,zS 0 np cp,q,.slice j f.length cs]⟩]⟩,[],bz 4 (L4 i tc ⟨encS f⟩ k)⟩:=by
 match f,m,e with
 | [],m,e=>exact afm g h l e.2
 | [(n,o,p)],m,e=>obtain rfl:=m.1 (by simp);exact afn g h l e.2
 | [(n,o,p),(s,t,u)],m,e=>obtain rfl:=m.1 (by simp);exact afo g h l e.2
 | [(n,o,p),(s,t,u),(w,y,z)],m,e=>obtain rfl:=m.1 (by simp);exact afp g h l e.2
 | a::b::c::d::r,m,e=>exact absurd e.1 (by simp)
theorem GU(h:∀x∈i,Plain x)(l:∀x∈tc,Plain x)(n:∀x∈k,Plain x)(o:nth i.toList 0=some (zJ lo))(q:nth i.toList ((np-1)*3)=some (zJ hi))(c:rD 2 f.length j)(s:0<=ag/\ag<=20)(t:V3 lo hi f)
   (u:bu Tryz.prog (fun v _=>∃x:Int,x=0/\v=zJ x) ⟨ak.enter Tryz.prog 118 ⟨[bn np ag cp j f.length cs]⟩,[],bz 4 (L4 i tc ⟨encS f⟩ k)⟩):
   aX Tryz.prog ⟨87,fun _ _=>[],4,fun _=>L4 i tc ⟨encS f⟩ k,fun _=>⟨[bn np ag cp j f.length cs]⟩,fun _=>True,fun _ x=>x=0,fun _ x=>zJ x⟩:=by
 have d:=jr (tc:=tc) (sc:=⟨encS f⟩) h l (fun x r=>aB f x (by simpa using r)) n
 have h0:rD 0 np (some ⟨0,0,none⟩):=⟨fun _=>rfl,fun a e=>by cases e;rfl⟩
 have b:∀(p:List Int),∀x∈(⟨[bn np ag cp j f.length cs]⟩:Array Value),l7 (· <4) x:=fun p x r=>by rw[mem1 r];exact uK (m:=4) (by decide) h0 c
 refine⟨fun p _=>?_,fun _ _=>d,b,fun _ _ x _=>.int _ _⟩;exact ahQ s (aO ⟨fun _ _=>u,fun _ _=>d,b,fun _ _ x _=>.int _ _⟩ (aO ⟨fun _ _=>afl g trivial,fun _ _=>d,b,fun _ _ x _=>.int _ _⟩ (aO ⟨fun _ _=>X7 g o q c t,fun _ _=>d,b,fun _ _ x _=>.int _ _⟩ bI)))
end
end Go.Am
namespace Go.Am
open Go.Proofs
section
variable{h0 l0 u0 k g h i j a:Int}{b d e:Nat}{tc sc l:Array Value}{f:Option Addr}
theorem Q7(Q:Value->Prop)(K:AS->Prop):tx (aJ [⟨87,fun _ _=>[],4,fun _=>L4 (qX h0 l0 u0 k g h) tc sc l,fun _=>⟨[(bn 2 a b f d e)]⟩,fun _=>True,fun _ x=>x=0,fun _ x=>zJ x⟩]) Q K (.call 4 5 (.br 1 4 13 .no (.br 24 6 8 (.br 0 5 13 (.br 17 6 8 (.br 0 5 13 (.rk 34 0 (.ret 2 1)) .no) .no) .no) .no))) ⟨ak.enter Tryz.prog 35 ⟨[(bn 2 a b f d e),zS 13 2 2]⟩,[],bz 14 ((13,⟨.cells ⟨[zJ i,zJ j]⟩ 3 (0,0),some 10,true,1⟩)::L4 (qX h0 l0 u0 k g h) tc sc l)⟩=(((AE ⟨[(bn 2 a b f d e)]⟩)/\(E4 (qX h0 l0 u0 k g h) tc sc l)/\True)/\∀c:Int,(c=0)->RK (true) (BR (!decide (c=0)) (False) (BR (decide (0<=i)) (BR (decide (i<=959)) (BR (decide (0<=j)) (BR (decide (j<=959)) (RK (((decide (a=a)&&(decide (b=b)&&(((decide (f=f)&&decide (d=d))&&decide (e=e))&&true)))&&true)) (Q (.tuple ⟨[(bn 2 a b f d e),.agg ⟨[zJ i,zJ j,zJ 0,zJ 0,zJ 0]⟩,zJ 0]⟩))) (False)) (False)) (False)) (False)))):=by kernel_rfl
theorem aaT(n:0<=a/\a<=20/\0<=h0/\k<=959/\h0<k/\0<=l0/\l0<=u0/\u0<=959/\u0-l0<3/\0<=g/\g<=h/\h<=959/\h-g<3)(o:0<=i/\i<=959/\0<=j/\j<=959)(m:∀c∈([⟨87,fun _ _=>[],4,fun _=>L4 (qX h0 l0 u0 k g h) tc sc l,fun _=>⟨[(bn 2 a b f d e)]⟩,fun _=>True,fun _ x=>x=0,fun _ x=>zJ x⟩]:List Ct),aX Tryz.prog c):bu Tryz.prog (fun v _=>∃x:Int,x=0/\v=.tuple ⟨[(bn 2 a b f d e),.agg ⟨[zJ i,zJ j,zJ 0,zJ 0,zJ 0]⟩,zJ 0]⟩) ⟨ak.enter Tryz.prog 35 ⟨[(bn 2 a b f d e),zS 13 2 2]⟩,[],bz 14 ((13,⟨.cells ⟨[zJ i,zJ j]⟩ 3 (0,0),some 10,true,1⟩)::L4 (qX h0 l0 u0 k g h) tc sc l)⟩:=by
 refine ai (aC m) (Q7 _ _) ?_;refine⟨⟨rfl,dK,trivial⟩,fun p _=>⟨rfl,?_⟩⟩;refine BR.nr (by omega) ?_;iterate 5 (first|refine BR.ll ?_|refine⟨by simp,?_⟩)
 exact fun _=>⟨0,rfl,rfl⟩
end
section
variable{h0 l0 u0 h1 e f b d a g:Int}{h i j:Nat}{tc sc l:Array Value}{k:Option Addr}
noncomputable abbrev PE(h0 l0 u0 h1 e f b d a:Int)(h i j:Nat)(tc sc l:Array Value)(k:Option Addr):List Ct:=[⟨35,fun _ _=>[],14,fun _=>(13,⟨.cells ⟨[zJ b,zJ d]⟩ 3 (0,0),some 10,true,1⟩)::L4 (qX h0 l0 u0 h1 e f) tc sc l,fun _=>⟨[(bn 2 a h k i j),zS 13 2 2]⟩,fun _=>True,fun _ x=>x=0,fun _ _=>.tuple ⟨[(bn 2 a h k i j),.agg ⟨[zJ b,zJ d,zJ 0,zJ 0,zJ 0]⟩,zJ 0]⟩⟩]
theorem Q8(Q:Value->Prop)(K:AS->Prop):tx (aJ (PE h0 l0 u0 h1 e f b d a h i j tc sc l k)) Q K (.call 1 4 (.br 5 10 12 .no (.br 0 14 26 .no (.br 8 15 18 .no (.val 6 16 23 (.val 0 8 31 (.val 6 15 42 (.val 0 1 43 (.ov 2 5 (.val 0 0 7 (.br 0 1 8 (.ov 1 5 (.val 0 0 11 (.val 0 1 12 (.rk 2 0 (.val 0 1 46 (.ret 5 1)))))) (.ov 2 4 (.val 0 0 15 (.rk 2 0 (.val 0 1 46 (.ret 5 1)))))))))))))))) ⟨ak.enter Tryz.prog 8 ⟨[(bn 2 a h k i j),zS 13 2 2,zJ g]⟩,[],bz 14 ((13,⟨.cells ⟨[zJ b,zJ d]⟩ 3 (0,0),some 10,true,1⟩)::L4 (qX h0 l0 u0 h1 e f) tc sc l)⟩=(((AE ⟨[(bn 2 a h k i j),zS 13 2 2]⟩)/\(BE (⟨.cells ⟨[zJ b,zJ d]⟩ 3 (0,0),(some 10),true,1⟩:aY)/\E4 (qX h0 l0 u0 h1 e f) tc sc l)/\True)/\∀v:Int,(v=0)->RK (true) (BR (decide (g<h0)) (False) (BR (decide (g>h1)) (False) (BR (decide (g>h1)) (False) (∀c,c=wi (h1-h0)->∀o,o=wi (d-b)->∀p,p=wi (g-h0)->∀n,n=wi (o*p)->((c:Int)≠0)/\∀q,q=Int.tmod n c->BR (decide (q<0)) (((c:Int)≠0)/\∀r,r=wi (Int.tdiv n c)->∀s,s=wi (r-1)->RK ((decide (b=b)&&true)) (∀t,t=wi (b+s)->Q (.tuple ⟨[zJ t,zJ 0]⟩))) (((c:Int)≠0)/\∀u,u=wi (Int.tdiv n c)->RK ((decide (b=b)&&true)) (∀m,m=wi (b+u)->Q (.tuple ⟨[zJ m,zJ 0]⟩)))))))):=by kernel_rfl
theorem aaU(p:0<=a/\a<=20/\0<=h0/\h1<=959/\h0<h1/\0<=l0/\l0<=u0/\u0<=959/\u0-l0<3/\0<=e/\e<=f/\f<=959/\f-e<3)(q:0<=b/\b<=959/\0<=d/\d<=959)(m:h0<=g/\g<=h1)(n:∀c∈((PE h0 l0 u0 h1 e f b d a h i j tc sc l k):List Ct),aX Tryz.prog c):bu Tryz.prog (fun v _=>∃x:Int,(x=gY [(h0,b),(h1,d)] g)/\v=.tuple ⟨[zJ x,zJ 0]⟩) ⟨ak.enter Tryz.prog 8 ⟨[(bn 2 a h k i j),zS 13 2 2,zJ g]⟩,[],bz 14 ((13,⟨.cells ⟨[zJ b,zJ d]⟩ 3 (0,0),some 10,true,1⟩)::L4 (qX h0 l0 u0 h1 e f) tc sc l)⟩:=by
 refine ai (aC n) (Q8 _ _) ?_;refine⟨⟨rfl,⟨⟨rfl,rfl⟩,dK⟩,trivial⟩,fun r _=>⟨rfl,?_⟩⟩;iterate 9 (first|refine BR.rr ?_|refine va fun _ _=>?_|refine vs fun _ _ _=>?_|refine vm (by omega) (by omega) (by omega) (by omega) fun _ _ _ _=>?_|refine⟨by omega,?_⟩)
 refine BR.mk (fun _=>?_) (fun _=>?_)
 ·
  iterate 5 (first|refine va fun _ _=>?_|refine vq (by omega) (by omega) fun _ _ _=>?_|refine⟨by omega,?_⟩|refine⟨by simp,?_⟩)
  exact ou (by subst_vars;simp only[gY];(repeat' split)<;>first|omega|exact bg (by omega) (by assumption)|exact aZ (by omega) (by assumption))
 refine⟨by omega,?_⟩;refine vq (by omega) (by omega) fun s _ _=>?_
 refine⟨by simp,?_⟩;refine va fun o _=>?_
 exact ou (by subst_vars;simp only[gY];(repeat' split)<;>first|omega|exact bg (by omega) (by assumption)|exact aZ (by omega) (by assumption))
end
section
variable{h0 l0 u0 h1 e f b d a:Int}{g h i:Nat}{tc sc j:Array Value}{k:Option Addr}
theorem Q9(Q:Value->Prop)(K:AS->Prop):tx (aJ (PE h0 l0 u0 h1 e f b d a g h i tc sc j k)) Q K (.call 1 4 (.val 13 16 23 (.val 0 8 31 (.val 5 9 32 (.val 0 2 34 (.val 0 1 35 (.ret 10 1))))))) ⟨ak.enter Tryz.prog 10 ⟨[(bn 2 a g k h i),zS 13 2 2]⟩,[],bz 14 ((13,⟨.cells ⟨[zJ b,zJ d]⟩ 3 (0,0),some 10,true,1⟩)::L4 (qX h0 l0 u0 h1 e f) tc sc j)⟩=(((AE ⟨[(bn 2 a g k h i),zS 13 2 2]⟩)/\(BE (⟨.cells ⟨[zJ b,zJ d]⟩ 3 (0,0),(some 10),true,1⟩:aY)/\E4 (qX h0 l0 u0 h1 e f) tc sc j)/\True)/\∀o:Int,(o=0)->RK (true) (∀c,c=wi (h1-h0)->∀p,p=wi (d-b)->∀l,l=wi (b+d)->∀m,m=wi (l*c)->∀n,n=wi (0+m)->Q (.tuple ⟨[zJ n,zJ 0]⟩))):=by kernel_rfl
theorem aaV(m:0<=a/\a<=20/\0<=h0/\h1<=959/\h0<h1/\0<=l0/\l0<=u0/\u0<=959/\u0-l0<3/\0<=e/\e<=f/\f<=959/\f-e<3)(n:0<=b/\b<=959/\0<=d/\d<=959)(l:∀c∈((PE h0 l0 u0 h1 e f b d a g h i tc sc j k):List Ct),aX Tryz.prog c):bu Tryz.prog (fun v _=>∃x:Int,x=qW [(h0,b),(h1,d)]/\v=.tuple ⟨[zJ x,zJ 0]⟩) ⟨ak.enter Tryz.prog 10 ⟨[(bn 2 a g k h i),zS 13 2 2]⟩,[],bz 14 ((13,⟨.cells ⟨[zJ b,zJ d]⟩ 3 (0,0),some 10,true,1⟩)::L4 (qX h0 l0 u0 h1 e f) tc sc j)⟩:=by
 refine ai (aC l) (Q9 _ _) ?_;refine⟨⟨rfl,⟨⟨rfl,rfl⟩,dK⟩,trivial⟩,fun o _=>⟨rfl,?_⟩⟩;iterate 5 (first|refine va fun _ _=>?_|refine vm (by omega) (by omega) (by omega) (by omega) fun _ _ _ _=>?_)
 exact ou (by subst_vars;simp only[qW];omega)
end
section
variable{h0 l0 u0 h1 f g d e b:Int}{h i j:Nat}{tc sc l:Array Value}{k:Option Addr}
theorem Rf(Q:Value->Prop)(K:AS->Prop):tx (aJ [⟨35,fun _ _=>[],14,fun _=>(13,⟨.cells ⟨[zJ d,zJ e]⟩ 3 (0,0),some 10,true,1⟩)::L4 (qX h0 l0 u0 h1 f g) tc sc l,fun _=>⟨[(bn 2 b h k i j),zS 13 2 2]⟩,fun _=>True,fun _ x=>x=0,fun _ _=>.tuple ⟨[(bn 2 b h k i j),.agg ⟨[zJ d,zJ e,zJ 0,zJ 0,zJ 0]⟩,zJ 0]⟩⟩,⟨45,fun a _=>[iD a 0],0,fun _=>[],fun c=>⟨[zJ (c.headD 0)]⟩,fun c=>0<=c.headD 0/\c.headD 0<=4000000,fun c x=>x=rt (c.headD 0),fun _ x=>zJ x⟩]) Q K (.call 1 4 (.val 77 16 23 (.val 0 8 31 (.val 4 6 39 (.val 0 3 42 (.val 0 1 43 (.call 0 0 (.val 0 1 45 (.ret 28 1))))))))) ⟨ak.enter Tryz.prog 11 ⟨[(bn 2 b h k i j),zS 13 2 2,zJ 0,zJ 1]⟩,[],bz 14 ((13,⟨.cells ⟨[zJ d,zJ e]⟩ 3 (0,0),some 10,true,1⟩)::L4 (qX h0 l0 u0 h1 f g) tc sc l)⟩=(((AE ⟨[(bn 2 b h k i j),zS 13 2 2]⟩)/\(BE (⟨.cells ⟨[zJ d,zJ e]⟩ 3 (0,0),(some 10),true,1⟩:aY)/\E4 (qX h0 l0 u0 h1 f g) tc sc l)/\True)/\∀t:Int,(t=0)->RK (true) (∀n,n=wi (h1-h0)->∀o,o=wi (e-d)->∀p,p=wi (n*n)->∀q,q=wi (o*o)->∀m,m=wi (p+q)->((AE ⟨[zJ m]⟩)/\(True)/\(0<=m/\m<=4000000))/\∀r:Int,(r=rt m)->RK (true) (∀s,s=wi (0+r)->Q (.tuple ⟨[zJ s,zJ 0]⟩)))):=by kernel_rfl
theorem aaW(r:0<=b/\b<=20/\0<=h0/\h1<=959/\h0<h1/\0<=l0/\l0<=u0/\u0<=959/\u0-l0<3/\0<=f/\f<=g/\g<=959/\g-f<3)(s:0<=d/\d<=959/\0<=e/\e<=959)(o:∀c∈([⟨35,fun _ _=>[],14,fun _=>(13,⟨.cells ⟨[zJ d,zJ e]⟩ 3 (0,0),some 10,true,1⟩)::L4 (qX h0 l0 u0 h1 f g) tc sc l,fun _=>⟨[(bn 2 b h k i j),zS 13 2 2]⟩,fun _=>True,fun _ x=>x=0,fun _ _=>.tuple ⟨[(bn 2 b h k i j),.agg ⟨[zJ d,zJ e,zJ 0,zJ 0,zJ 0]⟩,zJ 0]⟩⟩,⟨45,fun a _=>[iD a 0],0,fun _=>[],fun m=>⟨[zJ (m.headD 0)]⟩,fun m=>0<=m.headD 0/\m.headD 0<=4000000,fun m x=>x=rt (m.headD 0),fun _ x=>zJ x⟩]:List Ct),aX Tryz.prog c):bu Tryz.prog (fun v _=>∃x:Int,x=gL [(h0,d),(h1,e)]/\v=.tuple ⟨[zJ x,zJ 0]⟩) ⟨ak.enter Tryz.prog 11 ⟨[(bn 2 b h k i j),zS 13 2 2,zJ 0,zJ 1]⟩,[],bz 14 ((13,⟨.cells ⟨[zJ d,zJ e]⟩ 3 (0,0),some 10,true,1⟩)::L4 (qX h0 l0 u0 h1 f g) tc sc l)⟩:=by
 refine ai (aC o) (Rf _ _) ?_;refine⟨⟨rfl,⟨⟨rfl,rfl⟩,dK⟩,trivial⟩,fun t _=>⟨rfl,?_⟩⟩;iterate 4 (first|refine va fun _ _=>?_|refine xB (by omega) (by omega) fun _ _ _ _=>?_)
 refine va fun p _=>?_
 refine⟨⟨rfl,trivial,by omega⟩,fun u q=>⟨rfl,?_⟩⟩;obtain⟨_,_⟩:=fA (n:=p) (by omega) (by omega) q
 refine va fun w _=>?_
 exact ou (by subst_vars;simp[gL,sg]<;>omega)
end
end Go.Am
