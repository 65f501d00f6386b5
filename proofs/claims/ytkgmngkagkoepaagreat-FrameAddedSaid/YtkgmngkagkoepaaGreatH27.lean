import Derived.Test.YtkgmngkagkoepaaGreatH25
set_option linter.all false
namespace Go.Am
open Go.Proofs
section
variable{h0 l0 u0 n j k o l m g h i a:Int}{b d e:Nat}{tc sc p:Array Value}{f:Option Addr}
abbrev Jd:HT:=.val 6 16 23 (.val 0 8 31 (.val 6 15 42 (.val 0 1 43 (.ov 2 5 (.val 0 0 7 (.br 0 1 8 (.ov 1 5 (.val 0 0 11 (.val 0 1 12 (.rk 2 0 (.val 0 1 46 (.ret 5 1)))))) (.ov 2 4 (.val 0 0 15 (.rk 2 0 (.val 0 1 46 (.ret 5 1)))))))))))
abbrev X8:HT:=.val 0 8 31 (.val 4 6 39 (.val 0 3 42 (.val 0 1 43 (.call 0 0 (.val 0 1 45 (.val 10 16 23 (.val 0 8 31 (.val 4 6 39 (.val 0 3 42 (.val 0 1 43 (.call 0 0 (.val 0 1 45 (.val 19 16 23 (.val 0 8 31 (.val 4 6 39 (.val 0 3 42 (.val 0 1 43 (.call 0 0 (.val 0 1 45 (.ret 28 1))))))))))))))))))))
abbrev X9:HT:=.val 0 8 31 (.val 5 9 32 (.val 0 2 34 (.val 0 1 35 (.val 9 16 23 (.val 0 8 31 (.val 5 9 32 (.val 0 2 34 (.val 0 1 35 (.ret 10 1)))))))))
abbrev ac4:HT:=.br 0 5 13 (.br 17 6 8 (.br 0 5 13 (.br 17 6 8 (.br 0 5 13 (.rk 34 0 (.ret 2 1)) .no) .no) .no) .no) .no
abbrev ac5:HT:=.call 1 4 (.br 5 10 12 .no (.br 0 14 26 .no (.br 8 15 18 (.br 4 13 18 .no Jd) Jd)))
abbrev ac6:HT:=.call 4 5 (.br 1 4 13 .no (.br 24 6 8 ac4 .no))
theorem Rh(Q:Value->Prop)(K:AS->Prop):∀v0:Array Value,v0=(oz h0 l0 u0 n j k o l m)->tx (aJ [⟨87,fun _ _=>[],4,fun _=>L4 v0 tc sc p,fun _=>⟨[(bn 3 a b f d e)]⟩,fun _=>True,fun _ x=>x=0,fun _ x=>zJ x⟩]) Q K ac6 ⟨ak.enter Tryz.prog 35 ⟨[(bn 3 a b f d e),zS 16 3 3]⟩,[],bz 17 ((16,⟨.cells ⟨[zJ g,zJ h,zJ i]⟩ 3 (0,0),some 10,true,1⟩)::L4 v0 tc sc p)⟩=(((AE ⟨[(bn 3 a b f d e)]⟩)/\(E4 v0 tc sc p)/\True)/\∀c:Int,(c=0)->RK (true) (BR (!decide (c=0)) (False) (BR (decide (0<=g)) (BR (decide (g<=959)) (BR (decide (0<=h)) (BR (decide (h<=959)) (BR (decide (0<=i)) (BR (decide (i<=959)) (RK (((decide (a=a)&&(decide (b=b)&&(((decide (f=f)&&decide (d=d))&&decide (e=e))&&true)))&&true)) (Q (.tuple ⟨[(bn 3 a b f d e),.agg ⟨[zJ g,zJ h,zJ i,zJ 0,zJ 0]⟩,zJ 0]⟩))) (False)) (False)) (False)) (False)) (False)) (False)))):=by
 rintro _ rfl;kernel_rfl
theorem aaX(r:0<=a/\a<=20/\0<=h0/\o<=959/\h0<n/\n<o/\0<=l0/\l0<=u0/\u0<=959/\u0-l0<3/\0<=j/\j<=k/\k<=959/\k-j<3/\0<=l/\l<=m/\m<=959/\m-l<3)(s:0<=g/\g<=959/\0<=h/\h<=959/\0<=i/\i<=959)(q:∀c∈([⟨87,fun _ _=>[],4,fun _=>L4 (oz h0 l0 u0 n j k o l m) tc sc p,fun _=>⟨[(bn 3 a b f d e)]⟩,fun _=>True,fun _ x=>x=0,fun _ x=>zJ x⟩]:List Ct),aX Tryz.prog c):bu Tryz.prog (fun v _=>∃x:Int,x=0/\v=.tuple ⟨[(bn 3 a b f d e),.agg ⟨[zJ g,zJ h,zJ i,zJ 0,zJ 0]⟩,zJ 0]⟩) ⟨ak.enter Tryz.prog 35 ⟨[(bn 3 a b f d e),zS 16 3 3]⟩,[],bz 17 ((16,⟨.cells ⟨[zJ g,zJ h,zJ i]⟩ 3 (0,0),some 10,true,1⟩)::L4 (oz h0 l0 u0 n j k o l m) tc sc p)⟩:=by
 refine ai (aC q) (Rh _ _ _ rfl) ?_;refine⟨⟨rfl,dK,trivial⟩,fun t _=>⟨rfl,?_⟩⟩;refine BR.nr (by omega) ?_;iterate 7 (first|refine BR.ll ?_|refine⟨by simp,?_⟩)
 exact fun _=>⟨0,rfl,rfl⟩
end
section
variable{h0 l0 u0 h1 g h h2 i j d b e a f:Int}{k l m:Nat}{tc sc o:Array Value}{n:Option Addr}
noncomputable abbrev PG(h0 l0 u0 h1 g h h2 i j d b e a:Int)(k l m:Nat)(tc sc o:Array Value)(n:Option Addr):List Ct:=[⟨35,fun _ _=>[],17,fun _=>(16,⟨.cells ⟨[zJ d,zJ b,zJ e]⟩ 3 (0,0),some 10,true,1⟩)::L4 (oz h0 l0 u0 h1 g h h2 i j) tc sc o,fun _=>⟨[(bn 3 a k n l m),zS 16 3 3]⟩,fun _=>True,fun _ x=>x=0,fun _ _=>.tuple ⟨[(bn 3 a k n l m),.agg ⟨[zJ d,zJ b,zJ e,zJ 0,zJ 0]⟩,zJ 0]⟩⟩]
theorem Ri(Q:Value->Prop)(K:AS->Prop):tx (aJ (PG h0 l0 u0 h1 g h h2 i j d b e a k l m tc sc o n)) Q K ac5 ⟨ak.enter Tryz.prog 8 ⟨[(bn 3 a k n l m),zS 16 3 3,zJ f]⟩,[],bz 17 ((16,⟨.cells ⟨[zJ d,zJ b,zJ e]⟩ 3 (0,0),some 10,true,1⟩)::L4 (oz h0 l0 u0 h1 g h h2 i j) tc sc o)⟩=(((AE ⟨[(bn 3 a k n l m),zS 16 3 3]⟩)/\(BE (⟨.cells ⟨[zJ d,zJ b,zJ e]⟩ 3 (0,0),(some 10),true,1⟩:aY)/\E4 (oz h0 l0 u0 h1 g h h2 i j) tc sc o)/\True)/\∀L:Int,(L=0)->RK (true) (BR (decide (f<h0)) (False) (BR (decide (f>h2)) (False) (BR (decide (f>h1)) (BR (decide (f>h2)) (False) (∀q,q=wi (h2-h1)->∀B,B=wi (e-b)->∀C,C=wi (f-h1)->∀A,A=wi (B*C)->((q:Int)≠0)/\∀D,D=Int.tmod A q->BR (decide (D<0)) (((q:Int)≠0)/\∀E,E=wi (Int.tdiv A q)->∀F,F=wi (E-1)->RK ((decide (b=b)&&true)) (∀H,H=wi (b+F)->Q (.tuple ⟨[zJ H,zJ 0]⟩))) (((q:Int)≠0)/\∀J,J=wi (Int.tdiv A q)->RK ((decide (b=b)&&true)) (∀r,r=wi (b+J)->Q (.tuple ⟨[zJ r,zJ 0]⟩))))) (∀c,c=wi (h1-h0)->∀s,s=wi (b-d)->∀t,t=wi (f-h0)->∀p,p=wi (s*t)->((c:Int)≠0)/\∀u,u=Int.tmod p c->BR (decide (u<0)) (((c:Int)≠0)/\∀v,v=wi (Int.tdiv p c)->∀w,w=wi (v-1)->RK ((decide (d=d)&&true)) (∀x,x=wi (d+w)->Q (.tuple ⟨[zJ x,zJ 0]⟩))) (((c:Int)≠0)/\∀y,y=wi (Int.tdiv p c)->RK ((decide (d=d)&&true)) (∀z,z=wi (d+y)->Q (.tuple ⟨[zJ z,zJ 0]⟩)))))))):=by kernel_rfl
theorem aaY(u:0<=a/\a<=20/\0<=h0/\h2<=959/\h0<h1/\h1<h2/\0<=l0/\l0<=u0/\u0<=959/\u0-l0<3/\0<=g/\g<=h/\h<=959/\h-g<3/\0<=i/\i<=j/\j<=959/\j-i<3)(w:0<=d/\d<=959/\0<=b/\b<=959/\0<=e/\e<=959)(p:h0<=f/\f<=h2)(q:∀c∈((PG h0 l0 u0 h1 g h h2 i j d b e a k l m tc sc o n):List Ct),aX Tryz.prog c):bu Tryz.prog (fun v _=>∃x:Int,(x=gY [(h0,d),(h1,b),(h2,e)] f)/\v=.tuple ⟨[zJ x,zJ 0]⟩) ⟨ak.enter Tryz.prog 8 ⟨[(bn 3 a k n l m),zS 16 3 3,zJ f]⟩,[],bz 17 ((16,⟨.cells ⟨[zJ d,zJ b,zJ e]⟩ 3 (0,0),some 10,true,1⟩)::L4 (oz h0 l0 u0 h1 g h h2 i j) tc sc o)⟩:=by
 refine ai (aC q) (Ri _ _) ?_;refine⟨⟨rfl,⟨⟨rfl,rfl⟩,dK⟩,trivial⟩,fun y _=>⟨rfl,?_⟩⟩;iterate 2 refine BR.rr ?_
 refine BR.mk (fun _=>?_) (fun _=>?_)
 ·
  iterate 7 (first|refine BR.rr ?_|refine va fun _ _=>?_|refine vs fun _ _ _=>?_|refine vm (by omega) (by omega) (by omega) (by omega) fun _ _ _ _=>?_|refine⟨by omega,?_⟩)
  refine BR.mk (fun _=>?_) (fun _=>?_)
  ·
   iterate 5 (first|refine va fun _ _=>?_|refine vq (by omega) (by omega) fun _ _ _=>?_|refine⟨by omega,?_⟩|refine⟨by simp,?_⟩)
   exact ou (by subst_vars;simp only[gY];(repeat' split)<;>first|omega|exact bg (by omega) (by assumption)|exact aZ (by omega) (by assumption))
  refine⟨by omega,?_⟩;refine vq (by omega) (by omega) fun z _ _=>?_
  refine⟨by simp,?_⟩;refine va fun r _=>?_
  exact ou (by subst_vars;simp only[gY];(repeat' split)<;>first|omega|exact bg (by omega) (by assumption)|exact aZ (by omega) (by assumption))
 iterate 6 (first|refine va fun _ _=>?_|refine vs fun _ _ _=>?_|refine vm (by omega) (by omega) (by omega) (by omega) fun _ _ _ _=>?_|refine⟨by omega,?_⟩)
 refine BR.mk (fun _=>?_) (fun _=>?_)
 ·
  iterate 5 (first|refine va fun _ _=>?_|refine vq (by omega) (by omega) fun _ _ _=>?_|refine⟨by omega,?_⟩|refine⟨by simp,?_⟩)
  exact ou (by subst_vars;simp only[gY];(repeat' split)<;>first|omega|exact bg (by omega) (by assumption)|exact aZ (by omega) (by assumption))
 refine⟨by omega,?_⟩;refine vq (by omega) (by omega) fun s _ _=>?_
 refine⟨by simp,?_⟩;refine va fun t _=>?_
 exact ou (by subst_vars;simp only[gY];(repeat' split)<;>first|omega|exact bg (by omega) (by assumption)|exact aZ (by omega) (by assumption))
end
section
variable{h0 l0 u0 h1 f g h2 h i d b e a:Int}{j k l:Nat}{tc sc m:Array Value}{n:Option Addr}
theorem Rj(Q:Value->Prop)(K:AS->Prop):tx (aJ (PG h0 l0 u0 h1 f g h2 h i d b e a j k l tc sc m n)) Q K (.call 1 4 (.val 13 16 23 X9)) ⟨ak.enter Tryz.prog 10 ⟨[(bn 3 a j n k l),zS 16 3 3]⟩,[],bz 17 ((16,⟨.cells ⟨[zJ d,zJ b,zJ e]⟩ 3 (0,0),some 10,true,1⟩)::L4 (oz h0 l0 u0 h1 f g h2 h i) tc sc m)⟩=(((AE ⟨[(bn 3 a j n k l),zS 16 3 3]⟩)/\(BE (⟨.cells ⟨[zJ d,zJ b,zJ e]⟩ 3 (0,0),(some 10),true,1⟩:aY)/\E4 (oz h0 l0 u0 h1 f g h2 h i) tc sc m)/\True)/\∀v:Int,(v=0)->RK (true) (∀o,o=wi (h1-h0)->∀w,w=wi (b-d)->∀p,p=wi (d+b)->∀q,q=wi (p*o)->∀r,r=wi (0+q)->∀s,s=wi (h2-h1)->∀x,x=wi (e-b)->∀t,t=wi (b+e)->∀u,u=wi (t*s)->∀c,c=wi (r+u)->Q (.tuple ⟨[zJ c,zJ 0]⟩))):=by kernel_rfl
theorem aaZ(p:0<=a/\a<=20/\0<=h0/\h2<=959/\h0<h1/\h1<h2/\0<=l0/\l0<=u0/\u0<=959/\u0-l0<3/\0<=f/\f<=g/\g<=959/\g-f<3/\0<=h/\h<=i/\i<=959/\i-h<3)(q:0<=d/\d<=959/\0<=b/\b<=959/\0<=e/\e<=959)(o:∀c∈((PG h0 l0 u0 h1 f g h2 h i d b e a j k l tc sc m n):List Ct),aX Tryz.prog c):bu Tryz.prog (fun v _=>∃x:Int,x=qW [(h0,d),(h1,b),(h2,e)]/\v=.tuple ⟨[zJ x,zJ 0]⟩) ⟨ak.enter Tryz.prog 10 ⟨[(bn 3 a j n k l),zS 16 3 3]⟩,[],bz 17 ((16,⟨.cells ⟨[zJ d,zJ b,zJ e]⟩ 3 (0,0),some 10,true,1⟩)::L4 (oz h0 l0 u0 h1 f g h2 h i) tc sc m)⟩:=by
 refine ai (aC o) (Rj _ _) ?_;refine⟨⟨rfl,⟨⟨rfl,rfl⟩,dK⟩,trivial⟩,fun r _=>⟨rfl,?_⟩⟩;iterate 10 (first|refine va fun _ _=>?_|refine vm (by omega) (by omega) (by omega) (by omega) fun _ _ _ _=>?_)
 exact ou (by subst_vars;simp only[qW];omega)
end
section
variable{h0 l0 u0 h1 k l h2 m o f d e b:Int}{g h i:Nat}{tc sc p:Array Value}{j:Option Addr}
theorem Rk(Q:Value->Prop)(K:AS->Prop):∀v0:Array Value,v0=(oz h0 l0 u0 h1 k l h2 m o)->tx (aJ [⟨35,fun _ _=>[],17,fun _=>(16,⟨.cells ⟨[zJ f,zJ d,zJ e]⟩ 3 (0,0),some 10,true,1⟩)::L4 v0 tc sc p,fun _=>⟨[(bn 3 b g j h i),zS 16 3 3]⟩,fun _=>True,fun _ x=>x=0,fun _ _=>.tuple ⟨[(bn 3 b g j h i),.agg ⟨[zJ f,zJ d,zJ e,zJ 0,zJ 0]⟩,zJ 0]⟩⟩,⟨45,fun a _=>[iD a 0],0,fun _=>[],fun s=>⟨[zJ (s.headD 0)]⟩,fun s=>0<=s.headD 0/\s.headD 0<=4000000,fun s x=>x=rt (s.headD 0),fun _ x=>zJ x⟩]) Q K (.call 1 4 (.val 77 16 23 X8)) ⟨ak.enter Tryz.prog 11 ⟨[(bn 3 b g j h i),zS 16 3 3,zJ 0,zJ 2]⟩,[],bz 17 ((16,⟨.cells ⟨[zJ f,zJ d,zJ e]⟩ 3 (0,0),some 10,true,1⟩)::L4 v0 tc sc p)⟩=(((AE ⟨[(bn 3 b g j h i),zS 16 3 3]⟩)/\(BE (⟨.cells ⟨[zJ f,zJ d,zJ e]⟩ 3 (0,0),(some 10),true,1⟩:aY)/\E4 v0 tc sc p)/\True)/\∀O:Int,(O=0)->RK (true) (∀C,C=wi (h1-h0)->∀D,D=wi (d-f)->∀J,J=wi (C*C)->∀L,L=wi (D*D)->∀t,t=wi (J+L)->((AE ⟨[zJ t]⟩)/\(True)/\(0<=t/\t<=4000000))/\∀M:Int,(M=rt t)->RK (true) (∀N,N=wi (0+M)->∀E,E=wi (h2-h1)->∀F,F=wi (e-d)->∀u,u=wi (E*E)->∀v,v=wi (F*F)->∀c,c=wi (u+v)->((AE ⟨[zJ c]⟩)/\(True)/\(0<=c/\c<=4000000))/\∀w:Int,(w=rt c)->RK (true) (∀y,y=wi (N+w)->∀q,q=wi (h2-h1)->∀r,r=wi (e-d)->∀z,z=wi (q*q)->∀A,A=wi (r*r)->∀n,n=wi (z+A)->((AE ⟨[zJ n]⟩)/\(True)/\(0<=n/\n<=4000000))/\∀B:Int,(B=rt n)->RK (true) (∀H,H=wi (0+B)->Q (.tuple ⟨[zJ y,zJ 0]⟩)))))):=by
 rintro _ rfl;kernel_rfl
theorem aa0(B:0<=b/\b<=20/\0<=h0/\h2<=959/\h0<h1/\h1<h2/\0<=l0/\l0<=u0/\u0<=959/\u0-l0<3/\0<=k/\k<=l/\l<=959/\l-k<3/\0<=m/\m<=o/\o<=959/\o-m<3)(C:0<=f/\f<=959/\0<=d/\d<=959/\0<=e/\e<=959)(u:∀c∈([⟨35,fun _ _=>[],17,fun _=>(16,⟨.cells ⟨[zJ f,zJ d,zJ e]⟩ 3 (0,0),some 10,true,1⟩)::L4 (oz h0 l0 u0 h1 k l h2 m o) tc sc p,fun _=>⟨[(bn 3 b g j h i),zS 16 3 3]⟩,fun _=>True,fun _ x=>x=0,fun _ _=>.tuple ⟨[(bn 3 b g j h i),.agg ⟨[zJ f,zJ d,zJ e,zJ 0,zJ 0]⟩,zJ 0]⟩⟩,⟨45,fun a _=>[iD a 0],0,fun _=>[],fun q=>⟨[zJ (q.headD 0)]⟩,fun q=>0<=q.headD 0/\q.headD 0<=4000000,fun q x=>x=rt (q.headD 0),fun _ x=>zJ x⟩]:List Ct),aX Tryz.prog c):bu Tryz.prog (fun v _=>∃x:Int,x=gL [(h0,f),(h1,d),(h2,e)]/\v=.tuple ⟨[zJ x,zJ 0]⟩) ⟨ak.enter Tryz.prog 11 ⟨[(bn 3 b g j h i),zS 16 3 3,zJ 0,zJ 2]⟩,[],bz 17 ((16,⟨.cells ⟨[zJ f,zJ d,zJ e]⟩ 3 (0,0),some 10,true,1⟩)::L4 (oz h0 l0 u0 h1 k l h2 m o) tc sc p)⟩:=by
 refine ai (aC u) (Rk _ _ _ rfl) ?_;refine⟨⟨rfl,⟨⟨rfl,rfl⟩,dK⟩,trivial⟩,fun D _=>⟨rfl,?_⟩⟩;iterate 4 (first|refine va fun _ _=>?_|refine xB (by omega) (by omega) fun _ _ _ _=>?_)
 refine va fun w _=>?_
 refine⟨⟨rfl,trivial,by omega⟩,fun E r=>⟨rfl,?_⟩⟩;obtain⟨_,_⟩:=fA (n:=w) (by omega) (by omega) r
 iterate 5 (first|refine va fun _ _=>?_|refine xB (by omega) (by omega) fun _ _ _ _=>?_)
 refine va fun s _=>?_
 refine⟨⟨rfl,trivial,by omega⟩,fun y r=>⟨rfl,?_⟩⟩;obtain⟨_,_⟩:=fA (n:=s) (by omega) (by omega) r
 iterate 5 (first|refine va fun _ _=>?_|refine xB (by omega) (by omega) fun _ _ _ _=>?_)
 refine va fun t _=>?_
 refine⟨⟨rfl,trivial,by omega⟩,fun z r=>⟨rfl,?_⟩⟩;obtain⟨_,_⟩:=fA (n:=t) (by omega) (by omega) r
 refine va fun A _=>?_
 exact ou (by subst_vars;simp[gL,sg]<;>omega)
end
end Go.Am
namespace Go.Am
open Go.Proofs
section
variable{h0 l0 u0 q k l r m n s o p g h i j a:Int}{b d e:Nat}{tc sc t:Array Value}{f:Option Addr}
theorem Rl(Q:Value->Prop)(K:AS->Prop):∀v0:Array Value,v0=(lI h0 l0 u0 q k l r m n s o p)->tx (aJ [⟨87,fun _ _=>[],4,fun _=>L4 v0 tc sc t,fun _=>⟨[(bn 4 a b f d e)]⟩,fun _=>True,fun _ x=>x=0,fun _ x=>zJ x⟩]) Q K (.call 4 5 (.br 1 4 13 .no (.br 24 6 8 (.br 0 5 13 (.br 17 6 8 ac4 .no) .no) .no))) ⟨ak.enter Tryz.prog 35 ⟨[(bn 4 a b f d e),zS 19 4 4]⟩,[],bz 20 ((19,⟨.cells ⟨[zJ g,zJ h,zJ i,zJ j]⟩ 3 (0,0),some 10,true,1⟩)::L4 v0 tc sc t)⟩=(((AE ⟨[(bn 4 a b f d e)]⟩)/\(E4 v0 tc sc t)/\True)/\∀c:Int,(c=0)->RK (true) (BR (!decide (c=0)) (False) (BR (decide (0<=g)) (BR (decide (g<=959)) (BR (decide (0<=h)) (BR (decide (h<=959)) (BR (decide (0<=i)) (BR (decide (i<=959)) (BR (decide (0<=j)) (BR (decide (j<=959)) (RK (((decide (a=a)&&(decide (b=b)&&(((decide (f=f)&&decide (d=d))&&decide (e=e))&&true)))&&true)) (Q (.tuple ⟨[(bn 4 a b f d e),.agg ⟨[zJ g,zJ h,zJ i,zJ j,zJ 0]⟩,zJ 0]⟩))) (False)) (False)) (False)) (False)) (False)) (False)) (False)) (False)))):=by
 rintro _ rfl;kernel_rfl
theorem aa1(w:0<=a/\a<=20/\0<=h0/\s<=959/\h0<q/\q<r/\r<s/\0<=l0/\l0<=u0/\u0<=959/\u0-l0<3/\0<=k/\k<=l/\l<=959/\l-k<3/\0<=m/\m<=n/\n<=959/\n-m<3/\0<=o/\o<=p/\p<=959/\p-o<3)(y:0<=g/\g<=959/\0<=h/\h<=959/\0<=i/\i<=959/\0<=j/\j<=959)(u:∀c∈([⟨87,fun _ _=>[],4,fun _=>L4 (lI h0 l0 u0 q k l r m n s o p) tc sc t,fun _=>⟨[(bn 4 a b f d e)]⟩,fun _=>True,fun _ x=>x=0,fun _ x=>zJ x⟩]:List Ct),aX Tryz.prog c):bu Tryz.prog (fun v _=>∃x:Int,x=0/\v=.tuple ⟨[(bn 4 a b f d e),.agg ⟨[zJ g,zJ h,zJ i,zJ j,zJ 0]⟩,zJ 0]⟩) ⟨ak.enter Tryz.prog 35 ⟨[(bn 4 a b f d e),zS 19 4 4]⟩,[],bz 20 ((19,⟨.cells ⟨[zJ g,zJ h,zJ i,zJ j]⟩ 3 (0,0),some 10,true,1⟩)::L4 (lI h0 l0 u0 q k l r m n s o p) tc sc t)⟩:=by
 refine ai (aC u) (Rl _ _ _ rfl) ?_;refine⟨⟨rfl,dK,trivial⟩,fun z _=>⟨rfl,?_⟩⟩;refine BR.nr (by omega) ?_;iterate 9 (first|refine BR.ll ?_|refine⟨by simp,?_⟩)
 exact fun _=>⟨0,rfl,rfl⟩
end
section
variable{h0 l0 u0 h1 h i h2 j k h3 l m e b d g a f:Int}{n o p:Nat}{tc sc r:Array Value}{q:Option Addr}
noncomputable abbrev PI(h0 l0 u0 h1 h i h2 j k h3 l m e b d g a:Int)(n o p:Nat)(tc sc r:Array Value)(q:Option Addr):List Ct:=[⟨35,fun _ _=>[],20,fun _=>(19,⟨.cells ⟨[zJ e,zJ b,zJ d,zJ g]⟩ 3 (0,0),some 10,true,1⟩)::L4 (lI h0 l0 u0 h1 h i h2 j k h3 l m) tc sc r,fun _=>⟨[(bn 4 a n q o p),zS 19 4 4]⟩,fun _=>True,fun _ x=>x=0,fun _ _=>.tuple ⟨[(bn 4 a n q o p),.agg ⟨[zJ e,zJ b,zJ d,zJ g,zJ 0]⟩,zJ 0]⟩⟩]
theorem Rn(Q:Value->Prop)(K:AS->Prop):tx (aJ (PI h0 l0 u0 h1 h i h2 j k h3 l m e b d g a n o p tc sc r q)) Q K (.call 1 4 (.br 5 10 12 .no (.br 0 14 26 .no (.br 8 15 18 (.br 4 13 18 (.br 4 13 18 .no Jd) Jd) Jd)))) ⟨ak.enter Tryz.prog 8 ⟨[(bn 4 a n q o p),zS 19 4 4,zJ f]⟩,[],bz 20 ((19,⟨.cells ⟨[zJ e,zJ b,zJ d,zJ g]⟩ 3 (0,0),some 10,true,1⟩)::L4 (lI h0 l0 u0 h1 h i h2 j k h3 l m) tc sc r)⟩=(((AE ⟨[(bn 4 a n q o p),zS 19 4 4]⟩)/\(BE (⟨.cells ⟨[zJ e,zJ b,zJ d,zJ g]⟩ 3 (0,0),(some 10),true,1⟩:aY)/\E4 (lI h0 l0 u0 h1 h i h2 j k h3 l m) tc sc r)/\True)/\∀x0:Int,(x0=0)->RK (true) (BR (decide (f<h0)) (False) (BR (decide (f>h3)) (False) (BR (decide (f>h1)) (BR (decide (f>h2)) (BR (decide (f>h3)) (False) (∀v,v=wi (h3-h2)->∀T,T=wi (g-d)->∀U,U=wi (f-h2)->∀R,R=wi (T*U)->((v:Int)≠0)/\∀V,V=Int.tmod R v->BR (decide (V<0)) (((v:Int)≠0)/\∀W,W=wi (Int.tdiv R v)->∀X,X=wi (W-1)->RK ((decide (d=d)&&true)) (∀Y,Y=wi (d+X)->Q (.tuple ⟨[zJ Y,zJ 0]⟩))) (((v:Int)≠0)/\∀Z,Z=wi (Int.tdiv R v)->RK ((decide (d=d)&&true)) (∀w,w=wi (d+Z)->Q (.tuple ⟨[zJ w,zJ 0]⟩))))) (∀c,c=wi (h2-h1)->∀x,x=wi (d-b)->∀y,y=wi (f-h1)->∀t,t=wi (x*y)->((c:Int)≠0)/\∀z,z=Int.tmod t c->BR (decide (z<0)) (((c:Int)≠0)/\∀A,A=wi (Int.tdiv t c)->∀B,B=wi (A-1)->RK ((decide (b=b)&&true)) (∀C,C=wi (b+B)->Q (.tuple ⟨[zJ C,zJ 0]⟩))) (((c:Int)≠0)/\∀D,D=wi (Int.tdiv t c)->RK ((decide (b=b)&&true)) (∀E,E=wi (b+D)->Q (.tuple ⟨[zJ E,zJ 0]⟩))))) (∀s,s=wi (h1-h0)->∀F,F=wi (b-e)->∀H,H=wi (f-h0)->∀u,u=wi (F*H)->((s:Int)≠0)/\∀J,J=Int.tmod u s->BR (decide (J<0)) (((s:Int)≠0)/\∀L,L=wi (Int.tdiv u s)->∀M,M=wi (L-1)->RK ((decide (e=e)&&true)) (∀N,N=wi (e+M)->Q (.tuple ⟨[zJ N,zJ 0]⟩))) (((s:Int)≠0)/\∀O,O=wi (Int.tdiv u s)->RK ((decide (e=e)&&true)) (∀P,P=wi (e+O)->Q (.tuple ⟨[zJ P,zJ 0]⟩)))))))):=by kernel_rfl
theorem aa2(B:0<=a/\a<=20/\0<=h0/\h3<=959/\h0<h1/\h1<h2/\h2<h3/\0<=l0/\l0<=u0/\u0<=959/\u0-l0<3/\0<=h/\h<=i/\i<=959/\i-h<3/\0<=j/\j<=k/\k<=959/\k-j<3/\0<=l/\l<=m/\m<=959/\m-l<3)(C:0<=e/\e<=959/\0<=b/\b<=959/\0<=d/\d<=959/\0<=g/\g<=959)(s:h0<=f/\f<=h3)(t:∀c∈((PI h0 l0 u0 h1 h i h2 j k h3 l m e b d g a n o p tc sc r q):List Ct),aX Tryz.prog c):bu Tryz.prog (fun v _=>∃x:Int,(x=gY [(h0,e),(h1,b),(h2,d),(h3,g)] f)/\v=.tuple ⟨[zJ x,zJ 0]⟩) ⟨ak.enter Tryz.prog 8 ⟨[(bn 4 a n q o p),zS 19 4 4,zJ f]⟩,[],bz 20 ((19,⟨.cells ⟨[zJ e,zJ b,zJ d,zJ g]⟩ 3 (0,0),some 10,true,1⟩)::L4 (lI h0 l0 u0 h1 h i h2 j k h3 l m) tc sc r)⟩:=by
 refine ai (aC t) (Rn _ _) ?_;refine⟨⟨rfl,⟨⟨rfl,rfl⟩,dK⟩,trivial⟩,fun D _=>⟨rfl,?_⟩⟩;iterate 2 refine BR.rr ?_
 refine BR.mk (fun _=>?_) (fun _=>?_)
 ·
  refine BR.mk (fun _=>?_) (fun _=>?_)
  ·
   iterate 7 (first|refine BR.rr ?_|refine va fun _ _=>?_|refine vs fun _ _ _=>?_|refine vm (by omega) (by omega) (by omega) (by omega) fun _ _ _ _=>?_|refine⟨by omega,?_⟩)
   refine BR.mk (fun _=>?_) (fun _=>?_)
   ·
    iterate 5 (first|refine va fun _ _=>?_|refine vq (by omega) (by omega) fun _ _ _=>?_|refine⟨by omega,?_⟩|refine⟨by simp,?_⟩)
    exact ou (by subst_vars;simp only[gY];(repeat' split)<;>first|omega|exact bg (by omega) (by assumption)|exact aZ (by omega) (by assumption))
   refine⟨by omega,?_⟩;refine vq (by omega) (by omega) fun E _ _=>?_
   refine⟨by simp,?_⟩;refine va fun u _=>?_
   exact ou (by subst_vars;simp only[gY];(repeat' split)<;>first|omega|exact bg (by omega) (by assumption)|exact aZ (by omega) (by assumption))
  iterate 6 (first|refine va fun _ _=>?_|refine vs fun _ _ _=>?_|refine vm (by omega) (by omega) (by omega) (by omega) fun _ _ _ _=>?_|refine⟨by omega,?_⟩)
  refine BR.mk (fun _=>?_) (fun _=>?_)
  ·
   iterate 5 (first|refine va fun _ _=>?_|refine vq (by omega) (by omega) fun _ _ _=>?_|refine⟨by omega,?_⟩|refine⟨by simp,?_⟩)
   exact ou (by subst_vars;simp only[gY];(repeat' split)<;>first|omega|exact bg (by omega) (by assumption)|exact aZ (by omega) (by assumption))
  refine⟨by omega,?_⟩;refine vq (by omega) (by omega) fun w _ _=>?_
  refine⟨by simp,?_⟩;refine va fun y _=>?_
  exact ou (by subst_vars;simp only[gY];(repeat' split)<;>first|omega|exact bg (by omega) (by assumption)|exact aZ (by omega) (by assumption))
 iterate 6 (first|refine va fun _ _=>?_|refine vs fun _ _ _=>?_|refine vm (by omega) (by omega) (by omega) (by omega) fun _ _ _ _=>?_|refine⟨by omega,?_⟩)
 refine BR.mk (fun _=>?_) (fun _=>?_)
 ·
  iterate 5 (first|refine va fun _ _=>?_|refine vq (by omega) (by omega) fun _ _ _=>?_|refine⟨by omega,?_⟩|refine⟨by simp,?_⟩)
  exact ou (by subst_vars;simp only[gY];(repeat' split)<;>first|omega|exact bg (by omega) (by assumption)|exact aZ (by omega) (by assumption))
 refine⟨by omega,?_⟩;refine vq (by omega) (by omega) fun z _ _=>?_
 refine⟨by simp,?_⟩;refine va fun A _=>?_
 exact ou (by subst_vars;simp only[gY];(repeat' split)<;>first|omega|exact bg (by omega) (by assumption)|exact aZ (by omega) (by assumption))
end
section
variable{h0 l0 u0 h1 g h h2 i j h3 k l e b d f a:Int}{m n o:Nat}{tc sc p:Array Value}{q:Option Addr}
theorem Ro(Q:Value->Prop)(K:AS->Prop):tx (aJ (PI h0 l0 u0 h1 g h h2 i j h3 k l e b d f a m n o tc sc p q)) Q K (.call 1 4 (.val 13 16 23 (.val 0 8 31 (.val 5 9 32 (.val 0 2 34 (.val 0 1 35 (.val 9 16 23 X9))))))) ⟨ak.enter Tryz.prog 10 ⟨[(bn 4 a m q n o),zS 19 4 4]⟩,[],bz 20 ((19,⟨.cells ⟨[zJ e,zJ b,zJ d,zJ f]⟩ 3 (0,0),some 10,true,1⟩)::L4 (lI h0 l0 u0 h1 g h h2 i j h3 k l) tc sc p)⟩=(((AE ⟨[(bn 4 a m q n o),zS 19 4 4]⟩)/\(BE (⟨.cells ⟨[zJ e,zJ b,zJ d,zJ f]⟩ 3 (0,0),(some 10),true,1⟩:aY)/\E4 (lI h0 l0 u0 h1 g h h2 i j h3 k l) tc sc p)/\True)/\∀D:Int,(D=0)->RK (true) (∀w,w=wi (h1-h0)->∀E,E=wi (b-e)->∀x,x=wi (e+b)->∀y,y=wi (x*w)->∀z,z=wi (0+y)->∀A,A=wi (h2-h1)->∀F,F=wi (d-b)->∀B,B=wi (b+d)->∀C,C=wi (B*A)->∀c,c=wi (z+C)->∀r,r=wi (h3-h2)->∀v,v=wi (f-d)->∀s,s=wi (d+f)->∀t,t=wi (s*r)->∀u,u=wi (c+t)->Q (.tuple ⟨[zJ u,zJ 0]⟩))):=by kernel_rfl
theorem aa3(s:0<=a/\a<=20/\0<=h0/\h3<=959/\h0<h1/\h1<h2/\h2<h3/\0<=l0/\l0<=u0/\u0<=959/\u0-l0<3/\0<=g/\g<=h/\h<=959/\h-g<3/\0<=i/\i<=j/\j<=959/\j-i<3/\0<=k/\k<=l/\l<=959/\l-k<3)(t:0<=e/\e<=959/\0<=b/\b<=959/\0<=d/\d<=959/\0<=f/\f<=959)(r:∀c∈((PI h0 l0 u0 h1 g h h2 i j h3 k l e b d f a m n o tc sc p q):List Ct),aX Tryz.prog c):bu Tryz.prog (fun v _=>∃x:Int,x=qW [(h0,e),(h1,b),(h2,d),(h3,f)]/\v=.tuple ⟨[zJ x,zJ 0]⟩) ⟨ak.enter Tryz.prog 10 ⟨[(bn 4 a m q n o),zS 19 4 4]⟩,[],bz 20 ((19,⟨.cells ⟨[zJ e,zJ b,zJ d,zJ f]⟩ 3 (0,0),some 10,true,1⟩)::L4 (lI h0 l0 u0 h1 g h h2 i j h3 k l) tc sc p)⟩:=by
 refine ai (aC r) (Ro _ _) ?_;refine⟨⟨rfl,⟨⟨rfl,rfl⟩,dK⟩,trivial⟩,fun u _=>⟨rfl,?_⟩⟩;iterate 15 (first|refine va fun _ _=>?_|refine vm (by omega) (by omega) (by omega) (by omega) fun _ _ _ _=>?_)
 exact ou (by subst_vars;simp only[qW];omega)
end
section
variable{h0 l0 u0 h1 l m h2 o p h3 q r g e d f b:Int}{h i j:Nat}{tc sc s:Array Value}{k:Option Addr}
theorem Rq(Q:Value->Prop)(K:AS->Prop):∀v0:Array Value,v0=(lI h0 l0 u0 h1 l m h2 o p h3 q r)->tx (aJ [⟨35,fun _ _=>[],20,fun _=>(19,⟨.cells ⟨[zJ g,zJ e,zJ d,zJ f]⟩ 3 (0,0),some 10,true,1⟩)::L4 v0 tc sc s,fun _=>⟨[(bn 4 b h k i j),zS 19 4 4]⟩,fun _=>True,fun _ x=>x=0,fun _ _=>.tuple ⟨[(bn 4 b h k i j),.agg ⟨[zJ g,zJ e,zJ d,zJ f,zJ 0]⟩,zJ 0]⟩⟩,⟨45,fun a _=>[iD a 0],0,fun _=>[],fun F=>⟨[zJ (F.headD 0)]⟩,fun F=>0<=F.headD 0/\F.headD 0<=4000000,fun F x=>x=rt (F.headD 0),fun _ x=>zJ x⟩]) Q K (.call 1 4 (.val 77 16 23 (.val 0 8 31 (.val 4 6 39 (.val 0 3 42 (.val 0 1 43 (.call 0 0 (.val 0 1 45 (.val 10 16 23 (.val 0 8 31 (.val 4 6 39 (.val 0 3 42 (.val 0 1 43 (.call 0 0 (.val 0 1 45 (.val 10 16 23 (.val 0 8 31 (.val 4 6 39 (.val 0 3 42 (.val 0 1 43 (.call 0 0 (.val 0 1 45 (.val 19 16 23 X8))))))))))))))))))))))) ⟨ak.enter Tryz.prog 11 ⟨[(bn 4 b h k i j),zS 19 4 4,zJ 0,zJ 3]⟩,[],bz 20 ((19,⟨.cells ⟨[zJ g,zJ e,zJ d,zJ f]⟩ 3 (0,0),some 10,true,1⟩)::L4 v0 tc sc s)⟩=(((AE ⟨[(bn 4 b h k i j),zS 19 4 4]⟩)/\(BE (⟨.cells ⟨[zJ g,zJ e,zJ d,zJ f]⟩ 3 (0,0),(some 10),true,1⟩:aY)/\E4 v0 tc sc s)/\True)/\∀x0:Int,(x0=0)->RK (true) (∀x1,x1=wi (h1-h0)->∀x2,x2=wi (e-g)->∀x3,x3=wi (x1*x1)->∀x4,x4=wi (x2*x2)->∀H,H=wi (x3+x4)->((AE ⟨[zJ H]⟩)/\(True)/\(0<=H/\H<=4000000))/\∀x6:Int,(x6=rt H)->RK (true) (∀x7,x7=wi (0+x6)->∀x8,x8=wi (h2-h1)->∀x9,x9=wi (d-e)->∀J,J=wi (x8*x8)->∀L,L=wi (x9*x9)->∀c,c=wi (J+L)->((AE ⟨[zJ c]⟩)/\(True)/\(0<=c/\c<=4000000))/\∀M:Int,(M=rt c)->RK (true) (∀N,N=wi (x7+M)->∀w,w=wi (h3-h2)->∀y,y=wi (f-d)->∀O,O=wi (w*w)->∀P,P=wi (y*y)->∀n,n=wi (O+P)->((AE ⟨[zJ n]⟩)/\(True)/\(0<=n/\n<=4000000))/\∀R:Int,(R=rt n)->RK (true) (∀T,T=wi (N+R)->∀z,z=wi (h2-h1)->∀A,A=wi (d-e)->∀U,U=wi (z*z)->∀V,V=wi (A*A)->∀t,t=wi (U+V)->((AE ⟨[zJ t]⟩)/\(True)/\(0<=t/\t<=4000000))/\∀W:Int,(W=rt t)->RK (true) (∀X,X=wi (0+W)->∀B,B=wi (h3-h2)->∀C,C=wi (f-d)->∀Y,Y=wi (B*B)->∀Z,Z=wi (C*C)->∀u,u=wi (Y+Z)->((AE ⟨[zJ u]⟩)/\(True)/\(0<=u/\u<=4000000))/\∀a0:Int,(a0=rt u)->RK (true) (∀a4,a4=wi (X+a0)->∀D,D=wi (h3-h2)->∀E,E=wi (f-d)->∀a1,a1=wi (D*D)->∀a2,a2=wi (E*E)->∀v,v=wi (a1+a2)->((AE ⟨[zJ v]⟩)/\(True)/\(0<=v/\v<=4000000))/\∀a3:Int,(a3=rt v)->RK (true) (∀a5,a5=wi (0+a3)->Q (.tuple ⟨[zJ T,zJ 0]⟩))))))))):=by
 rintro _ rfl;kernel_rfl
theorem aa4(N:0<=b/\b<=20/\0<=h0/\h3<=959/\h0<h1/\h1<h2/\h2<h3/\0<=l0/\l0<=u0/\u0<=959/\u0-l0<3/\0<=l/\l<=m/\m<=959/\m-l<3/\0<=o/\o<=p/\p<=959/\p-o<3/\0<=q/\q<=r/\r<=959/\r-q<3)(O:0<=g/\g<=959/\0<=e/\e<=959/\0<=d/\d<=959/\0<=f/\f<=959)(C:∀c∈([⟨35,fun _ _=>[],20,fun _=>(19,⟨.cells ⟨[zJ g,zJ e,zJ d,zJ f]⟩ 3 (0,0),some 10,true,1⟩)::L4 (lI h0 l0 u0 h1 l m h2 o p h3 q r) tc sc s,fun _=>⟨[(bn 4 b h k i j),zS 19 4 4]⟩,fun _=>True,fun _ x=>x=0,fun _ _=>.tuple ⟨[(bn 4 b h k i j),.agg ⟨[zJ g,zJ e,zJ d,zJ f,zJ 0]⟩,zJ 0]⟩⟩,⟨45,fun a _=>[iD a 0],0,fun _=>[],fun u=>⟨[zJ (u.headD 0)]⟩,fun u=>0<=u.headD 0/\u.headD 0<=4000000,fun u x=>x=rt (u.headD 0),fun _ x=>zJ x⟩]:List Ct),aX Tryz.prog c):bu Tryz.prog (fun v _=>∃x:Int,x=gL [(h0,g),(h1,e),(h2,d),(h3,f)]/\v=.tuple ⟨[zJ x,zJ 0]⟩) ⟨ak.enter Tryz.prog 11 ⟨[(bn 4 b h k i j),zS 19 4 4,zJ 0,zJ 3]⟩,[],bz 20 ((19,⟨.cells ⟨[zJ g,zJ e,zJ d,zJ f]⟩ 3 (0,0),some 10,true,1⟩)::L4 (lI h0 l0 u0 h1 l m h2 o p h3 q r) tc sc s)⟩:=by
 refine ai (aC C) (Rq _ _ _ rfl) ?_;refine⟨⟨rfl,⟨⟨rfl,rfl⟩,dK⟩,trivial⟩,fun P _=>⟨rfl,?_⟩⟩;iterate 4 (first|refine va fun _ _=>?_|refine xB (by omega) (by omega) fun _ _ _ _=>?_)
 refine va fun D _=>?_
 refine⟨⟨rfl,trivial,by omega⟩,fun Q t=>⟨rfl,?_⟩⟩;obtain⟨_,_⟩:=fA (n:=D) (by omega) (by omega) t
 iterate 5 (first|refine va fun _ _=>?_|refine xB (by omega) (by omega) fun _ _ _ _=>?_)
 refine va fun w _=>?_
 refine⟨⟨rfl,trivial,by omega⟩,fun E t=>⟨rfl,?_⟩⟩;obtain⟨_,_⟩:=fA (n:=w) (by omega) (by omega) t
 iterate 5 (first|refine va fun _ _=>?_|refine xB (by omega) (by omega) fun _ _ _ _=>?_)
 refine va fun y _=>?_
 refine⟨⟨rfl,trivial,by omega⟩,fun F t=>⟨rfl,?_⟩⟩;obtain⟨_,_⟩:=fA (n:=y) (by omega) (by omega) t
 iterate 5 (first|refine va fun _ _=>?_|refine xB (by omega) (by omega) fun _ _ _ _=>?_)
 refine va fun z _=>?_
 refine⟨⟨rfl,trivial,by omega⟩,fun H t=>⟨rfl,?_⟩⟩;obtain⟨_,_⟩:=fA (n:=z) (by omega) (by omega) t
 iterate 5 (first|refine va fun _ _=>?_|refine xB (by omega) (by omega) fun _ _ _ _=>?_)
 refine va fun A _=>?_
 refine⟨⟨rfl,trivial,by omega⟩,fun J t=>⟨rfl,?_⟩⟩;obtain⟨_,_⟩:=fA (n:=A) (by omega) (by omega) t
 iterate 5 (first|refine va fun _ _=>?_|refine xB (by omega) (by omega) fun _ _ _ _=>?_)
 refine va fun B _=>?_
 refine⟨⟨rfl,trivial,by omega⟩,fun L t=>⟨rfl,?_⟩⟩;obtain⟨_,_⟩:=fA (n:=B) (by omega) (by omega) t
 refine va fun M _=>?_
 exact ou (by subst_vars;simp[gL,sg]<;>omega)
end
end Go.Am
namespace Go.Am
open Go.Proofs
section
variable{m f g n h q1 o p2 i j k l a:Int}{b d:Nat}{p tc sc q:Array Value}{e:Option Addr}
theorem Rt(Q:Value->Prop)(K:AS->Prop):tx (aJ [⟨87,fun _ _=>[],28,fun _=>(27,⟨.cells ⟨[zJ m,zJ f,zJ g,zJ n,zJ h,zJ q1,zJ o,zJ p2,zJ i]⟩ 37 (0,0),some 22,true,3⟩)::L4 p tc sc q,fun _=>⟨[(bo 27 3 a e b d)]⟩,fun _=>True,fun _ x=>x=0,fun _ x=>zJ x⟩]) Q K ac6 ⟨ak.enter Tryz.prog 35 ⟨[(bo 27 3 a e b d),zS 32 3 3]⟩,[],bz 33 ((32,⟨.cells ⟨[zJ j,zJ k,zJ l]⟩ 3 (0,0),some 30,true,1⟩)::(27,⟨.cells ⟨[zJ m,zJ f,zJ g,zJ n,zJ h,zJ q1,zJ o,zJ p2,zJ i]⟩ 37 (0,0),some 22,true,3⟩)::L4 p tc sc q)⟩=(((AE ⟨[(bo 27 3 a e b d)]⟩)/\(BE (⟨.cells ⟨[zJ m,zJ f,zJ g,zJ n,zJ h,zJ q1,zJ o,zJ p2,zJ i]⟩ 37 (0,0),(some 22),true,3⟩:aY)/\E4 p tc sc q)/\True)/\∀c:Int,(c=0)->RK (true) (BR (!decide (c=0)) (False) (BR (decide (0<=j)) (BR (decide (j<=959)) (BR (decide (0<=k)) (BR (decide (k<=959)) (BR (decide (0<=l)) (BR (decide (l<=959)) (RK (((decide (a=a)&&(((decide (e=e)&&decide (b=b))&&decide (d=d))&&true))&&true)) (Q (.tuple ⟨[(bo 27 3 a e b d),.agg ⟨[zJ j,zJ k,zJ l,zJ 0,zJ 0]⟩,zJ 0]⟩))) (False)) (False)) (False)) (False)) (False)) (False)))):=by kernel_rfl
theorem aa5(s:0<=a/\a<=20/\0<=m/\o<=959/\m<n/\n<o/\0<=f/\f<=g/\g<=959/\g-f<3/\0<=h/\h<=q1/\q1<=959/\q1-h<3/\0<=p2/\p2<=i/\i<=959/\i-p2<3)(t:0<=j/\j<=959/\0<=k/\k<=959/\0<=l/\l<=959)(r:∀c∈([⟨87,fun _ _=>[],28,fun _=>(27,⟨.cells ⟨[zJ m,zJ f,zJ g,zJ n,zJ h,zJ q1,zJ o,zJ p2,zJ i]⟩ 37 (0,0),some 22,true,3⟩)::L4 p tc sc q,fun _=>⟨[(bo 27 3 a e b d)]⟩,fun _=>True,fun _ x=>x=0,fun _ x=>zJ x⟩]:List Ct),aX Tryz.prog c):bu Tryz.prog (fun v _=>∃x:Int,x=0/\v=.tuple ⟨[(bo 27 3 a e b d),.agg ⟨[zJ j,zJ k,zJ l,zJ 0,zJ 0]⟩,zJ 0]⟩) ⟨ak.enter Tryz.prog 35 ⟨[(bo 27 3 a e b d),zS 32 3 3]⟩,[],bz 33 ((32,⟨.cells ⟨[zJ j,zJ k,zJ l]⟩ 3 (0,0),some 30,true,1⟩)::(27,⟨.cells ⟨[zJ m,zJ f,zJ g,zJ n,zJ h,zJ q1,zJ o,zJ p2,zJ i]⟩ 37 (0,0),some 22,true,3⟩)::L4 p tc sc q)⟩:=by
 refine ai (aC r) (Rt _ _) ?_;refine⟨⟨rfl,⟨⟨rfl,rfl⟩,dK⟩,trivial⟩,fun u _=>⟨rfl,?_⟩⟩;refine BR.nr (by omega) ?_;iterate 7 (first|refine BR.ll ?_|refine⟨by simp,?_⟩)
 exact fun _=>⟨0,rfl,rfl⟩
end
section
variable{e j k f l q1 g p2 m d b h a i:Int}{n o:Nat}{q tc sc r:Array Value}{p:Option Addr}
noncomputable abbrev PK(e j k f l q1 g p2 m d b h a:Int)(n o:Nat)(q tc sc r:Array Value)(p:Option Addr):List Ct:=[⟨35,fun _ _=>[],33,fun _=>(32,⟨.cells ⟨[zJ d,zJ b,zJ h]⟩ 3 (0,0),some 30,true,1⟩)::(27,⟨.cells ⟨[zJ e,zJ j,zJ k,zJ f,zJ l,zJ q1,zJ g,zJ p2,zJ m]⟩ 37 (0,0),some 22,true,3⟩)::L4 q tc sc r,fun _=>⟨[(bo 27 3 a p n o),zS 32 3 3]⟩,fun _=>True,fun _ x=>x=0,fun _ _=>.tuple ⟨[(bo 27 3 a p n o),.agg ⟨[zJ d,zJ b,zJ h,zJ 0,zJ 0]⟩,zJ 0]⟩⟩]
theorem Ru(Q:Value->Prop)(K:AS->Prop):tx (aJ (PK e j k f l q1 g p2 m d b h a n o q tc sc r p)) Q K ac5 ⟨ak.enter Tryz.prog 8 ⟨[(bo 27 3 a p n o),zS 32 3 3,zJ i]⟩,[],bz 33 ((32,⟨.cells ⟨[zJ d,zJ b,zJ h]⟩ 3 (0,0),some 30,true,1⟩)::(27,⟨.cells ⟨[zJ e,zJ j,zJ k,zJ f,zJ l,zJ q1,zJ g,zJ p2,zJ m]⟩ 37 (0,0),some 22,true,3⟩)::L4 q tc sc r)⟩=(((AE ⟨[(bo 27 3 a p n o),zS 32 3 3]⟩)/\(BE (⟨.cells ⟨[zJ d,zJ b,zJ h]⟩ 3 (0,0),(some 30),true,1⟩:aY)/\BE (⟨.cells ⟨[zJ e,zJ j,zJ k,zJ f,zJ l,zJ q1,zJ g,zJ p2,zJ m]⟩ 37 (0,0),(some 22),true,3⟩:aY)/\E4 q tc sc r)/\True)/\∀O:Int,(O=0)->RK (true) (BR (decide (i<e)) (False) (BR (decide (i>g)) (False) (BR (decide (i>f)) (BR (decide (i>g)) (False) (∀t,t=wi (g-f)->∀E,E=wi (h-b)->∀F,F=wi (i-f)->∀D,D=wi (E*F)->((t:Int)≠0)/\∀H,H=Int.tmod D t->BR (decide (H<0)) (((t:Int)≠0)/\∀J,J=wi (Int.tdiv D t)->∀L,L=wi (J-1)->RK ((decide (b=b)&&true)) (∀M,M=wi (b+L)->Q (.tuple ⟨[zJ M,zJ 0]⟩))) (((t:Int)≠0)/\∀N,N=wi (Int.tdiv D t)->RK ((decide (b=b)&&true)) (∀u,u=wi (b+N)->Q (.tuple ⟨[zJ u,zJ 0]⟩))))) (∀c,c=wi (f-e)->∀v,v=wi (b-d)->∀w,w=wi (i-e)->∀s,s=wi (v*w)->((c:Int)≠0)/\∀x,x=Int.tmod s c->BR (decide (x<0)) (((c:Int)≠0)/\∀y,y=wi (Int.tdiv s c)->∀z,z=wi (y-1)->RK ((decide (d=d)&&true)) (∀A,A=wi (d+z)->Q (.tuple ⟨[zJ A,zJ 0]⟩))) (((c:Int)≠0)/\∀B,B=wi (Int.tdiv s c)->RK ((decide (d=d)&&true)) (∀C,C=wi (d+B)->Q (.tuple ⟨[zJ C,zJ 0]⟩)))))))):=by kernel_rfl
theorem aa6(z:0<=a/\a<=20/\0<=e/\g<=959/\e<f/\f<g/\0<=j/\j<=k/\k<=959/\k-j<3/\0<=l/\l<=q1/\q1<=959/\q1-l<3/\0<=p2/\p2<=m/\m<=959/\m-p2<3)(A:0<=d/\d<=959/\0<=b/\b<=959/\0<=h/\h<=959)(s:e<=i/\i<=g)(t:∀c∈((PK e j k f l q1 g p2 m d b h a n o q tc sc r p):List Ct),aX Tryz.prog c):bu Tryz.prog (fun v _=>∃x:Int,(x=gY [(e,d),(f,b),(g,h)] i)/\v=.tuple ⟨[zJ x,zJ 0]⟩) ⟨ak.enter Tryz.prog 8 ⟨[(bo 27 3 a p n o),zS 32 3 3,zJ i]⟩,[],bz 33 ((32,⟨.cells ⟨[zJ d,zJ b,zJ h]⟩ 3 (0,0),some 30,true,1⟩)::(27,⟨.cells ⟨[zJ e,zJ j,zJ k,zJ f,zJ l,zJ q1,zJ g,zJ p2,zJ m]⟩ 37 (0,0),some 22,true,3⟩)::L4 q tc sc r)⟩:=by
 refine ai (aC t) (Ru _ _) ?_;refine⟨⟨rfl,⟨⟨rfl,rfl⟩,⟨⟨rfl,rfl⟩,dK⟩⟩,trivial⟩,fun B _=>⟨rfl,?_⟩⟩;iterate 2 refine BR.rr ?_
 refine BR.mk (fun _=>?_) (fun _=>?_)
 ·
  iterate 7 (first|refine BR.rr ?_|refine va fun _ _=>?_|refine vs fun _ _ _=>?_|refine vm (by omega) (by omega) (by omega) (by omega) fun _ _ _ _=>?_|refine⟨by omega,?_⟩)
  refine BR.mk (fun _=>?_) (fun _=>?_)
  ·
   iterate 5 (first|refine va fun _ _=>?_|refine vq (by omega) (by omega) fun _ _ _=>?_|refine⟨by omega,?_⟩|refine⟨by simp,?_⟩)
   exact ou (by subst_vars;simp only[gY];(repeat' split)<;>first|omega|exact bg (by omega) (by assumption)|exact aZ (by omega) (by assumption))
  refine⟨by omega,?_⟩;refine vq (by omega) (by omega) fun C _ _=>?_
  refine⟨by simp,?_⟩;refine va fun u _=>?_
  exact ou (by subst_vars;simp only[gY];(repeat' split)<;>first|omega|exact bg (by omega) (by assumption)|exact aZ (by omega) (by assumption))
 iterate 6 (first|refine va fun _ _=>?_|refine vs fun _ _ _=>?_|refine vm (by omega) (by omega) (by omega) (by omega) fun _ _ _ _=>?_|refine⟨by omega,?_⟩)
 refine BR.mk (fun _=>?_) (fun _=>?_)
 ·
  iterate 5 (first|refine va fun _ _=>?_|refine vq (by omega) (by omega) fun _ _ _=>?_|refine⟨by omega,?_⟩|refine⟨by simp,?_⟩)
  exact ou (by subst_vars;simp only[gY];(repeat' split)<;>first|omega|exact bg (by omega) (by assumption)|exact aZ (by omega) (by assumption))
 refine⟨by omega,?_⟩;refine vq (by omega) (by omega) fun w _ _=>?_
 refine⟨by simp,?_⟩;refine va fun y _=>?_
 exact ou (by subst_vars;simp only[gY];(repeat' split)<;>first|omega|exact bg (by omega) (by assumption)|exact aZ (by omega) (by assumption))
end
section
variable{g i j d k q1 h p2 l e b f a:Int}{m n:Nat}{o tc sc p:Array Value}{q:Option Addr}
theorem Rw(Q:Value->Prop)(K:AS->Prop):tx (aJ (PK g i j d k q1 h p2 l e b f a m n o tc sc p q)) Q K (.call 1 4 (.val 13 16 23 X9)) ⟨ak.enter Tryz.prog 10 ⟨[(bo 27 3 a q m n),zS 32 3 3]⟩,[],bz 33 ((32,⟨.cells ⟨[zJ e,zJ b,zJ f]⟩ 3 (0,0),some 30,true,1⟩)::(27,⟨.cells ⟨[zJ g,zJ i,zJ j,zJ d,zJ k,zJ q1,zJ h,zJ p2,zJ l]⟩ 37 (0,0),some 22,true,3⟩)::L4 o tc sc p)⟩=(((AE ⟨[(bo 27 3 a q m n),zS 32 3 3]⟩)/\(BE (⟨.cells ⟨[zJ e,zJ b,zJ f]⟩ 3 (0,0),(some 30),true,1⟩:aY)/\BE (⟨.cells ⟨[zJ g,zJ i,zJ j,zJ d,zJ k,zJ q1,zJ h,zJ p2,zJ l]⟩ 37 (0,0),(some 22),true,3⟩:aY)/\E4 o tc sc p)/\True)/\∀y:Int,(y=0)->RK (true) (∀r,r=wi (d-g)->∀z,z=wi (b-e)->∀s,s=wi (e+b)->∀t,t=wi (s*r)->∀u,u=wi (0+t)->∀v,v=wi (h-d)->∀A,A=wi (f-b)->∀w,w=wi (b+f)->∀x,x=wi (w*v)->∀c,c=wi (u+x)->Q (.tuple ⟨[zJ c,zJ 0]⟩))):=by kernel_rfl
theorem aa7(s:0<=a/\a<=20/\0<=g/\h<=959/\g<d/\d<h/\0<=i/\i<=j/\j<=959/\j-i<3/\0<=k/\k<=q1/\q1<=959/\q1-k<3/\0<=p2/\p2<=l/\l<=959/\l-p2<3)(t:0<=e/\e<=959/\0<=b/\b<=959/\0<=f/\f<=959)(r:∀c∈((PK g i j d k q1 h p2 l e b f a m n o tc sc p q):List Ct),aX Tryz.prog c):bu Tryz.prog (fun v _=>∃x:Int,x=qW [(g,e),(d,b),(h,f)]/\v=.tuple ⟨[zJ x,zJ 0]⟩) ⟨ak.enter Tryz.prog 10 ⟨[(bo 27 3 a q m n),zS 32 3 3]⟩,[],bz 33 ((32,⟨.cells ⟨[zJ e,zJ b,zJ f]⟩ 3 (0,0),some 30,true,1⟩)::(27,⟨.cells ⟨[zJ g,zJ i,zJ j,zJ d,zJ k,zJ q1,zJ h,zJ p2,zJ l]⟩ 37 (0,0),some 22,true,3⟩)::L4 o tc sc p)⟩:=by
 refine ai (aC r) (Rw _ _) ?_;refine⟨⟨rfl,⟨⟨rfl,rfl⟩,⟨⟨rfl,rfl⟩,dK⟩⟩,trivial⟩,fun u _=>⟨rfl,?_⟩⟩;iterate 10 (first|refine va fun _ _=>?_|refine vm (by omega) (by omega) (by omega) (by omega) fun _ _ _ _=>?_)
 exact ou (by subst_vars;simp only[qW];omega)
end
section
variable{i j k f l q1 h p2 m g d e b:Int}{o p:Nat}{r tc sc s:Array Value}{q:Option Addr}
theorem Rx(Q:Value->Prop)(K:AS->Prop):tx (aJ [⟨35,fun _ _=>[],33,fun _=>(32,⟨.cells ⟨[zJ g,zJ d,zJ e]⟩ 3 (0,0),some 30,true,1⟩)::(27,⟨.cells ⟨[zJ i,zJ j,zJ k,zJ f,zJ l,zJ q1,zJ h,zJ p2,zJ m]⟩ 37 (0,0),some 22,true,3⟩)::L4 r tc sc s,fun _=>⟨[(bo 27 3 b q o p),zS 32 3 3]⟩,fun _=>True,fun _ x=>x=0,fun _ _=>.tuple ⟨[(bo 27 3 b q o p),.agg ⟨[zJ g,zJ d,zJ e,zJ 0,zJ 0]⟩,zJ 0]⟩⟩,⟨45,fun a _=>[iD a 0],0,fun _=>[],fun v=>⟨[zJ (v.headD 0)]⟩,fun v=>0<=v.headD 0/\v.headD 0<=4000000,fun v x=>x=rt (v.headD 0),fun _ x=>zJ x⟩]) Q K (.call 1 4 (.val 77 16 23 X8)) ⟨ak.enter Tryz.prog 11 ⟨[(bo 27 3 b q o p),zS 32 3 3,zJ 0,zJ 2]⟩,[],bz 33 ((32,⟨.cells ⟨[zJ g,zJ d,zJ e]⟩ 3 (0,0),some 30,true,1⟩)::(27,⟨.cells ⟨[zJ i,zJ j,zJ k,zJ f,zJ l,zJ q1,zJ h,zJ p2,zJ m]⟩ 37 (0,0),some 22,true,3⟩)::L4 r tc sc s)⟩=(((AE ⟨[(bo 27 3 b q o p),zS 32 3 3]⟩)/\(BE (⟨.cells ⟨[zJ g,zJ d,zJ e]⟩ 3 (0,0),(some 30),true,1⟩:aY)/\BE (⟨.cells ⟨[zJ i,zJ j,zJ k,zJ f,zJ l,zJ q1,zJ h,zJ p2,zJ m]⟩ 37 (0,0),(some 22),true,3⟩:aY)/\E4 r tc sc s)/\True)/\∀T:Int,(T=0)->RK (true) (∀F,F=wi (f-i)->∀H,H=wi (d-g)->∀N,N=wi (F*F)->∀O,O=wi (H*H)->∀w,w=wi (N+O)->((AE ⟨[zJ w]⟩)/\(True)/\(0<=w/\w<=4000000))/\∀P:Int,(P=rt w)->RK (true) (∀R,R=wi (0+P)->∀J,J=wi (h-f)->∀L,L=wi (e-d)->∀y,y=wi (J*J)->∀z,z=wi (L*L)->∀c,c=wi (y+z)->((AE ⟨[zJ c]⟩)/\(True)/\(0<=c/\c<=4000000))/\∀A:Int,(A=rt c)->RK (true) (∀B,B=wi (R+A)->∀t,t=wi (h-f)->∀u,u=wi (e-d)->∀C,C=wi (t*t)->∀D,D=wi (u*u)->∀n,n=wi (C+D)->((AE ⟨[zJ n]⟩)/\(True)/\(0<=n/\n<=4000000))/\∀E:Int,(E=rt n)->RK (true) (∀M,M=wi (0+E)->Q (.tuple ⟨[zJ B,zJ 0]⟩)))))):=by kernel_rfl
theorem aa8(E:0<=b/\b<=20/\0<=i/\h<=959/\i<f/\f<h/\0<=j/\j<=k/\k<=959/\k-j<3/\0<=l/\l<=q1/\q1<=959/\q1-l<3/\0<=p2/\p2<=m/\m<=959/\m-p2<3)(F:0<=g/\g<=959/\0<=d/\d<=959/\0<=e/\e<=959)(z:∀c∈([⟨35,fun _ _=>[],33,fun _=>(32,⟨.cells ⟨[zJ g,zJ d,zJ e]⟩ 3 (0,0),some 30,true,1⟩)::(27,⟨.cells ⟨[zJ i,zJ j,zJ k,zJ f,zJ l,zJ q1,zJ h,zJ p2,zJ m]⟩ 37 (0,0),some 22,true,3⟩)::L4 r tc sc s,fun _=>⟨[(bo 27 3 b q o p),zS 32 3 3]⟩,fun _=>True,fun _ x=>x=0,fun _ _=>.tuple ⟨[(bo 27 3 b q o p),.agg ⟨[zJ g,zJ d,zJ e,zJ 0,zJ 0]⟩,zJ 0]⟩⟩,⟨45,fun a _=>[iD a 0],0,fun _=>[],fun t=>⟨[zJ (t.headD 0)]⟩,fun t=>0<=t.headD 0/\t.headD 0<=4000000,fun t x=>x=rt (t.headD 0),fun _ x=>zJ x⟩]:List Ct),aX Tryz.prog c):bu Tryz.prog (fun v _=>∃x:Int,x=gL [(i,g),(f,d),(h,e)]/\v=.tuple ⟨[zJ x,zJ 0]⟩) ⟨ak.enter Tryz.prog 11 ⟨[(bo 27 3 b q o p),zS 32 3 3,zJ 0,zJ 2]⟩,[],bz 33 ((32,⟨.cells ⟨[zJ g,zJ d,zJ e]⟩ 3 (0,0),some 30,true,1⟩)::(27,⟨.cells ⟨[zJ i,zJ j,zJ k,zJ f,zJ l,zJ q1,zJ h,zJ p2,zJ m]⟩ 37 (0,0),some 22,true,3⟩)::L4 r tc sc s)⟩:=by
 refine ai (aC z) (Rx _ _) ?_;refine⟨⟨rfl,⟨⟨rfl,rfl⟩,⟨⟨rfl,rfl⟩,dK⟩⟩,trivial⟩,fun H _=>⟨rfl,?_⟩⟩;iterate 4 (first|refine va fun _ _=>?_|refine xB (by omega) (by omega) fun _ _ _ _=>?_)
 refine va fun A _=>?_
 refine⟨⟨rfl,trivial,by omega⟩,fun J u=>⟨rfl,?_⟩⟩;obtain⟨_,_⟩:=fA (n:=A) (by omega) (by omega) u
 iterate 5 (first|refine va fun _ _=>?_|refine xB (by omega) (by omega) fun _ _ _ _=>?_)
 refine va fun w _=>?_
 refine⟨⟨rfl,trivial,by omega⟩,fun B u=>⟨rfl,?_⟩⟩;obtain⟨_,_⟩:=fA (n:=w) (by omega) (by omega) u
 iterate 5 (first|refine va fun _ _=>?_|refine xB (by omega) (by omega) fun _ _ _ _=>?_)
 refine va fun y _=>?_
 refine⟨⟨rfl,trivial,by omega⟩,fun C u=>⟨rfl,?_⟩⟩;obtain⟨_,_⟩:=fA (n:=y) (by omega) (by omega) u
 refine va fun D _=>?_
 exact ou (by subst_vars;simp[gL,sg]<;>omega)
end
end Go.Am
