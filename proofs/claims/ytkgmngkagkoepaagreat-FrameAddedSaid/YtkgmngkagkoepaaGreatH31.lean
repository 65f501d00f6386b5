import Derived.Test.YtkgmngkagkoepaaGreatH26
set_option linter.all false
namespace Go.Am
open Go.Proofs
noncomputable def qA(a h0 t u h v w c other:Int)(d x y e f p q:Nat)(z A B:Array Value)(C g r:Option Addr)(V:Prop)(s i b j k l m n o:Int):AS:=⟨⟨3,⟨[(bv 2 a d C x y g e f),.slice r p q,.int .u16 c,.int .u16 other,zP 4 0,ud,ud,ud,zF,zS 13 2 2,zJ b,zJ j,zN 0,zJ h0,zJ h]++ur 16++[zP 4 2,(bn 2 a d g e f),zT,zF,zF,zP 4 1,zS 0 2 d,zN 2,zF,zF,ud,(bn 2 a d g e f),.slice r p q,zS 13 2 2,(bn 2 a d g e f),.int .u16 c,zJ b,(bn 2 a d g e f),.int .u16 other,zJ j,zN 0,zN 1,zP 4 1,zS 0 2 d,zN 2,zT,zT,zP 4 1,zS 0 2 d,zN 0,zN 1,zP 0 3,zP 0 3,zJ h,zJ b,zF,zF,ud,ud,zP 4 1,zS 0 2 d,zN 0,zP 0 0,zP 0 0,zJ h0,zP 4 1,zS 0 2 d,zN 0,zN 1,zP 0 3,zP 0 3,zJ h,zJ b,zJ h0,zF,zF,zJ b,zJ h,zF,zF,zF,zS 13 2 2,zN 0,zN 1,zP 13 1,zJ i,zS 13 2 2,zN 0,zP 13 0,zJ s,zJ k,zJ b,zJ h0,zJ l,zJ m,zJ h,zJ h0,zJ n,zJ o,zF,zF,ud,ud,(bn 2 a d g e f),zS 13 2 2,zJ b]++ur 155⟩,[.region (bH 3 [1,1,1,1,1,1,1,1,1,0]) [3,4,5,6,7,8],.code (at_ 3 [1,1,1,1,1,1,1,1,1,1])],[],false,none,false⟩,[],⟨20,rU [(0,⟨.cells (qX h0 t u h v w) 0 (0,0),none,true,1⟩),(1,⟨.cells z 0 (0,0),none,true,1⟩),(2,⟨.cells A 0 (0,0),none,true,1⟩),(3,⟨.cells B 0 (0,0),none,true,1⟩),(4,⟨(.cells ⟨[zJ a,zS 0 2 d,.slice none 0 0,.slice g e f]⟩ 26 (0,0)),none,false,0⟩),(13,⟨(.cells ⟨[zJ s,zJ i]⟩ 3 (0,0)),(some 10),false,1⟩)],uH [(10,[13])]⟩⟩
noncomputable def qB(a h0 m n j z A e other:Int)(d E F f g B C:Nat)(H J L:Array Value)(M h D:Option Addr)(V:Prop)(k i c l o p q r s b t u v w x y:Int):AS:=⟨⟨3,⟨[(bv 2 a d M E F h f g),.slice D B C,.int .u16 e,.int .u16 other,zP 4 0,ud,ud,ud,zF,zS 13 2 2,zJ c,zJ l,zN 0,zJ h0,zJ j,zJ b,zN 0,zP 20 0,zS 32 3 3]++ur 12++[zP 4 2,(bn 2 a d h f g),zT,zF,zF,zP 4 1,zS 0 2 d,zN 2,zF,zF,ud,(bn 2 a d h f g),.slice D B C,zS 13 2 2,(bn 2 a d h f g),.int .u16 e,zJ c,(bn 2 a d h f g),.int .u16 other,zJ l,zN 0,zN 1,zP 4 1,zS 0 2 d,zN 2,zT,zT,zP 4 1,zS 0 2 d,zN 0,zN 1,zP 0 3,zP 0 3,zJ j,zJ c,zF,zF,ud,ud,zP 4 1,zS 0 2 d,zN 0,zP 0 0,zP 0 0,zJ h0,zP 4 1,zS 0 2 d,zN 0,zN 1,zP 0 3,zP 0 3,zJ j,zJ c,zJ h0,zF,zF,zJ c,zJ j,zF,zF,zF,zS 13 2 2,zN 0,zN 1,zP 13 1,zJ i,zS 13 2 2,zN 0,zP 13 0,zJ k,zJ o,zJ c,zJ h0,zJ p,zJ q,zJ j,zJ h0,zJ r,zJ s,zF,zF,ud,.tuple ⟨[zJ b,zN 0]⟩,(bn 2 a d h f g),zS 13 2 2,zJ c,.tuple ⟨[zJ b,zN 0]⟩,zJ b,zN 0,zN 0,zF,zF,zJ b,zS 13 2 2,zN 0,zP 13 0,zJ k,zS 13 2 2,zN 0,zN 1,zP 13 1,zJ i,zS 13 2 2,zN 0,zP 13 0,zJ k,zJ t,zJ c,zJ h0,zJ u,zJ v,zJ j,zJ h0,zJ w,zJ x,zJ y,zF,zF,(bn 2 a d h f g),zS 21 0 0,zP 4 1,zS 0 2 d,zN 0,zN 1,zS 0 1 d,zS 22 1 1,zJ c,zJ b,.agg ⟨[zJ b,zJ b]⟩,.agg ⟨[zJ c,zJ b,zJ b]⟩,zS 25 1 1,zS 26 2 2,zP 4 1,zS 0 2 d,zN 0,zN 1,.slice (some ⟨0,3,none⟩) 1 (d-1),zS 27 3 3,zP 20 1,zS 28 0 0,zS 13 2 2,zN 0,zN 1,zS 13 1 2,zS 30 1 1,zJ b,zS 29 1 1,zS 31 2 2,zS 13 2 2,zN 0,zN 1,.slice (some ⟨13,1,none⟩) 1 1,zS 32 3 3,ud,(bn 2 a d h f g),zS 13 2 2,zJ l]++ur 84⟩,[.region (bH 3 [1,1,1,1,1,1,1,1,1,1,1,1,1,1,0]) [3,4,5,6,7,8],.code (at_ 3 [1,1,1,1,1,1,1,1,1,1,1,1,1,1,1])],[],false,none,false⟩,[],⟨33,rU [(0,⟨.cells (qX h0 m n j z A) 0 (0,0),none,true,1⟩),(1,⟨.cells H 0 (0,0),none,true,1⟩),(2,⟨.cells J 0 (0,0),none,true,1⟩),(3,⟨.cells L 0 (0,0),none,true,1⟩),(4,⟨(.cells ⟨[zJ a,zS 0 2 d,.slice none 0 0,.slice h f g]⟩ 26 (0,0)),none,false,0⟩),(13,⟨(.cells ⟨[zJ k,zJ i]⟩ 3 (0,0)),(some 10),false,1⟩),(20,⟨(.cells ⟨[zJ a,zS 27 3 3,.slice none 0 0,.slice h f g]⟩ 26 (0,0)),none,false,0⟩),(21,⟨(.cells ⟨[]⟩ 37 (0,0)),none,false,0⟩),(22,⟨(.cells ⟨[zJ h0,zJ m,zJ n]⟩ 37 (0,0)),(some 22),false,3⟩),(25,⟨(.cells ⟨[zJ c,zJ b,zJ b]⟩ 37 (0,0)),none,false,0⟩),(26,⟨(.cells ⟨[zJ h0,zJ m,zJ n,zJ c,zJ b,zJ b]⟩ 37 (0,0)),(some 22),false,3⟩),(27,⟨(.cells ⟨[zJ h0,zJ m,zJ n,zJ c,zJ b,zJ b,zJ j,zJ z,zJ A]⟩ 37 (0,0)),(some 22),false,3⟩),(28,⟨(.cells ⟨[]⟩ 3 (0,0)),none,false,0⟩),(29,⟨(.cells ⟨[zJ b]⟩ 3 (0,0)),none,false,0⟩),(30,⟨(.cells ⟨[zJ k]⟩ 3 (0,0)),(some 30),false,1⟩),(31,⟨(.cells ⟨[zJ k,zJ b]⟩ 3 (0,0)),(some 30),false,1⟩),(32,⟨(.cells ⟨[zJ k,zJ b,zJ i]⟩ 3 (0,0)),(some 30),false,1⟩)],uH [(10,[13]),(22,[22,26,27]),(22,[22,26,27]),(22,[22,26,27]),(30,[30,31,32]),(30,[30,31,32]),(30,[30,31,32])]⟩⟩
section
variable{b h0 l0 u0 g k l h other:Int}{p L M m n H J:Nat}{q r s:Array Value}{N o ok:Option Addr}{V:Prop}{i e f j t u v w z a A B C D E F:Int}
abbrev adg:HT:=.val 4 8 12 (.val 0 1 13 (.ov 0 0 (.val 0 0 14 (.val 0 1 15 (.rk 2 1 (.aW 8 9 2 (.val 4 8 12 (.val 0 1 13 (.ov 0 0 (.val 0 0 14 (.val 0 1 15 (.rk 2 1 (.val 15 16 21 (.rk 4 0 (.val 4 8 12 (.val 0 1 13 (.ov 0 0 (.val 0 0 14 (.val 0 1 15 (.rk 5 0 (.val 4 16 21 (.rk 4 0 (.val 4 8 12 (.val 0 1 13 (.ov 0 0 (.val 0 0 14 (.val 0 1 15 (.br 8 22 66 .no (.br 8 3 85 (.cut 25 3) (.br 2 2 89 (.cut 21 3) (.val 9 2 101 (.val 1 2 104 (.val 0 1 105 (.val 1 2 108 (.ov 0 0 (.val 0 0 109 (.br 0 1 110 (.cut 1 3) (.cut 2 5))))))))))))))))))))))))))))))))))))))
abbrev adh:HT:=.val 18 2 137 (.val 1 2 140 (.val 0 1 141 (.val 1 2 144 (.ov 0 0 (.val 0 0 145 (.val 0 1 146 (.br 0 1 147 .no (.ov 6 4 (.ov 0 6 (.rk 0 0 (.rk 9 0 (.rk 0 1 (.rk 0 0 (.rk 6 1 (.rk 1 1 (.cut 2 5))))))))))))))))
abbrev adi:HT:=.br 1 28 255 (.br 0 5 260 (.val 0 5 265 (.br 2 5 9 (.br 0 4 13 (.cut 3 2) .no) .no)) .no) .no
theorem Dy:∀v0:Prop,v0=(BE (⟨.cells ⟨[zJ i,zJ a,zJ e]⟩ 3 (0,0),(some 30),false,1⟩:aY)/\BE (⟨.cells ⟨[zJ h0,zJ l0,zJ u0,zJ f,zJ a,zJ a,zJ g,zJ k,zJ l]⟩ 37 (0,0),(some 22),false,3⟩:aY)/\E4 (qX h0 l0 u0 g k l) q r s)->∀R:Prop,R=(BE (⟨.cells ⟨[zJ i,zJ e]⟩ 3 (0,0),(some 10),false,1⟩:aY)/\E4 (qX h0 l0 u0 g k l) q r s)->∀T:Prop,T=(0<=i/\i<=959/\0<=e/\e<=959)->tx (aJ (cR2 b h0 l0 u0 g k l p m n H J q r s o ok V)) (fun _=>False) zC (.aW 0 0 3 (.aW 1 5 4 (.aW 1 4 5 (.aW 1 4 6 (.aW 1 8 7 (.aW 1 8 8 adi)))))) (qB b h0 l0 u0 g k l h other p L M m n H J q r s N o ok V i e f j t u v w z a A B C D E F)=(((AE ⟨[(bn 2 b p o m n),zS 13 2 2,zJ j]⟩)/\R/\(h0<=j/\j<=g/\0<=i/\i<=959/\0<=e/\e<=959))/\∀x:Int,(x=gY [(h0,i),(g,e)] j)->RK (true) (((AE ⟨[(bo 27 3 b o m n),zS 32 3 3,zJ j]⟩)/\v0/\(h0<=j/\j<=g/\h0=h0/\g=g/\h0<f/\f<g/\0<=l0/\l0<=u0/\u0<=959/\u0-l0<3/\0<=a/\a<=a/\a<=959/\a-a<3/\0<=k/\k<=l/\l<=959/\l-k<3/\0<=i/\i<=959/\0<=a/\a<=959/\0<=e/\e<=959))/\∀y:Int,(y=gY [(h0,i),(f,a),(g,e)] j)->RK (true) (((AE ⟨[(bn 2 b p o m n),zS 13 2 2]⟩)/\R/\T)/\∀O:Int,(O=qW [(h0,i),(g,e)])->RK (true) (((AE ⟨[(bo 27 3 b o m n),zS 32 3 3]⟩)/\v0/\(h0=h0/\g=g/\h0<f/\f<g/\0<=l0/\l0<=u0/\u0<=959/\u0-l0<3/\0<=a/\a<=a/\a<=959/\a-a<3/\0<=k/\k<=l/\l<=959/\l-k<3/\0<=i/\i<=959/\0<=a/\a<=959/\0<=e/\e<=959))/\∀P:Int,(P=qW [(h0,i),(f,a),(g,e)])->RK (true) (((AE ⟨[(bn 2 b p o m n),zS 13 2 2,zJ 0,zJ 1]⟩)/\R/\T)/\∀c:Int,(c=gL [(h0,i),(g,e)])->RK (true) (((AE ⟨[(bo 27 3 b o m n),zS 32 3 3,zJ 0,zJ 2]⟩)/\v0/\(h0=h0/\g=g/\h0<f/\f<g/\0<=l0/\l0<=u0/\u0<=959/\u0-l0<3/\0<=a/\a<=a/\a<=959/\a-a<3/\0<=k/\k<=l/\l<=959/\l-k<3/\0<=i/\i<=959/\0<=a/\a<=959/\0<=e/\e<=959))/\∀d:Int,(d=gL [(h0,i),(f,a),(g,e)])->RK (true) (BR (decide (x=y)) (BR (decide (O=P)) (∀Q,Q=wi (c-1)->BR (decide (Q<=d)) (BR (decide (d<=c)) ((true=true)) (False)) (False)) (False)) (False)))))))):=by
 rintro _ rfl _ rfl _ rfl;kernel_rfl
set_option maxHeartbeats 4000000 in
theorem Jh(hV:V->(0<=b/\b<=20)/\lH [(h0,l0,u0),(g,k,l)])(hn:0<=h/\h<=65535/\0<=other/\other<=65535/\2<=p)(hI:∀y d x:Int,y=h->d=g-h0+1->x=Int.tmod y d->True/\True)(P:∀c∈((cR2 b h0 l0 u0 g k l p m n H J q r s o ok V):List Ct),aX Tryz.prog c)(hB:0<=b/\b<=20/\0<=h0/\g<=959/\h0<g/\0<=l0/\l0<=u0/\u0<=959/\u0-l0<3/\0<=k/\k<=l/\l<=959/\l-k<3/\h0<=j/\j<=g/\0<=i/\i<=959/\0<=e/\e<=959/\h0<f/\f<g/\0<=a/\a<=959/\(a-i)*(g-h0)=(e-i)*(f-h0)/\f=f/\a=a/\a=a/\a=a):bT Tryz.prog zC (qB b h0 l0 u0 g k l h other p L M m n H J q r s N o ok V i e f j t u v w z a A B C D E F):=by
 refine dJ (aC P) (Dy _ rfl _ rfl _ rfl) ?_;refine⟨⟨rfl,⟨⟨rfl,rfl⟩,dK⟩,by omega⟩,fun Q O=>⟨rfl,?_⟩⟩;refine⟨⟨rfl,⟨⟨rfl,rfl⟩,⟨⟨rfl,rfl⟩,dK⟩⟩,by omega⟩,fun R O=>⟨rfl,?_⟩⟩;have T:=yG [] h0 i g e f a [] j (by omega) (by omega) (by omega)
 simp only[List.cons_append,List.nil_append]at T;refine⟨⟨rfl,⟨⟨rfl,rfl⟩,dK⟩,by omega⟩,fun U O=>⟨rfl,?_⟩⟩;refine⟨⟨rfl,⟨⟨rfl,rfl⟩,⟨⟨rfl,rfl⟩,dK⟩⟩,by omega⟩,fun W O=>⟨rfl,?_⟩⟩;have X:=yH [] h0 i g e f a [] (by omega)
 simp only[List.cons_append,List.nil_append]at X;refine⟨⟨rfl,⟨⟨rfl,rfl⟩,dK⟩,by omega⟩,fun Y O=>⟨rfl,?_⟩⟩;refine⟨⟨rfl,⟨⟨rfl,rfl⟩,⟨⟨rfl,rfl⟩,dK⟩⟩,by omega⟩,fun Z O=>⟨rfl,?_⟩⟩;have hG:=yI [] h0 i g e f a [] (by omega) (by omega) (by omega)
 simp only[List.cons_append,List.nil_append]at hG;have hK:=Cf [(h0,i),(f,a),(g,e)] (by simp only[gB,and_true];omega)
 simp only[List.length_cons,List.length_nil]at hK;iterate 5 (first|refine BR.ll ?_|refine va fun _ _=>?_)
 exact rfl
end
section
variable{b h0 l0 u0 g n o e other:Int}{cp F H t v D E l:Nat}{w z A:Array Value}{J C ok:Option Addr}{V:Prop}{h f a m p q i j k:Int}
theorem Dz:∀v0:Bool,v0=(decide ((l+2)=(l+2))&&(decide ((l+2)-1=(l+2)-1)&&true))->tx (aJ (cR2 b h0 l0 u0 g n o (l+2) t v D E w z A C ok V)) (fun _=>False) (fun s=>KF (aJ []) 3 5 (fun s=>lC (aJ []) 8 s) [0,1,2,3,4,13,20,21,22,25,26,27,28,29,30,31,32] s) (.aW 0 0 3 adh) (qA b h0 l0 u0 g n o e other (l+2) F H t v D E w z A J C ok V h f a m p q i j k)=(((AE ⟨[(bn 2 b (l+2) C t v),zS 13 2 2,zJ a]⟩)/\(BE (⟨.cells ⟨[zJ h,zJ f]⟩ 3 (0,0),(some 10),false,1⟩:aY)/\E4 (qX h0 l0 u0 g n o) w z A)/\(h0<=a/\a<=g/\0<=h/\h<=959/\0<=f/\f<=959))/\∀c:Int,(c=gY [(h0,h),(g,f)] a)->RK (true) (∀r,r=wi (f-h)->∀u,u=wi (a-h0)->∀x,x=wi (r*u)->∀d,d=wi (g-h0)->((d:Int)≠0)/\∀y,y=wi (Int.tdiv x d)->∀B,B=wi (h+y)->BR (!decide (c=B)) (False) ((True)/\(True)/\RK ((decide (a=a)&&(decide (c=c)&&v0))) (RK ((decide (a=a)&&v0)) (RK ((decide (a=a)&&((decide (a=a)&&(decide (c=c)&&(decide (c=c)&&true)))&&((decide (a=a)&&(decide (c=c)&&(decide (c=c)&&true)))&&v0)))) (RK (v0) (RK ((decide (c=c)&&((decide (c=c)&&true)&&true))) (RK ((decide (c=c)&&((decide (c=c)&&true)&&true))) ((bT Tryz.prog zC (qB b h0 l0 u0 g n o e other (l+2) F H t v D E w z A J C ok V h f a m p q i j k c r u x d y B))))))))))):=by
 rintro _ rfl;kernel_rfl
set_option maxHeartbeats 4000000 in
theorem Ji(O:V->(0<=b/\b<=20)/\lH [(h0,l0,u0),(g,n,o)])(P:0<=e/\e<=65535/\0<=other/\other<=65535/\2<=(l+2))(Q:∀y d x:Int,y=e->d=g-h0+1->x=Int.tmod y d->True/\True)(N:∀c∈((cR2 b h0 l0 u0 g n o (l+2) t v D E w z A C ok V):List Ct),aX Tryz.prog c)(Z:0<=b/\b<=20/\0<=h0/\g<=959/\h0<g/\0<=l0/\l0<=u0/\u0<=959/\u0-l0<3/\0<=n/\n<=o/\o<=959/\o-n<3/\h0<=m/\m<=g/\0<=h/\h<=959/\0<=f/\f<=959/\h0<a/\a<g/\k=0/\k=Int.tmod i j/\i=(f-h)*(a-h0)/\j=g-h0):bT Tryz.prog zC (qA b h0 l0 u0 g n o e other (l+2) F H t v D E w z A J C ok V h f a m p q i j k):=by
 refine iZ (dJ (aC N) (Dz _ rfl) ?_);refine⟨⟨rfl,⟨⟨rfl,rfl⟩,dK⟩,by omega⟩,fun L R=>⟨rfl,?_⟩⟩;have hX:L=h+(f-h)*(a-h0)/(g-h0):=by rw[R];simp only[gY];(repeat' split)<;>first|rfl|(exfalso;omega)
 iterate 2 refine va fun _ _=>?_
 refine zV (a':=f-h) (b':=a-h0) (by omega) (by omega) (by omega) (by omega) (by omega) (by omega) fun T _ _ _=>?_
 refine va fun U _=>?_
 refine⟨by omega,?_⟩;refine vqZ (u:=f-h) (s:=a-h0) (B:=g-h0) (y1:=i) (d1:=j) (r:=k) (by omega) (by omega) (by omega) (by omega) (by omega) (by omega) (by omega) (by omega) (by omega) fun M hx W _=>?_
 have X:(L-h)*(g-h0)=(f-h)*(a-h0):=by rw[show L-h=M by omega];exact W
 refine va fun Y _=>?_
 refine BR.nr (by omega) ?_;refine⟨trivial,?_⟩;refine⟨trivial,?_⟩;iterate 6 refine⟨by simp,?_⟩
 exact Jh O P Q N (by omega)
end
section
variable{ag h0 l0 u0 b e f a other:Int}{cp n o g cs j ck:Nat}{k l m:Array Value}{p i ok:Option Addr}{V:Prop}
theorem Jj:∀v0:Prop,v0=(E4 (qX h0 l0 u0 b e f) k l m)->tx (aJ (cR2 ag h0 l0 u0 b e f cp g cs j ck k l m i ok V)) (fun _=>False) (fun s=>KF (aJ []) 3 5 (fun s=>lC (aJ []) 8 s) [0,1,2,3,4,13] s) (.val 6 16 16 (.br 0 1 17 (.cut 7 3) (.call 3 3 (.br 0 1 9 (.aW 14 9 2 adg) (.cut 4 3))))) ⟨ak.enter Tryz.prog 3 ⟨[(bv 2 ag cp p n o i g cs),.slice ok j ck,.int .u16 a,.int .u16 other]⟩,[],bz 4 (L4 (qX h0 l0 u0 b e f) k l m)⟩=(∀N,N=((g:Nat):Int)->BR (decide (N>20)) ((true=true)) (((AE ⟨[(bn 2 ag cp i g cs)]⟩)/\v0/\True)/\∀O:Int,(O=0->V)->RK (true) (BR (decide (O=0)) (((AE ⟨[.slice ok j ck,zJ 0]⟩)/\v0/\True)/\∀H:Int,(0<=H/\H<=65535)->RK ((decide (cp=cp)&&((decide (l0=l0)&&(decide (u0=u0)&&true))&&true))) (∀P,P=wi (u0-l0)->∀J,J=wi (P+1)->((J:Int)≠0)/\∀Q,Q=Int.tmod H J->∀z,z=wi (l0+Q)->RK (((decide (z=z)&&true)&&true)) (((AE ⟨[.slice ok j ck,zJ 1]⟩)/\v0/\True)/\∀L:Int,(0<=L/\L<=65535)->RK ((decide (cp=cp)&&((decide (e=e)&&(decide (f=f)&&true))&&true))) (∀R,R=wi (f-e)->∀M,M=wi (R+1)->((M:Int)≠0)/\∀A,A=Int.tmod L M->∀d,d=wi (e+A)->RK (((decide (d=d)&&true)&&true)) (∀q,q=wi a->RK ((decide (a=a)&&(decide (q=wi a)&&true))) (∀B,B=wi (b-h0)->∀r,r=wi (B+1)->((r:Int)≠0)/\∀C,C=Int.tmod q r->∀c,c=wi (h0+C)->RK (((decide (ag=ag)&&(decide (cp=cp)&&(((decide (i=i)&&decide (g=g))&&decide (cs=cs))&&true)))&&(decide (other=other)&&true))) (∀t,t=wi other->RK ((decide (other=other)&&(decide (t=wi other)&&true))) (∀D,D=wi (b-h0)->∀u,u=wi (D+1)->((u:Int)≠0)/\∀E,E=Int.tmod t u->∀F,F=wi (h0+E)->BR (decide (b<c)) (False) (BR (decide (c=h0)) ((true=true)) (BR (decide (c=b)) ((true=true)) (∀v,v=wi (d-z)->∀w,w=wi (c-h0)->∀x,x=wi (v*w)->∀h,h=wi (b-h0)->((h:Int)≠0)/\∀y,y=Int.tmod x h->BR (!decide (y=0)) ((true=true)) ((bT Tryz.prog zC (qA ag h0 l0 u0 b e f a other cp n o g cs j ck k l m p i ok V z d c F v w x h y)))))))))))))) ((true=true))))):=by
 rintro _ rfl;kernel_rfl
set_option maxHeartbeats 4000000 in
theorem Tq(v:V->(0<=ag/\ag<=20)/\lH [(h0,l0,u0),(b,e,f)])(B:0<=a/\a<=65535/\0<=other/\other<=65535/\2<=cp)(w:∀y d x:Int,y=a->d=b-h0+1->x=Int.tmod y d->True/\True)(z:∀c∈((cR2 ag h0 l0 u0 b e f cp g cs j ck k l m i ok V):List Ct),aX Tryz.prog c):bT Tryz.prog zC ⟨ak.enter Tryz.prog 3 ⟨[(bv 2 ag cp p n o i g cs),.slice ok j ck,.int .u16 a,.int .u16 other]⟩,[],bz 4 (L4 (qX h0 l0 u0 b e f) k l m)⟩:=by
 refine iZ (dJ (aC z) (Jj _ rfl) ?_);intro O _;refine BR.mk (fun _=>?_) (fun _=>?_)
 ·
  exact rfl
 refine⟨⟨rfl,dK,trivial⟩,fun C D=>⟨rfl,?_⟩⟩;have E:C=0->(0<=ag/\ag<=20)/\lH [(h0,l0,u0),(b,e,f)]:=fun h=>v (D h)
 simp only[lH,ry,and_true]at E;refine BR.mk (fun _=>?_) (fun _=>?_)
 ·
  refine⟨⟨rfl,dK,trivial⟩,fun P _=>⟨by simp,?_⟩⟩;iterate 4 (first|refine va fun _ _=>?_|refine vs fun _ _ _=>?_|refine⟨by omega,?_⟩)
  refine va fun F _=>?_
  refine⟨by simp,?_⟩;refine⟨⟨rfl,dK,trivial⟩,fun Q _=>⟨by simp,?_⟩⟩;iterate 4 (first|refine va fun _ _=>?_|refine vs fun _ _ _=>?_|refine⟨by omega,?_⟩)
  refine va fun q _=>?_
  refine⟨by simp,?_⟩;refine va fun r _=>?_
  refine⟨by simp only[wi,Bool.and_eq_true,decide_eq_true_eq,and_true,true_and];(repeat' apply And.intro)<;>first|rfl|(rw[gu (by omega) (by omega)];omega)|(split<;>omega),?_⟩;refine va fun H _=>?_
  refine va fun s _=>?_
  refine⟨by omega,?_⟩;refine vs fun t _ _=>?_
  have R:=w r s t (by omega) (by omega) (by assumption)
  refine va fun u _=>?_
  refine⟨by simp,?_⟩;refine va fun J _=>?_
  refine⟨by simp only[wi,Bool.and_eq_true,decide_eq_true_eq,and_true,true_and];(repeat' apply And.intro)<;>first|rfl|(rw[gu (by omega) (by omega)];omega)|(split<;>omega),?_⟩;iterate 6 (first|refine BR.rr ?_|refine va fun _ _=>?_|refine vs fun _ _ _=>?_|refine⟨by omega,?_⟩)
  refine BR.mk (fun _=>?_) (fun _=>?_)
  ·
   exact rfl
  refine BR.mk (fun _=>?_) (fun _=>?_)
  ·
   exact rfl
  iterate 2 refine va fun _ _=>?_
  refine zV (a':=q-F) (b':=u-h0) (by omega) (by omega) (by omega) (by omega) (by omega) (by omega) fun L _ _ _=>?_
  refine va fun M _=>?_
  refine⟨by omega,?_⟩;refine vs fun N _ _=>?_
  refine BR.nm (fun _=>?_) (fun _=>?_)
  ·
   exact rfl
  obtain⟨A,rfl⟩:∃A,cp=A+2:=⟨cp-2,by omega⟩
  exact Ji v B w z (by omega)
 exact rfl
end
end Go.Am
namespace Go.Am
open Go.Proofs
noncomputable def qC(a h0 u v h w x y z A c other:Int)(d B C e f q r:Nat)(D E F:Array Value)(H g s:Option Addr)(V:Prop)(t i k b j l m n o p:Int):AS:=⟨⟨3,⟨[(bv 3 a d H B C g e f),.slice s q r,.int .u16 c,.int .u16 other,zP 4 0,ud,ud,ud,zF,zS 16 3 3,zJ b,zJ j,zN 0,zJ h0,zJ h]++ur 16++[zP 4 2,(bn 3 a d g e f),zT,zF,zF,zP 4 1,zS 0 3 d,zN 3,zF,zF,ud,(bn 3 a d g e f),.slice s q r,zS 16 3 3,(bn 3 a d g e f),.int .u16 c,zJ b,(bn 3 a d g e f),.int .u16 other,zJ j,zN 0,zN 1,zP 4 1,zS 0 3 d,zN 3,zT,zT,zP 4 1,zS 0 3 d,zN 0,zN 1,zP 0 3,zP 0 3,zJ h,zJ b,zF,zF,ud,ud,zP 4 1,zS 0 3 d,zN 0,zP 0 0,zP 0 0,zJ h0,zP 4 1,zS 0 3 d,zN 0,zN 1,zP 0 3,zP 0 3,zJ h,zJ b,zJ h0,zF,zF,zJ b,zJ h,zF,zF,zF,zS 16 3 3,zN 0,zN 1,zP 16 1,zJ i,zS 16 3 3,zN 0,zP 16 0,zJ t,zJ l,zJ b,zJ h0,zJ m,zJ n,zJ h,zJ h0,zJ o,zJ p,zF,zF,ud,ud,(bn 3 a d g e f),zS 16 3 3,zJ b]++ur 155⟩,[.region (bH 3 [1,1,1,1,1,1,1,1,1,0]) [3,4,5,6,7,8],.code (at_ 3 [1,1,1,1,1,1,1,1,1,1])],[],false,none,false⟩,[],⟨23,rU [(0,⟨.cells (oz h0 u v h w x y z A) 0 (0,0),none,true,1⟩),(1,⟨.cells D 0 (0,0),none,true,1⟩),(2,⟨.cells E 0 (0,0),none,true,1⟩),(3,⟨.cells F 0 (0,0),none,true,1⟩),(4,⟨(.cells ⟨[zJ a,zS 0 3 d,.slice none 0 0,.slice g e f]⟩ 26 (0,0)),none,false,0⟩),(16,⟨(.cells ⟨[zJ t,zJ i,zJ k]⟩ 3 (0,0)),(some 10),false,1⟩)],uH [(10,[16])]⟩⟩
noncomputable def qE(a h0 n o j A B C D E e other:Int)(d L M f g F H:Nat)(N O P:Array Value)(Q h J:Option Addr)(V:Prop)(k i m c l p q r s t b u v w x y z:Int):AS:=⟨⟨3,⟨[(bv 3 a d Q L M h f g),.slice J F H,.int .u16 e,.int .u16 other,zP 4 0,ud,ud,ud,zF,zS 16 3 3,zJ c,zJ l,zN 0,zJ h0,zJ j,zJ b,zN 0,zP 23 0,zS 35 4 4]++ur 12++[zP 4 2,(bn 3 a d h f g),zT,zF,zF,zP 4 1,zS 0 3 d,zN 3,zF,zF,ud,(bn 3 a d h f g),.slice J F H,zS 16 3 3,(bn 3 a d h f g),.int .u16 e,zJ c,(bn 3 a d h f g),.int .u16 other,zJ l,zN 0,zN 1,zP 4 1,zS 0 3 d,zN 3,zT,zT,zP 4 1,zS 0 3 d,zN 0,zN 1,zP 0 3,zP 0 3,zJ j,zJ c,zF,zF,ud,ud,zP 4 1,zS 0 3 d,zN 0,zP 0 0,zP 0 0,zJ h0,zP 4 1,zS 0 3 d,zN 0,zN 1,zP 0 3,zP 0 3,zJ j,zJ c,zJ h0,zF,zF,zJ c,zJ j,zF,zF,zF,zS 16 3 3,zN 0,zN 1,zP 16 1,zJ i,zS 16 3 3,zN 0,zP 16 0,zJ k,zJ p,zJ c,zJ h0,zJ q,zJ r,zJ j,zJ h0,zJ s,zJ t,zF,zF,ud,.tuple ⟨[zJ b,zN 0]⟩,(bn 3 a d h f g),zS 16 3 3,zJ c,.tuple ⟨[zJ b,zN 0]⟩,zJ b,zN 0,zN 0,zF,zF,zJ b,zS 16 3 3,zN 0,zP 16 0,zJ k,zS 16 3 3,zN 0,zN 1,zP 16 1,zJ i,zS 16 3 3,zN 0,zP 16 0,zJ k,zJ u,zJ c,zJ h0,zJ v,zJ w,zJ j,zJ h0,zJ x,zJ y,zJ z,zF,zF,(bn 3 a d h f g),zS 24 0 0,zP 4 1,zS 0 3 d,zN 0,zN 1,zS 0 1 d,zS 25 1 1,zJ c,zJ b,.agg ⟨[zJ b,zJ b]⟩,.agg ⟨[zJ c,zJ b,zJ b]⟩,zS 28 1 1,zS 29 2 2,zP 4 1,zS 0 3 d,zN 0,zN 1,.slice (some ⟨0,3,none⟩) 2 (d-1),zS 30 4 4,zP 23 1,zS 31 0 0,zS 16 3 3,zN 0,zN 1,zS 16 1 3,zS 33 1 1,zJ b,zS 32 1 1,zS 34 2 2,zS 16 3 3,zN 0,zN 1,.slice (some ⟨16,1,none⟩) 2 2,zS 35 4 4,ud,(bn 3 a d h f g),zS 16 3 3,zJ l]++ur 84⟩,[.region (bH 3 [1,1,1,1,1,1,1,1,1,1,1,1,1,1,0]) [3,4,5,6,7,8],.code (at_ 3 [1,1,1,1,1,1,1,1,1,1,1,1,1,1,1])],[],false,none,false⟩,[],⟨36,rU [(0,⟨.cells (oz h0 n o j A B C D E) 0 (0,0),none,true,1⟩),(1,⟨.cells N 0 (0,0),none,true,1⟩),(2,⟨.cells O 0 (0,0),none,true,1⟩),(3,⟨.cells P 0 (0,0),none,true,1⟩),(4,⟨(.cells ⟨[zJ a,zS 0 3 d,.slice none 0 0,.slice h f g]⟩ 26 (0,0)),none,false,0⟩),(16,⟨(.cells ⟨[zJ k,zJ i,zJ m]⟩ 3 (0,0)),(some 10),false,1⟩),(23,⟨(.cells ⟨[zJ a,zS 30 4 4,.slice none 0 0,.slice h f g]⟩ 26 (0,0)),none,false,0⟩),(24,⟨(.cells ⟨[]⟩ 37 (0,0)),none,false,0⟩),(25,⟨(.cells ⟨[zJ h0,zJ n,zJ o]⟩ 37 (0,0)),(some 25),false,3⟩),(28,⟨(.cells ⟨[zJ c,zJ b,zJ b]⟩ 37 (0,0)),none,false,0⟩),(29,⟨(.cells ⟨[zJ h0,zJ n,zJ o,zJ c,zJ b,zJ b]⟩ 37 (0,0)),(some 25),false,3⟩),(30,⟨(.cells ⟨[zJ h0,zJ n,zJ o,zJ c,zJ b,zJ b,zJ j,zJ A,zJ B,zJ C,zJ D,zJ E]⟩ 37 (0,0)),(some 25),false,3⟩),(31,⟨(.cells ⟨[]⟩ 3 (0,0)),none,false,0⟩),(32,⟨(.cells ⟨[zJ b]⟩ 3 (0,0)),none,false,0⟩),(33,⟨(.cells ⟨[zJ k]⟩ 3 (0,0)),(some 33),false,1⟩),(34,⟨(.cells ⟨[zJ k,zJ b]⟩ 3 (0,0)),(some 33),false,1⟩),(35,⟨(.cells ⟨[zJ k,zJ b,zJ i,zJ m]⟩ 3 (0,0)),(some 33),false,1⟩)],uH [(10,[16]),(25,[25,29,30]),(25,[25,29,30]),(25,[25,29,30]),(33,[33,34,35]),(33,[33,34,35]),(33,[33,34,35])]⟩⟩
section
variable{b h0 l0 u0 i m n h o p j other:Int}{t P Q q r N O:Nat}{u v w:Array Value}{R s ok:Option Addr}{V:Prop}{k e f g l z A B C D a E F H J L M:Int}
theorem DC:∀v0:Prop,v0=(BE (⟨.cells ⟨[zJ k,zJ a,zJ e,zJ f]⟩ 3 (0,0),(some 33),false,1⟩:aY)/\BE (⟨.cells ⟨[zJ h0,zJ l0,zJ u0,zJ g,zJ a,zJ a,zJ i,zJ m,zJ n,zJ h,zJ o,zJ p]⟩ 37 (0,0),(some 25),false,3⟩:aY)/\E4 (oz h0 l0 u0 i m n h o p) u v w)->∀X:Prop,X=(BE (⟨.cells ⟨[zJ k,zJ e,zJ f]⟩ 3 (0,0),(some 10),false,1⟩:aY)/\E4 (oz h0 l0 u0 i m n h o p) u v w)->∀Y:Prop,Y=(0<=k/\k<=959/\0<=e/\e<=959/\0<=f/\f<=959)->tx (aJ (Uz b h0 l0 u0 i m n h o p t q r N O u v w s ok V)) (fun _=>False) zC (.aW 0 0 3 (.aW 1 5 4 (.aW 1 4 5 (.aW 1 4 6 (.aW 1 8 7 (.aW 1 8 8 adi)))))) (qE b h0 l0 u0 i m n h o p j other t P Q q r N O u v w R s ok V k e f g l z A B C D a E F H J L M)=(((AE ⟨[(bn 3 b t s q r),zS 16 3 3,zJ l]⟩)/\X/\(h0<=l/\l<=h/\0<=k/\k<=959/\0<=e/\e<=959/\0<=f/\f<=959))/\∀x:Int,(x=gY [(h0,k),(i,e),(h,f)] l)->RK (true) (((AE ⟨[(bo 30 4 b s q r),zS 35 4 4,zJ l]⟩)/\v0/\(h0<=l/\l<=h/\h0=h0/\h=h/\h0<g/\g<i/\i<h/\0<=l0/\l0<=u0/\u0<=959/\u0-l0<3/\0<=a/\a<=a/\a<=959/\a-a<3/\0<=m/\m<=n/\n<=959/\n-m<3/\0<=o/\o<=p/\p<=959/\p-o<3/\0<=k/\k<=959/\0<=a/\a<=959/\0<=e/\e<=959/\0<=f/\f<=959))/\∀y:Int,(y=gY [(h0,k),(g,a),(i,e),(h,f)] l)->RK (true) (((AE ⟨[(bn 3 b t s q r),zS 16 3 3]⟩)/\X/\Y)/\∀T:Int,(T=qW [(h0,k),(i,e),(h,f)])->RK (true) (((AE ⟨[(bo 30 4 b s q r),zS 35 4 4]⟩)/\v0/\(h0=h0/\h=h/\h0<g/\g<i/\i<h/\0<=l0/\l0<=u0/\u0<=959/\u0-l0<3/\0<=a/\a<=a/\a<=959/\a-a<3/\0<=m/\m<=n/\n<=959/\n-m<3/\0<=o/\o<=p/\p<=959/\p-o<3/\0<=k/\k<=959/\0<=a/\a<=959/\0<=e/\e<=959/\0<=f/\f<=959))/\∀U:Int,(U=qW [(h0,k),(g,a),(i,e),(h,f)])->RK (true) (((AE ⟨[(bn 3 b t s q r),zS 16 3 3,zJ 0,zJ 2]⟩)/\X/\Y)/\∀c:Int,(c=gL [(h0,k),(i,e),(h,f)])->RK (true) (((AE ⟨[(bo 30 4 b s q r),zS 35 4 4,zJ 0,zJ 3]⟩)/\v0/\(h0=h0/\h=h/\h0<g/\g<i/\i<h/\0<=l0/\l0<=u0/\u0<=959/\u0-l0<3/\0<=a/\a<=a/\a<=959/\a-a<3/\0<=m/\m<=n/\n<=959/\n-m<3/\0<=o/\o<=p/\p<=959/\p-o<3/\0<=k/\k<=959/\0<=a/\a<=959/\0<=e/\e<=959/\0<=f/\f<=959))/\∀d:Int,(d=gL [(h0,k),(g,a),(i,e),(h,f)])->RK (true) (BR (decide (x=y)) (BR (decide (T=U)) (∀W,W=wi (c-1)->BR (decide (W<=d)) (BR (decide (d<=c)) ((true=true)) (False)) (False)) (False)) (False)))))))):=by
 rintro _ rfl _ rfl _ rfl;kernel_rfl
set_option maxHeartbeats 4000000 in
theorem Jk(hV:V->(0<=b/\b<=20)/\lH [(h0,l0,u0),(i,m,n),(h,o,p)])(hn:0<=j/\j<=65535/\0<=other/\other<=65535/\3<=t)(hI:∀y d x:Int,y=j->d=h-h0+1->x=Int.tmod y d->True/\h0+x<=i)(U:∀c∈((Uz b h0 l0 u0 i m n h o p t q r N O u v w s ok V):List Ct),aX Tryz.prog c)(hB:0<=b/\b<=20/\0<=h0/\h<=959/\h0<i/\i<h/\0<=l0/\l0<=u0/\u0<=959/\u0-l0<3/\0<=m/\m<=n/\n<=959/\n-m<3/\0<=o/\o<=p/\p<=959/\p-o<3/\h0<=l/\l<=h/\0<=k/\k<=959/\0<=e/\e<=959/\0<=f/\f<=959/\h0<g/\g<i/\0<=a/\a<=959/\(a-k)*(i-h0)=(e-k)*(g-h0)/\g=g/\a=a/\a=a/\a=a):bT Tryz.prog zC (qE b h0 l0 u0 i m n h o p j other t P Q q r N O u v w R s ok V k e f g l z A B C D a E F H J L M):=by
 refine dJ (aC U) (DC _ rfl _ rfl _ rfl) ?_;refine⟨⟨rfl,⟨⟨rfl,rfl⟩,dK⟩,by omega⟩,fun W T=>⟨rfl,?_⟩⟩;refine⟨⟨rfl,⟨⟨rfl,rfl⟩,⟨⟨rfl,rfl⟩,dK⟩⟩,by omega⟩,fun X T=>⟨rfl,?_⟩⟩;have Y:=yG [] h0 k i e g a [(h,f)] l (by omega) (by omega) (by omega)
 simp only[List.cons_append,List.nil_append]at Y;refine⟨⟨rfl,⟨⟨rfl,rfl⟩,dK⟩,by omega⟩,fun Z T=>⟨rfl,?_⟩⟩;refine⟨⟨rfl,⟨⟨rfl,rfl⟩,⟨⟨rfl,rfl⟩,dK⟩⟩,by omega⟩,fun a0 T=>⟨rfl,?_⟩⟩;have hA:=yH [] h0 k i e g a [(h,f)] (by omega)
 simp only[List.cons_append,List.nil_append]at hA;refine⟨⟨rfl,⟨⟨rfl,rfl⟩,dK⟩,by omega⟩,fun a1 T=>⟨rfl,?_⟩⟩;refine⟨⟨rfl,⟨⟨rfl,rfl⟩,⟨⟨rfl,rfl⟩,dK⟩⟩,by omega⟩,fun a2 T=>⟨rfl,?_⟩⟩;have hG:=yI [] h0 k i e g a [(h,f)] (by omega) (by omega) (by omega)
 simp only[List.cons_append,List.nil_append]at hG;have hK:=Cf [(h0,k),(g,a),(i,e),(h,f)] (by simp only[gB,and_true];omega)
 simp only[List.length_cons,List.length_nil]at hK;iterate 5 (first|refine BR.ll ?_|refine va fun _ _=>?_)
 exact rfl
end
section
variable{b h0 l0 u0 i p q j t v e other:Int}{cp M N A C J L n:Nat}{D E F:Array Value}{O H ok:Option Addr}{V:Prop}{g f h a o w z k l m:Int}
theorem DF:∀v0:Bool,v0=(decide ((n+3)=(n+3))&&(decide ((n+3)-1=(n+3)-1)&&true))->tx (aJ (Uz b h0 l0 u0 i p q j t v (n+3) A C J L D E F H ok V)) (fun _=>False) (fun s=>KF (aJ []) 3 5 (fun s=>lC (aJ []) 8 s) [0,1,2,3,4,16,23,24,25,28,29,30,31,32,33,34,35] s) (.aW 0 0 3 adh) (qC b h0 l0 u0 i p q j t v e other (n+3) M N A C J L D E F O H ok V g f h a o w z k l m)=(((AE ⟨[(bn 3 b (n+3) H A C),zS 16 3 3,zJ a]⟩)/\(BE (⟨.cells ⟨[zJ g,zJ f,zJ h]⟩ 3 (0,0),(some 10),false,1⟩:aY)/\E4 (oz h0 l0 u0 i p q j t v) D E F)/\(h0<=a/\a<=j/\0<=g/\g<=959/\0<=f/\f<=959/\0<=h/\h<=959))/\∀c:Int,(c=gY [(h0,g),(i,f),(j,h)] a)->RK (true) (∀r,r=wi (f-g)->∀u,u=wi (a-h0)->∀x,x=wi (r*u)->∀d,d=wi (i-h0)->((d:Int)≠0)/\∀y,y=wi (Int.tdiv x d)->∀B,B=wi (g+y)->BR (!decide (c=B)) (False) ((True)/\(True)/\RK ((decide (a=a)&&(decide (c=c)&&v0))) (RK ((decide (a=a)&&v0)) (RK ((decide (a=a)&&((decide (a=a)&&(decide (c=c)&&(decide (c=c)&&true)))&&((decide (a=a)&&(decide (c=c)&&(decide (c=c)&&true)))&&v0)))) (RK (v0) (RK ((decide (c=c)&&((decide (c=c)&&true)&&true))) (RK ((decide (c=c)&&((decide (c=c)&&true)&&true))) ((bT Tryz.prog zC (qE b h0 l0 u0 i p q j t v e other (n+3) M N A C J L D E F O H ok V g f h a o w z k l m c r u x d y B))))))))))):=by
 rintro _ rfl;kernel_rfl
set_option maxHeartbeats 4000000 in
theorem Jl(T:V->(0<=b/\b<=20)/\lH [(h0,l0,u0),(i,p,q),(j,t,v)])(U:0<=e/\e<=65535/\0<=other/\other<=65535/\3<=(n+3))(W:∀y d x:Int,y=e->d=j-h0+1->x=Int.tmod y d->True/\h0+x<=i)(R:∀c∈((Uz b h0 l0 u0 i p q j t v (n+3) A C J L D E F H ok V):List Ct),aX Tryz.prog c)(hB:0<=b/\b<=20/\0<=h0/\j<=959/\h0<i/\i<j/\0<=l0/\l0<=u0/\u0<=959/\u0-l0<3/\0<=p/\p<=q/\q<=959/\q-p<3/\0<=t/\t<=v/\v<=959/\v-t<3/\h0<=o/\o<=j/\0<=g/\g<=959/\0<=f/\f<=959/\0<=h/\h<=959/\h0<a/\a<i/\m=0/\m=Int.tmod k l/\k=(f-g)*(a-h0)/\l=i-h0):bT Tryz.prog zC (qC b h0 l0 u0 i p q j t v e other (n+3) M N A C J L D E F O H ok V g f h a o w z k l m):=by
 refine iZ (dJ (aC R) (DF _ rfl) ?_);refine⟨⟨rfl,⟨⟨rfl,rfl⟩,dK⟩,by omega⟩,fun P X=>⟨rfl,?_⟩⟩;have hX:P=g+(f-g)*(a-h0)/(i-h0):=by rw[X];simp only[gY];(repeat' split)<;>first|rfl|(exfalso;omega)
 iterate 2 refine va fun _ _=>?_
 refine zV (a':=f-g) (b':=a-h0) (by omega) (by omega) (by omega) (by omega) (by omega) (by omega) fun Y _ _ _=>?_
 refine va fun Z _=>?_
 refine⟨by omega,?_⟩;refine vqZ (u:=f-g) (s:=a-h0) (B:=i-h0) (y1:=k) (d1:=l) (r:=m) (by omega) (by omega) (by omega) (by omega) (by omega) (by omega) (by omega) (by omega) (by omega) fun Q hx hq _=>?_
 have a0:(P-g)*(i-h0)=(f-g)*(a-h0):=by rw[show P-g=Q by omega];exact hq
 refine va fun a1 _=>?_
 refine BR.nr (by omega) ?_;refine⟨trivial,?_⟩;refine⟨trivial,?_⟩;iterate 6 refine⟨by simp,?_⟩
 exact Jk T U W R (by omega)
end
section
variable{ag h0 l0 u0 b e g i f j a other:Int}{cp q r k cs l ck:Nat}{n o p:Array Value}{t m ok:Option Addr}{V:Prop}
theorem Jm:∀v0:Prop,v0=(E4 (oz h0 l0 u0 b e g i f j) n o p)->tx (aJ (Uz ag h0 l0 u0 b e g i f j cp k cs l ck n o p m ok V)) (fun _=>False) (fun s=>KF (aJ []) 3 5 (fun s=>lC (aJ []) 8 s) [0,1,2,3,4,16] s) (.val 6 16 16 (.br 0 1 17 (.cut 7 3) (.call 3 3 (.br 0 1 9 (.aW 14 9 2 (.val 4 8 12 (.val 0 1 13 (.ov 0 0 (.val 0 0 14 (.val 0 1 15 (.rk 2 1 (.aW 8 9 2 adg)))))))) (.cut 4 3))))) ⟨ak.enter Tryz.prog 3 ⟨[(bv 3 ag cp t q r m k cs),.slice ok l ck,.int .u16 a,.int .u16 other]⟩,[],bz 4 (L4 (oz h0 l0 u0 b e g i f j) n o p)⟩=(∀X,X=((k:Nat):Int)->BR (decide (X>20)) ((true=true)) (((AE ⟨[(bn 3 ag cp m k cs)]⟩)/\v0/\True)/\∀Y:Int,(Y=0->V)->RK (true) (BR (decide (Y=0)) (((AE ⟨[.slice ok l ck,zJ 0]⟩)/\v0/\True)/\∀R:Int,(0<=R/\R<=65535)->RK ((decide (cp=cp)&&((decide (l0=l0)&&(decide (u0=u0)&&true))&&true))) (∀Z,Z=wi (u0-l0)->∀T,T=wi (Z+1)->((T:Int)≠0)/\∀x5,x5=Int.tmod R T->∀F,F=wi (l0+x5)->RK (((decide (F=F)&&true)&&true)) (((AE ⟨[.slice ok l ck,zJ 1]⟩)/\v0/\True)/\∀U:Int,(0<=U/\U<=65535)->RK ((decide (cp=cp)&&((decide (e=e)&&(decide (g=g)&&true))&&true))) (∀x8,x8=wi (g-e)->∀W,W=wi (x8+1)->((W:Int)≠0)/\∀H,H=Int.tmod U W->∀d,d=wi (e+H)->RK (((decide (d=d)&&true)&&true)) (((AE ⟨[.slice ok l ck,zJ 2]⟩)/\v0/\True)/\∀v:Int,(0<=v/\v<=65535)->RK ((decide (cp=cp)&&((decide (f=f)&&(decide (j=j)&&true))&&true))) (∀J,J=wi (j-f)->∀w,w=wi (J+1)->((w:Int)≠0)/\∀L,L=Int.tmod v w->∀h,h=wi (f+L)->RK (((decide (h=h)&&true)&&true)) (∀x,x=wi a->RK ((decide (a=a)&&(decide (x=wi a)&&true))) (∀M,M=wi (i-h0)->∀y,y=wi (M+1)->((y:Int)≠0)/\∀N,N=Int.tmod x y->∀c,c=wi (h0+N)->RK (((decide (ag=ag)&&(decide (cp=cp)&&(((decide (m=m)&&decide (k=k))&&decide (cs=cs))&&true)))&&(decide (other=other)&&true))) (∀z,z=wi other->RK ((decide (other=other)&&(decide (z=wi other)&&true))) (∀O,O=wi (i-h0)->∀A,A=wi (O+1)->((A:Int)≠0)/\∀P,P=Int.tmod z A->∀Q,Q=wi (h0+P)->BR (decide (b<c)) (False) (BR (decide (c=h0)) ((true=true)) (BR (decide (c=b)) ((true=true)) (∀B,B=wi (d-F)->∀C,C=wi (c-h0)->∀D,D=wi (B*C)->∀u,u=wi (b-h0)->((u:Int)≠0)/\∀E,E=Int.tmod D u->BR (!decide (E=0)) ((true=true)) ((bT Tryz.prog zC (qC ag h0 l0 u0 b e g i f j a other cp q r k cs l ck n o p t m ok V F d h c Q B C D u E)))))))))))))))) ((true=true))))):=by
 rintro _ rfl;kernel_rfl
set_option maxHeartbeats 4000000 in
theorem Tt(A:V->(0<=ag/\ag<=20)/\lH [(h0,l0,u0),(b,e,g),(i,f,j)])(E:0<=a/\a<=65535/\0<=other/\other<=65535/\3<=cp)(B:∀y d x:Int,y=a->d=i-h0+1->x=Int.tmod y d->True/\h0+x<=b)(C:∀c∈((Uz ag h0 l0 u0 b e g i f j cp k cs l ck n o p m ok V):List Ct),aX Tryz.prog c):bT Tryz.prog zC ⟨ak.enter Tryz.prog 3 ⟨[(bv 3 ag cp t q r m k cs),.slice ok l ck,.int .u16 a,.int .u16 other]⟩,[],bz 4 (L4 (oz h0 l0 u0 b e g i f j) n o p)⟩:=by
 refine iZ (dJ (aC C) (Jm _ rfl) ?_);intro T _;refine BR.mk (fun _=>?_) (fun _=>?_)
 ·
  exact rfl
 refine⟨⟨rfl,dK,trivial⟩,fun F H=>⟨rfl,?_⟩⟩;have J:F=0->(0<=ag/\ag<=20)/\lH [(h0,l0,u0),(b,e,g),(i,f,j)]:=fun h=>A (H h)
 simp only[lH,ry,and_true]at J;refine BR.mk (fun _=>?_) (fun _=>?_)
 ·
  refine⟨⟨rfl,dK,trivial⟩,fun U _=>⟨by simp,?_⟩⟩;iterate 4 (first|refine va fun _ _=>?_|refine vs fun _ _ _=>?_|refine⟨by omega,?_⟩)
  refine va fun L _=>?_
  refine⟨by simp,?_⟩;refine⟨⟨rfl,dK,trivial⟩,fun W _=>⟨by simp,?_⟩⟩;iterate 4 (first|refine va fun _ _=>?_|refine vs fun _ _ _=>?_|refine⟨by omega,?_⟩)
  refine va fun s _=>?_
  refine⟨by simp,?_⟩;refine⟨⟨rfl,dK,trivial⟩,fun M _=>⟨by simp,?_⟩⟩;iterate 6 (first|refine va fun _ _=>?_|refine vs fun _ _ _=>?_|refine⟨by omega,?_⟩|refine⟨by simp,?_⟩)
  refine va fun u _=>?_
  refine⟨by simp only[wi,Bool.and_eq_true,decide_eq_true_eq,and_true,true_and];(repeat' apply And.intro)<;>first|rfl|(rw[gu (by omega) (by omega)];omega)|(split<;>omega),?_⟩;refine va fun N _=>?_
  refine va fun v _=>?_
  refine⟨by omega,?_⟩;refine vs fun w _ _=>?_
  have X:=B u v w (by omega) (by omega) (by assumption)
  refine va fun z _=>?_
  refine⟨by simp,?_⟩;refine va fun O _=>?_
  refine⟨by simp only[wi,Bool.and_eq_true,decide_eq_true_eq,and_true,true_and];(repeat' apply And.intro)<;>first|rfl|(rw[gu (by omega) (by omega)];omega)|(split<;>omega),?_⟩;iterate 6 (first|refine BR.rr ?_|refine va fun _ _=>?_|refine vs fun _ _ _=>?_|refine⟨by omega,?_⟩)
  refine BR.mk (fun _=>?_) (fun _=>?_)
  ·
   exact rfl
  refine BR.mk (fun _=>?_) (fun _=>?_)
  ·
   exact rfl
  iterate 2 refine va fun _ _=>?_
  refine zV (a':=s-L) (b':=z-h0) (by omega) (by omega) (by omega) (by omega) (by omega) (by omega) fun P _ _ _=>?_
  refine va fun Q _=>?_
  refine⟨by omega,?_⟩;refine vs fun R _ _=>?_
  refine BR.nm (fun _=>?_) (fun _=>?_)
  ·
   exact rfl
  obtain⟨D,rfl⟩:∃D,cp=D+3:=⟨cp-3,by omega⟩
  exact Jl A E B C (by omega)
 exact rfl
end
end Go.Am
