import Derived.Test.YtkgmngkagkoepaaGreatH25
set_option linter.all false
namespace Go.Am
open Go.Proofs
section
variable{b c d e f q1 h p2 g a:Int}{i j:Nat}{k tc sc l:Array Value}{m:Option Addr}
abbrev Ya:HT:=.val 6 16 23 (.val 0 8 31 (.val 6 15 42 (.val 0 1 43 (.ov 2 5 (.val 0 0 7 (.br 0 1 8 (.ov 1 5 (.val 0 0 11 (.val 0 1 12 (.rk 2 0 (.val 0 1 46 (.ret 5 1)))))) (.ov 2 4 (.val 0 0 15 (.rk 2 0 (.val 0 1 46 (.ret 5 1)))))))))))
abbrev ac7:HT:=.br 0 4 10 .no (.br 15 8 8 .no (.br 16 6 10 (.br 0 6 16 (.br 0 6 22 (.val 6 11 17 (.br 0 1 18 .no (.br 31 4 6 .no (.br 0 4 10 .no (.br 15 8 8 .no (.br 16 6 10 (.br 0 6 16 (.br 0 6 22 (.val 6 11 17 (.br 0 1 18 .no (.br 31 4 6 .no (.br 0 4 10 .no (.br 15 8 8 .no (.br 16 6 10 (.br 0 6 16 (.br 0 6 22 (.val 6 11 17 (.br 0 1 18 .no (.ret 22 1))) .no) .no) .no)))))) .no) .no) .no)))))) .no) .no) .no))
abbrev Yb:HT:=.br 0 14 26 .no (.br 5 4 6 .no (.br 0 4 10 .no (.br 17 10 12 .no (.br 0 14 26 .no (.br 5 4 6 .no (.br 0 4 10 .no (.ret 22 1)))))))
abbrev ac8:HT:=.br 9 4 6 .no (.br 0 4 10 .no (.call 16 4 (.br 1 4 16 .no (.call 7 4 (.br 1 4 16 .no (.call 7 4 (.br 1 4 16 .no (.ret 8 1))))))))
abbrev ac9:HT:=.br 15 10 12 .no (.br 0 14 26 .no (.br 5 4 6 .no (.br 0 4 10 .no (.br 17 10 12 .no Yb))))
abbrev ada:HT:=.br 15 10 12 .no (.br 0 14 26 .no (.br 5 4 6 .no (.br 0 4 10 .no (.ret 22 1))))
theorem Ry(Q:Value->Prop)(K:AS->Prop):tx (aJ []) Q K (.br 18 4 6 .no ac7) ⟨ak.enter Tryz.prog 118 ⟨[(bo 27 3 a m i j)]⟩,[],bz 28 ((27,⟨.cells ⟨[zJ b,zJ c,zJ d,zJ e,zJ f,zJ q1,zJ h,zJ p2,zJ g]⟩ 37 (0,0),some 22,true,3⟩)::L4 k tc sc l)⟩=(BR (decide (b<0)) (False) (BR (decide (b>959)) (False) (BR (decide (b<=(-1))) (False) (BR (decide (0<=c)) (BR (decide (c<=d)) (BR (decide (d<=959)) (∀n,n=wi (d-c)->BR (decide (n>=3)) (False) (BR (decide (e<0)) (False) (BR (decide (e>959)) (False) (BR (decide (e<=b)) (False) (BR (decide (0<=f)) (BR (decide (f<=q1)) (BR (decide (q1<=959)) (∀o,o=wi (q1-f)->BR (decide (o>=3)) (False) (BR (decide (h<0)) (False) (BR (decide (h>959)) (False) (BR (decide (h<=e)) (False) (BR (decide (0<=p2)) (BR (decide (p2<=g)) (BR (decide (g<=959)) (∀p,p=wi (g-p2)->BR (decide (p>=3)) (False) (Q (zJ 0))) (False)) (False)) (False)))))) (False)) (False)) (False)))))) (False)) (False)) (False))))):=by kernel_rfl
theorem aa9(n:0<=a/\a<=20/\0<=b/\h<=959/\b<e/\e<h/\0<=c/\c<=d/\d<=959/\d-c<3/\0<=f/\f<=q1/\q1<=959/\q1-f<3/\0<=p2/\p2<=g/\g<=959/\g-p2<3):bu Tryz.prog (fun v _=>∃x:Int,x=0/\v=zJ x) ⟨ak.enter Tryz.prog 118 ⟨[(bo 27 3 a m i j)]⟩,[],bz 28 ((27,⟨.cells ⟨[zJ b,zJ c,zJ d,zJ e,zJ f,zJ q1,zJ h,zJ p2,zJ g]⟩ 37 (0,0),some 22,true,3⟩)::L4 k tc sc l)⟩:=by
 refine ai (aC bI) (Ry _ _) ?_;iterate 24 (first|refine BR.rr ?_|refine BR.ll ?_|refine va fun _ _=>?_)
 exact fun _=>⟨_,rfl,rfl⟩
end
section
variable{b c d e f q1 g p2 h a:Int}{i j:Nat}{k tc sc l:Array Value}{m:Option Addr}
theorem Rz(Q:Value->Prop)(K:AS->Prop):tx (aJ []) Q K (.ret 8 1) ⟨ak.enter Tryz.prog 119 ⟨[(bo 27 3 a m i j)]⟩,[],bz 28 ((27,⟨.cells ⟨[zJ b,zJ c,zJ d,zJ e,zJ f,zJ q1,zJ g,zJ p2,zJ h]⟩ 37 (0,0),some 22,true,3⟩)::L4 k tc sc l)⟩=(Q (zJ 0)):=by kernel_rfl
theorem aba:bu Tryz.prog (fun v _=>∃x:Int,x=0/\v=zJ x) ⟨ak.enter Tryz.prog 119 ⟨[(bo 27 3 a m i j)]⟩,[],bz 28 ((27,⟨.cells ⟨[zJ b,zJ c,zJ d,zJ e,zJ f,zJ q1,zJ g,zJ p2,zJ h]⟩ 37 (0,0),some 22,true,3⟩)::L4 k tc sc l)⟩:=by
 refine ai (aC bI) (Rz _ _) ?_;exact fun _=>⟨_,rfl,rfl⟩
end
section
variable{b d e f g q1 c p2 h a:Int}{i:Nat}{j tc sc k:Array Value}{l:Option Addr}
theorem LW(Q:Value->Prop)(K:AS->Prop):tx (aJ []) Q K (.ret 20 1) ⟨ak.enter Tryz.prog 120 ⟨[.agg ⟨[zJ a,zS 27 3 3,.slice none 0 0,.slice l 0 i]⟩]⟩,[],bz 28 ((27,⟨.cells ⟨[zJ b,zJ d,zJ e,zJ f,zJ g,zJ q1,zJ c,zJ p2,zJ h]⟩ 37 (0,0),some 22,true,3⟩)::L4 j tc sc k)⟩=(Q (zJ 0)):=by kernel_rfl
theorem Yc(m:Sts b c []):bu Tryz.prog (fun v _=>∃x:Int,x=0/\v=zJ x) ⟨ak.enter Tryz.prog 120 ⟨[.agg ⟨[zJ a,zS 27 3 3,.slice none 0 0,.slice l 0 i]⟩]⟩,[],bz 28 ((27,⟨.cells ⟨[zJ b,zJ d,zJ e,zJ f,zJ g,zJ q1,zJ c,zJ p2,zJ h]⟩ 37 (0,0),some 22,true,3⟩)::L4 j tc sc k)⟩:=by
 refine ai (aC bI) (LW _ _) ?_;exact fun _=>⟨_,rfl,rfl⟩
end
section
variable{d f g h i q1 e p2 j b c a:Int}{k:Nat}{l tc sc m:Array Value}{os:Option Addr}{n:Bool}
theorem LX(Q:Value->Prop)(K:AS->Prop):tx (aJ []) Q K ada ⟨ak.enter Tryz.prog 120 ⟨[.agg ⟨[zJ a,zS 27 3 3,.slice none 0 0,zS 2 1 k]⟩]⟩,[],bz 28 ((27,⟨.cells ⟨[zJ d,zJ f,zJ g,zJ h,zJ i,zJ q1,zJ e,zJ p2,zJ j]⟩ 37 (0,0),some 22,true,3⟩)::L4 l tc ⟨[zJ b,zJ c,.bool n]⟩ m)⟩=(BR (decide (b<d)) (False) (BR (decide (b>e)) (False) (BR (decide (c<0)) (False) (BR (decide (c>959)) (False) (Q (zJ 0)))))):=by kernel_rfl
theorem Yd(o:Sts d e [(b,c)]):bu Tryz.prog (fun v _=>∃x:Int,x=0/\v=zJ x) ⟨ak.enter Tryz.prog 120 ⟨[.agg ⟨[zJ a,zS 27 3 3,.slice none 0 0,zS 2 1 k]⟩]⟩,[],bz 28 ((27,⟨.cells ⟨[zJ d,zJ f,zJ g,zJ h,zJ i,zJ q1,zJ e,zJ p2,zJ j]⟩ 37 (0,0),some 22,true,3⟩)::L4 l tc ⟨[zJ b,zJ c,.bool n]⟩ m)⟩:=by
 refine ai (aC bI) (LX _ _) ?_;simp only[Sts,and_true]at o;iterate 4 refine BR.rr ?_
 exact fun _=>⟨_,rfl,rfl⟩
end
section
variable{b g h i j q1 c p2 k d e s1 f a:Int}{l:Nat}{m tc sc n:Array Value}{os:Option Addr}{o w1:Bool}
theorem LY(Q:Value->Prop)(K:AS->Prop):tx (aJ []) Q K (.br 15 10 12 .no Yb) ⟨ak.enter Tryz.prog 120 ⟨[.agg ⟨[zJ a,zS 27 3 3,.slice none 0 0,zS 2 2 l]⟩]⟩,[],bz 28 ((27,⟨.cells ⟨[zJ b,zJ g,zJ h,zJ i,zJ j,zJ q1,zJ c,zJ p2,zJ k]⟩ 37 (0,0),some 22,true,3⟩)::L4 m tc ⟨[zJ d,zJ e,.bool o,zJ s1,zJ f,.bool w1]⟩ n)⟩=(BR (decide (d<b)) (False) (BR (decide (d>c)) (False) (BR (decide (e<0)) (False) (BR (decide (e>959)) (False) (BR (decide (s1<b)) (False) (BR (decide (s1>c)) (False) (BR (decide (f<0)) (False) (BR (decide (f>959)) (False) (Q (zJ 0)))))))))):=by kernel_rfl
theorem Ye(p:Sts b c [(d,e),(s1,f)]):bu Tryz.prog (fun v _=>∃x:Int,x=0/\v=zJ x) ⟨ak.enter Tryz.prog 120 ⟨[.agg ⟨[zJ a,zS 27 3 3,.slice none 0 0,zS 2 2 l]⟩]⟩,[],bz 28 ((27,⟨.cells ⟨[zJ b,zJ g,zJ h,zJ i,zJ j,zJ q1,zJ c,zJ p2,zJ k]⟩ 37 (0,0),some 22,true,3⟩)::L4 m tc ⟨[zJ d,zJ e,.bool o,zJ s1,zJ f,.bool w1]⟩ n)⟩:=by
 refine ai (aC bI) (LY _ _) ?_;simp only[Sts,and_true]at p;iterate 8 refine BR.rr ?_
 exact fun _=>⟨_,rfl,rfl⟩
end
section
variable{b i j k l q1 c p2 m d e s1 f g h a:Int}{n:Nat}{o tc sc p:Array Value}{os:Option Addr}{q w1 w2:Bool}
theorem LZ(Q:Value->Prop)(K:AS->Prop):tx (aJ []) Q K ac9 ⟨ak.enter Tryz.prog 120 ⟨[.agg ⟨[zJ a,zS 27 3 3,.slice none 0 0,zS 2 3 n]⟩]⟩,[],bz 28 ((27,⟨.cells ⟨[zJ b,zJ i,zJ j,zJ k,zJ l,zJ q1,zJ c,zJ p2,zJ m]⟩ 37 (0,0),some 22,true,3⟩)::L4 o tc ⟨[zJ d,zJ e,.bool q,zJ s1,zJ f,.bool w1,zJ g,zJ h,.bool w2]⟩ p)⟩=(BR (decide (d<b)) (False) (BR (decide (d>c)) (False) (BR (decide (e<0)) (False) (BR (decide (e>959)) (False) (BR (decide (s1<b)) (False) (BR (decide (s1>c)) (False) (BR (decide (f<0)) (False) (BR (decide (f>959)) (False) (BR (decide (g<b)) (False) (BR (decide (g>c)) (False) (BR (decide (h<0)) (False) (BR (decide (h>959)) (False) (Q (zJ 0)))))))))))))):=by kernel_rfl
theorem Yf(r:Sts b c [(d,e),(s1,f),(g,h)]):bu Tryz.prog (fun v _=>∃x:Int,x=0/\v=zJ x) ⟨ak.enter Tryz.prog 120 ⟨[.agg ⟨[zJ a,zS 27 3 3,.slice none 0 0,zS 2 3 n]⟩]⟩,[],bz 28 ((27,⟨.cells ⟨[zJ b,zJ i,zJ j,zJ k,zJ l,zJ q1,zJ c,zJ p2,zJ m]⟩ 37 (0,0),some 22,true,3⟩)::L4 o tc ⟨[zJ d,zJ e,.bool q,zJ s1,zJ f,.bool w1,zJ g,zJ h,.bool w2]⟩ p)⟩:=by
 refine ai (aC bI) (LZ _ _) ?_;simp only[Sts,and_true]at r;iterate 12 refine BR.rr ?_
 exact fun _=>⟨_,rfl,rfl⟩
end
section
variable{b d e f g q1 h p2 i a:Int}{j k:Nat}{l tc sc m:Array Value}{n:Option Addr}
theorem RD(Q:Value->Prop)(K:AS->Prop):∀v0:Prop,v0=((AE ⟨[(bo 27 3 a n j k)]⟩)/\(BE (⟨.cells ⟨[zJ b,zJ d,zJ e,zJ f,zJ g,zJ q1,zJ h,zJ p2,zJ i]⟩ 37 (0,0),(some 22),true,3⟩:aY)/\E4 l tc sc m)/\True)->tx (aJ [⟨118,fun _ _=>[],28,fun _=>(27,⟨.cells ⟨[zJ b,zJ d,zJ e,zJ f,zJ g,zJ q1,zJ h,zJ p2,zJ i]⟩ 37 (0,0),some 22,true,3⟩)::L4 l tc sc m,fun _=>⟨[(bo 27 3 a n j k)]⟩,fun _=>True,fun _ x=>x=0,fun _ x=>zJ x⟩,⟨119,fun _ _=>[],28,fun _=>(27,⟨.cells ⟨[zJ b,zJ d,zJ e,zJ f,zJ g,zJ q1,zJ h,zJ p2,zJ i]⟩ 37 (0,0),some 22,true,3⟩)::L4 l tc sc m,fun _=>⟨[(bo 27 3 a n j k)]⟩,fun _=>True,fun _ x=>x=0,fun _ x=>zJ x⟩,⟨120,fun _ _=>[],28,fun _=>(27,⟨.cells ⟨[zJ b,zJ d,zJ e,zJ f,zJ g,zJ q1,zJ h,zJ p2,zJ i]⟩ 37 (0,0),some 22,true,3⟩)::L4 l tc sc m,fun _=>⟨[(bo 27 3 a n j k)]⟩,fun _=>True,fun _ x=>x=0,fun _ x=>zJ x⟩]) Q K ac8 ⟨ak.enter Tryz.prog 87 ⟨[(bo 27 3 a n j k)]⟩,[],bz 28 ((27,⟨.cells ⟨[zJ b,zJ d,zJ e,zJ f,zJ g,zJ q1,zJ h,zJ p2,zJ i]⟩ 37 (0,0),some 22,true,3⟩)::L4 l tc sc m)⟩=(BR (decide (a<0)) (False) (BR (decide (a>20)) (False) (v0/\∀c:Int,(c=0)->RK (true) (BR (!decide (c=0)) (False) (v0/\∀o:Int,(o=0)->RK (true) (BR (!decide (o=0)) (False) (v0/\∀p:Int,(p=0)->RK (true) (BR (!decide (p=0)) (False) (Q (zJ 0)))))))))):=by
 rintro _ rfl;kernel_rfl
theorem abb(p:0<=a/\a<=20)(o:∀c∈([⟨118,fun _ _=>[],28,fun _=>(27,⟨.cells ⟨[zJ b,zJ d,zJ e,zJ f,zJ g,zJ q1,zJ h,zJ p2,zJ i]⟩ 37 (0,0),some 22,true,3⟩)::L4 l tc sc m,fun _=>⟨[(bo 27 3 a n j k)]⟩,fun _=>True,fun _ x=>x=0,fun _ x=>zJ x⟩,⟨119,fun _ _=>[],28,fun _=>(27,⟨.cells ⟨[zJ b,zJ d,zJ e,zJ f,zJ g,zJ q1,zJ h,zJ p2,zJ i]⟩ 37 (0,0),some 22,true,3⟩)::L4 l tc sc m,fun _=>⟨[(bo 27 3 a n j k)]⟩,fun _=>True,fun _ x=>x=0,fun _ x=>zJ x⟩,⟨120,fun _ _=>[],28,fun _=>(27,⟨.cells ⟨[zJ b,zJ d,zJ e,zJ f,zJ g,zJ q1,zJ h,zJ p2,zJ i]⟩ 37 (0,0),some 22,true,3⟩)::L4 l tc sc m,fun _=>⟨[(bo 27 3 a n j k)]⟩,fun _=>True,fun _ x=>x=0,fun _ x=>zJ x⟩]:List Ct),aX Tryz.prog c):bu Tryz.prog (fun v _=>∃x:Int,x=0/\v=zJ x) ⟨ak.enter Tryz.prog 87 ⟨[(bo 27 3 a n j k)]⟩,[],bz 28 ((27,⟨.cells ⟨[zJ b,zJ d,zJ e,zJ f,zJ g,zJ q1,zJ h,zJ p2,zJ i]⟩ 37 (0,0),some 22,true,3⟩)::L4 l tc sc m)⟩:=by
 refine ai (aC o) (RD _ _ _ rfl) ?_;iterate 2 refine BR.rr ?_
 refine⟨⟨rfl,⟨⟨rfl,rfl⟩,dK⟩,trivial⟩,fun q _=>⟨rfl,?_⟩⟩;refine BR.nr (by omega) ?_;refine⟨⟨rfl,⟨⟨rfl,rfl⟩,dK⟩,trivial⟩,fun r _=>⟨rfl,?_⟩⟩;refine BR.nr (by omega) ?_;refine⟨⟨rfl,⟨⟨rfl,rfl⟩,dK⟩,trivial⟩,fun s _=>⟨rfl,?_⟩⟩;refine BR.nr (by omega) ?_;exact fun _=>⟨_,rfl,rfl⟩
end
end Go.Am
namespace Go.Am
open Go.Proofs
section
variable{o f g p h q1 q p2 i r p3 j k l m n a:Int}{b d:Nat}{s tc sc t:Array Value}{e:Option Addr}
theorem RF(Q:Value->Prop)(K:AS->Prop):tx (aJ [⟨87,fun _ _=>[],31,fun _=>(30,⟨.cells ⟨[zJ o,zJ f,zJ g,zJ p,zJ h,zJ q1,zJ q,zJ p2,zJ i,zJ r,zJ p3,zJ j]⟩ 37 (0,0),some 25,true,3⟩)::L4 s tc sc t,fun _=>⟨[(bo 30 4 a e b d)]⟩,fun _=>True,fun _ x=>x=0,fun _ x=>zJ x⟩]) Q K (.call 4 5 (.br 1 4 13 .no (.br 24 6 8 (.br 0 5 13 (.br 17 6 8 (.br 0 5 13 (.br 17 6 8 (.br 0 5 13 (.br 17 6 8 (.br 0 5 13 (.rk 34 0 (.ret 2 1)) .no) .no) .no) .no) .no) .no) .no) .no))) ⟨ak.enter Tryz.prog 35 ⟨[(bo 30 4 a e b d),zS 35 4 4]⟩,[],bz 36 ((35,⟨.cells ⟨[zJ k,zJ l,zJ m,zJ n]⟩ 3 (0,0),some 33,true,1⟩)::(30,⟨.cells ⟨[zJ o,zJ f,zJ g,zJ p,zJ h,zJ q1,zJ q,zJ p2,zJ i,zJ r,zJ p3,zJ j]⟩ 37 (0,0),some 25,true,3⟩)::L4 s tc sc t)⟩=(((AE ⟨[(bo 30 4 a e b d)]⟩)/\(BE (⟨.cells ⟨[zJ o,zJ f,zJ g,zJ p,zJ h,zJ q1,zJ q,zJ p2,zJ i,zJ r,zJ p3,zJ j]⟩ 37 (0,0),(some 25),true,3⟩:aY)/\E4 s tc sc t)/\True)/\∀c:Int,(c=0)->RK (true) (BR (!decide (c=0)) (False) (BR (decide (0<=k)) (BR (decide (k<=959)) (BR (decide (0<=l)) (BR (decide (l<=959)) (BR (decide (0<=m)) (BR (decide (m<=959)) (BR (decide (0<=n)) (BR (decide (n<=959)) (RK (((decide (a=a)&&(((decide (e=e)&&decide (b=b))&&decide (d=d))&&true))&&true)) (Q (.tuple ⟨[(bo 30 4 a e b d),.agg ⟨[zJ k,zJ l,zJ m,zJ n,zJ 0]⟩,zJ 0]⟩))) (False)) (False)) (False)) (False)) (False)) (False)) (False)) (False)))):=by kernel_rfl
theorem abd(w:0<=a/\a<=20/\0<=o/\r<=959/\o<p/\p<q/\q<r/\0<=f/\f<=g/\g<=959/\g-f<3/\0<=h/\h<=q1/\q1<=959/\q1-h<3/\0<=p2/\p2<=i/\i<=959/\i-p2<3/\0<=p3/\p3<=j/\j<=959/\j-p3<3)(y:0<=k/\k<=959/\0<=l/\l<=959/\0<=m/\m<=959/\0<=n/\n<=959)(u:∀c∈([⟨87,fun _ _=>[],31,fun _=>(30,⟨.cells ⟨[zJ o,zJ f,zJ g,zJ p,zJ h,zJ q1,zJ q,zJ p2,zJ i,zJ r,zJ p3,zJ j]⟩ 37 (0,0),some 25,true,3⟩)::L4 s tc sc t,fun _=>⟨[(bo 30 4 a e b d)]⟩,fun _=>True,fun _ x=>x=0,fun _ x=>zJ x⟩]:List Ct),aX Tryz.prog c):bu Tryz.prog (fun v _=>∃x:Int,x=0/\v=.tuple ⟨[(bo 30 4 a e b d),.agg ⟨[zJ k,zJ l,zJ m,zJ n,zJ 0]⟩,zJ 0]⟩) ⟨ak.enter Tryz.prog 35 ⟨[(bo 30 4 a e b d),zS 35 4 4]⟩,[],bz 36 ((35,⟨.cells ⟨[zJ k,zJ l,zJ m,zJ n]⟩ 3 (0,0),some 33,true,1⟩)::(30,⟨.cells ⟨[zJ o,zJ f,zJ g,zJ p,zJ h,zJ q1,zJ q,zJ p2,zJ i,zJ r,zJ p3,zJ j]⟩ 37 (0,0),some 25,true,3⟩)::L4 s tc sc t)⟩:=by
 refine ai (aC u) (RF _ _) ?_;refine⟨⟨rfl,⟨⟨rfl,rfl⟩,dK⟩,trivial⟩,fun z _=>⟨rfl,?_⟩⟩;refine BR.nr (by omega) ?_;iterate 9 (first|refine BR.ll ?_|refine⟨by simp,?_⟩)
 exact fun _=>⟨0,rfl,rfl⟩
end
section
variable{f l m g n q1 h p2 o i p3 p e b d k a j:Int}{q r:Nat}{t tc sc u:Array Value}{s:Option Addr}
noncomputable abbrev PL(f l m g n q1 h p2 o i p3 p e b d k a:Int)(q r:Nat)(t tc sc u:Array Value)(s:Option Addr):List Ct:=[⟨35,fun _ _=>[],36,fun _=>(35,⟨.cells ⟨[zJ e,zJ b,zJ d,zJ k]⟩ 3 (0,0),some 33,true,1⟩)::(30,⟨.cells ⟨[zJ f,zJ l,zJ m,zJ g,zJ n,zJ q1,zJ h,zJ p2,zJ o,zJ i,zJ p3,zJ p]⟩ 37 (0,0),some 25,true,3⟩)::L4 t tc sc u,fun _=>⟨[(bo 30 4 a s q r),zS 35 4 4]⟩,fun _=>True,fun _ x=>x=0,fun _ _=>.tuple ⟨[(bo 30 4 a s q r),.agg ⟨[zJ e,zJ b,zJ d,zJ k,zJ 0]⟩,zJ 0]⟩⟩]
theorem RG(Q:Value->Prop)(K:AS->Prop):tx (aJ (PL f l m g n q1 h p2 o i p3 p e b d k a q r t tc sc u s)) Q K (.call 1 4 (.br 5 10 12 .no (.br 0 14 26 .no (.br 8 15 18 (.br 4 13 18 (.br 4 13 18 .no Ya) Ya) Ya)))) ⟨ak.enter Tryz.prog 8 ⟨[(bo 30 4 a s q r),zS 35 4 4,zJ j]⟩,[],bz 36 ((35,⟨.cells ⟨[zJ e,zJ b,zJ d,zJ k]⟩ 3 (0,0),some 33,true,1⟩)::(30,⟨.cells ⟨[zJ f,zJ l,zJ m,zJ g,zJ n,zJ q1,zJ h,zJ p2,zJ o,zJ i,zJ p3,zJ p]⟩ 37 (0,0),some 25,true,3⟩)::L4 t tc sc u)⟩=(((AE ⟨[(bo 30 4 a s q r),zS 35 4 4]⟩)/\(BE (⟨.cells ⟨[zJ e,zJ b,zJ d,zJ k]⟩ 3 (0,0),(some 33),true,1⟩:aY)/\BE (⟨.cells ⟨[zJ f,zJ l,zJ m,zJ g,zJ n,zJ q1,zJ h,zJ p2,zJ o,zJ i,zJ p3,zJ p]⟩ 37 (0,0),(some 25),true,3⟩:aY)/\E4 t tc sc u)/\True)/\∀x0:Int,(x0=0)->RK (true) (BR (decide (j<f)) (False) (BR (decide (j>i)) (False) (BR (decide (j>g)) (BR (decide (j>h)) (BR (decide (j>i)) (False) (∀y,y=wi (i-h)->∀W,W=wi (k-d)->∀X,X=wi (j-h)->∀V,V=wi (W*X)->((y:Int)≠0)/\∀Y,Y=Int.tmod V y->BR (decide (Y<0)) (((y:Int)≠0)/\∀Z,Z=wi (Int.tdiv V y)->∀x7,x7=wi (Z-1)->RK ((decide (d=d)&&true)) (∀x8,x8=wi (d+x7)->Q (.tuple ⟨[zJ x8,zJ 0]⟩))) (((y:Int)≠0)/\∀x9,x9=wi (Int.tdiv V y)->RK ((decide (d=d)&&true)) (∀z,z=wi (d+x9)->Q (.tuple ⟨[zJ z,zJ 0]⟩))))) (∀c,c=wi (h-g)->∀A,A=wi (d-b)->∀B,B=wi (j-g)->∀w,w=wi (A*B)->((c:Int)≠0)/\∀C,C=Int.tmod w c->BR (decide (C<0)) (((c:Int)≠0)/\∀D,D=wi (Int.tdiv w c)->∀E,E=wi (D-1)->RK ((decide (b=b)&&true)) (∀F,F=wi (b+E)->Q (.tuple ⟨[zJ F,zJ 0]⟩))) (((c:Int)≠0)/\∀H,H=wi (Int.tdiv w c)->RK ((decide (b=b)&&true)) (∀J,J=wi (b+H)->Q (.tuple ⟨[zJ J,zJ 0]⟩))))) (∀v,v=wi (g-f)->∀L,L=wi (b-e)->∀M,M=wi (j-f)->∀x,x=wi (L*M)->((v:Int)≠0)/\∀N,N=Int.tmod x v->BR (decide (N<0)) (((v:Int)≠0)/\∀O,O=wi (Int.tdiv x v)->∀P,P=wi (O-1)->RK ((decide (e=e)&&true)) (∀R,R=wi (e+P)->Q (.tuple ⟨[zJ R,zJ 0]⟩))) (((v:Int)≠0)/\∀T,T=wi (Int.tdiv x v)->RK ((decide (e=e)&&true)) (∀U,U=wi (e+T)->Q (.tuple ⟨[zJ U,zJ 0]⟩)))))))):=by kernel_rfl
theorem abe(E:0<=a/\a<=20/\0<=f/\i<=959/\f<g/\g<h/\h<i/\0<=l/\l<=m/\m<=959/\m-l<3/\0<=n/\n<=q1/\q1<=959/\q1-n<3/\0<=p2/\p2<=o/\o<=959/\o-p2<3/\0<=p3/\p3<=p/\p<=959/\p-p3<3)(F:0<=e/\e<=959/\0<=b/\b<=959/\0<=d/\d<=959/\0<=k/\k<=959)(w:f<=j/\j<=i)(y:∀c∈((PL f l m g n q1 h p2 o i p3 p e b d k a q r t tc sc u s):List Ct),aX Tryz.prog c):bu Tryz.prog (fun v _=>∃x:Int,(x=gY [(f,e),(g,b),(h,d),(i,k)] j)/\v=.tuple ⟨[zJ x,zJ 0]⟩) ⟨ak.enter Tryz.prog 8 ⟨[(bo 30 4 a s q r),zS 35 4 4,zJ j]⟩,[],bz 36 ((35,⟨.cells ⟨[zJ e,zJ b,zJ d,zJ k]⟩ 3 (0,0),some 33,true,1⟩)::(30,⟨.cells ⟨[zJ f,zJ l,zJ m,zJ g,zJ n,zJ q1,zJ h,zJ p2,zJ o,zJ i,zJ p3,zJ p]⟩ 37 (0,0),some 25,true,3⟩)::L4 t tc sc u)⟩:=by
 refine ai (aC y) (RG _ _) ?_;refine⟨⟨rfl,⟨⟨rfl,rfl⟩,⟨⟨rfl,rfl⟩,dK⟩⟩,trivial⟩,fun H _=>⟨rfl,?_⟩⟩;iterate 2 refine BR.rr ?_
 refine BR.mk (fun _=>?_) (fun _=>?_)
 ·
  refine BR.mk (fun _=>?_) (fun _=>?_)
  ·
   iterate 7 (first|refine BR.rr ?_|refine va fun _ _=>?_|refine vs fun _ _ _=>?_|refine vm (by omega) (by omega) (by omega) (by omega) fun _ _ _ _=>?_|refine⟨by omega,?_⟩)
   refine BR.mk (fun _=>?_) (fun _=>?_)
   ·
    iterate 5 (first|refine va fun _ _=>?_|refine vq (by omega) (by omega) fun _ _ _=>?_|refine⟨by omega,?_⟩|refine⟨by simp,?_⟩)
    exact ou (by subst_vars;simp only[gY];(repeat' split)<;>first|omega|exact bg (by omega) (by assumption)|exact aZ (by omega) (by assumption))
   refine⟨by omega,?_⟩;refine vq (by omega) (by omega) fun J _ _=>?_
   refine⟨by simp,?_⟩;refine va fun z _=>?_
   exact ou (by subst_vars;simp only[gY];(repeat' split)<;>first|omega|exact bg (by omega) (by assumption)|exact aZ (by omega) (by assumption))
  iterate 6 (first|refine va fun _ _=>?_|refine vs fun _ _ _=>?_|refine vm (by omega) (by omega) (by omega) (by omega) fun _ _ _ _=>?_|refine⟨by omega,?_⟩)
  refine BR.mk (fun _=>?_) (fun _=>?_)
  ·
   iterate 5 (first|refine va fun _ _=>?_|refine vq (by omega) (by omega) fun _ _ _=>?_|refine⟨by omega,?_⟩|refine⟨by simp,?_⟩)
   exact ou (by subst_vars;simp only[gY];(repeat' split)<;>first|omega|exact bg (by omega) (by assumption)|exact aZ (by omega) (by assumption))
  refine⟨by omega,?_⟩;refine vq (by omega) (by omega) fun A _ _=>?_
  refine⟨by simp,?_⟩;refine va fun B _=>?_
  exact ou (by subst_vars;simp only[gY];(repeat' split)<;>first|omega|exact bg (by omega) (by assumption)|exact aZ (by omega) (by assumption))
 iterate 6 (first|refine va fun _ _=>?_|refine vs fun _ _ _=>?_|refine vm (by omega) (by omega) (by omega) (by omega) fun _ _ _ _=>?_|refine⟨by omega,?_⟩)
 refine BR.mk (fun _=>?_) (fun _=>?_)
 ·
  iterate 5 (first|refine va fun _ _=>?_|refine vq (by omega) (by omega) fun _ _ _=>?_|refine⟨by omega,?_⟩|refine⟨by simp,?_⟩)
  exact ou (by subst_vars;simp only[gY];(repeat' split)<;>first|omega|exact bg (by omega) (by assumption)|exact aZ (by omega) (by assumption))
 refine⟨by omega,?_⟩;refine vq (by omega) (by omega) fun C _ _=>?_
 refine⟨by simp,?_⟩;refine va fun D _=>?_
 exact ou (by subst_vars;simp only[gY];(repeat' split)<;>first|omega|exact bg (by omega) (by assumption)|exact aZ (by omega) (by assumption))
end
section
variable{i k l e m q1 f p2 n j p3 o g b d h a:Int}{p q:Nat}{r tc sc s:Array Value}{t:Option Addr}
theorem RH(Q:Value->Prop)(K:AS->Prop):tx (aJ (PL i k l e m q1 f p2 n j p3 o g b d h a p q r tc sc s t)) Q K (.call 1 4 (.val 13 16 23 (.val 0 8 31 (.val 5 9 32 (.val 0 2 34 (.val 0 1 35 (.val 9 16 23 (.val 0 8 31 (.val 5 9 32 (.val 0 2 34 (.val 0 1 35 (.val 9 16 23 (.val 0 8 31 (.val 5 9 32 (.val 0 2 34 (.val 0 1 35 (.ret 10 1))))))))))))))))) ⟨ak.enter Tryz.prog 10 ⟨[(bo 30 4 a t p q),zS 35 4 4]⟩,[],bz 36 ((35,⟨.cells ⟨[zJ g,zJ b,zJ d,zJ h]⟩ 3 (0,0),some 33,true,1⟩)::(30,⟨.cells ⟨[zJ i,zJ k,zJ l,zJ e,zJ m,zJ q1,zJ f,zJ p2,zJ n,zJ j,zJ p3,zJ o]⟩ 37 (0,0),some 25,true,3⟩)::L4 r tc sc s)⟩=(((AE ⟨[(bo 30 4 a t p q),zS 35 4 4]⟩)/\(BE (⟨.cells ⟨[zJ g,zJ b,zJ d,zJ h]⟩ 3 (0,0),(some 33),true,1⟩:aY)/\BE (⟨.cells ⟨[zJ i,zJ k,zJ l,zJ e,zJ m,zJ q1,zJ f,zJ p2,zJ n,zJ j,zJ p3,zJ o]⟩ 37 (0,0),(some 25),true,3⟩:aY)/\E4 r tc sc s)/\True)/\∀H:Int,(H=0)->RK (true) (∀z,z=wi (e-i)->∀J,J=wi (b-g)->∀A,A=wi (g+b)->∀B,B=wi (A*z)->∀C,C=wi (0+B)->∀D,D=wi (f-e)->∀L,L=wi (d-b)->∀E,E=wi (b+d)->∀F,F=wi (E*D)->∀c,c=wi (C+F)->∀u,u=wi (j-f)->∀y,y=wi (h-d)->∀v,v=wi (d+h)->∀w,w=wi (v*u)->∀x,x=wi (c+w)->Q (.tuple ⟨[zJ x,zJ 0]⟩))):=by kernel_rfl
theorem abf(w:0<=a/\a<=20/\0<=i/\j<=959/\i<e/\e<f/\f<j/\0<=k/\k<=l/\l<=959/\l-k<3/\0<=m/\m<=q1/\q1<=959/\q1-m<3/\0<=p2/\p2<=n/\n<=959/\n-p2<3/\0<=p3/\p3<=o/\o<=959/\o-p3<3)(y:0<=g/\g<=959/\0<=b/\b<=959/\0<=d/\d<=959/\0<=h/\h<=959)(u:∀c∈((PL i k l e m q1 f p2 n j p3 o g b d h a p q r tc sc s t):List Ct),aX Tryz.prog c):bu Tryz.prog (fun v _=>∃x:Int,x=qW [(i,g),(e,b),(f,d),(j,h)]/\v=.tuple ⟨[zJ x,zJ 0]⟩) ⟨ak.enter Tryz.prog 10 ⟨[(bo 30 4 a t p q),zS 35 4 4]⟩,[],bz 36 ((35,⟨.cells ⟨[zJ g,zJ b,zJ d,zJ h]⟩ 3 (0,0),some 33,true,1⟩)::(30,⟨.cells ⟨[zJ i,zJ k,zJ l,zJ e,zJ m,zJ q1,zJ f,zJ p2,zJ n,zJ j,zJ p3,zJ o]⟩ 37 (0,0),some 25,true,3⟩)::L4 r tc sc s)⟩:=by
 refine ai (aC u) (RH _ _) ?_;refine⟨⟨rfl,⟨⟨rfl,rfl⟩,⟨⟨rfl,rfl⟩,dK⟩⟩,trivial⟩,fun z _=>⟨rfl,?_⟩⟩;iterate 15 (first|refine va fun _ _=>?_|refine vm (by omega) (by omega) (by omega) (by omega) fun _ _ _ _=>?_)
 exact ou (by subst_vars;simp only[qW];omega)
end
section
variable{k l m h o q1 e p2 p i p3 q j f d g b:Int}{r s:Nat}{u tc sc w:Array Value}{t:Option Addr}
theorem RI(Q:Value->Prop)(K:AS->Prop):tx (aJ [⟨35,fun _ _=>[],36,fun _=>(35,⟨.cells ⟨[zJ j,zJ f,zJ d,zJ g]⟩ 3 (0,0),some 33,true,1⟩)::(30,⟨.cells ⟨[zJ k,zJ l,zJ m,zJ h,zJ o,zJ q1,zJ e,zJ p2,zJ p,zJ i,zJ p3,zJ q]⟩ 37 (0,0),some 25,true,3⟩)::L4 u tc sc w,fun _=>⟨[(bo 30 4 b t r s),zS 35 4 4]⟩,fun _=>True,fun _ x=>x=0,fun _ _=>.tuple ⟨[(bo 30 4 b t r s),.agg ⟨[zJ j,zJ f,zJ d,zJ g,zJ 0]⟩,zJ 0]⟩⟩,⟨45,fun a _=>[iD a 0],0,fun _=>[],fun L=>⟨[zJ (L.headD 0)]⟩,fun L=>0<=L.headD 0/\L.headD 0<=4000000,fun L x=>x=rt (L.headD 0),fun _ x=>zJ x⟩]) Q K (.call 1 4 (.val 77 16 23 (.val 0 8 31 (.val 4 6 39 (.val 0 3 42 (.val 0 1 43 (.call 0 0 (.val 0 1 45 (.val 10 16 23 (.val 0 8 31 (.val 4 6 39 (.val 0 3 42 (.val 0 1 43 (.call 0 0 (.val 0 1 45 (.val 10 16 23 (.val 0 8 31 (.val 4 6 39 (.val 0 3 42 (.val 0 1 43 (.call 0 0 (.val 0 1 45 (.val 19 16 23 (.val 0 8 31 (.val 4 6 39 (.val 0 3 42 (.val 0 1 43 (.call 0 0 (.val 0 1 45 (.val 10 16 23 (.val 0 8 31 (.val 4 6 39 (.val 0 3 42 (.val 0 1 43 (.call 0 0 (.val 0 1 45 (.val 19 16 23 (.val 0 8 31 (.val 4 6 39 (.val 0 3 42 (.val 0 1 43 (.call 0 0 (.val 0 1 45 (.ret 28 1)))))))))))))))))))))))))))))))))))))))))))) ⟨ak.enter Tryz.prog 11 ⟨[(bo 30 4 b t r s),zS 35 4 4,zJ 0,zJ 3]⟩,[],bz 36 ((35,⟨.cells ⟨[zJ j,zJ f,zJ d,zJ g]⟩ 3 (0,0),some 33,true,1⟩)::(30,⟨.cells ⟨[zJ k,zJ l,zJ m,zJ h,zJ o,zJ q1,zJ e,zJ p2,zJ p,zJ i,zJ p3,zJ q]⟩ 37 (0,0),some 25,true,3⟩)::L4 u tc sc w)⟩=(((AE ⟨[(bo 30 4 b t r s),zS 35 4 4]⟩)/\(BE (⟨.cells ⟨[zJ j,zJ f,zJ d,zJ g]⟩ 3 (0,0),(some 33),true,1⟩:aY)/\BE (⟨.cells ⟨[zJ k,zJ l,zJ m,zJ h,zJ o,zJ q1,zJ e,zJ p2,zJ p,zJ i,zJ p3,zJ q]⟩ 37 (0,0),(some 25),true,3⟩:aY)/\E4 u tc sc w)/\True)/\∀x0:Int,(x0=0)->RK (true) (∀x1,x1=wi (h-k)->∀x2,x2=wi (f-j)->∀x3,x3=wi (x1*x1)->∀x4,x4=wi (x2*x2)->∀M,M=wi (x3+x4)->((AE ⟨[zJ M]⟩)/\(True)/\(0<=M/\M<=4000000))/\∀x6:Int,(x6=rt M)->RK (true) (∀x7,x7=wi (0+x6)->∀x8,x8=wi (e-h)->∀x9,x9=wi (d-f)->∀N,N=wi (x8*x8)->∀O,O=wi (x9*x9)->∀c,c=wi (N+O)->((AE ⟨[zJ c]⟩)/\(True)/\(0<=c/\c<=4000000))/\∀P:Int,(P=rt c)->RK (true) (∀R,R=wi (x7+P)->∀A,A=wi (i-e)->∀B,B=wi (g-d)->∀T,T=wi (A*A)->∀U,U=wi (B*B)->∀n,n=wi (T+U)->((AE ⟨[zJ n]⟩)/\(True)/\(0<=n/\n<=4000000))/\∀V:Int,(V=rt n)->RK (true) (∀W,W=wi (R+V)->∀C,C=wi (e-h)->∀D,D=wi (d-f)->∀X,X=wi (C*C)->∀Y,Y=wi (D*D)->∀v,v=wi (X+Y)->((AE ⟨[zJ v]⟩)/\(True)/\(0<=v/\v<=4000000))/\∀Z:Int,(Z=rt v)->RK (true) (∀a0,a0=wi (0+Z)->∀E,E=wi (i-e)->∀F,F=wi (g-d)->∀a1,a1=wi (E*E)->∀a2,a2=wi (F*F)->∀y,y=wi (a1+a2)->((AE ⟨[zJ y]⟩)/\(True)/\(0<=y/\y<=4000000))/\∀a3:Int,(a3=rt y)->RK (true) (∀a7,a7=wi (a0+a3)->∀H,H=wi (i-e)->∀J,J=wi (g-d)->∀a4,a4=wi (H*H)->∀a5,a5=wi (J*J)->∀z,z=wi (a4+a5)->((AE ⟨[zJ z]⟩)/\(True)/\(0<=z/\z<=4000000))/\∀a6:Int,(a6=rt z)->RK (true) (∀a8,a8=wi (0+a6)->Q (.tuple ⟨[zJ W,zJ 0]⟩))))))))):=by kernel_rfl
theorem abg(Q:0<=b/\b<=20/\0<=k/\i<=959/\k<h/\h<e/\e<i/\0<=l/\l<=m/\m<=959/\m-l<3/\0<=o/\o<=q1/\q1<=959/\q1-o<3/\0<=p2/\p2<=p/\p<=959/\p-p2<3/\0<=p3/\p3<=q/\q<=959/\q-p3<3)(R:0<=j/\j<=959/\0<=f/\f<=959/\0<=d/\d<=959/\0<=g/\g<=959)(F:∀c∈([⟨35,fun _ _=>[],36,fun _=>(35,⟨.cells ⟨[zJ j,zJ f,zJ d,zJ g]⟩ 3 (0,0),some 33,true,1⟩)::(30,⟨.cells ⟨[zJ k,zJ l,zJ m,zJ h,zJ o,zJ q1,zJ e,zJ p2,zJ p,zJ i,zJ p3,zJ q]⟩ 37 (0,0),some 25,true,3⟩)::L4 u tc sc w,fun _=>⟨[(bo 30 4 b t r s),zS 35 4 4]⟩,fun _=>True,fun _ x=>x=0,fun _ _=>.tuple ⟨[(bo 30 4 b t r s),.agg ⟨[zJ j,zJ f,zJ d,zJ g,zJ 0]⟩,zJ 0]⟩⟩,⟨45,fun a _=>[iD a 0],0,fun _=>[],fun z=>⟨[zJ (z.headD 0)]⟩,fun z=>0<=z.headD 0/\z.headD 0<=4000000,fun z x=>x=rt (z.headD 0),fun _ x=>zJ x⟩]:List Ct),aX Tryz.prog c):bu Tryz.prog (fun v _=>∃x:Int,x=gL [(k,j),(h,f),(e,d),(i,g)]/\v=.tuple ⟨[zJ x,zJ 0]⟩) ⟨ak.enter Tryz.prog 11 ⟨[(bo 30 4 b t r s),zS 35 4 4,zJ 0,zJ 3]⟩,[],bz 36 ((35,⟨.cells ⟨[zJ j,zJ f,zJ d,zJ g]⟩ 3 (0,0),some 33,true,1⟩)::(30,⟨.cells ⟨[zJ k,zJ l,zJ m,zJ h,zJ o,zJ q1,zJ e,zJ p2,zJ p,zJ i,zJ p3,zJ q]⟩ 37 (0,0),some 25,true,3⟩)::L4 u tc sc w)⟩:=by
 refine ai (aC F) (RI _ _) ?_;refine⟨⟨rfl,⟨⟨rfl,rfl⟩,⟨⟨rfl,rfl⟩,dK⟩⟩,trivial⟩,fun T _=>⟨rfl,?_⟩⟩;iterate 4 (first|refine va fun _ _=>?_|refine xB (by omega) (by omega) fun _ _ _ _=>?_)
 refine va fun H _=>?_
 refine⟨⟨rfl,trivial,by omega⟩,fun U y=>⟨rfl,?_⟩⟩;obtain⟨_,_⟩:=fA (n:=H) (by omega) (by omega) y
 iterate 5 (first|refine va fun _ _=>?_|refine xB (by omega) (by omega) fun _ _ _ _=>?_)
 refine va fun A _=>?_
 refine⟨⟨rfl,trivial,by omega⟩,fun J y=>⟨rfl,?_⟩⟩;obtain⟨_,_⟩:=fA (n:=A) (by omega) (by omega) y
 iterate 5 (first|refine va fun _ _=>?_|refine xB (by omega) (by omega) fun _ _ _ _=>?_)
 refine va fun B _=>?_
 refine⟨⟨rfl,trivial,by omega⟩,fun L y=>⟨rfl,?_⟩⟩;obtain⟨_,_⟩:=fA (n:=B) (by omega) (by omega) y
 iterate 5 (first|refine va fun _ _=>?_|refine xB (by omega) (by omega) fun _ _ _ _=>?_)
 refine va fun C _=>?_
 refine⟨⟨rfl,trivial,by omega⟩,fun M y=>⟨rfl,?_⟩⟩;obtain⟨_,_⟩:=fA (n:=C) (by omega) (by omega) y
 iterate 5 (first|refine va fun _ _=>?_|refine xB (by omega) (by omega) fun _ _ _ _=>?_)
 refine va fun D _=>?_
 refine⟨⟨rfl,trivial,by omega⟩,fun N y=>⟨rfl,?_⟩⟩;obtain⟨_,_⟩:=fA (n:=D) (by omega) (by omega) y
 iterate 5 (first|refine va fun _ _=>?_|refine xB (by omega) (by omega) fun _ _ _ _=>?_)
 refine va fun E _=>?_
 refine⟨⟨rfl,trivial,by omega⟩,fun O y=>⟨rfl,?_⟩⟩;obtain⟨_,_⟩:=fA (n:=E) (by omega) (by omega) y
 refine va fun P _=>?_
 exact ou (by subst_vars;simp[gL,sg]<;>omega)
end
end Go.Am
namespace Go.Am
open Go.Proofs
section
variable{b c d e f q1 g p2 h j p3 i a:Int}{k l:Nat}{m tc sc n:Array Value}{o:Option Addr}
theorem RJ(Q:Value->Prop)(K:AS->Prop):tx (aJ []) Q K (.br 18 4 6 .no (.br 0 4 10 .no (.br 15 8 8 .no (.br 16 6 10 (.br 0 6 16 (.br 0 6 22 (.val 6 11 17 (.br 0 1 18 .no (.br 31 4 6 .no ac7))) .no) .no) .no)))) ⟨ak.enter Tryz.prog 118 ⟨[(bo 30 4 a o k l)]⟩,[],bz 31 ((30,⟨.cells ⟨[zJ b,zJ c,zJ d,zJ e,zJ f,zJ q1,zJ g,zJ p2,zJ h,zJ j,zJ p3,zJ i]⟩ 37 (0,0),some 25,true,3⟩)::L4 m tc sc n)⟩=(BR (decide (b<0)) (False) (BR (decide (b>959)) (False) (BR (decide (b<=(-1))) (False) (BR (decide (0<=c)) (BR (decide (c<=d)) (BR (decide (d<=959)) (∀p,p=wi (d-c)->BR (decide (p>=3)) (False) (BR (decide (e<0)) (False) (BR (decide (e>959)) (False) (BR (decide (e<=b)) (False) (BR (decide (0<=f)) (BR (decide (f<=q1)) (BR (decide (q1<=959)) (∀q,q=wi (q1-f)->BR (decide (q>=3)) (False) (BR (decide (g<0)) (False) (BR (decide (g>959)) (False) (BR (decide (g<=e)) (False) (BR (decide (0<=p2)) (BR (decide (p2<=h)) (BR (decide (h<=959)) (∀r,r=wi (h-p2)->BR (decide (r>=3)) (False) (BR (decide (j<0)) (False) (BR (decide (j>959)) (False) (BR (decide (j<=g)) (False) (BR (decide (0<=p3)) (BR (decide (p3<=i)) (BR (decide (i<=959)) (∀s,s=wi (i-p3)->BR (decide (s>=3)) (False) (Q (zJ 0))) (False)) (False)) (False)))))) (False)) (False)) (False)))))) (False)) (False)) (False)))))) (False)) (False)) (False))))):=by kernel_rfl
theorem abh(p:0<=a/\a<=20/\0<=b/\j<=959/\b<e/\e<g/\g<j/\0<=c/\c<=d/\d<=959/\d-c<3/\0<=f/\f<=q1/\q1<=959/\q1-f<3/\0<=p2/\p2<=h/\h<=959/\h-p2<3/\0<=p3/\p3<=i/\i<=959/\i-p3<3):bu Tryz.prog (fun v _=>∃x:Int,x=0/\v=zJ x) ⟨ak.enter Tryz.prog 118 ⟨[(bo 30 4 a o k l)]⟩,[],bz 31 ((30,⟨.cells ⟨[zJ b,zJ c,zJ d,zJ e,zJ f,zJ q1,zJ g,zJ p2,zJ h,zJ j,zJ p3,zJ i]⟩ 37 (0,0),some 25,true,3⟩)::L4 m tc sc n)⟩:=by
 refine ai (aC bI) (RJ _ _) ?_;iterate 32 (first|refine BR.rr ?_|refine BR.ll ?_|refine va fun _ _=>?_)
 exact fun _=>⟨_,rfl,rfl⟩
end
section
variable{b c d e f q1 g p2 h i p3 j a:Int}{k l:Nat}{m tc sc n:Array Value}{o:Option Addr}
theorem RN(Q:Value->Prop)(K:AS->Prop):tx (aJ []) Q K (.ret 8 1) ⟨ak.enter Tryz.prog 119 ⟨[(bo 30 4 a o k l)]⟩,[],bz 31 ((30,⟨.cells ⟨[zJ b,zJ c,zJ d,zJ e,zJ f,zJ q1,zJ g,zJ p2,zJ h,zJ i,zJ p3,zJ j]⟩ 37 (0,0),some 25,true,3⟩)::L4 m tc sc n)⟩=(Q (zJ 0)):=by kernel_rfl
theorem abj:bu Tryz.prog (fun v _=>∃x:Int,x=0/\v=zJ x) ⟨ak.enter Tryz.prog 119 ⟨[(bo 30 4 a o k l)]⟩,[],bz 31 ((30,⟨.cells ⟨[zJ b,zJ c,zJ d,zJ e,zJ f,zJ q1,zJ g,zJ p2,zJ h,zJ i,zJ p3,zJ j]⟩ 37 (0,0),some 25,true,3⟩)::L4 m tc sc n)⟩:=by
 refine ai (aC bI) (RN _ _) ?_;exact fun _=>⟨_,rfl,rfl⟩
end
section
variable{b d e f g q1 h p2 i c p3 j a:Int}{k:Nat}{l tc sc m:Array Value}{n:Option Addr}
theorem L6(Q:Value->Prop)(K:AS->Prop):tx (aJ []) Q K (.ret 20 1) ⟨ak.enter Tryz.prog 120 ⟨[.agg ⟨[zJ a,zS 30 4 4,.slice none 0 0,.slice n 0 k]⟩]⟩,[],bz 31 ((30,⟨.cells ⟨[zJ b,zJ d,zJ e,zJ f,zJ g,zJ q1,zJ h,zJ p2,zJ i,zJ c,zJ p3,zJ j]⟩ 37 (0,0),some 25,true,3⟩)::L4 l tc sc m)⟩=(Q (zJ 0)):=by kernel_rfl
theorem Yg(o:Sts b c []):bu Tryz.prog (fun v _=>∃x:Int,x=0/\v=zJ x) ⟨ak.enter Tryz.prog 120 ⟨[.agg ⟨[zJ a,zS 30 4 4,.slice none 0 0,.slice n 0 k]⟩]⟩,[],bz 31 ((30,⟨.cells ⟨[zJ b,zJ d,zJ e,zJ f,zJ g,zJ q1,zJ h,zJ p2,zJ i,zJ c,zJ p3,zJ j]⟩ 37 (0,0),some 25,true,3⟩)::L4 l tc sc m)⟩:=by
 refine ai (aC bI) (L6 _ _) ?_;exact fun _=>⟨_,rfl,rfl⟩
end
section
variable{d f g h i q1 j p2 k e p3 l b c a:Int}{m:Nat}{n tc sc o:Array Value}{os:Option Addr}{p:Bool}
theorem L8(Q:Value->Prop)(K:AS->Prop):tx (aJ []) Q K ada ⟨ak.enter Tryz.prog 120 ⟨[.agg ⟨[zJ a,zS 30 4 4,.slice none 0 0,zS 2 1 m]⟩]⟩,[],bz 31 ((30,⟨.cells ⟨[zJ d,zJ f,zJ g,zJ h,zJ i,zJ q1,zJ j,zJ p2,zJ k,zJ e,zJ p3,zJ l]⟩ 37 (0,0),some 25,true,3⟩)::L4 n tc ⟨[zJ b,zJ c,.bool p]⟩ o)⟩=(BR (decide (b<d)) (False) (BR (decide (b>e)) (False) (BR (decide (c<0)) (False) (BR (decide (c>959)) (False) (Q (zJ 0)))))):=by kernel_rfl
theorem Yh(q:Sts d e [(b,c)]):bu Tryz.prog (fun v _=>∃x:Int,x=0/\v=zJ x) ⟨ak.enter Tryz.prog 120 ⟨[.agg ⟨[zJ a,zS 30 4 4,.slice none 0 0,zS 2 1 m]⟩]⟩,[],bz 31 ((30,⟨.cells ⟨[zJ d,zJ f,zJ g,zJ h,zJ i,zJ q1,zJ j,zJ p2,zJ k,zJ e,zJ p3,zJ l]⟩ 37 (0,0),some 25,true,3⟩)::L4 n tc ⟨[zJ b,zJ c,.bool p]⟩ o)⟩:=by
 refine ai (aC bI) (L8 _ _) ?_;simp only[Sts,and_true]at q;iterate 4 refine BR.rr ?_
 exact fun _=>⟨_,rfl,rfl⟩
end
section
variable{b g h i j q1 k p2 l c p3 m d e s1 f a:Int}{n:Nat}{o tc sc p:Array Value}{os:Option Addr}{q w1:Bool}
theorem L9(Q:Value->Prop)(K:AS->Prop):tx (aJ []) Q K (.br 15 10 12 .no Yb) ⟨ak.enter Tryz.prog 120 ⟨[.agg ⟨[zJ a,zS 30 4 4,.slice none 0 0,zS 2 2 n]⟩]⟩,[],bz 31 ((30,⟨.cells ⟨[zJ b,zJ g,zJ h,zJ i,zJ j,zJ q1,zJ k,zJ p2,zJ l,zJ c,zJ p3,zJ m]⟩ 37 (0,0),some 25,true,3⟩)::L4 o tc ⟨[zJ d,zJ e,.bool q,zJ s1,zJ f,.bool w1]⟩ p)⟩=(BR (decide (d<b)) (False) (BR (decide (d>c)) (False) (BR (decide (e<0)) (False) (BR (decide (e>959)) (False) (BR (decide (s1<b)) (False) (BR (decide (s1>c)) (False) (BR (decide (f<0)) (False) (BR (decide (f>959)) (False) (Q (zJ 0)))))))))):=by kernel_rfl
theorem Yi(r:Sts b c [(d,e),(s1,f)]):bu Tryz.prog (fun v _=>∃x:Int,x=0/\v=zJ x) ⟨ak.enter Tryz.prog 120 ⟨[.agg ⟨[zJ a,zS 30 4 4,.slice none 0 0,zS 2 2 n]⟩]⟩,[],bz 31 ((30,⟨.cells ⟨[zJ b,zJ g,zJ h,zJ i,zJ j,zJ q1,zJ k,zJ p2,zJ l,zJ c,zJ p3,zJ m]⟩ 37 (0,0),some 25,true,3⟩)::L4 o tc ⟨[zJ d,zJ e,.bool q,zJ s1,zJ f,.bool w1]⟩ p)⟩:=by
 refine ai (aC bI) (L9 _ _) ?_;simp only[Sts,and_true]at r;iterate 8 refine BR.rr ?_
 exact fun _=>⟨_,rfl,rfl⟩
end
section
variable{b i j k l q1 m p2 n c p3 o d e s1 f g h a:Int}{p:Nat}{q tc sc r:Array Value}{os:Option Addr}{s w1 w2:Bool}
theorem Mc(Q:Value->Prop)(K:AS->Prop):tx (aJ []) Q K ac9 ⟨ak.enter Tryz.prog 120 ⟨[.agg ⟨[zJ a,zS 30 4 4,.slice none 0 0,zS 2 3 p]⟩]⟩,[],bz 31 ((30,⟨.cells ⟨[zJ b,zJ i,zJ j,zJ k,zJ l,zJ q1,zJ m,zJ p2,zJ n,zJ c,zJ p3,zJ o]⟩ 37 (0,0),some 25,true,3⟩)::L4 q tc ⟨[zJ d,zJ e,.bool s,zJ s1,zJ f,.bool w1,zJ g,zJ h,.bool w2]⟩ r)⟩=(BR (decide (d<b)) (False) (BR (decide (d>c)) (False) (BR (decide (e<0)) (False) (BR (decide (e>959)) (False) (BR (decide (s1<b)) (False) (BR (decide (s1>c)) (False) (BR (decide (f<0)) (False) (BR (decide (f>959)) (False) (BR (decide (g<b)) (False) (BR (decide (g>c)) (False) (BR (decide (h<0)) (False) (BR (decide (h>959)) (False) (Q (zJ 0)))))))))))))):=by kernel_rfl
theorem Yj(t:Sts b c [(d,e),(s1,f),(g,h)]):bu Tryz.prog (fun v _=>∃x:Int,x=0/\v=zJ x) ⟨ak.enter Tryz.prog 120 ⟨[.agg ⟨[zJ a,zS 30 4 4,.slice none 0 0,zS 2 3 p]⟩]⟩,[],bz 31 ((30,⟨.cells ⟨[zJ b,zJ i,zJ j,zJ k,zJ l,zJ q1,zJ m,zJ p2,zJ n,zJ c,zJ p3,zJ o]⟩ 37 (0,0),some 25,true,3⟩)::L4 q tc ⟨[zJ d,zJ e,.bool s,zJ s1,zJ f,.bool w1,zJ g,zJ h,.bool w2]⟩ r)⟩:=by
 refine ai (aC bI) (Mc _ _) ?_;simp only[Sts,and_true]at t;iterate 12 refine BR.rr ?_
 exact fun _=>⟨_,rfl,rfl⟩
end
section
variable{b d e f g q1 h p2 i j p3 k a:Int}{l m:Nat}{n tc sc o:Array Value}{p:Option Addr}
theorem RP(Q:Value->Prop)(K:AS->Prop):∀v0:Prop,v0=((AE ⟨[(bo 30 4 a p l m)]⟩)/\(BE (⟨.cells ⟨[zJ b,zJ d,zJ e,zJ f,zJ g,zJ q1,zJ h,zJ p2,zJ i,zJ j,zJ p3,zJ k]⟩ 37 (0,0),(some 25),true,3⟩:aY)/\E4 n tc sc o)/\True)->tx (aJ [⟨118,fun _ _=>[],31,fun _=>(30,⟨.cells ⟨[zJ b,zJ d,zJ e,zJ f,zJ g,zJ q1,zJ h,zJ p2,zJ i,zJ j,zJ p3,zJ k]⟩ 37 (0,0),some 25,true,3⟩)::L4 n tc sc o,fun _=>⟨[(bo 30 4 a p l m)]⟩,fun _=>True,fun _ x=>x=0,fun _ x=>zJ x⟩,⟨119,fun _ _=>[],31,fun _=>(30,⟨.cells ⟨[zJ b,zJ d,zJ e,zJ f,zJ g,zJ q1,zJ h,zJ p2,zJ i,zJ j,zJ p3,zJ k]⟩ 37 (0,0),some 25,true,3⟩)::L4 n tc sc o,fun _=>⟨[(bo 30 4 a p l m)]⟩,fun _=>True,fun _ x=>x=0,fun _ x=>zJ x⟩,⟨120,fun _ _=>[],31,fun _=>(30,⟨.cells ⟨[zJ b,zJ d,zJ e,zJ f,zJ g,zJ q1,zJ h,zJ p2,zJ i,zJ j,zJ p3,zJ k]⟩ 37 (0,0),some 25,true,3⟩)::L4 n tc sc o,fun _=>⟨[(bo 30 4 a p l m)]⟩,fun _=>True,fun _ x=>x=0,fun _ x=>zJ x⟩]) Q K ac8 ⟨ak.enter Tryz.prog 87 ⟨[(bo 30 4 a p l m)]⟩,[],bz 31 ((30,⟨.cells ⟨[zJ b,zJ d,zJ e,zJ f,zJ g,zJ q1,zJ h,zJ p2,zJ i,zJ j,zJ p3,zJ k]⟩ 37 (0,0),some 25,true,3⟩)::L4 n tc sc o)⟩=(BR (decide (a<0)) (False) (BR (decide (a>20)) (False) (v0/\∀c:Int,(c=0)->RK (true) (BR (!decide (c=0)) (False) (v0/\∀q:Int,(q=0)->RK (true) (BR (!decide (q=0)) (False) (v0/\∀r:Int,(r=0)->RK (true) (BR (!decide (r=0)) (False) (Q (zJ 0)))))))))):=by
 rintro _ rfl;kernel_rfl
theorem abk(r:0<=a/\a<=20)(q:∀c∈([⟨118,fun _ _=>[],31,fun _=>(30,⟨.cells ⟨[zJ b,zJ d,zJ e,zJ f,zJ g,zJ q1,zJ h,zJ p2,zJ i,zJ j,zJ p3,zJ k]⟩ 37 (0,0),some 25,true,3⟩)::L4 n tc sc o,fun _=>⟨[(bo 30 4 a p l m)]⟩,fun _=>True,fun _ x=>x=0,fun _ x=>zJ x⟩,⟨119,fun _ _=>[],31,fun _=>(30,⟨.cells ⟨[zJ b,zJ d,zJ e,zJ f,zJ g,zJ q1,zJ h,zJ p2,zJ i,zJ j,zJ p3,zJ k]⟩ 37 (0,0),some 25,true,3⟩)::L4 n tc sc o,fun _=>⟨[(bo 30 4 a p l m)]⟩,fun _=>True,fun _ x=>x=0,fun _ x=>zJ x⟩,⟨120,fun _ _=>[],31,fun _=>(30,⟨.cells ⟨[zJ b,zJ d,zJ e,zJ f,zJ g,zJ q1,zJ h,zJ p2,zJ i,zJ j,zJ p3,zJ k]⟩ 37 (0,0),some 25,true,3⟩)::L4 n tc sc o,fun _=>⟨[(bo 30 4 a p l m)]⟩,fun _=>True,fun _ x=>x=0,fun _ x=>zJ x⟩]:List Ct),aX Tryz.prog c):bu Tryz.prog (fun v _=>∃x:Int,x=0/\v=zJ x) ⟨ak.enter Tryz.prog 87 ⟨[(bo 30 4 a p l m)]⟩,[],bz 31 ((30,⟨.cells ⟨[zJ b,zJ d,zJ e,zJ f,zJ g,zJ q1,zJ h,zJ p2,zJ i,zJ j,zJ p3,zJ k]⟩ 37 (0,0),some 25,true,3⟩)::L4 n tc sc o)⟩:=by
 refine ai (aC q) (RP _ _ _ rfl) ?_;iterate 2 refine BR.rr ?_
 refine⟨⟨rfl,⟨⟨rfl,rfl⟩,dK⟩,trivial⟩,fun s _=>⟨rfl,?_⟩⟩;refine BR.nr (by omega) ?_;refine⟨⟨rfl,⟨⟨rfl,rfl⟩,dK⟩,trivial⟩,fun t _=>⟨rfl,?_⟩⟩;refine BR.nr (by omega) ?_;refine⟨⟨rfl,⟨⟨rfl,rfl⟩,dK⟩,trivial⟩,fun u _=>⟨rfl,?_⟩⟩;refine BR.nr (by omega) ?_;exact fun _=>⟨_,rfl,rfl⟩
end
end Go.Am
