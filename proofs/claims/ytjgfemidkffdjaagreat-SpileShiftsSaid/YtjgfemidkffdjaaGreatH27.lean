import Derived.Test.YtjgfemidkffdjaaGreatH25
import Derived.Test.YtjgfemidkffdjaaGreatH26
set_option linter.all false
namespace Go.Am
open Go.Proofs
noncomputable def y9(f:FuncId)(s:AS):Bool:=Nat.beq s.fr.fn f&&match s.fr.todo with
 | .region a (i::_)::_=>match nth a.toList i with
   |some o=>match o.op with
    | .convert ..=>true
    |_=>false
   |none=>false
 | _=>false
theorem yc{f e:IntKind}{a b c d:Int}(g:a=c)(h:b=d):(⟨[.int f a,.int e b]⟩:Array Value)=⟨[.int f c,.int e d]⟩:=by rw[g,h]
noncomputable def zf(a b c d e f g h i j:Int):Array Value:=⟨[zJ a,zJ b,zJ c,zJ d,zJ e,zJ f,zJ g,zJ h,zJ i,zJ j]⟩
def akZ:List Int->Prop
 | [k,a,b]=>-40000<=k/\k<=40000/\-99<=a/\a<=99/\-99<=b/\b<=99
 | _=>False
def ak0(i j c d e l m f g h:Int):List Int->Int->Prop
 | [k,a,b],x=>(x=1/\(c<=a+k/\a+k+e<=d/\f<=b+k/\b+k+h<=g))∨(x=0/\¬(c<=a+k/\a+k+e<=d/\f<=b+k/\b+k+h<=g))
 | _,_=>False
noncomputable def aiA(c d e f g i j k l m o p:Int)(q r s:Nat)(t u v:Array Value)(w:Option Addr):Ct:=⟨10,fun a h=>uh a 2::OG h (nth a.toList 1),13,fun b=>(12,⟨.cells ⟨b.tail.map fun n=>zJ n⟩ 3 (0,0),some 8,false,1⟩)::L4 (zf c d e f g i j k l m) t u v,fun b=>⟨[bm o p (some ⟨0,0,none⟩) 2 q w r s,zS 12 2 2,zJ (b.headD 0)]⟩,akZ,ak0 c d e f g i j k l m,fun _ x=>.bool (decide (x=1))⟩
section
variable{g h i j c d e a1 l c1 d1 f a b k:Int}{m n o:Nat}{p q r:Array Value}{s:Option Addr}
abbrev Zz:HT:=.val 14 11 20 (.val 4 7 13 (.rk 2 0 (.val 5 11 20 (.val 4 7 13 (.br 2 2 18 (.val 14 11 20 (.val 4 7 13 (.rk 2 0 (.val 5 11 20 (.val 4 7 13 (.br 2 2 18 (.ret 8 1) (.ret 8 1))))))) (.val 14 11 20 (.val 4 7 13 (.rk 2 0 (.val 5 11 20 (.val 4 7 13 (.br 2 2 18 (.ret 8 1) (.ret 8 1))))))))))))
abbrev ad3:HT:=.br 0 4 29 (.ret 17 1) (.val 5 2 36 (.val 1 2 39 (.br 2 2 43 (.ret 3 1) (.val 9 6 25 (.br 0 4 29 (.ret 17 1) (.val 5 2 36 (.val 1 2 39 (.br 2 2 43 (.ret 3 1) (.ret 8 1)))))))))
abbrev ad4:HT:=.val 5 5 5 (.br 0 1 6 (.cut 7 3) (.val 0 4 10 (.br 0 1 11 (.cut 7 3) (.call 3 3 (.br 0 1 9 .no (.cut 4 3))))))
abbrev ad5:HT:=.br 0 4 29 (.ret 17 1) (.val 5 2 36 (.val 1 2 39 (.br 2 2 43 (.ret 3 1) (.val 9 6 25 ad3))))
theorem ZA(Q:Value->Prop)(K:AS->Prop):tx (aY []) Q K (.val 7 6 25 ad3) ⟨aN.enter Tryz.prog 10 ⟨[(bm g h (some ⟨0,0,none⟩) 2 m s n o),zS 12 2 2,zJ k]⟩,[],fF 13 ((12,⟨.cells ⟨[zJ a,zJ b]⟩ 3 (0,0),some 8,false,1⟩)::L4 (zf i j c d e a1 l c1 d1 f) p q r)⟩=(∀t,t=wi (a+k)->BR (decide (t<c)) (Q (.bool false)) (∀u,u=wi (a+k)->∀v,v=wi (u+e)->BR (decide (v>d)) (Q (.bool false)) (∀w,w=wi (b+k)->BR (decide (w<c1)) (Q (.bool false)) (∀x,x=wi (b+k)->∀y,y=wi (x+f)->BR (decide (y>d1)) (Q (.bool false)) (Q (.bool true)))))):=by kernel_rfl
theorem afY(t:0<=c/\c<=d/\d<=199/\0<=e/\e<=199/\0<=c1/\c1<=d1/\d1<=199/\0<=f/\f<=199)(u:-40000<=k/\k<=40000/\-99<=a/\a<=99/\-99<=b/\b<=99):dQ Tryz.prog (fun v _=>∃x:Int,((x=1/\(c<=a+k/\a+k+e<=d/\c1<=b+k/\b+k+f<=d1))∨(x=0/\¬(c<=a+k/\a+k+e<=d/\c1<=b+k/\b+k+f<=d1)))/\v=.bool (decide (x=1))) ⟨aN.enter Tryz.prog 10 ⟨[(bm g h (some ⟨0,0,none⟩) 2 m s n o),zS 12 2 2,zJ k]⟩,[],fF 13 ((12,⟨.cells ⟨[zJ a,zJ b]⟩ 3 (0,0),some 8,false,1⟩)::L4 (zf i j c d e a1 l c1 d1 f) p q r)⟩:=by
 refine bz (bf gX) (ZA _ _) ?_;iterate 9 (first|refine BR.mk (fun _=>fun _=>⟨0,.inr ⟨rfl,by omega⟩,rfl⟩) fun _=>?_|refine va fun _ _=>?_)
 refine BR.mk (fun _=>?_) fun _=>fun _=>⟨1,.inl ⟨rfl,by omega⟩,rfl⟩
 exact fun _=>⟨0,.inr ⟨rfl,by omega⟩,rfl⟩
end
section
variable{pw qs a0 b0 c0 d0 e0 a1 b1 c1 d1 e1:Int}{cp a ct:Nat}{c sc kc:Array Value}{b:Option Addr}
theorem ZB(Q:Value->Prop)(K:AS->Prop):∀v0:Bool,v0=((decide (pw=pw)&&(decide (qs=qs)&&(decide (cp=cp)&&(((decide (b=b)&&decide (a=a))&&decide (ct=ct))&&true))))&&true)->tx (aY []) Q K (.val 13 11 20 (.val 4 7 13 (.rk 2 0 (.val 5 11 20 (.val 4 7 13 (.br 2 2 18 .no (.val 14 11 20 (.val 4 7 13 (.rk 2 0 (.val 5 11 20 (.val 4 7 13 (.br 2 2 18 (.ret 8 1) (.ret 8 1))))))))))))) ⟨aN.enter Tryz.prog 37 ⟨[(bm pw qs (some ⟨0,0,none⟩) 2 cp b a ct)]⟩,[],fF 4 (L4 (zf a0 b0 c0 d0 e0 a1 b1 c1 d1 e1) c sc kc)⟩=(∀d,d=wi (d0-e0)->∀e,e=wi (d-c0)->RK (v0) (∀f,f=wi (d0-e0)->∀g,g=wi (f-c0)->BR (decide (e<g)) (False) (∀h,h=wi (d1-e1)->∀i,i=wi (h-c1)->RK (v0) (∀j,j=wi (d0-e0)->∀k,k=wi (j-c0)->BR (decide (i<k)) (Q (zJ 1)) (Q (zJ 0)))))):=by
 rintro _ rfl;kernel_rfl
set_option maxHeartbeats 4000000 in
theorem afZ(d:0<=c0/\c0<=d0/\d0<=199/\0<=e0/\e0<=199/\0<=c1/\c1<=d1/\d1<=199/\0<=e1/\e1<=199):dQ Tryz.prog (fun v _=>∃x:Int,((x=0/\d0-e0-c0<=d1-e1-c1)∨(x=1/\d1-e1-c1<d0-e0-c0))/\v=zJ x) ⟨aN.enter Tryz.prog 37 ⟨[(bm pw qs (some ⟨0,0,none⟩) 2 cp b a ct)]⟩,[],fF 4 (L4 (zf a0 b0 c0 d0 e0 a1 b1 c1 d1 e1) c sc kc)⟩:=by
 refine bz (bf gX) (ZB _ _ _ rfl) ?_;iterate 11 (first|refine BR.rr ?_|refine va fun _ _=>?_|refine⟨by simp,?_⟩)
 refine BR.mk (fun _=>?_) fun _=>fun _=>⟨0,.inl ⟨rfl,by omega⟩,rfl⟩
 exact fun _=>⟨1,.inr (⟨rfl,by omega⟩),rfl⟩
end
noncomputable def AL(a b c d e f g h i j k l m d2 n:Int):Array Value:=⟨[zJ a,zJ b,zJ c,zJ d,zJ e,zJ f,zJ g,zJ h,zJ i,zJ j,zJ k,zJ l,zJ m,zJ d2,zJ n]⟩
def ak1:List Int->Prop
 | [k,a,b,c]=>-40000<=k/\k<=40000/\-99<=a/\a<=99/\-99<=b/\b<=99/\-99<=c/\c<=99
 | _=>False
def ak2(m n d e f o p g h i q r j d2 l:Int):List Int->Int->Prop
 | [k,a,b,c],x=>(x=1/\(d<=a+k/\a+k+f<=e/\g<=b+k/\b+k+i<=h/\j<=c+k/\c+k+l<=d2))∨(x=0/\¬(d<=a+k/\a+k+f<=e/\g<=b+k/\b+k+i<=h/\j<=c+k/\c+k+l<=d2))
 | _,_=>False
noncomputable def aiB(c d e f g i j k l m o p q d2 r s t:Int)(u v w:Nat)(y z A:Array Value)(B:Option Addr):Ct:=⟨10,fun a h=>uh a 2::OG h (nth a.toList 1),17,fun b=>(16,⟨.cells ⟨b.tail.map fun n=>zJ n⟩ 3 (0,0),some 8,false,1⟩)::L4 (AL c d e f g i j k l m o p q d2 r) y z A,fun b=>⟨[bm s t (some ⟨0,0,none⟩) 3 u B v w,zS 16 3 3,zJ (b.headD 0)]⟩,ak1,ak2 c d e f g i j k l m o p q d2 r,fun _ x=>.bool (decide (x=1))⟩
section
variable{i j l m d e f a1 n c1 d1 g o p c2 d2 h a b c k:Int}{q r s:Nat}{t u w:Array Value}{y:Option Addr}
theorem ZC(Q:Value->Prop)(K:AS->Prop):tx (aY []) Q K (.val 7 6 25 ad5) ⟨aN.enter Tryz.prog 10 ⟨[(bm i j (some ⟨0,0,none⟩) 3 q y r s),zS 16 3 3,zJ k]⟩,[],fF 17 ((16,⟨.cells ⟨[zJ a,zJ b,zJ c]⟩ 3 (0,0),some 8,false,1⟩)::L4 (AL l m d e f a1 n c1 d1 g o p c2 d2 h) t u w)⟩=(∀v,v=wi (a+k)->BR (decide (v<d)) (Q (.bool false)) (∀x,x=wi (a+k)->∀z,z=wi (x+f)->BR (decide (z>e)) (Q (.bool false)) (∀A,A=wi (b+k)->BR (decide (A<c1)) (Q (.bool false)) (∀B,B=wi (b+k)->∀C,C=wi (B+g)->BR (decide (C>d1)) (Q (.bool false)) (∀D,D=wi (c+k)->BR (decide (D<c2)) (Q (.bool false)) (∀E,E=wi (c+k)->∀F,F=wi (E+h)->BR (decide (F>d2)) (Q (.bool false)) (Q (.bool true)))))))):=by kernel_rfl
theorem af0(z:0<=d/\d<=e/\e<=199/\0<=f/\f<=199/\0<=c1/\c1<=d1/\d1<=199/\0<=g/\g<=199/\0<=c2/\c2<=d2/\d2<=199/\0<=h/\h<=199)(A:-40000<=k/\k<=40000/\-99<=a/\a<=99/\-99<=b/\b<=99/\-99<=c/\c<=99):dQ Tryz.prog (fun v _=>∃x:Int,((x=1/\(d<=a+k/\a+k+f<=e/\c1<=b+k/\b+k+g<=d1/\c2<=c+k/\c+k+h<=d2))∨(x=0/\¬(d<=a+k/\a+k+f<=e/\c1<=b+k/\b+k+g<=d1/\c2<=c+k/\c+k+h<=d2)))/\v=.bool (decide (x=1))) ⟨aN.enter Tryz.prog 10 ⟨[(bm i j (some ⟨0,0,none⟩) 3 q y r s),zS 16 3 3,zJ k]⟩,[],fF 17 ((16,⟨.cells ⟨[zJ a,zJ b,zJ c]⟩ 3 (0,0),some 8,false,1⟩)::L4 (AL l m d e f a1 n c1 d1 g o p c2 d2 h) t u w)⟩:=by
 refine bz (bf gX) (ZC _ _) ?_;iterate 14 (first|refine BR.mk (fun _=>fun _=>⟨0,.inr ⟨rfl,by omega⟩,rfl⟩) fun _=>?_|refine va fun _ _=>?_)
 refine BR.mk (fun _=>?_) fun _=>fun _=>⟨1,.inl ⟨rfl,by omega⟩,rfl⟩
 exact fun _=>⟨0,.inr ⟨rfl,by omega⟩,rfl⟩
end
section
variable{pw qs a0 b0 c0 d0 e0 a1 b1 c1 d1 e1 a2 b2 c2 d2 e2:Int}{cp a ct:Nat}{c sc kc:Array Value}{b:Option Addr}
theorem ZE(Q:Value->Prop)(K:AS->Prop):∀v0:Bool,v0=((decide (pw=pw)&&(decide (qs=qs)&&(decide (cp=cp)&&(((decide (b=b)&&decide (a=a))&&decide (ct=ct))&&true))))&&true)->tx (aY []) Q K (.val 13 11 20 (.val 4 7 13 (.rk 2 0 (.val 5 11 20 (.val 4 7 13 (.br 2 2 18 .no Zz)))))) ⟨aN.enter Tryz.prog 37 ⟨[(bm pw qs (some ⟨0,0,none⟩) 3 cp b a ct)]⟩,[],fF 4 (L4 (AL a0 b0 c0 d0 e0 a1 b1 c1 d1 e1 a2 b2 c2 d2 e2) c sc kc)⟩=(∀j,j=wi (d0-e0)->∀k,k=wi (j-c0)->RK (v0) (∀l,l=wi (d0-e0)->∀m,m=wi (l-c0)->BR (decide (k<m)) (False) (∀n,n=wi (d1-e1)->∀o,o=wi (n-c1)->RK (v0) (∀p,p=wi (d0-e0)->∀q,q=wi (p-c0)->BR (decide (o<q)) (∀r,r=wi (d2-e2)->∀s,s=wi (r-c2)->RK (v0) (∀d,d=wi (d1-e1)->∀e,e=wi (d-c1)->BR (decide (s<e)) (Q (zJ 2)) (Q (zJ 1)))) (∀f,f=wi (d2-e2)->∀g,g=wi (f-c2)->RK (v0) (∀h,h=wi (d0-e0)->∀i,i=wi (h-c0)->BR (decide (g<i)) (Q (zJ 2)) (Q (zJ 0)))))))):=by
 rintro _ rfl;kernel_rfl
set_option maxHeartbeats 4000000 in
theorem af1(d:0<=c0/\c0<=d0/\d0<=199/\0<=e0/\e0<=199/\0<=c1/\c1<=d1/\d1<=199/\0<=e1/\e1<=199/\0<=c2/\c2<=d2/\d2<=199/\0<=e2/\e2<=199):dQ Tryz.prog (fun v _=>∃x:Int,((x=0/\d0-e0-c0<=d1-e1-c1/\d0-e0-c0<=d2-e2-c2)∨(x=1/\d1-e1-c1<d0-e0-c0/\d1-e1-c1<=d2-e2-c2)∨(x=2/\d2-e2-c2<d0-e0-c0/\d2-e2-c2<d1-e1-c1))/\v=zJ x) ⟨aN.enter Tryz.prog 37 ⟨[(bm pw qs (some ⟨0,0,none⟩) 3 cp b a ct)]⟩,[],fF 4 (L4 (AL a0 b0 c0 d0 e0 a1 b1 c1 d1 e1 a2 b2 c2 d2 e2) c sc kc)⟩:=by
 refine bz (bf gX) (ZE _ _ _ rfl) ?_;iterate 11 (first|refine BR.rr ?_|refine va fun _ _=>?_|refine⟨by simp,?_⟩)
 refine BR.mk (fun _=>?_) (fun _=>?_)
 ·
  iterate 5 (first|refine va fun _ _=>?_|refine⟨by simp,?_⟩)
  refine BR.mk (fun _=>?_) fun _=>fun _=>⟨1,.inr (.inl ⟨rfl,by omega⟩),rfl⟩
  exact fun _=>⟨2,.inr (.inr (⟨rfl,by omega⟩)),rfl⟩
 iterate 5 (first|refine va fun _ _=>?_|refine⟨by simp,?_⟩)
 refine BR.mk (fun _=>?_) fun _=>fun _=>⟨0,.inl ⟨rfl,by omega⟩,rfl⟩
 exact fun _=>⟨2,.inr (.inr (⟨rfl,by omega⟩)),rfl⟩
end
noncomputable def AO(a b c d e f g h i j k l m d2 n o p q d3 r:Int):Array Value:=⟨[zJ a,zJ b,zJ c,zJ d,zJ e,zJ f,zJ g,zJ h,zJ i,zJ j,zJ k,zJ l,zJ m,zJ d2,zJ n,zJ o,zJ p,zJ q,zJ d3,zJ r]⟩
def ak3:List Int->Prop
 | [k,a,b,c,d]=>-40000<=k/\k<=40000/\-99<=a/\a<=99/\-99<=b/\b<=99/\-99<=c/\c<=99/\-99<=d/\d<=99
 | _=>False
def ak4(p q e f g r s h i j t u l d2 m v w n d3 o:Int):List Int->Int->Prop
 | [k,a,b,c,d],x=>(x=1/\(e<=a+k/\a+k+g<=f/\h<=b+k/\b+k+j<=i/\l<=c+k/\c+k+m<=d2/\n<=d+k/\d+k+o<=d3))∨(x=0/\¬(e<=a+k/\a+k+g<=f/\h<=b+k/\b+k+j<=i/\l<=c+k/\c+k+m<=d2/\n<=d+k/\d+k+o<=d3))
 | _,_=>False
noncomputable def aiC(c d e f g i j k l m o p q d2 r s t u d3 v w y:Int)(z A B:Nat)(C D E:Array Value)(F:Option Addr):Ct:=⟨10,fun a h=>uh a 2::OG h (nth a.toList 1),21,fun b=>(20,⟨.cells ⟨b.tail.map fun n=>zJ n⟩ 3 (0,0),some 8,false,1⟩)::L4 (AO c d e f g i j k l m o p q d2 r s t u d3 v) C D E,fun b=>⟨[bm w y (some ⟨0,0,none⟩) 4 z F A B,zS 20 4 4,zJ (b.headD 0)]⟩,ak3,ak4 c d e f g i j k l m o p q d2 r s t u d3 v,fun _ x=>.bool (decide (x=1))⟩
section
variable{l m n o e f g a1 p c1 d1 h q r c2 d2 i s t c3 d3 j a b c d k:Int}{u w y:Nat}{z A B:Array Value}{C:Option Addr}
theorem ZF(Q:Value->Prop)(K:AS->Prop):tx (aY []) Q K (.val 7 6 25 (.br 0 4 29 (.ret 17 1) (.val 5 2 36 (.val 1 2 39 (.br 2 2 43 (.ret 3 1) (.val 9 6 25 ad5)))))) ⟨aN.enter Tryz.prog 10 ⟨[(bm l m (some ⟨0,0,none⟩) 4 u C w y),zS 20 4 4,zJ k]⟩,[],fF 21 ((20,⟨.cells ⟨[zJ a,zJ b,zJ c,zJ d]⟩ 3 (0,0),some 8,false,1⟩)::L4 (AO n o e f g a1 p c1 d1 h q r c2 d2 i s t c3 d3 j) z A B)⟩=(∀D,D=wi (a+k)->BR (decide (D<e)) (Q (.bool false)) (∀E,E=wi (a+k)->∀F,F=wi (E+g)->BR (decide (F>f)) (Q (.bool false)) (∀H,H=wi (b+k)->BR (decide (H<c1)) (Q (.bool false)) (∀J,J=wi (b+k)->∀L,L=wi (J+h)->BR (decide (L>d1)) (Q (.bool false)) (∀M,M=wi (c+k)->BR (decide (M<c2)) (Q (.bool false)) (∀N,N=wi (c+k)->∀O,O=wi (N+i)->BR (decide (O>d2)) (Q (.bool false)) (∀P,P=wi (d+k)->BR (decide (P<c3)) (Q (.bool false)) (∀v,v=wi (d+k)->∀x,x=wi (v+j)->BR (decide (x>d3)) (Q (.bool false)) (Q (.bool true)))))))))):=by kernel_rfl
theorem af2(D:0<=e/\e<=f/\f<=199/\0<=g/\g<=199/\0<=c1/\c1<=d1/\d1<=199/\0<=h/\h<=199/\0<=c2/\c2<=d2/\d2<=199/\0<=i/\i<=199/\0<=c3/\c3<=d3/\d3<=199/\0<=j/\j<=199)(E:-40000<=k/\k<=40000/\-99<=a/\a<=99/\-99<=b/\b<=99/\-99<=c/\c<=99/\-99<=d/\d<=99):dQ Tryz.prog (fun v _=>∃x:Int,((x=1/\(e<=a+k/\a+k+g<=f/\c1<=b+k/\b+k+h<=d1/\c2<=c+k/\c+k+i<=d2/\c3<=d+k/\d+k+j<=d3))∨(x=0/\¬(e<=a+k/\a+k+g<=f/\c1<=b+k/\b+k+h<=d1/\c2<=c+k/\c+k+i<=d2/\c3<=d+k/\d+k+j<=d3)))/\v=.bool (decide (x=1))) ⟨aN.enter Tryz.prog 10 ⟨[(bm l m (some ⟨0,0,none⟩) 4 u C w y),zS 20 4 4,zJ k]⟩,[],fF 21 ((20,⟨.cells ⟨[zJ a,zJ b,zJ c,zJ d]⟩ 3 (0,0),some 8,false,1⟩)::L4 (AO n o e f g a1 p c1 d1 h q r c2 d2 i s t c3 d3 j) z A B)⟩:=by
 refine bz (bf gX) (ZF _ _) ?_;iterate 19 (first|refine BR.mk (fun _=>fun _=>⟨0,.inr ⟨rfl,by omega⟩,rfl⟩) fun _=>?_|refine va fun _ _=>?_)
 refine BR.mk (fun _=>?_) fun _=>fun _=>⟨1,.inl ⟨rfl,by omega⟩,rfl⟩
 exact fun _=>⟨0,.inr ⟨rfl,by omega⟩,rfl⟩
end
section
variable{pw qs a0 b0 c0 d0 e0 a1 b1 c1 d1 e1 a2 b2 c2 d2 e2 a3 b3 c3 d3 e3:Int}{cp a ct:Nat}{c sc kc:Array Value}{b:Option Addr}
theorem ZG(Q:Value->Prop)(K:AS->Prop):∀v0:Bool,v0=((decide (pw=pw)&&(decide (qs=qs)&&(decide (cp=cp)&&(((decide (b=b)&&decide (a=a))&&decide (ct=ct))&&true))))&&true)->tx (aY []) Q K (.val 13 11 20 (.val 4 7 13 (.rk 2 0 (.val 5 11 20 (.val 4 7 13 (.br 2 2 18 .no (.val 14 11 20 (.val 4 7 13 (.rk 2 0 (.val 5 11 20 (.val 4 7 13 (.br 2 2 18 Zz Zz)))))))))))) ⟨aN.enter Tryz.prog 37 ⟨[(bm pw qs (some ⟨0,0,none⟩) 4 cp b a ct)]⟩,[],fF 4 (L4 (AO a0 b0 c0 d0 e0 a1 b1 c1 d1 e1 a2 b2 c2 d2 e2 a3 b3 c3 d3 e3) c sc kc)⟩=(∀z,z=wi (d0-e0)->∀A,A=wi (z-c0)->RK (v0) (∀B,B=wi (d0-e0)->∀C,C=wi (B-c0)->BR (decide (A<C)) (False) (∀D,D=wi (d1-e1)->∀E,E=wi (D-c1)->RK (v0) (∀F,F=wi (d0-e0)->∀H,H=wi (F-c0)->BR (decide (E<H)) (∀J,J=wi (d2-e2)->∀L,L=wi (J-c2)->RK (v0) (∀d,d=wi (d1-e1)->∀e,e=wi (d-c1)->BR (decide (L<e)) (∀f,f=wi (d3-e3)->∀g,g=wi (f-c3)->RK (v0) (∀h,h=wi (d2-e2)->∀i,i=wi (h-c2)->BR (decide (g<i)) (Q (zJ 3)) (Q (zJ 2)))) (∀j,j=wi (d3-e3)->∀k,k=wi (j-c3)->RK (v0) (∀l,l=wi (d1-e1)->∀m,m=wi (l-c1)->BR (decide (k<m)) (Q (zJ 3)) (Q (zJ 1)))))) (∀n,n=wi (d2-e2)->∀o,o=wi (n-c2)->RK (v0) (∀p,p=wi (d0-e0)->∀q,q=wi (p-c0)->BR (decide (o<q)) (∀r,r=wi (d3-e3)->∀s,s=wi (r-c3)->RK (v0) (∀t,t=wi (d2-e2)->∀u,u=wi (t-c2)->BR (decide (s<u)) (Q (zJ 3)) (Q (zJ 2)))) (∀v,v=wi (d3-e3)->∀w,w=wi (v-c3)->RK (v0) (∀x,x=wi (d0-e0)->∀y,y=wi (x-c0)->BR (decide (w<y)) (Q (zJ 3)) (Q (zJ 0)))))))))):=by
 rintro _ rfl;kernel_rfl
set_option maxHeartbeats 4000000 in
theorem af4(d:0<=c0/\c0<=d0/\d0<=199/\0<=e0/\e0<=199/\0<=c1/\c1<=d1/\d1<=199/\0<=e1/\e1<=199/\0<=c2/\c2<=d2/\d2<=199/\0<=e2/\e2<=199/\0<=c3/\c3<=d3/\d3<=199/\0<=e3/\e3<=199):dQ Tryz.prog (fun v _=>∃x:Int,((x=0/\d0-e0-c0<=d1-e1-c1/\d0-e0-c0<=d2-e2-c2/\d0-e0-c0<=d3-e3-c3)∨(x=1/\d1-e1-c1<d0-e0-c0/\d1-e1-c1<=d2-e2-c2/\d1-e1-c1<=d3-e3-c3)∨(x=2/\d2-e2-c2<d0-e0-c0/\d2-e2-c2<d1-e1-c1/\d2-e2-c2<=d3-e3-c3)∨(x=3/\d3-e3-c3<d0-e0-c0/\d3-e3-c3<d1-e1-c1/\d3-e3-c3<d2-e2-c2))/\v=zJ x) ⟨aN.enter Tryz.prog 37 ⟨[(bm pw qs (some ⟨0,0,none⟩) 4 cp b a ct)]⟩,[],fF 4 (L4 (AO a0 b0 c0 d0 e0 a1 b1 c1 d1 e1 a2 b2 c2 d2 e2 a3 b3 c3 d3 e3) c sc kc)⟩:=by
 refine bz (bf gX) (ZG _ _ _ rfl) ?_;iterate 11 (first|refine BR.rr ?_|refine va fun _ _=>?_|refine⟨by simp,?_⟩)
 refine BR.mk (fun _=>?_) (fun _=>?_)
 ·
  iterate 5 (first|refine va fun _ _=>?_|refine⟨by simp,?_⟩)
  refine BR.mk (fun _=>?_) (fun _=>?_)
  ·
   iterate 5 (first|refine va fun _ _=>?_|refine⟨by simp,?_⟩)
   refine BR.mk (fun _=>?_) fun _=>fun _=>⟨2,.inr (.inr (.inl ⟨rfl,by omega⟩)),rfl⟩
   exact fun _=>⟨3,.inr (.inr (.inr (⟨rfl,by omega⟩))),rfl⟩
  iterate 5 (first|refine va fun _ _=>?_|refine⟨by simp,?_⟩)
  refine BR.mk (fun _=>?_) fun _=>fun _=>⟨1,.inr (.inl ⟨rfl,by omega⟩),rfl⟩
  exact fun _=>⟨3,.inr (.inr (.inr (⟨rfl,by omega⟩))),rfl⟩
 iterate 5 (first|refine va fun _ _=>?_|refine⟨by simp,?_⟩)
 refine BR.mk (fun _=>?_) (fun _=>?_)
 ·
  iterate 5 (first|refine va fun _ _=>?_|refine⟨by simp,?_⟩)
  refine BR.mk (fun _=>?_) fun _=>fun _=>⟨2,.inr (.inr (.inl ⟨rfl,by omega⟩)),rfl⟩
  exact fun _=>⟨3,.inr (.inr (.inr (⟨rfl,by omega⟩))),rfl⟩
 iterate 5 (first|refine va fun _ _=>?_|refine⟨by simp,?_⟩)
 refine BR.mk (fun _=>?_) fun _=>fun _=>⟨0,.inl ⟨rfl,by omega⟩,rfl⟩
 exact fun _=>⟨3,.inr (.inr (.inr (⟨rfl,by omega⟩))),rfl⟩
end
section
variable{d e shift more:Int}{f a g i j b:Nat}{op h ok:Option Addr}
theorem OM:∀v0:Value,v0=(bm d e op b f h a g)->tx (aY [⟨13,fun _ _=>[],4,fun _=>[],fun _=>⟨[v0]⟩,fun _=>True,fun _ x=>(¬x=0),fun _ x=>zJ x⟩]) (fun _=>False) zC ad4 ⟨aN.enter Tryz.prog 3 ⟨[v0,.slice ok i j,.int .i16 shift,.int .u8 more]⟩,[],fF 4 []⟩=(∀c,c=((b:Nat):Int)->BR (decide (c>20)) ((true=true)) (∀k,k=((a:Nat):Int)->BR (decide (k>20)) ((true=true)) (((AE ⟨[v0]⟩)/\(True)/\True)/\∀l:Int,(¬l=0)->RK (true) (BR (decide (l=0)) (False) ((true=true)))))):=by
 rintro _ rfl;kernel_rfl
set_option maxHeartbeats 4000000 in
theorem ZH(k:∀c∈([⟨13,fun _ _=>[],4,fun _=>[],fun _=>⟨[(bm d e op b f h a g)]⟩,fun _=>True,fun _ x=>(¬x=0),fun _ x=>zJ x⟩]:List Ct),gW Tryz.prog c):aJ Tryz.prog zC ⟨aN.enter Tryz.prog 3 ⟨[(bm d e op b f h a g),.slice ok i j,.int .i16 shift,.int .u8 more]⟩,[],fF 4 []⟩:=by
 refine bW (bf k) (OM _ rfl) ?_;intro l _;refine BR.mk (fun _=>?_) (fun _=>?_)
 ·
  exact rfl
 intro m _;refine BR.mk (fun _=>?_) (fun _=>?_)
 ·
  exact rfl
 refine⟨⟨rfl,trivial,trivial⟩,fun n o=>⟨rfl,?_⟩⟩;refine BR.rr ?_;exact rfl
end
section
variable{pw qs shift more:Int}{cp d ct g h e:Nat}{op f ok:Option Addr}{a b sc kc:Array Value}
theorem OQ:∀v0:Value,v0=(bm pw qs op e cp f d ct)->tx (aY [⟨13,fun _ _=>[],4,fun _=>L4 a b sc kc,fun _=>⟨[v0]⟩,fun _=>True,fun _ x=>(¬x=0),fun _ x=>zJ x⟩]) (fun _=>False) zC ad4 ⟨aN.enter Tryz.prog 3 ⟨[v0,.slice ok g h,.int .i16 shift,.int .u8 more]⟩,[],fF 4 (L4 a b sc kc)⟩=(∀c,c=((e:Nat):Int)->BR (decide (c>20)) ((true=true)) (∀i,i=((d:Nat):Int)->BR (decide (i>20)) ((true=true)) (((AE ⟨[v0]⟩)/\(E4 a b sc kc)/\True)/\∀j:Int,(¬j=0)->RK (true) (BR (decide (j=0)) (False) ((true=true)))))):=by
 rintro _ rfl;kernel_rfl
set_option maxHeartbeats 4000000 in
theorem DW(i:∀c∈([⟨13,fun _ _=>[],4,fun _=>L4 a b sc kc,fun _=>⟨[(bm pw qs op e cp f d ct)]⟩,fun _=>True,fun _ x=>(¬x=0),fun _ x=>zJ x⟩]:List Ct),gW Tryz.prog c):aJ Tryz.prog zC ⟨aN.enter Tryz.prog 3 ⟨[(bm pw qs op e cp f d ct),.slice ok g h,.int .i16 shift,.int .u8 more]⟩,[],fF 4 (L4 a b sc kc)⟩:=by
 refine bW (bf i) (OQ _ rfl) ?_;intro j _;refine BR.mk (fun _=>?_) (fun _=>?_)
 ·
  exact rfl
 intro k _;refine BR.mk (fun _=>?_) (fun _=>?_)
 ·
  exact rfl
 refine⟨⟨rfl,iE,trivial⟩,fun l m=>⟨rfl,?_⟩⟩;refine BR.rr ?_;exact rfl
end
end Go.Am
namespace Go.Am
open Go.Proofs
def uk:List (Int×Int×Int×Int×Int)->List Value
 | []=>[]
 | (a,b,c,d,e)::r=>zJ a::zJ b::zJ c::zJ d::zJ e::uk r
def encR:List (Int×Int×Int)->List Value
 | []=>[]
 | (f,a,b)::r=>zJ f::zJ a::zJ b::encR r
def rG:List Int->List Value
 | []=>[]
 | n::r=>.int .u16 n::rG r
theorem oC:∀l,∀x∈uk l,Plain x
 | [],x,h=>absurd h List.not_mem_nil
 | (a,b,c,d,e)::r,x,h=>by
   simp only[uk,List.mem_cons]at h;rcases h with rfl|rfl|rfl|rfl|rfl|h;iterate 5 exact .int _ _
   exact oC r x h
theorem oD:∀l,∀x∈encR l,Plain x
 | [],x,h=>absurd h List.not_mem_nil
 | (f,t,a)::r,x,h=>by
   simp only[encR,List.mem_cons]at h;rcases h with rfl|rfl|rfl|h;iterate 3 exact .int _ _
   exact oD r x h
theorem kZ:∀l,∀x∈rG l,Plain x
 | [],x,h=>absurd h List.not_mem_nil
 | n::r,x,h=>by
   simp only[rG,List.mem_cons]at h;rcases h with rfl|h
   ·exact .int _ _
   ·exact kZ r x h
theorem acz{b c sc kc:Array Value}(d:∀x∈b,Plain x)(e:∀x∈c,Plain x)(f:∀x∈sc,Plain x)(g:∀x∈kc,Plain x):Xa 4 (L4 b c sc kc):=by
 refine⟨fun p a=>?_,fun p a=>?_,by simp[L4]⟩
 · simp only[L4,List.mem_cons,List.not_mem_nil,or_false]at a;rcases a with rfl|rfl|rfl|rfl<;>simp
 · simp only[L4,List.mem_cons,List.not_mem_nil,or_false]at a;rcases a with rfl|rfl|rfl|rfl
   ·exact⟨b,_,_,rfl,d⟩
   ·exact⟨c,_,_,rfl,e⟩
   ·exact⟨sc,_,_,rfl,f⟩
   ·exact⟨kc,_,_,rfl,g⟩
theorem Xa.cons{b:Bool}{N m:Nat}{L:List (Nat×cZ)}{c:Array Value}{e f u:Nat}(S:Xa m L)(h:m<=N)(d:∀x∈c,Plain x):Xa (N+1) ((N,⟨.cells c e (0,0),some f,b,u⟩)::L):=by
 refine⟨fun p a=>?_,fun p a=>?_,?_⟩
 · rcases List.mem_cons.1 a with rfl|a
   ·exact Nat.lt_succ_self N
   ·have:=S.lt p a;omega
 · rcases List.mem_cons.1 a with rfl|a
   ·exact⟨c,_,_,rfl,d⟩
   ·exact S.plain p a
 · simp only[List.map_cons,List.nodup_cons]
   refine⟨fun g=>?_,S.nodup⟩;obtain⟨p,i,j⟩:=List.mem_map.1 g;have:=S.lt p i
   omega
theorem wK(l:List Int):∀x∈(⟨l.map fun n=>zJ n⟩:Array Value),Plain x:=fun x a=>by
 simp only[List.mem_toArray,List.mem_map]at a;obtain⟨n,_,rfl⟩:=a
 exact .int _ _
theorem af5{p:Nat->Prop}{o:Option Addr}{n c:Nat}(h:∀a,o=some a->p a.block):pW p (.slice o n c):=by
 cases o with
 | none=>exact .nilslice n c
 | some a=>exact .slice (h a rfl)
def Bf(b:Nat)(n:Nat)(o:Option Addr):Prop:=(n≠0->o=some ⟨b,0,none⟩)/\∀a,o=some a->a.block=b
theorem Bf.ok{b n c m:Nat}{o:Option Addr}(h:Bf b n o)(d:b<m):pW (· <m) (.slice o n c):=af5 fun a e=>by rw[h.2 a e];exact d
theorem OT{m a b c1 c2:Nat}{pw qs:Int}{c d:Option Addr}(h:2<=m)(f:Bf 0 a c)(g:Bf 1 b d):pW (· <m) (bm pw qs c a c1 d b c2):=by
 refine .agg fun x e=>?_
 simp only[List.mem_toArray,List.mem_cons,List.not_mem_nil,or_false]at e;rcases e with rfl|rfl|rfl|rfl;iterate 2 exact .int _ _
 · exact f.ok (by omega)
 · exact g.ok (by omega)
theorem mem1{b:Type}{a x:b}(h:x∈(⟨[a]⟩:Array b)):x=a:=by simpa using h
theorem hz0{b:Nat}:Bf 0 b (some ⟨0,0,none⟩):=⟨fun _=>rfl,fun a e=>by cases e;rfl⟩
section
variable{pw qs:Int}{k sc kc tc:Array Value}{op i ok:Option Addr}{cp ct ck j:Nat}{g:List (Int×Int×Int)}
theorem OU{s:AS}{V W:Prop}(h:V->W)(r:dQ Tryz.prog (fun v _=>∃x:Int,(x=0->V)/\v=zJ x) s):dQ Tryz.prog (fun v _=>∃x:Int,(x=0->W)/\v=zJ x) s:=
 r.mono fun v _ ⟨x,a,b⟩=>⟨x,fun e=>h (a e),b⟩
theorem ck2{a0 b0 c0 d0 e0 a1 b1 c1 d1 e1:Int}(e:Bf 1 g.length i):dQ Tryz.prog (fun v _=>∃x:Int,(x=0->Hd pw qs/\pR [(a0,b0,c0,d0,e0),(a1,b1,c1,d1,e1)]/\g.length<=3/\pU 2 g)/\v=zJ x) ⟨aN.enter Tryz.prog 13 ⟨[bm pw qs (some ⟨0,0,none⟩) 2 cp i g.length ct]⟩,[],fF 4 (L4 ⟨uk [(a0,b0,c0,d0,e0),(a1,b1,c1,d1,e1)]⟩ ⟨encR g⟩ sc kc)⟩:=by
 match g,e with
 | [],e=>exact OU (fun h=>⟨h.1,h.2.1,by simp,h.2.2⟩) ack
 | [(f,l,v0)],e=>obtain rfl:=e.1 (by simp);exact OU (fun h=>⟨h.1,h.2.1,by simp,h.2.2⟩) acm
 | [(f,l,v0),(m,n,o)],e=>obtain rfl:=e.1 (by simp);exact OU (fun h=>⟨h.1,h.2.1,by simp,h.2.2⟩) acn
 | [(f,l,v0),(m,n,o),(p,q,s)],e=>obtain rfl:=e.1 (by simp);exact OU (fun h=>⟨h.1,h.2.1,by simp,h.2.2⟩) aco
 | a::b::c::d::r,e=>exact OU False.elim (acp (nt:=r.length+4) (by omega))
theorem ck3{a0 b0 c0 d0 e0 a1 b1 c1 d1 e1 a2 b2 c2 d2 e2:Int}(e:Bf 1 g.length i):dQ Tryz.prog (fun v _=>∃x:Int,(x=0->Hd pw qs/\pR [(a0,b0,c0,d0,e0),(a1,b1,c1,d1,e1),(a2,b2,c2,d2,e2)]/\g.length<=3/\pU 3 g)/\v=zJ x) ⟨aN.enter Tryz.prog 13 ⟨[bm pw qs (some ⟨0,0,none⟩) 3 cp i g.length ct]⟩,[],fF 4 (L4 ⟨uk [(a0,b0,c0,d0,e0),(a1,b1,c1,d1,e1),(a2,b2,c2,d2,e2)]⟩ ⟨encR g⟩ sc kc)⟩:=by
 match g,e with
 | [],e=>exact OU (fun h=>⟨h.1,h.2.1,by simp,h.2.2⟩) acr
 | [(f,l,v0)],e=>obtain rfl:=e.1 (by simp);exact OU (fun h=>⟨h.1,h.2.1,by simp,h.2.2⟩) acs
 | [(f,l,v0),(m,n,o)],e=>obtain rfl:=e.1 (by simp);exact OU (fun h=>⟨h.1,h.2.1,by simp,h.2.2⟩) acu
 | [(f,l,v0),(m,n,o),(p,q,s)],e=>obtain rfl:=e.1 (by simp);exact OU (fun h=>⟨h.1,h.2.1,by simp,h.2.2⟩) acv
 | a::b::c::d::r,e=>exact OU False.elim (acw (nt:=r.length+4) (by omega))
theorem ck4{a0 b0 c0 d0 e0 a1 b1 c1 d1 e1 a2 b2 c2 d2 e2 a3 b3 c3 d3 e3:Int}(e:Bf 1 g.length i):dQ Tryz.prog (fun v _=>∃x:Int,(x=0->Hd pw qs/\pR [(a0,b0,c0,d0,e0),(a1,b1,c1,d1,e1),(a2,b2,c2,d2,e2),(a3,b3,c3,d3,e3)]/\g.length<=3/\pU 4 g)/\v=zJ x) ⟨aN.enter Tryz.prog 13 ⟨[bm pw qs (some ⟨0,0,none⟩) 4 cp i g.length ct]⟩,[],fF 4 (L4 ⟨uk [(a0,b0,c0,d0,e0),(a1,b1,c1,d1,e1),(a2,b2,c2,d2,e2),(a3,b3,c3,d3,e3)]⟩ ⟨encR g⟩ sc kc)⟩:=by
 match g,e with
 | [],e=>exact OU (fun h=>⟨h.1,h.2.1,by simp,h.2.2⟩) ace
 | [(f,l,v0)],e=>obtain rfl:=e.1 (by simp);exact OU (fun h=>⟨h.1,h.2.1,by simp,h.2.2⟩) acf
 | [(f,l,v0),(m,n,o)],e=>obtain rfl:=e.1 (by simp);exact OU (fun h=>⟨h.1,h.2.1,by simp,h.2.2⟩) acg
 | [(f,l,v0),(m,n,o),(p,q,s)],e=>obtain rfl:=e.1 (by simp);exact OU (fun h=>⟨h.1,h.2.1,by simp,h.2.2⟩) ach
 | a::b::c::d::r,e=>exact OU False.elim (aci (nt:=r.length+4) (by omega))
theorem ecR(f:2<=j/\j<=4)(l:g.length<=3)(e:pU j g)(h:Bf 1 g.length i):dQ Tryz.prog (fun v _=>∃x:Int,x=0/\v=zJ x) ⟨aN.enter Tryz.prog 107 ⟨[zJ ((g.length:Nat):Int),.func (.func 109) ⟨[bm pw qs op j cp i g.length ct]⟩ ⟨[]⟩]⟩,[],fF 4 (L4 k ⟨encR g⟩ sc kc)⟩:=by
 match g,h,e,l with
 | [],h,e,l=>exact afT f e
 | [(m,n,o)],h,e,l=>obtain rfl:=h.1 (by simp);exact afU f e
 | [(m,n,o),(p,q,s)],h,e,l=>obtain rfl:=h.1 (by simp);exact afV f e
 | [(m,n,o),(p,q,s),(t,u,w)],h,e,l=>obtain rfl:=h.1 (by simp);exact afW f e
 | a::b::c::d::r,h,e,l=>exact absurd l (by simp)
theorem snR(q:Hd pw qs)(a:2<=j/\j<=4)(e:g.length<=3)(r:pU j g)(l:Bf 1 g.length i)(m:Xa 4 (L4 k ⟨encR g⟩ sc kc))(d:dQ Tryz.prog (fun v _=>∃x:Int,x=0/\v=zJ x) ⟨aN.enter Tryz.prog 107 ⟨[zJ ((j:Nat):Int),.func (.func 108) ⟨[bm pw qs (some ⟨0,0,none⟩) j cp i g.length ct]⟩ ⟨[]⟩]⟩,[],fF 4 (L4 k ⟨encR g⟩ sc kc)⟩):dQ Tryz.prog (fun v _=>∃x:Int,x=0/\v=zJ x) ⟨aN.enter Tryz.prog 67 ⟨[bm pw qs (some ⟨0,0,none⟩) j cp i g.length ct]⟩,[],fF 4 (L4 k ⟨encR g⟩ sc kc)⟩:=by
 have b:∀(f:Nat) (n:Int),∀x∈(⟨[zJ n,.func (.func f) ⟨[bm pw qs (some ⟨0,0,none⟩) j cp i g.length ct]⟩ ⟨[]⟩]⟩:Array Value),pW (· <4) x:=fun f n x o=>by
   simp only[List.mem_toArray,List.mem_cons,List.not_mem_nil,or_false]at o;rcases o with rfl|rfl
   ·exact .int _ _
   ·exact .func trivial (fun x h=>by rw[mem1 h];exact OT (by decide) hz0 l) (fun x h=>by simp at h)
 refine aix q a e (jF ⟨fun p c=>?_,fun _ _=>m,fun p=>b 108 _,fun _ _ _ _=>.int _ _⟩ (jF ⟨fun p c=>?_,fun _ _=>m,fun p=>b 109 _,fun _ _ _ _=>.int _ _⟩ gX))
 · dsimp only at c⊢;rw[c];exact d
 · dsimp only at c⊢;rw[c];exact ecR a e r l
end
theorem DX{u v sc:Array Value}{w:Option Addr}{z:Nat}{d:List Int}(h:∀x∈u,Plain x)(j:∀x∈v,Plain x)(o:∀x∈sc,Plain x)(b:Bf 3 d.length w)(c:∀n∈d,0<=n/\n<=65535):
   gW Tryz.prog ⟨6,fun a _=>[uh a 1],4,fun _=>L4 u v sc ⟨rG d⟩,fun A=>⟨[.slice w d.length z,zJ (A.headD 0)]⟩,fun _=>True,fun _ x=>(0<=x/\x<=65535),fun _ x=>zJ x⟩:=by
 refine⟨fun p _=>?_,fun _ _=>acz h j o (fun x g=>kZ d x (by simpa using g)),fun p x g=>?_,fun _ _ x _=>.int _ _⟩
 · dsimp only
   generalize p.headD 0=k
   match d,b,c with
   | [],b,c=>exact afX
   |n::r,b,c=>
    obtain rfl:=b.1 (by simp);refine aiz fun i f=>?_
    have q:∀(l:List Int) (i:Nat),i<l.length->nth (rG l) i=some (.int .u16 (l.getD i 0))/\l.getD i 0∈l:=by
     intro l;induction l with
     |nil=>intro i f;exact absurd f (Nat.not_lt_zero _)
     |cons a l B=>
      intro i f;cases i with
      |zero=>exact⟨rfl,by simp⟩
      |succ i=>
       obtain⟨s,t⟩:=B i (by simpa using f)
       have e:(a::l).getD (i+1) 0=l.getD i 0:=by simp[List.getD]
       rw[e];exact⟨s,.tail _ t⟩
    obtain⟨s,t⟩:=q (n::r) i f
    exact⟨_,s,c _ t⟩
 · simp only[List.mem_toArray,List.mem_cons,List.not_mem_nil,or_false]at g;rcases g with rfl|rfl
   ·exact b.ok (m:=4) (by decide)
   ·exact .int _ _
theorem aiD{a0 b0 c0 d0 e0 a1 b1 c1 d1 e1 pw qs:Int}{cp c ct:Nat}{d sc kc:Array Value}{e:Option Addr}(f:0<=c0/\c0<=d0/\d0<=199/\0<=e0/\e0<=199/\0<=c1/\c1<=d1/\d1<=199/\0<=e1/\e1<=199)(g:Xa 4 (L4 (zf a0 b0 c0 d0 e0 a1 b1 c1 d1 e1) d sc kc))(h:Bf 1 c e):gW Tryz.prog (aiA a0 b0 c0 d0 e0 a1 b1 c1 d1 e1 pw qs cp c ct d sc kc e):=by
 refine⟨fun p a=>?_,fun p a=>g.cons (by decide) (wK _),fun p x b=>?_,fun _ _ _ _=>.bool _⟩
 · rcases p with _|⟨k,_|⟨i,_|⟨j,_|_⟩⟩⟩<;>first|exact a.elim|skip
   exact afY f a
 · change x∈(⟨[_,_,_]⟩:Array Value)at b;simp only[List.mem_toArray,List.mem_cons,List.not_mem_nil,or_false]at b;rcases b with rfl|rfl|rfl
   ·exact OT (m:=13) (by decide) hz0 h
   ·exact .slice (p:=(· <13)) (show 12<13 by decide)
   ·exact .int _ _
theorem aiE{a0 b0 c0 d0 e0 a1 b1 c1 d1 e1 a2 b2 c2 d2 e2 pw qs:Int}{cp c ct:Nat}{d sc kc:Array Value}{e:Option Addr}(f:0<=c0/\c0<=d0/\d0<=199/\0<=e0/\e0<=199/\0<=c1/\c1<=d1/\d1<=199/\0<=e1/\e1<=199/\0<=c2/\c2<=d2/\d2<=199/\0<=e2/\e2<=199)(g:Xa 4 (L4 (AL a0 b0 c0 d0 e0 a1 b1 c1 d1 e1 a2 b2 c2 d2 e2) d sc kc))(h:Bf 1 c e):gW Tryz.prog (aiB a0 b0 c0 d0 e0 a1 b1 c1 d1 e1 a2 b2 c2 d2 e2 pw qs cp c ct d sc kc e):=by
 refine⟨fun p a=>?_,fun p a=>g.cons (by decide) (wK _),fun p x b=>?_,fun _ _ _ _=>.bool _⟩
 · rcases p with _|⟨k,_|⟨i,_|⟨j,_|⟨l,_|_⟩⟩⟩⟩<;>first|exact a.elim|skip
   exact af0 f a
 · change x∈(⟨[_,_,_]⟩:Array Value)at b;simp only[List.mem_toArray,List.mem_cons,List.not_mem_nil,or_false]at b;rcases b with rfl|rfl|rfl
   ·exact OT (m:=17) (by decide) hz0 h
   ·exact .slice (p:=(· <17)) (show 16<17 by decide)
   ·exact .int _ _
theorem aiF{a0 b0 c0 d0 e0 a1 b1 c1 d1 e1 a2 b2 c2 d2 e2 a3 b3 c3 d3 e3 pw qs:Int}{cp c ct:Nat}{d sc kc:Array Value}{e:Option Addr}(f:0<=c0/\c0<=d0/\d0<=199/\0<=e0/\e0<=199/\0<=c1/\c1<=d1/\d1<=199/\0<=e1/\e1<=199/\0<=c2/\c2<=d2/\d2<=199/\0<=e2/\e2<=199/\0<=c3/\c3<=d3/\d3<=199/\0<=e3/\e3<=199)(g:Xa 4 (L4 (AO a0 b0 c0 d0 e0 a1 b1 c1 d1 e1 a2 b2 c2 d2 e2 a3 b3 c3 d3 e3) d sc kc))(h:Bf 1 c e):gW Tryz.prog (aiC a0 b0 c0 d0 e0 a1 b1 c1 d1 e1 a2 b2 c2 d2 e2 a3 b3 c3 d3 e3 pw qs cp c ct d sc kc e):=by
 refine⟨fun p a=>?_,fun p a=>g.cons (by decide) (wK _),fun p x b=>?_,fun _ _ _ _=>.bool _⟩
 · rcases p with _|⟨k,_|⟨i,_|⟨j,_|⟨l,_|⟨n,_|_⟩⟩⟩⟩⟩<;>first|exact a.elim|skip
   exact af2 f a
 · change x∈(⟨[_,_,_]⟩:Array Value)at b;simp only[List.mem_toArray,List.mem_cons,List.not_mem_nil,or_false]at b;rcases b with rfl|rfl|rfl
   ·exact OT (m:=21) (by decide) hz0 h
   ·exact .slice (p:=(· <21)) (show 20<21 by decide)
   ·exact .int _ _
end Go.Am
