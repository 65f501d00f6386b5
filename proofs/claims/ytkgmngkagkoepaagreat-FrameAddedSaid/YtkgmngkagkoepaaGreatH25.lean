import Derived.Test.YtkgmngkagkoepaaGreatH23
import Derived.Test.YtkgmngkagkoepaaGreatH24
set_option linter.all false
namespace Go.Am
open Go.Proofs
noncomputable def aJ(a:List Ct):TX:=⟨Tryz.prog,bQ,bJ,ctI a⟩
noncomputable abbrev zC:AS->Prop:=fun s=>QY (aJ []) 3 5 s=true
theorem aC{a:List Ct}(h:∀c∈a,aX Tryz.prog c):GK (aJ a):=⟨Xe,Xc,Xd,ae6 (P:=Tryz.prog) h⟩
def ry(p:Int):List (Int×Int×Int)->Prop
 | []=>True
 | (h,l,u)::r=>(p<h/\h<=959/\0<=l/\l<=u/\u<=959/\u-l<3)/\ry h r
def lH(l:List (Int×Int×Int)):Prop:=ry (-1) l
def Tps(c:Int):List (Int×Int×Int×Int)->Prop
 | []=>True
 | (f,t,a,b)::r=>(0<=f/\f<t/\t<c/\0<=a/\a<=b/\b<=9999)/\Tps c r
def Sts(a b:Int):List (Int×Int)->Prop
 | []=>True
 | (g,m)::r=>(a<=g/\g<=b/\0<=m/\m<=959)/\Sts a b r
section
variable{h0 l0 u0 a b c:Int}{d e f:Array Value}{cp:Nat}
abbrev acC:HT:=.br 0 6 16 (.br 0 6 22 (.val 3 7 51 (.br 0 1 52 (.ret 3 1) (.br 8 5 9 (.br 0 4 13 (.br 19 2 36 (.ret 3 1) (.br 5 6 10 (.br 0 6 16 (.br 0 6 22 (.val 3 7 51 (.br 0 1 52 (.ret 3 1) (.br 8 5 9 (.br 0 4 13 (.br 19 2 36 (.ret 3 1) (.br 5 6 10 (.br 0 6 16 (.br 0 6 22 (.val 3 7 51 (.br 0 1 52 (.ret 3 1) (.ret 8 1))) (.ret 6 1)) (.ret 6 1)) (.ret 6 1))) (.ret 6 1)) (.ret 6 1)))) (.ret 6 1)) (.ret 6 1)) (.ret 6 1))) (.ret 6 1)) (.ret 6 1)))) (.ret 6 1)) (.ret 6 1)
abbrev acD:HT:=.br 0 4 10 .no (.br 15 8 8 .no (.br 16 6 10 (.br 0 6 16 (.br 0 6 22 (.val 6 11 17 (.br 0 1 18 .no (.br 31 4 6 .no (.br 0 4 10 .no (.br 15 8 8 .no (.br 16 6 10 (.br 0 6 16 (.br 0 6 22 (.val 6 11 17 (.br 0 1 18 .no (.ret 22 1))) .no) .no) .no)))))) .no) .no) .no))
abbrev acE:HT:=.GH 0 1 .i64 (.val 0 5 15 (.val 0 1 16 (.ov 0 0 (.GH 0 1 .i64 (.br 2 5 9 (.br 0 4 13 (.br 15 5 9 (.br 0 4 13 (.ov 18 3 (.GH 0 1 .i64 (.val 0 5 15 (.val 0 1 16 (.ov 0 0 (.GH 0 1 .i64 (.br 2 5 9 (.br 0 4 13 (.br 15 5 9 (.br 0 4 13 (.ret 12 1) (.ret 7 1)) (.ret 7 1)) (.ret 18 1)) (.ret 18 1)))))))) (.ret 7 1)) (.ret 7 1)) (.ret 18 1)) (.ret 18 1))))))
abbrev acF:HT:=.GH 0 1 .i64 (.br 0 1 12 .no (.val 0 9 21 (.val 0 1 22 (.ov 0 0 (.GH 0 1 .i64 (.br 0 1 26 .no (.br 5 4 6 .no (.br 0 4 10 .no (.ov 17 6 (.GH 0 1 .i64 (.br 0 1 12 .no (.val 0 9 21 (.val 0 1 22 (.ov 0 0 (.GH 0 1 .i64 (.br 0 1 26 .no (.br 5 4 6 .no (.br 0 4 10 .no (.ret 22 1)))))))))))))))))))
abbrev acG:HT:=.br 0 6 16 (.br 0 6 22 (.val 3 7 51 (.br 0 1 52 (.ret 3 1) (.br 8 5 9 (.br 0 4 13 (.br 19 2 36 (.ret 3 1) (.br 5 6 10 acC (.ret 6 1))) (.ret 6 1)) (.ret 6 1)))) (.ret 6 1)) (.ret 6 1)
abbrev acH:HT:=.br 0 4 10 .no (.br 15 8 8 .no (.br 16 6 10 (.br 0 6 16 (.br 0 6 22 (.val 6 11 17 (.br 0 1 18 .no (.br 31 4 6 .no acD))) .no) .no) .no))
theorem Xf(Q:Value->Prop)(K:AS->Prop):tx (aJ []) Q K (.br 13 5 9 (.br 0 4 13 (.br 26 6 10 (.br 0 6 16 (.br 0 6 22 (.val 3 7 51 (.br 0 1 52 (.ret 3 1) (.br 8 5 9 (.br 0 4 13 (.br 19 2 36 (.ret 3 1) (.br 5 6 10 (.br 0 6 16 (.br 0 6 22 (.val 3 7 51 (.br 0 1 52 (.ret 3 1) (.ret 8 1))) (.ret 6 1)) (.ret 6 1)) (.ret 6 1))) (.ret 6 1)) (.ret 6 1)))) (.ret 6 1)) (.ret 6 1)) (.ret 6 1)) (.ret 6 1)) (.ret 6 1)) ⟨ak.enter Tryz.prog 41 ⟨[zS 0 2 cp]⟩,[],bz 4 (L4 ⟨[zJ h0,zJ l0,zJ u0,zJ a,zJ b,zJ c]⟩ d e f)⟩=(BR (decide (0<=h0)) (BR (decide (h0<=959)) (BR (decide (0<=l0)) (BR (decide (l0<=u0)) (BR (decide (u0<=959)) (∀g,g=wi (u0-l0)->BR (decide (g>=3)) (Q (zJ 1)) (BR (decide (0<=a)) (BR (decide (a<=959)) (BR (decide (a<=h0)) (Q (zJ 7)) (BR (decide (0<=b)) (BR (decide (b<=c)) (BR (decide (c<=959)) (∀h,h=wi (c-b)->BR (decide (h>=3)) (Q (zJ 1)) (Q (zJ 0))) (Q (zJ 1))) (Q (zJ 1))) (Q (zJ 1)))) (Q (zJ 1))) (Q (zJ 1)))) (Q (zJ 1))) (Q (zJ 1))) (Q (zJ 1))) (Q (zJ 1))) (Q (zJ 1))):=by kernel_rfl
theorem ae7:bu Tryz.prog (fun v _=>∃x:Int,(x=0->lH [(h0,l0,u0),(a,b,c)])/\v=zJ x) ⟨ak.enter Tryz.prog 41 ⟨[zS 0 2 cp]⟩,[],bz 4 (L4 ⟨[zJ h0,zJ l0,zJ u0,zJ a,zJ b,zJ c]⟩ d e f)⟩:=by
 refine ai (aC bI) (Xf _ _) ?_;iterate 14 (first|refine BR.mk (fun _=>?_) fun _=>zy (by omega)|refine BR.mk (fun _=>zy (by omega)) fun _=>?_|refine va fun _ _=>?_)
 refine BR.mk (fun _=>?_) fun _=>lf0 (by simp only[lH,ry,and_true];omega)
 exact zy (by omega)
end
section
variable{h0 l0 u0 a b c d e f:Int}{g h i:Array Value}{cp:Nat}
theorem Xg(Q:Value->Prop)(K:AS->Prop):tx (aJ []) Q K (.br 13 5 9 (.br 0 4 13 (.br 26 6 10 acC (.ret 6 1)) (.ret 6 1)) (.ret 6 1)) ⟨ak.enter Tryz.prog 41 ⟨[zS 0 3 cp]⟩,[],bz 4 (L4 ⟨[zJ h0,zJ l0,zJ u0,zJ a,zJ b,zJ c,zJ d,zJ e,zJ f]⟩ g h i)⟩=(BR (decide (0<=h0)) (BR (decide (h0<=959)) (BR (decide (0<=l0)) (BR (decide (l0<=u0)) (BR (decide (u0<=959)) (∀j,j=wi (u0-l0)->BR (decide (j>=3)) (Q (zJ 1)) (BR (decide (0<=a)) (BR (decide (a<=959)) (BR (decide (a<=h0)) (Q (zJ 7)) (BR (decide (0<=b)) (BR (decide (b<=c)) (BR (decide (c<=959)) (∀k,k=wi (c-b)->BR (decide (k>=3)) (Q (zJ 1)) (BR (decide (0<=d)) (BR (decide (d<=959)) (BR (decide (d<=a)) (Q (zJ 7)) (BR (decide (0<=e)) (BR (decide (e<=f)) (BR (decide (f<=959)) (∀l,l=wi (f-e)->BR (decide (l>=3)) (Q (zJ 1)) (Q (zJ 0))) (Q (zJ 1))) (Q (zJ 1))) (Q (zJ 1)))) (Q (zJ 1))) (Q (zJ 1)))) (Q (zJ 1))) (Q (zJ 1))) (Q (zJ 1)))) (Q (zJ 1))) (Q (zJ 1)))) (Q (zJ 1))) (Q (zJ 1))) (Q (zJ 1))) (Q (zJ 1))) (Q (zJ 1))):=by kernel_rfl
theorem ae8:bu Tryz.prog (fun v _=>∃x:Int,(x=0->lH [(h0,l0,u0),(a,b,c),(d,e,f)])/\v=zJ x) ⟨ak.enter Tryz.prog 41 ⟨[zS 0 3 cp]⟩,[],bz 4 (L4 ⟨[zJ h0,zJ l0,zJ u0,zJ a,zJ b,zJ c,zJ d,zJ e,zJ f]⟩ g h i)⟩:=by
 refine ai (aC bI) (Xg _ _) ?_;iterate 22 (first|refine BR.mk (fun _=>?_) fun _=>zy (by omega)|refine BR.mk (fun _=>zy (by omega)) fun _=>?_|refine va fun _ _=>?_)
 refine BR.mk (fun _=>?_) fun _=>lf0 (by simp only[lH,ry,and_true];omega)
 exact zy (by omega)
end
section
variable{h0 l0 u0 a c d b e f g h i:Int}{j k l:Array Value}{cp:Nat}
theorem Xh(Q:Value->Prop)(K:AS->Prop):tx (aJ []) Q K (.br 13 5 9 (.br 0 4 13 (.br 26 6 10 acG (.ret 6 1)) (.ret 6 1)) (.ret 6 1)) ⟨ak.enter Tryz.prog 41 ⟨[zS 0 4 cp]⟩,[],bz 4 (L4 ⟨[zJ h0,zJ l0,zJ u0,zJ a,zJ c,zJ d,zJ b,zJ e,zJ f,zJ g,zJ h,zJ i]⟩ j k l)⟩=(BR (decide (0<=h0)) (BR (decide (h0<=959)) (BR (decide (0<=l0)) (BR (decide (l0<=u0)) (BR (decide (u0<=959)) (∀m,m=wi (u0-l0)->BR (decide (m>=3)) (Q (zJ 1)) (BR (decide (0<=a)) (BR (decide (a<=959)) (BR (decide (a<=h0)) (Q (zJ 7)) (BR (decide (0<=c)) (BR (decide (c<=d)) (BR (decide (d<=959)) (∀n,n=wi (d-c)->BR (decide (n>=3)) (Q (zJ 1)) (BR (decide (0<=b)) (BR (decide (b<=959)) (BR (decide (b<=a)) (Q (zJ 7)) (BR (decide (0<=e)) (BR (decide (e<=f)) (BR (decide (f<=959)) (∀o,o=wi (f-e)->BR (decide (o>=3)) (Q (zJ 1)) (BR (decide (0<=g)) (BR (decide (g<=959)) (BR (decide (g<=b)) (Q (zJ 7)) (BR (decide (0<=h)) (BR (decide (h<=i)) (BR (decide (i<=959)) (∀p,p=wi (i-h)->BR (decide (p>=3)) (Q (zJ 1)) (Q (zJ 0))) (Q (zJ 1))) (Q (zJ 1))) (Q (zJ 1)))) (Q (zJ 1))) (Q (zJ 1)))) (Q (zJ 1))) (Q (zJ 1))) (Q (zJ 1)))) (Q (zJ 1))) (Q (zJ 1)))) (Q (zJ 1))) (Q (zJ 1))) (Q (zJ 1)))) (Q (zJ 1))) (Q (zJ 1)))) (Q (zJ 1))) (Q (zJ 1))) (Q (zJ 1))) (Q (zJ 1))) (Q (zJ 1))):=by kernel_rfl
theorem ae9:bu Tryz.prog (fun v _=>∃x:Int,(x=0->lH [(h0,l0,u0),(a,c,d),(b,e,f),(g,h,i)])/\v=zJ x) ⟨ak.enter Tryz.prog 41 ⟨[zS 0 4 cp]⟩,[],bz 4 (L4 ⟨[zJ h0,zJ l0,zJ u0,zJ a,zJ c,zJ d,zJ b,zJ e,zJ f,zJ g,zJ h,zJ i]⟩ j k l)⟩:=by
 refine ai (aC bI) (Xh _ _) ?_;iterate 30 (first|refine BR.mk (fun _=>?_) fun _=>zy (by omega)|refine BR.mk (fun _=>zy (by omega)) fun _=>?_|refine va fun _ _=>?_)
 refine BR.mk (fun _=>?_) fun _=>lf0 (by simp only[lH,ry,and_true];omega)
 exact zy (by omega)
end
section
variable{h0 l0 u0 a d e b f g c h i j k l:Int}{m n o:Array Value}{cp:Nat}
theorem Xi(Q:Value->Prop)(K:AS->Prop):tx (aJ []) Q K (.br 13 5 9 (.br 0 4 13 (.br 26 6 10 (.br 0 6 16 (.br 0 6 22 (.val 3 7 51 (.br 0 1 52 (.ret 3 1) (.br 8 5 9 (.br 0 4 13 (.br 19 2 36 (.ret 3 1) (.br 5 6 10 acG (.ret 6 1))) (.ret 6 1)) (.ret 6 1)))) (.ret 6 1)) (.ret 6 1)) (.ret 6 1)) (.ret 6 1)) (.ret 6 1)) ⟨ak.enter Tryz.prog 41 ⟨[zS 0 5 cp]⟩,[],bz 4 (L4 ⟨[zJ h0,zJ l0,zJ u0,zJ a,zJ d,zJ e,zJ b,zJ f,zJ g,zJ c,zJ h,zJ i,zJ j,zJ k,zJ l]⟩ m n o)⟩=(BR (decide (0<=h0)) (BR (decide (h0<=959)) (BR (decide (0<=l0)) (BR (decide (l0<=u0)) (BR (decide (u0<=959)) (∀p,p=wi (u0-l0)->BR (decide (p>=3)) (Q (zJ 1)) (BR (decide (0<=a)) (BR (decide (a<=959)) (BR (decide (a<=h0)) (Q (zJ 7)) (BR (decide (0<=d)) (BR (decide (d<=e)) (BR (decide (e<=959)) (∀q,q=wi (e-d)->BR (decide (q>=3)) (Q (zJ 1)) (BR (decide (0<=b)) (BR (decide (b<=959)) (BR (decide (b<=a)) (Q (zJ 7)) (BR (decide (0<=f)) (BR (decide (f<=g)) (BR (decide (g<=959)) (∀r,r=wi (g-f)->BR (decide (r>=3)) (Q (zJ 1)) (BR (decide (0<=c)) (BR (decide (c<=959)) (BR (decide (c<=b)) (Q (zJ 7)) (BR (decide (0<=h)) (BR (decide (h<=i)) (BR (decide (i<=959)) (∀s,s=wi (i-h)->BR (decide (s>=3)) (Q (zJ 1)) (BR (decide (0<=j)) (BR (decide (j<=959)) (BR (decide (j<=c)) (Q (zJ 7)) (BR (decide (0<=k)) (BR (decide (k<=l)) (BR (decide (l<=959)) (∀t,t=wi (l-k)->BR (decide (t>=3)) (Q (zJ 1)) (Q (zJ 0))) (Q (zJ 1))) (Q (zJ 1))) (Q (zJ 1)))) (Q (zJ 1))) (Q (zJ 1)))) (Q (zJ 1))) (Q (zJ 1))) (Q (zJ 1)))) (Q (zJ 1))) (Q (zJ 1)))) (Q (zJ 1))) (Q (zJ 1))) (Q (zJ 1)))) (Q (zJ 1))) (Q (zJ 1)))) (Q (zJ 1))) (Q (zJ 1))) (Q (zJ 1)))) (Q (zJ 1))) (Q (zJ 1)))) (Q (zJ 1))) (Q (zJ 1))) (Q (zJ 1))) (Q (zJ 1))) (Q (zJ 1))):=by kernel_rfl
theorem afa:bu Tryz.prog (fun v _=>∃x:Int,(x=0->lH [(h0,l0,u0),(a,d,e),(b,f,g),(c,h,i),(j,k,l)])/\v=zJ x) ⟨ak.enter Tryz.prog 41 ⟨[zS 0 5 cp]⟩,[],bz 4 (L4 ⟨[zJ h0,zJ l0,zJ u0,zJ a,zJ d,zJ e,zJ b,zJ f,zJ g,zJ c,zJ h,zJ i,zJ j,zJ k,zJ l]⟩ m n o)⟩:=by
 refine ai (aC bI) (Xi _ _) ?_;iterate 38 (first|refine BR.mk (fun _=>?_) fun _=>zy (by omega)|refine BR.mk (fun _=>zy (by omega)) fun _=>?_|refine va fun _ _=>?_)
 refine BR.mk (fun _=>?_) fun _=>lf0 (by simp only[lH,ry,and_true];omega)
 exact zy (by omega)
end
section
variable{a:Nat}{op:Option Addr}{b c:Nat}{L:List (Nat×aY)}
theorem Xj(Q:Value->Prop)(K:AS->Prop):tx (aJ []) Q K (.val 1 5 6 (.br 2 5 9 (.br 0 4 13 .no (.ret 6 1)) (.ret 6 1))) ⟨ak.enter Tryz.prog 41 ⟨[.slice op a b]⟩,[],bz c L⟩=(∀d,d=((a:Nat):Int)->BR (decide (2<=d)) (BR (decide (d<=5)) (False) (Q (zJ 2))) (Q (zJ 2))):=by kernel_rfl
theorem afb(d:¬(2<=a/\a<=5)):bu Tryz.prog (fun v _=>∃x:Int,(x=0->False)/\v=zJ x) ⟨ak.enter Tryz.prog 41 ⟨[.slice op a b]⟩,[],bz c L⟩:=by
 refine ai (aC bI) (Xj _ _) ?_;intro e _;refine BR.mk (fun _=>?_) fun _=>zy (by omega)
 refine BR.rr ?_;exact zy (by omega)
end
section
variable{b:Nat}{a:Int}{c tc sc d:Array Value}{e:Value}{op f:Option Addr}{g h:Nat}
theorem Xk(Q:Value->Prop)(K:AS->Prop):tx (aJ []) Q K (.ret 8 1) ⟨ak.enter Tryz.prog 42 ⟨[.agg ⟨[zJ a,.slice op b g,.slice f 0 h,e]⟩]⟩,[],bz 4 (L4 c tc sc d)⟩=(Q (zJ 0)):=by kernel_rfl
theorem afc(i:2<=b/\b<=5):bu Tryz.prog (fun v _=>∃x:Int,(x=0->Tps b [])/\v=zJ x) ⟨ak.enter Tryz.prog 42 ⟨[.agg ⟨[zJ a,.slice op b g,.slice f 0 h,e]⟩]⟩,[],bz 4 (L4 c tc sc d)⟩:=by
 refine ai (aC bI) (Xk _ _) ?_;exact lf0 (by simp only[Tps,and_true]<;>omega)
end
section
variable{b:Nat}{a:Int}{c d e f:Array Value}{g:Value}{h:Option Addr}{i j:Nat}
theorem Xl(Q:Value->Prop)(K:AS->Prop):tx (aJ []) Q K (.ret 8 1) ⟨ak.enter Tryz.prog 43 ⟨[.agg ⟨[zJ a,zS 0 b i,g,.slice h 0 j]⟩]⟩,[],bz 4 (L4 c d e f)⟩=(Q (zJ 0)):=by kernel_rfl
theorem afd{k l:Int}(m:2<=b/\b<=5)(n:nth c.toList 0=some (zJ k))(o:nth c.toList ((b-1)*3)=some (zJ l)):bu Tryz.prog (fun v _=>∃x:Int,(x=0->Sts k l [])/\v=zJ x) ⟨ak.enter Tryz.prog 43 ⟨[.agg ⟨[zJ a,zS 0 b i,g,.slice h 0 j]⟩]⟩,[],bz 4 (L4 c d e f)⟩:=by
 refine ai (aC bI) (Xl _ _) ?_;exact lf0 (by simp only[Sts,and_true]<;>omega)
end
section
variable{b:Nat}{d e:Int}{f:Bool}{a:Int}{c g sc h:Array Value}{i:Value}{os:Option Addr}{j k:Nat}
theorem Xm(Q:Value->Prop)(K:AS->Prop):tx (aJ []) Q K (.ov 14 3 (.GH 0 1 .i64 (.val 0 5 15 (.val 0 1 16 (.ov 0 0 (.GH 0 1 .i64 (.br 2 5 9 (.br 0 4 13 (.br 15 5 9 (.br 0 4 13 (.ret 12 1) (.ret 7 1)) (.ret 7 1)) (.ret 18 1)) (.ret 18 1)))))))) ⟨ak.enter Tryz.prog 43 ⟨[.agg ⟨[zJ a,zS 0 b j,i,zS 2 1 k]⟩]⟩,[],bz 4 (L4 c g ⟨[zJ d,zJ e,.bool f]⟩ h)⟩=(((0:Int)<=0/\0<((b:Nat):Int))/\∃m:Int,nth c.toList (0)=some (zJ m)/\∀n,n=((b:Nat):Int)->∀l,l=wi (n-1)->((0:Int)<=l/\l<((b:Nat):Int))/\∃o:Int,nth c.toList (0+Int.toNat l*3)=some (zJ o)/\BR (decide (m<=d)) (BR (decide (d<=o)) (BR (decide (0<=e)) (BR (decide (e<=959)) (Q (zJ 0)) (Q (zJ 1))) (Q (zJ 1))) (Q (zJ 1))) (Q (zJ 1))):=by kernel_rfl
theorem afe{l m:Int}(s:2<=b/\b<=5)(n:nth c.toList 0=some (zJ l))(o:nth c.toList ((b-1)*3)=some (zJ m)):bu Tryz.prog (fun v _=>∃x:Int,(x=0->Sts l m [(d,e)])/\v=zJ x) ⟨ak.enter Tryz.prog 43 ⟨[.agg ⟨[zJ a,zS 0 b j,i,zS 2 1 k]⟩]⟩,[],bz 4 (L4 c g ⟨[zJ d,zJ e,.bool f]⟩ h)⟩:=by
 refine ai (aC bI) (Xm _ _) ?_;refine⟨⟨by omega,by omega⟩,?_⟩;refine⟨l,n,?_⟩;obtain⟨q,p⟩:∃q,q=l:=⟨_,rfl⟩
 rw[←p];intro u _;refine va fun t _=>?_
 refine⟨⟨by omega,by omega⟩,?_⟩;refine⟨m,by rw[show 0+Int.toNat t*3=(b-1)*3 by omega];exact o,?_⟩;obtain⟨r,p⟩:∃r,r=m:=⟨_,rfl⟩
 rw[←p];iterate 3 refine BR.mk (fun _=>?_) fun _=>zy (by omega)
 refine BR.mk (fun _=>?_) fun _=>zy (by omega)
 exact lf0 (by simp only[Sts,and_true]<;>omega)
end
section
variable{a:Nat}{d e f g:Int}{h w1:Bool}{b:Int}{c i sc j:Array Value}{k:Value}{os:Option Addr}{l m:Nat}
theorem Xn(Q:Value->Prop)(K:AS->Prop):tx (aJ []) Q K (.ov 14 3 acE) ⟨ak.enter Tryz.prog 43 ⟨[.agg ⟨[zJ b,zS 0 a l,k,zS 2 2 m]⟩]⟩,[],bz 4 (L4 c i ⟨[zJ d,zJ e,.bool h,zJ f,zJ g,.bool w1]⟩ j)⟩=(((0:Int)<=0/\0<((a:Nat):Int))/\∃p:Int,nth c.toList (0)=some (zJ p)/\∀q,q=((a:Nat):Int)->∀n,n=wi (q-1)->((0:Int)<=n/\n<((a:Nat):Int))/\∃r:Int,nth c.toList (0+Int.toNat n*3)=some (zJ r)/\BR (decide (p<=d)) (BR (decide (d<=r)) (BR (decide (0<=e)) (BR (decide (e<=959)) (((0:Int)<=0/\0<((a:Nat):Int))/\∃s:Int,nth c.toList (0)=some (zJ s)/\∀t,t=((a:Nat):Int)->∀o,o=wi (t-1)->((0:Int)<=o/\o<((a:Nat):Int))/\∃u:Int,nth c.toList (0+Int.toNat o*3)=some (zJ u)/\BR (decide (s<=f)) (BR (decide (f<=u)) (BR (decide (0<=g)) (BR (decide (g<=959)) (Q (zJ 0)) (Q (zJ 1))) (Q (zJ 1))) (Q (zJ 1))) (Q (zJ 1))) (Q (zJ 1))) (Q (zJ 1))) (Q (zJ 1))) (Q (zJ 1))):=by kernel_rfl
theorem aff{o p:Int}(y:2<=a/\a<=5)(q:nth c.toList 0=some (zJ o))(r:nth c.toList ((a-1)*3)=some (zJ p)):bu Tryz.prog (fun v _=>∃x:Int,(x=0->Sts o p [(d,e),(f,g)])/\v=zJ x) ⟨ak.enter Tryz.prog 43 ⟨[.agg ⟨[zJ b,zS 0 a l,k,zS 2 2 m]⟩]⟩,[],bz 4 (L4 c i ⟨[zJ d,zJ e,.bool h,zJ f,zJ g,.bool w1]⟩ j)⟩:=by
 refine ai (aC bI) (Xn _ _) ?_;refine⟨⟨by omega,by omega⟩,?_⟩;refine⟨o,q,?_⟩;obtain⟨s,n⟩:∃s,s=o:=⟨_,rfl⟩
 rw[←n];intro B _;refine va fun z _=>?_
 refine⟨⟨by omega,by omega⟩,?_⟩;refine⟨p,by rw[show 0+Int.toNat z*3=(a-1)*3 by omega];exact r,?_⟩;obtain⟨t,n⟩:∃t,t=p:=⟨_,rfl⟩
 rw[←n];iterate 4 refine BR.mk (fun _=>?_) fun _=>zy (by omega)
 refine⟨⟨by omega,by omega⟩,?_⟩;refine⟨o,q,?_⟩;obtain⟨u,n⟩:∃u,u=o:=⟨_,rfl⟩
 rw[←n];intro C _;refine va fun A _=>?_
 refine⟨⟨by omega,by omega⟩,?_⟩;refine⟨p,by rw[show 0+Int.toNat A*3=(a-1)*3 by omega];exact r,?_⟩;obtain⟨w,n⟩:∃w,w=p:=⟨_,rfl⟩
 rw[←n];iterate 3 refine BR.mk (fun _=>?_) fun _=>zy (by omega)
 refine BR.mk (fun _=>?_) fun _=>zy (by omega)
 exact lf0 (by simp only[Sts,and_true]<;>omega)
end
section
variable{a:Nat}{d e f g h i:Int}{j w1 w2:Bool}{b:Int}{c k sc l:Array Value}{m:Value}{os:Option Addr}{n o:Nat}
theorem Xo(Q:Value->Prop)(K:AS->Prop):tx (aJ []) Q K (.ov 14 3 (.GH 0 1 .i64 (.val 0 5 15 (.val 0 1 16 (.ov 0 0 (.GH 0 1 .i64 (.br 2 5 9 (.br 0 4 13 (.br 15 5 9 (.br 0 4 13 (.ov 18 3 acE) (.ret 7 1)) (.ret 7 1)) (.ret 18 1)) (.ret 18 1)))))))) ⟨ak.enter Tryz.prog 43 ⟨[.agg ⟨[zJ b,zS 0 a n,m,zS 2 3 o]⟩]⟩,[],bz 4 (L4 c k ⟨[zJ d,zJ e,.bool j,zJ f,zJ g,.bool w1,zJ h,zJ i,.bool w2]⟩ l)⟩=(((0:Int)<=0/\0<((a:Nat):Int))/\∃v:Int,nth c.toList (0)=some (zJ v)/\∀w,w=((a:Nat):Int)->∀t,t=wi (w-1)->((0:Int)<=t/\t<((a:Nat):Int))/\∃x:Int,nth c.toList (0+Int.toNat t*3)=some (zJ x)/\BR (decide (v<=d)) (BR (decide (d<=x)) (BR (decide (0<=e)) (BR (decide (e<=959)) (((0:Int)<=0/\0<((a:Nat):Int))/\∃y:Int,nth c.toList (0)=some (zJ y)/\∀z,z=((a:Nat):Int)->∀u,u=wi (z-1)->((0:Int)<=u/\u<((a:Nat):Int))/\∃A:Int,nth c.toList (0+Int.toNat u*3)=some (zJ A)/\BR (decide (y<=f)) (BR (decide (f<=A)) (BR (decide (0<=g)) (BR (decide (g<=959)) (((0:Int)<=0/\0<((a:Nat):Int))/\∃q:Int,nth c.toList (0)=some (zJ q)/\∀r,r=((a:Nat):Int)->∀p,p=wi (r-1)->((0:Int)<=p/\p<((a:Nat):Int))/\∃s:Int,nth c.toList (0+Int.toNat p*3)=some (zJ s)/\BR (decide (q<=h)) (BR (decide (h<=s)) (BR (decide (0<=i)) (BR (decide (i<=959)) (Q (zJ 0)) (Q (zJ 1))) (Q (zJ 1))) (Q (zJ 1))) (Q (zJ 1))) (Q (zJ 1))) (Q (zJ 1))) (Q (zJ 1))) (Q (zJ 1))) (Q (zJ 1))) (Q (zJ 1))) (Q (zJ 1))) (Q (zJ 1))):=by kernel_rfl
theorem afg{q r:Int}(D:2<=a/\a<=5)(s:nth c.toList 0=some (zJ q))(t:nth c.toList ((a-1)*3)=some (zJ r)):bu Tryz.prog (fun v _=>∃x:Int,(x=0->Sts q r [(d,e),(f,g),(h,i)])/\v=zJ x) ⟨ak.enter Tryz.prog 43 ⟨[.agg ⟨[zJ b,zS 0 a n,m,zS 2 3 o]⟩]⟩,[],bz 4 (L4 c k ⟨[zJ d,zJ e,.bool j,zJ f,zJ g,.bool w1,zJ h,zJ i,.bool w2]⟩ l)⟩:=by
 refine ai (aC bI) (Xo _ _) ?_;refine⟨⟨by omega,by omega⟩,?_⟩;refine⟨q,s,?_⟩;obtain⟨z,p⟩:∃z,z=q:=⟨_,rfl⟩
 rw[←p];intro J _;refine va fun E _=>?_
 refine⟨⟨by omega,by omega⟩,?_⟩;refine⟨r,by rw[show 0+Int.toNat E*3=(a-1)*3 by omega];exact t,?_⟩;obtain⟨A,p⟩:∃A,A=r:=⟨_,rfl⟩
 rw[←p];iterate 4 refine BR.mk (fun _=>?_) fun _=>zy (by omega)
 refine⟨⟨by omega,by omega⟩,?_⟩;refine⟨q,s,?_⟩;obtain⟨B,p⟩:∃B,B=q:=⟨_,rfl⟩
 rw[←p];intro L _;refine va fun F _=>?_
 refine⟨⟨by omega,by omega⟩,?_⟩;refine⟨r,by rw[show 0+Int.toNat F*3=(a-1)*3 by omega];exact t,?_⟩;obtain⟨C,p⟩:∃C,C=r:=⟨_,rfl⟩
 rw[←p];iterate 4 refine BR.mk (fun _=>?_) fun _=>zy (by omega)
 refine⟨⟨by omega,by omega⟩,?_⟩;refine⟨q,s,?_⟩;obtain⟨u,p⟩:∃u,u=q:=⟨_,rfl⟩
 rw[←p];intro H _;refine va fun y _=>?_
 refine⟨⟨by omega,by omega⟩,?_⟩;refine⟨r,by rw[show 0+Int.toNat y*3=(a-1)*3 by omega];exact t,?_⟩;obtain⟨w,p⟩:∃w,w=r:=⟨_,rfl⟩
 rw[←p];iterate 3 refine BR.mk (fun _=>?_) fun _=>zy (by omega)
 refine BR.mk (fun _=>?_) fun _=>zy (by omega)
 exact lf0 (by simp only[Sts,and_true]<;>omega)
end
section
variable{nt:Nat}{a:Int}{b c:Value}{d:Option Addr}{e:Nat}{f g h i:Array Value}
theorem Xp(Q:Value->Prop)(K:AS->Prop):tx (aJ []) Q K (.val 1 6 6 (.br 0 1 7 (.ret 3 1) .no)) ⟨ak.enter Tryz.prog 43 ⟨[.agg ⟨[zJ a,b,c,.slice d nt e]⟩]⟩,[],bz 4 (L4 f g h i)⟩=(∀j,j=((nt:Nat):Int)->BR (decide (j>3)) (Q (zJ 2)) (False)):=by kernel_rfl
theorem afh(j:4<=nt):bu Tryz.prog (fun v _=>∃x:Int,(x=0->False)/\v=zJ x) ⟨ak.enter Tryz.prog 43 ⟨[.agg ⟨[zJ a,b,c,.slice d nt e]⟩]⟩,[],bz 4 (L4 f g h i)⟩:=by
 refine ai (aC bI) (Xp _ _) ?_;intro k _;refine BR.ll ?_;exact zy (by omega)
end
section
variable{a:Int}{b g h:Value}{d tc sc f:Array Value}{V1 V2 V3:Prop}
theorem aaN(Q:Value->Prop)(K:AS->Prop):∀v0:Prop,v0=((AE ⟨[.agg ⟨[zJ a,b,g,h]⟩]⟩)/\(E4 d tc sc f)/\True)->tx (aJ [⟨41,fun _ _=>[],4,fun _=>L4 d tc sc f,fun _=>⟨[b]⟩,fun _=>True,fun _ x=>(x=0->V1),fun _ x=>zJ x⟩,⟨42,fun _ _=>[],4,fun _=>L4 d tc sc f,fun _=>⟨[.agg ⟨[zJ a,b,g,h]⟩]⟩,fun _=>True,fun _ x=>(x=0->V2),fun _ x=>zJ x⟩,⟨43,fun _ _=>[],4,fun _=>L4 d tc sc f,fun _=>⟨[.agg ⟨[zJ a,b,g,h]⟩]⟩,fun _=>True,fun _ x=>(x=0->V3),fun _ x=>zJ x⟩]) Q K (.br 3 5 9 (.br 0 4 13 (.call 5 5 (.br 1 4 13 (.ret 3 1) (.call 2 4 (.br 1 4 18 (.ret 3 1) (.call 2 3 (.ret 2 1)))))) (.ret 6 1)) (.ret 6 1)) ⟨ak.enter Tryz.prog 14 ⟨[.agg ⟨[zJ a,b,g,h]⟩]⟩,[],bz 4 (L4 d tc sc f)⟩=(BR (decide (0<=a)) (BR (decide (a<=20)) (((AE ⟨[b]⟩)/\(E4 d tc sc f)/\True)/\∀c:Int,(c=0->V1)->RK (true) (BR (!decide (c=0)) (Q (zJ c)) (v0/\∀e:Int,(e=0->V2)->RK (true) (BR (!decide (e=0)) (Q (zJ e)) (v0/\∀i:Int,(i=0->V3)->RK (true) (Q (zJ i))))))) (Q (zJ 1))) (Q (zJ 1))):=by
 rintro _ rfl;kernel_rfl
theorem ahP(l:∀c∈[⟨41,fun _ _=>[],4,fun _=>L4 d tc sc f,fun _=>⟨[b]⟩,fun _=>True,fun _ x=>(x=0->V1),fun _ x=>zJ x⟩,⟨42,fun _ _=>[],4,fun _=>L4 d tc sc f,fun _=>⟨[.agg ⟨[zJ a,b,g,h]⟩]⟩,fun _=>True,fun _ x=>(x=0->V2),fun _ x=>zJ x⟩,⟨43,fun _ _=>[],4,fun _=>L4 d tc sc f,fun _=>⟨[.agg ⟨[zJ a,b,g,h]⟩]⟩,fun _=>True,fun _ x=>(x=0->V3),fun _ x=>zJ x⟩],aX Tryz.prog c):bu Tryz.prog (fun v _=>∃x:Int,(x=0->(0<=a/\a<=20)/\V1/\V2/\V3)/\v=zJ x) ⟨ak.enter Tryz.prog 14 ⟨[.agg ⟨[zJ a,b,g,h]⟩]⟩,[],bz 4 (L4 d tc sc f)⟩:=by
 refine ai (aC l) (aaN _ _ _ rfl) ?_;iterate 2 refine BR.mk (fun _=>?_) fun _=>zy (by omega)
 refine⟨⟨rfl,dK,trivial⟩,fun m i=>⟨rfl,?_⟩⟩;refine BR.nm (fun _=>fun _=>⟨_,fun e=>by first|(exfalso;omega)|exact⟨by omega,i (by omega),j (by omega),k (by omega)⟩,rfl⟩) fun _=>?_
 refine⟨⟨rfl,dK,trivial⟩,fun n j=>⟨rfl,?_⟩⟩;refine BR.nm (fun _=>fun _=>⟨_,fun e=>by first|(exfalso;omega)|exact⟨by omega,i (by omega),j (by omega),k (by omega)⟩,rfl⟩) fun _=>?_
 refine⟨⟨rfl,dK,trivial⟩,fun o k=>⟨rfl,?_⟩⟩;exact fun _=>⟨_,fun e=>by first|(exfalso;omega)|exact⟨by omega,i (by omega),j (by omega),k (by omega)⟩,rfl⟩
end
end Go.Am
namespace Go.Am
open Go.Proofs
section
variable{h0 l0 u0 a b c:Int}{ag:Int}{d e f:Array Value}{g h:Value}{cp:Nat}
theorem Xq(Q:Value->Prop)(K:AS->Prop):tx (aJ []) Q K (.br 18 4 6 .no acD) ⟨ak.enter Tryz.prog 118 ⟨[.agg ⟨[zJ ag,zS 0 2 cp,g,h]⟩]⟩,[],bz 4 (L4 ⟨[zJ h0,zJ l0,zJ u0,zJ a,zJ b,zJ c]⟩ d e f)⟩=(BR (decide (h0<0)) (False) (BR (decide (h0>959)) (False) (BR (decide (h0<=(-1))) (False) (BR (decide (0<=l0)) (BR (decide (l0<=u0)) (BR (decide (u0<=959)) (∀i,i=wi (u0-l0)->BR (decide (i>=3)) (False) (BR (decide (a<0)) (False) (BR (decide (a>959)) (False) (BR (decide (a<=h0)) (False) (BR (decide (0<=b)) (BR (decide (b<=c)) (BR (decide (c<=959)) (∀j,j=wi (c-b)->BR (decide (j>=3)) (False) (Q (zJ 0))) (False)) (False)) (False)))))) (False)) (False)) (False))))):=by kernel_rfl
theorem afi(i:lH [(h0,l0,u0),(a,b,c)]):bu Tryz.prog (fun v _=>∃x:Int,x=0/\v=zJ x) ⟨ak.enter Tryz.prog 118 ⟨[.agg ⟨[zJ ag,zS 0 2 cp,g,h]⟩]⟩,[],bz 4 (L4 ⟨[zJ h0,zJ l0,zJ u0,zJ a,zJ b,zJ c]⟩ d e f)⟩:=by
 refine ai (aC bI) (Xq _ _) ?_;simp only[lH,ry,and_true]at i;iterate 16 (first|refine BR.rr ?_|refine BR.ll ?_|refine va fun _ _=>?_)
 exact fun _=>⟨_,rfl,rfl⟩
end
section
variable{h0 l0 u0 a b c d e f:Int}{ag:Int}{g h i:Array Value}{j k:Value}{cp:Nat}
theorem Xr(Q:Value->Prop)(K:AS->Prop):tx (aJ []) Q K (.br 18 4 6 .no acH) ⟨ak.enter Tryz.prog 118 ⟨[.agg ⟨[zJ ag,zS 0 3 cp,j,k]⟩]⟩,[],bz 4 (L4 ⟨[zJ h0,zJ l0,zJ u0,zJ a,zJ b,zJ c,zJ d,zJ e,zJ f]⟩ g h i)⟩=(BR (decide (h0<0)) (False) (BR (decide (h0>959)) (False) (BR (decide (h0<=(-1))) (False) (BR (decide (0<=l0)) (BR (decide (l0<=u0)) (BR (decide (u0<=959)) (∀l,l=wi (u0-l0)->BR (decide (l>=3)) (False) (BR (decide (a<0)) (False) (BR (decide (a>959)) (False) (BR (decide (a<=h0)) (False) (BR (decide (0<=b)) (BR (decide (b<=c)) (BR (decide (c<=959)) (∀m,m=wi (c-b)->BR (decide (m>=3)) (False) (BR (decide (d<0)) (False) (BR (decide (d>959)) (False) (BR (decide (d<=a)) (False) (BR (decide (0<=e)) (BR (decide (e<=f)) (BR (decide (f<=959)) (∀n,n=wi (f-e)->BR (decide (n>=3)) (False) (Q (zJ 0))) (False)) (False)) (False)))))) (False)) (False)) (False)))))) (False)) (False)) (False))))):=by kernel_rfl
theorem afj(l:lH [(h0,l0,u0),(a,b,c),(d,e,f)]):bu Tryz.prog (fun v _=>∃x:Int,x=0/\v=zJ x) ⟨ak.enter Tryz.prog 118 ⟨[.agg ⟨[zJ ag,zS 0 3 cp,j,k]⟩]⟩,[],bz 4 (L4 ⟨[zJ h0,zJ l0,zJ u0,zJ a,zJ b,zJ c,zJ d,zJ e,zJ f]⟩ g h i)⟩:=by
 refine ai (aC bI) (Xr _ _) ?_;simp only[lH,ry,and_true]at l;iterate 24 (first|refine BR.rr ?_|refine BR.ll ?_|refine va fun _ _=>?_)
 exact fun _=>⟨_,rfl,rfl⟩
end
section
variable{h0 l0 u0 a c d b e f g h i:Int}{ag:Int}{j k l:Array Value}{m n:Value}{cp:Nat}
theorem Xt(Q:Value->Prop)(K:AS->Prop):tx (aJ []) Q K (.br 18 4 6 .no (.br 0 4 10 .no (.br 15 8 8 .no (.br 16 6 10 (.br 0 6 16 (.br 0 6 22 (.val 6 11 17 (.br 0 1 18 .no (.br 31 4 6 .no acH))) .no) .no) .no)))) ⟨ak.enter Tryz.prog 118 ⟨[.agg ⟨[zJ ag,zS 0 4 cp,m,n]⟩]⟩,[],bz 4 (L4 ⟨[zJ h0,zJ l0,zJ u0,zJ a,zJ c,zJ d,zJ b,zJ e,zJ f,zJ g,zJ h,zJ i]⟩ j k l)⟩=(BR (decide (h0<0)) (False) (BR (decide (h0>959)) (False) (BR (decide (h0<=(-1))) (False) (BR (decide (0<=l0)) (BR (decide (l0<=u0)) (BR (decide (u0<=959)) (∀o,o=wi (u0-l0)->BR (decide (o>=3)) (False) (BR (decide (a<0)) (False) (BR (decide (a>959)) (False) (BR (decide (a<=h0)) (False) (BR (decide (0<=c)) (BR (decide (c<=d)) (BR (decide (d<=959)) (∀p,p=wi (d-c)->BR (decide (p>=3)) (False) (BR (decide (b<0)) (False) (BR (decide (b>959)) (False) (BR (decide (b<=a)) (False) (BR (decide (0<=e)) (BR (decide (e<=f)) (BR (decide (f<=959)) (∀q,q=wi (f-e)->BR (decide (q>=3)) (False) (BR (decide (g<0)) (False) (BR (decide (g>959)) (False) (BR (decide (g<=b)) (False) (BR (decide (0<=h)) (BR (decide (h<=i)) (BR (decide (i<=959)) (∀r,r=wi (i-h)->BR (decide (r>=3)) (False) (Q (zJ 0))) (False)) (False)) (False)))))) (False)) (False)) (False)))))) (False)) (False)) (False)))))) (False)) (False)) (False))))):=by kernel_rfl
theorem afk(o:lH [(h0,l0,u0),(a,c,d),(b,e,f),(g,h,i)]):bu Tryz.prog (fun v _=>∃x:Int,x=0/\v=zJ x) ⟨ak.enter Tryz.prog 118 ⟨[.agg ⟨[zJ ag,zS 0 4 cp,m,n]⟩]⟩,[],bz 4 (L4 ⟨[zJ h0,zJ l0,zJ u0,zJ a,zJ c,zJ d,zJ b,zJ e,zJ f,zJ g,zJ h,zJ i]⟩ j k l)⟩:=by
 refine ai (aC bI) (Xt _ _) ?_;simp only[lH,ry,and_true]at o;iterate 32 (first|refine BR.rr ?_|refine BR.ll ?_|refine va fun _ _=>?_)
 exact fun _=>⟨_,rfl,rfl⟩
end
section
variable{b:Nat}{a:Int}{c tc sc d:Array Value}{op e f:Option Addr}{g h i j:Nat}
theorem Xu(Q:Value->Prop)(K:AS->Prop):tx (aJ []) Q K (.ret 8 1) ⟨ak.enter Tryz.prog 119 ⟨[.agg ⟨[zJ a,.slice op b g,.slice e 0 h,.slice f i j]⟩]⟩,[],bz 4 (L4 c tc sc d)⟩=(Q (zJ 0)):=by kernel_rfl
theorem afl(k:2<=b/\b<=5)(l:Tps b []):bu Tryz.prog (fun v _=>∃x:Int,x=0/\v=zJ x) ⟨ak.enter Tryz.prog 119 ⟨[.agg ⟨[zJ a,.slice op b g,.slice e 0 h,.slice f i j]⟩]⟩,[],bz 4 (L4 c tc sc d)⟩:=by
 refine ai (aC bI) (Xu _ _) ?_;exact fun _=>⟨_,rfl,rfl⟩
end
section
variable{b:Nat}{a:Int}{c d e f:Array Value}{g:Value}{h:Option Addr}{i j:Nat}
theorem Xv(Q:Value->Prop)(K:AS->Prop):tx (aJ []) Q K (.ret 20 1) ⟨ak.enter Tryz.prog 120 ⟨[.agg ⟨[zJ a,zS 0 b i,g,.slice h 0 j]⟩]⟩,[],bz 4 (L4 c d e f)⟩=(Q (zJ 0)):=by kernel_rfl
theorem afm{k l:Int}(m:2<=b/\b<=5)(n:nth c.toList 0=some (zJ k))(o:nth c.toList ((b-1)*3)=some (zJ l))(p:Sts k l []):bu Tryz.prog (fun v _=>∃x:Int,x=0/\v=zJ x) ⟨ak.enter Tryz.prog 120 ⟨[.agg ⟨[zJ a,zS 0 b i,g,.slice h 0 j]⟩]⟩,[],bz 4 (L4 c d e f)⟩:=by
 refine ai (aC bI) (Xv _ _) ?_;exact fun _=>⟨_,rfl,rfl⟩
end
section
variable{b:Nat}{d e:Int}{f:Bool}{a:Int}{c g sc h:Array Value}{i:Value}{os:Option Addr}{j k:Nat}
theorem Xw(Q:Value->Prop)(K:AS->Prop):tx (aJ []) Q K (.ov 15 6 (.GH 0 1 .i64 (.br 0 1 12 .no (.val 0 9 21 (.val 0 1 22 (.ov 0 0 (.GH 0 1 .i64 (.br 0 1 26 .no (.br 5 4 6 .no (.br 0 4 10 .no (.ret 22 1))))))))))) ⟨ak.enter Tryz.prog 120 ⟨[.agg ⟨[zJ a,zS 0 b j,i,zS 2 1 k]⟩]⟩,[],bz 4 (L4 c g ⟨[zJ d,zJ e,.bool f]⟩ h)⟩=(((0:Int)<=0/\0<((b:Nat):Int))/\∃m:Int,nth c.toList (0)=some (zJ m)/\BR (decide (d<m)) (False) (∀n,n=((b:Nat):Int)->∀l,l=wi (n-1)->((0:Int)<=l/\l<((b:Nat):Int))/\∃o:Int,nth c.toList (0+Int.toNat l*3)=some (zJ o)/\BR (decide (d>o)) (False) (BR (decide (e<0)) (False) (BR (decide (e>959)) (False) (Q (zJ 0)))))):=by kernel_rfl
theorem afn{l m:Int}(s:2<=b/\b<=5)(n:nth c.toList 0=some (zJ l))(o:nth c.toList ((b-1)*3)=some (zJ m))(t:Sts l m [(d,e)]):bu Tryz.prog (fun v _=>∃x:Int,x=0/\v=zJ x) ⟨ak.enter Tryz.prog 120 ⟨[.agg ⟨[zJ a,zS 0 b j,i,zS 2 1 k]⟩]⟩,[],bz 4 (L4 c g ⟨[zJ d,zJ e,.bool f]⟩ h)⟩:=by
 refine ai (aC bI) (Xw _ _) ?_;simp only[Sts,and_true]at t;refine⟨⟨by omega,by omega⟩,?_⟩;refine⟨l,n,?_⟩;obtain⟨q,p⟩:∃q,q=l:=⟨_,rfl⟩
 rw[←p];refine BR.rr ?_;intro w _;refine va fun u _=>?_
 refine⟨⟨by omega,by omega⟩,?_⟩;refine⟨m,by rw[show 0+Int.toNat u*3=(b-1)*3 by omega];exact o,?_⟩;obtain⟨r,p⟩:∃r,r=m:=⟨_,rfl⟩
 rw[←p];iterate 3 refine BR.rr ?_
 exact fun _=>⟨_,rfl,rfl⟩
end
section
variable{a:Nat}{d e f g:Int}{h w1:Bool}{b:Int}{c i sc j:Array Value}{k:Value}{os:Option Addr}{l m:Nat}
theorem Xx(Q:Value->Prop)(K:AS->Prop):tx (aJ []) Q K (.ov 15 6 acF) ⟨ak.enter Tryz.prog 120 ⟨[.agg ⟨[zJ b,zS 0 a l,k,zS 2 2 m]⟩]⟩,[],bz 4 (L4 c i ⟨[zJ d,zJ e,.bool h,zJ f,zJ g,.bool w1]⟩ j)⟩=(((0:Int)<=0/\0<((a:Nat):Int))/\∃p:Int,nth c.toList (0)=some (zJ p)/\BR (decide (d<p)) (False) (∀q,q=((a:Nat):Int)->∀n,n=wi (q-1)->((0:Int)<=n/\n<((a:Nat):Int))/\∃r:Int,nth c.toList (0+Int.toNat n*3)=some (zJ r)/\BR (decide (d>r)) (False) (BR (decide (e<0)) (False) (BR (decide (e>959)) (False) (((0:Int)<=0/\0<((a:Nat):Int))/\∃s:Int,nth c.toList (0)=some (zJ s)/\BR (decide (f<s)) (False) (∀t,t=((a:Nat):Int)->∀o,o=wi (t-1)->((0:Int)<=o/\o<((a:Nat):Int))/\∃u:Int,nth c.toList (0+Int.toNat o*3)=some (zJ u)/\BR (decide (f>u)) (False) (BR (decide (g<0)) (False) (BR (decide (g>959)) (False) (Q (zJ 0)))))))))):=by kernel_rfl
theorem afo{o p:Int}(y:2<=a/\a<=5)(q:nth c.toList 0=some (zJ o))(r:nth c.toList ((a-1)*3)=some (zJ p))(z:Sts o p [(d,e),(f,g)]):bu Tryz.prog (fun v _=>∃x:Int,x=0/\v=zJ x) ⟨ak.enter Tryz.prog 120 ⟨[.agg ⟨[zJ b,zS 0 a l,k,zS 2 2 m]⟩]⟩,[],bz 4 (L4 c i ⟨[zJ d,zJ e,.bool h,zJ f,zJ g,.bool w1]⟩ j)⟩:=by
 refine ai (aC bI) (Xx _ _) ?_;simp only[Sts,and_true]at z;refine⟨⟨by omega,by omega⟩,?_⟩;refine⟨o,q,?_⟩;obtain⟨s,n⟩:∃s,s=o:=⟨_,rfl⟩
 rw[←n];refine BR.rr ?_;intro C _;refine va fun A _=>?_
 refine⟨⟨by omega,by omega⟩,?_⟩;refine⟨p,by rw[show 0+Int.toNat A*3=(a-1)*3 by omega];exact r,?_⟩;obtain⟨t,n⟩:∃t,t=p:=⟨_,rfl⟩
 rw[←n];iterate 3 refine BR.rr ?_
 refine⟨⟨by omega,by omega⟩,?_⟩;refine⟨o,q,?_⟩;obtain⟨u,n⟩:∃u,u=o:=⟨_,rfl⟩
 rw[←n];refine BR.rr ?_;intro D _;refine va fun B _=>?_
 refine⟨⟨by omega,by omega⟩,?_⟩;refine⟨p,by rw[show 0+Int.toNat B*3=(a-1)*3 by omega];exact r,?_⟩;obtain⟨w,n⟩:∃w,w=p:=⟨_,rfl⟩
 rw[←n];iterate 3 refine BR.rr ?_
 exact fun _=>⟨_,rfl,rfl⟩
end
section
variable{a:Nat}{d e f g h i:Int}{j w1 w2:Bool}{b:Int}{c k sc l:Array Value}{m:Value}{os:Option Addr}{n o:Nat}
theorem Xy(Q:Value->Prop)(K:AS->Prop):tx (aJ []) Q K (.ov 15 6 (.GH 0 1 .i64 (.br 0 1 12 .no (.val 0 9 21 (.val 0 1 22 (.ov 0 0 (.GH 0 1 .i64 (.br 0 1 26 .no (.br 5 4 6 .no (.br 0 4 10 .no (.ov 17 6 acF))))))))))) ⟨ak.enter Tryz.prog 120 ⟨[.agg ⟨[zJ b,zS 0 a n,m,zS 2 3 o]⟩]⟩,[],bz 4 (L4 c k ⟨[zJ d,zJ e,.bool j,zJ f,zJ g,.bool w1,zJ h,zJ i,.bool w2]⟩ l)⟩=(((0:Int)<=0/\0<((a:Nat):Int))/\∃v:Int,nth c.toList (0)=some (zJ v)/\BR (decide (d<v)) (False) (∀w,w=((a:Nat):Int)->∀t,t=wi (w-1)->((0:Int)<=t/\t<((a:Nat):Int))/\∃x:Int,nth c.toList (0+Int.toNat t*3)=some (zJ x)/\BR (decide (d>x)) (False) (BR (decide (e<0)) (False) (BR (decide (e>959)) (False) (((0:Int)<=0/\0<((a:Nat):Int))/\∃y:Int,nth c.toList (0)=some (zJ y)/\BR (decide (f<y)) (False) (∀z,z=((a:Nat):Int)->∀u,u=wi (z-1)->((0:Int)<=u/\u<((a:Nat):Int))/\∃A:Int,nth c.toList (0+Int.toNat u*3)=some (zJ A)/\BR (decide (f>A)) (False) (BR (decide (g<0)) (False) (BR (decide (g>959)) (False) (((0:Int)<=0/\0<((a:Nat):Int))/\∃q:Int,nth c.toList (0)=some (zJ q)/\BR (decide (h<q)) (False) (∀r,r=((a:Nat):Int)->∀p,p=wi (r-1)->((0:Int)<=p/\p<((a:Nat):Int))/\∃s:Int,nth c.toList (0+Int.toNat p*3)=some (zJ s)/\BR (decide (h>s)) (False) (BR (decide (i<0)) (False) (BR (decide (i>959)) (False) (Q (zJ 0)))))))))))))):=by kernel_rfl
theorem afp{q r:Int}(D:2<=a/\a<=5)(s:nth c.toList 0=some (zJ q))(t:nth c.toList ((a-1)*3)=some (zJ r))(E:Sts q r [(d,e),(f,g),(h,i)]):bu Tryz.prog (fun v _=>∃x:Int,x=0/\v=zJ x) ⟨ak.enter Tryz.prog 120 ⟨[.agg ⟨[zJ b,zS 0 a n,m,zS 2 3 o]⟩]⟩,[],bz 4 (L4 c k ⟨[zJ d,zJ e,.bool j,zJ f,zJ g,.bool w1,zJ h,zJ i,.bool w2]⟩ l)⟩:=by
 refine ai (aC bI) (Xy _ _) ?_;simp only[Sts,and_true]at E;refine⟨⟨by omega,by omega⟩,?_⟩;refine⟨q,s,?_⟩;obtain⟨z,p⟩:∃z,z=q:=⟨_,rfl⟩
 rw[←p];refine BR.rr ?_;intro L _;refine va fun F _=>?_
 refine⟨⟨by omega,by omega⟩,?_⟩;refine⟨r,by rw[show 0+Int.toNat F*3=(a-1)*3 by omega];exact t,?_⟩;obtain⟨A,p⟩:∃A,A=r:=⟨_,rfl⟩
 rw[←p];iterate 3 refine BR.rr ?_
 refine⟨⟨by omega,by omega⟩,?_⟩;refine⟨q,s,?_⟩;obtain⟨B,p⟩:∃B,B=q:=⟨_,rfl⟩
 rw[←p];refine BR.rr ?_;intro M _;refine va fun H _=>?_
 refine⟨⟨by omega,by omega⟩,?_⟩;refine⟨r,by rw[show 0+Int.toNat H*3=(a-1)*3 by omega];exact t,?_⟩;obtain⟨C,p⟩:∃C,C=r:=⟨_,rfl⟩
 rw[←p];iterate 3 refine BR.rr ?_
 refine⟨⟨by omega,by omega⟩,?_⟩;refine⟨q,s,?_⟩;obtain⟨u,p⟩:∃u,u=q:=⟨_,rfl⟩
 rw[←p];refine BR.rr ?_;intro J _;refine va fun y _=>?_
 refine⟨⟨by omega,by omega⟩,?_⟩;refine⟨r,by rw[show 0+Int.toNat y*3=(a-1)*3 by omega];exact t,?_⟩;obtain⟨w,p⟩:∃w,w=r:=⟨_,rfl⟩
 rw[←p];iterate 3 refine BR.rr ?_
 exact fun _=>⟨_,rfl,rfl⟩
end
section
variable{a:Int}{b d e:Value}{f tc sc g:Array Value}
theorem aaO(Q:Value->Prop)(K:AS->Prop):∀v0:Prop,v0=((AE ⟨[.agg ⟨[zJ a,b,d,e]⟩]⟩)/\(E4 f tc sc g)/\True)->tx (aJ [⟨118,fun _ _=>[],4,fun _=>L4 f tc sc g,fun _=>⟨[.agg ⟨[zJ a,b,d,e]⟩]⟩,fun _=>True,fun _ x=>x=0,fun _ x=>zJ x⟩,⟨119,fun _ _=>[],4,fun _=>L4 f tc sc g,fun _=>⟨[.agg ⟨[zJ a,b,d,e]⟩]⟩,fun _=>True,fun _ x=>x=0,fun _ x=>zJ x⟩,⟨120,fun _ _=>[],4,fun _=>L4 f tc sc g,fun _=>⟨[.agg ⟨[zJ a,b,d,e]⟩]⟩,fun _=>True,fun _ x=>x=0,fun _ x=>zJ x⟩]) Q K (.br 9 4 6 .no (.br 0 4 10 .no (.call 16 4 (.br 1 4 16 .no (.call 7 4 (.br 1 4 16 .no (.call 7 4 (.br 1 4 16 .no (.ret 8 1))))))))) ⟨ak.enter Tryz.prog 87 ⟨[.agg ⟨[zJ a,b,d,e]⟩]⟩,[],bz 4 (L4 f tc sc g)⟩=(BR (decide (a<0)) (False) (BR (decide (a>20)) (False) (v0/\∀c:Int,(c=0)->RK (true) (BR (!decide (c=0)) (False) (v0/\∀h:Int,(h=0)->RK (true) (BR (!decide (h=0)) (False) (v0/\∀i:Int,(i=0)->RK (true) (BR (!decide (i=0)) (False) (Q (zJ 0)))))))))):=by
 rintro _ rfl;kernel_rfl
theorem ahQ(i:0<=a/\a<=20)(h:∀c∈[⟨118,fun _ _=>[],4,fun _=>L4 f tc sc g,fun _=>⟨[.agg ⟨[zJ a,b,d,e]⟩]⟩,fun _=>True,fun _ x=>x=0,fun _ x=>zJ x⟩,⟨119,fun _ _=>[],4,fun _=>L4 f tc sc g,fun _=>⟨[.agg ⟨[zJ a,b,d,e]⟩]⟩,fun _=>True,fun _ x=>x=0,fun _ x=>zJ x⟩,⟨120,fun _ _=>[],4,fun _=>L4 f tc sc g,fun _=>⟨[.agg ⟨[zJ a,b,d,e]⟩]⟩,fun _=>True,fun _ x=>x=0,fun _ x=>zJ x⟩],aX Tryz.prog c):bu Tryz.prog (fun v _=>∃x:Int,x=0/\v=zJ x) ⟨ak.enter Tryz.prog 87 ⟨[.agg ⟨[zJ a,b,d,e]⟩]⟩,[],bz 4 (L4 f tc sc g)⟩:=by
 refine ai (aC h) (aaO _ _ _ rfl) ?_;iterate 2 refine BR.rr ?_
 refine⟨⟨rfl,dK,trivial⟩,fun j _=>⟨rfl,?_⟩⟩;refine BR.nr (by omega) ?_;refine⟨⟨rfl,dK,trivial⟩,fun k _=>⟨rfl,?_⟩⟩;refine BR.nr (by omega) ?_;refine⟨⟨rfl,dK,trivial⟩,fun l _=>⟨rfl,?_⟩⟩;refine BR.nr (by omega) ?_;exact fun _=>⟨_,rfl,rfl⟩
end
end Go.Am
namespace Go.Am
open Go.Proofs
abbrev I(n:Int):Value:=zJ n
abbrev Wr(n:Int):Int:=IntKind.i64.wrap n
def fpt:Value:=.func (.func 82) #[] #[zP 0 0]
noncomputable def hpN(n:Int):AH:=⟨1,rU [(0,⟨.cells ⟨[I n]⟩ 3 (0,0),none,false,0⟩)],uH []⟩
noncomputable def afq(n:Int):ak:=⟨45,#[I n,zP 0 0,I 0,I n,I (n+1),fpt,undef,undef],[.region (bH 45 [1,0]) [3,4,5],.code .ret],[],false,none,false⟩
noncomputable def SL(n i j:Int)(s t a b c d e f g h k l m o p q r:Value):AS:=
 ⟨⟨81,#[I (n+1),fpt,undef,undef,I 0,I i,I j,s,I (n+1),t,a,b,c,d,e,f,g,h,k,l,m,o,p,q,r,undef],[.code (at_ 81 [1,1,0,0,0]),.inLoop (at_ 81 [1,1,0,0,0]),.inBlock 0,.code (at_ 81 [1,1,1])],[],false,none,false⟩,[afq n],hpN n⟩
theorem aaP(n:Int):Lp Tryz.prog plan [(9,4,I (n+1))] 15 ⟨ak.enter Tryz.prog 45 #[I n],[],h0⟩=some ([(I (Wr (n+1)),I (n+1))],SL n 0 (n+1) undef undef undef undef undef undef undef undef undef undef undef undef undef undef undef undef undef):=by kernel_rfl
section
variable(n i j h:Int)(t u d e f g k l m o p q r s a b c:Value)
theorem aaQ:Lp Tryz.prog plan [(6,11,.bool true),(9,14,I (i+j)),(1,15,.int .u64 (i+j)),(1,16,.int .u64 h),(1,17,I h),(16,6,I (h*h)),(2,8,.bool false),(10,23,I (h+1))] 4 (SL n i j t u d e f g k l m o p q r s a b c)=
   some ([(.bool (decide (i<j)),.bool true),(I (Wr (i+j)),I (i+j)),(.int .u64 (IntKind.u64.wrap (i+j)),.int .u64 (i+j)),(.int .u64 ((i+j).fdiv 2),.int .u64 h),(I (Wr h),I h),(I (Wr (h*h)),I (h*h)),(.bool (decide (h*h>n)),.bool false),(I (Wr (h+1)),I (h+1))],
    SL n (h+1) j (I h) (I i) (I j) (.bool true) (I i) (I j) (I (i+j)) (.int .u64 (i+j)) (.int .u64 h) (I h) fpt (I h) (.bool false) (.bool true) (I h) (I (h+1)) c):=by kernel_rfl
theorem aaR:Lp Tryz.prog plan [(6,11,.bool true),(9,14,I (i+j)),(1,15,.int .u64 (i+j)),(1,16,.int .u64 h),(1,17,I h),(16,6,I (h*h)),(2,8,.bool true)] 13 (SL n i j t u d e f g k l m o p q r s a b c)=
   some ([(.bool (decide (i<j)),.bool true),(I (Wr (i+j)),I (i+j)),(.int .u64 (IntKind.u64.wrap (i+j)),.int .u64 (i+j)),(.int .u64 ((i+j).fdiv 2),.int .u64 h),(I (Wr h),I h),(I (Wr (h*h)),I (h*h)),(.bool (decide (h*h>n)),.bool true)],
    SL n i h (I h) (I i) (I j) (.bool true) (I i) (I j) (I (i+j)) (.int .u64 (i+j)) (.int .u64 h) (I h) fpt (I h) (.bool true) (.bool false) a b (I h)):=by kernel_rfl
theorem Xz:ae1 Tryz.prog plan [(6,11,.bool false),(11,7,I (i-1))] 5 (SL n i j t u d e f g k l m o p q r s a b c)=
   some ([(.bool (decide (i<j)),.bool false),(I (Wr (i-1)),I (i-1))],I (i-1),hpN n):=by kernel_rfl
end
theorem PD{a b:Int}(h0:0<=a)(h:a<b):a*a<b*b:=by
 have c:a*a<=a*b:=Int.mul_le_mul_of_nonneg_left (by omega) h0
 have d:a*b<b*b:=Int.mul_lt_mul_of_pos_right h (by omega)
 omega
theorem XA{a:Int}(h0:0<=a)(h:a<=4000000):a*a<=16000000000000:=by
 have:a*a<=4000000*4000000:=Int.mul_le_mul h h h0 (by omega)
 omega
def XB(n r:Int):Prop:=0<=r/\r<=2000/\r*r<=n/\n<(r+1)*(r+1)
theorem Q4(n:Int)(h0:0<=n)(Z:n<=4000000):∀(k:Nat) (i j:Int) (A B c d f g l m o p q s t u w x y:Value),(j-i).toNat<=k->0<=i->i<=j->j<=n+1->(i=0∨(i-1)*(i-1)<=n)->n<j*j->
   iV Tryz.prog plan (fun v _=>∃r,XB n r/\v=I r) (SL n i j A B c d f g l m o p q s t u w x y):=by
 intro k;induction k with
 | zero=>
   intro i j A B c d f g l m o p q s t u w x y U J C L z D;have e:i=j:=by omega
   subst e;have O:1<=i:=by
    rcases Int.lt_or_le 0 i with E|E
    ·omega
    ·have:i=0:=by omega
     subst this;simp at D;omega
   refine WL (Xz n i i A B c d f g l m o p q s t u w x y) ?_ ⟨i-1,⟨by omega,?_,?_,?_⟩,rfl⟩
   ·simp only[List.forall_mem_cons]
    exact⟨bf (by omega),ie (gu (by omega) (by omega)),Gw⟩
   ·rcases z with z|z
    ·omega
    ·rcases Int.lt_or_le 2000 (i-1)with E|E
     ·have:=PD (a:=2000) (b:=i-1) (by omega) E
      omega
     ·exact E
   ·rcases z with z|z
    ·omega
    ·exact z
   ·have:i-1+1=i:=by omega
    rw[this];exact D
 | succ k M=>
   intro i j A B c d f g l m o p q s t u w x y U J C L z D;rcases Int.lt_or_le i j with F|V
   ·have hd:(i+j).fdiv 2=(i+j)/2:=Int.fdiv_eq_ediv_of_nonneg _ (by omega)
    obtain⟨h,W⟩:∃h,h=(i+j)/2:=⟨_,rfl⟩
    have N:i<=h:=by omega
    have X:h<j:=by omega
    have Y:=XA (a:=h) (by omega) (by omega)
    have Q:0<=h*h:=Int.mul_nonneg (by omega) (by omega)
    have R:(Value.int .u64 ((i+j).fdiv 2))=.int .u64 h:=by rw[hd,W]
    have T:(Value.int .u64 (IntKind.u64.wrap (i+j)))=.int .u64 (i+j):=by rw[ahL (by omega) (by omega)]
    rcases Int.lt_or_le n (h*h)with H|H
    ·refine(qx (aaR n i j h A B c d f g l m o p q s t u w x y) ?_ (.here (M _ _ _ _ _ _ _ _ _ _ _ _ _ _ _ _ _ _ _ (by omega) J N (by omega) z H))).all;simp only[List.forall_mem_cons]
     exact⟨bt F,ie (gu (by omega) (by omega)),T,R,ie (gu (by omega) (by omega)),ie (gu (by omega) (by omega)),bt H,Gw⟩
    ·refine(qx (aaQ n i j h A B c d f g l m o p q s t u w x y) ?_ (.here (M _ _ _ _ _ _ _ _ _ _ _ _ _ _ _ _ _ _ _ (by omega) (by omega) (by omega) L (.inr ?_) D))).all
     ·simp only[List.forall_mem_cons]
      exact⟨bt F,ie (gu (by omega) (by omega)),T,R,ie (gu (by omega) (by omega)),ie (gu (by omega) (by omega)),bf (by omega),ie (gu (by omega) (by omega)),Gw⟩
     ·have:h+1-1=h:=by omega
      rw[this];exact H
   ·exact M i j _ _ _ _ _ _ _ _ _ _ _ _ _ _ _ _ _ (by omega) J C L z D
theorem Q5(n:Int)(a:0<=n)(b:n<=4000000):bu Tryz.prog (fun v _=>∃r,XB n r/\v=I r) ⟨ak.enter Tryz.prog 45 #[I n],[],h0⟩:=by
 have c:(n+1)*1<=(n+1)*(n+1):=Int.mul_le_mul_of_nonneg_left (by omega) (by omega)
 refine(qx (aaP n) ?_ (.here (Q4 n a b (n+1).toNat 0 (n+1) _ _ _ _ _ _ _ _ _ _ _ _ _ _ _ _ _ (by omega) (by omega) (by omega) (by omega) (.inl rfl) (by omega)))).all.Dw;simp only[List.forall_mem_cons]
 exact⟨ie (gu (by omega) (by omega)),Gw⟩
def LP(n r:Int):Prop:=0<=r/\r*r<=n/\n<(r+1)*(r+1)
theorem zB{a b:Int}(h0:0<=a)(h:a<=b):a*a<=b*b:=by
 have c:a*a<=a*b:=Int.mul_le_mul_of_nonneg_left h h0
 have d:a*b<=b*b:=Int.mul_le_mul_of_nonneg_right h (by omega)
 omega
theorem ahR{n r q:Int}(h:LP n r)(k:LP n q):r=q:=by
 obtain⟨c,d,e⟩:=h
 obtain⟨f,g,i⟩:=k
 rcases Int.lt_trichotomy r q with l|l|l
 · have:=zB (a:=r+1) (b:=q) (by omega) (by omega);omega
 · exact l
 · have:=zB (a:=q+1) (b:=r) (by omega) (by omega);omega
open Classical in
noncomputable def rt(n:Int):Int:=if h:∃r,LP n r then h.choose else 0
theorem acI{n r:Int}(h:LP n r):r=rt n:=by
 have e:∃r,LP n r:=⟨r,h⟩
 unfold rt;rw[dif_pos e];exact ahR h e.choose_spec
theorem acJ:∀n:Nat,∃r:Int,LP n r
 | 0=>⟨0,by decide,by decide,by decide⟩
 | n+1=>by
   obtain⟨r,c,d,e⟩:=acJ n
   rcases Int.lt_or_le (n+1:Int) ((r+1)*(r+1))with l|l
   ·exact⟨r,c,by push_cast;omega,by push_cast;exact l⟩
   ·refine⟨r+1,by omega,by push_cast;exact l,?_⟩;have:=PD (a:=r+1) (b:=r+1+1) (by omega) (by omega)
    push_cast
    omega
theorem Jc{n:Int}(h:0<=n):LP n (rt n):=by
 obtain⟨r,a⟩:=acJ n.toNat
 rw[Int.toNat_of_nonneg h]at a;rw[←acI a];exact a
theorem fA{n x:Int}(h0:0<=n)(d:n<=4000000)(e:x=rt n):0<=x/\x<=2000:=by
 obtain⟨c,f,_⟩:=Jc h0
 subst e;refine⟨c,?_⟩;rcases Int.lt_or_le 2000 (rt n)with l|l
 · have:=zB (a:=2001) (b:=rt n) (by omega) (by omega);omega
 · exact l
noncomputable def sg(h z q y:Int):Int:=rt ((q-h)*(q-h)+(y-z)*(y-z))
theorem ahS(h z q y:Int)(t:h<q):q-h<=sg h z q y/\y-z<=sg h z q y/\z-y<=sg h z q y/\sg h z q y<=(q-h)+max (y-z) (z-y):=by
 unfold sg;obtain⟨a,i⟩:∃a,a=q-h:=⟨_,rfl⟩
 obtain⟨b,j⟩:∃b,b=y-z:=⟨_,rfl⟩
 have k:z-y=-b:=by omega
 rw[k,←i,←j];have u:0<a:=by omega
 have v:0<=a*a:=Int.mul_nonneg (by omega) (by omega)
 have w:0<=b*b:=by rcases Int.le_total 0 b with l|l;exact Int.mul_nonneg l l;exact Int.mul_nonneg_of_nonpos_of_nonpos l l
 obtain⟨m,o,p⟩:=Jc (n:=a*a+b*b) (by omega)
 obtain⟨r,s⟩:∃r,r=rt (a*a+b*b):=⟨_,rfl⟩
 rw[←s]at m o p⊢;have d:∀c:Int,0<=c->c*c<=a*a+b*b->c<=r:=fun c e f=>by
   rcases Int.lt_or_le r c with l|l
   ·have:=zB (a:=r+1) (b:=c) (by omega) (by omega);omega
   ·exact l
 have g:∀c:Int,0<=c->a*a+b*b<(c+1)*(c+1)->r<=c:=fun c e f=>by
   rcases Int.lt_or_le c r with l|l
   ·have:=zB (a:=c+1) (b:=r) (by omega) (by omega);omega
   ·exact l
 refine⟨d a (by omega) (by omega),?_,?_,?_⟩
 · rcases Int.le_total 0 b with l|l
   ·exact d b l (by omega)
   ·omega
 · rcases Int.le_total 0 b with l|l
   ·omega
   ·refine d (-b) (by omega) ?_;rw[Int.neg_mul_neg];omega
 · have pos:∀c:Int,0<=c->c*c=b*b->a*a+b*b<(a+c+1)*(a+c+1):=fun c e f=>by
    have x:=PD (a:=a+c) (b:=a+c+1) (by omega) (by omega)
    have A:(a+c)*(a+c)=a*a+c*c+(a*c+a*c):=by rw[Int.add_mul,Int.mul_add,Int.mul_add,Int.mul_comm c a];omega
    have B:0<=a*c:=Int.mul_nonneg (by omega) e
    omega
   rcases Int.le_total 0 b with l|l
   ·have:=g (a+b) (by omega) (pos b l rfl)
    omega
   ·have:=g (a+-b) (by omega) (pos (-b) (by omega) (Int.neg_mul_neg b b))
    omega
noncomputable def gL:List (Int×Int)->Int
 | (h,z)::(q,y)::r=>sg h z q y+gL ((q,y)::r)
 | _=>0
end Go.Am
namespace Go.Am
open Go.Proofs
theorem ou{x y:Int}(h:x=y):∀_:AH,∃z:Int,z=y/\(Value.tuple ⟨[zJ x,zJ 0]⟩)=.tuple ⟨[zJ z,zJ 0]⟩:=fun _=>⟨x,h,rfl⟩
def bn(b:Nat)(a:Int)(c:Nat)(d:Option Addr)(e f:Nat):Value:=.agg ⟨[zJ a,zS 0 b c,.slice none 0 0,.slice d e f]⟩
def bo(N b:Nat)(a:Int)(c:Option Addr)(d e:Nat):Value:=.agg ⟨[zJ a,.slice (some ⟨N,0,none⟩) b b,.slice none 0 0,.slice c d e]⟩
def gY:List (Int×Int)->Int->Int
 | (p,x)::(q,y)::l,h=>if h<=q then x+(y-x)*(h-p)/(q-p)else gY ((q,y)::l) h
 | _,_=>0
theorem afr{a n:Int}(h:0<n)(k:¬Int.tmod a n<0):Int.tdiv a n=a/n:=by
 have e:=Int.tmod_add_mul_tdiv a n
 have b:=Int.tmod_lt_of_pos a h
 have c:a=Int.tmod a n+Int.tdiv a n*n:=by rw[Int.mul_comm];omega
 have d:(Int.tmod a n+Int.tdiv a n*n)/n=Int.tmod a n/n+Int.tdiv a n:=Int.add_mul_ediv_right _ _ (by omega)
 rw[←c,Int.ediv_eq_zero_of_lt (by omega) b]at d;omega
theorem afs{a n:Int}(h:0<n)(k:Int.tmod a n<0):Int.tdiv a n-1=a/n:=by
 have e:=Int.tmod_add_mul_tdiv a n
 have f:-n<Int.tmod a n:=(Pv h).1;have c:a=(Int.tmod a n+n)+(Int.tdiv a n-1)*n:=by
   have:(Int.tdiv a n-1)*n=n*Int.tdiv a n-n:=by rw[Int.sub_mul,Int.one_mul,Int.mul_comm]
   omega
 have d:((Int.tmod a n+n)+(Int.tdiv a n-1)*n)/n=(Int.tmod a n+n)/n+(Int.tdiv a n-1):=Int.add_mul_ediv_right _ _ (by omega)
 rw[←c,Int.ediv_eq_zero_of_lt (a:=Int.tmod a n+n) (b:=n) (by omega) (by omega)]at d;omega
theorem aZ{z a n:Int}(h:0<n)(k:¬Int.tmod a n<0):z+Int.tdiv a n=z+a/n:=by rw[afr h k]
theorem bg{z a n:Int}(h:0<n)(k:Int.tmod a n<0):z+(Int.tdiv a n-1)=z+a/n:=by rw[afs h k]
def qW:List (Int×Int)->Int
 | (p,x)::(q,y)::l=>(x+y)*(q-p)+qW ((q,y)::l)
 | _=>0
def qX(h0 a b c d e:Int):Array Value:=⟨[zJ h0,zJ a,zJ b,zJ c,zJ d,zJ e]⟩
def oz(h0 a b c d e f g h:Int):Array Value:=⟨[zJ h0,zJ a,zJ b,zJ c,zJ d,zJ e,zJ f,zJ g,zJ h]⟩
def lI(h0 a b c d e f g h i j k:Int):Array Value:=⟨[zJ h0,zJ a,zJ b,zJ c,zJ d,zJ e,zJ f,zJ g,zJ h,zJ i,zJ j,zJ k]⟩
def pc5(h0 a b c d e f g h i j k l m n:Int):Array Value:=⟨[zJ h0,zJ a,zJ b,zJ c,zJ d,zJ e,zJ f,zJ g,zJ h,zJ i,zJ j,zJ k,zJ l,zJ m,zJ n]⟩
def bv(np:Nat)(ag:Int)(cp:Nat)(a:Option Addr)(b c:Nat)(d:Option Addr)(e cs:Nat):Value:=.agg ⟨[zJ ag,zS 0 np cp,.slice a b c,.slice d e cs]⟩
end Go.Am
