import Derived.Conc.WgLib
import Derived.Test.YtjgfemidkffdjaaGreatH23
import Derived.Test.YtjgfemidkffdjaaGreatH24
set_option linter.all false
namespace Go.Am
theorem Ht{g d:Type}{I:d->Prop}{f:g->d->Option (ForInStep d)}(i:∀a b r,I b->f a b=some r->I r.value):∀(l:List g) {b c:d},I b->forIn l b f=some c->I c
 | [],b,c,e,h=>by
  rw[List.forIn_nil]at h;cases h;exact e
 |a::l,b,c,e,h=>by
  rw[List.forIn_cons]at h;simp only[bind,Option.bind_eq_some_iff]at h;obtain⟨r,k,h⟩:=h
  have j:=i a b r e k
  cases r with
  |done x=>cases h;exact j
  |yield x=>exact Ht i l j h
theorem AB{z:Value}(h:Plain z):∀x∈z.cells,Plain x:=by
 intro x b;obtain⟨d,c⟩:=nX h
 obtain⟨i,a⟩:=Array.getElem?_of_mem b
 exact c i x x a a
theorem Vr{b:Option (Array Value)}{i:TypeInfo}{n:Nat}(c:∀z,i.zero=some z->Plain z)(d:∀a,b=some a->∀x∈a,Plain x):∀a,(if n>Made.mostCells then none else b.bind fun u=>i.zero.bind fun z=>some (u++z.cells))=some a->∀x∈a,Plain x:=by
 intro a h x e;split at h
 ·cases h
 ·simp only[Option.bind_eq_some_iff]at h;obtain⟨u,f,z,g,j⟩:=h
  cases j;rcases Array.mem_append.1 e with k|k
  ·exact d u f x k
  ·exact AB (c z g) x k
theorem Jk{info:TypeId->Option TypeInfo}{l:Array Field}{i:TypeInfo}{z:Value}(m:∀t i z,info t=some i->i.zero=some z->Plain z)(h:Made.reckonStruct info l=some i)(d:i.zero=some z):Plain z:=by
 unfold Made.reckonStruct at h;simp only[bind,Option.bind_eq_some_iff,pure]at h;obtain⟨a,k,h⟩:=h
 have e:∀u,a.2.2.2.2.2.2.2.1=some u->∀x∈u,Plain x:=by
  rw[←Array.forIn_toList]at k;refine Ht (I:=fun s=>∀u,s.2.2.2.2.2.2.2.1=some u->∀x∈u,Plain x) (fun f b r o c=>?_) _ (fun u p x q=>?_) k
  ·simp only[Option.bind_eq_some_iff]at c;obtain⟨j,v,c⟩:=c
   have w:=fun n=>Vr (n:=n) (i:=j) (fun z d=>m _ _ _ v d) o
   repeat' first
    | (cases c;exact w _)
    | (cases c;done)
    | (simp only[Option.bind_eq_some_iff]at c;obtain⟨_,_,c⟩:=c)
    | split at c
    | (exact absurd c (by simp))
  ·cases p;simp at q
 have g:∀{z:Value},a.2.2.2.2.2.2.2.1.map .agg=some z->Plain z:=fun{z} d=>by
  rw[Option.map_eq_some_iff]at d;obtain⟨u,y,rfl⟩:=d
  exact uN (e u y)
 split at h<;>(cases h;exact g d)
theorem Jl{info:TypeId->Option TypeInfo}{d:TypeDesc}{i:TypeInfo}{z:Value}(c:∀t i z,info t=some i->i.zero=some z->Plain z)(h:Made.reckon info d=some i)(a:i.zero=some z):Plain z:=by
 unfold Made.reckon at h;split at h;case h_7=>exact Jk c h a
 case h_6=>
  simp only[bind,Option.bind_eq_some_iff,pure]at h;obtain⟨j,g,s,l,h⟩:=h
  cases h;dsimp only at a;split at a
  ·cases a
  ·split at a
   ·cases a;exact uN fun x b=>by simp at b
   ·rw[Option.map_eq_some_iff]at a;obtain⟨u,k,rfl⟩:=a
    refine uN fun x b=>?_
    rw[Array.mem_flatten]at b;obtain⟨xs,e,f⟩:=b
    rw[Array.mem_replicate]at e;rw[e.2]at f;exact AB (c _ _ _ g k) x f
 all_goals try simp only[bind,Option.bind_eq_some_iff,pure]at h
 all_goals repeat' first
  |(obtain⟨_,_,h⟩:=h)
  |(split at h)
 all_goals first
  |(cases a;first|exact .gG|exact .nilslice _ _|exact .dO|exact .eH|exact .nilFunc)
  |(cases h;cases a;first|exact .gG|exact .nilslice _ _|exact .dO|exact .eH|exact .nilFunc)
  |(cases h;done)
  |(exfalso;simp at h;done)
  |(simp only[Option.bind_eq_some_iff]at h;obtain⟨_,_,h⟩:=h;cases h;cases a;first|exact .gG|exact .nilslice _ _|exact .dO|exact .eH|exact .nilFunc)
def Ue:Value->Bool
 | .chan none=>true
 |_=>false
def OJ(v:Value):Bool:=iQ 12 v||Ue v
def OL(T:Tables):Bool:=T.types.toList.all fun i=>match i.zero with
 |some z=>OJ z
 |none=>true
theorem DV{T:Tables}(h:OL T=true):∀(n:Nat) (t:TypeId) (i:TypeInfo) (z:Value),Made.infoAt T n t=some i->i.zero=some z->Plain z
 |0,t,i,z,e,_=>by cases e
 |n+1,t,i,z,e,a=>by
  unfold Made.infoAt at e;split at e
  ·unfold OL at h;rw[List.all_eq_true]at h;have:=h i (get_mem e)
   rw[a]at this;have this:OJ z=true:=this
   unfold OJ at this;rw[Bool.or_eq_true]at this;rcases this with k|k
   ·exact iG k
   ·unfold Ue at k;split at k
    · exact .eH
    · cases k
  ·simp only[Option.bind_eq_some_iff]at e;obtain⟨d,_,e⟩:=e
   exact Jl (fun t i z b c=>DV h n t i z b c) e a
theorem Zg{P:Program}(h:OL P.toTables=true):aO P:=⟨fun t i z d b c=>by
 have a:P.toTables.info? t=some i:=d
 unfold Tables.info? at a;split at a
 ·rename_i e;exact(DV h 1 t i z (by unfold Made.infoAt;rw[if_pos e];exact a) b).vr c
 ·exact(DV h _ t i z a b).vr c⟩
end Go.Am
namespace Go.Am
open Go.Proofs
theorem Zh:Go.Conc.Lib.WgLib Tryz.prog bD:=by
 constructor<;>first|kernel_rfl|(intro w;kernel_rfl)|skip
theorem Zi:Go.Mx.fC Tryz.prog uj:=by
 constructor<;>first|kernel_rfl|(intro w;kernel_rfl)|(constructor<;>first|kernel_rfl|(intro w;kernel_rfl)|skip)|skip
theorem Zj:xk Tryz.prog bD:=⟨Zh,by kernel_rfl,by kernel_rfl,by kernel_rfl⟩
theorem Zk:aZ Tryz.prog ai:=abp
theorem Zl:gq Tryz.prog ah:=abq
instance Zm:aO Tryz.prog:=Zg (by kernel_rfl)
end Go.Am
namespace Go.Am
open Go.Proofs
noncomputable def aY(a:List Ct):TX:=⟨Tryz.prog,ai,ah,ctI a⟩
noncomputable abbrev zC:AS->Prop:=fun s=>Vp (aY []) 3 5 s=true
theorem bf{a:List Ct}(h:∀c∈a,gW Tryz.prog c):Jh (aY a):=⟨Zm,Zk,Zl,afO (P:=Tryz.prog) h⟩
def pR:List (Int×Int×Int×Int×Int)->Prop
 | []=>True
 |(a,b,c,d,e)::r=>(0<=a/\a<=b/\b<=99/\b-a<3/\0<=c/\c<=d/\d<=199/\0<=e/\e<=199)/\pR r
def pU(a:Int):List (Int×Int×Int)->Prop
 | []=>True
 |(f,u,v)::r=>(0<=f/\f<a/\-199<=u/\u<=v/\v<=199)/\pU a r
def Hd(pw qs:Int):Prop:=(0<=pw/\pw<=99)/\(0<=qs/\qs<=3)
def bm(pw qs:Int)(op:Option Addr)(a cp:Nat)(b:Option Addr)(nt ct:Nat):Value:=.agg ⟨[zJ pw,zJ qs,.slice op a cp,.slice b nt ct]⟩
section
variable{b c:Int}{d a e f:Nat}{op g:Option Addr}
abbrev adT:HT:=.br 0 6 16 (.br 0 6 22 (.val 6 9 24 (.br 0 1 25 .no (.br 3 6 10 (.br 0 6 16 (.br 0 6 22 (.br 5 4 6 .no (.br 0 4 10 .no (.br 24 6 10 (.br 0 6 16 (.br 0 6 22 (.val 6 9 24 (.br 0 1 25 .no (.br 3 6 10 (.br 0 6 16 (.br 0 6 22 (.br 5 4 6 .no (.br 0 4 10 .no (.ret 18 1))) .no) .no) .no))) .no) .no) .no))) .no) .no) .no))) .no) .no
abbrev adU:HT:=.br 0 4 13 (.br 10 6 10 (.br 0 6 16 (.br 0 6 22 (.br 18 5 9 (.br 0 4 13 (.br 10 6 10 (.br 0 6 16 (.br 0 6 22 (.ret 11 1) (.ret 6 1)) (.ret 6 1)) (.ret 6 1)) (.ret 9 1)) (.ret 9 1)) (.ret 6 1)) (.ret 6 1)) (.ret 6 1)) (.ret 9 1)
abbrev adV:HT:=.br 2 4 6 (.br 0 4 10 (.br 6 6 10 (.br 0 6 16 (.br 0 6 22 (.val 20 10 18 (.br 2 4 6 (.br 0 4 10 (.br 6 6 10 (.br 0 6 16 (.br 0 6 22 (.ret 18 1) .no) .no) .no) .no) .no)) .no) .no) .no) .no) .no
abbrev adW:HT:=.br 0 6 16 (.br 0 6 22 (.val 6 9 24 (.br 0 1 25 .no (.br 3 6 10 (.br 0 6 16 (.br 0 6 22 (.br 5 4 6 .no (.br 0 4 10 .no (.br 24 6 10 adT .no))) .no) .no) .no))) .no) .no
theorem Zo(Q:Value->Prop)(K:AS->Prop):tx (aY []) Q K (.br 3 5 9 (.br 0 4 13 (.br 5 5 9 (.br 0 4 13 (.val 5 6 18 (.br 2 5 9 (.br 0 4 13 .no (.ret 6 1)) (.ret 6 1))) (.ret 6 1)) (.ret 6 1)) (.ret 6 1)) (.ret 6 1)) ⟨aN.enter Tryz.prog 13 ⟨[bm b c op a d g e f]⟩,[],fF 4 []⟩=(BR (decide (0<=b)) (BR (decide (b<=99)) (BR (decide (0<=c)) (BR (decide (c<=3)) (∀h,h=((a:Nat):Int)->BR (decide (2<=h)) (BR (decide (h<=4)) (False) (Q (zJ 2))) (Q (zJ 2))) (Q (zJ 1))) (Q (zJ 1))) (Q (zJ 1))) (Q (zJ 1))):=by kernel_rfl
theorem afP(h:¬(2<=a/\a<=4)):dQ Tryz.prog (fun v _=>∃x:Int,(x=0->False)/\v=zJ x) ⟨aN.enter Tryz.prog 13 ⟨[bm b c op a d g e f]⟩,[],fF 4 []⟩:=by
 refine bz (bf gX) (Zo _ _) ?_;iterate 4 refine BR.mk (fun _=>?_) fun _=>nR (by omega)
 intro i _;refine BR.mk (fun _=>?_) fun _=>nR (by omega)
 refine BR.rr ?_;exact nR (by omega)
end
end Go.Am
namespace Go.Am
open Go.Proofs
section
variable{h i a b j k l a1 c c1 d1 m d e c2 d2 n f g c3 d3 o:Int}{p q r:Array Value}{s t:Nat}{u:Option Addr}
theorem Vs(Q:Value->Prop)(K:AS->Prop):tx (aY []) Q K (.br 3 5 9 (.br 0 4 13 (.br 5 5 9 (.br 0 4 13 (.br 18 6 10 (.br 0 6 16 (.br 0 6 22 (.val 3 9 44 (.br 0 1 45 (.ret 3 1) (.br 2 6 10 (.br 0 6 16 (.br 0 6 22 (.br 5 5 9 (.br 0 4 13 (.br 12 6 10 (.br 0 6 16 (.br 0 6 22 (.val 3 9 44 (.br 0 1 45 (.ret 3 1) (.br 2 6 10 (.br 0 6 16 (.br 0 6 22 (.br 5 5 9 (.br 0 4 13 (.br 12 6 10 (.br 0 6 16 (.br 0 6 22 (.val 3 9 44 (.br 0 1 45 (.ret 3 1) (.br 2 6 10 (.br 0 6 16 (.br 0 6 22 (.br 5 5 9 (.br 0 4 13 (.br 12 6 10 (.br 0 6 16 (.br 0 6 22 (.val 3 9 44 (.br 0 1 45 (.ret 3 1) (.br 2 6 10 (.br 0 6 16 (.br 0 6 22 (.br 5 5 9 (.br 0 4 13 (.ret 16 1) (.ret 6 1)) (.ret 6 1)) (.ret 6 1)) (.ret 6 1)) (.ret 6 1)))) (.ret 6 1)) (.ret 6 1)) (.ret 6 1)) (.ret 6 1)) (.ret 6 1)) (.ret 6 1)) (.ret 6 1)) (.ret 6 1)))) (.ret 6 1)) (.ret 6 1)) (.ret 6 1)) (.ret 6 1)) (.ret 6 1)) (.ret 6 1)) (.ret 6 1)) (.ret 6 1)))) (.ret 6 1)) (.ret 6 1)) (.ret 6 1)) (.ret 6 1)) (.ret 6 1)) (.ret 6 1)) (.ret 6 1)) (.ret 6 1)))) (.ret 6 1)) (.ret 6 1)) (.ret 6 1)) (.ret 6 1)) (.ret 6 1)) (.ret 6 1)) (.ret 6 1)) ⟨aN.enter Tryz.prog 13 ⟨[.agg ⟨[zJ h,zJ i,zS 0 4 s,.slice u 0 t]⟩]⟩,[],fF 4 (L4 ⟨[zJ a,zJ b,zJ j,zJ k,zJ l,zJ a1,zJ c,zJ c1,zJ d1,zJ m,zJ d,zJ e,zJ c2,zJ d2,zJ n,zJ f,zJ g,zJ c3,zJ d3,zJ o]⟩ p q r)⟩=(BR (decide (0<=h)) (BR (decide (h<=99)) (BR (decide (0<=i)) (BR (decide (i<=3)) (BR (decide (0<=a)) (BR (decide (a<=b)) (BR (decide (b<=99)) (∀v,v=wi (b-a)->BR (decide (v>=3)) (Q (zJ 1)) (BR (decide (0<=j)) (BR (decide (j<=k)) (BR (decide (k<=199)) (BR (decide (0<=l)) (BR (decide (l<=199)) (BR (decide (0<=a1)) (BR (decide (a1<=c)) (BR (decide (c<=99)) (∀w,w=wi (c-a1)->BR (decide (w>=3)) (Q (zJ 1)) (BR (decide (0<=c1)) (BR (decide (c1<=d1)) (BR (decide (d1<=199)) (BR (decide (0<=m)) (BR (decide (m<=199)) (BR (decide (0<=d)) (BR (decide (d<=e)) (BR (decide (e<=99)) (∀x,x=wi (e-d)->BR (decide (x>=3)) (Q (zJ 1)) (BR (decide (0<=c2)) (BR (decide (c2<=d2)) (BR (decide (d2<=199)) (BR (decide (0<=n)) (BR (decide (n<=199)) (BR (decide (0<=f)) (BR (decide (f<=g)) (BR (decide (g<=99)) (∀y,y=wi (g-f)->BR (decide (y>=3)) (Q (zJ 1)) (BR (decide (0<=c3)) (BR (decide (c3<=d3)) (BR (decide (d3<=199)) (BR (decide (0<=o)) (BR (decide (o<=199)) (Q (zJ 0)) (Q (zJ 1))) (Q (zJ 1))) (Q (zJ 1))) (Q (zJ 1))) (Q (zJ 1)))) (Q (zJ 1))) (Q (zJ 1))) (Q (zJ 1))) (Q (zJ 1))) (Q (zJ 1))) (Q (zJ 1))) (Q (zJ 1))) (Q (zJ 1)))) (Q (zJ 1))) (Q (zJ 1))) (Q (zJ 1))) (Q (zJ 1))) (Q (zJ 1))) (Q (zJ 1))) (Q (zJ 1))) (Q (zJ 1)))) (Q (zJ 1))) (Q (zJ 1))) (Q (zJ 1))) (Q (zJ 1))) (Q (zJ 1))) (Q (zJ 1))) (Q (zJ 1))) (Q (zJ 1)))) (Q (zJ 1))) (Q (zJ 1))) (Q (zJ 1))) (Q (zJ 1))) (Q (zJ 1))) (Q (zJ 1))) (Q (zJ 1))):=by kernel_rfl
theorem ace:dQ Tryz.prog (fun v _=>∃x:Int,(x=0->Hd h i/\pR [(a,b,j,k,l),(a1,c,c1,d1,m),(d,e,c2,d2,n),(f,g,c3,d3,o)]/\pU 4 [])/\v=zJ x) ⟨aN.enter Tryz.prog 13 ⟨[.agg ⟨[zJ h,zJ i,zS 0 4 s,.slice u 0 t]⟩]⟩,[],fF 4 (L4 ⟨[zJ a,zJ b,zJ j,zJ k,zJ l,zJ a1,zJ c,zJ c1,zJ d1,zJ m,zJ d,zJ e,zJ c2,zJ d2,zJ n,zJ f,zJ g,zJ c3,zJ d3,zJ o]⟩ p q r)⟩:=by
 refine bz (bf gX) (Vs _ _) ?_;iterate 43 (first|refine BR.mk (fun _=>?_) fun _=>nR (by omega)|refine BR.mk (fun _=>nR (by omega)) fun _=>?_|refine va fun _ _=>?_)
 refine BR.mk (fun _=>?_) fun _=>nR (by omega)
 exact lf0 ⟨by simp only[Hd]<;>omega,by simp only[pR,and_true]<;>omega,by simp only[pU,and_true]<;>omega⟩
end
section
variable{h i a b j k l a1 c c1 d1 m d e c2 d2 n f g c3 d3 o p u0 v0:Int}{tc q r:Array Value}{s t:Nat}{ot:Option Addr}
theorem Vt(Q:Value->Prop)(K:AS->Prop):tx (aY []) Q K (.br 3 5 9 (.br 0 4 13 (.br 5 5 9 (.br 0 4 13 (.br 18 6 10 (.br 0 6 16 (.br 0 6 22 (.val 3 9 44 (.br 0 1 45 (.ret 3 1) (.br 2 6 10 (.br 0 6 16 (.br 0 6 22 (.br 5 5 9 (.br 0 4 13 (.br 12 6 10 (.br 0 6 16 (.br 0 6 22 (.val 3 9 44 (.br 0 1 45 (.ret 3 1) (.br 2 6 10 (.br 0 6 16 (.br 0 6 22 (.br 5 5 9 (.br 0 4 13 (.br 12 6 10 (.br 0 6 16 (.br 0 6 22 (.val 3 9 44 (.br 0 1 45 (.ret 3 1) (.br 2 6 10 (.br 0 6 16 (.br 0 6 22 (.br 5 5 9 (.br 0 4 13 (.br 12 6 10 (.br 0 6 16 (.br 0 6 22 (.val 3 9 44 (.br 0 1 45 (.ret 3 1) (.br 2 6 10 (.br 0 6 16 (.br 0 6 22 (.br 5 5 9 (.br 0 4 13 (.br 23 5 9 (.br 0 4 13 (.br 10 6 10 (.br 0 6 16 (.br 0 6 22 (.ret 11 1) (.ret 6 1)) (.ret 6 1)) (.ret 6 1)) (.ret 9 1)) (.ret 9 1)) (.ret 6 1)) (.ret 6 1)) (.ret 6 1)) (.ret 6 1)) (.ret 6 1)))) (.ret 6 1)) (.ret 6 1)) (.ret 6 1)) (.ret 6 1)) (.ret 6 1)) (.ret 6 1)) (.ret 6 1)) (.ret 6 1)))) (.ret 6 1)) (.ret 6 1)) (.ret 6 1)) (.ret 6 1)) (.ret 6 1)) (.ret 6 1)) (.ret 6 1)) (.ret 6 1)))) (.ret 6 1)) (.ret 6 1)) (.ret 6 1)) (.ret 6 1)) (.ret 6 1)) (.ret 6 1)) (.ret 6 1)) (.ret 6 1)))) (.ret 6 1)) (.ret 6 1)) (.ret 6 1)) (.ret 6 1)) (.ret 6 1)) (.ret 6 1)) (.ret 6 1)) ⟨aN.enter Tryz.prog 13 ⟨[.agg ⟨[zJ h,zJ i,zS 0 4 s,zS 1 1 t]⟩]⟩,[],fF 4 (L4 ⟨[zJ a,zJ b,zJ j,zJ k,zJ l,zJ a1,zJ c,zJ c1,zJ d1,zJ m,zJ d,zJ e,zJ c2,zJ d2,zJ n,zJ f,zJ g,zJ c3,zJ d3,zJ o]⟩ ⟨[zJ p,zJ u0,zJ v0]⟩ q r)⟩=(BR (decide (0<=h)) (BR (decide (h<=99)) (BR (decide (0<=i)) (BR (decide (i<=3)) (BR (decide (0<=a)) (BR (decide (a<=b)) (BR (decide (b<=99)) (∀u,u=wi (b-a)->BR (decide (u>=3)) (Q (zJ 1)) (BR (decide (0<=j)) (BR (decide (j<=k)) (BR (decide (k<=199)) (BR (decide (0<=l)) (BR (decide (l<=199)) (BR (decide (0<=a1)) (BR (decide (a1<=c)) (BR (decide (c<=99)) (∀v,v=wi (c-a1)->BR (decide (v>=3)) (Q (zJ 1)) (BR (decide (0<=c1)) (BR (decide (c1<=d1)) (BR (decide (d1<=199)) (BR (decide (0<=m)) (BR (decide (m<=199)) (BR (decide (0<=d)) (BR (decide (d<=e)) (BR (decide (e<=99)) (∀w,w=wi (e-d)->BR (decide (w>=3)) (Q (zJ 1)) (BR (decide (0<=c2)) (BR (decide (c2<=d2)) (BR (decide (d2<=199)) (BR (decide (0<=n)) (BR (decide (n<=199)) (BR (decide (0<=f)) (BR (decide (f<=g)) (BR (decide (g<=99)) (∀x,x=wi (g-f)->BR (decide (x>=3)) (Q (zJ 1)) (BR (decide (0<=c3)) (BR (decide (c3<=d3)) (BR (decide (d3<=199)) (BR (decide (0<=o)) (BR (decide (o<=199)) (BR (decide (0<=p)) (BR (decide (p<=3)) (BR (decide ((-199)<=u0)) (BR (decide (u0<=v0)) (BR (decide (v0<=199)) (Q (zJ 0)) (Q (zJ 1))) (Q (zJ 1))) (Q (zJ 1))) (Q (zJ 6))) (Q (zJ 6))) (Q (zJ 1))) (Q (zJ 1))) (Q (zJ 1))) (Q (zJ 1))) (Q (zJ 1)))) (Q (zJ 1))) (Q (zJ 1))) (Q (zJ 1))) (Q (zJ 1))) (Q (zJ 1))) (Q (zJ 1))) (Q (zJ 1))) (Q (zJ 1)))) (Q (zJ 1))) (Q (zJ 1))) (Q (zJ 1))) (Q (zJ 1))) (Q (zJ 1))) (Q (zJ 1))) (Q (zJ 1))) (Q (zJ 1)))) (Q (zJ 1))) (Q (zJ 1))) (Q (zJ 1))) (Q (zJ 1))) (Q (zJ 1))) (Q (zJ 1))) (Q (zJ 1))) (Q (zJ 1)))) (Q (zJ 1))) (Q (zJ 1))) (Q (zJ 1))) (Q (zJ 1))) (Q (zJ 1))) (Q (zJ 1))) (Q (zJ 1))):=by kernel_rfl
theorem acf:dQ Tryz.prog (fun v _=>∃x:Int,(x=0->Hd h i/\pR [(a,b,j,k,l),(a1,c,c1,d1,m),(d,e,c2,d2,n),(f,g,c3,d3,o)]/\pU 4 [(p,u0,v0)])/\v=zJ x) ⟨aN.enter Tryz.prog 13 ⟨[.agg ⟨[zJ h,zJ i,zS 0 4 s,zS 1 1 t]⟩]⟩,[],fF 4 (L4 ⟨[zJ a,zJ b,zJ j,zJ k,zJ l,zJ a1,zJ c,zJ c1,zJ d1,zJ m,zJ d,zJ e,zJ c2,zJ d2,zJ n,zJ f,zJ g,zJ c3,zJ d3,zJ o]⟩ ⟨[zJ p,zJ u0,zJ v0]⟩ q r)⟩:=by
 refine bz (bf gX) (Vt _ _) ?_;iterate 48 (first|refine BR.mk (fun _=>?_) fun _=>nR (by omega)|refine BR.mk (fun _=>nR (by omega)) fun _=>?_|refine va fun _ _=>?_)
 refine BR.mk (fun _=>?_) fun _=>nR (by omega)
 exact lf0 ⟨by simp only[Hd]<;>omega,by simp only[pR,and_true]<;>omega,by simp only[pU,and_true]<;>omega⟩
end
section
variable{h i a b j k l a1 c c1 d1 m d e c2 d2 n f g c3 d3 o p u0 v0 q r v1:Int}{tc s t:Array Value}{u w:Nat}{ot:Option Addr}
theorem Vu(Q:Value->Prop)(K:AS->Prop):tx (aY []) Q K (.br 3 5 9 (.br 0 4 13 (.br 5 5 9 (.br 0 4 13 (.br 18 6 10 (.br 0 6 16 (.br 0 6 22 (.val 3 9 44 (.br 0 1 45 (.ret 3 1) (.br 2 6 10 (.br 0 6 16 (.br 0 6 22 (.br 5 5 9 (.br 0 4 13 (.br 12 6 10 (.br 0 6 16 (.br 0 6 22 (.val 3 9 44 (.br 0 1 45 (.ret 3 1) (.br 2 6 10 (.br 0 6 16 (.br 0 6 22 (.br 5 5 9 (.br 0 4 13 (.br 12 6 10 (.br 0 6 16 (.br 0 6 22 (.val 3 9 44 (.br 0 1 45 (.ret 3 1) (.br 2 6 10 (.br 0 6 16 (.br 0 6 22 (.br 5 5 9 (.br 0 4 13 (.br 12 6 10 (.br 0 6 16 (.br 0 6 22 (.val 3 9 44 (.br 0 1 45 (.ret 3 1) (.br 2 6 10 (.br 0 6 16 (.br 0 6 22 (.br 5 5 9 (.br 0 4 13 (.br 23 5 9 adU (.ret 9 1)) (.ret 6 1)) (.ret 6 1)) (.ret 6 1)) (.ret 6 1)) (.ret 6 1)))) (.ret 6 1)) (.ret 6 1)) (.ret 6 1)) (.ret 6 1)) (.ret 6 1)) (.ret 6 1)) (.ret 6 1)) (.ret 6 1)))) (.ret 6 1)) (.ret 6 1)) (.ret 6 1)) (.ret 6 1)) (.ret 6 1)) (.ret 6 1)) (.ret 6 1)) (.ret 6 1)))) (.ret 6 1)) (.ret 6 1)) (.ret 6 1)) (.ret 6 1)) (.ret 6 1)) (.ret 6 1)) (.ret 6 1)) (.ret 6 1)))) (.ret 6 1)) (.ret 6 1)) (.ret 6 1)) (.ret 6 1)) (.ret 6 1)) (.ret 6 1)) (.ret 6 1)) ⟨aN.enter Tryz.prog 13 ⟨[.agg ⟨[zJ h,zJ i,zS 0 4 u,zS 1 2 w]⟩]⟩,[],fF 4 (L4 ⟨[zJ a,zJ b,zJ j,zJ k,zJ l,zJ a1,zJ c,zJ c1,zJ d1,zJ m,zJ d,zJ e,zJ c2,zJ d2,zJ n,zJ f,zJ g,zJ c3,zJ d3,zJ o]⟩ ⟨[zJ p,zJ u0,zJ v0,zJ q,zJ r,zJ v1]⟩ s t)⟩=(BR (decide (0<=h)) (BR (decide (h<=99)) (BR (decide (0<=i)) (BR (decide (i<=3)) (BR (decide (0<=a)) (BR (decide (a<=b)) (BR (decide (b<=99)) (∀v,v=wi (b-a)->BR (decide (v>=3)) (Q (zJ 1)) (BR (decide (0<=j)) (BR (decide (j<=k)) (BR (decide (k<=199)) (BR (decide (0<=l)) (BR (decide (l<=199)) (BR (decide (0<=a1)) (BR (decide (a1<=c)) (BR (decide (c<=99)) (∀x,x=wi (c-a1)->BR (decide (x>=3)) (Q (zJ 1)) (BR (decide (0<=c1)) (BR (decide (c1<=d1)) (BR (decide (d1<=199)) (BR (decide (0<=m)) (BR (decide (m<=199)) (BR (decide (0<=d)) (BR (decide (d<=e)) (BR (decide (e<=99)) (∀y,y=wi (e-d)->BR (decide (y>=3)) (Q (zJ 1)) (BR (decide (0<=c2)) (BR (decide (c2<=d2)) (BR (decide (d2<=199)) (BR (decide (0<=n)) (BR (decide (n<=199)) (BR (decide (0<=f)) (BR (decide (f<=g)) (BR (decide (g<=99)) (∀z,z=wi (g-f)->BR (decide (z>=3)) (Q (zJ 1)) (BR (decide (0<=c3)) (BR (decide (c3<=d3)) (BR (decide (d3<=199)) (BR (decide (0<=o)) (BR (decide (o<=199)) (BR (decide (0<=p)) (BR (decide (p<=3)) (BR (decide ((-199)<=u0)) (BR (decide (u0<=v0)) (BR (decide (v0<=199)) (BR (decide (0<=q)) (BR (decide (q<=3)) (BR (decide ((-199)<=r)) (BR (decide (r<=v1)) (BR (decide (v1<=199)) (Q (zJ 0)) (Q (zJ 1))) (Q (zJ 1))) (Q (zJ 1))) (Q (zJ 6))) (Q (zJ 6))) (Q (zJ 1))) (Q (zJ 1))) (Q (zJ 1))) (Q (zJ 6))) (Q (zJ 6))) (Q (zJ 1))) (Q (zJ 1))) (Q (zJ 1))) (Q (zJ 1))) (Q (zJ 1)))) (Q (zJ 1))) (Q (zJ 1))) (Q (zJ 1))) (Q (zJ 1))) (Q (zJ 1))) (Q (zJ 1))) (Q (zJ 1))) (Q (zJ 1)))) (Q (zJ 1))) (Q (zJ 1))) (Q (zJ 1))) (Q (zJ 1))) (Q (zJ 1))) (Q (zJ 1))) (Q (zJ 1))) (Q (zJ 1)))) (Q (zJ 1))) (Q (zJ 1))) (Q (zJ 1))) (Q (zJ 1))) (Q (zJ 1))) (Q (zJ 1))) (Q (zJ 1))) (Q (zJ 1)))) (Q (zJ 1))) (Q (zJ 1))) (Q (zJ 1))) (Q (zJ 1))) (Q (zJ 1))) (Q (zJ 1))) (Q (zJ 1))):=by kernel_rfl
theorem acg:dQ Tryz.prog (fun v _=>∃x:Int,(x=0->Hd h i/\pR [(a,b,j,k,l),(a1,c,c1,d1,m),(d,e,c2,d2,n),(f,g,c3,d3,o)]/\pU 4 [(p,u0,v0),(q,r,v1)])/\v=zJ x) ⟨aN.enter Tryz.prog 13 ⟨[.agg ⟨[zJ h,zJ i,zS 0 4 u,zS 1 2 w]⟩]⟩,[],fF 4 (L4 ⟨[zJ a,zJ b,zJ j,zJ k,zJ l,zJ a1,zJ c,zJ c1,zJ d1,zJ m,zJ d,zJ e,zJ c2,zJ d2,zJ n,zJ f,zJ g,zJ c3,zJ d3,zJ o]⟩ ⟨[zJ p,zJ u0,zJ v0,zJ q,zJ r,zJ v1]⟩ s t)⟩:=by
 refine bz (bf gX) (Vu _ _) ?_;iterate 53 (first|refine BR.mk (fun _=>?_) fun _=>nR (by omega)|refine BR.mk (fun _=>nR (by omega)) fun _=>?_|refine va fun _ _=>?_)
 refine BR.mk (fun _=>?_) fun _=>nR (by omega)
 exact lf0 ⟨by simp only[Hd]<;>omega,by simp only[pR,and_true]<;>omega,by simp only[pU,and_true]<;>omega⟩
end
section
variable{h i a b j k l a1 c c1 d1 m d e c2 d2 n f g c3 d3 o p u0 v0 q r v1 s t u:Int}{tc w y:Array Value}{z A:Nat}{ot:Option Addr}
theorem Vw(Q:Value->Prop)(K:AS->Prop):tx (aY []) Q K (.br 3 5 9 (.br 0 4 13 (.br 5 5 9 (.br 0 4 13 (.br 18 6 10 (.br 0 6 16 (.br 0 6 22 (.val 3 9 44 (.br 0 1 45 (.ret 3 1) (.br 2 6 10 (.br 0 6 16 (.br 0 6 22 (.br 5 5 9 (.br 0 4 13 (.br 12 6 10 (.br 0 6 16 (.br 0 6 22 (.val 3 9 44 (.br 0 1 45 (.ret 3 1) (.br 2 6 10 (.br 0 6 16 (.br 0 6 22 (.br 5 5 9 (.br 0 4 13 (.br 12 6 10 (.br 0 6 16 (.br 0 6 22 (.val 3 9 44 (.br 0 1 45 (.ret 3 1) (.br 2 6 10 (.br 0 6 16 (.br 0 6 22 (.br 5 5 9 (.br 0 4 13 (.br 12 6 10 (.br 0 6 16 (.br 0 6 22 (.val 3 9 44 (.br 0 1 45 (.ret 3 1) (.br 2 6 10 (.br 0 6 16 (.br 0 6 22 (.br 5 5 9 (.br 0 4 13 (.br 23 5 9 (.br 0 4 13 (.br 10 6 10 (.br 0 6 16 (.br 0 6 22 (.br 18 5 9 adU (.ret 9 1)) (.ret 6 1)) (.ret 6 1)) (.ret 6 1)) (.ret 9 1)) (.ret 9 1)) (.ret 6 1)) (.ret 6 1)) (.ret 6 1)) (.ret 6 1)) (.ret 6 1)))) (.ret 6 1)) (.ret 6 1)) (.ret 6 1)) (.ret 6 1)) (.ret 6 1)) (.ret 6 1)) (.ret 6 1)) (.ret 6 1)))) (.ret 6 1)) (.ret 6 1)) (.ret 6 1)) (.ret 6 1)) (.ret 6 1)) (.ret 6 1)) (.ret 6 1)) (.ret 6 1)))) (.ret 6 1)) (.ret 6 1)) (.ret 6 1)) (.ret 6 1)) (.ret 6 1)) (.ret 6 1)) (.ret 6 1)) (.ret 6 1)))) (.ret 6 1)) (.ret 6 1)) (.ret 6 1)) (.ret 6 1)) (.ret 6 1)) (.ret 6 1)) (.ret 6 1)) ⟨aN.enter Tryz.prog 13 ⟨[.agg ⟨[zJ h,zJ i,zS 0 4 z,zS 1 3 A]⟩]⟩,[],fF 4 (L4 ⟨[zJ a,zJ b,zJ j,zJ k,zJ l,zJ a1,zJ c,zJ c1,zJ d1,zJ m,zJ d,zJ e,zJ c2,zJ d2,zJ n,zJ f,zJ g,zJ c3,zJ d3,zJ o]⟩ ⟨[zJ p,zJ u0,zJ v0,zJ q,zJ r,zJ v1,zJ s,zJ t,zJ u]⟩ w y)⟩=(BR (decide (0<=h)) (BR (decide (h<=99)) (BR (decide (0<=i)) (BR (decide (i<=3)) (BR (decide (0<=a)) (BR (decide (a<=b)) (BR (decide (b<=99)) (∀v,v=wi (b-a)->BR (decide (v>=3)) (Q (zJ 1)) (BR (decide (0<=j)) (BR (decide (j<=k)) (BR (decide (k<=199)) (BR (decide (0<=l)) (BR (decide (l<=199)) (BR (decide (0<=a1)) (BR (decide (a1<=c)) (BR (decide (c<=99)) (∀x,x=wi (c-a1)->BR (decide (x>=3)) (Q (zJ 1)) (BR (decide (0<=c1)) (BR (decide (c1<=d1)) (BR (decide (d1<=199)) (BR (decide (0<=m)) (BR (decide (m<=199)) (BR (decide (0<=d)) (BR (decide (d<=e)) (BR (decide (e<=99)) (∀B,B=wi (e-d)->BR (decide (B>=3)) (Q (zJ 1)) (BR (decide (0<=c2)) (BR (decide (c2<=d2)) (BR (decide (d2<=199)) (BR (decide (0<=n)) (BR (decide (n<=199)) (BR (decide (0<=f)) (BR (decide (f<=g)) (BR (decide (g<=99)) (∀C,C=wi (g-f)->BR (decide (C>=3)) (Q (zJ 1)) (BR (decide (0<=c3)) (BR (decide (c3<=d3)) (BR (decide (d3<=199)) (BR (decide (0<=o)) (BR (decide (o<=199)) (BR (decide (0<=p)) (BR (decide (p<=3)) (BR (decide ((-199)<=u0)) (BR (decide (u0<=v0)) (BR (decide (v0<=199)) (BR (decide (0<=q)) (BR (decide (q<=3)) (BR (decide ((-199)<=r)) (BR (decide (r<=v1)) (BR (decide (v1<=199)) (BR (decide (0<=s)) (BR (decide (s<=3)) (BR (decide ((-199)<=t)) (BR (decide (t<=u)) (BR (decide (u<=199)) (Q (zJ 0)) (Q (zJ 1))) (Q (zJ 1))) (Q (zJ 1))) (Q (zJ 6))) (Q (zJ 6))) (Q (zJ 1))) (Q (zJ 1))) (Q (zJ 1))) (Q (zJ 6))) (Q (zJ 6))) (Q (zJ 1))) (Q (zJ 1))) (Q (zJ 1))) (Q (zJ 6))) (Q (zJ 6))) (Q (zJ 1))) (Q (zJ 1))) (Q (zJ 1))) (Q (zJ 1))) (Q (zJ 1)))) (Q (zJ 1))) (Q (zJ 1))) (Q (zJ 1))) (Q (zJ 1))) (Q (zJ 1))) (Q (zJ 1))) (Q (zJ 1))) (Q (zJ 1)))) (Q (zJ 1))) (Q (zJ 1))) (Q (zJ 1))) (Q (zJ 1))) (Q (zJ 1))) (Q (zJ 1))) (Q (zJ 1))) (Q (zJ 1)))) (Q (zJ 1))) (Q (zJ 1))) (Q (zJ 1))) (Q (zJ 1))) (Q (zJ 1))) (Q (zJ 1))) (Q (zJ 1))) (Q (zJ 1)))) (Q (zJ 1))) (Q (zJ 1))) (Q (zJ 1))) (Q (zJ 1))) (Q (zJ 1))) (Q (zJ 1))) (Q (zJ 1))):=by kernel_rfl
theorem ach:dQ Tryz.prog (fun v _=>∃x:Int,(x=0->Hd h i/\pR [(a,b,j,k,l),(a1,c,c1,d1,m),(d,e,c2,d2,n),(f,g,c3,d3,o)]/\pU 4 [(p,u0,v0),(q,r,v1),(s,t,u)])/\v=zJ x) ⟨aN.enter Tryz.prog 13 ⟨[.agg ⟨[zJ h,zJ i,zS 0 4 z,zS 1 3 A]⟩]⟩,[],fF 4 (L4 ⟨[zJ a,zJ b,zJ j,zJ k,zJ l,zJ a1,zJ c,zJ c1,zJ d1,zJ m,zJ d,zJ e,zJ c2,zJ d2,zJ n,zJ f,zJ g,zJ c3,zJ d3,zJ o]⟩ ⟨[zJ p,zJ u0,zJ v0,zJ q,zJ r,zJ v1,zJ s,zJ t,zJ u]⟩ w y)⟩:=by
 refine bz (bf gX) (Vw _ _) ?_;iterate 58 (first|refine BR.mk (fun _=>?_) fun _=>nR (by omega)|refine BR.mk (fun _=>nR (by omega)) fun _=>?_|refine va fun _ _=>?_)
 refine BR.mk (fun _=>?_) fun _=>nR (by omega)
 exact lf0 ⟨by simp only[Hd]<;>omega,by simp only[pR,and_true]<;>omega,by simp only[pU,and_true]<;>omega⟩
end
section
variable{h i a b j k l a1 c c1 d1 m d e c2 d2 n f g c3 d3 o:Int}{p q r:Array Value}{s nt t:Nat}{u:Option Addr}
theorem Vx(Q:Value->Prop)(K:AS->Prop):tx (aY []) Q K (.br 3 5 9 (.br 0 4 13 (.br 5 5 9 (.br 0 4 13 (.br 18 6 10 (.br 0 6 16 (.br 0 6 22 (.val 3 9 44 (.br 0 1 45 (.ret 3 1) (.br 2 6 10 (.br 0 6 16 (.br 0 6 22 (.br 5 5 9 (.br 0 4 13 (.br 12 6 10 (.br 0 6 16 (.br 0 6 22 (.val 3 9 44 (.br 0 1 45 (.ret 3 1) (.br 2 6 10 (.br 0 6 16 (.br 0 6 22 (.br 5 5 9 (.br 0 4 13 (.br 12 6 10 (.br 0 6 16 (.br 0 6 22 (.val 3 9 44 (.br 0 1 45 (.ret 3 1) (.br 2 6 10 (.br 0 6 16 (.br 0 6 22 (.br 5 5 9 (.br 0 4 13 (.br 12 6 10 (.br 0 6 16 (.br 0 6 22 (.val 3 9 44 (.br 0 1 45 (.ret 3 1) (.br 2 6 10 (.br 0 6 16 (.br 0 6 22 (.br 5 5 9 (.br 0 4 13 (.val 9 6 61 (.br 0 1 62 (.ret 3 1) .no)) (.ret 6 1)) (.ret 6 1)) (.ret 6 1)) (.ret 6 1)) (.ret 6 1)))) (.ret 6 1)) (.ret 6 1)) (.ret 6 1)) (.ret 6 1)) (.ret 6 1)) (.ret 6 1)) (.ret 6 1)) (.ret 6 1)))) (.ret 6 1)) (.ret 6 1)) (.ret 6 1)) (.ret 6 1)) (.ret 6 1)) (.ret 6 1)) (.ret 6 1)) (.ret 6 1)))) (.ret 6 1)) (.ret 6 1)) (.ret 6 1)) (.ret 6 1)) (.ret 6 1)) (.ret 6 1)) (.ret 6 1)) (.ret 6 1)))) (.ret 6 1)) (.ret 6 1)) (.ret 6 1)) (.ret 6 1)) (.ret 6 1)) (.ret 6 1)) (.ret 6 1)) ⟨aN.enter Tryz.prog 13 ⟨[.agg ⟨[zJ h,zJ i,zS 0 4 s,.slice u nt t]⟩]⟩,[],fF 4 (L4 ⟨[zJ a,zJ b,zJ j,zJ k,zJ l,zJ a1,zJ c,zJ c1,zJ d1,zJ m,zJ d,zJ e,zJ c2,zJ d2,zJ n,zJ f,zJ g,zJ c3,zJ d3,zJ o]⟩ p q r)⟩=(BR (decide (0<=h)) (BR (decide (h<=99)) (BR (decide (0<=i)) (BR (decide (i<=3)) (BR (decide (0<=a)) (BR (decide (a<=b)) (BR (decide (b<=99)) (∀v,v=wi (b-a)->BR (decide (v>=3)) (Q (zJ 1)) (BR (decide (0<=j)) (BR (decide (j<=k)) (BR (decide (k<=199)) (BR (decide (0<=l)) (BR (decide (l<=199)) (BR (decide (0<=a1)) (BR (decide (a1<=c)) (BR (decide (c<=99)) (∀w,w=wi (c-a1)->BR (decide (w>=3)) (Q (zJ 1)) (BR (decide (0<=c1)) (BR (decide (c1<=d1)) (BR (decide (d1<=199)) (BR (decide (0<=m)) (BR (decide (m<=199)) (BR (decide (0<=d)) (BR (decide (d<=e)) (BR (decide (e<=99)) (∀x,x=wi (e-d)->BR (decide (x>=3)) (Q (zJ 1)) (BR (decide (0<=c2)) (BR (decide (c2<=d2)) (BR (decide (d2<=199)) (BR (decide (0<=n)) (BR (decide (n<=199)) (BR (decide (0<=f)) (BR (decide (f<=g)) (BR (decide (g<=99)) (∀y,y=wi (g-f)->BR (decide (y>=3)) (Q (zJ 1)) (BR (decide (0<=c3)) (BR (decide (c3<=d3)) (BR (decide (d3<=199)) (BR (decide (0<=o)) (BR (decide (o<=199)) (∀z,z=((nt:Nat):Int)->BR (decide (z>3)) (Q (zJ 2)) (False)) (Q (zJ 1))) (Q (zJ 1))) (Q (zJ 1))) (Q (zJ 1))) (Q (zJ 1)))) (Q (zJ 1))) (Q (zJ 1))) (Q (zJ 1))) (Q (zJ 1))) (Q (zJ 1))) (Q (zJ 1))) (Q (zJ 1))) (Q (zJ 1)))) (Q (zJ 1))) (Q (zJ 1))) (Q (zJ 1))) (Q (zJ 1))) (Q (zJ 1))) (Q (zJ 1))) (Q (zJ 1))) (Q (zJ 1)))) (Q (zJ 1))) (Q (zJ 1))) (Q (zJ 1))) (Q (zJ 1))) (Q (zJ 1))) (Q (zJ 1))) (Q (zJ 1))) (Q (zJ 1)))) (Q (zJ 1))) (Q (zJ 1))) (Q (zJ 1))) (Q (zJ 1))) (Q (zJ 1))) (Q (zJ 1))) (Q (zJ 1))):=by kernel_rfl
theorem aci(w:4<=nt):dQ Tryz.prog (fun v _=>∃x:Int,(x=0->False)/\v=zJ x) ⟨aN.enter Tryz.prog 13 ⟨[.agg ⟨[zJ h,zJ i,zS 0 4 s,.slice u nt t]⟩]⟩,[],fF 4 (L4 ⟨[zJ a,zJ b,zJ j,zJ k,zJ l,zJ a1,zJ c,zJ c1,zJ d1,zJ m,zJ d,zJ e,zJ c2,zJ d2,zJ n,zJ f,zJ g,zJ c3,zJ d3,zJ o]⟩ p q r)⟩:=by
 refine bz (bf gX) (Vx _ _) ?_;iterate 44 (first|refine BR.mk (fun _=>?_) fun _=>nR (by omega)|refine BR.mk (fun _=>nR (by omega)) fun _=>?_|refine va fun _ _=>?_)
 intro y _;refine BR.ll ?_;exact nR (by omega)
end
end Go.Am
namespace Go.Am
open Go.Proofs
section
variable{pw qs a0 b0 c0 d0 e0 a1 b1 c1 d1 e1:Int}{a sc kc:Array Value}{cp b ct:Nat}{c:Option Addr}
theorem Zq(Q:Value->Prop)(K:AS->Prop):tx (aY []) Q K (.br 12 6 10 adT .no) ⟨aN.enter Tryz.prog 107 ⟨[zJ 2,.func (.func 108) ⟨[.agg ⟨[zJ pw,zJ qs,zS 0 2 cp,.slice c b ct]⟩]⟩ ⟨[]⟩]⟩,[],fF 4 (L4 ⟨[zJ a0,zJ b0,zJ c0,zJ d0,zJ e0,zJ a1,zJ b1,zJ c1,zJ d1,zJ e1]⟩ a sc kc)⟩=(BR (decide (0<=a0)) (BR (decide (a0<=b0)) (BR (decide (b0<=99)) (∀d,d=wi (b0-a0)->BR (decide (d>=3)) (False) (BR (decide (0<=c0)) (BR (decide (c0<=d0)) (BR (decide (d0<=199)) (BR (decide (e0<0)) (False) (BR (decide (e0>199)) (False) (BR (decide (0<=a1)) (BR (decide (a1<=b1)) (BR (decide (b1<=99)) (∀e,e=wi (b1-a1)->BR (decide (e>=3)) (False) (BR (decide (0<=c1)) (BR (decide (c1<=d1)) (BR (decide (d1<=199)) (BR (decide (e1<0)) (False) (BR (decide (e1>199)) (False) (Q (zJ 0)))) (False)) (False)) (False))) (False)) (False)) (False)))) (False)) (False)) (False))) (False)) (False)) (False)):=by kernel_rfl
theorem afQ(d:pR [(a0,b0,c0,d0,e0),(a1,b1,c1,d1,e1)]):dQ Tryz.prog (fun v _=>∃x:Int,x=0/\v=zJ x) ⟨aN.enter Tryz.prog 107 ⟨[zJ 2,.func (.func 108) ⟨[.agg ⟨[zJ pw,zJ qs,zS 0 2 cp,.slice c b ct]⟩]⟩ ⟨[]⟩]⟩,[],fF 4 (L4 ⟨[zJ a0,zJ b0,zJ c0,zJ d0,zJ e0,zJ a1,zJ b1,zJ c1,zJ d1,zJ e1]⟩ a sc kc)⟩:=by
 refine bz (bf gX) (Zq _ _) ?_;simp only[pR,and_true]at d;iterate 20 (first|refine BR.rr ?_|refine BR.ll ?_|refine va fun _ _=>?_)
 exact fun _=>⟨_,rfl,rfl⟩
end
section
variable{pw qs a0 b0 c0 d0 e0 a1 b1 c1 d1 e1 a2 b2 c2 d2 e2:Int}{a sc kc:Array Value}{cp b ct:Nat}{c:Option Addr}
theorem Zr(Q:Value->Prop)(K:AS->Prop):tx (aY []) Q K (.br 12 6 10 adW .no) ⟨aN.enter Tryz.prog 107 ⟨[zJ 3,.func (.func 108) ⟨[.agg ⟨[zJ pw,zJ qs,zS 0 3 cp,.slice c b ct]⟩]⟩ ⟨[]⟩]⟩,[],fF 4 (L4 ⟨[zJ a0,zJ b0,zJ c0,zJ d0,zJ e0,zJ a1,zJ b1,zJ c1,zJ d1,zJ e1,zJ a2,zJ b2,zJ c2,zJ d2,zJ e2]⟩ a sc kc)⟩=(BR (decide (0<=a0)) (BR (decide (a0<=b0)) (BR (decide (b0<=99)) (∀d,d=wi (b0-a0)->BR (decide (d>=3)) (False) (BR (decide (0<=c0)) (BR (decide (c0<=d0)) (BR (decide (d0<=199)) (BR (decide (e0<0)) (False) (BR (decide (e0>199)) (False) (BR (decide (0<=a1)) (BR (decide (a1<=b1)) (BR (decide (b1<=99)) (∀e,e=wi (b1-a1)->BR (decide (e>=3)) (False) (BR (decide (0<=c1)) (BR (decide (c1<=d1)) (BR (decide (d1<=199)) (BR (decide (e1<0)) (False) (BR (decide (e1>199)) (False) (BR (decide (0<=a2)) (BR (decide (a2<=b2)) (BR (decide (b2<=99)) (∀f,f=wi (b2-a2)->BR (decide (f>=3)) (False) (BR (decide (0<=c2)) (BR (decide (c2<=d2)) (BR (decide (d2<=199)) (BR (decide (e2<0)) (False) (BR (decide (e2>199)) (False) (Q (zJ 0)))) (False)) (False)) (False))) (False)) (False)) (False)))) (False)) (False)) (False))) (False)) (False)) (False)))) (False)) (False)) (False))) (False)) (False)) (False)):=by kernel_rfl
theorem afR(d:pR [(a0,b0,c0,d0,e0),(a1,b1,c1,d1,e1),(a2,b2,c2,d2,e2)]):dQ Tryz.prog (fun v _=>∃x:Int,x=0/\v=zJ x) ⟨aN.enter Tryz.prog 107 ⟨[zJ 3,.func (.func 108) ⟨[.agg ⟨[zJ pw,zJ qs,zS 0 3 cp,.slice c b ct]⟩]⟩ ⟨[]⟩]⟩,[],fF 4 (L4 ⟨[zJ a0,zJ b0,zJ c0,zJ d0,zJ e0,zJ a1,zJ b1,zJ c1,zJ d1,zJ e1,zJ a2,zJ b2,zJ c2,zJ d2,zJ e2]⟩ a sc kc)⟩:=by
 refine bz (bf gX) (Zr _ _) ?_;simp only[pR,and_true]at d;iterate 30 (first|refine BR.rr ?_|refine BR.ll ?_|refine va fun _ _=>?_)
 exact fun _=>⟨_,rfl,rfl⟩
end
section
variable{pw qs a0 b0 c0 d0 e0 a1 b1 c1 d1 e1 a2 b2 c2 d2 e2 a3 b3 c3 d3 e3:Int}{a sc kc:Array Value}{cp b ct:Nat}{c:Option Addr}
theorem Zt(Q:Value->Prop)(K:AS->Prop):tx (aY []) Q K (.br 12 6 10 (.br 0 6 16 (.br 0 6 22 (.val 6 9 24 (.br 0 1 25 .no (.br 3 6 10 (.br 0 6 16 (.br 0 6 22 (.br 5 4 6 .no (.br 0 4 10 .no (.br 24 6 10 adW .no))) .no) .no) .no))) .no) .no) .no) ⟨aN.enter Tryz.prog 107 ⟨[zJ 4,.func (.func 108) ⟨[.agg ⟨[zJ pw,zJ qs,zS 0 4 cp,.slice c b ct]⟩]⟩ ⟨[]⟩]⟩,[],fF 4 (L4 ⟨[zJ a0,zJ b0,zJ c0,zJ d0,zJ e0,zJ a1,zJ b1,zJ c1,zJ d1,zJ e1,zJ a2,zJ b2,zJ c2,zJ d2,zJ e2,zJ a3,zJ b3,zJ c3,zJ d3,zJ e3]⟩ a sc kc)⟩=(BR (decide (0<=a0)) (BR (decide (a0<=b0)) (BR (decide (b0<=99)) (∀d,d=wi (b0-a0)->BR (decide (d>=3)) (False) (BR (decide (0<=c0)) (BR (decide (c0<=d0)) (BR (decide (d0<=199)) (BR (decide (e0<0)) (False) (BR (decide (e0>199)) (False) (BR (decide (0<=a1)) (BR (decide (a1<=b1)) (BR (decide (b1<=99)) (∀e,e=wi (b1-a1)->BR (decide (e>=3)) (False) (BR (decide (0<=c1)) (BR (decide (c1<=d1)) (BR (decide (d1<=199)) (BR (decide (e1<0)) (False) (BR (decide (e1>199)) (False) (BR (decide (0<=a2)) (BR (decide (a2<=b2)) (BR (decide (b2<=99)) (∀f,f=wi (b2-a2)->BR (decide (f>=3)) (False) (BR (decide (0<=c2)) (BR (decide (c2<=d2)) (BR (decide (d2<=199)) (BR (decide (e2<0)) (False) (BR (decide (e2>199)) (False) (BR (decide (0<=a3)) (BR (decide (a3<=b3)) (BR (decide (b3<=99)) (∀g,g=wi (b3-a3)->BR (decide (g>=3)) (False) (BR (decide (0<=c3)) (BR (decide (c3<=d3)) (BR (decide (d3<=199)) (BR (decide (e3<0)) (False) (BR (decide (e3>199)) (False) (Q (zJ 0)))) (False)) (False)) (False))) (False)) (False)) (False)))) (False)) (False)) (False))) (False)) (False)) (False)))) (False)) (False)) (False))) (False)) (False)) (False)))) (False)) (False)) (False))) (False)) (False)) (False)):=by kernel_rfl
theorem afS(d:pR [(a0,b0,c0,d0,e0),(a1,b1,c1,d1,e1),(a2,b2,c2,d2,e2),(a3,b3,c3,d3,e3)]):dQ Tryz.prog (fun v _=>∃x:Int,x=0/\v=zJ x) ⟨aN.enter Tryz.prog 107 ⟨[zJ 4,.func (.func 108) ⟨[.agg ⟨[zJ pw,zJ qs,zS 0 4 cp,.slice c b ct]⟩]⟩ ⟨[]⟩]⟩,[],fF 4 (L4 ⟨[zJ a0,zJ b0,zJ c0,zJ d0,zJ e0,zJ a1,zJ b1,zJ c1,zJ d1,zJ e1,zJ a2,zJ b2,zJ c2,zJ d2,zJ e2,zJ a3,zJ b3,zJ c3,zJ d3,zJ e3]⟩ a sc kc)⟩:=by
 refine bz (bf gX) (Zt _ _) ?_;simp only[pR,and_true]at d;iterate 40 (first|refine BR.rr ?_|refine BR.ll ?_|refine va fun _ _=>?_)
 exact fun _=>⟨_,rfl,rfl⟩
end
section
variable{b c:Int}{d e f g:Array Value}{h a i:Nat}{op j:Option Addr}
theorem Zu(Q:Value->Prop)(K:AS->Prop):tx (aY []) Q K (.ret 6 1) ⟨aN.enter Tryz.prog 107 ⟨[zJ 0,.func (.func 109) ⟨[.agg ⟨[zJ b,zJ c,.slice op a h,.slice j 0 i]⟩]⟩ ⟨[]⟩]⟩,[],fF 4 (L4 d e f g)⟩=(Q (zJ 0)):=by kernel_rfl
theorem afT(k:2<=a/\a<=4)(l:pU a []):dQ Tryz.prog (fun v _=>∃x:Int,x=0/\v=zJ x) ⟨aN.enter Tryz.prog 107 ⟨[zJ 0,.func (.func 109) ⟨[.agg ⟨[zJ b,zJ c,.slice op a h,.slice j 0 i]⟩]⟩ ⟨[]⟩]⟩,[],fF 4 (L4 d e f g)⟩:=by
 refine bz (bf gX) (Zu _ _) ?_;exact fun _=>⟨_,rfl,rfl⟩
end
section
variable{c d b u0 v0:Int}{e tc f g:Array Value}{h a i:Nat}{op ot:Option Addr}
theorem Zv(Q:Value->Prop)(K:AS->Prop):tx (aY []) Q K (.val 8 10 18 (.br 2 4 6 (.br 0 4 10 (.br 6 6 10 (.br 0 6 16 (.br 0 6 22 (.ret 18 1) .no) .no) .no) .no) .no)) ⟨aN.enter Tryz.prog 107 ⟨[zJ 1,.func (.func 109) ⟨[.agg ⟨[zJ c,zJ d,.slice op a h,zS 1 1 i]⟩]⟩ ⟨[]⟩]⟩,[],fF 4 (L4 e ⟨[zJ b,zJ u0,zJ v0]⟩ f g)⟩=(∀j,j=((a:Nat):Int)->BR (decide (b>=0)) (BR (decide (b<j)) (BR (decide ((-199)<=u0)) (BR (decide (u0<=v0)) (BR (decide (v0<=199)) (Q (zJ 0)) (False)) (False)) (False)) (False)) (False)):=by kernel_rfl
theorem afU(j:2<=a/\a<=4)(k:pU a [(b,u0,v0)]):dQ Tryz.prog (fun v _=>∃x:Int,x=0/\v=zJ x) ⟨aN.enter Tryz.prog 107 ⟨[zJ 1,.func (.func 109) ⟨[.agg ⟨[zJ c,zJ d,.slice op a h,zS 1 1 i]⟩]⟩ ⟨[]⟩]⟩,[],fF 4 (L4 e ⟨[zJ b,zJ u0,zJ v0]⟩ f g)⟩:=by
 refine bz (bf gX) (Zv _ _) ?_;simp only[pU,and_true]at k;intro l _;iterate 5 refine BR.ll ?_
 exact fun _=>⟨_,rfl,rfl⟩
end
section
variable{e f b u0 v0 c d v1:Int}{g tc h i:Array Value}{j a k:Nat}{op ot:Option Addr}
theorem Zw(Q:Value->Prop)(K:AS->Prop):tx (aY []) Q K (.val 8 10 18 adV) ⟨aN.enter Tryz.prog 107 ⟨[zJ 2,.func (.func 109) ⟨[.agg ⟨[zJ e,zJ f,.slice op a j,zS 1 2 k]⟩]⟩ ⟨[]⟩]⟩,[],fF 4 (L4 g ⟨[zJ b,zJ u0,zJ v0,zJ c,zJ d,zJ v1]⟩ h i)⟩=(∀l,l=((a:Nat):Int)->BR (decide (b>=0)) (BR (decide (b<l)) (BR (decide ((-199)<=u0)) (BR (decide (u0<=v0)) (BR (decide (v0<=199)) (∀m,m=((a:Nat):Int)->BR (decide (c>=0)) (BR (decide (c<m)) (BR (decide ((-199)<=d)) (BR (decide (d<=v1)) (BR (decide (v1<=199)) (Q (zJ 0)) (False)) (False)) (False)) (False)) (False)) (False)) (False)) (False)) (False)) (False)):=by kernel_rfl
theorem afV(l:2<=a/\a<=4)(m:pU a [(b,u0,v0),(c,d,v1)]):dQ Tryz.prog (fun v _=>∃x:Int,x=0/\v=zJ x) ⟨aN.enter Tryz.prog 107 ⟨[zJ 2,.func (.func 109) ⟨[.agg ⟨[zJ e,zJ f,.slice op a j,zS 1 2 k]⟩]⟩ ⟨[]⟩]⟩,[],fF 4 (L4 g ⟨[zJ b,zJ u0,zJ v0,zJ c,zJ d,zJ v1]⟩ h i)⟩:=by
 refine bz (bf gX) (Zw _ _) ?_;simp only[pU,and_true]at m;intro n _;iterate 5 refine BR.ll ?_
 intro o _;iterate 5 refine BR.ll ?_
 exact fun _=>⟨_,rfl,rfl⟩
end
section
variable{h i b u0 v0 c d v1 e f g:Int}{j tc k l:Array Value}{m a n:Nat}{op ot:Option Addr}
theorem Zx(Q:Value->Prop)(K:AS->Prop):tx (aY []) Q K (.val 8 10 18 (.br 2 4 6 (.br 0 4 10 (.br 6 6 10 (.br 0 6 16 (.br 0 6 22 (.val 20 10 18 adV) .no) .no) .no) .no) .no)) ⟨aN.enter Tryz.prog 107 ⟨[zJ 3,.func (.func 109) ⟨[.agg ⟨[zJ h,zJ i,.slice op a m,zS 1 3 n]⟩]⟩ ⟨[]⟩]⟩,[],fF 4 (L4 j ⟨[zJ b,zJ u0,zJ v0,zJ c,zJ d,zJ v1,zJ e,zJ f,zJ g]⟩ k l)⟩=(∀o,o=((a:Nat):Int)->BR (decide (b>=0)) (BR (decide (b<o)) (BR (decide ((-199)<=u0)) (BR (decide (u0<=v0)) (BR (decide (v0<=199)) (∀p,p=((a:Nat):Int)->BR (decide (c>=0)) (BR (decide (c<p)) (BR (decide ((-199)<=d)) (BR (decide (d<=v1)) (BR (decide (v1<=199)) (∀q,q=((a:Nat):Int)->BR (decide (e>=0)) (BR (decide (e<q)) (BR (decide ((-199)<=f)) (BR (decide (f<=g)) (BR (decide (g<=199)) (Q (zJ 0)) (False)) (False)) (False)) (False)) (False)) (False)) (False)) (False)) (False)) (False)) (False)) (False)) (False)) (False)) (False)):=by kernel_rfl
theorem afW(o:2<=a/\a<=4)(p:pU a [(b,u0,v0),(c,d,v1),(e,f,g)]):dQ Tryz.prog (fun v _=>∃x:Int,x=0/\v=zJ x) ⟨aN.enter Tryz.prog 107 ⟨[zJ 3,.func (.func 109) ⟨[.agg ⟨[zJ h,zJ i,.slice op a m,zS 1 3 n]⟩]⟩ ⟨[]⟩]⟩,[],fF 4 (L4 j ⟨[zJ b,zJ u0,zJ v0,zJ c,zJ d,zJ v1,zJ e,zJ f,zJ g]⟩ k l)⟩:=by
 refine bz (bf gX) (Zx _ _) ?_;simp only[pU,and_true]at p;intro q _;iterate 5 refine BR.ll ?_
 intro r _;iterate 5 refine BR.ll ?_
 intro s _;iterate 5 refine BR.ll ?_
 exact fun _=>⟨_,rfl,rfl⟩
end
section
variable{e f:Int}{b g d h:Nat}{op i:Option Addr}{j k l m:Array Value}
theorem acj(Q:Value->Prop)(K:AS->Prop):tx (aY [⟨107,fun a _=>[uh a 0],4,fun _=>L4 j k l m,fun c=>⟨[zJ (c.headD 0),.func (.func 108) ⟨[.agg ⟨[zJ e,zJ f,.slice op b g,.slice i d h]⟩]⟩ ⟨[]⟩]⟩,fun c=>c.headD 0=((b:Nat):Int),fun _ x=>x=0,fun _ x=>zJ x⟩,⟨107,fun a _=>[uh a 0],4,fun _=>L4 j k l m,fun c=>⟨[zJ (c.headD 0),.func (.func 109) ⟨[.agg ⟨[zJ e,zJ f,.slice op b g,.slice i d h]⟩]⟩ ⟨[]⟩]⟩,fun c=>c.headD 0=((d:Nat):Int),fun _ x=>x=0,fun _ x=>zJ x⟩]) Q K (.br 11 4 6 .no (.br 0 4 10 .no (.br 17 4 6 .no (.br 0 4 10 .no (.val 15 7 7 (.br 2 6 8 (.br 0 5 13 (.val 18 7 17 (.call 0 2 (.br 1 4 22 .no (.val 2 7 27 (.br 0 1 28 .no (.val 2 6 32 (.TY 0 2 2 (.ret 2 1)))))))) .no) .no)))))) ⟨aN.enter Tryz.prog 67 ⟨[(bm e f op b g i d h)]⟩,[],fF 4 (L4 j k l m)⟩=(BR (decide (e<0)) (False) (BR (decide (e>99)) (False) (BR (decide (f<0)) (False) (BR (decide (f>3)) (False) (∀n,n=((b:Nat):Int)->BR (decide (2<=n)) (BR (decide (n<=4)) (∀o,o=((b:Nat):Int)->((AE ⟨[zJ o,.func (.func 108) ⟨[.agg ⟨[zJ e,zJ f,.slice op b g,.slice i d h]⟩]⟩ ⟨[]⟩]⟩)/\(E4 j k l m)/\(o=((b:Nat):Int)))/\∀q:Int,(q=0)->RK (true) (BR (!decide (q=0)) (False) (∀r,r=((d:Nat):Int)->BR (decide (r>3)) (False) (∀p,p=((d:Nat):Int)->((AE ⟨[zJ p,.func (.func 109) ⟨[.agg ⟨[zJ e,zJ f,.slice op b g,.slice i d h]⟩]⟩ ⟨[]⟩]⟩)/\(E4 j k l m)/\(p=((d:Nat):Int)))/\∀s:Int,(s=0)->RK (true) (Q (zJ s)))))) (False)) (False)))))):=by kernel_rfl
theorem aix(o:Hd e f)(p:2<=b/\b<=4)(q:d<=3)(r:∀c∈([⟨107,fun a _=>[uh a 0],4,fun _=>L4 j k l m,fun n=>⟨[zJ (n.headD 0),.func (.func 108) ⟨[.agg ⟨[zJ e,zJ f,.slice op b g,.slice i d h]⟩]⟩ ⟨[]⟩]⟩,fun n=>n.headD 0=((b:Nat):Int),fun _ x=>x=0,fun _ x=>zJ x⟩,⟨107,fun a _=>[uh a 0],4,fun _=>L4 j k l m,fun n=>⟨[zJ (n.headD 0),.func (.func 109) ⟨[.agg ⟨[zJ e,zJ f,.slice op b g,.slice i d h]⟩]⟩ ⟨[]⟩]⟩,fun n=>n.headD 0=((d:Nat):Int),fun _ x=>x=0,fun _ x=>zJ x⟩]:List Ct),gW Tryz.prog c):dQ Tryz.prog (fun v _=>∃x:Int,x=0/\v=zJ x) ⟨aN.enter Tryz.prog 67 ⟨[(bm e f op b g i d h)]⟩,[],fF 4 (L4 j k l m)⟩:=by
 refine bz (bf r) (acj _ _) ?_;simp only[Hd]at o;iterate 4 refine BR.rr ?_
 intro s _;iterate 2 refine BR.ll ?_
 intro t _;refine⟨⟨rfl,iE,by omega⟩,fun u _=>⟨rfl,?_⟩⟩;refine BR.nr (by omega) ?_;intro w _;refine BR.rr ?_;intro y _;refine⟨⟨rfl,iE,by omega⟩,fun z _=>⟨rfl,?_⟩⟩;exact fun _=>⟨_,by omega,rfl⟩
end
end Go.Am
