import Derived.Test.YtbpcjpbcgeccbaaGreatH26
set_option linter.unusedVariables false
set_option linter.unusedSectionVars false
set_option linter.unusedSimpArgs false
namespace Go.Am
open Go.Proofs
def L9(h0 l0 u0 h1 l1 u1:Int):Array Value:=⟨[.int .i64 h0,.int .i64 l0,.int .i64 u0,.int .i64 h1,.int .i64 l1,.int .i64 u1]⟩
def Jv(h0 l0 u0 h1 l1 u1 h2 l2 u2:Int):Array Value:=⟨[.int .i64 h0,.int .i64 l0,.int .i64 u0,.int .i64 h1,.int .i64 l1,.int .i64 u1,.int .i64 h2,.int .i64 l2,.int .i64 u2]⟩
def CB(h0 l0 u0 h1 l1 u1 h2 l2 u2 h3 l3 u3:Int):Array Value:=⟨[.int .i64 h0,.int .i64 l0,.int .i64 u0,.int .i64 h1,.int .i64 l1,.int .i64 u1,.int .i64 h2,.int .i64 l2,.int .i64 u2,.int .i64 h3,.int .i64 l3,.int .i64 u3]⟩
def yF(h0 l0 u0 h1 l1 u1 h2 l2 u2 h3 l3 u3 h4 l4 u4:Int):Array Value:=⟨[.int .i64 h0,.int .i64 l0,.int .i64 u0,.int .i64 h1,.int .i64 l1,.int .i64 u1,.int .i64 h2,.int .i64 l2,.int .i64 u2,.int .i64 h3,.int .i64 l3,.int .i64 u3,.int .i64 h4,.int .i64 l4,.int .i64 u4]⟩
def bv(np:Nat)(af:Int)(cp:Nat)(ot:Option Addr)(nt ct:Nat)(os:Option Addr)(ns cs:Nat):Value:=.agg ⟨[.int .i64 af,.slice (some ⟨0,0,none⟩) np cp,.slice ot nt ct,.slice os ns cs]⟩
def gQ:List (Int×Int)→Int→Int
 | (p,x) :: (q,y) :: l,h=>if h≤q then x+(y - x) * (h - p) / (q - p) else gQ ((q,y) :: l) h
 | _,_=>0
theorem aa7{a n:Int}(h:0 < n)(k:¬Int.tmod a n < 0):Int.tdiv a n=a / n:=by
 have h1:=Int.tmod_add_mul_tdiv a n
 have h2:=Int.tmod_lt_of_pos a h
 have h3:a=Int.tmod a n+Int.tdiv a n * n:=by rw [Int.mul_comm];omega
 have h4:(Int.tmod a n+Int.tdiv a n * n) / n=Int.tmod a n / n+Int.tdiv a n:=Int.add_mul_ediv_right _ _ (by omega)
 rw [←h3,Int.ediv_eq_zero_of_lt (by omega) h2] at h4
 omega
theorem aa8{a n:Int}(h:0 < n)(k:Int.tmod a n < 0):Int.tdiv a n - 1=a / n:=by
 have h1:=Int.tmod_add_mul_tdiv a n
 have h2 : -n < Int.tmod a n:=(OB h).1
 have h3:a=(Int.tmod a n+n)+(Int.tdiv a n - 1) * n:=by
   have:(Int.tdiv a n - 1) * n=n * Int.tdiv a n - n:=by rw [Int.sub_mul,Int.one_mul,Int.mul_comm]
   omega
 have h4:((Int.tmod a n+n)+(Int.tdiv a n - 1) * n) / n=(Int.tmod a n+n) / n+(Int.tdiv a n - 1):=Int.add_mul_ediv_right _ _ (by omega)
 rw [←h3,Int.ediv_eq_zero_of_lt (a:=Int.tmod a n+n) (b:=n) (by omega) (by omega)] at h4
 omega
theorem bM{z a n:Int}(h:0 < n)(k:¬Int.tmod a n < 0):z+Int.tdiv a n=z+a / n:=by rw [aa7 h k]
theorem bP{z a n:Int}(h:0 < n)(k:Int.tmod a n < 0):z+(Int.tdiv a n - 1)=z+a / n:=by rw [aa8 h k]
theorem lfv{x y:Int}(h:x=y):∀_:AH,∃z:Int,z=y∧(Value.int .i64 x) = .int .i64 z:=fun _=>⟨x,h,rfl⟩
def uu:List (Int×Int)→Int
 | (p,x) :: (q,y) :: l=>(x+y) * (q - p)+uu ((q,y) :: l)
 | _=>0
theorem EW{x y:Int}(h:x=y)(k : -10000000000000≤x∧x≤10000000000000):∀_:AH,∃z:Int,(z=y ∧ -10000000000000≤z∧z≤10000000000000)∧(Value.int .i64 x) = .int .i64 z:=fun _=>⟨x,⟨h,k⟩,rfl⟩
section
variable{h0 l0 u0 h1 l1 u1 z0 z1 ht af:Int}{cp nt ct ns cs:Nat}{tc sc kc:Array Value}{ot os:Option Addr}
abbrev uN:HT:=.val 6 16 23 (.val 0 8 31 (.val 6 15 42 (.val 0 1 43 (.ov 2 5 (.val 0 0 7 (.br 0 1 8 (.ov 1 5 (.val 0 0 11 (.val 0 1 12 (.rk 2 0 (.val 0 1 46 (.ret 2 1)))))) (.ov 2 4 (.val 0 0 15 (.rk 2 0 (.val 0 1 46 (.ret 2 1)))))))))))
abbrev YU:HT:=.val 9 16 23 (.val 0 8 31 (.val 5 9 32 (.val 0 2 34 (.val 0 1 35 (.val 9 16 23 (.val 0 8 31 (.val 5 9 32 (.val 0 2 34 (.val 0 1 35 (.ret 7 1))))))))))
abbrev YV:HT:=.val 9 16 23 (.val 0 8 31 (.val 5 9 32 (.val 0 2 34 (.val 0 1 35 YU))))
theorem Tryz.ae9(Q:Value→Prop)(K:AS→Prop):tx (Tryz.X []) Q K (.br 2 15 18 .no uN) ⟨aB.enter Tryz.prog 36 ⟨[(bv 2 af cp ot nt ct os ns cs),.agg ⟨[.int .i64 z0,.int .i64 z1,.int .i64 0,.int .i64 0,.int .i64 0]⟩,.int .i64 ht]⟩,[],cu 4 (L4 (L9 h0 l0 u0 h1 l1 u1) tc sc kc)⟩=(BR (decide (ht > h1)) (False) (∀x0,x0=wi (h1 - h0)→∀x1,x1=wi (z1 - z0)→∀x2,x2=wi (ht - h0)→∀x3,x3=wi (x1 * x2)→((x0:Int)≠0)∧∀x4,x4=Int.tmod x3 x0→BR (decide (x4 < 0)) (((x0:Int)≠0)∧∀x5,x5=wi (Int.tdiv x3 x0)→∀x6,x6=wi (x5 - 1)→RK ((decide (z0=z0) && true)) (∀x7,x7=wi (z0+x6)→Q (.int .i64 x7))) (((x0:Int)≠0)∧∀x8,x8=wi (Int.tdiv x3 x0)→RK ((decide (z0=z0) && true)) (∀x9,x9=wi (z0+x8)→Q (.int .i64 x9))))):=by kernel_rfl
theorem Tryz.at2(hv:lq [(h0,l0,u0),(h1,l1,u1)])(hb:h0≤ht∧ht≤h1∧0≤z0∧z0≤959∧0≤z1∧z1≤959):bJ Tryz.prog (fun v _=>∃x:Int,(x=gQ [(h0,z0),(h1,z1)] ht ∧ -10000000000000≤x∧x≤10000000000000)∧v = .int .i64 x) ⟨aB.enter Tryz.prog 36 ⟨[(bv 2 af cp ot nt ct os ns cs),.agg ⟨[.int .i64 z0,.int .i64 z1,.int .i64 0,.int .i64 0,.int .i64 0]⟩,.int .i64 ht]⟩,[],cu 4 (L4 (L9 h0 l0 u0 h1 l1 u1) tc sc kc)⟩:=by
 refine aJ (Tryz.ok dJ) (Tryz.ae9 _ _) ?_
 simp only [lq,nM,and_true] at hv
 iterate 7 (first|refine BR.rr ?_|refine va fun _ _=>?_|refine vs fun _ _ _=>?_|refine vm (by omega) (by omega) (by omega) (by omega) fun _ _ _ _=>?_|refine ⟨by omega,?_⟩)
 refine BR.mk (fun _=>?_) (fun _=>?_)
 ·
  iterate 5 (first|refine va fun _ _=>?_|refine vq (by omega) (by omega) fun _ _ _=>?_|refine ⟨by omega,?_⟩|refine ⟨by simp,?_⟩)
  exact EW (by subst_vars;simp only [gQ];(repeat' split)<;>first|omega|exact bP (by omega) (by assumption)|exact bM (by omega) (by assumption)) (by omega)
 refine ⟨by omega,?_⟩
 refine vq (by omega) (by omega) fun x8 _ _=>?_
 refine ⟨by simp,?_⟩
 refine va fun x9 _=>?_
 exact EW (by subst_vars;simp only [gQ];(repeat' split)<;>first|omega|exact bP (by omega) (by assumption)|exact bM (by omega) (by assumption)) (by omega)
end
section
variable{h0 l0 u0 h1 l1 u1 h2 l2 u2 z0 z1 z2 ht af:Int}{cp nt ct ns cs:Nat}{tc sc kc:Array Value}{ot os:Option Addr}
theorem Tryz.afa(Q:Value→Prop)(K:AS→Prop):tx (Tryz.X []) Q K (.br 2 15 18 (.br 4 13 18 .no uN) uN) ⟨aB.enter Tryz.prog 36 ⟨[(bv 3 af cp ot nt ct os ns cs),.agg ⟨[.int .i64 z0,.int .i64 z1,.int .i64 z2,.int .i64 0,.int .i64 0]⟩,.int .i64 ht]⟩,[],cu 4 (L4 (Jv h0 l0 u0 h1 l1 u1 h2 l2 u2) tc sc kc)⟩=(BR (decide (ht > h1)) (BR (decide (ht > h2)) (False) (∀x0,x0=wi (h2 - h1)→∀x1,x1=wi (z2 - z1)→∀x2,x2=wi (ht - h1)→∀x3,x3=wi (x1 * x2)→((x0:Int)≠0)∧∀x4,x4=Int.tmod x3 x0→BR (decide (x4 < 0)) (((x0:Int)≠0)∧∀x5,x5=wi (Int.tdiv x3 x0)→∀x6,x6=wi (x5 - 1)→RK ((decide (z1=z1) && true)) (∀x7,x7=wi (z1+x6)→Q (.int .i64 x7))) (((x0:Int)≠0)∧∀x8,x8=wi (Int.tdiv x3 x0)→RK ((decide (z1=z1) && true)) (∀x9,x9=wi (z1+x8)→Q (.int .i64 x9))))) (∀x10,x10=wi (h1 - h0)→∀x11,x11=wi (z1 - z0)→∀x12,x12=wi (ht - h0)→∀pM,pM=wi (x11 * x12)→((x10:Int)≠0)∧∀x14,x14=Int.tmod pM x10→BR (decide (x14 < 0)) (((x10:Int)≠0)∧∀x15,x15=wi (Int.tdiv pM x10)→∀x16,x16=wi (x15 - 1)→RK ((decide (z0=z0) && true)) (∀x17,x17=wi (z0+x16)→Q (.int .i64 x17))) (((x10:Int)≠0)∧∀x18,x18=wi (Int.tdiv pM x10)→RK ((decide (z0=z0) && true)) (∀x19,x19=wi (z0+x18)→Q (.int .i64 x19))))):=by kernel_rfl
theorem Tryz.at3(hv:lq [(h0,l0,u0),(h1,l1,u1),(h2,l2,u2)])(hb:h0≤ht∧ht≤h2∧0≤z0∧z0≤959∧0≤z1∧z1≤959∧0≤z2∧z2≤959):bJ Tryz.prog (fun v _=>∃x:Int,(x=gQ [(h0,z0),(h1,z1),(h2,z2)] ht ∧ -10000000000000≤x∧x≤10000000000000)∧v = .int .i64 x) ⟨aB.enter Tryz.prog 36 ⟨[(bv 3 af cp ot nt ct os ns cs),.agg ⟨[.int .i64 z0,.int .i64 z1,.int .i64 z2,.int .i64 0,.int .i64 0]⟩,.int .i64 ht]⟩,[],cu 4 (L4 (Jv h0 l0 u0 h1 l1 u1 h2 l2 u2) tc sc kc)⟩:=by
 refine aJ (Tryz.ok dJ) (Tryz.afa _ _) ?_
 simp only [lq,nM,and_true] at hv
 refine BR.mk (fun _=>?_) (fun _=>?_)
 ·
  iterate 7 (first|refine BR.rr ?_|refine va fun _ _=>?_|refine vs fun _ _ _=>?_|refine vm (by omega) (by omega) (by omega) (by omega) fun _ _ _ _=>?_|refine ⟨by omega,?_⟩)
  refine BR.mk (fun _=>?_) (fun _=>?_)
  ·
   iterate 5 (first|refine va fun _ _=>?_|refine vq (by omega) (by omega) fun _ _ _=>?_|refine ⟨by omega,?_⟩|refine ⟨by simp,?_⟩)
   exact EW (by subst_vars;simp only [gQ];(repeat' split)<;>first|omega|exact bP (by omega) (by assumption)|exact bM (by omega) (by assumption)) (by omega)
  refine ⟨by omega,?_⟩
  refine vq (by omega) (by omega) fun x8 _ _=>?_
  refine ⟨by simp,?_⟩
  refine va fun x9 _=>?_
  exact EW (by subst_vars;simp only [gQ];(repeat' split)<;>first|omega|exact bP (by omega) (by assumption)|exact bM (by omega) (by assumption)) (by omega)
 iterate 6 (first|refine va fun _ _=>?_|refine vs fun _ _ _=>?_|refine vm (by omega) (by omega) (by omega) (by omega) fun _ _ _ _=>?_|refine ⟨by omega,?_⟩)
 refine BR.mk (fun _=>?_) (fun _=>?_)
 ·
  iterate 5 (first|refine va fun _ _=>?_|refine vq (by omega) (by omega) fun _ _ _=>?_|refine ⟨by omega,?_⟩|refine ⟨by simp,?_⟩)
  exact EW (by subst_vars;simp only [gQ];(repeat' split)<;>first|omega|exact bP (by omega) (by assumption)|exact bM (by omega) (by assumption)) (by omega)
 refine ⟨by omega,?_⟩
 refine vq (by omega) (by omega) fun x18 _ _=>?_
 refine ⟨by simp,?_⟩
 refine va fun x19 _=>?_
 exact EW (by subst_vars;simp only [gQ];(repeat' split)<;>first|omega|exact bP (by omega) (by assumption)|exact bM (by omega) (by assumption)) (by omega)
end
section
variable{h0 l0 u0 h1 l1 u1 h2 l2 u2 h3 l3 u3 z0 z1 z2 z3 ht af:Int}{cp nt ct ns cs:Nat}{tc sc kc:Array Value}{ot os:Option Addr}
theorem Tryz.afb(Q:Value→Prop)(K:AS→Prop):tx (Tryz.X []) Q K (.br 2 15 18 (.br 4 13 18 (.br 4 13 18 .no uN) uN) uN) ⟨aB.enter Tryz.prog 36 ⟨[(bv 4 af cp ot nt ct os ns cs),.agg ⟨[.int .i64 z0,.int .i64 z1,.int .i64 z2,.int .i64 z3,.int .i64 0]⟩,.int .i64 ht]⟩,[],cu 4 (L4 (CB h0 l0 u0 h1 l1 u1 h2 l2 u2 h3 l3 u3) tc sc kc)⟩=(BR (decide (ht > h1)) (BR (decide (ht > h2)) (BR (decide (ht > h3)) (False) (∀x0,x0=wi (h3 - h2)→∀x1,x1=wi (z3 - z2)→∀x2,x2=wi (ht - h2)→∀x3,x3=wi (x1 * x2)→((x0:Int)≠0)∧∀x4,x4=Int.tmod x3 x0→BR (decide (x4 < 0)) (((x0:Int)≠0)∧∀x5,x5=wi (Int.tdiv x3 x0)→∀x6,x6=wi (x5 - 1)→RK ((decide (z2=z2) && true)) (∀x7,x7=wi (z2+x6)→Q (.int .i64 x7))) (((x0:Int)≠0)∧∀x8,x8=wi (Int.tdiv x3 x0)→RK ((decide (z2=z2) && true)) (∀x9,x9=wi (z2+x8)→Q (.int .i64 x9))))) (∀x10,x10=wi (h2 - h1)→∀x11,x11=wi (z2 - z1)→∀x12,x12=wi (ht - h1)→∀pM,pM=wi (x11 * x12)→((x10:Int)≠0)∧∀x14,x14=Int.tmod pM x10→BR (decide (x14 < 0)) (((x10:Int)≠0)∧∀x15,x15=wi (Int.tdiv pM x10)→∀x16,x16=wi (x15 - 1)→RK ((decide (z1=z1) && true)) (∀x17,x17=wi (z1+x16)→Q (.int .i64 x17))) (((x10:Int)≠0)∧∀x18,x18=wi (Int.tdiv pM x10)→RK ((decide (z1=z1) && true)) (∀x19,x19=wi (z1+x18)→Q (.int .i64 x19))))) (∀x20,x20=wi (h1 - h0)→∀Jw,Jw=wi (z1 - z0)→∀iq,iq=wi (ht - h0)→∀jU,jU=wi (Jw * iq)→((x20:Int)≠0)∧∀x24,x24=Int.tmod jU x20→BR (decide (x24 < 0)) (((x20:Int)≠0)∧∀x25,x25=wi (Int.tdiv jU x20)→∀qR,qR=wi (x25 - 1)→RK ((decide (z0=z0) && true)) (∀x27,x27=wi (z0+qR)→Q (.int .i64 x27))) (((x20:Int)≠0)∧∀x28,x28=wi (Int.tdiv jU x20)→RK ((decide (z0=z0) && true)) (∀x29,x29=wi (z0+x28)→Q (.int .i64 x29))))):=by kernel_rfl
theorem Tryz.at4(hv:lq [(h0,l0,u0),(h1,l1,u1),(h2,l2,u2),(h3,l3,u3)])(hb:h0≤ht∧ht≤h3∧0≤z0∧z0≤959∧0≤z1∧z1≤959∧0≤z2∧z2≤959∧0≤z3∧z3≤959):bJ Tryz.prog (fun v _=>∃x:Int,(x=gQ [(h0,z0),(h1,z1),(h2,z2),(h3,z3)] ht ∧ -10000000000000≤x∧x≤10000000000000)∧v = .int .i64 x) ⟨aB.enter Tryz.prog 36 ⟨[(bv 4 af cp ot nt ct os ns cs),.agg ⟨[.int .i64 z0,.int .i64 z1,.int .i64 z2,.int .i64 z3,.int .i64 0]⟩,.int .i64 ht]⟩,[],cu 4 (L4 (CB h0 l0 u0 h1 l1 u1 h2 l2 u2 h3 l3 u3) tc sc kc)⟩:=by
 refine aJ (Tryz.ok dJ) (Tryz.afb _ _) ?_
 simp only [lq,nM,and_true] at hv
 refine BR.mk (fun _=>?_) (fun _=>?_)
 ·
  refine BR.mk (fun _=>?_) (fun _=>?_)
  ·
   iterate 7 (first|refine BR.rr ?_|refine va fun _ _=>?_|refine vs fun _ _ _=>?_|refine vm (by omega) (by omega) (by omega) (by omega) fun _ _ _ _=>?_|refine ⟨by omega,?_⟩)
   refine BR.mk (fun _=>?_) (fun _=>?_)
   ·
    iterate 5 (first|refine va fun _ _=>?_|refine vq (by omega) (by omega) fun _ _ _=>?_|refine ⟨by omega,?_⟩|refine ⟨by simp,?_⟩)
    exact EW (by subst_vars;simp only [gQ];(repeat' split)<;>first|omega|exact bP (by omega) (by assumption)|exact bM (by omega) (by assumption)) (by omega)
   refine ⟨by omega,?_⟩
   refine vq (by omega) (by omega) fun x8 _ _=>?_
   refine ⟨by simp,?_⟩
   refine va fun x9 _=>?_
   exact EW (by subst_vars;simp only [gQ];(repeat' split)<;>first|omega|exact bP (by omega) (by assumption)|exact bM (by omega) (by assumption)) (by omega)
  iterate 6 (first|refine va fun _ _=>?_|refine vs fun _ _ _=>?_|refine vm (by omega) (by omega) (by omega) (by omega) fun _ _ _ _=>?_|refine ⟨by omega,?_⟩)
  refine BR.mk (fun _=>?_) (fun _=>?_)
  ·
   iterate 5 (first|refine va fun _ _=>?_|refine vq (by omega) (by omega) fun _ _ _=>?_|refine ⟨by omega,?_⟩|refine ⟨by simp,?_⟩)
   exact EW (by subst_vars;simp only [gQ];(repeat' split)<;>first|omega|exact bP (by omega) (by assumption)|exact bM (by omega) (by assumption)) (by omega)
  refine ⟨by omega,?_⟩
  refine vq (by omega) (by omega) fun x18 _ _=>?_
  refine ⟨by simp,?_⟩
  refine va fun x19 _=>?_
  exact EW (by subst_vars;simp only [gQ];(repeat' split)<;>first|omega|exact bP (by omega) (by assumption)|exact bM (by omega) (by assumption)) (by omega)
 iterate 6 (first|refine va fun _ _=>?_|refine vs fun _ _ _=>?_|refine vm (by omega) (by omega) (by omega) (by omega) fun _ _ _ _=>?_|refine ⟨by omega,?_⟩)
 refine BR.mk (fun _=>?_) (fun _=>?_)
 ·
  iterate 5 (first|refine va fun _ _=>?_|refine vq (by omega) (by omega) fun _ _ _=>?_|refine ⟨by omega,?_⟩|refine ⟨by simp,?_⟩)
  exact EW (by subst_vars;simp only [gQ];(repeat' split)<;>first|omega|exact bP (by omega) (by assumption)|exact bM (by omega) (by assumption)) (by omega)
 refine ⟨by omega,?_⟩
 refine vq (by omega) (by omega) fun x28 _ _=>?_
 refine ⟨by simp,?_⟩
 refine va fun x29 _=>?_
 exact EW (by subst_vars;simp only [gQ];(repeat' split)<;>first|omega|exact bP (by omega) (by assumption)|exact bM (by omega) (by assumption)) (by omega)
end
section
variable{h0 l0 u0 h1 l1 u1 h2 l2 u2 h3 l3 u3 h4 l4 u4 z0 z1 z2 z3 z4 ht af:Int}{cp nt ct ns cs:Nat}{tc sc kc:Array Value}{ot os:Option Addr}
theorem Tryz.afc(Q:Value→Prop)(K:AS→Prop):tx (Tryz.X []) Q K (.br 2 15 18 (.br 4 13 18 (.br 4 13 18 (.br 4 13 18 .no uN) uN) uN) uN) ⟨aB.enter Tryz.prog 36 ⟨[(bv 5 af cp ot nt ct os ns cs),.agg ⟨[.int .i64 z0,.int .i64 z1,.int .i64 z2,.int .i64 z3,.int .i64 z4]⟩,.int .i64 ht]⟩,[],cu 4 (L4 (yF h0 l0 u0 h1 l1 u1 h2 l2 u2 h3 l3 u3 h4 l4 u4) tc sc kc)⟩=(BR (decide (ht > h1)) (BR (decide (ht > h2)) (BR (decide (ht > h3)) (BR (decide (ht > h4)) (False) (∀x0,x0=wi (h4 - h3)→∀x1,x1=wi (z4 - z3)→∀x2,x2=wi (ht - h3)→∀x3,x3=wi (x1 * x2)→((x0:Int)≠0)∧∀x4,x4=Int.tmod x3 x0→BR (decide (x4 < 0)) (((x0:Int)≠0)∧∀x5,x5=wi (Int.tdiv x3 x0)→∀x6,x6=wi (x5 - 1)→RK ((decide (z3=z3) && true)) (∀x7,x7=wi (z3+x6)→Q (.int .i64 x7))) (((x0:Int)≠0)∧∀x8,x8=wi (Int.tdiv x3 x0)→RK ((decide (z3=z3) && true)) (∀x9,x9=wi (z3+x8)→Q (.int .i64 x9))))) (∀x10,x10=wi (h3 - h2)→∀x11,x11=wi (z3 - z2)→∀x12,x12=wi (ht - h2)→∀pM,pM=wi (x11 * x12)→((x10:Int)≠0)∧∀x14,x14=Int.tmod pM x10→BR (decide (x14 < 0)) (((x10:Int)≠0)∧∀x15,x15=wi (Int.tdiv pM x10)→∀x16,x16=wi (x15 - 1)→RK ((decide (z2=z2) && true)) (∀x17,x17=wi (z2+x16)→Q (.int .i64 x17))) (((x10:Int)≠0)∧∀x18,x18=wi (Int.tdiv pM x10)→RK ((decide (z2=z2) && true)) (∀x19,x19=wi (z2+x18)→Q (.int .i64 x19))))) (∀x20,x20=wi (h2 - h1)→∀Jw,Jw=wi (z2 - z1)→∀iq,iq=wi (ht - h1)→∀jU,jU=wi (Jw * iq)→((x20:Int)≠0)∧∀x24,x24=Int.tmod jU x20→BR (decide (x24 < 0)) (((x20:Int)≠0)∧∀x25,x25=wi (Int.tdiv jU x20)→∀qR,qR=wi (x25 - 1)→RK ((decide (z1=z1) && true)) (∀x27,x27=wi (z1+qR)→Q (.int .i64 x27))) (((x20:Int)≠0)∧∀x28,x28=wi (Int.tdiv jU x20)→RK ((decide (z1=z1) && true)) (∀x29,x29=wi (z1+x28)→Q (.int .i64 x29))))) (∀x30,x30=wi (h1 - h0)→∀x31,x31=wi (z1 - z0)→∀x32,x32=wi (ht - h0)→∀kG,kG=wi (x31 * x32)→((x30:Int)≠0)∧∀x34,x34=Int.tmod kG x30→BR (decide (x34 < 0)) (((x30:Int)≠0)∧∀lG,lG=wi (Int.tdiv kG x30)→∀pF,pF=wi (lG - 1)→RK ((decide (z0=z0) && true)) (∀jD,jD=wi (z0+pF)→Q (.int .i64 jD))) (((x30:Int)≠0)∧∀x38,x38=wi (Int.tdiv kG x30)→RK ((decide (z0=z0) && true)) (∀x39,x39=wi (z0+x38)→Q (.int .i64 x39))))):=by kernel_rfl
theorem Tryz.at5(hv:lq [(h0,l0,u0),(h1,l1,u1),(h2,l2,u2),(h3,l3,u3),(h4,l4,u4)])(hb:h0≤ht∧ht≤h4∧0≤z0∧z0≤959∧0≤z1∧z1≤959∧0≤z2∧z2≤959∧0≤z3∧z3≤959∧0≤z4∧z4≤959):bJ Tryz.prog (fun v _=>∃x:Int,(x=gQ [(h0,z0),(h1,z1),(h2,z2),(h3,z3),(h4,z4)] ht ∧ -10000000000000≤x∧x≤10000000000000)∧v = .int .i64 x) ⟨aB.enter Tryz.prog 36 ⟨[(bv 5 af cp ot nt ct os ns cs),.agg ⟨[.int .i64 z0,.int .i64 z1,.int .i64 z2,.int .i64 z3,.int .i64 z4]⟩,.int .i64 ht]⟩,[],cu 4 (L4 (yF h0 l0 u0 h1 l1 u1 h2 l2 u2 h3 l3 u3 h4 l4 u4) tc sc kc)⟩:=by
 refine aJ (Tryz.ok dJ) (Tryz.afc _ _) ?_
 simp only [lq,nM,and_true] at hv
 refine BR.mk (fun _=>?_) (fun _=>?_)
 ·
  refine BR.mk (fun _=>?_) (fun _=>?_)
  ·
   refine BR.mk (fun _=>?_) (fun _=>?_)
   ·
    iterate 7 (first|refine BR.rr ?_|refine va fun _ _=>?_|refine vs fun _ _ _=>?_|refine vm (by omega) (by omega) (by omega) (by omega) fun _ _ _ _=>?_|refine ⟨by omega,?_⟩)
    refine BR.mk (fun _=>?_) (fun _=>?_)
    ·
     iterate 5 (first|refine va fun _ _=>?_|refine vq (by omega) (by omega) fun _ _ _=>?_|refine ⟨by omega,?_⟩|refine ⟨by simp,?_⟩)
     exact EW (by subst_vars;simp only [gQ];(repeat' split)<;>first|omega|exact bP (by omega) (by assumption)|exact bM (by omega) (by assumption)) (by omega)
    refine ⟨by omega,?_⟩
    refine vq (by omega) (by omega) fun x8 _ _=>?_
    refine ⟨by simp,?_⟩
    refine va fun x9 _=>?_
    exact EW (by subst_vars;simp only [gQ];(repeat' split)<;>first|omega|exact bP (by omega) (by assumption)|exact bM (by omega) (by assumption)) (by omega)
   iterate 6 (first|refine va fun _ _=>?_|refine vs fun _ _ _=>?_|refine vm (by omega) (by omega) (by omega) (by omega) fun _ _ _ _=>?_|refine ⟨by omega,?_⟩)
   refine BR.mk (fun _=>?_) (fun _=>?_)
   ·
    iterate 5 (first|refine va fun _ _=>?_|refine vq (by omega) (by omega) fun _ _ _=>?_|refine ⟨by omega,?_⟩|refine ⟨by simp,?_⟩)
    exact EW (by subst_vars;simp only [gQ];(repeat' split)<;>first|omega|exact bP (by omega) (by assumption)|exact bM (by omega) (by assumption)) (by omega)
   refine ⟨by omega,?_⟩
   refine vq (by omega) (by omega) fun x18 _ _=>?_
   refine ⟨by simp,?_⟩
   refine va fun x19 _=>?_
   exact EW (by subst_vars;simp only [gQ];(repeat' split)<;>first|omega|exact bP (by omega) (by assumption)|exact bM (by omega) (by assumption)) (by omega)
  iterate 6 (first|refine va fun _ _=>?_|refine vs fun _ _ _=>?_|refine vm (by omega) (by omega) (by omega) (by omega) fun _ _ _ _=>?_|refine ⟨by omega,?_⟩)
  refine BR.mk (fun _=>?_) (fun _=>?_)
  ·
   iterate 5 (first|refine va fun _ _=>?_|refine vq (by omega) (by omega) fun _ _ _=>?_|refine ⟨by omega,?_⟩|refine ⟨by simp,?_⟩)
   exact EW (by subst_vars;simp only [gQ];(repeat' split)<;>first|omega|exact bP (by omega) (by assumption)|exact bM (by omega) (by assumption)) (by omega)
  refine ⟨by omega,?_⟩
  refine vq (by omega) (by omega) fun x28 _ _=>?_
  refine ⟨by simp,?_⟩
  refine va fun x29 _=>?_
  exact EW (by subst_vars;simp only [gQ];(repeat' split)<;>first|omega|exact bP (by omega) (by assumption)|exact bM (by omega) (by assumption)) (by omega)
 iterate 6 (first|refine va fun _ _=>?_|refine vs fun _ _ _=>?_|refine vm (by omega) (by omega) (by omega) (by omega) fun _ _ _ _=>?_|refine ⟨by omega,?_⟩)
 refine BR.mk (fun _=>?_) (fun _=>?_)
 ·
  iterate 5 (first|refine va fun _ _=>?_|refine vq (by omega) (by omega) fun _ _ _=>?_|refine ⟨by omega,?_⟩|refine ⟨by simp,?_⟩)
  exact EW (by subst_vars;simp only [gQ];(repeat' split)<;>first|omega|exact bP (by omega) (by assumption)|exact bM (by omega) (by assumption)) (by omega)
 refine ⟨by omega,?_⟩
 refine vq (by omega) (by omega) fun x38 _ _=>?_
 refine ⟨by simp,?_⟩
 refine va fun x39 _=>?_
 exact EW (by subst_vars;simp only [gQ];(repeat' split)<;>first|omega|exact bP (by omega) (by assumption)|exact bM (by omega) (by assumption)) (by omega)
end
section
variable{h0 l0 u0 h1 l1 u1 z0 z1 af:Int}{cp nt ct ns cs:Nat}{tc sc kc:Array Value}{ot os:Option Addr}
theorem Tryz.afd(Q:Value→Prop)(K:AS→Prop):tx (Tryz.X []) Q K (.val 9 16 23 (.val 0 8 31 (.val 5 9 32 (.val 0 2 34 (.val 0 1 35 (.ret 7 1)))))) ⟨aB.enter Tryz.prog 37 ⟨[(bv 2 af cp ot nt ct os ns cs),.agg ⟨[.int .i64 z0,.int .i64 z1,.int .i64 0,.int .i64 0,.int .i64 0]⟩]⟩,[],cu 4 (L4 (L9 h0 l0 u0 h1 l1 u1) tc sc kc)⟩=(∀x0,x0=wi (h1 - h0)→∀x1,x1=wi (z1 - z0)→∀x2,x2=wi (z0+z1)→∀x3,x3=wi (x2 * x0)→∀x4,x4=wi (0+x3)→Q (.int .i64 x4)):=by kernel_rfl
theorem Tryz.ar2(hv:lq [(h0,l0,u0),(h1,l1,u1)])(hb:0≤z0∧z0≤959∧0≤z1∧z1≤959):bJ Tryz.prog (fun v _=>∃x:Int,x=uu [(h0,z0),(h1,z1)]∧v = .int .i64 x) ⟨aB.enter Tryz.prog 37 ⟨[(bv 2 af cp ot nt ct os ns cs),.agg ⟨[.int .i64 z0,.int .i64 z1,.int .i64 0,.int .i64 0,.int .i64 0]⟩]⟩,[],cu 4 (L4 (L9 h0 l0 u0 h1 l1 u1) tc sc kc)⟩:=by
 refine aJ (Tryz.ok dJ) (Tryz.afd _ _) ?_
 simp only [lq,nM,and_true] at hv
 iterate 5 (first|refine va fun _ _=>?_|refine vm (by omega) (by omega) (by omega) (by omega) fun _ _ _ _=>?_)
 exact lfv (by subst_vars;simp only [uu];omega)
end
section
variable{h0 l0 u0 h1 l1 u1 h2 l2 u2 z0 z1 z2 af:Int}{cp nt ct ns cs:Nat}{tc sc kc:Array Value}{ot os:Option Addr}
theorem Tryz.afe(Q:Value→Prop)(K:AS→Prop):tx (Tryz.X []) Q K YU ⟨aB.enter Tryz.prog 37 ⟨[(bv 3 af cp ot nt ct os ns cs),.agg ⟨[.int .i64 z0,.int .i64 z1,.int .i64 z2,.int .i64 0,.int .i64 0]⟩]⟩,[],cu 4 (L4 (Jv h0 l0 u0 h1 l1 u1 h2 l2 u2) tc sc kc)⟩=(∀x0,x0=wi (h1 - h0)→∀x1,x1=wi (z1 - z0)→∀x2,x2=wi (z0+z1)→∀x3,x3=wi (x2 * x0)→∀x4,x4=wi (0+x3)→∀x5,x5=wi (h2 - h1)→∀x6,x6=wi (z2 - z1)→∀x7,x7=wi (z1+z2)→∀x8,x8=wi (x7 * x5)→∀x9,x9=wi (x4+x8)→Q (.int .i64 x9)):=by kernel_rfl
theorem Tryz.ar3(hv:lq [(h0,l0,u0),(h1,l1,u1),(h2,l2,u2)])(hb:0≤z0∧z0≤959∧0≤z1∧z1≤959∧0≤z2∧z2≤959):bJ Tryz.prog (fun v _=>∃x:Int,x=uu [(h0,z0),(h1,z1),(h2,z2)]∧v = .int .i64 x) ⟨aB.enter Tryz.prog 37 ⟨[(bv 3 af cp ot nt ct os ns cs),.agg ⟨[.int .i64 z0,.int .i64 z1,.int .i64 z2,.int .i64 0,.int .i64 0]⟩]⟩,[],cu 4 (L4 (Jv h0 l0 u0 h1 l1 u1 h2 l2 u2) tc sc kc)⟩:=by
 refine aJ (Tryz.ok dJ) (Tryz.afe _ _) ?_
 simp only [lq,nM,and_true] at hv
 iterate 10 (first|refine va fun _ _=>?_|refine vm (by omega) (by omega) (by omega) (by omega) fun _ _ _ _=>?_)
 exact lfv (by subst_vars;simp only [uu];omega)
end
section
variable{h0 l0 u0 h1 l1 u1 h2 l2 u2 h3 l3 u3 z0 z1 z2 z3 af:Int}{cp nt ct ns cs:Nat}{tc sc kc:Array Value}{ot os:Option Addr}
theorem Tryz.aff(Q:Value→Prop)(K:AS→Prop):tx (Tryz.X []) Q K YV ⟨aB.enter Tryz.prog 37 ⟨[(bv 4 af cp ot nt ct os ns cs),.agg ⟨[.int .i64 z0,.int .i64 z1,.int .i64 z2,.int .i64 z3,.int .i64 0]⟩]⟩,[],cu 4 (L4 (CB h0 l0 u0 h1 l1 u1 h2 l2 u2 h3 l3 u3) tc sc kc)⟩=(∀x0,x0=wi (h1 - h0)→∀x1,x1=wi (z1 - z0)→∀x2,x2=wi (z0+z1)→∀x3,x3=wi (x2 * x0)→∀x4,x4=wi (0+x3)→∀x5,x5=wi (h2 - h1)→∀x6,x6=wi (z2 - z1)→∀x7,x7=wi (z1+z2)→∀x8,x8=wi (x7 * x5)→∀x9,x9=wi (x4+x8)→∀x10,x10=wi (h3 - h2)→∀x11,x11=wi (z3 - z2)→∀x12,x12=wi (z2+z3)→∀pM,pM=wi (x12 * x10)→∀x14,x14=wi (x9+pM)→Q (.int .i64 x14)):=by kernel_rfl
theorem Tryz.ar4(hv:lq [(h0,l0,u0),(h1,l1,u1),(h2,l2,u2),(h3,l3,u3)])(hb:0≤z0∧z0≤959∧0≤z1∧z1≤959∧0≤z2∧z2≤959∧0≤z3∧z3≤959):bJ Tryz.prog (fun v _=>∃x:Int,x=uu [(h0,z0),(h1,z1),(h2,z2),(h3,z3)]∧v = .int .i64 x) ⟨aB.enter Tryz.prog 37 ⟨[(bv 4 af cp ot nt ct os ns cs),.agg ⟨[.int .i64 z0,.int .i64 z1,.int .i64 z2,.int .i64 z3,.int .i64 0]⟩]⟩,[],cu 4 (L4 (CB h0 l0 u0 h1 l1 u1 h2 l2 u2 h3 l3 u3) tc sc kc)⟩:=by
 refine aJ (Tryz.ok dJ) (Tryz.aff _ _) ?_
 simp only [lq,nM,and_true] at hv
 iterate 15 (first|refine va fun _ _=>?_|refine vm (by omega) (by omega) (by omega) (by omega) fun _ _ _ _=>?_)
 exact lfv (by subst_vars;simp only [uu];omega)
end
section
variable{h0 l0 u0 h1 l1 u1 h2 l2 u2 h3 l3 u3 h4 l4 u4 z0 z1 z2 z3 z4 af:Int}{cp nt ct ns cs:Nat}{tc sc kc:Array Value}{ot os:Option Addr}
theorem Tryz.afg(Q:Value→Prop)(K:AS→Prop):tx (Tryz.X []) Q K (.val 9 16 23 (.val 0 8 31 (.val 5 9 32 (.val 0 2 34 (.val 0 1 35 YV))))) ⟨aB.enter Tryz.prog 37 ⟨[(bv 5 af cp ot nt ct os ns cs),.agg ⟨[.int .i64 z0,.int .i64 z1,.int .i64 z2,.int .i64 z3,.int .i64 z4]⟩]⟩,[],cu 4 (L4 (yF h0 l0 u0 h1 l1 u1 h2 l2 u2 h3 l3 u3 h4 l4 u4) tc sc kc)⟩=(∀x0,x0=wi (h1 - h0)→∀x1,x1=wi (z1 - z0)→∀x2,x2=wi (z0+z1)→∀x3,x3=wi (x2 * x0)→∀x4,x4=wi (0+x3)→∀x5,x5=wi (h2 - h1)→∀x6,x6=wi (z2 - z1)→∀x7,x7=wi (z1+z2)→∀x8,x8=wi (x7 * x5)→∀x9,x9=wi (x4+x8)→∀x10,x10=wi (h3 - h2)→∀x11,x11=wi (z3 - z2)→∀x12,x12=wi (z2+z3)→∀pM,pM=wi (x12 * x10)→∀x14,x14=wi (x9+pM)→∀x15,x15=wi (h4 - h3)→∀x16,x16=wi (z4 - z3)→∀x17,x17=wi (z3+z4)→∀x18,x18=wi (x17 * x15)→∀x19,x19=wi (x14+x18)→Q (.int .i64 x19)):=by kernel_rfl
theorem Tryz.ar5(hv:lq [(h0,l0,u0),(h1,l1,u1),(h2,l2,u2),(h3,l3,u3),(h4,l4,u4)])(hb:0≤z0∧z0≤959∧0≤z1∧z1≤959∧0≤z2∧z2≤959∧0≤z3∧z3≤959∧0≤z4∧z4≤959):bJ Tryz.prog (fun v _=>∃x:Int,x=uu [(h0,z0),(h1,z1),(h2,z2),(h3,z3),(h4,z4)]∧v = .int .i64 x) ⟨aB.enter Tryz.prog 37 ⟨[(bv 5 af cp ot nt ct os ns cs),.agg ⟨[.int .i64 z0,.int .i64 z1,.int .i64 z2,.int .i64 z3,.int .i64 z4]⟩]⟩,[],cu 4 (L4 (yF h0 l0 u0 h1 l1 u1 h2 l2 u2 h3 l3 u3 h4 l4 u4) tc sc kc)⟩:=by
 refine aJ (Tryz.ok dJ) (Tryz.afg _ _) ?_
 simp only [lq,nM,and_true] at hv
 iterate 20 (first|refine va fun _ _=>?_|refine vm (by omega) (by omega) (by omega) (by omega) fun _ _ _ _=>?_)
 exact lfv (by subst_vars;simp only [uu];omega)
end
end Go.Am
namespace Go.Am
open Go.Proofs
def G6:List (Int×Int×Int)→Int→Prop
 | (p,x,y) :: (q,u,v) :: l,d=>p < q∧x - d≤y∧G6 ((q,u,v) :: l) d
 | [(_,x,y)],d=>x - d≤y
 | [],_=>True
def Qn:List (Int×Int×Int)→Int→Int→Prop
 | (p,x,y) :: l,d,t=>p≤t∧G6 ((p,x,y) :: l) d
 | [],_,_=>True
theorem aa9{x u y v d a b:Int}(hn:0 < a+b)(ha:0≤a)(hb:0≤b)(h1:x - d≤y)(h2:u - d≤v):x+(u - x) * a / (a+b) - d≤y+(v - y) * a / (a+b):=by
 have e1:(((u - x) * a+(x - d) * (a+b)) / (a+b))=(u - x) * a / (a+b)+(x - d):=Int.add_mul_ediv_right _ _ (by omega)
 have e2:(((v - y) * a+y * (a+b)) / (a+b))=(v - y) * a / (a+b)+y:=Int.add_mul_ediv_right _ _ (by omega)
 have m1:(u - d) * a≤v * a:=Int.mul_le_mul_of_nonneg_right h2 ha
 have m2:(x - d) * b≤y * b:=Int.mul_le_mul_of_nonneg_right h1 hb
 have m3:(u - x) * a+(x - d) * (a+b)≤(v - y) * a+y * (a+b):=by
   rw [Int.sub_mul] at m1 m2
   rw [Int.sub_mul,Int.sub_mul,Int.sub_mul,Int.mul_add,Int.mul_add,Int.mul_add]
   omega
 have m4:=Int.ediv_le_ediv hn m3
 omega
theorem kH:∀(l:List (Int×Int×Int)) (d t:Int),Qn l d t→0≤d→gQ (l.map fun e=>(e.1,e.2.1)) t - d≤gQ (l.map fun e=>(e.1,e.2.2)) t
 | [],d,t,_,hd=>by simp only [List.map_nil,gQ];omega
 | [(p,x,y)],d,t,_,hd=>by simp only [List.map_cons,List.map_nil,gQ];omega
 | (p,x,y) :: (q,u,v) :: l,d,t,⟨h1,h2,h3,h4⟩,hd=>by
   simp only [List.map_cons,gQ]
   split
   · have h5:u - d≤v:=by
      cases l with
      | nil=>exact h4
      | cons e l=>exact h4.2.1
     have:=aa9 (x:=x) (u:=u) (y:=y) (v:=v) (d:=d) (a:=t - p) (b:=q - t) (by omega) (by omega) (by omega) h3 h5
     rw [show t - p+(q - t)=q - p by omega] at this
     exact this
   · exact kH ((q,u,v) :: l) d t ⟨by omega,h4⟩ hd
theorem CE:∀(l:List (Int×Int×Int)),G6 l 0→uu (l.map fun e=>(e.1,e.2.1))≤uu (l.map fun e=>(e.1,e.2.2))
 | [],_=>by simp only [List.map_nil,uu];omega
 | [(p,x,y)],_=>by simp only [List.map_cons,List.map_nil,uu];omega
 | (p,x,y) :: (q,u,v) :: l,⟨h2,h3,h4⟩=>by
   simp only [List.map_cons,uu]
   have h5:u - 0≤v:=by
     cases l with
     |nil=>exact h4
     |cons e l=>exact h4.2.1
   have m:(x+u) * (q - p)≤(y+v) * (q - p):=Int.mul_le_mul_of_nonneg_right (by omega) (by omega)
   have ih:=CE ((q,u,v) :: l) h4
   simp only [List.map_cons] at ih
   omega
def Mx(x a:Int):Prop:=x=max a 0
theorem og{x y a b:Int}(h:Mx x a)(k:Mx y b)(l:a≤b):x≤y:=by unfold Mx at h k;omega
theorem xJ{a d:Int}{F:Int→Prop}(h1:0≤a+d)(h2:0≤d)(k:∀x,Mx x a→a≤x→0≤x→x≤a+d→F x):∀x,x=(if 0 > a then 0 else a)→F x:=fun x hx=>by
 rw [YK] at hx
 exact k x hx (by omega) (by omega) (by omega)
noncomputable def Xn(pc tc sc kc:Array Value)(b:Value):Ct:=⟨87,fun _ _=>[],4,fun _=>L4 pc tc sc kc,fun _=>⟨[b]⟩,fun _=>True,fun _ x=>(x=0),fun x=>.int .i64 x⟩
def aba(h0 h1:Int):List Int→Prop
 | [ht,z0,z1]=>h0≤ht∧ht≤h1∧0≤z0∧z0≤959∧0≤z1∧z1≤959
 | _=>False
def aiX(h0 h1:Int):List Int→Int→Prop
 | [ht,z0,z1],x=>x=gQ [(h0,z0),(h1,z1)] ht ∧ -10000000000000≤x∧x≤10000000000000
 | _,_=>False
noncomputable def abb(h0 l0 u0 h1 l1 u1 af:Int)(cp nt ct ns cs:Nat)(tc sc kc:Array Value)(ot os:Option Addr):Ct:=⟨36,fun a _=>gI a 2 :: Jt 2 (nth a.toList 1),4,fun _=>L4 (L9 h0 l0 u0 h1 l1 u1) tc sc kc,fun ps=>⟨[(bv 2 af cp ot nt ct os ns cs),.agg ⟨(ps.tail.map fun n=>.int .i64 n) ++ [.int .i64 0,.int .i64 0,.int .i64 0]⟩,.int .i64 (ps.headD 0)]⟩,aba h0 h1,aiX h0 h1,fun x=>.int .i64 x⟩
def abd:List Int→Prop
 | [z0,z1]=>0≤z0∧z0≤959∧0≤z1∧z1≤959
 | _=>False
def aiY(h0 h1:Int):List Int→Int→Prop
 | [z0,z1],x=>x=uu [(h0,z0),(h1,z1)]
 | _,_=>False
noncomputable def abe(h0 l0 u0 h1 l1 u1 af:Int)(cp nt ct ns cs:Nat)(tc sc kc:Array Value)(ot os:Option Addr):Ct:=⟨37,fun a _=>Jt 2 (nth a.toList 1),4,fun _=>L4 (L9 h0 l0 u0 h1 l1 u1) tc sc kc,fun ps=>⟨[(bv 2 af cp ot nt ct os ns cs),.agg ⟨(ps.map fun n=>.int .i64 n) ++ [.int .i64 0,.int .i64 0,.int .i64 0]⟩]⟩,abd,aiY h0 h1,fun x=>.int .i64 x⟩
def abf(h0 h1 h2:Int):List Int→Prop
 | [ht,z0,z1,z2]=>h0≤ht∧ht≤h2∧0≤z0∧z0≤959∧0≤z1∧z1≤959∧0≤z2∧z2≤959
 | _=>False
def aiZ(h0 h1 h2:Int):List Int→Int→Prop
 | [ht,z0,z1,z2],x=>x=gQ [(h0,z0),(h1,z1),(h2,z2)] ht ∧ -10000000000000≤x∧x≤10000000000000
 | _,_=>False
noncomputable def afh(h0 l0 u0 h1 l1 u1 h2 l2 u2 af:Int)(cp nt ct ns cs:Nat)(tc sc kc:Array Value)(ot os:Option Addr):Ct:=⟨36,fun a _=>gI a 2 :: Jt 3 (nth a.toList 1),4,fun _=>L4 (Jv h0 l0 u0 h1 l1 u1 h2 l2 u2) tc sc kc,fun ps=>⟨[(bv 3 af cp ot nt ct os ns cs),.agg ⟨(ps.tail.map fun n=>.int .i64 n) ++ [.int .i64 0,.int .i64 0]⟩,.int .i64 (ps.headD 0)]⟩,abf h0 h1 h2,aiZ h0 h1 h2,fun x=>.int .i64 x⟩
def abg:List Int→Prop
 | [z0,z1,z2]=>0≤z0∧z0≤959∧0≤z1∧z1≤959∧0≤z2∧z2≤959
 | _=>False
def ai0(h0 h1 h2:Int):List Int→Int→Prop
 | [z0,z1,z2],x=>x=uu [(h0,z0),(h1,z1),(h2,z2)]
 | _,_=>False
noncomputable def afi(h0 l0 u0 h1 l1 u1 h2 l2 u2 af:Int)(cp nt ct ns cs:Nat)(tc sc kc:Array Value)(ot os:Option Addr):Ct:=⟨37,fun a _=>Jt 3 (nth a.toList 1),4,fun _=>L4 (Jv h0 l0 u0 h1 l1 u1 h2 l2 u2) tc sc kc,fun ps=>⟨[(bv 3 af cp ot nt ct os ns cs),.agg ⟨(ps.map fun n=>.int .i64 n) ++ [.int .i64 0,.int .i64 0]⟩]⟩,abg,ai0 h0 h1 h2,fun x=>.int .i64 x⟩
def abh(h0 h1 h2 h3:Int):List Int→Prop
 | [ht,z0,z1,z2,z3]=>h0≤ht∧ht≤h3∧0≤z0∧z0≤959∧0≤z1∧z1≤959∧0≤z2∧z2≤959∧0≤z3∧z3≤959
 | _=>False
def ai1(h0 h1 h2 h3:Int):List Int→Int→Prop
 | [ht,z0,z1,z2,z3],x=>x=gQ [(h0,z0),(h1,z1),(h2,z2),(h3,z3)] ht ∧ -10000000000000≤x∧x≤10000000000000
 | _,_=>False
noncomputable def Xo(h0 l0 u0 h1 l1 u1 h2 l2 u2 h3 l3 u3 af:Int)(cp nt ct ns cs:Nat)(tc sc kc:Array Value)(ot os:Option Addr):Ct:=⟨36,fun a _=>gI a 2 :: Jt 4 (nth a.toList 1),4,fun _=>L4 (CB h0 l0 u0 h1 l1 u1 h2 l2 u2 h3 l3 u3) tc sc kc,fun ps=>⟨[(bv 4 af cp ot nt ct os ns cs),.agg ⟨(ps.tail.map fun n=>.int .i64 n) ++ [.int .i64 0]⟩,.int .i64 (ps.headD 0)]⟩,abh h0 h1 h2 h3,ai1 h0 h1 h2 h3,fun x=>.int .i64 x⟩
def abj:List Int→Prop
 | [z0,z1,z2,z3]=>0≤z0∧z0≤959∧0≤z1∧z1≤959∧0≤z2∧z2≤959∧0≤z3∧z3≤959
 | _=>False
def ai2(h0 h1 h2 h3:Int):List Int→Int→Prop
 | [z0,z1,z2,z3],x=>x=uu [(h0,z0),(h1,z1),(h2,z2),(h3,z3)]
 | _,_=>False
noncomputable def Xp(h0 l0 u0 h1 l1 u1 h2 l2 u2 h3 l3 u3 af:Int)(cp nt ct ns cs:Nat)(tc sc kc:Array Value)(ot os:Option Addr):Ct:=⟨37,fun a _=>Jt 4 (nth a.toList 1),4,fun _=>L4 (CB h0 l0 u0 h1 l1 u1 h2 l2 u2 h3 l3 u3) tc sc kc,fun ps=>⟨[(bv 4 af cp ot nt ct os ns cs),.agg ⟨(ps.map fun n=>.int .i64 n) ++ [.int .i64 0]⟩]⟩,abj,ai2 h0 h1 h2 h3,fun x=>.int .i64 x⟩
def abk(h0 h1 h2 h3 h4:Int):List Int→Prop
 | [ht,z0,z1,z2,z3,z4]=>h0≤ht∧ht≤h4∧0≤z0∧z0≤959∧0≤z1∧z1≤959∧0≤z2∧z2≤959∧0≤z3∧z3≤959∧0≤z4∧z4≤959
 | _=>False
def ai3(h0 h1 h2 h3 h4:Int):List Int→Int→Prop
 | [ht,z0,z1,z2,z3,z4],x=>x=gQ [(h0,z0),(h1,z1),(h2,z2),(h3,z3),(h4,z4)] ht ∧ -10000000000000≤x∧x≤10000000000000
 | _,_=>False
noncomputable def Xq(h0 l0 u0 h1 l1 u1 h2 l2 u2 h3 l3 u3 h4 l4 u4 af:Int)(cp nt ct ns cs:Nat)(tc sc kc:Array Value)(ot os:Option Addr):Ct:=⟨36,fun a _=>gI a 2 :: Jt 5 (nth a.toList 1),4,fun _=>L4 (yF h0 l0 u0 h1 l1 u1 h2 l2 u2 h3 l3 u3 h4 l4 u4) tc sc kc,fun ps=>⟨[(bv 5 af cp ot nt ct os ns cs),.agg ⟨(ps.tail.map fun n=>.int .i64 n) ++ []⟩,.int .i64 (ps.headD 0)]⟩,abk h0 h1 h2 h3 h4,ai3 h0 h1 h2 h3 h4,fun x=>.int .i64 x⟩
def abl:List Int→Prop
 | [z0,z1,z2,z3,z4]=>0≤z0∧z0≤959∧0≤z1∧z1≤959∧0≤z2∧z2≤959∧0≤z3∧z3≤959∧0≤z4∧z4≤959
 | _=>False
def ai4(h0 h1 h2 h3 h4:Int):List Int→Int→Prop
 | [z0,z1,z2,z3,z4],x=>x=uu [(h0,z0),(h1,z1),(h2,z2),(h3,z3),(h4,z4)]
 | _,_=>False
noncomputable def Xr(h0 l0 u0 h1 l1 u1 h2 l2 u2 h3 l3 u3 h4 l4 u4 af:Int)(cp nt ct ns cs:Nat)(tc sc kc:Array Value)(ot os:Option Addr):Ct:=⟨37,fun a _=>Jt 5 (nth a.toList 1),4,fun _=>L4 (yF h0 l0 u0 h1 l1 u1 h2 l2 u2 h3 l3 u3 h4 l4 u4) tc sc kc,fun ps=>⟨[(bv 5 af cp ot nt ct os ns cs),.agg ⟨(ps.map fun n=>.int .i64 n) ++ []⟩]⟩,abl,ai4 h0 h1 h2 h3 h4,fun x=>.int .i64 x⟩
section
variable{af h0 l0 u0 h1 l1 u1 height:Int}{cp nt ct ns cs nk ck nm cm:Nat}{tc sc kc mc:Array Value}{ot os ok om:Option Addr}{V:Prop}
theorem Tryz.Xt:∀v0:Bool,v0=(decide (af=af) && (decide (cp=cp) && (((decide (ot=ot) && decide (nt=nt)) && decide (ct=ct)) && (((decide (os=os) && decide (ns=ns)) && decide (cs=cs)) && true))))→∀v2:Array Value,v2=(L9 h0 l0 u0 h1 l1 u1)→∀v3:Value,v3=(bv 2 af cp ot nt ct os ns cs)→∀v4:Prop,v4=(E4 v2 tc sc kc)→∀v1:Prop,v1=((AE ⟨[v3]⟩)∧v4∧True)→∀v5:Bool,v5=((decide (cp=cp) && ((decide (l1=l1) && (decide (u1=u1) && true)) && true)))→∀v6:Bool,v6=((decide (cp=cp) && ((decide (l0=l0) && (decide (u0=u0) && true)) && true)))→tx (Tryz.X [⟨12,fun _ _=>[],4,fun _=>L4 v2 tc sc kc,fun _=>⟨[v3]⟩,fun _=>True,fun _ x=>(x=0→V),fun x=>.int .i64 x⟩,⟨33,fun a _=>[gI a 1],4,fun _=>L4 v2 tc sc kc,fun ps=>⟨[.slice ok nk ck,.int .i64 (ps.headD 0)]⟩,fun _=>True,fun _ x=>(0≤x∧x≤65535),fun x=>.int .i64 x⟩,⟨33,fun a _=>[gI a 1],5,fun _=>L5 v2 tc sc kc mc,fun ps=>⟨[.slice om nm cm,.int .i64 (ps.headD 0)]⟩,fun _=>True,fun _ x=>(0≤x∧x≤65535),fun x=>.int .i64 x⟩,Xn (v2) tc sc kc v3,abb h0 l0 u0 h1 l1 u1 af cp nt ct ns cs tc sc kc ot os,abe h0 l0 u0 h1 l1 u1 af cp nt ct ns cs tc sc kc ot os]) (fun _=>False) (fun s=>gp (Tryz.X []) 3 5 s=true) (.val 5 10 10 (.br 0 1 11 (.cut 7 3) (.val 0 5 16 (.br 0 1 17 (.cut 7 3) (.call 3 3 (.br 0 1 9 (.dY 16 9 2 (.val 4 8 12 (.val 0 1 13 (.ov 0 0 (.val 0 0 14 (.val 0 1 15 (.rk 2 1 (.dY 8 9 2 (.val 4 8 12 (.val 0 1 13 (.ov 0 0 (.val 0 0 14 (.val 0 1 15 (.rk 2 1 (.rk 7 0 (.dY 9 9 3 (.val 4 8 12 (.val 0 1 13 (.ov 0 0 (.val 0 0 14 (.val 0 1 15 (.rk 2 1 (.dY 8 9 3 (.val 4 8 12 (.val 0 1 13 (.ov 0 0 (.val 0 0 14 (.val 0 1 15 (.rk 2 1 (.val 15 13 55 (.val 0 9 64 (.rk 0 1 (.val 8 13 55 (.val 0 9 64 (.rk 0 1 (.val 9 16 21 (.rk 4 0 (.val 4 8 12 (.val 0 1 13 (.ov 0 0 (.val 0 0 14 (.val 0 1 15 (.call 14 5 (.br 1 4 13 .no (.br 24 6 8 (.br 0 5 13 (.br 17 6 8 (.br 0 5 13 (.rk 34 0 (.br 8 10 12 .no (.br 0 14 26 .no (.call 5 6 (.call 11 5 (.br 1 4 13 .no (.br 24 6 8 (.br 0 5 13 (.br 17 6 8 (.br 0 5 13 (.rk 34 0 (.br 8 10 12 .no (.br 0 14 26 .no (.call 5 6 (.call 11 5 (.br 1 4 13 .no (.br 24 6 8 (.br 0 5 13 (.br 17 6 8 (.br 0 5 13 (.rk 34 0 (.call 6 5 (.call 11 5 (.br 1 4 13 .no (.br 24 6 8 (.br 0 5 13 (.br 17 6 8 (.br 0 5 13 (.rk 34 0 (.call 6 5 (.call 11 5 (.br 1 4 13 .no (.br 24 6 8 (.br 0 5 13 (.br 17 6 8 (.br 0 5 13 (.rk 34 0 (.val 25 8 24 (.val 0 1 25 (.val 6 8 24 (.val 0 1 25 (.call 19 5 (.br 1 4 13 .no (.br 24 6 8 (.br 0 5 13 (.br 17 6 8 (.br 0 5 13 (.rk 34 0 (.val 25 8 24 (.val 0 1 25 (.val 6 8 24 (.val 0 1 25 (.br 12 29 133 .no (.br 0 5 138 .no (.br 9 9 168 .no (.br 8 2 178 .no (.val 10 2 191 (.br 0 1 192 .no (.br 4 2 199 .no (.br 10 9 168 .no (.br 8 2 178 .no (.val 10 2 191 (.br 0 1 192 .no (.br 4 2 199 .no (.call 13 5 (.br 1 4 13 .no (.br 24 6 8 (.br 0 5 13 (.br 17 6 8 (.br 0 5 13 (.rk 34 0 (.br 8 10 12 .no (.br 0 14 26 .no (.call 5 6 (.br 4 8 213 (.val 0 7 220 (.br 0 1 221 (.cut 0 2) .no)) .no))))) .no) .no) .no) .no)))))))))))))))))))) .no) .no) .no) .no)))))))) .no) .no) .no) .no))))) .no) .no) .no) .no))))) .no) .no) .no) .no))))))) .no) .no) .no) .no))))))) .no) .no) .no) .no))))))))))))))))))))))))))))))))))))))))))))) (.cut 4 3))))))) ⟨aB.enter Tryz.prog 3 ⟨[v3,.slice ok nk ck,.slice om nm cm,.int .u16 height]⟩,[],cu 5 (L5 v2 tc sc kc mc)⟩=(∀x0,x0=((nt:Nat):Int)→BR (decide (x0 > 20)) ((true=true)) (∀x1,x1=((ns:Nat):Int)→BR (decide (x1 > 20)) ((true=true)) (v1∧∀x2:Int,(x2=0→V)→RK (true) (BR (decide (x2=0)) (((AE ⟨[.slice ok nk ck,.int .i64 0]⟩)∧v4∧True)∧∀x3:Int,(0≤x3∧x3≤65535)→RK v6 (∀x4,x4=wi (u0 - l0)→∀x5,x5=wi (x4+1)→((x5:Int)≠0)∧∀x6,x6=Int.tmod x3 x5→∀x7,x7=wi (l0+x6)→RK (((decide (x7=x7) && true) && true)) (((AE ⟨[.slice ok nk ck,.int .i64 1]⟩)∧v4∧True)∧∀x8:Int,(0≤x8∧x8≤65535)→RK v5 (∀x9,x9=wi (u1 - l1)→∀x10,x10=wi (x9+1)→((x10:Int)≠0)∧∀x11,x11=Int.tmod x8 x10→∀x12,x12=wi (l1+x11)→RK (((decide (x12=x12) && true) && true)) (RK ((v0 && (((decide (om=om) && decide (nm=nm)) && decide (cm=cm)) && true))) (((AE ⟨[.slice om nm cm,.int .i64 0]⟩)∧(E5 v2 tc sc kc mc)∧True)∧∀pM:Int,(0≤pM∧pM≤65535)→RK v6 (∀x14,x14=wi (u0 - l0)→∀x15,x15=wi (x14+1)→((x15:Int)≠0)∧∀x16,x16=Int.tmod pM x15→∀x17,x17=wi (l0+x16)→RK (((decide (x17=x17) && true) && true)) (((AE ⟨[.slice om nm cm,.int .i64 1]⟩)∧(E5 v2 tc sc kc mc)∧True)∧∀x18:Int,(0≤x18∧x18≤65535)→RK v5 (∀x19,x19=wi (u1 - l1)→∀x20,x20=wi (x19+1)→((x20:Int)≠0)∧∀Jw,Jw=Int.tmod x18 x20→∀iq,iq=wi (l1+Jw)→RK (((decide (iq=iq) && true) && true)) (∀jU,jU=(if x17 < x7 then x17 else x7)→∀x24,x24=(if x17 > x7 then x17 else x7)→RK ((decide (x24=(if x17 > x7 then x17 else x7)) && true)) (∀x25,x25=(if iq < x12 then iq else x12)→∀qR,qR=(if iq > x12 then iq else x12)→RK ((decide (qR=(if iq > x12 then iq else x12)) && true)) (∀x27,x27=wi height→RK ((decide (height=height) && (decide (x27=wi height) && true))) (∀x28,x28=wi (h1 - h0)→∀x29,x29=wi (x28+1)→((x29:Int)≠0)∧∀x30,x30=Int.tmod x27 x29→∀x31,x31=wi (h0+x30)→v1∧∀x32:Int,(x32=0)→RK (true) (BR (!decide (x32=0)) (False) (BR (decide (0≤jU)) (BR (decide (jU≤959)) (BR (decide (0≤x25)) (BR (decide (x25≤959)) (RK ((v0 && true)) (BR (decide (x31 < h0)) (False) (BR (decide (x31 > h1)) (False) (((AE ⟨[v3,.agg ⟨[.int .i64 jU,.int .i64 x25,.int .i64 0,.int .i64 0,.int .i64 0]⟩,.int .i64 x31]⟩)∧v4∧((h0:Int)≤x31∧x31≤h1∧0≤jU∧jU≤959∧0≤x25∧x25≤959))∧∀kG:Int,(kG=gQ [(h0,jU),(h1,x25)] x31 ∧ -10000000000000≤kG∧kG≤10000000000000)→RK (true) (v1∧∀x34:Int,(x34=0)→RK (true) (BR (!decide (x34=0)) (False) (BR (decide (0≤x24)) (BR (decide (x24≤959)) (BR (decide (0≤qR)) (BR (decide (qR≤959)) (RK ((v0 && true)) (BR (decide (x31 < h0)) (False) (BR (decide (x31 > h1)) (False) (((AE ⟨[v3,.agg ⟨[.int .i64 x24,.int .i64 qR,.int .i64 0,.int .i64 0,.int .i64 0]⟩,.int .i64 x31]⟩)∧v4∧((h0:Int)≤x31∧x31≤h1∧0≤x24∧x24≤959∧0≤qR∧qR≤959))∧∀lG:Int,(lG=gQ [(h0,x24),(h1,qR)] x31 ∧ -10000000000000≤lG∧lG≤10000000000000)→RK (true) (v1∧∀pF:Int,(pF=0)→RK (true) (BR (!decide (pF=0)) (False) (BR (decide (0≤jU)) (BR (decide (jU≤959)) (BR (decide (0≤x25)) (BR (decide (x25≤959)) (RK ((v0 && true)) (((AE ⟨[v3,.agg ⟨[.int .i64 jU,.int .i64 x25,.int .i64 0,.int .i64 0,.int .i64 0]⟩]⟩)∧v4∧(0≤jU∧jU≤959∧0≤x25∧x25≤959))∧∀jD:Int,(jD=uu [(h0,jU),(h1,x25)])→RK (true) (v1∧∀x38:Int,(x38=0)→RK (true) (BR (!decide (x38=0)) (False) (BR (decide (0≤x24)) (BR (decide (x24≤959)) (BR (decide (0≤qR)) (BR (decide (qR≤959)) (RK ((v0 && true)) (((AE ⟨[v3,.agg ⟨[.int .i64 x24,.int .i64 qR,.int .i64 0,.int .i64 0,.int .i64 0]⟩]⟩)∧v4∧(0≤x24∧x24≤959∧0≤qR∧qR≤959))∧∀x39:Int,(x39=uu [(h0,x24),(h1,qR)])→RK (true) (v1∧∀x40:Int,(x40=0)→RK (true) (BR (!decide (x40=0)) (False) (BR (decide (0≤jU)) (BR (decide (jU≤959)) (BR (decide (0≤x25)) (BR (decide (x25≤959)) (RK ((v0 && true)) (∀x41,x41=wi (jU - af)→∀nJ,nJ=(if 0 > x41 then 0 else x41)→∀x43,x43=wi (x25 - af)→∀lu,lu=(if 0 > x43 then 0 else x43)→v1∧∀lV:Int,(lV=0)→RK (true) (BR (!decide (lV=0)) (False) (BR (decide (0≤x24)) (BR (decide (x24≤959)) (BR (decide (0≤qR)) (BR (decide (qR≤959)) (RK ((v0 && true)) (∀qH,qH=wi (x24 - af)→∀kW,kW=(if 0 > qH then 0 else qH)→∀oH,oH=wi (qR - af)→∀nN,nN=(if 0 > oH then 0 else oH)→BR (decide (kG > lG)) (False) (BR (decide (jD > x39)) (False) (BR (decide (nJ > kW)) (False) (BR (decide (nJ > jU)) (False) (∀pO,pO=wi (jU - af)→BR (decide (nJ < pO)) (False) (BR (decide (nJ < 0)) (False) (BR (decide (lu > nN)) (False) (BR (decide (lu > x25)) (False) (∀OJ,OJ=wi (x25 - af)→BR (decide (lu < OJ)) (False) (BR (decide (lu < 0)) (False) (v1∧∀pG:Int,(pG=0)→RK (true) (BR (!decide (pG=0)) (False) (BR (decide (0≤nJ)) (BR (decide (nJ≤959)) (BR (decide (0≤lu)) (BR (decide (lu≤959)) (RK ((v0 && true)) (BR (decide (x31 < h0)) (False) (BR (decide (x31 > h1)) (False) (((AE ⟨[v3,.agg ⟨[.int .i64 nJ,.int .i64 lu,.int .i64 0,.int .i64 0,.int .i64 0]⟩,.int .i64 x31]⟩)∧v4∧((h0:Int)≤x31∧x31≤h1∧0≤nJ∧nJ≤959∧0≤lu∧lu≤959))∧∀iY:Int,(iY=gQ [(h0,nJ),(h1,lu)] x31 ∧ -10000000000000≤iY∧iY≤10000000000000)→RK (true) (BR (decide (iY≤kG)) (∀x54,x54=wi (kG - af)→BR (decide (iY≥x54)) ((true=true)) (False)) (False)))))) (False)) (False)) (False)) (False))))))))))))))) (False)) (False)) (False)) (False))))) (False)) (False)) (False)) (False)))))) (False)) (False)) (False)) (False)))))) (False)) (False)) (False)) (False)))))))) (False)) (False)) (False)) (False)))))))) (False)) (False)) (False)) (False)))))))))))))))) ((true=true)))))):=by
 rintro _ rfl _ rfl _ rfl _ rfl _ rfl _ rfl _ rfl
 kernel_rfl
set_option maxHeartbeats 4000000 in
theorem Tryz.afj(hV:V→(0≤af∧af≤20)∧lq [(h0,l0,u0),(h1,l1,u1)])(hn:0≤height∧height≤65535)(hc:∀c∈([⟨12,fun _ _=>[],4,fun _=>L4 (L9 h0 l0 u0 h1 l1 u1) tc sc kc,fun _=>⟨[(bv 2 af cp ot nt ct os ns cs)]⟩,fun _=>True,fun _ x=>(x=0→V),fun x=>.int .i64 x⟩,⟨33,fun a _=>[gI a 1],4,fun _=>L4 (L9 h0 l0 u0 h1 l1 u1) tc sc kc,fun ps=>⟨[.slice ok nk ck,.int .i64 (ps.headD 0)]⟩,fun _=>True,fun _ x=>(0≤x∧x≤65535),fun x=>.int .i64 x⟩,⟨33,fun a _=>[gI a 1],5,fun _=>L5 (L9 h0 l0 u0 h1 l1 u1) tc sc kc mc,fun ps=>⟨[.slice om nm cm,.int .i64 (ps.headD 0)]⟩,fun _=>True,fun _ x=>(0≤x∧x≤65535),fun x=>.int .i64 x⟩,Xn ((L9 h0 l0 u0 h1 l1 u1)) tc sc kc (bv 2 af cp ot nt ct os ns cs),abb h0 l0 u0 h1 l1 u1 af cp nt ct ns cs tc sc kc ot os,abe h0 l0 u0 h1 l1 u1 af cp nt ct ns cs tc sc kc ot os]:List Ct),jQ Tryz.prog c):bZ Tryz.prog (fun s=>gp (Tryz.X []) 3 5 s=true) ⟨aB.enter Tryz.prog 3 ⟨[(bv 2 af cp ot nt ct os ns cs),.slice ok nk ck,.slice om nm cm,.int .u16 height]⟩,[],cu 5 (L5 (L9 h0 l0 u0 h1 l1 u1) tc sc kc mc)⟩:=by
 refine iI (Tryz.ok hc) (Tryz.Xt _ rfl _ rfl _ rfl _ rfl _ rfl _ rfl _ rfl) ?_
 intro x0 _
 refine BR.mk (fun _=>?_) (fun _=>?_)
 ·
  exact rfl
 intro x1 _
 refine BR.mk (fun _=>?_) (fun _=>?_)
 ·
  exact rfl
 refine ⟨⟨rfl,gK,trivial⟩,fun x2 yV=>⟨rfl,?_⟩⟩
 refine BR.mk (fun _=>?_) (fun _=>?_)
 ·
  refine ⟨⟨rfl,gK,trivial⟩,fun x3 _=>⟨by simp,?_⟩⟩
  obtain ⟨hQ,hP⟩:=hV (yV (by omega))
  simp only [lq,nM,and_true] at hP
  iterate 6 (first|refine va fun _ _=>?_|refine vs fun _ _ _=>?_|refine ⟨by omega,?_⟩|refine ⟨by simp,?_⟩)
  refine ⟨⟨rfl,gK,trivial⟩,fun x8 _=>⟨by simp,?_⟩⟩
  iterate 7 (first|refine va fun _ _=>?_|refine vs fun _ _ _=>?_|refine ⟨by omega,?_⟩|refine ⟨by simp,?_⟩)
  refine ⟨⟨rfl,OH,trivial⟩,fun pM _=>⟨by simp,?_⟩⟩
  iterate 6 (first|refine va fun _ _=>?_|refine vs fun _ _ _=>?_|refine ⟨by omega,?_⟩|refine ⟨by simp,?_⟩)
  refine ⟨⟨rfl,OH,trivial⟩,fun x18 _=>⟨by simp,?_⟩⟩
  iterate 6 (first|refine va fun _ _=>?_|refine vs fun _ _ _=>?_|refine ⟨by omega,?_⟩|refine ⟨by simp,?_⟩)
  refine OD fun jU _=>?_
  refine OC fun x24 _=>?_
  refine ⟨by simp only [wi,Bool.and_eq_true,decide_eq_true_eq,and_true,true_and];(repeat' apply And.intro)<;>first|rfl|(rw [jf (by omega) (by omega)];omega)|(split<;>omega),?_⟩
  refine OD fun x25 _=>?_
  refine OC fun qR _=>?_
  refine ⟨by simp only [wi,Bool.and_eq_true,decide_eq_true_eq,and_true,true_and];(repeat' apply And.intro)<;>first|rfl|(rw [jf (by omega) (by omega)];omega)|(split<;>omega),?_⟩
  refine va fun x27 _=>?_
  refine ⟨by simp only [wi,Bool.and_eq_true,decide_eq_true_eq,and_true,true_and];(repeat' apply And.intro)<;>first|rfl|(rw [jf (by omega) (by omega)];omega)|(split<;>omega),?_⟩
  iterate 4 (first|refine va fun _ _=>?_|refine vs fun _ _ _=>?_|refine ⟨by omega,?_⟩)
  refine va fun x31 _=>?_
  refine ⟨⟨rfl,gK,trivial⟩,fun x32 _=>⟨rfl,?_⟩⟩
  refine BR.nr (by omega) ?_
  iterate 7 (first|refine BR.rr ?_|refine BR.ll ?_|refine ⟨by simp,?_⟩)
  refine ⟨⟨rfl,gK,by omega⟩,fun kG _=>⟨rfl,?_⟩⟩
  refine ⟨⟨rfl,gK,trivial⟩,fun x34 _=>⟨rfl,?_⟩⟩
  refine BR.nr (by omega) ?_
  iterate 7 (first|refine BR.rr ?_|refine BR.ll ?_|refine ⟨by simp,?_⟩)
  refine ⟨⟨rfl,gK,by omega⟩,fun lG _=>⟨rfl,?_⟩⟩
  have hM:gQ [(h0,jU),(h1,x25)] x31 - 0≤gQ [(h0,x24),(h1,qR)] x31:=kH [(h0,jU,x24),(h1,x25,qR)] 0 x31 (by simp only [Qn,G6];omega) (by omega)
  refine ⟨⟨rfl,gK,trivial⟩,fun pF _=>⟨rfl,?_⟩⟩
  refine BR.nr (by omega) ?_
  iterate 5 (first|refine BR.ll ?_|refine ⟨by simp,?_⟩)
  refine ⟨⟨rfl,gK,by omega⟩,fun jD _=>⟨rfl,?_⟩⟩
  refine ⟨⟨rfl,gK,trivial⟩,fun x38 _=>⟨rfl,?_⟩⟩
  refine BR.nr (by omega) ?_
  iterate 5 (first|refine BR.ll ?_|refine ⟨by simp,?_⟩)
  refine ⟨⟨rfl,gK,by omega⟩,fun x39 _=>⟨rfl,?_⟩⟩
  have hA:uu [(h0,jU),(h1,x25)]≤uu [(h0,x24),(h1,qR)]:=CE [(h0,jU,x24),(h1,x25,qR)] (by simp only [G6];omega)
  refine ⟨⟨rfl,gK,trivial⟩,fun x40 _=>⟨rfl,?_⟩⟩
  refine BR.nr (by omega) ?_
  iterate 6 (first|refine BR.ll ?_|refine va fun _ _=>?_|refine ⟨by simp,?_⟩)
  refine xJ (d:=af) (by omega) (by omega) fun nJ ai5 _ _ _=>?_
  refine va fun x43 _=>?_
  refine xJ (d:=af) (by omega) (by omega) fun lu ai6 _ _ _=>?_
  refine ⟨⟨rfl,gK,trivial⟩,fun lV _=>⟨rfl,?_⟩⟩
  refine BR.nr (by omega) ?_
  iterate 6 (first|refine BR.ll ?_|refine va fun _ _=>?_|refine ⟨by simp,?_⟩)
  refine xJ (d:=af) (by omega) (by omega) fun kW ai7 _ _ _=>?_
  have:=og ai5 ai7 (by omega)
  refine va fun oH _=>?_
  refine xJ (d:=af) (by omega) (by omega) fun nN ai8 _ _ _=>?_
  have:=og ai6 ai8 (by omega)
  iterate 12 (first|refine BR.rr ?_|refine va fun _ _=>?_)
  refine ⟨⟨rfl,gK,trivial⟩,fun pG _=>⟨rfl,?_⟩⟩
  refine BR.nr (by omega) ?_
  iterate 7 (first|refine BR.rr ?_|refine BR.ll ?_|refine ⟨by simp,?_⟩)
  refine ⟨⟨rfl,gK,by omega⟩,fun iY _=>⟨rfl,?_⟩⟩
  have hW:gQ [(h0,jU),(h1,x25)] x31 - af≤gQ [(h0,nJ),(h1,lu)] x31:=kH [(h0,jU,nJ),(h1,x25,lu)] af x31 (by simp only [Qn,G6];omega) (by omega)
  have hX:gQ [(h0,nJ),(h1,lu)] x31 - 0≤gQ [(h0,jU),(h1,x25)] x31:=kH [(h0,nJ,jU),(h1,lu,x25)] 0 x31 (by simp only [Qn,G6];omega) (by omega)
  iterate 3 (first|refine BR.ll ?_|refine va fun _ _=>?_)
  exact rfl
 exact rfl
end
end Go.Am
