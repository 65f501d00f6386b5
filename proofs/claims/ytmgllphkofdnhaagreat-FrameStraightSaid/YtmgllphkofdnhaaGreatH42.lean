import Derived.Test.YtmgllphkofdnhaaGreatH41
set_option linter.unusedVariables false
set_option linter.unusedSectionVars false
set_option linter.unusedSimpArgs false
namespace Go.Am
open Go.Proofs
def pc2(h0 l0 u0 h1 l1 u1:Int):Array Value:=⟨[.int .i64 h0,.int .i64 l0,.int .i64 u0,.int .i64 h1,.int .i64 l1,.int .i64 u1]⟩
def pc3(h0 l0 u0 h1 l1 u1 h2 l2 u2:Int):Array Value:=⟨[.int .i64 h0,.int .i64 l0,.int .i64 u0,.int .i64 h1,.int .i64 l1,.int .i64 u1,.int .i64 h2,.int .i64 l2,.int .i64 u2]⟩
def pc4(h0 l0 u0 h1 l1 u1 h2 l2 u2 h3 l3 u3:Int):Array Value:=⟨[.int .i64 h0,.int .i64 l0,.int .i64 u0,.int .i64 h1,.int .i64 l1,.int .i64 u1,.int .i64 h2,.int .i64 l2,.int .i64 u2,.int .i64 h3,.int .i64 l3,.int .i64 u3]⟩
def pc5(h0 l0 u0 h1 l1 u1 h2 l2 u2 h3 l3 u3 h4 l4 u4:Int):Array Value:=⟨[.int .i64 h0,.int .i64 l0,.int .i64 u0,.int .i64 h1,.int .i64 l1,.int .i64 u1,.int .i64 h2,.int .i64 l2,.int .i64 u2,.int .i64 h3,.int .i64 l3,.int .i64 u3,.int .i64 h4,.int .i64 l4,.int .i64 u4]⟩
def bv(np:Nat)(plank:Int)(cp:Nat)(ot:Option Addr)(nt ct:Nat)(os:Option Addr)(ns cs:Nat):Value:=.agg ⟨[.int .i64 plank,.slice (some ⟨0,0,none⟩) np cp,.slice ot nt ct,.slice os ns cs]⟩
def atL:List (Int×Int)→Int→Int
 | (p,x) :: (q,y) :: l,h=>if h≤q then x+(y - x) * (h - p) / (q - p) else atL ((q,y) :: l) h
 | _,_=>0
theorem fl_pos{a n:Int}(h:0 < n)(k:¬Int.tmod a n < 0):Int.tdiv a n=a / n:=by
 have h1:=Int.tmod_add_mul_tdiv a n
 have h2:=Int.tmod_lt_of_pos a h
 have h3:a=Int.tmod a n+Int.tdiv a n * n:=by rw [Int.mul_comm];omega
 have h4:(Int.tmod a n+Int.tdiv a n * n) / n=Int.tmod a n / n+Int.tdiv a n:=Int.add_mul_ediv_right _ _ (by omega)
 rw [←h3,Int.ediv_eq_zero_of_lt (by omega) h2] at h4
 omega
theorem fl_neg{a n:Int}(h:0 < n)(k:Int.tmod a n < 0):Int.tdiv a n - 1=a / n:=by
 have h1:=Int.tmod_add_mul_tdiv a n
 have h2 : -n < Int.tmod a n:=(tmod_bd h).1
 have h3:a=(Int.tmod a n+n)+(Int.tdiv a n - 1) * n:=by
   have:(Int.tdiv a n - 1) * n=n * Int.tdiv a n - n:=by rw [Int.sub_mul,Int.one_mul,Int.mul_comm]
   omega
 have h4:((Int.tmod a n+n)+(Int.tdiv a n - 1) * n) / n=(Int.tmod a n+n) / n+(Int.tdiv a n - 1):=Int.add_mul_ediv_right _ _ (by omega)
 rw [←h3,Int.ediv_eq_zero_of_lt (a:=Int.tmod a n+n) (b:=n) (by omega) (by omega)] at h4
 omega
theorem ends_pos{z a n:Int}(h:0 < n)(k:¬Int.tmod a n < 0):z+Int.tdiv a n=z+a / n:=by rw [fl_pos h k]
theorem ends_neg{z a n:Int}(h:0 < n)(k:Int.tmod a n < 0):z+(Int.tdiv a n - 1)=z+a / n:=by rw [fl_neg h k]
theorem lfr{x y:Int}(h:x=y):∀_:AH,∃z:Int,z=y∧(Value.tuple ⟨[.int .i64 x,.int .i64 0]⟩) = .tuple ⟨[.int .i64 z,.int .i64 0]⟩:=fun _=>⟨x,h,rfl⟩
abbrev h42t0:HT:=.val 6 16 23 (.val 0 8 31 (.val 6 15 42 (.val 0 1 43 (.ov 2 5 (.val 0 0 7 (.br 0 1 8 (.ov 1 5 (.val 0 0 11 (.val 0 1 12 (.rk 2 0 (.val 0 1 46 (.ret 5 1)))))) (.ov 2 4 (.val 0 0 15 (.rk 2 0 (.val 0 1 46 (.ret 5 1)))))))))))
theorem Tryz.at2_t(h0 l0 u0 h1 l1 u1 z0 z1 ht plank:Int)(cp nt ct ns cs:Nat)(tc sc kc:Array Value)(ot os:Option Addr)(Q:Value→Prop)(K:AS→Prop):tx (Tryz.X [⟨86,fun _ _=>[],4,fun _=>L4 (pc2 h0 l0 u0 h1 l1 u1) tc sc kc,fun _=>⟨[bv 2 plank cp ot nt ct os ns cs]⟩,fun _=>True,fun _ x=>x=0,fun x=>.int .i64 x⟩]) Q K (.call 6 5 (.br 1 4 13 .no (.br 24 6 8 (.br 0 5 13 (.br 17 6 8 (.br 0 5 13 (.rk 34 0 (.br 8 10 12 .no (.br 0 14 26 .no (.br 8 15 18 .no h42t0)))) .no) .no) .no) .no))) ⟨AFr.enter Tryz.prog 9 ⟨[bv 2 plank cp ot nt ct os ns cs,.slice (some ⟨13,0,none⟩) 2 2,.int .i64 ht]⟩,[],hOf 14 ((13,⟨.cells ⟨[.int .i64 z0,.int .i64 z1]⟩ 3 (0,0),some 10,false,1⟩) :: L4 (pc2 h0 l0 u0 h1 l1 u1) tc sc kc)⟩=(((AE ⟨[(bv 2 plank cp ot nt ct os ns cs)]⟩)∧(E4 (pc2 h0 l0 u0 h1 l1 u1) tc sc kc)∧True)∧∀x0:Int,(x0=0)→RK (true) (BR (!decide (x0=0)) (False) (BR (decide (0≤z0)) (BR (decide (z0≤959)) (BR (decide (0≤z1)) (BR (decide (z1≤959)) (RK (((decide (plank=plank) && (decide (cp=cp) && (((decide (ot=ot) && decide (nt=nt)) && decide (ct=ct)) && (((decide (os=os) && decide (ns=ns)) && decide (cs=cs)) && true)))) && true)) (BR (decide (ht < h0)) (False) (BR (decide (ht > h1)) (False) (BR (decide (ht > h1)) (False) (∀x1,x1=wi (h1 - h0)→∀x2,x2=wi (z1 - z0)→∀x3,x3=wi (ht - h0)→∀x4,x4=wi (x2 * x3)→(x1≠0)∧∀x5,x5=Int.tmod x4 x1→BR (decide (x5 < 0)) ((x1≠0)∧∀x6,x6=wi (Int.tdiv x4 x1)→∀x7,x7=wi (x6 - 1)→RK ((decide (z0=z0) && true)) (∀x8,x8=wi (z0+x7)→Q (.tuple ⟨[.int .i64 x8,.int .i64 0]⟩))) ((x1≠0)∧∀x9,x9=wi (Int.tdiv x4 x1)→RK ((decide (z0=z0) && true)) (∀x10,x10=wi (z0+x9)→Q (.tuple ⟨[.int .i64 x10,.int .i64 0]⟩)))))))) (False)) (False)) (False)) (False)))):=by kernel_rfl
theorem Tryz.at2(h0 l0 u0 h1 l1 u1 z0 z1 ht plank:Int)(cp nt ct ns cs:Nat)(tc sc kc:Array Value)(ot os:Option Addr)(hv:Pts [(h0,l0,u0),(h1,l1,u1)])(hb:h0≤ht∧ht≤h1∧0≤z0∧z0≤959∧0≤z1∧z1≤959)(hc:∀c∈([⟨86,fun _ _=>[],4,fun _=>L4 (pc2 h0 l0 u0 h1 l1 u1) tc sc kc,fun _=>⟨[bv 2 plank cp ot nt ct os ns cs]⟩,fun _=>True,fun _ x=>x=0,fun x=>.int .i64 x⟩]:List Ct),CtOk Tryz.prog c):Rets Tryz.prog (fun v _=>∃x:Int,x=atL [(h0,z0),(h1,z1)] ht∧v = .tuple ⟨[.int .i64 x,.int .i64 0]⟩) ⟨AFr.enter Tryz.prog 9 ⟨[bv 2 plank cp ot nt ct os ns cs,.slice (some ⟨13,0,none⟩) 2 2,.int .i64 ht]⟩,[],hOf 14 ((13,⟨.cells ⟨[.int .i64 z0,.int .i64 z1]⟩ 3 (0,0),some 10,false,1⟩) :: L4 (pc2 h0 l0 u0 h1 l1 u1) tc sc kc)⟩:=by
 refine txR_use (X:=Tryz.X [⟨86,fun _ _=>[],4,fun _=>L4 (pc2 h0 l0 u0 h1 l1 u1) tc sc kc,fun _=>⟨[bv 2 plank cp ot nt ct os ns cs]⟩,fun _=>True,fun _ x=>x=0,fun x=>.int .i64 x⟩]) (Tryz.ok hc) (Tryz.at2_t h0 l0 u0 h1 l1 u1 z0 z1 ht plank cp nt ct ns cs tc sc kc ot os _ _) ?_
 simp only [Pts,PtsF,and_true] at hv
 refine ⟨⟨rfl,E4i,trivial⟩,fun x0 _=>⟨rfl,?_⟩⟩
 refine BR.nr (by omega) ?_
 refine BR.ll ?_
 refine BR.ll ?_
 refine BR.ll ?_
 refine BR.ll ?_
 refine ⟨by simp,?_⟩
 refine BR.rr ?_
 refine BR.rr ?_
 refine BR.rr ?_
 refine va fun x1 _=>?_
 refine va fun x2 _=>?_
 refine va fun x3 _=>?_
 refine vm (by omega) (by omega) (by omega) (by omega) fun x4 _ _ _=>?_
 refine ⟨by omega,?_⟩
 refine vs fun x5 _ _=>?_
 refine BR.mk (fun _=>?_) (fun _=>?_)
 ·
  refine ⟨by omega,?_⟩
  refine vq (by omega) (by omega) fun x6 _ _=>?_
  refine va fun x7 _=>?_
  refine ⟨by simp,?_⟩
  refine va fun x8 _=>?_
  exact lfr (by subst_vars;simp only [atL];(repeat' split)<;>first|omega|exact ends_neg (by omega) (by assumption)|exact ends_pos (by omega) (by assumption))
 refine ⟨by omega,?_⟩
 refine vq (by omega) (by omega) fun x9 _ _=>?_
 refine ⟨by simp,?_⟩
 refine va fun x10 _=>?_
 exact lfr (by subst_vars;simp only [atL];(repeat' split)<;>first|omega|exact ends_neg (by omega) (by assumption)|exact ends_pos (by omega) (by assumption))
theorem Tryz.at3_t(h0 l0 u0 h1 l1 u1 h2 l2 u2 z0 z1 z2 ht plank:Int)(cp nt ct ns cs:Nat)(tc sc kc:Array Value)(ot os:Option Addr)(Q:Value→Prop)(K:AS→Prop):tx (Tryz.X [⟨86,fun _ _=>[],4,fun _=>L4 (pc3 h0 l0 u0 h1 l1 u1 h2 l2 u2) tc sc kc,fun _=>⟨[bv 3 plank cp ot nt ct os ns cs]⟩,fun _=>True,fun _ x=>x=0,fun x=>.int .i64 x⟩]) Q K (.call 6 5 (.br 1 4 13 .no (.br 24 6 8 (.br 0 5 13 (.br 17 6 8 (.br 0 5 13 (.br 17 6 8 (.br 0 5 13 (.rk 34 0 (.br 8 10 12 .no (.br 0 14 26 .no (.br 8 15 18 (.br 4 13 18 .no h42t0) h42t0)))) .no) .no) .no) .no) .no) .no))) ⟨AFr.enter Tryz.prog 9 ⟨[bv 3 plank cp ot nt ct os ns cs,.slice (some ⟨16,0,none⟩) 3 3,.int .i64 ht]⟩,[],hOf 17 ((16,⟨.cells ⟨[.int .i64 z0,.int .i64 z1,.int .i64 z2]⟩ 3 (0,0),some 10,false,1⟩) :: L4 (pc3 h0 l0 u0 h1 l1 u1 h2 l2 u2) tc sc kc)⟩=(((AE ⟨[(bv 3 plank cp ot nt ct os ns cs)]⟩)∧(E4 (pc3 h0 l0 u0 h1 l1 u1 h2 l2 u2) tc sc kc)∧True)∧∀x0:Int,(x0=0)→RK (true) (BR (!decide (x0=0)) (False) (BR (decide (0≤z0)) (BR (decide (z0≤959)) (BR (decide (0≤z1)) (BR (decide (z1≤959)) (BR (decide (0≤z2)) (BR (decide (z2≤959)) (RK (((decide (plank=plank) && (decide (cp=cp) && (((decide (ot=ot) && decide (nt=nt)) && decide (ct=ct)) && (((decide (os=os) && decide (ns=ns)) && decide (cs=cs)) && true)))) && true)) (BR (decide (ht < h0)) (False) (BR (decide (ht > h2)) (False) (BR (decide (ht > h1)) (BR (decide (ht > h2)) (False) (∀x1,x1=wi (h2 - h1)→∀x2,x2=wi (z2 - z1)→∀x3,x3=wi (ht - h1)→∀x4,x4=wi (x2 * x3)→(x1≠0)∧∀x5,x5=Int.tmod x4 x1→BR (decide (x5 < 0)) ((x1≠0)∧∀x6,x6=wi (Int.tdiv x4 x1)→∀x7,x7=wi (x6 - 1)→RK ((decide (z1=z1) && true)) (∀x8,x8=wi (z1+x7)→Q (.tuple ⟨[.int .i64 x8,.int .i64 0]⟩))) ((x1≠0)∧∀x9,x9=wi (Int.tdiv x4 x1)→RK ((decide (z1=z1) && true)) (∀x10,x10=wi (z1+x9)→Q (.tuple ⟨[.int .i64 x10,.int .i64 0]⟩))))) (∀x11,x11=wi (h1 - h0)→∀x12,x12=wi (z1 - z0)→∀x13,x13=wi (ht - h0)→∀x14,x14=wi (x12 * x13)→(x11≠0)∧∀x15,x15=Int.tmod x14 x11→BR (decide (x15 < 0)) ((x11≠0)∧∀x16,x16=wi (Int.tdiv x14 x11)→∀x17,x17=wi (x16 - 1)→RK ((decide (z0=z0) && true)) (∀x18,x18=wi (z0+x17)→Q (.tuple ⟨[.int .i64 x18,.int .i64 0]⟩))) ((x11≠0)∧∀x19,x19=wi (Int.tdiv x14 x11)→RK ((decide (z0=z0) && true)) (∀x20,x20=wi (z0+x19)→Q (.tuple ⟨[.int .i64 x20,.int .i64 0]⟩)))))))) (False)) (False)) (False)) (False)) (False)) (False)))):=by kernel_rfl
theorem Tryz.at3(h0 l0 u0 h1 l1 u1 h2 l2 u2 z0 z1 z2 ht plank:Int)(cp nt ct ns cs:Nat)(tc sc kc:Array Value)(ot os:Option Addr)(hv:Pts [(h0,l0,u0),(h1,l1,u1),(h2,l2,u2)])(hb:h0≤ht∧ht≤h2∧0≤z0∧z0≤959∧0≤z1∧z1≤959∧0≤z2∧z2≤959)(hc:∀c∈([⟨86,fun _ _=>[],4,fun _=>L4 (pc3 h0 l0 u0 h1 l1 u1 h2 l2 u2) tc sc kc,fun _=>⟨[bv 3 plank cp ot nt ct os ns cs]⟩,fun _=>True,fun _ x=>x=0,fun x=>.int .i64 x⟩]:List Ct),CtOk Tryz.prog c):Rets Tryz.prog (fun v _=>∃x:Int,x=atL [(h0,z0),(h1,z1),(h2,z2)] ht∧v = .tuple ⟨[.int .i64 x,.int .i64 0]⟩) ⟨AFr.enter Tryz.prog 9 ⟨[bv 3 plank cp ot nt ct os ns cs,.slice (some ⟨16,0,none⟩) 3 3,.int .i64 ht]⟩,[],hOf 17 ((16,⟨.cells ⟨[.int .i64 z0,.int .i64 z1,.int .i64 z2]⟩ 3 (0,0),some 10,false,1⟩) :: L4 (pc3 h0 l0 u0 h1 l1 u1 h2 l2 u2) tc sc kc)⟩:=by
 refine txR_use (X:=Tryz.X [⟨86,fun _ _=>[],4,fun _=>L4 (pc3 h0 l0 u0 h1 l1 u1 h2 l2 u2) tc sc kc,fun _=>⟨[bv 3 plank cp ot nt ct os ns cs]⟩,fun _=>True,fun _ x=>x=0,fun x=>.int .i64 x⟩]) (Tryz.ok hc) (Tryz.at3_t h0 l0 u0 h1 l1 u1 h2 l2 u2 z0 z1 z2 ht plank cp nt ct ns cs tc sc kc ot os _ _) ?_
 simp only [Pts,PtsF,and_true] at hv
 refine ⟨⟨rfl,E4i,trivial⟩,fun x0 _=>⟨rfl,?_⟩⟩
 refine BR.nr (by omega) ?_
 refine BR.ll ?_
 refine BR.ll ?_
 refine BR.ll ?_
 refine BR.ll ?_
 refine BR.ll ?_
 refine BR.ll ?_
 refine ⟨by simp,?_⟩
 refine BR.rr ?_
 refine BR.rr ?_
 refine BR.mk (fun _=>?_) (fun _=>?_)
 ·
  refine BR.rr ?_
  refine va fun x1 _=>?_
  refine va fun x2 _=>?_
  refine va fun x3 _=>?_
  refine vm (by omega) (by omega) (by omega) (by omega) fun x4 _ _ _=>?_
  refine ⟨by omega,?_⟩
  refine vs fun x5 _ _=>?_
  refine BR.mk (fun _=>?_) (fun _=>?_)
  ·
   refine ⟨by omega,?_⟩
   refine vq (by omega) (by omega) fun x6 _ _=>?_
   refine va fun x7 _=>?_
   refine ⟨by simp,?_⟩
   refine va fun x8 _=>?_
   exact lfr (by subst_vars;simp only [atL];(repeat' split)<;>first|omega|exact ends_neg (by omega) (by assumption)|exact ends_pos (by omega) (by assumption))
  refine ⟨by omega,?_⟩
  refine vq (by omega) (by omega) fun x9 _ _=>?_
  refine ⟨by simp,?_⟩
  refine va fun x10 _=>?_
  exact lfr (by subst_vars;simp only [atL];(repeat' split)<;>first|omega|exact ends_neg (by omega) (by assumption)|exact ends_pos (by omega) (by assumption))
 refine va fun x11 _=>?_
 refine va fun x12 _=>?_
 refine va fun x13 _=>?_
 refine vm (by omega) (by omega) (by omega) (by omega) fun x14 _ _ _=>?_
 refine ⟨by omega,?_⟩
 refine vs fun x15 _ _=>?_
 refine BR.mk (fun _=>?_) (fun _=>?_)
 ·
  refine ⟨by omega,?_⟩
  refine vq (by omega) (by omega) fun x16 _ _=>?_
  refine va fun x17 _=>?_
  refine ⟨by simp,?_⟩
  refine va fun x18 _=>?_
  exact lfr (by subst_vars;simp only [atL];(repeat' split)<;>first|omega|exact ends_neg (by omega) (by assumption)|exact ends_pos (by omega) (by assumption))
 refine ⟨by omega,?_⟩
 refine vq (by omega) (by omega) fun x19 _ _=>?_
 refine ⟨by simp,?_⟩
 refine va fun x20 _=>?_
 exact lfr (by subst_vars;simp only [atL];(repeat' split)<;>first|omega|exact ends_neg (by omega) (by assumption)|exact ends_pos (by omega) (by assumption))
theorem Tryz.at4_t(h0 l0 u0 h1 l1 u1 h2 l2 u2 h3 l3 u3 z0 z1 z2 z3 ht plank:Int)(cp nt ct ns cs:Nat)(tc sc kc:Array Value)(ot os:Option Addr)(Q:Value→Prop)(K:AS→Prop):tx (Tryz.X [⟨86,fun _ _=>[],4,fun _=>L4 (pc4 h0 l0 u0 h1 l1 u1 h2 l2 u2 h3 l3 u3) tc sc kc,fun _=>⟨[bv 4 plank cp ot nt ct os ns cs]⟩,fun _=>True,fun _ x=>x=0,fun x=>.int .i64 x⟩]) Q K (.call 6 5 (.br 1 4 13 .no (.br 24 6 8 (.br 0 5 13 (.br 17 6 8 (.br 0 5 13 (.br 17 6 8 (.br 0 5 13 (.br 17 6 8 (.br 0 5 13 (.rk 34 0 (.br 8 10 12 .no (.br 0 14 26 .no (.br 8 15 18 (.br 4 13 18 (.br 4 13 18 .no h42t0) h42t0) h42t0)))) .no) .no) .no) .no) .no) .no) .no) .no))) ⟨AFr.enter Tryz.prog 9 ⟨[bv 4 plank cp ot nt ct os ns cs,.slice (some ⟨19,0,none⟩) 4 4,.int .i64 ht]⟩,[],hOf 20 ((19,⟨.cells ⟨[.int .i64 z0,.int .i64 z1,.int .i64 z2,.int .i64 z3]⟩ 3 (0,0),some 10,false,1⟩) :: L4 (pc4 h0 l0 u0 h1 l1 u1 h2 l2 u2 h3 l3 u3) tc sc kc)⟩=(((AE ⟨[(bv 4 plank cp ot nt ct os ns cs)]⟩)∧(E4 (pc4 h0 l0 u0 h1 l1 u1 h2 l2 u2 h3 l3 u3) tc sc kc)∧True)∧∀x0:Int,(x0=0)→RK (true) (BR (!decide (x0=0)) (False) (BR (decide (0≤z0)) (BR (decide (z0≤959)) (BR (decide (0≤z1)) (BR (decide (z1≤959)) (BR (decide (0≤z2)) (BR (decide (z2≤959)) (BR (decide (0≤z3)) (BR (decide (z3≤959)) (RK (((decide (plank=plank) && (decide (cp=cp) && (((decide (ot=ot) && decide (nt=nt)) && decide (ct=ct)) && (((decide (os=os) && decide (ns=ns)) && decide (cs=cs)) && true)))) && true)) (BR (decide (ht < h0)) (False) (BR (decide (ht > h3)) (False) (BR (decide (ht > h1)) (BR (decide (ht > h2)) (BR (decide (ht > h3)) (False) (∀x1,x1=wi (h3 - h2)→∀x2,x2=wi (z3 - z2)→∀x3,x3=wi (ht - h2)→∀x4,x4=wi (x2 * x3)→(x1≠0)∧∀x5,x5=Int.tmod x4 x1→BR (decide (x5 < 0)) ((x1≠0)∧∀x6,x6=wi (Int.tdiv x4 x1)→∀x7,x7=wi (x6 - 1)→RK ((decide (z2=z2) && true)) (∀x8,x8=wi (z2+x7)→Q (.tuple ⟨[.int .i64 x8,.int .i64 0]⟩))) ((x1≠0)∧∀x9,x9=wi (Int.tdiv x4 x1)→RK ((decide (z2=z2) && true)) (∀x10,x10=wi (z2+x9)→Q (.tuple ⟨[.int .i64 x10,.int .i64 0]⟩))))) (∀x11,x11=wi (h2 - h1)→∀x12,x12=wi (z2 - z1)→∀x13,x13=wi (ht - h1)→∀x14,x14=wi (x12 * x13)→(x11≠0)∧∀x15,x15=Int.tmod x14 x11→BR (decide (x15 < 0)) ((x11≠0)∧∀x16,x16=wi (Int.tdiv x14 x11)→∀x17,x17=wi (x16 - 1)→RK ((decide (z1=z1) && true)) (∀x18,x18=wi (z1+x17)→Q (.tuple ⟨[.int .i64 x18,.int .i64 0]⟩))) ((x11≠0)∧∀x19,x19=wi (Int.tdiv x14 x11)→RK ((decide (z1=z1) && true)) (∀x20,x20=wi (z1+x19)→Q (.tuple ⟨[.int .i64 x20,.int .i64 0]⟩))))) (∀x21,x21=wi (h1 - h0)→∀x22,x22=wi (z1 - z0)→∀x23,x23=wi (ht - h0)→∀x24,x24=wi (x22 * x23)→(x21≠0)∧∀x25,x25=Int.tmod x24 x21→BR (decide (x25 < 0)) ((x21≠0)∧∀x26,x26=wi (Int.tdiv x24 x21)→∀x27,x27=wi (x26 - 1)→RK ((decide (z0=z0) && true)) (∀x28,x28=wi (z0+x27)→Q (.tuple ⟨[.int .i64 x28,.int .i64 0]⟩))) ((x21≠0)∧∀x29,x29=wi (Int.tdiv x24 x21)→RK ((decide (z0=z0) && true)) (∀x30,x30=wi (z0+x29)→Q (.tuple ⟨[.int .i64 x30,.int .i64 0]⟩)))))))) (False)) (False)) (False)) (False)) (False)) (False)) (False)) (False)))):=by kernel_rfl
theorem Tryz.at4(h0 l0 u0 h1 l1 u1 h2 l2 u2 h3 l3 u3 z0 z1 z2 z3 ht plank:Int)(cp nt ct ns cs:Nat)(tc sc kc:Array Value)(ot os:Option Addr)(hv:Pts [(h0,l0,u0),(h1,l1,u1),(h2,l2,u2),(h3,l3,u3)])(hb:h0≤ht∧ht≤h3∧0≤z0∧z0≤959∧0≤z1∧z1≤959∧0≤z2∧z2≤959∧0≤z3∧z3≤959)(hc:∀c∈([⟨86,fun _ _=>[],4,fun _=>L4 (pc4 h0 l0 u0 h1 l1 u1 h2 l2 u2 h3 l3 u3) tc sc kc,fun _=>⟨[bv 4 plank cp ot nt ct os ns cs]⟩,fun _=>True,fun _ x=>x=0,fun x=>.int .i64 x⟩]:List Ct),CtOk Tryz.prog c):Rets Tryz.prog (fun v _=>∃x:Int,x=atL [(h0,z0),(h1,z1),(h2,z2),(h3,z3)] ht∧v = .tuple ⟨[.int .i64 x,.int .i64 0]⟩) ⟨AFr.enter Tryz.prog 9 ⟨[bv 4 plank cp ot nt ct os ns cs,.slice (some ⟨19,0,none⟩) 4 4,.int .i64 ht]⟩,[],hOf 20 ((19,⟨.cells ⟨[.int .i64 z0,.int .i64 z1,.int .i64 z2,.int .i64 z3]⟩ 3 (0,0),some 10,false,1⟩) :: L4 (pc4 h0 l0 u0 h1 l1 u1 h2 l2 u2 h3 l3 u3) tc sc kc)⟩:=by
 refine txR_use (X:=Tryz.X [⟨86,fun _ _=>[],4,fun _=>L4 (pc4 h0 l0 u0 h1 l1 u1 h2 l2 u2 h3 l3 u3) tc sc kc,fun _=>⟨[bv 4 plank cp ot nt ct os ns cs]⟩,fun _=>True,fun _ x=>x=0,fun x=>.int .i64 x⟩]) (Tryz.ok hc) (Tryz.at4_t h0 l0 u0 h1 l1 u1 h2 l2 u2 h3 l3 u3 z0 z1 z2 z3 ht plank cp nt ct ns cs tc sc kc ot os _ _) ?_
 simp only [Pts,PtsF,and_true] at hv
 refine ⟨⟨rfl,E4i,trivial⟩,fun x0 _=>⟨rfl,?_⟩⟩
 refine BR.nr (by omega) ?_
 refine BR.ll ?_
 refine BR.ll ?_
 refine BR.ll ?_
 refine BR.ll ?_
 refine BR.ll ?_
 refine BR.ll ?_
 refine BR.ll ?_
 refine BR.ll ?_
 refine ⟨by simp,?_⟩
 refine BR.rr ?_
 refine BR.rr ?_
 refine BR.mk (fun _=>?_) (fun _=>?_)
 ·
  refine BR.mk (fun _=>?_) (fun _=>?_)
  ·
   refine BR.rr ?_
   refine va fun x1 _=>?_
   refine va fun x2 _=>?_
   refine va fun x3 _=>?_
   refine vm (by omega) (by omega) (by omega) (by omega) fun x4 _ _ _=>?_
   refine ⟨by omega,?_⟩
   refine vs fun x5 _ _=>?_
   refine BR.mk (fun _=>?_) (fun _=>?_)
   ·
    refine ⟨by omega,?_⟩
    refine vq (by omega) (by omega) fun x6 _ _=>?_
    refine va fun x7 _=>?_
    refine ⟨by simp,?_⟩
    refine va fun x8 _=>?_
    exact lfr (by subst_vars;simp only [atL];(repeat' split)<;>first|omega|exact ends_neg (by omega) (by assumption)|exact ends_pos (by omega) (by assumption))
   refine ⟨by omega,?_⟩
   refine vq (by omega) (by omega) fun x9 _ _=>?_
   refine ⟨by simp,?_⟩
   refine va fun x10 _=>?_
   exact lfr (by subst_vars;simp only [atL];(repeat' split)<;>first|omega|exact ends_neg (by omega) (by assumption)|exact ends_pos (by omega) (by assumption))
  refine va fun x11 _=>?_
  refine va fun x12 _=>?_
  refine va fun x13 _=>?_
  refine vm (by omega) (by omega) (by omega) (by omega) fun x14 _ _ _=>?_
  refine ⟨by omega,?_⟩
  refine vs fun x15 _ _=>?_
  refine BR.mk (fun _=>?_) (fun _=>?_)
  ·
   refine ⟨by omega,?_⟩
   refine vq (by omega) (by omega) fun x16 _ _=>?_
   refine va fun x17 _=>?_
   refine ⟨by simp,?_⟩
   refine va fun x18 _=>?_
   exact lfr (by subst_vars;simp only [atL];(repeat' split)<;>first|omega|exact ends_neg (by omega) (by assumption)|exact ends_pos (by omega) (by assumption))
  refine ⟨by omega,?_⟩
  refine vq (by omega) (by omega) fun x19 _ _=>?_
  refine ⟨by simp,?_⟩
  refine va fun x20 _=>?_
  exact lfr (by subst_vars;simp only [atL];(repeat' split)<;>first|omega|exact ends_neg (by omega) (by assumption)|exact ends_pos (by omega) (by assumption))
 refine va fun x21 _=>?_
 refine va fun x22 _=>?_
 refine va fun x23 _=>?_
 refine vm (by omega) (by omega) (by omega) (by omega) fun x24 _ _ _=>?_
 refine ⟨by omega,?_⟩
 refine vs fun x25 _ _=>?_
 refine BR.mk (fun _=>?_) (fun _=>?_)
 ·
  refine ⟨by omega,?_⟩
  refine vq (by omega) (by omega) fun x26 _ _=>?_
  refine va fun x27 _=>?_
  refine ⟨by simp,?_⟩
  refine va fun x28 _=>?_
  exact lfr (by subst_vars;simp only [atL];(repeat' split)<;>first|omega|exact ends_neg (by omega) (by assumption)|exact ends_pos (by omega) (by assumption))
 refine ⟨by omega,?_⟩
 refine vq (by omega) (by omega) fun x29 _ _=>?_
 refine ⟨by simp,?_⟩
 refine va fun x30 _=>?_
 exact lfr (by subst_vars;simp only [atL];(repeat' split)<;>first|omega|exact ends_neg (by omega) (by assumption)|exact ends_pos (by omega) (by assumption))
theorem Tryz.at5_t(h0 l0 u0 h1 l1 u1 h2 l2 u2 h3 l3 u3 h4 l4 u4 z0 z1 z2 z3 z4 ht plank:Int)(cp nt ct ns cs:Nat)(tc sc kc:Array Value)(ot os:Option Addr)(Q:Value→Prop)(K:AS→Prop):tx (Tryz.X [⟨86,fun _ _=>[],4,fun _=>L4 (pc5 h0 l0 u0 h1 l1 u1 h2 l2 u2 h3 l3 u3 h4 l4 u4) tc sc kc,fun _=>⟨[bv 5 plank cp ot nt ct os ns cs]⟩,fun _=>True,fun _ x=>x=0,fun x=>.int .i64 x⟩]) Q K (.call 6 5 (.br 1 4 13 .no (.br 24 6 8 (.br 0 5 13 (.br 17 6 8 (.br 0 5 13 (.br 17 6 8 (.br 0 5 13 (.br 17 6 8 (.br 0 5 13 (.br 17 6 8 (.br 0 5 13 (.rk 34 0 (.br 8 10 12 .no (.br 0 14 26 .no (.br 8 15 18 (.br 4 13 18 (.br 4 13 18 (.br 4 13 18 .no h42t0) h42t0) h42t0) h42t0)))) .no) .no) .no) .no) .no) .no) .no) .no) .no) .no))) ⟨AFr.enter Tryz.prog 9 ⟨[bv 5 plank cp ot nt ct os ns cs,.slice (some ⟨22,0,none⟩) 5 5,.int .i64 ht]⟩,[],hOf 23 ((22,⟨.cells ⟨[.int .i64 z0,.int .i64 z1,.int .i64 z2,.int .i64 z3,.int .i64 z4]⟩ 3 (0,0),some 10,false,1⟩) :: L4 (pc5 h0 l0 u0 h1 l1 u1 h2 l2 u2 h3 l3 u3 h4 l4 u4) tc sc kc)⟩=(((AE ⟨[(bv 5 plank cp ot nt ct os ns cs)]⟩)∧(E4 (pc5 h0 l0 u0 h1 l1 u1 h2 l2 u2 h3 l3 u3 h4 l4 u4) tc sc kc)∧True)∧∀x0:Int,(x0=0)→RK (true) (BR (!decide (x0=0)) (False) (BR (decide (0≤z0)) (BR (decide (z0≤959)) (BR (decide (0≤z1)) (BR (decide (z1≤959)) (BR (decide (0≤z2)) (BR (decide (z2≤959)) (BR (decide (0≤z3)) (BR (decide (z3≤959)) (BR (decide (0≤z4)) (BR (decide (z4≤959)) (RK (((decide (plank=plank) && (decide (cp=cp) && (((decide (ot=ot) && decide (nt=nt)) && decide (ct=ct)) && (((decide (os=os) && decide (ns=ns)) && decide (cs=cs)) && true)))) && true)) (BR (decide (ht < h0)) (False) (BR (decide (ht > h4)) (False) (BR (decide (ht > h1)) (BR (decide (ht > h2)) (BR (decide (ht > h3)) (BR (decide (ht > h4)) (False) (∀x1,x1=wi (h4 - h3)→∀x2,x2=wi (z4 - z3)→∀x3,x3=wi (ht - h3)→∀x4,x4=wi (x2 * x3)→(x1≠0)∧∀x5,x5=Int.tmod x4 x1→BR (decide (x5 < 0)) ((x1≠0)∧∀x6,x6=wi (Int.tdiv x4 x1)→∀x7,x7=wi (x6 - 1)→RK ((decide (z3=z3) && true)) (∀x8,x8=wi (z3+x7)→Q (.tuple ⟨[.int .i64 x8,.int .i64 0]⟩))) ((x1≠0)∧∀x9,x9=wi (Int.tdiv x4 x1)→RK ((decide (z3=z3) && true)) (∀x10,x10=wi (z3+x9)→Q (.tuple ⟨[.int .i64 x10,.int .i64 0]⟩))))) (∀x11,x11=wi (h3 - h2)→∀x12,x12=wi (z3 - z2)→∀x13,x13=wi (ht - h2)→∀x14,x14=wi (x12 * x13)→(x11≠0)∧∀x15,x15=Int.tmod x14 x11→BR (decide (x15 < 0)) ((x11≠0)∧∀x16,x16=wi (Int.tdiv x14 x11)→∀x17,x17=wi (x16 - 1)→RK ((decide (z2=z2) && true)) (∀x18,x18=wi (z2+x17)→Q (.tuple ⟨[.int .i64 x18,.int .i64 0]⟩))) ((x11≠0)∧∀x19,x19=wi (Int.tdiv x14 x11)→RK ((decide (z2=z2) && true)) (∀x20,x20=wi (z2+x19)→Q (.tuple ⟨[.int .i64 x20,.int .i64 0]⟩))))) (∀x21,x21=wi (h2 - h1)→∀x22,x22=wi (z2 - z1)→∀x23,x23=wi (ht - h1)→∀x24,x24=wi (x22 * x23)→(x21≠0)∧∀x25,x25=Int.tmod x24 x21→BR (decide (x25 < 0)) ((x21≠0)∧∀x26,x26=wi (Int.tdiv x24 x21)→∀x27,x27=wi (x26 - 1)→RK ((decide (z1=z1) && true)) (∀x28,x28=wi (z1+x27)→Q (.tuple ⟨[.int .i64 x28,.int .i64 0]⟩))) ((x21≠0)∧∀x29,x29=wi (Int.tdiv x24 x21)→RK ((decide (z1=z1) && true)) (∀x30,x30=wi (z1+x29)→Q (.tuple ⟨[.int .i64 x30,.int .i64 0]⟩))))) (∀x31,x31=wi (h1 - h0)→∀x32,x32=wi (z1 - z0)→∀x33,x33=wi (ht - h0)→∀x34,x34=wi (x32 * x33)→(x31≠0)∧∀x35,x35=Int.tmod x34 x31→BR (decide (x35 < 0)) ((x31≠0)∧∀x36,x36=wi (Int.tdiv x34 x31)→∀x37,x37=wi (x36 - 1)→RK ((decide (z0=z0) && true)) (∀x38,x38=wi (z0+x37)→Q (.tuple ⟨[.int .i64 x38,.int .i64 0]⟩))) ((x31≠0)∧∀x39,x39=wi (Int.tdiv x34 x31)→RK ((decide (z0=z0) && true)) (∀x40,x40=wi (z0+x39)→Q (.tuple ⟨[.int .i64 x40,.int .i64 0]⟩)))))))) (False)) (False)) (False)) (False)) (False)) (False)) (False)) (False)) (False)) (False)))):=by kernel_rfl
theorem Tryz.at5(h0 l0 u0 h1 l1 u1 h2 l2 u2 h3 l3 u3 h4 l4 u4 z0 z1 z2 z3 z4 ht plank:Int)(cp nt ct ns cs:Nat)(tc sc kc:Array Value)(ot os:Option Addr)(hv:Pts [(h0,l0,u0),(h1,l1,u1),(h2,l2,u2),(h3,l3,u3),(h4,l4,u4)])(hb:h0≤ht∧ht≤h4∧0≤z0∧z0≤959∧0≤z1∧z1≤959∧0≤z2∧z2≤959∧0≤z3∧z3≤959∧0≤z4∧z4≤959)(hc:∀c∈([⟨86,fun _ _=>[],4,fun _=>L4 (pc5 h0 l0 u0 h1 l1 u1 h2 l2 u2 h3 l3 u3 h4 l4 u4) tc sc kc,fun _=>⟨[bv 5 plank cp ot nt ct os ns cs]⟩,fun _=>True,fun _ x=>x=0,fun x=>.int .i64 x⟩]:List Ct),CtOk Tryz.prog c):Rets Tryz.prog (fun v _=>∃x:Int,x=atL [(h0,z0),(h1,z1),(h2,z2),(h3,z3),(h4,z4)] ht∧v = .tuple ⟨[.int .i64 x,.int .i64 0]⟩) ⟨AFr.enter Tryz.prog 9 ⟨[bv 5 plank cp ot nt ct os ns cs,.slice (some ⟨22,0,none⟩) 5 5,.int .i64 ht]⟩,[],hOf 23 ((22,⟨.cells ⟨[.int .i64 z0,.int .i64 z1,.int .i64 z2,.int .i64 z3,.int .i64 z4]⟩ 3 (0,0),some 10,false,1⟩) :: L4 (pc5 h0 l0 u0 h1 l1 u1 h2 l2 u2 h3 l3 u3 h4 l4 u4) tc sc kc)⟩:=by
 refine txR_use (X:=Tryz.X [⟨86,fun _ _=>[],4,fun _=>L4 (pc5 h0 l0 u0 h1 l1 u1 h2 l2 u2 h3 l3 u3 h4 l4 u4) tc sc kc,fun _=>⟨[bv 5 plank cp ot nt ct os ns cs]⟩,fun _=>True,fun _ x=>x=0,fun x=>.int .i64 x⟩]) (Tryz.ok hc) (Tryz.at5_t h0 l0 u0 h1 l1 u1 h2 l2 u2 h3 l3 u3 h4 l4 u4 z0 z1 z2 z3 z4 ht plank cp nt ct ns cs tc sc kc ot os _ _) ?_
 simp only [Pts,PtsF,and_true] at hv
 refine ⟨⟨rfl,E4i,trivial⟩,fun x0 _=>⟨rfl,?_⟩⟩
 refine BR.nr (by omega) ?_
 refine BR.ll ?_
 refine BR.ll ?_
 refine BR.ll ?_
 refine BR.ll ?_
 refine BR.ll ?_
 refine BR.ll ?_
 refine BR.ll ?_
 refine BR.ll ?_
 refine BR.ll ?_
 refine BR.ll ?_
 refine ⟨by simp,?_⟩
 refine BR.rr ?_
 refine BR.rr ?_
 refine BR.mk (fun _=>?_) (fun _=>?_)
 ·
  refine BR.mk (fun _=>?_) (fun _=>?_)
  ·
   refine BR.mk (fun _=>?_) (fun _=>?_)
   ·
    refine BR.rr ?_
    refine va fun x1 _=>?_
    refine va fun x2 _=>?_
    refine va fun x3 _=>?_
    refine vm (by omega) (by omega) (by omega) (by omega) fun x4 _ _ _=>?_
    refine ⟨by omega,?_⟩
    refine vs fun x5 _ _=>?_
    refine BR.mk (fun _=>?_) (fun _=>?_)
    ·
     refine ⟨by omega,?_⟩
     refine vq (by omega) (by omega) fun x6 _ _=>?_
     refine va fun x7 _=>?_
     refine ⟨by simp,?_⟩
     refine va fun x8 _=>?_
     exact lfr (by subst_vars;simp only [atL];(repeat' split)<;>first|omega|exact ends_neg (by omega) (by assumption)|exact ends_pos (by omega) (by assumption))
    refine ⟨by omega,?_⟩
    refine vq (by omega) (by omega) fun x9 _ _=>?_
    refine ⟨by simp,?_⟩
    refine va fun x10 _=>?_
    exact lfr (by subst_vars;simp only [atL];(repeat' split)<;>first|omega|exact ends_neg (by omega) (by assumption)|exact ends_pos (by omega) (by assumption))
   refine va fun x11 _=>?_
   refine va fun x12 _=>?_
   refine va fun x13 _=>?_
   refine vm (by omega) (by omega) (by omega) (by omega) fun x14 _ _ _=>?_
   refine ⟨by omega,?_⟩
   refine vs fun x15 _ _=>?_
   refine BR.mk (fun _=>?_) (fun _=>?_)
   ·
    refine ⟨by omega,?_⟩
    refine vq (by omega) (by omega) fun x16 _ _=>?_
    refine va fun x17 _=>?_
    refine ⟨by simp,?_⟩
    refine va fun x18 _=>?_
    exact lfr (by subst_vars;simp only [atL];(repeat' split)<;>first|omega|exact ends_neg (by omega) (by assumption)|exact ends_pos (by omega) (by assumption))
   refine ⟨by omega,?_⟩
   refine vq (by omega) (by omega) fun x19 _ _=>?_
   refine ⟨by simp,?_⟩
   refine va fun x20 _=>?_
   exact lfr (by subst_vars;simp only [atL];(repeat' split)<;>first|omega|exact ends_neg (by omega) (by assumption)|exact ends_pos (by omega) (by assumption))
  refine va fun x21 _=>?_
  refine va fun x22 _=>?_
  refine va fun x23 _=>?_
  refine vm (by omega) (by omega) (by omega) (by omega) fun x24 _ _ _=>?_
  refine ⟨by omega,?_⟩
  refine vs fun x25 _ _=>?_
  refine BR.mk (fun _=>?_) (fun _=>?_)
  ·
   refine ⟨by omega,?_⟩
   refine vq (by omega) (by omega) fun x26 _ _=>?_
   refine va fun x27 _=>?_
   refine ⟨by simp,?_⟩
   refine va fun x28 _=>?_
   exact lfr (by subst_vars;simp only [atL];(repeat' split)<;>first|omega|exact ends_neg (by omega) (by assumption)|exact ends_pos (by omega) (by assumption))
  refine ⟨by omega,?_⟩
  refine vq (by omega) (by omega) fun x29 _ _=>?_
  refine ⟨by simp,?_⟩
  refine va fun x30 _=>?_
  exact lfr (by subst_vars;simp only [atL];(repeat' split)<;>first|omega|exact ends_neg (by omega) (by assumption)|exact ends_pos (by omega) (by assumption))
 refine va fun x31 _=>?_
 refine va fun x32 _=>?_
 refine va fun x33 _=>?_
 refine vm (by omega) (by omega) (by omega) (by omega) fun x34 _ _ _=>?_
 refine ⟨by omega,?_⟩
 refine vs fun x35 _ _=>?_
 refine BR.mk (fun _=>?_) (fun _=>?_)
 ·
  refine ⟨by omega,?_⟩
  refine vq (by omega) (by omega) fun x36 _ _=>?_
  refine va fun x37 _=>?_
  refine ⟨by simp,?_⟩
  refine va fun x38 _=>?_
  exact lfr (by subst_vars;simp only [atL];(repeat' split)<;>first|omega|exact ends_neg (by omega) (by assumption)|exact ends_pos (by omega) (by assumption))
 refine ⟨by omega,?_⟩
 refine vq (by omega) (by omega) fun x39 _ _=>?_
 refine ⟨by simp,?_⟩
 refine va fun x40 _=>?_
 exact lfr (by subst_vars;simp only [atL];(repeat' split)<;>first|omega|exact ends_neg (by omega) (by assumption)|exact ends_pos (by omega) (by assumption))
end Go.Am
