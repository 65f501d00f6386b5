import Derived.Test.YtgdedcgpgmigaaaGreatH26
set_option linter.unusedVariables false
set_option linter.unusedSectionVars false
set_option linter.unusedSimpArgs false
namespace Go.Am
open Go.Proofs
def pc2(h0 l0 u0 h1 l1 u1:Int):Array Value:=⟨[.int .i64 h0,.int .i64 l0,.int .i64 u0,.int .i64 h1,.int .i64 l1,.int .i64 u1]⟩
def pc3(h0 l0 u0 h1 l1 u1 h2 l2 u2:Int):Array Value:=⟨[.int .i64 h0,.int .i64 l0,.int .i64 u0,.int .i64 h1,.int .i64 l1,.int .i64 u1,.int .i64 h2,.int .i64 l2,.int .i64 u2]⟩
def pc4(h0 l0 u0 h1 l1 u1 h2 l2 u2 h3 l3 u3:Int):Array Value:=⟨[.int .i64 h0,.int .i64 l0,.int .i64 u0,.int .i64 h1,.int .i64 l1,.int .i64 u1,.int .i64 h2,.int .i64 l2,.int .i64 u2,.int .i64 h3,.int .i64 l3,.int .i64 u3]⟩
def pc5(h0 l0 u0 h1 l1 u1 h2 l2 u2 h3 l3 u3 h4 l4 u4:Int):Array Value:=⟨[.int .i64 h0,.int .i64 l0,.int .i64 u0,.int .i64 h1,.int .i64 l1,.int .i64 u1,.int .i64 h2,.int .i64 l2,.int .i64 u2,.int .i64 h3,.int .i64 l3,.int .i64 u3,.int .i64 h4,.int .i64 l4,.int .i64 u4]⟩
def bv(np:Nat)(plank:Int)(cp:Nat)(ot:Option Addr)(nt ct:Nat)(os:Option Addr)(ns cs:Nat):Value:=.agg ⟨[.int .i64 plank,.slice (some ⟨0,0,none⟩) np cp,.slice ot nt ct,.slice os ns cs]⟩
theorem lfr{x y:Int}(h:x=y):∀_:AH,∃z:Int,z=y∧(Value.tuple ⟨[.int .i64 x,.int .i64 0]⟩) = .tuple ⟨[.int .i64 z,.int .i64 0]⟩:=fun _=>⟨x,h,rfl⟩
section
variable{h0 l0 u0 h1 l1 u1 z0 z1 fr to plank:Int}{cp nt ct ns cs:Nat}{tc sc kc:Array Value}{ot os:Option Addr}
abbrev h27t0:HT:=.call 4 6 (.val 5 13 57 (.val 8 11 75 (.val 0 10 85 (.val 0 1 86 (.val 0 1 87 (.br 8 3 90 .no (.br 2 2 94 .no (.val 9 2 106 (.val 7 2 115 (.val 0 1 116 (.br 0 1 117 .no (.val 2 5 121 (.ov 0 4 (.val 0 0 126 (.val 0 1 127 (.br 1 6 130 (.cut 1 3) (.br 0 4 134 (.cut 1 3) .no)))))))))))))))))
abbrev h27t1:HT:=.val 1 4 16 (.ov 0 0 (.val 0 0 17 (.ov 0 1 (.val 0 0 19 (.spl 0 0 19 0 h27t0 .no)))))
theorem Tryz.gi2_t(Q:Value→Prop)(K:AS→Prop):∀v0:Value,v0=(bv 2 plank cp ot nt ct os ns cs)→tx (Tryz.X [⟨87,fun _ _=>[],4,fun _=>L4 (pc2 h0 l0 u0 h1 l1 u1) tc sc kc,fun _=>⟨[v0]⟩,fun _=>True,fun _ x=>x=0,fun x=>.int .i64 x⟩,⟨42,fun a _=>[parOf a 0],0,fun _=>[],fun ps=>⟨[.int .i64 (ps.headD 0)]⟩,fun ps=>0≤ps.headD 0∧ps.headD 0≤4000000,fun ps x=>x=rt (ps.headD 0),fun x=>.int .i64 x⟩]) Q K (.call 6 5 (.br 1 4 13 .no (.br 24 6 8 (.br 0 5 13 (.br 17 6 8 (.br 0 5 13 (.rk 34 0 (.br 23 4 6 (.br 0 4 10 (.br 5 4 6 (.br 0 4 10 (.br 15 9 9 .no (.val 37 16 23 (.val 0 8 31 (.val 4 6 39 (.val 0 3 42 (.val 0 1 43 (.call 0 0 (.val 0 1 45 (.rk 21 0 (.cas 0 0 10 (.agg ⟨[.int .i64 0,.int .i64 1]⟩) (.ret 6 1) .no)))))))))) .no) .no) .no) .no)) .no) .no) .no) .no))) ⟨AFr.enter Tryz.prog 8 ⟨[v0,.slice (some ⟨13,0,none⟩) 2 2,.int .i64 fr,.int .i64 to]⟩,[],hOf 14 ((13,⟨.cells ⟨[.int .i64 z0,.int .i64 z1]⟩ 3 (0,0),some 10,false,1⟩) :: L4 (pc2 h0 l0 u0 h1 l1 u1) tc sc kc)⟩=(((AE ⟨[v0]⟩)∧(E4 (pc2 h0 l0 u0 h1 l1 u1) tc sc kc)∧True)∧∀x0:Int,(x0=0)→RK (true) (BR (!decide (x0=0)) (False) (BR (decide (0≤z0)) (BR (decide (z0≤959)) (BR (decide (0≤z1)) (BR (decide (z1≤959)) (RK (((decide (plank=plank) && (decide (cp=cp) && (((decide (ot=ot) && decide (nt=nt)) && decide (ct=ct)) && (((decide (os=os) && decide (ns=ns)) && decide (cs=cs)) && true)))) && true)) (BR (decide (fr≥0)) (BR (decide (fr < 2)) (BR (decide (to≥0)) (BR (decide (to < 2)) (BR (decide (fr≥to)) (False) (∀x1,x1=wi (h1 - h0)→∀x2,x2=wi (z1 - z0)→∀x3,x3=wi (x1 * x1)→∀x4,x4=wi (x2 * x2)→∀x5,x5=wi (x3+x4)→((AE ⟨[.int .i64 x5]⟩)∧(True)∧(0≤x5∧x5≤4000000))∧∀x6:Int,(x6=rt x5)→RK (true) (∀x7,x7=wi (0+x6)→RK (((decide (fr=fr) && (decide (to=to) && true)) && true)) (CS ((.agg ⟨[.int .i64 fr,.int .i64 to]⟩:Value) = .agg ⟨[.int .i64 0,.int .i64 1]⟩) (Q (.tuple ⟨[.int .i64 x7,.int .i64 0]⟩)) (False))))) (False)) (False)) (False)) (False))) (False)) (False)) (False)) (False)))):=by
 rintro _ rfl
 kernel_rfl
theorem Tryz.gi2(hv:Pts [(h0,l0,u0),(h1,l1,u1)])(hb:0≤fr∧fr < to∧to≤1∧0≤z0∧z0≤959∧0≤z1∧z1≤959)(hc:∀c∈([⟨87,fun _ _=>[],4,fun _=>L4 (pc2 h0 l0 u0 h1 l1 u1) tc sc kc,fun _=>⟨[(bv 2 plank cp ot nt ct os ns cs)]⟩,fun _=>True,fun _ x=>x=0,fun x=>.int .i64 x⟩,⟨42,fun a _=>[parOf a 0],0,fun _=>[],fun ps=>⟨[.int .i64 (ps.headD 0)]⟩,fun ps=>0≤ps.headD 0∧ps.headD 0≤4000000,fun ps x=>x=rt (ps.headD 0),fun x=>.int .i64 x⟩]:List Ct),CtOk Tryz.prog c):Rets Tryz.prog (fun v _=>∃x:Int,x=gs [(h0,z0),(h1,z1)] fr to∧v = .tuple ⟨[.int .i64 x,.int .i64 0]⟩) ⟨AFr.enter Tryz.prog 8 ⟨[(bv 2 plank cp ot nt ct os ns cs),.slice (some ⟨13,0,none⟩) 2 2,.int .i64 fr,.int .i64 to]⟩,[],hOf 14 ((13,⟨.cells ⟨[.int .i64 z0,.int .i64 z1]⟩ 3 (0,0),some 10,false,1⟩) :: L4 (pc2 h0 l0 u0 h1 l1 u1) tc sc kc)⟩:=by
 refine txR_use (Tryz.ok hc) (Tryz.gi2_t _ _ _ rfl) ?_
 simp only [Pts,PtsF,and_true] at hv
 refine ⟨⟨rfl,E4i,trivial⟩,fun x0 _=>⟨rfl,?_⟩⟩
 refine BR.nr (by omega) ?_
 iterate 14 (first|refine BR.rr ?_|refine BR.ll ?_|refine va fun _ _=>?_|refine vsq (by omega) (by omega) fun _ _ _ _=>?_|refine ⟨by simp,?_⟩)
 refine va fun x5 _=>?_
 refine ⟨⟨rfl,trivial,by omega⟩,fun x6 yR=>⟨rfl,?_⟩⟩
 obtain ⟨_,_⟩:=rt_bd (n:=x5) (by omega) (by omega) yR
 refine va fun x7 _=>?_
 refine ⟨by simp,?_⟩
 refine CS.l2 (by omega) (by omega) ?_
 exact lfr (by subst_vars;simp [gs,sg]<;>omega)
end
section
variable{h0 l0 u0 h1 l1 u1 h2 l2 u2 z0 z1 z2 fr to plank:Int}{cp nt ct ns cs:Nat}{tc sc kc:Array Value}{ot os:Option Addr}
theorem Tryz.gi3_t(Q:Value→Prop)(K:AS→Prop):∀v0:Value,v0=(bv 3 plank cp ot nt ct os ns cs)→∀v1:Array Value,v1=(pc3 h0 l0 u0 h1 l1 u1 h2 l2 u2)→tx (Tryz.X [⟨87,fun _ _=>[],4,fun _=>L4 v1 tc sc kc,fun _=>⟨[v0]⟩,fun _=>True,fun _ x=>x=0,fun x=>.int .i64 x⟩,⟨42,fun a _=>[parOf a 0],0,fun _=>[],fun ps=>⟨[.int .i64 (ps.headD 0)]⟩,fun ps=>0≤ps.headD 0∧ps.headD 0≤4000000,fun ps x=>x=rt (ps.headD 0),fun x=>.int .i64 x⟩]) Q K (.call 6 5 (.br 1 4 13 .no (.br 24 6 8 (.br 0 5 13 (.br 17 6 8 (.br 0 5 13 (.br 17 6 8 (.br 0 5 13 (.rk 34 0 (.br 23 4 6 (.br 0 4 10 (.br 5 4 6 (.br 0 4 10 (.br 15 9 9 .no (.val 37 16 23 (.val 0 8 31 (.val 4 6 39 (.val 0 3 42 (.val 0 1 43 (.call 0 0 (.val 0 1 45 (.val 10 16 23 (.val 0 8 31 (.val 4 6 39 (.val 0 3 42 (.val 0 1 43 (.call 0 0 (.val 0 1 45 (.val 19 16 23 (.val 0 8 31 (.val 4 6 39 (.val 0 3 42 (.val 0 1 43 (.call 0 0 (.val 0 1 45 (.rk 21 0 (.cas 0 0 10 (.agg ⟨[.int .i64 0,.int .i64 1]⟩) (.ret 6 1) (.cas 0 0 10 (.agg ⟨[.int .i64 0,.int .i64 2]⟩) (.ret 6 1) (.cas 0 0 10 (.agg ⟨[.int .i64 1,.int .i64 2]⟩) (.ret 6 1) .no)))))))))))))))))))))))))) .no) .no) .no) .no)) .no) .no) .no) .no) .no) .no))) ⟨AFr.enter Tryz.prog 8 ⟨[v0,.slice (some ⟨16,0,none⟩) 3 3,.int .i64 fr,.int .i64 to]⟩,[],hOf 17 ((16,⟨.cells ⟨[.int .i64 z0,.int .i64 z1,.int .i64 z2]⟩ 3 (0,0),some 10,false,1⟩) :: L4 v1 tc sc kc)⟩=(((AE ⟨[v0]⟩)∧(E4 v1 tc sc kc)∧True)∧∀x0:Int,(x0=0)→RK (true) (BR (!decide (x0=0)) (False) (BR (decide (0≤z0)) (BR (decide (z0≤959)) (BR (decide (0≤z1)) (BR (decide (z1≤959)) (BR (decide (0≤z2)) (BR (decide (z2≤959)) (RK (((decide (plank=plank) && (decide (cp=cp) && (((decide (ot=ot) && decide (nt=nt)) && decide (ct=ct)) && (((decide (os=os) && decide (ns=ns)) && decide (cs=cs)) && true)))) && true)) (BR (decide (fr≥0)) (BR (decide (fr < 3)) (BR (decide (to≥0)) (BR (decide (to < 3)) (BR (decide (fr≥to)) (False) (∀x1,x1=wi (h1 - h0)→∀x2,x2=wi (z1 - z0)→∀x3,x3=wi (x1 * x1)→∀x4,x4=wi (x2 * x2)→∀x5,x5=wi (x3+x4)→((AE ⟨[.int .i64 x5]⟩)∧(True)∧(0≤x5∧x5≤4000000))∧∀x6:Int,(x6=rt x5)→RK (true) (∀x7,x7=wi (0+x6)→∀x8,x8=wi (h2 - h1)→∀x9,x9=wi (z2 - z1)→∀x10,x10=wi (x8 * x8)→∀x11,x11=wi (x9 * x9)→∀x12,x12=wi (x10+x11)→((AE ⟨[.int .i64 x12]⟩)∧(True)∧(0≤x12∧x12≤4000000))∧∀x13:Int,(x13=rt x12)→RK (true) (∀x14,x14=wi (x7+x13)→∀x15,x15=wi (h2 - h1)→∀x16,x16=wi (z2 - z1)→∀x17,x17=wi (x15 * x15)→∀x18,x18=wi (x16 * x16)→∀x19,x19=wi (x17+x18)→((AE ⟨[.int .i64 x19]⟩)∧(True)∧(0≤x19∧x19≤4000000))∧∀x20:Int,(x20=rt x19)→RK (true) (∀x21,x21=wi (0+x20)→RK (((decide (fr=fr) && (decide (to=to) && true)) && true)) (CS ((.agg ⟨[.int .i64 fr,.int .i64 to]⟩:Value) = .agg ⟨[.int .i64 0,.int .i64 1]⟩) (Q (.tuple ⟨[.int .i64 x7,.int .i64 0]⟩)) (CS ((.agg ⟨[.int .i64 fr,.int .i64 to]⟩:Value) = .agg ⟨[.int .i64 0,.int .i64 2]⟩) (Q (.tuple ⟨[.int .i64 x14,.int .i64 0]⟩)) (CS ((.agg ⟨[.int .i64 fr,.int .i64 to]⟩:Value) = .agg ⟨[.int .i64 1,.int .i64 2]⟩) (Q (.tuple ⟨[.int .i64 x21,.int .i64 0]⟩)) (False))))))))) (False)) (False)) (False)) (False))) (False)) (False)) (False)) (False)) (False)) (False)))):=by
 rintro _ rfl _ rfl
 kernel_rfl
theorem Tryz.gi3(hv:Pts [(h0,l0,u0),(h1,l1,u1),(h2,l2,u2)])(hb:0≤fr∧fr < to∧to≤2∧0≤z0∧z0≤959∧0≤z1∧z1≤959∧0≤z2∧z2≤959)(hc:∀c∈([⟨87,fun _ _=>[],4,fun _=>L4 (pc3 h0 l0 u0 h1 l1 u1 h2 l2 u2) tc sc kc,fun _=>⟨[(bv 3 plank cp ot nt ct os ns cs)]⟩,fun _=>True,fun _ x=>x=0,fun x=>.int .i64 x⟩,⟨42,fun a _=>[parOf a 0],0,fun _=>[],fun ps=>⟨[.int .i64 (ps.headD 0)]⟩,fun ps=>0≤ps.headD 0∧ps.headD 0≤4000000,fun ps x=>x=rt (ps.headD 0),fun x=>.int .i64 x⟩]:List Ct),CtOk Tryz.prog c):Rets Tryz.prog (fun v _=>∃x:Int,x=gs [(h0,z0),(h1,z1),(h2,z2)] fr to∧v = .tuple ⟨[.int .i64 x,.int .i64 0]⟩) ⟨AFr.enter Tryz.prog 8 ⟨[(bv 3 plank cp ot nt ct os ns cs),.slice (some ⟨16,0,none⟩) 3 3,.int .i64 fr,.int .i64 to]⟩,[],hOf 17 ((16,⟨.cells ⟨[.int .i64 z0,.int .i64 z1,.int .i64 z2]⟩ 3 (0,0),some 10,false,1⟩) :: L4 (pc3 h0 l0 u0 h1 l1 u1 h2 l2 u2) tc sc kc)⟩:=by
 refine txR_use (Tryz.ok hc) (Tryz.gi3_t _ _ _ rfl _ rfl) ?_
 simp only [Pts,PtsF,and_true] at hv
 refine ⟨⟨rfl,E4i,trivial⟩,fun x0 _=>⟨rfl,?_⟩⟩
 refine BR.nr (by omega) ?_
 iterate 16 (first|refine BR.rr ?_|refine BR.ll ?_|refine va fun _ _=>?_|refine vsq (by omega) (by omega) fun _ _ _ _=>?_|refine ⟨by simp,?_⟩)
 refine va fun x5 _=>?_
 refine ⟨⟨rfl,trivial,by omega⟩,fun x6 yR=>⟨rfl,?_⟩⟩
 obtain ⟨_,_⟩:=rt_bd (n:=x5) (by omega) (by omega) yR
 iterate 5 (first|refine va fun _ _=>?_|refine vsq (by omega) (by omega) fun _ _ _ _=>?_)
 refine va fun x12 _=>?_
 refine ⟨⟨rfl,trivial,by omega⟩,fun x13 yR=>⟨rfl,?_⟩⟩
 obtain ⟨_,_⟩:=rt_bd (n:=x12) (by omega) (by omega) yR
 iterate 5 (first|refine va fun _ _=>?_|refine vsq (by omega) (by omega) fun _ _ _ _=>?_)
 refine va fun x19 _=>?_
 refine ⟨⟨rfl,trivial,by omega⟩,fun x20 yR=>⟨rfl,?_⟩⟩
 obtain ⟨_,_⟩:=rt_bd (n:=x19) (by omega) (by omega) yR
 refine va fun x21 _=>?_
 refine ⟨by simp,?_⟩
 refine CS.i2 (fun _ _=>?_) (fun _=>?_)
 ·
  exact lfr (by subst_vars;simp [gs,sg]<;>omega)
 refine CS.i2 (fun _ _=>?_) (fun _=>?_)
 ·
  exact lfr (by subst_vars;simp [gs,sg]<;>omega)
 refine CS.l2 (by omega) (by omega) ?_
 exact lfr (by subst_vars;simp [gs,sg]<;>omega)
end
section
variable{h0 l0 u0 h1 l1 u1 h2 l2 u2 h3 l3 u3 z0 z1 z2 z3 fr to plank:Int}{cp nt ct ns cs:Nat}{tc sc kc:Array Value}{ot os:Option Addr}
theorem Tryz.gi4_t(Q:Value→Prop)(K:AS→Prop):∀v0:Array Value,v0=(pc4 h0 l0 u0 h1 l1 u1 h2 l2 u2 h3 l3 u3)→∀v1:Value,v1=(bv 4 plank cp ot nt ct os ns cs)→tx (Tryz.X [⟨87,fun _ _=>[],4,fun _=>L4 v0 tc sc kc,fun _=>⟨[v1]⟩,fun _=>True,fun _ x=>x=0,fun x=>.int .i64 x⟩,⟨42,fun a _=>[parOf a 0],0,fun _=>[],fun ps=>⟨[.int .i64 (ps.headD 0)]⟩,fun ps=>0≤ps.headD 0∧ps.headD 0≤4000000,fun ps x=>x=rt (ps.headD 0),fun x=>.int .i64 x⟩]) Q K (.call 6 5 (.br 1 4 13 .no (.br 24 6 8 (.br 0 5 13 (.br 17 6 8 (.br 0 5 13 (.br 17 6 8 (.br 0 5 13 (.br 17 6 8 (.br 0 5 13 (.rk 34 0 (.br 23 4 6 (.br 0 4 10 (.br 5 4 6 (.br 0 4 10 (.br 15 9 9 .no (.val 37 16 23 (.val 0 8 31 (.val 4 6 39 (.val 0 3 42 (.val 0 1 43 (.call 0 0 (.val 0 1 45 (.val 10 16 23 (.val 0 8 31 (.val 4 6 39 (.val 0 3 42 (.val 0 1 43 (.call 0 0 (.val 0 1 45 (.val 10 16 23 (.val 0 8 31 (.val 4 6 39 (.val 0 3 42 (.val 0 1 43 (.call 0 0 (.val 0 1 45 (.val 19 16 23 (.val 0 8 31 (.val 4 6 39 (.val 0 3 42 (.val 0 1 43 (.call 0 0 (.val 0 1 45 (.val 10 16 23 (.val 0 8 31 (.val 4 6 39 (.val 0 3 42 (.val 0 1 43 (.call 0 0 (.val 0 1 45 (.val 19 16 23 (.val 0 8 31 (.val 4 6 39 (.val 0 3 42 (.val 0 1 43 (.call 0 0 (.val 0 1 45 (.rk 21 0 (.cas 0 0 10 (.agg ⟨[.int .i64 0,.int .i64 1]⟩) (.ret 6 1) (.cas 0 0 10 (.agg ⟨[.int .i64 0,.int .i64 2]⟩) (.ret 6 1) (.cas 0 0 10 (.agg ⟨[.int .i64 0,.int .i64 3]⟩) (.ret 6 1) (.cas 0 0 10 (.agg ⟨[.int .i64 1,.int .i64 2]⟩) (.ret 6 1) (.cas 0 0 10 (.agg ⟨[.int .i64 1,.int .i64 3]⟩) (.ret 6 1) (.cas 0 0 10 (.agg ⟨[.int .i64 2,.int .i64 3]⟩) (.ret 6 1) .no)))))))))))))))))))))))))))))))))))))))))))))))))) .no) .no) .no) .no)) .no) .no) .no) .no) .no) .no) .no) .no))) ⟨AFr.enter Tryz.prog 8 ⟨[v1,.slice (some ⟨19,0,none⟩) 4 4,.int .i64 fr,.int .i64 to]⟩,[],hOf 20 ((19,⟨.cells ⟨[.int .i64 z0,.int .i64 z1,.int .i64 z2,.int .i64 z3]⟩ 3 (0,0),some 10,false,1⟩) :: L4 v0 tc sc kc)⟩=(((AE ⟨[v1]⟩)∧(E4 v0 tc sc kc)∧True)∧∀x0:Int,(x0=0)→RK (true) (BR (!decide (x0=0)) (False) (BR (decide (0≤z0)) (BR (decide (z0≤959)) (BR (decide (0≤z1)) (BR (decide (z1≤959)) (BR (decide (0≤z2)) (BR (decide (z2≤959)) (BR (decide (0≤z3)) (BR (decide (z3≤959)) (RK (((decide (plank=plank) && (decide (cp=cp) && (((decide (ot=ot) && decide (nt=nt)) && decide (ct=ct)) && (((decide (os=os) && decide (ns=ns)) && decide (cs=cs)) && true)))) && true)) (BR (decide (fr≥0)) (BR (decide (fr < 4)) (BR (decide (to≥0)) (BR (decide (to < 4)) (BR (decide (fr≥to)) (False) (∀x1,x1=wi (h1 - h0)→∀x2,x2=wi (z1 - z0)→∀x3,x3=wi (x1 * x1)→∀x4,x4=wi (x2 * x2)→∀x5,x5=wi (x3+x4)→((AE ⟨[.int .i64 x5]⟩)∧(True)∧(0≤x5∧x5≤4000000))∧∀x6:Int,(x6=rt x5)→RK (true) (∀x7,x7=wi (0+x6)→∀x8,x8=wi (h2 - h1)→∀x9,x9=wi (z2 - z1)→∀x10,x10=wi (x8 * x8)→∀x11,x11=wi (x9 * x9)→∀x12,x12=wi (x10+x11)→((AE ⟨[.int .i64 x12]⟩)∧(True)∧(0≤x12∧x12≤4000000))∧∀x13:Int,(x13=rt x12)→RK (true) (∀x14,x14=wi (x7+x13)→∀x15,x15=wi (h3 - h2)→∀x16,x16=wi (z3 - z2)→∀x17,x17=wi (x15 * x15)→∀x18,x18=wi (x16 * x16)→∀x19,x19=wi (x17+x18)→((AE ⟨[.int .i64 x19]⟩)∧(True)∧(0≤x19∧x19≤4000000))∧∀x20:Int,(x20=rt x19)→RK (true) (∀x21,x21=wi (x14+x20)→∀x22,x22=wi (h2 - h1)→∀x23,x23=wi (z2 - z1)→∀x24,x24=wi (x22 * x22)→∀x25,x25=wi (x23 * x23)→∀x26,x26=wi (x24+x25)→((AE ⟨[.int .i64 x26]⟩)∧(True)∧(0≤x26∧x26≤4000000))∧∀x27:Int,(x27=rt x26)→RK (true) (∀x28,x28=wi (0+x27)→∀x29,x29=wi (h3 - h2)→∀x30,x30=wi (z3 - z2)→∀x31,x31=wi (x29 * x29)→∀x32,x32=wi (x30 * x30)→∀x33,x33=wi (x31+x32)→((AE ⟨[.int .i64 x33]⟩)∧(True)∧(0≤x33∧x33≤4000000))∧∀x34:Int,(x34=rt x33)→RK (true) (∀x35,x35=wi (x28+x34)→∀x36,x36=wi (h3 - h2)→∀x37,x37=wi (z3 - z2)→∀x38,x38=wi (x36 * x36)→∀x39,x39=wi (x37 * x37)→∀x40,x40=wi (x38+x39)→((AE ⟨[.int .i64 x40]⟩)∧(True)∧(0≤x40∧x40≤4000000))∧∀x41:Int,(x41=rt x40)→RK (true) (∀x42,x42=wi (0+x41)→RK (((decide (fr=fr) && (decide (to=to) && true)) && true)) (CS ((.agg ⟨[.int .i64 fr,.int .i64 to]⟩:Value) = .agg ⟨[.int .i64 0,.int .i64 1]⟩) (Q (.tuple ⟨[.int .i64 x7,.int .i64 0]⟩)) (CS ((.agg ⟨[.int .i64 fr,.int .i64 to]⟩:Value) = .agg ⟨[.int .i64 0,.int .i64 2]⟩) (Q (.tuple ⟨[.int .i64 x14,.int .i64 0]⟩)) (CS ((.agg ⟨[.int .i64 fr,.int .i64 to]⟩:Value) = .agg ⟨[.int .i64 0,.int .i64 3]⟩) (Q (.tuple ⟨[.int .i64 x21,.int .i64 0]⟩)) (CS ((.agg ⟨[.int .i64 fr,.int .i64 to]⟩:Value) = .agg ⟨[.int .i64 1,.int .i64 2]⟩) (Q (.tuple ⟨[.int .i64 x28,.int .i64 0]⟩)) (CS ((.agg ⟨[.int .i64 fr,.int .i64 to]⟩:Value) = .agg ⟨[.int .i64 1,.int .i64 3]⟩) (Q (.tuple ⟨[.int .i64 x35,.int .i64 0]⟩)) (CS ((.agg ⟨[.int .i64 fr,.int .i64 to]⟩:Value) = .agg ⟨[.int .i64 2,.int .i64 3]⟩) (Q (.tuple ⟨[.int .i64 x42,.int .i64 0]⟩)) (False))))))))))))))) (False)) (False)) (False)) (False))) (False)) (False)) (False)) (False)) (False)) (False)) (False)) (False)))):=by
 rintro _ rfl _ rfl
 kernel_rfl
theorem Tryz.gi4(hv:Pts [(h0,l0,u0),(h1,l1,u1),(h2,l2,u2),(h3,l3,u3)])(hb:0≤fr∧fr < to∧to≤3∧0≤z0∧z0≤959∧0≤z1∧z1≤959∧0≤z2∧z2≤959∧0≤z3∧z3≤959)(hc:∀c∈([⟨87,fun _ _=>[],4,fun _=>L4 (pc4 h0 l0 u0 h1 l1 u1 h2 l2 u2 h3 l3 u3) tc sc kc,fun _=>⟨[(bv 4 plank cp ot nt ct os ns cs)]⟩,fun _=>True,fun _ x=>x=0,fun x=>.int .i64 x⟩,⟨42,fun a _=>[parOf a 0],0,fun _=>[],fun ps=>⟨[.int .i64 (ps.headD 0)]⟩,fun ps=>0≤ps.headD 0∧ps.headD 0≤4000000,fun ps x=>x=rt (ps.headD 0),fun x=>.int .i64 x⟩]:List Ct),CtOk Tryz.prog c):Rets Tryz.prog (fun v _=>∃x:Int,x=gs [(h0,z0),(h1,z1),(h2,z2),(h3,z3)] fr to∧v = .tuple ⟨[.int .i64 x,.int .i64 0]⟩) ⟨AFr.enter Tryz.prog 8 ⟨[(bv 4 plank cp ot nt ct os ns cs),.slice (some ⟨19,0,none⟩) 4 4,.int .i64 fr,.int .i64 to]⟩,[],hOf 20 ((19,⟨.cells ⟨[.int .i64 z0,.int .i64 z1,.int .i64 z2,.int .i64 z3]⟩ 3 (0,0),some 10,false,1⟩) :: L4 (pc4 h0 l0 u0 h1 l1 u1 h2 l2 u2 h3 l3 u3) tc sc kc)⟩:=by
 refine txR_use (Tryz.ok hc) (Tryz.gi4_t _ _ _ rfl _ rfl) ?_
 simp only [Pts,PtsF,and_true] at hv
 refine ⟨⟨rfl,E4i,trivial⟩,fun x0 _=>⟨rfl,?_⟩⟩
 refine BR.nr (by omega) ?_
 iterate 18 (first|refine BR.rr ?_|refine BR.ll ?_|refine va fun _ _=>?_|refine vsq (by omega) (by omega) fun _ _ _ _=>?_|refine ⟨by simp,?_⟩)
 refine va fun x5 _=>?_
 refine ⟨⟨rfl,trivial,by omega⟩,fun x6 yR=>⟨rfl,?_⟩⟩
 obtain ⟨_,_⟩:=rt_bd (n:=x5) (by omega) (by omega) yR
 iterate 5 (first|refine va fun _ _=>?_|refine vsq (by omega) (by omega) fun _ _ _ _=>?_)
 refine va fun x12 _=>?_
 refine ⟨⟨rfl,trivial,by omega⟩,fun x13 yR=>⟨rfl,?_⟩⟩
 obtain ⟨_,_⟩:=rt_bd (n:=x12) (by omega) (by omega) yR
 iterate 5 (first|refine va fun _ _=>?_|refine vsq (by omega) (by omega) fun _ _ _ _=>?_)
 refine va fun x19 _=>?_
 refine ⟨⟨rfl,trivial,by omega⟩,fun x20 yR=>⟨rfl,?_⟩⟩
 obtain ⟨_,_⟩:=rt_bd (n:=x19) (by omega) (by omega) yR
 iterate 5 (first|refine va fun _ _=>?_|refine vsq (by omega) (by omega) fun _ _ _ _=>?_)
 refine va fun x26 _=>?_
 refine ⟨⟨rfl,trivial,by omega⟩,fun x27 yR=>⟨rfl,?_⟩⟩
 obtain ⟨_,_⟩:=rt_bd (n:=x26) (by omega) (by omega) yR
 iterate 5 (first|refine va fun _ _=>?_|refine vsq (by omega) (by omega) fun _ _ _ _=>?_)
 refine va fun x33 _=>?_
 refine ⟨⟨rfl,trivial,by omega⟩,fun x34 yR=>⟨rfl,?_⟩⟩
 obtain ⟨_,_⟩:=rt_bd (n:=x33) (by omega) (by omega) yR
 iterate 5 (first|refine va fun _ _=>?_|refine vsq (by omega) (by omega) fun _ _ _ _=>?_)
 refine va fun x40 _=>?_
 refine ⟨⟨rfl,trivial,by omega⟩,fun x41 yR=>⟨rfl,?_⟩⟩
 obtain ⟨_,_⟩:=rt_bd (n:=x40) (by omega) (by omega) yR
 refine va fun x42 _=>?_
 refine ⟨by simp,?_⟩
 refine CS.i2 (fun _ _=>?_) (fun _=>?_)
 ·
  exact lfr (by subst_vars;simp [gs,sg]<;>omega)
 refine CS.i2 (fun _ _=>?_) (fun _=>?_)
 ·
  exact lfr (by subst_vars;simp [gs,sg]<;>omega)
 refine CS.i2 (fun _ _=>?_) (fun _=>?_)
 ·
  exact lfr (by subst_vars;simp [gs,sg]<;>omega)
 refine CS.i2 (fun _ _=>?_) (fun _=>?_)
 ·
  exact lfr (by subst_vars;simp [gs,sg]<;>omega)
 refine CS.i2 (fun _ _=>?_) (fun _=>?_)
 ·
  exact lfr (by subst_vars;simp [gs,sg]<;>omega)
 refine CS.l2 (by omega) (by omega) ?_
 exact lfr (by subst_vars;simp [gs,sg]<;>omega)
end
section
variable{h0 l0 u0 h1 l1 u1 h2 l2 u2 h3 l3 u3 h4 l4 u4 z0 z1 z2 z3 z4 fr to plank:Int}{cp nt ct ns cs:Nat}{tc sc kc:Array Value}{ot os:Option Addr}
theorem Tryz.gi5_t(Q:Value→Prop)(K:AS→Prop):∀v0:Array Value,v0=(pc5 h0 l0 u0 h1 l1 u1 h2 l2 u2 h3 l3 u3 h4 l4 u4)→∀v1:Value,v1=(bv 5 plank cp ot nt ct os ns cs)→tx (Tryz.X [⟨87,fun _ _=>[],4,fun _=>L4 v0 tc sc kc,fun _=>⟨[v1]⟩,fun _=>True,fun _ x=>x=0,fun x=>.int .i64 x⟩,⟨42,fun a _=>[parOf a 0],0,fun _=>[],fun ps=>⟨[.int .i64 (ps.headD 0)]⟩,fun ps=>0≤ps.headD 0∧ps.headD 0≤4000000,fun ps x=>x=rt (ps.headD 0),fun x=>.int .i64 x⟩]) Q K (.call 6 5 (.br 1 4 13 .no (.br 24 6 8 (.br 0 5 13 (.br 17 6 8 (.br 0 5 13 (.br 17 6 8 (.br 0 5 13 (.br 17 6 8 (.br 0 5 13 (.br 17 6 8 (.br 0 5 13 (.rk 34 0 (.br 23 4 6 (.br 0 4 10 (.br 5 4 6 (.br 0 4 10 (.br 15 9 9 .no (.val 37 16 23 (.val 0 8 31 (.val 4 6 39 (.val 0 3 42 (.val 0 1 43 (.call 0 0 (.val 0 1 45 (.val 10 16 23 (.val 0 8 31 (.val 4 6 39 (.val 0 3 42 (.val 0 1 43 (.call 0 0 (.val 0 1 45 (.val 10 16 23 (.val 0 8 31 (.val 4 6 39 (.val 0 3 42 (.val 0 1 43 (.call 0 0 (.val 0 1 45 (.val 10 16 23 (.val 0 8 31 (.val 4 6 39 (.val 0 3 42 (.val 0 1 43 (.call 0 0 (.val 0 1 45 (.val 19 16 23 (.val 0 8 31 (.val 4 6 39 (.val 0 3 42 (.val 0 1 43 (.call 0 0 (.val 0 1 45 (.val 10 16 23 (.val 0 8 31 (.val 4 6 39 (.val 0 3 42 (.val 0 1 43 (.call 0 0 (.val 0 1 45 (.val 10 16 23 (.val 0 8 31 (.val 4 6 39 (.val 0 3 42 (.val 0 1 43 (.call 0 0 (.val 0 1 45 (.val 19 16 23 (.val 0 8 31 (.val 4 6 39 (.val 0 3 42 (.val 0 1 43 (.call 0 0 (.val 0 1 45 (.val 10 16 23 (.val 0 8 31 (.val 4 6 39 (.val 0 3 42 (.val 0 1 43 (.call 0 0 (.val 0 1 45 (.val 19 16 23 (.val 0 8 31 (.val 4 6 39 (.val 0 3 42 (.val 0 1 43 (.call 0 0 (.val 0 1 45 (.rk 21 0 (.cas 0 0 10 (.agg ⟨[.int .i64 0,.int .i64 1]⟩) (.ret 6 1) (.cas 0 0 10 (.agg ⟨[.int .i64 0,.int .i64 2]⟩) (.ret 6 1) (.cas 0 0 10 (.agg ⟨[.int .i64 0,.int .i64 3]⟩) (.ret 6 1) (.cas 0 0 10 (.agg ⟨[.int .i64 0,.int .i64 4]⟩) (.ret 6 1) (.cas 0 0 10 (.agg ⟨[.int .i64 1,.int .i64 2]⟩) (.ret 6 1) (.cas 0 0 10 (.agg ⟨[.int .i64 1,.int .i64 3]⟩) (.ret 6 1) (.cas 0 0 10 (.agg ⟨[.int .i64 1,.int .i64 4]⟩) (.ret 6 1) (.cas 0 0 10 (.agg ⟨[.int .i64 2,.int .i64 3]⟩) (.ret 6 1) (.cas 0 0 10 (.agg ⟨[.int .i64 2,.int .i64 4]⟩) (.ret 6 1) (.cas 0 0 10 (.agg ⟨[.int .i64 3,.int .i64 4]⟩) (.ret 6 1) .no)))))))))))))))))))))))))))))))))))))))))))))))))))))))))))))))))))))))))))))))))) .no) .no) .no) .no)) .no) .no) .no) .no) .no) .no) .no) .no) .no) .no))) ⟨AFr.enter Tryz.prog 8 ⟨[v1,.slice (some ⟨22,0,none⟩) 5 5,.int .i64 fr,.int .i64 to]⟩,[],hOf 23 ((22,⟨.cells ⟨[.int .i64 z0,.int .i64 z1,.int .i64 z2,.int .i64 z3,.int .i64 z4]⟩ 3 (0,0),some 10,false,1⟩) :: L4 v0 tc sc kc)⟩=(((AE ⟨[v1]⟩)∧(E4 v0 tc sc kc)∧True)∧∀x0:Int,(x0=0)→RK (true) (BR (!decide (x0=0)) (False) (BR (decide (0≤z0)) (BR (decide (z0≤959)) (BR (decide (0≤z1)) (BR (decide (z1≤959)) (BR (decide (0≤z2)) (BR (decide (z2≤959)) (BR (decide (0≤z3)) (BR (decide (z3≤959)) (BR (decide (0≤z4)) (BR (decide (z4≤959)) (RK (((decide (plank=plank) && (decide (cp=cp) && (((decide (ot=ot) && decide (nt=nt)) && decide (ct=ct)) && (((decide (os=os) && decide (ns=ns)) && decide (cs=cs)) && true)))) && true)) (BR (decide (fr≥0)) (BR (decide (fr < 5)) (BR (decide (to≥0)) (BR (decide (to < 5)) (BR (decide (fr≥to)) (False) (∀x1,x1=wi (h1 - h0)→∀x2,x2=wi (z1 - z0)→∀x3,x3=wi (x1 * x1)→∀x4,x4=wi (x2 * x2)→∀x5,x5=wi (x3+x4)→((AE ⟨[.int .i64 x5]⟩)∧(True)∧(0≤x5∧x5≤4000000))∧∀x6:Int,(x6=rt x5)→RK (true) (∀x7,x7=wi (0+x6)→∀x8,x8=wi (h2 - h1)→∀x9,x9=wi (z2 - z1)→∀x10,x10=wi (x8 * x8)→∀x11,x11=wi (x9 * x9)→∀x12,x12=wi (x10+x11)→((AE ⟨[.int .i64 x12]⟩)∧(True)∧(0≤x12∧x12≤4000000))∧∀x13:Int,(x13=rt x12)→RK (true) (∀x14,x14=wi (x7+x13)→∀x15,x15=wi (h3 - h2)→∀x16,x16=wi (z3 - z2)→∀x17,x17=wi (x15 * x15)→∀x18,x18=wi (x16 * x16)→∀x19,x19=wi (x17+x18)→((AE ⟨[.int .i64 x19]⟩)∧(True)∧(0≤x19∧x19≤4000000))∧∀x20:Int,(x20=rt x19)→RK (true) (∀x21,x21=wi (x14+x20)→∀x22,x22=wi (h4 - h3)→∀x23,x23=wi (z4 - z3)→∀x24,x24=wi (x22 * x22)→∀x25,x25=wi (x23 * x23)→∀x26,x26=wi (x24+x25)→((AE ⟨[.int .i64 x26]⟩)∧(True)∧(0≤x26∧x26≤4000000))∧∀x27:Int,(x27=rt x26)→RK (true) (∀x28,x28=wi (x21+x27)→∀x29,x29=wi (h2 - h1)→∀x30,x30=wi (z2 - z1)→∀x31,x31=wi (x29 * x29)→∀x32,x32=wi (x30 * x30)→∀x33,x33=wi (x31+x32)→((AE ⟨[.int .i64 x33]⟩)∧(True)∧(0≤x33∧x33≤4000000))∧∀x34:Int,(x34=rt x33)→RK (true) (∀x35,x35=wi (0+x34)→∀x36,x36=wi (h3 - h2)→∀x37,x37=wi (z3 - z2)→∀x38,x38=wi (x36 * x36)→∀x39,x39=wi (x37 * x37)→∀x40,x40=wi (x38+x39)→((AE ⟨[.int .i64 x40]⟩)∧(True)∧(0≤x40∧x40≤4000000))∧∀x41:Int,(x41=rt x40)→RK (true) (∀x42,x42=wi (x35+x41)→∀x43,x43=wi (h4 - h3)→∀x44,x44=wi (z4 - z3)→∀x45,x45=wi (x43 * x43)→∀x46,x46=wi (x44 * x44)→∀x47,x47=wi (x45+x46)→((AE ⟨[.int .i64 x47]⟩)∧(True)∧(0≤x47∧x47≤4000000))∧∀x48:Int,(x48=rt x47)→RK (true) (∀x49,x49=wi (x42+x48)→∀x50,x50=wi (h3 - h2)→∀x51,x51=wi (z3 - z2)→∀x52,x52=wi (x50 * x50)→∀x53,x53=wi (x51 * x51)→∀x54,x54=wi (x52+x53)→((AE ⟨[.int .i64 x54]⟩)∧(True)∧(0≤x54∧x54≤4000000))∧∀x55:Int,(x55=rt x54)→RK (true) (∀x56,x56=wi (0+x55)→∀x57,x57=wi (h4 - h3)→∀x58,x58=wi (z4 - z3)→∀x59,x59=wi (x57 * x57)→∀x60,x60=wi (x58 * x58)→∀x61,x61=wi (x59+x60)→((AE ⟨[.int .i64 x61]⟩)∧(True)∧(0≤x61∧x61≤4000000))∧∀x62:Int,(x62=rt x61)→RK (true) (∀x63,x63=wi (x56+x62)→∀x64,x64=wi (h4 - h3)→∀x65,x65=wi (z4 - z3)→∀x66,x66=wi (x64 * x64)→∀x67,x67=wi (x65 * x65)→∀x68,x68=wi (x66+x67)→((AE ⟨[.int .i64 x68]⟩)∧(True)∧(0≤x68∧x68≤4000000))∧∀x69:Int,(x69=rt x68)→RK (true) (∀x70,x70=wi (0+x69)→RK (((decide (fr=fr) && (decide (to=to) && true)) && true)) (CS ((.agg ⟨[.int .i64 fr,.int .i64 to]⟩:Value) = .agg ⟨[.int .i64 0,.int .i64 1]⟩) (Q (.tuple ⟨[.int .i64 x7,.int .i64 0]⟩)) (CS ((.agg ⟨[.int .i64 fr,.int .i64 to]⟩:Value) = .agg ⟨[.int .i64 0,.int .i64 2]⟩) (Q (.tuple ⟨[.int .i64 x14,.int .i64 0]⟩)) (CS ((.agg ⟨[.int .i64 fr,.int .i64 to]⟩:Value) = .agg ⟨[.int .i64 0,.int .i64 3]⟩) (Q (.tuple ⟨[.int .i64 x21,.int .i64 0]⟩)) (CS ((.agg ⟨[.int .i64 fr,.int .i64 to]⟩:Value) = .agg ⟨[.int .i64 0,.int .i64 4]⟩) (Q (.tuple ⟨[.int .i64 x28,.int .i64 0]⟩)) (CS ((.agg ⟨[.int .i64 fr,.int .i64 to]⟩:Value) = .agg ⟨[.int .i64 1,.int .i64 2]⟩) (Q (.tuple ⟨[.int .i64 x35,.int .i64 0]⟩)) (CS ((.agg ⟨[.int .i64 fr,.int .i64 to]⟩:Value) = .agg ⟨[.int .i64 1,.int .i64 3]⟩) (Q (.tuple ⟨[.int .i64 x42,.int .i64 0]⟩)) (CS ((.agg ⟨[.int .i64 fr,.int .i64 to]⟩:Value) = .agg ⟨[.int .i64 1,.int .i64 4]⟩) (Q (.tuple ⟨[.int .i64 x49,.int .i64 0]⟩)) (CS ((.agg ⟨[.int .i64 fr,.int .i64 to]⟩:Value) = .agg ⟨[.int .i64 2,.int .i64 3]⟩) (Q (.tuple ⟨[.int .i64 x56,.int .i64 0]⟩)) (CS ((.agg ⟨[.int .i64 fr,.int .i64 to]⟩:Value) = .agg ⟨[.int .i64 2,.int .i64 4]⟩) (Q (.tuple ⟨[.int .i64 x63,.int .i64 0]⟩)) (CS ((.agg ⟨[.int .i64 fr,.int .i64 to]⟩:Value) = .agg ⟨[.int .i64 3,.int .i64 4]⟩) (Q (.tuple ⟨[.int .i64 x70,.int .i64 0]⟩)) (False))))))))))))))))))))))) (False)) (False)) (False)) (False))) (False)) (False)) (False)) (False)) (False)) (False)) (False)) (False)) (False)) (False)))):=by
 rintro _ rfl _ rfl
 kernel_rfl
set_option maxHeartbeats 4000000 in
theorem Tryz.gi5(hv:Pts [(h0,l0,u0),(h1,l1,u1),(h2,l2,u2),(h3,l3,u3),(h4,l4,u4)])(hb:0≤fr∧fr < to∧to≤4∧0≤z0∧z0≤959∧0≤z1∧z1≤959∧0≤z2∧z2≤959∧0≤z3∧z3≤959∧0≤z4∧z4≤959)(hc:∀c∈([⟨87,fun _ _=>[],4,fun _=>L4 (pc5 h0 l0 u0 h1 l1 u1 h2 l2 u2 h3 l3 u3 h4 l4 u4) tc sc kc,fun _=>⟨[(bv 5 plank cp ot nt ct os ns cs)]⟩,fun _=>True,fun _ x=>x=0,fun x=>.int .i64 x⟩,⟨42,fun a _=>[parOf a 0],0,fun _=>[],fun ps=>⟨[.int .i64 (ps.headD 0)]⟩,fun ps=>0≤ps.headD 0∧ps.headD 0≤4000000,fun ps x=>x=rt (ps.headD 0),fun x=>.int .i64 x⟩]:List Ct),CtOk Tryz.prog c):Rets Tryz.prog (fun v _=>∃x:Int,x=gs [(h0,z0),(h1,z1),(h2,z2),(h3,z3),(h4,z4)] fr to∧v = .tuple ⟨[.int .i64 x,.int .i64 0]⟩) ⟨AFr.enter Tryz.prog 8 ⟨[(bv 5 plank cp ot nt ct os ns cs),.slice (some ⟨22,0,none⟩) 5 5,.int .i64 fr,.int .i64 to]⟩,[],hOf 23 ((22,⟨.cells ⟨[.int .i64 z0,.int .i64 z1,.int .i64 z2,.int .i64 z3,.int .i64 z4]⟩ 3 (0,0),some 10,false,1⟩) :: L4 (pc5 h0 l0 u0 h1 l1 u1 h2 l2 u2 h3 l3 u3 h4 l4 u4) tc sc kc)⟩:=by
 refine txR_use (Tryz.ok hc) (Tryz.gi5_t _ _ _ rfl _ rfl) ?_
 simp only [Pts,PtsF,and_true] at hv
 refine ⟨⟨rfl,E4i,trivial⟩,fun x0 _=>⟨rfl,?_⟩⟩
 refine BR.nr (by omega) ?_
 iterate 20 (first|refine BR.rr ?_|refine BR.ll ?_|refine va fun _ _=>?_|refine vsq (by omega) (by omega) fun _ _ _ _=>?_|refine ⟨by simp,?_⟩)
 refine va fun x5 _=>?_
 refine ⟨⟨rfl,trivial,by omega⟩,fun x6 yR=>⟨rfl,?_⟩⟩
 obtain ⟨_,_⟩:=rt_bd (n:=x5) (by omega) (by omega) yR
 iterate 5 (first|refine va fun _ _=>?_|refine vsq (by omega) (by omega) fun _ _ _ _=>?_)
 refine va fun x12 _=>?_
 refine ⟨⟨rfl,trivial,by omega⟩,fun x13 yR=>⟨rfl,?_⟩⟩
 obtain ⟨_,_⟩:=rt_bd (n:=x12) (by omega) (by omega) yR
 iterate 5 (first|refine va fun _ _=>?_|refine vsq (by omega) (by omega) fun _ _ _ _=>?_)
 refine va fun x19 _=>?_
 refine ⟨⟨rfl,trivial,by omega⟩,fun x20 yR=>⟨rfl,?_⟩⟩
 obtain ⟨_,_⟩:=rt_bd (n:=x19) (by omega) (by omega) yR
 iterate 5 (first|refine va fun _ _=>?_|refine vsq (by omega) (by omega) fun _ _ _ _=>?_)
 refine va fun x26 _=>?_
 refine ⟨⟨rfl,trivial,by omega⟩,fun x27 yR=>⟨rfl,?_⟩⟩
 obtain ⟨_,_⟩:=rt_bd (n:=x26) (by omega) (by omega) yR
 iterate 5 (first|refine va fun _ _=>?_|refine vsq (by omega) (by omega) fun _ _ _ _=>?_)
 refine va fun x33 _=>?_
 refine ⟨⟨rfl,trivial,by omega⟩,fun x34 yR=>⟨rfl,?_⟩⟩
 obtain ⟨_,_⟩:=rt_bd (n:=x33) (by omega) (by omega) yR
 iterate 5 (first|refine va fun _ _=>?_|refine vsq (by omega) (by omega) fun _ _ _ _=>?_)
 refine va fun x40 _=>?_
 refine ⟨⟨rfl,trivial,by omega⟩,fun x41 yR=>⟨rfl,?_⟩⟩
 obtain ⟨_,_⟩:=rt_bd (n:=x40) (by omega) (by omega) yR
 iterate 5 (first|refine va fun _ _=>?_|refine vsq (by omega) (by omega) fun _ _ _ _=>?_)
 refine va fun x47 _=>?_
 refine ⟨⟨rfl,trivial,by omega⟩,fun x48 yR=>⟨rfl,?_⟩⟩
 obtain ⟨_,_⟩:=rt_bd (n:=x47) (by omega) (by omega) yR
 iterate 5 (first|refine va fun _ _=>?_|refine vsq (by omega) (by omega) fun _ _ _ _=>?_)
 refine va fun x54 _=>?_
 refine ⟨⟨rfl,trivial,by omega⟩,fun x55 yR=>⟨rfl,?_⟩⟩
 obtain ⟨_,_⟩:=rt_bd (n:=x54) (by omega) (by omega) yR
 iterate 5 (first|refine va fun _ _=>?_|refine vsq (by omega) (by omega) fun _ _ _ _=>?_)
 refine va fun x61 _=>?_
 refine ⟨⟨rfl,trivial,by omega⟩,fun x62 yR=>⟨rfl,?_⟩⟩
 obtain ⟨_,_⟩:=rt_bd (n:=x61) (by omega) (by omega) yR
 iterate 5 (first|refine va fun _ _=>?_|refine vsq (by omega) (by omega) fun _ _ _ _=>?_)
 refine va fun x68 _=>?_
 refine ⟨⟨rfl,trivial,by omega⟩,fun x69 yR=>⟨rfl,?_⟩⟩
 obtain ⟨_,_⟩:=rt_bd (n:=x68) (by omega) (by omega) yR
 refine va fun x70 _=>?_
 refine ⟨by simp,?_⟩
 refine CS.i2 (fun _ _=>?_) (fun _=>?_)
 ·
  exact lfr (by subst_vars;simp [gs,sg]<;>omega)
 refine CS.i2 (fun _ _=>?_) (fun _=>?_)
 ·
  exact lfr (by subst_vars;simp [gs,sg]<;>omega)
 refine CS.i2 (fun _ _=>?_) (fun _=>?_)
 ·
  exact lfr (by subst_vars;simp [gs,sg]<;>omega)
 refine CS.i2 (fun _ _=>?_) (fun _=>?_)
 ·
  exact lfr (by subst_vars;simp [gs,sg]<;>omega)
 refine CS.i2 (fun _ _=>?_) (fun _=>?_)
 ·
  exact lfr (by subst_vars;simp [gs,sg]<;>omega)
 refine CS.i2 (fun _ _=>?_) (fun _=>?_)
 ·
  exact lfr (by subst_vars;simp [gs,sg]<;>omega)
 refine CS.i2 (fun _ _=>?_) (fun _=>?_)
 ·
  exact lfr (by subst_vars;simp [gs,sg]<;>omega)
 refine CS.i2 (fun _ _=>?_) (fun _=>?_)
 ·
  exact lfr (by subst_vars;simp [gs,sg]<;>omega)
 refine CS.i2 (fun _ _=>?_) (fun _=>?_)
 ·
  exact lfr (by subst_vars;simp [gs,sg]<;>omega)
 refine CS.l2 (by omega) (by omega) ?_
 exact lfr (by subst_vars;simp [gs,sg]<;>omega)
end
end Go.Am
namespace Go.Am
open Go.Proofs
def giP2:List Int→Prop
 | [fr,to,z0,z1]=>0≤fr∧fr < to∧to≤1∧0≤z0∧z0≤959∧0≤z1∧z1≤959
 | _=>False
def giR2(h0 h1:Int):List Int→Int→Prop
 | [fr,to,z0,z1],x=>x=gs [(h0,z0),(h1,z1)] fr to
 | _,_=>False
noncomputable def giC2(h0 l0 u0 h1 l1 u1 plank:Int)(cp nt ct ns cs:Nat)(tc sc kc:Array Value)(ot os:Option Addr):Ct:=⟨8,fun a h=>parOf a 2 :: parOf a 3 :: intsAt h (nth a.toList 1),14,fun ps=>(13,⟨.cells ⟨(ps.drop 2).map fun n=>.int .i64 n⟩ 3 (0,0),some 10,false,1⟩) :: L4 (pc2 h0 l0 u0 h1 l1 u1) tc sc kc,fun ps=>⟨[(bv 2 plank cp ot nt ct os ns cs),.slice (some ⟨13,0,none⟩) 2 2,.int .i64 (ps.headD 0),.int .i64 (ps.tail.headD 0)]⟩,giP2,giR2 h0 h1,fun x=>.tuple ⟨[.int .i64 x,.int .i64 0]⟩⟩
def giP3:List Int→Prop
 | [fr,to,z0,z1,z2]=>0≤fr∧fr < to∧to≤2∧0≤z0∧z0≤959∧0≤z1∧z1≤959∧0≤z2∧z2≤959
 | _=>False
def giR3(h0 h1 h2:Int):List Int→Int→Prop
 | [fr,to,z0,z1,z2],x=>x=gs [(h0,z0),(h1,z1),(h2,z2)] fr to
 | _,_=>False
noncomputable def giC3(h0 l0 u0 h1 l1 u1 h2 l2 u2 plank:Int)(cp nt ct ns cs:Nat)(tc sc kc:Array Value)(ot os:Option Addr):Ct:=⟨8,fun a h=>parOf a 2 :: parOf a 3 :: intsAt h (nth a.toList 1),17,fun ps=>(16,⟨.cells ⟨(ps.drop 2).map fun n=>.int .i64 n⟩ 3 (0,0),some 10,false,1⟩) :: L4 (pc3 h0 l0 u0 h1 l1 u1 h2 l2 u2) tc sc kc,fun ps=>⟨[(bv 3 plank cp ot nt ct os ns cs),.slice (some ⟨16,0,none⟩) 3 3,.int .i64 (ps.headD 0),.int .i64 (ps.tail.headD 0)]⟩,giP3,giR3 h0 h1 h2,fun x=>.tuple ⟨[.int .i64 x,.int .i64 0]⟩⟩
def giP4:List Int→Prop
 | [fr,to,z0,z1,z2,z3]=>0≤fr∧fr < to∧to≤3∧0≤z0∧z0≤959∧0≤z1∧z1≤959∧0≤z2∧z2≤959∧0≤z3∧z3≤959
 | _=>False
def giR4(h0 h1 h2 h3:Int):List Int→Int→Prop
 | [fr,to,z0,z1,z2,z3],x=>x=gs [(h0,z0),(h1,z1),(h2,z2),(h3,z3)] fr to
 | _,_=>False
noncomputable def giC4(h0 l0 u0 h1 l1 u1 h2 l2 u2 h3 l3 u3 plank:Int)(cp nt ct ns cs:Nat)(tc sc kc:Array Value)(ot os:Option Addr):Ct:=⟨8,fun a h=>parOf a 2 :: parOf a 3 :: intsAt h (nth a.toList 1),20,fun ps=>(19,⟨.cells ⟨(ps.drop 2).map fun n=>.int .i64 n⟩ 3 (0,0),some 10,false,1⟩) :: L4 (pc4 h0 l0 u0 h1 l1 u1 h2 l2 u2 h3 l3 u3) tc sc kc,fun ps=>⟨[(bv 4 plank cp ot nt ct os ns cs),.slice (some ⟨19,0,none⟩) 4 4,.int .i64 (ps.headD 0),.int .i64 (ps.tail.headD 0)]⟩,giP4,giR4 h0 h1 h2 h3,fun x=>.tuple ⟨[.int .i64 x,.int .i64 0]⟩⟩
def giP5:List Int→Prop
 | [fr,to,z0,z1,z2,z3,z4]=>0≤fr∧fr < to∧to≤4∧0≤z0∧z0≤959∧0≤z1∧z1≤959∧0≤z2∧z2≤959∧0≤z3∧z3≤959∧0≤z4∧z4≤959
 | _=>False
def giR5(h0 h1 h2 h3 h4:Int):List Int→Int→Prop
 | [fr,to,z0,z1,z2,z3,z4],x=>x=gs [(h0,z0),(h1,z1),(h2,z2),(h3,z3),(h4,z4)] fr to
 | _,_=>False
noncomputable def giC5(h0 l0 u0 h1 l1 u1 h2 l2 u2 h3 l3 u3 h4 l4 u4 plank:Int)(cp nt ct ns cs:Nat)(tc sc kc:Array Value)(ot os:Option Addr):Ct:=⟨8,fun a h=>parOf a 2 :: parOf a 3 :: intsAt h (nth a.toList 1),23,fun ps=>(22,⟨.cells ⟨(ps.drop 2).map fun n=>.int .i64 n⟩ 3 (0,0),some 10,false,1⟩) :: L4 (pc5 h0 l0 u0 h1 l1 u1 h2 l2 u2 h3 l3 u3 h4 l4 u4) tc sc kc,fun ps=>⟨[(bv 5 plank cp ot nt ct os ns cs),.slice (some ⟨22,0,none⟩) 5 5,.int .i64 (ps.headD 0),.int .i64 (ps.tail.headD 0)]⟩,giP5,giR5 h0 h1 h2 h3 h4,fun x=>.tuple ⟨[.int .i64 x,.int .i64 0]⟩⟩
section
variable{plank h0 l0 u0 h1 l1 u1 two mid:Int}{cp nt ct ns cs nk ck:Nat}{tc sc kc:Array Value}{ot os ok:Option Addr}{V:Prop}
theorem Tryz.root2_t:∀v0:Array Value,v0=(pc2 h0 l0 u0 h1 l1 u1)→∀v1:Value,v1=(bv 2 plank cp ot nt ct os ns cs)→tx (Tryz.X [⟨10,fun _ _=>[],4,fun _=>L4 v0 tc sc kc,fun _=>⟨[v1]⟩,fun _=>True,fun _ x=>(x=0→V),fun x=>.int .i64 x⟩,⟨33,fun a _=>[parOf a 1],4,fun _=>L4 v0 tc sc kc,fun ps=>⟨[.slice ok nk ck,.int .i64 (ps.headD 0)]⟩,fun _=>True,fun _ x=>(0≤x∧x≤65535),fun x=>.int .i64 x⟩,giC2 h0 l0 u0 h1 l1 u1 plank cp nt ct ns cs tc sc kc ot os]) (fun _=>False) (fun s=>chkB (Tryz.X []) 3 5 s=true) (.val 5 10 10 (.br 0 1 11 (.cut 7 3) (.val 0 5 16 (.br 0 1 17 (.cut 7 3) (.call 3 3 (.br 0 1 9 (.call 14 9 (.val 4 8 12 (.val 0 1 13 (.ov 0 0 (.val 0 0 14 (.val 0 1 15 (.rk 2 1 (.call 8 9 (.val 4 8 12 (.val 0 1 13 (.ov 0 0 (.val 0 0 14 (.val 0 1 15 (.rk 2 1 (.val 11 4 8 (.ov 0 4 (.val 0 0 13 (.spl 0 0 13 0 h27t1 .no)))))))))))))))))) (.cut 4 3))))))) ⟨AFr.enter Tryz.prog 3 ⟨[v1,.slice ok nk ck,.int .u8 two,.int .u8 mid]⟩,[],hOf 4 (L4 v0 tc sc kc)⟩=(∀x0,x0=((nt:Nat):Int)→BR (decide (x0 > 20)) ((true=true)) (∀x1,x1=((ns:Nat):Int)→BR (decide (x1 > 20)) ((true=true)) (((AE ⟨[v1]⟩)∧(E4 v0 tc sc kc)∧True)∧∀x2:Int,(x2=0→V)→RK (true) (BR (decide (x2=0)) (((AE ⟨[.slice ok nk ck,.int .i64 0]⟩)∧(E4 v0 tc sc kc)∧True)∧∀x3:Int,(0≤x3∧x3≤65535)→RK ((decide (cp=cp) && ((decide (l0=l0) && (decide (u0=u0) && true)) && true))) (∀x4,x4=wi (u0 - l0)→∀x5,x5=wi (x4+1)→((x5:Int)≠0)∧∀x6,x6=Int.tmod x3 x5→∀x7,x7=wi (l0+x6)→RK (((decide (x7=x7) && true) && true)) (((AE ⟨[.slice ok nk ck,.int .i64 1]⟩)∧(E4 v0 tc sc kc)∧True)∧∀x8:Int,(0≤x8∧x8≤65535)→RK ((decide (cp=cp) && ((decide (l1=l1) && (decide (u1=u1) && true)) && true))) (∀x9,x9=wi (u1 - l1)→∀x10,x10=wi (x9+1)→((x10:Int)≠0)∧∀x11,x11=Int.tmod x8 x10→∀x12,x12=wi (l1+x11)→RK (((decide (x12=x12) && true) && true)) (∀x13,x13=wi two→((1:Int)≠0)∧∀x14,x14=Int.tmod x13 1→SP x14 0 (∀x15,x15=wi two→((8:Int)≠0)∧∀x16,x16=wi (Int.tdiv x15 8)→((1:Int)≠0)∧∀x17,x17=Int.tmod x16 1→SP x17 0 (((AE ⟨[v1,.slice (some ⟨13,0,none⟩) 2 2,.int .i64 0,.int .i64 1]⟩)∧(BE (⟨.cells ⟨[.int .i64 x7,.int .i64 x12]⟩ 3 (0,0),(some 10),false,1⟩:Blk)∧E4 v0 tc sc kc)∧((0:Int)≤0∧(0:Int) < 1∧(1:Int)≤1∧0≤x7∧x7≤959∧0≤x12∧x12≤959))∧∀x18:Int,(x18=gs [(h0,x7),(h1,x12)] 0 1)→RK (true) (∀x19,x19=wi (h1 - h0)→∀x20,x20=wi (x12 - x7)→∀x21,x21=wi (x7 - x12)→∀x22,x22=(if x21 > x20 then x21 else x20)→∀x23,x23=wi (x19+x22)→BR (decide (x18 > x23)) (False) (BR (decide (x18 < x19)) (False) (∀x24,x24=wi (x12 - x7)→∀x25,x25=wi (x7 - x12)→∀x26,x26=(if x25 > x24 then x25 else x24)→BR (decide (x18 < x26)) (False) (∀x27,x27=wi mid→((2:Int)≠0)∧∀x28,x28=Int.tmod x27 2→∀x29,x29=wi (0+x28)→BR (decide (x29=0)) ((true=true)) (BR (decide (x29=1)) ((true=true)) (False))))))) (False)) (False)))))) ((true=true)))))):=by
 rintro _ rfl _ rfl
 kernel_rfl
set_option maxHeartbeats 4000000 in
theorem Tryz.root2(hV:V→Pts [(h0,l0,u0),(h1,l1,u1)])(hn:0≤two∧two≤255∧0≤mid∧mid≤255)(hc:∀c∈([⟨10,fun _ _=>[],4,fun _=>L4 (pc2 h0 l0 u0 h1 l1 u1) tc sc kc,fun _=>⟨[(bv 2 plank cp ot nt ct os ns cs)]⟩,fun _=>True,fun _ x=>(x=0→V),fun x=>.int .i64 x⟩,⟨33,fun a _=>[parOf a 1],4,fun _=>L4 (pc2 h0 l0 u0 h1 l1 u1) tc sc kc,fun ps=>⟨[.slice ok nk ck,.int .i64 (ps.headD 0)]⟩,fun _=>True,fun _ x=>(0≤x∧x≤65535),fun x=>.int .i64 x⟩,giC2 h0 l0 u0 h1 l1 u1 plank cp nt ct ns cs tc sc kc ot os]:List Ct),CtOk Tryz.prog c):Runs Tryz.prog (fun s=>chkB (Tryz.X []) 3 5 s=true) ⟨AFr.enter Tryz.prog 3 ⟨[(bv 2 plank cp ot nt ct os ns cs),.slice ok nk ck,.int .u8 two,.int .u8 mid]⟩,[],hOf 4 (L4 (pc2 h0 l0 u0 h1 l1 u1) tc sc kc)⟩:=by
 refine txK_use (Tryz.ok hc) (Tryz.root2_t _ rfl _ rfl) ?_
 intro x0 _
 refine BR.mk (fun _=>?_) (fun _=>?_)
 ·
  exact rfl
 intro x1 _
 refine BR.mk (fun _=>?_) (fun _=>?_)
 ·
  exact rfl
 refine ⟨⟨rfl,E4i,trivial⟩,fun x2 yV=>⟨rfl,?_⟩⟩
 refine BR.mk (fun _=>?_) (fun _=>?_)
 ·
  refine ⟨⟨rfl,E4i,trivial⟩,fun x3 _=>⟨by simp,?_⟩⟩
  have hP:=hV (yV (by omega))
  simp only [Pts,PtsF,and_true] at hP
  iterate 4 (first|refine va fun _ _=>?_|refine vs fun _ _ _=>?_|refine ⟨by omega,?_⟩)
  refine va fun x7 _=>?_
  refine ⟨by simp,?_⟩
  refine ⟨⟨rfl,E4i,trivial⟩,fun x8 _=>⟨by simp,?_⟩⟩
  iterate 4 (first|refine va fun _ _=>?_|refine vs fun _ _ _=>?_|refine ⟨by omega,?_⟩)
  refine va fun x12 _=>?_
  refine ⟨by simp,?_⟩
  refine va fun x13 _=>?_
  refine ⟨by omega,?_⟩
  refine vs fun x14 _ _=>?_
  refine SP.l (by omega) ?_
  iterate 5 (first|refine va fun _ _=>?_|refine vs fun _ _ _=>?_|refine vq (by omega) (by omega) fun _ _ _=>?_|refine ⟨by omega,?_⟩)
  refine SP.l (by omega) ?_
  refine ⟨⟨rfl,⟨⟨rfl,rfl⟩,E4i⟩,by omega⟩,fun x18 yG=>⟨rfl,?_⟩⟩
  have hG:=yG
  have e0:=sg_bd h0 x7 h1 x12 (by omega)
  have hS:=yG
  simp [gs] at hS
  iterate 15 (first|refine BR.rr ?_|refine va fun _ _=>?_|refine vs fun _ _ _=>?_|refine vmx fun _ _=>?_|refine ⟨by omega,?_⟩)
  refine BR.mk (fun _=>?_) (fun _=>?_)
  ·
   exact rfl
  refine BR.ll ?_
  exact rfl
 exact rfl
end
section
variable{plank h0 l0 u0 h1 l1 u1 h2 l2 u2 two mid:Int}{cp nt ct ns cs nk ck:Nat}{tc sc kc:Array Value}{ot os ok:Option Addr}{V:Prop}
theorem Tryz.root3_t:∀v0:Array Value,v0=(pc3 h0 l0 u0 h1 l1 u1 h2 l2 u2)→∀v1:Value,v1=(bv 3 plank cp ot nt ct os ns cs)→∀v2:Prop,v2=(E4 v0 tc sc kc)→tx (Tryz.X [⟨10,fun _ _=>[],4,fun _=>L4 v0 tc sc kc,fun _=>⟨[v1]⟩,fun _=>True,fun _ x=>(x=0→V),fun x=>.int .i64 x⟩,⟨33,fun a _=>[parOf a 1],4,fun _=>L4 v0 tc sc kc,fun ps=>⟨[.slice ok nk ck,.int .i64 (ps.headD 0)]⟩,fun _=>True,fun _ x=>(0≤x∧x≤65535),fun x=>.int .i64 x⟩,giC3 h0 l0 u0 h1 l1 u1 h2 l2 u2 plank cp nt ct ns cs tc sc kc ot os]) (fun _=>False) (fun s=>chkB (Tryz.X []) 3 5 s=true) (.val 5 10 10 (.br 0 1 11 (.cut 7 3) (.val 0 5 16 (.br 0 1 17 (.cut 7 3) (.call 3 3 (.br 0 1 9 (.call 14 9 (.val 4 8 12 (.val 0 1 13 (.ov 0 0 (.val 0 0 14 (.val 0 1 15 (.rk 2 1 (.call 8 9 (.val 4 8 12 (.val 0 1 13 (.ov 0 0 (.val 0 0 14 (.val 0 1 15 (.rk 2 1 (.call 8 9 (.val 4 8 12 (.val 0 1 13 (.ov 0 0 (.val 0 0 14 (.val 0 1 15 (.rk 2 1 (.val 11 4 8 (.ov 0 4 (.val 0 0 13 (.spl 0 0 13 0 h27t1 (.spl 0 0 13 1 (.val 1 4 16 (.ov 0 0 (.val 0 0 17 (.ov 0 1 (.val 0 0 19 (.spl 0 0 19 0 (.call 4 6 (.val 5 13 57 (.val 8 11 75 (.val 0 10 85 (.val 0 1 86 (.val 0 1 87 (.val 8 11 75 (.val 0 10 85 (.val 0 1 86 (.val 0 1 87 (.br 8 3 90 .no (.br 2 2 94 .no (.val 9 2 106 (.val 7 2 115 (.val 0 1 116 (.br 0 1 117 .no (.val 2 5 121 (.ov 0 4 (.val 0 0 126 (.val 0 1 127 (.br 1 6 130 (.cut 1 3) (.br 0 4 134 (.cut 1 3) (.call 2 6 (.call 1 6 (.val 1 12 162 (.br 0 2 164 (.cut 0 2) .no)))))))))))))))))))))))))) (.spl 0 0 19 1 h27t0 .no))))))) .no)))))))))))))))))))))))))) (.cut 4 3))))))) ⟨AFr.enter Tryz.prog 3 ⟨[v1,.slice ok nk ck,.int .u8 two,.int .u8 mid]⟩,[],hOf 4 (L4 v0 tc sc kc)⟩=(∀x0,x0=((nt:Nat):Int)→BR (decide (x0 > 20)) ((true=true)) (∀x1,x1=((ns:Nat):Int)→BR (decide (x1 > 20)) ((true=true)) (((AE ⟨[v1]⟩)∧v2∧True)∧∀x2:Int,(x2=0→V)→RK (true) (BR (decide (x2=0)) (((AE ⟨[.slice ok nk ck,.int .i64 0]⟩)∧v2∧True)∧∀x3:Int,(0≤x3∧x3≤65535)→RK ((decide (cp=cp) && ((decide (l0=l0) && (decide (u0=u0) && true)) && true))) (∀x4,x4=wi (u0 - l0)→∀x5,x5=wi (x4+1)→((x5:Int)≠0)∧∀x6,x6=Int.tmod x3 x5→∀x7,x7=wi (l0+x6)→RK (((decide (x7=x7) && true) && true)) (((AE ⟨[.slice ok nk ck,.int .i64 1]⟩)∧v2∧True)∧∀x8:Int,(0≤x8∧x8≤65535)→RK ((decide (cp=cp) && ((decide (l1=l1) && (decide (u1=u1) && true)) && true))) (∀x9,x9=wi (u1 - l1)→∀x10,x10=wi (x9+1)→((x10:Int)≠0)∧∀x11,x11=Int.tmod x8 x10→∀x12,x12=wi (l1+x11)→RK (((decide (x12=x12) && true) && true)) (((AE ⟨[.slice ok nk ck,.int .i64 2]⟩)∧v2∧True)∧∀x13:Int,(0≤x13∧x13≤65535)→RK ((decide (cp=cp) && ((decide (l2=l2) && (decide (u2=u2) && true)) && true))) (∀x14,x14=wi (u2 - l2)→∀x15,x15=wi (x14+1)→((x15:Int)≠0)∧∀x16,x16=Int.tmod x13 x15→∀x17,x17=wi (l2+x16)→RK (((decide (x17=x17) && true) && true)) (∀x18,x18=wi two→((2:Int)≠0)∧∀x19,x19=Int.tmod x18 2→SP x19 0 (∀x20,x20=wi two→((8:Int)≠0)∧∀x21,x21=wi (Int.tdiv x20 8)→((1:Int)≠0)∧∀x22,x22=Int.tmod x21 1→SP x22 0 (((AE ⟨[v1,.slice (some ⟨16,0,none⟩) 3 3,.int .i64 0,.int .i64 1]⟩)∧(BE (⟨.cells ⟨[.int .i64 x7,.int .i64 x12,.int .i64 x17]⟩ 3 (0,0),(some 10),false,1⟩:Blk)∧E4 v0 tc sc kc)∧((0:Int)≤0∧(0:Int) < 1∧(1:Int)≤2∧0≤x7∧x7≤959∧0≤x12∧x12≤959∧0≤x17∧x17≤959))∧∀x23:Int,(x23=gs [(h0,x7),(h1,x12),(h2,x17)] 0 1)→RK (true) (∀x24,x24=wi (h1 - h0)→∀x25,x25=wi (x12 - x7)→∀x26,x26=wi (x7 - x12)→∀x27,x27=(if x26 > x25 then x26 else x25)→∀x28,x28=wi (x24+x27)→BR (decide (x23 > x28)) (False) (BR (decide (x23 < x24)) (False) (∀x29,x29=wi (x12 - x7)→∀x30,x30=wi (x7 - x12)→∀x31,x31=(if x30 > x29 then x30 else x29)→BR (decide (x23 < x31)) (False) (∀x32,x32=wi mid→((2:Int)≠0)∧∀x33,x33=Int.tmod x32 2→∀x34,x34=wi (0+x33)→BR (decide (x34=0)) ((true=true)) (BR (decide (x34=1)) ((true=true)) (False))))))) (False)) (SP x19 1 (∀x35,x35=wi two→((8:Int)≠0)∧∀x36,x36=wi (Int.tdiv x35 8)→((2:Int)≠0)∧∀x37,x37=Int.tmod x36 2→SP x37 0 (((AE ⟨[v1,.slice (some ⟨16,0,none⟩) 3 3,.int .i64 0,.int .i64 2]⟩)∧(BE (⟨.cells ⟨[.int .i64 x7,.int .i64 x12,.int .i64 x17]⟩ 3 (0,0),(some 10),false,1⟩:Blk)∧E4 v0 tc sc kc)∧((0:Int)≤0∧(0:Int) < 2∧(2:Int)≤2∧0≤x7∧x7≤959∧0≤x12∧x12≤959∧0≤x17∧x17≤959))∧∀x38:Int,(x38=gs [(h0,x7),(h1,x12),(h2,x17)] 0 2)→RK (true) (∀x39,x39=wi (h2 - h0)→∀x40,x40=wi (x12 - x7)→∀x41,x41=wi (x7 - x12)→∀x42,x42=(if x41 > x40 then x41 else x40)→∀x43,x43=wi (x39+x42)→∀x44,x44=wi (x17 - x12)→∀x45,x45=wi (x12 - x17)→∀x46,x46=(if x45 > x44 then x45 else x44)→∀x47,x47=wi (x43+x46)→BR (decide (x38 > x47)) (False) (BR (decide (x38 < x39)) (False) (∀x48,x48=wi (x17 - x7)→∀x49,x49=wi (x7 - x17)→∀x50,x50=(if x49 > x48 then x49 else x48)→BR (decide (x38 < x50)) (False) (∀x51,x51=wi mid→((3:Int)≠0)∧∀x52,x52=Int.tmod x51 3→∀x53,x53=wi (0+x52)→BR (decide (x53=0)) ((true=true)) (BR (decide (x53=2)) ((true=true)) (((AE ⟨[v1,.slice (some ⟨16,0,none⟩) 3 3,.int .i64 0,.int .i64 x53]⟩)∧(BE (⟨.cells ⟨[.int .i64 x7,.int .i64 x12,.int .i64 x17]⟩ 3 (0,0),(some 10),false,1⟩:Blk)∧E4 v0 tc sc kc)∧((0:Int)≤0∧(0:Int) < x53∧(x53:Int)≤2∧0≤x7∧x7≤959∧0≤x12∧x12≤959∧0≤x17∧x17≤959))∧∀x54:Int,(x54=gs [(h0,x7),(h1,x12),(h2,x17)] 0 x53)→RK (true) (((AE ⟨[v1,.slice (some ⟨16,0,none⟩) 3 3,.int .i64 x53,.int .i64 2]⟩)∧(BE (⟨.cells ⟨[.int .i64 x7,.int .i64 x12,.int .i64 x17]⟩ 3 (0,0),(some 10),false,1⟩:Blk)∧E4 v0 tc sc kc)∧((0:Int)≤x53∧(x53:Int) < 2∧(2:Int)≤2∧0≤x7∧x7≤959∧0≤x12∧x12≤959∧0≤x17∧x17≤959))∧∀x55:Int,(x55=gs [(h0,x7),(h1,x12),(h2,x17)] x53 2)→RK (true) (∀x56,x56=wi (x54+x55)→BR (decide (x56=x38)) ((true=true)) (False)))))))))) (SP x37 1 (((AE ⟨[v1,.slice (some ⟨16,0,none⟩) 3 3,.int .i64 1,.int .i64 2]⟩)∧(BE (⟨.cells ⟨[.int .i64 x7,.int .i64 x12,.int .i64 x17]⟩ 3 (0,0),(some 10),false,1⟩:Blk)∧E4 v0 tc sc kc)∧((0:Int)≤1∧(1:Int) < 2∧(2:Int)≤2∧0≤x7∧x7≤959∧0≤x12∧x12≤959∧0≤x17∧x17≤959))∧∀x57:Int,(x57=gs [(h0,x7),(h1,x12),(h2,x17)] 1 2)→RK (true) (∀x58,x58=wi (h2 - h1)→∀x59,x59=wi (x17 - x12)→∀x60,x60=wi (x12 - x17)→∀x61,x61=(if x60 > x59 then x60 else x59)→∀x62,x62=wi (x58+x61)→BR (decide (x57 > x62)) (False) (BR (decide (x57 < x58)) (False) (∀x63,x63=wi (x17 - x12)→∀x64,x64=wi (x12 - x17)→∀x65,x65=(if x64 > x63 then x64 else x63)→BR (decide (x57 < x65)) (False) (∀x66,x66=wi mid→((2:Int)≠0)∧∀x67,x67=Int.tmod x66 2→∀x68,x68=wi (1+x67)→BR (decide (x68=1)) ((true=true)) (BR (decide (x68=2)) ((true=true)) (False))))))) (False))) (False))))))))) ((true=true)))))):=by
 rintro _ rfl _ rfl _ rfl
 kernel_rfl
set_option maxHeartbeats 4000000 in
theorem Tryz.root3(hV:V→Pts [(h0,l0,u0),(h1,l1,u1),(h2,l2,u2)])(hn:0≤two∧two≤255∧0≤mid∧mid≤255)(hc:∀c∈([⟨10,fun _ _=>[],4,fun _=>L4 (pc3 h0 l0 u0 h1 l1 u1 h2 l2 u2) tc sc kc,fun _=>⟨[(bv 3 plank cp ot nt ct os ns cs)]⟩,fun _=>True,fun _ x=>(x=0→V),fun x=>.int .i64 x⟩,⟨33,fun a _=>[parOf a 1],4,fun _=>L4 (pc3 h0 l0 u0 h1 l1 u1 h2 l2 u2) tc sc kc,fun ps=>⟨[.slice ok nk ck,.int .i64 (ps.headD 0)]⟩,fun _=>True,fun _ x=>(0≤x∧x≤65535),fun x=>.int .i64 x⟩,giC3 h0 l0 u0 h1 l1 u1 h2 l2 u2 plank cp nt ct ns cs tc sc kc ot os]:List Ct),CtOk Tryz.prog c):Runs Tryz.prog (fun s=>chkB (Tryz.X []) 3 5 s=true) ⟨AFr.enter Tryz.prog 3 ⟨[(bv 3 plank cp ot nt ct os ns cs),.slice ok nk ck,.int .u8 two,.int .u8 mid]⟩,[],hOf 4 (L4 (pc3 h0 l0 u0 h1 l1 u1 h2 l2 u2) tc sc kc)⟩:=by
 refine txK_use (Tryz.ok hc) (Tryz.root3_t _ rfl _ rfl _ rfl) ?_
 intro x0 _
 refine BR.mk (fun _=>?_) (fun _=>?_)
 ·
  exact rfl
 intro x1 _
 refine BR.mk (fun _=>?_) (fun _=>?_)
 ·
  exact rfl
 refine ⟨⟨rfl,E4i,trivial⟩,fun x2 yV=>⟨rfl,?_⟩⟩
 refine BR.mk (fun _=>?_) (fun _=>?_)
 ·
  refine ⟨⟨rfl,E4i,trivial⟩,fun x3 _=>⟨by simp,?_⟩⟩
  have hP:=hV (yV (by omega))
  simp only [Pts,PtsF,and_true] at hP
  iterate 4 (first|refine va fun _ _=>?_|refine vs fun _ _ _=>?_|refine ⟨by omega,?_⟩)
  refine va fun x7 _=>?_
  refine ⟨by simp,?_⟩
  refine ⟨⟨rfl,E4i,trivial⟩,fun x8 _=>⟨by simp,?_⟩⟩
  iterate 4 (first|refine va fun _ _=>?_|refine vs fun _ _ _=>?_|refine ⟨by omega,?_⟩)
  refine va fun x12 _=>?_
  refine ⟨by simp,?_⟩
  refine ⟨⟨rfl,E4i,trivial⟩,fun x13 _=>⟨by simp,?_⟩⟩
  iterate 4 (first|refine va fun _ _=>?_|refine vs fun _ _ _=>?_|refine ⟨by omega,?_⟩)
  refine va fun x17 _=>?_
  refine ⟨by simp,?_⟩
  refine va fun x18 _=>?_
  refine ⟨by omega,?_⟩
  refine vs fun x19 _ _=>?_
  refine SP.mk (fun _=>?_) (fun _=>?_)
  ·
   iterate 5 (first|refine va fun _ _=>?_|refine vs fun _ _ _=>?_|refine vq (by omega) (by omega) fun _ _ _=>?_|refine ⟨by omega,?_⟩)
   refine SP.l (by omega) ?_
   refine ⟨⟨rfl,⟨⟨rfl,rfl⟩,E4i⟩,by omega⟩,fun x23 yG=>⟨rfl,?_⟩⟩
   have hG:=yG
   have e0:=sg_bd h0 x7 h1 x12 (by omega)
   have hS:=yG
   simp [gs] at hS
   iterate 15 (first|refine BR.rr ?_|refine va fun _ _=>?_|refine vs fun _ _ _=>?_|refine vmx fun _ _=>?_|refine ⟨by omega,?_⟩)
   refine BR.mk (fun _=>?_) (fun _=>?_)
   ·
    exact rfl
   refine BR.ll ?_
   exact rfl
  refine SP.l (by omega) ?_
  iterate 5 (first|refine va fun _ _=>?_|refine vs fun _ _ _=>?_|refine vq (by omega) (by omega) fun _ _ _=>?_|refine ⟨by omega,?_⟩)
  refine SP.mk (fun _=>?_) (fun _=>?_)
  ·
   refine ⟨⟨rfl,⟨⟨rfl,rfl⟩,E4i⟩,by omega⟩,fun x38 yG=>⟨rfl,?_⟩⟩
   have hG:=yG
   have e0:=sg_bd h0 x7 h1 x12 (by omega)
   have e1:=sg_bd h1 x12 h2 x17 (by omega)
   have hS:=yG
   simp [gs] at hS
   iterate 18 (first|refine BR.rr ?_|refine va fun _ _=>?_|refine vs fun _ _ _=>?_|refine vmx fun _ _=>?_|refine ⟨by omega,?_⟩)
   refine va fun x53 _=>?_
   refine BR.mk (fun _=>?_) (fun _=>?_)
   ·
    exact rfl
   refine BR.mk (fun _=>?_) (fun _=>?_)
   ·
    exact rfl
   refine ⟨⟨rfl,⟨⟨rfl,rfl⟩,E4i⟩,by omega⟩,fun x54 yG=>⟨rfl,?_⟩⟩
   refine ⟨⟨rfl,⟨⟨rfl,rfl⟩,E4i⟩,by omega⟩,fun x55 yG=>⟨rfl,?_⟩⟩
   have hA:=gs_add [(h0,x7),(h1,x12),(h2,x17)] 0 x53 2 (by omega) (by omega)
   refine va fun x56 _=>?_
   refine BR.ll ?_
   exact rfl
  refine SP.l (by omega) ?_
  refine ⟨⟨rfl,⟨⟨rfl,rfl⟩,E4i⟩,by omega⟩,fun x57 yG=>⟨rfl,?_⟩⟩
  have hG:=yG
  have e0:=sg_bd h1 x12 h2 x17 (by omega)
  have hS:=yG
  simp [gs] at hS
  iterate 15 (first|refine BR.rr ?_|refine va fun _ _=>?_|refine vs fun _ _ _=>?_|refine vmx fun _ _=>?_|refine ⟨by omega,?_⟩)
  refine BR.mk (fun _=>?_) (fun _=>?_)
  ·
   exact rfl
  refine BR.ll ?_
  exact rfl
 exact rfl
end
end Go.Am
