import Derived.Test.YtghfookpaompmaaGreatH25
set_option linter.unusedVariables false
set_option linter.unusedSectionVars false
set_option linter.unusedSimpArgs false
namespace Go.Am
open Go.Proofs
section
variable{h0 l0 u0 h1 l1 u1:Int}{plank:Int}{tc sc kc:Array Value}{tv sv:Value}{cp:Nat}
abbrev h26t0:HT:=.br 0 4 10 .no (.br 15 8 8 .no (.br 16 6 10 (.br 0 6 16 (.br 0 6 22 (.val 6 11 17 (.br 0 1 18 .no (.br 31 4 6 .no (.br 0 4 10 .no (.br 15 8 8 .no (.br 16 6 10 (.br 0 6 16 (.br 0 6 22 (.val 6 11 17 (.br 0 1 18 .no (.br 31 4 6 .no (.br 0 4 10 .no (.br 15 8 8 .no (.br 16 6 10 (.br 0 6 16 (.br 0 6 22 (.val 6 11 17 (.br 0 1 18 .no (.ret 22 1))) .no) .no) .no)))))) .no) .no) .no)))))) .no) .no) .no))
abbrev h26t1:HT:=.val 2 9 13 (.rk 2 0 (.br 10 4 6 (.br 0 4 10 (.br 5 4 6 (.br 0 4 10 (.br 15 9 9 .no (.br 14 6 10 (.br 0 6 16 (.br 0 6 22 (.rk 29 2 (.val 2 9 13 (.rk 2 0 (.br 10 4 6 (.br 0 4 10 (.br 5 4 6 (.br 0 4 10 (.br 15 9 9 .no (.br 14 6 10 (.br 0 6 16 (.br 0 6 22 (.ret 24 1) .no) .no) .no)) .no) .no) .no) .no)))) .no) .no) .no)) .no) .no) .no) .no))
abbrev h26t2:HT:=.lod 0 1 .i64 (.br 0 1 12 .no (.val 0 9 21 (.val 0 1 22 (.ov 0 0 (.lod 0 1 .i64 (.br 0 1 26 .no (.br 5 4 6 .no (.br 0 4 10 .no (.ov 17 6 (.lod 0 1 .i64 (.br 0 1 12 .no (.val 0 9 21 (.val 0 1 22 (.ov 0 0 (.lod 0 1 .i64 (.br 0 1 26 .no (.br 5 4 6 .no (.br 0 4 10 .no (.ret 22 1)))))))))))))))))))
abbrev h26t3:HT:=.br 0 4 10 .no (.br 15 8 8 .no (.br 16 6 10 (.br 0 6 16 (.br 0 6 22 (.val 6 11 17 (.br 0 1 18 .no (.br 31 4 6 .no h26t0))) .no) .no) .no))
theorem Tryz.pp2_t(Q:Value→Prop)(K:AS→Prop):tx (Tryz.X []) Q K (.br 18 4 6 .no (.br 0 4 10 .no (.br 15 8 8 .no (.br 16 6 10 (.br 0 6 16 (.br 0 6 22 (.val 6 11 17 (.br 0 1 18 .no (.br 31 4 6 .no (.br 0 4 10 .no (.br 15 8 8 .no (.br 16 6 10 (.br 0 6 16 (.br 0 6 22 (.val 6 11 17 (.br 0 1 18 .no (.ret 22 1))) .no) .no) .no)))))) .no) .no) .no)))) ⟨AFr.enter Tryz.prog 129 ⟨[.agg ⟨[.int .i64 plank,.slice (some ⟨0,0,none⟩) 2 cp,tv,sv]⟩]⟩,[],hOf 4 (L4 ⟨[.int .i64 h0,.int .i64 l0,.int .i64 u0,.int .i64 h1,.int .i64 l1,.int .i64 u1]⟩ tc sc kc)⟩=(BR (decide (h0 < 0)) (False) (BR (decide (h0 > 959)) (False) (BR (decide (h0≤(-1))) (False) (BR (decide (0≤l0)) (BR (decide (l0≤u0)) (BR (decide (u0≤959)) (∀x0,x0=wi (u0 - l0)→BR (decide (x0≥3)) (False) (BR (decide (h1 < 0)) (False) (BR (decide (h1 > 959)) (False) (BR (decide (h1≤h0)) (False) (BR (decide (0≤l1)) (BR (decide (l1≤u1)) (BR (decide (u1≤959)) (∀x1,x1=wi (u1 - l1)→BR (decide (x1≥3)) (False) (Q (.int .i64 0))) (False)) (False)) (False)))))) (False)) (False)) (False))))):=by kernel_rfl
theorem Tryz.pp2(hv:Pts [(h0,l0,u0),(h1,l1,u1)]):Rets Tryz.prog (fun v _=>∃x:Int,x=0∧v = .int .i64 x) ⟨AFr.enter Tryz.prog 129 ⟨[.agg ⟨[.int .i64 plank,.slice (some ⟨0,0,none⟩) 2 cp,tv,sv]⟩]⟩,[],hOf 4 (L4 ⟨[.int .i64 h0,.int .i64 l0,.int .i64 u0,.int .i64 h1,.int .i64 l1,.int .i64 u1]⟩ tc sc kc)⟩:=by
 refine txR_use (Tryz.ok noCt) (Tryz.pp2_t _ _) ?_
 simp only [Pts,PtsF,and_true] at hv
 iterate 16 (first|refine BR.rr ?_|refine BR.ll ?_|refine va fun _ _=>?_)
 exact fun _=>⟨_,rfl,rfl⟩
end
section
variable{h0 l0 u0 h1 l1 u1 h2 l2 u2:Int}{plank:Int}{tc sc kc:Array Value}{tv sv:Value}{cp:Nat}
theorem Tryz.pp3_t(Q:Value→Prop)(K:AS→Prop):tx (Tryz.X []) Q K (.br 18 4 6 .no h26t0) ⟨AFr.enter Tryz.prog 129 ⟨[.agg ⟨[.int .i64 plank,.slice (some ⟨0,0,none⟩) 3 cp,tv,sv]⟩]⟩,[],hOf 4 (L4 ⟨[.int .i64 h0,.int .i64 l0,.int .i64 u0,.int .i64 h1,.int .i64 l1,.int .i64 u1,.int .i64 h2,.int .i64 l2,.int .i64 u2]⟩ tc sc kc)⟩=(BR (decide (h0 < 0)) (False) (BR (decide (h0 > 959)) (False) (BR (decide (h0≤(-1))) (False) (BR (decide (0≤l0)) (BR (decide (l0≤u0)) (BR (decide (u0≤959)) (∀x0,x0=wi (u0 - l0)→BR (decide (x0≥3)) (False) (BR (decide (h1 < 0)) (False) (BR (decide (h1 > 959)) (False) (BR (decide (h1≤h0)) (False) (BR (decide (0≤l1)) (BR (decide (l1≤u1)) (BR (decide (u1≤959)) (∀x1,x1=wi (u1 - l1)→BR (decide (x1≥3)) (False) (BR (decide (h2 < 0)) (False) (BR (decide (h2 > 959)) (False) (BR (decide (h2≤h1)) (False) (BR (decide (0≤l2)) (BR (decide (l2≤u2)) (BR (decide (u2≤959)) (∀x2,x2=wi (u2 - l2)→BR (decide (x2≥3)) (False) (Q (.int .i64 0))) (False)) (False)) (False)))))) (False)) (False)) (False)))))) (False)) (False)) (False))))):=by kernel_rfl
theorem Tryz.pp3(hv:Pts [(h0,l0,u0),(h1,l1,u1),(h2,l2,u2)]):Rets Tryz.prog (fun v _=>∃x:Int,x=0∧v = .int .i64 x) ⟨AFr.enter Tryz.prog 129 ⟨[.agg ⟨[.int .i64 plank,.slice (some ⟨0,0,none⟩) 3 cp,tv,sv]⟩]⟩,[],hOf 4 (L4 ⟨[.int .i64 h0,.int .i64 l0,.int .i64 u0,.int .i64 h1,.int .i64 l1,.int .i64 u1,.int .i64 h2,.int .i64 l2,.int .i64 u2]⟩ tc sc kc)⟩:=by
 refine txR_use (Tryz.ok noCt) (Tryz.pp3_t _ _) ?_
 simp only [Pts,PtsF,and_true] at hv
 iterate 24 (first|refine BR.rr ?_|refine BR.ll ?_|refine va fun _ _=>?_)
 exact fun _=>⟨_,rfl,rfl⟩
end
section
variable{h0 l0 u0 h1 l1 u1 h2 l2 u2 h3 l3 u3:Int}{plank:Int}{tc sc kc:Array Value}{tv sv:Value}{cp:Nat}
theorem Tryz.pp4_t(Q:Value→Prop)(K:AS→Prop):tx (Tryz.X []) Q K (.br 18 4 6 .no h26t3) ⟨AFr.enter Tryz.prog 129 ⟨[.agg ⟨[.int .i64 plank,.slice (some ⟨0,0,none⟩) 4 cp,tv,sv]⟩]⟩,[],hOf 4 (L4 ⟨[.int .i64 h0,.int .i64 l0,.int .i64 u0,.int .i64 h1,.int .i64 l1,.int .i64 u1,.int .i64 h2,.int .i64 l2,.int .i64 u2,.int .i64 h3,.int .i64 l3,.int .i64 u3]⟩ tc sc kc)⟩=(BR (decide (h0 < 0)) (False) (BR (decide (h0 > 959)) (False) (BR (decide (h0≤(-1))) (False) (BR (decide (0≤l0)) (BR (decide (l0≤u0)) (BR (decide (u0≤959)) (∀x0,x0=wi (u0 - l0)→BR (decide (x0≥3)) (False) (BR (decide (h1 < 0)) (False) (BR (decide (h1 > 959)) (False) (BR (decide (h1≤h0)) (False) (BR (decide (0≤l1)) (BR (decide (l1≤u1)) (BR (decide (u1≤959)) (∀x1,x1=wi (u1 - l1)→BR (decide (x1≥3)) (False) (BR (decide (h2 < 0)) (False) (BR (decide (h2 > 959)) (False) (BR (decide (h2≤h1)) (False) (BR (decide (0≤l2)) (BR (decide (l2≤u2)) (BR (decide (u2≤959)) (∀x2,x2=wi (u2 - l2)→BR (decide (x2≥3)) (False) (BR (decide (h3 < 0)) (False) (BR (decide (h3 > 959)) (False) (BR (decide (h3≤h2)) (False) (BR (decide (0≤l3)) (BR (decide (l3≤u3)) (BR (decide (u3≤959)) (∀x3,x3=wi (u3 - l3)→BR (decide (x3≥3)) (False) (Q (.int .i64 0))) (False)) (False)) (False)))))) (False)) (False)) (False)))))) (False)) (False)) (False)))))) (False)) (False)) (False))))):=by kernel_rfl
theorem Tryz.pp4(hv:Pts [(h0,l0,u0),(h1,l1,u1),(h2,l2,u2),(h3,l3,u3)]):Rets Tryz.prog (fun v _=>∃x:Int,x=0∧v = .int .i64 x) ⟨AFr.enter Tryz.prog 129 ⟨[.agg ⟨[.int .i64 plank,.slice (some ⟨0,0,none⟩) 4 cp,tv,sv]⟩]⟩,[],hOf 4 (L4 ⟨[.int .i64 h0,.int .i64 l0,.int .i64 u0,.int .i64 h1,.int .i64 l1,.int .i64 u1,.int .i64 h2,.int .i64 l2,.int .i64 u2,.int .i64 h3,.int .i64 l3,.int .i64 u3]⟩ tc sc kc)⟩:=by
 refine txR_use (Tryz.ok noCt) (Tryz.pp4_t _ _) ?_
 simp only [Pts,PtsF,and_true] at hv
 iterate 32 (first|refine BR.rr ?_|refine BR.ll ?_|refine va fun _ _=>?_)
 exact fun _=>⟨_,rfl,rfl⟩
end
section
variable{h0 l0 u0 h1 l1 u1 h2 l2 u2 h3 l3 u3 h4 l4 u4:Int}{plank:Int}{tc sc kc:Array Value}{tv sv:Value}{cp:Nat}
theorem Tryz.pp5_t(Q:Value→Prop)(K:AS→Prop):tx (Tryz.X []) Q K (.br 18 4 6 .no (.br 0 4 10 .no (.br 15 8 8 .no (.br 16 6 10 (.br 0 6 16 (.br 0 6 22 (.val 6 11 17 (.br 0 1 18 .no (.br 31 4 6 .no h26t3))) .no) .no) .no)))) ⟨AFr.enter Tryz.prog 129 ⟨[.agg ⟨[.int .i64 plank,.slice (some ⟨0,0,none⟩) 5 cp,tv,sv]⟩]⟩,[],hOf 4 (L4 ⟨[.int .i64 h0,.int .i64 l0,.int .i64 u0,.int .i64 h1,.int .i64 l1,.int .i64 u1,.int .i64 h2,.int .i64 l2,.int .i64 u2,.int .i64 h3,.int .i64 l3,.int .i64 u3,.int .i64 h4,.int .i64 l4,.int .i64 u4]⟩ tc sc kc)⟩=(BR (decide (h0 < 0)) (False) (BR (decide (h0 > 959)) (False) (BR (decide (h0≤(-1))) (False) (BR (decide (0≤l0)) (BR (decide (l0≤u0)) (BR (decide (u0≤959)) (∀x0,x0=wi (u0 - l0)→BR (decide (x0≥3)) (False) (BR (decide (h1 < 0)) (False) (BR (decide (h1 > 959)) (False) (BR (decide (h1≤h0)) (False) (BR (decide (0≤l1)) (BR (decide (l1≤u1)) (BR (decide (u1≤959)) (∀x1,x1=wi (u1 - l1)→BR (decide (x1≥3)) (False) (BR (decide (h2 < 0)) (False) (BR (decide (h2 > 959)) (False) (BR (decide (h2≤h1)) (False) (BR (decide (0≤l2)) (BR (decide (l2≤u2)) (BR (decide (u2≤959)) (∀x2,x2=wi (u2 - l2)→BR (decide (x2≥3)) (False) (BR (decide (h3 < 0)) (False) (BR (decide (h3 > 959)) (False) (BR (decide (h3≤h2)) (False) (BR (decide (0≤l3)) (BR (decide (l3≤u3)) (BR (decide (u3≤959)) (∀x3,x3=wi (u3 - l3)→BR (decide (x3≥3)) (False) (BR (decide (h4 < 0)) (False) (BR (decide (h4 > 959)) (False) (BR (decide (h4≤h3)) (False) (BR (decide (0≤l4)) (BR (decide (l4≤u4)) (BR (decide (u4≤959)) (∀x4,x4=wi (u4 - l4)→BR (decide (x4≥3)) (False) (Q (.int .i64 0))) (False)) (False)) (False)))))) (False)) (False)) (False)))))) (False)) (False)) (False)))))) (False)) (False)) (False)))))) (False)) (False)) (False))))):=by kernel_rfl
theorem Tryz.pp5(hv:Pts [(h0,l0,u0),(h1,l1,u1),(h2,l2,u2),(h3,l3,u3),(h4,l4,u4)]):Rets Tryz.prog (fun v _=>∃x:Int,x=0∧v = .int .i64 x) ⟨AFr.enter Tryz.prog 129 ⟨[.agg ⟨[.int .i64 plank,.slice (some ⟨0,0,none⟩) 5 cp,tv,sv]⟩]⟩,[],hOf 4 (L4 ⟨[.int .i64 h0,.int .i64 l0,.int .i64 u0,.int .i64 h1,.int .i64 l1,.int .i64 u1,.int .i64 h2,.int .i64 l2,.int .i64 u2,.int .i64 h3,.int .i64 l3,.int .i64 u3,.int .i64 h4,.int .i64 l4,.int .i64 u4]⟩ tc sc kc)⟩:=by
 refine txR_use (Tryz.ok noCt) (Tryz.pp5_t _ _) ?_
 simp only [Pts,PtsF,and_true] at hv
 iterate 40 (first|refine BR.rr ?_|refine BR.ll ?_|refine va fun _ _=>?_)
 exact fun _=>⟨_,rfl,rfl⟩
end
section
variable{np:Nat}{plank:Int}{pc tc sc kc:Array Value}{op ot os:Option Addr}{cp ct ns cs:Nat}
theorem Tryz.pt0_t(Q:Value→Prop)(K:AS→Prop):tx (Tryz.X []) Q K (.ret 8 1) ⟨AFr.enter Tryz.prog 130 ⟨[.agg ⟨[.int .i64 plank,.slice op np cp,.slice ot 0 ct,.slice os ns cs]⟩]⟩,[],hOf 4 (L4 pc tc sc kc)⟩=(Q (.int .i64 0)):=by kernel_rfl
theorem Tryz.pt0(hnp:2≤np∧np≤5)(hv:Tps np []):Rets Tryz.prog (fun v _=>∃x:Int,x=0∧v = .int .i64 x) ⟨AFr.enter Tryz.prog 130 ⟨[.agg ⟨[.int .i64 plank,.slice op np cp,.slice ot 0 ct,.slice os ns cs]⟩]⟩,[],hOf 4 (L4 pc tc sc kc)⟩:=by
 refine txR_use (Tryz.ok noCt) (Tryz.pt0_t _ _) ?_
 exact fun _=>⟨_,rfl,rfl⟩
end
section
variable{np:Nat}{f0 t0 a0 b0:Int}{plank:Int}{pc tc sc kc:Array Value}{op ot os:Option Addr}{cp ct ns cs:Nat}
theorem Tryz.pt1_t(Q:Value→Prop)(K:AS→Prop):∀v0:Bool,v0=((decide (a0=a0) && (decide (b0=b0) && true)) && true)→tx (Tryz.X []) Q K (.rk 13 2 (.val 2 9 13 (.rk 2 0 (.br 10 4 6 (.br 0 4 10 (.br 5 4 6 (.br 0 4 10 (.br 15 9 9 .no (.br 14 6 10 (.br 0 6 16 (.br 0 6 22 (.ret 24 1) .no) .no) .no)) .no) .no) .no) .no)))) ⟨AFr.enter Tryz.prog 130 ⟨[.agg ⟨[.int .i64 plank,.slice op np cp,.slice (some ⟨1,0,none⟩) 1 ct,.slice os ns cs]⟩]⟩,[],hOf 4 (L4 pc ⟨[.int .i64 f0,.int .i64 t0,.int .i64 a0,.int .i64 b0]⟩ sc kc)⟩=(RK (((decide (plank=plank) && (((decide (op=op) && decide (np=np)) && decide (cp=cp)) && (decide (ct=ct) && (((decide (os=os) && decide (ns=ns)) && decide (cs=cs)) && true)))) && (decide (f0=f0) && (decide (t0=t0) && v0)))) (∀x0,x0=((np:Nat):Int)→RK (v0) (BR (decide (f0≥0)) (BR (decide (f0 < x0)) (BR (decide (t0≥0)) (BR (decide (t0 < x0)) (BR (decide (f0≥t0)) (False) (BR (decide (0≤a0)) (BR (decide (a0≤b0)) (BR (decide (b0≤9999)) (Q (.int .i64 0)) (False)) (False)) (False))) (False)) (False)) (False)) (False)))):=by
 rintro _ rfl
 kernel_rfl
theorem Tryz.pt1(hnp:2≤np∧np≤5)(hv:Tps np [(f0,t0,a0,b0)]):Rets Tryz.prog (fun v _=>∃x:Int,x=0∧v = .int .i64 x) ⟨AFr.enter Tryz.prog 130 ⟨[.agg ⟨[.int .i64 plank,.slice op np cp,.slice (some ⟨1,0,none⟩) 1 ct,.slice os ns cs]⟩]⟩,[],hOf 4 (L4 pc ⟨[.int .i64 f0,.int .i64 t0,.int .i64 a0,.int .i64 b0]⟩ sc kc)⟩:=by
 refine txR_use (Tryz.ok noCt) (Tryz.pt1_t _ _ _ rfl) ?_
 simp only [Tps,and_true] at hv
 refine ⟨by simp,?_⟩
 intro x0 _
 iterate 9 (first|refine BR.rr ?_|refine BR.ll ?_|refine ⟨by simp,?_⟩)
 exact fun _=>⟨_,rfl,rfl⟩
end
section
variable{np:Nat}{f0 t0 a0 b0 f1 t1 a1 b1:Int}{plank:Int}{pc tc sc kc:Array Value}{op ot os:Option Addr}{cp ct ns cs:Nat}
theorem Tryz.pt2_t(Q:Value→Prop)(K:AS→Prop):∀v0:Bool,v0=(decide (plank=plank) && (((decide (op=op) && decide (np=np)) && decide (cp=cp)) && (decide (ct=ct) && (((decide (os=os) && decide (ns=ns)) && decide (cs=cs)) && true))))→∀v1:Bool,v1=((decide (a1=a1) && (decide (b1=b1) && true)) && true)→∀v2:Bool,v2=((decide (a0=a0) && (decide (b0=b0) && true)) && true)→tx (Tryz.X []) Q K (.rk 13 2 h26t1) ⟨AFr.enter Tryz.prog 130 ⟨[.agg ⟨[.int .i64 plank,.slice op np cp,.slice (some ⟨1,0,none⟩) 2 ct,.slice os ns cs]⟩]⟩,[],hOf 4 (L4 pc ⟨[.int .i64 f0,.int .i64 t0,.int .i64 a0,.int .i64 b0,.int .i64 f1,.int .i64 t1,.int .i64 a1,.int .i64 b1]⟩ sc kc)⟩=(RK ((v0 && (decide (f0=f0) && (decide (t0=t0) && v2)))) (∀x0,x0=((np:Nat):Int)→RK (v2) (BR (decide (f0≥0)) (BR (decide (f0 < x0)) (BR (decide (t0≥0)) (BR (decide (t0 < x0)) (BR (decide (f0≥t0)) (False) (BR (decide (0≤a0)) (BR (decide (a0≤b0)) (BR (decide (b0≤9999)) (RK ((v0 && (decide (f1=f1) && (decide (t1=t1) && v1)))) (∀x1,x1=((np:Nat):Int)→RK (v1) (BR (decide (f1≥0)) (BR (decide (f1 < x1)) (BR (decide (t1≥0)) (BR (decide (t1 < x1)) (BR (decide (f1≥t1)) (False) (BR (decide (0≤a1)) (BR (decide (a1≤b1)) (BR (decide (b1≤9999)) (Q (.int .i64 0)) (False)) (False)) (False))) (False)) (False)) (False)) (False)))) (False)) (False)) (False))) (False)) (False)) (False)) (False)))):=by
 rintro _ rfl _ rfl _ rfl
 kernel_rfl
theorem Tryz.pt2(hnp:2≤np∧np≤5)(hv:Tps np [(f0,t0,a0,b0),(f1,t1,a1,b1)]):Rets Tryz.prog (fun v _=>∃x:Int,x=0∧v = .int .i64 x) ⟨AFr.enter Tryz.prog 130 ⟨[.agg ⟨[.int .i64 plank,.slice op np cp,.slice (some ⟨1,0,none⟩) 2 ct,.slice os ns cs]⟩]⟩,[],hOf 4 (L4 pc ⟨[.int .i64 f0,.int .i64 t0,.int .i64 a0,.int .i64 b0,.int .i64 f1,.int .i64 t1,.int .i64 a1,.int .i64 b1]⟩ sc kc)⟩:=by
 refine txR_use (Tryz.ok noCt) (Tryz.pt2_t _ _ _ rfl _ rfl _ rfl) ?_
 simp only [Tps,and_true] at hv
 refine ⟨by simp,?_⟩
 intro x0 _
 iterate 10 (first|refine BR.rr ?_|refine BR.ll ?_|refine ⟨by simp,?_⟩)
 intro x1 _
 iterate 9 (first|refine BR.rr ?_|refine BR.ll ?_|refine ⟨by simp,?_⟩)
 exact fun _=>⟨_,rfl,rfl⟩
end
section
variable{np:Nat}{f0 t0 a0 b0 f1 t1 a1 b1 f2 t2 a2 b2:Int}{plank:Int}{pc tc sc kc:Array Value}{op ot os:Option Addr}{cp ct ns cs:Nat}
theorem Tryz.pt3_t(Q:Value→Prop)(K:AS→Prop):∀v0:Bool,v0=(decide (plank=plank) && (((decide (op=op) && decide (np=np)) && decide (cp=cp)) && (decide (ct=ct) && (((decide (os=os) && decide (ns=ns)) && decide (cs=cs)) && true))))→∀v1:Bool,v1=((decide (a2=a2) && (decide (b2=b2) && true)) && true)→∀v2:Bool,v2=((decide (a1=a1) && (decide (b1=b1) && true)) && true)→∀v3:Bool,v3=((decide (a0=a0) && (decide (b0=b0) && true)) && true)→tx (Tryz.X []) Q K (.rk 13 2 (.val 2 9 13 (.rk 2 0 (.br 10 4 6 (.br 0 4 10 (.br 5 4 6 (.br 0 4 10 (.br 15 9 9 .no (.br 14 6 10 (.br 0 6 16 (.br 0 6 22 (.rk 29 2 h26t1) .no) .no) .no)) .no) .no) .no) .no)))) ⟨AFr.enter Tryz.prog 130 ⟨[.agg ⟨[.int .i64 plank,.slice op np cp,.slice (some ⟨1,0,none⟩) 3 ct,.slice os ns cs]⟩]⟩,[],hOf 4 (L4 pc ⟨[.int .i64 f0,.int .i64 t0,.int .i64 a0,.int .i64 b0,.int .i64 f1,.int .i64 t1,.int .i64 a1,.int .i64 b1,.int .i64 f2,.int .i64 t2,.int .i64 a2,.int .i64 b2]⟩ sc kc)⟩=(RK ((v0 && (decide (f0=f0) && (decide (t0=t0) && v3)))) (∀x0,x0=((np:Nat):Int)→RK (v3) (BR (decide (f0≥0)) (BR (decide (f0 < x0)) (BR (decide (t0≥0)) (BR (decide (t0 < x0)) (BR (decide (f0≥t0)) (False) (BR (decide (0≤a0)) (BR (decide (a0≤b0)) (BR (decide (b0≤9999)) (RK ((v0 && (decide (f1=f1) && (decide (t1=t1) && v2)))) (∀x1,x1=((np:Nat):Int)→RK (v2) (BR (decide (f1≥0)) (BR (decide (f1 < x1)) (BR (decide (t1≥0)) (BR (decide (t1 < x1)) (BR (decide (f1≥t1)) (False) (BR (decide (0≤a1)) (BR (decide (a1≤b1)) (BR (decide (b1≤9999)) (RK ((v0 && (decide (f2=f2) && (decide (t2=t2) && v1)))) (∀x2,x2=((np:Nat):Int)→RK (v1) (BR (decide (f2≥0)) (BR (decide (f2 < x2)) (BR (decide (t2≥0)) (BR (decide (t2 < x2)) (BR (decide (f2≥t2)) (False) (BR (decide (0≤a2)) (BR (decide (a2≤b2)) (BR (decide (b2≤9999)) (Q (.int .i64 0)) (False)) (False)) (False))) (False)) (False)) (False)) (False)))) (False)) (False)) (False))) (False)) (False)) (False)) (False)))) (False)) (False)) (False))) (False)) (False)) (False)) (False)))):=by
 rintro _ rfl _ rfl _ rfl _ rfl
 kernel_rfl
theorem Tryz.pt3(hnp:2≤np∧np≤5)(hv:Tps np [(f0,t0,a0,b0),(f1,t1,a1,b1),(f2,t2,a2,b2)]):Rets Tryz.prog (fun v _=>∃x:Int,x=0∧v = .int .i64 x) ⟨AFr.enter Tryz.prog 130 ⟨[.agg ⟨[.int .i64 plank,.slice op np cp,.slice (some ⟨1,0,none⟩) 3 ct,.slice os ns cs]⟩]⟩,[],hOf 4 (L4 pc ⟨[.int .i64 f0,.int .i64 t0,.int .i64 a0,.int .i64 b0,.int .i64 f1,.int .i64 t1,.int .i64 a1,.int .i64 b1,.int .i64 f2,.int .i64 t2,.int .i64 a2,.int .i64 b2]⟩ sc kc)⟩:=by
 refine txR_use (Tryz.ok noCt) (Tryz.pt3_t _ _ _ rfl _ rfl _ rfl _ rfl) ?_
 simp only [Tps,and_true] at hv
 refine ⟨by simp,?_⟩
 intro x0 _
 iterate 10 (first|refine BR.rr ?_|refine BR.ll ?_|refine ⟨by simp,?_⟩)
 intro x1 _
 iterate 10 (first|refine BR.rr ?_|refine BR.ll ?_|refine ⟨by simp,?_⟩)
 intro x2 _
 iterate 9 (first|refine BR.rr ?_|refine BR.ll ?_|refine ⟨by simp,?_⟩)
 exact fun _=>⟨_,rfl,rfl⟩
end
section
variable{np:Nat}{plank:Int}{pc tc sc kc:Array Value}{tv:Value}{os:Option Addr}{cp cs:Nat}
theorem Tryz.ps0_t(Q:Value→Prop)(K:AS→Prop):tx (Tryz.X []) Q K (.ret 20 1) ⟨AFr.enter Tryz.prog 131 ⟨[.agg ⟨[.int .i64 plank,.slice (some ⟨0,0,none⟩) np cp,tv,.slice os 0 cs]⟩]⟩,[],hOf 4 (L4 pc tc sc kc)⟩=(Q (.int .i64 0)):=by kernel_rfl
theorem Tryz.ps0{lo hi:Int}(hnp:2≤np∧np≤5)(hlo:nth pc.toList 0=some (.int .i64 lo))(hhi:nth pc.toList ((np - 1) * 3)=some (.int .i64 hi))(hv:Sts lo hi []):Rets Tryz.prog (fun v _=>∃x:Int,x=0∧v = .int .i64 x) ⟨AFr.enter Tryz.prog 131 ⟨[.agg ⟨[.int .i64 plank,.slice (some ⟨0,0,none⟩) np cp,tv,.slice os 0 cs]⟩]⟩,[],hOf 4 (L4 pc tc sc kc)⟩:=by
 refine txR_use (Tryz.ok noCt) (Tryz.ps0_t _ _) ?_
 exact fun _=>⟨_,rfl,rfl⟩
end
section
variable{np:Nat}{g0 m0:Int}{w0:Bool}{plank:Int}{pc tc sc kc:Array Value}{tv:Value}{os:Option Addr}{cp cs:Nat}
theorem Tryz.ps1_t(Q:Value→Prop)(K:AS→Prop):tx (Tryz.X []) Q K (.ov 15 6 (.lod 0 1 .i64 (.br 0 1 12 .no (.val 0 9 21 (.val 0 1 22 (.ov 0 0 (.lod 0 1 .i64 (.br 0 1 26 .no (.br 5 4 6 .no (.br 0 4 10 .no (.ret 22 1))))))))))) ⟨AFr.enter Tryz.prog 131 ⟨[.agg ⟨[.int .i64 plank,.slice (some ⟨0,0,none⟩) np cp,tv,.slice (some ⟨2,0,none⟩) 1 cs]⟩]⟩,[],hOf 4 (L4 pc tc ⟨[.int .i64 g0,.int .i64 m0,.bool w0]⟩ kc)⟩=(((0:Int)≤0∧0 < ((np:Nat):Int))∧∃x0:Int,nth pc.toList (0)=some (.int .i64 x0)∧BR (decide (g0 < x0)) (False) (∀x1,x1=((np:Nat):Int)→∀x2,x2=wi (x1 - 1)→((0:Int)≤x2∧x2 < ((np:Nat):Int))∧∃x4:Int,nth pc.toList (0+Int.toNat x2 * 3)=some (.int .i64 x4)∧BR (decide (g0 > x4)) (False) (BR (decide (m0 < 0)) (False) (BR (decide (m0 > 959)) (False) (Q (.int .i64 0)))))):=by kernel_rfl
theorem Tryz.ps1{lo hi:Int}(hnp:2≤np∧np≤5)(hlo:nth pc.toList 0=some (.int .i64 lo))(hhi:nth pc.toList ((np - 1) * 3)=some (.int .i64 hi))(hv:Sts lo hi [(g0,m0)]):Rets Tryz.prog (fun v _=>∃x:Int,x=0∧v = .int .i64 x) ⟨AFr.enter Tryz.prog 131 ⟨[.agg ⟨[.int .i64 plank,.slice (some ⟨0,0,none⟩) np cp,tv,.slice (some ⟨2,0,none⟩) 1 cs]⟩]⟩,[],hOf 4 (L4 pc tc ⟨[.int .i64 g0,.int .i64 m0,.bool w0]⟩ kc)⟩:=by
 refine txR_use (Tryz.ok noCt) (Tryz.ps1_t _ _) ?_
 simp only [Sts,and_true] at hv
 refine ⟨⟨by omega,by omega⟩,?_⟩
 refine ⟨lo,hlo,?_⟩
 obtain ⟨x0,ex⟩:∃x0,x0=lo:=⟨_,rfl⟩
 rw [←ex]
 refine BR.rr ?_
 intro x1 _
 refine va fun x2 _=>?_
 refine ⟨⟨by omega,by omega⟩,?_⟩
 refine ⟨hi,by rw [show 0+Int.toNat x2 * 3=(np - 1) * 3 by omega];exact hhi,?_⟩
 obtain ⟨x4,ex⟩:∃x4,x4=hi:=⟨_,rfl⟩
 rw [←ex]
 iterate 3 refine BR.rr ?_
 exact fun _=>⟨_,rfl,rfl⟩
end
section
variable{np:Nat}{g0 m0 g1 m1:Int}{w0 w1:Bool}{plank:Int}{pc tc sc kc:Array Value}{tv:Value}{os:Option Addr}{cp cs:Nat}
theorem Tryz.ps2_t(Q:Value→Prop)(K:AS→Prop):tx (Tryz.X []) Q K (.ov 15 6 h26t2) ⟨AFr.enter Tryz.prog 131 ⟨[.agg ⟨[.int .i64 plank,.slice (some ⟨0,0,none⟩) np cp,tv,.slice (some ⟨2,0,none⟩) 2 cs]⟩]⟩,[],hOf 4 (L4 pc tc ⟨[.int .i64 g0,.int .i64 m0,.bool w0,.int .i64 g1,.int .i64 m1,.bool w1]⟩ kc)⟩=(((0:Int)≤0∧0 < ((np:Nat):Int))∧∃x0:Int,nth pc.toList (0)=some (.int .i64 x0)∧BR (decide (g0 < x0)) (False) (∀x1,x1=((np:Nat):Int)→∀x2,x2=wi (x1 - 1)→((0:Int)≤x2∧x2 < ((np:Nat):Int))∧∃x4:Int,nth pc.toList (0+Int.toNat x2 * 3)=some (.int .i64 x4)∧BR (decide (g0 > x4)) (False) (BR (decide (m0 < 0)) (False) (BR (decide (m0 > 959)) (False) (((0:Int)≤0∧0 < ((np:Nat):Int))∧∃x5:Int,nth pc.toList (0)=some (.int .i64 x5)∧BR (decide (g1 < x5)) (False) (∀x6,x6=((np:Nat):Int)→∀x7,x7=wi (x6 - 1)→((0:Int)≤x7∧x7 < ((np:Nat):Int))∧∃x9:Int,nth pc.toList (0+Int.toNat x7 * 3)=some (.int .i64 x9)∧BR (decide (g1 > x9)) (False) (BR (decide (m1 < 0)) (False) (BR (decide (m1 > 959)) (False) (Q (.int .i64 0)))))))))):=by kernel_rfl
theorem Tryz.ps2{lo hi:Int}(hnp:2≤np∧np≤5)(hlo:nth pc.toList 0=some (.int .i64 lo))(hhi:nth pc.toList ((np - 1) * 3)=some (.int .i64 hi))(hv:Sts lo hi [(g0,m0),(g1,m1)]):Rets Tryz.prog (fun v _=>∃x:Int,x=0∧v = .int .i64 x) ⟨AFr.enter Tryz.prog 131 ⟨[.agg ⟨[.int .i64 plank,.slice (some ⟨0,0,none⟩) np cp,tv,.slice (some ⟨2,0,none⟩) 2 cs]⟩]⟩,[],hOf 4 (L4 pc tc ⟨[.int .i64 g0,.int .i64 m0,.bool w0,.int .i64 g1,.int .i64 m1,.bool w1]⟩ kc)⟩:=by
 refine txR_use (Tryz.ok noCt) (Tryz.ps2_t _ _) ?_
 simp only [Sts,and_true] at hv
 refine ⟨⟨by omega,by omega⟩,?_⟩
 refine ⟨lo,hlo,?_⟩
 obtain ⟨x0,ex⟩:∃x0,x0=lo:=⟨_,rfl⟩
 rw [←ex]
 refine BR.rr ?_
 intro x1 _
 refine va fun x2 _=>?_
 refine ⟨⟨by omega,by omega⟩,?_⟩
 refine ⟨hi,by rw [show 0+Int.toNat x2 * 3=(np - 1) * 3 by omega];exact hhi,?_⟩
 obtain ⟨x4,ex⟩:∃x4,x4=hi:=⟨_,rfl⟩
 rw [←ex]
 iterate 3 refine BR.rr ?_
 refine ⟨⟨by omega,by omega⟩,?_⟩
 refine ⟨lo,hlo,?_⟩
 obtain ⟨x5,ex⟩:∃x5,x5=lo:=⟨_,rfl⟩
 rw [←ex]
 refine BR.rr ?_
 intro x6 _
 refine va fun x7 _=>?_
 refine ⟨⟨by omega,by omega⟩,?_⟩
 refine ⟨hi,by rw [show 0+Int.toNat x7 * 3=(np - 1) * 3 by omega];exact hhi,?_⟩
 obtain ⟨x9,ex⟩:∃x9,x9=hi:=⟨_,rfl⟩
 rw [←ex]
 iterate 3 refine BR.rr ?_
 exact fun _=>⟨_,rfl,rfl⟩
end
section
variable{np:Nat}{g0 m0 g1 m1 g2 m2:Int}{w0 w1 w2:Bool}{plank:Int}{pc tc sc kc:Array Value}{tv:Value}{os:Option Addr}{cp cs:Nat}
theorem Tryz.ps3_t(Q:Value→Prop)(K:AS→Prop):tx (Tryz.X []) Q K (.ov 15 6 (.lod 0 1 .i64 (.br 0 1 12 .no (.val 0 9 21 (.val 0 1 22 (.ov 0 0 (.lod 0 1 .i64 (.br 0 1 26 .no (.br 5 4 6 .no (.br 0 4 10 .no (.ov 17 6 h26t2))))))))))) ⟨AFr.enter Tryz.prog 131 ⟨[.agg ⟨[.int .i64 plank,.slice (some ⟨0,0,none⟩) np cp,tv,.slice (some ⟨2,0,none⟩) 3 cs]⟩]⟩,[],hOf 4 (L4 pc tc ⟨[.int .i64 g0,.int .i64 m0,.bool w0,.int .i64 g1,.int .i64 m1,.bool w1,.int .i64 g2,.int .i64 m2,.bool w2]⟩ kc)⟩=(((0:Int)≤0∧0 < ((np:Nat):Int))∧∃x0:Int,nth pc.toList (0)=some (.int .i64 x0)∧BR (decide (g0 < x0)) (False) (∀x1,x1=((np:Nat):Int)→∀x2,x2=wi (x1 - 1)→((0:Int)≤x2∧x2 < ((np:Nat):Int))∧∃x4:Int,nth pc.toList (0+Int.toNat x2 * 3)=some (.int .i64 x4)∧BR (decide (g0 > x4)) (False) (BR (decide (m0 < 0)) (False) (BR (decide (m0 > 959)) (False) (((0:Int)≤0∧0 < ((np:Nat):Int))∧∃x5:Int,nth pc.toList (0)=some (.int .i64 x5)∧BR (decide (g1 < x5)) (False) (∀x6,x6=((np:Nat):Int)→∀x7,x7=wi (x6 - 1)→((0:Int)≤x7∧x7 < ((np:Nat):Int))∧∃x9:Int,nth pc.toList (0+Int.toNat x7 * 3)=some (.int .i64 x9)∧BR (decide (g1 > x9)) (False) (BR (decide (m1 < 0)) (False) (BR (decide (m1 > 959)) (False) (((0:Int)≤0∧0 < ((np:Nat):Int))∧∃x10:Int,nth pc.toList (0)=some (.int .i64 x10)∧BR (decide (g2 < x10)) (False) (∀x11,x11=((np:Nat):Int)→∀x12,x12=wi (x11 - 1)→((0:Int)≤x12∧x12 < ((np:Nat):Int))∧∃x14:Int,nth pc.toList (0+Int.toNat x12 * 3)=some (.int .i64 x14)∧BR (decide (g2 > x14)) (False) (BR (decide (m2 < 0)) (False) (BR (decide (m2 > 959)) (False) (Q (.int .i64 0)))))))))))))):=by kernel_rfl
theorem Tryz.ps3{lo hi:Int}(hnp:2≤np∧np≤5)(hlo:nth pc.toList 0=some (.int .i64 lo))(hhi:nth pc.toList ((np - 1) * 3)=some (.int .i64 hi))(hv:Sts lo hi [(g0,m0),(g1,m1),(g2,m2)]):Rets Tryz.prog (fun v _=>∃x:Int,x=0∧v = .int .i64 x) ⟨AFr.enter Tryz.prog 131 ⟨[.agg ⟨[.int .i64 plank,.slice (some ⟨0,0,none⟩) np cp,tv,.slice (some ⟨2,0,none⟩) 3 cs]⟩]⟩,[],hOf 4 (L4 pc tc ⟨[.int .i64 g0,.int .i64 m0,.bool w0,.int .i64 g1,.int .i64 m1,.bool w1,.int .i64 g2,.int .i64 m2,.bool w2]⟩ kc)⟩:=by
 refine txR_use (Tryz.ok noCt) (Tryz.ps3_t _ _) ?_
 simp only [Sts,and_true] at hv
 refine ⟨⟨by omega,by omega⟩,?_⟩
 refine ⟨lo,hlo,?_⟩
 obtain ⟨x0,ex⟩:∃x0,x0=lo:=⟨_,rfl⟩
 rw [←ex]
 refine BR.rr ?_
 intro x1 _
 refine va fun x2 _=>?_
 refine ⟨⟨by omega,by omega⟩,?_⟩
 refine ⟨hi,by rw [show 0+Int.toNat x2 * 3=(np - 1) * 3 by omega];exact hhi,?_⟩
 obtain ⟨x4,ex⟩:∃x4,x4=hi:=⟨_,rfl⟩
 rw [←ex]
 iterate 3 refine BR.rr ?_
 refine ⟨⟨by omega,by omega⟩,?_⟩
 refine ⟨lo,hlo,?_⟩
 obtain ⟨x5,ex⟩:∃x5,x5=lo:=⟨_,rfl⟩
 rw [←ex]
 refine BR.rr ?_
 intro x6 _
 refine va fun x7 _=>?_
 refine ⟨⟨by omega,by omega⟩,?_⟩
 refine ⟨hi,by rw [show 0+Int.toNat x7 * 3=(np - 1) * 3 by omega];exact hhi,?_⟩
 obtain ⟨x9,ex⟩:∃x9,x9=hi:=⟨_,rfl⟩
 rw [←ex]
 iterate 3 refine BR.rr ?_
 refine ⟨⟨by omega,by omega⟩,?_⟩
 refine ⟨lo,hlo,?_⟩
 obtain ⟨x10,ex⟩:∃x10,x10=lo:=⟨_,rfl⟩
 rw [←ex]
 refine BR.rr ?_
 intro x11 _
 refine va fun x12 _=>?_
 refine ⟨⟨by omega,by omega⟩,?_⟩
 refine ⟨hi,by rw [show 0+Int.toNat x12 * 3=(np - 1) * 3 by omega];exact hhi,?_⟩
 obtain ⟨x14,ex⟩:∃x14,x14=hi:=⟨_,rfl⟩
 rw [←ex]
 iterate 3 refine BR.rr ?_
 exact fun _=>⟨_,rfl,rfl⟩
end
section
variable{plank:Int}{pv tv sv:Value}{pc tc sc kc:Array Value}
theorem Tryz.sn_t(Q:Value→Prop)(K:AS→Prop):∀v0:Prop,v0=((AE ⟨[.agg ⟨[.int .i64 plank,pv,tv,sv]⟩]⟩)∧(E4 pc tc sc kc)∧True)→tx (Tryz.X [⟨129,fun _ _=>[],4,fun _=>L4 pc tc sc kc,fun _=>⟨[.agg ⟨[.int .i64 plank,pv,tv,sv]⟩]⟩,fun _=>True,fun _ x=>x=0,fun x=>.int .i64 x⟩,⟨130,fun _ _=>[],4,fun _=>L4 pc tc sc kc,fun _=>⟨[.agg ⟨[.int .i64 plank,pv,tv,sv]⟩]⟩,fun _=>True,fun _ x=>x=0,fun x=>.int .i64 x⟩,⟨131,fun _ _=>[],4,fun _=>L4 pc tc sc kc,fun _=>⟨[.agg ⟨[.int .i64 plank,pv,tv,sv]⟩]⟩,fun _=>True,fun _ x=>x=0,fun x=>.int .i64 x⟩]) Q K (.br 9 4 6 .no (.br 0 4 10 .no (.call 16 4 (.br 1 4 16 .no (.call 7 4 (.br 1 4 16 .no (.call 7 4 (.br 1 4 16 .no (.ret 8 1))))))))) ⟨AFr.enter Tryz.prog 96 ⟨[.agg ⟨[.int .i64 plank,pv,tv,sv]⟩]⟩,[],hOf 4 (L4 pc tc sc kc)⟩=(BR (decide (plank < 0)) (False) (BR (decide (plank > 20)) (False) (v0∧∀x0:Int,(x0=0)→RK (true) (BR (!decide (x0=0)) (False) (v0∧∀x1:Int,(x1=0)→RK (true) (BR (!decide (x1=0)) (False) (v0∧∀x2:Int,(x2=0)→RK (true) (BR (!decide (x2=0)) (False) (Q (.int .i64 0)))))))))):=by
 rintro _ rfl
 kernel_rfl
theorem Tryz.sn(hp:0≤plank∧plank≤20)(hc:∀c∈[⟨129,fun _ _=>[],4,fun _=>L4 pc tc sc kc,fun _=>⟨[.agg ⟨[.int .i64 plank,pv,tv,sv]⟩]⟩,fun _=>True,fun _ x=>x=0,fun x=>.int .i64 x⟩,⟨130,fun _ _=>[],4,fun _=>L4 pc tc sc kc,fun _=>⟨[.agg ⟨[.int .i64 plank,pv,tv,sv]⟩]⟩,fun _=>True,fun _ x=>x=0,fun x=>.int .i64 x⟩,⟨131,fun _ _=>[],4,fun _=>L4 pc tc sc kc,fun _=>⟨[.agg ⟨[.int .i64 plank,pv,tv,sv]⟩]⟩,fun _=>True,fun _ x=>x=0,fun x=>.int .i64 x⟩],CtOk Tryz.prog c):Rets Tryz.prog (fun v _=>∃x:Int,x=0∧v = .int .i64 x) ⟨AFr.enter Tryz.prog 96 ⟨[.agg ⟨[.int .i64 plank,pv,tv,sv]⟩]⟩,[],hOf 4 (L4 pc tc sc kc)⟩:=by
 refine txR_use (Tryz.ok hc) (Tryz.sn_t _ _ _ rfl) ?_
 iterate 2 refine BR.rr ?_
 refine ⟨⟨rfl,E4i,trivial⟩,fun x0 _=>⟨rfl,?_⟩⟩
 refine BR.nr (by omega) ?_
 refine ⟨⟨rfl,E4i,trivial⟩,fun x1 _=>⟨rfl,?_⟩⟩
 refine BR.nr (by omega) ?_
 refine ⟨⟨rfl,E4i,trivial⟩,fun x2 _=>⟨rfl,?_⟩⟩
 refine BR.nr (by omega) ?_
 exact fun _=>⟨_,rfl,rfl⟩
end
end Go.Am
namespace Go.Am
open Go.Proofs
def pc2(h0 l0 u0 h1 l1 u1:Int):Array Value:=⟨[.int .i64 h0,.int .i64 l0,.int .i64 u0,.int .i64 h1,.int .i64 l1,.int .i64 u1]⟩
def pc3(h0 l0 u0 h1 l1 u1 h2 l2 u2:Int):Array Value:=⟨[.int .i64 h0,.int .i64 l0,.int .i64 u0,.int .i64 h1,.int .i64 l1,.int .i64 u1,.int .i64 h2,.int .i64 l2,.int .i64 u2]⟩
def pc4(h0 l0 u0 h1 l1 u1 h2 l2 u2 h3 l3 u3:Int):Array Value:=⟨[.int .i64 h0,.int .i64 l0,.int .i64 u0,.int .i64 h1,.int .i64 l1,.int .i64 u1,.int .i64 h2,.int .i64 l2,.int .i64 u2,.int .i64 h3,.int .i64 l3,.int .i64 u3]⟩
def pc5(h0 l0 u0 h1 l1 u1 h2 l2 u2 h3 l3 u3 h4 l4 u4:Int):Array Value:=⟨[.int .i64 h0,.int .i64 l0,.int .i64 u0,.int .i64 h1,.int .i64 l1,.int .i64 u1,.int .i64 h2,.int .i64 l2,.int .i64 u2,.int .i64 h3,.int .i64 l3,.int .i64 u3,.int .i64 h4,.int .i64 l4,.int .i64 u4]⟩
def bv(np:Nat)(plank:Int)(cp:Nat)(ot:Option Addr)(nt ct:Nat)(os:Option Addr)(ns cs:Nat):Value:=.agg ⟨[.int .i64 plank,.slice (some ⟨0,0,none⟩) np cp,.slice ot nt ct,.slice os ns cs]⟩
theorem fl_pos{a n:Int}(h:0 < n)(k:¬Int.tmod a n < 0):Int.tdiv a n=a / n:=by
 have h1:=Int.tmod_add_mul_tdiv a n
 have h2:=Int.tmod_lt_of_pos a h
 have h3:a=Int.tmod a n+Int.tdiv a n * n:=by rw [Int.mul_comm];omega
 have h4:(Int.tmod a n+Int.tdiv a n * n) / n=Int.tmod a n / n+Int.tdiv a n:=Int.add_mul_ediv_right _ _ (by omega)
 rw [←h3,Int.ediv_eq_zero_of_lt (by omega) h2] at h4
 omega
theorem fl_neg{a n:Int}(h:0 < n)(k:Int.tmod a n < 0):Int.tdiv a n - 1=a / n:=by
 have h1:=Int.tmod_add_mul_tdiv a n
 have h2 : -n < Int.tmod a n:=(tmod_bd h).1
 have h3:a=(Int.tmod a n+n)+(Int.tdiv a n - 1) * n:=by
   have:(Int.tdiv a n - 1) * n=n * Int.tdiv a n - n:=by rw [Int.sub_mul,Int.one_mul,Int.mul_comm]
   omega
 have h4:((Int.tmod a n+n)+(Int.tdiv a n - 1) * n) / n=(Int.tmod a n+n) / n+(Int.tdiv a n - 1):=Int.add_mul_ediv_right _ _ (by omega)
 rw [←h3,Int.ediv_eq_zero_of_lt (a:=Int.tmod a n+n) (b:=n) (by omega) (by omega)] at h4
 omega
theorem flB{a n u d x:Int}(hx:x=a / n)(ha:a=u * d)(hn:n=2 * d)(hd:0 < d)(hu : -3000000≤u∧u≤3000000):2 * x≤u∧u≤2 * x+1:=by
 have hf:a / n=u / 2:=by rw [ha,hn];exact Int.mul_ediv_mul_of_pos_left u 2 hd
 omega
theorem lfv{x y:Int}(h:x=y):∀_:AH,∃z:Int,z=y∧(Value.int .i64 x) = .int .i64 z:=fun _=>⟨x,h,rfl⟩
noncomputable def flC:Ct:=⟨76,fun a _=>[parOf a 0,parOf a 1],0,fun _=>[],fun ps=>⟨[.int .i64 (ps.headD 0),.int .i64 (ps.tail.headD 0)]⟩,fun ps=>0 < ps.tail.headD 0 ∧ -9000000000000≤ps.headD 0∧ps.headD 0≤9000000000000,fun ps x=>x=ps.headD 0 / ps.tail.headD 0,fun x=>.int .i64 x⟩
section
variable{fa fn:Int}
theorem Tryz.fl_t(Q:Value→Prop)(K:AS→Prop):tx (Tryz.X []) Q K (.ov 1 5 (.val 0 0 7 (.br 0 1 8 (.ov 1 5 (.val 0 0 11 (.val 0 1 12 (.ret 2 1)))) (.ov 2 4 (.val 0 0 15 (.ret 2 1)))))) ⟨AFr.enter Tryz.prog 76 ⟨[.int .i64 fa,.int .i64 fn]⟩,[],hOf 0 []⟩=(((fn:Int)≠0)∧∀x0,x0=Int.tmod fa fn→BR (decide (x0 < 0)) (((fn:Int)≠0)∧∀x1,x1=wi (Int.tdiv fa fn)→∀x2,x2=wi (x1 - 1)→Q (.int .i64 x2)) (((fn:Int)≠0)∧∀x3,x3=wi (Int.tdiv fa fn)→Q (.int .i64 x3))):=by kernel_rfl
theorem Tryz.fl(hn:0 < fn)(ha : -9000000000000≤fa)(hb:fa≤9000000000000):Rets Tryz.prog (fun v _=>∃x:Int,(x=fa / fn)∧v = .int .i64 x) ⟨AFr.enter Tryz.prog 76 ⟨[.int .i64 fa,.int .i64 fn]⟩,[],hOf 0 []⟩:=by
 refine txR_use (Tryz.ok noCt) (Tryz.fl_t _ _) ?_
 refine ⟨by omega,?_⟩
 refine vs fun x0 _ _=>?_
 refine BR.mk (fun _=>?_) (fun _=>?_)
 ·
  refine ⟨by omega,?_⟩
  refine vq (by omega) (by omega) fun x1 _ _=>?_
  refine va fun x2 _=>?_
  exact lfv (by subst_vars;first|exact fl_pos (by omega) (by assumption)|exact fl_neg (by omega) (by assumption))
 refine ⟨by omega,?_⟩
 refine vq (by omega) (by omega) fun x3 _ _=>?_
 exact lfv (by subst_vars;first|exact fl_pos (by omega) (by assumption)|exact fl_neg (by omega) (by assumption))
end
end Go.Am
namespace Go.Am
open Go.Proofs
section
variable{plank h0 l0 u0 h1 l1 u1:Int}{cp nt ct ns cs nk ck:Nat}{tc sc kc:Array Value}{ot os ok:Option Addr}{V:Prop}
theorem Tryz.root2_t:∀v0:Value,v0=(bv 2 plank cp ot nt ct os ns cs)→∀v1:Array Value,v1=(pc2 h0 l0 u0 h1 l1 u1)→tx (Tryz.X [⟨12,fun _ _=>[],4,fun _=>L4 v1 tc sc kc,fun _=>⟨[v0]⟩,fun _=>True,fun _ x=>(x=0→V),fun x=>.int .i64 x⟩,⟨34,fun a _=>[parOf a 1],4,fun _=>L4 v1 tc sc kc,fun ps=>⟨[.slice ok nk ck,.int .i64 (ps.headD 0)]⟩,fun _=>True,fun _ x=>(0≤x∧x≤65535),fun x=>.int .i64 x⟩,flC]) (fun _=>False) (fun s=>chkB (Tryz.X []) 3 5 s=true) (.val 8 10 10 (.br 0 1 11 (.cut 31 3) (.val 0 5 16 (.br 0 1 17 (.cut 31 3) (.call 3 3 (.br 0 1 9 (.cut 28 3) (.cut 28 3))))))) ⟨AFr.enter Tryz.prog 3 ⟨[v0,.slice ok nk ck]⟩,[],hOf 4 (L4 v1 tc sc kc)⟩=(∀x0,x0=((nt:Nat):Int)→BR (decide (x0 > 20)) ((true=true)) (∀x1,x1=((ns:Nat):Int)→BR (decide (x1 > 20)) ((true=true)) (((AE ⟨[v0]⟩)∧(E4 v1 tc sc kc)∧True)∧∀x2:Int,(x2=0→V)→RK (true) (BR (decide (x2=0)) ((true=true)) ((true=true)))))):=by
 rintro _ rfl _ rfl
 kernel_rfl
set_option maxHeartbeats 4000000 in
theorem Tryz.root2(hV:V→Pts [(h0,l0,u0),(h1,l1,u1)])(hn:True)(hc:∀c∈([⟨12,fun _ _=>[],4,fun _=>L4 (pc2 h0 l0 u0 h1 l1 u1) tc sc kc,fun _=>⟨[(bv 2 plank cp ot nt ct os ns cs)]⟩,fun _=>True,fun _ x=>(x=0→V),fun x=>.int .i64 x⟩,⟨34,fun a _=>[parOf a 1],4,fun _=>L4 (pc2 h0 l0 u0 h1 l1 u1) tc sc kc,fun ps=>⟨[.slice ok nk ck,.int .i64 (ps.headD 0)]⟩,fun _=>True,fun _ x=>(0≤x∧x≤65535),fun x=>.int .i64 x⟩,flC]:List Ct),CtOk Tryz.prog c):Runs Tryz.prog (fun s=>chkB (Tryz.X []) 3 5 s=true) ⟨AFr.enter Tryz.prog 3 ⟨[(bv 2 plank cp ot nt ct os ns cs),.slice ok nk ck]⟩,[],hOf 4 (L4 (pc2 h0 l0 u0 h1 l1 u1) tc sc kc)⟩:=by
 refine txK_use (Tryz.ok hc) (Tryz.root2_t _ rfl _ rfl) ?_
 intro x0 _
 refine BR.mk (fun _=>?_) (fun _=>?_)
 ·
  exact rfl
 intro x1 _
 refine BR.mk (fun _=>?_) (fun _=>?_)
 ·
  exact rfl
 refine ⟨⟨rfl,E4i,trivial⟩,fun x2 yV=>⟨rfl,?_⟩⟩
 have hP:x2=0→Pts [(h0,l0,u0),(h1,l1,u1)]:=fun h=>hV (yV h)
 simp only [Pts,PtsF,and_true] at hP
 refine BR.mk (fun _=>?_) (fun _=>?_)
 ·
  exact rfl
 exact rfl
end
end Go.Am
