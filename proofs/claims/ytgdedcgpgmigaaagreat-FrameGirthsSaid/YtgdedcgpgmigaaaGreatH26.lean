import Derived.Test.YtgdedcgpgmigaaaGreatH23
import Derived.Test.YtgdedcgpgmigaaaGreatH24
import Derived.Test.YtgdedcgpgmigaaaGreatH25
set_option linter.unusedVariables false
set_option linter.unusedSectionVars false
set_option linter.unusedSimpArgs false
namespace Go.Am
open Go.Proofs
section
variable{h0 l0 u0 h1 l1 u1:Int}{plank:Int}{tc sc kc:Array Value}{tv sv:Value}{cp:Nat}
abbrev h26t0:HT:=.br 0 4 10 .no (.br 15 8 8 .no (.br 16 6 10 (.br 0 6 16 (.br 0 6 22 (.val 6 11 17 (.br 0 1 18 .no (.br 31 4 6 .no (.br 0 4 10 .no (.br 15 8 8 .no (.br 16 6 10 (.br 0 6 16 (.br 0 6 22 (.val 6 11 17 (.br 0 1 18 .no (.br 31 4 6 .no (.br 0 4 10 .no (.br 15 8 8 .no (.br 16 6 10 (.br 0 6 16 (.br 0 6 22 (.val 6 11 17 (.br 0 1 18 .no (.ret 22 1))) .no) .no) .no)))))) .no) .no) .no)))))) .no) .no) .no))
abbrev h26t1:HT:=.val 2 9 13 (.rk 2 0 (.br 10 4 6 (.br 0 4 10 (.br 5 4 6 (.br 0 4 10 (.br 15 9 9 .no (.br 14 6 10 (.br 0 6 16 (.br 0 6 22 (.rk 29 2 (.val 2 9 13 (.rk 2 0 (.br 10 4 6 (.br 0 4 10 (.br 5 4 6 (.br 0 4 10 (.br 15 9 9 .no (.br 14 6 10 (.br 0 6 16 (.br 0 6 22 (.ret 24 1) .no) .no) .no)) .no) .no) .no) .no)))) .no) .no) .no)) .no) .no) .no) .no))
abbrev h26t2:HT:=.lod 0 1 .i64 (.br 0 1 12 .no (.val 0 9 21 (.val 0 1 22 (.ov 0 0 (.lod 0 1 .i64 (.br 0 1 26 .no (.br 5 4 6 .no (.br 0 4 10 .no (.ov 17 6 (.lod 0 1 .i64 (.br 0 1 12 .no (.val 0 9 21 (.val 0 1 22 (.ov 0 0 (.lod 0 1 .i64 (.br 0 1 26 .no (.br 5 4 6 .no (.br 0 4 10 .no (.ret 22 1)))))))))))))))))))
abbrev h26t3:HT:=.br 0 4 10 .no (.br 15 8 8 .no (.br 16 6 10 (.br 0 6 16 (.br 0 6 22 (.val 6 11 17 (.br 0 1 18 .no (.br 31 4 6 .no h26t0))) .no) .no) .no))
theorem Tryz.pp2_t(Q:Value→Prop)(K:AS→Prop):tx (Tryz.X []) Q K (.br 18 4 6 .no (.br 0 4 10 .no (.br 15 8 8 .no (.br 16 6 10 (.br 0 6 16 (.br 0 6 22 (.val 6 11 17 (.br 0 1 18 .no (.br 31 4 6 .no (.br 0 4 10 .no (.br 15 8 8 .no (.br 16 6 10 (.br 0 6 16 (.br 0 6 22 (.val 6 11 17 (.br 0 1 18 .no (.ret 22 1))) .no) .no) .no)))))) .no) .no) .no)))) ⟨AFr.enter Tryz.prog 118 ⟨[.agg ⟨[.int .i64 plank,.slice (some ⟨0,0,none⟩) 2 cp,tv,sv]⟩]⟩,[],hOf 4 (L4 ⟨[.int .i64 h0,.int .i64 l0,.int .i64 u0,.int .i64 h1,.int .i64 l1,.int .i64 u1]⟩ tc sc kc)⟩=(BR (decide (h0 < 0)) (False) (BR (decide (h0 > 959)) (False) (BR (decide (h0≤(-1))) (False) (BR (decide (0≤l0)) (BR (decide (l0≤u0)) (BR (decide (u0≤959)) (∀x0,x0=wi (u0 - l0)→BR (decide (x0≥3)) (False) (BR (decide (h1 < 0)) (False) (BR (decide (h1 > 959)) (False) (BR (decide (h1≤h0)) (False) (BR (decide (0≤l1)) (BR (decide (l1≤u1)) (BR (decide (u1≤959)) (∀x1,x1=wi (u1 - l1)→BR (decide (x1≥3)) (False) (Q (.int .i64 0))) (False)) (False)) (False)))))) (False)) (False)) (False))))):=by kernel_rfl
theorem Tryz.pp2(hv:Pts [(h0,l0,u0),(h1,l1,u1)]):Rets Tryz.prog (fun v _=>∃x:Int,x=0∧v = .int .i64 x) ⟨AFr.enter Tryz.prog 118 ⟨[.agg ⟨[.int .i64 plank,.slice (some ⟨0,0,none⟩) 2 cp,tv,sv]⟩]⟩,[],hOf 4 (L4 ⟨[.int .i64 h0,.int .i64 l0,.int .i64 u0,.int .i64 h1,.int .i64 l1,.int .i64 u1]⟩ tc sc kc)⟩:=by
 refine txR_use (Tryz.ok noCt) (Tryz.pp2_t _ _) ?_
 simp only [Pts,PtsF,and_true] at hv
 iterate 16 (first|refine BR.rr ?_|refine BR.ll ?_|refine va fun _ _=>?_)
 exact fun _=>⟨_,rfl,rfl⟩
end
section
variable{h0 l0 u0 h1 l1 u1 h2 l2 u2:Int}{plank:Int}{tc sc kc:Array Value}{tv sv:Value}{cp:Nat}
theorem Tryz.pp3_t(Q:Value→Prop)(K:AS→Prop):tx (Tryz.X []) Q K (.br 18 4 6 .no h26t0) ⟨AFr.enter Tryz.prog 118 ⟨[.agg ⟨[.int .i64 plank,.slice (some ⟨0,0,none⟩) 3 cp,tv,sv]⟩]⟩,[],hOf 4 (L4 ⟨[.int .i64 h0,.int .i64 l0,.int .i64 u0,.int .i64 h1,.int .i64 l1,.int .i64 u1,.int .i64 h2,.int .i64 l2,.int .i64 u2]⟩ tc sc kc)⟩=(BR (decide (h0 < 0)) (False) (BR (decide (h0 > 959)) (False) (BR (decide (h0≤(-1))) (False) (BR (decide (0≤l0)) (BR (decide (l0≤u0)) (BR (decide (u0≤959)) (∀x0,x0=wi (u0 - l0)→BR (decide (x0≥3)) (False) (BR (decide (h1 < 0)) (False) (BR (decide (h1 > 959)) (False) (BR (decide (h1≤h0)) (False) (BR (decide (0≤l1)) (BR (decide (l1≤u1)) (BR (decide (u1≤959)) (∀x1,x1=wi (u1 - l1)→BR (decide (x1≥3)) (False) (BR (decide (h2 < 0)) (False) (BR (decide (h2 > 959)) (False) (BR (decide (h2≤h1)) (False) (BR (decide (0≤l2)) (BR (decide (l2≤u2)) (BR (decide (u2≤959)) (∀x2,x2=wi (u2 - l2)→BR (decide (x2≥3)) (False) (Q (.int .i64 0))) (False)) (False)) (False)))))) (False)) (False)) (False)))))) (False)) (False)) (False))))):=by kernel_rfl
theorem Tryz.pp3(hv:Pts [(h0,l0,u0),(h1,l1,u1),(h2,l2,u2)]):Rets Tryz.prog (fun v _=>∃x:Int,x=0∧v = .int .i64 x) ⟨AFr.enter Tryz.prog 118 ⟨[.agg ⟨[.int .i64 plank,.slice (some ⟨0,0,none⟩) 3 cp,tv,sv]⟩]⟩,[],hOf 4 (L4 ⟨[.int .i64 h0,.int .i64 l0,.int .i64 u0,.int .i64 h1,.int .i64 l1,.int .i64 u1,.int .i64 h2,.int .i64 l2,.int .i64 u2]⟩ tc sc kc)⟩:=by
 refine txR_use (Tryz.ok noCt) (Tryz.pp3_t _ _) ?_
 simp only [Pts,PtsF,and_true] at hv
 iterate 24 (first|refine BR.rr ?_|refine BR.ll ?_|refine va fun _ _=>?_)
 exact fun _=>⟨_,rfl,rfl⟩
end
section
variable{h0 l0 u0 h1 l1 u1 h2 l2 u2 h3 l3 u3:Int}{plank:Int}{tc sc kc:Array Value}{tv sv:Value}{cp:Nat}
theorem Tryz.pp4_t(Q:Value→Prop)(K:AS→Prop):tx (Tryz.X []) Q K (.br 18 4 6 .no h26t3) ⟨AFr.enter Tryz.prog 118 ⟨[.agg ⟨[.int .i64 plank,.slice (some ⟨0,0,none⟩) 4 cp,tv,sv]⟩]⟩,[],hOf 4 (L4 ⟨[.int .i64 h0,.int .i64 l0,.int .i64 u0,.int .i64 h1,.int .i64 l1,.int .i64 u1,.int .i64 h2,.int .i64 l2,.int .i64 u2,.int .i64 h3,.int .i64 l3,.int .i64 u3]⟩ tc sc kc)⟩=(BR (decide (h0 < 0)) (False) (BR (decide (h0 > 959)) (False) (BR (decide (h0≤(-1))) (False) (BR (decide (0≤l0)) (BR (decide (l0≤u0)) (BR (decide (u0≤959)) (∀x0,x0=wi (u0 - l0)→BR (decide (x0≥3)) (False) (BR (decide (h1 < 0)) (False) (BR (decide (h1 > 959)) (False) (BR (decide (h1≤h0)) (False) (BR (decide (0≤l1)) (BR (decide (l1≤u1)) (BR (decide (u1≤959)) (∀x1,x1=wi (u1 - l1)→BR (decide (x1≥3)) (False) (BR (decide (h2 < 0)) (False) (BR (decide (h2 > 959)) (False) (BR (decide (h2≤h1)) (False) (BR (decide (0≤l2)) (BR (decide (l2≤u2)) (BR (decide (u2≤959)) (∀x2,x2=wi (u2 - l2)→BR (decide (x2≥3)) (False) (BR (decide (h3 < 0)) (False) (BR (decide (h3 > 959)) (False) (BR (decide (h3≤h2)) (False) (BR (decide (0≤l3)) (BR (decide (l3≤u3)) (BR (decide (u3≤959)) (∀x3,x3=wi (u3 - l3)→BR (decide (x3≥3)) (False) (Q (.int .i64 0))) (False)) (False)) (False)))))) (False)) (False)) (False)))))) (False)) (False)) (False)))))) (False)) (False)) (False))))):=by kernel_rfl
theorem Tryz.pp4(hv:Pts [(h0,l0,u0),(h1,l1,u1),(h2,l2,u2),(h3,l3,u3)]):Rets Tryz.prog (fun v _=>∃x:Int,x=0∧v = .int .i64 x) ⟨AFr.enter Tryz.prog 118 ⟨[.agg ⟨[.int .i64 plank,.slice (some ⟨0,0,none⟩) 4 cp,tv,sv]⟩]⟩,[],hOf 4 (L4 ⟨[.int .i64 h0,.int .i64 l0,.int .i64 u0,.int .i64 h1,.int .i64 l1,.int .i64 u1,.int .i64 h2,.int .i64 l2,.int .i64 u2,.int .i64 h3,.int .i64 l3,.int .i64 u3]⟩ tc sc kc)⟩:=by
 refine txR_use (Tryz.ok noCt) (Tryz.pp4_t _ _) ?_
 simp only [Pts,PtsF,and_true] at hv
 iterate 32 (first|refine BR.rr ?_|refine BR.ll ?_|refine va fun _ _=>?_)
 exact fun _=>⟨_,rfl,rfl⟩
end
section
variable{h0 l0 u0 h1 l1 u1 h2 l2 u2 h3 l3 u3 h4 l4 u4:Int}{plank:Int}{tc sc kc:Array Value}{tv sv:Value}{cp:Nat}
theorem Tryz.pp5_t(Q:Value→Prop)(K:AS→Prop):tx (Tryz.X []) Q K (.br 18 4 6 .no (.br 0 4 10 .no (.br 15 8 8 .no (.br 16 6 10 (.br 0 6 16 (.br 0 6 22 (.val 6 11 17 (.br 0 1 18 .no (.br 31 4 6 .no h26t3))) .no) .no) .no)))) ⟨AFr.enter Tryz.prog 118 ⟨[.agg ⟨[.int .i64 plank,.slice (some ⟨0,0,none⟩) 5 cp,tv,sv]⟩]⟩,[],hOf 4 (L4 ⟨[.int .i64 h0,.int .i64 l0,.int .i64 u0,.int .i64 h1,.int .i64 l1,.int .i64 u1,.int .i64 h2,.int .i64 l2,.int .i64 u2,.int .i64 h3,.int .i64 l3,.int .i64 u3,.int .i64 h4,.int .i64 l4,.int .i64 u4]⟩ tc sc kc)⟩=(BR (decide (h0 < 0)) (False) (BR (decide (h0 > 959)) (False) (BR (decide (h0≤(-1))) (False) (BR (decide (0≤l0)) (BR (decide (l0≤u0)) (BR (decide (u0≤959)) (∀x0,x0=wi (u0 - l0)→BR (decide (x0≥3)) (False) (BR (decide (h1 < 0)) (False) (BR (decide (h1 > 959)) (False) (BR (decide (h1≤h0)) (False) (BR (decide (0≤l1)) (BR (decide (l1≤u1)) (BR (decide (u1≤959)) (∀x1,x1=wi (u1 - l1)→BR (decide (x1≥3)) (False) (BR (decide (h2 < 0)) (False) (BR (decide (h2 > 959)) (False) (BR (decide (h2≤h1)) (False) (BR (decide (0≤l2)) (BR (decide (l2≤u2)) (BR (decide (u2≤959)) (∀x2,x2=wi (u2 - l2)→BR (decide (x2≥3)) (False) (BR (decide (h3 < 0)) (False) (BR (decide (h3 > 959)) (False) (BR (decide (h3≤h2)) (False) (BR (decide (0≤l3)) (BR (decide (l3≤u3)) (BR (decide (u3≤959)) (∀x3,x3=wi (u3 - l3)→BR (decide (x3≥3)) (False) (BR (decide (h4 < 0)) (False) (BR (decide (h4 > 959)) (False) (BR (decide (h4≤h3)) (False) (BR (decide (0≤l4)) (BR (decide (l4≤u4)) (BR (decide (u4≤959)) (∀x4,x4=wi (u4 - l4)→BR (decide (x4≥3)) (False) (Q (.int .i64 0))) (False)) (False)) (False)))))) (False)) (False)) (False)))))) (False)) (False)) (False)))))) (False)) (False)) (False)))))) (False)) (False)) (False))))):=by kernel_rfl
theorem Tryz.pp5(hv:Pts [(h0,l0,u0),(h1,l1,u1),(h2,l2,u2),(h3,l3,u3),(h4,l4,u4)]):Rets Tryz.prog (fun v _=>∃x:Int,x=0∧v = .int .i64 x) ⟨AFr.enter Tryz.prog 118 ⟨[.agg ⟨[.int .i64 plank,.slice (some ⟨0,0,none⟩) 5 cp,tv,sv]⟩]⟩,[],hOf 4 (L4 ⟨[.int .i64 h0,.int .i64 l0,.int .i64 u0,.int .i64 h1,.int .i64 l1,.int .i64 u1,.int .i64 h2,.int .i64 l2,.int .i64 u2,.int .i64 h3,.int .i64 l3,.int .i64 u3,.int .i64 h4,.int .i64 l4,.int .i64 u4]⟩ tc sc kc)⟩:=by
 refine txR_use (Tryz.ok noCt) (Tryz.pp5_t _ _) ?_
 simp only [Pts,PtsF,and_true] at hv
 iterate 40 (first|refine BR.rr ?_|refine BR.ll ?_|refine va fun _ _=>?_)
 exact fun _=>⟨_,rfl,rfl⟩
end
section
variable{np:Nat}{plank:Int}{pc tc sc kc:Array Value}{op ot os:Option Addr}{cp ct ns cs:Nat}
theorem Tryz.pt0_t(Q:Value→Prop)(K:AS→Prop):tx (Tryz.X []) Q K (.ret 8 1) ⟨AFr.enter Tryz.prog 119 ⟨[.agg ⟨[.int .i64 plank,.slice op np cp,.slice ot 0 ct,.slice os ns cs]⟩]⟩,[],hOf 4 (L4 pc tc sc kc)⟩=(Q (.int .i64 0)):=by kernel_rfl
theorem Tryz.pt0(hnp:2≤np∧np≤5)(hv:Tps np []):Rets Tryz.prog (fun v _=>∃x:Int,x=0∧v = .int .i64 x) ⟨AFr.enter Tryz.prog 119 ⟨[.agg ⟨[.int .i64 plank,.slice op np cp,.slice ot 0 ct,.slice os ns cs]⟩]⟩,[],hOf 4 (L4 pc tc sc kc)⟩:=by
 refine txR_use (Tryz.ok noCt) (Tryz.pt0_t _ _) ?_
 exact fun _=>⟨_,rfl,rfl⟩
end
section
variable{np:Nat}{f0 t0 a0 b0:Int}{plank:Int}{pc tc sc kc:Array Value}{op ot os:Option Addr}{cp ct ns cs:Nat}
theorem Tryz.pt1_t(Q:Value→Prop)(K:AS→Prop):tx (Tryz.X []) Q K (.rk 13 2 (.val 2 9 13 (.rk 2 0 (.br 10 4 6 (.br 0 4 10 (.br 5 4 6 (.br 0 4 10 (.br 15 9 9 .no (.br 14 6 10 (.br 0 6 16 (.br 0 6 22 (.ret 24 1) .no) .no) .no)) .no) .no) .no) .no)))) ⟨AFr.enter Tryz.prog 119 ⟨[.agg ⟨[.int .i64 plank,.slice op np cp,.slice (some ⟨1,0,none⟩) 1 ct,.slice os ns cs]⟩]⟩,[],hOf 4 (L4 pc ⟨[.int .i64 f0,.int .i64 t0,.int .i64 a0,.int .i64 b0]⟩ sc kc)⟩=(RK (((decide (plank=plank) && (((decide (op=op) && decide (np=np)) && decide (cp=cp)) && (decide (ct=ct) && (((decide (os=os) && decide (ns=ns)) && decide (cs=cs)) && true)))) && (decide (f0=f0) && (decide (t0=t0) && ((decide (a0=a0) && (decide (b0=b0) && true)) && true))))) (∀x0,x0=((np:Nat):Int)→RK (((decide (a0=a0) && (decide (b0=b0) && true)) && true)) (BR (decide (f0≥0)) (BR (decide (f0 < x0)) (BR (decide (t0≥0)) (BR (decide (t0 < x0)) (BR (decide (f0≥t0)) (False) (BR (decide (0≤a0)) (BR (decide (a0≤b0)) (BR (decide (b0≤9999)) (Q (.int .i64 0)) (False)) (False)) (False))) (False)) (False)) (False)) (False)))):=by kernel_rfl
theorem Tryz.pt1(hnp:2≤np∧np≤5)(hv:Tps np [(f0,t0,a0,b0)]):Rets Tryz.prog (fun v _=>∃x:Int,x=0∧v = .int .i64 x) ⟨AFr.enter Tryz.prog 119 ⟨[.agg ⟨[.int .i64 plank,.slice op np cp,.slice (some ⟨1,0,none⟩) 1 ct,.slice os ns cs]⟩]⟩,[],hOf 4 (L4 pc ⟨[.int .i64 f0,.int .i64 t0,.int .i64 a0,.int .i64 b0]⟩ sc kc)⟩:=by
 refine txR_use (Tryz.ok noCt) (Tryz.pt1_t _ _) ?_
 simp only [Tps,and_true] at hv
 refine ⟨by simp,?_⟩
 intro x0 _
 iterate 9 (first|refine BR.rr ?_|refine BR.ll ?_|refine ⟨by simp,?_⟩)
 exact fun _=>⟨_,rfl,rfl⟩
end
section
variable{np:Nat}{f0 t0 a0 b0 f1 t1 a1 b1:Int}{plank:Int}{pc tc sc kc:Array Value}{op ot os:Option Addr}{cp ct ns cs:Nat}
theorem Tryz.pt2_t(Q:Value→Prop)(K:AS→Prop):tx (Tryz.X []) Q K (.rk 13 2 h26t1) ⟨AFr.enter Tryz.prog 119 ⟨[.agg ⟨[.int .i64 plank,.slice op np cp,.slice (some ⟨1,0,none⟩) 2 ct,.slice os ns cs]⟩]⟩,[],hOf 4 (L4 pc ⟨[.int .i64 f0,.int .i64 t0,.int .i64 a0,.int .i64 b0,.int .i64 f1,.int .i64 t1,.int .i64 a1,.int .i64 b1]⟩ sc kc)⟩=(RK (((decide (plank=plank) && (((decide (op=op) && decide (np=np)) && decide (cp=cp)) && (decide (ct=ct) && (((decide (os=os) && decide (ns=ns)) && decide (cs=cs)) && true)))) && (decide (f0=f0) && (decide (t0=t0) && ((decide (a0=a0) && (decide (b0=b0) && true)) && true))))) (∀x0,x0=((np:Nat):Int)→RK (((decide (a0=a0) && (decide (b0=b0) && true)) && true)) (BR (decide (f0≥0)) (BR (decide (f0 < x0)) (BR (decide (t0≥0)) (BR (decide (t0 < x0)) (BR (decide (f0≥t0)) (False) (BR (decide (0≤a0)) (BR (decide (a0≤b0)) (BR (decide (b0≤9999)) (RK (((decide (plank=plank) && (((decide (op=op) && decide (np=np)) && decide (cp=cp)) && (decide (ct=ct) && (((decide (os=os) && decide (ns=ns)) && decide (cs=cs)) && true)))) && (decide (f1=f1) && (decide (t1=t1) && ((decide (a1=a1) && (decide (b1=b1) && true)) && true))))) (∀x1,x1=((np:Nat):Int)→RK (((decide (a1=a1) && (decide (b1=b1) && true)) && true)) (BR (decide (f1≥0)) (BR (decide (f1 < x1)) (BR (decide (t1≥0)) (BR (decide (t1 < x1)) (BR (decide (f1≥t1)) (False) (BR (decide (0≤a1)) (BR (decide (a1≤b1)) (BR (decide (b1≤9999)) (Q (.int .i64 0)) (False)) (False)) (False))) (False)) (False)) (False)) (False)))) (False)) (False)) (False))) (False)) (False)) (False)) (False)))):=by kernel_rfl
theorem Tryz.pt2(hnp:2≤np∧np≤5)(hv:Tps np [(f0,t0,a0,b0),(f1,t1,a1,b1)]):Rets Tryz.prog (fun v _=>∃x:Int,x=0∧v = .int .i64 x) ⟨AFr.enter Tryz.prog 119 ⟨[.agg ⟨[.int .i64 plank,.slice op np cp,.slice (some ⟨1,0,none⟩) 2 ct,.slice os ns cs]⟩]⟩,[],hOf 4 (L4 pc ⟨[.int .i64 f0,.int .i64 t0,.int .i64 a0,.int .i64 b0,.int .i64 f1,.int .i64 t1,.int .i64 a1,.int .i64 b1]⟩ sc kc)⟩:=by
 refine txR_use (Tryz.ok noCt) (Tryz.pt2_t _ _) ?_
 simp only [Tps,and_true] at hv
 refine ⟨by simp,?_⟩
 intro x0 _
 iterate 10 (first|refine BR.rr ?_|refine BR.ll ?_|refine ⟨by simp,?_⟩)
 intro x1 _
 iterate 9 (first|refine BR.rr ?_|refine BR.ll ?_|refine ⟨by simp,?_⟩)
 exact fun _=>⟨_,rfl,rfl⟩
end
section
variable{np:Nat}{f0 t0 a0 b0 f1 t1 a1 b1 f2 t2 a2 b2:Int}{plank:Int}{pc tc sc kc:Array Value}{op ot os:Option Addr}{cp ct ns cs:Nat}
theorem Tryz.pt3_t(Q:Value→Prop)(K:AS→Prop):tx (Tryz.X []) Q K (.rk 13 2 (.val 2 9 13 (.rk 2 0 (.br 10 4 6 (.br 0 4 10 (.br 5 4 6 (.br 0 4 10 (.br 15 9 9 .no (.br 14 6 10 (.br 0 6 16 (.br 0 6 22 (.rk 29 2 h26t1) .no) .no) .no)) .no) .no) .no) .no)))) ⟨AFr.enter Tryz.prog 119 ⟨[.agg ⟨[.int .i64 plank,.slice op np cp,.slice (some ⟨1,0,none⟩) 3 ct,.slice os ns cs]⟩]⟩,[],hOf 4 (L4 pc ⟨[.int .i64 f0,.int .i64 t0,.int .i64 a0,.int .i64 b0,.int .i64 f1,.int .i64 t1,.int .i64 a1,.int .i64 b1,.int .i64 f2,.int .i64 t2,.int .i64 a2,.int .i64 b2]⟩ sc kc)⟩=(RK (((decide (plank=plank) && (((decide (op=op) && decide (np=np)) && decide (cp=cp)) && (decide (ct=ct) && (((decide (os=os) && decide (ns=ns)) && decide (cs=cs)) && true)))) && (decide (f0=f0) && (decide (t0=t0) && ((decide (a0=a0) && (decide (b0=b0) && true)) && true))))) (∀x0,x0=((np:Nat):Int)→RK (((decide (a0=a0) && (decide (b0=b0) && true)) && true)) (BR (decide (f0≥0)) (BR (decide (f0 < x0)) (BR (decide (t0≥0)) (BR (decide (t0 < x0)) (BR (decide (f0≥t0)) (False) (BR (decide (0≤a0)) (BR (decide (a0≤b0)) (BR (decide (b0≤9999)) (RK (((decide (plank=plank) && (((decide (op=op) && decide (np=np)) && decide (cp=cp)) && (decide (ct=ct) && (((decide (os=os) && decide (ns=ns)) && decide (cs=cs)) && true)))) && (decide (f1=f1) && (decide (t1=t1) && ((decide (a1=a1) && (decide (b1=b1) && true)) && true))))) (∀x1,x1=((np:Nat):Int)→RK (((decide (a1=a1) && (decide (b1=b1) && true)) && true)) (BR (decide (f1≥0)) (BR (decide (f1 < x1)) (BR (decide (t1≥0)) (BR (decide (t1 < x1)) (BR (decide (f1≥t1)) (False) (BR (decide (0≤a1)) (BR (decide (a1≤b1)) (BR (decide (b1≤9999)) (RK (((decide (plank=plank) && (((decide (op=op) && decide (np=np)) && decide (cp=cp)) && (decide (ct=ct) && (((decide (os=os) && decide (ns=ns)) && decide (cs=cs)) && true)))) && (decide (f2=f2) && (decide (t2=t2) && ((decide (a2=a2) && (decide (b2=b2) && true)) && true))))) (∀x2,x2=((np:Nat):Int)→RK (((decide (a2=a2) && (decide (b2=b2) && true)) && true)) (BR (decide (f2≥0)) (BR (decide (f2 < x2)) (BR (decide (t2≥0)) (BR (decide (t2 < x2)) (BR (decide (f2≥t2)) (False) (BR (decide (0≤a2)) (BR (decide (a2≤b2)) (BR (decide (b2≤9999)) (Q (.int .i64 0)) (False)) (False)) (False))) (False)) (False)) (False)) (False)))) (False)) (False)) (False))) (False)) (False)) (False)) (False)))) (False)) (False)) (False))) (False)) (False)) (False)) (False)))):=by kernel_rfl
theorem Tryz.pt3(hnp:2≤np∧np≤5)(hv:Tps np [(f0,t0,a0,b0),(f1,t1,a1,b1),(f2,t2,a2,b2)]):Rets Tryz.prog (fun v _=>∃x:Int,x=0∧v = .int .i64 x) ⟨AFr.enter Tryz.prog 119 ⟨[.agg ⟨[.int .i64 plank,.slice op np cp,.slice (some ⟨1,0,none⟩) 3 ct,.slice os ns cs]⟩]⟩,[],hOf 4 (L4 pc ⟨[.int .i64 f0,.int .i64 t0,.int .i64 a0,.int .i64 b0,.int .i64 f1,.int .i64 t1,.int .i64 a1,.int .i64 b1,.int .i64 f2,.int .i64 t2,.int .i64 a2,.int .i64 b2]⟩ sc kc)⟩:=by
 refine txR_use (Tryz.ok noCt) (Tryz.pt3_t _ _) ?_
 simp only [Tps,and_true] at hv
 refine ⟨by simp,?_⟩
 intro x0 _
 iterate 10 (first|refine BR.rr ?_|refine BR.ll ?_|refine ⟨by simp,?_⟩)
 intro x1 _
 iterate 10 (first|refine BR.rr ?_|refine BR.ll ?_|refine ⟨by simp,?_⟩)
 intro x2 _
 iterate 9 (first|refine BR.rr ?_|refine BR.ll ?_|refine ⟨by simp,?_⟩)
 exact fun _=>⟨_,rfl,rfl⟩
end
section
variable{np:Nat}{plank:Int}{pc tc sc kc:Array Value}{tv:Value}{os:Option Addr}{cp cs:Nat}
theorem Tryz.ps0_t(Q:Value→Prop)(K:AS→Prop):tx (Tryz.X []) Q K (.ret 20 1) ⟨AFr.enter Tryz.prog 120 ⟨[.agg ⟨[.int .i64 plank,.slice (some ⟨0,0,none⟩) np cp,tv,.slice os 0 cs]⟩]⟩,[],hOf 4 (L4 pc tc sc kc)⟩=(Q (.int .i64 0)):=by kernel_rfl
theorem Tryz.ps0{lo hi:Int}(hnp:2≤np∧np≤5)(hlo:nth pc.toList 0=some (.int .i64 lo))(hhi:nth pc.toList ((np - 1) * 3)=some (.int .i64 hi))(hv:Sts lo hi []):Rets Tryz.prog (fun v _=>∃x:Int,x=0∧v = .int .i64 x) ⟨AFr.enter Tryz.prog 120 ⟨[.agg ⟨[.int .i64 plank,.slice (some ⟨0,0,none⟩) np cp,tv,.slice os 0 cs]⟩]⟩,[],hOf 4 (L4 pc tc sc kc)⟩:=by
 refine txR_use (Tryz.ok noCt) (Tryz.ps0_t _ _) ?_
 exact fun _=>⟨_,rfl,rfl⟩
end
section
variable{np:Nat}{g0 m0:Int}{w0:Bool}{plank:Int}{pc tc sc kc:Array Value}{tv:Value}{os:Option Addr}{cp cs:Nat}
theorem Tryz.ps1_t(Q:Value→Prop)(K:AS→Prop):tx (Tryz.X []) Q K (.ov 15 6 (.lod 0 1 .i64 (.br 0 1 12 .no (.val 0 9 21 (.val 0 1 22 (.ov 0 0 (.lod 0 1 .i64 (.br 0 1 26 .no (.br 5 4 6 .no (.br 0 4 10 .no (.ret 22 1))))))))))) ⟨AFr.enter Tryz.prog 120 ⟨[.agg ⟨[.int .i64 plank,.slice (some ⟨0,0,none⟩) np cp,tv,.slice (some ⟨2,0,none⟩) 1 cs]⟩]⟩,[],hOf 4 (L4 pc tc ⟨[.int .i64 g0,.int .i64 m0,.bool w0]⟩ kc)⟩=(((0:Int)≤0∧0 < ((np:Nat):Int))∧∃x0:Int,nth pc.toList (0)=some (.int .i64 x0)∧BR (decide (g0 < x0)) (False) (∀x1,x1=((np:Nat):Int)→∀x2,x2=wi (x1 - 1)→((0:Int)≤x2∧x2 < ((np:Nat):Int))∧∃x4:Int,nth pc.toList (0+Int.toNat x2 * 3)=some (.int .i64 x4)∧BR (decide (g0 > x4)) (False) (BR (decide (m0 < 0)) (False) (BR (decide (m0 > 959)) (False) (Q (.int .i64 0)))))):=by kernel_rfl
theorem Tryz.ps1{lo hi:Int}(hnp:2≤np∧np≤5)(hlo:nth pc.toList 0=some (.int .i64 lo))(hhi:nth pc.toList ((np - 1) * 3)=some (.int .i64 hi))(hv:Sts lo hi [(g0,m0)]):Rets Tryz.prog (fun v _=>∃x:Int,x=0∧v = .int .i64 x) ⟨AFr.enter Tryz.prog 120 ⟨[.agg ⟨[.int .i64 plank,.slice (some ⟨0,0,none⟩) np cp,tv,.slice (some ⟨2,0,none⟩) 1 cs]⟩]⟩,[],hOf 4 (L4 pc tc ⟨[.int .i64 g0,.int .i64 m0,.bool w0]⟩ kc)⟩:=by
 refine txR_use (Tryz.ok noCt) (Tryz.ps1_t _ _) ?_
 simp only [Sts,and_true] at hv
 refine ⟨⟨by omega,by omega⟩,?_⟩
 refine ⟨lo,hlo,?_⟩
 obtain ⟨x0,ex⟩:∃x0,x0=lo:=⟨_,rfl⟩
 rw [←ex]
 refine BR.rr ?_
 intro x1 _
 refine va fun x2 _=>?_
 refine ⟨⟨by omega,by omega⟩,?_⟩
 refine ⟨hi,by rw [show 0+Int.toNat x2 * 3=(np - 1) * 3 by omega];exact hhi,?_⟩
 obtain ⟨x4,ex⟩:∃x4,x4=hi:=⟨_,rfl⟩
 rw [←ex]
 iterate 3 refine BR.rr ?_
 exact fun _=>⟨_,rfl,rfl⟩
end
section
variable{np:Nat}{g0 m0 g1 m1:Int}{w0 w1:Bool}{plank:Int}{pc tc sc kc:Array Value}{tv:Value}{os:Option Addr}{cp cs:Nat}
theorem Tryz.ps2_t(Q:Value→Prop)(K:AS→Prop):tx (Tryz.X []) Q K (.ov 15 6 h26t2) ⟨AFr.enter Tryz.prog 120 ⟨[.agg ⟨[.int .i64 plank,.slice (some ⟨0,0,none⟩) np cp,tv,.slice (some ⟨2,0,none⟩) 2 cs]⟩]⟩,[],hOf 4 (L4 pc tc ⟨[.int .i64 g0,.int .i64 m0,.bool w0,.int .i64 g1,.int .i64 m1,.bool w1]⟩ kc)⟩=(((0:Int)≤0∧0 < ((np:Nat):Int))∧∃x0:Int,nth pc.toList (0)=some (.int .i64 x0)∧BR (decide (g0 < x0)) (False) (∀x1,x1=((np:Nat):Int)→∀x2,x2=wi (x1 - 1)→((0:Int)≤x2∧x2 < ((np:Nat):Int))∧∃x4:Int,nth pc.toList (0+Int.toNat x2 * 3)=some (.int .i64 x4)∧BR (decide (g0 > x4)) (False) (BR (decide (m0 < 0)) (False) (BR (decide (m0 > 959)) (False) (((0:Int)≤0∧0 < ((np:Nat):Int))∧∃x5:Int,nth pc.toList (0)=some (.int .i64 x5)∧BR (decide (g1 < x5)) (False) (∀x6,x6=((np:Nat):Int)→∀x7,x7=wi (x6 - 1)→((0:Int)≤x7∧x7 < ((np:Nat):Int))∧∃x9:Int,nth pc.toList (0+Int.toNat x7 * 3)=some (.int .i64 x9)∧BR (decide (g1 > x9)) (False) (BR (decide (m1 < 0)) (False) (BR (decide (m1 > 959)) (False) (Q (.int .i64 0)))))))))):=by kernel_rfl
theorem Tryz.ps2{lo hi:Int}(hnp:2≤np∧np≤5)(hlo:nth pc.toList 0=some (.int .i64 lo))(hhi:nth pc.toList ((np - 1) * 3)=some (.int .i64 hi))(hv:Sts lo hi [(g0,m0),(g1,m1)]):Rets Tryz.prog (fun v _=>∃x:Int,x=0∧v = .int .i64 x) ⟨AFr.enter Tryz.prog 120 ⟨[.agg ⟨[.int .i64 plank,.slice (some ⟨0,0,none⟩) np cp,tv,.slice (some ⟨2,0,none⟩) 2 cs]⟩]⟩,[],hOf 4 (L4 pc tc ⟨[.int .i64 g0,.int .i64 m0,.bool w0,.int .i64 g1,.int .i64 m1,.bool w1]⟩ kc)⟩:=by
 refine txR_use (Tryz.ok noCt) (Tryz.ps2_t _ _) ?_
 simp only [Sts,and_true] at hv
 refine ⟨⟨by omega,by omega⟩,?_⟩
 refine ⟨lo,hlo,?_⟩
 obtain ⟨x0,ex⟩:∃x0,x0=lo:=⟨_,rfl⟩
 rw [←ex]
 refine BR.rr ?_
 intro x1 _
 refine va fun x2 _=>?_
 refine ⟨⟨by omega,by omega⟩,?_⟩
 refine ⟨hi,by rw [show 0+Int.toNat x2 * 3=(np - 1) * 3 by omega];exact hhi,?_⟩
 obtain ⟨x4,ex⟩:∃x4,x4=hi:=⟨_,rfl⟩
 rw [←ex]
 iterate 3 refine BR.rr ?_
 refine ⟨⟨by omega,by omega⟩,?_⟩
 refine ⟨lo,hlo,?_⟩
 obtain ⟨x5,ex⟩:∃x5,x5=lo:=⟨_,rfl⟩
 rw [←ex]
 refine BR.rr ?_
 intro x6 _
 refine va fun x7 _=>?_
 refine ⟨⟨by omega,by omega⟩,?_⟩
 refine ⟨hi,by rw [show 0+Int.toNat x7 * 3=(np - 1) * 3 by omega];exact hhi,?_⟩
 obtain ⟨x9,ex⟩:∃x9,x9=hi:=⟨_,rfl⟩
 rw [←ex]
 iterate 3 refine BR.rr ?_
 exact fun _=>⟨_,rfl,rfl⟩
end
section
variable{np:Nat}{g0 m0 g1 m1 g2 m2:Int}{w0 w1 w2:Bool}{plank:Int}{pc tc sc kc:Array Value}{tv:Value}{os:Option Addr}{cp cs:Nat}
theorem Tryz.ps3_t(Q:Value→Prop)(K:AS→Prop):tx (Tryz.X []) Q K (.ov 15 6 (.lod 0 1 .i64 (.br 0 1 12 .no (.val 0 9 21 (.val 0 1 22 (.ov 0 0 (.lod 0 1 .i64 (.br 0 1 26 .no (.br 5 4 6 .no (.br 0 4 10 .no (.ov 17 6 h26t2))))))))))) ⟨AFr.enter Tryz.prog 120 ⟨[.agg ⟨[.int .i64 plank,.slice (some ⟨0,0,none⟩) np cp,tv,.slice (some ⟨2,0,none⟩) 3 cs]⟩]⟩,[],hOf 4 (L4 pc tc ⟨[.int .i64 g0,.int .i64 m0,.bool w0,.int .i64 g1,.int .i64 m1,.bool w1,.int .i64 g2,.int .i64 m2,.bool w2]⟩ kc)⟩=(((0:Int)≤0∧0 < ((np:Nat):Int))∧∃x0:Int,nth pc.toList (0)=some (.int .i64 x0)∧BR (decide (g0 < x0)) (False) (∀x1,x1=((np:Nat):Int)→∀x2,x2=wi (x1 - 1)→((0:Int)≤x2∧x2 < ((np:Nat):Int))∧∃x4:Int,nth pc.toList (0+Int.toNat x2 * 3)=some (.int .i64 x4)∧BR (decide (g0 > x4)) (False) (BR (decide (m0 < 0)) (False) (BR (decide (m0 > 959)) (False) (((0:Int)≤0∧0 < ((np:Nat):Int))∧∃x5:Int,nth pc.toList (0)=some (.int .i64 x5)∧BR (decide (g1 < x5)) (False) (∀x6,x6=((np:Nat):Int)→∀x7,x7=wi (x6 - 1)→((0:Int)≤x7∧x7 < ((np:Nat):Int))∧∃x9:Int,nth pc.toList (0+Int.toNat x7 * 3)=some (.int .i64 x9)∧BR (decide (g1 > x9)) (False) (BR (decide (m1 < 0)) (False) (BR (decide (m1 > 959)) (False) (((0:Int)≤0∧0 < ((np:Nat):Int))∧∃x10:Int,nth pc.toList (0)=some (.int .i64 x10)∧BR (decide (g2 < x10)) (False) (∀x11,x11=((np:Nat):Int)→∀x12,x12=wi (x11 - 1)→((0:Int)≤x12∧x12 < ((np:Nat):Int))∧∃x14:Int,nth pc.toList (0+Int.toNat x12 * 3)=some (.int .i64 x14)∧BR (decide (g2 > x14)) (False) (BR (decide (m2 < 0)) (False) (BR (decide (m2 > 959)) (False) (Q (.int .i64 0)))))))))))))):=by kernel_rfl
theorem Tryz.ps3{lo hi:Int}(hnp:2≤np∧np≤5)(hlo:nth pc.toList 0=some (.int .i64 lo))(hhi:nth pc.toList ((np - 1) * 3)=some (.int .i64 hi))(hv:Sts lo hi [(g0,m0),(g1,m1),(g2,m2)]):Rets Tryz.prog (fun v _=>∃x:Int,x=0∧v = .int .i64 x) ⟨AFr.enter Tryz.prog 120 ⟨[.agg ⟨[.int .i64 plank,.slice (some ⟨0,0,none⟩) np cp,tv,.slice (some ⟨2,0,none⟩) 3 cs]⟩]⟩,[],hOf 4 (L4 pc tc ⟨[.int .i64 g0,.int .i64 m0,.bool w0,.int .i64 g1,.int .i64 m1,.bool w1,.int .i64 g2,.int .i64 m2,.bool w2]⟩ kc)⟩:=by
 refine txR_use (Tryz.ok noCt) (Tryz.ps3_t _ _) ?_
 simp only [Sts,and_true] at hv
 refine ⟨⟨by omega,by omega⟩,?_⟩
 refine ⟨lo,hlo,?_⟩
 obtain ⟨x0,ex⟩:∃x0,x0=lo:=⟨_,rfl⟩
 rw [←ex]
 refine BR.rr ?_
 intro x1 _
 refine va fun x2 _=>?_
 refine ⟨⟨by omega,by omega⟩,?_⟩
 refine ⟨hi,by rw [show 0+Int.toNat x2 * 3=(np - 1) * 3 by omega];exact hhi,?_⟩
 obtain ⟨x4,ex⟩:∃x4,x4=hi:=⟨_,rfl⟩
 rw [←ex]
 iterate 3 refine BR.rr ?_
 refine ⟨⟨by omega,by omega⟩,?_⟩
 refine ⟨lo,hlo,?_⟩
 obtain ⟨x5,ex⟩:∃x5,x5=lo:=⟨_,rfl⟩
 rw [←ex]
 refine BR.rr ?_
 intro x6 _
 refine va fun x7 _=>?_
 refine ⟨⟨by omega,by omega⟩,?_⟩
 refine ⟨hi,by rw [show 0+Int.toNat x7 * 3=(np - 1) * 3 by omega];exact hhi,?_⟩
 obtain ⟨x9,ex⟩:∃x9,x9=hi:=⟨_,rfl⟩
 rw [←ex]
 iterate 3 refine BR.rr ?_
 refine ⟨⟨by omega,by omega⟩,?_⟩
 refine ⟨lo,hlo,?_⟩
 obtain ⟨x10,ex⟩:∃x10,x10=lo:=⟨_,rfl⟩
 rw [←ex]
 refine BR.rr ?_
 intro x11 _
 refine va fun x12 _=>?_
 refine ⟨⟨by omega,by omega⟩,?_⟩
 refine ⟨hi,by rw [show 0+Int.toNat x12 * 3=(np - 1) * 3 by omega];exact hhi,?_⟩
 obtain ⟨x14,ex⟩:∃x14,x14=hi:=⟨_,rfl⟩
 rw [←ex]
 iterate 3 refine BR.rr ?_
 exact fun _=>⟨_,rfl,rfl⟩
end
section
variable{plank:Int}{pv tv sv:Value}{pc tc sc kc:Array Value}
theorem Tryz.sn_t(Q:Value→Prop)(K:AS→Prop):∀v0:Prop,v0=(AE ⟨[.agg ⟨[.int .i64 plank,pv,tv,sv]⟩]⟩)→tx (Tryz.X [⟨118,fun _ _=>[],4,fun _=>L4 pc tc sc kc,fun _=>⟨[.agg ⟨[.int .i64 plank,pv,tv,sv]⟩]⟩,fun _=>True,fun _ x=>x=0,fun x=>.int .i64 x⟩,⟨119,fun _ _=>[],4,fun _=>L4 pc tc sc kc,fun _=>⟨[.agg ⟨[.int .i64 plank,pv,tv,sv]⟩]⟩,fun _=>True,fun _ x=>x=0,fun x=>.int .i64 x⟩,⟨120,fun _ _=>[],4,fun _=>L4 pc tc sc kc,fun _=>⟨[.agg ⟨[.int .i64 plank,pv,tv,sv]⟩]⟩,fun _=>True,fun _ x=>x=0,fun x=>.int .i64 x⟩]) Q K (.br 9 4 6 .no (.br 0 4 10 .no (.call 16 4 (.br 1 4 16 .no (.call 7 4 (.br 1 4 16 .no (.call 7 4 (.br 1 4 16 .no (.ret 8 1))))))))) ⟨AFr.enter Tryz.prog 87 ⟨[.agg ⟨[.int .i64 plank,pv,tv,sv]⟩]⟩,[],hOf 4 (L4 pc tc sc kc)⟩=(BR (decide (plank < 0)) (False) (BR (decide (plank > 20)) (False) ((v0∧(E4 pc tc sc kc)∧True)∧∀x0:Int,(x0=0)→RK (true) (BR (!decide (x0=0)) (False) ((v0∧(E4 pc tc sc kc)∧True)∧∀x1:Int,(x1=0)→RK (true) (BR (!decide (x1=0)) (False) ((v0∧(E4 pc tc sc kc)∧True)∧∀x2:Int,(x2=0)→RK (true) (BR (!decide (x2=0)) (False) (Q (.int .i64 0)))))))))):=by
 rintro _ rfl
 kernel_rfl
theorem Tryz.sn(hp:0≤plank∧plank≤20)(hc:∀c∈[⟨118,fun _ _=>[],4,fun _=>L4 pc tc sc kc,fun _=>⟨[.agg ⟨[.int .i64 plank,pv,tv,sv]⟩]⟩,fun _=>True,fun _ x=>x=0,fun x=>.int .i64 x⟩,⟨119,fun _ _=>[],4,fun _=>L4 pc tc sc kc,fun _=>⟨[.agg ⟨[.int .i64 plank,pv,tv,sv]⟩]⟩,fun _=>True,fun _ x=>x=0,fun x=>.int .i64 x⟩,⟨120,fun _ _=>[],4,fun _=>L4 pc tc sc kc,fun _=>⟨[.agg ⟨[.int .i64 plank,pv,tv,sv]⟩]⟩,fun _=>True,fun _ x=>x=0,fun x=>.int .i64 x⟩],CtOk Tryz.prog c):Rets Tryz.prog (fun v _=>∃x:Int,x=0∧v = .int .i64 x) ⟨AFr.enter Tryz.prog 87 ⟨[.agg ⟨[.int .i64 plank,pv,tv,sv]⟩]⟩,[],hOf 4 (L4 pc tc sc kc)⟩:=by
 refine txR_use (Tryz.ok hc) (Tryz.sn_t _ _ _ rfl) ?_
 iterate 2 refine BR.rr ?_
 refine ⟨⟨rfl,E4i,trivial⟩,fun x0 _=>⟨rfl,?_⟩⟩
 refine BR.nr (by omega) ?_
 refine ⟨⟨rfl,E4i,trivial⟩,fun x1 _=>⟨rfl,?_⟩⟩
 refine BR.nr (by omega) ?_
 refine ⟨⟨rfl,E4i,trivial⟩,fun x2 _=>⟨rfl,?_⟩⟩
 refine BR.nr (by omega) ?_
 exact fun _=>⟨_,rfl,rfl⟩
end
end Go.Am
namespace Go.Am
open Go.Proofs
abbrev I(n:Int):Value:=.int .i64 n
abbrev Wr(n:Int):Int:=IntKind.i64.wrap n
def fpt:Value:=.func (.func 80) #[] #[.pointer (some ⟨0,0,none⟩)]
noncomputable def hpN(n:Int):AH:=⟨1,trL [(0,⟨.cells ⟨[I n]⟩ 3 (0,0),none,false,0⟩)],fmL []⟩
noncomputable def frRoot(n:Int):AFr:=⟨42,#[I n,.pointer (some ⟨0,0,none⟩),I 0,I n,I (n+1),fpt,undef,undef],[.region (opsAt 42 [1,0]) [3,4,5],.code .ret],[],false,none,false⟩
noncomputable def SL(n i j:Int)(x7 x9 x10 x11 x12 x13 x14 x15 x16 x17 x18 x19 x20 x21 x22 x23 x24:Value):AS:=
 ⟨⟨79,#[I (n+1),fpt,undef,undef,I 0,I i,I j,x7,I (n+1),x9,x10,x11,x12,x13,x14,x15,x16,x17,x18,x19,x20,x21,x22,x23,x24,undef],[.code (at_ 79 [1,1,0,0,0]),.inLoop (at_ 79 [1,1,0,0,0]),.inBlock 0,.code (at_ 79 [1,1,1])],[],false,none,false⟩,[frRoot n],hpN n⟩
theorem root_in(n:Int):runG Tryz.prog plan [(9,4,I (n+1))] 15 ⟨AFr.enter Tryz.prog 42 #[I n],[],h0⟩=some ([(I (Wr (n+1)),I (n+1))],SL n 0 (n+1) undef undef undef undef undef undef undef undef undef undef undef undef undef undef undef undef undef):=by kernel_rfl
section
variable(n i j h:Int)(x7 x9 x10 x11 x12 x13 x14 x15 x16 x17 x18 x19 x20 x21 x22 x23 x24:Value)
theorem root_lo:runG Tryz.prog plan [(6,11,.bool true),(9,14,I (i+j)),(1,15,.int .u64 (i+j)),(1,16,.int .u64 h),(1,17,I h),(16,6,I (h * h)),(2,8,.bool false),(10,23,I (h+1))] 4 (SL n i j x7 x9 x10 x11 x12 x13 x14 x15 x16 x17 x18 x19 x20 x21 x22 x23 x24) =
   some ([(.bool (decide (i < j)),.bool true),(I (Wr (i+j)),I (i+j)),(.int .u64 (IntKind.u64.wrap (i+j)),.int .u64 (i+j)),(.int .u64 ((i+j).fdiv 2),.int .u64 h),(I (Wr h),I h),(I (Wr (h * h)),I (h * h)),(.bool (decide (h * h > n)),.bool false),(I (Wr (h+1)),I (h+1))],
    SL n (h+1) j (I h) (I i) (I j) (.bool true) (I i) (I j) (I (i+j)) (.int .u64 (i+j)) (.int .u64 h) (I h) fpt (I h) (.bool false) (.bool true) (I h) (I (h+1)) x24):=by kernel_rfl
theorem root_hi:runG Tryz.prog plan [(6,11,.bool true),(9,14,I (i+j)),(1,15,.int .u64 (i+j)),(1,16,.int .u64 h),(1,17,I h),(16,6,I (h * h)),(2,8,.bool true)] 13 (SL n i j x7 x9 x10 x11 x12 x13 x14 x15 x16 x17 x18 x19 x20 x21 x22 x23 x24) =
   some ([(.bool (decide (i < j)),.bool true),(I (Wr (i+j)),I (i+j)),(.int .u64 (IntKind.u64.wrap (i+j)),.int .u64 (i+j)),(.int .u64 ((i+j).fdiv 2),.int .u64 h),(I (Wr h),I h),(I (Wr (h * h)),I (h * h)),(.bool (decide (h * h > n)),.bool true)],
    SL n i h (I h) (I i) (I j) (.bool true) (I i) (I j) (I (i+j)) (.int .u64 (i+j)) (.int .u64 h) (I h) fpt (I h) (.bool true) (.bool false) x22 x23 (I h)):=by kernel_rfl
theorem root_out:runR Tryz.prog plan [(6,11,.bool false),(11,7,I (i - 1))] 5 (SL n i j x7 x9 x10 x11 x12 x13 x14 x15 x16 x17 x18 x19 x20 x21 x22 x23 x24) =
   some ([(.bool (decide (i < j)),.bool false),(I (Wr (i - 1)),I (i - 1))],I (i - 1),hpN n):=by kernel_rfl
end
theorem sq_lt{a b:Int}(h0:0≤a)(h:a < b):a * a < b * b:=by
 have h1:a * a≤a * b:=Int.mul_le_mul_of_nonneg_left (by omega) h0
 have h2:a * b < b * b:=Int.mul_lt_mul_of_pos_right h (by omega)
 omega
theorem sq_bound{a:Int}(h0:0≤a)(h:a≤4000000):a * a≤16000000000000:=by
 have:a * a≤4000000 * 4000000:=Int.mul_le_mul h h h0 (by omega)
 omega
def IsRoot(n r:Int):Prop:=0≤r∧r≤2000∧r * r≤n∧n < (r+1) * (r+1)
theorem root_loop(n:Int)(h0:0≤n)(h1:n≤4000000):∀(k:Nat) (i j:Int) (x7 x9 x10 x11 x12 x13 x14 x15 x16 x17 x18 x19 x20 x21 x22 x23 x24:Value),(j - i).toNat≤k→0≤i→i≤j→j≤n+1→(i=0∨(i - 1) * (i - 1)≤n)→n < j * j →
   AAll Tryz.prog plan (fun v _=>∃r,IsRoot n r∧v=I r) (SL n i j x7 x9 x10 x11 x12 x13 x14 x15 x16 x17 x18 x19 x20 x21 x22 x23 x24):=by
 intro k
 induction k with
 | zero=>
   intro i j x7 x9 x10 x11 x12 x13 x14 x15 x16 x17 x18 x19 x20 x21 x22 x23 x24 hk hi hij hj hl hu
   have e:i=j:=by omega
   subst e
   have hpos:1≤i:=by
    rcases Int.lt_or_le 0 i with hp|hp
    ·omega
    ·have:i=0:=by omega
     subst this
     simp at hu
     omega
   refine runR_all (root_out n i i x7 x9 x10 x11 x12 x13 x14 x15 x16 x17 x18 x19 x20 x21 x22 x23 x24) ?_ ⟨i - 1,⟨by omega,?_,?_,?_⟩,rfl⟩
   ·simp only [List.forall_mem_cons]
    exact ⟨bf (by omega),ie (wr_id (by omega) (by omega)),nil_ob⟩
   ·rcases hl with hl|hl
    ·omega
    ·rcases Int.lt_or_le 2000 (i - 1) with hp|hp
     ·have:=sq_lt (a:=2000) (b:=i - 1) (by omega) hp
      omega
     ·exact hp
   ·rcases hl with hl|hl
    ·omega
    ·exact hl
   ·have:i - 1+1=i:=by omega
    rw [this];exact hu
 | succ k ih=>
   intro i j x7 x9 x10 x11 x12 x13 x14 x15 x16 x17 x18 x19 x20 x21 x22 x23 x24 hk hi hij hj hl hu
   rcases Int.lt_or_le i j with hlt|hge
   ·have hd:(i+j).fdiv 2=(i+j) / 2:=Int.fdiv_eq_ediv_of_nonneg _ (by omega)
    obtain ⟨h,hh⟩:∃h,h=(i+j) / 2:=⟨_,rfl⟩
    have hb1:i≤h:=by omega
    have hb2:h < j:=by omega
    have hsq:=sq_bound (a:=h) (by omega) (by omega)
    have hsq0:0≤h * h:=Int.mul_nonneg (by omega) (by omega)
    have e1:(Value.int .u64 ((i+j).fdiv 2)) = .int .u64 h:=by rw [hd,hh]
    have e2:(Value.int .u64 (IntKind.u64.wrap (i+j))) = .int .u64 (i+j):=by rw [wu_id (by omega) (by omega)]
    rcases Int.lt_or_le n (h * h) with hc|hc
    ·refine (runG_reach (root_hi n i j h x7 x9 x10 x11 x12 x13 x14 x15 x16 x17 x18 x19 x20 x21 x22 x23 x24) ?_ (.here (ih _ _ _ _ _ _ _ _ _ _ _ _ _ _ _ _ _ _ _ (by omega) hi hb1 (by omega) hl hc))).all
     simp only [List.forall_mem_cons]
     exact ⟨bt hlt,ie (wr_id (by omega) (by omega)),e2,e1,ie (wr_id (by omega) (by omega)),ie (wr_id (by omega) (by omega)),bt hc,nil_ob⟩
    ·refine (runG_reach (root_lo n i j h x7 x9 x10 x11 x12 x13 x14 x15 x16 x17 x18 x19 x20 x21 x22 x23 x24) ?_ (.here (ih _ _ _ _ _ _ _ _ _ _ _ _ _ _ _ _ _ _ _ (by omega) (by omega) (by omega) hj (.inr ?_) hu))).all
     ·simp only [List.forall_mem_cons]
      exact ⟨bt hlt,ie (wr_id (by omega) (by omega)),e2,e1,ie (wr_id (by omega) (by omega)),ie (wr_id (by omega) (by omega)),bf (by omega),ie (wr_id (by omega) (by omega)),nil_ob⟩
     ·have:h+1 - 1=h:=by omega
      rw [this];exact hc
   ·exact ih i j _ _ _ _ _ _ _ _ _ _ _ _ _ _ _ _ _ (by omega) hi hij hj hl hu
theorem root_rets(n:Int)(hn0:0≤n)(hn1:n≤4000000):Rets Tryz.prog (fun v _=>∃r,IsRoot n r∧v=I r) ⟨AFr.enter Tryz.prog 42 #[I n],[],h0⟩:=by
 have hsq:(n+1) * 1≤(n+1) * (n+1):=Int.mul_le_mul_of_nonneg_left (by omega) (by omega)
 refine (runG_reach (root_in n) ?_ (.here (root_loop n hn0 hn1 (n+1).toNat 0 (n+1) _ _ _ _ _ _ _ _ _ _ _ _ _ _ _ _ _ (by omega) (by omega) (by omega) (by omega) (.inl rfl) (by omega)))).all.rets
 simp only [List.forall_mem_cons]
 exact ⟨ie (wr_id (by omega) (by omega)),nil_ob⟩
def IsRt(n r:Int):Prop:=0≤r∧r * r≤n∧n < (r+1) * (r+1)
theorem sq_le{a b:Int}(h0:0≤a)(h:a≤b):a * a≤b * b:=by
 have h1:a * a≤a * b:=Int.mul_le_mul_of_nonneg_left h h0
 have h2:a * b≤b * b:=Int.mul_le_mul_of_nonneg_right h (by omega)
 omega
theorem rt_un{n r q:Int}(h:IsRt n r)(k:IsRt n q):r=q:=by
 obtain ⟨h1,h2,h3⟩:=h
 obtain ⟨k1,k2,k3⟩:=k
 rcases Int.lt_trichotomy r q with l|l|l
 · have:=sq_le (a:=r+1) (b:=q) (by omega) (by omega);omega
 · exact l
 · have:=sq_le (a:=q+1) (b:=r) (by omega) (by omega);omega
open Classical in
noncomputable def rt(n:Int):Int:=if h:∃r,IsRt n r then h.choose else 0
theorem rt_of{n r:Int}(h:IsRt n r):r=rt n:=by
 have e:∃r,IsRt n r:=⟨r,h⟩
 unfold rt
 rw [dif_pos e]
 exact rt_un h e.choose_spec
theorem rt_ex:∀n:Nat,∃r:Int,IsRt n r
 | 0=>⟨0,by decide,by decide,by decide⟩
 | n+1=>by
   obtain ⟨r,h1,h2,h3⟩:=rt_ex n
   rcases Int.lt_or_le (n+1:Int) ((r+1) * (r+1)) with l|l
   ·exact ⟨r,h1,by push_cast;omega,by push_cast;exact l⟩
   ·refine ⟨r+1,by omega,by push_cast;exact l,?_⟩
    have:=sq_lt (a:=r+1) (b:=r+1+1) (by omega) (by omega)
    push_cast
    omega
theorem rt_is{n:Int}(h:0≤n):IsRt n (rt n):=by
 obtain ⟨r,hr⟩:=rt_ex n.toNat
 rw [Int.toNat_of_nonneg h] at hr
 rw [←rt_of hr]
 exact hr
theorem rt_bd{n x:Int}(h0:0≤n)(h1:n≤4000000)(e:x=rt n):0≤x∧x≤2000:=by
 obtain ⟨k1,k2,_⟩:=rt_is h0
 subst e
 refine ⟨k1,?_⟩
 rcases Int.lt_or_le 2000 (rt n) with l|l
 · have:=sq_le (a:=2001) (b:=rt n) (by omega) (by omega);omega
 · exact l
noncomputable def sg(h z q y:Int):Int:=rt ((q - h) * (q - h)+(y - z) * (y - z))
theorem sg_bd(h z q y:Int)(hl:h < q):q - h≤sg h z q y∧y - z≤sg h z q y∧z - y≤sg h z q y∧sg h z q y≤(q - h)+max (y - z) (z - y):=by
 unfold sg
 obtain ⟨a,ha⟩:∃a,a=q - h:=⟨_,rfl⟩
 obtain ⟨b,hb⟩:∃b,b=y - z:=⟨_,rfl⟩
 have hc:z - y = -b:=by omega
 rw [hc,←ha,←hb]
 have a0:0 < a:=by omega
 have sa:0≤a * a:=Int.mul_nonneg (by omega) (by omega)
 have sb:0≤b * b:=by rcases Int.le_total 0 b with l|l;exact Int.mul_nonneg l l;exact Int.mul_nonneg_of_nonpos_of_nonpos l l
 obtain ⟨k1,k2,k3⟩:=rt_is (n:=a * a+b * b) (by omega)
 obtain ⟨r,hr⟩:∃r,r=rt (a * a+b * b):=⟨_,rfl⟩
 rw [←hr] at k1 k2 k3 ⊢
 have up:∀c:Int,0≤c→c * c≤a * a+b * b→c≤r:=fun c h1 h2=>by
   rcases Int.lt_or_le r c with l|l
   ·have:=sq_le (a:=r+1) (b:=c) (by omega) (by omega);omega
   ·exact l
 have dn:∀c:Int,0≤c→a * a+b * b < (c+1) * (c+1)→r≤c:=fun c h1 h2=>by
   rcases Int.lt_or_le c r with l|l
   ·have:=sq_le (a:=c+1) (b:=r) (by omega) (by omega);omega
   ·exact l
 refine ⟨up a (by omega) (by omega),?_,?_,?_⟩
 · rcases Int.le_total 0 b with l|l
   ·exact up b l (by omega)
   ·omega
 · rcases Int.le_total 0 b with l|l
   ·omega
   ·refine up (-b) (by omega) ?_
    rw [Int.neg_mul_neg]
    omega
 · have pos:∀c:Int,0≤c→c * c=b * b→a * a+b * b < (a+c+1) * (a+c+1):=fun c h1 h2=>by
    have e1:=sq_lt (a:=a+c) (b:=a+c+1) (by omega) (by omega)
    have e2:(a+c) * (a+c)=a * a+c * c+(a * c+a * c):=by rw [Int.add_mul,Int.mul_add,Int.mul_add,Int.mul_comm c a];omega
    have e3:0≤a * c:=Int.mul_nonneg (by omega) h1
    omega
   rcases Int.le_total 0 b with l|l
   ·have:=dn (a+b) (by omega) (pos b l rfl)
    omega
   ·have:=dn (a + -b) (by omega) (pos (-b) (by omega) (Int.neg_mul_neg b b))
    omega
noncomputable def gs:List (Int×Int)→Int→Int→Int
 | (h,z) :: (q,y) :: r,f,t=>(if f≤0∧0 < t then sg h z q y else 0)+gs ((q,y) :: r) (f - 1) (t - 1)
 | _,_,_=>0
theorem gs_add:∀(L:List (Int×Int)) (i k j:Int),i≤k→k≤j→gs L i k+gs L k j=gs L i j
 | [],_,_,_,_,_=>rfl
 | [_],_,_,_,_,_=>rfl
 | (h,z) :: (q,y) :: r,i,k,j,h1,h2=>by
   have ih:=gs_add ((q,y) :: r) (i - 1) (k - 1) (j - 1) (by omega) (by omega)
   simp only [gs]
   by_cases c1:i≤0∧0 < k<;>by_cases c2:k≤0∧0 < j<;>by_cases c3:i≤0∧0 < j<;>simp only [c1,c2,c3,if_true,if_false]<;>omega
end Go.Am
