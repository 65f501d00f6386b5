import Derived.Test.YtbpcjpbcgeccbaaGreatH25
set_option linter.unusedVariables false
set_option linter.unusedSectionVars false
set_option linter.unusedSimpArgs false
namespace Go.Am
open Go.Proofs
section
variable{h0 l0 u0 h1 l1 u1:Int}{af:Int}{tc sc kc:Array Value}{tv sv:Value}{cp:Nat}
abbrev YQ:HT:=.br 0 4 10 .no (.br 15 8 8 .no (.br 16 6 10 (.br 0 6 16 (.br 0 6 22 (.val 6 11 17 (.br 0 1 18 .no (.br 31 4 6 .no (.br 0 4 10 .no (.br 15 8 8 .no (.br 16 6 10 (.br 0 6 16 (.br 0 6 22 (.val 6 11 17 (.br 0 1 18 .no (.br 31 4 6 .no (.br 0 4 10 .no (.br 15 8 8 .no (.br 16 6 10 (.br 0 6 16 (.br 0 6 22 (.val 6 11 17 (.br 0 1 18 .no (.ret 22 1))) .no) .no) .no)))))) .no) .no) .no)))))) .no) .no) .no))
abbrev YR:HT:=.val 2 9 13 (.rk 2 0 (.br 10 4 6 (.br 0 4 10 (.br 5 4 6 (.br 0 4 10 (.br 15 9 9 .no (.br 14 6 10 (.br 0 6 16 (.br 0 6 22 (.rk 29 2 (.val 2 9 13 (.rk 2 0 (.br 10 4 6 (.br 0 4 10 (.br 5 4 6 (.br 0 4 10 (.br 15 9 9 .no (.br 14 6 10 (.br 0 6 16 (.br 0 6 22 (.ret 24 1) .no) .no) .no)) .no) .no) .no) .no)))) .no) .no) .no)) .no) .no) .no) .no))
abbrev YS:HT:=.GR 0 1 .i64 (.br 0 1 12 .no (.val 0 9 21 (.val 0 1 22 (.ov 0 0 (.GR 0 1 .i64 (.br 0 1 26 .no (.br 5 4 6 .no (.br 0 4 10 .no (.ov 17 6 (.GR 0 1 .i64 (.br 0 1 12 .no (.val 0 9 21 (.val 0 1 22 (.ov 0 0 (.GR 0 1 .i64 (.br 0 1 26 .no (.br 5 4 6 .no (.br 0 4 10 .no (.ret 22 1)))))))))))))))))))
abbrev YT:HT:=.br 0 4 10 .no (.br 15 8 8 .no (.br 16 6 10 (.br 0 6 16 (.br 0 6 22 (.val 6 11 17 (.br 0 1 18 .no (.br 31 4 6 .no YQ))) .no) .no) .no))
theorem Tryz.aeX(Q:Value→Prop)(K:AS→Prop):tx (Tryz.X []) Q K (.br 18 4 6 .no (.br 0 4 10 .no (.br 15 8 8 .no (.br 16 6 10 (.br 0 6 16 (.br 0 6 22 (.val 6 11 17 (.br 0 1 18 .no (.br 31 4 6 .no (.br 0 4 10 .no (.br 15 8 8 .no (.br 16 6 10 (.br 0 6 16 (.br 0 6 22 (.val 6 11 17 (.br 0 1 18 .no (.ret 22 1))) .no) .no) .no)))))) .no) .no) .no)))) ⟨aB.enter Tryz.prog 118 ⟨[.agg ⟨[.int .i64 af,.slice (some ⟨0,0,none⟩) 2 cp,tv,sv]⟩]⟩,[],cu 4 (L4 ⟨[.int .i64 h0,.int .i64 l0,.int .i64 u0,.int .i64 h1,.int .i64 l1,.int .i64 u1]⟩ tc sc kc)⟩=(BR (decide (h0 < 0)) (False) (BR (decide (h0 > 959)) (False) (BR (decide (h0≤(-1))) (False) (BR (decide (0≤l0)) (BR (decide (l0≤u0)) (BR (decide (u0≤959)) (∀x0,x0=wi (u0 - l0)→BR (decide (x0≥3)) (False) (BR (decide (h1 < 0)) (False) (BR (decide (h1 > 959)) (False) (BR (decide (h1≤h0)) (False) (BR (decide (0≤l1)) (BR (decide (l1≤u1)) (BR (decide (u1≤959)) (∀x1,x1=wi (u1 - l1)→BR (decide (x1≥3)) (False) (Q (.int .i64 0))) (False)) (False)) (False)))))) (False)) (False)) (False))))):=by kernel_rfl
theorem Tryz.pp2(hv:lq [(h0,l0,u0),(h1,l1,u1)]):bJ Tryz.prog (fun v _=>∃x:Int,x=0∧v = .int .i64 x) ⟨aB.enter Tryz.prog 118 ⟨[.agg ⟨[.int .i64 af,.slice (some ⟨0,0,none⟩) 2 cp,tv,sv]⟩]⟩,[],cu 4 (L4 ⟨[.int .i64 h0,.int .i64 l0,.int .i64 u0,.int .i64 h1,.int .i64 l1,.int .i64 u1]⟩ tc sc kc)⟩:=by
 refine aJ (Tryz.ok dJ) (Tryz.aeX _ _) ?_
 simp only [lq,nM,and_true] at hv
 iterate 16 (first|refine BR.rr ?_|refine BR.ll ?_|refine va fun _ _=>?_)
 exact fun _=>⟨_,rfl,rfl⟩
end
section
variable{h0 l0 u0 h1 l1 u1 h2 l2 u2:Int}{af:Int}{tc sc kc:Array Value}{tv sv:Value}{cp:Nat}
theorem Tryz.aeY(Q:Value→Prop)(K:AS→Prop):tx (Tryz.X []) Q K (.br 18 4 6 .no YQ) ⟨aB.enter Tryz.prog 118 ⟨[.agg ⟨[.int .i64 af,.slice (some ⟨0,0,none⟩) 3 cp,tv,sv]⟩]⟩,[],cu 4 (L4 ⟨[.int .i64 h0,.int .i64 l0,.int .i64 u0,.int .i64 h1,.int .i64 l1,.int .i64 u1,.int .i64 h2,.int .i64 l2,.int .i64 u2]⟩ tc sc kc)⟩=(BR (decide (h0 < 0)) (False) (BR (decide (h0 > 959)) (False) (BR (decide (h0≤(-1))) (False) (BR (decide (0≤l0)) (BR (decide (l0≤u0)) (BR (decide (u0≤959)) (∀x0,x0=wi (u0 - l0)→BR (decide (x0≥3)) (False) (BR (decide (h1 < 0)) (False) (BR (decide (h1 > 959)) (False) (BR (decide (h1≤h0)) (False) (BR (decide (0≤l1)) (BR (decide (l1≤u1)) (BR (decide (u1≤959)) (∀x1,x1=wi (u1 - l1)→BR (decide (x1≥3)) (False) (BR (decide (h2 < 0)) (False) (BR (decide (h2 > 959)) (False) (BR (decide (h2≤h1)) (False) (BR (decide (0≤l2)) (BR (decide (l2≤u2)) (BR (decide (u2≤959)) (∀x2,x2=wi (u2 - l2)→BR (decide (x2≥3)) (False) (Q (.int .i64 0))) (False)) (False)) (False)))))) (False)) (False)) (False)))))) (False)) (False)) (False))))):=by kernel_rfl
theorem Tryz.pp3(hv:lq [(h0,l0,u0),(h1,l1,u1),(h2,l2,u2)]):bJ Tryz.prog (fun v _=>∃x:Int,x=0∧v = .int .i64 x) ⟨aB.enter Tryz.prog 118 ⟨[.agg ⟨[.int .i64 af,.slice (some ⟨0,0,none⟩) 3 cp,tv,sv]⟩]⟩,[],cu 4 (L4 ⟨[.int .i64 h0,.int .i64 l0,.int .i64 u0,.int .i64 h1,.int .i64 l1,.int .i64 u1,.int .i64 h2,.int .i64 l2,.int .i64 u2]⟩ tc sc kc)⟩:=by
 refine aJ (Tryz.ok dJ) (Tryz.aeY _ _) ?_
 simp only [lq,nM,and_true] at hv
 iterate 24 (first|refine BR.rr ?_|refine BR.ll ?_|refine va fun _ _=>?_)
 exact fun _=>⟨_,rfl,rfl⟩
end
section
variable{h0 l0 u0 h1 l1 u1 h2 l2 u2 h3 l3 u3:Int}{af:Int}{tc sc kc:Array Value}{tv sv:Value}{cp:Nat}
theorem Tryz.aeZ(Q:Value→Prop)(K:AS→Prop):tx (Tryz.X []) Q K (.br 18 4 6 .no YT) ⟨aB.enter Tryz.prog 118 ⟨[.agg ⟨[.int .i64 af,.slice (some ⟨0,0,none⟩) 4 cp,tv,sv]⟩]⟩,[],cu 4 (L4 ⟨[.int .i64 h0,.int .i64 l0,.int .i64 u0,.int .i64 h1,.int .i64 l1,.int .i64 u1,.int .i64 h2,.int .i64 l2,.int .i64 u2,.int .i64 h3,.int .i64 l3,.int .i64 u3]⟩ tc sc kc)⟩=(BR (decide (h0 < 0)) (False) (BR (decide (h0 > 959)) (False) (BR (decide (h0≤(-1))) (False) (BR (decide (0≤l0)) (BR (decide (l0≤u0)) (BR (decide (u0≤959)) (∀x0,x0=wi (u0 - l0)→BR (decide (x0≥3)) (False) (BR (decide (h1 < 0)) (False) (BR (decide (h1 > 959)) (False) (BR (decide (h1≤h0)) (False) (BR (decide (0≤l1)) (BR (decide (l1≤u1)) (BR (decide (u1≤959)) (∀x1,x1=wi (u1 - l1)→BR (decide (x1≥3)) (False) (BR (decide (h2 < 0)) (False) (BR (decide (h2 > 959)) (False) (BR (decide (h2≤h1)) (False) (BR (decide (0≤l2)) (BR (decide (l2≤u2)) (BR (decide (u2≤959)) (∀x2,x2=wi (u2 - l2)→BR (decide (x2≥3)) (False) (BR (decide (h3 < 0)) (False) (BR (decide (h3 > 959)) (False) (BR (decide (h3≤h2)) (False) (BR (decide (0≤l3)) (BR (decide (l3≤u3)) (BR (decide (u3≤959)) (∀x3,x3=wi (u3 - l3)→BR (decide (x3≥3)) (False) (Q (.int .i64 0))) (False)) (False)) (False)))))) (False)) (False)) (False)))))) (False)) (False)) (False)))))) (False)) (False)) (False))))):=by kernel_rfl
theorem Tryz.pp4(hv:lq [(h0,l0,u0),(h1,l1,u1),(h2,l2,u2),(h3,l3,u3)]):bJ Tryz.prog (fun v _=>∃x:Int,x=0∧v = .int .i64 x) ⟨aB.enter Tryz.prog 118 ⟨[.agg ⟨[.int .i64 af,.slice (some ⟨0,0,none⟩) 4 cp,tv,sv]⟩]⟩,[],cu 4 (L4 ⟨[.int .i64 h0,.int .i64 l0,.int .i64 u0,.int .i64 h1,.int .i64 l1,.int .i64 u1,.int .i64 h2,.int .i64 l2,.int .i64 u2,.int .i64 h3,.int .i64 l3,.int .i64 u3]⟩ tc sc kc)⟩:=by
 refine aJ (Tryz.ok dJ) (Tryz.aeZ _ _) ?_
 simp only [lq,nM,and_true] at hv
 iterate 32 (first|refine BR.rr ?_|refine BR.ll ?_|refine va fun _ _=>?_)
 exact fun _=>⟨_,rfl,rfl⟩
end
section
variable{h0 l0 u0 h1 l1 u1 h2 l2 u2 h3 l3 u3 h4 l4 u4:Int}{af:Int}{tc sc kc:Array Value}{tv sv:Value}{cp:Nat}
theorem Tryz.ae0(Q:Value→Prop)(K:AS→Prop):tx (Tryz.X []) Q K (.br 18 4 6 .no (.br 0 4 10 .no (.br 15 8 8 .no (.br 16 6 10 (.br 0 6 16 (.br 0 6 22 (.val 6 11 17 (.br 0 1 18 .no (.br 31 4 6 .no YT))) .no) .no) .no)))) ⟨aB.enter Tryz.prog 118 ⟨[.agg ⟨[.int .i64 af,.slice (some ⟨0,0,none⟩) 5 cp,tv,sv]⟩]⟩,[],cu 4 (L4 ⟨[.int .i64 h0,.int .i64 l0,.int .i64 u0,.int .i64 h1,.int .i64 l1,.int .i64 u1,.int .i64 h2,.int .i64 l2,.int .i64 u2,.int .i64 h3,.int .i64 l3,.int .i64 u3,.int .i64 h4,.int .i64 l4,.int .i64 u4]⟩ tc sc kc)⟩=(BR (decide (h0 < 0)) (False) (BR (decide (h0 > 959)) (False) (BR (decide (h0≤(-1))) (False) (BR (decide (0≤l0)) (BR (decide (l0≤u0)) (BR (decide (u0≤959)) (∀x0,x0=wi (u0 - l0)→BR (decide (x0≥3)) (False) (BR (decide (h1 < 0)) (False) (BR (decide (h1 > 959)) (False) (BR (decide (h1≤h0)) (False) (BR (decide (0≤l1)) (BR (decide (l1≤u1)) (BR (decide (u1≤959)) (∀x1,x1=wi (u1 - l1)→BR (decide (x1≥3)) (False) (BR (decide (h2 < 0)) (False) (BR (decide (h2 > 959)) (False) (BR (decide (h2≤h1)) (False) (BR (decide (0≤l2)) (BR (decide (l2≤u2)) (BR (decide (u2≤959)) (∀x2,x2=wi (u2 - l2)→BR (decide (x2≥3)) (False) (BR (decide (h3 < 0)) (False) (BR (decide (h3 > 959)) (False) (BR (decide (h3≤h2)) (False) (BR (decide (0≤l3)) (BR (decide (l3≤u3)) (BR (decide (u3≤959)) (∀x3,x3=wi (u3 - l3)→BR (decide (x3≥3)) (False) (BR (decide (h4 < 0)) (False) (BR (decide (h4 > 959)) (False) (BR (decide (h4≤h3)) (False) (BR (decide (0≤l4)) (BR (decide (l4≤u4)) (BR (decide (u4≤959)) (∀x4,x4=wi (u4 - l4)→BR (decide (x4≥3)) (False) (Q (.int .i64 0))) (False)) (False)) (False)))))) (False)) (False)) (False)))))) (False)) (False)) (False)))))) (False)) (False)) (False)))))) (False)) (False)) (False))))):=by kernel_rfl
theorem Tryz.pp5(hv:lq [(h0,l0,u0),(h1,l1,u1),(h2,l2,u2),(h3,l3,u3),(h4,l4,u4)]):bJ Tryz.prog (fun v _=>∃x:Int,x=0∧v = .int .i64 x) ⟨aB.enter Tryz.prog 118 ⟨[.agg ⟨[.int .i64 af,.slice (some ⟨0,0,none⟩) 5 cp,tv,sv]⟩]⟩,[],cu 4 (L4 ⟨[.int .i64 h0,.int .i64 l0,.int .i64 u0,.int .i64 h1,.int .i64 l1,.int .i64 u1,.int .i64 h2,.int .i64 l2,.int .i64 u2,.int .i64 h3,.int .i64 l3,.int .i64 u3,.int .i64 h4,.int .i64 l4,.int .i64 u4]⟩ tc sc kc)⟩:=by
 refine aJ (Tryz.ok dJ) (Tryz.ae0 _ _) ?_
 simp only [lq,nM,and_true] at hv
 iterate 40 (first|refine BR.rr ?_|refine BR.ll ?_|refine va fun _ _=>?_)
 exact fun _=>⟨_,rfl,rfl⟩
end
section
variable{np:Nat}{af:Int}{pc tc sc kc:Array Value}{op ot os:Option Addr}{cp ct ns cs:Nat}
theorem Tryz.ae1(Q:Value→Prop)(K:AS→Prop):tx (Tryz.X []) Q K (.ret 8 1) ⟨aB.enter Tryz.prog 119 ⟨[.agg ⟨[.int .i64 af,.slice op np cp,.slice ot 0 ct,.slice os ns cs]⟩]⟩,[],cu 4 (L4 pc tc sc kc)⟩=(Q (.int .i64 0)):=by kernel_rfl
theorem Tryz.pt0(hnp:2≤np∧np≤5)(hv:Ju np []):bJ Tryz.prog (fun v _=>∃x:Int,x=0∧v = .int .i64 x) ⟨aB.enter Tryz.prog 119 ⟨[.agg ⟨[.int .i64 af,.slice op np cp,.slice ot 0 ct,.slice os ns cs]⟩]⟩,[],cu 4 (L4 pc tc sc kc)⟩:=by
 refine aJ (Tryz.ok dJ) (Tryz.ae1 _ _) ?_
 exact fun _=>⟨_,rfl,rfl⟩
end
section
variable{np:Nat}{f0 t0 a0 b0:Int}{af:Int}{pc tc sc kc:Array Value}{op ot os:Option Addr}{cp ct ns cs:Nat}
theorem Tryz.ae2(Q:Value→Prop)(K:AS→Prop):∀v0:Bool,v0=((decide (a0=a0) && (decide (b0=b0) && true)) && true)→tx (Tryz.X []) Q K (.rk 13 2 (.val 2 9 13 (.rk 2 0 (.br 10 4 6 (.br 0 4 10 (.br 5 4 6 (.br 0 4 10 (.br 15 9 9 .no (.br 14 6 10 (.br 0 6 16 (.br 0 6 22 (.ret 24 1) .no) .no) .no)) .no) .no) .no) .no)))) ⟨aB.enter Tryz.prog 119 ⟨[.agg ⟨[.int .i64 af,.slice op np cp,.slice (some ⟨1,0,none⟩) 1 ct,.slice os ns cs]⟩]⟩,[],cu 4 (L4 pc ⟨[.int .i64 f0,.int .i64 t0,.int .i64 a0,.int .i64 b0]⟩ sc kc)⟩=(RK (((decide (af=af) && (((decide (op=op) && decide (np=np)) && decide (cp=cp)) && (decide (ct=ct) && (((decide (os=os) && decide (ns=ns)) && decide (cs=cs)) && true)))) && (decide (f0=f0) && (decide (t0=t0) && v0)))) (∀x0,x0=((np:Nat):Int)→RK (v0) (BR (decide (f0≥0)) (BR (decide (f0 < x0)) (BR (decide (t0≥0)) (BR (decide (t0 < x0)) (BR (decide (f0≥t0)) (False) (BR (decide (0≤a0)) (BR (decide (a0≤b0)) (BR (decide (b0≤9999)) (Q (.int .i64 0)) (False)) (False)) (False))) (False)) (False)) (False)) (False)))):=by
 rintro _ rfl
 kernel_rfl
theorem Tryz.pt1(hnp:2≤np∧np≤5)(hv:Ju np [(f0,t0,a0,b0)]):bJ Tryz.prog (fun v _=>∃x:Int,x=0∧v = .int .i64 x) ⟨aB.enter Tryz.prog 119 ⟨[.agg ⟨[.int .i64 af,.slice op np cp,.slice (some ⟨1,0,none⟩) 1 ct,.slice os ns cs]⟩]⟩,[],cu 4 (L4 pc ⟨[.int .i64 f0,.int .i64 t0,.int .i64 a0,.int .i64 b0]⟩ sc kc)⟩:=by
 refine aJ (Tryz.ok dJ) (Tryz.ae2 _ _ _ rfl) ?_
 simp only [Ju,and_true] at hv
 refine ⟨by simp,?_⟩
 intro x0 _
 iterate 9 (first|refine BR.rr ?_|refine BR.ll ?_|refine ⟨by simp,?_⟩)
 exact fun _=>⟨_,rfl,rfl⟩
end
section
variable{np:Nat}{f0 t0 a0 b0 f1 t1 a1 b1:Int}{af:Int}{pc tc sc kc:Array Value}{op ot os:Option Addr}{cp ct ns cs:Nat}
theorem Tryz.ae3(Q:Value→Prop)(K:AS→Prop):∀v0:Bool,v0=(decide (af=af) && (((decide (op=op) && decide (np=np)) && decide (cp=cp)) && (decide (ct=ct) && (((decide (os=os) && decide (ns=ns)) && decide (cs=cs)) && true))))→∀v1:Bool,v1=((decide (a1=a1) && (decide (b1=b1) && true)) && true)→∀v2:Bool,v2=((decide (a0=a0) && (decide (b0=b0) && true)) && true)→tx (Tryz.X []) Q K (.rk 13 2 YR) ⟨aB.enter Tryz.prog 119 ⟨[.agg ⟨[.int .i64 af,.slice op np cp,.slice (some ⟨1,0,none⟩) 2 ct,.slice os ns cs]⟩]⟩,[],cu 4 (L4 pc ⟨[.int .i64 f0,.int .i64 t0,.int .i64 a0,.int .i64 b0,.int .i64 f1,.int .i64 t1,.int .i64 a1,.int .i64 b1]⟩ sc kc)⟩=(RK ((v0 && (decide (f0=f0) && (decide (t0=t0) && v2)))) (∀x0,x0=((np:Nat):Int)→RK (v2) (BR (decide (f0≥0)) (BR (decide (f0 < x0)) (BR (decide (t0≥0)) (BR (decide (t0 < x0)) (BR (decide (f0≥t0)) (False) (BR (decide (0≤a0)) (BR (decide (a0≤b0)) (BR (decide (b0≤9999)) (RK ((v0 && (decide (f1=f1) && (decide (t1=t1) && v1)))) (∀x1,x1=((np:Nat):Int)→RK (v1) (BR (decide (f1≥0)) (BR (decide (f1 < x1)) (BR (decide (t1≥0)) (BR (decide (t1 < x1)) (BR (decide (f1≥t1)) (False) (BR (decide (0≤a1)) (BR (decide (a1≤b1)) (BR (decide (b1≤9999)) (Q (.int .i64 0)) (False)) (False)) (False))) (False)) (False)) (False)) (False)))) (False)) (False)) (False))) (False)) (False)) (False)) (False)))):=by
 rintro _ rfl _ rfl _ rfl
 kernel_rfl
theorem Tryz.pt2(hnp:2≤np∧np≤5)(hv:Ju np [(f0,t0,a0,b0),(f1,t1,a1,b1)]):bJ Tryz.prog (fun v _=>∃x:Int,x=0∧v = .int .i64 x) ⟨aB.enter Tryz.prog 119 ⟨[.agg ⟨[.int .i64 af,.slice op np cp,.slice (some ⟨1,0,none⟩) 2 ct,.slice os ns cs]⟩]⟩,[],cu 4 (L4 pc ⟨[.int .i64 f0,.int .i64 t0,.int .i64 a0,.int .i64 b0,.int .i64 f1,.int .i64 t1,.int .i64 a1,.int .i64 b1]⟩ sc kc)⟩:=by
 refine aJ (Tryz.ok dJ) (Tryz.ae3 _ _ _ rfl _ rfl _ rfl) ?_
 simp only [Ju,and_true] at hv
 refine ⟨by simp,?_⟩
 intro x0 _
 iterate 10 (first|refine BR.rr ?_|refine BR.ll ?_|refine ⟨by simp,?_⟩)
 intro x1 _
 iterate 9 (first|refine BR.rr ?_|refine BR.ll ?_|refine ⟨by simp,?_⟩)
 exact fun _=>⟨_,rfl,rfl⟩
end
section
variable{np:Nat}{f0 t0 a0 b0 f1 t1 a1 b1 f2 t2 a2 b2:Int}{af:Int}{pc tc sc kc:Array Value}{op ot os:Option Addr}{cp ct ns cs:Nat}
theorem Tryz.ae4(Q:Value→Prop)(K:AS→Prop):∀v0:Bool,v0=(decide (af=af) && (((decide (op=op) && decide (np=np)) && decide (cp=cp)) && (decide (ct=ct) && (((decide (os=os) && decide (ns=ns)) && decide (cs=cs)) && true))))→∀v1:Bool,v1=((decide (a2=a2) && (decide (b2=b2) && true)) && true)→∀v2:Bool,v2=((decide (a1=a1) && (decide (b1=b1) && true)) && true)→∀v3:Bool,v3=((decide (a0=a0) && (decide (b0=b0) && true)) && true)→tx (Tryz.X []) Q K (.rk 13 2 (.val 2 9 13 (.rk 2 0 (.br 10 4 6 (.br 0 4 10 (.br 5 4 6 (.br 0 4 10 (.br 15 9 9 .no (.br 14 6 10 (.br 0 6 16 (.br 0 6 22 (.rk 29 2 YR) .no) .no) .no)) .no) .no) .no) .no)))) ⟨aB.enter Tryz.prog 119 ⟨[.agg ⟨[.int .i64 af,.slice op np cp,.slice (some ⟨1,0,none⟩) 3 ct,.slice os ns cs]⟩]⟩,[],cu 4 (L4 pc ⟨[.int .i64 f0,.int .i64 t0,.int .i64 a0,.int .i64 b0,.int .i64 f1,.int .i64 t1,.int .i64 a1,.int .i64 b1,.int .i64 f2,.int .i64 t2,.int .i64 a2,.int .i64 b2]⟩ sc kc)⟩=(RK ((v0 && (decide (f0=f0) && (decide (t0=t0) && v3)))) (∀x0,x0=((np:Nat):Int)→RK (v3) (BR (decide (f0≥0)) (BR (decide (f0 < x0)) (BR (decide (t0≥0)) (BR (decide (t0 < x0)) (BR (decide (f0≥t0)) (False) (BR (decide (0≤a0)) (BR (decide (a0≤b0)) (BR (decide (b0≤9999)) (RK ((v0 && (decide (f1=f1) && (decide (t1=t1) && v2)))) (∀x1,x1=((np:Nat):Int)→RK (v2) (BR (decide (f1≥0)) (BR (decide (f1 < x1)) (BR (decide (t1≥0)) (BR (decide (t1 < x1)) (BR (decide (f1≥t1)) (False) (BR (decide (0≤a1)) (BR (decide (a1≤b1)) (BR (decide (b1≤9999)) (RK ((v0 && (decide (f2=f2) && (decide (t2=t2) && v1)))) (∀x2,x2=((np:Nat):Int)→RK (v1) (BR (decide (f2≥0)) (BR (decide (f2 < x2)) (BR (decide (t2≥0)) (BR (decide (t2 < x2)) (BR (decide (f2≥t2)) (False) (BR (decide (0≤a2)) (BR (decide (a2≤b2)) (BR (decide (b2≤9999)) (Q (.int .i64 0)) (False)) (False)) (False))) (False)) (False)) (False)) (False)))) (False)) (False)) (False))) (False)) (False)) (False)) (False)))) (False)) (False)) (False))) (False)) (False)) (False)) (False)))):=by
 rintro _ rfl _ rfl _ rfl _ rfl
 kernel_rfl
theorem Tryz.pt3(hnp:2≤np∧np≤5)(hv:Ju np [(f0,t0,a0,b0),(f1,t1,a1,b1),(f2,t2,a2,b2)]):bJ Tryz.prog (fun v _=>∃x:Int,x=0∧v = .int .i64 x) ⟨aB.enter Tryz.prog 119 ⟨[.agg ⟨[.int .i64 af,.slice op np cp,.slice (some ⟨1,0,none⟩) 3 ct,.slice os ns cs]⟩]⟩,[],cu 4 (L4 pc ⟨[.int .i64 f0,.int .i64 t0,.int .i64 a0,.int .i64 b0,.int .i64 f1,.int .i64 t1,.int .i64 a1,.int .i64 b1,.int .i64 f2,.int .i64 t2,.int .i64 a2,.int .i64 b2]⟩ sc kc)⟩:=by
 refine aJ (Tryz.ok dJ) (Tryz.ae4 _ _ _ rfl _ rfl _ rfl _ rfl) ?_
 simp only [Ju,and_true] at hv
 refine ⟨by simp,?_⟩
 intro x0 _
 iterate 10 (first|refine BR.rr ?_|refine BR.ll ?_|refine ⟨by simp,?_⟩)
 intro x1 _
 iterate 10 (first|refine BR.rr ?_|refine BR.ll ?_|refine ⟨by simp,?_⟩)
 intro x2 _
 iterate 9 (first|refine BR.rr ?_|refine BR.ll ?_|refine ⟨by simp,?_⟩)
 exact fun _=>⟨_,rfl,rfl⟩
end
section
variable{np:Nat}{af:Int}{pc tc sc kc:Array Value}{tv:Value}{os:Option Addr}{cp cs:Nat}
theorem Tryz.ae5(Q:Value→Prop)(K:AS→Prop):tx (Tryz.X []) Q K (.ret 20 1) ⟨aB.enter Tryz.prog 120 ⟨[.agg ⟨[.int .i64 af,.slice (some ⟨0,0,none⟩) np cp,tv,.slice os 0 cs]⟩]⟩,[],cu 4 (L4 pc tc sc kc)⟩=(Q (.int .i64 0)):=by kernel_rfl
theorem Tryz.ps0{lo hi:Int}(hnp:2≤np∧np≤5)(hlo:nth pc.toList 0=some (.int .i64 lo))(hhi:nth pc.toList ((np - 1) * 3)=some (.int .i64 hi))(hv:Sts lo hi []):bJ Tryz.prog (fun v _=>∃x:Int,x=0∧v = .int .i64 x) ⟨aB.enter Tryz.prog 120 ⟨[.agg ⟨[.int .i64 af,.slice (some ⟨0,0,none⟩) np cp,tv,.slice os 0 cs]⟩]⟩,[],cu 4 (L4 pc tc sc kc)⟩:=by
 refine aJ (Tryz.ok dJ) (Tryz.ae5 _ _) ?_
 exact fun _=>⟨_,rfl,rfl⟩
end
section
variable{np:Nat}{g0 m0:Int}{w0:Bool}{af:Int}{pc tc sc kc:Array Value}{tv:Value}{os:Option Addr}{cp cs:Nat}
theorem Tryz.ae6(Q:Value→Prop)(K:AS→Prop):tx (Tryz.X []) Q K (.ov 15 6 (.GR 0 1 .i64 (.br 0 1 12 .no (.val 0 9 21 (.val 0 1 22 (.ov 0 0 (.GR 0 1 .i64 (.br 0 1 26 .no (.br 5 4 6 .no (.br 0 4 10 .no (.ret 22 1))))))))))) ⟨aB.enter Tryz.prog 120 ⟨[.agg ⟨[.int .i64 af,.slice (some ⟨0,0,none⟩) np cp,tv,.slice (some ⟨2,0,none⟩) 1 cs]⟩]⟩,[],cu 4 (L4 pc tc ⟨[.int .i64 g0,.int .i64 m0,.bool w0]⟩ kc)⟩=(((0:Int)≤0∧0 < ((np:Nat):Int))∧∃x0:Int,nth pc.toList (0)=some (.int .i64 x0)∧BR (decide (g0 < x0)) (False) (∀x1,x1=((np:Nat):Int)→∀x2,x2=wi (x1 - 1)→((0:Int)≤x2∧x2 < ((np:Nat):Int))∧∃x4:Int,nth pc.toList (0+Int.toNat x2 * 3)=some (.int .i64 x4)∧BR (decide (g0 > x4)) (False) (BR (decide (m0 < 0)) (False) (BR (decide (m0 > 959)) (False) (Q (.int .i64 0)))))):=by kernel_rfl
theorem Tryz.ps1{lo hi:Int}(hnp:2≤np∧np≤5)(hlo:nth pc.toList 0=some (.int .i64 lo))(hhi:nth pc.toList ((np - 1) * 3)=some (.int .i64 hi))(hv:Sts lo hi [(g0,m0)]):bJ Tryz.prog (fun v _=>∃x:Int,x=0∧v = .int .i64 x) ⟨aB.enter Tryz.prog 120 ⟨[.agg ⟨[.int .i64 af,.slice (some ⟨0,0,none⟩) np cp,tv,.slice (some ⟨2,0,none⟩) 1 cs]⟩]⟩,[],cu 4 (L4 pc tc ⟨[.int .i64 g0,.int .i64 m0,.bool w0]⟩ kc)⟩:=by
 refine aJ (Tryz.ok dJ) (Tryz.ae6 _ _) ?_
 simp only [Sts,and_true] at hv
 refine ⟨⟨by omega,by omega⟩,?_⟩
 refine ⟨lo,hlo,?_⟩
 obtain ⟨x0,ex⟩:∃x0,x0=lo:=⟨_,rfl⟩
 rw [←ex]
 refine BR.rr ?_
 intro x1 _
 refine va fun x2 _=>?_
 refine ⟨⟨by omega,by omega⟩,?_⟩
 refine ⟨hi,by rw [show 0+Int.toNat x2 * 3=(np - 1) * 3 by omega];exact hhi,?_⟩
 obtain ⟨x4,ex⟩:∃x4,x4=hi:=⟨_,rfl⟩
 rw [←ex]
 iterate 3 refine BR.rr ?_
 exact fun _=>⟨_,rfl,rfl⟩
end
section
variable{np:Nat}{g0 m0 g1 m1:Int}{w0 w1:Bool}{af:Int}{pc tc sc kc:Array Value}{tv:Value}{os:Option Addr}{cp cs:Nat}
theorem Tryz.ae7(Q:Value→Prop)(K:AS→Prop):tx (Tryz.X []) Q K (.ov 15 6 YS) ⟨aB.enter Tryz.prog 120 ⟨[.agg ⟨[.int .i64 af,.slice (some ⟨0,0,none⟩) np cp,tv,.slice (some ⟨2,0,none⟩) 2 cs]⟩]⟩,[],cu 4 (L4 pc tc ⟨[.int .i64 g0,.int .i64 m0,.bool w0,.int .i64 g1,.int .i64 m1,.bool w1]⟩ kc)⟩=(((0:Int)≤0∧0 < ((np:Nat):Int))∧∃x0:Int,nth pc.toList (0)=some (.int .i64 x0)∧BR (decide (g0 < x0)) (False) (∀x1,x1=((np:Nat):Int)→∀x2,x2=wi (x1 - 1)→((0:Int)≤x2∧x2 < ((np:Nat):Int))∧∃x4:Int,nth pc.toList (0+Int.toNat x2 * 3)=some (.int .i64 x4)∧BR (decide (g0 > x4)) (False) (BR (decide (m0 < 0)) (False) (BR (decide (m0 > 959)) (False) (((0:Int)≤0∧0 < ((np:Nat):Int))∧∃x5:Int,nth pc.toList (0)=some (.int .i64 x5)∧BR (decide (g1 < x5)) (False) (∀x6,x6=((np:Nat):Int)→∀x7,x7=wi (x6 - 1)→((0:Int)≤x7∧x7 < ((np:Nat):Int))∧∃x9:Int,nth pc.toList (0+Int.toNat x7 * 3)=some (.int .i64 x9)∧BR (decide (g1 > x9)) (False) (BR (decide (m1 < 0)) (False) (BR (decide (m1 > 959)) (False) (Q (.int .i64 0)))))))))):=by kernel_rfl
theorem Tryz.ps2{lo hi:Int}(hnp:2≤np∧np≤5)(hlo:nth pc.toList 0=some (.int .i64 lo))(hhi:nth pc.toList ((np - 1) * 3)=some (.int .i64 hi))(hv:Sts lo hi [(g0,m0),(g1,m1)]):bJ Tryz.prog (fun v _=>∃x:Int,x=0∧v = .int .i64 x) ⟨aB.enter Tryz.prog 120 ⟨[.agg ⟨[.int .i64 af,.slice (some ⟨0,0,none⟩) np cp,tv,.slice (some ⟨2,0,none⟩) 2 cs]⟩]⟩,[],cu 4 (L4 pc tc ⟨[.int .i64 g0,.int .i64 m0,.bool w0,.int .i64 g1,.int .i64 m1,.bool w1]⟩ kc)⟩:=by
 refine aJ (Tryz.ok dJ) (Tryz.ae7 _ _) ?_
 simp only [Sts,and_true] at hv
 refine ⟨⟨by omega,by omega⟩,?_⟩
 refine ⟨lo,hlo,?_⟩
 obtain ⟨x0,ex⟩:∃x0,x0=lo:=⟨_,rfl⟩
 rw [←ex]
 refine BR.rr ?_
 intro x1 _
 refine va fun x2 _=>?_
 refine ⟨⟨by omega,by omega⟩,?_⟩
 refine ⟨hi,by rw [show 0+Int.toNat x2 * 3=(np - 1) * 3 by omega];exact hhi,?_⟩
 obtain ⟨x4,ex⟩:∃x4,x4=hi:=⟨_,rfl⟩
 rw [←ex]
 iterate 3 refine BR.rr ?_
 refine ⟨⟨by omega,by omega⟩,?_⟩
 refine ⟨lo,hlo,?_⟩
 obtain ⟨x5,ex⟩:∃x5,x5=lo:=⟨_,rfl⟩
 rw [←ex]
 refine BR.rr ?_
 intro x6 _
 refine va fun x7 _=>?_
 refine ⟨⟨by omega,by omega⟩,?_⟩
 refine ⟨hi,by rw [show 0+Int.toNat x7 * 3=(np - 1) * 3 by omega];exact hhi,?_⟩
 obtain ⟨x9,ex⟩:∃x9,x9=hi:=⟨_,rfl⟩
 rw [←ex]
 iterate 3 refine BR.rr ?_
 exact fun _=>⟨_,rfl,rfl⟩
end
section
variable{np:Nat}{g0 m0 g1 m1 g2 m2:Int}{w0 w1 w2:Bool}{af:Int}{pc tc sc kc:Array Value}{tv:Value}{os:Option Addr}{cp cs:Nat}
theorem Tryz.ae8(Q:Value→Prop)(K:AS→Prop):tx (Tryz.X []) Q K (.ov 15 6 (.GR 0 1 .i64 (.br 0 1 12 .no (.val 0 9 21 (.val 0 1 22 (.ov 0 0 (.GR 0 1 .i64 (.br 0 1 26 .no (.br 5 4 6 .no (.br 0 4 10 .no (.ov 17 6 YS))))))))))) ⟨aB.enter Tryz.prog 120 ⟨[.agg ⟨[.int .i64 af,.slice (some ⟨0,0,none⟩) np cp,tv,.slice (some ⟨2,0,none⟩) 3 cs]⟩]⟩,[],cu 4 (L4 pc tc ⟨[.int .i64 g0,.int .i64 m0,.bool w0,.int .i64 g1,.int .i64 m1,.bool w1,.int .i64 g2,.int .i64 m2,.bool w2]⟩ kc)⟩=(((0:Int)≤0∧0 < ((np:Nat):Int))∧∃x0:Int,nth pc.toList (0)=some (.int .i64 x0)∧BR (decide (g0 < x0)) (False) (∀x1,x1=((np:Nat):Int)→∀x2,x2=wi (x1 - 1)→((0:Int)≤x2∧x2 < ((np:Nat):Int))∧∃x4:Int,nth pc.toList (0+Int.toNat x2 * 3)=some (.int .i64 x4)∧BR (decide (g0 > x4)) (False) (BR (decide (m0 < 0)) (False) (BR (decide (m0 > 959)) (False) (((0:Int)≤0∧0 < ((np:Nat):Int))∧∃x5:Int,nth pc.toList (0)=some (.int .i64 x5)∧BR (decide (g1 < x5)) (False) (∀x6,x6=((np:Nat):Int)→∀x7,x7=wi (x6 - 1)→((0:Int)≤x7∧x7 < ((np:Nat):Int))∧∃x9:Int,nth pc.toList (0+Int.toNat x7 * 3)=some (.int .i64 x9)∧BR (decide (g1 > x9)) (False) (BR (decide (m1 < 0)) (False) (BR (decide (m1 > 959)) (False) (((0:Int)≤0∧0 < ((np:Nat):Int))∧∃x10:Int,nth pc.toList (0)=some (.int .i64 x10)∧BR (decide (g2 < x10)) (False) (∀x11,x11=((np:Nat):Int)→∀x12,x12=wi (x11 - 1)→((0:Int)≤x12∧x12 < ((np:Nat):Int))∧∃x14:Int,nth pc.toList (0+Int.toNat x12 * 3)=some (.int .i64 x14)∧BR (decide (g2 > x14)) (False) (BR (decide (m2 < 0)) (False) (BR (decide (m2 > 959)) (False) (Q (.int .i64 0)))))))))))))):=by kernel_rfl
theorem Tryz.ps3{lo hi:Int}(hnp:2≤np∧np≤5)(hlo:nth pc.toList 0=some (.int .i64 lo))(hhi:nth pc.toList ((np - 1) * 3)=some (.int .i64 hi))(hv:Sts lo hi [(g0,m0),(g1,m1),(g2,m2)]):bJ Tryz.prog (fun v _=>∃x:Int,x=0∧v = .int .i64 x) ⟨aB.enter Tryz.prog 120 ⟨[.agg ⟨[.int .i64 af,.slice (some ⟨0,0,none⟩) np cp,tv,.slice (some ⟨2,0,none⟩) 3 cs]⟩]⟩,[],cu 4 (L4 pc tc ⟨[.int .i64 g0,.int .i64 m0,.bool w0,.int .i64 g1,.int .i64 m1,.bool w1,.int .i64 g2,.int .i64 m2,.bool w2]⟩ kc)⟩:=by
 refine aJ (Tryz.ok dJ) (Tryz.ae8 _ _) ?_
 simp only [Sts,and_true] at hv
 refine ⟨⟨by omega,by omega⟩,?_⟩
 refine ⟨lo,hlo,?_⟩
 obtain ⟨x0,ex⟩:∃x0,x0=lo:=⟨_,rfl⟩
 rw [←ex]
 refine BR.rr ?_
 intro x1 _
 refine va fun x2 _=>?_
 refine ⟨⟨by omega,by omega⟩,?_⟩
 refine ⟨hi,by rw [show 0+Int.toNat x2 * 3=(np - 1) * 3 by omega];exact hhi,?_⟩
 obtain ⟨x4,ex⟩:∃x4,x4=hi:=⟨_,rfl⟩
 rw [←ex]
 iterate 3 refine BR.rr ?_
 refine ⟨⟨by omega,by omega⟩,?_⟩
 refine ⟨lo,hlo,?_⟩
 obtain ⟨x5,ex⟩:∃x5,x5=lo:=⟨_,rfl⟩
 rw [←ex]
 refine BR.rr ?_
 intro x6 _
 refine va fun x7 _=>?_
 refine ⟨⟨by omega,by omega⟩,?_⟩
 refine ⟨hi,by rw [show 0+Int.toNat x7 * 3=(np - 1) * 3 by omega];exact hhi,?_⟩
 obtain ⟨x9,ex⟩:∃x9,x9=hi:=⟨_,rfl⟩
 rw [←ex]
 iterate 3 refine BR.rr ?_
 refine ⟨⟨by omega,by omega⟩,?_⟩
 refine ⟨lo,hlo,?_⟩
 obtain ⟨x10,ex⟩:∃x10,x10=lo:=⟨_,rfl⟩
 rw [←ex]
 refine BR.rr ?_
 intro x11 _
 refine va fun x12 _=>?_
 refine ⟨⟨by omega,by omega⟩,?_⟩
 refine ⟨hi,by rw [show 0+Int.toNat x12 * 3=(np - 1) * 3 by omega];exact hhi,?_⟩
 obtain ⟨x14,ex⟩:∃x14,x14=hi:=⟨_,rfl⟩
 rw [←ex]
 iterate 3 refine BR.rr ?_
 exact fun _=>⟨_,rfl,rfl⟩
end
section
variable{af:Int}{pv tv sv:Value}{pc tc sc kc:Array Value}
theorem Tryz.aiW(Q:Value→Prop)(K:AS→Prop):∀v0:Prop,v0=((AE ⟨[.agg ⟨[.int .i64 af,pv,tv,sv]⟩]⟩)∧(E4 pc tc sc kc)∧True)→tx (Tryz.X [⟨118,fun _ _=>[],4,fun _=>L4 pc tc sc kc,fun _=>⟨[.agg ⟨[.int .i64 af,pv,tv,sv]⟩]⟩,fun _=>True,fun _ x=>x=0,fun x=>.int .i64 x⟩,⟨119,fun _ _=>[],4,fun _=>L4 pc tc sc kc,fun _=>⟨[.agg ⟨[.int .i64 af,pv,tv,sv]⟩]⟩,fun _=>True,fun _ x=>x=0,fun x=>.int .i64 x⟩,⟨120,fun _ _=>[],4,fun _=>L4 pc tc sc kc,fun _=>⟨[.agg ⟨[.int .i64 af,pv,tv,sv]⟩]⟩,fun _=>True,fun _ x=>x=0,fun x=>.int .i64 x⟩]) Q K (.br 9 4 6 .no (.br 0 4 10 .no (.call 16 4 (.br 1 4 16 .no (.call 7 4 (.br 1 4 16 .no (.call 7 4 (.br 1 4 16 .no (.ret 8 1))))))))) ⟨aB.enter Tryz.prog 87 ⟨[.agg ⟨[.int .i64 af,pv,tv,sv]⟩]⟩,[],cu 4 (L4 pc tc sc kc)⟩=(BR (decide (af < 0)) (False) (BR (decide (af > 20)) (False) (v0∧∀x0:Int,(x0=0)→RK (true) (BR (!decide (x0=0)) (False) (v0∧∀x1:Int,(x1=0)→RK (true) (BR (!decide (x1=0)) (False) (v0∧∀x2:Int,(x2=0)→RK (true) (BR (!decide (x2=0)) (False) (Q (.int .i64 0)))))))))):=by
 rintro _ rfl
 kernel_rfl
theorem Tryz.sn(hp:0≤af∧af≤20)(hc:∀c∈[⟨118,fun _ _=>[],4,fun _=>L4 pc tc sc kc,fun _=>⟨[.agg ⟨[.int .i64 af,pv,tv,sv]⟩]⟩,fun _=>True,fun _ x=>x=0,fun x=>.int .i64 x⟩,⟨119,fun _ _=>[],4,fun _=>L4 pc tc sc kc,fun _=>⟨[.agg ⟨[.int .i64 af,pv,tv,sv]⟩]⟩,fun _=>True,fun _ x=>x=0,fun x=>.int .i64 x⟩,⟨120,fun _ _=>[],4,fun _=>L4 pc tc sc kc,fun _=>⟨[.agg ⟨[.int .i64 af,pv,tv,sv]⟩]⟩,fun _=>True,fun _ x=>x=0,fun x=>.int .i64 x⟩],jQ Tryz.prog c):bJ Tryz.prog (fun v _=>∃x:Int,x=0∧v = .int .i64 x) ⟨aB.enter Tryz.prog 87 ⟨[.agg ⟨[.int .i64 af,pv,tv,sv]⟩]⟩,[],cu 4 (L4 pc tc sc kc)⟩:=by
 refine aJ (Tryz.ok hc) (Tryz.aiW _ _ _ rfl) ?_
 iterate 2 refine BR.rr ?_
 refine ⟨⟨rfl,gK,trivial⟩,fun x0 _=>⟨rfl,?_⟩⟩
 refine BR.nr (by omega) ?_
 refine ⟨⟨rfl,gK,trivial⟩,fun x1 _=>⟨rfl,?_⟩⟩
 refine BR.nr (by omega) ?_
 refine ⟨⟨rfl,gK,trivial⟩,fun x2 _=>⟨rfl,?_⟩⟩
 refine BR.nr (by omega) ?_
 exact fun _=>⟨_,rfl,rfl⟩
end
end Go.Am
