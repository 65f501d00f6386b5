import Derived.Test.YtgfjlblikffnaaaGreatH21
import Derived.Test.YtgfjlblikffnaaaGreatH22
import Derived.Test.YtgfjlblikffnaaaGreatH23
import Derived.Test.YtgfjlblikffnaaaGreatH24
set_option linter.unusedVariables false
set_option linter.unusedSectionVars false
set_option linter.unusedSimpArgs false
namespace Go.Am
open Go.Proofs
section
variable{l0 u0 l1 u1 l2 u2:Int}{tc sc kc:Array Value}{cp:Nat}
abbrev Tv:HT:=.br 0 6 16 (.br 0 6 22 (.val 6 7 11 (.br 0 1 12 .no (.br 16 6 10 (.br 0 6 16 (.br 0 6 22 (.val 6 7 11 (.br 0 1 12 .no (.br 16 6 10 (.br 0 6 16 (.br 0 6 22 (.val 6 7 11 (.br 0 1 12 .no (.ret 14 1))) .no) .no) .no))) .no) .no) .no))) .no) .no
abbrev ZI:HT:=.val 2 2 5 (.rk 2 0 (.br 2 4 6 (.br 0 4 10 (.br 6 6 10 (.br 0 6 16 (.br 0 6 22 (.val 28 6 6 (.val 2 2 5 (.rk 2 0 (.br 2 4 6 (.br 0 4 10 (.br 6 6 10 (.br 0 6 16 (.br 0 6 22 (.ret 21 1) .no) .no) .no) .no) .no)))) .no) .no) .no) .no) .no))
abbrev ZJ:HT:=.br 0 6 16 (.br 0 6 22 (.val 6 7 11 (.br 0 1 12 .no (.br 16 6 10 (.br 0 6 16 (.br 0 6 22 (.val 6 7 11 (.br 0 1 12 .no (.br 16 6 10 Tv .no))) .no) .no) .no))) .no) .no
abbrev ZK:HT:=.val 2 2 5 (.rk 2 0 (.br 2 4 6 (.br 0 4 10 (.br 6 6 10 (.br 0 6 16 (.br 0 6 22 (.val 28 6 6 ZI) .no) .no) .no) .no) .no))
abbrev ZL:HT:=.val 5 5 5 (.br 0 1 6 (.cut 7 3) (.val 0 4 10 (.br 0 1 11 (.cut 7 3) (.call 3 3 (.br 0 1 9 .no (.cut 4 3))))))
theorem Tryz.acM(Q:Value→Prop)(K:AS→Prop):tx (Tryz.X []) Q K (.br 13 6 10 Tv .no) ⟨aF.enter Tryz.prog 119 ⟨[.slice (some ⟨0,0,none⟩) 3 cp,.func (.func 120) ⟨[]⟩ ⟨[]⟩]⟩,[],di 4 (L4 ⟨[.int .i64 l0,.int .i64 u0,.int .i64 l1,.int .i64 u1,.int .i64 l2,.int .i64 u2]⟩ tc sc kc)⟩=(BR (decide (0≤l0)) (BR (decide (l0≤u0)) (BR (decide (u0≤959)) (∀x0,x0=wi (u0 - l0)→BR (decide (x0≥3)) (False) (BR (decide (0≤l1)) (BR (decide (l1≤u1)) (BR (decide (u1≤959)) (∀x1,x1=wi (u1 - l1)→BR (decide (x1≥3)) (False) (BR (decide (0≤l2)) (BR (decide (l2≤u2)) (BR (decide (u2≤959)) (∀x2,x2=wi (u2 - l2)→BR (decide (x2≥3)) (False) (Q (.bool false))) (False)) (False)) (False))) (False)) (False)) (False))) (False)) (False)) (False)):=by kernel_rfl
theorem Tryz.cf3(hv:iP [(l0,u0),(l1,u1),(l2,u2)]):bM Tryz.prog (fun v _=>∃x:Int,x=0∧v = .bool false) ⟨aF.enter Tryz.prog 119 ⟨[.slice (some ⟨0,0,none⟩) 3 cp,.func (.func 120) ⟨[]⟩ ⟨[]⟩]⟩,[],di 4 (L4 ⟨[.int .i64 l0,.int .i64 u0,.int .i64 l1,.int .i64 u1,.int .i64 l2,.int .i64 u2]⟩ tc sc kc)⟩:=by
 refine aQ (Tryz.ok dM) (Tryz.acM _ _) ?_
 simp only [iP,and_true] at hv
 iterate 15 (first|refine BR.rr ?_|refine BR.ll ?_|refine va fun _ _=>?_)
 exact fun _=>⟨0,rfl,rfl⟩
end
section
variable{l0 u0 l1 u1 l2 u2 l3 u3:Int}{tc sc kc:Array Value}{cp:Nat}
theorem Tryz.acN(Q:Value→Prop)(K:AS→Prop):tx (Tryz.X []) Q K (.br 13 6 10 (.br 0 6 16 (.br 0 6 22 (.val 6 7 11 (.br 0 1 12 .no (.br 16 6 10 Tv .no))) .no) .no) .no) ⟨aF.enter Tryz.prog 119 ⟨[.slice (some ⟨0,0,none⟩) 4 cp,.func (.func 120) ⟨[]⟩ ⟨[]⟩]⟩,[],di 4 (L4 ⟨[.int .i64 l0,.int .i64 u0,.int .i64 l1,.int .i64 u1,.int .i64 l2,.int .i64 u2,.int .i64 l3,.int .i64 u3]⟩ tc sc kc)⟩=(BR (decide (0≤l0)) (BR (decide (l0≤u0)) (BR (decide (u0≤959)) (∀x0,x0=wi (u0 - l0)→BR (decide (x0≥3)) (False) (BR (decide (0≤l1)) (BR (decide (l1≤u1)) (BR (decide (u1≤959)) (∀x1,x1=wi (u1 - l1)→BR (decide (x1≥3)) (False) (BR (decide (0≤l2)) (BR (decide (l2≤u2)) (BR (decide (u2≤959)) (∀x2,x2=wi (u2 - l2)→BR (decide (x2≥3)) (False) (BR (decide (0≤l3)) (BR (decide (l3≤u3)) (BR (decide (u3≤959)) (∀x3,x3=wi (u3 - l3)→BR (decide (x3≥3)) (False) (Q (.bool false))) (False)) (False)) (False))) (False)) (False)) (False))) (False)) (False)) (False))) (False)) (False)) (False)):=by kernel_rfl
theorem Tryz.cf4(hv:iP [(l0,u0),(l1,u1),(l2,u2),(l3,u3)]):bM Tryz.prog (fun v _=>∃x:Int,x=0∧v = .bool false) ⟨aF.enter Tryz.prog 119 ⟨[.slice (some ⟨0,0,none⟩) 4 cp,.func (.func 120) ⟨[]⟩ ⟨[]⟩]⟩,[],di 4 (L4 ⟨[.int .i64 l0,.int .i64 u0,.int .i64 l1,.int .i64 u1,.int .i64 l2,.int .i64 u2,.int .i64 l3,.int .i64 u3]⟩ tc sc kc)⟩:=by
 refine aQ (Tryz.ok dM) (Tryz.acN _ _) ?_
 simp only [iP,and_true] at hv
 iterate 20 (first|refine BR.rr ?_|refine BR.ll ?_|refine va fun _ _=>?_)
 exact fun _=>⟨0,rfl,rfl⟩
end
section
variable{l0 u0 l1 u1 l2 u2 l3 u3 l4 u4:Int}{tc sc kc:Array Value}{cp:Nat}
theorem Tryz.acO(Q:Value→Prop)(K:AS→Prop):tx (Tryz.X []) Q K (.br 13 6 10 ZJ .no) ⟨aF.enter Tryz.prog 119 ⟨[.slice (some ⟨0,0,none⟩) 5 cp,.func (.func 120) ⟨[]⟩ ⟨[]⟩]⟩,[],di 4 (L4 ⟨[.int .i64 l0,.int .i64 u0,.int .i64 l1,.int .i64 u1,.int .i64 l2,.int .i64 u2,.int .i64 l3,.int .i64 u3,.int .i64 l4,.int .i64 u4]⟩ tc sc kc)⟩=(BR (decide (0≤l0)) (BR (decide (l0≤u0)) (BR (decide (u0≤959)) (∀x0,x0=wi (u0 - l0)→BR (decide (x0≥3)) (False) (BR (decide (0≤l1)) (BR (decide (l1≤u1)) (BR (decide (u1≤959)) (∀x1,x1=wi (u1 - l1)→BR (decide (x1≥3)) (False) (BR (decide (0≤l2)) (BR (decide (l2≤u2)) (BR (decide (u2≤959)) (∀x2,x2=wi (u2 - l2)→BR (decide (x2≥3)) (False) (BR (decide (0≤l3)) (BR (decide (l3≤u3)) (BR (decide (u3≤959)) (∀x3,x3=wi (u3 - l3)→BR (decide (x3≥3)) (False) (BR (decide (0≤l4)) (BR (decide (l4≤u4)) (BR (decide (u4≤959)) (∀x4,x4=wi (u4 - l4)→BR (decide (x4≥3)) (False) (Q (.bool false))) (False)) (False)) (False))) (False)) (False)) (False))) (False)) (False)) (False))) (False)) (False)) (False))) (False)) (False)) (False)):=by kernel_rfl
theorem Tryz.cf5(hv:iP [(l0,u0),(l1,u1),(l2,u2),(l3,u3),(l4,u4)]):bM Tryz.prog (fun v _=>∃x:Int,x=0∧v = .bool false) ⟨aF.enter Tryz.prog 119 ⟨[.slice (some ⟨0,0,none⟩) 5 cp,.func (.func 120) ⟨[]⟩ ⟨[]⟩]⟩,[],di 4 (L4 ⟨[.int .i64 l0,.int .i64 u0,.int .i64 l1,.int .i64 u1,.int .i64 l2,.int .i64 u2,.int .i64 l3,.int .i64 u3,.int .i64 l4,.int .i64 u4]⟩ tc sc kc)⟩:=by
 refine aQ (Tryz.ok dM) (Tryz.acO _ _) ?_
 simp only [iP,and_true] at hv
 iterate 25 (first|refine BR.rr ?_|refine BR.ll ?_|refine va fun _ _=>?_)
 exact fun _=>⟨0,rfl,rfl⟩
end
section
variable{l0 u0 l1 u1 l2 u2 l3 u3 l4 u4 l5 u5:Int}{tc sc kc:Array Value}{cp:Nat}
theorem Tryz.acP(Q:Value→Prop)(K:AS→Prop):tx (Tryz.X []) Q K (.br 13 6 10 (.br 0 6 16 (.br 0 6 22 (.val 6 7 11 (.br 0 1 12 .no (.br 16 6 10 ZJ .no))) .no) .no) .no) ⟨aF.enter Tryz.prog 119 ⟨[.slice (some ⟨0,0,none⟩) 6 cp,.func (.func 120) ⟨[]⟩ ⟨[]⟩]⟩,[],di 4 (L4 ⟨[.int .i64 l0,.int .i64 u0,.int .i64 l1,.int .i64 u1,.int .i64 l2,.int .i64 u2,.int .i64 l3,.int .i64 u3,.int .i64 l4,.int .i64 u4,.int .i64 l5,.int .i64 u5]⟩ tc sc kc)⟩=(BR (decide (0≤l0)) (BR (decide (l0≤u0)) (BR (decide (u0≤959)) (∀x0,x0=wi (u0 - l0)→BR (decide (x0≥3)) (False) (BR (decide (0≤l1)) (BR (decide (l1≤u1)) (BR (decide (u1≤959)) (∀x1,x1=wi (u1 - l1)→BR (decide (x1≥3)) (False) (BR (decide (0≤l2)) (BR (decide (l2≤u2)) (BR (decide (u2≤959)) (∀x2,x2=wi (u2 - l2)→BR (decide (x2≥3)) (False) (BR (decide (0≤l3)) (BR (decide (l3≤u3)) (BR (decide (u3≤959)) (∀x3,x3=wi (u3 - l3)→BR (decide (x3≥3)) (False) (BR (decide (0≤l4)) (BR (decide (l4≤u4)) (BR (decide (u4≤959)) (∀x4,x4=wi (u4 - l4)→BR (decide (x4≥3)) (False) (BR (decide (0≤l5)) (BR (decide (l5≤u5)) (BR (decide (u5≤959)) (∀x5,x5=wi (u5 - l5)→BR (decide (x5≥3)) (False) (Q (.bool false))) (False)) (False)) (False))) (False)) (False)) (False))) (False)) (False)) (False))) (False)) (False)) (False))) (False)) (False)) (False))) (False)) (False)) (False)):=by kernel_rfl
theorem Tryz.cf6(hv:iP [(l0,u0),(l1,u1),(l2,u2),(l3,u3),(l4,u4),(l5,u5)]):bM Tryz.prog (fun v _=>∃x:Int,x=0∧v = .bool false) ⟨aF.enter Tryz.prog 119 ⟨[.slice (some ⟨0,0,none⟩) 6 cp,.func (.func 120) ⟨[]⟩ ⟨[]⟩]⟩,[],di 4 (L4 ⟨[.int .i64 l0,.int .i64 u0,.int .i64 l1,.int .i64 u1,.int .i64 l2,.int .i64 u2,.int .i64 l3,.int .i64 u3,.int .i64 l4,.int .i64 u4,.int .i64 l5,.int .i64 u5]⟩ tc sc kc)⟩:=by
 refine aQ (Tryz.ok dM) (Tryz.acP _ _) ?_
 simp only [iP,and_true] at hv
 iterate 30 (first|refine BR.rr ?_|refine BR.ll ?_|refine va fun _ _=>?_)
 exact fun _=>⟨0,rfl,rfl⟩
end
section
variable{run scale follow bite wrong:Int}{pc tc sc kc:Array Value}{np cp ct:Nat}{ot:Option Addr}
theorem Tryz.acQ(Q:Value→Prop)(K:AS→Prop):∀v0:Bool,v0=(decide (run=run) && (decide (scale=scale) && (decide (follow=follow) && (decide (bite=bite) && (decide (wrong=wrong) && ((decide (np=np) && decide (cp=cp)) && (((decide (ot=ot) && true) && decide (ct=ct)) && true)))))))→tx (Tryz.X [⟨119,fun _ _=>[],4,fun _=>L4 pc tc sc kc,fun _=>⟨[.slice (some ⟨0,0,none⟩) np cp,.func (.func 120) ⟨[]⟩ ⟨[]⟩]⟩,fun _=>True,fun _ x=>x=0,fun _=>.bool false⟩]) Q K (.br 13 6 8 (.br 0 5 13 (.br 22 6 8 (.br 0 5 13 (.br 22 6 8 (.br 0 5 13 (.br 22 6 8 (.br 0 5 13 (.br 22 6 8 (.br 0 5 13 (.val 20 6 6 (.br 7 6 8 (.br 0 5 13 (.call 21 6 (.rk 17 0 (.ret 10 1))) .no) .no)) .no) .no) .no) .no) .no) .no) .no) .no) .no) .no) ⟨aF.enter Tryz.prog 79 ⟨[.agg ⟨[.int .i64 run,.int .i64 scale,.int .i64 follow,.int .i64 bite,.int .i64 wrong,.slice (some ⟨0,0,none⟩) np cp,.slice ot 0 ct]⟩]⟩,[],di 4 (L4 pc tc sc kc)⟩=(BR (decide (1≤run)) (BR (decide (run≤99)) (BR (decide (1≤scale)) (BR (decide (scale≤99)) (BR (decide (0≤follow)) (BR (decide (follow≤999)) (BR (decide (1≤bite)) (BR (decide (bite≤99)) (BR (decide (0≤wrong)) (BR (decide (wrong≤2)) (∀x0,x0=((np:Nat):Int)→BR (decide (3≤x0)) (BR (decide (x0≤6)) (((AE ⟨[.slice (some ⟨0,0,none⟩) np cp,.func (.func 120) ⟨[]⟩ ⟨[]⟩]⟩)∧(E4 pc tc sc kc)∧True)∧∀x1:Int,(x1=0)→RK (true) (RK ((v0 && ((((v0 && true) && true) && true) && true))) (Q (.int .i64 0)))) (False)) (False)) (False)) (False)) (False)) (False)) (False)) (False)) (False)) (False)) (False)) (False)):=by
 rintro _ rfl
 kernel_rfl
theorem Tryz.sn0(hh:Hd run scale follow bite wrong)(hnp:3≤np∧np≤6)(hr:iF np [])(hc:∀c∈([⟨119,fun _ _=>[],4,fun _=>L4 pc tc sc kc,fun _=>⟨[.slice (some ⟨0,0,none⟩) np cp,.func (.func 120) ⟨[]⟩ ⟨[]⟩]⟩,fun _=>True,fun _ x=>x=0,fun _=>.bool false⟩]:List Ct),dF Tryz.prog c):bM Tryz.prog (fun v _=>∃x:Int,x=0∧v = .int .i64 x) ⟨aF.enter Tryz.prog 79 ⟨[.agg ⟨[.int .i64 run,.int .i64 scale,.int .i64 follow,.int .i64 bite,.int .i64 wrong,.slice (some ⟨0,0,none⟩) np cp,.slice ot 0 ct]⟩]⟩,[],di 4 (L4 pc tc sc kc)⟩:=by
 refine aQ (Tryz.ok hc) (Tryz.acQ _ _ _ rfl) ?_
 simp only [Hd] at hh
 iterate 10 refine BR.ll ?_
 intro x0 _
 iterate 2 refine BR.ll ?_
 refine ⟨⟨rfl,rM,trivial⟩,fun x1 _=>⟨rfl,?_⟩⟩
 refine ⟨by simp,?_⟩
 exact fun _=>⟨_,rfl,rfl⟩
end
section
variable{run scale follow bite wrong f0 a0 b0:Int}{pc tc sc kc:Array Value}{np cp ct:Nat}{ot:Option Addr}
theorem Tryz.acR(Q:Value→Prop)(K:AS→Prop):∀v0:Bool,v0=(decide (run=run) && (decide (scale=scale) && (decide (follow=follow) && (decide (bite=bite) && (decide (wrong=wrong) && ((decide (np=np) && decide (cp=cp)) && (decide (ct=ct) && true)))))))→tx (Tryz.X [⟨119,fun _ _=>[],4,fun _=>L4 pc ⟨[.int .i64 f0,.int .i64 a0,.int .i64 b0]⟩ sc kc,fun _=>⟨[.slice (some ⟨0,0,none⟩) np cp,.func (.func 120) ⟨[]⟩ ⟨[]⟩]⟩,fun _=>True,fun _ x=>x=0,fun _=>.bool false⟩]) Q K (.br 13 6 8 (.br 0 5 13 (.br 22 6 8 (.br 0 5 13 (.br 22 6 8 (.br 0 5 13 (.br 22 6 8 (.br 0 5 13 (.br 22 6 8 (.br 0 5 13 (.val 20 6 6 (.br 7 6 8 (.br 0 5 13 (.call 21 6 (.rk 17 0 (.val 17 6 6 (.val 2 2 5 (.rk 2 0 (.br 2 4 6 (.br 0 4 10 (.br 6 6 10 (.br 0 6 16 (.br 0 6 22 (.ret 21 1) .no) .no) .no) .no) .no)))))) .no) .no)) .no) .no) .no) .no) .no) .no) .no) .no) .no) .no) ⟨aF.enter Tryz.prog 79 ⟨[.agg ⟨[.int .i64 run,.int .i64 scale,.int .i64 follow,.int .i64 bite,.int .i64 wrong,.slice (some ⟨0,0,none⟩) np cp,.slice (some ⟨1,0,none⟩) 1 ct]⟩]⟩,[],di 4 (L4 pc ⟨[.int .i64 f0,.int .i64 a0,.int .i64 b0]⟩ sc kc)⟩=(BR (decide (1≤run)) (BR (decide (run≤99)) (BR (decide (1≤scale)) (BR (decide (scale≤99)) (BR (decide (0≤follow)) (BR (decide (follow≤999)) (BR (decide (1≤bite)) (BR (decide (bite≤99)) (BR (decide (0≤wrong)) (BR (decide (wrong≤2)) (∀x0,x0=((np:Nat):Int)→BR (decide (3≤x0)) (BR (decide (x0≤6)) (((AE ⟨[.slice (some ⟨0,0,none⟩) np cp,.func (.func 120) ⟨[]⟩ ⟨[]⟩]⟩)∧(E4 pc ⟨[.int .i64 f0,.int .i64 a0,.int .i64 b0]⟩ sc kc)∧True)∧∀x1:Int,(x1=0)→RK (true) (RK ((v0 && ((((v0 && true) && true) && true) && true))) (∀x2,x2=((np:Nat):Int)→∀x3,x3=wi (x2 - 1)→RK ((decide (f0=f0) && true)) (BR (decide (f0≥0)) (BR (decide (f0 < x3)) (BR (decide ((-99999)≤a0)) (BR (decide (a0≤b0)) (BR (decide (b0≤99999)) (Q (.int .i64 0)) (False)) (False)) (False)) (False)) (False))))) (False)) (False)) (False)) (False)) (False)) (False)) (False)) (False)) (False)) (False)) (False)) (False)):=by
 rintro _ rfl
 kernel_rfl
theorem Tryz.sn1(hh:Hd run scale follow bite wrong)(hnp:3≤np∧np≤6)(hr:iF np [(f0,a0,b0)])(hc:∀c∈([⟨119,fun _ _=>[],4,fun _=>L4 pc ⟨[.int .i64 f0,.int .i64 a0,.int .i64 b0]⟩ sc kc,fun _=>⟨[.slice (some ⟨0,0,none⟩) np cp,.func (.func 120) ⟨[]⟩ ⟨[]⟩]⟩,fun _=>True,fun _ x=>x=0,fun _=>.bool false⟩]:List Ct),dF Tryz.prog c):bM Tryz.prog (fun v _=>∃x:Int,x=0∧v = .int .i64 x) ⟨aF.enter Tryz.prog 79 ⟨[.agg ⟨[.int .i64 run,.int .i64 scale,.int .i64 follow,.int .i64 bite,.int .i64 wrong,.slice (some ⟨0,0,none⟩) np cp,.slice (some ⟨1,0,none⟩) 1 ct]⟩]⟩,[],di 4 (L4 pc ⟨[.int .i64 f0,.int .i64 a0,.int .i64 b0]⟩ sc kc)⟩:=by
 refine aQ (Tryz.ok hc) (Tryz.acR _ _ _ rfl) ?_
 simp only [Hd] at hh
 simp only [iF,and_true] at hr
 iterate 10 refine BR.ll ?_
 intro x0 _
 iterate 2 refine BR.ll ?_
 refine ⟨⟨rfl,rM,trivial⟩,fun x1 _=>⟨rfl,?_⟩⟩
 refine ⟨by simp,?_⟩
 intro x2 _
 iterate 7 (first|refine BR.ll ?_|refine va fun _ _=>?_|refine ⟨by simp,?_⟩)
 exact fun _=>⟨_,rfl,rfl⟩
end
section
variable{run scale follow bite wrong f0 a0 b0 f1 a1 b1:Int}{pc tc sc kc:Array Value}{np cp ct:Nat}{ot:Option Addr}
theorem Tryz.acS(Q:Value→Prop)(K:AS→Prop):∀v0:Bool,v0=(decide (run=run) && (decide (scale=scale) && (decide (follow=follow) && (decide (bite=bite) && (decide (wrong=wrong) && ((decide (np=np) && decide (cp=cp)) && (decide (ct=ct) && true)))))))→tx (Tryz.X [⟨119,fun _ _=>[],4,fun _=>L4 pc ⟨[.int .i64 f0,.int .i64 a0,.int .i64 b0,.int .i64 f1,.int .i64 a1,.int .i64 b1]⟩ sc kc,fun _=>⟨[.slice (some ⟨0,0,none⟩) np cp,.func (.func 120) ⟨[]⟩ ⟨[]⟩]⟩,fun _=>True,fun _ x=>x=0,fun _=>.bool false⟩]) Q K (.br 13 6 8 (.br 0 5 13 (.br 22 6 8 (.br 0 5 13 (.br 22 6 8 (.br 0 5 13 (.br 22 6 8 (.br 0 5 13 (.br 22 6 8 (.br 0 5 13 (.val 20 6 6 (.br 7 6 8 (.br 0 5 13 (.call 21 6 (.rk 17 0 (.val 17 6 6 ZI))) .no) .no)) .no) .no) .no) .no) .no) .no) .no) .no) .no) .no) ⟨aF.enter Tryz.prog 79 ⟨[.agg ⟨[.int .i64 run,.int .i64 scale,.int .i64 follow,.int .i64 bite,.int .i64 wrong,.slice (some ⟨0,0,none⟩) np cp,.slice (some ⟨1,0,none⟩) 2 ct]⟩]⟩,[],di 4 (L4 pc ⟨[.int .i64 f0,.int .i64 a0,.int .i64 b0,.int .i64 f1,.int .i64 a1,.int .i64 b1]⟩ sc kc)⟩=(BR (decide (1≤run)) (BR (decide (run≤99)) (BR (decide (1≤scale)) (BR (decide (scale≤99)) (BR (decide (0≤follow)) (BR (decide (follow≤999)) (BR (decide (1≤bite)) (BR (decide (bite≤99)) (BR (decide (0≤wrong)) (BR (decide (wrong≤2)) (∀x0,x0=((np:Nat):Int)→BR (decide (3≤x0)) (BR (decide (x0≤6)) (((AE ⟨[.slice (some ⟨0,0,none⟩) np cp,.func (.func 120) ⟨[]⟩ ⟨[]⟩]⟩)∧(E4 pc ⟨[.int .i64 f0,.int .i64 a0,.int .i64 b0,.int .i64 f1,.int .i64 a1,.int .i64 b1]⟩ sc kc)∧True)∧∀x1:Int,(x1=0)→RK (true) (RK ((v0 && ((((v0 && true) && true) && true) && true))) (∀x2,x2=((np:Nat):Int)→∀x3,x3=wi (x2 - 1)→RK ((decide (f0=f0) && true)) (BR (decide (f0≥0)) (BR (decide (f0 < x3)) (BR (decide ((-99999)≤a0)) (BR (decide (a0≤b0)) (BR (decide (b0≤99999)) (∀x4,x4=((np:Nat):Int)→∀x5,x5=wi (x4 - 1)→RK ((decide (f1=f1) && true)) (BR (decide (f1≥0)) (BR (decide (f1 < x5)) (BR (decide ((-99999)≤a1)) (BR (decide (a1≤b1)) (BR (decide (b1≤99999)) (Q (.int .i64 0)) (False)) (False)) (False)) (False)) (False))) (False)) (False)) (False)) (False)) (False))))) (False)) (False)) (False)) (False)) (False)) (False)) (False)) (False)) (False)) (False)) (False)) (False)):=by
 rintro _ rfl
 kernel_rfl
theorem Tryz.sn2(hh:Hd run scale follow bite wrong)(hnp:3≤np∧np≤6)(hr:iF np [(f0,a0,b0),(f1,a1,b1)])(hc:∀c∈([⟨119,fun _ _=>[],4,fun _=>L4 pc ⟨[.int .i64 f0,.int .i64 a0,.int .i64 b0,.int .i64 f1,.int .i64 a1,.int .i64 b1]⟩ sc kc,fun _=>⟨[.slice (some ⟨0,0,none⟩) np cp,.func (.func 120) ⟨[]⟩ ⟨[]⟩]⟩,fun _=>True,fun _ x=>x=0,fun _=>.bool false⟩]:List Ct),dF Tryz.prog c):bM Tryz.prog (fun v _=>∃x:Int,x=0∧v = .int .i64 x) ⟨aF.enter Tryz.prog 79 ⟨[.agg ⟨[.int .i64 run,.int .i64 scale,.int .i64 follow,.int .i64 bite,.int .i64 wrong,.slice (some ⟨0,0,none⟩) np cp,.slice (some ⟨1,0,none⟩) 2 ct]⟩]⟩,[],di 4 (L4 pc ⟨[.int .i64 f0,.int .i64 a0,.int .i64 b0,.int .i64 f1,.int .i64 a1,.int .i64 b1]⟩ sc kc)⟩:=by
 refine aQ (Tryz.ok hc) (Tryz.acS _ _ _ rfl) ?_
 simp only [Hd] at hh
 simp only [iF,and_true] at hr
 iterate 10 refine BR.ll ?_
 intro x0 _
 iterate 2 refine BR.ll ?_
 refine ⟨⟨rfl,rM,trivial⟩,fun x1 _=>⟨rfl,?_⟩⟩
 refine ⟨by simp,?_⟩
 intro x2 _
 iterate 7 (first|refine BR.ll ?_|refine va fun _ _=>?_|refine ⟨by simp,?_⟩)
 intro x4 _
 iterate 7 (first|refine BR.ll ?_|refine va fun _ _=>?_|refine ⟨by simp,?_⟩)
 exact fun _=>⟨_,rfl,rfl⟩
end
section
variable{run scale follow bite wrong f0 a0 b0 f1 a1 b1 f2 a2 b2:Int}{pc tc sc kc:Array Value}{np cp ct:Nat}{ot:Option Addr}
theorem Tryz.acT(Q:Value→Prop)(K:AS→Prop):∀v0:Bool,v0=(decide (run=run) && (decide (scale=scale) && (decide (follow=follow) && (decide (bite=bite) && (decide (wrong=wrong) && ((decide (np=np) && decide (cp=cp)) && (decide (ct=ct) && true)))))))→tx (Tryz.X [⟨119,fun _ _=>[],4,fun _=>L4 pc ⟨[.int .i64 f0,.int .i64 a0,.int .i64 b0,.int .i64 f1,.int .i64 a1,.int .i64 b1,.int .i64 f2,.int .i64 a2,.int .i64 b2]⟩ sc kc,fun _=>⟨[.slice (some ⟨0,0,none⟩) np cp,.func (.func 120) ⟨[]⟩ ⟨[]⟩]⟩,fun _=>True,fun _ x=>x=0,fun _=>.bool false⟩]) Q K (.br 13 6 8 (.br 0 5 13 (.br 22 6 8 (.br 0 5 13 (.br 22 6 8 (.br 0 5 13 (.br 22 6 8 (.br 0 5 13 (.br 22 6 8 (.br 0 5 13 (.val 20 6 6 (.br 7 6 8 (.br 0 5 13 (.call 21 6 (.rk 17 0 (.val 17 6 6 ZK))) .no) .no)) .no) .no) .no) .no) .no) .no) .no) .no) .no) .no) ⟨aF.enter Tryz.prog 79 ⟨[.agg ⟨[.int .i64 run,.int .i64 scale,.int .i64 follow,.int .i64 bite,.int .i64 wrong,.slice (some ⟨0,0,none⟩) np cp,.slice (some ⟨1,0,none⟩) 3 ct]⟩]⟩,[],di 4 (L4 pc ⟨[.int .i64 f0,.int .i64 a0,.int .i64 b0,.int .i64 f1,.int .i64 a1,.int .i64 b1,.int .i64 f2,.int .i64 a2,.int .i64 b2]⟩ sc kc)⟩=(BR (decide (1≤run)) (BR (decide (run≤99)) (BR (decide (1≤scale)) (BR (decide (scale≤99)) (BR (decide (0≤follow)) (BR (decide (follow≤999)) (BR (decide (1≤bite)) (BR (decide (bite≤99)) (BR (decide (0≤wrong)) (BR (decide (wrong≤2)) (∀x0,x0=((np:Nat):Int)→BR (decide (3≤x0)) (BR (decide (x0≤6)) (((AE ⟨[.slice (some ⟨0,0,none⟩) np cp,.func (.func 120) ⟨[]⟩ ⟨[]⟩]⟩)∧(E4 pc ⟨[.int .i64 f0,.int .i64 a0,.int .i64 b0,.int .i64 f1,.int .i64 a1,.int .i64 b1,.int .i64 f2,.int .i64 a2,.int .i64 b2]⟩ sc kc)∧True)∧∀x1:Int,(x1=0)→RK (true) (RK ((v0 && ((((v0 && true) && true) && true) && true))) (∀x2,x2=((np:Nat):Int)→∀x3,x3=wi (x2 - 1)→RK ((decide (f0=f0) && true)) (BR (decide (f0≥0)) (BR (decide (f0 < x3)) (BR (decide ((-99999)≤a0)) (BR (decide (a0≤b0)) (BR (decide (b0≤99999)) (∀x4,x4=((np:Nat):Int)→∀x5,x5=wi (x4 - 1)→RK ((decide (f1=f1) && true)) (BR (decide (f1≥0)) (BR (decide (f1 < x5)) (BR (decide ((-99999)≤a1)) (BR (decide (a1≤b1)) (BR (decide (b1≤99999)) (∀x6,x6=((np:Nat):Int)→∀x7,x7=wi (x6 - 1)→RK ((decide (f2=f2) && true)) (BR (decide (f2≥0)) (BR (decide (f2 < x7)) (BR (decide ((-99999)≤a2)) (BR (decide (a2≤b2)) (BR (decide (b2≤99999)) (Q (.int .i64 0)) (False)) (False)) (False)) (False)) (False))) (False)) (False)) (False)) (False)) (False))) (False)) (False)) (False)) (False)) (False))))) (False)) (False)) (False)) (False)) (False)) (False)) (False)) (False)) (False)) (False)) (False)) (False)):=by
 rintro _ rfl
 kernel_rfl
theorem Tryz.sn3(hh:Hd run scale follow bite wrong)(hnp:3≤np∧np≤6)(hr:iF np [(f0,a0,b0),(f1,a1,b1),(f2,a2,b2)])(hc:∀c∈([⟨119,fun _ _=>[],4,fun _=>L4 pc ⟨[.int .i64 f0,.int .i64 a0,.int .i64 b0,.int .i64 f1,.int .i64 a1,.int .i64 b1,.int .i64 f2,.int .i64 a2,.int .i64 b2]⟩ sc kc,fun _=>⟨[.slice (some ⟨0,0,none⟩) np cp,.func (.func 120) ⟨[]⟩ ⟨[]⟩]⟩,fun _=>True,fun _ x=>x=0,fun _=>.bool false⟩]:List Ct),dF Tryz.prog c):bM Tryz.prog (fun v _=>∃x:Int,x=0∧v = .int .i64 x) ⟨aF.enter Tryz.prog 79 ⟨[.agg ⟨[.int .i64 run,.int .i64 scale,.int .i64 follow,.int .i64 bite,.int .i64 wrong,.slice (some ⟨0,0,none⟩) np cp,.slice (some ⟨1,0,none⟩) 3 ct]⟩]⟩,[],di 4 (L4 pc ⟨[.int .i64 f0,.int .i64 a0,.int .i64 b0,.int .i64 f1,.int .i64 a1,.int .i64 b1,.int .i64 f2,.int .i64 a2,.int .i64 b2]⟩ sc kc)⟩:=by
 refine aQ (Tryz.ok hc) (Tryz.acT _ _ _ rfl) ?_
 simp only [Hd] at hh
 simp only [iF,and_true] at hr
 iterate 10 refine BR.ll ?_
 intro x0 _
 iterate 2 refine BR.ll ?_
 refine ⟨⟨rfl,rM,trivial⟩,fun x1 _=>⟨rfl,?_⟩⟩
 refine ⟨by simp,?_⟩
 intro x2 _
 iterate 7 (first|refine BR.ll ?_|refine va fun _ _=>?_|refine ⟨by simp,?_⟩)
 intro x4 _
 iterate 7 (first|refine BR.ll ?_|refine va fun _ _=>?_|refine ⟨by simp,?_⟩)
 intro x6 _
 iterate 7 (first|refine BR.ll ?_|refine va fun _ _=>?_|refine ⟨by simp,?_⟩)
 exact fun _=>⟨_,rfl,rfl⟩
end
section
variable{run scale follow bite wrong f0 a0 b0 f1 a1 b1 f2 a2 b2 f3 a3 b3:Int}{pc tc sc kc:Array Value}{np cp ct:Nat}{ot:Option Addr}
theorem Tryz.acU(Q:Value→Prop)(K:AS→Prop):∀v0:Bool,v0=(decide (run=run) && (decide (scale=scale) && (decide (follow=follow) && (decide (bite=bite) && (decide (wrong=wrong) && ((decide (np=np) && decide (cp=cp)) && (decide (ct=ct) && true)))))))→tx (Tryz.X [⟨119,fun _ _=>[],4,fun _=>L4 pc ⟨[.int .i64 f0,.int .i64 a0,.int .i64 b0,.int .i64 f1,.int .i64 a1,.int .i64 b1,.int .i64 f2,.int .i64 a2,.int .i64 b2,.int .i64 f3,.int .i64 a3,.int .i64 b3]⟩ sc kc,fun _=>⟨[.slice (some ⟨0,0,none⟩) np cp,.func (.func 120) ⟨[]⟩ ⟨[]⟩]⟩,fun _=>True,fun _ x=>x=0,fun _=>.bool false⟩]) Q K (.br 13 6 8 (.br 0 5 13 (.br 22 6 8 (.br 0 5 13 (.br 22 6 8 (.br 0 5 13 (.br 22 6 8 (.br 0 5 13 (.br 22 6 8 (.br 0 5 13 (.val 20 6 6 (.br 7 6 8 (.br 0 5 13 (.call 21 6 (.rk 17 0 (.val 17 6 6 (.val 2 2 5 (.rk 2 0 (.br 2 4 6 (.br 0 4 10 (.br 6 6 10 (.br 0 6 16 (.br 0 6 22 (.val 28 6 6 ZK) .no) .no) .no) .no) .no)))))) .no) .no)) .no) .no) .no) .no) .no) .no) .no) .no) .no) .no) ⟨aF.enter Tryz.prog 79 ⟨[.agg ⟨[.int .i64 run,.int .i64 scale,.int .i64 follow,.int .i64 bite,.int .i64 wrong,.slice (some ⟨0,0,none⟩) np cp,.slice (some ⟨1,0,none⟩) 4 ct]⟩]⟩,[],di 4 (L4 pc ⟨[.int .i64 f0,.int .i64 a0,.int .i64 b0,.int .i64 f1,.int .i64 a1,.int .i64 b1,.int .i64 f2,.int .i64 a2,.int .i64 b2,.int .i64 f3,.int .i64 a3,.int .i64 b3]⟩ sc kc)⟩=(BR (decide (1≤run)) (BR (decide (run≤99)) (BR (decide (1≤scale)) (BR (decide (scale≤99)) (BR (decide (0≤follow)) (BR (decide (follow≤999)) (BR (decide (1≤bite)) (BR (decide (bite≤99)) (BR (decide (0≤wrong)) (BR (decide (wrong≤2)) (∀x0,x0=((np:Nat):Int)→BR (decide (3≤x0)) (BR (decide (x0≤6)) (((AE ⟨[.slice (some ⟨0,0,none⟩) np cp,.func (.func 120) ⟨[]⟩ ⟨[]⟩]⟩)∧(E4 pc ⟨[.int .i64 f0,.int .i64 a0,.int .i64 b0,.int .i64 f1,.int .i64 a1,.int .i64 b1,.int .i64 f2,.int .i64 a2,.int .i64 b2,.int .i64 f3,.int .i64 a3,.int .i64 b3]⟩ sc kc)∧True)∧∀x1:Int,(x1=0)→RK (true) (RK ((v0 && ((((v0 && true) && true) && true) && true))) (∀x2,x2=((np:Nat):Int)→∀x3,x3=wi (x2 - 1)→RK ((decide (f0=f0) && true)) (BR (decide (f0≥0)) (BR (decide (f0 < x3)) (BR (decide ((-99999)≤a0)) (BR (decide (a0≤b0)) (BR (decide (b0≤99999)) (∀x4,x4=((np:Nat):Int)→∀x5,x5=wi (x4 - 1)→RK ((decide (f1=f1) && true)) (BR (decide (f1≥0)) (BR (decide (f1 < x5)) (BR (decide ((-99999)≤a1)) (BR (decide (a1≤b1)) (BR (decide (b1≤99999)) (∀x6,x6=((np:Nat):Int)→∀x7,x7=wi (x6 - 1)→RK ((decide (f2=f2) && true)) (BR (decide (f2≥0)) (BR (decide (f2 < x7)) (BR (decide ((-99999)≤a2)) (BR (decide (a2≤b2)) (BR (decide (b2≤99999)) (∀x8,x8=((np:Nat):Int)→∀x9,x9=wi (x8 - 1)→RK ((decide (f3=f3) && true)) (BR (decide (f3≥0)) (BR (decide (f3 < x9)) (BR (decide ((-99999)≤a3)) (BR (decide (a3≤b3)) (BR (decide (b3≤99999)) (Q (.int .i64 0)) (False)) (False)) (False)) (False)) (False))) (False)) (False)) (False)) (False)) (False))) (False)) (False)) (False)) (False)) (False))) (False)) (False)) (False)) (False)) (False))))) (False)) (False)) (False)) (False)) (False)) (False)) (False)) (False)) (False)) (False)) (False)) (False)):=by
 rintro _ rfl
 kernel_rfl
theorem Tryz.sn4(hh:Hd run scale follow bite wrong)(hnp:3≤np∧np≤6)(hr:iF np [(f0,a0,b0),(f1,a1,b1),(f2,a2,b2),(f3,a3,b3)])(hc:∀c∈([⟨119,fun _ _=>[],4,fun _=>L4 pc ⟨[.int .i64 f0,.int .i64 a0,.int .i64 b0,.int .i64 f1,.int .i64 a1,.int .i64 b1,.int .i64 f2,.int .i64 a2,.int .i64 b2,.int .i64 f3,.int .i64 a3,.int .i64 b3]⟩ sc kc,fun _=>⟨[.slice (some ⟨0,0,none⟩) np cp,.func (.func 120) ⟨[]⟩ ⟨[]⟩]⟩,fun _=>True,fun _ x=>x=0,fun _=>.bool false⟩]:List Ct),dF Tryz.prog c):bM Tryz.prog (fun v _=>∃x:Int,x=0∧v = .int .i64 x) ⟨aF.enter Tryz.prog 79 ⟨[.agg ⟨[.int .i64 run,.int .i64 scale,.int .i64 follow,.int .i64 bite,.int .i64 wrong,.slice (some ⟨0,0,none⟩) np cp,.slice (some ⟨1,0,none⟩) 4 ct]⟩]⟩,[],di 4 (L4 pc ⟨[.int .i64 f0,.int .i64 a0,.int .i64 b0,.int .i64 f1,.int .i64 a1,.int .i64 b1,.int .i64 f2,.int .i64 a2,.int .i64 b2,.int .i64 f3,.int .i64 a3,.int .i64 b3]⟩ sc kc)⟩:=by
 refine aQ (Tryz.ok hc) (Tryz.acU _ _ _ rfl) ?_
 simp only [Hd] at hh
 simp only [iF,and_true] at hr
 iterate 10 refine BR.ll ?_
 intro x0 _
 iterate 2 refine BR.ll ?_
 refine ⟨⟨rfl,rM,trivial⟩,fun x1 _=>⟨rfl,?_⟩⟩
 refine ⟨by simp,?_⟩
 intro x2 _
 iterate 7 (first|refine BR.ll ?_|refine va fun _ _=>?_|refine ⟨by simp,?_⟩)
 intro x4 _
 iterate 7 (first|refine BR.ll ?_|refine va fun _ _=>?_|refine ⟨by simp,?_⟩)
 intro x6 _
 iterate 7 (first|refine BR.ll ?_|refine va fun _ _=>?_|refine ⟨by simp,?_⟩)
 intro x8 _
 iterate 7 (first|refine BR.ll ?_|refine va fun _ _=>?_|refine ⟨by simp,?_⟩)
 exact fun _=>⟨_,rfl,rfl⟩
end
end Go.Am
namespace Go.Am
open Go.Proofs
theorem Tz{a n:Int}(h:0 < n)(k:¬Int.tmod a n < 0):Int.tdiv a n=a / n:=by
 have h1:=Int.tmod_add_mul_tdiv a n
 have h2:=Int.tmod_lt_of_pos a h
 have h3:a=Int.tmod a n+Int.tdiv a n * n:=by rw [Int.mul_comm];omega
 have h4:(Int.tmod a n+Int.tdiv a n * n) / n=Int.tmod a n / n+Int.tdiv a n:=Int.add_mul_ediv_right _ _ (by omega)
 rw [←h3,Int.ediv_eq_zero_of_lt (by omega) h2] at h4
 omega
theorem TA{a n:Int}(h:0 < n)(k:Int.tmod a n < 0):Int.tdiv a n - 1=a / n:=by
 have h1:=Int.tmod_add_mul_tdiv a n
 have h2 : -n < Int.tmod a n:=(MH h).1
 have h3:a=(Int.tmod a n+n)+(Int.tdiv a n - 1) * n:=by
   have:(Int.tdiv a n - 1) * n=n * Int.tdiv a n - n:=by rw [Int.sub_mul,Int.one_mul,Int.mul_comm]
   omega
 have h4:((Int.tmod a n+n)+(Int.tdiv a n - 1) * n) / n=(Int.tmod a n+n) / n+(Int.tdiv a n - 1):=Int.add_mul_ediv_right _ _ (by omega)
 rw [←h3,Int.ediv_eq_zero_of_lt (a:=Int.tmod a n+n) (b:=n) (by omega) (by omega)] at h4
 omega
theorem lfv{x y:Int}(h:x=y):∀_:AH,∃z:Int,z=y∧(Value.int .i64 x) = .int .i64 z:=fun _=>⟨x,h,rfl⟩
theorem lfx{x:Int}(h:0≤x∧x≤65535):∀_:AH,∃y:Int,(0≤y∧y≤65535)∧Value.int .i64 x = .int .i64 y:=fun _=>⟨x,h,rfl⟩
noncomputable def flC:Ct:=⟨73,fun a _=>[yS a 0,yS a 1],0,fun _=>[],fun ps=>⟨[.int .i64 (ps.headD 0),.int .i64 (ps.tail.headD 0)]⟩,fun ps=>0 < ps.tail.headD 0 ∧ -9000000000000≤ps.headD 0∧ps.headD 0≤9000000000000,fun ps x=>x=ps.headD 0 / ps.tail.headD 0,fun x=>.int .i64 x⟩
section
variable{fa fn:Int}
theorem Tryz.afe(Q:Value→Prop)(K:AS→Prop):tx (Tryz.X []) Q K (.ov 1 5 (.val 0 0 7 (.br 0 1 8 (.ov 1 5 (.val 0 0 11 (.val 0 1 12 (.ret 2 1)))) (.ov 2 4 (.val 0 0 15 (.ret 2 1)))))) ⟨aF.enter Tryz.prog 73 ⟨[.int .i64 fa,.int .i64 fn]⟩,[],di 0 []⟩=(((fn:Int)≠0)∧∀x0,x0=Int.tmod fa fn→BR (decide (x0 < 0)) (((fn:Int)≠0)∧∀x1,x1=wi (Int.tdiv fa fn)→∀x2,x2=wi (x1 - 1)→Q (.int .i64 x2)) (((fn:Int)≠0)∧∀x3,x3=wi (Int.tdiv fa fn)→Q (.int .i64 x3))):=by kernel_rfl
theorem Tryz.fl(hn:0 < fn)(ha : -9000000000000≤fa)(hb:fa≤9000000000000):bM Tryz.prog (fun v _=>∃x:Int,(x=fa / fn)∧v = .int .i64 x) ⟨aF.enter Tryz.prog 73 ⟨[.int .i64 fa,.int .i64 fn]⟩,[],di 0 []⟩:=by
 refine aQ (Tryz.ok dM) (Tryz.afe _ _) ?_
 refine ⟨by omega,?_⟩
 refine vs fun x0 _ _=>?_
 refine BR.mk (fun _=>?_) (fun _=>?_)
 ·
  refine ⟨by omega,?_⟩
  refine vq (by omega) (by omega) fun x1 _ _=>?_
  refine va fun x2 _=>?_
  exact lfv (by subst_vars;first|exact Tz (by omega) (by assumption)|exact TA (by omega) (by assumption))
 refine ⟨by omega,?_⟩
 refine vq (by omega) (by omega) fun x3 _ _=>?_
 exact lfv (by subst_vars;first|exact Tz (by omega) (by assumption)|exact TA (by omega) (by assumption))
end
section
variable{k:Int}{nk ck:Nat}{pc tc sc kc:Array Value}
theorem Tryz.aff(Q:Value→Prop)(K:AS→Prop):tx (Tryz.X []) Q K (.val 1 6 7 (.br 0 1 8 (.ov 1 5 (.lod 0 0 .u16 (.val 0 1 13 (.ret 2 1)))) (.ret 4 1))) ⟨aF.enter Tryz.prog 6 ⟨[.slice (some ⟨3,0,none⟩) nk ck,.int .i64 k]⟩,[],di 4 (L4 pc tc sc kc)⟩=(∀x0,x0=((nk:Nat):Int)→BR (decide (k < x0)) (((0:Int)≤k∧k < ((nk:Nat):Int))∧∃x2:Int,nth kc.toList (0+Int.toNat k * 1)=some (.int .u16 x2)∧∀x3,x3=wi x2→Q (.int .i64 x3)) (Q (.int .i64 0))):=by kernel_rfl
theorem Tryz.ch(h0:0≤k)(hk:∀i:Nat,i < nk→∃x:Int,nth kc.toList i=some (.int .u16 x)∧0≤x∧x≤65535):bM Tryz.prog (fun v _=>∃x:Int,(0≤x∧x≤65535)∧v = .int .i64 x) ⟨aF.enter Tryz.prog 6 ⟨[.slice (some ⟨3,0,none⟩) nk ck,.int .i64 k]⟩,[],di 4 (L4 pc tc sc kc)⟩:=by
 refine aQ (Tryz.ok dM) (Tryz.aff _ _) ?_
 intro x0 _
 refine BR.mk (fun _=>?_) fun _=>lfx (by omega)
 refine ⟨⟨by omega,by omega⟩,?_⟩
 obtain ⟨x2,hx,_,_⟩:=hk (Int.toNat k) (by omega)
 refine ⟨x2,by rw [show 0+Int.toNat k * 1=Int.toNat k by omega];exact hx,?_⟩
 refine va fun x3 _=>?_
 exact lfx (by omega)
end
section
variable{k:Int}{ck:Nat}{pc tc sc kc:Array Value}{ok:Option Addr}
theorem Tryz.acV(Q:Value→Prop)(K:AS→Prop):tx (Tryz.X []) Q K (.br 1 7 8 .no (.ret 4 1)) ⟨aF.enter Tryz.prog 6 ⟨[.slice ok 0 ck,.int .i64 k]⟩,[],di 4 (L4 pc tc sc kc)⟩=(BR (decide (k < 0)) (False) (Q (.int .i64 0))):=by kernel_rfl
theorem Tryz.ch0(h0:0≤k):bM Tryz.prog (fun v _=>∃x:Int,(0≤x∧x≤65535)∧v = .int .i64 x) ⟨aF.enter Tryz.prog 6 ⟨[.slice ok 0 ck,.int .i64 k]⟩,[],di 4 (L4 pc tc sc kc)⟩:=by
 refine aQ (Tryz.ok dM) (Tryz.acV _ _) ?_
 refine BR.rr ?_
 exact lfx (by omega)
end
def dB(f:FuncId)(s:AS):Bool:=Nat.beq s.fr.fn f && match s.fr.todo with
 | .inLoop _ :: l=>l.any fun x=>match x with | .inLoop _=>true|_=>false
 | _=>false
theorem lT{a a' b:Int}{F:Int→Prop}(e:a=a')(h1 : -3000000≤a')(h2:a' ≤ 3000000)(h3 : -3000000≤b)(h4:b≤3000000)(k:∀x,x=a' * b → -9000000000000≤x→x≤9000000000000→F x):∀x,x=IntKind.i64.wrap (a * b)→F x:=by
 subst e
 exact vm h1 h2 h3 h4 k
theorem ML{x a b n:Int}(hx:x=a / n)(ha:a=b):x=b / n:=by rw [hx,ha]
theorem lC{x d c n:Int}(h:x=d * c / n)(hn:1≤n)(hc:1≤c∧c≤99)(hd : -959≤d∧d≤959):x * n≤d * c∧d * c < x * n+n ∧ -94941≤x∧x≤94941:=by
 have k1:d * c / n * n≤d * c:=Int.ediv_mul_le _ (by omega)
 have k2:d * c < (d * c / n+1) * n:=Int.lt_ediv_add_one_mul_self _ (by omega)
 have k3:0≤(959 - d) * (c - 1):=Int.mul_nonneg (by omega) (by omega)
 have k4:0≤(959+d) * (c - 1):=Int.mul_nonneg (by omega) (by omega)
 have e3:(959 - d) * (c - 1)=959 * c - d * c - (959 - d):=by rw [Int.mul_sub,Int.sub_mul];omega
 have e4:(959+d) * (c - 1)=959 * c+d * c - (959+d):=by rw [Int.mul_sub,Int.add_mul];omega
 have e2:(d * c / n+1) * n=d * c / n * n+n:=by rw [Int.add_mul,Int.one_mul]
 have b1 : -94941≤d * c / n:=Int.le_ediv_of_mul_le (by omega) (by omega)
 have b2:d * c / n≤94941:=Int.ediv_le_of_le_mul (by omega) (by omega)
 rw [h]
 omega
theorem dD{x y d e c n:Int}(hx:x=d * c / n)(hy:y=e * c / n)(hn:0 < n)(hc:0≤c):(d≤e→x≤y)∧(e≤d→y≤x):=by
 refine ⟨fun h=>?_,fun h=>?_⟩
 · rw [hx,hy];exact Int.ediv_le_ediv hn (Int.mul_le_mul_of_nonneg_right h hc)
 · rw [hx,hy];exact Int.ediv_le_ediv hn (Int.mul_le_mul_of_nonneg_right h hc)
section
variable{run scale follow bite wrong:Int}{cp nt ct nk ck np:Nat}{op ot ok:Option Addr}
theorem Tryz.Vl:∀v0:Value,v0=(bm run scale follow bite wrong op np cp ot nt ct)→tx (Tryz.X [⟨10,fun _ _=>[],4,fun _=>[],fun _=>⟨[v0]⟩,fun _=>True,fun _ x=>(¬x=0),fun x=>.int .i64 x⟩]) (fun _=>False) (fun s=>aG (Tryz.X []) 3 5 s=true) ZL ⟨aF.enter Tryz.prog 3 ⟨[v0,.slice ok nk ck]⟩,[],di 4 []⟩=(∀x0,x0=((np:Nat):Int)→BR (decide (x0 > 20)) ((true=true)) (∀x1,x1=((nt:Nat):Int)→BR (decide (x1 > 20)) ((true=true)) (((AE ⟨[v0]⟩)∧(True)∧True)∧∀x2:Int,(¬x2=0)→RK (true) (BR (decide (x2=0)) (False) ((true=true)))))):=by
 rintro _ rfl
 kernel_rfl
set_option maxHeartbeats 4000000 in
theorem Tryz.acW(hc:∀c∈([⟨10,fun _ _=>[],4,fun _=>[],fun _=>⟨[(bm run scale follow bite wrong op np cp ot nt ct)]⟩,fun _=>True,fun _ x=>(¬x=0),fun x=>.int .i64 x⟩]:List Ct),dF Tryz.prog c):ay Tryz.prog (fun s=>aG (Tryz.X []) 3 5 s=true) ⟨aF.enter Tryz.prog 3 ⟨[(bm run scale follow bite wrong op np cp ot nt ct),.slice ok nk ck]⟩,[],di 4 []⟩:=by
 refine aW (Tryz.ok hc) (Tryz.Vl _ rfl) ?_
 intro x0 _
 refine BR.mk (fun _=>?_) (fun _=>?_)
 ·
  exact rfl
 intro x1 _
 refine BR.mk (fun _=>?_) (fun _=>?_)
 ·
  exact rfl
 refine ⟨⟨rfl,trivial,trivial⟩,fun x2 yV=>⟨rfl,?_⟩⟩
 refine BR.rr ?_
 exact rfl
end
section
variable{run scale follow bite wrong:Int}{cp nt ct nk ck np:Nat}{op ot ok:Option Addr}{pc tc sc kc:Array Value}
theorem Tryz.Vm:∀v0:Value,v0=(bm run scale follow bite wrong op np cp ot nt ct)→tx (Tryz.X [⟨10,fun _ _=>[],4,fun _=>L4 pc tc sc kc,fun _=>⟨[v0]⟩,fun _=>True,fun _ x=>(¬x=0),fun x=>.int .i64 x⟩]) (fun _=>False) (fun s=>aG (Tryz.X []) 3 5 s=true) ZL ⟨aF.enter Tryz.prog 3 ⟨[v0,.slice ok nk ck]⟩,[],di 4 (L4 pc tc sc kc)⟩=(∀x0,x0=((np:Nat):Int)→BR (decide (x0 > 20)) ((true=true)) (∀x1,x1=((nt:Nat):Int)→BR (decide (x1 > 20)) ((true=true)) (((AE ⟨[v0]⟩)∧(E4 pc tc sc kc)∧True)∧∀x2:Int,(¬x2=0)→RK (true) (BR (decide (x2=0)) (False) ((true=true)))))):=by
 rintro _ rfl
 kernel_rfl
set_option maxHeartbeats 4000000 in
theorem Tryz.MM(hc:∀c∈([⟨10,fun _ _=>[],4,fun _=>L4 pc tc sc kc,fun _=>⟨[(bm run scale follow bite wrong op np cp ot nt ct)]⟩,fun _=>True,fun _ x=>(¬x=0),fun x=>.int .i64 x⟩]:List Ct),dF Tryz.prog c):ay Tryz.prog (fun s=>aG (Tryz.X []) 3 5 s=true) ⟨aF.enter Tryz.prog 3 ⟨[(bm run scale follow bite wrong op np cp ot nt ct),.slice ok nk ck]⟩,[],di 4 (L4 pc tc sc kc)⟩:=by
 refine aW (Tryz.ok hc) (Tryz.Vm _ rfl) ?_
 intro x0 _
 refine BR.mk (fun _=>?_) (fun _=>?_)
 ·
  exact rfl
 intro x1 _
 refine BR.mk (fun _=>?_) (fun _=>?_)
 ·
  exact rfl
 refine ⟨⟨rfl,rM,trivial⟩,fun x2 yV=>⟨rfl,?_⟩⟩
 refine BR.rr ?_
 exact rfl
end
end Go.Am
namespace Go.Am
open Go.Proofs
def mM:List (Int×Int)→List Value
 | []=>[]
 | (l,u) :: r=>.int .i64 l :: .int .i64 u :: mM r
def encR:List (Int×Int×Int)→List Value
 | []=>[]
 | (f,a,b) :: r=>.int .i64 f :: .int .i64 a :: .int .i64 b :: encR r
def kU:List Int→List Value
 | []=>[]
 | n :: r=>.int .u16 n :: kU r
theorem jl:∀l,∀x∈mM l,Plain x
 | [],x,h=>absurd h List.not_mem_nil
 | (f,t) :: r,x,h=>by
   simp only [mM,List.mem_cons] at h
   rcases h with rfl|rfl|h
   iterate 2 exact .int _ _
   exact jl r x h
theorem jm:∀l,∀x∈encR l,Plain x
 | [],x,h=>absurd h List.not_mem_nil
 | (f,t,a) :: r,x,h=>by
   simp only [encR,List.mem_cons] at h
   rcases h with rfl|rfl|rfl|h
   iterate 3 exact .int _ _
   exact jm r x h
theorem iG:∀l,∀x∈kU l,Plain x
 | [],x,h=>absurd h List.not_mem_nil
 | n :: r,x,h=>by
   simp only [kU,List.mem_cons] at h
   rcases h with rfl|h
   ·exact .int _ _
   ·exact iG r x h
theorem TB{pc tc sc kc:Array Value}(h1:∀x∈pc,Plain x)(h2:∀x∈tc,Plain x)(h3:∀x∈sc,Plain x)(h4:∀x∈kc,Plain x):StL 4 (L4 pc tc sc kc):=by
 refine ⟨fun p hp=>?_,fun p hp=>?_,by simp [L4]⟩
 · simp only [L4,List.mem_cons,List.not_mem_nil,or_false] at hp
   rcases hp with rfl|rfl|rfl|rfl<;>simp
 · simp only [L4,List.mem_cons,List.not_mem_nil,or_false] at hp
   rcases hp with rfl|rfl|rfl|rfl
   ·exact ⟨pc,_,_,rfl,h1⟩
   ·exact ⟨tc,_,_,rfl,h2⟩
   ·exact ⟨sc,_,_,rfl,h3⟩
   ·exact ⟨kc,_,_,rfl,h4⟩
theorem aa2{p:Nat→Prop}{o:Option Addr}{n c:Nat}(h:∀a,o=some a→p a.block):mG p (.slice o n c):=by
 cases o with
 | none=>exact .nilslice n c
 | some a=>exact .slice (h a rfl)
def vI(b:Nat)(n:Nat)(o:Option Addr):Prop:=(n≠0→o=some ⟨b,0,none⟩)∧∀a,o=some a→a.block=b
theorem vI.ok{b n c m:Nat}{o:Option Addr}(h:vI b n o)(hb:b < m):mG (· < m) (.slice o n c):=aa2 fun a e=>by rw [h.2 a e];exact hb
theorem Vo{m n1 n2 c1 c2:Nat}{run scale follow bite wrong:Int}{o1 o2:Option Addr}(hm:2≤m)(h1:vI 0 n1 o1)(h2:vI 1 n2 o2):mG (· < m) (bm run scale follow bite wrong o1 n1 c1 o2 n2 c2):=by
 refine .agg fun x hx=>?_
 simp only [List.mem_toArray,List.mem_cons,List.not_mem_nil,or_false] at hx
 rcases hx with rfl|rfl|rfl|rfl|rfl|rfl|rfl
 iterate 5 exact .int _ _
 · exact h1.ok (by omega)
 · exact h2.ok (by omega)
theorem mem1{α:Type}{a x:α}(h:x∈(⟨[a]⟩:Array α)):x=a:=by simpa using h
section
variable{run scale follow bite wrong:Int}{pc sc kc tc:Array Value}{op ot ok:Option Addr}{cp ct ck np:Nat}{eU:List (Int×Int×Int)}
theorem ck3{l0 u0 l1 u1 l2 u2:Int}(ho:vI 1 eU.length ot):bM Tryz.prog (fun v _=>∃x:Int,(x=0→Hd run scale follow bite wrong∧iP [(l0,u0),(l1,u1),(l2,u2)]∧eU.length≤4∧iF 3 eU)∧v = .int .i64 x) ⟨aF.enter Tryz.prog 10 ⟨[bm run scale follow bite wrong (some ⟨0,0,none⟩) 3 cp ot eU.length ct]⟩,[],di 4 (L4 ⟨mM [(l0,u0),(l1,u1),(l2,u2)]⟩ ⟨encR eU⟩ sc kc)⟩:=by
 have up:∀ {s:AS} {V W:Prop},(V→W)→bM Tryz.prog (fun v _=>∃x:Int,(x=0→V)∧v = .int .i64 x) s→bM Tryz.prog (fun v _=>∃x:Int,(x=0→W)∧v = .int .i64 x) s:=
   fun h r=>r.mono fun v _ ⟨x,h1,h2⟩=>⟨x,fun e=>h (h1 e),h2⟩
 match eU,ho with
 | [],ho=>exact up (fun h=>⟨h.1,h.2.1,by simp,h.2.2⟩) Tryz.aeP
 | [(f0,a0,b0)],ho=>obtain rfl:=ho.1 (by simp);exact up (fun h=>⟨h.1,h.2.1,by simp,h.2.2⟩) Tryz.aeQ
 | [(f0,a0,b0),(f1,a1,b1)],ho=>obtain rfl:=ho.1 (by simp);exact up (fun h=>⟨h.1,h.2.1,by simp,h.2.2⟩) Tryz.aeR
 | [(f0,a0,b0),(f1,a1,b1),(f2,a2,b2)],ho=>obtain rfl:=ho.1 (by simp);exact up (fun h=>⟨h.1,h.2.1,by simp,h.2.2⟩) Tryz.aeS
 | [(f0,a0,b0),(f1,a1,b1),(f2,a2,b2),(f3,a3,b3)],ho=>obtain rfl:=ho.1 (by simp);exact up (fun h=>⟨h.1,h.2.1,by simp,h.2.2⟩) Tryz.aeT
 | a :: b :: c :: d :: e :: r,ho=>exact up False.elim (Tryz.aeU (nt:=r.length+5) (by omega))
theorem ck4{l0 u0 l1 u1 l2 u2 l3 u3:Int}(ho:vI 1 eU.length ot):bM Tryz.prog (fun v _=>∃x:Int,(x=0→Hd run scale follow bite wrong∧iP [(l0,u0),(l1,u1),(l2,u2),(l3,u3)]∧eU.length≤4∧iF 4 eU)∧v = .int .i64 x) ⟨aF.enter Tryz.prog 10 ⟨[bm run scale follow bite wrong (some ⟨0,0,none⟩) 4 cp ot eU.length ct]⟩,[],di 4 (L4 ⟨mM [(l0,u0),(l1,u1),(l2,u2),(l3,u3)]⟩ ⟨encR eU⟩ sc kc)⟩:=by
 have up:∀ {s:AS} {V W:Prop},(V→W)→bM Tryz.prog (fun v _=>∃x:Int,(x=0→V)∧v = .int .i64 x) s→bM Tryz.prog (fun v _=>∃x:Int,(x=0→W)∧v = .int .i64 x) s:=
   fun h r=>r.mono fun v _ ⟨x,h1,h2⟩=>⟨x,fun e=>h (h1 e),h2⟩
 match eU,ho with
 | [],ho=>exact up (fun h=>⟨h.1,h.2.1,by simp,h.2.2⟩) Tryz.aeV
 | [(f0,a0,b0)],ho=>obtain rfl:=ho.1 (by simp);exact up (fun h=>⟨h.1,h.2.1,by simp,h.2.2⟩) Tryz.aeW
 | [(f0,a0,b0),(f1,a1,b1)],ho=>obtain rfl:=ho.1 (by simp);exact up (fun h=>⟨h.1,h.2.1,by simp,h.2.2⟩) Tryz.aeX
 | [(f0,a0,b0),(f1,a1,b1),(f2,a2,b2)],ho=>obtain rfl:=ho.1 (by simp);exact up (fun h=>⟨h.1,h.2.1,by simp,h.2.2⟩) Tryz.aeY
 | [(f0,a0,b0),(f1,a1,b1),(f2,a2,b2),(f3,a3,b3)],ho=>obtain rfl:=ho.1 (by simp);exact up (fun h=>⟨h.1,h.2.1,by simp,h.2.2⟩) Tryz.aeZ
 | a :: b :: c :: d :: e :: r,ho=>exact up False.elim (Tryz.ae0 (nt:=r.length+5) (by omega))
theorem ck5{l0 u0 l1 u1 l2 u2 l3 u3 l4 u4:Int}(ho:vI 1 eU.length ot):bM Tryz.prog (fun v _=>∃x:Int,(x=0→Hd run scale follow bite wrong∧iP [(l0,u0),(l1,u1),(l2,u2),(l3,u3),(l4,u4)]∧eU.length≤4∧iF 5 eU)∧v = .int .i64 x) ⟨aF.enter Tryz.prog 10 ⟨[bm run scale follow bite wrong (some ⟨0,0,none⟩) 5 cp ot eU.length ct]⟩,[],di 4 (L4 ⟨mM [(l0,u0),(l1,u1),(l2,u2),(l3,u3),(l4,u4)]⟩ ⟨encR eU⟩ sc kc)⟩:=by
 have up:∀ {s:AS} {V W:Prop},(V→W)→bM Tryz.prog (fun v _=>∃x:Int,(x=0→V)∧v = .int .i64 x) s→bM Tryz.prog (fun v _=>∃x:Int,(x=0→W)∧v = .int .i64 x) s:=
   fun h r=>r.mono fun v _ ⟨x,h1,h2⟩=>⟨x,fun e=>h (h1 e),h2⟩
 match eU,ho with
 | [],ho=>exact up (fun h=>⟨h.1,h.2.1,by simp,h.2.2⟩) Tryz.ae1
 | [(f0,a0,b0)],ho=>obtain rfl:=ho.1 (by simp);exact up (fun h=>⟨h.1,h.2.1,by simp,h.2.2⟩) Tryz.ae2
 | [(f0,a0,b0),(f1,a1,b1)],ho=>obtain rfl:=ho.1 (by simp);exact up (fun h=>⟨h.1,h.2.1,by simp,h.2.2⟩) Tryz.ae3
 | [(f0,a0,b0),(f1,a1,b1),(f2,a2,b2)],ho=>obtain rfl:=ho.1 (by simp);exact up (fun h=>⟨h.1,h.2.1,by simp,h.2.2⟩) Tryz.ae4
 | [(f0,a0,b0),(f1,a1,b1),(f2,a2,b2),(f3,a3,b3)],ho=>obtain rfl:=ho.1 (by simp);exact up (fun h=>⟨h.1,h.2.1,by simp,h.2.2⟩) Tryz.ae5
 | a :: b :: c :: d :: e :: r,ho=>exact up False.elim (Tryz.ae6 (nt:=r.length+5) (by omega))
theorem ck6{l0 u0 l1 u1 l2 u2 l3 u3 l4 u4 l5 u5:Int}(ho:vI 1 eU.length ot):bM Tryz.prog (fun v _=>∃x:Int,(x=0→Hd run scale follow bite wrong∧iP [(l0,u0),(l1,u1),(l2,u2),(l3,u3),(l4,u4),(l5,u5)]∧eU.length≤4∧iF 6 eU)∧v = .int .i64 x) ⟨aF.enter Tryz.prog 10 ⟨[bm run scale follow bite wrong (some ⟨0,0,none⟩) 6 cp ot eU.length ct]⟩,[],di 4 (L4 ⟨mM [(l0,u0),(l1,u1),(l2,u2),(l3,u3),(l4,u4),(l5,u5)]⟩ ⟨encR eU⟩ sc kc)⟩:=by
 have up:∀ {s:AS} {V W:Prop},(V→W)→bM Tryz.prog (fun v _=>∃x:Int,(x=0→V)∧v = .int .i64 x) s→bM Tryz.prog (fun v _=>∃x:Int,(x=0→W)∧v = .int .i64 x) s:=
   fun h r=>r.mono fun v _ ⟨x,h1,h2⟩=>⟨x,fun e=>h (h1 e),h2⟩
 match eU,ho with
 | [],ho=>exact up (fun h=>⟨h.1,h.2.1,by simp,h.2.2⟩) Tryz.ae7
 | [(f0,a0,b0)],ho=>obtain rfl:=ho.1 (by simp);exact up (fun h=>⟨h.1,h.2.1,by simp,h.2.2⟩) Tryz.ae8
 | [(f0,a0,b0),(f1,a1,b1)],ho=>obtain rfl:=ho.1 (by simp);exact up (fun h=>⟨h.1,h.2.1,by simp,h.2.2⟩) Tryz.ae9
 | [(f0,a0,b0),(f1,a1,b1),(f2,a2,b2)],ho=>obtain rfl:=ho.1 (by simp);exact up (fun h=>⟨h.1,h.2.1,by simp,h.2.2⟩) Tryz.afa
 | [(f0,a0,b0),(f1,a1,b1),(f2,a2,b2),(f3,a3,b3)],ho=>obtain rfl:=ho.1 (by simp);exact up (fun h=>⟨h.1,h.2.1,by simp,h.2.2⟩) Tryz.afb
 | a :: b :: c :: d :: e :: r,ho=>exact up False.elim (Tryz.afc (nt:=r.length+5) (by omega))
theorem snR(hh:Hd run scale follow bite wrong)(hnp:3≤np∧np≤6)(hl:eU.length≤4)(hr:iF np eU)(ho:vI 1 eU.length ot)(hc:dF Tryz.prog ⟨119,fun _ _=>[],4,fun _=>L4 pc ⟨encR eU⟩ sc kc,fun _=>⟨[.slice (some ⟨0,0,none⟩) np cp,.func (.func 120) ⟨[]⟩ ⟨[]⟩]⟩,fun _=>True,fun _ x=>x=0,fun _=>.bool false⟩):bM Tryz.prog (fun v _=>∃x:Int,x=0∧v = .int .i64 x) ⟨aF.enter Tryz.prog 79 ⟨[bm run scale follow bite wrong (some ⟨0,0,none⟩) np cp ot eU.length ct]⟩,[],di 4 (L4 pc ⟨encR eU⟩ sc kc)⟩:=by
 match eU,ho,hr,hl,hc with
 | [],ho,hr,hl,hc=>exact Tryz.sn0 hh hnp hr (eX hc dM)
 | [(f0,a0,b0)],ho,hr,hl,hc=>obtain rfl:=ho.1 (by simp);exact Tryz.sn1 hh hnp hr (eX hc dM)
 | [(f0,a0,b0),(f1,a1,b1)],ho,hr,hl,hc=>obtain rfl:=ho.1 (by simp);exact Tryz.sn2 hh hnp hr (eX hc dM)
 | [(f0,a0,b0),(f1,a1,b1),(f2,a2,b2)],ho,hr,hl,hc=>obtain rfl:=ho.1 (by simp);exact Tryz.sn3 hh hnp hr (eX hc dM)
 | [(f0,a0,b0),(f1,a1,b1),(f2,a2,b2),(f3,a3,b3)],ho,hr,hl,hc=>obtain rfl:=ho.1 (by simp);exact Tryz.sn4 hh hnp hr (eX hc dM)
 | a :: b :: c :: d :: e :: r,ho,hr,hl,hc=>exact absurd hl (by simp)
theorem Vp{x:Value}(hx:x∈(⟨[.slice (some ⟨0,0,none⟩) np cp,.func (.func 120) ⟨[]⟩ ⟨[]⟩]⟩:Array Value)):mG (· < 4) x:=by
 simp only [List.mem_toArray,List.mem_cons,List.not_mem_nil,or_false] at hx
 rcases hx with rfl|rfl
 · exact .slice (show 0 < 4 by decide)
 · exact .func trivial (fun x h=>by simp at h) (fun x h=>by simp at h)
end
theorem uB{pc tc sc:Array Value}{ok:Option Addr}{ck:Nat}{ks:List Int}(hpl:∀x∈pc,Plain x)(htc:∀x∈tc,Plain x)(hsc:∀x∈sc,Plain x)(hok:vI 3 ks.length ok)(hks:∀n∈ks,0≤n∧n≤65535) :
   dF Tryz.prog ⟨6,fun a _=>[yS a 1],4,fun _=>L4 pc tc sc ⟨kU ks⟩,fun ps=>⟨[.slice ok ks.length ck,.int .i64 (ps.headD 0)]⟩,fun ps=>0≤ps.headD 0,fun _ x=>(0≤x∧x≤65535),fun x=>.int .i64 x⟩:=by
 refine ⟨fun p hk=>?_,fun _ _=>TB hpl htc hsc (fun x hx=>iG ks x (by simpa using hx)),fun p x hx=>?_,fun x=>.int _ _⟩
 · dsimp only at hk ⊢
   generalize p.headD 0=k at hk
   match ks,hok,hks with
   | [],hok,hks=>exact Tryz.ch0 hk
   |n :: r,hok,hks=>
    obtain rfl:=hok.1 (by simp)
    refine Tryz.ch hk fun i hi=>?_
    have key:∀(l:List Int) (i:Nat),i < l.length→nth (kU l) i=some (.int .u16 (l.getD i 0))∧l.getD i 0∈l:=by
     intro l
     induction l with
     |nil=>intro i hi;exact absurd hi (Nat.not_lt_zero _)
     |cons a l ih=>
      intro i hi
      cases i with
      |zero=>exact ⟨rfl,by simp⟩
      |succ i=>
       obtain ⟨h1,h2⟩:=ih i (by simpa using hi)
       have e:(a :: l).getD (i+1) 0=l.getD i 0:=by simp [List.getD]
       rw [e]
       exact ⟨h1,.tail _ h2⟩
    obtain ⟨h1,h2⟩:=key (n :: r) i hi
    exact ⟨_,h1,hks _ h2⟩
 · simp only [List.mem_toArray,List.mem_cons,List.not_mem_nil,or_false] at hx
   rcases hx with rfl|rfl
   ·exact hok.ok (m:=4) (by decide)
   ·exact .int _ _
theorem Vq:dF Tryz.prog flC:=by
 unfold flC
 refine ⟨fun p hp=>Tryz.fl hp.1 hp.2.1 hp.2.2,fun _ _=>⟨by simp,by simp,by simp⟩,fun p x hx=>?_,fun x=>.int _ _⟩
 simp only [List.mem_toArray,List.mem_cons,List.not_mem_nil,or_false] at hx
 rcases hx with rfl|rfl<;>exact .int _ _
end Go.Am
