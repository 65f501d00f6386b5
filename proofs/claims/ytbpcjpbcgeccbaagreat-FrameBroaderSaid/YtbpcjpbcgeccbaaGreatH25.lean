import Derived.Test.YtbpcjpbcgeccbaaGreatH24
set_option linter.unusedVariables false
set_option linter.unusedSectionVars false
set_option linter.unusedSimpArgs false
namespace Go.Am
open Go.Proofs
noncomputable def Tryz.X(cs:List Ct):TX:=⟨Tryz.prog,Tryz.tT,Tryz.tF,ctI cs⟩
theorem Tryz.ok{cs:List Ct}(h:∀c∈cs,jQ Tryz.prog c):GV (Tryz.X cs):=⟨Tryz.zeros,Tryz.tOk,Tryz.fOk,aa6 (P:=Tryz.prog) h⟩
def nM(p:Int):List (Int×Int×Int)→Prop
 | []=>True
 | (h,l,u) :: r=>(p < h∧h≤959∧0≤l∧l≤u∧u≤959∧u - l < 3)∧nM h r
def lq(l:List (Int×Int×Int)):Prop:=nM (-1) l
def Ju(np:Int):List (Int×Int×Int×Int)→Prop
 | []=>True
 | (f,t,a,b) :: r=>(0≤f∧f < t∧t < np∧0≤a∧a≤b∧b≤9999)∧Ju np r
def Sts(lo hi:Int):List (Int×Int)→Prop
 | []=>True
 | (g,m) :: r=>(lo≤g∧g≤hi∧0≤m∧m≤959)∧Sts lo hi r
section
variable{h0 l0 u0 h1 l1 u1:Int}{tc sc kc:Array Value}{cp:Nat}
abbrev YM:HT:=.br 0 6 16 (.br 0 6 22 (.val 3 7 51 (.br 0 1 52 (.ret 3 1) (.br 8 5 9 (.br 0 4 13 (.br 19 2 36 (.ret 3 1) (.br 5 6 10 (.br 0 6 16 (.br 0 6 22 (.val 3 7 51 (.br 0 1 52 (.ret 3 1) (.br 8 5 9 (.br 0 4 13 (.br 19 2 36 (.ret 3 1) (.br 5 6 10 (.br 0 6 16 (.br 0 6 22 (.val 3 7 51 (.br 0 1 52 (.ret 3 1) (.ret 8 1))) (.ret 6 1)) (.ret 6 1)) (.ret 6 1))) (.ret 6 1)) (.ret 6 1)))) (.ret 6 1)) (.ret 6 1)) (.ret 6 1))) (.ret 6 1)) (.ret 6 1)))) (.ret 6 1)) (.ret 6 1)
abbrev YN:HT:=.val 0 1 9 (.br 2 5 9 (.br 0 4 13 (.val 8 6 8 (.val 0 1 9 (.br 2 5 9 (.br 0 4 13 (.br 8 8 37 (.ret 3 1) (.br 4 6 10 (.br 0 6 16 (.br 0 6 22 (.val 12 6 8 (.val 0 1 9 (.br 2 5 9 (.br 0 4 13 (.val 8 6 8 (.val 0 1 9 (.br 2 5 9 (.br 0 4 13 (.br 8 8 37 (.ret 3 1) (.br 4 6 10 (.br 0 6 16 (.br 0 6 22 (.ret 11 1) (.ret 6 1)) (.ret 6 1)) (.ret 6 1))) (.ret 9 1)) (.ret 9 1)))) (.ret 9 1)) (.ret 9 1)))) (.ret 6 1)) (.ret 6 1)) (.ret 6 1))) (.ret 9 1)) (.ret 9 1)))) (.ret 9 1)) (.ret 9 1))
abbrev YO:HT:=.GR 0 1 .i64 (.val 0 5 15 (.val 0 1 16 (.ov 0 0 (.GR 0 1 .i64 (.br 2 5 9 (.br 0 4 13 (.br 15 5 9 (.br 0 4 13 (.ov 18 3 (.GR 0 1 .i64 (.val 0 5 15 (.val 0 1 16 (.ov 0 0 (.GR 0 1 .i64 (.br 2 5 9 (.br 0 4 13 (.br 15 5 9 (.br 0 4 13 (.ret 12 1) (.ret 7 1)) (.ret 7 1)) (.ret 18 1)) (.ret 18 1)))))))) (.ret 7 1)) (.ret 7 1)) (.ret 18 1)) (.ret 18 1))))))
abbrev YP:HT:=.br 0 6 16 (.br 0 6 22 (.val 3 7 51 (.br 0 1 52 (.ret 3 1) (.br 8 5 9 (.br 0 4 13 (.br 19 2 36 (.ret 3 1) (.br 5 6 10 YM (.ret 6 1))) (.ret 6 1)) (.ret 6 1)))) (.ret 6 1)) (.ret 6 1)
theorem Tryz.aeI(Q:Value→Prop)(K:AS→Prop):tx (Tryz.X []) Q K (.br 13 5 9 (.br 0 4 13 (.br 26 6 10 (.br 0 6 16 (.br 0 6 22 (.val 3 7 51 (.br 0 1 52 (.ret 3 1) (.br 8 5 9 (.br 0 4 13 (.br 19 2 36 (.ret 3 1) (.br 5 6 10 (.br 0 6 16 (.br 0 6 22 (.val 3 7 51 (.br 0 1 52 (.ret 3 1) (.ret 8 1))) (.ret 6 1)) (.ret 6 1)) (.ret 6 1))) (.ret 6 1)) (.ret 6 1)))) (.ret 6 1)) (.ret 6 1)) (.ret 6 1)) (.ret 6 1)) (.ret 6 1)) ⟨aB.enter Tryz.prog 40 ⟨[.slice (some ⟨0,0,none⟩) 2 cp]⟩,[],cu 4 (L4 ⟨[.int .i64 h0,.int .i64 l0,.int .i64 u0,.int .i64 h1,.int .i64 l1,.int .i64 u1]⟩ tc sc kc)⟩=(BR (decide (0≤h0)) (BR (decide (h0≤959)) (BR (decide (0≤l0)) (BR (decide (l0≤u0)) (BR (decide (u0≤959)) (∀x0,x0=wi (u0 - l0)→BR (decide (x0≥3)) (Q (.int .i64 1)) (BR (decide (0≤h1)) (BR (decide (h1≤959)) (BR (decide (h1≤h0)) (Q (.int .i64 7)) (BR (decide (0≤l1)) (BR (decide (l1≤u1)) (BR (decide (u1≤959)) (∀x1,x1=wi (u1 - l1)→BR (decide (x1≥3)) (Q (.int .i64 1)) (Q (.int .i64 0))) (Q (.int .i64 1))) (Q (.int .i64 1))) (Q (.int .i64 1)))) (Q (.int .i64 1))) (Q (.int .i64 1)))) (Q (.int .i64 1))) (Q (.int .i64 1))) (Q (.int .i64 1))) (Q (.int .i64 1))) (Q (.int .i64 1))):=by kernel_rfl
theorem Tryz.cp2:bJ Tryz.prog (fun v _=>∃x:Int,(x=0→lq [(h0,l0,u0),(h1,l1,u1)])∧v = .int .i64 x) ⟨aB.enter Tryz.prog 40 ⟨[.slice (some ⟨0,0,none⟩) 2 cp]⟩,[],cu 4 (L4 ⟨[.int .i64 h0,.int .i64 l0,.int .i64 u0,.int .i64 h1,.int .i64 l1,.int .i64 u1]⟩ tc sc kc)⟩:=by
 refine aJ (Tryz.ok dJ) (Tryz.aeI _ _) ?_
 iterate 14 (first|refine BR.mk (fun _=>?_) fun _=>mG (by omega)|refine BR.mk (fun _=>mG (by omega)) fun _=>?_|refine va fun _ _=>?_)
 refine BR.mk (fun _=>?_) fun _=>lf0 (by simp only [lq,nM,and_true];omega)
 exact mG (by omega)
end
section
variable{h0 l0 u0 h1 l1 u1 h2 l2 u2:Int}{tc sc kc:Array Value}{cp:Nat}
theorem Tryz.aeJ(Q:Value→Prop)(K:AS→Prop):tx (Tryz.X []) Q K (.br 13 5 9 (.br 0 4 13 (.br 26 6 10 YM (.ret 6 1)) (.ret 6 1)) (.ret 6 1)) ⟨aB.enter Tryz.prog 40 ⟨[.slice (some ⟨0,0,none⟩) 3 cp]⟩,[],cu 4 (L4 ⟨[.int .i64 h0,.int .i64 l0,.int .i64 u0,.int .i64 h1,.int .i64 l1,.int .i64 u1,.int .i64 h2,.int .i64 l2,.int .i64 u2]⟩ tc sc kc)⟩=(BR (decide (0≤h0)) (BR (decide (h0≤959)) (BR (decide (0≤l0)) (BR (decide (l0≤u0)) (BR (decide (u0≤959)) (∀x0,x0=wi (u0 - l0)→BR (decide (x0≥3)) (Q (.int .i64 1)) (BR (decide (0≤h1)) (BR (decide (h1≤959)) (BR (decide (h1≤h0)) (Q (.int .i64 7)) (BR (decide (0≤l1)) (BR (decide (l1≤u1)) (BR (decide (u1≤959)) (∀x1,x1=wi (u1 - l1)→BR (decide (x1≥3)) (Q (.int .i64 1)) (BR (decide (0≤h2)) (BR (decide (h2≤959)) (BR (decide (h2≤h1)) (Q (.int .i64 7)) (BR (decide (0≤l2)) (BR (decide (l2≤u2)) (BR (decide (u2≤959)) (∀x2,x2=wi (u2 - l2)→BR (decide (x2≥3)) (Q (.int .i64 1)) (Q (.int .i64 0))) (Q (.int .i64 1))) (Q (.int .i64 1))) (Q (.int .i64 1)))) (Q (.int .i64 1))) (Q (.int .i64 1)))) (Q (.int .i64 1))) (Q (.int .i64 1))) (Q (.int .i64 1)))) (Q (.int .i64 1))) (Q (.int .i64 1)))) (Q (.int .i64 1))) (Q (.int .i64 1))) (Q (.int .i64 1))) (Q (.int .i64 1))) (Q (.int .i64 1))):=by kernel_rfl
theorem Tryz.cp3:bJ Tryz.prog (fun v _=>∃x:Int,(x=0→lq [(h0,l0,u0),(h1,l1,u1),(h2,l2,u2)])∧v = .int .i64 x) ⟨aB.enter Tryz.prog 40 ⟨[.slice (some ⟨0,0,none⟩) 3 cp]⟩,[],cu 4 (L4 ⟨[.int .i64 h0,.int .i64 l0,.int .i64 u0,.int .i64 h1,.int .i64 l1,.int .i64 u1,.int .i64 h2,.int .i64 l2,.int .i64 u2]⟩ tc sc kc)⟩:=by
 refine aJ (Tryz.ok dJ) (Tryz.aeJ _ _) ?_
 iterate 22 (first|refine BR.mk (fun _=>?_) fun _=>mG (by omega)|refine BR.mk (fun _=>mG (by omega)) fun _=>?_|refine va fun _ _=>?_)
 refine BR.mk (fun _=>?_) fun _=>lf0 (by simp only [lq,nM,and_true];omega)
 exact mG (by omega)
end
section
variable{h0 l0 u0 h1 l1 u1 h2 l2 u2 h3 l3 u3:Int}{tc sc kc:Array Value}{cp:Nat}
theorem Tryz.aeK(Q:Value→Prop)(K:AS→Prop):tx (Tryz.X []) Q K (.br 13 5 9 (.br 0 4 13 (.br 26 6 10 YP (.ret 6 1)) (.ret 6 1)) (.ret 6 1)) ⟨aB.enter Tryz.prog 40 ⟨[.slice (some ⟨0,0,none⟩) 4 cp]⟩,[],cu 4 (L4 ⟨[.int .i64 h0,.int .i64 l0,.int .i64 u0,.int .i64 h1,.int .i64 l1,.int .i64 u1,.int .i64 h2,.int .i64 l2,.int .i64 u2,.int .i64 h3,.int .i64 l3,.int .i64 u3]⟩ tc sc kc)⟩=(BR (decide (0≤h0)) (BR (decide (h0≤959)) (BR (decide (0≤l0)) (BR (decide (l0≤u0)) (BR (decide (u0≤959)) (∀x0,x0=wi (u0 - l0)→BR (decide (x0≥3)) (Q (.int .i64 1)) (BR (decide (0≤h1)) (BR (decide (h1≤959)) (BR (decide (h1≤h0)) (Q (.int .i64 7)) (BR (decide (0≤l1)) (BR (decide (l1≤u1)) (BR (decide (u1≤959)) (∀x1,x1=wi (u1 - l1)→BR (decide (x1≥3)) (Q (.int .i64 1)) (BR (decide (0≤h2)) (BR (decide (h2≤959)) (BR (decide (h2≤h1)) (Q (.int .i64 7)) (BR (decide (0≤l2)) (BR (decide (l2≤u2)) (BR (decide (u2≤959)) (∀x2,x2=wi (u2 - l2)→BR (decide (x2≥3)) (Q (.int .i64 1)) (BR (decide (0≤h3)) (BR (decide (h3≤959)) (BR (decide (h3≤h2)) (Q (.int .i64 7)) (BR (decide (0≤l3)) (BR (decide (l3≤u3)) (BR (decide (u3≤959)) (∀x3,x3=wi (u3 - l3)→BR (decide (x3≥3)) (Q (.int .i64 1)) (Q (.int .i64 0))) (Q (.int .i64 1))) (Q (.int .i64 1))) (Q (.int .i64 1)))) (Q (.int .i64 1))) (Q (.int .i64 1)))) (Q (.int .i64 1))) (Q (.int .i64 1))) (Q (.int .i64 1)))) (Q (.int .i64 1))) (Q (.int .i64 1)))) (Q (.int .i64 1))) (Q (.int .i64 1))) (Q (.int .i64 1)))) (Q (.int .i64 1))) (Q (.int .i64 1)))) (Q (.int .i64 1))) (Q (.int .i64 1))) (Q (.int .i64 1))) (Q (.int .i64 1))) (Q (.int .i64 1))):=by kernel_rfl
theorem Tryz.cp4:bJ Tryz.prog (fun v _=>∃x:Int,(x=0→lq [(h0,l0,u0),(h1,l1,u1),(h2,l2,u2),(h3,l3,u3)])∧v = .int .i64 x) ⟨aB.enter Tryz.prog 40 ⟨[.slice (some ⟨0,0,none⟩) 4 cp]⟩,[],cu 4 (L4 ⟨[.int .i64 h0,.int .i64 l0,.int .i64 u0,.int .i64 h1,.int .i64 l1,.int .i64 u1,.int .i64 h2,.int .i64 l2,.int .i64 u2,.int .i64 h3,.int .i64 l3,.int .i64 u3]⟩ tc sc kc)⟩:=by
 refine aJ (Tryz.ok dJ) (Tryz.aeK _ _) ?_
 iterate 30 (first|refine BR.mk (fun _=>?_) fun _=>mG (by omega)|refine BR.mk (fun _=>mG (by omega)) fun _=>?_|refine va fun _ _=>?_)
 refine BR.mk (fun _=>?_) fun _=>lf0 (by simp only [lq,nM,and_true];omega)
 exact mG (by omega)
end
section
variable{h0 l0 u0 h1 l1 u1 h2 l2 u2 h3 l3 u3 h4 l4 u4:Int}{tc sc kc:Array Value}{cp:Nat}
theorem Tryz.aeL(Q:Value→Prop)(K:AS→Prop):tx (Tryz.X []) Q K (.br 13 5 9 (.br 0 4 13 (.br 26 6 10 (.br 0 6 16 (.br 0 6 22 (.val 3 7 51 (.br 0 1 52 (.ret 3 1) (.br 8 5 9 (.br 0 4 13 (.br 19 2 36 (.ret 3 1) (.br 5 6 10 YP (.ret 6 1))) (.ret 6 1)) (.ret 6 1)))) (.ret 6 1)) (.ret 6 1)) (.ret 6 1)) (.ret 6 1)) (.ret 6 1)) ⟨aB.enter Tryz.prog 40 ⟨[.slice (some ⟨0,0,none⟩) 5 cp]⟩,[],cu 4 (L4 ⟨[.int .i64 h0,.int .i64 l0,.int .i64 u0,.int .i64 h1,.int .i64 l1,.int .i64 u1,.int .i64 h2,.int .i64 l2,.int .i64 u2,.int .i64 h3,.int .i64 l3,.int .i64 u3,.int .i64 h4,.int .i64 l4,.int .i64 u4]⟩ tc sc kc)⟩=(BR (decide (0≤h0)) (BR (decide (h0≤959)) (BR (decide (0≤l0)) (BR (decide (l0≤u0)) (BR (decide (u0≤959)) (∀x0,x0=wi (u0 - l0)→BR (decide (x0≥3)) (Q (.int .i64 1)) (BR (decide (0≤h1)) (BR (decide (h1≤959)) (BR (decide (h1≤h0)) (Q (.int .i64 7)) (BR (decide (0≤l1)) (BR (decide (l1≤u1)) (BR (decide (u1≤959)) (∀x1,x1=wi (u1 - l1)→BR (decide (x1≥3)) (Q (.int .i64 1)) (BR (decide (0≤h2)) (BR (decide (h2≤959)) (BR (decide (h2≤h1)) (Q (.int .i64 7)) (BR (decide (0≤l2)) (BR (decide (l2≤u2)) (BR (decide (u2≤959)) (∀x2,x2=wi (u2 - l2)→BR (decide (x2≥3)) (Q (.int .i64 1)) (BR (decide (0≤h3)) (BR (decide (h3≤959)) (BR (decide (h3≤h2)) (Q (.int .i64 7)) (BR (decide (0≤l3)) (BR (decide (l3≤u3)) (BR (decide (u3≤959)) (∀x3,x3=wi (u3 - l3)→BR (decide (x3≥3)) (Q (.int .i64 1)) (BR (decide (0≤h4)) (BR (decide (h4≤959)) (BR (decide (h4≤h3)) (Q (.int .i64 7)) (BR (decide (0≤l4)) (BR (decide (l4≤u4)) (BR (decide (u4≤959)) (∀x4,x4=wi (u4 - l4)→BR (decide (x4≥3)) (Q (.int .i64 1)) (Q (.int .i64 0))) (Q (.int .i64 1))) (Q (.int .i64 1))) (Q (.int .i64 1)))) (Q (.int .i64 1))) (Q (.int .i64 1)))) (Q (.int .i64 1))) (Q (.int .i64 1))) (Q (.int .i64 1)))) (Q (.int .i64 1))) (Q (.int .i64 1)))) (Q (.int .i64 1))) (Q (.int .i64 1))) (Q (.int .i64 1)))) (Q (.int .i64 1))) (Q (.int .i64 1)))) (Q (.int .i64 1))) (Q (.int .i64 1))) (Q (.int .i64 1)))) (Q (.int .i64 1))) (Q (.int .i64 1)))) (Q (.int .i64 1))) (Q (.int .i64 1))) (Q (.int .i64 1))) (Q (.int .i64 1))) (Q (.int .i64 1))):=by kernel_rfl
theorem Tryz.cp5:bJ Tryz.prog (fun v _=>∃x:Int,(x=0→lq [(h0,l0,u0),(h1,l1,u1),(h2,l2,u2),(h3,l3,u3),(h4,l4,u4)])∧v = .int .i64 x) ⟨aB.enter Tryz.prog 40 ⟨[.slice (some ⟨0,0,none⟩) 5 cp]⟩,[],cu 4 (L4 ⟨[.int .i64 h0,.int .i64 l0,.int .i64 u0,.int .i64 h1,.int .i64 l1,.int .i64 u1,.int .i64 h2,.int .i64 l2,.int .i64 u2,.int .i64 h3,.int .i64 l3,.int .i64 u3,.int .i64 h4,.int .i64 l4,.int .i64 u4]⟩ tc sc kc)⟩:=by
 refine aJ (Tryz.ok dJ) (Tryz.aeL _ _) ?_
 iterate 38 (first|refine BR.mk (fun _=>?_) fun _=>mG (by omega)|refine BR.mk (fun _=>mG (by omega)) fun _=>?_|refine va fun _ _=>?_)
 refine BR.mk (fun _=>?_) fun _=>lf0 (by simp only [lq,nM,and_true];omega)
 exact mG (by omega)
end
section
variable{np:Nat}{op:Option Addr}{cp nA:Nat}{L:List (Nat×cZ)}
theorem Tryz.aeM(Q:Value→Prop)(K:AS→Prop):tx (Tryz.X []) Q K (.val 1 5 6 (.br 2 5 9 (.br 0 4 13 .no (.ret 6 1)) (.ret 6 1))) ⟨aB.enter Tryz.prog 40 ⟨[.slice op np cp]⟩,[],cu nA L⟩=(∀x0,x0=((np:Nat):Int)→BR (decide (2≤x0)) (BR (decide (x0≤5)) (False) (Q (.int .i64 2))) (Q (.int .i64 2))):=by kernel_rfl
theorem Tryz.cpm(hn:¬(2≤np∧np≤5)):bJ Tryz.prog (fun v _=>∃x:Int,(x=0→False)∧v = .int .i64 x) ⟨aB.enter Tryz.prog 40 ⟨[.slice op np cp]⟩,[],cu nA L⟩:=by
 refine aJ (Tryz.ok dJ) (Tryz.aeM _ _) ?_
 intro x0 _
 refine BR.mk (fun _=>?_) fun _=>mG (by omega)
 refine BR.rr ?_
 exact mG (by omega)
end
section
variable{np:Nat}{af:Int}{pc tc sc kc:Array Value}{sv:Value}{op ot:Option Addr}{cp ct:Nat}
theorem Tryz.aeN(Q:Value→Prop)(K:AS→Prop):tx (Tryz.X []) Q K (.ret 8 1) ⟨aB.enter Tryz.prog 41 ⟨[.agg ⟨[.int .i64 af,.slice op np cp,.slice ot 0 ct,sv]⟩]⟩,[],cu 4 (L4 pc tc sc kc)⟩=(Q (.int .i64 0)):=by kernel_rfl
theorem Tryz.ct0(hnp:2≤np∧np≤5):bJ Tryz.prog (fun v _=>∃x:Int,(x=0→Ju np [])∧v = .int .i64 x) ⟨aB.enter Tryz.prog 41 ⟨[.agg ⟨[.int .i64 af,.slice op np cp,.slice ot 0 ct,sv]⟩]⟩,[],cu 4 (L4 pc tc sc kc)⟩:=by
 refine aJ (Tryz.ok dJ) (Tryz.aeN _ _) ?_
 exact lf0 (by simp only [Ju,and_true]<;>omega)
end
section
variable{np:Nat}{f0 t0 a0 b0:Int}{af:Int}{pc tc sc kc:Array Value}{sv:Value}{op ot:Option Addr}{cp ct:Nat}
theorem Tryz.aeO(Q:Value→Prop)(K:AS→Prop):tx (Tryz.X []) Q K (.val 9 6 8 (.val 0 1 9 (.br 2 5 9 (.br 0 4 13 (.val 8 6 8 (.val 0 1 9 (.br 2 5 9 (.br 0 4 13 (.br 8 8 37 (.ret 3 1) (.br 4 6 10 (.br 0 6 16 (.br 0 6 22 (.ret 11 1) (.ret 6 1)) (.ret 6 1)) (.ret 6 1))) (.ret 9 1)) (.ret 9 1)))) (.ret 9 1)) (.ret 9 1)))) ⟨aB.enter Tryz.prog 41 ⟨[.agg ⟨[.int .i64 af,.slice op np cp,.slice (some ⟨1,0,none⟩) 1 ct,sv]⟩]⟩,[],cu 4 (L4 pc ⟨[.int .i64 f0,.int .i64 t0,.int .i64 a0,.int .i64 b0]⟩ sc kc)⟩=(∀x0,x0=((np:Nat):Int)→∀x1,x1=wi (x0 - 1)→BR (decide (0≤f0)) (BR (decide (f0≤x1)) (∀x2,x2=((np:Nat):Int)→∀x3,x3=wi (x2 - 1)→BR (decide (0≤t0)) (BR (decide (t0≤x3)) (BR (decide (f0≥t0)) (Q (.int .i64 7)) (BR (decide (0≤a0)) (BR (decide (a0≤b0)) (BR (decide (b0≤9999)) (Q (.int .i64 0)) (Q (.int .i64 1))) (Q (.int .i64 1))) (Q (.int .i64 1)))) (Q (.int .i64 6))) (Q (.int .i64 6))) (Q (.int .i64 6))) (Q (.int .i64 6))):=by kernel_rfl
theorem Tryz.ct1(hnp:2≤np∧np≤5):bJ Tryz.prog (fun v _=>∃x:Int,(x=0→Ju np [(f0,t0,a0,b0)])∧v = .int .i64 x) ⟨aB.enter Tryz.prog 41 ⟨[.agg ⟨[.int .i64 af,.slice op np cp,.slice (some ⟨1,0,none⟩) 1 ct,sv]⟩]⟩,[],cu 4 (L4 pc ⟨[.int .i64 f0,.int .i64 t0,.int .i64 a0,.int .i64 b0]⟩ sc kc)⟩:=by
 refine aJ (Tryz.ok dJ) (Tryz.aeO _ _) ?_
 intro x0 _
 iterate 3 (first|refine BR.mk (fun _=>?_) fun _=>mG (by omega)|refine va fun _ _=>?_)
 intro x2 _
 iterate 6 (first|refine BR.mk (fun _=>?_) fun _=>mG (by omega)|refine BR.mk (fun _=>mG (by omega)) fun _=>?_|refine va fun _ _=>?_)
 refine BR.mk (fun _=>?_) fun _=>mG (by omega)
 exact lf0 (by simp only [Ju,and_true]<;>omega)
end
section
variable{np:Nat}{f0 t0 a0 b0 f1 t1 a1 b1:Int}{af:Int}{pc tc sc kc:Array Value}{sv:Value}{op ot:Option Addr}{cp ct:Nat}
theorem Tryz.aeP(Q:Value→Prop)(K:AS→Prop):tx (Tryz.X []) Q K (.val 9 6 8 YN) ⟨aB.enter Tryz.prog 41 ⟨[.agg ⟨[.int .i64 af,.slice op np cp,.slice (some ⟨1,0,none⟩) 2 ct,sv]⟩]⟩,[],cu 4 (L4 pc ⟨[.int .i64 f0,.int .i64 t0,.int .i64 a0,.int .i64 b0,.int .i64 f1,.int .i64 t1,.int .i64 a1,.int .i64 b1]⟩ sc kc)⟩=(∀x0,x0=((np:Nat):Int)→∀x1,x1=wi (x0 - 1)→BR (decide (0≤f0)) (BR (decide (f0≤x1)) (∀x2,x2=((np:Nat):Int)→∀x3,x3=wi (x2 - 1)→BR (decide (0≤t0)) (BR (decide (t0≤x3)) (BR (decide (f0≥t0)) (Q (.int .i64 7)) (BR (decide (0≤a0)) (BR (decide (a0≤b0)) (BR (decide (b0≤9999)) (∀x4,x4=((np:Nat):Int)→∀x5,x5=wi (x4 - 1)→BR (decide (0≤f1)) (BR (decide (f1≤x5)) (∀x6,x6=((np:Nat):Int)→∀x7,x7=wi (x6 - 1)→BR (decide (0≤t1)) (BR (decide (t1≤x7)) (BR (decide (f1≥t1)) (Q (.int .i64 7)) (BR (decide (0≤a1)) (BR (decide (a1≤b1)) (BR (decide (b1≤9999)) (Q (.int .i64 0)) (Q (.int .i64 1))) (Q (.int .i64 1))) (Q (.int .i64 1)))) (Q (.int .i64 6))) (Q (.int .i64 6))) (Q (.int .i64 6))) (Q (.int .i64 6))) (Q (.int .i64 1))) (Q (.int .i64 1))) (Q (.int .i64 1)))) (Q (.int .i64 6))) (Q (.int .i64 6))) (Q (.int .i64 6))) (Q (.int .i64 6))):=by kernel_rfl
theorem Tryz.ct2(hnp:2≤np∧np≤5):bJ Tryz.prog (fun v _=>∃x:Int,(x=0→Ju np [(f0,t0,a0,b0),(f1,t1,a1,b1)])∧v = .int .i64 x) ⟨aB.enter Tryz.prog 41 ⟨[.agg ⟨[.int .i64 af,.slice op np cp,.slice (some ⟨1,0,none⟩) 2 ct,sv]⟩]⟩,[],cu 4 (L4 pc ⟨[.int .i64 f0,.int .i64 t0,.int .i64 a0,.int .i64 b0,.int .i64 f1,.int .i64 t1,.int .i64 a1,.int .i64 b1]⟩ sc kc)⟩:=by
 refine aJ (Tryz.ok dJ) (Tryz.aeP _ _) ?_
 intro x0 _
 iterate 3 (first|refine BR.mk (fun _=>?_) fun _=>mG (by omega)|refine va fun _ _=>?_)
 intro x2 _
 iterate 7 (first|refine BR.mk (fun _=>?_) fun _=>mG (by omega)|refine BR.mk (fun _=>mG (by omega)) fun _=>?_|refine va fun _ _=>?_)
 intro x4 _
 iterate 3 (first|refine BR.mk (fun _=>?_) fun _=>mG (by omega)|refine va fun _ _=>?_)
 intro x6 _
 iterate 6 (first|refine BR.mk (fun _=>?_) fun _=>mG (by omega)|refine BR.mk (fun _=>mG (by omega)) fun _=>?_|refine va fun _ _=>?_)
 refine BR.mk (fun _=>?_) fun _=>mG (by omega)
 exact lf0 (by simp only [Ju,and_true]<;>omega)
end
section
variable{np:Nat}{f0 t0 a0 b0 f1 t1 a1 b1 f2 t2 a2 b2:Int}{af:Int}{pc tc sc kc:Array Value}{sv:Value}{op ot:Option Addr}{cp ct:Nat}
theorem Tryz.aeQ(Q:Value→Prop)(K:AS→Prop):tx (Tryz.X []) Q K (.val 9 6 8 (.val 0 1 9 (.br 2 5 9 (.br 0 4 13 (.val 8 6 8 (.val 0 1 9 (.br 2 5 9 (.br 0 4 13 (.br 8 8 37 (.ret 3 1) (.br 4 6 10 (.br 0 6 16 (.br 0 6 22 (.val 12 6 8 YN) (.ret 6 1)) (.ret 6 1)) (.ret 6 1))) (.ret 9 1)) (.ret 9 1)))) (.ret 9 1)) (.ret 9 1)))) ⟨aB.enter Tryz.prog 41 ⟨[.agg ⟨[.int .i64 af,.slice op np cp,.slice (some ⟨1,0,none⟩) 3 ct,sv]⟩]⟩,[],cu 4 (L4 pc ⟨[.int .i64 f0,.int .i64 t0,.int .i64 a0,.int .i64 b0,.int .i64 f1,.int .i64 t1,.int .i64 a1,.int .i64 b1,.int .i64 f2,.int .i64 t2,.int .i64 a2,.int .i64 b2]⟩ sc kc)⟩=(∀x0,x0=((np:Nat):Int)→∀x1,x1=wi (x0 - 1)→BR (decide (0≤f0)) (BR (decide (f0≤x1)) (∀x2,x2=((np:Nat):Int)→∀x3,x3=wi (x2 - 1)→BR (decide (0≤t0)) (BR (decide (t0≤x3)) (BR (decide (f0≥t0)) (Q (.int .i64 7)) (BR (decide (0≤a0)) (BR (decide (a0≤b0)) (BR (decide (b0≤9999)) (∀x4,x4=((np:Nat):Int)→∀x5,x5=wi (x4 - 1)→BR (decide (0≤f1)) (BR (decide (f1≤x5)) (∀x6,x6=((np:Nat):Int)→∀x7,x7=wi (x6 - 1)→BR (decide (0≤t1)) (BR (decide (t1≤x7)) (BR (decide (f1≥t1)) (Q (.int .i64 7)) (BR (decide (0≤a1)) (BR (decide (a1≤b1)) (BR (decide (b1≤9999)) (∀x8,x8=((np:Nat):Int)→∀x9,x9=wi (x8 - 1)→BR (decide (0≤f2)) (BR (decide (f2≤x9)) (∀x10,x10=((np:Nat):Int)→∀x11,x11=wi (x10 - 1)→BR (decide (0≤t2)) (BR (decide (t2≤x11)) (BR (decide (f2≥t2)) (Q (.int .i64 7)) (BR (decide (0≤a2)) (BR (decide (a2≤b2)) (BR (decide (b2≤9999)) (Q (.int .i64 0)) (Q (.int .i64 1))) (Q (.int .i64 1))) (Q (.int .i64 1)))) (Q (.int .i64 6))) (Q (.int .i64 6))) (Q (.int .i64 6))) (Q (.int .i64 6))) (Q (.int .i64 1))) (Q (.int .i64 1))) (Q (.int .i64 1)))) (Q (.int .i64 6))) (Q (.int .i64 6))) (Q (.int .i64 6))) (Q (.int .i64 6))) (Q (.int .i64 1))) (Q (.int .i64 1))) (Q (.int .i64 1)))) (Q (.int .i64 6))) (Q (.int .i64 6))) (Q (.int .i64 6))) (Q (.int .i64 6))):=by kernel_rfl
theorem Tryz.ct3(hnp:2≤np∧np≤5):bJ Tryz.prog (fun v _=>∃x:Int,(x=0→Ju np [(f0,t0,a0,b0),(f1,t1,a1,b1),(f2,t2,a2,b2)])∧v = .int .i64 x) ⟨aB.enter Tryz.prog 41 ⟨[.agg ⟨[.int .i64 af,.slice op np cp,.slice (some ⟨1,0,none⟩) 3 ct,sv]⟩]⟩,[],cu 4 (L4 pc ⟨[.int .i64 f0,.int .i64 t0,.int .i64 a0,.int .i64 b0,.int .i64 f1,.int .i64 t1,.int .i64 a1,.int .i64 b1,.int .i64 f2,.int .i64 t2,.int .i64 a2,.int .i64 b2]⟩ sc kc)⟩:=by
 refine aJ (Tryz.ok dJ) (Tryz.aeQ _ _) ?_
 intro x0 _
 iterate 3 (first|refine BR.mk (fun _=>?_) fun _=>mG (by omega)|refine va fun _ _=>?_)
 intro x2 _
 iterate 7 (first|refine BR.mk (fun _=>?_) fun _=>mG (by omega)|refine BR.mk (fun _=>mG (by omega)) fun _=>?_|refine va fun _ _=>?_)
 intro x4 _
 iterate 3 (first|refine BR.mk (fun _=>?_) fun _=>mG (by omega)|refine va fun _ _=>?_)
 intro x6 _
 iterate 7 (first|refine BR.mk (fun _=>?_) fun _=>mG (by omega)|refine BR.mk (fun _=>mG (by omega)) fun _=>?_|refine va fun _ _=>?_)
 intro x8 _
 iterate 3 (first|refine BR.mk (fun _=>?_) fun _=>mG (by omega)|refine va fun _ _=>?_)
 intro x10 _
 iterate 6 (first|refine BR.mk (fun _=>?_) fun _=>mG (by omega)|refine BR.mk (fun _=>mG (by omega)) fun _=>?_|refine va fun _ _=>?_)
 refine BR.mk (fun _=>?_) fun _=>mG (by omega)
 exact lf0 (by simp only [Ju,and_true]<;>omega)
end
section
variable{nt:Nat}{af:Int}{pv sv:Value}{ot:Option Addr}{ct:Nat}{pc tc sc kc:Array Value}
theorem Tryz.aeR(Q:Value→Prop)(K:AS→Prop):tx (Tryz.X []) Q K (.val 1 6 7 (.br 0 1 8 (.ret 3 1) .no)) ⟨aB.enter Tryz.prog 41 ⟨[.agg ⟨[.int .i64 af,pv,.slice ot nt ct,sv]⟩]⟩,[],cu 4 (L4 pc tc sc kc)⟩=(∀x0,x0=((nt:Nat):Int)→BR (decide (x0 > 3)) (Q (.int .i64 2)) (False)):=by kernel_rfl
theorem Tryz.ctm(hn:4≤nt):bJ Tryz.prog (fun v _=>∃x:Int,(x=0→False)∧v = .int .i64 x) ⟨aB.enter Tryz.prog 41 ⟨[.agg ⟨[.int .i64 af,pv,.slice ot nt ct,sv]⟩]⟩,[],cu 4 (L4 pc tc sc kc)⟩:=by
 refine aJ (Tryz.ok dJ) (Tryz.aeR _ _) ?_
 intro x0 _
 refine BR.ll ?_
 exact mG (by omega)
end
section
variable{np:Nat}{af:Int}{pc tc sc kc:Array Value}{tv:Value}{os:Option Addr}{cp cs:Nat}
theorem Tryz.aeS(Q:Value→Prop)(K:AS→Prop):tx (Tryz.X []) Q K (.ret 8 1) ⟨aB.enter Tryz.prog 42 ⟨[.agg ⟨[.int .i64 af,.slice (some ⟨0,0,none⟩) np cp,tv,.slice os 0 cs]⟩]⟩,[],cu 4 (L4 pc tc sc kc)⟩=(Q (.int .i64 0)):=by kernel_rfl
theorem Tryz.ck0{lo hi:Int}(hnp:2≤np∧np≤5)(hlo:nth pc.toList 0=some (.int .i64 lo))(hhi:nth pc.toList ((np - 1) * 3)=some (.int .i64 hi)):bJ Tryz.prog (fun v _=>∃x:Int,(x=0→Sts lo hi [])∧v = .int .i64 x) ⟨aB.enter Tryz.prog 42 ⟨[.agg ⟨[.int .i64 af,.slice (some ⟨0,0,none⟩) np cp,tv,.slice os 0 cs]⟩]⟩,[],cu 4 (L4 pc tc sc kc)⟩:=by
 refine aJ (Tryz.ok dJ) (Tryz.aeS _ _) ?_
 exact lf0 (by simp only [Sts,and_true]<;>omega)
end
section
variable{np:Nat}{g0 m0:Int}{w0:Bool}{af:Int}{pc tc sc kc:Array Value}{tv:Value}{os:Option Addr}{cp cs:Nat}
theorem Tryz.aeT(Q:Value→Prop)(K:AS→Prop):tx (Tryz.X []) Q K (.ov 14 3 (.GR 0 1 .i64 (.val 0 5 15 (.val 0 1 16 (.ov 0 0 (.GR 0 1 .i64 (.br 2 5 9 (.br 0 4 13 (.br 15 5 9 (.br 0 4 13 (.ret 12 1) (.ret 7 1)) (.ret 7 1)) (.ret 18 1)) (.ret 18 1)))))))) ⟨aB.enter Tryz.prog 42 ⟨[.agg ⟨[.int .i64 af,.slice (some ⟨0,0,none⟩) np cp,tv,.slice (some ⟨2,0,none⟩) 1 cs]⟩]⟩,[],cu 4 (L4 pc tc ⟨[.int .i64 g0,.int .i64 m0,.bool w0]⟩ kc)⟩=(((0:Int)≤0∧0 < ((np:Nat):Int))∧∃x0:Int,nth pc.toList (0)=some (.int .i64 x0)∧∀x1,x1=((np:Nat):Int)→∀x2,x2=wi (x1 - 1)→((0:Int)≤x2∧x2 < ((np:Nat):Int))∧∃x4:Int,nth pc.toList (0+Int.toNat x2 * 3)=some (.int .i64 x4)∧BR (decide (x0≤g0)) (BR (decide (g0≤x4)) (BR (decide (0≤m0)) (BR (decide (m0≤959)) (Q (.int .i64 0)) (Q (.int .i64 1))) (Q (.int .i64 1))) (Q (.int .i64 1))) (Q (.int .i64 1))):=by kernel_rfl
theorem Tryz.ck1{lo hi:Int}(hnp:2≤np∧np≤5)(hlo:nth pc.toList 0=some (.int .i64 lo))(hhi:nth pc.toList ((np - 1) * 3)=some (.int .i64 hi)):bJ Tryz.prog (fun v _=>∃x:Int,(x=0→Sts lo hi [(g0,m0)])∧v = .int .i64 x) ⟨aB.enter Tryz.prog 42 ⟨[.agg ⟨[.int .i64 af,.slice (some ⟨0,0,none⟩) np cp,tv,.slice (some ⟨2,0,none⟩) 1 cs]⟩]⟩,[],cu 4 (L4 pc tc ⟨[.int .i64 g0,.int .i64 m0,.bool w0]⟩ kc)⟩:=by
 refine aJ (Tryz.ok dJ) (Tryz.aeT _ _) ?_
 refine ⟨⟨by omega,by omega⟩,?_⟩
 refine ⟨lo,hlo,?_⟩
 obtain ⟨x0,ex⟩:∃x0,x0=lo:=⟨_,rfl⟩
 rw [←ex]
 intro x1 _
 refine va fun x2 _=>?_
 refine ⟨⟨by omega,by omega⟩,?_⟩
 refine ⟨hi,by rw [show 0+Int.toNat x2 * 3=(np - 1) * 3 by omega];exact hhi,?_⟩
 obtain ⟨x4,ex⟩:∃x4,x4=hi:=⟨_,rfl⟩
 rw [←ex]
 iterate 3 refine BR.mk (fun _=>?_) fun _=>mG (by omega)
 refine BR.mk (fun _=>?_) fun _=>mG (by omega)
 exact lf0 (by simp only [Sts,and_true]<;>omega)
end
section
variable{np:Nat}{g0 m0 g1 m1:Int}{w0 w1:Bool}{af:Int}{pc tc sc kc:Array Value}{tv:Value}{os:Option Addr}{cp cs:Nat}
theorem Tryz.aeU(Q:Value→Prop)(K:AS→Prop):tx (Tryz.X []) Q K (.ov 14 3 YO) ⟨aB.enter Tryz.prog 42 ⟨[.agg ⟨[.int .i64 af,.slice (some ⟨0,0,none⟩) np cp,tv,.slice (some ⟨2,0,none⟩) 2 cs]⟩]⟩,[],cu 4 (L4 pc tc ⟨[.int .i64 g0,.int .i64 m0,.bool w0,.int .i64 g1,.int .i64 m1,.bool w1]⟩ kc)⟩=(((0:Int)≤0∧0 < ((np:Nat):Int))∧∃x0:Int,nth pc.toList (0)=some (.int .i64 x0)∧∀x1,x1=((np:Nat):Int)→∀x2,x2=wi (x1 - 1)→((0:Int)≤x2∧x2 < ((np:Nat):Int))∧∃x4:Int,nth pc.toList (0+Int.toNat x2 * 3)=some (.int .i64 x4)∧BR (decide (x0≤g0)) (BR (decide (g0≤x4)) (BR (decide (0≤m0)) (BR (decide (m0≤959)) (((0:Int)≤0∧0 < ((np:Nat):Int))∧∃x5:Int,nth pc.toList (0)=some (.int .i64 x5)∧∀x6,x6=((np:Nat):Int)→∀x7,x7=wi (x6 - 1)→((0:Int)≤x7∧x7 < ((np:Nat):Int))∧∃x9:Int,nth pc.toList (0+Int.toNat x7 * 3)=some (.int .i64 x9)∧BR (decide (x5≤g1)) (BR (decide (g1≤x9)) (BR (decide (0≤m1)) (BR (decide (m1≤959)) (Q (.int .i64 0)) (Q (.int .i64 1))) (Q (.int .i64 1))) (Q (.int .i64 1))) (Q (.int .i64 1))) (Q (.int .i64 1))) (Q (.int .i64 1))) (Q (.int .i64 1))) (Q (.int .i64 1))):=by kernel_rfl
theorem Tryz.ck2{lo hi:Int}(hnp:2≤np∧np≤5)(hlo:nth pc.toList 0=some (.int .i64 lo))(hhi:nth pc.toList ((np - 1) * 3)=some (.int .i64 hi)):bJ Tryz.prog (fun v _=>∃x:Int,(x=0→Sts lo hi [(g0,m0),(g1,m1)])∧v = .int .i64 x) ⟨aB.enter Tryz.prog 42 ⟨[.agg ⟨[.int .i64 af,.slice (some ⟨0,0,none⟩) np cp,tv,.slice (some ⟨2,0,none⟩) 2 cs]⟩]⟩,[],cu 4 (L4 pc tc ⟨[.int .i64 g0,.int .i64 m0,.bool w0,.int .i64 g1,.int .i64 m1,.bool w1]⟩ kc)⟩:=by
 refine aJ (Tryz.ok dJ) (Tryz.aeU _ _) ?_
 refine ⟨⟨by omega,by omega⟩,?_⟩
 refine ⟨lo,hlo,?_⟩
 obtain ⟨x0,ex⟩:∃x0,x0=lo:=⟨_,rfl⟩
 rw [←ex]
 intro x1 _
 refine va fun x2 _=>?_
 refine ⟨⟨by omega,by omega⟩,?_⟩
 refine ⟨hi,by rw [show 0+Int.toNat x2 * 3=(np - 1) * 3 by omega];exact hhi,?_⟩
 obtain ⟨x4,ex⟩:∃x4,x4=hi:=⟨_,rfl⟩
 rw [←ex]
 iterate 4 refine BR.mk (fun _=>?_) fun _=>mG (by omega)
 refine ⟨⟨by omega,by omega⟩,?_⟩
 refine ⟨lo,hlo,?_⟩
 obtain ⟨x5,ex⟩:∃x5,x5=lo:=⟨_,rfl⟩
 rw [←ex]
 intro x6 _
 refine va fun x7 _=>?_
 refine ⟨⟨by omega,by omega⟩,?_⟩
 refine ⟨hi,by rw [show 0+Int.toNat x7 * 3=(np - 1) * 3 by omega];exact hhi,?_⟩
 obtain ⟨x9,ex⟩:∃x9,x9=hi:=⟨_,rfl⟩
 rw [←ex]
 iterate 3 refine BR.mk (fun _=>?_) fun _=>mG (by omega)
 refine BR.mk (fun _=>?_) fun _=>mG (by omega)
 exact lf0 (by simp only [Sts,and_true]<;>omega)
end
section
variable{np:Nat}{g0 m0 g1 m1 g2 m2:Int}{w0 w1 w2:Bool}{af:Int}{pc tc sc kc:Array Value}{tv:Value}{os:Option Addr}{cp cs:Nat}
theorem Tryz.aeV(Q:Value→Prop)(K:AS→Prop):tx (Tryz.X []) Q K (.ov 14 3 (.GR 0 1 .i64 (.val 0 5 15 (.val 0 1 16 (.ov 0 0 (.GR 0 1 .i64 (.br 2 5 9 (.br 0 4 13 (.br 15 5 9 (.br 0 4 13 (.ov 18 3 YO) (.ret 7 1)) (.ret 7 1)) (.ret 18 1)) (.ret 18 1)))))))) ⟨aB.enter Tryz.prog 42 ⟨[.agg ⟨[.int .i64 af,.slice (some ⟨0,0,none⟩) np cp,tv,.slice (some ⟨2,0,none⟩) 3 cs]⟩]⟩,[],cu 4 (L4 pc tc ⟨[.int .i64 g0,.int .i64 m0,.bool w0,.int .i64 g1,.int .i64 m1,.bool w1,.int .i64 g2,.int .i64 m2,.bool w2]⟩ kc)⟩=(((0:Int)≤0∧0 < ((np:Nat):Int))∧∃x0:Int,nth pc.toList (0)=some (.int .i64 x0)∧∀x1,x1=((np:Nat):Int)→∀x2,x2=wi (x1 - 1)→((0:Int)≤x2∧x2 < ((np:Nat):Int))∧∃x4:Int,nth pc.toList (0+Int.toNat x2 * 3)=some (.int .i64 x4)∧BR (decide (x0≤g0)) (BR (decide (g0≤x4)) (BR (decide (0≤m0)) (BR (decide (m0≤959)) (((0:Int)≤0∧0 < ((np:Nat):Int))∧∃x5:Int,nth pc.toList (0)=some (.int .i64 x5)∧∀x6,x6=((np:Nat):Int)→∀x7,x7=wi (x6 - 1)→((0:Int)≤x7∧x7 < ((np:Nat):Int))∧∃x9:Int,nth pc.toList (0+Int.toNat x7 * 3)=some (.int .i64 x9)∧BR (decide (x5≤g1)) (BR (decide (g1≤x9)) (BR (decide (0≤m1)) (BR (decide (m1≤959)) (((0:Int)≤0∧0 < ((np:Nat):Int))∧∃x10:Int,nth pc.toList (0)=some (.int .i64 x10)∧∀x11,x11=((np:Nat):Int)→∀x12,x12=wi (x11 - 1)→((0:Int)≤x12∧x12 < ((np:Nat):Int))∧∃x14:Int,nth pc.toList (0+Int.toNat x12 * 3)=some (.int .i64 x14)∧BR (decide (x10≤g2)) (BR (decide (g2≤x14)) (BR (decide (0≤m2)) (BR (decide (m2≤959)) (Q (.int .i64 0)) (Q (.int .i64 1))) (Q (.int .i64 1))) (Q (.int .i64 1))) (Q (.int .i64 1))) (Q (.int .i64 1))) (Q (.int .i64 1))) (Q (.int .i64 1))) (Q (.int .i64 1))) (Q (.int .i64 1))) (Q (.int .i64 1))) (Q (.int .i64 1))) (Q (.int .i64 1))):=by kernel_rfl
theorem Tryz.ck3{lo hi:Int}(hnp:2≤np∧np≤5)(hlo:nth pc.toList 0=some (.int .i64 lo))(hhi:nth pc.toList ((np - 1) * 3)=some (.int .i64 hi)):bJ Tryz.prog (fun v _=>∃x:Int,(x=0→Sts lo hi [(g0,m0),(g1,m1),(g2,m2)])∧v = .int .i64 x) ⟨aB.enter Tryz.prog 42 ⟨[.agg ⟨[.int .i64 af,.slice (some ⟨0,0,none⟩) np cp,tv,.slice (some ⟨2,0,none⟩) 3 cs]⟩]⟩,[],cu 4 (L4 pc tc ⟨[.int .i64 g0,.int .i64 m0,.bool w0,.int .i64 g1,.int .i64 m1,.bool w1,.int .i64 g2,.int .i64 m2,.bool w2]⟩ kc)⟩:=by
 refine aJ (Tryz.ok dJ) (Tryz.aeV _ _) ?_
 refine ⟨⟨by omega,by omega⟩,?_⟩
 refine ⟨lo,hlo,?_⟩
 obtain ⟨x0,ex⟩:∃x0,x0=lo:=⟨_,rfl⟩
 rw [←ex]
 intro x1 _
 refine va fun x2 _=>?_
 refine ⟨⟨by omega,by omega⟩,?_⟩
 refine ⟨hi,by rw [show 0+Int.toNat x2 * 3=(np - 1) * 3 by omega];exact hhi,?_⟩
 obtain ⟨x4,ex⟩:∃x4,x4=hi:=⟨_,rfl⟩
 rw [←ex]
 iterate 4 refine BR.mk (fun _=>?_) fun _=>mG (by omega)
 refine ⟨⟨by omega,by omega⟩,?_⟩
 refine ⟨lo,hlo,?_⟩
 obtain ⟨x5,ex⟩:∃x5,x5=lo:=⟨_,rfl⟩
 rw [←ex]
 intro x6 _
 refine va fun x7 _=>?_
 refine ⟨⟨by omega,by omega⟩,?_⟩
 refine ⟨hi,by rw [show 0+Int.toNat x7 * 3=(np - 1) * 3 by omega];exact hhi,?_⟩
 obtain ⟨x9,ex⟩:∃x9,x9=hi:=⟨_,rfl⟩
 rw [←ex]
 iterate 4 refine BR.mk (fun _=>?_) fun _=>mG (by omega)
 refine ⟨⟨by omega,by omega⟩,?_⟩
 refine ⟨lo,hlo,?_⟩
 obtain ⟨x10,ex⟩:∃x10,x10=lo:=⟨_,rfl⟩
 rw [←ex]
 intro x11 _
 refine va fun x12 _=>?_
 refine ⟨⟨by omega,by omega⟩,?_⟩
 refine ⟨hi,by rw [show 0+Int.toNat x12 * 3=(np - 1) * 3 by omega];exact hhi,?_⟩
 obtain ⟨x14,ex⟩:∃x14,x14=hi:=⟨_,rfl⟩
 rw [←ex]
 iterate 3 refine BR.mk (fun _=>?_) fun _=>mG (by omega)
 refine BR.mk (fun _=>?_) fun _=>mG (by omega)
 exact lf0 (by simp only [Sts,and_true]<;>omega)
end
section
variable{nt:Nat}{af:Int}{pv tv:Value}{ot:Option Addr}{ct:Nat}{pc tc sc kc:Array Value}
theorem Tryz.aeW(Q:Value→Prop)(K:AS→Prop):tx (Tryz.X []) Q K (.val 1 6 6 (.br 0 1 7 (.ret 3 1) .no)) ⟨aB.enter Tryz.prog 42 ⟨[.agg ⟨[.int .i64 af,pv,tv,.slice ot nt ct]⟩]⟩,[],cu 4 (L4 pc tc sc kc)⟩=(∀x0,x0=((nt:Nat):Int)→BR (decide (x0 > 3)) (Q (.int .i64 2)) (False)):=by kernel_rfl
theorem Tryz.ckm(hn:4≤nt):bJ Tryz.prog (fun v _=>∃x:Int,(x=0→False)∧v = .int .i64 x) ⟨aB.enter Tryz.prog 42 ⟨[.agg ⟨[.int .i64 af,pv,tv,.slice ot nt ct]⟩]⟩,[],cu 4 (L4 pc tc sc kc)⟩:=by
 refine aJ (Tryz.ok dJ) (Tryz.aeW _ _) ?_
 intro x0 _
 refine BR.ll ?_
 exact mG (by omega)
end
section
variable{af:Int}{pv tv sv:Value}{pc tc sc kc:Array Value}{V1 V2 V3:Prop}
theorem Tryz.aiS(Q:Value→Prop)(K:AS→Prop):∀v0:Prop,v0=((AE ⟨[.agg ⟨[.int .i64 af,pv,tv,sv]⟩]⟩)∧(E4 pc tc sc kc)∧True)→tx (Tryz.X [⟨40,fun _ _=>[],4,fun _=>L4 pc tc sc kc,fun _=>⟨[pv]⟩,fun _=>True,fun _ x=>(x=0→V1),fun x=>.int .i64 x⟩,⟨41,fun _ _=>[],4,fun _=>L4 pc tc sc kc,fun _=>⟨[.agg ⟨[.int .i64 af,pv,tv,sv]⟩]⟩,fun _=>True,fun _ x=>(x=0→V2),fun x=>.int .i64 x⟩,⟨42,fun _ _=>[],4,fun _=>L4 pc tc sc kc,fun _=>⟨[.agg ⟨[.int .i64 af,pv,tv,sv]⟩]⟩,fun _=>True,fun _ x=>(x=0→V3),fun x=>.int .i64 x⟩]) Q K (.br 3 5 9 (.br 0 4 13 (.call 5 5 (.br 1 4 13 (.ret 3 1) (.call 2 4 (.br 1 4 18 (.ret 3 1) (.call 2 3 (.ret 2 1)))))) (.ret 6 1)) (.ret 6 1)) ⟨aB.enter Tryz.prog 12 ⟨[.agg ⟨[.int .i64 af,pv,tv,sv]⟩]⟩,[],cu 4 (L4 pc tc sc kc)⟩=(BR (decide (0≤af)) (BR (decide (af≤20)) (((AE ⟨[pv]⟩)∧(E4 pc tc sc kc)∧True)∧∀x0:Int,(x0=0→V1)→RK (true) (BR (!decide (x0=0)) (Q (.int .i64 x0)) (v0∧∀x1:Int,(x1=0→V2)→RK (true) (BR (!decide (x1=0)) (Q (.int .i64 x1)) (v0∧∀x2:Int,(x2=0→V3)→RK (true) (Q (.int .i64 x2))))))) (Q (.int .i64 1))) (Q (.int .i64 1))):=by
 rintro _ rfl
 kernel_rfl
theorem Tryz.cb(hc:∀c∈[⟨40,fun _ _=>[],4,fun _=>L4 pc tc sc kc,fun _=>⟨[pv]⟩,fun _=>True,fun _ x=>(x=0→V1),fun x=>.int .i64 x⟩,⟨41,fun _ _=>[],4,fun _=>L4 pc tc sc kc,fun _=>⟨[.agg ⟨[.int .i64 af,pv,tv,sv]⟩]⟩,fun _=>True,fun _ x=>(x=0→V2),fun x=>.int .i64 x⟩,⟨42,fun _ _=>[],4,fun _=>L4 pc tc sc kc,fun _=>⟨[.agg ⟨[.int .i64 af,pv,tv,sv]⟩]⟩,fun _=>True,fun _ x=>(x=0→V3),fun x=>.int .i64 x⟩],jQ Tryz.prog c):bJ Tryz.prog (fun v _=>∃x:Int,(x=0→(0≤af∧af≤20)∧V1∧V2∧V3)∧v = .int .i64 x) ⟨aB.enter Tryz.prog 12 ⟨[.agg ⟨[.int .i64 af,pv,tv,sv]⟩]⟩,[],cu 4 (L4 pc tc sc kc)⟩:=by
 refine aJ (Tryz.ok hc) (Tryz.aiS _ _ _ rfl) ?_
 iterate 2 refine BR.mk (fun _=>?_) fun _=>mG (by omega)
 refine ⟨⟨rfl,gK,trivial⟩,fun x0 yV1=>⟨rfl,?_⟩⟩
 refine BR.nm (fun _=>fun _=>⟨_,fun e=>by first|(exfalso;omega)|exact ⟨by omega,yV1 (by omega),yV2 (by omega),yV3 (by omega)⟩,rfl⟩) fun _=>?_
 refine ⟨⟨rfl,gK,trivial⟩,fun x1 yV2=>⟨rfl,?_⟩⟩
 refine BR.nm (fun _=>fun _=>⟨_,fun e=>by first|(exfalso;omega)|exact ⟨by omega,yV1 (by omega),yV2 (by omega),yV3 (by omega)⟩,rfl⟩) fun _=>?_
 refine ⟨⟨rfl,gK,trivial⟩,fun x2 yV3=>⟨rfl,?_⟩⟩
 exact fun _=>⟨_,fun e=>by first|(exfalso;omega)|exact ⟨by omega,yV1 (by omega),yV2 (by omega),yV3 (by omega)⟩,rfl⟩
end
end Go.Am
