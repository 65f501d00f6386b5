import Derived.OpenShut
import Derived.Test.YtbpcjpbcgeccbaaGreatH24
import Derived.Test.YtbpcjpbcgeccbaaGreatH26
import Derived.Test.YtbpcjpbcgeccbaaGreatH27
import Derived.Test.YtbpcjpbcgeccbaaGreatH28
import Derived.Test.YtbpcjpbcgeccbaaGreatH29
set_option linter.unusedVariables false
set_option linter.unusedSectionVars false
set_option linter.unusedSimpArgs false
namespace Go.Am
open Go.Proofs
section
variable{af h0 l0 u0 h1 l1 u1 h2 l2 u2 h3 l3 u3 h4 l4 u4 height:Int}{cp nt ct ns cs nk ck nm cm:Nat}{tc sc kc mc:Array Value}{ot os ok om:Option Addr}{V:Prop}
abbrev Y2:HT:=.val 5 5 5 (.br 0 1 6 (.cut 7 3) (.val 0 4 10 (.br 0 1 11 (.cut 7 3) (.val 0 5 16 (.br 0 1 17 (.cut 7 3) (.call 3 3 (.br 0 1 9 .no (.cut 4 3))))))))
abbrev Y3:HT:=.br 1 5 6 (.val 0 4 10 (.br 0 1 11 (.ov 1 5 (.GR 0 0 .u16 (.val 0 1 17 (.ret 2 1)))) (.ret 4 1))) (.ret 4 1)
abbrev Y4:HT:=.br 1 5 6 (.br 0 5 11 .no (.ret 4 1)) (.ret 4 1)
theorem Tryz.XL:∀v0:Array Value,v0=(yF h0 l0 u0 h1 l1 u1 h2 l2 u2 h3 l3 u3 h4 l4 u4)→∀v1:Value,v1=(bv 5 af cp ot nt ct os ns cs)→∀v2:Prop,v2=(E4 v0 tc sc kc)→tx (Tryz.X [⟨12,fun _ _=>[],4,fun _=>L4 v0 tc sc kc,fun _=>⟨[v1]⟩,fun _=>True,fun _ x=>(x=0→V),fun x=>.int .i64 x⟩,⟨33,fun a _=>[gI a 1],4,fun _=>L4 v0 tc sc kc,fun ps=>⟨[.slice ok nk ck,.int .i64 (ps.headD 0)]⟩,fun _=>True,fun _ x=>(0≤x∧x≤65535),fun x=>.int .i64 x⟩,⟨33,fun a _=>[gI a 1],5,fun _=>L5 v0 tc sc kc mc,fun ps=>⟨[.slice om nm cm,.int .i64 (ps.headD 0)]⟩,fun _=>True,fun _ x=>(0≤x∧x≤65535),fun x=>.int .i64 x⟩,Xn (v0) tc sc kc v1,Xq h0 l0 u0 h1 l1 u1 h2 l2 u2 h3 l3 u3 h4 l4 u4 af cp nt ct ns cs tc sc kc ot os,Xr h0 l0 u0 h1 l1 u1 h2 l2 u2 h3 l3 u3 h4 l4 u4 af cp nt ct ns cs tc sc kc ot os]) (fun _=>False) (fun s=>KF (Tryz.X []) 3 5 (LY 6) [0,1,2,3,4,5,8,20,22,23] s) (.val 5 10 10 (.br 0 1 11 (.cut 7 3) (.val 0 5 16 (.br 0 1 17 (.cut 7 3) (.call 3 3 (.br 0 1 9 (.dY 16 9 2 (.val 4 8 12 (.val 0 1 13 (.ov 0 0 (.val 0 0 14 (.val 0 1 15 (.rk 2 1 (.dY 8 9 2 (.val 4 8 12 (.val 0 1 13 (.ov 0 0 (.val 0 0 14 (.val 0 1 15 (.rk 2 1 (.dY 8 9 2 (.val 4 8 12 (.val 0 1 13 (.ov 0 0 (.val 0 0 14 (.val 0 1 15 (.rk 2 1 (.dY 8 9 2 (.val 4 8 12 (.val 0 1 13 (.ov 0 0 (.val 0 0 14 (.val 0 1 15 (.rk 2 1 (.dY 8 9 2 (.val 4 8 12 (.val 0 1 13 (.ov 0 0 (.val 0 0 14 (.val 0 1 15 (.rk 2 1 (.cut 1 0)))))))))))))))))))))))))))))))))))) (.cut 4 3))))))) ⟨aB.enter Tryz.prog 3 ⟨[v1,.slice ok nk ck,.slice om nm cm,.int .u16 height]⟩,[],cu 5 (L5 v0 tc sc kc mc)⟩=(∀x0,x0=((nt:Nat):Int)→BR (decide (x0 > 20)) ((true=true)) (∀x1,x1=((ns:Nat):Int)→BR (decide (x1 > 20)) ((true=true)) (((AE ⟨[v1]⟩)∧v2∧True)∧∀x2:Int,(x2=0→V)→RK (true) (BR (decide (x2=0)) (((AE ⟨[.slice ok nk ck,.int .i64 0]⟩)∧v2∧True)∧∀x3:Int,(0≤x3∧x3≤65535)→RK ((decide (cp=cp) && ((decide (l0=l0) && (decide (u0=u0) && true)) && true))) (∀x4,x4=wi (u0 - l0)→∀x5,x5=wi (x4+1)→((x5:Int)≠0)∧∀x6,x6=Int.tmod x3 x5→∀x7,x7=wi (l0+x6)→RK (((decide (x7=x7) && true) && true)) (((AE ⟨[.slice ok nk ck,.int .i64 1]⟩)∧v2∧True)∧∀x8:Int,(0≤x8∧x8≤65535)→RK ((decide (cp=cp) && ((decide (l1=l1) && (decide (u1=u1) && true)) && true))) (∀x9,x9=wi (u1 - l1)→∀x10,x10=wi (x9+1)→((x10:Int)≠0)∧∀x11,x11=Int.tmod x8 x10→∀x12,x12=wi (l1+x11)→RK (((decide (x12=x12) && true) && true)) (((AE ⟨[.slice ok nk ck,.int .i64 2]⟩)∧v2∧True)∧∀pM:Int,(0≤pM∧pM≤65535)→RK ((decide (cp=cp) && ((decide (l2=l2) && (decide (u2=u2) && true)) && true))) (∀x14,x14=wi (u2 - l2)→∀x15,x15=wi (x14+1)→((x15:Int)≠0)∧∀x16,x16=Int.tmod pM x15→∀x17,x17=wi (l2+x16)→RK (((decide (x17=x17) && true) && true)) (((AE ⟨[.slice ok nk ck,.int .i64 3]⟩)∧v2∧True)∧∀x18:Int,(0≤x18∧x18≤65535)→RK ((decide (cp=cp) && ((decide (l3=l3) && (decide (u3=u3) && true)) && true))) (∀x19,x19=wi (u3 - l3)→∀x20,x20=wi (x19+1)→((x20:Int)≠0)∧∀Jw,Jw=Int.tmod x18 x20→∀iq,iq=wi (l3+Jw)→RK (((decide (iq=iq) && true) && true)) (((AE ⟨[.slice ok nk ck,.int .i64 4]⟩)∧v2∧True)∧∀jU:Int,(0≤jU∧jU≤65535)→RK ((decide (cp=cp) && ((decide (l4=l4) && (decide (u4=u4) && true)) && true))) (∀x24,x24=wi (u4 - l4)→∀x25,x25=wi (x24+1)→((x25:Int)≠0)∧∀qR,qR=Int.tmod jU x25→∀x27,x27=wi (l4+qR)→RK (((decide (x27=x27) && true) && true)) ((bZ Tryz.prog (fun s=>gp (Tryz.X []) 3 5 s=true) (Tryz.CQ af h0 l0 u0 h1 l1 u1 h2 l2 u2 h3 l3 u3 h4 l4 u4 height cp nt ct ns cs nk ck nm cm tc sc kc mc ot os ok om V x7 x12 x17 iq jU x27))))))))))))) ((true=true)))))):=by
 rintro _ rfl _ rfl _ rfl
 kernel_rfl
set_option maxHeartbeats 4000000 in
theorem Tryz.afo(hV:V→(0≤af∧af≤20)∧lq [(h0,l0,u0),(h1,l1,u1),(h2,l2,u2),(h3,l3,u3),(h4,l4,u4)])(hn:0≤height∧height≤65535)(hc:∀c∈([⟨12,fun _ _=>[],4,fun _=>L4 (yF h0 l0 u0 h1 l1 u1 h2 l2 u2 h3 l3 u3 h4 l4 u4) tc sc kc,fun _=>⟨[(bv 5 af cp ot nt ct os ns cs)]⟩,fun _=>True,fun _ x=>(x=0→V),fun x=>.int .i64 x⟩,⟨33,fun a _=>[gI a 1],4,fun _=>L4 (yF h0 l0 u0 h1 l1 u1 h2 l2 u2 h3 l3 u3 h4 l4 u4) tc sc kc,fun ps=>⟨[.slice ok nk ck,.int .i64 (ps.headD 0)]⟩,fun _=>True,fun _ x=>(0≤x∧x≤65535),fun x=>.int .i64 x⟩,⟨33,fun a _=>[gI a 1],5,fun _=>L5 (yF h0 l0 u0 h1 l1 u1 h2 l2 u2 h3 l3 u3 h4 l4 u4) tc sc kc mc,fun ps=>⟨[.slice om nm cm,.int .i64 (ps.headD 0)]⟩,fun _=>True,fun _ x=>(0≤x∧x≤65535),fun x=>.int .i64 x⟩,Xn ((yF h0 l0 u0 h1 l1 u1 h2 l2 u2 h3 l3 u3 h4 l4 u4)) tc sc kc (bv 5 af cp ot nt ct os ns cs),Xq h0 l0 u0 h1 l1 u1 h2 l2 u2 h3 l3 u3 h4 l4 u4 af cp nt ct ns cs tc sc kc ot os,Xr h0 l0 u0 h1 l1 u1 h2 l2 u2 h3 l3 u3 h4 l4 u4 af cp nt ct ns cs tc sc kc ot os]:List Ct),jQ Tryz.prog c):bZ Tryz.prog (fun s=>gp (Tryz.X []) 3 5 s=true) ⟨aB.enter Tryz.prog 3 ⟨[(bv 5 af cp ot nt ct os ns cs),.slice ok nk ck,.slice om nm cm,.int .u16 height]⟩,[],cu 5 (L5 (yF h0 l0 u0 h1 l1 u1 h2 l2 u2 h3 l3 u3 h4 l4 u4) tc sc kc mc)⟩:=by
 refine qG (iI (Tryz.ok hc) (Tryz.XL _ rfl _ rfl _ rfl) ?_)
 intro x0 _
 refine BR.mk (fun _=>?_) (fun _=>?_)
 ·
  exact rfl
 intro x1 _
 refine BR.mk (fun _=>?_) (fun _=>?_)
 ·
  exact rfl
 refine ⟨⟨rfl,gK,trivial⟩,fun x2 yV=>⟨rfl,?_⟩⟩
 refine BR.mk (fun _=>?_) (fun _=>?_)
 ·
  refine ⟨⟨rfl,gK,trivial⟩,fun x3 _=>⟨by simp,?_⟩⟩
  obtain ⟨hQ,hP⟩:=hV (yV (by omega))
  simp only [lq,nM,and_true] at hP
  iterate 6 (first|refine va fun _ _=>?_|refine vs fun _ _ _=>?_|refine ⟨by omega,?_⟩|refine ⟨by simp,?_⟩)
  refine ⟨⟨rfl,gK,trivial⟩,fun x8 _=>⟨by simp,?_⟩⟩
  iterate 6 (first|refine va fun _ _=>?_|refine vs fun _ _ _=>?_|refine ⟨by omega,?_⟩|refine ⟨by simp,?_⟩)
  refine ⟨⟨rfl,gK,trivial⟩,fun pM _=>⟨by simp,?_⟩⟩
  iterate 6 (first|refine va fun _ _=>?_|refine vs fun _ _ _=>?_|refine ⟨by omega,?_⟩|refine ⟨by simp,?_⟩)
  refine ⟨⟨rfl,gK,trivial⟩,fun x18 _=>⟨by simp,?_⟩⟩
  iterate 6 (first|refine va fun _ _=>?_|refine vs fun _ _ _=>?_|refine ⟨by omega,?_⟩|refine ⟨by simp,?_⟩)
  refine ⟨⟨rfl,gK,trivial⟩,fun jU _=>⟨by simp,?_⟩⟩
  iterate 6 (first|refine va fun _ _=>?_|refine vs fun _ _ _=>?_|refine ⟨by omega,?_⟩|refine ⟨by simp,?_⟩)
  exact Tryz.XC hV hn hc (by omega)
 exact rfl
end
end Go.Am
namespace Go.Am
open Go.Proofs
theorem VM{x:Int}(h:0≤x∧x≤65535):∀_:AH,∃y:Int,(0≤y∧y≤65535)∧Value.int .i64 x = .int .i64 y:=fun _=>⟨x,h,rfl⟩
def bm(af:Int)(op:Option Addr)(np cp:Nat)(ot:Option Addr)(nt ct:Nat)(os:Option Addr)(ns cs:Nat):Value:=.agg ⟨[.int .i64 af,.slice op np cp,.slice ot nt ct,.slice os ns cs]⟩
section
variable{k:Int}{nk ck:Nat}{pc tc sc kc:Array Value}
theorem Tryz.ajz(Q:Value→Prop)(K:AS→Prop):tx (Tryz.X []) Q K Y3 ⟨aB.enter Tryz.prog 33 ⟨[.slice (some ⟨3,0,none⟩) nk ck,.int .i64 k]⟩,[],cu 4 (L4 pc tc sc kc)⟩=(BR (decide (k≥0)) (∀x0,x0=((nk:Nat):Int)→BR (decide (k < x0)) (((0:Int)≤k∧k < ((nk:Nat):Int))∧∃x2:Int,nth kc.toList (0+Int.toNat k * 1)=some (.int .u16 x2)∧∀x3,x3=wi x2→Q (.int .i64 x3)) (Q (.int .i64 0))) (Q (.int .i64 0))):=by kernel_rfl
theorem Tryz.ch(hk:∀i:Nat,i < nk→∃x:Int,nth kc.toList i=some (.int .u16 x)∧0≤x∧x≤65535):bJ Tryz.prog (fun v _=>∃x:Int,(0≤x∧x≤65535)∧v = .int .i64 x) ⟨aB.enter Tryz.prog 33 ⟨[.slice (some ⟨3,0,none⟩) nk ck,.int .i64 k]⟩,[],cu 4 (L4 pc tc sc kc)⟩:=by
 refine aJ (Tryz.ok dJ) (Tryz.ajz _ _) ?_
 refine BR.mk (fun _=>?_) fun _=>VM (by omega)
 intro x0 _
 refine BR.mk (fun _=>?_) fun _=>VM (by omega)
 refine ⟨⟨by omega,by omega⟩,?_⟩
 obtain ⟨x2,hx,_,_⟩:=hk (Int.toNat k) (by omega)
 refine ⟨x2,by rw [show 0+Int.toNat k * 1=Int.toNat k by omega];exact hx,?_⟩
 refine va fun x3 _=>?_
 exact VM (by omega)
end
section
variable{k:Int}{ck:Nat}{pc tc sc kc:Array Value}{ok:Option Addr}
theorem Tryz.afp(Q:Value→Prop)(K:AS→Prop):tx (Tryz.X []) Q K Y4 ⟨aB.enter Tryz.prog 33 ⟨[.slice ok 0 ck,.int .i64 k]⟩,[],cu 4 (L4 pc tc sc kc)⟩=(BR (decide (k≥0)) (BR (decide (k < 0)) (False) (Q (.int .i64 0))) (Q (.int .i64 0))):=by kernel_rfl
theorem Tryz.ch0:bJ Tryz.prog (fun v _=>∃x:Int,(0≤x∧x≤65535)∧v = .int .i64 x) ⟨aB.enter Tryz.prog 33 ⟨[.slice ok 0 ck,.int .i64 k]⟩,[],cu 4 (L4 pc tc sc kc)⟩:=by
 refine aJ (Tryz.ok dJ) (Tryz.afp _ _) ?_
 refine BR.mk (fun _=>?_) fun _=>VM (by omega)
 refine BR.rr ?_
 exact VM (by omega)
end
section
variable{k:Int}{nk ck:Nat}{pc tc sc kc mc:Array Value}
theorem Tryz.afq(Q:Value→Prop)(K:AS→Prop):tx (Tryz.X []) Q K Y3 ⟨aB.enter Tryz.prog 33 ⟨[.slice (some ⟨4,0,none⟩) nk ck,.int .i64 k]⟩,[],cu 5 (L5 pc tc sc kc mc)⟩=(BR (decide (k≥0)) (∀x0,x0=((nk:Nat):Int)→BR (decide (k < x0)) (((0:Int)≤k∧k < ((nk:Nat):Int))∧∃x2:Int,nth mc.toList (0+Int.toNat k * 1)=some (.int .u16 x2)∧∀x3,x3=wi x2→Q (.int .i64 x3)) (Q (.int .i64 0))) (Q (.int .i64 0))):=by kernel_rfl
theorem Tryz.chm(hk:∀i:Nat,i < nk→∃x:Int,nth mc.toList i=some (.int .u16 x)∧0≤x∧x≤65535):bJ Tryz.prog (fun v _=>∃x:Int,(0≤x∧x≤65535)∧v = .int .i64 x) ⟨aB.enter Tryz.prog 33 ⟨[.slice (some ⟨4,0,none⟩) nk ck,.int .i64 k]⟩,[],cu 5 (L5 pc tc sc kc mc)⟩:=by
 refine aJ (Tryz.ok dJ) (Tryz.afq _ _) ?_
 refine BR.mk (fun _=>?_) fun _=>VM (by omega)
 intro x0 _
 refine BR.mk (fun _=>?_) fun _=>VM (by omega)
 refine ⟨⟨by omega,by omega⟩,?_⟩
 obtain ⟨x2,hx,_,_⟩:=hk (Int.toNat k) (by omega)
 refine ⟨x2,by rw [show 0+Int.toNat k * 1=Int.toNat k by omega];exact hx,?_⟩
 refine va fun x3 _=>?_
 exact VM (by omega)
end
section
variable{k:Int}{ck:Nat}{pc tc sc kc mc:Array Value}{ok:Option Addr}
theorem Tryz.abw(Q:Value→Prop)(K:AS→Prop):tx (Tryz.X []) Q K Y4 ⟨aB.enter Tryz.prog 33 ⟨[.slice ok 0 ck,.int .i64 k]⟩,[],cu 5 (L5 pc tc sc kc mc)⟩=(BR (decide (k≥0)) (BR (decide (k < 0)) (False) (Q (.int .i64 0))) (Q (.int .i64 0))):=by kernel_rfl
theorem Tryz.ajA:bJ Tryz.prog (fun v _=>∃x:Int,(0≤x∧x≤65535)∧v = .int .i64 x) ⟨aB.enter Tryz.prog 33 ⟨[.slice ok 0 ck,.int .i64 k]⟩,[],cu 5 (L5 pc tc sc kc mc)⟩:=by
 refine aJ (Tryz.ok dJ) (Tryz.abw _ _) ?_
 refine BR.mk (fun _=>?_) fun _=>VM (by omega)
 refine BR.rr ?_
 exact VM (by omega)
end
section
variable{af:Int}{pv tv sv:Value}
theorem Tryz.afr(Q:Value→Prop)(K:AS→Prop):tx (Tryz.X [⟨40,fun _ _=>[],4,fun _=>[],fun _=>⟨[pv]⟩,fun _=>True,fun _ x=>(¬x=0),fun x=>.int .i64 x⟩]) Q K (.br 3 5 9 (.br 0 4 13 (.call 5 5 (.br 1 4 13 (.ret 3 1) .no)) (.ret 6 1)) (.ret 6 1)) ⟨aB.enter Tryz.prog 12 ⟨[.agg ⟨[.int .i64 af,pv,tv,sv]⟩]⟩,[],cu 4 []⟩=(BR (decide (0≤af)) (BR (decide (af≤20)) (((AE ⟨[pv]⟩)∧(True)∧True)∧∀x0:Int,(¬x0=0)→RK (true) (BR (!decide (x0=0)) (Q (.int .i64 x0)) (False))) (Q (.int .i64 1))) (Q (.int .i64 1))):=by kernel_rfl
theorem Tryz.cbm(hc:∀c∈([⟨40,fun _ _=>[],4,fun _=>[],fun _=>⟨[pv]⟩,fun _=>True,fun _ x=>(¬x=0),fun x=>.int .i64 x⟩]:List Ct),jQ Tryz.prog c):bJ Tryz.prog (fun v _=>∃x:Int,(x=0→False)∧v = .int .i64 x) ⟨aB.enter Tryz.prog 12 ⟨[.agg ⟨[.int .i64 af,pv,tv,sv]⟩]⟩,[],cu 4 []⟩:=by
 refine aJ (Tryz.ok hc) (Tryz.afr _ _) ?_
 iterate 2 refine BR.mk (fun _=>?_) fun _=>mG (by omega)
 refine ⟨⟨rfl,trivial,trivial⟩,fun x0 _=>⟨rfl,?_⟩⟩
 refine BR.nl (by omega) ?_
 exact fun _=>⟨_,fun e=>by omega,rfl⟩
end
section
variable{af height:Int}{np cp nt ct ns cs nk ck nm cm:Nat}{op ot os ok om:Option Addr}
theorem Tryz.XN:∀v0:Value,v0=(bm af op np cp ot nt ct os ns cs)→tx (Tryz.X [⟨12,fun _ _=>[],4,fun _=>[],fun _=>⟨[v0]⟩,fun _=>True,fun _ x=>(¬x=0),fun x=>.int .i64 x⟩]) (fun _=>False) (fun s=>gp (Tryz.X []) 3 5 s=true) Y2 ⟨aB.enter Tryz.prog 3 ⟨[v0,.slice ok nk ck,.slice om nm cm,.int .u16 height]⟩,[],cu 5 []⟩=(∀x0,x0=((np:Nat):Int)→BR (decide (x0 > 20)) ((true=true)) (∀x1,x1=((nt:Nat):Int)→BR (decide (x1 > 20)) ((true=true)) (∀x2,x2=((ns:Nat):Int)→BR (decide (x2 > 20)) ((true=true)) (((AE ⟨[v0]⟩)∧(True)∧True)∧∀x3:Int,(¬x3=0)→RK (true) (BR (decide (x3=0)) (False) ((true=true))))))):=by
 rintro _ rfl
 kernel_rfl
set_option maxHeartbeats 4000000 in
theorem Tryz.afs(hc:∀c∈([⟨12,fun _ _=>[],4,fun _=>[],fun _=>⟨[(bm af op np cp ot nt ct os ns cs)]⟩,fun _=>True,fun _ x=>(¬x=0),fun x=>.int .i64 x⟩]:List Ct),jQ Tryz.prog c):bZ Tryz.prog (fun s=>gp (Tryz.X []) 3 5 s=true) ⟨aB.enter Tryz.prog 3 ⟨[(bm af op np cp ot nt ct os ns cs),.slice ok nk ck,.slice om nm cm,.int .u16 height]⟩,[],cu 5 []⟩:=by
 refine iI (Tryz.ok hc) (Tryz.XN _ rfl) ?_
 intro x0 _
 refine BR.mk (fun _=>?_) (fun _=>?_)
 ·
  exact rfl
 intro x1 _
 refine BR.mk (fun _=>?_) (fun _=>?_)
 ·
  exact rfl
 intro x2 _
 refine BR.mk (fun _=>?_) (fun _=>?_)
 ·
  exact rfl
 refine ⟨⟨rfl,trivial,trivial⟩,fun x3 yV=>⟨rfl,?_⟩⟩
 refine BR.rr ?_
 exact rfl
end
section
variable{af height:Int}{np cp nt ct ns cs nk ck nm cm:Nat}{op ot os ok om:Option Addr}{pc tc sc kc mc:Array Value}
theorem Tryz.XO:∀v0:Value,v0=(bm af op np cp ot nt ct os ns cs)→tx (Tryz.X [⟨12,fun _ _=>[],4,fun _=>L4 pc tc sc kc,fun _=>⟨[v0]⟩,fun _=>True,fun _ x=>(¬x=0),fun x=>.int .i64 x⟩]) (fun _=>False) (fun s=>gp (Tryz.X []) 3 5 s=true) Y2 ⟨aB.enter Tryz.prog 3 ⟨[v0,.slice ok nk ck,.slice om nm cm,.int .u16 height]⟩,[],cu 5 (L5 pc tc sc kc mc)⟩=(∀x0,x0=((np:Nat):Int)→BR (decide (x0 > 20)) ((true=true)) (∀x1,x1=((nt:Nat):Int)→BR (decide (x1 > 20)) ((true=true)) (∀x2,x2=((ns:Nat):Int)→BR (decide (x2 > 20)) ((true=true)) (((AE ⟨[v0]⟩)∧(E4 pc tc sc kc)∧True)∧∀x3:Int,(¬x3=0)→RK (true) (BR (decide (x3=0)) (False) ((true=true))))))):=by
 rintro _ rfl
 kernel_rfl
set_option maxHeartbeats 4000000 in
theorem Tryz.OU(hc:∀c∈([⟨12,fun _ _=>[],4,fun _=>L4 pc tc sc kc,fun _=>⟨[(bm af op np cp ot nt ct os ns cs)]⟩,fun _=>True,fun _ x=>(¬x=0),fun x=>.int .i64 x⟩]:List Ct),jQ Tryz.prog c):bZ Tryz.prog (fun s=>gp (Tryz.X []) 3 5 s=true) ⟨aB.enter Tryz.prog 3 ⟨[(bm af op np cp ot nt ct os ns cs),.slice ok nk ck,.slice om nm cm,.int .u16 height]⟩,[],cu 5 (L5 pc tc sc kc mc)⟩:=by
 refine iI (Tryz.ok hc) (Tryz.XO _ rfl) ?_
 intro x0 _
 refine BR.mk (fun _=>?_) (fun _=>?_)
 ·
  exact rfl
 intro x1 _
 refine BR.mk (fun _=>?_) (fun _=>?_)
 ·
  exact rfl
 intro x2 _
 refine BR.mk (fun _=>?_) (fun _=>?_)
 ·
  exact rfl
 refine ⟨⟨rfl,gK,trivial⟩,fun x3 yV=>⟨rfl,?_⟩⟩
 refine BR.rr ?_
 exact rfl
end
end Go.Am
namespace Go.Am
open Go.Proofs
def lX:List (Int×Int×Int×Int)→List Value
 | []=>[]
 | (f,t,a,b) :: r=>.int .i64 f :: .int .i64 t :: .int .i64 a :: .int .i64 b :: lX r
def encS:List (Int×Int×Bool)→List Value
 | []=>[]
 | (g,m,w) :: r=>.int .i64 g :: .int .i64 m :: .bool w :: encS r
def jg:List Int→List Value
 | []=>[]
 | n :: r=>.int .u16 n :: jg r
def V2(np:Nat)(jb:List (Int×Int×Int×Int)):Prop:=jb.length≤3∧Ju np jb
def V3(lo hi:Int)(jc:List (Int×Int×Bool)):Prop:=jc.length≤3∧Sts lo hi (jc.map fun x=>(x.1,x.2.1))
theorem iy:∀l,∀x∈lX l,Plain x
 | [],x,h=>absurd h List.not_mem_nil
 | (f,t,a,b) :: r,x,h=>by
   simp only [lX,List.mem_cons] at h
   rcases h with rfl|rfl|rfl|rfl|h
   iterate 4 exact .int _ _
   exact iy r x h
theorem iC:∀l,∀x∈encS l,Plain x
 | [],x,h=>absurd h List.not_mem_nil
 | (g,m,w) :: r,x,h=>by
   simp only [encS,List.mem_cons] at h
   rcases h with rfl|rfl|rfl|h
   ·exact .int _ _
   ·exact .int _ _
   ·exact .bool _
   ·exact iC r x h
theorem di:∀l,∀x∈jg l,Plain x
 | [],x,h=>absurd h List.not_mem_nil
 | n :: r,x,h=>by
   simp only [jg,List.mem_cons] at h
   rcases h with rfl|h
   ·exact .int _ _
   ·exact di r x h
theorem Dc{pc tc sc kc:Array Value}(h1:∀x∈pc,Plain x)(h2:∀x∈tc,Plain x)(h3:∀x∈sc,Plain x)(h4:∀x∈kc,Plain x):StL 4 (L4 pc tc sc kc):=by
 refine ⟨fun p hp=>?_,fun p hp=>?_,by simp [L4]⟩
 · simp only [L4,List.mem_cons,List.not_mem_nil,or_false] at hp
   rcases hp with rfl|rfl|rfl|rfl<;>simp
 · simp only [L4,List.mem_cons,List.not_mem_nil,or_false] at hp
   rcases hp with rfl|rfl|rfl|rfl
   ·exact ⟨pc,_,_,rfl,h1⟩
   ·exact ⟨tc,_,_,rfl,h2⟩
   ·exact ⟨sc,_,_,rfl,h3⟩
   ·exact ⟨kc,_,_,rfl,h4⟩
theorem XP{p:Nat→Prop}{o:Option Addr}{n c:Nat}(h:∀a,o=some a→p a.block):pK p (.slice o n c):=by
 cases o with
 | none=>exact .nilslice n c
 | some a=>exact .slice (h a rfl)
def nO(b:Nat)(n:Nat)(o:Option Addr):Prop:=(n≠0→o=some ⟨b,0,none⟩)∧∀a,o=some a→a.block=b
theorem nO.ok{b n c m:Nat}{o:Option Addr}(h:nO b n o)(hb:b < m):pK (· < m) (.slice o n c):=XP fun a e=>by rw [h.2 a e];exact hb
theorem lC{m n1 n2 n3 c1 c2 c3:Nat}{af:Int}{o1 o2 o3:Option Addr}(hm:3≤m)(h1:nO 0 n1 o1)(h2:nO 1 n2 o2)(h3:nO 2 n3 o3):pK (· < m) (.agg ⟨[.int .i64 af,.slice o1 n1 c1,.slice o2 n2 c2,.slice o3 n3 c3]⟩):=by
 refine .agg fun x hx=>?_
 simp only [List.mem_toArray,List.mem_cons,List.not_mem_nil,or_false] at hx
 rcases hx with rfl|rfl|rfl|rfl
 · exact .int _ _
 · exact h1.ok (by omega)
 · exact h2.ok (by omega)
 · exact h3.ok (by omega)
theorem mem1{α:Type}{a x:α}(h:x∈(⟨[a]⟩:Array α)):x=a:=by simpa using h
section
variable{np:Nat}(hnp:2≤np∧np≤5){af:Int}{pc sc kc tc:Array Value}{op ot os:Option Addr}{cp ct cs:Nat}{jb:List (Int×Int×Int×Int)}{jc:List (Int×Int×Bool)}{lo hi:Int}
include hnp
theorem XQ{sv:Value}(ho:nO 1 jb.length ot):bJ Tryz.prog (fun v _=>∃x:Int,(x=0→V2 np jb)∧v = .int .i64 x) ⟨aB.enter Tryz.prog 41 ⟨[.agg ⟨[.int .i64 af,.slice op np cp,.slice ot jb.length ct,sv]⟩]⟩,[],cu 4 (L4 pc ⟨lX jb⟩ sc kc)⟩:=by
 have up:∀ {s:AS} {V W:Prop},(V→W)→bJ Tryz.prog (fun v _=>∃x:Int,(x=0→V)∧v = .int .i64 x) s→bJ Tryz.prog (fun v _=>∃x:Int,(x=0→W)∧v = .int .i64 x) s:=
   fun h r=>r.mono fun v _ ⟨x,h1,h2⟩=>⟨x,fun e=>h (h1 e),h2⟩
 match jb,ho with
 | [],ho=>exact up (fun h=>⟨by decide,h⟩) (Tryz.ct0 hnp)
 | [(f0,t0,a0,b0)],ho=>obtain rfl:=ho.1 (by simp);exact up (fun h=>⟨by simp,h⟩) (Tryz.ct1 hnp)
 | [(f0,t0,a0,b0),(f1,t1,a1,b1)],ho=>obtain rfl:=ho.1 (by simp);exact up (fun h=>⟨by simp,h⟩) (Tryz.ct2 hnp)
 | [(f0,t0,a0,b0),(f1,t1,a1,b1),(f2,t2,a2,b2)],ho=>obtain rfl:=ho.1 (by simp);exact up (fun h=>⟨by simp,h⟩) (Tryz.ct3 hnp)
 | a :: b :: c :: d :: r,ho=>exact up False.elim (Tryz.ctm (nt:=r.length+4) (by omega))
theorem Vg{tv:Value}(hlo:nth pc.toList 0=some (.int .i64 lo))(hhi:nth pc.toList ((np - 1) * 3)=some (.int .i64 hi))(ho:nO 2 jc.length os):bJ Tryz.prog (fun v _=>∃x:Int,(x=0→V3 lo hi jc)∧v = .int .i64 x) ⟨aB.enter Tryz.prog 42 ⟨[.agg ⟨[.int .i64 af,.slice (some ⟨0,0,none⟩) np cp,tv,.slice os jc.length cs]⟩]⟩,[],cu 4 (L4 pc tc ⟨encS jc⟩ kc)⟩:=by
 have up:∀ {s:AS} {V W:Prop},(V→W)→bJ Tryz.prog (fun v _=>∃x:Int,(x=0→V)∧v = .int .i64 x) s→bJ Tryz.prog (fun v _=>∃x:Int,(x=0→W)∧v = .int .i64 x) s:=
   fun h r=>r.mono fun v _ ⟨x,h1,h2⟩=>⟨x,fun e=>h (h1 e),h2⟩
 match jc,ho with
 | [],ho=>exact up (fun h=>⟨by decide,h⟩) (Tryz.ck0 hnp hlo hhi)
 | [(g0,m0,w0)],ho=>obtain rfl:=ho.1 (by simp);exact up (fun h=>⟨by simp,h⟩) (Tryz.ck1 hnp hlo hhi)
 | [(g0,m0,w0),(g1,m1,w1)],ho=>obtain rfl:=ho.1 (by simp);exact up (fun h=>⟨by simp,h⟩) (Tryz.ck2 hnp hlo hhi)
 | [(g0,m0,w0),(g1,m1,w1),(g2,m2,w2)],ho=>obtain rfl:=ho.1 (by simp);exact up (fun h=>⟨by simp,h⟩) (Tryz.ck3 hnp hlo hhi)
 | a :: b :: c :: d :: r,ho=>exact up False.elim (Tryz.ckm (nt:=r.length+4) (by omega))
theorem G9{V1:Prop}(hpl:∀x∈pc,Plain x)(hkc:∀x∈kc,Plain x)(hlo:nth pc.toList 0=some (.int .i64 lo))(hhi:nth pc.toList ((np - 1) * 3)=some (.int .i64 hi))(hot:nO 1 jb.length ot)(hos:nO 2 jc.length os)
   (h1:bJ Tryz.prog (fun v _=>∃x:Int,(x=0→V1)∧v = .int .i64 x) ⟨aB.enter Tryz.prog 40 ⟨[.slice (some ⟨0,0,none⟩) np cp]⟩,[],cu 4 (L4 pc ⟨lX jb⟩ ⟨encS jc⟩ kc)⟩) :
   jQ Tryz.prog ⟨12,fun _ _=>[],4,fun _=>L4 pc ⟨lX jb⟩ ⟨encS jc⟩ kc,fun _=>⟨[bv np af cp ot jb.length ct os jc.length cs]⟩,fun _=>True,fun _ x=>(x=0→(0≤af∧af≤20)∧V1∧V2 np jb∧V3 lo hi jc),fun x=>.int .i64 x⟩:=by
 have st:=Dc (tc:=⟨lX jb⟩) (sc:=⟨encS jc⟩) hpl (fun x hx=>iy jb x (by simpa using hx)) (fun x hx=>iC jc x (by simpa using hx)) hkc
 have h0:nO 0 np (some ⟨0,0,none⟩):=⟨fun _=>rfl,fun a e=>by cases e;rfl⟩
 refine ⟨fun p _=>?_,fun _ _=>st,fun p x hx=>?_,fun x=>.int _ _⟩
 · refine Tryz.cb (V1:=V1) (V2:=V2 np jb) (V3:=V3 lo hi jc) (dm ⟨fun _ _=>h1,fun _ _=>st,fun p x hx=>?_,fun x=>.int _ _⟩ (dm ⟨fun _ _=>XQ hnp hot,fun _ _=>st,fun p x hx=>?_,fun x=>.int _ _⟩ (dm ⟨fun _ _=>Vg hnp hlo hhi hos,fun _ _=>st,fun p x hx=>?_,fun x=>.int _ _⟩ dJ)))
   ·rw [mem1 hx];exact h0.ok (m:=4) (by decide)
   ·rw [mem1 hx];exact lC (m:=4) (by decide) h0 hot hos
   ·rw [mem1 hx];exact lC (m:=4) (by decide) h0 hot hos
 · rw [mem1 hx];exact lC (m:=4) (by decide) h0 hot hos
theorem XR{nt:Nat}{ns:Nat}(ho:nO 1 jb.length ot)(hv:V2 np jb):bJ Tryz.prog (fun v _=>∃x:Int,x=0∧v = .int .i64 x) ⟨aB.enter Tryz.prog 119 ⟨[.agg ⟨[.int .i64 af,.slice op np cp,.slice ot jb.length ct,.slice os ns cs]⟩]⟩,[],cu 4 (L4 pc ⟨lX jb⟩ sc kc)⟩:=by
 match jb,ho,hv with
 | [],ho,hv=>exact Tryz.pt0 hnp hv.2
 | [(f0,t0,a0,b0)],ho,hv=>obtain rfl:=ho.1 (by simp);exact Tryz.pt1 hnp hv.2
 | [(f0,t0,a0,b0),(f1,t1,a1,b1)],ho,hv=>obtain rfl:=ho.1 (by simp);exact Tryz.pt2 hnp hv.2
 | [(f0,t0,a0,b0),(f1,t1,a1,b1),(f2,t2,a2,b2)],ho,hv=>obtain rfl:=ho.1 (by simp);exact Tryz.pt3 hnp hv.2
 | a :: b :: c :: d :: r,ho,hv=>exact absurd hv.1 (by simp)
theorem Vh{tv:Value}(hlo:nth pc.toList 0=some (.int .i64 lo))(hhi:nth pc.toList ((np - 1) * 3)=some (.int .i64 hi))(ho:nO 2 jc.length os)(hv:V3 lo hi jc):bJ Tryz.prog (fun v _=>∃x:Int,x=0∧v = .int .i64 x) ⟨aB.enter Tryz.prog 120 ⟨[.agg ⟨[.int .i64 af,.slice (some ⟨0,0,none⟩) np cp,tv,.slice os jc.length cs]⟩]⟩,[],cu 4 (L4 pc tc ⟨encS jc⟩ kc)⟩:=by
 match jc,ho,hv with
 | [],ho,hv=>exact Tryz.ps0 hnp hlo hhi hv.2
 | [(g0,m0,w0)],ho,hv=>obtain rfl:=ho.1 (by simp);exact Tryz.ps1 hnp hlo hhi hv.2
 | [(g0,m0,w0),(g1,m1,w1)],ho,hv=>obtain rfl:=ho.1 (by simp);exact Tryz.ps2 hnp hlo hhi hv.2
 | [(g0,m0,w0),(g1,m1,w1),(g2,m2,w2)],ho,hv=>obtain rfl:=ho.1 (by simp);exact Tryz.ps3 hnp hlo hhi hv.2
 | a :: b :: c :: d :: r,ho,hv=>exact absurd hv.1 (by simp)
theorem He(hpl:∀x∈pc,Plain x)(hkc:∀x∈kc,Plain x)(hlo:nth pc.toList 0=some (.int .i64 lo))(hhi:nth pc.toList ((np - 1) * 3)=some (.int .i64 hi))(hot:nO 1 jb.length ot)(hos:nO 2 jc.length os)(hp:0≤af∧af≤20)(h2:V2 np jb)(h3:V3 lo hi jc)
   (h1:bJ Tryz.prog (fun v _=>∃x:Int,x=0∧v = .int .i64 x) ⟨aB.enter Tryz.prog 118 ⟨[bv np af cp ot jb.length ct os jc.length cs]⟩,[],cu 4 (L4 pc ⟨lX jb⟩ ⟨encS jc⟩ kc)⟩) :
   jQ Tryz.prog ⟨87,fun _ _=>[],4,fun _=>L4 pc ⟨lX jb⟩ ⟨encS jc⟩ kc,fun _=>⟨[bv np af cp ot jb.length ct os jc.length cs]⟩,fun _=>True,fun _ x=>x=0,fun x=>.int .i64 x⟩:=by
 have st:=Dc (tc:=⟨lX jb⟩) (sc:=⟨encS jc⟩) hpl (fun x hx=>iy jb x (by simpa using hx)) (fun x hx=>iC jc x (by simpa using hx)) hkc
 have h0:nO 0 np (some ⟨0,0,none⟩):=⟨fun _=>rfl,fun a e=>by cases e;rfl⟩
 have okA:∀(p:List Int),∀x∈(⟨[bv np af cp ot jb.length ct os jc.length cs]⟩:Array Value),pK (· < 4) x:=fun p x hx=>by rw [mem1 hx];exact lC (m:=4) (by decide) h0 hot hos
 refine ⟨fun p _=>?_,fun _ _=>st,okA,fun x=>.int _ _⟩
 exact Tryz.sn hp (dm ⟨fun _ _=>h1,fun _ _=>st,okA,fun x=>.int _ _⟩ (dm ⟨fun _ _=>XR (nt:=0) hnp hot h2,fun _ _=>st,okA,fun x=>.int _ _⟩ (dm ⟨fun _ _=>Vh hnp hlo hhi hos h3,fun _ _=>st,okA,fun x=>.int _ _⟩ dJ)))
end
end Go.Am
namespace Go.Am
open Go.Proofs
theorem xx{pc tc sc:Array Value}{ok:Option Addr}{ck:Nat}{ks:List Int}(hpl:∀x∈pc,Plain x)(htc:∀x∈tc,Plain x)(hsc:∀x∈sc,Plain x)(hok:nO 3 ks.length ok)(hks:∀n∈ks,0≤n∧n≤65535) :
   jQ Tryz.prog ⟨33,fun a _=>[gI a 1],4,fun _=>L4 pc tc sc ⟨jg ks⟩,fun ps=>⟨[.slice ok ks.length ck,.int .i64 (ps.headD 0)]⟩,fun _=>True,fun _ x=>(0≤x∧x≤65535),fun x=>.int .i64 x⟩:=by
 refine ⟨fun p _=>?_,fun _ _=>Dc hpl htc hsc (fun x hx=>di ks x (by simpa using hx)),fun p x hx=>?_,fun x=>.int _ _⟩
 · dsimp only
   generalize p.headD 0=k
   match ks,hok,hks with
   | [],hok,hks=>exact Tryz.ch0
   |n :: r,hok,hks=>
    obtain rfl:=hok.1 (by simp)
    refine Tryz.ch fun i hi=>?_
    have key:∀(l:List Int) (i:Nat),i < l.length→nth (jg l) i=some (.int .u16 (l.getD i 0))∧l.getD i 0∈l:=by
     intro l
     induction l with
     |nil=>intro i hi;exact absurd hi (Nat.not_lt_zero _)
     |cons a l ih=>
      intro i hi
      cases i with
      |zero=>exact ⟨rfl,by simp⟩
      |succ i=>
       obtain ⟨h1,h2⟩:=ih i (by simpa using hi)
       have e:(a :: l).getD (i+1) 0=l.getD i 0:=by simp [List.getD]
       rw [e]
       exact ⟨h1,.tail _ h2⟩
    obtain ⟨h1,h2⟩:=key (n :: r) i hi
    exact ⟨_,h1,hks _ h2⟩
 · simp only [List.mem_toArray,List.mem_cons,List.not_mem_nil,or_false] at hx
   rcases hx with rfl|rfl
   ·exact hok.ok (m:=4) (by decide)
   ·exact .int _ _
section
variable{af height:Int}{ot os ok om:Option Addr}{cp ct cs ck cm:Nat}{jb:List (Int×Int×Int×Int)}{jc:List (Int×Int×Bool)}{ks ms:List Int}
theorem ajB{pc tc sc kc mc:Array Value}(h1:∀x∈pc,Plain x)(h2:∀x∈tc,Plain x)(h3:∀x∈sc,Plain x)(h4:∀x∈kc,Plain x)(h5:∀x∈mc,Plain x):StL 5 (L5 pc tc sc kc mc):=by
 refine ⟨fun p hp=>?_,fun p hp=>?_,by simp [L5]⟩
 · simp only [L5,List.mem_cons,List.not_mem_nil,or_false] at hp
   rcases hp with rfl|rfl|rfl|rfl|rfl<;>simp
 · simp only [L5,List.mem_cons,List.not_mem_nil,or_false] at hp
   rcases hp with rfl|rfl|rfl|rfl|rfl
   ·exact ⟨pc,_,_,rfl,h1⟩
   ·exact ⟨tc,_,_,rfl,h2⟩
   ·exact ⟨sc,_,_,rfl,h3⟩
   ·exact ⟨kc,_,_,rfl,h4⟩
   ·exact ⟨mc,_,_,rfl,h5⟩
theorem zu{p:Nat→Prop}(l:List Int)(k:List Value)(hk:∀x∈k,∃n,x = .int .i64 n):pK p (.agg ⟨(l.map fun n=>.int .i64 n) ++ k⟩):=by
 refine .agg fun x hx=>?_
 simp only [List.mem_toArray,List.mem_append,List.mem_map] at hx
 rcases hx with ⟨n,_,rfl⟩|hx
 · exact .int _ _
 · obtain ⟨n,rfl⟩:=hk x hx
   exact .int _ _
theorem uA{pc tc sc kc:Array Value}{ok:Option Addr}{ck:Nat}{ks:List Int}(hpl:∀x∈pc,Plain x)(htc:∀x∈tc,Plain x)(hsc:∀x∈sc,Plain x)(hkc:∀x∈kc,Plain x)(hok:nO 4 ks.length ok)(hks:∀n∈ks,0≤n∧n≤65535) :
   jQ Tryz.prog ⟨33,fun a _=>[gI a 1],5,fun _=>L5 pc tc sc kc ⟨jg ks⟩,fun ps=>⟨[.slice ok ks.length ck,.int .i64 (ps.headD 0)]⟩,fun _=>True,fun _ x=>(0≤x∧x≤65535),fun x=>.int .i64 x⟩:=by
 refine ⟨fun p _=>?_,fun _ _=>ajB hpl htc hsc hkc (fun x hx=>di ks x (by simpa using hx)),fun p x hx=>?_,fun x=>.int _ _⟩
 · dsimp only
   generalize p.headD 0=k
   match ks,hok,hks with
   | [],hok,hks=>exact Tryz.ajA
   |n :: r,hok,hks=>
    obtain rfl:=hok.1 (by simp)
    refine Tryz.chm fun i hi=>?_
    have key:∀(l:List Int) (i:Nat),i < l.length→nth (jg l) i=some (.int .u16 (l.getD i 0))∧l.getD i 0∈l:=by
     intro l
     induction l with
     |nil=>intro i hi;exact absurd hi (Nat.not_lt_zero _)
     |cons a l ih=>
      intro i hi
      cases i with
      |zero=>exact ⟨rfl,by simp⟩
      |succ i=>
       obtain ⟨h1,h2⟩:=ih i (by simpa using hi)
       have e:(a :: l).getD (i+1) 0=l.getD i 0:=by simp [List.getD]
       rw [e]
       exact ⟨h1,.tail _ h2⟩
    obtain ⟨h1,h2⟩:=key (n :: r) i hi
    exact ⟨_,h1,hks _ h2⟩
 · simp only [List.mem_toArray,List.mem_cons,List.not_mem_nil,or_false] at hx
   rcases hx with rfl|rfl
   ·exact hok.ok (m:=5) (by decide)
   ·exact .int _ _
theorem QA(h0 l0 u0 h1 l1 u1:Int):∀x∈L9 h0 l0 u0 h1 l1 u1,Plain x:=fun x hx=>by
 simp only [L9,List.mem_toArray,List.mem_cons,List.not_mem_nil,or_false] at hx
 rcases hx with rfl|rfl|rfl|rfl|rfl|rfl<;>exact .int _ _
theorem Vj{p:List Int}(h:abd p):∃z0 z1,p=[z0,z1]∧0≤z0∧z0≤959∧0≤z1∧z1≤959:=by
 unfold abd at h
 split at h
 · exact ⟨_,_,rfl,h⟩
 · exact h.elim
theorem Vk{h0 h1:Int}{p:List Int}(h:aba h0 h1 p):∃ht z0 z1,p=[ht,z0,z1]∧h0≤ht∧ht≤h1∧0≤z0∧z0≤959∧0≤z1∧z1≤959:=by
 unfold aba at h
 split at h
 · exact ⟨_,_,_,rfl,h⟩
 · exact h.elim
theorem ajC{h0 l0 u0 h1 l1 u1:Int}(hot:nO 1 jb.length ot)(hos:nO 2 jc.length os)(hok:nO 3 ks.length ok)(Q5:nO 4 ms.length om)(hks:∀n∈ks,0≤n∧n≤65535)(hms:∀n∈ms,0≤n∧n≤65535)(hn:0≤height∧height≤65535) :
   bZ Tryz.prog (fun s=>gp (Tryz.X []) 3 5 s=true) ⟨aB.enter Tryz.prog 3 ⟨[bv 2 af cp ot jb.length ct os jc.length cs,.slice ok ks.length ck,.slice om ms.length cm,.int .u16 height]⟩,[],cu 5 (L5 (L9 h0 l0 u0 h1 l1 u1) ⟨lX jb⟩ ⟨encS jc⟩ ⟨jg ks⟩ ⟨jg ms⟩)⟩:=by
 have hpl:=QA h0 l0 u0 h1 l1 u1
 have htc:∀x∈(⟨lX jb⟩:Array Value),Plain x:=fun x hx=>iy jb x (by simpa using hx)
 have hsc:∀x∈(⟨encS jc⟩:Array Value),Plain x:=fun x hx=>iC jc x (by simpa using hx)
 have hkc:∀x∈(⟨jg ks⟩:Array Value),Plain x:=fun x hx=>di ks x (by simpa using hx)
 have hmc:∀x∈(⟨jg ms⟩:Array Value),Plain x:=fun x hx=>di ms x (by simpa using hx)
 have hz:nO 0 2 (some ⟨0,0,none⟩):=⟨fun _=>rfl,fun a e=>by cases e;rfl⟩
 have hB:=G9 (np:=2) (by decide) (af:=af) (cp:=cp) (ct:=ct) (cs:=cs) (lo:=h0) (hi:=h1) hpl hkc rfl rfl hot hos Tryz.cp2
 by_cases hV:(0≤af∧af≤20)∧lq [(h0,l0,u0),(h1,l1,u1)]∧V2 2 jb∧V3 h0 h1 jc
 · have hS:=He (np:=2) (by decide) (af:=af) (cp:=cp) (ct:=ct) (cs:=cs) (lo:=h0) (hi:=h1) hpl hkc rfl rfl hot hos hV.1 hV.2.2.1 hV.2.2.2 (Tryz.pp2 hV.2.1)
   refine Tryz.afj (fun h=>⟨h.1,h.2.1⟩) hn (dm hB (dm (xx hpl htc hsc hok hks) (dm (uA hpl htc hsc hkc Q5 hms) (dm hS (dm ?_ (dm ?_ dJ))))))
   ·refine ⟨fun p hp=>?_,fun _ _=>Dc hpl htc hsc hkc,fun p x hx=>?_,fun x=>.int _ _⟩
    ·obtain ⟨ht,z0,z1,rfl,hb⟩:=Vk (h0:=h0) (h1:=h1) hp
     exact Tryz.at2 hV.2.1 hb
    ·simp only [abb,List.mem_toArray,List.mem_cons,List.not_mem_nil,or_false] at hx
     rcases hx with rfl|rfl|rfl
     ·exact lC (m:=4) (by decide) hz hot hos
     ·exact zu _ _ (by simp)
     ·exact .int _ _
   ·refine ⟨fun p hp=>?_,fun _ _=>Dc hpl htc hsc hkc,fun p x hx=>?_,fun x=>.int _ _⟩
    ·obtain ⟨z0,z1,rfl,hb⟩:=Vj hp
     exact Tryz.ar2 hV.2.1 hb
    ·simp only [abe,List.mem_toArray,List.mem_cons,List.not_mem_nil,or_false] at hx
     rcases hx with rfl|rfl
     ·exact lC (m:=4) (by decide) hz hot hos
     ·exact zu _ _ (by simp)
 · exact Tryz.OU (dm ⟨fun p hp=>(hB.GL p hp).mono fun v _ ⟨x,h1,h2⟩=>⟨x,fun e=>hV (h1 e),h2⟩,hB.st,hB.okA,hB.okR⟩ dJ)
theorem QB(h0 l0 u0 h1 l1 u1 h2 l2 u2:Int):∀x∈Jv h0 l0 u0 h1 l1 u1 h2 l2 u2,Plain x:=fun x hx=>by
 simp only [Jv,List.mem_toArray,List.mem_cons,List.not_mem_nil,or_false] at hx
 rcases hx with rfl|rfl|rfl|rfl|rfl|rfl|rfl|rfl|rfl<;>exact .int _ _
theorem Vl{p:List Int}(h:abg p):∃z0 z1 z2,p=[z0,z1,z2]∧0≤z0∧z0≤959∧0≤z1∧z1≤959∧0≤z2∧z2≤959:=by
 unfold abg at h
 split at h
 · exact ⟨_,_,_,rfl,h⟩
 · exact h.elim
theorem Vm{h0 h1 h2:Int}{p:List Int}(h:abf h0 h1 h2 p):∃ht z0 z1 z2,p=[ht,z0,z1,z2]∧h0≤ht∧ht≤h2∧0≤z0∧z0≤959∧0≤z1∧z1≤959∧0≤z2∧z2≤959:=by
 unfold abf at h
 split at h
 · exact ⟨_,_,_,_,rfl,h⟩
 · exact h.elim
theorem ajD{h0 l0 u0 h1 l1 u1 h2 l2 u2:Int}(hot:nO 1 jb.length ot)(hos:nO 2 jc.length os)(hok:nO 3 ks.length ok)(Q5:nO 4 ms.length om)(hks:∀n∈ks,0≤n∧n≤65535)(hms:∀n∈ms,0≤n∧n≤65535)(hn:0≤height∧height≤65535) :
   bZ Tryz.prog (fun s=>gp (Tryz.X []) 3 5 s=true) ⟨aB.enter Tryz.prog 3 ⟨[bv 3 af cp ot jb.length ct os jc.length cs,.slice ok ks.length ck,.slice om ms.length cm,.int .u16 height]⟩,[],cu 5 (L5 (Jv h0 l0 u0 h1 l1 u1 h2 l2 u2) ⟨lX jb⟩ ⟨encS jc⟩ ⟨jg ks⟩ ⟨jg ms⟩)⟩:=by
 have hpl:=QB h0 l0 u0 h1 l1 u1 h2 l2 u2
 have htc:∀x∈(⟨lX jb⟩:Array Value),Plain x:=fun x hx=>iy jb x (by simpa using hx)
 have hsc:∀x∈(⟨encS jc⟩:Array Value),Plain x:=fun x hx=>iC jc x (by simpa using hx)
 have hkc:∀x∈(⟨jg ks⟩:Array Value),Plain x:=fun x hx=>di ks x (by simpa using hx)
 have hmc:∀x∈(⟨jg ms⟩:Array Value),Plain x:=fun x hx=>di ms x (by simpa using hx)
 have hz:nO 0 3 (some ⟨0,0,none⟩):=⟨fun _=>rfl,fun a e=>by cases e;rfl⟩
 have hB:=G9 (np:=3) (by decide) (af:=af) (cp:=cp) (ct:=ct) (cs:=cs) (lo:=h0) (hi:=h2) hpl hkc rfl rfl hot hos Tryz.cp3
 by_cases hV:(0≤af∧af≤20)∧lq [(h0,l0,u0),(h1,l1,u1),(h2,l2,u2)]∧V2 3 jb∧V3 h0 h2 jc
 · have hS:=He (np:=3) (by decide) (af:=af) (cp:=cp) (ct:=ct) (cs:=cs) (lo:=h0) (hi:=h2) hpl hkc rfl rfl hot hos hV.1 hV.2.2.1 hV.2.2.2 (Tryz.pp3 hV.2.1)
   refine Tryz.afk (fun h=>⟨h.1,h.2.1⟩) hn (dm hB (dm (xx hpl htc hsc hok hks) (dm (uA hpl htc hsc hkc Q5 hms) (dm hS (dm ?_ (dm ?_ dJ))))))
   ·refine ⟨fun p hp=>?_,fun _ _=>Dc hpl htc hsc hkc,fun p x hx=>?_,fun x=>.int _ _⟩
    ·obtain ⟨ht,z0,z1,z2,rfl,hb⟩:=Vm (h0:=h0) (h1:=h1) (h2:=h2) hp
     exact Tryz.at3 hV.2.1 hb
    ·simp only [afh,List.mem_toArray,List.mem_cons,List.not_mem_nil,or_false] at hx
     rcases hx with rfl|rfl|rfl
     ·exact lC (m:=4) (by decide) hz hot hos
     ·exact zu _ _ (by simp)
     ·exact .int _ _
   ·refine ⟨fun p hp=>?_,fun _ _=>Dc hpl htc hsc hkc,fun p x hx=>?_,fun x=>.int _ _⟩
    ·obtain ⟨z0,z1,z2,rfl,hb⟩:=Vl hp
     exact Tryz.ar3 hV.2.1 hb
    ·simp only [afi,List.mem_toArray,List.mem_cons,List.not_mem_nil,or_false] at hx
     rcases hx with rfl|rfl
     ·exact lC (m:=4) (by decide) hz hot hos
     ·exact zu _ _ (by simp)
 · exact Tryz.OU (dm ⟨fun p hp=>(hB.GL p hp).mono fun v _ ⟨x,h1,h2⟩=>⟨x,fun e=>hV (h1 e),h2⟩,hB.st,hB.okA,hB.okR⟩ dJ)
theorem QC(h0 l0 u0 h1 l1 u1 h2 l2 u2 h3 l3 u3:Int):∀x∈CB h0 l0 u0 h1 l1 u1 h2 l2 u2 h3 l3 u3,Plain x:=fun x hx=>by
 simp only [CB,List.mem_toArray,List.mem_cons,List.not_mem_nil,or_false] at hx
 rcases hx with rfl|rfl|rfl|rfl|rfl|rfl|rfl|rfl|rfl|rfl|rfl|rfl<;>exact .int _ _
theorem Vo{p:List Int}(h:abj p):∃z0 z1 z2 z3,p=[z0,z1,z2,z3]∧0≤z0∧z0≤959∧0≤z1∧z1≤959∧0≤z2∧z2≤959∧0≤z3∧z3≤959:=by
 unfold abj at h
 split at h
 · exact ⟨_,_,_,_,rfl,h⟩
 · exact h.elim
theorem Vp{h0 h1 h2 h3:Int}{p:List Int}(h:abh h0 h1 h2 h3 p):∃ht z0 z1 z2 z3,p=[ht,z0,z1,z2,z3]∧h0≤ht∧ht≤h3∧0≤z0∧z0≤959∧0≤z1∧z1≤959∧0≤z2∧z2≤959∧0≤z3∧z3≤959:=by
 unfold abh at h
 split at h
 · exact ⟨_,_,_,_,_,rfl,h⟩
 · exact h.elim
theorem ajE{h0 l0 u0 h1 l1 u1 h2 l2 u2 h3 l3 u3:Int}(hot:nO 1 jb.length ot)(hos:nO 2 jc.length os)(hok:nO 3 ks.length ok)(Q5:nO 4 ms.length om)(hks:∀n∈ks,0≤n∧n≤65535)(hms:∀n∈ms,0≤n∧n≤65535)(hn:0≤height∧height≤65535) :
   bZ Tryz.prog (fun s=>gp (Tryz.X []) 3 5 s=true) ⟨aB.enter Tryz.prog 3 ⟨[bv 4 af cp ot jb.length ct os jc.length cs,.slice ok ks.length ck,.slice om ms.length cm,.int .u16 height]⟩,[],cu 5 (L5 (CB h0 l0 u0 h1 l1 u1 h2 l2 u2 h3 l3 u3) ⟨lX jb⟩ ⟨encS jc⟩ ⟨jg ks⟩ ⟨jg ms⟩)⟩:=by
 have hpl:=QC h0 l0 u0 h1 l1 u1 h2 l2 u2 h3 l3 u3
 have htc:∀x∈(⟨lX jb⟩:Array Value),Plain x:=fun x hx=>iy jb x (by simpa using hx)
 have hsc:∀x∈(⟨encS jc⟩:Array Value),Plain x:=fun x hx=>iC jc x (by simpa using hx)
 have hkc:∀x∈(⟨jg ks⟩:Array Value),Plain x:=fun x hx=>di ks x (by simpa using hx)
 have hmc:∀x∈(⟨jg ms⟩:Array Value),Plain x:=fun x hx=>di ms x (by simpa using hx)
 have hz:nO 0 4 (some ⟨0,0,none⟩):=⟨fun _=>rfl,fun a e=>by cases e;rfl⟩
 have hB:=G9 (np:=4) (by decide) (af:=af) (cp:=cp) (ct:=ct) (cs:=cs) (lo:=h0) (hi:=h3) hpl hkc rfl rfl hot hos Tryz.cp4
 by_cases hV:(0≤af∧af≤20)∧lq [(h0,l0,u0),(h1,l1,u1),(h2,l2,u2),(h3,l3,u3)]∧V2 4 jb∧V3 h0 h3 jc
 · have hS:=He (np:=4) (by decide) (af:=af) (cp:=cp) (ct:=ct) (cs:=cs) (lo:=h0) (hi:=h3) hpl hkc rfl rfl hot hos hV.1 hV.2.2.1 hV.2.2.2 (Tryz.pp4 hV.2.1)
   refine Tryz.afl (fun h=>⟨h.1,h.2.1⟩) hn (dm hB (dm (xx hpl htc hsc hok hks) (dm (uA hpl htc hsc hkc Q5 hms) (dm hS (dm ?_ (dm ?_ dJ))))))
   ·refine ⟨fun p hp=>?_,fun _ _=>Dc hpl htc hsc hkc,fun p x hx=>?_,fun x=>.int _ _⟩
    ·obtain ⟨ht,z0,z1,z2,z3,rfl,hb⟩:=Vp (h0:=h0) (h1:=h1) (h2:=h2) (h3:=h3) hp
     exact Tryz.at4 hV.2.1 hb
    ·simp only [Xo,List.mem_toArray,List.mem_cons,List.not_mem_nil,or_false] at hx
     rcases hx with rfl|rfl|rfl
     ·exact lC (m:=4) (by decide) hz hot hos
     ·exact zu _ _ (by simp)
     ·exact .int _ _
   ·refine ⟨fun p hp=>?_,fun _ _=>Dc hpl htc hsc hkc,fun p x hx=>?_,fun x=>.int _ _⟩
    ·obtain ⟨z0,z1,z2,z3,rfl,hb⟩:=Vo hp
     exact Tryz.ar4 hV.2.1 hb
    ·simp only [Xp,List.mem_toArray,List.mem_cons,List.not_mem_nil,or_false] at hx
     rcases hx with rfl|rfl
     ·exact lC (m:=4) (by decide) hz hot hos
     ·exact zu _ _ (by simp)
 · exact Tryz.OU (dm ⟨fun p hp=>(hB.GL p hp).mono fun v _ ⟨x,h1,h2⟩=>⟨x,fun e=>hV (h1 e),h2⟩,hB.st,hB.okA,hB.okR⟩ dJ)
theorem QD(h0 l0 u0 h1 l1 u1 h2 l2 u2 h3 l3 u3 h4 l4 u4:Int):∀x∈yF h0 l0 u0 h1 l1 u1 h2 l2 u2 h3 l3 u3 h4 l4 u4,Plain x:=fun x hx=>by
 simp only [yF,List.mem_toArray,List.mem_cons,List.not_mem_nil,or_false] at hx
 rcases hx with rfl|rfl|rfl|rfl|rfl|rfl|rfl|rfl|rfl|rfl|rfl|rfl|rfl|rfl|rfl<;>exact .int _ _
theorem Vq{p:List Int}(h:abl p):∃z0 z1 z2 z3 z4,p=[z0,z1,z2,z3,z4]∧0≤z0∧z0≤959∧0≤z1∧z1≤959∧0≤z2∧z2≤959∧0≤z3∧z3≤959∧0≤z4∧z4≤959:=by
 unfold abl at h
 split at h
 · exact ⟨_,_,_,_,_,rfl,h⟩
 · exact h.elim
theorem Vr{h0 h1 h2 h3 h4:Int}{p:List Int}(h:abk h0 h1 h2 h3 h4 p):∃ht z0 z1 z2 z3 z4,p=[ht,z0,z1,z2,z3,z4]∧h0≤ht∧ht≤h4∧0≤z0∧z0≤959∧0≤z1∧z1≤959∧0≤z2∧z2≤959∧0≤z3∧z3≤959∧0≤z4∧z4≤959:=by
 unfold abk at h
 split at h
 · exact ⟨_,_,_,_,_,_,rfl,h⟩
 · exact h.elim
theorem ajF{h0 l0 u0 h1 l1 u1 h2 l2 u2 h3 l3 u3 h4 l4 u4:Int}(hot:nO 1 jb.length ot)(hos:nO 2 jc.length os)(hok:nO 3 ks.length ok)(Q5:nO 4 ms.length om)(hks:∀n∈ks,0≤n∧n≤65535)(hms:∀n∈ms,0≤n∧n≤65535)(hn:0≤height∧height≤65535) :
   bZ Tryz.prog (fun s=>gp (Tryz.X []) 3 5 s=true) ⟨aB.enter Tryz.prog 3 ⟨[bv 5 af cp ot jb.length ct os jc.length cs,.slice ok ks.length ck,.slice om ms.length cm,.int .u16 height]⟩,[],cu 5 (L5 (yF h0 l0 u0 h1 l1 u1 h2 l2 u2 h3 l3 u3 h4 l4 u4) ⟨lX jb⟩ ⟨encS jc⟩ ⟨jg ks⟩ ⟨jg ms⟩)⟩:=by
 have hpl:=QD h0 l0 u0 h1 l1 u1 h2 l2 u2 h3 l3 u3 h4 l4 u4
 have htc:∀x∈(⟨lX jb⟩:Array Value),Plain x:=fun x hx=>iy jb x (by simpa using hx)
 have hsc:∀x∈(⟨encS jc⟩:Array Value),Plain x:=fun x hx=>iC jc x (by simpa using hx)
 have hkc:∀x∈(⟨jg ks⟩:Array Value),Plain x:=fun x hx=>di ks x (by simpa using hx)
 have hmc:∀x∈(⟨jg ms⟩:Array Value),Plain x:=fun x hx=>di ms x (by simpa using hx)
 have hz:nO 0 5 (some ⟨0,0,none⟩):=⟨fun _=>rfl,fun a e=>by cases e;rfl⟩
 have hB:=G9 (np:=5) (by decide) (af:=af) (cp:=cp) (ct:=ct) (cs:=cs) (lo:=h0) (hi:=h4) hpl hkc rfl rfl hot hos Tryz.cp5
 by_cases hV:(0≤af∧af≤20)∧lq [(h0,l0,u0),(h1,l1,u1),(h2,l2,u2),(h3,l3,u3),(h4,l4,u4)]∧V2 5 jb∧V3 h0 h4 jc
 · have hS:=He (np:=5) (by decide) (af:=af) (cp:=cp) (ct:=ct) (cs:=cs) (lo:=h0) (hi:=h4) hpl hkc rfl rfl hot hos hV.1 hV.2.2.1 hV.2.2.2 (Tryz.pp5 hV.2.1)
   refine Tryz.afo (fun h=>⟨h.1,h.2.1⟩) hn (dm hB (dm (xx hpl htc hsc hok hks) (dm (uA hpl htc hsc hkc Q5 hms) (dm hS (dm ?_ (dm ?_ dJ))))))
   ·refine ⟨fun p hp=>?_,fun _ _=>Dc hpl htc hsc hkc,fun p x hx=>?_,fun x=>.int _ _⟩
    ·obtain ⟨ht,z0,z1,z2,z3,z4,rfl,hb⟩:=Vr (h0:=h0) (h1:=h1) (h2:=h2) (h3:=h3) (h4:=h4) hp
     exact Tryz.at5 hV.2.1 hb
    ·simp only [Xq,List.mem_toArray,List.mem_cons,List.not_mem_nil,or_false] at hx
     rcases hx with rfl|rfl|rfl
     ·exact lC (m:=4) (by decide) hz hot hos
     ·exact zu _ _ (by simp)
     ·exact .int _ _
   ·refine ⟨fun p hp=>?_,fun _ _=>Dc hpl htc hsc hkc,fun p x hx=>?_,fun x=>.int _ _⟩
    ·obtain ⟨z0,z1,z2,z3,z4,rfl,hb⟩:=Vq hp
     exact Tryz.ar5 hV.2.1 hb
    ·simp only [Xr,List.mem_toArray,List.mem_cons,List.not_mem_nil,or_false] at hx
     rcases hx with rfl|rfl
     ·exact lC (m:=4) (by decide) hz hot hos
     ·exact zu _ _ (by simp)
 · exact Tryz.OU (dm ⟨fun p hp=>(hB.GL p hp).mono fun v _ ⟨x,h1,h2⟩=>⟨x,fun e=>hV (h1 e),h2⟩,hB.st,hB.okA,hB.okR⟩ dJ)
theorem ajG{np nt ns nk nm b0 b1 b2 b3:Nat}{op:Option Addr}(hnp:¬(2≤np∧np≤5))(h0:nO 0 b0 op)(h1:nO 1 b1 ot)(h2:nO 2 b2 os) :
   bZ Tryz.prog (fun s=>gp (Tryz.X []) 3 5 s=true) ⟨aB.enter Tryz.prog 3 ⟨[bm af op np cp ot nt ct os ns cs,.slice ok nk ck,.slice om nm cm,.int .u16 height]⟩,[],cu 5 []⟩:=by
 have st:StL 4 []:=⟨fun p hp=>absurd hp List.not_mem_nil,fun p hp=>absurd hp List.not_mem_nil,List.nodup_nil⟩
 have e0:pK (· < 4) (.slice op np cp):=XP fun a e=>by rw [h0.2 a e];decide
 have okA:∀x∈(⟨[bm af op np cp ot nt ct os ns cs]⟩:Array Value),pK (· < 4) x:=fun x hx=>by
   rw [mem1 hx]
   refine .agg fun y hy=>?_
   simp only [List.mem_toArray,List.mem_cons,List.not_mem_nil,or_false] at hy
   rcases hy with rfl|rfl|rfl|rfl
   ·exact .int _ _
   ·exact e0
   ·exact XP fun a e=>by rw [h1.2 a e];decide
   ·exact XP fun a e=>by rw [h2.2 a e];decide
 refine Tryz.afs (dm ⟨fun p _=>?_,fun _ _=>st,fun _=>okA,fun x=>.int _ _⟩ dJ)
 exact Tryz.cbm (dm ⟨fun p _=>Tryz.cpm hnp,fun _ _=>st,fun p x hx=>by rw [mem1 hx];exact e0,fun x=>.int _ _⟩ dJ)
end
end Go.Am
namespace Go.Am
inductive FK where
 | int (k:IntKind)
 | bool
def FK.ok:FK→Value→Prop
 | .int k,v=>∃n,v = .int k n∧(Lit.int k n).wf=true
 | .bool,v=>∃b,v = .bool b
def QE(ks:List FK)(vs:List Value):Prop:=vs.length=ks.length∧∀(i:Nat) k,ks[i]? = some k→∃v,vs[i]? = some v∧k.ok v
noncomputable def sD(P:Program)(g:TypeId→Option (List FK))(acc:Option (List FK))(f:Field):Option (List FK):=match acc with
 | some l=>if f.offset=l.length then match g f.type with
   |some ks=>if ks.length=P.cellsOf f.type then some (l ++ ks) else none
   |none=>none else none
 | none=>none
noncomputable def qO(P:Program):Nat→TypeId→Option (List FK)
 | 0,_=>none
 | n+1,t=>match P.underlying t with
   |some (.int k)=>some [.int k]
   |some .bool=>some [.bool]
   |some (.struct fs)=>match fs.toList.foldl (sD P (qO P n)) (some []) with
    |some l=>if l.length=P.cellsOf t then some l else none
    |none=>none
   |_=>none
theorem mapM_mem{α β:Type}{f:α→Option β}:∀ {l:List α} {ys:List β},l.mapM f=some ys→∀x∈l,∃y,f x=some y
 | [],ys,h,x,hx=>by cases hx
 | a :: l,ys,h,x,hx=>by
   rw [List.mapM_cons] at h
   cases ha:f a with
   |none=>rw [ha] at h;cases h
   |some y=>
    rw [ha] at h
    cases hl:l.mapM f with
    |none=>rw [hl] at h;cases h
    |some zs=>
     rcases List.mem_cons.1 hx with rfl|hx
     ·exact ⟨y,ha⟩
     ·exact mapM_mem hl x hx
theorem Df{α β:Type}{f:α→Option β}:∀ {l:List α} {ys:List β},l.mapM f=some ys→ys.length=l.length∧∀(i:Nat) x,l[i]? = some x→∃y,ys[i]? = some y∧f x=some y
 | [],ys,h=>by cases h;exact ⟨rfl,fun i x hx=>by simp at hx⟩
 | a :: l,ys,h=>by
   rw [List.mapM_cons] at h
   cases ha:f a with
   |none=>rw [ha] at h;cases h
   |some y=>
    rw [ha] at h
    cases hl:l.mapM f with
    |none=>rw [hl] at h;cases h
    |some zs=>
     rw [hl] at h
     cases h
     obtain ⟨h1,h2⟩:=Df hl
     refine ⟨by simp [h1],fun i x hx=>?_⟩
     cases i with
     |zero=>simp at hx;subst hx;exact ⟨y,rfl,ha⟩
     |succ i=>simp at hx;obtain ⟨z,k1,k2⟩:=h2 i x hx;exact ⟨z,by simpa using k1,k2⟩
section
variable{H:Type}{enc:TypeId×Value→H}{P:Program}{W:World}{base:Nat}{spare:Nat→Bool}{held:Bool}
theorem zx{fuel:Nat}{t:TypeId}{fs:Array Field}{cs:List Value}{x:DataW H×List MemPlace}(ht:P.underlying t=some (.struct fs))(h:DataW.trod enc P W base spare held (fuel+1) t cs=some x) :
   cs.length=P.cellsOf t∧∀f∈fs.toList,∃y,DataW.trod enc P W base spare held fuel f.type ((cs.drop f.offset).take (P.cellsOf f.type))=some y:=by
 unfold DataW.trod at h
 rw [ht] at h
 dsimp only at h
 split at h
 · rename_i hl
   refine ⟨hl,fun f hf=>?_⟩
   cases hm:(fs.toList.mapM fun f=>DataW.trod enc P W base spare held fuel f.type ((cs.drop f.offset).take (P.cellsOf f.type))) with
   |none=>rw [hm] at h;cases h
   |some ys=>exact mapM_mem hm f hf
 · cases h
theorem EZ{g:TypeId→Option (List FK)}:∀l:List Field,l.foldl (sD P g) none=none
 | []=>rfl
 | f :: l=>by rw [List.foldl_cons];exact EZ l
theorem yJ:∀(n fuel:Nat) (t:TypeId) (cs:List Value) (x:DataW H×List MemPlace) (ks:List FK),DataW.trod enc P W base spare held fuel t cs=some x→qO P n t=some ks→QE ks cs
 | 0,fuel,t,cs,x,ks,h,k=>by cases k
 | n+1,0,t,cs,x,ks,h,k=>by cases h
 | n+1,fuel+1,t,cs,x,ks,h,k=>by
   unfold qO at k
   split at k
   ·rename_i κ ht
    cases k
    unfold DataW.trod at h
    rw [ht] at h
    split at h<;>first|(rename_i e;cases e;done)|(cases h;done)|skip
    all_goals first|(rename_i e;cases e)|skip
    split at h
    ·rename_i hk
     cases h
     refine ⟨rfl,fun i k hk'=>?_⟩
     cases i with
     |zero=>simp at hk';subst hk';exact ⟨_,rfl,_,by rw [hk.1],hk.2⟩
     |succ i=>simp at hk'
    ·cases h
   ·rename_i ht
    cases k
    unfold DataW.trod at h
    rw [ht] at h
    split at h<;>first|(rename_i e;cases e;done)|(cases h;done)|skip
    all_goals first|(rename_i e;cases e)|skip
    refine ⟨rfl,fun i k hk'=>?_⟩
    cases i with
    |zero=>simp at hk';subst hk';exact ⟨_,rfl,_,rfl⟩
    |succ i=>simp at hk'
   ·rename_i fs ht
    obtain ⟨h1,h2⟩:=zx ht h
    split at k
    ·rename_i l hl
     split at k
     ·rename_i hlen
      cases k
      refine ⟨h1.trans hlen.symm,?_⟩
      have key:∀(gs:List Field) (l₀:List FK),(∀f∈gs,∃y,DataW.trod enc P W base spare held fuel f.type ((cs.drop f.offset).take (P.cellsOf f.type))=some y) →
        (∀(i:Nat) k,l₀[i]? = some k→∃v,cs[i]? = some v∧k.ok v)→gs.foldl (sD P (qO P n)) (some l₀)=some ks→∀(i:Nat) k,ks[i]? = some k→∃v,cs[i]? = some v∧k.ok v:=by
       intro gs
       induction gs with
       |nil=>intro l₀ _ h0 he;cases he;exact h0
       |cons f gs ih=>
        intro l₀ hg h0 he
        rw [List.foldl_cons] at he
        cases hs:sD P (qO P n) (some l₀) f with
        |none=>rw [hs,EZ] at he;cases he
        |some l₁=>
         rw [hs] at he
         refine ih l₁ (fun f' hf'=>hg f' (.tail _ hf')) ?_ he
         unfold sD at hs
         dsimp only at hs
         split at hs
         ·rename_i hoff
          split at hs
          ·rename_i kf hkf
           split at hs
           ·rename_i hkl
            cases hs
            obtain ⟨y,hy⟩:=hg f (.head _)
            have hF:=yJ n fuel f.type _ y kf hy hkf
            intro i k hik
            by_cases hi:i < l₀.length
            ·rw [List.getElem?_append_left hi] at hik;exact h0 i k hik
            ·rw [List.getElem?_append_right (by omega)] at hik
             obtain ⟨v,hv,hok⟩:=hF.2 _ k hik
             have hlt:i - l₀.length < kf.length:=(List.getElem?_eq_some_iff.1 hik).1
             rw [List.getElem?_take_of_lt (by omega),List.getElem?_drop,hoff] at hv
             exact ⟨v,by rw [show i=l₀.length+(i - l₀.length) by omega];exact hv,hok⟩
           ·cases hs
          ·cases hs
         ·cases hs
      exact key fs.toList [] h2 (fun i k hk=>by simp at hk) hl
     ·cases k
    ·cases k
   ·cases k
theorem trod_slice{fuel:Nat}{t e:TypeId}{v:Value}{x:DataW H×List MemPlace}{ks:List FK}{d:Nat}(ht:P.underlying t=some (.slice e))(hk:qO P d e=some ks)(hc:P.cellsOf e=ks.length)(hpos:0 < ks.length)(h:DataW.trod enc P W base spare held fuel t [v]=some x) :
   v = .slice none 0 0∨∃a n c,v = .slice (some a) n c∧n≤c∧c≤maxLen∧∀i,i < n→a.spot=none∧∃C E g,W.heap[a.block]? = some (.cells C E g)∧∃cs:List Value,cs.length=ks.length∧QE ks cs∧∀j,j < ks.length→C[a.off+i * ks.length+j]? = cs[j]? :=by
 cases fuel with
 | zero=>cases h
 | succ fuel=>
   unfold DataW.trod at h
   rw [ht] at h
   split at h<;>first|(rename_i e1;cases e1;done)|(rename_i e1 e2;cases e1;done)|skip
   all_goals first|(cases h;done)|skip
   ·rename_i e1 e2;cases e2;exact .inl rfl
   ·rename_i e1 e2
    cases e1
    cases e2
    right
    rename_i a n c
    refine ⟨a,n,c,rfl,?_⟩
    dsimp only at h
    split at h
    ·rename_i hb
     refine ⟨hb.2.1,hb.2.2,fun i hi=>?_⟩
     cases hm:((List.range n).mapM fun i=>(W.cells? base (a.add (i * P.cellsOf e)) (P.cellsOf e)).bind (DataW.trod enc P W base spare held fuel e)) with
     |none=>rw [hm] at h;cases h
     |some ys=>
      obtain ⟨y,hy⟩:=mapM_mem hm i (List.mem_range.2 hi)
      cases hcs:W.cells? base (a.add (i * P.cellsOf e)) (P.cellsOf e) with
      |none=>rw [hcs] at hy;cases hy
      |some cs=>
       rw [hcs] at hy
       have hF:=yJ d fuel e cs y ks hy hk
       unfold World.cells? at hcs
       split at hcs
       ·obtain ⟨g1,g2⟩:=Df hcs
        have cellAt:∀j,j < ks.length→∃v,cs[j]? = some v∧W.cell? ((a.add (i * P.cellsOf e)).add j)=some v:=fun j hj=>by
         obtain ⟨v,k1,k2⟩:=g2 j j (by rw [List.getElem?_range];omega)
         exact ⟨v,k1,k2⟩
        have spot:a.spot=none:=by
         obtain ⟨y0,hy0⟩:=mapM_mem hm 0 (List.mem_range.2 (by omega))
         cases hcs0:W.cells? base (a.add (0 * P.cellsOf e)) (P.cellsOf e) with
         |none=>rw [hcs0] at hy0;cases hy0
         |some cs0=>
          unfold World.cells? at hcs0
          split at hcs0
          ·obtain ⟨_,q2⟩:=Df hcs0
           obtain ⟨v,_,k2⟩:=q2 0 0 (by rw [List.getElem?_range];omega)
           rw [Nat.zero_mul] at k2
           have:(a.add 0).add 0=a:=rfl
           rw [this] at k2
           unfold World.cell? at k2
           split at k2
           ·split at k2
            ·cases k2
            ·rename_i hs;simpa using hs
           ·cases k2
          ·cases hcs0
        refine ⟨spot,?_⟩
        have ha:∀j,(a.add (i * P.cellsOf e)).add j=⟨a.block,a.off+i * P.cellsOf e+j,none⟩:=fun j=>by
         obtain ⟨b,off,sp⟩:=a
         dsimp only at spot
         subst spot
         rw [add_plain,add_plain]
        obtain ⟨v0,_,hv0⟩:=cellAt 0 hpos
        rw [ha] at hv0
        unfold World.cell? at hv0
        dsimp only at hv0
        split at hv0
        ·rename_i C E g hC
         refine ⟨C,E,g,hC,cs,hF.1,hF,fun j hj=>?_⟩
         obtain ⟨v,k1,k2⟩:=cellAt j hj
         rw [ha] at k2
         unfold World.cell? at k2
         dsimp only at k2
         rw [hC] at k2
         rw [k1,←hc]
         exact k2
        ·cases hv0
       ·cases hcs
    ·cases h
end
end Go.Am
namespace Go.Am
noncomputable def fieldsOf(P:Program)(t:TypeId):List (TypeId×Nat):=match P.underlying t with
 | some (.struct fs)=>fs.toList.map fun f=>(f.type,f.offset)
 | _=>[]
section
variable{H:Type}{enc:TypeId×Value→H}{P:Program}{W:World}{base:Nat}{spare:Nat→Bool}{held:Bool}
theorem XT{fuel:Nat}{t:TypeId}{cs:List Value}{x:DataW H×List MemPlace}{l:List (TypeId×Nat)}(hf:fieldsOf P t=l)(h:DataW.trod enc P W base spare held (fuel+1) t cs=some x){ty:TypeId}{off:Nat}(hm:(ty,off)∈l) :
   ∃y,DataW.trod enc P W base spare held fuel ty ((cs.drop off).take (P.cellsOf ty))=some y:=by
 unfold fieldsOf at hf
 split at hf
 · rename_i fs ht
   subst hf
   obtain ⟨f,hf,e⟩:=List.mem_map.1 hm
   cases e
   exact (zx ht h).2 f hf
 · subst hf;cases hm
theorem Vt{same:TypeId→Bool}:∀(d:Nat) {e:TypeId} {count off n:Nat},rowAt P same d e count off n=true→off≤count * P.cellsOf e
 | 0,e,count,off,n,h=>by cases h
 | d+1,e,count,off,n,h=>by
   unfold rowAt at h
   dsimp only at h
   split at h
   ·cases h
   ·rename_i hs
    have hpos:0 < P.cellsOf e:=Nat.pos_of_ne_zero hs
    have hdm:=Nat.div_add_mod off (P.cellsOf e)
    have hml:=Nat.mod_lt off hpos
    rw [Bool.or_eq_true] at h
    rcases h with h|h
    ·simp only [Bool.and_eq_true,beq_iff_eq,decide_eq_true_eq] at h
     have h1:off / P.cellsOf e≤count:=by omega
     have h2:=Nat.mul_le_mul_right (P.cellsOf e) h1
     rw [Nat.mul_comm] at hdm
     omega
    ·rw [Bool.and_eq_true,decide_eq_true_eq] at h
     have h1:off / P.cellsOf e+1≤count:=h.1
     have h2:=Nat.mul_le_mul_right (P.cellsOf e) h1
     rw [Nat.add_mul,Nat.one_mul] at h2
     rw [Nat.mul_comm] at hdm
     omega
theorem E8:∀(d:Nat) {e u:TypeId} {count off n:Nat},liesAt P d e count off u n=true→off≤count * P.cellsOf e
 | 0,e,u,count,off,n,h=>by cases h
 | d+1,e,u,count,off,n,h=>by
   unfold liesAt at h
   rw [Bool.or_eq_true] at h
   rcases h with h|h
   ·exact Vt _ h
   ·split at h
    ·exact E8 d h
    ·cases h
theorem QF{r:Reach}{b0:Nat}{a:Addr}{e:TypeId}{n:Nat}(h:W.has P r b0 a e n):a.spot=none∧∃C E g,W.heap[a.block]? = some (.cells C E g)∧a.off≤C.size:=by
 obtain ⟨_,hs,row,cells,hsh,hl⟩:=h
 refine ⟨hs,?_⟩
 unfold World.shape? at hsh
 split at hsh
 · rename_i c elem f hb
   cases hsh
   refine ⟨c,_,f,hb,Nat.le_trans (E8 _ hl) (Nat.div_mul_le_self _ _)⟩
 · cases hsh
theorem Y5{C:Array Value}{ks:List FK}:∀(n off:Nat),(∀i,i < n→∃cs:List Value,QE ks cs∧∀j,j < ks.length→C[off+i * ks.length+j]? = cs[j]?) →
   ∃els:List (List Value),els.length=n∧(∀e∈els,QE ks e)∧∀(i:Nat) v,els.flatten[i]? = some v→C[off+i]? = some v
 | 0,off,h=>⟨[],rfl,fun e he=>absurd he List.not_mem_nil,fun i v hv=>by simp at hv⟩
 | n+1,off,h=>by
   obtain ⟨cs,h1,h2⟩:=h 0 (by omega)
   obtain ⟨els,k1,k2,k3⟩:=Y5 n (off+ks.length) fun i hi=>by
    obtain ⟨cs,q1,q2⟩:=h (i+1) (by omega)
    exact ⟨cs,q1,fun j hj=>by rw [←q2 j hj,Nat.add_mul,Nat.one_mul];congr 1;omega⟩
   refine ⟨cs :: els,by simp [k1],fun e he=>?_,fun i v hv=>?_⟩
   ·rcases List.mem_cons.1 he with rfl|he
    ·exact h1
    ·exact k2 e he
   ·rw [List.flatten_cons] at hv
    by_cases hi:i < cs.length
    ·rw [List.getElem?_append_left hi] at hv
     have:=h2 i (by rw [←h1.1];exact hi)
     rw [Nat.zero_mul,Nat.add_zero] at this
     rw [this];exact hv
    ·rw [List.getElem?_append_right (by omega)] at hv
     have:=k3 _ v hv
     rw [h1.1] at this hi
     rw [←this];congr 1;omega
structure Sl(W:World)(ks:List FK)(v:Value)(o:Option Addr)(n c:Nat)(els:List (List Value)):Prop where
 len:els.length=n
 fk:∀e∈els,QE ks e
 val:v = .slice o n c
 lies:∀a,o=some a→a.spot=none∧∃C E g,W.heap[a.block]? = some (.cells C E g)∧a.off+els.flatten.length≤C.size∧∀(i:Nat) v,els.flatten[i]? = some v→C[a.off+i]? = some v
 nil:o=none→n=0
theorem JD{r:Reach}{b0 fuel d:Nat}{t e:TypeId}{v:Value}{x:DataW H×List MemPlace}{ks:List FK}(ht:P.underlying t=some (.slice e))(hk:qO P d e=some ks)(hc:P.cellsOf e=ks.length)(hpos:0 < ks.length)
   (h:DataW.trod enc P W base spare held fuel t [v]=some x) (hok:Cell.okWide P W r b0 t v):∃o n c els,Sl W ks v o n c els:=by
 rcases trod_slice ht hk hc hpos h with rfl|⟨a,n,c,rfl,hn,hm,hel⟩
 · exact ⟨none,0,0,[],rfl,fun e he=>absurd he List.not_mem_nil,rfl,fun a e=>(by cases e),fun _=>rfl⟩
 · have hh:W.has P r b0 a e c:=by
    unfold Cell.okWide at hok
    rw [ht] at hok
    dsimp only at hok
    unfold Cell.ok at hok
    rw [ht] at hok
    exact hok.2.2
   obtain ⟨hs,C,E,g,hb,hoff⟩:=QF hh
   obtain ⟨els,k1,k2,k3⟩:=Y5 (C:=C) (ks:=ks) n a.off fun i hi=>by
    obtain ⟨_,C',E',g',hb',cs,q1,q2,q3⟩:=hel i hi
    rw [hb] at hb'
    cases hb'
    exact ⟨cs,q2,q3⟩
   refine ⟨some a,n,c,els,k1,k2,rfl,fun a' e=>?_,fun e=>by cases e⟩
   cases e
   refine ⟨hs,C,E,g,hb,?_,k3⟩
   by_cases hl:els.flatten.length=0
   ·omega
   ·have h1:els.flatten.length - 1 < els.flatten.length:=by omega
    have:=k3 (els.flatten.length - 1) _ (List.getElem?_eq_getElem h1)
    have:=(Array.getElem?_eq_some_iff.1 this).1
    omega
end
def slO(b:Nat)(o:Option Addr):Option Addr:=match o with
 | some _=>some ⟨b,0,none⟩
 | none=>none
def uH(d:Nat×Nat)(o:Option Addr):Nat×Nat:=match o with
 | some a=>(a.block,a.off)
 | none=>d
theorem Sl.vr{W:World}{ks:List FK}{v:Value}{o:Option Addr}{n c b:Nat}{els:List (List Value)}{ρ:Env}{d:Nat×Nat}(S:Sl W ks v o n c els)(hb:o≠none→ρ.born b)(ht:ρ.to b=uH d o):VR ρ (.slice (slO b o) n c) v:=by
 rw [S.val]
 cases o with
 | none=>exact .nilslice n c
 | some a=>
   obtain ⟨hs,_⟩:=S.lies a rfl
   have e:a=ρ.addr ⟨b,0,none⟩:=by
    obtain ⟨bb,off,sp⟩:=a
    dsimp only at hs
    subst hs
    have:ρ.to b=(bb,off):=ht
    simp [Env.addr,this]
   conv=>rhs;rw [e]
   exact .slice (hb (by simp)) (.inl rfl)
end Go.Am
