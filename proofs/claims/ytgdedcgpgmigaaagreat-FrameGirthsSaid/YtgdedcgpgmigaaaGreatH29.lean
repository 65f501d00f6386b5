import Derived.Test.YtgdedcgpgmigaaaGreatH26
import Derived.Test.YtgdedcgpgmigaaaGreatH27
set_option linter.unusedVariables false
set_option linter.unusedSectionVars false
set_option linter.unusedSimpArgs false
namespace Go.Am
open Go.Proofs
noncomputable def Tryz.root5_s(plank h0 l0 u0 h1 l1 u1 h2 l2 u2 h3 l3 u3 h4 l4 u4 two mid:Int)(cp nt ct ns cs nk ck:Nat)(tc sc kc:Array Value)(ot os ok:Option Addr)(V:Prop)(x1 x2 x7 x12 x17 x22 x27 x28:Int)(kk:Int):AS:=⟨⟨7,⟨[(bv 5 plank cp ot nt ct os ns cs),.int .u8 two,.pointer (some ⟨23,0,none⟩),ud,.int .i64 (.ofNat 0),.int .i64 (.ofNat 0),ud,.int .u8 two,.int .i64 x28,.pointer (some ⟨23,1,none⟩),.slice (some ⟨0,0,none⟩) 5 cp,.int .i64 (.ofNat 5),.int .i64 (.ofNat 4),.int .i64 kk,ud,ud,ud,ud,ud,ud,ud]⟩,[.region (opsAt 7 [1,0]) [7,8],.code (at_ 7 [1,1])],[],false,none,false⟩,[⟨3,⟨[(bv 5 plank cp ot nt ct os ns cs),.slice ok nk ck,.int .u8 two,.int .u8 mid,.pointer (some ⟨4,0,none⟩),ud,ud,ud,.bool false,.slice (some ⟨22,0,none⟩) 5 5]++ur 12++[(bv 5 plank cp ot nt ct os ns cs),.bool true,.bool false,ud,(bv 5 plank cp ot nt ct os ns cs),.slice ok nk ck,.slice (some ⟨22,0,none⟩) 5 5,ud,(bv 5 plank cp ot nt ct os ns cs),.int .u8 two]++ur 137⟩,[.region (opsAt 3 [1,1,1,0]) [2,3,4,5,6,7],.code (at_ 3 [1,1,1,1])],[],false,none,false⟩],⟨24,(.node (.node (.node (.node (.node .nil (some ⟨(.cells ⟨[.int .i64 x17]⟩ 3 (0,0)),none,false,0⟩) .nil) (some ⟨(.cells ⟨[.int .i64 plank,.slice (some ⟨0,0,none⟩) 5 cp,.slice ot nt ct,.slice os ns cs]⟩ 26 (0,0)),none,false,0⟩) (.node .nil (some ⟨(.cells ⟨[.int .i64 plank,.slice (some ⟨0,0,none⟩) 5 cp,.slice ot nt ct,.slice os ns cs]⟩ 26 (0,0)),none,false,0⟩) .nil)) (some ⟨.cells kc 0 (0,0),none,true,1⟩) (.node (.node .nil (some ⟨(.cells ⟨[.int .i64 x7,.int .i64 x12,.int .i64 x17,.int .i64 x22]⟩ 3 (0,0)),(some 10),false,1⟩) .nil) (some ⟨(.cells ⟨[.int .i64 l1,.int .i64 u1]⟩ 38 (0,0)),none,false,0⟩) .nil)) (some ⟨.cells tc 0 (0,0),none,true,1⟩) (.node (.node (.node .nil (some ⟨(.cells ⟨[.int .i64 l3,.int .i64 u3]⟩ 38 (0,0)),none,false,0⟩) .nil) (some ⟨(.cells ⟨[.int .i64 x7]⟩ 3 (0,0)),none,false,0⟩) .nil) (some ⟨(.cells ⟨[.int .i64 plank,.slice (some ⟨0,0,none⟩) 5 cp,.slice ot nt ct,.slice os ns cs]⟩ 26 (0,0)),none,false,0⟩) (.node (.node .nil (some ⟨(.cells ⟨[.int .i64 x27]⟩ 3 (0,0)),none,false,0⟩) .nil) (some ⟨(.cells ⟨[.int .i64 x7,.int .i64 x12]⟩ 3 (0,0)),(some 10),false,1⟩) .nil))) (some ⟨.cells (pc5 h0 l0 u0 h1 l1 u1 h2 l2 u2 h3 l3 u3 h4 l4 u4) 0 (0,0),none,true,1⟩) (.node (.node (.node (.node .nil (some ⟨(.cells ⟨[.int .i64 x7,.int .i64 x12,.int .i64 x17]⟩ 3 (0,0)),(some 10),false,1⟩) .nil) (some ⟨(.cells ⟨[.int .i64 l0,.int .i64 u0]⟩ 38 (0,0)),none,false,0⟩) .nil) (some ⟨(.cells ⟨[.int .i64 plank,.slice (some ⟨0,0,none⟩) 5 cp,.slice ot nt ct,.slice os ns cs]⟩ 26 (0,0)),none,false,0⟩) (.node (.node .nil (some ⟨(.cells ⟨[.int .i64 l4,.int .i64 u4]⟩ 38 (0,0)),none,false,0⟩) .nil) (some ⟨(.cells ⟨[.int .i64 x12]⟩ 3 (0,0)),none,false,0⟩) .nil)) (some ⟨.cells sc 0 (0,0),none,true,1⟩) (.node (.node (.node .nil (some ⟨(.cells ⟨[.int .i64 x22]⟩ 3 (0,0)),none,false,0⟩) .nil) (some ⟨(.cells ⟨[.int .i64 x7]⟩ 3 (0,0)),(some 10),false,1⟩) .nil) (some ⟨(.cells ⟨[.int .i64 plank,.slice (some ⟨0,0,none⟩) 5 cp,.slice ot nt ct,.slice os ns cs]⟩ 26 (0,0)),none,false,0⟩) (.node (.node .nil (some ⟨(.cells ⟨[.int .i64 x7,.int .i64 x12,.int .i64 x17,.int .i64 x22,.int .i64 x27]⟩ 3 (0,0)),(some 10),false,1⟩) .nil) (some ⟨(.cells ⟨[.int .i64 l2,.int .i64 u2]⟩ 38 (0,0)),none,false,0⟩) .nil)))),(.node .nil none (.node .nil none (.node (.node .nil (some [10,13,16,19,22]) .nil) none .nil)))⟩⟩
section
variable{plank h0 l0 u0 h1 l1 u1 h2 l2 u2 h3 l3 u3 h4 l4 u4 two mid:Int}{cp nt ct ns cs nk ck:Nat}{tc sc kc:Array Value}{ot os ok:Option Addr}{V:Prop}{x1 x2 x7 x12 x17 x22 x27 x28:Int}
noncomputable abbrev h29c0(plank h0 l0 u0 h1 l1 u1 h2 l2 u2 h3 l3 u3 h4 l4 u4:Int)(cp nt ct ns cs nk ck:Nat)(tc sc kc:Array Value)(ot os ok:Option Addr)(V:Prop):List Ct:=[⟨10,fun _ _=>[],4,fun _=>L4 (pc5 h0 l0 u0 h1 l1 u1 h2 l2 u2 h3 l3 u3 h4 l4 u4) tc sc kc,fun _=>⟨[(bv 5 plank cp ot nt ct os ns cs)]⟩,fun _=>True,fun _ x=>(x=0→V),fun x=>.int .i64 x⟩,⟨33,fun a _=>[parOf a 1],4,fun _=>L4 (pc5 h0 l0 u0 h1 l1 u1 h2 l2 u2 h3 l3 u3 h4 l4 u4) tc sc kc,fun ps=>⟨[.slice ok nk ck,.int .i64 (ps.headD 0)]⟩,fun _=>True,fun _ x=>(0≤x∧x≤65535),fun x=>.int .i64 x⟩,giC5 h0 l0 u0 h1 l1 u1 h2 l2 u2 h3 l3 u3 h4 l4 u4 plank cp nt ct ns cs tc sc kc ot os]
abbrev h29t0:HT:=.val 8 11 75 (.val 0 10 85 (.val 0 1 86 (.val 0 1 87 (.val 8 11 75 (.val 0 10 85 (.val 0 1 86 (.val 0 1 87 (.br 8 3 90 .no (.br 2 2 94 .no (.val 9 2 106 (.val 7 2 115 (.val 0 1 116 (.br 0 1 117 .no (.val 2 5 121 (.ov 0 4 (.val 0 0 126 (.val 0 1 127 (.br 1 6 130 (.cut 1 3) (.br 0 4 134 (.cut 1 3) (.call 2 6 (.call 1 6 (.val 1 12 162 (.br 0 2 164 (.cut 0 2) .no)))))))))))))))))))))))
abbrev h29t1:HT:=.call 4 6 (.val 5 13 57 (.val 8 11 75 (.val 0 10 85 (.val 0 1 86 (.val 0 1 87 (.br 8 3 90 .no (.br 2 2 94 .no (.val 9 2 106 (.val 7 2 115 (.val 0 1 116 (.br 0 1 117 .no (.val 2 5 121 (.ov 0 4 (.val 0 0 126 (.val 0 1 127 (.br 1 6 130 (.cut 1 3) (.br 0 4 134 (.cut 1 3) .no)))))))))))))))))
abbrev h29t2:HT:=.val 5 5 5 (.br 0 1 6 (.cut 7 3) (.val 0 4 10 (.br 0 1 11 (.cut 7 3) (.val 0 5 16 (.br 0 1 17 (.cut 7 3) (.call 3 3 (.br 0 1 9 .no (.cut 4 3))))))))
abbrev h29t3:HT:=.val 8 11 75 (.val 0 10 85 (.val 0 1 86 (.val 0 1 87 h29t0)))
abbrev h29t4:HT:=.call 4 6 (.val 5 13 57 h29t0)
theorem Tryz.root5_0_t:tx (Tryz.X (h29c0 plank h0 l0 u0 h1 l1 u1 h2 l2 u2 h3 l3 u3 h4 l4 u4 cp nt ct ns cs nk ck tc sc kc ot os ok V)) (fun _=>False) (fun s=>chkB (Tryz.X []) 3 5 s=true) (.val 1 4 16 (.ov 0 0 (.val 0 0 17 (.ov 0 1 (.val 0 0 19 (.spl 0 0 19 0 h29t1 .no)))))) (Tryz.root5_s plank h0 l0 u0 h1 l1 u1 h2 l2 u2 h3 l3 u3 h4 l4 u4 two mid cp nt ct ns cs nk ck tc sc kc ot os ok V x1 x2 x7 x12 x17 x22 x27 x28 0)=(∀x30,x30=wi two→((8:Int)≠0)∧∀x31,x31=wi (Int.tdiv x30 8)→((1:Int)≠0)∧∀x32,x32=Int.tmod x31 1→SP x32 0 (((AE ⟨[(bv 5 plank cp ot nt ct os ns cs),.slice (some ⟨22,0,none⟩) 5 5,.int .i64 0,.int .i64 1]⟩)∧(BE (⟨.cells ⟨[.int .i64 x7,.int .i64 x12,.int .i64 x17,.int .i64 x22,.int .i64 x27]⟩ 3 (0,0),(some 10),false,1⟩:Blk)∧E4 (pc5 h0 l0 u0 h1 l1 u1 h2 l2 u2 h3 l3 u3 h4 l4 u4) tc sc kc)∧((0:Int)≤0∧(0:Int) < 1∧(1:Int)≤4∧0≤x7∧x7≤959∧0≤x12∧x12≤959∧0≤x17∧x17≤959∧0≤x22∧x22≤959∧0≤x27∧x27≤959))∧∀x33:Int,(x33=gs [(h0,x7),(h1,x12),(h2,x17),(h3,x22),(h4,x27)] 0 1)→RK (true) (∀x34,x34=wi (h1 - h0)→∀x35,x35=wi (x12 - x7)→∀x36,x36=wi (x7 - x12)→∀x37,x37=(if x36 > x35 then x36 else x35)→∀x38,x38=wi (x34+x37)→BR (decide (x33 > x38)) (False) (BR (decide (x33 < x34)) (False) (∀x39,x39=wi (x12 - x7)→∀x40,x40=wi (x7 - x12)→∀x41,x41=(if x40 > x39 then x40 else x39)→BR (decide (x33 < x41)) (False) (∀x42,x42=wi mid→((2:Int)≠0)∧∀x43,x43=Int.tmod x42 2→∀x44,x44=wi (0+x43)→BR (decide (x44=0)) ((true=true)) (BR (decide (x44=1)) ((true=true)) (False))))))) (False)):=by kernel_rfl
set_option maxHeartbeats 4000000 in
theorem Tryz.root5_0(hV:V→Pts [(h0,l0,u0),(h1,l1,u1),(h2,l2,u2),(h3,l3,u3),(h4,l4,u4)])(hn:0≤two∧two≤255∧0≤mid∧mid≤255)(hc:∀c∈((h29c0 plank h0 l0 u0 h1 l1 u1 h2 l2 u2 h3 l3 u3 h4 l4 u4 cp nt ct ns cs nk ck tc sc kc ot os ok V):List Ct),CtOk Tryz.prog c)(hB:0≤h0∧h4≤959∧h0 < h1∧h1 < h2∧h2 < h3∧h3 < h4∧0≤x7∧x7≤959∧0≤x12∧x12≤959∧0≤x17∧x17≤959∧0≤x22∧x22≤959∧0≤x27∧x27≤959∧0≤two∧two≤255∧0≤mid∧mid≤255):Runs Tryz.prog (fun s=>chkB (Tryz.X []) 3 5 s=true) (Tryz.root5_s plank h0 l0 u0 h1 l1 u1 h2 l2 u2 h3 l3 u3 h4 l4 u4 two mid cp nt ct ns cs nk ck tc sc kc ot os ok V x1 x2 x7 x12 x17 x22 x27 x28 0):=by
 refine txK_use (Tryz.ok hc) Tryz.root5_0_t ?_
 iterate 5 (first|refine va fun _ _=>?_|refine vs fun _ _ _=>?_|refine vq (by omega) (by omega) fun _ _ _=>?_|refine ⟨by omega,?_⟩)
 refine SP.l (by omega) ?_
 refine ⟨⟨rfl,⟨⟨rfl,rfl⟩,E4i⟩,by omega⟩,fun x33 yG=>⟨rfl,?_⟩⟩
 have hG:=yG
 have e0:=sg_bd h0 x7 h1 x12 (by omega)
 have hS:=yG
 simp [gs] at hS
 iterate 15 (first|refine BR.rr ?_|refine va fun _ _=>?_|refine vs fun _ _ _=>?_|refine vmx fun _ _=>?_|refine ⟨by omega,?_⟩)
 refine BR.mk (fun _=>?_) (fun _=>?_)
 ·
  exact rfl
 refine BR.ll ?_
 exact rfl
theorem Tryz.root5_1_t:∀v0:Prop,v0=(BE (⟨.cells ⟨[.int .i64 x7,.int .i64 x12,.int .i64 x17,.int .i64 x22,.int .i64 x27]⟩ 3 (0,0),(some 10),false,1⟩:Blk)∧E4 (pc5 h0 l0 u0 h1 l1 u1 h2 l2 u2 h3 l3 u3 h4 l4 u4) tc sc kc)→∀v1:Int→Int→Int,v1=gs [(h0,x7),(h1,x12),(h2,x17),(h3,x22),(h4,x27)]→∀v2:Value,v2=(bv 5 plank cp ot nt ct os ns cs)→tx (Tryz.X (h29c0 plank h0 l0 u0 h1 l1 u1 h2 l2 u2 h3 l3 u3 h4 l4 u4 cp nt ct ns cs nk ck tc sc kc ot os ok V)) (fun _=>False) (fun s=>chkB (Tryz.X []) 3 5 s=true) (.val 1 4 16 (.ov 0 0 (.val 0 0 17 (.ov 0 1 (.val 0 0 19 (.spl 0 0 19 0 h29t4 (.spl 0 0 19 1 h29t1 .no))))))) (Tryz.root5_s plank h0 l0 u0 h1 l1 u1 h2 l2 u2 h3 l3 u3 h4 l4 u4 two mid cp nt ct ns cs nk ck tc sc kc ot os ok V x1 x2 x7 x12 x17 x22 x27 x28 1)=(∀x30,x30=wi two→((8:Int)≠0)∧∀x31,x31=wi (Int.tdiv x30 8)→((2:Int)≠0)∧∀x32,x32=Int.tmod x31 2→SP x32 0 (((AE ⟨[v2,.slice (some ⟨22,0,none⟩) 5 5,.int .i64 0,.int .i64 2]⟩)∧v0∧((0:Int)≤0∧(0:Int) < 2∧(2:Int)≤4∧0≤x7∧x7≤959∧0≤x12∧x12≤959∧0≤x17∧x17≤959∧0≤x22∧x22≤959∧0≤x27∧x27≤959))∧∀x33:Int,(x33=v1 0 2)→RK (true) (∀x34,x34=wi (h2 - h0)→∀x35,x35=wi (x12 - x7)→∀x36,x36=wi (x7 - x12)→∀x37,x37=(if x36 > x35 then x36 else x35)→∀x38,x38=wi (x34+x37)→∀x39,x39=wi (x17 - x12)→∀x40,x40=wi (x12 - x17)→∀x41,x41=(if x40 > x39 then x40 else x39)→∀x42,x42=wi (x38+x41)→BR (decide (x33 > x42)) (False) (BR (decide (x33 < x34)) (False) (∀x43,x43=wi (x17 - x7)→∀x44,x44=wi (x7 - x17)→∀x45,x45=(if x44 > x43 then x44 else x43)→BR (decide (x33 < x45)) (False) (∀x46,x46=wi mid→((3:Int)≠0)∧∀x47,x47=Int.tmod x46 3→∀x48,x48=wi (0+x47)→BR (decide (x48=0)) ((true=true)) (BR (decide (x48=2)) ((true=true)) (((AE ⟨[v2,.slice (some ⟨22,0,none⟩) 5 5,.int .i64 0,.int .i64 x48]⟩)∧v0∧((0:Int)≤0∧(0:Int) < x48∧(x48:Int)≤4∧0≤x7∧x7≤959∧0≤x12∧x12≤959∧0≤x17∧x17≤959∧0≤x22∧x22≤959∧0≤x27∧x27≤959))∧∀x49:Int,(x49=v1 0 x48)→RK (true) (((AE ⟨[v2,.slice (some ⟨22,0,none⟩) 5 5,.int .i64 x48,.int .i64 2]⟩)∧v0∧((0:Int)≤x48∧(x48:Int) < 2∧(2:Int)≤4∧0≤x7∧x7≤959∧0≤x12∧x12≤959∧0≤x17∧x17≤959∧0≤x22∧x22≤959∧0≤x27∧x27≤959))∧∀x50:Int,(x50=v1 x48 2)→RK (true) (∀x51,x51=wi (x49+x50)→BR (decide (x51=x33)) ((true=true)) (False)))))))))) (SP x32 1 (((AE ⟨[v2,.slice (some ⟨22,0,none⟩) 5 5,.int .i64 1,.int .i64 2]⟩)∧v0∧((0:Int)≤1∧(1:Int) < 2∧(2:Int)≤4∧0≤x7∧x7≤959∧0≤x12∧x12≤959∧0≤x17∧x17≤959∧0≤x22∧x22≤959∧0≤x27∧x27≤959))∧∀x52:Int,(x52=v1 1 2)→RK (true) (∀x53,x53=wi (h2 - h1)→∀x54,x54=wi (x17 - x12)→∀x55,x55=wi (x12 - x17)→∀x56,x56=(if x55 > x54 then x55 else x54)→∀x57,x57=wi (x53+x56)→BR (decide (x52 > x57)) (False) (BR (decide (x52 < x53)) (False) (∀x58,x58=wi (x17 - x12)→∀x59,x59=wi (x12 - x17)→∀x60,x60=(if x59 > x58 then x59 else x58)→BR (decide (x52 < x60)) (False) (∀x61,x61=wi mid→((2:Int)≠0)∧∀x62,x62=Int.tmod x61 2→∀x63,x63=wi (1+x62)→BR (decide (x63=1)) ((true=true)) (BR (decide (x63=2)) ((true=true)) (False))))))) (False))):=by
 rintro _ rfl _ rfl _ rfl
 kernel_rfl
set_option maxHeartbeats 4000000 in
theorem Tryz.root5_1(hV:V→Pts [(h0,l0,u0),(h1,l1,u1),(h2,l2,u2),(h3,l3,u3),(h4,l4,u4)])(hn:0≤two∧two≤255∧0≤mid∧mid≤255)(hc:∀c∈((h29c0 plank h0 l0 u0 h1 l1 u1 h2 l2 u2 h3 l3 u3 h4 l4 u4 cp nt ct ns cs nk ck tc sc kc ot os ok V):List Ct),CtOk Tryz.prog c)(hB:0≤h0∧h4≤959∧h0 < h1∧h1 < h2∧h2 < h3∧h3 < h4∧0≤x7∧x7≤959∧0≤x12∧x12≤959∧0≤x17∧x17≤959∧0≤x22∧x22≤959∧0≤x27∧x27≤959∧0≤two∧two≤255∧0≤mid∧mid≤255):Runs Tryz.prog (fun s=>chkB (Tryz.X []) 3 5 s=true) (Tryz.root5_s plank h0 l0 u0 h1 l1 u1 h2 l2 u2 h3 l3 u3 h4 l4 u4 two mid cp nt ct ns cs nk ck tc sc kc ot os ok V x1 x2 x7 x12 x17 x22 x27 x28 1):=by
 refine txK_use (Tryz.ok hc) (Tryz.root5_1_t _ rfl _ rfl _ rfl) ?_
 iterate 5 (first|refine va fun _ _=>?_|refine vs fun _ _ _=>?_|refine vq (by omega) (by omega) fun _ _ _=>?_|refine ⟨by omega,?_⟩)
 refine SP.mk (fun _=>?_) (fun _=>?_)
 ·
  refine ⟨⟨rfl,⟨⟨rfl,rfl⟩,E4i⟩,by omega⟩,fun x33 yG=>⟨rfl,?_⟩⟩
  have hG:=yG
  have e0:=sg_bd h0 x7 h1 x12 (by omega)
  have e1:=sg_bd h1 x12 h2 x17 (by omega)
  have hS:=yG
  simp [gs] at hS
  iterate 18 (first|refine BR.rr ?_|refine va fun _ _=>?_|refine vs fun _ _ _=>?_|refine vmx fun _ _=>?_|refine ⟨by omega,?_⟩)
  refine va fun x48 _=>?_
  refine BR.mk (fun _=>?_) (fun _=>?_)
  ·
   exact rfl
  refine BR.mk (fun _=>?_) (fun _=>?_)
  ·
   exact rfl
  refine ⟨⟨rfl,⟨⟨rfl,rfl⟩,E4i⟩,by omega⟩,fun x49 yG=>⟨rfl,?_⟩⟩
  refine ⟨⟨rfl,⟨⟨rfl,rfl⟩,E4i⟩,by omega⟩,fun x50 yG=>⟨rfl,?_⟩⟩
  have hA:=gs_add [(h0,x7),(h1,x12),(h2,x17),(h3,x22),(h4,x27)] 0 x48 2 (by omega) (by omega)
  refine va fun x51 _=>?_
  refine BR.ll ?_
  exact rfl
 refine SP.l (by omega) ?_
 refine ⟨⟨rfl,⟨⟨rfl,rfl⟩,E4i⟩,by omega⟩,fun x52 yG=>⟨rfl,?_⟩⟩
 have hG:=yG
 have e0:=sg_bd h1 x12 h2 x17 (by omega)
 have hS:=yG
 simp [gs] at hS
 iterate 15 (first|refine BR.rr ?_|refine va fun _ _=>?_|refine vs fun _ _ _=>?_|refine vmx fun _ _=>?_|refine ⟨by omega,?_⟩)
 refine BR.mk (fun _=>?_) (fun _=>?_)
 ·
  exact rfl
 refine BR.ll ?_
 exact rfl
theorem Tryz.root5_2_t:∀v0:Prop,v0=(BE (⟨.cells ⟨[.int .i64 x7,.int .i64 x12,.int .i64 x17,.int .i64 x22,.int .i64 x27]⟩ 3 (0,0),(some 10),false,1⟩:Blk)∧E4 (pc5 h0 l0 u0 h1 l1 u1 h2 l2 u2 h3 l3 u3 h4 l4 u4) tc sc kc)→∀v1:Int→Int→Int,v1=gs [(h0,x7),(h1,x12),(h2,x17),(h3,x22),(h4,x27)]→∀v2:Value,v2=(bv 5 plank cp ot nt ct os ns cs)→tx (Tryz.X (h29c0 plank h0 l0 u0 h1 l1 u1 h2 l2 u2 h3 l3 u3 h4 l4 u4 cp nt ct ns cs nk ck tc sc kc ot os ok V)) (fun _=>False) (fun s=>chkB (Tryz.X []) 3 5 s=true) (.val 1 4 16 (.ov 0 0 (.val 0 0 17 (.ov 0 1 (.val 0 0 19 (.spl 0 0 19 0 (.call 4 6 (.val 5 13 57 h29t3)) (.spl 0 0 19 1 h29t4 (.spl 0 0 19 2 h29t1 .no)))))))) (Tryz.root5_s plank h0 l0 u0 h1 l1 u1 h2 l2 u2 h3 l3 u3 h4 l4 u4 two mid cp nt ct ns cs nk ck tc sc kc ot os ok V x1 x2 x7 x12 x17 x22 x27 x28 2)=(∀x30,x30=wi two→((8:Int)≠0)∧∀x31,x31=wi (Int.tdiv x30 8)→((3:Int)≠0)∧∀x32,x32=Int.tmod x31 3→SP x32 0 (((AE ⟨[v2,.slice (some ⟨22,0,none⟩) 5 5,.int .i64 0,.int .i64 3]⟩)∧v0∧((0:Int)≤0∧(0:Int) < 3∧(3:Int)≤4∧0≤x7∧x7≤959∧0≤x12∧x12≤959∧0≤x17∧x17≤959∧0≤x22∧x22≤959∧0≤x27∧x27≤959))∧∀x33:Int,(x33=v1 0 3)→RK (true) (∀x34,x34=wi (h3 - h0)→∀x35,x35=wi (x12 - x7)→∀x36,x36=wi (x7 - x12)→∀x37,x37=(if x36 > x35 then x36 else x35)→∀x38,x38=wi (x34+x37)→∀x39,x39=wi (x17 - x12)→∀x40,x40=wi (x12 - x17)→∀x41,x41=(if x40 > x39 then x40 else x39)→∀x42,x42=wi (x38+x41)→∀x43,x43=wi (x22 - x17)→∀x44,x44=wi (x17 - x22)→∀x45,x45=(if x44 > x43 then x44 else x43)→∀x46,x46=wi (x42+x45)→BR (decide (x33 > x46)) (False) (BR (decide (x33 < x34)) (False) (∀x47,x47=wi (x22 - x7)→∀x48,x48=wi (x7 - x22)→∀x49,x49=(if x48 > x47 then x48 else x47)→BR (decide (x33 < x49)) (False) (∀x50,x50=wi mid→((4:Int)≠0)∧∀x51,x51=Int.tmod x50 4→∀x52,x52=wi (0+x51)→BR (decide (x52=0)) ((true=true)) (BR (decide (x52=3)) ((true=true)) (((AE ⟨[v2,.slice (some ⟨22,0,none⟩) 5 5,.int .i64 0,.int .i64 x52]⟩)∧v0∧((0:Int)≤0∧(0:Int) < x52∧(x52:Int)≤4∧0≤x7∧x7≤959∧0≤x12∧x12≤959∧0≤x17∧x17≤959∧0≤x22∧x22≤959∧0≤x27∧x27≤959))∧∀x53:Int,(x53=v1 0 x52)→RK (true) (((AE ⟨[v2,.slice (some ⟨22,0,none⟩) 5 5,.int .i64 x52,.int .i64 3]⟩)∧v0∧((0:Int)≤x52∧(x52:Int) < 3∧(3:Int)≤4∧0≤x7∧x7≤959∧0≤x12∧x12≤959∧0≤x17∧x17≤959∧0≤x22∧x22≤959∧0≤x27∧x27≤959))∧∀x54:Int,(x54=v1 x52 3)→RK (true) (∀x55,x55=wi (x53+x54)→BR (decide (x55=x33)) ((true=true)) (False)))))))))) (SP x32 1 (((AE ⟨[v2,.slice (some ⟨22,0,none⟩) 5 5,.int .i64 1,.int .i64 3]⟩)∧v0∧((0:Int)≤1∧(1:Int) < 3∧(3:Int)≤4∧0≤x7∧x7≤959∧0≤x12∧x12≤959∧0≤x17∧x17≤959∧0≤x22∧x22≤959∧0≤x27∧x27≤959))∧∀x56:Int,(x56=v1 1 3)→RK (true) (∀x57,x57=wi (h3 - h1)→∀x58,x58=wi (x17 - x12)→∀x59,x59=wi (x12 - x17)→∀x60,x60=(if x59 > x58 then x59 else x58)→∀x61,x61=wi (x57+x60)→∀x62,x62=wi (x22 - x17)→∀x63,x63=wi (x17 - x22)→∀x64,x64=(if x63 > x62 then x63 else x62)→∀x65,x65=wi (x61+x64)→BR (decide (x56 > x65)) (False) (BR (decide (x56 < x57)) (False) (∀x66,x66=wi (x22 - x12)→∀x67,x67=wi (x12 - x22)→∀x68,x68=(if x67 > x66 then x67 else x66)→BR (decide (x56 < x68)) (False) (∀x69,x69=wi mid→((3:Int)≠0)∧∀x70,x70=Int.tmod x69 3→∀x71,x71=wi (1+x70)→BR (decide (x71=1)) ((true=true)) (BR (decide (x71=3)) ((true=true)) (((AE ⟨[v2,.slice (some ⟨22,0,none⟩) 5 5,.int .i64 1,.int .i64 x71]⟩)∧v0∧((0:Int)≤1∧(1:Int) < x71∧(x71:Int)≤4∧0≤x7∧x7≤959∧0≤x12∧x12≤959∧0≤x17∧x17≤959∧0≤x22∧x22≤959∧0≤x27∧x27≤959))∧∀x72:Int,(x72=v1 1 x71)→RK (true) (((AE ⟨[v2,.slice (some ⟨22,0,none⟩) 5 5,.int .i64 x71,.int .i64 3]⟩)∧v0∧((0:Int)≤x71∧(x71:Int) < 3∧(3:Int)≤4∧0≤x7∧x7≤959∧0≤x12∧x12≤959∧0≤x17∧x17≤959∧0≤x22∧x22≤959∧0≤x27∧x27≤959))∧∀x73:Int,(x73=v1 x71 3)→RK (true) (∀x74,x74=wi (x72+x73)→BR (decide (x74=x56)) ((true=true)) (False)))))))))) (SP x32 2 (((AE ⟨[v2,.slice (some ⟨22,0,none⟩) 5 5,.int .i64 2,.int .i64 3]⟩)∧v0∧((0:Int)≤2∧(2:Int) < 3∧(3:Int)≤4∧0≤x7∧x7≤959∧0≤x12∧x12≤959∧0≤x17∧x17≤959∧0≤x22∧x22≤959∧0≤x27∧x27≤959))∧∀x75:Int,(x75=v1 2 3)→RK (true) (∀x76,x76=wi (h3 - h2)→∀x77,x77=wi (x22 - x17)→∀x78,x78=wi (x17 - x22)→∀x79,x79=(if x78 > x77 then x78 else x77)→∀x80,x80=wi (x76+x79)→BR (decide (x75 > x80)) (False) (BR (decide (x75 < x76)) (False) (∀x81,x81=wi (x22 - x17)→∀x82,x82=wi (x17 - x22)→∀x83,x83=(if x82 > x81 then x82 else x81)→BR (decide (x75 < x83)) (False) (∀x84,x84=wi mid→((2:Int)≠0)∧∀x85,x85=Int.tmod x84 2→∀x86,x86=wi (2+x85)→BR (decide (x86=2)) ((true=true)) (BR (decide (x86=3)) ((true=true)) (False))))))) (False)))):=by
 rintro _ rfl _ rfl _ rfl
 kernel_rfl
set_option maxHeartbeats 4000000 in
theorem Tryz.root5_2(hV:V→Pts [(h0,l0,u0),(h1,l1,u1),(h2,l2,u2),(h3,l3,u3),(h4,l4,u4)])(hn:0≤two∧two≤255∧0≤mid∧mid≤255)(hc:∀c∈((h29c0 plank h0 l0 u0 h1 l1 u1 h2 l2 u2 h3 l3 u3 h4 l4 u4 cp nt ct ns cs nk ck tc sc kc ot os ok V):List Ct),CtOk Tryz.prog c)(hB:0≤h0∧h4≤959∧h0 < h1∧h1 < h2∧h2 < h3∧h3 < h4∧0≤x7∧x7≤959∧0≤x12∧x12≤959∧0≤x17∧x17≤959∧0≤x22∧x22≤959∧0≤x27∧x27≤959∧0≤two∧two≤255∧0≤mid∧mid≤255):Runs Tryz.prog (fun s=>chkB (Tryz.X []) 3 5 s=true) (Tryz.root5_s plank h0 l0 u0 h1 l1 u1 h2 l2 u2 h3 l3 u3 h4 l4 u4 two mid cp nt ct ns cs nk ck tc sc kc ot os ok V x1 x2 x7 x12 x17 x22 x27 x28 2):=by
 refine txK_use (Tryz.ok hc) (Tryz.root5_2_t _ rfl _ rfl _ rfl) ?_
 iterate 5 (first|refine va fun _ _=>?_|refine vs fun _ _ _=>?_|refine vq (by omega) (by omega) fun _ _ _=>?_|refine ⟨by omega,?_⟩)
 refine SP.mk (fun _=>?_) (fun _=>?_)
 ·
  refine ⟨⟨rfl,⟨⟨rfl,rfl⟩,E4i⟩,by omega⟩,fun x33 yG=>⟨rfl,?_⟩⟩
  have hG:=yG
  have e0:=sg_bd h0 x7 h1 x12 (by omega)
  have e1:=sg_bd h1 x12 h2 x17 (by omega)
  have e2:=sg_bd h2 x17 h3 x22 (by omega)
  have hS:=yG
  simp [gs] at hS
  iterate 22 (first|refine BR.rr ?_|refine va fun _ _=>?_|refine vs fun _ _ _=>?_|refine vmx fun _ _=>?_|refine ⟨by omega,?_⟩)
  refine va fun x52 _=>?_
  refine BR.mk (fun _=>?_) (fun _=>?_)
  ·
   exact rfl
  refine BR.mk (fun _=>?_) (fun _=>?_)
  ·
   exact rfl
  refine ⟨⟨rfl,⟨⟨rfl,rfl⟩,E4i⟩,by omega⟩,fun x53 yG=>⟨rfl,?_⟩⟩
  refine ⟨⟨rfl,⟨⟨rfl,rfl⟩,E4i⟩,by omega⟩,fun x54 yG=>⟨rfl,?_⟩⟩
  have hA:=gs_add [(h0,x7),(h1,x12),(h2,x17),(h3,x22),(h4,x27)] 0 x52 3 (by omega) (by omega)
  refine va fun x55 _=>?_
  refine BR.ll ?_
  exact rfl
 refine SP.mk (fun _=>?_) (fun _=>?_)
 ·
  refine ⟨⟨rfl,⟨⟨rfl,rfl⟩,E4i⟩,by omega⟩,fun x56 yG=>⟨rfl,?_⟩⟩
  have hG:=yG
  have e0:=sg_bd h1 x12 h2 x17 (by omega)
  have e1:=sg_bd h2 x17 h3 x22 (by omega)
  have hS:=yG
  simp [gs] at hS
  iterate 18 (first|refine BR.rr ?_|refine va fun _ _=>?_|refine vs fun _ _ _=>?_|refine vmx fun _ _=>?_|refine ⟨by omega,?_⟩)
  refine va fun x71 _=>?_
  refine BR.mk (fun _=>?_) (fun _=>?_)
  ·
   exact rfl
  refine BR.mk (fun _=>?_) (fun _=>?_)
  ·
   exact rfl
  refine ⟨⟨rfl,⟨⟨rfl,rfl⟩,E4i⟩,by omega⟩,fun x72 yG=>⟨rfl,?_⟩⟩
  refine ⟨⟨rfl,⟨⟨rfl,rfl⟩,E4i⟩,by omega⟩,fun x73 yG=>⟨rfl,?_⟩⟩
  have hA:=gs_add [(h0,x7),(h1,x12),(h2,x17),(h3,x22),(h4,x27)] 1 x71 3 (by omega) (by omega)
  refine va fun x74 _=>?_
  refine BR.ll ?_
  exact rfl
 refine SP.l (by omega) ?_
 refine ⟨⟨rfl,⟨⟨rfl,rfl⟩,E4i⟩,by omega⟩,fun x75 yG=>⟨rfl,?_⟩⟩
 have hG:=yG
 have e0:=sg_bd h2 x17 h3 x22 (by omega)
 have hS:=yG
 simp [gs] at hS
 iterate 15 (first|refine BR.rr ?_|refine va fun _ _=>?_|refine vs fun _ _ _=>?_|refine vmx fun _ _=>?_|refine ⟨by omega,?_⟩)
 refine BR.mk (fun _=>?_) (fun _=>?_)
 ·
  exact rfl
 refine BR.ll ?_
 exact rfl
theorem Tryz.root5_3_t:∀v0:Prop,v0=(BE (⟨.cells ⟨[.int .i64 x7,.int .i64 x12,.int .i64 x17,.int .i64 x22,.int .i64 x27]⟩ 3 (0,0),(some 10),false,1⟩:Blk)∧E4 (pc5 h0 l0 u0 h1 l1 u1 h2 l2 u2 h3 l3 u3 h4 l4 u4) tc sc kc)→∀v1:Int→Int→Int,v1=gs [(h0,x7),(h1,x12),(h2,x17),(h3,x22),(h4,x27)]→∀v2:Value,v2=(bv 5 plank cp ot nt ct os ns cs)→tx (Tryz.X (h29c0 plank h0 l0 u0 h1 l1 u1 h2 l2 u2 h3 l3 u3 h4 l4 u4 cp nt ct ns cs nk ck tc sc kc ot os ok V)) (fun _=>False) (fun s=>chkB (Tryz.X []) 3 5 s=true) (.val 1 4 16 (.ov 0 0 (.val 0 0 17 (.ov 0 1 (.val 0 0 19 (.spl 0 0 19 0 (.call 4 6 (.val 5 13 57 (.val 8 11 75 (.val 0 10 85 (.val 0 1 86 (.val 0 1 87 h29t3)))))) (.spl 0 0 19 1 (.call 4 6 (.val 5 13 57 h29t3)) (.spl 0 0 19 2 h29t4 (.spl 0 0 19 3 h29t1 .no))))))))) (Tryz.root5_s plank h0 l0 u0 h1 l1 u1 h2 l2 u2 h3 l3 u3 h4 l4 u4 two mid cp nt ct ns cs nk ck tc sc kc ot os ok V x1 x2 x7 x12 x17 x22 x27 x28 3)=(∀x30,x30=wi two→((8:Int)≠0)∧∀x31,x31=wi (Int.tdiv x30 8)→((4:Int)≠0)∧∀x32,x32=Int.tmod x31 4→SP x32 0 (((AE ⟨[v2,.slice (some ⟨22,0,none⟩) 5 5,.int .i64 0,.int .i64 4]⟩)∧v0∧((0:Int)≤0∧(0:Int) < 4∧(4:Int)≤4∧0≤x7∧x7≤959∧0≤x12∧x12≤959∧0≤x17∧x17≤959∧0≤x22∧x22≤959∧0≤x27∧x27≤959))∧∀x33:Int,(x33=v1 0 4)→RK (true) (∀x34,x34=wi (h4 - h0)→∀x35,x35=wi (x12 - x7)→∀x36,x36=wi (x7 - x12)→∀x37,x37=(if x36 > x35 then x36 else x35)→∀x38,x38=wi (x34+x37)→∀x39,x39=wi (x17 - x12)→∀x40,x40=wi (x12 - x17)→∀x41,x41=(if x40 > x39 then x40 else x39)→∀x42,x42=wi (x38+x41)→∀x43,x43=wi (x22 - x17)→∀x44,x44=wi (x17 - x22)→∀x45,x45=(if x44 > x43 then x44 else x43)→∀x46,x46=wi (x42+x45)→∀x47,x47=wi (x27 - x22)→∀x48,x48=wi (x22 - x27)→∀x49,x49=(if x48 > x47 then x48 else x47)→∀x50,x50=wi (x46+x49)→BR (decide (x33 > x50)) (False) (BR (decide (x33 < x34)) (False) (∀x51,x51=wi (x27 - x7)→∀x52,x52=wi (x7 - x27)→∀x53,x53=(if x52 > x51 then x52 else x51)→BR (decide (x33 < x53)) (False) (∀x54,x54=wi mid→((5:Int)≠0)∧∀x55,x55=Int.tmod x54 5→∀x56,x56=wi (0+x55)→BR (decide (x56=0)) ((true=true)) (BR (decide (x56=4)) ((true=true)) (((AE ⟨[v2,.slice (some ⟨22,0,none⟩) 5 5,.int .i64 0,.int .i64 x56]⟩)∧v0∧((0:Int)≤0∧(0:Int) < x56∧(x56:Int)≤4∧0≤x7∧x7≤959∧0≤x12∧x12≤959∧0≤x17∧x17≤959∧0≤x22∧x22≤959∧0≤x27∧x27≤959))∧∀x57:Int,(x57=v1 0 x56)→RK (true) (((AE ⟨[v2,.slice (some ⟨22,0,none⟩) 5 5,.int .i64 x56,.int .i64 4]⟩)∧v0∧((0:Int)≤x56∧(x56:Int) < 4∧(4:Int)≤4∧0≤x7∧x7≤959∧0≤x12∧x12≤959∧0≤x17∧x17≤959∧0≤x22∧x22≤959∧0≤x27∧x27≤959))∧∀x58:Int,(x58=v1 x56 4)→RK (true) (∀x59,x59=wi (x57+x58)→BR (decide (x59=x33)) ((true=true)) (False)))))))))) (SP x32 1 (((AE ⟨[v2,.slice (some ⟨22,0,none⟩) 5 5,.int .i64 1,.int .i64 4]⟩)∧v0∧((0:Int)≤1∧(1:Int) < 4∧(4:Int)≤4∧0≤x7∧x7≤959∧0≤x12∧x12≤959∧0≤x17∧x17≤959∧0≤x22∧x22≤959∧0≤x27∧x27≤959))∧∀x60:Int,(x60=v1 1 4)→RK (true) (∀x61,x61=wi (h4 - h1)→∀x62,x62=wi (x17 - x12)→∀x63,x63=wi (x12 - x17)→∀x64,x64=(if x63 > x62 then x63 else x62)→∀x65,x65=wi (x61+x64)→∀x66,x66=wi (x22 - x17)→∀x67,x67=wi (x17 - x22)→∀x68,x68=(if x67 > x66 then x67 else x66)→∀x69,x69=wi (x65+x68)→∀x70,x70=wi (x27 - x22)→∀x71,x71=wi (x22 - x27)→∀x72,x72=(if x71 > x70 then x71 else x70)→∀x73,x73=wi (x69+x72)→BR (decide (x60 > x73)) (False) (BR (decide (x60 < x61)) (False) (∀x74,x74=wi (x27 - x12)→∀x75,x75=wi (x12 - x27)→∀x76,x76=(if x75 > x74 then x75 else x74)→BR (decide (x60 < x76)) (False) (∀x77,x77=wi mid→((4:Int)≠0)∧∀x78,x78=Int.tmod x77 4→∀x79,x79=wi (1+x78)→BR (decide (x79=1)) ((true=true)) (BR (decide (x79=4)) ((true=true)) (((AE ⟨[v2,.slice (some ⟨22,0,none⟩) 5 5,.int .i64 1,.int .i64 x79]⟩)∧v0∧((0:Int)≤1∧(1:Int) < x79∧(x79:Int)≤4∧0≤x7∧x7≤959∧0≤x12∧x12≤959∧0≤x17∧x17≤959∧0≤x22∧x22≤959∧0≤x27∧x27≤959))∧∀x80:Int,(x80=v1 1 x79)→RK (true) (((AE ⟨[v2,.slice (some ⟨22,0,none⟩) 5 5,.int .i64 x79,.int .i64 4]⟩)∧v0∧((0:Int)≤x79∧(x79:Int) < 4∧(4:Int)≤4∧0≤x7∧x7≤959∧0≤x12∧x12≤959∧0≤x17∧x17≤959∧0≤x22∧x22≤959∧0≤x27∧x27≤959))∧∀x81:Int,(x81=v1 x79 4)→RK (true) (∀x82,x82=wi (x80+x81)→BR (decide (x82=x60)) ((true=true)) (False)))))))))) (SP x32 2 (((AE ⟨[v2,.slice (some ⟨22,0,none⟩) 5 5,.int .i64 2,.int .i64 4]⟩)∧v0∧((0:Int)≤2∧(2:Int) < 4∧(4:Int)≤4∧0≤x7∧x7≤959∧0≤x12∧x12≤959∧0≤x17∧x17≤959∧0≤x22∧x22≤959∧0≤x27∧x27≤959))∧∀x83:Int,(x83=v1 2 4)→RK (true) (∀x84,x84=wi (h4 - h2)→∀x85,x85=wi (x22 - x17)→∀x86,x86=wi (x17 - x22)→∀x87,x87=(if x86 > x85 then x86 else x85)→∀x88,x88=wi (x84+x87)→∀x89,x89=wi (x27 - x22)→∀x90,x90=wi (x22 - x27)→∀x91,x91=(if x90 > x89 then x90 else x89)→∀x92,x92=wi (x88+x91)→BR (decide (x83 > x92)) (False) (BR (decide (x83 < x84)) (False) (∀x93,x93=wi (x27 - x17)→∀x94,x94=wi (x17 - x27)→∀x95,x95=(if x94 > x93 then x94 else x93)→BR (decide (x83 < x95)) (False) (∀x96,x96=wi mid→((3:Int)≠0)∧∀x97,x97=Int.tmod x96 3→∀x98,x98=wi (2+x97)→BR (decide (x98=2)) ((true=true)) (BR (decide (x98=4)) ((true=true)) (((AE ⟨[v2,.slice (some ⟨22,0,none⟩) 5 5,.int .i64 2,.int .i64 x98]⟩)∧v0∧((0:Int)≤2∧(2:Int) < x98∧(x98:Int)≤4∧0≤x7∧x7≤959∧0≤x12∧x12≤959∧0≤x17∧x17≤959∧0≤x22∧x22≤959∧0≤x27∧x27≤959))∧∀x99:Int,(x99=v1 2 x98)→RK (true) (((AE ⟨[v2,.slice (some ⟨22,0,none⟩) 5 5,.int .i64 x98,.int .i64 4]⟩)∧v0∧((0:Int)≤x98∧(x98:Int) < 4∧(4:Int)≤4∧0≤x7∧x7≤959∧0≤x12∧x12≤959∧0≤x17∧x17≤959∧0≤x22∧x22≤959∧0≤x27∧x27≤959))∧∀x100:Int,(x100=v1 x98 4)→RK (true) (∀x101,x101=wi (x99+x100)→BR (decide (x101=x83)) ((true=true)) (False)))))))))) (SP x32 3 (((AE ⟨[v2,.slice (some ⟨22,0,none⟩) 5 5,.int .i64 3,.int .i64 4]⟩)∧v0∧((0:Int)≤3∧(3:Int) < 4∧(4:Int)≤4∧0≤x7∧x7≤959∧0≤x12∧x12≤959∧0≤x17∧x17≤959∧0≤x22∧x22≤959∧0≤x27∧x27≤959))∧∀x102:Int,(x102=v1 3 4)→RK (true) (∀x103,x103=wi (h4 - h3)→∀x104,x104=wi (x27 - x22)→∀x105,x105=wi (x22 - x27)→∀x106,x106=(if x105 > x104 then x105 else x104)→∀x107,x107=wi (x103+x106)→BR (decide (x102 > x107)) (False) (BR (decide (x102 < x103)) (False) (∀x108,x108=wi (x27 - x22)→∀x109,x109=wi (x22 - x27)→∀x110,x110=(if x109 > x108 then x109 else x108)→BR (decide (x102 < x110)) (False) (∀x111,x111=wi mid→((2:Int)≠0)∧∀x112,x112=Int.tmod x111 2→∀x113,x113=wi (3+x112)→BR (decide (x113=3)) ((true=true)) (BR (decide (x113=4)) ((true=true)) (False))))))) (False))))):=by
 rintro _ rfl _ rfl _ rfl
 kernel_rfl
set_option maxHeartbeats 4000000 in
theorem Tryz.root5_3(hV:V→Pts [(h0,l0,u0),(h1,l1,u1),(h2,l2,u2),(h3,l3,u3),(h4,l4,u4)])(hn:0≤two∧two≤255∧0≤mid∧mid≤255)(hc:∀c∈((h29c0 plank h0 l0 u0 h1 l1 u1 h2 l2 u2 h3 l3 u3 h4 l4 u4 cp nt ct ns cs nk ck tc sc kc ot os ok V):List Ct),CtOk Tryz.prog c)(hB:0≤h0∧h4≤959∧h0 < h1∧h1 < h2∧h2 < h3∧h3 < h4∧0≤x7∧x7≤959∧0≤x12∧x12≤959∧0≤x17∧x17≤959∧0≤x22∧x22≤959∧0≤x27∧x27≤959∧0≤two∧two≤255∧0≤mid∧mid≤255):Runs Tryz.prog (fun s=>chkB (Tryz.X []) 3 5 s=true) (Tryz.root5_s plank h0 l0 u0 h1 l1 u1 h2 l2 u2 h3 l3 u3 h4 l4 u4 two mid cp nt ct ns cs nk ck tc sc kc ot os ok V x1 x2 x7 x12 x17 x22 x27 x28 3):=by
 refine txK_use (Tryz.ok hc) (Tryz.root5_3_t _ rfl _ rfl _ rfl) ?_
 iterate 5 (first|refine va fun _ _=>?_|refine vs fun _ _ _=>?_|refine vq (by omega) (by omega) fun _ _ _=>?_|refine ⟨by omega,?_⟩)
 refine SP.mk (fun _=>?_) (fun _=>?_)
 ·
  refine ⟨⟨rfl,⟨⟨rfl,rfl⟩,E4i⟩,by omega⟩,fun x33 yG=>⟨rfl,?_⟩⟩
  have hG:=yG
  have e0:=sg_bd h0 x7 h1 x12 (by omega)
  have e1:=sg_bd h1 x12 h2 x17 (by omega)
  have e2:=sg_bd h2 x17 h3 x22 (by omega)
  have e3:=sg_bd h3 x22 h4 x27 (by omega)
  have hS:=yG
  simp [gs] at hS
  iterate 26 (first|refine BR.rr ?_|refine va fun _ _=>?_|refine vs fun _ _ _=>?_|refine vmx fun _ _=>?_|refine ⟨by omega,?_⟩)
  refine va fun x56 _=>?_
  refine BR.mk (fun _=>?_) (fun _=>?_)
  ·
   exact rfl
  refine BR.mk (fun _=>?_) (fun _=>?_)
  ·
   exact rfl
  refine ⟨⟨rfl,⟨⟨rfl,rfl⟩,E4i⟩,by omega⟩,fun x57 yG=>⟨rfl,?_⟩⟩
  refine ⟨⟨rfl,⟨⟨rfl,rfl⟩,E4i⟩,by omega⟩,fun x58 yG=>⟨rfl,?_⟩⟩
  have hA:=gs_add [(h0,x7),(h1,x12),(h2,x17),(h3,x22),(h4,x27)] 0 x56 4 (by omega) (by omega)
  refine va fun x59 _=>?_
  refine BR.ll ?_
  exact rfl
 refine SP.mk (fun _=>?_) (fun _=>?_)
 ·
  refine ⟨⟨rfl,⟨⟨rfl,rfl⟩,E4i⟩,by omega⟩,fun x60 yG=>⟨rfl,?_⟩⟩
  have hG:=yG
  have e0:=sg_bd h1 x12 h2 x17 (by omega)
  have e1:=sg_bd h2 x17 h3 x22 (by omega)
  have e2:=sg_bd h3 x22 h4 x27 (by omega)
  have hS:=yG
  simp [gs] at hS
  iterate 22 (first|refine BR.rr ?_|refine va fun _ _=>?_|refine vs fun _ _ _=>?_|refine vmx fun _ _=>?_|refine ⟨by omega,?_⟩)
  refine va fun x79 _=>?_
  refine BR.mk (fun _=>?_) (fun _=>?_)
  ·
   exact rfl
  refine BR.mk (fun _=>?_) (fun _=>?_)
  ·
   exact rfl
  refine ⟨⟨rfl,⟨⟨rfl,rfl⟩,E4i⟩,by omega⟩,fun x80 yG=>⟨rfl,?_⟩⟩
  refine ⟨⟨rfl,⟨⟨rfl,rfl⟩,E4i⟩,by omega⟩,fun x81 yG=>⟨rfl,?_⟩⟩
  have hA:=gs_add [(h0,x7),(h1,x12),(h2,x17),(h3,x22),(h4,x27)] 1 x79 4 (by omega) (by omega)
  refine va fun x82 _=>?_
  refine BR.ll ?_
  exact rfl
 refine SP.mk (fun _=>?_) (fun _=>?_)
 ·
  refine ⟨⟨rfl,⟨⟨rfl,rfl⟩,E4i⟩,by omega⟩,fun x83 yG=>⟨rfl,?_⟩⟩
  have hG:=yG
  have e0:=sg_bd h2 x17 h3 x22 (by omega)
  have e1:=sg_bd h3 x22 h4 x27 (by omega)
  have hS:=yG
  simp [gs] at hS
  iterate 18 (first|refine BR.rr ?_|refine va fun _ _=>?_|refine vs fun _ _ _=>?_|refine vmx fun _ _=>?_|refine ⟨by omega,?_⟩)
  refine va fun x98 _=>?_
  refine BR.mk (fun _=>?_) (fun _=>?_)
  ·
   exact rfl
  refine BR.mk (fun _=>?_) (fun _=>?_)
  ·
   exact rfl
  refine ⟨⟨rfl,⟨⟨rfl,rfl⟩,E4i⟩,by omega⟩,fun x99 yG=>⟨rfl,?_⟩⟩
  refine ⟨⟨rfl,⟨⟨rfl,rfl⟩,E4i⟩,by omega⟩,fun x100 yG=>⟨rfl,?_⟩⟩
  have hA:=gs_add [(h0,x7),(h1,x12),(h2,x17),(h3,x22),(h4,x27)] 2 x98 4 (by omega) (by omega)
  refine va fun x101 _=>?_
  refine BR.ll ?_
  exact rfl
 refine SP.l (by omega) ?_
 refine ⟨⟨rfl,⟨⟨rfl,rfl⟩,E4i⟩,by omega⟩,fun x102 yG=>⟨rfl,?_⟩⟩
 have hG:=yG
 have e0:=sg_bd h3 x22 h4 x27 (by omega)
 have hS:=yG
 simp [gs] at hS
 iterate 15 (first|refine BR.rr ?_|refine va fun _ _=>?_|refine vs fun _ _ _=>?_|refine vmx fun _ _=>?_|refine ⟨by omega,?_⟩)
 refine BR.mk (fun _=>?_) (fun _=>?_)
 ·
  exact rfl
 refine BR.ll ?_
 exact rfl
end
section
variable{plank h0 l0 u0 h1 l1 u1 h2 l2 u2 h3 l3 u3 h4 l4 u4 two mid:Int}{cp nt ct ns cs nk ck:Nat}{tc sc kc:Array Value}{ot os ok:Option Addr}{V:Prop}
theorem Tryz.root5_t:∀v1:Array Value,v1=(pc5 h0 l0 u0 h1 l1 u1 h2 l2 u2 h3 l3 u3 h4 l4 u4)→∀v0:Prop,v0=(E4 v1 tc sc kc)→tx (Tryz.X (h29c0 plank h0 l0 u0 h1 l1 u1 h2 l2 u2 h3 l3 u3 h4 l4 u4 cp nt ct ns cs nk ck tc sc kc ot os ok V)) (fun _=>False) (fun s=>KC (Tryz.X []) 3 5 7 s) (.val 5 10 10 (.br 0 1 11 (.cut 7 3) (.val 0 5 16 (.br 0 1 17 (.cut 7 3) (.call 3 3 (.br 0 1 9 (.call 14 9 (.val 4 8 12 (.val 0 1 13 (.ov 0 0 (.val 0 0 14 (.val 0 1 15 (.rk 2 1 (.call 8 9 (.val 4 8 12 (.val 0 1 13 (.ov 0 0 (.val 0 0 14 (.val 0 1 15 (.rk 2 1 (.call 8 9 (.val 4 8 12 (.val 0 1 13 (.ov 0 0 (.val 0 0 14 (.val 0 1 15 (.rk 2 1 (.call 8 9 (.val 4 8 12 (.val 0 1 13 (.ov 0 0 (.val 0 0 14 (.val 0 1 15 (.rk 2 1 (.call 8 9 (.val 4 8 12 (.val 0 1 13 (.ov 0 0 (.val 0 0 14 (.val 0 1 15 (.rk 2 1 (.val 11 4 8 (.ov 0 4 (.val 0 0 13 (.spl 0 0 13 0 (.cut 0 0) (.spl 0 0 13 1 (.cut 0 0) (.spl 0 0 13 2 (.cut 0 0) (.spl 0 0 13 3 (.cut 0 0) .no)))))))))))))))))))))))))))))))))))))))))) (.cut 4 3))))))) ⟨AFr.enter Tryz.prog 3 ⟨[(bv 5 plank cp ot nt ct os ns cs),.slice ok nk ck,.int .u8 two,.int .u8 mid]⟩,[],hOf 4 (L4 v1 tc sc kc)⟩=(∀x0,x0=((nt:Nat):Int)→BR (decide (x0 > 20)) ((true=true)) (∀x1,x1=((ns:Nat):Int)→BR (decide (x1 > 20)) ((true=true)) (((AE ⟨[(bv 5 plank cp ot nt ct os ns cs)]⟩)∧v0∧True)∧∀x2:Int,(x2=0→V)→RK (true) (BR (decide (x2=0)) (((AE ⟨[.slice ok nk ck,.int .i64 0]⟩)∧v0∧True)∧∀x3:Int,(0≤x3∧x3≤65535)→RK ((decide (cp=cp) && ((decide (l0=l0) && (decide (u0=u0) && true)) && true))) (∀x4,x4=wi (u0 - l0)→∀x5,x5=wi (x4+1)→((x5:Int)≠0)∧∀x6,x6=Int.tmod x3 x5→∀x7,x7=wi (l0+x6)→RK (((decide (x7=x7) && true) && true)) (((AE ⟨[.slice ok nk ck,.int .i64 1]⟩)∧v0∧True)∧∀x8:Int,(0≤x8∧x8≤65535)→RK ((decide (cp=cp) && ((decide (l1=l1) && (decide (u1=u1) && true)) && true))) (∀x9,x9=wi (u1 - l1)→∀x10,x10=wi (x9+1)→((x10:Int)≠0)∧∀x11,x11=Int.tmod x8 x10→∀x12,x12=wi (l1+x11)→RK (((decide (x12=x12) && true) && true)) (((AE ⟨[.slice ok nk ck,.int .i64 2]⟩)∧v0∧True)∧∀x13:Int,(0≤x13∧x13≤65535)→RK ((decide (cp=cp) && ((decide (l2=l2) && (decide (u2=u2) && true)) && true))) (∀x14,x14=wi (u2 - l2)→∀x15,x15=wi (x14+1)→((x15:Int)≠0)∧∀x16,x16=Int.tmod x13 x15→∀x17,x17=wi (l2+x16)→RK (((decide (x17=x17) && true) && true)) (((AE ⟨[.slice ok nk ck,.int .i64 3]⟩)∧v0∧True)∧∀x18:Int,(0≤x18∧x18≤65535)→RK ((decide (cp=cp) && ((decide (l3=l3) && (decide (u3=u3) && true)) && true))) (∀x19,x19=wi (u3 - l3)→∀x20,x20=wi (x19+1)→((x20:Int)≠0)∧∀x21,x21=Int.tmod x18 x20→∀x22,x22=wi (l3+x21)→RK (((decide (x22=x22) && true) && true)) (((AE ⟨[.slice ok nk ck,.int .i64 4]⟩)∧v0∧True)∧∀x23:Int,(0≤x23∧x23≤65535)→RK ((decide (cp=cp) && ((decide (l4=l4) && (decide (u4=u4) && true)) && true))) (∀x24,x24=wi (u4 - l4)→∀x25,x25=wi (x24+1)→((x25:Int)≠0)∧∀x26,x26=Int.tmod x23 x25→∀x27,x27=wi (l4+x26)→RK (((decide (x27=x27) && true) && true)) (∀x28,x28=wi two→((4:Int)≠0)∧∀x29,x29=Int.tmod x28 4→SP x29 0 ((Runs Tryz.prog (fun s=>chkB (Tryz.X []) 3 5 s=true) (Tryz.root5_s plank h0 l0 u0 h1 l1 u1 h2 l2 u2 h3 l3 u3 h4 l4 u4 two mid cp nt ct ns cs nk ck tc sc kc ot os ok V x1 x2 x7 x12 x17 x22 x27 x28 0))) (SP x29 1 ((Runs Tryz.prog (fun s=>chkB (Tryz.X []) 3 5 s=true) (Tryz.root5_s plank h0 l0 u0 h1 l1 u1 h2 l2 u2 h3 l3 u3 h4 l4 u4 two mid cp nt ct ns cs nk ck tc sc kc ot os ok V x1 x2 x7 x12 x17 x22 x27 x28 1))) (SP x29 2 ((Runs Tryz.prog (fun s=>chkB (Tryz.X []) 3 5 s=true) (Tryz.root5_s plank h0 l0 u0 h1 l1 u1 h2 l2 u2 h3 l3 u3 h4 l4 u4 two mid cp nt ct ns cs nk ck tc sc kc ot os ok V x1 x2 x7 x12 x17 x22 x27 x28 2))) (SP x29 3 ((Runs Tryz.prog (fun s=>chkB (Tryz.X []) 3 5 s=true) (Tryz.root5_s plank h0 l0 u0 h1 l1 u1 h2 l2 u2 h3 l3 u3 h4 l4 u4 two mid cp nt ct ns cs nk ck tc sc kc ot os ok V x1 x2 x7 x12 x17 x22 x27 x28 3))) (False))))))))))))))) ((true=true)))))):=by
 rintro _ rfl _ rfl
 kernel_rfl
set_option maxHeartbeats 4000000 in
theorem Tryz.root5(hV:V→Pts [(h0,l0,u0),(h1,l1,u1),(h2,l2,u2),(h3,l3,u3),(h4,l4,u4)])(hn:0≤two∧two≤255∧0≤mid∧mid≤255)(hc:∀c∈((h29c0 plank h0 l0 u0 h1 l1 u1 h2 l2 u2 h3 l3 u3 h4 l4 u4 cp nt ct ns cs nk ck tc sc kc ot os ok V):List Ct),CtOk Tryz.prog c):Runs Tryz.prog (fun s=>chkB (Tryz.X []) 3 5 s=true) ⟨AFr.enter Tryz.prog 3 ⟨[(bv 5 plank cp ot nt ct os ns cs),.slice ok nk ck,.int .u8 two,.int .u8 mid]⟩,[],hOf 4 (L4 (pc5 h0 l0 u0 h1 l1 u1 h2 l2 u2 h3 l3 u3 h4 l4 u4) tc sc kc)⟩:=by
 refine KC_runs (txK_use (Tryz.ok hc) (Tryz.root5_t _ rfl _ rfl) ?_)
 intro x0 _
 refine BR.mk (fun _=>?_) (fun _=>?_)
 ·
  exact rfl
 intro x1 _
 refine BR.mk (fun _=>?_) (fun _=>?_)
 ·
  exact rfl
 refine ⟨⟨rfl,E4i,trivial⟩,fun x2 yV=>⟨rfl,?_⟩⟩
 refine BR.mk (fun _=>?_) (fun _=>?_)
 ·
  refine ⟨⟨rfl,E4i,trivial⟩,fun x3 _=>⟨by simp,?_⟩⟩
  have hP:=hV (yV (by omega))
  simp only [Pts,PtsF,and_true] at hP
  iterate 6 (first|refine va fun _ _=>?_|refine vs fun _ _ _=>?_|refine ⟨by omega,?_⟩|refine ⟨by simp,?_⟩)
  refine ⟨⟨rfl,E4i,trivial⟩,fun x8 _=>⟨by simp,?_⟩⟩
  iterate 6 (first|refine va fun _ _=>?_|refine vs fun _ _ _=>?_|refine ⟨by omega,?_⟩|refine ⟨by simp,?_⟩)
  refine ⟨⟨rfl,E4i,trivial⟩,fun x13 _=>⟨by simp,?_⟩⟩
  iterate 6 (first|refine va fun _ _=>?_|refine vs fun _ _ _=>?_|refine ⟨by omega,?_⟩|refine ⟨by simp,?_⟩)
  refine ⟨⟨rfl,E4i,trivial⟩,fun x18 _=>⟨by simp,?_⟩⟩
  iterate 6 (first|refine va fun _ _=>?_|refine vs fun _ _ _=>?_|refine ⟨by omega,?_⟩|refine ⟨by simp,?_⟩)
  refine ⟨⟨rfl,E4i,trivial⟩,fun x23 _=>⟨by simp,?_⟩⟩
  iterate 9 (first|refine va fun _ _=>?_|refine vs fun _ _ _=>?_|refine ⟨by omega,?_⟩|refine ⟨by simp,?_⟩)
  refine SP.mk (fun _=>?_) (fun _=>?_)
  ·
   exact Tryz.root5_0 hV hn hc (by omega)
  refine SP.mk (fun _=>?_) (fun _=>?_)
  ·
   exact Tryz.root5_1 hV hn hc (by omega)
  refine SP.mk (fun _=>?_) (fun _=>?_)
  ·
   exact Tryz.root5_2 hV hn hc (by omega)
  refine SP.l (by omega) ?_
  exact Tryz.root5_3 hV hn hc (by omega)
 exact rfl
end
end Go.Am
namespace Go.Am
open Go.Proofs
theorem lfx{x:Int}(h:0≤x∧x≤65535):∀_:AH,∃y:Int,(0≤y∧y≤65535)∧Value.int .i64 x = .int .i64 y:=fun _=>⟨x,h,rfl⟩
def bm(plank:Int)(op:Option Addr)(np cp:Nat)(ot:Option Addr)(nt ct:Nat)(os:Option Addr)(ns cs:Nat):Value:=.agg ⟨[.int .i64 plank,.slice op np cp,.slice ot nt ct,.slice os ns cs]⟩
section
variable{k:Int}{nk ck:Nat}{pc tc sc kc:Array Value}
theorem Tryz.ch_t(Q:Value→Prop)(K:AS→Prop):tx (Tryz.X []) Q K (.br 1 5 6 (.val 0 4 10 (.br 0 1 11 (.ov 1 5 (.lod 0 0 .u16 (.val 0 1 17 (.ret 2 1)))) (.ret 4 1))) (.ret 4 1)) ⟨AFr.enter Tryz.prog 33 ⟨[.slice (some ⟨3,0,none⟩) nk ck,.int .i64 k]⟩,[],hOf 4 (L4 pc tc sc kc)⟩=(BR (decide (k≥0)) (∀x0,x0=((nk:Nat):Int)→BR (decide (k < x0)) (((0:Int)≤k∧k < ((nk:Nat):Int))∧∃x2:Int,nth kc.toList (0+Int.toNat k * 1)=some (.int .u16 x2)∧∀x3,x3=wi x2→Q (.int .i64 x3)) (Q (.int .i64 0))) (Q (.int .i64 0))):=by kernel_rfl
theorem Tryz.ch(hk:∀i:Nat,i < nk→∃x:Int,nth kc.toList i=some (.int .u16 x)∧0≤x∧x≤65535):Rets Tryz.prog (fun v _=>∃x:Int,(0≤x∧x≤65535)∧v = .int .i64 x) ⟨AFr.enter Tryz.prog 33 ⟨[.slice (some ⟨3,0,none⟩) nk ck,.int .i64 k]⟩,[],hOf 4 (L4 pc tc sc kc)⟩:=by
 refine txR_use (Tryz.ok noCt) (Tryz.ch_t _ _) ?_
 refine BR.mk (fun _=>?_) fun _=>lfx (by omega)
 intro x0 _
 refine BR.mk (fun _=>?_) fun _=>lfx (by omega)
 refine ⟨⟨by omega,by omega⟩,?_⟩
 obtain ⟨x2,hx,_,_⟩:=hk (Int.toNat k) (by omega)
 refine ⟨x2,by rw [show 0+Int.toNat k * 1=Int.toNat k by omega];exact hx,?_⟩
 refine va fun x3 _=>?_
 exact lfx (by omega)
end
section
variable{k:Int}{ck:Nat}{pc tc sc kc:Array Value}{ok:Option Addr}
theorem Tryz.ch0_t(Q:Value→Prop)(K:AS→Prop):tx (Tryz.X []) Q K (.br 1 5 6 (.br 0 5 11 .no (.ret 4 1)) (.ret 4 1)) ⟨AFr.enter Tryz.prog 33 ⟨[.slice ok 0 ck,.int .i64 k]⟩,[],hOf 4 (L4 pc tc sc kc)⟩=(BR (decide (k≥0)) (BR (decide (k < 0)) (False) (Q (.int .i64 0))) (Q (.int .i64 0))):=by kernel_rfl
theorem Tryz.ch0:Rets Tryz.prog (fun v _=>∃x:Int,(0≤x∧x≤65535)∧v = .int .i64 x) ⟨AFr.enter Tryz.prog 33 ⟨[.slice ok 0 ck,.int .i64 k]⟩,[],hOf 4 (L4 pc tc sc kc)⟩:=by
 refine txR_use (Tryz.ok noCt) (Tryz.ch0_t _ _) ?_
 refine BR.mk (fun _=>?_) fun _=>lfx (by omega)
 refine BR.rr ?_
 exact lfx (by omega)
end
section
variable{plank:Int}{pv tv sv:Value}
theorem Tryz.cbm_t(Q:Value→Prop)(K:AS→Prop):tx (Tryz.X [⟨38,fun _ _=>[],4,fun _=>[],fun _=>⟨[pv]⟩,fun _=>True,fun _ x=>(¬x=0),fun x=>.int .i64 x⟩]) Q K (.br 3 5 9 (.br 0 4 13 (.call 5 5 (.br 1 4 13 (.ret 3 1) .no)) (.ret 6 1)) (.ret 6 1)) ⟨AFr.enter Tryz.prog 10 ⟨[.agg ⟨[.int .i64 plank,pv,tv,sv]⟩]⟩,[],hOf 4 []⟩=(BR (decide (0≤plank)) (BR (decide (plank≤20)) (((AE ⟨[pv]⟩)∧(True)∧True)∧∀x0:Int,(¬x0=0)→RK (true) (BR (!decide (x0=0)) (Q (.int .i64 x0)) (False))) (Q (.int .i64 1))) (Q (.int .i64 1))):=by kernel_rfl
theorem Tryz.cbm(hc:∀c∈([⟨38,fun _ _=>[],4,fun _=>[],fun _=>⟨[pv]⟩,fun _=>True,fun _ x=>(¬x=0),fun x=>.int .i64 x⟩]:List Ct),CtOk Tryz.prog c):Rets Tryz.prog (fun v _=>∃x:Int,(x=0→False)∧v = .int .i64 x) ⟨AFr.enter Tryz.prog 10 ⟨[.agg ⟨[.int .i64 plank,pv,tv,sv]⟩]⟩,[],hOf 4 []⟩:=by
 refine txR_use (Tryz.ok hc) (Tryz.cbm_t _ _) ?_
 iterate 2 refine BR.mk (fun _=>?_) fun _=>lfn (by omega)
 refine ⟨⟨rfl,trivial,trivial⟩,fun x0 _=>⟨rfl,?_⟩⟩
 refine BR.nl (by omega) ?_
 exact fun _=>⟨_,fun e=>by omega,rfl⟩
end
section
variable{plank two mid:Int}{np cp nt ct ns cs nk ck:Nat}{op ot os ok:Option Addr}
theorem Tryz.rootm_t:∀v0:Value,v0=(bm plank op np cp ot nt ct os ns cs)→tx (Tryz.X [⟨10,fun _ _=>[],4,fun _=>[],fun _=>⟨[v0]⟩,fun _=>True,fun _ x=>(¬x=0),fun x=>.int .i64 x⟩]) (fun _=>False) (fun s=>chkB (Tryz.X []) 3 5 s=true) h29t2 ⟨AFr.enter Tryz.prog 3 ⟨[v0,.slice ok nk ck,.int .u8 two,.int .u8 mid]⟩,[],hOf 4 []⟩=(∀x0,x0=((np:Nat):Int)→BR (decide (x0 > 20)) ((true=true)) (∀x1,x1=((nt:Nat):Int)→BR (decide (x1 > 20)) ((true=true)) (∀x2,x2=((ns:Nat):Int)→BR (decide (x2 > 20)) ((true=true)) (((AE ⟨[v0]⟩)∧(True)∧True)∧∀x3:Int,(¬x3=0)→RK (true) (BR (decide (x3=0)) (False) ((true=true))))))):=by
 rintro _ rfl
 kernel_rfl
set_option maxHeartbeats 4000000 in
theorem Tryz.rootm(hc:∀c∈([⟨10,fun _ _=>[],4,fun _=>[],fun _=>⟨[(bm plank op np cp ot nt ct os ns cs)]⟩,fun _=>True,fun _ x=>(¬x=0),fun x=>.int .i64 x⟩]:List Ct),CtOk Tryz.prog c):Runs Tryz.prog (fun s=>chkB (Tryz.X []) 3 5 s=true) ⟨AFr.enter Tryz.prog 3 ⟨[(bm plank op np cp ot nt ct os ns cs),.slice ok nk ck,.int .u8 two,.int .u8 mid]⟩,[],hOf 4 []⟩:=by
 refine txK_use (Tryz.ok hc) (Tryz.rootm_t _ rfl) ?_
 intro x0 _
 refine BR.mk (fun _=>?_) (fun _=>?_)
 ·
  exact rfl
 intro x1 _
 refine BR.mk (fun _=>?_) (fun _=>?_)
 ·
  exact rfl
 intro x2 _
 refine BR.mk (fun _=>?_) (fun _=>?_)
 ·
  exact rfl
 refine ⟨⟨rfl,trivial,trivial⟩,fun x3 yV=>⟨rfl,?_⟩⟩
 refine BR.rr ?_
 exact rfl
end
section
variable{plank two mid:Int}{np cp nt ct ns cs nk ck:Nat}{op ot os ok:Option Addr}{pc tc sc kc:Array Value}
theorem Tryz.rootv_t:∀v0:Value,v0=(bm plank op np cp ot nt ct os ns cs)→tx (Tryz.X [⟨10,fun _ _=>[],4,fun _=>L4 pc tc sc kc,fun _=>⟨[v0]⟩,fun _=>True,fun _ x=>(¬x=0),fun x=>.int .i64 x⟩]) (fun _=>False) (fun s=>chkB (Tryz.X []) 3 5 s=true) h29t2 ⟨AFr.enter Tryz.prog 3 ⟨[v0,.slice ok nk ck,.int .u8 two,.int .u8 mid]⟩,[],hOf 4 (L4 pc tc sc kc)⟩=(∀x0,x0=((np:Nat):Int)→BR (decide (x0 > 20)) ((true=true)) (∀x1,x1=((nt:Nat):Int)→BR (decide (x1 > 20)) ((true=true)) (∀x2,x2=((ns:Nat):Int)→BR (decide (x2 > 20)) ((true=true)) (((AE ⟨[v0]⟩)∧(E4 pc tc sc kc)∧True)∧∀x3:Int,(¬x3=0)→RK (true) (BR (decide (x3=0)) (False) ((true=true))))))):=by
 rintro _ rfl
 kernel_rfl
set_option maxHeartbeats 4000000 in
theorem Tryz.rootv(hc:∀c∈([⟨10,fun _ _=>[],4,fun _=>L4 pc tc sc kc,fun _=>⟨[(bm plank op np cp ot nt ct os ns cs)]⟩,fun _=>True,fun _ x=>(¬x=0),fun x=>.int .i64 x⟩]:List Ct),CtOk Tryz.prog c):Runs Tryz.prog (fun s=>chkB (Tryz.X []) 3 5 s=true) ⟨AFr.enter Tryz.prog 3 ⟨[(bm plank op np cp ot nt ct os ns cs),.slice ok nk ck,.int .u8 two,.int .u8 mid]⟩,[],hOf 4 (L4 pc tc sc kc)⟩:=by
 refine txK_use (Tryz.ok hc) (Tryz.rootv_t _ rfl) ?_
 intro x0 _
 refine BR.mk (fun _=>?_) (fun _=>?_)
 ·
  exact rfl
 intro x1 _
 refine BR.mk (fun _=>?_) (fun _=>?_)
 ·
  exact rfl
 intro x2 _
 refine BR.mk (fun _=>?_) (fun _=>?_)
 ·
  exact rfl
 refine ⟨⟨rfl,E4i,trivial⟩,fun x3 yV=>⟨rfl,?_⟩⟩
 refine BR.rr ?_
 exact rfl
end
end Go.Am
