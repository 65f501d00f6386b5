import Derived.Test.YtgdedcgpgmigaaaGreatH27
set_option linter.unusedVariables false
set_option linter.unusedSectionVars false
set_option linter.unusedSimpArgs false
namespace Go.Am
open Go.Proofs
noncomputable def Tryz.root4_s(plank h0 l0 u0 h1 l1 u1 h2 l2 u2 h3 l3 u3 two mid:Int)(cp nt ct ns cs nk ck:Nat)(tc sc kc:Array Value)(ot os ok:Option Addr)(V:Prop)(x1 x2 x7 x12 x17 x22 x23:Int)(kk:Int):AS:=⟨⟨7,⟨[(bv 4 plank cp ot nt ct os ns cs),.int .u8 two,.pointer (some ⟨20,0,none⟩),ud,.int .i64 (.ofNat 0),.int .i64 (.ofNat 0),ud,.int .u8 two,.int .i64 x23,.pointer (some ⟨20,1,none⟩),.slice (some ⟨0,0,none⟩) 4 cp,.int .i64 (.ofNat 4),.int .i64 (.ofNat 3),.int .i64 kk,ud,ud,ud,ud,ud,ud,ud]⟩,[.region (opsAt 7 [1,0]) [7,8],.code (at_ 7 [1,1])],[],false,none,false⟩,[⟨3,⟨[(bv 4 plank cp ot nt ct os ns cs),.slice ok nk ck,.int .u8 two,.int .u8 mid,.pointer (some ⟨4,0,none⟩),ud,ud,ud,.bool false,.slice (some ⟨19,0,none⟩) 4 4]++ur 12++[(bv 4 plank cp ot nt ct os ns cs),.bool true,.bool false,ud,(bv 4 plank cp ot nt ct os ns cs),.slice ok nk ck,.slice (some ⟨19,0,none⟩) 4 4,ud,(bv 4 plank cp ot nt ct os ns cs),.int .u8 two]++ur 137⟩,[.region (opsAt 3 [1,1,1,0]) [2,3,4,5,6,7],.code (at_ 3 [1,1,1,1])],[],false,none,false⟩],⟨21,(.node (.node (.node (.node (.node .nil (some ⟨(.cells ⟨[.int .i64 x17]⟩ 3 (0,0)),none,false,0⟩) .nil) (some ⟨(.cells ⟨[.int .i64 plank,.slice (some ⟨0,0,none⟩) 4 cp,.slice ot nt ct,.slice os ns cs]⟩ 26 (0,0)),none,false,0⟩) .nil) (some ⟨.cells kc 0 (0,0),none,true,1⟩) (.node (.node .nil (some ⟨(.cells ⟨[.int .i64 x7,.int .i64 x12,.int .i64 x17,.int .i64 x22]⟩ 3 (0,0)),(some 10),false,1⟩) .nil) (some ⟨(.cells ⟨[.int .i64 l1,.int .i64 u1]⟩ 38 (0,0)),none,false,0⟩) .nil)) (some ⟨.cells tc 0 (0,0),none,true,1⟩) (.node (.node (.node .nil (some ⟨(.cells ⟨[.int .i64 l3,.int .i64 u3]⟩ 38 (0,0)),none,false,0⟩) .nil) (some ⟨(.cells ⟨[.int .i64 x7]⟩ 3 (0,0)),none,false,0⟩) .nil) (some ⟨(.cells ⟨[.int .i64 plank,.slice (some ⟨0,0,none⟩) 4 cp,.slice ot nt ct,.slice os ns cs]⟩ 26 (0,0)),none,false,0⟩) (.node .nil (some ⟨(.cells ⟨[.int .i64 x7,.int .i64 x12]⟩ 3 (0,0)),(some 10),false,1⟩) .nil))) (some ⟨.cells (pc4 h0 l0 u0 h1 l1 u1 h2 l2 u2 h3 l3 u3) 0 (0,0),none,true,1⟩) (.node (.node (.node (.node .nil (some ⟨(.cells ⟨[.int .i64 x7,.int .i64 x12,.int .i64 x17]⟩ 3 (0,0)),(some 10),false,1⟩) .nil) (some ⟨(.cells ⟨[.int .i64 l0,.int .i64 u0]⟩ 38 (0,0)),none,false,0⟩) .nil) (some ⟨(.cells ⟨[.int .i64 plank,.slice (some ⟨0,0,none⟩) 4 cp,.slice ot nt ct,.slice os ns cs]⟩ 26 (0,0)),none,false,0⟩) (.node (.node .nil (some ⟨(.cells ⟨[.int .i64 plank,.slice (some ⟨0,0,none⟩) 4 cp,.slice ot nt ct,.slice os ns cs]⟩ 26 (0,0)),none,false,0⟩) .nil) (some ⟨(.cells ⟨[.int .i64 x12]⟩ 3 (0,0)),none,false,0⟩) .nil)) (some ⟨.cells sc 0 (0,0),none,true,1⟩) (.node (.node (.node .nil (some ⟨(.cells ⟨[.int .i64 x22]⟩ 3 (0,0)),none,false,0⟩) .nil) (some ⟨(.cells ⟨[.int .i64 x7]⟩ 3 (0,0)),(some 10),false,1⟩) .nil) (some ⟨(.cells ⟨[.int .i64 plank,.slice (some ⟨0,0,none⟩) 4 cp,.slice ot nt ct,.slice os ns cs]⟩ 26 (0,0)),none,false,0⟩) (.node .nil (some ⟨(.cells ⟨[.int .i64 l2,.int .i64 u2]⟩ 38 (0,0)),none,false,0⟩) .nil)))),(.node .nil none (.node .nil none (.node (.node .nil (some [10,13,16,19]) .nil) none .nil)))⟩⟩
section
variable{plank h0 l0 u0 h1 l1 u1 h2 l2 u2 h3 l3 u3 two mid:Int}{cp nt ct ns cs nk ck:Nat}{tc sc kc:Array Value}{ot os ok:Option Addr}{V:Prop}{x1 x2 x7 x12 x17 x22 x23:Int}
noncomputable abbrev h28c0(plank h0 l0 u0 h1 l1 u1 h2 l2 u2 h3 l3 u3:Int)(cp nt ct ns cs nk ck:Nat)(tc sc kc:Array Value)(ot os ok:Option Addr)(V:Prop):List Ct:=[⟨10,fun _ _=>[],4,fun _=>L4 (pc4 h0 l0 u0 h1 l1 u1 h2 l2 u2 h3 l3 u3) tc sc kc,fun _=>⟨[(bv 4 plank cp ot nt ct os ns cs)]⟩,fun _=>True,fun _ x=>(x=0→V),fun x=>.int .i64 x⟩,⟨33,fun a _=>[parOf a 1],4,fun _=>L4 (pc4 h0 l0 u0 h1 l1 u1 h2 l2 u2 h3 l3 u3) tc sc kc,fun ps=>⟨[.slice ok nk ck,.int .i64 (ps.headD 0)]⟩,fun _=>True,fun _ x=>(0≤x∧x≤65535),fun x=>.int .i64 x⟩,giC4 h0 l0 u0 h1 l1 u1 h2 l2 u2 h3 l3 u3 plank cp nt ct ns cs tc sc kc ot os]
abbrev h28t0:HT:=.val 8 11 75 (.val 0 10 85 (.val 0 1 86 (.val 0 1 87 (.val 8 11 75 (.val 0 10 85 (.val 0 1 86 (.val 0 1 87 (.br 8 3 90 .no (.br 2 2 94 .no (.val 9 2 106 (.val 7 2 115 (.val 0 1 116 (.br 0 1 117 .no (.val 2 5 121 (.ov 0 4 (.val 0 0 126 (.val 0 1 127 (.br 1 6 130 (.cut 1 3) (.br 0 4 134 (.cut 1 3) (.call 2 6 (.call 1 6 (.val 1 12 162 (.br 0 2 164 (.cut 0 2) .no)))))))))))))))))))))))
abbrev h28t1:HT:=.call 4 6 (.val 5 13 57 (.val 8 11 75 (.val 0 10 85 (.val 0 1 86 (.val 0 1 87 (.br 8 3 90 .no (.br 2 2 94 .no (.val 9 2 106 (.val 7 2 115 (.val 0 1 116 (.br 0 1 117 .no (.val 2 5 121 (.ov 0 4 (.val 0 0 126 (.val 0 1 127 (.br 1 6 130 (.cut 1 3) (.br 0 4 134 (.cut 1 3) .no)))))))))))))))))
theorem Tryz.root4_0_t:tx (Tryz.X (h28c0 plank h0 l0 u0 h1 l1 u1 h2 l2 u2 h3 l3 u3 cp nt ct ns cs nk ck tc sc kc ot os ok V)) (fun _=>False) (fun s=>chkB (Tryz.X []) 3 5 s=true) (.val 1 4 16 (.ov 0 0 (.val 0 0 17 (.ov 0 1 (.val 0 0 19 (.spl 0 0 19 0 h28t1 .no)))))) (Tryz.root4_s plank h0 l0 u0 h1 l1 u1 h2 l2 u2 h3 l3 u3 two mid cp nt ct ns cs nk ck tc sc kc ot os ok V x1 x2 x7 x12 x17 x22 x23 0)=(∀x25,x25=wi two→((8:Int)≠0)∧∀x26,x26=wi (Int.tdiv x25 8)→((1:Int)≠0)∧∀x27,x27=Int.tmod x26 1→SP x27 0 (((AE ⟨[(bv 4 plank cp ot nt ct os ns cs),.slice (some ⟨19,0,none⟩) 4 4,.int .i64 0,.int .i64 1]⟩)∧(BE (⟨.cells ⟨[.int .i64 x7,.int .i64 x12,.int .i64 x17,.int .i64 x22]⟩ 3 (0,0),(some 10),false,1⟩:Blk)∧E4 (pc4 h0 l0 u0 h1 l1 u1 h2 l2 u2 h3 l3 u3) tc sc kc)∧((0:Int)≤0∧(0:Int) < 1∧(1:Int)≤3∧0≤x7∧x7≤959∧0≤x12∧x12≤959∧0≤x17∧x17≤959∧0≤x22∧x22≤959))∧∀x28:Int,(x28=gs [(h0,x7),(h1,x12),(h2,x17),(h3,x22)] 0 1)→RK (true) (∀x29,x29=wi (h1 - h0)→∀x30,x30=wi (x12 - x7)→∀x31,x31=wi (x7 - x12)→∀x32,x32=(if x31 > x30 then x31 else x30)→∀x33,x33=wi (x29+x32)→BR (decide (x28 > x33)) (False) (BR (decide (x28 < x29)) (False) (∀x34,x34=wi (x12 - x7)→∀x35,x35=wi (x7 - x12)→∀x36,x36=(if x35 > x34 then x35 else x34)→BR (decide (x28 < x36)) (False) (∀x37,x37=wi mid→((2:Int)≠0)∧∀x38,x38=Int.tmod x37 2→∀x39,x39=wi (0+x38)→BR (decide (x39=0)) ((true=true)) (BR (decide (x39=1)) ((true=true)) (False))))))) (False)):=by kernel_rfl
set_option maxHeartbeats 4000000 in
theorem Tryz.root4_0(hV:V→Pts [(h0,l0,u0),(h1,l1,u1),(h2,l2,u2),(h3,l3,u3)])(hn:0≤two∧two≤255∧0≤mid∧mid≤255)(hc:∀c∈((h28c0 plank h0 l0 u0 h1 l1 u1 h2 l2 u2 h3 l3 u3 cp nt ct ns cs nk ck tc sc kc ot os ok V):List Ct),CtOk Tryz.prog c)(hB:0≤h0∧h3≤959∧h0 < h1∧h1 < h2∧h2 < h3∧0≤x7∧x7≤959∧0≤x12∧x12≤959∧0≤x17∧x17≤959∧0≤x22∧x22≤959∧0≤two∧two≤255∧0≤mid∧mid≤255):Runs Tryz.prog (fun s=>chkB (Tryz.X []) 3 5 s=true) (Tryz.root4_s plank h0 l0 u0 h1 l1 u1 h2 l2 u2 h3 l3 u3 two mid cp nt ct ns cs nk ck tc sc kc ot os ok V x1 x2 x7 x12 x17 x22 x23 0):=by
 refine txK_use (Tryz.ok hc) Tryz.root4_0_t ?_
 iterate 5 (first|refine va fun _ _=>?_|refine vs fun _ _ _=>?_|refine vq (by omega) (by omega) fun _ _ _=>?_|refine ⟨by omega,?_⟩)
 refine SP.l (by omega) ?_
 refine ⟨⟨rfl,⟨⟨rfl,rfl⟩,E4i⟩,by omega⟩,fun x28 yG=>⟨rfl,?_⟩⟩
 have hG:=yG
 have e0:=sg_bd h0 x7 h1 x12 (by omega)
 have hS:=yG
 simp [gs] at hS
 iterate 15 (first|refine BR.rr ?_|refine va fun _ _=>?_|refine vs fun _ _ _=>?_|refine vmx fun _ _=>?_|refine ⟨by omega,?_⟩)
 refine BR.mk (fun _=>?_) (fun _=>?_)
 ·
  exact rfl
 refine BR.ll ?_
 exact rfl
theorem Tryz.root4_1_t:∀v0:Prop,v0=(BE (⟨.cells ⟨[.int .i64 x7,.int .i64 x12,.int .i64 x17,.int .i64 x22]⟩ 3 (0,0),(some 10),false,1⟩:Blk)∧E4 (pc4 h0 l0 u0 h1 l1 u1 h2 l2 u2 h3 l3 u3) tc sc kc)→∀v1:Int→Int→Int,v1=gs [(h0,x7),(h1,x12),(h2,x17),(h3,x22)]→∀v2:Value,v2=(bv 4 plank cp ot nt ct os ns cs)→tx (Tryz.X (h28c0 plank h0 l0 u0 h1 l1 u1 h2 l2 u2 h3 l3 u3 cp nt ct ns cs nk ck tc sc kc ot os ok V)) (fun _=>False) (fun s=>chkB (Tryz.X []) 3 5 s=true) (.val 1 4 16 (.ov 0 0 (.val 0 0 17 (.ov 0 1 (.val 0 0 19 (.spl 0 0 19 0 (.call 4 6 (.val 5 13 57 h28t0)) (.spl 0 0 19 1 h28t1 .no))))))) (Tryz.root4_s plank h0 l0 u0 h1 l1 u1 h2 l2 u2 h3 l3 u3 two mid cp nt ct ns cs nk ck tc sc kc ot os ok V x1 x2 x7 x12 x17 x22 x23 1)=(∀x25,x25=wi two→((8:Int)≠0)∧∀x26,x26=wi (Int.tdiv x25 8)→((2:Int)≠0)∧∀x27,x27=Int.tmod x26 2→SP x27 0 (((AE ⟨[v2,.slice (some ⟨19,0,none⟩) 4 4,.int .i64 0,.int .i64 2]⟩)∧v0∧((0:Int)≤0∧(0:Int) < 2∧(2:Int)≤3∧0≤x7∧x7≤959∧0≤x12∧x12≤959∧0≤x17∧x17≤959∧0≤x22∧x22≤959))∧∀x28:Int,(x28=v1 0 2)→RK (true) (∀x29,x29=wi (h2 - h0)→∀x30,x30=wi (x12 - x7)→∀x31,x31=wi (x7 - x12)→∀x32,x32=(if x31 > x30 then x31 else x30)→∀x33,x33=wi (x29+x32)→∀x34,x34=wi (x17 - x12)→∀x35,x35=wi (x12 - x17)→∀x36,x36=(if x35 > x34 then x35 else x34)→∀x37,x37=wi (x33+x36)→BR (decide (x28 > x37)) (False) (BR (decide (x28 < x29)) (False) (∀x38,x38=wi (x17 - x7)→∀x39,x39=wi (x7 - x17)→∀x40,x40=(if x39 > x38 then x39 else x38)→BR (decide (x28 < x40)) (False) (∀x41,x41=wi mid→((3:Int)≠0)∧∀x42,x42=Int.tmod x41 3→∀x43,x43=wi (0+x42)→BR (decide (x43=0)) ((true=true)) (BR (decide (x43=2)) ((true=true)) (((AE ⟨[v2,.slice (some ⟨19,0,none⟩) 4 4,.int .i64 0,.int .i64 x43]⟩)∧v0∧((0:Int)≤0∧(0:Int) < x43∧(x43:Int)≤3∧0≤x7∧x7≤959∧0≤x12∧x12≤959∧0≤x17∧x17≤959∧0≤x22∧x22≤959))∧∀x44:Int,(x44=v1 0 x43)→RK (true) (((AE ⟨[v2,.slice (some ⟨19,0,none⟩) 4 4,.int .i64 x43,.int .i64 2]⟩)∧v0∧((0:Int)≤x43∧(x43:Int) < 2∧(2:Int)≤3∧0≤x7∧x7≤959∧0≤x12∧x12≤959∧0≤x17∧x17≤959∧0≤x22∧x22≤959))∧∀x45:Int,(x45=v1 x43 2)→RK (true) (∀x46,x46=wi (x44+x45)→BR (decide (x46=x28)) ((true=true)) (False)))))))))) (SP x27 1 (((AE ⟨[v2,.slice (some ⟨19,0,none⟩) 4 4,.int .i64 1,.int .i64 2]⟩)∧v0∧((0:Int)≤1∧(1:Int) < 2∧(2:Int)≤3∧0≤x7∧x7≤959∧0≤x12∧x12≤959∧0≤x17∧x17≤959∧0≤x22∧x22≤959))∧∀x47:Int,(x47=v1 1 2)→RK (true) (∀x48,x48=wi (h2 - h1)→∀x49,x49=wi (x17 - x12)→∀x50,x50=wi (x12 - x17)→∀x51,x51=(if x50 > x49 then x50 else x49)→∀x52,x52=wi (x48+x51)→BR (decide (x47 > x52)) (False) (BR (decide (x47 < x48)) (False) (∀x53,x53=wi (x17 - x12)→∀x54,x54=wi (x12 - x17)→∀x55,x55=(if x54 > x53 then x54 else x53)→BR (decide (x47 < x55)) (False) (∀x56,x56=wi mid→((2:Int)≠0)∧∀x57,x57=Int.tmod x56 2→∀x58,x58=wi (1+x57)→BR (decide (x58=1)) ((true=true)) (BR (decide (x58=2)) ((true=true)) (False))))))) (False))):=by
 rintro _ rfl _ rfl _ rfl
 kernel_rfl
set_option maxHeartbeats 4000000 in
theorem Tryz.root4_1(hV:V→Pts [(h0,l0,u0),(h1,l1,u1),(h2,l2,u2),(h3,l3,u3)])(hn:0≤two∧two≤255∧0≤mid∧mid≤255)(hc:∀c∈((h28c0 plank h0 l0 u0 h1 l1 u1 h2 l2 u2 h3 l3 u3 cp nt ct ns cs nk ck tc sc kc ot os ok V):List Ct),CtOk Tryz.prog c)(hB:0≤h0∧h3≤959∧h0 < h1∧h1 < h2∧h2 < h3∧0≤x7∧x7≤959∧0≤x12∧x12≤959∧0≤x17∧x17≤959∧0≤x22∧x22≤959∧0≤two∧two≤255∧0≤mid∧mid≤255):Runs Tryz.prog (fun s=>chkB (Tryz.X []) 3 5 s=true) (Tryz.root4_s plank h0 l0 u0 h1 l1 u1 h2 l2 u2 h3 l3 u3 two mid cp nt ct ns cs nk ck tc sc kc ot os ok V x1 x2 x7 x12 x17 x22 x23 1):=by
 refine txK_use (Tryz.ok hc) (Tryz.root4_1_t _ rfl _ rfl _ rfl) ?_
 iterate 5 (first|refine va fun _ _=>?_|refine vs fun _ _ _=>?_|refine vq (by omega) (by omega) fun _ _ _=>?_|refine ⟨by omega,?_⟩)
 refine SP.mk (fun _=>?_) (fun _=>?_)
 ·
  refine ⟨⟨rfl,⟨⟨rfl,rfl⟩,E4i⟩,by omega⟩,fun x28 yG=>⟨rfl,?_⟩⟩
  have hG:=yG
  have e0:=sg_bd h0 x7 h1 x12 (by omega)
  have e1:=sg_bd h1 x12 h2 x17 (by omega)
  have hS:=yG
  simp [gs] at hS
  iterate 18 (first|refine BR.rr ?_|refine va fun _ _=>?_|refine vs fun _ _ _=>?_|refine vmx fun _ _=>?_|refine ⟨by omega,?_⟩)
  refine va fun x43 _=>?_
  refine BR.mk (fun _=>?_) (fun _=>?_)
  ·
   exact rfl
  refine BR.mk (fun _=>?_) (fun _=>?_)
  ·
   exact rfl
  refine ⟨⟨rfl,⟨⟨rfl,rfl⟩,E4i⟩,by omega⟩,fun x44 yG=>⟨rfl,?_⟩⟩
  refine ⟨⟨rfl,⟨⟨rfl,rfl⟩,E4i⟩,by omega⟩,fun x45 yG=>⟨rfl,?_⟩⟩
  have hA:=gs_add [(h0,x7),(h1,x12),(h2,x17),(h3,x22)] 0 x43 2 (by omega) (by omega)
  refine va fun x46 _=>?_
  refine BR.ll ?_
  exact rfl
 refine SP.l (by omega) ?_
 refine ⟨⟨rfl,⟨⟨rfl,rfl⟩,E4i⟩,by omega⟩,fun x47 yG=>⟨rfl,?_⟩⟩
 have hG:=yG
 have e0:=sg_bd h1 x12 h2 x17 (by omega)
 have hS:=yG
 simp [gs] at hS
 iterate 15 (first|refine BR.rr ?_|refine va fun _ _=>?_|refine vs fun _ _ _=>?_|refine vmx fun _ _=>?_|refine ⟨by omega,?_⟩)
 refine BR.mk (fun _=>?_) (fun _=>?_)
 ·
  exact rfl
 refine BR.ll ?_
 exact rfl
theorem Tryz.root4_2_t:∀v0:Prop,v0=(BE (⟨.cells ⟨[.int .i64 x7,.int .i64 x12,.int .i64 x17,.int .i64 x22]⟩ 3 (0,0),(some 10),false,1⟩:Blk)∧E4 (pc4 h0 l0 u0 h1 l1 u1 h2 l2 u2 h3 l3 u3) tc sc kc)→∀v1:Int→Int→Int,v1=gs [(h0,x7),(h1,x12),(h2,x17),(h3,x22)]→∀v2:Value,v2=(bv 4 plank cp ot nt ct os ns cs)→tx (Tryz.X (h28c0 plank h0 l0 u0 h1 l1 u1 h2 l2 u2 h3 l3 u3 cp nt ct ns cs nk ck tc sc kc ot os ok V)) (fun _=>False) (fun s=>chkB (Tryz.X []) 3 5 s=true) (.val 1 4 16 (.ov 0 0 (.val 0 0 17 (.ov 0 1 (.val 0 0 19 (.spl 0 0 19 0 (.call 4 6 (.val 5 13 57 (.val 8 11 75 (.val 0 10 85 (.val 0 1 86 (.val 0 1 87 h28t0)))))) (.spl 0 0 19 1 (.call 4 6 (.val 5 13 57 h28t0)) (.spl 0 0 19 2 h28t1 .no)))))))) (Tryz.root4_s plank h0 l0 u0 h1 l1 u1 h2 l2 u2 h3 l3 u3 two mid cp nt ct ns cs nk ck tc sc kc ot os ok V x1 x2 x7 x12 x17 x22 x23 2)=(∀x25,x25=wi two→((8:Int)≠0)∧∀x26,x26=wi (Int.tdiv x25 8)→((3:Int)≠0)∧∀x27,x27=Int.tmod x26 3→SP x27 0 (((AE ⟨[v2,.slice (some ⟨19,0,none⟩) 4 4,.int .i64 0,.int .i64 3]⟩)∧v0∧((0:Int)≤0∧(0:Int) < 3∧(3:Int)≤3∧0≤x7∧x7≤959∧0≤x12∧x12≤959∧0≤x17∧x17≤959∧0≤x22∧x22≤959))∧∀x28:Int,(x28=v1 0 3)→RK (true) (∀x29,x29=wi (h3 - h0)→∀x30,x30=wi (x12 - x7)→∀x31,x31=wi (x7 - x12)→∀x32,x32=(if x31 > x30 then x31 else x30)→∀x33,x33=wi (x29+x32)→∀x34,x34=wi (x17 - x12)→∀x35,x35=wi (x12 - x17)→∀x36,x36=(if x35 > x34 then x35 else x34)→∀x37,x37=wi (x33+x36)→∀x38,x38=wi (x22 - x17)→∀x39,x39=wi (x17 - x22)→∀x40,x40=(if x39 > x38 then x39 else x38)→∀x41,x41=wi (x37+x40)→BR (decide (x28 > x41)) (False) (BR (decide (x28 < x29)) (False) (∀x42,x42=wi (x22 - x7)→∀x43,x43=wi (x7 - x22)→∀x44,x44=(if x43 > x42 then x43 else x42)→BR (decide (x28 < x44)) (False) (∀x45,x45=wi mid→((4:Int)≠0)∧∀x46,x46=Int.tmod x45 4→∀x47,x47=wi (0+x46)→BR (decide (x47=0)) ((true=true)) (BR (decide (x47=3)) ((true=true)) (((AE ⟨[v2,.slice (some ⟨19,0,none⟩) 4 4,.int .i64 0,.int .i64 x47]⟩)∧v0∧((0:Int)≤0∧(0:Int) < x47∧(x47:Int)≤3∧0≤x7∧x7≤959∧0≤x12∧x12≤959∧0≤x17∧x17≤959∧0≤x22∧x22≤959))∧∀x48:Int,(x48=v1 0 x47)→RK (true) (((AE ⟨[v2,.slice (some ⟨19,0,none⟩) 4 4,.int .i64 x47,.int .i64 3]⟩)∧v0∧((0:Int)≤x47∧(x47:Int) < 3∧(3:Int)≤3∧0≤x7∧x7≤959∧0≤x12∧x12≤959∧0≤x17∧x17≤959∧0≤x22∧x22≤959))∧∀x49:Int,(x49=v1 x47 3)→RK (true) (∀x50,x50=wi (x48+x49)→BR (decide (x50=x28)) ((true=true)) (False)))))))))) (SP x27 1 (((AE ⟨[v2,.slice (some ⟨19,0,none⟩) 4 4,.int .i64 1,.int .i64 3]⟩)∧v0∧((0:Int)≤1∧(1:Int) < 3∧(3:Int)≤3∧0≤x7∧x7≤959∧0≤x12∧x12≤959∧0≤x17∧x17≤959∧0≤x22∧x22≤959))∧∀x51:Int,(x51=v1 1 3)→RK (true) (∀x52,x52=wi (h3 - h1)→∀x53,x53=wi (x17 - x12)→∀x54,x54=wi (x12 - x17)→∀x55,x55=(if x54 > x53 then x54 else x53)→∀x56,x56=wi (x52+x55)→∀x57,x57=wi (x22 - x17)→∀x58,x58=wi (x17 - x22)→∀x59,x59=(if x58 > x57 then x58 else x57)→∀x60,x60=wi (x56+x59)→BR (decide (x51 > x60)) (False) (BR (decide (x51 < x52)) (False) (∀x61,x61=wi (x22 - x12)→∀x62,x62=wi (x12 - x22)→∀x63,x63=(if x62 > x61 then x62 else x61)→BR (decide (x51 < x63)) (False) (∀x64,x64=wi mid→((3:Int)≠0)∧∀x65,x65=Int.tmod x64 3→∀x66,x66=wi (1+x65)→BR (decide (x66=1)) ((true=true)) (BR (decide (x66=3)) ((true=true)) (((AE ⟨[v2,.slice (some ⟨19,0,none⟩) 4 4,.int .i64 1,.int .i64 x66]⟩)∧v0∧((0:Int)≤1∧(1:Int) < x66∧(x66:Int)≤3∧0≤x7∧x7≤959∧0≤x12∧x12≤959∧0≤x17∧x17≤959∧0≤x22∧x22≤959))∧∀x67:Int,(x67=v1 1 x66)→RK (true) (((AE ⟨[v2,.slice (some ⟨19,0,none⟩) 4 4,.int .i64 x66,.int .i64 3]⟩)∧v0∧((0:Int)≤x66∧(x66:Int) < 3∧(3:Int)≤3∧0≤x7∧x7≤959∧0≤x12∧x12≤959∧0≤x17∧x17≤959∧0≤x22∧x22≤959))∧∀x68:Int,(x68=v1 x66 3)→RK (true) (∀x69,x69=wi (x67+x68)→BR (decide (x69=x51)) ((true=true)) (False)))))))))) (SP x27 2 (((AE ⟨[v2,.slice (some ⟨19,0,none⟩) 4 4,.int .i64 2,.int .i64 3]⟩)∧v0∧((0:Int)≤2∧(2:Int) < 3∧(3:Int)≤3∧0≤x7∧x7≤959∧0≤x12∧x12≤959∧0≤x17∧x17≤959∧0≤x22∧x22≤959))∧∀x70:Int,(x70=v1 2 3)→RK (true) (∀x71,x71=wi (h3 - h2)→∀x72,x72=wi (x22 - x17)→∀x73,x73=wi (x17 - x22)→∀x74,x74=(if x73 > x72 then x73 else x72)→∀x75,x75=wi (x71+x74)→BR (decide (x70 > x75)) (False) (BR (decide (x70 < x71)) (False) (∀x76,x76=wi (x22 - x17)→∀x77,x77=wi (x17 - x22)→∀x78,x78=(if x77 > x76 then x77 else x76)→BR (decide (x70 < x78)) (False) (∀x79,x79=wi mid→((2:Int)≠0)∧∀x80,x80=Int.tmod x79 2→∀x81,x81=wi (2+x80)→BR (decide (x81=2)) ((true=true)) (BR (decide (x81=3)) ((true=true)) (False))))))) (False)))):=by
 rintro _ rfl _ rfl _ rfl
 kernel_rfl
set_option maxHeartbeats 4000000 in
theorem Tryz.root4_2(hV:V→Pts [(h0,l0,u0),(h1,l1,u1),(h2,l2,u2),(h3,l3,u3)])(hn:0≤two∧two≤255∧0≤mid∧mid≤255)(hc:∀c∈((h28c0 plank h0 l0 u0 h1 l1 u1 h2 l2 u2 h3 l3 u3 cp nt ct ns cs nk ck tc sc kc ot os ok V):List Ct),CtOk Tryz.prog c)(hB:0≤h0∧h3≤959∧h0 < h1∧h1 < h2∧h2 < h3∧0≤x7∧x7≤959∧0≤x12∧x12≤959∧0≤x17∧x17≤959∧0≤x22∧x22≤959∧0≤two∧two≤255∧0≤mid∧mid≤255):Runs Tryz.prog (fun s=>chkB (Tryz.X []) 3 5 s=true) (Tryz.root4_s plank h0 l0 u0 h1 l1 u1 h2 l2 u2 h3 l3 u3 two mid cp nt ct ns cs nk ck tc sc kc ot os ok V x1 x2 x7 x12 x17 x22 x23 2):=by
 refine txK_use (Tryz.ok hc) (Tryz.root4_2_t _ rfl _ rfl _ rfl) ?_
 iterate 5 (first|refine va fun _ _=>?_|refine vs fun _ _ _=>?_|refine vq (by omega) (by omega) fun _ _ _=>?_|refine ⟨by omega,?_⟩)
 refine SP.mk (fun _=>?_) (fun _=>?_)
 ·
  refine ⟨⟨rfl,⟨⟨rfl,rfl⟩,E4i⟩,by omega⟩,fun x28 yG=>⟨rfl,?_⟩⟩
  have hG:=yG
  have e0:=sg_bd h0 x7 h1 x12 (by omega)
  have e1:=sg_bd h1 x12 h2 x17 (by omega)
  have e2:=sg_bd h2 x17 h3 x22 (by omega)
  have hS:=yG
  simp [gs] at hS
  iterate 22 (first|refine BR.rr ?_|refine va fun _ _=>?_|refine vs fun _ _ _=>?_|refine vmx fun _ _=>?_|refine ⟨by omega,?_⟩)
  refine va fun x47 _=>?_
  refine BR.mk (fun _=>?_) (fun _=>?_)
  ·
   exact rfl
  refine BR.mk (fun _=>?_) (fun _=>?_)
  ·
   exact rfl
  refine ⟨⟨rfl,⟨⟨rfl,rfl⟩,E4i⟩,by omega⟩,fun x48 yG=>⟨rfl,?_⟩⟩
  refine ⟨⟨rfl,⟨⟨rfl,rfl⟩,E4i⟩,by omega⟩,fun x49 yG=>⟨rfl,?_⟩⟩
  have hA:=gs_add [(h0,x7),(h1,x12),(h2,x17),(h3,x22)] 0 x47 3 (by omega) (by omega)
  refine va fun x50 _=>?_
  refine BR.ll ?_
  exact rfl
 refine SP.mk (fun _=>?_) (fun _=>?_)
 ·
  refine ⟨⟨rfl,⟨⟨rfl,rfl⟩,E4i⟩,by omega⟩,fun x51 yG=>⟨rfl,?_⟩⟩
  have hG:=yG
  have e0:=sg_bd h1 x12 h2 x17 (by omega)
  have e1:=sg_bd h2 x17 h3 x22 (by omega)
  have hS:=yG
  simp [gs] at hS
  iterate 18 (first|refine BR.rr ?_|refine va fun _ _=>?_|refine vs fun _ _ _=>?_|refine vmx fun _ _=>?_|refine ⟨by omega,?_⟩)
  refine va fun x66 _=>?_
  refine BR.mk (fun _=>?_) (fun _=>?_)
  ·
   exact rfl
  refine BR.mk (fun _=>?_) (fun _=>?_)
  ·
   exact rfl
  refine ⟨⟨rfl,⟨⟨rfl,rfl⟩,E4i⟩,by omega⟩,fun x67 yG=>⟨rfl,?_⟩⟩
  refine ⟨⟨rfl,⟨⟨rfl,rfl⟩,E4i⟩,by omega⟩,fun x68 yG=>⟨rfl,?_⟩⟩
  have hA:=gs_add [(h0,x7),(h1,x12),(h2,x17),(h3,x22)] 1 x66 3 (by omega) (by omega)
  refine va fun x69 _=>?_
  refine BR.ll ?_
  exact rfl
 refine SP.l (by omega) ?_
 refine ⟨⟨rfl,⟨⟨rfl,rfl⟩,E4i⟩,by omega⟩,fun x70 yG=>⟨rfl,?_⟩⟩
 have hG:=yG
 have e0:=sg_bd h2 x17 h3 x22 (by omega)
 have hS:=yG
 simp [gs] at hS
 iterate 15 (first|refine BR.rr ?_|refine va fun _ _=>?_|refine vs fun _ _ _=>?_|refine vmx fun _ _=>?_|refine ⟨by omega,?_⟩)
 refine BR.mk (fun _=>?_) (fun _=>?_)
 ·
  exact rfl
 refine BR.ll ?_
 exact rfl
end
section
variable{plank h0 l0 u0 h1 l1 u1 h2 l2 u2 h3 l3 u3 two mid:Int}{cp nt ct ns cs nk ck:Nat}{tc sc kc:Array Value}{ot os ok:Option Addr}{V:Prop}
theorem Tryz.root4_t:∀v0:Prop,v0=(E4 (pc4 h0 l0 u0 h1 l1 u1 h2 l2 u2 h3 l3 u3) tc sc kc)→tx (Tryz.X (h28c0 plank h0 l0 u0 h1 l1 u1 h2 l2 u2 h3 l3 u3 cp nt ct ns cs nk ck tc sc kc ot os ok V)) (fun _=>False) (fun s=>KC (Tryz.X []) 3 5 7 s) (.val 5 10 10 (.br 0 1 11 (.cut 7 3) (.val 0 5 16 (.br 0 1 17 (.cut 7 3) (.call 3 3 (.br 0 1 9 (.call 14 9 (.val 4 8 12 (.val 0 1 13 (.ov 0 0 (.val 0 0 14 (.val 0 1 15 (.rk 2 1 (.call 8 9 (.val 4 8 12 (.val 0 1 13 (.ov 0 0 (.val 0 0 14 (.val 0 1 15 (.rk 2 1 (.call 8 9 (.val 4 8 12 (.val 0 1 13 (.ov 0 0 (.val 0 0 14 (.val 0 1 15 (.rk 2 1 (.call 8 9 (.val 4 8 12 (.val 0 1 13 (.ov 0 0 (.val 0 0 14 (.val 0 1 15 (.rk 2 1 (.val 11 4 8 (.ov 0 4 (.val 0 0 13 (.spl 0 0 13 0 (.cut 0 0) (.spl 0 0 13 1 (.cut 0 0) (.spl 0 0 13 2 (.cut 0 0) .no)))))))))))))))))))))))))))))))))) (.cut 4 3))))))) ⟨AFr.enter Tryz.prog 3 ⟨[(bv 4 plank cp ot nt ct os ns cs),.slice ok nk ck,.int .u8 two,.int .u8 mid]⟩,[],hOf 4 (L4 (pc4 h0 l0 u0 h1 l1 u1 h2 l2 u2 h3 l3 u3) tc sc kc)⟩=(∀x0,x0=((nt:Nat):Int)→BR (decide (x0 > 20)) ((true=true)) (∀x1,x1=((ns:Nat):Int)→BR (decide (x1 > 20)) ((true=true)) (((AE ⟨[(bv 4 plank cp ot nt ct os ns cs)]⟩)∧v0∧True)∧∀x2:Int,(x2=0→V)→RK (true) (BR (decide (x2=0)) (((AE ⟨[.slice ok nk ck,.int .i64 0]⟩)∧v0∧True)∧∀x3:Int,(0≤x3∧x3≤65535)→RK ((decide (cp=cp) && ((decide (l0=l0) && (decide (u0=u0) && true)) && true))) (∀x4,x4=wi (u0 - l0)→∀x5,x5=wi (x4+1)→((x5:Int)≠0)∧∀x6,x6=Int.tmod x3 x5→∀x7,x7=wi (l0+x6)→RK (((decide (x7=x7) && true) && true)) (((AE ⟨[.slice ok nk ck,.int .i64 1]⟩)∧v0∧True)∧∀x8:Int,(0≤x8∧x8≤65535)→RK ((decide (cp=cp) && ((decide (l1=l1) && (decide (u1=u1) && true)) && true))) (∀x9,x9=wi (u1 - l1)→∀x10,x10=wi (x9+1)→((x10:Int)≠0)∧∀x11,x11=Int.tmod x8 x10→∀x12,x12=wi (l1+x11)→RK (((decide (x12=x12) && true) && true)) (((AE ⟨[.slice ok nk ck,.int .i64 2]⟩)∧v0∧True)∧∀x13:Int,(0≤x13∧x13≤65535)→RK ((decide (cp=cp) && ((decide (l2=l2) && (decide (u2=u2) && true)) && true))) (∀x14,x14=wi (u2 - l2)→∀x15,x15=wi (x14+1)→((x15:Int)≠0)∧∀x16,x16=Int.tmod x13 x15→∀x17,x17=wi (l2+x16)→RK (((decide (x17=x17) && true) && true)) (((AE ⟨[.slice ok nk ck,.int .i64 3]⟩)∧v0∧True)∧∀x18:Int,(0≤x18∧x18≤65535)→RK ((decide (cp=cp) && ((decide (l3=l3) && (decide (u3=u3) && true)) && true))) (∀x19,x19=wi (u3 - l3)→∀x20,x20=wi (x19+1)→((x20:Int)≠0)∧∀x21,x21=Int.tmod x18 x20→∀x22,x22=wi (l3+x21)→RK (((decide (x22=x22) && true) && true)) (∀x23,x23=wi two→((3:Int)≠0)∧∀x24,x24=Int.tmod x23 3→SP x24 0 ((Runs Tryz.prog (fun s=>chkB (Tryz.X []) 3 5 s=true) (Tryz.root4_s plank h0 l0 u0 h1 l1 u1 h2 l2 u2 h3 l3 u3 two mid cp nt ct ns cs nk ck tc sc kc ot os ok V x1 x2 x7 x12 x17 x22 x23 0))) (SP x24 1 ((Runs Tryz.prog (fun s=>chkB (Tryz.X []) 3 5 s=true) (Tryz.root4_s plank h0 l0 u0 h1 l1 u1 h2 l2 u2 h3 l3 u3 two mid cp nt ct ns cs nk ck tc sc kc ot os ok V x1 x2 x7 x12 x17 x22 x23 1))) (SP x24 2 ((Runs Tryz.prog (fun s=>chkB (Tryz.X []) 3 5 s=true) (Tryz.root4_s plank h0 l0 u0 h1 l1 u1 h2 l2 u2 h3 l3 u3 two mid cp nt ct ns cs nk ck tc sc kc ot os ok V x1 x2 x7 x12 x17 x22 x23 2))) (False)))))))))))) ((true=true)))))):=by
 rintro _ rfl
 kernel_rfl
set_option maxHeartbeats 4000000 in
theorem Tryz.root4(hV:V→Pts [(h0,l0,u0),(h1,l1,u1),(h2,l2,u2),(h3,l3,u3)])(hn:0≤two∧two≤255∧0≤mid∧mid≤255)(hc:∀c∈((h28c0 plank h0 l0 u0 h1 l1 u1 h2 l2 u2 h3 l3 u3 cp nt ct ns cs nk ck tc sc kc ot os ok V):List Ct),CtOk Tryz.prog c):Runs Tryz.prog (fun s=>chkB (Tryz.X []) 3 5 s=true) ⟨AFr.enter Tryz.prog 3 ⟨[(bv 4 plank cp ot nt ct os ns cs),.slice ok nk ck,.int .u8 two,.int .u8 mid]⟩,[],hOf 4 (L4 (pc4 h0 l0 u0 h1 l1 u1 h2 l2 u2 h3 l3 u3) tc sc kc)⟩:=by
 refine KC_runs (txK_use (Tryz.ok hc) (Tryz.root4_t _ rfl) ?_)
 intro x0 _
 refine BR.mk (fun _=>?_) (fun _=>?_)
 ·
  exact rfl
 intro x1 _
 refine BR.mk (fun _=>?_) (fun _=>?_)
 ·
  exact rfl
 refine ⟨⟨rfl,E4i,trivial⟩,fun x2 yV=>⟨rfl,?_⟩⟩
 refine BR.mk (fun _=>?_) (fun _=>?_)
 ·
  refine ⟨⟨rfl,E4i,trivial⟩,fun x3 _=>⟨by simp,?_⟩⟩
  have hP:=hV (yV (by omega))
  simp only [Pts,PtsF,and_true] at hP
  iterate 6 (first|refine va fun _ _=>?_|refine vs fun _ _ _=>?_|refine ⟨by omega,?_⟩|refine ⟨by simp,?_⟩)
  refine ⟨⟨rfl,E4i,trivial⟩,fun x8 _=>⟨by simp,?_⟩⟩
  iterate 6 (first|refine va fun _ _=>?_|refine vs fun _ _ _=>?_|refine ⟨by omega,?_⟩|refine ⟨by simp,?_⟩)
  refine ⟨⟨rfl,E4i,trivial⟩,fun x13 _=>⟨by simp,?_⟩⟩
  iterate 6 (first|refine va fun _ _=>?_|refine vs fun _ _ _=>?_|refine ⟨by omega,?_⟩|refine ⟨by simp,?_⟩)
  refine ⟨⟨rfl,E4i,trivial⟩,fun x18 _=>⟨by simp,?_⟩⟩
  iterate 9 (first|refine va fun _ _=>?_|refine vs fun _ _ _=>?_|refine ⟨by omega,?_⟩|refine ⟨by simp,?_⟩)
  refine SP.mk (fun _=>?_) (fun _=>?_)
  ·
   exact Tryz.root4_0 hV hn hc (by omega)
  refine SP.mk (fun _=>?_) (fun _=>?_)
  ·
   exact Tryz.root4_1 hV hn hc (by omega)
  refine SP.l (by omega) ?_
  exact Tryz.root4_2 hV hn hc (by omega)
 exact rfl
end
end Go.Am
