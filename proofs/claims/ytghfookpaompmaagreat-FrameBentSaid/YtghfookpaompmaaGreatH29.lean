import Derived.Test.YtghfookpaompmaaGreatH26
import Derived.Test.YtghfookpaompmaaGreatH27
import Derived.Test.YtghfookpaompmaaGreatH28
set_option linter.unusedVariables false
set_option linter.unusedSectionVars false
set_option linter.unusedSimpArgs false
namespace Go.Am
open Go.Proofs
noncomputable def Tryz.root5_s1(plank h0 l0 u0 h1 l1 u1 h2 l2 u2 h3 l3 u3 h4 l4 u4:Int)(cp nt ct ns cs nk ck:Nat)(tc sc kc:Array Value)(ot os ok:Option Addr)(V:Prop)(x3 x4 x9 x14 x19 x24 x29:Int):AS:=let v0:Value:=(bv 5 plank cp ot nt ct os ns cs);⟨⟨7,⟨[.agg ⟨[.int .i64 (.ofNat 0),.slice (some ⟨23,0,none⟩) 2 2,.slice none 0 0,.slice none 0 0]⟩,.slice (some ⟨25,0,none⟩) 2 2,.int .i64 h1]++ur 27⟩,[.code (at_ 7 [])],[],false,none,false⟩,[⟨3,⟨[v0,.slice ok nk ck,.pointer (some ⟨4,0,none⟩),ud,.bool false,.slice (some ⟨22,0,none⟩) 5 5,.pointer (some ⟨24,0,none⟩)]++ur 8++[v0,.bool true,.bool false,.bool false,.pointer (some ⟨4,1,none⟩),.slice (some ⟨0,0,none⟩) 5 cp,.int .i64 (.ofNat 5),.bool false,.bool false,.bool false,.pointer (some ⟨4,1,none⟩),.slice (some ⟨0,0,none⟩) 5 cp,.pointer (some ⟨0,0,none⟩),.pointer (some ⟨0,0,none⟩),.int .i64 h0,.pointer (some ⟨4,1,none⟩),.slice (some ⟨0,0,none⟩) 5 cp,.pointer (some ⟨0,6,none⟩),.pointer (some ⟨0,6,none⟩),.int .i64 h2,.int .i64 x3,.pointer (some ⟨4,1,none⟩),.slice (some ⟨0,0,none⟩) 5 cp,.pointer (some ⟨0,3,none⟩),.pointer (some ⟨0,3,none⟩),.int .i64 h1,.int .i64 x4,.bool false,.bool false,ud,v0,.slice ok nk ck,.slice (some ⟨22,0,none⟩) 5 5,.pointer (some ⟨4,1,none⟩),.slice (some ⟨0,0,none⟩) 5 cp,.pointer (some ⟨0,0,none⟩),.agg ⟨[.int .i64 h0,.int .i64 l0,.int .i64 u0]⟩,.pointer (some ⟨4,1,none⟩),.slice (some ⟨0,0,none⟩) 5 cp,.pointer (some ⟨0,6,none⟩),.agg ⟨[.int .i64 h2,.int .i64 l2,.int .i64 u2]⟩,.slice (some ⟨23,0,none⟩) 2 2,.agg ⟨[.int .i64 (.ofNat 0),.slice (some ⟨23,0,none⟩) 2 2,.slice none 0 0,.slice none 0 0]⟩,ud,.agg ⟨[.int .i64 (.ofNat 0),.slice (some ⟨23,0,none⟩) 2 2,.slice none 0 0,.slice none 0 0]⟩,.slice (some ⟨22,0,none⟩) 5 5,.pointer (some ⟨22,0,none⟩),.int .i64 x9,.slice (some ⟨22,0,none⟩) 5 5,.pointer (some ⟨22,2,none⟩),.int .i64 x19,.slice (some ⟨25,0,none⟩) 2 2,.pointer (some ⟨4,1,none⟩),.slice (some ⟨0,0,none⟩) 5 cp,.pointer (some ⟨0,3,none⟩),.pointer (some ⟨0,3,none⟩),.int .i64 h1]++ur 77⟩,[.drawn (opsAt 3 [1,1,1,1,0]) [(13,[]),(14,[]),(15,[]),(16,[]),(17,[]),(18,[])],.code (at_ 3 [1,1,1,1,1])],[],false,none,false⟩],⟨26,trL [(0,⟨.cells (pc5 h0 l0 u0 h1 l1 u1 h2 l2 u2 h3 l3 u3 h4 l4 u4) 0 (0,0),none,true,1⟩),(1,⟨.cells tc 0 (0,0),none,true,1⟩),(2,⟨.cells sc 0 (0,0),none,true,1⟩),(3,⟨.cells kc 0 (0,0),none,true,1⟩),(4,⟨(.cells ⟨[.int .i64 plank,.slice (some ⟨0,0,none⟩) 5 cp,.slice ot nt ct,.slice os ns cs]⟩ 26 (0,0)),none,false,0⟩),(22,⟨(.cells ⟨[.int .i64 x9,.int .i64 x14,.int .i64 x19,.int .i64 x24,.int .i64 x29]⟩ 3 (0,0)),(some 10),false,1⟩),(23,⟨(.cells ⟨[.int .i64 h0,.int .i64 l0,.int .i64 u0,.int .i64 h2,.int .i64 l2,.int .i64 u2]⟩ 32 (0,0)),none,false,0⟩),(24,⟨(.cells ⟨[.int .i64 (.ofNat 0),.slice (some ⟨23,0,none⟩) 2 2,.slice none 0 0,.slice none 0 0]⟩ 26 (0,0)),none,false,0⟩),(25,⟨(.cells ⟨[.int .i64 x9,.int .i64 x19]⟩ 3 (0,0)),none,false,0⟩)],fmL [(10,[22])]⟩⟩
noncomputable def Tryz.root5_s2(plank h0 l0 u0 h1 l1 u1 h2 l2 u2 h3 l3 u3 h4 l4 u4:Int)(cp nt ct ns cs nk ck:Nat)(tc sc kc:Array Value)(ot os ok:Option Addr)(V:Prop)(x3 x4 x9 x14 x19 x24 x29 x36 x37:Int):AS:=let v0:Value:=(bv 5 plank cp ot nt ct os ns cs);⟨⟨9,⟨[.agg ⟨[.int .i64 (.ofNat 0),.int .i64 (.ofNat 0),.int .i64 (.ofNat 0),.slice (some ⟨80,0,none⟩) 3 3,.slice none 0 0]⟩,.slice (some ⟨22,0,none⟩) 3 5]++ur 19⟩,[.code (at_ 9 [])],[],false,none,false⟩,[⟨3,⟨[v0,.slice ok nk ck,.pointer (some ⟨4,0,none⟩),ud,.bool false,.slice (some ⟨22,0,none⟩) 5 5,.pointer (some ⟨24,0,none⟩),.int .i64 x37,.int .i64 (.ofNat 0),.pointer (some ⟨73,0,none⟩),ud,ud,ud,ud,ud,v0,.bool true,.bool false,.bool false,.pointer (some ⟨4,1,none⟩),.slice (some ⟨0,0,none⟩) 5 cp,.int .i64 (.ofNat 5),.bool false,.bool false,.bool false,.pointer (some ⟨4,1,none⟩),.slice (some ⟨0,0,none⟩) 5 cp,.pointer (some ⟨0,0,none⟩),.pointer (some ⟨0,0,none⟩),.int .i64 h0,.pointer (some ⟨4,1,none⟩),.slice (some ⟨0,0,none⟩) 5 cp,.pointer (some ⟨0,6,none⟩),.pointer (some ⟨0,6,none⟩),.int .i64 h2,.int .i64 x3,.pointer (some ⟨4,1,none⟩),.slice (some ⟨0,0,none⟩) 5 cp,.pointer (some ⟨0,3,none⟩),.pointer (some ⟨0,3,none⟩),.int .i64 h1,.int .i64 x4,.bool false,.bool false,ud,v0,.slice ok nk ck,.slice (some ⟨22,0,none⟩) 5 5,.pointer (some ⟨4,1,none⟩),.slice (some ⟨0,0,none⟩) 5 cp,.pointer (some ⟨0,0,none⟩),.agg ⟨[.int .i64 h0,.int .i64 l0,.int .i64 u0]⟩,.pointer (some ⟨4,1,none⟩),.slice (some ⟨0,0,none⟩) 5 cp,.pointer (some ⟨0,6,none⟩),.agg ⟨[.int .i64 h2,.int .i64 l2,.int .i64 u2]⟩,.slice (some ⟨23,0,none⟩) 2 2,.agg ⟨[.int .i64 (.ofNat 0),.slice (some ⟨23,0,none⟩) 2 2,.slice none 0 0,.slice none 0 0]⟩,.tuple ⟨[.int .i64 x37,.int .i64 (.ofNat 0)]⟩,.agg ⟨[.int .i64 (.ofNat 0),.slice (some ⟨23,0,none⟩) 2 2,.slice none 0 0,.slice none 0 0]⟩,.slice (some ⟨22,0,none⟩) 5 5,.pointer (some ⟨22,0,none⟩),.int .i64 x9,.slice (some ⟨22,0,none⟩) 5 5,.pointer (some ⟨22,2,none⟩),.int .i64 x19,.slice (some ⟨25,0,none⟩) 2 2,.pointer (some ⟨4,1,none⟩),.slice (some ⟨0,0,none⟩) 5 cp,.pointer (some ⟨0,3,none⟩),.pointer (some ⟨0,3,none⟩),.int .i64 h1,.tuple ⟨[.int .i64 x37,.int .i64 (.ofNat 0)]⟩,.int .i64 x37,.int .i64 (.ofNat 0),.slice (some ⟨22,0,none⟩) 5 5,.pointer (some ⟨22,0,none⟩),.int .i64 x9,.agg ⟨[.int .i64 x9,.int .i64 x9]⟩,.slice (some ⟨22,0,none⟩) 5 5,.pointer (some ⟨22,1,none⟩),.int .i64 x14,.agg ⟨[.int .i64 x14,.int .i64 x14]⟩,.slice (some ⟨22,0,none⟩) 5 5,.pointer (some ⟨22,2,none⟩),.int .i64 x19,.agg ⟨[.int .i64 x19,.int .i64 x19]⟩,.slice (some ⟨80,0,none⟩) 3 3,.agg ⟨[.int .i64 (.ofNat 0),.int .i64 (.ofNat 0),.int .i64 (.ofNat 0),.slice (some ⟨80,0,none⟩) 3 3,.slice none 0 0]⟩,ud,.agg ⟨[.int .i64 (.ofNat 0),.int .i64 (.ofNat 0),.int .i64 (.ofNat 0),.slice (some ⟨80,0,none⟩) 3 3,.slice none 0 0]⟩,.slice (some ⟨22,0,none⟩) 5 5,.slice (some ⟨22,0,none⟩) 3 5]++ur 56⟩,[.drawn (opsAt 3 [1,1,1,1,1,1,0]) [(3,[]),(4,[]),(5,[]),(6,[]),(7,[]),(8,[])],.code (at_ 3 [1,1,1,1,1,1,1])],[],false,none,false⟩],⟨81,trL [(0,⟨.cells (pc5 h0 l0 u0 h1 l1 u1 h2 l2 u2 h3 l3 u3 h4 l4 u4) 0 (0,0),none,true,1⟩),(1,⟨.cells tc 0 (0,0),none,true,1⟩),(2,⟨.cells sc 0 (0,0),none,true,1⟩),(3,⟨.cells kc 0 (0,0),none,true,1⟩),(4,⟨(.cells ⟨[.int .i64 plank,.slice (some ⟨0,0,none⟩) 5 cp,.slice ot nt ct,.slice os ns cs]⟩ 26 (0,0)),none,false,0⟩),(22,⟨(.cells ⟨[.int .i64 x9,.int .i64 x14,.int .i64 x19,.int .i64 x24,.int .i64 x29]⟩ 3 (0,0)),(some 10),false,1⟩),(23,⟨(.cells ⟨[.int .i64 h0,.int .i64 l0,.int .i64 u0,.int .i64 h2,.int .i64 l2,.int .i64 u2]⟩ 32 (0,0)),none,false,0⟩),(24,⟨(.cells ⟨[.int .i64 (.ofNat 0),.slice (some ⟨23,0,none⟩) 2 2,.slice none 0 0,.slice none 0 0]⟩ 26 (0,0)),none,false,0⟩),(25,⟨(.cells ⟨[.int .i64 x9,.int .i64 x19]⟩ 3 (0,0)),none,false,0⟩),(73,⟨(.cells ⟨[.int .i64 (.ofNat 0),.int .i64 (.ofNat 0),.int .i64 (.ofNat 0),.slice (some ⟨80,0,none⟩) 3 3,.slice none 0 0]⟩ 43 (0,0)),none,false,0⟩),(80,⟨(.cells ⟨[.int .i64 x9,.int .i64 x9,.int .i64 x14,.int .i64 x14,.int .i64 x19,.int .i64 x19]⟩ 30 (0,0)),none,false,0⟩)],fmL [(10,[22])]⟩⟩
noncomputable def Tryz.root5_s3(plank h0 l0 u0 h1 l1 u1 h2 l2 u2 h3 l3 u3 h4 l4 u4:Int)(cp nt ct ns cs nk ck:Nat)(tc sc kc:Array Value)(ot os ok:Option Addr)(V:Prop)(x3 x4 x9 x14 x19 x24 x29 x36 x37 x43:Int):AS:=let v0:Value:=(bv 5 plank cp ot nt ct os ns cs);⟨⟨10,⟨[.agg ⟨[.int .i64 (.ofNat 0),.int .i64 (.ofNat 0),.int .i64 (.ofNat 0),.slice (some ⟨80,0,none⟩) 3 3,.slice none 0 0]⟩,.slice (some ⟨22,0,none⟩) 3 5]++ur 21⟩,[.code (at_ 10 [])],[],false,none,false⟩,[⟨3,⟨[v0,.slice ok nk ck,.pointer (some ⟨4,0,none⟩),ud,.bool false,.slice (some ⟨22,0,none⟩) 5 5,.pointer (some ⟨24,0,none⟩),.int .i64 x37,.int .i64 (.ofNat 0),.pointer (some ⟨73,0,none⟩),.slice (some ⟨115,0,none⟩) 1 1,.int .i64 (.ofNat 0),ud,ud,ud,v0,.bool true,.bool false,.bool false,.pointer (some ⟨4,1,none⟩),.slice (some ⟨0,0,none⟩) 5 cp,.int .i64 (.ofNat 5),.bool false,.bool false,.bool false,.pointer (some ⟨4,1,none⟩),.slice (some ⟨0,0,none⟩) 5 cp,.pointer (some ⟨0,0,none⟩),.pointer (some ⟨0,0,none⟩),.int .i64 h0,.pointer (some ⟨4,1,none⟩),.slice (some ⟨0,0,none⟩) 5 cp,.pointer (some ⟨0,6,none⟩),.pointer (some ⟨0,6,none⟩),.int .i64 h2,.int .i64 x3,.pointer (some ⟨4,1,none⟩),.slice (some ⟨0,0,none⟩) 5 cp,.pointer (some ⟨0,3,none⟩),.pointer (some ⟨0,3,none⟩),.int .i64 h1,.int .i64 x4,.bool false,.bool false,ud,v0,.slice ok nk ck,.slice (some ⟨22,0,none⟩) 5 5,.pointer (some ⟨4,1,none⟩),.slice (some ⟨0,0,none⟩) 5 cp,.pointer (some ⟨0,0,none⟩),.agg ⟨[.int .i64 h0,.int .i64 l0,.int .i64 u0]⟩,.pointer (some ⟨4,1,none⟩),.slice (some ⟨0,0,none⟩) 5 cp,.pointer (some ⟨0,6,none⟩),.agg ⟨[.int .i64 h2,.int .i64 l2,.int .i64 u2]⟩,.slice (some ⟨23,0,none⟩) 2 2,.agg ⟨[.int .i64 (.ofNat 0),.slice (some ⟨23,0,none⟩) 2 2,.slice none 0 0,.slice none 0 0]⟩,.tuple ⟨[.int .i64 x37,.int .i64 (.ofNat 0)]⟩,.agg ⟨[.int .i64 (.ofNat 0),.slice (some ⟨23,0,none⟩) 2 2,.slice none 0 0,.slice none 0 0]⟩,.slice (some ⟨22,0,none⟩) 5 5,.pointer (some ⟨22,0,none⟩),.int .i64 x9,.slice (some ⟨22,0,none⟩) 5 5,.pointer (some ⟨22,2,none⟩),.int .i64 x19,.slice (some ⟨25,0,none⟩) 2 2,.pointer (some ⟨4,1,none⟩),.slice (some ⟨0,0,none⟩) 5 cp,.pointer (some ⟨0,3,none⟩),.pointer (some ⟨0,3,none⟩),.int .i64 h1,.tuple ⟨[.int .i64 x37,.int .i64 (.ofNat 0)]⟩,.int .i64 x37,.int .i64 (.ofNat 0),.slice (some ⟨22,0,none⟩) 5 5,.pointer (some ⟨22,0,none⟩),.int .i64 x9,.agg ⟨[.int .i64 x9,.int .i64 x9]⟩,.slice (some ⟨22,0,none⟩) 5 5,.pointer (some ⟨22,1,none⟩),.int .i64 x14,.agg ⟨[.int .i64 x14,.int .i64 x14]⟩,.slice (some ⟨22,0,none⟩) 5 5,.pointer (some ⟨22,2,none⟩),.int .i64 x19,.agg ⟨[.int .i64 x19,.int .i64 x19]⟩,.slice (some ⟨80,0,none⟩) 3 3,.agg ⟨[.int .i64 (.ofNat 0),.int .i64 (.ofNat 0),.int .i64 (.ofNat 0),.slice (some ⟨80,0,none⟩) 3 3,.slice none 0 0]⟩,.tuple ⟨[.slice (some ⟨115,0,none⟩) 1 1,.int .i64 (.ofNat 0)]⟩,.agg ⟨[.int .i64 (.ofNat 0),.int .i64 (.ofNat 0),.int .i64 (.ofNat 0),.slice (some ⟨80,0,none⟩) 3 3,.slice none 0 0]⟩,.slice (some ⟨22,0,none⟩) 5 5,.slice (some ⟨22,0,none⟩) 3 5,.tuple ⟨[.slice (some ⟨115,0,none⟩) 1 1,.int .i64 (.ofNat 0)]⟩,.slice (some ⟨115,0,none⟩) 1 1,.int .i64 (.ofNat 0),ud,.agg ⟨[.int .i64 (.ofNat 0),.int .i64 (.ofNat 0),.int .i64 (.ofNat 0),.slice (some ⟨80,0,none⟩) 3 3,.slice none 0 0]⟩,.slice (some ⟨22,0,none⟩) 5 5,.slice (some ⟨22,0,none⟩) 3 5]++ur 49⟩,[.drawn (opsAt 3 [1,1,1,1,1,1,1,0]) [(3,[]),(4,[]),(5,[]),(6,[]),(7,[]),(8,[])],.code (at_ 3 [1,1,1,1,1,1,1,1])],[],false,none,false⟩],⟨116,trL [(0,⟨.cells (pc5 h0 l0 u0 h1 l1 u1 h2 l2 u2 h3 l3 u3 h4 l4 u4) 0 (0,0),none,true,1⟩),(1,⟨.cells tc 0 (0,0),none,true,1⟩),(2,⟨.cells sc 0 (0,0),none,true,1⟩),(3,⟨.cells kc 0 (0,0),none,true,1⟩),(4,⟨(.cells ⟨[.int .i64 plank,.slice (some ⟨0,0,none⟩) 5 cp,.slice ot nt ct,.slice os ns cs]⟩ 26 (0,0)),none,false,0⟩),(22,⟨(.cells ⟨[.int .i64 x9,.int .i64 x14,.int .i64 x19,.int .i64 x24,.int .i64 x29]⟩ 3 (0,0)),(some 10),false,1⟩),(23,⟨(.cells ⟨[.int .i64 h0,.int .i64 l0,.int .i64 u0,.int .i64 h2,.int .i64 l2,.int .i64 u2]⟩ 32 (0,0)),none,false,0⟩),(24,⟨(.cells ⟨[.int .i64 (.ofNat 0),.slice (some ⟨23,0,none⟩) 2 2,.slice none 0 0,.slice none 0 0]⟩ 26 (0,0)),none,false,0⟩),(25,⟨(.cells ⟨[.int .i64 x9,.int .i64 x19]⟩ 3 (0,0)),none,false,0⟩),(73,⟨(.cells ⟨[.int .i64 (.ofNat 0),.int .i64 (.ofNat 0),.int .i64 (.ofNat 0),.slice (some ⟨80,0,none⟩) 3 3,.slice none 0 0]⟩ 43 (0,0)),none,false,0⟩),(80,⟨(.cells ⟨[.int .i64 x9,.int .i64 x9,.int .i64 x14,.int .i64 x14,.int .i64 x19,.int .i64 x19]⟩ 30 (0,0)),none,false,0⟩),(115,⟨(.cells ⟨[.int .i64 x43]⟩ 3 (0,0)),none,false,0⟩)],fmL [(10,[22])]⟩⟩
section
variable{plank h0 l0 u0 h1 l1 u1 h2 l2 u2 h3 l3 u3 h4 l4 u4:Int}{cp nt ct ns cs nk ck:Nat}{tc sc kc:Array Value}{ot os ok:Option Addr}{V:Prop}{x3 x4 x9 x14 x19 x24 x29 x36 x37 x43:Int}
noncomputable abbrev h29c0(plank h0 l0 u0 h1 l1 u1 h2 l2 u2 h3 l3 u3 h4 l4 u4:Int)(cp nt ct ns cs nk ck:Nat)(tc sc kc:Array Value)(ot os ok:Option Addr)(V:Prop):List Ct:=[⟨12,fun _ _=>[],4,fun _=>L4 (pc5 h0 l0 u0 h1 l1 u1 h2 l2 u2 h3 l3 u3 h4 l4 u4) tc sc kc,fun _=>⟨[(bv 5 plank cp ot nt ct os ns cs)]⟩,fun _=>True,fun _ x=>(x=0→V),fun x=>.int .i64 x⟩,⟨34,fun a _=>[parOf a 1],4,fun _=>L4 (pc5 h0 l0 u0 h1 l1 u1 h2 l2 u2 h3 l3 u3 h4 l4 u4) tc sc kc,fun ps=>⟨[.slice ok nk ck,.int .i64 (ps.headD 0)]⟩,fun _=>True,fun _ x=>(0≤x∧x≤65535),fun x=>.int .i64 x⟩,flC]
abbrev h29t0:HT:=.val 37 8 126 (.val 0 1 127 (.br 0 1 128 (.br 0 15 143 .no (.cut 0 3)) (.val 0 7 135 (.val 0 1 136 (.val 0 1 137 (.br 0 1 138 (.br 0 5 143 .no (.cut 0 3)) .no))))))
abbrev h29t1:HT:=.val 8 5 5 (.br 0 1 6 (.cut 31 3) (.val 0 4 10 (.br 0 1 11 (.cut 31 3) (.val 0 5 16 (.br 0 1 17 (.cut 31 3) (.call 3 3 (.br 0 1 9 .no (.cut 28 3))))))))
theorem Tryz.root5_3_t:∀v0:Bool,v0=(decide (x43=0))→tx (Tryz.X (h29c0 plank h0 l0 u0 h1 l1 u1 h2 l2 u2 h3 l3 u3 h4 l4 u4 cp nt ct ns cs nk ck tc sc kc ot os ok V)) (fun _=>False) (fun s=>chkB (Tryz.X []) 3 5 s=true) (.br 69 6 10 (.br 0 6 16 (.br 0 6 22 (.val 6 7 11 (.br 0 1 12 .no (.br 16 6 10 (.br 0 6 16 (.br 0 6 22 (.val 6 7 11 (.br 0 1 12 .no (.br 16 6 10 (.br 0 6 16 (.br 0 6 22 (.val 6 7 11 (.br 0 1 12 .no (.br 73 6 8 (.br 0 5 13 (.br 17 6 8 (.br 0 5 13 (.br 17 6 8 (.br 0 5 13 (.rk 29 2 (.val 20 12 26 (.val 7 12 26 (.val 16 12 26 (.br 23 5 6 h29t0 (.br 0 5 11 h29t0 (.val 35 12 26 (.val 7 12 26 (.val 16 12 26 (.val 59 12 26 (.val 7 12 26 (.val 16 12 26 (.br 15 5 15 (.val 19 8 126 (.val 0 1 127 (.br 0 1 128 (.br 0 15 143 (.cut 0 3) .no) .no))) .no))))))))))))) .no) .no) .no) .no) .no) .no))) .no) .no) .no))) .no) .no) .no))) .no) .no) .no) (Tryz.root5_s3 plank h0 l0 u0 h1 l1 u1 h2 l2 u2 h3 l3 u3 h4 l4 u4 cp nt ct ns cs nk ck tc sc kc ot os ok V x3 x4 x9 x14 x19 x24 x29 x36 x37 x43)=(BR (decide (0≤x9)) (BR (decide (x9≤x9)) (BR (decide (x9≤959)) (∀x44,x44=wi (x9 - x9)→BR (decide (x44≥3)) (False) (BR (decide (0≤x14)) (BR (decide (x14≤x14)) (BR (decide (x14≤959)) (∀x45,x45=wi (x14 - x14)→BR (decide (x45≥3)) (False) (BR (decide (0≤x19)) (BR (decide (x19≤x19)) (BR (decide (x19≤959)) (∀x46,x46=wi (x19 - x19)→BR (decide (x46≥3)) (False) (BR (decide (0≤x9)) (BR (decide (x9≤959)) (BR (decide (0≤x14)) (BR (decide (x14≤959)) (BR (decide (0≤x19)) (BR (decide (x19≤959)) (RK (((decide (x9=x9) && (decide (x14=x14) && (decide (x19=x19) && true))) && true)) (∀x47,x47=wi (x14 - x9)→∀x48,x48=wi (x19 - x14)→∀x49,x49=wi (x48 - x47)→BR (decide (x49 > 0)) (∀x50,x50=wi (x37 - x14)→∀x51,x51=wi (2 * x50)→BR (decide (x43=x51)) (BR v0 (False) ((true=true))) (∀x52,x52=wi (x37 - x14)→∀x53,x53=wi (2 * x52)→∀x54,x54=wi (x53+1)→BR (decide (x43=x54)) (BR v0 (False) ((true=true))) (False))) (BR (decide (x49 < 0)) (∀x55,x55=wi (x37 - x14)→∀x56,x56=wi (2 * x55)→BR (decide (x43=x56)) (BR v0 (False) ((true=true))) (∀x57,x57=wi (x37 - x14)→∀x58,x58=wi (2 * x57)→∀x59,x59=wi (x58+1)→BR (decide (x43=x59)) (BR v0 (False) ((true=true))) (False))) (∀x60,x60=wi (x14 - x9)→∀x61,x61=wi (x19 - x14)→∀x62,x62=wi (x61 - x60)→∀x63,x63=wi (x14 - x9)→∀x64,x64=wi (x19 - x14)→∀x65,x65=wi (x64 - x63)→BR (decide (x65=0)) (∀x66,x66=wi (x37 - x14)→∀x67,x67=wi (2 * x66)→BR (decide (x43=x67)) (BR v0 ((true=true)) (False)) (False)) (False))))) (False)) (False)) (False)) (False)) (False)) (False))) (False)) (False)) (False))) (False)) (False)) (False))) (False)) (False)) (False)):=by
 rintro _ rfl
 kernel_rfl
set_option maxHeartbeats 4000000 in
theorem Tryz.root5_3(hV:V→Pts [(h0,l0,u0),(h1,l1,u1),(h2,l2,u2),(h3,l3,u3),(h4,l4,u4)])(hn:True)(hc:∀c∈((h29c0 plank h0 l0 u0 h1 l1 u1 h2 l2 u2 h3 l3 u3 h4 l4 u4 cp nt ct ns cs nk ck tc sc kc ot os ok V):List Ct),CtOk Tryz.prog c)(hB:0≤x9∧x9≤959∧0≤x14∧x14≤959∧0≤x19∧x19≤959∧2 * x36≤x19 - x9∧x19 - x9≤2 * x36+1∧x37=x9+x36∧x43=x19 - x14 - (x14 - x9)):Runs Tryz.prog (fun s=>chkB (Tryz.X []) 3 5 s=true) (Tryz.root5_s3 plank h0 l0 u0 h1 l1 u1 h2 l2 u2 h3 l3 u3 h4 l4 u4 cp nt ct ns cs nk ck tc sc kc ot os ok V x3 x4 x9 x14 x19 x24 x29 x36 x37 x43):=by
 refine txK_use (Tryz.ok hc) (Tryz.root5_3_t _ rfl) ?_
 iterate 25 (first|refine BR.rr ?_|refine BR.ll ?_|refine va fun _ _=>?_|refine ⟨by simp,?_⟩)
 refine BR.mk (fun _=>?_) (fun _=>?_)
 ·
  iterate 2 refine va fun _ _=>?_
  refine BR.mk (fun _=>?_) (fun _=>?_)
  ·
   refine BR.rr ?_
   exact rfl
  iterate 5 (first|refine BR.rr ?_|refine BR.ll ?_|refine va fun _ _=>?_)
  exact rfl
 refine BR.mk (fun _=>?_) (fun _=>?_)
 ·
  iterate 2 refine va fun _ _=>?_
  refine BR.mk (fun _=>?_) (fun _=>?_)
  ·
   refine BR.rr ?_
   exact rfl
  iterate 5 (first|refine BR.rr ?_|refine BR.ll ?_|refine va fun _ _=>?_)
  exact rfl
 iterate 11 (first|refine BR.ll ?_|refine va fun _ _=>?_)
 exact rfl
end
section
variable{plank h0 l0 u0 h1 l1 u1 h2 l2 u2 h3 l3 u3 h4 l4 u4:Int}{cp nt ct ns cs nk ck:Nat}{tc sc kc:Array Value}{ot os ok:Option Addr}{V:Prop}{x3 x4 x9 x14 x19 x24 x29 x36 x37:Int}
theorem Tryz.root5_2_t:tx (Tryz.X (h29c0 plank h0 l0 u0 h1 l1 u1 h2 l2 u2 h3 l3 u3 h4 l4 u4 cp nt ct ns cs nk ck tc sc kc ot os ok V)) (fun _=>False) (fun s=>KF (Tryz.X []) 3 5 (atFn 10) [0,1,2,3,4,22,23,24,25,73,80,115] s) (.br 69 6 10 (.br 0 6 16 (.br 0 6 22 (.val 6 7 11 (.br 0 1 12 .no (.br 16 6 10 (.br 0 6 16 (.br 0 6 22 (.val 6 7 11 (.br 0 1 12 .no (.br 16 6 10 (.br 0 6 16 (.br 0 6 22 (.val 6 7 11 (.br 0 1 12 .no (.br 73 6 8 (.br 0 5 13 (.br 17 6 8 (.br 0 5 13 (.br 17 6 8 (.br 0 5 13 (.rk 29 2 (.val 16 12 26 (.val 7 12 26 (.val 16 12 26 (.cut 20 0))))) .no) .no) .no) .no) .no) .no))) .no) .no) .no))) .no) .no) .no))) .no) .no) .no) (Tryz.root5_s2 plank h0 l0 u0 h1 l1 u1 h2 l2 u2 h3 l3 u3 h4 l4 u4 cp nt ct ns cs nk ck tc sc kc ot os ok V x3 x4 x9 x14 x19 x24 x29 x36 x37)=(BR (decide (0≤x9)) (BR (decide (x9≤x9)) (BR (decide (x9≤959)) (∀x38,x38=wi (x9 - x9)→BR (decide (x38≥3)) (False) (BR (decide (0≤x14)) (BR (decide (x14≤x14)) (BR (decide (x14≤959)) (∀x39,x39=wi (x14 - x14)→BR (decide (x39≥3)) (False) (BR (decide (0≤x19)) (BR (decide (x19≤x19)) (BR (decide (x19≤959)) (∀x40,x40=wi (x19 - x19)→BR (decide (x40≥3)) (False) (BR (decide (0≤x9)) (BR (decide (x9≤959)) (BR (decide (0≤x14)) (BR (decide (x14≤959)) (BR (decide (0≤x19)) (BR (decide (x19≤959)) (RK (((decide (x9=x9) && (decide (x14=x14) && (decide (x19=x19) && true))) && true)) (∀x41,x41=wi (x14 - x9)→∀x42,x42=wi (x19 - x14)→∀x43,x43=wi (x42 - x41)→(Runs Tryz.prog (fun s=>chkB (Tryz.X []) 3 5 s=true) (Tryz.root5_s3 plank h0 l0 u0 h1 l1 u1 h2 l2 u2 h3 l3 u3 h4 l4 u4 cp nt ct ns cs nk ck tc sc kc ot os ok V x3 x4 x9 x14 x19 x24 x29 x36 x37 x43)))) (False)) (False)) (False)) (False)) (False)) (False))) (False)) (False)) (False))) (False)) (False)) (False))) (False)) (False)) (False)):=by kernel_rfl
set_option maxHeartbeats 4000000 in
theorem Tryz.root5_2(hV:V→Pts [(h0,l0,u0),(h1,l1,u1),(h2,l2,u2),(h3,l3,u3),(h4,l4,u4)])(hn:True)(hc:∀c∈((h29c0 plank h0 l0 u0 h1 l1 u1 h2 l2 u2 h3 l3 u3 h4 l4 u4 cp nt ct ns cs nk ck tc sc kc ot os ok V):List Ct),CtOk Tryz.prog c)(hB:0≤x9∧x9≤959∧0≤x14∧x14≤959∧0≤x19∧x19≤959∧2 * x36≤x19 - x9∧x19 - x9≤2 * x36+1∧x37=x9+x36):Runs Tryz.prog (fun s=>chkB (Tryz.X []) 3 5 s=true) (Tryz.root5_s2 plank h0 l0 u0 h1 l1 u1 h2 l2 u2 h3 l3 u3 h4 l4 u4 cp nt ct ns cs nk ck tc sc kc ot os ok V x3 x4 x9 x14 x19 x24 x29 x36 x37):=by
 refine KF_runs (txK_use (Tryz.ok hc) Tryz.root5_2_t ?_)
 iterate 25 (first|refine BR.rr ?_|refine BR.ll ?_|refine va fun _ _=>?_|refine ⟨by simp,?_⟩)
 exact Tryz.root5_3 hV hn hc (by omega)
end
section
variable{plank h0 l0 u0 h1 l1 u1 h2 l2 u2 h3 l3 u3 h4 l4 u4:Int}{cp nt ct ns cs nk ck:Nat}{tc sc kc:Array Value}{ot os ok:Option Addr}{V:Prop}{x3 x4 x9 x14 x19 x24 x29:Int}
theorem Tryz.root5_1_t:∀v0:Bool,v0=(decide (x19=x19) && true)→tx (Tryz.X (h29c0 plank h0 l0 u0 h1 l1 u1 h2 l2 u2 h3 l3 u3 h4 l4 u4 cp nt ct ns cs nk ck tc sc kc ot os ok V)) (fun _=>False) (fun s=>KF (Tryz.X []) 3 5 (atFn 9) [0,1,2,3,4,22,23,24,25,73,80] s) (.br 51 4 6 .no (.br 0 4 10 .no (.br 15 8 8 .no (.br 16 6 10 (.br 0 6 16 (.br 0 6 22 (.val 6 11 17 (.br 0 1 18 .no (.br 31 4 6 .no (.br 0 4 10 .no (.br 15 8 8 .no (.br 16 6 10 (.br 0 6 16 (.br 0 6 22 (.val 6 11 17 (.br 0 1 18 .no (.br 106 6 8 (.br 0 5 13 (.br 17 6 8 (.br 0 5 13 (.br 43 10 12 .no (.br 0 14 26 .no (.br 8 15 18 .no (.val 6 16 23 (.val 0 8 31 (.val 6 15 42 (.val 0 1 43 (.call 0 1 (.val 0 1 46 (.rk 9 9 (.rk 9 0 (.rk 9 0 (.rk 9 1 (.cut 6 0)))))))))))))) .no) .no) .no) .no))) .no) .no) .no)))))) .no) .no) .no)))) (Tryz.root5_s1 plank h0 l0 u0 h1 l1 u1 h2 l2 u2 h3 l3 u3 h4 l4 u4 cp nt ct ns cs nk ck tc sc kc ot os ok V x3 x4 x9 x14 x19 x24 x29)=(BR (decide (h0 < 0)) (False) (BR (decide (h0 > 959)) (False) (BR (decide (h0≤(-1))) (False) (BR (decide (0≤l0)) (BR (decide (l0≤u0)) (BR (decide (u0≤959)) (∀x30,x30=wi (u0 - l0)→BR (decide (x30≥3)) (False) (BR (decide (h2 < 0)) (False) (BR (decide (h2 > 959)) (False) (BR (decide (h2≤h0)) (False) (BR (decide (0≤l2)) (BR (decide (l2≤u2)) (BR (decide (u2≤959)) (∀x31,x31=wi (u2 - l2)→BR (decide (x31≥3)) (False) (BR (decide (0≤x9)) (BR (decide (x9≤959)) (BR (decide (0≤x19)) (BR (decide (x19≤959)) (BR (decide (h1 < h0)) (False) (BR (decide (h1 > h2)) (False) (BR (decide (h1 > h2)) (False) (∀x32,x32=wi (h2 - h0)→∀x33,x33=wi (x19 - x9)→∀x34,x34=wi (h1 - h0)→∀x35,x35=wi (x33 * x34)→((AE ⟨[.int .i64 x35,.int .i64 x32]⟩)∧(True)∧(0 < x32 ∧ -9000000000000≤x35∧x35≤9000000000000))∧∀x36:Int,(x36=x35 / x32)→RK ((decide (x9=x9) && true)) (∀x37,x37=wi (x9+x36)→RK ((decide (x9=x9) && (decide (x14=x14) && v0))) (RK ((decide (x14=x14) && v0)) (RK (v0) (RK (((decide (x9=x9) && (decide (x9=x9) && (decide (x14=x14) && (decide (x14=x14) && (decide (x19=x19) && v0))))) && true)) ((Runs Tryz.prog (fun s=>chkB (Tryz.X []) 3 5 s=true) (Tryz.root5_s2 plank h0 l0 u0 h1 l1 u1 h2 l2 u2 h3 l3 u3 h4 l4 u4 cp nt ct ns cs nk ck tc sc kc ot os ok V x3 x4 x9 x14 x19 x24 x29 x36 x37))))))))))) (False)) (False)) (False)) (False))) (False)) (False)) (False)))))) (False)) (False)) (False))))):=by
 rintro _ rfl
 kernel_rfl
set_option maxHeartbeats 4000000 in
theorem Tryz.root5_1(hV:V→Pts [(h0,l0,u0),(h1,l1,u1),(h2,l2,u2),(h3,l3,u3),(h4,l4,u4)])(hn:True)(hc:∀c∈((h29c0 plank h0 l0 u0 h1 l1 u1 h2 l2 u2 h3 l3 u3 h4 l4 u4 cp nt ct ns cs nk ck tc sc kc ot os ok V):List Ct),CtOk Tryz.prog c)(hB:0≤h0∧h4≤959∧h0+h2=2 * h1∧h0 < h1∧h1 < h2∧h2 < h3∧h3 < h4∧0≤x9∧x9≤959∧0≤x14∧x14≤959∧0≤x19∧x19≤959∧0≤l0∧l0≤u0∧u0≤959∧u0 - l0 < 3∧0≤l2∧l2≤u2∧u2≤959∧u2 - l2 < 3):Runs Tryz.prog (fun s=>chkB (Tryz.X []) 3 5 s=true) (Tryz.root5_s1 plank h0 l0 u0 h1 l1 u1 h2 l2 u2 h3 l3 u3 h4 l4 u4 cp nt ct ns cs nk ck tc sc kc ot os ok V x3 x4 x9 x14 x19 x24 x29):=by
 refine KF_runs (txK_use (Tryz.ok hc) (Tryz.root5_1_t _ rfl) ?_)
 iterate 27 (first|refine BR.rr ?_|refine BR.ll ?_|refine va fun _ _=>?_|refine vm (by omega) (by omega) (by omega) (by omega) fun _ _ _ _=>?_)
 refine ⟨⟨rfl,trivial,by omega⟩,fun x36 yF=>⟨by simp,?_⟩⟩
 have hF:=flB yF (by assumption) (by omega) (by omega) (by omega)
 iterate 5 (first|refine va fun _ _=>?_|refine ⟨by simp,?_⟩)
 exact Tryz.root5_2 hV hn hc (by omega)
end
section
variable{plank h0 l0 u0 h1 l1 u1 h2 l2 u2 h3 l3 u3 h4 l4 u4:Int}{cp nt ct ns cs nk ck:Nat}{tc sc kc:Array Value}{ot os ok:Option Addr}{V:Prop}
theorem Tryz.root5_t:∀v2:Bool,v2=(decide (l2=l2) && (decide (u2=u2) && true))→∀v3:Bool,v3=(decide (l0=l0) && (decide (u0=u0) && true))→∀v0:Bool,v0=((decide (cp=cp) && ((decide (h0=h0) && v3) && (decide (cp=cp) && ((decide (h2=h2) && v2) && ((decide (h0=h0) && (decide (l0=l0) && (decide (u0=u0) && (decide (h2=h2) && v2)))) && true))))))→∀v4:Array Value,v4=(pc5 h0 l0 u0 h1 l1 u1 h2 l2 u2 h3 l3 u3 h4 l4 u4)→∀v1:Prop,v1=(E4 v4 tc sc kc)→tx (Tryz.X (h29c0 plank h0 l0 u0 h1 l1 u1 h2 l2 u2 h3 l3 u3 h4 l4 u4 cp nt ct ns cs nk ck tc sc kc ot os ok V)) (fun _=>False) (fun s=>KF (Tryz.X []) 3 5 (atFn 7) [0,1,2,3,4,22,23,24,25] s) (.val 8 10 10 (.br 0 1 11 (.cut 31 3) (.val 0 5 16 (.br 0 1 17 (.cut 31 3) (.call 3 3 (.br 0 1 9 (.val 18 2 35 (.val 4 2 41 (.br 0 1 42 (.cut 1 3) (.call 11 9 (.val 4 8 12 (.val 0 1 13 (.ov 0 0 (.val 0 0 14 (.val 0 1 15 (.rk 2 1 (.call 8 9 (.val 4 8 12 (.val 0 1 13 (.ov 0 0 (.val 0 0 14 (.val 0 1 15 (.rk 2 1 (.call 8 9 (.val 4 8 12 (.val 0 1 13 (.ov 0 0 (.val 0 0 14 (.val 0 1 15 (.rk 2 1 (.call 8 9 (.val 4 8 12 (.val 0 1 13 (.ov 0 0 (.val 0 0 14 (.val 0 1 15 (.rk 2 1 (.call 8 9 (.val 4 8 12 (.val 0 1 13 (.ov 0 0 (.val 0 0 14 (.val 0 1 15 (.rk 2 1 (.rk 11 8 (.rk 0 1 (.rk 3 7 (.cut 1 0)))))))))))))))))))))))))))))))))))))))))) (.cut 28 3))))))) ⟨AFr.enter Tryz.prog 3 ⟨[(bv 5 plank cp ot nt ct os ns cs),.slice ok nk ck]⟩,[],hOf 4 (L4 v4 tc sc kc)⟩=(∀x0,x0=((nt:Nat):Int)→BR (decide (x0 > 20)) ((true=true)) (∀x1,x1=((ns:Nat):Int)→BR (decide (x1 > 20)) ((true=true)) (((AE ⟨[(bv 5 plank cp ot nt ct os ns cs)]⟩)∧v1∧True)∧∀x2:Int,(x2=0→V)→RK (true) (BR (decide (x2=0)) (∀x3,x3=wi (h0+h2)→∀x4,x4=wi (2 * h1)→BR (!decide (x3=x4)) ((true=true)) (((AE ⟨[.slice ok nk ck,.int .i64 0]⟩)∧v1∧True)∧∀x5:Int,(0≤x5∧x5≤65535)→RK ((decide (cp=cp) && (v3 && true))) (∀x6,x6=wi (u0 - l0)→∀x7,x7=wi (x6+1)→((x7:Int)≠0)∧∀x8,x8=Int.tmod x5 x7→∀x9,x9=wi (l0+x8)→RK (((decide (x9=x9) && true) && true)) (((AE ⟨[.slice ok nk ck,.int .i64 1]⟩)∧v1∧True)∧∀x10:Int,(0≤x10∧x10≤65535)→RK ((decide (cp=cp) && ((decide (l1=l1) && (decide (u1=u1) && true)) && true))) (∀x11,x11=wi (u1 - l1)→∀x12,x12=wi (x11+1)→((x12:Int)≠0)∧∀x13,x13=Int.tmod x10 x12→∀x14,x14=wi (l1+x13)→RK (((decide (x14=x14) && true) && true)) (((AE ⟨[.slice ok nk ck,.int .i64 2]⟩)∧v1∧True)∧∀x15:Int,(0≤x15∧x15≤65535)→RK ((decide (cp=cp) && (v2 && true))) (∀x16,x16=wi (u2 - l2)→∀x17,x17=wi (x16+1)→((x17:Int)≠0)∧∀x18,x18=Int.tmod x15 x17→∀x19,x19=wi (l2+x18)→RK (((decide (x19=x19) && true) && true)) (((AE ⟨[.slice ok nk ck,.int .i64 3]⟩)∧v1∧True)∧∀x20:Int,(0≤x20∧x20≤65535)→RK ((decide (cp=cp) && ((decide (l3=l3) && (decide (u3=u3) && true)) && true))) (∀x21,x21=wi (u3 - l3)→∀x22,x22=wi (x21+1)→((x22:Int)≠0)∧∀x23,x23=Int.tmod x20 x22→∀x24,x24=wi (l3+x23)→RK (((decide (x24=x24) && true) && true)) (((AE ⟨[.slice ok nk ck,.int .i64 4]⟩)∧v1∧True)∧∀x25:Int,(0≤x25∧x25≤65535)→RK ((decide (cp=cp) && ((decide (l4=l4) && (decide (u4=u4) && true)) && true))) (∀x26,x26=wi (u4 - l4)→∀x27,x27=wi (x26+1)→((x27:Int)≠0)∧∀x28,x28=Int.tmod x25 x27→∀x29,x29=wi (l4+x28)→RK (((decide (x29=x29) && true) && true)) (RK v0 (RK v0 (RK ((decide (x9=x9) && (decide (x19=x19) && ((decide (x9=x9) && (decide (x19=x19) && true)) && true)))) ((Runs Tryz.prog (fun s=>chkB (Tryz.X []) 3 5 s=true) (Tryz.root5_s1 plank h0 l0 u0 h1 l1 u1 h2 l2 u2 h3 l3 u3 h4 l4 u4 cp nt ct ns cs nk ck tc sc kc ot os ok V x3 x4 x9 x14 x19 x24 x29))))))))))))))))) ((true=true)))))):=by
 rintro _ rfl _ rfl _ rfl _ rfl _ rfl
 kernel_rfl
set_option maxHeartbeats 4000000 in
theorem Tryz.root5(hV:V→Pts [(h0,l0,u0),(h1,l1,u1),(h2,l2,u2),(h3,l3,u3),(h4,l4,u4)])(hn:True)(hc:∀c∈((h29c0 plank h0 l0 u0 h1 l1 u1 h2 l2 u2 h3 l3 u3 h4 l4 u4 cp nt ct ns cs nk ck tc sc kc ot os ok V):List Ct),CtOk Tryz.prog c):Runs Tryz.prog (fun s=>chkB (Tryz.X []) 3 5 s=true) ⟨AFr.enter Tryz.prog 3 ⟨[(bv 5 plank cp ot nt ct os ns cs),.slice ok nk ck]⟩,[],hOf 4 (L4 (pc5 h0 l0 u0 h1 l1 u1 h2 l2 u2 h3 l3 u3 h4 l4 u4) tc sc kc)⟩:=by
 refine KF_runs (txK_use (Tryz.ok hc) (Tryz.root5_t _ rfl _ rfl _ rfl _ rfl _ rfl) ?_)
 intro x0 _
 refine BR.mk (fun _=>?_) (fun _=>?_)
 ·
  exact rfl
 intro x1 _
 refine BR.mk (fun _=>?_) (fun _=>?_)
 ·
  exact rfl
 refine ⟨⟨rfl,E4i,trivial⟩,fun x2 yV=>⟨rfl,?_⟩⟩
 have hP:x2=0→Pts [(h0,l0,u0),(h1,l1,u1),(h2,l2,u2),(h3,l3,u3),(h4,l4,u4)]:=fun h=>hV (yV h)
 simp only [Pts,PtsF,and_true] at hP
 refine BR.mk (fun _=>?_) (fun _=>?_)
 ·
  iterate 2 refine va fun _ _=>?_
  refine BR.nm (fun _=>?_) (fun _=>?_)
  ·
   exact rfl
  refine ⟨⟨rfl,E4i,trivial⟩,fun x5 _=>⟨by simp,?_⟩⟩
  iterate 6 (first|refine va fun _ _=>?_|refine vs fun _ _ _=>?_|refine ⟨by omega,?_⟩|refine ⟨by simp,?_⟩)
  refine ⟨⟨rfl,E4i,trivial⟩,fun x10 _=>⟨by simp,?_⟩⟩
  iterate 6 (first|refine va fun _ _=>?_|refine vs fun _ _ _=>?_|refine ⟨by omega,?_⟩|refine ⟨by simp,?_⟩)
  refine ⟨⟨rfl,E4i,trivial⟩,fun x15 _=>⟨by simp,?_⟩⟩
  iterate 6 (first|refine va fun _ _=>?_|refine vs fun _ _ _=>?_|refine ⟨by omega,?_⟩|refine ⟨by simp,?_⟩)
  refine ⟨⟨rfl,E4i,trivial⟩,fun x20 _=>⟨by simp,?_⟩⟩
  iterate 6 (first|refine va fun _ _=>?_|refine vs fun _ _ _=>?_|refine ⟨by omega,?_⟩|refine ⟨by simp,?_⟩)
  refine ⟨⟨rfl,E4i,trivial⟩,fun x25 _=>⟨by simp,?_⟩⟩
  iterate 9 (first|refine va fun _ _=>?_|refine vs fun _ _ _=>?_|refine ⟨by omega,?_⟩|refine ⟨by simp,?_⟩)
  exact Tryz.root5_1 hV hn hc (by omega)
 exact rfl
end
end Go.Am
namespace Go.Am
open Go.Proofs
theorem lfx{x:Int}(h:0≤x∧x≤65535):∀_:AH,∃y:Int,(0≤y∧y≤65535)∧Value.int .i64 x = .int .i64 y:=fun _=>⟨x,h,rfl⟩
def bm(plank:Int)(op:Option Addr)(np cp:Nat)(ot:Option Addr)(nt ct:Nat)(os:Option Addr)(ns cs:Nat):Value:=.agg ⟨[.int .i64 plank,.slice op np cp,.slice ot nt ct,.slice os ns cs]⟩
section
variable{k:Int}{nk ck:Nat}{pc tc sc kc:Array Value}
theorem Tryz.ch_t(Q:Value→Prop)(K:AS→Prop):tx (Tryz.X []) Q K (.br 1 5 6 (.val 0 4 10 (.br 0 1 11 (.ov 1 5 (.lod 0 0 .u16 (.val 0 1 17 (.ret 2 1)))) (.ret 4 1))) (.ret 4 1)) ⟨AFr.enter Tryz.prog 34 ⟨[.slice (some ⟨3,0,none⟩) nk ck,.int .i64 k]⟩,[],hOf 4 (L4 pc tc sc kc)⟩=(BR (decide (k≥0)) (∀x0,x0=((nk:Nat):Int)→BR (decide (k < x0)) (((0:Int)≤k∧k < ((nk:Nat):Int))∧∃x2:Int,nth kc.toList (0+Int.toNat k * 1)=some (.int .u16 x2)∧∀x3,x3=wi x2→Q (.int .i64 x3)) (Q (.int .i64 0))) (Q (.int .i64 0))):=by kernel_rfl
theorem Tryz.ch(hk:∀i:Nat,i < nk→∃x:Int,nth kc.toList i=some (.int .u16 x)∧0≤x∧x≤65535):Rets Tryz.prog (fun v _=>∃x:Int,(0≤x∧x≤65535)∧v = .int .i64 x) ⟨AFr.enter Tryz.prog 34 ⟨[.slice (some ⟨3,0,none⟩) nk ck,.int .i64 k]⟩,[],hOf 4 (L4 pc tc sc kc)⟩:=by
 refine txR_use (Tryz.ok noCt) (Tryz.ch_t _ _) ?_
 refine BR.mk (fun _=>?_) fun _=>lfx (by omega)
 intro x0 _
 refine BR.mk (fun _=>?_) fun _=>lfx (by omega)
 refine ⟨⟨by omega,by omega⟩,?_⟩
 obtain ⟨x2,hx,_,_⟩:=hk (Int.toNat k) (by omega)
 refine ⟨x2,by rw [show 0+Int.toNat k * 1=Int.toNat k by omega];exact hx,?_⟩
 refine va fun x3 _=>?_
 exact lfx (by omega)
end
section
variable{k:Int}{ck:Nat}{pc tc sc kc:Array Value}{ok:Option Addr}
theorem Tryz.ch0_t(Q:Value→Prop)(K:AS→Prop):tx (Tryz.X []) Q K (.br 1 5 6 (.br 0 5 11 .no (.ret 4 1)) (.ret 4 1)) ⟨AFr.enter Tryz.prog 34 ⟨[.slice ok 0 ck,.int .i64 k]⟩,[],hOf 4 (L4 pc tc sc kc)⟩=(BR (decide (k≥0)) (BR (decide (k < 0)) (False) (Q (.int .i64 0))) (Q (.int .i64 0))):=by kernel_rfl
theorem Tryz.ch0:Rets Tryz.prog (fun v _=>∃x:Int,(0≤x∧x≤65535)∧v = .int .i64 x) ⟨AFr.enter Tryz.prog 34 ⟨[.slice ok 0 ck,.int .i64 k]⟩,[],hOf 4 (L4 pc tc sc kc)⟩:=by
 refine txR_use (Tryz.ok noCt) (Tryz.ch0_t _ _) ?_
 refine BR.mk (fun _=>?_) fun _=>lfx (by omega)
 refine BR.rr ?_
 exact lfx (by omega)
end
section
variable{plank:Int}{pv tv sv:Value}
theorem Tryz.cbm_t(Q:Value→Prop)(K:AS→Prop):tx (Tryz.X [⟨42,fun _ _=>[],4,fun _=>[],fun _=>⟨[pv]⟩,fun _=>True,fun _ x=>(¬x=0),fun x=>.int .i64 x⟩]) Q K (.br 3 5 9 (.br 0 4 13 (.call 5 5 (.br 1 4 13 (.ret 3 1) .no)) (.ret 6 1)) (.ret 6 1)) ⟨AFr.enter Tryz.prog 12 ⟨[.agg ⟨[.int .i64 plank,pv,tv,sv]⟩]⟩,[],hOf 4 []⟩=(BR (decide (0≤plank)) (BR (decide (plank≤20)) (((AE ⟨[pv]⟩)∧(True)∧True)∧∀x0:Int,(¬x0=0)→RK (true) (BR (!decide (x0=0)) (Q (.int .i64 x0)) (False))) (Q (.int .i64 1))) (Q (.int .i64 1))):=by kernel_rfl
theorem Tryz.cbm(hc:∀c∈([⟨42,fun _ _=>[],4,fun _=>[],fun _=>⟨[pv]⟩,fun _=>True,fun _ x=>(¬x=0),fun x=>.int .i64 x⟩]:List Ct),CtOk Tryz.prog c):Rets Tryz.prog (fun v _=>∃x:Int,(x=0→False)∧v = .int .i64 x) ⟨AFr.enter Tryz.prog 12 ⟨[.agg ⟨[.int .i64 plank,pv,tv,sv]⟩]⟩,[],hOf 4 []⟩:=by
 refine txR_use (Tryz.ok hc) (Tryz.cbm_t _ _) ?_
 iterate 2 refine BR.mk (fun _=>?_) fun _=>lfn (by omega)
 refine ⟨⟨rfl,trivial,trivial⟩,fun x0 _=>⟨rfl,?_⟩⟩
 refine BR.nl (by omega) ?_
 exact fun _=>⟨_,fun e=>by omega,rfl⟩
end
section
variable{plank:Int}{np cp nt ct ns cs nk ck:Nat}{op ot os ok:Option Addr}
theorem Tryz.rootm_t:∀v0:Value,v0=(bm plank op np cp ot nt ct os ns cs)→tx (Tryz.X [⟨12,fun _ _=>[],4,fun _=>[],fun _=>⟨[v0]⟩,fun _=>True,fun _ x=>(¬x=0),fun x=>.int .i64 x⟩]) (fun _=>False) (fun s=>chkB (Tryz.X []) 3 5 s=true) h29t1 ⟨AFr.enter Tryz.prog 3 ⟨[v0,.slice ok nk ck]⟩,[],hOf 4 []⟩=(∀x0,x0=((np:Nat):Int)→BR (decide (x0 > 20)) ((true=true)) (∀x1,x1=((nt:Nat):Int)→BR (decide (x1 > 20)) ((true=true)) (∀x2,x2=((ns:Nat):Int)→BR (decide (x2 > 20)) ((true=true)) (((AE ⟨[v0]⟩)∧(True)∧True)∧∀x3:Int,(¬x3=0)→RK (true) (BR (decide (x3=0)) (False) ((true=true))))))):=by
 rintro _ rfl
 kernel_rfl
set_option maxHeartbeats 4000000 in
theorem Tryz.rootm(hc:∀c∈([⟨12,fun _ _=>[],4,fun _=>[],fun _=>⟨[(bm plank op np cp ot nt ct os ns cs)]⟩,fun _=>True,fun _ x=>(¬x=0),fun x=>.int .i64 x⟩]:List Ct),CtOk Tryz.prog c):Runs Tryz.prog (fun s=>chkB (Tryz.X []) 3 5 s=true) ⟨AFr.enter Tryz.prog 3 ⟨[(bm plank op np cp ot nt ct os ns cs),.slice ok nk ck]⟩,[],hOf 4 []⟩:=by
 refine txK_use (Tryz.ok hc) (Tryz.rootm_t _ rfl) ?_
 intro x0 _
 refine BR.mk (fun _=>?_) (fun _=>?_)
 ·
  exact rfl
 intro x1 _
 refine BR.mk (fun _=>?_) (fun _=>?_)
 ·
  exact rfl
 intro x2 _
 refine BR.mk (fun _=>?_) (fun _=>?_)
 ·
  exact rfl
 refine ⟨⟨rfl,trivial,trivial⟩,fun x3 yV=>⟨rfl,?_⟩⟩
 refine BR.rr ?_
 exact rfl
end
section
variable{plank:Int}{np cp nt ct ns cs nk ck:Nat}{op ot os ok:Option Addr}{pc tc sc kc:Array Value}
theorem Tryz.rootv_t:∀v0:Value,v0=(bm plank op np cp ot nt ct os ns cs)→tx (Tryz.X [⟨12,fun _ _=>[],4,fun _=>L4 pc tc sc kc,fun _=>⟨[v0]⟩,fun _=>True,fun _ x=>(¬x=0),fun x=>.int .i64 x⟩]) (fun _=>False) (fun s=>chkB (Tryz.X []) 3 5 s=true) h29t1 ⟨AFr.enter Tryz.prog 3 ⟨[v0,.slice ok nk ck]⟩,[],hOf 4 (L4 pc tc sc kc)⟩=(∀x0,x0=((np:Nat):Int)→BR (decide (x0 > 20)) ((true=true)) (∀x1,x1=((nt:Nat):Int)→BR (decide (x1 > 20)) ((true=true)) (∀x2,x2=((ns:Nat):Int)→BR (decide (x2 > 20)) ((true=true)) (((AE ⟨[v0]⟩)∧(E4 pc tc sc kc)∧True)∧∀x3:Int,(¬x3=0)→RK (true) (BR (decide (x3=0)) (False) ((true=true))))))):=by
 rintro _ rfl
 kernel_rfl
set_option maxHeartbeats 4000000 in
theorem Tryz.rootv(hc:∀c∈([⟨12,fun _ _=>[],4,fun _=>L4 pc tc sc kc,fun _=>⟨[(bm plank op np cp ot nt ct os ns cs)]⟩,fun _=>True,fun _ x=>(¬x=0),fun x=>.int .i64 x⟩]:List Ct),CtOk Tryz.prog c):Runs Tryz.prog (fun s=>chkB (Tryz.X []) 3 5 s=true) ⟨AFr.enter Tryz.prog 3 ⟨[(bm plank op np cp ot nt ct os ns cs),.slice ok nk ck]⟩,[],hOf 4 (L4 pc tc sc kc)⟩:=by
 refine txK_use (Tryz.ok hc) (Tryz.rootv_t _ rfl) ?_
 intro x0 _
 refine BR.mk (fun _=>?_) (fun _=>?_)
 ·
  exact rfl
 intro x1 _
 refine BR.mk (fun _=>?_) (fun _=>?_)
 ·
  exact rfl
 intro x2 _
 refine BR.mk (fun _=>?_) (fun _=>?_)
 ·
  exact rfl
 refine ⟨⟨rfl,E4i,trivial⟩,fun x3 yV=>⟨rfl,?_⟩⟩
 refine BR.rr ?_
 exact rfl
end
end Go.Am
namespace Go.Am
open Go.Proofs
def encT:List (Int×Int×Int×Int)→List Value
 | []=>[]
 | (f,t,a,b) :: r=>.int .i64 f :: .int .i64 t :: .int .i64 a :: .int .i64 b :: encT r
def encS:List (Int×Int×Bool)→List Value
 | []=>[]
 | (g,m,w) :: r=>.int .i64 g :: .int .i64 m :: .bool w :: encS r
def encK:List Int→List Value
 | []=>[]
 | n :: r=>.int .u16 n :: encK r
def V2(np:Nat)(tps:List (Int×Int×Int×Int)):Prop:=tps.length≤3∧Tps np tps
def V3(lo hi:Int)(sts:List (Int×Int×Bool)):Prop:=sts.length≤3∧Sts lo hi (sts.map fun x=>(x.1,x.2.1))
theorem encT_plain:∀l,∀x∈encT l,Plain x
 | [],x,h=>absurd h List.not_mem_nil
 | (f,t,a,b) :: r,x,h=>by
   simp only [encT,List.mem_cons] at h
   rcases h with rfl|rfl|rfl|rfl|h
   iterate 4 exact .int _ _
   exact encT_plain r x h
theorem encS_plain:∀l,∀x∈encS l,Plain x
 | [],x,h=>absurd h List.not_mem_nil
 | (g,m,w) :: r,x,h=>by
   simp only [encS,List.mem_cons] at h
   rcases h with rfl|rfl|rfl|h
   ·exact .int _ _
   ·exact .int _ _
   ·exact .bool _
   ·exact encS_plain r x h
theorem encK_plain:∀l,∀x∈encK l,Plain x
 | [],x,h=>absurd h List.not_mem_nil
 | n :: r,x,h=>by
   simp only [encK,List.mem_cons] at h
   rcases h with rfl|h
   ·exact .int _ _
   ·exact encK_plain r x h
theorem stL4{pc tc sc kc:Array Value}(h1:∀x∈pc,Plain x)(h2:∀x∈tc,Plain x)(h3:∀x∈sc,Plain x)(h4:∀x∈kc,Plain x):StL 4 (L4 pc tc sc kc):=by
 refine ⟨fun p hp=>?_,fun p hp=>?_,by simp [L4]⟩
 · simp only [L4,List.mem_cons,List.not_mem_nil,or_false] at hp
   rcases hp with rfl|rfl|rfl|rfl<;>simp
 · simp only [L4,List.mem_cons,List.not_mem_nil,or_false] at hp
   rcases hp with rfl|rfl|rfl|rfl
   ·exact ⟨pc,_,_,rfl,h1⟩
   ·exact ⟨tc,_,_,rfl,h2⟩
   ·exact ⟨sc,_,_,rfl,h3⟩
   ·exact ⟨kc,_,_,rfl,h4⟩
theorem okSl{p:Nat→Prop}{o:Option Addr}{n c:Nat}(h:∀a,o=some a→p a.block):OkV p (.slice o n c):=by
 cases o with
 | none=>exact .nilslice n c
 | some a=>exact .slice (h a rfl)
def InB(b:Nat)(n:Nat)(o:Option Addr):Prop:=(n≠0→o=some ⟨b,0,none⟩)∧∀a,o=some a→a.block=b
theorem InB.ok{b n c m:Nat}{o:Option Addr}(h:InB b n o)(hb:b < m):OkV (· < m) (.slice o n c):=okSl fun a e=>by rw [h.2 a e];exact hb
theorem okBook{m n1 n2 n3 c1 c2 c3:Nat}{plank:Int}{o1 o2 o3:Option Addr}(hm:3≤m)(h1:InB 0 n1 o1)(h2:InB 1 n2 o2)(h3:InB 2 n3 o3):OkV (· < m) (.agg ⟨[.int .i64 plank,.slice o1 n1 c1,.slice o2 n2 c2,.slice o3 n3 c3]⟩):=by
 refine .agg fun x hx=>?_
 simp only [List.mem_toArray,List.mem_cons,List.not_mem_nil,or_false] at hx
 rcases hx with rfl|rfl|rfl|rfl
 · exact .int _ _
 · exact h1.ok (by omega)
 · exact h2.ok (by omega)
 · exact h3.ok (by omega)
theorem mem1{α:Type}{a x:α}(h:x∈(⟨[a]⟩:Array α)):x=a:=by simpa using h
section
variable{np:Nat}(hnp:2≤np∧np≤5){plank:Int}{pc sc kc tc:Array Value}{op ot os:Option Addr}{cp ct cs:Nat}{tps:List (Int×Int×Int×Int)}{sts:List (Int×Int×Bool)}{lo hi:Int}
include hnp
theorem ctTapes{sv:Value}(ho:InB 1 tps.length ot):Rets Tryz.prog (fun v _=>∃x:Int,(x=0→V2 np tps)∧v = .int .i64 x) ⟨AFr.enter Tryz.prog 43 ⟨[.agg ⟨[.int .i64 plank,.slice op np cp,.slice ot tps.length ct,sv]⟩]⟩,[],hOf 4 (L4 pc ⟨encT tps⟩ sc kc)⟩:=by
 have up:∀ {s:AS} {V W:Prop},(V→W)→Rets Tryz.prog (fun v _=>∃x:Int,(x=0→V)∧v = .int .i64 x) s→Rets Tryz.prog (fun v _=>∃x:Int,(x=0→W)∧v = .int .i64 x) s:=
   fun h r=>r.mono fun v _ ⟨x,h1,h2⟩=>⟨x,fun e=>h (h1 e),h2⟩
 match tps,ho with
 | [],ho=>exact up (fun h=>⟨by decide,h⟩) (Tryz.ct0 hnp)
 | [(f0,t0,a0,b0)],ho=>obtain rfl:=ho.1 (by simp);exact up (fun h=>⟨by simp,h⟩) (Tryz.ct1 hnp)
 | [(f0,t0,a0,b0),(f1,t1,a1,b1)],ho=>obtain rfl:=ho.1 (by simp);exact up (fun h=>⟨by simp,h⟩) (Tryz.ct2 hnp)
 | [(f0,t0,a0,b0),(f1,t1,a1,b1),(f2,t2,a2,b2)],ho=>obtain rfl:=ho.1 (by simp);exact up (fun h=>⟨by simp,h⟩) (Tryz.ct3 hnp)
 | a :: b :: c :: d :: r,ho=>exact up False.elim (Tryz.ctm (nt:=r.length+4) (by omega))
theorem ctSticks{tv:Value}(hlo:nth pc.toList 0=some (.int .i64 lo))(hhi:nth pc.toList ((np - 1) * 3)=some (.int .i64 hi))(ho:InB 2 sts.length os):Rets Tryz.prog (fun v _=>∃x:Int,(x=0→V3 lo hi sts)∧v = .int .i64 x) ⟨AFr.enter Tryz.prog 44 ⟨[.agg ⟨[.int .i64 plank,.slice (some ⟨0,0,none⟩) np cp,tv,.slice os sts.length cs]⟩]⟩,[],hOf 4 (L4 pc tc ⟨encS sts⟩ kc)⟩:=by
 have up:∀ {s:AS} {V W:Prop},(V→W)→Rets Tryz.prog (fun v _=>∃x:Int,(x=0→V)∧v = .int .i64 x) s→Rets Tryz.prog (fun v _=>∃x:Int,(x=0→W)∧v = .int .i64 x) s:=
   fun h r=>r.mono fun v _ ⟨x,h1,h2⟩=>⟨x,fun e=>h (h1 e),h2⟩
 match sts,ho with
 | [],ho=>exact up (fun h=>⟨by decide,h⟩) (Tryz.ck0 hnp hlo hhi)
 | [(g0,m0,w0)],ho=>obtain rfl:=ho.1 (by simp);exact up (fun h=>⟨by simp,h⟩) (Tryz.ck1 hnp hlo hhi)
 | [(g0,m0,w0),(g1,m1,w1)],ho=>obtain rfl:=ho.1 (by simp);exact up (fun h=>⟨by simp,h⟩) (Tryz.ck2 hnp hlo hhi)
 | [(g0,m0,w0),(g1,m1,w1),(g2,m2,w2)],ho=>obtain rfl:=ho.1 (by simp);exact up (fun h=>⟨by simp,h⟩) (Tryz.ck3 hnp hlo hhi)
 | a :: b :: c :: d :: r,ho=>exact up False.elim (Tryz.ckm (nt:=r.length+4) (by omega))
theorem ctBook{V1:Prop}(hpl:∀x∈pc,Plain x)(hkc:∀x∈kc,Plain x)(hlo:nth pc.toList 0=some (.int .i64 lo))(hhi:nth pc.toList ((np - 1) * 3)=some (.int .i64 hi))(hot:InB 1 tps.length ot)(hos:InB 2 sts.length os)
   (h1:Rets Tryz.prog (fun v _=>∃x:Int,(x=0→V1)∧v = .int .i64 x) ⟨AFr.enter Tryz.prog 42 ⟨[.slice (some ⟨0,0,none⟩) np cp]⟩,[],hOf 4 (L4 pc ⟨encT tps⟩ ⟨encS sts⟩ kc)⟩) :
   CtOk Tryz.prog ⟨12,fun _ _=>[],4,fun _=>L4 pc ⟨encT tps⟩ ⟨encS sts⟩ kc,fun _=>⟨[bv np plank cp ot tps.length ct os sts.length cs]⟩,fun _=>True,fun _ x=>(x=0→(0≤plank∧plank≤20)∧V1∧V2 np tps∧V3 lo hi sts),fun x=>.int .i64 x⟩:=by
 have st:=stL4 (tc:=⟨encT tps⟩) (sc:=⟨encS sts⟩) hpl (fun x hx=>encT_plain tps x (by simpa using hx)) (fun x hx=>encS_plain sts x (by simpa using hx)) hkc
 have h0:InB 0 np (some ⟨0,0,none⟩):=⟨fun _=>rfl,fun a e=>by cases e;rfl⟩
 refine ⟨fun p _=>?_,fun _ _=>st,fun p x hx=>?_,fun x=>.int _ _⟩
 · refine Tryz.cb (V1:=V1) (V2:=V2 np tps) (V3:=V3 lo hi sts) (conCt ⟨fun _ _=>h1,fun _ _=>st,fun p x hx=>?_,fun x=>.int _ _⟩ (conCt ⟨fun _ _=>ctTapes hnp hot,fun _ _=>st,fun p x hx=>?_,fun x=>.int _ _⟩ (conCt ⟨fun _ _=>ctSticks hnp hlo hhi hos,fun _ _=>st,fun p x hx=>?_,fun x=>.int _ _⟩ noCt)))
   ·rw [mem1 hx];exact h0.ok (m:=4) (by decide)
   ·rw [mem1 hx];exact okBook (m:=4) (by decide) h0 hot hos
   ·rw [mem1 hx];exact okBook (m:=4) (by decide) h0 hot hos
 · rw [mem1 hx];exact okBook (m:=4) (by decide) h0 hot hos
theorem snTapes{nt:Nat}{ns:Nat}(ho:InB 1 tps.length ot)(hv:V2 np tps):Rets Tryz.prog (fun v _=>∃x:Int,x=0∧v = .int .i64 x) ⟨AFr.enter Tryz.prog 130 ⟨[.agg ⟨[.int .i64 plank,.slice op np cp,.slice ot tps.length ct,.slice os ns cs]⟩]⟩,[],hOf 4 (L4 pc ⟨encT tps⟩ sc kc)⟩:=by
 match tps,ho,hv with
 | [],ho,hv=>exact Tryz.pt0 hnp hv.2
 | [(f0,t0,a0,b0)],ho,hv=>obtain rfl:=ho.1 (by simp);exact Tryz.pt1 hnp hv.2
 | [(f0,t0,a0,b0),(f1,t1,a1,b1)],ho,hv=>obtain rfl:=ho.1 (by simp);exact Tryz.pt2 hnp hv.2
 | [(f0,t0,a0,b0),(f1,t1,a1,b1),(f2,t2,a2,b2)],ho,hv=>obtain rfl:=ho.1 (by simp);exact Tryz.pt3 hnp hv.2
 | a :: b :: c :: d :: r,ho,hv=>exact absurd hv.1 (by simp)
theorem snSticks{tv:Value}(hlo:nth pc.toList 0=some (.int .i64 lo))(hhi:nth pc.toList ((np - 1) * 3)=some (.int .i64 hi))(ho:InB 2 sts.length os)(hv:V3 lo hi sts):Rets Tryz.prog (fun v _=>∃x:Int,x=0∧v = .int .i64 x) ⟨AFr.enter Tryz.prog 131 ⟨[.agg ⟨[.int .i64 plank,.slice (some ⟨0,0,none⟩) np cp,tv,.slice os sts.length cs]⟩]⟩,[],hOf 4 (L4 pc tc ⟨encS sts⟩ kc)⟩:=by
 match sts,ho,hv with
 | [],ho,hv=>exact Tryz.ps0 hnp hlo hhi hv.2
 | [(g0,m0,w0)],ho,hv=>obtain rfl:=ho.1 (by simp);exact Tryz.ps1 hnp hlo hhi hv.2
 | [(g0,m0,w0),(g1,m1,w1)],ho,hv=>obtain rfl:=ho.1 (by simp);exact Tryz.ps2 hnp hlo hhi hv.2
 | [(g0,m0,w0),(g1,m1,w1),(g2,m2,w2)],ho,hv=>obtain rfl:=ho.1 (by simp);exact Tryz.ps3 hnp hlo hhi hv.2
 | a :: b :: c :: d :: r,ho,hv=>exact absurd hv.1 (by simp)
theorem ctSnag(hpl:∀x∈pc,Plain x)(hkc:∀x∈kc,Plain x)(hlo:nth pc.toList 0=some (.int .i64 lo))(hhi:nth pc.toList ((np - 1) * 3)=some (.int .i64 hi))(hot:InB 1 tps.length ot)(hos:InB 2 sts.length os)(hp:0≤plank∧plank≤20)(h2:V2 np tps)(h3:V3 lo hi sts)
   (h1:Rets Tryz.prog (fun v _=>∃x:Int,x=0∧v = .int .i64 x) ⟨AFr.enter Tryz.prog 129 ⟨[bv np plank cp ot tps.length ct os sts.length cs]⟩,[],hOf 4 (L4 pc ⟨encT tps⟩ ⟨encS sts⟩ kc)⟩) :
   CtOk Tryz.prog ⟨96,fun _ _=>[],4,fun _=>L4 pc ⟨encT tps⟩ ⟨encS sts⟩ kc,fun _=>⟨[bv np plank cp ot tps.length ct os sts.length cs]⟩,fun _=>True,fun _ x=>x=0,fun x=>.int .i64 x⟩:=by
 have st:=stL4 (tc:=⟨encT tps⟩) (sc:=⟨encS sts⟩) hpl (fun x hx=>encT_plain tps x (by simpa using hx)) (fun x hx=>encS_plain sts x (by simpa using hx)) hkc
 have h0:InB 0 np (some ⟨0,0,none⟩):=⟨fun _=>rfl,fun a e=>by cases e;rfl⟩
 have okA:∀(p:List Int),∀x∈(⟨[bv np plank cp ot tps.length ct os sts.length cs]⟩:Array Value),OkV (· < 4) x:=fun p x hx=>by rw [mem1 hx];exact okBook (m:=4) (by decide) h0 hot hos
 refine ⟨fun p _=>?_,fun _ _=>st,okA,fun x=>.int _ _⟩
 exact Tryz.sn hp (conCt ⟨fun _ _=>h1,fun _ _=>st,okA,fun x=>.int _ _⟩ (conCt ⟨fun _ _=>snTapes (nt:=0) hnp hot h2,fun _ _=>st,okA,fun x=>.int _ _⟩ (conCt ⟨fun _ _=>snSticks hnp hlo hhi hos h3,fun _ _=>st,okA,fun x=>.int _ _⟩ noCt)))
end
end Go.Am
namespace Go.Am
open Go.Proofs
theorem ctChoice{pc tc sc:Array Value}{ok:Option Addr}{ck:Nat}{ks:List Int}(hpl:∀x∈pc,Plain x)(htc:∀x∈tc,Plain x)(hsc:∀x∈sc,Plain x)(hok:InB 3 ks.length ok)(hks:∀n∈ks,0≤n∧n≤65535) :
   CtOk Tryz.prog ⟨34,fun a _=>[parOf a 1],4,fun _=>L4 pc tc sc ⟨encK ks⟩,fun ps=>⟨[.slice ok ks.length ck,.int .i64 (ps.headD 0)]⟩,fun _=>True,fun _ x=>(0≤x∧x≤65535),fun x=>.int .i64 x⟩:=by
 refine ⟨fun p _=>?_,fun _ _=>stL4 hpl htc hsc (fun x hx=>encK_plain ks x (by simpa using hx)),fun p x hx=>?_,fun x=>.int _ _⟩
 · dsimp only
   generalize p.headD 0=k
   match ks,hok,hks with
   | [],hok,hks=>exact Tryz.ch0
   |n :: r,hok,hks=>
    obtain rfl:=hok.1 (by simp)
    refine Tryz.ch fun i hi=>?_
    have key:∀(l:List Int) (i:Nat),i < l.length→nth (encK l) i=some (.int .u16 (l.getD i 0))∧l.getD i 0∈l:=by
     intro l
     induction l with
     |nil=>intro i hi;exact absurd hi (Nat.not_lt_zero _)
     |cons a l ih=>
      intro i hi
      cases i with
      |zero=>exact ⟨rfl,by simp⟩
      |succ i=>
       obtain ⟨h1,h2⟩:=ih i (by simpa using hi)
       have e:(a :: l).getD (i+1) 0=l.getD i 0:=by simp [List.getD]
       rw [e]
       exact ⟨h1,.tail _ h2⟩
    obtain ⟨h1,h2⟩:=key (n :: r) i hi
    exact ⟨_,h1,hks _ h2⟩
 · simp only [List.mem_toArray,List.mem_cons,List.not_mem_nil,or_false] at hx
   rcases hx with rfl|rfl
   ·exact hok.ok (m:=4) (by decide)
   ·exact .int _ _
section
variable{plank:Int}{ot os ok:Option Addr}{cp ct cs ck:Nat}{tps:List (Int×Int×Int×Int)}{sts:List (Int×Int×Bool)}{ks:List Int}
theorem ctFl:CtOk Tryz.prog flC:=by
 unfold flC
 refine ⟨fun p hp=>Tryz.fl hp.1 hp.2.1 hp.2.2,fun _ _=>⟨by simp,by simp,by simp⟩,fun p x hx=>?_,fun x=>.int _ _⟩
 simp only [List.mem_toArray,List.mem_cons,List.not_mem_nil,or_false] at hx
 rcases hx with rfl|rfl<;>exact .int _ _
theorem pc2_plain(h0 l0 u0 h1 l1 u1:Int):∀x∈pc2 h0 l0 u0 h1 l1 u1,Plain x:=fun x hx=>by
 simp only [pc2,List.mem_toArray,List.mem_cons,List.not_mem_nil,or_false] at hx
 rcases hx with rfl|rfl|rfl|rfl|rfl|rfl<;>exact .int _ _
theorem run2{h0 l0 u0 h1 l1 u1:Int}(hot:InB 1 tps.length ot)(hos:InB 2 sts.length os)(hok:InB 3 ks.length ok)(hks:∀n∈ks,0≤n∧n≤65535)(hn:True) :
   Runs Tryz.prog (fun s=>chkB (Tryz.X []) 3 5 s=true) ⟨AFr.enter Tryz.prog 3 ⟨[bv 2 plank cp ot tps.length ct os sts.length cs,.slice ok ks.length ck]⟩,[],hOf 4 (L4 (pc2 h0 l0 u0 h1 l1 u1) ⟨encT tps⟩ ⟨encS sts⟩ ⟨encK ks⟩)⟩:=by
 have hpl:=pc2_plain h0 l0 u0 h1 l1 u1
 have htc:∀x∈(⟨encT tps⟩:Array Value),Plain x:=fun x hx=>encT_plain tps x (by simpa using hx)
 have hsc:∀x∈(⟨encS sts⟩:Array Value),Plain x:=fun x hx=>encS_plain sts x (by simpa using hx)
 have hkc:∀x∈(⟨encK ks⟩:Array Value),Plain x:=fun x hx=>encK_plain ks x (by simpa using hx)
 have hz:InB 0 2 (some ⟨0,0,none⟩):=⟨fun _=>rfl,fun a e=>by cases e;rfl⟩
 have hB:=ctBook (np:=2) (by decide) (plank:=plank) (cp:=cp) (ct:=ct) (cs:=cs) (lo:=h0) (hi:=h1) hpl hkc rfl rfl hot hos Tryz.cp2
 by_cases hV:(0≤plank∧plank≤20)∧Pts [(h0,l0,u0),(h1,l1,u1)]∧V2 2 tps∧V3 h0 h1 sts
 · have hS:=ctSnag (np:=2) (by decide) (plank:=plank) (cp:=cp) (ct:=ct) (cs:=cs) (lo:=h0) (hi:=h1) hpl hkc rfl rfl hot hos hV.1 hV.2.2.1 hV.2.2.2 (Tryz.pp2 hV.2.1)
   refine Tryz.root2 (fun h=>h.2.1) hn (conCt hB (conCt (ctChoice hpl htc hsc hok hks) (conCt ctFl noCt)))
 · exact Tryz.rootv (conCt ⟨fun p hp=>(hB.rets p hp).mono fun v _ ⟨x,h1,h2⟩=>⟨x,fun e=>hV (h1 e),h2⟩,hB.st,hB.okA,hB.okR⟩ noCt)
theorem pc3_plain(h0 l0 u0 h1 l1 u1 h2 l2 u2:Int):∀x∈pc3 h0 l0 u0 h1 l1 u1 h2 l2 u2,Plain x:=fun x hx=>by
 simp only [pc3,List.mem_toArray,List.mem_cons,List.not_mem_nil,or_false] at hx
 rcases hx with rfl|rfl|rfl|rfl|rfl|rfl|rfl|rfl|rfl<;>exact .int _ _
theorem run3{h0 l0 u0 h1 l1 u1 h2 l2 u2:Int}(hot:InB 1 tps.length ot)(hos:InB 2 sts.length os)(hok:InB 3 ks.length ok)(hks:∀n∈ks,0≤n∧n≤65535)(hn:True) :
   Runs Tryz.prog (fun s=>chkB (Tryz.X []) 3 5 s=true) ⟨AFr.enter Tryz.prog 3 ⟨[bv 3 plank cp ot tps.length ct os sts.length cs,.slice ok ks.length ck]⟩,[],hOf 4 (L4 (pc3 h0 l0 u0 h1 l1 u1 h2 l2 u2) ⟨encT tps⟩ ⟨encS sts⟩ ⟨encK ks⟩)⟩:=by
 have hpl:=pc3_plain h0 l0 u0 h1 l1 u1 h2 l2 u2
 have htc:∀x∈(⟨encT tps⟩:Array Value),Plain x:=fun x hx=>encT_plain tps x (by simpa using hx)
 have hsc:∀x∈(⟨encS sts⟩:Array Value),Plain x:=fun x hx=>encS_plain sts x (by simpa using hx)
 have hkc:∀x∈(⟨encK ks⟩:Array Value),Plain x:=fun x hx=>encK_plain ks x (by simpa using hx)
 have hz:InB 0 3 (some ⟨0,0,none⟩):=⟨fun _=>rfl,fun a e=>by cases e;rfl⟩
 have hB:=ctBook (np:=3) (by decide) (plank:=plank) (cp:=cp) (ct:=ct) (cs:=cs) (lo:=h0) (hi:=h2) hpl hkc rfl rfl hot hos Tryz.cp3
 by_cases hV:(0≤plank∧plank≤20)∧Pts [(h0,l0,u0),(h1,l1,u1),(h2,l2,u2)]∧V2 3 tps∧V3 h0 h2 sts
 · have hS:=ctSnag (np:=3) (by decide) (plank:=plank) (cp:=cp) (ct:=ct) (cs:=cs) (lo:=h0) (hi:=h2) hpl hkc rfl rfl hot hos hV.1 hV.2.2.1 hV.2.2.2 (Tryz.pp3 hV.2.1)
   refine Tryz.root3 (fun h=>h.2.1) hn (conCt hB (conCt (ctChoice hpl htc hsc hok hks) (conCt ctFl noCt)))
 · exact Tryz.rootv (conCt ⟨fun p hp=>(hB.rets p hp).mono fun v _ ⟨x,h1,h2⟩=>⟨x,fun e=>hV (h1 e),h2⟩,hB.st,hB.okA,hB.okR⟩ noCt)
theorem pc4_plain(h0 l0 u0 h1 l1 u1 h2 l2 u2 h3 l3 u3:Int):∀x∈pc4 h0 l0 u0 h1 l1 u1 h2 l2 u2 h3 l3 u3,Plain x:=fun x hx=>by
 simp only [pc4,List.mem_toArray,List.mem_cons,List.not_mem_nil,or_false] at hx
 rcases hx with rfl|rfl|rfl|rfl|rfl|rfl|rfl|rfl|rfl|rfl|rfl|rfl<;>exact .int _ _
theorem run4{h0 l0 u0 h1 l1 u1 h2 l2 u2 h3 l3 u3:Int}(hot:InB 1 tps.length ot)(hos:InB 2 sts.length os)(hok:InB 3 ks.length ok)(hks:∀n∈ks,0≤n∧n≤65535)(hn:True) :
   Runs Tryz.prog (fun s=>chkB (Tryz.X []) 3 5 s=true) ⟨AFr.enter Tryz.prog 3 ⟨[bv 4 plank cp ot tps.length ct os sts.length cs,.slice ok ks.length ck]⟩,[],hOf 4 (L4 (pc4 h0 l0 u0 h1 l1 u1 h2 l2 u2 h3 l3 u3) ⟨encT tps⟩ ⟨encS sts⟩ ⟨encK ks⟩)⟩:=by
 have hpl:=pc4_plain h0 l0 u0 h1 l1 u1 h2 l2 u2 h3 l3 u3
 have htc:∀x∈(⟨encT tps⟩:Array Value),Plain x:=fun x hx=>encT_plain tps x (by simpa using hx)
 have hsc:∀x∈(⟨encS sts⟩:Array Value),Plain x:=fun x hx=>encS_plain sts x (by simpa using hx)
 have hkc:∀x∈(⟨encK ks⟩:Array Value),Plain x:=fun x hx=>encK_plain ks x (by simpa using hx)
 have hz:InB 0 4 (some ⟨0,0,none⟩):=⟨fun _=>rfl,fun a e=>by cases e;rfl⟩
 have hB:=ctBook (np:=4) (by decide) (plank:=plank) (cp:=cp) (ct:=ct) (cs:=cs) (lo:=h0) (hi:=h3) hpl hkc rfl rfl hot hos Tryz.cp4
 by_cases hV:(0≤plank∧plank≤20)∧Pts [(h0,l0,u0),(h1,l1,u1),(h2,l2,u2),(h3,l3,u3)]∧V2 4 tps∧V3 h0 h3 sts
 · have hS:=ctSnag (np:=4) (by decide) (plank:=plank) (cp:=cp) (ct:=ct) (cs:=cs) (lo:=h0) (hi:=h3) hpl hkc rfl rfl hot hos hV.1 hV.2.2.1 hV.2.2.2 (Tryz.pp4 hV.2.1)
   refine Tryz.root4 (fun h=>h.2.1) hn (conCt hB (conCt (ctChoice hpl htc hsc hok hks) (conCt ctFl noCt)))
 · exact Tryz.rootv (conCt ⟨fun p hp=>(hB.rets p hp).mono fun v _ ⟨x,h1,h2⟩=>⟨x,fun e=>hV (h1 e),h2⟩,hB.st,hB.okA,hB.okR⟩ noCt)
theorem pc5_plain(h0 l0 u0 h1 l1 u1 h2 l2 u2 h3 l3 u3 h4 l4 u4:Int):∀x∈pc5 h0 l0 u0 h1 l1 u1 h2 l2 u2 h3 l3 u3 h4 l4 u4,Plain x:=fun x hx=>by
 simp only [pc5,List.mem_toArray,List.mem_cons,List.not_mem_nil,or_false] at hx
 rcases hx with rfl|rfl|rfl|rfl|rfl|rfl|rfl|rfl|rfl|rfl|rfl|rfl|rfl|rfl|rfl<;>exact .int _ _
theorem run5{h0 l0 u0 h1 l1 u1 h2 l2 u2 h3 l3 u3 h4 l4 u4:Int}(hot:InB 1 tps.length ot)(hos:InB 2 sts.length os)(hok:InB 3 ks.length ok)(hks:∀n∈ks,0≤n∧n≤65535)(hn:True) :
   Runs Tryz.prog (fun s=>chkB (Tryz.X []) 3 5 s=true) ⟨AFr.enter Tryz.prog 3 ⟨[bv 5 plank cp ot tps.length ct os sts.length cs,.slice ok ks.length ck]⟩,[],hOf 4 (L4 (pc5 h0 l0 u0 h1 l1 u1 h2 l2 u2 h3 l3 u3 h4 l4 u4) ⟨encT tps⟩ ⟨encS sts⟩ ⟨encK ks⟩)⟩:=by
 have hpl:=pc5_plain h0 l0 u0 h1 l1 u1 h2 l2 u2 h3 l3 u3 h4 l4 u4
 have htc:∀x∈(⟨encT tps⟩:Array Value),Plain x:=fun x hx=>encT_plain tps x (by simpa using hx)
 have hsc:∀x∈(⟨encS sts⟩:Array Value),Plain x:=fun x hx=>encS_plain sts x (by simpa using hx)
 have hkc:∀x∈(⟨encK ks⟩:Array Value),Plain x:=fun x hx=>encK_plain ks x (by simpa using hx)
 have hz:InB 0 5 (some ⟨0,0,none⟩):=⟨fun _=>rfl,fun a e=>by cases e;rfl⟩
 have hB:=ctBook (np:=5) (by decide) (plank:=plank) (cp:=cp) (ct:=ct) (cs:=cs) (lo:=h0) (hi:=h4) hpl hkc rfl rfl hot hos Tryz.cp5
 by_cases hV:(0≤plank∧plank≤20)∧Pts [(h0,l0,u0),(h1,l1,u1),(h2,l2,u2),(h3,l3,u3),(h4,l4,u4)]∧V2 5 tps∧V3 h0 h4 sts
 · have hS:=ctSnag (np:=5) (by decide) (plank:=plank) (cp:=cp) (ct:=ct) (cs:=cs) (lo:=h0) (hi:=h4) hpl hkc rfl rfl hot hos hV.1 hV.2.2.1 hV.2.2.2 (Tryz.pp5 hV.2.1)
   refine Tryz.root5 (fun h=>h.2.1) hn (conCt hB (conCt (ctChoice hpl htc hsc hok hks) (conCt ctFl noCt)))
 · exact Tryz.rootv (conCt ⟨fun p hp=>(hB.rets p hp).mono fun v _ ⟨x,h1,h2⟩=>⟨x,fun e=>hV (h1 e),h2⟩,hB.st,hB.okA,hB.okR⟩ noCt)
theorem runm{np nt ns nk b0 b1 b2 b3:Nat}{op:Option Addr}(hnp:¬(2≤np∧np≤5))(h0:InB 0 b0 op)(h1:InB 1 b1 ot)(h2:InB 2 b2 os) :
   Runs Tryz.prog (fun s=>chkB (Tryz.X []) 3 5 s=true) ⟨AFr.enter Tryz.prog 3 ⟨[bm plank op np cp ot nt ct os ns cs,.slice ok nk ck]⟩,[],hOf 4 []⟩:=by
 have st:StL 4 []:=⟨fun p hp=>absurd hp List.not_mem_nil,fun p hp=>absurd hp List.not_mem_nil,List.nodup_nil⟩
 have e0:OkV (· < 4) (.slice op np cp):=okSl fun a e=>by rw [h0.2 a e];decide
 have okA:∀x∈(⟨[bm plank op np cp ot nt ct os ns cs]⟩:Array Value),OkV (· < 4) x:=fun x hx=>by
   rw [mem1 hx]
   refine .agg fun y hy=>?_
   simp only [List.mem_toArray,List.mem_cons,List.not_mem_nil,or_false] at hy
   rcases hy with rfl|rfl|rfl|rfl
   ·exact .int _ _
   ·exact e0
   ·exact okSl fun a e=>by rw [h1.2 a e];decide
   ·exact okSl fun a e=>by rw [h2.2 a e];decide
 refine Tryz.rootm (conCt ⟨fun p _=>?_,fun _ _=>st,fun _=>okA,fun x=>.int _ _⟩ noCt)
 exact Tryz.cbm (conCt ⟨fun p _=>Tryz.cpm hnp,fun _ _=>st,fun p x hx=>by rw [mem1 hx];exact e0,fun x=>.int _ _⟩ noCt)
end
end Go.Am
