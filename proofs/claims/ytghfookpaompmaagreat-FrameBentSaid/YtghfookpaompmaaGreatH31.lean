import Derived.Test.YtghfookpaompmaaGreatH16
import Derived.Test.YtghfookpaompmaaGreatH24
set_option linter.unusedVariables false
set_option linter.unusedSectionVars false
set_option linter.unusedSimpArgs false
namespace Go.Am
open Go.Proofs
abbrev zi(n:Nat):Value:=.int .i64 (.ofNat n)
abbrev zs(b n:Nat):Value:=.slice (some ⟨b,0,none⟩) n n
abbrev zo(b o n c:Nat):Value:=.slice (some ⟨b,o,none⟩) n c
abbrev zp(b o:Nat):Value:=.pointer (some ⟨b,o,none⟩)
abbrev zt:Value:=.tuple ⟨[]⟩
abbrev zr(n:Nat):List Value:=List.replicate n zt
abbrev zv0:Value:=.agg ⟨[zi 2,zs 5 3,zs 8 1,zs 9 1]⟩
abbrev zv1:Value:=.agg ⟨[zi 2,zs 5 3,zs 3172 2,zs 3180 2]⟩
abbrev zv2:Value:=.agg ⟨[zi 4,.map (some 2517)]⟩
abbrev zv3:Value:=.tuple ⟨[zi 9,zi 0]⟩
abbrev zv4:Value:=.agg ⟨[zi 9,zi 10]⟩
abbrev zv5:Value:=.tuple ⟨[.bool true,zi 0]⟩
abbrev zv6:Value:=.tuple ⟨[zs 328 3,zi 0]⟩
abbrev zv7:Value:=.tuple ⟨[zv4,zi 0]⟩
abbrev zv8:Value:=.tuple ⟨[zi 180,zi 0]⟩
abbrev zv9:Value:=.tuple ⟨[zi 15,zi 0]⟩
abbrev zv10:Value:=.tuple ⟨[zs 920 2,zi 0]⟩
abbrev zv11:Value:=.tuple ⟨[zi 4,zi 0]⟩
abbrev zv12:Value:=.tuple ⟨[zv0,zi 0]⟩
abbrev zv13:Value:=.agg ⟨[zi 180,zi 200]⟩
abbrev zv14:Value:=.agg ⟨[zi 2,zs 2779 3,zs 2781 1,zs 2786 2]⟩
abbrev zv15:Value:=.agg ⟨[zi 4,.map (some 746)]⟩
abbrev zv16:Value:=.tuple ⟨[zs 2446 3,zi 180,zi 0]⟩
abbrev zv17:Value:=.tuple ⟨[zv13,zi 0]⟩
abbrev zv18:Value:=.tuple ⟨[zi 0,zi 0]⟩
def Tryz.v0:Array Value:=⟨[zi 2,zs 5 3,zs 8 1,zs 9 1]⟩
def Tryz.v1:Array Value:=⟨[zv0,zi 1,zp 679 0,zt,.slice none 0 0,zi 0,zp 740 0,zi 0,zv12,zv0,zi 1,zv12,zv0,zi 0,zi 0,.bool false,zt,zv0,zv15,zi 1,zt,zt,zt]⟩
def Tryz.v2:Array Value:=⟨[.bool false,zp 10 0,zs 11 3,zi 9,zi 0,zi 9,zi 0,zi 15,zi 0,zi 180,zi 0,zs 328 3,zi 0,.bool true,zi 0,zi 4,zi 0]++zr 26++[zv0,zs 11 3,zv3,zv3,zi 9,zi 0,zv3,zv0,zs 11 3,zv3,zi 9,zi 0,zv9,zv0,zs 11 3,zv9,zi 15,zi 0,zv8,zv0,zs 11 3,zv8,zi 180,zi 0,zv6,zv0,zs 11 3,zv6,zs 328 3,zi 0,zv5,zv0,zs 11 3,zv5,.bool true,zi 0,zv11,zv0,zv11,zi 4,zi 0,zt,zv0]++zr 219⟩
def Tryz.v3:Array Value:=⟨[.bool false,zp 10 0,zs 11 3,zi 9,zi 0,zi 9,zi 0,zi 15,zi 0,zi 180,zi 0,zs 328 3,zi 0,.bool true,zi 0,zi 4,zi 0,zs 920 2,zi 0,zp 1167 0,zi 0,zp 1454 0,zi 0,zp 1700 0,zi 0,zi 0,zi 0,zi 1,zi 0,zs 2446 3,zi 180,zi 0]++zr 11++[zv0,zs 11 3,zv3,zv3,zi 9,zi 0,zv3,zv0,zs 11 3,zv3,zi 9,zi 0,zv9,zv0,zs 11 3,zv9,zi 15,zi 0,zv8,zv0,zs 11 3,zv8,zi 180,zi 0,zv6,zv0,zs 11 3,zv6,zs 328 3,zi 0,zv5,zv0,zs 11 3,zv5,.bool true,zi 0,zv11,zv0,zv11,zi 4,zi 0,zv10,zv0,zv10,zs 920 2,zi 0,zv7,zv0,zv7,zv4,zi 0,zv7,zv0,zv7,zv4,zi 0,zv17,zv0,zv17,zv13,zi 0,zv18,zv0,zv18,zi 0,zi 0,.tuple ⟨[zi 1,zi 0]⟩,zv0,.tuple ⟨[zi 1,zi 0]⟩,zi 1,zi 0,zv16,zv0,zv16,zs 2446 3,zi 180,zi 0,zt,zv0]++zr 183⟩
def Tryz.v4:Array Value:=⟨[zv0,zp 2453 0,zi 0,zi 0,zi 0,zp 2511 0,zv12,zv0,zv12,zv0,zi 0,zi 0,.bool false,zt,zv0,zv2,zp 2511 0,zp 2511 0,zp 2511 1,zs 5 3,zi 3,zt,zt,zt,zt]⟩
def Tryz.v5:Array Value:=⟨[zv1,zp 3181 0,.slice none 0 0,.slice none 0 0,zi 0,zp 3254 0,.tuple ⟨[zv1,zi 0]⟩,zv1,.tuple ⟨[zv1,zi 0]⟩,zv1,zi 0,zi 0,.bool false,zt,zt,zp 3254 0,zv1,zv1,zt,zt,zt,zt,zt,zt]⟩
def Tryz.v6:Array Value:=⟨[.bool false,zp 10 0,zs 11 3,zi 9,zi 0,zi 9,zi 0,zi 15,zi 0,zi 180,zi 0,zs 328 3,zi 0,.bool true,zi 0,zi 4,zi 0,zs 920 2,zi 0,zp 1167 0,zi 0,zp 1454 0,zi 0,zp 1700 0,zi 0,zi 0,zi 0,zi 1,zi 0,zs 2446 3,zi 180,zi 0,zi 1,zi 2,zi 0,zp 2914 0,zi 0,zi 3,zi 0,zp 3162 0,zt,zt,zt,zv0,zs 11 3,zv3,zv3,zi 9,zi 0,zv3,zv0,zs 11 3,zv3,zi 9,zi 0,zv9,zv0,zs 11 3,zv9,zi 15,zi 0,zv8,zv0,zs 11 3,zv8,zi 180,zi 0,zv6,zv0,zs 11 3,zv6,zs 328 3,zi 0,zv5,zv0,zs 11 3,zv5,.bool true,zi 0,zv11,zv0,zv11,zi 4,zi 0,zv10,zv0,zv10,zs 920 2,zi 0,zv7,zv0,zv7,zv4,zi 0,zv7,zv0,zv7,zv4,zi 0,zv17,zv0,zv17,zv13,zi 0,zv18,zv0,zv18,zi 0,zi 0,.tuple ⟨[zi 1,zi 0]⟩,zv0,.tuple ⟨[zi 1,zi 0]⟩,zi 1,zi 0,zv16,zv0,zv16,zs 2446 3,zi 180,zi 0,.tuple ⟨[zi 1,zi 2,zi 0]⟩,zv0,.tuple ⟨[zi 1,zi 2,zi 0]⟩,zi 1,zi 2,zi 0,.tuple ⟨[zv14,zi 0]⟩,zv0,.agg ⟨[zi 8,zi 10,.bool false]⟩,.tuple ⟨[zv14,zi 0]⟩,zv14,zi 0,.tuple ⟨[zi 3,zi 0]⟩,zv14,.tuple ⟨[zi 3,zi 0]⟩,zi 3,zi 0,zv0,.agg ⟨[zi 30,zi 30]⟩,.agg ⟨[zi 0,zi 2,zi 30,zi 30]⟩,.agg ⟨[zi 2,zs 5 3,zs 3172 2,zs 9 1]⟩,.agg ⟨[zi 4,zi 7,.bool true]⟩,zv1,zt,zv1]++zr 160⟩
def Tryz.b0:Nat×Blk:=(5,⟨(.cells ⟨[zi 0,zi 3,zi 3,zi 4,zi 6,zi 7,zi 12,zi 12,zi 13]⟩ 32 (0,0)),none,false,0⟩)
def Tryz.b1:Nat×Blk:=(8,⟨(.cells ⟨[zi 0,zi 1,zi 5,zi 5]⟩ 76 (0,0)),none,false,0⟩)
def Tryz.b2:Nat×Blk:=(9,⟨(.cells ⟨[zi 8,zi 9,.bool true]⟩ 72 (0,0)),none,false,0⟩)
def Tryz.b3:Nat×Blk:=(10,⟨(.cells ⟨[zi 2,zs 5 3,zs 8 1,zs 9 1]⟩ 26 (0,0)),none,false,0⟩)
def Tryz.b4:Nat×Blk:=(11,⟨(.cells ⟨[zi 3,zi 6,zi 12]⟩ 3 (0,0)),none,false,0⟩)
def Tryz.b5:Nat×Blk:=(328,⟨(.cells ⟨[zi 1,zi 4,zi 10]⟩ 3 (0,0)),(some 328),false,1⟩)
def Tryz.b6:Nat×Blk:=(679,⟨(.cells ⟨[zi 2,zs 5 3,zs 8 1,zs 9 1]⟩ 26 (0,0)),none,false,0⟩)
def Tryz.b7:Nat×Blk:=(740,⟨(.cells ⟨[zi 2,zs 5 3,zs 8 1,zs 9 1]⟩ 86 (0,0)),none,false,0⟩)
def Tryz.b8:Nat×Blk:=(746,⟨(.map ⟨[⟨.agg ⟨[zi 0,zi 3]⟩,zi 4,0⟩,⟨.agg ⟨[zi 1,zi 6]⟩,zi 2,1⟩,⟨.agg ⟨[zi 2,zi 12]⟩,zi 2,2⟩,⟨.agg ⟨[zi 2,zi 13]⟩,zi 2,3⟩,⟨.agg ⟨[zi 1,zi 7]⟩,zi 2,4⟩]⟩ 5),none,false,0⟩)
def Tryz.b9:Nat×Blk:=(908,⟨(.cells ⟨[zi 4,.map (some 746)]⟩ 122 (0,0)),none,false,0⟩)
def Tryz.b10:Nat×Blk:=(920,⟨(.cells ⟨[zi 6,zi 7]⟩ 3 (0,0)),(some 920),false,1⟩)
def Tryz.b11:Nat×Blk:=(1167,⟨(.cells ⟨[zi 9,zi 10]⟩ 30 (0,0)),none,false,0⟩)
def Tryz.b12:Nat×Blk:=(1454,⟨(.cells ⟨[zi 9,zi 10]⟩ 30 (0,0)),none,false,0⟩)
def Tryz.b13:Nat×Blk:=(1700,⟨(.cells ⟨[zi 180,zi 200]⟩ 30 (0,0)),none,false,0⟩)
def Tryz.b14:Nat×Blk:=(2446,⟨(.cells ⟨[zi 3,zi 6,zi 12]⟩ 3 (0,0)),(some 2446),false,1⟩)
def Tryz.b15:Nat×Blk:=(2453,⟨(.cells ⟨[zi 2,zs 5 3,zs 8 1,zs 9 1]⟩ 26 (0,0)),none,false,0⟩)
def Tryz.b16:Nat×Blk:=(2511,⟨(.cells ⟨[zi 2,zs 5 3,zs 8 1,zs 9 1]⟩ 86 (0,0)),none,false,0⟩)
def Tryz.b17:Nat×Blk:=(2517,⟨(.map ⟨[⟨.agg ⟨[zi 0,zi 3]⟩,zi 4,0⟩,⟨.agg ⟨[zi 1,zi 6]⟩,zi 2,1⟩,⟨.agg ⟨[zi 2,zi 12]⟩,zi 2,2⟩,⟨.agg ⟨[zi 2,zi 13]⟩,zi 2,3⟩,⟨.agg ⟨[zi 1,zi 7]⟩,zi 2,4⟩]⟩ 5),none,false,0⟩)
def Tryz.b18:Nat×Blk:=(2679,⟨(.cells ⟨[zi 4,.map (some 2517)]⟩ 122 (0,0)),none,false,0⟩)
def Tryz.b19:Nat×Blk:=(2689,⟨(.cells ⟨[zi 3]⟩ 3 (0,0)),(some 2689),false,1⟩)
def Tryz.b20:Nat×Blk:=(2702,⟨(.cells ⟨[zi 6,zi 7]⟩ 3 (0,0)),(some 2702),false,1⟩)
def Tryz.b21:Nat×Blk:=(2779,⟨(.cells ⟨[zi 0,zi 3,zi 3,zi 4,zi 6,zi 7,zi 12,zi 12,zi 13]⟩ 32 (0,0)),(some 2779),false,3⟩)
def Tryz.b22:Nat×Blk:=(2781,⟨(.cells ⟨[zi 0,zi 1,zi 5,zi 5]⟩ 76 (0,0)),(some 2781),false,4⟩)
def Tryz.b23:Nat×Blk:=(2786,⟨(.cells ⟨[zi 8,zi 9,.bool true,zi 8,zi 10,.bool false]⟩ 72 (0,0)),(some 2783),false,3⟩)
def Tryz.b24:Nat×Blk:=(2914,⟨(.cells ⟨[zi 2,zs 2779 3,zs 2781 1,zs 2786 2]⟩ 26 (0,0)),none,false,0⟩)
def Tryz.b25:Nat×Blk:=(3162,⟨(.cells ⟨[zi 2,zs 5 3,zs 3172 2,zs 3180 2]⟩ 26 (0,0)),none,false,0⟩)
def Tryz.b26:Nat×Blk:=(3172,⟨(.cells ⟨[zi 0,zi 1,zi 5,zi 5,zi 0,zi 2,zi 30,zi 30]⟩ 76 (0,0)),(some 3171),false,4⟩)
def Tryz.b27:Nat×Blk:=(3180,⟨(.cells ⟨[zi 8,zi 9,.bool true,zi 4,zi 7,.bool true]⟩ 72 (0,0)),(some 3179),false,3⟩)
def Tryz.b28:Nat×Blk:=(3181,⟨(.cells ⟨[zi 2,zs 5 3,zs 3172 2,zs 3180 2]⟩ 26 (0,0)),none,false,0⟩)
def Tryz.b29:Nat×Blk:=(3254,⟨(.cells ⟨[zi 2,zs 5 3,zs 3172 2,zs 3180 2]⟩ 86 (0,0)),none,false,0⟩)
def Tryz.b30:Nat×Blk:=(3255,⟨(.cells ⟨[zi 2,zs 5 3,zs 3172 2,zs 3180 2]⟩ 86 (0,0)),none,false,0⟩)
def Tryz.b31:Nat×Blk:=(3258,⟨(.cells ⟨[zi 4]⟩ 3 (0,0)),none,false,0⟩)
def Tryz.b32:Nat×Blk:=(3259,⟨(.cells ⟨[zi 4]⟩ 3 (0,0)),none,false,0⟩)
def Tryz.b33:Nat×Blk:=(3270,⟨(.cells ⟨[zi 0]⟩ 3 (0,0)),(some 3270),false,1⟩)
def Tryz.b34:Nat×Blk:=(3276,⟨(.cells ⟨[zi 1]⟩ 3 (0,0)),(some 3276),false,1⟩)
def Tryz.b35:Nat×Blk:=(3282,⟨(.cells ⟨[zi 2]⟩ 3 (0,0)),(some 3282),false,1⟩)
def Tryz.b36:Nat×Blk:=(3288,⟨(.cells ⟨[zi 3]⟩ 3 (0,0)),(some 3288),false,1⟩)
def Tryz.b37:Nat×Blk:=(3296,⟨(.cells ⟨[zi 0,zi 1]⟩ 3 (0,0)),(some 3296),false,1⟩)
def Tryz.b38:Nat×Blk:=(3302,⟨(.cells ⟨[zi 0,zi 2]⟩ 3 (0,0)),(some 3302),false,1⟩)
def Tryz.b39:Nat×Blk:=(3308,⟨(.cells ⟨[zi 0,zi 3]⟩ 3 (0,0)),(some 3308),false,1⟩)
def Tryz.b40:Nat×Blk:=(3316,⟨(.cells ⟨[zi 1,zi 2]⟩ 3 (0,0)),(some 3316),false,1⟩)
def Tryz.b41:Nat×Blk:=(3322,⟨(.cells ⟨[zi 1,zi 3]⟩ 3 (0,0)),(some 3322),false,1⟩)
def Tryz.b42:Nat×Blk:=(3330,⟨(.cells ⟨[zi 2,zi 3]⟩ 3 (0,0)),(some 3330),false,1⟩)
def Tryz.b43:Nat×Blk:=(3342,⟨(.cells ⟨[zi 0,zi 1,zi 2]⟩ 3 (0,0)),(some 3342),false,1⟩)
def Tryz.b44:Nat×Blk:=(3348,⟨(.cells ⟨[zi 0,zi 1,zi 3]⟩ 3 (0,0)),(some 3348),false,1⟩)
def Tryz.b45:Nat×Blk:=(3356,⟨(.cells ⟨[zi 0,zi 2,zi 3]⟩ 3 (0,0)),(some 3356),false,1⟩)
def Tryz.b46:Nat×Blk:=(3368,⟨(.cells ⟨[zi 1,zi 2,zi 3]⟩ 3 (0,0)),(some 3368),false,1⟩)
def Tryz.b47:Nat×Blk:=(3388,⟨(.cells ⟨[zi 0,zi 1,zi 2,zi 3]⟩ 3 (0,0)),(some 3388),false,1⟩)
def Tryz.b48:Nat×Blk:=(3390,⟨(.cells ⟨[.slice none 0 0,zs 3270 1,zs 3276 1,zs 3282 1,zs 3288 1,zs 3296 2,zs 3302 2,zs 3308 2,zs 3316 2,zs 3322 2,zs 3330 2,zs 3342 3,zs 3348 3,zs 3356 3,zs 3368 3,zs 3388 4]⟩ 34 (0,0)),(some 3266),false,1⟩)
def Tryz.Vs14:List (List Int):=[[16],[2],[5],[8],[9],[11],[12],[14],[15]]
def Tryz.f14:Nat→List Int→List Int:=fun k l=>match l with | [x]=>[if x≤Int.ofNat k then x else Int.ofNat k] | l=>l
def Tryz.lk14:Nat→Bool:=fun k=>[2,5,8,9,11,12,14,15].contains k
noncomputable def Tryz.st0:AS:=⟨AFr.enter Tryz.prog 5 #[],[],h0⟩
noncomputable def Tryz.st1:AS:=⟨⟨19,⟨[zv0,zp 452 0,zi 0,zi 0,zp 510 0,zi 0,zv12,zv0,zv12,zv0,zi 0,zi 0,.bool false,zt,zt,zt,zt]⟩,[.code (at_ 19 [1,1,1])],[],false,none,false⟩,
 [⟨5,⟨[.bool false,zp 10 0,zs 11 3,zi 9,zi 0,zi 9,zi 0,zi 15,zi 0,zi 180,zi 0,zs 328 3,zi 0,.bool true,zi 0]++zr 28++[zv0,zs 11 3,zv3,zv3,zi 9,zi 0,zv3,zv0,zs 11 3,zv3,zi 9,zi 0,zv9,zv0,zs 11 3,zv9,zi 15,zi 0,zv8,zv0,zs 11 3,zv8,zi 180,zi 0,zv6,zv0,zs 11 3,zv6,zs 328 3,zi 0,zv5,zv0,zs 11 3,zv5,.bool true,zi 0,zt,zv0]++zr 224⟩,[.region (opsAt 5 [1,1,1,1,1,1,1,1,1,0]) [1,2,3,4,5,6],.code (at_ 5 [1,1,1,1,1,1,1,1,1,1])],[],false,none,false⟩],
 ⟨511,trL [Tryz.b0,
  Tryz.b1,
  Tryz.b2,
  Tryz.b3,
  Tryz.b4,
  Tryz.b5,
  (452,⟨(.cells Tryz.v0 26 (0,0)),none,false,0⟩),
  (510,⟨(.cells Tryz.v0 86 (0,0)),none,false,0⟩)],fmL [(328,[328])]⟩⟩
noncomputable def Tryz.st2:AS:=⟨⟨99,⟨[zv15,zi 1,zp 909 0,zt,.slice none 0 0,.slice none 0 0,zt,zp 909 1,.map (some 746),zp 910 0]++zr 16⟩,[.region (opsAt 99 [1,1,0,1,0,0,0]) [0,1],.code (at_ 99 [1,1,0,1,0,0,1]),.inLoop (at_ 99 [1,1,0,1,0,0]),.inBlock 0,.code (at_ 99 [1,1,1])],[],false,none,false⟩,
 [⟨57,⟨[zv15,zi 1,zp 908 0,zt,.slice none 0 0,zi 0,zp 908 0,zi 4,.bool false,zv15,zi 1,zt]⟩,[.region (opsAt 57 [1,1,0]) [2,3,4],.code .ret],[],false,none,false⟩,
  ⟨20,Tryz.v1,[.region (opsAt 20 [1,1,1,0]) [3,4,5,6,7],.code .ret],[],false,none,false⟩,
  ⟨5,Tryz.v2,[.region (opsAt 5 [1,1,1,1,1,1,1,1,1,1,0]) [1,2,3,4,5,6],.code (at_ 5 [1,1,1,1,1,1,1,1,1,1,1])],[],false,none,false⟩],
 ⟨911,trL [Tryz.b0,
  Tryz.b1,
  Tryz.b2,
  Tryz.b3,
  Tryz.b4,
  Tryz.b5,
  Tryz.b6,
  Tryz.b7,
  Tryz.b8,
  Tryz.b9,
  (909,⟨(.cells ⟨[zi 4,.map (some 746)]⟩ 122 (0,0)),none,false,0⟩),
  (910,⟨(.mapIter (some 746) 5 ⟨[]⟩ 5),none,false,0⟩)],fmL [(328,[328])]⟩⟩
noncomputable def Tryz.st3:AS:=⟨⟨57,⟨[zv15,zi 1,zp 908 0,zt,.slice none 0 0,zi 0,zp 908 0,zi 4,.bool false,zv15,zi 1,zs 920 2]⟩,[.region (opsAt 57 [1,1,0]) [3,4],.code .ret],[],false,none,false⟩,
 [⟨20,Tryz.v1,[.region (opsAt 20 [1,1,1,0]) [3,4,5,6,7],.code .ret],[],false,none,false⟩,
  ⟨5,Tryz.v2,[.region (opsAt 5 [1,1,1,1,1,1,1,1,1,1,0]) [1,2,3,4,5,6],.code (at_ 5 [1,1,1,1,1,1,1,1,1,1,1])],[],false,none,false⟩],
 ⟨921,trL [Tryz.b10,
  Tryz.b0,
  Tryz.b1,
  Tryz.b2,
  Tryz.b3,
  Tryz.b4,
  Tryz.b5,
  Tryz.b6,
  Tryz.b7,
  Tryz.b8,
  Tryz.b9],fmL [(920,[920]),(328,[328])]⟩⟩
noncomputable def Tryz.st4:AS:=⟨⟨5,⟨[.bool false,zp 10 0,zs 11 3,zi 9,zi 0,zi 9,zi 0,zi 15,zi 0,zi 180,zi 0,zs 328 3,zi 0,.bool true,zi 0,zi 4,zi 0,zs 920 2,zi 0,zp 1167 0,zi 0]++zr 22++[zv0,zs 11 3,zv3,zv3,zi 9,zi 0,zv3,zv0,zs 11 3,zv3,zi 9,zi 0,zv9,zv0,zs 11 3,zv9,zi 15,zi 0,zv8,zv0,zs 11 3,zv8,zi 180,zi 0,zv6,zv0,zs 11 3,zv6,zs 328 3,zi 0,zv5,zv0,zs 11 3,zv5,.bool true,zi 0,zv11,zv0,zv11,zi 4,zi 0,zv10,zv0,zv10,zs 920 2,zi 0,zv7,zv0,zv7,zv4,zi 0]++zr 211⟩,[.code (at_ 5 [1,1,1,1,1,1,1,1,1,1,1,1])],[],false,none,false⟩,
 [],
 ⟨1168,trL [Tryz.b0,
  Tryz.b1,
  Tryz.b2,
  Tryz.b3,
  Tryz.b4,
  Tryz.b5,
  Tryz.b10,
  Tryz.b11],fmL [(328,[328]),(920,[920])]⟩⟩
noncomputable def Tryz.st5:AS:=⟨⟨23,⟨[zv0,zp 1455 0,zp 1456 0,zi 0,zp 1514 0,zi 0,zv12,zv0,zv12,zv0,zi 0,zi 0,.bool false]++zr 10⟩,[.code (at_ 23 [1,1,1,0]),.code .ret],[],false,none,false⟩,
 [⟨5,⟨[.bool false,zp 10 0,zs 11 3,zi 9,zi 0,zi 9,zi 0,zi 15,zi 0,zi 180,zi 0,zs 328 3,zi 0,.bool true,zi 0,zi 4,zi 0,zs 920 2,zi 0,zp 1167 0,zi 0,zp 1454 0,zi 0]++zr 20++[zv0,zs 11 3,zv3,zv3,zi 9,zi 0,zv3,zv0,zs 11 3,zv3,zi 9,zi 0,zv9,zv0,zs 11 3,zv9,zi 15,zi 0,zv8,zv0,zs 11 3,zv8,zi 180,zi 0,zv6,zv0,zs 11 3,zv6,zs 328 3,zi 0,zv5,zv0,zs 11 3,zv5,.bool true,zi 0,zv11,zv0,zv11,zi 4,zi 0,zv10,zv0,zv10,zs 920 2,zi 0,zv7,zv0,zv7,zv4,zi 0,zv7,zv0,zv7,zv4,zi 0,zt,zv0]++zr 204⟩,[.region (opsAt 5 [1,1,1,1,1,1,1,1,1,1,1,1,1,0]) [1,2,3,4,5,6,7],.code (at_ 5 [1,1,1,1,1,1,1,1,1,1,1,1,1,1])],[],false,none,false⟩],
 ⟨1515,trL [Tryz.b0,
  Tryz.b1,
  Tryz.b2,
  Tryz.b3,
  Tryz.b4,
  Tryz.b5,
  Tryz.b10,
  Tryz.b11,
  Tryz.b12,
  (1455,⟨(.cells Tryz.v0 26 (0,0)),none,false,0⟩),
  (1456,⟨(.cells ⟨[zi 0,zi 0]⟩ 30 (0,0)),none,false,0⟩),
  (1514,⟨(.cells Tryz.v0 86 (0,0)),none,false,0⟩)],fmL [(328,[328]),(920,[920])]⟩⟩
noncomputable def Tryz.st6:AS:=⟨⟨52,⟨[zv0,zt,zt,zt]⟩,[.code (at_ 52 [])],[],false,none,false⟩,
 [⟨24,⟨[zv0,zi 8,zi 9,zp 1943 0,zt,zt,zi 0,zi 0,zp 2001 0,zi 0,zv12,zv0,zv12,zv0,zi 0,zi 0,.bool false,zt,zp 2001 0,zv0,zi 8,zi 9,.agg ⟨[zi 8,zi 9,.bool false]⟩,.bool false,zv0,zt,zp 2001 0,zv0,zi 8,.agg ⟨[zi 2,zs 5 3,zs 8 1,zs 9 1,zi 8]⟩,zi 9,.agg ⟨[zi 2,zs 5 3,zs 8 1,zs 9 1,zi 8,zi 9]⟩,.func (.func 62) ⟨[.agg ⟨[zi 2,zs 5 3,zs 8 1,zs 9 1,zi 8,zi 9]⟩]⟩ ⟨[]⟩,zt,zt,zt]⟩,[.drawn (opsAt 24 [1,1,1,1,0]) [(1,[2,3,4,5,6,7,8]),(9,[]),(10,[]),(11,[]),(12,[]),(13,[])],.code .ret],[],false,none,false⟩,
  ⟨5,⟨[.bool false,zp 10 0,zs 11 3,zi 9,zi 0,zi 9,zi 0,zi 15,zi 0,zi 180,zi 0,zs 328 3,zi 0,.bool true,zi 0,zi 4,zi 0,zs 920 2,zi 0,zp 1167 0,zi 0,zp 1454 0,zi 0,zp 1700 0,zi 0,zi 0,zi 0]++zr 16++[zv0,zs 11 3,zv3,zv3,zi 9,zi 0,zv3,zv0,zs 11 3,zv3,zi 9,zi 0,zv9,zv0,zs 11 3,zv9,zi 15,zi 0,zv8,zv0,zs 11 3,zv8,zi 180,zi 0,zv6,zv0,zs 11 3,zv6,zs 328 3,zi 0,zv5,zv0,zs 11 3,zv5,.bool true,zi 0,zv11,zv0,zv11,zi 4,zi 0,zv10,zv0,zv10,zs 920 2,zi 0,zv7,zv0,zv7,zv4,zi 0,zv7,zv0,zv7,zv4,zi 0,zv17,zv0,zv17,zv13,zi 0,zv18,zv0,zv18,zi 0,zi 0,zt,zv0]++zr 194⟩,[.region (opsAt 5 [1,1,1,1,1,1,1,1,1,1,1,1,1,1,1,0]) [1,2,3,4,5,6],.code (at_ 5 [1,1,1,1,1,1,1,1,1,1,1,1,1,1,1,1])],[],false,none,false⟩],
 ⟨2005,trL [Tryz.b0,
  Tryz.b1,
  Tryz.b2,
  Tryz.b3,
  Tryz.b4,
  Tryz.b5,
  Tryz.b10,
  Tryz.b11,
  Tryz.b12,
  Tryz.b13,
  (1943,⟨(.cells Tryz.v0 26 (0,0)),none,false,0⟩),
  (2001,⟨(.cells Tryz.v0 86 (0,0)),none,false,0⟩)],fmL [(328,[328]),(920,[920])]⟩⟩
noncomputable def Tryz.st7:AS:=⟨⟨54,⟨[zv0]++zr 8⟩,[.code (at_ 54 [])],[],false,none,false⟩,
 [⟨26,⟨[zv0,zp 2453 0,zi 0,zi 0,zi 0,zp 2511 0,zv12,zv0,zv12,zv0,zi 0,zi 0,.bool false,zt,zv0,zt,zp 2511 0,zp 2511 0,zp 2511 1,zs 5 3,zi 3,zt,zt,zt,zt]⟩,[.drawn (opsAt 26 [1,1,1,0]) [(1,[2,3,4,5,6]),(7,[]),(8,[]),(9,[]),(10,[]),(11,[]),(12,[]),(13,[])],.code .ret],[],false,none,false⟩,
  ⟨5,Tryz.v3,[.region (opsAt 5 [1,1,1,1,1,1,1,1,1,1,1,1,1,1,1,1,1,0]) [1,2,3,4,5,6,7,8],.code (at_ 5 [1,1,1,1,1,1,1,1,1,1,1,1,1,1,1,1,1,1])],[],false,none,false⟩],
 ⟨2512,trL [Tryz.b0,
  Tryz.b1,
  Tryz.b2,
  Tryz.b3,
  Tryz.b4,
  Tryz.b5,
  Tryz.b10,
  Tryz.b11,
  Tryz.b12,
  Tryz.b13,
  Tryz.b14,
  Tryz.b15,
  Tryz.b16],fmL [(328,[328]),(920,[920]),(2446,[2446])]⟩⟩
noncomputable def Tryz.st8:AS:=⟨⟨99,⟨[zv2,zi 0,zp 2680 0,zt,.slice none 0 0,.slice none 0 0,zt,zp 2680 1,.map (some 2517),zp 2681 0]++zr 16⟩,[.region (opsAt 99 [1,1,0,1,0,0,0]) [0,1],.code (at_ 99 [1,1,0,1,0,0,1]),.inLoop (at_ 99 [1,1,0,1,0,0]),.inBlock 0,.code (at_ 99 [1,1,1])],[],false,none,false⟩,
 [⟨66,⟨[zv2,zi 3,zp 2679 0,zt,.int .i64 (.negSucc 0),zi 4,zi 0,zi 0,zi 0,zt,zt,zp 2679 0,zi 4,.bool false,zp 2679 0,zi 4,zi 3,zi 0,.bool true,zi 0,zv2,zi 0]++zr 21⟩,[.region (opsAt 66 [1,0,1,1,1,0,1,0,0,1,1,0,0,1,1,0,0]) [2,3,4],.code (at_ 66 [1,0,1,1,1,0,1,0,0,1,1,0,0,1,1,0,1]),.code (at_ 66 [1,0,1,1,1,0,1,0,0,1,1,0,0,1,1,1]),.inBlock 1,.code (at_ 66 [1,0,1,1,1,0,1,0,0,1,1,1]),.inLoop (at_ 66 [1,0,1,1,1,0,1,0,0]),.inBlock 0,.code (at_ 66 [1,0,1,1,1,1]),.inScope (at_ 66 [1,0])],[],false,none,false⟩,
  ⟨26,Tryz.v4,[.drawn (opsAt 26 [1,1,1,0]) [(7,[]),(8,[]),(9,[]),(10,[]),(11,[]),(12,[]),(13,[])],.code .ret],[],false,none,false⟩,
  ⟨5,Tryz.v3,[.region (opsAt 5 [1,1,1,1,1,1,1,1,1,1,1,1,1,1,1,1,1,0]) [1,2,3,4,5,6,7,8],.code (at_ 5 [1,1,1,1,1,1,1,1,1,1,1,1,1,1,1,1,1,1])],[],false,none,false⟩],
 ⟨2682,trL [Tryz.b0,
  Tryz.b1,
  Tryz.b2,
  Tryz.b3,
  Tryz.b4,
  Tryz.b5,
  Tryz.b10,
  Tryz.b11,
  Tryz.b12,
  Tryz.b13,
  Tryz.b14,
  Tryz.b15,
  Tryz.b16,
  Tryz.b17,
  Tryz.b18,
  (2680,⟨(.cells ⟨[zi 4,.map (some 2517)]⟩ 122 (0,0)),none,false,0⟩),
  (2681,⟨(.mapIter (some 2517) 5 ⟨[]⟩ 5),none,false,0⟩)],fmL [(328,[328]),(920,[920]),(2446,[2446])]⟩⟩
noncomputable def Tryz.st9:AS:=⟨⟨66,⟨[zv2,zi 3,zp 2679 0,zt,.int .i64 (.negSucc 0),zi 4,zi 0,zi 0,zi 0,zt,zt,zp 2679 0,zi 4,.bool false,zp 2679 0,zi 4,zi 3,zi 0,.bool true,zi 0,zv2,zi 0,zs 2689 1]++zr 20⟩,[.region (opsAt 66 [1,0,1,1,1,0,1,0,0,1,1,0,0,1,1,0,0]) [3,4],.code (at_ 66 [1,0,1,1,1,0,1,0,0,1,1,0,0,1,1,0,1]),.code (at_ 66 [1,0,1,1,1,0,1,0,0,1,1,0,0,1,1,1]),.inBlock 1,.code (at_ 66 [1,0,1,1,1,0,1,0,0,1,1,1]),.inLoop (at_ 66 [1,0,1,1,1,0,1,0,0]),.inBlock 0,.code (at_ 66 [1,0,1,1,1,1]),.inScope (at_ 66 [1,0])],[],false,none,false⟩,
 [⟨26,Tryz.v4,[.drawn (opsAt 26 [1,1,1,0]) [(7,[]),(8,[]),(9,[]),(10,[]),(11,[]),(12,[]),(13,[])],.code .ret],[],false,none,false⟩,
  ⟨5,Tryz.v3,[.region (opsAt 5 [1,1,1,1,1,1,1,1,1,1,1,1,1,1,1,1,1,0]) [1,2,3,4,5,6,7,8],.code (at_ 5 [1,1,1,1,1,1,1,1,1,1,1,1,1,1,1,1,1,1])],[],false,none,false⟩],
 ⟨2690,trL [Tryz.b19,
  Tryz.b0,
  Tryz.b1,
  Tryz.b2,
  Tryz.b3,
  Tryz.b4,
  Tryz.b5,
  Tryz.b10,
  Tryz.b11,
  Tryz.b12,
  Tryz.b13,
  Tryz.b14,
  Tryz.b15,
  Tryz.b16,
  Tryz.b17,
  Tryz.b18],fmL [(2689,[2689]),(328,[328]),(920,[920]),(2446,[2446])]⟩⟩
noncomputable def Tryz.st10:AS:=⟨⟨99,⟨[zv2,zi 1,zp 2691 0,zt,.slice none 0 0,.slice none 0 0,zt,zp 2691 1,.map (some 2517),zp 2692 0]++zr 16⟩,[.region (opsAt 99 [1,1,0,1,0,0,0]) [0,1],.code (at_ 99 [1,1,0,1,0,0,1]),.inLoop (at_ 99 [1,1,0,1,0,0]),.inBlock 0,.code (at_ 99 [1,1,1])],[],false,none,false⟩,
 [⟨66,⟨[zv2,zi 3,zp 2679 0,zt,.int .i64 (.negSucc 0),zi 4,zi 0,zi 1,zi 0,zt,zi 3,zp 2679 0,zi 4,.bool false,zp 2679 0,zi 4,zi 3,zi 1,.bool true,zi 1,zv2,zi 1,zs 2689 1,zi 1,zi 0,.bool true,zp 2689 0,zi 3,zi 0,zv2,zi 0,zi 3,zi 4,zi 4,zi 4,zi 4,.bool true,zt,zt,zt,zi 1,zt,zt]⟩,[.region (opsAt 66 [1,0,1,1,1,0,1,0,0,1,1,0,0,1,1,0,0]) [2,3,4],.code (at_ 66 [1,0,1,1,1,0,1,0,0,1,1,0,0,1,1,0,1]),.code (at_ 66 [1,0,1,1,1,0,1,0,0,1,1,0,0,1,1,1]),.inBlock 1,.code (at_ 66 [1,0,1,1,1,0,1,0,0,1,1,1]),.inLoop (at_ 66 [1,0,1,1,1,0,1,0,0]),.inBlock 0,.code (at_ 66 [1,0,1,1,1,1]),.inScope (at_ 66 [1,0])],[],false,none,false⟩,
  ⟨26,Tryz.v4,[.drawn (opsAt 26 [1,1,1,0]) [(7,[]),(8,[]),(9,[]),(10,[]),(11,[]),(12,[]),(13,[])],.code .ret],[],false,none,false⟩,
  ⟨5,Tryz.v3,[.region (opsAt 5 [1,1,1,1,1,1,1,1,1,1,1,1,1,1,1,1,1,0]) [1,2,3,4,5,6,7,8],.code (at_ 5 [1,1,1,1,1,1,1,1,1,1,1,1,1,1,1,1,1,1])],[],false,none,false⟩],
 ⟨2693,trL [Tryz.b0,
  Tryz.b1,
  Tryz.b2,
  Tryz.b3,
  Tryz.b4,
  Tryz.b5,
  Tryz.b10,
  Tryz.b11,
  Tryz.b12,
  Tryz.b13,
  Tryz.b14,
  Tryz.b15,
  Tryz.b16,
  Tryz.b17,
  Tryz.b18,
  Tryz.b19,
  (2691,⟨(.cells ⟨[zi 4,.map (some 2517)]⟩ 122 (0,0)),none,false,0⟩),
  (2692,⟨(.mapIter (some 2517) 5 ⟨[]⟩ 5),none,false,0⟩)],fmL [(328,[328]),(920,[920]),(2446,[2446]),(2689,[2689])]⟩⟩
noncomputable def Tryz.st11:AS:=⟨⟨66,⟨[zv2,zi 3,zp 2679 0,zt,.int .i64 (.negSucc 0),zi 4,zi 0,zi 1,zi 0,zt,zi 3,zp 2679 0,zi 4,.bool false,zp 2679 0,zi 4,zi 3,zi 1,.bool true,zi 1,zv2,zi 1,zs 2702 2,zi 1,zi 0,.bool true,zp 2689 0,zi 3,zi 0,zv2,zi 0,zi 3,zi 4,zi 4,zi 4,zi 4,.bool true,zt,zt,zt,zi 1,zt,zt]⟩,[.region (opsAt 66 [1,0,1,1,1,0,1,0,0,1,1,0,0,1,1,0,0]) [3,4],.code (at_ 66 [1,0,1,1,1,0,1,0,0,1,1,0,0,1,1,0,1]),.code (at_ 66 [1,0,1,1,1,0,1,0,0,1,1,0,0,1,1,1]),.inBlock 1,.code (at_ 66 [1,0,1,1,1,0,1,0,0,1,1,1]),.inLoop (at_ 66 [1,0,1,1,1,0,1,0,0]),.inBlock 0,.code (at_ 66 [1,0,1,1,1,1]),.inScope (at_ 66 [1,0])],[],false,none,false⟩,
 [⟨26,Tryz.v4,[.drawn (opsAt 26 [1,1,1,0]) [(7,[]),(8,[]),(9,[]),(10,[]),(11,[]),(12,[]),(13,[])],.code .ret],[],false,none,false⟩,
  ⟨5,Tryz.v3,[.region (opsAt 5 [1,1,1,1,1,1,1,1,1,1,1,1,1,1,1,1,1,0]) [1,2,3,4,5,6,7,8],.code (at_ 5 [1,1,1,1,1,1,1,1,1,1,1,1,1,1,1,1,1,1])],[],false,none,false⟩],
 ⟨2703,trL [Tryz.b20,
  Tryz.b0,
  Tryz.b1,
  Tryz.b2,
  Tryz.b3,
  Tryz.b4,
  Tryz.b5,
  Tryz.b10,
  Tryz.b11,
  Tryz.b12,
  Tryz.b13,
  Tryz.b14,
  Tryz.b15,
  Tryz.b16,
  Tryz.b17,
  Tryz.b18,
  Tryz.b19],fmL [(2702,[2702]),(328,[328]),(920,[920]),(2446,[2446]),(2689,[2689])]⟩⟩
noncomputable def Tryz.st12:AS:=⟨⟨99,⟨[zv2,zi 2,zp 2705 0,zt,.slice none 0 0,.slice none 0 0,zt,zp 2705 1,.map (some 2517),zp 2706 0]++zr 16⟩,[.region (opsAt 99 [1,1,0,1,0,0,0]) [0,1],.code (at_ 99 [1,1,0,1,0,0,1]),.inLoop (at_ 99 [1,1,0,1,0,0]),.inBlock 0,.code (at_ 99 [1,1,1])],[],false,none,false⟩,
 [⟨66,⟨[zv2,zi 3,zp 2679 0,zt,zi 1,zi 2,zi 0,zi 2,zi 0,zt,zi 7,zp 2679 0,zi 4,.bool false,zp 2679 0,zi 4,zi 3,zi 2,.bool true,zi 2,zv2,zi 2,zs 2702 2,zi 2,zi 2,.bool false,zp 2702 1,zi 7,zi 2,zv2,zi 1,zi 7,zi 2,zi 2,zi 2,zi 4,.bool false,zi 2,zi 1,zi 2,zi 2,zt,zt]⟩,[.region (opsAt 66 [1,0,1,1,1,0,1,0,0,1,1,0,0,1,1,0,0]) [2,3,4],.code (at_ 66 [1,0,1,1,1,0,1,0,0,1,1,0,0,1,1,0,1]),.code (at_ 66 [1,0,1,1,1,0,1,0,0,1,1,0,0,1,1,1]),.inBlock 1,.code (at_ 66 [1,0,1,1,1,0,1,0,0,1,1,1]),.inLoop (at_ 66 [1,0,1,1,1,0,1,0,0]),.inBlock 0,.code (at_ 66 [1,0,1,1,1,1]),.inScope (at_ 66 [1,0])],[],false,none,false⟩,
  ⟨26,Tryz.v4,[.drawn (opsAt 26 [1,1,1,0]) [(7,[]),(8,[]),(9,[]),(10,[]),(11,[]),(12,[]),(13,[])],.code .ret],[],false,none,false⟩,
  ⟨5,Tryz.v3,[.region (opsAt 5 [1,1,1,1,1,1,1,1,1,1,1,1,1,1,1,1,1,0]) [1,2,3,4,5,6,7,8],.code (at_ 5 [1,1,1,1,1,1,1,1,1,1,1,1,1,1,1,1,1,1])],[],false,none,false⟩],
 ⟨2707,trL [Tryz.b0,
  Tryz.b1,
  Tryz.b2,
  Tryz.b3,
  Tryz.b4,
  Tryz.b5,
  Tryz.b10,
  Tryz.b11,
  Tryz.b12,
  Tryz.b13,
  Tryz.b14,
  Tryz.b15,
  Tryz.b16,
  Tryz.b17,
  Tryz.b18,
  Tryz.b20,
  (2705,⟨(.cells ⟨[zi 4,.map (some 2517)]⟩ 122 (0,0)),none,false,0⟩),
  (2706,⟨(.mapIter (some 2517) 5 ⟨[]⟩ 5),none,false,0⟩)],fmL [(328,[328]),(920,[920]),(2446,[2446]),(2702,[2702])]⟩⟩
noncomputable def Tryz.st13:AS:=⟨⟨66,⟨[zv2,zi 3,zp 2679 0,zt,zi 1,zi 2,zi 0,zi 2,zi 0,zt,zi 7,zp 2679 0,zi 4,.bool false,zp 2679 0,zi 4,zi 3,zi 2,.bool true,zi 2,zv2,zi 2,zs 2716 2,zi 2,zi 2,.bool false,zp 2702 1,zi 7,zi 2,zv2,zi 1,zi 7,zi 2,zi 2,zi 2,zi 4,.bool false,zi 2,zi 1,zi 2,zi 2,zt,zt]⟩,[.region (opsAt 66 [1,0,1,1,1,0,1,0,0,1,1,0,0,1,1,0,0]) [3,4],.code (at_ 66 [1,0,1,1,1,0,1,0,0,1,1,0,0,1,1,0,1]),.code (at_ 66 [1,0,1,1,1,0,1,0,0,1,1,0,0,1,1,1]),.inBlock 1,.code (at_ 66 [1,0,1,1,1,0,1,0,0,1,1,1]),.inLoop (at_ 66 [1,0,1,1,1,0,1,0,0]),.inBlock 0,.code (at_ 66 [1,0,1,1,1,1]),.inScope (at_ 66 [1,0])],[],false,none,false⟩,
 [⟨26,Tryz.v4,[.drawn (opsAt 26 [1,1,1,0]) [(7,[]),(8,[]),(9,[]),(10,[]),(11,[]),(12,[]),(13,[])],.code .ret],[],false,none,false⟩,
  ⟨5,Tryz.v3,[.region (opsAt 5 [1,1,1,1,1,1,1,1,1,1,1,1,1,1,1,1,1,0]) [1,2,3,4,5,6,7,8],.code (at_ 5 [1,1,1,1,1,1,1,1,1,1,1,1,1,1,1,1,1,1])],[],false,none,false⟩],
 ⟨2717,trL [(2716,⟨(.cells ⟨[zi 12,zi 13]⟩ 3 (0,0)),(some 2716),false,1⟩),
  Tryz.b0,
  Tryz.b1,
  Tryz.b2,
  Tryz.b3,
  Tryz.b4,
  Tryz.b5,
  Tryz.b10,
  Tryz.b11,
  Tryz.b12,
  Tryz.b13,
  Tryz.b14,
  Tryz.b15,
  Tryz.b16,
  Tryz.b17,
  Tryz.b18,
  Tryz.b20],fmL [(2716,[2716]),(328,[328]),(920,[920]),(2446,[2446]),(2702,[2702])]⟩⟩
noncomputable def Tryz.st14:AS:=⟨⟨71,⟨[zv1,zp 3255 0,.slice none 0 0,zs 3390 16,zp 3413 0,zt,zt,zt,zt,zp 3255 0,zv1,zi 4,zp 3255 0,zv1,zi 4,.func (.func 136) ⟨[]⟩ ⟨[zp 3258 0,zp 3259 0]⟩,zs 3390 16,zs 3390 16,zi 16]++zr 19⟩,[.code (at_ 71 [1,1,1])],[],false,none,false⟩,
 [⟨30,Tryz.v5,[.drawn (opsAt 30 [1,1,1,0]) [(3,[0,1]),(4,[]),(5,[]),(6,[]),(7,[]),(8,[]),(9,[])],.code (at_ 30 [1,1,1,1])],[],false,none,false⟩,
  ⟨5,Tryz.v6,[.region (opsAt 5 [1,1,1,1,1,1,1,1,1,1,1,1,1,1,1,1,1,1,1,1,1,0]) [1,2,3,4,5,6,7,8],.code (at_ 5 [1,1,1,1,1,1,1,1,1,1,1,1,1,1,1,1,1,1,1,1,1,1])],[],false,none,false⟩],
 ⟨3414,trL [Tryz.b0,
  Tryz.b1,
  Tryz.b2,
  Tryz.b3,
  Tryz.b4,
  Tryz.b5,
  Tryz.b10,
  Tryz.b11,
  Tryz.b12,
  Tryz.b13,
  Tryz.b14,
  Tryz.b21,
  Tryz.b22,
  Tryz.b23,
  Tryz.b24,
  Tryz.b25,
  Tryz.b26,
  Tryz.b27,
  Tryz.b28,
  Tryz.b29,
  Tryz.b30,
  Tryz.b31,
  Tryz.b32,
  Tryz.b33,
  Tryz.b34,
  Tryz.b35,
  Tryz.b36,
  Tryz.b37,
  Tryz.b38,
  Tryz.b39,
  Tryz.b40,
  Tryz.b41,
  Tryz.b42,
  Tryz.b43,
  Tryz.b44,
  Tryz.b45,
  Tryz.b46,
  Tryz.b47,
  Tryz.b48,
  (3413,⟨(.cells ⟨[zi 16]⟩ 3 (0,0)),none,false,0⟩)],fmL [(328,[328]),(920,[920]),(2446,[2446]),(2779,[2779]),(2781,[2781]),(2783,[2786]),(3171,[3172]),(3179,[3180]),(3270,[3270]),(3276,[3276]),(3282,[3282]),(3288,[3288]),(3296,[3296]),(3302,[3302]),(3308,[3308]),(3316,[3316]),(3322,[3322]),(3330,[3330]),(3342,[3342]),(3348,[3348]),(3356,[3356]),(3368,[3368]),(3388,[3388]),(3266,[3390])]⟩⟩
noncomputable def Tryz.st15:AS:=⟨⟨71,⟨[zv1,zp 3255 0,.slice none 0 0,zs 3390 16,zp 3413 0,zp 3414 0,zp 3415 0,zt,zt,zp 3255 0,zv1,zi 4,zp 3255 0,zv1,zi 4,.func (.func 136) ⟨[]⟩ ⟨[zp 3258 0,zp 3259 0]⟩,zs 3390 16,zs 3390 16,zi 16]++zr 19⟩,[.region (opsAt 71 [1,1,1,1,0]) [],.code (at_ 71 [1,1,1,1,1])],[],false,none,false⟩,
 [⟨30,Tryz.v5,[.drawn (opsAt 30 [1,1,1,0]) [(3,[0,1]),(4,[]),(5,[]),(6,[]),(7,[]),(8,[]),(9,[])],.code (at_ 30 [1,1,1,1])],[],false,none,false⟩,
  ⟨5,Tryz.v6,[.region (opsAt 5 [1,1,1,1,1,1,1,1,1,1,1,1,1,1,1,1,1,1,1,1,1,0]) [1,2,3,4,5,6,7,8],.code (at_ 5 [1,1,1,1,1,1,1,1,1,1,1,1,1,1,1,1,1,1,1,1,1,1])],[],false,none,false⟩],
 ⟨3416,trL [Tryz.b0,
  Tryz.b1,
  Tryz.b2,
  Tryz.b3,
  Tryz.b4,
  Tryz.b5,
  Tryz.b10,
  Tryz.b11,
  Tryz.b12,
  Tryz.b13,
  Tryz.b14,
  Tryz.b21,
  Tryz.b22,
  Tryz.b23,
  Tryz.b24,
  Tryz.b25,
  Tryz.b26,
  Tryz.b27,
  Tryz.b28,
  Tryz.b29,
  Tryz.b30,
  Tryz.b31,
  Tryz.b32,
  Tryz.b33,
  Tryz.b34,
  Tryz.b35,
  Tryz.b36,
  Tryz.b37,
  Tryz.b38,
  Tryz.b39,
  Tryz.b40,
  Tryz.b41,
  Tryz.b42,
  Tryz.b43,
  Tryz.b44,
  Tryz.b45,
  Tryz.b46,
  Tryz.b47,
  Tryz.b48],fmL [(328,[328]),(920,[920]),(2446,[2446]),(2779,[2779]),(2781,[2781]),(2783,[2786]),(3171,[3172]),(3179,[3180]),(3270,[3270]),(3276,[3276]),(3282,[3282]),(3288,[3288]),(3296,[3296]),(3302,[3302]),(3308,[3308]),(3316,[3316]),(3322,[3322]),(3330,[3330]),(3342,[3342]),(3348,[3348]),(3356,[3356]),(3368,[3368]),(3388,[3388]),(3266,[3390])]⟩⟩
noncomputable def Tryz.g15_0:AS×AS:=(spawnS1 Tryz.prog plan Tryz.link 3415 31 3 Tryz.st15).getD (Tryz.st15,Tryz.st15)
noncomputable def Tryz.g15_1:AS×AS:=(spawnS1 Tryz.prog plan Tryz.link 3415 28 3 Tryz.g15_0.2).getD (Tryz.g15_0.2,Tryz.g15_0.2)
noncomputable def Tryz.g15_2:AS×AS:=(spawnS1 Tryz.prog plan Tryz.link 3415 28 3 Tryz.g15_1.2).getD (Tryz.g15_1.2,Tryz.g15_1.2)
noncomputable def Tryz.g15_3:AS×AS:=(spawnS1 Tryz.prog plan Tryz.link 3415 28 3 Tryz.g15_2.2).getD (Tryz.g15_2.2,Tryz.g15_2.2)
noncomputable def Tryz.g15_4:AS×AS:=(spawnS1 Tryz.prog plan Tryz.link 3415 28 3 Tryz.g15_3.2).getD (Tryz.g15_3.2,Tryz.g15_3.2)
noncomputable def Tryz.g15_5:AS×AS:=(spawnS1 Tryz.prog plan Tryz.link 3415 28 3 Tryz.g15_4.2).getD (Tryz.g15_4.2,Tryz.g15_4.2)
noncomputable def Tryz.g15_6:AS×AS:=(spawnS1 Tryz.prog plan Tryz.link 3415 28 3 Tryz.g15_5.2).getD (Tryz.g15_5.2,Tryz.g15_5.2)
noncomputable def Tryz.g15_7:AS×AS:=(spawnS1 Tryz.prog plan Tryz.link 3415 28 3 Tryz.g15_6.2).getD (Tryz.g15_6.2,Tryz.g15_6.2)
noncomputable def Tryz.g15_8:AS×AS:=(spawnS1 Tryz.prog plan Tryz.link 3415 28 3 Tryz.g15_7.2).getD (Tryz.g15_7.2,Tryz.g15_7.2)
noncomputable def Tryz.g15_9:AS×AS:=(spawnS1 Tryz.prog plan Tryz.link 3415 28 3 Tryz.g15_8.2).getD (Tryz.g15_8.2,Tryz.g15_8.2)
noncomputable def Tryz.g15_10:AS×AS:=(spawnS1 Tryz.prog plan Tryz.link 3415 28 3 Tryz.g15_9.2).getD (Tryz.g15_9.2,Tryz.g15_9.2)
noncomputable def Tryz.g15_11:AS×AS:=(spawnS1 Tryz.prog plan Tryz.link 3415 28 3 Tryz.g15_10.2).getD (Tryz.g15_10.2,Tryz.g15_10.2)
noncomputable def Tryz.g15_12:AS×AS:=(spawnS1 Tryz.prog plan Tryz.link 3415 28 3 Tryz.g15_11.2).getD (Tryz.g15_11.2,Tryz.g15_11.2)
noncomputable def Tryz.g15_13:AS×AS:=(spawnS1 Tryz.prog plan Tryz.link 3415 28 3 Tryz.g15_12.2).getD (Tryz.g15_12.2,Tryz.g15_12.2)
noncomputable def Tryz.g15_14:AS×AS:=(spawnS1 Tryz.prog plan Tryz.link 3415 28 3 Tryz.g15_13.2).getD (Tryz.g15_13.2,Tryz.g15_13.2)
noncomputable def Tryz.g15_15:AS×AS:=(spawnS1 Tryz.prog plan Tryz.link 3415 28 3 Tryz.g15_14.2).getD (Tryz.g15_14.2,Tryz.g15_14.2)
noncomputable def Tryz.st16:AS:=⟨⟨71,⟨[zv1,zp 3255 0,.slice none 0 0,zs 3390 16,zp 3413 0,zp 3414 0,zp 3415 0,zp 3446 0,zp 3447 0,zp 3255 0,zv1,zi 4,zp 3255 0,zv1,zi 4,.func (.func 136) ⟨[]⟩ ⟨[zp 3258 0,zp 3259 0]⟩,zs 3390 16,zs 3390 16,zi 16,zs 3390 16,zi 16,zi 16,.bool false,zi 15,zp 3390 15,zs 3388 4,zt,.func (.func 115) ⟨[]⟩ ⟨[zp 3415 0,zp 3255 0,zp 3447 0,zp 3414 0,zp 3413 0,zp 3446 0]⟩,zi 16]++zr 9⟩,[.region (opsAt 71 [1,1,1,1,1,1,0]) [],.code (at_ 71 [1,1,1,1,1,1,1])],[],false,none,false⟩,
 [⟨30,Tryz.v5,[.drawn (opsAt 30 [1,1,1,0]) [(3,[0,1]),(4,[]),(5,[]),(6,[]),(7,[]),(8,[]),(9,[])],.code (at_ 30 [1,1,1,1])],[],false,none,false⟩,
  ⟨5,Tryz.v6,[.region (opsAt 5 [1,1,1,1,1,1,1,1,1,1,1,1,1,1,1,1,1,1,1,1,1,0]) [1,2,3,4,5,6,7,8],.code (at_ 5 [1,1,1,1,1,1,1,1,1,1,1,1,1,1,1,1,1,1,1,1,1,1])],[],false,none,false⟩],
 ⟨3448,trL [Tryz.b0,
  Tryz.b1,
  Tryz.b2,
  Tryz.b3,
  Tryz.b4,
  Tryz.b5,
  Tryz.b10,
  Tryz.b11,
  Tryz.b12,
  Tryz.b13,
  Tryz.b14,
  Tryz.b21,
  Tryz.b22,
  Tryz.b23,
  Tryz.b24,
  Tryz.b25,
  Tryz.b26,
  Tryz.b27,
  Tryz.b28,
  Tryz.b29,
  Tryz.b30,
  Tryz.b31,
  Tryz.b32,
  Tryz.b33,
  Tryz.b34,
  Tryz.b35,
  Tryz.b36,
  Tryz.b37,
  Tryz.b38,
  Tryz.b39,
  Tryz.b40,
  Tryz.b41,
  Tryz.b42,
  Tryz.b43,
  Tryz.b44,
  Tryz.b45,
  Tryz.b46,
  Tryz.b47,
  Tryz.b48,
  (3413,⟨(.cells ⟨[zi 2]⟩ 0 (0,0)),none,false,0⟩),
  (3446,⟨(.cells ⟨[zi 15]⟩ 3 (0,0)),none,false,0⟩),
  (3447,⟨(.cells ⟨[zs 3388 4]⟩ 34 (0,0)),none,false,0⟩)],fmL [(328,[328]),(920,[920]),(2446,[2446]),(2779,[2779]),(2781,[2781]),(2783,[2786]),(3171,[3172]),(3179,[3180]),(3270,[3270]),(3276,[3276]),(3282,[3282]),(3288,[3288]),(3296,[3296]),(3302,[3302]),(3308,[3308]),(3316,[3316]),(3322,[3322]),(3330,[3330]),(3342,[3342]),(3348,[3348]),(3356,[3356]),(3368,[3368]),(3388,[3388]),(3266,[3390])]⟩⟩
end Go.Am
