import Derived.Test.YtbpcjpbcgeccbaaGreatH16
import Derived.Test.YtbpcjpbcgeccbaaGreatH24
set_option linter.unusedVariables false
set_option linter.unusedSectionVars false
set_option linter.unusedSimpArgs false
namespace Go.Am
open Go.Proofs
abbrev zi(n:Nat):Value:=.int .i64 (.ofNat n)
abbrev zs(b n:Nat):Value:=.slice (some ⟨b,0,none⟩) n n
abbrev zo(b o n c:Nat):Value:=.slice (some ⟨b,o,none⟩) n c
abbrev zp(b o:Nat):Value:=.pointer (some ⟨b,o,none⟩)
abbrev zt:Value:=.tuple ⟨[]⟩
abbrev zr(n:Nat):List Value:=List.replicate n zt
abbrev dG:Value:=.agg ⟨[zi 2,zs 5 3,zs 8 1,zs 9 1]⟩
abbrev H7:Value:=.agg ⟨[zi 2,zs 5 3,zs 3172 2,zs 3180 2]⟩
abbrev Fa:Value:=.agg ⟨[zi 4,.map (some 2517)]⟩
abbrev xK:Value:=.tuple ⟨[zi 9,zi 0]⟩
abbrev VN:Value:=.agg ⟨[zi 9,zi 10]⟩
abbrev OV:Value:=.tuple ⟨[.bool true,zi 0]⟩
abbrev OW:Value:=.tuple ⟨[zs 328 3,zi 0]⟩
abbrev H8:Value:=.tuple ⟨[VN,zi 0]⟩
abbrev OX:Value:=.tuple ⟨[zi 180,zi 0]⟩
abbrev OY:Value:=.tuple ⟨[zi 15,zi 0]⟩
abbrev DZ:Value:=.tuple ⟨[zs 920 2,zi 0]⟩
abbrev zY:Value:=.tuple ⟨[zi 4,zi 0]⟩
abbrev zZ:Value:=.tuple ⟨[dG,zi 0]⟩
abbrev XU:Value:=.agg ⟨[zi 180,zi 200]⟩
abbrev XV:Value:=.agg ⟨[zi 2,zs 2779 3,zs 2781 1,zs 2786 2]⟩
abbrev QI:Value:=.agg ⟨[zi 4,.map (some 746)]⟩
abbrev XW:Value:=.tuple ⟨[zs 2446 3,zi 180,zi 0]⟩
abbrev QJ:Value:=.tuple ⟨[XU,zi 0]⟩
abbrev QK:Value:=.tuple ⟨[zi 0,zi 0]⟩
def Tryz.v0:Array Value:=⟨[zi 2,zs 5 3,zs 8 1,zs 9 1]⟩
def Tryz.v1:Array Value:=⟨[dG,zi 1,zp 679 0,zt,.slice none 0 0,zi 0,zp 740 0,zi 0,zZ,dG,zi 1,zZ,dG,zi 0,zi 0,.bool false,zt,dG,QI,zi 1,zt,zt,zt]⟩
def Tryz.v2:Array Value:=⟨[.bool false,zp 10 0,zs 11 3,zi 9,zi 0,zi 9,zi 0,zi 15,zi 0,zi 180,zi 0,zs 328 3,zi 0,.bool true,zi 0,zi 4,zi 0]++zr 26++[dG,zs 11 3,xK,xK,zi 9,zi 0,xK,dG,zs 11 3,xK,zi 9,zi 0,OY,dG,zs 11 3,OY,zi 15,zi 0,OX,dG,zs 11 3,OX,zi 180,zi 0,OW,dG,zs 11 3,OW,zs 328 3,zi 0,OV,dG,zs 11 3,OV,.bool true,zi 0,zY,dG,zY,zi 4,zi 0,zt,dG]++zr 219⟩
def Tryz.v3:Array Value:=⟨[.bool false,zp 10 0,zs 11 3,zi 9,zi 0,zi 9,zi 0,zi 15,zi 0,zi 180,zi 0,zs 328 3,zi 0,.bool true,zi 0,zi 4,zi 0,zs 920 2,zi 0,zp 1167 0,zi 0,zp 1454 0,zi 0,zp 1700 0,zi 0,zi 0,zi 0,zi 1,zi 0,zs 2446 3,zi 180,zi 0]++zr 11++[dG,zs 11 3,xK,xK,zi 9,zi 0,xK,dG,zs 11 3,xK,zi 9,zi 0,OY,dG,zs 11 3,OY,zi 15,zi 0,OX,dG,zs 11 3,OX,zi 180,zi 0,OW,dG,zs 11 3,OW,zs 328 3,zi 0,OV,dG,zs 11 3,OV,.bool true,zi 0,zY,dG,zY,zi 4,zi 0,DZ,dG,DZ,zs 920 2,zi 0,H8,dG,H8,VN,zi 0,H8,dG,H8,VN,zi 0,QJ,dG,QJ,XU,zi 0,QK,dG,QK,zi 0,zi 0,.tuple ⟨[zi 1,zi 0]⟩,dG,.tuple ⟨[zi 1,zi 0]⟩,zi 1,zi 0,XW,dG,XW,zs 2446 3,zi 180,zi 0,zt,dG]++zr 183⟩
def Tryz.v4:Array Value:=⟨[dG,zp 2453 0,zi 0,zi 0,zi 0,zp 2511 0,zZ,dG,zZ,dG,zi 0,zi 0,.bool false,zt,dG,Fa,zp 2511 0,zp 2511 0,zp 2511 1,zs 5 3,zi 3,zt,zt,zt,zt]⟩
def Tryz.v5:Array Value:=⟨[H7,zp 3181 0,.slice none 0 0,.slice none 0 0,zi 0,zp 3254 0,.tuple ⟨[H7,zi 0]⟩,H7,.tuple ⟨[H7,zi 0]⟩,H7,zi 0,zi 0,.bool false,zt,zt,zp 3254 0,H7,H7,zt,zt,zt,zt,zt,zt]⟩
def Tryz.v6:Array Value:=⟨[.bool false,zp 10 0,zs 11 3,zi 9,zi 0,zi 9,zi 0,zi 15,zi 0,zi 180,zi 0,zs 328 3,zi 0,.bool true,zi 0,zi 4,zi 0,zs 920 2,zi 0,zp 1167 0,zi 0,zp 1454 0,zi 0,zp 1700 0,zi 0,zi 0,zi 0,zi 1,zi 0,zs 2446 3,zi 180,zi 0,zi 1,zi 2,zi 0,zp 2914 0,zi 0,zi 3,zi 0,zp 3162 0,zt,zt,zt,dG,zs 11 3,xK,xK,zi 9,zi 0,xK,dG,zs 11 3,xK,zi 9,zi 0,OY,dG,zs 11 3,OY,zi 15,zi 0,OX,dG,zs 11 3,OX,zi 180,zi 0,OW,dG,zs 11 3,OW,zs 328 3,zi 0,OV,dG,zs 11 3,OV,.bool true,zi 0,zY,dG,zY,zi 4,zi 0,DZ,dG,DZ,zs 920 2,zi 0,H8,dG,H8,VN,zi 0,H8,dG,H8,VN,zi 0,QJ,dG,QJ,XU,zi 0,QK,dG,QK,zi 0,zi 0,.tuple ⟨[zi 1,zi 0]⟩,dG,.tuple ⟨[zi 1,zi 0]⟩,zi 1,zi 0,XW,dG,XW,zs 2446 3,zi 180,zi 0,.tuple ⟨[zi 1,zi 2,zi 0]⟩,dG,.tuple ⟨[zi 1,zi 2,zi 0]⟩,zi 1,zi 2,zi 0,.tuple ⟨[XV,zi 0]⟩,dG,.agg ⟨[zi 8,zi 10,.bool false]⟩,.tuple ⟨[XV,zi 0]⟩,XV,zi 0,.tuple ⟨[zi 3,zi 0]⟩,XV,.tuple ⟨[zi 3,zi 0]⟩,zi 3,zi 0,dG,.agg ⟨[zi 30,zi 30]⟩,.agg ⟨[zi 0,zi 2,zi 30,zi 30]⟩,.agg ⟨[zi 2,zs 5 3,zs 3172 2,zs 9 1]⟩,.agg ⟨[zi 4,zi 7,.bool true]⟩,H7,zt,H7]++zr 160⟩
def Tryz.b0:Nat×cZ:=(5,⟨(.cells ⟨[zi 0,zi 3,zi 3,zi 4,zi 6,zi 7,zi 12,zi 12,zi 13]⟩ 77 (0,0)),none,false,0⟩)
def Tryz.b1:Nat×cZ:=(8,⟨(.cells ⟨[zi 0,zi 1,zi 5,zi 5]⟩ 70 (0,0)),none,false,0⟩)
def Tryz.b2:Nat×cZ:=(9,⟨(.cells ⟨[zi 8,zi 9,.bool true]⟩ 65 (0,0)),none,false,0⟩)
def Tryz.b3:Nat×cZ:=(10,⟨(.cells ⟨[zi 2,zs 5 3,zs 8 1,zs 9 1]⟩ 26 (0,0)),none,false,0⟩)
def Tryz.b4:Nat×cZ:=(11,⟨(.cells ⟨[zi 3,zi 6,zi 12]⟩ 3 (0,0)),none,false,0⟩)
def Tryz.b5:Nat×cZ:=(328,⟨(.cells ⟨[zi 1,zi 4,zi 10]⟩ 3 (0,0)),(some 328),false,1⟩)
def Tryz.b6:Nat×cZ:=(679,⟨(.cells ⟨[zi 2,zs 5 3,zs 8 1,zs 9 1]⟩ 26 (0,0)),none,false,0⟩)
def Tryz.b7:Nat×cZ:=(740,⟨(.cells ⟨[zi 2,zs 5 3,zs 8 1,zs 9 1]⟩ 82 (0,0)),none,false,0⟩)
def Tryz.b8:Nat×cZ:=(746,⟨(.map ⟨[⟨.agg ⟨[zi 0,zi 3]⟩,zi 4,0⟩,⟨.agg ⟨[zi 1,zi 6]⟩,zi 2,1⟩,⟨.agg ⟨[zi 2,zi 12]⟩,zi 2,2⟩,⟨.agg ⟨[zi 2,zi 13]⟩,zi 2,3⟩,⟨.agg ⟨[zi 1,zi 7]⟩,zi 2,4⟩]⟩ 5),none,false,0⟩)
def Tryz.b9:Nat×cZ:=(908,⟨(.cells ⟨[zi 4,.map (some 746)]⟩ 108 (0,0)),none,false,0⟩)
def Tryz.b10:Nat×cZ:=(920,⟨(.cells ⟨[zi 6,zi 7]⟩ 3 (0,0)),(some 920),false,1⟩)
def Tryz.b11:Nat×cZ:=(1167,⟨(.cells ⟨[zi 9,zi 10]⟩ 50 (0,0)),none,false,0⟩)
def Tryz.b12:Nat×cZ:=(1454,⟨(.cells ⟨[zi 9,zi 10]⟩ 50 (0,0)),none,false,0⟩)
def Tryz.b13:Nat×cZ:=(1700,⟨(.cells ⟨[zi 180,zi 200]⟩ 50 (0,0)),none,false,0⟩)
def Tryz.b14:Nat×cZ:=(2446,⟨(.cells ⟨[zi 3,zi 6,zi 12]⟩ 3 (0,0)),(some 2446),false,1⟩)
def Tryz.b15:Nat×cZ:=(2453,⟨(.cells ⟨[zi 2,zs 5 3,zs 8 1,zs 9 1]⟩ 26 (0,0)),none,false,0⟩)
def Tryz.b16:Nat×cZ:=(2511,⟨(.cells ⟨[zi 2,zs 5 3,zs 8 1,zs 9 1]⟩ 82 (0,0)),none,false,0⟩)
def Tryz.b17:Nat×cZ:=(2517,⟨(.map ⟨[⟨.agg ⟨[zi 0,zi 3]⟩,zi 4,0⟩,⟨.agg ⟨[zi 1,zi 6]⟩,zi 2,1⟩,⟨.agg ⟨[zi 2,zi 12]⟩,zi 2,2⟩,⟨.agg ⟨[zi 2,zi 13]⟩,zi 2,3⟩,⟨.agg ⟨[zi 1,zi 7]⟩,zi 2,4⟩]⟩ 5),none,false,0⟩)
def Tryz.b18:Nat×cZ:=(2679,⟨(.cells ⟨[zi 4,.map (some 2517)]⟩ 108 (0,0)),none,false,0⟩)
def Tryz.b19:Nat×cZ:=(2689,⟨(.cells ⟨[zi 3]⟩ 3 (0,0)),(some 2689),false,1⟩)
def Tryz.b20:Nat×cZ:=(2702,⟨(.cells ⟨[zi 6,zi 7]⟩ 3 (0,0)),(some 2702),false,1⟩)
def Tryz.b21:Nat×cZ:=(2779,⟨(.cells ⟨[zi 0,zi 3,zi 3,zi 4,zi 6,zi 7,zi 12,zi 12,zi 13]⟩ 77 (0,0)),(some 2779),false,3⟩)
def Tryz.b22:Nat×cZ:=(2781,⟨(.cells ⟨[zi 0,zi 1,zi 5,zi 5]⟩ 70 (0,0)),(some 2781),false,4⟩)
def Tryz.b23:Nat×cZ:=(2786,⟨(.cells ⟨[zi 8,zi 9,.bool true,zi 8,zi 10,.bool false]⟩ 65 (0,0)),(some 2783),false,3⟩)
def Tryz.b24:Nat×cZ:=(2914,⟨(.cells ⟨[zi 2,zs 2779 3,zs 2781 1,zs 2786 2]⟩ 26 (0,0)),none,false,0⟩)
def Tryz.b25:Nat×cZ:=(3162,⟨(.cells ⟨[zi 2,zs 5 3,zs 3172 2,zs 3180 2]⟩ 26 (0,0)),none,false,0⟩)
def Tryz.b26:Nat×cZ:=(3172,⟨(.cells ⟨[zi 0,zi 1,zi 5,zi 5,zi 0,zi 2,zi 30,zi 30]⟩ 70 (0,0)),(some 3171),false,4⟩)
def Tryz.b27:Nat×cZ:=(3180,⟨(.cells ⟨[zi 8,zi 9,.bool true,zi 4,zi 7,.bool true]⟩ 65 (0,0)),(some 3179),false,3⟩)
def Tryz.b28:Nat×cZ:=(3181,⟨(.cells ⟨[zi 2,zs 5 3,zs 3172 2,zs 3180 2]⟩ 26 (0,0)),none,false,0⟩)
def Tryz.b29:Nat×cZ:=(3254,⟨(.cells ⟨[zi 2,zs 5 3,zs 3172 2,zs 3180 2]⟩ 82 (0,0)),none,false,0⟩)
def Tryz.b30:Nat×cZ:=(3255,⟨(.cells ⟨[zi 2,zs 5 3,zs 3172 2,zs 3180 2]⟩ 82 (0,0)),none,false,0⟩)
def Tryz.b31:Nat×cZ:=(3258,⟨(.cells ⟨[zi 4]⟩ 3 (0,0)),none,false,0⟩)
def Tryz.b32:Nat×cZ:=(3259,⟨(.cells ⟨[zi 4]⟩ 3 (0,0)),none,false,0⟩)
def Tryz.b33:Nat×cZ:=(3270,⟨(.cells ⟨[zi 0]⟩ 3 (0,0)),(some 3270),false,1⟩)
def Tryz.b34:Nat×cZ:=(3276,⟨(.cells ⟨[zi 1]⟩ 3 (0,0)),(some 3276),false,1⟩)
def Tryz.b35:Nat×cZ:=(3282,⟨(.cells ⟨[zi 2]⟩ 3 (0,0)),(some 3282),false,1⟩)
def Tryz.b36:Nat×cZ:=(3288,⟨(.cells ⟨[zi 3]⟩ 3 (0,0)),(some 3288),false,1⟩)
def Tryz.b37:Nat×cZ:=(3296,⟨(.cells ⟨[zi 0,zi 1]⟩ 3 (0,0)),(some 3296),false,1⟩)
def Tryz.b38:Nat×cZ:=(3302,⟨(.cells ⟨[zi 0,zi 2]⟩ 3 (0,0)),(some 3302),false,1⟩)
def Tryz.b39:Nat×cZ:=(3308,⟨(.cells ⟨[zi 0,zi 3]⟩ 3 (0,0)),(some 3308),false,1⟩)
def Tryz.b40:Nat×cZ:=(3316,⟨(.cells ⟨[zi 1,zi 2]⟩ 3 (0,0)),(some 3316),false,1⟩)
def Tryz.b41:Nat×cZ:=(3322,⟨(.cells ⟨[zi 1,zi 3]⟩ 3 (0,0)),(some 3322),false,1⟩)
def Tryz.b42:Nat×cZ:=(3330,⟨(.cells ⟨[zi 2,zi 3]⟩ 3 (0,0)),(some 3330),false,1⟩)
def Tryz.b43:Nat×cZ:=(3342,⟨(.cells ⟨[zi 0,zi 1,zi 2]⟩ 3 (0,0)),(some 3342),false,1⟩)
def Tryz.b44:Nat×cZ:=(3348,⟨(.cells ⟨[zi 0,zi 1,zi 3]⟩ 3 (0,0)),(some 3348),false,1⟩)
def Tryz.b45:Nat×cZ:=(3356,⟨(.cells ⟨[zi 0,zi 2,zi 3]⟩ 3 (0,0)),(some 3356),false,1⟩)
def Tryz.b46:Nat×cZ:=(3368,⟨(.cells ⟨[zi 1,zi 2,zi 3]⟩ 3 (0,0)),(some 3368),false,1⟩)
def Tryz.b47:Nat×cZ:=(3388,⟨(.cells ⟨[zi 0,zi 1,zi 2,zi 3]⟩ 3 (0,0)),(some 3388),false,1⟩)
def Tryz.b48:Nat×cZ:=(3390,⟨(.cells ⟨[.slice none 0 0,zs 3270 1,zs 3276 1,zs 3282 1,zs 3288 1,zs 3296 2,zs 3302 2,zs 3308 2,zs 3316 2,zs 3322 2,zs 3330 2,zs 3342 3,zs 3348 3,zs 3356 3,zs 3368 3,zs 3388 4]⟩ 31 (0,0)),(some 3266),false,1⟩)
def Tryz.sG:List (List Int):=[[16],[2],[5],[8],[9],[11],[12],[14],[15]]
def Tryz.f14:Nat→List Int→List Int:=fun k l=>match l with | [x]=>[if x≤Int.ofNat k then x else Int.ofNat k] | l=>l
def Tryz.sH:Nat→Bool:=fun k=>[2,5,8,9,11,12,14,15].contains k
noncomputable def Tryz.st0:AS:=⟨aB.enter Tryz.prog 5 #[],[],h0⟩
noncomputable def Tryz.st1:AS:=⟨⟨17,⟨[dG,zp 452 0,zi 0,zi 0,zp 510 0,zi 0,zZ,dG,zZ,dG,zi 0,zi 0,.bool false,zt,zt,zt,zt]⟩,[.code (at_ 17 [1,1,1])],[],false,none,false⟩,
 [⟨5,⟨[.bool false,zp 10 0,zs 11 3,zi 9,zi 0,zi 9,zi 0,zi 15,zi 0,zi 180,zi 0,zs 328 3,zi 0,.bool true,zi 0]++zr 28++[dG,zs 11 3,xK,xK,zi 9,zi 0,xK,dG,zs 11 3,xK,zi 9,zi 0,OY,dG,zs 11 3,OY,zi 15,zi 0,OX,dG,zs 11 3,OX,zi 180,zi 0,OW,dG,zs 11 3,OW,zs 328 3,zi 0,OV,dG,zs 11 3,OV,.bool true,zi 0,zt,dG]++zr 224⟩,[.region (aS 5 [1,1,1,1,1,1,1,1,1,0]) [1,2,3,4,5,6],.code (at_ 5 [1,1,1,1,1,1,1,1,1,1])],[],false,none,false⟩],
 ⟨511,wL [Tryz.b0,
  Tryz.b1,
  Tryz.b2,
  Tryz.b3,
  Tryz.b4,
  Tryz.b5,
  (452,⟨(.cells Tryz.v0 26 (0,0)),none,false,0⟩),
  (510,⟨(.cells Tryz.v0 82 (0,0)),none,false,0⟩)],xW [(328,[328])]⟩⟩
noncomputable def Tryz.st2:AS:=⟨⟨90,⟨[QI,zi 1,zp 909 0,zt,.slice none 0 0,.slice none 0 0,zt,zp 909 1,.map (some 746),zp 910 0]++zr 16⟩,[.region (aS 90 [1,1,0,1,0,0,0]) [0,1],.code (at_ 90 [1,1,0,1,0,0,1]),.inLoop (at_ 90 [1,1,0,1,0,0]),.inBlock 0,.code (at_ 90 [1,1,1])],[],false,none,false⟩,
 [⟨53,⟨[QI,zi 1,zp 908 0,zt,.slice none 0 0,zi 0,zp 908 0,zi 4,.bool false,QI,zi 1,zt]⟩,[.region (aS 53 [1,1,0]) [2,3,4],.code .ret],[],false,none,false⟩,
  ⟨18,Tryz.v1,[.region (aS 18 [1,1,1,0]) [3,4,5,6,7],.code .ret],[],false,none,false⟩,
  ⟨5,Tryz.v2,[.region (aS 5 [1,1,1,1,1,1,1,1,1,1,0]) [1,2,3,4,5,6],.code (at_ 5 [1,1,1,1,1,1,1,1,1,1,1])],[],false,none,false⟩],
 ⟨911,wL [Tryz.b0,
  Tryz.b1,
  Tryz.b2,
  Tryz.b3,
  Tryz.b4,
  Tryz.b5,
  Tryz.b6,
  Tryz.b7,
  Tryz.b8,
  Tryz.b9,
  (909,⟨(.cells ⟨[zi 4,.map (some 746)]⟩ 108 (0,0)),none,false,0⟩),
  (910,⟨(.mapIter (some 746) 5 ⟨[]⟩ 5),none,false,0⟩)],xW [(328,[328])]⟩⟩
noncomputable def Tryz.st3:AS:=⟨⟨53,⟨[QI,zi 1,zp 908 0,zt,.slice none 0 0,zi 0,zp 908 0,zi 4,.bool false,QI,zi 1,zs 920 2]⟩,[.region (aS 53 [1,1,0]) [3,4],.code .ret],[],false,none,false⟩,
 [⟨18,Tryz.v1,[.region (aS 18 [1,1,1,0]) [3,4,5,6,7],.code .ret],[],false,none,false⟩,
  ⟨5,Tryz.v2,[.region (aS 5 [1,1,1,1,1,1,1,1,1,1,0]) [1,2,3,4,5,6],.code (at_ 5 [1,1,1,1,1,1,1,1,1,1,1])],[],false,none,false⟩],
 ⟨921,wL [Tryz.b10,
  Tryz.b0,
  Tryz.b1,
  Tryz.b2,
  Tryz.b3,
  Tryz.b4,
  Tryz.b5,
  Tryz.b6,
  Tryz.b7,
  Tryz.b8,
  Tryz.b9],xW [(920,[920]),(328,[328])]⟩⟩
noncomputable def Tryz.st4:AS:=⟨⟨5,⟨[.bool false,zp 10 0,zs 11 3,zi 9,zi 0,zi 9,zi 0,zi 15,zi 0,zi 180,zi 0,zs 328 3,zi 0,.bool true,zi 0,zi 4,zi 0,zs 920 2,zi 0,zp 1167 0,zi 0]++zr 22++[dG,zs 11 3,xK,xK,zi 9,zi 0,xK,dG,zs 11 3,xK,zi 9,zi 0,OY,dG,zs 11 3,OY,zi 15,zi 0,OX,dG,zs 11 3,OX,zi 180,zi 0,OW,dG,zs 11 3,OW,zs 328 3,zi 0,OV,dG,zs 11 3,OV,.bool true,zi 0,zY,dG,zY,zi 4,zi 0,DZ,dG,DZ,zs 920 2,zi 0,H8,dG,H8,VN,zi 0]++zr 211⟩,[.code (at_ 5 [1,1,1,1,1,1,1,1,1,1,1,1])],[],false,none,false⟩,
 [],
 ⟨1168,wL [Tryz.b0,
  Tryz.b1,
  Tryz.b2,
  Tryz.b3,
  Tryz.b4,
  Tryz.b5,
  Tryz.b10,
  Tryz.b11],xW [(328,[328]),(920,[920])]⟩⟩
noncomputable def Tryz.st5:AS:=⟨⟨21,⟨[dG,zp 1455 0,zp 1456 0,zi 0,zp 1514 0,zi 0,zZ,dG,zZ,dG,zi 0,zi 0,.bool false]++zr 10⟩,[.code (at_ 21 [1,1,1,0]),.code .ret],[],false,none,false⟩,
 [⟨5,⟨[.bool false,zp 10 0,zs 11 3,zi 9,zi 0,zi 9,zi 0,zi 15,zi 0,zi 180,zi 0,zs 328 3,zi 0,.bool true,zi 0,zi 4,zi 0,zs 920 2,zi 0,zp 1167 0,zi 0,zp 1454 0,zi 0]++zr 20++[dG,zs 11 3,xK,xK,zi 9,zi 0,xK,dG,zs 11 3,xK,zi 9,zi 0,OY,dG,zs 11 3,OY,zi 15,zi 0,OX,dG,zs 11 3,OX,zi 180,zi 0,OW,dG,zs 11 3,OW,zs 328 3,zi 0,OV,dG,zs 11 3,OV,.bool true,zi 0,zY,dG,zY,zi 4,zi 0,DZ,dG,DZ,zs 920 2,zi 0,H8,dG,H8,VN,zi 0,H8,dG,H8,VN,zi 0,zt,dG]++zr 204⟩,[.region (aS 5 [1,1,1,1,1,1,1,1,1,1,1,1,1,0]) [1,2,3,4,5,6,7],.code (at_ 5 [1,1,1,1,1,1,1,1,1,1,1,1,1,1])],[],false,none,false⟩],
 ⟨1515,wL [Tryz.b0,
  Tryz.b1,
  Tryz.b2,
  Tryz.b3,
  Tryz.b4,
  Tryz.b5,
  Tryz.b10,
  Tryz.b11,
  Tryz.b12,
  (1455,⟨(.cells Tryz.v0 26 (0,0)),none,false,0⟩),
  (1456,⟨(.cells ⟨[zi 0,zi 0]⟩ 50 (0,0)),none,false,0⟩),
  (1514,⟨(.cells Tryz.v0 82 (0,0)),none,false,0⟩)],xW [(328,[328]),(920,[920])]⟩⟩
noncomputable def Tryz.st6:AS:=⟨⟨48,⟨[dG,zt,zt,zt]⟩,[.code (at_ 48 [])],[],false,none,false⟩,
 [⟨22,⟨[dG,zi 8,zi 9,zp 1943 0,zt,zt,zi 0,zi 0,zp 2001 0,zi 0,zZ,dG,zZ,dG,zi 0,zi 0,.bool false,zt,zp 2001 0,dG,zi 8,zi 9,.agg ⟨[zi 8,zi 9,.bool false]⟩,.bool false,dG,zt,zp 2001 0,dG,zi 8,.agg ⟨[zi 2,zs 5 3,zs 8 1,zs 9 1,zi 8]⟩,zi 9,.agg ⟨[zi 2,zs 5 3,zs 8 1,zs 9 1,zi 8,zi 9]⟩,.func (.func 58) ⟨[.agg ⟨[zi 2,zs 5 3,zs 8 1,zs 9 1,zi 8,zi 9]⟩]⟩ ⟨[]⟩,zt,zt,zt]⟩,[.drawn (aS 22 [1,1,1,1,0]) [(1,[2,3,4,5,6,7,8]),(9,[]),(10,[]),(11,[]),(12,[]),(13,[])],.code .ret],[],false,none,false⟩,
  ⟨5,⟨[.bool false,zp 10 0,zs 11 3,zi 9,zi 0,zi 9,zi 0,zi 15,zi 0,zi 180,zi 0,zs 328 3,zi 0,.bool true,zi 0,zi 4,zi 0,zs 920 2,zi 0,zp 1167 0,zi 0,zp 1454 0,zi 0,zp 1700 0,zi 0,zi 0,zi 0]++zr 16++[dG,zs 11 3,xK,xK,zi 9,zi 0,xK,dG,zs 11 3,xK,zi 9,zi 0,OY,dG,zs 11 3,OY,zi 15,zi 0,OX,dG,zs 11 3,OX,zi 180,zi 0,OW,dG,zs 11 3,OW,zs 328 3,zi 0,OV,dG,zs 11 3,OV,.bool true,zi 0,zY,dG,zY,zi 4,zi 0,DZ,dG,DZ,zs 920 2,zi 0,H8,dG,H8,VN,zi 0,H8,dG,H8,VN,zi 0,QJ,dG,QJ,XU,zi 0,QK,dG,QK,zi 0,zi 0,zt,dG]++zr 194⟩,[.region (aS 5 [1,1,1,1,1,1,1,1,1,1,1,1,1,1,1,0]) [1,2,3,4,5,6],.code (at_ 5 [1,1,1,1,1,1,1,1,1,1,1,1,1,1,1,1])],[],false,none,false⟩],
 ⟨2005,wL [Tryz.b0,
  Tryz.b1,
  Tryz.b2,
  Tryz.b3,
  Tryz.b4,
  Tryz.b5,
  Tryz.b10,
  Tryz.b11,
  Tryz.b12,
  Tryz.b13,
  (1943,⟨(.cells Tryz.v0 26 (0,0)),none,false,0⟩),
  (2001,⟨(.cells Tryz.v0 82 (0,0)),none,false,0⟩)],xW [(328,[328]),(920,[920])]⟩⟩
noncomputable def Tryz.st7:AS:=⟨⟨50,⟨[dG]++zr 8⟩,[.code (at_ 50 [])],[],false,none,false⟩,
 [⟨24,⟨[dG,zp 2453 0,zi 0,zi 0,zi 0,zp 2511 0,zZ,dG,zZ,dG,zi 0,zi 0,.bool false,zt,dG,zt,zp 2511 0,zp 2511 0,zp 2511 1,zs 5 3,zi 3,zt,zt,zt,zt]⟩,[.drawn (aS 24 [1,1,1,0]) [(1,[2,3,4,5,6]),(7,[]),(8,[]),(9,[]),(10,[]),(11,[]),(12,[]),(13,[])],.code .ret],[],false,none,false⟩,
  ⟨5,Tryz.v3,[.region (aS 5 [1,1,1,1,1,1,1,1,1,1,1,1,1,1,1,1,1,0]) [1,2,3,4,5,6,7,8],.code (at_ 5 [1,1,1,1,1,1,1,1,1,1,1,1,1,1,1,1,1,1])],[],false,none,false⟩],
 ⟨2512,wL [Tryz.b0,
  Tryz.b1,
  Tryz.b2,
  Tryz.b3,
  Tryz.b4,
  Tryz.b5,
  Tryz.b10,
  Tryz.b11,
  Tryz.b12,
  Tryz.b13,
  Tryz.b14,
  Tryz.b15,
  Tryz.b16],xW [(328,[328]),(920,[920]),(2446,[2446])]⟩⟩
noncomputable def Tryz.st8:AS:=⟨⟨90,⟨[Fa,zi 0,zp 2680 0,zt,.slice none 0 0,.slice none 0 0,zt,zp 2680 1,.map (some 2517),zp 2681 0]++zr 16⟩,[.region (aS 90 [1,1,0,1,0,0,0]) [0,1],.code (at_ 90 [1,1,0,1,0,0,1]),.inLoop (at_ 90 [1,1,0,1,0,0]),.inBlock 0,.code (at_ 90 [1,1,1])],[],false,none,false⟩,
 [⟨62,⟨[Fa,zi 3,zp 2679 0,zt,.int .i64 (.negSucc 0),zi 4,zi 0,zi 0,zi 0,zt,zt,zp 2679 0,zi 4,.bool false,zp 2679 0,zi 4,zi 3,zi 0,.bool true,zi 0,Fa,zi 0]++zr 21⟩,[.region (aS 62 [1,0,1,1,1,0,1,0,0,1,1,0,0,1,1,0,0]) [2,3,4],.code (at_ 62 [1,0,1,1,1,0,1,0,0,1,1,0,0,1,1,0,1]),.code (at_ 62 [1,0,1,1,1,0,1,0,0,1,1,0,0,1,1,1]),.inBlock 1,.code (at_ 62 [1,0,1,1,1,0,1,0,0,1,1,1]),.inLoop (at_ 62 [1,0,1,1,1,0,1,0,0]),.inBlock 0,.code (at_ 62 [1,0,1,1,1,1]),.inScope (at_ 62 [1,0])],[],false,none,false⟩,
  ⟨24,Tryz.v4,[.drawn (aS 24 [1,1,1,0]) [(7,[]),(8,[]),(9,[]),(10,[]),(11,[]),(12,[]),(13,[])],.code .ret],[],false,none,false⟩,
  ⟨5,Tryz.v3,[.region (aS 5 [1,1,1,1,1,1,1,1,1,1,1,1,1,1,1,1,1,0]) [1,2,3,4,5,6,7,8],.code (at_ 5 [1,1,1,1,1,1,1,1,1,1,1,1,1,1,1,1,1,1])],[],false,none,false⟩],
 ⟨2682,wL [Tryz.b0,
  Tryz.b1,
  Tryz.b2,
  Tryz.b3,
  Tryz.b4,
  Tryz.b5,
  Tryz.b10,
  Tryz.b11,
  Tryz.b12,
  Tryz.b13,
  Tryz.b14,
  Tryz.b15,
  Tryz.b16,
  Tryz.b17,
  Tryz.b18,
  (2680,⟨(.cells ⟨[zi 4,.map (some 2517)]⟩ 108 (0,0)),none,false,0⟩),
  (2681,⟨(.mapIter (some 2517) 5 ⟨[]⟩ 5),none,false,0⟩)],xW [(328,[328]),(920,[920]),(2446,[2446])]⟩⟩
noncomputable def Tryz.st9:AS:=⟨⟨62,⟨[Fa,zi 3,zp 2679 0,zt,.int .i64 (.negSucc 0),zi 4,zi 0,zi 0,zi 0,zt,zt,zp 2679 0,zi 4,.bool false,zp 2679 0,zi 4,zi 3,zi 0,.bool true,zi 0,Fa,zi 0,zs 2689 1]++zr 20⟩,[.region (aS 62 [1,0,1,1,1,0,1,0,0,1,1,0,0,1,1,0,0]) [3,4],.code (at_ 62 [1,0,1,1,1,0,1,0,0,1,1,0,0,1,1,0,1]),.code (at_ 62 [1,0,1,1,1,0,1,0,0,1,1,0,0,1,1,1]),.inBlock 1,.code (at_ 62 [1,0,1,1,1,0,1,0,0,1,1,1]),.inLoop (at_ 62 [1,0,1,1,1,0,1,0,0]),.inBlock 0,.code (at_ 62 [1,0,1,1,1,1]),.inScope (at_ 62 [1,0])],[],false,none,false⟩,
 [⟨24,Tryz.v4,[.drawn (aS 24 [1,1,1,0]) [(7,[]),(8,[]),(9,[]),(10,[]),(11,[]),(12,[]),(13,[])],.code .ret],[],false,none,false⟩,
  ⟨5,Tryz.v3,[.region (aS 5 [1,1,1,1,1,1,1,1,1,1,1,1,1,1,1,1,1,0]) [1,2,3,4,5,6,7,8],.code (at_ 5 [1,1,1,1,1,1,1,1,1,1,1,1,1,1,1,1,1,1])],[],false,none,false⟩],
 ⟨2690,wL [Tryz.b19,
  Tryz.b0,
  Tryz.b1,
  Tryz.b2,
  Tryz.b3,
  Tryz.b4,
  Tryz.b5,
  Tryz.b10,
  Tryz.b11,
  Tryz.b12,
  Tryz.b13,
  Tryz.b14,
  Tryz.b15,
  Tryz.b16,
  Tryz.b17,
  Tryz.b18],xW [(2689,[2689]),(328,[328]),(920,[920]),(2446,[2446])]⟩⟩
noncomputable def Tryz.MC:AS:=⟨⟨90,⟨[Fa,zi 1,zp 2691 0,zt,.slice none 0 0,.slice none 0 0,zt,zp 2691 1,.map (some 2517),zp 2692 0]++zr 16⟩,[.region (aS 90 [1,1,0,1,0,0,0]) [0,1],.code (at_ 90 [1,1,0,1,0,0,1]),.inLoop (at_ 90 [1,1,0,1,0,0]),.inBlock 0,.code (at_ 90 [1,1,1])],[],false,none,false⟩,
 [⟨62,⟨[Fa,zi 3,zp 2679 0,zt,.int .i64 (.negSucc 0),zi 4,zi 0,zi 1,zi 0,zt,zi 3,zp 2679 0,zi 4,.bool false,zp 2679 0,zi 4,zi 3,zi 1,.bool true,zi 1,Fa,zi 1,zs 2689 1,zi 1,zi 0,.bool true,zp 2689 0,zi 3,zi 0,Fa,zi 0,zi 3,zi 4,zi 4,zi 4,zi 4,.bool true,zt,zt,zt,zi 1,zt,zt]⟩,[.region (aS 62 [1,0,1,1,1,0,1,0,0,1,1,0,0,1,1,0,0]) [2,3,4],.code (at_ 62 [1,0,1,1,1,0,1,0,0,1,1,0,0,1,1,0,1]),.code (at_ 62 [1,0,1,1,1,0,1,0,0,1,1,0,0,1,1,1]),.inBlock 1,.code (at_ 62 [1,0,1,1,1,0,1,0,0,1,1,1]),.inLoop (at_ 62 [1,0,1,1,1,0,1,0,0]),.inBlock 0,.code (at_ 62 [1,0,1,1,1,1]),.inScope (at_ 62 [1,0])],[],false,none,false⟩,
  ⟨24,Tryz.v4,[.drawn (aS 24 [1,1,1,0]) [(7,[]),(8,[]),(9,[]),(10,[]),(11,[]),(12,[]),(13,[])],.code .ret],[],false,none,false⟩,
  ⟨5,Tryz.v3,[.region (aS 5 [1,1,1,1,1,1,1,1,1,1,1,1,1,1,1,1,1,0]) [1,2,3,4,5,6,7,8],.code (at_ 5 [1,1,1,1,1,1,1,1,1,1,1,1,1,1,1,1,1,1])],[],false,none,false⟩],
 ⟨2693,wL [Tryz.b0,
  Tryz.b1,
  Tryz.b2,
  Tryz.b3,
  Tryz.b4,
  Tryz.b5,
  Tryz.b10,
  Tryz.b11,
  Tryz.b12,
  Tryz.b13,
  Tryz.b14,
  Tryz.b15,
  Tryz.b16,
  Tryz.b17,
  Tryz.b18,
  Tryz.b19,
  (2691,⟨(.cells ⟨[zi 4,.map (some 2517)]⟩ 108 (0,0)),none,false,0⟩),
  (2692,⟨(.mapIter (some 2517) 5 ⟨[]⟩ 5),none,false,0⟩)],xW [(328,[328]),(920,[920]),(2446,[2446]),(2689,[2689])]⟩⟩
noncomputable def Tryz.QL:AS:=⟨⟨62,⟨[Fa,zi 3,zp 2679 0,zt,.int .i64 (.negSucc 0),zi 4,zi 0,zi 1,zi 0,zt,zi 3,zp 2679 0,zi 4,.bool false,zp 2679 0,zi 4,zi 3,zi 1,.bool true,zi 1,Fa,zi 1,zs 2702 2,zi 1,zi 0,.bool true,zp 2689 0,zi 3,zi 0,Fa,zi 0,zi 3,zi 4,zi 4,zi 4,zi 4,.bool true,zt,zt,zt,zi 1,zt,zt]⟩,[.region (aS 62 [1,0,1,1,1,0,1,0,0,1,1,0,0,1,1,0,0]) [3,4],.code (at_ 62 [1,0,1,1,1,0,1,0,0,1,1,0,0,1,1,0,1]),.code (at_ 62 [1,0,1,1,1,0,1,0,0,1,1,0,0,1,1,1]),.inBlock 1,.code (at_ 62 [1,0,1,1,1,0,1,0,0,1,1,1]),.inLoop (at_ 62 [1,0,1,1,1,0,1,0,0]),.inBlock 0,.code (at_ 62 [1,0,1,1,1,1]),.inScope (at_ 62 [1,0])],[],false,none,false⟩,
 [⟨24,Tryz.v4,[.drawn (aS 24 [1,1,1,0]) [(7,[]),(8,[]),(9,[]),(10,[]),(11,[]),(12,[]),(13,[])],.code .ret],[],false,none,false⟩,
  ⟨5,Tryz.v3,[.region (aS 5 [1,1,1,1,1,1,1,1,1,1,1,1,1,1,1,1,1,0]) [1,2,3,4,5,6,7,8],.code (at_ 5 [1,1,1,1,1,1,1,1,1,1,1,1,1,1,1,1,1,1])],[],false,none,false⟩],
 ⟨2703,wL [Tryz.b20,
  Tryz.b0,
  Tryz.b1,
  Tryz.b2,
  Tryz.b3,
  Tryz.b4,
  Tryz.b5,
  Tryz.b10,
  Tryz.b11,
  Tryz.b12,
  Tryz.b13,
  Tryz.b14,
  Tryz.b15,
  Tryz.b16,
  Tryz.b17,
  Tryz.b18,
  Tryz.b19],xW [(2702,[2702]),(328,[328]),(920,[920]),(2446,[2446]),(2689,[2689])]⟩⟩
noncomputable def Tryz.MF:AS:=⟨⟨90,⟨[Fa,zi 2,zp 2705 0,zt,.slice none 0 0,.slice none 0 0,zt,zp 2705 1,.map (some 2517),zp 2706 0]++zr 16⟩,[.region (aS 90 [1,1,0,1,0,0,0]) [0,1],.code (at_ 90 [1,1,0,1,0,0,1]),.inLoop (at_ 90 [1,1,0,1,0,0]),.inBlock 0,.code (at_ 90 [1,1,1])],[],false,none,false⟩,
 [⟨62,⟨[Fa,zi 3,zp 2679 0,zt,zi 1,zi 2,zi 0,zi 2,zi 0,zt,zi 7,zp 2679 0,zi 4,.bool false,zp 2679 0,zi 4,zi 3,zi 2,.bool true,zi 2,Fa,zi 2,zs 2702 2,zi 2,zi 2,.bool false,zp 2702 1,zi 7,zi 2,Fa,zi 1,zi 7,zi 2,zi 2,zi 2,zi 4,.bool false,zi 2,zi 1,zi 2,zi 2,zt,zt]⟩,[.region (aS 62 [1,0,1,1,1,0,1,0,0,1,1,0,0,1,1,0,0]) [2,3,4],.code (at_ 62 [1,0,1,1,1,0,1,0,0,1,1,0,0,1,1,0,1]),.code (at_ 62 [1,0,1,1,1,0,1,0,0,1,1,0,0,1,1,1]),.inBlock 1,.code (at_ 62 [1,0,1,1,1,0,1,0,0,1,1,1]),.inLoop (at_ 62 [1,0,1,1,1,0,1,0,0]),.inBlock 0,.code (at_ 62 [1,0,1,1,1,1]),.inScope (at_ 62 [1,0])],[],false,none,false⟩,
  ⟨24,Tryz.v4,[.drawn (aS 24 [1,1,1,0]) [(7,[]),(8,[]),(9,[]),(10,[]),(11,[]),(12,[]),(13,[])],.code .ret],[],false,none,false⟩,
  ⟨5,Tryz.v3,[.region (aS 5 [1,1,1,1,1,1,1,1,1,1,1,1,1,1,1,1,1,0]) [1,2,3,4,5,6,7,8],.code (at_ 5 [1,1,1,1,1,1,1,1,1,1,1,1,1,1,1,1,1,1])],[],false,none,false⟩],
 ⟨2707,wL [Tryz.b0,
  Tryz.b1,
  Tryz.b2,
  Tryz.b3,
  Tryz.b4,
  Tryz.b5,
  Tryz.b10,
  Tryz.b11,
  Tryz.b12,
  Tryz.b13,
  Tryz.b14,
  Tryz.b15,
  Tryz.b16,
  Tryz.b17,
  Tryz.b18,
  Tryz.b20,
  (2705,⟨(.cells ⟨[zi 4,.map (some 2517)]⟩ 108 (0,0)),none,false,0⟩),
  (2706,⟨(.mapIter (some 2517) 5 ⟨[]⟩ 5),none,false,0⟩)],xW [(328,[328]),(920,[920]),(2446,[2446]),(2702,[2702])]⟩⟩
noncomputable def Tryz.QM:AS:=⟨⟨62,⟨[Fa,zi 3,zp 2679 0,zt,zi 1,zi 2,zi 0,zi 2,zi 0,zt,zi 7,zp 2679 0,zi 4,.bool false,zp 2679 0,zi 4,zi 3,zi 2,.bool true,zi 2,Fa,zi 2,zs 2716 2,zi 2,zi 2,.bool false,zp 2702 1,zi 7,zi 2,Fa,zi 1,zi 7,zi 2,zi 2,zi 2,zi 4,.bool false,zi 2,zi 1,zi 2,zi 2,zt,zt]⟩,[.region (aS 62 [1,0,1,1,1,0,1,0,0,1,1,0,0,1,1,0,0]) [3,4],.code (at_ 62 [1,0,1,1,1,0,1,0,0,1,1,0,0,1,1,0,1]),.code (at_ 62 [1,0,1,1,1,0,1,0,0,1,1,0,0,1,1,1]),.inBlock 1,.code (at_ 62 [1,0,1,1,1,0,1,0,0,1,1,1]),.inLoop (at_ 62 [1,0,1,1,1,0,1,0,0]),.inBlock 0,.code (at_ 62 [1,0,1,1,1,1]),.inScope (at_ 62 [1,0])],[],false,none,false⟩,
 [⟨24,Tryz.v4,[.drawn (aS 24 [1,1,1,0]) [(7,[]),(8,[]),(9,[]),(10,[]),(11,[]),(12,[]),(13,[])],.code .ret],[],false,none,false⟩,
  ⟨5,Tryz.v3,[.region (aS 5 [1,1,1,1,1,1,1,1,1,1,1,1,1,1,1,1,1,0]) [1,2,3,4,5,6,7,8],.code (at_ 5 [1,1,1,1,1,1,1,1,1,1,1,1,1,1,1,1,1,1])],[],false,none,false⟩],
 ⟨2717,wL [(2716,⟨(.cells ⟨[zi 12,zi 13]⟩ 3 (0,0)),(some 2716),false,1⟩),
  Tryz.b0,
  Tryz.b1,
  Tryz.b2,
  Tryz.b3,
  Tryz.b4,
  Tryz.b5,
  Tryz.b10,
  Tryz.b11,
  Tryz.b12,
  Tryz.b13,
  Tryz.b14,
  Tryz.b15,
  Tryz.b16,
  Tryz.b17,
  Tryz.b18,
  Tryz.b20],xW [(2716,[2716]),(328,[328]),(920,[920]),(2446,[2446]),(2702,[2702])]⟩⟩
noncomputable def Tryz.afA:AS:=⟨⟨67,⟨[H7,zp 3255 0,.slice none 0 0,zs 3390 16,zp 3413 0,zt,zt,zt,zt,zp 3255 0,H7,zi 4,zp 3255 0,H7,zi 4,.func (.func 125) ⟨[]⟩ ⟨[zp 3258 0,zp 3259 0]⟩,zs 3390 16,zs 3390 16,zi 16]++zr 19⟩,[.code (at_ 67 [1,1,1])],[],false,none,false⟩,
 [⟨29,Tryz.v5,[.drawn (aS 29 [1,1,1,0]) [(3,[0,1]),(4,[]),(5,[]),(6,[]),(7,[]),(8,[]),(9,[])],.code (at_ 29 [1,1,1,1])],[],false,none,false⟩,
  ⟨5,Tryz.v6,[.region (aS 5 [1,1,1,1,1,1,1,1,1,1,1,1,1,1,1,1,1,1,1,1,1,0]) [1,2,3,4,5,6,7,8],.code (at_ 5 [1,1,1,1,1,1,1,1,1,1,1,1,1,1,1,1,1,1,1,1,1,1])],[],false,none,false⟩],
 ⟨3414,wL [Tryz.b0,
  Tryz.b1,
  Tryz.b2,
  Tryz.b3,
  Tryz.b4,
  Tryz.b5,
  Tryz.b10,
  Tryz.b11,
  Tryz.b12,
  Tryz.b13,
  Tryz.b14,
  Tryz.b21,
  Tryz.b22,
  Tryz.b23,
  Tryz.b24,
  Tryz.b25,
  Tryz.b26,
  Tryz.b27,
  Tryz.b28,
  Tryz.b29,
  Tryz.b30,
  Tryz.b31,
  Tryz.b32,
  Tryz.b33,
  Tryz.b34,
  Tryz.b35,
  Tryz.b36,
  Tryz.b37,
  Tryz.b38,
  Tryz.b39,
  Tryz.b40,
  Tryz.b41,
  Tryz.b42,
  Tryz.b43,
  Tryz.b44,
  Tryz.b45,
  Tryz.b46,
  Tryz.b47,
  Tryz.b48,
  (3413,⟨(.cells ⟨[zi 16]⟩ 3 (0,0)),none,false,0⟩)],xW [(328,[328]),(920,[920]),(2446,[2446]),(2779,[2779]),(2781,[2781]),(2783,[2786]),(3171,[3172]),(3179,[3180]),(3270,[3270]),(3276,[3276]),(3282,[3282]),(3288,[3288]),(3296,[3296]),(3302,[3302]),(3308,[3308]),(3316,[3316]),(3322,[3322]),(3330,[3330]),(3342,[3342]),(3348,[3348]),(3356,[3356]),(3368,[3368]),(3388,[3388]),(3266,[3390])]⟩⟩
noncomputable def Tryz.Vw:AS:=⟨⟨67,⟨[H7,zp 3255 0,.slice none 0 0,zs 3390 16,zp 3413 0,zp 3414 0,zp 3415 0,zt,zt,zp 3255 0,H7,zi 4,zp 3255 0,H7,zi 4,.func (.func 125) ⟨[]⟩ ⟨[zp 3258 0,zp 3259 0]⟩,zs 3390 16,zs 3390 16,zi 16]++zr 19⟩,[.region (aS 67 [1,1,1,1,0]) [],.code (at_ 67 [1,1,1,1,1])],[],false,none,false⟩,
 [⟨29,Tryz.v5,[.drawn (aS 29 [1,1,1,0]) [(3,[0,1]),(4,[]),(5,[]),(6,[]),(7,[]),(8,[]),(9,[])],.code (at_ 29 [1,1,1,1])],[],false,none,false⟩,
  ⟨5,Tryz.v6,[.region (aS 5 [1,1,1,1,1,1,1,1,1,1,1,1,1,1,1,1,1,1,1,1,1,0]) [1,2,3,4,5,6,7,8],.code (at_ 5 [1,1,1,1,1,1,1,1,1,1,1,1,1,1,1,1,1,1,1,1,1,1])],[],false,none,false⟩],
 ⟨3416,wL [Tryz.b0,
  Tryz.b1,
  Tryz.b2,
  Tryz.b3,
  Tryz.b4,
  Tryz.b5,
  Tryz.b10,
  Tryz.b11,
  Tryz.b12,
  Tryz.b13,
  Tryz.b14,
  Tryz.b21,
  Tryz.b22,
  Tryz.b23,
  Tryz.b24,
  Tryz.b25,
  Tryz.b26,
  Tryz.b27,
  Tryz.b28,
  Tryz.b29,
  Tryz.b30,
  Tryz.b31,
  Tryz.b32,
  Tryz.b33,
  Tryz.b34,
  Tryz.b35,
  Tryz.b36,
  Tryz.b37,
  Tryz.b38,
  Tryz.b39,
  Tryz.b40,
  Tryz.b41,
  Tryz.b42,
  Tryz.b43,
  Tryz.b44,
  Tryz.b45,
  Tryz.b46,
  Tryz.b47,
  Tryz.b48],xW [(328,[328]),(920,[920]),(2446,[2446]),(2779,[2779]),(2781,[2781]),(2783,[2786]),(3171,[3172]),(3179,[3180]),(3270,[3270]),(3276,[3276]),(3282,[3282]),(3288,[3288]),(3296,[3296]),(3302,[3302]),(3308,[3308]),(3316,[3316]),(3322,[3322]),(3330,[3330]),(3342,[3342]),(3348,[3348]),(3356,[3356]),(3368,[3368]),(3388,[3388]),(3266,[3390])]⟩⟩
noncomputable def Tryz.zy:AS×AS:=(aU Tryz.prog plan Tryz.link 3415 31 3 Tryz.Vw).getD (Tryz.Vw,Tryz.Vw)
noncomputable def Tryz.zB:AS×AS:=(aU Tryz.prog plan Tryz.link 3415 28 3 Tryz.zy.2).getD (Tryz.zy.2,Tryz.zy.2)
noncomputable def Tryz.zC:AS×AS:=(aU Tryz.prog plan Tryz.link 3415 28 3 Tryz.zB.2).getD (Tryz.zB.2,Tryz.zB.2)
noncomputable def Tryz.zD:AS×AS:=(aU Tryz.prog plan Tryz.link 3415 28 3 Tryz.zC.2).getD (Tryz.zC.2,Tryz.zC.2)
noncomputable def Tryz.zF:AS×AS:=(aU Tryz.prog plan Tryz.link 3415 28 3 Tryz.zD.2).getD (Tryz.zD.2,Tryz.zD.2)
noncomputable def Tryz.zG:AS×AS:=(aU Tryz.prog plan Tryz.link 3415 28 3 Tryz.zF.2).getD (Tryz.zF.2,Tryz.zF.2)
noncomputable def Tryz.zH:AS×AS:=(aU Tryz.prog plan Tryz.link 3415 28 3 Tryz.zG.2).getD (Tryz.zG.2,Tryz.zG.2)
noncomputable def Tryz.zI:AS×AS:=(aU Tryz.prog plan Tryz.link 3415 28 3 Tryz.zH.2).getD (Tryz.zH.2,Tryz.zH.2)
noncomputable def Tryz.zJ:AS×AS:=(aU Tryz.prog plan Tryz.link 3415 28 3 Tryz.zI.2).getD (Tryz.zI.2,Tryz.zI.2)
noncomputable def Tryz.zL:AS×AS:=(aU Tryz.prog plan Tryz.link 3415 28 3 Tryz.zJ.2).getD (Tryz.zJ.2,Tryz.zJ.2)
noncomputable def Tryz.sJ:AS×AS:=(aU Tryz.prog plan Tryz.link 3415 28 3 Tryz.zL.2).getD (Tryz.zL.2,Tryz.zL.2)
noncomputable def Tryz.sK:AS×AS:=(aU Tryz.prog plan Tryz.link 3415 28 3 Tryz.sJ.2).getD (Tryz.sJ.2,Tryz.sJ.2)
noncomputable def Tryz.sN:AS×AS:=(aU Tryz.prog plan Tryz.link 3415 28 3 Tryz.sK.2).getD (Tryz.sK.2,Tryz.sK.2)
noncomputable def Tryz.sO:AS×AS:=(aU Tryz.prog plan Tryz.link 3415 28 3 Tryz.sN.2).getD (Tryz.sN.2,Tryz.sN.2)
noncomputable def Tryz.sS:AS×AS:=(aU Tryz.prog plan Tryz.link 3415 28 3 Tryz.sO.2).getD (Tryz.sO.2,Tryz.sO.2)
noncomputable def Tryz.Di:AS×AS:=(aU Tryz.prog plan Tryz.link 3415 28 3 Tryz.sS.2).getD (Tryz.sS.2,Tryz.sS.2)
noncomputable def Tryz.afB:AS:=⟨⟨67,⟨[H7,zp 3255 0,.slice none 0 0,zs 3390 16,zp 3413 0,zp 3414 0,zp 3415 0,zp 3446 0,zp 3447 0,zp 3255 0,H7,zi 4,zp 3255 0,H7,zi 4,.func (.func 125) ⟨[]⟩ ⟨[zp 3258 0,zp 3259 0]⟩,zs 3390 16,zs 3390 16,zi 16,zs 3390 16,zi 16,zi 16,.bool false,zi 15,zp 3390 15,zs 3388 4,zt,.func (.func 106) ⟨[]⟩ ⟨[zp 3415 0,zp 3255 0,zp 3447 0,zp 3414 0,zp 3413 0,zp 3446 0]⟩,zi 16]++zr 9⟩,[.region (aS 67 [1,1,1,1,1,1,0]) [],.code (at_ 67 [1,1,1,1,1,1,1])],[],false,none,false⟩,
 [⟨29,Tryz.v5,[.drawn (aS 29 [1,1,1,0]) [(3,[0,1]),(4,[]),(5,[]),(6,[]),(7,[]),(8,[]),(9,[])],.code (at_ 29 [1,1,1,1])],[],false,none,false⟩,
  ⟨5,Tryz.v6,[.region (aS 5 [1,1,1,1,1,1,1,1,1,1,1,1,1,1,1,1,1,1,1,1,1,0]) [1,2,3,4,5,6,7,8],.code (at_ 5 [1,1,1,1,1,1,1,1,1,1,1,1,1,1,1,1,1,1,1,1,1,1])],[],false,none,false⟩],
 ⟨3448,wL [Tryz.b0,
  Tryz.b1,
  Tryz.b2,
  Tryz.b3,
  Tryz.b4,
  Tryz.b5,
  Tryz.b10,
  Tryz.b11,
  Tryz.b12,
  Tryz.b13,
  Tryz.b14,
  Tryz.b21,
  Tryz.b22,
  Tryz.b23,
  Tryz.b24,
  Tryz.b25,
  Tryz.b26,
  Tryz.b27,
  Tryz.b28,
  Tryz.b29,
  Tryz.b30,
  Tryz.b31,
  Tryz.b32,
  Tryz.b33,
  Tryz.b34,
  Tryz.b35,
  Tryz.b36,
  Tryz.b37,
  Tryz.b38,
  Tryz.b39,
  Tryz.b40,
  Tryz.b41,
  Tryz.b42,
  Tryz.b43,
  Tryz.b44,
  Tryz.b45,
  Tryz.b46,
  Tryz.b47,
  Tryz.b48,
  (3413,⟨(.cells ⟨[zi 2]⟩ 0 (0,0)),none,false,0⟩),
  (3446,⟨(.cells ⟨[zi 15]⟩ 3 (0,0)),none,false,0⟩),
  (3447,⟨(.cells ⟨[zs 3388 4]⟩ 31 (0,0)),none,false,0⟩)],xW [(328,[328]),(920,[920]),(2446,[2446]),(2779,[2779]),(2781,[2781]),(2783,[2786]),(3171,[3172]),(3179,[3180]),(3270,[3270]),(3276,[3276]),(3282,[3282]),(3288,[3288]),(3296,[3296]),(3302,[3302]),(3308,[3308]),(3316,[3316]),(3322,[3322]),(3330,[3330]),(3342,[3342]),(3348,[3348]),(3356,[3356]),(3368,[3368]),(3388,[3388]),(3266,[3390])]⟩⟩
end Go.Am
