import Derived.Test.YtkgmngkagkoepaaGreatH24
import Derived.Test.YtkgmngkagkoepaaGreatH34
set_option linter.all false
namespace Go.Am
open Go.Proofs
abbrev zi(n:Nat):Value:=zJ (.ofNat n)
abbrev zs(b n:Nat):Value:=.slice (some ⟨b,0,none⟩) n n
abbrev zo(b o n c:Nat):Value:=.slice (some ⟨b,o,none⟩) n c
abbrev zp(b o:Nat):Value:=.pointer (some ⟨b,o,none⟩)
abbrev zt:Value:=.tuple ⟨[]⟩
abbrev zr(n:Nat):List Value:=List.replicate n zt
abbrev dO:Value:=.agg ⟨[zi 2,zs 5 3,zs 8 1,zs 9 1]⟩
abbrev Ht:Value:=.agg ⟨[zi 2,zs 5 3,zs 3172 2,zs 3180 2]⟩
abbrev ET:Value:=.agg ⟨[zi 4,.map (some 2517)]⟩
abbrev xP:Value:=.tuple ⟨[zi 9,zi 0]⟩
abbrev ZJ:Value:=.agg ⟨[zi 9,zi 10]⟩
abbrev PT:Value:=.tuple ⟨[zT,zi 0]⟩
abbrev PU:Value:=.tuple ⟨[zs 328 3,zi 0]⟩
abbrev Hu:Value:=.tuple ⟨[ZJ,zi 0]⟩
abbrev PV:Value:=.tuple ⟨[zi 180,zi 0]⟩
abbrev PW:Value:=.tuple ⟨[zi 15,zi 0]⟩
abbrev DX:Value:=.tuple ⟨[zs 920 2,zi 0]⟩
abbrev zW:Value:=.tuple ⟨[zi 4,zi 0]⟩
abbrev zX:Value:=.tuple ⟨[dO,zi 0]⟩
abbrev abB:Value:=.agg ⟨[zi 180,zi 200]⟩
abbrev abC:Value:=.agg ⟨[zi 2,zs 2779 3,zs 2781 1,zs 2786 2]⟩
abbrev TG:Value:=.agg ⟨[zi 4,.map (some 746)]⟩
abbrev abD:Value:=.tuple ⟨[zs 2446 3,zi 180,zi 0]⟩
abbrev TJ:Value:=.tuple ⟨[abB,zi 0]⟩
abbrev TK:Value:=.tuple ⟨[zi 0,zi 0]⟩
def EU:Array Value:=⟨[zi 2,zs 5 3,zs 8 1,zs 9 1]⟩
def ads:Array Value:=⟨[dO,zi 1,zp 679 0,zt,.slice none 0 0,zi 0,zp 740 0,zi 0,zX,dO,zi 1,zX,dO,zi 0,zi 0,zF,zt,dO,TG,zi 1,zt,zt,zt]⟩
def adt:Array Value:=⟨[zF,zp 10 0,zs 11 3,zi 9,zi 0,zi 9,zi 0,zi 15,zi 0,zi 180,zi 0,zs 328 3,zi 0,zT,zi 0,zi 4,zi 0]++zr 26++[dO,zs 11 3,xP,xP,zi 9,zi 0,xP,dO,zs 11 3,xP,zi 9,zi 0,PW,dO,zs 11 3,PW,zi 15,zi 0,PV,dO,zs 11 3,PV,zi 180,zi 0,PU,dO,zs 11 3,PU,zs 328 3,zi 0,PT,dO,zs 11 3,PT,zT,zi 0,zW,dO,zW,zi 4,zi 0,zt,dO]++zr 219⟩
def CO:Array Value:=⟨[zF,zp 10 0,zs 11 3,zi 9,zi 0,zi 9,zi 0,zi 15,zi 0,zi 180,zi 0,zs 328 3,zi 0,zT,zi 0,zi 4,zi 0,zs 920 2,zi 0,zp 1167 0,zi 0,zp 1454 0,zi 0,zp 1700 0,zi 0,zi 0,zi 0,zi 1,zi 0,zs 2446 3,zi 180,zi 0]++zr 11++[dO,zs 11 3,xP,xP,zi 9,zi 0,xP,dO,zs 11 3,xP,zi 9,zi 0,PW,dO,zs 11 3,PW,zi 15,zi 0,PV,dO,zs 11 3,PV,zi 180,zi 0,PU,dO,zs 11 3,PU,zs 328 3,zi 0,PT,dO,zs 11 3,PT,zT,zi 0,zW,dO,zW,zi 4,zi 0,DX,dO,DX,zs 920 2,zi 0,Hu,dO,Hu,ZJ,zi 0,Hu,dO,Hu,ZJ,zi 0,TJ,dO,TJ,abB,zi 0,TK,dO,TK,zi 0,zi 0,.tuple ⟨[zi 1,zi 0]⟩,dO,.tuple ⟨[zi 1,zi 0]⟩,zi 1,zi 0,abD,dO,abD,zs 2446 3,zi 180,zi 0,zt,dO]++zr 183⟩
def EW:Array Value:=⟨[dO,zp 2453 0,zi 0,zi 0,zi 0,zp 2511 0,zX,dO,zX,dO,zi 0,zi 0,zF,zt,dO,ET,zp 2511 0,zp 2511 0,zp 2511 1,zs 5 3,zi 3,zt,zt,zt,zt]⟩
def YL:Array Value:=⟨[Ht,zp 3181 0,.slice none 0 0,.slice none 0 0,zi 0,zp 3254 0,.tuple ⟨[Ht,zi 0]⟩,Ht,.tuple ⟨[Ht,zi 0]⟩,Ht,zi 0,zi 0,zF,zt,zt,zp 3254 0,Ht,Ht,zt,zt,zt,zt,zt,zt]⟩
def YM:Array Value:=⟨[zF,zp 10 0,zs 11 3,zi 9,zi 0,zi 9,zi 0,zi 15,zi 0,zi 180,zi 0,zs 328 3,zi 0,zT,zi 0,zi 4,zi 0,zs 920 2,zi 0,zp 1167 0,zi 0,zp 1454 0,zi 0,zp 1700 0,zi 0,zi 0,zi 0,zi 1,zi 0,zs 2446 3,zi 180,zi 0,zi 1,zi 2,zi 0,zp 2914 0,zi 0,zi 3,zi 0,zp 3162 0,zt,zt,zt,dO,zs 11 3,xP,xP,zi 9,zi 0,xP,dO,zs 11 3,xP,zi 9,zi 0,PW,dO,zs 11 3,PW,zi 15,zi 0,PV,dO,zs 11 3,PV,zi 180,zi 0,PU,dO,zs 11 3,PU,zs 328 3,zi 0,PT,dO,zs 11 3,PT,zT,zi 0,zW,dO,zW,zi 4,zi 0,DX,dO,DX,zs 920 2,zi 0,Hu,dO,Hu,ZJ,zi 0,Hu,dO,Hu,ZJ,zi 0,TJ,dO,TJ,abB,zi 0,TK,dO,TK,zi 0,zi 0,.tuple ⟨[zi 1,zi 0]⟩,dO,.tuple ⟨[zi 1,zi 0]⟩,zi 1,zi 0,abD,dO,abD,zs 2446 3,zi 180,zi 0,.tuple ⟨[zi 1,zi 2,zi 0]⟩,dO,.tuple ⟨[zi 1,zi 2,zi 0]⟩,zi 1,zi 2,zi 0,.tuple ⟨[abC,zi 0]⟩,dO,.agg ⟨[zi 8,zi 10,zF]⟩,.tuple ⟨[abC,zi 0]⟩,abC,zi 0,.tuple ⟨[zi 3,zi 0]⟩,abC,.tuple ⟨[zi 3,zi 0]⟩,zi 3,zi 0,dO,.agg ⟨[zi 30,zi 30]⟩,.agg ⟨[zi 0,zi 2,zi 30,zi 30]⟩,.agg ⟨[zi 2,zs 5 3,zs 3172 2,zs 9 1]⟩,.agg ⟨[zi 4,zi 7,zT]⟩,Ht,zt,Ht]++zr 160⟩
def lJ:Nat×aY:=(5,⟨(.cells ⟨[zi 0,zi 3,zi 3,zi 4,zi 6,zi 7,zi 12,zi 12,zi 13]⟩ 37 (0,0)),none,false,0⟩)
def lK:Nat×aY:=(8,⟨(.cells ⟨[zi 0,zi 1,zi 5,zi 5]⟩ 73 (0,0)),none,false,0⟩)
def lM:Nat×aY:=(9,⟨(.cells ⟨[zi 8,zi 9,zT]⟩ 69 (0,0)),none,false,0⟩)
def lN:Nat×aY:=(10,⟨(.cells ⟨[zi 2,zs 5 3,zs 8 1,zs 9 1]⟩ 26 (0,0)),none,false,0⟩)
def lQ:Nat×aY:=(11,⟨(.cells ⟨[zi 3,zi 6,zi 12]⟩ 3 (0,0)),none,false,0⟩)
def lS:Nat×aY:=(328,⟨(.cells ⟨[zi 1,zi 4,zi 10]⟩ 3 (0,0)),(some 328),false,1⟩)
def adu:Nat×aY:=(679,⟨(.cells ⟨[zi 2,zs 5 3,zs 8 1,zs 9 1]⟩ 26 (0,0)),none,false,0⟩)
def adv:Nat×aY:=(740,⟨(.cells ⟨[zi 2,zs 5 3,zs 8 1,zs 9 1]⟩ 83 (0,0)),none,false,0⟩)
def adw:Nat×aY:=(746,⟨(.map ⟨[⟨.agg ⟨[zi 0,zi 3]⟩,zi 4,0⟩,⟨.agg ⟨[zi 1,zi 6]⟩,zi 2,1⟩,⟨.agg ⟨[zi 2,zi 12]⟩,zi 2,2⟩,⟨.agg ⟨[zi 2,zi 13]⟩,zi 2,3⟩,⟨.agg ⟨[zi 1,zi 7]⟩,zi 2,4⟩]⟩ 5),none,false,0⟩)
def adx:Nat×aY:=(908,⟨(.cells ⟨[zi 4,.map (some 746)]⟩ 108 (0,0)),none,false,0⟩)
def jL:Nat×aY:=(920,⟨(.cells ⟨[zi 6,zi 7]⟩ 3 (0,0)),(some 920),false,1⟩)
def kz:Nat×aY:=(1167,⟨(.cells ⟨[zi 9,zi 10]⟩ 35 (0,0)),none,false,0⟩)
def lD:Nat×aY:=(1454,⟨(.cells ⟨[zi 9,zi 10]⟩ 35 (0,0)),none,false,0⟩)
def nH:Nat×aY:=(1700,⟨(.cells ⟨[zi 180,zi 200]⟩ 35 (0,0)),none,false,0⟩)
def oq:Nat×aY:=(2446,⟨(.cells ⟨[zi 3,zi 6,zi 12]⟩ 3 (0,0)),(some 2446),false,1⟩)
def vT:Nat×aY:=(2453,⟨(.cells ⟨[zi 2,zs 5 3,zs 8 1,zs 9 1]⟩ 26 (0,0)),none,false,0⟩)
def vU:Nat×aY:=(2511,⟨(.cells ⟨[zi 2,zs 5 3,zs 8 1,zs 9 1]⟩ 83 (0,0)),none,false,0⟩)
def yO:Nat×aY:=(2517,⟨(.map ⟨[⟨.agg ⟨[zi 0,zi 3]⟩,zi 4,0⟩,⟨.agg ⟨[zi 1,zi 6]⟩,zi 2,1⟩,⟨.agg ⟨[zi 2,zi 12]⟩,zi 2,2⟩,⟨.agg ⟨[zi 2,zi 13]⟩,zi 2,3⟩,⟨.agg ⟨[zi 1,zi 7]⟩,zi 2,4⟩]⟩ 5),none,false,0⟩)
def yP:Nat×aY:=(2679,⟨(.cells ⟨[zi 4,.map (some 2517)]⟩ 108 (0,0)),none,false,0⟩)
def MK:Nat×aY:=(2689,⟨(.cells ⟨[zi 3]⟩ 3 (0,0)),(some 2689),false,1⟩)
def ML:Nat×aY:=(2702,⟨(.cells ⟨[zi 6,zi 7]⟩ 3 (0,0)),(some 2702),false,1⟩)
def MM:Nat×aY:=(2779,⟨(.cells ⟨[zi 0,zi 3,zi 3,zi 4,zi 6,zi 7,zi 12,zi 12,zi 13]⟩ 37 (0,0)),(some 2779),false,3⟩)
def MN:Nat×aY:=(2781,⟨(.cells ⟨[zi 0,zi 1,zi 5,zi 5]⟩ 73 (0,0)),(some 2781),false,4⟩)
def MO:Nat×aY:=(2786,⟨(.cells ⟨[zi 8,zi 9,zT,zi 8,zi 10,zF]⟩ 69 (0,0)),(some 2783),false,3⟩)
def MP:Nat×aY:=(2914,⟨(.cells ⟨[zi 2,zs 2779 3,zs 2781 1,zs 2786 2]⟩ 26 (0,0)),none,false,0⟩)
def MQ:Nat×aY:=(3162,⟨(.cells ⟨[zi 2,zs 5 3,zs 3172 2,zs 3180 2]⟩ 26 (0,0)),none,false,0⟩)
def MR:Nat×aY:=(3172,⟨(.cells ⟨[zi 0,zi 1,zi 5,zi 5,zi 0,zi 2,zi 30,zi 30]⟩ 73 (0,0)),(some 3171),false,4⟩)
def MS:Nat×aY:=(3180,⟨(.cells ⟨[zi 8,zi 9,zT,zi 4,zi 7,zT]⟩ 69 (0,0)),(some 3179),false,3⟩)
def MV:Nat×aY:=(3181,⟨(.cells ⟨[zi 2,zs 5 3,zs 3172 2,zs 3180 2]⟩ 26 (0,0)),none,false,0⟩)
def MW:Nat×aY:=(3254,⟨(.cells ⟨[zi 2,zs 5 3,zs 3172 2,zs 3180 2]⟩ 83 (0,0)),none,false,0⟩)
def MX:Nat×aY:=(3255,⟨(.cells ⟨[zi 2,zs 5 3,zs 3172 2,zs 3180 2]⟩ 83 (0,0)),none,false,0⟩)
def MZ:Nat×aY:=(3258,⟨(.cells ⟨[zi 4]⟩ 3 (0,0)),none,false,0⟩)
def Na:Nat×aY:=(3259,⟨(.cells ⟨[zi 4]⟩ 3 (0,0)),none,false,0⟩)
def Nb:Nat×aY:=(3270,⟨(.cells ⟨[zi 0]⟩ 3 (0,0)),(some 3270),false,1⟩)
def Nc:Nat×aY:=(3276,⟨(.cells ⟨[zi 1]⟩ 3 (0,0)),(some 3276),false,1⟩)
def Nh:Nat×aY:=(3282,⟨(.cells ⟨[zi 2]⟩ 3 (0,0)),(some 3282),false,1⟩)
def Nj:Nat×aY:=(3288,⟨(.cells ⟨[zi 3]⟩ 3 (0,0)),(some 3288),false,1⟩)
def Nk:Nat×aY:=(3296,⟨(.cells ⟨[zi 0,zi 1]⟩ 3 (0,0)),(some 3296),false,1⟩)
def Nl:Nat×aY:=(3302,⟨(.cells ⟨[zi 0,zi 2]⟩ 3 (0,0)),(some 3302),false,1⟩)
def Np:Nat×aY:=(3308,⟨(.cells ⟨[zi 0,zi 3]⟩ 3 (0,0)),(some 3308),false,1⟩)
def Nq:Nat×aY:=(3316,⟨(.cells ⟨[zi 1,zi 2]⟩ 3 (0,0)),(some 3316),false,1⟩)
def Nr:Nat×aY:=(3322,⟨(.cells ⟨[zi 1,zi 3]⟩ 3 (0,0)),(some 3322),false,1⟩)
def Ns:Nat×aY:=(3330,⟨(.cells ⟨[zi 2,zi 3]⟩ 3 (0,0)),(some 3330),false,1⟩)
def Nu:Nat×aY:=(3342,⟨(.cells ⟨[zi 0,zi 1,zi 2]⟩ 3 (0,0)),(some 3342),false,1⟩)
def Nv:Nat×aY:=(3348,⟨(.cells ⟨[zi 0,zi 1,zi 3]⟩ 3 (0,0)),(some 3348),false,1⟩)
def Nw:Nat×aY:=(3356,⟨(.cells ⟨[zi 0,zi 2,zi 3]⟩ 3 (0,0)),(some 3356),false,1⟩)
def Ny:Nat×aY:=(3368,⟨(.cells ⟨[zi 1,zi 2,zi 3]⟩ 3 (0,0)),(some 3368),false,1⟩)
def Nz:Nat×aY:=(3388,⟨(.cells ⟨[zi 0,zi 1,zi 2,zi 3]⟩ 3 (0,0)),(some 3388),false,1⟩)
def NC:Nat×aY:=(3390,⟨(.cells ⟨[.slice none 0 0,zs 3270 1,zs 3276 1,zs 3282 1,zs 3288 1,zs 3296 2,zs 3302 2,zs 3308 2,zs 3316 2,zs 3322 2,zs 3330 2,zs 3342 3,zs 3348 3,zs 3356 3,zs 3368 3,zs 3388 4]⟩ 31 (0,0)),(some 3266),false,1⟩)
def fB:List (List Int):=[[16],[2],[5],[8],[9],[11],[12],[14],[15]]
def iE:Nat->List Int->List Int:=fun k l=>match l with|[x]=>[if x<=Int.ofNat k then x else Int.ofNat k]|l=>l
def fC:Nat->Bool:=fun k=>[2,5,8,9,11,12,14,15].contains k
noncomputable def YN:AS:=⟨ak.enter Tryz.prog 5 #[],[],h0⟩
noncomputable def YO:AS:=⟨⟨19,⟨[dO,zp 452 0,zi 0,zi 0,zp 510 0,zi 0,zX,dO,zX,dO,zi 0,zi 0,zF,zt,zt,zt,zt]⟩,[.code (at_ 19 [1,1,1])],[],false,none,false⟩,
 [⟨5,⟨[zF,zp 10 0,zs 11 3,zi 9,zi 0,zi 9,zi 0,zi 15,zi 0,zi 180,zi 0,zs 328 3,zi 0,zT,zi 0]++zr 28++[dO,zs 11 3,xP,xP,zi 9,zi 0,xP,dO,zs 11 3,xP,zi 9,zi 0,PW,dO,zs 11 3,PW,zi 15,zi 0,PV,dO,zs 11 3,PV,zi 180,zi 0,PU,dO,zs 11 3,PU,zs 328 3,zi 0,PT,dO,zs 11 3,PT,zT,zi 0,zt,dO]++zr 224⟩,[.region (bH 5 [1,1,1,1,1,1,1,1,1,0]) [1,2,3,4,5,6],.code (at_ 5 [1,1,1,1,1,1,1,1,1,1])],[],false,none,false⟩],
 ⟨511,rU [lJ,
  lK,
  lM,
  lN,
  lQ,
  lS,
  (452,⟨(.cells EU 26 (0,0)),none,false,0⟩),
  (510,⟨(.cells EU 83 (0,0)),none,false,0⟩)],uH [(328,[328])]⟩⟩
noncomputable def vV:AS:=⟨⟨90,⟨[TG,zi 1,zp 909 0,zt,.slice none 0 0,.slice none 0 0,zt,zp 909 1,.map (some 746),zp 910 0]++zr 16⟩,[.region (bH 90 [1,1,0,1,0,0,0]) [0,1],.code (at_ 90 [1,1,0,1,0,0,1]),.inLoop (at_ 90 [1,1,0,1,0,0]),.inBlock 0,.code (at_ 90 [1,1,1])],[],false,none,false⟩,
 [⟨53,⟨[TG,zi 1,zp 908 0,zt,.slice none 0 0,zi 0,zp 908 0,zi 4,zF,TG,zi 1,zt]⟩,[.region (bH 53 [1,1,0]) [2,3,4],.code .ret],[],false,none,false⟩,
  ⟨20,ads,[.region (bH 20 [1,1,1,0]) [3,4,5,6,7],.code .ret],[],false,none,false⟩,
  ⟨5,adt,[.region (bH 5 [1,1,1,1,1,1,1,1,1,1,0]) [1,2,3,4,5,6],.code (at_ 5 [1,1,1,1,1,1,1,1,1,1,1])],[],false,none,false⟩],
 ⟨911,rU [lJ,
  lK,
  lM,
  lN,
  lQ,
  lS,
  adu,
  adv,
  adw,
  adx,
  (909,⟨(.cells ⟨[zi 4,.map (some 746)]⟩ 108 (0,0)),none,false,0⟩),
  (910,⟨(.mapIter (some 746) 5 ⟨[]⟩ 5),none,false,0⟩)],uH [(328,[328])]⟩⟩
noncomputable def yQ:AS:=⟨⟨53,⟨[TG,zi 1,zp 908 0,zt,.slice none 0 0,zi 0,zp 908 0,zi 4,zF,TG,zi 1,zs 920 2]⟩,[.region (bH 53 [1,1,0]) [3,4],.code .ret],[],false,none,false⟩,
 [⟨20,ads,[.region (bH 20 [1,1,1,0]) [3,4,5,6,7],.code .ret],[],false,none,false⟩,
  ⟨5,adt,[.region (bH 5 [1,1,1,1,1,1,1,1,1,1,0]) [1,2,3,4,5,6],.code (at_ 5 [1,1,1,1,1,1,1,1,1,1,1])],[],false,none,false⟩],
 ⟨921,rU [jL,
  lJ,
  lK,
  lM,
  lN,
  lQ,
  lS,
  adu,
  adv,
  adw,
  adx],uH [(920,[920]),(328,[328])]⟩⟩
noncomputable def YP:AS:=⟨⟨5,⟨[zF,zp 10 0,zs 11 3,zi 9,zi 0,zi 9,zi 0,zi 15,zi 0,zi 180,zi 0,zs 328 3,zi 0,zT,zi 0,zi 4,zi 0,zs 920 2,zi 0,zp 1167 0,zi 0]++zr 22++[dO,zs 11 3,xP,xP,zi 9,zi 0,xP,dO,zs 11 3,xP,zi 9,zi 0,PW,dO,zs 11 3,PW,zi 15,zi 0,PV,dO,zs 11 3,PV,zi 180,zi 0,PU,dO,zs 11 3,PU,zs 328 3,zi 0,PT,dO,zs 11 3,PT,zT,zi 0,zW,dO,zW,zi 4,zi 0,DX,dO,DX,zs 920 2,zi 0,Hu,dO,Hu,ZJ,zi 0]++zr 211⟩,[.code (at_ 5 [1,1,1,1,1,1,1,1,1,1,1,1])],[],false,none,false⟩,
 [],
 ⟨1168,rU [lJ,
  lK,
  lM,
  lN,
  lQ,
  lS,
  jL,
  kz],uH [(328,[328]),(920,[920])]⟩⟩
noncomputable def YQ:AS:=⟨⟨23,⟨[dO,zp 1455 0,zp 1456 0,zi 0,zp 1514 0,zi 0,zX,dO,zX,dO,zi 0,zi 0,zF]++zr 10⟩,[.code (at_ 23 [1,1,1,0]),.code .ret],[],false,none,false⟩,
 [⟨5,⟨[zF,zp 10 0,zs 11 3,zi 9,zi 0,zi 9,zi 0,zi 15,zi 0,zi 180,zi 0,zs 328 3,zi 0,zT,zi 0,zi 4,zi 0,zs 920 2,zi 0,zp 1167 0,zi 0,zp 1454 0,zi 0]++zr 20++[dO,zs 11 3,xP,xP,zi 9,zi 0,xP,dO,zs 11 3,xP,zi 9,zi 0,PW,dO,zs 11 3,PW,zi 15,zi 0,PV,dO,zs 11 3,PV,zi 180,zi 0,PU,dO,zs 11 3,PU,zs 328 3,zi 0,PT,dO,zs 11 3,PT,zT,zi 0,zW,dO,zW,zi 4,zi 0,DX,dO,DX,zs 920 2,zi 0,Hu,dO,Hu,ZJ,zi 0,Hu,dO,Hu,ZJ,zi 0,zt,dO]++zr 204⟩,[.region (bH 5 [1,1,1,1,1,1,1,1,1,1,1,1,1,0]) [1,2,3,4,5,6,7],.code (at_ 5 [1,1,1,1,1,1,1,1,1,1,1,1,1,1])],[],false,none,false⟩],
 ⟨1515,rU [lJ,
  lK,
  lM,
  lN,
  lQ,
  lS,
  jL,
  kz,
  lD,
  (1455,⟨(.cells EU 26 (0,0)),none,false,0⟩),
  (1456,⟨(.cells ⟨[zi 0,zi 0]⟩ 35 (0,0)),none,false,0⟩),
  (1514,⟨(.cells EU 83 (0,0)),none,false,0⟩)],uH [(328,[328]),(920,[920])]⟩⟩
noncomputable def YR:AS:=⟨⟨48,⟨[dO,zt,zt,zt]⟩,[.code (at_ 48 [])],[],false,none,false⟩,
 [⟨24,⟨[dO,zi 8,zi 9,zp 1943 0,zt,zt,zi 0,zi 0,zp 2001 0,zi 0,zX,dO,zX,dO,zi 0,zi 0,zF,zt,zp 2001 0,dO,zi 8,zi 9,.agg ⟨[zi 8,zi 9,zF]⟩,zF,dO,zt,zp 2001 0,dO,zi 8,.agg ⟨[zi 2,zs 5 3,zs 8 1,zs 9 1,zi 8]⟩,zi 9,.agg ⟨[zi 2,zs 5 3,zs 8 1,zs 9 1,zi 8,zi 9]⟩,.func (.func 58) ⟨[.agg ⟨[zi 2,zs 5 3,zs 8 1,zs 9 1,zi 8,zi 9]⟩]⟩ ⟨[]⟩,zt,zt,zt]⟩,[.drawn (bH 24 [1,1,1,1,0]) [(1,[2,3,4,5,6,7,8]),(9,[]),(10,[]),(11,[]),(12,[]),(13,[])],.code .ret],[],false,none,false⟩,
  ⟨5,⟨[zF,zp 10 0,zs 11 3,zi 9,zi 0,zi 9,zi 0,zi 15,zi 0,zi 180,zi 0,zs 328 3,zi 0,zT,zi 0,zi 4,zi 0,zs 920 2,zi 0,zp 1167 0,zi 0,zp 1454 0,zi 0,zp 1700 0,zi 0,zi 0,zi 0]++zr 16++[dO,zs 11 3,xP,xP,zi 9,zi 0,xP,dO,zs 11 3,xP,zi 9,zi 0,PW,dO,zs 11 3,PW,zi 15,zi 0,PV,dO,zs 11 3,PV,zi 180,zi 0,PU,dO,zs 11 3,PU,zs 328 3,zi 0,PT,dO,zs 11 3,PT,zT,zi 0,zW,dO,zW,zi 4,zi 0,DX,dO,DX,zs 920 2,zi 0,Hu,dO,Hu,ZJ,zi 0,Hu,dO,Hu,ZJ,zi 0,TJ,dO,TJ,abB,zi 0,TK,dO,TK,zi 0,zi 0,zt,dO]++zr 194⟩,[.region (bH 5 [1,1,1,1,1,1,1,1,1,1,1,1,1,1,1,0]) [1,2,3,4,5,6],.code (at_ 5 [1,1,1,1,1,1,1,1,1,1,1,1,1,1,1,1])],[],false,none,false⟩],
 ⟨2005,rU [lJ,
  lK,
  lM,
  lN,
  lQ,
  lS,
  jL,
  kz,
  lD,
  nH,
  (1943,⟨(.cells EU 26 (0,0)),none,false,0⟩),
  (2001,⟨(.cells EU 83 (0,0)),none,false,0⟩)],uH [(328,[328]),(920,[920])]⟩⟩
noncomputable def YS:AS:=⟨⟨50,⟨[dO]++zr 8⟩,[.code (at_ 50 [])],[],false,none,false⟩,
 [⟨26,⟨[dO,zp 2453 0,zi 0,zi 0,zi 0,zp 2511 0,zX,dO,zX,dO,zi 0,zi 0,zF,zt,dO,zt,zp 2511 0,zp 2511 0,zp 2511 1,zs 5 3,zi 3,zt,zt,zt,zt]⟩,[.drawn (bH 26 [1,1,1,0]) [(1,[2,3,4,5,6]),(7,[]),(8,[]),(9,[]),(10,[]),(11,[]),(12,[]),(13,[])],.code .ret],[],false,none,false⟩,
  ⟨5,CO,[.region (bH 5 [1,1,1,1,1,1,1,1,1,1,1,1,1,1,1,1,1,0]) [1,2,3,4,5,6,7,8],.code (at_ 5 [1,1,1,1,1,1,1,1,1,1,1,1,1,1,1,1,1,1])],[],false,none,false⟩],
 ⟨2512,rU [lJ,
  lK,
  lM,
  lN,
  lQ,
  lS,
  jL,
  kz,
  lD,
  nH,
  oq,
  vT,
  vU],uH [(328,[328]),(920,[920]),(2446,[2446])]⟩⟩
noncomputable def vX:AS:=⟨⟨90,⟨[ET,zi 0,zp 2680 0,zt,.slice none 0 0,.slice none 0 0,zt,zp 2680 1,.map (some 2517),zp 2681 0]++zr 16⟩,[.region (bH 90 [1,1,0,1,0,0,0]) [0,1],.code (at_ 90 [1,1,0,1,0,0,1]),.inLoop (at_ 90 [1,1,0,1,0,0]),.inBlock 0,.code (at_ 90 [1,1,1])],[],false,none,false⟩,
 [⟨62,⟨[ET,zi 3,zp 2679 0,zt,zJ (.negSucc 0),zi 4,zi 0,zi 0,zi 0,zt,zt,zp 2679 0,zi 4,zF,zp 2679 0,zi 4,zi 3,zi 0,zT,zi 0,ET,zi 0]++zr 21⟩,[.region (bH 62 [1,0,1,1,1,0,1,0,0,1,1,0,0,1,1,0,0]) [2,3,4],.code (at_ 62 [1,0,1,1,1,0,1,0,0,1,1,0,0,1,1,0,1]),.code (at_ 62 [1,0,1,1,1,0,1,0,0,1,1,0,0,1,1,1]),.inBlock 1,.code (at_ 62 [1,0,1,1,1,0,1,0,0,1,1,1]),.inLoop (at_ 62 [1,0,1,1,1,0,1,0,0]),.inBlock 0,.code (at_ 62 [1,0,1,1,1,1]),.inScope (at_ 62 [1,0])],[],false,none,false⟩,
  ⟨26,EW,[.drawn (bH 26 [1,1,1,0]) [(7,[]),(8,[]),(9,[]),(10,[]),(11,[]),(12,[]),(13,[])],.code .ret],[],false,none,false⟩,
  ⟨5,CO,[.region (bH 5 [1,1,1,1,1,1,1,1,1,1,1,1,1,1,1,1,1,0]) [1,2,3,4,5,6,7,8],.code (at_ 5 [1,1,1,1,1,1,1,1,1,1,1,1,1,1,1,1,1,1])],[],false,none,false⟩],
 ⟨2682,rU [lJ,
  lK,
  lM,
  lN,
  lQ,
  lS,
  jL,
  kz,
  lD,
  nH,
  oq,
  vT,
  vU,
  yO,
  yP,
  (2680,⟨(.cells ⟨[zi 4,.map (some 2517)]⟩ 108 (0,0)),none,false,0⟩),
  (2681,⟨(.mapIter (some 2517) 5 ⟨[]⟩ 5),none,false,0⟩)],uH [(328,[328]),(920,[920]),(2446,[2446])]⟩⟩
noncomputable def yR:AS:=⟨⟨62,⟨[ET,zi 3,zp 2679 0,zt,zJ (.negSucc 0),zi 4,zi 0,zi 0,zi 0,zt,zt,zp 2679 0,zi 4,zF,zp 2679 0,zi 4,zi 3,zi 0,zT,zi 0,ET,zi 0,zs 2689 1]++zr 20⟩,[.region (bH 62 [1,0,1,1,1,0,1,0,0,1,1,0,0,1,1,0,0]) [3,4],.code (at_ 62 [1,0,1,1,1,0,1,0,0,1,1,0,0,1,1,0,1]),.code (at_ 62 [1,0,1,1,1,0,1,0,0,1,1,0,0,1,1,1]),.inBlock 1,.code (at_ 62 [1,0,1,1,1,0,1,0,0,1,1,1]),.inLoop (at_ 62 [1,0,1,1,1,0,1,0,0]),.inBlock 0,.code (at_ 62 [1,0,1,1,1,1]),.inScope (at_ 62 [1,0])],[],false,none,false⟩,
 [⟨26,EW,[.drawn (bH 26 [1,1,1,0]) [(7,[]),(8,[]),(9,[]),(10,[]),(11,[]),(12,[]),(13,[])],.code .ret],[],false,none,false⟩,
  ⟨5,CO,[.region (bH 5 [1,1,1,1,1,1,1,1,1,1,1,1,1,1,1,1,1,0]) [1,2,3,4,5,6,7,8],.code (at_ 5 [1,1,1,1,1,1,1,1,1,1,1,1,1,1,1,1,1,1])],[],false,none,false⟩],
 ⟨2690,rU [MK,
  lJ,
  lK,
  lM,
  lN,
  lQ,
  lS,
  jL,
  kz,
  lD,
  nH,
  oq,
  vT,
  vU,
  yO,
  yP],uH [(2689,[2689]),(328,[328]),(920,[920]),(2446,[2446])]⟩⟩
noncomputable def qN:AS:=⟨⟨90,⟨[ET,zi 1,zp 2691 0,zt,.slice none 0 0,.slice none 0 0,zt,zp 2691 1,.map (some 2517),zp 2692 0]++zr 16⟩,[.region (bH 90 [1,1,0,1,0,0,0]) [0,1],.code (at_ 90 [1,1,0,1,0,0,1]),.inLoop (at_ 90 [1,1,0,1,0,0]),.inBlock 0,.code (at_ 90 [1,1,1])],[],false,none,false⟩,
 [⟨62,⟨[ET,zi 3,zp 2679 0,zt,zJ (.negSucc 0),zi 4,zi 0,zi 1,zi 0,zt,zi 3,zp 2679 0,zi 4,zF,zp 2679 0,zi 4,zi 3,zi 1,zT,zi 1,ET,zi 1,zs 2689 1,zi 1,zi 0,zT,zp 2689 0,zi 3,zi 0,ET,zi 0,zi 3,zi 4,zi 4,zi 4,zi 4,zT,zt,zt,zt,zi 1,zt,zt]⟩,[.region (bH 62 [1,0,1,1,1,0,1,0,0,1,1,0,0,1,1,0,0]) [2,3,4],.code (at_ 62 [1,0,1,1,1,0,1,0,0,1,1,0,0,1,1,0,1]),.code (at_ 62 [1,0,1,1,1,0,1,0,0,1,1,0,0,1,1,1]),.inBlock 1,.code (at_ 62 [1,0,1,1,1,0,1,0,0,1,1,1]),.inLoop (at_ 62 [1,0,1,1,1,0,1,0,0]),.inBlock 0,.code (at_ 62 [1,0,1,1,1,1]),.inScope (at_ 62 [1,0])],[],false,none,false⟩,
  ⟨26,EW,[.drawn (bH 26 [1,1,1,0]) [(7,[]),(8,[]),(9,[]),(10,[]),(11,[]),(12,[]),(13,[])],.code .ret],[],false,none,false⟩,
  ⟨5,CO,[.region (bH 5 [1,1,1,1,1,1,1,1,1,1,1,1,1,1,1,1,1,0]) [1,2,3,4,5,6,7,8],.code (at_ 5 [1,1,1,1,1,1,1,1,1,1,1,1,1,1,1,1,1,1])],[],false,none,false⟩],
 ⟨2693,rU [lJ,
  lK,
  lM,
  lN,
  lQ,
  lS,
  jL,
  kz,
  lD,
  nH,
  oq,
  vT,
  vU,
  yO,
  yP,
  MK,
  (2691,⟨(.cells ⟨[zi 4,.map (some 2517)]⟩ 108 (0,0)),none,false,0⟩),
  (2692,⟨(.mapIter (some 2517) 5 ⟨[]⟩ 5),none,false,0⟩)],uH [(328,[328]),(920,[920]),(2446,[2446]),(2689,[2689])]⟩⟩
noncomputable def uz:AS:=⟨⟨62,⟨[ET,zi 3,zp 2679 0,zt,zJ (.negSucc 0),zi 4,zi 0,zi 1,zi 0,zt,zi 3,zp 2679 0,zi 4,zF,zp 2679 0,zi 4,zi 3,zi 1,zT,zi 1,ET,zi 1,zs 2702 2,zi 1,zi 0,zT,zp 2689 0,zi 3,zi 0,ET,zi 0,zi 3,zi 4,zi 4,zi 4,zi 4,zT,zt,zt,zt,zi 1,zt,zt]⟩,[.region (bH 62 [1,0,1,1,1,0,1,0,0,1,1,0,0,1,1,0,0]) [3,4],.code (at_ 62 [1,0,1,1,1,0,1,0,0,1,1,0,0,1,1,0,1]),.code (at_ 62 [1,0,1,1,1,0,1,0,0,1,1,0,0,1,1,1]),.inBlock 1,.code (at_ 62 [1,0,1,1,1,0,1,0,0,1,1,1]),.inLoop (at_ 62 [1,0,1,1,1,0,1,0,0]),.inBlock 0,.code (at_ 62 [1,0,1,1,1,1]),.inScope (at_ 62 [1,0])],[],false,none,false⟩,
 [⟨26,EW,[.drawn (bH 26 [1,1,1,0]) [(7,[]),(8,[]),(9,[]),(10,[]),(11,[]),(12,[]),(13,[])],.code .ret],[],false,none,false⟩,
  ⟨5,CO,[.region (bH 5 [1,1,1,1,1,1,1,1,1,1,1,1,1,1,1,1,1,0]) [1,2,3,4,5,6,7,8],.code (at_ 5 [1,1,1,1,1,1,1,1,1,1,1,1,1,1,1,1,1,1])],[],false,none,false⟩],
 ⟨2703,rU [ML,
  lJ,
  lK,
  lM,
  lN,
  lQ,
  lS,
  jL,
  kz,
  lD,
  nH,
  oq,
  vT,
  vU,
  yO,
  yP,
  MK],uH [(2702,[2702]),(328,[328]),(920,[920]),(2446,[2446]),(2689,[2689])]⟩⟩
noncomputable def qO:AS:=⟨⟨90,⟨[ET,zi 2,zp 2705 0,zt,.slice none 0 0,.slice none 0 0,zt,zp 2705 1,.map (some 2517),zp 2706 0]++zr 16⟩,[.region (bH 90 [1,1,0,1,0,0,0]) [0,1],.code (at_ 90 [1,1,0,1,0,0,1]),.inLoop (at_ 90 [1,1,0,1,0,0]),.inBlock 0,.code (at_ 90 [1,1,1])],[],false,none,false⟩,
 [⟨62,⟨[ET,zi 3,zp 2679 0,zt,zi 1,zi 2,zi 0,zi 2,zi 0,zt,zi 7,zp 2679 0,zi 4,zF,zp 2679 0,zi 4,zi 3,zi 2,zT,zi 2,ET,zi 2,zs 2702 2,zi 2,zi 2,zF,zp 2702 1,zi 7,zi 2,ET,zi 1,zi 7,zi 2,zi 2,zi 2,zi 4,zF,zi 2,zi 1,zi 2,zi 2,zt,zt]⟩,[.region (bH 62 [1,0,1,1,1,0,1,0,0,1,1,0,0,1,1,0,0]) [2,3,4],.code (at_ 62 [1,0,1,1,1,0,1,0,0,1,1,0,0,1,1,0,1]),.code (at_ 62 [1,0,1,1,1,0,1,0,0,1,1,0,0,1,1,1]),.inBlock 1,.code (at_ 62 [1,0,1,1,1,0,1,0,0,1,1,1]),.inLoop (at_ 62 [1,0,1,1,1,0,1,0,0]),.inBlock 0,.code (at_ 62 [1,0,1,1,1,1]),.inScope (at_ 62 [1,0])],[],false,none,false⟩,
  ⟨26,EW,[.drawn (bH 26 [1,1,1,0]) [(7,[]),(8,[]),(9,[]),(10,[]),(11,[]),(12,[]),(13,[])],.code .ret],[],false,none,false⟩,
  ⟨5,CO,[.region (bH 5 [1,1,1,1,1,1,1,1,1,1,1,1,1,1,1,1,1,0]) [1,2,3,4,5,6,7,8],.code (at_ 5 [1,1,1,1,1,1,1,1,1,1,1,1,1,1,1,1,1,1])],[],false,none,false⟩],
 ⟨2707,rU [lJ,
  lK,
  lM,
  lN,
  lQ,
  lS,
  jL,
  kz,
  lD,
  nH,
  oq,
  vT,
  vU,
  yO,
  yP,
  ML,
  (2705,⟨(.cells ⟨[zi 4,.map (some 2517)]⟩ 108 (0,0)),none,false,0⟩),
  (2706,⟨(.mapIter (some 2517) 5 ⟨[]⟩ 5),none,false,0⟩)],uH [(328,[328]),(920,[920]),(2446,[2446]),(2702,[2702])]⟩⟩
noncomputable def uA:AS:=⟨⟨62,⟨[ET,zi 3,zp 2679 0,zt,zi 1,zi 2,zi 0,zi 2,zi 0,zt,zi 7,zp 2679 0,zi 4,zF,zp 2679 0,zi 4,zi 3,zi 2,zT,zi 2,ET,zi 2,zs 2716 2,zi 2,zi 2,zF,zp 2702 1,zi 7,zi 2,ET,zi 1,zi 7,zi 2,zi 2,zi 2,zi 4,zF,zi 2,zi 1,zi 2,zi 2,zt,zt]⟩,[.region (bH 62 [1,0,1,1,1,0,1,0,0,1,1,0,0,1,1,0,0]) [3,4],.code (at_ 62 [1,0,1,1,1,0,1,0,0,1,1,0,0,1,1,0,1]),.code (at_ 62 [1,0,1,1,1,0,1,0,0,1,1,0,0,1,1,1]),.inBlock 1,.code (at_ 62 [1,0,1,1,1,0,1,0,0,1,1,1]),.inLoop (at_ 62 [1,0,1,1,1,0,1,0,0]),.inBlock 0,.code (at_ 62 [1,0,1,1,1,1]),.inScope (at_ 62 [1,0])],[],false,none,false⟩,
 [⟨26,EW,[.drawn (bH 26 [1,1,1,0]) [(7,[]),(8,[]),(9,[]),(10,[]),(11,[]),(12,[]),(13,[])],.code .ret],[],false,none,false⟩,
  ⟨5,CO,[.region (bH 5 [1,1,1,1,1,1,1,1,1,1,1,1,1,1,1,1,1,0]) [1,2,3,4,5,6,7,8],.code (at_ 5 [1,1,1,1,1,1,1,1,1,1,1,1,1,1,1,1,1,1])],[],false,none,false⟩],
 ⟨2717,rU [(2716,⟨(.cells ⟨[zi 12,zi 13]⟩ 3 (0,0)),(some 2716),false,1⟩),
  lJ,
  lK,
  lM,
  lN,
  lQ,
  lS,
  jL,
  kz,
  lD,
  nH,
  oq,
  vT,
  vU,
  yO,
  yP,
  ML],uH [(2716,[2716]),(328,[328]),(920,[920]),(2446,[2446]),(2702,[2702])]⟩⟩
noncomputable def PX:AS:=⟨⟨67,⟨[Ht,zp 3255 0,.slice none 0 0,zs 3390 16,zp 3413 0,zt,zt,zt,zt,zp 3255 0,Ht,zi 4,zp 3255 0,Ht,zi 4,.func (.func 125) ⟨[]⟩ ⟨[zp 3258 0,zp 3259 0]⟩,zs 3390 16,zs 3390 16,zi 16]++zr 19⟩,[.code (at_ 67 [1,1,1])],[],false,none,false⟩,
 [⟨30,YL,[.drawn (bH 30 [1,1,1,0]) [(3,[0,1]),(4,[]),(5,[]),(6,[]),(7,[]),(8,[]),(9,[])],.code (at_ 30 [1,1,1,1])],[],false,none,false⟩,
  ⟨5,YM,[.region (bH 5 [1,1,1,1,1,1,1,1,1,1,1,1,1,1,1,1,1,1,1,1,1,0]) [1,2,3,4,5,6,7,8],.code (at_ 5 [1,1,1,1,1,1,1,1,1,1,1,1,1,1,1,1,1,1,1,1,1,1])],[],false,none,false⟩],
 ⟨3414,rU [lJ,
  lK,
  lM,
  lN,
  lQ,
  lS,
  jL,
  kz,
  lD,
  nH,
  oq,
  MM,
  MN,
  MO,
  MP,
  MQ,
  MR,
  MS,
  MV,
  MW,
  MX,
  MZ,
  Na,
  Nb,
  Nc,
  Nh,
  Nj,
  Nk,
  Nl,
  Np,
  Nq,
  Nr,
  Ns,
  Nu,
  Nv,
  Nw,
  Ny,
  Nz,
  NC,
  (3413,⟨(.cells ⟨[zi 16]⟩ 3 (0,0)),none,false,0⟩)],uH [(328,[328]),(920,[920]),(2446,[2446]),(2779,[2779]),(2781,[2781]),(2783,[2786]),(3171,[3172]),(3179,[3180]),(3270,[3270]),(3276,[3276]),(3282,[3282]),(3288,[3288]),(3296,[3296]),(3302,[3302]),(3308,[3308]),(3316,[3316]),(3322,[3322]),(3330,[3330]),(3342,[3342]),(3348,[3348]),(3356,[3356]),(3368,[3368]),(3388,[3388]),(3266,[3390])]⟩⟩
noncomputable def xE:AS:=⟨⟨67,⟨[Ht,zp 3255 0,.slice none 0 0,zs 3390 16,zp 3413 0,zp 3414 0,zp 3415 0,zt,zt,zp 3255 0,Ht,zi 4,zp 3255 0,Ht,zi 4,.func (.func 125) ⟨[]⟩ ⟨[zp 3258 0,zp 3259 0]⟩,zs 3390 16,zs 3390 16,zi 16]++zr 19⟩,[.region (bH 67 [1,1,1,1,0]) [],.code (at_ 67 [1,1,1,1,1])],[],false,none,false⟩,
 [⟨30,YL,[.drawn (bH 30 [1,1,1,0]) [(3,[0,1]),(4,[]),(5,[]),(6,[]),(7,[]),(8,[]),(9,[])],.code (at_ 30 [1,1,1,1])],[],false,none,false⟩,
  ⟨5,YM,[.region (bH 5 [1,1,1,1,1,1,1,1,1,1,1,1,1,1,1,1,1,1,1,1,1,0]) [1,2,3,4,5,6,7,8],.code (at_ 5 [1,1,1,1,1,1,1,1,1,1,1,1,1,1,1,1,1,1,1,1,1,1])],[],false,none,false⟩],
 ⟨3416,rU [lJ,
  lK,
  lM,
  lN,
  lQ,
  lS,
  jL,
  kz,
  lD,
  nH,
  oq,
  MM,
  MN,
  MO,
  MP,
  MQ,
  MR,
  MS,
  MV,
  MW,
  MX,
  MZ,
  Na,
  Nb,
  Nc,
  Nh,
  Nj,
  Nk,
  Nl,
  Np,
  Nq,
  Nr,
  Ns,
  Nu,
  Nv,
  Nw,
  Ny,
  Nz,
  NC],uH [(328,[328]),(920,[920]),(2446,[2446]),(2779,[2779]),(2781,[2781]),(2783,[2786]),(3171,[3172]),(3179,[3180]),(3270,[3270]),(3276,[3276]),(3282,[3282]),(3288,[3288]),(3296,[3296]),(3302,[3302]),(3308,[3308]),(3316,[3316]),(3322,[3322]),(3330,[3330]),(3342,[3342]),(3348,[3348]),(3356,[3356]),(3368,[3368]),(3388,[3388]),(3266,[3390])]⟩⟩
noncomputable def kM:AS×AS:=(bC Tryz.prog plan aA 3415 31 3 xE).getD (xE,xE)
noncomputable def kN:AS×AS:=(bC Tryz.prog plan aA 3415 28 3 kM.2).getD (kM.2,kM.2)
noncomputable def kP:AS×AS:=(bC Tryz.prog plan aA 3415 28 3 kN.2).getD (kN.2,kN.2)
noncomputable def kQ:AS×AS:=(bC Tryz.prog plan aA 3415 28 3 kP.2).getD (kP.2,kP.2)
noncomputable def kR:AS×AS:=(bC Tryz.prog plan aA 3415 28 3 kQ.2).getD (kQ.2,kQ.2)
noncomputable def kS:AS×AS:=(bC Tryz.prog plan aA 3415 28 3 kR.2).getD (kR.2,kR.2)
noncomputable def kT:AS×AS:=(bC Tryz.prog plan aA 3415 28 3 kS.2).getD (kS.2,kS.2)
noncomputable def kV:AS×AS:=(bC Tryz.prog plan aA 3415 28 3 kT.2).getD (kT.2,kT.2)
noncomputable def kW:AS×AS:=(bC Tryz.prog plan aA 3415 28 3 kV.2).getD (kV.2,kV.2)
noncomputable def kX:AS×AS:=(bC Tryz.prog plan aA 3415 28 3 kW.2).getD (kW.2,kW.2)
noncomputable def ji:AS×AS:=(bC Tryz.prog plan aA 3415 28 3 kX.2).getD (kX.2,kX.2)
noncomputable def jk:AS×AS:=(bC Tryz.prog plan aA 3415 28 3 ji.2).getD (ji.2,ji.2)
noncomputable def jl:AS×AS:=(bC Tryz.prog plan aA 3415 28 3 jk.2).getD (jk.2,jk.2)
noncomputable def jm:AS×AS:=(bC Tryz.prog plan aA 3415 28 3 jl.2).getD (jl.2,jl.2)
noncomputable def jo:AS×AS:=(bC Tryz.prog plan aA 3415 28 3 jm.2).getD (jm.2,jm.2)
noncomputable def pg:AS×AS:=(bC Tryz.prog plan aA 3415 28 3 jo.2).getD (jo.2,jo.2)
noncomputable def PY:AS:=⟨⟨67,⟨[Ht,zp 3255 0,.slice none 0 0,zs 3390 16,zp 3413 0,zp 3414 0,zp 3415 0,zp 3446 0,zp 3447 0,zp 3255 0,Ht,zi 4,zp 3255 0,Ht,zi 4,.func (.func 125) ⟨[]⟩ ⟨[zp 3258 0,zp 3259 0]⟩,zs 3390 16,zs 3390 16,zi 16,zs 3390 16,zi 16,zi 16,zF,zi 15,zp 3390 15,zs 3388 4,zt,.func (.func 106) ⟨[]⟩ ⟨[zp 3415 0,zp 3255 0,zp 3447 0,zp 3414 0,zp 3413 0,zp 3446 0]⟩,zi 16]++zr 9⟩,[.region (bH 67 [1,1,1,1,1,1,0]) [],.code (at_ 67 [1,1,1,1,1,1,1])],[],false,none,false⟩,
 [⟨30,YL,[.drawn (bH 30 [1,1,1,0]) [(3,[0,1]),(4,[]),(5,[]),(6,[]),(7,[]),(8,[]),(9,[])],.code (at_ 30 [1,1,1,1])],[],false,none,false⟩,
  ⟨5,YM,[.region (bH 5 [1,1,1,1,1,1,1,1,1,1,1,1,1,1,1,1,1,1,1,1,1,0]) [1,2,3,4,5,6,7,8],.code (at_ 5 [1,1,1,1,1,1,1,1,1,1,1,1,1,1,1,1,1,1,1,1,1,1])],[],false,none,false⟩],
 ⟨3448,rU [lJ,
  lK,
  lM,
  lN,
  lQ,
  lS,
  jL,
  kz,
  lD,
  nH,
  oq,
  MM,
  MN,
  MO,
  MP,
  MQ,
  MR,
  MS,
  MV,
  MW,
  MX,
  MZ,
  Na,
  Nb,
  Nc,
  Nh,
  Nj,
  Nk,
  Nl,
  Np,
  Nq,
  Nr,
  Ns,
  Nu,
  Nv,
  Nw,
  Ny,
  Nz,
  NC,
  (3413,⟨(.cells ⟨[zi 2]⟩ 0 (0,0)),none,false,0⟩),
  (3446,⟨(.cells ⟨[zi 15]⟩ 3 (0,0)),none,false,0⟩),
  (3447,⟨(.cells ⟨[zs 3388 4]⟩ 31 (0,0)),none,false,0⟩)],uH [(328,[328]),(920,[920]),(2446,[2446]),(2779,[2779]),(2781,[2781]),(2783,[2786]),(3171,[3172]),(3179,[3180]),(3270,[3270]),(3276,[3276]),(3282,[3282]),(3288,[3288]),(3296,[3296]),(3302,[3302]),(3308,[3308]),(3316,[3316]),(3322,[3322]),(3330,[3330]),(3342,[3342]),(3348,[3348]),(3356,[3356]),(3368,[3368]),(3388,[3388]),(3266,[3390])]⟩⟩
end Go.Am
