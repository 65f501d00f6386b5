import Derived.Test.YtjgfemidkffdjaaGreatH22
import Derived.Test.YtjgfemidkffdjaaGreatH23
import Derived.Test.YtjgfemidkffdjaaGreatH24
set_option linter.all false
namespace Go.Am
open Go.Proofs
abbrev zi(n:Nat):Value:=zJ (.ofNat n)
abbrev zs(b n:Nat):Value:=.slice (some ⟨b,0,none⟩) n n
abbrev zo(b o n c:Nat):Value:=.slice (some ⟨b,o,none⟩) n c
abbrev zp(b o:Nat):Value:=.pointer (some ⟨b,o,none⟩)
abbrev zt:Value:=.tuple ⟨[]⟩
abbrev zr(n:Nat):List Value:=List.replicate n zt
abbrev di:Value:=.agg ⟨[zi 10,zi 1,zs 9 3,zs 11 1]⟩
abbrev Bg:Value:=.agg ⟨[zi 10,zi 1,zs 9 3,zs 11 1,zi 6,.map (some 2817)]⟩
abbrev Em:Value:=.agg ⟨[zi 10,zi 1,zs 9 3,zs 11 1,zi 6,.map (some 3303)]⟩
abbrev Hz:Value:=.agg ⟨[zi 6,.map (some 3789)]⟩
abbrev zv4:Value:=.agg ⟨[zJ (.negSucc 3),zi 0]⟩
abbrev zv5:Value:=.agg ⟨[zi 10,zi 1,zs 4270 3,zs 4272 2]⟩
abbrev zv6:Value:=.tuple ⟨[zJ (.negSucc 2),zT,zi 0]⟩
abbrev Uh:Value:=.tuple ⟨[zo 1421 0 2 4,zi 0]⟩
abbrev Nh:Value:=.tuple ⟨[zs 80 3,zi 0]⟩
abbrev Ui:Value:=.tuple ⟨[zs 1072 2,zi 0]⟩
abbrev Fb:Value:=.tuple ⟨[zv4,zT,zi 0]⟩
abbrev Bi:Value:=.tuple ⟨[zs 1783 3,zi 0]⟩
abbrev vC:Value:=.tuple ⟨[zi 6,zi 0]⟩
abbrev vF:Value:=.tuple ⟨[zi 0,zi 0]⟩
abbrev VP:Value:=.tuple ⟨[zJ (.negSucc 2),zi 6,zi 0]⟩
abbrev Fe:Value:=.tuple ⟨[zi 2,zi 6,zi 0]⟩
abbrev Ff:Value:=.tuple ⟨[zs 2143 2,zi 0]⟩
abbrev VQ:Value:=.agg ⟨[zi 10,zi 1,zs 9 3,zs 5523 3]⟩
abbrev Bj:Value:=.tuple ⟨[di,zi 0]⟩
abbrev Bl:Value:=.agg ⟨[zi 6,zi 6]⟩
abbrev Fg:Value:=.tuple ⟨[zi 2,zi 0]⟩
abbrev Fh:Value:=.tuple ⟨[zi 1,zi 0]⟩
abbrev VS:Value:=.agg ⟨[zi 6,.map (some 1825)]⟩
abbrev VT:Value:=.agg ⟨[zi 6,.map (some 1463)]⟩
abbrev acI:Value:=.agg ⟨[zi 10,zi 1,zs 5028 3,zs 5030 1]⟩
abbrev acJ:Value:=.agg ⟨[zi 10,zi 0,zs 5388 3,zs 5390 1]⟩
abbrev LZ:Value:=.agg ⟨[zi 2,zi 1]⟩
abbrev acK:Value:=.agg ⟨[zi 6,zi 6,zi 7,zi 0]⟩
abbrev acL:Value:=.agg ⟨[zi 6,zi 5,zi 7,zi 0]⟩
abbrev acM:Value:=.agg ⟨[zi 6,zi 5,zi 6,zi 0]⟩
abbrev acN:Value:=.agg ⟨[zi 6,zi 4,zi 7,zi 0]⟩
abbrev acO:Value:=.agg ⟨[zi 6,zi 4,zi 6,zi 0]⟩
abbrev acP:Value:=.tuple ⟨[zi 1,zi 3,zi 0]⟩
def Uj:Array Value:=⟨[zi 10,zi 1,zs 9 3,zs 11 1]⟩
def aac:Array Value:=⟨[zF,zp 12 0,zs 80 3,zi 0,zi 6,zi 0,zi 0,zi 0,zs 1072 2,zi 0,zo 1421 0 2 4,zi 0]++zr 37++[di,Nh,di,zs 13 3,LZ,Nh,zs 80 3,zi 0,vC,di,vC,zi 6,zi 0,vF,di,vF,zi 0,zi 0,Ui,di,Ui,zs 1072 2,zi 0,Uh,di,Uh,zo 1421 0 2 4,zi 0,zt,di]++zr 276⟩
def aed:Array Value:=⟨[di,zi 1,zp 1422 0,zt,.slice none 0 0,zi 0,zp 1457 0,zi 0,Bj,di,zi 1,Bj,di,zi 0,zi 0,zF,zt,di,VT,zi 1,zt,zt,zt]⟩
def aee:Array Value:=⟨[di,zi 2,zp 1784 0,zt,.slice none 0 0,zi 0,zp 1819 0,zi 0,Bj,di,zi 2,Bj,di,zi 0,zi 0,zF,zt,di,VS,zi 2,zt,zt,zt]⟩
def aef:Array Value:=⟨[zF,zp 12 0,zs 80 3,zi 0,zi 6,zi 0,zi 0,zi 0,zs 1072 2,zi 0,zo 1421 0 2 4,zi 0,zs 1783 3,zi 0]++zr 35++[di,Nh,di,zs 13 3,LZ,Nh,zs 80 3,zi 0,vC,di,vC,zi 6,zi 0,vF,di,vF,zi 0,zi 0,Ui,di,Ui,zs 1072 2,zi 0,Uh,di,Uh,zo 1421 0 2 4,zi 0,Bi,di,Bi,zs 1783 3,zi 0,zt,di]++zr 271⟩
def HY:Array Value:=⟨[zF,zp 12 0,zs 80 3,zi 0,zi 6,zi 0,zi 0,zi 0,zs 1072 2,zi 0,zo 1421 0 2 4,zi 0,zs 1783 3,zi 0,zs 2143 2,zi 0,zp 2214 0,zT,zi 0,zi 2,zi 6,zi 0,zi 1,zi 0]++zr 25++[di,Nh,di,zs 13 3,LZ,Nh,zs 80 3,zi 0,vC,di,vC,zi 6,zi 0,vF,di,vF,zi 0,zi 0,Ui,di,Ui,zs 1072 2,zi 0,Uh,di,Uh,zo 1421 0 2 4,zi 0,Bi,di,Bi,zs 1783 3,zi 0,Ff,di,Ff,zs 2143 2,zi 0,Fb,di,zs 2144 3,Fb,zv4,zT,zi 0,Fe,di,Fe,zi 2,zi 6,zi 0,Fh,di,Fh,zi 1,zi 0,zt,di]++zr 248⟩
def L6:Array Value:=⟨[Bg,zp 3094 0,zi 0,zF,zt,Bg]++zr 8⟩
def L8:Array Value:=⟨[di,zp 2780 0,zi 0,zF,zi 0,zp 3093 0,.tuple ⟨[Bg,zi 0]⟩,di,.tuple ⟨[Bg,zi 0]⟩,Bg,zi 0,zi 0,zF,zt,zt,Bg,zt,zt,zt,zt,zt]⟩
def Uk:Array Value:=⟨[zi 10,zi 1,zs 9 3,zs 11 1,zi 6,.map (some 2817)]⟩
def H6:Array Value:=⟨[zp 3099 0]⟩
def zy:Array Value:=⟨[zi 0,zi 0]⟩
def Jz:Array Value:=⟨[zJ (.negSucc 2),zi 6]⟩
def En:Array Value:=⟨[di,zp 3266 0,zi 0,zi 0,zi 0,zp 3579 0,zt,.tuple ⟨[Em,zi 0]⟩,di,.tuple ⟨[Em,zi 0]⟩,Em,zi 0,zi 0,zF,zt,Em,zt,zt,zt,zt,zt]⟩
def Eo:Array Value:=⟨[zF,zp 12 0,zs 80 3,zi 0,zi 6,zi 0,zi 0,zi 0,zs 1072 2,zi 0,zo 1421 0 2 4,zi 0,zs 1783 3,zi 0,zs 2143 2,zi 0,zp 2214 0,zT,zi 0,zi 2,zi 6,zi 0,zi 1,zi 0,zJ (.negSucc 2),zT,zi 0]++zr 22++[di,Nh,di,zs 13 3,LZ,Nh,zs 80 3,zi 0,vC,di,vC,zi 6,zi 0,vF,di,vF,zi 0,zi 0,Ui,di,Ui,zs 1072 2,zi 0,Uh,di,Uh,zo 1421 0 2 4,zi 0,Bi,di,Bi,zs 1783 3,zi 0,Ff,di,Ff,zs 2143 2,zi 0,Fb,di,zs 2144 3,Fb,zv4,zT,zi 0,Fe,di,Fe,zi 2,zi 6,zi 0,Fh,di,Fh,zi 1,zi 0,zv6,di,zv6,zJ (.negSucc 2),zT,zi 0,zt,di]++zr 242⟩
def JA:Array Value:=⟨[zi 10,zi 1,zs 9 3,zs 11 1,zi 6,.map (some 3303)]⟩
def zA:Array Value:=⟨[zp 3584 0]⟩
def zB:Array Value:=⟨[di,zp 3751 0,zi 0,zi 0,zi 0,zp 3783 0,Bj,di,Bj,di,zi 0,zi 0,zF,zt,di,Hz,zp 3783 0,zp 3783 0,zp 3783 2,zs 9 3,zi 3,zt,zt,zt,zt]⟩
def zD:Array Value:=⟨[zF,zp 12 0,zs 80 3,zi 0,zi 6,zi 0,zi 0,zi 0,zs 1072 2,zi 0,zo 1421 0 2 4,zi 0,zs 1783 3,zi 0,zs 2143 2,zi 0,zp 2214 0,zT,zi 0,zi 2,zi 6,zi 0,zi 1,zi 0,zJ (.negSucc 2),zT,zi 0,zJ (.negSucc 2),zi 6,zi 0]++zr 19++[di,Nh,di,zs 13 3,LZ,Nh,zs 80 3,zi 0,vC,di,vC,zi 6,zi 0,vF,di,vF,zi 0,zi 0,Ui,di,Ui,zs 1072 2,zi 0,Uh,di,Uh,zo 1421 0 2 4,zi 0,Bi,di,Bi,zs 1783 3,zi 0,Ff,di,Ff,zs 2143 2,zi 0,Fb,di,zs 2144 3,Fb,zv4,zT,zi 0,Fe,di,Fe,zi 2,zi 6,zi 0,Fh,di,Fh,zi 1,zi 0,zv6,di,zv6,zJ (.negSucc 2),zT,zi 0,VP,di,VP,zJ (.negSucc 2),zi 6,zi 0,zt,di]++zr 236⟩
def aad:Array Value:=⟨[zi 4,zi 4,zi 0,zi 12,zi 4,zi 6,zi 6,zi 1,zi 12,zi 4,zi 4,zi 4,zi 0,zi 10,zi 4]⟩
def iH:Nat×cZ:=(9,⟨(.cells ⟨[zi 4,zi 4,zi 0,zi 12,zi 4,zi 5,zi 6,zi 1,zi 12,zi 4,zi 4,zi 4,zi 0,zi 10,zi 4]⟩ 41 (0,0)),none,false,0⟩)
def iI:Nat×cZ:=(11,⟨(.cells ⟨[zi 2,zi 6,zi 7]⟩ 67 (0,0)),none,false,0⟩)
def iJ:Nat×cZ:=(12,⟨(.cells ⟨[zi 10,zi 1,zs 9 3,zs 11 1]⟩ 25 (0,0)),none,false,0⟩)
def iK:Nat×cZ:=(13,⟨(.cells ⟨[zi 4,zi 6,zi 4]⟩ 3 (0,0)),none,false,0⟩)
def iL:Nat×cZ:=(80,⟨(.cells ⟨[zi 6,zi 4,zi 7]⟩ 3 (0,0)),(some 80),false,1⟩)
def iW:Nat×cZ:=(1072,⟨(.cells ⟨[zi 1,zi 2]⟩ 3 (0,0)),(some 1069),false,1⟩)
def iY:Nat×cZ:=(1421,⟨(.cells ⟨[zi 1,zi 1,zi 2,zi 1,zi 0,zi 0,zi 0,zi 0]⟩ 50 (0,0)),(some 1303),false,2⟩)
def aae:Nat×cZ:=(1422,⟨(.cells ⟨[zi 10,zi 1,zs 9 3,zs 11 1]⟩ 25 (0,0)),none,false,0⟩)
def aaf:Nat×cZ:=(1457,⟨(.cells ⟨[zi 10,zi 1,zs 9 3,zs 11 1]⟩ 77 (0,0)),none,false,0⟩)
def aeg:Nat×cZ:=(1463,⟨(.map ⟨[⟨.agg ⟨[zi 0,zi 6]⟩,zi 6,0⟩,⟨.agg ⟨[zi 1,zi 5]⟩,zi 3,1⟩,⟨.agg ⟨[zi 2,zi 6]⟩,zi 2,2⟩,⟨.agg ⟨[zi 1,zi 4]⟩,zi 2,3⟩,⟨.agg ⟨[zi 1,zi 6]⟩,zi 1,4⟩,⟨.agg ⟨[zi 2,zi 7]⟩,zi 4,5⟩]⟩ 6),none,false,0⟩)
def aag:Nat×cZ:=(1768,⟨(.cells ⟨[zi 6,.map (some 1463)]⟩ 98 (0,0)),none,false,0⟩)
def fP:Nat×cZ:=(1783,⟨(.cells ⟨[zi 4,zi 5,zi 6]⟩ 3 (0,0)),(some 1783),false,1⟩)
def aah:Nat×cZ:=(1784,⟨(.cells ⟨[zi 10,zi 1,zs 9 3,zs 11 1]⟩ 25 (0,0)),none,false,0⟩)
def aai:Nat×cZ:=(1819,⟨(.cells ⟨[zi 10,zi 1,zs 9 3,zs 11 1]⟩ 77 (0,0)),none,false,0⟩)
def aaj:Nat×cZ:=(1825,⟨(.map ⟨[⟨.agg ⟨[zi 0,zi 6]⟩,zi 6,0⟩,⟨.agg ⟨[zi 1,zi 5]⟩,zi 3,1⟩,⟨.agg ⟨[zi 2,zi 6]⟩,zi 2,2⟩,⟨.agg ⟨[zi 1,zi 4]⟩,zi 2,3⟩,⟨.agg ⟨[zi 1,zi 6]⟩,zi 1,4⟩,⟨.agg ⟨[zi 2,zi 7]⟩,zi 4,5⟩]⟩ 6),none,false,0⟩)
def aak:Nat×cZ:=(2130,⟨(.cells ⟨[zi 6,.map (some 1825)]⟩ 98 (0,0)),none,false,0⟩)
def gQ:Nat×cZ:=(2143,⟨(.cells ⟨[zi 6,zi 7]⟩ 3 (0,0)),(some 2143),false,1⟩)
def iw:Nat×cZ:=(2144,⟨(.cells ⟨[zi 6,zi 5,zi 6]⟩ 3 (0,0)),none,false,0⟩)
def iy:Nat×cZ:=(2214,⟨(.cells ⟨[zJ (.negSucc 3),zi 0]⟩ 33 (0,0)),none,false,0⟩)
def zG:Nat×cZ:=(2780,⟨(.cells ⟨[zi 10,zi 1,zs 9 3,zs 11 1]⟩ 25 (0,0)),none,false,0⟩)
def Ep:Nat×cZ:=(2817,⟨(.map ⟨[⟨acM,zi 1,0⟩,⟨acO,zi 1,1⟩,⟨acK,zi 1,2⟩,⟨acL,zi 2,3⟩,⟨acN,zi 1,4⟩]⟩ 5),none,false,0⟩)
def Es:Nat×cZ:=(3093,⟨(.cells ⟨[zi 10,zi 1,zs 9 3,zs 11 1,zi 6,.map (some 2817)]⟩ 111 (0,0)),none,false,0⟩)
def Et:Nat×cZ:=(3094,⟨(.cells ⟨[zi 10,zi 1,zs 9 3,zs 11 1,zi 6,.map (some 2817)]⟩ 111 (0,0)),none,false,0⟩)
def Eu:Nat×cZ:=(3095,⟨(.cells ⟨[zi 10,zi 1,zs 9 3,zs 11 1,zi 6,.map (some 2817)]⟩ 111 (0,0)),none,false,0⟩)
def Ew:Nat×cZ:=(3096,⟨(.cells ⟨[zi 0,zi 0]⟩ 117 (0,0)),none,false,0⟩)
def JB:Nat×cZ:=(3097,⟨(.cells ⟨[zi 0,zi 0]⟩ 117 (0,0)),none,false,0⟩)
def O6:Nat×cZ:=(3261,⟨(.cells ⟨[zJ (.negSucc 4),zJ (.negSucc 3),zJ (.negSucc 2),zi 0,zi 0]⟩ 3 (0,0)),(some 3133),false,1⟩)
def mV:Nat×cZ:=(9,⟨(.cells ⟨[zi 4,zi 4,zi 0,zi 12,zi 4,zi 5,zi 6,zi 1,zi 12,zi 4,zi 4,zi 4,zi 0,zi 10,zi 4]⟩ 41 (0,0)),none,true,0⟩)
def mW:Nat×cZ:=(11,⟨(.cells ⟨[zi 2,zi 6,zi 7]⟩ 67 (0,0)),none,true,0⟩)
def zH:Nat×cZ:=(2817,⟨(.map ⟨[⟨acM,zi 1,0⟩,⟨acO,zi 1,1⟩,⟨acK,zi 1,2⟩,⟨acL,zi 2,3⟩,⟨acN,zi 1,4⟩]⟩ 5),none,true,0⟩)
def zI:Nat×cZ:=(3095,⟨(.cells ⟨[zi 10,zi 1,zs 9 3,zs 11 1,zi 6,.map (some 2817)]⟩ 111 (0,0)),none,true,0⟩)
def aal:Nat×cZ:=(3262,⟨(.cells ⟨[zJ (.negSucc 4)]⟩ 3 (0,0)),none,true,0⟩)
def aam:Nat×cZ:=(3263,⟨(.cells ⟨[zJ (.negSucc 3)]⟩ 3 (0,0)),none,true,0⟩)
def aan:Nat×cZ:=(3264,⟨(.cells ⟨[zJ (.negSucc 2)]⟩ 3 (0,0)),none,true,0⟩)
def Ey:Nat×cZ:=(3266,⟨(.cells ⟨[zi 10,zi 1,zs 9 3,zs 11 1]⟩ 25 (0,0)),none,false,0⟩)
def Ez:Nat×cZ:=(3303,⟨(.map ⟨[⟨acM,zi 1,0⟩,⟨acO,zi 1,1⟩,⟨acK,zi 1,2⟩,⟨acL,zi 2,3⟩,⟨acN,zi 1,4⟩]⟩ 5),none,false,0⟩)
def EC:Nat×cZ:=(3579,⟨(.cells ⟨[zi 10,zi 1,zs 9 3,zs 11 1,zi 6,.map (some 3303)]⟩ 111 (0,0)),none,false,0⟩)
def ED:Nat×cZ:=(3580,⟨(.cells ⟨[zi 10,zi 1,zs 9 3,zs 11 1,zi 6,.map (some 3303)]⟩ 111 (0,0)),none,false,0⟩)
def EE:Nat×cZ:=(3581,⟨(.cells ⟨[zi 0,zi 0]⟩ 117 (0,0)),none,false,0⟩)
def JC:Nat×cZ:=(3582,⟨(.cells ⟨[zi 0,zi 0]⟩ 117 (0,0)),none,false,0⟩)
def O7:Nat×cZ:=(3746,⟨(.cells ⟨[zJ (.negSucc 4),zJ (.negSucc 3),zJ (.negSucc 2),zi 0,zi 0]⟩ 3 (0,0)),(some 3618),false,1⟩)
def zK:Nat×cZ:=(3303,⟨(.map ⟨[⟨acM,zi 1,0⟩,⟨acO,zi 1,1⟩,⟨acK,zi 1,2⟩,⟨acL,zi 2,3⟩,⟨acN,zi 1,4⟩]⟩ 5),none,true,0⟩)
def zL:Nat×cZ:=(3580,⟨(.cells ⟨[zi 10,zi 1,zs 9 3,zs 11 1,zi 6,.map (some 3303)]⟩ 111 (0,0)),none,true,0⟩)
def aao:Nat×cZ:=(3747,⟨(.cells ⟨[zJ (.negSucc 4)]⟩ 3 (0,0)),none,true,0⟩)
def aap:Nat×cZ:=(3748,⟨(.cells ⟨[zJ (.negSucc 3)]⟩ 3 (0,0)),none,true,0⟩)
def aaq:Nat×cZ:=(3749,⟨(.cells ⟨[zJ (.negSucc 2)]⟩ 3 (0,0)),none,true,0⟩)
def zM:Nat×cZ:=(3751,⟨(.cells ⟨[zi 10,zi 1,zs 9 3,zs 11 1]⟩ 25 (0,0)),none,false,0⟩)
def zO:Nat×cZ:=(3783,⟨(.cells ⟨[zi 10,zi 1,zs 9 3,zs 11 1]⟩ 77 (0,0)),none,false,0⟩)
def zQ:Nat×cZ:=(3789,⟨(.map ⟨[⟨.agg ⟨[zi 0,zi 6]⟩,zi 6,0⟩,⟨.agg ⟨[zi 1,zi 5]⟩,zi 3,1⟩,⟨.agg ⟨[zi 2,zi 6]⟩,zi 2,2⟩,⟨.agg ⟨[zi 1,zi 4]⟩,zi 2,3⟩,⟨.agg ⟨[zi 1,zi 6]⟩,zi 1,4⟩,⟨.agg ⟨[zi 2,zi 7]⟩,zi 4,5⟩]⟩ 6),none,false,0⟩)
def zU:Nat×cZ:=(4094,⟨(.cells ⟨[zi 6,.map (some 3789)]⟩ 98 (0,0)),none,false,0⟩)
def O8:Nat×cZ:=(4105,⟨(.cells ⟨[zi 6]⟩ 3 (0,0)),(some 4105),false,1⟩)
def O9:Nat×cZ:=(4121,⟨(.cells ⟨[zi 4,zi 5,zi 6]⟩ 3 (0,0)),(some 4121),false,1⟩)
def aar:Nat×cZ:=(4140,⟨(.cells ⟨[zi 10,zi 1,zs 4270 3,zs 4272 2]⟩ 25 (0,0)),none,false,0⟩)
def aas:Nat×cZ:=(4270,⟨(.cells ⟨[zi 4,zi 4,zi 0,zi 12,zi 4,zi 5,zi 6,zi 1,zi 12,zi 4,zi 4,zi 4,zi 0,zi 10,zi 4]⟩ 41 (0,0)),(some 4270),false,5⟩)
def aat:Nat×cZ:=(4272,⟨(.cells ⟨[zi 2,zi 6,zi 7,zi 2,zi 6,zi 6]⟩ 67 (0,0)),(some 4272),false,3⟩)
def BJ:List (List Int):=[[0,0],[-5,1],[-4,4],[-3,6]]
noncomputable def JD:Nat->List Int->List Int:=aip [(0,([0,0],[-5,1])),(1,([0,0],[-4,4])),(2,([0,0],[-3,6])),(0,([-5,1],[-5,1])),(1,([-5,1],[-4,4])),(2,([-5,1],[-3,6])),(0,([-4,4],[-4,4])),(1,([-4,4],[-4,4])),(2,([-4,4],[-3,6])),(0,([-3,6],[-3,6])),(1,([-3,6],[-3,6])),(2,([-3,6],[-3,6]))]
def BK:Nat->Bool:=fun k=>[0,1,2].contains k
def BL:List (List Int):=[[0,0],[-5,1],[-4,4],[-3,6]]
noncomputable def JE:Nat->List Int->List Int:=aip [(0,([0,0],[-5,1])),(1,([0,0],[-4,4])),(2,([0,0],[-3,6])),(0,([-5,1],[-5,1])),(1,([-5,1],[-4,4])),(2,([-5,1],[-3,6])),(0,([-4,4],[-4,4])),(1,([-4,4],[-4,4])),(2,([-4,4],[-3,6])),(0,([-3,6],[-3,6])),(1,([-3,6],[-3,6])),(2,([-3,6],[-3,6]))]
def BM:Nat->Bool:=fun k=>[0,1,2].contains k
noncomputable def aau:AS:=⟨aN.enter Tryz.prog 5 #[],[],h0⟩
noncomputable def aav:AS:=⟨⟨18,⟨[di,zp 717 0,.slice none 0 0,zi 0]++zr 27⟩,[.code (at_ 18 [1])],[],false,none,false⟩,
 [⟨5,⟨[zF,zp 12 0,zs 80 3,zi 0,zi 6,zi 0,zi 0,zi 0]++zr 41++[di,Nh,di,zs 13 3,LZ,Nh,zs 80 3,zi 0,vC,di,vC,zi 6,zi 0,vF,di,vF,zi 0,zi 0,zt,di]++zr 286⟩,[.region (au 5 [1,1,1,1,1,0]) [1,2,3,4,5,6],.code (at_ 5 [1,1,1,1,1,1])],[],false,none,false⟩],
 ⟨718,jG [iH,
  iI,
  iJ,
  iK,
  iL,
  (717,⟨(.cells Uj 25 (0,0)),none,false,0⟩)],jT [(80,[80])]⟩⟩
noncomputable def aaw:AS:=⟨⟨20,⟨[di,zi 1,zp 1422 0,zt,.slice none 0 0,zi 0,zp 1457 0,zi 0,Bj,di,zi 1,Bj,di,zi 0,zi 0,zF,zt,zt,zt,zt,zt,zt,zt]⟩,[.code (at_ 20 [1,1,1])],[],false,none,false⟩,
 [⟨5,aac,[.region (au 5 [1,1,1,1,1,1,1,0]) [1,2,3,4,5,6],.code (at_ 5 [1,1,1,1,1,1,1,1])],[],false,none,false⟩],
 ⟨1458,jG [iH,
  iI,
  iJ,
  iK,
  iL,
  iW,
  iY,
  aae,
  aaf],jT [(80,[80]),(1069,[1072]),(1303,[1421])]⟩⟩
noncomputable def gm:AS:=⟨⟨85,⟨[VT,zi 1,zp 1769 0,zt,.slice none 0 0,.slice none 0 0,zt,zp 1769 1,.map (some 1463),zp 1770 0]++zr 16⟩,[.region (au 85 [1,1,0,1,0,0,0]) [0,1],.code (at_ 85 [1,1,0,1,0,0,1]),.inLoop (at_ 85 [1,1,0,1,0,0]),.inBlock 0,.code (at_ 85 [1,1,1])],[],false,none,false⟩,
 [⟨52,⟨[VT,zi 1,zp 1768 0,zt,.slice none 0 0,zi 0,zp 1768 0,zi 6,zF,VT,zi 1,zt]⟩,[.region (au 52 [1,1,0]) [2,3,4],.code .ret],[],false,none,false⟩,
  ⟨20,aed,[.region (au 20 [1,1,1,0]) [3,4,5,6,7],.code .ret],[],false,none,false⟩,
  ⟨5,aac,[.region (au 5 [1,1,1,1,1,1,1,0]) [1,2,3,4,5,6],.code (at_ 5 [1,1,1,1,1,1,1,1])],[],false,none,false⟩],
 ⟨1771,jG [iH,
  iI,
  iJ,
  iK,
  iL,
  iW,
  iY,
  aae,
  aaf,
  aeg,
  aag,
  (1769,⟨(.cells ⟨[zi 6,.map (some 1463)]⟩ 98 (0,0)),none,false,0⟩),
  (1770,⟨(.mapIter (some 1463) 6 ⟨[]⟩ 6),none,false,0⟩)],jT [(80,[80]),(1069,[1072]),(1303,[1421])]⟩⟩
noncomputable def iC:AS:=⟨⟨52,⟨[VT,zi 1,zp 1768 0,zt,.slice none 0 0,zi 0,zp 1768 0,zi 6,zF,VT,zi 1,zs 1783 3]⟩,[.region (au 52 [1,1,0]) [3,4],.code .ret],[],false,none,false⟩,
 [⟨20,aed,[.region (au 20 [1,1,1,0]) [3,4,5,6,7],.code .ret],[],false,none,false⟩,
  ⟨5,aac,[.region (au 5 [1,1,1,1,1,1,1,0]) [1,2,3,4,5,6],.code (at_ 5 [1,1,1,1,1,1,1,1])],[],false,none,false⟩],
 ⟨1784,jG [fP,
  iH,
  iI,
  iJ,
  iK,
  iL,
  iW,
  iY,
  aae,
  aaf,
  aeg,
  aag],jT [(1783,[1783]),(80,[80]),(1069,[1072]),(1303,[1421])]⟩⟩
noncomputable def gp:AS:=⟨⟨85,⟨[VS,zi 2,zp 2131 0,zt,.slice none 0 0,.slice none 0 0,zt,zp 2131 1,.map (some 1825),zp 2132 0]++zr 16⟩,[.region (au 85 [1,1,0,1,0,0,0]) [0,1],.code (at_ 85 [1,1,0,1,0,0,1]),.inLoop (at_ 85 [1,1,0,1,0,0]),.inBlock 0,.code (at_ 85 [1,1,1])],[],false,none,false⟩,
 [⟨52,⟨[VS,zi 2,zp 2130 0,zt,.slice none 0 0,zi 0,zp 2130 0,zi 6,zF,VS,zi 2,zt]⟩,[.region (au 52 [1,1,0]) [2,3,4],.code .ret],[],false,none,false⟩,
  ⟨20,aee,[.region (au 20 [1,1,1,0]) [3,4,5,6,7],.code .ret],[],false,none,false⟩,
  ⟨5,aef,[.region (au 5 [1,1,1,1,1,1,1,1,0]) [1,2,3,4,5,6],.code (at_ 5 [1,1,1,1,1,1,1,1,1])],[],false,none,false⟩],
 ⟨2133,jG [iH,
  iI,
  iJ,
  iK,
  iL,
  iW,
  iY,
  fP,
  aah,
  aai,
  aaj,
  aak,
  (2131,⟨(.cells ⟨[zi 6,.map (some 1825)]⟩ 98 (0,0)),none,false,0⟩),
  (2132,⟨(.mapIter (some 1825) 6 ⟨[]⟩ 6),none,false,0⟩)],jT [(80,[80]),(1069,[1072]),(1303,[1421]),(1783,[1783])]⟩⟩
noncomputable def iD:AS:=⟨⟨52,⟨[VS,zi 2,zp 2130 0,zt,.slice none 0 0,zi 0,zp 2130 0,zi 6,zF,VS,zi 2,zs 2143 2]⟩,[.region (au 52 [1,1,0]) [3,4],.code .ret],[],false,none,false⟩,
 [⟨20,aee,[.region (au 20 [1,1,1,0]) [3,4,5,6,7],.code .ret],[],false,none,false⟩,
  ⟨5,aef,[.region (au 5 [1,1,1,1,1,1,1,1,0]) [1,2,3,4,5,6],.code (at_ 5 [1,1,1,1,1,1,1,1,1])],[],false,none,false⟩],
 ⟨2144,jG [gQ,
  iH,
  iI,
  iJ,
  iK,
  iL,
  iW,
  iY,
  fP,
  aah,
  aai,
  aaj,
  aak],jT [(2143,[2143]),(80,[80]),(1069,[1072]),(1303,[1421]),(1783,[1783])]⟩⟩
noncomputable def aax:AS:=⟨⟨54,⟨[di,zp 2781 0,zp 2782 0,zi 0,zp 2814 0,zi 0,Bj,di,Bj,di,zi 0]++zr 8⟩,[.code (at_ 54 [1,1])],[],false,none,false⟩,
 [⟨22,⟨[di,zp 2780 0,zi 0,zF,zi 0,zt,zt,di]++zr 13⟩,[.region (au 22 [1,0]) [1,2,3,4,5,6,7],.code (at_ 22 [1,1])],[],false,none,false⟩,
  ⟨5,HY,[.region (au 5 [1,1,1,1,1,1,1,1,1,1,1,1,0]) [1,2,3,4,5,6,7,8],.code (at_ 5 [1,1,1,1,1,1,1,1,1,1,1,1,1])],[],false,none,false⟩],
 ⟨2815,jG [iH,
  iI,
  iJ,
  iK,
  iL,
  iW,
  iY,
  fP,
  gQ,
  iw,
  iy,
  zG,
  (2781,⟨(.cells Uj 25 (0,0)),none,false,0⟩),
  (2782,⟨(.cells ⟨[zi 0,zi 0,.slice none 0 0,.slice none 0 0,zi 0,.map none]⟩ 111 (0,0)),none,false,0⟩),
  (2814,⟨(.cells Uj 77 (0,0)),none,false,0⟩)],jT [(80,[80]),(1069,[1072]),(1303,[1421]),(1783,[1783]),(2143,[2143])]⟩⟩
noncomputable def JF:AS:=⟨⟨56,⟨[Bg,zp 3095 0,zp 3096 0,zp 3097 0]++zr 16⟩,[.code (at_ 56 [1,1])],[],false,none,false⟩,
 [⟨55,L6,[.region (au 55 [1,0]) [1,2,3],.code (at_ 55 [1,1])],[],false,none,false⟩,
  ⟨22,L8,[.region (au 22 [1,1,1,0]) [1,2,3,4,5,6],.code (at_ 22 [1,1,1,1])],[],false,none,false⟩,
  ⟨5,HY,[.region (au 5 [1,1,1,1,1,1,1,1,1,1,1,1,0]) [1,2,3,4,5,6,7,8],.code (at_ 5 [1,1,1,1,1,1,1,1,1,1,1,1,1])],[],false,none,false⟩],
 ⟨3098,jG [iH,
  iI,
  iJ,
  iK,
  iL,
  iW,
  iY,
  fP,
  gQ,
  iw,
  iy,
  zG,
  Ep,
  Es,
  Et,
  Eu,
  Ew,
  JB],jT [(80,[80]),(1069,[1072]),(1303,[1421]),(1783,[1783]),(2143,[2143])]⟩⟩
noncomputable def aay:AS:=((muG Tryz.prog plan bD uj 2 3 [9,11,12,13,80,1072,1421,1783,2143,2144,2214,2780,2817,3093,3094,3095,3096,3097] JF).map (·.2.2)).getD JF
noncomputable def dB:AS:=⟨⟨87,⟨[Bg,zp 3100 0,.slice none 0 0,.slice none 0 0,zt,zt,zt,zp 3100 5,.map (some 2817),zp 3101 0]++zr 22⟩,[.region (au 87 [1,1,0,1,0,0,0]) [0,1],.code (at_ 87 [1,1,0,1,0,0,1]),.inLoop (at_ 87 [1,1,0,1,0,0]),.inBlock 0,.code (at_ 87 [1,1,1])],[],false,none,false⟩,
 [⟨56,⟨[Bg,zp 3095 0,zp 3096 0,zp 3097 0,zp 3098 0,zp 3099 0,zt,zt,Bg]++zr 11⟩,[.region (au 56 [1,1,1,1,0,0]) [1,2,3],.code (at_ 56 [1,1,1,1,0,1]),.code (at_ 56 [1,1,1,1,1])],[],false,none,false⟩,
  ⟨55,L6,[.region (au 55 [1,0]) [1,2,3],.code (at_ 55 [1,1])],[],false,none,false⟩,
  ⟨22,L8,[.region (au 22 [1,1,1,0]) [1,2,3,4,5,6],.code (at_ 22 [1,1,1,1])],[],false,none,false⟩,
  ⟨5,HY,[.region (au 5 [1,1,1,1,1,1,1,1,1,1,1,1,0]) [1,2,3,4,5,6,7,8],.code (at_ 5 [1,1,1,1,1,1,1,1,1,1,1,1,1])],[],false,none,false⟩],
 ⟨3102,jG [iH,
  iI,
  iJ,
  iK,
  iL,
  iW,
  iY,
  fP,
  gQ,
  iw,
  iy,
  zG,
  Ep,
  Es,
  Et,
  Eu,
  Ew,
  JB,
  (3100,⟨(.cells Uk 111 (0,0)),none,false,0⟩),
  (3101,⟨(.mapIter (some 2817) 5 ⟨[]⟩ 5),none,false,0⟩)],jT [(80,[80]),(1069,[1072]),(1303,[1421]),(1783,[1783]),(2143,[2143])]⟩⟩
noncomputable def dJ:AS:=⟨⟨56,⟨[Bg,zp 3095 0,zp 3096 0,zp 3097 0,zp 3098 0,zp 3099 0,zt,zt,Bg,zo 3261 0 3 5]++zr 10⟩,[.region (au 56 [1,1,1,1,0,0]) [2,3],.code (at_ 56 [1,1,1,1,0,1]),.code (at_ 56 [1,1,1,1,1])],[],false,none,false⟩,
 [⟨55,L6,[.region (au 55 [1,0]) [1,2,3],.code (at_ 55 [1,1])],[],false,none,false⟩,
  ⟨22,L8,[.region (au 22 [1,1,1,0]) [1,2,3,4,5,6],.code (at_ 22 [1,1,1,1])],[],false,none,false⟩,
  ⟨5,HY,[.region (au 5 [1,1,1,1,1,1,1,1,1,1,1,1,0]) [1,2,3,4,5,6,7,8],.code (at_ 5 [1,1,1,1,1,1,1,1,1,1,1,1,1])],[],false,none,false⟩],
 ⟨3262,jG [iH,
  iI,
  iJ,
  iK,
  iL,
  iW,
  iY,
  fP,
  gQ,
  iw,
  iy,
  zG,
  Ep,
  Es,
  Et,
  Eu,
  Ew,
  JB,
  O6],jT [(80,[80]),(1069,[1072]),(1303,[1421]),(1783,[1783]),(2143,[2143]),(3133,[3261])]⟩⟩
noncomputable def BN:AS:=⟨⟨56,⟨[Bg,zp 3095 0,zp 3096 0,zp 3097 0,zp 3098 0,zp 3099 0,zt,zp 3262 0,Bg,zo 3261 0 3 5,zi 3,zi 0,zT,zp 3261 0,zJ (.negSucc 4),zt,zt,zt,zt,zt]⟩,[.code (at_ 56 [1,1,1,1,0,1,0,0,1,1,0,0,1]),.inBlock 1,.code (at_ 56 [1,1,1,1,0,1,0,0,1,1,1]),.inLoop (at_ 56 [1,1,1,1,0,1,0,0]),.inBlock 0,.code (at_ 56 [1,1,1,1,1])],[],false,none,false⟩,
 [⟨55,L6,[.region (au 55 [1,0]) [1,2,3],.code (at_ 55 [1,1])],[],false,none,false⟩,
  ⟨22,L8,[.region (au 22 [1,1,1,0]) [1,2,3,4,5,6],.code (at_ 22 [1,1,1,1])],[],false,none,false⟩,
  ⟨5,HY,[.region (au 5 [1,1,1,1,1,1,1,1,1,1,1,1,0]) [1,2,3,4,5,6,7,8],.code (at_ 5 [1,1,1,1,1,1,1,1,1,1,1,1,1])],[],false,none,false⟩],
 ⟨3263,jG [iH,
  iI,
  iJ,
  iK,
  iL,
  iW,
  iY,
  fP,
  gQ,
  iw,
  iy,
  zG,
  Ep,
  Es,
  Et,
  Eu,
  Ew,
  JB,
  O6,
  (3262,⟨(.cells ⟨[zJ (.negSucc 4)]⟩ 3 (0,0)),none,false,0⟩)],jT [(80,[80]),(1069,[1072]),(1303,[1421]),(1783,[1783]),(2143,[2143]),(3133,[3261])]⟩⟩
noncomputable def yf:AS:=(DT 3097 3 [0,0] [9,11,12,13,80,1072,1421,1783,2143,2144,2214,2780,2817,3093,3094,3095,3096,3261,3262] BN).getD BN
noncomputable def mg:AS×AS:=(iU Tryz.prog plan bD 3099 2 3 yf).getD (yf,yf)
noncomputable def jK:AS:=⟨⟨91,⟨[Bg,zJ (.negSucc 4),zp 3264 0,zt,zi 0,zi 0,zt,zt,zt,zp 3264 5,.map (some 2817),zp 3265 0]++zr 31⟩,[.region (au 91 [1,0,1,1,0,1,0,0,0]) [0,1],.code (at_ 91 [1,0,1,1,0,1,0,0,1]),.inLoop (at_ 91 [1,0,1,1,0,1,0,0]),.inBlock 0,.code (at_ 91 [1,0,1,1,1]),.inScope (at_ 91 [1,0])],[],false,none,false⟩,
 [⟨89,⟨[zp 3099 0,zp 3262 0,zp 3095 0,zp 3098 0,zp 3097 0,zp 3263 0,zJ (.negSucc 4),Bg,zJ (.negSucc 4),zt,zt,zt,zt,zt,zt,zt]⟩,[.drawn (au 89 [1,0]) [(3,[0,5]),(4,[]),(6,[])],.code (at_ 89 [1,1])],[⟨.fn (.func 90) ⟨[]⟩,H6⟩],false,none,true⟩],
 ⟨3266,jG [mV,
  mW,
  zH,
  zI,
  aal,
  (3263,⟨(.cells zy 117 (0,0)),none,false,0⟩),
  (3264,⟨(.cells Uk 111 (0,0)),none,false,0⟩),
  (3265,⟨(.mapIter (some 2817) 5 ⟨[]⟩ 5),none,false,0⟩)],jT []⟩⟩
noncomputable def lI:AS:=⟨⟨89,⟨[zp 3099 0,zp 3262 0,zp 3095 0,zp 3098 0,zp 3097 0,zp 3263 0,zJ (.negSucc 4),Bg,zJ (.negSucc 4),zi 1,.agg ⟨[zJ (.negSucc 4),zi 1]⟩,zt,zt,zt,zt,zt]⟩,[.code (at_ 89 [1,1])],[⟨.fn (.func 90) ⟨[]⟩,H6⟩],false,none,true⟩,
 [],
 ⟨3315,jG [mV,
  mW,
  zH,
  zI,
  aal,
  (3263,⟨(.cells ⟨[zJ (.negSucc 4),zi 1]⟩ 117 (0,0)),none,false,0⟩)],jT []⟩⟩
noncomputable def mD:AS×AS:=(iU Tryz.prog plan bD 3099 25 3 mg.2).getD (mg.2,mg.2)
noncomputable def jL:AS:=⟨⟨91,⟨[Bg,zJ (.negSucc 3),zp 3265 0,zt,zi 0,zi 0,zt,zt,zt,zp 3265 5,.map (some 2817),zp 3266 0]++zr 31⟩,[.region (au 91 [1,0,1,1,0,1,0,0,0]) [0,1],.code (at_ 91 [1,0,1,1,0,1,0,0,1]),.inLoop (at_ 91 [1,0,1,1,0,1,0,0]),.inBlock 0,.code (at_ 91 [1,0,1,1,1]),.inScope (at_ 91 [1,0])],[],false,none,false⟩,
 [⟨89,⟨[zp 3099 0,zp 3263 0,zp 3095 0,zp 3098 0,zp 3097 0,zp 3264 0,zJ (.negSucc 3),Bg,zJ (.negSucc 3),zt,zt,zt,zt,zt,zt,zt]⟩,[.drawn (au 89 [1,0]) [(3,[0,5]),(4,[]),(6,[])],.code (at_ 89 [1,1])],[⟨.fn (.func 90) ⟨[]⟩,H6⟩],false,none,true⟩],
 ⟨3267,jG [mV,
  mW,
  zH,
  zI,
  aam,
  (3264,⟨(.cells zy 117 (0,0)),none,false,0⟩),
  (3265,⟨(.cells Uk 111 (0,0)),none,false,0⟩),
  (3266,⟨(.mapIter (some 2817) 5 ⟨[]⟩ 5),none,false,0⟩)],jT []⟩⟩
noncomputable def lJ:AS:=⟨⟨89,⟨[zp 3099 0,zp 3263 0,zp 3095 0,zp 3098 0,zp 3097 0,zp 3264 0,zJ (.negSucc 3),Bg,zJ (.negSucc 3),zi 4,.agg ⟨[zJ (.negSucc 3),zi 4]⟩,zt,zt,zt,zt,zt]⟩,[.code (at_ 89 [1,1])],[⟨.fn (.func 90) ⟨[]⟩,H6⟩],false,none,true⟩,
 [],
 ⟨3324,jG [mV,
  mW,
  zH,
  zI,
  aam,
  (3264,⟨(.cells ⟨[zJ (.negSucc 3),zi 4]⟩ 117 (0,0)),none,false,0⟩)],jT []⟩⟩
noncomputable def uu:AS×AS:=(iU Tryz.prog plan bD 3099 25 3 mD.2).getD (mD.2,mD.2)
noncomputable def jM:AS:=⟨⟨91,⟨[Bg,zJ (.negSucc 2),zp 3266 0,zt,zi 0,zi 0,zt,zt,zt,zp 3266 5,.map (some 2817),zp 3267 0]++zr 31⟩,[.region (au 91 [1,0,1,1,0,1,0,0,0]) [0,1],.code (at_ 91 [1,0,1,1,0,1,0,0,1]),.inLoop (at_ 91 [1,0,1,1,0,1,0,0]),.inBlock 0,.code (at_ 91 [1,0,1,1,1]),.inScope (at_ 91 [1,0])],[],false,none,false⟩,
 [⟨89,⟨[zp 3099 0,zp 3264 0,zp 3095 0,zp 3098 0,zp 3097 0,zp 3265 0,zJ (.negSucc 2),Bg,zJ (.negSucc 2),zt,zt,zt,zt,zt,zt,zt]⟩,[.drawn (au 89 [1,0]) [(3,[0,5]),(4,[]),(6,[])],.code (at_ 89 [1,1])],[⟨.fn (.func 90) ⟨[]⟩,H6⟩],false,none,true⟩],
 ⟨3268,jG [mV,
  mW,
  zH,
  zI,
  aan,
  (3265,⟨(.cells zy 117 (0,0)),none,false,0⟩),
  (3266,⟨(.cells Uk 111 (0,0)),none,false,0⟩),
  (3267,⟨(.mapIter (some 2817) 5 ⟨[]⟩ 5),none,false,0⟩)],jT []⟩⟩
noncomputable def lK:AS:=⟨⟨89,⟨[zp 3099 0,zp 3264 0,zp 3095 0,zp 3098 0,zp 3097 0,zp 3265 0,zJ (.negSucc 2),Bg,zJ (.negSucc 2),zi 6,.agg ⟨[zJ (.negSucc 2),zi 6]⟩,zt,zt,zt,zt,zt]⟩,[.code (at_ 89 [1,1])],[⟨.fn (.func 90) ⟨[]⟩,H6⟩],false,none,true⟩,
 [],
 ⟨3333,jG [mV,
  mW,
  zH,
  zI,
  aan,
  (3265,⟨(.cells Jz 117 (0,0)),none,false,0⟩)],jT []⟩⟩
noncomputable def Ul:AS:=⟨⟨56,⟨[Bg,zp 3095 0,zp 3096 0,zp 3097 0,zp 3098 0,zp 3099 0,zt,zp 3264 0,Bg,zo 3261 0 3 5,zi 3,zi 3,zF,zp 3261 2,zJ (.negSucc 2),zt,.func (.func 89) ⟨[]⟩ ⟨[zp 3099 0,zp 3264 0,zp 3095 0,zp 3098 0,zp 3097 0]⟩,zi 3,zt,zt]⟩,[.region (au 56 [1,1,1,1,1,0]) [],.code (at_ 56 [1,1,1,1,1,1])],[],false,none,false⟩,
 [⟨55,L6,[.region (au 55 [1,0]) [1,2,3],.code (at_ 55 [1,1])],[],false,none,false⟩,
  ⟨22,L8,[.region (au 22 [1,1,1,0]) [1,2,3,4,5,6],.code (at_ 22 [1,1,1,1])],[],false,none,false⟩,
  ⟨5,HY,[.region (au 5 [1,1,1,1,1,1,1,1,1,1,1,1,0]) [1,2,3,4,5,6,7,8],.code (at_ 5 [1,1,1,1,1,1,1,1,1,1,1,1,1])],[],false,none,false⟩],
 ⟨3265,jG [iH,
  iI,
  iJ,
  iK,
  iL,
  iW,
  iY,
  fP,
  gQ,
  iw,
  iy,
  zG,
  Ep,
  Es,
  Et,
  Eu,
  Ew,
  (3097,⟨(.cells Jz 0 (0,0)),none,false,0⟩),
  O6,
  (3264,⟨(.cells ⟨[zJ (.negSucc 2)]⟩ 3 (0,0)),none,false,0⟩)],jT [(80,[80]),(1069,[1072]),(1303,[1421]),(1783,[1783]),(2143,[2143]),(3133,[3261])]⟩⟩
noncomputable def BO:AS:=⟨⟨56,⟨[Em,zp 3580 0,zp 3581 0,zp 3582 0]++zr 16⟩,[.code (at_ 56 [1,1])],[],false,none,false⟩,
 [⟨23,En,[.region (au 23 [1,1,1,0]) [1,2,3],.code (at_ 23 [1,1,1,1])],[],false,none,false⟩,
  ⟨5,Eo,[.region (au 5 [1,1,1,1,1,1,1,1,1,1,1,1,1,0]) [1,2,3,4,5,6,7,8],.code (at_ 5 [1,1,1,1,1,1,1,1,1,1,1,1,1,1])],[],false,none,false⟩],
 ⟨3583,jG [iH,
  iI,
  iJ,
  iK,
  iL,
  iW,
  iY,
  fP,
  gQ,
  iw,
  iy,
  Ey,
  Ez,
  EC,
  ED,
  EE,
  JC],jT [(80,[80]),(1069,[1072]),(1303,[1421]),(1783,[1783]),(2143,[2143])]⟩⟩
noncomputable def Um:AS:=((muG Tryz.prog plan bD uj 2 3 [9,11,12,13,80,1072,1421,1783,2143,2144,2214,3266,3303,3579,3580,3581,3582] BO).map (·.2.2)).getD BO
noncomputable def dD:AS:=⟨⟨87,⟨[Em,zp 3585 0,.slice none 0 0,.slice none 0 0,zt,zt,zt,zp 3585 5,.map (some 3303),zp 3586 0]++zr 22⟩,[.region (au 87 [1,1,0,1,0,0,0]) [0,1],.code (at_ 87 [1,1,0,1,0,0,1]),.inLoop (at_ 87 [1,1,0,1,0,0]),.inBlock 0,.code (at_ 87 [1,1,1])],[],false,none,false⟩,
 [⟨56,⟨[Em,zp 3580 0,zp 3581 0,zp 3582 0,zp 3583 0,zp 3584 0,zt,zt,Em]++zr 11⟩,[.region (au 56 [1,1,1,1,0,0]) [1,2,3],.code (at_ 56 [1,1,1,1,0,1]),.code (at_ 56 [1,1,1,1,1])],[],false,none,false⟩,
  ⟨23,En,[.region (au 23 [1,1,1,0]) [1,2,3],.code (at_ 23 [1,1,1,1])],[],false,none,false⟩,
  ⟨5,Eo,[.region (au 5 [1,1,1,1,1,1,1,1,1,1,1,1,1,0]) [1,2,3,4,5,6,7,8],.code (at_ 5 [1,1,1,1,1,1,1,1,1,1,1,1,1,1])],[],false,none,false⟩],
 ⟨3587,jG [iH,
  iI,
  iJ,
  iK,
  iL,
  iW,
  iY,
  fP,
  gQ,
  iw,
  iy,
  Ey,
  Ez,
  EC,
  ED,
  EE,
  JC,
  (3585,⟨(.cells JA 111 (0,0)),none,false,0⟩),
  (3586,⟨(.mapIter (some 3303) 5 ⟨[]⟩ 5),none,false,0⟩)],jT [(80,[80]),(1069,[1072]),(1303,[1421]),(1783,[1783]),(2143,[2143])]⟩⟩
noncomputable def dK:AS:=⟨⟨56,⟨[Em,zp 3580 0,zp 3581 0,zp 3582 0,zp 3583 0,zp 3584 0,zt,zt,Em,zo 3746 0 3 5]++zr 10⟩,[.region (au 56 [1,1,1,1,0,0]) [2,3],.code (at_ 56 [1,1,1,1,0,1]),.code (at_ 56 [1,1,1,1,1])],[],false,none,false⟩,
 [⟨23,En,[.region (au 23 [1,1,1,0]) [1,2,3],.code (at_ 23 [1,1,1,1])],[],false,none,false⟩,
  ⟨5,Eo,[.region (au 5 [1,1,1,1,1,1,1,1,1,1,1,1,1,0]) [1,2,3,4,5,6,7,8],.code (at_ 5 [1,1,1,1,1,1,1,1,1,1,1,1,1,1])],[],false,none,false⟩],
 ⟨3747,jG [iH,
  iI,
  iJ,
  iK,
  iL,
  iW,
  iY,
  fP,
  gQ,
  iw,
  iy,
  Ey,
  Ez,
  EC,
  ED,
  EE,
  JC,
  O7],jT [(80,[80]),(1069,[1072]),(1303,[1421]),(1783,[1783]),(2143,[2143]),(3618,[3746])]⟩⟩
noncomputable def BP:AS:=⟨⟨56,⟨[Em,zp 3580 0,zp 3581 0,zp 3582 0,zp 3583 0,zp 3584 0,zt,zp 3747 0,Em,zo 3746 0 3 5,zi 3,zi 0,zT,zp 3746 0,zJ (.negSucc 4),zt,zt,zt,zt,zt]⟩,[.code (at_ 56 [1,1,1,1,0,1,0,0,1,1,0,0,1]),.inBlock 1,.code (at_ 56 [1,1,1,1,0,1,0,0,1,1,1]),.inLoop (at_ 56 [1,1,1,1,0,1,0,0]),.inBlock 0,.code (at_ 56 [1,1,1,1,1])],[],false,none,false⟩,
 [⟨23,En,[.region (au 23 [1,1,1,0]) [1,2,3],.code (at_ 23 [1,1,1,1])],[],false,none,false⟩,
  ⟨5,Eo,[.region (au 5 [1,1,1,1,1,1,1,1,1,1,1,1,1,0]) [1,2,3,4,5,6,7,8],.code (at_ 5 [1,1,1,1,1,1,1,1,1,1,1,1,1,1])],[],false,none,false⟩],
 ⟨3748,jG [iH,
  iI,
  iJ,
  iK,
  iL,
  iW,
  iY,
  fP,
  gQ,
  iw,
  iy,
  Ey,
  Ez,
  EC,
  ED,
  EE,
  JC,
  O7,
  (3747,⟨(.cells ⟨[zJ (.negSucc 4)]⟩ 3 (0,0)),none,false,0⟩)],jT [(80,[80]),(1069,[1072]),(1303,[1421]),(1783,[1783]),(2143,[2143]),(3618,[3746])]⟩⟩
noncomputable def yg:AS:=(DT 3582 3 [0,0] [9,11,12,13,80,1072,1421,1783,2143,2144,2214,3266,3303,3579,3580,3581,3746,3747] BP).getD BP
noncomputable def mF:AS×AS:=(iU Tryz.prog plan bD 3584 2 3 yg).getD (yg,yg)
noncomputable def jO:AS:=⟨⟨91,⟨[Em,zJ (.negSucc 4),zp 3749 0,zt,zi 0,zi 0,zt,zt,zt,zp 3749 5,.map (some 3303),zp 3750 0]++zr 31⟩,[.region (au 91 [1,0,1,1,0,1,0,0,0]) [0,1],.code (at_ 91 [1,0,1,1,0,1,0,0,1]),.inLoop (at_ 91 [1,0,1,1,0,1,0,0]),.inBlock 0,.code (at_ 91 [1,0,1,1,1]),.inScope (at_ 91 [1,0])],[],false,none,false⟩,
 [⟨89,⟨[zp 3584 0,zp 3747 0,zp 3580 0,zp 3583 0,zp 3582 0,zp 3748 0,zJ (.negSucc 4),Em,zJ (.negSucc 4),zt,zt,zt,zt,zt,zt,zt]⟩,[.drawn (au 89 [1,0]) [(3,[0,5]),(4,[]),(6,[])],.code (at_ 89 [1,1])],[⟨.fn (.func 90) ⟨[]⟩,zA⟩],false,none,true⟩],
 ⟨3751,jG [mV,
  mW,
  zK,
  zL,
  aao,
  (3748,⟨(.cells zy 117 (0,0)),none,false,0⟩),
  (3749,⟨(.cells JA 111 (0,0)),none,false,0⟩),
  (3750,⟨(.mapIter (some 3303) 5 ⟨[]⟩ 5),none,false,0⟩)],jT []⟩⟩
noncomputable def lM:AS:=⟨⟨89,⟨[zp 3584 0,zp 3747 0,zp 3580 0,zp 3583 0,zp 3582 0,zp 3748 0,zJ (.negSucc 4),Em,zJ (.negSucc 4),zi 1,.agg ⟨[zJ (.negSucc 4),zi 1]⟩,zt,zt,zt,zt,zt]⟩,[.code (at_ 89 [1,1])],[⟨.fn (.func 90) ⟨[]⟩,zA⟩],false,none,true⟩,
 [],
 ⟨3800,jG [mV,
  mW,
  zK,
  zL,
  aao,
  (3748,⟨(.cells ⟨[zJ (.negSucc 4),zi 1]⟩ 117 (0,0)),none,false,0⟩)],jT []⟩⟩
noncomputable def mG:AS×AS:=(iU Tryz.prog plan bD 3584 25 3 mF.2).getD (mF.2,mF.2)
noncomputable def jP:AS:=⟨⟨91,⟨[Em,zJ (.negSucc 3),zp 3750 0,zt,zi 0,zi 0,zt,zt,zt,zp 3750 5,.map (some 3303),zp 3751 0]++zr 31⟩,[.region (au 91 [1,0,1,1,0,1,0,0,0]) [0,1],.code (at_ 91 [1,0,1,1,0,1,0,0,1]),.inLoop (at_ 91 [1,0,1,1,0,1,0,0]),.inBlock 0,.code (at_ 91 [1,0,1,1,1]),.inScope (at_ 91 [1,0])],[],false,none,false⟩,
 [⟨89,⟨[zp 3584 0,zp 3748 0,zp 3580 0,zp 3583 0,zp 3582 0,zp 3749 0,zJ (.negSucc 3),Em,zJ (.negSucc 3),zt,zt,zt,zt,zt,zt,zt]⟩,[.drawn (au 89 [1,0]) [(3,[0,5]),(4,[]),(6,[])],.code (at_ 89 [1,1])],[⟨.fn (.func 90) ⟨[]⟩,zA⟩],false,none,true⟩],
 ⟨3752,jG [mV,
  mW,
  zK,
  zL,
  aap,
  (3749,⟨(.cells zy 117 (0,0)),none,false,0⟩),
  (3750,⟨(.cells JA 111 (0,0)),none,false,0⟩),
  (3751,⟨(.mapIter (some 3303) 5 ⟨[]⟩ 5),none,false,0⟩)],jT []⟩⟩
noncomputable def lN:AS:=⟨⟨89,⟨[zp 3584 0,zp 3748 0,zp 3580 0,zp 3583 0,zp 3582 0,zp 3749 0,zJ (.negSucc 3),Em,zJ (.negSucc 3),zi 4,.agg ⟨[zJ (.negSucc 3),zi 4]⟩,zt,zt,zt,zt,zt]⟩,[.code (at_ 89 [1,1])],[⟨.fn (.func 90) ⟨[]⟩,zA⟩],false,none,true⟩,
 [],
 ⟨3809,jG [mV,
  mW,
  zK,
  zL,
  aap,
  (3749,⟨(.cells ⟨[zJ (.negSucc 3),zi 4]⟩ 117 (0,0)),none,false,0⟩)],jT []⟩⟩
noncomputable def uw:AS×AS:=(iU Tryz.prog plan bD 3584 25 3 mG.2).getD (mG.2,mG.2)
noncomputable def jQ:AS:=⟨⟨91,⟨[Em,zJ (.negSucc 2),zp 3751 0,zt,zi 0,zi 0,zt,zt,zt,zp 3751 5,.map (some 3303),zp 3752 0]++zr 31⟩,[.region (au 91 [1,0,1,1,0,1,0,0,0]) [0,1],.code (at_ 91 [1,0,1,1,0,1,0,0,1]),.inLoop (at_ 91 [1,0,1,1,0,1,0,0]),.inBlock 0,.code (at_ 91 [1,0,1,1,1]),.inScope (at_ 91 [1,0])],[],false,none,false⟩,
 [⟨89,⟨[zp 3584 0,zp 3749 0,zp 3580 0,zp 3583 0,zp 3582 0,zp 3750 0,zJ (.negSucc 2),Em,zJ (.negSucc 2),zt,zt,zt,zt,zt,zt,zt]⟩,[.drawn (au 89 [1,0]) [(3,[0,5]),(4,[]),(6,[])],.code (at_ 89 [1,1])],[⟨.fn (.func 90) ⟨[]⟩,zA⟩],false,none,true⟩],
 ⟨3753,jG [mV,
  mW,
  zK,
  zL,
  aaq,
  (3750,⟨(.cells zy 117 (0,0)),none,false,0⟩),
  (3751,⟨(.cells JA 111 (0,0)),none,false,0⟩),
  (3752,⟨(.mapIter (some 3303) 5 ⟨[]⟩ 5),none,false,0⟩)],jT []⟩⟩
noncomputable def lQ:AS:=⟨⟨89,⟨[zp 3584 0,zp 3749 0,zp 3580 0,zp 3583 0,zp 3582 0,zp 3750 0,zJ (.negSucc 2),Em,zJ (.negSucc 2),zi 6,.agg ⟨[zJ (.negSucc 2),zi 6]⟩,zt,zt,zt,zt,zt]⟩,[.code (at_ 89 [1,1])],[⟨.fn (.func 90) ⟨[]⟩,zA⟩],false,none,true⟩,
 [],
 ⟨3818,jG [mV,
  mW,
  zK,
  zL,
  aaq,
  (3750,⟨(.cells Jz 117 (0,0)),none,false,0⟩)],jT []⟩⟩
noncomputable def Un:AS:=⟨⟨56,⟨[Em,zp 3580 0,zp 3581 0,zp 3582 0,zp 3583 0,zp 3584 0,zt,zp 3749 0,Em,zo 3746 0 3 5,zi 3,zi 3,zF,zp 3746 2,zJ (.negSucc 2),zt,.func (.func 89) ⟨[]⟩ ⟨[zp 3584 0,zp 3749 0,zp 3580 0,zp 3583 0,zp 3582 0]⟩,zi 3,zt,zt]⟩,[.region (au 56 [1,1,1,1,1,0]) [],.code (at_ 56 [1,1,1,1,1,1])],[],false,none,false⟩,
 [⟨23,En,[.region (au 23 [1,1,1,0]) [1,2,3],.code (at_ 23 [1,1,1,1])],[],false,none,false⟩,
  ⟨5,Eo,[.region (au 5 [1,1,1,1,1,1,1,1,1,1,1,1,1,0]) [1,2,3,4,5,6,7,8],.code (at_ 5 [1,1,1,1,1,1,1,1,1,1,1,1,1,1])],[],false,none,false⟩],
 ⟨3750,jG [iH,
  iI,
  iJ,
  iK,
  iL,
  iW,
  iY,
  fP,
  gQ,
  iw,
  iy,
  Ey,
  Ez,
  EC,
  ED,
  EE,
  (3582,⟨(.cells Jz 0 (0,0)),none,false,0⟩),
  O7,
  (3749,⟨(.cells ⟨[zJ (.negSucc 2)]⟩ 3 (0,0)),none,false,0⟩)],jT [(80,[80]),(1069,[1072]),(1303,[1421]),(1783,[1783]),(2143,[2143]),(3618,[3746])]⟩⟩
noncomputable def dL:AS:=⟨⟨85,⟨[Hz,zi 0,zp 4095 0,zt,.slice none 0 0,.slice none 0 0,zt,zp 4095 1,.map (some 3789),zp 4096 0]++zr 16⟩,[.region (au 85 [1,1,0,1,0,0,0]) [0,1],.code (at_ 85 [1,1,0,1,0,0,1]),.inLoop (at_ 85 [1,1,0,1,0,0]),.inBlock 0,.code (at_ 85 [1,1,1])],[],false,none,false⟩,
 [⟨57,⟨[Hz,zi 3,zp 4094 0,zt,zJ (.negSucc 0),zi 6,zi 0,zi 0,zi 0,zt,zt,zp 4094 0,zi 6,zF,zp 4094 0,zi 6,zi 3,zi 0,zT,zi 0,Hz,zi 0]++zr 21⟩,[.region (au 57 [1,0,1,1,1,0,1,0,0,1,1,0,0,1,1,0,0]) [2,3,4],.code (at_ 57 [1,0,1,1,1,0,1,0,0,1,1,0,0,1,1,0,1]),.code (at_ 57 [1,0,1,1,1,0,1,0,0,1,1,0,0,1,1,1]),.inBlock 1,.code (at_ 57 [1,0,1,1,1,0,1,0,0,1,1,1]),.inLoop (at_ 57 [1,0,1,1,1,0,1,0,0]),.inBlock 0,.code (at_ 57 [1,0,1,1,1,1]),.inScope (at_ 57 [1,0])],[],false,none,false⟩,
  ⟨24,zB,[.drawn (au 24 [1,1,1,0]) [(7,[]),(8,[]),(9,[]),(10,[]),(11,[]),(12,[]),(13,[])],.code .ret],[],false,none,false⟩,
  ⟨5,zD,[.region (au 5 [1,1,1,1,1,1,1,1,1,1,1,1,1,1,0]) [1,2,3,4,5,6,7,8],.code (at_ 5 [1,1,1,1,1,1,1,1,1,1,1,1,1,1,1])],[],false,none,false⟩],
 ⟨4097,jG [iH,
  iI,
  iJ,
  iK,
  iL,
  iW,
  iY,
  fP,
  gQ,
  iw,
  iy,
  zM,
  zO,
  zQ,
  zU,
  (4095,⟨(.cells ⟨[zi 6,.map (some 3789)]⟩ 98 (0,0)),none,false,0⟩),
  (4096,⟨(.mapIter (some 3789) 6 ⟨[]⟩ 6),none,false,0⟩)],jT [(80,[80]),(1069,[1072]),(1303,[1421]),(1783,[1783]),(2143,[2143])]⟩⟩
noncomputable def eP:AS:=⟨⟨57,⟨[Hz,zi 3,zp 4094 0,zt,zJ (.negSucc 0),zi 6,zi 0,zi 0,zi 0,zt,zt,zp 4094 0,zi 6,zF,zp 4094 0,zi 6,zi 3,zi 0,zT,zi 0,Hz,zi 0,zs 4105 1]++zr 20⟩,[.region (au 57 [1,0,1,1,1,0,1,0,0,1,1,0,0,1,1,0,0]) [3,4],.code (at_ 57 [1,0,1,1,1,0,1,0,0,1,1,0,0,1,1,0,1]),.code (at_ 57 [1,0,1,1,1,0,1,0,0,1,1,0,0,1,1,1]),.inBlock 1,.code (at_ 57 [1,0,1,1,1,0,1,0,0,1,1,1]),.inLoop (at_ 57 [1,0,1,1,1,0,1,0,0]),.inBlock 0,.code (at_ 57 [1,0,1,1,1,1]),.inScope (at_ 57 [1,0])],[],false,none,false⟩,
 [⟨24,zB,[.drawn (au 24 [1,1,1,0]) [(7,[]),(8,[]),(9,[]),(10,[]),(11,[]),(12,[]),(13,[])],.code .ret],[],false,none,false⟩,
  ⟨5,zD,[.region (au 5 [1,1,1,1,1,1,1,1,1,1,1,1,1,1,0]) [1,2,3,4,5,6,7,8],.code (at_ 5 [1,1,1,1,1,1,1,1,1,1,1,1,1,1,1])],[],false,none,false⟩],
 ⟨4106,jG [O8,
  iH,
  iI,
  iJ,
  iK,
  iL,
  iW,
  iY,
  fP,
  gQ,
  iw,
  iy,
  zM,
  zO,
  zQ,
  zU],jT [(4105,[4105]),(80,[80]),(1069,[1072]),(1303,[1421]),(1783,[1783]),(2143,[2143])]⟩⟩
noncomputable def dM:AS:=⟨⟨85,⟨[Hz,zi 1,zp 4107 0,zt,.slice none 0 0,.slice none 0 0,zt,zp 4107 1,.map (some 3789),zp 4108 0]++zr 16⟩,[.region (au 85 [1,1,0,1,0,0,0]) [0,1],.code (at_ 85 [1,1,0,1,0,0,1]),.inLoop (at_ 85 [1,1,0,1,0,0]),.inBlock 0,.code (at_ 85 [1,1,1])],[],false,none,false⟩,
 [⟨57,⟨[Hz,zi 3,zp 4094 0,zt,zJ (.negSucc 0),zi 6,zi 0,zi 1,zi 0,zt,zi 6,zp 4094 0,zi 6,zF,zp 4094 0,zi 6,zi 3,zi 1,zT,zi 1,Hz,zi 1,zs 4105 1,zi 1,zi 0,zT,zp 4105 0,zi 6,zi 0,Hz,zi 0,zi 6,zi 6,zi 6,zi 6,zi 6,zT,zt,zt,zt,zi 1,zt,zt]⟩,[.region (au 57 [1,0,1,1,1,0,1,0,0,1,1,0,0,1,1,0,0]) [2,3,4],.code (at_ 57 [1,0,1,1,1,0,1,0,0,1,1,0,0,1,1,0,1]),.code (at_ 57 [1,0,1,1,1,0,1,0,0,1,1,0,0,1,1,1]),.inBlock 1,.code (at_ 57 [1,0,1,1,1,0,1,0,0,1,1,1]),.inLoop (at_ 57 [1,0,1,1,1,0,1,0,0]),.inBlock 0,.code (at_ 57 [1,0,1,1,1,1]),.inScope (at_ 57 [1,0])],[],false,none,false⟩,
  ⟨24,zB,[.drawn (au 24 [1,1,1,0]) [(7,[]),(8,[]),(9,[]),(10,[]),(11,[]),(12,[]),(13,[])],.code .ret],[],false,none,false⟩,
  ⟨5,zD,[.region (au 5 [1,1,1,1,1,1,1,1,1,1,1,1,1,1,0]) [1,2,3,4,5,6,7,8],.code (at_ 5 [1,1,1,1,1,1,1,1,1,1,1,1,1,1,1])],[],false,none,false⟩],
 ⟨4109,jG [iH,
  iI,
  iJ,
  iK,
  iL,
  iW,
  iY,
  fP,
  gQ,
  iw,
  iy,
  zM,
  zO,
  zQ,
  zU,
  O8,
  (4107,⟨(.cells ⟨[zi 6,.map (some 3789)]⟩ 98 (0,0)),none,false,0⟩),
  (4108,⟨(.mapIter (some 3789) 6 ⟨[]⟩ 6),none,false,0⟩)],jT [(80,[80]),(1069,[1072]),(1303,[1421]),(1783,[1783]),(2143,[2143]),(4105,[4105])]⟩⟩
noncomputable def eU:AS:=⟨⟨57,⟨[Hz,zi 3,zp 4094 0,zt,zJ (.negSucc 0),zi 6,zi 0,zi 1,zi 0,zt,zi 6,zp 4094 0,zi 6,zF,zp 4094 0,zi 6,zi 3,zi 1,zT,zi 1,Hz,zi 1,zs 4121 3,zi 1,zi 0,zT,zp 4105 0,zi 6,zi 0,Hz,zi 0,zi 6,zi 6,zi 6,zi 6,zi 6,zT,zt,zt,zt,zi 1,zt,zt]⟩,[.region (au 57 [1,0,1,1,1,0,1,0,0,1,1,0,0,1,1,0,0]) [3,4],.code (at_ 57 [1,0,1,1,1,0,1,0,0,1,1,0,0,1,1,0,1]),.code (at_ 57 [1,0,1,1,1,0,1,0,0,1,1,0,0,1,1,1]),.inBlock 1,.code (at_ 57 [1,0,1,1,1,0,1,0,0,1,1,1]),.inLoop (at_ 57 [1,0,1,1,1,0,1,0,0]),.inBlock 0,.code (at_ 57 [1,0,1,1,1,1]),.inScope (at_ 57 [1,0])],[],false,none,false⟩,
 [⟨24,zB,[.drawn (au 24 [1,1,1,0]) [(7,[]),(8,[]),(9,[]),(10,[]),(11,[]),(12,[]),(13,[])],.code .ret],[],false,none,false⟩,
  ⟨5,zD,[.region (au 5 [1,1,1,1,1,1,1,1,1,1,1,1,1,1,0]) [1,2,3,4,5,6,7,8],.code (at_ 5 [1,1,1,1,1,1,1,1,1,1,1,1,1,1,1])],[],false,none,false⟩],
 ⟨4122,jG [O9,
  iH,
  iI,
  iJ,
  iK,
  iL,
  iW,
  iY,
  fP,
  gQ,
  iw,
  iy,
  zM,
  zO,
  zQ,
  zU,
  O8],jT [(4121,[4121]),(80,[80]),(1069,[1072]),(1303,[1421]),(1783,[1783]),(2143,[2143]),(4105,[4105])]⟩⟩
noncomputable def dN:AS:=⟨⟨85,⟨[Hz,zi 2,zp 4125 0,zt,.slice none 0 0,.slice none 0 0,zt,zp 4125 1,.map (some 3789),zp 4126 0]++zr 16⟩,[.region (au 85 [1,1,0,1,0,0,0]) [0,1],.code (at_ 85 [1,1,0,1,0,0,1]),.inLoop (at_ 85 [1,1,0,1,0,0]),.inBlock 0,.code (at_ 85 [1,1,1])],[],false,none,false⟩,
 [⟨57,⟨[Hz,zi 3,zp 4094 0,zt,zi 1,zi 3,zi 0,zi 2,zi 0,zt,zi 6,zp 4094 0,zi 6,zF,zp 4094 0,zi 6,zi 3,zi 2,zT,zi 2,Hz,zi 2,zs 4121 3,zi 3,zi 3,zF,zp 4121 2,zi 6,zi 3,Hz,zi 1,zi 6,zi 1,zi 3,zi 3,zi 6,zF,zi 3,zi 1,zi 3,zi 2,zt,zt]⟩,[.region (au 57 [1,0,1,1,1,0,1,0,0,1,1,0,0,1,1,0,0]) [2,3,4],.code (at_ 57 [1,0,1,1,1,0,1,0,0,1,1,0,0,1,1,0,1]),.code (at_ 57 [1,0,1,1,1,0,1,0,0,1,1,0,0,1,1,1]),.inBlock 1,.code (at_ 57 [1,0,1,1,1,0,1,0,0,1,1,1]),.inLoop (at_ 57 [1,0,1,1,1,0,1,0,0]),.inBlock 0,.code (at_ 57 [1,0,1,1,1,1]),.inScope (at_ 57 [1,0])],[],false,none,false⟩,
  ⟨24,zB,[.drawn (au 24 [1,1,1,0]) [(7,[]),(8,[]),(9,[]),(10,[]),(11,[]),(12,[]),(13,[])],.code .ret],[],false,none,false⟩,
  ⟨5,zD,[.region (au 5 [1,1,1,1,1,1,1,1,1,1,1,1,1,1,0]) [1,2,3,4,5,6,7,8],.code (at_ 5 [1,1,1,1,1,1,1,1,1,1,1,1,1,1,1])],[],false,none,false⟩],
 ⟨4127,jG [iH,
  iI,
  iJ,
  iK,
  iL,
  iW,
  iY,
  fP,
  gQ,
  iw,
  iy,
  zM,
  zO,
  zQ,
  zU,
  O9,
  (4125,⟨(.cells ⟨[zi 6,.map (some 3789)]⟩ 98 (0,0)),none,false,0⟩),
  (4126,⟨(.mapIter (some 3789) 6 ⟨[]⟩ 6),none,false,0⟩)],jT [(80,[80]),(1069,[1072]),(1303,[1421]),(1783,[1783]),(2143,[2143]),(4121,[4121])]⟩⟩
noncomputable def eX:AS:=⟨⟨57,⟨[Hz,zi 3,zp 4094 0,zt,zi 1,zi 3,zi 0,zi 2,zi 0,zt,zi 6,zp 4094 0,zi 6,zF,zp 4094 0,zi 6,zi 3,zi 2,zT,zi 2,Hz,zi 2,zs 4137 2,zi 3,zi 3,zF,zp 4121 2,zi 6,zi 3,Hz,zi 1,zi 6,zi 1,zi 3,zi 3,zi 6,zF,zi 3,zi 1,zi 3,zi 2,zt,zt]⟩,[.region (au 57 [1,0,1,1,1,0,1,0,0,1,1,0,0,1,1,0,0]) [3,4],.code (at_ 57 [1,0,1,1,1,0,1,0,0,1,1,0,0,1,1,0,1]),.code (at_ 57 [1,0,1,1,1,0,1,0,0,1,1,0,0,1,1,1]),.inBlock 1,.code (at_ 57 [1,0,1,1,1,0,1,0,0,1,1,1]),.inLoop (at_ 57 [1,0,1,1,1,0,1,0,0]),.inBlock 0,.code (at_ 57 [1,0,1,1,1,1]),.inScope (at_ 57 [1,0])],[],false,none,false⟩,
 [⟨24,zB,[.drawn (au 24 [1,1,1,0]) [(7,[]),(8,[]),(9,[]),(10,[]),(11,[]),(12,[]),(13,[])],.code .ret],[],false,none,false⟩,
  ⟨5,zD,[.region (au 5 [1,1,1,1,1,1,1,1,1,1,1,1,1,1,0]) [1,2,3,4,5,6,7,8],.code (at_ 5 [1,1,1,1,1,1,1,1,1,1,1,1,1,1,1])],[],false,none,false⟩],
 ⟨4138,jG [(4137,⟨(.cells ⟨[zi 6,zi 7]⟩ 3 (0,0)),(some 4137),false,1⟩),
  iH,
  iI,
  iJ,
  iK,
  iL,
  iW,
  iY,
  fP,
  gQ,
  iw,
  iy,
  zM,
  zO,
  zQ,
  zU,
  O9],jT [(4137,[4137]),(80,[80]),(1069,[1072]),(1303,[1421]),(1783,[1783]),(2143,[2143]),(4121,[4121])]⟩⟩
noncomputable def Uo:AS:=⟨⟨27,⟨[di,zi 1,Bl,zp 4894 0,zt,zp 4895 0,zp 4896 0,zi 0,zp 4931 0,zi 0,zp 4934 0,zT,Bj,di,zi 1,Bj,di,zi 0,zi 0,zF,zt,zt,Bl,zT,zF,zt,.tuple ⟨[Bl,zT]⟩,zp 4931 0,zp 4931 0,zp 4931 2,zs 9 3,zi 1,zp 9 5,zp 9 5,.agg ⟨[zi 5,zi 6]⟩,Bl,.tuple ⟨[Bl,zT]⟩,Bl,zT,zT,zF,zt,zp 4894 2,zs 9 3,zs 4940 3,zp 4894 2,zp 4894 2,zs 4940 3,zi 1,Bl,zp 4940 5,zp 4940 5,zt,zt,zt,zt]⟩,[.code (at_ 27 [1,1,1,1,1,1,1,1])],[],false,none,false⟩,
 [⟨5,⟨[zF,zp 12 0,zs 80 3,zi 0,zi 6,zi 0,zi 0,zi 0,zs 1072 2,zi 0,zo 1421 0 2 4,zi 0,zs 1783 3,zi 0,zs 2143 2,zi 0,zp 2214 0,zT,zi 0,zi 2,zi 6,zi 0,zi 1,zi 0,zJ (.negSucc 2),zT,zi 0,zJ (.negSucc 2),zi 6,zi 0,zi 1,zi 3,zi 0,zp 4140 0,zi 0,zi 2,zi 0,zi 2,zi 0,zp 4891 0]++zr 9++[di,Nh,di,zs 13 3,LZ,Nh,zs 80 3,zi 0,vC,di,vC,zi 6,zi 0,vF,di,vF,zi 0,zi 0,Ui,di,Ui,zs 1072 2,zi 0,Uh,di,Uh,zo 1421 0 2 4,zi 0,Bi,di,Bi,zs 1783 3,zi 0,Ff,di,Ff,zs 2143 2,zi 0,Fb,di,zs 2144 3,Fb,zv4,zT,zi 0,Fe,di,Fe,zi 2,zi 6,zi 0,Fh,di,Fh,zi 1,zi 0,zv6,di,zv6,zJ (.negSucc 2),zT,zi 0,VP,di,VP,zJ (.negSucc 2),zi 6,zi 0,acP,di,acP,zi 1,zi 3,zi 0,.tuple ⟨[zv5,zi 0]⟩,di,Bl,.agg ⟨[zi 2,zi 6,zi 6]⟩,.tuple ⟨[zv5,zi 0]⟩,zv5,zi 0,Fg,zv5,Fg,zi 2,zi 0,Fg,zv5,Fg,zi 2,zi 0,zt,di,Bl]++zr 212⟩,[.drawn (au 5 [1,1,1,1,1,1,1,1,1,1,1,1,1,1,1,1,1,1,0]) [(2,[6]),(3,[]),(4,[]),(5,[]),(7,[5]),(8,[])],.code (at_ 5 [1,1,1,1,1,1,1,1,1,1,1,1,1,1,1,1,1,1,1])],[],false,none,false⟩],
 ⟨4941,jG [iH,
  iI,
  iJ,
  iK,
  iL,
  iW,
  iY,
  fP,
  gQ,
  iw,
  iy,
  aar,
  aas,
  aat,
  (4891,⟨(.cells ⟨[zi 0,zi 0,.slice none 0 0,.slice none 0 0]⟩ 25 (0,0)),none,false,0⟩),
  (4894,⟨(.cells ⟨[zi 10,zi 1,zs 4940 3,zs 11 1]⟩ 25 (0,0)),none,false,0⟩),
  (4895,⟨(.cells ⟨[zi 6,zi 6]⟩ 33 (0,0)),none,false,0⟩),
  (4896,⟨(.cells ⟨[zi 0,zi 0,.slice none 0 0,.slice none 0 0]⟩ 25 (0,0)),none,false,0⟩),
  (4931,⟨(.cells Uj 77 (0,0)),none,false,0⟩),
  (4934,⟨(.cells ⟨[zi 6,zi 6]⟩ 33 (0,0)),none,false,0⟩),
  (4940,⟨(.cells aad 41 (0,0)),(some 4940),false,5⟩)],jT [(80,[80]),(1069,[1072]),(1303,[1421]),(1783,[1783]),(2143,[2143]),(4270,[4270]),(4272,[4272]),(4940,[4940])]⟩⟩
noncomputable def Ur:AS:=⟨⟨29,⟨[VQ,zp 5524 0,.slice none 0 0,zi 0,zp 5562 0,zi 0,.tuple ⟨[VQ,zi 0]⟩,VQ,.tuple ⟨[VQ,zi 0]⟩,VQ,zi 0,zi 0,zF,zt,zt,zt]⟩,[.code (at_ 29 [1,1,1])],[],false,none,false⟩,
 [⟨5,⟨[zF,zp 12 0,zs 80 3,zi 0,zi 6,zi 0,zi 0,zi 0,zs 1072 2,zi 0,zo 1421 0 2 4,zi 0,zs 1783 3,zi 0,zs 2143 2,zi 0,zp 2214 0,zT,zi 0,zi 2,zi 6,zi 0,zi 1,zi 0,zJ (.negSucc 2),zT,zi 0,zJ (.negSucc 2),zi 6,zi 0,zi 1,zi 3,zi 0,zp 4140 0,zi 0,zi 2,zi 0,zi 2,zi 0,zp 4891 0,zi 0,zi 3,zi 0,zp 5391 0,zi 0,zi 2,zi 0,zt,zt,di,Nh,di,zs 13 3,LZ,Nh,zs 80 3,zi 0,vC,di,vC,zi 6,zi 0,vF,di,vF,zi 0,zi 0,Ui,di,Ui,zs 1072 2,zi 0,Uh,di,Uh,zo 1421 0 2 4,zi 0,Bi,di,Bi,zs 1783 3,zi 0,Ff,di,Ff,zs 2143 2,zi 0,Fb,di,zs 2144 3,Fb,zv4,zT,zi 0,Fe,di,Fe,zi 2,zi 6,zi 0,Fh,di,Fh,zi 1,zi 0,zv6,di,zv6,zJ (.negSucc 2),zT,zi 0,VP,di,VP,zJ (.negSucc 2),zi 6,zi 0,acP,di,acP,zi 1,zi 3,zi 0,.tuple ⟨[zv5,zi 0]⟩,di,Bl,.agg ⟨[zi 2,zi 6,zi 6]⟩,.tuple ⟨[zv5,zi 0]⟩,zv5,zi 0,Fg,zv5,Fg,zi 2,zi 0,Fg,zv5,Fg,zi 2,zi 0,.tuple ⟨[acI,zi 0]⟩,di,Bl,.tuple ⟨[acI,zi 0]⟩,acI,zi 0,.tuple ⟨[zi 3,zi 0]⟩,acI,.tuple ⟨[zi 3,zi 0]⟩,zi 3,zi 0,.tuple ⟨[acJ,zi 0]⟩,di,.tuple ⟨[acJ,zi 0]⟩,acJ,zi 0,Fg,acJ,Fg,zi 2,zi 0,zt,di,Bl,.agg ⟨[zi 0,zi 6,zi 6]⟩,.agg ⟨[zi 10,zi 1,zs 9 3,zs 5513 2]⟩,.agg ⟨[zi 5,zi 5]⟩,.agg ⟨[zi 0,zi 5,zi 5]⟩,VQ]++zr 186⟩,[.drawn (au 5 [1,1,1,1,1,1,1,1,1,1,1,1,1,1,1,1,1,1,1,1,1,1,0]) [(7,[]),(8,[]),(9,[]),(10,[]),(11,[]),(12,[])],.code (at_ 5 [1,1,1,1,1,1,1,1,1,1,1,1,1,1,1,1,1,1,1,1,1,1,1])],[],false,none,false⟩],
 ⟨5563,jG [iH,
  iI,
  iJ,
  iK,
  iL,
  iW,
  iY,
  fP,
  gQ,
  iw,
  iy,
  aar,
  aas,
  aat,
  (4891,⟨(.cells ⟨[zi 10,zi 1,zs 5028 3,zs 5030 1]⟩ 25 (0,0)),none,false,0⟩),
  (5028,⟨(.cells aad 41 (0,0)),(some 5028),false,5⟩),
  (5030,⟨(.cells ⟨[zi 2,zi 6,zi 7]⟩ 67 (0,0)),(some 5030),false,3⟩),
  (5388,⟨(.cells ⟨[zi 4,zi 4,zi 0,zi 12,zi 4,zi 5,zi 6,zi 1,zi 12,zi 4,zi 4,zi 4,zi 0,zi 10,zi 4]⟩ 41 (0,0)),(some 5388),false,5⟩),
  (5390,⟨(.cells ⟨[zi 2,zi 6,zi 7]⟩ 67 (0,0)),(some 5390),false,3⟩),
  (5391,⟨(.cells ⟨[zi 10,zi 0,zs 5388 3,zs 5390 1]⟩ 25 (0,0)),none,false,0⟩),
  (5513,⟨(.cells ⟨[zi 2,zi 6,zi 7,zi 0,zi 6,zi 6]⟩ 67 (0,0)),(some 5512),false,3⟩),
  (5523,⟨(.cells ⟨[zi 2,zi 6,zi 7,zi 0,zi 6,zi 6,zi 0,zi 5,zi 5]⟩ 67 (0,0)),(some 5522),false,3⟩),
  (5524,⟨(.cells ⟨[zi 10,zi 1,zs 9 3,zs 5523 3]⟩ 25 (0,0)),none,false,0⟩),
  (5562,⟨(.cells ⟨[zi 10,zi 1,zs 9 3,zs 5523 3]⟩ 77 (0,0)),none,false,0⟩)],jT [(80,[80]),(1069,[1072]),(1303,[1421]),(1783,[1783]),(2143,[2143]),(4270,[4270]),(4272,[4272]),(5028,[5028]),(5030,[5030]),(5388,[5388]),(5390,[5390]),(5512,[5513]),(5522,[5523])]⟩⟩
end Go.Am
