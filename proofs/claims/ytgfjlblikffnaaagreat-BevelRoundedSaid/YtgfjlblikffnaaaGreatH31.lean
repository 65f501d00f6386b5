import Derived.Test.YtgfjlblikffnaaaGreatH19
import Derived.Test.YtgfjlblikffnaaaGreatH21
set_option linter.unusedVariables false
set_option linter.unusedSectionVars false
set_option linter.unusedSimpArgs false
namespace Go.Am
open Go.Proofs
abbrev zi(n:Nat):Value:=.int .i64 (.ofNat n)
abbrev zs(b n:Nat):Value:=.slice (some ⟨b,0,none⟩) n n
abbrev zo(b o n c:Nat):Value:=.slice (some ⟨b,o,none⟩) n c
abbrev zp(b o:Nat):Value:=.pointer (some ⟨b,o,none⟩)
abbrev zt:Value:=.tuple ⟨[]⟩
abbrev zr(n:Nat):List Value:=List.replicate n zt
abbrev aS:Value:=.agg ⟨[zi 3,zi 4,zi 1,zi 2,zi 1,zs 5 4,zs 8 2]⟩
abbrev vM:Value:=.agg ⟨[zi 4,.map (some 4619)]⟩
abbrev Yy:Value:=.agg ⟨[zi 3,zi 4,zi 1,zi 2,zi 1,zs 5713 4,zs 5715 3]⟩
abbrev BH:Value:=.tuple ⟨[zo 72 0 3 6,zi 0]⟩
abbrev BI:Value:=.tuple ⟨[.bool false,zi 0]⟩
abbrev BJ:Value:=.tuple ⟨[.bool true,zi 0]⟩
abbrev uO:Value:=.tuple ⟨[zi 1,zi 0]⟩
abbrev xg:Value:=.tuple ⟨[zi 0,zi 0]⟩
abbrev JF:Value:=.tuple ⟨[zs 1426 2,zi 0]⟩
abbrev OE:Value:=.tuple ⟨[zs 1805 2,zi 0]⟩
abbrev oN:Value:=.tuple ⟨[zi 4,zi 0]⟩
abbrev Ak:Value:=.tuple ⟨[zs 3940 2,zi 0]⟩
abbrev uC:Value:=.tuple ⟨[aS,zi 0]⟩
abbrev Jg:Value:=.agg ⟨[zi 1,zi 2]⟩
abbrev Yz:Value:=.agg ⟨[zi 3,zi 4,zi 1,zi 2,zi 1,zs 5204 4,zs 5206 2]⟩
abbrev Qp:Value:=.agg ⟨[zi 4,.map (some 1489)]⟩
abbrev Qq:Value:=.agg ⟨[zi 4,.map (some 1114)]⟩
abbrev abb:Value:=.agg ⟨[zi 3,zi 4,zi 1,zi 2,zi 1,zs 5 4,zs 8 2,zi 0,zi 3]⟩
abbrev abd:Value:=.agg ⟨[zi 3,zi 4,zi 1,zi 2,zi 1,zs 5 4,zs 8 2,zi 0,zi 1]⟩
abbrev Jh:Value:=.tuple ⟨[Jg,zi 0]⟩
abbrev Qr:Value:=.tuple ⟨[zs 4403 1,zi 0]⟩
abbrev YA:Value:=.tuple ⟨[zs 4534 2,zi 0]⟩
def Tryz.v0:Array Value:=⟨[zi 3,zi 4,zi 1,zi 2,zi 1,zs 5 4,zs 8 2]⟩
def Tryz.v1:Array Value:=⟨[aS,zi 1,zp 1053 0,zt,.slice none 0 0,zi 0,zp 1108 0,zi 0,uC,aS,zi 1,zs 1054 1,uC,aS,zi 0,zi 0,.bool false,zt,aS,Qq,zi 1,zt,zt,zt]⟩
def Tryz.v2:Array Value:=⟨[.bool false,zp 9 0,zo 72 0 3 6,zi 0,.bool true,zi 0,.bool false,zi 0,zi 4,zi 0]++zr 16++[aS,BH,aS,zs 10 4,BH,zo 72 0 3 6,zi 0,BJ,aS,zs 83 4,zs 84 1,BJ,.bool true,zi 0,BI,aS,zs 322 4,BI,.bool false,zi 0,oN,aS,oN,zi 4,zi 0,zt,aS]++zr 252⟩
def Tryz.v3:Array Value:=⟨[aS,zi 0,zp 1427 0,zt,.slice none 0 0,zi 0,zp 1483 0,zi 0,uC,aS,zi 0,zs 1428 1,uC,aS,zi 0,zi 0,.bool false,zt,aS,Qp,zi 0,zt,zt,zt]⟩
def Tryz.v4:Array Value:=⟨[.bool false,zp 9 0,zo 72 0 3 6,zi 0,.bool true,zi 0,.bool false,zi 0,zi 4,zi 0,zs 1426 2,zi 0]++zr 14++[aS,BH,aS,zs 10 4,BH,zo 72 0 3 6,zi 0,BJ,aS,zs 83 4,zs 84 1,BJ,.bool true,zi 0,BI,aS,zs 322 4,BI,.bool false,zi 0,oN,aS,oN,zi 4,zi 0,JF,aS,JF,zs 1426 2,zi 0,zt,aS]++zr 247⟩
def Tryz.v5:Array Value:=⟨[aS,.func (.func 58) ⟨[aS]⟩ ⟨[]⟩,zp 4388 0,zt,.slice none 0 0,zs 4419 4,zt,zt,zp 4388 0,aS,zi 2,zp 4388 0,aS,zi 2,.func (.func 105) ⟨[]⟩ ⟨[zp 4391 0,zp 4392 0]⟩,zs 4419 4,zt,zs 4419 4,.func (.func 58) ⟨[aS]⟩ ⟨[]⟩]++zr 8⟩
def Tryz.v6:Array Value:=⟨[aS,zp 4337 0,.slice none 0 0,zi 0,zp 4387 0,zi 0,uC,aS,uC,aS,zi 0,zi 0,.bool false,zt,aS,aS,.func (.func 58) ⟨[aS]⟩ ⟨[]⟩,zt]⟩
def Tryz.v7:Array Value:=⟨[.bool false,zp 9 0,zo 72 0 3 6,zi 0,.bool true,zi 0,.bool false,zi 0,zi 4,zi 0,zs 1426 2,zi 0,zs 1805 2,zi 0,zi 1,zi 0,zi 0,zi 0,zs 3940 2,zp 4336 0,zt,zt,zt,zt,zt,zt,aS,BH,aS,zs 10 4,BH,zo 72 0 3 6,zi 0,BJ,aS,zs 83 4,zs 84 1,BJ,.bool true,zi 0,BI,aS,zs 322 4,BI,.bool false,zi 0,oN,aS,oN,zi 4,zi 0,JF,aS,JF,zs 1426 2,zi 0,OE,aS,OE,zs 1805 2,zi 0,uO,aS,uO,zi 1,zi 0,xg,aS,xg,zi 0,zi 0,zi 0,.bool false,.bool false,zi 0,.bool false,.bool false,.bool false,zi 0,.bool false,.bool false,.bool false,zi 0,.bool false,.bool false,.bool false,zi 0,.bool false,.bool false,.bool false,zi 0,.bool false,.bool false,.bool false,zi 0,.bool false,.bool false,.bool false,zi 0,.bool false,.bool false,.bool false,.bool true,.bool false,.bool false,.bool false,.bool false,.bool false,.bool false,zi 4,.bool false,.bool false,.bool false,zi 1,.bool false,.bool false,.bool false,zi 0,.bool false,.bool false,.bool false,zo 72 0 3 6,zs 2519 3,.bool true,.bool false,.bool false,.bool false,zs 1426 2,zs 2520 2,.bool true,.bool false,.bool false,.bool false,zs 1805 2,zs 2521 2,.bool true,.bool false,.bool false,uO,aS,uO,zi 1,zi 0,xg,aS,xg,zi 0,zi 0,Ak,aS,Ak,zs 3940 2,zi 0,Jh,aS,Jh,Jg,zi 0,zt,aS]++zr 145⟩
def Tryz.v8:Array Value:=⟨[aS,.func (.func 59) ⟨[aS]⟩ ⟨[]⟩,zp 4505 0,zt,.slice none 0 0,zs 4536 4,zt,zt,zp 4505 0,aS,zi 2,zp 4505 0,aS,zi 2,.func (.func 105) ⟨[]⟩ ⟨[zp 4508 0,zp 4509 0]⟩,zs 4536 4,zt,zs 4536 4,.func (.func 59) ⟨[aS]⟩ ⟨[]⟩]++zr 8⟩
def Tryz.v9:Array Value:=⟨[aS,zp 4454 0,.slice none 0 0,zi 0,zp 4504 0,zi 0,uC,aS,uC,aS,zi 0,zi 0,.bool false,zt,aS,aS,.func (.func 59) ⟨[aS]⟩ ⟨[]⟩,zt]⟩
def Tryz.v10:Array Value:=⟨[.bool false,zp 9 0,zo 72 0 3 6,zi 0,.bool true,zi 0,.bool false,zi 0,zi 4,zi 0,zs 1426 2,zi 0,zs 1805 2,zi 0,zi 1,zi 0,zi 0,zi 0,zs 3940 2,zp 4336 0,zs 4403 1,zt,zt,zt,zt,zt,aS,BH,aS,zs 10 4,BH,zo 72 0 3 6,zi 0,BJ,aS,zs 83 4,zs 84 1,BJ,.bool true,zi 0,BI,aS,zs 322 4,BI,.bool false,zi 0,oN,aS,oN,zi 4,zi 0,JF,aS,JF,zs 1426 2,zi 0,OE,aS,OE,zs 1805 2,zi 0,uO,aS,uO,zi 1,zi 0,xg,aS,xg,zi 0,zi 0,zi 0,.bool false,.bool false,zi 0,.bool false,.bool false,.bool false,zi 0,.bool false,.bool false,.bool false,zi 0,.bool false,.bool false,.bool false,zi 0,.bool false,.bool false,.bool false,zi 0,.bool false,.bool false,.bool false,zi 0,.bool false,.bool false,.bool false,zi 0,.bool false,.bool false,.bool false,.bool true,.bool false,.bool false,.bool false,.bool false,.bool false,.bool false,zi 4,.bool false,.bool false,.bool false,zi 1,.bool false,.bool false,.bool false,zi 0,.bool false,.bool false,.bool false,zo 72 0 3 6,zs 2519 3,.bool true,.bool false,.bool false,.bool false,zs 1426 2,zs 2520 2,.bool true,.bool false,.bool false,.bool false,zs 1805 2,zs 2521 2,.bool true,.bool false,.bool false,uO,aS,uO,zi 1,zi 0,xg,aS,xg,zi 0,zi 0,Ak,aS,Ak,zs 3940 2,zi 0,Jh,aS,Jh,Jg,zi 0,Qr,aS,Qr,zs 4403 1,zi 0,zt,aS]++zr 140⟩
def Tryz.v11:Array Value:=⟨[aS,zp 4563 0,zi 0,zi 0,zi 0,zp 4613 0,uC,aS,uC,aS,zi 0,zi 0,.bool false,zt,aS,vM,zp 4613 0,aS,zi 4,zt,zt,zt,zt]⟩
def Tryz.v12:Array Value:=⟨[.bool false,zp 9 0,zo 72 0 3 6,zi 0,.bool true,zi 0,.bool false,zi 0,zi 4,zi 0,zs 1426 2,zi 0,zs 1805 2,zi 0,zi 1,zi 0,zi 0,zi 0,zs 3940 2,zp 4336 0,zs 4403 1,zs 4534 2,zt,zt,zt,zt,aS,BH,aS,zs 10 4,BH,zo 72 0 3 6,zi 0,BJ,aS,zs 83 4,zs 84 1,BJ,.bool true,zi 0,BI,aS,zs 322 4,BI,.bool false,zi 0,oN,aS,oN,zi 4,zi 0,JF,aS,JF,zs 1426 2,zi 0,OE,aS,OE,zs 1805 2,zi 0,uO,aS,uO,zi 1,zi 0,xg,aS,xg,zi 0,zi 0,zi 0,.bool false,.bool false,zi 0,.bool false,.bool false,.bool false,zi 0,.bool false,.bool false,.bool false,zi 0,.bool false,.bool false,.bool false,zi 0,.bool false,.bool false,.bool false,zi 0,.bool false,.bool false,.bool false,zi 0,.bool false,.bool false,.bool false,zi 0,.bool false,.bool false,.bool false,.bool true,.bool false,.bool false,.bool false,.bool false,.bool false,.bool false,zi 4,.bool false,.bool false,.bool false,zi 1,.bool false,.bool false,.bool false,zi 0,.bool false,.bool false,.bool false,zo 72 0 3 6,zs 2519 3,.bool true,.bool false,.bool false,.bool false,zs 1426 2,zs 2520 2,.bool true,.bool false,.bool false,.bool false,zs 1805 2,zs 2521 2,.bool true,.bool false,.bool false,uO,aS,uO,zi 1,zi 0,xg,aS,xg,zi 0,zi 0,Ak,aS,Ak,zs 3940 2,zi 0,Jh,aS,Jh,Jg,zi 0,Qr,aS,Qr,zs 4403 1,zi 0,YA,aS,YA,zs 4534 2,zi 0,zt,aS]++zr 135⟩
def Tryz.v13:Array Value:=⟨[zi 4,.map (some 4619)]⟩
def Tryz.v14:Array Value:=⟨[zi 3,zi 4,zi 1,zi 2,zi 1,zs 5713 4,zs 5715 3]⟩
def Tryz.b0:Nat×bg:=(5,⟨(.cells ⟨[zi 10,zi 10,zi 12,zi 13,zi 14,zi 14,zi 14,zi 15]⟩ 50 (0,0)),none,false,0⟩)
def Tryz.b1:Nat×bg:=(8,⟨(.cells ⟨[zi 0,zi 4,zi 4,zi 1,zi 2,zi 2]⟩ 61 (0,0)),none,false,0⟩)
def Tryz.b2:Nat×bg:=(9,⟨(.cells ⟨[zi 3,zi 4,zi 1,zi 2,zi 1,zs 5 4,zs 8 2]⟩ 25 (0,0)),none,false,0⟩)
def Tryz.b3:Nat×bg:=(10,⟨(.cells ⟨[zi 10,zi 12,zi 14,zi 13]⟩ 3 (0,0)),none,false,0⟩)
def Tryz.b4:Nat×bg:=(72,⟨(.cells ⟨[zi 2,zi 2,.int .i64 (.negSucc 1),zi 0,zi 0,zi 0]⟩ 71 (0,0)),none,false,0⟩)
def Tryz.b5:Nat×bg:=(83,⟨(.cells ⟨[zi 10,zi 12,zi 14,zi 14]⟩ 3 (0,0)),none,false,0⟩)
def Tryz.b6:Nat×bg:=(84,⟨(.cells ⟨[zi 0]⟩ 3 (0,0)),none,false,0⟩)
def Tryz.b7:Nat×bg:=(322,⟨(.cells ⟨[zi 10,zi 12,zi 14,zi 14]⟩ 3 (0,0)),none,false,0⟩)
def Tryz.b8:Nat×bg:=(1053,⟨(.cells ⟨[zi 3,zi 4,zi 1,zi 2,zi 1,zs 5 4,zs 8 2]⟩ 25 (0,0)),none,false,0⟩)
def Tryz.b9:Nat×bg:=(1054,⟨(.cells ⟨[zi 1]⟩ 3 (0,0)),none,false,0⟩)
def Tryz.b10:Nat×bg:=(1108,⟨(.cells ⟨[zi 3,zi 4,zi 1,zi 2,zi 1,zs 5 4,zs 8 2]⟩ 67 (0,0)),none,false,0⟩)
def Tryz.b11:Nat×bg:=(1114,⟨(.map ⟨[⟨.agg ⟨[zi 0,zi 10]⟩,zi 4,0⟩,⟨.agg ⟨[zi 1,zi 12]⟩,zi 2,1⟩,⟨.agg ⟨[zi 2,zi 14]⟩,zi 4,2⟩,⟨.agg ⟨[zi 3,zi 14]⟩,zi 2,3⟩,⟨.agg ⟨[zi 3,zi 15]⟩,zi 2,4⟩,⟨.agg ⟨[zi 1,zi 13]⟩,zi 2,5⟩]⟩ 6),none,false,0⟩)
def Tryz.b12:Nat×bg:=(1413,⟨(.cells ⟨[zi 4,.map (some 1114)]⟩ 93 (0,0)),none,false,0⟩)
def Tryz.b13:Nat×bg:=(1426,⟨(.cells ⟨[zi 12,zi 13]⟩ 3 (0,0)),(some 1426),false,1⟩)
def Tryz.b14:Nat×bg:=(1427,⟨(.cells ⟨[zi 3,zi 4,zi 1,zi 2,zi 1,zs 5 4,zs 8 2]⟩ 25 (0,0)),none,false,0⟩)
def Tryz.b15:Nat×bg:=(1428,⟨(.cells ⟨[zi 0]⟩ 3 (0,0)),none,false,0⟩)
def Tryz.b16:Nat×bg:=(1483,⟨(.cells ⟨[zi 3,zi 4,zi 1,zi 2,zi 1,zs 5 4,zs 8 2]⟩ 67 (0,0)),none,false,0⟩)
def Tryz.b17:Nat×bg:=(1489,⟨(.map ⟨[⟨.agg ⟨[zi 0,zi 2]⟩,zi 2,0⟩,⟨Jg,zi 2,1⟩,⟨.agg ⟨[zi 2,zi 0]⟩,zi 2,2⟩,⟨.agg ⟨[zi 2,zi 1]⟩,zi 2,3⟩,⟨.agg ⟨[zi 0,zi 4]⟩,zi 2,4⟩,⟨.agg ⟨[zi 1,zi 1]⟩,zi 2,5⟩]⟩ 6),none,false,0⟩)
def Tryz.b18:Nat×bg:=(1792,⟨(.cells ⟨[zi 4,.map (some 1489)]⟩ 93 (0,0)),none,false,0⟩)
def Tryz.b19:Nat×bg:=(1805,⟨(.cells ⟨[zi 2,zi 4]⟩ 3 (0,0)),(some 1805),false,1⟩)
def Tryz.b20:Nat×bg:=(2519,⟨(.cells ⟨[zi 2,zi 2,.int .i64 (.negSucc 1)]⟩ 3 (0,0)),none,false,0⟩)
def Tryz.JG:Nat×bg:=(2520,⟨(.cells ⟨[zi 12,zi 13]⟩ 3 (0,0)),none,false,0⟩)
def Tryz.b22:Nat×bg:=(2521,⟨(.cells ⟨[zi 2,zi 4]⟩ 3 (0,0)),none,false,0⟩)
def Tryz.OG:Nat×bg:=(3940,⟨(.cells ⟨[zi 1,zi 2]⟩ 3 (0,0)),(some 3778),false,1⟩)
def Tryz.Qs:Nat×bg:=(4336,⟨(.cells ⟨[zi 1,zi 2]⟩ 50 (0,0)),none,false,0⟩)
def Tryz.b25:Nat×bg:=(4337,⟨(.cells ⟨[zi 3,zi 4,zi 1,zi 2,zi 1,zs 5 4,zs 8 2]⟩ 25 (0,0)),none,false,0⟩)
def Tryz.b26:Nat×bg:=(4387,⟨(.cells ⟨[zi 3,zi 4,zi 1,zi 2,zi 1,zs 5 4,zs 8 2]⟩ 67 (0,0)),none,false,0⟩)
def Tryz.b27:Nat×bg:=(4388,⟨(.cells ⟨[zi 3,zi 4,zi 1,zi 2,zi 1,zs 5 4,zs 8 2]⟩ 67 (0,0)),none,false,0⟩)
def Tryz.b28:Nat×bg:=(4391,⟨(.cells ⟨[zi 2]⟩ 3 (0,0)),none,false,0⟩)
def Tryz.b29:Nat×bg:=(4392,⟨(.cells ⟨[zi 2]⟩ 3 (0,0)),none,false,0⟩)
def Tryz.Qu:Nat×bg:=(4403,⟨(.cells ⟨[zi 0]⟩ 3 (0,0)),(some 4403),false,1⟩)
def Tryz.b31:Nat×bg:=(4409,⟨(.cells ⟨[zi 1]⟩ 3 (0,0)),(some 4409),false,1⟩)
def Tryz.b32:Nat×bg:=(4417,⟨(.cells ⟨[zi 0,zi 1]⟩ 3 (0,0)),(some 4417),false,1⟩)
def Tryz.b33:Nat×bg:=(4419,⟨(.cells ⟨[.slice none 0 0,zs 4403 1,zs 4409 1,zs 4417 2]⟩ 29 (0,0)),(some 4399),false,1⟩)
def Tryz.b34:Nat×bg:=(4422,⟨(.cells ⟨[.func (.func 58) ⟨[aS]⟩ ⟨[]⟩]⟩ 108 (0,0)),none,false,0⟩)
def Tryz.b35:Nat×bg:=(5,⟨(.cells ⟨[zi 10,zi 10,zi 12,zi 13,zi 14,zi 14,zi 14,zi 15]⟩ 50 (0,0)),none,true,0⟩)
def Tryz.b36:Nat×bg:=(8,⟨(.cells ⟨[zi 0,zi 4,zi 4,zi 1,zi 2,zi 2]⟩ 61 (0,0)),none,true,0⟩)
def Tryz.b37:Nat×bg:=(9,⟨(.cells ⟨[zi 3,zi 4,zi 1,zi 2,zi 1,zs 5 4,zs 8 2]⟩ 25 (0,0)),none,true,0⟩)
def Tryz.b38:Nat×bg:=(10,⟨(.cells ⟨[zi 10,zi 12,zi 14,zi 13]⟩ 3 (0,0)),none,true,0⟩)
def Tryz.b39:Nat×bg:=(72,⟨(.cells ⟨[zi 2,zi 2,.int .i64 (.negSucc 1),zi 0,zi 0,zi 0]⟩ 71 (0,0)),none,true,0⟩)
def Tryz.b40:Nat×bg:=(83,⟨(.cells ⟨[zi 10,zi 12,zi 14,zi 14]⟩ 3 (0,0)),none,true,0⟩)
def Tryz.b41:Nat×bg:=(84,⟨(.cells ⟨[zi 0]⟩ 3 (0,0)),none,true,0⟩)
def Tryz.b42:Nat×bg:=(322,⟨(.cells ⟨[zi 10,zi 12,zi 14,zi 14]⟩ 3 (0,0)),none,true,0⟩)
def Tryz.b43:Nat×bg:=(1426,⟨(.cells ⟨[zi 12,zi 13]⟩ 3 (0,0)),(some 1426),true,1⟩)
def Tryz.b44:Nat×bg:=(1805,⟨(.cells ⟨[zi 2,zi 4]⟩ 3 (0,0)),(some 1805),true,1⟩)
def Tryz.b45:Nat×bg:=(2519,⟨(.cells ⟨[zi 2,zi 2,.int .i64 (.negSucc 1)]⟩ 3 (0,0)),none,true,0⟩)
def Tryz.b46:Nat×bg:=(2520,⟨(.cells ⟨[zi 12,zi 13]⟩ 3 (0,0)),none,true,0⟩)
def Tryz.b47:Nat×bg:=(2521,⟨(.cells ⟨[zi 2,zi 4]⟩ 3 (0,0)),none,true,0⟩)
def Tryz.b48:Nat×bg:=(3940,⟨(.cells ⟨[zi 1,zi 2]⟩ 3 (0,0)),(some 3778),true,1⟩)
def Tryz.b49:Nat×bg:=(4336,⟨(.cells ⟨[zi 1,zi 2]⟩ 50 (0,0)),none,true,0⟩)
def Tryz.b50:Nat×bg:=(4337,⟨(.cells ⟨[zi 3,zi 4,zi 1,zi 2,zi 1,zs 5 4,zs 8 2]⟩ 25 (0,0)),none,true,0⟩)
def Tryz.b51:Nat×bg:=(4387,⟨(.cells ⟨[zi 3,zi 4,zi 1,zi 2,zi 1,zs 5 4,zs 8 2]⟩ 67 (0,0)),none,true,0⟩)
def Tryz.b52:Nat×bg:=(4388,⟨(.cells ⟨[zi 3,zi 4,zi 1,zi 2,zi 1,zs 5 4,zs 8 2]⟩ 67 (0,0)),none,true,0⟩)
def Tryz.b53:Nat×bg:=(4391,⟨(.cells ⟨[zi 2]⟩ 3 (0,0)),none,true,0⟩)
def Tryz.b54:Nat×bg:=(4392,⟨(.cells ⟨[zi 2]⟩ 3 (0,0)),none,true,0⟩)
def Tryz.b55:Nat×bg:=(4403,⟨(.cells ⟨[zi 0]⟩ 3 (0,0)),(some 4403),true,1⟩)
def Tryz.b56:Nat×bg:=(4409,⟨(.cells ⟨[zi 1]⟩ 3 (0,0)),(some 4409),true,1⟩)
def Tryz.b57:Nat×bg:=(4417,⟨(.cells ⟨[zi 0,zi 1]⟩ 3 (0,0)),(some 4417),true,1⟩)
def Tryz.b58:Nat×bg:=(4419,⟨(.cells ⟨[.slice none 0 0,zs 4403 1,zs 4409 1,zs 4417 2]⟩ 29 (0,0)),(some 4399),true,1⟩)
def Tryz.b59:Nat×bg:=(4454,⟨(.cells ⟨[zi 3,zi 4,zi 1,zi 2,zi 1,zs 5 4,zs 8 2]⟩ 25 (0,0)),none,false,0⟩)
def Tryz.b60:Nat×bg:=(4504,⟨(.cells ⟨[zi 3,zi 4,zi 1,zi 2,zi 1,zs 5 4,zs 8 2]⟩ 67 (0,0)),none,false,0⟩)
def Tryz.b61:Nat×bg:=(4505,⟨(.cells ⟨[zi 3,zi 4,zi 1,zi 2,zi 1,zs 5 4,zs 8 2]⟩ 67 (0,0)),none,false,0⟩)
def Tryz.b62:Nat×bg:=(4508,⟨(.cells ⟨[zi 2]⟩ 3 (0,0)),none,false,0⟩)
def Tryz.b63:Nat×bg:=(4509,⟨(.cells ⟨[zi 2]⟩ 3 (0,0)),none,false,0⟩)
def Tryz.b64:Nat×bg:=(4520,⟨(.cells ⟨[zi 0]⟩ 3 (0,0)),(some 4520),false,1⟩)
def Tryz.b65:Nat×bg:=(4526,⟨(.cells ⟨[zi 1]⟩ 3 (0,0)),(some 4526),false,1⟩)
def Tryz.Ub:Nat×bg:=(4534,⟨(.cells ⟨[zi 0,zi 1]⟩ 3 (0,0)),(some 4534),false,1⟩)
def Tryz.b67:Nat×bg:=(4536,⟨(.cells ⟨[.slice none 0 0,zs 4520 1,zs 4526 1,zs 4534 2]⟩ 29 (0,0)),(some 4516),false,1⟩)
def Tryz.b68:Nat×bg:=(4539,⟨(.cells ⟨[.func (.func 59) ⟨[aS]⟩ ⟨[]⟩]⟩ 108 (0,0)),none,false,0⟩)
def Tryz.b69:Nat×bg:=(4454,⟨(.cells ⟨[zi 3,zi 4,zi 1,zi 2,zi 1,zs 5 4,zs 8 2]⟩ 25 (0,0)),none,true,0⟩)
def Tryz.b70:Nat×bg:=(4504,⟨(.cells ⟨[zi 3,zi 4,zi 1,zi 2,zi 1,zs 5 4,zs 8 2]⟩ 67 (0,0)),none,true,0⟩)
def Tryz.b71:Nat×bg:=(4505,⟨(.cells ⟨[zi 3,zi 4,zi 1,zi 2,zi 1,zs 5 4,zs 8 2]⟩ 67 (0,0)),none,true,0⟩)
def Tryz.b72:Nat×bg:=(4508,⟨(.cells ⟨[zi 2]⟩ 3 (0,0)),none,true,0⟩)
def Tryz.b73:Nat×bg:=(4509,⟨(.cells ⟨[zi 2]⟩ 3 (0,0)),none,true,0⟩)
def Tryz.b74:Nat×bg:=(4520,⟨(.cells ⟨[zi 0]⟩ 3 (0,0)),(some 4520),true,1⟩)
def Tryz.b75:Nat×bg:=(4526,⟨(.cells ⟨[zi 1]⟩ 3 (0,0)),(some 4526),true,1⟩)
def Tryz.b76:Nat×bg:=(4534,⟨(.cells ⟨[zi 0,zi 1]⟩ 3 (0,0)),(some 4534),true,1⟩)
def Tryz.b77:Nat×bg:=(4536,⟨(.cells ⟨[.slice none 0 0,zs 4520 1,zs 4526 1,zs 4534 2]⟩ 29 (0,0)),(some 4516),true,1⟩)
def Tryz.ZR:Nat×bg:=(4563,⟨(.cells ⟨[zi 3,zi 4,zi 1,zi 2,zi 1,zs 5 4,zs 8 2]⟩ 25 (0,0)),none,false,0⟩)
def Tryz.ZT:Nat×bg:=(4613,⟨(.cells ⟨[zi 3,zi 4,zi 1,zi 2,zi 1,zs 5 4,zs 8 2]⟩ 67 (0,0)),none,false,0⟩)
def Tryz.ZU:Nat×bg:=(4619,⟨(.map ⟨[⟨.agg ⟨[zi 0,zi 10]⟩,zi 4,0⟩,⟨.agg ⟨[zi 1,zi 12]⟩,zi 2,1⟩,⟨.agg ⟨[zi 2,zi 14]⟩,zi 4,2⟩,⟨.agg ⟨[zi 3,zi 14]⟩,zi 2,3⟩,⟨.agg ⟨[zi 3,zi 15]⟩,zi 2,4⟩,⟨.agg ⟨[zi 1,zi 13]⟩,zi 2,5⟩]⟩ 6),none,false,0⟩)
def Tryz.ZV:Nat×bg:=(4919,⟨(.cells ⟨[zi 4,.map (some 4619)]⟩ 93 (0,0)),none,false,0⟩)
def Tryz.b82:Nat×bg:=(4930,⟨(.cells ⟨[zi 10]⟩ 3 (0,0)),(some 4930),false,1⟩)
def Tryz.b83:Nat×bg:=(4944,⟨(.cells ⟨[zi 12,zi 13]⟩ 3 (0,0)),(some 4944),false,1⟩)
def Tryz.b84:Nat×bg:=(4957,⟨(.cells ⟨[zi 14]⟩ 3 (0,0)),(some 4957),false,1⟩)
noncomputable def Tryz.st0:AS:=⟨aF.enter Tryz.prog 5 #[],[],h0⟩
noncomputable def Tryz.st1:AS:=⟨⟨43,⟨[aS,zp 748 0,zp 749 0,zt,zt,zt,zt]⟩,[.code (at_ 43 [1])],[],false,none,false⟩,
 [⟨13,⟨[aS,zp 697 0,zi 0,zi 0,zp 747 0,zi 0,uC,aS,uC,aS,zi 0,zi 0,.bool false,zt,aS,zt,zt]⟩,[.region (aC 13 [1,1,1,0]) [1,2,3,4],.code .ret],[],false,none,false⟩,
  ⟨5,⟨[.bool false,zp 9 0,zo 72 0 3 6,zi 0,.bool true,zi 0,.bool false,zi 0]++zr 18++[aS,BH,aS,zs 10 4,BH,zo 72 0 3 6,zi 0,BJ,aS,zs 83 4,zs 84 1,BJ,.bool true,zi 0,BI,aS,zs 322 4,BI,.bool false,zi 0,zt,aS]++zr 257⟩,[.region (aC 5 [1,1,1,1,1,0]) [1,2,3,4,5,6],.code (at_ 5 [1,1,1,1,1,1])],[],false,none,false⟩],
 ⟨750,iV [Tryz.b0,
  Tryz.b1,
  Tryz.b2,
  Tryz.b3,
  Tryz.b4,
  Tryz.b5,
  Tryz.b6,
  Tryz.b7,
  (697,⟨(.cells Tryz.v0 25 (0,0)),none,false,0⟩),
  (747,⟨(.cells Tryz.v0 67 (0,0)),none,false,0⟩),
  (748,⟨(.cells Tryz.v0 67 (0,0)),none,false,0⟩),
  (749,⟨(.cells ⟨[zi 0,.map none]⟩ 93 (0,0)),none,false,0⟩)],jd []⟩⟩
noncomputable def Tryz.st2:AS:=⟨⟨83,⟨[Qq,zi 1,zp 1414 0,zt,.slice none 0 0,.slice none 0 0,zt,zp 1414 1,.map (some 1114),zp 1415 0]++zr 16⟩,[.region (aC 83 [1,1,0,1,0,0,0]) [0,1],.code (at_ 83 [1,1,0,1,0,0,1]),.inLoop (at_ 83 [1,1,0,1,0,0]),.inBlock 0,.code (at_ 83 [1,1,1])],[],false,none,false⟩,
 [⟨47,⟨[Qq,zi 1,zp 1413 0,zt,.slice none 0 0,zi 0,zp 1413 0,zi 4,.bool false,Qq,zi 1,zt]⟩,[.region (aC 47 [1,1,0]) [2,3,4],.code .ret],[],false,none,false⟩,
  ⟨14,Tryz.v1,[.region (aC 14 [1,1,1,0]) [3,4,5,6,7],.code .ret],[],false,none,false⟩,
  ⟨5,Tryz.v2,[.region (aC 5 [1,1,1,1,1,1,0]) [1,2,3,4,5,6],.code (at_ 5 [1,1,1,1,1,1,1])],[],false,none,false⟩],
 ⟨1416,iV [Tryz.b0,
  Tryz.b1,
  Tryz.b2,
  Tryz.b3,
  Tryz.b4,
  Tryz.b5,
  Tryz.b6,
  Tryz.b7,
  Tryz.b8,
  Tryz.b9,
  Tryz.b10,
  Tryz.b11,
  Tryz.b12,
  (1414,⟨(.cells ⟨[zi 4,.map (some 1114)]⟩ 93 (0,0)),none,false,0⟩),
  (1415,⟨(.mapIter (some 1114) 6 ⟨[]⟩ 6),none,false,0⟩)],jd []⟩⟩
noncomputable def Tryz.Qv:AS:=⟨⟨47,⟨[Qq,zi 1,zp 1413 0,zt,.slice none 0 0,zi 0,zp 1413 0,zi 4,.bool false,Qq,zi 1,zs 1426 2]⟩,[.region (aC 47 [1,1,0]) [3,4],.code .ret],[],false,none,false⟩,
 [⟨14,Tryz.v1,[.region (aC 14 [1,1,1,0]) [3,4,5,6,7],.code .ret],[],false,none,false⟩,
  ⟨5,Tryz.v2,[.region (aC 5 [1,1,1,1,1,1,0]) [1,2,3,4,5,6],.code (at_ 5 [1,1,1,1,1,1,1])],[],false,none,false⟩],
 ⟨1427,iV [Tryz.b13,
  Tryz.b0,
  Tryz.b1,
  Tryz.b2,
  Tryz.b3,
  Tryz.b4,
  Tryz.b5,
  Tryz.b6,
  Tryz.b7,
  Tryz.b8,
  Tryz.b9,
  Tryz.b10,
  Tryz.b11,
  Tryz.b12],jd [(1426,[1426])]⟩⟩
noncomputable def Tryz.KU:AS:=⟨⟨83,⟨[Qp,zi 0,zp 1793 0,zt,.slice none 0 0,.slice none 0 0,zt,zp 1793 1,.map (some 1489),zp 1794 0]++zr 16⟩,[.region (aC 83 [1,1,0,1,0,0,0]) [0,1],.code (at_ 83 [1,1,0,1,0,0,1]),.inLoop (at_ 83 [1,1,0,1,0,0]),.inBlock 0,.code (at_ 83 [1,1,1])],[],false,none,false⟩,
 [⟨47,⟨[Qp,zi 0,zp 1792 0,zt,.slice none 0 0,zi 0,zp 1792 0,zi 4,.bool false,Qp,zi 0,zt]⟩,[.region (aC 47 [1,1,0]) [2,3,4],.code .ret],[],false,none,false⟩,
  ⟨15,Tryz.v3,[.region (aC 15 [1,1,1,0]) [3,4,5,6,7],.code .ret],[],false,none,false⟩,
  ⟨5,Tryz.v4,[.region (aC 5 [1,1,1,1,1,1,1,0]) [1,2,3,4,5,6],.code (at_ 5 [1,1,1,1,1,1,1,1])],[],false,none,false⟩],
 ⟨1795,iV [Tryz.b0,
  Tryz.b1,
  Tryz.b2,
  Tryz.b3,
  Tryz.b4,
  Tryz.b5,
  Tryz.b6,
  Tryz.b7,
  Tryz.b13,
  Tryz.b14,
  Tryz.b15,
  Tryz.b16,
  Tryz.b17,
  Tryz.b18,
  (1793,⟨(.cells ⟨[zi 4,.map (some 1489)]⟩ 93 (0,0)),none,false,0⟩),
  (1794,⟨(.mapIter (some 1489) 6 ⟨[]⟩ 6),none,false,0⟩)],jd [(1426,[1426])]⟩⟩
noncomputable def Tryz.Qw:AS:=⟨⟨47,⟨[Qp,zi 0,zp 1792 0,zt,.slice none 0 0,zi 0,zp 1792 0,zi 4,.bool false,Qp,zi 0,zs 1805 2]⟩,[.region (aC 47 [1,1,0]) [3,4],.code .ret],[],false,none,false⟩,
 [⟨15,Tryz.v3,[.region (aC 15 [1,1,1,0]) [3,4,5,6,7],.code .ret],[],false,none,false⟩,
  ⟨5,Tryz.v4,[.region (aC 5 [1,1,1,1,1,1,1,0]) [1,2,3,4,5,6],.code (at_ 5 [1,1,1,1,1,1,1,1])],[],false,none,false⟩],
 ⟨1806,iV [Tryz.b19,
  Tryz.b0,
  Tryz.b1,
  Tryz.b2,
  Tryz.b3,
  Tryz.b4,
  Tryz.b5,
  Tryz.b6,
  Tryz.b7,
  Tryz.b13,
  Tryz.b14,
  Tryz.b15,
  Tryz.b16,
  Tryz.b17,
  Tryz.b18],jd [(1805,[1805]),(1426,[1426])]⟩⟩
noncomputable def Tryz.st6:AS:=⟨⟨19,⟨[aS,zi 0,zi 1,zp 2522 0,zt,zt,zi 0,zi 0,zp 2581 0,zi 0,.tuple ⟨[abd,zi 0]⟩,aS,zi 0,zi 1,.tuple ⟨[abd,zi 0]⟩,abd,zi 0,zi 0,.bool false]++zr 9⟩,[.code (at_ 19 [1,1,1,0]),.code .ret],[],false,none,false⟩,
 [⟨5,⟨[.bool false,zp 9 0,zo 72 0 3 6,zi 0,.bool true,zi 0,.bool false,zi 0,zi 4,zi 0,zs 1426 2,zi 0,zs 1805 2,zi 0,zi 1,zi 0,zi 0,zi 0]++zr 8++[aS,BH,aS,zs 10 4,BH,zo 72 0 3 6,zi 0,BJ,aS,zs 83 4,zs 84 1,BJ,.bool true,zi 0,BI,aS,zs 322 4,BI,.bool false,zi 0,oN,aS,oN,zi 4,zi 0,JF,aS,JF,zs 1426 2,zi 0,OE,aS,OE,zs 1805 2,zi 0,uO,aS,uO,zi 1,zi 0,xg,aS,xg,zi 0,zi 0,zi 0,.bool false,.bool false,zi 0,.bool false,.bool false,.bool false,zi 0,.bool false,.bool false,.bool false,zi 0,.bool false,.bool false,.bool false,zi 0,.bool false,.bool false,.bool false,zi 0,.bool false,.bool false,.bool false,zi 0,.bool false,.bool false,.bool false,zi 0,.bool false,.bool false,.bool false,.bool true,.bool false,.bool false,.bool false,.bool false,.bool false,.bool false,zi 4,.bool false,.bool false,.bool false,zi 1,.bool false,.bool false,.bool false,zi 0,.bool false,.bool false,.bool false,zo 72 0 3 6,zs 2519 3,.bool true,.bool false,.bool false,.bool false,zs 1426 2,zs 2520 2,.bool true,.bool false,.bool false,.bool false,zs 1805 2,zs 2521 2,.bool true,.bool false,.bool false,zt,aS]++zr 165⟩,[.region (aC 5 [1,1,1,1,1,1,1,1,1,1,1,0]) [1,2,3,4,5,6],.code (at_ 5 [1,1,1,1,1,1,1,1,1,1,1,1])],[],false,none,false⟩],
 ⟨2582,iV [Tryz.b0,
  Tryz.b1,
  Tryz.b2,
  Tryz.b3,
  Tryz.b4,
  Tryz.b5,
  Tryz.b6,
  Tryz.b7,
  Tryz.b13,
  Tryz.b19,
  Tryz.b20,
  Tryz.JG,
  Tryz.b22,
  (2522,⟨(.cells Tryz.v0 25 (0,0)),none,false,0⟩),
  (2581,⟨(.cells ⟨[zi 3,zi 4,zi 1,zi 2,zi 1,zs 5 4,zs 8 2,zi 0,zi 1]⟩ 101 (0,0)),none,false,0⟩)],jd [(1426,[1426]),(1805,[1805])]⟩⟩
noncomputable def Tryz.st7:AS:=⟨⟨20,⟨[aS,zp 3276 0,.slice none 0 0,zi 0,zp 3326 0,zi 0,uC,aS,uC,aS,zi 0,zi 0,.bool false,zt,zt,zt,zt,zt]⟩,[.code (at_ 20 [1,1,1])],[],false,none,false⟩,
 [⟨5,⟨[.bool false,zp 9 0,zo 72 0 3 6,zi 0,.bool true,zi 0,.bool false,zi 0,zi 4,zi 0,zs 1426 2,zi 0,zs 1805 2,zi 0,zi 1,zi 0,zi 0,zi 0]++zr 8++[aS,BH,aS,zs 10 4,BH,zo 72 0 3 6,zi 0,BJ,aS,zs 83 4,zs 84 1,BJ,.bool true,zi 0,BI,aS,zs 322 4,BI,.bool false,zi 0,oN,aS,oN,zi 4,zi 0,JF,aS,JF,zs 1426 2,zi 0,OE,aS,OE,zs 1805 2,zi 0,uO,aS,uO,zi 1,zi 0,xg,aS,xg,zi 0,zi 0,zi 0,.bool false,.bool false,zi 0,.bool false,.bool false,.bool false,zi 0,.bool false,.bool false,.bool false,zi 0,.bool false,.bool false,.bool false,zi 0,.bool false,.bool false,.bool false,zi 0,.bool false,.bool false,.bool false,zi 0,.bool false,.bool false,.bool false,zi 0,.bool false,.bool false,.bool false,.bool true,.bool false,.bool false,.bool false,.bool false,.bool false,.bool false,zi 4,.bool false,.bool false,.bool false,zi 1,.bool false,.bool false,.bool false,zi 0,.bool false,.bool false,.bool false,zo 72 0 3 6,zs 2519 3,.bool true,.bool false,.bool false,.bool false,zs 1426 2,zs 2520 2,.bool true,.bool false,.bool false,.bool false,zs 1805 2,zs 2521 2,.bool true,.bool false,.bool false,uO,aS,uO,zi 1,zi 0,xg,aS,xg,zi 0,zi 0,zt,aS]++zr 155⟩,[.region (aC 5 [1,1,1,1,1,1,1,1,1,1,1,1,1,0]) [1,2,3,4,5,6],.code (at_ 5 [1,1,1,1,1,1,1,1,1,1,1,1,1,1])],[],false,none,false⟩],
 ⟨3327,iV [Tryz.b0,
  Tryz.b1,
  Tryz.b2,
  Tryz.b3,
  Tryz.b4,
  Tryz.b5,
  Tryz.b6,
  Tryz.b7,
  Tryz.b13,
  Tryz.b19,
  Tryz.b20,
  Tryz.JG,
  Tryz.b22,
  (3276,⟨(.cells Tryz.v0 25 (0,0)),none,false,0⟩),
  (3326,⟨(.cells Tryz.v0 67 (0,0)),none,false,0⟩)],jd [(1426,[1426]),(1805,[1805])]⟩⟩
noncomputable def Tryz.st8:AS:=⟨⟨21,⟨[aS,zi 0,zi 3,zp 3941 0,zt,zt,zp 3942 0,zi 0,zp 4001 0,zi 0,.tuple ⟨[abb,zi 0]⟩,aS,zi 0,zi 3,.tuple ⟨[abb,zi 0]⟩,abb,zi 0,zi 0,.bool false]++zr 10⟩,[.code (at_ 21 [1,1,1,0]),.code .ret],[],false,none,false⟩,
 [⟨5,⟨[.bool false,zp 9 0,zo 72 0 3 6,zi 0,.bool true,zi 0,.bool false,zi 0,zi 4,zi 0,zs 1426 2,zi 0,zs 1805 2,zi 0,zi 1,zi 0,zi 0,zi 0,zs 3940 2,zt,zt,zt,zt,zt,zt,zt,aS,BH,aS,zs 10 4,BH,zo 72 0 3 6,zi 0,BJ,aS,zs 83 4,zs 84 1,BJ,.bool true,zi 0,BI,aS,zs 322 4,BI,.bool false,zi 0,oN,aS,oN,zi 4,zi 0,JF,aS,JF,zs 1426 2,zi 0,OE,aS,OE,zs 1805 2,zi 0,uO,aS,uO,zi 1,zi 0,xg,aS,xg,zi 0,zi 0,zi 0,.bool false,.bool false,zi 0,.bool false,.bool false,.bool false,zi 0,.bool false,.bool false,.bool false,zi 0,.bool false,.bool false,.bool false,zi 0,.bool false,.bool false,.bool false,zi 0,.bool false,.bool false,.bool false,zi 0,.bool false,.bool false,.bool false,zi 0,.bool false,.bool false,.bool false,.bool true,.bool false,.bool false,.bool false,.bool false,.bool false,.bool false,zi 4,.bool false,.bool false,.bool false,zi 1,.bool false,.bool false,.bool false,zi 0,.bool false,.bool false,.bool false,zo 72 0 3 6,zs 2519 3,.bool true,.bool false,.bool false,.bool false,zs 1426 2,zs 2520 2,.bool true,.bool false,.bool false,.bool false,zs 1805 2,zs 2521 2,.bool true,.bool false,.bool false,uO,aS,uO,zi 1,zi 0,xg,aS,xg,zi 0,zi 0,Ak,aS,Ak,zs 3940 2,zi 0,zt,aS]++zr 150⟩,[.region (aC 5 [1,1,1,1,1,1,1,1,1,1,1,1,1,1,0]) [1,2,3,4,5,6,7],.code (at_ 5 [1,1,1,1,1,1,1,1,1,1,1,1,1,1,1])],[],false,none,false⟩],
 ⟨4002,iV [Tryz.b0,
  Tryz.b1,
  Tryz.b2,
  Tryz.b3,
  Tryz.b4,
  Tryz.b5,
  Tryz.b6,
  Tryz.b7,
  Tryz.b13,
  Tryz.b19,
  Tryz.b20,
  Tryz.JG,
  Tryz.b22,
  Tryz.OG,
  (3941,⟨(.cells Tryz.v0 25 (0,0)),none,false,0⟩),
  (3942,⟨(.cells ⟨[zi 0,zi 0]⟩ 50 (0,0)),none,false,0⟩),
  (4001,⟨(.cells ⟨[zi 3,zi 4,zi 1,zi 2,zi 1,zs 5 4,zs 8 2,zi 0,zi 3]⟩ 101 (0,0)),none,false,0⟩)],jd [(1426,[1426]),(1805,[1805]),(3778,[3940])]⟩⟩
noncomputable def Tryz.st9:AS:=⟨⟨94,⟨[zs 4419 4,.func (.func 58) ⟨[aS]⟩ ⟨[]⟩,zt,zp 4422 0,.slice none 0 0,zt,zt,zt,zt,zt,zt,zs 4419 4,zi 4]++zr 26⟩,[.region (aC 94 [1,0]) [2,3,4],.code (at_ 94 [1,1])],[],false,none,false⟩,
 [⟨57,Tryz.v5,[.region (aC 57 [1,1,0]) [2,3,4,5,6,7,8,9,10,11],.code (at_ 57 [1,1,1])],[],false,none,false⟩,
  ⟨22,Tryz.v6,[.region (aC 22 [1,1,1,0]) [3,4,5],.code .ret],[],false,none,false⟩,
  ⟨5,Tryz.v7,[.region (aC 5 [1,1,1,1,1,1,1,1,1,1,1,1,1,1,1,0]) [1,2,3,4,5,6],.code (at_ 5 [1,1,1,1,1,1,1,1,1,1,1,1,1,1,1,1])],[],false,none,false⟩],
 ⟨4423,iV [Tryz.b0,
  Tryz.b1,
  Tryz.b2,
  Tryz.b3,
  Tryz.b4,
  Tryz.b5,
  Tryz.b6,
  Tryz.b7,
  Tryz.b13,
  Tryz.b19,
  Tryz.b20,
  Tryz.JG,
  Tryz.b22,
  Tryz.OG,
  Tryz.Qs,
  Tryz.b25,
  Tryz.b26,
  Tryz.b27,
  Tryz.b28,
  Tryz.b29,
  Tryz.Qu,
  Tryz.b31,
  Tryz.b32,
  Tryz.b33,
  Tryz.b34],jd [(1426,[1426]),(1805,[1805]),(3778,[3940]),(4403,[4403]),(4409,[4409]),(4417,[4417]),(4399,[4419])]⟩⟩
noncomputable def Tryz.Uc:AS:=⟨⟨94,⟨[zs 4419 4,.func (.func 58) ⟨[aS]⟩ ⟨[]⟩,zt,zp 4422 0,.slice none 0 0,zp 4424 0,zp 4425 0,zt,zt,zt,zt,zs 4419 4,zi 4,.chan (some 4423)]++zr 25⟩,[.region (aC 94 [1,1,0]) [],.code (at_ 94 [1,1,1])],[],false,none,false⟩,
 [⟨57,Tryz.v5,[.region (aC 57 [1,1,0]) [2,3,4,5,6,7,8,9,10,11],.code (at_ 57 [1,1,1])],[],false,none,false⟩,
  ⟨22,Tryz.v6,[.region (aC 22 [1,1,1,0]) [3,4,5],.code .ret],[],false,none,false⟩,
  ⟨5,Tryz.v7,[.region (aC 5 [1,1,1,1,1,1,1,1,1,1,1,1,1,1,1,0]) [1,2,3,4,5,6],.code (at_ 5 [1,1,1,1,1,1,1,1,1,1,1,1,1,1,1,1])],[],false,none,false⟩],
 ⟨4426,iV [Tryz.b0,
  Tryz.b1,
  Tryz.b2,
  Tryz.b3,
  Tryz.b4,
  Tryz.b5,
  Tryz.b6,
  Tryz.b7,
  Tryz.b13,
  Tryz.b19,
  Tryz.b20,
  Tryz.JG,
  Tryz.b22,
  Tryz.OG,
  Tryz.Qs,
  Tryz.b25,
  Tryz.b26,
  Tryz.b27,
  Tryz.b28,
  Tryz.b29,
  Tryz.Qu,
  Tryz.b31,
  Tryz.b32,
  Tryz.b33,
  Tryz.b34,
  (4424,⟨(.cells ⟨[.chan (some 4423)]⟩ 171 (0,0)),none,false,0⟩)],jd [(1426,[1426]),(1805,[1805]),(3778,[3940]),(4403,[4403]),(4409,[4409]),(4417,[4417]),(4399,[4419])]⟩⟩
noncomputable def Tryz.BK:AS×AS:=(dO Tryz.prog plan Tryz.link 4425 31 3 Tryz.Uc).getD (Tryz.Uc,Tryz.Uc)
noncomputable def Tryz.BL:AS×AS:=(dO Tryz.prog plan Tryz.link 4425 28 3 Tryz.BK.2).getD (Tryz.BK.2,Tryz.BK.2)
noncomputable def Tryz.BM:AS×AS:=(dO Tryz.prog plan Tryz.link 4425 28 3 Tryz.BL.2).getD (Tryz.BL.2,Tryz.BL.2)
noncomputable def Tryz.Ud:AS×AS:=(dO Tryz.prog plan Tryz.link 4425 28 3 Tryz.BM.2).getD (Tryz.BM.2,Tryz.BM.2)
noncomputable def Tryz.ada:AS:=⟨⟨94,⟨[zs 4419 4,.func (.func 58) ⟨[aS]⟩ ⟨[]⟩,zt,zp 4422 0,.slice none 0 0,zp 4424 0,zp 4425 0,zp 4432 0,zp 4433 0,zt,zt,zs 4419 4,zi 4,.chan (some 4423),zs 4419 4,zi 4,zi 4,.bool false,zi 3,zp 4419 3,zs 4417 2,zt,.func (.func 131) ⟨[]⟩ ⟨[zp 4425 0,zp 4422 0,zp 4433 0,zp 4424 0,zp 4432 0]⟩,zi 4]++zr 15⟩,[.region (aC 94 [1,1,1,1,0]) [],.code (at_ 94 [1,1,1,1,1])],[],false,none,false⟩,
 [⟨57,Tryz.v5,[.region (aC 57 [1,1,0]) [2,3,4,5,6,7,8,9,10,11],.code (at_ 57 [1,1,1])],[],false,none,false⟩,
  ⟨22,Tryz.v6,[.region (aC 22 [1,1,1,0]) [3,4,5],.code .ret],[],false,none,false⟩,
  ⟨5,Tryz.v7,[.region (aC 5 [1,1,1,1,1,1,1,1,1,1,1,1,1,1,1,0]) [1,2,3,4,5,6],.code (at_ 5 [1,1,1,1,1,1,1,1,1,1,1,1,1,1,1,1])],[],false,none,false⟩],
 ⟨4434,iV [Tryz.b35,
  Tryz.b36,
  Tryz.b37,
  Tryz.b38,
  Tryz.b39,
  Tryz.b40,
  Tryz.b41,
  Tryz.b42,
  Tryz.b43,
  Tryz.b44,
  Tryz.b45,
  Tryz.b46,
  Tryz.b47,
  Tryz.b48,
  Tryz.b49,
  Tryz.b50,
  Tryz.b51,
  Tryz.b52,
  Tryz.b53,
  Tryz.b54,
  Tryz.b55,
  Tryz.b56,
  Tryz.b57,
  Tryz.b58,
  (4422,⟨(.cells ⟨[.func (.func 58) ⟨[aS]⟩ ⟨[]⟩]⟩ 108 (0,0)),none,true,0⟩),
  (4424,⟨(.cells ⟨[.chan (some 4423)]⟩ 171 (0,0)),none,true,0⟩),
  (4432,⟨(.cells ⟨[zi 3]⟩ 3 (0,0)),none,true,0⟩),
  (4433,⟨(.cells ⟨[zs 4417 2]⟩ 29 (0,0)),none,true,0⟩)],jd [(1426,[1426]),(1805,[1805]),(3778,[3940]),(4403,[4403]),(4409,[4409]),(4417,[4417]),(4399,[4419])]⟩⟩
noncomputable def Tryz.Ue:AS:=⟨⟨57,⟨[aS,.func (.func 58) ⟨[aS]⟩ ⟨[]⟩,zp 4388 0,zt,.slice none 0 0,zs 4419 4,zt,zt,zp 4388 0,aS,zi 2,zp 4388 0,aS,zi 2,.func (.func 105) ⟨[]⟩ ⟨[zp 4391 0,zp 4392 0]⟩,zs 4419 4,zt,zs 4419 4,.func (.func 58) ⟨[aS]⟩ ⟨[]⟩,zs 4445 3,zt,zt,zt,zt,zt,zt,zt]⟩,[.region (aC 57 [1,1,0]) [3,4,5,6,7,8,9,10,11],.code (at_ 57 [1,1,1])],[],false,none,false⟩,
 [⟨22,Tryz.v6,[.region (aC 22 [1,1,1,0]) [3,4,5],.code .ret],[],false,none,false⟩,
  ⟨5,Tryz.v7,[.region (aC 5 [1,1,1,1,1,1,1,1,1,1,1,1,1,1,1,0]) [1,2,3,4,5,6],.code (at_ 5 [1,1,1,1,1,1,1,1,1,1,1,1,1,1,1,1])],[],false,none,false⟩],
 ⟨4446,iV [Tryz.b35,
  Tryz.b36,
  Tryz.b37,
  Tryz.b38,
  Tryz.b39,
  Tryz.b40,
  Tryz.b41,
  Tryz.b42,
  Tryz.b43,
  Tryz.b44,
  Tryz.b45,
  Tryz.b46,
  Tryz.b47,
  Tryz.b48,
  Tryz.b49,
  Tryz.b50,
  Tryz.b51,
  Tryz.b52,
  Tryz.b53,
  Tryz.b54,
  Tryz.b55,
  Tryz.b56,
  Tryz.b57,
  Tryz.b58,
  (4445,⟨(.cells ⟨[zs 4403 1,zs 4409 1,zs 4417 2]⟩ 29 (0,0)),(some 4441),false,1⟩)],jd [(1426,[1426]),(1805,[1805]),(3778,[3940]),(4403,[4403]),(4409,[4409]),(4417,[4417]),(4399,[4419]),(4441,[4445])]⟩⟩
noncomputable def Tryz.adb:AS:=⟨Tryz.Ue.fr,Tryz.Ue.cs,Tryz.Ue.h.gY⟩
noncomputable def Tryz.ade:AS:=⟨⟨94,⟨[zs 4536 4,.func (.func 59) ⟨[aS]⟩ ⟨[]⟩,zt,zp 4539 0,.slice none 0 0,zt,zt,zt,zt,zt,zt,zs 4536 4,zi 4]++zr 26⟩,[.region (aC 94 [1,0]) [2,3,4],.code (at_ 94 [1,1])],[],false,none,false⟩,
 [⟨57,Tryz.v8,[.region (aC 57 [1,1,0]) [2,3,4,5,6,7,8,9,10,11],.code (at_ 57 [1,1,1])],[],false,none,false⟩,
  ⟨23,Tryz.v9,[.region (aC 23 [1,1,1,0]) [3,4,5],.code .ret],[],false,none,false⟩,
  ⟨5,Tryz.v10,[.region (aC 5 [1,1,1,1,1,1,1,1,1,1,1,1,1,1,1,1,0]) [1,2,3,4,5,6],.code (at_ 5 [1,1,1,1,1,1,1,1,1,1,1,1,1,1,1,1,1])],[],false,none,false⟩],
 ⟨4540,iV [Tryz.b0,
  Tryz.b1,
  Tryz.b2,
  Tryz.b3,
  Tryz.b4,
  Tryz.b5,
  Tryz.b6,
  Tryz.b7,
  Tryz.b13,
  Tryz.b19,
  Tryz.b20,
  Tryz.JG,
  Tryz.b22,
  Tryz.OG,
  Tryz.Qs,
  Tryz.Qu,
  Tryz.b59,
  Tryz.b60,
  Tryz.b61,
  Tryz.b62,
  Tryz.b63,
  Tryz.b64,
  Tryz.b65,
  Tryz.Ub,
  Tryz.b67,
  Tryz.b68],jd [(1426,[1426]),(1805,[1805]),(3778,[3940]),(4403,[4403]),(4520,[4520]),(4526,[4526]),(4534,[4534]),(4516,[4536])]⟩⟩
noncomputable def Tryz.Uf:AS:=⟨⟨94,⟨[zs 4536 4,.func (.func 59) ⟨[aS]⟩ ⟨[]⟩,zt,zp 4539 0,.slice none 0 0,zp 4541 0,zp 4542 0,zt,zt,zt,zt,zs 4536 4,zi 4,.chan (some 4540)]++zr 25⟩,[.region (aC 94 [1,1,0]) [],.code (at_ 94 [1,1,1])],[],false,none,false⟩,
 [⟨57,Tryz.v8,[.region (aC 57 [1,1,0]) [2,3,4,5,6,7,8,9,10,11],.code (at_ 57 [1,1,1])],[],false,none,false⟩,
  ⟨23,Tryz.v9,[.region (aC 23 [1,1,1,0]) [3,4,5],.code .ret],[],false,none,false⟩,
  ⟨5,Tryz.v10,[.region (aC 5 [1,1,1,1,1,1,1,1,1,1,1,1,1,1,1,1,0]) [1,2,3,4,5,6],.code (at_ 5 [1,1,1,1,1,1,1,1,1,1,1,1,1,1,1,1,1])],[],false,none,false⟩],
 ⟨4543,iV [Tryz.b0,
  Tryz.b1,
  Tryz.b2,
  Tryz.b3,
  Tryz.b4,
  Tryz.b5,
  Tryz.b6,
  Tryz.b7,
  Tryz.b13,
  Tryz.b19,
  Tryz.b20,
  Tryz.JG,
  Tryz.b22,
  Tryz.OG,
  Tryz.Qs,
  Tryz.Qu,
  Tryz.b59,
  Tryz.b60,
  Tryz.b61,
  Tryz.b62,
  Tryz.b63,
  Tryz.b64,
  Tryz.b65,
  Tryz.Ub,
  Tryz.b67,
  Tryz.b68,
  (4541,⟨(.cells ⟨[.chan (some 4540)]⟩ 171 (0,0)),none,false,0⟩)],jd [(1426,[1426]),(1805,[1805]),(3778,[3940]),(4403,[4403]),(4520,[4520]),(4526,[4526]),(4534,[4534]),(4516,[4536])]⟩⟩
noncomputable def Tryz.BN:AS×AS:=(dO Tryz.prog plan Tryz.link 4542 31 3 Tryz.Uf).getD (Tryz.Uf,Tryz.Uf)
noncomputable def Tryz.BO:AS×AS:=(dO Tryz.prog plan Tryz.link 4542 28 3 Tryz.BN.2).getD (Tryz.BN.2,Tryz.BN.2)
noncomputable def Tryz.BP:AS×AS:=(dO Tryz.prog plan Tryz.link 4542 28 3 Tryz.BO.2).getD (Tryz.BO.2,Tryz.BO.2)
noncomputable def Tryz.Ug:AS×AS:=(dO Tryz.prog plan Tryz.link 4542 28 3 Tryz.BP.2).getD (Tryz.BP.2,Tryz.BP.2)
noncomputable def Tryz.adf:AS:=⟨⟨94,⟨[zs 4536 4,.func (.func 59) ⟨[aS]⟩ ⟨[]⟩,zt,zp 4539 0,.slice none 0 0,zp 4541 0,zp 4542 0,zp 4549 0,zp 4550 0,zt,zt,zs 4536 4,zi 4,.chan (some 4540),zs 4536 4,zi 4,zi 4,.bool false,zi 3,zp 4536 3,zs 4534 2,zt,.func (.func 131) ⟨[]⟩ ⟨[zp 4542 0,zp 4539 0,zp 4550 0,zp 4541 0,zp 4549 0]⟩,zi 4]++zr 15⟩,[.region (aC 94 [1,1,1,1,0]) [],.code (at_ 94 [1,1,1,1,1])],[],false,none,false⟩,
 [⟨57,Tryz.v8,[.region (aC 57 [1,1,0]) [2,3,4,5,6,7,8,9,10,11],.code (at_ 57 [1,1,1])],[],false,none,false⟩,
  ⟨23,Tryz.v9,[.region (aC 23 [1,1,1,0]) [3,4,5],.code .ret],[],false,none,false⟩,
  ⟨5,Tryz.v10,[.region (aC 5 [1,1,1,1,1,1,1,1,1,1,1,1,1,1,1,1,0]) [1,2,3,4,5,6],.code (at_ 5 [1,1,1,1,1,1,1,1,1,1,1,1,1,1,1,1,1])],[],false,none,false⟩],
 ⟨4551,iV [Tryz.b35,
  Tryz.b36,
  Tryz.b37,
  Tryz.b38,
  Tryz.b39,
  Tryz.b40,
  Tryz.b41,
  Tryz.b42,
  Tryz.b43,
  Tryz.b44,
  Tryz.b45,
  Tryz.b46,
  Tryz.b47,
  Tryz.b48,
  Tryz.b49,
  Tryz.b55,
  Tryz.b69,
  Tryz.b70,
  Tryz.b71,
  Tryz.b72,
  Tryz.b73,
  Tryz.b74,
  Tryz.b75,
  Tryz.b76,
  Tryz.b77,
  (4539,⟨(.cells ⟨[.func (.func 59) ⟨[aS]⟩ ⟨[]⟩]⟩ 108 (0,0)),none,true,0⟩),
  (4541,⟨(.cells ⟨[.chan (some 4540)]⟩ 171 (0,0)),none,true,0⟩),
  (4549,⟨(.cells ⟨[zi 3]⟩ 3 (0,0)),none,true,0⟩),
  (4550,⟨(.cells ⟨[zs 4534 2]⟩ 29 (0,0)),none,true,0⟩)],jd [(1426,[1426]),(1805,[1805]),(3778,[3940]),(4403,[4403]),(4520,[4520]),(4526,[4526]),(4534,[4534]),(4516,[4536])]⟩⟩
noncomputable def Tryz.Uh:AS:=⟨⟨57,⟨[aS,.func (.func 59) ⟨[aS]⟩ ⟨[]⟩,zp 4505 0,zt,.slice none 0 0,zs 4536 4,zt,zt,zp 4505 0,aS,zi 2,zp 4505 0,aS,zi 2,.func (.func 105) ⟨[]⟩ ⟨[zp 4508 0,zp 4509 0]⟩,zs 4536 4,zt,zs 4536 4,.func (.func 59) ⟨[aS]⟩ ⟨[]⟩,zs 4554 1,zt,zt,zt,zt,zt,zt,zt]⟩,[.region (aC 57 [1,1,0]) [3,4,5,6,7,8,9,10,11],.code (at_ 57 [1,1,1])],[],false,none,false⟩,
 [⟨23,Tryz.v9,[.region (aC 23 [1,1,1,0]) [3,4,5],.code .ret],[],false,none,false⟩,
  ⟨5,Tryz.v10,[.region (aC 5 [1,1,1,1,1,1,1,1,1,1,1,1,1,1,1,1,0]) [1,2,3,4,5,6],.code (at_ 5 [1,1,1,1,1,1,1,1,1,1,1,1,1,1,1,1,1])],[],false,none,false⟩],
 ⟨4555,iV [Tryz.b35,
  Tryz.b36,
  Tryz.b37,
  Tryz.b38,
  Tryz.b39,
  Tryz.b40,
  Tryz.b41,
  Tryz.b42,
  Tryz.b43,
  Tryz.b44,
  Tryz.b45,
  Tryz.b46,
  Tryz.b47,
  Tryz.b48,
  Tryz.b49,
  Tryz.b55,
  Tryz.b69,
  Tryz.b70,
  Tryz.b71,
  Tryz.b72,
  Tryz.b73,
  Tryz.b74,
  Tryz.b75,
  Tryz.b76,
  Tryz.b77,
  (4554,⟨(.cells ⟨[zs 4534 2]⟩ 29 (0,0)),(some 4554),false,1⟩)],jd [(1426,[1426]),(1805,[1805]),(3778,[3940]),(4403,[4403]),(4520,[4520]),(4526,[4526]),(4534,[4534]),(4516,[4536]),(4554,[4554])]⟩⟩
noncomputable def Tryz.adg:AS:=⟨Tryz.Uh.fr,Tryz.Uh.cs,Tryz.Uh.h.gY⟩
noncomputable def Tryz.Ji:AS:=⟨⟨83,⟨[vM,zi 0,zp 4920 0,zt,.slice none 0 0,.slice none 0 0,zt,zp 4920 1,.map (some 4619),zp 4921 0]++zr 16⟩,[.region (aC 83 [1,1,0,1,0,0,0]) [0,1],.code (at_ 83 [1,1,0,1,0,0,1]),.inLoop (at_ 83 [1,1,0,1,0,0]),.inBlock 0,.code (at_ 83 [1,1,1])],[],false,none,false⟩,
 [⟨60,⟨[vM,zi 4,zp 4919 0,zt,.int .i64 (.negSucc 0),zi 4,zi 0,zi 0,zi 0,zt,zt,zp 4919 0,zi 4,.bool false,zp 4919 0,zi 4,zi 4,zi 0,.bool true,zi 0,vM,zi 0]++zr 21⟩,[.region (aC 60 [1,0,1,1,1,0,1,0,0,1,1,0,0,1,1,0,0]) [2,3,4],.code (at_ 60 [1,0,1,1,1,0,1,0,0,1,1,0,0,1,1,0,1]),.code (at_ 60 [1,0,1,1,1,0,1,0,0,1,1,0,0,1,1,1]),.inBlock 1,.code (at_ 60 [1,0,1,1,1,0,1,0,0,1,1,1]),.inLoop (at_ 60 [1,0,1,1,1,0,1,0,0]),.inBlock 0,.code (at_ 60 [1,0,1,1,1,1]),.inScope (at_ 60 [1,0])],[],false,none,false⟩,
  ⟨24,Tryz.v11,[.drawn (aC 24 [1,1,1,0]) [(5,[]),(6,[]),(7,[]),(8,[]),(9,[]),(10,[]),(11,[])],.code .ret],[],false,none,false⟩,
  ⟨5,Tryz.v12,[.region (aC 5 [1,1,1,1,1,1,1,1,1,1,1,1,1,1,1,1,1,0]) [1,2,3,4,5,6,7,8],.code (at_ 5 [1,1,1,1,1,1,1,1,1,1,1,1,1,1,1,1,1,1])],[],false,none,false⟩],
 ⟨4922,iV [Tryz.b0,
  Tryz.b1,
  Tryz.b2,
  Tryz.b3,
  Tryz.b4,
  Tryz.b5,
  Tryz.b6,
  Tryz.b7,
  Tryz.b13,
  Tryz.b19,
  Tryz.b20,
  Tryz.JG,
  Tryz.b22,
  Tryz.OG,
  Tryz.Qs,
  Tryz.Qu,
  Tryz.Ub,
  Tryz.ZR,
  Tryz.ZT,
  Tryz.ZU,
  Tryz.ZV,
  (4920,⟨(.cells Tryz.v13 93 (0,0)),none,false,0⟩),
  (4921,⟨(.mapIter (some 4619) 6 ⟨[]⟩ 6),none,false,0⟩)],jd [(1426,[1426]),(1805,[1805]),(3778,[3940]),(4403,[4403]),(4534,[4534])]⟩⟩
noncomputable def Tryz.KW:AS:=⟨⟨60,⟨[vM,zi 4,zp 4919 0,zt,.int .i64 (.negSucc 0),zi 4,zi 0,zi 0,zi 0,zt,zt,zp 4919 0,zi 4,.bool false,zp 4919 0,zi 4,zi 4,zi 0,.bool true,zi 0,vM,zi 0,zs 4930 1]++zr 20⟩,[.region (aC 60 [1,0,1,1,1,0,1,0,0,1,1,0,0,1,1,0,0]) [3,4],.code (at_ 60 [1,0,1,1,1,0,1,0,0,1,1,0,0,1,1,0,1]),.code (at_ 60 [1,0,1,1,1,0,1,0,0,1,1,0,0,1,1,1]),.inBlock 1,.code (at_ 60 [1,0,1,1,1,0,1,0,0,1,1,1]),.inLoop (at_ 60 [1,0,1,1,1,0,1,0,0]),.inBlock 0,.code (at_ 60 [1,0,1,1,1,1]),.inScope (at_ 60 [1,0])],[],false,none,false⟩,
 [⟨24,Tryz.v11,[.drawn (aC 24 [1,1,1,0]) [(5,[]),(6,[]),(7,[]),(8,[]),(9,[]),(10,[]),(11,[])],.code .ret],[],false,none,false⟩,
  ⟨5,Tryz.v12,[.region (aC 5 [1,1,1,1,1,1,1,1,1,1,1,1,1,1,1,1,1,0]) [1,2,3,4,5,6,7,8],.code (at_ 5 [1,1,1,1,1,1,1,1,1,1,1,1,1,1,1,1,1,1])],[],false,none,false⟩],
 ⟨4931,iV [Tryz.b82,
  Tryz.b0,
  Tryz.b1,
  Tryz.b2,
  Tryz.b3,
  Tryz.b4,
  Tryz.b5,
  Tryz.b6,
  Tryz.b7,
  Tryz.b13,
  Tryz.b19,
  Tryz.b20,
  Tryz.JG,
  Tryz.b22,
  Tryz.OG,
  Tryz.Qs,
  Tryz.Qu,
  Tryz.Ub,
  Tryz.ZR,
  Tryz.ZT,
  Tryz.ZU,
  Tryz.ZV],jd [(4930,[4930]),(1426,[1426]),(1805,[1805]),(3778,[3940]),(4403,[4403]),(4534,[4534])]⟩⟩
noncomputable def Tryz.sK:AS:=⟨⟨83,⟨[vM,zi 1,zp 4932 0,zt,.slice none 0 0,.slice none 0 0,zt,zp 4932 1,.map (some 4619),zp 4933 0]++zr 16⟩,[.region (aC 83 [1,1,0,1,0,0,0]) [0,1],.code (at_ 83 [1,1,0,1,0,0,1]),.inLoop (at_ 83 [1,1,0,1,0,0]),.inBlock 0,.code (at_ 83 [1,1,1])],[],false,none,false⟩,
 [⟨60,⟨[vM,zi 4,zp 4919 0,zt,.int .i64 (.negSucc 0),zi 4,zi 0,zi 1,zi 0,zt,zi 10,zp 4919 0,zi 4,.bool false,zp 4919 0,zi 4,zi 4,zi 1,.bool true,zi 1,vM,zi 1,zs 4930 1,zi 1,zi 0,.bool true,zp 4930 0,zi 10,zi 0,vM,zi 0,zi 10,zi 4,zi 4,zi 4,zi 4,.bool true,zt,zt,zt,zi 1,zt,zt]⟩,[.region (aC 60 [1,0,1,1,1,0,1,0,0,1,1,0,0,1,1,0,0]) [2,3,4],.code (at_ 60 [1,0,1,1,1,0,1,0,0,1,1,0,0,1,1,0,1]),.code (at_ 60 [1,0,1,1,1,0,1,0,0,1,1,0,0,1,1,1]),.inBlock 1,.code (at_ 60 [1,0,1,1,1,0,1,0,0,1,1,1]),.inLoop (at_ 60 [1,0,1,1,1,0,1,0,0]),.inBlock 0,.code (at_ 60 [1,0,1,1,1,1]),.inScope (at_ 60 [1,0])],[],false,none,false⟩,
  ⟨24,Tryz.v11,[.drawn (aC 24 [1,1,1,0]) [(5,[]),(6,[]),(7,[]),(8,[]),(9,[]),(10,[]),(11,[])],.code .ret],[],false,none,false⟩,
  ⟨5,Tryz.v12,[.region (aC 5 [1,1,1,1,1,1,1,1,1,1,1,1,1,1,1,1,1,0]) [1,2,3,4,5,6,7,8],.code (at_ 5 [1,1,1,1,1,1,1,1,1,1,1,1,1,1,1,1,1,1])],[],false,none,false⟩],
 ⟨4934,iV [Tryz.b0,
  Tryz.b1,
  Tryz.b2,
  Tryz.b3,
  Tryz.b4,
  Tryz.b5,
  Tryz.b6,
  Tryz.b7,
  Tryz.b13,
  Tryz.b19,
  Tryz.b20,
  Tryz.JG,
  Tryz.b22,
  Tryz.OG,
  Tryz.Qs,
  Tryz.Qu,
  Tryz.Ub,
  Tryz.ZR,
  Tryz.ZT,
  Tryz.ZU,
  Tryz.ZV,
  Tryz.b82,
  (4932,⟨(.cells Tryz.v13 93 (0,0)),none,false,0⟩),
  (4933,⟨(.mapIter (some 4619) 6 ⟨[]⟩ 6),none,false,0⟩)],jd [(1426,[1426]),(1805,[1805]),(3778,[3940]),(4403,[4403]),(4534,[4534]),(4930,[4930])]⟩⟩
noncomputable def Tryz.vN:AS:=⟨⟨60,⟨[vM,zi 4,zp 4919 0,zt,.int .i64 (.negSucc 0),zi 4,zi 0,zi 1,zi 0,zt,zi 10,zp 4919 0,zi 4,.bool false,zp 4919 0,zi 4,zi 4,zi 1,.bool true,zi 1,vM,zi 1,zs 4944 2,zi 1,zi 0,.bool true,zp 4930 0,zi 10,zi 0,vM,zi 0,zi 10,zi 4,zi 4,zi 4,zi 4,.bool true,zt,zt,zt,zi 1,zt,zt]⟩,[.region (aC 60 [1,0,1,1,1,0,1,0,0,1,1,0,0,1,1,0,0]) [3,4],.code (at_ 60 [1,0,1,1,1,0,1,0,0,1,1,0,0,1,1,0,1]),.code (at_ 60 [1,0,1,1,1,0,1,0,0,1,1,0,0,1,1,1]),.inBlock 1,.code (at_ 60 [1,0,1,1,1,0,1,0,0,1,1,1]),.inLoop (at_ 60 [1,0,1,1,1,0,1,0,0]),.inBlock 0,.code (at_ 60 [1,0,1,1,1,1]),.inScope (at_ 60 [1,0])],[],false,none,false⟩,
 [⟨24,Tryz.v11,[.drawn (aC 24 [1,1,1,0]) [(5,[]),(6,[]),(7,[]),(8,[]),(9,[]),(10,[]),(11,[])],.code .ret],[],false,none,false⟩,
  ⟨5,Tryz.v12,[.region (aC 5 [1,1,1,1,1,1,1,1,1,1,1,1,1,1,1,1,1,0]) [1,2,3,4,5,6,7,8],.code (at_ 5 [1,1,1,1,1,1,1,1,1,1,1,1,1,1,1,1,1,1])],[],false,none,false⟩],
 ⟨4945,iV [Tryz.b83,
  Tryz.b0,
  Tryz.b1,
  Tryz.b2,
  Tryz.b3,
  Tryz.b4,
  Tryz.b5,
  Tryz.b6,
  Tryz.b7,
  Tryz.b13,
  Tryz.b19,
  Tryz.b20,
  Tryz.JG,
  Tryz.b22,
  Tryz.OG,
  Tryz.Qs,
  Tryz.Qu,
  Tryz.Ub,
  Tryz.ZR,
  Tryz.ZT,
  Tryz.ZU,
  Tryz.ZV,
  Tryz.b82],jd [(4944,[4944]),(1426,[1426]),(1805,[1805]),(3778,[3940]),(4403,[4403]),(4534,[4534]),(4930,[4930])]⟩⟩
noncomputable def Tryz.sN:AS:=⟨⟨83,⟨[vM,zi 2,zp 4947 0,zt,.slice none 0 0,.slice none 0 0,zt,zp 4947 1,.map (some 4619),zp 4948 0]++zr 16⟩,[.region (aC 83 [1,1,0,1,0,0,0]) [0,1],.code (at_ 83 [1,1,0,1,0,0,1]),.inLoop (at_ 83 [1,1,0,1,0,0]),.inBlock 0,.code (at_ 83 [1,1,1])],[],false,none,false⟩,
 [⟨60,⟨[vM,zi 4,zp 4919 0,zt,zi 1,zi 2,zi 0,zi 2,zi 0,zt,zi 13,zp 4919 0,zi 4,.bool false,zp 4919 0,zi 4,zi 4,zi 2,.bool true,zi 2,vM,zi 2,zs 4944 2,zi 2,zi 2,.bool false,zp 4944 1,zi 13,zi 2,vM,zi 1,zi 13,zi 2,zi 2,zi 2,zi 4,.bool false,zi 2,zi 1,zi 2,zi 2,zt,zt]⟩,[.region (aC 60 [1,0,1,1,1,0,1,0,0,1,1,0,0,1,1,0,0]) [2,3,4],.code (at_ 60 [1,0,1,1,1,0,1,0,0,1,1,0,0,1,1,0,1]),.code (at_ 60 [1,0,1,1,1,0,1,0,0,1,1,0,0,1,1,1]),.inBlock 1,.code (at_ 60 [1,0,1,1,1,0,1,0,0,1,1,1]),.inLoop (at_ 60 [1,0,1,1,1,0,1,0,0]),.inBlock 0,.code (at_ 60 [1,0,1,1,1,1]),.inScope (at_ 60 [1,0])],[],false,none,false⟩,
  ⟨24,Tryz.v11,[.drawn (aC 24 [1,1,1,0]) [(5,[]),(6,[]),(7,[]),(8,[]),(9,[]),(10,[]),(11,[])],.code .ret],[],false,none,false⟩,
  ⟨5,Tryz.v12,[.region (aC 5 [1,1,1,1,1,1,1,1,1,1,1,1,1,1,1,1,1,0]) [1,2,3,4,5,6,7,8],.code (at_ 5 [1,1,1,1,1,1,1,1,1,1,1,1,1,1,1,1,1,1])],[],false,none,false⟩],
 ⟨4949,iV [Tryz.b0,
  Tryz.b1,
  Tryz.b2,
  Tryz.b3,
  Tryz.b4,
  Tryz.b5,
  Tryz.b6,
  Tryz.b7,
  Tryz.b13,
  Tryz.b19,
  Tryz.b20,
  Tryz.JG,
  Tryz.b22,
  Tryz.OG,
  Tryz.Qs,
  Tryz.Qu,
  Tryz.Ub,
  Tryz.ZR,
  Tryz.ZT,
  Tryz.ZU,
  Tryz.ZV,
  Tryz.b83,
  (4947,⟨(.cells Tryz.v13 93 (0,0)),none,false,0⟩),
  (4948,⟨(.mapIter (some 4619) 6 ⟨[]⟩ 6),none,false,0⟩)],jd [(1426,[1426]),(1805,[1805]),(3778,[3940]),(4403,[4403]),(4534,[4534]),(4944,[4944])]⟩⟩
noncomputable def Tryz.vO:AS:=⟨⟨60,⟨[vM,zi 4,zp 4919 0,zt,zi 1,zi 2,zi 0,zi 2,zi 0,zt,zi 13,zp 4919 0,zi 4,.bool false,zp 4919 0,zi 4,zi 4,zi 2,.bool true,zi 2,vM,zi 2,zs 4957 1,zi 2,zi 2,.bool false,zp 4944 1,zi 13,zi 2,vM,zi 1,zi 13,zi 2,zi 2,zi 2,zi 4,.bool false,zi 2,zi 1,zi 2,zi 2,zt,zt]⟩,[.region (aC 60 [1,0,1,1,1,0,1,0,0,1,1,0,0,1,1,0,0]) [3,4],.code (at_ 60 [1,0,1,1,1,0,1,0,0,1,1,0,0,1,1,0,1]),.code (at_ 60 [1,0,1,1,1,0,1,0,0,1,1,0,0,1,1,1]),.inBlock 1,.code (at_ 60 [1,0,1,1,1,0,1,0,0,1,1,1]),.inLoop (at_ 60 [1,0,1,1,1,0,1,0,0]),.inBlock 0,.code (at_ 60 [1,0,1,1,1,1]),.inScope (at_ 60 [1,0])],[],false,none,false⟩,
 [⟨24,Tryz.v11,[.drawn (aC 24 [1,1,1,0]) [(5,[]),(6,[]),(7,[]),(8,[]),(9,[]),(10,[]),(11,[])],.code .ret],[],false,none,false⟩,
  ⟨5,Tryz.v12,[.region (aC 5 [1,1,1,1,1,1,1,1,1,1,1,1,1,1,1,1,1,0]) [1,2,3,4,5,6,7,8],.code (at_ 5 [1,1,1,1,1,1,1,1,1,1,1,1,1,1,1,1,1,1])],[],false,none,false⟩],
 ⟨4958,iV [Tryz.b84,
  Tryz.b0,
  Tryz.b1,
  Tryz.b2,
  Tryz.b3,
  Tryz.b4,
  Tryz.b5,
  Tryz.b6,
  Tryz.b7,
  Tryz.b13,
  Tryz.b19,
  Tryz.b20,
  Tryz.JG,
  Tryz.b22,
  Tryz.OG,
  Tryz.Qs,
  Tryz.Qu,
  Tryz.Ub,
  Tryz.ZR,
  Tryz.ZT,
  Tryz.ZU,
  Tryz.ZV,
  Tryz.b83],jd [(4957,[4957]),(1426,[1426]),(1805,[1805]),(3778,[3940]),(4403,[4403]),(4534,[4534]),(4944,[4944])]⟩⟩
noncomputable def Tryz.sO:AS:=⟨⟨83,⟨[vM,zi 3,zp 4959 0,zt,.slice none 0 0,.slice none 0 0,zt,zp 4959 1,.map (some 4619),zp 4960 0]++zr 16⟩,[.region (aC 83 [1,1,0,1,0,0,0]) [0,1],.code (at_ 83 [1,1,0,1,0,0,1]),.inLoop (at_ 83 [1,1,0,1,0,0]),.inBlock 0,.code (at_ 83 [1,1,1])],[],false,none,false⟩,
 [⟨60,⟨[vM,zi 4,zp 4919 0,zt,zi 1,zi 2,zi 0,zi 3,zi 0,zt,zi 14,zp 4919 0,zi 4,.bool false,zp 4919 0,zi 4,zi 4,zi 3,.bool true,zi 3,vM,zi 3,zs 4957 1,zi 1,zi 0,.bool true,zp 4957 0,zi 14,zi 0,vM,zi 2,zi 14,zi 4,zi 4,zi 4,zi 2,.bool true,zi 2,zi 1,zi 2,zi 3,zt,zt]⟩,[.region (aC 60 [1,0,1,1,1,0,1,0,0,1,1,0,0,1,1,0,0]) [2,3,4],.code (at_ 60 [1,0,1,1,1,0,1,0,0,1,1,0,0,1,1,0,1]),.code (at_ 60 [1,0,1,1,1,0,1,0,0,1,1,0,0,1,1,1]),.inBlock 1,.code (at_ 60 [1,0,1,1,1,0,1,0,0,1,1,1]),.inLoop (at_ 60 [1,0,1,1,1,0,1,0,0]),.inBlock 0,.code (at_ 60 [1,0,1,1,1,1]),.inScope (at_ 60 [1,0])],[],false,none,false⟩,
  ⟨24,Tryz.v11,[.drawn (aC 24 [1,1,1,0]) [(5,[]),(6,[]),(7,[]),(8,[]),(9,[]),(10,[]),(11,[])],.code .ret],[],false,none,false⟩,
  ⟨5,Tryz.v12,[.region (aC 5 [1,1,1,1,1,1,1,1,1,1,1,1,1,1,1,1,1,0]) [1,2,3,4,5,6,7,8],.code (at_ 5 [1,1,1,1,1,1,1,1,1,1,1,1,1,1,1,1,1,1])],[],false,none,false⟩],
 ⟨4961,iV [Tryz.b0,
  Tryz.b1,
  Tryz.b2,
  Tryz.b3,
  Tryz.b4,
  Tryz.b5,
  Tryz.b6,
  Tryz.b7,
  Tryz.b13,
  Tryz.b19,
  Tryz.b20,
  Tryz.JG,
  Tryz.b22,
  Tryz.OG,
  Tryz.Qs,
  Tryz.Qu,
  Tryz.Ub,
  Tryz.ZR,
  Tryz.ZT,
  Tryz.ZU,
  Tryz.ZV,
  Tryz.b84,
  (4959,⟨(.cells Tryz.v13 93 (0,0)),none,false,0⟩),
  (4960,⟨(.mapIter (some 4619) 6 ⟨[]⟩ 6),none,false,0⟩)],jd [(1426,[1426]),(1805,[1805]),(3778,[3940]),(4403,[4403]),(4534,[4534]),(4957,[4957])]⟩⟩
noncomputable def Tryz.vP:AS:=⟨⟨60,⟨[vM,zi 4,zp 4919 0,zt,zi 1,zi 2,zi 0,zi 3,zi 0,zt,zi 14,zp 4919 0,zi 4,.bool false,zp 4919 0,zi 4,zi 4,zi 3,.bool true,zi 3,vM,zi 3,zs 4971 2,zi 1,zi 0,.bool true,zp 4957 0,zi 14,zi 0,vM,zi 2,zi 14,zi 4,zi 4,zi 4,zi 2,.bool true,zi 2,zi 1,zi 2,zi 3,zt,zt]⟩,[.region (aC 60 [1,0,1,1,1,0,1,0,0,1,1,0,0,1,1,0,0]) [3,4],.code (at_ 60 [1,0,1,1,1,0,1,0,0,1,1,0,0,1,1,0,1]),.code (at_ 60 [1,0,1,1,1,0,1,0,0,1,1,0,0,1,1,1]),.inBlock 1,.code (at_ 60 [1,0,1,1,1,0,1,0,0,1,1,1]),.inLoop (at_ 60 [1,0,1,1,1,0,1,0,0]),.inBlock 0,.code (at_ 60 [1,0,1,1,1,1]),.inScope (at_ 60 [1,0])],[],false,none,false⟩,
 [⟨24,Tryz.v11,[.drawn (aC 24 [1,1,1,0]) [(5,[]),(6,[]),(7,[]),(8,[]),(9,[]),(10,[]),(11,[])],.code .ret],[],false,none,false⟩,
  ⟨5,Tryz.v12,[.region (aC 5 [1,1,1,1,1,1,1,1,1,1,1,1,1,1,1,1,1,0]) [1,2,3,4,5,6,7,8],.code (at_ 5 [1,1,1,1,1,1,1,1,1,1,1,1,1,1,1,1,1,1])],[],false,none,false⟩],
 ⟨4972,iV [(4971,⟨(.cells ⟨[zi 14,zi 15]⟩ 3 (0,0)),(some 4971),false,1⟩),
  Tryz.b0,
  Tryz.b1,
  Tryz.b2,
  Tryz.b3,
  Tryz.b4,
  Tryz.b5,
  Tryz.b6,
  Tryz.b7,
  Tryz.b13,
  Tryz.b19,
  Tryz.b20,
  Tryz.JG,
  Tryz.b22,
  Tryz.OG,
  Tryz.Qs,
  Tryz.Qu,
  Tryz.Ub,
  Tryz.ZR,
  Tryz.ZT,
  Tryz.ZU,
  Tryz.ZV,
  Tryz.b84],jd [(4971,[4971]),(1426,[1426]),(1805,[1805]),(3778,[3940]),(4403,[4403]),(4534,[4534]),(4957,[4957])]⟩⟩
noncomputable def Tryz.adh:AS:=⟨⟨13,⟨[Yy,zp 5716 0,zi 0,zi 0,zp 5771 0,zi 0,.tuple ⟨[Yy,zi 0]⟩,Yy,.tuple ⟨[Yy,zi 0]⟩,Yy,zi 0,zi 0,.bool false,zt,zt,zt,zt]⟩,[.code (at_ 13 [1,1,1])],[],false,none,false⟩,
 [⟨5,⟨[.bool false,zp 9 0,zo 72 0 3 6,zi 0,.bool true,zi 0,.bool false,zi 0,zi 4,zi 0,zs 1426 2,zi 0,zs 1805 2,zi 0,zi 1,zi 0,zi 0,zi 0,zs 3940 2,zp 4336 0,zs 4403 1,zs 4534 2,zi 1,zi 2,zp 4973 0,zt,aS,BH,aS,zs 10 4,BH,zo 72 0 3 6,zi 0,BJ,aS,zs 83 4,zs 84 1,BJ,.bool true,zi 0,BI,aS,zs 322 4,BI,.bool false,zi 0,oN,aS,oN,zi 4,zi 0,JF,aS,JF,zs 1426 2,zi 0,OE,aS,OE,zs 1805 2,zi 0,uO,aS,uO,zi 1,zi 0,xg,aS,xg,zi 0,zi 0,zi 0,.bool false,.bool false,zi 0,.bool false,.bool false,.bool false,zi 0,.bool false,.bool false,.bool false,zi 0,.bool false,.bool false,.bool false,zi 0,.bool false,.bool false,.bool false,zi 0,.bool false,.bool false,.bool false,zi 0,.bool false,.bool false,.bool false,zi 0,.bool false,.bool false,.bool false,.bool true,.bool false,.bool false,.bool false,.bool false,.bool false,.bool false,zi 4,.bool false,.bool false,.bool false,zi 1,.bool false,.bool false,.bool false,zi 0,.bool false,.bool false,.bool false,zo 72 0 3 6,zs 2519 3,.bool true,.bool false,.bool false,.bool false,zs 1426 2,zs 2520 2,.bool true,.bool false,.bool false,.bool false,zs 1805 2,zs 2521 2,.bool true,.bool false,.bool false,uO,aS,uO,zi 1,zi 0,xg,aS,xg,zi 0,zi 0,Ak,aS,Ak,zs 3940 2,zi 0,Jh,aS,Jh,Jg,zi 0,Qr,aS,Qr,zs 4403 1,zi 0,YA,aS,YA,zs 4534 2,zi 0,.tuple ⟨[zi 1,zi 2,zi 0]⟩,aS,.tuple ⟨[zi 1,zi 2,zi 0]⟩,zi 1,zi 2,zi 0,.tuple ⟨[Yz,zi 0]⟩,aS,.agg ⟨[zi 12,zi 12]⟩,.tuple ⟨[Yz,zi 0]⟩,Yz,zi 0,zi 0,.bool false,.bool false,zi 0,.bool false,.bool false,.bool false,zi 0,.bool false,.bool false,.bool false,zi 0,.bool false,.bool false,.bool false,zi 0,.bool false,.bool false,.bool false,zi 0,.bool false,.bool false,.bool false,zi 0,.bool false,.bool false,.bool false,zi 0,.bool false,.bool false,.bool false,zi 1,.bool false,.bool false,.bool false,zi 0,.bool false,.bool false,.bool false,Jg,Jg,.bool false,.bool false,.bool false,zi 1,.bool false,.bool false,.bool false,zi 2,.bool false,.bool false,.bool false,zs 3940 2,zs 5208 2,.bool true,.bool false,.bool false,.bool false,zs 4403 1,zs 5209 1,.bool true,.bool false,.bool false,.bool false,zs 4534 2,zs 5210 2,.bool true,.bool false,.bool false,uO,Yz,uO,zi 1,zi 0,.tuple ⟨[Yy,zi 0]⟩,aS,.agg ⟨[zi 2,zi 0,zi 0]⟩,.tuple ⟨[Yy,zi 0]⟩,Yy,zi 0,zt,Yy]++zr 43⟩,[.region (aC 5 [1,1,1,1,1,1,1,1,1,1,1,1,1,1,1,1,1,1,1,1,1,1,0]) [1,2,3,4,5,6],.code (at_ 5 [1,1,1,1,1,1,1,1,1,1,1,1,1,1,1,1,1,1,1,1,1,1,1])],[],false,none,false⟩],
 ⟨5772,iV [Tryz.b0,
  Tryz.b1,
  Tryz.b2,
  Tryz.b3,
  Tryz.b4,
  Tryz.b5,
  Tryz.b6,
  Tryz.b7,
  Tryz.b13,
  Tryz.b19,
  Tryz.b20,
  Tryz.JG,
  Tryz.b22,
  Tryz.OG,
  Tryz.Qs,
  Tryz.Qu,
  Tryz.Ub,
  (4973,⟨(.cells Tryz.v14 25 (0,0)),none,false,0⟩),
  (5204,⟨(.cells ⟨[zi 10,zi 10,zi 12,zi 12,zi 14,zi 14,zi 14,zi 15]⟩ 50 (0,0)),(some 5204),false,2⟩),
  (5206,⟨(.cells ⟨[zi 0,zi 4,zi 4,zi 1,zi 2,zi 2]⟩ 61 (0,0)),(some 5206),false,3⟩),
  (5208,⟨(.cells ⟨[zi 1,zi 2]⟩ 3 (0,0)),none,false,0⟩),
  (5209,⟨(.cells ⟨[zi 0]⟩ 3 (0,0)),none,false,0⟩),
  (5210,⟨(.cells ⟨[zi 0,zi 1]⟩ 3 (0,0)),none,false,0⟩),
  (5713,⟨(.cells ⟨[zi 10,zi 10,zi 12,zi 13,zi 14,zi 14,zi 14,zi 15]⟩ 50 (0,0)),(some 5713),false,2⟩),
  (5715,⟨(.cells ⟨[zi 0,zi 4,zi 4,zi 1,zi 2,zi 2,zi 2,zi 0,zi 0]⟩ 61 (0,0)),(some 5715),false,3⟩),
  (5716,⟨(.cells Tryz.v14 25 (0,0)),none,false,0⟩),
  (5771,⟨(.cells Tryz.v14 67 (0,0)),none,false,0⟩)],jd [(1426,[1426]),(1805,[1805]),(3778,[3940]),(4403,[4403]),(4534,[4534]),(5204,[5204]),(5206,[5206]),(5713,[5713]),(5715,[5715])]⟩⟩
end Go.Am
