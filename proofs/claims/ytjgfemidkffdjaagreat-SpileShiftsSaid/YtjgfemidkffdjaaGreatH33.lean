import Derived.Test.YtjgfemidkffdjaaGreatH32
set_option linter.all false
namespace Go.Am
open Go.Proofs
theorem VU:LJ 3 BK JD BJ [0,0] [-3,6]=true:=by kernel_rfl
theorem VV:LJ 3 BM JE BL [0,0] [-3,6]=true:=by kernel_rfl
theorem agf:stepS Tryz.prog plan ai ah 5523 [9,11,12,13,80,717] aau=some aav:=by kernel_rfl
theorem agh:stepS Tryz.prog plan ai ah 5337 [9,11,12,13,80,1072,1421,1422,1457] aav=some aaw:=by kernel_rfl
theorem agi:stepS Tryz.prog plan ai ah 2597 [9,11,12,13,80,1072,1421,1422,1457,1463,1768,1769,1770] aaw=some gm:=by kernel_rfl
theorem acQ:jc Tryz.prog gm=some 6:=by kernel_rfl
theorem acR:(List.range 6).map (lV Tryz.prog plan ai ah 2000 gm)=(List.range 6).map fun _=>some 5:=by kernel_rfl
theorem VW:(List.map (aj Tryz.prog plan ai ah 2000 20 true [9,11,12,13,80,1072,1421,1422,1457,1463,1768] 0 gm) [0,1])=List.map (fun _=>some iC) [0,1]:=by kernel_rfl
theorem VX:(List.map (aj Tryz.prog plan ai ah 2000 20 true [9,11,12,13,80,1072,1421,1422,1457,1463,1768] 0 gm) [2,3])=List.map (fun _=>some iC) [2,3]:=by kernel_rfl
theorem VY:(List.map (aj Tryz.prog plan ai ah 2000 20 true [9,11,12,13,80,1072,1421,1422,1457,1463,1768] 0 gm) [4])=List.map (fun _=>some iC) [4]:=by kernel_rfl
theorem VZ:(List.map (aj Tryz.prog plan ai ah 2000 20 true [9,11,12,13,80,1072,1421,1422,1457,1463,1768] 1 gm) [0,1])=List.map (fun _=>some iC) [0,1]:=by kernel_rfl
theorem V3:(List.map (aj Tryz.prog plan ai ah 2000 20 true [9,11,12,13,80,1072,1421,1422,1457,1463,1768] 1 gm) [2,3])=List.map (fun _=>some iC) [2,3]:=by kernel_rfl
theorem V4:(List.map (aj Tryz.prog plan ai ah 2000 20 true [9,11,12,13,80,1072,1421,1422,1457,1463,1768] 1 gm) [4])=List.map (fun _=>some iC) [4]:=by kernel_rfl
end Go.Am
