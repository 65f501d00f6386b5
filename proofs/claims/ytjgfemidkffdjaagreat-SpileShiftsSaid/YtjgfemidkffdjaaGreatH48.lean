import Derived.Test.YtjgfemidkffdjaaGreatH32
set_option linter.all false
namespace Go.Am
open Go.Proofs
theorem agh:stepS Tryz.prog plan ai ah 5337 [9,11,12,13,80,1072,1421,1422,1457] aav=some aaw:=by kernel_rfl
theorem acQ:jc Tryz.prog gm=some 6:=by kernel_rfl
theorem VX:(List.map (aj Tryz.prog plan ai ah 2000 20 true [9,11,12,13,80,1072,1421,1422,1457,1463,1768] 0 gm) [2,3])=List.map (fun _=>some iC) [2,3]:=by kernel_rfl
theorem V8:(List.map (aj Tryz.prog plan ai ah 2000 20 true [9,11,12,13,80,1072,1421,1422,1457,1463,1768] 3 gm) [0,1])=List.map (fun _=>some iC) [0,1]:=by kernel_rfl
theorem V9:(List.map (aj Tryz.prog plan ai ah 2000 20 true [9,11,12,13,80,1072,1421,1422,1457,1463,1768] 3 gm) [2,3])=List.map (fun _=>some iC) [2,3]:=by kernel_rfl
theorem WG:(List.map (aj Tryz.prog plan ai ah 2000 20 true [9,11,12,13,80,1072,1421,1783,1784,1819,1825,2130] 3 gp) [2,3])=List.map (fun _=>some iD) [2,3]:=by kernel_rfl
theorem Pv:(List.map (aj Tryz.prog plan ai ah 2000 20 false [9,11,12,13,80,1072,1421,1783,2143,2144,2214,2780,2817,3093,3094,3095,3096,3097,3261] 1 dB) [2])=List.map (fun _=>some dJ) [2]:=by kernel_rfl
theorem aaK:(List.range 5).map (lV Tryz.prog plan ai ah 2000 dD)=(List.range 5).map fun _=>some 4:=by kernel_rfl
theorem ac2:DT 3582 3 [0,0] [9,11,12,13,80,1072,1421,1783,2143,2144,2214,3266,3303,3579,3580,3581,3746,3747] BP=some yg:=by kernel_rfl
theorem QB:(List.map (aj Tryz.prog plan ai ah 2000 20 true [9,11,12,13,80,1072,1421,1783,2143,2144,2214,3751,3783,3789,4094] 5 dL) [2,3])=List.map (fun _=>some eP) [2,3]:=by kernel_rfl
end Go.Am
