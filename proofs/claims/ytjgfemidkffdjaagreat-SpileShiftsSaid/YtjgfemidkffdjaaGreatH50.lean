import Derived.Test.YtjgfemidkffdjaaGreatH32
set_option linter.all false
namespace Go.Am
open Go.Proofs
theorem V7:(List.map (aj Tryz.prog plan ai ah 2000 20 true [9,11,12,13,80,1072,1421,1422,1457,1463,1768] 2 gm) [4])=List.map (fun _=>some iC) [4]:=by kernel_rfl
theorem WM:(List.map (aj Tryz.prog plan ai ah 2000 20 true [9,11,12,13,80,1072,1421,1783,1784,1819,1825,2130] 5 gp) [0,1])=List.map (fun _=>some iD) [0,1]:=by kernel_rfl
theorem PE:(List.map (aj Tryz.prog plan ai ah 2000 20 false [9,11,12,13,80,1072,1421,1783,2143,2144,2214,2780,2817,3093,3094,3095,3096,3097,3261] 2 dB) [3])=List.map (fun _=>some dJ) [3]:=by kernel_rfl
theorem PK:(List.map (aj Tryz.prog plan ai ah 2000 20 false [9,11,12,13,80,1072,1421,1783,2143,2144,2214,2780,2817,3093,3094,3095,3096,3097,3261] 3 dB) [2])=List.map (fun _=>some dJ) [2]:=by kernel_rfl
theorem JH:jc Tryz.prog jL=some 5:=by kernel_rfl
end Go.Am
namespace Go.Am
open Go.Proofs
theorem aaG:Az Tryz.prog plan ai ah bD uj 3099 3098 3097 60 400 BL JE BM 1 0 2 lJ=true:=by kernel_rfl
theorem P6:(List.map (aj Tryz.prog plan ai ah 2000 20 false [9,11,12,13,80,1072,1421,1783,2143,2144,2214,3266,3303,3579,3580,3581,3582,3746] 1 dD) [3])=List.map (fun _=>some dK) [3]:=by kernel_rfl
theorem QE:(List.map (aj Tryz.prog plan ai ah 2000 20 true [9,11,12,13,80,1072,1421,1783,2143,2144,2214,3751,3783,3789,4094,4105] 0 dM) [2,3])=List.map (fun _=>some eU) [2,3]:=by kernel_rfl
theorem QO:(List.map (aj Tryz.prog plan ai ah 2000 20 true [9,11,12,13,80,1072,1421,1783,2143,2144,2214,3751,3783,3789,4094,4105] 3 dM) [4])=List.map (fun _=>some eU) [4]:=by kernel_rfl
theorem aaW:(List.range 6).map (lV Tryz.prog plan ai ah 2000 dN)=(List.range 6).map fun _=>some 5:=by kernel_rfl
end Go.Am
