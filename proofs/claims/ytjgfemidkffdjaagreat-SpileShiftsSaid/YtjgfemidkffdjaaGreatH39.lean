import Derived.Test.YtjgfemidkffdjaaGreatH32
set_option linter.all false
namespace Go.Am
open Go.Proofs
theorem Wq:(List.map (aj Tryz.prog plan ai ah 2000 20 true [9,11,12,13,80,1072,1421,1783,1784,1819,1825,2130] 0 gp) [0,1])=List.map (fun _=>some iD) [0,1]:=by kernel_rfl
theorem Pg:(List.map (aj Tryz.prog plan ai ah 2000 20 false [9,11,12,13,80,1072,1421,1783,2143,2144,2214,2780,2817,3093,3094,3095,3096,3097,3261] 0 dB) [0])=List.map (fun _=>some dJ) [0]:=by kernel_rfl
theorem FI:eG Tryz.prog plan ai ah 2000 20 1 [9,11,2817,3095,3263,3264] 2 jL=some (List.replicate 24 (some lJ)):=by kernel_rfl
end Go.Am
namespace Go.Am
open Go.Proofs
theorem FQ:eG Tryz.prog plan ai ah 2000 20 1 [9,11,2817,3095,3264,3265] 1 jM=some (List.replicate 24 (some lK)):=by kernel_rfl
end Go.Am
namespace Go.Am
open Go.Proofs
theorem Qj:(List.map (aj Tryz.prog plan ai ah 2000 20 false [9,11,12,13,80,1072,1421,1783,2143,2144,2214,3266,3303,3579,3580,3581,3582,3746] 4 dD) [3])=List.map (fun _=>some dK) [3]:=by kernel_rfl
theorem JS:jc Tryz.prog jQ=some 5:=by kernel_rfl
end Go.Am
namespace Go.Am
open Go.Proofs
theorem Qy:(List.map (aj Tryz.prog plan ai ah 2000 20 true [9,11,12,13,80,1072,1421,1783,2143,2144,2214,3751,3783,3789,4094] 4 dL) [2,3])=List.map (fun _=>some eP) [2,3]:=by kernel_rfl
theorem Rf:(List.map (aj Tryz.prog plan ai ah 2000 20 true [9,11,12,13,80,1072,1421,1783,2143,2144,2214,3751,3783,3789,4094,4121] 2 dN) [4])=List.map (fun _=>some eX) [4]:=by kernel_rfl
theorem Rq:(List.map (aj Tryz.prog plan ai ah 2000 20 true [9,11,12,13,80,1072,1421,1783,2143,2144,2214,3751,3783,3789,4094,4121] 5 dN) [2,3])=List.map (fun _=>some eX) [2,3]:=by kernel_rfl
end Go.Am
