import Derived.Test.YtjgfemidkffdjaaGreatH32
set_option linter.all false
namespace Go.Am
open Go.Proofs
theorem Wx:(List.map (aj Tryz.prog plan ai ah 2000 20 true [9,11,12,13,80,1072,1421,1783,1784,1819,1825,2130] 1 gp) [2,3])=List.map (fun _=>some iD) [2,3]:=by kernel_rfl
theorem WI:(List.map (aj Tryz.prog plan ai ah 2000 20 true [9,11,12,13,80,1072,1421,1783,1784,1819,1825,2130] 4 gp) [0,1])=List.map (fun _=>some iD) [0,1]:=by kernel_rfl
theorem WL:(List.map (aj Tryz.prog plan ai ah 2000 20 true [9,11,12,13,80,1072,1421,1783,1784,1819,1825,2130] 4 gp) [4])=List.map (fun _=>some iD) [4]:=by kernel_rfl
theorem PG:(List.map (aj Tryz.prog plan ai ah 2000 20 false [9,11,12,13,80,1072,1421,1783,2143,2144,2214,2780,2817,3093,3094,3095,3096,3097,3261] 3 dB) [0])=List.map (fun _=>some dJ) [0]:=by kernel_rfl
theorem JG:jc Tryz.prog jK=some 5:=by kernel_rfl
end Go.Am
namespace Go.Am
open Go.Proofs
theorem FW:eG Tryz.prog plan ai ah 2000 20 1 [9,11,2817,3095,3264,3265] 4 jM=some (List.replicate 24 (some lK)):=by kernel_rfl
theorem Qs:(List.map (aj Tryz.prog plan ai ah 2000 20 true [9,11,12,13,80,1072,1421,1783,2143,2144,2214,3751,3783,3789,4094] 2 dL) [4])=List.map (fun _=>some eP) [4]:=by kernel_rfl
theorem Q3:(List.map (aj Tryz.prog plan ai ah 2000 20 true [9,11,12,13,80,1072,1421,1783,2143,2144,2214,3751,3783,3789,4094,4121] 0 dN) [4])=List.map (fun _=>some eX) [4]:=by kernel_rfl
theorem Rl:(List.map (aj Tryz.prog plan ai ah 2000 20 true [9,11,12,13,80,1072,1421,1783,2143,2144,2214,3751,3783,3789,4094,4121] 4 dN) [2,3])=List.map (fun _=>some eX) [2,3]:=by kernel_rfl
end Go.Am
