import Derived.Test.YtjgfemidkffdjaaGreatH32
set_option linter.all false
namespace Go.Am
open Go.Proofs
theorem V5:(List.map (aj Tryz.prog plan ai ah 2000 20 true [9,11,12,13,80,1072,1421,1422,1457,1463,1768] 2 gm) [0,1])=List.map (fun _=>some iC) [0,1]:=by kernel_rfl
theorem V6:(List.map (aj Tryz.prog plan ai ah 2000 20 true [9,11,12,13,80,1072,1421,1422,1457,1463,1768] 2 gm) [2,3])=List.map (fun _=>some iC) [2,3]:=by kernel_rfl
theorem V7:(List.map (aj Tryz.prog plan ai ah 2000 20 true [9,11,12,13,80,1072,1421,1422,1457,1463,1768] 2 gm) [4])=List.map (fun _=>some iC) [4]:=by kernel_rfl
theorem V8:(List.map (aj Tryz.prog plan ai ah 2000 20 true [9,11,12,13,80,1072,1421,1422,1457,1463,1768] 3 gm) [0,1])=List.map (fun _=>some iC) [0,1]:=by kernel_rfl
theorem V9:(List.map (aj Tryz.prog plan ai ah 2000 20 true [9,11,12,13,80,1072,1421,1422,1457,1463,1768] 3 gm) [2,3])=List.map (fun _=>some iC) [2,3]:=by kernel_rfl
theorem We:(List.map (aj Tryz.prog plan ai ah 2000 20 true [9,11,12,13,80,1072,1421,1422,1457,1463,1768] 3 gm) [4])=List.map (fun _=>some iC) [4]:=by kernel_rfl
theorem Wh:(List.map (aj Tryz.prog plan ai ah 2000 20 true [9,11,12,13,80,1072,1421,1422,1457,1463,1768] 4 gm) [0,1])=List.map (fun _=>some iC) [0,1]:=by kernel_rfl
theorem Wi:(List.map (aj Tryz.prog plan ai ah 2000 20 true [9,11,12,13,80,1072,1421,1422,1457,1463,1768] 4 gm) [2,3])=List.map (fun _=>some iC) [2,3]:=by kernel_rfl
theorem Wj:(List.map (aj Tryz.prog plan ai ah 2000 20 true [9,11,12,13,80,1072,1421,1422,1457,1463,1768] 4 gm) [4])=List.map (fun _=>some iC) [4]:=by kernel_rfl
theorem Wl:(List.map (aj Tryz.prog plan ai ah 2000 20 true [9,11,12,13,80,1072,1421,1422,1457,1463,1768] 5 gm) [0,1])=List.map (fun _=>some iC) [0,1]:=by kernel_rfl
theorem Wn:(List.map (aj Tryz.prog plan ai ah 2000 20 true [9,11,12,13,80,1072,1421,1422,1457,1463,1768] 5 gm) [2,3])=List.map (fun _=>some iC) [2,3]:=by kernel_rfl
theorem Wp:(List.map (aj Tryz.prog plan ai ah 2000 20 true [9,11,12,13,80,1072,1421,1422,1457,1463,1768] 5 gm) [4])=List.map (fun _=>some iC) [4]:=by kernel_rfl
theorem agj:stepS Tryz.prog plan ai ah 2863 [9,11,12,13,80,1072,1421,1783,1784,1819,1825,2130,2131,2132] iC=some gp:=by kernel_rfl
end Go.Am
