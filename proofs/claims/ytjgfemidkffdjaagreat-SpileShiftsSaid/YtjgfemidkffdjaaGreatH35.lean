import Derived.Test.YtjgfemidkffdjaaGreatH32
set_option linter.all false
namespace Go.Am
open Go.Proofs
theorem acS:jc Tryz.prog gp=some 6:=by kernel_rfl
theorem acT:(List.range 6).map (lV Tryz.prog plan ai ah 2000 gp)=(List.range 6).map fun _=>some 5:=by kernel_rfl
theorem Wq:(List.map (aj Tryz.prog plan ai ah 2000 20 true [9,11,12,13,80,1072,1421,1783,1784,1819,1825,2130] 0 gp) [0,1])=List.map (fun _=>some iD) [0,1]:=by kernel_rfl
theorem Ws:(List.map (aj Tryz.prog plan ai ah 2000 20 true [9,11,12,13,80,1072,1421,1783,1784,1819,1825,2130] 0 gp) [2,3])=List.map (fun _=>some iD) [2,3]:=by kernel_rfl
theorem Wu:(List.map (aj Tryz.prog plan ai ah 2000 20 true [9,11,12,13,80,1072,1421,1783,1784,1819,1825,2130] 0 gp) [4])=List.map (fun _=>some iD) [4]:=by kernel_rfl
theorem Wv:(List.map (aj Tryz.prog plan ai ah 2000 20 true [9,11,12,13,80,1072,1421,1783,1784,1819,1825,2130] 1 gp) [0,1])=List.map (fun _=>some iD) [0,1]:=by kernel_rfl
theorem Wx:(List.map (aj Tryz.prog plan ai ah 2000 20 true [9,11,12,13,80,1072,1421,1783,1784,1819,1825,2130] 1 gp) [2,3])=List.map (fun _=>some iD) [2,3]:=by kernel_rfl
theorem Wy:(List.map (aj Tryz.prog plan ai ah 2000 20 true [9,11,12,13,80,1072,1421,1783,1784,1819,1825,2130] 1 gp) [4])=List.map (fun _=>some iD) [4]:=by kernel_rfl
theorem WA:(List.map (aj Tryz.prog plan ai ah 2000 20 true [9,11,12,13,80,1072,1421,1783,1784,1819,1825,2130] 2 gp) [0,1])=List.map (fun _=>some iD) [0,1]:=by kernel_rfl
theorem WB:(List.map (aj Tryz.prog plan ai ah 2000 20 true [9,11,12,13,80,1072,1421,1783,1784,1819,1825,2130] 2 gp) [2,3])=List.map (fun _=>some iD) [2,3]:=by kernel_rfl
theorem WC:(List.map (aj Tryz.prog plan ai ah 2000 20 true [9,11,12,13,80,1072,1421,1783,1784,1819,1825,2130] 2 gp) [4])=List.map (fun _=>some iD) [4]:=by kernel_rfl
theorem WE:(List.map (aj Tryz.prog plan ai ah 2000 20 true [9,11,12,13,80,1072,1421,1783,1784,1819,1825,2130] 3 gp) [0,1])=List.map (fun _=>some iD) [0,1]:=by kernel_rfl
theorem WG:(List.map (aj Tryz.prog plan ai ah 2000 20 true [9,11,12,13,80,1072,1421,1783,1784,1819,1825,2130] 3 gp) [2,3])=List.map (fun _=>some iD) [2,3]:=by kernel_rfl
end Go.Am
