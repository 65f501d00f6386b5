import Derived.Test.YtjgfemidkffdjaaGreatH32
set_option linter.all false
namespace Go.Am
open Go.Proofs
theorem QE:(List.map (aj Tryz.prog plan ai ah 2000 20 true [9,11,12,13,80,1072,1421,1783,2143,2144,2214,3751,3783,3789,4094,4105] 0 dM) [2,3])=List.map (fun _=>some eU) [2,3]:=by kernel_rfl
theorem QF:(List.map (aj Tryz.prog plan ai ah 2000 20 true [9,11,12,13,80,1072,1421,1783,2143,2144,2214,3751,3783,3789,4094,4105] 0 dM) [4])=List.map (fun _=>some eU) [4]:=by kernel_rfl
theorem QG:(List.map (aj Tryz.prog plan ai ah 2000 20 true [9,11,12,13,80,1072,1421,1783,2143,2144,2214,3751,3783,3789,4094,4105] 1 dM) [0,1])=List.map (fun _=>some eU) [0,1]:=by kernel_rfl
theorem QH:(List.map (aj Tryz.prog plan ai ah 2000 20 true [9,11,12,13,80,1072,1421,1783,2143,2144,2214,3751,3783,3789,4094,4105] 1 dM) [2,3])=List.map (fun _=>some eU) [2,3]:=by kernel_rfl
theorem QI:(List.map (aj Tryz.prog plan ai ah 2000 20 true [9,11,12,13,80,1072,1421,1783,2143,2144,2214,3751,3783,3789,4094,4105] 1 dM) [4])=List.map (fun _=>some eU) [4]:=by kernel_rfl
theorem QJ:(List.map (aj Tryz.prog plan ai ah 2000 20 true [9,11,12,13,80,1072,1421,1783,2143,2144,2214,3751,3783,3789,4094,4105] 2 dM) [0,1])=List.map (fun _=>some eU) [0,1]:=by kernel_rfl
theorem QK:(List.map (aj Tryz.prog plan ai ah 2000 20 true [9,11,12,13,80,1072,1421,1783,2143,2144,2214,3751,3783,3789,4094,4105] 2 dM) [2,3])=List.map (fun _=>some eU) [2,3]:=by kernel_rfl
theorem QL:(List.map (aj Tryz.prog plan ai ah 2000 20 true [9,11,12,13,80,1072,1421,1783,2143,2144,2214,3751,3783,3789,4094,4105] 2 dM) [4])=List.map (fun _=>some eU) [4]:=by kernel_rfl
theorem QM:(List.map (aj Tryz.prog plan ai ah 2000 20 true [9,11,12,13,80,1072,1421,1783,2143,2144,2214,3751,3783,3789,4094,4105] 3 dM) [0,1])=List.map (fun _=>some eU) [0,1]:=by kernel_rfl
theorem QN:(List.map (aj Tryz.prog plan ai ah 2000 20 true [9,11,12,13,80,1072,1421,1783,2143,2144,2214,3751,3783,3789,4094,4105] 3 dM) [2,3])=List.map (fun _=>some eU) [2,3]:=by kernel_rfl
theorem QO:(List.map (aj Tryz.prog plan ai ah 2000 20 true [9,11,12,13,80,1072,1421,1783,2143,2144,2214,3751,3783,3789,4094,4105] 3 dM) [4])=List.map (fun _=>some eU) [4]:=by kernel_rfl
theorem QS:(List.map (aj Tryz.prog plan ai ah 2000 20 true [9,11,12,13,80,1072,1421,1783,2143,2144,2214,3751,3783,3789,4094,4105] 4 dM) [0,1])=List.map (fun _=>some eU) [0,1]:=by kernel_rfl
theorem QT:(List.map (aj Tryz.prog plan ai ah 2000 20 true [9,11,12,13,80,1072,1421,1783,2143,2144,2214,3751,3783,3789,4094,4105] 4 dM) [2,3])=List.map (fun _=>some eU) [2,3]:=by kernel_rfl
end Go.Am
