import Derived.Test.YtjgfemidkffdjaaGreatH32
set_option linter.all false
namespace Go.Am
open Go.Proofs
theorem Fj:eG Tryz.prog plan ai ah 2000 20 1 [9,11,2817,3095,3262,3263] 0 jK=some (List.replicate 24 (some lI)):=by kernel_rfl
theorem FH:eG Tryz.prog plan ai ah 2000 20 1 [9,11,2817,3095,3263,3264] 1 jL=some (List.replicate 24 (some lJ)):=by kernel_rfl
end Go.Am
namespace Go.Am
open Go.Proofs
theorem Qi:(List.map (aj Tryz.prog plan ai ah 2000 20 false [9,11,12,13,80,1072,1421,1783,2143,2144,2214,3266,3303,3579,3580,3581,3582,3746] 4 dD) [2])=List.map (fun _=>some dK) [2]:=by kernel_rfl
theorem aaM:Az Tryz.prog plan ai ah bD uj 3584 3583 3582 60 400 BJ JD BK 0 0 2 lM=true:=by kernel_rfl
theorem MG:Aw Tryz.prog plan ai ah 113 [9,11,3303,3580,3748,3749,3750,3751] mG.1=some jP:=by kernel_rfl
end Go.Am
namespace Go.Am
open Go.Proofs
theorem Gm:eG Tryz.prog plan ai ah 2000 20 1 [9,11,3303,3580,3749,3750] 4 jQ=some (List.replicate 24 (some lQ)):=by kernel_rfl
theorem aaT:jc Tryz.prog dM=some 6:=by kernel_rfl
theorem QV:(List.map (aj Tryz.prog plan ai ah 2000 20 true [9,11,12,13,80,1072,1421,1783,2143,2144,2214,3751,3783,3789,4094,4105] 5 dM) [0,1])=List.map (fun _=>some eU) [0,1]:=by kernel_rfl
theorem QX:(List.map (aj Tryz.prog plan ai ah 2000 20 true [9,11,12,13,80,1072,1421,1783,2143,2144,2214,3751,3783,3789,4094,4105] 5 dM) [4])=List.map (fun _=>some eU) [4]:=by kernel_rfl
theorem Q8:(List.map (aj Tryz.prog plan ai ah 2000 20 true [9,11,12,13,80,1072,1421,1783,2143,2144,2214,3751,3783,3789,4094,4121] 2 dN) [0,1])=List.map (fun _=>some eX) [0,1]:=by kernel_rfl
end Go.Am
