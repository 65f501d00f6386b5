import Derived.Test.YtjgfemidkffdjaaGreatH32
set_option linter.all false
namespace Go.Am
open Go.Proofs
theorem agf:stepS Tryz.prog plan ai ah 5523 [9,11,12,13,80,717] aau=some aav:=by kernel_rfl
theorem acS:jc Tryz.prog gp=some 6:=by kernel_rfl
theorem Wy:(List.map (aj Tryz.prog plan ai ah 2000 20 true [9,11,12,13,80,1072,1421,1783,1784,1819,1825,2130] 1 gp) [4])=List.map (fun _=>some iD) [4]:=by kernel_rfl
theorem aaC:Az Tryz.prog plan ai ah bD uj 3099 3098 3097 60 400 BL JE BM 0 0 2 lI=true:=by kernel_rfl
theorem aaJ:jc Tryz.prog dD=some 5:=by kernel_rfl
theorem PV:(List.map (aj Tryz.prog plan ai ah 2000 20 false [9,11,12,13,80,1072,1421,1783,2143,2144,2214,3266,3303,3579,3580,3581,3582,3746] 0 dD) [1])=List.map (fun _=>some dK) [1]:=by kernel_rfl
theorem P7:(List.map (aj Tryz.prog plan ai ah 2000 20 false [9,11,12,13,80,1072,1421,1783,2143,2144,2214,3266,3303,3579,3580,3581,3582,3746] 2 dD) [0])=List.map (fun _=>some dK) [0]:=by kernel_rfl
theorem Gi:eG Tryz.prog plan ai ah 2000 20 1 [9,11,3303,3580,3749,3750] 1 jQ=some (List.replicate 24 (some lQ)):=by kernel_rfl
end Go.Am
namespace Go.Am
open Go.Proofs
theorem ac4:stepS Tryz.prog plan ai ah 2865 [9,11,12,13,80,1072,1421,1783,2143,2144,2214,3751,3783,3789,4094,4095,4096] Un=some dL:=by kernel_rfl
theorem QT:(List.map (aj Tryz.prog plan ai ah 2000 20 true [9,11,12,13,80,1072,1421,1783,2143,2144,2214,3751,3783,3789,4094,4105] 4 dM) [2,3])=List.map (fun _=>some eU) [2,3]:=by kernel_rfl
end Go.Am
