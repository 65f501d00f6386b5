import Derived.Test.YtjgfemidkffdjaaGreatH32
set_option linter.all false
namespace Go.Am
open Go.Proofs
theorem Wi:(List.map (aj Tryz.prog plan ai ah 2000 20 true [9,11,12,13,80,1072,1421,1422,1457,1463,1768] 4 gm) [2,3])=List.map (fun _=>some iC) [2,3]:=by kernel_rfl
theorem WB:(List.map (aj Tryz.prog plan ai ah 2000 20 true [9,11,12,13,80,1072,1421,1783,1784,1819,1825,2130] 2 gp) [2,3])=List.map (fun _=>some iD) [2,3]:=by kernel_rfl
theorem WJ:(List.map (aj Tryz.prog plan ai ah 2000 20 true [9,11,12,13,80,1072,1421,1783,1784,1819,1825,2130] 4 gp) [2,3])=List.map (fun _=>some iD) [2,3]:=by kernel_rfl
theorem F6:eG Tryz.prog plan ai ah 2000 20 1 [9,11,3303,3580,3747,3748] 4 jO=some (List.replicate 24 (some lM)):=by kernel_rfl
theorem Gf:eG Tryz.prog plan ai ah 2000 20 1 [9,11,3303,3580,3748,3749] 3 jP=some (List.replicate 24 (some lN)):=by kernel_rfl
end Go.Am
namespace Go.Am
open Go.Proofs
theorem aaP:iU Tryz.prog plan bD 3584 25 3 mG.2=some uw:=by kernel_rfl
end Go.Am
namespace Go.Am
open Go.Proofs
theorem Qu:(List.map (aj Tryz.prog plan ai ah 2000 20 true [9,11,12,13,80,1072,1421,1783,2143,2144,2214,3751,3783,3789,4094] 3 dL) [0,1])=List.map (fun _=>some eP) [0,1]:=by kernel_rfl
theorem QC:(List.map (aj Tryz.prog plan ai ah 2000 20 true [9,11,12,13,80,1072,1421,1783,2143,2144,2214,3751,3783,3789,4094] 5 dL) [4])=List.map (fun _=>some eP) [4]:=by kernel_rfl
theorem Q4:(List.map (aj Tryz.prog plan ai ah 2000 20 true [9,11,12,13,80,1072,1421,1783,2143,2144,2214,3751,3783,3789,4094,4121] 1 dN) [0,1])=List.map (fun _=>some eX) [0,1]:=by kernel_rfl
end Go.Am
