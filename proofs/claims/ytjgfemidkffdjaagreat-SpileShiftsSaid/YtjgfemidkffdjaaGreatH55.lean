import Derived.Test.YtjgfemidkffdjaaGreatH32
set_option linter.all false
namespace Go.Am
open Go.Proofs
theorem V4:(List.map (aj Tryz.prog plan ai ah 2000 20 true [9,11,12,13,80,1072,1421,1422,1457,1463,1768] 1 gm) [4])=List.map (fun _=>some iC) [4]:=by kernel_rfl
theorem V6:(List.map (aj Tryz.prog plan ai ah 2000 20 true [9,11,12,13,80,1072,1421,1422,1457,1463,1768] 2 gm) [2,3])=List.map (fun _=>some iC) [2,3]:=by kernel_rfl
theorem acT:(List.range 6).map (lV Tryz.prog plan ai ah 2000 gp)=(List.range 6).map fun _=>some 5:=by kernel_rfl
theorem WC:(List.map (aj Tryz.prog plan ai ah 2000 20 true [9,11,12,13,80,1072,1421,1783,1784,1819,1825,2130] 2 gp) [4])=List.map (fun _=>some iD) [4]:=by kernel_rfl
theorem WN:(List.map (aj Tryz.prog plan ai ah 2000 20 true [9,11,12,13,80,1072,1421,1783,1784,1819,1825,2130] 5 gp) [2,3])=List.map (fun _=>some iD) [2,3]:=by kernel_rfl
theorem acV:stepS Tryz.prog plan ai ah 4 [9,11,12,13,80,1072,1421,1783,2143,2144,2214,2780,2817,3093,3094,3095,3096,3097,3261,3262] dJ=some BN:=by kernel_rfl
theorem Fv:eG Tryz.prog plan ai ah 2000 20 1 [9,11,2817,3095,3262,3263] 3 jK=some (List.replicate 24 (some lI)):=by kernel_rfl
end Go.Am
namespace Go.Am
open Go.Proofs
theorem aaI:Az Tryz.prog plan ai ah bD uj 3099 3098 3097 60 400 BL JE BM 2 0 2 lK=true:=by kernel_rfl
theorem P8:(List.map (aj Tryz.prog plan ai ah 2000 20 false [9,11,12,13,80,1072,1421,1783,2143,2144,2214,3266,3303,3579,3580,3581,3582,3746] 2 dD) [1])=List.map (fun _=>some dK) [1]:=by kernel_rfl
theorem Gg:eG Tryz.prog plan ai ah 2000 20 1 [9,11,3303,3580,3748,3749] 4 jP=some (List.replicate 24 (some lN)):=by kernel_rfl
theorem aaS:(List.range 6).map (lV Tryz.prog plan ai ah 2000 dL)=(List.range 6).map fun _=>some 5:=by kernel_rfl
end Go.Am
