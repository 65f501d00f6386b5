import Derived.Test.YtjgfemidkffdjaaGreatH32
set_option linter.all false
namespace Go.Am
open Go.Proofs
theorem acU:stepS Tryz.prog plan ai ah 106 [9,11,12,13,80,1072,1421,1783,2143,2144,2214,2780,2817,3093,3094,3095,3096,3097,3100,3101] aay=some dB:=by kernel_rfl
theorem aaz:jc Tryz.prog dB=some 5:=by kernel_rfl
theorem Pz:(List.map (aj Tryz.prog plan ai ah 2000 20 false [9,11,12,13,80,1072,1421,1783,2143,2144,2214,2780,2817,3093,3094,3095,3096,3097,3261] 2 dB) [1])=List.map (fun _=>some dJ) [1]:=by kernel_rfl
theorem FU:eG Tryz.prog plan ai ah 2000 20 1 [9,11,2817,3095,3264,3265] 2 jM=some (List.replicate 24 (some lK)):=by kernel_rfl
end Go.Am
namespace Go.Am
open Go.Proofs
theorem PU:(List.map (aj Tryz.prog plan ai ah 2000 20 false [9,11,12,13,80,1072,1421,1783,2143,2144,2214,3266,3303,3579,3580,3581,3582,3746] 0 dD) [0])=List.map (fun _=>some dK) [0]:=by kernel_rfl
theorem Gh:eG Tryz.prog plan ai ah 2000 20 1 [9,11,3303,3580,3749,3750] 0 jQ=some (List.replicate 24 (some lQ)):=by kernel_rfl
end Go.Am
namespace Go.Am
open Go.Proofs
theorem aaQ:Az Tryz.prog plan ai ah bD uj 3584 3583 3582 60 400 BJ JD BK 2 0 2 lQ=true:=by kernel_rfl
theorem Q5:(List.map (aj Tryz.prog plan ai ah 2000 20 true [9,11,12,13,80,1072,1421,1783,2143,2144,2214,3751,3783,3789,4094,4121] 1 dN) [2,3])=List.map (fun _=>some eX) [2,3]:=by kernel_rfl
theorem Q9:(List.map (aj Tryz.prog plan ai ah 2000 20 true [9,11,12,13,80,1072,1421,1783,2143,2144,2214,3751,3783,3789,4094,4121] 2 dN) [2,3])=List.map (fun _=>some eX) [2,3]:=by kernel_rfl
theorem ac7:stepS Tryz.prog plan ai ah 5968 [9,11,12,13,80,1072,1421,1783,2143,2144,2214,4140,4270,4272,4891,4894,4895,4896,4931,4934,4940] eX=some Uo:=by kernel_rfl
end Go.Am
