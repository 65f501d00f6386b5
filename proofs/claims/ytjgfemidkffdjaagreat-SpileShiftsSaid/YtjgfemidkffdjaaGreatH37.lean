import Derived.Test.YtjgfemidkffdjaaGreatH32
set_option linter.all false
namespace Go.Am
open Go.Proofs
theorem Wn:(List.map (aj Tryz.prog plan ai ah 2000 20 true [9,11,12,13,80,1072,1421,1422,1457,1463,1768] 5 gm) [2,3])=List.map (fun _=>some iC) [2,3]:=by kernel_rfl
theorem agl:stepS Tryz.prog plan ai ah 2198 [9,11,12,13,80,1072,1421,1783,2143,2144,2214,2780,2817,3093,3094,3095,3096,3097] aax=some JF:=by kernel_rfl
theorem Px:(List.map (aj Tryz.prog plan ai ah 2000 20 false [9,11,12,13,80,1072,1421,1783,2143,2144,2214,2780,2817,3093,3094,3095,3096,3097,3261] 1 dB) [3])=List.map (fun _=>some dJ) [3]:=by kernel_rfl
theorem PM:(List.map (aj Tryz.prog plan ai ah 2000 20 false [9,11,12,13,80,1072,1421,1783,2143,2144,2214,2780,2817,3093,3094,3095,3096,3097,3261] 4 dB) [0])=List.map (fun _=>some dJ) [0]:=by kernel_rfl
theorem aaB:iU Tryz.prog plan bD 3099 2 3 yf=some mg:=by kernel_rfl
end Go.Am
namespace Go.Am
open Go.Proofs
theorem L9:Aw Tryz.prog plan ai ah 113 [9,11,2817,3095,3262,3263,3264,3265] mg.1=some jK:=by kernel_rfl
end Go.Am
namespace Go.Am
open Go.Proofs
theorem Qd:(List.map (aj Tryz.prog plan ai ah 2000 20 false [9,11,12,13,80,1072,1421,1783,2143,2144,2214,3266,3303,3579,3580,3581,3582,3746] 3 dD) [2])=List.map (fun _=>some dK) [2]:=by kernel_rfl
theorem ac6:stepS Tryz.prog plan ai ah 154 [9,11,12,13,80,1072,1421,1783,2143,2144,2214,3751,3783,3789,4094,4121,4125,4126] eU=some dN:=by kernel_rfl
theorem Rn:(List.map (aj Tryz.prog plan ai ah 2000 20 true [9,11,12,13,80,1072,1421,1783,2143,2144,2214,3751,3783,3789,4094,4121] 4 dN) [4])=List.map (fun _=>some eX) [4]:=by kernel_rfl
theorem agu:XP Tryz.prog plan ai ah 3320 (.bool true) Ur=true:=by kernel_rfl
end Go.Am
