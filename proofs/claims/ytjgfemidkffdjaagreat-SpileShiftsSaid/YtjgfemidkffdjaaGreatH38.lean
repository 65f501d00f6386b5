import Derived.Test.YtjgfemidkffdjaaGreatH32
set_option linter.all false
namespace Go.Am
open Go.Proofs
theorem WA:(List.map (aj Tryz.prog plan ai ah 2000 20 true [9,11,12,13,80,1072,1421,1783,1784,1819,1825,2130] 2 gp) [0,1])=List.map (fun _=>some iD) [0,1]:=by kernel_rfl
theorem WO:(List.map (aj Tryz.prog plan ai ah 2000 20 true [9,11,12,13,80,1072,1421,1783,1784,1819,1825,2130] 5 gp) [4])=List.map (fun _=>some iD) [4]:=by kernel_rfl
theorem Py:(List.map (aj Tryz.prog plan ai ah 2000 20 false [9,11,12,13,80,1072,1421,1783,2143,2144,2214,2780,2817,3093,3094,3095,3096,3097,3261] 2 dB) [0])=List.map (fun _=>some dJ) [0]:=by kernel_rfl
theorem Fq:eG Tryz.prog plan ai ah 2000 20 1 [9,11,2817,3095,3262,3263] 2 jK=some (List.replicate 24 (some lI)):=by kernel_rfl
end Go.Am
namespace Go.Am
open Go.Proofs
theorem FP:eG Tryz.prog plan ai ah 2000 20 1 [9,11,2817,3095,3264,3265] 0 jM=some (List.replicate 24 (some lK)):=by kernel_rfl
end Go.Am
namespace Go.Am
open Go.Proofs
theorem MF:Aw Tryz.prog plan ai ah 113 [9,11,3303,3580,3747,3748,3749,3750] mF.1=some jO:=by kernel_rfl
end Go.Am
namespace Go.Am
open Go.Proofs
theorem FX:eG Tryz.prog plan ai ah 2000 20 1 [9,11,3303,3580,3747,3748] 0 jO=some (List.replicate 24 (some lM)):=by kernel_rfl
end Go.Am
namespace Go.Am
open Go.Proofs
theorem aaN:iU Tryz.prog plan bD 3584 25 3 mF.2=some mG:=by kernel_rfl
end Go.Am
namespace Go.Am
open Go.Proofs
theorem JR:jc Tryz.prog jP=some 5:=by kernel_rfl
end Go.Am
namespace Go.Am
open Go.Proofs
theorem Rt:(List.map (aj Tryz.prog plan ai ah 2000 20 true [9,11,12,13,80,1072,1421,1783,2143,2144,2214,3751,3783,3789,4094,4121] 5 dN) [4])=List.map (fun _=>some eX) [4]:=by kernel_rfl
end Go.Am
