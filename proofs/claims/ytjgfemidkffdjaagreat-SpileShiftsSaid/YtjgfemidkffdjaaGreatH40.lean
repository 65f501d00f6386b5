import Derived.Test.YtjgfemidkffdjaaGreatH32
set_option linter.all false
namespace Go.Am
open Go.Proofs
theorem aaG:Az Tryz.prog plan ai ah bD uj 3099 3098 3097 60 400 BL JE BM 1 0 2 lJ=true:=by kernel_rfl
theorem aaH:iU Tryz.prog plan bD 3099 25 3 mD.2=some uu:=by kernel_rfl
end Go.Am
namespace Go.Am
open Go.Proofs
theorem MC:Aw Tryz.prog plan ai ah 113 [9,11,2817,3095,3264,3265,3266,3267] uu.1=some jM:=by kernel_rfl
end Go.Am
namespace Go.Am
open Go.Proofs
theorem JP:jc Tryz.prog jM=some 5:=by kernel_rfl
end Go.Am
namespace Go.Am
open Go.Proofs
theorem FP:eG Tryz.prog plan ai ah 2000 20 1 [9,11,2817,3095,3264,3265] 0 jM=some (List.replicate 24 (some lK)):=by kernel_rfl
end Go.Am
namespace Go.Am
open Go.Proofs
theorem FQ:eG Tryz.prog plan ai ah 2000 20 1 [9,11,2817,3095,3264,3265] 1 jM=some (List.replicate 24 (some lK)):=by kernel_rfl
end Go.Am
namespace Go.Am
open Go.Proofs
theorem FU:eG Tryz.prog plan ai ah 2000 20 1 [9,11,2817,3095,3264,3265] 2 jM=some (List.replicate 24 (some lK)):=by kernel_rfl
end Go.Am
namespace Go.Am
open Go.Proofs
theorem FV:eG Tryz.prog plan ai ah 2000 20 1 [9,11,2817,3095,3264,3265] 3 jM=some (List.replicate 24 (some lK)):=by kernel_rfl
end Go.Am
namespace Go.Am
open Go.Proofs
theorem FW:eG Tryz.prog plan ai ah 2000 20 1 [9,11,2817,3095,3264,3265] 4 jM=some (List.replicate 24 (some lK)):=by kernel_rfl
theorem aaI:Az Tryz.prog plan ai ah bD uj 3099 3098 3097 60 400 BL JE BM 2 0 2 lK=true:=by kernel_rfl
theorem acX:TQ Tryz.prog plan bD 3099 16 3097 [-3,6] [9,11,12,13,80,1072,1421,1783,2143,2144,2214,2780,2817,3093,3094,3095,3096,3097,3261,3264] uu.2=some Ul:=by kernel_rfl
theorem acY:stepS Tryz.prog plan ai ah 2455 [9,11,12,13,80,1072,1421,1783,2143,2144,2214,3266,3303,3579,3580,3581,3582] Ul=some BO:=by kernel_rfl
theorem acZ:muG Tryz.prog plan bD uj 2 3 [9,11,12,13,80,1072,1421,1783,2143,2144,2214,3266,3303,3579,3580,3581,3582] BO=some (3583,3584,Um):=by kernel_rfl
end Go.Am
