import Derived.Test.YtjgfemidkffdjaaGreatH32
set_option linter.all false
namespace Go.Am
open Go.Proofs
theorem MF:Aw Tryz.prog plan ai ah 113 [9,11,3303,3580,3747,3748,3749,3750] mF.1=some jO:=by kernel_rfl
end Go.Am
namespace Go.Am
open Go.Proofs
theorem JQ:jc Tryz.prog jO=some 5:=by kernel_rfl
end Go.Am
namespace Go.Am
open Go.Proofs
theorem FX:eG Tryz.prog plan ai ah 2000 20 1 [9,11,3303,3580,3747,3748] 0 jO=some (List.replicate 24 (some lM)):=by kernel_rfl
end Go.Am
namespace Go.Am
open Go.Proofs
theorem FY:eG Tryz.prog plan ai ah 2000 20 1 [9,11,3303,3580,3747,3748] 1 jO=some (List.replicate 24 (some lM)):=by kernel_rfl
end Go.Am
namespace Go.Am
open Go.Proofs
theorem FZ:eG Tryz.prog plan ai ah 2000 20 1 [9,11,3303,3580,3747,3748] 2 jO=some (List.replicate 24 (some lM)):=by kernel_rfl
end Go.Am
namespace Go.Am
open Go.Proofs
theorem F5:eG Tryz.prog plan ai ah 2000 20 1 [9,11,3303,3580,3747,3748] 3 jO=some (List.replicate 24 (some lM)):=by kernel_rfl
end Go.Am
namespace Go.Am
open Go.Proofs
theorem F6:eG Tryz.prog plan ai ah 2000 20 1 [9,11,3303,3580,3747,3748] 4 jO=some (List.replicate 24 (some lM)):=by kernel_rfl
theorem aaM:Az Tryz.prog plan ai ah bD uj 3584 3583 3582 60 400 BJ JD BK 0 0 2 lM=true:=by kernel_rfl
theorem aaN:iU Tryz.prog plan bD 3584 25 3 mF.2=some mG:=by kernel_rfl
end Go.Am
namespace Go.Am
open Go.Proofs
theorem MG:Aw Tryz.prog plan ai ah 113 [9,11,3303,3580,3748,3749,3750,3751] mG.1=some jP:=by kernel_rfl
end Go.Am
namespace Go.Am
open Go.Proofs
theorem JR:jc Tryz.prog jP=some 5:=by kernel_rfl
end Go.Am
namespace Go.Am
open Go.Proofs
theorem F7:eG Tryz.prog plan ai ah 2000 20 1 [9,11,3303,3580,3748,3749] 0 jP=some (List.replicate 24 (some lN)):=by kernel_rfl
end Go.Am
namespace Go.Am
open Go.Proofs
theorem F8:eG Tryz.prog plan ai ah 2000 20 1 [9,11,3303,3580,3748,3749] 1 jP=some (List.replicate 24 (some lN)):=by kernel_rfl
end Go.Am
