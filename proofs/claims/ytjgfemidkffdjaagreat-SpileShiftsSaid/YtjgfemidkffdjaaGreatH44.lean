import Derived.Test.YtjgfemidkffdjaaGreatH32
set_option linter.all false
namespace Go.Am
open Go.Proofs
theorem F9:eG Tryz.prog plan ai ah 2000 20 1 [9,11,3303,3580,3748,3749] 2 jP=some (List.replicate 24 (some lN)):=by kernel_rfl
end Go.Am
namespace Go.Am
open Go.Proofs
theorem Gf:eG Tryz.prog plan ai ah 2000 20 1 [9,11,3303,3580,3748,3749] 3 jP=some (List.replicate 24 (some lN)):=by kernel_rfl
end Go.Am
namespace Go.Am
open Go.Proofs
theorem Gg:eG Tryz.prog plan ai ah 2000 20 1 [9,11,3303,3580,3748,3749] 4 jP=some (List.replicate 24 (some lN)):=by kernel_rfl
theorem aaO:Az Tryz.prog plan ai ah bD uj 3584 3583 3582 60 400 BJ JD BK 1 0 2 lN=true:=by kernel_rfl
theorem aaP:iU Tryz.prog plan bD 3584 25 3 mG.2=some uw:=by kernel_rfl
end Go.Am
namespace Go.Am
open Go.Proofs
theorem MH:Aw Tryz.prog plan ai ah 113 [9,11,3303,3580,3749,3750,3751,3752] uw.1=some jQ:=by kernel_rfl
end Go.Am
namespace Go.Am
open Go.Proofs
theorem JS:jc Tryz.prog jQ=some 5:=by kernel_rfl
end Go.Am
namespace Go.Am
open Go.Proofs
theorem Gh:eG Tryz.prog plan ai ah 2000 20 1 [9,11,3303,3580,3749,3750] 0 jQ=some (List.replicate 24 (some lQ)):=by kernel_rfl
end Go.Am
namespace Go.Am
open Go.Proofs
theorem Gi:eG Tryz.prog plan ai ah 2000 20 1 [9,11,3303,3580,3749,3750] 1 jQ=some (List.replicate 24 (some lQ)):=by kernel_rfl
end Go.Am
namespace Go.Am
open Go.Proofs
theorem Gj:eG Tryz.prog plan ai ah 2000 20 1 [9,11,3303,3580,3749,3750] 2 jQ=some (List.replicate 24 (some lQ)):=by kernel_rfl
end Go.Am
namespace Go.Am
open Go.Proofs
theorem Gl:eG Tryz.prog plan ai ah 2000 20 1 [9,11,3303,3580,3749,3750] 3 jQ=some (List.replicate 24 (some lQ)):=by kernel_rfl
end Go.Am
namespace Go.Am
open Go.Proofs
theorem Gm:eG Tryz.prog plan ai ah 2000 20 1 [9,11,3303,3580,3749,3750] 4 jQ=some (List.replicate 24 (some lQ)):=by kernel_rfl
theorem aaQ:Az Tryz.prog plan ai ah bD uj 3584 3583 3582 60 400 BJ JD BK 2 0 2 lQ=true:=by kernel_rfl
end Go.Am
