import Derived.Test.YtjgfemidkffdjaaGreatH32
set_option linter.all false
namespace Go.Am
open Go.Proofs
theorem Fp:eG Tryz.prog plan ai ah 2000 20 1 [9,11,2817,3095,3262,3263] 1 jK=some (List.replicate 24 (some lI)):=by kernel_rfl
end Go.Am
namespace Go.Am
open Go.Proofs
theorem Fq:eG Tryz.prog plan ai ah 2000 20 1 [9,11,2817,3095,3262,3263] 2 jK=some (List.replicate 24 (some lI)):=by kernel_rfl
end Go.Am
namespace Go.Am
open Go.Proofs
theorem Fv:eG Tryz.prog plan ai ah 2000 20 1 [9,11,2817,3095,3262,3263] 3 jK=some (List.replicate 24 (some lI)):=by kernel_rfl
end Go.Am
namespace Go.Am
open Go.Proofs
theorem Fz:eG Tryz.prog plan ai ah 2000 20 1 [9,11,2817,3095,3262,3263] 4 jK=some (List.replicate 24 (some lI)):=by kernel_rfl
theorem aaC:Az Tryz.prog plan ai ah bD uj 3099 3098 3097 60 400 BL JE BM 0 0 2 lI=true:=by kernel_rfl
theorem aaD:iU Tryz.prog plan bD 3099 25 3 mg.2=some mD:=by kernel_rfl
end Go.Am
namespace Go.Am
open Go.Proofs
theorem Mc:Aw Tryz.prog plan ai ah 113 [9,11,2817,3095,3263,3264,3265,3266] mD.1=some jL:=by kernel_rfl
end Go.Am
namespace Go.Am
open Go.Proofs
theorem JH:jc Tryz.prog jL=some 5:=by kernel_rfl
end Go.Am
namespace Go.Am
open Go.Proofs
theorem FC:eG Tryz.prog plan ai ah 2000 20 1 [9,11,2817,3095,3263,3264] 0 jL=some (List.replicate 24 (some lJ)):=by kernel_rfl
end Go.Am
namespace Go.Am
open Go.Proofs
theorem FH:eG Tryz.prog plan ai ah 2000 20 1 [9,11,2817,3095,3263,3264] 1 jL=some (List.replicate 24 (some lJ)):=by kernel_rfl
end Go.Am
namespace Go.Am
open Go.Proofs
theorem FI:eG Tryz.prog plan ai ah 2000 20 1 [9,11,2817,3095,3263,3264] 2 jL=some (List.replicate 24 (some lJ)):=by kernel_rfl
end Go.Am
namespace Go.Am
open Go.Proofs
theorem FM:eG Tryz.prog plan ai ah 2000 20 1 [9,11,2817,3095,3263,3264] 3 jL=some (List.replicate 24 (some lJ)):=by kernel_rfl
end Go.Am
namespace Go.Am
open Go.Proofs
theorem FN:eG Tryz.prog plan ai ah 2000 20 1 [9,11,2817,3095,3263,3264] 4 jL=some (List.replicate 24 (some lJ)):=by kernel_rfl
end Go.Am
