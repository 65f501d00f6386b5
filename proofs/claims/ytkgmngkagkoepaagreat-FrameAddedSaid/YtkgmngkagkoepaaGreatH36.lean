import Derived.Test.YtkgmngkagkoepaaGreatH35
set_option linter.all false
namespace Go.Am
open Go.Proofs
theorem TL:I8 16 fC iE fB [16] [2]=true:=by kernel_rfl
theorem afF:stepS Tryz.prog plan bQ bJ 4144 [5,8,9,10,11,328,452,510] YN=some YO:=by kernel_rfl
theorem afG:stepS Tryz.prog plan bQ bJ 4774 [5,8,9,10,11,328,679,740,746,908,909,910] YO=some vV:=by kernel_rfl
theorem abE:yc Tryz.prog vV=some 5:=by kernel_rfl
theorem YT:iq Tryz.prog plan bQ bJ 2000 20 true [5,8,9,10,11,328,679,740,746,908] 0 vV=some yQ:=by kernel_rfl
theorem YU:iq Tryz.prog plan bQ bJ 2000 20 true [5,8,9,10,11,328,679,740,746,908] 1 vV=some yQ:=by kernel_rfl
theorem YV:iq Tryz.prog plan bQ bJ 2000 20 true [5,8,9,10,11,328,679,740,746,908] 2 vV=some yQ:=by kernel_rfl
theorem YW:iq Tryz.prog plan bQ bJ 2000 20 true [5,8,9,10,11,328,679,740,746,908] 3 vV=some yQ:=by kernel_rfl
theorem YX:iq Tryz.prog plan bQ bJ 2000 20 true [5,8,9,10,11,328,679,740,746,908] 4 vV=some yQ:=by kernel_rfl
theorem afH:stepS Tryz.prog plan bQ bJ 2529 [5,8,9,10,11,328,920,1167] yQ=some YP:=by kernel_rfl
theorem afI:stepS Tryz.prog plan bQ bJ 4156 [5,8,9,10,11,328,920,1167,1454,1455,1456,1514] YP=some YQ:=by kernel_rfl
theorem afJ:stepS Tryz.prog plan bQ bJ 5100 [5,8,9,10,11,328,920,1167,1454,1700,1943,2001] YQ=some YR:=by kernel_rfl
theorem afK:stepS Tryz.prog plan bQ bJ 5300 [5,8,9,10,11,328,920,1167,1454,1700,2446,2453,2511] YR=some YS:=by kernel_rfl
theorem afL:stepS Tryz.prog plan bQ bJ 2232 [5,8,9,10,11,328,920,1167,1454,1700,2446,2453,2511,2517,2679,2680,2681] YS=some vX:=by kernel_rfl
theorem abG:yc Tryz.prog vX=some 5:=by kernel_rfl
theorem YY:iq Tryz.prog plan bQ bJ 2000 20 true [5,8,9,10,11,328,920,1167,1454,1700,2446,2453,2511,2517,2679] 0 vX=some yR:=by kernel_rfl
theorem YZ:iq Tryz.prog plan bQ bJ 2000 20 true [5,8,9,10,11,328,920,1167,1454,1700,2446,2453,2511,2517,2679] 1 vX=some yR:=by kernel_rfl
theorem Y0:iq Tryz.prog plan bQ bJ 2000 20 true [5,8,9,10,11,328,920,1167,1454,1700,2446,2453,2511,2517,2679] 2 vX=some yR:=by kernel_rfl
theorem Y1:iq Tryz.prog plan bQ bJ 2000 20 true [5,8,9,10,11,328,920,1167,1454,1700,2446,2453,2511,2517,2679] 3 vX=some yR:=by kernel_rfl
theorem Y2:iq Tryz.prog plan bQ bJ 2000 20 true [5,8,9,10,11,328,920,1167,1454,1700,2446,2453,2511,2517,2679] 4 vX=some yR:=by kernel_rfl
theorem abH:stepS Tryz.prog plan bQ bJ 122 [5,8,9,10,11,328,920,1167,1454,1700,2446,2453,2511,2517,2679,2689,2691,2692] yR=some qN:=by kernel_rfl
theorem Y3:yc Tryz.prog qN=some 5:=by kernel_rfl
theorem TM:iq Tryz.prog plan bQ bJ 2000 20 true [5,8,9,10,11,328,920,1167,1454,1700,2446,2453,2511,2517,2679,2689] 0 qN=some uz:=by kernel_rfl
theorem TN:iq Tryz.prog plan bQ bJ 2000 20 true [5,8,9,10,11,328,920,1167,1454,1700,2446,2453,2511,2517,2679,2689] 1 qN=some uz:=by kernel_rfl
end Go.Am
