import Derived.Test.YtkgmngkagkoepaaGreatH35
set_option linter.all false
namespace Go.Am
open Go.Proofs
theorem TP:iq Tryz.prog plan bQ bJ 2000 20 true [5,8,9,10,11,328,920,1167,1454,1700,2446,2453,2511,2517,2679,2689] 2 qN=some uz:=by kernel_rfl
theorem TQ:iq Tryz.prog plan bQ bJ 2000 20 true [5,8,9,10,11,328,920,1167,1454,1700,2446,2453,2511,2517,2679,2689] 3 qN=some uz:=by kernel_rfl
theorem TR:iq Tryz.prog plan bQ bJ 2000 20 true [5,8,9,10,11,328,920,1167,1454,1700,2446,2453,2511,2517,2679,2689] 4 qN=some uz:=by kernel_rfl
theorem abI:stepS Tryz.prog plan bQ bJ 141 [5,8,9,10,11,328,920,1167,1454,1700,2446,2453,2511,2517,2679,2702,2705,2706] uz=some qO:=by kernel_rfl
theorem Y4:yc Tryz.prog qO=some 5:=by kernel_rfl
theorem TS:iq Tryz.prog plan bQ bJ 2000 20 true [5,8,9,10,11,328,920,1167,1454,1700,2446,2453,2511,2517,2679,2702] 0 qO=some uA:=by kernel_rfl
theorem TT:iq Tryz.prog plan bQ bJ 2000 20 true [5,8,9,10,11,328,920,1167,1454,1700,2446,2453,2511,2517,2679,2702] 1 qO=some uA:=by kernel_rfl
theorem TW:iq Tryz.prog plan bQ bJ 2000 20 true [5,8,9,10,11,328,920,1167,1454,1700,2446,2453,2511,2517,2679,2702] 2 qO=some uA:=by kernel_rfl
theorem TY:iq Tryz.prog plan bQ bJ 2000 20 true [5,8,9,10,11,328,920,1167,1454,1700,2446,2453,2511,2517,2679,2702] 3 qO=some uA:=by kernel_rfl
theorem TZ:iq Tryz.prog plan bQ bJ 2000 20 true [5,8,9,10,11,328,920,1167,1454,1700,2446,2453,2511,2517,2679,2702] 4 qO=some uA:=by kernel_rfl
theorem abJ:stepS Tryz.prog plan bQ bJ 5690 [5,8,9,10,11,328,920,1167,1454,1700,2446,2779,2781,2786,2914,3162,3172,3180,3181,3254,3255,3258,3259,3270,3276,3282,3288,3296,3302,3308,3316,3322,3330,3342,3348,3356,3368,3388,3390,3413] uA=some PX:=by kernel_rfl
theorem abK:muS Tryz.prog plan aA jT 2 3 3413 4 [16] [5,8,9,10,11,328,920,1167,1454,1700,2446,2779,2781,2786,2914,3162,3172,3180,3181,3254,3255,3258,3259,3270,3276,3282,3288,3296,3302,3308,3316,3322,3330,3342,3348,3356,3368,3388,3390] PX=some (3414,3415,xE):=by kernel_rfl
theorem Y5:bC Tryz.prog plan aA 3415 31 3 xE=some kM:=by kernel_rfl
theorem Y6:jS Tryz.prog plan bQ bJ aA jT 3415 3414 3413 60 400 fB iE fC 0 604 0 kM.1=true:=by kernel_rfl
theorem Y7:bC Tryz.prog plan aA 3415 28 3 kM.2=some kN:=by kernel_rfl
theorem Y8:jS Tryz.prog plan bQ bJ aA jT 3415 3414 3413 60 400 fB iE fC 1 633 0 kN.1=true:=by kernel_rfl
theorem Y9:bC Tryz.prog plan aA 3415 28 3 kN.2=some kP:=by kernel_rfl
theorem Za:jS Tryz.prog plan bQ bJ aA jT 3415 3414 3413 60 400 fB iE fC 2 1707 4 kP.1=true:=by kernel_rfl
theorem Zb:bC Tryz.prog plan aA 3415 28 3 kP.2=some kQ:=by kernel_rfl
theorem Zc:jS Tryz.prog plan bQ bJ aA jT 3415 3414 3413 60 400 fB iE fC 3 670 0 kQ.1=true:=by kernel_rfl
theorem Zd:bC Tryz.prog plan aA 3415 28 3 kQ.2=some kR:=by kernel_rfl
theorem Ze:jS Tryz.prog plan bQ bJ aA jT 3415 3414 3413 60 400 fB iE fC 4 874 0 kR.1=true:=by kernel_rfl
theorem Zf:bC Tryz.prog plan aA 3415 28 3 kR.2=some kS:=by kernel_rfl
theorem Zg:jS Tryz.prog plan bQ bJ aA jT 3415 3414 3413 60 400 fB iE fC 5 1784 4 kS.1=true:=by kernel_rfl
end Go.Am
