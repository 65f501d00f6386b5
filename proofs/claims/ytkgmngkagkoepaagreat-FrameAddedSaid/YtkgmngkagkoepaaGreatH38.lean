import Derived.Test.YtkgmngkagkoepaaGreatH35
set_option linter.all false
namespace Go.Am
open Go.Proofs
theorem Zh:bC Tryz.prog plan aA 3415 28 3 kS.2=some kT:=by kernel_rfl
theorem Zi:jS Tryz.prog plan bQ bJ aA jT 3415 3414 3413 60 400 fB iE fC 6 699 0 kT.1=true:=by kernel_rfl
theorem Zj:bC Tryz.prog plan aA 3415 28 3 kT.2=some kV:=by kernel_rfl
theorem Zk:jS Tryz.prog plan bQ bJ aA jT 3415 3414 3413 60 400 fB iE fC 7 903 0 kV.1=true:=by kernel_rfl
theorem Zl:bC Tryz.prog plan aA 3415 28 3 kV.2=some kW:=by kernel_rfl
theorem Zm:jS Tryz.prog plan bQ bJ aA jT 3415 3414 3413 60 400 fB iE fC 8 1932 4 kW.1=true:=by kernel_rfl
theorem Zo:bC Tryz.prog plan aA 3415 28 3 kW.2=some kX:=by kernel_rfl
theorem Zq:jS Tryz.prog plan bQ bJ aA jT 3415 3414 3413 60 400 fB iE fC 9 1246 4 kX.1=true:=by kernel_rfl
theorem Ua:bC Tryz.prog plan aA 3415 28 3 kX.2=some ji:=by kernel_rfl
theorem Ub:jS Tryz.prog plan bQ bJ aA jT 3415 3414 3413 60 400 fB iE fC 10 1046 0 ji.1=true:=by kernel_rfl
theorem Uc:bC Tryz.prog plan aA 3415 28 3 ji.2=some jk:=by kernel_rfl
theorem Ud:jS Tryz.prog plan bQ bJ aA jT 3415 3414 3413 60 400 fB iE fC 11 2009 4 jk.1=true:=by kernel_rfl
theorem Ue:bC Tryz.prog plan aA 3415 28 3 jk.2=some jl:=by kernel_rfl
theorem Uf:jS Tryz.prog plan bQ bJ aA jT 3415 3414 3413 60 400 fB iE fC 12 1291 4 jl.1=true:=by kernel_rfl
theorem Ug:bC Tryz.prog plan aA 3415 28 3 jl.2=some jm:=by kernel_rfl
theorem Uh:jS Tryz.prog plan bQ bJ aA jT 3415 3414 3413 60 400 fB iE fC 13 1075 0 jm.1=true:=by kernel_rfl
theorem Ui:bC Tryz.prog plan aA 3415 28 3 jm.2=some jo:=by kernel_rfl
theorem Uj:jS Tryz.prog plan bQ bJ aA jT 3415 3414 3413 60 400 fB iE fC 14 1471 4 jo.1=true:=by kernel_rfl
theorem Uk:bC Tryz.prog plan aA 3415 28 3 jo.2=some pg:=by kernel_rfl
theorem Ul:jS Tryz.prog plan bQ bJ aA jT 3415 3414 3413 60 400 fB iE fC 15 1516 4 pg.1=true:=by kernel_rfl
theorem abL:WH Tryz.prog plan aA 3415 16 3413 [2] [5,8,9,10,11,328,920,1167,1454,1700,2446,2779,2781,2786,2914,3162,3172,3180,3181,3254,3255,3258,3259,3270,3276,3282,3288,3296,3302,3308,3316,3322,3330,3342,3348,3356,3368,3388,3390,3413,3446,3447] pg.2=some PY:=by kernel_rfl
theorem afM:Vg Tryz.prog plan bQ bJ 332 (.bool true) PY=true:=by kernel_rfl
end Go.Am
