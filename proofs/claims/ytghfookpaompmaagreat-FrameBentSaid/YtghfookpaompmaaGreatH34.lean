import Derived.Test.YtghfookpaompmaaGreatH31
set_option linter.unusedVariables false
set_option linter.unusedSectionVars false
set_option linter.unusedSimpArgs false
namespace Go.Am
open Go.Proofs
theorem Tryz.e15_6:spawnS1 Tryz.prog plan Tryz.link 3415 28 3 Tryz.g15_5.2=some Tryz.g15_6:=by kernel_rfl
theorem Tryz.w15_6:workM Tryz.prog plan Tryz.tT Tryz.tF Tryz.link Tryz.mx 3415 3414 3413 60 400 Tryz.Vs14 Tryz.f14 Tryz.lk14 6 699 0 Tryz.g15_6.1=true:=by kernel_rfl
theorem Tryz.e15_7:spawnS1 Tryz.prog plan Tryz.link 3415 28 3 Tryz.g15_6.2=some Tryz.g15_7:=by kernel_rfl
theorem Tryz.w15_7:workM Tryz.prog plan Tryz.tT Tryz.tF Tryz.link Tryz.mx 3415 3414 3413 60 400 Tryz.Vs14 Tryz.f14 Tryz.lk14 7 903 0 Tryz.g15_7.1=true:=by kernel_rfl
theorem Tryz.e15_8:spawnS1 Tryz.prog plan Tryz.link 3415 28 3 Tryz.g15_7.2=some Tryz.g15_8:=by kernel_rfl
theorem Tryz.w15_8:workM Tryz.prog plan Tryz.tT Tryz.tF Tryz.link Tryz.mx 3415 3414 3413 60 400 Tryz.Vs14 Tryz.f14 Tryz.lk14 8 1932 4 Tryz.g15_8.1=true:=by kernel_rfl
theorem Tryz.e15_9:spawnS1 Tryz.prog plan Tryz.link 3415 28 3 Tryz.g15_8.2=some Tryz.g15_9:=by kernel_rfl
theorem Tryz.w15_9:workM Tryz.prog plan Tryz.tT Tryz.tF Tryz.link Tryz.mx 3415 3414 3413 60 400 Tryz.Vs14 Tryz.f14 Tryz.lk14 9 1246 4 Tryz.g15_9.1=true:=by kernel_rfl
theorem Tryz.e15_10:spawnS1 Tryz.prog plan Tryz.link 3415 28 3 Tryz.g15_9.2=some Tryz.g15_10:=by kernel_rfl
theorem Tryz.w15_10:workM Tryz.prog plan Tryz.tT Tryz.tF Tryz.link Tryz.mx 3415 3414 3413 60 400 Tryz.Vs14 Tryz.f14 Tryz.lk14 10 1046 0 Tryz.g15_10.1=true:=by kernel_rfl
theorem Tryz.e15_11:spawnS1 Tryz.prog plan Tryz.link 3415 28 3 Tryz.g15_10.2=some Tryz.g15_11:=by kernel_rfl
theorem Tryz.w15_11:workM Tryz.prog plan Tryz.tT Tryz.tF Tryz.link Tryz.mx 3415 3414 3413 60 400 Tryz.Vs14 Tryz.f14 Tryz.lk14 11 2009 4 Tryz.g15_11.1=true:=by kernel_rfl
theorem Tryz.e15_12:spawnS1 Tryz.prog plan Tryz.link 3415 28 3 Tryz.g15_11.2=some Tryz.g15_12:=by kernel_rfl
theorem Tryz.w15_12:workM Tryz.prog plan Tryz.tT Tryz.tF Tryz.link Tryz.mx 3415 3414 3413 60 400 Tryz.Vs14 Tryz.f14 Tryz.lk14 12 1291 4 Tryz.g15_12.1=true:=by kernel_rfl
theorem Tryz.e15_13:spawnS1 Tryz.prog plan Tryz.link 3415 28 3 Tryz.g15_12.2=some Tryz.g15_13:=by kernel_rfl
theorem Tryz.w15_13:workM Tryz.prog plan Tryz.tT Tryz.tF Tryz.link Tryz.mx 3415 3414 3413 60 400 Tryz.Vs14 Tryz.f14 Tryz.lk14 13 1075 0 Tryz.g15_13.1=true:=by kernel_rfl
theorem Tryz.e15_14:spawnS1 Tryz.prog plan Tryz.link 3415 28 3 Tryz.g15_13.2=some Tryz.g15_14:=by kernel_rfl
theorem Tryz.w15_14:workM Tryz.prog plan Tryz.tT Tryz.tF Tryz.link Tryz.mx 3415 3414 3413 60 400 Tryz.Vs14 Tryz.f14 Tryz.lk14 14 1471 4 Tryz.g15_14.1=true:=by kernel_rfl
theorem Tryz.e15_15:spawnS1 Tryz.prog plan Tryz.link 3415 28 3 Tryz.g15_14.2=some Tryz.g15_15:=by kernel_rfl
theorem Tryz.w15_15:workM Tryz.prog plan Tryz.tT Tryz.tF Tryz.link Tryz.mx 3415 3414 3413 60 400 Tryz.Vs14 Tryz.f14 Tryz.lk14 15 1516 4 Tryz.g15_15.1=true:=by kernel_rfl
theorem Tryz.to16:waitM Tryz.prog plan Tryz.link 3415 16 3413 [2] [5,8,9,10,11,328,920,1167,1454,1700,2446,2779,2781,2786,2914,3162,3172,3180,3181,3254,3255,3258,3259,3270,3276,3282,3288,3296,3302,3308,3316,3322,3330,3342,3348,3356,3368,3388,3390,3413,3446,3447] Tryz.g15_15.2=some Tryz.st16:=by kernel_rfl
theorem Tryz.fin:lastS Tryz.prog plan Tryz.tT Tryz.tF 332 (.bool true) Tryz.st16=true:=by kernel_rfl
end Go.Am
