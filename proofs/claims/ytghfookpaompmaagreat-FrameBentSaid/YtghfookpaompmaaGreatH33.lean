import Derived.Test.YtghfookpaompmaaGreatH31
set_option linter.unusedVariables false
set_option linter.unusedSectionVars false
set_option linter.unusedSimpArgs false
namespace Go.Am
open Go.Proofs
theorem Tryz.to11p2:partS Tryz.prog plan Tryz.tT Tryz.tF 2000 20 true [5,8,9,10,11,328,920,1167,1454,1700,2446,2453,2511,2517,2679,2689] 2 Tryz.st10=some Tryz.st11:=by kernel_rfl
theorem Tryz.to11p3:partS Tryz.prog plan Tryz.tT Tryz.tF 2000 20 true [5,8,9,10,11,328,920,1167,1454,1700,2446,2453,2511,2517,2679,2689] 3 Tryz.st10=some Tryz.st11:=by kernel_rfl
theorem Tryz.to11p4:partS Tryz.prog plan Tryz.tT Tryz.tF 2000 20 true [5,8,9,10,11,328,920,1167,1454,1700,2446,2453,2511,2517,2679,2689] 4 Tryz.st10=some Tryz.st11:=by kernel_rfl
theorem Tryz.to12:stepS Tryz.prog plan Tryz.tT Tryz.tF 141 [5,8,9,10,11,328,920,1167,1454,1700,2446,2453,2511,2517,2679,2702,2705,2706] Tryz.st11=some Tryz.st12:=by kernel_rfl
theorem Tryz.to13q:arityS Tryz.prog Tryz.st12=some 5:=by kernel_rfl
theorem Tryz.to13p0:partS Tryz.prog plan Tryz.tT Tryz.tF 2000 20 true [5,8,9,10,11,328,920,1167,1454,1700,2446,2453,2511,2517,2679,2702] 0 Tryz.st12=some Tryz.st13:=by kernel_rfl
theorem Tryz.to13p1:partS Tryz.prog plan Tryz.tT Tryz.tF 2000 20 true [5,8,9,10,11,328,920,1167,1454,1700,2446,2453,2511,2517,2679,2702] 1 Tryz.st12=some Tryz.st13:=by kernel_rfl
theorem Tryz.to13p2:partS Tryz.prog plan Tryz.tT Tryz.tF 2000 20 true [5,8,9,10,11,328,920,1167,1454,1700,2446,2453,2511,2517,2679,2702] 2 Tryz.st12=some Tryz.st13:=by kernel_rfl
theorem Tryz.to13p3:partS Tryz.prog plan Tryz.tT Tryz.tF 2000 20 true [5,8,9,10,11,328,920,1167,1454,1700,2446,2453,2511,2517,2679,2702] 3 Tryz.st12=some Tryz.st13:=by kernel_rfl
theorem Tryz.to13p4:partS Tryz.prog plan Tryz.tT Tryz.tF 2000 20 true [5,8,9,10,11,328,920,1167,1454,1700,2446,2453,2511,2517,2679,2702] 4 Tryz.st12=some Tryz.st13:=by kernel_rfl
theorem Tryz.to14:stepS Tryz.prog plan Tryz.tT Tryz.tF 5690 [5,8,9,10,11,328,920,1167,1454,1700,2446,2779,2781,2786,2914,3162,3172,3180,3181,3254,3255,3258,3259,3270,3276,3282,3288,3296,3302,3308,3316,3322,3330,3342,3348,3356,3368,3388,3390,3413] Tryz.st13=some Tryz.st14:=by kernel_rfl
theorem Tryz.to15:muS Tryz.prog plan Tryz.link Tryz.mx 2 3 3413 4 [16] [5,8,9,10,11,328,920,1167,1454,1700,2446,2779,2781,2786,2914,3162,3172,3180,3181,3254,3255,3258,3259,3270,3276,3282,3288,3296,3302,3308,3316,3322,3330,3342,3348,3356,3368,3388,3390] Tryz.st14=some (3414,3415,Tryz.st15):=by kernel_rfl
theorem Tryz.e15_0:spawnS1 Tryz.prog plan Tryz.link 3415 31 3 Tryz.st15=some Tryz.g15_0:=by kernel_rfl
theorem Tryz.w15_0:workM Tryz.prog plan Tryz.tT Tryz.tF Tryz.link Tryz.mx 3415 3414 3413 60 400 Tryz.Vs14 Tryz.f14 Tryz.lk14 0 604 0 Tryz.g15_0.1=true:=by kernel_rfl
theorem Tryz.e15_1:spawnS1 Tryz.prog plan Tryz.link 3415 28 3 Tryz.g15_0.2=some Tryz.g15_1:=by kernel_rfl
theorem Tryz.w15_1:workM Tryz.prog plan Tryz.tT Tryz.tF Tryz.link Tryz.mx 3415 3414 3413 60 400 Tryz.Vs14 Tryz.f14 Tryz.lk14 1 633 0 Tryz.g15_1.1=true:=by kernel_rfl
theorem Tryz.e15_2:spawnS1 Tryz.prog plan Tryz.link 3415 28 3 Tryz.g15_1.2=some Tryz.g15_2:=by kernel_rfl
theorem Tryz.w15_2:workM Tryz.prog plan Tryz.tT Tryz.tF Tryz.link Tryz.mx 3415 3414 3413 60 400 Tryz.Vs14 Tryz.f14 Tryz.lk14 2 1707 4 Tryz.g15_2.1=true:=by kernel_rfl
theorem Tryz.e15_3:spawnS1 Tryz.prog plan Tryz.link 3415 28 3 Tryz.g15_2.2=some Tryz.g15_3:=by kernel_rfl
theorem Tryz.w15_3:workM Tryz.prog plan Tryz.tT Tryz.tF Tryz.link Tryz.mx 3415 3414 3413 60 400 Tryz.Vs14 Tryz.f14 Tryz.lk14 3 670 0 Tryz.g15_3.1=true:=by kernel_rfl
theorem Tryz.e15_4:spawnS1 Tryz.prog plan Tryz.link 3415 28 3 Tryz.g15_3.2=some Tryz.g15_4:=by kernel_rfl
theorem Tryz.w15_4:workM Tryz.prog plan Tryz.tT Tryz.tF Tryz.link Tryz.mx 3415 3414 3413 60 400 Tryz.Vs14 Tryz.f14 Tryz.lk14 4 874 0 Tryz.g15_4.1=true:=by kernel_rfl
theorem Tryz.e15_5:spawnS1 Tryz.prog plan Tryz.link 3415 28 3 Tryz.g15_4.2=some Tryz.g15_5:=by kernel_rfl
theorem Tryz.w15_5:workM Tryz.prog plan Tryz.tT Tryz.tF Tryz.link Tryz.mx 3415 3414 3413 60 400 Tryz.Vs14 Tryz.f14 Tryz.lk14 5 1784 4 Tryz.g15_5.1=true:=by kernel_rfl
end Go.Am
