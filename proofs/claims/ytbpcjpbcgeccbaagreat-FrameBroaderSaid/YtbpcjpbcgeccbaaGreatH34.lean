import Derived.Test.YtbpcjpbcgeccbaaGreatH32
set_option linter.unusedVariables false
set_option linter.unusedSectionVars false
set_option linter.unusedSimpArgs false
namespace Go.Am
open Go.Proofs
theorem Tryz.abE:gW Tryz.prog plan Tryz.tT Tryz.tF 2000 20 true [5,8,9,10,11,328,920,1167,1454,1700,2446,2453,2511,2517,2679,2689] 2 Tryz.MC=some Tryz.QL:=by kernel_rfl
theorem Tryz.abG:gW Tryz.prog plan Tryz.tT Tryz.tF 2000 20 true [5,8,9,10,11,328,920,1167,1454,1700,2446,2453,2511,2517,2679,2689] 3 Tryz.MC=some Tryz.QL:=by kernel_rfl
theorem Tryz.abH:gW Tryz.prog plan Tryz.tT Tryz.tF 2000 20 true [5,8,9,10,11,328,920,1167,1454,1700,2446,2453,2511,2517,2679,2689] 4 Tryz.MC=some Tryz.QL:=by kernel_rfl
theorem Tryz.akk:stepS Tryz.prog plan Tryz.tT Tryz.tF 141 [5,8,9,10,11,328,920,1167,1454,1700,2446,2453,2511,2517,2679,2702,2705,2706] Tryz.QL=some Tryz.MF:=by kernel_rfl
theorem Tryz.afN:xX Tryz.prog Tryz.MF=some 5:=by kernel_rfl
theorem Tryz.abI:gW Tryz.prog plan Tryz.tT Tryz.tF 2000 20 true [5,8,9,10,11,328,920,1167,1454,1700,2446,2453,2511,2517,2679,2702] 0 Tryz.MF=some Tryz.QM:=by kernel_rfl
theorem Tryz.abJ:gW Tryz.prog plan Tryz.tT Tryz.tF 2000 20 true [5,8,9,10,11,328,920,1167,1454,1700,2446,2453,2511,2517,2679,2702] 1 Tryz.MF=some Tryz.QM:=by kernel_rfl
theorem Tryz.abK:gW Tryz.prog plan Tryz.tT Tryz.tF 2000 20 true [5,8,9,10,11,328,920,1167,1454,1700,2446,2453,2511,2517,2679,2702] 2 Tryz.MF=some Tryz.QM:=by kernel_rfl
theorem Tryz.abL:gW Tryz.prog plan Tryz.tT Tryz.tF 2000 20 true [5,8,9,10,11,328,920,1167,1454,1700,2446,2453,2511,2517,2679,2702] 3 Tryz.MF=some Tryz.QM:=by kernel_rfl
theorem Tryz.abM:gW Tryz.prog plan Tryz.tT Tryz.tF 2000 20 true [5,8,9,10,11,328,920,1167,1454,1700,2446,2453,2511,2517,2679,2702] 4 Tryz.MF=some Tryz.QM:=by kernel_rfl
theorem Tryz.akl:stepS Tryz.prog plan Tryz.tT Tryz.tF 5690 [5,8,9,10,11,328,920,1167,1454,1700,2446,2779,2781,2786,2914,3162,3172,3180,3181,3254,3255,3258,3259,3270,3276,3282,3288,3296,3302,3308,3316,3322,3330,3342,3348,3356,3368,3388,3390,3413] Tryz.QM=some Tryz.afA:=by kernel_rfl
theorem Tryz.akm:muS Tryz.prog plan Tryz.link Tryz.mx 2 3 3413 4 [16] [5,8,9,10,11,328,920,1167,1454,1700,2446,2779,2781,2786,2914,3162,3172,3180,3181,3254,3255,3258,3259,3270,3276,3282,3288,3296,3302,3308,3316,3322,3330,3342,3348,3356,3368,3388,3390] Tryz.afA=some (3414,3415,Tryz.Vw):=by kernel_rfl
theorem Tryz.afO:aU Tryz.prog plan Tryz.link 3415 31 3 Tryz.Vw=some Tryz.zy:=by kernel_rfl
theorem Tryz.afP:jZ Tryz.prog plan Tryz.tT Tryz.tF Tryz.link Tryz.mx 3415 3414 3413 60 400 Tryz.sG Tryz.f14 Tryz.sH 0 604 0 Tryz.zy.1=true:=by kernel_rfl
theorem Tryz.afQ:aU Tryz.prog plan Tryz.link 3415 28 3 Tryz.zy.2=some Tryz.zB:=by kernel_rfl
theorem Tryz.afR:jZ Tryz.prog plan Tryz.tT Tryz.tF Tryz.link Tryz.mx 3415 3414 3413 60 400 Tryz.sG Tryz.f14 Tryz.sH 1 633 0 Tryz.zB.1=true:=by kernel_rfl
theorem Tryz.afS:aU Tryz.prog plan Tryz.link 3415 28 3 Tryz.zB.2=some Tryz.zC:=by kernel_rfl
theorem Tryz.afT:jZ Tryz.prog plan Tryz.tT Tryz.tF Tryz.link Tryz.mx 3415 3414 3413 60 400 Tryz.sG Tryz.f14 Tryz.sH 2 1707 4 Tryz.zC.1=true:=by kernel_rfl
theorem Tryz.afU:aU Tryz.prog plan Tryz.link 3415 28 3 Tryz.zC.2=some Tryz.zD:=by kernel_rfl
theorem Tryz.afV:jZ Tryz.prog plan Tryz.tT Tryz.tF Tryz.link Tryz.mx 3415 3414 3413 60 400 Tryz.sG Tryz.f14 Tryz.sH 3 670 0 Tryz.zD.1=true:=by kernel_rfl
theorem Tryz.afW:aU Tryz.prog plan Tryz.link 3415 28 3 Tryz.zD.2=some Tryz.zF:=by kernel_rfl
theorem Tryz.afX:jZ Tryz.prog plan Tryz.tT Tryz.tF Tryz.link Tryz.mx 3415 3414 3413 60 400 Tryz.sG Tryz.f14 Tryz.sH 4 874 0 Tryz.zF.1=true:=by kernel_rfl
theorem Tryz.afY:aU Tryz.prog plan Tryz.link 3415 28 3 Tryz.zF.2=some Tryz.zG:=by kernel_rfl
theorem Tryz.afZ:jZ Tryz.prog plan Tryz.tT Tryz.tF Tryz.link Tryz.mx 3415 3414 3413 60 400 Tryz.sG Tryz.f14 Tryz.sH 5 1784 4 Tryz.zG.1=true:=by kernel_rfl
end Go.Am
