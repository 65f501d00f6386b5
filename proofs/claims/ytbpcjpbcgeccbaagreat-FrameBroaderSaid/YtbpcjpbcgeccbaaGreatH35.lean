import Derived.Test.YtbpcjpbcgeccbaaGreatH32
set_option linter.unusedVariables false
set_option linter.unusedSectionVars false
set_option linter.unusedSimpArgs false
namespace Go.Am
open Go.Proofs
theorem Tryz.af0:aU Tryz.prog plan Tryz.link 3415 28 3 Tryz.zG.2=some Tryz.zH:=by kernel_rfl
theorem Tryz.af1:jZ Tryz.prog plan Tryz.tT Tryz.tF Tryz.link Tryz.mx 3415 3414 3413 60 400 Tryz.sG Tryz.f14 Tryz.sH 6 699 0 Tryz.zH.1=true:=by kernel_rfl
theorem Tryz.af2:aU Tryz.prog plan Tryz.link 3415 28 3 Tryz.zH.2=some Tryz.zI:=by kernel_rfl
theorem Tryz.af4:jZ Tryz.prog plan Tryz.tT Tryz.tF Tryz.link Tryz.mx 3415 3414 3413 60 400 Tryz.sG Tryz.f14 Tryz.sH 7 903 0 Tryz.zI.1=true:=by kernel_rfl
theorem Tryz.af5:aU Tryz.prog plan Tryz.link 3415 28 3 Tryz.zI.2=some Tryz.zJ:=by kernel_rfl
theorem Tryz.af6:jZ Tryz.prog plan Tryz.tT Tryz.tF Tryz.link Tryz.mx 3415 3414 3413 60 400 Tryz.sG Tryz.f14 Tryz.sH 8 1932 4 Tryz.zJ.1=true:=by kernel_rfl
theorem Tryz.af7:aU Tryz.prog plan Tryz.link 3415 28 3 Tryz.zJ.2=some Tryz.zL:=by kernel_rfl
theorem Tryz.af8:jZ Tryz.prog plan Tryz.tT Tryz.tF Tryz.link Tryz.mx 3415 3414 3413 60 400 Tryz.sG Tryz.f14 Tryz.sH 9 1246 4 Tryz.zL.1=true:=by kernel_rfl
theorem Tryz.abN:aU Tryz.prog plan Tryz.link 3415 28 3 Tryz.zL.2=some Tryz.sJ:=by kernel_rfl
theorem Tryz.abO:jZ Tryz.prog plan Tryz.tT Tryz.tF Tryz.link Tryz.mx 3415 3414 3413 60 400 Tryz.sG Tryz.f14 Tryz.sH 10 1046 0 Tryz.sJ.1=true:=by kernel_rfl
theorem Tryz.abP:aU Tryz.prog plan Tryz.link 3415 28 3 Tryz.sJ.2=some Tryz.sK:=by kernel_rfl
theorem Tryz.abQ:jZ Tryz.prog plan Tryz.tT Tryz.tF Tryz.link Tryz.mx 3415 3414 3413 60 400 Tryz.sG Tryz.f14 Tryz.sH 11 2009 4 Tryz.sK.1=true:=by kernel_rfl
theorem Tryz.abR:aU Tryz.prog plan Tryz.link 3415 28 3 Tryz.sK.2=some Tryz.sN:=by kernel_rfl
theorem Tryz.abS:jZ Tryz.prog plan Tryz.tT Tryz.tF Tryz.link Tryz.mx 3415 3414 3413 60 400 Tryz.sG Tryz.f14 Tryz.sH 12 1291 4 Tryz.sN.1=true:=by kernel_rfl
theorem Tryz.abT:aU Tryz.prog plan Tryz.link 3415 28 3 Tryz.sN.2=some Tryz.sO:=by kernel_rfl
theorem Tryz.abU:jZ Tryz.prog plan Tryz.tT Tryz.tF Tryz.link Tryz.mx 3415 3414 3413 60 400 Tryz.sG Tryz.f14 Tryz.sH 13 1075 0 Tryz.sO.1=true:=by kernel_rfl
theorem Tryz.abV:aU Tryz.prog plan Tryz.link 3415 28 3 Tryz.sO.2=some Tryz.sS:=by kernel_rfl
theorem Tryz.abW:jZ Tryz.prog plan Tryz.tT Tryz.tF Tryz.link Tryz.mx 3415 3414 3413 60 400 Tryz.sG Tryz.f14 Tryz.sH 14 1471 4 Tryz.sS.1=true:=by kernel_rfl
theorem Tryz.abX:aU Tryz.prog plan Tryz.link 3415 28 3 Tryz.sS.2=some Tryz.Di:=by kernel_rfl
theorem Tryz.abY:jZ Tryz.prog plan Tryz.tT Tryz.tF Tryz.link Tryz.mx 3415 3414 3413 60 400 Tryz.sG Tryz.f14 Tryz.sH 15 1516 4 Tryz.Di.1=true:=by kernel_rfl
theorem Tryz.akn:UH Tryz.prog plan Tryz.link 3415 16 3413 [2] [5,8,9,10,11,328,920,1167,1454,1700,2446,2779,2781,2786,2914,3162,3172,3180,3181,3254,3255,3258,3259,3270,3276,3282,3288,3296,3302,3308,3316,3322,3330,3342,3348,3356,3368,3388,3390,3413,3446,3447] Tryz.Di.2=some Tryz.afB:=by kernel_rfl
theorem Tryz.fin:SC Tryz.prog plan Tryz.tT Tryz.tF 332 (.bool true) Tryz.afB=true:=by kernel_rfl
end Go.Am
