import Derived.Test.YtbpcjpbcgeccbaaGreatH32
set_option linter.unusedVariables false
set_option linter.unusedSectionVars false
set_option linter.unusedSimpArgs false
namespace Go.Am
open Go.Proofs
theorem Tryz.abB:Jn 16 Tryz.sH Tryz.f14 Tryz.sG [16] [2]=true:=by kernel_rfl
theorem Tryz.to1:stepS Tryz.prog plan Tryz.tT Tryz.tF 4144 [5,8,9,10,11,328,452,510] Tryz.st0=some Tryz.st1:=by kernel_rfl
theorem Tryz.to2:stepS Tryz.prog plan Tryz.tT Tryz.tF 4774 [5,8,9,10,11,328,679,740,746,908,909,910] Tryz.st1=some Tryz.st2:=by kernel_rfl
theorem Tryz.akh:xX Tryz.prog Tryz.st2=some 5:=by kernel_rfl
theorem Tryz.afC:gW Tryz.prog plan Tryz.tT Tryz.tF 2000 20 true [5,8,9,10,11,328,679,740,746,908] 0 Tryz.st2=some Tryz.st3:=by kernel_rfl
theorem Tryz.afD:gW Tryz.prog plan Tryz.tT Tryz.tF 2000 20 true [5,8,9,10,11,328,679,740,746,908] 1 Tryz.st2=some Tryz.st3:=by kernel_rfl
theorem Tryz.afE:gW Tryz.prog plan Tryz.tT Tryz.tF 2000 20 true [5,8,9,10,11,328,679,740,746,908] 2 Tryz.st2=some Tryz.st3:=by kernel_rfl
theorem Tryz.afF:gW Tryz.prog plan Tryz.tT Tryz.tF 2000 20 true [5,8,9,10,11,328,679,740,746,908] 3 Tryz.st2=some Tryz.st3:=by kernel_rfl
theorem Tryz.afG:gW Tryz.prog plan Tryz.tT Tryz.tF 2000 20 true [5,8,9,10,11,328,679,740,746,908] 4 Tryz.st2=some Tryz.st3:=by kernel_rfl
theorem Tryz.to4:stepS Tryz.prog plan Tryz.tT Tryz.tF 2529 [5,8,9,10,11,328,920,1167] Tryz.st3=some Tryz.st4:=by kernel_rfl
theorem Tryz.Y6:stepS Tryz.prog plan Tryz.tT Tryz.tF 4156 [5,8,9,10,11,328,920,1167,1454,1455,1456,1514] Tryz.st4=some Tryz.st5:=by kernel_rfl
theorem Tryz.to6:stepS Tryz.prog plan Tryz.tT Tryz.tF 5100 [5,8,9,10,11,328,920,1167,1454,1700,1943,2001] Tryz.st5=some Tryz.st6:=by kernel_rfl
theorem Tryz.to7:stepS Tryz.prog plan Tryz.tT Tryz.tF 5300 [5,8,9,10,11,328,920,1167,1454,1700,2446,2453,2511] Tryz.st6=some Tryz.st7:=by kernel_rfl
theorem Tryz.to8:stepS Tryz.prog plan Tryz.tT Tryz.tF 2232 [5,8,9,10,11,328,920,1167,1454,1700,2446,2453,2511,2517,2679,2680,2681] Tryz.st7=some Tryz.st8:=by kernel_rfl
theorem Tryz.aki:xX Tryz.prog Tryz.st8=some 5:=by kernel_rfl
theorem Tryz.afH:gW Tryz.prog plan Tryz.tT Tryz.tF 2000 20 true [5,8,9,10,11,328,920,1167,1454,1700,2446,2453,2511,2517,2679] 0 Tryz.st8=some Tryz.st9:=by kernel_rfl
theorem Tryz.afI:gW Tryz.prog plan Tryz.tT Tryz.tF 2000 20 true [5,8,9,10,11,328,920,1167,1454,1700,2446,2453,2511,2517,2679] 1 Tryz.st8=some Tryz.st9:=by kernel_rfl
theorem Tryz.afJ:gW Tryz.prog plan Tryz.tT Tryz.tF 2000 20 true [5,8,9,10,11,328,920,1167,1454,1700,2446,2453,2511,2517,2679] 2 Tryz.st8=some Tryz.st9:=by kernel_rfl
theorem Tryz.afK:gW Tryz.prog plan Tryz.tT Tryz.tF 2000 20 true [5,8,9,10,11,328,920,1167,1454,1700,2446,2453,2511,2517,2679] 3 Tryz.st8=some Tryz.st9:=by kernel_rfl
theorem Tryz.afL:gW Tryz.prog plan Tryz.tT Tryz.tF 2000 20 true [5,8,9,10,11,328,920,1167,1454,1700,2446,2453,2511,2517,2679] 4 Tryz.st8=some Tryz.st9:=by kernel_rfl
theorem Tryz.akj:stepS Tryz.prog plan Tryz.tT Tryz.tF 122 [5,8,9,10,11,328,920,1167,1454,1700,2446,2453,2511,2517,2679,2689,2691,2692] Tryz.st9=some Tryz.MC:=by kernel_rfl
theorem Tryz.afM:xX Tryz.prog Tryz.MC=some 5:=by kernel_rfl
theorem Tryz.abC:gW Tryz.prog plan Tryz.tT Tryz.tF 2000 20 true [5,8,9,10,11,328,920,1167,1454,1700,2446,2453,2511,2517,2679,2689] 0 Tryz.MC=some Tryz.QL:=by kernel_rfl
theorem Tryz.abD:gW Tryz.prog plan Tryz.tT Tryz.tF 2000 20 true [5,8,9,10,11,328,920,1167,1454,1700,2446,2453,2511,2517,2679,2689] 1 Tryz.MC=some Tryz.QL:=by kernel_rfl
end Go.Am
