/- A part of the proof that the frame keeps its roots: lemmas on which it leans. -/
import Derived.Test.YtfchamaikodjpaaGreatH49
section
set_option linter.unusedVariables false
set_option linter.unusedSectionVars false
set_option linter.unusedSimpArgs false
namespace Go.Am
open Go.Proofs
theorem Tryz.to9p3 : partS Tryz.prog plan Tryz.tT Tryz.tF 2000 20 true [5, 8, 9, 10, 11, 328, 920, 1167, 1454, 1700, 2446, 2453, 2511, 2517, 2679] 3 Tryz.st8 = some Tryz.st9 := by kernel_rfl
end Go.Am
end
section
set_option linter.unusedVariables false
set_option linter.unusedSectionVars false
set_option linter.unusedSimpArgs false
namespace Go.Am
open Go.Proofs
theorem Tryz.to9p4 : partS Tryz.prog plan Tryz.tT Tryz.tF 2000 20 true [5, 8, 9, 10, 11, 328, 920, 1167, 1454, 1700, 2446, 2453, 2511, 2517, 2679] 4 Tryz.st8 = some Tryz.st9 := by kernel_rfl
end Go.Am
end
section
set_option linter.unusedVariables false
set_option linter.unusedSectionVars false
set_option linter.unusedSimpArgs false
namespace Go.Am
open Go.Proofs
theorem Tryz.to10 : stepS Tryz.prog plan Tryz.tT Tryz.tF 122 [5, 8, 9, 10, 11, 328, 920, 1167, 1454, 1700, 2446, 2453, 2511, 2517, 2679, 2689, 2691, 2692] Tryz.st9 = some Tryz.st10 := by kernel_rfl
end Go.Am
end
section
set_option linter.unusedVariables false
set_option linter.unusedSectionVars false
set_option linter.unusedSimpArgs false
namespace Go.Am
open Go.Proofs
theorem Tryz.to11q : arityS Tryz.prog Tryz.st10 = some 5 := by kernel_rfl
end Go.Am
end
section
set_option linter.unusedVariables false
set_option linter.unusedSectionVars false
set_option linter.unusedSimpArgs false
namespace Go.Am
open Go.Proofs
theorem Tryz.to11p0 : partS Tryz.prog plan Tryz.tT Tryz.tF 2000 20 true [5, 8, 9, 10, 11, 328, 920, 1167, 1454, 1700, 2446, 2453, 2511, 2517, 2679, 2689] 0 Tryz.st10 = some Tryz.st11 := by kernel_rfl
end Go.Am
end
section
set_option linter.unusedVariables false
set_option linter.unusedSectionVars false
set_option linter.unusedSimpArgs false
namespace Go.Am
open Go.Proofs
theorem Tryz.to11p1 : partS Tryz.prog plan Tryz.tT Tryz.tF 2000 20 true [5, 8, 9, 10, 11, 328, 920, 1167, 1454, 1700, 2446, 2453, 2511, 2517, 2679, 2689] 1 Tryz.st10 = some Tryz.st11 := by kernel_rfl
end Go.Am
end
section
set_option linter.unusedVariables false
set_option linter.unusedSectionVars false
set_option linter.unusedSimpArgs false
namespace Go.Am
open Go.Proofs
theorem Tryz.to11p2 : partS Tryz.prog plan Tryz.tT Tryz.tF 2000 20 true [5, 8, 9, 10, 11, 328, 920, 1167, 1454, 1700, 2446, 2453, 2511, 2517, 2679, 2689] 2 Tryz.st10 = some Tryz.st11 := by kernel_rfl
end Go.Am
end
section
set_option linter.unusedVariables false
set_option linter.unusedSectionVars false
set_option linter.unusedSimpArgs false
namespace Go.Am
open Go.Proofs
theorem Tryz.to11p3 : partS Tryz.prog plan Tryz.tT Tryz.tF 2000 20 true [5, 8, 9, 10, 11, 328, 920, 1167, 1454, 1700, 2446, 2453, 2511, 2517, 2679, 2689] 3 Tryz.st10 = some Tryz.st11 := by kernel_rfl
end Go.Am
end
section
set_option linter.unusedVariables false
set_option linter.unusedSectionVars false
set_option linter.unusedSimpArgs false
namespace Go.Am
open Go.Proofs
theorem Tryz.to11p4 : partS Tryz.prog plan Tryz.tT Tryz.tF 2000 20 true [5, 8, 9, 10, 11, 328, 920, 1167, 1454, 1700, 2446, 2453, 2511, 2517, 2679, 2689] 4 Tryz.st10 = some Tryz.st11 := by kernel_rfl
end Go.Am
end
section
set_option linter.unusedVariables false
set_option linter.unusedSectionVars false
set_option linter.unusedSimpArgs false
namespace Go.Am
open Go.Proofs
theorem Tryz.to12 : stepS Tryz.prog plan Tryz.tT Tryz.tF 141 [5, 8, 9, 10, 11, 328, 920, 1167, 1454, 1700, 2446, 2453, 2511, 2517, 2679, 2702, 2705, 2706] Tryz.st11 = some Tryz.st12 := by kernel_rfl
end Go.Am
end
section
set_option linter.unusedVariables false
set_option linter.unusedSectionVars false
set_option linter.unusedSimpArgs false
namespace Go.Am
open Go.Proofs
theorem Tryz.to13q : arityS Tryz.prog Tryz.st12 = some 5 := by kernel_rfl
end Go.Am
end
section
set_option linter.unusedVariables false
set_option linter.unusedSectionVars false
set_option linter.unusedSimpArgs false
namespace Go.Am
open Go.Proofs
theorem Tryz.to13p0 : partS Tryz.prog plan Tryz.tT Tryz.tF 2000 20 true [5, 8, 9, 10, 11, 328, 920, 1167, 1454, 1700, 2446, 2453, 2511, 2517, 2679, 2702] 0 Tryz.st12 = some Tryz.st13 := by kernel_rfl
end Go.Am
end
section
set_option linter.unusedVariables false
set_option linter.unusedSectionVars false
set_option linter.unusedSimpArgs false
namespace Go.Am
open Go.Proofs
theorem Tryz.to13p1 : partS Tryz.prog plan Tryz.tT Tryz.tF 2000 20 true [5, 8, 9, 10, 11, 328, 920, 1167, 1454, 1700, 2446, 2453, 2511, 2517, 2679, 2702] 1 Tryz.st12 = some Tryz.st13 := by kernel_rfl
end Go.Am
end
section
set_option linter.unusedVariables false
set_option linter.unusedSectionVars false
set_option linter.unusedSimpArgs false
namespace Go.Am
open Go.Proofs
theorem Tryz.to13p2 : partS Tryz.prog plan Tryz.tT Tryz.tF 2000 20 true [5, 8, 9, 10, 11, 328, 920, 1167, 1454, 1700, 2446, 2453, 2511, 2517, 2679, 2702] 2 Tryz.st12 = some Tryz.st13 := by kernel_rfl
end Go.Am
end
section
set_option linter.unusedVariables false
set_option linter.unusedSectionVars false
set_option linter.unusedSimpArgs false
namespace Go.Am
open Go.Proofs
theorem Tryz.to13p3 : partS Tryz.prog plan Tryz.tT Tryz.tF 2000 20 true [5, 8, 9, 10, 11, 328, 920, 1167, 1454, 1700, 2446, 2453, 2511, 2517, 2679, 2702] 3 Tryz.st12 = some Tryz.st13 := by kernel_rfl
end Go.Am
end
section
set_option linter.unusedVariables false
set_option linter.unusedSectionVars false
set_option linter.unusedSimpArgs false
namespace Go.Am
open Go.Proofs
theorem Tryz.to13p4 : partS Tryz.prog plan Tryz.tT Tryz.tF 2000 20 true [5, 8, 9, 10, 11, 328, 920, 1167, 1454, 1700, 2446, 2453, 2511, 2517, 2679, 2702] 4 Tryz.st12 = some Tryz.st13 := by kernel_rfl
end Go.Am
end
section
set_option linter.unusedVariables false
set_option linter.unusedSectionVars false
set_option linter.unusedSimpArgs false
namespace Go.Am
open Go.Proofs
theorem Tryz.to14 : stepS Tryz.prog plan Tryz.tT Tryz.tF 5690 [5, 8, 9, 10, 11, 328, 920, 1167, 1454, 1700, 2446, 2779, 2781, 2786, 2914, 3162, 3172, 3180, 3181, 3254, 3255, 3258, 3259, 3270, 3276, 3282, 3288, 3296, 3302, 3308, 3316, 3322, 3330, 3342, 3348, 3356, 3368, 3388, 3390, 3413] Tryz.st13 = some Tryz.st14 := by kernel_rfl
end Go.Am
end
section
set_option linter.unusedVariables false
set_option linter.unusedSectionVars false
set_option linter.unusedSimpArgs false
namespace Go.Am
open Go.Proofs
theorem Tryz.to15 : muS Tryz.prog plan Tryz.link Tryz.mx 2 3 3413 4 [16] [5, 8, 9, 10, 11, 328, 920, 1167, 1454, 1700, 2446, 2779, 2781, 2786, 2914, 3162, 3172, 3180, 3181, 3254, 3255, 3258, 3259, 3270, 3276, 3282, 3288, 3296, 3302, 3308, 3316, 3322, 3330, 3342, 3348, 3356, 3368, 3388, 3390] Tryz.st14 = some (3414, 3415, Tryz.st15) := by kernel_rfl
end Go.Am
end
