/- A part of the proof that the frame keeps its roots: lemmas on which it leans. -/
import Derived.Test.YtfchamaikodjpaaGreatH49
section
set_option linter.unusedVariables false
set_option linter.unusedSectionVars false
set_option linter.unusedSimpArgs false
namespace Go.Am
open Go.Proofs
theorem Tryz.e15_0 : spawnS1 Tryz.prog plan Tryz.link 3415 31 3 Tryz.st15 = some Tryz.g15_0 := by kernel_rfl
end Go.Am
end
section
set_option linter.unusedVariables false
set_option linter.unusedSectionVars false
set_option linter.unusedSimpArgs false
namespace Go.Am
open Go.Proofs
theorem Tryz.w15_0 : workM Tryz.prog plan Tryz.tT Tryz.tF Tryz.link Tryz.mx 3415 3414 3413 60 400 Tryz.Vs14 Tryz.f14 Tryz.lk14 0 604 0 Tryz.g15_0.1 = true := by kernel_rfl
end Go.Am
end
section
set_option linter.unusedVariables false
set_option linter.unusedSectionVars false
set_option linter.unusedSimpArgs false
namespace Go.Am
open Go.Proofs
theorem Tryz.e15_1 : spawnS1 Tryz.prog plan Tryz.link 3415 28 3 Tryz.g15_0.2 = some Tryz.g15_1 := by kernel_rfl
end Go.Am
end
section
set_option linter.unusedVariables false
set_option linter.unusedSectionVars false
set_option linter.unusedSimpArgs false
namespace Go.Am
open Go.Proofs
theorem Tryz.w15_1 : workM Tryz.prog plan Tryz.tT Tryz.tF Tryz.link Tryz.mx 3415 3414 3413 60 400 Tryz.Vs14 Tryz.f14 Tryz.lk14 1 633 0 Tryz.g15_1.1 = true := by kernel_rfl
end Go.Am
end
section
set_option linter.unusedVariables false
set_option linter.unusedSectionVars false
set_option linter.unusedSimpArgs false
namespace Go.Am
open Go.Proofs
theorem Tryz.e15_2 : spawnS1 Tryz.prog plan Tryz.link 3415 28 3 Tryz.g15_1.2 = some Tryz.g15_2 := by kernel_rfl
end Go.Am
end
section
set_option linter.unusedVariables false
set_option linter.unusedSectionVars false
set_option linter.unusedSimpArgs false
namespace Go.Am
open Go.Proofs
theorem Tryz.w15_2 : workM Tryz.prog plan Tryz.tT Tryz.tF Tryz.link Tryz.mx 3415 3414 3413 60 400 Tryz.Vs14 Tryz.f14 Tryz.lk14 2 1707 4 Tryz.g15_2.1 = true := by kernel_rfl
end Go.Am
end
section
set_option linter.unusedVariables false
set_option linter.unusedSectionVars false
set_option linter.unusedSimpArgs false
namespace Go.Am
open Go.Proofs
theorem Tryz.e15_3 : spawnS1 Tryz.prog plan Tryz.link 3415 28 3 Tryz.g15_2.2 = some Tryz.g15_3 := by kernel_rfl
end Go.Am
end
section
set_option linter.unusedVariables false
set_option linter.unusedSectionVars false
set_option linter.unusedSimpArgs false
namespace Go.Am
open Go.Proofs
theorem Tryz.w15_3 : workM Tryz.prog plan Tryz.tT Tryz.tF Tryz.link Tryz.mx 3415 3414 3413 60 400 Tryz.Vs14 Tryz.f14 Tryz.lk14 3 670 0 Tryz.g15_3.1 = true := by kernel_rfl
end Go.Am
end
section
set_option linter.unusedVariables false
set_option linter.unusedSectionVars false
set_option linter.unusedSimpArgs false
namespace Go.Am
open Go.Proofs
theorem Tryz.e15_4 : spawnS1 Tryz.prog plan Tryz.link 3415 28 3 Tryz.g15_3.2 = some Tryz.g15_4 := by kernel_rfl
end Go.Am
end
section
set_option linter.unusedVariables false
set_option linter.unusedSectionVars false
set_option linter.unusedSimpArgs false
namespace Go.Am
open Go.Proofs
theorem Tryz.w15_4 : workM Tryz.prog plan Tryz.tT Tryz.tF Tryz.link Tryz.mx 3415 3414 3413 60 400 Tryz.Vs14 Tryz.f14 Tryz.lk14 4 874 0 Tryz.g15_4.1 = true := by kernel_rfl
end Go.Am
end
section
set_option linter.unusedVariables false
set_option linter.unusedSectionVars false
set_option linter.unusedSimpArgs false
namespace Go.Am
open Go.Proofs
theorem Tryz.e15_5 : spawnS1 Tryz.prog plan Tryz.link 3415 28 3 Tryz.g15_4.2 = some Tryz.g15_5 := by kernel_rfl
end Go.Am
end
section
set_option linter.unusedVariables false
set_option linter.unusedSectionVars false
set_option linter.unusedSimpArgs false
namespace Go.Am
open Go.Proofs
theorem Tryz.w15_5 : workM Tryz.prog plan Tryz.tT Tryz.tF Tryz.link Tryz.mx 3415 3414 3413 60 400 Tryz.Vs14 Tryz.f14 Tryz.lk14 5 1784 4 Tryz.g15_5.1 = true := by kernel_rfl
end Go.Am
end
section
set_option linter.unusedVariables false
set_option linter.unusedSectionVars false
set_option linter.unusedSimpArgs false
namespace Go.Am
open Go.Proofs
theorem Tryz.e15_6 : spawnS1 Tryz.prog plan Tryz.link 3415 28 3 Tryz.g15_5.2 = some Tryz.g15_6 := by kernel_rfl
end Go.Am
end
section
set_option linter.unusedVariables false
set_option linter.unusedSectionVars false
set_option linter.unusedSimpArgs false
namespace Go.Am
open Go.Proofs
theorem Tryz.w15_6 : workM Tryz.prog plan Tryz.tT Tryz.tF Tryz.link Tryz.mx 3415 3414 3413 60 400 Tryz.Vs14 Tryz.f14 Tryz.lk14 6 699 0 Tryz.g15_6.1 = true := by kernel_rfl
end Go.Am
end
section
set_option linter.unusedVariables false
set_option linter.unusedSectionVars false
set_option linter.unusedSimpArgs false
namespace Go.Am
open Go.Proofs
theorem Tryz.e15_7 : spawnS1 Tryz.prog plan Tryz.link 3415 28 3 Tryz.g15_6.2 = some Tryz.g15_7 := by kernel_rfl
end Go.Am
end
section
set_option linter.unusedVariables false
set_option linter.unusedSectionVars false
set_option linter.unusedSimpArgs false
namespace Go.Am
open Go.Proofs
theorem Tryz.w15_7 : workM Tryz.prog plan Tryz.tT Tryz.tF Tryz.link Tryz.mx 3415 3414 3413 60 400 Tryz.Vs14 Tryz.f14 Tryz.lk14 7 903 0 Tryz.g15_7.1 = true := by kernel_rfl
end Go.Am
end
section
set_option linter.unusedVariables false
set_option linter.unusedSectionVars false
set_option linter.unusedSimpArgs false
namespace Go.Am
open Go.Proofs
theorem Tryz.e15_8 : spawnS1 Tryz.prog plan Tryz.link 3415 28 3 Tryz.g15_7.2 = some Tryz.g15_8 := by kernel_rfl
end Go.Am
end
section
set_option linter.unusedVariables false
set_option linter.unusedSectionVars false
set_option linter.unusedSimpArgs false
namespace Go.Am
open Go.Proofs
theorem Tryz.w15_8 : workM Tryz.prog plan Tryz.tT Tryz.tF Tryz.link Tryz.mx 3415 3414 3413 60 400 Tryz.Vs14 Tryz.f14 Tryz.lk14 8 1932 4 Tryz.g15_8.1 = true := by kernel_rfl
end Go.Am
end
