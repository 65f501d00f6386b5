import Derived.Test.YtjgfemidkffdjaaGreatH32
set_option linter.all false
namespace Go.Am
open Go.Proofs
theorem ac8:stepS Tryz.prog plan ai ah 4330 [9,11,12,13,80,1072,1421,1783,2143,2144,2214,4140,4270,4272,4891,5028,5030,5388,5390,5391,5513,5523,5524,5562] Uo=some Ur:=by kernel_rfl
theorem agu:XP Tryz.prog plan ai ah 3320 (.bool true) Ur=true:=by kernel_rfl
end Go.Am
