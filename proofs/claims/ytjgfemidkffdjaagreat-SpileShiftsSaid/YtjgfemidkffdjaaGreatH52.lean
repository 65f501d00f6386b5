import Derived.Test.YtjgfemidkffdjaaGreatH32
set_option linter.all false
namespace Go.Am
open Go.Proofs
theorem agk:stepS Tryz.prog plan ai ah 4300 [9,11,12,13,80,1072,1421,1783,2143,2144,2214,2780,2781,2782,2814] iD=some aax:=by kernel_rfl
theorem PL:(List.map (aj Tryz.prog plan ai ah 2000 20 false [9,11,12,13,80,1072,1421,1783,2143,2144,2214,2780,2817,3093,3094,3095,3096,3097,3261] 3 dB) [3])=List.map (fun _=>some dJ) [3]:=by kernel_rfl
theorem acW:DT 3097 3 [0,0] [9,11,12,13,80,1072,1421,1783,2143,2144,2214,2780,2817,3093,3094,3095,3096,3261,3262] BN=some yf:=by kernel_rfl
theorem Fp:eG Tryz.prog plan ai ah 2000 20 1 [9,11,2817,3095,3262,3263] 1 jK=some (List.replicate 24 (some lI)):=by kernel_rfl
end Go.Am
namespace Go.Am
open Go.Proofs
theorem Mc:Aw Tryz.prog plan ai ah 113 [9,11,2817,3095,3263,3264,3265,3266] mD.1=some jL:=by kernel_rfl
end Go.Am
namespace Go.Am
open Go.Proofs
theorem aaH:iU Tryz.prog plan bD 3099 25 3 mD.2=some uu:=by kernel_rfl
end Go.Am
namespace Go.Am
open Go.Proofs
theorem P5:(List.map (aj Tryz.prog plan ai ah 2000 20 false [9,11,12,13,80,1072,1421,1783,2143,2144,2214,3266,3303,3579,3580,3581,3582,3746] 1 dD) [2])=List.map (fun _=>some dK) [2]:=by kernel_rfl
theorem Gj:eG Tryz.prog plan ai ah 2000 20 1 [9,11,3303,3580,3749,3750] 2 jQ=some (List.replicate 24 (some lQ)):=by kernel_rfl
end Go.Am
namespace Go.Am
open Go.Proofs
theorem QL:(List.map (aj Tryz.prog plan ai ah 2000 20 true [9,11,12,13,80,1072,1421,1783,2143,2144,2214,3751,3783,3789,4094,4105] 2 dM) [4])=List.map (fun _=>some eU) [4]:=by kernel_rfl
theorem QY:(List.map (aj Tryz.prog plan ai ah 2000 20 true [9,11,12,13,80,1072,1421,1783,2143,2144,2214,3751,3783,3789,4094,4121] 0 dN) [0,1])=List.map (fun _=>some eX) [0,1]:=by kernel_rfl
end Go.Am
