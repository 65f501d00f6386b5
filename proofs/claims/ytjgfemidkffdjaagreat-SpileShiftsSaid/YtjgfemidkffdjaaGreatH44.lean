import Derived.Test.YtjgfemidkffdjaaGreatH32
set_option linter.all false
namespace Go.Am
open Go.Proofs
theorem VV:LJ 3 BM JE BL [0,0] [-3,6]=true:=by kernel_rfl
theorem agj:stepS Tryz.prog plan ai ah 2863 [9,11,12,13,80,1072,1421,1783,1784,1819,1825,2130,2131,2132] iC=some gp:=by kernel_rfl
theorem PD:(List.map (aj Tryz.prog plan ai ah 2000 20 false [9,11,12,13,80,1072,1421,1783,2143,2144,2214,2780,2817,3093,3094,3095,3096,3097,3261] 2 dB) [2])=List.map (fun _=>some dJ) [2]:=by kernel_rfl
theorem PI:(List.map (aj Tryz.prog plan ai ah 2000 20 false [9,11,12,13,80,1072,1421,1783,2143,2144,2214,2780,2817,3093,3094,3095,3096,3097,3261] 3 dB) [1])=List.map (fun _=>some dJ) [1]:=by kernel_rfl
theorem Fz:eG Tryz.prog plan ai ah 2000 20 1 [9,11,2817,3095,3262,3263] 4 jK=some (List.replicate 24 (some lI)):=by kernel_rfl
theorem F8:eG Tryz.prog plan ai ah 2000 20 1 [9,11,3303,3580,3748,3749] 1 jP=some (List.replicate 24 (some lN)):=by kernel_rfl
theorem Qv:(List.map (aj Tryz.prog plan ai ah 2000 20 true [9,11,12,13,80,1072,1421,1783,2143,2144,2214,3751,3783,3789,4094] 3 dL) [2,3])=List.map (fun _=>some eP) [2,3]:=by kernel_rfl
theorem Qx:(List.map (aj Tryz.prog plan ai ah 2000 20 true [9,11,12,13,80,1072,1421,1783,2143,2144,2214,3751,3783,3789,4094] 4 dL) [0,1])=List.map (fun _=>some eP) [0,1]:=by kernel_rfl
theorem QJ:(List.map (aj Tryz.prog plan ai ah 2000 20 true [9,11,12,13,80,1072,1421,1783,2143,2144,2214,3751,3783,3789,4094,4105] 2 dM) [0,1])=List.map (fun _=>some eU) [0,1]:=by kernel_rfl
end Go.Am
