import Derived.Test.YtjgfemidkffdjaaGreatH32
set_option linter.all false
namespace Go.Am
open Go.Proofs
theorem WH:(List.map (aj Tryz.prog plan ai ah 2000 20 true [9,11,12,13,80,1072,1421,1783,1784,1819,1825,2130] 3 gp) [4])=List.map (fun _=>some iD) [4]:=by kernel_rfl
theorem WI:(List.map (aj Tryz.prog plan ai ah 2000 20 true [9,11,12,13,80,1072,1421,1783,1784,1819,1825,2130] 4 gp) [0,1])=List.map (fun _=>some iD) [0,1]:=by kernel_rfl
theorem WJ:(List.map (aj Tryz.prog plan ai ah 2000 20 true [9,11,12,13,80,1072,1421,1783,1784,1819,1825,2130] 4 gp) [2,3])=List.map (fun _=>some iD) [2,3]:=by kernel_rfl
theorem WL:(List.map (aj Tryz.prog plan ai ah 2000 20 true [9,11,12,13,80,1072,1421,1783,1784,1819,1825,2130] 4 gp) [4])=List.map (fun _=>some iD) [4]:=by kernel_rfl
theorem WM:(List.map (aj Tryz.prog plan ai ah 2000 20 true [9,11,12,13,80,1072,1421,1783,1784,1819,1825,2130] 5 gp) [0,1])=List.map (fun _=>some iD) [0,1]:=by kernel_rfl
theorem WN:(List.map (aj Tryz.prog plan ai ah 2000 20 true [9,11,12,13,80,1072,1421,1783,1784,1819,1825,2130] 5 gp) [2,3])=List.map (fun _=>some iD) [2,3]:=by kernel_rfl
theorem WO:(List.map (aj Tryz.prog plan ai ah 2000 20 true [9,11,12,13,80,1072,1421,1783,1784,1819,1825,2130] 5 gp) [4])=List.map (fun _=>some iD) [4]:=by kernel_rfl
theorem agk:stepS Tryz.prog plan ai ah 4300 [9,11,12,13,80,1072,1421,1783,2143,2144,2214,2780,2781,2782,2814] iD=some aax:=by kernel_rfl
theorem agl:stepS Tryz.prog plan ai ah 2198 [9,11,12,13,80,1072,1421,1783,2143,2144,2214,2780,2817,3093,3094,3095,3096,3097] aax=some JF:=by kernel_rfl
theorem agm:muG Tryz.prog plan bD uj 2 3 [9,11,12,13,80,1072,1421,1783,2143,2144,2214,2780,2817,3093,3094,3095,3096,3097] JF=some (3098,3099,aay):=by kernel_rfl
theorem acU:stepS Tryz.prog plan ai ah 106 [9,11,12,13,80,1072,1421,1783,2143,2144,2214,2780,2817,3093,3094,3095,3096,3097,3100,3101] aay=some dB:=by kernel_rfl
theorem aaz:jc Tryz.prog dB=some 5:=by kernel_rfl
theorem aaA:(List.range 5).map (lV Tryz.prog plan ai ah 2000 dB)=(List.range 5).map fun _=>some 4:=by kernel_rfl
end Go.Am
