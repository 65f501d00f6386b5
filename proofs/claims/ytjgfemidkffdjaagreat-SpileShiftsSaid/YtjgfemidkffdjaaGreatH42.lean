import Derived.Test.YtjgfemidkffdjaaGreatH32
set_option linter.all false
namespace Go.Am
open Go.Proofs
theorem VU:LJ 3 BK JD BJ [0,0] [-3,6]=true:=by kernel_rfl
theorem agi:stepS Tryz.prog plan ai ah 2597 [9,11,12,13,80,1072,1421,1422,1457,1463,1768,1769,1770] aaw=some gm:=by kernel_rfl
theorem acR:(List.range 6).map (lV Tryz.prog plan ai ah 2000 gm)=(List.range 6).map fun _=>some 5:=by kernel_rfl
theorem agm:muG Tryz.prog plan bD uj 2 3 [9,11,12,13,80,1072,1421,1783,2143,2144,2214,2780,2817,3093,3094,3095,3096,3097] JF=some (3098,3099,aay):=by kernel_rfl
theorem Po:(List.map (aj Tryz.prog plan ai ah 2000 20 false [9,11,12,13,80,1072,1421,1783,2143,2144,2214,2780,2817,3093,3094,3095,3096,3097,3261] 1 dB) [0])=List.map (fun _=>some dJ) [0]:=by kernel_rfl
theorem Pq:(List.map (aj Tryz.prog plan ai ah 2000 20 false [9,11,12,13,80,1072,1421,1783,2143,2144,2214,2780,2817,3093,3094,3095,3096,3097,3261] 1 dB) [1])=List.map (fun _=>some dJ) [1]:=by kernel_rfl
theorem PN:(List.map (aj Tryz.prog plan ai ah 2000 20 false [9,11,12,13,80,1072,1421,1783,2143,2144,2214,2780,2817,3093,3094,3095,3096,3097,3261] 4 dB) [1])=List.map (fun _=>some dJ) [1]:=by kernel_rfl
theorem PO:(List.map (aj Tryz.prog plan ai ah 2000 20 false [9,11,12,13,80,1072,1421,1783,2143,2144,2214,2780,2817,3093,3094,3095,3096,3097,3261] 4 dB) [2])=List.map (fun _=>some dJ) [2]:=by kernel_rfl
theorem FY:eG Tryz.prog plan ai ah 2000 20 1 [9,11,3303,3580,3747,3748] 1 jO=some (List.replicate 24 (some lM)):=by kernel_rfl
end Go.Am
namespace Go.Am
open Go.Proofs
theorem Ri:(List.map (aj Tryz.prog plan ai ah 2000 20 true [9,11,12,13,80,1072,1421,1783,2143,2144,2214,3751,3783,3789,4094,4121] 3 dN) [2,3])=List.map (fun _=>some eX) [2,3]:=by kernel_rfl
end Go.Am
