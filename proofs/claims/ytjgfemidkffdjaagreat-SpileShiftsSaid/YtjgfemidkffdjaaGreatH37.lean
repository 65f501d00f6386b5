import Derived.Test.YtjgfemidkffdjaaGreatH32
set_option linter.all false
namespace Go.Am
open Go.Proofs
theorem Pg:(List.map (aj Tryz.prog plan ai ah 2000 20 false [9,11,12,13,80,1072,1421,1783,2143,2144,2214,2780,2817,3093,3094,3095,3096,3097,3261] 0 dB) [0])=List.map (fun _=>some dJ) [0]:=by kernel_rfl
theorem Pj:(List.map (aj Tryz.prog plan ai ah 2000 20 false [9,11,12,13,80,1072,1421,1783,2143,2144,2214,2780,2817,3093,3094,3095,3096,3097,3261] 0 dB) [1])=List.map (fun _=>some dJ) [1]:=by kernel_rfl
theorem Pm:(List.map (aj Tryz.prog plan ai ah 2000 20 false [9,11,12,13,80,1072,1421,1783,2143,2144,2214,2780,2817,3093,3094,3095,3096,3097,3261] 0 dB) [2])=List.map (fun _=>some dJ) [2]:=by kernel_rfl
theorem Pn:(List.map (aj Tryz.prog plan ai ah 2000 20 false [9,11,12,13,80,1072,1421,1783,2143,2144,2214,2780,2817,3093,3094,3095,3096,3097,3261] 0 dB) [3])=List.map (fun _=>some dJ) [3]:=by kernel_rfl
theorem Po:(List.map (aj Tryz.prog plan ai ah 2000 20 false [9,11,12,13,80,1072,1421,1783,2143,2144,2214,2780,2817,3093,3094,3095,3096,3097,3261] 1 dB) [0])=List.map (fun _=>some dJ) [0]:=by kernel_rfl
theorem Pq:(List.map (aj Tryz.prog plan ai ah 2000 20 false [9,11,12,13,80,1072,1421,1783,2143,2144,2214,2780,2817,3093,3094,3095,3096,3097,3261] 1 dB) [1])=List.map (fun _=>some dJ) [1]:=by kernel_rfl
theorem Pv:(List.map (aj Tryz.prog plan ai ah 2000 20 false [9,11,12,13,80,1072,1421,1783,2143,2144,2214,2780,2817,3093,3094,3095,3096,3097,3261] 1 dB) [2])=List.map (fun _=>some dJ) [2]:=by kernel_rfl
theorem Px:(List.map (aj Tryz.prog plan ai ah 2000 20 false [9,11,12,13,80,1072,1421,1783,2143,2144,2214,2780,2817,3093,3094,3095,3096,3097,3261] 1 dB) [3])=List.map (fun _=>some dJ) [3]:=by kernel_rfl
theorem Py:(List.map (aj Tryz.prog plan ai ah 2000 20 false [9,11,12,13,80,1072,1421,1783,2143,2144,2214,2780,2817,3093,3094,3095,3096,3097,3261] 2 dB) [0])=List.map (fun _=>some dJ) [0]:=by kernel_rfl
theorem Pz:(List.map (aj Tryz.prog plan ai ah 2000 20 false [9,11,12,13,80,1072,1421,1783,2143,2144,2214,2780,2817,3093,3094,3095,3096,3097,3261] 2 dB) [1])=List.map (fun _=>some dJ) [1]:=by kernel_rfl
theorem PD:(List.map (aj Tryz.prog plan ai ah 2000 20 false [9,11,12,13,80,1072,1421,1783,2143,2144,2214,2780,2817,3093,3094,3095,3096,3097,3261] 2 dB) [2])=List.map (fun _=>some dJ) [2]:=by kernel_rfl
theorem PE:(List.map (aj Tryz.prog plan ai ah 2000 20 false [9,11,12,13,80,1072,1421,1783,2143,2144,2214,2780,2817,3093,3094,3095,3096,3097,3261] 2 dB) [3])=List.map (fun _=>some dJ) [3]:=by kernel_rfl
theorem PG:(List.map (aj Tryz.prog plan ai ah 2000 20 false [9,11,12,13,80,1072,1421,1783,2143,2144,2214,2780,2817,3093,3094,3095,3096,3097,3261] 3 dB) [0])=List.map (fun _=>some dJ) [0]:=by kernel_rfl
end Go.Am
