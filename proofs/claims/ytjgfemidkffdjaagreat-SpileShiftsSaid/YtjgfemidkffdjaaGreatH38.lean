import Derived.Test.YtjgfemidkffdjaaGreatH32
set_option linter.all false
namespace Go.Am
open Go.Proofs
theorem PI:(List.map (aj Tryz.prog plan ai ah 2000 20 false [9,11,12,13,80,1072,1421,1783,2143,2144,2214,2780,2817,3093,3094,3095,3096,3097,3261] 3 dB) [1])=List.map (fun _=>some dJ) [1]:=by kernel_rfl
theorem PK:(List.map (aj Tryz.prog plan ai ah 2000 20 false [9,11,12,13,80,1072,1421,1783,2143,2144,2214,2780,2817,3093,3094,3095,3096,3097,3261] 3 dB) [2])=List.map (fun _=>some dJ) [2]:=by kernel_rfl
theorem PL:(List.map (aj Tryz.prog plan ai ah 2000 20 false [9,11,12,13,80,1072,1421,1783,2143,2144,2214,2780,2817,3093,3094,3095,3096,3097,3261] 3 dB) [3])=List.map (fun _=>some dJ) [3]:=by kernel_rfl
theorem PM:(List.map (aj Tryz.prog plan ai ah 2000 20 false [9,11,12,13,80,1072,1421,1783,2143,2144,2214,2780,2817,3093,3094,3095,3096,3097,3261] 4 dB) [0])=List.map (fun _=>some dJ) [0]:=by kernel_rfl
theorem PN:(List.map (aj Tryz.prog plan ai ah 2000 20 false [9,11,12,13,80,1072,1421,1783,2143,2144,2214,2780,2817,3093,3094,3095,3096,3097,3261] 4 dB) [1])=List.map (fun _=>some dJ) [1]:=by kernel_rfl
theorem PO:(List.map (aj Tryz.prog plan ai ah 2000 20 false [9,11,12,13,80,1072,1421,1783,2143,2144,2214,2780,2817,3093,3094,3095,3096,3097,3261] 4 dB) [2])=List.map (fun _=>some dJ) [2]:=by kernel_rfl
theorem PR:(List.map (aj Tryz.prog plan ai ah 2000 20 false [9,11,12,13,80,1072,1421,1783,2143,2144,2214,2780,2817,3093,3094,3095,3096,3097,3261] 4 dB) [3])=List.map (fun _=>some dJ) [3]:=by kernel_rfl
theorem acV:stepS Tryz.prog plan ai ah 4 [9,11,12,13,80,1072,1421,1783,2143,2144,2214,2780,2817,3093,3094,3095,3096,3097,3261,3262] dJ=some BN:=by kernel_rfl
theorem acW:DT 3097 3 [0,0] [9,11,12,13,80,1072,1421,1783,2143,2144,2214,2780,2817,3093,3094,3095,3096,3261,3262] BN=some yf:=by kernel_rfl
theorem aaB:iU Tryz.prog plan bD 3099 2 3 yf=some mg:=by kernel_rfl
end Go.Am
namespace Go.Am
open Go.Proofs
theorem L9:Aw Tryz.prog plan ai ah 113 [9,11,2817,3095,3262,3263,3264,3265] mg.1=some jK:=by kernel_rfl
end Go.Am
namespace Go.Am
open Go.Proofs
theorem JG:jc Tryz.prog jK=some 5:=by kernel_rfl
end Go.Am
namespace Go.Am
open Go.Proofs
theorem Fj:eG Tryz.prog plan ai ah 2000 20 1 [9,11,2817,3095,3262,3263] 0 jK=some (List.replicate 24 (some lI)):=by kernel_rfl
end Go.Am
