import Derived.Conc.MuLib
import Derived.Conc.CrowdBase
import Derived.Conc.MuWords
import Derived.Test.YtkgmngkagkoepaaGreatH7
import Derived.Test.YtkgmngkagkoepaaGreatH8
set_option linter.all false
namespace Go.Mx
open Go.Conc.Locks
structure ah where
 mu:MuLink
 canSpin:Nat
 FW:Nat
 throw:Nat
 nano:Nat
 FX:Nat
 fatal:Nat
 semrel:Nat
 tPU32:Nat
 tUint:Nat
def jW(L:ah):Func:=
 {name:= "(*internal/sync.Mutex).lockSlow",origin:= "",params:=#[L.mu.tPIMutex],resultTypes:=#[],nfree:=0,ntmps:=139,results:=#[],body:=some (.seq (.region 0 #[⟨some 2,.assign (.const (.int .i64 0)),2, "mutex.go:100",#[],none⟩] false) (.seq (.region 1 #[⟨some 3,.assign (.const (.bool false)),4, "mutex.go:101",#[],none⟩] false) (.seq (.region 2 #[⟨some 4,.assign (.const (.bool false)),4, "mutex.go:102",#[],none⟩] false) (.seq (.region 3 #[⟨some 5,.assign (.const (.int .i64 0)),3, "mutex.go:103",#[],none⟩] false) (.seq (.region 4 #[⟨some 10,.move (.tmp 0),L.mu.tPIMutex, "mutex.go:104",#[],none⟩,⟨some 11,.nilCheck (.tmp 10),0, "mutex.go:104",#[⟨0,.data⟩],none⟩,⟨some 12,.fieldAddr L.mu.tIMutex (.tmp 11) 0,0, "mutex.go:104",#[⟨1,.data⟩],none⟩,⟨some 13,.load 21 (.tmp 12),21, "mutex.go:104",#[⟨2,.data⟩],none⟩,⟨some 6,.assign (.tmp 13),21, "mutex.go:104",#[⟨3,.data⟩,⟨0,.phase⟩,⟨1,.phase⟩,⟨2,.phase⟩,⟨3,.phase⟩],none⟩] false) (.seq (.block 0 (.loop (.block 1 (.seq (.seq (.region 5 #[⟨some 14,.move (.tmp 6),21, "mutex.go:108",#[],none⟩,⟨some 15,.binOp .and 21 (.tmp 14) (.const (.int .i32 5)) 21,21, "mutex.go:108",#[⟨0,.data⟩],none⟩,⟨some 16,.binOp .eql 21 (.tmp 15) (.const (.int .i32 1)) 21,4, "mutex.go:108",#[⟨1,.data⟩],none⟩,⟨some 17,.move (.tmp 16),4, "mutex.go:108",#[⟨2,.data⟩],none⟩,⟨some 18,.move (.tmp 5),3, "mutex.go:108",#[⟨3,.guard⟩],some (3,true)⟩,⟨some 19,.call ⟨.value (.func L.canSpin),#[(.tmp 18)],#[3]⟩,4, "mutex.go:108",#[⟨4,.data⟩,⟨3,.chain⟩,⟨3,.guard⟩],some (3,true)⟩,⟨some 20,.pick (.tmp 17) (.tmp 19) (.const (.bool false)),4, "mutex.go:108",#[⟨3,.data⟩,⟨5,.data⟩],none⟩] false) (.cond (.tmp 20) (.seq (.seq (.region 6 #[⟨some 21,.move (.tmp 4),4, "mutex.go:112",#[],none⟩,⟨some 22,.unOp .not 4 (.tmp 21),4, "mutex.go:112",#[⟨0,.data⟩],none⟩,⟨some 23,.move (.tmp 22),4, "mutex.go:112",#[⟨1,.data⟩],none⟩,⟨some 24,.move (.tmp 6),21, "mutex.go:112",#[⟨2,.guard⟩],some (2,true)⟩,⟨some 25,.binOp .and 21 (.tmp 24) (.const (.int .i32 2)) 21,21, "mutex.go:112",#[⟨3,.data⟩,⟨2,.guard⟩],some (2,true)⟩,⟨some 26,.binOp .eql 21 (.tmp 25) (.const (.int .i32 0)) 21,4, "mutex.go:112",#[⟨4,.data⟩,⟨2,.guard⟩],some (2,true)⟩,⟨some 27,.pick (.tmp 23) (.tmp 26) (.const (.bool false)),4, "mutex.go:112",#[⟨2,.data⟩,⟨5,.data⟩],none⟩,⟨some 28,.move (.tmp 27),4, "mutex.go:112",#[⟨6,.data⟩,⟨2,.chain⟩],none⟩,⟨some 29,.move (.tmp 6),21, "mutex.go:112",#[⟨7,.guard⟩],some (7,true)⟩,⟨some 30,.binOp .shr 21 (.tmp 29) (.const (.int .u64 3)) L.tUint,21, "mutex.go:112",#[⟨8,.data⟩,⟨7,.guard⟩],some (7,true)⟩,⟨some 31,.binOp .neq 21 (.tmp 30) (.const (.int .i32 0)) 21,4, "mutex.go:112",#[⟨9,.data⟩,⟨7,.guard⟩],some (7,true)⟩,⟨some 32,.pick (.tmp 28) (.tmp 31) (.const (.bool false)),4, "mutex.go:112",#[⟨7,.data⟩,⟨10,.data⟩],none⟩,⟨some 33,.move (.tmp 32),4, "mutex.go:112",#[⟨11,.data⟩,⟨7,.chain⟩],none⟩,⟨some 34,.move (.tmp 0),L.mu.tPIMutex, "mutex.go:112",#[⟨12,.guard⟩],some (12,true)⟩,⟨some 35,.nilCheck (.tmp 34),0, "mutex.go:112",#[⟨13,.data⟩,⟨12,.guard⟩],some (12,true)⟩,⟨some 36,.fieldAddr L.mu.tIMutex (.tmp 35) 0,0, "mutex.go:112",#[⟨14,.data⟩,⟨12,.guard⟩],some (12,true)⟩,⟨some 37,.move (.tmp 6),21, "mutex.go:112",#[⟨12,.guard⟩],some (12,true)⟩,⟨some 38,.move (.tmp 6),21, "mutex.go:112",#[⟨12,.guard⟩],some (12,true)⟩,⟨some 39,.binOp .or 21 (.tmp 38) (.const (.int .i32 2)) 21,21, "mutex.go:112",#[⟨17,.data⟩,⟨12,.guard⟩],some (12,true)⟩,⟨some 40,.call ⟨.value (.func L.mu.cas32),#[(.tmp 36),(.tmp 37),(.tmp 39)],#[L.mu.tPI32,21,21]⟩,4, "mutex.go:113",#[⟨15,.data⟩,⟨16,.data⟩,⟨18,.data⟩,⟨12,.chain⟩,⟨12,.guard⟩],some (12,true)⟩,⟨some 41,.pick (.tmp 33) (.tmp 40) (.const (.bool false)),4, "mutex.go:112",#[⟨12,.data⟩,⟨19,.data⟩],none⟩] false) (.cond (.tmp 41) (.region 7 #[⟨some 4,.assign (.const (.bool true)),4, "mutex.go:114",#[],none⟩] false) .skip)) (.seq (.region 8 #[⟨some 42,.call ⟨.value (.func L.FW),#[],#[]⟩,0, "mutex.go:116",#[],none⟩] false) (.seq (.region 9 #[⟨some 43,.move (.tmp 5),3, "mutex.go:117",#[],none⟩,⟨some 44,.binOp .add 3 (.tmp 43) (.const (.int .i64 1)) 3,3, "mutex.go:117",#[⟨0,.data⟩],none⟩,⟨some 5,.assign (.tmp 44),3, "mutex.go:117",#[⟨1,.data⟩,⟨0,.phase⟩,⟨1,.phase⟩],none⟩] false) (.seq (.region 10 #[⟨some 45,.move (.tmp 0),L.mu.tPIMutex, "mutex.go:118",#[],none⟩,⟨some 46,.nilCheck (.tmp 45),0, "mutex.go:118",#[⟨0,.data⟩],none⟩,⟨some 47,.fieldAddr L.mu.tIMutex (.tmp 46) 0,0, "mutex.go:118",#[⟨1,.data⟩],none⟩,⟨some 48,.load 21 (.tmp 47),21, "mutex.go:118",#[⟨2,.data⟩],none⟩,⟨some 6,.assign (.tmp 48),21, "mutex.go:118",#[⟨3,.data⟩,⟨0,.phase⟩,⟨1,.phase⟩,⟨2,.phase⟩,⟨3,.phase⟩],none⟩] false) (.exit 1))))) .skip)) (.seq (.region 11 #[⟨some 49,.move (.tmp 6),21, "mutex.go:121",#[],none⟩,⟨some 7,.assign (.tmp 49),21, "mutex.go:121",#[⟨0,.data⟩,⟨0,.phase⟩],none⟩] false) (.seq (.seq (.region 12 #[⟨some 50,.move (.tmp 6),21, "mutex.go:123",#[],none⟩,⟨some 51,.binOp .and 21 (.tmp 50) (.const (.int .i32 4)) 21,21, "mutex.go:123",#[⟨0,.data⟩],none⟩,⟨some 52,.binOp .eql 21 (.tmp 51) (.const (.int .i32 0)) 21,4, "mutex.go:123",#[⟨1,.data⟩],none⟩] false) (.cond (.tmp 52) (.region 13 #[⟨some 53,.move (.tmp 7),21, "mutex.go:124",#[],none⟩,⟨some 54,.binOp .or 21 (.tmp 53) (.const (.int .i32 1)) 21,21, "mutex.go:124",#[⟨0,.data⟩],none⟩,⟨some 7,.assign (.tmp 54),21, "mutex.go:124",#[⟨1,.data⟩,⟨0,.phase⟩,⟨1,.phase⟩],none⟩] false) .skip)) (.seq (.seq (.region 14 #[⟨some 55,.move (.tmp 6),21, "mutex.go:126",#[],none⟩,⟨some 56,.binOp .and 21 (.tmp 55) (.const (.int .i32 5)) 21,21, "mutex.go:126",#[⟨0,.data⟩],none⟩,⟨some 57,.binOp .neq 21 (.tmp 56) (.const (.int .i32 0)) 21,4, "mutex.go:126",#[⟨1,.data⟩],none⟩] false) (.cond (.tmp 57) (.region 15 #[⟨some 58,.move (.tmp 7),21, "mutex.go:127",#[],none⟩,⟨some 59,.binOp .add 21 (.tmp 58) (.const (.int .i32 8)) 21,21, "mutex.go:127",#[⟨0,.data⟩],none⟩,⟨some 7,.assign (.tmp 59),21, "mutex.go:127",#[⟨1,.data⟩,⟨0,.phase⟩,⟨1,.phase⟩],none⟩] false) .skip)) (.seq (.seq (.region 16 #[⟨some 60,.move (.tmp 3),4, "mutex.go:133",#[],none⟩,⟨some 61,.move (.tmp 60),4, "mutex.go:133",#[⟨0,.data⟩],none⟩,⟨some 62,.move (.tmp 6),21, "mutex.go:133",#[⟨1,.guard⟩],some (1,true)⟩,⟨some 63,.binOp .and 21 (.tmp 62) (.const (.int .i32 1)) 21,21, "mutex.go:133",#[⟨2,.data⟩,⟨1,.guard⟩],some (1,true)⟩,⟨some 64,.binOp .neq 21 (.tmp 63) (.const (.int .i32 0)) 21,4, "mutex.go:133",#[⟨3,.data⟩,⟨1,.guard⟩],some (1,true)⟩,⟨some 65,.pick (.tmp 61) (.tmp 64) (.const (.bool false)),4, "mutex.go:133",#[⟨1,.data⟩,⟨4,.data⟩],none⟩] false) (.cond (.tmp 65) (.region 17 #[⟨some 66,.move (.tmp 7),21, "mutex.go:134",#[],none⟩,⟨some 67,.binOp .or 21 (.tmp 66) (.const (.int .i32 4)) 21,21, "mutex.go:134",#[⟨0,.data⟩],none⟩,⟨some 7,.assign (.tmp 67),21, "mutex.go:134",#[⟨1,.data⟩,⟨0,.phase⟩,⟨1,.phase⟩],none⟩] false) .skip)) (.seq (.seq (.region 18 #[⟨some 68,.move (.tmp 4),4, "mutex.go:136",#[],none⟩] false) (.cond (.tmp 68) (.seq (.seq (.region 19 #[⟨some 69,.move (.tmp 7),21, "mutex.go:139",#[],none⟩,⟨some 70,.binOp .and 21 (.tmp 69) (.const (.int .i32 2)) 21,21, "mutex.go:139",#[⟨0,.data⟩],none⟩,⟨some 71,.binOp .eql 21 (.tmp 70) (.const (.int .i32 0)) 21,4, "mutex.go:139",#[⟨1,.data⟩],none⟩] false) (.cond (.tmp 71) (.region 20 #[⟨some 72,.call ⟨.value (.func L.throw),#[(.const (.string ⟨⟨[115,121,110,99,58,32,105,110,99,111,110,115,105,115,116,101,110,116,32,109,117,116,101,120,32,115,116,97,116,101]⟩⟩))],#[9]⟩,0, "mutex.go:140",#[],none⟩] false) .skip)) (.region 21 #[⟨some 73,.move (.tmp 7),21, "mutex.go:142",#[],none⟩,⟨some 74,.binOp .andNot 21 (.tmp 73) (.const (.int .i32 2)) 21,21, "mutex.go:142",#[⟨0,.data⟩],none⟩,⟨some 7,.assign (.tmp 74),21, "mutex.go:142",#[⟨1,.data⟩,⟨0,.phase⟩,⟨1,.phase⟩],none⟩] false)) .skip)) (.seq (.region 22 #[⟨some 75,.move (.tmp 0),L.mu.tPIMutex, "mutex.go:144",#[],none⟩,⟨some 76,.nilCheck (.tmp 75),0, "mutex.go:144",#[⟨0,.data⟩],none⟩,⟨some 77,.fieldAddr L.mu.tIMutex (.tmp 76) 0,0, "mutex.go:144",#[⟨1,.data⟩],none⟩,⟨some 78,.move (.tmp 6),21, "mutex.go:144",#[],none⟩,⟨some 79,.move (.tmp 7),21, "mutex.go:144",#[],none⟩,⟨some 80,.call ⟨.value (.func L.mu.cas32),#[(.tmp 77),(.tmp 78),(.tmp 79)],#[L.mu.tPI32,21,21]⟩,4, "mutex.go:144",#[⟨2,.data⟩,⟨3,.data⟩,⟨4,.data⟩],none⟩] false) (.cond (.tmp 80) (.seq (.seq (.region 23 #[⟨some 81,.move (.tmp 6),21, "mutex.go:145",#[],none⟩,⟨some 82,.binOp .and 21 (.tmp 81) (.const (.int .i32 5)) 21,21, "mutex.go:145",#[⟨0,.data⟩],none⟩,⟨some 83,.binOp .eql 21 (.tmp 82) (.const (.int .i32 0)) 21,4, "mutex.go:145",#[⟨1,.data⟩],none⟩] false) (.cond (.tmp 83) (.exit 0) .skip)) (.seq (.region 24 #[⟨some 84,.move (.tmp 2),2, "mutex.go:149",#[],none⟩,⟨some 85,.binOp .neq 2 (.tmp 84) (.const (.int .i64 0)) 2,4, "mutex.go:149",#[⟨0,.data⟩],none⟩,⟨some 8,.assign (.tmp 85),4, "mutex.go:149",#[⟨1,.data⟩,⟨0,.phase⟩,⟨1,.phase⟩],none⟩] false) (.seq (.seq (.region 25 #[⟨some 86,.move (.tmp 2),2, "mutex.go:150",#[],none⟩,⟨some 87,.binOp .eql 2 (.tmp 86) (.const (.int .i64 0)) 2,4, "mutex.go:150",#[⟨0,.data⟩],none⟩] false) (.cond (.tmp 87) (.region 26 #[⟨some 88,.call ⟨.value (.func L.nano),#[],#[]⟩,2, "mutex.go:151",#[],none⟩,⟨some 2,.assign (.tmp 88),2, "mutex.go:151",#[⟨0,.data⟩,⟨0,.chain⟩,⟨0,.phase⟩],none⟩] false) .skip)) (.seq (.region 27 #[⟨some 89,.move (.tmp 0),L.mu.tPIMutex, "mutex.go:153",#[],none⟩,⟨some 90,.nilCheck (.tmp 89),0, "mutex.go:153",#[⟨0,.data⟩],none⟩,⟨some 91,.fieldAddr L.mu.tIMutex (.tmp 90) 1,0, "mutex.go:153",#[⟨1,.data⟩],none⟩,⟨some 92,.move (.tmp 8),4, "mutex.go:153",#[],none⟩,⟨some 93,.call ⟨.value (.func L.FX),#[(.tmp 91),(.tmp 92),(.const (.int .i64 2))],#[L.tPU32,4,3]⟩,0, "mutex.go:153",#[⟨2,.data⟩,⟨3,.data⟩],none⟩] false) (.seq (.region 28 #[⟨some 94,.move (.tmp 3),4, "mutex.go:154",#[],none⟩,⟨some 95,.move (.tmp 94),4, "mutex.go:154",#[⟨0,.data⟩],none⟩,⟨some 96,.call ⟨.value (.func L.nano),#[],#[]⟩,2, "mutex.go:154",#[⟨1,.chain⟩,⟨1,.guard⟩],some (1,false)⟩,⟨some 97,.move (.tmp 2),2, "mutex.go:154",#[⟨1,.guard⟩],some (1,false)⟩,⟨some 98,.binOp .sub 2 (.tmp 96) (.tmp 97) 2,2, "mutex.go:154",#[⟨2,.data⟩,⟨3,.data⟩,⟨1,.guard⟩],some (1,false)⟩,⟨some 99,.binOp .gtr 2 (.tmp 98) (.const (.int .i64 1000000)) 2,4, "mutex.go:154",#[⟨4,.data⟩,⟨1,.guard⟩],some (1,false)⟩,⟨some 100,.pick (.tmp 95) (.const (.bool true)) (.tmp 99),4, "mutex.go:154",#[⟨1,.data⟩,⟨5,.data⟩],none⟩,⟨some 3,.assign (.tmp 100),4, "mutex.go:154",#[⟨6,.data⟩,⟨2,.chain⟩,⟨0,.phase⟩,⟨1,.phase⟩,⟨2,.phase⟩,⟨3,.phase⟩,⟨4,.phase⟩,⟨5,.phase⟩,⟨6,.phase⟩],none⟩] false) (.seq (.region 29 #[⟨some 101,.move (.tmp 0),L.mu.tPIMutex, "mutex.go:155",#[],none⟩,⟨some 102,.nilCheck (.tmp 101),0, "mutex.go:155",#[⟨0,.data⟩],none⟩,⟨some 103,.fieldAddr L.mu.tIMutex (.tmp 102) 0,0, "mutex.go:155",#[⟨1,.data⟩],none⟩,⟨some 104,.load 21 (.tmp 103),21, "mutex.go:155",#[⟨2,.data⟩],none⟩,⟨some 6,.assign (.tmp 104),21, "mutex.go:155",#[⟨3,.data⟩,⟨0,.phase⟩,⟨1,.phase⟩,⟨2,.phase⟩,⟨3,.phase⟩],none⟩] false) (.seq (.seq (.region 30 #[⟨some 105,.move (.tmp 6),21, "mutex.go:156",#[],none⟩,⟨some 106,.binOp .and 21 (.tmp 105) (.const (.int .i32 4)) 21,21, "mutex.go:156",#[⟨0,.data⟩],none⟩,⟨some 107,.binOp .neq 21 (.tmp 106) (.const (.int .i32 0)) 21,4, "mutex.go:156",#[⟨1,.data⟩],none⟩] false) (.cond (.tmp 107) (.seq (.seq (.region 31 #[⟨some 108,.move (.tmp 6),21, "mutex.go:161",#[],none⟩,⟨some 109,.binOp .and 21 (.tmp 108) (.const (.int .i32 3)) 21,21, "mutex.go:161",#[⟨0,.data⟩],none⟩,⟨some 110,.binOp .neq 21 (.tmp 109) (.const (.int .i32 0)) 21,4, "mutex.go:161",#[⟨1,.data⟩],none⟩,⟨some 111,.move (.tmp 110),4, "mutex.go:161",#[⟨2,.data⟩],none⟩,⟨some 112,.move (.tmp 6),21, "mutex.go:161",#[⟨3,.guard⟩],some (3,false)⟩,⟨some 113,.binOp .shr 21 (.tmp 112) (.const (.int .u64 3)) L.tUint,21, "mutex.go:161",#[⟨4,.data⟩,⟨3,.guard⟩],some (3,false)⟩,⟨some 114,.binOp .eql 21 (.tmp 113) (.const (.int .i32 0)) 21,4, "mutex.go:161",#[⟨5,.data⟩,⟨3,.guard⟩],some (3,false)⟩,⟨some 115,.pick (.tmp 111) (.const (.bool true)) (.tmp 114),4, "mutex.go:161",#[⟨3,.data⟩,⟨6,.data⟩],none⟩] false) (.cond (.tmp 115) (.region 32 #[⟨some 116,.call ⟨.value (.func L.throw),#[(.const (.string ⟨⟨[115,121,110,99,58,32,105,110,99,111,110,115,105,115,116,101,110,116,32,109,117,116,101,120,32,115,116,97,116,101]⟩⟩))],#[9]⟩,0, "mutex.go:162",#[],none⟩] false) .skip)) (.seq (.region 33 #[⟨some 9,.assign (.const (.int .i32 (-7))),21, "mutex.go:164",#[],none⟩] false) (.seq (.seq (.region 34 #[⟨some 117,.move (.tmp 3),4, "mutex.go:165",#[],none⟩,⟨some 118,.unOp .not 4 (.tmp 117),4, "mutex.go:165",#[⟨0,.data⟩],none⟩,⟨some 119,.move (.tmp 118),4, "mutex.go:165",#[⟨1,.data⟩],none⟩,⟨some 120,.move (.tmp 6),21, "mutex.go:165",#[⟨2,.guard⟩],some (2,false)⟩,⟨some 121,.binOp .shr 21 (.tmp 120) (.const (.int .u64 3)) L.tUint,21, "mutex.go:165",#[⟨3,.data⟩,⟨2,.guard⟩],some (2,false)⟩,⟨some 122,.binOp .eql 21 (.tmp 121) (.const (.int .i32 1)) 21,4, "mutex.go:165",#[⟨4,.data⟩,⟨2,.guard⟩],some (2,false)⟩,⟨some 123,.pick (.tmp 119) (.const (.bool true)) (.tmp 122),4, "mutex.go:165",#[⟨2,.data⟩,⟨5,.data⟩],none⟩] false) (.cond (.tmp 123) (.region 35 #[⟨some 124,.move (.tmp 9),21, "mutex.go:171",#[],none⟩,⟨some 125,.binOp .sub 21 (.tmp 124) (.const (.int .i32 4)) 21,21, "mutex.go:171",#[⟨0,.data⟩],none⟩,⟨some 9,.assign (.tmp 125),21, "mutex.go:171",#[⟨1,.data⟩,⟨0,.phase⟩,⟨1,.phase⟩],none⟩] false) .skip)) (.seq (.region 36 #[⟨some 126,.move (.tmp 0),L.mu.tPIMutex, "mutex.go:173",#[],none⟩,⟨some 127,.nilCheck (.tmp 126),0, "mutex.go:173",#[⟨0,.data⟩],none⟩,⟨some 128,.fieldAddr L.mu.tIMutex (.tmp 127) 0,0, "mutex.go:173",#[⟨1,.data⟩],none⟩,⟨some 129,.move (.tmp 9),21, "mutex.go:173",#[],none⟩,⟨some 130,.call ⟨.value (.func L.mu.add32),#[(.tmp 128),(.tmp 129)],#[L.mu.tPI32,21]⟩,21, "mutex.go:173",#[⟨2,.data⟩,⟨3,.data⟩],none⟩] false) (.exit 0))))) .skip)) (.seq (.region 37 #[⟨some 4,.assign (.const (.bool true)),4, "mutex.go:176",#[],none⟩] false) (.region 38 #[⟨some 5,.assign (.const (.int .i64 0)),3, "mutex.go:177",#[],none⟩] false))))))))) (.region 39 #[⟨some 131,.move (.tmp 0),L.mu.tPIMutex, "mutex.go:179",#[],none⟩,⟨some 132,.nilCheck (.tmp 131),0, "mutex.go:179",#[⟨0,.data⟩],none⟩,⟨some 133,.fieldAddr L.mu.tIMutex (.tmp 132) 0,0, "mutex.go:179",#[⟨1,.data⟩],none⟩,⟨some 134,.load 21 (.tmp 133),21, "mutex.go:179",#[⟨2,.data⟩],none⟩,⟨some 6,.assign (.tmp 134),21, "mutex.go:179",#[⟨3,.data⟩,⟨0,.phase⟩,⟨1,.phase⟩,⟨2,.phase⟩,⟨3,.phase⟩],none⟩] false)))))))))))) (.cond (.const (.bool true)) (.seq (.region 40 #[⟨some 135,.call ⟨.value (.func L.mu.enable),#[],#[]⟩,0, "mutex.go:184",#[],none⟩] false) (.region 41 #[⟨some 136,.move (.tmp 0),L.mu.tPIMutex, "mutex.go:184",#[],none⟩,⟨some 137,.convert L.mu.tPIMutex L.mu.tUP (.tmp 136),L.mu.tUP, "mutex.go:184",#[⟨0,.data⟩],none⟩,⟨some 138,.call ⟨.value (.func L.mu.acquire),#[(.tmp 137)],#[L.mu.tUP]⟩,0, "mutex.go:184",#[⟨1,.data⟩],none⟩] false)) .skip))))))),norace:=true,ours:=true,file:= "internal/sync/mutex.go",endLine:=186,tmpNames:=#["m", "m", "waitStartTime", "starving", "awoke", "iter", "old", "new", "queueLifo", "delta", "", "", "", "", "", "", "", "", "", "", "", "", "", "", "", "", "", "", "", "", "", "", "", "", "", "", "", "", "", "", "", "", "", "", "", "", "", "", "", "", "", "", "", "", "", "", "", "", "", "", "", "", "", "", "", "", "", "", "", "", "", "", "", "", "", "", "", "", "", "", "", "", "", "", "", "", "", "", "", "", "", "", "", "", "", "", "", "", "", "", "", "", "", "", "", "", "", "", "", "", "", "", "", "", "", "", "", "", "", "", "", "", "", "", "", "", "", "", "", "", "", "", "", "", "", "", "", "", ""]}
def iK(L:ah):Func:=
 {name:= "(*internal/sync.Mutex).unlockSlow",origin:= "",params:=#[L.mu.tPIMutex,21],resultTypes:=#[],nfree:=0,ntmps:=43,results:=#[],body:=some (.seq (.seq (.region 0 #[⟨some 5,.move (.tmp 1),21, "mutex.go:209",#[],none⟩,⟨some 6,.binOp .add 21 (.tmp 5) (.const (.int .i32 1)) 21,21, "mutex.go:209",#[⟨0,.data⟩],none⟩,⟨some 7,.binOp .and 21 (.tmp 6) (.const (.int .i32 1)) 21,21, "mutex.go:209",#[⟨1,.data⟩],none⟩,⟨some 8,.binOp .eql 21 (.tmp 7) (.const (.int .i32 0)) 21,4, "mutex.go:209",#[⟨2,.data⟩],none⟩] false) (.cond (.tmp 8) (.region 1 #[⟨some 9,.call ⟨.value (.func L.fatal),#[(.const (.string ⟨⟨[115,121,110,99,58,32,117,110,108,111,99,107,32,111,102,32,117,110,108,111,99,107,101,100,32,109,117,116,101,120]⟩⟩))],#[9]⟩,0, "mutex.go:210",#[],none⟩] false) .skip)) (.seq (.region 2 #[⟨some 10,.move (.tmp 1),21, "mutex.go:212",#[],none⟩,⟨some 11,.binOp .and 21 (.tmp 10) (.const (.int .i32 4)) 21,21, "mutex.go:212",#[⟨0,.data⟩],none⟩,⟨some 12,.binOp .eql 21 (.tmp 11) (.const (.int .i32 0)) 21,4, "mutex.go:212",#[⟨1,.data⟩],none⟩] false) (.cond (.tmp 12) (.seq (.region 3 #[⟨some 13,.move (.tmp 1),21, "mutex.go:213",#[],none⟩,⟨some 4,.assign (.tmp 13),21, "mutex.go:213",#[⟨0,.data⟩,⟨0,.phase⟩],none⟩] false) (.block 0 (.loop (.block 1 (.seq (.seq (.region 4 #[⟨some 14,.move (.tmp 4),21, "mutex.go:221",#[],none⟩,⟨some 15,.binOp .shr 21 (.tmp 14) (.const (.int .u64 3)) L.tUint,21, "mutex.go:221",#[⟨0,.data⟩],none⟩,⟨some 16,.binOp .eql 21 (.tmp 15) (.const (.int .i32 0)) 21,4, "mutex.go:221",#[⟨1,.data⟩],none⟩,⟨some 17,.move (.tmp 16),4, "mutex.go:221",#[⟨2,.data⟩],none⟩,⟨some 18,.move (.tmp 4),21, "mutex.go:221",#[⟨3,.guard⟩],some (3,false)⟩,⟨some 19,.binOp .and 21 (.tmp 18) (.const (.int .i32 7)) 21,21, "mutex.go:221",#[⟨4,.data⟩,⟨3,.guard⟩],some (3,false)⟩,⟨some 20,.binOp .neq 21 (.tmp 19) (.const (.int .i32 0)) 21,4, "mutex.go:221",#[⟨5,.data⟩,⟨3,.guard⟩],some (3,false)⟩,⟨some 21,.pick (.tmp 17) (.const (.bool true)) (.tmp 20),4, "mutex.go:221",#[⟨3,.data⟩,⟨6,.data⟩],none⟩] false) (.cond (.tmp 21) .ret .skip)) (.seq (.region 5 #[⟨some 22,.move (.tmp 4),21, "mutex.go:225",#[],none⟩,⟨some 23,.binOp .sub 21 (.tmp 22) (.const (.int .i32 8)) 21,21, "mutex.go:225",#[⟨0,.data⟩],none⟩,⟨some 24,.binOp .or 21 (.tmp 23) (.const (.int .i32 2)) 21,21, "mutex.go:225",#[⟨1,.data⟩],none⟩,⟨some 1,.assign (.tmp 24),21, "mutex.go:225",#[⟨2,.data⟩,⟨0,.phase⟩,⟨1,.phase⟩,⟨2,.phase⟩],none⟩] false) (.seq (.seq (.region 6 #[⟨some 25,.move (.tmp 0),L.mu.tPIMutex, "mutex.go:226",#[],none⟩,⟨some 26,.nilCheck (.tmp 25),0, "mutex.go:226",#[⟨0,.data⟩],none⟩,⟨some 27,.fieldAddr L.mu.tIMutex (.tmp 26) 0,0, "mutex.go:226",#[⟨1,.data⟩],none⟩,⟨some 28,.move (.tmp 4),21, "mutex.go:226",#[],none⟩,⟨some 29,.move (.tmp 1),21, "mutex.go:226",#[],none⟩,⟨some 30,.call ⟨.value (.func L.mu.cas32),#[(.tmp 27),(.tmp 28),(.tmp 29)],#[L.mu.tPI32,21,21]⟩,4, "mutex.go:226",#[⟨2,.data⟩,⟨3,.data⟩,⟨4,.data⟩],none⟩] false) (.cond (.tmp 30) (.seq (.region 7 #[⟨some 31,.move (.tmp 0),L.mu.tPIMutex, "mutex.go:227",#[],none⟩,⟨some 32,.nilCheck (.tmp 31),0, "mutex.go:227",#[⟨0,.data⟩],none⟩,⟨some 33,.fieldAddr L.mu.tIMutex (.tmp 32) 1,0, "mutex.go:227",#[⟨1,.data⟩],none⟩,⟨some 34,.call ⟨.value (.func L.semrel),#[(.tmp 33),(.const (.bool false)),(.const (.int .i64 2))],#[L.tPU32,4,3]⟩,0, "mutex.go:227",#[⟨2,.data⟩],none⟩] false) .ret) .skip)) (.region 8 #[⟨some 35,.move (.tmp 0),L.mu.tPIMutex, "mutex.go:230",#[],none⟩,⟨some 36,.nilCheck (.tmp 35),0, "mutex.go:230",#[⟨0,.data⟩],none⟩,⟨some 37,.fieldAddr L.mu.tIMutex (.tmp 36) 0,0, "mutex.go:230",#[⟨1,.data⟩],none⟩,⟨some 38,.load 21 (.tmp 37),21, "mutex.go:230",#[⟨2,.data⟩],none⟩,⟨some 4,.assign (.tmp 38),21, "mutex.go:230",#[⟨3,.data⟩,⟨0,.phase⟩,⟨1,.phase⟩,⟨2,.phase⟩,⟨3,.phase⟩],none⟩] false)))))))) (.region 9 #[⟨some 39,.move (.tmp 0),L.mu.tPIMutex, "mutex.go:238",#[],none⟩,⟨some 40,.nilCheck (.tmp 39),0, "mutex.go:238",#[⟨0,.data⟩],none⟩,⟨some 41,.fieldAddr L.mu.tIMutex (.tmp 40) 1,0, "mutex.go:238",#[⟨1,.data⟩],none⟩,⟨some 42,.call ⟨.value (.func L.semrel),#[(.tmp 41),(.const (.bool true)),(.const (.int .i64 2))],#[L.tPU32,4,3]⟩,0, "mutex.go:238",#[⟨2,.data⟩],none⟩] false)))),norace:=true,ours:=true,file:= "internal/sync/mutex.go",endLine:=240,tmpNames:=#["m", "new", "m", "new", "old", "", "", "", "", "", "", "", "", "", "", "", "", "", "", "", "", "", "", "", "", "", "", "", "", "", "", "", "", "", "", "", "", "", "", "", "", "", ""]}
def oH(L:ah):Func:=
 {name:= "internal/sync.runtime_canSpin",origin:= "",params:=#[3],resultTypes:=#[4],nfree:=0,ntmps:=1,results:=#[],body:=none,norace:=true,file:= "internal/sync/runtime.go",endLine:=0,tmpNames:=#[]}
def rW(L:ah):Func:=
 {name:= "internal/sync.runtime_doSpin",origin:= "",params:=#[],resultTypes:=#[],nfree:=0,ntmps:=0,results:=#[],body:=none,norace:=true,file:= "internal/sync/runtime.go",endLine:=0,tmpNames:=#[]}
def Z7(L:ah):Func:=
 {name:= "internal/sync.throw",origin:= "",params:=#[9],resultTypes:=#[],nfree:=0,ntmps:=1,results:=#[],body:=none,norace:=true,file:= "internal/sync/runtime.go",endLine:=0,tmpNames:=#[]}
def yf(L:ah):Func:=
 {name:= "internal/sync.runtime_nanotime",origin:= "",params:=#[],resultTypes:=#[2],nfree:=0,ntmps:=0,results:=#[],body:=none,norace:=true,file:= "internal/sync/runtime.go",endLine:=0,tmpNames:=#[]}
def rX(L:ah):Func:=
 {name:= "internal/sync.runtime_SemacquireMutex",origin:= "",params:=#[L.tPU32,4,3],resultTypes:=#[],nfree:=0,ntmps:=3,results:=#[],body:=none,norace:=true,file:= "internal/sync/runtime.go",endLine:=0,tmpNames:=#[]}
def fatalFn(L:ah):Func:=
 {name:= "internal/sync.fatal",origin:= "",params:=#[9],resultTypes:=#[],nfree:=0,ntmps:=1,results:=#[],body:=none,norace:=true,file:= "internal/sync/runtime.go",endLine:=0,tmpNames:=#[]}
def rY(L:ah):Func:=
 {name:= "internal/sync.runtime_Semrelease",origin:= "",params:=#[L.tPU32,4,3],resultTypes:=#[],nfree:=0,ntmps:=3,results:=#[],body:=none,norace:=true,file:= "internal/sync/runtime.go",endLine:=0,tmpNames:=#[]}
structure dX(P:Program)(L:ah):Prop where
 lib:MuLib P L.mu
 vC:P.funcs[L.mu.lockSlow]?=some (jW L)
 pU:P.funcs[L.mu.unlockSlow]?=some (iK L)
 Eh:P.funcs[L.canSpin]?=some (oH L)
 Vh:P.funcs[L.FW]?=some (rW L)
 aiH:P.funcs[L.throw]?=some (Z7 L)
 Vj:P.funcs[L.nano]?=some (yf L)
 Vk:P.funcs[L.FX]?=some (rX L)
 f_fatal:P.funcs[L.fatal]?=some (fatalFn L)
 wR:P.funcs[L.semrel]?=some (rY L)
 runUnderlying_tPU32:∀(w:World),Sem.run P (underlying L.tPU32) w=Result.ok (TypeDesc.pointer L.mu.tU32) w
 sizeOf_tU32:∀(w:World),Sem.run P (Go.sizeOf L.mu.tU32) w=Result.ok 1 w
 isAgg_tU32:∀(w:World),Sem.run P (isAgg L.mu.tU32) w=Result.ok false w
 runUnderlying_tU32:∀(w:World),Sem.run P (underlying L.mu.tU32) w=Result.ok (TypeDesc.int IntKind.u32) w
 Ql:∀(w:World),Sem.run P (underlying 2) w=Result.ok (TypeDesc.int IntKind.i64) w
 runUnderlying_t3:∀(w:World),Sem.run P (underlying 3) w=Result.ok (TypeDesc.int IntKind.i64) w
 runUnderlying_t4:∀(w:World),Sem.run P (underlying 4) w=Result.ok TypeDesc.bool w
end Go.Mx
namespace Go.Mx
open Go.ConcN (sumTo upd upd_same upd_ne sumTo_upd le_sumTo sumTo_le sumTo_congr)
structure Wd where
 L:Nat
 W:Nat
 S:Nat
 n:Nat
 deriving DecidableEq
def Wd.num(m:Wd):Nat:=m.L+2*m.W+4*m.S+8*m.n
structure Wd.Bits(m:Wd):Prop where
 L:m.L<=1
 W:m.W<=1
 S:m.S<=1
theorem Wd.inj{a b:Wd}(c:a.Bits)(d:b.Bits)(h:a.num=b.num):a=b:=by
 obtain⟨l,m,n,o⟩:=a
 obtain⟨p,q,r,s⟩:=b
 obtain⟨e,f,g⟩:=c
 obtain⟨i,j,k⟩:=d
 simp only[Wd.num]at h e f g i j k;simp only[Wd.mk.injEq]
 omega
structure Lo where
 old:Wd
 aw:Bool
 sv:Bool
 it:Nat
inductive Lk where
 |out|l0|rd (aw sv:Bool) (it:Nat)|sq (T:Lo)|c1 (T:Lo)|c2 (T:Lo)|t1 (sv:Bool)|s1 (sv:Bool)|t2|r2 (sv:Bool)|a1 (sv cl:Bool)
 |own|uc (old:Wd)|ux|us|done
def hd(T:Lo):Lk:=if T.old.L=1/\T.old.S=0 then .sq T else .c2 T
def bit(b:Bool):Nat:=if b then 1 else 0
def cO:Lk->Nat|.own=>1|_=>0
def cK:Lk->Nat|.rd a _ _=>bit a|.sq T=>bit T.aw|.c1 T=>bit T.aw|.c2 T=>bit T.aw|_=>0
def cT:Lk->Nat|.t2=>1|.r2 _=>1|_=>0
def cU:Lk->Nat|.us=>1|_=>0
def cA:Lk->Nat|.a1 _ _=>1|_=>0
def cW:Lk->Nat|.t1 _=>1|.s1 _=>1|_=>0
def Ei:Lk->Prop|.uc _=>True|.ux=>True|_=>False
def sm(φ:Lk->Nat)(j:Nat)(lk:Nat->Lk):Nat:=sumTo j fun i=>φ (lk i)
def WfT(B:Nat)(T:Lo):Prop:=T.old.Bits/\T.old.n<=B/\(T.sv=true->T.aw=true)/\(T.aw=true->T.old.W=1/\T.old.S=0)/\T.it<=4
def Wf(B:Nat)(m:Wd):Lk->Prop
 | .rd a b c=>(b=true->a=true)/\c<=4
 | .sq T=>WfT B T/\T.old.L=1/\T.old.S=0
 | .c1 T=>WfT B T/\T.old.L=1/\T.old.S=0/\T.old.W=0/\0<T.old.n/\T.aw=false/\T.it<4
 | .c2 T=>WfT B T
 | .a1 _ d=>d=false->2<=m.n
 | .uc o=>o.Bits/\o.L=0/\o.W=0/\o.S=0/\0<o.n/\o.n<=B
 |_=>True
structure MI(B j:Nat)(lk:Nat->Lk)(m:Wd)(q:Nat):Prop where
 bits:m.Bits
 jB:j<=B
 own:sm cO j lk=m.L
 nor:m.S=0->sm cK j lk+sm cT j lk+sm cU j lk+q=m.W/\sm cA j lk=0/\m.n+sm cU j lk+q=sm cW j lk
 sta:m.S=1->m.W=0/\sm cK j lk=0/\m.L+sm cT j lk+sm cA j lk+sm cU j lk+q=1/\m.n=sm cW j lk+sm cT j lk+sm cA j lk/\1<=m.n
 prog:m.L=0->m.S=0->m.W=0->0<m.n->∃i,i<j/\Ei (lk i)
 wf:∀i,i<j->Wf B m (lk i)
inductive Mv:Wd->Nat->Lk->Wd->Nat->Lk->Prop
 |enter {m q}:Mv m q .out m q .l0
 |l0f {m q} (h:m=⟨0,0,0,0⟩):Mv m q .l0 ⟨1,0,0,0⟩ q .own
 |l0s {m q} (h:m≠⟨0,0,0,0⟩):Mv m q .l0 m q (.rd false false 0)
 |rd {m q aw sv it}:Mv m q (.rd aw sv it) m q (hd ⟨m,aw,sv,it⟩)
 |sqn {m q T}:Mv m q (.sq T) m q (.c2 T)
 |sqc {m q T} (h:T.it<4) (ha:T.aw=false/\T.old.W=0/\T.old.n≠0):Mv m q (.sq T) m q (.c1 T)
 |sqr {m q T} (h:T.it<4) (ha:¬(T.aw=false/\T.old.W=0/\T.old.n≠0)):Mv m q (.sq T) m q (.rd T.aw T.sv (T.it+1))
 |c1y {m q T} (h:m=T.old):Mv m q (.c1 T) ⟨m.L,1,m.S,m.n⟩ q (.rd true T.sv (T.it+1))
 |c1n {m q T} (h:m≠T.old):Mv m q (.c1 T) m q (.rd false T.sv (T.it+1))
 |c2l {m q T} (h:m=T.old) (h1:m.L=0/\m.S=0):Mv m q (.c2 T) ⟨1,if T.aw then 0 else m.W,0,m.n⟩ q .own
 |c2q {m q T y} (h:m=T.old) (h1:¬(m.L=0/\m.S=0)) (hy:y=.t1 T.sv∨y=.s1 T.sv):Mv m q (.c2 T) ⟨m.L,if T.aw then 0 else m.W,if T.sv/\m.L=1 then 1 else m.S,m.n+1⟩ q y
 |c2n {m q T} (h:m≠T.old):Mv m q (.c2 T) m q (.rd T.aw T.sv T.it)
 |t1 {m q sv}:Mv m q (.t1 sv) m q (.s1 sv)
 |s1 {m q sv}:Mv m (q+1) (.s1 sv) m q (if sv then .r2 true else .t2)
 |t2 {m q b}:Mv m q .t2 m q (.r2 b)
 |r2n {m q sv} (h:m.S=0):Mv m q (.r2 sv) m q (hd ⟨m,true,sv,0⟩)
 |r2s {m q sv} (h:m.S=1):Mv m q (.r2 sv) m q (.a1 sv (!sv||decide (m.n=1)))
 |a1 {m q sv cl}:Mv m q (.a1 sv cl) ⟨1,m.W,if cl then 0 else m.S,m.n-1⟩ q .own
 |u0d {m q} (h:m.S=0/\(m.W=1∨m.n=0)):Mv m q .own ⟨0,m.W,m.S,m.n⟩ q .done
 |u0c {m q} (h:m.S=0/\m.W=0/\0<m.n):Mv m q .own ⟨0,m.W,m.S,m.n⟩ q (.uc ⟨0,m.W,m.S,m.n⟩)
 |u0s {m q} (h:m.S=1):Mv m q .own ⟨0,m.W,m.S,m.n⟩ q .us
 |ucy {m q o} (h:m=o):Mv m q (.uc o) ⟨m.L,1,m.S,m.n-1⟩ q .us
 |ucn {m q o} (h:m≠o):Mv m q (.uc o) m q .ux
 |uxd {m q} (h:¬(m.L=0/\m.W=0/\m.S=0/\0<m.n)):Mv m q .ux m q .done
 |uxc {m q} (h:m.L=0/\m.W=0/\m.S=0/\0<m.n):Mv m q .ux m q (.uc m)
 |us {m q}:Mv m q .us m (q+1) .done
section
variable{B j q b:Nat}{lk:Nat->Lk}{m a:Wd}{i:Nat}{x y:Lk}
theorem iT(c:Lk->Nat)(y:Lk)(d:i<j):sm c j (upd lk i y)+c (lk i)=sm c j lk+c y:=sumTo_upd lk y c d
theorem mW(φ:Lk->Nat)(c:i<j):φ (lk i)<=sm φ j lk:=le_sumTo (f:=fun i=>φ (lk i)) c
theorem Vl(c d:Lk->Nat)(j:Nat)(lk:Nat->Lk):sm (fun x=>c x+d x) j lk=sm c j lk+sm d j lk:=by
 unfold sm;induction j with
 |zero=>rfl
 |succ j f=>simp only[sumTo];rw[f];omega
theorem adK{d:Lk->Nat}(h:∀x,d x<=1):sm d j lk<=j:=by
 have:=sumTo_le (f:=fun i=>d (lk i)) (c:=1) (j:=j) fun i _=>h _
 simpa [sm]using this
theorem MI.le(h:MI B j lk m q):m.n<=j:=by
 have c:sm (fun x=>(cW x+cT x)+cA x) j lk<=j:=adK fun x=>by cases x<;>simp[cW,cT,cA]
 rw[Vl (fun x=>cW x+cT x) cA,Vl cW cT]at c;have d:=h.bits.S
 rcases Nat.eq_zero_or_pos m.S with e|e
 ·have:=h.nor e;omega
 ·have:=h.sta (by omega);omega
theorem MI.mk'(h:MI B j lk m q)(u:i<j)(bits:a.Bits)
  (own:sm cO j (upd lk i y)=a.L)
  (g:a.S=0->sm cK j (upd lk i y)+sm cT j (upd lk i y)+sm cU j (upd lk i y)+b=a.W/\sm cA j (upd lk i y)=0/\a.n+sm cU j (upd lk i y)+b=sm cW j (upd lk i y))
  (l:a.S=1->a.W=0/\sm cK j (upd lk i y)=0/\a.L+sm cT j (upd lk i y)+sm cA j (upd lk i y)+sm cU j (upd lk i y)+b=1/\a.n=sm cW j (upd lk i y)+sm cT j (upd lk i y)+sm cA j (upd lk i y)/\1<=a.n)
  (c:a.L=0->a.S=0->a.W=0->0<a.n->(Ei y∨(¬Ei (lk i)/\m.L=0/\m.S=0/\m.W=0/\0<m.n)))
  (o:Wf B a y) (r:m.n<=a.n∨sm cA j lk=0∨1<=cA (lk i)) (Q:sm cA j lk<=1):MI B j (upd lk i y) a b:=by
 refine⟨bits,h.jB,own,g,l,fun A C D E=>?_,fun k d=>?_⟩
 ·rcases c A C D E with p|⟨F,H,J,M,N⟩
  · exact⟨i,u,by rw[upd_same];exact p⟩
  · obtain⟨k,d,v⟩:=h.prog H J M N
    have s:k≠i:=fun e=>F (e▸v)
    exact⟨k,d,by rw[upd_ne lk y s];exact v⟩
 ·by_cases e:k=i
  · subst e;rw[upd_same];exact o
  · rw[upd_ne lk y e];have f:=h.wf k d
    revert f;cases t:lk k<;>simp only[Wf]<;>try exact id
    intro f O;have f:=f O
    rename_i R T;have P:=iT (lk:=lk) cA .out u;have z:=mW (lk:=upd lk i .out) cA d
    rw[upd_ne lk .out e,t]at z;simp only[cA]at P z;rcases r with w|w|w
    ·omega
    ·omega
    ·simp only[cA]at w;omega
theorem MI.pV(h:MI B j lk m q):sm cA j lk<=1:=by
 have c:=h.bits.S
 rcases Nat.eq_zero_or_pos m.S with e|e
 ·have:=h.nor e;omega
 ·have:=h.sta (by omega);omega
theorem ab1{T:Lo}(h:WfT B T):Wf B m (hd T):=by
 unfold hd;split
 ·rename_i e;exact⟨h,e⟩
 ·exact h
theorem agp(T:Lo):cO (hd T)=0/\cK (hd T)=bit T.aw/\cT (hd T)=0/\cU (hd T)=0/\cA (hd T)=0/\cW (hd T)=0:=by
 unfold hd;split<;>exact⟨rfl,rfl,rfl,rfl,rfl,rfl⟩
end
end Go.Mx
namespace Go.Mx
open Go.ConcN (sumTo upd upd_same upd_ne sumTo_upd le_sumTo sumTo_le sumTo_congr)
section
variable{B j q f:Nat}{lk:Nat->Lk}{m m':Wd}{i:Nat}{x y:Lk}
theorem MI.still(h:MI B j lk m q)(a:i<j)(r:cO y=cO (lk i))(s:cK y=cK (lk i))(t:cT y=cT (lk i))(u:cU y=cU (lk i))(v:cA y=cA (lk i))(w:cW y=cW (lk i))
  (b:¬Ei (lk i)∨Ei y∨¬(m.L=0/\m.W=0/\m.S=0/\0<m.n)) (p:Wf B m y):MI B j (upd lk i y) m q:=by
 have z:=iT (lk:=lk) cO y a
 have A:=iT (lk:=lk) cK y a
 have C:=iT (lk:=lk) cT y a
 have D:=iT (lk:=lk) cU y a
 have E:=iT (lk:=lk) cA y a
 have F:=iT (lk:=lk) cW y a
 have own:=h.own
 have c:=h.nor
 have d:=h.sta
 refine h.mk' a h.bits (by omega) (fun e=>?_) (fun e=>?_) (fun g k l o=>?_) p (.inl (Nat.le_refl _)) h.pV
 ·have:=c e;omega
 ·have:=d e;omega
 ·rcases b with b|b|b
  · exact .inr ⟨b,g,k,l,o⟩
  · exact .inl b
  · exact absurd ⟨g,l,k,o⟩ b
theorem MI.step(h:MI B j lk m q)(l:i<j)(g:lk i=x)(k:Mv m q x m' f y):MI B j (upd lk i y) m' f:=by
 have p:=h.wf i l
 rw[g]at p;have a2:=h.le
 have a3:=h.jB
 have v:=iT (lk:=lk) cO y l
 have u:=iT (lk:=lk) cK y l
 have w:=iT (lk:=lk) cT y l
 have z:=iT (lk:=lk) cU y l
 have A:=iT (lk:=lk) cA y l
 have C:=iT (lk:=lk) cW y l
 have F:=mW (lk:=lk) cO l
 have E:=mW (lk:=lk) cK l
 have H:=mW (lk:=lk) cT l
 have J:=mW (lk:=lk) cU l
 have M:=mW (lk:=lk) cA l
 have N:=mW (lk:=lk) cW l
 rw[g]at v u w z A C F E H J M N;have own:=h.own
 have s:=h.nor
 have D:=h.sta
 have bL:=h.bits.L
 have R:=h.bits.W
 have P:=h.bits.S
 have seen:∀{U O:Bool} {it:Nat},(O=true->U=true)->it<=4->(U=true->m.W=1/\m.S=0)->WfT B ⟨m,U,O,it⟩:=fun a b c=>⟨h.bits,by show m.n<=B;omega,a,c,b⟩
 have awake:∀{U:Bool},bit U<=sm cK j lk->U=true->m.W=1/\m.S=0:=by
  intro U hb ha;subst ha;simp only[bit,if_true]at hb;rcases Nat.eq_zero_or_pos m.S with e|e
  · have:=s e;omega
  · have:=D (by omega);omega
 cases k with
 |enter=>exact h.still l (by rw[g];rfl) (by rw[g];rfl) (by rw[g];rfl) (by rw[g];rfl) (by rw[g];rfl) (by rw[g];rfl) (.inl (by rw[g];exact id)) trivial
 |l0f e=>
  subst e;have X:=s rfl
  simp only[cO,cK,cT,cU,cA,cW]at v u w z A C F E H J M N X own;exact h.mk' l ⟨by simp,by simp,by simp⟩ (by simp only[];omega) (fun _=>by simp only[];omega) (fun e=>by cases e) (fun e=>by cases e) trivial (.inl (Nat.le_refl _)) h.pV
 |l0s e=>exact h.still l (by rw[g];rfl) (by rw[g];rfl) (by rw[g];rfl) (by rw[g];rfl) (by rw[g];rfl) (by rw[g];rfl) (.inl (by rw[g];exact id)) ⟨fun x=>x,by omega⟩
 |rd=>
  rename_i U O it;obtain⟨Y,w2⟩:=p
  obtain⟨c1,c2,c3,c4,c5,c6⟩:=agp ⟨m,U,O,it⟩
  exact h.still l (by rw[g,c1];rfl) (by rw[g,c2];rfl) (by rw[g,c3];rfl) (by rw[g,c4];rfl) (by rw[g,c5];rfl) (by rw[g,c6];rfl) (.inl (by rw[g];exact id)) (ab1 (seen Y w2 (awake E)))
 |sqn=>exact h.still l (by rw[g];rfl) (by rw[g];rfl) (by rw[g];rfl) (by rw[g];rfl) (by rw[g];rfl) (by rw[g];rfl) (.inl (by rw[g];exact id)) p.1
 |sqc e ha=>exact h.still l (by rw[g];rfl) (by rw[g];rfl) (by rw[g];rfl) (by rw[g];rfl) (by rw[g];rfl) (by rw[g];rfl) (.inl (by rw[g];exact id)) ⟨p.1,p.2.1,p.2.2,ha.2.1,by omega,ha.1,e⟩
 |sqr e ha=>exact h.still l (by rw[g];rfl) (by rw[g];rfl) (by rw[g];rfl) (by rw[g];rfl) (by rw[g];rfl) (by rw[g];rfl) (.inl (by rw[g];exact id)) ⟨p.1.2.2.1,by omega⟩
 |c1y e=>
  rename_i T;obtain⟨Y,w2,Z,V,w5,w6,w7⟩:=p
  subst e;simp only[cO,cK,cT,cU,cA,cW,bit,w6,Bool.false_eq_true,if_false,if_true]at*;have:=s Z
  refine h.mk' l ⟨bL,Nat.le_refl _,P⟩ (by simp only[];omega) (fun _=>by simp only[];omega) (fun e=>by simp only[]at e;omega) (fun _ _ e=>by simp at e) ⟨fun _=>rfl,by omega⟩ (.inl (Nat.le_refl _)) h.pV
 |c1n e=>
  obtain⟨Y,w2,Z,V,w5,w6,w7⟩:=p
  exact h.still l (by rw[g];rfl) (by rw[g];simp only[cK,w6]) (by rw[g];rfl) (by rw[g];rfl) (by rw[g];rfl) (by rw[g];rfl) (.inl (by rw[g];exact id)) ⟨fun e=>by have:=Y.2.2.1 e;rw[w6]at this;exact this,by omega⟩
 |c2l e e1=>
  rename_i T;obtain⟨Y,w2,Z,V,w5⟩:=p
  subst e;have X:=s e1.2;cases r:T.aw with
  | false=>simp only[cO,cK,cT,cU,cA,cW,bit,r,Bool.false_eq_true,if_false,if_true]at*;exact h.mk' l ⟨Nat.le_refl _,R,Nat.zero_le _⟩ (by simp only[];omega) (fun _=>by simp only[];omega) (fun e=>by simp at e) (fun e=>by simp at e) trivial (.inl (Nat.le_refl _)) h.pV
  | true=>simp only[cO,cK,cT,cU,cA,cW,bit,r,Bool.false_eq_true,if_false,if_true]at*;have:=(V trivial).1;exact h.mk' l ⟨Nat.le_refl _,Nat.zero_le _,Nat.zero_le _⟩ (by simp only[];omega) (fun _=>by simp only[];omega) (fun e=>by simp at e) (fun e=>by simp at e) trivial (.inl (Nat.le_refl _)) h.pV
 |c2q e e1 hy=>
  rename_i T;obtain⟨Y,w2,Z,V,w5⟩:=p
  have a0:cO y=0/\cK y=0/\cT y=0/\cU y=0/\cA y=0/\cW y=1/\Wf B ⟨m.L,if T.aw then 0 else m.W,if T.sv/\m.L=1 then 1 else m.S,m.n+1⟩ y:=by rcases hy with rfl|rfl<;>exact⟨rfl,rfl,rfl,rfl,rfl,rfl,trivial⟩
  obtain⟨y1,y2,y3,y4,y5,y6,Q⟩:=a0
  rw[y1]at v;rw[y2]at u;rw[y3]at w;rw[y4]at z;rw[y5]at A;rw[y6]at C;subst e;simp only[cO,cK,cT,cU,cA,cW]at v u w z A C F E H J M N;rcases Nat.eq_zero_or_pos T.old.S with eS|eS
  · have X:=s eS
    have hL:T.old.L=1:=by omega
    cases r:T.aw with
    |false=>
     have t:T.sv=false:=by cases hh:T.sv with|false=>rfl|true=>have:=Z hh;rw[r]at this;cases this
     rw[r,t]at Q;simp only[bit,r,t,Bool.false_eq_true,if_false,false_and]at*;exact h.mk' l ⟨bL,R,P⟩ (by simp only[];omega) (fun _=>by simp only[];omega) (fun e=>by simp only[]at e;omega) (fun e=>by simp only[]at e;omega) Q (.inl (by simp only[];omega)) h.pV
    |true=>
     have b3:=(V r).1;cases t:T.sv with
     |false=>rw[r,t]at Q;simp only[bit,r,t,Bool.false_eq_true,if_false,if_true,false_and]at*;exact h.mk' l ⟨bL,Nat.zero_le _,P⟩ (by simp only[];omega) (fun _=>by simp only[];omega) (fun e=>by simp only[]at e;omega) (fun e=>by simp only[]at e;omega) Q (.inl (by simp only[];omega)) h.pV
     |true=>simp only[bit,r,if_true]at u E;simp only[r,t,hL,if_true,and_self]at Q⊢;exact h.mk' l ⟨by simp,Nat.zero_le _,Nat.le_refl _⟩ (by simp only[];omega) (fun e=>by simp at e) (fun _=>by simp only[];refine⟨trivial,by omega,by omega,by omega,by omega⟩) (fun e=>by simp at e) Q (.inl (by simp only[];omega)) h.pV
  · have hs:=D (by omega)
    have r:T.aw=false:=by cases hh:T.aw with|false=>rfl|true=>have:=(V hh).2;omega
    have t:T.sv=false:=by cases hh:T.sv with|false=>rfl|true=>have:=Z hh;rw[r]at this;cases this
    rw[r,t]at Q;simp only[bit,r,t,Bool.false_eq_true,if_false,false_and]at*;exact h.mk' l ⟨bL,R,P⟩ (by simp only[];omega) (fun e=>by simp only[]at e;omega) (fun _=>by simp only[];omega) (fun _ e=>by simp only[]at e;omega) Q (.inl (by simp only[];omega)) h.pV
 |c2n e=>exact h.still l (by rw[g];rfl) (by rw[g];rfl) (by rw[g];rfl) (by rw[g];rfl) (by rw[g];rfl) (by rw[g];rfl) (.inl (by rw[g];exact id)) ⟨p.2.2.1,p.2.2.2.2⟩
 |t1=>exact h.still l (by rw[g];rfl) (by rw[g];rfl) (by rw[g];rfl) (by rw[g];rfl) (by rw[g];rfl) (by rw[g];rfl) (.inl (by rw[g];exact id)) trivial
 |s1=>
  rename_i O;have a0:∀y,y=(if O then Lk.r2 true else .t2)->cO y=0/\cK y=0/\cT y=1/\cU y=0/\cA y=0/\cW y=0/\Wf B m y:=by
    intro y e;subst e;cases O<;>exact⟨rfl,rfl,rfl,rfl,rfl,rfl,trivial⟩
  obtain⟨y1,y2,y3,y4,y5,y6,Q⟩:=a0 _ rfl
  rw[y1]at v;rw[y2]at u;rw[y3]at w;rw[y4]at z;rw[y5]at A;rw[y6]at C;simp only[cO,cK,cT,cU,cA,cW]at v u w z A C F E H J M N;exact h.mk' l h.bits (by omega) (fun e=>by have:=s e;omega) (fun e=>by have:=D e;omega) (fun a b c d=>.inr ⟨by rw[g];exact id,a,b,c,d⟩) Q (.inl (Nat.le_refl _)) h.pV
 |t2=>exact h.still l (by rw[g];rfl) (by rw[g];rfl) (by rw[g];rfl) (by rw[g];rfl) (by rw[g];rfl) (by rw[g];rfl) (.inl (by rw[g];exact id)) trivial
 |r2n e=>
  rename_i O;obtain⟨c1,c2,c3,c4,c5,c6⟩:=agp ⟨m,true,O,0⟩
  rw[c1]at v;rw[c2]at u;rw[c3]at w;rw[c4]at z;rw[c5]at A;rw[c6]at C;simp only[cO,cK,cT,cU,cA,cW,bit,if_true]at v u w z A C F E H J M N;have X:=s e
  exact h.mk' l h.bits (by omega) (fun e=>by omega) (fun e=>by omega) (fun a b c d=>.inr ⟨by rw[g];exact id,a,b,c,d⟩) (ab1 (seen (fun _=>rfl) (by omega) fun _=>⟨by omega,e⟩)) (.inl (Nat.le_refl _)) h.pV
 |r2s e=>
  rename_i O;simp only[cO,cK,cT,cU,cA,cW]at v u w z A C F E H J M N;have hs:=D e
  refine h.mk' l h.bits (by omega) (fun e=>by omega) (fun e=>by omega) (fun a b c d=>by omega) (fun hc=>?_) (.inl (Nat.le_refl _)) h.pV;simp only[Bool.or_eq_false_iff,Bool.not_eq_false',decide_eq_false_iff_not]at hc;omega
 |a1=>
  rename_i O cl;simp only[cO,cK,cT,cU,cA,cW]at v u w z A C F E H J M N;have hS:m.S=1:=by
    rcases Nat.eq_zero_or_pos m.S with e|e
    ·have:=s e;omega
    ·omega
  have hs:=D hS
  cases cl with
  | false=>
    have hw:2<=m.n:=p rfl
    simp only[Bool.false_eq_true,if_false]
    exact h.mk' l ⟨Nat.le_refl _,R,P⟩ (by simp only[];omega) (fun e=>by simp only[]at e;omega) (fun _=>by simp only[];omega) (fun e=>by simp at e) trivial (.inr (.inr (by rw[g];exact Nat.le_refl _))) h.pV
  | true=>
    simp only[if_true]
    exact h.mk' l ⟨Nat.le_refl _,R,Nat.zero_le _⟩ (by simp only[];omega) (fun _=>by simp only[];omega) (fun e=>by simp at e) (fun e=>by simp at e) trivial (.inr (.inr (by rw[g];exact Nat.le_refl _))) h.pV
 |u0d e=>simp only[cO,cK,cT,cU,cA,cW]at v u w z A C F E H J M N;have X:=s e.1;exact h.mk' l ⟨Nat.zero_le _,R,P⟩ (by simp only[];omega) (fun _=>by simp only[];omega) (fun e'=>by simp only[]at e';omega) (fun _ _ e2 e3=>by simp only[]at e2 e3;omega) trivial (.inl (Nat.le_refl _)) h.pV
 |u0c e=>simp only[cO,cK,cT,cU,cA,cW]at v u w z A C F E H J M N;have X:=s e.1;exact h.mk' l ⟨Nat.zero_le _,R,P⟩ (by simp only[];omega) (fun _=>by simp only[];omega) (fun e'=>by simp only[]at e';omega) (fun _ _ _ _=>.inl trivial) ⟨⟨Nat.zero_le _,R,P⟩,rfl,e.2.1,e.1,e.2.2,by show m.n<=B;omega⟩ (.inl (Nat.le_refl _)) h.pV
 |u0s e=>
  simp only[cO,cK,cT,cU,cA,cW]at v u w z A C F E H J M N;have hs:=D e
  exact h.mk' l ⟨Nat.zero_le _,R,P⟩ (by simp only[];omega) (fun e'=>by simp only[]at e';omega) (fun _=>by simp only[];omega) (fun _ e2=>by simp only[]at e2;omega) trivial (.inl (Nat.le_refl _)) h.pV
 |ucy e=>
  rename_i o;obtain⟨Y,w2,Z,V,w5,w6⟩:=p
  subst e;simp only[cO,cK,cT,cU,cA,cW]at v u w z A C F E H J M N;have X:=s V
  exact h.mk' l ⟨bL,Nat.le_refl _,P⟩ (by simp only[];omega) (fun _=>by simp only[];omega) (fun e'=>by simp only[]at e';omega) (fun _ _ e2=>by simp at e2) trivial (.inr (.inl (by omega))) h.pV
 |ucn e=>exact h.still l (by rw[g];rfl) (by rw[g];rfl) (by rw[g];rfl) (by rw[g];rfl) (by rw[g];rfl) (by rw[g];rfl) (.inr (.inl trivial)) trivial
 |uxd e=>exact h.still l (by rw[g];rfl) (by rw[g];rfl) (by rw[g];rfl) (by rw[g];rfl) (by rw[g];rfl) (by rw[g];rfl) (.inr (.inr e)) trivial
 |uxc e=>exact h.still l (by rw[g];rfl) (by rw[g];rfl) (by rw[g];rfl) (by rw[g];rfl) (by rw[g];rfl) (by rw[g];rfl) (.inr (.inl trivial)) ⟨h.bits,e.1,e.2.1,e.2.2.1,e.2.2.2,by omega⟩
 |us=>simp only[cO,cK,cT,cU,cA,cW]at v u w z A C F E H J M N;exact h.mk' l h.bits (by omega) (fun e=>by have:=s e;omega) (fun e=>by have:=D e;omega) (fun a b c d=>.inr ⟨by rw[g];exact id,a,b,c,d⟩) trivial (.inl (Nat.le_refl _)) h.pV
end
end Go.Mx
namespace Go.Mx
open Go.ConcN (sumTo upd upd_same upd_ne sumTo_upd le_sumTo sumTo_le sumTo_congr)
def pt:Lk->Nat
 | .out|.l0|.c1 _=>5
 | .rd a _ _=>if a then 4 else 5
 | .sq T|.c2 T=>if T.aw then 4 else 5
 | .t1 _|.s1 _|.own=>3
 | .t2|.r2 _|.a1 _ _=>4
 | .uc _|.ux=>2
 | .us=>1
 | .done=>0
def rk(m:Wd):Lk->Nat
 | .out=>60
 | .l0=>59
 | .rd _ _ a=>3*(5-a)+3
 | .sq T=>if T.old=m then 3*(5-T.it)+2 else 3*(5-T.it)+6
 | .c1 T=>if T.old=m then 3*(5-T.it)+1 else 3*(5-T.it)+5
 | .c2 T=>if T.old=m then 1 else 3*(5-T.it)+4
 | .t1 _=>50
 | .s1 _=>49
 | .t2=>48
 | .r2 _=>47
 | .a1 _ _=>1
 | .own=>40
 | .uc o=>if o=m then 1 else 3
 | .ux=>2
 | .us=>1
 | .done=>0
section
variable{B j q d:Nat}{lk:Nat->Lk}{m m':Wd}{i:Nat}{x y:Lk}
theorem ab2(T:Lo):pt (hd T)=if T.aw then 4 else 5:=by unfold hd;split<;>rfl
theorem ab3(T:Lo)(h:T.old=m):rk m (hd T)<=3*(5-T.it)+2:=by
 unfold hd;split
 ·simp[rk,h]
 ·simp[rk,h]
theorem Mv.nearer(h:Mv m q x m' d y)(g:Wf B m x):pt y+d<pt x+q∨(m'=m/\pt y+d=pt x+q/\rk m y<rk m x):=by
 cases h with
 |enter=>exact .inr ⟨rfl,rfl,by simp[rk]⟩
 |l0f e=>exact .inl (by simp[pt])
 |l0s e=>exact .inr ⟨rfl,by simp[pt],by simp[rk]⟩
 |rd=>
  rename_i c a b;refine .inr ⟨rfl,by rw[ab2];rfl,?_⟩;have:=ab3 (m:=m) ⟨m,c,a,b⟩ rfl
  show rk m (hd ⟨m,c,a,b⟩)<3*(5-b)+3;dsimp only at this;omega
 |sqn=>
  rename_i T;refine .inr ⟨rfl,rfl,?_⟩;simp only[rk]
  split<;>omega
 |sqc e f=>
  rename_i T;refine .inr ⟨rfl,by simp[pt,f.1],?_⟩;simp only[rk]
  split<;>omega
 |sqr e f=>
  rename_i T;refine .inr ⟨rfl,rfl,?_⟩;simp only[rk]
  split<;>omega
 |c1y e=>exact .inl (by simp[pt])
 |c1n e=>
  rename_i T;have N:=g.2.2.2.2.2.2;refine .inr ⟨rfl,by simp[pt],?_⟩;simp only[rk]
  split<;>omega
 |c2l e u=>exact .inl (by simp only[pt];split<;>omega)
 |c2q e u w=>refine .inl ?_;rcases w with rfl|rfl<;>(simp only[pt];split<;>omega)
 |c2n e=>
  rename_i T;refine .inr ⟨rfl,rfl,?_⟩;simp only[rk]
  rw[if_neg (fun x=>e x.symm)];omega
 |t1=>exact .inr ⟨rfl,rfl,by simp[rk]⟩
 |s1=>
  rename_i a;refine .inr ⟨rfl,?_,?_⟩
  · cases a<;>simp only[pt]<;>simp<;>omega
  · cases a<;>simp[rk]
 |t2=>exact .inr ⟨rfl,rfl,by simp[rk]⟩
 |r2n e=>
  rename_i a;refine .inr ⟨rfl,by rw[ab2];rfl,?_⟩;have:=ab3 (m:=m) ⟨m,true,a,0⟩ rfl
  dsimp only at this;show rk m (hd ⟨m,true,a,0⟩)<47;omega
 |r2s e=>exact .inr ⟨rfl,rfl,by simp[rk]⟩
 |a1=>exact .inl (by simp[pt])
 |u0d e=>exact .inl (by simp[pt])
 |u0c e=>exact .inl (by simp[pt])
 |u0s e=>exact .inl (by simp[pt])
 |ucy e=>exact .inl (by simp[pt])
 |ucn e=>
  refine .inr ⟨rfl,rfl,?_⟩;simp only[rk]
  rw[if_neg (fun x=>e x.symm)];omega
 |uxd e=>exact .inl (by simp[pt])
 |uxc e=>exact .inr ⟨rfl,rfl,by simp[rk]⟩
 |us=>exact .inr ⟨rfl,by simp only[pt];omega,by simp[rk]⟩
def Hl(j:Nat)(lk:Nat->Lk)(q:Nat):Nat:=sm pt j lk+q
theorem Hl.step(a:i<j)(b:lk i=x)(h:Mv m q x m' d y)(c:Wf B m x):Hl j (upd lk i y) d<Hl j lk q∨(m'=m/\Hl j (upd lk i y) d=Hl j lk q/\rk m y<rk m x):=by
 have e:=iT (lk:=lk) pt y a
 have l:=mW (lk:=lk) pt a
 rw[b]at e l;unfold Hl;rcases h.nearer c with h|⟨f,k,g⟩
 ·exact .inl (by omega)
 ·exact .inr ⟨f,by omega,g⟩
def act:Lk->Prop
 | .out|.s1 _|.done=>False
 |_=>True
theorem Og{φ:Lk->Nat}:∀{j:Nat},(∀k,k<j->φ (lk k)=0)->sm φ j lk=0
 |0,_=>rfl
 |j+1,h=>by
  have a:sm φ j lk=0:=Og fun k b=>h k (by omega)
  unfold sm at a⊢;simp only[sumTo]
  rw[a,h j (by omega)]
theorem MI.alive(h:MI B j lk m 0)(p:i<j){sv:Bool}(r:lk i=.s1 sv):∃k,k<j/\act (lk k):=by
 apply Classical.byContradiction;intro l;have f:∀k,k<j->lk k=.out∨(∃sv,lk k=.s1 sv)∨lk k=.done:=by
  intro k g;have:¬act (lk k):=fun x=>l ⟨k,g,x⟩
  revert this;cases lk k<;>simp[act]
 have z:∀{φ:Lk->Nat},φ .out=0->φ .done=0->(∀sv,φ (.s1 sv)=0)->sm φ j lk=0:=fun a b c=>Og fun k g=>by
  rcases f k g with e|⟨sv,e⟩|e<;>rw[e]
  · exact a
  · exact c _
  · exact b
 have t:=z (φ:=cO) rfl rfl fun _=>rfl
 have u:=z (φ:=cK) rfl rfl fun _=>rfl
 have zT:=z (φ:=cT) rfl rfl fun _=>rfl
 have v:=z (φ:=cU) rfl rfl fun _=>rfl
 have w:=z (φ:=cA) rfl rfl fun _=>rfl
 have n:=mW (lk:=lk) cW p
 rw[r]at n;simp only[cW]at n;have own:=h.own
 have A:=h.bits.S
 have C:=h.bits.W
 rcases Nat.eq_zero_or_pos m.S with e|e
 ·have s:=h.nor e
  obtain⟨k,g,o⟩:=h.prog (by omega) e (by omega) (by omega)
  refine l ⟨k,g,?_⟩;revert o;cases lk k<;>simp[Ei,act]
 ·have o:=h.sta (by omega)
  omega
end
end Go.Mx
namespace Go.Mx
open Go.Ren
open Go.Conc hiding Goes mem_ofEvents
open Go.ConcN (sumTo upd upd_same upd_ne RelBy get_map_set get_map_set_same WgLive)
open Go.Conc.Lib (WgLink)
open Go.ConcR (KK WgAt stA smA rd wr mk g_of_ofEvents loc_of_ofEvent)
def MuAt(a:TypeId)(Mu:Nat)(w:World)(m:Wd)(q:Nat):Prop:=w.heap[Mu]?=some (.cells #[.int .i32 (m.num:Int),.int .u32 (q:Int)] a)
def ajv(a:TypeId)(Mu:Nat)(w:World):Prop:=∃m q:Int,w.heap[Mu]?=some (.cells #[.int .i32 m,.int .u32 q] a)
abbrev dH:=Array Value
def CellIs(oe:Nat×Nat)(C:Nat)(v:dH)(w:World):Prop:=∃(A:Array Value) (E:TypeId),w.heap[C]?=some (.cells A E (0,0))/\oe.1+oe.2<=A.size/\v.size<=oe.2/\∀(i:Nat) (x:Value),v[i]?=some x->A[oe.1+i]?=some x
structure rZ(Mu:Nat)(w w':World):Prop where
 size:w'.heap.size=w.heap.size
 heap:∀b,b≠Mu->w'.heap[b]?=w.heap[b]?
 os:Tm w.os w'.os
 output:w'.output=w.output
 tape:w'.tape=w.tape
def Fits(B:Nat)(m:Wd)(q:Nat)(x:Lk):Prop:=m.Bits/\m.n<=B/\q<=1/\Wf B m x/\match x with
 | .rd a _ _=>a=true->m.W=1/\m.S=0
 | .r2 _=>(m.S=0->m.W=1)/\(m.S=1->m.L=0/\m.W=0/\1<=m.n)
 | .a1 _ _=>m.S=1/\m.L=0/\m.W=0/\1<=m.n
 | .own=>m.L=1
 |_=>True
theorem MI.adL{B j:Nat}{lk:Nat->Lk}{m:Wd}{q:Nat}(h:MI B j lk m q):q<=1:=by
 have a:=h.bits.S
 have b:=h.bits.W
 rcases Nat.eq_zero_or_pos m.S with e|e
 ·have:=h.nor e;omega
 ·have:=h.sta (by omega);omega
theorem MI.fits{B j:Nat}{lk:Nat->Lk}{m:Wd}{q i:Nat}(h:MI B j lk m q)(c:i<j):Fits B m q (lk i):=by
 have l:=h.le
 have n:=h.jB
 refine⟨h.bits,by omega,h.adL,h.wf i c,?_⟩;have p:=h.bits.S
 have r:=h.bits.W
 have d:=mW (lk:=lk) cO c
 have f:=mW (lk:=lk) cK c
 have g:=mW (lk:=lk) cT c
 have k:=mW (lk:=lk) cA c
 have a:=h.nor
 have b:=h.sta
 have own:=h.own
 have s:=h.bits.L
 generalize lk i=x at d f g k
 cases x<;>dsimp only<;>try trivial
 ·rename_i t u v;intro o;subst o;simp only[cK,bit,if_true]at f;rcases Nat.eq_zero_or_pos m.S with e|e
  · have:=a e;omega
  · have:=b (by omega);omega
 ·simp only[cT]at g;refine⟨fun e=>?_,fun e=>?_⟩
  · have:=a e;omega
  · have:=b e;omega
 ·simp only[cA]at k;rcases Nat.eq_zero_or_pos m.S with e|e
  · have:=a e;omega
  · have:=b (by omega);omega
 ·simp only[cO]at d;omega
section
variable(P:Program)(I:World->Prop)(tM:TypeId)(Mu B:Nat)
def C9(K:Lk->Nat->Goroutine->Prop)(x:Lk)(d:Nat)(g:Goroutine):Prop:=
 d=1/\g.status=.running/\g.offers=none/\(x=.us->mayWake P g=true)/\∀(w:World) (m:Wd) (q:Nat),I w->MuAt tM Mu w m q->Fits B m q x->
  ((∃i,x=.s1 i)/\q=0/\stepG P false g w=.go {g with status:=.blocked} w #[])∨
  (∃(y:Lk) (f:Wd) (h:Nat) (a:Goroutine) (b:World) (c:Array Event),Mv m q x f h y/\stepG P false g w=.go a b c/\MuAt tM Mu b f h/\rZ Mu w b/\(∀e∈c,iO Mu e)/\(x=.us->a.status=.running)/\K y (deafBehind d c) a)
def Nx(R:Lk->Nat->Goroutine->Prop)(E:Nat->Goroutine->Prop)(y:Lk)(d:Nat)(g:Goroutine):Prop:=match y with
 | .own|.done=>E d g
 |y=>R y d g
def gX(E:Nat->Goroutine->Prop)(x:Lk)(d:Nat)(g:Goroutine):Prop:=
 ∃R:Lk->Nat->Goroutine->Prop,(∀y d g,R y d g->af P false I X0 (C9 P I tM Mu B (Nx R E) y) d g)/\R x d g
end
section
variable{P:Program}{I:World->Prop}{tM:TypeId}{Mu B:Nat}{K b:Lk->Nat->Goroutine->Prop}{E a:Nat->Goroutine->Prop}{x:Lk}{d:Nat}{g:Goroutine}
theorem C9.mono(h:C9 P I tM Mu B K x d g)(c:∀y d g,K y d g->b y d g):C9 P I tM Mu B b x d g:=by
 obtain⟨e,f,i,j,k⟩:=h
 refine⟨e,f,i,j,fun w m q l n o=>?_⟩;rcases k w m q l n o with h|⟨y,p,r,s,t,u,v,z,A,C,D,F,H⟩
 ·exact .inl h
 ·exact .inr ⟨y,p,r,s,t,u,v,z,A,C,D,F,c _ _ _ H⟩
theorem Nx.mono{R c:Lk->Nat->Goroutine->Prop}(e:∀y d g,R y d g->c y d g)(f:∀d g,E d g->a d g){y:Lk}(h:Nx R E y d g):Nx c a y d g:=by
 cases y<;>first|exact f _ _ h|exact e _ _ _ h
theorem gX.out(h:gX P I tM Mu B E x d g):af P false I X0 (C9 P I tM Mu B (Nx (gX P I tM Mu B E) E) x) d g:=by
 obtain⟨R,c,e⟩:=h
 exact(c _ _ _ e).mono fun d g k=>k.mono fun y d g x=>x.mono (fun y d g f=>⟨R,c,f⟩) fun _ _ i=>i
theorem gX.exit(c:∀d g,E d g->a d g)(h:gX P I tM Mu B E x d g):gX P I tM Mu B a x d g:=by
 obtain⟨R,e,f⟩:=h
 exact⟨R,fun y d g i=>(e y d g i).mono fun d g k=>k.mono fun y d g x=>x.mono (fun _ _ _ z=>z) c,f⟩
theorem gX.idle(h:af P false I X0 (C9 P I tM Mu B (Nx (gX P I tM Mu B E) E) x) d g):gX P I tM Mu B E x d g:=
 ⟨fun y d g=>af P false I X0 (C9 P I tM Mu B (Nx (gX P I tM Mu B E) E) y) d g,fun y d g c=>c.mono fun d g k=>k.mono fun y d g z=>z.mono (fun y d g e=>e.out) fun _ _ f=>f,h⟩
end
inductive WT where
 |work|IA (x:Lk)|en|ac|cr (v:dH)|rl|ds|Oh (x:Lk)|ue|fin (s:Nat)
def eG:WT->Lk
 | .work=>.out
 | .IA x|.Oh x=>x
 | .en|.ac|.cr _|.rl|.ds=>.own
 | .ue|.fin _=>.done
def gm:WT->Nat
 | .fin s=>s
 |_=>8
def holds:WT->Prop
 | .cr _|.rl=>True
 |_=>False
def early:WT->Prop
 | .work|.IA _|.en|.ac|.cr _=>True
 |_=>False
def past:WT->Prop
 | .rl|.ds|.Oh _|.ue|.fin _=>True
 |_=>False
def isL:Lk->Prop
 | .l0|.rd ..|.sq _|.c1 _|.c2 _|.t1 _|.s1 _|.t2|.r2 _|.a1 ..=>True
 |_=>False
def isU:Lk->Prop
 | .own|.uc _|.ux|.us=>True
 |_=>False
theorem Kr(T:Lo):isL (hd T):=by unfold hd;split<;>trivial
theorem Mv.inL{m a:Wd}{q b:Nat}{x y:Lk}(h:Mv m q x a b y)(c:isL x):isL y∨y=.own:=by
 cases h<;>first|exact .inr rfl|exact .inl (Kr _)|exact .inl trivial|(exact c.elim)|skip
 ·rename_i d;rcases d with rfl|rfl<;>exact .inl trivial
 ·rename_i e;cases e<;>exact .inl trivial
theorem Mv.inU{m a:Wd}{q b:Nat}{x y:Lk}(h:Mv m q x a b y)(c:isU x):isU y∨y=.done:=by
 cases h<;>first|exact .inr rfl|exact .inl trivial|(exact c.elim)
def phase:WT->Prop
 | .IA x=>isL x
 | .Oh x=>isU x
 |_=>True
def Dj(m:Wd):WT->Nat
 | .work=>2000
 | .IA x=>1000+rk m x
 | .en=>900
 | .ac=>890
 | .cr _=>880
 | .rl=>870
 | .ds=>860
 | .Oh x=>500+rk m x
 | .ue=>400
 | .fin s=>s
structure Ph where
 P:Program
 L:WgLink
 tM:TypeId
 oe:Nat×Nat
 Wg:Nat
 Mu:Nat
 C:Nat
 B:Nat
 n:Nat
 n0:Nat
 f:Nat->dH->dH
 V:dH->Prop
 v0:dH
 locks:Nat->Bool
 Fin:(Nat->Prop)->(Nat->Prop)->Goroutine->World->Prop
namespace Ph
variable(p:Ph)
def I(w:World):Prop:=Lv p.L p.Wg w/\ajv p.tM p.Mu w
abbrev Lw(K:Lk->Nat->Goroutine->Prop)(x:Lk):Nat->Goroutine->Prop:=C9 p.P p.I p.tM p.Mu p.B K x
abbrev Ls(E:Nat->Goroutine->Prop)(x:Lk):Nat->Goroutine->Prop:=gX p.P p.I p.tM p.Mu p.B E x
def UeS(d:Nat)(g:Goroutine):Prop:=d=1/\Says p.P false p.I #[Go.ConcR.mk .enable] (af p.P false (Lv p.L p.Wg) X0 (gG p.P p.L p.Wg) 0) g
def UnE:Nat->Goroutine->Prop:=af p.P false p.I X0 p.UeS
def DsS(d:Nat)(g:Goroutine):Prop:=d=0/\Says p.P false p.I #[Go.ConcR.mk .disable] (p.Ls p.UnE .own 1) g
def RlS(d:Nat)(g:Goroutine):Prop:=d=0/\Says p.P false p.I #[Go.ConcR.mk (.releaseMerge (stA p.Mu))] (af p.P false p.I X0 p.DsS 0) g
def ZC(i:Nat)(v:dH)(D:Nat->Prop)(d:Nat)(O:Nat->Prop)(g:Goroutine)(w:World):Prop:=
 d=0/\g.status=.running/\CellIs p.oe p.C (p.f i v) w/\∃(b:Goroutine) (a:Array Event),(∀w m q,p.I w->MuAt p.tM p.Mu w m q->stepG p.P false g w=.go b w a)/\(∀e∈a,iO p.Mu e)/\deafBehind 0 a=0/\af p.P false p.I X0 p.RlS 0 b
def Qm(i:Nat)(O D:Nat->Prop)(w:World)(g:Goroutine):Prop:=
 ∀a v,az O D w a->p.V v->CellIs p.oe p.C v a->¬O p.C->¬D p.C->p.C<a.heap.size->dU p.P false p.I X0 D (p.ZC i v D) 0 (fun b=>O b∨b=p.C) g a
def AcS(T:Goroutine->Prop)(d:Nat)(g:Goroutine):Prop:=d=0/\Says p.P false p.I #[Go.ConcR.mk (.acquire (stA p.Mu))] T g
def EnS(T:Goroutine->Prop)(d:Nat)(g:Goroutine):Prop:=d=1/\Says p.P false p.I #[Go.ConcR.mk .enable] (af p.P false p.I X0 (p.AcS T) 0) g
def LkE(T:Goroutine->Prop):Nat->Goroutine->Prop:=af p.P false p.I X0 (p.EnS T)
def adN(i:Nat)(d:Nat)(g:Goroutine):Prop:=d=0/\p.locks i=false/\af p.P false (Lv p.L p.Wg) X0 (gG p.P p.L p.Wg) 0 g
def ajz(i:Nat)(D:Nat->Prop)(d:Nat)(O:Nat->Prop)(g:Goroutine)(w:World):Prop:=d=0/\p.locks i=true/\Says p.P false p.I #[Go.ConcR.mk .disable] (p.Ls (p.LkE (p.Qm i O D w)) .l0 1) g
def Z8(i:Nat)(D:Nat->Prop)(d:Nat)(O:Nat->Prop)(g:Goroutine)(w:World):Prop:=g.status=.running/\(p.ajz i D d O g w∨p.adN i d g)
def wF(i:Nat)(Nx:(Nat->Prop)->(Nat->Prop)->Goroutine->World->Prop)(D:Nat->Prop)(d:Nat)(O:Nat->Prop)(g:Goroutine)(w:World):Prop:=
 d=0/\g.status=.running/\∀a,az O D w a->p.I a->∃(c child:Goroutine) (M H N:Nat->Prop),stepG p.P true g a=.spawn c child a #[]/\(∀b,M b->O b)/\(∀b,H b->O b/\¬M b)/\(∀b,N b->D b∨M b)/\
  dU p.P false p.I X0 N (p.Z8 i N) 0 H child a/\Nx (fun b=>D b∨M b) (fun b=>O b/\¬M b/\¬H b) c a
def mQ(i:Nat)(Nx:(Nat->Prop)->(Nat->Prop)->Goroutine->World->Prop)(D:Nat->Prop)(d:Nat)(O:Nat->Prop)(g:Goroutine)(w:World):Prop:=
 d=1/\g.status=.running/\∀v:Nat,v<2147483647->jQ p.P true (Lv p.L p.Wg) (fun w=>WgAt p.L.tWg p.Wg w (v*KK) 0) (fun w=>w.setCell (stA p.Wg) (.int .u64 ((v+1)*KK))) #[rd (stA p.Wg),wr (stA p.Wg)]
  (fun b=>∀a,az O D w a->dU p.P true p.I (XM p.Wg) D (p.wF i Nx D) 1 O b a) g
def Ho:Nat->(Nat->Prop)->(Nat->Prop)->Goroutine->World->Prop
 |0,D,O,g,w=>dU p.P true p.I (XM p.Wg) D (gI p.P p.L p.Wg p.Fin D) 0 O g w
 |r+1,D,O,g,w=>dU p.P true p.I (XM p.Wg) D (p.mQ (p.n-(r+1)) (Ho r) D) 0 O g w
def jR:eP->Pos->Prop
 | .sp (r+1) 1,x=>dU p.P true p.I (XM p.Wg) x.D (p.mQ (p.n-(r+1)) (p.Ho r) x.D) x.d x.O x.g x.w
 | .sp (r+1) 0,x=>dU p.P true p.I (XM p.Wg) x.D (p.wF (p.n-(r+1)) (p.Ho r) x.D) x.d x.O x.g x.w
 | .sp 0 1,x=>dU p.P true p.I (XM p.Wg) x.D (gI p.P p.L p.Wg p.Fin x.D) x.d x.O x.g x.w
 | .sp _ _,_=>False
 | .w1 _ a A,x=>Anch p.P p.L p.Wg a A/\(∀b,az x.O x.D x.w b->p.Fin x.D x.O a b)/\af p.P true (Lv p.L p.Wg) (XM p.Wg) (M1 p.P p.L p.Wg a A) x.d x.g
 | .w2 v a A,x=>Anch p.P p.L p.Wg a A/\(∀b,az x.O x.D x.w b->p.Fin x.D x.O a b)/\af p.P true (Lv p.L p.Wg) (XM p.Wg) (M2 p.P p.L p.Wg a A v) x.d x.g
 | .w3 a,x=>(∀b,az x.O x.D x.w b->p.Fin x.D x.O a b)/\af p.P true (Lv p.L p.Wg) (XM p.Wg) (M3 p.P p.L p.Wg a) x.d x.g
 | .w4 a,x=>(∀b,az x.O x.D x.w b->p.Fin x.D x.O a b)/\af p.P true (Lv p.L p.Wg) (XM p.Wg) (M4 p.P p.L p.Wg a) x.d x.g
 | .acq a,x=>(∀b,az x.O x.D x.w b->p.Fin x.D x.O a b)/\af p.P true (Lv p.L p.Wg) (XM p.Wg) (Kt p.P p.L p.Wg a) x.d x.g
def MNx:eP->Pos->Pos->Prop
 | .sp (r+1) 1=>NxD p.P true p.I fun D=>p.mQ (p.n-(r+1)) (p.Ho r) D
 | .sp (r+1) 0=>NxD p.P true p.I fun D=>p.wF (p.n-(r+1)) (p.Ho r) D
 | .sp 0 1=>NxD p.P true p.I fun D=>gI p.P p.L p.Wg p.Fin D
 | .sp _ _=>fun _ _=>False
 | .w1 _ a A=>FY p.P true (Lv p.L p.Wg) (M1 p.P p.L p.Wg a A)
 | .w2 v a A=>FY p.P true (Lv p.L p.Wg) (M2 p.P p.L p.Wg a A v)
 | .w3 a=>FY p.P true (Lv p.L p.Wg) (M3 p.P p.L p.Wg a)
 | .w4 a=>FY p.P true (Lv p.L p.Wg) (M4 p.P p.L p.Wg a)
 | .acq a=>FY p.P true (Lv p.L p.Wg) (Kt p.P p.L p.Wg a)
theorem Qn:∀(s:eP) (x:Pos),p.jR s x->Acc (p.MNx s) x:=by
 intro s x h;cases s with
 |sp r s=>
  rcases r with _|r
  · rcases s with _|_|s
    ·exact h.elim
    ·exact dU.acc h
    ·exact h.elim
  · rcases s with _|_|s
    ·exact dU.acc h
    ·exact dU.acc h
    ·exact h.elim
 |w1 v a A=>exact af.acc h.2.2 x rfl rfl
 |w2 v a A=>exact af.acc h.2.2 x rfl rfl
 |w3 a=>exact af.acc h.2 x rfl rfl
 |w4 a=>exact af.acc h.2 x rfl rfl
 |acq a=>exact af.acc h.2 x rfl rfl
def St(i:Nat):WT->Pos->Nat->Goroutine->Prop
 | .IA y,x=>p.Lw (Nx (p.Ls (p.LkE (p.Qm i x.O x.D x.w))) (p.LkE (p.Qm i x.O x.D x.w))) y
 | .en,x=>p.EnS (p.Qm i x.O x.D x.w)
 | .ac,x=>p.AcS (p.Qm i x.O x.D x.w)
 | .rl,_=>p.RlS
 | .ds,_=>p.DsS
 | .Oh y,_=>p.Lw (Nx (p.Ls p.UnE) p.UnE) y
 | .ue,_=>p.UeS
 |_,_=>fun _ _=>False
def dF(i:Nat):WT->Pos->Prop
 | .work,x=>dU p.P false p.I X0 x.D (p.Z8 i x.D) x.d x.O x.g x.w
 | .cr v,x=>dU p.P false p.I X0 x.D (p.ZC i v x.D) x.d x.O x.g x.w
 | .fin 7,x=>af p.P false (Lv p.L p.Wg) X0 (gG p.P p.L p.Wg) x.d x.g
 | .fin 5,x=>af p.P false (Lv p.L p.Wg) XD (zM p.P p.L p.Wg) x.d x.g
 | .fin 4,x=>af p.P false (Lv p.L p.Wg) X0 (WLd p.P p.L p.Wg) x.d x.g
 | .fin 3,x=>af p.P false (Lv p.L p.Wg) X0 (WSt p.P p.L p.Wg) x.d x.g
 | .fin 2,x=>af p.P false (Lv p.L p.Wg) X0 (Vm p.P p.L p.Wg) x.d x.g
 | .fin 1,x=>∃q,QuitsD p.P q x.d x.g
 | .fin _,_=>False
 |a,x=>af p.P false p.I X0 (p.St i a x) x.d x.g
def ZE(i:Nat):WT->Pos->Pos->Prop
 | .work=>NxD p.P false p.I fun D=>p.Z8 i D
 | .cr v=>NxD p.P false p.I fun D=>p.ZC i v D
 | .fin 7=>FY p.P false (Lv p.L p.Wg) (gG p.P p.L p.Wg)
 | .fin 5=>FY p.P false (Lv p.L p.Wg) (zM p.P p.L p.Wg)
 | .fin 4=>FY p.P false (Lv p.L p.Wg) (WLd p.P p.L p.Wg)
 | .fin 3=>FY p.P false (Lv p.L p.Wg) (WSt p.P p.L p.Wg)
 | .fin 2=>FY p.P false (Lv p.L p.Wg) (Vm p.P p.L p.Wg)
 | .fin 1=>ZF p.P
 | .fin _=>fun _ _=>False
 |b=>fun a x=>a.O=x.O/\a.D=x.D/\a.w=x.w/\FY p.P false p.I (p.St i b x) a x
theorem vF{i:Nat}{b:WT}{x:Pos}(h:af p.P false p.I X0 (p.St i b x) x.d x.g):Acc (fun a x=>a.O=x.O/\a.D=x.D/\a.w=x.w/\FY p.P false p.I (p.St i b x) a x) x:=by
 have c:∀y,Acc (FY p.P false p.I (p.St i b x)) y->y.O=x.O->y.D=x.D->y.w=x.w->Acc (fun a x=>a.O=x.O/\a.D=x.D/\a.w=x.w/\FY p.P false p.I (p.St i b x) a x) y:=by
  intro y m;induction m with
  | intro y _ n=>
    intro f j k;refine .intro _ fun z o=>?_
    obtain⟨q,r,s,l⟩:=o
    have e:p.St i b y=p.St i b x:=by cases b<;>simp only[St,f,j,k]
    rw[e]at l;exact n z l (q.trans f) (r.trans j) (s.trans k)
 exact c x (af.acc h x rfl rfl) rfl rfl rfl
theorem Qo(i:Nat):∀(s:WT) (x:Pos),p.dF i s x->Acc (p.ZE i s) x:=by
 intro s x h;match s,h with
 | .work,h=>exact dU.acc h
 | .cr v,h=>exact dU.acc h
 | .fin 7,h=>exact af.acc h x rfl rfl
 | .fin 5,h=>exact af.acc h x rfl rfl
 | .fin 4,h=>exact af.acc h x rfl rfl
 | .fin 3,h=>exact af.acc h x rfl rfl
 | .fin 2,h=>exact af.acc h x rfl rfl
 | .fin 1,h=>obtain⟨q,a⟩:=h;exact tZ q x a
 | .fin 0,h=>exact h.elim
 | .fin 6,h=>exact h.elim
 | .fin (s+8),h=>exact h.elim
 | .IA y,h=>exact p.vF h
 | .en,h=>exact p.vF h
 | .ac,h=>exact p.vF h
 | .rl,h=>exact p.vF h
 | .ds,h=>exact p.vF h
 | .Oh y,h=>exact p.vF h
 | .ue,h=>exact p.vF h
end Ph
end Go.Mx
namespace Go.Mx
open Go.Ren
open Go.Conc hiding Goes
open Go.Conc.Lib Go.Conc.Locks Go.RowKit
open Go.ConcN (upd)
open Go.ConcR (KK stA smA rd wr DC0)
def FZ:Code->Option Code
 | .loop c=>some c
 | .seq x y=>match FZ x with|some c=>some c|none=>FZ y
 | .block _ c=>FZ c
 |_=>none
def Vo:Code->Option Code
 | .seq (.block _ _) r=>some r
 | .seq _ y=>Vo y
 |_=>none
def Bz(L:ah):Code:=(jW L).body.getD .skip
def Vp(L:ah):Code:=(FZ (Bz L)).getD .skip
def Vq(L:ah):Code:=(Vo (Bz L)).getD .skip
end Go.Mx
