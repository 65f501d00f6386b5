import Derived.Conc.MuLib
import Derived.Conc.CrowdBase
import Derived.Conc.MuWords
import Derived.Test.YtbpcjpbcgeccbaaGreatH7
import Derived.Test.YtbpcjpbcgeccbaaGreatH8
set_option linter.unusedVariables false
set_option linter.unusedSectionVars false
set_option linter.unusedSimpArgs false
namespace Go.Mx
open Go.Conc.Locks
structure ah where
 mu:MuLink
 canSpin:Nat
 F8:Nat
 throw:Nat
 nano:Nat
 F9:Nat
 fatal:Nat
 semrel:Nat
 tPU32:Nat
 tUint:Nat
def kC(L:ah):Func:=
 {name:= "(*internal/sync.Mutex).lockSlow",origin:= "",params:=#[L.mu.tPIMutex],resultTypes:=#[],nfree:=0,ntmps:=139,results:=#[],body:=some (.seq (.region 0 #[⟨some 2,.assign (.const (.int .i64 0)),2, "mutex.go:100",#[],none⟩] false) (.seq (.region 1 #[⟨some 3,.assign (.const (.bool false)),4, "mutex.go:101",#[],none⟩] false) (.seq (.region 2 #[⟨some 4,.assign (.const (.bool false)),4, "mutex.go:102",#[],none⟩] false) (.seq (.region 3 #[⟨some 5,.assign (.const (.int .i64 0)),3, "mutex.go:103",#[],none⟩] false) (.seq (.region 4 #[⟨some 10,.move (.tmp 0),L.mu.tPIMutex, "mutex.go:104",#[],none⟩,⟨some 11,.nilCheck (.tmp 10),0, "mutex.go:104",#[⟨0,.data⟩],none⟩,⟨some 12,.fieldAddr L.mu.tIMutex (.tmp 11) 0,0, "mutex.go:104",#[⟨1,.data⟩],none⟩,⟨some 13,.load 21 (.tmp 12),21, "mutex.go:104",#[⟨2,.data⟩],none⟩,⟨some 6,.assign (.tmp 13),21, "mutex.go:104",#[⟨3,.data⟩,⟨0,.phase⟩,⟨1,.phase⟩,⟨2,.phase⟩,⟨3,.phase⟩],none⟩] false) (.seq (.block 0 (.loop (.block 1 (.seq (.seq (.region 5 #[⟨some 14,.move (.tmp 6),21, "mutex.go:108",#[],none⟩,⟨some 15,.binOp .and 21 (.tmp 14) (.const (.int .i32 5)) 21,21, "mutex.go:108",#[⟨0,.data⟩],none⟩,⟨some 16,.binOp .eql 21 (.tmp 15) (.const (.int .i32 1)) 21,4, "mutex.go:108",#[⟨1,.data⟩],none⟩,⟨some 17,.move (.tmp 16),4, "mutex.go:108",#[⟨2,.data⟩],none⟩,⟨some 18,.move (.tmp 5),3, "mutex.go:108",#[⟨3,.guard⟩],some (3,true)⟩,⟨some 19,.call ⟨.value (.func L.canSpin),#[(.tmp 18)],#[3]⟩,4, "mutex.go:108",#[⟨4,.data⟩,⟨3,.chain⟩,⟨3,.guard⟩],some (3,true)⟩,⟨some 20,.pick (.tmp 17) (.tmp 19) (.const (.bool false)),4, "mutex.go:108",#[⟨3,.data⟩,⟨5,.data⟩],none⟩] false) (.cond (.tmp 20) (.seq (.seq (.region 6 #[⟨some 21,.move (.tmp 4),4, "mutex.go:112",#[],none⟩,⟨some 22,.unOp .not 4 (.tmp 21),4, "mutex.go:112",#[⟨0,.data⟩],none⟩,⟨some 23,.move (.tmp 22),4, "mutex.go:112",#[⟨1,.data⟩],none⟩,⟨some 24,.move (.tmp 6),21, "mutex.go:112",#[⟨2,.guard⟩],some (2,true)⟩,⟨some 25,.binOp .and 21 (.tmp 24) (.const (.int .i32 2)) 21,21, "mutex.go:112",#[⟨3,.data⟩,⟨2,.guard⟩],some (2,true)⟩,⟨some 26,.binOp .eql 21 (.tmp 25) (.const (.int .i32 0)) 21,4, "mutex.go:112",#[⟨4,.data⟩,⟨2,.guard⟩],some (2,true)⟩,⟨some 27,.pick (.tmp 23) (.tmp 26) (.const (.bool false)),4, "mutex.go:112",#[⟨2,.data⟩,⟨5,.data⟩],none⟩,⟨some 28,.move (.tmp 27),4, "mutex.go:112",#[⟨6,.data⟩,⟨2,.chain⟩],none⟩,⟨some 29,.move (.tmp 6),21, "mutex.go:112",#[⟨7,.guard⟩],some (7,true)⟩,⟨some 30,.binOp .shr 21 (.tmp 29) (.const (.int .u64 3)) L.tUint,21, "mutex.go:112",#[⟨8,.data⟩,⟨7,.guard⟩],some (7,true)⟩,⟨some 31,.binOp .neq 21 (.tmp 30) (.const (.int .i32 0)) 21,4, "mutex.go:112",#[⟨9,.data⟩,⟨7,.guard⟩],some (7,true)⟩,⟨some 32,.pick (.tmp 28) (.tmp 31) (.const (.bool false)),4, "mutex.go:112",#[⟨7,.data⟩,⟨10,.data⟩],none⟩,⟨some 33,.move (.tmp 32),4, "mutex.go:112",#[⟨11,.data⟩,⟨7,.chain⟩],none⟩,⟨some 34,.move (.tmp 0),L.mu.tPIMutex, "mutex.go:112",#[⟨12,.guard⟩],some (12,true)⟩,⟨some 35,.nilCheck (.tmp 34),0, "mutex.go:112",#[⟨13,.data⟩,⟨12,.guard⟩],some (12,true)⟩,⟨some 36,.fieldAddr L.mu.tIMutex (.tmp 35) 0,0, "mutex.go:112",#[⟨14,.data⟩,⟨12,.guard⟩],some (12,true)⟩,⟨some 37,.move (.tmp 6),21, "mutex.go:112",#[⟨12,.guard⟩],some (12,true)⟩,⟨some 38,.move (.tmp 6),21, "mutex.go:112",#[⟨12,.guard⟩],some (12,true)⟩,⟨some 39,.binOp .or 21 (.tmp 38) (.const (.int .i32 2)) 21,21, "mutex.go:112",#[⟨17,.data⟩,⟨12,.guard⟩],some (12,true)⟩,⟨some 40,.call ⟨.value (.func L.mu.cas32),#[(.tmp 36),(.tmp 37),(.tmp 39)],#[L.mu.tPI32,21,21]⟩,4, "mutex.go:113",#[⟨15,.data⟩,⟨16,.data⟩,⟨18,.data⟩,⟨12,.chain⟩,⟨12,.guard⟩],some (12,true)⟩,⟨some 41,.pick (.tmp 33) (.tmp 40) (.const (.bool false)),4, "mutex.go:112",#[⟨12,.data⟩,⟨19,.data⟩],none⟩] false) (.cond (.tmp 41) (.region 7 #[⟨some 4,.assign (.const (.bool true)),4, "mutex.go:114",#[],none⟩] false) .skip)) (.seq (.region 8 #[⟨some 42,.call ⟨.value (.func L.F8),#[],#[]⟩,0, "mutex.go:116",#[],none⟩] false) (.seq (.region 9 #[⟨some 43,.move (.tmp 5),3, "mutex.go:117",#[],none⟩,⟨some 44,.binOp .add 3 (.tmp 43) (.const (.int .i64 1)) 3,3, "mutex.go:117",#[⟨0,.data⟩],none⟩,⟨some 5,.assign (.tmp 44),3, "mutex.go:117",#[⟨1,.data⟩,⟨0,.phase⟩,⟨1,.phase⟩],none⟩] false) (.seq (.region 10 #[⟨some 45,.move (.tmp 0),L.mu.tPIMutex, "mutex.go:118",#[],none⟩,⟨some 46,.nilCheck (.tmp 45),0, "mutex.go:118",#[⟨0,.data⟩],none⟩,⟨some 47,.fieldAddr L.mu.tIMutex (.tmp 46) 0,0, "mutex.go:118",#[⟨1,.data⟩],none⟩,⟨some 48,.load 21 (.tmp 47),21, "mutex.go:118",#[⟨2,.data⟩],none⟩,⟨some 6,.assign (.tmp 48),21, "mutex.go:118",#[⟨3,.data⟩,⟨0,.phase⟩,⟨1,.phase⟩,⟨2,.phase⟩,⟨3,.phase⟩],none⟩] false) (.exit 1))))) .skip)) (.seq (.region 11 #[⟨some 49,.move (.tmp 6),21, "mutex.go:121",#[],none⟩,⟨some 7,.assign (.tmp 49),21, "mutex.go:121",#[⟨0,.data⟩,⟨0,.phase⟩],none⟩] false) (.seq (.seq (.region 12 #[⟨some 50,.move (.tmp 6),21, "mutex.go:123",#[],none⟩,⟨some 51,.binOp .and 21 (.tmp 50) (.const (.int .i32 4)) 21,21, "mutex.go:123",#[⟨0,.data⟩],none⟩,⟨some 52,.binOp .eql 21 (.tmp 51) (.const (.int .i32 0)) 21,4, "mutex.go:123",#[⟨1,.data⟩],none⟩] false) (.cond (.tmp 52) (.region 13 #[⟨some 53,.move (.tmp 7),21, "mutex.go:124",#[],none⟩,⟨some 54,.binOp .or 21 (.tmp 53) (.const (.int .i32 1)) 21,21, "mutex.go:124",#[⟨0,.data⟩],none⟩,⟨some 7,.assign (.tmp 54),21, "mutex.go:124",#[⟨1,.data⟩,⟨0,.phase⟩,⟨1,.phase⟩],none⟩] false) .skip)) (.seq (.seq (.region 14 #[⟨some 55,.move (.tmp 6),21, "mutex.go:126",#[],none⟩,⟨some 56,.binOp .and 21 (.tmp 55) (.const (.int .i32 5)) 21,21, "mutex.go:126",#[⟨0,.data⟩],none⟩,⟨some 57,.binOp .neq 21 (.tmp 56) (.const (.int .i32 0)) 21,4, "mutex.go:126",#[⟨1,.data⟩],none⟩] false) (.cond (.tmp 57) (.region 15 #[⟨some 58,.move (.tmp 7),21, "mutex.go:127",#[],none⟩,⟨some 59,.binOp .add 21 (.tmp 58) (.const (.int .i32 8)) 21,21, "mutex.go:127",#[⟨0,.data⟩],none⟩,⟨some 7,.assign (.tmp 59),21, "mutex.go:127",#[⟨1,.data⟩,⟨0,.phase⟩,⟨1,.phase⟩],none⟩] false) .skip)) (.seq (.seq (.region 16 #[⟨some 60,.move (.tmp 3),4, "mutex.go:133",#[],none⟩,⟨some 61,.move (.tmp 60),4, "mutex.go:133",#[⟨0,.data⟩],none⟩,⟨some 62,.move (.tmp 6),21, "mutex.go:133",#[⟨1,.guard⟩],some (1,true)⟩,⟨some 63,.binOp .and 21 (.tmp 62) (.const (.int .i32 1)) 21,21, "mutex.go:133",#[⟨2,.data⟩,⟨1,.guard⟩],some (1,true)⟩,⟨some 64,.binOp .neq 21 (.tmp 63) (.const (.int .i32 0)) 21,4, "mutex.go:133",#[⟨3,.data⟩,⟨1,.guard⟩],some (1,true)⟩,⟨some 65,.pick (.tmp 61) (.tmp 64) (.const (.bool false)),4, "mutex.go:133",#[⟨1,.data⟩,⟨4,.data⟩],none⟩] false) (.cond (.tmp 65) (.region 17 #[⟨some 66,.move (.tmp 7),21, "mutex.go:134",#[],none⟩,⟨some 67,.binOp .or 21 (.tmp 66) (.const (.int .i32 4)) 21,21, "mutex.go:134",#[⟨0,.data⟩],none⟩,⟨some 7,.assign (.tmp 67),21, "mutex.go:134",#[⟨1,.data⟩,⟨0,.phase⟩,⟨1,.phase⟩],none⟩] false) .skip)) (.seq (.seq (.region 18 #[⟨some 68,.move (.tmp 4),4, "mutex.go:136",#[],none⟩] false) (.cond (.tmp 68) (.seq (.seq (.region 19 #[⟨some 69,.move (.tmp 7),21, "mutex.go:139",#[],none⟩,⟨some 70,.binOp .and 21 (.tmp 69) (.const (.int .i32 2)) 21,21, "mutex.go:139",#[⟨0,.data⟩],none⟩,⟨some 71,.binOp .eql 21 (.tmp 70) (.const (.int .i32 0)) 21,4, "mutex.go:139",#[⟨1,.data⟩],none⟩] false) (.cond (.tmp 71) (.region 20 #[⟨some 72,.call ⟨.value (.func L.throw),#[(.const (.string ⟨⟨[115,121,110,99,58,32,105,110,99,111,110,115,105,115,116,101,110,116,32,109,117,116,101,120,32,115,116,97,116,101]⟩⟩))],#[9]⟩,0, "mutex.go:140",#[],none⟩] false) .skip)) (.region 21 #[⟨some 73,.move (.tmp 7),21, "mutex.go:142",#[],none⟩,⟨some 74,.binOp .andNot 21 (.tmp 73) (.const (.int .i32 2)) 21,21, "mutex.go:142",#[⟨0,.data⟩],none⟩,⟨some 7,.assign (.tmp 74),21, "mutex.go:142",#[⟨1,.data⟩,⟨0,.phase⟩,⟨1,.phase⟩],none⟩] false)) .skip)) (.seq (.region 22 #[⟨some 75,.move (.tmp 0),L.mu.tPIMutex, "mutex.go:144",#[],none⟩,⟨some 76,.nilCheck (.tmp 75),0, "mutex.go:144",#[⟨0,.data⟩],none⟩,⟨some 77,.fieldAddr L.mu.tIMutex (.tmp 76) 0,0, "mutex.go:144",#[⟨1,.data⟩],none⟩,⟨some 78,.move (.tmp 6),21, "mutex.go:144",#[],none⟩,⟨some 79,.move (.tmp 7),21, "mutex.go:144",#[],none⟩,⟨some 80,.call ⟨.value (.func L.mu.cas32),#[(.tmp 77),(.tmp 78),(.tmp 79)],#[L.mu.tPI32,21,21]⟩,4, "mutex.go:144",#[⟨2,.data⟩,⟨3,.data⟩,⟨4,.data⟩],none⟩] false) (.cond (.tmp 80) (.seq (.seq (.region 23 #[⟨some 81,.move (.tmp 6),21, "mutex.go:145",#[],none⟩,⟨some 82,.binOp .and 21 (.tmp 81) (.const (.int .i32 5)) 21,21, "mutex.go:145",#[⟨0,.data⟩],none⟩,⟨some 83,.binOp .eql 21 (.tmp 82) (.const (.int .i32 0)) 21,4, "mutex.go:145",#[⟨1,.data⟩],none⟩] false) (.cond (.tmp 83) (.exit 0) .skip)) (.seq (.region 24 #[⟨some 84,.move (.tmp 2),2, "mutex.go:149",#[],none⟩,⟨some 85,.binOp .neq 2 (.tmp 84) (.const (.int .i64 0)) 2,4, "mutex.go:149",#[⟨0,.data⟩],none⟩,⟨some 8,.assign (.tmp 85),4, "mutex.go:149",#[⟨1,.data⟩,⟨0,.phase⟩,⟨1,.phase⟩],none⟩] false) (.seq (.seq (.region 25 #[⟨some 86,.move (.tmp 2),2, "mutex.go:150",#[],none⟩,⟨some 87,.binOp .eql 2 (.tmp 86) (.const (.int .i64 0)) 2,4, "mutex.go:150",#[⟨0,.data⟩],none⟩] false) (.cond (.tmp 87) (.region 26 #[⟨some 88,.call ⟨.value (.func L.nano),#[],#[]⟩,2, "mutex.go:151",#[],none⟩,⟨some 2,.assign (.tmp 88),2, "mutex.go:151",#[⟨0,.data⟩,⟨0,.chain⟩,⟨0,.phase⟩],none⟩] false) .skip)) (.seq (.region 27 #[⟨some 89,.move (.tmp 0),L.mu.tPIMutex, "mutex.go:153",#[],none⟩,⟨some 90,.nilCheck (.tmp 89),0, "mutex.go:153",#[⟨0,.data⟩],none⟩,⟨some 91,.fieldAddr L.mu.tIMutex (.tmp 90) 1,0, "mutex.go:153",#[⟨1,.data⟩],none⟩,⟨some 92,.move (.tmp 8),4, "mutex.go:153",#[],none⟩,⟨some 93,.call ⟨.value (.func L.F9),#[(.tmp 91),(.tmp 92),(.const (.int .i64 2))],#[L.tPU32,4,3]⟩,0, "mutex.go:153",#[⟨2,.data⟩,⟨3,.data⟩],none⟩] false) (.seq (.region 28 #[⟨some 94,.move (.tmp 3),4, "mutex.go:154",#[],none⟩,⟨some 95,.move (.tmp 94),4, "mutex.go:154",#[⟨0,.data⟩],none⟩,⟨some 96,.call ⟨.value (.func L.nano),#[],#[]⟩,2, "mutex.go:154",#[⟨1,.chain⟩,⟨1,.guard⟩],some (1,false)⟩,⟨some 97,.move (.tmp 2),2, "mutex.go:154",#[⟨1,.guard⟩],some (1,false)⟩,⟨some 98,.binOp .sub 2 (.tmp 96) (.tmp 97) 2,2, "mutex.go:154",#[⟨2,.data⟩,⟨3,.data⟩,⟨1,.guard⟩],some (1,false)⟩,⟨some 99,.binOp .gtr 2 (.tmp 98) (.const (.int .i64 1000000)) 2,4, "mutex.go:154",#[⟨4,.data⟩,⟨1,.guard⟩],some (1,false)⟩,⟨some 100,.pick (.tmp 95) (.const (.bool true)) (.tmp 99),4, "mutex.go:154",#[⟨1,.data⟩,⟨5,.data⟩],none⟩,⟨some 3,.assign (.tmp 100),4, "mutex.go:154",#[⟨6,.data⟩,⟨2,.chain⟩,⟨0,.phase⟩,⟨1,.phase⟩,⟨2,.phase⟩,⟨3,.phase⟩,⟨4,.phase⟩,⟨5,.phase⟩,⟨6,.phase⟩],none⟩] false) (.seq (.region 29 #[⟨some 101,.move (.tmp 0),L.mu.tPIMutex, "mutex.go:155",#[],none⟩,⟨some 102,.nilCheck (.tmp 101),0, "mutex.go:155",#[⟨0,.data⟩],none⟩,⟨some 103,.fieldAddr L.mu.tIMutex (.tmp 102) 0,0, "mutex.go:155",#[⟨1,.data⟩],none⟩,⟨some 104,.load 21 (.tmp 103),21, "mutex.go:155",#[⟨2,.data⟩],none⟩,⟨some 6,.assign (.tmp 104),21, "mutex.go:155",#[⟨3,.data⟩,⟨0,.phase⟩,⟨1,.phase⟩,⟨2,.phase⟩,⟨3,.phase⟩],none⟩] false) (.seq (.seq (.region 30 #[⟨some 105,.move (.tmp 6),21, "mutex.go:156",#[],none⟩,⟨some 106,.binOp .and 21 (.tmp 105) (.const (.int .i32 4)) 21,21, "mutex.go:156",#[⟨0,.data⟩],none⟩,⟨some 107,.binOp .neq 21 (.tmp 106) (.const (.int .i32 0)) 21,4, "mutex.go:156",#[⟨1,.data⟩],none⟩] false) (.cond (.tmp 107) (.seq (.seq (.region 31 #[⟨some 108,.move (.tmp 6),21, "mutex.go:161",#[],none⟩,⟨some 109,.binOp .and 21 (.tmp 108) (.const (.int .i32 3)) 21,21, "mutex.go:161",#[⟨0,.data⟩],none⟩,⟨some 110,.binOp .neq 21 (.tmp 109) (.const (.int .i32 0)) 21,4, "mutex.go:161",#[⟨1,.data⟩],none⟩,⟨some 111,.move (.tmp 110),4, "mutex.go:161",#[⟨2,.data⟩],none⟩,⟨some 112,.move (.tmp 6),21, "mutex.go:161",#[⟨3,.guard⟩],some (3,false)⟩,⟨some 113,.binOp .shr 21 (.tmp 112) (.const (.int .u64 3)) L.tUint,21, "mutex.go:161",#[⟨4,.data⟩,⟨3,.guard⟩],some (3,false)⟩,⟨some 114,.binOp .eql 21 (.tmp 113) (.const (.int .i32 0)) 21,4, "mutex.go:161",#[⟨5,.data⟩,⟨3,.guard⟩],some (3,false)⟩,⟨some 115,.pick (.tmp 111) (.const (.bool true)) (.tmp 114),4, "mutex.go:161",#[⟨3,.data⟩,⟨6,.data⟩],none⟩] false) (.cond (.tmp 115) (.region 32 #[⟨some 116,.call ⟨.value (.func L.throw),#[(.const (.string ⟨⟨[115,121,110,99,58,32,105,110,99,111,110,115,105,115,116,101,110,116,32,109,117,116,101,120,32,115,116,97,116,101]⟩⟩))],#[9]⟩,0, "mutex.go:162",#[],none⟩] false) .skip)) (.seq (.region 33 #[⟨some 9,.assign (.const (.int .i32 (-7))),21, "mutex.go:164",#[],none⟩] false) (.seq (.seq (.region 34 #[⟨some 117,.move (.tmp 3),4, "mutex.go:165",#[],none⟩,⟨some 118,.unOp .not 4 (.tmp 117),4, "mutex.go:165",#[⟨0,.data⟩],none⟩,⟨some 119,.move (.tmp 118),4, "mutex.go:165",#[⟨1,.data⟩],none⟩,⟨some 120,.move (.tmp 6),21, "mutex.go:165",#[⟨2,.guard⟩],some (2,false)⟩,⟨some 121,.binOp .shr 21 (.tmp 120) (.const (.int .u64 3)) L.tUint,21, "mutex.go:165",#[⟨3,.data⟩,⟨2,.guard⟩],some (2,false)⟩,⟨some 122,.binOp .eql 21 (.tmp 121) (.const (.int .i32 1)) 21,4, "mutex.go:165",#[⟨4,.data⟩,⟨2,.guard⟩],some (2,false)⟩,⟨some 123,.pick (.tmp 119) (.const (.bool true)) (.tmp 122),4, "mutex.go:165",#[⟨2,.data⟩,⟨5,.data⟩],none⟩] false) (.cond (.tmp 123) (.region 35 #[⟨some 124,.move (.tmp 9),21, "mutex.go:171",#[],none⟩,⟨some 125,.binOp .sub 21 (.tmp 124) (.const (.int .i32 4)) 21,21, "mutex.go:171",#[⟨0,.data⟩],none⟩,⟨some 9,.assign (.tmp 125),21, "mutex.go:171",#[⟨1,.data⟩,⟨0,.phase⟩,⟨1,.phase⟩],none⟩] false) .skip)) (.seq (.region 36 #[⟨some 126,.move (.tmp 0),L.mu.tPIMutex, "mutex.go:173",#[],none⟩,⟨some 127,.nilCheck (.tmp 126),0, "mutex.go:173",#[⟨0,.data⟩],none⟩,⟨some 128,.fieldAddr L.mu.tIMutex (.tmp 127) 0,0, "mutex.go:173",#[⟨1,.data⟩],none⟩,⟨some 129,.move (.tmp 9),21, "mutex.go:173",#[],none⟩,⟨some 130,.call ⟨.value (.func L.mu.add32),#[(.tmp 128),(.tmp 129)],#[L.mu.tPI32,21]⟩,21, "mutex.go:173",#[⟨2,.data⟩,⟨3,.data⟩],none⟩] false) (.exit 0))))) .skip)) (.seq (.region 37 #[⟨some 4,.assign (.const (.bool true)),4, "mutex.go:176",#[],none⟩] false) (.region 38 #[⟨some 5,.assign (.const (.int .i64 0)),3, "mutex.go:177",#[],none⟩] false))))))))) (.region 39 #[⟨some 131,.move (.tmp 0),L.mu.tPIMutex, "mutex.go:179",#[],none⟩,⟨some 132,.nilCheck (.tmp 131),0, "mutex.go:179",#[⟨0,.data⟩],none⟩,⟨some 133,.fieldAddr L.mu.tIMutex (.tmp 132) 0,0, "mutex.go:179",#[⟨1,.data⟩],none⟩,⟨some 134,.load 21 (.tmp 133),21, "mutex.go:179",#[⟨2,.data⟩],none⟩,⟨some 6,.assign (.tmp 134),21, "mutex.go:179",#[⟨3,.data⟩,⟨0,.phase⟩,⟨1,.phase⟩,⟨2,.phase⟩,⟨3,.phase⟩],none⟩] false)))))))))))) (.cond (.const (.bool true)) (.seq (.region 40 #[⟨some 135,.call ⟨.value (.func L.mu.enable),#[],#[]⟩,0, "mutex.go:184",#[],none⟩] false) (.region 41 #[⟨some 136,.move (.tmp 0),L.mu.tPIMutex, "mutex.go:184",#[],none⟩,⟨some 137,.convert L.mu.tPIMutex L.mu.tUP (.tmp 136),L.mu.tUP, "mutex.go:184",#[⟨0,.data⟩],none⟩,⟨some 138,.call ⟨.value (.func L.mu.acquire),#[(.tmp 137)],#[L.mu.tUP]⟩,0, "mutex.go:184",#[⟨1,.data⟩],none⟩] false)) .skip))))))),norace:=true,ours:=true,file:= "internal/sync/mutex.go",endLine:=186,tmpNames:=#["m", "m", "waitStartTime", "starving", "awoke", "iter", "old", "new", "queueLifo", "delta", "", "", "", "", "", "", "", "", "", "", "", "", "", "", "", "", "", "", "", "", "", "", "", "", "", "", "", "", "", "", "", "", "", "", "", "", "", "", "", "", "", "", "", "", "", "", "", "", "", "", "", "", "", "", "", "", "", "", "", "", "", "", "", "", "", "", "", "", "", "", "", "", "", "", "", "", "", "", "", "", "", "", "", "", "", "", "", "", "", "", "", "", "", "", "", "", "", "", "", "", "", "", "", "", "", "", "", "", "", "", "", "", "", "", "", "", "", "", "", "", "", "", "", "", "", "", "", "", ""] }
def iH(L:ah):Func:=
 {name:= "(*internal/sync.Mutex).unlockSlow",origin:= "",params:=#[L.mu.tPIMutex,21],resultTypes:=#[],nfree:=0,ntmps:=43,results:=#[],body:=some (.seq (.seq (.region 0 #[⟨some 5,.move (.tmp 1),21, "mutex.go:209",#[],none⟩,⟨some 6,.binOp .add 21 (.tmp 5) (.const (.int .i32 1)) 21,21, "mutex.go:209",#[⟨0,.data⟩],none⟩,⟨some 7,.binOp .and 21 (.tmp 6) (.const (.int .i32 1)) 21,21, "mutex.go:209",#[⟨1,.data⟩],none⟩,⟨some 8,.binOp .eql 21 (.tmp 7) (.const (.int .i32 0)) 21,4, "mutex.go:209",#[⟨2,.data⟩],none⟩] false) (.cond (.tmp 8) (.region 1 #[⟨some 9,.call ⟨.value (.func L.fatal),#[(.const (.string ⟨⟨[115,121,110,99,58,32,117,110,108,111,99,107,32,111,102,32,117,110,108,111,99,107,101,100,32,109,117,116,101,120]⟩⟩))],#[9]⟩,0, "mutex.go:210",#[],none⟩] false) .skip)) (.seq (.region 2 #[⟨some 10,.move (.tmp 1),21, "mutex.go:212",#[],none⟩,⟨some 11,.binOp .and 21 (.tmp 10) (.const (.int .i32 4)) 21,21, "mutex.go:212",#[⟨0,.data⟩],none⟩,⟨some 12,.binOp .eql 21 (.tmp 11) (.const (.int .i32 0)) 21,4, "mutex.go:212",#[⟨1,.data⟩],none⟩] false) (.cond (.tmp 12) (.seq (.region 3 #[⟨some 13,.move (.tmp 1),21, "mutex.go:213",#[],none⟩,⟨some 4,.assign (.tmp 13),21, "mutex.go:213",#[⟨0,.data⟩,⟨0,.phase⟩],none⟩] false) (.block 0 (.loop (.block 1 (.seq (.seq (.region 4 #[⟨some 14,.move (.tmp 4),21, "mutex.go:221",#[],none⟩,⟨some 15,.binOp .shr 21 (.tmp 14) (.const (.int .u64 3)) L.tUint,21, "mutex.go:221",#[⟨0,.data⟩],none⟩,⟨some 16,.binOp .eql 21 (.tmp 15) (.const (.int .i32 0)) 21,4, "mutex.go:221",#[⟨1,.data⟩],none⟩,⟨some 17,.move (.tmp 16),4, "mutex.go:221",#[⟨2,.data⟩],none⟩,⟨some 18,.move (.tmp 4),21, "mutex.go:221",#[⟨3,.guard⟩],some (3,false)⟩,⟨some 19,.binOp .and 21 (.tmp 18) (.const (.int .i32 7)) 21,21, "mutex.go:221",#[⟨4,.data⟩,⟨3,.guard⟩],some (3,false)⟩,⟨some 20,.binOp .neq 21 (.tmp 19) (.const (.int .i32 0)) 21,4, "mutex.go:221",#[⟨5,.data⟩,⟨3,.guard⟩],some (3,false)⟩,⟨some 21,.pick (.tmp 17) (.const (.bool true)) (.tmp 20),4, "mutex.go:221",#[⟨3,.data⟩,⟨6,.data⟩],none⟩] false) (.cond (.tmp 21) .ret .skip)) (.seq (.region 5 #[⟨some 22,.move (.tmp 4),21, "mutex.go:225",#[],none⟩,⟨some 23,.binOp .sub 21 (.tmp 22) (.const (.int .i32 8)) 21,21, "mutex.go:225",#[⟨0,.data⟩],none⟩,⟨some 24,.binOp .or 21 (.tmp 23) (.const (.int .i32 2)) 21,21, "mutex.go:225",#[⟨1,.data⟩],none⟩,⟨some 1,.assign (.tmp 24),21, "mutex.go:225",#[⟨2,.data⟩,⟨0,.phase⟩,⟨1,.phase⟩,⟨2,.phase⟩],none⟩] false) (.seq (.seq (.region 6 #[⟨some 25,.move (.tmp 0),L.mu.tPIMutex, "mutex.go:226",#[],none⟩,⟨some 26,.nilCheck (.tmp 25),0, "mutex.go:226",#[⟨0,.data⟩],none⟩,⟨some 27,.fieldAddr L.mu.tIMutex (.tmp 26) 0,0, "mutex.go:226",#[⟨1,.data⟩],none⟩,⟨some 28,.move (.tmp 4),21, "mutex.go:226",#[],none⟩,⟨some 29,.move (.tmp 1),21, "mutex.go:226",#[],none⟩,⟨some 30,.call ⟨.value (.func L.mu.cas32),#[(.tmp 27),(.tmp 28),(.tmp 29)],#[L.mu.tPI32,21,21]⟩,4, "mutex.go:226",#[⟨2,.data⟩,⟨3,.data⟩,⟨4,.data⟩],none⟩] false) (.cond (.tmp 30) (.seq (.region 7 #[⟨some 31,.move (.tmp 0),L.mu.tPIMutex, "mutex.go:227",#[],none⟩,⟨some 32,.nilCheck (.tmp 31),0, "mutex.go:227",#[⟨0,.data⟩],none⟩,⟨some 33,.fieldAddr L.mu.tIMutex (.tmp 32) 1,0, "mutex.go:227",#[⟨1,.data⟩],none⟩,⟨some 34,.call ⟨.value (.func L.semrel),#[(.tmp 33),(.const (.bool false)),(.const (.int .i64 2))],#[L.tPU32,4,3]⟩,0, "mutex.go:227",#[⟨2,.data⟩],none⟩] false) .ret) .skip)) (.region 8 #[⟨some 35,.move (.tmp 0),L.mu.tPIMutex, "mutex.go:230",#[],none⟩,⟨some 36,.nilCheck (.tmp 35),0, "mutex.go:230",#[⟨0,.data⟩],none⟩,⟨some 37,.fieldAddr L.mu.tIMutex (.tmp 36) 0,0, "mutex.go:230",#[⟨1,.data⟩],none⟩,⟨some 38,.load 21 (.tmp 37),21, "mutex.go:230",#[⟨2,.data⟩],none⟩,⟨some 4,.assign (.tmp 38),21, "mutex.go:230",#[⟨3,.data⟩,⟨0,.phase⟩,⟨1,.phase⟩,⟨2,.phase⟩,⟨3,.phase⟩],none⟩] false)))))))) (.region 9 #[⟨some 39,.move (.tmp 0),L.mu.tPIMutex, "mutex.go:238",#[],none⟩,⟨some 40,.nilCheck (.tmp 39),0, "mutex.go:238",#[⟨0,.data⟩],none⟩,⟨some 41,.fieldAddr L.mu.tIMutex (.tmp 40) 1,0, "mutex.go:238",#[⟨1,.data⟩],none⟩,⟨some 42,.call ⟨.value (.func L.semrel),#[(.tmp 41),(.const (.bool true)),(.const (.int .i64 2))],#[L.tPU32,4,3]⟩,0, "mutex.go:238",#[⟨2,.data⟩],none⟩] false)))),norace:=true,ours:=true,file:= "internal/sync/mutex.go",endLine:=240,tmpNames:=#["m", "new", "m", "new", "old", "", "", "", "", "", "", "", "", "", "", "", "", "", "", "", "", "", "", "", "", "", "", "", "", "", "", "", "", "", "", "", "", "", "", "", "", "", ""] }
def oN(L:ah):Func:=
 {name:= "internal/sync.runtime_canSpin",origin:= "",params:=#[3],resultTypes:=#[4],nfree:=0,ntmps:=1,results:=#[],body:=none,norace:=true,file:= "internal/sync/runtime.go",endLine:=0,tmpNames:=#[] }
def rF(L:ah):Func:=
 {name:= "internal/sync.runtime_doSpin",origin:= "",params:=#[],resultTypes:=#[],nfree:=0,ntmps:=0,results:=#[],body:=none,norace:=true,file:= "internal/sync/runtime.go",endLine:=0,tmpNames:=#[] }
def Wh(L:ah):Func:=
 {name:= "internal/sync.throw",origin:= "",params:=#[9],resultTypes:=#[],nfree:=0,ntmps:=1,results:=#[],body:=none,norace:=true,file:= "internal/sync/runtime.go",endLine:=0,tmpNames:=#[] }
def xZ(L:ah):Func:=
 {name:= "internal/sync.runtime_nanotime",origin:= "",params:=#[],resultTypes:=#[2],nfree:=0,ntmps:=0,results:=#[],body:=none,norace:=true,file:= "internal/sync/runtime.go",endLine:=0,tmpNames:=#[] }
def rG(L:ah):Func:=
 {name:= "internal/sync.runtime_SemacquireMutex",origin:= "",params:=#[L.tPU32,4,3],resultTypes:=#[],nfree:=0,ntmps:=3,results:=#[],body:=none,norace:=true,file:= "internal/sync/runtime.go",endLine:=0,tmpNames:=#[] }
def fatalFn(L:ah):Func:=
 {name:= "internal/sync.fatal",origin:= "",params:=#[9],resultTypes:=#[],nfree:=0,ntmps:=1,results:=#[],body:=none,norace:=true,file:= "internal/sync/runtime.go",endLine:=0,tmpNames:=#[] }
def rH(L:ah):Func:=
 {name:= "internal/sync.runtime_Semrelease",origin:= "",params:=#[L.tPU32,4,3],resultTypes:=#[],nfree:=0,ntmps:=3,results:=#[],body:=none,norace:=true,file:= "internal/sync/runtime.go",endLine:=0,tmpNames:=#[] }
structure dQ(P:Program)(L:ah):Prop where
 lib:MuLib P L.mu
 vz:P.funcs[L.mu.lockSlow]? = some (kC L)
 qg:P.funcs[L.mu.unlockSlow]? = some (iH L)
 En:P.funcs[L.canSpin]? = some (oN L)
 SE:P.funcs[L.F8]? = some (rF L)
 agj:P.funcs[L.throw]? = some (Wh L)
 SG:P.funcs[L.nano]? = some (xZ L)
 SH:P.funcs[L.F9]? = some (rG L)
 f_fatal:P.funcs[L.fatal]? = some (fatalFn L)
 wM:P.funcs[L.semrel]? = some (rH L)
 runUnderlying_tPU32:∀(w:World),Sem.run P (underlying L.tPU32) w=Result.ok (TypeDesc.pointer L.mu.tU32) w
 sizeOf_tU32:∀(w:World),Sem.run P (Go.sizeOf L.mu.tU32) w=Result.ok 1 w
 isAgg_tU32:∀(w:World),Sem.run P (isAgg L.mu.tU32) w=Result.ok false w
 runUnderlying_tU32:∀(w:World),Sem.run P (underlying L.mu.tU32) w=Result.ok (TypeDesc.int IntKind.u32) w
 Py:∀(w:World),Sem.run P (underlying 2) w=Result.ok (TypeDesc.int IntKind.i64) w
 runUnderlying_t3:∀(w:World),Sem.run P (underlying 3) w=Result.ok (TypeDesc.int IntKind.i64) w
 runUnderlying_t4:∀(w:World),Sem.run P (underlying 4) w=Result.ok TypeDesc.bool w
end Go.Mx
namespace Go.Mx
open Go.ConcN (sumTo upd upd_same upd_ne sumTo_upd le_sumTo sumTo_le sumTo_congr)
structure Wd where
 L:Nat
 W:Nat
 S:Nat
 n:Nat
 deriving DecidableEq
def Wd.num(m:Wd):Nat:=m.L+2 * m.W+4 * m.S+8 * m.n
structure Wd.Bits(m:Wd):Prop where
 L:m.L≤1
 W:m.W≤1
 S:m.S≤1
theorem Wd.inj{a b:Wd}(ha:a.Bits)(hb:b.Bits)(h:a.num=b.num):a=b:=by
 obtain ⟨a1,a2,a3,a4⟩:=a
 obtain ⟨b1,b2,b3,b4⟩:=b
 obtain ⟨h1,h2,h3⟩:=ha
 obtain ⟨k1,k2,k3⟩:=hb
 simp only [Wd.num] at h h1 h2 h3 k1 k2 k3
 simp only [Wd.mk.injEq]
 omega
structure Lo where
 old:Wd
 aw:Bool
 sv:Bool
 it:Nat
inductive Lk where
 |out|l0|rd (aw sv:Bool) (it:Nat)|sq (T:Lo)|c1 (T:Lo)|c2 (T:Lo)|t1 (sv:Bool)|s1 (sv:Bool)|t2|r2 (sv:Bool)|a1 (sv cl:Bool)
 |own|uc (old:Wd)|ux|us|done
def hd(T:Lo):Lk:=if T.old.L=1∧T.old.S=0 then .sq T else .c2 T
def bit(b:Bool):Nat:=if b then 1 else 0
def cO:Lk→Nat | .own=>1|_=>0
def cK:Lk→Nat | .rd aw _ _=>bit aw | .sq T=>bit T.aw | .c1 T=>bit T.aw | .c2 T=>bit T.aw|_=>0
def cT:Lk→Nat | .t2=>1 | .r2 _=>1|_=>0
def cU:Lk→Nat | .us=>1|_=>0
def cA:Lk→Nat | .a1 _ _=>1|_=>0
def cW:Lk→Nat | .t1 _=>1 | .s1 _=>1|_=>0
def Eo:Lk→Prop | .uc _=>True | .ux=>True|_=>False
def sm(φ:Lk→Nat)(j:Nat)(lk:Nat→Lk):Nat:=sumTo j fun i=>φ (lk i)
def WfT(B:Nat)(T:Lo):Prop:=T.old.Bits∧T.old.n≤B∧(T.sv=true→T.aw=true)∧(T.aw=true→T.old.W=1∧T.old.S=0)∧T.it≤4
def Wf(B:Nat)(m:Wd):Lk→Prop
 | .rd aw sv it=>(sv=true→aw=true)∧it≤4
 | .sq T=>WfT B T∧T.old.L=1∧T.old.S=0
 | .c1 T=>WfT B T∧T.old.L=1∧T.old.S=0∧T.old.W=0∧0 < T.old.n∧T.aw=false∧T.it < 4
 | .c2 T=>WfT B T
 | .a1 _ cl=>cl=false→2≤m.n
 | .uc o=>o.Bits∧o.L=0∧o.W=0∧o.S=0∧0 < o.n∧o.n≤B
 |_=>True
structure MI(B j:Nat)(lk:Nat→Lk)(m:Wd)(q:Nat):Prop where
 bits:m.Bits
 jB:j≤B
 own:sm cO j lk=m.L
 nor:m.S=0→sm cK j lk+sm cT j lk+sm cU j lk+q=m.W∧sm cA j lk=0∧m.n+sm cU j lk+q=sm cW j lk
 Ah:m.S=1→m.W=0∧sm cK j lk=0∧m.L+sm cT j lk+sm cA j lk+sm cU j lk+q=1∧m.n=sm cW j lk+sm cT j lk+sm cA j lk∧1≤m.n
 prog:m.L=0→m.S=0→m.W=0→0 < m.n→∃i,i < j∧Eo (lk i)
 wf:∀i,i < j→Wf B m (lk i)
inductive Mv:Wd→Nat→Lk→Wd→Nat→Lk→Prop
 |enter {m q}:Mv m q .out m q .l0
 |l0f {m q} (h:m=⟨0,0,0,0⟩):Mv m q .l0 ⟨1,0,0,0⟩ q .own
 |l0s {m q} (h:m≠⟨0,0,0,0⟩):Mv m q .l0 m q (.rd false false 0)
 |rd {m q aw sv it}:Mv m q (.rd aw sv it) m q (hd ⟨m,aw,sv,it⟩)
 |sqn {m q T}:Mv m q (.sq T) m q (.c2 T)
 |sqc {m q T} (h:T.it < 4) (ha:T.aw=false∧T.old.W=0∧T.old.n≠0):Mv m q (.sq T) m q (.c1 T)
 |sqr {m q T} (h:T.it < 4) (ha:¬(T.aw=false∧T.old.W=0∧T.old.n≠0)):Mv m q (.sq T) m q (.rd T.aw T.sv (T.it+1))
 |c1y {m q T} (h:m=T.old):Mv m q (.c1 T) ⟨m.L,1,m.S,m.n⟩ q (.rd true T.sv (T.it+1))
 |c1n {m q T} (h:m≠T.old):Mv m q (.c1 T) m q (.rd false T.sv (T.it+1))
 |c2l {m q T} (h:m=T.old) (h1:m.L=0∧m.S=0):Mv m q (.c2 T) ⟨1,if T.aw then 0 else m.W,0,m.n⟩ q .own
 |c2q {m q T y} (h:m=T.old) (h1:¬(m.L=0∧m.S=0)) (hy:y = .t1 T.sv∨y = .s1 T.sv):Mv m q (.c2 T) ⟨m.L,if T.aw then 0 else m.W,if T.sv∧m.L=1 then 1 else m.S,m.n+1⟩ q y
 |c2n {m q T} (h:m≠T.old):Mv m q (.c2 T) m q (.rd T.aw T.sv T.it)
 |t1 {m q sv}:Mv m q (.t1 sv) m q (.s1 sv)
 |s1 {m q sv}:Mv m (q+1) (.s1 sv) m q (if sv then .r2 true else .t2)
 |t2 {m q b}:Mv m q .t2 m q (.r2 b)
 |r2n {m q sv} (h:m.S=0):Mv m q (.r2 sv) m q (hd ⟨m,true,sv,0⟩)
 |r2s {m q sv} (h:m.S=1):Mv m q (.r2 sv) m q (.a1 sv (!sv || decide (m.n=1)))
 |a1 {m q sv cl}:Mv m q (.a1 sv cl) ⟨1,m.W,if cl then 0 else m.S,m.n - 1⟩ q .own
 |u0d {m q} (h:m.S=0∧(m.W=1∨m.n=0)):Mv m q .own ⟨0,m.W,m.S,m.n⟩ q .done
 |u0c {m q} (h:m.S=0∧m.W=0∧0 < m.n):Mv m q .own ⟨0,m.W,m.S,m.n⟩ q (.uc ⟨0,m.W,m.S,m.n⟩)
 |u0s {m q} (h:m.S=1):Mv m q .own ⟨0,m.W,m.S,m.n⟩ q .us
 |ucy {m q o} (h:m=o):Mv m q (.uc o) ⟨m.L,1,m.S,m.n - 1⟩ q .us
 |ucn {m q o} (h:m≠o):Mv m q (.uc o) m q .ux
 |uxd {m q} (h:¬(m.L=0∧m.W=0∧m.S=0∧0 < m.n)):Mv m q .ux m q .done
 |uxc {m q} (h:m.L=0∧m.W=0∧m.S=0∧0 < m.n):Mv m q .ux m q (.uc m)
 |us {m q}:Mv m q .us m (q+1) .done
section
variable{B j q q':Nat}{lk:Nat→Lk}{m m':Wd}{i:Nat}{x y:Lk}
theorem iV(φ:Lk→Nat)(y:Lk)(hi:i < j):sm φ j (upd lk i y)+φ (lk i)=sm φ j lk+φ y:=sumTo_upd lk y φ hi
theorem mV(φ:Lk→Nat)(hi:i < j):φ (lk i)≤sm φ j lk:=le_sumTo (f:=fun i=>φ (lk i)) hi
theorem SI(φ ψ:Lk→Nat)(j:Nat)(lk:Nat→Lk):sm (fun x=>φ x+ψ x) j lk=sm φ j lk+sm ψ j lk:=by
 unfold sm
 induction j with
 |zero=>rfl
 |succ j ih=>simp only [sumTo];rw [ih];omega
theorem Zq{φ:Lk→Nat}(h:∀x,φ x≤1):sm φ j lk≤j:=by
 have:=sumTo_le (f:=fun i=>φ (lk i)) (c:=1) (j:=j) fun i _=>h _
 simpa [sm] using this
theorem MI.le(h:MI B j lk m q):m.n≤j:=by
 have h1:sm (fun x=>(cW x+cT x)+cA x) j lk≤j:=Zq fun x=>by cases x<;>simp [cW,cT,cA]
 rw [SI (fun x=>cW x+cT x) cA,SI cW cT] at h1
 have hb:=h.bits.S
 rcases Nat.eq_zero_or_pos m.S with e|e
 ·have:=h.nor e;omega
 ·have:=h.Ah (by omega);omega
theorem MI.mk'(h:MI B j lk m q)(hi:i < j)(bits:m'.Bits)
  (own:sm cO j (upd lk i y)=m'.L)
  (nor:m'.S=0→sm cK j (upd lk i y)+sm cT j (upd lk i y)+sm cU j (upd lk i y)+q' = m'.W∧sm cA j (upd lk i y)=0∧m'.n+sm cU j (upd lk i y)+q' = sm cW j (upd lk i y))
  (Ah:m'.S=1→m'.W=0∧sm cK j (upd lk i y)=0∧m'.L+sm cT j (upd lk i y)+sm cA j (upd lk i y)+sm cU j (upd lk i y)+q' = 1∧m'.n=sm cW j (upd lk i y)+sm cT j (upd lk i y)+sm cA j (upd lk i y)∧1≤m'.n)
  (prog:m'.L=0→m'.S=0→m'.W=0→0 < m'.n→(Eo y∨(¬Eo (lk i)∧m.L=0∧m.S=0∧m.W=0∧0 < m.n)))
  (wfy:Wf B m' y) (wfo:m.n≤m'.n∨sm cA j lk=0∨1≤cA (lk i)) (ha:sm cA j lk≤1):MI B j (upd lk i y) m' q' :=by
 refine ⟨bits,h.jB,own,nor,Ah,fun h1 h2 h3 h4=>?_,fun k hk=>?_⟩
 ·rcases prog h1 h2 h3 h4 with p|⟨p1,p2,p3,p4,p5⟩
  · exact ⟨i,hi,by rw [upd_same];exact p⟩
  · obtain ⟨k,hk,hs⟩:=h.prog p2 p3 p4 p5
    have hne:k≠i:=fun e=>p1 (e ▸ hs)
    exact ⟨k,hk,by rw [upd_ne lk y hne];exact hs⟩
 ·by_cases e:k=i
  · subst e;rw [upd_same];exact wfy
  · rw [upd_ne lk y e]
    have hw:=h.wf k hk
    revert hw
    cases hlk:lk k<;>simp only [Wf]<;>try exact id
    intro hw hc
    have hw:=hw hc
    rename_i sv cl
    have e1:=iV (lk:=lk) cA .out hi
    have e2:=mV (lk:=upd lk i .out) cA hk
    rw [upd_ne lk .out e,hlk] at e2
    simp only [cA] at e1 e2
    rcases wfo with w|w|w
    ·omega
    ·omega
    ·simp only [cA] at w;omega
theorem MI.qh(h:MI B j lk m q):sm cA j lk≤1:=by
 have hb:=h.bits.S
 rcases Nat.eq_zero_or_pos m.S with e|e
 ·have:=h.nor e;omega
 ·have:=h.Ah (by omega);omega
theorem Yf{T:Lo}(h:WfT B T):Wf B m (hd T):=by
 unfold hd
 split
 ·rename_i e;exact ⟨h,e⟩
 ·exact h
theorem acS(T:Lo):cO (hd T)=0∧cK (hd T)=bit T.aw∧cT (hd T)=0∧cU (hd T)=0∧cA (hd T)=0∧cW (hd T)=0:=by
 unfold hd;split<;>exact ⟨rfl,rfl,rfl,rfl,rfl,rfl⟩
end
end Go.Mx
namespace Go.Mx
open Go.ConcN (sumTo upd upd_same upd_ne sumTo_upd le_sumTo sumTo_le sumTo_congr)
section
variable{B j q q':Nat}{lk:Nat→Lk}{m m':Wd}{i:Nat}{x y:Lk}
theorem MI.still(h:MI B j lk m q)(hi:i < j)(hO:cO y=cO (lk i))(hK:cK y=cK (lk i))(hT:cT y=cT (lk i))(hU:cU y=cU (lk i))(hA:cA y=cA (lk i))(hW:cW y=cW (lk i))
  (hs:¬Eo (lk i)∨Eo y∨¬(m.L=0∧m.W=0∧m.S=0∧0 < m.n)) (hw:Wf B m y):MI B j (upd lk i y) m q:=by
 have eO:=iV (lk:=lk) cO y hi
 have eK:=iV (lk:=lk) cK y hi
 have eT:=iV (lk:=lk) cT y hi
 have eU:=iV (lk:=lk) cU y hi
 have eA:=iV (lk:=lk) cA y hi
 have eW:=iV (lk:=lk) cW y hi
 have own:=h.own
 have nor:=h.nor
 have Ah:=h.Ah
 refine h.mk' hi h.bits (by omega) (fun e=>?_) (fun e=>?_) (fun h1 h2 h3 h4=>?_) hw (.inl (Nat.le_refl _)) h.qh
 ·have:=nor e;omega
 ·have:=Ah e;omega
 ·rcases hs with hs|hs|hs
  · exact .inr ⟨hs,h1,h2,h3,h4⟩
  · exact .inl hs
  · exact absurd ⟨h1,h3,h2,h4⟩ hs
theorem MI.step(h:MI B j lk m q)(hi:i < j)(hx:lk i=x)(k:Mv m q x m' q' y):MI B j (upd lk i y) m' q' :=by
 have Ky:=h.wf i hi
 rw [hx] at Ky
 have hle:=h.le
 have hjB:=h.jB
 have eO:=iV (lk:=lk) cO y hi
 have eK:=iV (lk:=lk) cK y hi
 have eT:=iV (lk:=lk) cT y hi
 have eU:=iV (lk:=lk) cU y hi
 have eA:=iV (lk:=lk) cA y hi
 have eW:=iV (lk:=lk) cW y hi
 have lO:=mV (lk:=lk) cO hi
 have lK:=mV (lk:=lk) cK hi
 have lT:=mV (lk:=lk) cT hi
 have lU:=mV (lk:=lk) cU hi
 have lA:=mV (lk:=lk) cA hi
 have lW:=mV (lk:=lk) cW hi
 rw [hx] at eO eK eT eU eA eW lO lK lT lU lA lW
 have own:=h.own
 have nor:=h.nor
 have Ah:=h.Ah
 have bL:=h.bits.L
 have bW:=h.bits.W
 have bS:=h.bits.S
 have seen:∀ {aw sv:Bool} {it:Nat},(sv=true→aw=true)→it≤4→(aw=true→m.W=1∧m.S=0)→WfT B ⟨m,aw,sv,it⟩:=fun a b c=>⟨h.bits,by show m.n≤B;omega,a,c,b⟩
 have awake:∀ {aw:Bool},bit aw≤sm cK j lk→aw=true→m.W=1∧m.S=0:=by
  intro aw hb ha
  subst ha
  simp only [bit,if_true] at hb
  rcases Nat.eq_zero_or_pos m.S with e|e
  · have:=nor e;omega
  · have:=Ah (by omega);omega
 cases k with
 |enter=>exact h.still hi (by rw [hx];rfl) (by rw [hx];rfl) (by rw [hx];rfl) (by rw [hx];rfl) (by rw [hx];rfl) (by rw [hx];rfl) (.inl (by rw [hx];exact id)) trivial
 |l0f e=>
  subst e
  have hn:=nor rfl
  simp only [cO,cK,cT,cU,cA,cW] at eO eK eT eU eA eW lO lK lT lU lA lW hn own
  exact h.mk' hi ⟨by simp,by simp,by simp⟩ (by simp only [];omega) (fun _=>by simp only [];omega) (fun e=>by cases e) (fun e=>by cases e) trivial (.inl (Nat.le_refl _)) h.qh
 |l0s e=>exact h.still hi (by rw [hx];rfl) (by rw [hx];rfl) (by rw [hx];rfl) (by rw [hx];rfl) (by rw [hx];rfl) (by rw [hx];rfl) (.inl (by rw [hx];exact id)) ⟨fun x=>x,by omega⟩
 |rd=>
  rename_i aw sv it
  obtain ⟨w1,w2⟩:=Ky
  obtain ⟨c1,c2,c3,c4,c5,c6⟩:=acS ⟨m,aw,sv,it⟩
  exact h.still hi (by rw [hx,c1];rfl) (by rw [hx,c2];rfl) (by rw [hx,c3];rfl) (by rw [hx,c4];rfl) (by rw [hx,c5];rfl) (by rw [hx,c6];rfl) (.inl (by rw [hx];exact id)) (Yf (seen w1 w2 (awake lK)))
 |sqn=>exact h.still hi (by rw [hx];rfl) (by rw [hx];rfl) (by rw [hx];rfl) (by rw [hx];rfl) (by rw [hx];rfl) (by rw [hx];rfl) (.inl (by rw [hx];exact id)) Ky.1
 |sqc e ha=>exact h.still hi (by rw [hx];rfl) (by rw [hx];rfl) (by rw [hx];rfl) (by rw [hx];rfl) (by rw [hx];rfl) (by rw [hx];rfl) (.inl (by rw [hx];exact id)) ⟨Ky.1,Ky.2.1,Ky.2.2,ha.2.1,by omega,ha.1,e⟩
 |sqr e ha=>exact h.still hi (by rw [hx];rfl) (by rw [hx];rfl) (by rw [hx];rfl) (by rw [hx];rfl) (by rw [hx];rfl) (by rw [hx];rfl) (.inl (by rw [hx];exact id)) ⟨Ky.1.2.2.1,by omega⟩
 |c1y e=>
  rename_i T
  obtain ⟨w1,w2,w3,w4,w5,w6,w7⟩:=Ky
  subst e
  simp only [cO,cK,cT,cU,cA,cW,bit,w6,Bool.false_eq_true,if_false,if_true] at *
  have:=nor w3
  refine h.mk' hi ⟨bL,Nat.le_refl _,bS⟩ (by simp only [];omega) (fun _=>by simp only [];omega) (fun e=>by simp only [] at e;omega) (fun _ _ e=>by simp at e) ⟨fun _=>rfl,by omega⟩ (.inl (Nat.le_refl _)) h.qh
 |c1n e=>
  obtain ⟨w1,w2,w3,w4,w5,w6,w7⟩:=Ky
  exact h.still hi (by rw [hx];rfl) (by rw [hx];simp only [cK,w6]) (by rw [hx];rfl) (by rw [hx];rfl) (by rw [hx];rfl) (by rw [hx];rfl) (.inl (by rw [hx];exact id)) ⟨fun e=>by have:=w1.2.2.1 e;rw [w6] at this;exact this,by omega⟩
 |c2l e e1=>
  rename_i T
  obtain ⟨w1,w2,w3,w4,w5⟩:=Ky
  subst e
  have hn:=nor e1.2
  cases haw:T.aw with
  | false=>
    simp only [cO,cK,cT,cU,cA,cW,bit,haw,Bool.false_eq_true,if_false,if_true] at *
    exact h.mk' hi ⟨Nat.le_refl _,bW,Nat.zero_le _⟩ (by simp only [];omega) (fun _=>by simp only [];omega) (fun e=>by simp at e) (fun e=>by simp at e) trivial (.inl (Nat.le_refl _)) h.qh
  | true=>
    simp only [cO,cK,cT,cU,cA,cW,bit,haw,Bool.false_eq_true,if_false,if_true] at *
    have:=(w4 trivial).1
    exact h.mk' hi ⟨Nat.le_refl _,Nat.zero_le _,Nat.zero_le _⟩ (by simp only [];omega) (fun _=>by simp only [];omega) (fun e=>by simp at e) (fun e=>by simp at e) trivial (.inl (Nat.le_refl _)) h.qh
 |c2q e e1 hy=>
  rename_i T
  obtain ⟨w1,w2,w3,w4,w5⟩:=Ky
  have hcy:cO y=0∧cK y=0∧cT y=0∧cU y=0∧cA y=0∧cW y=1∧Wf B ⟨m.L,if T.aw then 0 else m.W,if T.sv∧m.L=1 then 1 else m.S,m.n+1⟩ y:=by
    rcases hy with rfl|rfl<;>exact ⟨rfl,rfl,rfl,rfl,rfl,rfl,trivial⟩
  obtain ⟨y1,y2,y3,y4,y5,y6,y7⟩:=hcy
  rw [y1] at eO;rw [y2] at eK;rw [y3] at eT;rw [y4] at eU;rw [y5] at eA;rw [y6] at eW
  subst e
  simp only [cO,cK,cT,cU,cA,cW] at eO eK eT eU eA eW lO lK lT lU lA lW
  rcases Nat.eq_zero_or_pos T.old.S with eS|eS
  · have hn:=nor eS
    have hL:T.old.L=1:=by omega
    cases haw:T.aw with
    |false=>
     have hsv:T.sv=false:=by cases hh:T.sv with|false=>rfl|true=>have:=w3 hh;rw [haw] at this;cases this
     rw [haw,hsv] at y7
     simp only [bit,haw,hsv,Bool.false_eq_true,if_false,false_and] at *
     exact h.mk' hi ⟨bL,bW,bS⟩ (by simp only [];omega) (fun _=>by simp only [];omega) (fun e=>by simp only [] at e;omega) (fun e=>by simp only [] at e;omega) y7 (.inl (by simp only [];omega)) h.qh
    |true=>
     have hw1:=(w4 haw).1
     cases hsv:T.sv with
     |false=>
      rw [haw,hsv] at y7
      simp only [bit,haw,hsv,Bool.false_eq_true,if_false,if_true,false_and] at *
      exact h.mk' hi ⟨bL,Nat.zero_le _,bS⟩ (by simp only [];omega) (fun _=>by simp only [];omega) (fun e=>by simp only [] at e;omega) (fun e=>by simp only [] at e;omega) y7 (.inl (by simp only [];omega)) h.qh
     |true=>
      simp only [bit,haw,if_true] at eK lK
      simp only [haw,hsv,hL,if_true,and_self] at y7 ⊢
      exact h.mk' hi ⟨by simp,Nat.zero_le _,Nat.le_refl _⟩ (by simp only [];omega) (fun e=>by simp at e) (fun _=>by simp only [];refine ⟨trivial,by omega,by omega,by omega,by omega⟩) (fun e=>by simp at e) y7 (.inl (by simp only [];omega)) h.qh
  · have hs:=Ah (by omega)
    have haw:T.aw=false:=by cases hh:T.aw with|false=>rfl|true=>have:=(w4 hh).2;omega
    have hsv:T.sv=false:=by cases hh:T.sv with|false=>rfl|true=>have:=w3 hh;rw [haw] at this;cases this
    rw [haw,hsv] at y7
    simp only [bit,haw,hsv,Bool.false_eq_true,if_false,false_and] at *
    exact h.mk' hi ⟨bL,bW,bS⟩ (by simp only [];omega) (fun e=>by simp only [] at e;omega) (fun _=>by simp only [];omega) (fun _ e=>by simp only [] at e;omega) y7 (.inl (by simp only [];omega)) h.qh
 |c2n e=>exact h.still hi (by rw [hx];rfl) (by rw [hx];rfl) (by rw [hx];rfl) (by rw [hx];rfl) (by rw [hx];rfl) (by rw [hx];rfl) (.inl (by rw [hx];exact id)) ⟨Ky.2.2.1,Ky.2.2.2.2⟩
 |t1=>exact h.still hi (by rw [hx];rfl) (by rw [hx];rfl) (by rw [hx];rfl) (by rw [hx];rfl) (by rw [hx];rfl) (by rw [hx];rfl) (.inl (by rw [hx];exact id)) trivial
 |s1=>
  rename_i sv
  have hcy:∀y,y=(if sv then Lk.r2 true else .t2)→cO y=0∧cK y=0∧cT y=1∧cU y=0∧cA y=0∧cW y=0∧Wf B m y:=by
    intro y e;subst e;cases sv<;>exact ⟨rfl,rfl,rfl,rfl,rfl,rfl,trivial⟩
  obtain ⟨y1,y2,y3,y4,y5,y6,y7⟩:=hcy _ rfl
  rw [y1] at eO;rw [y2] at eK;rw [y3] at eT;rw [y4] at eU;rw [y5] at eA;rw [y6] at eW
  simp only [cO,cK,cT,cU,cA,cW] at eO eK eT eU eA eW lO lK lT lU lA lW
  exact h.mk' hi h.bits (by omega) (fun e=>by have:=nor e;omega) (fun e=>by have:=Ah e;omega) (fun a b c d=>.inr ⟨by rw [hx];exact id,a,b,c,d⟩) y7 (.inl (Nat.le_refl _)) h.qh
 |t2=>exact h.still hi (by rw [hx];rfl) (by rw [hx];rfl) (by rw [hx];rfl) (by rw [hx];rfl) (by rw [hx];rfl) (by rw [hx];rfl) (.inl (by rw [hx];exact id)) trivial
 |r2n e=>
  rename_i sv
  obtain ⟨c1,c2,c3,c4,c5,c6⟩:=acS ⟨m,true,sv,0⟩
  rw [c1] at eO;rw [c2] at eK;rw [c3] at eT;rw [c4] at eU;rw [c5] at eA;rw [c6] at eW
  simp only [cO,cK,cT,cU,cA,cW,bit,if_true] at eO eK eT eU eA eW lO lK lT lU lA lW
  have hn:=nor e
  exact h.mk' hi h.bits (by omega) (fun e=>by omega) (fun e=>by omega) (fun a b c d=>.inr ⟨by rw [hx];exact id,a,b,c,d⟩) (Yf (seen (fun _=>rfl) (by omega) fun _=>⟨by omega,e⟩)) (.inl (Nat.le_refl _)) h.qh
 |r2s e=>
  rename_i sv
  simp only [cO,cK,cT,cU,cA,cW] at eO eK eT eU eA eW lO lK lT lU lA lW
  have hs:=Ah e
  refine h.mk' hi h.bits (by omega) (fun e=>by omega) (fun e=>by omega) (fun a b c d=>by omega) (fun hc=>?_) (.inl (Nat.le_refl _)) h.qh
  simp only [Bool.or_eq_false_iff,Bool.not_eq_false',decide_eq_false_iff_not] at hc
  omega
 |a1=>
  rename_i sv cl
  simp only [cO,cK,cT,cU,cA,cW] at eO eK eT eU eA eW lO lK lT lU lA lW
  have hS:m.S=1:=by
    rcases Nat.eq_zero_or_pos m.S with e|e
    ·have:=nor e;omega
    ·omega
  have hs:=Ah hS
  cases cl with
  | false=>
    have hw:2≤m.n:=Ky rfl
    simp only [Bool.false_eq_true,if_false]
    exact h.mk' hi ⟨Nat.le_refl _,bW,bS⟩ (by simp only [];omega) (fun e=>by simp only [] at e;omega) (fun _=>by simp only [];omega) (fun e=>by simp at e) trivial (.inr (.inr (by rw [hx];exact Nat.le_refl _))) h.qh
  | true=>
    simp only [if_true]
    exact h.mk' hi ⟨Nat.le_refl _,bW,Nat.zero_le _⟩ (by simp only [];omega) (fun _=>by simp only [];omega) (fun e=>by simp at e) (fun e=>by simp at e) trivial (.inr (.inr (by rw [hx];exact Nat.le_refl _))) h.qh
 |u0d e=>
  simp only [cO,cK,cT,cU,cA,cW] at eO eK eT eU eA eW lO lK lT lU lA lW
  have hn:=nor e.1
  exact h.mk' hi ⟨Nat.zero_le _,bW,bS⟩ (by simp only [];omega) (fun _=>by simp only [];omega) (fun e'=>by simp only [] at e';omega) (fun _ _ e2 e3=>by simp only [] at e2 e3;omega) trivial (.inl (Nat.le_refl _)) h.qh
 |u0c e=>
  simp only [cO,cK,cT,cU,cA,cW] at eO eK eT eU eA eW lO lK lT lU lA lW
  have hn:=nor e.1
  exact h.mk' hi ⟨Nat.zero_le _,bW,bS⟩ (by simp only [];omega) (fun _=>by simp only [];omega) (fun e'=>by simp only [] at e';omega) (fun _ _ _ _=>.inl trivial) ⟨⟨Nat.zero_le _,bW,bS⟩,rfl,e.2.1,e.1,e.2.2,by show m.n≤B;omega⟩ (.inl (Nat.le_refl _)) h.qh
 |u0s e=>
  simp only [cO,cK,cT,cU,cA,cW] at eO eK eT eU eA eW lO lK lT lU lA lW
  have hs:=Ah e
  exact h.mk' hi ⟨Nat.zero_le _,bW,bS⟩ (by simp only [];omega) (fun e'=>by simp only [] at e';omega) (fun _=>by simp only [];omega) (fun _ e2=>by simp only [] at e2;omega) trivial (.inl (Nat.le_refl _)) h.qh
 |ucy e=>
  rename_i o
  obtain ⟨w1,w2,w3,w4,w5,w6⟩:=Ky
  subst e
  simp only [cO,cK,cT,cU,cA,cW] at eO eK eT eU eA eW lO lK lT lU lA lW
  have hn:=nor w4
  exact h.mk' hi ⟨bL,Nat.le_refl _,bS⟩ (by simp only [];omega) (fun _=>by simp only [];omega) (fun e'=>by simp only [] at e';omega) (fun _ _ e2=>by simp at e2) trivial (.inr (.inl (by omega))) h.qh
 |ucn e=>exact h.still hi (by rw [hx];rfl) (by rw [hx];rfl) (by rw [hx];rfl) (by rw [hx];rfl) (by rw [hx];rfl) (by rw [hx];rfl) (.inr (.inl trivial)) trivial
 |uxd e=>exact h.still hi (by rw [hx];rfl) (by rw [hx];rfl) (by rw [hx];rfl) (by rw [hx];rfl) (by rw [hx];rfl) (by rw [hx];rfl) (.inr (.inr e)) trivial
 |uxc e=>exact h.still hi (by rw [hx];rfl) (by rw [hx];rfl) (by rw [hx];rfl) (by rw [hx];rfl) (by rw [hx];rfl) (by rw [hx];rfl) (.inr (.inl trivial)) ⟨h.bits,e.1,e.2.1,e.2.2.1,e.2.2.2,by omega⟩
 |us=>
  simp only [cO,cK,cT,cU,cA,cW] at eO eK eT eU eA eW lO lK lT lU lA lW
  exact h.mk' hi h.bits (by omega) (fun e=>by have:=nor e;omega) (fun e=>by have:=Ah e;omega) (fun a b c d=>.inr ⟨by rw [hx];exact id,a,b,c,d⟩) trivial (.inl (Nat.le_refl _)) h.qh
end
end Go.Mx
namespace Go.Mx
open Go.ConcN (sumTo upd upd_same upd_ne sumTo_upd le_sumTo sumTo_le sumTo_congr)
def pt:Lk→Nat
 | .out | .l0 | .c1 _=>5
 | .rd aw _ _=>if aw then 4 else 5
 | .sq T | .c2 T=>if T.aw then 4 else 5
 | .t1 _ | .s1 _ | .own=>3
 | .t2 | .r2 _ | .a1 _ _=>4
 | .uc _ | .ux=>2
 | .us=>1
 | .done=>0
def rk(m:Wd):Lk→Nat
 | .out=>60
 | .l0=>59
 | .rd _ _ it=>3 * (5 - it)+3
 | .sq T=>if T.old=m then 3 * (5 - T.it)+2 else 3 * (5 - T.it)+6
 | .c1 T=>if T.old=m then 3 * (5 - T.it)+1 else 3 * (5 - T.it)+5
 | .c2 T=>if T.old=m then 1 else 3 * (5 - T.it)+4
 | .t1 _=>50
 | .s1 _=>49
 | .t2=>48
 | .r2 _=>47
 | .a1 _ _=>1
 | .own=>40
 | .uc o=>if o=m then 1 else 3
 | .ux=>2
 | .us=>1
 | .done=>0
section
variable{B j q q':Nat}{lk:Nat→Lk}{m m':Wd}{i:Nat}{x y:Lk}
theorem Yg(T:Lo):pt (hd T)=if T.aw then 4 else 5:=by unfold hd;split<;>rfl
theorem Yh(T:Lo)(h:T.old=m):rk m (hd T)≤3 * (5 - T.it)+2:=by
 unfold hd
 split
 ·simp [rk,h]
 ·simp [rk,h]
theorem Mv.nearer(h:Mv m q x m' q' y)(hw:Wf B m x):pt y+q' < pt x+q∨(m' = m∧pt y+q' = pt x+q∧rk m y < rk m x):=by
 cases h with
 |enter=>exact .inr ⟨rfl,rfl,by simp [rk]⟩
 |l0f e=>exact .inl (by simp [pt])
 |l0s e=>exact .inr ⟨rfl,by simp [pt],by simp [rk]⟩
 |rd=>
  rename_i aw sv it
  refine .inr ⟨rfl,by rw [Yg];rfl,?_⟩
  have:=Yh (m:=m) ⟨m,aw,sv,it⟩ rfl
  show rk m (hd ⟨m,aw,sv,it⟩) < 3 * (5 - it)+3
  dsimp only at this
  omega
 |sqn=>
  rename_i T
  refine .inr ⟨rfl,rfl,?_⟩
  simp only [rk]
  split<;>omega
 |sqc e ha=>
  rename_i T
  refine .inr ⟨rfl,by simp [pt,ha.1],?_⟩
  simp only [rk]
  split<;>omega
 |sqr e ha=>
  rename_i T
  refine .inr ⟨rfl,rfl,?_⟩
  simp only [rk]
  split<;>omega
 |c1y e=>exact .inl (by simp [pt])
 |c1n e=>
  rename_i T
  have h4:=hw.2.2.2.2.2.2
  refine .inr ⟨rfl,by simp [pt],?_⟩
  simp only [rk]
  split<;>omega
 |c2l e e1=>exact .inl (by simp only [pt];split<;>omega)
 |c2q e e1 hy=>
  refine .inl ?_
  rcases hy with rfl|rfl<;>(simp only [pt];split<;>omega)
 |c2n e=>
  rename_i T
  refine .inr ⟨rfl,rfl,?_⟩
  simp only [rk]
  rw [if_neg (fun x=>e x.symm)]
  omega
 |t1=>exact .inr ⟨rfl,rfl,by simp [rk]⟩
 |s1=>
  rename_i sv
  refine .inr ⟨rfl,?_,?_⟩
  · cases sv<;>simp only [pt]<;>simp<;>omega
  · cases sv<;>simp [rk]
 |t2=>exact .inr ⟨rfl,rfl,by simp [rk]⟩
 |r2n e=>
  rename_i sv
  refine .inr ⟨rfl,by rw [Yg];rfl,?_⟩
  have:=Yh (m:=m) ⟨m,true,sv,0⟩ rfl
  dsimp only at this
  show rk m (hd ⟨m,true,sv,0⟩) < 47
  omega
 |r2s e=>exact .inr ⟨rfl,rfl,by simp [rk]⟩
 |a1=>exact .inl (by simp [pt])
 |u0d e=>exact .inl (by simp [pt])
 |u0c e=>exact .inl (by simp [pt])
 |u0s e=>exact .inl (by simp [pt])
 |ucy e=>exact .inl (by simp [pt])
 |ucn e=>
  refine .inr ⟨rfl,rfl,?_⟩
  simp only [rk]
  rw [if_neg (fun x=>e x.symm)]
  omega
 |uxd e=>exact .inl (by simp [pt])
 |uxc e=>exact .inr ⟨rfl,rfl,by simp [rk]⟩
 |us=>exact .inr ⟨rfl,by simp only [pt];omega,by simp [rk]⟩
def Hz(j:Nat)(lk:Nat→Lk)(q:Nat):Nat:=sm pt j lk+q
theorem Hz.step(hi:i < j)(hx:lk i=x)(h:Mv m q x m' q' y)(hw:Wf B m x):Hz j (upd lk i y) q' < Hz j lk q∨(m' = m∧Hz j (upd lk i y) q' = Hz j lk q∧rk m y < rk m x):=by
 have e:=iV (lk:=lk) pt y hi
 have l:=mV (lk:=lk) pt hi
 rw [hx] at e l
 unfold Hz
 rcases h.nearer hw with h|⟨h1,h2,h3⟩
 ·exact .inl (by omega)
 ·exact .inr ⟨h1,by omega,h3⟩
def act:Lk→Prop
 | .out | .s1 _ | .done=>False
 |_=>True
theorem Ns{φ:Lk→Nat}:∀ {j:Nat},(∀k,k < j→φ (lk k)=0)→sm φ j lk=0
 |0,_=>rfl
 |j+1,h=>by
  have h1:sm φ j lk=0:=Ns fun k hk=>h k (by omega)
  unfold sm at h1 ⊢
  simp only [sumTo]
  rw [h1,h j (by omega)]
theorem MI.alive(h:MI B j lk m 0)(hi:i < j){sv:Bool}(hx:lk i = .s1 sv):∃k,k < j∧act (lk k):=by
 apply Classical.byContradiction
 intro hn
 have hall:∀k,k < j→lk k = .out∨(∃sv,lk k = .s1 sv)∨lk k = .done:=by
  intro k hk
  have:¬act (lk k):=fun x=>hn ⟨k,hk,x⟩
  revert this
  cases lk k<;>simp [act]
 have z:∀ {φ:Lk→Nat},φ .out=0→φ .done=0→(∀sv,φ (.s1 sv)=0)→sm φ j lk=0:=fun a b c=>Ns fun k hk=>by
  rcases hall k hk with e|⟨sv,e⟩|e<;>rw [e]
  · exact a
  · exact c _
  · exact b
 have zO:=z (φ:=cO) rfl rfl fun _=>rfl
 have zK:=z (φ:=cK) rfl rfl fun _=>rfl
 have zT:=z (φ:=cT) rfl rfl fun _=>rfl
 have zU:=z (φ:=cU) rfl rfl fun _=>rfl
 have zA:=z (φ:=cA) rfl rfl fun _=>rfl
 have lW:=mV (lk:=lk) cW hi
 rw [hx] at lW
 simp only [cW] at lW
 have own:=h.own
 have bS:=h.bits.S
 have bW:=h.bits.W
 rcases Nat.eq_zero_or_pos m.S with e|e
 ·have hn1:=h.nor e
  obtain ⟨k,hk,hs⟩:=h.prog (by omega) e (by omega) (by omega)
  refine hn ⟨k,hk,?_⟩
  revert hs
  cases lk k<;>simp [Eo,act]
 ·have hs:=h.Ah (by omega)
  omega
end
end Go.Mx
namespace Go.Mx
open Go.Ren
open Go.Conc hiding Goes mem_ofEvents
open Go.ConcN (sumTo upd upd_same upd_ne RelBy get_map_set get_map_set_same WgLive)
open Go.Conc.Lib (WgLink)
open Go.ConcR (KK WgAt stA smA rd wr mk g_of_ofEvents loc_of_ofEvent)
def MuAt(ty:TypeId)(Mu:Nat)(w:World)(m:Wd)(q:Nat):Prop:=w.heap[Mu]? = some (.cells #[.int .i32 (m.num:Int),.int .u32 (q:Int)] ty)
def ahg(ty:TypeId)(Mu:Nat)(w:World):Prop:=∃m q:Int,w.heap[Mu]? = some (.cells #[.int .i32 m,.int .u32 q] ty)
abbrev dA:=Array Value
def CellIs(oe:Nat×Nat)(C:Nat)(v:dA)(w:World):Prop:=∃(A:Array Value) (E:TypeId),w.heap[C]? = some (.cells A E (0,0))∧oe.1+oe.2≤A.size∧v.size≤oe.2∧∀(i:Nat) (x:Value),v[i]? = some x→A[oe.1+i]? = some x
structure rJ(Mu:Nat)(w w':World):Prop where
 size:w'.heap.size=w.heap.size
 heap:∀b,b≠Mu→w'.heap[b]? = w.heap[b]?
 os:Tm w.os w'.os
 output:w'.output=w.output
 tape:w'.tape=w.tape
def Fits(B:Nat)(m:Wd)(q:Nat)(x:Lk):Prop:=m.Bits∧m.n≤B∧q≤1∧Wf B m x∧match x with
 | .rd aw _ _=>aw=true→m.W=1∧m.S=0
 | .r2 _=>(m.S=0→m.W=1)∧(m.S=1→m.L=0∧m.W=0∧1≤m.n)
 | .a1 _ _=>m.S=1∧m.L=0∧m.W=0∧1≤m.n
 | .own=>m.L=1
 |_=>True
theorem MI.Zr{B j:Nat}{lk:Nat→Lk}{m:Wd}{q:Nat}(h:MI B j lk m q):q≤1:=by
 have hS:=h.bits.S
 have hW:=h.bits.W
 rcases Nat.eq_zero_or_pos m.S with e|e
 ·have:=h.nor e;omega
 ·have:=h.Ah (by omega);omega
theorem MI.fits{B j:Nat}{lk:Nat→Lk}{m:Wd}{q i:Nat}(h:MI B j lk m q)(hi:i < j):Fits B m q (lk i):=by
 have hle:=h.le
 have hjB:=h.jB
 refine ⟨h.bits,by omega,h.Zr,h.wf i hi,?_⟩
 have hS:=h.bits.S
 have hW:=h.bits.W
 have lO:=mV (lk:=lk) cO hi
 have lK:=mV (lk:=lk) cK hi
 have lT:=mV (lk:=lk) cT hi
 have lA:=mV (lk:=lk) cA hi
 have nor:=h.nor
 have Ah:=h.Ah
 have own:=h.own
 have hL:=h.bits.L
 generalize lk i=x at lO lK lT lA
 cases x<;>dsimp only<;>try trivial
 ·rename_i aw sv it
  intro ha
  subst ha
  simp only [cK,bit,if_true] at lK
  rcases Nat.eq_zero_or_pos m.S with e|e
  · have:=nor e;omega
  · have:=Ah (by omega);omega
 ·simp only [cT] at lT
  refine ⟨fun e=>?_,fun e=>?_⟩
  · have:=nor e;omega
  · have:=Ah e;omega
 ·simp only [cA] at lA
  rcases Nat.eq_zero_or_pos m.S with e|e
  · have:=nor e;omega
  · have:=Ah (by omega);omega
 ·simp only [cO] at lO
  omega
section
variable(P:Program)(I:World→Prop)(tM:TypeId)(Mu B:Nat)
def Dv(K:Lk→Nat→Goroutine→Prop)(x:Lk)(d:Nat)(g:Goroutine):Prop:=
 d=1∧g.status = .running∧g.offers=none∧(x = .us→mayWake P g=true)∧∀(w:World) (m:Wd) (q:Nat),I w→MuAt tM Mu w m q→Fits B m q x →
  ((∃sv,x = .s1 sv)∧q=0∧stepG P false g w = .go { g with status:=.blocked } w #[]) ∨
  (∃(y:Lk) (m':Wd) (q':Nat) (g':Goroutine) (w':World) (es:Array Event),Mv m q x m' q' y∧stepG P false g w = .go g' w' es∧MuAt tM Mu w' m' q' ∧ rJ Mu w w' ∧ (∀e∈es,iM Mu e)∧(x = .us→g'.status = .running)∧K y (deafBehind d es) g')
def Nx(R:Lk→Nat→Goroutine→Prop)(E:Nat→Goroutine→Prop)(y:Lk)(d:Nat)(g:Goroutine):Prop:=match y with
 | .own | .done=>E d g
 |y=>R y d g
def gG(E:Nat→Goroutine→Prop)(x:Lk)(d:Nat)(g:Goroutine):Prop:=
 ∃R:Lk→Nat→Goroutine→Prop,(∀y d g,R y d g→ag P false I X0 (Dv P I tM Mu B (Nx R E) y) d g)∧R x d g
end
section
variable{P:Program}{I:World→Prop}{tM:TypeId}{Mu B:Nat}{K K':Lk→Nat→Goroutine→Prop}{E E':Nat→Goroutine→Prop}{x:Lk}{d:Nat}{g:Goroutine}
theorem Dv.mono(h:Dv P I tM Mu B K x d g)(hk:∀y d g,K y d g→K' y d g):Dv P I tM Mu B K' x d g:=by
 obtain ⟨h1,h2,h3,h4,h5⟩:=h
 refine ⟨h1,h2,h3,h4,fun w m q hi hm hf=>?_⟩
 rcases h5 w m q hi hm hf with h|⟨y,m',q',g',w',es,k1,k2,k3,k4,k5,k6,k7⟩
 ·exact .inl h
 ·exact .inr ⟨y,m',q',g',w',es,k1,k2,k3,k4,k5,k6,hk _ _ _ k7⟩
theorem Nx.mono{R R':Lk→Nat→Goroutine→Prop}(hr:∀y d g,R y d g→R' y d g)(he:∀d g,E d g→E' d g){y:Lk}(h:Nx R E y d g):Nx R' E' y d g:=by
 cases y<;>first|exact he _ _ h|exact hr _ _ _ h
theorem gG.out(h:gG P I tM Mu B E x d g):ag P false I X0 (Dv P I tM Mu B (Nx (gG P I tM Mu B E) E) x) d g:=by
 obtain ⟨R,h1,h2⟩:=h
 exact (h1 _ _ _ h2).mono fun d g k=>k.mono fun y d g x=>x.mono (fun y d g hr=>⟨R,h1,hr⟩) fun _ _ he=>he
theorem gG.exit(he:∀d g,E d g→E' d g)(h:gG P I tM Mu B E x d g):gG P I tM Mu B E' x d g:=by
 obtain ⟨R,h1,h2⟩:=h
 exact ⟨R,fun y d g hr=>(h1 y d g hr).mono fun d g k=>k.mono fun y d g x=>x.mono (fun _ _ _ z=>z) he,h2⟩
theorem gG.idle(h:ag P false I X0 (Dv P I tM Mu B (Nx (gG P I tM Mu B E) E) x) d g):gG P I tM Mu B E x d g:=
 ⟨fun y d g=>ag P false I X0 (Dv P I tM Mu B (Nx (gG P I tM Mu B E) E) y) d g,fun y d g hr=>hr.mono fun d g k=>k.mono fun y d g z=>z.mono (fun y d g hs=>hs.out) fun _ _ he=>he,h⟩
end
inductive WT where
 |work|IL (x:Lk)|en|ac|cr (v:dA)|rl|ds|Nu (x:Lk)|ue|fin (s:Nat)
def dW:WT→Lk
 | .work=>.out
 | .IL x | .Nu x=>x
 | .en | .ac | .cr _ | .rl | .ds=>.own
 | .ue | .fin _=>.done
def fH:WT→Nat
 | .fin s=>s
 |_=>8
def holds:WT→Prop
 | .cr _ | .rl=>True
 |_=>False
def early:WT→Prop
 | .work | .IL _ | .en | .ac | .cr _=>True
 |_=>False
def past:WT→Prop
 | .rl | .ds | .Nu _ | .ue | .fin _=>True
 |_=>False
def Zt:Lk→Prop
 | .l0 | .rd .. | .sq _ | .c1 _ | .c2 _ | .t1 _ | .s1 _ | .t2 | .r2 _ | .a1 .. =>True
 |_=>False
def isU:Lk→Prop
 | .own | .uc _ | .ux | .us=>True
 |_=>False
theorem Kz(T:Lo):Zt (hd T):=by unfold hd;split<;>trivial
theorem Mv.inL{m m':Wd}{q q':Nat}{x y:Lk}(h:Mv m q x m' q' y)(hx:Zt x):Zt y∨y = .own:=by
 cases h<;>first|exact .inr rfl|exact .inl (Kz _)|exact .inl trivial|(exact hx.elim)|skip
 ·rename_i hy;rcases hy with rfl|rfl<;>exact .inl trivial
 ·rename_i sv;cases sv<;>exact .inl trivial
theorem Mv.inU{m m':Wd}{q q':Nat}{x y:Lk}(h:Mv m q x m' q' y)(hx:isU x):isU y∨y = .done:=by
 cases h<;>first|exact .inr rfl|exact .inl trivial|(exact hx.elim)
def phase:WT→Prop
 | .IL x=>Zt x
 | .Nu x=>isU x
 |_=>True
def DF(m:Wd):WT→Nat
 | .work=>2000
 | .IL x=>1000+rk m x
 | .en=>900
 | .ac=>890
 | .cr _=>880
 | .rl=>870
 | .ds=>860
 | .Nu x=>500+rk m x
 | .ue=>400
 | .fin s=>s
structure Ph where
 P:Program
 L:WgLink
 tM:TypeId
 oe:Nat×Nat
 Wg:Nat
 Mu:Nat
 C:Nat
 B:Nat
 n:Nat
 n0:Nat
 f:Nat→dA→dA
 V:dA→Prop
 v0:dA
 locks:Nat→Bool
 Fin:(Nat→Prop)→(Nat→Prop)→Goroutine→World→Prop
namespace Ph
variable(p:Ph)
def I(w:World):Prop:=Lv p.L p.Wg w∧ahg p.tM p.Mu w
abbrev Lw(K:Lk→Nat→Goroutine→Prop)(x:Lk):Nat→Goroutine→Prop:=Dv p.P p.I p.tM p.Mu p.B K x
abbrev Ls(E:Nat→Goroutine→Prop)(x:Lk):Nat→Goroutine→Prop:=gG p.P p.I p.tM p.Mu p.B E x
def UeS(d:Nat)(g:Goroutine):Prop:=d=1∧Says p.P false p.I #[Go.ConcR.mk .enable] (ag p.P false (Lv p.L p.Wg) X0 (fQ p.P p.L p.Wg) 0) g
def UnE:Nat→Goroutine→Prop:=ag p.P false p.I X0 p.UeS
def DsS(d:Nat)(g:Goroutine):Prop:=d=0∧Says p.P false p.I #[Go.ConcR.mk .disable] (p.Ls p.UnE .own 1) g
def RlS(d:Nat)(g:Goroutine):Prop:=d=0∧Says p.P false p.I #[Go.ConcR.mk (.releaseMerge (stA p.Mu))] (ag p.P false p.I X0 p.DsS 0) g
def VH(i:Nat)(v:dA)(D:Nat→Prop)(d:Nat)(O:Nat→Prop)(g:Goroutine)(w:World):Prop:=
 d=0∧g.status = .running∧CellIs p.oe p.C (p.f i v) w∧∃(g':Goroutine) (es:Array Event),(∀w m q,p.I w→MuAt p.tM p.Mu w m q→stepG p.P false g w = .go g' w es)∧(∀e∈es,iM p.Mu e)∧deafBehind 0 es=0∧ag p.P false p.I X0 p.RlS 0 g'
def Pz(i:Nat)(O D:Nat→Prop)(w:World)(g:Goroutine):Prop:=
 ∀w' v,au O D w w' → p.V v→CellIs p.oe p.C v w' → ¬O p.C→¬D p.C→p.C < w'.heap.size→dM p.P false p.I X0 D (p.VH i v D) 0 (fun b=>O b∨b=p.C) g w'
def AcS(T:Goroutine→Prop)(d:Nat)(g:Goroutine):Prop:=d=0∧Says p.P false p.I #[Go.ConcR.mk (.acquire (stA p.Mu))] T g
def EnS(T:Goroutine→Prop)(d:Nat)(g:Goroutine):Prop:=d=1∧Says p.P false p.I #[Go.ConcR.mk .enable] (ag p.P false p.I X0 (p.AcS T) 0) g
def LkE(T:Goroutine→Prop):Nat→Goroutine→Prop:=ag p.P false p.I X0 (p.EnS T)
def Zu(i:Nat)(d:Nat)(g:Goroutine):Prop:=d=0∧p.locks i=false∧ag p.P false (Lv p.L p.Wg) X0 (fQ p.P p.L p.Wg) 0 g
def ahk(i:Nat)(D:Nat→Prop)(d:Nat)(O:Nat→Prop)(g:Goroutine)(w:World):Prop:=d=0∧p.locks i=true∧Says p.P false p.I #[Go.ConcR.mk .disable] (p.Ls (p.LkE (p.Pz i O D w)) .l0 1) g
def Wi(i:Nat)(D:Nat→Prop)(d:Nat)(O:Nat→Prop)(g:Goroutine)(w:World):Prop:=g.status = .running∧(p.ahk i D d O g w∨p.Zu i d g)
def vZ(i:Nat)(Nx:(Nat→Prop)→(Nat→Prop)→Goroutine→World→Prop)(D:Nat→Prop)(d:Nat)(O:Nat→Prop)(g:Goroutine)(w:World):Prop:=
 d=0∧g.status = .running∧∀w₁,au O D w w₁→p.I w₁→∃(g' child:Goroutine) (M H N:Nat→Prop),stepG p.P true g w₁ = .spawn g' child w₁ #[]∧(∀b,M b→O b)∧(∀b,H b→O b∧¬M b)∧(∀b,N b→D b∨M b) ∧
  dM p.P false p.I X0 N (p.Wi i N) 0 H child w₁∧Nx (fun b=>D b∨M b) (fun b=>O b∧¬M b∧¬H b) g' w₁
def mO(i:Nat)(Nx:(Nat→Prop)→(Nat→Prop)→Goroutine→World→Prop)(D:Nat→Prop)(d:Nat)(O:Nat→Prop)(g:Goroutine)(w:World):Prop:=
 d=1∧g.status = .running∧∀v:Nat,v < 2147483647→jX p.P true (Lv p.L p.Wg) (fun w=>WgAt p.L.tWg p.Wg w (v * KK) 0) (fun w=>w.setCell (stA p.Wg) (.int .u64 ((v+1) * KK))) #[rd (stA p.Wg),wr (stA p.Wg)]
  (fun g'=>∀w',au O D w w' → dM p.P true p.I (XM p.Wg) D (p.vZ i Nx D) 1 O g' w') g
def HY:Nat→(Nat→Prop)→(Nat→Prop)→Goroutine→World→Prop
 |0,D,O,g,w=>dM p.P true p.I (XM p.Wg) D (fU p.P p.L p.Wg p.Fin D) 0 O g w
 |r+1,D,O,g,w=>dM p.P true p.I (XM p.Wg) D (p.mO (p.n - (r+1)) (HY r) D) 0 O g w
def jY:dZ→Pos→Prop
 | .sp (r+1) 1,x=>dM p.P true p.I (XM p.Wg) x.D (p.mO (p.n - (r+1)) (p.HY r) x.D) x.d x.O x.g x.w
 | .sp (r+1) 0,x=>dM p.P true p.I (XM p.Wg) x.D (p.vZ (p.n - (r+1)) (p.HY r) x.D) x.d x.O x.g x.w
 | .sp 0 1,x=>dM p.P true p.I (XM p.Wg) x.D (fU p.P p.L p.Wg p.Fin x.D) x.d x.O x.g x.w
 | .sp _ _,_=>False
 | .w1 _ gT A,x=>Anch p.P p.L p.Wg gT A∧(∀w',au x.O x.D x.w w' → p.Fin x.D x.O gT w')∧ag p.P true (Lv p.L p.Wg) (XM p.Wg) (M1 p.P p.L p.Wg gT A) x.d x.g
 | .w2 v gT A,x=>Anch p.P p.L p.Wg gT A∧(∀w',au x.O x.D x.w w' → p.Fin x.D x.O gT w')∧ag p.P true (Lv p.L p.Wg) (XM p.Wg) (M2 p.P p.L p.Wg gT A v) x.d x.g
 | .w3 gT,x=>(∀w',au x.O x.D x.w w' → p.Fin x.D x.O gT w')∧ag p.P true (Lv p.L p.Wg) (XM p.Wg) (M3 p.P p.L p.Wg gT) x.d x.g
 | .w4 gT,x=>(∀w',au x.O x.D x.w w' → p.Fin x.D x.O gT w')∧ag p.P true (Lv p.L p.Wg) (XM p.Wg) (M4 p.P p.L p.Wg gT) x.d x.g
 | .acq gT,x=>(∀w',au x.O x.D x.w w' → p.Fin x.D x.O gT w')∧ag p.P true (Lv p.L p.Wg) (XM p.Wg) (KA p.P p.L p.Wg gT) x.d x.g
def Yi:dZ→Pos→Pos→Prop
 | .sp (r+1) 1=>Yj p.P true p.I fun D=>p.mO (p.n - (r+1)) (p.HY r) D
 | .sp (r+1) 0=>Yj p.P true p.I fun D=>p.vZ (p.n - (r+1)) (p.HY r) D
 | .sp 0 1=>Yj p.P true p.I fun D=>fU p.P p.L p.Wg p.Fin D
 | .sp _ _=>fun _ _=>False
 | .w1 _ gT A=>Gf p.P true (Lv p.L p.Wg) (M1 p.P p.L p.Wg gT A)
 | .w2 v gT A=>Gf p.P true (Lv p.L p.Wg) (M2 p.P p.L p.Wg gT A v)
 | .w3 gT=>Gf p.P true (Lv p.L p.Wg) (M3 p.P p.L p.Wg gT)
 | .w4 gT=>Gf p.P true (Lv p.L p.Wg) (M4 p.P p.L p.Wg gT)
 | .acq gT=>Gf p.P true (Lv p.L p.Wg) (KA p.P p.L p.Wg gT)
theorem PD:∀(s:dZ) (x:Pos),p.jY s x→Acc (p.Yi s) x:=by
 intro s x h
 cases s with
 |sp r s=>
  rcases r with _|r
  · rcases s with _|_|s
    ·exact h.elim
    ·exact dM.acc h
    ·exact h.elim
  · rcases s with _|_|s
    ·exact dM.acc h
    ·exact dM.acc h
    ·exact h.elim
 |w1 v gT A=>exact ag.acc h.2.2 x rfl rfl
 |w2 v gT A=>exact ag.acc h.2.2 x rfl rfl
 |w3 gT=>exact ag.acc h.2 x rfl rfl
 |w4 gT=>exact ag.acc h.2 x rfl rfl
 |acq gT=>exact ag.acc h.2 x rfl rfl
def St(i:Nat):WT→Pos→Nat→Goroutine→Prop
 | .IL y,x=>p.Lw (Nx (p.Ls (p.LkE (p.Pz i x.O x.D x.w))) (p.LkE (p.Pz i x.O x.D x.w))) y
 | .en,x=>p.EnS (p.Pz i x.O x.D x.w)
 | .ac,x=>p.AcS (p.Pz i x.O x.D x.w)
 | .rl,_=>p.RlS
 | .ds,_=>p.DsS
 | .Nu y,_=>p.Lw (Nx (p.Ls p.UnE) p.UnE) y
 | .ue,_=>p.UeS
 |_,_=>fun _ _=>False
def dh(i:Nat):WT→Pos→Prop
 | .work,x=>dM p.P false p.I X0 x.D (p.Wi i x.D) x.d x.O x.g x.w
 | .cr v,x=>dM p.P false p.I X0 x.D (p.VH i v x.D) x.d x.O x.g x.w
 | .fin 7,x=>ag p.P false (Lv p.L p.Wg) X0 (fQ p.P p.L p.Wg) x.d x.g
 | .fin 5,x=>ag p.P false (Lv p.L p.Wg) XD (zS p.P p.L p.Wg) x.d x.g
 | .fin 4,x=>ag p.P false (Lv p.L p.Wg) X0 (WLd p.P p.L p.Wg) x.d x.g
 | .fin 3,x=>ag p.P false (Lv p.L p.Wg) X0 (WSt p.P p.L p.Wg) x.d x.g
 | .fin 2,x=>ag p.P false (Lv p.L p.Wg) X0 (SK p.P p.L p.Wg) x.d x.g
 | .fin 1,x=>∃q,QuitsD p.P q x.d x.g
 | .fin _,_=>False
 |wt,x=>ag p.P false p.I X0 (p.St i wt x) x.d x.g
def VI(i:Nat):WT→Pos→Pos→Prop
 | .work=>Yj p.P false p.I fun D=>p.Wi i D
 | .cr v=>Yj p.P false p.I fun D=>p.VH i v D
 | .fin 7=>Gf p.P false (Lv p.L p.Wg) (fQ p.P p.L p.Wg)
 | .fin 5=>Gf p.P false (Lv p.L p.Wg) (zS p.P p.L p.Wg)
 | .fin 4=>Gf p.P false (Lv p.L p.Wg) (WLd p.P p.L p.Wg)
 | .fin 3=>Gf p.P false (Lv p.L p.Wg) (WSt p.P p.L p.Wg)
 | .fin 2=>Gf p.P false (Lv p.L p.Wg) (SK p.P p.L p.Wg)
 | .fin 1=>VJ p.P
 | .fin _=>fun _ _=>False
 |wt=>fun x' x=>x'.O=x.O∧x'.D=x.D∧x'.w=x.w∧Gf p.P false p.I (p.St i wt x) x' x
theorem vC{i:Nat}{wt:WT}{x:Pos}(h:ag p.P false p.I X0 (p.St i wt x) x.d x.g):Acc (fun x' x=>x'.O=x.O∧x'.D=x.D∧x'.w=x.w∧Gf p.P false p.I (p.St i wt x) x' x) x:=by
 have key:∀y,Acc (Gf p.P false p.I (p.St i wt x)) y→y.O=x.O→y.D=x.D→y.w=x.w→Acc (fun x' x=>x'.O=x.O∧x'.D=x.D∧x'.w=x.w∧Gf p.P false p.I (p.St i wt x) x' x) y:=by
  intro y hy
  induction hy with
  | intro y _ ih=>
    intro e1 e2 e3
    refine .intro _ fun z hz=>?_
    obtain ⟨h1,h2,h3,h4⟩:=hz
    have e:p.St i wt y=p.St i wt x:=by cases wt<;>simp only [St,e1,e2,e3]
    rw [e] at h4
    exact ih z h4 (h1.trans e1) (h2.trans e2) (h3.trans e3)
 exact key x (ag.acc h x rfl rfl) rfl rfl rfl
theorem PE(i:Nat):∀(s:WT) (x:Pos),p.dh i s x→Acc (p.VI i s) x:=by
 intro s x h
 match s,h with
 | .work,h=>exact dM.acc h
 | .cr v,h=>exact dM.acc h
 | .fin 7,h=>exact ag.acc h x rfl rfl
 | .fin 5,h=>exact ag.acc h x rfl rfl
 | .fin 4,h=>exact ag.acc h x rfl rfl
 | .fin 3,h=>exact ag.acc h x rfl rfl
 | .fin 2,h=>exact ag.acc h x rfl rfl
 | .fin 1,h=>obtain ⟨q,hq⟩:=h;exact tX q x hq
 | .fin 0,h=>exact h.elim
 | .fin 6,h=>exact h.elim
 | .fin (s+8),h=>exact h.elim
 | .IL y,h=>exact p.vC h
 | .en,h=>exact p.vC h
 | .ac,h=>exact p.vC h
 | .rl,h=>exact p.vC h
 | .ds,h=>exact p.vC h
 | .Nu y,h=>exact p.vC h
 | .ue,h=>exact p.vC h
end Ph
end Go.Mx
namespace Go.Mx
open Go.Ren
open Go.Conc hiding Goes
open Go.Conc.Lib Go.Conc.Locks Go.RowKit
open Go.ConcN (upd)
open Go.ConcR (KK stA smA rd wr DC0)
def Gg:Code→Option Code
 | .loop c=>some c
 | .seq x y=>match Gg x with|some c=>some c|none=>Gg y
 | .block _ c=>Gg c
 |_=>none
def SL:Code→Option Code
 | .seq (.block _ _) r=>some r
 | .seq _ y=>SL y
 |_=>none
def BC(L:ah):Code:=(kC L).body.getD .skip
def SN(L:ah):Code:=(Gg (BC L)).getD .skip
def SQ(L:ah):Code:=(SL (BC L)).getD .skip
end Go.Mx
