import Derived.Conc.MuLib
import Derived.Conc.CrowdBase
set_option linter.unusedVariables false
set_option linter.unusedSectionVars false
set_option linter.unusedSimpArgs false
namespace Go.Mx
open Go.Conc.Locks
structure MxLink where
 mu:MuLink
 canSpin:Nat
 doSpin:Nat
 throw:Nat
 nano:Nat
 semacq:Nat
 fatal:Nat
 semrel:Nat
 tPU32:Nat
 tUint:Nat
def lockSlowFn(L:MxLink):Func:=
 {name:= "(*internal/sync.Mutex).lockSlow",origin:= "",params:=#[L.mu.tPIMutex],resultTypes:=#[],nfree:=0,ntmps:=139,results:=#[],body:=some (.seq (.region 0 #[⟨some 2,.assign (.const (.int .i64 0)),2, "mutex.go:100",#[],none⟩] false) (.seq (.region 1 #[⟨some 3,.assign (.const (.bool false)),4, "mutex.go:101",#[],none⟩] false) (.seq (.region 2 #[⟨some 4,.assign (.const (.bool false)),4, "mutex.go:102",#[],none⟩] false) (.seq (.region 3 #[⟨some 5,.assign (.const (.int .i64 0)),3, "mutex.go:103",#[],none⟩] false) (.seq (.region 4 #[⟨some 10,.move (.tmp 0),L.mu.tPIMutex, "mutex.go:104",#[],none⟩,⟨some 11,.nilCheck (.tmp 10),0, "mutex.go:104",#[⟨0,.data⟩],none⟩,⟨some 12,.fieldAddr L.mu.tIMutex (.tmp 11) 0,0, "mutex.go:104",#[⟨1,.data⟩],none⟩,⟨some 13,.load 21 (.tmp 12),21, "mutex.go:104",#[⟨2,.data⟩],none⟩,⟨some 6,.assign (.tmp 13),21, "mutex.go:104",#[⟨3,.data⟩,⟨0,.phase⟩,⟨1,.phase⟩,⟨2,.phase⟩,⟨3,.phase⟩],none⟩] false) (.seq (.block 0 (.loop (.block 1 (.seq (.seq (.region 5 #[⟨some 14,.move (.tmp 6),21, "mutex.go:108",#[],none⟩,⟨some 15,.binOp .and 21 (.tmp 14) (.const (.int .i32 5)) 21,21, "mutex.go:108",#[⟨0,.data⟩],none⟩,⟨some 16,.binOp .eql 21 (.tmp 15) (.const (.int .i32 1)) 21,4, "mutex.go:108",#[⟨1,.data⟩],none⟩,⟨some 17,.move (.tmp 16),4, "mutex.go:108",#[⟨2,.data⟩],none⟩,⟨some 18,.move (.tmp 5),3, "mutex.go:108",#[⟨3,.guard⟩],some (3,true)⟩,⟨some 19,.call ⟨.value (.func L.canSpin),#[(.tmp 18)],#[3]⟩,4, "mutex.go:108",#[⟨4,.data⟩,⟨3,.chain⟩,⟨3,.guard⟩],some (3,true)⟩,⟨some 20,.pick (.tmp 17) (.tmp 19) (.const (.bool false)),4, "mutex.go:108",#[⟨3,.data⟩,⟨5,.data⟩],none⟩] false) (.cond (.tmp 20) (.seq (.seq (.region 6 #[⟨some 21,.move (.tmp 4),4, "mutex.go:112",#[],none⟩,⟨some 22,.unOp .not 4 (.tmp 21),4, "mutex.go:112",#[⟨0,.data⟩],none⟩,⟨some 23,.move (.tmp 22),4, "mutex.go:112",#[⟨1,.data⟩],none⟩,⟨some 24,.move (.tmp 6),21, "mutex.go:112",#[⟨2,.guard⟩],some (2,true)⟩,⟨some 25,.binOp .and 21 (.tmp 24) (.const (.int .i32 2)) 21,21, "mutex.go:112",#[⟨3,.data⟩,⟨2,.guard⟩],some (2,true)⟩,⟨some 26,.binOp .eql 21 (.tmp 25) (.const (.int .i32 0)) 21,4, "mutex.go:112",#[⟨4,.data⟩,⟨2,.guard⟩],some (2,true)⟩,⟨some 27,.pick (.tmp 23) (.tmp 26) (.const (.bool false)),4, "mutex.go:112",#[⟨2,.data⟩,⟨5,.data⟩],none⟩,⟨some 28,.move (.tmp 27),4, "mutex.go:112",#[⟨6,.data⟩,⟨2,.chain⟩],none⟩,⟨some 29,.move (.tmp 6),21, "mutex.go:112",#[⟨7,.guard⟩],some (7,true)⟩,⟨some 30,.binOp .shr 21 (.tmp 29) (.const (.int .u64 3)) L.tUint,21, "mutex.go:112",#[⟨8,.data⟩,⟨7,.guard⟩],some (7,true)⟩,⟨some 31,.binOp .neq 21 (.tmp 30) (.const (.int .i32 0)) 21,4, "mutex.go:112",#[⟨9,.data⟩,⟨7,.guard⟩],some (7,true)⟩,⟨some 32,.pick (.tmp 28) (.tmp 31) (.const (.bool false)),4, "mutex.go:112",#[⟨7,.data⟩,⟨10,.data⟩],none⟩,⟨some 33,.move (.tmp 32),4, "mutex.go:112",#[⟨11,.data⟩,⟨7,.chain⟩],none⟩,⟨some 34,.move (.tmp 0),L.mu.tPIMutex, "mutex.go:112",#[⟨12,.guard⟩],some (12,true)⟩,⟨some 35,.nilCheck (.tmp 34),0, "mutex.go:112",#[⟨13,.data⟩,⟨12,.guard⟩],some (12,true)⟩,⟨some 36,.fieldAddr L.mu.tIMutex (.tmp 35) 0,0, "mutex.go:112",#[⟨14,.data⟩,⟨12,.guard⟩],some (12,true)⟩,⟨some 37,.move (.tmp 6),21, "mutex.go:112",#[⟨12,.guard⟩],some (12,true)⟩,⟨some 38,.move (.tmp 6),21, "mutex.go:112",#[⟨12,.guard⟩],some (12,true)⟩,⟨some 39,.binOp .or 21 (.tmp 38) (.const (.int .i32 2)) 21,21, "mutex.go:112",#[⟨17,.data⟩,⟨12,.guard⟩],some (12,true)⟩,⟨some 40,.call ⟨.value (.func L.mu.cas32),#[(.tmp 36),(.tmp 37),(.tmp 39)],#[L.mu.tPI32,21,21]⟩,4, "mutex.go:113",#[⟨15,.data⟩,⟨16,.data⟩,⟨18,.data⟩,⟨12,.chain⟩,⟨12,.guard⟩],some (12,true)⟩,⟨some 41,.pick (.tmp 33) (.tmp 40) (.const (.bool false)),4, "mutex.go:112",#[⟨12,.data⟩,⟨19,.data⟩],none⟩] false) (.cond (.tmp 41) (.region 7 #[⟨some 4,.assign (.const (.bool true)),4, "mutex.go:114",#[],none⟩] false) .skip)) (.seq (.region 8 #[⟨some 42,.call ⟨.value (.func L.doSpin),#[],#[]⟩,0, "mutex.go:116",#[],none⟩] false) (.seq (.region 9 #[⟨some 43,.move (.tmp 5),3, "mutex.go:117",#[],none⟩,⟨some 44,.binOp .add 3 (.tmp 43) (.const (.int .i64 1)) 3,3, "mutex.go:117",#[⟨0,.data⟩],none⟩,⟨some 5,.assign (.tmp 44),3, "mutex.go:117",#[⟨1,.data⟩,⟨0,.phase⟩,⟨1,.phase⟩],none⟩] false) (.seq (.region 10 #[⟨some 45,.move (.tmp 0),L.mu.tPIMutex, "mutex.go:118",#[],none⟩,⟨some 46,.nilCheck (.tmp 45),0, "mutex.go:118",#[⟨0,.data⟩],none⟩,⟨some 47,.fieldAddr L.mu.tIMutex (.tmp 46) 0,0, "mutex.go:118",#[⟨1,.data⟩],none⟩,⟨some 48,.load 21 (.tmp 47),21, "mutex.go:118",#[⟨2,.data⟩],none⟩,⟨some 6,.assign (.tmp 48),21, "mutex.go:118",#[⟨3,.data⟩,⟨0,.phase⟩,⟨1,.phase⟩,⟨2,.phase⟩,⟨3,.phase⟩],none⟩] false) (.exit 1))))) .skip)) (.seq (.region 11 #[⟨some 49,.move (.tmp 6),21, "mutex.go:121",#[],none⟩,⟨some 7,.assign (.tmp 49),21, "mutex.go:121",#[⟨0,.data⟩,⟨0,.phase⟩],none⟩] false) (.seq (.seq (.region 12 #[⟨some 50,.move (.tmp 6),21, "mutex.go:123",#[],none⟩,⟨some 51,.binOp .and 21 (.tmp 50) (.const (.int .i32 4)) 21,21, "mutex.go:123",#[⟨0,.data⟩],none⟩,⟨some 52,.binOp .eql 21 (.tmp 51) (.const (.int .i32 0)) 21,4, "mutex.go:123",#[⟨1,.data⟩],none⟩] false) (.cond (.tmp 52) (.region 13 #[⟨some 53,.move (.tmp 7),21, "mutex.go:124",#[],none⟩,⟨some 54,.binOp .or 21 (.tmp 53) (.const (.int .i32 1)) 21,21, "mutex.go:124",#[⟨0,.data⟩],none⟩,⟨some 7,.assign (.tmp 54),21, "mutex.go:124",#[⟨1,.data⟩,⟨0,.phase⟩,⟨1,.phase⟩],none⟩] false) .skip)) (.seq (.seq (.region 14 #[⟨some 55,.move (.tmp 6),21, "mutex.go:126",#[],none⟩,⟨some 56,.binOp .and 21 (.tmp 55) (.const (.int .i32 5)) 21,21, "mutex.go:126",#[⟨0,.data⟩],none⟩,⟨some 57,.binOp .neq 21 (.tmp 56) (.const (.int .i32 0)) 21,4, "mutex.go:126",#[⟨1,.data⟩],none⟩] false) (.cond (.tmp 57) (.region 15 #[⟨some 58,.move (.tmp 7),21, "mutex.go:127",#[],none⟩,⟨some 59,.binOp .add 21 (.tmp 58) (.const (.int .i32 8)) 21,21, "mutex.go:127",#[⟨0,.data⟩],none⟩,⟨some 7,.assign (.tmp 59),21, "mutex.go:127",#[⟨1,.data⟩,⟨0,.phase⟩,⟨1,.phase⟩],none⟩] false) .skip)) (.seq (.seq (.region 16 #[⟨some 60,.move (.tmp 3),4, "mutex.go:133",#[],none⟩,⟨some 61,.move (.tmp 60),4, "mutex.go:133",#[⟨0,.data⟩],none⟩,⟨some 62,.move (.tmp 6),21, "mutex.go:133",#[⟨1,.guard⟩],some (1,true)⟩,⟨some 63,.binOp .and 21 (.tmp 62) (.const (.int .i32 1)) 21,21, "mutex.go:133",#[⟨2,.data⟩,⟨1,.guard⟩],some (1,true)⟩,⟨some 64,.binOp .neq 21 (.tmp 63) (.const (.int .i32 0)) 21,4, "mutex.go:133",#[⟨3,.data⟩,⟨1,.guard⟩],some (1,true)⟩,⟨some 65,.pick (.tmp 61) (.tmp 64) (.const (.bool false)),4, "mutex.go:133",#[⟨1,.data⟩,⟨4,.data⟩],none⟩] false) (.cond (.tmp 65) (.region 17 #[⟨some 66,.move (.tmp 7),21, "mutex.go:134",#[],none⟩,⟨some 67,.binOp .or 21 (.tmp 66) (.const (.int .i32 4)) 21,21, "mutex.go:134",#[⟨0,.data⟩],none⟩,⟨some 7,.assign (.tmp 67),21, "mutex.go:134",#[⟨1,.data⟩,⟨0,.phase⟩,⟨1,.phase⟩],none⟩] false) .skip)) (.seq (.seq (.region 18 #[⟨some 68,.move (.tmp 4),4, "mutex.go:136",#[],none⟩] false) (.cond (.tmp 68) (.seq (.seq (.region 19 #[⟨some 69,.move (.tmp 7),21, "mutex.go:139",#[],none⟩,⟨some 70,.binOp .and 21 (.tmp 69) (.const (.int .i32 2)) 21,21, "mutex.go:139",#[⟨0,.data⟩],none⟩,⟨some 71,.binOp .eql 21 (.tmp 70) (.const (.int .i32 0)) 21,4, "mutex.go:139",#[⟨1,.data⟩],none⟩] false) (.cond (.tmp 71) (.region 20 #[⟨some 72,.call ⟨.value (.func L.throw),#[(.const (.string ⟨⟨[115,121,110,99,58,32,105,110,99,111,110,115,105,115,116,101,110,116,32,109,117,116,101,120,32,115,116,97,116,101]⟩⟩))],#[9]⟩,0, "mutex.go:140",#[],none⟩] false) .skip)) (.region 21 #[⟨some 73,.move (.tmp 7),21, "mutex.go:142",#[],none⟩,⟨some 74,.binOp .andNot 21 (.tmp 73) (.const (.int .i32 2)) 21,21, "mutex.go:142",#[⟨0,.data⟩],none⟩,⟨some 7,.assign (.tmp 74),21, "mutex.go:142",#[⟨1,.data⟩,⟨0,.phase⟩,⟨1,.phase⟩],none⟩] false)) .skip)) (.seq (.region 22 #[⟨some 75,.move (.tmp 0),L.mu.tPIMutex, "mutex.go:144",#[],none⟩,⟨some 76,.nilCheck (.tmp 75),0, "mutex.go:144",#[⟨0,.data⟩],none⟩,⟨some 77,.fieldAddr L.mu.tIMutex (.tmp 76) 0,0, "mutex.go:144",#[⟨1,.data⟩],none⟩,⟨some 78,.move (.tmp 6),21, "mutex.go:144",#[],none⟩,⟨some 79,.move (.tmp 7),21, "mutex.go:144",#[],none⟩,⟨some 80,.call ⟨.value (.func L.mu.cas32),#[(.tmp 77),(.tmp 78),(.tmp 79)],#[L.mu.tPI32,21,21]⟩,4, "mutex.go:144",#[⟨2,.data⟩,⟨3,.data⟩,⟨4,.data⟩],none⟩] false) (.cond (.tmp 80) (.seq (.seq (.region 23 #[⟨some 81,.move (.tmp 6),21, "mutex.go:145",#[],none⟩,⟨some 82,.binOp .and 21 (.tmp 81) (.const (.int .i32 5)) 21,21, "mutex.go:145",#[⟨0,.data⟩],none⟩,⟨some 83,.binOp .eql 21 (.tmp 82) (.const (.int .i32 0)) 21,4, "mutex.go:145",#[⟨1,.data⟩],none⟩] false) (.cond (.tmp 83) (.exit 0) .skip)) (.seq (.region 24 #[⟨some 84,.move (.tmp 2),2, "mutex.go:149",#[],none⟩,⟨some 85,.binOp .neq 2 (.tmp 84) (.const (.int .i64 0)) 2,4, "mutex.go:149",#[⟨0,.data⟩],none⟩,⟨some 8,.assign (.tmp 85),4, "mutex.go:149",#[⟨1,.data⟩,⟨0,.phase⟩,⟨1,.phase⟩],none⟩] false) (.seq (.seq (.region 25 #[⟨some 86,.move (.tmp 2),2, "mutex.go:150",#[],none⟩,⟨some 87,.binOp .eql 2 (.tmp 86) (.const (.int .i64 0)) 2,4, "mutex.go:150",#[⟨0,.data⟩],none⟩] false) (.cond (.tmp 87) (.region 26 #[⟨some 88,.call ⟨.value (.func L.nano),#[],#[]⟩,2, "mutex.go:151",#[],none⟩,⟨some 2,.assign (.tmp 88),2, "mutex.go:151",#[⟨0,.data⟩,⟨0,.chain⟩,⟨0,.phase⟩],none⟩] false) .skip)) (.seq (.region 27 #[⟨some 89,.move (.tmp 0),L.mu.tPIMutex, "mutex.go:153",#[],none⟩,⟨some 90,.nilCheck (.tmp 89),0, "mutex.go:153",#[⟨0,.data⟩],none⟩,⟨some 91,.fieldAddr L.mu.tIMutex (.tmp 90) 1,0, "mutex.go:153",#[⟨1,.data⟩],none⟩,⟨some 92,.move (.tmp 8),4, "mutex.go:153",#[],none⟩,⟨some 93,.call ⟨.value (.func L.semacq),#[(.tmp 91),(.tmp 92),(.const (.int .i64 2))],#[L.tPU32,4,3]⟩,0, "mutex.go:153",#[⟨2,.data⟩,⟨3,.data⟩],none⟩] false) (.seq (.region 28 #[⟨some 94,.move (.tmp 3),4, "mutex.go:154",#[],none⟩,⟨some 95,.move (.tmp 94),4, "mutex.go:154",#[⟨0,.data⟩],none⟩,⟨some 96,.call ⟨.value (.func L.nano),#[],#[]⟩,2, "mutex.go:154",#[⟨1,.chain⟩,⟨1,.guard⟩],some (1,false)⟩,⟨some 97,.move (.tmp 2),2, "mutex.go:154",#[⟨1,.guard⟩],some (1,false)⟩,⟨some 98,.binOp .sub 2 (.tmp 96) (.tmp 97) 2,2, "mutex.go:154",#[⟨2,.data⟩,⟨3,.data⟩,⟨1,.guard⟩],some (1,false)⟩,⟨some 99,.binOp .gtr 2 (.tmp 98) (.const (.int .i64 1000000)) 2,4, "mutex.go:154",#[⟨4,.data⟩,⟨1,.guard⟩],some (1,false)⟩,⟨some 100,.pick (.tmp 95) (.const (.bool true)) (.tmp 99),4, "mutex.go:154",#[⟨1,.data⟩,⟨5,.data⟩],none⟩,⟨some 3,.assign (.tmp 100),4, "mutex.go:154",#[⟨6,.data⟩,⟨2,.chain⟩,⟨0,.phase⟩,⟨1,.phase⟩,⟨2,.phase⟩,⟨3,.phase⟩,⟨4,.phase⟩,⟨5,.phase⟩,⟨6,.phase⟩],none⟩] false) (.seq (.region 29 #[⟨some 101,.move (.tmp 0),L.mu.tPIMutex, "mutex.go:155",#[],none⟩,⟨some 102,.nilCheck (.tmp 101),0, "mutex.go:155",#[⟨0,.data⟩],none⟩,⟨some 103,.fieldAddr L.mu.tIMutex (.tmp 102) 0,0, "mutex.go:155",#[⟨1,.data⟩],none⟩,⟨some 104,.load 21 (.tmp 103),21, "mutex.go:155",#[⟨2,.data⟩],none⟩,⟨some 6,.assign (.tmp 104),21, "mutex.go:155",#[⟨3,.data⟩,⟨0,.phase⟩,⟨1,.phase⟩,⟨2,.phase⟩,⟨3,.phase⟩],none⟩] false) (.seq (.seq (.region 30 #[⟨some 105,.move (.tmp 6),21, "mutex.go:156",#[],none⟩,⟨some 106,.binOp .and 21 (.tmp 105) (.const (.int .i32 4)) 21,21, "mutex.go:156",#[⟨0,.data⟩],none⟩,⟨some 107,.binOp .neq 21 (.tmp 106) (.const (.int .i32 0)) 21,4, "mutex.go:156",#[⟨1,.data⟩],none⟩] false) (.cond (.tmp 107) (.seq (.seq (.region 31 #[⟨some 108,.move (.tmp 6),21, "mutex.go:161",#[],none⟩,⟨some 109,.binOp .and 21 (.tmp 108) (.const (.int .i32 3)) 21,21, "mutex.go:161",#[⟨0,.data⟩],none⟩,⟨some 110,.binOp .neq 21 (.tmp 109) (.const (.int .i32 0)) 21,4, "mutex.go:161",#[⟨1,.data⟩],none⟩,⟨some 111,.move (.tmp 110),4, "mutex.go:161",#[⟨2,.data⟩],none⟩,⟨some 112,.move (.tmp 6),21, "mutex.go:161",#[⟨3,.guard⟩],some (3,false)⟩,⟨some 113,.binOp .shr 21 (.tmp 112) (.const (.int .u64 3)) L.tUint,21, "mutex.go:161",#[⟨4,.data⟩,⟨3,.guard⟩],some (3,false)⟩,⟨some 114,.binOp .eql 21 (.tmp 113) (.const (.int .i32 0)) 21,4, "mutex.go:161",#[⟨5,.data⟩,⟨3,.guard⟩],some (3,false)⟩,⟨some 115,.pick (.tmp 111) (.const (.bool true)) (.tmp 114),4, "mutex.go:161",#[⟨3,.data⟩,⟨6,.data⟩],none⟩] false) (.cond (.tmp 115) (.region 32 #[⟨some 116,.call ⟨.value (.func L.throw),#[(.const (.string ⟨⟨[115,121,110,99,58,32,105,110,99,111,110,115,105,115,116,101,110,116,32,109,117,116,101,120,32,115,116,97,116,101]⟩⟩))],#[9]⟩,0, "mutex.go:162",#[],none⟩] false) .skip)) (.seq (.region 33 #[⟨some 9,.assign (.const (.int .i32 (-7))),21, "mutex.go:164",#[],none⟩] false) (.seq (.seq (.region 34 #[⟨some 117,.move (.tmp 3),4, "mutex.go:165",#[],none⟩,⟨some 118,.unOp .not 4 (.tmp 117),4, "mutex.go:165",#[⟨0,.data⟩],none⟩,⟨some 119,.move (.tmp 118),4, "mutex.go:165",#[⟨1,.data⟩],none⟩,⟨some 120,.move (.tmp 6),21, "mutex.go:165",#[⟨2,.guard⟩],some (2,false)⟩,⟨some 121,.binOp .shr 21 (.tmp 120) (.const (.int .u64 3)) L.tUint,21, "mutex.go:165",#[⟨3,.data⟩,⟨2,.guard⟩],some (2,false)⟩,⟨some 122,.binOp .eql 21 (.tmp 121) (.const (.int .i32 1)) 21,4, "mutex.go:165",#[⟨4,.data⟩,⟨2,.guard⟩],some (2,false)⟩,⟨some 123,.pick (.tmp 119) (.const (.bool true)) (.tmp 122),4, "mutex.go:165",#[⟨2,.data⟩,⟨5,.data⟩],none⟩] false) (.cond (.tmp 123) (.region 35 #[⟨some 124,.move (.tmp 9),21, "mutex.go:171",#[],none⟩,⟨some 125,.binOp .sub 21 (.tmp 124) (.const (.int .i32 4)) 21,21, "mutex.go:171",#[⟨0,.data⟩],none⟩,⟨some 9,.assign (.tmp 125),21, "mutex.go:171",#[⟨1,.data⟩,⟨0,.phase⟩,⟨1,.phase⟩],none⟩] false) .skip)) (.seq (.region 36 #[⟨some 126,.move (.tmp 0),L.mu.tPIMutex, "mutex.go:173",#[],none⟩,⟨some 127,.nilCheck (.tmp 126),0, "mutex.go:173",#[⟨0,.data⟩],none⟩,⟨some 128,.fieldAddr L.mu.tIMutex (.tmp 127) 0,0, "mutex.go:173",#[⟨1,.data⟩],none⟩,⟨some 129,.move (.tmp 9),21, "mutex.go:173",#[],none⟩,⟨some 130,.call ⟨.value (.func L.mu.add32),#[(.tmp 128),(.tmp 129)],#[L.mu.tPI32,21]⟩,21, "mutex.go:173",#[⟨2,.data⟩,⟨3,.data⟩],none⟩] false) (.exit 0))))) .skip)) (.seq (.region 37 #[⟨some 4,.assign (.const (.bool true)),4, "mutex.go:176",#[],none⟩] false) (.region 38 #[⟨some 5,.assign (.const (.int .i64 0)),3, "mutex.go:177",#[],none⟩] false))))))))) (.region 39 #[⟨some 131,.move (.tmp 0),L.mu.tPIMutex, "mutex.go:179",#[],none⟩,⟨some 132,.nilCheck (.tmp 131),0, "mutex.go:179",#[⟨0,.data⟩],none⟩,⟨some 133,.fieldAddr L.mu.tIMutex (.tmp 132) 0,0, "mutex.go:179",#[⟨1,.data⟩],none⟩,⟨some 134,.load 21 (.tmp 133),21, "mutex.go:179",#[⟨2,.data⟩],none⟩,⟨some 6,.assign (.tmp 134),21, "mutex.go:179",#[⟨3,.data⟩,⟨0,.phase⟩,⟨1,.phase⟩,⟨2,.phase⟩,⟨3,.phase⟩],none⟩] false)))))))))))) (.cond (.const (.bool true)) (.seq (.region 40 #[⟨some 135,.call ⟨.value (.func L.mu.enable),#[],#[]⟩,0, "mutex.go:184",#[],none⟩] false) (.region 41 #[⟨some 136,.move (.tmp 0),L.mu.tPIMutex, "mutex.go:184",#[],none⟩,⟨some 137,.convert L.mu.tPIMutex L.mu.tUP (.tmp 136),L.mu.tUP, "mutex.go:184",#[⟨0,.data⟩],none⟩,⟨some 138,.call ⟨.value (.func L.mu.acquire),#[(.tmp 137)],#[L.mu.tUP]⟩,0, "mutex.go:184",#[⟨1,.data⟩],none⟩] false)) .skip))))))),norace:=true,ours:=true,file:= "internal/sync/mutex.go",endLine:=186,tmpNames:=#["m", "m", "waitStartTime", "starving", "awoke", "iter", "old", "new", "queueLifo", "delta", "", "", "", "", "", "", "", "", "", "", "", "", "", "", "", "", "", "", "", "", "", "", "", "", "", "", "", "", "", "", "", "", "", "", "", "", "", "", "", "", "", "", "", "", "", "", "", "", "", "", "", "", "", "", "", "", "", "", "", "", "", "", "", "", "", "", "", "", "", "", "", "", "", "", "", "", "", "", "", "", "", "", "", "", "", "", "", "", "", "", "", "", "", "", "", "", "", "", "", "", "", "", "", "", "", "", "", "", "", "", "", "", "", "", "", "", "", "", "", "", "", "", "", "", "", "", "", "", ""] }
def unlockSlowFn(L:MxLink):Func:=
 {name:= "(*internal/sync.Mutex).unlockSlow",origin:= "",params:=#[L.mu.tPIMutex,21],resultTypes:=#[],nfree:=0,ntmps:=43,results:=#[],body:=some (.seq (.seq (.region 0 #[⟨some 5,.move (.tmp 1),21, "mutex.go:209",#[],none⟩,⟨some 6,.binOp .add 21 (.tmp 5) (.const (.int .i32 1)) 21,21, "mutex.go:209",#[⟨0,.data⟩],none⟩,⟨some 7,.binOp .and 21 (.tmp 6) (.const (.int .i32 1)) 21,21, "mutex.go:209",#[⟨1,.data⟩],none⟩,⟨some 8,.binOp .eql 21 (.tmp 7) (.const (.int .i32 0)) 21,4, "mutex.go:209",#[⟨2,.data⟩],none⟩] false) (.cond (.tmp 8) (.region 1 #[⟨some 9,.call ⟨.value (.func L.fatal),#[(.const (.string ⟨⟨[115,121,110,99,58,32,117,110,108,111,99,107,32,111,102,32,117,110,108,111,99,107,101,100,32,109,117,116,101,120]⟩⟩))],#[9]⟩,0, "mutex.go:210",#[],none⟩] false) .skip)) (.seq (.region 2 #[⟨some 10,.move (.tmp 1),21, "mutex.go:212",#[],none⟩,⟨some 11,.binOp .and 21 (.tmp 10) (.const (.int .i32 4)) 21,21, "mutex.go:212",#[⟨0,.data⟩],none⟩,⟨some 12,.binOp .eql 21 (.tmp 11) (.const (.int .i32 0)) 21,4, "mutex.go:212",#[⟨1,.data⟩],none⟩] false) (.cond (.tmp 12) (.seq (.region 3 #[⟨some 13,.move (.tmp 1),21, "mutex.go:213",#[],none⟩,⟨some 4,.assign (.tmp 13),21, "mutex.go:213",#[⟨0,.data⟩,⟨0,.phase⟩],none⟩] false) (.block 0 (.loop (.block 1 (.seq (.seq (.region 4 #[⟨some 14,.move (.tmp 4),21, "mutex.go:221",#[],none⟩,⟨some 15,.binOp .shr 21 (.tmp 14) (.const (.int .u64 3)) L.tUint,21, "mutex.go:221",#[⟨0,.data⟩],none⟩,⟨some 16,.binOp .eql 21 (.tmp 15) (.const (.int .i32 0)) 21,4, "mutex.go:221",#[⟨1,.data⟩],none⟩,⟨some 17,.move (.tmp 16),4, "mutex.go:221",#[⟨2,.data⟩],none⟩,⟨some 18,.move (.tmp 4),21, "mutex.go:221",#[⟨3,.guard⟩],some (3,false)⟩,⟨some 19,.binOp .and 21 (.tmp 18) (.const (.int .i32 7)) 21,21, "mutex.go:221",#[⟨4,.data⟩,⟨3,.guard⟩],some (3,false)⟩,⟨some 20,.binOp .neq 21 (.tmp 19) (.const (.int .i32 0)) 21,4, "mutex.go:221",#[⟨5,.data⟩,⟨3,.guard⟩],some (3,false)⟩,⟨some 21,.pick (.tmp 17) (.const (.bool true)) (.tmp 20),4, "mutex.go:221",#[⟨3,.data⟩,⟨6,.data⟩],none⟩] false) (.cond (.tmp 21) .ret .skip)) (.seq (.region 5 #[⟨some 22,.move (.tmp 4),21, "mutex.go:225",#[],none⟩,⟨some 23,.binOp .sub 21 (.tmp 22) (.const (.int .i32 8)) 21,21, "mutex.go:225",#[⟨0,.data⟩],none⟩,⟨some 24,.binOp .or 21 (.tmp 23) (.const (.int .i32 2)) 21,21, "mutex.go:225",#[⟨1,.data⟩],none⟩,⟨some 1,.assign (.tmp 24),21, "mutex.go:225",#[⟨2,.data⟩,⟨0,.phase⟩,⟨1,.phase⟩,⟨2,.phase⟩],none⟩] false) (.seq (.seq (.region 6 #[⟨some 25,.move (.tmp 0),L.mu.tPIMutex, "mutex.go:226",#[],none⟩,⟨some 26,.nilCheck (.tmp 25),0, "mutex.go:226",#[⟨0,.data⟩],none⟩,⟨some 27,.fieldAddr L.mu.tIMutex (.tmp 26) 0,0, "mutex.go:226",#[⟨1,.data⟩],none⟩,⟨some 28,.move (.tmp 4),21, "mutex.go:226",#[],none⟩,⟨some 29,.move (.tmp 1),21, "mutex.go:226",#[],none⟩,⟨some 30,.call ⟨.value (.func L.mu.cas32),#[(.tmp 27),(.tmp 28),(.tmp 29)],#[L.mu.tPI32,21,21]⟩,4, "mutex.go:226",#[⟨2,.data⟩,⟨3,.data⟩,⟨4,.data⟩],none⟩] false) (.cond (.tmp 30) (.seq (.region 7 #[⟨some 31,.move (.tmp 0),L.mu.tPIMutex, "mutex.go:227",#[],none⟩,⟨some 32,.nilCheck (.tmp 31),0, "mutex.go:227",#[⟨0,.data⟩],none⟩,⟨some 33,.fieldAddr L.mu.tIMutex (.tmp 32) 1,0, "mutex.go:227",#[⟨1,.data⟩],none⟩,⟨some 34,.call ⟨.value (.func L.semrel),#[(.tmp 33),(.const (.bool false)),(.const (.int .i64 2))],#[L.tPU32,4,3]⟩,0, "mutex.go:227",#[⟨2,.data⟩],none⟩] false) .ret) .skip)) (.region 8 #[⟨some 35,.move (.tmp 0),L.mu.tPIMutex, "mutex.go:230",#[],none⟩,⟨some 36,.nilCheck (.tmp 35),0, "mutex.go:230",#[⟨0,.data⟩],none⟩,⟨some 37,.fieldAddr L.mu.tIMutex (.tmp 36) 0,0, "mutex.go:230",#[⟨1,.data⟩],none⟩,⟨some 38,.load 21 (.tmp 37),21, "mutex.go:230",#[⟨2,.data⟩],none⟩,⟨some 4,.assign (.tmp 38),21, "mutex.go:230",#[⟨3,.data⟩,⟨0,.phase⟩,⟨1,.phase⟩,⟨2,.phase⟩,⟨3,.phase⟩],none⟩] false)))))))) (.region 9 #[⟨some 39,.move (.tmp 0),L.mu.tPIMutex, "mutex.go:238",#[],none⟩,⟨some 40,.nilCheck (.tmp 39),0, "mutex.go:238",#[⟨0,.data⟩],none⟩,⟨some 41,.fieldAddr L.mu.tIMutex (.tmp 40) 1,0, "mutex.go:238",#[⟨1,.data⟩],none⟩,⟨some 42,.call ⟨.value (.func L.semrel),#[(.tmp 41),(.const (.bool true)),(.const (.int .i64 2))],#[L.tPU32,4,3]⟩,0, "mutex.go:238",#[⟨2,.data⟩],none⟩] false)))),norace:=true,ours:=true,file:= "internal/sync/mutex.go",endLine:=240,tmpNames:=#["m", "new", "m", "new", "old", "", "", "", "", "", "", "", "", "", "", "", "", "", "", "", "", "", "", "", "", "", "", "", "", "", "", "", "", "", "", "", "", "", "", "", "", "", ""] }
def canSpinFn(L:MxLink):Func:=
 {name:= "internal/sync.runtime_canSpin",origin:= "",params:=#[3],resultTypes:=#[4],nfree:=0,ntmps:=1,results:=#[],body:=none,norace:=true,file:= "internal/sync/runtime.go",endLine:=0,tmpNames:=#[] }
def doSpinFn(L:MxLink):Func:=
 {name:= "internal/sync.runtime_doSpin",origin:= "",params:=#[],resultTypes:=#[],nfree:=0,ntmps:=0,results:=#[],body:=none,norace:=true,file:= "internal/sync/runtime.go",endLine:=0,tmpNames:=#[] }
def throwFn(L:MxLink):Func:=
 {name:= "internal/sync.throw",origin:= "",params:=#[9],resultTypes:=#[],nfree:=0,ntmps:=1,results:=#[],body:=none,norace:=true,file:= "internal/sync/runtime.go",endLine:=0,tmpNames:=#[] }
def nanoFn(L:MxLink):Func:=
 {name:= "internal/sync.runtime_nanotime",origin:= "",params:=#[],resultTypes:=#[2],nfree:=0,ntmps:=0,results:=#[],body:=none,norace:=true,file:= "internal/sync/runtime.go",endLine:=0,tmpNames:=#[] }
def semacqFn(L:MxLink):Func:=
 {name:= "internal/sync.runtime_SemacquireMutex",origin:= "",params:=#[L.tPU32,4,3],resultTypes:=#[],nfree:=0,ntmps:=3,results:=#[],body:=none,norace:=true,file:= "internal/sync/runtime.go",endLine:=0,tmpNames:=#[] }
def fatalFn(L:MxLink):Func:=
 {name:= "internal/sync.fatal",origin:= "",params:=#[9],resultTypes:=#[],nfree:=0,ntmps:=1,results:=#[],body:=none,norace:=true,file:= "internal/sync/runtime.go",endLine:=0,tmpNames:=#[] }
def semrelFn(L:MxLink):Func:=
 {name:= "internal/sync.runtime_Semrelease",origin:= "",params:=#[L.tPU32,4,3],resultTypes:=#[],nfree:=0,ntmps:=3,results:=#[],body:=none,norace:=true,file:= "internal/sync/runtime.go",endLine:=0,tmpNames:=#[] }
structure MxLib(P:Program)(L:MxLink):Prop where
 lib:MuLib P L.mu
 f_lockSlow:P.funcs[L.mu.lockSlow]? = some (lockSlowFn L)
 f_unlockSlow:P.funcs[L.mu.unlockSlow]? = some (unlockSlowFn L)
 f_canSpin:P.funcs[L.canSpin]? = some (canSpinFn L)
 f_doSpin:P.funcs[L.doSpin]? = some (doSpinFn L)
 f_throw:P.funcs[L.throw]? = some (throwFn L)
 f_nano:P.funcs[L.nano]? = some (nanoFn L)
 f_semacq:P.funcs[L.semacq]? = some (semacqFn L)
 f_fatal:P.funcs[L.fatal]? = some (fatalFn L)
 f_semrel:P.funcs[L.semrel]? = some (semrelFn L)
 runUnderlying_tPU32:∀(w:World),Sem.run P (underlying L.tPU32) w=Result.ok (TypeDesc.pointer L.mu.tU32) w
 sizeOf_tU32:∀(w:World),Sem.run P (Go.sizeOf L.mu.tU32) w=Result.ok 1 w
 isAgg_tU32:∀(w:World),Sem.run P (isAgg L.mu.tU32) w=Result.ok false w
 runUnderlying_tU32:∀(w:World),Sem.run P (underlying L.mu.tU32) w=Result.ok (TypeDesc.int IntKind.u32) w
 runUnderlying_t2:∀(w:World),Sem.run P (underlying 2) w=Result.ok (TypeDesc.int IntKind.i64) w
 runUnderlying_t3:∀(w:World),Sem.run P (underlying 3) w=Result.ok (TypeDesc.int IntKind.i64) w
 runUnderlying_t4:∀(w:World),Sem.run P (underlying 4) w=Result.ok TypeDesc.bool w
end Go.Mx
namespace Go.Mx
open Go.ConcN (sumTo upd upd_same upd_ne sumTo_upd le_sumTo sumTo_le sumTo_congr)
structure Wd where
 L:Nat
 W:Nat
 S:Nat
 n:Nat
 deriving DecidableEq
def Wd.num(m:Wd):Nat:=m.L+2 * m.W+4 * m.S+8 * m.n
structure Wd.Bits(m:Wd):Prop where
 L:m.L≤1
 W:m.W≤1
 S:m.S≤1
theorem Wd.inj{a b:Wd}(ha:a.Bits)(hb:b.Bits)(h:a.num=b.num):a=b:=by
 obtain ⟨a1,a2,a3,a4⟩:=a
 obtain ⟨b1,b2,b3,b4⟩:=b
 obtain ⟨h1,h2,h3⟩:=ha
 obtain ⟨k1,k2,k3⟩:=hb
 simp only [Wd.num] at h h1 h2 h3 k1 k2 k3
 simp only [Wd.mk.injEq]
 omega
structure Lo where
 old:Wd
 aw:Bool
 sv:Bool
 it:Nat
inductive Lk where
 |out|l0|rd (aw sv:Bool) (it:Nat)|sq (T:Lo)|c1 (T:Lo)|c2 (T:Lo)|t1 (sv:Bool)|s1 (sv:Bool)|t2|r2 (sv:Bool)|a1 (sv cl:Bool)
 |own|uc (old:Wd)|ux|us|done
def hd(T:Lo):Lk:=if T.old.L=1∧T.old.S=0 then .sq T else .c2 T
def bit(b:Bool):Nat:=if b then 1 else 0
def cO:Lk→Nat | .own=>1|_=>0
def cK:Lk→Nat | .rd aw _ _=>bit aw | .sq T=>bit T.aw | .c1 T=>bit T.aw | .c2 T=>bit T.aw|_=>0
def cT:Lk→Nat | .t2=>1 | .r2 _=>1|_=>0
def cU:Lk→Nat | .us=>1|_=>0
def cA:Lk→Nat | .a1 _ _=>1|_=>0
def cW:Lk→Nat | .t1 _=>1 | .s1 _=>1|_=>0
def seeks:Lk→Prop | .uc _=>True | .ux=>True|_=>False
def sm(φ:Lk→Nat)(j:Nat)(lk:Nat→Lk):Nat:=sumTo j fun i=>φ (lk i)
def WfT(B:Nat)(T:Lo):Prop:=T.old.Bits∧T.old.n≤B∧(T.sv=true→T.aw=true)∧(T.aw=true→T.old.W=1∧T.old.S=0)∧T.it≤4
def Wf(B:Nat)(m:Wd):Lk→Prop
 | .rd aw sv it=>(sv=true→aw=true)∧it≤4
 | .sq T=>WfT B T∧T.old.L=1∧T.old.S=0
 | .c1 T=>WfT B T∧T.old.L=1∧T.old.S=0∧T.old.W=0∧0 < T.old.n∧T.aw=false∧T.it < 4
 | .c2 T=>WfT B T
 | .a1 _ cl=>cl=false→2≤m.n
 | .uc o=>o.Bits∧o.L=0∧o.W=0∧o.S=0∧0 < o.n∧o.n≤B
 |_=>True
structure MI(B j:Nat)(lk:Nat→Lk)(m:Wd)(q:Nat):Prop where
 bits:m.Bits
 jB:j≤B
 own:sm cO j lk=m.L
 nor:m.S=0→sm cK j lk+sm cT j lk+sm cU j lk+q=m.W∧sm cA j lk=0∧m.n+sm cU j lk+q=sm cW j lk
 sta:m.S=1→m.W=0∧sm cK j lk=0∧m.L+sm cT j lk+sm cA j lk+sm cU j lk+q=1∧m.n=sm cW j lk+sm cT j lk+sm cA j lk∧1≤m.n
 prog:m.L=0→m.S=0→m.W=0→0 < m.n→∃i,i < j∧seeks (lk i)
 wf:∀i,i < j→Wf B m (lk i)
inductive Mv:Wd→Nat→Lk→Wd→Nat→Lk→Prop
 |enter {m q}:Mv m q .out m q .l0
 |l0f {m q} (h:m=⟨0,0,0,0⟩):Mv m q .l0 ⟨1,0,0,0⟩ q .own
 |l0s {m q} (h:m≠⟨0,0,0,0⟩):Mv m q .l0 m q (.rd false false 0)
 |rd {m q aw sv it}:Mv m q (.rd aw sv it) m q (hd ⟨m,aw,sv,it⟩)
 |sqn {m q T}:Mv m q (.sq T) m q (.c2 T)
 |sqc {m q T} (h:T.it < 4) (ha:T.aw=false∧T.old.W=0∧T.old.n≠0):Mv m q (.sq T) m q (.c1 T)
 |sqr {m q T} (h:T.it < 4) (ha:¬(T.aw=false∧T.old.W=0∧T.old.n≠0)):Mv m q (.sq T) m q (.rd T.aw T.sv (T.it+1))
 |c1y {m q T} (h:m=T.old):Mv m q (.c1 T) ⟨m.L,1,m.S,m.n⟩ q (.rd true T.sv (T.it+1))
 |c1n {m q T} (h:m≠T.old):Mv m q (.c1 T) m q (.rd false T.sv (T.it+1))
 |c2l {m q T} (h:m=T.old) (h1:m.L=0∧m.S=0):Mv m q (.c2 T) ⟨1,if T.aw then 0 else m.W,0,m.n⟩ q .own
 |c2q {m q T y} (h:m=T.old) (h1:¬(m.L=0∧m.S=0)) (hy:y = .t1 T.sv∨y = .s1 T.sv):Mv m q (.c2 T) ⟨m.L,if T.aw then 0 else m.W,if T.sv∧m.L=1 then 1 else m.S,m.n+1⟩ q y
 |c2n {m q T} (h:m≠T.old):Mv m q (.c2 T) m q (.rd T.aw T.sv T.it)
 |t1 {m q sv}:Mv m q (.t1 sv) m q (.s1 sv)
 |s1 {m q sv}:Mv m (q+1) (.s1 sv) m q (if sv then .r2 true else .t2)
 |t2 {m q b}:Mv m q .t2 m q (.r2 b)
 |r2n {m q sv} (h:m.S=0):Mv m q (.r2 sv) m q (hd ⟨m,true,sv,0⟩)
 |r2s {m q sv} (h:m.S=1):Mv m q (.r2 sv) m q (.a1 sv (!sv || decide (m.n=1)))
 |a1 {m q sv cl}:Mv m q (.a1 sv cl) ⟨1,m.W,if cl then 0 else m.S,m.n - 1⟩ q .own
 |u0d {m q} (h:m.S=0∧(m.W=1∨m.n=0)):Mv m q .own ⟨0,m.W,m.S,m.n⟩ q .done
 |u0c {m q} (h:m.S=0∧m.W=0∧0 < m.n):Mv m q .own ⟨0,m.W,m.S,m.n⟩ q (.uc ⟨0,m.W,m.S,m.n⟩)
 |u0s {m q} (h:m.S=1):Mv m q .own ⟨0,m.W,m.S,m.n⟩ q .us
 |ucy {m q o} (h:m=o):Mv m q (.uc o) ⟨m.L,1,m.S,m.n - 1⟩ q .us
 |ucn {m q o} (h:m≠o):Mv m q (.uc o) m q .ux
 |uxd {m q} (h:¬(m.L=0∧m.W=0∧m.S=0∧0 < m.n)):Mv m q .ux m q .done
 |uxc {m q} (h:m.L=0∧m.W=0∧m.S=0∧0 < m.n):Mv m q .ux m q (.uc m)
 |us {m q}:Mv m q .us m (q+1) .done
section
variable{B j q q':Nat}{lk:Nat→Lk}{m m':Wd}{i:Nat}{x y:Lk}
theorem sm_upd(φ:Lk→Nat)(y:Lk)(hi:i < j):sm φ j (upd lk i y)+φ (lk i)=sm φ j lk+φ y:=sumTo_upd lk y φ hi
theorem sm_le(φ:Lk→Nat)(hi:i < j):φ (lk i)≤sm φ j lk:=le_sumTo (f:=fun i=>φ (lk i)) hi
theorem sm_add(φ ψ:Lk→Nat)(j:Nat)(lk:Nat→Lk):sm (fun x=>φ x+ψ x) j lk=sm φ j lk+sm ψ j lk:=by
 unfold sm
 induction j with
 |zero=>rfl
 |succ j ih=>simp only [sumTo];rw [ih];omega
theorem sm_one{φ:Lk→Nat}(h:∀x,φ x≤1):sm φ j lk≤j:=by
 have:=sumTo_le (f:=fun i=>φ (lk i)) (c:=1) (j:=j) fun i _=>h _
 simpa [sm] using this
theorem MI.le(h:MI B j lk m q):m.n≤j:=by
 have h1:sm (fun x=>(cW x+cT x)+cA x) j lk≤j:=sm_one fun x=>by cases x<;>simp [cW,cT,cA]
 rw [sm_add (fun x=>cW x+cT x) cA,sm_add cW cT] at h1
 have hb:=h.bits.S
 rcases Nat.eq_zero_or_pos m.S with e|e
 ·have:=h.nor e;omega
 ·have:=h.sta (by omega);omega
theorem MI.mk'(h:MI B j lk m q)(hi:i < j)(bits:m'.Bits)
  (own:sm cO j (upd lk i y)=m'.L)
  (nor:m'.S=0→sm cK j (upd lk i y)+sm cT j (upd lk i y)+sm cU j (upd lk i y)+q' = m'.W∧sm cA j (upd lk i y)=0∧m'.n+sm cU j (upd lk i y)+q' = sm cW j (upd lk i y))
  (sta:m'.S=1→m'.W=0∧sm cK j (upd lk i y)=0∧m'.L+sm cT j (upd lk i y)+sm cA j (upd lk i y)+sm cU j (upd lk i y)+q' = 1∧m'.n=sm cW j (upd lk i y)+sm cT j (upd lk i y)+sm cA j (upd lk i y)∧1≤m'.n)
  (prog:m'.L=0→m'.S=0→m'.W=0→0 < m'.n→(seeks y∨(¬seeks (lk i)∧m.L=0∧m.S=0∧m.W=0∧0 < m.n)))
  (wfy:Wf B m' y) (wfo:m.n≤m'.n∨sm cA j lk=0∨1≤cA (lk i)) (ha:sm cA j lk≤1):MI B j (upd lk i y) m' q' :=by
 refine ⟨bits,h.jB,own,nor,sta,fun h1 h2 h3 h4=>?_,fun k hk=>?_⟩
 ·rcases prog h1 h2 h3 h4 with p|⟨p1,p2,p3,p4,p5⟩
  ·exact ⟨i,hi,by rw [upd_same];exact p⟩
  ·obtain ⟨k,hk,hs⟩:=h.prog p2 p3 p4 p5
   have hne:k≠i:=fun e=>p1 (e ▸ hs)
   exact ⟨k,hk,by rw [upd_ne lk y hne];exact hs⟩
 ·by_cases e:k=i
  ·subst e;rw [upd_same];exact wfy
  ·rw [upd_ne lk y e]
   have hw:=h.wf k hk
   revert hw
   cases hlk:lk k<;>simp only [Wf]<;>try exact id
   intro hw hc
   have hw:=hw hc
   rename_i sv cl
   have e1:=sm_upd (lk:=lk) cA .out hi
   have e2:=sm_le (lk:=upd lk i .out) cA hk
   rw [upd_ne lk .out e,hlk] at e2
   simp only [cA] at e1 e2
   rcases wfo with w|w|w
   · omega
   · omega
   · simp only [cA] at w;omega
theorem MI.a_le(h:MI B j lk m q):sm cA j lk≤1:=by
 have hb:=h.bits.S
 rcases Nat.eq_zero_or_pos m.S with e|e
 ·have:=h.nor e;omega
 ·have:=h.sta (by omega);omega
theorem wf_hd{T:Lo}(h:WfT B T):Wf B m (hd T):=by
 unfold hd
 split
 ·rename_i e;exact ⟨h,e⟩
 ·exact h
theorem c_hd(T:Lo):cO (hd T)=0∧cK (hd T)=bit T.aw∧cT (hd T)=0∧cU (hd T)=0∧cA (hd T)=0∧cW (hd T)=0:=by
 unfold hd;split<;>exact ⟨rfl,rfl,rfl,rfl,rfl,rfl⟩
end
end Go.Mx
