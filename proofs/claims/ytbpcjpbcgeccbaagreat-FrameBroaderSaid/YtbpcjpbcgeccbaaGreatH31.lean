import Derived.WideKeyArgs
import Derived.Test.YtbpcjpbcgeccbaaGreatRows
import Derived.ProofKit
import Derived.OpenShut
import Derived.Conc.HoldsTime
import Derived.Test.YtbpcjpbcgeccbaaGreatH30
set_option linter.unusedVariables false
set_option linter.unusedSectionVars false
set_option linter.unusedSimpArgs false
namespace Go.Am
open Go.Proofs
def JE:List (Int×Int×Int)→List Value
 | []=>[]
 |(h,l,u) :: r=>.int .i64 h :: .int .i64 l :: .int .i64 u :: JE r
abbrev i64:FK:=.int .i64
theorem fk1{e:List Value}{k:IntKind}(h:QE [.int k] e):∃a,e=[.int k a]∧(Lit.int k a).wf=true:=by
 obtain ⟨hl,h⟩:=h
 rcases e with _|⟨x,_|_⟩<;>simp at hl
 obtain ⟨v,h1,a,rfl,hw⟩:=h 0 _ rfl
 simp at h1
 exact ⟨a,by rw [h1],hw⟩
theorem fk3{e:List Value}(h:QE [i64,i64,i64] e):∃a b c,e=[.int .i64 a,.int .i64 b,.int .i64 c]:=by
 obtain ⟨hl,h⟩:=h
 rcases e with _|⟨x,_|⟨y,_|⟨z,_|_⟩⟩⟩<;>simp at hl
 obtain ⟨v,h1,a,rfl,_⟩:=h 0 _ rfl
 obtain ⟨w,h2,b,rfl,_⟩:=h 1 _ rfl
 obtain ⟨w,h3,c,rfl,_⟩:=h 2 _ rfl
 simp at h1 h2 h3
 exact ⟨a,b,c,by rw [h1,h2,h3]⟩
theorem fk4{e:List Value}(h:QE [i64,i64,i64,i64] e):∃a b c d,e=[.int .i64 a,.int .i64 b,.int .i64 c,.int .i64 d]:=by
 obtain ⟨hl,h⟩:=h
 rcases e with _|⟨x,_|⟨y,_|⟨z,_|⟨u,_|_⟩⟩⟩⟩<;>simp at hl
 obtain ⟨v,h1,a,rfl,_⟩:=h 0 _ rfl
 obtain ⟨w,h2,b,rfl,_⟩:=h 1 _ rfl
 obtain ⟨w,h3,c,rfl,_⟩:=h 2 _ rfl
 obtain ⟨w,h4,d,rfl,_⟩:=h 3 _ rfl
 simp at h1 h2 h3 h4
 exact ⟨a,b,c,d,by rw [h1,h2,h3,h4]⟩
theorem fkS{e:List Value}(h:QE [i64,i64,.bool] e):∃a b c,e=[.int .i64 a,.int .i64 b,.bool c]:=by
 obtain ⟨hl,h⟩:=h
 rcases e with _|⟨x,_|⟨y,_|⟨z,_|_⟩⟩⟩<;>simp at hl
 obtain ⟨v,h1,a,rfl,_⟩:=h 0 _ rfl
 obtain ⟨w,h2,b,rfl,_⟩:=h 1 _ rfl
 obtain ⟨w,h3,c,rfl⟩:=h 2 _ rfl
 simp at h1 h2 h3
 exact ⟨a,b,c,by rw [h1,h2,h3]⟩
theorem aft:∀els:List (List Value),(∀e∈els,QE [i64,i64,i64] e)→∃pts,els.flatten=JE pts∧pts.length=els.length
 | [],h=>⟨[],rfl,rfl⟩
 |e :: r,h=>by
  obtain ⟨a,b,c,rfl⟩:=fk3 (h e (.head _))
  obtain ⟨pts,h1,h2⟩:=aft r fun e he=>h e (.tail _ he)
  exact ⟨(a,b,c) :: pts,by rw [List.flatten_cons,h1];rfl,by simp [h2]⟩
theorem afu:∀els:List (List Value),(∀e∈els,QE [i64,i64,i64,i64] e)→∃jb,els.flatten=lX jb∧jb.length=els.length
 | [],h=>⟨[],rfl,rfl⟩
 |e :: r,h=>by
  obtain ⟨a,b,c,d,rfl⟩:=fk4 (h e (.head _))
  obtain ⟨pts,h1,h2⟩:=afu r fun e he=>h e (.tail _ he)
  exact ⟨(a,b,c,d) :: pts,by rw [List.flatten_cons,h1];rfl,by simp [h2]⟩
theorem afv:∀els:List (List Value),(∀e∈els,QE [i64,i64,.bool] e)→∃jc,els.flatten=encS jc∧jc.length=els.length
 | [],h=>⟨[],rfl,rfl⟩
 |e :: r,h=>by
  obtain ⟨a,b,c,rfl⟩:=fkS (h e (.head _))
  obtain ⟨pts,h1,h2⟩:=afv r fun e he=>h e (.tail _ he)
  exact ⟨(a,b,c) :: pts,by rw [List.flatten_cons,h1];rfl,by simp [h2]⟩
theorem aby:∀els:List (List Value),(∀e∈els,QE [.int .u16] e)→∃ks,els.flatten=jg ks∧ks.length=els.length∧∀n∈ks,0≤n∧n≤65535
 | [],h=>⟨[],rfl,rfl,fun n h=>absurd h List.not_mem_nil⟩
 |e :: r,h=>by
  obtain ⟨a,rfl,hw⟩:=fk1 (h e (.head _))
  obtain ⟨ks,h1,h2,h3⟩:=aby r fun e he=>h e (.tail _ he)
  refine ⟨a :: ks,by rw [List.flatten_cons,h1];rfl,by simp [h2],fun n hn=>?_⟩
  rcases List.mem_cons.1 hn with rfl|hn
  ·simpa [Lit.wf,IntKind.min,IntKind.max,IntKind.signed,IntKind.bits] using hw
  ·exact h3 n hn
theorem Dh:∀l,∀x∈JE l,Plain x
 | [],x,h=>absurd h List.not_mem_nil
 |(f,t,a) :: r,x,h=>by
  simp only [JE,List.mem_cons] at h
  rcases h with rfl|rfl|rfl|h
  iterate 3 exact .int _ _
  exact Dh r x h
section
variable{af height:Int}{ot os ok om:Option Addr}{cp ct cs ck cm:Nat}{jb:List (Int×Int×Int×Int)}{jc:List (Int×Int×Bool)}{ks ms:List Int}
theorem ajH(pts:List (Int×Int×Int))(hl:2≤pts.length∧pts.length≤5)(hot:nO 1 jb.length ot)(hos:nO 2 jc.length os)(hok:nO 3 ks.length ok)(Q5:nO 4 ms.length om)(hks:∀n∈ks,0≤n∧n≤65535)(hms:∀n∈ms,0≤n∧n≤65535)(hn:0≤height∧height≤65535) :
  bZ Tryz.prog (fun s=>gp (Tryz.X []) 3 5 s=true) ⟨aB.enter Tryz.prog 3 ⟨[bm af (some ⟨0,0,none⟩) pts.length cp ot jb.length ct os jc.length cs,.slice ok ks.length ck,.slice om ms.length cm,.int .u16 height]⟩,[],cu 5 (L5 ⟨JE pts⟩ ⟨lX jb⟩ ⟨encS jc⟩ ⟨jg ks⟩ ⟨jg ms⟩)⟩:=by
 match pts,hl with
 | [(h0,l0,u0),(h1,l1,u1)],_=>exact ajC hot hos hok Q5 hks hms hn
 | [(h0,l0,u0),(h1,l1,u1),(h2,l2,u2)],_=>exact ajD hot hos hok Q5 hks hms hn
 | [(h0,l0,u0),(h1,l1,u1),(h2,l2,u2),(h3,l3,u3)],_=>exact ajE hot hos hok Q5 hks hms hn
 | [(h0,l0,u0),(h1,l1,u1),(h2,l2,u2),(h3,l3,u3),(h4,l4,u4)],_=>exact ajF hot hos hok Q5 hks hms hn
end
theorem vM{W:World}{ks:List FK}{v:Value}{o:Option Addr}{n c b:Nat}{els:List (List Value)}(S:Sl W ks v o n c els):nO b n (slO b o):=by
 refine ⟨fun hn=>?_,fun a e=>?_⟩
 ·cases o with
  |none=>exact absurd (S.nil rfl) hn
  |some a=>rfl
 ·cases o with
  |none=>cases e
  |some a'=>cases e;rfl
theorem Vu{ρ:Env}:∀ {l m:List Value},LR (VR ρ) l m→AR (VR ρ) (⟨l⟩:Array Value) ⟨m⟩
 | [],[],_=>⟨rfl,fun i x y hx _=>by simp at hx⟩
 |a :: l,b :: m,.cons h k=>by
  obtain ⟨h1,h2⟩:=Vu k
  have hsz:l.length=m.length:=by simpa using h1
  refine ⟨by simp [hsz],fun i x y hx hy=>?_⟩
  cases i with
  |zero=>simp at hx hy;subst hx;subst hy;exact h
  |succ i=>exact h2 i x y (by simpa using hx) (by simpa using hy)
end Go.Am
namespace Go.Am
open Go.Proofs
open Go.Conc (G)
open Go.Ren (aC Keep full)
theorem abz{W:World}{ks:List FK}{v:Value}{o:Option Addr}{n c:Nat}{els:List (List Value)}{l:List Value}{d:Nat×Nat}(S:Sl W ks v o n c els)(hl:els.flatten=l)(hd:∃C E g,W.heap[d.1]? = some (.cells C E g)∧d.2≤C.size) :
  ∃C E,(∃g,W.heap[(uH d o).1]? = some (.cells C E g))∧(uH d o).2+(⟨l⟩:Array Value).size≤C.size∧∀(i:Nat) v,(⟨l⟩:Array Value)[i]? = some v→C[(uH d o).2+i]? = some v:=by
 subst hl
 cases o with
 |none=>
  have:els=[]:=List.eq_nil_of_length_eq_zero (S.len.trans (S.nil rfl))
  subst this
  obtain ⟨C,E,g,h1,h2⟩:=hd
  exact ⟨C,E,⟨g,h1⟩,by simpa [uH] using h2,fun i v hv=>by simp at hv⟩
 |some a=>
  obtain ⟨_,C,E,g,h1,h2,h3⟩:=S.lies a rfl
  exact ⟨C,E,⟨g,h1⟩,by simpa [uH] using h2,fun i v hv=>h3 i v (by simpa using hv)⟩
theorem uB{W:World}{ks:List FK}{v:Value}{o:Option Addr}{n c:Nat}{els:List (List Value)}{d:Nat×Nat}(S:Sl W ks v o n c els)(h:o≠none):(uH d o).1 < W.heap.size:=by
 cases o with
 |none=>exact absurd rfl h
 |some a=>
  obtain ⟨_,C,E,g,h1,_⟩:=S.lies a rfl
  exact (Array.getElem?_eq_some_iff.1 h1).1
def Y6(d:Nat×Nat)(o0 o1 o2 o3 o4:Option Addr)(b:Nat):Nat×Nat:=match b with
 |0=>uH d o0
 |1=>uH d o1
 |2=>uH d o2
 |3=>uH d o3
 |_=>uH d o4
theorem afw{pc tc sc kc mc:Array Value}{b:Nat}{B:cZ}(h:(cu 5 (L5 pc tc sc kc mc)).look b=some B):(b=0∧B=VL (bk pc))∨(b=1∧B=VL (bk tc))∨(b=2∧B=VL (bk sc))∨(b=3∧B=VL (bk kc))∨(b=4∧B=VL (bk mc)):=by
 have:=GM _ (fC h)
 simp only [L5,List.map_cons,List.map_nil,List.mem_cons,Prod.mk.injEq,List.not_mem_nil,or_false] at this
 exact this
theorem straight{W:World}{af height:Int}{v0 v1 v2 v3 v4:Value}{o0 o1 o2 o3 o4:Option Addr}{n0 n1 n2 n3 n4 c0 c1 c2 c3 c4:Nat}{e0 e1 e2 e3 e4:List (List Value)}(S0:Sl W [i64,i64,i64] v0 o0 n0 c0 e0)(S1:Sl W [i64,i64,i64,i64] v1 o1 n1 c1 e1)(S2:Sl W [i64,i64,.bool] v2 o2 n2 c2 e2)(S3:Sl W [.int .u16] v3 o3 n3 c3 e3)(S4:Sl W [.int .u16] v4 o4 n4 c4 e4)
  (hn:0≤height∧height≤65535) {Post:Value→World→Prop} {K:Machine→Trace→Prop} (Xe:GY Tryz.prog Tryz.link 5 (Go.Conc.Good Tryz.prog Post)) (hP:∀w',Keep (fun b=>b < W.heap.size) W w' → Post (.bool true) w') :
  aC Tryz.prog (Go.Conc.Good Tryz.prog Post) K (Go.Conc.solo (G (Frame.enter Tryz.prog 3 ⟨[.agg ⟨[.int .i64 af,v0,v1,v2]⟩,v3,v4,.int .u16 height]⟩ .normal) []) W) #[]:=by
 obtain ⟨pts,d0,l0⟩:=aft e0 S0.fk
 obtain ⟨jb,d1,l1⟩:=afu e1 S1.fk
 obtain ⟨jc,d2,l2⟩:=afv e2 S2.fk
 obtain ⟨ks,d3,l3,hks⟩:=aby e3 S3.fk
 obtain ⟨ms,d4,l4,hms⟩:=aby e4 S4.fk
 have m0:pts.length=n0:=l0.trans S0.len
 have m1:jb.length=n1:=l1.trans S1.len
 have m2:jc.length=n2:=l2.trans S2.len
 have m3:ks.length=n3:=l3.trans S3.len
 have m4:ms.length=n4:=l4.trans S4.len
 have args {ρ:Env} {d:Nat×Nat} (b0:o0≠none→ρ.born 0) (b1:o1≠none→ρ.born 1) (b2:o2≠none→ρ.born 2) (b3:o3≠none→ρ.born 3) (b4:o4≠none→ρ.born 4) (ht:ρ.to=Y6 d o0 o1 o2 o3 o4) :
   AR (VR ρ) (⟨[bm af (slO 0 o0) n0 c0 (slO 1 o1) n1 c1 (slO 2 o2) n2 c2,.slice (slO 3 o3) n3 c3,.slice (slO 4 o4) n4 c4,.int .u16 height]⟩:Array Value) ⟨[.agg ⟨[.int .i64 af,v0,v1,v2]⟩,v3,v4,.int .u16 height]⟩:=by
  have k:=Vu (ρ:=ρ) (.cons (.int .i64 af) (.cons (S0.vr (d:=d) b0 (by rw [ht];rfl)) (.cons (S1.vr (d:=d) b1 (by rw [ht];rfl)) (.cons (S2.vr (d:=d) b2 (by rw [ht];rfl)) .nil))))
  exact Vu (.cons (.agg k.1 k.2) (.cons (S3.vr (d:=d) b3 (by rw [ht];rfl)) (.cons (S4.vr (d:=d) b4 (by rw [ht];rfl)) (.cons (.int _ _) .nil))))
 have fin {ρ:Env} {hA:AH} (hr:Rel ρ (fun _=>False) (fun b=>b < W.heap.size) hA W) {av:Array Value} (ha:AR (VR ρ) av ⟨[.agg ⟨[.int .i64 af,v0,v1,v2]⟩,v3,v4,.int .u16 height]⟩)
   (R:bZ Tryz.prog (fun s=>gp (Tryz.X []) 3 5 s=true) ⟨aB.enter Tryz.prog 3 av,[],hA⟩):aC Tryz.prog (Go.Conc.Good Tryz.prog Post) K (Go.Conc.solo (G (Frame.enter Tryz.prog 3 ⟨[.agg ⟨[.int .i64 af,v0,v1,v2]⟩,v3,v4,.int .u16 height]⟩ .normal) []) W) #[]:=
  LZ (X:=Tryz.X []) (Tryz.ok dJ) R Xe (by kernel_rfl) (by kernel_rfl) hP (Sr.start hr ha)
 by_cases hnp:2≤n0∧n0≤5
 ·obtain ⟨a,rfl⟩:∃a,o0=some a:=by
   cases o0 with
   |none=>have:=S0.nil rfl;omega
   |some a=>exact ⟨a,rfl⟩
  have hd:∃C E g,W.heap[(a.block,a.off).1]? = some (.cells C E g)∧(a.block,a.off).2≤C.size:=by
   obtain ⟨_,C,E,g,h1,h2,_⟩:=S0.lies a rfl
   exact ⟨C,E,g,h1,by dsimp only;omega⟩
  have hlt:a.block < W.heap.size:=by
   obtain ⟨C,E,g,h1,_⟩:=hd
   exact (Array.getElem?_eq_some_iff.1 h1).1
  have lt (o:Option Addr) {ks:List FK} {v:Value} {n c:Nat} {els:List (List Value)} (S:Sl W ks v o n c els):(uH (a.block,a.off) o).1 < W.heap.size:=by
   cases o with
   |none=>exact hlt
   |some b=>exact uB S (by simp)
  have hlow:∀b,b < 5→(Y6 (a.block,a.off) (some a) o1 o2 o3 o4 b).1 < W.heap.size:=fun b hb=>by
   match b,hb with
   |0,_=>exact lt _ S0
   |1,_=>exact lt _ S1
   |2,_=>exact lt _ S2
   |3,_=>exact lt _ S3
   |4,_=>exact lt _ S4
  have hr:Rel (Xg (Y6 (a.block,a.off) (some a) o1 o2 o3 o4) (cu 5 (L5 ⟨JE pts⟩ ⟨lX jb⟩ ⟨encS jc⟩ ⟨jg ks⟩ ⟨jg ms⟩))) (fun _=>False) (fun b=>b < W.heap.size) (cu 5 (L5 ⟨JE pts⟩ ⟨lX jb⟩ ⟨encS jc⟩ ⟨jg ks⟩ ⟨jg ms⟩)) W:=by
   refine UK (fun b B hb=>?_) rfl hlow
   have one {o:Option Addr} {ks:List FK} {v:Value} {n c:Nat} {els:List (List Value)} {l:List Value} (S:Sl W ks v o n c els) (hl:els.flatten=l) (hp:∀x∈l,Plain x) :
     (VL (bk ⟨l⟩)).Q8∧∃c e f C E,(VL (bk ⟨l⟩)).obj = .cells c e f∧(∃g,W.heap[(uH (a.block,a.off) o).1]? = some (.cells C E g))∧(uH (a.block,a.off) o).2+c.size≤C.size∧∀(i:Nat) v,c[i]? = some v→C[(uH (a.block,a.off) o).2+i]? = some v∧Plain v:=by
    obtain ⟨C,E,h1,h2,h3⟩:=abz S hl hd
    exact ⟨⟨rfl,rfl,rfl⟩,⟨l⟩,_,_,C,E,rfl,h1,h2,fun i v hv=>⟨h3 i v hv,hp v (List.mem_of_getElem? (by simpa using hv))⟩⟩
   rcases afw hb with ⟨rfl,rfl⟩|⟨rfl,rfl⟩|⟨rfl,rfl⟩|⟨rfl,rfl⟩|⟨rfl,rfl⟩
   ·exact one S0 d0 (Dh _)
   ·exact one S1 d1 (iy _)
   ·exact one S2 d2 (iC _)
   ·exact one S3 d3 (di _)
   ·exact one S4 d4 (di _)
  have born:∀b,b < 5→(Xg (Y6 (a.block,a.off) (some a) o1 o2 o3 o4) (cu 5 (L5 ⟨JE pts⟩ ⟨lX jb⟩ ⟨encS jc⟩ ⟨jg ks⟩ ⟨jg ms⟩))).born b:=fun b hb=>hb
  refine fin hr (args (fun _=>born 0 (by decide)) (fun _=>born 1 (by decide)) (fun _=>born 2 (by decide)) (fun _=>born 3 (by decide)) (fun _=>born 4 (by decide)) rfl) ?_
  subst m0 m1 m2 m3 m4
  exact ajH pts hnp (vM S1) (vM S2) (vM S3) (vM S4) hks hms hn
 ·have hr:Rel { to:=Y6 (0,0) o0 o1 o2 o3 o4,born:=fun b=>b < 5∧(Y6 (0,0) o0 o1 o2 o3 o4 b).1 < W.heap.size,aV:=fun _=>False,u:=fun _=>0,ext:=fun _=>0 } (fun _=>False) (fun b=>b < W.heap.size) (cu 5 []) W:=by
   have nl:∀b B,(cu 5 []).look b=some B→False:=fun b B h=>by cases h
   exact ⟨fun b B _ _ _ _ hl=>(nl b B hl).elim,fun b B _ hl=>(nl b B hl).elim,fun b B _ hl=>(nl b B hl).elim,fun b _ B _ _ _ hl=>(nl b B hl).elim,fun b hb=>hb.1,fun b hb=>hb.2,fun b B _ hl=>(nl b B hl).elim,fun f l hf=>(by cases hf),fun f l hf=>(by cases hf)⟩
  refine fin hr (args (d:=(0,0)) (fun h=>⟨by decide,uB S0 h⟩) (fun h=>⟨by decide,uB S1 h⟩) (fun h=>⟨by decide,uB S2 h⟩) (fun h=>⟨by decide,uB S3 h⟩) (fun h=>⟨by decide,uB S4 h⟩) rfl) ?_
  exact ajG (b3:=0) hnp (vM S0) (vM S1) (vM S2)
end Go.Am
namespace Go.Am
def isStruct(P:Program)(t:TypeId):Bool:=match P.underlying t with
 |some (.struct _)=>true
 |_=>false
section
variable{H:Type}{enc:TypeId×Value→H}{P:Program}{W:World}{base:Nat}{spare:Nat→Bool}{held:Bool}
theorem QG{t:TypeId}{l:List (TypeId×Nat)}{ts:List TypeId}{n:Nat}{v:Value}{d:DataW H}{p:List MemPlace}{r:Reach}{b0:Nat}(hs:isStruct P t=true)(hf:fieldsOf P t=l)(hc:P.cellTypes P.depth t=some ts)(hn:P.cellsOf t=n)
  (hval:Value.okWide P W r b0 t v) (h:DataW.Trod enc P W base spare held t v d p) :
  ∃cs:List Value,v = .agg ⟨cs⟩∧cs.length=n∧(∀(i:Nat) x,cs[i]? = some x→∃u,ts[i % ts.length]? = some u∧Cell.okWide P W r b0 u x)∧∃fuel,∀q∈l,∃y,DataW.trod enc P W base spare held fuel q.1 ((cs.drop q.2).take (P.cellsOf q.1))=some y:=by
 unfold isStruct at hs
 split at hs
 ·rename_i fs ht
  unfold Value.okWide at hval
  rw [ht] at hval
  obtain ⟨cs,rfl,hsz,ts',h1,_,h2⟩:=hval
  rw [hc] at h1
  cases h1
  obtain ⟨fuel,h⟩:=h
  cases fuel with
  |zero=>unfold DataW.trod at h;cases h
  |succ k=>
   obtain ⟨cs⟩:=cs
   exact ⟨cs,rfl,by rw [←hn];simpa using hsz,fun i x hx=>h2 i x (by simpa using hx),k,fun q hq=>XT hf h hq⟩
 ·cases hs
theorem QH{W W':World}{p:MemPlace}(h:W'.heap[p.block]? = W.heap[p.block]?):W.sameAt W' p:=by
 cases p with
 |cell b off=>
  show W'.cell? ⟨b,off,none⟩=W.cell? ⟨b,off,none⟩
  unfold World.cell?
  have h:W'.heap[b]? = W.heap[b]? :=h
  rw [h]
 |map b=>exact h
theorem sF{t:TypeId}(hl:laidOutB P=true)(hr:P.readableRec t=true)(hrow:t < P.types.size){W':World}{v:Value}{d:DataW H}{ps:List MemPlace}
  (h:DataW.Trod enc P W base (fun _=>true) true t v d ps) (hlt:∀q∈ps,q.block < W.heap.size) (hk:∀b,b < W.heap.size→W'.heap[b]? = W.heap[b]?) :
  DataW.Trod enc P W' base (fun b=>decide (b < W.heap.size)) true t v d ps:=
 WideElems.Trod_stays hl hr hrow h (fun q hq=>QH (hk _ (hlt q hq))) (fun q hq=>decide_eq_true (hlt q hq))
end
end Go.Am
namespace Go.Proofs.YtbpcjpbcgeccbaaGreat
open Go.ChangeShapes Go.WideShapes Go.ChangeAt Go.RowKit
open Go.Ren (Keep)
theorem own:ownKnob Tryz.prog.godebug=Option.none:=by kernel_rfl
theorem kept{W w':World}(h:Keep (fun b=>b < W.heap.size) W w')(may:MemPlace→Prop):W.keptBut { w' with os:=W.os } may:=by
 refine ⟨rfl,h.2.2.2,fun i hi=>?_⟩
 show match W.heap[i]?,w'.heap[i]? with
  |some (.cells c t fr),some (.cells c' t' fr')=>t' = t∧fr' = fr∧c'.size=c.size∧∀j:Nat,¬may (.cell i j)→c'[j]? = c[j]?
  |some (.map es clock),some (.map es' clock')=>may (.map i)∨(es' = es∧clock' = clock)
  |o,o'=>o' = o
 rw [h.1 i hi]
 split<;>simp_all
theorem laidOut:laidOutB Tryz.prog=true:=by kernel_rfl
theorem ajI:Go.Am.isStruct Tryz.prog 26=true:=by kernel_rfl
theorem ajJ:Go.Am.fieldsOf Tryz.prog 26=[(3,0),(22,1),(23,2),(24,3)]:=by kernel_rfl
theorem ajK:Tryz.prog.cellTypes Tryz.prog.depth 26=some [3,22,23,24]:=by kernel_rfl
theorem ajL:Tryz.prog.cellsOf 26=4:=by kernel_rfl
theorem cz3:Tryz.prog.cellsOf 3=1:=by kernel_rfl
theorem ajM:Tryz.prog.cellsOf 22=1:=by kernel_rfl
theorem ajN:Tryz.prog.cellsOf 23=1:=by kernel_rfl
theorem ajO:Tryz.prog.cellsOf 24=1:=by kernel_rfl
theorem fl3:Go.Am.qO Tryz.prog 4 3=some [Go.Am.i64]:=by kernel_rfl
theorem ajP:Go.Am.qO Tryz.prog 4 77=some [Go.Am.i64,Go.Am.i64,Go.Am.i64]:=by kernel_rfl
theorem ajQ:Go.Am.qO Tryz.prog 4 70=some [Go.Am.i64,Go.Am.i64,Go.Am.i64,Go.Am.i64]:=by kernel_rfl
theorem ajR:Go.Am.qO Tryz.prog 4 65=some [Go.Am.i64,Go.Am.i64,.bool]:=by kernel_rfl
theorem afx:Go.Am.qO Tryz.prog 4 28=some [.int .u16]:=by kernel_rfl
set_option maxRecDepth 100000 in
theorem lifted(Xe:∀Post,Go.Am.GY Tryz.prog Go.Am.Tryz.link 5 (Go.Conc.Good Tryz.prog Post))(os:Os)(started:os.Started)(H:Type)(enc:TypeId×Value→H)(F:Stop.Interp) :
  ReturnsInLeavingWide { calm:=true } Tryz.checked os 3 .any (Rows.frameBroaderSpec.pre6 enc Tryz.prog Tryz.f3 Rows.frameBroaderRow.domain false) ((OpenSpec.ofChange Rows.frameBroaderSpec).postWith enc Tryz.prog Tryz.f3 F (outsideKept [.timePasses]) false true false):=by
 refine returnsInLeavingWide_of_change_time (C:=Tryz.checked) own started Tryz.func3
  (ChangeSpec.witness6c (enc:=enc) (C:=Tryz.checked) ⟨#[],#[.agg #[.int .i64 0,.slice none 0 0,.slice none 0 0,.slice none 0 0],.slice none 0 0,.slice none 0 0,.int .u16 0],[]⟩ 8 (by kernel_rfl) (by kernel_rfl) (by kernel_rfl) (by kernel_rfl)) ?_
 intro W base args ds gs before hval0 hW hcnd _ _
 have hval:∀(j:Nat) t v,Tryz.f3.params[j]? = some t→args[j]? = some v→Value.okWide Tryz.prog W .any base t v:=hval0
 have hW' :=hW
 obtain ⟨p,q,hA0,hV,rfl,hfz,hnd⟩:=hW
 have hA:DataW.TrodAll enc Tryz.prog W 0 (fun _=>true) true Tryz.f3.params.toList args.toList ds p:=hA0
 rw [Tryz.params3] at hA hval
 obtain ⟨v0,vs0,d0,ds0,p0,q0,hargs,rfl,rfl,h0,r0⟩:=trodAll_cons hA
 obtain ⟨v1,vs1,d1,ds1,p1,q1,rfl,rfl,rfl,h1,r1⟩:=trodAll_cons r0
 obtain ⟨v2,vs2,d2,ds2,p2,q2,rfl,rfl,rfl,h2,r2⟩:=trodAll_cons r1
 obtain ⟨v3,vs3,d3,ds3,p3,q3,rfl,rfl,rfl,h3,r3⟩:=trodAll_cons r2
 obtain ⟨rfl,rfl,rfl⟩:=trodAll_nil r3
 obtain rfl:args = #[v0,v1,v2,v3]:=by cases args;simp_all
 obtain ⟨rfl,rfl⟩:=trodVars_none hV
 obtain ⟨a3,rfl,rfl,rfl,w3⟩:=open_int Tryz.underlying28 (hval 3 28 v3 rfl rfl) h3
 have k0:=hval 0 26 v0 rfl rfl
 have k1:=hval 1 27 v1 rfl rfl
 have k2:=hval 2 27 v2 rfl rfl
 clear hA0 hval0
 simp only [List.append_nil] at hW'
 have b3:0≤a3∧a3≤65535:=by simpa [Lit.wf,IntKind.min,IntKind.max,IntKind.signed,IntKind.bits] using w3
 obtain ⟨cs,rfl,hl,hcs,fuel,ht⟩:=Go.Am.QG ajI ajJ ajK ajL k0 h0
 obtain ⟨c0,c1,c2,c3,rfl⟩:∃c0 c1 c2 c3,cs=[c0,c1,c2,c3]:=by
  rcases cs with _|⟨c0,_|⟨c1,_|⟨c2,_|⟨c3,_|_⟩⟩⟩⟩<;>simp at hl
  exact ⟨c0,c1,c2,c3,rfl⟩
 obtain ⟨y0,t0⟩:=ht (3,0) (by simp)
 obtain ⟨y1,t1⟩:=ht (22,1) (by simp)
 obtain ⟨y2,t2⟩:=ht (23,2) (by simp)
 obtain ⟨y3,t3⟩:=ht (24,3) (by simp)
 simp only [cz3,List.drop,List.take] at t0
 simp only [ajM,List.drop,List.take] at t1
 simp only [ajN,List.drop,List.take] at t2
 simp only [ajO,List.drop,List.take] at t3
 obtain ⟨af,e0,_⟩:=Go.Am.fk1 (Go.Am.yJ 4 fuel 3 _ _ _ t0 fl3)
 cases e0
 have u1:Cell.okWide Tryz.prog W .any base 22 c1:=by obtain ⟨u,hu,h⟩:=hcs 1 c1 rfl;cases hu;exact h
 have u2:Cell.okWide Tryz.prog W .any base 23 c2:=by obtain ⟨u,hu,h⟩:=hcs 2 c2 rfl;cases hu;exact h
 have u3:Cell.okWide Tryz.prog W .any base 24 c3:=by obtain ⟨u,hu,h⟩:=hcs 3 c3 rfl;cases hu;exact h
 have u4:Cell.okWide Tryz.prog W .any base 27 v1:=by
  unfold Value.okWide at k1
  rw [Tryz.underlying27] at k1
  exact k1
 obtain ⟨fuel1,t4⟩:=h1
 have t4':∃x,DataW.trod enc Tryz.prog W 0 (fun _=>true) true fuel1 27 [v1]=some x:=by
  refine ⟨(d1,p1),?_⟩
  rw [←t4]
  congr 1
  unfold Cell.okWide at u4
  rw [Tryz.underlying27] at u4
  cases v1<;>first|rfl|(simp [Cell.ok,Tryz.underlying27] at u4)
 obtain ⟨x4,t4'⟩:=t4'
 have u5:Cell.okWide Tryz.prog W .any base 27 v2:=by
  unfold Value.okWide at k2
  rw [Tryz.underlying27] at k2
  exact k2
 obtain ⟨fuel2,t5⟩:=h2
 have t5':∃x,DataW.trod enc Tryz.prog W 0 (fun _=>true) true fuel2 27 [v2]=some x:=by
  refine ⟨(d2,p2),?_⟩
  rw [←t5]
  congr 1
  unfold Cell.okWide at u5
  rw [Tryz.underlying27] at u5
  cases v2<;>first|rfl|(simp [Cell.ok,Tryz.underlying27] at u5)
 obtain ⟨x5,t5'⟩:=t5'
 have hf:fuel≠0:=by rintro rfl;unfold DataW.trod at t1;cases t1
 obtain ⟨f,rfl⟩:=Nat.exists_eq_succ_of_ne_zero hf
 have hf1:fuel1≠0:=by rintro rfl;unfold DataW.trod at t4';cases t4'
 obtain ⟨f1',rfl⟩:=Nat.exists_eq_succ_of_ne_zero hf1
 have hf2:fuel2≠0:=by rintro rfl;unfold DataW.trod at t5';cases t5'
 obtain ⟨f2',rfl⟩:=Nat.exists_eq_succ_of_ne_zero hf2
 obtain ⟨o0,n0,m0,s0,S0⟩:=Go.Am.JD Tryz.underlying22 ajP (by kernel_rfl) (by decide) t1 u1
 obtain ⟨o1,n1,m1,s1,S1⟩:=Go.Am.JD Tryz.underlying23 ajQ (by kernel_rfl) (by decide) t2 u2
 obtain ⟨o2,n2,m2,s2,S2⟩:=Go.Am.JD Tryz.underlying24 ajR (by kernel_rfl) (by decide) t3 u3
 obtain ⟨o3,n3,m3,s3,S3⟩:=Go.Am.JD Tryz.underlying27 afx (by kernel_rfl) (by decide) t4' u4
 obtain ⟨o4,n4,m4,s4,S4⟩:=Go.Am.JD Tryz.underlying27 afx (by kernel_rfl) (by decide) t5' u5
 refine Go.Ren.DY ?_
 refine Go.Am.straight S0 S1 S2 S3 S4 ⟨b3.1,b3.2⟩ (Xe _) fun w' hk=>⟨?_,hk.2.2.1⟩
 refine ⟨_,_,_,[],p0 ++ (p1 ++ (p2 ++ [])),[],hW',trodAll_cons_mk (shut_bool Tryz.underlying4 _) trodAll_mk0,?_,rfl,kept hk _,fun h=>by cases h⟩
 refine trodAll_cons_mk (Go.Am.sF laidOut (by kernel_rfl) (of_decide_eq_true (by kernel_rfl)) h0 ?_ hk.1) (trodAll_cons_mk (Go.Am.sF laidOut (by kernel_rfl) (of_decide_eq_true (by kernel_rfl)) ⟨_,t4⟩ ?_ hk.1) (trodAll_cons_mk (Go.Am.sF laidOut (by kernel_rfl) (of_decide_eq_true (by kernel_rfl)) ⟨_,t5⟩ ?_ hk.1) (trodAll_cons_mk (shut_int Tryz.underlying28 w3) trodAll_mk0)))
 ·exact fun x hx=>by simpa using hW'.lt x (by simp [hx])
 ·exact fun x hx=>by simpa using hW'.lt x (by simp [hx])
 ·exact fun x hx=>by simpa using hW'.lt x (by simp [hx])
theorem over(Xe:∀Post,Go.Am.GY Tryz.prog Go.Am.Tryz.link 5 (Go.Conc.Good Tryz.prog Post)):Rows.FrameBroaderSaid:=
 OpenClaim.holds_of_wide_leaving_time 3 Tryz.f3 rfl rfl rfl rfl rfl rfl rfl ⟨rfl,rfl,rfl,rfl,rfl⟩ rfl rfl rfl rfl rfl (by kernel_rfl) Tryz.func3 (by kernel_rfl)
  (of_decide_eq_true (by kernel_rfl)) (by unfold Func.isWrapper;first|(rw [if_pos (by decide +kernel)];kernel_rfl)|(rw [if_neg (by decide +kernel)];exact ⟨rfl,rfl⟩))
  (fun os started H enc _ F=>lifted Xe os started H enc F)
end Go.Proofs.YtbpcjpbcgeccbaaGreat
