import Derived.Test.YtmgllphkofdnhaaGreatH41
import Derived.Test.YtmgllphkofdnhaaGreatH43
set_option linter.unusedVariables false
set_option linter.unusedSectionVars false
set_option linter.unusedSimpArgs false
namespace Go.Am
open Go.Proofs
theorem lfx{x:Int}(h:0≤x∧x≤65535):∀_:AH,∃y:Int,(0≤y∧y≤65535)∧Value.int .i64 x = .int .i64 y:=fun _=>⟨x,h,rfl⟩
def bm(plank:Int)(op:Option Addr)(np cp:Nat)(ot:Option Addr)(nt ct:Nat)(os:Option Addr)(ns cs:Nat):Value:=.agg ⟨[.int .i64 plank,.slice op np cp,.slice ot nt ct,.slice os ns cs]⟩
abbrev h44t0:HT:=.val 5 5 5 (.br 0 1 6 (.cut 7 3) (.val 0 4 10 (.br 0 1 11 (.cut 7 3) (.val 0 5 16 (.br 0 1 17 (.cut 7 3) (.call 3 3 (.br 0 1 9 .no (.cut 4 3))))))))
theorem Tryz.ch_t(k:Int)(nk ck:Nat)(pc tc sc kc:Array Value)(Q:Value→Prop)(K:AS→Prop):tx (Tryz.X []) Q K (.br 1 5 6 (.val 0 4 10 (.br 0 1 11 (.ov 1 5 (.lod 0 0 .u16 (.val 0 1 17 (.ret 2 1)))) (.ret 4 1))) (.ret 4 1)) ⟨AFr.enter Tryz.prog 32 ⟨[.slice (some ⟨3,0,none⟩) nk ck,.int .i64 k]⟩,[],hOf 4 (L4 pc tc sc kc)⟩=(BR (decide (k≥0)) (∀x0,x0=((nk:Nat):Int)→BR (decide (k < x0)) (((0:Int)≤k∧k < ((nk:Nat):Int))∧∃x2:Int,nth kc.toList (0+Int.toNat k * 1)=some (.int .u16 x2)∧∀x3,x3=wi x2→Q (.int .i64 x3)) (Q (.int .i64 0))) (Q (.int .i64 0))):=by kernel_rfl
theorem Tryz.ch(k:Int)(nk ck:Nat)(pc tc sc kc:Array Value)(hk:∀i:Nat,i < nk→∃x:Int,nth kc.toList i=some (.int .u16 x)∧0≤x∧x≤65535):Rets Tryz.prog (fun v _=>∃x:Int,(0≤x∧x≤65535)∧v = .int .i64 x) ⟨AFr.enter Tryz.prog 32 ⟨[.slice (some ⟨3,0,none⟩) nk ck,.int .i64 k]⟩,[],hOf 4 (L4 pc tc sc kc)⟩:=by
 refine txR_use (X:=Tryz.X []) (Tryz.ok noCt) (Tryz.ch_t k nk ck pc tc sc kc _ _) ?_
 refine BR.mk (fun _=>?_) fun _=>lfx (by omega)
 intro x0 _
 refine BR.mk (fun _=>?_) fun _=>lfx (by omega)
 refine ⟨⟨by omega,by omega⟩,?_⟩
 obtain ⟨x2,hx,_,_⟩:=hk (Int.toNat k) (by omega)
 refine ⟨x2,by rw [show 0+Int.toNat k * 1=Int.toNat k by omega];exact hx,?_⟩
 refine va fun x3 _=>?_
 exact lfx (by omega)
theorem Tryz.ch0_t(k:Int)(ck:Nat)(pc tc sc kc:Array Value)(ok:Option Addr)(Q:Value→Prop)(K:AS→Prop):tx (Tryz.X []) Q K (.br 1 5 6 (.br 0 5 11 .no (.ret 4 1)) (.ret 4 1)) ⟨AFr.enter Tryz.prog 32 ⟨[.slice ok 0 ck,.int .i64 k]⟩,[],hOf 4 (L4 pc tc sc kc)⟩=(BR (decide (k≥0)) (BR (decide (k < 0)) (False) (Q (.int .i64 0))) (Q (.int .i64 0))):=by kernel_rfl
theorem Tryz.ch0(k:Int)(ck:Nat)(pc tc sc kc:Array Value)(ok:Option Addr):Rets Tryz.prog (fun v _=>∃x:Int,(0≤x∧x≤65535)∧v = .int .i64 x) ⟨AFr.enter Tryz.prog 32 ⟨[.slice ok 0 ck,.int .i64 k]⟩,[],hOf 4 (L4 pc tc sc kc)⟩:=by
 refine txR_use (X:=Tryz.X []) (Tryz.ok noCt) (Tryz.ch0_t k ck pc tc sc kc ok _ _) ?_
 refine BR.mk (fun _=>?_) fun _=>lfx (by omega)
 refine BR.rr ?_
 exact lfx (by omega)
theorem Tryz.cbm_t(plank:Int)(pv tv sv:Value)(Q:Value→Prop)(K:AS→Prop):tx (Tryz.X [⟨37,fun _ _=>[],4,fun _=>[],fun _=>⟨[pv]⟩,fun _=>True,fun _ x=>(¬x=0),fun x=>.int .i64 x⟩]) Q K (.br 3 5 9 (.br 0 4 13 (.call 5 5 (.br 1 4 13 (.ret 3 1) .no)) (.ret 6 1)) (.ret 6 1)) ⟨AFr.enter Tryz.prog 11 ⟨[.agg ⟨[.int .i64 plank,pv,tv,sv]⟩]⟩,[],hOf 4 []⟩=(BR (decide (0≤plank)) (BR (decide (plank≤20)) (((AE ⟨[pv]⟩)∧(True)∧True)∧∀x0:Int,(¬x0=0)→RK (true) (BR (!decide (x0=0)) (Q (.int .i64 x0)) (False))) (Q (.int .i64 1))) (Q (.int .i64 1))):=by kernel_rfl
theorem Tryz.cbm(plank:Int)(pv tv sv:Value)(hc:∀c∈([⟨37,fun _ _=>[],4,fun _=>[],fun _=>⟨[pv]⟩,fun _=>True,fun _ x=>(¬x=0),fun x=>.int .i64 x⟩]:List Ct),CtOk Tryz.prog c):Rets Tryz.prog (fun v _=>∃x:Int,(x=0→False)∧v = .int .i64 x) ⟨AFr.enter Tryz.prog 11 ⟨[.agg ⟨[.int .i64 plank,pv,tv,sv]⟩]⟩,[],hOf 4 []⟩:=by
 refine txR_use (X:=Tryz.X [⟨37,fun _ _=>[],4,fun _=>[],fun _=>⟨[pv]⟩,fun _=>True,fun _ x=>(¬x=0),fun x=>.int .i64 x⟩]) (Tryz.ok hc) (Tryz.cbm_t plank pv tv sv _ _) ?_
 refine BR.mk (fun _=>?_) fun _=>lfn (by omega)
 refine BR.mk (fun _=>?_) fun _=>lfn (by omega)
 refine ⟨⟨rfl,trivial,trivial⟩,fun x0 _=>⟨rfl,?_⟩⟩
 refine BR.nl (by omega) ?_
 exact fun _=>⟨_,fun e=>by omega,rfl⟩
theorem Tryz.rootm_t(plank point one two:Int)(np cp nt ct ns cs nk ck:Nat)(op ot os ok:Option Addr):tx (Tryz.X [⟨11,fun _ _=>[],4,fun _=>[],fun _=>⟨[(bm plank op np cp ot nt ct os ns cs)]⟩,fun _=>True,fun _ x=>(¬x=0),fun x=>.int .i64 x⟩]) (fun _=>False) (fun s=>chkB (Tryz.X []) 3 5 s=true) h44t0 ⟨AFr.enter Tryz.prog 3 ⟨[(bm plank op np cp ot nt ct os ns cs),.slice ok nk ck,.int .u8 point,.int .u16 one,.int .u16 two]⟩,[],hOf 4 []⟩=(∀x0,x0=((np:Nat):Int)→BR (decide (x0 > 20)) ((true=true)) (∀x1,x1=((nt:Nat):Int)→BR (decide (x1 > 20)) ((true=true)) (∀x2,x2=((ns:Nat):Int)→BR (decide (x2 > 20)) ((true=true)) (((AE ⟨[(bm plank op np cp ot nt ct os ns cs)]⟩)∧(True)∧True)∧∀x3:Int,(¬x3=0)→RK (true) (BR (decide (x3=0)) (False) ((true=true))))))):=by kernel_rfl
set_option maxHeartbeats 4000000 in
theorem Tryz.rootm(plank point one two:Int)(np cp nt ct ns cs nk ck:Nat)(op ot os ok:Option Addr)(hc:∀c∈([⟨11,fun _ _=>[],4,fun _=>[],fun _=>⟨[(bm plank op np cp ot nt ct os ns cs)]⟩,fun _=>True,fun _ x=>(¬x=0),fun x=>.int .i64 x⟩]:List Ct),CtOk Tryz.prog c):Runs Tryz.prog (fun s=>chkB (Tryz.X []) 3 5 s=true) ⟨AFr.enter Tryz.prog 3 ⟨[(bm plank op np cp ot nt ct os ns cs),.slice ok nk ck,.int .u8 point,.int .u16 one,.int .u16 two]⟩,[],hOf 4 []⟩:=by
 refine txK_use (X:=Tryz.X [⟨11,fun _ _=>[],4,fun _=>[],fun _=>⟨[(bm plank op np cp ot nt ct os ns cs)]⟩,fun _=>True,fun _ x=>(¬x=0),fun x=>.int .i64 x⟩]) (Tryz.ok hc) (Tryz.rootm_t plank point one two np cp nt ct ns cs nk ck op ot os ok) ?_
 intro x0 _
 refine BR.mk (fun _=>?_) (fun _=>?_)
 ·
  exact rfl
 intro x1 _
 refine BR.mk (fun _=>?_) (fun _=>?_)
 ·
  exact rfl
 intro x2 _
 refine BR.mk (fun _=>?_) (fun _=>?_)
 ·
  exact rfl
 refine ⟨⟨rfl,trivial,trivial⟩,fun x3 yV=>⟨rfl,?_⟩⟩
 refine BR.rr ?_
 exact rfl
theorem Tryz.rootv_t(plank point one two:Int)(np cp nt ct ns cs nk ck:Nat)(op ot os ok:Option Addr)(pc tc sc kc:Array Value):tx (Tryz.X [⟨11,fun _ _=>[],4,fun _=>L4 pc tc sc kc,fun _=>⟨[(bm plank op np cp ot nt ct os ns cs)]⟩,fun _=>True,fun _ x=>(¬x=0),fun x=>.int .i64 x⟩]) (fun _=>False) (fun s=>chkB (Tryz.X []) 3 5 s=true) h44t0 ⟨AFr.enter Tryz.prog 3 ⟨[(bm plank op np cp ot nt ct os ns cs),.slice ok nk ck,.int .u8 point,.int .u16 one,.int .u16 two]⟩,[],hOf 4 (L4 pc tc sc kc)⟩=(∀x0,x0=((np:Nat):Int)→BR (decide (x0 > 20)) ((true=true)) (∀x1,x1=((nt:Nat):Int)→BR (decide (x1 > 20)) ((true=true)) (∀x2,x2=((ns:Nat):Int)→BR (decide (x2 > 20)) ((true=true)) (((AE ⟨[(bm plank op np cp ot nt ct os ns cs)]⟩)∧(E4 pc tc sc kc)∧True)∧∀x3:Int,(¬x3=0)→RK (true) (BR (decide (x3=0)) (False) ((true=true))))))):=by kernel_rfl
set_option maxHeartbeats 4000000 in
theorem Tryz.rootv(plank point one two:Int)(np cp nt ct ns cs nk ck:Nat)(op ot os ok:Option Addr)(pc tc sc kc:Array Value)(hc:∀c∈([⟨11,fun _ _=>[],4,fun _=>L4 pc tc sc kc,fun _=>⟨[(bm plank op np cp ot nt ct os ns cs)]⟩,fun _=>True,fun _ x=>(¬x=0),fun x=>.int .i64 x⟩]:List Ct),CtOk Tryz.prog c):Runs Tryz.prog (fun s=>chkB (Tryz.X []) 3 5 s=true) ⟨AFr.enter Tryz.prog 3 ⟨[(bm plank op np cp ot nt ct os ns cs),.slice ok nk ck,.int .u8 point,.int .u16 one,.int .u16 two]⟩,[],hOf 4 (L4 pc tc sc kc)⟩:=by
 refine txK_use (X:=Tryz.X [⟨11,fun _ _=>[],4,fun _=>L4 pc tc sc kc,fun _=>⟨[(bm plank op np cp ot nt ct os ns cs)]⟩,fun _=>True,fun _ x=>(¬x=0),fun x=>.int .i64 x⟩]) (Tryz.ok hc) (Tryz.rootv_t plank point one two np cp nt ct ns cs nk ck op ot os ok pc tc sc kc) ?_
 intro x0 _
 refine BR.mk (fun _=>?_) (fun _=>?_)
 ·
  exact rfl
 intro x1 _
 refine BR.mk (fun _=>?_) (fun _=>?_)
 ·
  exact rfl
 intro x2 _
 refine BR.mk (fun _=>?_) (fun _=>?_)
 ·
  exact rfl
 refine ⟨⟨rfl,E4i,trivial⟩,fun x3 yV=>⟨rfl,?_⟩⟩
 refine BR.rr ?_
 exact rfl
end Go.Am
namespace Go.Am
open Go.Proofs
def encT:List (Int×Int×Int×Int)→List Value
 | []=>[]
 | (f,t,a,b) :: r=>.int .i64 f :: .int .i64 t :: .int .i64 a :: .int .i64 b :: encT r
def encS:List (Int×Int×Bool)→List Value
 | []=>[]
 | (g,m,w) :: r=>.int .i64 g :: .int .i64 m :: .bool w :: encS r
def encK:List Int→List Value
 | []=>[]
 | n :: r=>.int .u16 n :: encK r
def V2(np:Nat)(tps:List (Int×Int×Int×Int)):Prop:=tps.length≤3∧Tps np tps
def V3(lo hi:Int)(sts:List (Int×Int×Bool)):Prop:=sts.length≤3∧Sts lo hi (sts.map fun x=>(x.1,x.2.1))
theorem encT_plain:∀l,∀x∈encT l,Plain x
 | [],x,h=>absurd h List.not_mem_nil
 | (f,t,a,b) :: r,x,h=>by
   simp only [encT,List.mem_cons] at h
   rcases h with rfl|rfl|rfl|rfl|h
   iterate 4 exact .int _ _
   exact encT_plain r x h
theorem encS_plain:∀l,∀x∈encS l,Plain x
 | [],x,h=>absurd h List.not_mem_nil
 | (g,m,w) :: r,x,h=>by
   simp only [encS,List.mem_cons] at h
   rcases h with rfl|rfl|rfl|h
   ·exact .int _ _
   ·exact .int _ _
   ·exact .bool _
   ·exact encS_plain r x h
theorem encK_plain:∀l,∀x∈encK l,Plain x
 | [],x,h=>absurd h List.not_mem_nil
 | n :: r,x,h=>by
   simp only [encK,List.mem_cons] at h
   rcases h with rfl|h
   ·exact .int _ _
   ·exact encK_plain r x h
theorem stL4{pc tc sc kc:Array Value}(h1:∀x∈pc,Plain x)(h2:∀x∈tc,Plain x)(h3:∀x∈sc,Plain x)(h4:∀x∈kc,Plain x):StL 4 (L4 pc tc sc kc):=by
 refine ⟨fun p hp=>?_,fun p hp=>?_,by simp [L4]⟩
 · simp only [L4,List.mem_cons,List.not_mem_nil,or_false] at hp
   rcases hp with rfl|rfl|rfl|rfl<;>simp
 · simp only [L4,List.mem_cons,List.not_mem_nil,or_false] at hp
   rcases hp with rfl|rfl|rfl|rfl
   ·exact ⟨pc,_,_,rfl,h1⟩
   ·exact ⟨tc,_,_,rfl,h2⟩
   ·exact ⟨sc,_,_,rfl,h3⟩
   ·exact ⟨kc,_,_,rfl,h4⟩
theorem okSl{p:Nat→Prop}{o:Option Addr}{n c:Nat}(h:∀a,o=some a→p a.block):OkV p (.slice o n c):=by
 cases o with
 | none=>exact .nilslice n c
 | some a=>exact .slice (h a rfl)
def InB(b:Nat)(n:Nat)(o:Option Addr):Prop:=(n≠0→o=some ⟨b,0,none⟩)∧∀a,o=some a→a.block=b
theorem InB.ok{b n c m:Nat}{o:Option Addr}(h:InB b n o)(hb:b < m):OkV (· < m) (.slice o n c):=okSl fun a e=>by rw [h.2 a e];exact hb
theorem okBook{m n1 n2 n3 c1 c2 c3:Nat}{plank:Int}{o1 o2 o3:Option Addr}(hm:3≤m)(h1:InB 0 n1 o1)(h2:InB 1 n2 o2)(h3:InB 2 n3 o3):OkV (· < m) (.agg ⟨[.int .i64 plank,.slice o1 n1 c1,.slice o2 n2 c2,.slice o3 n3 c3]⟩):=by
 refine .agg fun x hx=>?_
 simp only [List.mem_toArray,List.mem_cons,List.not_mem_nil,or_false] at hx
 rcases hx with rfl|rfl|rfl|rfl
 · exact .int _ _
 · exact h1.ok (by omega)
 · exact h2.ok (by omega)
 · exact h3.ok (by omega)
theorem mem1{α:Type}{a x:α}(h:x∈(⟨[a]⟩:Array α)):x=a:=by simpa using h
section
variable{np:Nat}(hnp:2≤np∧np≤5){plank:Int}{pc sc kc tc:Array Value}{op ot os:Option Addr}{cp ct cs:Nat}{tps:List (Int×Int×Int×Int)}{sts:List (Int×Int×Bool)}{lo hi:Int}
include hnp
theorem ctTapes{sv:Value}(ho:InB 1 tps.length ot):Rets Tryz.prog (fun v _=>∃x:Int,(x=0→V2 np tps)∧v = .int .i64 x) ⟨AFr.enter Tryz.prog 38 ⟨[.agg ⟨[.int .i64 plank,.slice op np cp,.slice ot tps.length ct,sv]⟩]⟩,[],hOf 4 (L4 pc ⟨encT tps⟩ sc kc)⟩:=by
 have up:∀ {s:AS} {V W:Prop},(V→W)→Rets Tryz.prog (fun v _=>∃x:Int,(x=0→V)∧v = .int .i64 x) s→Rets Tryz.prog (fun v _=>∃x:Int,(x=0→W)∧v = .int .i64 x) s:=
   fun h r=>r.mono fun v _ ⟨x,h1,h2⟩=>⟨x,fun e=>h (h1 e),h2⟩
 match tps,ho with
 | [],ho=>exact up (fun h=>⟨by decide,h⟩) (Tryz.ct0 np plank pc ⟨encT []⟩ sc kc sv op ot cp ct hnp)
 | [(f0,t0,a0,b0)],ho=>obtain rfl:=ho.1 (by simp);exact up (fun h=>⟨by simp,h⟩) (Tryz.ct1 np f0 t0 a0 b0 plank pc #[] sc kc sv op none cp ct hnp)
 | [(f0,t0,a0,b0),(f1,t1,a1,b1)],ho=>obtain rfl:=ho.1 (by simp);exact up (fun h=>⟨by simp,h⟩) (Tryz.ct2 np f0 t0 a0 b0 f1 t1 a1 b1 plank pc #[] sc kc sv op none cp ct hnp)
 | [(f0,t0,a0,b0),(f1,t1,a1,b1),(f2,t2,a2,b2)],ho=>obtain rfl:=ho.1 (by simp);exact up (fun h=>⟨by simp,h⟩) (Tryz.ct3 np f0 t0 a0 b0 f1 t1 a1 b1 f2 t2 a2 b2 plank pc #[] sc kc sv op none cp ct hnp)
 | a :: b :: c :: d :: r,ho=>exact up False.elim (Tryz.ctm (r.length+4) plank _ sv ot ct pc _ sc kc (by omega))
theorem ctSticks{tv:Value}(hlo:nth pc.toList 0=some (.int .i64 lo))(hhi:nth pc.toList ((np - 1) * 3)=some (.int .i64 hi))(ho:InB 2 sts.length os):Rets Tryz.prog (fun v _=>∃x:Int,(x=0→V3 lo hi sts)∧v = .int .i64 x) ⟨AFr.enter Tryz.prog 39 ⟨[.agg ⟨[.int .i64 plank,.slice (some ⟨0,0,none⟩) np cp,tv,.slice os sts.length cs]⟩]⟩,[],hOf 4 (L4 pc tc ⟨encS sts⟩ kc)⟩:=by
 have up:∀ {s:AS} {V W:Prop},(V→W)→Rets Tryz.prog (fun v _=>∃x:Int,(x=0→V)∧v = .int .i64 x) s→Rets Tryz.prog (fun v _=>∃x:Int,(x=0→W)∧v = .int .i64 x) s:=
   fun h r=>r.mono fun v _ ⟨x,h1,h2⟩=>⟨x,fun e=>h (h1 e),h2⟩
 match sts,ho with
 | [],ho=>exact up (fun h=>⟨by decide,h⟩) (Tryz.ck0 np plank pc tc ⟨encS []⟩ kc tv os cp cs lo hi hnp hlo hhi)
 | [(g0,m0,w0)],ho=>obtain rfl:=ho.1 (by simp);exact up (fun h=>⟨by simp,h⟩) (Tryz.ck1 np g0 m0 w0 plank pc tc #[] kc tv none cp cs lo hi hnp hlo hhi)
 | [(g0,m0,w0),(g1,m1,w1)],ho=>obtain rfl:=ho.1 (by simp);exact up (fun h=>⟨by simp,h⟩) (Tryz.ck2 np g0 m0 g1 m1 w0 w1 plank pc tc #[] kc tv none cp cs lo hi hnp hlo hhi)
 | [(g0,m0,w0),(g1,m1,w1),(g2,m2,w2)],ho=>obtain rfl:=ho.1 (by simp);exact up (fun h=>⟨by simp,h⟩) (Tryz.ck3 np g0 m0 g1 m1 g2 m2 w0 w1 w2 plank pc tc #[] kc tv none cp cs lo hi hnp hlo hhi)
 | a :: b :: c :: d :: r,ho=>exact up False.elim (Tryz.ckm (r.length+4) plank _ tv os cs pc tc _ kc (by omega))
theorem ctBook{V1:Prop}(hpl:∀x∈pc,Plain x)(hkc:∀x∈kc,Plain x)(hlo:nth pc.toList 0=some (.int .i64 lo))(hhi:nth pc.toList ((np - 1) * 3)=some (.int .i64 hi))(hot:InB 1 tps.length ot)(hos:InB 2 sts.length os)
   (h1:Rets Tryz.prog (fun v _=>∃x:Int,(x=0→V1)∧v = .int .i64 x) ⟨AFr.enter Tryz.prog 37 ⟨[.slice (some ⟨0,0,none⟩) np cp]⟩,[],hOf 4 (L4 pc ⟨encT tps⟩ ⟨encS sts⟩ kc)⟩) :
   CtOk Tryz.prog ⟨11,fun _ _=>[],4,fun _=>L4 pc ⟨encT tps⟩ ⟨encS sts⟩ kc,fun _=>⟨[bv np plank cp ot tps.length ct os sts.length cs]⟩,fun _=>True,fun _ x=>(x=0→(0≤plank∧plank≤20)∧V1∧V2 np tps∧V3 lo hi sts),fun x=>.int .i64 x⟩:=by
 have st:=stL4 (tc:=⟨encT tps⟩) (sc:=⟨encS sts⟩) hpl (fun x hx=>encT_plain tps x (by simpa using hx)) (fun x hx=>encS_plain sts x (by simpa using hx)) hkc
 have h0:InB 0 np (some ⟨0,0,none⟩):=⟨fun _=>rfl,fun a e=>by cases e;rfl⟩
 refine ⟨fun p _=>?_,fun _ _=>st,fun p x hx=>?_,fun x=>.int _ _⟩
 · refine Tryz.cb plank _ _ _ pc ⟨encT tps⟩ ⟨encS sts⟩ kc V1 (V2 np tps) (V3 lo hi sts) (conCt ⟨fun _ _=>h1,fun _ _=>st,fun p x hx=>?_,fun x=>.int _ _⟩ (conCt ⟨fun _ _=>ctTapes hnp hot,fun _ _=>st,fun p x hx=>?_,fun x=>.int _ _⟩ (conCt ⟨fun _ _=>ctSticks hnp hlo hhi hos,fun _ _=>st,fun p x hx=>?_,fun x=>.int _ _⟩ noCt)))
   ·rw [mem1 hx];exact h0.ok (m:=4) (by decide)
   ·rw [mem1 hx];exact okBook (m:=4) (by decide) h0 hot hos
   ·rw [mem1 hx];exact okBook (m:=4) (by decide) h0 hot hos
 · rw [mem1 hx];exact okBook (m:=4) (by decide) h0 hot hos
theorem snTapes{nt:Nat}{ns:Nat}(ho:InB 1 tps.length ot)(hv:V2 np tps):Rets Tryz.prog (fun v _=>∃x:Int,x=0∧v = .int .i64 x) ⟨AFr.enter Tryz.prog 118 ⟨[.agg ⟨[.int .i64 plank,.slice op np cp,.slice ot tps.length ct,.slice os ns cs]⟩]⟩,[],hOf 4 (L4 pc ⟨encT tps⟩ sc kc)⟩:=by
 match tps,ho,hv with
 | [],ho,hv=>exact Tryz.pt0 np plank pc ⟨encT []⟩ sc kc op ot os cp ct ns cs hnp hv.2
 | [(f0,t0,a0,b0)],ho,hv=>obtain rfl:=ho.1 (by simp);exact Tryz.pt1 np f0 t0 a0 b0 plank pc #[] sc kc op none os cp ct ns cs hnp hv.2
 | [(f0,t0,a0,b0),(f1,t1,a1,b1)],ho,hv=>obtain rfl:=ho.1 (by simp);exact Tryz.pt2 np f0 t0 a0 b0 f1 t1 a1 b1 plank pc #[] sc kc op none os cp ct ns cs hnp hv.2
 | [(f0,t0,a0,b0),(f1,t1,a1,b1),(f2,t2,a2,b2)],ho,hv=>obtain rfl:=ho.1 (by simp);exact Tryz.pt3 np f0 t0 a0 b0 f1 t1 a1 b1 f2 t2 a2 b2 plank pc #[] sc kc op none os cp ct ns cs hnp hv.2
 | a :: b :: c :: d :: r,ho,hv=>exact absurd hv.1 (by simp)
theorem snSticks{tv:Value}(hlo:nth pc.toList 0=some (.int .i64 lo))(hhi:nth pc.toList ((np - 1) * 3)=some (.int .i64 hi))(ho:InB 2 sts.length os)(hv:V3 lo hi sts):Rets Tryz.prog (fun v _=>∃x:Int,x=0∧v = .int .i64 x) ⟨AFr.enter Tryz.prog 119 ⟨[.agg ⟨[.int .i64 plank,.slice (some ⟨0,0,none⟩) np cp,tv,.slice os sts.length cs]⟩]⟩,[],hOf 4 (L4 pc tc ⟨encS sts⟩ kc)⟩:=by
 match sts,ho,hv with
 | [],ho,hv=>exact Tryz.ps0 np plank pc tc ⟨encS []⟩ kc tv os cp cs lo hi hnp hlo hhi hv.2
 | [(g0,m0,w0)],ho,hv=>obtain rfl:=ho.1 (by simp);exact Tryz.ps1 np g0 m0 w0 plank pc tc #[] kc tv none cp cs lo hi hnp hlo hhi hv.2
 | [(g0,m0,w0),(g1,m1,w1)],ho,hv=>obtain rfl:=ho.1 (by simp);exact Tryz.ps2 np g0 m0 g1 m1 w0 w1 plank pc tc #[] kc tv none cp cs lo hi hnp hlo hhi hv.2
 | [(g0,m0,w0),(g1,m1,w1),(g2,m2,w2)],ho,hv=>obtain rfl:=ho.1 (by simp);exact Tryz.ps3 np g0 m0 g1 m1 g2 m2 w0 w1 w2 plank pc tc #[] kc tv none cp cs lo hi hnp hlo hhi hv.2
 | a :: b :: c :: d :: r,ho,hv=>exact absurd hv.1 (by simp)
theorem ctSnag(hpl:∀x∈pc,Plain x)(hkc:∀x∈kc,Plain x)(hlo:nth pc.toList 0=some (.int .i64 lo))(hhi:nth pc.toList ((np - 1) * 3)=some (.int .i64 hi))(hot:InB 1 tps.length ot)(hos:InB 2 sts.length os)(hp:0≤plank∧plank≤20)(h2:V2 np tps)(h3:V3 lo hi sts)
   (h1:Rets Tryz.prog (fun v _=>∃x:Int,x=0∧v = .int .i64 x) ⟨AFr.enter Tryz.prog 117 ⟨[bv np plank cp ot tps.length ct os sts.length cs]⟩,[],hOf 4 (L4 pc ⟨encT tps⟩ ⟨encS sts⟩ kc)⟩) :
   CtOk Tryz.prog ⟨86,fun _ _=>[],4,fun _=>L4 pc ⟨encT tps⟩ ⟨encS sts⟩ kc,fun _=>⟨[bv np plank cp ot tps.length ct os sts.length cs]⟩,fun _=>True,fun _ x=>x=0,fun x=>.int .i64 x⟩:=by
 have st:=stL4 (tc:=⟨encT tps⟩) (sc:=⟨encS sts⟩) hpl (fun x hx=>encT_plain tps x (by simpa using hx)) (fun x hx=>encS_plain sts x (by simpa using hx)) hkc
 have h0:InB 0 np (some ⟨0,0,none⟩):=⟨fun _=>rfl,fun a e=>by cases e;rfl⟩
 have okA:∀(p:List Int),∀x∈(⟨[bv np plank cp ot tps.length ct os sts.length cs]⟩:Array Value),OkV (· < 4) x:=fun p x hx=>by rw [mem1 hx];exact okBook (m:=4) (by decide) h0 hot hos
 refine ⟨fun p _=>?_,fun _ _=>st,okA,fun x=>.int _ _⟩
 exact Tryz.sn plank _ _ _ pc ⟨encT tps⟩ ⟨encS sts⟩ kc hp (conCt ⟨fun _ _=>h1,fun _ _=>st,okA,fun x=>.int _ _⟩ (conCt ⟨fun _ _=>snTapes (nt:=0) hnp hot h2,fun _ _=>st,okA,fun x=>.int _ _⟩ (conCt ⟨fun _ _=>snSticks hnp hlo hhi hos h3,fun _ _=>st,okA,fun x=>.int _ _⟩ noCt)))
end
end Go.Am
namespace Go.Am
open Go.Proofs
theorem StL.cons{N m:Nat}{L:List (Nat×Blk)}{c:Array Value}{e f u:Nat}(S:StL m L)(h:m≤N)(hc:∀x∈c,Plain x):StL (N+1) ((N,⟨.cells c e (0,0),some f,false,u⟩) :: L):=by
 refine ⟨fun p hp=>?_,fun p hp=>?_,?_⟩
 · rcases List.mem_cons.1 hp with rfl|hp
   ·exact Nat.lt_succ_self N
   ·have:=S.lt p hp;omega
 · rcases List.mem_cons.1 hp with rfl|hp
   ·exact ⟨c,_,_,rfl,hc⟩
   ·exact S.plain p hp
 · simp only [List.map_cons,List.nodup_cons]
   refine ⟨fun hm=>?_,S.nodup⟩
   obtain ⟨p,h1,h2⟩:=List.mem_map.1 hm
   have:=S.lt p h1
   omega
theorem ints_plain(l:List Int):∀x∈(⟨l.map fun n=>.int .i64 n⟩:Array Value),Plain x:=fun x hx=>by
 simp only [List.mem_toArray,List.mem_map] at hx
 obtain ⟨n,_,rfl⟩:=hx
 exact .int _ _
theorem tup2_plain(a b:Int):Plain (.tuple ⟨[.int .i64 a,.int .i64 b]⟩):=vr_tuple2 (.int _ _) (.int _ _)
theorem ctChoice{pc tc sc:Array Value}{ok:Option Addr}{ck:Nat}{ks:List Int}(hpl:∀x∈pc,Plain x)(htc:∀x∈tc,Plain x)(hsc:∀x∈sc,Plain x)(hok:InB 3 ks.length ok)(hks:∀n∈ks,0≤n∧n≤65535) :
   CtOk Tryz.prog ⟨32,fun a _=>[parOf a 1],4,fun _=>L4 pc tc sc ⟨encK ks⟩,fun ps=>⟨[.slice ok ks.length ck,.int .i64 (ps.headD 0)]⟩,fun _=>True,fun _ x=>(0≤x∧x≤65535),fun x=>.int .i64 x⟩:=by
 refine ⟨fun p _=>?_,fun _ _=>stL4 hpl htc hsc (fun x hx=>encK_plain ks x (by simpa using hx)),fun p x hx=>?_,fun x=>.int _ _⟩
 · dsimp only
   generalize p.headD 0=k
   match ks,hok,hks with
   | [],hok,hks=>exact Tryz.ch0 k ck pc tc sc ⟨encK []⟩ ok
   |n :: r,hok,hks=>
    obtain rfl:=hok.1 (by simp)
    refine Tryz.ch k _ ck pc tc sc ⟨encK (n :: r)⟩ fun i hi=>?_
    have key:∀(l:List Int) (i:Nat),i < l.length→nth (encK l) i=some (.int .u16 (l.getD i 0))∧l.getD i 0∈l:=by
     intro l
     induction l with
     |nil=>intro i hi;exact absurd hi (Nat.not_lt_zero _)
     |cons a l ih=>
      intro i hi
      cases i with
      |zero=>exact ⟨rfl,by simp⟩
      |succ i=>
       obtain ⟨h1,h2⟩:=ih i (by simpa using hi)
       have e:(a :: l).getD (i+1) 0=l.getD i 0:=by simp [List.getD]
       rw [e]
       exact ⟨h1,.tail _ h2⟩
    obtain ⟨h1,h2⟩:=key (n :: r) i hi
    exact ⟨_,h1,hks _ h2⟩
 · simp only [List.mem_toArray,List.mem_cons,List.not_mem_nil,or_false] at hx
   rcases hx with rfl|rfl
   ·exact hok.ok (m:=4) (by decide)
   ·exact .int _ _
section
variable{plank point one two:Int}{ot os ok:Option Addr}{cp ct cs ck:Nat}{tps:List (Int×Int×Int×Int)}{sts:List (Int×Int×Bool)}{ks:List Int}
theorem atP2_inv{h0 h1:Int}{p:List Int}(h:atP2 h0 h1 p):∃ht z0 z1,p=[ht,z0,z1]∧h0≤ht∧ht≤h1∧0≤z0∧z0≤959∧0≤z1∧z1≤959:=by
 unfold atP2 at h
 split at h
 · exact ⟨_,_,_,rfl,h⟩
 · exact h.elim
theorem pc2_plain(h0 l0 u0 h1 l1 u1:Int):∀x∈pc2 h0 l0 u0 h1 l1 u1,Plain x:=fun x hx=>by
 simp only [pc2,List.mem_toArray,List.mem_cons,List.not_mem_nil,or_false] at hx
 rcases hx with rfl|rfl|rfl|rfl|rfl|rfl<;>exact .int _ _
theorem run2{h0 l0 u0 h1 l1 u1:Int}(hot:InB 1 tps.length ot)(hos:InB 2 sts.length os)(hok:InB 3 ks.length ok)(hks:∀n∈ks,0≤n∧n≤65535)(hn:0≤point∧point≤255∧0≤one∧one≤65535∧0≤two∧two≤65535) :
   Runs Tryz.prog (fun s=>chkB (Tryz.X []) 3 5 s=true) ⟨AFr.enter Tryz.prog 3 ⟨[bv 2 plank cp ot tps.length ct os sts.length cs,.slice ok ks.length ck,.int .u8 point,.int .u16 one,.int .u16 two]⟩,[],hOf 4 (L4 (pc2 h0 l0 u0 h1 l1 u1) ⟨encT tps⟩ ⟨encS sts⟩ ⟨encK ks⟩)⟩:=by
 have hpl:=pc2_plain h0 l0 u0 h1 l1 u1
 have htc:∀x∈(⟨encT tps⟩:Array Value),Plain x:=fun x hx=>encT_plain tps x (by simpa using hx)
 have hsc:∀x∈(⟨encS sts⟩:Array Value),Plain x:=fun x hx=>encS_plain sts x (by simpa using hx)
 have hkc:∀x∈(⟨encK ks⟩:Array Value),Plain x:=fun x hx=>encK_plain ks x (by simpa using hx)
 have hz:InB 0 2 (some ⟨0,0,none⟩):=⟨fun _=>rfl,fun a e=>by cases e;rfl⟩
 have hB:=ctBook (np:=2) (by decide) (plank:=plank) (cp:=cp) (ct:=ct) (cs:=cs) (lo:=h0) (hi:=h1) hpl hkc rfl rfl hot hos (Tryz.cp2 h0 l0 u0 h1 l1 u1 ⟨encT tps⟩ ⟨encS sts⟩ ⟨encK ks⟩ cp)
 by_cases hV:(0≤plank∧plank≤20)∧Pts [(h0,l0,u0),(h1,l1,u1)]∧V2 2 tps∧V3 h0 h1 sts
 · refine Tryz.root2 plank h0 l0 u0 h1 l1 u1 point one two cp tps.length ct sts.length cs ks.length ck ⟨encT tps⟩ ⟨encS sts⟩ ⟨encK ks⟩ ot os ok _ (fun h=>h.2.1) hn (conCt hB (conCt (ctChoice hpl htc hsc hok hks) (conCt ?_ noCt)))
   have hS:=ctSnag (np:=2) (by decide) (plank:=plank) (cp:=cp) (ct:=ct) (cs:=cs) (lo:=h0) (hi:=h1) hpl hkc rfl rfl hot hos hV.1 hV.2.2.1 hV.2.2.2 (Tryz.pp2 h0 l0 u0 h1 l1 u1 plank ⟨encT tps⟩ ⟨encS sts⟩ ⟨encK ks⟩ _ _ cp hV.2.1)
   refine ⟨fun p hp=>?_,fun p hp=>(stL4 hpl htc hsc hkc).cons (by decide) (ints_plain _),fun p x hx=>?_,fun x=>tup2_plain _ _⟩
   ·obtain ⟨ht,z0,z1,rfl,hb⟩:=atP2_inv (h0:=h0) (h1:=h1) hp
    exact Tryz.at2 h0 l0 u0 h1 l1 u1 z0 z1 ht plank cp tps.length ct sts.length cs ⟨encT tps⟩ ⟨encS sts⟩ ⟨encK ks⟩ ot os hV.2.1 hb (conCt hS noCt)
   ·simp only [atC2,List.mem_toArray,List.mem_cons,List.not_mem_nil,or_false] at hx
    rcases hx with rfl|rfl|rfl
    ·exact okBook (m:=14) (by decide) hz hot hos
    ·exact .slice (show 13 < 14 by decide)
    ·exact .int _ _
 · exact Tryz.rootv plank point one two 2 cp tps.length ct sts.length cs ks.length ck (some ⟨0,0,none⟩) ot os ok (pc2 h0 l0 u0 h1 l1 u1) ⟨encT tps⟩ ⟨encS sts⟩ ⟨encK ks⟩ (conCt ⟨fun p hp=>(hB.rets p hp).mono fun v _ ⟨x,h1,h2⟩=>⟨x,fun e=>hV (h1 e),h2⟩,hB.st,hB.okA,hB.okR⟩ noCt)
theorem atP3_inv{h0 h1 h2:Int}{p:List Int}(h:atP3 h0 h1 h2 p):∃ht z0 z1 z2,p=[ht,z0,z1,z2]∧h0≤ht∧ht≤h2∧0≤z0∧z0≤959∧0≤z1∧z1≤959∧0≤z2∧z2≤959:=by
 unfold atP3 at h
 split at h
 · exact ⟨_,_,_,_,rfl,h⟩
 · exact h.elim
theorem pc3_plain(h0 l0 u0 h1 l1 u1 h2 l2 u2:Int):∀x∈pc3 h0 l0 u0 h1 l1 u1 h2 l2 u2,Plain x:=fun x hx=>by
 simp only [pc3,List.mem_toArray,List.mem_cons,List.not_mem_nil,or_false] at hx
 rcases hx with rfl|rfl|rfl|rfl|rfl|rfl|rfl|rfl|rfl<;>exact .int _ _
theorem run3{h0 l0 u0 h1 l1 u1 h2 l2 u2:Int}(hot:InB 1 tps.length ot)(hos:InB 2 sts.length os)(hok:InB 3 ks.length ok)(hks:∀n∈ks,0≤n∧n≤65535)(hn:0≤point∧point≤255∧0≤one∧one≤65535∧0≤two∧two≤65535) :
   Runs Tryz.prog (fun s=>chkB (Tryz.X []) 3 5 s=true) ⟨AFr.enter Tryz.prog 3 ⟨[bv 3 plank cp ot tps.length ct os sts.length cs,.slice ok ks.length ck,.int .u8 point,.int .u16 one,.int .u16 two]⟩,[],hOf 4 (L4 (pc3 h0 l0 u0 h1 l1 u1 h2 l2 u2) ⟨encT tps⟩ ⟨encS sts⟩ ⟨encK ks⟩)⟩:=by
 have hpl:=pc3_plain h0 l0 u0 h1 l1 u1 h2 l2 u2
 have htc:∀x∈(⟨encT tps⟩:Array Value),Plain x:=fun x hx=>encT_plain tps x (by simpa using hx)
 have hsc:∀x∈(⟨encS sts⟩:Array Value),Plain x:=fun x hx=>encS_plain sts x (by simpa using hx)
 have hkc:∀x∈(⟨encK ks⟩:Array Value),Plain x:=fun x hx=>encK_plain ks x (by simpa using hx)
 have hz:InB 0 3 (some ⟨0,0,none⟩):=⟨fun _=>rfl,fun a e=>by cases e;rfl⟩
 have hB:=ctBook (np:=3) (by decide) (plank:=plank) (cp:=cp) (ct:=ct) (cs:=cs) (lo:=h0) (hi:=h2) hpl hkc rfl rfl hot hos (Tryz.cp3 h0 l0 u0 h1 l1 u1 h2 l2 u2 ⟨encT tps⟩ ⟨encS sts⟩ ⟨encK ks⟩ cp)
 by_cases hV:(0≤plank∧plank≤20)∧Pts [(h0,l0,u0),(h1,l1,u1),(h2,l2,u2)]∧V2 3 tps∧V3 h0 h2 sts
 · refine Tryz.root3 plank h0 l0 u0 h1 l1 u1 h2 l2 u2 point one two cp tps.length ct sts.length cs ks.length ck ⟨encT tps⟩ ⟨encS sts⟩ ⟨encK ks⟩ ot os ok _ (fun h=>h.2.1) hn (conCt hB (conCt (ctChoice hpl htc hsc hok hks) (conCt ?_ noCt)))
   have hS:=ctSnag (np:=3) (by decide) (plank:=plank) (cp:=cp) (ct:=ct) (cs:=cs) (lo:=h0) (hi:=h2) hpl hkc rfl rfl hot hos hV.1 hV.2.2.1 hV.2.2.2 (Tryz.pp3 h0 l0 u0 h1 l1 u1 h2 l2 u2 plank ⟨encT tps⟩ ⟨encS sts⟩ ⟨encK ks⟩ _ _ cp hV.2.1)
   refine ⟨fun p hp=>?_,fun p hp=>(stL4 hpl htc hsc hkc).cons (by decide) (ints_plain _),fun p x hx=>?_,fun x=>tup2_plain _ _⟩
   ·obtain ⟨ht,z0,z1,z2,rfl,hb⟩:=atP3_inv (h0:=h0) (h1:=h1) (h2:=h2) hp
    exact Tryz.at3 h0 l0 u0 h1 l1 u1 h2 l2 u2 z0 z1 z2 ht plank cp tps.length ct sts.length cs ⟨encT tps⟩ ⟨encS sts⟩ ⟨encK ks⟩ ot os hV.2.1 hb (conCt hS noCt)
   ·simp only [atC3,List.mem_toArray,List.mem_cons,List.not_mem_nil,or_false] at hx
    rcases hx with rfl|rfl|rfl
    ·exact okBook (m:=17) (by decide) hz hot hos
    ·exact .slice (show 16 < 17 by decide)
    ·exact .int _ _
 · exact Tryz.rootv plank point one two 3 cp tps.length ct sts.length cs ks.length ck (some ⟨0,0,none⟩) ot os ok (pc3 h0 l0 u0 h1 l1 u1 h2 l2 u2) ⟨encT tps⟩ ⟨encS sts⟩ ⟨encK ks⟩ (conCt ⟨fun p hp=>(hB.rets p hp).mono fun v _ ⟨x,h1,h2⟩=>⟨x,fun e=>hV (h1 e),h2⟩,hB.st,hB.okA,hB.okR⟩ noCt)
theorem atP4_inv{h0 h1 h2 h3:Int}{p:List Int}(h:atP4 h0 h1 h2 h3 p):∃ht z0 z1 z2 z3,p=[ht,z0,z1,z2,z3]∧h0≤ht∧ht≤h3∧0≤z0∧z0≤959∧0≤z1∧z1≤959∧0≤z2∧z2≤959∧0≤z3∧z3≤959:=by
 unfold atP4 at h
 split at h
 · exact ⟨_,_,_,_,_,rfl,h⟩
 · exact h.elim
theorem pc4_plain(h0 l0 u0 h1 l1 u1 h2 l2 u2 h3 l3 u3:Int):∀x∈pc4 h0 l0 u0 h1 l1 u1 h2 l2 u2 h3 l3 u3,Plain x:=fun x hx=>by
 simp only [pc4,List.mem_toArray,List.mem_cons,List.not_mem_nil,or_false] at hx
 rcases hx with rfl|rfl|rfl|rfl|rfl|rfl|rfl|rfl|rfl|rfl|rfl|rfl<;>exact .int _ _
theorem run4{h0 l0 u0 h1 l1 u1 h2 l2 u2 h3 l3 u3:Int}(hot:InB 1 tps.length ot)(hos:InB 2 sts.length os)(hok:InB 3 ks.length ok)(hks:∀n∈ks,0≤n∧n≤65535)(hn:0≤point∧point≤255∧0≤one∧one≤65535∧0≤two∧two≤65535) :
   Runs Tryz.prog (fun s=>chkB (Tryz.X []) 3 5 s=true) ⟨AFr.enter Tryz.prog 3 ⟨[bv 4 plank cp ot tps.length ct os sts.length cs,.slice ok ks.length ck,.int .u8 point,.int .u16 one,.int .u16 two]⟩,[],hOf 4 (L4 (pc4 h0 l0 u0 h1 l1 u1 h2 l2 u2 h3 l3 u3) ⟨encT tps⟩ ⟨encS sts⟩ ⟨encK ks⟩)⟩:=by
 have hpl:=pc4_plain h0 l0 u0 h1 l1 u1 h2 l2 u2 h3 l3 u3
 have htc:∀x∈(⟨encT tps⟩:Array Value),Plain x:=fun x hx=>encT_plain tps x (by simpa using hx)
 have hsc:∀x∈(⟨encS sts⟩:Array Value),Plain x:=fun x hx=>encS_plain sts x (by simpa using hx)
 have hkc:∀x∈(⟨encK ks⟩:Array Value),Plain x:=fun x hx=>encK_plain ks x (by simpa using hx)
 have hz:InB 0 4 (some ⟨0,0,none⟩):=⟨fun _=>rfl,fun a e=>by cases e;rfl⟩
 have hB:=ctBook (np:=4) (by decide) (plank:=plank) (cp:=cp) (ct:=ct) (cs:=cs) (lo:=h0) (hi:=h3) hpl hkc rfl rfl hot hos (Tryz.cp4 h0 l0 u0 h1 l1 u1 h2 l2 u2 h3 l3 u3 ⟨encT tps⟩ ⟨encS sts⟩ ⟨encK ks⟩ cp)
 by_cases hV:(0≤plank∧plank≤20)∧Pts [(h0,l0,u0),(h1,l1,u1),(h2,l2,u2),(h3,l3,u3)]∧V2 4 tps∧V3 h0 h3 sts
 · refine Tryz.root4 plank h0 l0 u0 h1 l1 u1 h2 l2 u2 h3 l3 u3 point one two cp tps.length ct sts.length cs ks.length ck ⟨encT tps⟩ ⟨encS sts⟩ ⟨encK ks⟩ ot os ok _ (fun h=>h.2.1) hn (conCt hB (conCt (ctChoice hpl htc hsc hok hks) (conCt ?_ noCt)))
   have hS:=ctSnag (np:=4) (by decide) (plank:=plank) (cp:=cp) (ct:=ct) (cs:=cs) (lo:=h0) (hi:=h3) hpl hkc rfl rfl hot hos hV.1 hV.2.2.1 hV.2.2.2 (Tryz.pp4 h0 l0 u0 h1 l1 u1 h2 l2 u2 h3 l3 u3 plank ⟨encT tps⟩ ⟨encS sts⟩ ⟨encK ks⟩ _ _ cp hV.2.1)
   refine ⟨fun p hp=>?_,fun p hp=>(stL4 hpl htc hsc hkc).cons (by decide) (ints_plain _),fun p x hx=>?_,fun x=>tup2_plain _ _⟩
   ·obtain ⟨ht,z0,z1,z2,z3,rfl,hb⟩:=atP4_inv (h0:=h0) (h1:=h1) (h2:=h2) (h3:=h3) hp
    exact Tryz.at4 h0 l0 u0 h1 l1 u1 h2 l2 u2 h3 l3 u3 z0 z1 z2 z3 ht plank cp tps.length ct sts.length cs ⟨encT tps⟩ ⟨encS sts⟩ ⟨encK ks⟩ ot os hV.2.1 hb (conCt hS noCt)
   ·simp only [atC4,List.mem_toArray,List.mem_cons,List.not_mem_nil,or_false] at hx
    rcases hx with rfl|rfl|rfl
    ·exact okBook (m:=20) (by decide) hz hot hos
    ·exact .slice (show 19 < 20 by decide)
    ·exact .int _ _
 · exact Tryz.rootv plank point one two 4 cp tps.length ct sts.length cs ks.length ck (some ⟨0,0,none⟩) ot os ok (pc4 h0 l0 u0 h1 l1 u1 h2 l2 u2 h3 l3 u3) ⟨encT tps⟩ ⟨encS sts⟩ ⟨encK ks⟩ (conCt ⟨fun p hp=>(hB.rets p hp).mono fun v _ ⟨x,h1,h2⟩=>⟨x,fun e=>hV (h1 e),h2⟩,hB.st,hB.okA,hB.okR⟩ noCt)
theorem atP5_inv{h0 h1 h2 h3 h4:Int}{p:List Int}(h:atP5 h0 h1 h2 h3 h4 p):∃ht z0 z1 z2 z3 z4,p=[ht,z0,z1,z2,z3,z4]∧h0≤ht∧ht≤h4∧0≤z0∧z0≤959∧0≤z1∧z1≤959∧0≤z2∧z2≤959∧0≤z3∧z3≤959∧0≤z4∧z4≤959:=by
 unfold atP5 at h
 split at h
 · exact ⟨_,_,_,_,_,_,rfl,h⟩
 · exact h.elim
theorem pc5_plain(h0 l0 u0 h1 l1 u1 h2 l2 u2 h3 l3 u3 h4 l4 u4:Int):∀x∈pc5 h0 l0 u0 h1 l1 u1 h2 l2 u2 h3 l3 u3 h4 l4 u4,Plain x:=fun x hx=>by
 simp only [pc5,List.mem_toArray,List.mem_cons,List.not_mem_nil,or_false] at hx
 rcases hx with rfl|rfl|rfl|rfl|rfl|rfl|rfl|rfl|rfl|rfl|rfl|rfl|rfl|rfl|rfl<;>exact .int _ _
theorem run5{h0 l0 u0 h1 l1 u1 h2 l2 u2 h3 l3 u3 h4 l4 u4:Int}(hot:InB 1 tps.length ot)(hos:InB 2 sts.length os)(hok:InB 3 ks.length ok)(hks:∀n∈ks,0≤n∧n≤65535)(hn:0≤point∧point≤255∧0≤one∧one≤65535∧0≤two∧two≤65535) :
   Runs Tryz.prog (fun s=>chkB (Tryz.X []) 3 5 s=true) ⟨AFr.enter Tryz.prog 3 ⟨[bv 5 plank cp ot tps.length ct os sts.length cs,.slice ok ks.length ck,.int .u8 point,.int .u16 one,.int .u16 two]⟩,[],hOf 4 (L4 (pc5 h0 l0 u0 h1 l1 u1 h2 l2 u2 h3 l3 u3 h4 l4 u4) ⟨encT tps⟩ ⟨encS sts⟩ ⟨encK ks⟩)⟩:=by
 have hpl:=pc5_plain h0 l0 u0 h1 l1 u1 h2 l2 u2 h3 l3 u3 h4 l4 u4
 have htc:∀x∈(⟨encT tps⟩:Array Value),Plain x:=fun x hx=>encT_plain tps x (by simpa using hx)
 have hsc:∀x∈(⟨encS sts⟩:Array Value),Plain x:=fun x hx=>encS_plain sts x (by simpa using hx)
 have hkc:∀x∈(⟨encK ks⟩:Array Value),Plain x:=fun x hx=>encK_plain ks x (by simpa using hx)
 have hz:InB 0 5 (some ⟨0,0,none⟩):=⟨fun _=>rfl,fun a e=>by cases e;rfl⟩
 have hB:=ctBook (np:=5) (by decide) (plank:=plank) (cp:=cp) (ct:=ct) (cs:=cs) (lo:=h0) (hi:=h4) hpl hkc rfl rfl hot hos (Tryz.cp5 h0 l0 u0 h1 l1 u1 h2 l2 u2 h3 l3 u3 h4 l4 u4 ⟨encT tps⟩ ⟨encS sts⟩ ⟨encK ks⟩ cp)
 by_cases hV:(0≤plank∧plank≤20)∧Pts [(h0,l0,u0),(h1,l1,u1),(h2,l2,u2),(h3,l3,u3),(h4,l4,u4)]∧V2 5 tps∧V3 h0 h4 sts
 · refine Tryz.root5 plank h0 l0 u0 h1 l1 u1 h2 l2 u2 h3 l3 u3 h4 l4 u4 point one two cp tps.length ct sts.length cs ks.length ck ⟨encT tps⟩ ⟨encS sts⟩ ⟨encK ks⟩ ot os ok _ (fun h=>h.2.1) hn (conCt hB (conCt (ctChoice hpl htc hsc hok hks) (conCt ?_ noCt)))
   have hS:=ctSnag (np:=5) (by decide) (plank:=plank) (cp:=cp) (ct:=ct) (cs:=cs) (lo:=h0) (hi:=h4) hpl hkc rfl rfl hot hos hV.1 hV.2.2.1 hV.2.2.2 (Tryz.pp5 h0 l0 u0 h1 l1 u1 h2 l2 u2 h3 l3 u3 h4 l4 u4 plank ⟨encT tps⟩ ⟨encS sts⟩ ⟨encK ks⟩ _ _ cp hV.2.1)
   refine ⟨fun p hp=>?_,fun p hp=>(stL4 hpl htc hsc hkc).cons (by decide) (ints_plain _),fun p x hx=>?_,fun x=>tup2_plain _ _⟩
   ·obtain ⟨ht,z0,z1,z2,z3,z4,rfl,hb⟩:=atP5_inv (h0:=h0) (h1:=h1) (h2:=h2) (h3:=h3) (h4:=h4) hp
    exact Tryz.at5 h0 l0 u0 h1 l1 u1 h2 l2 u2 h3 l3 u3 h4 l4 u4 z0 z1 z2 z3 z4 ht plank cp tps.length ct sts.length cs ⟨encT tps⟩ ⟨encS sts⟩ ⟨encK ks⟩ ot os hV.2.1 hb (conCt hS noCt)
   ·simp only [atC5,List.mem_toArray,List.mem_cons,List.not_mem_nil,or_false] at hx
    rcases hx with rfl|rfl|rfl
    ·exact okBook (m:=23) (by decide) hz hot hos
    ·exact .slice (show 22 < 23 by decide)
    ·exact .int _ _
 · exact Tryz.rootv plank point one two 5 cp tps.length ct sts.length cs ks.length ck (some ⟨0,0,none⟩) ot os ok (pc5 h0 l0 u0 h1 l1 u1 h2 l2 u2 h3 l3 u3 h4 l4 u4) ⟨encT tps⟩ ⟨encS sts⟩ ⟨encK ks⟩ (conCt ⟨fun p hp=>(hB.rets p hp).mono fun v _ ⟨x,h1,h2⟩=>⟨x,fun e=>hV (h1 e),h2⟩,hB.st,hB.okA,hB.okR⟩ noCt)
theorem runm{np nt ns nk b0 b1 b2 b3:Nat}{op:Option Addr}(hnp:¬(2≤np∧np≤5))(h0:InB 0 b0 op)(h1:InB 1 b1 ot)(h2:InB 2 b2 os) :
   Runs Tryz.prog (fun s=>chkB (Tryz.X []) 3 5 s=true) ⟨AFr.enter Tryz.prog 3 ⟨[bm plank op np cp ot nt ct os ns cs,.slice ok nk ck,.int .u8 point,.int .u16 one,.int .u16 two]⟩,[],hOf 4 []⟩:=by
 have st:StL 4 []:=⟨fun p hp=>absurd hp List.not_mem_nil,fun p hp=>absurd hp List.not_mem_nil,List.nodup_nil⟩
 have e0:OkV (· < 4) (.slice op np cp):=okSl fun a e=>by rw [h0.2 a e];decide
 have okA:∀x∈(⟨[bm plank op np cp ot nt ct os ns cs]⟩:Array Value),OkV (· < 4) x:=fun x hx=>by
   rw [mem1 hx]
   refine .agg fun y hy=>?_
   simp only [List.mem_toArray,List.mem_cons,List.not_mem_nil,or_false] at hy
   rcases hy with rfl|rfl|rfl|rfl
   ·exact .int _ _
   ·exact e0
   ·exact okSl fun a e=>by rw [h1.2 a e];decide
   ·exact okSl fun a e=>by rw [h2.2 a e];decide
 refine Tryz.rootm plank point one two np cp nt ct ns cs nk ck op ot os ok (conCt ⟨fun p _=>?_,fun _ _=>st,fun _=>okA,fun x=>.int _ _⟩ noCt)
 exact Tryz.cbm plank _ _ _ (conCt ⟨fun p _=>Tryz.cpm np op cp 4 [] hnp,fun _ _=>st,fun p x hx=>by rw [mem1 hx];exact e0,fun x=>.int _ _⟩ noCt)
end
end Go.Am
