import Derived.Test.YtmgllphkofdnhaaGreatH42
set_option linter.unusedVariables false
set_option linter.unusedSectionVars false
set_option linter.unusedSimpArgs false
namespace Go.Am
open Go.Proofs
def up:List (Int×Int)→Int→Prop
 | [],_=>True
 | [(a,_)],p=>a < p
 | (a,_) :: (b,c) :: r,p=>a < b∧up ((b,c) :: r) p
theorem up_lt:∀(a c:Int) (r:List (Int×Int)) (p:Int),up ((a,c) :: r) p→a < p
 | a,c,[],p,h=>h
 | a,c,(b,d) :: r,p,h=>Int.lt_trans h.1 (up_lt b d r p h.2)
theorem at_seg:∀(pre:List (Int×Int)) (p x q y:Int) (post:List (Int×Int)) (h:Int),up pre p→p < q→p≤h→h≤q→atL (pre ++ (p,x) :: (q,y) :: post) h=x+(y - x) * (h - p) / (q - p)
 | [],p,x,q,y,post,h,_,_,_,h2=>by simp only [List.nil_append,atL];rw [if_pos h2]
 | [(a,c)],p,x,q,y,post,h,hu,hpq,h1,h2=>by
   have hu':a < p:=hu
   simp only [List.cons_append,List.nil_append,atL]
   split
   · rename_i hh
     have:h=p:=by omega
     subst this
     rw [Int.mul_ediv_cancel _ (by omega)]
     simp
     omega
   · first|rfl|rw [if_pos h2]
 | (a,c) :: (b,d) :: r,p,x,q,y,post,h,hu,hpq,h1,h2=>by
   have h3:=up_lt b d r p hu.2
   have:=at_seg ((b,d) :: r) p x q y post h hu.2 hpq h1 h2
   simp only [List.cons_append] at this ⊢
   rw [atL,if_neg (by omega)]
   exact this
theorem at_facts(pre:List (Int×Int))(p x q y:Int)(post:List (Int×Int))(h k:Int)(hu:up pre p)(hpq:p < q)(h1:p≤h)(h2:h≤k)(h3:k≤q){r1 r2 r3 r4:Int}(e1:r1=atL (pre ++ (p,x) :: (q,y) :: post) p)(e2:r2=atL (pre ++ (p,x) :: (q,y) :: post) q)
   (e3:r3=atL (pre ++ (p,x) :: (q,y) :: post) h) (e4:r4=atL (pre ++ (p,x) :: (q,y) :: post) k):r1=x∧r2=y∧(x≤y→x≤r3∧r3≤r4∧r4≤y)∧(y≤x→r3≤x∧r4≤r3∧y≤r4):=by
 rw [at_seg pre p x q y post _ hu hpq (by omega) (by omega)] at e1 e2 e3 e4
 have hp:0 < q - p:=by omega
 have f1:(y - x) * (p - p) / (q - p)=0:=by rw [Int.sub_self,Int.mul_zero,Int.zero_ediv]
 have f2:(y - x) * (q - p) / (q - p)=y - x:=Int.mul_ediv_cancel _ (by omega)
 refine ⟨by omega,by omega,fun hxy=>?_,fun hxy=>?_⟩
 · have a1:0≤(y - x) * (h - p):=Int.mul_nonneg (by omega) (by omega)
   have a2:(y - x) * (h - p)≤(y - x) * (k - p):=Int.mul_le_mul_of_nonneg_left (by omega) (by omega)
   have a3:(y - x) * (k - p)≤(y - x) * (q - p):=Int.mul_le_mul_of_nonneg_left (by omega) (by omega)
   have b1:=Int.ediv_nonneg a1 (Int.le_of_lt hp)
   have b2:=Int.ediv_le_ediv hp a2
   have b3:=Int.ediv_le_ediv hp a3
   omega
 · have c1:(y - x) * (h - p)≤(y - x) * (p - p):=Int.mul_le_mul_of_nonpos_left (by omega) (by omega)
   have c2:(y - x) * (k - p)≤(y - x) * (h - p):=Int.mul_le_mul_of_nonpos_left (by omega) (by omega)
   have c3:(y - x) * (q - p)≤(y - x) * (k - p):=Int.mul_le_mul_of_nonpos_left (by omega) (by omega)
   have b1:=Int.ediv_le_ediv hp c1
   have b2:=Int.ediv_le_ediv hp c2
   have b3:=Int.ediv_le_ediv hp c3
   omega
def atP2(h0 h1:Int):List Int→Prop
 | [ht,z0,z1]=>h0≤ht∧ht≤h1∧0≤z0∧z0≤959∧0≤z1∧z1≤959
 | _=>False
def atR2(h0 h1:Int):List Int→Int→Prop
 | [ht,z0,z1],x=>x=atL [(h0,z0),(h1,z1)] ht
 | _,_=>False
noncomputable def atC2(h0 l0 u0 h1 l1 u1 plank:Int)(cp nt ct ns cs:Nat)(tc sc kc:Array Value)(ot os:Option Addr):Ct:=⟨9,fun a h=>parOf a 2 :: intsAt h (nth a.toList 1),14,fun ps=>(13,⟨.cells ⟨ps.tail.map fun n=>.int .i64 n⟩ 3 (0,0),some 10,false,1⟩) :: L4 (pc2 h0 l0 u0 h1 l1 u1) tc sc kc,fun ps=>⟨[bv 2 plank cp ot nt ct os ns cs,.slice (some ⟨13,0,none⟩) 2 2,.int .i64 (ps.headD 0)]⟩,atP2 h0 h1,atR2 h0 h1,fun x=>.tuple ⟨[.int .i64 x,.int .i64 0]⟩⟩
def atP3(h0 h1 h2:Int):List Int→Prop
 | [ht,z0,z1,z2]=>h0≤ht∧ht≤h2∧0≤z0∧z0≤959∧0≤z1∧z1≤959∧0≤z2∧z2≤959
 | _=>False
def atR3(h0 h1 h2:Int):List Int→Int→Prop
 | [ht,z0,z1,z2],x=>x=atL [(h0,z0),(h1,z1),(h2,z2)] ht
 | _,_=>False
noncomputable def atC3(h0 l0 u0 h1 l1 u1 h2 l2 u2 plank:Int)(cp nt ct ns cs:Nat)(tc sc kc:Array Value)(ot os:Option Addr):Ct:=⟨9,fun a h=>parOf a 2 :: intsAt h (nth a.toList 1),17,fun ps=>(16,⟨.cells ⟨ps.tail.map fun n=>.int .i64 n⟩ 3 (0,0),some 10,false,1⟩) :: L4 (pc3 h0 l0 u0 h1 l1 u1 h2 l2 u2) tc sc kc,fun ps=>⟨[bv 3 plank cp ot nt ct os ns cs,.slice (some ⟨16,0,none⟩) 3 3,.int .i64 (ps.headD 0)]⟩,atP3 h0 h1 h2,atR3 h0 h1 h2,fun x=>.tuple ⟨[.int .i64 x,.int .i64 0]⟩⟩
def atP4(h0 h1 h2 h3:Int):List Int→Prop
 | [ht,z0,z1,z2,z3]=>h0≤ht∧ht≤h3∧0≤z0∧z0≤959∧0≤z1∧z1≤959∧0≤z2∧z2≤959∧0≤z3∧z3≤959
 | _=>False
def atR4(h0 h1 h2 h3:Int):List Int→Int→Prop
 | [ht,z0,z1,z2,z3],x=>x=atL [(h0,z0),(h1,z1),(h2,z2),(h3,z3)] ht
 | _,_=>False
noncomputable def atC4(h0 l0 u0 h1 l1 u1 h2 l2 u2 h3 l3 u3 plank:Int)(cp nt ct ns cs:Nat)(tc sc kc:Array Value)(ot os:Option Addr):Ct:=⟨9,fun a h=>parOf a 2 :: intsAt h (nth a.toList 1),20,fun ps=>(19,⟨.cells ⟨ps.tail.map fun n=>.int .i64 n⟩ 3 (0,0),some 10,false,1⟩) :: L4 (pc4 h0 l0 u0 h1 l1 u1 h2 l2 u2 h3 l3 u3) tc sc kc,fun ps=>⟨[bv 4 plank cp ot nt ct os ns cs,.slice (some ⟨19,0,none⟩) 4 4,.int .i64 (ps.headD 0)]⟩,atP4 h0 h1 h2 h3,atR4 h0 h1 h2 h3,fun x=>.tuple ⟨[.int .i64 x,.int .i64 0]⟩⟩
def atP5(h0 h1 h2 h3 h4:Int):List Int→Prop
 | [ht,z0,z1,z2,z3,z4]=>h0≤ht∧ht≤h4∧0≤z0∧z0≤959∧0≤z1∧z1≤959∧0≤z2∧z2≤959∧0≤z3∧z3≤959∧0≤z4∧z4≤959
 | _=>False
def atR5(h0 h1 h2 h3 h4:Int):List Int→Int→Prop
 | [ht,z0,z1,z2,z3,z4],x=>x=atL [(h0,z0),(h1,z1),(h2,z2),(h3,z3),(h4,z4)] ht
 | _,_=>False
noncomputable def atC5(h0 l0 u0 h1 l1 u1 h2 l2 u2 h3 l3 u3 h4 l4 u4 plank:Int)(cp nt ct ns cs:Nat)(tc sc kc:Array Value)(ot os:Option Addr):Ct:=⟨9,fun a h=>parOf a 2 :: intsAt h (nth a.toList 1),23,fun ps=>(22,⟨.cells ⟨ps.tail.map fun n=>.int .i64 n⟩ 3 (0,0),some 10,false,1⟩) :: L4 (pc5 h0 l0 u0 h1 l1 u1 h2 l2 u2 h3 l3 u3 h4 l4 u4) tc sc kc,fun ps=>⟨[bv 5 plank cp ot nt ct os ns cs,.slice (some ⟨22,0,none⟩) 5 5,.int .i64 (ps.headD 0)]⟩,atP5 h0 h1 h2 h3 h4,atR5 h0 h1 h2 h3 h4,fun x=>.tuple ⟨[.int .i64 x,.int .i64 0]⟩⟩
abbrev h43t0:HT:=.val 9 2 56 (.val 4 8 12 (.val 0 1 13 (.ov 0 0 (.val 0 0 14 (.val 0 1 15 (.val 8 2 62 (.val 4 8 12 (.val 0 1 13 (.ov 0 0 (.val 0 0 14 (.val 0 1 15 (.val 4 5 66 (.val 0 3 69 (.call 1 5 (.call 1 5 (.call 1 5 (.call 1 5 (.br 1 24 118 .no (.br 0 9 127 .no (.br 2 6 131 (.br 1 6 134 (.br 0 4 138 (.br 0 5 143 (.cut 0 2) .no) .no) .no) (.br 2 5 150 (.br 0 4 154 (.br 0 5 159 (.cut 0 2) .no) .no) .no)))))))))))))))))))))
theorem Tryz.root2_t(plank h0 l0 u0 h1 l1 u1 point one two:Int)(cp nt ct ns cs nk ck:Nat)(tc sc kc:Array Value)(ot os ok:Option Addr)(V:Prop):tx (Tryz.X [⟨11,fun _ _=>[],4,fun _=>L4 (pc2 h0 l0 u0 h1 l1 u1) tc sc kc,fun _=>⟨[(bv 2 plank cp ot nt ct os ns cs)]⟩,fun _=>True,fun _ x=>(x=0→V),fun x=>.int .i64 x⟩,⟨32,fun a _=>[parOf a 1],4,fun _=>L4 (pc2 h0 l0 u0 h1 l1 u1) tc sc kc,fun ps=>⟨[.slice ok nk ck,.int .i64 (ps.headD 0)]⟩,fun _=>True,fun _ x=>(0≤x∧x≤65535),fun x=>.int .i64 x⟩,atC2 h0 l0 u0 h1 l1 u1 plank cp nt ct ns cs tc sc kc ot os]) (fun _=>False) (fun s=>chkB (Tryz.X []) 3 5 s=true) (.val 5 10 10 (.br 0 1 11 (.cut 7 3) (.val 0 5 16 (.br 0 1 17 (.cut 7 3) (.call 3 3 (.br 0 1 9 (.call 14 9 (.val 4 8 12 (.val 0 1 13 (.ov 0 0 (.val 0 0 14 (.val 0 1 15 (.rk 2 1 (.call 8 9 (.val 4 8 12 (.val 0 1 13 (.ov 0 0 (.val 0 0 14 (.val 0 1 15 (.rk 2 1 (.val 9 4 33 (.ov 0 4 (.val 0 0 38 (.spl 0 0 38 0 h43t0 .no)))))))))))))))))) (.cut 4 3))))))) ⟨AFr.enter Tryz.prog 3 ⟨[(bv 2 plank cp ot nt ct os ns cs),.slice ok nk ck,.int .u8 point,.int .u16 one,.int .u16 two]⟩,[],hOf 4 (L4 (pc2 h0 l0 u0 h1 l1 u1) tc sc kc)⟩=(∀x0,x0=((nt:Nat):Int)→BR (decide (x0 > 20)) ((true=true)) (∀x1,x1=((ns:Nat):Int)→BR (decide (x1 > 20)) ((true=true)) (((AE ⟨[(bv 2 plank cp ot nt ct os ns cs)]⟩)∧(E4 (pc2 h0 l0 u0 h1 l1 u1) tc sc kc)∧True)∧∀x2:Int,(x2=0→V)→RK (true) (BR (decide (x2=0)) (((AE ⟨[.slice ok nk ck,.int .i64 0]⟩)∧(E4 (pc2 h0 l0 u0 h1 l1 u1) tc sc kc)∧True)∧∀x3:Int,(0≤x3∧x3≤65535)→RK ((decide (cp=cp) && ((decide (l0=l0) && (decide (u0=u0) && true)) && true))) (∀x4,x4=wi (u0 - l0)→∀x5,x5=wi (x4+1)→((x5:Int)≠0)∧∀x6,x6=Int.tmod x3 x5→∀x7,x7=wi (l0+x6)→RK (((decide (x7=x7) && true) && true)) (((AE ⟨[.slice ok nk ck,.int .i64 1]⟩)∧(E4 (pc2 h0 l0 u0 h1 l1 u1) tc sc kc)∧True)∧∀x8:Int,(0≤x8∧x8≤65535)→RK ((decide (cp=cp) && ((decide (l1=l1) && (decide (u1=u1) && true)) && true))) (∀x9,x9=wi (u1 - l1)→∀x10,x10=wi (x9+1)→((x10:Int)≠0)∧∀x11,x11=Int.tmod x8 x10→∀x12,x12=wi (l1+x11)→RK (((decide (x12=x12) && true) && true)) (∀x13,x13=wi point→((1:Int)≠0)∧∀x14,x14=Int.tmod x13 1→SP x14 0 (∀x15,x15=wi one→∀x16,x16=wi (h1 - h0)→∀x17,x17=wi (x16+1)→((x17:Int)≠0)∧∀x18,x18=Int.tmod x15 x17→∀x19,x19=wi (h0+x18)→∀x20,x20=wi two→∀x21,x21=wi (h1 - h0)→∀x22,x22=wi (x21+1)→((x22:Int)≠0)∧∀x23,x23=Int.tmod x20 x22→∀x24,x24=wi (h0+x23)→∀x25,x25=(if x24 < x19 then x24 else x19)→∀x26,x26=(if x24 > x19 then x24 else x19)→((AE ⟨[(bv 2 plank cp ot nt ct os ns cs),.slice (some ⟨13,0,none⟩) 2 2,.int .i64 h0]⟩)∧(BE (⟨.cells ⟨[.int .i64 x7,.int .i64 x12]⟩ 3 (0,0),(some 10),false,1⟩:Blk)∧E4 (pc2 h0 l0 u0 h1 l1 u1) tc sc kc)∧(h0≤h0∧h0≤h1∧0≤x7∧x7≤959∧0≤x12∧x12≤959))∧∀x27:Int,(x27=atL [(h0,x7),(h1,x12)] h0)→RK (true) (((AE ⟨[(bv 2 plank cp ot nt ct os ns cs),.slice (some ⟨13,0,none⟩) 2 2,.int .i64 h1]⟩)∧(BE (⟨.cells ⟨[.int .i64 x7,.int .i64 x12]⟩ 3 (0,0),(some 10),false,1⟩:Blk)∧E4 (pc2 h0 l0 u0 h1 l1 u1) tc sc kc)∧(h0≤h1∧h1≤h1∧0≤x7∧x7≤959∧0≤x12∧x12≤959))∧∀x28:Int,(x28=atL [(h0,x7),(h1,x12)] h1)→RK (true) (((AE ⟨[(bv 2 plank cp ot nt ct os ns cs),.slice (some ⟨13,0,none⟩) 2 2,.int .i64 x25]⟩)∧(BE (⟨.cells ⟨[.int .i64 x7,.int .i64 x12]⟩ 3 (0,0),(some 10),false,1⟩:Blk)∧E4 (pc2 h0 l0 u0 h1 l1 u1) tc sc kc)∧(h0≤x25∧x25≤h1∧0≤x7∧x7≤959∧0≤x12∧x12≤959))∧∀x29:Int,(x29=atL [(h0,x7),(h1,x12)] x25)→RK (true) (((AE ⟨[(bv 2 plank cp ot nt ct os ns cs),.slice (some ⟨13,0,none⟩) 2 2,.int .i64 x26]⟩)∧(BE (⟨.cells ⟨[.int .i64 x7,.int .i64 x12]⟩ 3 (0,0),(some 10),false,1⟩:Blk)∧E4 (pc2 h0 l0 u0 h1 l1 u1) tc sc kc)∧(h0≤x26∧x26≤h1∧0≤x7∧x7≤959∧0≤x12∧x12≤959))∧∀x30:Int,(x30=atL [(h0,x7),(h1,x12)] x26)→RK (true) (BR (!decide (x27=x7)) (False) (BR (!decide (x28=x12)) (False) (BR (decide (x27≤x28)) (BR (decide (x27≤x29)) (BR (decide (x29≤x30)) (BR (decide (x30≤x28)) ((true=true)) (False)) (False)) (False)) (BR (decide (x27≥x29)) (BR (decide (x29≥x30)) (BR (decide (x30≥x28)) ((true=true)) (False)) (False)) (False))))))))) (False)))))) ((true=true)))))):=by kernel_rfl
set_option maxHeartbeats 4000000 in
theorem Tryz.root2(plank h0 l0 u0 h1 l1 u1 point one two:Int)(cp nt ct ns cs nk ck:Nat)(tc sc kc:Array Value)(ot os ok:Option Addr)(V:Prop)(hV:V→Pts [(h0,l0,u0),(h1,l1,u1)])(hn:0≤point∧point≤255∧0≤one∧one≤65535∧0≤two∧two≤65535)(hc:∀c∈([⟨11,fun _ _=>[],4,fun _=>L4 (pc2 h0 l0 u0 h1 l1 u1) tc sc kc,fun _=>⟨[(bv 2 plank cp ot nt ct os ns cs)]⟩,fun _=>True,fun _ x=>(x=0→V),fun x=>.int .i64 x⟩,⟨32,fun a _=>[parOf a 1],4,fun _=>L4 (pc2 h0 l0 u0 h1 l1 u1) tc sc kc,fun ps=>⟨[.slice ok nk ck,.int .i64 (ps.headD 0)]⟩,fun _=>True,fun _ x=>(0≤x∧x≤65535),fun x=>.int .i64 x⟩,atC2 h0 l0 u0 h1 l1 u1 plank cp nt ct ns cs tc sc kc ot os]:List Ct),CtOk Tryz.prog c):Runs Tryz.prog (fun s=>chkB (Tryz.X []) 3 5 s=true) ⟨AFr.enter Tryz.prog 3 ⟨[(bv 2 plank cp ot nt ct os ns cs),.slice ok nk ck,.int .u8 point,.int .u16 one,.int .u16 two]⟩,[],hOf 4 (L4 (pc2 h0 l0 u0 h1 l1 u1) tc sc kc)⟩:=by
 refine txK_use (X:=Tryz.X [⟨11,fun _ _=>[],4,fun _=>L4 (pc2 h0 l0 u0 h1 l1 u1) tc sc kc,fun _=>⟨[(bv 2 plank cp ot nt ct os ns cs)]⟩,fun _=>True,fun _ x=>(x=0→V),fun x=>.int .i64 x⟩,⟨32,fun a _=>[parOf a 1],4,fun _=>L4 (pc2 h0 l0 u0 h1 l1 u1) tc sc kc,fun ps=>⟨[.slice ok nk ck,.int .i64 (ps.headD 0)]⟩,fun _=>True,fun _ x=>(0≤x∧x≤65535),fun x=>.int .i64 x⟩,atC2 h0 l0 u0 h1 l1 u1 plank cp nt ct ns cs tc sc kc ot os]) (Tryz.ok hc) (Tryz.root2_t plank h0 l0 u0 h1 l1 u1 point one two cp nt ct ns cs nk ck tc sc kc ot os ok V) ?_
 intro x0 _
 refine BR.mk (fun _=>?_) (fun _=>?_)
 ·
  exact rfl
 intro x1 _
 refine BR.mk (fun _=>?_) (fun _=>?_)
 ·
  exact rfl
 refine ⟨⟨rfl,E4i,trivial⟩,fun x2 yV=>⟨rfl,?_⟩⟩
 refine BR.mk (fun _=>?_) (fun _=>?_)
 ·
  refine ⟨⟨rfl,E4i,trivial⟩,fun x3 _=>⟨by simp,?_⟩⟩
  have hP:=hV (yV (by omega))
  simp only [Pts,PtsF,and_true] at hP
  refine va fun x4 _=>?_
  refine va fun x5 _=>?_
  refine ⟨by omega,?_⟩
  refine vs fun x6 _ _=>?_
  refine va fun x7 _=>?_
  refine ⟨by simp,?_⟩
  refine ⟨⟨rfl,E4i,trivial⟩,fun x8 _=>⟨by simp,?_⟩⟩
  refine va fun x9 _=>?_
  refine va fun x10 _=>?_
  refine ⟨by omega,?_⟩
  refine vs fun x11 _ _=>?_
  refine va fun x12 _=>?_
  refine ⟨by simp,?_⟩
  refine va fun x13 _=>?_
  refine ⟨by omega,?_⟩
  refine vs fun x14 _ _=>?_
  refine SP.l (by omega) ?_
  refine va fun x15 _=>?_
  refine va fun x16 _=>?_
  refine va fun x17 _=>?_
  refine ⟨by omega,?_⟩
  refine vs fun x18 _ _=>?_
  refine va fun x19 _=>?_
  refine va fun x20 _=>?_
  refine va fun x21 _=>?_
  refine va fun x22 _=>?_
  refine ⟨by omega,?_⟩
  refine vs fun x23 _ _=>?_
  refine va fun x24 _=>?_
  refine vmn fun x25 _=>?_
  refine vmx fun x26 _=>?_
  refine ⟨⟨rfl,⟨⟨rfl,rfl⟩,E4i⟩,by omega⟩,fun x27 _=>⟨rfl,?_⟩⟩
  refine ⟨⟨rfl,⟨⟨rfl,rfl⟩,E4i⟩,by omega⟩,fun x28 _=>⟨rfl,?_⟩⟩
  refine ⟨⟨rfl,⟨⟨rfl,rfl⟩,E4i⟩,by omega⟩,fun x29 _=>⟨rfl,?_⟩⟩
  refine ⟨⟨rfl,⟨⟨rfl,rfl⟩,E4i⟩,by omega⟩,fun x30 _=>⟨rfl,?_⟩⟩
  have hF:=at_facts [] h0 x7 h1 x12 [] x25 x26 (by simp only [up];try omega) (by omega) (by omega) (by omega) (by omega) (r1:=x27) (r2:=x28) (r3:=x29) (r4:=x30) (by assumption) (by assumption) (by assumption) (by assumption)
  refine BR.nr (by omega) ?_
  refine BR.nr (by omega) ?_
  refine BR.mk (fun _=>?_) (fun _=>?_)
  ·
   refine BR.ll ?_
   refine BR.ll ?_
   refine BR.ll ?_
   exact rfl
  refine BR.ll ?_
  refine BR.ll ?_
  refine BR.ll ?_
  exact rfl
 exact rfl
theorem Tryz.root3_t(plank h0 l0 u0 h1 l1 u1 h2 l2 u2 point one two:Int)(cp nt ct ns cs nk ck:Nat)(tc sc kc:Array Value)(ot os ok:Option Addr)(V:Prop):tx (Tryz.X [⟨11,fun _ _=>[],4,fun _=>L4 (pc3 h0 l0 u0 h1 l1 u1 h2 l2 u2) tc sc kc,fun _=>⟨[(bv 3 plank cp ot nt ct os ns cs)]⟩,fun _=>True,fun _ x=>(x=0→V),fun x=>.int .i64 x⟩,⟨32,fun a _=>[parOf a 1],4,fun _=>L4 (pc3 h0 l0 u0 h1 l1 u1 h2 l2 u2) tc sc kc,fun ps=>⟨[.slice ok nk ck,.int .i64 (ps.headD 0)]⟩,fun _=>True,fun _ x=>(0≤x∧x≤65535),fun x=>.int .i64 x⟩,atC3 h0 l0 u0 h1 l1 u1 h2 l2 u2 plank cp nt ct ns cs tc sc kc ot os]) (fun _=>False) (fun s=>chkB (Tryz.X []) 3 5 s=true) (.val 5 10 10 (.br 0 1 11 (.cut 7 3) (.val 0 5 16 (.br 0 1 17 (.cut 7 3) (.call 3 3 (.br 0 1 9 (.call 14 9 (.val 4 8 12 (.val 0 1 13 (.ov 0 0 (.val 0 0 14 (.val 0 1 15 (.rk 2 1 (.call 8 9 (.val 4 8 12 (.val 0 1 13 (.ov 0 0 (.val 0 0 14 (.val 0 1 15 (.rk 2 1 (.call 8 9 (.val 4 8 12 (.val 0 1 13 (.ov 0 0 (.val 0 0 14 (.val 0 1 15 (.rk 2 1 (.val 9 4 33 (.ov 0 4 (.val 0 0 38 (.spl 0 0 38 0 h43t0 (.spl 0 0 38 1 h43t0 .no)))))))))))))))))))))))))) (.cut 4 3))))))) ⟨AFr.enter Tryz.prog 3 ⟨[(bv 3 plank cp ot nt ct os ns cs),.slice ok nk ck,.int .u8 point,.int .u16 one,.int .u16 two]⟩,[],hOf 4 (L4 (pc3 h0 l0 u0 h1 l1 u1 h2 l2 u2) tc sc kc)⟩=(∀x0,x0=((nt:Nat):Int)→BR (decide (x0 > 20)) ((true=true)) (∀x1,x1=((ns:Nat):Int)→BR (decide (x1 > 20)) ((true=true)) (((AE ⟨[(bv 3 plank cp ot nt ct os ns cs)]⟩)∧(E4 (pc3 h0 l0 u0 h1 l1 u1 h2 l2 u2) tc sc kc)∧True)∧∀x2:Int,(x2=0→V)→RK (true) (BR (decide (x2=0)) (((AE ⟨[.slice ok nk ck,.int .i64 0]⟩)∧(E4 (pc3 h0 l0 u0 h1 l1 u1 h2 l2 u2) tc sc kc)∧True)∧∀x3:Int,(0≤x3∧x3≤65535)→RK ((decide (cp=cp) && ((decide (l0=l0) && (decide (u0=u0) && true)) && true))) (∀x4,x4=wi (u0 - l0)→∀x5,x5=wi (x4+1)→((x5:Int)≠0)∧∀x6,x6=Int.tmod x3 x5→∀x7,x7=wi (l0+x6)→RK (((decide (x7=x7) && true) && true)) (((AE ⟨[.slice ok nk ck,.int .i64 1]⟩)∧(E4 (pc3 h0 l0 u0 h1 l1 u1 h2 l2 u2) tc sc kc)∧True)∧∀x8:Int,(0≤x8∧x8≤65535)→RK ((decide (cp=cp) && ((decide (l1=l1) && (decide (u1=u1) && true)) && true))) (∀x9,x9=wi (u1 - l1)→∀x10,x10=wi (x9+1)→((x10:Int)≠0)∧∀x11,x11=Int.tmod x8 x10→∀x12,x12=wi (l1+x11)→RK (((decide (x12=x12) && true) && true)) (((AE ⟨[.slice ok nk ck,.int .i64 2]⟩)∧(E4 (pc3 h0 l0 u0 h1 l1 u1 h2 l2 u2) tc sc kc)∧True)∧∀x13:Int,(0≤x13∧x13≤65535)→RK ((decide (cp=cp) && ((decide (l2=l2) && (decide (u2=u2) && true)) && true))) (∀x14,x14=wi (u2 - l2)→∀x15,x15=wi (x14+1)→((x15:Int)≠0)∧∀x16,x16=Int.tmod x13 x15→∀x17,x17=wi (l2+x16)→RK (((decide (x17=x17) && true) && true)) (∀x18,x18=wi point→((2:Int)≠0)∧∀x19,x19=Int.tmod x18 2→SP x19 0 (∀x20,x20=wi one→∀x21,x21=wi (h1 - h0)→∀x22,x22=wi (x21+1)→((x22:Int)≠0)∧∀x23,x23=Int.tmod x20 x22→∀x24,x24=wi (h0+x23)→∀x25,x25=wi two→∀x26,x26=wi (h1 - h0)→∀x27,x27=wi (x26+1)→((x27:Int)≠0)∧∀x28,x28=Int.tmod x25 x27→∀x29,x29=wi (h0+x28)→∀x30,x30=(if x29 < x24 then x29 else x24)→∀x31,x31=(if x29 > x24 then x29 else x24)→((AE ⟨[(bv 3 plank cp ot nt ct os ns cs),.slice (some ⟨16,0,none⟩) 3 3,.int .i64 h0]⟩)∧(BE (⟨.cells ⟨[.int .i64 x7,.int .i64 x12,.int .i64 x17]⟩ 3 (0,0),(some 10),false,1⟩:Blk)∧E4 (pc3 h0 l0 u0 h1 l1 u1 h2 l2 u2) tc sc kc)∧(h0≤h0∧h0≤h2∧0≤x7∧x7≤959∧0≤x12∧x12≤959∧0≤x17∧x17≤959))∧∀x32:Int,(x32=atL [(h0,x7),(h1,x12),(h2,x17)] h0)→RK (true) (((AE ⟨[(bv 3 plank cp ot nt ct os ns cs),.slice (some ⟨16,0,none⟩) 3 3,.int .i64 h1]⟩)∧(BE (⟨.cells ⟨[.int .i64 x7,.int .i64 x12,.int .i64 x17]⟩ 3 (0,0),(some 10),false,1⟩:Blk)∧E4 (pc3 h0 l0 u0 h1 l1 u1 h2 l2 u2) tc sc kc)∧(h0≤h1∧h1≤h2∧0≤x7∧x7≤959∧0≤x12∧x12≤959∧0≤x17∧x17≤959))∧∀x33:Int,(x33=atL [(h0,x7),(h1,x12),(h2,x17)] h1)→RK (true) (((AE ⟨[(bv 3 plank cp ot nt ct os ns cs),.slice (some ⟨16,0,none⟩) 3 3,.int .i64 x30]⟩)∧(BE (⟨.cells ⟨[.int .i64 x7,.int .i64 x12,.int .i64 x17]⟩ 3 (0,0),(some 10),false,1⟩:Blk)∧E4 (pc3 h0 l0 u0 h1 l1 u1 h2 l2 u2) tc sc kc)∧(h0≤x30∧x30≤h2∧0≤x7∧x7≤959∧0≤x12∧x12≤959∧0≤x17∧x17≤959))∧∀x34:Int,(x34=atL [(h0,x7),(h1,x12),(h2,x17)] x30)→RK (true) (((AE ⟨[(bv 3 plank cp ot nt ct os ns cs),.slice (some ⟨16,0,none⟩) 3 3,.int .i64 x31]⟩)∧(BE (⟨.cells ⟨[.int .i64 x7,.int .i64 x12,.int .i64 x17]⟩ 3 (0,0),(some 10),false,1⟩:Blk)∧E4 (pc3 h0 l0 u0 h1 l1 u1 h2 l2 u2) tc sc kc)∧(h0≤x31∧x31≤h2∧0≤x7∧x7≤959∧0≤x12∧x12≤959∧0≤x17∧x17≤959))∧∀x35:Int,(x35=atL [(h0,x7),(h1,x12),(h2,x17)] x31)→RK (true) (BR (!decide (x32=x7)) (False) (BR (!decide (x33=x12)) (False) (BR (decide (x32≤x33)) (BR (decide (x32≤x34)) (BR (decide (x34≤x35)) (BR (decide (x35≤x33)) ((true=true)) (False)) (False)) (False)) (BR (decide (x32≥x34)) (BR (decide (x34≥x35)) (BR (decide (x35≥x33)) ((true=true)) (False)) (False)) (False))))))))) (SP x19 1 (∀x36,x36=wi one→∀x37,x37=wi (h2 - h1)→∀x38,x38=wi (x37+1)→((x38:Int)≠0)∧∀x39,x39=Int.tmod x36 x38→∀x40,x40=wi (h1+x39)→∀x41,x41=wi two→∀x42,x42=wi (h2 - h1)→∀x43,x43=wi (x42+1)→((x43:Int)≠0)∧∀x44,x44=Int.tmod x41 x43→∀x45,x45=wi (h1+x44)→∀x46,x46=(if x45 < x40 then x45 else x40)→∀x47,x47=(if x45 > x40 then x45 else x40)→((AE ⟨[(bv 3 plank cp ot nt ct os ns cs),.slice (some ⟨16,0,none⟩) 3 3,.int .i64 h1]⟩)∧(BE (⟨.cells ⟨[.int .i64 x7,.int .i64 x12,.int .i64 x17]⟩ 3 (0,0),(some 10),false,1⟩:Blk)∧E4 (pc3 h0 l0 u0 h1 l1 u1 h2 l2 u2) tc sc kc)∧(h0≤h1∧h1≤h2∧0≤x7∧x7≤959∧0≤x12∧x12≤959∧0≤x17∧x17≤959))∧∀x48:Int,(x48=atL [(h0,x7),(h1,x12),(h2,x17)] h1)→RK (true) (((AE ⟨[(bv 3 plank cp ot nt ct os ns cs),.slice (some ⟨16,0,none⟩) 3 3,.int .i64 h2]⟩)∧(BE (⟨.cells ⟨[.int .i64 x7,.int .i64 x12,.int .i64 x17]⟩ 3 (0,0),(some 10),false,1⟩:Blk)∧E4 (pc3 h0 l0 u0 h1 l1 u1 h2 l2 u2) tc sc kc)∧(h0≤h2∧h2≤h2∧0≤x7∧x7≤959∧0≤x12∧x12≤959∧0≤x17∧x17≤959))∧∀x49:Int,(x49=atL [(h0,x7),(h1,x12),(h2,x17)] h2)→RK (true) (((AE ⟨[(bv 3 plank cp ot nt ct os ns cs),.slice (some ⟨16,0,none⟩) 3 3,.int .i64 x46]⟩)∧(BE (⟨.cells ⟨[.int .i64 x7,.int .i64 x12,.int .i64 x17]⟩ 3 (0,0),(some 10),false,1⟩:Blk)∧E4 (pc3 h0 l0 u0 h1 l1 u1 h2 l2 u2) tc sc kc)∧(h0≤x46∧x46≤h2∧0≤x7∧x7≤959∧0≤x12∧x12≤959∧0≤x17∧x17≤959))∧∀x50:Int,(x50=atL [(h0,x7),(h1,x12),(h2,x17)] x46)→RK (true) (((AE ⟨[(bv 3 plank cp ot nt ct os ns cs),.slice (some ⟨16,0,none⟩) 3 3,.int .i64 x47]⟩)∧(BE (⟨.cells ⟨[.int .i64 x7,.int .i64 x12,.int .i64 x17]⟩ 3 (0,0),(some 10),false,1⟩:Blk)∧E4 (pc3 h0 l0 u0 h1 l1 u1 h2 l2 u2) tc sc kc)∧(h0≤x47∧x47≤h2∧0≤x7∧x7≤959∧0≤x12∧x12≤959∧0≤x17∧x17≤959))∧∀x51:Int,(x51=atL [(h0,x7),(h1,x12),(h2,x17)] x47)→RK (true) (BR (!decide (x48=x12)) (False) (BR (!decide (x49=x17)) (False) (BR (decide (x48≤x49)) (BR (decide (x48≤x50)) (BR (decide (x50≤x51)) (BR (decide (x51≤x49)) ((true=true)) (False)) (False)) (False)) (BR (decide (x48≥x50)) (BR (decide (x50≥x51)) (BR (decide (x51≥x49)) ((true=true)) (False)) (False)) (False))))))))) (False))))))))) ((true=true)))))):=by kernel_rfl
set_option maxHeartbeats 4000000 in
theorem Tryz.root3(plank h0 l0 u0 h1 l1 u1 h2 l2 u2 point one two:Int)(cp nt ct ns cs nk ck:Nat)(tc sc kc:Array Value)(ot os ok:Option Addr)(V:Prop)(hV:V→Pts [(h0,l0,u0),(h1,l1,u1),(h2,l2,u2)])(hn:0≤point∧point≤255∧0≤one∧one≤65535∧0≤two∧two≤65535)(hc:∀c∈([⟨11,fun _ _=>[],4,fun _=>L4 (pc3 h0 l0 u0 h1 l1 u1 h2 l2 u2) tc sc kc,fun _=>⟨[(bv 3 plank cp ot nt ct os ns cs)]⟩,fun _=>True,fun _ x=>(x=0→V),fun x=>.int .i64 x⟩,⟨32,fun a _=>[parOf a 1],4,fun _=>L4 (pc3 h0 l0 u0 h1 l1 u1 h2 l2 u2) tc sc kc,fun ps=>⟨[.slice ok nk ck,.int .i64 (ps.headD 0)]⟩,fun _=>True,fun _ x=>(0≤x∧x≤65535),fun x=>.int .i64 x⟩,atC3 h0 l0 u0 h1 l1 u1 h2 l2 u2 plank cp nt ct ns cs tc sc kc ot os]:List Ct),CtOk Tryz.prog c):Runs Tryz.prog (fun s=>chkB (Tryz.X []) 3 5 s=true) ⟨AFr.enter Tryz.prog 3 ⟨[(bv 3 plank cp ot nt ct os ns cs),.slice ok nk ck,.int .u8 point,.int .u16 one,.int .u16 two]⟩,[],hOf 4 (L4 (pc3 h0 l0 u0 h1 l1 u1 h2 l2 u2) tc sc kc)⟩:=by
 refine txK_use (X:=Tryz.X [⟨11,fun _ _=>[],4,fun _=>L4 (pc3 h0 l0 u0 h1 l1 u1 h2 l2 u2) tc sc kc,fun _=>⟨[(bv 3 plank cp ot nt ct os ns cs)]⟩,fun _=>True,fun _ x=>(x=0→V),fun x=>.int .i64 x⟩,⟨32,fun a _=>[parOf a 1],4,fun _=>L4 (pc3 h0 l0 u0 h1 l1 u1 h2 l2 u2) tc sc kc,fun ps=>⟨[.slice ok nk ck,.int .i64 (ps.headD 0)]⟩,fun _=>True,fun _ x=>(0≤x∧x≤65535),fun x=>.int .i64 x⟩,atC3 h0 l0 u0 h1 l1 u1 h2 l2 u2 plank cp nt ct ns cs tc sc kc ot os]) (Tryz.ok hc) (Tryz.root3_t plank h0 l0 u0 h1 l1 u1 h2 l2 u2 point one two cp nt ct ns cs nk ck tc sc kc ot os ok V) ?_
 intro x0 _
 refine BR.mk (fun _=>?_) (fun _=>?_)
 ·
  exact rfl
 intro x1 _
 refine BR.mk (fun _=>?_) (fun _=>?_)
 ·
  exact rfl
 refine ⟨⟨rfl,E4i,trivial⟩,fun x2 yV=>⟨rfl,?_⟩⟩
 refine BR.mk (fun _=>?_) (fun _=>?_)
 ·
  refine ⟨⟨rfl,E4i,trivial⟩,fun x3 _=>⟨by simp,?_⟩⟩
  have hP:=hV (yV (by omega))
  simp only [Pts,PtsF,and_true] at hP
  refine va fun x4 _=>?_
  refine va fun x5 _=>?_
  refine ⟨by omega,?_⟩
  refine vs fun x6 _ _=>?_
  refine va fun x7 _=>?_
  refine ⟨by simp,?_⟩
  refine ⟨⟨rfl,E4i,trivial⟩,fun x8 _=>⟨by simp,?_⟩⟩
  refine va fun x9 _=>?_
  refine va fun x10 _=>?_
  refine ⟨by omega,?_⟩
  refine vs fun x11 _ _=>?_
  refine va fun x12 _=>?_
  refine ⟨by simp,?_⟩
  refine ⟨⟨rfl,E4i,trivial⟩,fun x13 _=>⟨by simp,?_⟩⟩
  refine va fun x14 _=>?_
  refine va fun x15 _=>?_
  refine ⟨by omega,?_⟩
  refine vs fun x16 _ _=>?_
  refine va fun x17 _=>?_
  refine ⟨by simp,?_⟩
  refine va fun x18 _=>?_
  refine ⟨by omega,?_⟩
  refine vs fun x19 _ _=>?_
  refine SP.mk (fun _=>?_) (fun _=>?_)
  ·
   refine va fun x20 _=>?_
   refine va fun x21 _=>?_
   refine va fun x22 _=>?_
   refine ⟨by omega,?_⟩
   refine vs fun x23 _ _=>?_
   refine va fun x24 _=>?_
   refine va fun x25 _=>?_
   refine va fun x26 _=>?_
   refine va fun x27 _=>?_
   refine ⟨by omega,?_⟩
   refine vs fun x28 _ _=>?_
   refine va fun x29 _=>?_
   refine vmn fun x30 _=>?_
   refine vmx fun x31 _=>?_
   refine ⟨⟨rfl,⟨⟨rfl,rfl⟩,E4i⟩,by omega⟩,fun x32 _=>⟨rfl,?_⟩⟩
   refine ⟨⟨rfl,⟨⟨rfl,rfl⟩,E4i⟩,by omega⟩,fun x33 _=>⟨rfl,?_⟩⟩
   refine ⟨⟨rfl,⟨⟨rfl,rfl⟩,E4i⟩,by omega⟩,fun x34 _=>⟨rfl,?_⟩⟩
   refine ⟨⟨rfl,⟨⟨rfl,rfl⟩,E4i⟩,by omega⟩,fun x35 _=>⟨rfl,?_⟩⟩
   have hF:=at_facts [] h0 x7 h1 x12 [(h2,x17)] x30 x31 (by simp only [up];try omega) (by omega) (by omega) (by omega) (by omega) (r1:=x32) (r2:=x33) (r3:=x34) (r4:=x35) (by assumption) (by assumption) (by assumption) (by assumption)
   refine BR.nr (by omega) ?_
   refine BR.nr (by omega) ?_
   refine BR.mk (fun _=>?_) (fun _=>?_)
   ·
    refine BR.ll ?_
    refine BR.ll ?_
    refine BR.ll ?_
    exact rfl
   refine BR.ll ?_
   refine BR.ll ?_
   refine BR.ll ?_
   exact rfl
  refine SP.l (by omega) ?_
  refine va fun x36 _=>?_
  refine va fun x37 _=>?_
  refine va fun x38 _=>?_
  refine ⟨by omega,?_⟩
  refine vs fun x39 _ _=>?_
  refine va fun x40 _=>?_
  refine va fun x41 _=>?_
  refine va fun x42 _=>?_
  refine va fun x43 _=>?_
  refine ⟨by omega,?_⟩
  refine vs fun x44 _ _=>?_
  refine va fun x45 _=>?_
  refine vmn fun x46 _=>?_
  refine vmx fun x47 _=>?_
  refine ⟨⟨rfl,⟨⟨rfl,rfl⟩,E4i⟩,by omega⟩,fun x48 _=>⟨rfl,?_⟩⟩
  refine ⟨⟨rfl,⟨⟨rfl,rfl⟩,E4i⟩,by omega⟩,fun x49 _=>⟨rfl,?_⟩⟩
  refine ⟨⟨rfl,⟨⟨rfl,rfl⟩,E4i⟩,by omega⟩,fun x50 _=>⟨rfl,?_⟩⟩
  refine ⟨⟨rfl,⟨⟨rfl,rfl⟩,E4i⟩,by omega⟩,fun x51 _=>⟨rfl,?_⟩⟩
  have hF:=at_facts [(h0,x7)] h1 x12 h2 x17 [] x46 x47 (by simp only [up];try omega) (by omega) (by omega) (by omega) (by omega) (r1:=x48) (r2:=x49) (r3:=x50) (r4:=x51) (by assumption) (by assumption) (by assumption) (by assumption)
  refine BR.nr (by omega) ?_
  refine BR.nr (by omega) ?_
  refine BR.mk (fun _=>?_) (fun _=>?_)
  ·
   refine BR.ll ?_
   refine BR.ll ?_
   refine BR.ll ?_
   exact rfl
  refine BR.ll ?_
  refine BR.ll ?_
  refine BR.ll ?_
  exact rfl
 exact rfl
theorem Tryz.root4_t(plank h0 l0 u0 h1 l1 u1 h2 l2 u2 h3 l3 u3 point one two:Int)(cp nt ct ns cs nk ck:Nat)(tc sc kc:Array Value)(ot os ok:Option Addr)(V:Prop):tx (Tryz.X [⟨11,fun _ _=>[],4,fun _=>L4 (pc4 h0 l0 u0 h1 l1 u1 h2 l2 u2 h3 l3 u3) tc sc kc,fun _=>⟨[(bv 4 plank cp ot nt ct os ns cs)]⟩,fun _=>True,fun _ x=>(x=0→V),fun x=>.int .i64 x⟩,⟨32,fun a _=>[parOf a 1],4,fun _=>L4 (pc4 h0 l0 u0 h1 l1 u1 h2 l2 u2 h3 l3 u3) tc sc kc,fun ps=>⟨[.slice ok nk ck,.int .i64 (ps.headD 0)]⟩,fun _=>True,fun _ x=>(0≤x∧x≤65535),fun x=>.int .i64 x⟩,atC4 h0 l0 u0 h1 l1 u1 h2 l2 u2 h3 l3 u3 plank cp nt ct ns cs tc sc kc ot os]) (fun _=>False) (fun s=>chkB (Tryz.X []) 3 5 s=true) (.val 5 10 10 (.br 0 1 11 (.cut 7 3) (.val 0 5 16 (.br 0 1 17 (.cut 7 3) (.call 3 3 (.br 0 1 9 (.call 14 9 (.val 4 8 12 (.val 0 1 13 (.ov 0 0 (.val 0 0 14 (.val 0 1 15 (.rk 2 1 (.call 8 9 (.val 4 8 12 (.val 0 1 13 (.ov 0 0 (.val 0 0 14 (.val 0 1 15 (.rk 2 1 (.call 8 9 (.val 4 8 12 (.val 0 1 13 (.ov 0 0 (.val 0 0 14 (.val 0 1 15 (.rk 2 1 (.call 8 9 (.val 4 8 12 (.val 0 1 13 (.ov 0 0 (.val 0 0 14 (.val 0 1 15 (.rk 2 1 (.val 9 4 33 (.ov 0 4 (.val 0 0 38 (.spl 0 0 38 0 h43t0 (.spl 0 0 38 1 h43t0 (.spl 0 0 38 2 h43t0 .no)))))))))))))))))))))))))))))))))) (.cut 4 3))))))) ⟨AFr.enter Tryz.prog 3 ⟨[(bv 4 plank cp ot nt ct os ns cs),.slice ok nk ck,.int .u8 point,.int .u16 one,.int .u16 two]⟩,[],hOf 4 (L4 (pc4 h0 l0 u0 h1 l1 u1 h2 l2 u2 h3 l3 u3) tc sc kc)⟩=(∀x0,x0=((nt:Nat):Int)→BR (decide (x0 > 20)) ((true=true)) (∀x1,x1=((ns:Nat):Int)→BR (decide (x1 > 20)) ((true=true)) (((AE ⟨[(bv 4 plank cp ot nt ct os ns cs)]⟩)∧(E4 (pc4 h0 l0 u0 h1 l1 u1 h2 l2 u2 h3 l3 u3) tc sc kc)∧True)∧∀x2:Int,(x2=0→V)→RK (true) (BR (decide (x2=0)) (((AE ⟨[.slice ok nk ck,.int .i64 0]⟩)∧(E4 (pc4 h0 l0 u0 h1 l1 u1 h2 l2 u2 h3 l3 u3) tc sc kc)∧True)∧∀x3:Int,(0≤x3∧x3≤65535)→RK ((decide (cp=cp) && ((decide (l0=l0) && (decide (u0=u0) && true)) && true))) (∀x4,x4=wi (u0 - l0)→∀x5,x5=wi (x4+1)→((x5:Int)≠0)∧∀x6,x6=Int.tmod x3 x5→∀x7,x7=wi (l0+x6)→RK (((decide (x7=x7) && true) && true)) (((AE ⟨[.slice ok nk ck,.int .i64 1]⟩)∧(E4 (pc4 h0 l0 u0 h1 l1 u1 h2 l2 u2 h3 l3 u3) tc sc kc)∧True)∧∀x8:Int,(0≤x8∧x8≤65535)→RK ((decide (cp=cp) && ((decide (l1=l1) && (decide (u1=u1) && true)) && true))) (∀x9,x9=wi (u1 - l1)→∀x10,x10=wi (x9+1)→((x10:Int)≠0)∧∀x11,x11=Int.tmod x8 x10→∀x12,x12=wi (l1+x11)→RK (((decide (x12=x12) && true) && true)) (((AE ⟨[.slice ok nk ck,.int .i64 2]⟩)∧(E4 (pc4 h0 l0 u0 h1 l1 u1 h2 l2 u2 h3 l3 u3) tc sc kc)∧True)∧∀x13:Int,(0≤x13∧x13≤65535)→RK ((decide (cp=cp) && ((decide (l2=l2) && (decide (u2=u2) && true)) && true))) (∀x14,x14=wi (u2 - l2)→∀x15,x15=wi (x14+1)→((x15:Int)≠0)∧∀x16,x16=Int.tmod x13 x15→∀x17,x17=wi (l2+x16)→RK (((decide (x17=x17) && true) && true)) (((AE ⟨[.slice ok nk ck,.int .i64 3]⟩)∧(E4 (pc4 h0 l0 u0 h1 l1 u1 h2 l2 u2 h3 l3 u3) tc sc kc)∧True)∧∀x18:Int,(0≤x18∧x18≤65535)→RK ((decide (cp=cp) && ((decide (l3=l3) && (decide (u3=u3) && true)) && true))) (∀x19,x19=wi (u3 - l3)→∀x20,x20=wi (x19+1)→((x20:Int)≠0)∧∀x21,x21=Int.tmod x18 x20→∀x22,x22=wi (l3+x21)→RK (((decide (x22=x22) && true) && true)) (∀x23,x23=wi point→((3:Int)≠0)∧∀x24,x24=Int.tmod x23 3→SP x24 0 (∀x25,x25=wi one→∀x26,x26=wi (h1 - h0)→∀x27,x27=wi (x26+1)→((x27:Int)≠0)∧∀x28,x28=Int.tmod x25 x27→∀x29,x29=wi (h0+x28)→∀x30,x30=wi two→∀x31,x31=wi (h1 - h0)→∀x32,x32=wi (x31+1)→((x32:Int)≠0)∧∀x33,x33=Int.tmod x30 x32→∀x34,x34=wi (h0+x33)→∀x35,x35=(if x34 < x29 then x34 else x29)→∀x36,x36=(if x34 > x29 then x34 else x29)→((AE ⟨[(bv 4 plank cp ot nt ct os ns cs),.slice (some ⟨19,0,none⟩) 4 4,.int .i64 h0]⟩)∧(BE (⟨.cells ⟨[.int .i64 x7,.int .i64 x12,.int .i64 x17,.int .i64 x22]⟩ 3 (0,0),(some 10),false,1⟩:Blk)∧E4 (pc4 h0 l0 u0 h1 l1 u1 h2 l2 u2 h3 l3 u3) tc sc kc)∧(h0≤h0∧h0≤h3∧0≤x7∧x7≤959∧0≤x12∧x12≤959∧0≤x17∧x17≤959∧0≤x22∧x22≤959))∧∀x37:Int,(x37=atL [(h0,x7),(h1,x12),(h2,x17),(h3,x22)] h0)→RK (true) (((AE ⟨[(bv 4 plank cp ot nt ct os ns cs),.slice (some ⟨19,0,none⟩) 4 4,.int .i64 h1]⟩)∧(BE (⟨.cells ⟨[.int .i64 x7,.int .i64 x12,.int .i64 x17,.int .i64 x22]⟩ 3 (0,0),(some 10),false,1⟩:Blk)∧E4 (pc4 h0 l0 u0 h1 l1 u1 h2 l2 u2 h3 l3 u3) tc sc kc)∧(h0≤h1∧h1≤h3∧0≤x7∧x7≤959∧0≤x12∧x12≤959∧0≤x17∧x17≤959∧0≤x22∧x22≤959))∧∀x38:Int,(x38=atL [(h0,x7),(h1,x12),(h2,x17),(h3,x22)] h1)→RK (true) (((AE ⟨[(bv 4 plank cp ot nt ct os ns cs),.slice (some ⟨19,0,none⟩) 4 4,.int .i64 x35]⟩)∧(BE (⟨.cells ⟨[.int .i64 x7,.int .i64 x12,.int .i64 x17,.int .i64 x22]⟩ 3 (0,0),(some 10),false,1⟩:Blk)∧E4 (pc4 h0 l0 u0 h1 l1 u1 h2 l2 u2 h3 l3 u3) tc sc kc)∧(h0≤x35∧x35≤h3∧0≤x7∧x7≤959∧0≤x12∧x12≤959∧0≤x17∧x17≤959∧0≤x22∧x22≤959))∧∀x39:Int,(x39=atL [(h0,x7),(h1,x12),(h2,x17),(h3,x22)] x35)→RK (true) (((AE ⟨[(bv 4 plank cp ot nt ct os ns cs),.slice (some ⟨19,0,none⟩) 4 4,.int .i64 x36]⟩)∧(BE (⟨.cells ⟨[.int .i64 x7,.int .i64 x12,.int .i64 x17,.int .i64 x22]⟩ 3 (0,0),(some 10),false,1⟩:Blk)∧E4 (pc4 h0 l0 u0 h1 l1 u1 h2 l2 u2 h3 l3 u3) tc sc kc)∧(h0≤x36∧x36≤h3∧0≤x7∧x7≤959∧0≤x12∧x12≤959∧0≤x17∧x17≤959∧0≤x22∧x22≤959))∧∀x40:Int,(x40=atL [(h0,x7),(h1,x12),(h2,x17),(h3,x22)] x36)→RK (true) (BR (!decide (x37=x7)) (False) (BR (!decide (x38=x12)) (False) (BR (decide (x37≤x38)) (BR (decide (x37≤x39)) (BR (decide (x39≤x40)) (BR (decide (x40≤x38)) ((true=true)) (False)) (False)) (False)) (BR (decide (x37≥x39)) (BR (decide (x39≥x40)) (BR (decide (x40≥x38)) ((true=true)) (False)) (False)) (False))))))))) (SP x24 1 (∀x41,x41=wi one→∀x42,x42=wi (h2 - h1)→∀x43,x43=wi (x42+1)→((x43:Int)≠0)∧∀x44,x44=Int.tmod x41 x43→∀x45,x45=wi (h1+x44)→∀x46,x46=wi two→∀x47,x47=wi (h2 - h1)→∀x48,x48=wi (x47+1)→((x48:Int)≠0)∧∀x49,x49=Int.tmod x46 x48→∀x50,x50=wi (h1+x49)→∀x51,x51=(if x50 < x45 then x50 else x45)→∀x52,x52=(if x50 > x45 then x50 else x45)→((AE ⟨[(bv 4 plank cp ot nt ct os ns cs),.slice (some ⟨19,0,none⟩) 4 4,.int .i64 h1]⟩)∧(BE (⟨.cells ⟨[.int .i64 x7,.int .i64 x12,.int .i64 x17,.int .i64 x22]⟩ 3 (0,0),(some 10),false,1⟩:Blk)∧E4 (pc4 h0 l0 u0 h1 l1 u1 h2 l2 u2 h3 l3 u3) tc sc kc)∧(h0≤h1∧h1≤h3∧0≤x7∧x7≤959∧0≤x12∧x12≤959∧0≤x17∧x17≤959∧0≤x22∧x22≤959))∧∀x53:Int,(x53=atL [(h0,x7),(h1,x12),(h2,x17),(h3,x22)] h1)→RK (true) (((AE ⟨[(bv 4 plank cp ot nt ct os ns cs),.slice (some ⟨19,0,none⟩) 4 4,.int .i64 h2]⟩)∧(BE (⟨.cells ⟨[.int .i64 x7,.int .i64 x12,.int .i64 x17,.int .i64 x22]⟩ 3 (0,0),(some 10),false,1⟩:Blk)∧E4 (pc4 h0 l0 u0 h1 l1 u1 h2 l2 u2 h3 l3 u3) tc sc kc)∧(h0≤h2∧h2≤h3∧0≤x7∧x7≤959∧0≤x12∧x12≤959∧0≤x17∧x17≤959∧0≤x22∧x22≤959))∧∀x54:Int,(x54=atL [(h0,x7),(h1,x12),(h2,x17),(h3,x22)] h2)→RK (true) (((AE ⟨[(bv 4 plank cp ot nt ct os ns cs),.slice (some ⟨19,0,none⟩) 4 4,.int .i64 x51]⟩)∧(BE (⟨.cells ⟨[.int .i64 x7,.int .i64 x12,.int .i64 x17,.int .i64 x22]⟩ 3 (0,0),(some 10),false,1⟩:Blk)∧E4 (pc4 h0 l0 u0 h1 l1 u1 h2 l2 u2 h3 l3 u3) tc sc kc)∧(h0≤x51∧x51≤h3∧0≤x7∧x7≤959∧0≤x12∧x12≤959∧0≤x17∧x17≤959∧0≤x22∧x22≤959))∧∀x55:Int,(x55=atL [(h0,x7),(h1,x12),(h2,x17),(h3,x22)] x51)→RK (true) (((AE ⟨[(bv 4 plank cp ot nt ct os ns cs),.slice (some ⟨19,0,none⟩) 4 4,.int .i64 x52]⟩)∧(BE (⟨.cells ⟨[.int .i64 x7,.int .i64 x12,.int .i64 x17,.int .i64 x22]⟩ 3 (0,0),(some 10),false,1⟩:Blk)∧E4 (pc4 h0 l0 u0 h1 l1 u1 h2 l2 u2 h3 l3 u3) tc sc kc)∧(h0≤x52∧x52≤h3∧0≤x7∧x7≤959∧0≤x12∧x12≤959∧0≤x17∧x17≤959∧0≤x22∧x22≤959))∧∀x56:Int,(x56=atL [(h0,x7),(h1,x12),(h2,x17),(h3,x22)] x52)→RK (true) (BR (!decide (x53=x12)) (False) (BR (!decide (x54=x17)) (False) (BR (decide (x53≤x54)) (BR (decide (x53≤x55)) (BR (decide (x55≤x56)) (BR (decide (x56≤x54)) ((true=true)) (False)) (False)) (False)) (BR (decide (x53≥x55)) (BR (decide (x55≥x56)) (BR (decide (x56≥x54)) ((true=true)) (False)) (False)) (False))))))))) (SP x24 2 (∀x57,x57=wi one→∀x58,x58=wi (h3 - h2)→∀x59,x59=wi (x58+1)→((x59:Int)≠0)∧∀x60,x60=Int.tmod x57 x59→∀x61,x61=wi (h2+x60)→∀x62,x62=wi two→∀x63,x63=wi (h3 - h2)→∀x64,x64=wi (x63+1)→((x64:Int)≠0)∧∀x65,x65=Int.tmod x62 x64→∀x66,x66=wi (h2+x65)→∀x67,x67=(if x66 < x61 then x66 else x61)→∀x68,x68=(if x66 > x61 then x66 else x61)→((AE ⟨[(bv 4 plank cp ot nt ct os ns cs),.slice (some ⟨19,0,none⟩) 4 4,.int .i64 h2]⟩)∧(BE (⟨.cells ⟨[.int .i64 x7,.int .i64 x12,.int .i64 x17,.int .i64 x22]⟩ 3 (0,0),(some 10),false,1⟩:Blk)∧E4 (pc4 h0 l0 u0 h1 l1 u1 h2 l2 u2 h3 l3 u3) tc sc kc)∧(h0≤h2∧h2≤h3∧0≤x7∧x7≤959∧0≤x12∧x12≤959∧0≤x17∧x17≤959∧0≤x22∧x22≤959))∧∀x69:Int,(x69=atL [(h0,x7),(h1,x12),(h2,x17),(h3,x22)] h2)→RK (true) (((AE ⟨[(bv 4 plank cp ot nt ct os ns cs),.slice (some ⟨19,0,none⟩) 4 4,.int .i64 h3]⟩)∧(BE (⟨.cells ⟨[.int .i64 x7,.int .i64 x12,.int .i64 x17,.int .i64 x22]⟩ 3 (0,0),(some 10),false,1⟩:Blk)∧E4 (pc4 h0 l0 u0 h1 l1 u1 h2 l2 u2 h3 l3 u3) tc sc kc)∧(h0≤h3∧h3≤h3∧0≤x7∧x7≤959∧0≤x12∧x12≤959∧0≤x17∧x17≤959∧0≤x22∧x22≤959))∧∀x70:Int,(x70=atL [(h0,x7),(h1,x12),(h2,x17),(h3,x22)] h3)→RK (true) (((AE ⟨[(bv 4 plank cp ot nt ct os ns cs),.slice (some ⟨19,0,none⟩) 4 4,.int .i64 x67]⟩)∧(BE (⟨.cells ⟨[.int .i64 x7,.int .i64 x12,.int .i64 x17,.int .i64 x22]⟩ 3 (0,0),(some 10),false,1⟩:Blk)∧E4 (pc4 h0 l0 u0 h1 l1 u1 h2 l2 u2 h3 l3 u3) tc sc kc)∧(h0≤x67∧x67≤h3∧0≤x7∧x7≤959∧0≤x12∧x12≤959∧0≤x17∧x17≤959∧0≤x22∧x22≤959))∧∀x71:Int,(x71=atL [(h0,x7),(h1,x12),(h2,x17),(h3,x22)] x67)→RK (true) (((AE ⟨[(bv 4 plank cp ot nt ct os ns cs),.slice (some ⟨19,0,none⟩) 4 4,.int .i64 x68]⟩)∧(BE (⟨.cells ⟨[.int .i64 x7,.int .i64 x12,.int .i64 x17,.int .i64 x22]⟩ 3 (0,0),(some 10),false,1⟩:Blk)∧E4 (pc4 h0 l0 u0 h1 l1 u1 h2 l2 u2 h3 l3 u3) tc sc kc)∧(h0≤x68∧x68≤h3∧0≤x7∧x7≤959∧0≤x12∧x12≤959∧0≤x17∧x17≤959∧0≤x22∧x22≤959))∧∀x72:Int,(x72=atL [(h0,x7),(h1,x12),(h2,x17),(h3,x22)] x68)→RK (true) (BR (!decide (x69=x17)) (False) (BR (!decide (x70=x22)) (False) (BR (decide (x69≤x70)) (BR (decide (x69≤x71)) (BR (decide (x71≤x72)) (BR (decide (x72≤x70)) ((true=true)) (False)) (False)) (False)) (BR (decide (x69≥x71)) (BR (decide (x71≥x72)) (BR (decide (x72≥x70)) ((true=true)) (False)) (False)) (False))))))))) (False)))))))))))) ((true=true)))))):=by kernel_rfl
set_option maxHeartbeats 4000000 in
theorem Tryz.root4(plank h0 l0 u0 h1 l1 u1 h2 l2 u2 h3 l3 u3 point one two:Int)(cp nt ct ns cs nk ck:Nat)(tc sc kc:Array Value)(ot os ok:Option Addr)(V:Prop)(hV:V→Pts [(h0,l0,u0),(h1,l1,u1),(h2,l2,u2),(h3,l3,u3)])(hn:0≤point∧point≤255∧0≤one∧one≤65535∧0≤two∧two≤65535)(hc:∀c∈([⟨11,fun _ _=>[],4,fun _=>L4 (pc4 h0 l0 u0 h1 l1 u1 h2 l2 u2 h3 l3 u3) tc sc kc,fun _=>⟨[(bv 4 plank cp ot nt ct os ns cs)]⟩,fun _=>True,fun _ x=>(x=0→V),fun x=>.int .i64 x⟩,⟨32,fun a _=>[parOf a 1],4,fun _=>L4 (pc4 h0 l0 u0 h1 l1 u1 h2 l2 u2 h3 l3 u3) tc sc kc,fun ps=>⟨[.slice ok nk ck,.int .i64 (ps.headD 0)]⟩,fun _=>True,fun _ x=>(0≤x∧x≤65535),fun x=>.int .i64 x⟩,atC4 h0 l0 u0 h1 l1 u1 h2 l2 u2 h3 l3 u3 plank cp nt ct ns cs tc sc kc ot os]:List Ct),CtOk Tryz.prog c):Runs Tryz.prog (fun s=>chkB (Tryz.X []) 3 5 s=true) ⟨AFr.enter Tryz.prog 3 ⟨[(bv 4 plank cp ot nt ct os ns cs),.slice ok nk ck,.int .u8 point,.int .u16 one,.int .u16 two]⟩,[],hOf 4 (L4 (pc4 h0 l0 u0 h1 l1 u1 h2 l2 u2 h3 l3 u3) tc sc kc)⟩:=by
 refine txK_use (X:=Tryz.X [⟨11,fun _ _=>[],4,fun _=>L4 (pc4 h0 l0 u0 h1 l1 u1 h2 l2 u2 h3 l3 u3) tc sc kc,fun _=>⟨[(bv 4 plank cp ot nt ct os ns cs)]⟩,fun _=>True,fun _ x=>(x=0→V),fun x=>.int .i64 x⟩,⟨32,fun a _=>[parOf a 1],4,fun _=>L4 (pc4 h0 l0 u0 h1 l1 u1 h2 l2 u2 h3 l3 u3) tc sc kc,fun ps=>⟨[.slice ok nk ck,.int .i64 (ps.headD 0)]⟩,fun _=>True,fun _ x=>(0≤x∧x≤65535),fun x=>.int .i64 x⟩,atC4 h0 l0 u0 h1 l1 u1 h2 l2 u2 h3 l3 u3 plank cp nt ct ns cs tc sc kc ot os]) (Tryz.ok hc) (Tryz.root4_t plank h0 l0 u0 h1 l1 u1 h2 l2 u2 h3 l3 u3 point one two cp nt ct ns cs nk ck tc sc kc ot os ok V) ?_
 intro x0 _
 refine BR.mk (fun _=>?_) (fun _=>?_)
 ·
  exact rfl
 intro x1 _
 refine BR.mk (fun _=>?_) (fun _=>?_)
 ·
  exact rfl
 refine ⟨⟨rfl,E4i,trivial⟩,fun x2 yV=>⟨rfl,?_⟩⟩
 refine BR.mk (fun _=>?_) (fun _=>?_)
 ·
  refine ⟨⟨rfl,E4i,trivial⟩,fun x3 _=>⟨by simp,?_⟩⟩
  have hP:=hV (yV (by omega))
  simp only [Pts,PtsF,and_true] at hP
  refine va fun x4 _=>?_
  refine va fun x5 _=>?_
  refine ⟨by omega,?_⟩
  refine vs fun x6 _ _=>?_
  refine va fun x7 _=>?_
  refine ⟨by simp,?_⟩
  refine ⟨⟨rfl,E4i,trivial⟩,fun x8 _=>⟨by simp,?_⟩⟩
  refine va fun x9 _=>?_
  refine va fun x10 _=>?_
  refine ⟨by omega,?_⟩
  refine vs fun x11 _ _=>?_
  refine va fun x12 _=>?_
  refine ⟨by simp,?_⟩
  refine ⟨⟨rfl,E4i,trivial⟩,fun x13 _=>⟨by simp,?_⟩⟩
  refine va fun x14 _=>?_
  refine va fun x15 _=>?_
  refine ⟨by omega,?_⟩
  refine vs fun x16 _ _=>?_
  refine va fun x17 _=>?_
  refine ⟨by simp,?_⟩
  refine ⟨⟨rfl,E4i,trivial⟩,fun x18 _=>⟨by simp,?_⟩⟩
  refine va fun x19 _=>?_
  refine va fun x20 _=>?_
  refine ⟨by omega,?_⟩
  refine vs fun x21 _ _=>?_
  refine va fun x22 _=>?_
  refine ⟨by simp,?_⟩
  refine va fun x23 _=>?_
  refine ⟨by omega,?_⟩
  refine vs fun x24 _ _=>?_
  refine SP.mk (fun _=>?_) (fun _=>?_)
  ·
   refine va fun x25 _=>?_
   refine va fun x26 _=>?_
   refine va fun x27 _=>?_
   refine ⟨by omega,?_⟩
   refine vs fun x28 _ _=>?_
   refine va fun x29 _=>?_
   refine va fun x30 _=>?_
   refine va fun x31 _=>?_
   refine va fun x32 _=>?_
   refine ⟨by omega,?_⟩
   refine vs fun x33 _ _=>?_
   refine va fun x34 _=>?_
   refine vmn fun x35 _=>?_
   refine vmx fun x36 _=>?_
   refine ⟨⟨rfl,⟨⟨rfl,rfl⟩,E4i⟩,by omega⟩,fun x37 _=>⟨rfl,?_⟩⟩
   refine ⟨⟨rfl,⟨⟨rfl,rfl⟩,E4i⟩,by omega⟩,fun x38 _=>⟨rfl,?_⟩⟩
   refine ⟨⟨rfl,⟨⟨rfl,rfl⟩,E4i⟩,by omega⟩,fun x39 _=>⟨rfl,?_⟩⟩
   refine ⟨⟨rfl,⟨⟨rfl,rfl⟩,E4i⟩,by omega⟩,fun x40 _=>⟨rfl,?_⟩⟩
   have hF:=at_facts [] h0 x7 h1 x12 [(h2,x17),(h3,x22)] x35 x36 (by simp only [up];try omega) (by omega) (by omega) (by omega) (by omega) (r1:=x37) (r2:=x38) (r3:=x39) (r4:=x40) (by assumption) (by assumption) (by assumption) (by assumption)
   refine BR.nr (by omega) ?_
   refine BR.nr (by omega) ?_
   refine BR.mk (fun _=>?_) (fun _=>?_)
   ·
    refine BR.ll ?_
    refine BR.ll ?_
    refine BR.ll ?_
    exact rfl
   refine BR.ll ?_
   refine BR.ll ?_
   refine BR.ll ?_
   exact rfl
  refine SP.mk (fun _=>?_) (fun _=>?_)
  ·
   refine va fun x41 _=>?_
   refine va fun x42 _=>?_
   refine va fun x43 _=>?_
   refine ⟨by omega,?_⟩
   refine vs fun x44 _ _=>?_
   refine va fun x45 _=>?_
   refine va fun x46 _=>?_
   refine va fun x47 _=>?_
   refine va fun x48 _=>?_
   refine ⟨by omega,?_⟩
   refine vs fun x49 _ _=>?_
   refine va fun x50 _=>?_
   refine vmn fun x51 _=>?_
   refine vmx fun x52 _=>?_
   refine ⟨⟨rfl,⟨⟨rfl,rfl⟩,E4i⟩,by omega⟩,fun x53 _=>⟨rfl,?_⟩⟩
   refine ⟨⟨rfl,⟨⟨rfl,rfl⟩,E4i⟩,by omega⟩,fun x54 _=>⟨rfl,?_⟩⟩
   refine ⟨⟨rfl,⟨⟨rfl,rfl⟩,E4i⟩,by omega⟩,fun x55 _=>⟨rfl,?_⟩⟩
   refine ⟨⟨rfl,⟨⟨rfl,rfl⟩,E4i⟩,by omega⟩,fun x56 _=>⟨rfl,?_⟩⟩
   have hF:=at_facts [(h0,x7)] h1 x12 h2 x17 [(h3,x22)] x51 x52 (by simp only [up];try omega) (by omega) (by omega) (by omega) (by omega) (r1:=x53) (r2:=x54) (r3:=x55) (r4:=x56) (by assumption) (by assumption) (by assumption) (by assumption)
   refine BR.nr (by omega) ?_
   refine BR.nr (by omega) ?_
   refine BR.mk (fun _=>?_) (fun _=>?_)
   ·
    refine BR.ll ?_
    refine BR.ll ?_
    refine BR.ll ?_
    exact rfl
   refine BR.ll ?_
   refine BR.ll ?_
   refine BR.ll ?_
   exact rfl
  refine SP.l (by omega) ?_
  refine va fun x57 _=>?_
  refine va fun x58 _=>?_
  refine va fun x59 _=>?_
  refine ⟨by omega,?_⟩
  refine vs fun x60 _ _=>?_
  refine va fun x61 _=>?_
  refine va fun x62 _=>?_
  refine va fun x63 _=>?_
  refine va fun x64 _=>?_
  refine ⟨by omega,?_⟩
  refine vs fun x65 _ _=>?_
  refine va fun x66 _=>?_
  refine vmn fun x67 _=>?_
  refine vmx fun x68 _=>?_
  refine ⟨⟨rfl,⟨⟨rfl,rfl⟩,E4i⟩,by omega⟩,fun x69 _=>⟨rfl,?_⟩⟩
  refine ⟨⟨rfl,⟨⟨rfl,rfl⟩,E4i⟩,by omega⟩,fun x70 _=>⟨rfl,?_⟩⟩
  refine ⟨⟨rfl,⟨⟨rfl,rfl⟩,E4i⟩,by omega⟩,fun x71 _=>⟨rfl,?_⟩⟩
  refine ⟨⟨rfl,⟨⟨rfl,rfl⟩,E4i⟩,by omega⟩,fun x72 _=>⟨rfl,?_⟩⟩
  have hF:=at_facts [(h0,x7),(h1,x12)] h2 x17 h3 x22 [] x67 x68 (by simp only [up];try omega) (by omega) (by omega) (by omega) (by omega) (r1:=x69) (r2:=x70) (r3:=x71) (r4:=x72) (by assumption) (by assumption) (by assumption) (by assumption)
  refine BR.nr (by omega) ?_
  refine BR.nr (by omega) ?_
  refine BR.mk (fun _=>?_) (fun _=>?_)
  ·
   refine BR.ll ?_
   refine BR.ll ?_
   refine BR.ll ?_
   exact rfl
  refine BR.ll ?_
  refine BR.ll ?_
  refine BR.ll ?_
  exact rfl
 exact rfl
theorem Tryz.root5_t(plank h0 l0 u0 h1 l1 u1 h2 l2 u2 h3 l3 u3 h4 l4 u4 point one two:Int)(cp nt ct ns cs nk ck:Nat)(tc sc kc:Array Value)(ot os ok:Option Addr)(V:Prop):tx (Tryz.X [⟨11,fun _ _=>[],4,fun _=>L4 (pc5 h0 l0 u0 h1 l1 u1 h2 l2 u2 h3 l3 u3 h4 l4 u4) tc sc kc,fun _=>⟨[(bv 5 plank cp ot nt ct os ns cs)]⟩,fun _=>True,fun _ x=>(x=0→V),fun x=>.int .i64 x⟩,⟨32,fun a _=>[parOf a 1],4,fun _=>L4 (pc5 h0 l0 u0 h1 l1 u1 h2 l2 u2 h3 l3 u3 h4 l4 u4) tc sc kc,fun ps=>⟨[.slice ok nk ck,.int .i64 (ps.headD 0)]⟩,fun _=>True,fun _ x=>(0≤x∧x≤65535),fun x=>.int .i64 x⟩,atC5 h0 l0 u0 h1 l1 u1 h2 l2 u2 h3 l3 u3 h4 l4 u4 plank cp nt ct ns cs tc sc kc ot os]) (fun _=>False) (fun s=>chkB (Tryz.X []) 3 5 s=true) (.val 5 10 10 (.br 0 1 11 (.cut 7 3) (.val 0 5 16 (.br 0 1 17 (.cut 7 3) (.call 3 3 (.br 0 1 9 (.call 14 9 (.val 4 8 12 (.val 0 1 13 (.ov 0 0 (.val 0 0 14 (.val 0 1 15 (.rk 2 1 (.call 8 9 (.val 4 8 12 (.val 0 1 13 (.ov 0 0 (.val 0 0 14 (.val 0 1 15 (.rk 2 1 (.call 8 9 (.val 4 8 12 (.val 0 1 13 (.ov 0 0 (.val 0 0 14 (.val 0 1 15 (.rk 2 1 (.call 8 9 (.val 4 8 12 (.val 0 1 13 (.ov 0 0 (.val 0 0 14 (.val 0 1 15 (.rk 2 1 (.call 8 9 (.val 4 8 12 (.val 0 1 13 (.ov 0 0 (.val 0 0 14 (.val 0 1 15 (.rk 2 1 (.val 9 4 33 (.ov 0 4 (.val 0 0 38 (.spl 0 0 38 0 h43t0 (.spl 0 0 38 1 h43t0 (.spl 0 0 38 2 h43t0 (.spl 0 0 38 3 h43t0 .no)))))))))))))))))))))))))))))))))))))))))) (.cut 4 3))))))) ⟨AFr.enter Tryz.prog 3 ⟨[(bv 5 plank cp ot nt ct os ns cs),.slice ok nk ck,.int .u8 point,.int .u16 one,.int .u16 two]⟩,[],hOf 4 (L4 (pc5 h0 l0 u0 h1 l1 u1 h2 l2 u2 h3 l3 u3 h4 l4 u4) tc sc kc)⟩=(∀x0,x0=((nt:Nat):Int)→BR (decide (x0 > 20)) ((true=true)) (∀x1,x1=((ns:Nat):Int)→BR (decide (x1 > 20)) ((true=true)) (((AE ⟨[(bv 5 plank cp ot nt ct os ns cs)]⟩)∧(E4 (pc5 h0 l0 u0 h1 l1 u1 h2 l2 u2 h3 l3 u3 h4 l4 u4) tc sc kc)∧True)∧∀x2:Int,(x2=0→V)→RK (true) (BR (decide (x2=0)) (((AE ⟨[.slice ok nk ck,.int .i64 0]⟩)∧(E4 (pc5 h0 l0 u0 h1 l1 u1 h2 l2 u2 h3 l3 u3 h4 l4 u4) tc sc kc)∧True)∧∀x3:Int,(0≤x3∧x3≤65535)→RK ((decide (cp=cp) && ((decide (l0=l0) && (decide (u0=u0) && true)) && true))) (∀x4,x4=wi (u0 - l0)→∀x5,x5=wi (x4+1)→((x5:Int)≠0)∧∀x6,x6=Int.tmod x3 x5→∀x7,x7=wi (l0+x6)→RK (((decide (x7=x7) && true) && true)) (((AE ⟨[.slice ok nk ck,.int .i64 1]⟩)∧(E4 (pc5 h0 l0 u0 h1 l1 u1 h2 l2 u2 h3 l3 u3 h4 l4 u4) tc sc kc)∧True)∧∀x8:Int,(0≤x8∧x8≤65535)→RK ((decide (cp=cp) && ((decide (l1=l1) && (decide (u1=u1) && true)) && true))) (∀x9,x9=wi (u1 - l1)→∀x10,x10=wi (x9+1)→((x10:Int)≠0)∧∀x11,x11=Int.tmod x8 x10→∀x12,x12=wi (l1+x11)→RK (((decide (x12=x12) && true) && true)) (((AE ⟨[.slice ok nk ck,.int .i64 2]⟩)∧(E4 (pc5 h0 l0 u0 h1 l1 u1 h2 l2 u2 h3 l3 u3 h4 l4 u4) tc sc kc)∧True)∧∀x13:Int,(0≤x13∧x13≤65535)→RK ((decide (cp=cp) && ((decide (l2=l2) && (decide (u2=u2) && true)) && true))) (∀x14,x14=wi (u2 - l2)→∀x15,x15=wi (x14+1)→((x15:Int)≠0)∧∀x16,x16=Int.tmod x13 x15→∀x17,x17=wi (l2+x16)→RK (((decide (x17=x17) && true) && true)) (((AE ⟨[.slice ok nk ck,.int .i64 3]⟩)∧(E4 (pc5 h0 l0 u0 h1 l1 u1 h2 l2 u2 h3 l3 u3 h4 l4 u4) tc sc kc)∧True)∧∀x18:Int,(0≤x18∧x18≤65535)→RK ((decide (cp=cp) && ((decide (l3=l3) && (decide (u3=u3) && true)) && true))) (∀x19,x19=wi (u3 - l3)→∀x20,x20=wi (x19+1)→((x20:Int)≠0)∧∀x21,x21=Int.tmod x18 x20→∀x22,x22=wi (l3+x21)→RK (((decide (x22=x22) && true) && true)) (((AE ⟨[.slice ok nk ck,.int .i64 4]⟩)∧(E4 (pc5 h0 l0 u0 h1 l1 u1 h2 l2 u2 h3 l3 u3 h4 l4 u4) tc sc kc)∧True)∧∀x23:Int,(0≤x23∧x23≤65535)→RK ((decide (cp=cp) && ((decide (l4=l4) && (decide (u4=u4) && true)) && true))) (∀x24,x24=wi (u4 - l4)→∀x25,x25=wi (x24+1)→((x25:Int)≠0)∧∀x26,x26=Int.tmod x23 x25→∀x27,x27=wi (l4+x26)→RK (((decide (x27=x27) && true) && true)) (∀x28,x28=wi point→((4:Int)≠0)∧∀x29,x29=Int.tmod x28 4→SP x29 0 (∀x30,x30=wi one→∀x31,x31=wi (h1 - h0)→∀x32,x32=wi (x31+1)→((x32:Int)≠0)∧∀x33,x33=Int.tmod x30 x32→∀x34,x34=wi (h0+x33)→∀x35,x35=wi two→∀x36,x36=wi (h1 - h0)→∀x37,x37=wi (x36+1)→((x37:Int)≠0)∧∀x38,x38=Int.tmod x35 x37→∀x39,x39=wi (h0+x38)→∀x40,x40=(if x39 < x34 then x39 else x34)→∀x41,x41=(if x39 > x34 then x39 else x34)→((AE ⟨[(bv 5 plank cp ot nt ct os ns cs),.slice (some ⟨22,0,none⟩) 5 5,.int .i64 h0]⟩)∧(BE (⟨.cells ⟨[.int .i64 x7,.int .i64 x12,.int .i64 x17,.int .i64 x22,.int .i64 x27]⟩ 3 (0,0),(some 10),false,1⟩:Blk)∧E4 (pc5 h0 l0 u0 h1 l1 u1 h2 l2 u2 h3 l3 u3 h4 l4 u4) tc sc kc)∧(h0≤h0∧h0≤h4∧0≤x7∧x7≤959∧0≤x12∧x12≤959∧0≤x17∧x17≤959∧0≤x22∧x22≤959∧0≤x27∧x27≤959))∧∀x42:Int,(x42=atL [(h0,x7),(h1,x12),(h2,x17),(h3,x22),(h4,x27)] h0)→RK (true) (((AE ⟨[(bv 5 plank cp ot nt ct os ns cs),.slice (some ⟨22,0,none⟩) 5 5,.int .i64 h1]⟩)∧(BE (⟨.cells ⟨[.int .i64 x7,.int .i64 x12,.int .i64 x17,.int .i64 x22,.int .i64 x27]⟩ 3 (0,0),(some 10),false,1⟩:Blk)∧E4 (pc5 h0 l0 u0 h1 l1 u1 h2 l2 u2 h3 l3 u3 h4 l4 u4) tc sc kc)∧(h0≤h1∧h1≤h4∧0≤x7∧x7≤959∧0≤x12∧x12≤959∧0≤x17∧x17≤959∧0≤x22∧x22≤959∧0≤x27∧x27≤959))∧∀x43:Int,(x43=atL [(h0,x7),(h1,x12),(h2,x17),(h3,x22),(h4,x27)] h1)→RK (true) (((AE ⟨[(bv 5 plank cp ot nt ct os ns cs),.slice (some ⟨22,0,none⟩) 5 5,.int .i64 x40]⟩)∧(BE (⟨.cells ⟨[.int .i64 x7,.int .i64 x12,.int .i64 x17,.int .i64 x22,.int .i64 x27]⟩ 3 (0,0),(some 10),false,1⟩:Blk)∧E4 (pc5 h0 l0 u0 h1 l1 u1 h2 l2 u2 h3 l3 u3 h4 l4 u4) tc sc kc)∧(h0≤x40∧x40≤h4∧0≤x7∧x7≤959∧0≤x12∧x12≤959∧0≤x17∧x17≤959∧0≤x22∧x22≤959∧0≤x27∧x27≤959))∧∀x44:Int,(x44=atL [(h0,x7),(h1,x12),(h2,x17),(h3,x22),(h4,x27)] x40)→RK (true) (((AE ⟨[(bv 5 plank cp ot nt ct os ns cs),.slice (some ⟨22,0,none⟩) 5 5,.int .i64 x41]⟩)∧(BE (⟨.cells ⟨[.int .i64 x7,.int .i64 x12,.int .i64 x17,.int .i64 x22,.int .i64 x27]⟩ 3 (0,0),(some 10),false,1⟩:Blk)∧E4 (pc5 h0 l0 u0 h1 l1 u1 h2 l2 u2 h3 l3 u3 h4 l4 u4) tc sc kc)∧(h0≤x41∧x41≤h4∧0≤x7∧x7≤959∧0≤x12∧x12≤959∧0≤x17∧x17≤959∧0≤x22∧x22≤959∧0≤x27∧x27≤959))∧∀x45:Int,(x45=atL [(h0,x7),(h1,x12),(h2,x17),(h3,x22),(h4,x27)] x41)→RK (true) (BR (!decide (x42=x7)) (False) (BR (!decide (x43=x12)) (False) (BR (decide (x42≤x43)) (BR (decide (x42≤x44)) (BR (decide (x44≤x45)) (BR (decide (x45≤x43)) ((true=true)) (False)) (False)) (False)) (BR (decide (x42≥x44)) (BR (decide (x44≥x45)) (BR (decide (x45≥x43)) ((true=true)) (False)) (False)) (False))))))))) (SP x29 1 (∀x46,x46=wi one→∀x47,x47=wi (h2 - h1)→∀x48,x48=wi (x47+1)→((x48:Int)≠0)∧∀x49,x49=Int.tmod x46 x48→∀x50,x50=wi (h1+x49)→∀x51,x51=wi two→∀x52,x52=wi (h2 - h1)→∀x53,x53=wi (x52+1)→((x53:Int)≠0)∧∀x54,x54=Int.tmod x51 x53→∀x55,x55=wi (h1+x54)→∀x56,x56=(if x55 < x50 then x55 else x50)→∀x57,x57=(if x55 > x50 then x55 else x50)→((AE ⟨[(bv 5 plank cp ot nt ct os ns cs),.slice (some ⟨22,0,none⟩) 5 5,.int .i64 h1]⟩)∧(BE (⟨.cells ⟨[.int .i64 x7,.int .i64 x12,.int .i64 x17,.int .i64 x22,.int .i64 x27]⟩ 3 (0,0),(some 10),false,1⟩:Blk)∧E4 (pc5 h0 l0 u0 h1 l1 u1 h2 l2 u2 h3 l3 u3 h4 l4 u4) tc sc kc)∧(h0≤h1∧h1≤h4∧0≤x7∧x7≤959∧0≤x12∧x12≤959∧0≤x17∧x17≤959∧0≤x22∧x22≤959∧0≤x27∧x27≤959))∧∀x58:Int,(x58=atL [(h0,x7),(h1,x12),(h2,x17),(h3,x22),(h4,x27)] h1)→RK (true) (((AE ⟨[(bv 5 plank cp ot nt ct os ns cs),.slice (some ⟨22,0,none⟩) 5 5,.int .i64 h2]⟩)∧(BE (⟨.cells ⟨[.int .i64 x7,.int .i64 x12,.int .i64 x17,.int .i64 x22,.int .i64 x27]⟩ 3 (0,0),(some 10),false,1⟩:Blk)∧E4 (pc5 h0 l0 u0 h1 l1 u1 h2 l2 u2 h3 l3 u3 h4 l4 u4) tc sc kc)∧(h0≤h2∧h2≤h4∧0≤x7∧x7≤959∧0≤x12∧x12≤959∧0≤x17∧x17≤959∧0≤x22∧x22≤959∧0≤x27∧x27≤959))∧∀x59:Int,(x59=atL [(h0,x7),(h1,x12),(h2,x17),(h3,x22),(h4,x27)] h2)→RK (true) (((AE ⟨[(bv 5 plank cp ot nt ct os ns cs),.slice (some ⟨22,0,none⟩) 5 5,.int .i64 x56]⟩)∧(BE (⟨.cells ⟨[.int .i64 x7,.int .i64 x12,.int .i64 x17,.int .i64 x22,.int .i64 x27]⟩ 3 (0,0),(some 10),false,1⟩:Blk)∧E4 (pc5 h0 l0 u0 h1 l1 u1 h2 l2 u2 h3 l3 u3 h4 l4 u4) tc sc kc)∧(h0≤x56∧x56≤h4∧0≤x7∧x7≤959∧0≤x12∧x12≤959∧0≤x17∧x17≤959∧0≤x22∧x22≤959∧0≤x27∧x27≤959))∧∀x60:Int,(x60=atL [(h0,x7),(h1,x12),(h2,x17),(h3,x22),(h4,x27)] x56)→RK (true) (((AE ⟨[(bv 5 plank cp ot nt ct os ns cs),.slice (some ⟨22,0,none⟩) 5 5,.int .i64 x57]⟩)∧(BE (⟨.cells ⟨[.int .i64 x7,.int .i64 x12,.int .i64 x17,.int .i64 x22,.int .i64 x27]⟩ 3 (0,0),(some 10),false,1⟩:Blk)∧E4 (pc5 h0 l0 u0 h1 l1 u1 h2 l2 u2 h3 l3 u3 h4 l4 u4) tc sc kc)∧(h0≤x57∧x57≤h4∧0≤x7∧x7≤959∧0≤x12∧x12≤959∧0≤x17∧x17≤959∧0≤x22∧x22≤959∧0≤x27∧x27≤959))∧∀x61:Int,(x61=atL [(h0,x7),(h1,x12),(h2,x17),(h3,x22),(h4,x27)] x57)→RK (true) (BR (!decide (x58=x12)) (False) (BR (!decide (x59=x17)) (False) (BR (decide (x58≤x59)) (BR (decide (x58≤x60)) (BR (decide (x60≤x61)) (BR (decide (x61≤x59)) ((true=true)) (False)) (False)) (False)) (BR (decide (x58≥x60)) (BR (decide (x60≥x61)) (BR (decide (x61≥x59)) ((true=true)) (False)) (False)) (False))))))))) (SP x29 2 (∀x62,x62=wi one→∀x63,x63=wi (h3 - h2)→∀x64,x64=wi (x63+1)→((x64:Int)≠0)∧∀x65,x65=Int.tmod x62 x64→∀x66,x66=wi (h2+x65)→∀x67,x67=wi two→∀x68,x68=wi (h3 - h2)→∀x69,x69=wi (x68+1)→((x69:Int)≠0)∧∀x70,x70=Int.tmod x67 x69→∀x71,x71=wi (h2+x70)→∀x72,x72=(if x71 < x66 then x71 else x66)→∀x73,x73=(if x71 > x66 then x71 else x66)→((AE ⟨[(bv 5 plank cp ot nt ct os ns cs),.slice (some ⟨22,0,none⟩) 5 5,.int .i64 h2]⟩)∧(BE (⟨.cells ⟨[.int .i64 x7,.int .i64 x12,.int .i64 x17,.int .i64 x22,.int .i64 x27]⟩ 3 (0,0),(some 10),false,1⟩:Blk)∧E4 (pc5 h0 l0 u0 h1 l1 u1 h2 l2 u2 h3 l3 u3 h4 l4 u4) tc sc kc)∧(h0≤h2∧h2≤h4∧0≤x7∧x7≤959∧0≤x12∧x12≤959∧0≤x17∧x17≤959∧0≤x22∧x22≤959∧0≤x27∧x27≤959))∧∀x74:Int,(x74=atL [(h0,x7),(h1,x12),(h2,x17),(h3,x22),(h4,x27)] h2)→RK (true) (((AE ⟨[(bv 5 plank cp ot nt ct os ns cs),.slice (some ⟨22,0,none⟩) 5 5,.int .i64 h3]⟩)∧(BE (⟨.cells ⟨[.int .i64 x7,.int .i64 x12,.int .i64 x17,.int .i64 x22,.int .i64 x27]⟩ 3 (0,0),(some 10),false,1⟩:Blk)∧E4 (pc5 h0 l0 u0 h1 l1 u1 h2 l2 u2 h3 l3 u3 h4 l4 u4) tc sc kc)∧(h0≤h3∧h3≤h4∧0≤x7∧x7≤959∧0≤x12∧x12≤959∧0≤x17∧x17≤959∧0≤x22∧x22≤959∧0≤x27∧x27≤959))∧∀x75:Int,(x75=atL [(h0,x7),(h1,x12),(h2,x17),(h3,x22),(h4,x27)] h3)→RK (true) (((AE ⟨[(bv 5 plank cp ot nt ct os ns cs),.slice (some ⟨22,0,none⟩) 5 5,.int .i64 x72]⟩)∧(BE (⟨.cells ⟨[.int .i64 x7,.int .i64 x12,.int .i64 x17,.int .i64 x22,.int .i64 x27]⟩ 3 (0,0),(some 10),false,1⟩:Blk)∧E4 (pc5 h0 l0 u0 h1 l1 u1 h2 l2 u2 h3 l3 u3 h4 l4 u4) tc sc kc)∧(h0≤x72∧x72≤h4∧0≤x7∧x7≤959∧0≤x12∧x12≤959∧0≤x17∧x17≤959∧0≤x22∧x22≤959∧0≤x27∧x27≤959))∧∀x76:Int,(x76=atL [(h0,x7),(h1,x12),(h2,x17),(h3,x22),(h4,x27)] x72)→RK (true) (((AE ⟨[(bv 5 plank cp ot nt ct os ns cs),.slice (some ⟨22,0,none⟩) 5 5,.int .i64 x73]⟩)∧(BE (⟨.cells ⟨[.int .i64 x7,.int .i64 x12,.int .i64 x17,.int .i64 x22,.int .i64 x27]⟩ 3 (0,0),(some 10),false,1⟩:Blk)∧E4 (pc5 h0 l0 u0 h1 l1 u1 h2 l2 u2 h3 l3 u3 h4 l4 u4) tc sc kc)∧(h0≤x73∧x73≤h4∧0≤x7∧x7≤959∧0≤x12∧x12≤959∧0≤x17∧x17≤959∧0≤x22∧x22≤959∧0≤x27∧x27≤959))∧∀x77:Int,(x77=atL [(h0,x7),(h1,x12),(h2,x17),(h3,x22),(h4,x27)] x73)→RK (true) (BR (!decide (x74=x17)) (False) (BR (!decide (x75=x22)) (False) (BR (decide (x74≤x75)) (BR (decide (x74≤x76)) (BR (decide (x76≤x77)) (BR (decide (x77≤x75)) ((true=true)) (False)) (False)) (False)) (BR (decide (x74≥x76)) (BR (decide (x76≥x77)) (BR (decide (x77≥x75)) ((true=true)) (False)) (False)) (False))))))))) (SP x29 3 (∀x78,x78=wi one→∀x79,x79=wi (h4 - h3)→∀x80,x80=wi (x79+1)→((x80:Int)≠0)∧∀x81,x81=Int.tmod x78 x80→∀x82,x82=wi (h3+x81)→∀x83,x83=wi two→∀x84,x84=wi (h4 - h3)→∀x85,x85=wi (x84+1)→((x85:Int)≠0)∧∀x86,x86=Int.tmod x83 x85→∀x87,x87=wi (h3+x86)→∀x88,x88=(if x87 < x82 then x87 else x82)→∀x89,x89=(if x87 > x82 then x87 else x82)→((AE ⟨[(bv 5 plank cp ot nt ct os ns cs),.slice (some ⟨22,0,none⟩) 5 5,.int .i64 h3]⟩)∧(BE (⟨.cells ⟨[.int .i64 x7,.int .i64 x12,.int .i64 x17,.int .i64 x22,.int .i64 x27]⟩ 3 (0,0),(some 10),false,1⟩:Blk)∧E4 (pc5 h0 l0 u0 h1 l1 u1 h2 l2 u2 h3 l3 u3 h4 l4 u4) tc sc kc)∧(h0≤h3∧h3≤h4∧0≤x7∧x7≤959∧0≤x12∧x12≤959∧0≤x17∧x17≤959∧0≤x22∧x22≤959∧0≤x27∧x27≤959))∧∀x90:Int,(x90=atL [(h0,x7),(h1,x12),(h2,x17),(h3,x22),(h4,x27)] h3)→RK (true) (((AE ⟨[(bv 5 plank cp ot nt ct os ns cs),.slice (some ⟨22,0,none⟩) 5 5,.int .i64 h4]⟩)∧(BE (⟨.cells ⟨[.int .i64 x7,.int .i64 x12,.int .i64 x17,.int .i64 x22,.int .i64 x27]⟩ 3 (0,0),(some 10),false,1⟩:Blk)∧E4 (pc5 h0 l0 u0 h1 l1 u1 h2 l2 u2 h3 l3 u3 h4 l4 u4) tc sc kc)∧(h0≤h4∧h4≤h4∧0≤x7∧x7≤959∧0≤x12∧x12≤959∧0≤x17∧x17≤959∧0≤x22∧x22≤959∧0≤x27∧x27≤959))∧∀x91:Int,(x91=atL [(h0,x7),(h1,x12),(h2,x17),(h3,x22),(h4,x27)] h4)→RK (true) (((AE ⟨[(bv 5 plank cp ot nt ct os ns cs),.slice (some ⟨22,0,none⟩) 5 5,.int .i64 x88]⟩)∧(BE (⟨.cells ⟨[.int .i64 x7,.int .i64 x12,.int .i64 x17,.int .i64 x22,.int .i64 x27]⟩ 3 (0,0),(some 10),false,1⟩:Blk)∧E4 (pc5 h0 l0 u0 h1 l1 u1 h2 l2 u2 h3 l3 u3 h4 l4 u4) tc sc kc)∧(h0≤x88∧x88≤h4∧0≤x7∧x7≤959∧0≤x12∧x12≤959∧0≤x17∧x17≤959∧0≤x22∧x22≤959∧0≤x27∧x27≤959))∧∀x92:Int,(x92=atL [(h0,x7),(h1,x12),(h2,x17),(h3,x22),(h4,x27)] x88)→RK (true) (((AE ⟨[(bv 5 plank cp ot nt ct os ns cs),.slice (some ⟨22,0,none⟩) 5 5,.int .i64 x89]⟩)∧(BE (⟨.cells ⟨[.int .i64 x7,.int .i64 x12,.int .i64 x17,.int .i64 x22,.int .i64 x27]⟩ 3 (0,0),(some 10),false,1⟩:Blk)∧E4 (pc5 h0 l0 u0 h1 l1 u1 h2 l2 u2 h3 l3 u3 h4 l4 u4) tc sc kc)∧(h0≤x89∧x89≤h4∧0≤x7∧x7≤959∧0≤x12∧x12≤959∧0≤x17∧x17≤959∧0≤x22∧x22≤959∧0≤x27∧x27≤959))∧∀x93:Int,(x93=atL [(h0,x7),(h1,x12),(h2,x17),(h3,x22),(h4,x27)] x89)→RK (true) (BR (!decide (x90=x22)) (False) (BR (!decide (x91=x27)) (False) (BR (decide (x90≤x91)) (BR (decide (x90≤x92)) (BR (decide (x92≤x93)) (BR (decide (x93≤x91)) ((true=true)) (False)) (False)) (False)) (BR (decide (x90≥x92)) (BR (decide (x92≥x93)) (BR (decide (x93≥x91)) ((true=true)) (False)) (False)) (False))))))))) (False))))))))))))))) ((true=true)))))):=by kernel_rfl
set_option maxHeartbeats 4000000 in
theorem Tryz.root5(plank h0 l0 u0 h1 l1 u1 h2 l2 u2 h3 l3 u3 h4 l4 u4 point one two:Int)(cp nt ct ns cs nk ck:Nat)(tc sc kc:Array Value)(ot os ok:Option Addr)(V:Prop)(hV:V→Pts [(h0,l0,u0),(h1,l1,u1),(h2,l2,u2),(h3,l3,u3),(h4,l4,u4)])(hn:0≤point∧point≤255∧0≤one∧one≤65535∧0≤two∧two≤65535)(hc:∀c∈([⟨11,fun _ _=>[],4,fun _=>L4 (pc5 h0 l0 u0 h1 l1 u1 h2 l2 u2 h3 l3 u3 h4 l4 u4) tc sc kc,fun _=>⟨[(bv 5 plank cp ot nt ct os ns cs)]⟩,fun _=>True,fun _ x=>(x=0→V),fun x=>.int .i64 x⟩,⟨32,fun a _=>[parOf a 1],4,fun _=>L4 (pc5 h0 l0 u0 h1 l1 u1 h2 l2 u2 h3 l3 u3 h4 l4 u4) tc sc kc,fun ps=>⟨[.slice ok nk ck,.int .i64 (ps.headD 0)]⟩,fun _=>True,fun _ x=>(0≤x∧x≤65535),fun x=>.int .i64 x⟩,atC5 h0 l0 u0 h1 l1 u1 h2 l2 u2 h3 l3 u3 h4 l4 u4 plank cp nt ct ns cs tc sc kc ot os]:List Ct),CtOk Tryz.prog c):Runs Tryz.prog (fun s=>chkB (Tryz.X []) 3 5 s=true) ⟨AFr.enter Tryz.prog 3 ⟨[(bv 5 plank cp ot nt ct os ns cs),.slice ok nk ck,.int .u8 point,.int .u16 one,.int .u16 two]⟩,[],hOf 4 (L4 (pc5 h0 l0 u0 h1 l1 u1 h2 l2 u2 h3 l3 u3 h4 l4 u4) tc sc kc)⟩:=by
 refine txK_use (X:=Tryz.X [⟨11,fun _ _=>[],4,fun _=>L4 (pc5 h0 l0 u0 h1 l1 u1 h2 l2 u2 h3 l3 u3 h4 l4 u4) tc sc kc,fun _=>⟨[(bv 5 plank cp ot nt ct os ns cs)]⟩,fun _=>True,fun _ x=>(x=0→V),fun x=>.int .i64 x⟩,⟨32,fun a _=>[parOf a 1],4,fun _=>L4 (pc5 h0 l0 u0 h1 l1 u1 h2 l2 u2 h3 l3 u3 h4 l4 u4) tc sc kc,fun ps=>⟨[.slice ok nk ck,.int .i64 (ps.headD 0)]⟩,fun _=>True,fun _ x=>(0≤x∧x≤65535),fun x=>.int .i64 x⟩,atC5 h0 l0 u0 h1 l1 u1 h2 l2 u2 h3 l3 u3 h4 l4 u4 plank cp nt ct ns cs tc sc kc ot os]) (Tryz.ok hc) (Tryz.root5_t plank h0 l0 u0 h1 l1 u1 h2 l2 u2 h3 l3 u3 h4 l4 u4 point one two cp nt ct ns cs nk ck tc sc kc ot os ok V) ?_
 intro x0 _
 refine BR.mk (fun _=>?_) (fun _=>?_)
 ·
  exact rfl
 intro x1 _
 refine BR.mk (fun _=>?_) (fun _=>?_)
 ·
  exact rfl
 refine ⟨⟨rfl,E4i,trivial⟩,fun x2 yV=>⟨rfl,?_⟩⟩
 refine BR.mk (fun _=>?_) (fun _=>?_)
 ·
  refine ⟨⟨rfl,E4i,trivial⟩,fun x3 _=>⟨by simp,?_⟩⟩
  have hP:=hV (yV (by omega))
  simp only [Pts,PtsF,and_true] at hP
  refine va fun x4 _=>?_
  refine va fun x5 _=>?_
  refine ⟨by omega,?_⟩
  refine vs fun x6 _ _=>?_
  refine va fun x7 _=>?_
  refine ⟨by simp,?_⟩
  refine ⟨⟨rfl,E4i,trivial⟩,fun x8 _=>⟨by simp,?_⟩⟩
  refine va fun x9 _=>?_
  refine va fun x10 _=>?_
  refine ⟨by omega,?_⟩
  refine vs fun x11 _ _=>?_
  refine va fun x12 _=>?_
  refine ⟨by simp,?_⟩
  refine ⟨⟨rfl,E4i,trivial⟩,fun x13 _=>⟨by simp,?_⟩⟩
  refine va fun x14 _=>?_
  refine va fun x15 _=>?_
  refine ⟨by omega,?_⟩
  refine vs fun x16 _ _=>?_
  refine va fun x17 _=>?_
  refine ⟨by simp,?_⟩
  refine ⟨⟨rfl,E4i,trivial⟩,fun x18 _=>⟨by simp,?_⟩⟩
  refine va fun x19 _=>?_
  refine va fun x20 _=>?_
  refine ⟨by omega,?_⟩
  refine vs fun x21 _ _=>?_
  refine va fun x22 _=>?_
  refine ⟨by simp,?_⟩
  refine ⟨⟨rfl,E4i,trivial⟩,fun x23 _=>⟨by simp,?_⟩⟩
  refine va fun x24 _=>?_
  refine va fun x25 _=>?_
  refine ⟨by omega,?_⟩
  refine vs fun x26 _ _=>?_
  refine va fun x27 _=>?_
  refine ⟨by simp,?_⟩
  refine va fun x28 _=>?_
  refine ⟨by omega,?_⟩
  refine vs fun x29 _ _=>?_
  refine SP.mk (fun _=>?_) (fun _=>?_)
  ·
   refine va fun x30 _=>?_
   refine va fun x31 _=>?_
   refine va fun x32 _=>?_
   refine ⟨by omega,?_⟩
   refine vs fun x33 _ _=>?_
   refine va fun x34 _=>?_
   refine va fun x35 _=>?_
   refine va fun x36 _=>?_
   refine va fun x37 _=>?_
   refine ⟨by omega,?_⟩
   refine vs fun x38 _ _=>?_
   refine va fun x39 _=>?_
   refine vmn fun x40 _=>?_
   refine vmx fun x41 _=>?_
   refine ⟨⟨rfl,⟨⟨rfl,rfl⟩,E4i⟩,by omega⟩,fun x42 _=>⟨rfl,?_⟩⟩
   refine ⟨⟨rfl,⟨⟨rfl,rfl⟩,E4i⟩,by omega⟩,fun x43 _=>⟨rfl,?_⟩⟩
   refine ⟨⟨rfl,⟨⟨rfl,rfl⟩,E4i⟩,by omega⟩,fun x44 _=>⟨rfl,?_⟩⟩
   refine ⟨⟨rfl,⟨⟨rfl,rfl⟩,E4i⟩,by omega⟩,fun x45 _=>⟨rfl,?_⟩⟩
   have hF:=at_facts [] h0 x7 h1 x12 [(h2,x17),(h3,x22),(h4,x27)] x40 x41 (by simp only [up];try omega) (by omega) (by omega) (by omega) (by omega) (r1:=x42) (r2:=x43) (r3:=x44) (r4:=x45) (by assumption) (by assumption) (by assumption) (by assumption)
   refine BR.nr (by omega) ?_
   refine BR.nr (by omega) ?_
   refine BR.mk (fun _=>?_) (fun _=>?_)
   ·
    refine BR.ll ?_
    refine BR.ll ?_
    refine BR.ll ?_
    exact rfl
   refine BR.ll ?_
   refine BR.ll ?_
   refine BR.ll ?_
   exact rfl
  refine SP.mk (fun _=>?_) (fun _=>?_)
  ·
   refine va fun x46 _=>?_
   refine va fun x47 _=>?_
   refine va fun x48 _=>?_
   refine ⟨by omega,?_⟩
   refine vs fun x49 _ _=>?_
   refine va fun x50 _=>?_
   refine va fun x51 _=>?_
   refine va fun x52 _=>?_
   refine va fun x53 _=>?_
   refine ⟨by omega,?_⟩
   refine vs fun x54 _ _=>?_
   refine va fun x55 _=>?_
   refine vmn fun x56 _=>?_
   refine vmx fun x57 _=>?_
   refine ⟨⟨rfl,⟨⟨rfl,rfl⟩,E4i⟩,by omega⟩,fun x58 _=>⟨rfl,?_⟩⟩
   refine ⟨⟨rfl,⟨⟨rfl,rfl⟩,E4i⟩,by omega⟩,fun x59 _=>⟨rfl,?_⟩⟩
   refine ⟨⟨rfl,⟨⟨rfl,rfl⟩,E4i⟩,by omega⟩,fun x60 _=>⟨rfl,?_⟩⟩
   refine ⟨⟨rfl,⟨⟨rfl,rfl⟩,E4i⟩,by omega⟩,fun x61 _=>⟨rfl,?_⟩⟩
   have hF:=at_facts [(h0,x7)] h1 x12 h2 x17 [(h3,x22),(h4,x27)] x56 x57 (by simp only [up];try omega) (by omega) (by omega) (by omega) (by omega) (r1:=x58) (r2:=x59) (r3:=x60) (r4:=x61) (by assumption) (by assumption) (by assumption) (by assumption)
   refine BR.nr (by omega) ?_
   refine BR.nr (by omega) ?_
   refine BR.mk (fun _=>?_) (fun _=>?_)
   ·
    refine BR.ll ?_
    refine BR.ll ?_
    refine BR.ll ?_
    exact rfl
   refine BR.ll ?_
   refine BR.ll ?_
   refine BR.ll ?_
   exact rfl
  refine SP.mk (fun _=>?_) (fun _=>?_)
  ·
   refine va fun x62 _=>?_
   refine va fun x63 _=>?_
   refine va fun x64 _=>?_
   refine ⟨by omega,?_⟩
   refine vs fun x65 _ _=>?_
   refine va fun x66 _=>?_
   refine va fun x67 _=>?_
   refine va fun x68 _=>?_
   refine va fun x69 _=>?_
   refine ⟨by omega,?_⟩
   refine vs fun x70 _ _=>?_
   refine va fun x71 _=>?_
   refine vmn fun x72 _=>?_
   refine vmx fun x73 _=>?_
   refine ⟨⟨rfl,⟨⟨rfl,rfl⟩,E4i⟩,by omega⟩,fun x74 _=>⟨rfl,?_⟩⟩
   refine ⟨⟨rfl,⟨⟨rfl,rfl⟩,E4i⟩,by omega⟩,fun x75 _=>⟨rfl,?_⟩⟩
   refine ⟨⟨rfl,⟨⟨rfl,rfl⟩,E4i⟩,by omega⟩,fun x76 _=>⟨rfl,?_⟩⟩
   refine ⟨⟨rfl,⟨⟨rfl,rfl⟩,E4i⟩,by omega⟩,fun x77 _=>⟨rfl,?_⟩⟩
   have hF:=at_facts [(h0,x7),(h1,x12)] h2 x17 h3 x22 [(h4,x27)] x72 x73 (by simp only [up];try omega) (by omega) (by omega) (by omega) (by omega) (r1:=x74) (r2:=x75) (r3:=x76) (r4:=x77) (by assumption) (by assumption) (by assumption) (by assumption)
   refine BR.nr (by omega) ?_
   refine BR.nr (by omega) ?_
   refine BR.mk (fun _=>?_) (fun _=>?_)
   ·
    refine BR.ll ?_
    refine BR.ll ?_
    refine BR.ll ?_
    exact rfl
   refine BR.ll ?_
   refine BR.ll ?_
   refine BR.ll ?_
   exact rfl
  refine SP.l (by omega) ?_
  refine va fun x78 _=>?_
  refine va fun x79 _=>?_
  refine va fun x80 _=>?_
  refine ⟨by omega,?_⟩
  refine vs fun x81 _ _=>?_
  refine va fun x82 _=>?_
  refine va fun x83 _=>?_
  refine va fun x84 _=>?_
  refine va fun x85 _=>?_
  refine ⟨by omega,?_⟩
  refine vs fun x86 _ _=>?_
  refine va fun x87 _=>?_
  refine vmn fun x88 _=>?_
  refine vmx fun x89 _=>?_
  refine ⟨⟨rfl,⟨⟨rfl,rfl⟩,E4i⟩,by omega⟩,fun x90 _=>⟨rfl,?_⟩⟩
  refine ⟨⟨rfl,⟨⟨rfl,rfl⟩,E4i⟩,by omega⟩,fun x91 _=>⟨rfl,?_⟩⟩
  refine ⟨⟨rfl,⟨⟨rfl,rfl⟩,E4i⟩,by omega⟩,fun x92 _=>⟨rfl,?_⟩⟩
  refine ⟨⟨rfl,⟨⟨rfl,rfl⟩,E4i⟩,by omega⟩,fun x93 _=>⟨rfl,?_⟩⟩
  have hF:=at_facts [(h0,x7),(h1,x12),(h2,x17)] h3 x22 h4 x27 [] x88 x89 (by simp only [up];try omega) (by omega) (by omega) (by omega) (by omega) (r1:=x90) (r2:=x91) (r3:=x92) (r4:=x93) (by assumption) (by assumption) (by assumption) (by assumption)
  refine BR.nr (by omega) ?_
  refine BR.nr (by omega) ?_
  refine BR.mk (fun _=>?_) (fun _=>?_)
  ·
   refine BR.ll ?_
   refine BR.ll ?_
   refine BR.ll ?_
   exact rfl
  refine BR.ll ?_
  refine BR.ll ?_
  refine BR.ll ?_
  exact rfl
 exact rfl
end Go.Am
