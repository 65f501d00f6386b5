import Derived.Test.YtmgllphkofdnhaaGreatH22
set_option linter.unusedVariables false
set_option linter.unusedSectionVars false
set_option linter.unusedSimpArgs false
namespace Go.Am
section
variable{P:Program}{T:Tr TI}{Fu:Tr Func}{pl:Plan}{tmps:List Value}{h h':AH}{o:Oper}{v:Value}{x:Operand}{c:Ctx}{s':AS}{k:List AItem}{ops:Array Oper}{i:Nat}{l:List Nat}{next:K}
theorem app_eq:∀(l m:List Value),app l m=l ++ m
 | [],m=>rfl
 |x :: l,m=>by show x :: app l m=_;rw [app_eq l m];rfl
theorem rep_eq(v:Value):∀(n:Nat),rep v n=List.replicate n v
 |0=>rfl
 |n+1=>by show v :: rep v n=_;rw [rep_eq v n];rfl
abbrev To(P:Program)(pl:Plan)(s' s:AS):Prop:=AReach P pl (· = s') s
theorem To.one{s s₁:AS}(e:astep P pl none s=some (.go s₁))(k:To P pl s' s₁):To P pl s' s:=AReach.one e k
def SoundAt(P:Program)(pl:Plan)(todo:List AItem)(q:K):Prop:=∀c tmps h s',q c tmps h=some s' → To P pl s' (mk todo c tmps h)
theorem sound_go(todo:List AItem):SoundAt P pl todo (kGo todo):=fun c tmps h s' e=>by cases e;exact .here rfl
theorem sound_no(todo:List AItem):SoundAt P pl todo kNo:=fun c tmps h s' e=>by cases e
theorem sound_step{todo todo':List AItem}{q:K}(hs:∀c tmps h,astep P pl none (mk todo c tmps h)=some (.go (mk todo' c tmps h)))(hq:SoundAt P pl todo' q):SoundAt P pl todo q:=fun c tmps h s' e=>To.one (hs c tmps h) (hq c tmps h s' e)
theorem opV_sound{dst:Option Nat}(hn:SoundAt P pl (.region ops l :: k) next)(e:opV dst v next c tmps h=some s') :
  To P pl s' ⟨⟨c.fn,setTmp ⟨tmps⟩ dst v,.region ops l :: k,c.defers,false,c.round,c.dk⟩,c.cs,h⟩:=by
 unfold opV at e
 cases dst with
 |none=>exact hn c tmps h s' e
 |some d=>
  replace e:setK v tmps d (fun tmps=>next c tmps h)=some s' :=e
  rw [setK_eq] at e
  have:=hn c _ h s' e
  unfold mk at this
  have es:setTmp ⟨tmps⟩ (some d) v=⟨tmps.set d v⟩:=by
   unfold setTmp
   apply Array.ext'
   simp
  rw [es]
  exact this
theorem region_step(ho:ops[i]? = some o)(hg:Region.wanted o (yielded ops ⟨tmps⟩)=true):astep P pl none (mk (.region ops (i :: l) :: k) c tmps h)=aapply P (mk (.region ops (i :: l) :: k) c tmps h).fr c.cs (aexec P none h ⟨tmps⟩ o):=by
 unfold astep mk
 dsimp only
 rw [ho]
 dsimp only
 rw [if_pos hg]
theorem fin_region(ho:ops[i]? = some o)(v:Value)(h:AH):afinish P (mk (.region ops (i :: l) :: k) c tmps h').fr h v=some ⟨c.fn,setTmp ⟨tmps⟩ o.dst v,.region ops l :: k,c.defers,false,c.round,c.dk⟩:=by
 unfold afinish mk
 dsimp only
 rw [ho]
 rfl
theorem value_sound(ho:ops[i]? = some o)(hg:Region.wanted o (yielded ops ⟨tmps⟩)=true)(hn:SoundAt P pl (.region ops l :: k) next)(hx:aexec P none h ⟨tmps⟩ o=some (.value v,h'))(e:opV o.dst v next c tmps h' = some s'):To P pl s' (mk (.region ops (i :: l) :: k) c tmps h):=by
 have hs:=region_step (P:=P) (pl:=pl) (c:=c) (tmps:=tmps) (h:=h) (l:=l) (k:=k) ho hg
 rw [hx] at hs
 unfold aapply at hs
 dsimp only at hs
 rw [fin_region ho] at hs
 exact .one hs (opV_sound hn e)
theorem skip_sound(ho:ops[i]? = some o)(hg:Region.wanted o (yielded ops ⟨tmps⟩)=true)(hn:SoundAt P pl (.region ops l :: k) next)(hx:aexec P none h ⟨tmps⟩ o=some (.skip,h'))(e:opV o.dst undef next c tmps h' = some s'):To P pl s' (mk (.region ops (i :: l) :: k) c tmps h):=by
 have hs:=region_step (P:=P) (pl:=pl) (c:=c) (tmps:=tmps) (h:=h) (l:=l) (k:=k) ho hg
 rw [hx] at hs
 unfold aapply at hs
 dsimp only at hs
 rw [fin_region ho] at hs
 exact .one hs (opV_sound hn e)
theorem enterK_sound{todo:List AItem}{f:FuncId}{args:Array Value}(hs:astep P pl none (mk todo c tmps h)=aapply P (mk todo c tmps h).fr c.cs (aexec P none h ⟨tmps⟩ o))(hx:aexec P none h ⟨tmps⟩ o=some (.enter f args,h'))(e:enterK P f args c todo tmps h' = some s'):To P pl s' (mk todo c tmps h):=by
 rw [hx] at hs
 unfold enterK at e
 cases hf:P.funcs[f]? with
 |none=>rw [hf] at e;cases e
 |some fn=>
  rw [hf] at e
  unfold enterL at e
  cases e
  refine .one hs (.here ?_)
  unfold AFr.enter
  rw [hf]
  dsimp only
  have et:args ++ Array.replicate (fn.ntmps - args.size) undef=⟨app args.toList (rep undef (fn.ntmps - args.toList.length))⟩:=by
   apply Array.ext'
   rw [app_eq,rep_eq]
   simp
  simp only [Option.map_some,Option.getD_some,Option.bind_some,et]
  rfl
theorem opR_sound(ho:ops[i]? = some o)(hg:Region.wanted o (yielded ops ⟨tmps⟩)=true)(hn:SoundAt P pl (.region ops l :: k) next)(e:opR P o (.region ops (i :: l) :: k) next c tmps (aexec P none h ⟨tmps⟩ o)=some s'):To P pl s' (mk (.region ops (i :: l) :: k) c tmps h):=by
 unfold opR at e
 split at e
 ·rename_i v h' hx;exact value_sound ho hg hn hx e
 ·rename_i h' hx;exact skip_sound ho hg hn hx e
 ·rename_i f args h' hx
  exact enterK_sound (region_step ho hg) hx e
 ·cases e
theorem evL_some:∀(xs:List Operand) {l:List Value},evL tmps xs=some l→xs.map (aeval ⟨tmps⟩)=l∧∀x∈xs,okX x=true
 | [],l,e=>by cases e;exact ⟨rfl,fun x hx=>by cases hx⟩
 |x :: xs,l,e=>by
  replace e:(match evF tmps x with
   |some v=>match evL tmps xs with
    |some l=>some (v :: l)
    |none=>none
   |none=>none)=some l:=e
  split at e
  ·rename_i v hv
   split at e
   ·rename_i m hm
    cases e
    obtain ⟨h1,h2⟩:=evF_some hv
    obtain ⟨h3,h4⟩:=evL_some xs hm
    refine ⟨by rw [List.map_cons,h1,h3],fun y hy=>?_⟩
    rcases List.mem_cons.1 hy with rfl|hy
    ·exact h2
    ·exact h4 y hy
   ·cases e
  ·cases e
theorem callF_sound{todo:List AItem}(KF:FunOk P Fu)(hs:astep P pl none (mk todo c tmps h)=aapply P (mk todo c tmps h).fr c.cs (aexec P none h ⟨tmps⟩ o))(e:callF Fu c todo tmps h o.op=some s'):To P pl s' (mk todo c tmps h):=by
 obtain ⟨dst,op,type,pos,after,guard⟩:=o
 dsimp only at e
 unfold callF at e
 split at e
 ·rename_i x args ats
  unfold callG at e
  split at e
  ·rename_i g first cap hx
   obtain ⟨e1,e2⟩:=evF_some hx
   split at e
   ·rename_i fn hfn
    obtain ⟨f1,f2⟩:=KF.get _ _ hfn
    split at e
    ·rename_i as has
     cases e
     obtain ⟨a1,a2⟩:=evL_some _ has
     have hex:aexec P none h ⟨tmps⟩ ⟨dst,.call ⟨.value x,args,ats⟩,type,pos,after,guard⟩=some (.enter g ((first ++ args.map (aeval ⟨tmps⟩)) ++ cap),h):=by
      unfold aexec
      have hop:operOk ⟨dst,.call ⟨.value x,args,ats⟩,type,pos,after,guard⟩=true:=operOk_of fun y hy=>by
       simp only [Op.operands,Call.operands] at hy
       rcases Array.mem_append.1 hy with hy|hy
       ·simp at hy;rw [hy];exact e2
       ·exact a2 y (Array.mem_toList_iff.2 hy)
      have hok:opOk P h (aeval ⟨tmps⟩) ⟨dst,.call ⟨.value x,args,ats⟩,type,pos,after,guard⟩=true:=by
       show calleeOk P (aeval ⟨tmps⟩ x)=true
       rw [e1]
       rfl
      rw [show isAppend ⟨dst,.call ⟨.value x,args,ats⟩,type,pos,after,guard⟩=false from rfl,hop,hok]
      simp only [Bool.false_eq_true,if_false,Bool.and_self,if_true]
      have:execOp (aeval ⟨tmps⟩) ⟨dst,.call ⟨.value x,args,ats⟩,type,pos,after,guard⟩=callFunc g ((first ++ args.map (aeval ⟨tmps⟩)) ++ cap):=by
       unfold execOp
       dsimp only
       unfold resolve
       dsimp only
       rw [e1]
       rfl
      rw [this]
      unfold callFunc plainFn at *
      rw [f1] at f2
      dsimp only at f2
      rw [Bool.and_eq_true,Bool.not_eq_true'] at f2
      show (match P.funcs[g]? with|none=>_|some fn=>_:Sem Next).ar P none h=_
      rw [f1]
      dsimp only
      rw [if_neg (by rw [f2.2];simp),if_neg (by have:=f2.1;cases hb:fn.body<;>simp_all)]
      rfl
     rw [hex] at hs
     refine .one hs (.here ?_)
     unfold AFr.enter
     rw [f1]
     dsimp only
     have et:∀as':Array Value,as'.toList=app first.toList (app as cap.toList)→as' ++ Array.replicate (fn.ntmps - as'.size) undef=⟨app (app first.toList (app as cap.toList)) (rep undef (fn.ntmps - (app first.toList (app as cap.toList)).length))⟩:=by
      intro as' h'
      apply Array.ext'
      rw [←h',app_eq as'.toList,rep_eq]
      simp
     have:=et ((first ++ args.map (aeval ⟨tmps⟩)) ++ cap) (by rw [app_eq,app_eq,←a1];simp)
     simp only [Option.map_some,Option.getD_some,Option.bind_some,this]
     rfl
    ·cases e
   ·cases e
  ·cases e
 ·cases e
theorem fastS_sound(K:TabOk P T)(e:fastS T tmps h o.op=some h'):aexec P none h ⟨tmps⟩ o=some (.skip,h'):=by
 obtain ⟨dst,op,type,pos,after,guard⟩:=o
 dsimp only at e
 unfold fastS at e
 split at e
 ·rename_i t x v
  unfold fStore at e
  split at e
  ·rename_i a hx
   obtain ⟨e1,e2⟩:=evF_some hx
   split at e
   ·rename_i u hu
    obtain ⟨e3,e4⟩:=evF_some hu
    split at e
    ·rename_i sz d z pls ht
     obtain ⟨inf,hd1,hd2⟩:=(K.get _ _ ht).2.1
     cases hb:Nat.beq sz 1 with
     |false=>rw [hb] at e;cases e
     |true=>
      rw [hb] at e
      dsimp only [cond_true] at e
      have hsz:sz=1:=Nat.eq_of_beq_eq_true hb
      subst hsz
      have hflat:u.cells = #[u]∧h.setCell a u=some h' ∧ (∀c,u ≠ .agg c)∧∀c,u ≠ .tuple c:=by
       cases u<;>first|(cases e;done)|refine ⟨rfl,e,?_,?_⟩<;>(intro c hc;cases hc)
      have hst:(store a u).ar P none h=some ((),h'):=by
       unfold store
       rw [Sem.ar.eq_def]
       obtain ⟨_,f2,f3,f4⟩:=hflat
       cases u<;>first|exact absurd rfl (f3 _)|exact absurd rfl (f4 _)|(dsimp only;rw [f2];rfl)
      unfold aexec
      have hop:operOk ⟨dst,.store t x v,type,pos,after,guard⟩=true:=operOk_of fun y hy=>by
       simp [Op.operands] at hy
       rcases hy with hy|hy<;>(rw [hy];assumption)
      rw [show isAppend ⟨dst,.store t x v,type,pos,after,guard⟩=false from rfl,hop,show opOk P h (aeval ⟨tmps⟩) ⟨dst,.store t x v,type,pos,after,guard⟩=true from rfl]
      simp only [Bool.false_eq_true,if_false,Bool.and_self,if_true]
      unfold execOp
      dsimp only
      rw [e1,e3]
      have hs:(Instr.storeAt t (.pointer (some a)) u).ar P none h=some ((),h'):=by
       unfold Instr.storeAt
       rw [ar_bnd (show (Instr.sureAddr (.pointer (some a))).ar P none h=some (a,h) from rfl)]
       unfold storeVar
       rw [ar_bnd (ar_size hd1),hflat.1,hd2]
       simp only [List.size_toArray,List.length_cons,List.length_nil,ne_eq,not_true_eq_false,if_false]
       show (storeCells a [u] 0).ar P none h=_
       unfold storeCells
       have ha:a.add 0=a:=rfl
       rw [ha,ar_bnd hst]
       rfl
      show (Instr.storeAt t (.pointer (some a)) u >>= fun _=>(Pure.pure Next.skip:Sem Next)).ar P none h=_
      rw [ar_bnd hs]
      rfl
    ·cases e
   ·cases e
  ·cases e
 ·cases e
theorem fastA_sound(K:TabOk P T)(hap:isAppend o=false)(e:fastA T tmps h o.op=some (v,h')):aexec P none h ⟨tmps⟩ o=some (.value v,h'):=by
 obtain ⟨dst,op,type,pos,after,guard⟩:=o
 dsimp only at e
 unfold fastA at e
 split at e
 ·rename_i t
  unfold fAlloc at e
  split at e
  ·rename_i sz d z pls ht
   cases e
   have hz:=(K.get _ _ ht).2.2.1
   refine aexec_of (s:=Instr.alloc t true (.tuple #[])) hap (fun y hy=>by simp [Op.operands] at hy) rfl ?_ ?_
   ·unfold execOp
    rfl
   ·unfold Instr.alloc
    rw [ar_bnd (ar_zero (z:=z) hz)]
    rfl
  ·cases e
 ·rename_i t x
  unfold fBox at e
  split at e
  ·rename_i u hx
   cases e
   obtain ⟨e1,e2⟩:=evF_some hx
   refine aexec_of (s:=Instr.box t u) hap (fun y hy=>by simp [Op.operands] at hy;rw [hy];exact e2) rfl ?_ rfl
   unfold execOp
   dsimp only
   rw [e1]
  ·cases e
 ·cases e
theorem op2_sound(K:TabOk P T)(KF:FunOk P Fu)(ho:ops[i]? = some o)(hg:Region.wanted o (yielded ops ⟨tmps⟩)=true)(hn:SoundAt P pl (.region ops l :: k) next)(e:op2 P T Fu o (.region ops (i :: l) :: k) next c tmps h=some s'):To P pl s' (mk (.region ops (i :: l) :: k) c tmps h):=by
 unfold op2 at e
 have hap:fast T tmps h o.op≠none∨fastA T tmps h o.op≠none→isAppend o=false:=by
  intro hx
  obtain ⟨dst,op,type,pos,after,guard⟩:=o
  unfold isAppend
  dsimp only at hx ⊢
  split
  ·rcases hx with hx|hx
   ·exact absurd rfl hx
   ·exact absurd rfl hx
  ·rfl
 cases hf:fast T tmps h o.op with
 |some v=>
  rw [hf] at e
  exact value_sound ho hg hn (aexec_ro (hap (.inl (by rw [hf];simp))) (fast_sound K hf)) e
 |none=>
  rw [hf] at e
  replace e:op4 P T Fu o (.region ops (i :: l) :: k) next c tmps h=some s' :=e
  unfold op4 at e
  cases hA:fastA T tmps h o.op with
  |some r=>
   rw [hA] at e
   obtain ⟨v,h'⟩:=r
   exact value_sound ho hg hn (fastA_sound K (hap (.inr (by rw [hA];simp))) hA) e
  |none=>
   rw [hA] at e
   replace e:op5 P T Fu o (.region ops (i :: l) :: k) next c tmps h=some s' :=e
   unfold op5 at e
   cases hS:fastS T tmps h o.op with
   |some h'=>
    rw [hS] at e
    exact skip_sound ho hg hn (fastS_sound K hS) e
   |none=>
    rw [hS] at e
    replace e:op3 P Fu o (.region ops (i :: l) :: k) next c tmps h=some s' :=e
    unfold op3 at e
    cases hc:callF Fu c (.region ops (i :: l) :: k) tmps h o.op with
    |some s₁=>
     rw [hc] at e
     cases e
     exact callF_sound KF (region_step ho hg) hc
    |none=>
     rw [hc] at e
     exact opR_sound ho hg hn e
theorem wantF_eq{g:Nat×Bool}(hg:o.guard=some g):Region.wanted o (yielded ops ⟨tmps⟩)=wantF ops tmps g:=by
 obtain ⟨j,w⟩:=g
 unfold Region.wanted wantF yielded
 rw [hg]
 dsimp only
 have e1:nth ops.toList j=ops[j]? :=by rw [nth_eq];simp
 rw [e1]
 cases ops[j]? with
 |none=>simp
 |some o'=>
  dsimp only [Option.bind_some]
  cases o'.dst with
  |none=>simp
  |some d=>
   dsimp only [Option.bind_some]
   rw [nth_arr]
   cases (Array.mk tmps)[d]? with
   |none=>simp
   |some v=>cases v<;>simp
theorem opK_sound(K:TabOk P T)(KF:FunOk P Fu)(ho:ops[i]? = some o)(hn:SoundAt P pl (.region ops l :: k) next):SoundAt P pl (.region ops (i :: l) :: k) (opK P T Fu ops o (.region ops (i :: l) :: k) next):=by
 intro c tmps h s' e
 unfold opK at e
 cases hg:o.guard with
 |some g=>
  rw [hg] at e
  replace e:Bool.rec (opV o.dst undef next c tmps h) (op2 P T Fu o (.region ops (i :: l) :: k) next c tmps h) (wantF ops tmps g)=some s' :=e
  have hw:=wantF_eq (ops:=ops) (tmps:=tmps) hg
  cases hb:wantF ops tmps g with
  |true=>
   rw [hb] at e hw
   exact op2_sound K KF ho hw hn e
  |false=>
   rw [hb] at e hw
   have hst:astep P pl none (mk (.region ops (i :: l) :: k) c tmps h)=some (.go ⟨⟨c.fn,setTmp ⟨tmps⟩ o.dst undef,.region ops l :: k,c.defers,false,c.round,c.dk⟩,c.cs,h⟩):=by
    unfold astep mk
    dsimp only
    rw [ho]
    dsimp only
    rw [if_neg (by rw [hw];simp)]
    have:=fin_region (P:=P) (c:=c) (tmps:=tmps) (h' :=h) (l:=l) (k:=k) ho undef h
    unfold mk at this
    dsimp only at this
    rw [this]
    rfl
   exact .one hst (opV_sound hn e)
 |none=>
  rw [hg] at e
  exact op2_sound K KF ho (by unfold Region.wanted;rw [hg]) hn e
theorem opsF_sound(K:TabOk P T)(KF:FunOk P Fu):∀(l:List Nat) (first:Bool),SoundAt P pl (.region ops l :: k) (opsF P T Fu ops k l first)
 | [],first=>sound_step (fun c tmps h=>rfl) (sound_go k)
 |i :: l,first=>by
  intro c tmps h s' e
  replace e:orStop (.region ops (i :: l) :: k) first (opI P T Fu ops (.region ops (i :: l) :: k) (opsF P T Fu ops k l false) (nth ops.toList i)) c tmps h=some s' :=e
  unfold orStop at e
  cases hq:opI P T Fu ops (.region ops (i :: l) :: k) (opsF P T Fu ops k l false) (nth ops.toList i) c tmps h with
  |none=>
   rw [hq] at e
   cases first with
   |true=>cases e
   |false=>cases e;exact .here rfl
  |some s₁=>
   rw [hq] at e
   cases e
   cases ho:nth ops.toList i with
   |none=>rw [ho] at hq;cases hq
   |some o=>
    rw [ho] at hq
    rw [nth_eq] at ho
    exact opK_sound K KF (by simpa using ho) (opsF_sound K KF l false) c tmps h _ hq
variable{again:List Nat}{rest:List (Nat×List Nat)}
theorem reF_some(K:TabOk P T):∀(js:List Nat),reF T tmps h ops js=true→recheck P ops js ⟨tmps⟩ h=true
 | [],e=>rfl
 |j :: js,e=>by
  replace e:(match nth ops.toList j with
   |some o=>match o.dst,o.guard with
    |some d,none=>match nth tmps d with
     |some v=>match fast T tmps h o.op with
      |some v'=>bif beqV 9 v v' && decide (kindOf o = .light) then reF T tmps h ops js else false
      |none=>false
     |none=>false
    |_,_=>false
   |none=>false)=true:=e
  split at e
  ·rename_i o ho
   rw [nth_eq] at ho
   have ho':ops[j]? = some o:=by simpa using ho
   split at e
   ·rename_i d hd hg
    split at e
    ·rename_i v hv
     rw [nth_arr] at hv
     split at e
     ·rename_i v' hf
      cases hb:(beqV 9 v v' && decide (kindOf o = .light)) with
      |false=>rw [hb] at e;cases e
      |true=>
       rw [hb] at e
       rw [Bool.and_eq_true] at hb
       have hl:=lightVal_ro (fast_sound K hf)
       have h1:eqB P h ops ⟨tmps⟩ j=true:=by
        unfold eqB
        rw [ho']
        dsimp only
        rw [hd]
        dsimp only
        rw [hv]
        dsimp only
        have hw:Region.wanted o (yielded ops ⟨tmps⟩)=true:=by unfold Region.wanted;rw [hg]
        rw [hw]
        dsimp only
        have hna:∀t,o.op ≠ .alloc t:=fun t ht=>by rw [ht] at hf;cases hf
        have hnb:∀t n ps,o.op ≠ .buildSlice t n ps:=fun t n ps ht=>by rw [ht] at hf;cases hf
        split
        ·rename_i t ht;exact absurd ht (hna t)
        ·rename_i t n ps ht;exact absurd ht (hnb t n ps)
        ·rw [hl]
         simp only [Bool.and_eq_true]
         exact ⟨hb.2,hb.1⟩
       have h2:=reF_some K js e
       unfold recheck at h2 ⊢
       rw [List.all_cons,h1,h2]
       rfl
     ·cases e
    ·cases e
   ·cases e
  ·cases e
theorem kindAt_eff(ho:ops[i]? = some o)(hk:kindOf o = .effect):kindAt ops i = .effect:=by
 unfold kindAt
 rw [ho]
 dsimp only
 rw [hk]
 cases over ops i o<;>rfl
theorem dstAt_of(ho:ops[i]? = some o):dstAt ops i=o.dst:=by unfold dstAt;rw [ho];rfl
theorem dFin_sound(K:TabOk P T)(ho:ops[i]? = some o)(hk:kindAt ops i = .effect)(hn:SoundAt P pl (.drawn ops rest :: k) next){tmps₀:List Value}{h₀:AH}(e:dFin T ops again o.dst v next c tmps h=some s') :
  ∃a',afinish P (mk (.drawn ops ((i,again) :: rest) :: k) c tmps h₀).fr h v=some a' ∧ To P pl s' ⟨a',c.cs,h⟩:=by
 unfold afinish mk
 dsimp only
 rw [dstAt_of ho]
 unfold dFin at e
 cases hd:o.dst with
 |none=>
  rw [hd] at e
  replace e:dNext T ops again next c tmps h=some s' :=e
  unfold dNext at e
  cases hr:reF T tmps h ops again with
  |false=>rw [hr] at e;cases e
  |true=>
   rw [hr] at e
   exact ⟨⟨c.fn,⟨tmps⟩,.drawn ops rest :: k,c.defers,false,c.round,c.dk⟩,by rw [show setTmp ⟨tmps⟩ none v=⟨tmps⟩ from rfl,if_pos ⟨hk,reF_some K _ hr⟩],hn c tmps h s' e⟩
 |some d=>
  rw [hd] at e
  replace e:setK v tmps d (fun tmps=>dNext T ops again next c tmps h)=some s' :=e
  rw [setK_eq] at e
  unfold dNext at e
  cases hr:reF T (tmps.set d v) h ops again with
  |false=>rw [hr] at e;cases e
  |true=>
   rw [hr] at e
   have es:setTmp ⟨tmps⟩ (some d) v=⟨tmps.set d v⟩:=by
    unfold setTmp
    apply Array.ext'
    simp
   rw [es]
   exact ⟨_,by rw [if_pos ⟨hk,reF_some K _ hr⟩],hn c _ h s' e⟩
theorem drawn_step(ho:ops[i]? = some o)(hk:kindAt ops i = .effect)(hg:Region.wanted o (yielded ops ⟨tmps⟩)=true):astep P pl none (mk (.drawn ops ((i,again) :: rest) :: k) c tmps h)=aapply P (mk (.drawn ops ((i,again) :: rest) :: k) c tmps h).fr c.cs (aexec P none h ⟨tmps⟩ o):=by
 unfold astep mk
 dsimp only
 rw [ho]
 dsimp only
 rw [hk]
 dsimp only
 rw [if_pos hg]
theorem dval_sound(K:TabOk P T)(ho:ops[i]? = some o)(hk:kindAt ops i = .effect)(hg:Region.wanted o (yielded ops ⟨tmps⟩)=true)(hn:SoundAt P pl (.drawn ops rest :: k) next)(hx:aexec P none h ⟨tmps⟩ o=some (.value v,h'))(e:dFin T ops again o.dst v next c tmps h' = some s') :
  To P pl s' (mk (.drawn ops ((i,again) :: rest) :: k) c tmps h):=by
 have hs:=drawn_step (P:=P) (pl:=pl) (again:=again) (rest:=rest) (c:=c) (h:=h) (k:=k) ho hk hg
 rw [hx] at hs
 obtain ⟨a',h1,h2⟩:=dFin_sound (P:=P) (pl:=pl) (k:=k) (h₀:=h) (tmps₀:=tmps) K ho hk hn e
 unfold aapply at hs
 dsimp only at hs
 rw [h1] at hs
 exact .one hs h2
theorem dskip_sound(K:TabOk P T)(ho:ops[i]? = some o)(hk:kindAt ops i = .effect)(hg:Region.wanted o (yielded ops ⟨tmps⟩)=true)(hn:SoundAt P pl (.drawn ops rest :: k) next)(hx:aexec P none h ⟨tmps⟩ o=some (.skip,h'))(e:dFin T ops again o.dst undef next c tmps h' = some s') :
  To P pl s' (mk (.drawn ops ((i,again) :: rest) :: k) c tmps h):=by
 have hs:=drawn_step (P:=P) (pl:=pl) (again:=again) (rest:=rest) (c:=c) (h:=h) (k:=k) ho hk hg
 rw [hx] at hs
 obtain ⟨a',h1,h2⟩:=dFin_sound (P:=P) (pl:=pl) (k:=k) (h₀:=h) (tmps₀:=tmps) K ho hk hn e
 unfold aapply at hs
 dsimp only at hs
 rw [h1] at hs
 exact .one hs h2
theorem dEff_sound(K:TabOk P T)(KF:FunOk P Fu)(ho:ops[i]? = some o)(hk:kindAt ops i = .effect)(hg:Region.wanted o (yielded ops ⟨tmps⟩)=true)(hn:SoundAt P pl (.drawn ops rest :: k) next)(e:dEff P T Fu ops o again (.drawn ops ((i,again) :: rest) :: k) next c tmps h=some s') :
  To P pl s' (mk (.drawn ops ((i,again) :: rest) :: k) c tmps h):=by
 unfold dEff at e
 have hap:fastA T tmps h o.op≠none→isAppend o=false:=by
  intro hx
  obtain ⟨dst,op,type,pos,after,guard⟩:=o
  unfold isAppend
  dsimp only at hx ⊢
  split
  ·exact absurd rfl hx
  ·rfl
 cases hA:fastA T tmps h o.op with
 |some r=>
  rw [hA] at e
  obtain ⟨v,h'⟩:=r
  exact dval_sound K ho hk hg hn (fastA_sound K (hap (by rw [hA];simp)) hA) e
 |none=>
  rw [hA] at e
  replace e:d2 P T Fu ops o again (.drawn ops ((i,again) :: rest) :: k) next c tmps h=some s' :=e
  unfold d2 at e
  cases hS:fastS T tmps h o.op with
  |some h'=>
   rw [hS] at e
   exact dskip_sound K ho hk hg hn (fastS_sound K hS) e
  |none=>
   rw [hS] at e
   replace e:d3 P T Fu ops o again (.drawn ops ((i,again) :: rest) :: k) next c tmps h=some s' :=e
   unfold d3 at e
   cases hc:callF Fu c (.drawn ops ((i,again) :: rest) :: k) tmps h o.op with
   |some s₁=>
    rw [hc] at e
    cases e
    exact callF_sound KF (drawn_step ho hk hg) hc
   |none=>
    rw [hc] at e
    replace e:dR P T ops o again (.drawn ops ((i,again) :: rest) :: k) next c tmps (aexec P none h ⟨tmps⟩ o)=some s' :=e
    unfold dR at e
    split at e
    ·rename_i v h' hx;exact dval_sound K ho hk hg hn hx e
    ·rename_i h' hx;exact dskip_sound K ho hk hg hn hx e
    ·rename_i f args h' hx
     exact enterK_sound (drawn_step ho hk hg) hx e
    ·cases e
theorem dLight_sound(K:TabOk P T)(ho:ops[i]? = some o)(hk:kindAt ops i = .light)(hg:Region.wanted o (yielded ops ⟨tmps⟩)=true)(hn:SoundAt P pl (.drawn ops rest :: k) next)(e:dLight T o next c tmps h=some s') :
  To P pl s' (mk (.drawn ops ((i,again) :: rest) :: k) c tmps h):=by
 unfold dLight at e
 split at e
 ·rename_i v hf
  have hl:=lightVal_ro (fast_sound K hf)
  have hna:∀t,o.op ≠ .alloc t:=fun t ht=>by rw [ht] at hf;cases hf
  have hnb:∀t n ps,o.op ≠ .buildSlice t n ps:=fun t n ps ht=>by rw [ht] at hf;cases hf
  split at e
  ·rename_i d hd
   cases hb:Nat.blt d tmps.length with
   |false=>rw [hb] at e;cases e
   |true=>
    rw [hb] at e
    replace e:setK v tmps d (fun tmps=>next c tmps h)=some s' :=e
    rw [setK_eq] at e
    have hlt:d < tmps.length:=by simpa using hb
    have hst:astep P pl none (mk (.drawn ops ((i,again) :: rest) :: k) c tmps h)=some (.go (mk (.drawn ops rest :: k) c (tmps.set d v) h)):=by
     unfold astep mk
     dsimp only
     rw [ho]
     dsimp only
     rw [hk]
     dsimp only
     rw [hd]
     dsimp only
     rw [if_pos (show d < (Array.mk tmps).size from hlt),if_pos hg]
     have es:(Array.mk tmps).setIfInBounds d v=⟨tmps.set d v⟩:=by
      apply Array.ext'
      simp
     split
     ·rename_i t ht;exact absurd ht (hna t)
     ·rename_i t n ps ht;exact absurd ht (hnb t n ps)
     ·rw [hl]
      dsimp only
      rw [es]
    exact .one hst (hn c _ h s' e)
  ·cases e
 ·cases e
theorem dAlloc_sound(K:TabOk P T)(ho:ops[i]? = some o)(hk:kindAt ops i = .alloc)(hg:Region.wanted o (yielded ops ⟨tmps⟩)=true)(hn:SoundAt P pl (.drawn ops rest :: k) next)(e:dAlloc T ops o again next c tmps h=some s') :
  To P pl s' (mk (.drawn ops ((i,again) :: rest) :: k) c tmps h):=by
 unfold dAlloc at e
 split at e
 ·rename_i t hop
  split at e
  ·rename_i sz d z pls ht
   have hz:zeroOf P t=some z:=(K.get _ _ ht).2.2.1
   split at e
   ·rename_i d hd
    cases hb:Nat.blt d tmps.length with
    |false=>rw [hb] at e;cases e
    |true=>
     rw [hb] at e
     replace e:setK (.pointer (some ⟨h.n,0,none⟩)) tmps d (fun tmps=>dNext T ops again next c tmps (h.new (.cells z.cells t (0,0))))=some s' :=e
     rw [setK_eq] at e
     unfold dNext at e
     have hlt:d < tmps.length:=by simpa using hb
     cases hr:reF T (tmps.set d (.pointer (some ⟨h.n,0,none⟩))) (h.new (.cells z.cells t (0,0))) ops again with
     |false=>rw [hr] at e;cases e
     |true=>
      rw [hr] at e
      have hst:astep P pl none (mk (.drawn ops ((i,again) :: rest) :: k) c tmps h)=some (.go (mk (.drawn ops rest :: k) c (tmps.set d (.pointer (some ⟨h.n,0,none⟩))) (h.new (.cells z.cells t (0,0))))):=by
       unfold astep mk
       dsimp only
       rw [ho]
       dsimp only
       rw [hk]
       dsimp only
       rw [hd]
       dsimp only
       have es:(Array.mk tmps).setIfInBounds d (.pointer (some ⟨h.n,0,none⟩))=⟨tmps.set d (.pointer (some ⟨h.n,0,none⟩))⟩:=by
        apply Array.ext'
        simp
       rw [if_pos (show d < (Array.mk tmps).size from hlt),if_pos hg,hop]
       dsimp only
       rw [hz]
       dsimp only
       rw [es,if_pos (reF_some K _ hr)]
      exact .one hst (hn c _ _ s' e)
   ·cases e
  ·cases e
 ·cases e
theorem drawnF_sound(K:TabOk P T)(KF:FunOk P Fu):∀(l:List (Nat×List Nat)) (first:Bool),SoundAt P pl (.drawn ops l :: k) (drawnF P T Fu ops k l first)
 | [],first=>sound_step (fun c tmps h=>rfl) (sound_go k)
 |(i,again) :: l,first=>by
  intro c tmps h s' e
  replace e:orStop (.drawn ops ((i,again) :: l) :: k) first (dI P T Fu ops i again (.drawn ops ((i,again) :: l) :: k) (drawnF P T Fu ops k l false) (nth ops.toList i)) c tmps h=some s' :=e
  unfold orStop at e
  cases hq:dI P T Fu ops i again (.drawn ops ((i,again) :: l) :: k) (drawnF P T Fu ops k l false) (nth ops.toList i) c tmps h with
  |none=>
   rw [hq] at e
   cases first with
   |true=>cases e
   |false=>cases e;exact .here rfl
  |some s₁=>
   rw [hq] at e
   cases e
   cases ho:nth ops.toList i with
   |none=>rw [ho] at hq;cases hq
   |some o=>
    rw [ho] at hq
    rw [nth_eq] at ho
    have ho':ops[i]? = some o:=by simpa using ho
    replace hq:dOp P T Fu ops i o again (.drawn ops ((i,again) :: l) :: k) (drawnF P T Fu ops k l false) c tmps h=some s' :=hq
    unfold dOp at hq
    cases hg:o.guard with
    |some g=>rw [hg] at hq;cases hq
    |none=>
     rw [hg] at hq
     have hw:Region.wanted o (yielded ops ⟨tmps⟩)=true:=by unfold Region.wanted;rw [hg]
     have hkk:kindAt ops i=cond (over ops i o) .effect (kindOf o):=by unfold kindAt;rw [ho']
     rw [←hkk] at hq
     cases hk:kindAt ops i with
     |light=>rw [hk] at hq;exact dLight_sound K ho' hk hw (drawnF_sound K KF l false) hq
     |alloc=>rw [hk] at hq;exact dAlloc_sound K ho' hk hw (drawnF_sound K KF l false) hq
     |effect=>rw [hk] at hq;exact dEff_sound K KF ho' hk hw (drawnF_sound K KF l false) hq
end
end Go.Am
namespace Go.Am
section
variable{P:Program}{T:Tr TI}{Fu:Tr Func}{pl:Plan}{tmps:List Value}{h h':AH}{o:Oper}{v:Value}{x:Operand}{c:Ctx}{s s':AS}{k:List AItem}{ops:Array Oper}{i:Nat}{l:List Nat}{next:K}
theorem cond_sound{a b:Code}{qa qb:K}(ha:SoundAt P pl (.code a :: k) qa)(hb:SoundAt P pl (.code b :: k) qb)(x:Operand):SoundAt P pl (.code (.cond x a b) :: k) (condK qa qb x):=by
 intro c tmps h s' e
 unfold condK at e
 split at e
 ·rename_i t
  split at e
  ·rename_i u hu
   have hv:aeval ⟨tmps⟩ (.tmp t) = .bool u:=getD_nth _ _ hu
   have hs:astep P pl none (mk (.code (.cond (.tmp t) a b) :: k) c tmps h)=some (.go (mk (.code (if u then a else b) :: k) c tmps h)):=by
    unfold astep mk
    dsimp only
    rw [if_pos (show condOk (.tmp t)=true from rfl),hv]
    rfl
   cases u with
   |true=>exact .one hs (ha c tmps h s' e)
   |false=>exact .one hs (hb c tmps h s' e)
  ·cases e
 ·cases e
theorem ret_sound:SoundAt P pl (.code .ret :: k) (retK k):=by
 intro c tmps h s' e
 unfold retK at e
 split at e
 ·rename_i hr
  cases e
  refine .one (s₁:=⟨⟨c.fn,⟨tmps⟩,.code .ret :: k,c.defers,true,none,c.dk⟩,c.cs,h⟩) ?_ (.here rfl)
  unfold astep mk aleave
  dsimp only
  rw [hr]
 ·cases e
theorem exit_sound{id:Nat}:SoundAt P pl (.code (.exit id) :: k) (exitK id k):=by
 intro c tmps h s' e
 unfold exitK at e
 split at e
 ·rename_i k' hk
  cases e
  refine .one (s₁:=mk k' c tmps h) ?_ (.here rfl)
  unfold astep mk
  dsimp only
  rw [hk]
  rfl
 ·cases e
theorem codeF_sound(K:TabOk P T)(KF:FunOk P Fu):∀(x:Code) (k:List AItem),SoundAt P pl (.code x :: k) (codeF P T Fu x k):=by
 intro x
 induction x with
 |skip=>exact fun k=>sound_step (fun c tmps h=>rfl) (sound_go k)
 |region id ops d=>
  intro k
  cases d with
  |false=>
   have:=opsF_sound (pl:=pl) (ops:=ops) (k:=k) K KF (List.range ops.toList.length) false
   exact sound_step (fun c tmps h=>rfl) this
  |true=>exact sound_no _
 |seq a b iha ihb=>exact fun k=>sound_step (fun c tmps h=>rfl) (iha (.code b :: k))
 |cond x a b iha ihb=>exact fun k=>cond_sound (iha k) (ihb k) x
 |block id b ih=>exact fun k=>sound_step (fun c tmps h=>rfl) (ih (.inBlock id :: k))
 |loop b ih=>exact fun k=>sound_step (fun c tmps h=>rfl) (ih (.inLoop b :: k))
 |exit id=>exact fun k=>exit_sound
 |ret=>exact fun k=>ret_sound
 |goto _=>exact fun k=>sound_no _
 |label _=>exact fun k=>sound_no _
 |scope _ _=>exact fun k=>sound_no _
 |rangeFunc _ _ _ _ _ _=>exact fun k=>sound_no _
 |refuse _=>exact fun k=>sound_no _
theorem itemF_sound(K:TabOk P T)(KF:FunOk P Fu)(x:AItem)(k:List AItem):SoundAt P pl (x :: k) (itemF P T Fu x k):=by
 cases x with
 |code x=>exact codeF_sound K KF x k
 |inBlock id=>exact sound_step (fun c tmps h=>rfl) (sound_go k)
 |inLoop b=>exact sound_step (fun c tmps h=>rfl) (codeF_sound K KF b (.inLoop b :: k))
 |inScope b=>exact sound_step (fun c tmps h=>rfl) (sound_go k)
 |region ops l=>exact opsF_sound K KF l true
 |drawn ops l=>exact drawnF_sound K KF l true
 |inRangeFunc l=>exact sound_no _
 |endRangeFunc l=>exact sound_no _
 |beginRound=>exact sound_no _
def resX(tmps:List Value)(r:ResultVar):Value:=match r with
 | .tmp t=>(Array.mk tmps).getD t undef
 |_=>undef
theorem resL_some:∀(rs:List ResultVar) {l:List Value},resL tmps rs=some l→(∀r∈rs,∃t,r = .tmp t)∧rs.map (resX tmps)=l
 | [],l,e=>by cases e;exact ⟨fun r hr=>(by cases hr),rfl⟩
 | .cell a t :: rs,l,e=>by cases e
 | .tmp t :: rs,l,e=>by
  replace e:(match nth tmps t with
    |some v=>match resL tmps rs with
     |some m=>some (v :: m)
     |none=>none
    |none=>none)=some l:=e
  split at e
  ·rename_i v hv
   split at e
   ·rename_i m hm
    cases e
    obtain ⟨h1,h2⟩:=resL_some rs hm
    refine ⟨fun r hr=>?_,?_⟩
    ·rcases List.mem_cons.1 hr with rfl|hr
     ·exact ⟨t,rfl⟩
     ·exact h1 r hr
    ·rw [List.map_cons,h2]
     unfold resX
     dsimp only
     rw [getD_nth _ _ hv]
   ·cases e
  ·cases e
theorem results_ar{fn:Func}{l:List Value}(e:resL tmps fn.results.toList=some l):(results fn ⟨tmps⟩).ar P none h=some (resV l,h):=by
 obtain ⟨h1,h2⟩:=resL_some _ e
 have hm:∀(f:ResultVar→Sem Value),(∀t,f (.tmp t)=Pure.pure ((Array.mk tmps).getD t undef))→∀(rs:List ResultVar) (m:List Value),(∀r∈rs,∃t,r = .tmp t)→rs.map (resX tmps)=m→(rs.mapM f).ar P none h=some (m,h):=by
  intro f hf rs
  induction rs with
  |nil=>intro m _ e;cases e;rfl
  |cons r rs ih=>
   intro m hr e
   obtain ⟨t,rfl⟩:=hr _ List.mem_cons_self
   rw [List.map_cons] at e
   subst e
   rw [List.mapM_cons,hf,ar_bnd (ar_pure' _),ar_bnd (ih _ (fun r h'=>hr r (List.mem_cons_of_mem _ h')) rfl)]
   rfl
 unfold results
 rw [Array.mapM_eq_mapM_toList]
 have e1:∀(X:Sem (List Value)),X.ar P none h=some (l,h)→(Functor.map List.toArray X).ar P none h=some (l.toArray,h):=by
  intro X hX
  show (X >>= fun a=>(Pure.pure a.toArray:Sem (Array Value))).ar P none h=_
  rw [ar_bnd hX]
  rfl
 rw [ar_bnd (e1 _ (hm _ (fun t=>by rfl) fn.results.toList l h1 h2))]
 show some (_,h)=_
 match l with
 | []=>rfl
 | [v]=>rfl
 |u :: v :: l=>rfl
theorem back_sound{d:AFr}{cs:List AFr}(K:TabOk P T)(KF:FunOk P Fu)(e:retF T Fu (d :: cs) h c.fn ⟨tmps⟩ c.defers c.dk=some s'):astep P pl none ⟨⟨c.fn,⟨tmps⟩,k,c.defers,true,c.round,c.dk⟩,d :: cs,h⟩=some (.go s'):=by
 unfold retF at e
 split at e
 ·rename_i hd
  split at e
  ·rename_i hdk
   dsimp only at e
   split at e
   ·rename_i fn hfn
    split at e
    ·rename_i l hl
     obtain ⟨f1,f2⟩:=KF.get _ _ hfn
     obtain ⟨dfn,dtmps,dtodo,ddefers,dret,dround,ddk⟩:=d
     replace e:backF T h cs dfn dtmps dtodo ddefers dret dround ddk (resV l)=some s' :=e
     unfold backF at e
     split at e
     ·rename_i ops i rest k'
      split at e
      ·rename_i o ho
       rw [nth_eq] at ho
       have ho':ops[i]? = some o:=by simpa using ho
       have hst:astep P pl none ⟨⟨c.fn,⟨tmps⟩,k,c.defers,true,c.round,c.dk⟩,⟨dfn,dtmps,.region ops (i :: rest) :: k',ddefers,dret,dround,ddk⟩ :: cs,h⟩=some (.go ⟨⟨dfn,setTmp dtmps o.dst (resV l),.region ops rest :: k',ddefers,dret,dround,ddk⟩,cs,h⟩):=by
        unfold astep aunwind
        dsimp only
        rw [hd]
        dsimp only
        rw [f1]
        dsimp only
        rw [results_ar hl,hdk]
        unfold aret afinish
        dsimp only
        rw [ho']
        rfl
       rw [hst]
       split at e
       ·rename_i t hdst
        rw [setK_eq] at e
        cases e
        rw [hdst]
        have es:setTmp dtmps (some t) (resV l)=⟨dtmps.toList.set t (resV l)⟩:=by
         unfold setTmp
         apply Array.ext'
         simp
        rw [es]
       ·rename_i hdst
        cases e
        rw [hdst]
        rfl
      ·cases e
     ·rename_i ops i again rest k'
      split at e
      ·rename_i o ho
       rw [nth_eq] at ho
       have ho':ops[i]? = some o:=by simpa using ho
       split at e
       ·rename_i hkd
        have hst:∀t':Array Value,setTmp dtmps o.dst (resV l)=t' → recheck P ops again t' h=true→astep P pl none ⟨⟨c.fn,⟨tmps⟩,k,c.defers,true,c.round,c.dk⟩,⟨dfn,dtmps,.drawn ops ((i,again) :: rest) :: k',ddefers,dret,dround,ddk⟩ :: cs,h⟩=some (.go ⟨⟨dfn,t',.drawn ops rest :: k',ddefers,dret,dround,ddk⟩,cs,h⟩):=by
         intro t' ht hre
         unfold astep aunwind
         dsimp only
         rw [hd]
         dsimp only
         rw [f1]
         dsimp only
         rw [results_ar hl,hdk]
         unfold aret afinish
         dsimp only
         rw [kindAt_eff ho' hkd,dstAt_of ho',ht]
         simp only [Bool.false_eq_true,if_false]
         rw [if_pos ⟨trivial,hre⟩]
         rfl
        split at e
        ·rename_i t hdst
         rw [setK_eq] at e
         cases hr:reF T (dtmps.toList.set t (resV l)) h ops again with
         |false=>rw [hr] at e;cases e
         |true=>
          rw [hr] at e
          cases e
          refine hst _ ?_ (reF_some K _ hr)
          rw [hdst]
          unfold setTmp
          apply Array.ext'
          simp
        ·rename_i hdst
         cases hr:reF T dtmps.toList h ops again with
         |false=>rw [hr] at e;cases e
         |true=>
          rw [hr] at e
          cases e
          exact hst _ (by rw [hdst];rfl) (reF_some K _ hr)
       ·cases e
      ·cases e
     ·cases e
    ·cases e
   ·cases e
  ·cases e
 ·cases e
theorem fstepF_sound(K:TabOk P T)(KF:FunOk P Fu)(e:fstepF P T Fu s=some s'):To P pl s' s:=by
 obtain ⟨⟨fn,⟨tmps⟩,todo,defers,ret,round,dk⟩,cs,h⟩:=s
 cases ret with
 |false=>
  cases todo with
  |nil=>cases e
  |cons x k=>exact itemF_sound K KF x k ⟨fn,defers,round,dk,cs⟩ tmps h s' e
 |true=>
  cases cs with
  |nil=>
   replace e:retF T Fu [] h fn ⟨tmps⟩ defers dk=some s' :=e
   unfold retF at e
   split at e
   ·split at e<;>cases e
   ·cases e
  |cons d cs=>exact .one (back_sound (c:=⟨fn,defers,round,dk,cs⟩) (k:=todo) K KF e) (.here rfl)
theorem frunF_go(K:TabOk P T)(KF:FunOk P Fu):∀(n:Nat) {s:AS},frunF P pl T Fu n s=some (.go s')→To P pl s' s
 |0,s,e=>by cases e;exact .here rfl
 |n+1,s,e=>by
  replace e:Option.rec (slowK P pl s (frunF P pl T Fu n)) (frunF P pl T Fu n) (fstepF P T Fu s)=some (.go s'):=e
  cases hf:fstepF P T Fu s with
  |some s₁=>
   rw [hf] at e
   exact (fstepF_sound K KF hf).bind fun s₂ h₂=>by subst h₂;exact frunF_go K KF n e
  |none=>
   rw [hf] at e
   replace e:slowK P pl s (frunF P pl T Fu n)=some (.go s'):=e
   unfold slowK at e
   split at e
   ·rename_i s₁ h₁
    exact .one h₁ (frunF_go K KF n e)
   ·rename_i hr
    exact absurd e (hr s')
theorem To.all{Q:Value→AH→Prop}(k:To P pl s' s)(q:AAll P pl Q s'):AAll P pl Q s:=by
 induction k with
 |here h=>exact h ▸ q
 |step hne hgo ih=>exact .step (fun c=>let ⟨s',h⟩:=hne c;⟨_,h⟩) (fun c s₁ e=>ih c s₁ e) (fun c v h e=>by obtain ⟨s₁,h₁⟩:=hne c;rw [h₁] at e;cases e)
end
end Go.Am
