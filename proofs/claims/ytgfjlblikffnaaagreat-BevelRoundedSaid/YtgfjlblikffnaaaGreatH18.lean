import Derived.Test.YtgfjlblikffnaaaGreatH17
set_option linter.unusedVariables false
set_option linter.unusedSectionVars false
set_option linter.unusedSimpArgs false
namespace Go.Am
section
variable{P:Program}{T:Tr TI}{tmps:List Value}{h h':AH}{o:Oper}{v:Value}{x:Operand}
theorem yx{a:Addr}(e:LX h a=some v):h.cell a=some v:=by
 unfold LX at e
 split at e
 ·rename_i blk off c e' f' dQ ro u hl
  unfold AH.cell
  dsimp only at hl
  dsimp only
  rw [hl]
  dsimp only
  rw [gU] at e
  simpa using e
 ·cases e
theorem yz:∀(n:Nat) (l:List Value) {m:List Value},LV n l=some m→m.length=n∧∀i,i < n→l[i]? = m[i]?
 |0,l,m,e=>by cases e;exact ⟨rfl,fun i hi=>absurd hi (Nat.not_lt_zero _)⟩
 |n+1,l,m,e=>by
  cases l with
  |nil=>cases e
  |cons x l=>
   replace e:(match LV n l with
    |some m=>some (x :: m)
    |none=>none)=some m:=e
   cases hm:LV n l with
   |none=>rw [hm] at e;cases e
   |some m'=>
    rw [hm] at e
    cases e
    obtain ⟨h1,h2⟩:=yz n l hm
    refine ⟨by simp [h1],fun i hi=>?_⟩
    cases i with
    |zero=>rfl
    |succ i=>simpa using h2 i (by omega)
theorem IK:∀(n:Nat) (l:List Value),Rn n l=l.drop n
 |0,l=>rfl
 |n+1,l=>by
  show Rn n l.tail=_
  rw [IK n]
  cases l<;>simp
theorem tY{a:Addr}(hs:a.spot=none){c:Array Value}{e:TypeId}{f:Nat×Nat}{dQ:Option Nat}{ro:Bool}{u:Nat}(hl:h.look a.block=some ⟨.cells c e f,dQ,ro,u⟩) :
  ∀(n i:Nat) (acc:Array Value) (m:List Value),m.length=n→(∀j,j < n→c[a.off+i+j]? = m[j]?)→(loadCellsFrom a i n acc).fC P h=some ⟨acc.toList ++ m⟩
 |0,i,acc,m,h1,h2=>by
  have:m=[]:=List.eq_nil_of_length_eq_zero h1
  subst this
  show some acc=_
  simp
 |n+1,i,acc,m,h1,h2=>by
  cases m with
  |nil=>simp at h1
  |cons x m=>
   have hx:c[a.off+i]? = some x:=by have:=h2 0 (by omega);simpa using this
   have hc:h.cell (a.add i)=some x:=by
    unfold AH.cell Addr.add
    obtain ⟨blk,off,spot⟩:=a
    dsimp only at hs hl hx
    subst hs
    by_cases hi:i=0
    ·subst hi
     simp only [if_true]
     rw [hl]
     simpa using hx
    ·rw [if_neg hi]
     dsimp only
     rw [hl]
     exact hx
   have hload:(load (a.add i)).fC P h=some x:=by
    unfold load
    rw [Sem.fC.eq_def]
    dsimp only
    rw [hc]
    rfl
   show ((load (a.add i)) >>= fun v=>loadCellsFrom a (i+1) n (acc.push v)).fC P h=_
   rw [aV hload,tY hs hl n (i+1) (acc.push x) m (by simpa using h1) fun j hj=>?_]
   ·simp
   ·have:=h2 (j+1) (by omega)
    have e:a.off+(i+1)+j=a.off+i+(j+1):=by omega
    rw [e,this]
    simp
theorem O8{a:Addr}{n:Nat}(e:aal h a n=some v):(loadCells a n >>= fun c=>(Pure.pure (Value.agg c):Sem Value)).fC P h=some v:=by
 unfold aal at e
 split at e
 ·rename_i blk off c e' f' dQ ro u hl
  split at e
  ·rename_i m hm
   cases e
   obtain ⟨h1,h2⟩:=yz n _ hm
   have:=tY (P:=P) (h:=h) (a:=⟨blk,off,none⟩) rfl hl n 0 #[] m h1 fun j hj=>by
    have:=h2 j hj
    rw [IK,List.getElem?_drop] at this
    simpa using this
   rw [aV (show (loadCells ⟨blk,off,none⟩ n).fC P h=_ from this)]
   simp [l7]
  ·cases e
 ·cases e
theorem iT{β:Type}(v:Value):∀(l:List Value) (n:Nat) (k:List Value→β),oM v l n k=k (l.set n v)
 | [],n,k=>by simp [oM]
 |x :: l,0,k=>rfl
 |x :: l,n+1,k=>by
  show oM v l n (fun l'=>k (x :: l'))=_
  rw [iT v l n]
  rfl
def U0:List Value→Nat→List Value→List Value
 | [],_,cells=>cells
 |v :: vs,off,cells=>U0 vs (off+1) (cells.set off v)
theorem LY{β:Type}:∀(vs:List Value) (off:Nat) (cells:List Value) (k:List Value→β),UZ vs off cells k=k (U0 vs off cells)
 | [],off,cells,k=>rfl
 |v :: vs,off,cells,k=>by
  show oM v cells off (fun cells=>UZ vs (off+1) cells k)=_
  rw [iT,LY vs]
  rfl
theorem AZ:∀(vs:List Value) (off s:Nat) (cells:Array Value),(vs.zipIdx s).foldl (fun cs p=>cs.setIfInBounds (off+p.2) p.1) cells=⟨U0 vs (off+s) cells.toList⟩
 | [],off,s,cells=>rfl
 |v :: vs,off,s,cells=>by
  rw [List.zipIdx_cons,List.foldl_cons,AZ vs off (s+1)]
  have e:off+(s+1)=off+s+1:=by omega
  rw [e]
  congr 1
  show U0 vs (off+s+1) _=U0 vs (off+s+1) _
  simp
theorem A7(v:Value):rZ v=v.cells.toList:=by cases v<;>rfl
theorem yA{pl:List (Nat×Nat)}:∀(ps:List (Nat×Operand)) {cells:List Value},Rt pl tmps ps cells=some v →
  (∀p∈ps,okX p.2=true)∧∃c,Instr.fill (fun i=>pl[i]?) ⟨cells⟩ (ps.map fun p=>(p.1,af ⟨tmps⟩ p.2))=some ⟨c⟩∧Value.agg ⟨c⟩=v
 | [],cells,e=>by cases e;exact ⟨fun p hp=>(by cases hp),cells,rfl,rfl⟩
 |(i,x) :: ps,cells,e=>by
  replace e:(match sV tmps x with
   |some v=>match nth pl i with
    |some q=>bif Nat.beq (rZ v).length q.2 && Nat.ble (q.1+q.2) cells.length then UZ (rZ v) q.1 cells (Rt pl tmps ps) else none
    |none=>none
   |none=>none)=some v:=e
  split at e
  ·rename_i u hu
   obtain ⟨e1,e2⟩:=jC hu
   split at e
   ·rename_i q hq
    cases hb:(Nat.beq (rZ u).length q.2 && Nat.ble (q.1+q.2) cells.length) with
    |false=>rw [hb] at e;cases e
    |true=>
     rw [hb] at e
     dsimp only [cond_true] at e
     rw [LY] at e
     obtain ⟨h1,c,h2,h3⟩:=yA ps e
     rw [Bool.and_eq_true] at hb
     have b1:=Nat.eq_of_beq_eq_true hb.1
     have b2:=Nat.le_of_ble_eq_true hb.2
     rw [A7] at b1
     refine ⟨fun p hp=>?_,c,?_,h3⟩
     ·rcases List.mem_cons.1 hp with rfl|hp
      ·exact e2
      ·exact h1 p hp
     ·rw [List.map_cons]
      unfold Instr.fill
      rw [gU] at hq
      dsimp only
      rw [hq]
      dsimp only
      rw [e1]
      have c1:u.cells.size=q.2:=by simpa using b1
      have c2:¬(u.cells.size≠q.2 || decide (q.1+u.cells.size > (Array.mk cells).size))=true:=by
       simp [c1]
       omega
      rw [if_neg c2]
      have hf:u.cells.zipIdx.foldl (fun cs (c,j)=>cs.setIfInBounds (q.1+j) c) (Array.mk cells)=⟨U0 (rZ u) q.1 cells⟩:=by
       rw [←Array.foldl_toList,Array.toList_zipIdx]
       have:=AZ u.cells.toList q.1 0 ⟨cells⟩
       rw [A7]
       exact this
      rw [hf]
      exact h2
   ·cases e
  ·cases e
theorem O9{fields:Array Field}{IL:List (Nat×Nat)}(h1:fields.toList.map (fun f=>(f.offset,P.cellsOf f.type))=IL)(h2:∀f∈fields.toList,∃d,P.info? f.type=some d) :
  (fields.mapM fun f=>do pure (f.offset,←sizeOf f.type):Sem (Array (Nat×Nat))).fC P h=some IL.toArray:=by
 have hm:∀(fs:List Field),(∀f∈fs,∃d,P.info? f.type=some d)→(fs.mapM fun f=>do pure (f.offset,←sizeOf f.type):Sem (List (Nat×Nat))).fC P h=some (fs.map fun f=>(f.offset,P.cellsOf f.type)):=by
  intro fs
  induction fs with
  |nil=>intro _;rfl
  |cons f fs ih=>
   intro hf
   obtain ⟨d,hd⟩:=hf f List.mem_cons_self
   have hs:(do pure (f.offset,←sizeOf f.type):Sem (Nat×Nat)).fC P h=some (f.offset,P.cellsOf f.type):=by
    show (sizeOf f.type >>= fun n=>(Pure.pure (f.offset,n):Sem (Nat×Nat))).fC P h=_
    rw [aV (qP hd)]
    unfold Program.cellsOf
    rw [hd]
    rfl
   rw [List.mapM_cons,aV hs,aV (ih fun g hg=>hf g (List.mem_cons_of_mem _ hg))]
   rfl
 rw [Array.mapM_eq_mapM_toList]
 show ((fields.toList.mapM _) >>= fun a=>(Pure.pure a.toArray:Sem (Array (Nat×Nat)))).fC P h=_
 rw [aV (hm _ h2),h1]
 rfl
theorem su(K:dA P T)(e:fast T tmps h o.op=some v):(bf o && kD P h (af ⟨tmps⟩) o)=true∧(execOp (af ⟨tmps⟩) o).fC P h=some (.value v):=by
 have one:∀ {x:Operand} {u:Value},sV tmps x=some u→af ⟨tmps⟩ x=u∧okX x=true:=jC
 obtain ⟨dst,op,type,pos,after,guard⟩:=o
 dsimp only at e
 unfold fast at e
 split at e
 ·rename_i x
  unfold LW at e
  split at e
  ·rename_i u hu
   cases e
   obtain ⟨e1,e2⟩:=one hu
   refine fE (s:=Pure.pure v) (fun y hy=>by simp [Op.operands] at hy;rw [hy];exact e2) rfl ?_ rfl
   unfold execOp
   dsimp only
   rw [e1]
   rfl
  ·cases e
 ·rename_i x
  unfold LW at e
  split at e
  ·rename_i u hu
   cases e
   obtain ⟨e1,e2⟩:=one hu
   refine fE (s:=Pure.pure v) (fun y hy=>by simp [Op.operands] at hy;rw [hy];exact e2) rfl ?_ rfl
   unfold execOp
   dsimp only
   rw [e1]
   rfl
  ·cases e
 ·rename_i s x f
  unfold Ro at e
  split at e
  ·rename_i a hx
   obtain ⟨e1,e2⟩:=one hx
   split at e
   ·rename_i sz fields z IL hs
    split at e
    ·rename_i fd hfd
     split at e
     ·rename_i sz' u' z' aan hf
      cases hb:Nat.beq sz' 0 with
      |true=>rw [hb] at e;cases e
      |false=>
       rw [hb] at e
       cases e
       have hun:=(K.get _ _ hs).1
       obtain ⟨d,hd1,hd2⟩:=(K.get _ _ hf).2.1
       rw [gU] at hfd
       have acr:fields[f]? = some fd:=by simpa using hfd
       have hsz:sz' ≠ 0:=fun e0=>by rw [e0] at hb;cases hb
       refine fE (s:=Instr.fieldAt s (.pointer (some a)) f) (fun y hy=>by simp [Op.operands] at hy;rw [hy];exact e2) ?_ ?_ ?_
       ·show tZ P s f=true
        unfold tZ
        rw [hun]
        dsimp only
        rw [acr]
        dsimp only
        rw [hd1]
        simp [hd2,hsz]
       ·unfold execOp
        dsimp only
        rw [e1]
       ·unfold Instr.fieldAt
        rw [aV (fV hun)]
        dsimp only
        rw [acr]
        dsimp only
        rw [aV (show (Instr.sureAddr (.pointer (some a))).fC P h=some a from rfl)]
        have:(fieldPlace a fd).fC P h=some (a.add fd.offset):=by
         unfold fieldPlace
         rw [aV (qP hd1),hd2,if_neg hsz]
         rfl
        rw [aV this]
        rfl
     ·cases e
    ·cases e
   ·cases e
  ·cases e
 ·rename_i t x
  unfold Zq at e
  split at e
  ·rename_i a hx
   obtain ⟨e1,e2⟩:=one hx
   split at e
   ·rename_i sz d z IL ht
    have hun:=(K.get _ _ ht).1
    obtain ⟨inf,hd1,hd2⟩:=(K.get _ _ ht).2.1
    refine fE (s:=Instr.loadAt t (.pointer (some a))) (fun y hy=>by simp [Op.operands] at hy;rw [hy];exact e2) rfl ?_ ?_
    ·unfold execOp
     dsimp only
     rw [e1]
    ·unfold Instr.loadAt
     rw [aV (show (Instr.sureAddr (.pointer (some a))).fC P h=some a from rfl)]
     unfold loadVar
     have hagg:(isAgg t).fC P h=some (uZ d):=by
      unfold isAgg
      rw [aV (fV hun)]
      dsimp only
      cases d<;>rfl
     rw [aV hagg]
     cases hb:uZ d with
     |true=>
      rw [hb] at e
      dsimp only [cond_true] at e
      split at e
      ·rename_i u hu
       cases e
       simp only [if_true]
       rw [aV (qP hd1),hd2]
       exact O8 hu
      ·cases e
     |false=>
      rw [hb] at e
      dsimp only [cond_false] at e
      split at e
      ·rename_i u hu
       cases e
       simp only [Bool.false_eq_true,if_false]
       unfold load
       rw [Sem.fC.eq_def]
       dsimp only
       rw [yx hu]
       rfl
      ·cases e
   ·cases e
  ·cases e
 ·rename_i Zt t x y s
  unfold acn at e
  split at e
  ·rename_i k a k' b hx hy
   obtain ⟨e1,e2⟩:=one hx
   obtain ⟨e3,e4⟩:=one hy
   split at e
   ·rename_i hk
    subst hk
    split at e
    ·rename_i u hu
     cases e
     refine fE (s:=(eqGuard Zt t x y (.int k a) (.int k b)) >>= fun _=>binOp Zt t (.int k a) (.int k b)) (fun z hz=>by simp [Op.operands] at hz;rcases hz with hz|hz<;>(rw [hz];assumption)) ?_ ?_ ?_
     ·show (A8 Zt (af ⟨tmps⟩ x) (af ⟨tmps⟩ y) || Ba Zt (af ⟨tmps⟩ x) (af ⟨tmps⟩ y))=true
      rw [e1,e3]
      cases Zt<;>first|rfl|(cases hu;done)
     ·unfold execOp
      dsimp only
      rw [e1,e3]
     ·have hg:(eqGuard Zt t x y (.int k a) (.int k b)).fC P h=some ():=by
       unfold eqGuard
       cases Zt<;>rfl
      rw [aV hg]
      unfold acm at hu
      cases Zt<;>first|(cases hu;done)|skip
      all_goals
       cases hu
       simp only [binOp,ne_eq,not_true_eq_false,if_false]
       first|(simp [Op.intArith,Op.intCmp,l7];done)|(simp [Op.intArith,Op.intCmp,l7];by_cases hab:a=b<;>simp [hab])
    ·cases e
   ·cases e
  ·cases e
 ·rename_i t x
  unfold aco at e
  split at e
  ·rename_i b hx
   cases e
   obtain ⟨e1,e2⟩:=one hx
   refine fE (s:=Op.unary .not (.bool b)) (fun y hy=>by simp [Op.operands] at hy;rw [hy];exact e2) rfl ?_ rfl
   unfold execOp
   dsimp only
   rw [e1]
  ·cases e
 ·rename_i x i
  unfold II at e
  split at e
  ·rename_i vs hx
   obtain ⟨e1,e2⟩:=one hx
   split at e
   ·rename_i u hu
    cases e
    rw [gU] at hu
    have hu':vs[i]? = some v:=by simpa using hu
    refine fE (s:=Instr.extract (.tuple vs) i) (fun y hy=>by simp [Op.operands] at hy;rw [hy];exact e2) rfl ?_ ?_
    ·unfold execOp
     dsimp only
     rw [e1]
    ·unfold Instr.extract
     dsimp only
     rw [hu']
     rfl
   ·cases e
  ·cases e
 ·rename_i c a b
  unfold Zr at e
  split at e
  ·rename_i t hc
   split at e
   ·rename_i u u' ha hb
    cases e
    obtain ⟨e1,e2⟩:=one hc
    obtain ⟨e3,e4⟩:=one ha
    obtain ⟨e5,e6⟩:=one hb
    refine fE (s:=Pure.pure (bif t then u else u')) (fun y hy=>by simp [Op.operands] at hy;rcases hy with hy|hy|hy<;>(rw [hy];assumption)) rfl ?_ rfl
    unfold execOp
    dsimp only
    rw [e1,e3,e5]
    cases t<;>rfl
   ·cases e
  ·cases e
 ·rename_i t x i
  unfold Rq at e
  split at e
  ·rename_i a len cap k n hx hi
   obtain ⟨e1,e2⟩:=one hx
   obtain ⟨e3,e4⟩:=one hi
   split at e
   ·rename_i sz el z IL ht
    split at e
    ·rename_i sz' u' z' aan hel
     split at e
     ·rename_i hb
      cases e
      have hun:=(K.get _ _ ht).1
      obtain ⟨inf,hd1,hd2⟩:=(K.get _ _ hel).2.1
      dsimp only at hd2
      refine fE (s:=Instr.indexAt t (.slice (some a) len cap) (.int k n)) (fun y hy=>by simp [Op.operands] at hy;rcases hy with hy|hy<;>(rw [hy];assumption)) rfl ?_ ?_
      ·unfold execOp
       dsimp only
       rw [e1,e3]
      ·unfold Instr.indexAt
       rw [aV (show (asIntOf (.int k n)).fC P h=some (k,n) from rfl)]
       dsimp only
       rw [aV (fV hun)]
       dsimp only
       rw [aV (l7 _)]
       dsimp only
       rw [aV (fV hun)]
       dsimp only
       rw [if_pos hb,aV (qP hd1),hd2]
       rfl
     ·cases e
    ·cases e
   ·cases e
  ·rename_i a k n hx hi
   obtain ⟨e1,e2⟩:=one hx
   obtain ⟨e3,e4⟩:=one hi
   split at e
   ·rename_i sz len el z IL ht
    split at e
    ·rename_i sz' u' z' aan hel
     split at e
     ·rename_i hb
      cases e
      have hun:=(K.get _ _ ht).1
      obtain ⟨inf,hd1,hd2⟩:=(K.get _ _ hel).2.1
      dsimp only at hd2
      refine fE (s:=Instr.indexAt t (.pointer (some a)) (.int k n)) (fun y hy=>by simp [Op.operands] at hy;rcases hy with hy|hy<;>(rw [hy];assumption)) rfl ?_ ?_
      ·unfold execOp
       dsimp only
       rw [e1,e3]
      ·unfold Instr.indexAt
       rw [aV (show (asIntOf (.int k n)).fC P h=some (k,n) from rfl)]
       dsimp only
       rw [aV (fV hun)]
       dsimp only
       rw [aV (show (Instr.sureAddr (.pointer (some a))).fC P h=some a from rfl)]
       rw [aV (l7 _)]
       dsimp only
       rw [aV (fV hun)]
       dsimp only
       rw [if_pos hb,aV (qP hd1),hd2]
       rfl
     ·cases e
    ·cases e
   ·cases e
  ·cases e
 ·rename_i t ps
  unfold Ru at e
  split at e
  ·rename_i sz fields z IL ht
   obtain ⟨hun,⟨inf,hd1,hd2⟩,hz,hpl⟩:=K.get _ _ ht
   obtain ⟨hp1,hp2⟩:=hpl fields rfl
   dsimp only at hz hun hp1
   obtain ⟨hev,acs⟩:=yA _ e
   refine fE (s:=Instr.build t (ps.map fun p=>(p.1,af ⟨tmps⟩ p.2))) (fun y hy=>?_) rfl ?_ ?_
   ·simp [Op.operands] at hy
    obtain ⟨a,hp⟩:=hy
    exact hev (a,y) (Array.mem_toList_iff.2 hp)
   ·unfold execOp
    rfl
   ·unfold Instr.build
    rw [aV (UY hz),aV (fV hun)]
    dsimp only
    rw [aV (O9 hp1 hp2)]
    have hpar:(ps.map fun p=>(p.1,af ⟨tmps⟩ p.2)).toList=ps.toList.map fun p=>(p.1,af ⟨tmps⟩ p.2):=by simp
    obtain ⟨c,hc1,hc2⟩:=acs
    have hzc:z.cells=⟨z.cells.toList⟩:=rfl
    rw [hpar]
    have:(fun i:Nat=>(IL.toArray)[i]?)=(fun i:Nat=>IL[i]?):=by funext i;simp
    rw [show (fun x:Nat=>IL.toArray[x]?)=(fun i:Nat=>IL[i]?) from this]
    rw [hzc,hc1]
    show some (Value.agg ⟨c⟩)=some v
    rw [hc2]
  ·cases e
 ·rename_i args ats
  split at e
  ·rename_i x hargs
   split at e
   ·rename_i t rest aes
    split at e
    ·rename_i sz el z IL ht
     unfold acp at e
     split at e
     ·rename_i base n cap hx
      cases e
      obtain ⟨e1,e2⟩:=one hx
      have hun:=(K.get _ _ ht).1
      have ha:args = #[x]:=Array.ext' hargs
      subst ha
      have hat:ats[0]? = some t:=by rw [←Array.getElem?_toList,aes];rfl
      refine fE (s:=Builtin.len_ ats type #[.slice base n cap]) (fun y hy=>by simp [Op.operands,Call.operands] at hy;rw [hy];exact e2) rfl ?_ ?_
      ·unfold execOp
       dsimp only
       have hm:(#[x]:Array Operand).map (af ⟨tmps⟩) = #[.slice base n cap]:=by simp [e1]
       unfold resolve
       dsimp only
       rw [hm]
       rfl
      ·unfold Builtin.len_
       rw [hat]
       show (underlying t >>= fun d=>_:Sem Value).fC P h=_
       rw [aV (fV hun)]
       rfl
     ·cases e
    ·cases e
   ·cases e
  ·cases e
 ·cases e
end
end Go.Am
namespace Go.Am
noncomputable section
def Rx(dst:Option Nat)(v:Value)(next:K):K:=fun c tmps h=>Option.rec (next c tmps h) (fun d=>oM v tmps d fun tmps=>next c tmps h) dst
def opR(P:Program)(o:Oper)(todo:List aK)(next:K)(c:Ctx)(tmps:List Value)(r:Option (Next×AH)):Option AS:=match r with
 |some (.value v,h)=>Rx o.dst v next c tmps h
 |some (.skip,h)=>Rx o.dst undef next c tmps h
 |some (.enter f args,h)=>CQ P f args c todo tmps h
 |_=>none
def evL(tmps:List Value)(xs:List Operand):Option (List Value):=List.rec (some []) (fun x _ ih=>match sV tmps x with
 |some v=>match ih with
  |some l=>some (v :: l)
  |none=>none
 |none=>none) xs
def Zu(Fu:Tr Func)(c:Ctx)(todo:List aK)(tmps:List Value)(h:AH)(as:List Operand)(f:Option Value):Option AS:=match f with
 |some (.func (.func g) first cap)=>match Fu.get g with
  |some fn=>match evL tmps as with
   |some l=>some ⟨⟨g,⟨app (app first.toList (app l cap.toList)) (rep undef (fn.ntmps - (app first.toList (app l cap.toList)).length))⟩,[.code (fn.body.getD (.refuse "unsupported: a function without a Go body is entered"))],[],false,none,false⟩,⟨c.fn,⟨tmps⟩,todo,c.defers,false,c.round,c.dk⟩ :: c.cs,h⟩
   |none=>none
  |none=>none
 |_=>none
def Bc(Fu:Tr Func)(c:Ctx)(todo:List aK)(tmps:List Value)(h:AH)(op:Op):Option AS:=match op with
 | .call ⟨.value x,args,_⟩=>Zu Fu c todo tmps h args.toList (sV tmps x)
 |_=>none
def op3(P:Program)(Fu:Tr Func)(o:Oper)(todo:List aK)(next:K)(c:Ctx)(tmps:List Value)(h:AH):Option AS:=
 Option.rec (opR P o todo next c tmps (bC P none h ⟨tmps⟩ o)) some (Bc Fu c todo tmps h o.op)
def Ry(T:Tr TI)(h:AH)(t:Nat)(x v:Option Value):Option AH:=match x with
 |some (.pointer (some a))=>match v with
  |some v=>match T.get t with
   |some ⟨sz,_,_,_⟩=>bif Nat.beq sz 1 then match v with
     | .agg _=>none
     | .tuple _=>none
     |v=>h.setCell a v
    else none
   |none=>none
  |none=>none
 |_=>none
def Bd(T:Tr TI)(tmps:List Value)(h:AH)(op:Op):Option AH:=match op with
 | .store t x v=>Ry T h t (sV tmps x) (sV tmps v)
 |_=>none
def wH(T:Tr TI)(tmps:List Value)(h:AH)(op:Op):Option (Value×AH):=match op with
 | .alloc t=>Rl T h t
 | .box t x=>ack h t (sV tmps x)
 |_=>none
def op5(P:Program)(T:Tr TI)(Fu:Tr Func)(o:Oper)(todo:List aK)(next:K)(c:Ctx)(tmps:List Value)(h:AH):Option AS:=
 Option.rec (op3 P Fu o todo next c tmps h) (fun h=>Rx o.dst undef next c tmps h) (Bd T tmps h o.op)
def op4(P:Program)(T:Tr TI)(Fu:Tr Func)(o:Oper)(todo:List aK)(next:K)(c:Ctx)(tmps:List Value)(h:AH):Option AS:=
 Option.rec (op5 P T Fu o todo next c tmps h) (fun r=>Rx o.dst r.1 next c tmps r.2) (wH T tmps h o.op)
def op2(P:Program)(T:Tr TI)(Fu:Tr Func)(o:Oper)(todo:List aK)(next:K)(c:Ctx)(tmps:List Value)(h:AH):Option AS:=
 Option.rec (op4 P T Fu o todo next c tmps h) (fun v=>Rx o.dst v next c tmps h) (fast T tmps h o.op)
def IM(ops:Array Oper)(tmps:List Value)(g:Nat×Bool):Bool:=match nth ops.toList g.1 with
 |some o=>match o.dst with
  |some d=>match nth tmps d with
   |some (.bool b)=>b == g.2
   |_=>false
  |none=>false
 |none=>false
def opK(P:Program)(T:Tr TI)(Fu:Tr Func)(ops:Array Oper)(o:Oper)(todo:List aK)(next:K):K:=fun c tmps h=>
 Option.rec (op2 P T Fu o todo next c tmps h) (fun g=>Bool.rec (Rx o.dst undef next c tmps h) (op2 P T Fu o todo next c tmps h) (IM ops tmps g)) o.guard
def ve(todo:List aK)(first:Bool)(q:K):K:=fun c tmps h=>Option.rec (Bool.rec (some (mk todo c tmps h)) none first) some (q c tmps h)
def opI(P:Program)(T:Tr TI)(Fu:Tr Func)(ops:Array Oper)(todo:List aK)(next:K)(o:Option Oper):K:=Option.rec LM (fun o=>opK P T Fu ops o todo next) o
def Rz(P:Program)(T:Tr TI)(Fu:Tr Func)(ops:Array Oper)(k:List aK)(l:List Nat):Bool→K:=
 List.rec (fun _=>kGo k) (fun i l ih first=>ve (.region ops (i :: l) :: k) first (opI P T Fu ops (.region ops (i :: l) :: k) (ih false) (nth ops.toList i))) l
def aeA(P:Program)(T:Tr TI)(Fu:Tr Func)(ops:Array Oper)(d:Bool)(k:List aK):K:=Bool.rec (Rz P T Fu ops k (List.range ops.toList.length) false) LM d
def UD(T:Tr TI)(tmps:List Value)(h:AH)(ops:Array Oper)(js:List Nat):Bool:=List.rec true (fun j _ ih=>match nth ops.toList j with
 |some o=>match o.dst,o.guard with
  |some d,none=>match nth tmps d with
   |some v=>match fast T tmps h o.op with
    |some v'=>bif jB 9 v v' && decide (kindOf o = .dS) then ih else false
    |none=>false
   |none=>false
  |_,_=>false
 |none=>false) js
def uf(T:Tr TI)(ops:Array Oper)(again:List Nat)(next:K):K:=fun c tmps h=>Bool.rec none (next c tmps h) (UD T tmps h ops again)
def IP(T:Tr TI)(ops:Array Oper)(again:List Nat)(dst:Option Nat)(v:Value)(next:K):K:=fun c tmps h=>
 Option.rec (uf T ops again next c tmps h) (fun d=>oM v tmps d fun tmps=>uf T ops again next c tmps h) dst
def dR(P:Program)(T:Tr TI)(ops:Array Oper)(o:Oper)(again:List Nat)(todo:List aK)(next:K)(c:Ctx)(tmps:List Value)(r:Option (Next×AH)):Option AS:=match r with
 |some (.value v,h)=>IP T ops again o.dst v next c tmps h
 |some (.skip,h)=>IP T ops again o.dst undef next c tmps h
 |some (.enter f args,h)=>CQ P f args c todo tmps h
 |_=>none
def d3(P:Program)(T:Tr TI)(Fu:Tr Func)(ops:Array Oper)(o:Oper)(again:List Nat)(todo:List aK)(next:K)(c:Ctx)(tmps:List Value)(h:AH):Option AS:=
 Option.rec (dR P T ops o again todo next c tmps (bC P none h ⟨tmps⟩ o)) some (Bc Fu c todo tmps h o.op)
def d2(P:Program)(T:Tr TI)(Fu:Tr Func)(ops:Array Oper)(o:Oper)(again:List Nat)(todo:List aK)(next:K)(c:Ctx)(tmps:List Value)(h:AH):Option AS:=
 Option.rec (d3 P T Fu ops o again todo next c tmps h) (fun h=>IP T ops again o.dst undef next c tmps h) (Bd T tmps h o.op)
def aao(P:Program)(T:Tr TI)(Fu:Tr Func)(ops:Array Oper)(o:Oper)(again:List Nat)(todo:List aK)(next:K):K:=fun c tmps h=>
 Option.rec (d2 P T Fu ops o again todo next c tmps h) (fun r=>IP T ops again o.dst r.1 next c tmps r.2) (wH T tmps h o.op)
def JW(T:Tr TI)(o:Oper)(next:K):K:=fun c tmps h=>match fast T tmps h o.op with
 |some v=>match o.dst with
  |some d=>bif Nat.blt d tmps.length then oM v tmps d fun tmps=>next c tmps h else none
  |none=>none
 |none=>none
def JX(T:Tr TI)(ops:Array Oper)(o:Oper)(again:List Nat)(next:K):K:=fun c tmps h=>match o.op with
 | .alloc t=>match T.get t with
  |some ⟨_,_,some z,_⟩=>match o.dst with
   |some d=>bif Nat.blt d tmps.length then oM (.pointer (some ⟨h.n,0,none⟩)) tmps d fun tmps=>uf T ops again next c tmps (h.new (.cells z.cells t (0,0))) else none
   |none=>none
  |_=>none
 |_=>none
def dOp(P:Program)(T:Tr TI)(Fu:Tr Func)(ops:Array Oper)(i:Nat)(o:Oper)(again:List Nat)(todo:List aK)(next:K):K:=
 Option.rec (Kind.rec (JW T o next) (JX T ops o again next) (aao P T Fu ops o again todo next) (cond (over ops i o) .effect (kindOf o))) (fun _=>LM) o.guard
def dI(P:Program)(T:Tr TI)(Fu:Tr Func)(ops:Array Oper)(i:Nat)(again:List Nat)(todo:List aK)(next:K)(o:Option Oper):K:=Option.rec LM (fun o=>dOp P T Fu ops i o again todo next) o
def yB(P:Program)(T:Tr TI)(Fu:Tr Func)(ops:Array Oper)(k:List aK)(l:List (Nat×List Nat)):Bool→K:=
 List.rec (fun _=>kGo k) (fun i l ih first=>ve (.drawn ops (i :: l) :: k) first (dI P T Fu ops i.1 i.2 (.drawn ops (i :: l) :: k) (ih false) (nth ops.toList i.1))) l
def aap(k:List aK):K:=fun c tmps h=>match c.round with
 |none=>some ⟨⟨c.fn,⟨tmps⟩,.code .ret :: k,c.defers,true,none,c.dk⟩,c.cs,h⟩
 |some _=>none
def RD(id:Nat)(k:List aK):K:=fun c tmps h=>match nN id k with
 |some k=>some (mk k c tmps h)
 |none=>none
def codeF(P:Program)(T:Tr TI)(Fu:Tr Func)(x:Code):List aK→K:=
 Code.rec (motive:=fun _=>List aK→K)
  (skip:=kGo) (region:=fun _ ops d=>aeA P T Fu ops d) (seq:=fun _ b iha _ k=>iha (.code b :: k)) (cond:=fun x _ _ iha ihb k=>Rj (iha k) (ihb k) x)
  (block:=fun id _ ih k=>ih (.inBlock id :: k)) (loop:=fun b ih k=>ih (.inLoop b :: k)) (exit:=RD) (goto:=fun _ _=>LM) (label:=fun _ _=>LM) (scope:=fun _ _ _=>LM)
  (ret:=aap) (rangeFunc:=fun _ _ _ _ _ _ _=>LM) (refuse:=fun _ _=>LM) x
def Zv(P:Program)(T:Tr TI)(Fu:Tr Func)(x:aK):List aK→K:=
 aK.casesOn (motive:=fun _=>List aK→K) x (code:=codeF P T Fu) (inBlock:=fun _=>kGo) (inLoop:=fun b k=>codeF P T Fu b (.inLoop b :: k)) (inScope:=fun _=>kGo)
  (region:=fun ops l k=>Rz P T Fu ops k l true) (drawn:=fun ops l k=>yB P T Fu ops k l true) (inRangeFunc:=fun _ _=>LM) (endRangeFunc:=fun _ _=>LM) (beginRound:=fun _=>LM)
def acv(P:Program)(T:Tr TI)(Fu:Tr Func)(todo:List aK):K:=List.casesOn (motive:=fun _=>K) todo LM (Zv P T Fu)
def U1(tmps:List Value)(l:List ResultVar):Option (List Value):=List.rec (some []) (fun x _ ih=>match x with
 | .tmp t=>match nth tmps t with
  |some v=>match ih with
   |some m=>some (v :: m)
   |none=>none
  |none=>none
 |_=>none) l
def resV(l:List Value):Value:=match l with
 | [v]=>v
 |l=>.tuple ⟨l⟩
def RF(T:Tr TI)(h:AH)(cs:List aF)(fn:FuncId)(tmps:Array Value)(todo:List aK)(defers:List Deferred)(ret:Bool)(round:Option Nat)(dk:Bool)(v:Value):Option AS:=match todo with
 | .region ops (i :: l) :: k=>match nth ops.toList i with
  |some o=>match o.dst with
   |some d=>oM v tmps.toList d fun tmps=>some ⟨⟨fn,⟨tmps⟩,.region ops l :: k,defers,ret,round,dk⟩,cs,h⟩
   |none=>some ⟨⟨fn,tmps,.region ops l :: k,defers,ret,round,dk⟩,cs,h⟩
  |none=>none
 | .drawn ops ((i,again) :: l) :: k=>match nth ops.toList i with
  |some o=>match kindOf o with
   | .effect=>match o.dst with
    |some d=>oM v tmps.toList d fun tmps=>bif UD T tmps h ops again then some ⟨⟨fn,⟨tmps⟩,.drawn ops l :: k,defers,ret,round,dk⟩,cs,h⟩ else none
    |none=>bif UD T tmps.toList h ops again then some ⟨⟨fn,tmps,.drawn ops l :: k,defers,ret,round,dk⟩,cs,h⟩ else none
   |_=>none
  |none=>none
 |_=>none
def RG(T:Tr TI)(Fu:Tr Func)(cs:List aF)(h:AH)(fn:FuncId)(tmps:Array Value)(defers:List Deferred)(dk:Bool):Option AS:=match defers with
 | []=>match dk with
  |false=>match cs with
   |c :: cs=>match Fu.get fn with
    |some f=>match U1 tmps.toList f.results.toList with
     |some l=>aF.casesOn c (fun fn tmps todo defers ret round dk=>RF T h cs fn tmps todo defers ret round dk (resV l))
     |none=>none
    |none=>none
   | []=>none
  |true=>none
 |_=>none
def frF(P:Program)(T:Tr TI)(Fu:Tr Func)(cs:List aF)(h:AH)(fn:FuncId)(tmps:Array Value)(todo:List aK)(defers:List Deferred)(ret:Bool)(round:Option Nat)(dk:Bool):Option AS:=
 Bool.rec (acv P T Fu todo ⟨fn,defers,round,dk,cs⟩ tmps.toList h) (RG T Fu cs h fn tmps defers dk) ret
def nO(P:Program)(T:Tr TI)(Fu:Tr Func)(s:AS):Option AS:=AS.casesOn s fun fr cs h=>aF.casesOn fr (frF P T Fu cs h)
def yC(P:Program)(pl:bz)(T:Tr TI)(Fu:Tr Func)(n:Nat):AS→Option uY:=Nat.rec (fun s=>some (.go s)) (fun _ ih s=>Option.rec (LP P pl s ih) ih (nO P T Fu s)) n
end
structure fO(P:Program)(Fu:Tr Func):Prop where
 get:∀f fn,Fu.get f=some fn→P.funcs[f]? = some fn∧bV P f=true
end Go.Am
namespace Go.Am
noncomputable section
def RH(P:Program)(d:TypeDesc):Option TypeDesc:=match d with
 | .named _ u=>(P.info? u).map TypeInfo.desc
 |d=>some d
def CU(P:Program)(l:List Field):Option (List (Nat×Nat)):=List.rec (some []) (fun f _ ih=>match P.info? f.type with
 |some d=>match ih with
  |some m=>some ((f.offset,d.size) :: m)
  |none=>none
 |none=>none) l
def CV(P:Program)(d:TypeInfo):Option TI:=match RH P d.desc with
 |some (.struct fields)=>match CU P fields.toList with
  |some pl=>some ⟨d.size,.struct fields,d.zero,pl⟩
  |none=>none
 |some u=>some ⟨d.size,u,d.zero,[]⟩
 |none=>none
def RI(P:Program)(l:List TypeInfo):Nat→Tr TI:=List.rec (fun _=>.nil) (fun d _ ih i=>match CV P d with
 |some e=>(ih (i+1)).set i e
 |none=>ih (i+1)) l
def RJ(l:List Func):Nat→Tr Func:=List.rec (fun _=>.nil) (fun fn _ ih i=>bif fn.body.isSome && !(fn.name == "runtime.NumGoroutine") then (ih (i+1)).set i fn else ih (i+1)) l
end
section
variable{P:Program}
theorem ug:∀(l:List Field) {pl:List (Nat×Nat)},CU P l=some pl→l.map (fun f=>(f.offset,P.cellsOf f.type))=pl∧∀f∈l,∃d,P.info? f.type=some d
 | [],pl,e=>by cases e;exact ⟨rfl,fun f hf=>(by cases hf)⟩
 |f :: l,pl,e=>by
  replace e:(match P.info? f.type with
   |some d=>match CU P l with
    |some m=>some ((f.offset,d.size) :: m)
    |none=>none
   |none=>none)=some pl:=e
  split at e
  ·rename_i d hd
   split at e
   ·rename_i m hm
    cases e
    obtain ⟨h1,h2⟩:=ug l hm
    refine ⟨?_,fun g hg=>?_⟩
    ·rw [List.map_cons,h1]
     unfold Program.cellsOf
     rw [hd]
     rfl
    ·rcases List.mem_cons.1 hg with rfl|hg
     ·exact ⟨d,hd⟩
     ·exact h2 g hg
   ·cases e
  ·cases e
theorem Pg{t:Nat}{d:TypeInfo}{i:TI}(hd:P.info? t=some d)(e:CV P d=some i) :
  P.underlying t=some i.und∧(∃d,P.info? t=some d∧d.size=i.size)∧zeroOf P t=i.zero∧∀fields,i.und = .struct fields→fields.toList.map (fun f=>(f.offset,P.cellsOf f.type))=i.places∧∀f∈fields.toList,∃d,P.info? f.type=some d:=by
 have hu:P.underlying t=RH P d.desc:=by
  unfold Program.underlying RH
  rw [hd]
  obtain ⟨desc⟩:=d
  cases desc<;>rfl
 have hz:zeroOf P t=d.zero:=by unfold zeroOf;rw [hd];rfl
 rw [hu]
 unfold CV at e
 split at e
 ·rename_i fields hf
  split at e
  ·rename_i pl hpl
   cases e
   rw [hf]
   refine ⟨rfl,⟨d,hd,rfl⟩,hz,fun fs hfs=>?_⟩
   cases hfs
   exact ug _ hpl
  ·cases e
 ·rename_i u hns hu'
  cases e
  rw [hu']
  exact ⟨rfl,⟨d,hd,rfl⟩,hz,fun fs hfs=>absurd hfs (hns fs)⟩
 ·cases e
theorem IQ:∀(l:List TypeInfo) (i:Nat),(∀j d,l[j]? = some d→P.info? (i+j)=some d)→∀t ti,(RI P l i).get t=some ti →
  P.underlying t=some ti.und∧(∃d,P.info? t=some d∧d.size=ti.size)∧zeroOf P t=ti.zero∧∀fields,ti.und = .struct fields→fields.toList.map (fun f=>(f.offset,P.cellsOf f.type))=ti.places∧∀f∈fields.toList,∃d,P.info? f.type=some d
 | [],i,hl,t,ti,e=>by cases e
 |d :: l,i,hl,t,ti,e=>by
  have ih:=IQ l (i+1) fun j d' hj=>by
   have:=hl (j+1) d' (by simpa using hj)
   rw [show i+1+j=i+(j+1) from by omega]
   exact this
  replace e:(match CV P d with
   |some en=>(RI P l (i+1)).set i en
   |none=>RI P l (i+1)).get t=some ti:=e
  split at e
  ·rename_i en hen
   rw [Tr.dN] at e
   split at e
   ·rename_i ht
    cases e
    subst ht
    exact Pg (hl 0 d rfl) hen
   ·exact ih t ti e
  ·exact ih t ti e
theorem U2:dA P (RI P P.types.toList 0):=
 ⟨IQ P.types.toList 0 fun j d hj=>by
  have h1:P.types[j]? = some d:=by simpa using hj
  have h2:j < P.types.size:=(Array.getElem?_eq_some_iff.1 h1).1
  rw [Nat.zero_add]
  unfold Tables.info?
  rw [if_pos h2]
  exact h1⟩
theorem IU:∀(l:List Func) (i:Nat),(∀j d,l[j]? = some d→P.funcs[i+j]? = some d)→∀f fn,(RJ l i).get f=some fn→P.funcs[f]? = some fn∧bV P f=true
 | [],i,hl,t,ti,e=>by cases e
 |d :: l,i,hl,f,fn,e=>by
  have ih:=IU l (i+1) fun j d' hj=>by
   have:=hl (j+1) d' (by simpa using hj)
   rw [show i+1+j=i+(j+1) from by omega]
   exact this
  replace e:(bif d.body.isSome && !(d.name == "runtime.NumGoroutine") then (RJ l (i+1)).set i d else RJ l (i+1)).get f=some fn:=e
  cases hb:(d.body.isSome && !(d.name == "runtime.NumGoroutine")) with
  |true=>
   rw [hb] at e
   dsimp only [cond_true] at e
   rw [Tr.dN] at e
   split at e
   ·rename_i ht
    cases e
    subst ht
    have h0:=hl 0 d rfl
    refine ⟨h0,?_⟩
    unfold bV
    rw [show f+0=f from rfl] at h0
    rw [h0]
    exact hb
   ·exact ih f fn e
  |false=>
   rw [hb] at e
   exact ih f fn e
theorem U3:fO P (RJ P.funcs.toList 0):=
 ⟨IU P.funcs.toList 0 fun j d hj=>by
  rw [Nat.zero_add]
  simpa using hj⟩
end
end Go.Am
namespace Go.Am
section
variable{P:Program}{T:Tr TI}{Fu:Tr Func}{pl:bz}{tmps:List Value}{h h':AH}{o:Oper}{v:Value}{x:Operand}{c:Ctx}{s':AS}{k:List aK}{ops:Array Oper}{i:Nat}{l:List Nat}{next:K}
theorem yD:∀(l m:List Value),app l m=l ++ m
 | [],m=>rfl
 |x :: l,m=>by show x :: app l m=_;rw [yD l m];rfl
theorem JY(v:Value):∀(n:Nat),rep v n=List.replicate n v
 |0=>rfl
 |n+1=>by show v :: rep v n=_;rw [JY v n];rfl
abbrev To(P:Program)(pl:bz)(s' s:AS):Prop:=bn P pl (· = s') s
theorem To.one{s s₁:AS}(e:ax P pl none s=some (.go s₁))(k:To P pl s' s₁):To P pl s' s:=bn.one e k
def bH(P:Program)(pl:bz)(todo:List aK)(q:K):Prop:=∀c tmps h s',q c tmps h=some s' → To P pl s' (mk todo c tmps h)
theorem o8(todo:List aK):bH P pl todo (kGo todo):=fun c tmps h s' e=>by cases e;exact .here rfl
theorem iU(todo:List aK):bH P pl todo LM:=fun c tmps h s' e=>by cases e
theorem dV{todo todo':List aK}{q:K}(hs:∀c tmps h,ax P pl none (mk todo c tmps h)=some (.go (mk todo' c tmps h)))(hq:bH P pl todo' q):bH P pl todo q:=fun c tmps h s' e=>To.one (hs c tmps h) (hq c tmps h s' e)
theorem vg{dst:Option Nat}(hn:bH P pl (.region ops l :: k) next)(e:Rx dst v next c tmps h=some s') :
  To P pl s' ⟨⟨c.fn,cZ ⟨tmps⟩ dst v,.region ops l :: k,c.defers,false,c.round,c.dk⟩,c.cs,h⟩:=by
 unfold Rx at e
 cases dst with
 |none=>exact hn c tmps h s' e
 |some d=>
  replace e:oM v tmps d (fun tmps=>next c tmps h)=some s' :=e
  rw [iT] at e
  have:=hn c _ h s' e
  unfold mk at this
  have es:cZ ⟨tmps⟩ (some d) v=⟨tmps.set d v⟩:=by
   unfold cZ
   apply Array.ext'
   simp
  rw [es]
  exact this
theorem kY(ho:ops[i]? = some o)(hg:Region.wanted o (yielded ops ⟨tmps⟩)=true):ax P pl none (mk (.region ops (i :: l) :: k) c tmps h)=bK P (mk (.region ops (i :: l) :: k) c tmps h).fr c.cs (bC P none h ⟨tmps⟩ o):=by
 unfold ax mk
 dsimp only
 rw [ho]
 dsimp only
 rw [if_pos hg]
theorem sD(ho:ops[i]? = some o)(v:Value)(h:AH):au P (mk (.region ops (i :: l) :: k) c tmps h').fr h v=some ⟨c.fn,cZ ⟨tmps⟩ o.dst v,.region ops l :: k,c.defers,false,c.round,c.dk⟩:=by
 unfold au mk
 dsimp only
 rw [ho]
 rfl
theorem o9(ho:ops[i]? = some o)(hg:Region.wanted o (yielded ops ⟨tmps⟩)=true)(hn:bH P pl (.region ops l :: k) next)(hx:bC P none h ⟨tmps⟩ o=some (.value v,h'))(e:Rx o.dst v next c tmps h' = some s'):To P pl s' (mk (.region ops (i :: l) :: k) c tmps h):=by
 have hs:=kY (P:=P) (pl:=pl) (c:=c) (tmps:=tmps) (h:=h) (l:=l) (k:=k) ho hg
 rw [hx] at hs
 unfold bK at hs
 dsimp only at hs
 rw [sD ho] at hs
 exact .one hs (vg hn e)
theorem yE(ho:ops[i]? = some o)(hg:Region.wanted o (yielded ops ⟨tmps⟩)=true)(hn:bH P pl (.region ops l :: k) next)(hx:bC P none h ⟨tmps⟩ o=some (.skip,h'))(e:Rx o.dst undef next c tmps h' = some s'):To P pl s' (mk (.region ops (i :: l) :: k) c tmps h):=by
 have hs:=kY (P:=P) (pl:=pl) (c:=c) (tmps:=tmps) (h:=h) (l:=l) (k:=k) ho hg
 rw [hx] at hs
 unfold bK at hs
 dsimp only at hs
 rw [sD ho] at hs
 exact .one hs (vg hn e)
theorem uh{todo:List aK}{f:FuncId}{args:Array Value}(hs:ax P pl none (mk todo c tmps h)=bK P (mk todo c tmps h).fr c.cs (bC P none h ⟨tmps⟩ o))(hx:bC P none h ⟨tmps⟩ o=some (.enter f args,h'))(e:CQ P f args c todo tmps h' = some s'):To P pl s' (mk todo c tmps h):=by
 rw [hx] at hs
 unfold CQ at e
 cases hf:P.funcs[f]? with
 |none=>rw [hf] at e;cases e
 |some fn=>
  rw [hf] at e
  unfold Ri at e
  cases e
  refine .one hs (.here ?_)
  unfold aF.enter
  rw [hf]
  dsimp only
  have et:args ++ Array.replicate (fn.ntmps - args.size) undef=⟨app args.toList (rep undef (fn.ntmps - args.toList.length))⟩:=by
   apply Array.ext'
   rw [yD,JY]
   simp
  simp only [Option.map_some,Option.getD_some,Option.bind_some,et]
  rfl
theorem Pj(ho:ops[i]? = some o)(hg:Region.wanted o (yielded ops ⟨tmps⟩)=true)(hn:bH P pl (.region ops l :: k) next)(e:opR P o (.region ops (i :: l) :: k) next c tmps (bC P none h ⟨tmps⟩ o)=some s'):To P pl s' (mk (.region ops (i :: l) :: k) c tmps h):=by
 unfold opR at e
 split at e
 ·rename_i v h' hx;exact o9 ho hg hn hx e
 ·rename_i h' hx;exact yE ho hg hn hx e
 ·rename_i f args h' hx
  exact uh (kY ho hg) hx e
 ·cases e
theorem IV:∀(xs:List Operand) {l:List Value},evL tmps xs=some l→xs.map (af ⟨tmps⟩)=l∧∀x∈xs,okX x=true
 | [],l,e=>by cases e;exact ⟨rfl,fun x hx=>by cases hx⟩
 |x :: xs,l,e=>by
  replace e:(match sV tmps x with
   |some v=>match evL tmps xs with
    |some l=>some (v :: l)
    |none=>none
   |none=>none)=some l:=e
  split at e
  ·rename_i v hv
   split at e
   ·rename_i m hm
    cases e
    obtain ⟨h1,h2⟩:=jC hv
    obtain ⟨h3,h4⟩:=IV xs hm
    refine ⟨by rw [List.map_cons,h1,h3],fun y hy=>?_⟩
    rcases List.mem_cons.1 hy with rfl|hy
    ·exact h2
    ·exact h4 y hy
   ·cases e
  ·cases e
theorem wI{todo:List aK}(KF:fO P Fu)(hs:ax P pl none (mk todo c tmps h)=bK P (mk todo c tmps h).fr c.cs (bC P none h ⟨tmps⟩ o))(e:Bc Fu c todo tmps h o.op=some s'):To P pl s' (mk todo c tmps h):=by
 obtain ⟨dst,op,type,pos,after,guard⟩:=o
 dsimp only at e
 unfold Bc at e
 split at e
 ·rename_i x args ats
  unfold Zu at e
  split at e
  ·rename_i g first cap hx
   obtain ⟨e1,e2⟩:=jC hx
   split at e
   ·rename_i fn hfn
    obtain ⟨f1,f2⟩:=KF.get _ _ hfn
    split at e
    ·rename_i as has
     cases e
     obtain ⟨a1,a2⟩:=IV _ has
     have hex:bC P none h ⟨tmps⟩ ⟨dst,.call ⟨.value x,args,ats⟩,type,pos,after,guard⟩=some (.enter g ((first ++ args.map (af ⟨tmps⟩)) ++ cap),h):=by
      unfold bC
      have hop:bf ⟨dst,.call ⟨.value x,args,ats⟩,type,pos,after,guard⟩=true:=qQ fun y hy=>by
       simp only [Op.operands,Call.operands] at hy
       rcases Array.mem_append.1 hy with hy|hy
       ·simp at hy;rw [hy];exact e2
       ·exact a2 y (Array.mem_toList_iff.2 hy)
      have hok:kD P h (af ⟨tmps⟩) ⟨dst,.call ⟨.value x,args,ats⟩,type,pos,after,guard⟩=true:=by
       show IW P (af ⟨tmps⟩ x)=true
       rw [e1]
       rfl
      rw [show bP ⟨dst,.call ⟨.value x,args,ats⟩,type,pos,after,guard⟩=false from rfl,hop,hok]
      simp only [Bool.false_eq_true,if_false,Bool.and_self,if_true]
      have:execOp (af ⟨tmps⟩) ⟨dst,.call ⟨.value x,args,ats⟩,type,pos,after,guard⟩=callFunc g ((first ++ args.map (af ⟨tmps⟩)) ++ cap):=by
       unfold execOp
       dsimp only
       unfold resolve
       dsimp only
       rw [e1]
       rfl
      rw [this]
      unfold callFunc bV at *
      rw [f1] at f2
      dsimp only at f2
      rw [Bool.and_eq_true,Bool.not_eq_true'] at f2
      show (match P.funcs[g]? with|none=>_|some fn=>_:Sem Next).ar P none h=_
      rw [f1]
      dsimp only
      rw [if_neg (by rw [f2.2];simp),if_neg (by have:=f2.1;cases hb:fn.body<;>simp_all)]
      rfl
     rw [hex] at hs
     refine .one hs (.here ?_)
     unfold aF.enter
     rw [f1]
     dsimp only
     have et:∀as':Array Value,as'.toList=app first.toList (app as cap.toList)→as' ++ Array.replicate (fn.ntmps - as'.size) undef=⟨app (app first.toList (app as cap.toList)) (rep undef (fn.ntmps - (app first.toList (app as cap.toList)).length))⟩:=by
      intro as' h'
      apply Array.ext'
      rw [←h',yD as'.toList,JY]
      simp
     have:=et ((first ++ args.map (af ⟨tmps⟩)) ++ cap) (by rw [yD,yD,←a1];simp)
     simp only [Option.map_some,Option.getD_some,Option.bind_some,this]
     rfl
    ·cases e
   ·cases e
  ·cases e
 ·cases e
theorem wJ(K:dA P T)(e:Bd T tmps h o.op=some h'):bC P none h ⟨tmps⟩ o=some (.skip,h'):=by
 obtain ⟨dst,op,type,pos,after,guard⟩:=o
 dsimp only at e
 unfold Bd at e
 split at e
 ·rename_i t x v
  unfold Ry at e
  split at e
  ·rename_i a hx
   obtain ⟨e1,e2⟩:=jC hx
   split at e
   ·rename_i u hu
    obtain ⟨e3,e4⟩:=jC hu
    split at e
    ·rename_i sz d z IL ht
     obtain ⟨inf,hd1,hd2⟩:=(K.get _ _ ht).2.1
     cases hb:Nat.beq sz 1 with
     |false=>rw [hb] at e;cases e
     |true=>
      rw [hb] at e
      dsimp only [cond_true] at e
      have hsz:sz=1:=Nat.eq_of_beq_eq_true hb
      subst hsz
      have Be:u.cells = #[u]∧h.setCell a u=some h' ∧ (∀c,u ≠ .agg c)∧∀c,u ≠ .tuple c:=by
       cases u<;>first|(cases e;done)|refine ⟨rfl,e,?_,?_⟩<;>(intro c hc;cases hc)
      have hst:(store a u).ar P none h=some ((),h'):=by
       unfold store
       rw [Sem.ar.eq_def]
       obtain ⟨_,f2,f3,f4⟩:=Be
       cases u<;>first|exact absurd rfl (f3 _)|exact absurd rfl (f4 _)|(dsimp only;rw [f2];rfl)
      unfold bC
      have hop:bf ⟨dst,.store t x v,type,pos,after,guard⟩=true:=qQ fun y hy=>by
       simp [Op.operands] at hy
       rcases hy with hy|hy<;>(rw [hy];assumption)
      rw [show bP ⟨dst,.store t x v,type,pos,after,guard⟩=false from rfl,hop,show kD P h (af ⟨tmps⟩) ⟨dst,.store t x v,type,pos,after,guard⟩=true from rfl]
      simp only [Bool.false_eq_true,if_false,Bool.and_self,if_true]
      unfold execOp
      dsimp only
      rw [e1,e3]
      have hs:(Instr.storeAt t (.pointer (some a)) u).ar P none h=some ((),h'):=by
       unfold Instr.storeAt
       rw [jH (show (Instr.sureAddr (.pointer (some a))).ar P none h=some (a,h) from rfl)]
       unfold storeVar
       rw [jH (UU hd1),Be.1,hd2]
       simp only [List.size_toArray,List.length_cons,List.length_nil,ne_eq,not_true_eq_false,if_false]
       show (storeCells a [u] 0).ar P none h=_
       unfold storeCells
       have ha:a.add 0=a:=rfl
       rw [ha,jH hst]
       rfl
      show (Instr.storeAt t (.pointer (some a)) u >>= fun _=>(Pure.pure Next.skip:Sem Next)).ar P none h=_
      rw [jH hs]
      rfl
    ·cases e
   ·cases e
  ·cases e
 ·cases e
theorem wK(K:dA P T)(hap:bP o=false)(e:wH T tmps h o.op=some (v,h')):bC P none h ⟨tmps⟩ o=some (.value v,h'):=by
 obtain ⟨dst,op,type,pos,after,guard⟩:=o
 dsimp only at e
 unfold wH at e
 split at e
 ·rename_i t
  unfold Rl at e
  split at e
  ·rename_i sz d z IL ht
   cases e
   have hz:=(K.get _ _ ht).2.2.1
   refine IJ (s:=Instr.alloc t true (.tuple #[])) hap (fun y hy=>by simp [Op.operands] at hy) rfl ?_ ?_
   ·unfold execOp
    rfl
   ·unfold Instr.alloc
    rw [jH (UW (z:=z) hz)]
    rfl
  ·cases e
 ·rename_i t x
  unfold ack at e
  split at e
  ·rename_i u hx
   cases e
   obtain ⟨e1,e2⟩:=jC hx
   refine IJ (s:=Instr.box t u) hap (fun y hy=>by simp [Op.operands] at hy;rw [hy];exact e2) rfl ?_ rfl
   unfold execOp
   dsimp only
   rw [e1]
  ·cases e
 ·cases e
theorem Bf(K:dA P T)(KF:fO P Fu)(ho:ops[i]? = some o)(hg:Region.wanted o (yielded ops ⟨tmps⟩)=true)(hn:bH P pl (.region ops l :: k) next)(e:op2 P T Fu o (.region ops (i :: l) :: k) next c tmps h=some s'):To P pl s' (mk (.region ops (i :: l) :: k) c tmps h):=by
 unfold op2 at e
 have hap:fast T tmps h o.op≠none∨wH T tmps h o.op≠none→bP o=false:=by
  intro hx
  obtain ⟨dst,op,type,pos,after,guard⟩:=o
  unfold bP
  dsimp only at hx ⊢
  split
  ·rcases hx with hx|hx
   ·exact absurd rfl hx
   ·exact absurd rfl hx
  ·rfl
 cases hf:fast T tmps h o.op with
 |some v=>
  rw [hf] at e
  exact o9 ho hg hn (Rw (hap (.inl (by rw [hf];simp))) (su K hf)) e
 |none=>
  rw [hf] at e
  replace e:op4 P T Fu o (.region ops (i :: l) :: k) next c tmps h=some s' :=e
  unfold op4 at e
  cases hA:wH T tmps h o.op with
  |some r=>
   rw [hA] at e
   obtain ⟨v,h'⟩:=r
   exact o9 ho hg hn (wK K (hap (.inr (by rw [hA];simp))) hA) e
  |none=>
   rw [hA] at e
   replace e:op5 P T Fu o (.region ops (i :: l) :: k) next c tmps h=some s' :=e
   unfold op5 at e
   cases hS:Bd T tmps h o.op with
   |some h'=>
    rw [hS] at e
    exact yE ho hg hn (wJ K hS) e
   |none=>
    rw [hS] at e
    replace e:op3 P Fu o (.region ops (i :: l) :: k) next c tmps h=some s' :=e
    unfold op3 at e
    cases hc:Bc Fu c (.region ops (i :: l) :: k) tmps h o.op with
    |some s₁=>
     rw [hc] at e
     cases e
     exact wI KF (kY ho hg) hc
    |none=>
     rw [hc] at e
     exact Pj ho hg hn e
theorem RN{g:Nat×Bool}(hg:o.guard=some g):Region.wanted o (yielded ops ⟨tmps⟩)=IM ops tmps g:=by
 obtain ⟨j,w⟩:=g
 unfold Region.wanted IM yielded
 rw [hg]
 dsimp only
 have e1:nth ops.toList j=ops[j]? :=by rw [gU];simp
 rw [e1]
 cases ops[j]? with
 |none=>simp
 |some o'=>
  dsimp only [Option.bind_some]
  cases o'.dst with
  |none=>simp
  |some d=>
   dsimp only [Option.bind_some]
   rw [jP]
   cases (Array.mk tmps)[d]? with
   |none=>simp
   |some v=>cases v<;>simp
theorem Pm(K:dA P T)(KF:fO P Fu)(ho:ops[i]? = some o)(hn:bH P pl (.region ops l :: k) next):bH P pl (.region ops (i :: l) :: k) (opK P T Fu ops o (.region ops (i :: l) :: k) next):=by
 intro c tmps h s' e
 unfold opK at e
 cases hg:o.guard with
 |some g=>
  rw [hg] at e
  replace e:Bool.rec (Rx o.dst undef next c tmps h) (op2 P T Fu o (.region ops (i :: l) :: k) next c tmps h) (IM ops tmps g)=some s' :=e
  have hw:=RN (ops:=ops) (tmps:=tmps) hg
  cases hb:IM ops tmps g with
  |true=>
   rw [hb] at e hw
   exact Bf K KF ho hw hn e
  |false=>
   rw [hb] at e hw
   have hst:ax P pl none (mk (.region ops (i :: l) :: k) c tmps h)=some (.go ⟨⟨c.fn,cZ ⟨tmps⟩ o.dst undef,.region ops l :: k,c.defers,false,c.round,c.dk⟩,c.cs,h⟩):=by
    unfold ax mk
    dsimp only
    rw [ho]
    dsimp only
    rw [if_neg (by rw [hw];simp)]
    have:=sD (P:=P) (c:=c) (tmps:=tmps) (h' :=h) (l:=l) (k:=k) ho undef h
    unfold mk at this
    dsimp only at this
    rw [this]
    rfl
   exact .one hst (vg hn e)
 |none=>
  rw [hg] at e
  exact Bf K KF ho (by unfold Region.wanted;rw [hg]) hn e
theorem sF(K:dA P T)(KF:fO P Fu):∀(l:List Nat) (first:Bool),bH P pl (.region ops l :: k) (Rz P T Fu ops k l first)
 | [],first=>dV (fun c tmps h=>rfl) (o8 k)
 |i :: l,first=>by
  intro c tmps h s' e
  replace e:ve (.region ops (i :: l) :: k) first (opI P T Fu ops (.region ops (i :: l) :: k) (Rz P T Fu ops k l false) (nth ops.toList i)) c tmps h=some s' :=e
  unfold ve at e
  cases hq:opI P T Fu ops (.region ops (i :: l) :: k) (Rz P T Fu ops k l false) (nth ops.toList i) c tmps h with
  |none=>
   rw [hq] at e
   cases first with
   |true=>cases e
   |false=>cases e;exact .here rfl
  |some s₁=>
   rw [hq] at e
   cases e
   cases ho:nth ops.toList i with
   |none=>rw [ho] at hq;cases hq
   |some o=>
    rw [ho] at hq
    rw [gU] at ho
    exact Pm K KF (by simpa using ho) (sF K KF l false) c tmps h _ hq
variable{again:List Nat}{rest:List (Nat×List Nat)}
theorem l9(K:dA P T):∀(js:List Nat),UD T tmps h ops js=true→recheck P ops js ⟨tmps⟩ h=true
 | [],e=>rfl
 |j :: js,e=>by
  replace e:(match nth ops.toList j with
   |some o=>match o.dst,o.guard with
    |some d,none=>match nth tmps d with
     |some v=>match fast T tmps h o.op with
      |some v'=>bif jB 9 v v' && decide (kindOf o = .dS) then UD T tmps h ops js else false
      |none=>false
     |none=>false
    |_,_=>false
   |none=>false)=true:=e
  split at e
  ·rename_i o ho
   rw [gU] at ho
   have ho':ops[j]? = some o:=by simpa using ho
   split at e
   ·rename_i d hd hg
    split at e
    ·rename_i v hv
     rw [jP] at hv
     split at e
     ·rename_i v' hf
      cases hb:(jB 9 v v' && decide (kindOf o = .dS)) with
      |false=>rw [hb] at e;cases e
      |true=>
       rw [hb] at e
       rw [Bool.and_eq_true] at hb
       have hl:=wG (su K hf)
       have h1:eqB P h ops ⟨tmps⟩ j=true:=by
        unfold eqB
        rw [ho']
        dsimp only
        rw [hd]
        dsimp only
        rw [hv]
        dsimp only
        have hw:Region.wanted o (yielded ops ⟨tmps⟩)=true:=by unfold Region.wanted;rw [hg]
        rw [hw]
        dsimp only
        have hna:∀t,o.op ≠ .alloc t:=fun t ht=>by rw [ht] at hf;cases hf
        have hnb:∀t n ps,o.op ≠ .buildSlice t n ps:=fun t n ps ht=>by rw [ht] at hf;cases hf
        split
        ·rename_i t ht;exact absurd ht (hna t)
        ·rename_i t n ps ht;exact absurd ht (hnb t n ps)
        ·rw [hl]
         simp only [Bool.and_eq_true]
         exact ⟨hb.2,hb.1⟩
       have h2:=l9 K js e
       unfold recheck at h2 ⊢
       rw [List.all_cons,h1,h2]
       rfl
     ·cases e
    ·cases e
   ·cases e
  ·cases e
theorem JZ(ho:ops[i]? = some o)(hk:kindOf o = .effect):aH ops i = .effect:=by
 unfold aH
 rw [ho]
 dsimp only
 rw [hk]
 cases over ops i o<;>rfl
theorem IX(ho:ops[i]? = some o):bG ops i=o.dst:=by unfold bG;rw [ho];rfl
theorem yF(K:dA P T)(ho:ops[i]? = some o)(hk:aH ops i = .effect)(hn:bH P pl (.drawn ops rest :: k) next){LZ:List Value}{h₀:AH}(e:IP T ops again o.dst v next c tmps h=some s') :
  ∃a',au P (mk (.drawn ops ((i,again) :: rest) :: k) c tmps h₀).fr h v=some a' ∧ To P pl s' ⟨a',c.cs,h⟩:=by
 unfold au mk
 dsimp only
 rw [IX ho]
 unfold IP at e
 cases hd:o.dst with
 |none=>
  rw [hd] at e
  replace e:uf T ops again next c tmps h=some s' :=e
  unfold uf at e
  cases hr:UD T tmps h ops again with
  |false=>rw [hr] at e;cases e
  |true=>
   rw [hr] at e
   exact ⟨⟨c.fn,⟨tmps⟩,.drawn ops rest :: k,c.defers,false,c.round,c.dk⟩,by rw [show cZ ⟨tmps⟩ none v=⟨tmps⟩ from rfl,if_pos ⟨hk,l9 K _ hr⟩],hn c tmps h s' e⟩
 |some d=>
  rw [hd] at e
  replace e:oM v tmps d (fun tmps=>uf T ops again next c tmps h)=some s' :=e
  rw [iT] at e
  unfold uf at e
  cases hr:UD T (tmps.set d v) h ops again with
  |false=>rw [hr] at e;cases e
  |true=>
   rw [hr] at e
   have es:cZ ⟨tmps⟩ (some d) v=⟨tmps.set d v⟩:=by
    unfold cZ
    apply Array.ext'
    simp
   rw [es]
   exact ⟨_,by rw [if_pos ⟨hk,l9 K _ hr⟩],hn c _ h s' e⟩
theorem nP(ho:ops[i]? = some o)(hk:aH ops i = .effect)(hg:Region.wanted o (yielded ops ⟨tmps⟩)=true):ax P pl none (mk (.drawn ops ((i,again) :: rest) :: k) c tmps h)=bK P (mk (.drawn ops ((i,again) :: rest) :: k) c tmps h).fr c.cs (bC P none h ⟨tmps⟩ o):=by
 unfold ax mk
 dsimp only
 rw [ho]
 dsimp only
 rw [hk]
 dsimp only
 rw [if_pos hg]
theorem yG(K:dA P T)(ho:ops[i]? = some o)(hk:aH ops i = .effect)(hg:Region.wanted o (yielded ops ⟨tmps⟩)=true)(hn:bH P pl (.drawn ops rest :: k) next)(hx:bC P none h ⟨tmps⟩ o=some (.value v,h'))(e:IP T ops again o.dst v next c tmps h' = some s') :
  To P pl s' (mk (.drawn ops ((i,again) :: rest) :: k) c tmps h):=by
 have hs:=nP (P:=P) (pl:=pl) (again:=again) (rest:=rest) (c:=c) (h:=h) (k:=k) ho hk hg
 rw [hx] at hs
 obtain ⟨a',h1,h2⟩:=yF (P:=P) (pl:=pl) (k:=k) (h₀:=h) (LZ:=tmps) K ho hk hn e
 unfold bK at hs
 dsimp only at hs
 rw [h1] at hs
 exact .one hs h2
theorem wL(K:dA P T)(ho:ops[i]? = some o)(hk:aH ops i = .effect)(hg:Region.wanted o (yielded ops ⟨tmps⟩)=true)(hn:bH P pl (.drawn ops rest :: k) next)(hx:bC P none h ⟨tmps⟩ o=some (.skip,h'))(e:IP T ops again o.dst undef next c tmps h' = some s') :
  To P pl s' (mk (.drawn ops ((i,again) :: rest) :: k) c tmps h):=by
 have hs:=nP (P:=P) (pl:=pl) (again:=again) (rest:=rest) (c:=c) (h:=h) (k:=k) ho hk hg
 rw [hx] at hs
 obtain ⟨a',h1,h2⟩:=yF (P:=P) (pl:=pl) (k:=k) (h₀:=h) (LZ:=tmps) K ho hk hn e
 unfold bK at hs
 dsimp only at hs
 rw [h1] at hs
 exact .one hs h2
theorem J3(K:dA P T)(KF:fO P Fu)(ho:ops[i]? = some o)(hk:aH ops i = .effect)(hg:Region.wanted o (yielded ops ⟨tmps⟩)=true)(hn:bH P pl (.drawn ops rest :: k) next)(e:aao P T Fu ops o again (.drawn ops ((i,again) :: rest) :: k) next c tmps h=some s') :
  To P pl s' (mk (.drawn ops ((i,again) :: rest) :: k) c tmps h):=by
 unfold aao at e
 have hap:wH T tmps h o.op≠none→bP o=false:=by
  intro hx
  obtain ⟨dst,op,type,pos,after,guard⟩:=o
  unfold bP
  dsimp only at hx ⊢
  split
  ·exact absurd rfl hx
  ·rfl
 cases hA:wH T tmps h o.op with
 |some r=>
  rw [hA] at e
  obtain ⟨v,h'⟩:=r
  exact yG K ho hk hg hn (wK K (hap (by rw [hA];simp)) hA) e
 |none=>
  rw [hA] at e
  replace e:d2 P T Fu ops o again (.drawn ops ((i,again) :: rest) :: k) next c tmps h=some s' :=e
  unfold d2 at e
  cases hS:Bd T tmps h o.op with
  |some h'=>
   rw [hS] at e
   exact wL K ho hk hg hn (wJ K hS) e
  |none=>
   rw [hS] at e
   replace e:d3 P T Fu ops o again (.drawn ops ((i,again) :: rest) :: k) next c tmps h=some s' :=e
   unfold d3 at e
   cases hc:Bc Fu c (.drawn ops ((i,again) :: rest) :: k) tmps h o.op with
   |some s₁=>
    rw [hc] at e
    cases e
    exact wI KF (nP ho hk hg) hc
   |none=>
    rw [hc] at e
    replace e:dR P T ops o again (.drawn ops ((i,again) :: rest) :: k) next c tmps (bC P none h ⟨tmps⟩ o)=some s' :=e
    unfold dR at e
    split at e
    ·rename_i v h' hx;exact yG K ho hk hg hn hx e
    ·rename_i h' hx;exact wL K ho hk hg hn hx e
    ·rename_i f args h' hx
     exact uh (nP ho hk hg) hx e
    ·cases e
theorem CW(K:dA P T)(ho:ops[i]? = some o)(hk:aH ops i = .dS)(hg:Region.wanted o (yielded ops ⟨tmps⟩)=true)(hn:bH P pl (.drawn ops rest :: k) next)(e:JW T o next c tmps h=some s') :
  To P pl s' (mk (.drawn ops ((i,again) :: rest) :: k) c tmps h):=by
 unfold JW at e
 split at e
 ·rename_i v hf
  have hl:=wG (su K hf)
  have hna:∀t,o.op ≠ .alloc t:=fun t ht=>by rw [ht] at hf;cases hf
  have hnb:∀t n ps,o.op ≠ .buildSlice t n ps:=fun t n ps ht=>by rw [ht] at hf;cases hf
  split at e
  ·rename_i d hd
   cases hb:Nat.blt d tmps.length with
   |false=>rw [hb] at e;cases e
   |true=>
    rw [hb] at e
    replace e:oM v tmps d (fun tmps=>next c tmps h)=some s' :=e
    rw [iT] at e
    have hlt:d < tmps.length:=by simpa using hb
    have hst:ax P pl none (mk (.drawn ops ((i,again) :: rest) :: k) c tmps h)=some (.go (mk (.drawn ops rest :: k) c (tmps.set d v) h)):=by
     unfold ax mk
     dsimp only
     rw [ho]
     dsimp only
     rw [hk]
     dsimp only
     rw [hd]
     dsimp only
     rw [if_pos (show d < (Array.mk tmps).size from hlt),if_pos hg]
     have es:(Array.mk tmps).setIfInBounds d v=⟨tmps.set d v⟩:=by
      apply Array.ext'
      simp
     split
     ·rename_i t ht;exact absurd ht (hna t)
     ·rename_i t n ps ht;exact absurd ht (hnb t n ps)
     ·rw [hl]
      dsimp only
      rw [es]
    exact .one hst (hn c _ h s' e)
  ·cases e
 ·cases e
theorem CX(K:dA P T)(ho:ops[i]? = some o)(hk:aH ops i = .alloc)(hg:Region.wanted o (yielded ops ⟨tmps⟩)=true)(hn:bH P pl (.drawn ops rest :: k) next)(e:JX T ops o again next c tmps h=some s') :
  To P pl s' (mk (.drawn ops ((i,again) :: rest) :: k) c tmps h):=by
 unfold JX at e
 split at e
 ·rename_i t hop
  split at e
  ·rename_i sz d z IL ht
   have hz:zeroOf P t=some z:=(K.get _ _ ht).2.2.1
   split at e
   ·rename_i d hd
    cases hb:Nat.blt d tmps.length with
    |false=>rw [hb] at e;cases e
    |true=>
     rw [hb] at e
     replace e:oM (.pointer (some ⟨h.n,0,none⟩)) tmps d (fun tmps=>uf T ops again next c tmps (h.new (.cells z.cells t (0,0))))=some s' :=e
     rw [iT] at e
     unfold uf at e
     have hlt:d < tmps.length:=by simpa using hb
     cases hr:UD T (tmps.set d (.pointer (some ⟨h.n,0,none⟩))) (h.new (.cells z.cells t (0,0))) ops again with
     |false=>rw [hr] at e;cases e
     |true=>
      rw [hr] at e
      have hst:ax P pl none (mk (.drawn ops ((i,again) :: rest) :: k) c tmps h)=some (.go (mk (.drawn ops rest :: k) c (tmps.set d (.pointer (some ⟨h.n,0,none⟩))) (h.new (.cells z.cells t (0,0))))):=by
       unfold ax mk
       dsimp only
       rw [ho]
       dsimp only
       rw [hk]
       dsimp only
       rw [hd]
       dsimp only
       have es:(Array.mk tmps).setIfInBounds d (.pointer (some ⟨h.n,0,none⟩))=⟨tmps.set d (.pointer (some ⟨h.n,0,none⟩))⟩:=by
        apply Array.ext'
        simp
       rw [if_pos (show d < (Array.mk tmps).size from hlt),if_pos hg,hop]
       dsimp only
       rw [hz]
       dsimp only
       rw [es,if_pos (l9 K _ hr)]
      exact .one hst (hn c _ _ s' e)
   ·cases e
  ·cases e
 ·cases e
theorem jQ(K:dA P T)(KF:fO P Fu):∀(l:List (Nat×List Nat)) (first:Bool),bH P pl (.drawn ops l :: k) (yB P T Fu ops k l first)
 | [],first=>dV (fun c tmps h=>rfl) (o8 k)
 |(i,again) :: l,first=>by
  intro c tmps h s' e
  replace e:ve (.drawn ops ((i,again) :: l) :: k) first (dI P T Fu ops i again (.drawn ops ((i,again) :: l) :: k) (yB P T Fu ops k l false) (nth ops.toList i)) c tmps h=some s' :=e
  unfold ve at e
  cases hq:dI P T Fu ops i again (.drawn ops ((i,again) :: l) :: k) (yB P T Fu ops k l false) (nth ops.toList i) c tmps h with
  |none=>
   rw [hq] at e
   cases first with
   |true=>cases e
   |false=>cases e;exact .here rfl
  |some s₁=>
   rw [hq] at e
   cases e
   cases ho:nth ops.toList i with
   |none=>rw [ho] at hq;cases hq
   |some o=>
    rw [ho] at hq
    rw [gU] at ho
    have ho':ops[i]? = some o:=by simpa using ho
    replace hq:dOp P T Fu ops i o again (.drawn ops ((i,again) :: l) :: k) (yB P T Fu ops k l false) c tmps h=some s' :=hq
    unfold dOp at hq
    cases hg:o.guard with
    |some g=>rw [hg] at hq;cases hq
    |none=>
     rw [hg] at hq
     have hw:Region.wanted o (yielded ops ⟨tmps⟩)=true:=by unfold Region.wanted;rw [hg]
     have hkk:aH ops i=cond (over ops i o) .effect (kindOf o):=by unfold aH;rw [ho']
     rw [←hkk] at hq
     cases hk:aH ops i with
     |dS=>rw [hk] at hq;exact CW K ho' hk hw (jQ K KF l false) hq
     |alloc=>rw [hk] at hq;exact CX K ho' hk hw (jQ K KF l false) hq
     |effect=>rw [hk] at hq;exact J3 K KF ho' hk hw (jQ K KF l false) hq
end
end Go.Am
