import Derived.Test.YtgfjlblikffnaaaGreatH17
import Derived.Test.YtgfjlblikffnaaaGreatH18
set_option linter.unusedVariables false
set_option linter.unusedSectionVars false
set_option linter.unusedSimpArgs false
namespace Go.Am
section
variable{P:Program}{T:Tr TI}{Fu:Tr Func}{pl:bz}{tmps:List Value}{h h':AH}{o:Oper}{v:Value}{x:Operand}{c:Ctx}{s s':AS}{k:List aK}{ops:Array Oper}{i:Nat}{l:List Nat}{next:K}
theorem J4{a b:Code}{qa qb:K}(ha:bH P pl (.code a :: k) qa)(hb:bH P pl (.code b :: k) qb)(x:Operand):bH P pl (.code (.cond x a b) :: k) (Rj qa qb x):=by
 intro c tmps h s' e
 unfold Rj at e
 split at e
 · rename_i t
   split at e
   ·rename_i u hu
    have hv:af ⟨tmps⟩ (.tmp t) = .bool u:=yu _ _ hu
    have hs:ax P pl none (mk (.code (.cond (.tmp t) a b) :: k) c tmps h)=some (.go (mk (.code (if u then a else b) :: k) c tmps h)):=by
     unfold ax mk
     dsimp only
     rw [if_pos (show CY (.tmp t)=true from rfl),hv]
     rfl
    cases u with
    |true=>exact .one hs (ha c tmps h s' e)
    |false=>exact .one hs (hb c tmps h s' e)
   ·cases e
 · cases e
theorem Pn:bH P pl (.code .ret :: k) (aap k):=by
 intro c tmps h s' e
 unfold aap at e
 split at e
 · rename_i hr
   cases e
   refine .one (s₁:=⟨⟨c.fn,⟨tmps⟩,.code .ret :: k,c.defers,true,none,c.dk⟩,c.cs,h⟩) ?_ (.here rfl)
   unfold ax mk lJ
   dsimp only
   rw [hr]
 · cases e
theorem J5{id:Nat}:bH P pl (.code (.exit id) :: k) (RD id k):=by
 intro c tmps h s' e
 unfold RD at e
 split at e
 · rename_i k' hk
   cases e
   refine .one (s₁:=mk k' c tmps h) ?_ (.here rfl)
   unfold ax mk
   dsimp only
   rw [hk]
   rfl
 · cases e
theorem wM(K:dA P T)(KF:fO P Fu):∀(x:Code) (k:List aK),bH P pl (.code x :: k) (codeF P T Fu x k):=by
 intro x
 induction x with
 | skip=>exact fun k=>dV (fun c tmps h=>rfl) (o8 k)
 | region id ops d=>
   intro k
   cases d with
   |false=>
    have:=sF (pl:=pl) (ops:=ops) (k:=k) K KF (List.range ops.toList.length) false
    exact dV (fun c tmps h=>rfl) this
   |true=>exact iU _
 | seq a b iha ihb=>exact fun k=>dV (fun c tmps h=>rfl) (iha (.code b :: k))
 | cond x a b iha ihb=>exact fun k=>J4 (iha k) (ihb k) x
 | block id b ih=>exact fun k=>dV (fun c tmps h=>rfl) (ih (.inBlock id :: k))
 | loop b ih=>exact fun k=>dV (fun c tmps h=>rfl) (ih (.inLoop b :: k))
 | exit id=>exact fun k=>J5
 | ret=>exact fun k=>Pn
 | goto _=>exact fun k=>iU _
 | label _=>exact fun k=>iU _
 | scope _ _=>exact fun k=>iU _
 | rangeFunc _ _ _ _ _ _=>exact fun k=>iU _
 | refuse _=>exact fun k=>iU _
theorem IY(K:dA P T)(KF:fO P Fu)(x:aK)(k:List aK):bH P pl (x :: k) (Zv P T Fu x k):=by
 cases x with
 | code x=>exact wM K KF x k
 | inBlock id=>exact dV (fun c tmps h=>rfl) (o8 k)
 | inLoop b=>exact dV (fun c tmps h=>rfl) (wM K KF b (.inLoop b :: k))
 | inScope b=>exact dV (fun c tmps h=>rfl) (o8 k)
 | region ops l=>exact sF K KF l true
 | drawn ops l=>exact jQ K KF l true
 | inRangeFunc l=>exact iU _
 | endRangeFunc l=>exact iU _
 | beginRound=>exact iU _
def aaq(tmps:List Value)(r:ResultVar):Value:=match r with
 | .tmp t=>(Array.mk tmps).getD t undef
 | _=>undef
theorem Bg:∀(rs:List ResultVar) {l:List Value},U1 tmps rs=some l→(∀r∈rs,∃t,r = .tmp t)∧rs.map (aaq tmps)=l
 | [],l,e=>by cases e;exact ⟨fun r hr=>(by cases hr),rfl⟩
 | .cell a t :: rs,l,e=>by cases e
 | .tmp t :: rs,l,e=>by
   replace e:(match nth tmps t with
     |some v=>match U1 tmps rs with
      |some m=>some (v :: m)
      |none=>none
     |none=>none)=some l:=e
   split at e
   ·rename_i v hv
    split at e
    ·rename_i m hm
     cases e
     obtain ⟨h1,h2⟩:=Bg rs hm
     refine ⟨fun r hr=>?_,?_⟩
     ·rcases List.mem_cons.1 hr with rfl|hr
      ·exact ⟨t,rfl⟩
      ·exact h1 r hr
     ·rw [List.map_cons,h2]
      unfold aaq
      dsimp only
      rw [yu _ _ hv]
    ·cases e
   ·cases e
theorem yH{fn:Func}{l:List Value}(e:U1 tmps fn.results.toList=some l):(results fn ⟨tmps⟩).ar P none h=some (resV l,h):=by
 obtain ⟨h1,h2⟩:=Bg _ e
 have hm:∀(f:ResultVar→Sem Value),(∀t,f (.tmp t)=Pure.pure ((Array.mk tmps).getD t undef))→∀(rs:List ResultVar) (m:List Value),(∀r∈rs,∃t,r = .tmp t)→rs.map (aaq tmps)=m→(rs.mapM f).ar P none h=some (m,h):=by
   intro f hf rs
   induction rs with
   |nil=>intro m _ e;cases e;rfl
   |cons r rs ih=>
    intro m hr e
    obtain ⟨t,rfl⟩:=hr _ List.mem_cons_self
    rw [List.map_cons] at e
    subst e
    rw [List.mapM_cons,hf,jH (Rk _),jH (ih _ (fun r h'=>hr r (List.mem_cons_of_mem _ h')) rfl)]
    rfl
 unfold results
 rw [Array.mapM_eq_mapM_toList]
 have e1:∀(X:Sem (List Value)),X.ar P none h=some (l,h)→(Functor.map List.toArray X).ar P none h=some (l.toArray,h):=by
   intro X hX
   show (X >>= fun a=>(Pure.pure a.toArray:Sem (Array Value))).ar P none h=_
   rw [jH hX]
   rfl
 rw [jH (e1 _ (hm _ (fun t=>by rfl) fn.results.toList l h1 h2))]
 show some (_,h)=_
 match l with
 | []=>rfl
 | [v]=>rfl
 | u :: v :: l=>rfl
theorem J6{d:aF}{cs:List aF}(K:dA P T)(KF:fO P Fu)(e:RG T Fu (d :: cs) h c.fn ⟨tmps⟩ c.defers c.dk=some s'):ax P pl none ⟨⟨c.fn,⟨tmps⟩,k,c.defers,true,c.round,c.dk⟩,d :: cs,h⟩=some (.go s'):=by
 unfold RG at e
 split at e
 · rename_i hd
   split at e
   ·rename_i hdk
    dsimp only at e
    split at e
    ·rename_i fn hfn
     split at e
     ·rename_i l hl
      obtain ⟨f1,f2⟩:=KF.get _ _ hfn
      obtain ⟨dfn,uj,acy,uk,RP,yI,ddk⟩:=d
      replace e:RF T h cs dfn uj acy uk RP yI ddk (resV l)=some s' :=e
      unfold RF at e
      split at e
      ·rename_i ops i rest k'
       split at e
       ·rename_i o ho
        rw [gU] at ho
        have ho':ops[i]? = some o:=by simpa using ho
        have hst:ax P pl none ⟨⟨c.fn,⟨tmps⟩,k,c.defers,true,c.round,c.dk⟩,⟨dfn,uj,.region ops (i :: rest) :: k',uk,RP,yI,ddk⟩ :: cs,h⟩=some (.go ⟨⟨dfn,cZ uj o.dst (resV l),.region ops rest :: k',uk,RP,yI,ddk⟩,cs,h⟩):=by
         unfold ax kZ
         dsimp only
         rw [hd]
         dsimp only
         rw [f1]
         dsimp only
         rw [yH hl,hdk]
         unfold rE au
         dsimp only
         rw [ho']
         rfl
        rw [hst]
        split at e
        ·rename_i t hdst
         rw [iT] at e
         cases e
         rw [hdst]
         have es:cZ uj (some t) (resV l)=⟨uj.toList.set t (resV l)⟩:=by
          unfold cZ
          apply Array.ext'
          simp
         rw [es]
        ·rename_i hdst
         cases e
         rw [hdst]
         rfl
       ·cases e
      ·rename_i ops i again rest k'
       split at e
       ·rename_i o ho
        rw [gU] at ho
        have ho':ops[i]? = some o:=by simpa using ho
        split at e
        ·rename_i hkd
         have hst:∀t':Array Value,cZ uj o.dst (resV l)=t' → recheck P ops again t' h=true→ax P pl none ⟨⟨c.fn,⟨tmps⟩,k,c.defers,true,c.round,c.dk⟩,⟨dfn,uj,.drawn ops ((i,again) :: rest) :: k',uk,RP,yI,ddk⟩ :: cs,h⟩=some (.go ⟨⟨dfn,t',.drawn ops rest :: k',uk,RP,yI,ddk⟩,cs,h⟩):=by
          intro t' ht hre
          unfold ax kZ
          dsimp only
          rw [hd]
          dsimp only
          rw [f1]
          dsimp only
          rw [yH hl,hdk]
          unfold rE au
          dsimp only
          rw [JZ ho' hkd,IX ho',ht]
          simp only [Bool.false_eq_true,if_false]
          rw [if_pos ⟨trivial,hre⟩]
          rfl
         split at e
         ·rename_i t hdst
          rw [iT] at e
          cases hr:UD T (uj.toList.set t (resV l)) h ops again with
          |false=>rw [hr] at e;cases e
          |true=>
           rw [hr] at e
           cases e
           refine hst _ ?_ (l9 K _ hr)
           rw [hdst]
           unfold cZ
           apply Array.ext'
           simp
         ·rename_i hdst
          cases hr:UD T uj.toList h ops again with
          |false=>rw [hr] at e;cases e
          |true=>
           rw [hr] at e
           cases e
           exact hst _ (by rw [hdst];rfl) (l9 K _ hr)
        ·cases e
       ·cases e
      ·cases e
     ·cases e
    ·cases e
   ·cases e
 · cases e
theorem nR(K:dA P T)(KF:fO P Fu)(e:nO P T Fu s=some s'):To P pl s' s:=by
 obtain ⟨⟨fn,⟨tmps⟩,todo,defers,ret,round,dk⟩,cs,h⟩:=s
 cases ret with
 | false=>
   cases todo with
   |nil=>cases e
   |cons x k=>exact IY K KF x k ⟨fn,defers,round,dk,cs⟩ tmps h s' e
 | true=>
   cases cs with
   |nil=>
    replace e:RG T Fu [] h fn ⟨tmps⟩ defers dk=some s' :=e
    unfold RG at e
    split at e
    ·split at e<;>cases e
    ·cases e
   |cons d cs=>exact .one (J6 (c:=⟨fn,defers,round,dk,cs⟩) (k:=todo) K KF e) (.here rfl)
theorem pg(K:dA P T)(KF:fO P Fu):∀(n:Nat) {s:AS},yC P pl T Fu n s=some (.go s')→To P pl s' s
 | 0,s,e=>by cases e;exact .here rfl
 | n+1,s,e=>by
   replace e:Option.rec (LP P pl s (yC P pl T Fu n)) (yC P pl T Fu n) (nO P T Fu s)=some (.go s'):=e
   cases hf:nO P T Fu s with
   |some s₁=>
    rw [hf] at e
    exact (nR K KF hf).bind fun s₂ h₂=>by subst h₂;exact pg K KF n e
   |none=>
    rw [hf] at e
    replace e:LP P pl s (yC P pl T Fu n)=some (.go s'):=e
    unfold LP at e
    split at e
    ·rename_i s₁ h₁
     exact .one h₁ (pg K KF n e)
    ·rename_i hr
     exact absurd e (hr s')
theorem To.all{Q:Value→AH→Prop}(k:To P pl s' s)(q:gW P pl Q s'):gW P pl Q s:=by
 induction k with
 | here h=>exact h ▸ q
 | step hne hgo ih=>exact .step (fun c=>let ⟨s',h⟩:=hne c;⟨_,h⟩) (fun c s₁ e=>ih c s₁ e) (fun c v h e=>by obtain ⟨s₁,h₁⟩:=hne c;rw [h₁] at e;cases e)
end
end Go.Am
namespace Go.Am
open Go.Ren (grow fM aO az Wk)
def _root_.Go.Sem.arity{α:Type}(P:Program):Sem α→AH→Nat
 | .load _ a k,h=>match h.cell a with
   |some v=>(k v).arity P h
   |none=>1
 | .store _ a v k,h=>match h.setCell a v with
   |some h'=>k.arity P h'
   |none=>1
 | .new o k,h=>(k h.n).arity P (h.new o)
 | .shape r k,h=>match h.look r with
   |some { obj:=.cells l e _,.. }=>(k (some (e,l.size))).arity P h
   |some _=>(k none).arity P h
   |none=>1
 | .getObj r k,h=>match h.look r with
   |some B=>(k B.obj).arity P h
   |none=>1
 | .setObj r o k,h=>match h.look r with
   |some B=>k.arity P (h.put r B o)
   |none=>1
 | .choose q k,h=>if q.forced then (k 0).arity P h else match q with
   | .mapNext n=>n
   |_=>1
 | .program k,h=>(k P).arity P h
 | _,_=>1
section
variable{P:Program}{pl:bz}
theorem aar{α:Type}(s:Sem α):∀(h:AH) (c:Nat),s.ar P (some c) h=s.ar P (some (c % s.arity P h)) h:=by
 induction s with
 | load m a k ih=>
   intro h c
   have e:=fun c=>Sem.ar.eq_def (P:=P) (Sem.load m a k) c h
   dsimp only at e
   rw [e,e,Sem.arity]
   generalize h.cell a=q
   cases q with
   |none=>rfl
   |some v=>
    cases m with
    |plain=>exact ih v h c
    |atomic=>rfl
 | store m a v k ih=>
   intro h c
   have e:=fun c=>Sem.ar.eq_def (P:=P) (Sem.store m a v k) c h
   dsimp only at e
   rw [e,e,Sem.arity]
   cases v<;>cases m<;>first|rfl|skip
   all_goals
    dsimp only
    generalize h.setCell a _=q
    cases q with
    |none=>rfl
    |some h'=>exact ih h' c
 | new o k ih=>
   intro h c
   have e:=fun c=>Sem.ar.eq_def (P:=P) (Sem.new o k) c h
   dsimp only at e
   rw [e,e,Sem.arity]
   split<;>first|rfl|exact ih _ _ c
 | shape r k ih=>
   intro h c
   have e:=fun c=>Sem.ar.eq_def (P:=P) (Sem.shape r k) c h
   dsimp only at e
   rw [e,e,Sem.arity]
   generalize h.look r=q
   cases q with
   |none=>rfl
   |some B=>
    obtain ⟨o,f,ro,u⟩:=B
    cases o<;>exact ih _ h c
 | getObj r k ih=>
   intro h c
   have e:=fun c=>Sem.ar.eq_def (P:=P) (Sem.getObj r k) c h
   dsimp only at e
   rw [e,e,Sem.arity]
   generalize h.look r=q
   cases q with
   |none=>rfl
   |some B=>
    obtain ⟨o,f,ro,u⟩:=B
    cases o<;>first|rfl|exact ih _ h c
 | setObj r o k ih=>
   intro h c
   have e:=fun c=>Sem.ar.eq_def (P:=P) (Sem.setObj r o k) c h
   dsimp only at e
   rw [e,e,Sem.arity]
   generalize h.look r=q
   cases q with
   |none=>cases o<;>rfl
   |some B=>
    obtain ⟨o',f,ro,u⟩:=B
    cases o'<;>cases o<;>first|rfl|skip
    all_goals
     cases ro<;>first|rfl|exact ih _ c
 | choose q k ih=>
   intro h c
   have e:=fun c=>Sem.ar.eq_def (P:=P) (Sem.choose q k) c h
   have ea:=Sem.arity.eq_def (P:=P) (Sem.choose q k) h
   dsimp only at e ea
   rw [e,e,ea]
   by_cases hq:q.forced=true
   ·rw [if_pos hq,if_pos hq,if_pos hq];exact ih 0 h c
   ·rw [if_neg hq,if_neg hq,if_neg hq]
    cases q<;>first|rfl|skip
    show (k (c % _)).ar P none h=(k (c % _ % _)).ar P none h
    rw [Nat.mod_mod]
 | program k ih=>
   intro h c
   have e:=fun c=>Sem.ar.eq_def (P:=P) (Sem.program k) c h
   dsimp only at e
   rw [e,e,Sem.arity]
   exact ih P h c
 | _=>intro h c;rfl
def wP(s:AS):Option Oper:=match s.fr.ret,s.fr.todo with
 | false,.region ops (i :: _) :: _=>match ops[i]? with
   |some o=>if Region.wanted o (yielded ops s.fr.tmps) && !bP o then some o else none
   |none=>none
 | _,_=>none
theorem mg{s:AS}{o:Oper}(ho:wP s=some o)(c:Nat):ax P pl (some c) s=ax P pl (some (c % (execOp (af s.fr.tmps) o).arity P s.h)) s:=by
 unfold wP at ho
 split at ho
 · rename_i ops i l k hr ht
   split at ho
   ·rename_i o' hoi
    split at ho
    ·rename_i hc
     cases ho
     rw [Bool.and_eq_true,Bool.not_eq_true'] at hc
     unfold ax
     rw [hr,ht]
     dsimp only
     rw [hoi]
     dsimp only
     rw [if_pos hc.1,if_pos hc.1]
     congr 1
     unfold bC
     rw [hc.2]
     simp only [Bool.false_eq_true,if_false]
     rw [aar]
    ·cases ho
   ·cases ho
 · cases ho
noncomputable section
def gX(P:Program)(pl:bz)(T:Tr TI)(Fu:Tr Func)(n:Nat):AS→Sum AS (Value×AH):=
 Nat.rec (fun s=>.inl s) (fun _ ih s=>Option.rec (match ax P pl none s with
   |some (.go s')=>ih s'
   |some (.ret v h)=>.inr (v,h)
   |none=>.inl s) ih (nO P T Fu s)) n
def tryAll(f:Nat→Option (List (Value×AH)))(m:Nat):Option (List (Value×AH)):=Nat.rec (some []) (fun c ih=>match f c with
 | some l=>match ih with
   |some m=>some (l ++ m)
   |none=>none
 | none=>none) m
def explore(P:Program)(pl:bz)(T:Tr TI)(Fu:Tr Func)(n d:Nat):AS→Option (List (Value×AH)):=
 Nat.rec (fun _=>none) (fun _ ih s=>match gX P pl T Fu n s with
   | .inr x=>some [x]
   | .inl s=>match wP s with
    |some o=>bif Nat.beq ((execOp (af s.fr.tmps) o).arity P s.h) 0 then none else tryAll (fun c=>match ax P pl (some c) s with
     |some (.go s')=>ih s'
     |_=>none) ((execOp (af s.fr.tmps) o).arity P s.h)
    |none=>none) d
end
variable{T:Tr TI}{Fu:Tr Func}
theorem mD(K:dA P T)(KF:fO P Fu){Q:Value→AH→Prop}:∀(n:Nat) {s:AS},(∀s',gX P pl T Fu n s = .inl s' → gW P pl Q s')→(∀v h,gX P pl T Fu n s = .inr (v,h)→Q v h)→gW P pl Q s
 | 0,s,h1,h2=>h1 s rfl
 | n+1,s,h1,h2=>by
   have hu:gX P pl T Fu (n+1) s=Option.rec (match ax P pl none s with
    |some (.go s')=>gX P pl T Fu n s'
    |some (.ret v h)=>.inr (v,h)
    |none=>.inl s) (gX P pl T Fu n) (nO P T Fu s):=rfl
   cases hf:nO P T Fu s with
   |some s₁=>
    rw [hf] at hu
    exact (nR K KF hf).all (mD K KF n (fun s' e=>h1 s' (hu.trans e)) fun v h e=>h2 v h (hu.trans e))
   |none=>
    rw [hf] at hu
    replace hu:gX P pl T Fu (n+1) s=(match ax P pl none s with
     |some (.go s')=>gX P pl T Fu n s'
     |some (.ret v h)=>.inr (v,h)
     |none=>.inl s):=hu
    cases ha:ax P pl none s with
    |none=>rw [ha] at hu;exact h1 s hu
    |some r=>
     rw [ha] at hu
     cases r with
     |go s₁=>exact .one ha (mD K KF n (fun s' e=>h1 s' (hu.trans e)) fun v h e=>h2 v h (hu.trans e))
     |ret v h=>exact .ret ha (h2 v h hu)
theorem wQ{f:Nat→Option (List (Value×AH))}:∀(m:Nat) {L:List (Value×AH)},tryAll f m=some L→∀c,c < m→∃l,f c=some l∧∀x∈l,x∈L
 | 0,L,e,c,hc=>absurd hc (Nat.not_lt_zero _)
 | m+1,L,e,c,hc=>by
   replace e:(match f m with
    |some l=>match tryAll f m with
     |some m=>some (l ++ m)
     |none=>none
    |none=>none)=some L:=e
   split at e
   ·rename_i l hl
    split at e
    ·rename_i k hk
     cases e
     by_cases hcm:c=m
     ·subst hcm
      exact ⟨l,hl,fun x hx=>List.mem_append.2 (.inl hx)⟩
     ·obtain ⟨l',h1,h2⟩:=wQ m hk c (by omega)
      exact ⟨l',h1,fun x hx=>List.mem_append.2 (.inr (h2 x hx))⟩
    ·cases e
   ·cases e
theorem pq(K:dA P T)(KF:fO P Fu){n:Nat}:∀(d:Nat) {s:AS} {L:List (Value×AH)},explore P pl T Fu n d s=some L→gW P pl (fun v h=>(v,h)∈L) s
 | 0,s,L,e=>by cases e
 | d+1,s,L,e=>by
   replace e:(match gX P pl T Fu n s with
    | .inr x=>some [x]
    | .inl s=>match wP s with
     |some o=>bif Nat.beq ((execOp (af s.fr.tmps) o).arity P s.h) 0 then none else tryAll (fun c=>match ax P pl (some c) s with
      |some (.go s')=>explore P pl T Fu n d s'
      |_=>none) ((execOp (af s.fr.tmps) o).arity P s.h)
     |none=>none)=some L:=e
   refine mD K KF n (fun s₁ h₁=>?_) fun v h h₁=>?_
   ·rw [h₁] at e
    dsimp only at e
    split at e
    ·rename_i o ho
     cases hb:Nat.beq ((execOp (af s₁.fr.tmps) o).arity P s₁.h) 0 with
     |true=>rw [hb] at e;cases e
     |false=>
     rw [hb] at e
     have hz:(execOp (af s₁.fr.tmps) o).arity P s₁.h≠0:=fun h0=>by rw [h0] at hb;cases hb
     have all:∀c,∃s',ax P pl (some c) s₁=some (.go s')∧gW P pl (fun v h=>(v,h)∈L) s' :=by
      intro c
      have hm:=mg (P:=P) (pl:=pl) ho c
      obtain ⟨l,h1,h2⟩:=wQ _ e (c % (execOp (af s₁.fr.tmps) o).arity P s₁.h) (Nat.mod_lt _ (Nat.pos_of_ne_zero hz))
      split at h1
      ·rename_i s' hs'
       exact ⟨s',hm.trans hs',(pq K KF d h1).mono fun v h hx=>h2 _ hx⟩
      ·cases h1
     refine .step (fun c=>let ⟨s',h,_⟩:=all c;⟨_,h⟩) (fun c s' hs'=>?_) fun c v h hs'=>?_
     ·obtain ⟨s₂,h1,h2⟩:=all c
      rw [hs'] at h1
      cases h1
      exact h2
     ·obtain ⟨s₂,h1,h2⟩:=all c
      rw [hs'] at h1
      cases h1
    ·cases e
   ·rw [h₁] at e
    cases e
    exact List.mem_singleton.2 rfl
end
end Go.Am
namespace Go.Am
open Go.Ren (grow fM aO az Wk)
def AH.move(h:AH)(l:List Nat)(B:bg):AH:=
 ⟨h.n+1,(h.forget l).tr.set h.n { B with dQ:=B.dQ.map fun _=>h.n },match B.dQ with
   |none=>(h.forget l).dH
   |some _=>(h.forget l).dH.set h.n [h.n]⟩
def CZ(h:AH)(b:Nat)(B:bg)(l:List Nat):Bool:=l.all fun x=>x != b && match h.look x with
 | some X=>(match X.dQ,B.dQ with
   |some f,some g=>f != g
   |_,_=>true) && X.dQ != some h.n
 | none=>true
section
variable{P:Program}{ρ σ:Env}{O D:Nat→Prop}{h h':AH}{w w':World}{b:Nat}{B:bg}{l:List Nat}
theorem nS{h:AH}:∀(l:List Nat) {b:Nat} {B:bg},(eH h l).get b=some B→b∈l
 | [],b,B,e=>by cases e
 | c :: l,b,B,e=>by
   unfold eH at e
   split at e
   ·rw [Tr.dN] at e
    split at e
    ·rename_i hb;subst hb;exact List.mem_cons_self
    ·exact List.mem_cons_of_mem _ (nS l e)
   ·exact List.mem_cons_of_mem _ (nS l e)
def Env.mv(ρ:Env)(b N:Nat):Env:=ρ.add N (ρ.to b) (ρ.bD b) (ρ.u b) (ρ.ext b)
theorem jk{x:Nat}{X:bg}(k:(h.move l B).look x=some X):(x=h.n∧X={ B with dQ:=B.dQ.map fun _=>h.n })∨(x≠h.n∧(eH h l).get x=some X∧h.look x=some X):=by
 have ht:=fB k
 unfold AH.move at ht
 dsimp only at ht
 rw [Tr.dN] at ht
 split at ht
 · rename_i hx
   cases ht
   exact .inl ⟨hx,rfl⟩
 · rename_i hx
   exact .inr ⟨hx,ht,gG l ht⟩
theorem Rel.move(r:Rel ρ O D h w)(hb:h.look b=some B)(hc:∃c e f,B.obj = .cells c e f)(hbn:ρ.born b)(hok:CZ h b B l=true):Rel (ρ.mv b h.n) O D (h.move l B) w:=by
 have hnb:¬ρ.born h.n:=fun hx=>Nat.lt_irrefl _ (r.fresh _ hx)
 have hle:ρ.Le (ρ.mv b h.n):=Env.iC hnb
 have r1:Rel ρ O D (h.forget l) w:=r.forget l
 have hl:∀x X,(eH h l).get x=some X→x≠b∧(∀f,X.dQ=some f→B.dQ≠some f)∧X.dQ≠some h.n:=by
   intro x X hx
   have hm:=nS l hx
   have hlook:=gG l hx
   have:=(List.all_eq_true.1 hok) x hm
   rw [hlook] at this
   simp only [Bool.and_eq_true,bne_iff_ne,ne_eq] at this
   obtain ⟨h1,h2,h3⟩:=this
   refine ⟨h1,fun f hf hB=>?_,h3⟩
   rw [hf,hB] at h2
   simp at h2
 have born:∀x,(ρ.mv b h.n).born x→x≠h.n→ρ.born x:=fun x hx hne=>hx.resolve_left hne
 obtain ⟨cc,ee,ff,iM⟩:=hc
 have old:∀f m,(h.move l B).dH.get f=some m→(f=h.n∧m=[h.n]∧∃g,B.dQ=some g)∨(h.forget l).dH.get f=some m:=by
   intro f m hf
   unfold AH.move at hf
   dsimp only at hf
   cases hB:B.dQ with
   |none=>rw [hB] at hf;exact .inr hf
   |some g=>
    rw [hB] at hf
    dsimp only at hf
    rw [Tr.dN] at hf
    split at hf
    ·rename_i e;cases hf;exact .inl ⟨e,rfl,g,hB ▸ rfl⟩
    ·exact .inr hf
 have up:∀x n,x≠h.n→(h.move l B).upTo (ρ.mv b h.n) x n→(h.forget l).upTo ρ x n:=by
   rintro x n hne ⟨X,c,e,f,h1,h2,h3⟩
   unfold AH.move at h1
   dsimp only at h1
   rw [Tr.dN,if_neg hne] at h1
   unfold Env.mv at h3
   rw [ai hne] at h3
   exact ⟨X,c,e,f,h1,h2,h3⟩
 refine ⟨fun x X c e f hx hk ho=>?_,fun x X hx hk ho=>?_,fun x X hx hk=>?_,fun x y X Y hx hy hk hk' hne hs=>?_,fun x hx=>?_,fun x hx=>?_,fun x X hx hk=>?_,fun f m hf=>?_,fun f m hf x hxm=>?_⟩
 · rcases jk hk with ⟨rfl,rfl⟩|⟨hne,_,hlk⟩
   ·obtain ⟨A,E,g,c1,c2,c3,c4,c5⟩:=r.cells b B c e f hbn hb ho
    unfold Env.mv
    rw [bU,qL]
    exact ⟨A,E,g,c1,c2,c3,fun hn=>c4 fun hp=>hn ⟨by rw [hp.1];rfl,hp.2.1,hp.2.2⟩,fun i v hv=>by obtain ⟨v',k1,k2⟩:=c5 i v hv;exact ⟨v',k1,k2.mono hle⟩⟩
   ·obtain ⟨A,E,g,c1,c2,c3,c4,c5⟩:=r.cells x X c e f (born x hx hne) hlk ho
    unfold Env.mv
    rw [ai hne,nG hne]
    exact ⟨A,E,g,c1,c2,c3,c4,fun i v hv=>by obtain ⟨v',k1,k2⟩:=c5 i v hv;exact ⟨v',k1,k2.mono hle⟩⟩
 · rcases jk hk with ⟨rfl,rfl⟩|⟨hne,_,hlk⟩
   ·exact absurd iM (ho _ _ _)
   ·obtain ⟨o1,o2,o3,o4⟩:=r.obj x X (born x hx hne) hlk ho
    unfold Env.mv
    rw [ai hne]
    exact ⟨o1,o2,o3,o4.mono hle⟩
 · rcases jk hk with ⟨rfl,rfl⟩|⟨hne,_,hlk⟩
   ·unfold Env.mv
    rw [bU]
    exact r.own b B hbn hb
   ·unfold Env.mv
    rw [ai hne]
    exact r.own x X (born x hx hne) hlk
 · rcases jk hk with ⟨rfl,rfl⟩|⟨hne1,aeC,acA⟩
   ·rcases jk hk' with ⟨rfl,rfl⟩|⟨hne2,acB,hlk2⟩
    ·exact absurd rfl hne
    ·unfold Env.mv at hs
     rw [bU,ai hne2] at hs
     obtain ⟨h1,h2,h3⟩:=hl y Y acB
     rcases r.sep b y B Y hbn (born y hy hne2) hb hlk2 (fun e=>h1 e.symm) hs with ⟨f,g1,g2⟩|g
     ·exact absurd g1 (h2 f g2)
     ·exact .inr ⟨⟨by show Option.map _ B.dQ=none;rw [g.1.1];rfl,g.1.2⟩,g.2⟩
   ·rcases jk hk' with ⟨rfl,rfl⟩|⟨hne2,acB,hlk2⟩
    ·unfold Env.mv at hs
     rw [bU,ai hne1] at hs
     obtain ⟨h1,h2,h3⟩:=hl x X aeC
     rcases r.sep b x B X hbn (born x hx hne1) hb acA (fun e=>h1 e.symm) hs.symm with ⟨f,g1,g2⟩|g
     ·exact absurd g1 (h2 f g2)
     ·exact .inr ⟨g.2,⟨by show Option.map _ B.dQ=none;rw [g.1.1];rfl,g.1.2⟩⟩
    ·unfold Env.mv at hs
     rw [ai hne1,ai hne2] at hs
     exact r.sep x y X Y (born x hx hne1) (born y hy hne2) acA hlk2 hne hs
 · rcases hx with rfl|hx
   ·exact Nat.lt_succ_self _
   ·exact Nat.lt_succ_of_lt (r.fresh x hx)
 · unfold Env.mv
   by_cases hne:x=h.n
   ·subst hne
    rw [bU]
    exact r.low b hbn
   ·rw [ai hne]
    exact r.low x (born x hx hne)
 · rcases jk hk with ⟨rfl,rfl⟩|⟨hne,_,hlk⟩
   ·obtain ⟨s1,s2⟩:=r.bD b B hbn hb
    unfold Env.mv
    rw [jX,Ii]
    cases hf:B.dQ with
    |none=>rw [hf] at s1 s2;exact ⟨by simpa using s1,fun e=>absurd rfl e⟩
    |some f=>
     rw [hf] at s1 s2
     refine ⟨⟨fun _=>by simp,fun _=>s1.2 (by simp)⟩,fun _=>s2 (by simp)⟩
   ·unfold Env.mv
    rw [jO hne,tu hne]
    exact r.bD x X (born x hx hne) hlk
 · rcases old f m hf with ⟨rfl,rfl,g,hg⟩|hf'
   ·exact List.pairwise_singleton _ _
   ·have hm:=r1.mem f m hf'
    refine (r1.row f m hf').imp_of_mem fun {x y} hx hy hxy=>?_
    have nx:x≠h.n:=Nat.ne_of_lt (hm x hx).1
    have ny:y≠h.n:=Nat.ne_of_lt (hm y hy).1
    intro bx bY hs n n' u1 u2
    unfold Env.mv at hs
    rw [ai nx,ai ny] at hs
    exact hxy (born x bx nx) (born y bY ny) hs n n' (up x n nx u1) (up y n' ny u2)
 · rcases old f m hf with ⟨rfl,rfl,g,hg⟩|hf'
   ·have:=List.mem_singleton.1 hxm
    subst this
    refine ⟨Nat.lt_succ_self _,{ B with dQ:=B.dQ.map fun _=>h.n },?_,?_⟩
    ·unfold AH.move
     dsimp only
     rw [Tr.dN,if_pos rfl]
    ·dsimp only
     rw [hg]
     rfl
   ·obtain ⟨h1,X,h2,h3⟩:=r1.mem f m hf' x hxm
    have hne:x≠h.n:=Nat.ne_of_lt h1
    refine ⟨Nat.lt_succ_of_lt h1,X,?_,h3⟩
    unfold AH.move
    dsimp only
    rw [Tr.dN,if_neg hne]
    exact h2
end
end Go.Am
namespace Go.Am
open Go.Conc.Lib
open Go.Ren (grow fM aO az Wk At aA Keep full)
def sG(c:aF):Option (Array Oper×Nat×List Nat×List aK×Nat):=match c.todo with
 | .region ops (i :: rest) :: k=>match (ops[i]?).bind (·.dst) with
   |some d=>if d < c.tmps.size then some (ops,i,rest,k,d) else none
   |none=>none
 | _=>none
def RQ(h:AH)(len cap:Nat)(B:bg)(l:List Nat)(x:Value×AH):Bool:=match x.1 with
 | .slice (some ⟨b,0,none⟩) n c=>n == len && c == cap && agree h x.2 l && match x.2.look b with
   |some B'=>CJ B'.obj B.obj && B'.ro == B.ro && B'.u == B.u && (B'.dQ.isSome == B.dQ.isSome) && CZ x.2 b B' l
   |none=>false
 | _=>false
def gI(P:Program)(c:aF)(cs:List aF)(l:List Nat)(L:List (Value×AH)):Option AS:=match L with
 | (.slice (some ⟨b,0,none⟩) n cap,h) :: _=>match h.look b with
   |some B=>match B.obj with
    | .cells .. =>match sG c with
     |some (ops,i,rest,k,d)=>if L.all (RQ h n cap B l) then some ⟨{ c with tmps:=c.tmps.setIfInBounds d (.slice (some ⟨h.n,0,none⟩) n cap),todo:=.region ops rest :: k },cs,h.move l B⟩ else none
     |none=>none
    |_=>none
   |none=>none
 | _=>none
section
variable{P:Program}{ρ σ:Env}{O D:Nat→Prop}{F W U Z Z':Nat→Prop}{N:Nat}{h h':AH}{w w' w₀:World}{base cs:List Frame}{a a':aF}{f:Frame}{b:Nat}{B:bg}{l:List Nat}{c:aF}{cs':List aF}{g:Goroutine}{pl:bz}{s s':AS}{m:Machine}{t:Trace}{bJ:Machine→Outcome→World→Trace→Prop}{L:WgLink}{T:Tr TI}{Fu:Tr Func}
theorem wR{ops:Array Oper}{i d:Nat}{rest:List Nat}{k:List aK}(e:sG c=some (ops,i,rest,k,d)):c.todo = .region ops (i :: rest) :: k∧(ops[i]?).bind (·.dst)=some d∧d < c.tmps.size:=by
 unfold sG at e
 split at e
 · rename_i ht
   split at e
   ·rename_i d' hd
    split at e
    ·rename_i hlt
     cases e
     exact ⟨ht,hd,hlt⟩
    ·cases e
   ·cases e
 · cases e
theorem IZ{ops:Array Oper}{i d:Nat}{rest:List Nat}{k:List aK}(e:sG c=some (ops,i,rest,k,d))(h:AH)(v:Value):au P c h v=some { c with tmps:=c.tmps.setIfInBounds d v,todo:=.region ops rest :: k }:=by
 obtain ⟨h1,h2,h3⟩:=wR e
 unfold au
 rw [h1]
 dsimp only
 rw [h2]
 rfl
theorem RS{a a':Array Value}{d:Nat}{v v':Value}(hle:ρ.Le σ)(hd:d < a.size)(h:AR (VR ρ) (a.setIfInBounds d v) a')(hv:∀y,VR ρ v y→VR σ v' y):AR (VR σ) (a.setIfInBounds d v') a' ∧ ∃y,a'[d]? = some y∧VR ρ v y:=by
 obtain ⟨h1,h2⟩:=h
 rw [Array.size_setIfInBounds] at h1
 have hget:∀u:Value,(a.setIfInBounds d u)[d]? = some u:=fun u=>by simp [hd]
 obtain ⟨y,hy⟩:∃y,a'[d]? = some y:=⟨a'[d]'(by omega),by simp [show d < a'.size by omega]⟩
 have hvy:=h2 d v y (hget v) hy
 refine ⟨⟨by rw [Array.size_setIfInBounds];exact h1,fun i x z hx hz=>?_⟩,y,hy,hvy⟩
 by_cases hi:i=d
 · subst hi
   rw [hget] at hx
   cases hx
   rw [hy] at hz
   cases hz
   exact hv _ hvy
 · rw [Array.getElem?_setIfInBounds_ne (Ne.symm hi)] at hx
   refine (h2 i x z ?_ hz).mono hle
   rw [Array.getElem?_setIfInBounds_ne (Ne.symm hi)]
   exact hx
theorem RV{n cap:Nat}{y:Value}(hv:VR ρ (.slice (some ⟨b,0,none⟩) n cap) y){N:Nat}:VR (ρ.mv b N) (.slice (some ⟨N,0,none⟩) n cap) y:=by
 cases hv with
 | @slice _ _ _ c' hb hc=>
   have e:(ρ.addr ⟨b,0,none⟩)=(ρ.mv b N).addr ⟨N,0,none⟩:=by
    unfold Env.addr Env.mv
    rw [bU]
   rw [e]
   refine .slice (.inl rfl) (hc.imp id fun ⟨h1,h2,h3⟩=>?_)
   unfold Env.mv
   dsimp only at h1 h3 ⊢
   rw [jX,Ii,qL]
   exact ⟨h1,h2,h3⟩
theorem lV.move{ops:Array Oper}{i d n cap:Nat}{rest:List Nat}{k:List aK}(hs:sG c=some (ops,i,rest,k,d))(hb:h.look b=some B)(hc:∃cc e f,B.obj = .cells cc e f)(hok:CZ h b B l=true)
   (S:lV P ρ O D base ⟨{ c with tmps:=c.tmps.setIfInBounds d (.slice (some ⟨b,0,none⟩) n cap),todo:=.region ops rest :: k },cs',h⟩ g w) :
   lV P (ρ.mv b h.n) O D base ⟨{ c with tmps:=c.tmps.setIfInBounds d (.slice (some ⟨h.n,0,none⟩) n cap),todo:=.region ops rest :: k },cs',h.move l B⟩ g w:=by
 obtain ⟨⟨lo,f,cs,h1,h2,h3,h4⟩,rel⟩:=S
 have hnb:¬ρ.born h.n:=fun hx=>Nat.lt_irrefl _ (rel.fresh _ hx)
 have hle:ρ.Le (ρ.mv b h.n):=Env.iC hnb
 have h0:=h3.f0 fun ops' l' k' e=>by cases e
 obtain ⟨r1,y,hy,hvy⟩:=RS hle (wR hs).2.2 h0.tmps fun y hy=>RV (N:=h.n) hy
 have hbn:ρ.born b:=by cases hvy;assumption
 have hm:=h0.mono hle
 refine ⟨⟨lo,f,cs,Nat.le_succ_of_le h1,h2,.plain ⟨⟨hm.fn,hm.defers,hm.mode,hm.kind,hm.round⟩,r1,hm.todo⟩,h4.mono hle (fun x hx hb=>hb.resolve_left fun e=>?_) (Nat.le_refl _)⟩,rel.move hb hc hbn hok⟩
 subst e
 have h1':lo≤h.n:=h1
 omega
theorem Sd.move{ops:Array Oper}{i d n cap:Nat}{rest:List Nat}{k:List aK}(hs:sG c=some (ops,i,rest,k,d))(hb:h.look b=some B)(hc:∃cc e f,B.obj = .cells cc e f)(hok:CZ h b B l=true)
   (S:Sd P base F w₀ W U Z N ρ ⟨{ c with tmps:=c.tmps.setIfInBounds d (.slice (some ⟨b,0,none⟩) n cap),todo:=.region ops rest :: k },cs',h⟩ g w m t) :
   Sd P base F w₀ W U Z N (ρ.mv b h.n) ⟨{ c with tmps:=c.tmps.setIfInBounds d (.slice (some ⟨h.n,0,none⟩) n cap),todo:=.region ops rest :: k },cs',h.move l B⟩ g w m t:=
 ⟨⟨S.st.at_,S.st.QJ.move hs hb hc hok,S.st.lt⟩,S.wu,S.fz,S.JD,S.keep⟩
theorem U4{b b':Nat}{B B':bg}(h1:agree h h' l=true)(h2:B'.obj=B.obj)(h3:B'.ro=B.ro)(h4:B'.u=B.u)(h5:B'.dQ.isSome=B.dQ.isSome):h'.move l B' = h.move l B:=by
 have e1:=xB h1
 have e2:=tX h1
 unfold AH.move
 rw [←e1,←e2]
 obtain ⟨o,f,r,u⟩:=B
 obtain ⟨o',f',r',u'⟩:=B'
 dsimp only at h2 h3 h4 h5 ⊢
 subst h2 h3 h4
 cases f<;>cases f'<;>first|rfl|cases h5
end
end Go.Am
namespace Go.Am
open Go.Conc (born QuitsD G scase rcase)
open Go.Conc.Lib
open Go.ConcR (WgAt)
open Go.Ren (grow fM aO az Wk fH Idle ag X0 XS XM Lv jh fQ rF je hearing lH uT iJ M1 Anch Spawns kV At aA Keep full Own jv Fr uV)
def iV:List (Nat×bg)→Tr bg
 | []=>.nil
 | (b,B) :: l=>(iV l).set b B
def jd:List (Nat×List Nat)→Tr (List Nat)
 | []=>.nil
 | (f,m) :: l=>(jd l).set f m
def kE:Code→List Nat→Code
 | c,[]=>c
 | .seq a b,i :: p=>match i with|0=>kE a p|_=>kE b p
 | .cond _ a b,i :: p=>match i with|0=>kE a p|_=>kE b p
 | .rangeFunc _ _ a b,i :: p=>match i with|0=>kE a p|_=>kE b p
 | .block _ b,_ :: p=>kE b p
 | .loop b,_ :: p=>kE b p
 | .scope b,_ :: p=>kE b p
 | _,_=>.skip
def RX(Fu:Tr Func)(f:Nat):Code:=match Fu.get f with
 | some fn=>fn.body.getD .skip
 | none=>.skip
def acC(Fu:Tr Func)(f:Nat)(p:List Nat):Array Oper:=match kE (RX Fu f) p with
 | .region _ ops _=>ops
 | _=>#[]
noncomputable section
def stepS(P:Program)(pl:bz)(T:Tr TI)(Fu:Tr Func)(n:Nat)(l:List Nat)(s:AS):Option AS:=match gX P pl T Fu n s with
 | .inl s'=>if aX s'.fr then some ⟨s'.fr,s'.cs,s'.h.forget l⟩ else none
 | .inr _=>none
def RY(P:Program)(pl:bz)(T:Tr TI)(Fu:Tr Func)(n:Nat)(v:Value)(s:AS):Bool:=match gX P pl T Fu n s with
 | .inl _=>false
 | .inr x=>jB 9 x.1 v && fD 9 v
end
section
variable{P:Program}{ρ σ:Env}{F W U Z Z':Nat→Prop}{N:Nat}{h h':AH}{w w' w₀:World}{base cs:List Frame}{a a':aF}{f:Frame}{l:List Nat}{c:aF}{g:Goroutine}{pl:bz}{s s':AS}{m:Machine}{t:Trace}{bJ:Machine→Outcome→World→Trace→Prop}{L:WgLink}{T:Tr TI}{Fu:Tr Func}{ph:Ph}
 {gb cb cap nw nt Q5:Nat} {v:Value}
theorem mF(K:dA P T)(KF:fO P Fu):∀(n:Nat) {s:AS},gX P pl T Fu n s = .inl s' → To P pl s' s
 | 0,s,e=>by cases e;exact .here rfl
 | n+1,s,e=>by
   have hu:gX P pl T Fu (n+1) s=Option.rec (match ax P pl none s with
    |some (.go s')=>gX P pl T Fu n s'
    |some (.ret v h)=>.inr (v,h)
    |none=>.inl s) (gX P pl T Fu n) (nO P T Fu s):=rfl
   rw [hu] at e
   cases hf:nO P T Fu s with
   |some s₁=>
    rw [hf] at e
    exact (nR K KF hf).bind fun s₂ h₂=>by subst h₂;exact mF K KF n e
   |none=>
    rw [hf] at e
    replace e:(match ax P pl none s with
     |some (.go s')=>gX P pl T Fu n s'
     |some (.ret v h)=>.inr (v,h)
     |none=>.inl s) = .inl s' :=e
    cases ha:ax P pl none s with
    |none=>rw [ha] at e;cases e;exact .here rfl
    |some r=>
     rw [ha] at e
     cases r with
     |go s₁=>exact .one ha (mF K KF n e)
     |ret v h=>cases e
theorem Po(K:dA P T)(KF:fO P Fu){n:Nat}{x:Value×AH}(e:gX P pl T Fu n s = .inr x):gW P pl (fun v h=>(v,h)=x) s:=
 mD K KF n (fun s' e'=>by rw [e] at e';cases e') fun v h e'=>by rw [e] at e';cases e';rfl
theorem aJ.step[aI P](K:dA P T)(KF:fO P Fu){n:Nat}(e:stepS P pl T Fu n l s=some s')(S:aJ P L base F w₀ ph s m t):aA P bJ (aJ P L base F w₀ ph s') m t:=by
 unfold stepS at e
 split at e
 · rename_i s₁ h₁
   split at e
   ·rename_i hd
    cases e
    exact (S.reach (mF K KF n h₁)).mono fun m t S'=>S'.forget l hd
   ·cases e
 · cases e
theorem aJ.uX[aI P](H:xY P L){is:List In}{CP:Ph}(e:uX P pl L is ph s=some (CP,s'))(S:aJ P L base F w₀ ph s m t):aA P bJ (aJ P L base F w₀ CP s') m t:=yl H is e S
theorem aJ.last[aI P](K:dA P T)(KF:fO P Fu){n:Nat}{b:Frame}{bs:List Frame}(e:RY P pl T Fu n v s=true)(S:aJ P L (b :: bs) F w₀ ph s m t):aA P bJ (Back P b bs F w₀ v) m t:=by
 unfold RY at e
 split at e
 · cases e
 · rename_i x hr
   rw [Bool.and_eq_true] at e
   have hv:=iq _ _ _ e.1
   obtain ⟨W,U,Z,N,ρ,g,w,S,hp⟩:=S
   refine (Go.Ren.At.wk2 (L6 (X:=X0) (I:=fun _=>True) (m:=true) (Po K KF hr) S.st.QJ) S.st.lt rfl S.st.at_).mono ?_
   rintro m t ⟨g',w',hat,⟨σ,v'',h,u,hx,k1,k2,rfl,k3⟩,hk⟩
   have hvv:v'' = v:=by rw [←hv,←hx]
   subst hvv
   have hu:=(dG e.2).eq k2
   subst hu
   exact ⟨W,U,Z,N,w',hat,S.wu,S.fz,S.JD,S.Ir hk,hk.lt S.st.lt⟩
end
end Go.Am
namespace Go.Am
open Go.Conc (born QuitsD G scase rcase)
open Go.Conc.Lib
open Go.ConcR (WgAt)
open Go.Ren (grow fM aO az Wk fH Idle ag X0 XS XM Lv jh fQ rF je hearing lH uT iJ M1 Anch Spawns kV At aA Keep full Own jv Fr uV)
def bg.own(B:bg):bg:={ B with ro:=match B.dQ with|none=>Nat.beq B.u 1|some _=>false }
def AH.gY(h:AH):AH:={ h with tr:=h.tr.map bg.own }
section
variable{P:Program}{ρ σ:Env}{O O' D:Nat→Prop}{F W U Z Z':Nat→Prop}{N:Nat}{h h':AH}{w w' w₀:World}{mm:Bool}{base cs:List Frame}{s s' s₀:AS}{pl:bz}{g g':Goroutine}
 {L:WgLink} {m:Machine} {t:Trace} {ph:Ph}
theorem pz(b:Nat):h.gY.tr.get b=(h.tr.get b).map bg.own:=Tr.get_map _ _ _
theorem zY{b:Nat}:h.gY.look b=(h.look b).map bg.own:=by
 unfold AH.look
 rw [pz]
 cases h.tr.get b with
 | none=>rfl
 | some B=>
   obtain ⟨o,dQ,ro,u⟩:=B
   cases dQ with
   |none=>rfl
   |some f=>
    simp only [Option.map_some]
    show (if ((h.dH.get f).getD []).contains b then _ else _)=_
    split<;>rfl
theorem Rel.um(r:Rel ρ O (fun _=>False) h w):Rel ρ O (fun _=>False) h.gY w:=by
 have lk:∀b B',h.gY.look b=some B' → ∃B,h.look b=some B∧B'.obj=B.obj∧B'.dQ=B.dQ∧B'.u=B.u∧(B.UA→B'.UA):=by
   intro b B' hk
   rw [zY] at hk
   simp only [Option.map_eq_some_iff] at hk
   obtain ⟨B,k1,rfl⟩:=hk
   refine ⟨B,k1,rfl,rfl,rfl,fun ⟨p1,p2,p3⟩=>⟨p1,?_,p3⟩⟩
   show (match B.dQ with|none=>Nat.beq B.u 1|some _=>false)=true
   rw [p1,p3]
   rfl
 have up:∀b n,h.gY.upTo ρ b n→h.upTo ρ b n:=by
   rintro b n ⟨B',c,e,f,h1,h2,h3⟩
   rw [pz] at h1
   simp only [Option.map_eq_some_iff] at h1
   obtain ⟨B,k1,rfl⟩:=h1
   exact ⟨B,c,e,f,k1,h2,h3⟩
 refine ⟨fun b B c e f hb hk ho=>?_,fun b B hb hk ho=>?_,fun b B hb hk=>?_,fun b b' B B' hb hb' hk hk' hne hs=>?_,r.fresh,r.low,fun b B hb hk=>?_,fun f l hfl=>?_,fun f l hfl b hb=>?_⟩
 · obtain ⟨bQ,k1,k2,k3,k4,k5⟩:=lk b B hk
   obtain ⟨C,E,g,c1,c2,c3,c4,c5⟩:=r.cells b bQ c e f hb k1 (k2 ▸ ho)
   exact ⟨C,E,g,c1,c2,c3,fun hn=>c4 fun hp=>hn (k5 hp),c5⟩
 · obtain ⟨bQ,k1,k2,k3,k4,_⟩:=lk b B hk
   obtain ⟨o1,o',o2,o3⟩:=r.obj b bQ hb k1 (k2 ▸ ho)
   exact ⟨o1,o',o2,by rw [k2];exact o3⟩
 · obtain ⟨bQ,k1,k2,k3,k4,_⟩:=lk b B hk
   have hO:=(r.own b bQ hb k1).2.resolve_right id
   exact ⟨fun _=>hO,.inl hO⟩
 · obtain ⟨bQ,k1,_,k3,_,k5⟩:=lk b B hk
   obtain ⟨Ci,j1,_,j3,_,j5⟩:=lk b' B' hk'
   rcases r.sep b b' bQ Ci hb hb' k1 j1 hne hs with ⟨f,g1,g2⟩|⟨g1,g2⟩
   ·exact .inl ⟨f,k3.trans g1,j3.trans g2⟩
   ·exact .inr ⟨k5 g1,j5 g2⟩
 · obtain ⟨bQ,k1,_,k3,k4,_⟩:=lk b B hk
   obtain ⟨s1,s2⟩:=r.bD b bQ hb k1
   exact ⟨s1.trans (by rw [k3]),fun z=>(s2 (k3 ▸ z)).trans k4.symm⟩
 · exact (r.row f l hfl).imp fun hp b1 b2 hs n n' u1 u2=>hp b1 b2 hs n n' (up _ _ u1) (up _ _ u2)
 · obtain ⟨m1,B,m2,m3⟩:=r.mem f l hfl b hb
   exact ⟨m1,B.own,by rw [pz,m2];rfl,m3⟩
theorem Sd.um(S:Sd P base F w₀ W U Z N ρ s g w m t)(hd:aX s.fr=true):Sd P base F w₀ W U Z N ρ ⟨s.fr,s.cs,s.h.gY⟩ g w m t:=by
 refine ⟨⟨S.st.at_,?_,S.st.lt⟩,S.wu,S.fz,S.JD,S.keep⟩
 obtain ⟨⟨lo,f,cs,h1,h2,h3,h4⟩,rel⟩:=S.st.QJ
 refine ⟨⟨lo,f,cs,h1,h2,.plain (h3.f0 fun ops l k e=>?_),h4⟩,rel.um⟩
 unfold aX at hd
 rw [e] at hd
 cases hd
theorem aJ.um(S:aJ P L base F w₀ ph s m t)(hd:aX s.fr=true):aJ P L base F w₀ ph ⟨s.fr,s.cs,s.h.gY⟩ m t:=by
 obtain ⟨W,U,Z,N,ρ,g,w,S,hp⟩:=S
 exact ⟨W,U,Z,N,ρ,g,w,S.um hd,hp⟩
def kF(s:AS):Option AS:=if aX s.fr then some ⟨s.fr,s.cs,s.h.gY⟩ else none
theorem aJ.kF(e:kF s=some s')(S:aJ P L base F w₀ ph s m t):aJ P L base F w₀ ph s' m t:=by
 unfold Am.kF at e
 split at e
 · cases e;exact S.um (by assumption)
 · cases e
end
end Go.Am
namespace Go.Am
open Go.Conc.Lib
open Go.Ren (grow fM aO az Wk At aA Keep full)
noncomputable section
def uo(P:Program)(pl:bz)(T:Tr TI)(Fu:Tr Func)(n d:Nat)(mv:Bool)(l:List Nat)(i:Nat)(s:AS):Option AS:=match s.cs with
 | c :: cs=>match ax P pl (some i) ⟨s.fr,[],s.h⟩ with
   |some (.go s₁)=>match explore P pl T Fu n d s₁ with
    |some L=>bif mv then gI P c cs l L else merge P c cs l L
    |none=>none
   |_=>none
 | []=>none
def lK(P:Program)(s:AS):Option Nat:=match wP ⟨s.fr,[],s.h⟩ with
 | some o=>some ((execOp (af s.fr.tmps) o).arity P s.h)
 | none=>none
end
section
variable{P:Program}{ρ σ:Env}{F W U Z:Nat→Prop}{w₀:World}{base:List Frame}{s s':AS}{pl:bz}{c:aF}{cs':List aF}{l:List Nat}
 {L:WgLink} {m:Machine} {t:Trace} {bJ:Machine→Outcome→World→Trace→Prop} {T:Tr TI} {Fu:Tr Func}
theorem C9{Lx:List (Value×AH)}(hm:gI P c cs' l Lx=some s'):∃ops i rest k d,sG c=some (ops,i,rest,k,d):=by
 unfold gI at hm
 split at hm
 · split at hm
   ·split at hm
    ·split at hm
     ·rename_i ops i rest k d' hs
      exact ⟨_,_,_,_,_,hs⟩
     ·cases hm
    ·cases hm
   ·cases hm
 · cases hm
theorem aJ.L8[aI P]{ph:Ph}(hcs:s.cs=c :: cs')(hq:gW P pl (fun v h=>∃Lx,(v,h)∈Lx∧(merge P c cs' l Lx=some s' ∨ gI P c cs' l Lx=some s')) ⟨s.fr,[],s.h⟩)(S:aJ P L base F w₀ ph s m t) :
   aA P bJ (aJ P L base F w₀ .idle s') m t:=by
 obtain ⟨W,U,Z,N,ρ,g,w,S,hp⟩:=S
 have S':Sd P base F w₀ W U Z N ρ ⟨s.fr,[] ++ c :: cs',s.h⟩ g w m t:=by
   obtain ⟨fr,ss,hh⟩:=s
   dsimp only at hcs
   subst hcs
   exact S
 have hr:=gW.under (c:=c) (cs:=cs') (K:=fun s₁=>∃x Lx,x∈Lx∧(merge P c cs' l Lx=some s' ∨ gI P c cs' l Lx=some s')∧∃a,au P c x.2 x.1=some a∧s₁=⟨a,cs',x.2⟩) hq fun v h hv=>by
   obtain ⟨Lx,hv,hm⟩:=hv
   have ha:∃a,au P c h v=some a:=by
    rcases hm with hm|hm
    ·obtain ⟨a,h1,_⟩:=rY hm _ hv
     exact ⟨a,h1⟩
    ·obtain ⟨ops,i,rest,k,d',hs⟩:=C9 hm
     exact ⟨_,IZ hs h v⟩
   obtain ⟨a,ha⟩:=ha
   exact ⟨a,ha,.here ⟨(v,h),Lx,hv,hm,a,ha,rfl⟩⟩
 refine (S'.reach hr).mono ?_
 rintro m t ⟨τ,s₁,g',w',⟨x,Lx,hxm,hm,a,ha,rfl⟩,k1,k2,k3⟩
 rcases hm with hm|hm
 · obtain ⟨a',h1,h2,h3⟩:=rY hm x hxm
   rw [ha] at h1
   cases h1
   rw [h3]
   exact ⟨_,_,_,_,_,_,_,k2.forget l h2,trivial⟩
 · unfold gI at hm
   split at hm
   ·rename_i b n' cap h₁ rest₁
    split at hm
    ·rename_i B hB
     split at hm
     ·rename_i cc e f iM
      split at hm
      ·rename_i ops i rest k d' hs
       split at hm
       ·rename_i hall
        cases hm
        rw [IZ hs] at ha
        cases ha
        have hsame:=(List.all_eq_true.1 hall) x hxm
        unfold RQ at hsame
        split at hsame
        ·rename_i b' n₂ c₂ hx1
         simp only [Bool.and_eq_true,beq_iff_eq] at hsame
         obtain ⟨⟨⟨rfl,rfl⟩,hag⟩,hlk⟩:=hsame
         split at hlk
         ·rename_i B' hB'
          simp only [Bool.and_eq_true,beq_iff_eq] at hlk
          obtain ⟨⟨⟨⟨q1,q2⟩,q3⟩,q4⟩,q5⟩:=hlk
          have q1' :=AX q1
          rw [hx1] at k2
          have k4:=k2.move (l:=l) hs hB' ⟨cc,e,f,q1'.trans iM⟩ q5
          rw [U4 (b:=b) (b' :=b') hag q1' q2 q3 q4,←xB hag] at k4
          exact ⟨_,_,_,_,_,_,_,k4,trivial⟩
         ·cases hlk
        ·cases hsame
       ·cases hm
      ·cases hm
     ·cases hm
    ·cases hm
   ·cases hm
theorem aJ.parts[aI P](K:dA P T)(KF:fO P Fu){ph:Ph}{n d q:Nat}{mv:Bool}(hq:lK P s=some q)(h0:q≠0)(hp:∀i,i < q→uo P pl T Fu n d mv l i s=some s')(S:aJ P L base F w₀ ph s m t) :
   aA P bJ (aJ P L base F w₀ .idle s') m t:=by
 unfold lK at hq
 split at hq
 rotate_left
 · cases hq
 rename_i o ho
 cases hq
 have hcs:∃c cs',s.cs=c :: cs' :=by
   have:=hp 0 (Nat.pos_of_ne_zero h0)
   unfold uo at this
   split at this
   ·exact ⟨_,_,by assumption⟩
   ·cases this
 obtain ⟨c,cs',hcs⟩:=hcs
 refine S.L8 (pl:=pl) (l:=l) (s' :=s') hcs ?_
 have part:∀i,i < (execOp (af s.fr.tmps) o).arity P s.h→∃s₁,ax P pl (some i) ⟨s.fr,[],s.h⟩=some (.go s₁)∧gW P pl (fun v h=>∃Lx,(v,h)∈Lx∧(merge P c cs' l Lx=some s' ∨ gI P c cs' l Lx=some s')) s₁:=by
   intro i hi
   have:=hp i hi
   unfold uo at this
   rw [hcs] at this
   dsimp only at this
   split at this
   ·rename_i s₁ hs
    split at this
    ·rename_i Lx hx
     refine ⟨s₁,hs,(pq K KF d hx).mono fun v h hv=>⟨Lx,hv,?_⟩⟩
     cases mv with
     |false=>exact .inl this
     |true=>exact .inr this
    ·cases this
   ·cases this
 have all:∀i,∃s₁,ax P pl (some i) ⟨s.fr,[],s.h⟩=some (.go s₁)∧gW P pl (fun v h=>∃Lx,(v,h)∈Lx∧(merge P c cs' l Lx=some s' ∨ gI P c cs' l Lx=some s')) s₁:=by
   intro i
   have hm:=mg (P:=P) (pl:=pl) ho i
   obtain ⟨s₁,h1,h2⟩:=part _ (Nat.mod_lt i (Nat.pos_of_ne_zero h0))
   exact ⟨s₁,hm.trans h1,h2⟩
 refine .step (fun i=>let ⟨s₁,h,_⟩:=all i;⟨_,h⟩) (fun i s₁ hs=>?_) fun i v h hs=>?_
 · obtain ⟨s₂,h1,h2⟩:=all i
   rw [hs] at h1
   cases h1
   exact h2
 · obtain ⟨s₂,h1,h2⟩:=all i
   rw [hs] at h1
   cases h1
end
end Go.Am
namespace Go.Am
open Go.Conc.Lib
open Go.Ren (grow fM aO az Wk At aA Keep full)
noncomputable section
def RZ:Option Value→Option Value→Bool
 | none,none=>true
 | some a,some b=>jB 9 a b
 | _,_=>false
theorem Si:∀ {a b:Option Value},RZ a b=true→a=b
 | none,none,_=>rfl
 | some a,some b,h=>by rw [iq _ _ _ h]
 | none,some _,h=>by cases h
 | some _,none,h=>by cases h
def allB(f:Nat→Bool)(m:Nat):Bool:=Nat.rec true (fun c ih=>f c && ih) m
theorem I4{f:Nat→Bool}:∀(m:Nat),allB f m=true→∀c,c < m→f c=true
 | 0,_,c,hc=>absurd hc (Nat.not_lt_zero _)
 | m+1,e,c,hc=>by
   replace e:(f m && allB f m)=true:=e
   rw [Bool.and_eq_true] at e
   by_cases hcm:c=m
   ·subst hcm;exact e.1
   ·exact I4 m e.2 c (by omega)
def yJ(P:Program)(pl:bz)(T:Tr TI)(Fu:Tr Func)(L:WgLink)(gb cb nt:Nat)(v:Option Value)(n d:Nat):AS→Bool:=
 Nat.rec (fun _=>false) (fun _ ih s=>match gX P pl T Fu n s with
   | .inr _=>false
   | .inl s=>match Iy P L gb cb nt s with
    |some u=>RZ u v
    |none=>match wP s with
     |some o=>bif Nat.beq ((execOp (af s.fr.tmps) o).arity P s.h) 0 then false else allB (fun c=>match ax P pl (some c) s with
      |some (.go s')=>ih s'
      |_=>false) ((execOp (af s.fr.tmps) o).arity P s.h)
     |none=>false) d
end
section
variable{P:Program}{pl:bz}{L:WgLink}{gb cb nt:Nat}{v:Option Value}{s:AS}{T:Tr TI}{Fu:Tr Func}
theorem pF(K:dA P T)(KF:fO P Fu){n:Nat}:∀(d:Nat) {s:AS},yJ P pl T Fu L gb cb nt v n d s=true→bn P pl (Au P L gb cb v) s
 | 0,s,e=>by cases e
 | d+1,s,e=>by
   replace e:(match gX P pl T Fu n s with
    | .inr _=>false
    | .inl s=>match Iy P L gb cb nt s with
     |some u=>RZ u v
     |none=>match wP s with
      |some o=>bif Nat.beq ((execOp (af s.fr.tmps) o).arity P s.h) 0 then false else allB (fun c=>match ax P pl (some c) s with
       |some (.go s')=>yJ P pl T Fu L gb cb nt v n d s'
       |_=>false) ((execOp (af s.fr.tmps) o).arity P s.h)
      |none=>false)=true:=e
   split at e
   ·cases e
   ·rename_i s₁ h₁
    refine (mF K KF n h₁).bind fun s₂ h₂=>?_
    subst h₂
    split at e
    ·rename_i u hu
     have:=Si e
     subst this
     exact .here (yf hu)
    ·split at e
     ·rename_i o ho
      cases hb:Nat.beq ((execOp (af s₂.fr.tmps) o).arity P s₂.h) 0 with
      |true=>rw [hb] at e;cases e
      |false=>
       rw [hb] at e
       have hz:(execOp (af s₂.fr.tmps) o).arity P s₂.h≠0:=fun h0=>by rw [h0] at hb;cases hb
       have all:∀c,∃s',ax P pl (some c) s₂=some (.go s')∧bn P pl (Au P L gb cb v) s' :=by
        intro c
        have hm:=mg (P:=P) (pl:=pl) ho c
        have h1:=I4 _ e (c % (execOp (af s₂.fr.tmps) o).arity P s₂.h) (Nat.mod_lt _ (Nat.pos_of_ne_zero hz))
        split at h1
        ·rename_i s' hs'
         exact ⟨s',hm.trans hs',pF K KF d h1⟩
        ·cases h1
       refine .step (fun c=>let ⟨s',h,_⟩:=all c;⟨s',h⟩) fun c s' hs'=>?_
       obtain ⟨s₃,h1,h2⟩:=all c
       rw [hs'] at h1
       cases h1
       exact h2
     ·cases e
end
end Go.Am
namespace Go.Am
open Go.Conc.Lib
open Go.ConcR (WgAt)
open Go.Ren (grow fM aO az Wk At aA Keep full)
noncomputable section
def goS(P:Program)(s:AS):Option (AS×AS):=match opAt s with
 | some o=>match o.op with
   | .go c=>match c.callee with
    | .value x=>match af s.fr.tmps x with
     | .func (.func fid) first cap=>if bV P fid && s.fr.round.isNone then
       match tK P s s.h.shared undef with
       |some s'=>some (⟨{ aF.enter P fid ((first ++ c.args.map (af s.fr.tmps)) ++ cap) with dk:=true },[],s.h.shared⟩,s')
       |none=>none
      else none
     |_=>none
    |_=>none
   |_=>none
 | none=>none
def dO(P:Program)(pl:bz)(L:WgLink)(gb n₁ n₂:Nat)(s:AS):Option (AS×AS):=match jG P pl n₁ s with
 | some (.go s₁)=>match AV P L.add #[.pointer (some ⟨gb,0,none⟩),.int .i64 1] s₁ with
   |some s₂=>match jG P pl n₂ s₂ with
    |some (.go s₃)=>goS P s₃
    |_=>none
   |none=>none
 | _=>none
def Zw(P:Program)(pl:bz)(L:WgLink)(gb n:Nat)(s:AS):Option AS:=match jG P pl n s with
 | some (.go s₁)=>AV P L.wait #[.pointer (some ⟨gb,0,none⟩)] s₁
 | _=>none
def rJ(P:Program)(pl:bz)(T:Tr TI)(Fu:Tr Func)(L:WgLink)(gb cb nt:Nat)(v:Option Value)(n d:Nat)(s:AS):Bool:=match gX P pl T Fu 100 s with
 | .inl s₁=>match CE P s₁ with
   |some s₂=>yJ P pl T Fu L gb cb nt v n d s₂
   |none=>false
 | .inr _=>false
end
section
variable{P:Program}{pl:bz}{L:WgLink}{gb cb nt n n₁ n₂ d cap:Nat}{v:Option Value}{vs:List (Option Value)}{s s' ws:AS}{T:Tr TI}{Fu:Tr Func}{Fin:AS→Prop}
 {F:Nat→Prop} {w₀:World} {base:List Frame} {m:Machine} {t:Trace} {bJ:Machine→Outcome→World→Trace→Prop}
theorem Sj(e:goS P s=some (ws,s'))(hw:AA P pl L gb cb v ws):AGo P pl L gb cb v s s' :=by
 unfold goS at e
 split at e
 · rename_i o ho
   obtain ⟨h1,ops,i,l,k,h2,h3,h4,h5⟩:=fF ho
   split at e
   ·rename_i c hop
    split at e
    ·rename_i x hx
     split at e
     ·rename_i fid first cap hf
      split at e
      ·rename_i hc
       simp only [Bool.and_eq_true,Option.isNone_iff_eq_none] at hc
       split at e
       ·rename_i s₂ hfin
        cases e
        obtain ⟨a',h6,h7⟩:=gB hfin
        exact ⟨h1,hc.2,ops,i,l,k,o,c,x,fid,first,cap,a',h2,h3,h4,h5,hop,hx,hf,hc.1,hw,h6,h7⟩
       ·cases e
      ·cases e
     ·cases e
    ·cases e
   ·cases e
 · cases e
theorem gm(e:dO P pl L gb n₁ n₂ s=some (ws,s'))(hw:AA P pl L gb cb v ws)(k:kX P pl L gb cb Fin vs s'):kX P pl L gb cb Fin (v :: vs) s:=by
 unfold dO at e
 split at e
 · rename_i s₁ Q8
   split at e
   ·rename_i s₂ hc
    split at e
    ·rename_i s₃ hr₂
     exact bZ n₁ Q8 (.here ⟨s₂,nK hc,bZ n₂ hr₂ (.here ⟨s',Sj e hw,k⟩)⟩)
    ·cases e
   ·cases e
 · cases e
theorem gp(K:dA P T)(KF:fO P Fu)(e:rJ P pl T Fu L gb cb nt v n d s=true):AA P pl L gb cb v s:=by
 unfold rJ at e
 split at e
 · rename_i s₁ h₁
   split at e
   ·rename_i s₂ h₂
    exact (mF K KF 100 h₁).bind fun s₄ h₄=>by
     subst h₄
     exact .here (.inr ⟨s₂,wz h₂,pF K KF d e⟩)
   ·cases e
 · cases e
end
end Go.Am
namespace Go.Am
open Go.Conc.Lib
open Go.ConcR (WgAt)
open Go.Ren (grow fM aO az Wk At aA Keep full)
noncomputable section
def L9(P:Program)(pl:bz)(L:WgLink)(gb n:Nat)(l:List Nat)(s:AS):Option AS:=match Zw P pl L gb n s with
 | some s₁=>bif aX s₁.fr then some ⟨s₁.fr,s₁.cs,s₁.h.forget l⟩ else none
 | none=>none
end
section
variable{P:Program}{pl:bz}{L:WgLink}{gb cb n cap:Nat}{l:List Nat}{s s':AS}{F:Nat→Prop}{w₀:World}{base:List Frame}{m:Machine}{t:Trace}{bJ:Machine→Outcome→World→Trace→Prop}
def Sm(l:List Nat)(s' s₁:AS):Prop:=aX s₁.fr=true∧s' = ⟨s₁.fr,s₁.cs,s₁.h.forget l⟩
theorem yK(e:L9 P pl L gb n l s=some s'):kX P pl L gb cb (Sm l s') [] s:=by
 unfold L9 Zw at e
 split at e
 · rename_i s₁ hs
   split at hs
   ·rename_i s₂ hr
    cases hb:aX s₁.fr with
    |false=>rw [hb] at e;cases e
    |true=>
     rw [hb] at e
     cases e
     exact bZ n hr (.here ⟨s₁,nK hs,hb,rfl⟩)
   ·cases hs
 · cases e
theorem aJ.Mc[aI P](H:xY P L){all:List (Option Value)}(k:kX P pl L gb cb (Sm l s') all s)(h1:all.length≤cap)(h2:all.length < 2147483647)(S:aJ P L base F w₀ (.ready cb cap gb) s m t) :
   aA P bJ (aJ P L base F w₀ (.joined cb cap (all.filterMap id)) s') m t:=by
 obtain ⟨W,U,Z,N,ρ,g,w,S,ch,wg,k1,k2,k3,k4,k5,k6,k7,k8⟩:=S
 refine (S.phase H k1 k2 k3 ⟨k5,k6⟩ k7 k8 h1 h2 k).mono ?_
 rintro m t ⟨σ,s₂,g',w',W',Z',N',buf,⟨hd,rfl⟩,q1,q2,q3,q4⟩
 have st:aJ P L base F w₀ (.joined cb cap (all.filterMap id)) s₂ m t:=⟨_,_,_,_,_,_,_,q2,rfl,ch,buf,q3,q4⟩
 exact st.forget l hd
end
end Go.Am
namespace Go.Am
open Go.Conc.Lib
open Go.Ren (grow fM aO az Wk At aA Keep full)
noncomputable section
def Su(P:Program)(pl:bz)(T:Tr TI)(Fu:Tr Func)(n i:Nat)(s:AS):Option AS:=match ax P pl (some i) ⟨s.fr,[],s.h⟩ with
 | some (.go s₁)=>match gX P pl T Fu n s₁ with
   | .inl s₂=>some s₂
   | .inr _=>none
 | _=>none
def lg(P:Program)(pl:bz)(T:Tr TI)(Fu:Tr Func)(n:Nat)(s:AS)(i:Nat):Option Nat:=match Su P pl T Fu n i s with
 | some s₂=>match wP s₂ with
   |some o=>some ((execOp (af s₂.fr.tmps) o).arity P s₂.h)
   |none=>none
 | none=>none
def aB(P:Program)(pl:bz)(T:Tr TI)(Fu:Tr Func)(n d:Nat)(mv:Bool)(l:List Nat)(i:Nat)(s:AS)(j:Nat):Option AS:=match s.cs with
 | c :: cs=>match Su P pl T Fu n i s with
   |some s₂=>match ax P pl (some j) s₂ with
    |some (.go s₃)=>match explore P pl T Fu n d s₃ with
     |some L=>bif mv then gI P c cs l L else merge P c cs l L
     |none=>none
    |_=>none
   |none=>none
 | []=>none
def P2(P:Program)(pl:bz)(T:Tr TI)(Fu:Tr Func)(n d:Nat)(mv:Bool)(l:List Nat)(s s':AS)(i:Nat)(js:List Nat):Prop:=js.map (aB P pl T Fu n d mv l i s)=js.map fun _=>some s'
end
section
variable{P:Program}{F:Nat→Prop}{w₀:World}{base:List Frame}{s s':AS}{pl:bz}{l:List Nat}{L:WgLink}{m:Machine}{t:Trace}{bJ:Machine→Outcome→World→Trace→Prop}{T:Tr TI}{Fu:Tr Func}{n d i:Nat}{mv:Bool}
theorem P2.app{a b:List Nat}(h:P2 P pl T Fu n d mv l s s' i a)(k:P2 P pl T Fu n d mv l s s' i b):P2 P pl T Fu n d mv l s s' i (a ++ b):=by
 unfold P2 at h k ⊢
 rw [List.map_append,List.map_append,h,k]
theorem P2.at{js:List Nat}(h:P2 P pl T Fu n d mv l s s' i js){j:Nat}(hj:j∈js):aB P pl T Fu n d mv l i s j=some s' :=by
 unfold P2 at h
 exact List.map_inj_left.1 h j hj
theorem aJ.yL[aI P](K:dA P T)(KF:fO P Fu){ph:Ph}{q r:Nat}(hq:lK P s=some q)(h0:q≠0)(hr:(List.range q).map (lg P pl T Fu n s)=(List.range q).map fun _=>some r)(r0:r≠0)(hp:∀i,i < q→P2 P pl T Fu n d mv l s s' i (List.range r))(S:aJ P L base F w₀ ph s m t) :
   aA P bJ (aJ P L base F w₀ .idle s') m t:=by
 unfold lK at hq
 split at hq
 rotate_left
 · cases hq
 rename_i o ho
 cases hq
 have hp':∀i,i < (execOp (af s.fr.tmps) o).arity P s.h→∀j,j < r→aB P pl T Fu n d mv l i s j=some s' :=fun i hi j hj=>(hp i hi).at (List.mem_range.2 hj)
 have hcs:∃c cs',s.cs=c :: cs' :=by
   have:=hp' 0 (Nat.pos_of_ne_zero h0) 0 (Nat.pos_of_ne_zero r0)
   unfold aB at this
   split at this
   ·exact ⟨_,_,by assumption⟩
   ·cases this
 obtain ⟨c,cs',hcs⟩:=hcs
 refine S.L8 (pl:=pl) (l:=l) (s' :=s') hcs ?_
 have part:∀i,i < (execOp (af s.fr.tmps) o).arity P s.h→∃s₁,ax P pl (some i) ⟨s.fr,[],s.h⟩=some (.go s₁)∧gW P pl (fun v h=>∃Lx,(v,h)∈Lx∧(merge P c cs' l Lx=some s' ∨ gI P c cs' l Lx=some s')) s₁:=by
   intro i hi
   have ha:lg P pl T Fu n s i=some r:=List.map_inj_left.1 hr i (List.mem_range.2 hi)
   unfold lg at ha
   split at ha
   rotate_left
   ·cases ha
   rename_i s₂ hn
   split at ha
   rotate_left
   ·cases ha
   rename_i o₂ acD
   have hr2:(execOp (af s₂.fr.tmps) o₂).arity P s₂.h=r:=by simpa using ha
   have hj:∀j,j < r→∃s₃,ax P pl (some j) s₂=some (.go s₃)∧gW P pl (fun v h=>∃Lx,(v,h)∈Lx∧(merge P c cs' l Lx=some s' ∨ gI P c cs' l Lx=some s')) s₃:=by
    intro j hj
    have:=hp' i hi j hj
    unfold aB at this
    rw [hcs] at this
    dsimp only at this
    rw [hn] at this
    dsimp only at this
    split at this
    ·rename_i s₃ hs
     split at this
     ·rename_i Lx hx
      refine ⟨s₃,hs,(pq K KF d hx).mono fun v h hv=>⟨Lx,hv,?_⟩⟩
      cases mv with
      |false=>exact .inl this
      |true=>exact .inr this
     ·cases this
    ·cases this
   have all2:∀j,∃s₃,ax P pl (some j) s₂=some (.go s₃)∧gW P pl (fun v h=>∃Lx,(v,h)∈Lx∧(merge P c cs' l Lx=some s' ∨ gI P c cs' l Lx=some s')) s₃:=by
    intro j
    have hm:=mg (P:=P) (pl:=pl) acD j
    rw [hr2] at hm
    obtain ⟨s₃,h1,h2⟩:=hj _ (Nat.mod_lt j (Nat.pos_of_ne_zero r0))
    exact ⟨s₃,hm.trans h1,h2⟩
   unfold Su at hn
   split at hn
   ·rename_i s₁ hs₁
    refine ⟨s₁,hs₁,?_⟩
    split at hn
    ·rename_i s₂' hf
     cases hn
     refine mD K KF n (fun x hx=>?_) fun v h hx=>?_
     ·rw [hf] at hx
      cases hx
      refine .step (fun j=>let ⟨s₃,h,_⟩:=all2 j;⟨_,h⟩) (fun j s₃ hs=>?_) fun j v h hs=>?_
      ·obtain ⟨s₄,h1,h2⟩:=all2 j
       rw [hs] at h1
       cases h1
       exact h2
      ·obtain ⟨s₄,h1,h2⟩:=all2 j
       rw [hs] at h1
       cases h1
     ·rw [hf] at hx
      cases hx
    ·cases hn
   ·cases hn
 have all:∀i,∃s₁,ax P pl (some i) ⟨s.fr,[],s.h⟩=some (.go s₁)∧gW P pl (fun v h=>∃Lx,(v,h)∈Lx∧(merge P c cs' l Lx=some s' ∨ gI P c cs' l Lx=some s')) s₁:=by
   intro i
   have hm:=mg (P:=P) (pl:=pl) ho i
   obtain ⟨s₁,h1,h2⟩:=part _ (Nat.mod_lt i (Nat.pos_of_ne_zero h0))
   exact ⟨s₁,hm.trans h1,h2⟩
 refine .step (fun i=>let ⟨s₁,h,_⟩:=all i;⟨_,h⟩) (fun i s₁ hs=>?_) fun i v h hs=>?_
 · obtain ⟨s₂,h1,h2⟩:=all i
   rw [hs] at h1
   cases h1
   exact h2
 · obtain ⟨s₂,h1,h2⟩:=all i
   rw [hs] at h1
   cases h1
end
end Go.Am
namespace Go.Am
open Go.Conc (born QuitsD G scase rcase Good)
open Go.Conc.Lib
open Go.ConcR (WgAt)
open Go.Ren (grow fM aO az Wk fH Idle ag X0 At aA Keep full Tm)
section
variable{P:Program}{ρ σ:Env}{F W U Z Z':Nat→Prop}{N:Nat}{h h':AH}{w w' w₀:World}{base:List Frame}{s s' s₀:AS}{pl:bz}{g g':Goroutine}{L:WgLink}{bJ:Machine→Outcome→World→Trace→Prop}{m:Machine}{t:Trace}{c:aF}{cs:List aF}{fid:FuncId}{v:Value}{args:Array Value}
def J7(P:Program)(fid:FuncId)(v:Value)(s:AS):Option AS:=match opAt s with
 | some o=>match o.op with
   | .call c=>match c.callee with
    | .value (.func f)=>if f == fid && s.fr.round.isNone && c.args.size == 0 then tK P s s.h v else none
    |_=>none
   |_=>none
 | none=>none
theorem I5(h:J7 P fid v s=some s'):Rh P fid v s s' :=by
 unfold J7 at h
 split at h
 · rename_i o ho
   obtain ⟨h1,ops,i,l,k,h2,h3,h4,h5⟩:=fF ho
   split at h
   ·rename_i c hop
    split at h
    ·rename_i f hf
     split at h
     ·rename_i hc
      simp only [Bool.and_eq_true,beq_iff_eq,Option.isNone_iff_eq_none] at hc
      obtain ⟨⟨rfl,hr⟩,ha⟩:=hc
      obtain ⟨a',h6,h7⟩:=gB h
      obtain ⟨callee,as,ats⟩:=c
      dsimp only at hf ha
      subst hf
      have:as = #[]:=Array.eq_empty_of_size_eq_zero ha
      subst this
      exact ⟨h1,hr,ops,i,l,k,o,ats,a',h2,h3,h4,h5,hop,h6,h7⟩
     ·cases h
    ·cases h
   ·cases h
 · cases h
theorem Sd.acE[aI P](hp:bV P fid=true)(hv:Plain v)(U5:∀ {b:Frame} {bs:List Frame} {F:Nat→Prop} {w₀:World} {m:Machine} {t:Trace},aJ P L (b :: bs) F w₀ .idle ⟨aF.enter P fid #[],[],h0⟩ m t→aA P bJ (Back P b bs F w₀ v) m t)(S:Sd P base F w₀ W U Z N ρ s g w m t)(k:Rh P fid v s s') :
   aA P bJ (fun m t=>∃(W' U' Z':Nat→Prop) (N':Nat) (σ:Env) (g':Goroutine) (w':World),ρ.Le σ∧Sd P base F w₀ W' U' Z' N' σ s' g' w' m t) m t:=by
 obtain ⟨hrun,fJ,ops,i,l,kk,o,ats,a',t1,t2,t3,t4,t5,t6,t7⟩:=k
 refine (S.JQ (c:=[]) hrun t1).bind ?_
 rintro m t ⟨σ,lo,f,cs,w',hle,A,hat,hk,hkF,hlt⟩
 obtain ⟨hargs,sr,kr,UM,hst⟩:=uU (m:=true) (base:=base) hp A fJ t2 t3 t4 t5
 have hargs':(#[]:Array Operand).map f.eval = #[]:=by simp
 rw [hargs'] at hst
 have hwk:Wk P true (fun _=>True) X0 (fun _=>False) (fun O' g' w''=>g' = cO (Frame.enter P fid #[] .normal) (f :: (cs ++ base))∧az (full Z w') (fun _=>False) w' w'') (full Z w') (cO f (cs ++ base)) w' :=
   Wk.mk rfl fun w₁ hr _=>⟨_,w₁,#[],hst w₁,.none w₁,.stop ⟨rfl,hr⟩⟩
 refine (Go.Ren.At.wk2 hwk hlt rfl hat).bind ?_
 rintro m t ⟨g₁,w₁,aas,⟨rfl,lq⟩,acF⟩
 have hsz:w'.heap.size≤w₁.heap.size:=lq.size
 have I7:=A.rely lq
 have acG:aJ P L (f :: (cs ++ base)) (fun b=>full Z w' b∨F b) w₁ .idle ⟨aF.enter P fid #[],[],h0⟩ m t:=by
   refine ⟨W,U,fun b=>b < w₁.heap.size,N,zT,_,w₁,⟨⟨aas.drop fun b hb=>Nat.lt_of_lt_of_le (hlt b hb) hsz,JV _ _ _ _,fun b hb=>hb⟩,fun b hb=>Nat.lt_of_lt_of_le (hlt b (S.wu b hb)) hsz,fun b hb=>?_,fun b hb=>?_,.refl⟩,trivial⟩
   ·rcases hb with hb|hb
    ·exact Nat.lt_of_lt_of_le hb.1 hsz
    ·exact Nat.lt_of_lt_of_le (hlt b (S.fz b hb)) hsz
   ·rcases hb with hb|hb
    ·exact fun x=>hb.2 (S.wu b x)
    ·exact S.JD b hb
 refine (U5 acG).mono ?_
 rintro m t ⟨W',U',U6,N',w₂,aat,hwu,hfz,aau,hkeep,aav⟩
 have hsub:∀b,full Z w' b→full (fun b=>U6 b∧¬full Z w' b) w₂ b:=fun b hb=>⟨Nat.lt_of_lt_of_le hb.1 (Nat.le_trans hsz hkeep.2.1),fun x=>x.2 hb⟩
 have hrel:Rel σ (full (fun b=>U6 b∧¬full Z w' b) w₂) (fun _=>False) s.h w₂:=by
   have r1:Rel σ (full Z w') (fun _=>False) s.h { w₁ with heap:=w₂.heap }:=I7.rel.rely ⟨hkeep.2.1,fun b hb=>hkeep.1 b (.inl hb),fun b hb=>hb.elim,.rfl,rfl,rfl⟩
   have r2:Rel σ (full Z w') (fun _=>False) s.h w₂:=⟨r1.cells,r1.obj,r1.own,r1.sep,r1.fresh,r1.low,r1.bD,r1.row,r1.mem⟩
   exact r2.mono hsub
 have aeE:tH P σ lo s ops i f cs (full (fun b=>U6 b∧¬full Z w' b) w₂) (fun _=>False) w₂:=⟨I7.bound,I7.fs,I7.run,I7.todo,I7.kW,I7.wanted,I7.stk,hrel⟩
 subst t7
 refine ⟨W',U',fun b=>U6 b∧¬full Z w' b,N',σ,_,w₂,hle,⟨aat.alone.drop fun b hb=>⟨hwu b hb,fun hf=>aau b (.inl hf) hb⟩,?_,fun b hb=>aav b hb.1⟩,fun b hb=>⟨hwu b hb,fun hf=>aau b (.inl hf) hb⟩,fun b hb=>⟨hfz b (.inr hb),fun hf=>hf.2 (S.fz b hb)⟩,fun b hb=>aau b (.inr hb),hkF.trans ?_⟩
 · exact aeE.finish (.refl σ) (fun x _ hx=>hx) (Nat.le_refl _) (hv.vr σ) hrel t6
 · refine ⟨fun b hb=>?_,Nat.le_trans hsz hkeep.2.1,lq.os.trans hkeep.2.2.1,hkeep.2.2.2.trans lq.output⟩
   rw [hkeep.1 b (.inr hb)]
   exact acF.1 b (S.fz b hb)
theorem Sd.ends{Post:Value→World→Prop}{K:Machine→Trace→Prop}{fd:Func}{h₁:AH}(S:Sd P [] F w₀ W U Z N ρ s g w m t)(hcs:s.cs=[])(hnd:aX s.fr=true)(hret:s.fr.ret=true)(hdf:s.fr.defers=[])(hdk:s.fr.dk=false)(hfd:P.funcs[s.fr.fn]? = some fd)(hx:(results fd s.fr.tmps).ar P none s.h=some (v,h₁))(hin:P.inits.idxOf? s.fr.fn=none)(hv:Plain v)
   (hP:∀w',Keep F w₀ w' → Post v w'):aA P (Good P Post) K m t:=by
 obtain ⟨⟨lo,f,cs,hlo,rfl,hf,hcs'⟩,rel⟩:=S.st.QJ
 rw [hcs] at hcs'
 cases hcs'
 have key:∀d₁,∃v' w' es,stepG P true (cO f ([] ++ [])) (w.at d₁) = .ended (.done v') w' es∧aO X0 (full Z w) (fun _=>False) (w.at d₁) w' es∧Post v' w' :=fun d₁=>by
   obtain ⟨⟨lo',f',cs'',lM,hg,hf',Zx⟩,rel'⟩:=S.st.QJ.at d₁
   have hb:f' = f∧cs'' = []:=by
    rw [hcs] at Zx
    cases Zx
    exact ⟨by injection hg with e1 _;exact e1.symm,rfl⟩
   obtain ⟨rfl,rfl⟩:=hb
   have hf0:F0 ρ s.fr f' :=hf'.f0 fun ops l k e=>by unfold aX at hnd;rw [e] at hnd;cases hnd
   have Sv:f'.mode = .returning:=by
    have:=hf0.mode
    rw [hret] at this
    exact this
   have hdef:=hf0.defers
   rw [hdf] at hdef
   have hkind:=hf0.toFB.normal hdk
   have hfn:f'.fn=s.fr.fn:=hf0.fn
   obtain ⟨τ,v',w',es,h1,h2,h3,h4,h5,h8,h9⟩:=vk (X:=X0) ((yM fd hf0.tmps).uQ rel' hx) f'.fn
   have hvv:=hv.eq h4
   subst hvv
   refine ⟨v',w',seen P f'.fn es,?_,h2,hP w' (S.keep.trans ⟨fun b hb=>?_,h2.size,.of h2.os,h2.output⟩)⟩
   ·obtain ⟨fn,tmps,todo,defers,mode,kind,ro⟩:=f'
    dsimp only at Sv hkind hfn hdef h1
    subst Sv hkind hfn
    cases hdef
    rw [stepG_ret rfl]
    simp only [unwind,hfd]
    rw [h1]
    simp [doReturn,hin,GStep.after,List.append_nil]
   ·have hlt:=S.st.lt b (S.fz b hb)
    exact h2.heap b hlt fun x=>x.2 (S.fz b hb)
 exact Go.Ren.At.ends rfl S.st.at_ key
end
end Go.Am
