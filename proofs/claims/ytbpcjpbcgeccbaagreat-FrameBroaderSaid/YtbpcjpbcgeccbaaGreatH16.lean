import Derived.Test.YtbpcjpbcgeccbaaGreatH14
import Derived.Test.YtbpcjpbcgeccbaaGreatH15
set_option linter.unusedVariables false
set_option linter.unusedSectionVars false
set_option linter.unusedSimpArgs false
namespace Go.Am
section
variable{P:Program}{T:Tr TI}{Fu:Tr Func}{pl:bH}{tmps:List Value}{h h':AH}{o:Oper}{v:Value}{x:Operand}{c:Ctx}{s s':AS}{k:List aK}{ops:Array Oper}{i:Nat}{l:List Nat}{next:K}
theorem Ku{a b:Code}{qa qb:K}(ha:bF P pl (.code a :: k) qa)(hb:bF P pl (.code b :: k) qb)(x:Operand):bF P pl (.code (.cond x a b) :: k) (Ry qa qb x):=by
 intro c tmps h s' e
 unfold Ry at e
 split at e
 · rename_i t
   split at e
   ·rename_i u hu
    have hv:ax ⟨tmps⟩ (.tmp t) = .bool u:=Bd _ _ hu
    have hs:aF P pl none (mk (.code (.cond (.tmp t) a b) :: k) c tmps h)=some (.go (mk (.code (if u then a else b) :: k) c tmps h)):=by
     unfold aF mk
     dsimp only
     rw [if_pos (show FZ (.tmp t)=true from rfl),hv]
     rfl
    cases u with
    |true=>exact .one hs (ha c tmps h s' e)
    |false=>exact .one hs (hb c tmps h s' e)
   ·cases e
 · cases e
theorem Pv:bF P pl (.code .ret :: k) (Zl k):=by
 intro c tmps h s' e
 unfold Zl at e
 split at e
 · rename_i hr
   cases e
   refine .one (s₁:=⟨⟨c.fn,⟨tmps⟩,.code .ret :: k,c.defers,true,none,c.dk⟩,c.cs,h⟩) ?_ (.here rfl)
   unfold aF mk ou
   dsimp only
   rw [hr]
 · cases e
theorem Kv{id:Nat}:bF P pl (.code (.exit id) :: k) (RV id k):=by
 intro c tmps h s' e
 unfold RV at e
 split at e
 · rename_i k' hk
   cases e
   refine .one (s₁:=mk k' c tmps h) ?_ (.here rfl)
   unfold aF mk
   dsimp only
   rw [hk]
   rfl
 · cases e
theorem yZ(K:aW P T)(KF:fZ P Fu):∀(x:Code) (k:List aK),bF P pl (.code x :: k) (codeF P T Fu x k):=by
 intro x
 induction x with
 | skip=>exact fun k=>fA (fun c tmps h=>rfl) (ry k)
 | region id ops d=>
   intro k
   cases d with
   |false=>
    have:=vg (pl:=pl) (ops:=ops) (k:=k) K KF (List.range ops.toList.length) false
    exact fA (fun c tmps h=>rfl) this
   |true=>exact jG _
 | seq a b iha ihb=>exact fun k=>fA (fun c tmps h=>rfl) (iha (.code b :: k))
 | cond x a b iha ihb=>exact fun k=>Ku (iha k) (ihb k) x
 | block id b ih=>exact fun k=>fA (fun c tmps h=>rfl) (ih (.inBlock id :: k))
 | loop b ih=>exact fun k=>fA (fun c tmps h=>rfl) (ih (.inLoop b :: k))
 | exit id=>exact fun k=>Kv
 | ret=>exact fun k=>Pv
 | goto _=>exact fun k=>jG _
 | label _=>exact fun k=>jG _
 | scope _ _=>exact fun k=>jG _
 | rangeFunc _ _ _ _ _ _=>exact fun k=>jG _
 | refuse _=>exact fun k=>jG _
theorem IJ(K:aW P T)(KF:fZ P Fu)(x:aK)(k:List aK):bF P pl (x :: k) (Yd P T Fu x k):=by
 cases x with
 | code x=>exact yZ K KF x k
 | inBlock id=>exact fA (fun c tmps h=>rfl) (ry k)
 | inLoop b=>exact fA (fun c tmps h=>rfl) (yZ K KF b (.inLoop b :: k))
 | inScope b=>exact fA (fun c tmps h=>rfl) (ry k)
 | region ops l=>exact vg K KF l true
 | drawn ops l=>exact lM K KF l true
 | inRangeFunc l=>exact jG _
 | endRangeFunc l=>exact jG _
 | beginRound=>exact jG _
def Zm(tmps:List Value)(r:ResultVar):Value:=match r with
 | .tmp t=>(Array.mk tmps).getD t undef
 | _=>undef
theorem Ei:∀(rs:List ResultVar) {l:List Value},V6 tmps rs=some l→(∀r∈rs,∃t,r = .tmp t)∧rs.map (Zm tmps)=l
 | [],l,e=>by cases e;exact ⟨fun r hr=>(by cases hr),rfl⟩
 | .cell a t :: rs,l,e=>by cases e
 | .tmp t :: rs,l,e=>by
   replace e:(match nth tmps t with
     |some v=>match V6 tmps rs with
      |some m=>some (v :: m)
      |none=>none
     |none=>none)=some l:=e
   split at e
   ·rename_i v hv
    split at e
    ·rename_i m hm
     cases e
     obtain ⟨h1,h2⟩:=Ei rs hm
     refine ⟨fun r hr=>?_,?_⟩
     ·rcases List.mem_cons.1 hr with rfl|hr
      ·exact ⟨t,rfl⟩
      ·exact h1 r hr
     ·rw [List.map_cons,h2]
      unfold Zm
      dsimp only
      rw [Bd _ _ hv]
    ·cases e
   ·cases e
theorem BA{fn:Func}{l:List Value}(e:V6 tmps fn.results.toList=some l):(results fn ⟨tmps⟩).ar P none h=some (resV l,h):=by
 obtain ⟨h1,h2⟩:=Ei _ e
 have hm:∀(f:ResultVar→Sem Value),(∀t,f (.tmp t)=Pure.pure ((Array.mk tmps).getD t undef))→∀(rs:List ResultVar) (m:List Value),(∀r∈rs,∃t,r = .tmp t)→rs.map (Zm tmps)=m→(rs.mapM f).ar P none h=some (m,h):=by
   intro f hf rs
   induction rs with
   |nil=>intro m _ e;cases e;rfl
   |cons r rs ih=>
    intro m hr e
    obtain ⟨t,rfl⟩:=hr _ List.mem_cons_self
    rw [List.map_cons] at e
    subst e
    rw [List.mapM_cons,hf,kX (Rz _),kX (ih _ (fun r h'=>hr r (List.mem_cons_of_mem _ h')) rfl)]
    rfl
 unfold results
 rw [Array.mapM_eq_mapM_toList]
 have e1:∀(X:Sem (List Value)),X.ar P none h=some (l,h)→(Functor.map List.toArray X).ar P none h=some (l.toArray,h):=by
   intro X hX
   show (X >>= fun a=>(Pure.pure a.toArray:Sem (Array Value))).ar P none h=_
   rw [kX hX]
   rfl
 rw [kX (e1 _ (hm _ (fun t=>by rfl) fn.results.toList l h1 h2))]
 show some (_,h)=_
 match l with
 | []=>rfl
 | [v]=>rfl
 | u :: v :: l=>rfl
theorem Kw{d:aB}{cs:List aB}(K:aW P T)(KF:fZ P Fu)(e:RY T Fu (d :: cs) h c.fn ⟨tmps⟩ c.defers c.dk=some s'):aF P pl none ⟨⟨c.fn,⟨tmps⟩,k,c.defers,true,c.round,c.dk⟩,d :: cs,h⟩=some (.go s'):=by
 unfold RY at e
 split at e
 · rename_i hd
   split at e
   ·rename_i hdk
    dsimp only at e
    split at e
    ·rename_i fn hfn
     split at e
     ·rename_i l hl
      obtain ⟨f1,f2⟩:=KF.get _ _ hfn
      obtain ⟨dfn,wJ,acM,wK,Su,BB,ddk⟩:=d
      replace e:RX T h cs dfn wJ acM wK Su BB ddk (resV l)=some s' :=e
      unfold RX at e
      split at e
      ·rename_i ops i rest k'
       split at e
       ·rename_i o ho
        rw [iU] at ho
        have ho':ops[i]? = some o:=by simpa using ho
        have hst:aF P pl none ⟨⟨c.fn,⟨tmps⟩,k,c.defers,true,c.round,c.dk⟩,⟨dfn,wJ,.region ops (i :: rest) :: k',wK,Su,BB,ddk⟩ :: cs,h⟩=some (.go ⟨⟨dfn,dD wJ o.dst (resV l),.region ops rest :: k',wK,Su,BB,ddk⟩,cs,h⟩):=by
         unfold aF nR
         dsimp only
         rw [hd]
         dsimp only
         rw [f1]
         dsimp only
         rw [BA hl,hdk]
         unfold uG az
         dsimp only
         rw [ho']
         rfl
        rw [hst]
        split at e
        ·rename_i t hdst
         rw [jF] at e
         cases e
         rw [hdst]
         have es:dD wJ (some t) (resV l)=⟨wJ.toList.set t (resV l)⟩:=by
          unfold dD
          apply Array.ext'
          simp
         rw [es]
        ·rename_i hdst
         cases e
         rw [hdst]
         rfl
       ·cases e
      ·rename_i ops i again rest k'
       split at e
       ·rename_i o ho
        rw [iU] at ho
        have ho':ops[i]? = some o:=by simpa using ho
        split at e
        ·rename_i hkd
         have hst:∀t':Array Value,dD wJ o.dst (resV l)=t' → recheck P ops again t' h=true→aF P pl none ⟨⟨c.fn,⟨tmps⟩,k,c.defers,true,c.round,c.dk⟩,⟨dfn,wJ,.drawn ops ((i,again) :: rest) :: k',wK,Su,BB,ddk⟩ :: cs,h⟩=some (.go ⟨⟨dfn,t',.drawn ops rest :: k',wK,Su,BB,ddk⟩,cs,h⟩):=by
          intro t' ht hre
          unfold aF nR
          dsimp only
          rw [hd]
          dsimp only
          rw [f1]
          dsimp only
          rw [BA hl,hdk]
          unfold uG az
          dsimp only
          rw [Kr ho' hkd,II ho',ht]
          simp only [Bool.false_eq_true,if_false]
          rw [if_pos ⟨trivial,hre⟩]
          rfl
         split at e
         ·rename_i t hdst
          rw [jF] at e
          cases hr:VG T (wJ.toList.set t (resV l)) h ops again with
          |false=>rw [hr] at e;cases e
          |true=>
           rw [hr] at e
           cases e
           refine hst _ ?_ (oM K _ hr)
           rw [hdst]
           unfold dD
           apply Array.ext'
           simp
         ·rename_i hdst
          cases hr:VG T wJ.toList h ops again with
          |false=>rw [hr] at e;cases e
          |true=>
           rw [hr] at e
           cases e
           exact hst _ (by rw [hdst];rfl) (oM K _ hr)
        ·cases e
       ·cases e
      ·cases e
     ·cases e
    ·cases e
   ·cases e
 · cases e
theorem qc(K:aW P T)(KF:fZ P Fu)(e:pX P T Fu s=some s'):To P pl s' s:=by
 obtain ⟨⟨fn,⟨tmps⟩,todo,defers,ret,round,dk⟩,cs,h⟩:=s
 cases ret with
 | false=>
   cases todo with
   |nil=>cases e
   |cons x k=>exact IJ K KF x k ⟨fn,defers,round,dk,cs⟩ tmps h s' e
 | true=>
   cases cs with
   |nil=>
    replace e:RY T Fu [] h fn ⟨tmps⟩ defers dk=some s' :=e
    unfold RY at e
    split at e
    ·split at e<;>cases e
    ·cases e
   |cons d cs=>exact .one (Kw (c:=⟨fn,defers,round,dk,cs⟩) (k:=todo) K KF e) (.here rfl)
theorem rD(K:aW P T)(KF:fZ P Fu):∀(n:Nat) {s:AS},Bl P pl T Fu n s=some (.go s')→To P pl s' s
 | 0,s,e=>by cases e;exact .here rfl
 | n+1,s,e=>by
   replace e:Option.rec (Nb P pl s (Bl P pl T Fu n)) (Bl P pl T Fu n) (pX P T Fu s)=some (.go s'):=e
   cases hf:pX P T Fu s with
   |some s₁=>
    rw [hf] at e
    exact (qc K KF hf).bind fun s₂ h₂=>by subst h₂;exact rD K KF n e
   |none=>
    rw [hf] at e
    replace e:Nb P pl s (Bl P pl T Fu n)=some (.go s'):=e
    unfold Nb at e
    split at e
    ·rename_i s₁ h₁
     exact .one h₁ (rD K KF n e)
    ·rename_i hr
     exact absurd e (hr s')
theorem To.all{Q:Value→AH→Prop}(k:To P pl s' s)(q:jW P pl Q s'):jW P pl Q s:=by
 induction k with
 | here h=>exact h ▸ q
 | step hne hgo ih=>exact .step (fun c=>let ⟨s',h⟩:=hne c;⟨_,h⟩) (fun c s₁ e=>ih c s₁ e) (fun c v h e=>by obtain ⟨s₁,h₁⟩:=hne c;rw [h₁] at e;cases e)
end
end Go.Am
namespace Go.Am
open Go.Ren (grow fK aN au Wk)
def _root_.Go.Sem.arity{α:Type}(P:Program):Sem α→AH→Nat
 | .load _ a k,h=>match h.cell a with
   |some v=>(k v).arity P h
   |none=>1
 | .store _ a v k,h=>match h.setCell a v with
   |some h'=>k.arity P h'
   |none=>1
 | .new o k,h=>(k h.n).arity P (h.new o)
 | .shape r k,h=>match h.look r with
   |some { obj:=.cells l e _,.. }=>(k (some (e,l.size))).arity P h
   |some _=>(k none).arity P h
   |none=>1
 | .getObj r k,h=>match h.look r with
   |some B=>(k B.obj).arity P h
   |none=>1
 | .setObj r o k,h=>match h.look r with
   |some B=>k.arity P (h.put r B o)
   |none=>1
 | .choose q k,h=>if q.forced then (k 0).arity P h else match q with
   | .mapNext n=>n
   |_=>1
 | .program k,h=>(k P).arity P h
 | _,_=>1
section
variable{P:Program}{pl:bH}
theorem Zo{α:Type}(s:Sem α):∀(h:AH) (c:Nat),s.ar P (some c) h=s.ar P (some (c % s.arity P h)) h:=by
 induction s with
 | load m a k ih=>
   intro h c
   have e:=fun c=>Sem.ar.eq_def (P:=P) (Sem.load m a k) c h
   dsimp only at e
   rw [e,e,Sem.arity]
   generalize h.cell a=q
   cases q with
   |none=>rfl
   |some v=>
    cases m with
    |plain=>exact ih v h c
    |atomic=>rfl
 | store m a v k ih=>
   intro h c
   have e:=fun c=>Sem.ar.eq_def (P:=P) (Sem.store m a v k) c h
   dsimp only at e
   rw [e,e,Sem.arity]
   cases v<;>cases m<;>first|rfl|skip
   all_goals
    dsimp only
    generalize h.setCell a _=q
    cases q with
    |none=>rfl
    |some h'=>exact ih h' c
 | new o k ih=>
   intro h c
   have e:=fun c=>Sem.ar.eq_def (P:=P) (Sem.new o k) c h
   dsimp only at e
   rw [e,e,Sem.arity]
   split<;>first|rfl|exact ih _ _ c
 | shape r k ih=>
   intro h c
   have e:=fun c=>Sem.ar.eq_def (P:=P) (Sem.shape r k) c h
   dsimp only at e
   rw [e,e,Sem.arity]
   generalize h.look r=q
   cases q with
   |none=>rfl
   |some B=>
    obtain ⟨o,f,ro,u⟩:=B
    cases o<;>exact ih _ h c
 | getObj r k ih=>
   intro h c
   have e:=fun c=>Sem.ar.eq_def (P:=P) (Sem.getObj r k) c h
   dsimp only at e
   rw [e,e,Sem.arity]
   generalize h.look r=q
   cases q with
   |none=>rfl
   |some B=>
    obtain ⟨o,f,ro,u⟩:=B
    cases o<;>first|rfl|exact ih _ h c
 | setObj r o k ih=>
   intro h c
   have e:=fun c=>Sem.ar.eq_def (P:=P) (Sem.setObj r o k) c h
   dsimp only at e
   rw [e,e,Sem.arity]
   generalize h.look r=q
   cases q with
   |none=>cases o<;>rfl
   |some B=>
    obtain ⟨o',f,ro,u⟩:=B
    cases o'<;>cases o<;>first|rfl|skip
    all_goals
     cases ro<;>first|rfl|exact ih _ c
 | choose q k ih=>
   intro h c
   have e:=fun c=>Sem.ar.eq_def (P:=P) (Sem.choose q k) c h
   have ea:=Sem.arity.eq_def (P:=P) (Sem.choose q k) h
   dsimp only at e ea
   rw [e,e,ea]
   by_cases hq:q.forced=true
   ·rw [if_pos hq,if_pos hq,if_pos hq];exact ih 0 h c
   ·rw [if_neg hq,if_neg hq,if_neg hq]
    cases q<;>first|rfl|skip
    show (k (c % _)).ar P none h=(k (c % _ % _)).ar P none h
    rw [Nat.mod_mod]
 | program k ih=>
   intro h c
   have e:=fun c=>Sem.ar.eq_def (P:=P) (Sem.program k) c h
   dsimp only at e
   rw [e,e,Sem.arity]
   exact ih P h c
 | _=>intro h c;rfl
def Ej(s:AS):Option Oper:=match s.fr.ret,s.fr.todo with
 | false,.region ops (i :: _) :: _=>match ops[i]? with
   |some o=>if Region.wanted o (yielded ops s.fr.tmps) && !bK o then some o else none
   |none=>none
 | _,_=>none
theorem Em{s:AS}{o:Oper}(ho:Ej s=some o)(c:Nat):aF P pl (some c) s=aF P pl (some (c % (execOp (ax s.fr.tmps) o).arity P s.h)) s:=by
 unfold Ej at ho
 split at ho
 · rename_i ops i l k hr ht
   split at ho
   ·rename_i o' hoi
    split at ho
    ·rename_i hc
     cases ho
     rw [Bool.and_eq_true,Bool.not_eq_true'] at hc
     unfold aF
     rw [hr,ht]
     dsimp only
     rw [hoi]
     dsimp only
     rw [if_pos hc.1,if_pos hc.1]
     congr 1
     unfold bf
     rw [hc.2]
     simp only [Bool.false_eq_true,if_false]
     rw [Zo]
    ·cases ho
   ·cases ho
 · cases ho
noncomputable section
def iL(P:Program)(pl:bH)(T:Tr TI)(Fu:Tr Func)(n:Nat):AS→Sum AS (Value×AH):=
 Nat.rec (fun s=>.inl s) (fun _ ih s=>Option.rec (match aF P pl none s with
   |some (.go s')=>ih s'
   |some (.ret v h)=>.inr (v,h)
   |none=>.inl s) ih (pX P T Fu s)) n
def tryAll(f:Nat→Option (List (Value×AH)))(m:Nat):Option (List (Value×AH)):=Nat.rec (some []) (fun c ih=>match f c with
 | some l=>match ih with
   |some m=>some (l ++ m)
   |none=>none
 | none=>none) m
def explore(P:Program)(pl:bH)(T:Tr TI)(Fu:Tr Func)(n d:Nat):AS→Option (List (Value×AH)):=
 Nat.rec (fun _=>none) (fun _ ih s=>match iL P pl T Fu n s with
   | .inr x=>some [x]
   | .inl s=>match Ej s with
    |some o=>bif Nat.beq ((execOp (ax s.fr.tmps) o).arity P s.h) 0 then none else tryAll (fun c=>match aF P pl (some c) s with
     |some (.go s')=>ih s'
     |_=>none) ((execOp (ax s.fr.tmps) o).arity P s.h)
    |none=>none) d
end
variable{T:Tr TI}{Fu:Tr Func}
theorem tV(K:aW P T)(KF:fZ P Fu){Q:Value→AH→Prop}:∀(n:Nat) {s:AS},(∀s',iL P pl T Fu n s = .inl s' → jW P pl Q s')→(∀v h,iL P pl T Fu n s = .inr (v,h)→Q v h)→jW P pl Q s
 | 0,s,h1,h2=>h1 s rfl
 | n+1,s,h1,h2=>by
   have hu:iL P pl T Fu (n+1) s=Option.rec (match aF P pl none s with
    |some (.go s')=>iL P pl T Fu n s'
    |some (.ret v h)=>.inr (v,h)
    |none=>.inl s) (iL P pl T Fu n) (pX P T Fu s):=rfl
   cases hf:pX P T Fu s with
   |some s₁=>
    rw [hf] at hu
    exact (qc K KF hf).all (tV K KF n (fun s' e=>h1 s' (hu.trans e)) fun v h e=>h2 v h (hu.trans e))
   |none=>
    rw [hf] at hu
    replace hu:iL P pl T Fu (n+1) s=(match aF P pl none s with
     |some (.go s')=>iL P pl T Fu n s'
     |some (.ret v h)=>.inr (v,h)
     |none=>.inl s):=hu
    cases ha:aF P pl none s with
    |none=>rw [ha] at hu;exact h1 s hu
    |some r=>
     rw [ha] at hu
     cases r with
     |go s₁=>exact .one ha (tV K KF n (fun s' e=>h1 s' (hu.trans e)) fun v h e=>h2 v h (hu.trans e))
     |ret v h=>exact .ret ha (h2 v h hu)
theorem y8{f:Nat→Option (List (Value×AH))}:∀(m:Nat) {L:List (Value×AH)},tryAll f m=some L→∀c,c < m→∃l,f c=some l∧∀x∈l,x∈L
 | 0,L,e,c,hc=>absurd hc (Nat.not_lt_zero _)
 | m+1,L,e,c,hc=>by
   replace e:(match f m with
    |some l=>match tryAll f m with
     |some m=>some (l ++ m)
     |none=>none
    |none=>none)=some L:=e
   split at e
   ·rename_i l hl
    split at e
    ·rename_i k hk
     cases e
     by_cases hcm:c=m
     ·subst hcm
      exact ⟨l,hl,fun x hx=>List.mem_append.2 (.inl hx)⟩
     ·obtain ⟨l',h1,h2⟩:=y8 m hk c (by omega)
      exact ⟨l',h1,fun x hx=>List.mem_append.2 (.inr (h2 x hx))⟩
    ·cases e
   ·cases e
theorem y9(K:aW P T)(KF:fZ P Fu){n:Nat}:∀(d:Nat) {s:AS} {L:List (Value×AH)},explore P pl T Fu n d s=some L→jW P pl (fun v h=>(v,h)∈L) s
 | 0,s,L,e=>by cases e
 | d+1,s,L,e=>by
   replace e:(match iL P pl T Fu n s with
    | .inr x=>some [x]
    | .inl s=>match Ej s with
     |some o=>bif Nat.beq ((execOp (ax s.fr.tmps) o).arity P s.h) 0 then none else tryAll (fun c=>match aF P pl (some c) s with
      |some (.go s')=>explore P pl T Fu n d s'
      |_=>none) ((execOp (ax s.fr.tmps) o).arity P s.h)
     |none=>none)=some L:=e
   refine tV K KF n (fun s₁ h₁=>?_) fun v h h₁=>?_
   ·rw [h₁] at e
    dsimp only at e
    split at e
    ·rename_i o ho
     cases hb:Nat.beq ((execOp (ax s₁.fr.tmps) o).arity P s₁.h) 0 with
     |true=>rw [hb] at e;cases e
     |false=>
     rw [hb] at e
     have hz:(execOp (ax s₁.fr.tmps) o).arity P s₁.h≠0:=fun h0=>by rw [h0] at hb;cases hb
     have all:∀c,∃s',aF P pl (some c) s₁=some (.go s')∧jW P pl (fun v h=>(v,h)∈L) s' :=by
      intro c
      have hm:=Em (P:=P) (pl:=pl) ho c
      obtain ⟨l,h1,h2⟩:=y8 _ e (c % (execOp (ax s₁.fr.tmps) o).arity P s₁.h) (Nat.mod_lt _ (Nat.pos_of_ne_zero hz))
      split at h1
      ·rename_i s' hs'
       exact ⟨s',hm.trans hs',(y9 K KF d h1).mono fun v h hx=>h2 _ hx⟩
      ·cases h1
     refine .step (fun c=>let ⟨s',h,_⟩:=all c;⟨_,h⟩) (fun c s' hs'=>?_) fun c v h hs'=>?_
     ·obtain ⟨s₂,h1,h2⟩:=all c
      rw [hs'] at h1
      cases h1
      exact h2
     ·obtain ⟨s₂,h1,h2⟩:=all c
      rw [hs'] at h1
      cases h1
    ·cases e
   ·rw [h₁] at e
    cases e
    exact List.mem_singleton.2 rfl
end
end Go.Am
namespace Go.Am
open Go.Ren (grow fK aN au Wk)
def AH.move(h:AH)(l:List Nat)(B:cZ):AH:=
 ⟨h.n+1,(h.forget l).tr.set h.n { B with dP:=B.dP.map fun _=>h.n },match B.dP with
   |none=>(h.forget l).bU
   |some _=>(h.forget l).bU.set h.n [h.n]⟩
def F5(h:AH)(b:Nat)(B:cZ)(l:List Nat):Bool:=l.all fun x=>x != b && match h.look x with
 | some X=>(match X.dP,B.dP with
   |some f,some g=>f != g
   |_,_=>true) && X.dP != some h.n
 | none=>true
section
variable{P:Program}{ρ σ:Env}{O D:Nat→Prop}{h h':AH}{w w':World}{b:Nat}{B:cZ}{l:List Nat}
theorem qf{h:AH}:∀(l:List Nat) {b:Nat} {B:cZ},(fF h l).get b=some B→b∈l
 | [],b,B,e=>by cases e
 | c :: l,b,B,e=>by
   unfold fF at e
   split at e
   ·rw [Tr.dK] at e
    split at e
    ·rename_i hb;subst hb;exact List.mem_cons_self
    ·exact List.mem_cons_of_mem _ (qf l e)
   ·exact List.mem_cons_of_mem _ (qf l e)
def Env.mv(ρ:Env)(b N:Nat):Env:=ρ.add N (ρ.to b) (ρ.aV b) (ρ.u b) (ρ.ext b)
theorem kz{x:Nat}{X:cZ}(k:(h.move l B).look x=some X):(x=h.n∧X={ B with dP:=B.dP.map fun _=>h.n })∨(x≠h.n∧(fF h l).get x=some X∧h.look x=some X):=by
 have ht:=fC k
 unfold AH.move at ht
 dsimp only at ht
 rw [Tr.dK] at ht
 split at ht
 · rename_i hx
   cases ht
   exact .inl ⟨hx,rfl⟩
 · rename_i hx
   exact .inr ⟨hx,ht,iG l ht⟩
theorem Rel.move(r:Rel ρ O D h w)(hb:h.look b=some B)(hc:∃c e f,B.obj = .cells c e f)(hbn:ρ.born b)(hok:F5 h b B l=true):Rel (ρ.mv b h.n) O D (h.move l B) w:=by
 have hnb:¬ρ.born h.n:=fun hx=>Nat.lt_irrefl _ (r.fresh _ hx)
 have hle:ρ.Le (ρ.mv b h.n):=Env.jl hnb
 have r1:Rel ρ O D (h.forget l) w:=r.forget l
 have hl:∀x X,(fF h l).get x=some X→x≠b∧(∀f,X.dP=some f→B.dP≠some f)∧X.dP≠some h.n:=by
   intro x X hx
   have hm:=qf l hx
   have hlook:=iG l hx
   have:=(List.all_eq_true.1 hok) x hm
   rw [hlook] at this
   simp only [Bool.and_eq_true,bne_iff_ne,ne_eq] at this
   obtain ⟨h1,h2,h3⟩:=this
   refine ⟨h1,fun f hf hB=>?_,h3⟩
   rw [hf,hB] at h2
   simp at h2
 have born:∀x,(ρ.mv b h.n).born x→x≠h.n→ρ.born x:=fun x hx hne=>hx.resolve_left hne
 obtain ⟨cc,ee,ff,jy⟩:=hc
 have old:∀f m,(h.move l B).bU.get f=some m→(f=h.n∧m=[h.n]∧∃g,B.dP=some g)∨(h.forget l).bU.get f=some m:=by
   intro f m hf
   unfold AH.move at hf
   dsimp only at hf
   cases hB:B.dP with
   |none=>rw [hB] at hf;exact .inr hf
   |some g=>
    rw [hB] at hf
    dsimp only at hf
    rw [Tr.dK] at hf
    split at hf
    ·rename_i e;cases hf;exact .inl ⟨e,rfl,g,hB ▸ rfl⟩
    ·exact .inr hf
 have up:∀x n,x≠h.n→(h.move l B).upTo (ρ.mv b h.n) x n→(h.forget l).upTo ρ x n:=by
   rintro x n hne ⟨X,c,e,f,h1,h2,h3⟩
   unfold AH.move at h1
   dsimp only at h1
   rw [Tr.dK,if_neg hne] at h1
   unfold Env.mv at h3
   rw [ai hne] at h3
   exact ⟨X,c,e,f,h1,h2,h3⟩
 refine ⟨fun x X c e f hx hk ho=>?_,fun x X hx hk ho=>?_,fun x X hx hk=>?_,fun x y X Y hx hy hk hk' hne hs=>?_,fun x hx=>?_,fun x hx=>?_,fun x X hx hk=>?_,fun f m hf=>?_,fun f m hf x hxm=>?_⟩
 · rcases kz hk with ⟨rfl,rfl⟩|⟨hne,_,hlk⟩
   ·obtain ⟨A,E,g,c1,c2,c3,c4,c5⟩:=r.cells b B c e f hbn hb ho
    unfold Env.mv
    rw [bV,tC]
    exact ⟨A,E,g,c1,c2,c3,fun hn=>c4 fun hp=>hn ⟨by rw [hp.1];rfl,hp.2.1,hp.2.2⟩,fun i v hv=>by obtain ⟨v',k1,k2⟩:=c5 i v hv;exact ⟨v',k1,k2.mono hle⟩⟩
   ·obtain ⟨A,E,g,c1,c2,c3,c4,c5⟩:=r.cells x X c e f (born x hx hne) hlk ho
    unfold Env.mv
    rw [ai hne,pR hne]
    exact ⟨A,E,g,c1,c2,c3,c4,fun i v hv=>by obtain ⟨v',k1,k2⟩:=c5 i v hv;exact ⟨v',k1,k2.mono hle⟩⟩
 · rcases kz hk with ⟨rfl,rfl⟩|⟨hne,_,hlk⟩
   ·exact absurd jy (ho _ _ _)
   ·obtain ⟨o1,o2,o3,o4⟩:=r.obj x X (born x hx hne) hlk ho
    unfold Env.mv
    rw [ai hne]
    exact ⟨o1,o2,o3,o4.mono hle⟩
 · rcases kz hk with ⟨rfl,rfl⟩|⟨hne,_,hlk⟩
   ·unfold Env.mv
    rw [bV]
    exact r.own b B hbn hb
   ·unfold Env.mv
    rw [ai hne]
    exact r.own x X (born x hx hne) hlk
 · rcases kz hk with ⟨rfl,rfl⟩|⟨hne1,agX,acO⟩
   ·rcases kz hk' with ⟨rfl,rfl⟩|⟨hne2,acP,hlk2⟩
    ·exact absurd rfl hne
    ·unfold Env.mv at hs
     rw [bV,ai hne2] at hs
     obtain ⟨h1,h2,h3⟩:=hl y Y acP
     rcases r.sep b y B Y hbn (born y hy hne2) hb hlk2 (fun e=>h1 e.symm) hs with ⟨f,g1,g2⟩|g
     ·exact absurd g1 (h2 f g2)
     ·exact .inr ⟨⟨by show Option.map _ B.dP=none;rw [g.1.1];rfl,g.1.2⟩,g.2⟩
   ·rcases kz hk' with ⟨rfl,rfl⟩|⟨hne2,acP,hlk2⟩
    ·unfold Env.mv at hs
     rw [bV,ai hne1] at hs
     obtain ⟨h1,h2,h3⟩:=hl x X agX
     rcases r.sep b x B X hbn (born x hx hne1) hb acO (fun e=>h1 e.symm) hs.symm with ⟨f,g1,g2⟩|g
     ·exact absurd g1 (h2 f g2)
     ·exact .inr ⟨g.2,⟨by show Option.map _ B.dP=none;rw [g.1.1];rfl,g.1.2⟩⟩
    ·unfold Env.mv at hs
     rw [ai hne1,ai hne2] at hs
     exact r.sep x y X Y (born x hx hne1) (born y hy hne2) acO hlk2 hne hs
 · rcases hx with rfl|hx
   ·exact Nat.lt_succ_self _
   ·exact Nat.lt_succ_of_lt (r.fresh x hx)
 · unfold Env.mv
   by_cases hne:x=h.n
   ·subst hne
    rw [bV]
    exact r.low b hbn
   ·rw [ai hne]
    exact r.low x (born x hx hne)
 · rcases kz hk with ⟨rfl,rfl⟩|⟨hne,_,hlk⟩
   ·obtain ⟨s1,s2⟩:=r.aV b B hbn hb
    unfold Env.mv
    rw [l9,Ib]
    cases hf:B.dP with
    |none=>rw [hf] at s1 s2;exact ⟨by simpa using s1,fun e=>absurd rfl e⟩
    |some f=>
     rw [hf] at s1 s2
     refine ⟨⟨fun _=>by simp,fun _=>s1.2 (by simp)⟩,fun _=>s2 (by simp)⟩
   ·unfold Env.mv
    rw [lH hne,vX hne]
    exact r.aV x X (born x hx hne) hlk
 · rcases old f m hf with ⟨rfl,rfl,g,hg⟩|hf'
   ·exact List.pairwise_singleton _ _
   ·have hm:=r1.mem f m hf'
    refine (r1.row f m hf').imp_of_mem fun {x y} hx hy hxy=>?_
    have nx:x≠h.n:=Nat.ne_of_lt (hm x hx).1
    have ny:y≠h.n:=Nat.ne_of_lt (hm y hy).1
    intro bx bY hs n n' u1 u2
    unfold Env.mv at hs
    rw [ai nx,ai ny] at hs
    exact hxy (born x bx nx) (born y bY ny) hs n n' (up x n nx u1) (up y n' ny u2)
 · rcases old f m hf with ⟨rfl,rfl,g,hg⟩|hf'
   ·have:=List.mem_singleton.1 hxm
    subst this
    refine ⟨Nat.lt_succ_self _,{ B with dP:=B.dP.map fun _=>h.n },?_,?_⟩
    ·unfold AH.move
     dsimp only
     rw [Tr.dK,if_pos rfl]
    ·dsimp only
     rw [hg]
     rfl
   ·obtain ⟨h1,X,h2,h3⟩:=r1.mem f m hf' x hxm
    have hne:x≠h.n:=Nat.ne_of_lt h1
    refine ⟨Nat.lt_succ_of_lt h1,X,?_,h3⟩
    unfold AH.move
    dsimp only
    rw [Tr.dK,if_neg hne]
    exact h2
end
end Go.Am
namespace Go.Am
open Go.Conc.Lib
open Go.Ren (grow fK aN au Wk At aC Keep full)
def vk(c:aB):Option (Array Oper×Nat×List Nat×List aK×Nat):=match c.todo with
 | .region ops (i :: rest) :: k=>match (ops[i]?).bind (·.dst) with
   |some d=>if d < c.tmps.size then some (ops,i,rest,k,d) else none
   |none=>none
 | _=>none
def Sv(h:AH)(len cap:Nat)(B:cZ)(l:List Nat)(x:Value×AH):Bool:=match x.1 with
 | .slice (some ⟨b,0,none⟩) n c=>n == len && c == cap && agree h x.2 l && match x.2.look b with
   |some B'=>FP B'.obj B.obj && B'.ro == B.ro && B'.u == B.u && (B'.dP.isSome == B.dP.isSome) && F5 x.2 b B' l
   |none=>false
 | _=>false
def nS(P:Program)(c:aB)(cs:List aB)(l:List Nat)(L:List (Value×AH)):Option AS:=match L with
 | (.slice (some ⟨b,0,none⟩) n cap,h) :: _=>match h.look b with
   |some B=>match B.obj with
    | .cells .. =>match vk c with
     |some (ops,i,rest,k,d)=>if L.all (Sv h n cap B l) then some ⟨{ c with tmps:=c.tmps.setIfInBounds d (.slice (some ⟨h.n,0,none⟩) n cap),todo:=.region ops rest :: k },cs,h.move l B⟩ else none
     |none=>none
    |_=>none
   |none=>none
 | _=>none
section
variable{P:Program}{ρ σ:Env}{O D:Nat→Prop}{F W U Z Z':Nat→Prop}{N:Nat}{h h':AH}{w w' w₀:World}{base cs:List Frame}{a a':aB}{f:Frame}{b:Nat}{B:cZ}{l:List Nat}{c:aB}{cs':List aB}{g:Goroutine}{pl:bH}{s s':AS}{m:Machine}{t:Trace}{aZ:Machine→Outcome→World→Trace→Prop}{L:WgLink}{T:Tr TI}{Fu:Tr Func}
theorem zf{ops:Array Oper}{i d:Nat}{rest:List Nat}{k:List aK}(e:vk c=some (ops,i,rest,k,d)):c.todo = .region ops (i :: rest) :: k∧(ops[i]?).bind (·.dst)=some d∧d < c.tmps.size:=by
 unfold vk at e
 split at e
 · rename_i ht
   split at e
   ·rename_i d' hd
    split at e
    ·rename_i hlt
     cases e
     exact ⟨ht,hd,hlt⟩
    ·cases e
   ·cases e
 · cases e
theorem IK{ops:Array Oper}{i d:Nat}{rest:List Nat}{k:List aK}(e:vk c=some (ops,i,rest,k,d))(h:AH)(v:Value):az P c h v=some { c with tmps:=c.tmps.setIfInBounds d v,todo:=.region ops rest :: k }:=by
 obtain ⟨h1,h2,h3⟩:=zf e
 unfold az
 rw [h1]
 dsimp only
 rw [h2]
 rfl
theorem Sz{a a':Array Value}{d:Nat}{v v':Value}(hle:ρ.Le σ)(hd:d < a.size)(h:AR (VR ρ) (a.setIfInBounds d v) a')(hv:∀y,VR ρ v y→VR σ v' y):AR (VR σ) (a.setIfInBounds d v') a' ∧ ∃y,a'[d]? = some y∧VR ρ v y:=by
 obtain ⟨h1,h2⟩:=h
 rw [Array.size_setIfInBounds] at h1
 have hget:∀u:Value,(a.setIfInBounds d u)[d]? = some u:=fun u=>by simp [hd]
 obtain ⟨y,hy⟩:∃y,a'[d]? = some y:=⟨a'[d]'(by omega),by simp [show d < a'.size by omega]⟩
 have hvy:=h2 d v y (hget v) hy
 refine ⟨⟨by rw [Array.size_setIfInBounds];exact h1,fun i x z hx hz=>?_⟩,y,hy,hvy⟩
 by_cases hi:i=d
 · subst hi
   rw [hget] at hx
   cases hx
   rw [hy] at hz
   cases hz
   exact hv _ hvy
 · rw [Array.getElem?_setIfInBounds_ne (Ne.symm hi)] at hx
   refine (h2 i x z ?_ hz).mono hle
   rw [Array.getElem?_setIfInBounds_ne (Ne.symm hi)]
   exact hx
theorem SA{n cap:Nat}{y:Value}(hv:VR ρ (.slice (some ⟨b,0,none⟩) n cap) y){N:Nat}:VR (ρ.mv b N) (.slice (some ⟨N,0,none⟩) n cap) y:=by
 cases hv with
 | @slice _ _ _ c' hb hc=>
   have e:(ρ.addr ⟨b,0,none⟩)=(ρ.mv b N).addr ⟨N,0,none⟩:=by
    unfold Env.addr Env.mv
    rw [bV]
   rw [e]
   refine .slice (.inl rfl) (hc.imp id fun ⟨h1,h2,h3⟩=>?_)
   unfold Env.mv
   dsimp only at h1 h3 ⊢
   rw [l9,Ib,tC]
   exact ⟨h1,h2,h3⟩
theorem lI.move{ops:Array Oper}{i d n cap:Nat}{rest:List Nat}{k:List aK}(hs:vk c=some (ops,i,rest,k,d))(hb:h.look b=some B)(hc:∃cc e f,B.obj = .cells cc e f)(hok:F5 h b B l=true)
   (S:lI P ρ O D base ⟨{ c with tmps:=c.tmps.setIfInBounds d (.slice (some ⟨b,0,none⟩) n cap),todo:=.region ops rest :: k },cs',h⟩ g w) :
   lI P (ρ.mv b h.n) O D base ⟨{ c with tmps:=c.tmps.setIfInBounds d (.slice (some ⟨h.n,0,none⟩) n cap),todo:=.region ops rest :: k },cs',h.move l B⟩ g w:=by
 obtain ⟨⟨lo,f,cs,h1,h2,h3,h4⟩,rel⟩:=S
 have hnb:¬ρ.born h.n:=fun hx=>Nat.lt_irrefl _ (rel.fresh _ hx)
 have hle:ρ.Le (ρ.mv b h.n):=Env.jl hnb
 have h0:=h3.f0 fun ops' l' k' e=>by cases e
 obtain ⟨r1,y,hy,hvy⟩:=Sz hle (zf hs).2.2 h0.tmps fun y hy=>SA (N:=h.n) hy
 have hbn:ρ.born b:=by cases hvy;assumption
 have hm:=h0.mono hle
 refine ⟨⟨lo,f,cs,Nat.le_succ_of_le h1,h2,.plain ⟨⟨hm.fn,hm.defers,hm.mode,hm.kind,hm.round⟩,r1,hm.todo⟩,h4.mono hle (fun x hx hb=>hb.resolve_left fun e=>?_) (Nat.le_refl _)⟩,rel.move hb hc hbn hok⟩
 subst e
 have h1':lo≤h.n:=h1
 omega
theorem Sd.move{ops:Array Oper}{i d n cap:Nat}{rest:List Nat}{k:List aK}(hs:vk c=some (ops,i,rest,k,d))(hb:h.look b=some B)(hc:∃cc e f,B.obj = .cells cc e f)(hok:F5 h b B l=true)
   (S:Sd P base F w₀ W U Z N ρ ⟨{ c with tmps:=c.tmps.setIfInBounds d (.slice (some ⟨b,0,none⟩) n cap),todo:=.region ops rest :: k },cs',h⟩ g w m t) :
   Sd P base F w₀ W U Z N (ρ.mv b h.n) ⟨{ c with tmps:=c.tmps.setIfInBounds d (.slice (some ⟨h.n,0,none⟩) n cap),todo:=.region ops rest :: k },cs',h.move l B⟩ g w m t:=
 ⟨⟨S.st.at_,S.st.JX.move hs hb hc hok,S.st.lt⟩,S.wu,S.fz,S.MW,S.keep⟩
theorem V9{b b':Nat}{B B':cZ}(h1:agree h h' l=true)(h2:B'.obj=B.obj)(h3:B'.ro=B.ro)(h4:B'.u=B.u)(h5:B'.dP.isSome=B.dP.isSome):h'.move l B' = h.move l B:=by
 have e1:=Af h1
 have e2:=wC h1
 unfold AH.move
 rw [←e1,←e2]
 obtain ⟨o,f,r,u⟩:=B
 obtain ⟨o',f',r',u'⟩:=B'
 dsimp only at h2 h3 h4 h5 ⊢
 subst h2 h3 h4
 cases f<;>cases f'<;>first|rfl|cases h5
end
end Go.Am
namespace Go.Am
open Go.Conc (born QuitsD G scase rcase)
open Go.Conc.Lib
open Go.ConcR (WgAt)
open Go.Ren (grow fK aN au Wk dM Idle ag X0 XS XM Lv fQ lD uV mM hearing mO vZ fU M1 Anch Spawns FH At aC Keep full Own Fr Dx)
def wL:List (Nat×cZ)→Tr cZ
 | []=>.nil
 | (b,B) :: l=>(wL l).set b B
def xW:List (Nat×List Nat)→Tr (List Nat)
 | []=>.nil
 | (f,m) :: l=>(xW l).set f m
def mQ:Code→List Nat→Code
 | c,[]=>c
 | .seq a b,i :: p=>match i with|0=>mQ a p|_=>mQ b p
 | .cond _ a b,i :: p=>match i with|0=>mQ a p|_=>mQ b p
 | .rangeFunc _ _ a b,i :: p=>match i with|0=>mQ a p|_=>mQ b p
 | .block _ b,_ :: p=>mQ b p
 | .loop b,_ :: p=>mQ b p
 | .scope b,_ :: p=>mQ b p
 | _,_=>.skip
def SB(Fu:Tr Func)(f:Nat):Code:=match Fu.get f with
 | some fn=>fn.body.getD .skip
 | none=>.skip
def acQ(Fu:Tr Func)(f:Nat)(p:List Nat):Array Oper:=match mQ (SB Fu f) p with
 | .region _ ops _=>ops
 | _=>#[]
noncomputable section
def stepS(P:Program)(pl:bH)(T:Tr TI)(Fu:Tr Func)(n:Nat)(l:List Nat)(s:AS):Option AS:=match iL P pl T Fu n s with
 | .inl s'=>if aH s'.fr then some ⟨s'.fr,s'.cs,s'.h.forget l⟩ else none
 | .inr _=>none
def SC(P:Program)(pl:bH)(T:Tr TI)(Fu:Tr Func)(n:Nat)(v:Value)(s:AS):Bool:=match iL P pl T Fu n s with
 | .inl _=>false
 | .inr x=>iR 9 x.1 v && iT 9 v
end
section
variable{P:Program}{ρ σ:Env}{F W U Z Z':Nat→Prop}{N:Nat}{h h':AH}{w w' w₀:World}{base cs:List Frame}{a a':aB}{f:Frame}{l:List Nat}{c:aB}{g:Goroutine}{pl:bH}{s s':AS}{m:Machine}{t:Trace}{aZ:Machine→Outcome→World→Trace→Prop}{L:WgLink}{T:Tr TI}{Fu:Tr Func}{ph:Ph}
 {gb cb cap nw nt nwt:Nat} {v:Value}
theorem jv(K:aW P T)(KF:fZ P Fu):∀(n:Nat) {s:AS},iL P pl T Fu n s = .inl s' → To P pl s' s
 | 0,s,e=>by cases e;exact .here rfl
 | n+1,s,e=>by
   have hu:iL P pl T Fu (n+1) s=Option.rec (match aF P pl none s with
    |some (.go s')=>iL P pl T Fu n s'
    |some (.ret v h)=>.inr (v,h)
    |none=>.inl s) (iL P pl T Fu n) (pX P T Fu s):=rfl
   rw [hu] at e
   cases hf:pX P T Fu s with
   |some s₁=>
    rw [hf] at e
    exact (qc K KF hf).bind fun s₂ h₂=>by subst h₂;exact jv K KF n e
   |none=>
    rw [hf] at e
    replace e:(match aF P pl none s with
     |some (.go s')=>iL P pl T Fu n s'
     |some (.ret v h)=>.inr (v,h)
     |none=>.inl s) = .inl s' :=e
    cases ha:aF P pl none s with
    |none=>rw [ha] at e;cases e;exact .here rfl
    |some r=>
     rw [ha] at e
     cases r with
     |go s₁=>exact .one ha (jv K KF n e)
     |ret v h=>cases e
theorem Px(K:aW P T)(KF:fZ P Fu){n:Nat}{x:Value×AH}(e:iL P pl T Fu n s = .inr x):jW P pl (fun v h=>(v,h)=x) s:=
 tV K KF n (fun s' e'=>by rw [e] at e';cases e') fun v h e'=>by rw [e] at e';cases e';rfl
theorem bg.step[aI P](K:aW P T)(KF:fZ P Fu){n:Nat}(e:stepS P pl T Fu n l s=some s')(S:bg P L base F w₀ ph s m t):aC P aZ (bg P L base F w₀ ph s') m t:=by
 unfold stepS at e
 split at e
 · rename_i s₁ h₁
   split at e
   ·rename_i hd
    cases e
    exact (S.reach (jv K KF n h₁)).mono fun m t S'=>S'.forget l hd
   ·cases e
 · cases e
theorem bg.last[aI P](K:aW P T)(KF:fZ P Fu){n:Nat}{b:Frame}{bs:List Frame}(e:SC P pl T Fu n v s=true)(S:bg P L (b :: bs) F w₀ ph s m t):aC P aZ (Back P b bs F w₀ v) m t:=by
 unfold SC at e
 split at e
 · cases e
 · rename_i x hr
   rw [Bool.and_eq_true] at e
   have hv:=gB _ _ _ e.1
   obtain ⟨W,U,Z,N,ρ,g,w,S,hp⟩:=S
   refine (Go.Ren.At.wk2 (Nr (X:=X0) (I:=fun _=>True) (m:=true) (Px K KF hr) S.st.JX) S.st.lt rfl S.st.at_).mono ?_
   rintro m t ⟨g',w',hat,⟨σ,v'',h,u,hx,k1,k2,rfl,k3⟩,hk⟩
   have hvv:v'' = v:=by rw [←hv,←hx]
   subst hvv
   have hu:=(gm e.2).eq k2
   subst hu
   exact ⟨W,U,Z,N,w',hat,S.wu,S.fz,S.MW,S.Ik hk,hk.lt S.st.lt⟩
end
end Go.Am
namespace Go.Am
open Go.Conc (born QuitsD G scase rcase)
open Go.Conc.Lib
open Go.ConcR (WgAt)
open Go.Ren (grow fK aN au Wk dM Idle ag X0 XS XM Lv fQ lD uV mM hearing mO vZ fU M1 Anch Spawns FH At aC Keep full Own Fr Dx)
def cZ.own(B:cZ):cZ:={ B with ro:=match B.dP with|none=>Nat.beq B.u 1|some _=>false }
def AH.kQ(h:AH):AH:={ h with tr:=h.tr.map cZ.own }
section
variable{P:Program}{ρ σ:Env}{O O' D:Nat→Prop}{F W U Z Z':Nat→Prop}{N:Nat}{h h':AH}{w w' w₀:World}{mm:Bool}{base cs:List Frame}{s s' s₀:AS}{pl:bH}{g g':Goroutine}
 {L:WgLink} {m:Machine} {t:Trace} {ph:Ph}
theorem rE(b:Nat):h.kQ.tr.get b=(h.tr.get b).map cZ.own:=Tr.get_map _ _ _
theorem DC{b:Nat}:h.kQ.look b=(h.look b).map cZ.own:=by
 unfold AH.look
 rw [rE]
 cases h.tr.get b with
 | none=>rfl
 | some B=>
   obtain ⟨o,dP,ro,u⟩:=B
   cases dP with
   |none=>rfl
   |some f=>
    simp only [Option.map_some]
    show (if ((h.bU.get f).getD []).contains b then _ else _)=_
    split<;>rfl
theorem Rel.F6(r:Rel ρ O (fun _=>False) h w):Rel ρ O (fun _=>False) h.kQ w:=by
 have lk:∀b B',h.kQ.look b=some B' → ∃B,h.look b=some B∧B'.obj=B.obj∧B'.dP=B.dP∧B'.u=B.u∧(B.Q8→B'.Q8):=by
   intro b B' hk
   rw [DC] at hk
   simp only [Option.map_eq_some_iff] at hk
   obtain ⟨B,k1,rfl⟩:=hk
   refine ⟨B,k1,rfl,rfl,rfl,fun ⟨p1,p2,p3⟩=>⟨p1,?_,p3⟩⟩
   show (match B.dP with|none=>Nat.beq B.u 1|some _=>false)=true
   rw [p1,p3]
   rfl
 have up:∀b n,h.kQ.upTo ρ b n→h.upTo ρ b n:=by
   rintro b n ⟨B',c,e,f,h1,h2,h3⟩
   rw [rE] at h1
   simp only [Option.map_eq_some_iff] at h1
   obtain ⟨B,k1,rfl⟩:=h1
   exact ⟨B,c,e,f,k1,h2,h3⟩
 refine ⟨fun b B c e f hb hk ho=>?_,fun b B hb hk ho=>?_,fun b B hb hk=>?_,fun b b' B B' hb hb' hk hk' hne hs=>?_,r.fresh,r.low,fun b B hb hk=>?_,fun f l hfl=>?_,fun f l hfl b hb=>?_⟩
 · obtain ⟨bT,k1,k2,k3,k4,k5⟩:=lk b B hk
   obtain ⟨C,E,g,c1,c2,c3,c4,c5⟩:=r.cells b bT c e f hb k1 (k2 ▸ ho)
   exact ⟨C,E,g,c1,c2,c3,fun hn=>c4 fun hp=>hn (k5 hp),c5⟩
 · obtain ⟨bT,k1,k2,k3,k4,_⟩:=lk b B hk
   obtain ⟨o1,o',o2,o3⟩:=r.obj b bT hb k1 (k2 ▸ ho)
   exact ⟨o1,o',o2,by rw [k2];exact o3⟩
 · obtain ⟨bT,k1,k2,k3,k4,_⟩:=lk b B hk
   have hO:=(r.own b bT hb k1).2.resolve_right id
   exact ⟨fun _=>hO,.inl hO⟩
 · obtain ⟨bT,k1,_,k3,_,k5⟩:=lk b B hk
   obtain ⟨Fz,j1,_,j3,_,j5⟩:=lk b' B' hk'
   rcases r.sep b b' bT Fz hb hb' k1 j1 hne hs with ⟨f,g1,g2⟩|⟨g1,g2⟩
   ·exact .inl ⟨f,k3.trans g1,j3.trans g2⟩
   ·exact .inr ⟨k5 g1,j5 g2⟩
 · obtain ⟨bT,k1,_,k3,k4,_⟩:=lk b B hk
   obtain ⟨s1,s2⟩:=r.aV b bT hb k1
   exact ⟨s1.trans (by rw [k3]),fun z=>(s2 (k3 ▸ z)).trans k4.symm⟩
 · exact (r.row f l hfl).imp fun hp b1 b2 hs n n' u1 u2=>hp b1 b2 hs n n' (up _ _ u1) (up _ _ u2)
 · obtain ⟨m1,B,m2,m3⟩:=r.mem f l hfl b hb
   exact ⟨m1,B.own,by rw [rE,m2];rfl,m3⟩
theorem Sd.F6(S:Sd P base F w₀ W U Z N ρ s g w m t)(hd:aH s.fr=true):Sd P base F w₀ W U Z N ρ ⟨s.fr,s.cs,s.h.kQ⟩ g w m t:=by
 refine ⟨⟨S.st.at_,?_,S.st.lt⟩,S.wu,S.fz,S.MW,S.keep⟩
 obtain ⟨⟨lo,f,cs,h1,h2,h3,h4⟩,rel⟩:=S.st.JX
 refine ⟨⟨lo,f,cs,h1,h2,.plain (h3.f0 fun ops l k e=>?_),h4⟩,rel.F6⟩
 unfold aH at hd
 rw [e] at hd
 cases hd
end
end Go.Am
namespace Go.Am
open Go.Conc.Lib
open Go.Ren (grow fK aN au Wk At aC Keep full)
noncomputable section
def gW(P:Program)(pl:bH)(T:Tr TI)(Fu:Tr Func)(n d:Nat)(mv:Bool)(l:List Nat)(i:Nat)(s:AS):Option AS:=match s.cs with
 | c :: cs=>match aF P pl (some i) ⟨s.fr,[],s.h⟩ with
   |some (.go s₁)=>match explore P pl T Fu n d s₁ with
    |some L=>bif mv then nS P c cs l L else merge P c cs l L
    |none=>none
   |_=>none
 | []=>none
def xX(P:Program)(s:AS):Option Nat:=match Ej ⟨s.fr,[],s.h⟩ with
 | some o=>some ((execOp (ax s.fr.tmps) o).arity P s.h)
 | none=>none
end
section
variable{P:Program}{ρ σ:Env}{F W U Z:Nat→Prop}{w₀:World}{base:List Frame}{s s':AS}{pl:bH}{c:aB}{cs':List aB}{l:List Nat}
 {L:WgLink} {m:Machine} {t:Trace} {aZ:Machine→Outcome→World→Trace→Prop} {T:Tr TI} {Fu:Tr Func}
theorem F7{Lx:List (Value×AH)}(hm:nS P c cs' l Lx=some s'):∃ops i rest k d,vk c=some (ops,i,rest,k,d):=by
 unfold nS at hm
 split at hm
 · split at hm
   ·split at hm
    ·split at hm
     ·rename_i ops i rest k d' hs
      exact ⟨_,_,_,_,_,hs⟩
     ·cases hm
    ·cases hm
   ·cases hm
 · cases hm
theorem bg.We[aI P]{ph:Ph}(hcs:s.cs=c :: cs')(hq:jW P pl (fun v h=>∃Lx,(v,h)∈Lx∧(merge P c cs' l Lx=some s' ∨ nS P c cs' l Lx=some s')) ⟨s.fr,[],s.h⟩)(S:bg P L base F w₀ ph s m t) :
   aC P aZ (bg P L base F w₀ .idle s') m t:=by
 obtain ⟨W,U,Z,N,ρ,g,w,S,hp⟩:=S
 have S':Sd P base F w₀ W U Z N ρ ⟨s.fr,[] ++ c :: cs',s.h⟩ g w m t:=by
   obtain ⟨fr,ss,hh⟩:=s
   dsimp only at hcs
   subst hcs
   exact S
 have hr:=jW.under (c:=c) (cs:=cs') (K:=fun s₁=>∃x Lx,x∈Lx∧(merge P c cs' l Lx=some s' ∨ nS P c cs' l Lx=some s')∧∃a,az P c x.2 x.1=some a∧s₁=⟨a,cs',x.2⟩) hq fun v h hv=>by
   obtain ⟨Lx,hv,hm⟩:=hv
   have ha:∃a,az P c h v=some a:=by
    rcases hm with hm|hm
    ·obtain ⟨a,h1,_⟩:=Bc hm _ hv
     exact ⟨a,h1⟩
    ·obtain ⟨ops,i,rest,k,d',hs⟩:=F7 hm
     exact ⟨_,IK hs h v⟩
   obtain ⟨a,ha⟩:=ha
   exact ⟨a,ha,.here ⟨(v,h),Lx,hv,hm,a,ha,rfl⟩⟩
 refine (S'.reach hr).mono ?_
 rintro m t ⟨τ,s₁,g',w',⟨x,Lx,hxm,hm,a,ha,rfl⟩,k1,k2,k3⟩
 rcases hm with hm|hm
 · obtain ⟨a',h1,h2,h3⟩:=Bc hm x hxm
   rw [ha] at h1
   cases h1
   rw [h3]
   exact ⟨_,_,_,_,_,_,_,k2.forget l h2,trivial⟩
 · unfold nS at hm
   split at hm
   ·rename_i b n' cap h₁ rest₁
    split at hm
    ·rename_i B hB
     split at hm
     ·rename_i cc e f jy
      split at hm
      ·rename_i ops i rest k d' hs
       split at hm
       ·rename_i hall
        cases hm
        rw [IK hs] at ha
        cases ha
        have hsame:=(List.all_eq_true.1 hall) x hxm
        unfold Sv at hsame
        split at hsame
        ·rename_i b' n₂ c₂ hx1
         simp only [Bool.and_eq_true,beq_iff_eq] at hsame
         obtain ⟨⟨⟨rfl,rfl⟩,hag⟩,hlk⟩:=hsame
         split at hlk
         ·rename_i B' hB'
          simp only [Bool.and_eq_true,beq_iff_eq] at hlk
          obtain ⟨⟨⟨⟨q1,q2⟩,q3⟩,q4⟩,q5⟩:=hlk
          have q1' :=D9 q1
          rw [hx1] at k2
          have k4:=k2.move (l:=l) hs hB' ⟨cc,e,f,q1'.trans jy⟩ q5
          rw [V9 (b:=b) (b' :=b') hag q1' q2 q3 q4,←Af hag] at k4
          exact ⟨_,_,_,_,_,_,_,k4,trivial⟩
         ·cases hlk
        ·cases hsame
       ·cases hm
      ·cases hm
     ·cases hm
    ·cases hm
   ·cases hm
theorem bg.parts[aI P](K:aW P T)(KF:fZ P Fu){ph:Ph}{n d q:Nat}{mv:Bool}(hq:xX P s=some q)(h0:q≠0)(hp:∀i,i < q→gW P pl T Fu n d mv l i s=some s')(S:bg P L base F w₀ ph s m t) :
   aC P aZ (bg P L base F w₀ .idle s') m t:=by
 unfold xX at hq
 split at hq
 rotate_left
 · cases hq
 rename_i o ho
 cases hq
 have hcs:∃c cs',s.cs=c :: cs' :=by
   have:=hp 0 (Nat.pos_of_ne_zero h0)
   unfold gW at this
   split at this
   ·exact ⟨_,_,by assumption⟩
   ·cases this
 obtain ⟨c,cs',hcs⟩:=hcs
 refine S.We (pl:=pl) (l:=l) (s' :=s') hcs ?_
 have part:∀i,i < (execOp (ax s.fr.tmps) o).arity P s.h→∃s₁,aF P pl (some i) ⟨s.fr,[],s.h⟩=some (.go s₁)∧jW P pl (fun v h=>∃Lx,(v,h)∈Lx∧(merge P c cs' l Lx=some s' ∨ nS P c cs' l Lx=some s')) s₁:=by
   intro i hi
   have:=hp i hi
   unfold gW at this
   rw [hcs] at this
   dsimp only at this
   split at this
   ·rename_i s₁ hs
    split at this
    ·rename_i Lx hx
     refine ⟨s₁,hs,(y9 K KF d hx).mono fun v h hv=>⟨Lx,hv,?_⟩⟩
     cases mv with
     |false=>exact .inl this
     |true=>exact .inr this
    ·cases this
   ·cases this
 have all:∀i,∃s₁,aF P pl (some i) ⟨s.fr,[],s.h⟩=some (.go s₁)∧jW P pl (fun v h=>∃Lx,(v,h)∈Lx∧(merge P c cs' l Lx=some s' ∨ nS P c cs' l Lx=some s')) s₁:=by
   intro i
   have hm:=Em (P:=P) (pl:=pl) ho i
   obtain ⟨s₁,h1,h2⟩:=part _ (Nat.mod_lt i (Nat.pos_of_ne_zero h0))
   exact ⟨s₁,hm.trans h1,h2⟩
 refine .step (fun i=>let ⟨s₁,h,_⟩:=all i;⟨_,h⟩) (fun i s₁ hs=>?_) fun i v h hs=>?_
 · obtain ⟨s₂,h1,h2⟩:=all i
   rw [hs] at h1
   cases h1
   exact h2
 · obtain ⟨s₂,h1,h2⟩:=all i
   rw [hs] at h1
   cases h1
end
end Go.Am
namespace Go.Am
open Go.Conc.Lib
open Go.Ren (grow fK aN au Wk At aC Keep full)
noncomputable section
def allB(f:Nat→Bool)(m:Nat):Bool:=Nat.rec true (fun c ih=>f c && ih) m
end
end Go.Am
namespace Go.Am
open Go.Conc.Lib
open Go.ConcR (WgAt)
open Go.Ren (grow fK aN au Wk At aC Keep full)
noncomputable section
def goS(P:Program)(s:AS):Option (AS×AS):=match opAt s with
 | some o=>match o.op with
   | .go c=>match c.callee with
    | .value x=>match ax s.fr.tmps x with
     | .func (.func fid) first cap=>if bQ P fid && s.fr.round.isNone then
       match Il P s s.h.shared undef with
       |some s'=>some (⟨{ aB.enter P fid ((first ++ c.args.map (ax s.fr.tmps)) ++ cap) with dk:=true },[],s.h.shared⟩,s')
       |none=>none
      else none
     |_=>none
    |_=>none
   |_=>none
 | none=>none
def aU(P:Program)(pl:bH)(L:WgLink)(gb n₁ n₂:Nat)(s:AS):Option (AS×AS):=match xY P pl n₁ s with
 | some (.go s₁)=>match MZ P L.add #[.pointer (some ⟨gb,0,none⟩),.int .i64 1] s₁ with
   |some s₂=>match xY P pl n₂ s₂ with
    |some (.go s₃)=>goS P s₃
    |_=>none
   |none=>none
 | _=>none
def Ye(P:Program)(pl:bH)(L:WgLink)(gb n:Nat)(s:AS):Option AS:=match xY P pl n s with
 | some (.go s₁)=>MZ P L.wait #[.pointer (some ⟨gb,0,none⟩)] s₁
 | _=>none
end
end Go.Am
