import Derived.Conc.MuLib
import Derived.Test.YtjgfemidkffdjaaGreatH14
import Derived.Test.YtjgfemidkffdjaaGreatH15
set_option linter.all false
namespace Go.Am
section
variable{P:Program}{T:Tr TI}{p:Tr Func}{pl:bI}{g:List Value}{h w:AH}{o:Oper}{v:Value}{x:Operand}{c:Ctx}{s j:AS}{k:List aV}{ops:Array Oper}{i:Nat}{l:List Nat}{next:K}
theorem NC{a b:Code}{d f:K}(n:bU P pl (.code a::k) d)(q:bU P pl (.code b::k) f)(x:Operand):bU P pl (.code (.cond x a b)::k) (Xq d f x):=by
 intro c g h j e;unfold Xq at e;split at e
 ·rename_i t;split at e
  ·rename_i u r;have y:ay ⟨g⟩ (.tmp t)=.bool u:=CO _ _ r
   have m:aI P pl none (mk (.code (.cond (.tmp t) a b)::k) c g h)=some (.go (mk (.code (if u then a else b)::k) c g h)):=by
    unfold aI mk;dsimp only
    rw[if_pos (show IA (.tmp t)=true from rfl),y];rfl
   cases u with
   |true=>exact .one m (n c g h j e)
   |false=>exact .one m (q c g h j e)
  ·cases e
 ·cases e
theorem UI:bU P pl (.code .ret::k) (aer k):=by
 intro c g h j e;unfold aer at e;split at e
 ·rename_i b;cases e;refine .one (s₁:=⟨⟨c.fn,⟨g⟩,.code .ret::k,c.defers,true,none,c.dk⟩,c.cs,h⟩) ?_ (.here rfl);unfold aI mk pK;dsimp only
  rw[b]
 ·cases e
theorem ND{id:Nat}:bU P pl (.code (.exit id)::k) (XE id k):=by
 intro c g h j e;unfold XE at e;split at e
 ·rename_i b d;cases e;refine .one (s₁:=mk b c g h) ?_ (.here rfl);unfold aI mk;dsimp only
  rw[d];rfl
 ·cases e
theorem Aj(K:aZ P T)(KF:gq P p):∀(x:Code) (k:List aV),bU P pl (.code x::k) (codeF P T p x k):=by
 intro x;induction x with
 |skip=>exact fun k=>fZ (fun c g h=>rfl) (sK k)
 |region id ops d=>
  intro k;cases d with
  |false=>
   have:=vY (pl:=pl) (ops:=ops) (k:=k) K KF (List.range ops.toList.length) false
   exact fZ (fun c g h=>rfl) this
  |true=>exact kz _
 |seq a b e f=>exact fun k=>fZ (fun c g h=>rfl) (e (.code b::k))
 |cond x a b e f=>exact fun k=>NC (e k) (f k) x
 |block id b m=>exact fun k=>fZ (fun c g h=>rfl) (m (.inBlock id::k))
 |loop b m=>exact fun k=>fZ (fun c g h=>rfl) (m (.inLoop b::k))
 |exit id=>exact fun k=>ND
 |ret=>exact fun k=>UI
 |goto _=>exact fun k=>kz _
 |label _=>exact fun k=>kz _
 |scope _ _=>exact fun k=>kz _
 |rangeFunc _ _ _ _ _ _=>exact fun k=>kz _
 |refuse _=>exact fun k=>kz _
theorem KQ(K:aZ P T)(KF:gq P p)(x:aV)(k:List aV):bU P pl (x::k) (adl P T p x k):=by
 cases x with
 |code x=>exact Aj K KF x k
 |inBlock id=>exact fZ (fun c g h=>rfl) (sK k)
 |inLoop b=>exact fZ (fun c g h=>rfl) (Aj K KF b (.inLoop b::k))
 |inScope b=>exact fZ (fun c g h=>rfl) (sK k)
 |region ops l=>exact vY K KF l true
 |drawn ops l=>exact nC K KF l true
 |inRangeFunc l=>exact kz _
 |endRangeFunc l=>exact kz _
 |beginRound=>exact kz _
def aes(g:List Value)(r:ResultVar):Value:=match r with
 | .tmp t=>(Array.mk g).getD t undef
 |_=>undef
theorem Gz:∀(b:List ResultVar) {l:List Value},abo g b=some l->(∀r∈b,∃t,r=.tmp t)/\b.map (aes g)=l
 | [],l,e=>by cases e;exact⟨fun r d=>(by cases d),rfl⟩
 | .cell a t::b,l,e=>by cases e
 | .tmp t::b,l,e=>by
  replace e:(match nth g t with
    |some v=>match abo g b with
     |some m=>some (v::m)
     |none=>none
    |none=>none)=some l:=e
  split at e
  ·rename_i v f;split at e
   ·rename_i m n;cases e;obtain⟨q,u⟩:=Gz b n
    refine⟨fun r d=>?_,?_⟩
    ·rcases List.mem_cons.1 d with rfl|d
     ·exact⟨t,rfl⟩
     ·exact q r d
    ·rw[List.map_cons,u];unfold aes;dsimp only
     rw[CO _ _ f]
   ·cases e
  ·cases e
theorem Dh{d:Func}{l:List Value}(e:abo g d.results.toList=some l):(results d ⟨g⟩).ar P none h=some (resV l,h):=by
 obtain⟨q,y⟩:=Gz _ e
 have z:∀(f:ResultVar->Sem Value),(∀t,f (.tmp t)=Pure.pure ((Array.mk g).getD t undef))->∀(b:List ResultVar) (m:List Value),(∀r∈b,∃t,r=.tmp t)->b.map (aes g)=m->(b.mapM f).ar P none h=some (m,h):=by
  intro f A b;induction b with
  |nil=>intro m _ e;cases e;rfl
  |cons r b B=>
   intro m n e;obtain⟨t,rfl⟩:=n _ List.mem_cons_self
   rw[List.map_cons]at e;subst e;rw[List.mapM_cons,A,mM (Xr _),mM (B _ (fun r w=>n r (List.mem_cons_of_mem _ w)) rfl)];rfl
 unfold results;rw[Array.mapM_eq_mapM_toList];have C:∀(X:Sem (List Value)),X.ar P none h=some (l,h)->(Functor.map List.toArray X).ar P none h=some (l.toArray,h):=by
  intro X D;show(X>>=fun a=>(Pure.pure a.toArray:Sem (Array Value))).ar P none h=_
  rw[mM D];rfl
 rw[mM (C _ (z _ (fun t=>by rfl) d.results.toList l q y))];show some (_,h)=_
 match l with
 | []=>rfl
 | [v]=>rfl
 |u::v::l=>rfl
theorem NF{d:aN}{z:List aN}(K:aZ P T)(KF:gq P p)(e:XG T p (d::z) h c.fn ⟨g⟩ c.defers c.dk=some j):aI P pl none ⟨⟨c.fn,⟨g⟩,k,c.defers,true,c.round,c.dk⟩,d::z,h⟩=some (.go j):=by
 unfold XG at e;split at e
 ·rename_i hd;split at e
  ·rename_i C;dsimp only at e;split at e
   ·rename_i R H;split at e
    ·rename_i l M;obtain⟨N,U⟩:=KF.get _ _ H
     obtain⟨q,a,A,b,n,f,r⟩:=d
     replace e:XF T h z q a A b n f r (resV l)=some j:=e
     unfold XF at e;split at e
     ·rename_i ops i rest D;split at e
      ·rename_i o E;rw[ja]at E;have u:ops[i]?=some o:=by simpa using E
       have y:aI P pl none ⟨⟨c.fn,⟨g⟩,k,c.defers,true,c.round,c.dk⟩,⟨q,a,.region ops (i::rest)::D,b,n,f,r⟩::z,h⟩=some (.go ⟨⟨q,dP a o.dst (resV l),.region ops rest::D,b,n,f,r⟩,z,h⟩):=by
        unfold aI o7;dsimp only
        rw[hd];dsimp only
        rw[N];dsimp only
        rw[Dh M,C];unfold vg aA;dsimp only
        rw[u];rfl
       rw[y];split at e
       ·rename_i t m;rw[ku]at e;cases e;rw[m];have O:dP a (some t) (resV l)=⟨a.toList.set t (resV l)⟩:=by
         unfold dP;apply Array.ext';simp
        rw[O]
       ·rename_i m;cases e;rw[m];rfl
      ·cases e
     ·rename_i ops i again rest D;split at e
      ·rename_i o E;rw[ja]at E;have u:ops[i]?=some o:=by simpa using E
       split at e
       ·rename_i J;have y:∀F:Array Value,dP a o.dst (resV l)=F->recheck P ops again F h=true->aI P pl none ⟨⟨c.fn,⟨g⟩,k,c.defers,true,c.round,c.dk⟩,⟨q,a,.drawn ops ((i,again)::rest)::D,b,n,f,r⟩::z,h⟩=some (.go ⟨⟨q,F,.drawn ops rest::D,b,n,f,r⟩,z,h⟩):=by
         intro F Q L;unfold aI o7;dsimp only
         rw[hd];dsimp only
         rw[N];dsimp only
         rw[Dh M,C];unfold vg aA;dsimp only
         rw[Ny u J,KP u,Q];simp only[Bool.false_eq_true,if_false]
         rw[if_pos ⟨trivial,L⟩];rfl
        split at e
        ·rename_i t m;rw[ku]at e;cases B:reF T (a.toList.set t (resV l)) h ops again with
         |false=>rw[B]at e;cases e
         |true=>rw[B]at e;cases e;refine y _ ?_ (qf K _ B);rw[m];unfold dP;apply Array.ext';simp
        ·rename_i m;cases B:reF T a.toList h ops again with
         |false=>rw[B]at e;cases e
         |true=>rw[B]at e;cases e;exact y _ (by rw[m];rfl) (qf K _ B)
       ·cases e
      ·cases e
     ·cases e
    ·cases e
   ·cases e
  ·cases e
 ·cases e
theorem qM(K:aZ P T)(KF:gq P p)(e:qK P T p s=some j):To P pl j s:=by
 obtain⟨⟨f,⟨g⟩,a,defers,m,round,n⟩,b,h⟩:=s
 cases m with
 |false=>
  cases a with
  |nil=>cases e
  |cons x k=>exact KQ K KF x k ⟨f,defers,round,n,b⟩ g h j e
 |true=>
  cases b with
  |nil=>
   replace e:XG T p [] h f ⟨g⟩ defers n=some j:=e
   unfold XG at e;split at e
   ·split at e<;>cases e
   ·cases e
  |cons d b=>exact .one (NF (c:=⟨f,defers,round,n,b⟩) (k:=a) K KF e) (.here rfl)
theorem sO(K:aZ P T)(KF:gq P p):∀(n:Nat) {s:AS},CY P pl T p n s=some (.go j)->To P pl j s
 |0,s,e=>by cases e;exact .here rfl
 |n+1,s,e=>by
  replace e:Option.rec (RQ P pl s (CY P pl T p n)) (CY P pl T p n) (qK P T p s)=some (.go j):=e
  cases f:qK P T p s with
  |some a=>rw[f]at e;exact(qM K KF f).bind fun m b=>by subst b;exact sO K KF n e
  |none=>
   rw[f]at e;replace e:RQ P pl s (CY P pl T p n)=some (.go j):=e
   unfold RQ at e;split at e
   ·rename_i a d;exact .one d (sO K KF n e)
   ·rename_i q;exact absurd e (q j)
theorem To.all{Q:Value->AH->Prop}(k:To P pl j s)(q:jC P pl Q j):jC P pl Q s:=by
 induction k with
 |here h=>exact h▸q
 |step b f m=>exact .step (fun c=>let⟨j,h⟩:=b c;⟨_,h⟩) (fun c a e=>m c a e) (fun c v h e=>by obtain⟨a,d⟩:=b c;rw[d]at e;cases e)
end
end Go.Am
namespace Go.Am
open Go.Ren (grow gU aT aB Wk)
def _root_.Go.Sem.arity{b:Type}(P:Program):Sem b->AH->Nat
 | .load _ a k,h=>match h.cell a with
  |some v=>(k v).arity P h
  |none=>1
 | .store _ a v k,h=>match h.setCell a v with
  |some c=>k.arity P c
  |none=>1
 | .new o k,h=>(k h.n).arity P (h.new o)
 | .shape r k,h=>match h.look r with
  |some {obj:=.cells l e _,..}=>(k (some (e,l.size))).arity P h
  |some _=>(k none).arity P h
  |none=>1
 | .getObj r k,h=>match h.look r with
  |some B=>(k B.obj).arity P h
  |none=>1
 | .setObj r o k,h=>match h.look r with
  |some B=>k.arity P (h.put r B o)
  |none=>1
 | .choose q k,h=>if q.forced then(k 0).arity P h else match q with
  | .mapNext n=>n
  |_=>1
 | .program k,h=>(k P).arity P h
 |_,_=>1
section
variable{P:Program}{pl:bI}
theorem aet{j:Type}(s:Sem j):∀(h:AH) (c:Nat),s.ar P (some c) h=s.ar P (some (c%s.arity P h)) h:=by
 induction s with
 |load m a k b=>
  intro h c;have e:=fun c=>Sem.ar.eq_def (P:=P) (Sem.load m a k) c h
  dsimp only at e;rw[e,e,Sem.arity];generalize h.cell a=q
  cases q with
  |none=>rfl
  |some v=>
   cases m with
   |plain=>exact b v h c
   |atomic=>rfl
 |store m a v k b=>
  intro h c;have e:=fun c=>Sem.ar.eq_def (P:=P) (Sem.store m a v k) c h
  dsimp only at e;rw[e,e,Sem.arity];cases v<;>cases m<;>first|rfl|skip
  all_goals
   dsimp only
   generalize h.setCell a _=q
   cases q with
   |none=>rfl
   |some l=>exact b l c
 |new o k b=>
  intro h c;have e:=fun c=>Sem.ar.eq_def (P:=P) (Sem.new o k) c h
  dsimp only at e;rw[e,e,Sem.arity];split<;>first|rfl|exact b _ _ c
 |shape r k b=>
  intro h c;have e:=fun c=>Sem.ar.eq_def (P:=P) (Sem.shape r k) c h
  dsimp only at e;rw[e,e,Sem.arity];generalize h.look r=q
  cases q with
  |none=>rfl
  |some B=>
   obtain⟨o,f,g,u⟩:=B
   cases o<;>exact b _ h c
 |getObj r k b=>
  intro h c;have e:=fun c=>Sem.ar.eq_def (P:=P) (Sem.getObj r k) c h
  dsimp only at e;rw[e,e,Sem.arity];generalize h.look r=q
  cases q with
  |none=>rfl
  |some B=>
   obtain⟨o,f,g,u⟩:=B
   cases o<;>first|rfl|exact b _ h c
 |setObj r o k b=>
  intro h c;have e:=fun c=>Sem.ar.eq_def (P:=P) (Sem.setObj r o k) c h
  dsimp only at e;rw[e,e,Sem.arity];generalize h.look r=q
  cases q with
  |none=>cases o<;>rfl
  |some B=>
   obtain⟨n,f,g,u⟩:=B
   cases n<;>cases o<;>first|rfl|skip
   all_goals
    cases g<;>first|rfl|exact b _ c
 |choose q k b=>
  intro h c;have e:=fun c=>Sem.ar.eq_def (P:=P) (Sem.choose q k) c h
  have i:=Sem.arity.eq_def (P:=P) (Sem.choose q k) h
  dsimp only at e i;rw[e,e,i];by_cases d:q.forced=true
  ·rw[if_pos d,if_pos d,if_pos d];exact b 0 h c
  ·rw[if_neg d,if_neg d,if_neg d];cases q<;>first|rfl|skip
   show(k (c%_)).ar P none h=(k (c%_%_)).ar P none h;rw[Nat.mod_mod]
 |program k b=>
  intro h c;have e:=fun c=>Sem.ar.eq_def (P:=P) (Sem.program k) c h
  dsimp only at e;rw[e,e,Sem.arity];exact b P h c
 |_=>intro h c;rfl
def Di(s:AS):Option Oper:=match s.fr.ret,s.fr.todo with
 |false,.region a (i::_)::_=>match a[i]? with
  |some o=>if Region.wanted o (yielded a s.fr.tmps)&&!bM o then some o else none
  |none=>none
 |_,_=>none
theorem yI{s:AS}{o:Oper}(a:Di s=some o)(c:Nat):aI P pl (some c) s=aI P pl (some (c%(execOp (ay s.fr.tmps) o).arity P s.h)) s:=by
 unfold Di at a;split at a
 ·rename_i e i l k f g;split at a
  ·rename_i j d;split at a
   ·rename_i b;cases a;rw[Bool.and_eq_true,Bool.not_eq_true']at b;unfold aI;rw[f,g];dsimp only
    rw[d];dsimp only
    rw[if_pos b.1,if_pos b.1];congr 1;unfold bP;rw[b.2];simp only[Bool.false_eq_true,if_false]
    rw[aet]
   ·cases a
  ·cases a
 ·cases a
noncomputable section
def jb(P:Program)(pl:bI)(T:Tr TI)(b:Tr Func)(n:Nat):AS->Sum AS (Value×AH):=
 Nat.rec (fun s=>.inl s) (fun _ a s=>Option.rec (match aI P pl none s with
  |some (.go c)=>a c
  |some (.ret v h)=>.inr (v,h)
  |none=>.inl s) a (qK P T b s)) n
def tryAll(f:Nat->Option (List (Value×AH)))(m:Nat):Option (List (Value×AH)):=Nat.rec (some []) (fun c a=>match f c with
 |some l=>match a with
  |some m=>some (l++m)
  |none=>none
 |none=>none) m
def explore(P:Program)(pl:bI)(T:Tr TI)(b:Tr Func)(n d:Nat):AS->Option (List (Value×AH)):=
 Nat.rec (fun _=>none) (fun _ a s=>match jb P pl T b n s with
  | .inr x=>some [x]
  | .inl s=>match Di s with
   |some o=>bif Nat.beq ((execOp (ay s.fr.tmps) o).arity P s.h) 0 then none else tryAll (fun c=>match aI P pl (some c) s with
    |some (.go e)=>a e
    |_=>none) ((execOp (ay s.fr.tmps) o).arity P s.h)
   |none=>none) d
end
variable{T:Tr TI}{b:Tr Func}
theorem qg(K:aZ P T)(KF:gq P b){Q:Value->AH->Prop}:∀(n:Nat) {s:AS},(∀s',jb P pl T b n s=.inl s'->jC P pl Q s')->(∀v h,jb P pl T b n s=.inr (v,h)->Q v h)->jC P pl Q s
 |0,s,c,f=>c s rfl
 |n+1,s,c,f=>by
  have a:jb P pl T b (n+1) s=Option.rec (match aI P pl none s with
   |some (.go s')=>jb P pl T b n s'
   |some (.ret v h)=>.inr (v,h)
   |none=>.inl s) (jb P pl T b n) (qK P T b s):=rfl
  cases i:qK P T b s with
  |some d=>rw[i]at a;exact(qM K KF i).all (qg K KF n (fun s' e=>c s' (a.trans e)) fun v h e=>f v h (a.trans e))
  |none=>
   rw[i]at a;replace a:jb P pl T b (n+1) s=(match aI P pl none s with
    |some (.go s')=>jb P pl T b n s'
    |some (.ret v h)=>.inr (v,h)
    |none=>.inl s):=a
   cases g:aI P pl none s with
   |none=>rw[g]at a;exact c s a
   |some r=>
    rw[g]at a;cases r with
    |go d=>exact .one g (qg K KF n (fun s' e=>c s' (a.trans e)) fun v h e=>f v h (a.trans e))
    |ret v h=>exact .ret g (f v h a)
theorem Ak{f:Nat->Option (List (Value×AH))}:∀(m:Nat) {L:List (Value×AH)},tryAll f m=some L->∀c,c<m->∃l,f c=some l/\∀x∈l,x∈L
 |0,L,e,c,g=>absurd g (Nat.not_lt_zero _)
 |m+1,L,e,c,g=>by
  replace e:(match f m with
   |some l=>match tryAll f m with
    |some m=>some (l++m)
    |none=>none
   |none=>none)=some L:=e
  split at e
  ·rename_i l h;split at e
   ·rename_i k i;cases e;by_cases a:c=m
    ·subst a;exact⟨l,h,fun x d=>List.mem_append.2 (.inl d)⟩
    ·obtain⟨j,n,o⟩:=Ak m i c (by omega)
     exact⟨j,n,fun x d=>List.mem_append.2 (.inr (o x d))⟩
   ·cases e
  ·cases e
theorem sS(K:aZ P T)(KF:gq P b){n:Nat}:∀(d:Nat) {s:AS} {L:List (Value×AH)},explore P pl T b n d s=some L->jC P pl (fun v h=>(v,h)∈L) s
 |0,s,L,e=>by cases e
 |d+1,s,L,e=>by
  replace e:(match jb P pl T b n s with
   | .inr x=>some [x]
   | .inl s=>match Di s with
    |some o=>bif Nat.beq ((execOp (ay s.fr.tmps) o).arity P s.h) 0 then none else tryAll (fun c=>match aI P pl (some c) s with
     |some (.go j)=>explore P pl T b n d j
     |_=>none) ((execOp (ay s.fr.tmps) o).arity P s.h)
    |none=>none)=some L:=e
  refine qg K KF n (fun a f=>?_) fun v h f=>?_
  ·rw[f]at e;dsimp only at e;split at e
   ·rename_i o q;cases m:Nat.beq ((execOp (ay a.fr.tmps) o).arity P a.h) 0 with
    |true=>rw[m]at e;cases e
    |false=>
    rw[m]at e;have r:(execOp (ay a.fr.tmps) o).arity P a.h≠0:=fun h0=>by rw[h0]at m;cases m
    have all:∀c,∃j,aI P pl (some c) a=some (.go j)/\jC P pl (fun v h=>(v,h)∈L) j:=by
     intro c;have t:=yI (P:=P) (pl:=pl) q c
     obtain⟨l,i,p⟩:=Ak _ e (c%(execOp (ay a.fr.tmps) o).arity P a.h) (Nat.mod_lt _ (Nat.pos_of_ne_zero r))
     split at i
     ·rename_i j g;exact⟨j,t.trans g,(sS K KF d i).mono fun v h u=>p _ u⟩
     ·cases i
    refine .step (fun c=>let⟨j,h,_⟩:=all c;⟨_,h⟩) (fun c j g=>?_) fun c v h g=>?_
    ·obtain⟨k,i,p⟩:=all c
     rw[g]at i;cases i;exact p
    ·obtain⟨k,i,p⟩:=all c
     rw[g]at i;cases i
   ·cases e
  ·rw[f]at e;cases e;exact List.mem_singleton.2 rfl
end
end Go.Am
namespace Go.Am
open Go.Ren (grow gU aT aB Wk)
def AH.move(h:AH)(l:List Nat)(B:cZ):AH:=
 ⟨h.n+1,(h.forget l).tr.set h.n {B with gB:=B.gB.map fun _=>h.n},match B.gB with
  |none=>(h.forget l).dn
  |some _=>(h.forget l).dn.set h.n [h.n]⟩
def NG(h:AH)(b:Nat)(B:cZ)(l:List Nat):Bool:=l.all fun x=>x !=b&&match h.look x with
 |some X=>(match X.gB,B.gB with
  |some f,some g=>f !=g
  |_,_=>true)&&X.gB !=some h.n
 |none=>true
section
variable{P:Program}{a σ:Env}{O D:Nat->Prop}{h h':AH}{w w':World}{b:Nat}{B:cZ}{l:List Nat}
theorem qN{h:AH}:∀(l:List Nat) {b:Nat} {B:cZ},(gI h l).get b=some B->b∈l
 | [],b,B,e=>by cases e
 |c::l,b,B,e=>by
  unfold gI at e;split at e
  ·rw[Tr.dW]at e;split at e
   ·rename_i d;subst d;exact List.mem_cons_self
   ·exact List.mem_cons_of_mem _ (qN l e)
  ·exact List.mem_cons_of_mem _ (qN l e)
def Env.mv(a:Env)(b N:Nat):Env:=a.add N (a.to b) (a.bg b) (a.u b) (a.ext b)
theorem kR{x:Nat}{X:cZ}(k:(h.move l B).look x=some X):(x=h.n/\X={B with gB:=B.gB.map fun _=>h.n})∨(x≠h.n/\(gI h l).get x=some X/\h.look x=some X):=by
 have c:=gy k
 unfold AH.move at c;dsimp only at c;rw[Tr.dW]at c;split at c
 ·rename_i d;cases c;exact .inl ⟨d,rfl⟩
 ·rename_i d;exact .inr ⟨d,c,jm l c⟩
theorem Rel.move(r:Rel a O D h w)(R:h.look b=some B)(hc:∃c e f,B.obj=.cells c e f)(s:a.born b)(a2:NG h b B l=true):Rel (a.mv b h.n) O D (h.move l B) w:=by
 have a3:¬a.born h.n:=fun j=>Nat.lt_irrefl _ (r.fresh _ j)
 have N:a.Le (a.mv b h.n):=Env.jA a3
 have r1:Rel a O D (h.forget l) w:=r.forget l
 have hl:∀x X,(gI h l).get x=some X->x≠b/\(∀f,X.gB=some f->B.gB≠some f)/\X.gB≠some h.n:=by
  intro x X j;have hm:=qN l j
  have Q:=jm l j
  have:=(List.all_eq_true.1 a2) x hm
  rw[Q]at this;simp only[Bool.and_eq_true,bne_iff_ne,ne_eq]at this;obtain⟨t,C,F⟩:=this
  refine⟨t,fun f k T=>?_,F⟩;rw[k,T]at C;simp at C
 have born:∀x,(a.mv b h.n).born x->x≠h.n->a.born x:=fun x j d=>j.resolve_left d
 obtain⟨cc,ee,ff,U⟩:=hc
 have V:∀f m,(h.move l B).dn.get f=some m->(f=h.n/\m=[h.n]/\∃g,B.gB=some g)∨(h.forget l).dn.get f=some m:=by
  intro f m k;unfold AH.move at k;dsimp only at k;cases T:B.gB with
  |none=>rw[T]at k;exact .inr k
  |some g=>
   rw[T]at k;dsimp only at k;rw[Tr.dW]at k;split at k
   ·rename_i e;cases k;exact .inl ⟨e,rfl,g,T▸rfl⟩
   ·exact .inr k
 have up:∀x n,x≠h.n->(h.move l B).upTo (a.mv b h.n) x n->(h.forget l).upTo a x n:=by rintro x n d ⟨X,c,e,f,t,C,F⟩;unfold AH.move at t;dsimp only at t;rw[Tr.dW,if_neg d]at t;unfold Env.mv at F;rw[ax d]at F;exact⟨X,c,e,f,t,C,F⟩
 refine⟨fun x X c e f j H W=>?_,fun x X j H W=>?_,fun x X j H=>?_,fun x y X Y j hy H Z d u=>?_,fun x j=>?_,fun x j=>?_,fun x X j H=>?_,fun f m k=>?_,fun f m k x a0=>?_⟩
 ·rcases kR H with⟨rfl,rfl⟩|⟨d,_,p⟩
  ·obtain⟨A,E,g,c1,c2,c3,c4,c5⟩:=r.cells b B c e f s R W
   unfold Env.mv;rw[dA,uD];exact⟨A,E,g,c1,c2,c3,fun hn=>c4 fun hp=>hn ⟨by rw[hp.1];rfl,hp.2.1,hp.2.2⟩,fun i v hv=>by obtain⟨v',k1,k2⟩:=c5 i v hv;exact⟨v',k1,k2.mono N⟩⟩
  ·obtain⟨A,E,g,c1,c2,c3,c4,c5⟩:=r.cells x X c e f (born x j d) p W
   unfold Env.mv;rw[ax d,qE d];exact⟨A,E,g,c1,c2,c3,c4,fun i v hv=>by obtain⟨v',k1,k2⟩:=c5 i v hv;exact⟨v',k1,k2.mono N⟩⟩
 ·rcases kR H with⟨rfl,rfl⟩|⟨d,_,p⟩
  ·exact absurd U (W _ _ _)
  ·obtain⟨o1,o2,o3,o4⟩:=r.obj x X (born x j d) p W
   unfold Env.mv;rw[ax d];exact⟨o1,o2,o3,o4.mono N⟩
 ·rcases kR H with⟨rfl,rfl⟩|⟨d,_,p⟩
  ·unfold Env.mv;rw[dA];exact r.own b B s R
  ·unfold Env.mv;rw[ax d];exact r.own x X (born x j d) p
 ·rcases kR H with⟨rfl,rfl⟩|⟨q,a1,L⟩
  ·rcases kR Z with⟨rfl,rfl⟩|⟨o,M,z⟩
   ·exact absurd rfl d
   ·unfold Env.mv at u;rw[dA,ax o]at u;obtain⟨t,C,F⟩:=hl y Y M
    rcases r.sep b y B Y s (born y hy o) R z (fun e=>t e.symm) u with⟨f,g1,g2⟩|g
    ·exact absurd g1 (C f g2)
    ·exact .inr ⟨⟨by show Option.map _ B.gB=none;rw[g.1.1];rfl,g.1.2⟩,g.2⟩
  ·rcases kR Z with⟨rfl,rfl⟩|⟨o,M,z⟩
   ·unfold Env.mv at u;rw[dA,ax q]at u;obtain⟨t,C,F⟩:=hl x X a1
    rcases r.sep b x B X s (born x j q) R L (fun e=>t e.symm) u.symm with⟨f,g1,g2⟩|g
    ·exact absurd g1 (C f g2)
    ·exact .inr ⟨g.2,⟨by show Option.map _ B.gB=none;rw[g.1.1];rfl,g.1.2⟩⟩
   ·unfold Env.mv at u;rw[ax q,ax o]at u;exact r.sep x y X Y (born x j q) (born y hy o) L z d u
 ·rcases j with rfl|j
  ·exact Nat.lt_succ_self _
  ·exact Nat.lt_succ_of_lt (r.fresh x j)
 ·unfold Env.mv;by_cases d:x=h.n
  ·subst d;rw[dA];exact r.low b s
  ·rw[ax d];exact r.low x (born x j d)
 ·rcases kR H with⟨rfl,rfl⟩|⟨d,_,p⟩
  ·obtain⟨s1,s2⟩:=r.bg b B s R
   unfold Env.mv;rw[nM,Ko];cases k:B.gB with
   |none=>rw[k]at s1 s2;exact⟨by simpa using s1,fun e=>absurd rfl e⟩
   |some f=>rw[k]at s1 s2;refine⟨⟨fun _=>by simp,fun _=>s1.2 (by simp)⟩,fun _=>s2 (by simp)⟩
  ·unfold Env.mv;rw[ni d,wZ d];exact r.bg x X (born x j d) p
 ·rcases V f m k with⟨rfl,rfl,g,hg⟩|J
  ·exact List.pairwise_singleton _ _
  ·have hm:=r1.mem f m J
   refine(r1.row f m J).imp_of_mem fun{x y} j hy a4=>?_
   have nx:x≠h.n:=Nat.ne_of_lt (hm x j).1;have ny:y≠h.n:=Nat.ne_of_lt (hm y hy).1;intro bx bY u n n' u1 u2;unfold Env.mv at u;rw[ax nx,ax ny]at u;exact a4 (born x bx nx) (born y bY ny) u n n' (up x n nx u1) (up y n' ny u2)
 ·rcases V f m k with⟨rfl,rfl,g,hg⟩|J
  ·have:=List.mem_singleton.1 a0;subst this;refine⟨Nat.lt_succ_self _,{B with gB:=B.gB.map fun _=>h.n},?_,?_⟩
   ·unfold AH.move;dsimp only
    rw[Tr.dW,if_pos rfl]
   ·dsimp only
    rw[hg];rfl
  ·obtain⟨t,X,C,F⟩:=r1.mem f m J x a0
   have d:x≠h.n:=Nat.ne_of_lt t
   refine⟨Nat.lt_succ_of_lt t,X,?_,F⟩;unfold AH.move;dsimp only
   rw[Tr.dW,if_neg d];exact C
end
end Go.Am
namespace Go.Am
open Go.Conc.Lib
open Go.Ren (grow gU aT aB Wk At aH Keep full)
def yJ(c:aN):Option (Array Oper×Nat×List Nat×List aV×Nat):=match c.todo with
 | .region a (i::rest)::k=>match(a[i]?).bind (·.dst)with
  |some d=>if d<c.tmps.size then some (a,i,rest,k,d)else none
  |none=>none
 |_=>none
def XK(h:AH)(d e:Nat)(B:cZ)(l:List Nat)(x:Value×AH):Bool:=match x.1 with
 | .slice (some ⟨b,0,none⟩) n c=>n==d&&c==e&&agree h x.2 l&&match x.2.look b with
  |some a=>Ip a.obj B.obj&&a.ro==B.ro&&a.u==B.u&&(a.gB.isSome==B.gB.isSome)&&NG x.2 b a l
  |none=>false
 |_=>false
def o8(P:Program)(c:aN)(cs:List aN)(l:List Nat)(L:List (Value×AH)):Option AS:=match L with
 |(.slice (some ⟨b,0,none⟩) n a,h)::_=>match h.look b with
  |some B=>match B.obj with
   | .cells ..=>match yJ c with
    |some (e,i,rest,k,d)=>if L.all (XK h n a B l)then some ⟨{c with tmps:=c.tmps.setIfInBounds d (.slice (some ⟨h.n,0,none⟩) n a),todo:=.region e rest::k},cs,h.move l B⟩else none
    |none=>none
   |_=>none
  |none=>none
 |_=>none
section
variable{P:Program}{j A:Env}{O D:Nat->Prop}{F W U Z Z':Nat->Prop}{N:Nat}{h C:AH}{w w' w₀:World}{base cs:List Frame}{a p:aN}{f:Frame}{b:Nat}{B:cZ}{l:List Nat}{c:aN}{q:List aN}{g:Goroutine}{pl:bI}{s s':AS}{m:Machine}{t:Trace}{dU:Machine->Outcome->World->Trace->Prop}{L:WgLink}{T:Tr TI}{Fu:Tr Func}
theorem Ap{n:Array Oper}{i d:Nat}{rest:List Nat}{k:List aV}(e:yJ c=some (n,i,rest,k,d)):c.todo=.region n (i::rest)::k/\(n[i]?).bind (·.dst)=some d/\d<c.tmps.size:=by
 unfold yJ at e;split at e
 ·rename_i r;split at e
  ·rename_i u hd;split at e
   ·rename_i o;cases e;exact⟨r,hd,o⟩
   ·cases e
  ·cases e
 ·cases e
theorem KR{n:Array Oper}{i d:Nat}{rest:List Nat}{k:List aV}(e:yJ c=some (n,i,rest,k,d))(h:AH)(v:Value):aA P c h v=some {c with tmps:=c.tmps.setIfInBounds d v,todo:=.region n rest::k}:=by
 obtain⟨r,u,x⟩:=Ap e
 unfold aA;rw[r];dsimp only
 rw[u];rfl
theorem XL{a p:Array Value}{d:Nat}{v J:Value}(o:j.Le A)(hd:d<a.size)(h:AR (VR j) (a.setIfInBounds d v) p)(R:∀y,VR j v y->VR A J y):AR (VR A) (a.setIfInBounds d J) p/\∃y,p[d]?=some y/\VR j v y:=by
 obtain⟨M,Q⟩:=h
 rw[Array.size_setIfInBounds]at M;have e:∀u:Value,(a.setIfInBounds d u)[d]?=some u:=fun u=>by simp[hd]
 obtain⟨y,r⟩:∃y,p[d]?=some y:=⟨p[d]'(by omega),by simp[show d<p.size by omega]⟩
 have k:=Q d v y (e v) r
 refine⟨⟨by rw[Array.size_setIfInBounds];exact M,fun i x z n E=>?_⟩,y,r,k⟩;by_cases H:i=d
 ·subst H;rw[e]at n;cases n;rw[r]at E;cases E;exact R _ k
 ·rw[Array.getElem?_setIfInBounds_ne (Ne.symm H)]at n;refine(Q i x z ?_ E).mono o;rw[Array.getElem?_setIfInBounds_ne (Ne.symm H)];exact n
theorem XN{n d:Nat}{y:Value}(o:VR j (.slice (some ⟨b,0,none⟩) n d) y){N:Nat}:VR (j.mv b N) (.slice (some ⟨N,0,none⟩) n d) y:=by
 cases o with
 | @slice _ _ _ v x r=>
  have e:(j.addr ⟨b,0,none⟩)=(j.mv b N).addr ⟨N,0,none⟩:=by unfold Env.addr Env.mv;rw[dA]
  rw[e];refine .slice (.inl rfl) (r.imp id fun⟨i,u,k⟩=>?_);unfold Env.mv;dsimp only at i k⊢;rw[nM,Ko,uD];exact⟨i,u,k⟩
theorem mJ.move{o:Array Oper}{i d n v:Nat}{rest:List Nat}{k:List aV}(hs:yJ c=some (o,i,rest,k,d))(H:h.look b=some B)(hc:∃cc e f,B.obj=.cells cc e f)(J:NG h b B l=true)
  (S:mJ P j O D base ⟨{c with tmps:=c.tmps.setIfInBounds d (.slice (some ⟨b,0,none⟩) n v),todo:=.region o rest::k},q,h⟩ g w):
  mJ P (j.mv b h.n) O D base ⟨{c with tmps:=c.tmps.setIfInBounds d (.slice (some ⟨h.n,0,none⟩) n v),todo:=.region o rest::k},q,h.move l B⟩ g w:=by
 obtain⟨⟨V,f,cs,X,h2,h3,h4⟩,E⟩:=S
 have M:¬j.born h.n:=fun Y=>Nat.lt_irrefl _ (E.fresh _ Y)
 have r:j.Le (j.mv b h.n):=Env.jA M
 have h0:=h3.f0 fun a0 l' k' e=>by cases e
 obtain⟨r1,y,hy,Q⟩:=XL r (Ap hs).2.2 h0.tmps fun y hy=>XN (N:=h.n) hy
 have R:j.born b:=by cases Q;assumption
 have u:=h0.mono r
 refine⟨⟨V,f,cs,Nat.le_succ_of_le X,h2,.plain ⟨⟨u.fn,u.defers,u.mode,u.kind,u.round⟩,r1,u.todo⟩,h4.mono r (fun x Y H=>H.resolve_left fun e=>?_) (Nat.le_refl _)⟩,E.move H hc R J⟩;subst e;have a1:V<=h.n:=X
 omega
theorem abr{b b':Nat}{B d:cZ}(e:agree h C l=true)(i:d.obj=B.obj)(k:d.ro=B.ro)(n:d.u=B.u)(v:d.gB.isSome=B.gB.isSome):C.move l d=h.move l B:=by
 have x:=BA e
 have y:=xq e
 unfold AH.move;rw[←x,←y];obtain⟨o,f,r,u⟩:=B
 obtain⟨E,z,H,J⟩:=d
 dsimp only at i k n v⊢;subst i k n;cases f<;>cases z<;>first|rfl|cases v
end
end Go.Am
namespace Go.Am
open Go.Conc (born QuitsD G scase rcase)
open Go.Conc.Lib
open Go.ConcR (WgAt)
open Go.Ren (grow gU aT aB Wk dY Idle af X0 XS XM Lv iP nT xg oV hearing oU yA iR M1 Anch Spawns JY At aH Keep full Own Fr Ij)
def jG:List (Nat×cZ)->Tr cZ
 | []=>.nil
 |(b,B)::l=>(jG l).set b B
def jT:List (Nat×List Nat)->Tr (List Nat)
 | []=>.nil
 |(f,m)::l=>(jT l).set f m
def nU:Code->List Nat->Code
 |c,[]=>c
 | .seq a b,i::p=>match i with|0=>nU a p|_=>nU b p
 | .cond _ a b,i::p=>match i with|0=>nU a p|_=>nU b p
 | .rangeFunc _ _ a b,i::p=>match i with|0=>nU a p|_=>nU b p
 | .block _ b,_::p=>nU b p
 | .loop b,_::p=>nU b p
 | .scope b,_::p=>nU b p
 |_,_=>.skip
def XO(a:Tr Func)(f:Nat):Code:=match a.get f with
 |some b=>b.body.getD .skip
 |none=>.skip
def agX(b:Tr Func)(f:Nat)(p:List Nat):Array Oper:=match nU (XO b f) p with
 | .region _ a _=>a
 |_=>#[]
noncomputable section
def stepS(P:Program)(b:bI)(T:Tr TI)(c:Tr Func)(n:Nat)(l:List Nat)(s:AS):Option AS:=match jb P b T c n s with
 | .inl a=>if aP a.fr then some ⟨a.fr,a.cs,a.h.forget l⟩else none
 | .inr _=>none
def XP(P:Program)(a:bI)(T:Tr TI)(b:Tr Func)(n:Nat)(v:Value)(s:AS):Bool:=match jb P a T b n s with
 | .inl _=>false
 | .inr x=>jl 9 x.1 v&&iQ 9 v
end
section
variable{P:Program}{ρ k:Env}{F W U Z Z':Nat->Prop}{N:Nat}{h h':AH}{w w' d:World}{base cs:List Frame}{a a':aN}{f:Frame}{l:List Nat}{c:aN}{g:Goroutine}{pl:bI}{s s':AS}{m:Machine}{t:Trace}{j:Machine->Outcome->World->Trace->Prop}{L:WgLink}{T:Tr TI}{i:Tr Func}{ph:Ph}
 {gb cb cap nw nt nwt:Nat} {v:Value}
theorem jo(K:aZ P T)(KF:gq P i):∀(n:Nat) {s:AS},jb P pl T i n s=.inl s'->To P pl s' s
 |0,s,e=>by cases e;exact .here rfl
 |n+1,s,e=>by
  have x:jb P pl T i (n+1) s=Option.rec (match aI P pl none s with
   |some (.go s')=>jb P pl T i n s'
   |some (.ret v h)=>.inr (v,h)
   |none=>.inl s) (jb P pl T i n) (qK P T i s):=rfl
  rw[x]at e;cases p:qK P T i s with
  |some b=>rw[p]at e;exact(qM K KF p).bind fun u o=>by subst o;exact jo K KF n e
  |none=>
   rw[p]at e;replace e:(match aI P pl none s with
    |some (.go s')=>jb P pl T i n s'
    |some (.ret v h)=>.inr (v,h)
    |none=>.inl s)=.inl s':=e
   cases q:aI P pl none s with
   |none=>rw[q]at e;cases e;exact .here rfl
   |some r=>
    rw[q]at e;cases r with
    |go b=>exact .one q (jo K KF n e)
    |ret v h=>cases e
theorem UJ(K:aZ P T)(KF:gq P i){n:Nat}{x:Value×AH}(e:jb P pl T i n s=.inr x):jC P pl (fun v h=>(v,h)=x) s:=
 qg K KF n (fun s' b=>by rw[e]at b;cases b) fun v h b=>by rw[e]at b;cases b;rfl
theorem bK.step[aO P](K:aZ P T)(KF:gq P i){n:Nat}(e:stepS P pl T i n l s=some s')(S:bK P L base F d ph s m t):aH P j (bK P L base F d ph s') m t:=by
 unfold stepS at e;split at e
 ·rename_i o b;split at e
  ·rename_i hd;cases e;exact(S.reach (jo K KF n b)).mono fun m t p=>p.forget l hd
  ·cases e
 ·cases e
theorem bK.last[aO P](K:aZ P T)(KF:gq P i){n:Nat}{b:Frame}{r:List Frame}(e:XP P pl T i n v s=true)(S:bK P L (b::r) F d ph s m t):aH P j (Back P b r F d v) m t:=by
 unfold XP at e;split at e
 ·cases e
 ·rename_i x z;rw[Bool.and_eq_true]at e;have A:=iT _ _ _ e.1;obtain⟨W,U,Z,N,ρ,g,w,S,E⟩:=S
  refine(Go.Ren.At.wk2 (Su (X:=X0) (I:=fun _=>True) (m:=true) (UJ K KF z) S.st.Na) S.st.lt rfl S.st.at_).mono ?_;rintro m t ⟨H,w',o,⟨k,p,h,u,B,J,C,rfl,M⟩,y⟩;have q:p=v:=by rw[←A,←B]
  subst q;have D:=(iG e.2).eq C;subst D;exact⟨W,U,Z,N,w',o,S.wu,S.fz,S.UC,S.Ky y,y.lt S.st.lt⟩
end
end Go.Am
namespace Go.Am
open Go.Conc (born QuitsD G scase rcase)
open Go.Conc.Lib
open Go.ConcR (WgAt)
open Go.Ren (grow gU aT aB Wk dY Idle af X0 XS XM Lv iP nT xg oV hearing oU yA iR M1 Anch Spawns JY At aH Keep full Own Fr Ij)
def cZ.own(B:cZ):cZ:={B with ro:=match B.gB with|none=>Nat.beq B.u 1|some _=>false}
def AH.lY(h:AH):AH:={h with tr:=h.tr.map cZ.own}
section
variable{P:Program}{d σ:Env}{O O' D:Nat->Prop}{F W U Z Z':Nat->Prop}{N:Nat}{h h':AH}{w w' a:World}{mm:Bool}{base i:List Frame}{s s' s₀:AS}{pl:bI}{g g':Goroutine}
 {L:WgLink} {m:Machine} {t:Trace} {ph:Ph}
theorem sU(b:Nat):h.lY.tr.get b=(h.tr.get b).map cZ.own:=Tr.get_map _ _ _
theorem ER{b:Nat}:h.lY.look b=(h.look b).map cZ.own:=by
 unfold AH.look;rw[sU];cases h.tr.get b with
 |none=>rfl
 |some B=>
  obtain⟨o,c,e,u⟩:=B
  cases c with
  |none=>rfl
  |some f=>
   simp only[Option.map_some]
   show(if((h.dn.get f).getD []).contains b then _ else _)=_
   split<;>rfl
theorem Rel.IB(r:Rel d O (fun _=>False) h w):Rel d O (fun _=>False) h.lY w:=by
 have y:∀b q,h.lY.look b=some q->∃B,h.look b=some B/\q.obj=B.obj/\q.gB=B.gB/\q.u=B.u/\(B.Xc->q.Xc):=by
  intro b q k;rw[ER]at k;simp only[Option.map_eq_some_iff]at k;obtain⟨B,o,rfl⟩:=k
  refine⟨B,o,rfl,rfl,rfl,fun⟨p1,p2,p3⟩=>⟨p1,?_,p3⟩⟩;show(match B.gB with|none=>Nat.beq B.u 1|some _=>false)=true
  rw[p1,p3];rfl
 have up:∀b n,h.lY.upTo d b n->h.upTo d b n:=by
  rintro b n ⟨q,c,e,f,M,h2,h3⟩;rw[sU]at M;simp only[Option.map_eq_some_iff]at M;obtain⟨B,o,rfl⟩:=M
  exact⟨B,c,e,f,o,h2,h3⟩
 refine⟨fun b B c e f p k Q=>?_,fun b B p k Q=>?_,fun b B p k=>?_,fun b b' B q p R k T V X=>?_,r.fresh,r.low,fun b B p k=>?_,fun f l v=>?_,fun f l v b p=>?_⟩
 ·obtain⟨j,o,A,x,J,Y⟩:=y b B k
  obtain⟨C,E,g,c1,c2,c3,c4,c5⟩:=r.cells b j c e f p o (A▸Q)
  exact⟨C,E,g,c1,c2,c3,fun hn=>c4 fun hp=>hn (Y hp),c5⟩
 ·obtain⟨j,o,A,x,J,_⟩:=y b B k
  obtain⟨o1,o',o2,o3⟩:=r.obj b j p o (A▸Q)
  exact⟨o1,o',o2,by rw[A];exact o3⟩
 ·obtain⟨j,o,A,x,J,_⟩:=y b B k
  have hO:=(r.own b j p o).2.resolve_right id;exact⟨fun _=>hO,.inl hO⟩
 ·obtain⟨j,o,_,x,_,Y⟩:=y b B k
  obtain⟨H,j1,_,j3,_,j5⟩:=y b' q T
  rcases r.sep b b' j H p R o j1 V X with⟨f,g1,g2⟩|⟨g1,g2⟩
  ·exact .inl ⟨f,x.trans g1,j3.trans g2⟩
  ·exact .inr ⟨Y g1,j5 g2⟩
 ·obtain⟨j,o,_,x,J,_⟩:=y b B k
  obtain⟨s1,s2⟩:=r.bg b j p o
  exact⟨s1.trans (by rw[x]),fun z=>(s2 (x▸z)).trans J.symm⟩
 ·exact(r.row f l v).imp fun hp b1 b2 X n n' u1 u2=>hp b1 b2 X n n' (up _ _ u1) (up _ _ u2)
 ·obtain⟨m1,B,m2,m3⟩:=r.mem f l v b p
  exact⟨m1,B.own,by rw[sU,m2];rfl,m3⟩
theorem Sd.IB(S:Sd P base F a W U Z N d s g w m t)(hd:aP s.fr=true):Sd P base F a W U Z N d ⟨s.fr,s.cs,s.h.lY⟩ g w m t:=by
 refine⟨⟨S.st.at_,?_,S.st.lt⟩,S.wu,S.fz,S.UC,S.keep⟩;obtain⟨⟨c,f,i,j,n,o,p⟩,b⟩:=S.st.Na
 refine⟨⟨c,f,i,j,n,.plain (o.f0 fun q l k e=>?_),p⟩,b.IB⟩;unfold aP at hd;rw[e]at hd;cases hd
end
end Go.Am
namespace Go.Am
open Go.Conc.Lib
open Go.Ren (grow gU aT aB Wk At aH Keep full)
noncomputable section
def jc(P:Program)(s:AS):Option Nat:=match Di ⟨s.fr,[],s.h⟩with
 |some o=>some ((execOp (ay s.fr.tmps) o).arity P s.h)
 |none=>none
end
section
variable{P:Program}{ρ σ:Env}{F W U Z:Nat->Prop}{w₀:World}{base:List Frame}{s s':AS}{pl:bI}{c:aN}{a:List aN}{l:List Nat}
 {L:WgLink} {m:Machine} {t:Trace} {dU:Machine->Outcome->World->Trace->Prop} {T:Tr TI} {Fu:Tr Func}
theorem IC{f:List (Value×AH)}(b:o8 P c a l f=some s'):∃e i rest k d,yJ c=some (e,i,rest,k,d):=by
 unfold o8 at b;split at b
 ·split at b
  ·split at b
   ·split at b
    ·rename_i e i rest k h g;exact⟨_,_,_,_,_,g⟩
    ·cases b
   ·cases b
  ·cases b
 ·cases b
end
end Go.Am
namespace Go.Am
open Go.Conc.Lib
open Go.Ren (grow gU aT aB Wk At aH Keep full)
noncomputable section
def allB(f:Nat->Bool)(m:Nat):Bool:=Nat.rec true (fun c a=>f c&&a) m
end
end Go.Am
namespace Go.Am
open Go.Conc.Lib
open Go.ConcR (WgAt)
open Go.Ren (grow gU aT aB Wk At aH Keep full)
noncomputable section
def goS(P:Program)(s:AS):Option (AS×AS):=match opAt s with
 |some o=>match o.op with
  | .go c=>match c.callee with
   | .value x=>match ay s.fr.tmps x with
    | .func (.func a) first b=>if cu P a&&s.fr.round.isNone then
      match Nr P s s.h.shared undef with
      |some d=>some (⟨{aN.enter P a ((first++c.args.map (ay s.fr.tmps))++b)with dk:=true},[],s.h.shared⟩,d)
      |none=>none
     else none
    |_=>none
   |_=>none
  |_=>none
 |none=>none
def iU(P:Program)(f:bI)(L:WgLink)(g a b:Nat)(s:AS):Option (AS×AS):=match vZ P f a s with
 |some (.go c)=>match RN P L.add #[.pointer (some ⟨g,0,none⟩),.int .i64 1] c with
  |some d=>match vZ P f b d with
   |some (.go e)=>goS P e
   |_=>none
  |none=>none
 |_=>none
def adn(P:Program)(b:bI)(L:WgLink)(c n:Nat)(s:AS):Option AS:=match vZ P b n s with
 |some (.go a)=>RN P L.wait #[.pointer (some ⟨c,0,none⟩)] a
 |_=>none
end
end Go.Am
namespace Go.Mx
open Go.Conc.Locks
structure ag where
 mu:MuLink
 canSpin:Nat
 IE:Nat
 throw:Nat
 nano:Nat
 IG:Nat
 fatal:Nat
 semrel:Nat
 tPU32:Nat
 tUint:Nat
def kS(L:ag):Func:=
 {name:= "(*internal/sync.Mutex).lockSlow",origin:= "",params:=#[L.mu.tPIMutex],resultTypes:=#[],nfree:=0,ntmps:=139,results:=#[],body:=some (.seq (.region 0 #[⟨some 2,.assign (.const (.int .i64 0)),2, "mutex.go:100",#[],none⟩] false) (.seq (.region 1 #[⟨some 3,.assign (.const (.bool false)),4, "mutex.go:101",#[],none⟩] false) (.seq (.region 2 #[⟨some 4,.assign (.const (.bool false)),4, "mutex.go:102",#[],none⟩] false) (.seq (.region 3 #[⟨some 5,.assign (.const (.int .i64 0)),3, "mutex.go:103",#[],none⟩] false) (.seq (.region 4 #[⟨some 10,.move (.tmp 0),L.mu.tPIMutex, "mutex.go:104",#[],none⟩,⟨some 11,.nilCheck (.tmp 10),0, "mutex.go:104",#[⟨0,.data⟩],none⟩,⟨some 12,.fieldAddr L.mu.tIMutex (.tmp 11) 0,0, "mutex.go:104",#[⟨1,.data⟩],none⟩,⟨some 13,.load 21 (.tmp 12),21, "mutex.go:104",#[⟨2,.data⟩],none⟩,⟨some 6,.assign (.tmp 13),21, "mutex.go:104",#[⟨3,.data⟩,⟨0,.phase⟩,⟨1,.phase⟩,⟨2,.phase⟩,⟨3,.phase⟩],none⟩] false) (.seq (.block 0 (.loop (.block 1 (.seq (.seq (.region 5 #[⟨some 14,.move (.tmp 6),21, "mutex.go:108",#[],none⟩,⟨some 15,.binOp .and 21 (.tmp 14) (.const (.int .i32 5)) 21,21, "mutex.go:108",#[⟨0,.data⟩],none⟩,⟨some 16,.binOp .eql 21 (.tmp 15) (.const (.int .i32 1)) 21,4, "mutex.go:108",#[⟨1,.data⟩],none⟩,⟨some 17,.move (.tmp 16),4, "mutex.go:108",#[⟨2,.data⟩],none⟩,⟨some 18,.move (.tmp 5),3, "mutex.go:108",#[⟨3,.guard⟩],some (3,true)⟩,⟨some 19,.call ⟨.value (.func L.canSpin),#[(.tmp 18)],#[3]⟩,4, "mutex.go:108",#[⟨4,.data⟩,⟨3,.chain⟩,⟨3,.guard⟩],some (3,true)⟩,⟨some 20,.pick (.tmp 17) (.tmp 19) (.const (.bool false)),4, "mutex.go:108",#[⟨3,.data⟩,⟨5,.data⟩],none⟩] false) (.cond (.tmp 20) (.seq (.seq (.region 6 #[⟨some 21,.move (.tmp 4),4, "mutex.go:112",#[],none⟩,⟨some 22,.unOp .not 4 (.tmp 21),4, "mutex.go:112",#[⟨0,.data⟩],none⟩,⟨some 23,.move (.tmp 22),4, "mutex.go:112",#[⟨1,.data⟩],none⟩,⟨some 24,.move (.tmp 6),21, "mutex.go:112",#[⟨2,.guard⟩],some (2,true)⟩,⟨some 25,.binOp .and 21 (.tmp 24) (.const (.int .i32 2)) 21,21, "mutex.go:112",#[⟨3,.data⟩,⟨2,.guard⟩],some (2,true)⟩,⟨some 26,.binOp .eql 21 (.tmp 25) (.const (.int .i32 0)) 21,4, "mutex.go:112",#[⟨4,.data⟩,⟨2,.guard⟩],some (2,true)⟩,⟨some 27,.pick (.tmp 23) (.tmp 26) (.const (.bool false)),4, "mutex.go:112",#[⟨2,.data⟩,⟨5,.data⟩],none⟩,⟨some 28,.move (.tmp 27),4, "mutex.go:112",#[⟨6,.data⟩,⟨2,.chain⟩],none⟩,⟨some 29,.move (.tmp 6),21, "mutex.go:112",#[⟨7,.guard⟩],some (7,true)⟩,⟨some 30,.binOp .shr 21 (.tmp 29) (.const (.int .u64 3)) L.tUint,21, "mutex.go:112",#[⟨8,.data⟩,⟨7,.guard⟩],some (7,true)⟩,⟨some 31,.binOp .neq 21 (.tmp 30) (.const (.int .i32 0)) 21,4, "mutex.go:112",#[⟨9,.data⟩,⟨7,.guard⟩],some (7,true)⟩,⟨some 32,.pick (.tmp 28) (.tmp 31) (.const (.bool false)),4, "mutex.go:112",#[⟨7,.data⟩,⟨10,.data⟩],none⟩,⟨some 33,.move (.tmp 32),4, "mutex.go:112",#[⟨11,.data⟩,⟨7,.chain⟩],none⟩,⟨some 34,.move (.tmp 0),L.mu.tPIMutex, "mutex.go:112",#[⟨12,.guard⟩],some (12,true)⟩,⟨some 35,.nilCheck (.tmp 34),0, "mutex.go:112",#[⟨13,.data⟩,⟨12,.guard⟩],some (12,true)⟩,⟨some 36,.fieldAddr L.mu.tIMutex (.tmp 35) 0,0, "mutex.go:112",#[⟨14,.data⟩,⟨12,.guard⟩],some (12,true)⟩,⟨some 37,.move (.tmp 6),21, "mutex.go:112",#[⟨12,.guard⟩],some (12,true)⟩,⟨some 38,.move (.tmp 6),21, "mutex.go:112",#[⟨12,.guard⟩],some (12,true)⟩,⟨some 39,.binOp .or 21 (.tmp 38) (.const (.int .i32 2)) 21,21, "mutex.go:112",#[⟨17,.data⟩,⟨12,.guard⟩],some (12,true)⟩,⟨some 40,.call ⟨.value (.func L.mu.cas32),#[(.tmp 36),(.tmp 37),(.tmp 39)],#[L.mu.tPI32,21,21]⟩,4, "mutex.go:113",#[⟨15,.data⟩,⟨16,.data⟩,⟨18,.data⟩,⟨12,.chain⟩,⟨12,.guard⟩],some (12,true)⟩,⟨some 41,.pick (.tmp 33) (.tmp 40) (.const (.bool false)),4, "mutex.go:112",#[⟨12,.data⟩,⟨19,.data⟩],none⟩] false) (.cond (.tmp 41) (.region 7 #[⟨some 4,.assign (.const (.bool true)),4, "mutex.go:114",#[],none⟩] false) .skip)) (.seq (.region 8 #[⟨some 42,.call ⟨.value (.func L.IE),#[],#[]⟩,0, "mutex.go:116",#[],none⟩] false) (.seq (.region 9 #[⟨some 43,.move (.tmp 5),3, "mutex.go:117",#[],none⟩,⟨some 44,.binOp .add 3 (.tmp 43) (.const (.int .i64 1)) 3,3, "mutex.go:117",#[⟨0,.data⟩],none⟩,⟨some 5,.assign (.tmp 44),3, "mutex.go:117",#[⟨1,.data⟩,⟨0,.phase⟩,⟨1,.phase⟩],none⟩] false) (.seq (.region 10 #[⟨some 45,.move (.tmp 0),L.mu.tPIMutex, "mutex.go:118",#[],none⟩,⟨some 46,.nilCheck (.tmp 45),0, "mutex.go:118",#[⟨0,.data⟩],none⟩,⟨some 47,.fieldAddr L.mu.tIMutex (.tmp 46) 0,0, "mutex.go:118",#[⟨1,.data⟩],none⟩,⟨some 48,.load 21 (.tmp 47),21, "mutex.go:118",#[⟨2,.data⟩],none⟩,⟨some 6,.assign (.tmp 48),21, "mutex.go:118",#[⟨3,.data⟩,⟨0,.phase⟩,⟨1,.phase⟩,⟨2,.phase⟩,⟨3,.phase⟩],none⟩] false) (.exit 1))))) .skip)) (.seq (.region 11 #[⟨some 49,.move (.tmp 6),21, "mutex.go:121",#[],none⟩,⟨some 7,.assign (.tmp 49),21, "mutex.go:121",#[⟨0,.data⟩,⟨0,.phase⟩],none⟩] false) (.seq (.seq (.region 12 #[⟨some 50,.move (.tmp 6),21, "mutex.go:123",#[],none⟩,⟨some 51,.binOp .and 21 (.tmp 50) (.const (.int .i32 4)) 21,21, "mutex.go:123",#[⟨0,.data⟩],none⟩,⟨some 52,.binOp .eql 21 (.tmp 51) (.const (.int .i32 0)) 21,4, "mutex.go:123",#[⟨1,.data⟩],none⟩] false) (.cond (.tmp 52) (.region 13 #[⟨some 53,.move (.tmp 7),21, "mutex.go:124",#[],none⟩,⟨some 54,.binOp .or 21 (.tmp 53) (.const (.int .i32 1)) 21,21, "mutex.go:124",#[⟨0,.data⟩],none⟩,⟨some 7,.assign (.tmp 54),21, "mutex.go:124",#[⟨1,.data⟩,⟨0,.phase⟩,⟨1,.phase⟩],none⟩] false) .skip)) (.seq (.seq (.region 14 #[⟨some 55,.move (.tmp 6),21, "mutex.go:126",#[],none⟩,⟨some 56,.binOp .and 21 (.tmp 55) (.const (.int .i32 5)) 21,21, "mutex.go:126",#[⟨0,.data⟩],none⟩,⟨some 57,.binOp .neq 21 (.tmp 56) (.const (.int .i32 0)) 21,4, "mutex.go:126",#[⟨1,.data⟩],none⟩] false) (.cond (.tmp 57) (.region 15 #[⟨some 58,.move (.tmp 7),21, "mutex.go:127",#[],none⟩,⟨some 59,.binOp .add 21 (.tmp 58) (.const (.int .i32 8)) 21,21, "mutex.go:127",#[⟨0,.data⟩],none⟩,⟨some 7,.assign (.tmp 59),21, "mutex.go:127",#[⟨1,.data⟩,⟨0,.phase⟩,⟨1,.phase⟩],none⟩] false) .skip)) (.seq (.seq (.region 16 #[⟨some 60,.move (.tmp 3),4, "mutex.go:133",#[],none⟩,⟨some 61,.move (.tmp 60),4, "mutex.go:133",#[⟨0,.data⟩],none⟩,⟨some 62,.move (.tmp 6),21, "mutex.go:133",#[⟨1,.guard⟩],some (1,true)⟩,⟨some 63,.binOp .and 21 (.tmp 62) (.const (.int .i32 1)) 21,21, "mutex.go:133",#[⟨2,.data⟩,⟨1,.guard⟩],some (1,true)⟩,⟨some 64,.binOp .neq 21 (.tmp 63) (.const (.int .i32 0)) 21,4, "mutex.go:133",#[⟨3,.data⟩,⟨1,.guard⟩],some (1,true)⟩,⟨some 65,.pick (.tmp 61) (.tmp 64) (.const (.bool false)),4, "mutex.go:133",#[⟨1,.data⟩,⟨4,.data⟩],none⟩] false) (.cond (.tmp 65) (.region 17 #[⟨some 66,.move (.tmp 7),21, "mutex.go:134",#[],none⟩,⟨some 67,.binOp .or 21 (.tmp 66) (.const (.int .i32 4)) 21,21, "mutex.go:134",#[⟨0,.data⟩],none⟩,⟨some 7,.assign (.tmp 67),21, "mutex.go:134",#[⟨1,.data⟩,⟨0,.phase⟩,⟨1,.phase⟩],none⟩] false) .skip)) (.seq (.seq (.region 18 #[⟨some 68,.move (.tmp 4),4, "mutex.go:136",#[],none⟩] false) (.cond (.tmp 68) (.seq (.seq (.region 19 #[⟨some 69,.move (.tmp 7),21, "mutex.go:139",#[],none⟩,⟨some 70,.binOp .and 21 (.tmp 69) (.const (.int .i32 2)) 21,21, "mutex.go:139",#[⟨0,.data⟩],none⟩,⟨some 71,.binOp .eql 21 (.tmp 70) (.const (.int .i32 0)) 21,4, "mutex.go:139",#[⟨1,.data⟩],none⟩] false) (.cond (.tmp 71) (.region 20 #[⟨some 72,.call ⟨.value (.func L.throw),#[(.const (.string ⟨⟨[115,121,110,99,58,32,105,110,99,111,110,115,105,115,116,101,110,116,32,109,117,116,101,120,32,115,116,97,116,101]⟩⟩))],#[9]⟩,0, "mutex.go:140",#[],none⟩] false) .skip)) (.region 21 #[⟨some 73,.move (.tmp 7),21, "mutex.go:142",#[],none⟩,⟨some 74,.binOp .andNot 21 (.tmp 73) (.const (.int .i32 2)) 21,21, "mutex.go:142",#[⟨0,.data⟩],none⟩,⟨some 7,.assign (.tmp 74),21, "mutex.go:142",#[⟨1,.data⟩,⟨0,.phase⟩,⟨1,.phase⟩],none⟩] false)) .skip)) (.seq (.region 22 #[⟨some 75,.move (.tmp 0),L.mu.tPIMutex, "mutex.go:144",#[],none⟩,⟨some 76,.nilCheck (.tmp 75),0, "mutex.go:144",#[⟨0,.data⟩],none⟩,⟨some 77,.fieldAddr L.mu.tIMutex (.tmp 76) 0,0, "mutex.go:144",#[⟨1,.data⟩],none⟩,⟨some 78,.move (.tmp 6),21, "mutex.go:144",#[],none⟩,⟨some 79,.move (.tmp 7),21, "mutex.go:144",#[],none⟩,⟨some 80,.call ⟨.value (.func L.mu.cas32),#[(.tmp 77),(.tmp 78),(.tmp 79)],#[L.mu.tPI32,21,21]⟩,4, "mutex.go:144",#[⟨2,.data⟩,⟨3,.data⟩,⟨4,.data⟩],none⟩] false) (.cond (.tmp 80) (.seq (.seq (.region 23 #[⟨some 81,.move (.tmp 6),21, "mutex.go:145",#[],none⟩,⟨some 82,.binOp .and 21 (.tmp 81) (.const (.int .i32 5)) 21,21, "mutex.go:145",#[⟨0,.data⟩],none⟩,⟨some 83,.binOp .eql 21 (.tmp 82) (.const (.int .i32 0)) 21,4, "mutex.go:145",#[⟨1,.data⟩],none⟩] false) (.cond (.tmp 83) (.exit 0) .skip)) (.seq (.region 24 #[⟨some 84,.move (.tmp 2),2, "mutex.go:149",#[],none⟩,⟨some 85,.binOp .neq 2 (.tmp 84) (.const (.int .i64 0)) 2,4, "mutex.go:149",#[⟨0,.data⟩],none⟩,⟨some 8,.assign (.tmp 85),4, "mutex.go:149",#[⟨1,.data⟩,⟨0,.phase⟩,⟨1,.phase⟩],none⟩] false) (.seq (.seq (.region 25 #[⟨some 86,.move (.tmp 2),2, "mutex.go:150",#[],none⟩,⟨some 87,.binOp .eql 2 (.tmp 86) (.const (.int .i64 0)) 2,4, "mutex.go:150",#[⟨0,.data⟩],none⟩] false) (.cond (.tmp 87) (.region 26 #[⟨some 88,.call ⟨.value (.func L.nano),#[],#[]⟩,2, "mutex.go:151",#[],none⟩,⟨some 2,.assign (.tmp 88),2, "mutex.go:151",#[⟨0,.data⟩,⟨0,.chain⟩,⟨0,.phase⟩],none⟩] false) .skip)) (.seq (.region 27 #[⟨some 89,.move (.tmp 0),L.mu.tPIMutex, "mutex.go:153",#[],none⟩,⟨some 90,.nilCheck (.tmp 89),0, "mutex.go:153",#[⟨0,.data⟩],none⟩,⟨some 91,.fieldAddr L.mu.tIMutex (.tmp 90) 1,0, "mutex.go:153",#[⟨1,.data⟩],none⟩,⟨some 92,.move (.tmp 8),4, "mutex.go:153",#[],none⟩,⟨some 93,.call ⟨.value (.func L.IG),#[(.tmp 91),(.tmp 92),(.const (.int .i64 2))],#[L.tPU32,4,3]⟩,0, "mutex.go:153",#[⟨2,.data⟩,⟨3,.data⟩],none⟩] false) (.seq (.region 28 #[⟨some 94,.move (.tmp 3),4, "mutex.go:154",#[],none⟩,⟨some 95,.move (.tmp 94),4, "mutex.go:154",#[⟨0,.data⟩],none⟩,⟨some 96,.call ⟨.value (.func L.nano),#[],#[]⟩,2, "mutex.go:154",#[⟨1,.chain⟩,⟨1,.guard⟩],some (1,false)⟩,⟨some 97,.move (.tmp 2),2, "mutex.go:154",#[⟨1,.guard⟩],some (1,false)⟩,⟨some 98,.binOp .sub 2 (.tmp 96) (.tmp 97) 2,2, "mutex.go:154",#[⟨2,.data⟩,⟨3,.data⟩,⟨1,.guard⟩],some (1,false)⟩,⟨some 99,.binOp .gtr 2 (.tmp 98) (.const (.int .i64 1000000)) 2,4, "mutex.go:154",#[⟨4,.data⟩,⟨1,.guard⟩],some (1,false)⟩,⟨some 100,.pick (.tmp 95) (.const (.bool true)) (.tmp 99),4, "mutex.go:154",#[⟨1,.data⟩,⟨5,.data⟩],none⟩,⟨some 3,.assign (.tmp 100),4, "mutex.go:154",#[⟨6,.data⟩,⟨2,.chain⟩,⟨0,.phase⟩,⟨1,.phase⟩,⟨2,.phase⟩,⟨3,.phase⟩,⟨4,.phase⟩,⟨5,.phase⟩,⟨6,.phase⟩],none⟩] false) (.seq (.region 29 #[⟨some 101,.move (.tmp 0),L.mu.tPIMutex, "mutex.go:155",#[],none⟩,⟨some 102,.nilCheck (.tmp 101),0, "mutex.go:155",#[⟨0,.data⟩],none⟩,⟨some 103,.fieldAddr L.mu.tIMutex (.tmp 102) 0,0, "mutex.go:155",#[⟨1,.data⟩],none⟩,⟨some 104,.load 21 (.tmp 103),21, "mutex.go:155",#[⟨2,.data⟩],none⟩,⟨some 6,.assign (.tmp 104),21, "mutex.go:155",#[⟨3,.data⟩,⟨0,.phase⟩,⟨1,.phase⟩,⟨2,.phase⟩,⟨3,.phase⟩],none⟩] false) (.seq (.seq (.region 30 #[⟨some 105,.move (.tmp 6),21, "mutex.go:156",#[],none⟩,⟨some 106,.binOp .and 21 (.tmp 105) (.const (.int .i32 4)) 21,21, "mutex.go:156",#[⟨0,.data⟩],none⟩,⟨some 107,.binOp .neq 21 (.tmp 106) (.const (.int .i32 0)) 21,4, "mutex.go:156",#[⟨1,.data⟩],none⟩] false) (.cond (.tmp 107) (.seq (.seq (.region 31 #[⟨some 108,.move (.tmp 6),21, "mutex.go:161",#[],none⟩,⟨some 109,.binOp .and 21 (.tmp 108) (.const (.int .i32 3)) 21,21, "mutex.go:161",#[⟨0,.data⟩],none⟩,⟨some 110,.binOp .neq 21 (.tmp 109) (.const (.int .i32 0)) 21,4, "mutex.go:161",#[⟨1,.data⟩],none⟩,⟨some 111,.move (.tmp 110),4, "mutex.go:161",#[⟨2,.data⟩],none⟩,⟨some 112,.move (.tmp 6),21, "mutex.go:161",#[⟨3,.guard⟩],some (3,false)⟩,⟨some 113,.binOp .shr 21 (.tmp 112) (.const (.int .u64 3)) L.tUint,21, "mutex.go:161",#[⟨4,.data⟩,⟨3,.guard⟩],some (3,false)⟩,⟨some 114,.binOp .eql 21 (.tmp 113) (.const (.int .i32 0)) 21,4, "mutex.go:161",#[⟨5,.data⟩,⟨3,.guard⟩],some (3,false)⟩,⟨some 115,.pick (.tmp 111) (.const (.bool true)) (.tmp 114),4, "mutex.go:161",#[⟨3,.data⟩,⟨6,.data⟩],none⟩] false) (.cond (.tmp 115) (.region 32 #[⟨some 116,.call ⟨.value (.func L.throw),#[(.const (.string ⟨⟨[115,121,110,99,58,32,105,110,99,111,110,115,105,115,116,101,110,116,32,109,117,116,101,120,32,115,116,97,116,101]⟩⟩))],#[9]⟩,0, "mutex.go:162",#[],none⟩] false) .skip)) (.seq (.region 33 #[⟨some 9,.assign (.const (.int .i32 (-7))),21, "mutex.go:164",#[],none⟩] false) (.seq (.seq (.region 34 #[⟨some 117,.move (.tmp 3),4, "mutex.go:165",#[],none⟩,⟨some 118,.unOp .not 4 (.tmp 117),4, "mutex.go:165",#[⟨0,.data⟩],none⟩,⟨some 119,.move (.tmp 118),4, "mutex.go:165",#[⟨1,.data⟩],none⟩,⟨some 120,.move (.tmp 6),21, "mutex.go:165",#[⟨2,.guard⟩],some (2,false)⟩,⟨some 121,.binOp .shr 21 (.tmp 120) (.const (.int .u64 3)) L.tUint,21, "mutex.go:165",#[⟨3,.data⟩,⟨2,.guard⟩],some (2,false)⟩,⟨some 122,.binOp .eql 21 (.tmp 121) (.const (.int .i32 1)) 21,4, "mutex.go:165",#[⟨4,.data⟩,⟨2,.guard⟩],some (2,false)⟩,⟨some 123,.pick (.tmp 119) (.const (.bool true)) (.tmp 122),4, "mutex.go:165",#[⟨2,.data⟩,⟨5,.data⟩],none⟩] false) (.cond (.tmp 123) (.region 35 #[⟨some 124,.move (.tmp 9),21, "mutex.go:171",#[],none⟩,⟨some 125,.binOp .sub 21 (.tmp 124) (.const (.int .i32 4)) 21,21, "mutex.go:171",#[⟨0,.data⟩],none⟩,⟨some 9,.assign (.tmp 125),21, "mutex.go:171",#[⟨1,.data⟩,⟨0,.phase⟩,⟨1,.phase⟩],none⟩] false) .skip)) (.seq (.region 36 #[⟨some 126,.move (.tmp 0),L.mu.tPIMutex, "mutex.go:173",#[],none⟩,⟨some 127,.nilCheck (.tmp 126),0, "mutex.go:173",#[⟨0,.data⟩],none⟩,⟨some 128,.fieldAddr L.mu.tIMutex (.tmp 127) 0,0, "mutex.go:173",#[⟨1,.data⟩],none⟩,⟨some 129,.move (.tmp 9),21, "mutex.go:173",#[],none⟩,⟨some 130,.call ⟨.value (.func L.mu.add32),#[(.tmp 128),(.tmp 129)],#[L.mu.tPI32,21]⟩,21, "mutex.go:173",#[⟨2,.data⟩,⟨3,.data⟩],none⟩] false) (.exit 0))))) .skip)) (.seq (.region 37 #[⟨some 4,.assign (.const (.bool true)),4, "mutex.go:176",#[],none⟩] false) (.region 38 #[⟨some 5,.assign (.const (.int .i64 0)),3, "mutex.go:177",#[],none⟩] false))))))))) (.region 39 #[⟨some 131,.move (.tmp 0),L.mu.tPIMutex, "mutex.go:179",#[],none⟩,⟨some 132,.nilCheck (.tmp 131),0, "mutex.go:179",#[⟨0,.data⟩],none⟩,⟨some 133,.fieldAddr L.mu.tIMutex (.tmp 132) 0,0, "mutex.go:179",#[⟨1,.data⟩],none⟩,⟨some 134,.load 21 (.tmp 133),21, "mutex.go:179",#[⟨2,.data⟩],none⟩,⟨some 6,.assign (.tmp 134),21, "mutex.go:179",#[⟨3,.data⟩,⟨0,.phase⟩,⟨1,.phase⟩,⟨2,.phase⟩,⟨3,.phase⟩],none⟩] false)))))))))))) (.cond (.const (.bool true)) (.seq (.region 40 #[⟨some 135,.call ⟨.value (.func L.mu.enable),#[],#[]⟩,0, "mutex.go:184",#[],none⟩] false) (.region 41 #[⟨some 136,.move (.tmp 0),L.mu.tPIMutex, "mutex.go:184",#[],none⟩,⟨some 137,.convert L.mu.tPIMutex L.mu.tUP (.tmp 136),L.mu.tUP, "mutex.go:184",#[⟨0,.data⟩],none⟩,⟨some 138,.call ⟨.value (.func L.mu.acquire),#[(.tmp 137)],#[L.mu.tUP]⟩,0, "mutex.go:184",#[⟨1,.data⟩],none⟩] false)) .skip))))))),norace:=true,ours:=true,file:= "internal/sync/mutex.go",endLine:=186,tmpNames:=#["m", "m", "waitStartTime", "starving", "awoke", "iter", "old", "new", "queueLifo", "delta", "", "", "", "", "", "", "", "", "", "", "", "", "", "", "", "", "", "", "", "", "", "", "", "", "", "", "", "", "", "", "", "", "", "", "", "", "", "", "", "", "", "", "", "", "", "", "", "", "", "", "", "", "", "", "", "", "", "", "", "", "", "", "", "", "", "", "", "", "", "", "", "", "", "", "", "", "", "", "", "", "", "", "", "", "", "", "", "", "", "", "", "", "", "", "", "", "", "", "", "", "", "", "", "", "", "", "", "", "", "", "", "", "", "", "", "", "", "", "", "", "", "", "", "", "", "", "", "", ""]}
def jq(L:ag):Func:=
 {name:= "(*internal/sync.Mutex).unlockSlow",origin:= "",params:=#[L.mu.tPIMutex,21],resultTypes:=#[],nfree:=0,ntmps:=43,results:=#[],body:=some (.seq (.seq (.region 0 #[⟨some 5,.move (.tmp 1),21, "mutex.go:209",#[],none⟩,⟨some 6,.binOp .add 21 (.tmp 5) (.const (.int .i32 1)) 21,21, "mutex.go:209",#[⟨0,.data⟩],none⟩,⟨some 7,.binOp .and 21 (.tmp 6) (.const (.int .i32 1)) 21,21, "mutex.go:209",#[⟨1,.data⟩],none⟩,⟨some 8,.binOp .eql 21 (.tmp 7) (.const (.int .i32 0)) 21,4, "mutex.go:209",#[⟨2,.data⟩],none⟩] false) (.cond (.tmp 8) (.region 1 #[⟨some 9,.call ⟨.value (.func L.fatal),#[(.const (.string ⟨⟨[115,121,110,99,58,32,117,110,108,111,99,107,32,111,102,32,117,110,108,111,99,107,101,100,32,109,117,116,101,120]⟩⟩))],#[9]⟩,0, "mutex.go:210",#[],none⟩] false) .skip)) (.seq (.region 2 #[⟨some 10,.move (.tmp 1),21, "mutex.go:212",#[],none⟩,⟨some 11,.binOp .and 21 (.tmp 10) (.const (.int .i32 4)) 21,21, "mutex.go:212",#[⟨0,.data⟩],none⟩,⟨some 12,.binOp .eql 21 (.tmp 11) (.const (.int .i32 0)) 21,4, "mutex.go:212",#[⟨1,.data⟩],none⟩] false) (.cond (.tmp 12) (.seq (.region 3 #[⟨some 13,.move (.tmp 1),21, "mutex.go:213",#[],none⟩,⟨some 4,.assign (.tmp 13),21, "mutex.go:213",#[⟨0,.data⟩,⟨0,.phase⟩],none⟩] false) (.block 0 (.loop (.block 1 (.seq (.seq (.region 4 #[⟨some 14,.move (.tmp 4),21, "mutex.go:221",#[],none⟩,⟨some 15,.binOp .shr 21 (.tmp 14) (.const (.int .u64 3)) L.tUint,21, "mutex.go:221",#[⟨0,.data⟩],none⟩,⟨some 16,.binOp .eql 21 (.tmp 15) (.const (.int .i32 0)) 21,4, "mutex.go:221",#[⟨1,.data⟩],none⟩,⟨some 17,.move (.tmp 16),4, "mutex.go:221",#[⟨2,.data⟩],none⟩,⟨some 18,.move (.tmp 4),21, "mutex.go:221",#[⟨3,.guard⟩],some (3,false)⟩,⟨some 19,.binOp .and 21 (.tmp 18) (.const (.int .i32 7)) 21,21, "mutex.go:221",#[⟨4,.data⟩,⟨3,.guard⟩],some (3,false)⟩,⟨some 20,.binOp .neq 21 (.tmp 19) (.const (.int .i32 0)) 21,4, "mutex.go:221",#[⟨5,.data⟩,⟨3,.guard⟩],some (3,false)⟩,⟨some 21,.pick (.tmp 17) (.const (.bool true)) (.tmp 20),4, "mutex.go:221",#[⟨3,.data⟩,⟨6,.data⟩],none⟩] false) (.cond (.tmp 21) .ret .skip)) (.seq (.region 5 #[⟨some 22,.move (.tmp 4),21, "mutex.go:225",#[],none⟩,⟨some 23,.binOp .sub 21 (.tmp 22) (.const (.int .i32 8)) 21,21, "mutex.go:225",#[⟨0,.data⟩],none⟩,⟨some 24,.binOp .or 21 (.tmp 23) (.const (.int .i32 2)) 21,21, "mutex.go:225",#[⟨1,.data⟩],none⟩,⟨some 1,.assign (.tmp 24),21, "mutex.go:225",#[⟨2,.data⟩,⟨0,.phase⟩,⟨1,.phase⟩,⟨2,.phase⟩],none⟩] false) (.seq (.seq (.region 6 #[⟨some 25,.move (.tmp 0),L.mu.tPIMutex, "mutex.go:226",#[],none⟩,⟨some 26,.nilCheck (.tmp 25),0, "mutex.go:226",#[⟨0,.data⟩],none⟩,⟨some 27,.fieldAddr L.mu.tIMutex (.tmp 26) 0,0, "mutex.go:226",#[⟨1,.data⟩],none⟩,⟨some 28,.move (.tmp 4),21, "mutex.go:226",#[],none⟩,⟨some 29,.move (.tmp 1),21, "mutex.go:226",#[],none⟩,⟨some 30,.call ⟨.value (.func L.mu.cas32),#[(.tmp 27),(.tmp 28),(.tmp 29)],#[L.mu.tPI32,21,21]⟩,4, "mutex.go:226",#[⟨2,.data⟩,⟨3,.data⟩,⟨4,.data⟩],none⟩] false) (.cond (.tmp 30) (.seq (.region 7 #[⟨some 31,.move (.tmp 0),L.mu.tPIMutex, "mutex.go:227",#[],none⟩,⟨some 32,.nilCheck (.tmp 31),0, "mutex.go:227",#[⟨0,.data⟩],none⟩,⟨some 33,.fieldAddr L.mu.tIMutex (.tmp 32) 1,0, "mutex.go:227",#[⟨1,.data⟩],none⟩,⟨some 34,.call ⟨.value (.func L.semrel),#[(.tmp 33),(.const (.bool false)),(.const (.int .i64 2))],#[L.tPU32,4,3]⟩,0, "mutex.go:227",#[⟨2,.data⟩],none⟩] false) .ret) .skip)) (.region 8 #[⟨some 35,.move (.tmp 0),L.mu.tPIMutex, "mutex.go:230",#[],none⟩,⟨some 36,.nilCheck (.tmp 35),0, "mutex.go:230",#[⟨0,.data⟩],none⟩,⟨some 37,.fieldAddr L.mu.tIMutex (.tmp 36) 0,0, "mutex.go:230",#[⟨1,.data⟩],none⟩,⟨some 38,.load 21 (.tmp 37),21, "mutex.go:230",#[⟨2,.data⟩],none⟩,⟨some 4,.assign (.tmp 38),21, "mutex.go:230",#[⟨3,.data⟩,⟨0,.phase⟩,⟨1,.phase⟩,⟨2,.phase⟩,⟨3,.phase⟩],none⟩] false)))))))) (.region 9 #[⟨some 39,.move (.tmp 0),L.mu.tPIMutex, "mutex.go:238",#[],none⟩,⟨some 40,.nilCheck (.tmp 39),0, "mutex.go:238",#[⟨0,.data⟩],none⟩,⟨some 41,.fieldAddr L.mu.tIMutex (.tmp 40) 1,0, "mutex.go:238",#[⟨1,.data⟩],none⟩,⟨some 42,.call ⟨.value (.func L.semrel),#[(.tmp 41),(.const (.bool true)),(.const (.int .i64 2))],#[L.tPU32,4,3]⟩,0, "mutex.go:238",#[⟨2,.data⟩],none⟩] false)))),norace:=true,ours:=true,file:= "internal/sync/mutex.go",endLine:=240,tmpNames:=#["m", "new", "m", "new", "old", "", "", "", "", "", "", "", "", "", "", "", "", "", "", "", "", "", "", "", "", "", "", "", "", "", "", "", "", "", "", "", "", "", "", "", "", "", ""]}
def qh(L:ag):Func:=
 {name:= "internal/sync.runtime_canSpin",origin:= "",params:=#[3],resultTypes:=#[4],nfree:=0,ntmps:=1,results:=#[],body:=none,norace:=true,file:= "internal/sync/runtime.go",endLine:=0,tmpNames:=#[]}
def sV(L:ag):Func:=
 {name:= "internal/sync.runtime_doSpin",origin:= "",params:=#[],resultTypes:=#[],nfree:=0,ntmps:=0,results:=#[],body:=none,norace:=true,file:= "internal/sync/runtime.go",endLine:=0,tmpNames:=#[]}
def abt(L:ag):Func:=
 {name:= "internal/sync.throw",origin:= "",params:=#[9],resultTypes:=#[],nfree:=0,ntmps:=1,results:=#[],body:=none,norace:=true,file:= "internal/sync/runtime.go",endLine:=0,tmpNames:=#[]}
def yK(L:ag):Func:=
 {name:= "internal/sync.runtime_nanotime",origin:= "",params:=#[],resultTypes:=#[2],nfree:=0,ntmps:=0,results:=#[],body:=none,norace:=true,file:= "internal/sync/runtime.go",endLine:=0,tmpNames:=#[]}
def sW(L:ag):Func:=
 {name:= "internal/sync.runtime_SemacquireMutex",origin:= "",params:=#[L.tPU32,4,3],resultTypes:=#[],nfree:=0,ntmps:=3,results:=#[],body:=none,norace:=true,file:= "internal/sync/runtime.go",endLine:=0,tmpNames:=#[]}
def fatalFn(L:ag):Func:=
 {name:= "internal/sync.fatal",origin:= "",params:=#[9],resultTypes:=#[],nfree:=0,ntmps:=1,results:=#[],body:=none,norace:=true,file:= "internal/sync/runtime.go",endLine:=0,tmpNames:=#[]}
def sZ(L:ag):Func:=
 {name:= "internal/sync.runtime_Semrelease",origin:= "",params:=#[L.tPU32,4,3],resultTypes:=#[],nfree:=0,ntmps:=3,results:=#[],body:=none,norace:=true,file:= "internal/sync/runtime.go",endLine:=0,tmpNames:=#[]}
structure fC(P:Program)(L:ag):Prop where
 lib:MuLib P L.mu
 wo:P.funcs[L.mu.lockSlow]?=some (kS L)
 qO:P.funcs[L.mu.unlockSlow]?=some (jq L)
 GG:P.funcs[L.canSpin]?=some (qh L)
 XQ:P.funcs[L.IE]?=some (sV L)
 aiO:P.funcs[L.throw]?=some (abt L)
 XR:P.funcs[L.nano]?=some (yK L)
 XT:P.funcs[L.IG]?=some (sW L)
 f_fatal:P.funcs[L.fatal]?=some (fatalFn L)
 xB:P.funcs[L.semrel]?=some (sZ L)
 runUnderlying_tPU32:∀(w:World),Sem.run P (underlying L.tPU32) w=Result.ok (TypeDesc.pointer L.mu.tU32) w
 sizeOf_tU32:∀(w:World),Sem.run P (Go.sizeOf L.mu.tU32) w=Result.ok 1 w
 isAgg_tU32:∀(w:World),Sem.run P (isAgg L.mu.tU32) w=Result.ok false w
 runUnderlying_tU32:∀(w:World),Sem.run P (underlying L.mu.tU32) w=Result.ok (TypeDesc.int IntKind.u32) w
 UK:∀(w:World),Sem.run P (underlying 2) w=Result.ok (TypeDesc.int IntKind.i64) w
 runUnderlying_t3:∀(w:World),Sem.run P (underlying 3) w=Result.ok (TypeDesc.int IntKind.i64) w
 runUnderlying_t4:∀(w:World),Sem.run P (underlying 4) w=Result.ok TypeDesc.bool w
end Go.Mx
