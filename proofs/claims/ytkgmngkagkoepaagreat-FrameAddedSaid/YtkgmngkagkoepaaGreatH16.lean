import Derived.Test.YtkgmngkagkoepaaGreatH14
import Derived.Test.YtkgmngkagkoepaaGreatH15
set_option linter.all false
namespace Go.Am
section
variable{P:Program}{T:Tr TI}{j:Tr Func}{pl:bP}{g:List Value}{h p:AH}{o:Oper}{v:Value}{x:Operand}{c:Ctx}{s s':AS}{k:List aS}{ops:Array Oper}{i:Nat}{l:List Nat}{next:K}
theorem J9{a b:Code}{d f:K}(n:di P pl (.code a::k) d)(q:di P pl (.code b::k) f)(x:Operand):di P pl (.code (.cond x a b)::k) (UR d f x):=by
 intro c g h s' e;unfold UR at e;split at e
 · rename_i t;split at e
   ·rename_i u r;have w:au ⟨g⟩ (.tmp t)=.bool u:=AZ _ _ r
    have m:aH P pl none (mk (.code (.cond (.tmp t) a b)::k) c g h)=some (.go (mk (.code (if u then a else b)::k) c g h)):=by
     unfold aH mk;dsimp only
     rw[if_pos (show FP (.tmp t)=true from rfl),w];rfl
    cases u with
    |true=>exact .one m (n c g h s' e)
    |false=>exact .one m (q c g h s' e)
   ·cases e
 · cases e
theorem Qj:di P pl (.code .ret::k) (adH k):=by
 intro c g h s' e;unfold adH at e;split at e
 · rename_i b;cases e;refine .one (s₁:=⟨⟨c.fn,⟨g⟩,.code .ret::k,c.defers,true,none,c.dk⟩,c.cs,h⟩) ?_ (.here rfl);unfold aH mk nY;dsimp only
   rw[b]
 · cases e
theorem Ko{id:Nat}:di P pl (.code (.exit id)::k) (U5 id k):=by
 intro c g h s' e;unfold U5 at e;split at e
 · rename_i b d;cases e;refine .one (s₁:=mk b c g h) ?_ (.here rfl);unfold aH mk;dsimp only
   rw[d];rfl
 · cases e
theorem zh(K:bF P T)(KF:gK P j):∀(x:Code) (k:List aS),di P pl (.code x::k) (codeF P T j x k):=by
 intro x;induction x with
 | skip=>exact fun k=>fF (fun c g h=>rfl) (rO k)
 | region id ops d=>
   intro k;cases d with
   |false=>
    have:=vk (pl:=pl) (ops:=ops) (k:=k) K KF (List.range ops.toList.length) false
    exact fF (fun c g h=>rfl) this
   |true=>exact jC _
 | seq a b e f=>exact fun k=>fF (fun c g h=>rfl) (e (.code b::k))
 | cond x a b e f=>exact fun k=>J9 (e k) (f k) x
 | block id b m=>exact fun k=>fF (fun c g h=>rfl) (m (.inBlock id::k))
 | loop b m=>exact fun k=>fF (fun c g h=>rfl) (m (.inLoop b::k))
 | exit id=>exact fun k=>Ko
 | ret=>exact fun k=>Qj
 | goto _=>exact fun k=>jC _
 | label _=>exact fun k=>jC _
 | scope _ _=>exact fun k=>jC _
 | rangeFunc _ _ _ _ _ _=>exact fun k=>jC _
 | refuse _=>exact fun k=>jC _
theorem Iy(K:bF P T)(KF:gK P j)(x:aS)(k:List aS):di P pl (x::k) (abW P T j x k):=by
 cases x with
 | code x=>exact zh K KF x k
 | inBlock id=>exact fF (fun c g h=>rfl) (rO k)
 | inLoop b=>exact fF (fun c g h=>rfl) (zh K KF b (.inLoop b::k))
 | inScope b=>exact fF (fun c g h=>rfl) (rO k)
 | region ops l=>exact vk K KF l true
 | drawn ops l=>exact lV K KF l true
 | inRangeFunc l=>exact jC _
 | endRangeFunc l=>exact jC _
 | beginRound=>exact jC _
def adI(g:List Value)(r:ResultVar):Value:=match r with
 | .tmp t=>(Array.mk g).getD t undef
 | _=>undef
theorem Ef:∀(b:List ResultVar) {l:List Value},ZX g b=some l->(∀r∈b,∃t,r=.tmp t)/\b.map (adI g)=l
 | [],l,e=>by cases e;exact⟨fun r d=>(by cases d),rfl⟩
 | .cell a t::b,l,e=>by cases e
 | .tmp t::b,l,e=>by
   replace e:(match nth g t with
     |some v=>match ZX g b with
      |some m=>some (v::m)
      |none=>none
     |none=>none)=some l:=e
   split at e
   ·rename_i v f;split at e
    ·rename_i m n;cases e;obtain⟨q,u⟩:=Ef b n
     refine⟨fun r d=>?_,?_⟩
     ·rcases List.mem_cons.1 d with rfl|d
      ·exact⟨t,rfl⟩
      ·exact q r d
     ·rw[List.map_cons,u];unfold adI;dsimp only
      rw[AZ _ _ f]
    ·cases e
   ·cases e
theorem Bq{d:Func}{l:List Value}(e:ZX g d.results.toList=some l):(results d ⟨g⟩).ar P none h=some (resV l,h):=by
 obtain⟨q,w⟩:=Ef _ e
 have y:∀(f:ResultVar->Sem Value),(∀t,f (.tmp t)=Pure.pure ((Array.mk g).getD t undef))->∀(b:List ResultVar) (m:List Value),(∀r∈b,∃t,r=.tmp t)->b.map (adI g)=m->(b.mapM f).ar P none h=some (m,h):=by
   intro f z b;induction b with
   |nil=>intro m _ e;cases e;rfl
   |cons r b A=>
    intro m n e;obtain⟨t,rfl⟩:=n _ List.mem_cons_self
    rw[List.map_cons]at e;subst e;rw[List.mapM_cons,z,kY (UT _),kY (A _ (fun r p=>n r (List.mem_cons_of_mem _ p)) rfl)];rfl
 unfold results;rw[Array.mapM_eq_mapM_toList];have B:∀(X:Sem (List Value)),X.ar P none h=some (l,h)->(Functor.map List.toArray X).ar P none h=some (l.toArray,h):=by
   intro X C;show(X>>=fun a=>(Pure.pure a.toArray:Sem (Array Value))).ar P none h=_
   rw[kY C];rfl
 rw[kY (B _ (y _ (fun t=>by rfl) d.results.toList l q w))];show some (_,h)=_
 match l with
 | []=>rfl
 | [v]=>rfl
 | u::v::l=>rfl
theorem Kq{d:ak}{y:List ak}(K:bF P T)(KF:gK P j)(e:U7 T j (d::y) h c.fn ⟨g⟩ c.defers c.dk=some s'):aH P pl none ⟨⟨c.fn,⟨g⟩,k,c.defers,true,c.round,c.dk⟩,d::y,h⟩=some (.go s'):=by
 unfold U7 at e;split at e
 · rename_i hd;split at e
   ·rename_i B;dsimp only at e;split at e
    ·rename_i Q F;split at e
     ·rename_i l L;obtain⟨M,R⟩:=KF.get _ _ F
      obtain⟨q,a,z,b,n,f,r⟩:=d
      replace e:U6 T h y q a z b n f r (resV l)=some s':=e
      unfold U6 at e;split at e
      ·rename_i ops i rest C;split at e
       ·rename_i o D;rw[iR]at D;have u:ops[i]?=some o:=by simpa using D
        have w:aH P pl none ⟨⟨c.fn,⟨g⟩,k,c.defers,true,c.round,c.dk⟩,⟨q,a,.region ops (i::rest)::C,b,n,f,r⟩::y,h⟩=some (.go ⟨⟨q,dM a o.dst (resV l),.region ops rest::C,b,n,f,r⟩,y,h⟩):=by
         unfold aH nN;dsimp only
         rw[hd];dsimp only
         rw[M];dsimp only
         rw[Bq L,B];unfold uF aF;dsimp only
         rw[u];rfl
        rw[w];split at e
        ·rename_i t m;rw[jA]at e;cases e;rw[m];have N:dM a (some t) (resV l)=⟨a.toList.set t (resV l)⟩:=by
          unfold dM;apply Array.ext';simp
         rw[N]
        ·rename_i m;cases e;rw[m];rfl
       ·cases e
      ·rename_i ops i again rest C;split at e
       ·rename_i o D;rw[iR]at D;have u:ops[i]?=some o:=by simpa using D
        split at e
        ·rename_i H;have w:∀E:Array Value,dM a o.dst (resV l)=E->recheck P ops again E h=true->aH P pl none ⟨⟨c.fn,⟨g⟩,k,c.defers,true,c.round,c.dk⟩,⟨q,a,.drawn ops ((i,again)::rest)::C,b,n,f,r⟩::y,h⟩=some (.go ⟨⟨q,E,.drawn ops rest::C,b,n,f,r⟩,y,h⟩):=by
          intro E O J;unfold aH nN;dsimp only
          rw[hd];dsimp only
          rw[M];dsimp only
          rw[Bq L,B];unfold uF aF;dsimp only
          rw[J7 u H,Iw u,O];simp only[Bool.false_eq_true,if_false]
          rw[if_pos ⟨trivial,J⟩];rfl
         split at e
         ·rename_i t m;rw[jA]at e;cases A:ZB T (a.toList.set t (resV l)) h ops again with
          |false=>rw[A]at e;cases e
          |true=>rw[A]at e;cases e;refine w _ ?_ (oG K _ A);rw[m];unfold dM;apply Array.ext';simp
         ·rename_i m;cases A:ZB T a.toList h ops again with
          |false=>rw[A]at e;cases e
          |true=>rw[A]at e;cases e;exact w _ (by rw[m];rfl) (oG K _ A)
        ·cases e
       ·cases e
      ·cases e
     ·cases e
    ·cases e
   ·cases e
 · cases e
theorem pO(K:bF P T)(KF:gK P j)(e:pK P T j s=some s'):To P pl s' s:=by
 obtain⟨⟨f,⟨g⟩,a,defers,m,round,n⟩,b,h⟩:=s
 cases m with
 | false=>
   cases a with
   |nil=>cases e
   |cons x k=>exact Iy K KF x k ⟨f,defers,round,n,b⟩ g h s' e
 | true=>
   cases b with
   |nil=>
    replace e:U7 T j [] h f ⟨g⟩ defers n=some s':=e
    unfold U7 at e;split at e
    ·split at e<;>cases e
    ·cases e
   |cons d b=>exact .one (Kq (c:=⟨f,defers,round,n,b⟩) (k:=a) K KF e) (.here rfl)
theorem rQ(K:bF P T)(KF:gK P j):∀(n:Nat) {s:AS},Bg P pl T j n s=some (.go s')->To P pl s' s
 | 0,s,e=>by cases e;exact .here rfl
 | n+1,s,e=>by
   replace e:Option.rec (NY P pl s (Bg P pl T j n)) (Bg P pl T j n) (pK P T j s)=some (.go s'):=e
   cases f:pK P T j s with
   |some a=>rw[f]at e;exact(pO K KF f).bind fun m b=>by subst b;exact rQ K KF n e
   |none=>
    rw[f]at e;replace e:NY P pl s (Bg P pl T j n)=some (.go s'):=e
    unfold NY at e;split at e
    ·rename_i a d;exact .one d (rQ K KF n e)
    ·rename_i q;exact absurd e (q s')
theorem To.all{Q:Value->AH->Prop}(k:To P pl s' s)(q:iV P pl Q s'):iV P pl Q s:=by
 induction k with
 | here h=>exact h▸q
 | step b f m=>exact .step (fun c=>let⟨s',h⟩:=b c;⟨_,h⟩) (fun c a e=>m c a e) (fun c v h e=>by obtain⟨a,d⟩:=b c;rw[d]at e;cases e)
end
end Go.Am
namespace Go.Am
open Go.Ren (grow gp aQ az Wk)
def _root_.Go.Sem.arity{b:Type}(P:Program):Sem b->AH->Nat
 | .load _ a k,h=>match h.cell a with
   |some v=>(k v).arity P h
   |none=>1
 | .store _ a v k,h=>match h.setCell a v with
   |some c=>k.arity P c
   |none=>1
 | .new o k,h=>(k h.n).arity P (h.new o)
 | .shape r k,h=>match h.look r with
   |some {obj:=.cells l e _,..}=>(k (some (e,l.size))).arity P h
   |some _=>(k none).arity P h
   |none=>1
 | .getObj r k,h=>match h.look r with
   |some B=>(k B.obj).arity P h
   |none=>1
 | .setObj r o k,h=>match h.look r with
   |some B=>k.arity P (h.put r B o)
   |none=>1
 | .choose q k,h=>if q.forced then(k 0).arity P h else match q with
   | .mapNext n=>n
   |_=>1
 | .program k,h=>(k P).arity P h
 | _,_=>1
section
variable{P:Program}{pl:bP}
theorem adJ{j:Type}(s:Sem j):∀(h:AH) (c:Nat),s.ar P (some c) h=s.ar P (some (c%s.arity P h)) h:=by
 induction s with
 | load m a k b=>
   intro h c;have e:=fun c=>Sem.ar.eq_def (P:=P) (Sem.load m a k) c h
   dsimp only at e;rw[e,e,Sem.arity];generalize h.cell a=q
   cases q with
   |none=>rfl
   |some v=>
    cases m with
    |plain=>exact b v h c
    |atomic=>rfl
 | store m a v k b=>
   intro h c;have e:=fun c=>Sem.ar.eq_def (P:=P) (Sem.store m a v k) c h
   dsimp only at e;rw[e,e,Sem.arity];cases v<;>cases m<;>first|rfl|skip
   all_goals
    dsimp only
    generalize h.setCell a _=q
    cases q with
    |none=>rfl
    |some l=>exact b l c
 | new o k b=>
   intro h c;have e:=fun c=>Sem.ar.eq_def (P:=P) (Sem.new o k) c h
   dsimp only at e;rw[e,e,Sem.arity];split<;>first|rfl|exact b _ _ c
 | shape r k b=>
   intro h c;have e:=fun c=>Sem.ar.eq_def (P:=P) (Sem.shape r k) c h
   dsimp only at e;rw[e,e,Sem.arity];generalize h.look r=q
   cases q with
   |none=>rfl
   |some B=>
    obtain⟨o,f,g,u⟩:=B
    cases o<;>exact b _ h c
 | getObj r k b=>
   intro h c;have e:=fun c=>Sem.ar.eq_def (P:=P) (Sem.getObj r k) c h
   dsimp only at e;rw[e,e,Sem.arity];generalize h.look r=q
   cases q with
   |none=>rfl
   |some B=>
    obtain⟨o,f,g,u⟩:=B
    cases o<;>first|rfl|exact b _ h c
 | setObj r o k b=>
   intro h c;have e:=fun c=>Sem.ar.eq_def (P:=P) (Sem.setObj r o k) c h
   dsimp only at e;rw[e,e,Sem.arity];generalize h.look r=q
   cases q with
   |none=>cases o<;>rfl
   |some B=>
    obtain⟨p,f,g,u⟩:=B
    cases p<;>cases o<;>first|rfl|skip
    all_goals
     cases g<;>first|rfl|exact b _ c
 | choose q k b=>
   intro h c;have e:=fun c=>Sem.ar.eq_def (P:=P) (Sem.choose q k) c h
   have i:=Sem.arity.eq_def (P:=P) (Sem.choose q k) h
   dsimp only at e i;rw[e,e,i];by_cases d:q.forced=true
   ·rw[if_pos d,if_pos d,if_pos d];exact b 0 h c
   ·rw[if_neg d,if_neg d,if_neg d];cases q<;>first|rfl|skip
    show(k (c%_)).ar P none h=(k (c%_%_)).ar P none h;rw[Nat.mod_mod]
 | program k b=>
   intro h c;have e:=fun c=>Sem.ar.eq_def (P:=P) (Sem.program k) c h
   dsimp only at e;rw[e,e,Sem.arity];exact b P h c
 | _=>intro h c;rfl
def Bv(s:AS):Option Oper:=match s.fr.ret,s.fr.todo with
 | false,.region a (i::_)::_=>match a[i]? with
   |some o=>if Region.wanted o (yielded a s.fr.tmps)&&!cu o then some o else none
   |none=>none
 | _,_=>none
theorem Eg{s:AS}{o:Oper}(a:Bv s=some o)(c:Nat):aH P pl (some c) s=aH P pl (some (c%(execOp (au s.fr.tmps) o).arity P s.h)) s:=by
 unfold Bv at a;split at a
 · rename_i e i l k f g;split at a
   ·rename_i j d;split at a
    ·rename_i b;cases a;rw[Bool.and_eq_true,Bool.not_eq_true']at b;unfold aH;rw[f,g];dsimp only
     rw[d];dsimp only
     rw[if_pos b.1,if_pos b.1];congr 1;unfold bV;rw[b.2];simp only[Bool.false_eq_true,if_false]
     rw[adJ]
    ·cases a
   ·cases a
 · cases a
noncomputable section
def ig(P:Program)(pl:bP)(T:Tr TI)(b:Tr Func)(n:Nat):AS->Sum AS (Value×AH):=
 Nat.rec (fun s=>.inl s) (fun _ a s=>Option.rec (match aH P pl none s with
   |some (.go c)=>a c
   |some (.ret v h)=>.inr (v,h)
   |none=>.inl s) a (pK P T b s)) n
def tryAll(f:Nat->Option (List (Value×AH)))(m:Nat):Option (List (Value×AH)):=Nat.rec (some []) (fun c a=>match f c with
 | some l=>match a with
   |some m=>some (l++m)
   |none=>none
 | none=>none) m
def explore(P:Program)(pl:bP)(T:Tr TI)(b:Tr Func)(n d:Nat):AS->Option (List (Value×AH)):=
 Nat.rec (fun _=>none) (fun _ a s=>match ig P pl T b n s with
   | .inr x=>some [x]
   | .inl s=>match Bv s with
    |some o=>bif Nat.beq ((execOp (au s.fr.tmps) o).arity P s.h) 0 then none else tryAll (fun c=>match aH P pl (some c) s with
     |some (.go e)=>a e
     |_=>none) ((execOp (au s.fr.tmps) o).arity P s.h)
    |none=>none) d
end
variable{T:Tr TI}{b:Tr Func}
theorem tY(K:bF P T)(KF:gK P b){Q:Value->AH->Prop}:∀(n:Nat) {s:AS},(∀c,ig P pl T b n s=.inl c->iV P pl Q c)->(∀v h,ig P pl T b n s=.inr (v,h)->Q v h)->iV P pl Q s
 | 0,s,d,g=>d s rfl
 | n+1,s,d,g=>by
   have a:ig P pl T b (n+1) s=Option.rec (match aH P pl none s with
    |some (.go c)=>ig P pl T b n c
    |some (.ret v h)=>.inr (v,h)
    |none=>.inl s) (ig P pl T b n) (pK P T b s):=rfl
   cases j:pK P T b s with
   |some f=>rw[j]at a;exact(pO K KF j).all (tY K KF n (fun c e=>d c (a.trans e)) fun v h e=>g v h (a.trans e))
   |none=>
    rw[j]at a;replace a:ig P pl T b (n+1) s=(match aH P pl none s with
     |some (.go c)=>ig P pl T b n c
     |some (.ret v h)=>.inr (v,h)
     |none=>.inl s):=a
    cases i:aH P pl none s with
    |none=>rw[i]at a;exact d s a
    |some r=>
     rw[i]at a;cases r with
     |go f=>exact .one i (tY K KF n (fun c e=>d c (a.trans e)) fun v h e=>g v h (a.trans e))
     |ret v h=>exact .ret i (g v h a)
theorem zk{f:Nat->Option (List (Value×AH))}:∀(m:Nat) {L:List (Value×AH)},tryAll f m=some L->∀c,c<m->∃l,f c=some l/\∀x∈l,x∈L
 | 0,L,e,c,g=>absurd g (Nat.not_lt_zero _)
 | m+1,L,e,c,g=>by
   replace e:(match f m with
    |some l=>match tryAll f m with
     |some m=>some (l++m)
     |none=>none
    |none=>none)=some L:=e
   split at e
   ·rename_i l h;split at e
    ·rename_i k i;cases e;by_cases a:c=m
     ·subst a;exact⟨l,h,fun x d=>List.mem_append.2 (.inl d)⟩
     ·obtain⟨j,n,o⟩:=zk m i c (by omega)
      exact⟨j,n,fun x d=>List.mem_append.2 (.inr (o x d))⟩
    ·cases e
   ·cases e
theorem zl(K:bF P T)(KF:gK P b){n:Nat}:∀(d:Nat) {s:AS} {L:List (Value×AH)},explore P pl T b n d s=some L->iV P pl (fun v h=>(v,h)∈L) s
 | 0,s,L,e=>by cases e
 | d+1,s,L,e=>by
   replace e:(match ig P pl T b n s with
    | .inr x=>some [x]
    | .inl s=>match Bv s with
     |some o=>bif Nat.beq ((execOp (au s.fr.tmps) o).arity P s.h) 0 then none else tryAll (fun c=>match aH P pl (some c) s with
      |some (.go j)=>explore P pl T b n d j
      |_=>none) ((execOp (au s.fr.tmps) o).arity P s.h)
     |none=>none)=some L:=e
   refine tY K KF n (fun a f=>?_) fun v h f=>?_
   ·rw[f]at e;dsimp only at e;split at e
    ·rename_i o q;cases m:Nat.beq ((execOp (au a.fr.tmps) o).arity P a.h) 0 with
     |true=>rw[m]at e;cases e
     |false=>
     rw[m]at e;have r:(execOp (au a.fr.tmps) o).arity P a.h≠0:=fun h0=>by rw[h0]at m;cases m
     have all:∀c,∃j,aH P pl (some c) a=some (.go j)/\iV P pl (fun v h=>(v,h)∈L) j:=by
      intro c;have t:=Eg (P:=P) (pl:=pl) q c
      obtain⟨l,i,p⟩:=zk _ e (c%(execOp (au a.fr.tmps) o).arity P a.h) (Nat.mod_lt _ (Nat.pos_of_ne_zero r))
      split at i
      ·rename_i j g;exact⟨j,t.trans g,(zl K KF d i).mono fun v h u=>p _ u⟩
      ·cases i
     refine .step (fun c=>let⟨j,h,_⟩:=all c;⟨_,h⟩) (fun c j g=>?_) fun c v h g=>?_
     ·obtain⟨k,i,p⟩:=all c
      rw[g]at i;cases i;exact p
     ·obtain⟨k,i,p⟩:=all c
      rw[g]at i;cases i
    ·cases e
   ·rw[f]at e;cases e;exact List.mem_singleton.2 rfl
end
end Go.Am
namespace Go.Am
open Go.Ren (grow gp aQ az Wk)
def AH.move(h:AH)(l:List Nat)(B:aY):AH:=
 ⟨h.n+1,(h.forget l).tr.set h.n {B with fM:=B.fM.map fun _=>h.n},match B.fM with
   |none=>(h.forget l).dB
   |some _=>(h.forget l).dB.set h.n [h.n]⟩
def FQ(h:AH)(b:Nat)(B:aY)(l:List Nat):Bool:=l.all fun x=>x !=b&&match h.look x with
 | some X=>(match X.fM,B.fM with
   |some f,some g=>f !=g
   |_,_=>true)&&X.fM !=some h.n
 | none=>true
section
variable{P:Program}{a σ:Env}{O D:Nat->Prop}{h h':AH}{w w':World}{b:Nat}{B:aY}{l:List Nat}
theorem pR{h:AH}:∀(l:List Nat) {b:Nat} {B:aY},(fP h l).get b=some B->b∈l
 | [],b,B,e=>by cases e
 | c::l,b,B,e=>by
   unfold fP at e;split at e
   ·rw[Tr.dQ]at e;split at e
    ·rename_i d;subst d;exact List.mem_cons_self
    ·exact List.mem_cons_of_mem _ (pR l e)
   ·exact List.mem_cons_of_mem _ (pR l e)
def Env.mv(a:Env)(b N:Nat):Env:=a.add N (a.to b) (a.bD b) (a.u b) (a.ext b)
theorem jV{x:Nat}{X:aY}(k:(h.move l B).look x=some X):(x=h.n/\X={B with fM:=B.fM.map fun _=>h.n})∨(x≠h.n/\(fP h l).get x=some X/\h.look x=some X):=by
 have c:=fJ k
 unfold AH.move at c;dsimp only at c;rw[Tr.dQ]at c;split at c
 · rename_i d;cases c;exact .inl ⟨d,rfl⟩
 · rename_i d;exact .inr ⟨d,c,iJ l c⟩
theorem Rel.move(r:Rel a O D h w)(R:h.look b=some B)(hc:∃c e f,B.obj=.cells c e f)(s:a.born b)(a2:FQ h b B l=true):Rel (a.mv b h.n) O D (h.move l B) w:=by
 have a3:¬a.born h.n:=fun j=>Nat.lt_irrefl _ (r.fresh _ j)
 have N:a.Le (a.mv b h.n):=Env.jb a3
 have r1:Rel a O D (h.forget l) w:=r.forget l
 have hl:∀x X,(fP h l).get x=some X->x≠b/\(∀f,X.fM=some f->B.fM≠some f)/\X.fM≠some h.n:=by
   intro x X j;have hm:=pR l j
   have Q:=iJ l j
   have:=(List.all_eq_true.1 a2) x hm
   rw[Q]at this;simp only[Bool.and_eq_true,bne_iff_ne,ne_eq]at this;obtain⟨t,C,F⟩:=this
   refine⟨t,fun f k T=>?_,F⟩;rw[k,T]at C;simp at C
 have born:∀x,(a.mv b h.n).born x->x≠h.n->a.born x:=fun x j d=>j.resolve_left d
 obtain⟨cc,ee,ff,U⟩:=hc
 have V:∀f m,(h.move l B).dB.get f=some m->(f=h.n/\m=[h.n]/\∃g,B.fM=some g)∨(h.forget l).dB.get f=some m:=by
   intro f m k;unfold AH.move at k;dsimp only at k;cases T:B.fM with
   |none=>rw[T]at k;exact .inr k
   |some g=>
    rw[T]at k;dsimp only at k;rw[Tr.dQ]at k;split at k
    ·rename_i e;cases k;exact .inl ⟨e,rfl,g,T▸rfl⟩
    ·exact .inr k
 have up:∀x n,x≠h.n->(h.move l B).upTo (a.mv b h.n) x n->(h.forget l).upTo a x n:=by rintro x n d ⟨X,c,e,f,t,C,F⟩;unfold AH.move at t;dsimp only at t;rw[Tr.dQ,if_neg d]at t;unfold Env.mv at F;rw[aj d]at F;exact⟨X,c,e,f,t,C,F⟩
 refine⟨fun x X c e f j H W=>?_,fun x X j H W=>?_,fun x X j H=>?_,fun x y X Y j hy H Z d u=>?_,fun x j=>?_,fun x j=>?_,fun x X j H=>?_,fun f m k=>?_,fun f m k x a0=>?_⟩
 · rcases jV H with⟨rfl,rfl⟩|⟨d,_,p⟩
   ·obtain⟨A,E,g,c1,c2,c3,c4,c5⟩:=r.cells b B c e f s R W
    unfold Env.mv;rw[dD,tK];exact⟨A,E,g,c1,c2,c3,fun hn=>c4 fun hp=>hn ⟨by rw[hp.1];rfl,hp.2.1,hp.2.2⟩,fun i v hv=>by obtain⟨v',k1,k2⟩:=c5 i v hv;exact⟨v',k1,k2.mono N⟩⟩
   ·obtain⟨A,E,g,c1,c2,c3,c4,c5⟩:=r.cells x X c e f (born x j d) p W
    unfold Env.mv;rw[aj d,pz d];exact⟨A,E,g,c1,c2,c3,c4,fun i v hv=>by obtain⟨v',k1,k2⟩:=c5 i v hv;exact⟨v',k1,k2.mono N⟩⟩
 · rcases jV H with⟨rfl,rfl⟩|⟨d,_,p⟩
   ·exact absurd U (W _ _ _)
   ·obtain⟨o1,o2,o3,o4⟩:=r.obj x X (born x j d) p W
    unfold Env.mv;rw[aj d];exact⟨o1,o2,o3,o4.mono N⟩
 · rcases jV H with⟨rfl,rfl⟩|⟨d,_,p⟩
   ·unfold Env.mv;rw[dD];exact r.own b B s R
   ·unfold Env.mv;rw[aj d];exact r.own x X (born x j d) p
 · rcases jV H with⟨rfl,rfl⟩|⟨q,a1,L⟩
   ·rcases jV Z with⟨rfl,rfl⟩|⟨o,M,z⟩
    ·exact absurd rfl d
    ·unfold Env.mv at u;rw[dD,aj o]at u;obtain⟨t,C,F⟩:=hl y Y M
     rcases r.sep b y B Y s (born y hy o) R z (fun e=>t e.symm) u with⟨f,g1,g2⟩|g
     ·exact absurd g1 (C f g2)
     ·exact .inr ⟨⟨by show Option.map _ B.fM=none;rw[g.1.1];rfl,g.1.2⟩,g.2⟩
   ·rcases jV Z with⟨rfl,rfl⟩|⟨o,M,z⟩
    ·unfold Env.mv at u;rw[dD,aj q]at u;obtain⟨t,C,F⟩:=hl x X a1
     rcases r.sep b x B X s (born x j q) R L (fun e=>t e.symm) u.symm with⟨f,g1,g2⟩|g
     ·exact absurd g1 (C f g2)
     ·exact .inr ⟨g.2,⟨by show Option.map _ B.fM=none;rw[g.1.1];rfl,g.1.2⟩⟩
    ·unfold Env.mv at u;rw[aj q,aj o]at u;exact r.sep x y X Y (born x j q) (born y hy o) L z d u
 · rcases j with rfl|j
   ·exact Nat.lt_succ_self _
   ·exact Nat.lt_succ_of_lt (r.fresh x j)
 · unfold Env.mv;by_cases d:x=h.n
   ·subst d;rw[dD];exact r.low b s
   ·rw[aj d];exact r.low x (born x j d)
 · rcases jV H with⟨rfl,rfl⟩|⟨d,_,p⟩
   ·obtain⟨s1,s2⟩:=r.bD b B s R
    unfold Env.mv;rw[mF,Hz];cases k:B.fM with
    |none=>rw[k]at s1 s2;exact⟨by simpa using s1,fun e=>absurd rfl e⟩
    |some f=>rw[k]at s1 s2;refine⟨⟨fun _=>by simp,fun _=>s1.2 (by simp)⟩,fun _=>s2 (by simp)⟩
   ·unfold Env.mv;rw[lT d,wC d];exact r.bD x X (born x j d) p
 · rcases V f m k with⟨rfl,rfl,g,hg⟩|J
   ·exact List.pairwise_singleton _ _
   ·have hm:=r1.mem f m J
    refine(r1.row f m J).imp_of_mem fun{x y} j hy a4=>?_
    have nx:x≠h.n:=Nat.ne_of_lt (hm x j).1;have ny:y≠h.n:=Nat.ne_of_lt (hm y hy).1;intro bx bY u n n' u1 u2;unfold Env.mv at u;rw[aj nx,aj ny]at u;exact a4 (born x bx nx) (born y bY ny) u n n' (up x n nx u1) (up y n' ny u2)
 · rcases V f m k with⟨rfl,rfl,g,hg⟩|J
   ·have:=List.mem_singleton.1 a0;subst this;refine⟨Nat.lt_succ_self _,{B with fM:=B.fM.map fun _=>h.n},?_,?_⟩
    ·unfold AH.move;dsimp only
     rw[Tr.dQ,if_pos rfl]
    ·dsimp only
     rw[hg];rfl
   ·obtain⟨t,X,C,F⟩:=r1.mem f m J x a0
    have d:x≠h.n:=Nat.ne_of_lt t
    refine⟨Nat.lt_succ_of_lt t,X,?_,F⟩;unfold AH.move;dsimp only
    rw[Tr.dQ,if_neg d];exact C
end
end Go.Am
namespace Go.Am
open Go.Conc.Lib
open Go.Ren (grow gp aQ az Wk At aG Keep full)
def vz(c:ak):Option (Array Oper×Nat×List Nat×List aS×Nat):=match c.todo with
 | .region a (i::rest)::k=>match(a[i]?).bind (·.dst)with
   |some d=>if d<c.tmps.size then some (a,i,rest,k,d)else none
   |none=>none
 | _=>none
def Vb(h:AH)(d e:Nat)(B:aY)(l:List Nat)(x:Value×AH):Bool:=match x.1 with
 | .slice (some ⟨b,0,none⟩) n c=>n==d&&c==e&&agree h x.2 l&&match x.2.look b with
   |some a=>Fz a.obj B.obj&&a.ro==B.ro&&a.u==B.u&&(a.fM.isSome==B.fM.isSome)&&FQ x.2 b a l
   |none=>false
 | _=>false
def lW(P:Program)(c:ak)(cs:List ak)(l:List Nat)(L:List (Value×AH)):Option AS:=match L with
 | (.slice (some ⟨b,0,none⟩) n a,h)::_=>match h.look b with
   |some B=>match B.obj with
    | .cells ..=>match vz c with
     |some (e,i,rest,k,d)=>if L.all (Vb h n a B l)then some ⟨{c with tmps:=c.tmps.setIfInBounds d (.slice (some ⟨h.n,0,none⟩) n a),todo:=.region e rest::k},cs,h.move l B⟩else none
     |none=>none
    |_=>none
   |none=>none
 | _=>none
section
variable{P:Program}{j C:Env}{O D:Nat->Prop}{F W U Z Z':Nat->Prop}{N:Nat}{h E:AH}{w w' q:World}{base cs:List Frame}{a A:ak}{f:Frame}{b:Nat}{B:aY}{l:List Nat}{c:ak}{p:List ak}{g:Goroutine}{pl:bP}{s s':AS}{m:Machine}{t:Trace}{eX:Machine->Outcome->World->Trace->Prop}{L:WgLink}{T:Tr TI}{Fu:Tr Func}
theorem zn{n:Array Oper}{i d:Nat}{rest:List Nat}{k:List aS}(e:vz c=some (n,i,rest,k,d)):c.todo=.region n (i::rest)::k/\(n[i]?).bind (·.dst)=some d/\d<c.tmps.size:=by
 unfold vz at e;split at e
 · rename_i r;split at e
   ·rename_i u hd;split at e
    ·rename_i o;cases e;exact⟨r,hd,o⟩
    ·cases e
   ·cases e
 · cases e
theorem Iz{n:Array Oper}{i d:Nat}{rest:List Nat}{k:List aS}(e:vz c=some (n,i,rest,k,d))(h:AH)(v:Value):aF P c h v=some {c with tmps:=c.tmps.setIfInBounds d v,todo:=.region n rest::k}:=by
 obtain⟨r,u,x⟩:=zn e
 unfold aF;rw[r];dsimp only
 rw[u];rfl
theorem Vd{a A:Array Value}{d:Nat}{v M:Value}(o:j.Le C)(hd:d<a.size)(h:AR (VR j) (a.setIfInBounds d v) A)(V:∀y,VR j v y->VR C M y):AR (VR C) (a.setIfInBounds d M) A/\∃y,A[d]?=some y/\VR j v y:=by
 obtain⟨Q,R⟩:=h
 rw[Array.size_setIfInBounds]at Q;have e:∀u:Value,(a.setIfInBounds d u)[d]?=some u:=fun u=>by simp[hd]
 obtain⟨y,r⟩:∃y,A[d]?=some y:=⟨A[d]'(by omega),by simp[show d<A.size by omega]⟩
 have k:=R d v y (e v) r
 refine⟨⟨by rw[Array.size_setIfInBounds];exact Q,fun i x z n H=>?_⟩,y,r,k⟩;by_cases J:i=d
 · subst J;rw[e]at n;cases n;rw[r]at H;cases H;exact V _ k
 · rw[Array.getElem?_setIfInBounds_ne (Ne.symm J)]at n;refine(R i x z ?_ H).mono o;rw[Array.getElem?_setIfInBounds_ne (Ne.symm J)];exact n
theorem Ve{n d:Nat}{y:Value}(o:VR j (.slice (some ⟨b,0,none⟩) n d) y){N:Nat}:VR (j.mv b N) (.slice (some ⟨N,0,none⟩) n d) y:=by
 cases o with
 | @slice _ _ _ v x r=>
   have e:(j.addr ⟨b,0,none⟩)=(j.mv b N).addr ⟨N,0,none⟩:=by unfold Env.addr Env.mv;rw[dD]
   rw[e];refine .slice (.inl rfl) (r.imp id fun⟨i,u,k⟩=>?_);unfold Env.mv;dsimp only at i k⊢;rw[mF,Hz,tK];exact⟨i,u,k⟩
theorem lU.move{o:Array Oper}{i d n v:Nat}{rest:List Nat}{k:List aS}(hs:vz c=some (o,i,rest,k,d))(J:h.look b=some B)(hc:∃cc e f,B.obj=.cells cc e f)(M:FQ h b B l=true)
   (S:lU P j O D base ⟨{c with tmps:=c.tmps.setIfInBounds d (.slice (some ⟨b,0,none⟩) n v),todo:=.region o rest::k},p,h⟩ g w):
   lU P (j.mv b h.n) O D base ⟨{c with tmps:=c.tmps.setIfInBounds d (.slice (some ⟨h.n,0,none⟩) n v),todo:=.region o rest::k},p,h.move l B⟩ g w:=by
 obtain⟨⟨X,f,cs,Y,h2,h3,h4⟩,H⟩:=S
 have Q:¬j.born h.n:=fun hx=>Nat.lt_irrefl _ (H.fresh _ hx)
 have r:j.Le (j.mv b h.n):=Env.jb Q
 have h0:=h3.f0 fun a0 l' k' e=>by cases e
 obtain⟨r1,y,hy,R⟩:=Vd r (zn hs).2.2 h0.tmps fun y hy=>Ve (N:=h.n) hy
 have V:j.born b:=by cases R;assumption
 have u:=h0.mono r
 refine⟨⟨X,f,cs,Nat.le_succ_of_le Y,h2,.plain ⟨⟨u.fn,u.defers,u.mode,u.kind,u.round⟩,r1,u.todo⟩,h4.mono r (fun x hx J=>J.resolve_left fun e=>?_) (Nat.le_refl _)⟩,H.move J hc V M⟩;subst e;have a1:X<=h.n:=Y
 omega
theorem Sd.move{o:Array Oper}{i d n r:Nat}{rest:List Nat}{k:List aS}(x:vz c=some (o,i,rest,k,d))(y:h.look b=some B)(z:∃H e f,B.obj=.cells H e f)(v:FQ h b B l=true)
   (S:Sd P base F q W U Z N j ⟨{c with tmps:=c.tmps.setIfInBounds d (.slice (some ⟨b,0,none⟩) n r),todo:=.region o rest::k},p,h⟩ g w m t):
   Sd P base F q W U Z N (j.mv b h.n) ⟨{c with tmps:=c.tmps.setIfInBounds d (.slice (some ⟨h.n,0,none⟩) n r),todo:=.region o rest::k},p,h.move l B⟩ g w m t:=
 ⟨⟨S.st.at_,S.st.JS.move x y z v,S.st.lt⟩,S.wu,S.fz,S.NT,S.keep⟩
theorem Z4{b b':Nat}{B d:aY}(e:agree h E l=true)(i:d.obj=B.obj)(k:d.ro=B.ro)(n:d.u=B.u)(v:d.fM.isSome=B.fM.isSome):E.move l d=h.move l B:=by
 have x:=Ad e
 have y:=wJ e
 unfold AH.move;rw[←x,←y];obtain⟨o,f,r,u⟩:=B
 obtain⟨H,z,J,M⟩:=d
 dsimp only at i k n v⊢;subst i k n;cases f<;>cases z<;>first|rfl|cases v
end
end Go.Am
namespace Go.Am
open Go.Conc (born QuitsD G scase rcase)
open Go.Conc.Lib
open Go.ConcR (WgAt)
open Go.Ren (grow gp aQ az Wk dU Idle af X0 XS XM Lv gG lF uY mP hearing mQ wF gI M1 Anch Spawns Fh At aG Keep full Own Fr Dc)
def rU:List (Nat×aY)->Tr aY
 | []=>.nil
 | (b,B)::l=>(rU l).set b B
def uH:List (Nat×List Nat)->Tr (List Nat)
 | []=>.nil
 | (f,m)::l=>(uH l).set f m
def mV:Code->List Nat->Code
 | c,[]=>c
 | .seq a b,i::p=>match i with|0=>mV a p|_=>mV b p
 | .cond _ a b,i::p=>match i with|0=>mV a p|_=>mV b p
 | .rangeFunc _ _ a b,i::p=>match i with|0=>mV a p|_=>mV b p
 | .block _ b,_::p=>mV b p
 | .loop b,_::p=>mV b p
 | .scope b,_::p=>mV b p
 | _,_=>.skip
def Vf(a:Tr Func)(f:Nat):Code:=match a.get f with
 | some b=>b.body.getD .skip
 | none=>.skip
def agm(b:Tr Func)(f:Nat)(p:List Nat):Array Oper:=match mV (Vf b f) p with
 | .region _ a _=>a
 | _=>#[]
noncomputable section
def stepS(P:Program)(b:bP)(T:Tr TI)(c:Tr Func)(n:Nat)(l:List Nat)(s:AS):Option AS:=match ig P b T c n s with
 | .inl a=>if aK a.fr then some ⟨a.fr,a.cs,a.h.forget l⟩else none
 | .inr _=>none
def Vg(P:Program)(a:bP)(T:Tr TI)(b:Tr Func)(n:Nat)(v:Value)(s:AS):Bool:=match ig P a T b n s with
 | .inl _=>false
 | .inr x=>iI 9 x.1 v&&iQ 9 v
end
section
variable{P:Program}{ρ k:Env}{F W U Z Z':Nat->Prop}{N:Nat}{h h':AH}{w w' d:World}{base cs:List Frame}{a a':ak}{f:Frame}{l:List Nat}{c:ak}{g:Goroutine}{pl:bP}{s s':AS}{m:Machine}{t:Trace}{j:Machine->Outcome->World->Trace->Prop}{L:WgLink}{T:Tr TI}{i:Tr Func}{ph:Ph}
 {gb cb cap nw nt nwt:Nat} {v:Value}
theorem jg(K:bF P T)(KF:gK P i):∀(n:Nat) {s:AS},ig P pl T i n s=.inl s'->To P pl s' s
 | 0,s,e=>by cases e;exact .here rfl
 | n+1,s,e=>by
   have x:ig P pl T i (n+1) s=Option.rec (match aH P pl none s with
    |some (.go s')=>ig P pl T i n s'
    |some (.ret v h)=>.inr (v,h)
    |none=>.inl s) (ig P pl T i n) (pK P T i s):=rfl
   rw[x]at e;cases p:pK P T i s with
   |some b=>rw[p]at e;exact(pO K KF p).bind fun u o=>by subst o;exact jg K KF n e
   |none=>
    rw[p]at e;replace e:(match aH P pl none s with
     |some (.go s')=>ig P pl T i n s'
     |some (.ret v h)=>.inr (v,h)
     |none=>.inl s)=.inl s':=e
    cases q:aH P pl none s with
    |none=>rw[q]at e;cases e;exact .here rfl
    |some r=>
     rw[q]at e;cases r with
     |go b=>exact .one q (jg K KF n e)
     |ret v h=>cases e
theorem Qk(K:bF P T)(KF:gK P i){n:Nat}{x:Value×AH}(e:ig P pl T i n s=.inr x):iV P pl (fun v h=>(v,h)=x) s:=
 tY K KF n (fun s' b=>by rw[e]at b;cases b) fun v h b=>by rw[e]at b;cases b;rfl
theorem bW.step[aP P](K:bF P T)(KF:gK P i){n:Nat}(e:stepS P pl T i n l s=some s')(S:bW P L base F d ph s m t):aG P j (bW P L base F d ph s') m t:=by
 unfold stepS at e;split at e
 · rename_i o b;split at e
   ·rename_i hd;cases e;exact(S.reach (jg K KF n b)).mono fun m t p=>p.forget l hd
   ·cases e
 · cases e
theorem bW.last[aP P](K:bF P T)(KF:gK P i){n:Nat}{b:Frame}{r:List Frame}(e:Vg P pl T i n v s=true)(S:bW P L (b::r) F d ph s m t):aG P j (Back P b r F d v) m t:=by
 unfold Vg at e;split at e
 · cases e
 · rename_i x z;rw[Bool.and_eq_true]at e;have A:=gW _ _ _ e.1;obtain⟨W,U,Z,N,ρ,g,w,S,E⟩:=S
   refine(Go.Ren.At.wk2 (Oe (X:=X0) (I:=fun _=>True) (m:=true) (Qk K KF z) S.st.JS) S.st.lt rfl S.st.at_).mono ?_;rintro m t ⟨H,w',o,⟨k,p,h,u,B,J,C,rfl,M⟩,y⟩;have q:p=v:=by rw[←A,←B]
   subst q;have D:=(gQ e.2).eq C;subst D;exact⟨W,U,Z,N,w',o,S.wu,S.fz,S.NT,S.Ib y,y.lt S.st.lt⟩
end
end Go.Am
namespace Go.Am
open Go.Conc (born QuitsD G scase rcase)
open Go.Conc.Lib
open Go.ConcR (WgAt)
open Go.Ren (grow gp aQ az Wk dU Idle af X0 XS XM Lv gG lF uY mP hearing mQ wF gI M1 Anch Spawns Fh At aG Keep full Own Fr Dc)
def aY.own(B:aY):aY:={B with ro:=match B.fM with|none=>Nat.beq B.u 1|some _=>false}
def AH.kG(h:AH):AH:={h with tr:=h.tr.map aY.own}
section
variable{P:Program}{d σ:Env}{O O' D:Nat->Prop}{F W U Z Z':Nat->Prop}{N:Nat}{h h':AH}{w w' a:World}{mm:Bool}{base i:List Frame}{s s' s₀:AS}{pl:bP}{g g':Goroutine}
 {L:WgLink} {m:Machine} {t:Trace} {ph:Ph}
theorem rV(b:Nat):h.kG.tr.get b=(h.tr.get b).map aY.own:=Tr.get_map _ _ _
theorem Di{b:Nat}:h.kG.look b=(h.look b).map aY.own:=by
 unfold AH.look;rw[rV];cases h.tr.get b with
 | none=>rfl
 | some B=>
   obtain⟨o,c,e,u⟩:=B
   cases c with
   |none=>rfl
   |some f=>
    simp only[Option.map_some]
    show(if((h.dB.get f).getD []).contains b then _ else _)=_
    split<;>rfl
theorem Rel.FU(r:Rel d O (fun _=>False) h w):Rel d O (fun _=>False) h.kG w:=by
 have y:∀b q,h.kG.look b=some q->∃B,h.look b=some B/\q.obj=B.obj/\q.fM=B.fM/\q.u=B.u/\(B.UB->q.UB):=by
   intro b q k;rw[Di]at k;simp only[Option.map_eq_some_iff]at k;obtain⟨B,o,rfl⟩:=k
   refine⟨B,o,rfl,rfl,rfl,fun⟨p1,p2,p3⟩=>⟨p1,?_,p3⟩⟩;show(match B.fM with|none=>Nat.beq B.u 1|some _=>false)=true
   rw[p1,p3];rfl
 have up:∀b n,h.kG.upTo d b n->h.upTo d b n:=by
   rintro b n ⟨q,c,e,f,M,h2,h3⟩;rw[rV]at M;simp only[Option.map_eq_some_iff]at M;obtain⟨B,o,rfl⟩:=M
   exact⟨B,c,e,f,o,h2,h3⟩
 refine⟨fun b B c e f p k Q=>?_,fun b B p k Q=>?_,fun b B p k=>?_,fun b b' B q p R k T V X=>?_,r.fresh,r.low,fun b B p k=>?_,fun f l v=>?_,fun f l v b p=>?_⟩
 · obtain⟨j,o,A,x,J,Y⟩:=y b B k
   obtain⟨C,E,g,c1,c2,c3,c4,c5⟩:=r.cells b j c e f p o (A▸Q)
   exact⟨C,E,g,c1,c2,c3,fun hn=>c4 fun hp=>hn (Y hp),c5⟩
 · obtain⟨j,o,A,x,J,_⟩:=y b B k
   obtain⟨o1,o',o2,o3⟩:=r.obj b j p o (A▸Q)
   exact⟨o1,o',o2,by rw[A];exact o3⟩
 · obtain⟨j,o,A,x,J,_⟩:=y b B k
   have hO:=(r.own b j p o).2.resolve_right id;exact⟨fun _=>hO,.inl hO⟩
 · obtain⟨j,o,_,x,_,Y⟩:=y b B k
   obtain⟨H,j1,_,j3,_,j5⟩:=y b' q T
   rcases r.sep b b' j H p R o j1 V X with⟨f,g1,g2⟩|⟨g1,g2⟩
   ·exact .inl ⟨f,x.trans g1,j3.trans g2⟩
   ·exact .inr ⟨Y g1,j5 g2⟩
 · obtain⟨j,o,_,x,J,_⟩:=y b B k
   obtain⟨s1,s2⟩:=r.bD b j p o
   exact⟨s1.trans (by rw[x]),fun z=>(s2 (x▸z)).trans J.symm⟩
 · exact(r.row f l v).imp fun hp b1 b2 X n n' u1 u2=>hp b1 b2 X n n' (up _ _ u1) (up _ _ u2)
 · obtain⟨m1,B,m2,m3⟩:=r.mem f l v b p
   exact⟨m1,B.own,by rw[rV,m2];rfl,m3⟩
theorem Sd.FU(S:Sd P base F a W U Z N d s g w m t)(hd:aK s.fr=true):Sd P base F a W U Z N d ⟨s.fr,s.cs,s.h.kG⟩ g w m t:=by
 refine⟨⟨S.st.at_,?_,S.st.lt⟩,S.wu,S.fz,S.NT,S.keep⟩;obtain⟨⟨c,f,i,j,n,o,p⟩,b⟩:=S.st.JS
 refine⟨⟨c,f,i,j,n,.plain (o.f0 fun q l k e=>?_),p⟩,b.FU⟩;unfold aK at hd;rw[e]at hd;cases hd
end
end Go.Am
namespace Go.Am
open Go.Conc.Lib
open Go.Ren (grow gp aQ az Wk At aG Keep full)
noncomputable section
def iq(P:Program)(pl:bP)(T:Tr TI)(e:Tr Func)(n d:Nat)(f:Bool)(l:List Nat)(i:Nat)(s:AS):Option AS:=match s.cs with
 | c::b=>match aH P pl (some i) ⟨s.fr,[],s.h⟩with
   |some (.go a)=>match explore P pl T e n d a with
    |some L=>bif f then lW P c b l L else merge P c b l L
    |none=>none
   |_=>none
 | []=>none
def yc(P:Program)(s:AS):Option Nat:=match Bv ⟨s.fr,[],s.h⟩with
 | some o=>some ((execOp (au s.fr.tmps) o).arity P s.h)
 | none=>none
end
section
variable{P:Program}{u σ:Env}{F W U Z:Nat->Prop}{p:World}{base:List Frame}{s s':AS}{pl:bP}{c:ak}{j:List ak}{l:List Nat}
 {L:WgLink} {m:Machine} {t:Trace} {r:Machine->Outcome->World->Trace->Prop} {T:Tr TI} {y:Tr Func}
theorem FV{e:List (Value×AH)}(a:lW P c j l e=some s'):∃b i rest k d,vz c=some (b,i,rest,k,d):=by
 unfold lW at a;split at a
 · split at a
   ·split at a
    ·split at a
     ·rename_i b i rest k g f;exact⟨_,_,_,_,_,f⟩
     ·cases a
    ·cases a
   ·cases a
 · cases a
theorem bW.Z5[aP P]{ph:Ph}(C:s.cs=c::j)(hq:iV P pl (fun v h=>∃o,(v,h)∈o/\(merge P c j l o=some s'∨lW P c j l o=some s')) ⟨s.fr,[],s.h⟩)(S:bW P L base F p ph s m t):
   aG P r (bW P L base F p .idle s') m t:=by
 obtain⟨W,U,Z,N,u,g,w,S,hp⟩:=S
 have S':Sd P base F p W U Z N u ⟨s.fr,[]++c::j,s.h⟩ g w m t:=by
   obtain⟨fr,ss,hh⟩:=s
   dsimp only at C;subst C;exact S
 have hr:=iV.under (c:=c) (cs:=j) (K:=fun z=>∃x o,x∈o/\(merge P c j l o=some s'∨lW P c j l o=some s')/\∃a,aF P c x.2 x.1=some a/\z=⟨a,j,x.2⟩) hq fun v h Q=>by
   obtain⟨o,Q,d⟩:=Q
   have A:∃a,aF P c h v=some a:=by
    rcases d with d|d
    ·obtain⟨a,R,_⟩:=AY d _ Q
     exact⟨a,R⟩
    ·obtain⟨X,i,rest,k,d',V⟩:=FV d
     exact⟨_,Iz V h v⟩
   obtain⟨a,A⟩:=A
   exact⟨a,A,.here ⟨(v,h),o,Q,d,a,A,rfl⟩⟩
 refine(S'.reach hr).mono ?_;rintro m t ⟨τ,z,g',w',⟨x,o,D,d,a,A,rfl⟩,k1,Y,k3⟩;rcases d with d|d
 · obtain⟨a',R,h2,h3⟩:=AY d x D
   rw[A]at R;cases R;rw[h3];exact⟨_,_,_,_,_,_,_,Y.forget l h2,trivial⟩
 · unfold lW at d;split at d
   ·rename_i b n' a5 a2 E;split at d
    ·rename_i B hB;split at d
     ·rename_i cc e f H;split at d
      ·rename_i X i rest k d' V;split at d
       ·rename_i J;cases d;rw[Iz V]at A;cases A;have n:=(List.all_eq_true.1 J) x D
        unfold Vb at n;split at n
        ·rename_i b' a3 a4 a0;simp only[Bool.and_eq_true,beq_iff_eq]at n;obtain⟨⟨⟨rfl,rfl⟩,M⟩,q⟩:=n
         split at q
         ·rename_i B' a1;simp only[Bool.and_eq_true,beq_iff_eq]at q;obtain⟨⟨⟨⟨q1,q2⟩,q3⟩,q4⟩,q5⟩:=q
          have O:=D7 q1
          rw[a0]at Y;have k4:=Y.move (l:=l) V a1 ⟨cc,e,f,O.trans H⟩ q5
          rw[Z4 (b:=b) (b':=b') M O q2 q3 q4,←Ad M]at k4;exact⟨_,_,_,_,_,_,_,k4,trivial⟩
         ·cases q
        ·cases n
       ·cases d
      ·cases d
     ·cases d
    ·cases d
   ·cases d
theorem bW.parts[aP P](K:bF P T)(KF:gK P y){ph:Ph}{n d q:Nat}{z:Bool}(w:yc P s=some q)(h0:q≠0)(A:∀i,i<q->iq P pl T y n d z l i s=some s')(S:bW P L base F p ph s m t):
   aG P r (bW P L base F p .idle s') m t:=by
 unfold yc at w;split at w;rotate_left
 · cases w
 rename_i o B;cases w;have b:∃c j,s.cs=c::j:=by
   have:=A 0 (Nat.pos_of_ne_zero h0)
   unfold iq at this;split at this
   ·exact⟨_,_,by assumption⟩
   ·cases this
 obtain⟨c,j,b⟩:=b
 refine S.Z5 (pl:=pl) (l:=l) (s':=s') b ?_;have part:∀i,i<(execOp (au s.fr.tmps) o).arity P s.h->∃a,aH P pl (some i) ⟨s.fr,[],s.h⟩=some (.go a)/\iV P pl (fun v h=>∃e,(v,h)∈e/\(merge P c j l e=some s'∨lW P c j l e=some s')) a:=by
   intro i C;have:=A i C
   unfold iq at this;rw[b]at this;dsimp only at this;split at this
   ·rename_i a g;split at this
    ·rename_i e D;refine⟨a,g,(zl K KF d D).mono fun v h E=>⟨e,E,?_⟩⟩;cases z with
     |false=>exact .inl this
     |true=>exact .inr this
    ·cases this
   ·cases this
 have all:∀i,∃a,aH P pl (some i) ⟨s.fr,[],s.h⟩=some (.go a)/\iV P pl (fun v h=>∃e,(v,h)∈e/\(merge P c j l e=some s'∨lW P c j l e=some s')) a:=by
   intro i;have H:=Eg (P:=P) (pl:=pl) B i
   obtain⟨a,f,x⟩:=part _ (Nat.mod_lt i (Nat.pos_of_ne_zero h0))
   exact⟨a,H.trans f,x⟩
 refine .step (fun i=>let⟨a,h,_⟩:=all i;⟨_,h⟩) (fun i a g=>?_) fun i v h g=>?_
 · obtain⟨k,f,x⟩:=all i
   rw[g]at f;cases f;exact x
 · obtain⟨k,f,x⟩:=all i
   rw[g]at f;cases f
end
end Go.Am
namespace Go.Am
open Go.Conc.Lib
open Go.Ren (grow gp aQ az Wk At aG Keep full)
noncomputable section
def allB(f:Nat->Bool)(m:Nat):Bool:=Nat.rec true (fun c a=>f c&&a) m
end
end Go.Am
namespace Go.Am
open Go.Conc.Lib
open Go.ConcR (WgAt)
open Go.Ren (grow gp aQ az Wk At aG Keep full)
noncomputable section
def goS(P:Program)(s:AS):Option (AS×AS):=match opAt s with
 | some o=>match o.op with
   | .go c=>match c.callee with
    | .value x=>match au s.fr.tmps x with
     | .func (.func a) first b=>if dA P a&&s.fr.round.isNone then
       match Ic P s s.h.shared undef with
       |some d=>some (⟨{ak.enter P a ((first++c.args.map (au s.fr.tmps))++b)with dk:=true},[],s.h.shared⟩,d)
       |none=>none
      else none
     |_=>none
    |_=>none
   |_=>none
 | none=>none
def bC(P:Program)(f:bP)(L:WgLink)(g a b:Nat)(s:AS):Option (AS×AS):=match uI P f a s with
 | some (.go c)=>match NV P L.add #[.pointer (some ⟨g,0,none⟩),.int .i64 1] c with
   |some d=>match uI P f b d with
    |some (.go e)=>goS P e
    |_=>none
   |none=>none
 | _=>none
def abY(P:Program)(b:bP)(L:WgLink)(c n:Nat)(s:AS):Option AS:=match uI P b n s with
 | some (.go a)=>NV P L.wait #[.pointer (some ⟨c,0,none⟩)] a
 | _=>none
end
end Go.Am
