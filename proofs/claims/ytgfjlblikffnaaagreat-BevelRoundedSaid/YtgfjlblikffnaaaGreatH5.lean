import Derived.Test.YtgfjlblikffnaaaGreatH3
import Derived.Test.YtgfjlblikffnaaaGreatH4
set_option linter.unusedVariables false
set_option linter.unusedSectionVars false
set_option linter.unusedSimpArgs false
namespace Go.Am
open Go.Ren (grow fM aO az)
def isInt:TypeDesc→Bool
 | .int _=>true
 | _=>false
def uH(b:Nat):List Nat→List Nat
 | []=>[]
 | x :: l=>if x=b then [x] else x :: uH b l
def ZX(P:Program)(h:AH)(elem:TypeId)(i:TypeInfo)(base:Option Addr)(n c m:Nat)(new:Array Value):Option (Value×AH):=
 match i.zero,(Builtin.firstCells i.size n (.slice base n c)).fC P h with
 | some z,some old=>
   if old.size=n * i.size∧new.size=m * i.size∧z.cells.size=i.size∧i.bytes≠0∧(n+m) * 4 * i.bytes≤2 ^ 48∧new.toList.all flat=true then
    match base with
    |none=>some (.slice (some ⟨h.n,0,none⟩) (n+m) (n+m),h.join h.n [] (.cells (old ++ new) elem (0,0)) i.size)
    |some a=>match a.spot,h.look a.block with
     |none,some B=>match B.obj with
      | .cells cs _ _=>match B.dQ with
       |none=>some (.slice (some ⟨h.n,0,none⟩) (n+m) (n+m),h.join h.n [] (.cells (old ++ new) elem (0,0)) i.size)
       |some f=>if B.ro=false∧B.u=i.size then
         some (.slice (some ⟨h.n,0,none⟩) (n+m) (n+m),h.join f (if a.off+n * i.size=cs.size then uH a.block ((h.dH.get f).getD []) else []) (.cells (old ++ new) elem (0,0)) i.size) else none
      |_=>none
     |_,_=>none
   else none
 | _,_=>none
def abO(P:Program)(h:AH)(u:TypeDesc)(i:TypeInfo)(x:Value):Option Nat:=
 if isInt u=true then match x with
   | .int _ v=>if 0≤IntKind.i64.wrap v∧IntKind.i64.wrap v * i.bytes≤2 ^ 48 then some (IntKind.i64.wrap v).toNat else none
   |_=>none
 else (Builtin.lenOf x).fC P h
def anew(P:Program)(h:AH)(u:TypeDesc)(i:TypeInfo)(m:Nat)(x:Value):Option (Array Value):=
 if isInt u=true then match i.zero with
   |some z=>if z.cells.size=i.size then some (Builtin.zeroCells z.cells m) else none
   |none=>none
 else (Builtin.firstCells i.size m x).fC P h
def abP(P:Program)(h:AH)(argTypes:Array TypeId)(s x:Value):Option (Value×AH):=
 match argTypes[0]?,argTypes[1]? with
 | some st,some xt=>match P.underlying st,P.underlying xt,s with
   |some (.slice elem),some u,.slice base n c=>
    match P.info? elem with
    |none=>none
    |some i=>match abO P h u i x with
     |none=>none
     |some m=>match anew P h u i m x with
      |none=>none
      |some new=>
       if n+m≤c then match base with
        |none=>some (.slice none (n+m) c,h)
        |some a=>match (storeCells (a.add (n * i.size)) new.toList).ar P none h with
         |some (_,h')=>some (.slice (some a) (n+m) c,h')
         |none=>none
       else ZX P h elem i base n c m new
   |_,_,_=>none
 | _,_=>none
section
variable{P:Program}{ρ σ:Env}{O O' D:Nat→Prop}{h h' h₁:AH}{w w' w₁:World}{X:Event→Prop}{α β γ δ:Type}
theorem Out.pu{R:Env→α→β→Prop}{a:α}{x:Sem γ}{y:γ}{f:γ→Sem β}(hx:Pu P x y)(k:Out P X D R ρ O h w (f y) a h'):Out P X D R ρ O h w (x >>= f) a h' :=Out.same (fun w es=>hx.run f w es) k
theorem Out.choose{R:Env→α→β→Prop}{a:α}{q:Question}{f:Nat→Sem β}(hq:q.forced=false)(k:Out P X D R ρ O h { w with drawn:=w.drawn+1 } (f (q.cut (w.tape w.drawn q))) a h'):Out P X D R ρ O h w (Go.choose q >>= f) a h' :=by
 refine Out.here (h₁:=h) (w₁:={ w with drawn:=w.drawn+1 }) (es₁:=#[]) (fun ah=>?_) (rV (w.drawn+1)) rfl rfl k
 show ((Go.choose q).bind f).runT P w ah=_
 simp only [Go.choose,Sem.bind,Sem.runT,hq,Array.append_empty]
 rfl
theorem Out.room{R:Env→α→β→Prop}{a:α}{n:Nat}{f:Unit→Sem β}(k:Out P X D R ρ O h w (f ()) a h'):Out P X D R ρ O h w (askRoom n >>= f) a h' :=by
 unfold askRoom
 split
 · refine Out.here (h₁:=h) (w₁:=w) (s₁:=f ()) (es₁:=#[⟨.mark .noRoom,false,true⟩]) (fun ah=>?_) ⟨Nat.le_refl _,fun _ _ _=>rfl,rfl,rfl,rfl,fun e he=>?_⟩ rfl rfl k
   ·show ((Go.mark .noRoom).bind f).runT P w ah=_
    rw [iR]
    simp only [Go.mark,Sem.bind,Sem.runT]
   ·simp only [List.mem_toArray,List.mem_singleton] at he
    subst he
    exact .inr rfl
 · exact Out.pu (.aN ()) k
theorem vS(b:Nat):∀l:List Nat,(uH b l).Sublist l
 | []=>.slnil
 | x :: l=>by
   unfold uH
   split
   ·exact List.Sublist.cons_cons _ (List.nil_sublist l)
   ·exact List.Sublist.cons_cons _ (vS b l)
theorem Jl{R:Nat→Nat→Prop}{b:Nat}:∀ {l:List Nat},l.Pairwise R→b∈l→∀x∈uH b l,x=b∨R x b
 | [],_,hb,_,_=>by cases hb
 | y :: l,hp,hb,x,hx=>by
   unfold uH at hx
   split at hx
   ·rename_i e
    simp only [List.mem_singleton] at hx
    exact .inl (hx.trans e)
   ·rename_i e
    have hbl:b∈l:=(List.mem_cons.1 hb).resolve_left fun z=>e z.symm
    rcases List.mem_cons.1 hx with rfl|hx
    ·exact .inr (List.rel_of_pairwise_cons hp hbl)
    ·exact Jl hp.of_cons hbl x hx
theorem BX{n:Nat}:∀(r c:Nat),c≤2 * n+192→Builtin.growBy n r c≤2 * n+192
 | 0,c,h=>h
 | r+1,c,h=>by
   unfold Builtin.growBy
   split
   ·exact h
   ·exact BX r _ (by omega)
theorem nextslicecap_le{n c:Nat}(h:c < n):Builtin.nextslicecap n c≤4 * n:=by
 unfold Builtin.nextslicecap
 split
 · omega
 · split
   ·omega
   ·have:=BX (n:=n) 4 c (by omega)
    omega
theorem abQ{x x':Value}{m:Nat}(hx:VR ρ x x')(e:(Builtin.lenOf x).fC P h=some m):Pu P (Builtin.lenOf x') m:=by
 cases hx<;>first
   |(simp only [Builtin.lenOf,stuck,Sem.fC] at e;cases e;done)
   |(have e':some _=some m:=e;cases e';exact .aN _)
theorem qF(z:Array Value)(n:Nat):(Builtin.zeroCells z n).size=n * z.size:=by simp [Builtin.zeroCells]
theorem AR.afI{R:α→β→Prop}{a:Array α}{b:Array β}(h:AR R a b):LR R a.toList b.toList:=by
 obtain ⟨a⟩:=a
 obtain ⟨b⟩:=b
 obtain ⟨h1,h2⟩:=h
 simp only at h1 ⊢
 simp only [List.size_toArray,List.getElem?_toArray] at h1 h2
 induction a generalizing b with
 | nil=>cases b with|nil=>exact .nil|cons y b=>simp at h1
 | cons x a ih=>
   cases b with
   |nil=>simp at h1
   |cons y b=>exact .cons (h2 0 x y (by simp) (by simp)) (ih b (by simpa using h1) fun i u v hu hv=>h2 (i+1) u v (by simpa using hu) (by simpa using hv))
theorem elsewhere{f:Nat}{l:List Nat}{old new old' new' zs:Array Value}{elem:TypeId}{n m cap u:Nat}(rel:Rel ρ O D h w)(hsub:l.Sublist ((h.dH.get f).getD []))(hor:AR (VR ρ) old old')(hnr:AR (VR ρ) new new')(k1:old.size=n * u)(k2:new.size=m * u)
   (hz:zs.size=(cap - (n+m)) * u) (hcap:n+m≤cap) :
   Out P X D VR ρ O h w (newRow elem (old' ++ new' ++ zs) >>= fun a=>Pure.pure (Value.slice (some a) (n+m) cap)) (.slice (some ⟨h.n,0,none⟩) (n+m) (n+m)) (h.join f l (.cells (old ++ new) elem (0,0)) u):=by
 have hnb:¬ρ.born h.n:=fun hb=>Nat.lt_irrefl _ (rel.fresh _ hb)
 have hsz:(old' ++ new' ++ zs).size=cap * u:=by
   simp only [Array.size_append,hz,←hor.1,←hnr.1,k1,k2]
   rw [←Nat.add_mul,←Nat.add_mul]
   congr 1
   omega
 have hall:AR (VR ρ) (old ++ new) (old' ++ new'):=hor.append hnr
 have low:∀x,ρ.born x→(ρ.to x).1≠w.heap.size:=fun x hb e=>by have:=rel.low x hb;omega
 have hr:=rel.join (w' :={ w with heap:=w.heap.push (.cells (old' ++ new' ++ zs) elem (0,0)) }) (O' :=grow O w { w with heap:=w.heap.push (.cells (old' ++ new' ++ zs) elem (0,0)) }) (f:=f) (l:=l) (cs:=old ++ new) (e:=elem) (u:=u) (T:=w.heap.size) (off:=0) (ext:=cap * u) hsub (fun _=>.inl) (.inr ⟨Nat.le_refl _,by simp⟩) (by simp)
   (fun c hc hlt=>by dsimp only;rw [Array.getElem?_push,if_neg (by omega)]) ⟨_,elem,by dsimp only;rw [Array.getElem?_push,if_pos rfl],by rw [hsz];omega,by
    rw [Array.size_append,k1,k2,←Nat.add_mul]
    exact Nat.mul_le_mul_right _ hcap,fun i v hv=>by
    have hlt:=(Array.getElem?_eq_some_iff.1 hv).1
    have:=hall.get i
    rw [hv] at this
    rw [Nat.zero_add,Array.getElem?_append_left (by rw [←hall.1];exact hlt)]
    generalize (old' ++ new')[i]? = y at this
    cases this with
    |some k=>exact ⟨_,rfl,k⟩⟩ (fun x B hb _ e=>absurd e (low x hb)) (fun x _ hb e=>absurd e (low x hb)) (fun x B c e' g hb _ _ e=>absurd e (low x hb))
 refine ⟨_,.slice (some ⟨w.heap.size,0,none⟩) (n+m) cap,_,#[],fun ah=>?_,Env.iC hnb,?_,hr,lU _,Nat.le_succ _,fun x=>?_⟩
 · simp [newRow,newObj,-Sem.runT_eq,Sem.runT,bind,pure,Sem.bind]
 · have:(⟨w.heap.size,0,none⟩:Addr)=(ρ.add h.n (w.heap.size,0) True u (cap * u)).addr ⟨h.n,0,none⟩:=by simp only [Env.addr,bU]
   rw [this]
   refine .slice (.inl rfl) (.inr ⟨jX.2 trivial,hcap,?_⟩)
   show 0+cap * _≤_
   rw [Ii,qL]
   omega
 · show (x=h.n∨ρ.born x)↔_
   constructor
   ·rintro (rfl|hx)
    ·exact .inr ⟨Nat.le_refl _,Nat.lt_succ_self _⟩
    ·exact .inl hx
   ·rintro (hx|⟨h1,h2⟩)
    ·exact .inr hx
    ·have:x < h.n+1:=h2
     exact .inl (by omega)
theorem uI{a:Addr}:∀(n i:Nat) (acc r:Array Value),(loadCellsFrom a i n acc).fC P h=some r→r.size=acc.size+n∧(∀j,j < acc.size→r[j]? = acc[j]?)∧∀j,j < n→h.cell (a.add (i+j))=r[acc.size+j]?
 | 0,i,acc,r,e=>by
   have e':some acc=some r:=e
   cases e'
   exact ⟨by simp,fun j hj=>rfl,fun j hj=>by omega⟩
 | n+1,i,acc,r,e=>by
   have e':(Sem.load .plain (a.add i) fun v=>loadCellsFrom a (i+1) n (acc.push v)).fC P h=some r:=e
   rw [Sem.fC.eq_def] at e'
   dsimp only at e'
   split at e'
   ·rename_i v hv _
    obtain ⟨r1,r2,r3⟩:=uI n (i+1) (acc.push v) r e'
    rw [Array.size_push] at r1 r2 r3
    refine ⟨by omega,fun j hj=>?_,fun j hj=>?_⟩
    ·rw [r2 j (by omega),Array.getElem?_push,if_neg (by omega)]
    ·cases j with
     |zero=>
      rw [Nat.add_zero,Nat.add_zero,hv,r2 acc.size (by omega),Array.getElem?_push,if_pos rfl]
     |succ j=>
      have:=r3 j (by omega)
      rw [show i+(j+1)=i+1+j by omega,this]
      congr 1
      omega
   ·cases e'
theorem Uk{f n m c c':Nat}{a:Addr}{B:bg}{cs old new new':Array Value}{ce elem:TypeId}{cg:Nat×Nat}{u:Nat}{b':Addr}(rel:Rel ρ O D h w)(hba:ρ.born a.block)(hb':b' = ρ.addr a)(PE:a.off+c' * u≤ρ.ext a.block)(hspot:a.spot=none)(hlook:h.look a.block=some B)(iM:B.obj = .cells cs ce cg)(hf:B.dQ=some f)(hro:B.ro=false)(hin:n+m≤c')(hnr:AR (VR ρ) new new')(k1:old.size=n * u)(k2:new.size=m * u)(Be:∀v∈new.toList,flat v=true)
   (hold:(Builtin.firstCells u n (.slice (some a) n c)).fC P h=some old) :
   Out P X D VR ρ O h w (storeCells (b'.add (n * u)) new'.toList >>= fun _=>Pure.pure (Value.slice (some b') (n+m) c')) (.slice (some ⟨h.n,0,none⟩) (n+m) (n+m)) (h.join f (if a.off+n * u=cs.size then uH a.block ((h.dH.get f).getD []) else []) (.cells (old ++ new) elem (0,0)) u):=by
 obtain ⟨C,E,g,c1,c2,c3,c4,c5⟩:=rel.cells a.block B cs ce cg hba hlook iM
 have hg:g=(0,0):=c4 (LG hro)
 subst hg
 have hO:O (ρ.to a.block).1:=(rel.own a.block B hba hlook).1 hro
 have hnb:¬ρ.born h.n:=fun hb=>Nat.lt_irrefl _ (rel.fresh _ hb)
 have hadd:b'.add (n * u)=⟨(ρ.to a.block).1,(ρ.to a.block).2+a.off+n * u,none⟩:=by
   rw [hb']
   unfold Addr.add Env.addr
   split
   ·rename_i h0;rw [h0,hspot];rfl
   ·rfl
 have hmul:n * u+m * u≤c' * u:=by rw [←Nat.add_mul];exact Nat.mul_le_mul_right _ hin
 have hlen:new'.toList.length=m * u:=by rw [←k2,hnr.1];simp
 have abR:∀v∈new'.toList,flat v=true:=by
   intro v hv
   rw [Array.mem_toList_iff] at hv
   obtain ⟨k,hk,rfl⟩:=Array.mem_iff_getElem.1 hv
   have hk':k < new.size:=by rw [hnr.1];exact hk
   exact abH (hnr.2 k new[k] new'[k] (by simp [hk']) (by simp [hk])) (Be _ (by simp))
 obtain ⟨w',es,C',s1,s2,s3,s4,s5,s6,s7,s8,s9,s10⟩:=qE (P:=P) (T:=(ρ.to a.block).1) (off:=(ρ.to a.block).2+a.off+n * u) new'.toList 0 c1 (by omega) abR
 obtain ⟨o1,_,o3⟩:=uI (n * u) 0 #[] old hold
 have hrow:a.block∈(h.dH.get f).getD []:=oP hlook hf
 have ZY:∀x∈(if a.off+n * u=cs.size then uH a.block ((h.dH.get f).getD []) else []),ρ.born x→(ρ.to x).1=(ρ.to a.block).1→∀k,h.upTo ρ x k→k≤(ρ.to a.block).2+a.off+n * u:=by
   intro x hx hbx hT k hk
   split at hx
   ·rename_i hat
    cases hg:h.dH.get f with
    |none=>rw [hg] at hrow;simp at hrow
    |some l'=>
     rw [hg] at hx hrow
     rcases Jl (rel.row f l' hg) hrow x hx with rfl|hR
     ·obtain ⟨B',d1,d2,d3,d4,d5,d6⟩:=hk
      rw [fB hlook] at d4
      cases d4
      rw [iM] at d5
      cases d5
      omega
     ·have:=hR hbx hba hT k _ hk ⟨B,cs,ce,cg,fB hlook,iM,rfl⟩
      omega
   ·cases hx
 have hcells:∀j,j < (ρ.to a.block).2+a.off+n * u→C'[j]? = C[j]? :=fun j hj=>by rw [s4,if_neg (by omega)]
 have hr:=rel.join (w' :=w') (O' :=grow O w w') (f:=f) (l:=if a.off+n * u=cs.size then uH a.block ((h.dH.get f).getD []) else []) (cs:=old ++ new) (e:=elem) (u:=u) (T:=(ρ.to a.block).1) (off:=(ρ.to a.block).2+a.off) (ext:=ρ.ext a.block - a.off)
   (by split;exact vS _ _;exact List.nil_sublist _) (fun _=>.inl) (.inl hO) (Nat.le_of_eq s6.symm) (fun c hc _=>s5 c hc)
   ⟨C',E,s2,by omega,by rw [Array.size_append,k1,k2];omega,fun j v hv=>by
    rw [Array.getElem?_append] at hv
    split at hv
    ·rename_i hj
     rw [k1] at hj
     have hcell:=o3 j hj
     have hsz0:(#[]:Array Value).size+j=j:=by simp
     rw [hsz0,hv,Nat.zero_add] at hcell
     obtain ⟨v',l1,l2,_⟩:=rel.load (a:=a.add j) (by rw [block_add];exact hba) hcell
     refine ⟨v',?_,l2⟩
     have afJ:ρ.addr (a.add j)=⟨(ρ.to a.block).1,(ρ.to a.block).2+a.off+j,none⟩:=by
      unfold Addr.add Env.addr
      split
      ·rename_i h0;rw [h0,hspot];rfl
      ·simp only [Nat.add_assoc]
     rw [afJ] at l1
     unfold World.cell? at l1
     dsimp only at l1
     rw [c1] at l1
     rw [hcells _ (by omega)]
     simpa using l1
    ·rename_i hj
     rw [k1] at hj hv
     have hlt:=(Array.getElem?_eq_some_iff.1 hv).1
     have:=hnr.get (j - n * u)
     rw [hv] at this
     rw [s4,if_pos (by omega)]
     have hidx:(ρ.to a.block).2+a.off+j - ((ρ.to a.block).2+a.off+n * u+0)=j - n * u:=by omega
     rw [hidx,Array.getElem?_toList]
     generalize new'[j - n * u]? = y at this
     cases this with
     |some k=>exact ⟨_,rfl,k⟩⟩
   (fun x B' hbx hlx hT=>by
    refine ⟨?_,?_⟩
    ·by_cases ex:x=a.block
     ·subst ex;rw [hlook] at hlx;cases hlx;exact hf
     ·rcases rel.sep x a.block B' B hbx hba hlx hlook ex hT with ⟨f',g1,g2⟩|⟨_,g2,_⟩
      ·rw [hf] at g2;cases g2;exact g1
      ·rw [hf] at g2;cases g2
    ·by_cases hc:∃c e' g,B'.obj = .cells c e' g
     ·exact hc
     ·obtain ⟨_,o',p1,p2⟩:=rel.obj x B' hbx hlx fun c e g hh=>hc ⟨c,e,g,hh⟩
      rw [hT,c1] at p1
      cases p1
      exact absurd rfl (p2.gz.2 _ _ _))
   (fun x hx hbx hT k hk=>by
    have:=ZY x hx hbx hT k hk
    rw [Array.size_append,k1]
    omega)
   (fun x B' c e' g hbx hlx hx hT vV=>by
    obtain ⟨C₂,ahz,g₂,p1,p2,p3,p4,p5⟩:=rel.cells x B' c e' g hbx hlx vV
    rw [hT,c1] at p1
    cases p1
    refine ⟨C',E,(0,0),s2,by omega,p3,fun _=>rfl,fun j v hv=>?_⟩
    have hlt:=(Array.getElem?_eq_some_iff.1 hv).1
    have hend:=ZY x hx hbx hT _ ⟨B',c,e',g,fB hlx,vV,rfl⟩
    rw [hcells _ (by omega)]
    exact p5 j v hv)
 refine ⟨_,.slice (some b') (n+m) c',w',es,fun ah=>?_,Env.iC hnb,?_,hr,⟨Nat.le_of_eq s6.symm,fun c hc hn=>s5 c fun e=>hn (e ▸ hO),s7,s8,s9,fun e he=>?_⟩,Nat.le_succ _,fun x=>?_⟩
 · show ((storeCells (b'.add (n * u)) new'.toList).bind _).runT P w ah=_
   rw [Sem.runT_bind',hadd,s1]
   rfl
 · have:b' = (ρ.add h.n ((ρ.to a.block).1,(ρ.to a.block).2+a.off) True u (ρ.ext a.block - a.off)).addr ⟨h.n,0,none⟩:=by
    rw [hb']
    simp only [Env.addr,bU,hspot,Nat.add_zero]
   rw [this]
   refine .slice (.inl rfl) (.inr ⟨jX.2 trivial,hin,?_⟩)
   show 0+c' * _≤_
   rw [Ii,qL]
   omega
 · obtain ⟨o,ho⟩:=s10 e he
   right
   rw [ho]
   exact .inl (.inl hO)
 · show (x=h.n∨ρ.born x)↔_
   constructor
   ·rintro (rfl|hx)
    ·exact .inr ⟨Nat.le_refl _,Nat.lt_succ_self _⟩
    ·exact .inl hx
   ·rintro (hx|⟨h1,h2⟩)
    ·exact .inr hx
    ·have:x < h.n+1:=h2
     exact .inl (by omega)
theorem zD{z:Array Value}{n:Nat}(h:n * z.size=0):Builtin.zeroCells z n = #[]:=by
 apply Array.eq_empty_of_size_eq_zero
 rw [qF,h]
theorem Out.alt{R:Env→α→β→Prop}{a:α}{elem:TypeId}{i:TypeInfo}{u:TypeDesc}{x x':Value}{m:Nat}{afK:Int→Sem β}{afL:Int→TypeInfo→Sem β}{K:Nat→Sem β}(hi:P.info? elem=some i)(hx:VR ρ x x')(e:abO P h u i x=some m)
   (k:Out P X D R ρ O h w (K m) a h'):Out P X D R ρ O h w (if isInt u=true then asInt x' >>= fun v=>if IntKind.i64.wrap v < 0 then afK v else typeInfo elem >>= fun ti=>if IntKind.i64.wrap v * (ti.bytes:Int) > 2 ^ 48 then afL v ti else Pure.pure (IntKind.i64.wrap v).toNat >>= K else Builtin.lenOf x' >>= K) a h' :=by
 unfold abO at e
 split at e
 · rename_i hu
   rw [if_pos hu]
   cases hx<;>dsimp only at e<;>first|(cases e;done)|skip
   split at e
   ·rename_i hk
    cases e
    refine Out.pu (y:=_) (.aN _) ?_
    dsimp only
    rw [if_neg (by omega)]
    refine Out.pu (ou hi) ?_
    rw [if_neg (by omega)]
    exact Out.pu (.aN _) k
   ·cases e
 · rename_i hu
   rw [if_neg hu]
   exact Out.pu (abQ hx e) k
theorem Hw[aI P]{elem:TypeId}{i:TypeInfo}{u:TypeDesc}{x x':Value}{m:Nat}{new:Array Value}(rel:Rel ρ O D h w)(hi:P.info? elem=some i)(hx:VR ρ x x')(e:anew P h u i m x=some new) :
   Out P X D (fun σ=>AR (VR σ)) ρ O h w (if (!isInt u)=true then Builtin.firstCells i.size m x' else if m * i.size=0 then Pure.pure #[] else zeroValue elem >>= fun z=>Pure.pure (Builtin.zeroCells z.cells m)) new h:=by
 unfold anew at e
 split at e
 · rename_i hu
   rw [hu]
   split at e
   ·rename_i z hz
    split at e
    ·rename_i hs
     cases e
     simp only [Bool.not_true,Bool.false_eq_true,if_false]
     split
     ·rename_i h0
      rw [zD (by rw [hs];exact h0)]
      exact Out.Jk rel ⟨rfl,fun _ _ _ hh=>by simp at hh⟩
     ·refine Out.pu (xx hi hz) (Out.Jk rel (pG (fun τ=>aI.zero elem i z hi hz τ) _ _))
    ·cases e
   ·cases e
 · rename_i hu
   rw [show isInt u=false by simpa using hu]
   exact (lN i.size m hx).uQ rel (yw _ e)
theorem KZ[aI P]{argTypes:Array TypeId}{ty:TypeId}{s s' x x' v:Value}(rel:Rel ρ O D h w)(hs:VR ρ s s')(hx:VR ρ x x')(e:abP P h argTypes s x=some (v,h')) :
   Out P X D VR ρ O h w (Builtin.append_ argTypes ty #[s',x']) v h' :=by
 unfold abP at e
 split at e
 rotate_left
 · cases e
 rename_i st xt h0 h1
 split at e
 rotate_left
 · cases e
 rename_i elem u base n c hst hxt
 split at e
 · cases e
 rename_i i hi
 split at e
 · cases e
 rename_i m hm
 split at e
 · cases e
 rename_i new hnew
 obtain ⟨base',c',rfl,hb⟩:∃base' c',s' = .slice base' n c' ∧ ((base=none∧base' = none∧c' = c)∨∃a,base=some a∧base' = some (ρ.addr a)∧ρ.born a.block∧(c' = c∨(ρ.bD a.block∧c≤c' ∧ a.off+c' * ρ.u a.block≤ρ.ext a.block))):=by
   cases hs with
   |nilslice=>exact ⟨none,c,rfl,.inl ⟨rfl,rfl,rfl⟩⟩
   |slice hb hc=>exact ⟨_,_,rfl,.inr ⟨_,rfl,rfl,hb,hc⟩⟩
 have hcc:c≤c' :=by rcases hb with ⟨_,_,h⟩|⟨_,_,_,_,h|h⟩<;>omega
 unfold Builtin.append_
 simp only [h0,h1,List.getElem?_toArray,List.getElem?_cons_zero,List.getElem?_cons_succ]
 refine Out.pu (oW hst) ?_
 dsimp only
 refine Out.pu (OI hi) ?_
 refine Out.pu (oW hxt) ?_
 refine Out.pu (y:=isInt u) (by cases u<;>exact .aN _) ?_
 refine Out.alt hi hx hm ?_
 by_cases hroom:n+m≤c
 · rw [if_pos hroom] at e
   rw [if_pos (by omega)]
   refine Out.BV (Hw rel hi hx hnew) fun σ new' w₁ hle hnr qG=>?_
   rcases hb with ⟨rfl,rfl,rfl⟩|⟨a,rfl,rfl,hba,hc⟩
   ·cases e
    exact Out.Jk qG (.nilslice _ _)
   ·dsimp only at e ⊢
    split at e
    ·rename_i u₁ h₂ hst'
     cases e
     have afM:σ.born (a.add (n * i.size)).block:=by rw [block_add];exact hle.born _ hba
     have had:(ρ.addr a).add (n * i.size)=σ.addr (a.add (n * i.size)):=by rw [←hle.addr hba,←addr_add]
     rw [had]
     refine Out.BV ((jw 0 afM hnr.afI).uQ qG hst') fun τ _ w₂ eG _ La=>?_
     refine Out.Jk La ?_
     exact ((VR.slice hba hc:VR ρ (.slice (some a) (n+m) c) (.slice (some (ρ.addr a)) (n+m) c')).mono hle).mono eG
    ·cases e
 rw [if_neg hroom] at e
 unfold ZX at e
 split at e
 rotate_left
 · cases e
 rename_i z old hz hold
 split at e
 rotate_left
 · cases e
 rename_i hk
 obtain ⟨k1,k2,k3,k4,k5,k6⟩:=hk
 have Be:∀v∈new.toList,flat v=true:=List.all_eq_true.1 k6
 by_cases hin:n+m≤c'
 ·
   rw [if_pos hin]
   rcases hb with ⟨rfl,rfl,rfl⟩|⟨a,rfl,rfl,hba,hc⟩
   ·exact absurd hin hroom
   obtain ⟨hsl,ahA,PE⟩:=hc.resolve_left fun z=>hroom (z ▸ hin)
   dsimp only at e
   split at e
   rotate_left
   ·cases e
   rename_i B hspot hlook
   split at e
   rotate_left
   ·cases e
   rename_i cs ce cg iM
   obtain ⟨sl1,sl2⟩:=rel.bD _ B hba hlook
   have adL:=sl1.1 hsl
   split at e
   ·rename_i hf;exact absurd hf adL
   rename_i f hf
   split at e
   rotate_left
   ·cases e
   rename_i hro
   obtain ⟨hro,hu⟩:=hro
   cases e
   rw [sl2 adL,hu] at PE
   refine Out.BV (Hw rel hi hx hnew) fun σ new' w₁ hle hnr qG=>?_
   dsimp only
   exact Uk qG (hle.born _ hba) (hle.addr hba).symm (by rw [hle.ext _ hba];exact PE) hspot hlook iM hf hro hin hnr k1 k2 Be hold
 ·
   rw [if_neg hin]
   obtain ⟨f,l,hsub,rfl,rfl⟩:∃f l,l.Sublist ((h.dH.get f).getD [])∧v = .slice (some ⟨h.n,0,none⟩) (n+m) (n+m)∧h' = h.join f l (.cells (old ++ new) elem (0,0)) i.size:=by
    split at e
    ·cases e;exact ⟨h.n,[],List.nil_sublist _,rfl,rfl⟩
    ·split at e
     ·split at e
      ·split at e
       ·cases e;exact ⟨h.n,[],List.nil_sublist _,rfl,rfl⟩
       ·split at e
        ·cases e
         refine ⟨_,_,?_,rfl,rfl⟩
         split
         ·exact vS _ _
         ·exact List.nil_sublist _
        ·cases e
      ·cases e
     ·cases e
   have hs':VR ρ (.slice base n c) (.slice base' n c'):=hs
   refine Out.pu (ou hi) ?_
   rw [if_neg (fun hh=>by
    have h2:(n+m) * 4 * 1≤(n+m) * 4 * i.bytes:=Nat.mul_le_mul_left _ (by omega)
    have:=hh.1
    have h3:(n+m:Nat) > (9223372036854775807:Int):=this
    omega)]
   refine Out.pu (ou hi) ?_
   rw [if_neg (fun hh=>by
    have h1:=nextslicecap_le (n:=n+m) (c:=c') (by omega)
    have h2:=Nat.mul_le_mul_right i.bytes h1
    have h3:(n+m) * 4 * i.bytes=4 * (n+m) * i.bytes:=by rw [Nat.mul_comm (n+m) 4]
    omega)]
   refine Out.choose rfl ?_
   have hcap:n+m≤(Question.appendCap (n+m) c' elem).cut (w.tape w.drawn (.appendCap (n+m) c' elem)):=Nat.le_add_right _ _
   generalize (Question.appendCap (n+m) c' elem).cut (w.tape w.drawn (.appendCap (n+m) c' elem))=cap at hcap
   refine Out.pu (ou hi) ?_
   refine Out.room ?_
   refine Out.BV ((lN i.size n hs').uQ (rel.drawn _) (yw _ hold)) fun σ old' w₁ hle hor qG=>?_
   refine Out.BV (Hw qG hi (hx.mono hle) hnew) fun τ new' w₂ eG hnr La=>?_
   refine Out.pu (xx hi hz) ?_
   exact elsewhere La hsub (hor.mono fun _ _ x=>x.mono eG) hnr k1 k2 (by rw [qF,k3]) hcap
end
end Go.Am
namespace Go.Am
open Go.Ren (grow fM aO az)
inductive uY where
 | go (s:AS)
 | ret (v:Value) (h:AH)
def au(P:Program)(f:aF)(h:AH)(v:Value):Option aF:=
 match f.todo with
 | .region ops (i :: rest) :: k=>some { f with tmps:=cZ f.tmps ((ops[i]?).bind (·.dst)) v,todo:=.region ops rest :: k }
 | .inRangeFunc l :: k=>some { f with todo:=.endRangeFunc l :: k }
 | .beginRound :: k=>some { f with todo:=k }
 | .drawn ops ((i,c) :: rest) :: k=>if aH ops i = .effect∧recheck P ops c (cZ f.tmps (bG ops i) v) h=true then some { f with tmps:=cZ f.tmps (bG ops i) v,todo:=.drawn ops rest :: k } else none
 | _=>none
def rE(P:Program)(dk:Bool)(cs:List aF)(v:Value)(h:AH):Option uY:=
 if dk then none else match cs with
 | []=>some (.ret v h)
 | c :: cs=>(au P c h v).map fun f=>.go ⟨f,cs,h⟩
def bK(P:Program)(fr:aF)(cs:List aF):Option (Next×AH)→Option uY
 | some (.value v,h)=>(au P fr h v).map fun f=>.go ⟨f,cs,h⟩
 | some (.skip,h)=>(au P fr h undef).map fun f=>.go ⟨f,cs,h⟩
 | some (.enter f args,h)=>some (.go ⟨aF.enter P f args,fr :: cs,h⟩)
 | some (.round l f t x b,h)=>some (.go ⟨aF.OD l f t x b,fr :: cs,h⟩)
 | _=>none
def OJ(P:Program)(h:AH)(tmps:Array Value)(o:Oper):Option (Next×AH):=
 match o.op with
 | .call c=>match c.args.toList with
   | [p,q]=>if bf o then (abP P h c.argTypes (af tmps p) (af tmps q)).map fun r=>(.value r.1,r.2) else none
   |_=>none
 | _=>none
def bC(P:Program)(c:Option Nat)(h:AH)(tmps:Array Value)(o:Oper):Option (Next×AH):=
 if bP o then OJ P h tmps o else if bf o && kD P h (af tmps) o then (execOp (af tmps) o).ar P c h else none
def lJ(P:Program)(s:AS)(jump:Option Code):Option uY:=
 match s.fr.round with
 | none=>match jump with
   |none|some .ret=>some (.go { s with fr:={ s.fr with ret:=true } })
   |_=>none
 | some l=>match (Instr.endRound l jump).ar P none s.h with
   |some (v,h)=>rE P s.fr.dk s.cs v h
   |none=>none
def BZ(s:AS)(todo:List aK):Option uY:=some (.go { s with fr:={ s.fr with todo } })
def kZ(P:Program)(s:AS):Option uY:=
 match s.fr.defers with
 | {target:=.collected b,.. } :: ds=>match (Instr.takeDeferred b).ar P none s.h with
   |some (calls,h)=>some (.go { s with fr:={ s.fr with defers:=calls ++ ds },h })
   |none=>none
 | _ :: _=>none
 | []=>match P.funcs[s.fr.fn]? with
   |none=>none
   |some fn=>match (results fn s.fr.tmps).ar P none s.h with
    |some (v,h)=>rE P s.fr.dk s.cs v h
    |none=>none
def CY:Operand→Bool
 | .tmp _=>true
 | .const v=>fD 9 v
 | _=>false
abbrev bz:=Nat→Array Oper→List (Nat×List Nat)
def ax(P:Program)(pl:bz)(c:Option Nat)(s:AS):Option uY:=
 match s.fr.ret with
 | true=>kZ P s
 | false=>match s.fr.todo with
   | []=>lJ P s none
   | .code x :: k=>match x with
    | .ret=>lJ P s (some .ret)
    | .skip=>BZ s k
    | .label _=>BZ s k
    | .seq a b=>BZ s (.code a :: .code b :: k)
    | .cond x a b=>if CY x then match af s.fr.tmps x with
     | .bool t=>BZ s (.code (if t then a else b) :: k)
     |_=>none else none
    | .block id b=>BZ s (.code b :: .inBlock id :: k)
    | .loop b=>BZ s (.code b :: .inLoop b :: k)
    | .scope b=>BZ s (.code b :: .inScope b :: k)
    | .exit id=>match nN id k with
     |some k=>BZ s k
     |none=>lJ P s (some (.exit id))
    | .goto l=>match qY l k with
     |some k=>BZ s k
     |none=>lJ P s (some (.goto l))
    | .region _ ops false=>BZ s (.region ops (List.range ops.size) :: k)
    | .region id ops true=>if Hr ops (pl id ops) && P.follows .mixedOrders then BZ s (.drawn ops (pl id ops) :: k) else none
    | .rangeFunc f params assign body=>if CY f then match af s.fr.tmps f with
     | .func (.func g) first captured=>match (Instr.enterLoop s.fr.fn s.fr.tmps params assign body s.fr.round).ar P none s.h with
      |some ((l,mark),h)=>bK P { s.fr with todo:=.inRangeFunc l :: k,defers:=mark ++ s.fr.defers } s.cs ((callFunc g ((first ++ #[.func (.yield l) #[] #[]]) ++ captured)).ar P none h)
      |none=>none
     |_=>none else none
    |_=>none
   | .inBlock _ :: k=>BZ s k
   | .inScope _ :: k=>BZ s k
   | .inLoop b :: k=>BZ s (.code b :: .inLoop b :: k)
   | .beginRound :: k=>match s.fr.round with
    |some l=>match (Instr.beginRound l).ar P none s.h with
     |some (_,h)=>some (.go { s with fr:={ s.fr with todo:=k },h })
     |none=>none
    |none=>none
   | .endRangeFunc l :: k=>match (Instr.endLoop l).ar P none s.h with
    |some (jump,h)=>some (.go { s with fr:={ s.fr with todo:=(jump.map aK.code).toList ++ k },h })
    |none=>none
   | .region _ [] :: k=>BZ s k
   | .region ops (i :: _) :: _=>match ops[i]? with
    |some o=>if Region.wanted o (yielded ops s.fr.tmps) then bK P s.fr s.cs (bC P c s.h s.fr.tmps o) else (au P s.fr s.h undef).map fun f=>.go { s with fr:=f }
    |none=>none
   | .drawn _ [] :: k=>BZ s k
   | .drawn ops ((i,again) :: l) :: k=>match ops[i]? with
    |none=>none
    |some o=>match aH ops i with
     | .effect=>if Region.wanted o (yielded ops s.fr.tmps) then bK P s.fr s.cs (bC P c s.h s.fr.tmps o) else (au P s.fr s.h undef).map fun f=>.go { s with fr:=f }
     |_=>match o.dst with
      |none=>none
      |some d=>if d < s.fr.tmps.size then
        if Region.wanted o (yielded ops s.fr.tmps) then match o.op with
         | .alloc t=>match zeroOf P t with
          | some z=>if recheck P ops again (s.fr.tmps.setIfInBounds d (.pointer (some ⟨s.h.n,0,none⟩))) (s.h.new (.cells z.cells t (0,0))) then
           some (.go { s with fr:={ s.fr with tmps:=s.fr.tmps.setIfInBounds d (.pointer (some ⟨s.h.n,0,none⟩)),todo:=.drawn ops l :: k },h:=s.h.new (.cells z.cells t (0,0)) }) else none
          | none=>none
         | .buildSlice t n ps=>match iw P (af s.fr.tmps) t n ps with
          | some (elem,cells)=>if bf o && recheck P ops again (s.fr.tmps.setIfInBounds d (.slice (some ⟨s.h.n,0,none⟩) n n)) (s.h.new (.cells cells elem (0,0))) then
           some (.go { s with fr:={ s.fr with tmps:=s.fr.tmps.setIfInBounds d (.slice (some ⟨s.h.n,0,none⟩) n n),todo:=.drawn ops l :: k },h:=s.h.new (.cells cells elem (0,0)) }) else none
          | none=>none
         |_=>match fZ P s.h s.fr.tmps o with
          | some v=>some (.go { s with fr:={ s.fr with tmps:=s.fr.tmps.setIfInBounds d v,todo:=.drawn ops l :: k } })
          | none=>none
        else some (.go { s with fr:={ s.fr with tmps:=s.fr.tmps.setIfInBounds d undef,todo:=.drawn ops l :: k } })
       else none
   |_=>none
inductive FT(P:Program)(ρ:Env)(lo:Nat)(h:AH)(a:aF)(f:Frame):Prop
 | plain (k:F0 ρ a f)
 | ahead {ops:Array Oper} {l:List (Nat×List Nat)} {s:List Nat} (k:FD ρ lo h.n ops l s a f) (e:UE P h ops l s a.tmps)
inductive Io(ρ:Env)(lo hi:Nat)(a:aF)(f:Frame):Prop
 | plain (k:F0 ρ a f)
 | ahead {ops:Array Oper} {i:Nat} {c:List Nat} {l:List (Nat×List Nat)} {s:List Nat} (k:FD ρ lo hi ops ((i,c) :: l) (i :: s) a f) (hk:aH ops i = .effect)
inductive Cb(ρ:Env):Nat→List aF→List Frame→Prop
 | nil {hi:Nat}:Cb ρ hi [] []
 | cons {lo hi:Nat} {a:aF} {f:Frame} {as:List aF} {fs:List Frame} (hlo:lo≤hi) (h:Io ρ lo hi a f) (k:Cb ρ lo as fs):Cb ρ hi (a :: as) (f :: fs)
theorem Io.mono{ρ σ:Env}{lo hi hi':Nat}{a:aF}{f:Frame}(k:Io ρ lo hi a f)(hle:ρ.Le σ)(hb:∀x,x < hi→σ.born x→ρ.born x)(hh:hi≤hi'):Io σ lo hi' a f:=by
 cases k with
 | plain k=>exact .plain (k.mono hle)
 | ahead k hk=>exact .ahead (k.mono hle hb hh) hk
theorem Cb.mono{ρ σ:Env}{hi hi':Nat}{as:List aF}{fs:List Frame}(k:Cb ρ hi as fs)(hle:ρ.Le σ)(hb:∀x,x < hi→σ.born x→ρ.born x)(hh:hi≤hi'):Cb σ hi' as fs:=by
 induction k generalizing hi' with
 | nil=>exact .nil
 | cons hlo h _ ih=>exact .cons (Nat.le_trans hlo hh) (h.mono hle hb hh) (ih (fun x hx=>hb x (Nat.lt_of_lt_of_le hx hlo)) (Nat.le_refl _))
theorem Io.base{ρ:Env}{lo hi:Nat}{a:aF}{f:Frame}(k:Io ρ lo hi a f):FB ρ a f:=by
 cases k with
 | plain k=>exact k.toFB
 | ahead k _=>exact k.base
def cO(f:Frame)(cs:List Frame):Goroutine:={ frame:=f,callers:=cs,status:=.running,dying:=none }
structure lV(P:Program)(ρ:Env)(O D:Nat→Prop)(base:List Frame)(s:AS)(g:Goroutine)(w:World):Prop where
 run:∃lo f cs,lo≤s.h.n∧g=cO f (cs ++ base)∧FT P ρ lo s.h s.fr f∧Cb ρ lo s.cs cs
 rel:Rel ρ O D s.h w
def Has(base:List Frame)(r:uY):Prop:=(∃v h,r = .ret v h)→base≠[]
def Jm(P:Program)(σ:Env)(O D:Nat→Prop)(base:List Frame):uY→Goroutine→World→Prop
 | .go s,g,w=>lV P σ O D base s g w
 | .ret v h,g,w=>∃(b:Frame) (bs:List Frame) (v':Value),base=b :: bs∧VR σ v v' ∧ g=cO (b.finish v') bs∧Rel σ O D h w
def sQ(P:Program)(m:Bool)(X:Event→Prop)(ρ:Env)(O D:Nat→Prop)(base:List Frame)(g:Goroutine)(w:World)(r:uY):Prop:=
 ∃(σ:Env) (g':Goroutine) (w':World) (es:Array Event),stepG P m g w = .go g' w' es∧aO X O D w w' es∧ρ.Le σ∧Jm P σ (grow O w w') D base r g' w'
section
variable{P:Program}{ρ σ:Env}{O D:Nat→Prop}{h h':AH}{w w':World}{X:Event→Prop}{m:Bool}{base:List Frame}
theorem Rel.grow(r:Rel ρ O D h w):Rel ρ (grow O w w') D h w:=r.mono fun _=>.inl
theorem ctl{s:AS}{f:Frame}{cs:List Frame}{a':aF}{f':Frame}(hst:stepG P m (cO f (cs ++ base)) w = .go (cO f' (cs ++ base)) w #[]){lo:Nat}(hf:F0 ρ a' f')(hlo:lo≤s.h.n)(hcs:Cb ρ lo s.cs cs)(r:Rel ρ O D s.h w) :
   sQ P m X ρ O D base (cO f (cs ++ base)) w (.go { s with fr:=a' }):=
 ⟨ρ,_,w,#[],hst,.none w,.refl ρ,⟨⟨lo,f',cs,hlo,rfl,.plain hf,hcs⟩,r.grow⟩⟩
theorem F0.Jn{a:aF}{f:Frame}(h:F0 ρ a f){k:List aK}{k':List Item}(hk:LR (xR ρ) k k'):F0 ρ { a with todo:=k } { f with todo:=k' }:=
 ⟨⟨h.fn,h.defers,h.mode,h.kind,h.round⟩,h.tmps,hk⟩
theorem uS{a a':aF}{f:Frame}{v v':Value}{H:AH}(h:F0 ρ a f)(hv:VR ρ v v')(e:au P a H v=some a'):F0 ρ a' (f.finish v'):=by
 unfold au at e
 have ht:=h.todo
 split at e
 · rename_i ops i rest k hk
   rw [hk] at ht
   cases e
   obtain ⟨g,tmps,todo,defers,mode,kind,ro⟩:=f
   dsimp only at ht
   cases ht with
   |cons hi hl=>
    cases hi
    unfold Frame.finish
    dsimp only
    refine ⟨⟨h.fn,h.defers,h.mode,h.kind,h.round⟩,?_,.cons (.region _ _) hl⟩
    exact TV h.tmps _ hv
 · rename_i l k hk
   rw [hk] at ht
   cases e
   obtain ⟨g,tmps,todo,defers,mode,kind,ro⟩:=f
   dsimp only at ht
   cases ht with
   |cons hi hl=>
    cases hi
    exact ⟨⟨h.fn,h.defers,h.mode,h.kind,h.round⟩,h.tmps,.cons (.endRangeFunc ‹_›) hl⟩
 · rename_i k hk
   rw [hk] at ht
   cases e
   obtain ⟨g,tmps,todo,defers,mode,kind,ro⟩:=f
   dsimp only at ht
   cases ht with
   |cons hi hl=>
    cases hi
    exact ⟨⟨h.fn,h.defers,h.mode,h.kind,h.round⟩,h.tmps,hl⟩
 · rename_i hk
   rw [hk] at ht
   generalize f.todo=z at ht
   cases ht with
   |cons hi _=>cases hi
 · cases e
theorem jA{lo hi:Nat}{a a':aF}{f:Frame}{v v':Value}(hf:Io ρ lo hi a f)(hh:hi≤h.n)(hv:VR ρ v v')(e:au P a h v=some a'):FT P ρ lo h a' (f.finish v'):=by
 cases hf with
 | plain k=>exact .plain (uS k hv e)
 | @ahead ops i c l s k hk=>
   obtain ⟨k1,k2,t1,t2,hl⟩:=k.todo
   unfold au at e
   rw [t1] at e
   dsimp only at e
   split at e
   ·rename_i hr
    cases e
    have k' :=k.effect (v:=v) (v' :=v') t1 hv
    exact .ahead (k'.mono (.refl ρ) (fun x _ hx=>hx) hh) (k'.eqs k.ord (by rw [hk];exact fun x=>by cases x) hr.2)
   ·cases e
theorem Cc{ops:Array Oper}{a a':Array Value}(h:AR (VR ρ) a a'):yielded ops a' = yielded ops a:=by
 funext j
 unfold yielded
 cases (ops[j]?).bind (·.dst) with
 | none=>rfl
 | some d=>
   have:=h.get d
   simp only [Option.bind_some]
   revert this
   generalize a[d]? = x
   generalize a'[d]? = y
   intro this
   cases this with
   |none=>rfl
   |some h=>cases h<;>rfl
end
end Go.Am
namespace Go.Am
open Go.Ren (grow fM aO az)
section
variable{P:Program}{ρ σ:Env}{O D:Nat→Prop}{h h':AH}{w w':World}{X:Event→Prop}{m:Bool}{base:List Frame}
theorem rX{α:Type}{s:Sem α}{r:Result α}{es:Array Event}(hr:∀ah,s.runT P w ah=(r,ah ++ es)):s.run P w=r∧s.events P w #[]=es:=by
 have:=hr #[]
 rw [Sem.runT_eq] at this
 simp only [Prod.mk.injEq] at this
 exact ⟨this.1,by simpa using this.2⟩
theorem ji{k:CallKind}(h:k ≠ .early):(k == CallKind.early)=false:=by cases k<;>first|rfl|exact absurd rfl h
theorem iK{fr:Frame}{cs:List Frame}{s:Sem Next}{v:Value}{es:Array Event}(hk:fr.kind ≠ .early)(hr:∀ah,s.runT P w ah=(.ok (.value v) w',ah ++ es)):stepG.apply P true fr cs none s w = .go (cO (fr.finish v) cs) w' (seen P fr.fn es):=by
 obtain ⟨h1,h2⟩:=rX hr
 have hb:=ji hk
 simp [stepG.apply,h1,h2,hb,GStep.after,cO]
theorem Lc{fr:Frame}{cs:List Frame}{s:Sem Next}{es:Array Event}(hk:fr.kind ≠ .early)(hr:∀ah,s.runT P w ah=(.ok .skip w',ah ++ es)):stepG.apply P true fr cs none s w = .go (cO (fr.finish undef) cs) w' (seen P fr.fn es):=by
 obtain ⟨h1,h2⟩:=rX hr
 have hb:=ji hk
 simp [stepG.apply,h1,h2,hb,GStep.after,cO]
theorem vZ{fr:Frame}{cs:List Frame}{s:Sem Next}{f:FuncId}{args:Array Value}{es:Array Event}(hk:fr.kind ≠ .early)(ht:∀d x y k,fr.todo ≠ .call d true x y :: k)(hr:∀ah,s.runT P w ah=(.ok (.enter f args) w',ah ++ es)) :
   stepG.apply P true fr cs none s w = .go (cO (Frame.enter P f args .normal) (fr :: cs)) w' (seen P fr.fn es):=by
 obtain ⟨h1,h2⟩:=rX hr
 have:(match fr.todo with | .call _ true _ _ :: _=>CallKind.wrapped|_=>.normal) = .normal:=by
   split
   ·rename_i he;exact absurd he (ht _ _ _ _)
   ·rfl
 simp [stepG.apply,h1,h2,hk,GStep.after,cO]
theorem Jo{fr:Frame}{cs:List Frame}{s:Sem Next}{l:Nat}{f:FuncId}{t:Array Value}{x y:Code}{es:Array Event}(hk:fr.kind ≠ .early)(hr:∀ah,s.runT P w ah=(.ok (.round l f t x y) w',ah ++ es)) :
   stepG.apply P true fr cs none s w = .go (cO (Frame.round l f t x y .normal) (fr :: cs)) w' (seen P fr.fn es):=by
 obtain ⟨h1,h2⟩:=rX hr
 have hb:=ji hk
 simp [stepG.apply,h1,h2,hb,GStep.after,cO]
theorem tJ{k:List aK}{k':List Item}(h:LR (xR ρ) k k'):∀d x y z k₁,k' ≠ .call d x y z :: k₁:=by
 intro d x y z k₁ e
 subst e
 cases h with
 | cons h _=>cases h
theorem Io.tJ{lo hi:Nat}{a:aF}{f:Frame}(h:Io ρ lo hi a f):∀d x y z k₁,f.todo ≠ .call d x y z :: k₁:=by
 cases h with
 | plain h=>exact Go.Am.tJ h.todo
 | ahead k _=>
   obtain ⟨_,_,_,t2,_⟩:=k.todo
   intro d x y z k₁ e
   rw [t2] at e
   cases e
theorem xJ{a:aF}{f:Frame}{cs:List aF}{cs':List Frame}{s':Sem Next}{lo:Nat}(hf:Io ρ lo h.n a f)(hlo:lo≤h.n)(hcs:Cb ρ lo cs cs'){n:Next}{r:uY}(e:bK P a cs (some (n,h'))=some r)
   (k:Out P X D NR ρ O h w s' n h'):∃(τ:Env) (g':Goroutine) (w':World) (es:Array Event),stepG.apply P true f (cs' ++ base) none s' w = .go g' w' es∧aO X O D w w' es∧ρ.Le τ∧Jm P τ (grow O w w') D base r g' w' :=by
 obtain ⟨τ,n',w',es,h1,h2,h3,h4,h5,h6,h7⟩:=k
 have hb:∀x,x < h.n→τ.born x→ρ.born x:=fun x hx hx'=>((h7 x).1 hx').elim id fun y=>by omega
 have hG:aO X O D w w' (seen P f.fn es):=h5.less (qx f.fn es)
 have hf' :=hf.mono h2 hb h6
 have hcs':Cb τ lo cs cs' :=hcs.mono h2 (fun x hx=>hb x (by omega)) (Nat.le_refl _)
 have lM:lo≤h'.n:=Nat.le_trans hlo h6
 have hkind:=hf.base.ne
 cases h3 with
 | @value v v' hv=>
   simp only [bK,Option.map_eq_some_iff] at e
   obtain ⟨a',e1,rfl⟩:=e
   exact ⟨τ,_,w',_,iK hkind h1,hG,h2,⟨⟨lo,_,cs',lM,rfl,jA hf' (Nat.le_refl _) hv e1,hcs'⟩,h4⟩⟩
 | skip=>
   simp only [bK,Option.map_eq_some_iff] at e
   obtain ⟨a',e1,rfl⟩:=e
   exact ⟨τ,_,w',_,Lc hkind h1,hG,h2,⟨⟨lo,_,cs',lM,rfl,jA hf' (Nat.le_refl _) gV e1,hcs'⟩,h4⟩⟩
 | @enter g x x' hx=>
   simp only [bK,Option.some.injEq] at e
   subst e
   exact ⟨τ,_,w',_,vZ hkind (fun d x y k=>hf.tJ d true x y k) h1,hG,h2,⟨⟨h'.n,_,f :: cs',Nat.le_refl _,rfl,.plain (xw g hx),.cons lM hf' hcs'⟩,h4⟩⟩
 | @round l l' g t t' x y hl ht=>
   simp only [bK,Option.some.injEq] at e
   subst e
   exact ⟨τ,_,w',_,Jo hkind h1,hG,h2,⟨⟨h'.n,_,f :: cs',Nat.le_refl _,rfl,.plain (Yv hl g ht x y),.cons lM hf' hcs'⟩,h4⟩⟩
 | odd=>simp only [bK] at e;cases e
theorem OL{a:aF}{f:Frame}(hf:AR (VR ρ) a.tmps f.tmps){o:Oper}(hk:bf o=true):∀x∈o.op.operands,VR ρ (af a.tmps x) (f.eval x):=aa7 hk hf (KT f)
theorem Ul{a:aF}{f:Frame}(hf:AR (VR ρ) a.tmps f.tmps){x:Operand}(hk:CY x=true):VR ρ (af a.tmps x) (f.eval x):=by
 cases x with
 | tmp t=>exact xE hf t
 | const v=>exact (dG hk).vr ρ
 | _=>cases hk
theorem OM{dk:Bool}{cs:List aF}{v:Value}{r:uY}(e:rE P dk cs v h=some r):dk=false∧rE P false cs v h=some r:=by
 cases dk with
 | true=>simp [rE] at e
 | false=>exact ⟨rfl,e⟩
theorem zF{f:Frame}{cs:List aF}{cs':List Frame}{v v':Value}{r:uY}{lo:Nat}(hk:f.kind = .normal)(hlo:lo≤h.n)(hcs:Cb ρ lo cs cs')(hv:VR ρ v v')(rel:Rel ρ O D h w)(hb:Has base r)(e:rE P false cs v h=some r):∃g',doReturn P m f (cs' ++ base) none v' w = .go g' w #[]∧Jm P ρ O D base r g' w:=by
 cases hcs with
 | nil=>
   simp only [rE,Bool.false_eq_true,if_false,Option.some.injEq] at e
   subst e
   cases base with
   |nil=>exact absurd rfl (hb ⟨_,_,rfl⟩)
   |cons b bs=>
    refine ⟨cO (b.finish v') bs,?_,b,bs,v',rfl,hv,rfl,rel⟩
    simp [doReturn,hk,cO]
 | @cons lo' _ c c' cs cs' lM hc hcs=>
   simp only [rE,Bool.false_eq_true,if_false,Option.map_eq_some_iff] at e
   obtain ⟨a',e1,rfl⟩:=e
   refine ⟨cO (c'.finish v') (cs' ++ base),?_,⟨⟨lo',_,cs',Nat.le_trans lM hlo,rfl,jA hc hlo hv e1,hcs⟩,rel⟩⟩
   simp [doReturn,hk,cO]
theorem Jp{l l':Nat}(j:Option Code)(hl:ρ.ob l l'):SR P VR ρ (Instr.endRound l j) (Instr.endRound l' j):=by
 unfold Instr.endRound
 refine (kN hl).bnd fun σ hσ r r' hr=>?_
 exact .setObj (hσ.ob hl) (.loop ⟨rfl,rfl,hr.fn,hr.tmps,hr.params,hr.assign,hr.body,hr.defers⟩) (.pure (.bool _))
theorem Aq{l l':Nat}(hl:ρ.ob l l'):SR P Same ρ (Instr.beginRound l) (Instr.beginRound l'):=by
 unfold Instr.beginRound
 refine (kN hl).bnd fun σ hσ r r' hr=>?_
 refine .setObj (hσ.ob hl) (.loop ⟨rfl,hr.pending,hr.fn,hr.tmps,hr.params,hr.assign,hr.body,hr.defers⟩) ?_
 rw [hr.state]
 cases r.state with
 | ready=>exact .pure rfl
 | _=>exact (show SR P Same σ (runtimePanic (.error _):Sem Unit) (runtimePanic (.error _)) from .vz)
theorem Ld{l l':Nat}(hl:ρ.ob l l'):SR P Same ρ (Instr.endLoop l) (Instr.endLoop l'):=by
 unfold Instr.endLoop
 refine (kN hl).bnd fun σ hσ r r' hr=>?_
 rw [hr.state,hr.pending]
 dsimp only
 split
 · exact .dead (jY _ (bI _))
 · exact .setObj (hσ.ob hl) (.loop ⟨rfl,rfl,hr.fn,hr.tmps,hr.params,hr.assign,hr.body,hr.defers⟩) (.pure rfl)
theorem xq{l l':Nat}(hl:ρ.ob l l'):SR P (fun σ=>LR (DR σ)) ρ (Instr.takeDeferred l) (Instr.takeDeferred l'):=by
 unfold Instr.takeDeferred
 refine .getObj hl fun o o' ho=>?_
 cases ho with
 | deferred h=>exact .setObj hl .taken (.pure h)
 | _=>exact .dead fun _ _=>rfl
theorem Hy(fn:FuncId){t t':Array Value}(ht:AR (VR ρ) t t')(params:Array Tmp)(x y:Code){r r':Option Nat}(hr:eF ρ.ob r r'):SR P (fun σ p q=>σ.ob p.1 q.1∧LR (DR σ) p.2 q.2) ρ (Instr.enterLoop fn t params x y r) (Instr.enterLoop fn t' params x y r'):=by
 unfold Instr.enterLoop
 have fin:∀(σ:Env) (d d':Nat) (k k':List Deferred),ρ.Le σ→σ.ob d d' → LR (DR σ) k k' → SR P (fun σ p q=>σ.ob p.1 q.1∧LR (DR σ) p.2 q.2) σ
    (do pure (←newObj (.loop { state:=.ready,pending:=none,fn,tmps:=t,params,assign:=x,body:=y,defers:=d }),k):Sem (Nat×List Deferred)) (do pure (←newObj (.loop { state:=.ready,pending:=none,fn,tmps:=t',params,assign:=x,body:=y,defers:=d' }),k'):Sem (Nat×List Deferred)):=by
   intro σ d d' k k' hσ hd hk
   refine .new (.obj (.loop ⟨rfl,rfl,rfl,ht.mono fun _ _ z=>z.mono hσ,rfl,rfl,rfl,hd⟩)) fun τ iO r r' hr=>.pure ⟨hr,hk.mono fun _ _ z=>z.mono iO⟩
 cases hr with
 | none=>
   dsimp only
   refine .new (.obj (.deferred .nil)) fun σ hσ d d' hd=>?_
   exact fin σ d d' _ _ hσ hd (.cons ⟨.collected hd,.empty⟩ .nil)
 | some h=>
   dsimp only
   refine (kN h).bnd fun σ hσ l l' hl=>?_
   exact fin σ _ _ _ _ hσ hl.defers .nil
theorem yM(fn:Func){t t':Array Value}(ht:AR (VR ρ) t t'):SR P VR ρ (results fn t) (results fn t'):=by
 unfold results
 refine SR.bnd (R:=fun σ=>AR (VR σ)) ?_ fun σ hσ a b hab=>.aN ?_
 · rw [Array.mapM_eq_mapM_toList,Array.mapM_eq_mapM_toList]
   refine SR.bnd (R:=fun σ=>LR (VR σ)) ?_ fun σ hσ a b hab=>.aN hab.arr
   have:∀(l:List ResultVar) (ρ:Env),AR (VR ρ) t t' → SR P (fun σ=>LR (VR σ)) ρ (l.mapM fun | .tmp x=>Pure.pure (t.getD x undef) | .cell a u=>do loadVar u (←asAddr (t.getD a undef))) (l.mapM fun | .tmp x=>Pure.pure (t'.getD x undef) | .cell a u=>do loadVar u (←asAddr (t'.getD a undef))):=by
    intro l
    induction l with
    |nil=>intro ρ _;exact .aN .nil
    |cons x l ih=>
     intro ρ ht
     rw [List.mapM_cons,List.mapM_cons]
     refine SR.bnd (R:=VR) ?_ fun σ hσ v v' hv=>?_
     ·cases x with
      |tmp x=>exact .aN (xE ht x)
      |cell a u=>exact (vG (xE ht a)).bnd fun σ _ a a' h=>by obtain ⟨h1,rfl⟩:=h;exact nT u h1
     ·exact (ih σ (ht.mono fun _ _ z=>z.mono hσ)).bnd fun τ iO l l' hl=>.aN (.cons (hv.mono iO) hl)
   exact this _ _ ht
 · by_cases h1:a.size=1
   ·have h2:b.size=1:=hab.1 ▸ h1
    rw [dif_pos h1,dif_pos h2]
    exact hab.2 0 _ _ (by simp [h1]) (by simp [h2])
   ·have h2:¬b.size=1:=hab.1 ▸ h1
    rw [dif_neg h1,dif_neg h2]
    exact kK hab
end
end Go.Am
namespace Go.Am
open Go.Ren (grow fM aO az)
section
variable{P:Program}{ρ σ:Env}{O D:Nat→Prop}{h h':AH}{w w':World}{X:Event→Prop}
theorem QA[aI P](rel:Rel ρ O D h w){tmps:Array Value}{e':Operand→Value}{o:Oper}(hv:bf o=true→∀x∈o.op.operands,VR ρ (af tmps x) (e' x))(ha:bP o=true){n:Next}(e:OJ P h tmps o=some (n,h')) :
   Out P X D NR ρ O h w (execOp e' o) n h' :=by
 unfold OJ at e
 split at e
 rotate_left
 · cases e
 rename_i c hop
 split at e
 rotate_left
 · cases e
 rename_i p q hpq
 split at e
 rotate_left
 · cases e
 rename_i hok
 simp only [Option.map_eq_some_iff] at e
 obtain ⟨⟨v,h₁⟩,e1,e2⟩:=e
 cases e2
 have hv' :=hv hok
 have UR:c.callee = .builtin .append:=by
   unfold bP at ha
   rw [hop] at ha
   obtain ⟨callee,args,types⟩:=c
   dsimp only at ha ⊢
   split at ha
   ·rename_i hh;cases hh;rfl
   ·cases ha
 have hargs:c.args = #[p,q]:=by
   have:=congrArg List.toArray hpq
   simpa using this
 have hp:VR ρ (af tmps p) (e' p):=hv' p (by rw [hop];simp [Op.operands,Call.operands,hargs])
 have hq:VR ρ (af tmps q) (e' q):=hv' q (by rw [hop];simp [Op.operands,Call.operands,hargs])
 have hex:execOp e' o=(Builtin.append_ c.argTypes o.type #[e' p,e' q]).bind fun v=>Sem.pure (.value v):=by
   unfold execOp
   rw [hop]
   dsimp only
   unfold resolve
   rw [UR]
   dsimp only
   rw [hargs]
   simp only [List.map_toArray,List.map_cons,List.map_nil]
   rfl
 rw [hex]
 exact (KZ rel hp hq e1).BV fun σ v' w₁ hle hvr qG=>.Jk qG (.value hvr)
theorem Ce[aI P](rel:Rel ρ O D h w){tmps:Array Value}{e':Operand→Value}{o:Oper}(hv:bf o=true→∀x∈o.op.operands,VR ρ (af tmps x) (e' x)) :
   ∃c:Nat,∀ {n:Next} {h':AH},bC P (some c) h tmps o=some (n,h')→Out P X D NR ρ O h w (execOp e' o) n h' :=by
 by_cases ha:bP o=true
 · refine ⟨0,fun e=>?_⟩
   unfold bC at e
   rw [if_pos ha] at e
   exact QA rel hv ha e
 · by_cases hk:(bf o && kD P h (af tmps) o)=true
   ·have hk' :=hk
    simp only [Bool.and_eq_true] at hk'
    obtain ⟨c,k⟩:=(OC rel o (hv hk'.1) hk'.2).aem (X:=X) rel
    refine ⟨c,fun e=>?_⟩
    unfold bC at e
    rw [if_neg ha,if_pos hk] at e
    exact k e
   ·refine ⟨0,fun e=>?_⟩
    unfold bC at e
    rw [if_neg ha,if_neg hk] at e
    cases e
theorem Jq{c:Option Nat}{tmps:Array Value}{o:Oper}{r:Next×AH}(e:bC P c h tmps o=some r):∀q,o.op ≠ .defer q:=by
 intro q hq
 unfold bC at e
 split at e
 · unfold OJ at e
   rw [hq] at e
   cases e
 · split at e
   ·rename_i hk
    simp only [Bool.and_eq_true] at hk
    have:=hk.2
    unfold kD at this
    rw [hq] at this
    cases this
   ·cases e
end
end Go.Am
