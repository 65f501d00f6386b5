import Derived.Test.YtgfjlblikffnaaaGreatH6
import Derived.Test.YtgfjlblikffnaaaGreatH19
set_option linter.unusedVariables false
set_option linter.unusedSectionVars false
set_option linter.unusedSimpArgs false
namespace Go.Ren
section
variable{P:Program}{O O' D D' A F:Nat→Prop}{w w₁ w₂ w':World}{g g':Goroutine}{X:Event→Prop}{I:World→Prop}{m:Bool}
theorem fM.MC{B:Nat}{e:Event}(h:fM X B O D' e)(hD:∀b,D' b→O b∨D b):fM X B O D e:=by
 rcases h with h|h
 · exact .inl h
 · right
   revert h
   cases e.loc with
   |cell a=>exact fun h=>h.elim .inl fun x=>(hD _ x.1).imp id fun y=>⟨y,x.2⟩
   |obj r=>exact fun h=>h.elim .inl fun x=>(hD _ x.1).imp id fun y=>⟨y,x.2⟩
   |_=>exact id
theorem Wk.MC{S:(Nat→Prop)→Goroutine→World→Prop}(h:Wk P m I X D' S O g w):(∀b,D' b→O b∨D b)→Wk P m I X D S O g w:=by
 induction h with
 | stop h=>intro _;exact .stop h
 | @step O g w hs f u es h k ih=>
   intro hD
   have less:∀w₁,az O D w w₁→az O D' w w₁:=fun w₁ r=>⟨r.size,r.own,fun b hb=>(hD b hb).elim (r.own b) (r.ro b),r.os,r.output,r.tape⟩
   refine .step hs f u es (fun w₁ hr hi=>?_) fun w₁ hr hi=>ih w₁ (less w₁ hr) hi fun b hb=>(hD b hb).imp .inl id
   obtain ⟨h1,h2⟩:=h w₁ (less w₁ hr) hi
   exact ⟨h1,h2.size,h2.heap,h2.os,h2.output,h2.tape,fun e he=>(h2.ev e he).MC fun b hb=>(hD b hb).imp .inl id⟩
theorem Wk.bnd{S:(Nat→Prop)→Goroutine→World→Prop}(h:Wk P m I X D S O g w):(∀b,O b→b < w.heap.size)→(∀b,D b→b < w.heap.size) →
   Wk P m I X D (fun O' g' w'=>S O' g' w' ∧ (∀b,O' b→b < w'.heap.size)∧(∀b,D b→b < w'.heap.size)∧∀b,O b→O' b) O g w:=by
 induction h with
 | stop h=>intro hO hD;exact .stop ⟨h,hO,hD,fun _=>id⟩
 | @step O g w hs f u es h k ih=>
   intro hO hD
   refine .step hs f u es h fun w₁ hr hi=>?_
   obtain ⟨_,h2⟩:=h w₁ hr hi
   refine (ih w₁ hr hi (fun b hb=>?_) fun b hb=>Nat.lt_of_lt_of_le (hD b hb) (Nat.le_trans hr.size h2.size)).mono fun O' g' w' z=>⟨z.1,z.2.1,z.2.2.1,fun b hb=>z.2.2.2 b (.inl hb)⟩
   rcases hb with hb|hb
   ·exact Nat.lt_of_lt_of_le (hO b hb) (Nat.le_trans hr.size h2.size)
   ·exact hb.2
theorem Wk.apart{S:(Nat→Prop)→Goroutine→World→Prop}(h:Wk P m I X D S O g w):(∀b,A b→b < w.heap.size∧¬O b) →
   Wk P m I X D (fun O' g' w'=>S O' g' w' ∧ ∀b,A b→b < w'.heap.size∧¬O' b) O g w:=by
 induction h with
 | stop h=>intro hA;exact .stop ⟨h,hA⟩
 | @step O g w hs f u es h k ih=>
   intro hA
   refine .step hs f u es h fun w₁ hr hi=>ih w₁ hr hi fun b hb=>?_
   obtain ⟨_,h2⟩:=h w₁ hr hi
   have h3:=h2.size
   have h4:=hr.size
   have h5:=(hA b hb).1
   exact ⟨by omega,fun x=>x.elim (hA b hb).2 fun y=>by omega⟩
theorem Wk.read{S:(Nat→Prop)→Goroutine→World→Prop}(h:Wk P m I X A S O g w)(hA:∀b,A b→b < w.heap.size∧¬O b) :
   Wk P m I X (fun _=>False) (fun O' g' w'=>∃fU,S fU g' w' ∧ (O' = fun b=>fU b∨A b)∧(∀b,A b→¬fU b)∧az A A w w') (fun b=>O b∨A b) g w:=by
 refine (((h.apart hA).frame hA hA).MC (D:=fun _=>False) fun b hb=>.inl (.inr hb)).mono ?_
 rintro O' g' w' ⟨fU,⟨h1,h2⟩,rfl,h3⟩
 exact ⟨fU,h1,rfl,fun b hb=>(h2 b hb).2,h3⟩
end
end Go.Ren
namespace Go.Am
open Go.Ren (grow fM aO az Wk X0)
section
variable{P:Program}{ρ σ τ:Env}{O O' D D':Nat→Prop}{h h' hA:AH}{w w':World}{base:List Frame}{pl:bz}{s s':AS}{K L:AS→Prop}{Q R:Value→AH→Prop}{c:aF}{cs:List aF}{f:FuncId}{args:Array Value}{g:Goroutine}
structure ay(P:Program)(K:AS→Prop)(s:AS):Prop where
 go:∀ {ρ:Env} {O D:Nat→Prop} {base:List Frame} {g:Goroutine} {w:World},(∀b,O b→b < w.heap.size)→(∀b,D b→b < w.heap.size)→lV P ρ O D base s g w →
 Wk P true (fun _=>True) X0 D (fun O' g' w'=>∃(σ:Env) (s':AS),K s' ∧ ρ.Le σ∧lV P σ O' D base s' g' w') O g w
structure bM(P:Program)(Q:Value→AH→Prop)(s:AS):Prop where
 go:∀ {ρ:Env} {O D:Nat→Prop} {b:Frame} {bs:List Frame} {g:Goroutine} {w:World},(∀b,O b→b < w.heap.size)→(∀b,D b→b < w.heap.size)→lV P ρ O D (b :: bs) s g w →
 Wk P true (fun _=>True) X0 D (fun O' g' w'=>∃(σ:Env) (v:Value) (h:AH) (v':Value),Q v h∧ρ.Le σ∧VR σ v v' ∧ g' = cO (b.finish v') bs∧Rel σ O' D h w') O g w
theorem bn.runs[aI P](k:bn P pl K s):ay P K s:=⟨fun _ _ S=>jg k S⟩
theorem gW.SS[aI P](k:gW P pl Q s):bM P Q s:=⟨fun _ _ S=>L6 k S⟩
theorem ay.here(h:K s):ay P K s:=⟨fun _ _ S=>.stop ⟨_,_,h,.refl _,S⟩⟩
theorem ay.bind(k:ay P K s)(l:∀s,K s→ay P L s):ay P L s:=by
 refine ⟨fun hO hD S=>?_⟩
 refine ((k.go hO hD S).bnd hO hD).bind ?_
 rintro fU g₁ w₁ ⟨⟨σ,s₁,h1,h2,h3⟩,h4,h5,_⟩
 refine ((l s₁ h1).go h4 h5 h3).mono ?_
 rintro rW g₂ w₂ ⟨τ,s₂,k1,k2,k3⟩
 exact ⟨τ,s₂,k1,h2.trans k2,k3⟩
theorem ay.mono(k:ay P K s)(l:∀s,K s→L s):ay P L s:=k.bind fun s h=>ay.here (l s h)
theorem ay.SS(k:ay P K s)(l:∀s,K s→bM P Q s):bM P Q s:=by
 refine ⟨fun hO hD S=>?_⟩
 refine ((k.go hO hD S).bnd hO hD).bind ?_
 rintro fU g₁ w₁ ⟨⟨σ,s₁,h1,h2,h3⟩,h4,h5,_⟩
 refine ((l s₁ h1).go h4 h5 h3).mono ?_
 rintro rW g₂ w₂ ⟨τ,v,h,v',k1,k2,k3⟩
 exact ⟨τ,v,h,v',k1,h2.trans k2,k3⟩
theorem bM.mono(k:bM P Q s)(l:∀v h,Q v h→R v h):bM P R s:=by
 refine ⟨fun hO hD S=>?_⟩
 refine (k.go hO hD S).mono ?_
 rintro rW g₂ w₂ ⟨τ,v,h,v',k1,k2⟩
 exact ⟨τ,v,h,v',l v h k1,k2⟩
end
end Go.Am
namespace Go.Am
open Go.Ren (grow fM aO az Wk X0)
def OkF(p:Nat→Prop):Fn→Prop
 | .yield l=>p l
 | _=>True
inductive mG(p:Nat→Prop):Value→Prop
 | bool (b:Bool):mG p (.bool b)
 | int (k:IntKind) (n:Int):mG p (.int k n)
 | string (s:ByteArray):mG p (.string s)
 | eu:mG p (.pointer none)
 | ptr {a:Addr} (h:p a.block):mG p (.pointer (some a))
 | nilslice (n c:Nat):mG p (.slice none n c)
 | slice {a:Addr} {n c:Nat} (h:p a.block):mG p (.slice (some a) n c)
 | cu:mG p (.map none)
 | map {r:Nat} (h:p r):mG p (.map (some r))
 | dJ:mG p (.chan none)
 | chan {r:Nat} (h:p r):mG p (.chan (some r))
 | nilFunc:mG p .nilFunc
 | func {f:Fn} {a b:Array Value} (hf:OkF p f) (h:∀x∈a,mG p x) (k:∀x∈b,mG p x):mG p (.func f a b)
 | nilIface:mG p .nilIface
 | iface {t:TypeId} {v:Value} (h:mG p v):mG p (.iface t v)
 | agg {a:Array Value} (h:∀x∈a,mG p x):mG p (.agg a)
 | tuple {a:Array Value} (h:∀x∈a,mG p x):mG p (.tuple a)
theorem dh{ρ:Env}{a a':Array Value}(hs:a.size=a'.size){x:Value}(hx:x∈a):∃(i:Nat) (y:Value),a[i]? = some x∧a'[i]? = some y:=by
 obtain ⟨i,hi,rfl⟩:=Array.mem_iff_getElem.1 hx
 exact ⟨i,a'[i]'(hs ▸ hi),by simp [hi],by simp [hs ▸ hi]⟩
theorem VR.ok{ρ:Env}{q:Nat→Prop}{v v':Value}(k:VR ρ v v'):mG q v→mG (fun b=>ρ.born b∧q b) v:=by
 induction k with
 | bool b=>intro _;exact .bool b
 | int k n=>intro _;exact .int k n
 | string s=>intro _;exact .string s
 | eu=>intro _;exact .eu
 | ptr h=>intro k;cases k with|ptr k=>exact .ptr ⟨h,k⟩
 | nilslice n c=>intro _;exact .nilslice n c
 | slice h _=>intro k;cases k with|slice k=>exact .slice ⟨h,k⟩
 | cu=>intro _;exact .cu
 | map h=>intro k;cases k with|map k=>exact .map ⟨h.1,k⟩
 | dJ=>intro _;exact .dJ
 | chan h=>intro k;cases k with|chan k=>exact .chan ⟨h.1,k⟩
 | nilFunc=>intro _;exact .nilFunc
 | @func f f' a a' b b' hf hs _ ks _ ih ik=>
   intro k
   cases k with
   |func k1 k2 k3=>
    refine .func ?_ (fun x hx=>?_) fun x hx=>?_
    ·cases hf with
     |yield h=>exact ⟨h.1,k1⟩
     |_=>trivial
    ·obtain ⟨i,y,h1,h2⟩:=dh (ρ:=ρ) hs hx
     exact ih i x y h1 h2 (k2 x hx)
    ·obtain ⟨i,y,h1,h2⟩:=dh (ρ:=ρ) ks hx
     exact ik i x y h1 h2 (k3 x hx)
 | nilIface=>intro _;exact .nilIface
 | iface _ ih=>intro k;cases k with|iface k=>exact .iface (ih k)
 | agg hs _ ih=>
   intro k
   cases k with
   |agg k=>
    refine .agg fun x hx=>?_
    obtain ⟨i,y,h1,h2⟩:=dh (ρ:=ρ) hs hx
    exact ih i x y h1 h2 (k x hx)
 | tuple hs _ ih=>
   intro k
   cases k with
   |tuple k=>
    refine .tuple fun x hx=>?_
    obtain ⟨i,y,h1,h2⟩:=dh (ρ:=ρ) hs hx
    exact ih i x y h1 h2 (k x hx)
structure Env.Ag(ρ τ:Env)(b:Nat):Prop where
 born:τ.born b
 to:τ.to b=ρ.to b
 bD:ρ.bD b→τ.bD b
 u:τ.u b=ρ.u b
 ext:τ.ext b=ρ.ext b
theorem VR.carry{ρ τ:Env}{p:Nat→Prop}{v v':Value}(k:VR ρ v v')(hp:∀b,p b→ρ.born b→ρ.Ag τ b):mG p v→VR τ v v' :=by
 have had:∀a:Addr,ρ.Ag τ a.block→τ.addr a=ρ.addr a:=fun a h=>by unfold Env.addr;rw [h.to]
 have hob:∀r r',p r→ρ.ob r r' → τ.ob r r' :=fun r r' h k=>⟨(hp r h k.1).born,(hp r h k.1).to.trans k.2⟩
 induction k with
 | bool b=>intro _;exact .bool b
 | int k n=>intro _;exact .int k n
 | string s=>intro _;exact .string s
 | eu=>intro _;exact .eu
 | ptr h=>intro k;cases k with|ptr k=>rw [←had _ (hp _ k h)];exact .ptr (hp _ k h).born
 | nilslice n c=>intro _;exact .nilslice n c
 | slice h hc=>
   intro k
   cases k with
   |slice k=>
    have e:=hp _ k h
    rw [←had _ e]
    refine .slice e.born (hc.imp id fun ⟨x,y,z⟩=>⟨e.bD x,y,?_⟩)
    rw [e.u,e.ext];exact z
 | cu=>intro _;exact .cu
 | map h=>intro k;cases k with|map k=>exact .map (hob _ _ k h)
 | dJ=>intro _;exact .dJ
 | chan h=>intro k;cases k with|chan k=>exact .chan (hob _ _ k h)
 | nilFunc=>intro _;exact .nilFunc
 | @func f f' a a' b b' hf hs _ ks _ ih ik=>
   intro k
   cases k with
   |func k1 k2 k3=>
    refine .func ?_ hs (fun i x y hx hy=>ih i x y hx hy (k2 x (Array.mem_of_getElem? hx))) ks fun i x y hx hy=>ik i x y hx hy (k3 x (Array.mem_of_getElem? hx))
    cases hf with
    |yield h=>exact .yield (hob _ _ k1 h)
    |func f=>exact .func f
    |method n=>exact .method n
    |methodOf t n=>exact .methodOf t n
    |via t p f x=>exact .via t p f x
 | nilIface=>intro _;exact .nilIface
 | iface _ ih=>intro k;cases k with|iface k=>exact .iface (ih k)
 | agg hs _ ih=>intro k;cases k with|agg k=>exact .agg hs fun i x y hx hy=>ih i x y hx hy (k x (Array.mem_of_getElem? hx))
 | tuple hs _ ih=>intro k;cases k with|tuple k=>exact .tuple hs fun i x y hx hy=>ih i x y hx hy (k x (Array.mem_of_getElem? hx))
def Env.cut(ρ:Env)(n:Nat):Env:={ ρ with born:=fun b=>ρ.born b∧b < n }
structure AH.Sub(hA h:AH):Prop where
 look:∀b B,hA.look b=some B→∃bQ,h.look b=some bQ∧B.obj=bQ.obj∧B.dQ=bQ.dQ∧B.u=bQ.u∧B.ro=true
 cells:∀b B,hA.look b=some B→∃c e f,B.obj = .cells c e f∧∀x∈c,mG (· < hA.n) x
 tr:∀b B,hA.tr.get b=some B→∃bQ,h.tr.get b=some bQ∧B.obj=bQ.obj
 dH:∀f l,hA.dH.get f=some l→∃l',h.dH.get f=some l' ∧ l.Sublist l'
 mem:∀f l b,hA.dH.get f=some l→b∈l→b < hA.n∧∃B,hA.tr.get b=some B∧B.dQ=some f
section
variable{P:Program}{ρ σ τ:Env}{O O' D D':Nat→Prop}{h h' hA:AH}{w w':World}{base:List Frame}{pl:bz}{s s':AS}{K L:AS→Prop}{Q R:Value→AH→Prop}{c:aF}{cs:List aF}{f:FuncId}{args:Array Value}{g:Goroutine}
theorem Env.SV{n b:Nat}(hb:b < n)(k:ρ.born b):ρ.Ag (ρ.cut n) b:=⟨⟨k,hb⟩,rfl,id,rfl,rfl⟩
theorem Rel.view(r:Rel ρ O D h w)(k:hA.Sub h):Rel (ρ.cut hA.n) (fun _=>False) (fun b=>O b∨D b) hA w:=by
 have up:∀b n,hA.upTo (ρ.cut hA.n) b n→h.upTo ρ b n:=by
   rintro b n ⟨B',c,e,f,h1,h2,h3⟩
   obtain ⟨B,k1,k2⟩:=k.tr b B' h1
   exact ⟨B,c,e,f,k1,k2 ▸ h2,h3⟩
 refine ⟨fun b B c e f hb hk ho=>?_,fun b B hb hk ho=>?_,fun b B hb hk=>?_,fun b b' B B' hb hb' hk hk' hne hs=>?_,fun b hb=>hb.2,fun b hb=>r.low b hb.1,fun b B hb hk=>?_,fun f l hfl=>?_,fun f l hfl b hb=>k.mem f l b hfl hb⟩
 · obtain ⟨bQ,k1,k2,k7,k8,k9⟩:=k.look b B hk
   obtain ⟨c',e',f',k3,k4⟩:=k.cells b B hk
   rw [ho] at k3
   cases k3
   obtain ⟨C,E,g,c1,c2,c3,c4,c5⟩:=r.cells b bQ c e f hb.1 k1 (k2 ▸ ho)
   refine ⟨C,E,g,c1,c2,c3,fun hn=>c4 fun hp=>hn ⟨k7.trans hp.1,k9,k8.trans hp.2.2⟩,fun i v hv=>?_⟩
   obtain ⟨v',p1,p2⟩:=c5 i v hv
   exact ⟨v',p1,p2.carry (fun b hb hb'=>Env.SV hb hb') (k4 v (Array.mem_of_getElem? hv))⟩
 · obtain ⟨c',e',f',k3,_⟩:=k.cells b B hk
   exact absurd k3 (ho _ _ _)
 · obtain ⟨bQ,k1,_,_,_,k5⟩:=k.look b B hk
   exact ⟨fun z=>absurd (k5.symm.trans z) (by decide),.inr (r.own b bQ hb.1 k1).2⟩
 · obtain ⟨bQ,k1,_,k3,k4,k5⟩:=k.look b B hk
   obtain ⟨Ci,j1,_,j3,j4,j5⟩:=k.look b' B' hk'
   rcases r.sep b b' bQ Ci hb.1 hb'.1 k1 j1 hne hs with ⟨f,g1,g2⟩|⟨⟨g1,_,g3⟩,i1,_,i3⟩
   ·exact .inl ⟨f,k3.trans g1,j3.trans g2⟩
   ·exact .inr ⟨⟨k3.trans g1,k5,k4.trans g3⟩,j3.trans i1,j5,j4.trans i3⟩
 · obtain ⟨bQ,k1,_,k3,k4,_⟩:=k.look b B hk
   obtain ⟨s1,s2⟩:=r.bD b bQ hb.1 k1
   exact ⟨s1.trans (by rw [k3]),fun z=>(s2 (k3 ▸ z)).trans k4.symm⟩
 · obtain ⟨l',g1,g2⟩:=k.dH f l hfl
   exact ((r.row f l' g1).sublist g2).imp fun hp b1 b2 hs n n' u1 u2=>hp b1.1 b2.1 hs n n' (up _ _ u1) (up _ _ u2)
theorem ay.call[aI P](k:bM P Q ⟨aF.enter P f args,[],hA⟩)(hs:hA.Sub h)(ha:∀x∈args,mG (· < hA.n) x)(hq:∀p:Nat→Prop,(∀x∈args,mG p x)→∀v h',Q v h' → mG p v)(hfin:∀v h',Q v h' → ∃a',au P c h v=some a') :
   ay P (fun s'=>∃v h' a',Q v h' ∧ au P c h v=some a' ∧ s' = ⟨a',cs,h⟩) ⟨aF.enter P f args,c :: cs,h⟩:=by
 refine ⟨?_⟩
 intro ρ O D base g w hO hD S
 obtain ⟨⟨lo,fr,cs',hlo,rfl,hf,hcs⟩,rel⟩:=S
 cases hcs with
 | @cons lo' _ _ fc _ fcs lM hfc aeI=>
   have hf0:F0 ρ (aF.enter P f args) fr:=by
    cases hf with
    |plain hf=>exact hf
    |ahead kk _=>
     obtain ⟨k1,k2,t1,_⟩:=kk.todo
     cases t1
   have eT:(aF.enter P f args).tmps=args ++ Array.replicate (((P.funcs[f]?).map (·.ntmps)).getD 0 - args.size) undef:=rfl
   have S0:lV P (ρ.cut hA.n) (fun _=>False) (fun b=>O b∨D b) (fc :: (fcs ++ base)) ⟨aF.enter P f args,[],hA⟩ (cO fr ([] ++ fc :: (fcs ++ base))) w:=by
    refine ⟨⟨0,fr,[],Nat.zero_le _,rfl,.plain ?_,.nil⟩,rel.view hs⟩
    refine ⟨⟨hf0.fn,?_,hf0.mode,hf0.kind,?_⟩,?_,?_⟩
    ·have:=hf0.defers
     generalize fr.defers=d at this
     cases this
     exact .nil
    ·have:=hf0.round
     generalize fr.roundOf=r at this
     cases this
     exact .none
    ·refine ⟨hf0.tmps.1,fun i x y hx hy=>?_⟩
     have hxy:=hf0.tmps.2 i x y hx hy
     rw [eT] at hx
     by_cases hi:i < args.size
     ·rw [Array.getElem?_append_left hi] at hx
      exact hxy.carry (fun b hb hb'=>Env.SV hb hb') (ha x (Array.mem_of_getElem? hx))
     ·rw [Array.getElem?_append_right (by omega),Array.getElem?_replicate] at hx
      split at hx
      ·cases hx
       exact hxy.carry (p:=fun _=>False) (fun b hb _=>hb.elim) (.tuple fun x hx=>by simp [undef] at hx)
      ·cases hx
    ·have:=hf0.todo
     generalize fr.todo=d at this
     cases this with
     |cons hi hl=>
      cases hl
      cases hi
      exact .cons (.code _) .nil
   have hargs:∀x∈args,mG (fun b=>ρ.born b∧b < hA.n) x:=fun x hx=>by
    obtain ⟨i,hi,rfl⟩:=Array.mem_iff_getElem.1 hx
    have h1:(aF.enter P f args).tmps[i]? = some args[i]:=by rw [eT,Array.getElem?_append_left hi];simp [hi]
    have h2:i < fr.tmps.size:=by rw [←hf0.tmps.1];exact (Array.getElem?_eq_some_iff.1 h1).1
    exact (hf0.tmps.2 i _ _ h1 (Array.getElem?_eq_getElem h2)).ok (ha _ hx)
   have W:=((k.go (fun b hb=>hb.elim) (fun b hb=>hb.elim (hO b) (hD b)) S0).frame (F:=O) (fun b hb=>⟨hO b hb,id⟩) (fun b hb=>⟨hb.elim (hO b) (hD b),id⟩)).MC (D:=D) fun b hb=>hb.imp .inr id
   have e1:(fun b=>False∨O b)=O:=by funext b;simp
   rw [e1] at W
   refine W.mono fun O' g' w' hz=>?_
   obtain ⟨fU,⟨τ,v,h₁,v',q1,q2,q3,q4,q5⟩,rfl,lq⟩:=hz
   obtain ⟨a',ha'⟩:=hfin v h₁ q1
   have hv:VR ρ v v' :=q3.carry (fun b hb hb'=>⟨hb.1,(q2.to b hb).symm,(q2.bD b hb).1,(q2.u b hb).symm,(q2.ext b hb).symm⟩) (hq _ hargs v h₁ q1)
   have aaz:az O D w w' :=⟨lq.size,lq.own,fun b hb=>lq.ro b (.inr hb),lq.os,lq.output,lq.tape⟩
   exact ⟨ρ,_,⟨v,h₁,a',q1,ha',rfl⟩,.refl ρ,⟨lo',_,fcs,Nat.le_trans lM hlo,q4,jA hfc hlo hv ha',aeI⟩,(rel.rely aaz).mono fun b hb=>.inr hb⟩
end
end Go.Am
namespace Go.Am
open Go.Conc (born QuitsD G scase rcase Good)
open Go.Conc.Lib
open Go.ConcR (WgAt)
open Go.Ren (grow fM aO az Wk X0 At aA Keep full Tm)
structure Sr(P:Program)(base:List Frame)(F:Nat→Prop)(w₀:World)(W U Z:Nat→Prop)(N:Nat)(ρ:Env)(s:AS)(g:Goroutine)(w:World)(m:Machine)(t:Trace):Prop where
 at_:At P W U (fun b=>Z b∧¬F b) N 0 g w m t
 QJ:lV P ρ (full Z w) F base s g w
 lt:∀b,Z b→b < w.heap.size
 wu:∀b,W b∨U b→Z b
 fz:∀b,F b→Z b
 JD:∀b,F b→¬(W b∨U b)
 keep:Keep F w₀ w
section
variable{P:Program}{ρ σ τ:Env}{O O' D D' F W U Z:Nat→Prop}{N:Nat}{h h' hA:AH}{w w' w₀:World}{base:List Frame}{pl:bz}{s s':AS}{K L:AS→Prop}{Q R:Value→AH→Prop}{c:aF}{cs:List aF}{f:FuncId}{args:Array Value}{g:Goroutine}{m:Machine}{t:Trace}{bJ:Machine→Outcome→World→Trace→Prop}
theorem Sr.runs(k:ay P K s)(S:Sr P base F w₀ W U Z N ρ s g w m t) :
   aA P bJ (fun m t=>∃(σ:Env) (s':AS) (g':Goroutine) (w':World),K s' ∧ ρ.Le σ∧Sr P base F w₀ W U Z N σ s' g' w' m t) m t:=by
 have hF:∀b,F b→b < w.heap.size∧¬full Z w b:=fun b hb=>⟨S.lt b (S.fz b hb),fun x=>x.2 (S.fz b hb)⟩
 have e:(fun b=>full Z w b∨F b)=full (fun b=>Z b∧¬F b) w:=by
   funext b
   apply propext
   constructor
   ·rintro (hb|hb)
    ·exact ⟨hb.1,fun x=>hb.2 x.1⟩
    ·exact ⟨(hF b hb).1,fun x=>x.2 hb⟩
   ·rintro ⟨h1,h2⟩
    by_cases hb:F b
    ·exact .inr hb
    ·exact .inl ⟨h1,fun x=>h2 ⟨x,hb⟩⟩
 have hlt0:∀b,(Z b∧¬F b)→b < w.heap.size:=fun b hb=>S.lt b hb.1
 refine (Go.Ren.At.wk2 ((k.go (fun b hb=>hb.1) (fun b hb=>(hF b hb).1) S.QJ).read hF) hlt0 e S.at_).mono ?_
 rintro m t ⟨g',w',hat,⟨fU,⟨σ,s',h1,h2,h3⟩,h4,h5,h6⟩,hk⟩
 have hlt':∀b,Z b→b < w'.heap.size:=fun b hb=>Nat.lt_of_lt_of_le (S.lt b hb) h6.size
 have e1:fU=full Z w' :=by
   funext b
   apply propext
   have hb:=congrFun h4 b
   constructor
   ·intro ho
    have:full (fun b=>Z b∧¬F b) w' b:=by rw [hb];exact .inl ho
    exact ⟨this.1,fun x=>this.2 ⟨x,fun y=>h5 b y ho⟩⟩
   ·rintro ⟨x1,x2⟩
    have:full (fun b=>Z b∧¬F b) w' b:=⟨x1,fun y=>x2 y.1⟩
    rw [hb] at this
    exact this.resolve_right fun y=>x2 (S.fz b y)
 subst e1
 exact ⟨σ,s',g',w',h1,h2,hat,h3,hlt',S.wu,S.fz,S.JD,S.keep.trans ⟨h6.own,h6.size,h6.os,h6.output⟩⟩
theorem Sr.sd(S:Sr P base F w₀ W U Z N ρ s g w m t)(hd:aX s.fr=true):Sd P base F w₀ W U Z N ρ ⟨s.fr,s.cs,⟨s.h.n,.nil,.nil⟩⟩ g w m t:=by
 have S' :=S.QJ.forget [] hd
 have e:s.h.forget []=⟨s.h.n,.nil,.nil⟩:=rfl
 rw [e] at S'
 have nl:∀b B,(⟨s.h.n,.nil,.nil⟩:AH).look b=some B→False:=fun b B h=>by cases h
 refine ⟨⟨S.at_.drop fun b hb=>hb.1,⟨S'.run,?_⟩,S.lt⟩,S.wu,S.fz,S.JD,S.keep⟩
 have r:=S'.rel
 exact ⟨fun b B _ _ _ _ hl=>(nl b B hl).elim,fun b B _ hl=>(nl b B hl).elim,fun b B _ hl=>(nl b B hl).elim,fun b _ B _ _ _ hl=>(nl b B hl).elim,r.fresh,r.low,fun b B _ hl=>(nl b B hl).elim,fun f l hf=>(by cases hf),fun f l hf=>(by cases hf)⟩
def Vb(to:Nat→Nat×Nat)(hA:AH):Env:={ to:=to,born:=fun b=>b < hA.n,bD:=fun _=>False,u:=fun _=>0,ext:=fun b=>match hA.look b with|some B=>oQ B.obj|none=>0 }
theorem SX{W:World}{to:Nat→Nat×Nat}(hl:∀b B,hA.look b=some B→B.UA∧∃c e f C E,B.obj = .cells c e f∧(∃g,W.heap[(to b).1]? = some (.cells C E g))∧(to b).2+c.size≤C.size∧∀(i:Nat) v,c[i]? = some v→C[(to b).2+i]? = some v∧Plain v)
   (hf:hA.dH = .nil) (hlow:∀b,b < hA.n→(to b).1 < W.heap.size):Rel (Vb to hA) (fun _=>False) (fun b=>b < W.heap.size) hA W:=by
 refine ⟨fun b B c e f hb hk ho=>?_,fun b B hb hk ho=>?_,fun b B hb hk=>?_,fun b b' B B' hb hb' hk hk' hne hs=>?_,fun b hb=>hb,fun b hb=>hlow b hb,fun b B hb hk=>?_,fun f l hfl=>?_,fun f l hfl b hb=>?_⟩
 · obtain ⟨hp,c',e',f',C,E,h1,⟨g,h2⟩,h3,h4⟩:=hl b B hk
   rw [ho] at h1
   cases h1
   have PE:(Vb to hA).ext b=c.size:=by
    show (match hA.look b with|some B=>oQ B.obj|none=>0)=c.size
    rw [hk]
    show oQ B.obj=c.size
    rw [ho]
    rfl
   refine ⟨C,E,g,h2,by rw [PE];exact h3,Nat.le_of_eq PE.symm,fun hn=>absurd hp hn,fun i v hv=>?_⟩
   obtain ⟨k1,k2⟩:=h4 i v hv
   exact ⟨v,k1,k2.vr _⟩
 · obtain ⟨_,c',e',f',C,E,h1,_⟩:=hl b B hk
   exact absurd h1 (ho _ _ _)
 · exact ⟨fun z=>absurd ((hl b B hk).1.2.1.symm.trans z) (by decide),.inr (hlow b hb)⟩
 · exact .inr ⟨(hl b B hk).1,(hl b' B' hk').1⟩
 · obtain ⟨⟨h1,_⟩,_⟩:=hl b B hk
   exact ⟨⟨fun z=>z.elim,fun z=>z h1⟩,fun z=>absurd h1 z⟩
 · rw [hf] at hfl;cases hfl
 · rw [hf] at hfl;cases hfl
theorem Sr.start{W:World}{f:FuncId}{args':Array Value}(hr:Rel ρ (fun _=>False) (fun b=>b < W.heap.size) hA W)(ha:AR (VR ρ) args args') :
   Sr P [] (fun b=>b < W.heap.size) W (fun _=>False) (fun _=>False) (fun b=>b < W.heap.size) 1 ρ ⟨aF.enter P f args,[],hA⟩ (cO (Frame.enter P f args' .normal) []) W (Go.Conc.solo (G (Frame.enter P f args' .normal) []) W) #[]:=
 ⟨(Go.Ren.SY _ W).drop fun b hb=>hb.elim,⟨⟨0,_,[],Nat.zero_le _,rfl,.plain (xw f ha),.nil⟩,hr.mono fun b hb=>hb.elim⟩,fun b hb=>hb,fun b hb=>(hb.elim id id:False).elim,fun b hb=>hb,fun b _ hb=>(hb.elim id id:False),.refl⟩
end
end Go.Am
namespace Go.Am
section
variable{P:Program}{pl:bz}{s s' s₁ s₂:AS}{K:AS→Prop}{ob:List (Value×Value)}{v:Value}{h:AH}{n:Nat}{Q:Value→AH→Prop}
theorem ay.forget(l:List Nat)(hd:aX s.fr=true):ay P (· = ⟨s.fr,s.cs,s.h.forget l⟩) s:=⟨fun hO hD S=>.stop ⟨_,_,rfl,.refl _,S.forget l hd⟩⟩
end
theorem S9{x:Int}(h1 : -9223372036854775808≤x)(h2:x≤9223372036854775807):IntKind.i64.wrap x=x:=by
 simp [IntKind.wrap,IntKind.min,IntKind.max,IntKind.signed,IntKind.bits]<;>(try split)<;>omega
end Go.Am
namespace Go.Am
theorem VR.okV{ρ:Env}{q:Nat→Prop}{v v':Value}(k:VR ρ v v')(hp:∀b,ρ.born b→q b):mG q v:=by
 induction k with
 | bool b=>exact .bool b
 | int k n=>exact .int k n
 | string s=>exact .string s
 | eu=>exact .eu
 | ptr h=>exact .ptr (hp _ h)
 | nilslice n c=>exact .nilslice n c
 | slice h _=>exact .slice (hp _ h)
 | cu=>exact .cu
 | map h=>exact .map (hp _ h.1)
 | dJ=>exact .dJ
 | chan h=>exact .chan (hp _ h.1)
 | nilFunc=>exact .nilFunc
 | @func f f' a a' b b' hf hs _ ks _ ih ik=>
   refine .func ?_ (fun x hx=>?_) fun x hx=>?_
   ·cases hf with
    |yield h=>exact hp _ h.1
    |_=>trivial
   ·obtain ⟨i,y,h1,h2⟩:=dh (ρ:=ρ) hs hx
    exact ih i x y h1 h2
   ·obtain ⟨i,y,h1,h2⟩:=dh (ρ:=ρ) ks hx
    exact ik i x y h1 h2
 | nilIface=>exact .nilIface
 | iface _ ih=>exact .iface ih
 | agg hs _ ih=>
   refine .agg fun x hx=>?_
   obtain ⟨i,y,h1,h2⟩:=dh (ρ:=ρ) hs hx
   exact ih i x y h1 h2
 | tuple hs _ ih=>
   refine .tuple fun x hx=>?_
   obtain ⟨i,y,h1,h2⟩:=dh (ρ:=ρ) hs hx
   exact ih i x y h1 h2
theorem Plain.okV{p:Nat→Prop}{v:Value}(h:Plain v):mG p v:=VR.okV (ρ:=zT) h fun b hb=>hb.elim
section
variable{P:Program}{Q:Value→AH→Prop}{R:Value→Prop}{c:aF}{cs:List aF}{f:FuncId}{args:Array Value}{h hA:AH}{nA:Nat}
theorem Dk:∀(l:List (Nat×bg)) {b:Nat} {B:bg},(iV l).get b=some B→(b,B)∈l
 | [],b,B,e=>by cases e
 | (c,C) :: l,b,B,e=>by
   unfold iV at e
   rw [Tr.dN] at e
   split at e
   ·rename_i hb;subst hb;cases e;exact .head _
   ·exact .tail _ (Dk l e)
end
end Go.Am
namespace Go.Am
def Dl(ops:Array Oper):List Nat:=(List.range ops.size).filter fun i=>aH ops i == .effect
def MF(ops:Array Oper)(t:List Nat)(i:Nat):Option Nat:=((Dl ops).filter fun e=>Nat.testBit (maskAt t ops.size i) e).getLast?
def aeJ(ops:Array Oper)(t:List Nat):List Nat:=
 let ls:=(List.range ops.size).filter fun i=>aH ops i != .effect
 (ls.filter fun i=>MF ops t i == none) ++ (Dl ops).flatMap fun e=>e :: (ls.filter fun i=>MF ops t i == some e)
def again(ops:Array Oper)(t:List Nat)(i:Nat)(rest:List Nat):List Nat:=
 if aH ops i == .dS then [] else
   let es:=(Dl ops).filter fun e=> !rest.contains e
   (List.range ops.size).filter fun j=> !rest.contains j && aH ops j != .effect && !es.any fun e=>Nat.testBit (maskAt t ops.size e) j
def Bq(ops:Array Oper)(t:List Nat):List Nat→List (Nat×List Nat)
 | []=>[]
 | i :: l=>(i,again ops t i l) :: Bq ops t l
def plan:bz:=fun _ ops=>Bq ops (iY ops ops.size) (aeJ ops (iY ops ops.size))
end Go.Am
namespace Go.Am
inductive HT where
 | no
 | ret (n m:Nat)
 | cut (n m:Nat)
 | br (n m t:Nat) (a b:HT)
 | val (n m t:Nat) (k:HT)
 | U0 (n m t:Nat) (c:Int) (a b:HT)
 | ov (n m:Nat) (k:HT)
 | lod (n m:Nat) (κ:IntKind) (k:HT)
 | acI (n m:Nat) (k:HT)
 | Tc (n m i:Nat) (k:HT)
 | rk (n m:Nat) (k:HT)
 | cas (n m t:Nat) (v:Value) (a b:HT)
abbrev HT.call(n m:Nat)(k:HT):HT:=.Tc n m 0 k
noncomputable section
structure TX where
 P:Program
 T:Tr TI
 Fu:Tr Func
 Γ:Nat→FuncId→Array Value→AH→(Value→Prop)→Prop
variable(X:TX)
def oH(n m:Nat)(s:AS):Option AS:=match yC X.P plan X.T X.Fu n s with
 | some (.go s₁)=>match jG X.P plan m s₁ with
   |some (.go s₂)=>some s₂
   |_=>none
 | _=>none
def acJ(n m:Nat)(s:AS):Option Value:=match yC X.P plan X.T X.Fu n s with
 | some (.go s₁)=>match jG X.P plan m s₁ with
   |some (.ret v _)=>some v
   |_=>none
 | _=>none
def KD(s:AS)(t:Nat)(v:Value):AS:=oM v s.fr.tmps.toList t fun l=>⟨⟨s.fr.fn,⟨l⟩,s.fr.todo,s.fr.defers,s.fr.ret,s.fr.round,s.fr.dk⟩,s.cs,s.h⟩
def BR(c:Bool)(A B:Prop):Prop:=(c=true→A)∧(c=false→B)
def RK(c:Bool)(A:Prop):Prop:=c=true∧A
def SP(e c:Int)(A B:Prop):Prop:=(e=c→A)∧(¬e=c→B)
def CS(p A B:Prop):Prop:=(p→A)∧(¬p→B)
def opQ(s:AS):Option Oper:=match s.fr.ret,s.fr.todo with
 | false,.region ops (i :: _) :: _=>match nth ops.toList i with
   |some o=>if Region.wanted o (yielded ops s.fr.tmps) && bf o then some o else none
   |none=>none
 | false,.drawn ops ((i,_) :: _) :: _=>match nth ops.toList i with
   |some o=>if Region.wanted o (yielded ops s.fr.tmps) && bf o && decide (aH ops i = .dS) then some o else none
   |none=>none
 | _,_=>none
def KE(s:AS)(v:Value):Option AS:=match s.fr.todo with
 | .region ops (i :: l) :: k=>match nth ops.toList i with
   |some o=>match o.dst with
    |some d=>some (oM v s.fr.tmps.toList d fun t=>⟨⟨s.fr.fn,⟨t⟩,.region ops l :: k,s.fr.defers,s.fr.ret,s.fr.round,s.fr.dk⟩,s.cs,s.h⟩)
    |none=>none
   |none=>none
 | .drawn ops ((i,_) :: l) :: k=>match nth ops.toList i with
   |some o=>match o.dst with
    |some d=>bif Nat.blt d s.fr.tmps.toList.length then some (oM v s.fr.tmps.toList d fun t=>⟨⟨s.fr.fn,⟨t⟩,.drawn ops l :: k,s.fr.defers,s.fr.ret,s.fr.round,s.fr.dk⟩,s.cs,s.h⟩) else none
    |none=>none
   |none=>none
 | _=>none
def ovF(T:Tr TI)(tmps:List Value)(op:Op):Option (Prop×Value):=match op with
 | .indexAddr t x i=>match sV tmps x,sV tmps i with
   |some (.slice (some ⟨b,off,none⟩) len _),some (.int _ n)=>match T.get t with
    |some ⟨_,.slice e,_,_⟩=>match T.get e with
     |some ⟨sz,_,_,_⟩=>some (0≤n∧n < len,.pointer (some ⟨b,off+n.toNat * sz,none⟩))
     |none=>none
    |_=>none
   |_,_=>none
 | .binOp op _ x y _=>match sV tmps x,sV tmps y with
   |some (.int k a),some (.int k' b)=>if k=k' then match op with
    | .quo=>some (b≠0,.int k (k.wrap (a.tdiv b)))
    | .rem=>some (b≠0,.int k (a.tmod b))
    |_=>none else none
   |_,_=>none
 | _=>none
def ldF(T:Tr TI)(h:AH)(tmps:List Value)(op:Op):Option (Option Value):=match op with
 | .load t x=>match sV tmps x with
   |some (.pointer (some a))=>match T.get t with
    |some ⟨_,d,_,_⟩=>bif uZ d then none else some (LX h a)
    |none=>none
   |_=>none
 | _=>none
def Td(s:AS):Option (FuncId×Array Value×AH):=match s.fr.ret,s.fr.todo with
 | false,.region ops (i :: _) :: _=>match nth ops.toList i with
   |some o=>if Region.wanted o (yielded ops s.fr.tmps) then match bC X.P none s.h s.fr.tmps o with
    |some (.enter f args,h)=>some (f,args,h)
    |_=>none else none
   |none=>none
 | false,.drawn ops ((i,_) :: _) :: _=>match nth ops.toList i with
   |some o=>if decide (aH ops i = .effect) && Region.wanted o (yielded ops s.fr.tmps) then match bC X.P none s.h s.fr.tmps o with
    |some (.enter f args,h)=>some (f,args,h)
    |_=>none else none
   |none=>none
 | _,_=>none
def Bv(f:aF)(h:AH)(v:Value):Option (Bool×aF):=match f.todo with
 | .drawn ops ((i,c) :: rest) :: k=>if aH ops i = .effect then some (recheck X.P ops c (cZ f.tmps (bG ops i) v) h,{ f with tmps:=cZ f.tmps (bG ops i) v,todo:=.drawn ops rest :: k }) else none
 | _=>match au X.P f h v with
   |some a=>some (true,a)
   |none=>none
def aaA(s:AS):Option (Bool×AS):=match s.fr.ret,s.fr.defers,s.fr.dk,s.cs with
 | true,[],false,c :: cs=>match X.P.funcs[s.fr.fn]? with
   |some fn=>match (results fn s.fr.tmps).ar X.P none s.h with
    |some (v,h)=>match Bv X c h v with
     |some (b,a)=>some (b,⟨a,cs,h⟩)
     |none=>none
    |none=>none
   |none=>none
 | _,_,_,_=>none
def Tf(s:AS):Option (Bool×AS):=match s.fr.ret with
 | true=>aaA X s
 | false=>match s.fr.todo with
   | .drawn ops ((i,again) :: l) :: k=>match nth ops.toList i with
    |some o=>if Region.wanted o (yielded ops s.fr.tmps) then match aH ops i with
     | .effect=>match bC X.P none s.h s.fr.tmps o with
      |some (.value v,h)=>match Bv X s.fr h v with
       |some (b,a)=>some (b,⟨a,s.cs,h⟩)
       |none=>none
      |some (.skip,h)=>match Bv X s.fr h undef with
       |some (b,a)=>some (b,⟨a,s.cs,h⟩)
       |none=>none
      |_=>none
     | .alloc=>match o.dst with
      |some d=>if d < s.fr.tmps.size then match o.op with
       | .alloc t=>match zeroOf X.P t with
        |some z=>some (recheck X.P ops again (s.fr.tmps.setIfInBounds d (.pointer (some ⟨s.h.n,0,none⟩))) (s.h.new (.cells z.cells t (0,0))),
          {s with fr:={ s.fr with tmps:=s.fr.tmps.setIfInBounds d (.pointer (some ⟨s.h.n,0,none⟩)),todo:=.drawn ops l :: k },h:=s.h.new (.cells z.cells t (0,0)) })
        |none=>none
       | .buildSlice t n ps=>match iw X.P (af s.fr.tmps) t n ps with
        |some (elem,cells)=>if bf o then some (recheck X.P ops again (s.fr.tmps.setIfInBounds d (.slice (some ⟨s.h.n,0,none⟩) n n)) (s.h.new (.cells cells elem (0,0))),
          {s with fr:={ s.fr with tmps:=s.fr.tmps.setIfInBounds d (.slice (some ⟨s.h.n,0,none⟩) n n),todo:=.drawn ops l :: k },h:=s.h.new (.cells cells elem (0,0)) }) else none
        |none=>none
       |_=>none else none
      |none=>none
     | .dS=>none else none
    |none=>none
   |_=>none
def tx(Q:Value→Prop)(K:AS→Prop):HT→AS→Prop
 | .no,_=>False
 | .ret n m,s=>match acJ X n m s with
   |some v=>Q v
   |none=>False
 | .cut n m,s=>match oH X n m s with
   |some s=>K s
   |none=>False
 | .br n m t a b,s=>match oH X n m s with
   |some s=>match nth s.fr.tmps.toList t with
    |some (.bool c)=>BR c (tx Q K a (KD s t (.bool true))) (tx Q K b (KD s t (.bool false)))
    |_=>False
   |none=>False
 | .val n m t k,s=>match oH X n m s with
   |some s=>match nth s.fr.tmps.toList t with
    |some (.int κ e)=>∀x:Int,x=e→tx Q K k (KD s t (.int κ x))
    |_=>False
   |none=>False
 | .U0 n m t c a b,s=>match oH X n m s with
   |some s=>match nth s.fr.tmps.toList t with
    |some (.int κ e)=>SP e c (tx Q K a (KD s t (.int κ c))) (tx Q K b s)
    |_=>False
   |none=>False
 | .ov n m k,s=>match oH X n m s with
   |some s=>match opQ s with
    |some o=>match ovF X.T s.fr.tmps.toList o.op with
     |some (p,v)=>match KE s v with
      |some s=>p∧tx Q K k s
      |none=>False
     |none=>False
    |none=>False
   |none=>False
 | .lod n m κ k,s=>match oH X n m s with
   |some s=>match opQ s with
    |some o=>match ldF X.T s.h s.fr.tmps.toList o.op with
     |some u=>∃x:Int,u=some (.int κ x)∧match KE s (.int κ x) with
      |some s=>tx Q K k s
      |none=>False
     |none=>False
    |none=>False
   |none=>False
 | .acI n m k,s=>match oH X n m s with
   |some s=>match opQ s with
    |some o=>match ldF X.T s.h s.fr.tmps.toList o.op with
     |some u=>∃x:Bool,u=some (.bool x)∧match KE s (.bool x) with
      |some s=>tx Q K k s
      |none=>False
     |none=>False
    |none=>False
   |none=>False
 | .Tc n m i k,s=>match oH X n m s with
   |some s=>match Td X s with
    |some (f,args,h)=>X.Γ i f args h fun v=>match Bv X s.fr h v with
     |some (c,a)=>RK c (tx Q K k ⟨a,s.cs,h⟩)
     |none=>False
    |none=>False
   |none=>False
 | .rk n m k,s=>match oH X n m s with
   |some s=>match Tf X s with
    |some (c,s)=>RK c (tx Q K k s)
    |none=>False
   |none=>False
 | .cas n m t v a b,s=>match oH X n m s with
   |some s=>match nth s.fr.tmps.toList t with
    |some u=>CS (u=v) (tx Q K a (KD s t v)) (tx Q K b s)
    |none=>False
   |none=>False
end
def Dn(P:Program)(f:FuncId)(args:Array Value)(h:AH)(post:Value→Prop):Prop:=
 ∀(c:aF) (cs:List aF),(∀v,post v→∃a',au P c h v=some a')→ay P (fun s'=>∃v a',post v∧au P c h v=some a' ∧ s' = ⟨a',cs,h⟩) ⟨aF.enter P f args,c :: cs,h⟩
structure Cl(P:Program)(Q:Value→Prop)(K:AS→Prop)(G:AS→Prop):Prop where
 runs:∀s,ay P G s→G s
 ret:∀s v,(∀R:Value→AH→Prop,(∀h,R v h)→gW P plan R s)→Q v→G s
 cut:∀s,K s→G s
structure Dp(X:TX):Prop where
 Z:aI X.P
 T:dA X.P X.T
 Fu:fO X.P X.Fu
 Γ:∀i f args h post,X.Γ i f args h post→Dn X.P f args h post
section
variable{X:TX}{Q:Value→Prop}{K G:AS→Prop}{s s':AS}{n m t:Nat}{v:Value}{c:aF}{cs:List aF}{h:AH}
theorem mJ(e:nth s.fr.tmps.toList t=some v):KD s t v=s:=by
 unfold KD
 rw [iT]
 rw [gU] at e
 have:s.fr.tmps.toList.set t v=s.fr.tmps.toList:=by
   apply List.ext_getElem?
   intro i
   rw [List.getElem?_set]
   split
   ·rename_i hi;subst hi
    split
    ·exact e.symm
    ·rename_i hl;rw [List.getElem?_eq_none (by omega)] at e;cases e
   ·rfl
 rw [this]
theorem dK(ok:Dp X)(e:oH X n m s=some s'):To X.P plan s' s:=by
 unfold oH at e
 split at e
 · rename_i s₁ h₁
   split at e
   ·rename_i s₂ h₂
    cases e
    exact (pg ok.T ok.Fu n h₁).bind fun s h=>by subst h;exact bZ m h₂ (.here rfl)
   ·cases e
 · cases e
theorem Ti{o:Oper}(e:opQ s=some o):s.fr.ret=false∧bf o=true∧((∃ops i l k,s.fr.todo = .region ops (i :: l) :: k∧ops[i]? = some o∧Region.wanted o (yielded ops s.fr.tmps)=true) ∨
   ∃ops i c l k,s.fr.todo = .drawn ops ((i,c) :: l) :: k∧ops[i]? = some o∧Region.wanted o (yielded ops s.fr.tmps)=true∧aH ops i = .dS):=by
 unfold opQ at e
 split at e
 · rename_i ops i l k hr ht
   split at e
   ·rename_i o' ho
    split at e
    ·rename_i hc
     cases e
     rw [Bool.and_eq_true] at hc
     rw [gU] at ho
     exact ⟨hr,hc.2,.inl ⟨ops,i,l,k,ht,by simpa using ho,hc.1⟩⟩
    ·cases e
   ·cases e
 · rename_i ops i c l k hr ht
   split at e
   ·rename_i o' ho
    split at e
    ·rename_i hc
     cases e
     simp only [Bool.and_eq_true,decide_eq_true_eq] at hc
     rw [gU] at ho
     exact ⟨hr,hc.1.2,.inr ⟨ops,i,c,l,k,ht,by simpa using ho,hc.1.1,hc.2⟩⟩
    ·cases e
   ·cases e
 · cases e
theorem MG(a:Array Value)(d:Nat)(v:Value):(⟨a.toList.set d v⟩:Array Value)=a.setIfInBounds d v:=by
 apply Array.toList_inj.1
 simp
theorem Dq{o:Oper}(e:opQ s=some o)(hap:bP o=false)(hk:kD X.P s.h (af s.fr.tmps) o=true)(hx:(execOp (af s.fr.tmps) o).fC X.P s.h=some (.value v))(hf:KE s v=some s'):ax X.P plan none s=some (.go s'):=by
 obtain ⟨h1,h2,h3⟩:=Ti e
 rcases h3 with ⟨ops,i,l,k,ht,ho,hw⟩|⟨ops,i,c,l,k,ht,ho,hw,hl⟩
 · have hex:bC X.P none s.h s.fr.tmps o=some (.value v,s.h):=by
    unfold bC
    rw [if_neg (by rw [hap];decide),if_pos (by rw [h2,hk];rfl)]
    exact yw _ hx
   unfold ax
   rw [h1]
   dsimp only
   rw [ht]
   dsimp only
   rw [ho]
   dsimp only
   rw [if_pos hw,hex]
   unfold KE at hf
   rw [ht] at hf
   dsimp only at hf
   rw [jP] at hf
   rw [show ((⟨ops.toList⟩:Array Oper))=ops from rfl,ho] at hf
   dsimp only at hf
   split at hf
   ·rename_i d hd
    rw [iT] at hf
    cases hf
    unfold bK au
    dsimp only
    rw [ht]
    dsimp only
    rw [ho]
    simp only [Option.bind_some,Option.map_some,hd,cZ,MG,h1]
   ·cases hf
 · have hne:o.dst≠none:=by
    intro hd
    unfold KE at hf
    rw [ht] at hf
    dsimp only at hf
    rw [jP] at hf
    rw [show ((⟨ops.toList⟩:Array Oper))=ops from rfl,ho] at hf
    dsimp only at hf
    rw [hd] at hf
    cases hf
   have hkl:kindOf o = .dS:=by rw [←Bz ho (by rw [hl];intro x;cases x)];exact hl
   have hlv:fZ X.P s.h s.fr.tmps o=some v:=by
    unfold fZ
    rw [if_pos (by rw [h2,hk];rfl),hx]
   unfold KE at hf
   rw [ht] at hf
   dsimp only at hf
   rw [jP] at hf
   rw [show ((⟨ops.toList⟩:Array Oper))=ops from rfl,ho] at hf
   dsimp only at hf
   split at hf
   ·rename_i d hd
    cases hb:Nat.blt d s.fr.tmps.toList.length with
    |false=>rw [hb] at hf;cases hf
    |true=>
     rw [hb,iT] at hf
     cases hf
     have hlt:d < s.fr.tmps.size:=by
      have h9:d+1≤s.fr.tmps.toList.length:=Nat.le_of_ble_eq_true hb
      exact Nat.le_trans h9 (Nat.le_of_eq (by simp))
     unfold ax
     rw [h1]
     dsimp only
     rw [ht]
     dsimp only
     rw [ho]
     dsimp only
     rw [hl]
     dsimp only
     rw [hd]
     dsimp only
     rw [if_pos hlt,if_pos hw]
     have na:∀t,o.op ≠ .alloc t:=fun t x=>by unfold kindOf at hkl;rw [x] at hkl;cases hkl
     have nb:∀t n ps,o.op ≠ .buildSlice t n ps:=fun t n ps x=>by unfold kindOf at hkl;rw [x] at hkl;cases hkl
     split
     ·rename_i t hop;exact absurd hop (na t)
     ·rename_i t n ps hop;exact absurd hop (nb t n ps)
     ·rw [hlv]
      dsimp only
      rw [MG]
      simp only [h1]
   ·cases hf
end
end Go.Am
namespace Go.Am
section
variable{X:TX}{Q:Value→Prop}{K G:AS→Prop}{s s':AS}{n m t:Nat}{v:Value}{c:aF}{cs:List aF}{h:AH}
theorem yR{x:Operand}{tmps:Array Value}(e:sV tmps.toList x=some v):af tmps x=v:=(jC (tmps:=tmps.toList) e).1
theorem add_plain(b off k:Nat):(⟨b,off,none⟩:Addr).add k=⟨b,off+k,none⟩:=by
 unfold Addr.add
 split
 · rename_i h;rw [h];rfl
 · rfl
theorem aaB(K:dA X.P X.T){o:Oper}{tmps:Array Value}{p:Prop}(e:ovF X.T tmps.toList o.op=some (p,v))(hp:p):bP o=false∧kD X.P h (af tmps) o=true∧(execOp (af tmps) o).fC X.P h=some (.value v):=by
 unfold ovF at e
 split at e
 · rename_i t x i hop
   split at e
   ·rename_i b off len cap k n hx hi
    have e1:=yR hx
    have e3:=yR hi
    split at e
    ·rename_i sz el z IL ht
     split at e
     ·rename_i sz' u' z' aan hel
      cases e
      have hun:=(K.get _ _ ht).1
      obtain ⟨inf,hd1,hd2⟩:=(K.get _ _ hel).2.1
      dsimp only at hd2
      refine ⟨by unfold bP;rw [hop],by unfold kD;rw [hop],?_⟩
      have:(Instr.indexAt t (.slice (some ⟨b,off,none⟩) len cap) (.int k n)).fC X.P h=some (.pointer (some ⟨b,off+n.toNat * sz',none⟩)):=by
       unfold Instr.indexAt
       rw [aV (show (asIntOf (.int k n)).fC X.P h=some (k,n) from rfl)]
       dsimp only
       rw [aV (fV hun)]
       dsimp only
       rw [aV (l7 _)]
       dsimp only
       rw [aV (fV hun)]
       dsimp only
       rw [if_pos hp,aV (qP hd1),hd2,←add_plain]
       rfl
      unfold execOp
      rw [hop]
      dsimp only
      rw [e1,e3]
      exact aV this
     ·cases e
    ·cases e
   ·cases e
 · rename_i op t x y z hop
   split at e
   ·rename_i k a k' b hx hy
    have e1:=yR hx
    have e3:=yR hy
    split at e
    ·rename_i hk
     subst hk
     refine ⟨by unfold bP;rw [hop],by unfold kD;rw [hop];dsimp only;rw [e1,e3];rfl,?_⟩
     unfold execOp
     rw [hop]
     dsimp only
     rw [e1,e3]
     cases op<;>first|(cases e;done)|skip
     all_goals
      cases e
      simp only [eqGuard,Go.binOp,Go.Op.intDiv,if_neg hp]
      simp [pure,bind,Sem.bind,Sem.fC]
    ·cases e
   ·cases e
 · cases e
theorem Tj(K:dA X.P X.T){o:Oper}{tmps:Array Value}(e:ldF X.T h tmps.toList o.op=some (some v)):bP o=false∧kD X.P h (af tmps) o=true∧(execOp (af tmps) o).fC X.P h=some (.value v):=by
 unfold ldF at e
 split at e
 · rename_i t x hop
   split at e
   ·rename_i a hx
    have e1:=yR hx
    split at e
    ·rename_i sz d z IL ht
     have hun:=(K.get _ _ ht).1
     cases hb:uZ d with
     |true=>rw [hb] at e;cases e
     |false=>
      rw [hb] at e
      dsimp only [cond_false] at e
      simp only [Option.some.injEq] at e
      refine ⟨by unfold bP;rw [hop],by unfold kD;rw [hop],?_⟩
      have:(Instr.loadAt t (.pointer (some a))).fC X.P h=some v:=by
       unfold Instr.loadAt
       rw [aV (show (Instr.sureAddr (.pointer (some a))).fC X.P h=some a from rfl)]
       unfold loadVar
       have hagg:(isAgg t).fC X.P h=some (uZ d):=by
        unfold isAgg
        rw [aV (fV hun)]
        dsimp only
        cases d<;>rfl
       rw [aV hagg,hb]
       simp only [Bool.false_eq_true,if_false]
       unfold load
       rw [Sem.fC.eq_def]
       dsimp only
       rw [yx e]
       rfl
      unfold execOp
      rw [hop]
      dsimp only
      rw [e1]
      exact aV this
    ·cases e
   ·cases e
 · cases e
theorem kL{b:Bool}{a:aF}{f:aF}(e:Bv X f h v=some (b,a))(hb:b=true):au X.P f h v=some a:=by
 unfold Bv at e
 split at e
 · rename_i ops i c rest k ht
   split at e
   ·rename_i hk
    cases e
    unfold au
    rw [ht]
    dsimp only
    rw [if_pos ⟨hk,hb⟩]
   ·cases e
 · split at e
   ·rename_i a' ha;cases e;exact ha
   ·cases e
theorem PG{b:Bool}(e:aaA X s=some (b,s'))(hb:b=true):ax X.P plan none s=some (.go s'):=by
 unfold aaA at e
 split at e
 · rename_i c cs h1 h2 h3 h4
   split at e
   ·rename_i fn hf
    split at e
    ·rename_i v h hr
     split at e
     ·rename_i b' a ha
      cases e
      have:=kL ha hb
      unfold ax
      rw [h1]
      dsimp only
      unfold kZ
      rw [h2]
      dsimp only
      rw [hf]
      dsimp only
      rw [hr]
      dsimp only
      unfold rE
      rw [h3,h4]
      simp [this]
     ·cases e
    ·cases e
   ·cases e
 · cases e
theorem KG{b:Bool}(e:Tf X s=some (b,s'))(hb:b=true):ax X.P plan none s=some (.go s'):=by
 unfold Tf at e
 split at e
 · exact PG e hb
 · rename_i hr
   split at e
   ·rename_i ops i again l k ht
    split at e
    ·rename_i o ho
     rw [jP,show ((⟨ops.toList⟩:Array Oper))=ops from rfl] at ho
     split at e
     ·rename_i hw
      unfold ax
      rw [hr]
      dsimp only
      rw [ht]
      dsimp only
      rw [ho]
      dsimp only
      split at e
      ·rename_i hk
       rw [hk]
       dsimp only
       rw [if_pos hw]
       split at e
       ·rename_i v h hx
        split at e
        ·rename_i b' a ha
         cases e
         rw [hx]
         unfold bK
         dsimp only
         rw [kL ha hb]
         rfl
        ·cases e
       ·rename_i h hx
        split at e
        ·rename_i b' a ha
         cases e
         rw [hx]
         unfold bK
         dsimp only
         rw [kL ha hb]
         rfl
        ·cases e
       ·cases e
      ·rename_i hk
       rw [hk]
       dsimp only
       split at e
       ·rename_i d hd
        rw [hd]
        dsimp only
        split at e
        ·rename_i hlt
         rw [if_pos hlt,if_pos hw]
         split at e
         ·rename_i t hop
          split at e
          ·rename_i z hz
           cases e
           rw [hop]
           dsimp only
           rw [hz]
           dsimp only
           rw [if_pos hb]
          ·cases e
         ·rename_i t n ps hop
          split at e
          ·rename_i elem cells hbt
           split at e
           ·rename_i hok
            cases e
            rw [hop]
            dsimp only
            rw [hbt]
            dsimp only
            rw [hok,hb]
            rfl
           ·cases e
          ·cases e
         ·cases e
        ·cases e
       ·cases e
      ·cases e
     ·cases e
    ·cases e
   ·cases e
theorem KH{f:FuncId}{args:Array Value}(e:Td X s=some (f,args,h)):ax X.P plan none s=some (.go ⟨aF.enter X.P f args,s.fr :: s.cs,h⟩):=by
 unfold Td at e
 split at e
 · rename_i ops i l k hr ht
   split at e
   ·rename_i o ho
    split at e
    ·rename_i hw
     split at e
     ·rename_i f' args' h' hx
      cases e
      rw [jP,show ((⟨ops.toList⟩:Array Oper))=ops from rfl] at ho
      unfold ax
      rw [hr]
      dsimp only
      rw [ht]
      dsimp only
      rw [ho]
      dsimp only
      rw [if_pos hw,hx]
      rfl
     ·cases e
    ·cases e
   ·cases e
 · rename_i ops i c l k hr ht
   split at e
   ·rename_i o ho
    split at e
    ·rename_i hw
     simp only [Bool.and_eq_true,decide_eq_true_eq] at hw
     split at e
     ·rename_i f' args' h' hx
      cases e
      rw [jP,show ((⟨ops.toList⟩:Array Oper))=ops from rfl] at ho
      unfold ax
      rw [hr]
      dsimp only
      rw [ht]
      dsimp only
      rw [ho]
      dsimp only
      rw [hw.1]
      dsimp only
      rw [if_pos hw.2,hx]
      rfl
     ·cases e
    ·cases e
   ·cases e
 · cases e
theorem Zy[aI X.P](ok:Dp X)(C:Cl X.P Q K G):∀(T:HT) (s:AS),tx X Q K T s→G s:=by
 have Tn:∀ {s s':AS},To X.P plan s' s→G s' → G s:=fun k g=>C.runs _ ((k.bind fun s h=>by subst h;exact .here g).runs)
 have one:∀ {s s':AS},ax X.P plan none s=some (.go s')→G s' → G s:=fun e g=>Tn (bn.one e (.here rfl)) g
 intro T
 induction T with
 | no=>intro s k;exact k.elim
 | ret n m=>
   intro s k
   unfold tx at k
   split at k
   ·rename_i v hv
    refine C.ret s v (fun R hR=>?_) k
    unfold acJ at hv
    split at hv
    ·rename_i s₁ h₁
     split at hv
     ·rename_i v' h' h₂
      cases hv
      exact (pg ok.T ok.Fu n h₁).all (Jb m h₂ (hR _))
     ·cases hv
    ·cases hv
   ·exact k.elim
 | cut n m=>
   intro s k
   unfold tx at k
   split at k
   ·rename_i s₁ h₁;exact Tn (dK ok h₁) (C.cut _ k)
   ·exact k.elim
 | br n m t a b iha ihb=>
   intro s k
   unfold tx at k
   split at k
   ·rename_i s₁ h₁
    refine Tn (dK ok h₁) ?_
    split at k
    ·rename_i c hc
     cases c with
     |true=>have:=k.1 rfl;rw [mJ hc] at this;exact iha _ this
     |false=>have:=k.2 rfl;rw [mJ hc] at this;exact ihb _ this
    ·exact k.elim
   ·exact k.elim
 | val n m t k ih=>
   intro s k
   unfold tx at k
   split at k
   ·rename_i s₁ h₁
    refine Tn (dK ok h₁) ?_
    split at k
    ·rename_i κ e hc
     have:=k e rfl
     rw [mJ hc] at this
     exact ih _ this
    ·exact k.elim
   ·exact k.elim
 | U0 n m t c a b iha ihb=>
   intro s k
   unfold tx at k
   split at k
   ·rename_i s₁ h₁
    refine Tn (dK ok h₁) ?_
    split at k
    ·rename_i κ e hc
     by_cases he:e=c
     ·subst he
      have:=k.1 rfl
      rw [mJ hc] at this
      exact iha _ this
     ·exact ihb _ (k.2 he)
    ·exact k.elim
   ·exact k.elim
 | ov n m k ih=>
   intro s k
   unfold tx at k
   split at k
   ·rename_i s₁ h₁
    refine Tn (dK ok h₁) ?_
    split at k
    ·rename_i o ho
     split at k
     ·rename_i p v hv
      split at k
      ·rename_i s₂ hs
       obtain ⟨x1,x2,x3⟩:=aaB (h:=s₁.h) ok.T hv k.1
       exact one (Dq ho x1 x2 x3 hs) (ih _ k.2)
      ·exact k.elim
     ·exact k.elim
    ·exact k.elim
   ·exact k.elim
 | lod n m κ k ih=>
   intro s k
   unfold tx at k
   split at k
   ·rename_i s₁ h₁
    refine Tn (dK ok h₁) ?_
    split at k
    ·rename_i o ho
     split at k
     ·rename_i u hu
      obtain ⟨x,rfl,k⟩:=k
      split at k
      ·rename_i s₂ hs
       obtain ⟨x1,x2,x3⟩:=Tj ok.T hu
       exact one (Dq ho x1 x2 x3 hs) (ih _ k)
      ·exact k.elim
     ·exact k.elim
    ·exact k.elim
   ·exact k.elim
 | acI n m k ih=>
   intro s k
   unfold tx at k
   split at k
   ·rename_i s₁ h₁
    refine Tn (dK ok h₁) ?_
    split at k
    ·rename_i o ho
     split at k
     ·rename_i u hu
      obtain ⟨x,rfl,k⟩:=k
      split at k
      ·rename_i s₂ hs
       obtain ⟨x1,x2,x3⟩:=Tj ok.T hu
       exact one (Dq ho x1 x2 x3 hs) (ih _ k)
      ·exact k.elim
     ·exact k.elim
    ·exact k.elim
   ·exact k.elim
 | Tc n m i k ih=>
   intro s k
   unfold tx at k
   split at k
   ·rename_i s₁ h₁
    refine Tn (dK ok h₁) ?_
    split at k
    ·rename_i f args h hq
     refine one (KH hq) (C.runs _ ((ok.Γ _ _ _ _ _ k s₁.fr s₁.cs fun v hv=>?_).bind ?_))
     ·split at hv
      ·rename_i c a ha;exact ⟨a,kL ha hv.1⟩
      ·exact hv.elim
     ·rintro s' ⟨v,a',hv,ha',rfl⟩
      split at hv
      ·rename_i c a ha
       rw [kL ha hv.1] at ha'
       cases ha'
       exact ay.here (ih _ hv.2)
      ·exact hv.elim
    ·exact k.elim
   ·exact k.elim
 | rk n m k ih=>
   intro s k
   unfold tx at k
   split at k
   ·rename_i s₁ h₁
    refine Tn (dK ok h₁) ?_
    split at k
    ·rename_i c s₂ hq
     exact one (KG hq k.1) (ih _ k.2)
    ·exact k.elim
   ·exact k.elim
 | cas n m t v a b iha ihb=>
   intro s k
   unfold tx at k
   split at k
   ·rename_i s₁ h₁
    refine Tn (dK ok h₁) ?_
    split at k
    ·rename_i u hc
     by_cases he:u=v
     ·subst he
      have:=k.1 rfl
      rw [mJ hc] at this
      exact iha _ this
     ·exact ihb _ (k.2 he)
    ·exact k.elim
   ·exact k.elim
theorem Vd[aI X.P](ok:Dp X){Q':Value→AH→Prop}(T:HT)(k:tx X (fun v=>∀h,Q' v h) (fun s=>bM X.P Q' s) T s):bM X.P Q' s:=
 Zy (G:=fun s=>bM X.P Q' s) ok ⟨fun s r=>r.SS fun _ x=>x,fun s v ha hq=>(ha Q' hq).SS,fun s x=>x⟩ T s k
theorem Ve[aI X.P](ok:Dp X)(T:HT)(k:tx X (fun _=>False) K T s):ay X.P K s:=
 Zy (G:=fun s=>ay X.P K s) ok ⟨fun s r=>r.bind fun _ x=>x,fun s v ha hq=>hq.elim,fun s x=>ay.here x⟩ T s k
end
theorem BR.mk{p:Prop}[Decidable p]{A B:Prop}(a:p→A)(b:¬p→B):BR (decide p) A B:=⟨fun h=>a (of_decide_eq_true h),fun h=>b (of_decide_eq_false h)⟩
theorem RK.mk{A:Prop}(a:A):RK true A:=⟨rfl,a⟩
theorem SP.mk{e c:Int}{A B:Prop}(a:e=c→A)(b:¬e=c→B):SP e c A B:=⟨a,b⟩
end Go.Am
namespace Go.Am
theorem aQ{X:TX}(ok:Dp X){Q:Value→AH→Prop}{T:HT}{s:AS}{N:Prop}(e:tx X (fun v=>∀h,Q v h) (fun s=>bM X.P Q s) T s=N)(k:N):bM X.P Q s:=haveI:=ok.Z;Vd ok T (e ▸ k)
theorem aW{X:TX}(ok:Dp X){K:AS→Prop}{T:HT}{s:AS}{N:Prop}(e:tx X (fun _=>False) K T s=N)(k:N):ay X.P K s:=haveI:=ok.Z;Ve ok T (e ▸ k)
section
variable{p:Prop}[Decidable p]{A B:Prop}{a b c e:Int}{F:Int→Prop}
theorem BR.l(h:p)(k:A):BR (decide p) A B:=BR.mk (fun _=>k) fun n=>absurd h n
theorem BR.r(h:¬p)(k:B):BR (decide p) A B:=BR.mk (fun y=>absurd y h) fun _=>k
theorem BR.nm(k:¬p→A)(l:p→B):BR (!decide p) A B:=⟨fun h=>k (by simpa using h),fun h=>l (by simpa using h)⟩
theorem BR.nr(h:p)(k:B):BR (!decide p) A B:=BR.nm (fun y=>absurd h y) fun _=>k
theorem SP.l(h:e=c)(k:A):SP e c A B:=⟨fun _=>k,fun n=>absurd h n⟩
theorem vw(h1 : -9223372036854775808≤e)(h2:e≤9223372036854775807)(k:∀x,x=e→F x):∀x,x=IntKind.i64.wrap e→F x:=fun x hx=>k x (by rw [hx,S9 h1 h2])
theorem aaC(h1 : -3000000≤a)(h2:a≤3000000)(h3 : -3000000≤b)(h4:b≤3000000) : -9000000000000≤a * b∧a * b≤9000000000000:=by
 have k1:0≤(3000000 - a) * (3000000 - b):=Int.mul_nonneg (by omega) (by omega)
 have k2:0≤(3000000+a) * (3000000+b):=Int.mul_nonneg (by omega) (by omega)
 have k3:0≤(3000000 - a) * (3000000+b):=Int.mul_nonneg (by omega) (by omega)
 have k4:0≤(3000000+a) * (3000000 - b):=Int.mul_nonneg (by omega) (by omega)
 rw [Int.sub_mul,Int.mul_sub,Int.mul_sub] at k1
 rw [Int.add_mul,Int.mul_add,Int.mul_add] at k2
 rw [Int.sub_mul,Int.mul_add,Int.mul_add] at k3
 rw [Int.add_mul,Int.mul_sub,Int.mul_sub] at k4
 constructor<;>omega
theorem vm(h1 : -3000000≤a)(h2:a≤3000000)(h3 : -3000000≤b)(h4:b≤3000000)(k:∀x,x=a * b → -9000000000000≤x→x≤9000000000000→F x):∀x,x=IntKind.i64.wrap (a * b)→F x:=fun x hx=>by
 have h5:=aaC h1 h2 h3 h4
 rw [S9 (by omega) (by omega)] at hx
 exact k x hx (by omega) (by omega)
theorem Vf(hb:0 < b)(h1 : -9000000000000≤a)(h2:a≤9000000000000) : -9000000000000≤Int.tdiv a b∧Int.tdiv a b≤9000000000000:=by
 have h3:(Int.tdiv a b).natAbs≤a.natAbs:=by rw [Int.natAbs_tdiv];exact Nat.div_le_self _ _
 omega
theorem Vg{b:Int}(hb:0 < b)(h:0≤a):0≤Int.tdiv a b∧Int.tdiv a b≤a:=by
 rw [Int.tdiv_eq_ediv_of_nonneg h]
 exact ⟨Int.ediv_nonneg h (Int.le_of_lt hb),Int.ediv_le_self _ h⟩
theorem vq(hb:0 < b)(h : -9000000000000≤a∧a≤9000000000000)(k:∀x,x=Int.tdiv a b→(-9000000000000≤x∧x≤9000000000000∧(0≤a→0≤x∧x≤a))→F x):∀x,x=IntKind.i64.wrap (Int.tdiv a b)→F x:=fun x hx=>by
 have h5:=Vf hb h.1 h.2
 rw [S9 (by omega) (by omega)] at hx
 exact k x hx ⟨by omega,by omega,fun h6=>by rw [hx];exact Vg hb h6⟩
theorem MH(hb:0 < b) : -b < Int.tmod a b∧Int.tmod a b < b∧(0≤a→0≤Int.tmod a b):=by
 refine ⟨?_,Int.tmod_lt_of_pos a hb,fun h=>Int.tmod_nonneg b h⟩
 by_cases h:0≤a
 · have:=Int.tmod_nonneg b h;omega
 · have h1:=Int.tmod_lt_of_pos (-a) hb
   rw [Int.neg_tmod] at h1
   omega
theorem vr(hb:0 < b)(k:∀x,x=Int.tmod a b→(-b < x∧x < b∧(0≤a→0≤x))→F x):∀x,x=Int.tmod a b→F x:=fun x hx=>k x hx (by rw [hx];exact MH hb)
theorem BR.ll(k:A)(h:p:=by omega):BR (decide p) A B:=BR.l h k
theorem BR.rr(k:B)(h:¬p:=by omega):BR (decide p) A B:=BR.r h k
theorem va(k:∀x,x=e→F x)(h1 : -9223372036854775808≤e:=by omega)(h2:e≤9223372036854775807:=by omega):∀x,x=IntKind.i64.wrap e→F x:=vw h1 h2 k
theorem vs(k:∀x,x=Int.tmod a b→(-b < x∧x < b∧(0≤a→0≤x))→F x)(hb:0 < b:=by omega):∀x,x=Int.tmod a b→F x:=vr hb k
abbrev wi(a:Int):Int:=IntKind.i64.wrap a
end
end Go.Am
namespace Go.Am
def Vh(B:bg):bg:={ B with ro:=true }
def di(nA:Nat)(L:List (Nat×bg)):AH:=⟨nA,iV (L.map fun p=>(p.1,Vh p.2)),jd (L.filterMap fun p=>p.2.dQ.map fun f=>(f,[p.1]))⟩
def HB1(h:AH)(b:Nat)(B:bg):Prop:=h.tr.get b=some B∧(match B.dQ with|none=>true|some f=>((h.dH.get f).getD []).contains b)=true
def Vj(h:AH):List (Nat×bg)→Prop
 | []=>True
 | p :: l=>HB1 h p.1 p.2∧Vj h l
structure StL(nA:Nat)(L:List (Nat×bg)):Prop where
 lt:∀p∈L,p.1 < nA
 plain:∀p∈L,∃c e f,p.2.obj = .cells c e f∧∀x∈c,Plain x
 nodup:(L.map (·.1)).Nodup
theorem MI:∀ {l:List (Nat×bg)} {b:Nat} {B:bg},(l.map (·.1)).Nodup→(b,B)∈l→(iV l).get b=some B
 | (c,C) :: l,b,B,hn,hm=>by
   unfold iV
   rw [Tr.dN]
   simp only [List.map_cons,List.nodup_cons] at hn
   rcases List.mem_cons.1 hm with e|e
   ·cases e;rw [if_pos rfl]
   ·rw [if_neg,MI hn.2 e]
    rintro rfl
    exact hn.1 (List.mem_map.2 ⟨_,e,rfl⟩)
theorem MJ:∀(l:List (Nat×List Nat)) {f:Nat} {m:List Nat},(jd l).get f=some m→(f,m)∈l
 | [],f,m,e=>by cases e
 | (c,C) :: l,f,m,e=>by
   unfold jd at e
   rw [Tr.dN] at e
   split at e
   ·rename_i hb;subst hb;cases e;exact .head _
   ·exact .tail _ (MJ l e)
theorem Vj.mem{h:AH}:∀ {L:List (Nat×bg)},Vj h L→∀p∈L,HB1 h p.1 p.2
 | q :: L,k,p,hp=>by
   rcases List.mem_cons.1 hp with e|e
   ·subst e;exact k.1
   ·exact Vj.mem k.2 p e
theorem StL.sub{nA:Nat}{L:List (Nat×bg)}{h:AH}(S:StL nA L)(k:Vj h L):(di nA L).Sub h:=by
 have lk:∀b B,(di nA L).tr.get b=some B→∃bQ,(b,bQ)∈L∧B=Vh bQ:=fun b B e=>by
   have:=Dk _ e
   obtain ⟨⟨b',bQ⟩,h1,h2⟩:=List.mem_map.1 this
   cases h2
   exact ⟨bQ,h1,rfl⟩
 have hl:∀b bQ,(b,bQ)∈L→h.look b=some bQ:=fun b bQ hm=>by
   obtain ⟨h1,h2⟩:=Vj.mem k _ hm
   dsimp only at h1 h2
   unfold AH.look
   rw [h1]
   dsimp only
   cases hf:bQ.dQ with
   |none=>rfl
   |some f=>
    rw [hf] at h2
    dsimp only at h2 ⊢
    rw [if_pos h2]
 have fl:∀f l,(di nA L).dH.get f=some l→∃b bQ,(b,bQ)∈L∧bQ.dQ=some f∧l=[b]:=fun f l e=>by
   have:=MJ _ e
   obtain ⟨⟨b,bQ⟩,h1,h2⟩:=List.mem_filterMap.1 this
   dsimp only at h2
   cases hf:bQ.dQ with
   |none=>rw [hf] at h2;cases h2
   |some g=>rw [hf] at h2;cases h2;exact ⟨b,bQ,h1,hf,rfl⟩
 refine ⟨fun b B e=>?_,fun b B e=>?_,fun b B e=>?_,fun f l e=>?_,fun f l b e hb=>?_⟩
 · obtain ⟨bQ,h1,rfl⟩:=lk b B (fB e)
   exact ⟨bQ,hl b bQ h1,rfl,rfl,rfl,rfl⟩
 · obtain ⟨bQ,h1,rfl⟩:=lk b B (fB e)
   obtain ⟨c,e',f,h2,h3⟩:=S.plain _ h1
   exact ⟨c,e',f,h2,fun x hx=>(h3 x hx).okV⟩
 · obtain ⟨bQ,h1,rfl⟩:=lk b B e
   exact ⟨bQ,(Vj.mem k _ h1).1,rfl⟩
 · obtain ⟨b,bQ,h1,h2,rfl⟩:=fl f l e
   have h3:=(Vj.mem k _ h1).2
   dsimp only at h3
   rw [h2] at h3
   dsimp only at h3
   cases hg:h.dH.get f with
   |none=>rw [hg] at h3;simp at h3
   |some l'=>
    rw [hg] at h3
    exact ⟨l',rfl,List.singleton_sublist.2 (by simpa using h3)⟩
 · obtain ⟨b',bQ,h1,h2,rfl⟩:=fl f l e
   obtain rfl:b=b' :=by simpa using hb
   refine ⟨S.lt _ h1,Vh bQ,MI ?_ (List.mem_map.2 ⟨_,h1,rfl⟩),h2⟩
   rw [List.map_map]
   exact S.nodup
structure Ct where
 f:FuncId
 ext:Array Value→AH→List Int
 nA:Nat
 L:List Int→List (Nat×bg)
 args:List Int→Array Value
 pre:List Int→Prop
 R:List Int→Int→Prop
 res:Int→Value
noncomputable section
def yS(a:Array Value)(i:Nat):Int:=match nth a.toList i with
 | some (.int _ p)=>p
 | _=>0
def aeM(h:AH)(v:Option Value):List Int:=match v with
 | some (.slice (some a) _ _)=>match h.tr.get a.block with
   |some ⟨.cells c _ _,_,_,_⟩=>List.rec [] (fun v _ ih=>(match v with | .int _ n=>n|_=>0) :: ih) c.toList
   |_=>[]
 | _=>[]
def ag4(n:Nat)(v:Option Value):List Int:=match v with
 | some (.agg c)=>List.rec (motive:=fun _=>Nat→List Int) (fun _=>[]) (fun v _ ih n=>match n with
   |0=>[]
   |n+1=>(match v with | .int _ x=>x|_=>0) :: ih n) c.toList n
 | _=>[]
def Ct.met(c:Ct)(a:Array Value)(h:AH)(p:List Int)(post:Value→Prop):Prop:=(a=c.args p∧Vj h (c.L p)∧c.pre p)∧∀x:Int,c.R p x→post (c.res x)
def ctG:List Ct→FuncId→Array Value→AH→(Value→Prop)→Prop
 | [],_,_,_,_=>False
 | c :: l,f,a,h,post=>bif Nat.beq f c.f then c.met a h (c.ext a h) post else ctG l f a h post
def ctI(l:List Ct):Nat→FuncId→Array Value→AH→(Value→Prop)→Prop
 | 0=>ctG l
 | i+1=>fun f a h post=>match nth l i with
   |some c=>bif Nat.beq f c.f then c.met a h (c.ext a h) post else False
   |none=>False
end
structure dF(P:Program)(c:Ct):Prop where
 SS:∀p,c.pre p→bM P (fun v _=>∃x,c.R p x∧v=c.res x) ⟨aF.enter P c.f (c.args p),[],di c.nA (c.L p)⟩
 st:∀p,c.pre p→StL c.nA (c.L p)
 okA:∀p,∀x∈c.args p,mG (· < c.nA) x
 okR:∀x,Plain (c.res x)
theorem dF.call{P:Program}[aI P]{c:Ct}(k:dF P c){a:Array Value}{h:AH}{p:List Int}{post:Value→Prop}(hp:c.met a h p post):Dn P c.f a h post:=by
 obtain ⟨⟨h1,h2,h3⟩,h4⟩:=hp
 subst h1
 intro fr cs hfin
 refine (ay.call (k.SS p h3) ((k.st p h3).sub h2) (k.okA p) (fun q hq v h' hv=>?_) (fun v h' hv=>?_)).mono ?_
 · obtain ⟨x,_,rfl⟩:=hv
   exact (k.okR x).okV
 · obtain ⟨x,hx,rfl⟩:=hv
   exact hfin _ (h4 x hx)
 · rintro s ⟨v,h',a',⟨x,hx,rfl⟩,h5,rfl⟩
   exact ⟨_,a',h4 x hx,h5,rfl⟩
theorem Tq{P:Program}[aI P]:∀ {l:List Ct},(∀c∈l,dF P c)→∀f a h post,ctG l f a h post→Dn P f a h post
 | [],_,f,a,h,post,k=>k.elim
 | c :: l,hl,f,a,h,post,k=>by
   unfold ctG at k
   cases hf:Nat.beq f c.f with
   |true=>
    rw [hf] at k
    have:=Nat.eq_of_beq_eq_true hf
    subst this
    exact (hl c (.head _)).call k
   |false=>
    rw [hf] at k
    exact Tq (fun c hc=>hl c (.tail _ hc)) f a h post k
theorem aaD{P:Program}[aI P]{l:List Ct}(hl:∀c∈l,dF P c):∀i f a h post,ctI l i f a h post→Dn P f a h post
 | 0,f,a,h,post,k=>Tq hl f a h post k
 | i+1,f,a,h,post,k=>by
   unfold ctI at k
   dsimp only at k
   split at k
   ·rename_i c hc
    cases hf:Nat.beq f c.f with
    |true=>
     rw [hf] at k
     have:=Nat.eq_of_beq_eq_true hf
     subst this
     rw [gU] at hc
     exact (hl c (List.mem_of_getElem? hc)).call k
    |false=>rw [hf] at k;exact k.elim
   ·exact k.elim
theorem dM{P:Program}:∀c∈([]:List Ct),dF P c:=fun c h=>absurd h List.not_mem_nil
theorem eX{P:Program}{c:Ct}{l:List Ct}(h:dF P c)(k:∀c∈l,dF P c):∀d∈c :: l,dF P d:=fun d hd=>(List.mem_cons.1 hd).elim (fun e=>e ▸ h) (k d)
theorem fK{V:Prop}{n:Int}(h:n≠0):∀_:AH,∃x:Int,(x=0→V)∧Value.int .i64 n = .int .i64 x:=fun _=>⟨n,fun e=>absurd e h,rfl⟩
theorem lf0{V:Prop}(h:V):∀_:AH,∃x:Int,(x=0→V)∧Value.int .i64 0 = .int .i64 x:=fun _=>⟨0,fun _=>h,rfl⟩
def AE(a:Array Value):Prop:=a=a
def BE(B:bg):Prop:=some B=some B∧true=true
def bk(c:Array Value):bg:=⟨.cells c 0 (0,0),none,true,1⟩
def E4(pc tc sc kc:Array Value):Prop:=BE (bk pc)∧BE (bk tc)∧BE (bk sc)∧BE (bk kc)∧True
theorem rM{pc tc sc kc:Array Value}:E4 pc tc sc kc:=⟨⟨rfl,rfl⟩,⟨rfl,rfl⟩,⟨rfl,rfl⟩,⟨rfl,rfl⟩,trivial⟩
def L4(pc tc sc kc:Array Value):List (Nat×bg):=[(0,bk pc),(1,bk tc),(2,bk sc),(3,bk kc)]
end Go.Am
namespace Go.Am
open Go.Conc (G Good)
open Go.Ren (At aA Keep full)
noncomputable section
def Tt(P:Program)(root:FuncId)(s:AS):Bool:=s.fr.ret && s.cs.isEmpty && aX s.fr && s.fr.defers.isEmpty && !s.fr.dk && Nat.beq s.fr.fn root && match P.funcs[root]? with
 | some f=>(match (results f s.fr.tmps).ar P none s.h with
   |some (.bool b,_)=>b
   |_=>false)
 | none=>false
def Vk(X:TX)(root:FuncId):Nat→AS→Bool
 | 0,s=>Tt X.P root s
 | k+1,s=>if Tt X.P root s then true else match yC X.P plan X.T X.Fu 1 s with
   |some (.go s')=>Vk X root k s'
   |_=>false
def aG(X:TX)(root chk:FuncId)(s:AS):Bool:=aX s.fr && match J7 X.P chk (.bool true) ⟨s.fr,s.cs,⟨s.h.n,.nil,.nil⟩⟩ with
 | some s'=>Vk X root 9 s'
 | none=>false
abbrev ud:Value:=.tuple ⟨[]⟩
abbrev ur(n:Nat):List Value:=List.replicate n ud
def Jc(f:FuncId)(s:AS):Bool:=Nat.beq s.fr.fn f
end
noncomputable def KF(X:TX)(root chk:FuncId)(cut:AS→Bool)(l:List Nat)(s:AS):Prop:=bif cut s && aX s.fr then ay X.P (fun s=>aG X root chk s=true) ⟨s.fr,s.cs,s.h.forget l⟩ else aG X root chk s=true
theorem bu{X:TX}{root chk:FuncId}{cut:AS→Bool}{l:List Nat}{s0:AS}(h:ay X.P (fun s=>KF X root chk cut l s) s0):ay X.P (fun s=>aG X root chk s=true) s0:=h.bind fun s k=>by
 unfold KF at k
 cases hb:cut s && aX s.fr<;>rw [hb] at k
 · exact ay.here k
 · rw [Bool.and_eq_true] at hb
   exact (ay.forget l hb.2).bind fun s' e=>by subst e;exact k
def Dt(P:Program)(L:Go.Conc.Lib.WgLink)(fid:FuncId)(bJ:Machine→Outcome→World→Trace→Prop):Prop:=
 ∀ {b:Frame} {bs:List Frame} {F:Nat→Prop} {w₀:World} {m:Machine} {t:Trace},aJ P L (b :: bs) F w₀ .idle ⟨aF.enter P fid #[],[],h0⟩ m t→aA P bJ (Back P b bs F w₀ (.bool true)) m t
section
variable{X:TX}{root chk:FuncId}{s s' s0:AS}{W U Z F:Nat→Prop}{N:Nat}{ρ:Env}{w₀ w:World}{g:Goroutine}{m:Machine}{t:Trace}{Post:Value→World→Prop}{K:Machine→Trace→Prop}{L:Go.Conc.Lib.WgLink}
theorem PI{P:Program}(h:Tt P root s=true):s.fr.ret=true∧s.cs=[]∧aX s.fr=true∧s.fr.defers=[]∧s.fr.dk=false∧s.fr.fn=root∧∃f h₁,P.funcs[root]? = some f∧(results f s.fr.tmps).ar P none s.h=some (.bool true,h₁):=by
 unfold Tt at h
 simp only [Bool.and_eq_true,Bool.not_eq_true'] at h
 obtain ⟨⟨⟨⟨⟨⟨h1,h2⟩,h3⟩,h4⟩,h5⟩,h6⟩,h7⟩:=h
 refine ⟨h1,List.isEmpty_iff.1 h2,h3,List.isEmpty_iff.1 h4,h5,Nat.eq_of_beq_eq_true h6,?_⟩
 split at h7
 · rename_i f hf
   split at h7
   ·rename_i b h₁ hr
    subst h7
    exact ⟨f,h₁,hf,hr⟩
   ·cases h7
 · cases h7
theorem BA(ok:Dp X):∀(k:Nat) {s:AS},Vk X root k s=true→∃s',To X.P plan s' s∧Tt X.P root s' = true
 | 0,s,h=>⟨s,.here rfl,h⟩
 | k+1,s,h=>by
   unfold Vk at h
   split at h
   ·rename_i he;exact ⟨s,.here rfl,he⟩
   ·split at h
    ·rename_i s₁ h₁
     obtain ⟨s',k1,k2⟩:=BA ok k h
     exact ⟨s',(pg ok.T ok.Fu 1 h₁).bind fun _ e=>by subst e;exact k1,k2⟩
    ·cases h
theorem KI(ok:Dp X)(R:ay X.P (fun s=>aG X root chk s=true) s0)(U5:Dt X.P L chk (Good X.P Post))(hp:bV X.P chk=true)(hin:X.P.inits.idxOf? root=none)(hP:∀w',Keep F w₀ w' → Post (.bool true) w')
   (S:Sr X.P [] F w₀ W U Z N ρ s0 g w m t):aA X.P (Good X.P Post) K m t:=by
 haveI:=ok.Z
 refine (S.runs R).bind ?_
 rintro m t ⟨σ,s,g',w',hk,_,S'⟩
 unfold aG at hk
 rw [Bool.and_eq_true] at hk
 obtain ⟨hd,hk⟩:=hk
 split at hk
 · rename_i s₆ h₆
   obtain ⟨s₇,k1,k2⟩:=BA ok _ hk
   refine (Sd.acE (L:=L) hp (.bool true) U5 (S'.sd hd) (I5 h₆)).bind ?_
   rintro m t ⟨W',U',Z',N',σ',g₂,w₂,_,aaf⟩
   refine (aaf.reach (K:=(· = s₇)) k1).bind ?_
   rintro m t ⟨τ,s'',g₃,w₃,rfl,_,aeO,_⟩
   obtain ⟨e1,e2,e3,e4,e5,e6,f,h₁,e7,e8⟩:=PI k2
   exact aeO.ends e2 e3 e1 e4 e5 (by rw [e6];exact e7) e8 (by rw [e6];exact hin) (.bool true) hP
 · cases hk
end
end Go.Am
