import Derived.OpenShut
import Derived.WideKeyArgs
import Derived.Test.YtgfjlblikffnaaaGreatRows
import Derived.ProofKit
import Derived.Conc.Holds
import Derived.Handed
import Derived.Conc.LeavingOf
import Derived.Test.YtgfjlblikffnaaaGreatH20
import Derived.Test.YtgfjlblikffnaaaGreatH25
import Derived.Test.YtgfjlblikffnaaaGreatH26
import Derived.Test.YtgfjlblikffnaaaGreatH27
import Derived.Test.YtgfjlblikffnaaaGreatH28
import Derived.Test.YtgfjlblikffnaaaGreatH29
set_option linter.unusedVariables false
set_option linter.unusedSectionVars false
set_option linter.unusedSimpArgs false
namespace Go.Am
open Go.Proofs
section
variable{run scale follow bite wrong:Int}{ot ok:Option Addr}{cp ct ck:Nat}{eU:List (Int×Int×Int)}{ks:List Int}
theorem afh{l0 u0 l1 u1 l2 u2:Int}(hot:vI 1 eU.length ot)(hok:vI 3 ks.length ok)(hks:∀n∈ks,0≤n∧n≤65535) :
  ay Tryz.prog (fun s=>aG (Tryz.X []) 3 5 s=true) ⟨aF.enter Tryz.prog 3 ⟨[bm run scale follow bite wrong (some ⟨0,0,none⟩) 3 cp ot eU.length ct,.slice ok ks.length ck]⟩,[],di 4 (L4 ⟨mM [(l0,u0),(l1,u1),(l2,u2)]⟩ ⟨encR eU⟩ ⟨[]⟩ ⟨kU ks⟩)⟩:=by
 have hpl:∀x∈(⟨mM [(l0,u0),(l1,u1),(l2,u2)]⟩:Array Value),Plain x:=fun x hx=>jl _ x (by simpa using hx)
 have htc:∀x∈(⟨encR eU⟩:Array Value),Plain x:=fun x hx=>jm eU x (by simpa using hx)
 have hsc:∀x∈(⟨[]⟩:Array Value),Plain x:=fun x hx=>by simp at hx
 have hkc:∀x∈(⟨kU ks⟩:Array Value),Plain x:=fun x hx=>iG ks x (by simpa using hx)
 have hz:vI 0 3 (some ⟨0,0,none⟩):=⟨fun _=>rfl,fun a e=>by cases e;rfl⟩
 have st:=TB hpl htc hsc hkc
 have okA:∀(p:List Int),∀x∈(⟨[bm run scale follow bite wrong (some ⟨0,0,none⟩) 3 cp ot eU.length ct]⟩:Array Value),mG (· < 4) x:=fun p x hx=>by rw [mem1 hx];exact Vo (by decide) hz hot
 have hB:=ck3 (run:=run) (scale:=scale) (follow:=follow) (bite:=bite) (wrong:=wrong) (cp:=cp) (ct:=ct) (sc:=⟨[]⟩) (kc:=⟨kU ks⟩) (l0:=l0) (u0:=u0) (l1:=l1) (u1:=u1) (l2:=l2) (u2:=u2) hot
 by_cases hV:Hd run scale follow bite wrong∧iP [(l0,u0),(l1,u1),(l2,u2)]∧eU.length≤4∧iF 3 eU
 ·refine Tryz.acX (V:=Hd run scale follow bite wrong∧iP [(l0,u0),(l1,u1),(l2,u2)]∧eU.length≤4∧iF 3 eU) (fun h=>⟨h.1.1,h.1.2.1⟩) (eX ⟨fun p _=>hB,fun _ _=>st,okA,fun x=>.int _ _⟩ (eX (uB hpl htc hsc hok hks) (eX ⟨fun p _=>?_,fun _ _=>st,okA,fun x=>.int _ _⟩ (eX Vq dM))))
  exact snR (np:=3) hV.1 (by decide) hV.2.2.1 hV.2.2.2 hot ⟨fun p _=>Tryz.cf3 hV.2.1,fun _ _=>st,fun p x hx=>Vp hx,fun x=>.bool _⟩
 ·exact Tryz.MM (eX ⟨fun p _=>hB.mono fun v _ ⟨x,h1,h2⟩=>⟨x,fun e=>hV (h1 e),h2⟩,fun _ _=>st,okA,fun x=>.int _ _⟩ dM)
theorem afi{l0 u0 l1 u1 l2 u2 l3 u3:Int}(hot:vI 1 eU.length ot)(hok:vI 3 ks.length ok)(hks:∀n∈ks,0≤n∧n≤65535) :
  ay Tryz.prog (fun s=>aG (Tryz.X []) 3 5 s=true) ⟨aF.enter Tryz.prog 3 ⟨[bm run scale follow bite wrong (some ⟨0,0,none⟩) 4 cp ot eU.length ct,.slice ok ks.length ck]⟩,[],di 4 (L4 ⟨mM [(l0,u0),(l1,u1),(l2,u2),(l3,u3)]⟩ ⟨encR eU⟩ ⟨[]⟩ ⟨kU ks⟩)⟩:=by
 have hpl:∀x∈(⟨mM [(l0,u0),(l1,u1),(l2,u2),(l3,u3)]⟩:Array Value),Plain x:=fun x hx=>jl _ x (by simpa using hx)
 have htc:∀x∈(⟨encR eU⟩:Array Value),Plain x:=fun x hx=>jm eU x (by simpa using hx)
 have hsc:∀x∈(⟨[]⟩:Array Value),Plain x:=fun x hx=>by simp at hx
 have hkc:∀x∈(⟨kU ks⟩:Array Value),Plain x:=fun x hx=>iG ks x (by simpa using hx)
 have hz:vI 0 4 (some ⟨0,0,none⟩):=⟨fun _=>rfl,fun a e=>by cases e;rfl⟩
 have st:=TB hpl htc hsc hkc
 have okA:∀(p:List Int),∀x∈(⟨[bm run scale follow bite wrong (some ⟨0,0,none⟩) 4 cp ot eU.length ct]⟩:Array Value),mG (· < 4) x:=fun p x hx=>by rw [mem1 hx];exact Vo (by decide) hz hot
 have hB:=ck4 (run:=run) (scale:=scale) (follow:=follow) (bite:=bite) (wrong:=wrong) (cp:=cp) (ct:=ct) (sc:=⟨[]⟩) (kc:=⟨kU ks⟩) (l0:=l0) (u0:=u0) (l1:=l1) (u1:=u1) (l2:=l2) (u2:=u2) (l3:=l3) (u3:=u3) hot
 by_cases hV:Hd run scale follow bite wrong∧iP [(l0,u0),(l1,u1),(l2,u2),(l3,u3)]∧eU.length≤4∧iF 4 eU
 ·refine Tryz.acY (V:=Hd run scale follow bite wrong∧iP [(l0,u0),(l1,u1),(l2,u2),(l3,u3)]∧eU.length≤4∧iF 4 eU) (fun h=>⟨h.1.1,h.1.2.1⟩) (eX ⟨fun p _=>hB,fun _ _=>st,okA,fun x=>.int _ _⟩ (eX (uB hpl htc hsc hok hks) (eX ⟨fun p _=>?_,fun _ _=>st,okA,fun x=>.int _ _⟩ (eX Vq dM))))
  exact snR (np:=4) hV.1 (by decide) hV.2.2.1 hV.2.2.2 hot ⟨fun p _=>Tryz.cf4 hV.2.1,fun _ _=>st,fun p x hx=>Vp hx,fun x=>.bool _⟩
 ·exact Tryz.MM (eX ⟨fun p _=>hB.mono fun v _ ⟨x,h1,h2⟩=>⟨x,fun e=>hV (h1 e),h2⟩,fun _ _=>st,okA,fun x=>.int _ _⟩ dM)
theorem afj{l0 u0 l1 u1 l2 u2 l3 u3 l4 u4:Int}(hot:vI 1 eU.length ot)(hok:vI 3 ks.length ok)(hks:∀n∈ks,0≤n∧n≤65535) :
  ay Tryz.prog (fun s=>aG (Tryz.X []) 3 5 s=true) ⟨aF.enter Tryz.prog 3 ⟨[bm run scale follow bite wrong (some ⟨0,0,none⟩) 5 cp ot eU.length ct,.slice ok ks.length ck]⟩,[],di 4 (L4 ⟨mM [(l0,u0),(l1,u1),(l2,u2),(l3,u3),(l4,u4)]⟩ ⟨encR eU⟩ ⟨[]⟩ ⟨kU ks⟩)⟩:=by
 have hpl:∀x∈(⟨mM [(l0,u0),(l1,u1),(l2,u2),(l3,u3),(l4,u4)]⟩:Array Value),Plain x:=fun x hx=>jl _ x (by simpa using hx)
 have htc:∀x∈(⟨encR eU⟩:Array Value),Plain x:=fun x hx=>jm eU x (by simpa using hx)
 have hsc:∀x∈(⟨[]⟩:Array Value),Plain x:=fun x hx=>by simp at hx
 have hkc:∀x∈(⟨kU ks⟩:Array Value),Plain x:=fun x hx=>iG ks x (by simpa using hx)
 have hz:vI 0 5 (some ⟨0,0,none⟩):=⟨fun _=>rfl,fun a e=>by cases e;rfl⟩
 have st:=TB hpl htc hsc hkc
 have okA:∀(p:List Int),∀x∈(⟨[bm run scale follow bite wrong (some ⟨0,0,none⟩) 5 cp ot eU.length ct]⟩:Array Value),mG (· < 4) x:=fun p x hx=>by rw [mem1 hx];exact Vo (by decide) hz hot
 have hB:=ck5 (run:=run) (scale:=scale) (follow:=follow) (bite:=bite) (wrong:=wrong) (cp:=cp) (ct:=ct) (sc:=⟨[]⟩) (kc:=⟨kU ks⟩) (l0:=l0) (u0:=u0) (l1:=l1) (u1:=u1) (l2:=l2) (u2:=u2) (l3:=l3) (u3:=u3) (l4:=l4) (u4:=u4) hot
 by_cases hV:Hd run scale follow bite wrong∧iP [(l0,u0),(l1,u1),(l2,u2),(l3,u3),(l4,u4)]∧eU.length≤4∧iF 5 eU
 ·refine Tryz.acZ (V:=Hd run scale follow bite wrong∧iP [(l0,u0),(l1,u1),(l2,u2),(l3,u3),(l4,u4)]∧eU.length≤4∧iF 5 eU) (fun h=>⟨h.1.1,h.1.2.1⟩) (eX ⟨fun p _=>hB,fun _ _=>st,okA,fun x=>.int _ _⟩ (eX (uB hpl htc hsc hok hks) (eX ⟨fun p _=>?_,fun _ _=>st,okA,fun x=>.int _ _⟩ (eX Vq dM))))
  exact snR (np:=5) hV.1 (by decide) hV.2.2.1 hV.2.2.2 hot ⟨fun p _=>Tryz.cf5 hV.2.1,fun _ _=>st,fun p x hx=>Vp hx,fun x=>.bool _⟩
 ·exact Tryz.MM (eX ⟨fun p _=>hB.mono fun v _ ⟨x,h1,h2⟩=>⟨x,fun e=>hV (h1 e),h2⟩,fun _ _=>st,okA,fun x=>.int _ _⟩ dM)
theorem afk{l0 u0 l1 u1 l2 u2 l3 u3 l4 u4 l5 u5:Int}(hot:vI 1 eU.length ot)(hok:vI 3 ks.length ok)(hks:∀n∈ks,0≤n∧n≤65535) :
  ay Tryz.prog (fun s=>aG (Tryz.X []) 3 5 s=true) ⟨aF.enter Tryz.prog 3 ⟨[bm run scale follow bite wrong (some ⟨0,0,none⟩) 6 cp ot eU.length ct,.slice ok ks.length ck]⟩,[],di 4 (L4 ⟨mM [(l0,u0),(l1,u1),(l2,u2),(l3,u3),(l4,u4),(l5,u5)]⟩ ⟨encR eU⟩ ⟨[]⟩ ⟨kU ks⟩)⟩:=by
 have hpl:∀x∈(⟨mM [(l0,u0),(l1,u1),(l2,u2),(l3,u3),(l4,u4),(l5,u5)]⟩:Array Value),Plain x:=fun x hx=>jl _ x (by simpa using hx)
 have htc:∀x∈(⟨encR eU⟩:Array Value),Plain x:=fun x hx=>jm eU x (by simpa using hx)
 have hsc:∀x∈(⟨[]⟩:Array Value),Plain x:=fun x hx=>by simp at hx
 have hkc:∀x∈(⟨kU ks⟩:Array Value),Plain x:=fun x hx=>iG ks x (by simpa using hx)
 have hz:vI 0 6 (some ⟨0,0,none⟩):=⟨fun _=>rfl,fun a e=>by cases e;rfl⟩
 have st:=TB hpl htc hsc hkc
 have okA:∀(p:List Int),∀x∈(⟨[bm run scale follow bite wrong (some ⟨0,0,none⟩) 6 cp ot eU.length ct]⟩:Array Value),mG (· < 4) x:=fun p x hx=>by rw [mem1 hx];exact Vo (by decide) hz hot
 have hB:=ck6 (run:=run) (scale:=scale) (follow:=follow) (bite:=bite) (wrong:=wrong) (cp:=cp) (ct:=ct) (sc:=⟨[]⟩) (kc:=⟨kU ks⟩) (l0:=l0) (u0:=u0) (l1:=l1) (u1:=u1) (l2:=l2) (u2:=u2) (l3:=l3) (u3:=u3) (l4:=l4) (u4:=u4) (l5:=l5) (u5:=u5) hot
 by_cases hV:Hd run scale follow bite wrong∧iP [(l0,u0),(l1,u1),(l2,u2),(l3,u3),(l4,u4),(l5,u5)]∧eU.length≤4∧iF 6 eU
 ·refine Tryz.ac0 (V:=Hd run scale follow bite wrong∧iP [(l0,u0),(l1,u1),(l2,u2),(l3,u3),(l4,u4),(l5,u5)]∧eU.length≤4∧iF 6 eU) (fun h=>⟨h.1.1,h.1.2.1⟩) (eX ⟨fun p _=>hB,fun _ _=>st,okA,fun x=>.int _ _⟩ (eX (uB hpl htc hsc hok hks) (eX ⟨fun p _=>?_,fun _ _=>st,okA,fun x=>.int _ _⟩ (eX Vq dM))))
  exact snR (np:=6) hV.1 (by decide) hV.2.2.1 hV.2.2.2 hot ⟨fun p _=>Tryz.cf6 hV.2.1,fun _ _=>st,fun p x hx=>Vp hx,fun x=>.bool _⟩
 ·exact Tryz.MM (eX ⟨fun p _=>hB.mono fun v _ ⟨x,h1,h2⟩=>⟨x,fun e=>hV (h1 e),h2⟩,fun _ _=>st,okA,fun x=>.int _ _⟩ dM)
theorem afl{np nt nk b0 b1:Nat}{op:Option Addr}(hnp:¬(3≤np∧np≤6))(h0:vI 0 b0 op)(h1:vI 1 b1 ot) :
  ay Tryz.prog (fun s=>aG (Tryz.X []) 3 5 s=true) ⟨aF.enter Tryz.prog 3 ⟨[bm run scale follow bite wrong op np cp ot nt ct,.slice ok nk ck]⟩,[],di 4 []⟩:=by
 have st:StL 4 []:=⟨fun p hp=>absurd hp List.not_mem_nil,fun p hp=>absurd hp List.not_mem_nil,List.nodup_nil⟩
 refine Tryz.acW (eX ⟨fun p _=>Tryz.ckm hnp,fun _ _=>st,fun p x hx=>?_,fun x=>.int _ _⟩ dM)
 rw [mem1 hx]
 refine .agg fun y hy=>?_
 simp only [List.mem_toArray,List.mem_cons,List.not_mem_nil,or_false] at hy
 rcases hy with rfl|rfl|rfl|rfl|rfl|rfl|rfl
 iterate 5 exact .int _ _
 ·exact aa2 fun a e=>by rw [h0.2 a e];exact (by decide:(0:Nat) < 4)
 ·exact aa2 fun a e=>by rw [h1.2 a e];exact (by decide:(1:Nat) < 4)
end
end Go.Am
namespace Go.Am
inductive FK where
 |int (k:IntKind)
 |bool
def FK.ok:FK→Value→Prop
 | .int k,v=>∃n,v = .int k n∧(Lit.int k n).wf=true
 | .bool,v=>∃b,v = .bool b
def TW(ks:List FK)(vs:List Value):Prop:=vs.length=ks.length∧∀(i:Nat) k,ks[i]? = some k→∃v,vs[i]? = some v∧k.ok v
noncomputable def qy(P:Program)(g:TypeId→Option (List FK))(acc:Option (List FK))(f:Field):Option (List FK):=match acc with
 |some l=>if f.offset=l.length then match g f.type with
  |some ks=>if ks.length=P.cellsOf f.type then some (l ++ ks) else none
  |none=>none else none
 |none=>none
noncomputable def qA(P:Program):Nat→TypeId→Option (List FK)
 |0,_=>none
 |n+1,t=>match P.underlying t with
  |some (.int k)=>some [.int k]
  |some .bool=>some [.bool]
  |some (.struct fs)=>match fs.toList.foldl (qy P (qA P n)) (some []) with
   |some l=>if l.length=P.cellsOf t then some l else none
   |none=>none
  |_=>none
theorem mapM_mem{α β:Type}{f:α→Option β}:∀ {l:List α} {ys:List β},l.mapM f=some ys→∀x∈l,∃y,f x=some y
 | [],ys,h,x,hx=>by cases hx
 |a :: l,ys,h,x,hx=>by
  rw [List.mapM_cons] at h
  cases ha:f a with
  |none=>rw [ha] at h;cases h
  |some y=>
   rw [ha] at h
   cases hl:l.mapM f with
   |none=>rw [hl] at h;cases h
   |some zs=>
    rcases List.mem_cons.1 hx with rfl|hx
    ·exact ⟨y,ha⟩
    ·exact mapM_mem hl x hx
theorem zy{α β:Type}{f:α→Option β}:∀ {l:List α} {ys:List β},l.mapM f=some ys→ys.length=l.length∧∀(i:Nat) x,l[i]? = some x→∃y,ys[i]? = some y∧f x=some y
 | [],ys,h=>by cases h;exact ⟨rfl,fun i x hx=>by simp at hx⟩
 |a :: l,ys,h=>by
  rw [List.mapM_cons] at h
  cases ha:f a with
  |none=>rw [ha] at h;cases h
  |some y=>
   rw [ha] at h
   cases hl:l.mapM f with
   |none=>rw [hl] at h;cases h
   |some zs=>
    rw [hl] at h
    cases h
    obtain ⟨h1,h2⟩:=zy hl
    refine ⟨by simp [h1],fun i x hx=>?_⟩
    cases i with
    |zero=>simp at hx;subst hx;exact ⟨y,rfl,ha⟩
    |succ i=>simp at hx;obtain ⟨z,k1,k2⟩:=h2 i x hx;exact ⟨z,by simpa using k1,k2⟩
section
variable{H:Type}{enc:TypeId×Value→H}{P:Program}{W:World}{base:Nat}{spare:Nat→Bool}{held:Bool}
theorem wZ{fuel:Nat}{t:TypeId}{fs:Array Field}{cs:List Value}{x:DataW H×List MemPlace}(ht:P.underlying t=some (.struct fs))(h:DataW.trod enc P W base spare held (fuel+1) t cs=some x) :
  cs.length=P.cellsOf t∧∀f∈fs.toList,∃y,DataW.trod enc P W base spare held fuel f.type ((cs.drop f.offset).take (P.cellsOf f.type))=some y:=by
 unfold DataW.trod at h
 rw [ht] at h
 dsimp only at h
 split at h
 ·rename_i hl
  refine ⟨hl,fun f hf=>?_⟩
  cases hm:(fs.toList.mapM fun f=>DataW.trod enc P W base spare held fuel f.type ((cs.drop f.offset).take (P.cellsOf f.type))) with
  |none=>rw [hm] at h;cases h
  |some ys=>exact mapM_mem hm f hf
 ·cases h
theorem BF{g:TypeId→Option (List FK)}:∀l:List Field,l.foldl (qy P g) none=none
 | []=>rfl
 |f :: l=>by rw [List.foldl_cons];exact BF l
theorem jq:∀(n fuel:Nat) (t:TypeId) (cs:List Value) (x:DataW H×List MemPlace) (ks:List FK),DataW.trod enc P W base spare held fuel t cs=some x→qA P n t=some ks→TW ks cs
 |0,fuel,t,cs,x,ks,h,k=>by cases k
 |n+1,0,t,cs,x,ks,h,k=>by cases h
 |n+1,fuel+1,t,cs,x,ks,h,k=>by
  unfold qA at k
  split at k
  ·rename_i κ ht
   cases k
   unfold DataW.trod at h
   rw [ht] at h
   split at h<;>first|(rename_i e;cases e;done)|(cases h;done)|skip
   all_goals first|(rename_i e;cases e)|skip
   split at h
   ·rename_i hk
    cases h
    refine ⟨rfl,fun i k hk'=>?_⟩
    cases i with
    |zero=>simp at hk';subst hk';exact ⟨_,rfl,_,by rw [hk.1],hk.2⟩
    |succ i=>simp at hk'
   ·cases h
  ·rename_i ht
   cases k
   unfold DataW.trod at h
   rw [ht] at h
   split at h<;>first|(rename_i e;cases e;done)|(cases h;done)|skip
   all_goals first|(rename_i e;cases e)|skip
   refine ⟨rfl,fun i k hk'=>?_⟩
   cases i with
   |zero=>simp at hk';subst hk';exact ⟨_,rfl,_,rfl⟩
   |succ i=>simp at hk'
  ·rename_i fs ht
   obtain ⟨h1,h2⟩:=wZ ht h
   split at k
   ·rename_i l hl
    split at k
    ·rename_i hlen
     cases k
     refine ⟨h1.trans hlen.symm,?_⟩
     have key:∀(gs:List Field) (l₀:List FK),(∀f∈gs,∃y,DataW.trod enc P W base spare held fuel f.type ((cs.drop f.offset).take (P.cellsOf f.type))=some y) →
       (∀(i:Nat) k,l₀[i]? = some k→∃v,cs[i]? = some v∧k.ok v)→gs.foldl (qy P (qA P n)) (some l₀)=some ks→∀(i:Nat) k,ks[i]? = some k→∃v,cs[i]? = some v∧k.ok v:=by
      intro gs
      induction gs with
      |nil=>intro l₀ _ h0 he;cases he;exact h0
      |cons f gs ih=>
       intro l₀ hg h0 he
       rw [List.foldl_cons] at he
       cases hs:qy P (qA P n) (some l₀) f with
       |none=>rw [hs,BF] at he;cases he
       |some l₁=>
        rw [hs] at he
        refine ih l₁ (fun f' hf'=>hg f' (.tail _ hf')) ?_ he
        unfold qy at hs
        dsimp only at hs
        split at hs
        ·rename_i hoff
         split at hs
         ·rename_i kf hkf
          split at hs
          ·rename_i hkl
           cases hs
           obtain ⟨y,hy⟩:=hg f (.head _)
           have hF:=jq n fuel f.type _ y kf hy hkf
           intro i k hik
           by_cases hi:i < l₀.length
           ·rw [List.getElem?_append_left hi] at hik;exact h0 i k hik
           ·rw [List.getElem?_append_right (by omega)] at hik
            obtain ⟨v,hv,hok⟩:=hF.2 _ k hik
            have hlt:i - l₀.length < kf.length:=(List.getElem?_eq_some_iff.1 hik).1
            rw [List.getElem?_take_of_lt (by omega),List.getElem?_drop,hoff] at hv
            exact ⟨v,by rw [show i=l₀.length+(i - l₀.length) by omega];exact hv,hok⟩
          ·cases hs
         ·cases hs
        ·cases hs
     exact key fs.toList [] h2 (fun i k hk=>by simp at hk) hl
    ·cases k
   ·cases k
  ·cases k
theorem trod_slice{fuel:Nat}{t e:TypeId}{v:Value}{x:DataW H×List MemPlace}{ks:List FK}{d:Nat}(ht:P.underlying t=some (.slice e))(hk:qA P d e=some ks)(hc:P.cellsOf e=ks.length)(hpos:0 < ks.length)(h:DataW.trod enc P W base spare held fuel t [v]=some x) :
  v = .slice none 0 0∨∃a n c,v = .slice (some a) n c∧n≤c∧c≤maxLen∧∀i,i < n→a.spot=none∧∃C E g,W.heap[a.block]? = some (.cells C E g)∧∃cs:List Value,cs.length=ks.length∧TW ks cs∧∀j,j < ks.length→C[a.off+i * ks.length+j]? = cs[j]? :=by
 cases fuel with
 |zero=>cases h
 |succ fuel=>
  unfold DataW.trod at h
  rw [ht] at h
  split at h<;>first|(rename_i e1;cases e1;done)|(rename_i e1 e2;cases e1;done)|skip
  all_goals first|(cases h;done)|skip
  ·rename_i e1 e2;cases e2;exact .inl rfl
  ·rename_i e1 e2
   cases e1
   cases e2
   right
   rename_i a n c
   refine ⟨a,n,c,rfl,?_⟩
   dsimp only at h
   split at h
   ·rename_i hb
    refine ⟨hb.2.1,hb.2.2,fun i hi=>?_⟩
    cases hm:((List.range n).mapM fun i=>(W.cells? base (a.add (i * P.cellsOf e)) (P.cellsOf e)).bind (DataW.trod enc P W base spare held fuel e)) with
    |none=>rw [hm] at h;cases h
    |some ys=>
     obtain ⟨y,hy⟩:=mapM_mem hm i (List.mem_range.2 hi)
     cases hcs:W.cells? base (a.add (i * P.cellsOf e)) (P.cellsOf e) with
     |none=>rw [hcs] at hy;cases hy
     |some cs=>
      rw [hcs] at hy
      have hF:=jq d fuel e cs y ks hy hk
      unfold World.cells? at hcs
      split at hcs
      ·obtain ⟨g1,g2⟩:=zy hcs
       have cellAt:∀j,j < ks.length→∃v,cs[j]? = some v∧W.cell? ((a.add (i * P.cellsOf e)).add j)=some v:=fun j hj=>by
        obtain ⟨v,k1,k2⟩:=g2 j j (by rw [List.getElem?_range];omega)
        exact ⟨v,k1,k2⟩
       have spot:a.spot=none:=by
        obtain ⟨y0,hy0⟩:=mapM_mem hm 0 (List.mem_range.2 (by omega))
        cases hcs0:W.cells? base (a.add (0 * P.cellsOf e)) (P.cellsOf e) with
        |none=>rw [hcs0] at hy0;cases hy0
        |some cs0=>
         unfold World.cells? at hcs0
         split at hcs0
         ·obtain ⟨_,q2⟩:=zy hcs0
          obtain ⟨v,_,k2⟩:=q2 0 0 (by rw [List.getElem?_range];omega)
          rw [Nat.zero_mul] at k2
          have:(a.add 0).add 0=a:=rfl
          rw [this] at k2
          unfold World.cell? at k2
          split at k2
          ·split at k2
           ·cases k2
           ·rename_i hs;simpa using hs
          ·cases k2
         ·cases hcs0
       refine ⟨spot,?_⟩
       have ha:∀j,(a.add (i * P.cellsOf e)).add j=⟨a.block,a.off+i * P.cellsOf e+j,none⟩:=fun j=>by
        obtain ⟨b,off,sp⟩:=a
        dsimp only at spot
        subst spot
        rw [add_plain,add_plain]
       obtain ⟨v0,_,hv0⟩:=cellAt 0 hpos
       rw [ha] at hv0
       unfold World.cell? at hv0
       dsimp only at hv0
       split at hv0
       ·rename_i C E g hC
        refine ⟨C,E,g,hC,cs,hF.1,hF,fun j hj=>?_⟩
        obtain ⟨v,k1,k2⟩:=cellAt j hj
        rw [ha] at k2
        unfold World.cell? at k2
        dsimp only at k2
        rw [hC] at k2
        rw [k1,←hc]
        exact k2
       ·cases hv0
      ·cases hcs
   ·cases h
end
end Go.Am
namespace Go.Am
noncomputable def fieldsOf(P:Program)(t:TypeId):List (TypeId×Nat):=match P.underlying t with
 |some (.struct fs)=>fs.toList.map fun f=>(f.type,f.offset)
 |_=>[]
section
variable{H:Type}{enc:TypeId×Value→H}{P:Program}{W:World}{base:Nat}{spare:Nat→Bool}{held:Bool}
theorem Yw{fuel:Nat}{t:TypeId}{cs:List Value}{x:DataW H×List MemPlace}{l:List (TypeId×Nat)}(hf:fieldsOf P t=l)(h:DataW.trod enc P W base spare held (fuel+1) t cs=some x){ty:TypeId}{off:Nat}(hm:(ty,off)∈l) :
  ∃y,DataW.trod enc P W base spare held fuel ty ((cs.drop off).take (P.cellsOf ty))=some y:=by
 unfold fieldsOf at hf
 split at hf
 ·rename_i fs ht
  subst hf
  obtain ⟨f,hf,e⟩:=List.mem_map.1 hm
  cases e
  exact (wZ ht h).2 f hf
 ·subst hf;cases hm
theorem TY{same:TypeId→Bool}:∀(d:Nat) {e:TypeId} {count off n:Nat},rowAt P same d e count off n=true→off≤count * P.cellsOf e
 |0,e,count,off,n,h=>by cases h
 |d+1,e,count,off,n,h=>by
  unfold rowAt at h
  dsimp only at h
  split at h
  ·cases h
  ·rename_i hs
   have hpos:0 < P.cellsOf e:=Nat.pos_of_ne_zero hs
   have hdm:=Nat.div_add_mod off (P.cellsOf e)
   have hml:=Nat.mod_lt off hpos
   rw [Bool.or_eq_true] at h
   rcases h with h|h
   ·simp only [Bool.and_eq_true,beq_iff_eq,decide_eq_true_eq] at h
    have h1:off / P.cellsOf e≤count:=by omega
    have h2:=Nat.mul_le_mul_right (P.cellsOf e) h1
    rw [Nat.mul_comm] at hdm
    omega
   ·rw [Bool.and_eq_true,decide_eq_true_eq] at h
    have h1:off / P.cellsOf e+1≤count:=h.1
    have h2:=Nat.mul_le_mul_right (P.cellsOf e) h1
    rw [Nat.add_mul,Nat.one_mul] at h2
    rw [Nat.mul_comm] at hdm
    omega
theorem BG:∀(d:Nat) {e u:TypeId} {count off n:Nat},liesAt P d e count off u n=true→off≤count * P.cellsOf e
 |0,e,u,count,off,n,h=>by cases h
 |d+1,e,u,count,off,n,h=>by
  unfold liesAt at h
  rw [Bool.or_eq_true] at h
  rcases h with h|h
  ·exact TY _ h
  ·split at h
   ·exact BG d h
   ·cases h
theorem Qm{r:Reach}{b0:Nat}{a:Addr}{e:TypeId}{n:Nat}(h:W.has P r b0 a e n):a.spot=none∧∃C E g,W.heap[a.block]? = some (.cells C E g)∧a.off≤C.size:=by
 obtain ⟨_,hs,row,cells,hsh,hl⟩:=h
 refine ⟨hs,?_⟩
 unfold World.shape? at hsh
 split at hsh
 ·rename_i c elem f hb
  cases hsh
  refine ⟨c,_,f,hb,Nat.le_trans (BG _ hl) (Nat.div_mul_le_self _ _)⟩
 ·cases hsh
theorem ZQ{C:Array Value}{ks:List FK}:∀(n off:Nat),(∀i,i < n→∃cs:List Value,TW ks cs∧∀j,j < ks.length→C[off+i * ks.length+j]? = cs[j]?) →
  ∃els:List (List Value),els.length=n∧(∀e∈els,TW ks e)∧∀(i:Nat) v,els.flatten[i]? = some v→C[off+i]? = some v
 |0,off,h=>⟨[],rfl,fun e he=>absurd he List.not_mem_nil,fun i v hv=>by simp at hv⟩
 |n+1,off,h=>by
  obtain ⟨cs,h1,h2⟩:=h 0 (by omega)
  obtain ⟨els,k1,k2,k3⟩:=ZQ n (off+ks.length) fun i hi=>by
   obtain ⟨cs,q1,q2⟩:=h (i+1) (by omega)
   exact ⟨cs,q1,fun j hj=>by rw [←q2 j hj,Nat.add_mul,Nat.one_mul];congr 1;omega⟩
  refine ⟨cs :: els,by simp [k1],fun e he=>?_,fun i v hv=>?_⟩
  ·rcases List.mem_cons.1 he with rfl|he
   ·exact h1
   ·exact k2 e he
  ·rw [List.flatten_cons] at hv
   by_cases hi:i < cs.length
   ·rw [List.getElem?_append_left hi] at hv
    have:=h2 i (by rw [←h1.1];exact hi)
    rw [Nat.zero_mul,Nat.add_zero] at this
    rw [this];exact hv
   ·rw [List.getElem?_append_right (by omega)] at hv
    have:=k3 _ v hv
    rw [h1.1] at this hi
    rw [←this];congr 1;omega
structure Sl(W:World)(ks:List FK)(v:Value)(o:Option Addr)(n c:Nat)(els:List (List Value)):Prop where
 len:els.length=n
 fk:∀e∈els,TW ks e
 val:v = .slice o n c
 lies:∀a,o=some a→a.spot=none∧∃C E g,W.heap[a.block]? = some (.cells C E g)∧a.off+els.flatten.length≤C.size∧∀(i:Nat) v,els.flatten[i]? = some v→C[a.off+i]? = some v
 nil:o=none→n=0
theorem TZ{r:Reach}{b0 fuel d:Nat}{t e:TypeId}{v:Value}{x:DataW H×List MemPlace}{ks:List FK}(ht:P.underlying t=some (.slice e))(hk:qA P d e=some ks)(hc:P.cellsOf e=ks.length)(hpos:0 < ks.length)
  (h:DataW.trod enc P W base spare held fuel t [v]=some x) (hok:Cell.okWide P W r b0 t v):∃o n c els,Sl W ks v o n c els:=by
 rcases trod_slice ht hk hc hpos h with rfl|⟨a,n,c,rfl,hn,hm,hel⟩
 ·exact ⟨none,0,0,[],rfl,fun e he=>absurd he List.not_mem_nil,rfl,fun a e=>(by cases e),fun _=>rfl⟩
 ·have hh:W.has P r b0 a e c:=by
   unfold Cell.okWide at hok
   rw [ht] at hok
   dsimp only at hok
   unfold Cell.ok at hok
   rw [ht] at hok
   exact hok.2.2
  obtain ⟨hs,C,E,g,hb,hoff⟩:=Qm hh
  obtain ⟨els,k1,k2,k3⟩:=ZQ (C:=C) (ks:=ks) n a.off fun i hi=>by
   obtain ⟨_,C',E',g',hb',cs,q1,q2,q3⟩:=hel i hi
   rw [hb] at hb'
   cases hb'
   exact ⟨cs,q2,q3⟩
  refine ⟨some a,n,c,els,k1,k2,rfl,fun a' e=>?_,fun e=>by cases e⟩
  cases e
  refine ⟨hs,C,E,g,hb,?_,k3⟩
  by_cases hl:els.flatten.length=0
  ·omega
  ·have h1:els.flatten.length - 1 < els.flatten.length:=by omega
   have:=k3 (els.flatten.length - 1) _ (List.getElem?_eq_getElem h1)
   have:=(Array.getElem?_eq_some_iff.1 this).1
   omega
end
def slO(b:Nat)(o:Option Addr):Option Addr:=match o with
 |some _=>some ⟨b,0,none⟩
 |none=>none
def rG(d:Nat×Nat)(o:Option Addr):Nat×Nat:=match o with
 |some a=>(a.block,a.off)
 |none=>d
theorem Sl.vr{W:World}{ks:List FK}{v:Value}{o:Option Addr}{n c b:Nat}{els:List (List Value)}{ρ:Env}{d:Nat×Nat}(S:Sl W ks v o n c els)(hb:o≠none→ρ.born b)(ht:ρ.to b=rG d o):VR ρ (.slice (slO b o) n c) v:=by
 rw [S.val]
 cases o with
 |none=>exact .nilslice n c
 |some a=>
  obtain ⟨hs,_⟩:=S.lies a rfl
  have e:a=ρ.addr ⟨b,0,none⟩:=by
   obtain ⟨bb,off,sp⟩:=a
   dsimp only at hs
   subst hs
   have:ρ.to b=(bb,off):=ht
   simp [Env.addr,this]
  conv=>rhs;rw [e]
  exact .slice (hb (by simp)) (.inl rfl)
end Go.Am
namespace Go.Am
open Go.Proofs
abbrev i64:FK:=.int .i64
theorem fk1{e:List Value}{k:IntKind}(h:TW [.int k] e):∃a,e=[.int k a]∧(Lit.int k a).wf=true:=by
 obtain ⟨hl,h⟩:=h
 rcases e with _|⟨x,_|_⟩<;>simp at hl
 obtain ⟨v,h1,a,rfl,hw⟩:=h 0 _ rfl
 simp at h1
 exact ⟨a,by rw [h1],hw⟩
theorem fk3{e:List Value}(h:TW [i64,i64,i64] e):∃a b c,e=[.int .i64 a,.int .i64 b,.int .i64 c]:=by
 obtain ⟨hl,h⟩:=h
 rcases e with _|⟨x,_|⟨y,_|⟨z,_|_⟩⟩⟩<;>simp at hl
 obtain ⟨v,h1,a,rfl,_⟩:=h 0 _ rfl
 obtain ⟨w,h2,b,rfl,_⟩:=h 1 _ rfl
 obtain ⟨w,h3,c,rfl,_⟩:=h 2 _ rfl
 simp at h1 h2 h3
 exact ⟨a,b,c,by rw [h1,h2,h3]⟩
theorem fk2{e:List Value}(h:TW [i64,i64] e):∃a b,e=[.int .i64 a,.int .i64 b]:=by
 obtain ⟨hl,h⟩:=h
 rcases e with _|⟨x,_|⟨y,_|_⟩⟩<;>simp at hl
 obtain ⟨v,h1,a,rfl,_⟩:=h 0 _ rfl
 obtain ⟨w,h2,b,rfl,_⟩:=h 1 _ rfl
 simp at h1 h2
 exact ⟨a,b,by rw [h1,h2]⟩
theorem ac3:∀els:List (List Value),(∀e∈els,TW [i64,i64] e)→∃pts,els.flatten=mM pts∧pts.length=els.length
 | [],h=>⟨[],rfl,rfl⟩
 |e :: r,h=>by
  obtain ⟨a,b,rfl⟩:=fk2 (h e (.head _))
  obtain ⟨pts,h1,h2⟩:=ac3 r fun e he=>h e (.tail _ he)
  exact ⟨(a,b) :: pts,by rw [List.flatten_cons,h1];rfl,by simp [h2]⟩
theorem ac4:∀els:List (List Value),(∀e∈els,TW [i64,i64,i64] e)→∃pts,els.flatten=encR pts∧pts.length=els.length
 | [],h=>⟨[],rfl,rfl⟩
 |e :: r,h=>by
  obtain ⟨a,b,c,rfl⟩:=fk3 (h e (.head _))
  obtain ⟨pts,h1,h2⟩:=ac4 r fun e he=>h e (.tail _ he)
  exact ⟨(a,b,c) :: pts,by rw [List.flatten_cons,h1];rfl,by simp [h2]⟩
theorem ac5:∀els:List (List Value),(∀e∈els,TW [.int .u16] e)→∃ks,els.flatten=kU ks∧ks.length=els.length∧∀n∈ks,0≤n∧n≤65535
 | [],h=>⟨[],rfl,rfl,fun n h=>absurd h List.not_mem_nil⟩
 |e :: r,h=>by
  obtain ⟨a,rfl,hw⟩:=fk1 (h e (.head _))
  obtain ⟨ks,h1,h2,h3⟩:=ac5 r fun e he=>h e (.tail _ he)
  refine ⟨a :: ks,by rw [List.flatten_cons,h1];rfl,by simp [h2],fun n hn=>?_⟩
  rcases List.mem_cons.1 hn with rfl|hn
  ·simpa [Lit.wf,IntKind.min,IntKind.max,IntKind.signed,IntKind.bits] using hw
  ·exact h3 n hn
section
variable{run scale follow bite wrong:Int}{ot ok:Option Addr}{cp ct ck:Nat}{eU:List (Int×Int×Int)}{ks:List Int}
theorem afm(pts:List (Int×Int))(hl:3≤pts.length∧pts.length≤6)(hot:vI 1 eU.length ot)(hok:vI 3 ks.length ok)(hks:∀n∈ks,0≤n∧n≤65535) :
  ay Tryz.prog (fun s=>aG (Tryz.X []) 3 5 s=true) ⟨aF.enter Tryz.prog 3 ⟨[bm run scale follow bite wrong (some ⟨0,0,none⟩) pts.length cp ot eU.length ct,.slice ok ks.length ck]⟩,[],di 4 (L4 ⟨mM pts⟩ ⟨encR eU⟩ ⟨[]⟩ ⟨kU ks⟩)⟩:=by
 match pts,hl with
 | [(l0,u0),(l1,u1),(l2,u2)],_=>exact afh hot hok hks
 | [(l0,u0),(l1,u1),(l2,u2),(l3,u3)],_=>exact afi hot hok hks
 | [(l0,u0),(l1,u1),(l2,u2),(l3,u3),(l4,u4)],_=>exact afj hot hok hks
 | [(l0,u0),(l1,u1),(l2,u2),(l3,u3),(l4,u4),(l5,u5)],_=>exact afk hot hok hks
end
theorem Hl{W:World}{ks:List FK}{v:Value}{o:Option Addr}{n c b:Nat}{els:List (List Value)}(S:Sl W ks v o n c els):vI b n (slO b o):=by
 refine ⟨fun hn=>?_,fun a e=>?_⟩
 ·cases o with
  |none=>exact absurd (S.nil rfl) hn
  |some a=>rfl
 ·cases o with
  |none=>cases e
  |some a'=>cases e;rfl
theorem Ua{ρ:Env}:∀ {l m:List Value},LR (VR ρ) l m→AR (VR ρ) (⟨l⟩:Array Value) ⟨m⟩
 | [],[],_=>⟨rfl,fun i x y hx _=>by simp at hx⟩
 |a :: l,b :: m,.cons h k=>by
  obtain ⟨h1,h2⟩:=Ua k
  have hsz:l.length=m.length:=by simpa using h1
  refine ⟨by simp [hsz],fun i x y hx hy=>?_⟩
  cases i with
  |zero=>simp at hx hy;subst hx;subst hy;exact h
  |succ i=>exact h2 i x y (by simpa using hx) (by simpa using hy)
end Go.Am
namespace Go.Am
open Go.Proofs
open Go.Conc (G)
open Go.Ren (aA Keep full)
theorem aba{W:World}{ks:List FK}{v:Value}{o:Option Addr}{n c:Nat}{els:List (List Value)}{l:List Value}{d:Nat×Nat}(S:Sl W ks v o n c els)(hl:els.flatten=l)(hd:∃C E g,W.heap[d.1]? = some (.cells C E g)∧d.2≤C.size) :
  ∃C E,(∃g,W.heap[(rG d o).1]? = some (.cells C E g))∧(rG d o).2+(⟨l⟩:Array Value).size≤C.size∧∀(i:Nat) v,(⟨l⟩:Array Value)[i]? = some v→C[(rG d o).2+i]? = some v:=by
 subst hl
 cases o with
 |none=>
  have:els=[]:=List.eq_nil_of_length_eq_zero (S.len.trans (S.nil rfl))
  subst this
  obtain ⟨C,E,g,h1,h2⟩:=hd
  exact ⟨C,E,⟨g,h1⟩,by simpa [rG] using h2,fun i v hv=>by simp at hv⟩
 |some a=>
  obtain ⟨_,C,E,g,h1,h2,h3⟩:=S.lies a rfl
  exact ⟨C,E,⟨g,h1⟩,by simpa [rG] using h2,fun i v hv=>h3 i v (by simpa using hv)⟩
theorem xG{W:World}{ks:List FK}{v:Value}{o:Option Addr}{n c:Nat}{els:List (List Value)}{d:Nat×Nat}(S:Sl W ks v o n c els)(h:o≠none):(rG d o).1 < W.heap.size:=by
 cases o with
 |none=>exact absurd rfl h
 |some a=>
  obtain ⟨_,C,E,g,h1,_⟩:=S.lies a rfl
  exact (Array.getElem?_eq_some_iff.1 h1).1
def Yx(d:Nat×Nat)(o0 o1 o2 o3:Option Addr)(b:Nat):Nat×Nat:=match b with
 |0=>rG d o0
 |1=>rG d o1
 |2=>rG d o2
 |_=>rG d o3
theorem ac6{pc tc sc kc:Array Value}{b:Nat}{B:bg}(h:(di 4 (L4 pc tc sc kc)).look b=some B):(b=0∧B=Vh (bk pc))∨(b=1∧B=Vh (bk tc))∨(b=2∧B=Vh (bk sc))∨(b=3∧B=Vh (bk kc)):=by
 have:=Dk _ (fB h)
 simp only [L4,List.map_cons,List.map_nil,List.mem_cons,Prod.mk.injEq,List.not_mem_nil,or_false] at this
 exact this
theorem straight{W:World}{run scale follow bite wrong:Int}{v0 v1 v3:Value}{o0 o1 o3:Option Addr}{n0 n1 n3 c0 c1 c3:Nat}{e0 e1 e3:List (List Value)}(S0:Sl W [i64,i64] v0 o0 n0 c0 e0)(S1:Sl W [i64,i64,i64] v1 o1 n1 c1 e1)(S3:Sl W [.int .u16] v3 o3 n3 c3 e3)
  {Post:Value→World→Prop} {K:Machine→Trace→Prop} (U5:Dt Tryz.prog Tryz.link 5 (Go.Conc.Good Tryz.prog Post)) (hP:∀w',Keep (fun b=>b < W.heap.size) W w' → Post (.bool true) w') :
  aA Tryz.prog (Go.Conc.Good Tryz.prog Post) K (Go.Conc.solo (G (Frame.enter Tryz.prog 3 ⟨[.agg ⟨[.int .i64 run,.int .i64 scale,.int .i64 follow,.int .i64 bite,.int .i64 wrong,v0,v1]⟩,v3]⟩ .normal) []) W) #[]:=by
 obtain ⟨pts,d0,l0⟩:=ac3 e0 S0.fk
 obtain ⟨eU,d1,l1⟩:=ac4 e1 S1.fk
 obtain ⟨ks,d3,l3,hks⟩:=ac5 e3 S3.fk
 have m0:pts.length=n0:=l0.trans S0.len
 have m1:eU.length=n1:=l1.trans S1.len
 have m3:ks.length=n3:=l3.trans S3.len
 have args {ρ:Env} {d:Nat×Nat} (b0:o0≠none→ρ.born 0) (b1:o1≠none→ρ.born 1) (b3:o3≠none→ρ.born 3) (ht:ρ.to=Yx d o0 o1 none o3) :
   AR (VR ρ) (⟨[bm run scale follow bite wrong (slO 0 o0) n0 c0 (slO 1 o1) n1 c1,.slice (slO 3 o3) n3 c3]⟩:Array Value) ⟨[.agg ⟨[.int .i64 run,.int .i64 scale,.int .i64 follow,.int .i64 bite,.int .i64 wrong,v0,v1]⟩,v3]⟩:=by
  have k:=Ua (ρ:=ρ) (.cons (.int .i64 run) (.cons (.int .i64 scale) (.cons (.int .i64 follow) (.cons (.int .i64 bite) (.cons (.int .i64 wrong) (.cons (S0.vr (d:=d) b0 (by rw [ht];rfl)) (.cons (S1.vr (d:=d) b1 (by rw [ht];rfl)) .nil)))))))
  exact Ua (.cons (.agg k.1 k.2) (.cons (S3.vr (d:=d) b3 (by rw [ht];rfl)) .nil))
 have fin {ρ:Env} {hA:AH} (hr:Rel ρ (fun _=>False) (fun b=>b < W.heap.size) hA W) {av:Array Value} (ha:AR (VR ρ) av ⟨[.agg ⟨[.int .i64 run,.int .i64 scale,.int .i64 follow,.int .i64 bite,.int .i64 wrong,v0,v1]⟩,v3]⟩)
   (R:ay Tryz.prog (fun s=>aG (Tryz.X []) 3 5 s=true) ⟨aF.enter Tryz.prog 3 av,[],hA⟩):aA Tryz.prog (Go.Conc.Good Tryz.prog Post) K (Go.Conc.solo (G (Frame.enter Tryz.prog 3 ⟨[.agg ⟨[.int .i64 run,.int .i64 scale,.int .i64 follow,.int .i64 bite,.int .i64 wrong,v0,v1]⟩,v3]⟩ .normal) []) W) #[]:=
  KI (X:=Tryz.X []) (Tryz.ok dM) R U5 (by kernel_rfl) (by kernel_rfl) hP (Sr.start hr ha)
 by_cases hnp:3≤n0∧n0≤6
 ·obtain ⟨a,rfl⟩:∃a,o0=some a:=by
   cases o0 with
   |none=>have:=S0.nil rfl;omega
   |some a=>exact ⟨a,rfl⟩
  have hd:∃C E g,W.heap[(a.block,a.off).1]? = some (.cells C E g)∧(a.block,a.off).2≤C.size:=by
   obtain ⟨_,C,E,g,h1,h2,_⟩:=S0.lies a rfl
   exact ⟨C,E,g,h1,by dsimp only;omega⟩
  have hlt:a.block < W.heap.size:=by
   obtain ⟨C,E,g,h1,_⟩:=hd
   exact (Array.getElem?_eq_some_iff.1 h1).1
  have lt (o:Option Addr) {ks:List FK} {v:Value} {n c:Nat} {els:List (List Value)} (S:Sl W ks v o n c els):(rG (a.block,a.off) o).1 < W.heap.size:=by
   cases o with
   |none=>exact hlt
   |some b=>exact xG S (by simp)
  have hlow:∀b,b < 4→(Yx (a.block,a.off) (some a) o1 none o3 b).1 < W.heap.size:=fun b hb=>by
   match b,hb with
   |0,_=>exact lt _ S0
   |1,_=>exact lt _ S1
   |2,_=>exact hlt
   |3,_=>exact lt _ S3
  have hr:Rel (Vb (Yx (a.block,a.off) (some a) o1 none o3) (di 4 (L4 ⟨mM pts⟩ ⟨encR eU⟩ ⟨[]⟩ ⟨kU ks⟩))) (fun _=>False) (fun b=>b < W.heap.size) (di 4 (L4 ⟨mM pts⟩ ⟨encR eU⟩ ⟨[]⟩ ⟨kU ks⟩)) W:=by
   refine SX (fun b B hb=>?_) rfl hlow
   have one {o:Option Addr} {ks:List FK} {v:Value} {n c:Nat} {els:List (List Value)} {l:List Value} (S:Sl W ks v o n c els) (hl:els.flatten=l) (hp:∀x∈l,Plain x) :
     (Vh (bk ⟨l⟩)).UA∧∃c e f C E,(Vh (bk ⟨l⟩)).obj = .cells c e f∧(∃g,W.heap[(rG (a.block,a.off) o).1]? = some (.cells C E g))∧(rG (a.block,a.off) o).2+c.size≤C.size∧∀(i:Nat) v,c[i]? = some v→C[(rG (a.block,a.off) o).2+i]? = some v∧Plain v:=by
    obtain ⟨C,E,h1,h2,h3⟩:=aba S hl hd
    exact ⟨⟨rfl,rfl,rfl⟩,⟨l⟩,_,_,C,E,rfl,h1,h2,fun i v hv=>⟨h3 i v hv,hp v (List.mem_of_getElem? (by simpa using hv))⟩⟩
   rcases ac6 hb with ⟨rfl,rfl⟩|⟨rfl,rfl⟩|⟨rfl,rfl⟩|⟨rfl,rfl⟩
   ·exact one S0 d0 (jl _)
   ·exact one S1 d1 (jm _)
   ·obtain ⟨C,E,g,h1,h2⟩:=hd
    exact ⟨⟨rfl,rfl,rfl⟩,⟨[]⟩,_,_,C,E,rfl,⟨g,h1⟩,by simpa [Yx,rG] using h2,fun i v hv=>by simp at hv⟩
   ·exact one S3 d3 (iG _)
  have born:∀b,b < 4→(Vb (Yx (a.block,a.off) (some a) o1 none o3) (di 4 (L4 ⟨mM pts⟩ ⟨encR eU⟩ ⟨[]⟩ ⟨kU ks⟩))).born b:=fun b hb=>hb
  refine fin hr (args (fun _=>born 0 (by decide)) (fun _=>born 1 (by decide)) (fun _=>born 3 (by decide)) rfl) ?_
  subst m0 m1 m3
  exact afm pts hnp (Hl S1) (Hl S3) hks
 ·have hr:Rel { to:=Yx (0,0) o0 o1 none o3,born:=fun b=>b < 4∧(Yx (0,0) o0 o1 none o3 b).1 < W.heap.size,bD:=fun _=>False,u:=fun _=>0,ext:=fun _=>0 } (fun _=>False) (fun b=>b < W.heap.size) (di 4 []) W:=by
   have nl:∀b B,(di 4 []).look b=some B→False:=fun b B h=>by cases h
   exact ⟨fun b B _ _ _ _ hl=>(nl b B hl).elim,fun b B _ hl=>(nl b B hl).elim,fun b B _ hl=>(nl b B hl).elim,fun b _ B _ _ _ hl=>(nl b B hl).elim,fun b hb=>hb.1,fun b hb=>hb.2,fun b B _ hl=>(nl b B hl).elim,fun f l hf=>(by cases hf),fun f l hf=>(by cases hf)⟩
  refine fin hr (args (d:=(0,0)) (fun h=>⟨by decide,xG S0 h⟩) (fun h=>⟨by decide,xG S1 h⟩) (fun h=>⟨by decide,xG S3 h⟩) rfl) ?_
  exact afl hnp (Hl S0) (Hl S1)
end Go.Am
namespace Go.Am
def isStruct(P:Program)(t:TypeId):Bool:=match P.underlying t with
 |some (.struct _)=>true
 |_=>false
section
variable{H:Type}{enc:TypeId×Value→H}{P:Program}{W:World}{base:Nat}{spare:Nat→Bool}{held:Bool}
theorem Qn{t:TypeId}{l:List (TypeId×Nat)}{ts:List TypeId}{n:Nat}{v:Value}{d:DataW H}{p:List MemPlace}{r:Reach}{b0:Nat}(hs:isStruct P t=true)(hf:fieldsOf P t=l)(hc:P.cellTypes P.depth t=some ts)(hn:P.cellsOf t=n)
  (hval:Value.okWide P W r b0 t v) (h:DataW.Trod enc P W base spare held t v d p) :
  ∃cs:List Value,v = .agg ⟨cs⟩∧cs.length=n∧(∀(i:Nat) x,cs[i]? = some x→∃u,ts[i % ts.length]? = some u∧Cell.okWide P W r b0 u x)∧∃fuel,∀q∈l,∃y,DataW.trod enc P W base spare held fuel q.1 ((cs.drop q.2).take (P.cellsOf q.1))=some y:=by
 unfold isStruct at hs
 split at hs
 ·rename_i fs ht
  unfold Value.okWide at hval
  rw [ht] at hval
  obtain ⟨cs,rfl,hsz,ts',h1,_,h2⟩:=hval
  rw [hc] at h1
  cases h1
  obtain ⟨fuel,h⟩:=h
  cases fuel with
  |zero=>unfold DataW.trod at h;cases h
  |succ k=>
   obtain ⟨cs⟩:=cs
   exact ⟨cs,rfl,by rw [←hn];simpa using hsz,fun i x hx=>h2 i x (by simpa using hx),k,fun q hq=>Yw hf h hq⟩
 ·cases hs
theorem Qo{W W':World}{p:MemPlace}(h:W'.heap[p.block]? = W.heap[p.block]?):W.sameAt W' p:=by
 cases p with
 |cell b off=>
  show W'.cell? ⟨b,off,none⟩=W.cell? ⟨b,off,none⟩
  unfold World.cell?
  have h:W'.heap[b]? = W.heap[b]? :=h
  rw [h]
 |map b=>exact h
theorem xe{t:TypeId}(hl:laidOutB P=true)(hr:P.readableRec t=true)(hrow:t < P.types.size){W':World}{v:Value}{d:DataW H}{ps:List MemPlace}
  (h:DataW.Trod enc P W base (fun _=>true) true t v d ps) (hlt:∀q∈ps,q.block < W.heap.size) (hk:∀b,b < W.heap.size→W'.heap[b]? = W.heap[b]?) :
  DataW.Trod enc P W' base (fun b=>decide (b < W.heap.size)) true t v d ps:=
 WideElems.Trod_stays hl hr hrow h (fun q hq=>Qo (hk _ (hlt q hq))) (fun q hq=>decide_eq_true (hlt q hq))
end
end Go.Am
namespace Go.Proofs.YtgfjlblikffnaaaGreat
open Go.ChangeShapes Go.WideShapes Go.ChangeAt Go.RowKit
open Go.Ren (Keep)
theorem own:ownKnob Tryz.prog.godebug=Option.none:=by kernel_rfl
theorem kept{W w':World}(h:Keep (fun b=>b < W.heap.size) W w')(may:MemPlace→Prop):W.keptBut w' may:=by
 refine ⟨h.2.2.1,h.2.2.2,fun i hi=>?_⟩
 show match W.heap[i]?,w'.heap[i]? with
  |some (.cells c t fr),some (.cells c' t' fr')=>t' = t∧fr' = fr∧c'.size=c.size∧∀j:Nat,¬may (.cell i j)→c'[j]? = c[j]?
  |some (.map es clock),some (.map es' clock')=>may (.map i)∨(es' = es∧clock' = clock)
  |o,o'=>o' = o
 rw [h.1 i hi]
 split<;>simp_all
theorem laidOut:laidOutB Tryz.prog=true:=by kernel_rfl
theorem stB:Go.Am.isStruct Tryz.prog 25=true:=by kernel_rfl
theorem fdB:Go.Am.fieldsOf Tryz.prog 25=[(3,0),(3,1),(3,2),(3,3),(3,4),(22,5),(23,6)]:=by kernel_rfl
theorem ctB:Tryz.prog.cellTypes Tryz.prog.depth 25=some [3,3,3,3,3,22,23]:=by kernel_rfl
theorem czB:Tryz.prog.cellsOf 25=7:=by kernel_rfl
theorem czI:Tryz.prog.cellsOf 3=1:=by kernel_rfl
theorem czO:Tryz.prog.cellsOf 22=1:=by kernel_rfl
theorem czR:Tryz.prog.cellsOf 23=1:=by kernel_rfl
theorem flI:Go.Am.qA Tryz.prog 4 3=some [Go.Am.i64]:=by kernel_rfl
theorem flO:Go.Am.qA Tryz.prog 4 50=some [Go.Am.i64,Go.Am.i64]:=by kernel_rfl
theorem flR:Go.Am.qA Tryz.prog 4 61=some [Go.Am.i64,Go.Am.i64,Go.Am.i64]:=by kernel_rfl
theorem flK:Go.Am.qA Tryz.prog 4 63=some [.int .u16]:=by kernel_rfl
set_option maxRecDepth 100000 in
theorem lifted(U5:∀Post,Go.Am.Dt Tryz.prog Go.Am.Tryz.link 5 (Go.Conc.Good Tryz.prog Post))(os:Os)(started:os.Started)(H:Type)(enc:TypeId×Value→H) :
  ReturnsInLeavingWide {} Tryz.checked os 3 .any (Rows.bevelRoundedSpec.pre6 enc Tryz.prog Tryz.f3 Rows.bevelRoundedRow.domain false) (Rows.bevelRoundedSpec.post enc Tryz.prog Tryz.f3 false Rows.bevelRoundedRow.fresh Rows.bevelRoundedRow.handsOn Rows.bevelRoundedRow.again):=by
 refine returnsInLeavingWide_of_change_sized (C:=Tryz.checked) own started Tryz.func3
  (ChangeSpec.witness6 (enc:=enc) (C:=Tryz.checked) false ⟨#[],#[.agg #[.int .i64 0,.int .i64 0,.int .i64 0,.int .i64 0,.int .i64 0,.slice none 0 0,.slice none 0 0],.slice none 0 0],[]⟩ 8 (by kernel_rfl) (by kernel_rfl) (by kernel_rfl) (by kernel_rfl)) ?_
 intro W base args ds gs before hval0 hW hcnd _ _
 have hval:∀(j:Nat) t v,Tryz.f3.params[j]? = some t→args[j]? = some v→Value.okWide Tryz.prog W .any base t v:=hval0
 have hW' :=hW
 obtain ⟨p,q,hA0,hV,rfl,hfz,hnd⟩:=hW
 have hA:DataW.TrodAll enc Tryz.prog W 0 (fun _=>true) true Tryz.f3.params.toList args.toList ds p:=hA0
 rw [Tryz.params3] at hA hval
 obtain ⟨v0,vs0,d0,ds0,p0,q0,hargs,rfl,rfl,h0,r0⟩:=trodAll_cons hA
 obtain ⟨v1,vs1,d1,ds1,p1,q1,rfl,rfl,rfl,h1,r1⟩:=trodAll_cons r0
 obtain ⟨rfl,rfl,rfl⟩:=trodAll_nil r1
 obtain rfl:args = #[v0,v1]:=by cases args;simp_all
 obtain ⟨rfl,rfl⟩:=trodVars_none hV
 have k0:=hval 0 25 v0 rfl rfl
 have k1:=hval 1 26 v1 rfl rfl
 clear hA0 hval0
 simp only [List.append_nil] at hW'
 obtain ⟨cs,rfl,hl,hcs,fuel,ht⟩:=Go.Am.Qn stB fdB ctB czB k0 h0
 obtain ⟨c0,c1,c2,c3,c4,c5,c6,rfl⟩:∃c0 c1 c2 c3 c4 c5 c6,cs=[c0,c1,c2,c3,c4,c5,c6]:=by
  rcases cs with _|⟨c0,_|⟨c1,_|⟨c2,_|⟨c3,_|⟨c4,_|⟨c5,_|⟨c6,_|_⟩⟩⟩⟩⟩⟩⟩<;>simp at hl
  exact ⟨c0,c1,c2,c3,c4,c5,c6,rfl⟩
 obtain ⟨y0,t0⟩:=ht (3,0) (by simp)
 obtain ⟨y1,t1⟩:=ht (3,1) (by simp)
 obtain ⟨y2,t2⟩:=ht (3,2) (by simp)
 obtain ⟨y3,t3⟩:=ht (3,3) (by simp)
 obtain ⟨y4,t4⟩:=ht (3,4) (by simp)
 obtain ⟨y5,t5⟩:=ht (22,5) (by simp)
 obtain ⟨y6,t6⟩:=ht (23,6) (by simp)
 simp only [czI,List.drop,List.take] at t0
 simp only [czI,List.drop,List.take] at t1
 simp only [czI,List.drop,List.take] at t2
 simp only [czI,List.drop,List.take] at t3
 simp only [czI,List.drop,List.take] at t4
 simp only [czO,List.drop,List.take] at t5
 simp only [czR,List.drop,List.take] at t6
 obtain ⟨run,e0,_⟩:=Go.Am.fk1 (Go.Am.jq 4 fuel 3 _ _ _ t0 flI)
 cases e0
 obtain ⟨scale,e1,_⟩:=Go.Am.fk1 (Go.Am.jq 4 fuel 3 _ _ _ t1 flI)
 cases e1
 obtain ⟨follow,e2,_⟩:=Go.Am.fk1 (Go.Am.jq 4 fuel 3 _ _ _ t2 flI)
 cases e2
 obtain ⟨bite,e3,_⟩:=Go.Am.fk1 (Go.Am.jq 4 fuel 3 _ _ _ t3 flI)
 cases e3
 obtain ⟨wrong,e4,_⟩:=Go.Am.fk1 (Go.Am.jq 4 fuel 3 _ _ _ t4 flI)
 cases e4
 have u5:Cell.okWide Tryz.prog W .any base 22 c5:=by obtain ⟨u,hu,h⟩:=hcs 5 c5 rfl;cases hu;exact h
 have u6:Cell.okWide Tryz.prog W .any base 23 c6:=by obtain ⟨u,hu,h⟩:=hcs 6 c6 rfl;cases hu;exact h
 have u7:Cell.okWide Tryz.prog W .any base 26 v1:=by
  unfold Value.okWide at k1
  rw [Tryz.underlying26] at k1
  exact k1
 obtain ⟨fuel',t7⟩:=h1
 have t7':∃x,DataW.trod enc Tryz.prog W 0 (fun _=>true) true fuel' 26 [v1]=some x:=by
  refine ⟨(d1,p1),?_⟩
  rw [←t7]
  congr 1
  unfold Cell.okWide at u7
  rw [Tryz.underlying26] at u7
  cases v1<;>first|rfl|(simp [Cell.ok,Tryz.underlying26] at u7)
 obtain ⟨x7,t7'⟩:=t7'
 have hf:fuel≠0:=by rintro rfl;unfold DataW.trod at t5;cases t5
 obtain ⟨f,rfl⟩:=Nat.exists_eq_succ_of_ne_zero hf
 have hf':fuel' ≠ 0:=by rintro rfl;unfold DataW.trod at t7';cases t7'
 obtain ⟨f',rfl⟩:=Nat.exists_eq_succ_of_ne_zero hf'
 obtain ⟨o0,n0,m0,s0,S0⟩:=Go.Am.TZ Tryz.underlying22 flO (by kernel_rfl) (by decide) t5 u5
 obtain ⟨o1,n1,m1,s1,S1⟩:=Go.Am.TZ Tryz.underlying23 flR (by kernel_rfl) (by decide) t6 u6
 obtain ⟨o3,n3,m3,s3,S3⟩:=Go.Am.TZ Tryz.underlying26 flK (by kernel_rfl) (by decide) t7' u7
 refine Go.Ren.Aj ?_
 refine Go.Am.straight S0 S1 S3 (U5 _) fun w' hk=>?_
 refine ⟨_,_,_,[],p0 ++ (p1 ++ []),[],hW',trodAll_cons_mk (shut_bool Tryz.underlying4 _) trodAll_mk0,?_,rfl,kept hk _,fun h=>by cases h⟩
 refine trodAll_cons_mk (Go.Am.xe laidOut (by kernel_rfl) (of_decide_eq_true (by kernel_rfl)) h0 ?_ hk.1) (trodAll_cons_mk (Go.Am.xe laidOut (by kernel_rfl) (of_decide_eq_true (by kernel_rfl)) ⟨_,t7⟩ ?_ hk.1) trodAll_mk0)
 ·exact fun x hx=>by simpa using hW'.lt x (by simp [hx])
 ·exact fun x hx=>by simpa using hW'.lt x (by simp [hx])
theorem over(U5:∀Post,Go.Am.Dt Tryz.prog Go.Am.Tryz.link 5 (Go.Conc.Good Tryz.prog Post)):Rows.BevelRoundedSaid:=
 OpenClaim.holds_of_wide_leaving 3 Tryz.f3 rfl rfl rfl rfl rfl rfl rfl ⟨rfl,rfl,rfl,rfl,rfl⟩ rfl rfl rfl rfl rfl (by kernel_rfl) Tryz.func3 (by kernel_rfl)
  (of_decide_eq_true (by kernel_rfl)) (by unfold Func.isWrapper;first|(rw [if_pos (by decide +kernel)];kernel_rfl)|(rw [if_neg (by decide +kernel)];exact ⟨rfl,rfl⟩))
  (fun os started H enc _=>lifted U5 os started H enc)
end Go.Proofs.YtgfjlblikffnaaaGreat
