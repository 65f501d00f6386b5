import Derived.Test.YtbpcjpbcgeccbaaGreatH6
import Derived.Test.YtbpcjpbcgeccbaaGreatH16
import Derived.Test.YtbpcjpbcgeccbaaGreatH22
set_option linter.unusedVariables false
set_option linter.unusedSectionVars false
set_option linter.unusedSimpArgs false
namespace Go.Mx.Ph
open Go.Ren
open Go.Conc hiding Goes mem_ofEvents Deaf
open Go.Conc.Lib (WgLink)
variable{p:Ph}{D F O O':Nat→Prop}{d i:Nat}{g:Goroutine}{w w' w₀:World}{Nx Nx':(Nat→Prop)→(Nat→Prop)→Goroutine→World→Prop}
def beside(p:Ph)(F:Nat→Prop)(w₀:World):Ph:={ p with Fin:=Dx F w₀ p.Fin }
theorem vZ.frame(hN:∀D O g w,Nx D O g w→Fr F D O w₀ w→Nx' D (fun b=>O b∨F b) g w)(h:p.vZ i Nx D d O g w)(hF:Fr F D O w₀ w):(p.beside F w₀).vZ i Nx' D d (fun b=>O b∨F b) g w:=by
 obtain ⟨h1,h2,h3⟩:=h
 refine ⟨h1,h2,fun w₁ hr hi=>?_⟩
 obtain ⟨g',child,M,H,N,k1,k2,k3,k4,k5,k6⟩:=h3 w₁ (hF.less hr) hi
 have hF₁:=hF.rely hr
 refine ⟨g',child,M,H,N,k1,fun b hb=>.inl (k2 b hb),fun b hb=>⟨.inl (k3 b hb).1,(k3 b hb).2⟩,k4,k5,?_⟩
 have e:(fun b=>(O b∨F b)∧¬M b∧¬H b)=fun b=>(O b∧¬M b∧¬H b)∨F b:=by
   funext b
   apply propext
   constructor
   ·rintro ⟨h1|h1,h2⟩
    ·exact .inl ⟨h1,h2⟩
    ·exact .inr h1
   ·rintro (h|h)
    ·exact ⟨.inl h.1,h.2⟩
    ·exact ⟨.inr h,fun x=>(hF.f b h).2 (k2 b x),fun x=>(hF.f b h).2 (k3 b x).1⟩
 rw [e]
 refine hN _ _ _ _ k6 ⟨fun b hb=>⟨(hF₁.f b hb).1,fun x=>(hF₁.f b hb).2 x.1⟩,fun b hb=>?_,fun b hb=>hF₁.o b hb.1,hF₁.keep,hF₁.size,hF₁.os,hF₁.output⟩
 rcases hb with hb|hb
 · exact ⟨(hF₁.d b hb).1,fun x=>(hF₁.d b hb).2 x.1⟩
 · exact ⟨hF₁.o b (k2 b hb),fun x=>x.2.1 hb⟩
theorem HY.frame:∀(r:Nat) {D O:Nat→Prop} {g:Goroutine} {w:World},p.HY r D O g w→Fr F D O w₀ w→(p.beside F w₀).HY r D (fun b=>O b∨F b) g w
 | 0,D,O,g,w,h,hF=>by
   refine (dM.frame h hF).mono ?_
   rintro d O' g' w' ⟨iP,⟨gT,A,h1,h2,h3⟩,rfl,hF'⟩
   exact ⟨gT,A,h1,h2,fun w'' hr=>⟨iP,h3 w'' (hF'.less hr),rfl,hF'.rely hr⟩⟩
 | r+1,D,O,g,w,h,hF=>by
   refine (dM.frame h hF).mono ?_
   rintro d O' g' w' ⟨iP,⟨h1,h2,h3⟩,rfl,hF'⟩
   refine ⟨h1,h2,fun v hv=>?_⟩
   obtain ⟨g'',k1,k2⟩:=h3 v hv
   refine ⟨g'',k1,fun w'' hr=>?_⟩
   refine (dM.frame (k2 w'' (hF'.less hr)) (hF'.rely hr)).mono ?_
   rintro d O'' g₃ w₃ ⟨uX,h4,rfl,aiC⟩
   exact vZ.frame (fun D O g w=>HY.frame r) h4 aiC
end Go.Mx.Ph
namespace Go.Am
open Go.Conc (born QuitsD G dcall)
open Go.Conc.Lib
open Go.ConcR (WgAt)
open Go.Ren (grow fK aN au Wk dM Idle ag X0 XS XM Lv fQ fU At aC Keep full Own Fr Dx)
open Go.Mx (CellIs dA ah dQ MuAt)
section
variable{P:Program}{ρ σ:Env}{O O' D:Nat→Prop}{F W U Z Z':Nat→Prop}{N:Nat}{h h':AH}{w w' w₀:World}{base cs:List Frame}{a a':aB}{f:Frame}{s s' s₀:AS}{pl:bH}{g g':Goroutine}{L:WgLink}{M:ah}{aZ:Machine→Outcome→World→Trace→Prop}{m:Machine}{t:Trace}{wg mu gb mb vb:Nat}
def AS.kill(s:AS)(b:Nat):AS:=⟨s.fr,s.cs,s.h.kill b⟩
theorem lI.kill{B:cZ}(S:lI P ρ O D base s g w)(hd:aH s.fr=true)(hb:ρ.born vb)(hl:s.h.look vb=some B)(hf:B.dP=none)(hro:B.ro=false)(hn:(s.h.bU.get s.h.n).getD []=[]):lI P ρ (fun x=>O x∧x≠(ρ.to vb).1) D base (s.kill vb) g w:=by
 obtain ⟨⟨lo,f,cs,h1,h2,h3,h4⟩,rel⟩:=S
 refine ⟨⟨lo,f,cs,?_,h2,.plain (h3.f0 fun ops l k e=>?_),h4⟩,rel.kill hb hl hf hro hn⟩
 · show lo≤(s.h.kill vb).n
   rw [Lu];exact h1
 · unfold aH at hd
   rw [e] at hd
   cases hd
def Folds(n:Nat)(locks:Nat→Bool)(f:Nat→dA→dA)(v0 v:dA):Prop:=∀order:List Nat,order.Nodup→(∀i,i∈order↔i < n∧locks i=true)→order.foldl (fun a k=>f k a) v0=v
theorem Sd.aaS[aI P]{B:cZ}{e:TypeId}{fz:Nat×Nat}{v0 v:dA}{V:dA→Prop}{fn:Nat→dA→dA}{locks:Nat→Bool}{n:Nat}{Fin:AS→Prop}(H:dQ P M)(HL:uJ P L)(S:Sd P base F w₀ W U Z N ρ s g w m t)(hUg:U wg)(hUm:U mu)(hne:wg≠mu)(hgb:ρ.born gb∧ρ.to gb=(wg,0))(hmb:ρ.born mb∧ρ.to mb=(mu,0))
   (hwg:WgAt L.tWg wg w 0 0) (hmu:MuAt M.mu.tMutex mu w ⟨0,0,0,0⟩ 0) (hvb:ρ.born vb) (hl:s.h.look vb=some B) (ho:B.obj = .cells v0 e fz) (hf:B.dP=none) (hro:B.ro=false) (hk:(s.h.bU.get s.h.n).getD []=[]) (hd:aH s.fr=true)
   (hn:n < 63) (hV:∀v,V v→∀x∈v,Plain x) (hVf:∀k v,V v→V (fn k v)) (hv0:V v0) (hfold:Folds n locks fn v0 v)
   (hfin:∀s',Fin s' → aH s'.fr=true∧s'.h.look vb=none) {lf:List Nat} (k:kT P pl L M gb mb vb V fn locks n Fin n ⟨s.fr,s.cs,(s.h.kill vb).forget lf⟩) :
   aC P aZ (fun m t=>∃(σ:Env) (s':AS) (g':Goroutine) (w':World) (W' Z':Nat→Prop) (N':Nat),Fin s' ∧ ρ.Le σ∧Sd P base F w₀ W' (fun _=>False) Z' N' σ (s'.tell vb v) g' w' m t) m t:=by
 have hcell:=S.st.JX.rel.Ut hvb hl (Ac hro) ho (hV v0 hv0)
 have Uz:=S.st.JX.rel.Xa hvb hl hf
 have WU:full Z w (ρ.to vb).1:=(S.st.JX.rel.own vb B hvb hl).1 hro
 have hS:=(S.st.JX.kill hd hvb hl hf hro hk).forget lf hd
 let p:Go.Mx.Ph:={ P:=P,L:=L,tM:=M.mu.tMutex,oe:=((ρ.to vb).2,ρ.ext vb),Wg:=wg,Mu:=mu,C:=(ρ.to vb).1,B:=62,n:=n,n0:=N,f:=fn,V:=V,v0:=v0,locks:=locks,Fin:=Rn P ρ base Fin }
 have names:Names ρ p gb mb vb:=⟨hgb.1,hgb.2,hmb.1,hmb.2,hvb,rfl,rfl,Uz⟩
 haveI:aI p.P:=(inferInstance:aI P)
 have hs:p.HY n (fun _=>False) (fun x=>full Z w x∧x≠(ρ.to vb).1) g w:=Cf (p:=p) (Fin:=Fin) (Ii:=ρ) (base:=base) H HL ⟨w,0,0,hwg⟩ (by show 62 < 63;omega) hV rfl n k hS (.refl ρ) names
 have hfr:Fr F (fun _=>False) (fun x=>full Z w x∧x≠(ρ.to vb).1) w₀ w:=⟨fun b hb=>⟨S.st.lt b (S.fz b hb),fun x=>x.1.2 (S.fz b hb)⟩,fun b hb=>hb.elim,fun b hb=>hb.1.1,S.keep.1,S.keep.2.1,S.keep.2.2.1,S.keep.2.2.2⟩
 have hs' :=Go.Mx.Ph.HY.frame n hs hfr
 have hCF:¬F (ρ.to vb).1:=fun hf=>WU.2 (S.fz _ hf)
 have eO:(fun b=>(full Z w b∧b≠(ρ.to vb).1)∨F b)=fun b=>full (fun b=>Z b∧¬F b) w b∧b≠(ρ.to vb).1:=by
   rw [MX S.fz S.st.lt]
   funext b
   apply propext
   constructor
   ·rintro (h|h)
    ·exact ⟨.inl h.1,h.2⟩
    ·exact ⟨.inr h,fun e=>hCF (e ▸ h)⟩
   ·rintro ⟨h|h,h2⟩
    ·exact .inl ⟨h,h2⟩
    ·exact .inr h
 rw [eO] at hs'
 have hat:=(S.st.at_.alone).drop (Z' :=fun b=>Z b∧¬F b) fun b hb=>⟨S.wu b hb,fun hf=>S.MW b hf hb⟩
 have hC':full (fun b=>Z b∧¬F b) w (ρ.to vb).1:=by rw [MX S.fz S.st.lt];exact .inl WU
 refine (Go.Mx.Ph.phase (p:=p.beside F w₀) (W:=W) (U:=U) (by show n≤62;omega) hVf (by show n < 2147483647;omega) hUg hUm hne hC' hs' hwg hmu hcell hv0 hat).mono ?_
 rintro m t ⟨w',gT,O,D,order,hat,⟨iP,⟨σ,s',hF,hle,aev⟩,hO,Jl⟩,hown,h1,h2,h3,h4⟩
 have hN:1≤N+n:=At.N1 hat
 obtain ⟨hnd,hlk⟩:=hfin s' hF
 have hfd:(p.beside F w₀).fold order=v:=hfold order h1 h2
 rw [hfd] at h4
 have hO0:∀b,iP b→O 0 b:=fun b hb=>by rw [hO];exact .inl hb
 have hf0:∀b,F b→O 0 b:=fun b hb=>by rw [hO];exact .inr hb
 have hWC:∀b,O 0 b∨D 0 b→¬(Go.Mx.Ph.W1 p W b)∧b≠(ρ.to vb).1:=fun b hb=>by
   have:¬(Go.Mx.Ph.W1 p W b∨b=(ρ.to vb).1):=hb.elim (hown.ow 0 b (by show 0 < N+n;omega)) (hown.dw 0 b (by show 0 < N+n;omega))
   exact ⟨fun x=>this (.inl x),fun x=>this (.inr x)⟩
 have hCW:¬(Go.Mx.Ph.W1 p W (ρ.to vb).1):=by
   rintro (x|x|x)
   ·exact WU.2 (S.wu _ (.inl x))
   ·exact WU.2 (by rw [x];exact S.wu _ (.inr hUg))
   ·exact WU.2 (by rw [x];exact S.wu _ (.inr hUm))
 have aiE:(ρ.to vb).1 < w'.heap.size:=hown.vP _ (.inr rfl)
 have aiF:=hle.born _ hvb
 have aaT:=hle.to _ hvb
 have aiG:=hle.ext _ hvb
 have aiH:¬σ.aV vb:=fun x=>Uz ((hle.aV _ hvb).1 x)
 let Zn:Nat→Prop:=fun b=>Go.Mx.Ph.W1 p W b∨F b
 have aew:Rel σ (fun b=>full Zn w' b∧b≠(ρ.to vb).1) (fun _=>False) s'.h w' :=aev.rel.all fun b hb=>by
   rcases hb with hb|hb
   ·have:=hWC b (.inl (hO0 b hb))
    exact ⟨⟨Jl.o b hb,fun x=>x.elim this.1 fun hf=>(Jl.f b hf).2 hb⟩,this.2⟩
   ·have:=hWC b (.inr hb)
    exact ⟨⟨(Jl.d b hb).1,fun x=>x.elim this.1 fun hf=>hown.od 0 0 b (by show 0 < N+n;omega) (by show 0 < N+n;omega) (hf0 b hf) hb⟩,this.2⟩
 have aex:lI P σ (fun b=>full Zn w' b∧b≠(ρ.to vb).1) (fun _=>False) base s' gT w' :=⟨aev.run,aew⟩
 have hCv:∀v,V v→V v:=fun v h=>h
 have hvV:V v:=by have:=h3;rw [hfd] at this;exact this
 have UA:=aex.tell (b:=vb) (v:=v) hnd aiF hlk aiH (hV v hvV) (by rw [aaT,aiG];exact h4) (by rw [aaT];exact fun x=>x.2 rfl) (fun x=>x)
 rw [aaT] at UA
 have eF:(fun x=>(full Zn w' x∧x≠(ρ.to vb).1)∨x=(ρ.to vb).1)=full Zn w' :=by
   funext b
   apply propext
   constructor
   ·rintro (h|rfl)
    ·exact h.1
    ·exact ⟨aiE,fun x=>x.elim hCW fun hf=>hCF hf⟩
   ·intro h
    by_cases e:b=(ρ.to vb).1
    ·exact .inr e
    ·exact .inl ⟨h,e⟩
 rw [eF] at UA
 refine ⟨σ,s',gT,w',Go.Mx.Ph.W1 p W,Zn,N+n,hF,hle,⟨⟨hat.drop fun b hb=>.inl hb,UA,fun b hb=>?_⟩,?_,fun b hb=>.inr hb,?_,⟨Jl.keep,Jl.size,Jl.os,Jl.output⟩⟩⟩
 · rcases hb with hb|hb
   ·exact hown.vP b (.inl hb)
   ·exact (Jl.f b hb).1
 · rintro b (hb|hb)
   ·exact .inl hb
   ·exact hb.elim
 · rintro b hf (hb|hb)
   ·exact (hWC b (.inl (hf0 b hf))).1 hb
   ·exact hb
end
end Go.Am
namespace Go.Am
open Go.Conc.Lib
open Go.Ren (grow fK aN au Wk At aC Keep full)
open Go.Mx (dA ah dQ)
def iv(l:List Int):dA:=(l.map fun n=>Value.int .i64 n).toArray
def unv(v:dA):List Int:=v.toList.map fun x=>match x with | .int _ n=>n|_=>0
theorem LC(l:List Int):unv (iv l)=l:=by
 unfold unv iv
 simp only [List.map_map]
 conv=>rhs;rw [←List.map_id l]
 rfl
theorem Jm(l:List Int):∀x∈iv l,Plain x:=by
 intro x hx
 unfold iv at hx
 simp only [List.mem_toArray,List.mem_map] at hx
 obtain ⟨n,_,rfl⟩:=hx
 exact gm (n:=1) rfl
def VIn(Vs:List (List Int))(v:dA):Prop:=∃l∈Vs,v=iv l
def DV(n:Nat)(locks:Nat→Bool)(f:Nat→List Int→List Int)(k:Nat)(v:dA):dA:=if k < n∧locks k=true then iv (f k (unv v)) else v
noncomputable section
def UB(P:Program)(L:WgLink)(gb nt:Nat)(s:AS):Bool:=match s.cs with
 | []=>match s.fr.todo with
   | .drawn .. :: _=>false
   |_=>FM P L gb nt s.fr
 | _=>false
def aey(o:Oper)(n:Nat):Bool:=match o.dst with
 | some d=>decide (d < n)
 | none=>true
def UC(P:Program)(fid:FuncId)(mb:Nat)(s:AS):Option AS:=match opAt s with
 | some o=>match o.guard with
   |none=>match o.op with
    | .call c=>match c.callee with
     | .value (.func f)=>match c.args.toList with
      | [.tmp t]=>if f == fid && s.fr.round.isNone && iR 3 (s.fr.tmps.getD t undef) (.pointer (some ⟨mb,0,none⟩)) && (decide (t < s.fr.tmps.size)) && aey o s.fr.tmps.size then Il P s s.h (.tuple #[]) else none
      |_=>none
     |_=>none
    |_=>none
   |some _=>none
 | none=>none
def aaV(P:Program)(L:WgLink)(ul:FuncId)(gb mb:Nat)(a:aB):Bool:=
 a.ret && a.dk && a.round.isNone && (match P.funcs[a.fn]? with|some fn=>fn.results.size == 0|none=>false) && match a.defers with
   | [⟨.fn (.func f) cap,args⟩,⟨.fn (.func f') cap',args'⟩]=>f == ul && cap.size == 0 && iR 3 (.tuple args) (.tuple #[.pointer (some ⟨mb,0,none⟩)]) && f' == L.done && cap'.size == 0 && iR 3 (.tuple args') (.tuple #[.pointer (some ⟨gb,0,none⟩)])
   |_=>false
def aaW(P:Program)(L:WgLink)(ul:FuncId)(gb mb vb nt:Nat)(l:List Int)(s:AS):Bool:=match s.cs with
 | []=>aH s.fr && (match oq nt s.fr with|some a=>aaV P L ul gb mb a|none=>false) && (match s.h.look vb with|some B=> !B.ro && (match B.obj with | .cells c _ _=>iR 9 (.agg c) (.agg (iv l))|_=>false)|none=>false)
 | _=>false
def UD(P:Program)(pl:bH)(T:Tr TI)(Fu:Tr Func)(L:WgLink)(ul:FuncId)(gb mb vb nt n:Nat)(l:List Int)(s:AS):Bool:=match iL P pl T Fu 100 s with
 | .inl s₄=>match FN P s₄ with
   |some s₅=>match iL P pl T Fu n s₅ with
    | .inl s₆=>aaW P L ul gb mb vb nt l s₆
    | .inr _=>false
   |none=>false
 | .inr _=>false
def UE(P:Program)(pl:bH)(T:Tr TI)(Fu:Tr Func)(L:WgLink)(M:ah)(gb mb vb nt n:Nat)(Vs:List (List Int))(f:List Int→List Int)(s:AS):Bool:=match UC P M.mu.lock mb s with
 | some s₃=>aH s₃.fr && (s₃.h.look vb).isNone && Vs.all fun l=>UD P pl T Fu L M.mu.unlock gb mb vb nt n (f l) (s₃.tell vb (iv l))
 | none=>false
def aez(P:Program)(pl:bH)(T:Tr TI)(Fu:Tr Func)(fin:AS→Bool)(n d:Nat):AS→Bool:=
 Nat.rec (fun _=>false) (fun _ ih s=>match iL P pl T Fu n s with
   | .inr _=>false
   | .inl s=>bif fin s then true else match Ej s with
     |some o=>bif Nat.beq ((execOp (ax s.fr.tmps) o).arity P s.h) 0 then false else allB (fun c=>match aF P pl (some c) s with
      |some (.go s')=>ih s'
      |_=>false) ((execOp (ax s.fr.tmps) o).arity P s.h)
     |none=>false) d
def jZ(P:Program)(pl:bH)(T:Tr TI)(Fu:Tr Func)(L:WgLink)(M:ah)(gb mb vb nt nc:Nat)(Vs:List (List Int))(f:Nat→List Int→List Int)(locks:Nat→Bool)(k n a:Nat)(s:AS):Bool:=match iL P pl T Fu 100 s with
 | .inl s₁=>match FN P s₁ with
   |some s₂=>match iL P pl T Fu n s₂ with
    | .inl s₃=>match xY P pl a s₃ with
     |some (.go s₄)=>bif locks k then UE P pl T Fu L M gb mb vb nt nc Vs (f k) s₄ else UB P L gb nt s₄
     |_=>false
    | .inr _=>false
   |none=>false
 | .inr _=>false
end
section
variable{P:Program}{pl:bH}{L:WgLink}{M:ah}{gb mb vb nt nc n d k:Nat}{s s':AS}{T:Tr TI}{Fu:Tr Func}{Vs:List (List Int)}{f:Nat→List Int→List Int}{locks:Nat→Bool}{l:List Int}{ul fid:FuncId}{a:aB}
theorem LD(h:UB P L gb nt s=true):X7 P L gb s:=by
 unfold UB at h
 split at h
 · rename_i hcs
   split at h
   ·cases h
   ·rename_i hnd
    obtain ⟨a'',q1,q2,q3⟩:=FO h
    exact ⟨hcs,fun ops l k e=>hnd ops l k e,nt,a'',q1,q2,q3⟩
 · cases h
theorem UF{x:Value}{b:Nat}(h:iR 3 x (.pointer (some ⟨b,0,none⟩))=true):x = .pointer (some ⟨b,0,none⟩):=gB _ _ _ h
theorem LG{mb:Nat}(h:UC P fid mb s=some s'):YG P fid mb s s' :=by
 unfold UC at h
 split at h
 · rename_i o ho
   obtain ⟨h1,ops,i,l,k,h2,h3,h4,h5⟩:=ku ho
   split at h
   ·rename_i hg
    split at h
    ·rename_i c hop
     split at h
     ·rename_i f hf
      split at h
      ·rename_i t ha
       split at h
       ·rename_i hc
        simp only [Bool.and_eq_true,beq_iff_eq,Option.isNone_iff_eq_none,decide_eq_true_eq] at hc
        obtain ⟨⟨⟨⟨rfl,hr⟩,hp⟩,ht⟩,hd⟩:=hc
        obtain ⟨a',h6,h7⟩:=mg h
        obtain ⟨callee,as,ats⟩:=c
        dsimp only at hf ha
        subst hf
        have has:as = #[.tmp t]:=by rw [←Array.toArray_toList (xs:=as),ha]
        subst has
        have hpt:=UF hp
        refine ⟨h1,hr,ops,i,l,k,o,t,ats,a',h2,h3,h4,h5,hg,hop,?_,fun d e=>?_,h6,h7⟩
        ·have:s.fr.tmps.getD t undef=s.fr.tmps[t]:=by simp [Array.getD,ht]
         rw [this] at hpt
         rw [←hpt]
         simp [ht]
        ·unfold aey at hd
         rw [e] at hd
         simpa using hd
       ·cases h
      ·cases h
     ·cases h
    ·cases h
   ·cases h
 · cases h
theorem Qd(h:aaV P L ul gb mb a=true):aaM P L ul gb mb a:=by
 unfold aaV at h
 simp only [Bool.and_eq_true,Option.isNone_iff_eq_none] at h
 obtain ⟨⟨⟨⟨h1,h2⟩,h3⟩,h4⟩,h5⟩:=h
 refine ⟨h1,h2,?_,?_,h3⟩
 · split at h4
   ·rename_i fn hfn
    exact ⟨fn,hfn,Array.eq_empty_of_size_eq_zero (by simpa using h4)⟩
   ·cases h4
 · split at h5
   ·rename_i f cap args f' cap' args' hd
    simp only [Bool.and_eq_true,beq_iff_eq] at h5
    obtain ⟨⟨⟨⟨⟨rfl,hc⟩,ha⟩,rfl⟩,hc'⟩,ha'⟩:=h5
    rw [hd,wB ha,Array.eq_empty_of_size_eq_zero hc,wB ha',Array.eq_empty_of_size_eq_zero hc']
   ·cases h5
theorem Qe(h:aaW P L ul gb mb vb nt l s=true):YH P L ul gb mb vb (iv l) s:=by
 unfold aaW at h
 split at h
 · rename_i hcs
   simp only [Bool.and_eq_true] at h
   obtain ⟨⟨h1,h2⟩,h3⟩:=h
   refine ⟨hcs,h1,?_,?_,Jm l⟩
   ·split at h2
    ·rename_i a ha;exact ⟨nt,a,ha,Qd h2⟩
    ·cases h2
   ·split at h3
    ·rename_i B hB
     rw [Bool.and_eq_true] at h3
     obtain ⟨h4,h3⟩:=h3
     split at h3
     ·rename_i c e f ho
      have:=gB _ _ _ h3
      cases this
      exact ⟨B,e,f,hB,ho,by simpa using h4⟩
     ·cases h3
    ·cases h3
 · cases h
theorem LH(K:aW P T)(KF:fZ P Fu)(h:UD P pl T Fu L ul gb mb vb nt nc l s=true):Uu P pl L ul gb mb vb (iv l) s:=by
 unfold UD at h
 split at h
 · rename_i s₄ h₄
   split at h
   ·rename_i s₅ h₅
    split at h
    ·rename_i s₆ h₆
     exact (jv K KF 100 h₄).bind fun s h=>by
      subst h
      exact .here ⟨s₅,yQ h₅,(jv K KF nc h₆).bind fun s h'=>by subst h';exact .here (Qe h)⟩
    ·cases h
   ·cases h
 · cases h
theorem LJ(K:aW P T)(KF:fZ P Fu)(h:UE P pl T Fu L M gb mb vb nt nc Vs (f k) s=true){g:dA→dA}(hg:∀l∈Vs,g (iv l)=iv (f k l)):Uw P pl L M gb mb vb (VIn Vs) g s:=by
 unfold UE at h
 split at h
 · rename_i s₃ h₃
   simp only [Bool.and_eq_true,Option.isNone_iff_eq_none,List.all_eq_true] at h
   obtain ⟨⟨h1,h2⟩,h4⟩:=h
   refine ⟨s₃,LG h₃,h1,h2,?_⟩
   rintro v ⟨l,hl,rfl⟩
   rw [hg l hl]
   exact LH K KF (h4 l hl)
 · cases h
theorem bD(K:aW P T)(KF:fZ P Fu){m d:Nat}(hk:k < m)(h:jZ P pl T Fu L M gb mb vb nt nc Vs f locks k n d s=true):Cc P pl L M gb mb vb (VIn Vs) (DV m locks f k) (locks k) s:=by
 unfold jZ at h
 split at h
 · rename_i s₁ h₁
   split at h
   ·rename_i s₂ h₂
    split at h
    ·rename_i s₃ h₃
     split at h
     ·rename_i s₄ h₄
      refine (jv K KF 100 h₁).bind fun s h'=>?_
      subst h'
      refine .here ⟨s₂,yQ h₂,(jv K KF n h₃).bind fun s h'=>?_⟩
      subst h'
      refine ig d h₄ ?_
      cases hl:locks k with
      |true=>
       rw [hl] at h
       exact .here (.inr ⟨rfl,LJ K KF h fun l _=>by unfold DV;rw [if_pos ⟨hk,hl⟩,LC]⟩)
      |false=>
       rw [hl] at h
       exact .here (.inl ⟨rfl,LD h⟩)
     ·cases h
    ·cases h
   ·cases h
 · cases h
end
end Go.Am
namespace Go.Am
open Go.Conc.Lib
open Go.ConcR (WgAt)
open Go.Ren (grow fK aN au Wk At aC Keep full)
open Go.Mx (CellIs dA ah dQ MuAt)
theorem LK{α β:Type}{f:β→α→α}{V:α→Prop}{l l':List β}(h:l.Perm l'):(∀i∈l,∀v,V v→V (f i v))→(∀i∈l,∀j∈l,∀v,V v→f i (f j v)=f j (f i v))→∀v,V v→l.foldl (fun a k=>f k a) v=l'.foldl (fun a k=>f k a) v:=by
 induction h with
 | nil=>intro _ _ v _;rfl
 | cons x _ ih=>
   intro h1 h2 v hv
   simp only [List.foldl_cons]
   exact ih (fun i hi=>h1 i (.tail _ hi)) (fun i hi j hj=>h2 i (.tail _ hi) j (.tail _ hj)) _ (h1 x (.head _) v hv)
 | swap x y l=>
   intro h1 h2 v hv
   simp only [List.foldl_cons]
   rw [h2 x (.tail _ (.head _)) y (.head _) v hv]
 | trans p q ih1 ih2=>
   intro h1 h2 v hv
   rw [ih1 h1 h2 v hv]
   exact ih2 (fun i hi=>h1 i (p.symm.subset hi)) (fun i hi j hj=>h2 i (p.symm.subset hi) j (p.symm.subset hj)) v hv
def LM(n:Nat)(locks:Nat→Bool):List Nat:=(List.range n).filter locks
def Jn(n:Nat)(locks:Nat→Bool)(f:Nat→List Int→List Int)(Vs:List (List Int))(l0 v:List Int):Bool:=
 Vs.contains l0 && (LM n locks).all (fun i=>Vs.all fun l=>Vs.contains (f i l)) && (LM n locks).all (fun i=>(LM n locks).all fun j=>Vs.all fun l=>f i (f j l) == f j (f i l)) && (LM n locks).foldl (fun a k=>f k a) l0 == v
section
variable{P:Program}{ρ σ:Env}{F W U Z:Nat→Prop}{N:Nat}{h:AH}{w w' w₀:World}{base cs:List Frame}{f:Nat→List Int→List Int}{locks:Nat→Bool}{Vs:List (List Int)}{n:Nat}{l0 v:List Int}{s s' s₁ ws:AS}{pl:bH}{g g':Goroutine}{L:WgLink}{M:ah}{aZ:Machine→Outcome→World→Trace→Prop}{m:Machine}{t:Trace}
 {gb mb vb r n₁ n₂:Nat} {l:List Nat} {Fin:AS→Prop} {T:Tr TI} {Fu:Tr Func}
theorem Qg(h:Jn n locks f Vs l0 v=true):VIn Vs (iv l0)∧(∀k v,VIn Vs v→VIn Vs (DV n locks f k v))∧Folds n locks (DV n locks f) (iv l0) (iv v):=by
 unfold Jn at h
 simp only [Bool.and_eq_true,List.all_eq_true,List.contains_iff_mem,beq_iff_eq] at h
 obtain ⟨⟨⟨h1,h2⟩,h3⟩,h4⟩:=h
 have mem:∀i,i∈LM n locks↔i < n∧locks i=true:=fun i=>by unfold LM;simp
 refine ⟨⟨l0,h1,rfl⟩,?_,?_⟩
 · rintro k _ ⟨l,hl,rfl⟩
   unfold DV
   split
   ·rename_i hk
    rw [LC]
    exact ⟨_,h2 k ((mem k).2 hk) l hl,rfl⟩
   ·exact ⟨l,hl,rfl⟩
 · intro order hn ho
   have hp:order.Perm (LM n locks):=(List.perm_ext_iff_of_nodup hn (List.nodup_range.filter _)).2 fun a=>(ho a).trans (mem a).symm
   have lift:∀(ls:List Nat),(∀i∈ls,i < n∧locks i=true)→∀l,ls.foldl (fun a k=>DV n locks f k a) (iv l)=iv (ls.foldl (fun a k=>f k a) l):=by
    intro ls
    induction ls with
    |nil=>intro _ l;rfl
    |cons x ls ih=>
     intro hx l
     simp only [List.foldl_cons]
     have:DV n locks f x (iv l)=iv (f x l):=by unfold DV;rw [if_pos (hx x (.head _)),LC]
     rw [this]
     exact ih (fun i hi=>hx i (.tail _ hi)) _
   rw [lift order (fun i hi=>(ho i).1 hi)]
   have:=LK (V:=fun l=>l∈Vs) hp (fun i hi l hl=>h2 i ((mem i).2 ((ho i).1 hi)) l hl) (fun i hi j hj l hl=>h3 i ((mem i).2 ((ho i).1 hi)) j ((mem j).2 ((ho j).1 hj)) l hl) l0 h1
   rw [this,h4]
structure LP(P:Program)(M:ah)(s s':AS):Prop where
 run:s.fr.ret=false
 at_:∃ops i l k o z a',s.fr.todo = .region ops (i :: l) :: k∧ops[i]? = some o∧Region.wanted o (yielded ops s.fr.tmps)=true∧o.op = .alloc M.mu.tMutex∧zeroOf P M.mu.tMutex=some z∧z.cells = #[.int .i32 0,.int .u32 0] ∧
   s.h.look s.h.n=none∧az P s.fr s.h.blank (.pointer (some ⟨s.h.n,0,none⟩))=some a' ∧ s' = ⟨a',s.cs,s.h.blank⟩
def GI(P:Program)(M:ah)(s:AS):Option AS:=match opAt s with
 | some o=>match o.op with
   | .alloc t=>match zeroOf P t with
    |some z=>if t == M.mu.tMutex && (s.h.look s.h.n).isNone && iR 3 (.agg z.cells) (.agg #[.int .i32 0,.int .u32 0]) then Il P s s.h.blank (.pointer (some ⟨s.h.n,0,none⟩)) else none
    |none=>none
   |_=>none
 | none=>none
theorem Jo(h:GI P M s=some s'):LP P M s s' :=by
 unfold GI at h
 split at h
 · rename_i o ho
   obtain ⟨h1,ops,i,l,k,h2,h3,h4,h5⟩:=ku ho
   split at h
   ·rename_i t hop
    split at h
    ·rename_i z hz
     split at h
     ·rename_i hc
      simp only [Bool.and_eq_true,beq_iff_eq,Option.isNone_iff_eq_none] at hc
      obtain ⟨⟨rfl,hl⟩,hcells⟩:=hc
      obtain ⟨a',h6,h7⟩:=mg h
      exact ⟨h1,ops,i,l,k,o,z,a',h2,h3,h4,hop,hz,Rq hcells,hl,h6,h7⟩
     ·cases h
    ·cases h
   ·cases h
 · cases h
theorem St.mutex[aI P]{s':AS}(S:St P base W U Z N ρ s g w m t)(k:LP P M s s') :
   aC P aZ (fun m t=>∃(σ:Env) (g':Goroutine) (w':World) (mu:Nat),ρ.Le σ∧St P base W (fun b=>U b∨b=mu) (fun b=>Z b∨b=mu) N σ s' g' w' m t∧Keep Z w w' ∧ σ.born s.h.n∧σ.to s.h.n=(mu,0)∧MuAt M.mu.tMutex mu w' ⟨0,0,0,0⟩ 0∧∀b,Z b→b≠mu) m t:=by
 obtain ⟨hrun,ops,i,l,k,o,z,a',t1,t2,t3,t5,t6,t7,t11,t12,t13⟩:=k
 refine (S.Ro (c:=[]) hrun t1).bind ?_
 rintro m t ⟨σ,lo,f,cs,w',hle,A,hat,hk⟩
 have hnb:¬σ.born s.h.n:=fun hb=>Nat.lt_irrefl _ (A.rel.fresh _ hb)
 have hvp:VR (σ.add s.h.n (w'.heap.size,0) False 0 0) (.pointer (some ⟨s.h.n,0,none⟩)) (.pointer (some ⟨w'.heap.size,0,none⟩)):=by
   have e:(Value.pointer (some ⟨w'.heap.size,0,none⟩)) = .pointer (some ((σ.add s.h.n (w'.heap.size,0) False 0 0).addr ⟨s.h.n,0,none⟩)):=by
    simp only [Env.addr,bV]
   rw [e]
   exact .ptr (.inl rfl)
 refine (Ij (v:=.pointer (some ⟨s.h.n,0,none⟩)) (v' :=.pointer (some ⟨w'.heap.size,0,none⟩)) (obj:=.cells #[.int .i32 0,.int .u32 0] M.mu.tMutex (0,0)) A hat (hk.lt S.lt) t2 t3 (fun q hq=>by rw [t5] at hq;cases hq) (fun d₁ ay=>?_) t11 t12 hvp).mono ?_
 · rw [←t7]
   exact xN t5 t6 ay
 · rintro m t ⟨h1,h2,h3,h4⟩
   subst t13
   refine ⟨_,_,_,w'.heap.size,hle.trans h1,h4,hk.trans ⟨fun b hb=>?_,by simp,.rfl,rfl⟩,h2,h3,?_,fun b hb=>?_⟩
   ·have:=hk.lt S.lt b hb
    simp only [World.alloc]
    rw [Array.getElem?_push,if_neg (by omega)]
   ·show (w'.heap.push _)[w'.heap.size]? = _
    simp [Go.Mx.Wd.num]
   ·have:=hk.lt S.lt b hb
    omega
theorem Sd.mutex[aI P]{s':AS}(S:Sd P base F w₀ W U Z N ρ s g w m t)(k:LP P M s s') :
   aC P aZ (fun m t=>∃(σ:Env) (g':Goroutine) (w':World) (mu:Nat),ρ.Le σ∧Sd P base F w₀ W (fun b=>U b∨b=mu) (fun b=>Z b∨b=mu) N σ s' g' w' m t∧Keep Z w w' ∧ σ.born s.h.n∧σ.to s.h.n=(mu,0)∧MuAt M.mu.tMutex mu w' ⟨0,0,0,0⟩ 0∧∀b,Z b→b≠mu) m t:=by
 refine (S.st.mutex k).mono ?_
 rintro m t ⟨σ,g',w',mu,k1,k2,k3,k4,k5,k6,k7⟩
 refine ⟨σ,g',w',mu,k1,⟨k2,?_,fun b hb=>.inl (S.fz b hb),?_,S.Ik k3⟩,k3,k4,k5,k6,k7⟩
 · rintro b (hb|hb|hb)
   ·exact .inl (S.wu b (.inl hb))
   ·exact .inl (S.wu b (.inr hb))
   ·exact .inr hb
 · rintro b hf (hb|hb|hb)
   ·exact S.MW b hf (.inl hb)
   ·exact S.MW b hf (.inr hb)
   ·exact k7 b (S.fz b hf) hb
def iW(P:Program)(L:WgLink)(M:ah)(base:List Frame)(F:Nat→Prop)(w₀:World)(mb:Nat)(gb:Option Nat)(s:AS)(m:Machine)(t:Trace):Prop:=
 ∃(W U Z:Nat→Prop) (N:Nat) (ρ:Env) (g:Goroutine) (w:World),Sd P base F w₀ W U Z N ρ s g w m t∧∃mu,U mu∧ρ.born mb∧ρ.to mb=(mu,0)∧MuAt M.mu.tMutex mu w ⟨0,0,0,0⟩ 0 ∧
   match gb with
   |none=>True
   |some gb=>∃wg,U wg∧wg≠mu∧ρ.born gb∧ρ.to gb=(wg,0)∧WgAt L.tWg wg w 0 0
theorem EO{mu:Nat}{d:Go.Mx.Wd}{q:Nat}{ty:TypeId}(h:MuAt ty mu w d q)(k:Keep Z w w')(hz:Z mu):MuAt ty mu w' d q:=(k.1 mu hz).trans h
theorem Qh{wg:Nat}{a b:Int}{ty:TypeId}(h:WgAt ty wg w a b)(k:Keep Z w w')(hz:Z wg):WgAt ty wg w' a b:=(k.1 wg hz).trans h
theorem bg.mutex[aI P](e:GI P M s=some s')(S:bg P L base F w₀ .idle s m t):aC P aZ (iW P L M base F w₀ s.h.n none s') m t:=by
 obtain ⟨W,U,Z,N,ρ,g,w,S,hp⟩:=S
 refine (S.mutex (Jo e)).mono ?_
 rintro m t ⟨σ,g',w',mu,k1,k2,k3,k4,k5,k6,k7⟩
 exact ⟨_,_,_,_,_,_,_,k2,mu,.inr rfl,k4,k5,k6,trivial⟩
theorem iW.reach[aI P]{o:Option Nat}{K:AS→Prop}(k:aY P pl K s)(S:iW P L M base F w₀ mb o s m t):aC P aZ (fun m t=>∃s',K s' ∧ iW P L M base F w₀ mb o s' m t) m t:=by
 obtain ⟨W,U,Z,N,ρ,g,w,S,mu,h1,h2,h3,h4,h5⟩:=S
 refine (S.reach k).mono ?_
 rintro m t ⟨σ,s',g',w',k1,k2,k3,k4⟩
 refine ⟨s',k1,W,U,Z,N,σ,g',w',k3,mu,h1,k2.born _ h2,(k2.to _ h2).trans h3,EO h4 k4 (S.wu _ (.inr h1)),?_⟩
 cases o with
 | none=>trivial
 | some gb=>
   obtain ⟨wg,q1,q2,q3,q4,q5⟩:=h5
   exact ⟨wg,q1,q2,k2.born _ q3,(k2.to _ q3).trans q4,Qh q5 k4 (S.wu _ (.inr q1))⟩
theorem iW.forget{o:Option Nat}(l:List Nat)(hd:aH s.fr=true)(S:iW P L M base F w₀ mb o s m t):iW P L M base F w₀ mb o ⟨s.fr,s.cs,s.h.forget l⟩ m t:=by
 obtain ⟨W,U,Z,N,ρ,g,w,S,h⟩:=S
 exact ⟨W,U,Z,N,ρ,g,w,S.forget l hd,h⟩
theorem iW.step[aI P](K:aW P T)(KF:fZ P Fu){o:Option Nat}{n:Nat}(e:stepS P pl T Fu n l s=some s')(S:iW P L M base F w₀ mb o s m t):aC P aZ (iW P L M base F w₀ mb o s') m t:=by
 unfold stepS at e
 split at e
 · rename_i s₁ h₁
   split at e
   ·rename_i hd
    cases e
    refine (S.reach (jv K KF n h₁)).mono ?_
    rintro m t ⟨s',rfl,S'⟩
    exact S'.forget l hd
   ·cases e
 · cases e
theorem iW.group[aI P](e:FI P L s=some s')(S:iW P L M base F w₀ mb none s m t):aC P aZ (iW P L M base F w₀ mb (some s.h.n) s') m t:=by
 obtain ⟨W,U,Z,N,ρ,g,w,S,mu,h1,h2,h3,h4,h5⟩:=S
 refine (S.group (Io e)).mono ?_
 rintro m t ⟨σ,g',w',wg,k1,k2,k3,k4,k5,k6,k7⟩
 exact ⟨_,_,_,_,_,_,_,k2,mu,.inl h1,k1.born _ h2,(k1.to _ h2).trans h3,EO h4 k3 (S.wu _ (.inr h1)),wg,.inr rfl,fun e=>k7 mu (S.wu _ (.inr h1)) e.symm,k4,k5,k6⟩
theorem Qi{C:AS→Prop}(e:goS P s=some (ws,s'))(hw:C ws):aaQ P C s s' :=by
 unfold goS at e
 split at e
 · rename_i o ho
   obtain ⟨h1,ops,i,l,k,h2,h3,h4,h5⟩:=ku ho
   split at e
   ·rename_i c hop
    split at e
    ·rename_i x hx
     split at e
     ·rename_i fid first cap hf
      split at e
      ·rename_i hc
       simp only [Bool.and_eq_true,Option.isNone_iff_eq_none] at hc
       split at e
       ·rename_i s₂ hfin
        cases e
        obtain ⟨a',h6,h7⟩:=mg hfin
        exact ⟨h1,hc.2,ops,i,l,k,o,c,x,fid,first,cap,a',h2,h3,h4,h5,hop,hx,hf,hc.1,hw,h6,h7⟩
       ·cases e
      ·cases e
     ·cases e
    ·cases e
   ·cases e
 · cases e
theorem aX{V:dA→Prop}{fn:Nat→dA→dA}(e:aU P pl L gb n₁ n₂ s=some (ws,s'))(hw:Cc P pl L M gb mb vb V (fn (n - (r+1))) (locks (n - (r+1))) ws)(k:kT P pl L M gb mb vb V fn locks n Fin r s'):kT P pl L M gb mb vb V fn locks n Fin (r+1) s:=by
 unfold aU at e
 split at e
 · rename_i s₁ aeA
   split at e
   ·rename_i s₂ hc
    split at e
    ·rename_i s₃ hr₂
     exact ig n₁ aeA (.here ⟨s₂,AY hc,ig n₂ hr₂ (.here ⟨s',Qi e hw,k⟩)⟩)
    ·cases e
   ·cases e
 · cases e
noncomputable section
def UG(vb tv:Nat)(l0:List Int)(lf:List Nat)(s:AS):Option AS:=match s.h.look vb with
 | some B=>match B.obj with
   | .cells c _ _=>if iR 3 (s.fr.tmps.getD tv undef) (.pointer (some ⟨vb,0,none⟩)) && iR 9 (.agg c) (.agg (iv l0)) && B.dP.isNone && !B.ro && ((s.h.bU.get s.h.n).getD []).isEmpty && aH s.fr then some ⟨s.fr,s.cs,(s.h.kill vb).forget lf⟩ else none
   |_=>none
 | none=>none
def UH(P:Program)(pl:bH)(L:WgLink)(gb n vb:Nat)(v:List Int)(l:List Nat)(s:AS):Option AS:=match Ye P pl L gb n s with
 | some s₁=>bif aH s₁.fr && (s₁.h.look vb).isNone then some ⟨s₁.fr,s₁.cs,((s₁.h.tell vb (iv v)).forget l).kQ⟩ else none
 | none=>none
end
def GK(vb:Nat)(v:List Int)(l:List Nat)(s' s₁:AS):Prop:=aH s₁.fr=true∧s₁.h.look vb=none∧s' = ⟨s₁.fr,s₁.cs,((s₁.h.tell vb (iv v)).forget l).kQ⟩
theorem Jp{V:dA→Prop}{fn:Nat→dA→dA}{k:Nat}(e:UH P pl L gb k vb v l s=some s'):kT P pl L M gb mb vb V fn locks n (GK vb v l s') 0 s:=by
 unfold UH Ye at e
 split at e
 · rename_i s₁ hs
   split at hs
   ·rename_i s₂ hr
    cases hb:aH s₁.fr && (s₁.h.look vb).isNone with
    |false=>rw [hb] at e;cases e
    |true=>
     rw [hb] at e
     cases e
     rw [Bool.and_eq_true,Option.isNone_iff_eq_none] at hb
     exact ig k hr (.here ⟨s₁,AY hs,hb.1,hb.2,rfl⟩)
   ·cases hs
 · cases e
theorem iW.phase[aI P](H:dQ P M)(HL:uJ P L)(hn:n < 63){tv:Nat}{lf:List Nat}(ek:UG vb tv l0 lf s=some s₁)(ef:Jn n locks f Vs l0 v=true)(k:kT P pl L M gb mb vb (VIn Vs) (DV n locks f) locks n (GK vb v l s') n s₁)(S:iW P L M base F w₀ mb (some gb) s m t) :
   aC P aZ (bg P L base F w₀ .idle s') m t:=by
 obtain ⟨W,U,Z,N,ρ,g,w,S,mu,h1,h2,h3,h4,wg,q1,q2,q3,q4,q5⟩:=S
 obtain ⟨f1,f2,f3⟩:=Qg ef
 unfold UG at ek
 split at ek
 · rename_i B hB
   split at ek
   ·rename_i c e fz ho
    split at ek
    ·rename_i hc
     cases ek
     simp only [Bool.and_eq_true,Option.isNone_iff_eq_none,Bool.not_eq_true',List.isEmpty_iff] at hc
     obtain ⟨⟨⟨⟨⟨c0,c1⟩,c2⟩,c3⟩,c4⟩,c5⟩:=hc
     have hc0:=gB _ _ _ c1
     cases hc0
     have hvb:ρ.born vb:=by
      obtain ⟨⟨lo,f,cs,_,_,hf,_⟩,_⟩:=S.st.JX
      have hf0:=hf.f0 fun ops l k e=>by unfold aH at c5;rw [e] at c5;cases c5
      have:=xw hf0.tmps tv
      rw [UF c0] at this
      generalize f.tmps.getD tv undef=y at this
      cases this with
      |ptr h=>exact h
     refine (S.aaS H HL q1 h1 q2 ⟨q3,q4⟩ ⟨h2,h3⟩ q5 h4 hvb hB ho c2 c3 c4 c5 hn (fun v ⟨l,_,e⟩=>e ▸ Jm l) f2 f1 f3 (fun s' h=>⟨h.1,h.2.1⟩) k).mono ?_
     rintro m t ⟨σ,s₂,g',w',W',Z',N',⟨k1,k2,rfl⟩,k4,k5⟩
     exact ⟨_,_,_,_,_,_,_,(k5.forget l k1).F6 k1,trivial⟩
    ·cases ek
   ·cases ek
 · cases ek
noncomputable section
def muS(P:Program)(pl:bH)(L:WgLink)(M:ah)(a b vb tv:Nat)(l0:List Int)(lf:List Nat)(s:AS):Option (Nat×Nat×AS):=match xY P pl a s with
 | some (.go s₀)=>match GI P M s₀ with
   |some s₁=>match xY P pl b s₁ with
    |some (.go s₂)=>match FI P L s₂ with
     |some s₃=>match UG vb tv l0 lf s₃ with
      |some s₄=>some (s₀.h.n,s₂.h.n,s₄)
      |none=>none
     |none=>none
    |_=>none
   |none=>none
 | _=>none
end
theorem bg.aaX[aI P](H:dQ P M)(HL:uJ P L){a b tv:Nat}{l' lf:List Nat}(hn:n < 63)(e:muS P pl L M a b vb tv l0 lf s=some (mb,gb,s₁))(ef:Jn n locks f Vs l0 v=true)(ks:kT P pl L M gb mb vb (VIn Vs) (DV n locks f) locks n (GK vb v l' s') n s₁)(S:bg P L base F w₀ .idle s m t) :
   aC P aZ (bg P L base F w₀ .idle s') m t:=by
 unfold muS at e
 split at e
 · rename_i s₀ h₀
   split at e
   ·rename_i s₂ h₂
    split at e
    ·rename_i s₃ h₃
     split at e
     ·rename_i s₄ h₄
      split at e
      ·rename_i s₅ h₅
       cases e
       refine aC.bind (K:=bg P L base F w₀ .idle s₀) ?_ fun m t AU=>?_
       ·obtain ⟨W,U,Z,N,ρ,g,w,S,hp⟩:=S
        refine (S.reach (ig a h₀ (.here rfl))).mono ?_
        rintro m t ⟨σ,s',g',w',rfl,k2,k3,k4⟩
        exact ⟨_,_,_,_,_,_,_,k3,trivial⟩
       ·refine (bg.mutex h₂ AU).bind fun m t Lp=>(Lp.reach (ig b h₃ (.here rfl))).bind ?_
        rintro m t ⟨s',rfl,Jj⟩
        exact (iW.group h₄ Jj).bind fun m t aiK=>aiK.phase H HL hn h₅ ef ks
      ·cases e
     ·cases e
    ·cases e
   ·cases e
 · cases e
end
end Go.Am
namespace Go.Am
open Go.Conc (born QuitsD G scase rcase Good)
open Go.Conc.Lib
open Go.ConcR (WgAt)
open Go.Ren (grow fK aN au Wk dM Idle ag X0 At aC Keep full Tm)
section
variable{P:Program}{ρ σ:Env}{F W U Z Z':Nat→Prop}{N:Nat}{h h':AH}{w w' w₀:World}{base:List Frame}{s s' s₀:AS}{pl:bH}{g g':Goroutine}{L:WgLink}{aZ:Machine→Outcome→World→Trace→Prop}{m:Machine}{t:Trace}{c:aB}{cs:List aB}{fid:FuncId}{v:Value}{args:Array Value}
def LQ(P:Program)(fid:FuncId)(v:Value)(s:AS):Option AS:=match opAt s with
 | some o=>match o.op with
   | .call c=>match c.callee with
    | .value (.func f)=>if f == fid && s.fr.round.isNone && c.args.size == 0 then Il P s s.h v else none
    |_=>none
   |_=>none
 | none=>none
theorem Jq(h:LQ P fid v s=some s'):Rw P fid v s s' :=by
 unfold LQ at h
 split at h
 · rename_i o ho
   obtain ⟨h1,ops,i,l,k,h2,h3,h4,h5⟩:=ku ho
   split at h
   ·rename_i c hop
    split at h
    ·rename_i f hf
     split at h
     ·rename_i hc
      simp only [Bool.and_eq_true,beq_iff_eq,Option.isNone_iff_eq_none] at hc
      obtain ⟨⟨rfl,hr⟩,ha⟩:=hc
      obtain ⟨a',h6,h7⟩:=mg h
      obtain ⟨callee,as,ats⟩:=c
      dsimp only at hf ha
      subst hf
      have:as = #[]:=Array.eq_empty_of_size_eq_zero ha
      subst this
      exact ⟨h1,hr,ops,i,l,k,o,ats,a',h2,h3,h4,h5,hop,h6,h7⟩
     ·cases h
    ·cases h
   ·cases h
 · cases h
theorem Sd.aeB[aI P](hp:bQ P fid=true)(hv:Plain v)(Xe:∀ {b:Frame} {bs:List Frame} {F:Nat→Prop} {w₀:World} {m:Machine} {t:Trace},bg P L (b :: bs) F w₀ .idle ⟨aB.enter P fid #[],[],h0⟩ m t→aC P aZ (Back P b bs F w₀ v) m t)(S:Sd P base F w₀ W U Z N ρ s g w m t)(k:Rw P fid v s s') :
   aC P aZ (fun m t=>∃(W' U' Z':Nat→Prop) (N':Nat) (σ:Env) (g':Goroutine) (w':World),ρ.Le σ∧Sd P base F w₀ W' U' Z' N' σ s' g' w' m t) m t:=by
 obtain ⟨hrun,eu,ops,i,l,kk,o,ats,a',t1,t2,t3,t4,t5,t6,t7⟩:=k
 refine (S.Ro (c:=[]) hrun t1).bind ?_
 rintro m t ⟨σ,lo,f,cs,w',hle,A,hat,hk,hkF,hlt⟩
 obtain ⟨hargs,sr,kr,Pg,hst⟩:=tJ (m:=true) (base:=base) hp A eu t2 t3 t4 t5
 have hargs':(#[]:Array Operand).map f.eval = #[]:=by simp
 rw [hargs'] at hst
 have hwk:Wk P true (fun _=>True) X0 (fun _=>False) (fun O' g' w''=>g' = dN (Frame.enter P fid #[] .normal) (f :: (cs ++ base))∧au (full Z w') (fun _=>False) w' w'') (full Z w') (dN f (cs ++ base)) w' :=
   Wk.mk rfl fun w₁ hr _=>⟨_,w₁,#[],hst w₁,.none w₁,.stop ⟨rfl,hr⟩⟩
 refine (Go.Ren.At.wk2 hwk hlt rfl hat).bind ?_
 rintro m t ⟨g₁,w₁,aaY,⟨rfl,o7⟩,aeC⟩
 have hsz:w'.heap.size≤w₁.heap.size:=o7.size
 have Jr:=A.rely o7
 have aeD:bg P L (f :: (cs ++ base)) (fun b=>full Z w' b∨F b) w₁ .idle ⟨aB.enter P fid #[],[],h0⟩ m t:=by
   refine ⟨W,U,fun b=>b < w₁.heap.size,N,uT,_,w₁,⟨⟨aaY.drop fun b hb=>Nat.lt_of_lt_of_le (hlt b hb) hsz,J8 _ _ _ _,fun b hb=>hb⟩,fun b hb=>Nat.lt_of_lt_of_le (hlt b (S.wu b hb)) hsz,fun b hb=>?_,fun b hb=>?_,.refl⟩,trivial⟩
   ·rcases hb with hb|hb
    ·exact Nat.lt_of_lt_of_le hb.1 hsz
    ·exact Nat.lt_of_lt_of_le (hlt b (S.fz b hb)) hsz
   ·rcases hb with hb|hb
    ·exact fun x=>hb.2 (S.wu b x)
    ·exact S.MW b hb
 refine (Xe aeD).mono ?_
 rintro m t ⟨W',U',Xf,N',w₂,aaZ,hwu,hfz,aa0,hkeep,aa1⟩
 have hsub:∀b,full Z w' b→full (fun b=>Xf b∧¬full Z w' b) w₂ b:=fun b hb=>⟨Nat.lt_of_lt_of_le hb.1 (Nat.le_trans hsz hkeep.2.1),fun x=>x.2 hb⟩
 have hrel:Rel σ (full (fun b=>Xf b∧¬full Z w' b) w₂) (fun _=>False) s.h w₂:=by
   have r1:Rel σ (full Z w') (fun _=>False) s.h { w₁ with heap:=w₂.heap }:=Jr.rel.rely ⟨hkeep.2.1,fun b hb=>hkeep.1 b (.inl hb),fun b hb=>hb.elim,.rfl,rfl,rfl⟩
   have r2:Rel σ (full Z w') (fun _=>False) s.h w₂:=⟨r1.cells,r1.obj,r1.own,r1.sep,r1.fresh,r1.low,r1.aV,r1.row,r1.mem⟩
   exact r2.mono hsub
 have aiL:wo P σ lo s ops i f cs (full (fun b=>Xf b∧¬full Z w' b) w₂) (fun _=>False) w₂:=⟨Jr.bound,Jr.fs,Jr.run,Jr.todo,Jr.uI,Jr.wanted,Jr.stk,hrel⟩
 subst t7
 refine ⟨W',U',fun b=>Xf b∧¬full Z w' b,N',σ,_,w₂,hle,⟨aaZ.alone.drop fun b hb=>⟨hwu b hb,fun hf=>aa0 b (.inl hf) hb⟩,?_,fun b hb=>aa1 b hb.1⟩,fun b hb=>⟨hwu b hb,fun hf=>aa0 b (.inl hf) hb⟩,fun b hb=>⟨hfz b (.inr hb),fun hf=>hf.2 (S.fz b hb)⟩,fun b hb=>aa0 b (.inr hb),hkF.trans ?_⟩
 · exact aiL.finish (.refl σ) (fun x _ hx=>hx) (Nat.le_refl _) (hv.vr σ) hrel t6
 · refine ⟨fun b hb=>?_,Nat.le_trans hsz hkeep.2.1,o7.os.trans hkeep.2.2.1,hkeep.2.2.2.trans o7.output⟩
   rw [hkeep.1 b (.inr hb)]
   exact aeC.1 b (S.fz b hb)
theorem Sd.ends{Post:Value→World→Prop}{K:Machine→Trace→Prop}{fd:Func}{h₁:AH}(S:Sd P [] F w₀ W U Z N ρ s g w m t)(hcs:s.cs=[])(hnd:aH s.fr=true)(hret:s.fr.ret=true)(hdf:s.fr.defers=[])(hdk:s.fr.dk=false)(hfd:P.funcs[s.fr.fn]? = some fd)(hx:(results fd s.fr.tmps).ar P none s.h=some (v,h₁))(hin:P.inits.idxOf? s.fr.fn=none)(hv:Plain v)
   (hP:∀w',Keep F w₀ w' → Post v w'):aC P (Good P Post) K m t:=by
 obtain ⟨⟨lo,f,cs,hlo,rfl,hf,hcs'⟩,rel⟩:=S.st.JX
 rw [hcs] at hcs'
 cases hcs'
 have key:∀d₁,∃v' w' es,stepG P true (dN f ([] ++ [])) (w.at d₁) = .ended (.done v') w' es∧aN X0 (full Z w) (fun _=>False) (w.at d₁) w' es∧Post v' w' :=fun d₁=>by
   obtain ⟨⟨lo',f',cs'',oC,hg,hf',YJ⟩,rel'⟩:=S.st.JX.at d₁
   have hb:f' = f∧cs'' = []:=by
    rw [hcs] at YJ
    cases YJ
    exact ⟨by injection hg with e1 _;exact e1.symm,rfl⟩
   obtain ⟨rfl,rfl⟩:=hb
   have hf0:F0 ρ s.fr f' :=hf'.f0 fun ops l k e=>by unfold aH at hnd;rw [e] at hnd;cases hnd
   have UI:f'.mode = .returning:=by
    have:=hf0.mode
    rw [hret] at this
    exact this
   have hdef:=hf0.defers
   rw [hdf] at hdef
   have hkind:=hf0.toFB.normal hdk
   have hfn:f'.fn=s.fr.fn:=hf0.fn
   obtain ⟨τ,v',w',es,h1,h2,h3,h4,h5,h8,h9⟩:=yE (X:=X0) ((Ci fd hf0.tmps).xM rel' hx) f'.fn
   have hvv:=hv.eq h4
   subst hvv
   refine ⟨v',w',seen P f'.fn es,?_,h2,hP w' (S.keep.trans ⟨fun b hb=>?_,h2.size,.of h2.os,h2.output⟩)⟩
   ·obtain ⟨fn,tmps,todo,defers,mode,kind,ro⟩:=f'
    dsimp only at UI hkind hfn hdef h1
    subst UI hkind hfn
    cases hdef
    rw [stepG_ret rfl]
    simp only [unwind,hfd]
    rw [h1]
    simp [doReturn,hin,GStep.after,List.append_nil]
   ·have hlt:=S.st.lt b (S.fz b hb)
    exact h2.heap b hlt fun x=>x.2 (S.fz b hb)
 exact Go.Ren.At.ends rfl S.st.at_ key
end
end Go.Am
namespace Go.Ren
section
variable{P:Program}{O O' D D' A F:Nat→Prop}{w w₁ w₂ w':World}{g g':Goroutine}{X:Event→Prop}{I:World→Prop}{m:Bool}
theorem fK.Oy{B:Nat}{e:Event}(h:fK X B O D' e)(hD:∀b,D' b→O b∨D b):fK X B O D e:=by
 rcases h with h|h
 · exact .inl h
 · right
   revert h
   cases e.loc with
   |cell a=>exact fun h=>h.elim .inl fun x=>(hD _ x.1).imp id fun y=>⟨y,x.2⟩
   |obj r=>exact fun h=>h.elim .inl fun x=>(hD _ x.1).imp id fun y=>⟨y,x.2⟩
   |_=>exact id
theorem Wk.Oy{S:(Nat→Prop)→Goroutine→World→Prop}(h:Wk P m I X D' S O g w):(∀b,D' b→O b∨D b)→Wk P m I X D S O g w:=by
 induction h with
 | stop h=>intro _;exact .stop h
 | @step O g w hs f u es h k ih=>
   intro hD
   have less:∀w₁,au O D w w₁→au O D' w w₁:=fun w₁ r=>⟨r.size,r.own,fun b hb=>(hD b hb).elim (r.own b) (r.ro b),r.os,r.output,r.tape⟩
   refine .step hs f u es (fun w₁ hr hi=>?_) fun w₁ hr hi=>ih w₁ (less w₁ hr) hi fun b hb=>(hD b hb).imp .inl id
   obtain ⟨h1,h2⟩:=h w₁ (less w₁ hr) hi
   exact ⟨h1,h2.size,h2.heap,h2.os,h2.output,h2.tape,fun e he=>(h2.ev e he).Oy fun b hb=>(hD b hb).imp .inl id⟩
theorem Wk.bnd{S:(Nat→Prop)→Goroutine→World→Prop}(h:Wk P m I X D S O g w):(∀b,O b→b < w.heap.size)→(∀b,D b→b < w.heap.size) →
   Wk P m I X D (fun O' g' w'=>S O' g' w' ∧ (∀b,O' b→b < w'.heap.size)∧(∀b,D b→b < w'.heap.size)∧∀b,O b→O' b) O g w:=by
 induction h with
 | stop h=>intro hO hD;exact .stop ⟨h,hO,hD,fun _=>id⟩
 | @step O g w hs f u es h k ih=>
   intro hO hD
   refine .step hs f u es h fun w₁ hr hi=>?_
   obtain ⟨_,h2⟩:=h w₁ hr hi
   refine (ih w₁ hr hi (fun b hb=>?_) fun b hb=>Nat.lt_of_lt_of_le (hD b hb) (Nat.le_trans hr.size h2.size)).mono fun O' g' w' z=>⟨z.1,z.2.1,z.2.2.1,fun b hb=>z.2.2.2 b (.inl hb)⟩
   rcases hb with hb|hb
   ·exact Nat.lt_of_lt_of_le (hO b hb) (Nat.le_trans hr.size h2.size)
   ·exact hb.2
theorem Wk.apart{S:(Nat→Prop)→Goroutine→World→Prop}(h:Wk P m I X D S O g w):(∀b,A b→b < w.heap.size∧¬O b) →
   Wk P m I X D (fun O' g' w'=>S O' g' w' ∧ ∀b,A b→b < w'.heap.size∧¬O' b) O g w:=by
 induction h with
 | stop h=>intro hA;exact .stop ⟨h,hA⟩
 | @step O g w hs f u es h k ih=>
   intro hA
   refine .step hs f u es h fun w₁ hr hi=>ih w₁ hr hi fun b hb=>?_
   obtain ⟨_,h2⟩:=h w₁ hr hi
   have h3:=h2.size
   have h4:=hr.size
   have h5:=(hA b hb).1
   exact ⟨by omega,fun x=>x.elim (hA b hb).2 fun y=>by omega⟩
theorem Wk.read{S:(Nat→Prop)→Goroutine→World→Prop}(h:Wk P m I X A S O g w)(hA:∀b,A b→b < w.heap.size∧¬O b) :
   Wk P m I X (fun _=>False) (fun O' g' w'=>∃iP,S iP g' w' ∧ (O' = fun b=>iP b∨A b)∧(∀b,A b→¬iP b)∧au A A w w') (fun b=>O b∨A b) g w:=by
 refine (((h.apart hA).frame hA hA).Oy (D:=fun _=>False) fun b hb=>.inl (.inr hb)).mono ?_
 rintro O' g' w' ⟨iP,⟨h1,h2⟩,rfl,h3⟩
 exact ⟨iP,h1,rfl,fun b hb=>(h2 b hb).2,h3⟩
end
end Go.Ren
namespace Go.Am
open Go.Ren (grow fK aN au Wk X0)
section
variable{P:Program}{ρ σ τ:Env}{O O' D D':Nat→Prop}{h h' hA:AH}{w w':World}{base:List Frame}{pl:bH}{s s':AS}{K L:AS→Prop}{Q R:Value→AH→Prop}{c:aB}{cs:List aB}{f:FuncId}{args:Array Value}{g:Goroutine}
structure bZ(P:Program)(K:AS→Prop)(s:AS):Prop where
 go:∀ {ρ:Env} {O D:Nat→Prop} {base:List Frame} {g:Goroutine} {w:World},(∀b,O b→b < w.heap.size)→(∀b,D b→b < w.heap.size)→lI P ρ O D base s g w →
 Wk P true (fun _=>True) X0 D (fun O' g' w'=>∃(σ:Env) (s':AS),K s' ∧ ρ.Le σ∧lI P σ O' D base s' g' w') O g w
structure bJ(P:Program)(Q:Value→AH→Prop)(s:AS):Prop where
 go:∀ {ρ:Env} {O D:Nat→Prop} {b:Frame} {bs:List Frame} {g:Goroutine} {w:World},(∀b,O b→b < w.heap.size)→(∀b,D b→b < w.heap.size)→lI P ρ O D (b :: bs) s g w →
 Wk P true (fun _=>True) X0 D (fun O' g' w'=>∃(σ:Env) (v:Value) (h:AH) (v':Value),Q v h∧ρ.Le σ∧VR σ v v' ∧ g' = dN (b.finish v') bs∧Rel σ O' D h w') O g w
theorem aY.runs[aI P](k:aY P pl K s):bZ P K s:=⟨fun _ _ S=>iF k S⟩
theorem jW.GL[aI P](k:jW P pl Q s):bJ P Q s:=⟨fun _ _ S=>Nr k S⟩
theorem bZ.here(h:K s):bZ P K s:=⟨fun _ _ S=>.stop ⟨_,_,h,.refl _,S⟩⟩
theorem bZ.bind(k:bZ P K s)(l:∀s,K s→bZ P L s):bZ P L s:=by
 refine ⟨fun hO hD S=>?_⟩
 refine ((k.go hO hD S).bnd hO hD).bind ?_
 rintro iP g₁ w₁ ⟨⟨σ,s₁,h1,h2,h3⟩,h4,h5,_⟩
 refine ((l s₁ h1).go h4 h5 h3).mono ?_
 rintro uX g₂ w₂ ⟨τ,s₂,k1,k2,k3⟩
 exact ⟨τ,s₂,k1,h2.trans k2,k3⟩
theorem bZ.mono(k:bZ P K s)(l:∀s,K s→L s):bZ P L s:=k.bind fun s h=>bZ.here (l s h)
theorem bZ.GL(k:bZ P K s)(l:∀s,K s→bJ P Q s):bJ P Q s:=by
 refine ⟨fun hO hD S=>?_⟩
 refine ((k.go hO hD S).bnd hO hD).bind ?_
 rintro iP g₁ w₁ ⟨⟨σ,s₁,h1,h2,h3⟩,h4,h5,_⟩
 refine ((l s₁ h1).go h4 h5 h3).mono ?_
 rintro uX g₂ w₂ ⟨τ,v,h,v',k1,k2,k3⟩
 exact ⟨τ,v,h,v',k1,h2.trans k2,k3⟩
theorem bJ.mono(k:bJ P Q s)(l:∀v h,Q v h→R v h):bJ P R s:=by
 refine ⟨fun hO hD S=>?_⟩
 refine (k.go hO hD S).mono ?_
 rintro uX g₂ w₂ ⟨τ,v,h,v',k1,k2⟩
 exact ⟨τ,v,h,v',l v h k1,k2⟩
end
end Go.Am
namespace Go.Am
open Go.Ren (grow fK aN au Wk X0)
def OkF(p:Nat→Prop):Fn→Prop
 | .yield l=>p l
 | _=>True
inductive pK(p:Nat→Prop):Value→Prop
 | bool (b:Bool):pK p (.bool b)
 | int (k:IntKind) (n:Int):pK p (.int k n)
 | string (s:ByteArray):pK p (.string s)
 | fE:pK p (.pointer none)
 | ptr {a:Addr} (h:p a.block):pK p (.pointer (some a))
 | nilslice (n c:Nat):pK p (.slice none n c)
 | slice {a:Addr} {n c:Nat} (h:p a.block):pK p (.slice (some a) n c)
 | dB:pK p (.map none)
 | map {r:Nat} (h:p r):pK p (.map (some r))
 | dO:pK p (.chan none)
 | chan {r:Nat} (h:p r):pK p (.chan (some r))
 | nilFunc:pK p .nilFunc
 | func {f:Fn} {a b:Array Value} (hf:OkF p f) (h:∀x∈a,pK p x) (k:∀x∈b,pK p x):pK p (.func f a b)
 | nilIface:pK p .nilIface
 | iface {t:TypeId} {v:Value} (h:pK p v):pK p (.iface t v)
 | agg {a:Array Value} (h:∀x∈a,pK p x):pK p (.agg a)
 | tuple {a:Array Value} (h:∀x∈a,pK p x):pK p (.tuple a)
theorem dF{ρ:Env}{a a':Array Value}(hs:a.size=a'.size){x:Value}(hx:x∈a):∃(i:Nat) (y:Value),a[i]? = some x∧a'[i]? = some y:=by
 obtain ⟨i,hi,rfl⟩:=Array.mem_iff_getElem.1 hx
 exact ⟨i,a'[i]'(hs ▸ hi),by simp [hi],by simp [hs ▸ hi]⟩
theorem VR.ok{ρ:Env}{q:Nat→Prop}{v v':Value}(k:VR ρ v v'):pK q v→pK (fun b=>ρ.born b∧q b) v:=by
 induction k with
 | bool b=>intro _;exact .bool b
 | int k n=>intro _;exact .int k n
 | string s=>intro _;exact .string s
 | fE=>intro _;exact .fE
 | ptr h=>intro k;cases k with|ptr k=>exact .ptr ⟨h,k⟩
 | nilslice n c=>intro _;exact .nilslice n c
 | slice h _=>intro k;cases k with|slice k=>exact .slice ⟨h,k⟩
 | dB=>intro _;exact .dB
 | map h=>intro k;cases k with|map k=>exact .map ⟨h.1,k⟩
 | dO=>intro _;exact .dO
 | chan h=>intro k;cases k with|chan k=>exact .chan ⟨h.1,k⟩
 | nilFunc=>intro _;exact .nilFunc
 | @func f f' a a' b b' hf hs _ ks _ ih ik=>
   intro k
   cases k with
   |func k1 k2 k3=>
    refine .func ?_ (fun x hx=>?_) fun x hx=>?_
    ·cases hf with
     |yield h=>exact ⟨h.1,k1⟩
     |_=>trivial
    ·obtain ⟨i,y,h1,h2⟩:=dF (ρ:=ρ) hs hx
     exact ih i x y h1 h2 (k2 x hx)
    ·obtain ⟨i,y,h1,h2⟩:=dF (ρ:=ρ) ks hx
     exact ik i x y h1 h2 (k3 x hx)
 | nilIface=>intro _;exact .nilIface
 | iface _ ih=>intro k;cases k with|iface k=>exact .iface (ih k)
 | agg hs _ ih=>
   intro k
   cases k with
   |agg k=>
    refine .agg fun x hx=>?_
    obtain ⟨i,y,h1,h2⟩:=dF (ρ:=ρ) hs hx
    exact ih i x y h1 h2 (k x hx)
 | tuple hs _ ih=>
   intro k
   cases k with
   |tuple k=>
    refine .tuple fun x hx=>?_
    obtain ⟨i,y,h1,h2⟩:=dF (ρ:=ρ) hs hx
    exact ih i x y h1 h2 (k x hx)
structure Env.Ag(ρ τ:Env)(b:Nat):Prop where
 born:τ.born b
 to:τ.to b=ρ.to b
 aV:ρ.aV b→τ.aV b
 u:τ.u b=ρ.u b
 ext:τ.ext b=ρ.ext b
theorem VR.carry{ρ τ:Env}{p:Nat→Prop}{v v':Value}(k:VR ρ v v')(hp:∀b,p b→ρ.born b→ρ.Ag τ b):pK p v→VR τ v v' :=by
 have had:∀a:Addr,ρ.Ag τ a.block→τ.addr a=ρ.addr a:=fun a h=>by unfold Env.addr;rw [h.to]
 have hob:∀r r',p r→ρ.ob r r' → τ.ob r r' :=fun r r' h k=>⟨(hp r h k.1).born,(hp r h k.1).to.trans k.2⟩
 induction k with
 | bool b=>intro _;exact .bool b
 | int k n=>intro _;exact .int k n
 | string s=>intro _;exact .string s
 | fE=>intro _;exact .fE
 | ptr h=>intro k;cases k with|ptr k=>rw [←had _ (hp _ k h)];exact .ptr (hp _ k h).born
 | nilslice n c=>intro _;exact .nilslice n c
 | slice h hc=>
   intro k
   cases k with
   |slice k=>
    have e:=hp _ k h
    rw [←had _ e]
    refine .slice e.born (hc.imp id fun ⟨x,y,z⟩=>⟨e.aV x,y,?_⟩)
    rw [e.u,e.ext];exact z
 | dB=>intro _;exact .dB
 | map h=>intro k;cases k with|map k=>exact .map (hob _ _ k h)
 | dO=>intro _;exact .dO
 | chan h=>intro k;cases k with|chan k=>exact .chan (hob _ _ k h)
 | nilFunc=>intro _;exact .nilFunc
 | @func f f' a a' b b' hf hs _ ks _ ih ik=>
   intro k
   cases k with
   |func k1 k2 k3=>
    refine .func ?_ hs (fun i x y hx hy=>ih i x y hx hy (k2 x (Array.mem_of_getElem? hx))) ks fun i x y hx hy=>ik i x y hx hy (k3 x (Array.mem_of_getElem? hx))
    cases hf with
    |yield h=>exact .yield (hob _ _ k1 h)
    |func f=>exact .func f
    |method n=>exact .method n
    |methodOf t n=>exact .methodOf t n
    |via t p f x=>exact .via t p f x
 | nilIface=>intro _;exact .nilIface
 | iface _ ih=>intro k;cases k with|iface k=>exact .iface (ih k)
 | agg hs _ ih=>intro k;cases k with|agg k=>exact .agg hs fun i x y hx hy=>ih i x y hx hy (k x (Array.mem_of_getElem? hx))
 | tuple hs _ ih=>intro k;cases k with|tuple k=>exact .tuple hs fun i x y hx hy=>ih i x y hx hy (k x (Array.mem_of_getElem? hx))
def Env.cut(ρ:Env)(n:Nat):Env:={ ρ with born:=fun b=>ρ.born b∧b < n }
structure AH.Sub(hA h:AH):Prop where
 look:∀b B,hA.look b=some B→∃bT,h.look b=some bT∧B.obj=bT.obj∧B.dP=bT.dP∧B.u=bT.u∧B.ro=true
 cells:∀b B,hA.look b=some B→∃c e f,B.obj = .cells c e f∧∀x∈c,pK (· < hA.n) x
 tr:∀b B,hA.tr.get b=some B→∃bT,h.tr.get b=some bT∧B.obj=bT.obj
 bU:∀f l,hA.bU.get f=some l→∃l',h.bU.get f=some l' ∧ l.Sublist l'
 mem:∀f l b,hA.bU.get f=some l→b∈l→b < hA.n∧∃B,hA.tr.get b=some B∧B.dP=some f
section
variable{P:Program}{ρ σ τ:Env}{O O' D D':Nat→Prop}{h h' hA:AH}{w w':World}{base:List Frame}{pl:bH}{s s':AS}{K L:AS→Prop}{Q R:Value→AH→Prop}{c:aB}{cs:List aB}{f:FuncId}{args:Array Value}{g:Goroutine}
theorem Env.UJ{n b:Nat}(hb:b < n)(k:ρ.born b):ρ.Ag (ρ.cut n) b:=⟨⟨k,hb⟩,rfl,id,rfl,rfl⟩
theorem Rel.view(r:Rel ρ O D h w)(k:hA.Sub h):Rel (ρ.cut hA.n) (fun _=>False) (fun b=>O b∨D b) hA w:=by
 have up:∀b n,hA.upTo (ρ.cut hA.n) b n→h.upTo ρ b n:=by
   rintro b n ⟨B',c,e,f,h1,h2,h3⟩
   obtain ⟨B,k1,k2⟩:=k.tr b B' h1
   exact ⟨B,c,e,f,k1,k2 ▸ h2,h3⟩
 refine ⟨fun b B c e f hb hk ho=>?_,fun b B hb hk ho=>?_,fun b B hb hk=>?_,fun b b' B B' hb hb' hk hk' hne hs=>?_,fun b hb=>hb.2,fun b hb=>r.low b hb.1,fun b B hb hk=>?_,fun f l hfl=>?_,fun f l hfl b hb=>k.mem f l b hfl hb⟩
 · obtain ⟨bT,k1,k2,k7,k8,k9⟩:=k.look b B hk
   obtain ⟨c',e',f',k3,k4⟩:=k.cells b B hk
   rw [ho] at k3
   cases k3
   obtain ⟨C,E,g,c1,c2,c3,c4,c5⟩:=r.cells b bT c e f hb.1 k1 (k2 ▸ ho)
   refine ⟨C,E,g,c1,c2,c3,fun hn=>c4 fun hp=>hn ⟨k7.trans hp.1,k9,k8.trans hp.2.2⟩,fun i v hv=>?_⟩
   obtain ⟨v',p1,p2⟩:=c5 i v hv
   exact ⟨v',p1,p2.carry (fun b hb hb'=>Env.UJ hb hb') (k4 v (Array.mem_of_getElem? hv))⟩
 · obtain ⟨c',e',f',k3,_⟩:=k.cells b B hk
   exact absurd k3 (ho _ _ _)
 · obtain ⟨bT,k1,_,_,_,k5⟩:=k.look b B hk
   exact ⟨fun z=>absurd (k5.symm.trans z) (by decide),.inr (r.own b bT hb.1 k1).2⟩
 · obtain ⟨bT,k1,_,k3,k4,k5⟩:=k.look b B hk
   obtain ⟨Fz,j1,_,j3,j4,j5⟩:=k.look b' B' hk'
   rcases r.sep b b' bT Fz hb.1 hb'.1 k1 j1 hne hs with ⟨f,g1,g2⟩|⟨⟨g1,_,g3⟩,i1,_,i3⟩
   ·exact .inl ⟨f,k3.trans g1,j3.trans g2⟩
   ·exact .inr ⟨⟨k3.trans g1,k5,k4.trans g3⟩,j3.trans i1,j5,j4.trans i3⟩
 · obtain ⟨bT,k1,_,k3,k4,_⟩:=k.look b B hk
   obtain ⟨s1,s2⟩:=r.aV b bT hb.1 k1
   exact ⟨s1.trans (by rw [k3]),fun z=>(s2 (k3 ▸ z)).trans k4.symm⟩
 · obtain ⟨l',g1,g2⟩:=k.bU f l hfl
   exact ((r.row f l' g1).sublist g2).imp fun hp b1 b2 hs n n' u1 u2=>hp b1.1 b2.1 hs n n' (up _ _ u1) (up _ _ u2)
theorem bZ.call[aI P](k:bJ P Q ⟨aB.enter P f args,[],hA⟩)(hs:hA.Sub h)(ha:∀x∈args,pK (· < hA.n) x)(hq:∀p:Nat→Prop,(∀x∈args,pK p x)→∀v h',Q v h' → pK p v)(hfin:∀v h',Q v h' → ∃a',az P c h v=some a') :
   bZ P (fun s'=>∃v h' a',Q v h' ∧ az P c h v=some a' ∧ s' = ⟨a',cs,h⟩) ⟨aB.enter P f args,c :: cs,h⟩:=by
 refine ⟨?_⟩
 intro ρ O D base g w hO hD S
 obtain ⟨⟨lo,fr,cs',hlo,rfl,hf,hcs⟩,rel⟩:=S
 cases hcs with
 | @cons lo' _ _ fc _ fcs oC hfc aiN=>
   have hf0:F0 ρ (aB.enter P f args) fr:=by
    cases hf with
    |plain hf=>exact hf
    |ahead kk _=>
     obtain ⟨k1,k2,t1,_⟩:=kk.todo
     cases t1
   have eT:(aB.enter P f args).tmps=args ++ Array.replicate (((P.funcs[f]?).map (·.ntmps)).getD 0 - args.size) undef:=rfl
   have S0:lI P (ρ.cut hA.n) (fun _=>False) (fun b=>O b∨D b) (fc :: (fcs ++ base)) ⟨aB.enter P f args,[],hA⟩ (dN fr ([] ++ fc :: (fcs ++ base))) w:=by
    refine ⟨⟨0,fr,[],Nat.zero_le _,rfl,.plain ?_,.nil⟩,rel.view hs⟩
    refine ⟨⟨hf0.fn,?_,hf0.mode,hf0.kind,?_⟩,?_,?_⟩
    ·have:=hf0.defers
     generalize fr.defers=d at this
     cases this
     exact .nil
    ·have:=hf0.round
     generalize fr.roundOf=r at this
     cases this
     exact .none
    ·refine ⟨hf0.tmps.1,fun i x y hx hy=>?_⟩
     have hxy:=hf0.tmps.2 i x y hx hy
     rw [eT] at hx
     by_cases hi:i < args.size
     ·rw [Array.getElem?_append_left hi] at hx
      exact hxy.carry (fun b hb hb'=>Env.UJ hb hb') (ha x (Array.mem_of_getElem? hx))
     ·rw [Array.getElem?_append_right (by omega),Array.getElem?_replicate] at hx
      split at hx
      ·cases hx
       exact hxy.carry (p:=fun _=>False) (fun b hb _=>hb.elim) (.tuple fun x hx=>by simp [undef] at hx)
      ·cases hx
    ·have:=hf0.todo
     generalize fr.todo=d at this
     cases this with
     |cons hi hl=>
      cases hl
      cases hi
      exact .cons (.code _) .nil
   have hargs:∀x∈args,pK (fun b=>ρ.born b∧b < hA.n) x:=fun x hx=>by
    obtain ⟨i,hi,rfl⟩:=Array.mem_iff_getElem.1 hx
    have h1:(aB.enter P f args).tmps[i]? = some args[i]:=by rw [eT,Array.getElem?_append_left hi];simp [hi]
    have h2:i < fr.tmps.size:=by rw [←hf0.tmps.1];exact (Array.getElem?_eq_some_iff.1 h1).1
    exact (hf0.tmps.2 i _ _ h1 (Array.getElem?_eq_getElem h2)).ok (ha _ hx)
   have W:=((k.go (fun b hb=>hb.elim) (fun b hb=>hb.elim (hO b) (hD b)) S0).frame (F:=O) (fun b hb=>⟨hO b hb,id⟩) (fun b hb=>⟨hb.elim (hO b) (hD b),id⟩)).Oy (D:=D) fun b hb=>hb.imp .inr id
   have e1:(fun b=>False∨O b)=O:=by funext b;simp
   rw [e1] at W
   refine W.mono fun O' g' w' hz=>?_
   obtain ⟨iP,⟨τ,v,h₁,v',q1,q2,q3,q4,q5⟩,rfl,o7⟩:=hz
   obtain ⟨a',ha'⟩:=hfin v h₁ q1
   have hv:VR ρ v v' :=q3.carry (fun b hb hb'=>⟨hb.1,(q2.to b hb).symm,(q2.aV b hb).1,(q2.u b hb).symm,(q2.ext b hb).symm⟩) (hq _ hargs v h₁ q1)
   have aa2:au O D w w' :=⟨o7.size,o7.own,fun b hb=>o7.ro b (.inr hb),o7.os,o7.output,o7.tape⟩
   exact ⟨ρ,_,⟨v,h₁,a',q1,ha',rfl⟩,.refl ρ,⟨lo',_,fcs,Nat.le_trans oC hlo,q4,kV hfc hlo hv ha',aiN⟩,(rel.rely aa2).mono fun b hb=>.inr hb⟩
end
end Go.Am
namespace Go.Am
open Go.Conc (born QuitsD G scase rcase Good)
open Go.Conc.Lib
open Go.ConcR (WgAt)
open Go.Ren (grow fK aN au Wk X0 At aC Keep full Tm)
structure Sr(P:Program)(base:List Frame)(F:Nat→Prop)(w₀:World)(W U Z:Nat→Prop)(N:Nat)(ρ:Env)(s:AS)(g:Goroutine)(w:World)(m:Machine)(t:Trace):Prop where
 at_:At P W U (fun b=>Z b∧¬F b) N 0 g w m t
 JX:lI P ρ (full Z w) F base s g w
 lt:∀b,Z b→b < w.heap.size
 wu:∀b,W b∨U b→Z b
 fz:∀b,F b→Z b
 MW:∀b,F b→¬(W b∨U b)
 keep:Keep F w₀ w
section
variable{P:Program}{ρ σ τ:Env}{O O' D D' F W U Z:Nat→Prop}{N:Nat}{h h' hA:AH}{w w' w₀:World}{base:List Frame}{pl:bH}{s s':AS}{K L:AS→Prop}{Q R:Value→AH→Prop}{c:aB}{cs:List aB}{f:FuncId}{args:Array Value}{g:Goroutine}{m:Machine}{t:Trace}{aZ:Machine→Outcome→World→Trace→Prop}
theorem Sr.runs(k:bZ P K s)(S:Sr P base F w₀ W U Z N ρ s g w m t) :
   aC P aZ (fun m t=>∃(σ:Env) (s':AS) (g':Goroutine) (w':World),K s' ∧ ρ.Le σ∧Sr P base F w₀ W U Z N σ s' g' w' m t) m t:=by
 have hF:∀b,F b→b < w.heap.size∧¬full Z w b:=fun b hb=>⟨S.lt b (S.fz b hb),fun x=>x.2 (S.fz b hb)⟩
 have e:(fun b=>full Z w b∨F b)=full (fun b=>Z b∧¬F b) w:=by
   funext b
   apply propext
   constructor
   ·rintro (hb|hb)
    ·exact ⟨hb.1,fun x=>hb.2 x.1⟩
    ·exact ⟨(hF b hb).1,fun x=>x.2 hb⟩
   ·rintro ⟨h1,h2⟩
    by_cases hb:F b
    ·exact .inr hb
    ·exact .inl ⟨h1,fun x=>h2 ⟨x,hb⟩⟩
 have hlt0:∀b,(Z b∧¬F b)→b < w.heap.size:=fun b hb=>S.lt b hb.1
 refine (Go.Ren.At.wk2 ((k.go (fun b hb=>hb.1) (fun b hb=>(hF b hb).1) S.JX).read hF) hlt0 e S.at_).mono ?_
 rintro m t ⟨g',w',hat,⟨iP,⟨σ,s',h1,h2,h3⟩,h4,h5,h6⟩,hk⟩
 have hlt':∀b,Z b→b < w'.heap.size:=fun b hb=>Nat.lt_of_lt_of_le (S.lt b hb) h6.size
 have e1:iP=full Z w' :=by
   funext b
   apply propext
   have hb:=congrFun h4 b
   constructor
   ·intro ho
    have:full (fun b=>Z b∧¬F b) w' b:=by rw [hb];exact .inl ho
    exact ⟨this.1,fun x=>this.2 ⟨x,fun y=>h5 b y ho⟩⟩
   ·rintro ⟨x1,x2⟩
    have:full (fun b=>Z b∧¬F b) w' b:=⟨x1,fun y=>x2 y.1⟩
    rw [hb] at this
    exact this.resolve_right fun y=>x2 (S.fz b y)
 subst e1
 exact ⟨σ,s',g',w',h1,h2,hat,h3,hlt',S.wu,S.fz,S.MW,S.keep.trans ⟨h6.own,h6.size,h6.os,h6.output⟩⟩
theorem Sr.sd(S:Sr P base F w₀ W U Z N ρ s g w m t)(hd:aH s.fr=true):Sd P base F w₀ W U Z N ρ ⟨s.fr,s.cs,⟨s.h.n,.nil,.nil⟩⟩ g w m t:=by
 have S' :=S.JX.forget [] hd
 have e:s.h.forget []=⟨s.h.n,.nil,.nil⟩:=rfl
 rw [e] at S'
 have nl:∀b B,(⟨s.h.n,.nil,.nil⟩:AH).look b=some B→False:=fun b B h=>by cases h
 refine ⟨⟨S.at_.drop fun b hb=>hb.1,⟨S'.run,?_⟩,S.lt⟩,S.wu,S.fz,S.MW,S.keep⟩
 have r:=S'.rel
 exact ⟨fun b B _ _ _ _ hl=>(nl b B hl).elim,fun b B _ hl=>(nl b B hl).elim,fun b B _ hl=>(nl b B hl).elim,fun b _ B _ _ _ hl=>(nl b B hl).elim,r.fresh,r.low,fun b B _ hl=>(nl b B hl).elim,fun f l hf=>(by cases hf),fun f l hf=>(by cases hf)⟩
def Xg(to:Nat→Nat×Nat)(hA:AH):Env:={ to:=to,born:=fun b=>b < hA.n,aV:=fun _=>False,u:=fun _=>0,ext:=fun b=>match hA.look b with|some B=>qW B.obj|none=>0 }
theorem UK{W:World}{to:Nat→Nat×Nat}(hl:∀b B,hA.look b=some B→B.Q8∧∃c e f C E,B.obj = .cells c e f∧(∃g,W.heap[(to b).1]? = some (.cells C E g))∧(to b).2+c.size≤C.size∧∀(i:Nat) v,c[i]? = some v→C[(to b).2+i]? = some v∧Plain v)
   (hf:hA.bU = .nil) (hlow:∀b,b < hA.n→(to b).1 < W.heap.size):Rel (Xg to hA) (fun _=>False) (fun b=>b < W.heap.size) hA W:=by
 refine ⟨fun b B c e f hb hk ho=>?_,fun b B hb hk ho=>?_,fun b B hb hk=>?_,fun b b' B B' hb hb' hk hk' hne hs=>?_,fun b hb=>hb,fun b hb=>hlow b hb,fun b B hb hk=>?_,fun f l hfl=>?_,fun f l hfl b hb=>?_⟩
 · obtain ⟨hp,c',e',f',C,E,h1,⟨g,h2⟩,h3,h4⟩:=hl b B hk
   rw [ho] at h1
   cases h1
   have Qj:(Xg to hA).ext b=c.size:=by
    show (match hA.look b with|some B=>qW B.obj|none=>0)=c.size
    rw [hk]
    show qW B.obj=c.size
    rw [ho]
    rfl
   refine ⟨C,E,g,h2,by rw [Qj];exact h3,Nat.le_of_eq Qj.symm,fun hn=>absurd hp hn,fun i v hv=>?_⟩
   obtain ⟨k1,k2⟩:=h4 i v hv
   exact ⟨v,k1,k2.vr _⟩
 · obtain ⟨_,c',e',f',C,E,h1,_⟩:=hl b B hk
   exact absurd h1 (ho _ _ _)
 · exact ⟨fun z=>absurd ((hl b B hk).1.2.1.symm.trans z) (by decide),.inr (hlow b hb)⟩
 · exact .inr ⟨(hl b B hk).1,(hl b' B' hk').1⟩
 · obtain ⟨⟨h1,_⟩,_⟩:=hl b B hk
   exact ⟨⟨fun z=>z.elim,fun z=>z h1⟩,fun z=>absurd h1 z⟩
 · rw [hf] at hfl;cases hfl
 · rw [hf] at hfl;cases hfl
theorem Sr.start{W:World}{f:FuncId}{args':Array Value}(hr:Rel ρ (fun _=>False) (fun b=>b < W.heap.size) hA W)(ha:AR (VR ρ) args args') :
   Sr P [] (fun b=>b < W.heap.size) W (fun _=>False) (fun _=>False) (fun b=>b < W.heap.size) 1 ρ ⟨aB.enter P f args,[],hA⟩ (dN (Frame.enter P f args' .normal) []) W (Go.Conc.solo (G (Frame.enter P f args' .normal) []) W) #[]:=
 ⟨(Go.Ren.UL _ W).drop fun b hb=>hb.elim,⟨⟨0,_,[],Nat.zero_le _,rfl,.plain (Ad f ha),.nil⟩,hr.mono fun b hb=>hb.elim⟩,fun b hb=>hb,fun b hb=>(hb.elim id id:False).elim,fun b hb=>hb,fun b _ hb=>(hb.elim id id:False),.refl⟩
end
end Go.Am
namespace Go.Am
section
variable{P:Program}{pl:bH}{s s' s₁ s₂:AS}{K:AS→Prop}{ob:List (Value×Value)}{v:Value}{h:AH}{n:Nat}{Q:Value→AH→Prop}
theorem bZ.forget(l:List Nat)(hd:aH s.fr=true):bZ P (· = ⟨s.fr,s.cs,s.h.forget l⟩) s:=⟨fun hO hD S=>.stop ⟨_,_,rfl,.refl _,S.forget l hd⟩⟩
end
theorem jf{x:Int}(h1 : -9223372036854775808≤x)(h2:x≤9223372036854775807):IntKind.i64.wrap x=x:=by
 simp [IntKind.wrap,IntKind.min,IntKind.max,IntKind.signed,IntKind.bits]<;>(try split)<;>omega
theorem YK(a b:Int):(if b > a then b else a)=max a b:=by rw [Int.max_def];split<;>split<;>omega
theorem aeE(a b:Int):(if b < a then b else a)=min a b:=by rw [Int.min_def];split<;>split<;>omega
end Go.Am
namespace Go.Am
theorem VR.okV{ρ:Env}{q:Nat→Prop}{v v':Value}(k:VR ρ v v')(hp:∀b,ρ.born b→q b):pK q v:=by
 induction k with
 | bool b=>exact .bool b
 | int k n=>exact .int k n
 | string s=>exact .string s
 | fE=>exact .fE
 | ptr h=>exact .ptr (hp _ h)
 | nilslice n c=>exact .nilslice n c
 | slice h _=>exact .slice (hp _ h)
 | dB=>exact .dB
 | map h=>exact .map (hp _ h.1)
 | dO=>exact .dO
 | chan h=>exact .chan (hp _ h.1)
 | nilFunc=>exact .nilFunc
 | @func f f' a a' b b' hf hs _ ks _ ih ik=>
   refine .func ?_ (fun x hx=>?_) fun x hx=>?_
   ·cases hf with
    |yield h=>exact hp _ h.1
    |_=>trivial
   ·obtain ⟨i,y,h1,h2⟩:=dF (ρ:=ρ) hs hx
    exact ih i x y h1 h2
   ·obtain ⟨i,y,h1,h2⟩:=dF (ρ:=ρ) ks hx
    exact ik i x y h1 h2
 | nilIface=>exact .nilIface
 | iface _ ih=>exact .iface ih
 | agg hs _ ih=>
   refine .agg fun x hx=>?_
   obtain ⟨i,y,h1,h2⟩:=dF (ρ:=ρ) hs hx
   exact ih i x y h1 h2
 | tuple hs _ ih=>
   refine .tuple fun x hx=>?_
   obtain ⟨i,y,h1,h2⟩:=dF (ρ:=ρ) hs hx
   exact ih i x y h1 h2
theorem Plain.okV{p:Nat→Prop}{v:Value}(h:Plain v):pK p v:=VR.okV (ρ:=uT) h fun b hb=>hb.elim
section
variable{P:Program}{Q:Value→AH→Prop}{R:Value→Prop}{c:aB}{cs:List aB}{f:FuncId}{args:Array Value}{h hA:AH}{nA:Nat}
theorem GM:∀(l:List (Nat×cZ)) {b:Nat} {B:cZ},(wL l).get b=some B→(b,B)∈l
 | [],b,B,e=>by cases e
 | (c,C) :: l,b,B,e=>by
   unfold wL at e
   rw [Tr.dK] at e
   split at e
   ·rename_i hb;subst hb;cases e;exact .head _
   ·exact .tail _ (GM l e)
end
end Go.Am
namespace Go.Am
def GN(ops:Array Oper):List Nat:=(List.range ops.size).filter fun i=>aG ops i == .effect
def Oz(ops:Array Oper)(t:List Nat)(i:Nat):Option Nat:=((GN ops).filter fun e=>Nat.testBit (maskAt t ops.size i) e).getLast?
def aiO(ops:Array Oper)(t:List Nat):List Nat:=
 let ls:=(List.range ops.size).filter fun i=>aG ops i != .effect
 (ls.filter fun i=>Oz ops t i == none) ++ (GN ops).flatMap fun e=>e :: (ls.filter fun i=>Oz ops t i == some e)
def again(ops:Array Oper)(t:List Nat)(i:Nat)(rest:List Nat):List Nat:=
 if aG ops i == .eG then [] else
   let es:=(GN ops).filter fun e=> !rest.contains e
   (List.range ops.size).filter fun j=> !rest.contains j && aG ops j != .effect && !es.any fun e=>Nat.testBit (maskAt t ops.size e) j
def EP(ops:Array Oper)(t:List Nat):List Nat→List (Nat×List Nat)
 | []=>[]
 | i :: l=>(i,again ops t i l) :: EP ops t l
def plan:bH:=fun _ ops=>EP ops (jP ops ops.size) (aiO ops (jP ops ops.size))
end Go.Am
