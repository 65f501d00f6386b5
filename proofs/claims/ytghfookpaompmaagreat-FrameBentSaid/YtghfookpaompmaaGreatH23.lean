import Derived.Test.YtghfookpaompmaaGreatH6
import Derived.Test.YtghfookpaompmaaGreatH16
import Derived.Test.YtghfookpaompmaaGreatH22
set_option linter.unusedVariables false
set_option linter.unusedSectionVars false
set_option linter.unusedSimpArgs false
namespace Go.Mx.Ph
open Go.Ren
open Go.Conc hiding Goes mem_ofEvents Deaf
open Go.Conc.Lib (WgLink)
variable{p:Ph}{D F O O':Nat→Prop}{d i:Nat}{g:Goroutine}{w w' w₀:World}{Nx Nx':(Nat→Prop)→(Nat→Prop)→Goroutine→World→Prop}
def beside(p:Ph)(F:Nat→Prop)(w₀:World):Ph:={ p with Fin:=FinF F w₀ p.Fin }
theorem MGo.frame(hN:∀D O g w,Nx D O g w→Fr F D O w₀ w→Nx' D (fun b=>O b∨F b) g w)(h:p.MGo i Nx D d O g w)(hF:Fr F D O w₀ w):(p.beside F w₀).MGo i Nx' D d (fun b=>O b∨F b) g w:=by
 obtain ⟨h1,h2,h3⟩:=h
 refine ⟨h1,h2,fun w₁ hr hi=>?_⟩
 obtain ⟨g',child,M,H,N,k1,k2,k3,k4,k5,k6⟩:=h3 w₁ (hF.less hr) hi
 have hF₁:=hF.rely hr
 refine ⟨g',child,M,H,N,k1,fun b hb=>.inl (k2 b hb),fun b hb=>⟨.inl (k3 b hb).1,(k3 b hb).2⟩,k4,k5,?_⟩
 have e:(fun b=>(O b∨F b)∧¬M b∧¬H b)=fun b=>(O b∧¬M b∧¬H b)∨F b:=by
   funext b
   apply propext
   constructor
   ·rintro ⟨h1|h1,h2⟩
    ·exact .inl ⟨h1,h2⟩
    ·exact .inr h1
   ·rintro (h|h)
    ·exact ⟨.inl h.1,h.2⟩
    ·exact ⟨.inr h,fun x=>(hF.f b h).2 (k2 b x),fun x=>(hF.f b h).2 (k3 b x).1⟩
 rw [e]
 refine hN _ _ _ _ k6 ⟨fun b hb=>⟨(hF₁.f b hb).1,fun x=>(hF₁.f b hb).2 x.1⟩,fun b hb=>?_,fun b hb=>hF₁.o b hb.1,hF₁.keep,hF₁.size,hF₁.os,hF₁.output⟩
 rcases hb with hb|hb
 · exact ⟨(hF₁.d b hb).1,fun x=>(hF₁.d b hb).2 x.1⟩
 · exact ⟨hF₁.o b (k2 b hb),fun x=>x.2.1 hb⟩
theorem Spn.frame:∀(r:Nat) {D O:Nat→Prop} {g:Goroutine} {w:World},p.Spn r D O g w→Fr F D O w₀ w→(p.beside F w₀).Spn r D (fun b=>O b∨F b) g w
 | 0,D,O,g,w,h,hF=>by
   refine (WkD.frame h hF).mono ?_
   rintro d O' g' w' ⟨O₁,⟨gT,A,h1,h2,h3⟩,rfl,hF'⟩
   exact ⟨gT,A,h1,h2,fun w'' hr=>⟨O₁,h3 w'' (hF'.less hr),rfl,hF'.rely hr⟩⟩
 | r+1,D,O,g,w,h,hF=>by
   refine (WkD.frame h hF).mono ?_
   rintro d O' g' w' ⟨O₁,⟨h1,h2,h3⟩,rfl,hF'⟩
   refine ⟨h1,h2,fun v hv=>?_⟩
   obtain ⟨g'',k1,k2⟩:=h3 v hv
   refine ⟨g'',k1,fun w'' hr=>?_⟩
   refine (WkD.frame (k2 w'' (hF'.less hr)) (hF'.rely hr)).mono ?_
   rintro d O'' g₃ w₃ ⟨O₂,h4,rfl,hF''⟩
   exact MGo.frame (fun D O g w=>Spn.frame r) h4 hF''
end Go.Mx.Ph
namespace Go.Am
open Go.Conc (born QuitsD G dcall)
open Go.Conc.Lib
open Go.ConcR (WgAt)
open Go.Ren (grow EvO Guar Rely Wk WkD Idle IdleD X0 XS XM Lv WRel MWait At Leads Keep full Own Fr FinF)
open Go.Mx (CellIs Vals MxLink MxLib MuAt)
section
variable{P:Program}{ρ σ:Env}{O O' D:Nat→Prop}{F W U Z Z':Nat→Prop}{N:Nat}{h h':AH}{w w' w₀:World}{base cs:List Frame}{a a':AFr}{f:Frame}{s s' s₀:AS}{pl:Plan}{g g':Goroutine}{L:WgLink}{M:MxLink}{FinP:Machine→Outcome→World→Trace→Prop}{m:Machine}{t:Trace}{wg mu gb mb vb:Nat}
def AS.kill(s:AS)(b:Nat):AS:=⟨s.fr,s.cs,s.h.kill b⟩
theorem Sim.kill{B:Blk}(S:Sim P ρ O D base s g w)(hd:notDrawn s.fr=true)(hb:ρ.born vb)(hl:s.h.look vb=some B)(hf:B.fam=none)(hro:B.ro=false)(hn:(s.h.fams.get s.h.n).getD []=[]):Sim P ρ (fun x=>O x∧x≠(ρ.to vb).1) D base (s.kill vb) g w:=by
 obtain ⟨⟨lo,f,cs,h1,h2,h3,h4⟩,rel⟩:=S
 refine ⟨⟨lo,f,cs,?_,h2,.plain (h3.f0 fun ops l k e=>?_),h4⟩,rel.kill hb hl hf hro hn⟩
 · show lo≤(s.h.kill vb).n
   rw [kill_n];exact h1
 · unfold notDrawn at hd
   rw [e] at hd
   cases hd
def Folds(n:Nat)(locks:Nat→Bool)(f:Nat→Vals→Vals)(v0 v:Vals):Prop:=∀order:List Nat,order.Nodup→(∀i,i∈order↔i < n∧locks i=true)→order.foldl (fun a k=>f k a) v0=v
theorem Sd.phaseM[Zeros P]{B:Blk}{e:TypeId}{fz:Nat×Nat}{v0 v:Vals}{V:Vals→Prop}{fn:Nat→Vals→Vals}{locks:Nat→Bool}{n:Nat}{Fin:AS→Prop}(H:MxLib P M)(HL:Waits P L)(S:Sd P base F w₀ W U Z N ρ s g w m t)(hUg:U wg)(hUm:U mu)(hne:wg≠mu)(hgb:ρ.born gb∧ρ.to gb=(wg,0))(hmb:ρ.born mb∧ρ.to mb=(mu,0))
   (hwg:WgAt L.tWg wg w 0 0) (hmu:MuAt M.mu.tMutex mu w ⟨0,0,0,0⟩ 0) (hvb:ρ.born vb) (hl:s.h.look vb=some B) (ho:B.obj = .cells v0 e fz) (hf:B.fam=none) (hro:B.ro=false) (hk:(s.h.fams.get s.h.n).getD []=[]) (hd:notDrawn s.fr=true)
   (hn:n < 63) (hV:∀v,V v→∀x∈v,Plain x) (hVf:∀k v,V v→V (fn k v)) (hv0:V v0) (hfold:Folds n locks fn v0 v)
   (hfin:∀s',Fin s' → notDrawn s'.fr=true∧s'.h.look vb=none) {lf:List Nat} (k:ASpawnsM P pl L M gb mb vb V fn locks n Fin n ⟨s.fr,s.cs,(s.h.kill vb).forget lf⟩) :
   Leads P FinP (fun m t=>∃(σ:Env) (s':AS) (g':Goroutine) (w':World) (W' Z':Nat→Prop) (N':Nat),Fin s' ∧ ρ.Le σ∧Sd P base F w₀ W' (fun _=>False) Z' N' σ (s'.tell vb v) g' w' m t) m t:=by
 have hcell:=S.st.sim.rel.cellIs hvb hl (not_pin hro) ho (hV v0 hv0)
 have hslack:=S.st.sim.rel.noSlack hvb hl hf
 have hOC:full Z w (ρ.to vb).1:=(S.st.sim.rel.own vb B hvb hl).1 hro
 have hS:=(S.st.sim.kill hd hvb hl hf hro hk).forget lf hd
 let p:Go.Mx.Ph:={ P:=P,L:=L,tM:=M.mu.tMutex,oe:=((ρ.to vb).2,ρ.ext vb),Wg:=wg,Mu:=mu,C:=(ρ.to vb).1,B:=62,n:=n,n0:=N,f:=fn,V:=V,v0:=v0,locks:=locks,Fin:=FinAll P ρ base Fin }
 have names:Names ρ p gb mb vb:=⟨hgb.1,hgb.2,hmb.1,hmb.2,hvb,rfl,rfl,hslack⟩
 haveI:Zeros p.P:=(inferInstance:Zeros P)
 have hs:p.Spn n (fun _=>False) (fun x=>full Z w x∧x≠(ρ.to vb).1) g w:=spawns_ofM (p:=p) (Fin:=Fin) (ρ₀:=ρ) (base:=base) H HL ⟨w,0,0,hwg⟩ (by show 62 < 63;omega) hV rfl n k hS (.refl ρ) names
 have hfr:Fr F (fun _=>False) (fun x=>full Z w x∧x≠(ρ.to vb).1) w₀ w:=⟨fun b hb=>⟨S.st.lt b (S.fz b hb),fun x=>x.1.2 (S.fz b hb)⟩,fun b hb=>hb.elim,fun b hb=>hb.1.1,S.keep.1,S.keep.2.1,S.keep.2.2.1,S.keep.2.2.2⟩
 have hs' :=Go.Mx.Ph.Spn.frame n hs hfr
 have hCF:¬F (ρ.to vb).1:=fun hf=>hOC.2 (S.fz _ hf)
 have eO:(fun b=>(full Z w b∧b≠(ρ.to vb).1)∨F b)=fun b=>full (fun b=>Z b∧¬F b) w b∧b≠(ρ.to vb).1:=by
   rw [full_or S.fz S.st.lt]
   funext b
   apply propext
   constructor
   ·rintro (h|h)
    ·exact ⟨.inl h.1,h.2⟩
    ·exact ⟨.inr h,fun e=>hCF (e ▸ h)⟩
   ·rintro ⟨h|h,h2⟩
    ·exact .inl ⟨h,h2⟩
    ·exact .inr h
 rw [eO] at hs'
 have hat:=(S.st.at_.alone).drop (Z' :=fun b=>Z b∧¬F b) fun b hb=>⟨S.wu b hb,fun hf=>S.fwu b hf hb⟩
 have hC':full (fun b=>Z b∧¬F b) w (ρ.to vb).1:=by rw [full_or S.fz S.st.lt];exact .inl hOC
 refine (Go.Mx.Ph.phase (p:=p.beside F w₀) (W:=W) (U:=U) (by show n≤62;omega) hVf (by show n < 2147483647;omega) hUg hUm hne hC' hs' hwg hmu hcell hv0 hat).mono ?_
 rintro m t ⟨w',gT,O,D,order,hat,⟨O₁,⟨σ,s',hF,hle,hsim⟩,hO,hfr'⟩,hown,h1,h2,h3,h4⟩
 have hN:1≤N+n:=At.N1 hat
 obtain ⟨hnd,hlk⟩:=hfin s' hF
 have hfd:(p.beside F w₀).fold order=v:=hfold order h1 h2
 rw [hfd] at h4
 have hO0:∀b,O₁ b→O 0 b:=fun b hb=>by rw [hO];exact .inl hb
 have hf0:∀b,F b→O 0 b:=fun b hb=>by rw [hO];exact .inr hb
 have hWC:∀b,O 0 b∨D 0 b→¬(Go.Mx.Ph.W1 p W b)∧b≠(ρ.to vb).1:=fun b hb=>by
   have:¬(Go.Mx.Ph.W1 p W b∨b=(ρ.to vb).1):=hb.elim (hown.ow 0 b (by show 0 < N+n;omega)) (hown.dw 0 b (by show 0 < N+n;omega))
   exact ⟨fun x=>this (.inl x),fun x=>this (.inr x)⟩
 have hCW:¬(Go.Mx.Ph.W1 p W (ρ.to vb).1):=by
   rintro (x|x|x)
   ·exact hOC.2 (S.wu _ (.inl x))
   ·exact hOC.2 (by rw [x];exact S.wu _ (.inr hUg))
   ·exact hOC.2 (by rw [x];exact S.wu _ (.inr hUm))
 have hCsz:(ρ.to vb).1 < w'.heap.size:=hown.wlt _ (.inr rfl)
 have hvσ:=hle.born _ hvb
 have htσ:=hle.to _ hvb
 have hxσ:=hle.ext _ hvb
 have hsσ:¬σ.slack vb:=fun x=>hslack ((hle.slack _ hvb).1 x)
 let Zn:Nat→Prop:=fun b=>Go.Mx.Ph.W1 p W b∨F b
 have hrel1:Rel σ (fun b=>full Zn w' b∧b≠(ρ.to vb).1) (fun _=>False) s'.h w' :=hsim.rel.all fun b hb=>by
   rcases hb with hb|hb
   ·have:=hWC b (.inl (hO0 b hb))
    exact ⟨⟨hfr'.o b hb,fun x=>x.elim this.1 fun hf=>(hfr'.f b hf).2 hb⟩,this.2⟩
   ·have:=hWC b (.inr hb)
    exact ⟨⟨(hfr'.d b hb).1,fun x=>x.elim this.1 fun hf=>hown.od 0 0 b (by show 0 < N+n;omega) (by show 0 < N+n;omega) (hf0 b hf) hb⟩,this.2⟩
 have hsim1:Sim P σ (fun b=>full Zn w' b∧b≠(ρ.to vb).1) (fun _=>False) base s' gT w' :=⟨hsim.run,hrel1⟩
 have hCv:∀v,V v→V v:=fun v h=>h
 have hvV:V v:=by have:=h3;rw [hfd] at this;exact this
 have hsim2:=hsim1.tell (b:=vb) (v:=v) hnd hvσ hlk hsσ (hV v hvV) (by rw [htσ,hxσ];exact h4) (by rw [htσ];exact fun x=>x.2 rfl) (fun x=>x)
 rw [htσ] at hsim2
 have eF:(fun x=>(full Zn w' x∧x≠(ρ.to vb).1)∨x=(ρ.to vb).1)=full Zn w' :=by
   funext b
   apply propext
   constructor
   ·rintro (h|rfl)
    ·exact h.1
    ·exact ⟨hCsz,fun x=>x.elim hCW fun hf=>hCF hf⟩
   ·intro h
    by_cases e:b=(ρ.to vb).1
    ·exact .inr e
    ·exact .inl ⟨h,e⟩
 rw [eF] at hsim2
 refine ⟨σ,s',gT,w',Go.Mx.Ph.W1 p W,Zn,N+n,hF,hle,⟨⟨hat.drop fun b hb=>.inl hb,hsim2,fun b hb=>?_⟩,?_,fun b hb=>.inr hb,?_,⟨hfr'.keep,hfr'.size,hfr'.os,hfr'.output⟩⟩⟩
 · rcases hb with hb|hb
   ·exact hown.wlt b (.inl hb)
   ·exact (hfr'.f b hb).1
 · rintro b (hb|hb)
   ·exact .inl hb
   ·exact hb.elim
 · rintro b hf (hb|hb)
   ·exact (hWC b (.inl (hf0 b hf))).1 hb
   ·exact hb
end
end Go.Am
namespace Go.Am
open Go.Conc.Lib
open Go.Ren (grow EvO Guar Rely Wk At Leads Keep full)
open Go.Mx (Vals MxLink MxLib)
def iv(l:List Int):Vals:=(l.map fun n=>Value.int .i64 n).toArray
def unv(v:Vals):List Int:=v.toList.map fun x=>match x with | .int _ n=>n|_=>0
theorem unv_iv(l:List Int):unv (iv l)=l:=by
 unfold unv iv
 simp only [List.map_map]
 conv=>rhs;rw [←List.map_id l]
 rfl
theorem iv_plain(l:List Int):∀x∈iv l,Plain x:=by
 intro x hx
 unfold iv at hx
 simp only [List.mem_toArray,List.mem_map] at hx
 obtain ⟨n,_,rfl⟩:=hx
 exact plain_of (n:=1) rfl
def VIn(Vs:List (List Int))(v:Vals):Prop:=∃l∈Vs,v=iv l
def fnOf(n:Nat)(locks:Nat→Bool)(f:Nat→List Int→List Int)(k:Nat)(v:Vals):Vals:=if k < n∧locks k=true then iv (f k (unv v)) else v
noncomputable section
def skipB(P:Program)(L:WgLink)(gb nt:Nat)(s:AS):Bool:=match s.cs with
 | []=>match s.fr.todo with
   | .drawn .. :: _=>false
   |_=>quitsAt P L gb nt s.fr
 | _=>false
def dstB(o:Oper)(n:Nat):Bool:=match o.dst with
 | some d=>decide (d < n)
 | none=>true
def xLock(P:Program)(fid:FuncId)(mb:Nat)(s:AS):Option AS:=match opAt s with
 | some o=>match o.guard with
   |none=>match o.op with
    | .call c=>match c.callee with
     | .value (.func f)=>match c.args.toList with
      | [.tmp t]=>if f == fid && s.fr.round.isNone && beqV 3 (s.fr.tmps.getD t undef) (.pointer (some ⟨mb,0,none⟩)) && (decide (t < s.fr.tmps.size)) && dstB o s.fr.tmps.size then xFin P s s.h (.tuple #[]) else none
      |_=>none
     |_=>none
    |_=>none
   |some _=>none
 | none=>none
def endU(P:Program)(L:WgLink)(ul:FuncId)(gb mb:Nat)(a:AFr):Bool:=
 a.ret && a.dk && a.round.isNone && (match P.funcs[a.fn]? with|some fn=>fn.results.size == 0|none=>false) && match a.defers with
   | [⟨.fn (.func f) cap,args⟩,⟨.fn (.func f') cap',args'⟩]=>f == ul && cap.size == 0 && beqV 3 (.tuple args) (.tuple #[.pointer (some ⟨mb,0,none⟩)]) && f' == L.done && cap'.size == 0 && beqV 3 (.tuple args') (.tuple #[.pointer (some ⟨gb,0,none⟩)])
   |_=>false
def endB(P:Program)(L:WgLink)(ul:FuncId)(gb mb vb nt:Nat)(l:List Int)(s:AS):Bool:=match s.cs with
 | []=>notDrawn s.fr && (match atoret nt s.fr with|some a=>endU P L ul gb mb a|none=>false) && (match s.h.look vb with|some B=> !B.ro && (match B.obj with | .cells c _ _=>beqV 9 (.agg c) (.agg (iv l))|_=>false)|none=>false)
 | _=>false
def critB(P:Program)(pl:Plan)(T:Tr TI)(Fu:Tr Func)(L:WgLink)(ul:FuncId)(gb mb vb nt n:Nat)(l:List Int)(s:AS):Bool:=match frunS P pl T Fu 100 s with
 | .inl s₄=>match xDefer P s₄ with
   |some s₅=>match frunS P pl T Fu n s₅ with
    | .inl s₆=>endB P L ul gb mb vb nt l s₆
    | .inr _=>false
   |none=>false
 | .inr _=>false
def lockB(P:Program)(pl:Plan)(T:Tr TI)(Fu:Tr Func)(L:WgLink)(M:MxLink)(gb mb vb nt n:Nat)(Vs:List (List Int))(f:List Int→List Int)(s:AS):Bool:=match xLock P M.mu.lock mb s with
 | some s₃=>notDrawn s₃.fr && (s₃.h.look vb).isNone && Vs.all fun l=>critB P pl T Fu L M.mu.unlock gb mb vb nt n (f l) (s₃.tell vb (iv l))
 | none=>false
def exploreG(P:Program)(pl:Plan)(T:Tr TI)(Fu:Tr Func)(fin:AS→Bool)(n d:Nat):AS→Bool:=
 Nat.rec (fun _=>false) (fun _ ih s=>match frunS P pl T Fu n s with
   | .inr _=>false
   | .inl s=>bif fin s then true else match opNow s with
     |some o=>bif Nat.beq ((execOp (aeval s.fr.tmps) o).arity P s.h) 0 then false else allB (fun c=>match astep P pl (some c) s with
      |some (.go s')=>ih s'
      |_=>false) ((execOp (aeval s.fr.tmps) o).arity P s.h)
     |none=>false) d
def workM(P:Program)(pl:Plan)(T:Tr TI)(Fu:Tr Func)(L:WgLink)(M:MxLink)(gb mb vb nt nc:Nat)(Vs:List (List Int))(f:Nat→List Int→List Int)(locks:Nat→Bool)(k n a:Nat)(s:AS):Bool:=match frunS P pl T Fu 100 s with
 | .inl s₁=>match xDefer P s₁ with
   |some s₂=>match frunS P pl T Fu n s₂ with
    | .inl s₃=>match arun P pl a s₃ with
     |some (.go s₄)=>bif locks k then lockB P pl T Fu L M gb mb vb nt nc Vs (f k) s₄ else skipB P L gb nt s₄
     |_=>false
    | .inr _=>false
   |none=>false
 | .inr _=>false
end
section
variable{P:Program}{pl:Plan}{L:WgLink}{M:MxLink}{gb mb vb nt nc n d k:Nat}{s s':AS}{T:Tr TI}{Fu:Tr Func}{Vs:List (List Int)}{f:Nat→List Int→List Int}{locks:Nat→Bool}{l:List Int}{ul fid:FuncId}{a:AFr}
theorem skipB_some(h:skipB P L gb nt s=true):ASkip P L gb s:=by
 unfold skipB at h
 split at h
 · rename_i hcs
   split at h
   ·cases h
   ·rename_i hnd
    obtain ⟨a'',q1,q2,q3⟩:=quitsAt_some h
    exact ⟨hcs,fun ops l k e=>hnd ops l k e,nt,a'',q1,q2,q3⟩
 · cases h
theorem ptr_eq{x:Value}{b:Nat}(h:beqV 3 x (.pointer (some ⟨b,0,none⟩))=true):x = .pointer (some ⟨b,0,none⟩):=beqV_eq _ _ _ h
theorem xLock_some{mb:Nat}(h:xLock P fid mb s=some s'):ALock P fid mb s s' :=by
 unfold xLock at h
 split at h
 · rename_i o ho
   obtain ⟨h1,ops,i,l,k,h2,h3,h4,h5⟩:=opAt_some ho
   split at h
   ·rename_i hg
    split at h
    ·rename_i c hop
     split at h
     ·rename_i f hf
      split at h
      ·rename_i t ha
       split at h
       ·rename_i hc
        simp only [Bool.and_eq_true,beq_iff_eq,Option.isNone_iff_eq_none,decide_eq_true_eq] at hc
        obtain ⟨⟨⟨⟨rfl,hr⟩,hp⟩,ht⟩,hd⟩:=hc
        obtain ⟨a',h6,h7⟩:=xFin_some h
        obtain ⟨callee,as,ats⟩:=c
        dsimp only at hf ha
        subst hf
        have has:as = #[.tmp t]:=by rw [←Array.toArray_toList (xs:=as),ha]
        subst has
        have hpt:=ptr_eq hp
        refine ⟨h1,hr,ops,i,l,k,o,t,ats,a',h2,h3,h4,h5,hg,hop,?_,fun d e=>?_,h6,h7⟩
        ·have:s.fr.tmps.getD t undef=s.fr.tmps[t]:=by simp [Array.getD,ht]
         rw [this] at hpt
         rw [←hpt]
         simp [ht]
        ·unfold dstB at hd
         rw [e] at hd
         simpa using hd
       ·cases h
      ·cases h
     ·cases h
    ·cases h
   ·cases h
 · cases h
theorem endU_some(h:endU P L ul gb mb a=true):EndU P L ul gb mb a:=by
 unfold endU at h
 simp only [Bool.and_eq_true,Option.isNone_iff_eq_none] at h
 obtain ⟨⟨⟨⟨h1,h2⟩,h3⟩,h4⟩,h5⟩:=h
 refine ⟨h1,h2,?_,?_,h3⟩
 · split at h4
   ·rename_i fn hfn
    exact ⟨fn,hfn,Array.eq_empty_of_size_eq_zero (by simpa using h4)⟩
   ·cases h4
 · split at h5
   ·rename_i f cap args f' cap' args' hd
    simp only [Bool.and_eq_true,beq_iff_eq] at h5
    obtain ⟨⟨⟨⟨⟨rfl,hc⟩,ha⟩,rfl⟩,hc'⟩,ha'⟩:=h5
    rw [hd,tuple_eq ha,Array.eq_empty_of_size_eq_zero hc,tuple_eq ha',Array.eq_empty_of_size_eq_zero hc']
   ·cases h5
theorem endB_some(h:endB P L ul gb mb vb nt l s=true):AEndU P L ul gb mb vb (iv l) s:=by
 unfold endB at h
 split at h
 · rename_i hcs
   simp only [Bool.and_eq_true] at h
   obtain ⟨⟨h1,h2⟩,h3⟩:=h
   refine ⟨hcs,h1,?_,?_,iv_plain l⟩
   ·split at h2
    ·rename_i a ha;exact ⟨nt,a,ha,endU_some h2⟩
    ·cases h2
   ·split at h3
    ·rename_i B hB
     rw [Bool.and_eq_true] at h3
     obtain ⟨h4,h3⟩:=h3
     split at h3
     ·rename_i c e f ho
      have:=beqV_eq _ _ _ h3
      cases this
      exact ⟨B,e,f,hB,ho,by simpa using h4⟩
     ·cases h3
    ·cases h3
 · cases h
theorem critB_some(K:TabOk P T)(KF:FunOk P Fu)(h:critB P pl T Fu L ul gb mb vb nt nc l s=true):ACrit P pl L ul gb mb vb (iv l) s:=by
 unfold critB at h
 split at h
 · rename_i s₄ h₄
   split at h
   ·rename_i s₅ h₅
    split at h
    ·rename_i s₆ h₆
     exact (frunS_inl K KF 100 h₄).bind fun s h=>by
      subst h
      exact .here ⟨s₅,xDefer_some h₅,(frunS_inl K KF nc h₆).bind fun s h'=>by subst h';exact .here (endB_some h)⟩
    ·cases h
   ·cases h
 · cases h
theorem lockB_some(K:TabOk P T)(KF:FunOk P Fu)(h:lockB P pl T Fu L M gb mb vb nt nc Vs (f k) s=true){g:Vals→Vals}(hg:∀l∈Vs,g (iv l)=iv (f k l)):ALocks P pl L M gb mb vb (VIn Vs) g s:=by
 unfold lockB at h
 split at h
 · rename_i s₃ h₃
   simp only [Bool.and_eq_true,Option.isNone_iff_eq_none,List.all_eq_true] at h
   obtain ⟨⟨h1,h2⟩,h4⟩:=h
   refine ⟨s₃,xLock_some h₃,h1,h2,?_⟩
   rintro v ⟨l,hl,rfl⟩
   rw [hg l hl]
   exact critB_some K KF (h4 l hl)
 · cases h
theorem workM_some(K:TabOk P T)(KF:FunOk P Fu){m d:Nat}(hk:k < m)(h:workM P pl T Fu L M gb mb vb nt nc Vs f locks k n d s=true):AMWork P pl L M gb mb vb (VIn Vs) (fnOf m locks f k) (locks k) s:=by
 unfold workM at h
 split at h
 · rename_i s₁ h₁
   split at h
   ·rename_i s₂ h₂
    split at h
    ·rename_i s₃ h₃
     split at h
     ·rename_i s₄ h₄
      refine (frunS_inl K KF 100 h₁).bind fun s h'=>?_
      subst h'
      refine .here ⟨s₂,xDefer_some h₂,(frunS_inl K KF n h₃).bind fun s h'=>?_⟩
      subst h'
      refine arun_reach d h₄ ?_
      cases hl:locks k with
      |true=>
       rw [hl] at h
       exact .here (.inr ⟨rfl,lockB_some K KF h fun l _=>by unfold fnOf;rw [if_pos ⟨hk,hl⟩,unv_iv]⟩)
      |false=>
       rw [hl] at h
       exact .here (.inl ⟨rfl,skipB_some h⟩)
     ·cases h
    ·cases h
   ·cases h
 · cases h
end
end Go.Am
namespace Go.Am
open Go.Conc.Lib
open Go.ConcR (WgAt)
open Go.Ren (grow EvO Guar Rely Wk At Leads Keep full)
open Go.Mx (CellIs Vals MxLink MxLib MuAt)
theorem foldl_perm{α β:Type}{f:β→α→α}{V:α→Prop}{l l':List β}(h:l.Perm l'):(∀i∈l,∀v,V v→V (f i v))→(∀i∈l,∀j∈l,∀v,V v→f i (f j v)=f j (f i v))→∀v,V v→l.foldl (fun a k=>f k a) v=l'.foldl (fun a k=>f k a) v:=by
 induction h with
 | nil=>intro _ _ v _;rfl
 | cons x _ ih=>
   intro h1 h2 v hv
   simp only [List.foldl_cons]
   exact ih (fun i hi=>h1 i (.tail _ hi)) (fun i hi j hj=>h2 i (.tail _ hi) j (.tail _ hj)) _ (h1 x (.head _) v hv)
 | swap x y l=>
   intro h1 h2 v hv
   simp only [List.foldl_cons]
   rw [h2 x (.tail _ (.head _)) y (.head _) v hv]
 | trans p q ih1 ih2=>
   intro h1 h2 v hv
   rw [ih1 h1 h2 v hv]
   exact ih2 (fun i hi=>h1 i (p.symm.subset hi)) (fun i hi j hj=>h2 i (p.symm.subset hi) j (p.symm.subset hj)) v hv
def lsOf(n:Nat)(locks:Nat→Bool):List Nat:=(List.range n).filter locks
def foldB(n:Nat)(locks:Nat→Bool)(f:Nat→List Int→List Int)(Vs:List (List Int))(l0 v:List Int):Bool:=
 Vs.contains l0 && (lsOf n locks).all (fun i=>Vs.all fun l=>Vs.contains (f i l)) && (lsOf n locks).all (fun i=>(lsOf n locks).all fun j=>Vs.all fun l=>f i (f j l) == f j (f i l)) && (lsOf n locks).foldl (fun a k=>f k a) l0 == v
section
variable{P:Program}{ρ σ:Env}{F W U Z:Nat→Prop}{N:Nat}{h:AH}{w w' w₀:World}{base cs:List Frame}{f:Nat→List Int→List Int}{locks:Nat→Bool}{Vs:List (List Int)}{n:Nat}{l0 v:List Int}{s s' s₁ ws:AS}{pl:Plan}{g g':Goroutine}{L:WgLink}{M:MxLink}{FinP:Machine→Outcome→World→Trace→Prop}{m:Machine}{t:Trace}
 {gb mb vb r n₁ n₂:Nat} {l:List Nat} {Fin:AS→Prop} {T:Tr TI} {Fu:Tr Func}
theorem foldB_all(h:foldB n locks f Vs l0 v=true):VIn Vs (iv l0)∧(∀k v,VIn Vs v→VIn Vs (fnOf n locks f k v))∧Folds n locks (fnOf n locks f) (iv l0) (iv v):=by
 unfold foldB at h
 simp only [Bool.and_eq_true,List.all_eq_true,List.contains_iff_mem,beq_iff_eq] at h
 obtain ⟨⟨⟨h1,h2⟩,h3⟩,h4⟩:=h
 have mem:∀i,i∈lsOf n locks↔i < n∧locks i=true:=fun i=>by unfold lsOf;simp
 refine ⟨⟨l0,h1,rfl⟩,?_,?_⟩
 · rintro k _ ⟨l,hl,rfl⟩
   unfold fnOf
   split
   ·rename_i hk
    rw [unv_iv]
    exact ⟨_,h2 k ((mem k).2 hk) l hl,rfl⟩
   ·exact ⟨l,hl,rfl⟩
 · intro order hn ho
   have hp:order.Perm (lsOf n locks):=(List.perm_ext_iff_of_nodup hn (List.nodup_range.filter _)).2 fun a=>(ho a).trans (mem a).symm
   have lift:∀(ls:List Nat),(∀i∈ls,i < n∧locks i=true)→∀l,ls.foldl (fun a k=>fnOf n locks f k a) (iv l)=iv (ls.foldl (fun a k=>f k a) l):=by
    intro ls
    induction ls with
    |nil=>intro _ l;rfl
    |cons x ls ih=>
     intro hx l
     simp only [List.foldl_cons]
     have:fnOf n locks f x (iv l)=iv (f x l):=by unfold fnOf;rw [if_pos (hx x (.head _)),unv_iv]
     rw [this]
     exact ih (fun i hi=>hx i (.tail _ hi)) _
   rw [lift order (fun i hi=>(ho i).1 hi)]
   have:=foldl_perm (V:=fun l=>l∈Vs) hp (fun i hi l hl=>h2 i ((mem i).2 ((ho i).1 hi)) l hl) (fun i hi j hj l hl=>h3 i ((mem i).2 ((ho i).1 hi)) j ((mem j).2 ((ho j).1 hj)) l hl) l0 h1
   rw [this,h4]
structure AMutex(P:Program)(M:MxLink)(s s':AS):Prop where
 run:s.fr.ret=false
 at_:∃ops i l k o z a',s.fr.todo = .region ops (i :: l) :: k∧ops[i]? = some o∧Region.wanted o (yielded ops s.fr.tmps)=true∧o.op = .alloc M.mu.tMutex∧zeroOf P M.mu.tMutex=some z∧z.cells = #[.int .i32 0,.int .u32 0] ∧
   s.h.look s.h.n=none∧afinish P s.fr s.h.blank (.pointer (some ⟨s.h.n,0,none⟩))=some a' ∧ s' = ⟨a',s.cs,s.h.blank⟩
def xMutex(P:Program)(M:MxLink)(s:AS):Option AS:=match opAt s with
 | some o=>match o.op with
   | .alloc t=>match zeroOf P t with
    |some z=>if t == M.mu.tMutex && (s.h.look s.h.n).isNone && beqV 3 (.agg z.cells) (.agg #[.int .i32 0,.int .u32 0]) then xFin P s s.h.blank (.pointer (some ⟨s.h.n,0,none⟩)) else none
    |none=>none
   |_=>none
 | none=>none
theorem xMutex_some(h:xMutex P M s=some s'):AMutex P M s s' :=by
 unfold xMutex at h
 split at h
 · rename_i o ho
   obtain ⟨h1,ops,i,l,k,h2,h3,h4,h5⟩:=opAt_some ho
   split at h
   ·rename_i t hop
    split at h
    ·rename_i z hz
     split at h
     ·rename_i hc
      simp only [Bool.and_eq_true,beq_iff_eq,Option.isNone_iff_eq_none] at hc
      obtain ⟨⟨rfl,hl⟩,hcells⟩:=hc
      obtain ⟨a',h6,h7⟩:=xFin_some h
      exact ⟨h1,ops,i,l,k,o,z,a',h2,h3,h4,hop,hz,agg_eq hcells,hl,h6,h7⟩
     ·cases h
    ·cases h
   ·cases h
 · cases h
theorem St.mutex[Zeros P]{s':AS}(S:St P base W U Z N ρ s g w m t)(k:AMutex P M s s') :
   Leads P FinP (fun m t=>∃(σ:Env) (g':Goroutine) (w':World) (mu:Nat),ρ.Le σ∧St P base W (fun b=>U b∨b=mu) (fun b=>Z b∨b=mu) N σ s' g' w' m t∧Keep Z w w' ∧ σ.born s.h.n∧σ.to s.h.n=(mu,0)∧MuAt M.mu.tMutex mu w' ⟨0,0,0,0⟩ 0∧∀b,Z b→b≠mu) m t:=by
 obtain ⟨hrun,ops,i,l,k,o,z,a',t1,t2,t3,t5,t6,t7,t11,t12,t13⟩:=k
 refine (S.atop (c:=[]) hrun t1).bind ?_
 rintro m t ⟨σ,lo,f,cs,w',hle,A,hat,hk⟩
 have hnb:¬σ.born s.h.n:=fun hb=>Nat.lt_irrefl _ (A.rel.fresh _ hb)
 have hvp:VR (σ.add s.h.n (w'.heap.size,0) False 0 0) (.pointer (some ⟨s.h.n,0,none⟩)) (.pointer (some ⟨w'.heap.size,0,none⟩)):=by
   have e:(Value.pointer (some ⟨w'.heap.size,0,none⟩)) = .pointer (some ((σ.add s.h.n (w'.heap.size,0) False 0 0).addr ⟨s.h.n,0,none⟩)):=by
    simp only [Env.addr,add_to]
   rw [e]
   exact .ptr (.inl rfl)
 refine (blank_at (v:=.pointer (some ⟨s.h.n,0,none⟩)) (v' :=.pointer (some ⟨w'.heap.size,0,none⟩)) (obj:=.cells #[.int .i32 0,.int .u32 0] M.mu.tMutex (0,0)) A hat (hk.lt S.lt) t2 t3 (fun q hq=>by rw [t5] at hq;cases hq) (fun d₁ es₀=>?_) t11 t12 hvp).mono ?_
 · rw [←t7]
   exact run_alloc t5 t6 es₀
 · rintro m t ⟨h1,h2,h3,h4⟩
   subst t13
   refine ⟨_,_,_,w'.heap.size,hle.trans h1,h4,hk.trans ⟨fun b hb=>?_,by simp,.rfl,rfl⟩,h2,h3,?_,fun b hb=>?_⟩
   ·have:=hk.lt S.lt b hb
    simp only [World.alloc]
    rw [Array.getElem?_push,if_neg (by omega)]
   ·show (w'.heap.push _)[w'.heap.size]? = _
    simp [Go.Mx.Wd.num]
   ·have:=hk.lt S.lt b hb
    omega
theorem Sd.mutex[Zeros P]{s':AS}(S:Sd P base F w₀ W U Z N ρ s g w m t)(k:AMutex P M s s') :
   Leads P FinP (fun m t=>∃(σ:Env) (g':Goroutine) (w':World) (mu:Nat),ρ.Le σ∧Sd P base F w₀ W (fun b=>U b∨b=mu) (fun b=>Z b∨b=mu) N σ s' g' w' m t∧Keep Z w w' ∧ σ.born s.h.n∧σ.to s.h.n=(mu,0)∧MuAt M.mu.tMutex mu w' ⟨0,0,0,0⟩ 0∧∀b,Z b→b≠mu) m t:=by
 refine (S.st.mutex k).mono ?_
 rintro m t ⟨σ,g',w',mu,k1,k2,k3,k4,k5,k6,k7⟩
 refine ⟨σ,g',w',mu,k1,⟨k2,?_,fun b hb=>.inl (S.fz b hb),?_,S.keepF k3⟩,k3,k4,k5,k6,k7⟩
 · rintro b (hb|hb|hb)
   ·exact .inl (S.wu b (.inl hb))
   ·exact .inl (S.wu b (.inr hb))
   ·exact .inr hb
 · rintro b hf (hb|hb|hb)
   ·exact S.fwu b hf (.inl hb)
   ·exact S.fwu b hf (.inr hb)
   ·exact k7 b (S.fz b hf) hb
def StandM(P:Program)(L:WgLink)(M:MxLink)(base:List Frame)(F:Nat→Prop)(w₀:World)(mb:Nat)(gb:Option Nat)(s:AS)(m:Machine)(t:Trace):Prop:=
 ∃(W U Z:Nat→Prop) (N:Nat) (ρ:Env) (g:Goroutine) (w:World),Sd P base F w₀ W U Z N ρ s g w m t∧∃mu,U mu∧ρ.born mb∧ρ.to mb=(mu,0)∧MuAt M.mu.tMutex mu w ⟨0,0,0,0⟩ 0 ∧
   match gb with
   |none=>True
   |some gb=>∃wg,U wg∧wg≠mu∧ρ.born gb∧ρ.to gb=(wg,0)∧WgAt L.tWg wg w 0 0
theorem muAt_keep{mu:Nat}{d:Go.Mx.Wd}{q:Nat}{ty:TypeId}(h:MuAt ty mu w d q)(k:Keep Z w w')(hz:Z mu):MuAt ty mu w' d q:=(k.1 mu hz).trans h
theorem wgAt_keep{wg:Nat}{a b:Int}{ty:TypeId}(h:WgAt ty wg w a b)(k:Keep Z w w')(hz:Z wg):WgAt ty wg w' a b:=(k.1 wg hz).trans h
theorem Stand.mutex[Zeros P](e:xMutex P M s=some s')(S:Stand P L base F w₀ .idle s m t):Leads P FinP (StandM P L M base F w₀ s.h.n none s') m t:=by
 obtain ⟨W,U,Z,N,ρ,g,w,S,hp⟩:=S
 refine (S.mutex (xMutex_some e)).mono ?_
 rintro m t ⟨σ,g',w',mu,k1,k2,k3,k4,k5,k6,k7⟩
 exact ⟨_,_,_,_,_,_,_,k2,mu,.inr rfl,k4,k5,k6,trivial⟩
theorem StandM.reach[Zeros P]{o:Option Nat}{K:AS→Prop}(k:AReach P pl K s)(S:StandM P L M base F w₀ mb o s m t):Leads P FinP (fun m t=>∃s',K s' ∧ StandM P L M base F w₀ mb o s' m t) m t:=by
 obtain ⟨W,U,Z,N,ρ,g,w,S,mu,h1,h2,h3,h4,h5⟩:=S
 refine (S.reach k).mono ?_
 rintro m t ⟨σ,s',g',w',k1,k2,k3,k4⟩
 refine ⟨s',k1,W,U,Z,N,σ,g',w',k3,mu,h1,k2.born _ h2,(k2.to _ h2).trans h3,muAt_keep h4 k4 (S.wu _ (.inr h1)),?_⟩
 cases o with
 | none=>trivial
 | some gb=>
   obtain ⟨wg,q1,q2,q3,q4,q5⟩:=h5
   exact ⟨wg,q1,q2,k2.born _ q3,(k2.to _ q3).trans q4,wgAt_keep q5 k4 (S.wu _ (.inr q1))⟩
theorem StandM.forget{o:Option Nat}(l:List Nat)(hd:notDrawn s.fr=true)(S:StandM P L M base F w₀ mb o s m t):StandM P L M base F w₀ mb o ⟨s.fr,s.cs,s.h.forget l⟩ m t:=by
 obtain ⟨W,U,Z,N,ρ,g,w,S,h⟩:=S
 exact ⟨W,U,Z,N,ρ,g,w,S.forget l hd,h⟩
theorem StandM.step[Zeros P](K:TabOk P T)(KF:FunOk P Fu){o:Option Nat}{n:Nat}(e:stepS P pl T Fu n l s=some s')(S:StandM P L M base F w₀ mb o s m t):Leads P FinP (StandM P L M base F w₀ mb o s') m t:=by
 unfold stepS at e
 split at e
 · rename_i s₁ h₁
   split at e
   ·rename_i hd
    cases e
    refine (S.reach (frunS_inl K KF n h₁)).mono ?_
    rintro m t ⟨s',rfl,S'⟩
    exact S'.forget l hd
   ·cases e
 · cases e
theorem StandM.group[Zeros P](e:xGroup P L s=some s')(S:StandM P L M base F w₀ mb none s m t):Leads P FinP (StandM P L M base F w₀ mb (some s.h.n) s') m t:=by
 obtain ⟨W,U,Z,N,ρ,g,w,S,mu,h1,h2,h3,h4,h5⟩:=S
 refine (S.group (xGroup_some e)).mono ?_
 rintro m t ⟨σ,g',w',wg,k1,k2,k3,k4,k5,k6,k7⟩
 exact ⟨_,_,_,_,_,_,_,k2,mu,.inl h1,k1.born _ h2,(k1.to _ h2).trans h3,muAt_keep h4 k3 (S.wu _ (.inr h1)),wg,.inr rfl,fun e=>k7 mu (S.wu _ (.inr h1)) e.symm,k4,k5,k6⟩
theorem goS_someM{C:AS→Prop}(e:goS P s=some (ws,s'))(hw:C ws):AGoM P C s s' :=by
 unfold goS at e
 split at e
 · rename_i o ho
   obtain ⟨h1,ops,i,l,k,h2,h3,h4,h5⟩:=opAt_some ho
   split at e
   ·rename_i c hop
    split at e
    ·rename_i x hx
     split at e
     ·rename_i fid first cap hf
      split at e
      ·rename_i hc
       simp only [Bool.and_eq_true,Option.isNone_iff_eq_none] at hc
       split at e
       ·rename_i s₂ hfin
        cases e
        obtain ⟨a',h6,h7⟩:=xFin_some hfin
        exact ⟨h1,hc.2,ops,i,l,k,o,c,x,fid,first,cap,a',h2,h3,h4,h5,hop,hx,hf,hc.1,hw,h6,h7⟩
       ·cases e
      ·cases e
     ·cases e
    ·cases e
   ·cases e
 · cases e
theorem spawnM_cons{V:Vals→Prop}{fn:Nat→Vals→Vals}(e:spawnS1 P pl L gb n₁ n₂ s=some (ws,s'))(hw:AMWork P pl L M gb mb vb V (fn (n - (r+1))) (locks (n - (r+1))) ws)(k:ASpawnsM P pl L M gb mb vb V fn locks n Fin r s'):ASpawnsM P pl L M gb mb vb V fn locks n Fin (r+1) s:=by
 unfold spawnS1 at e
 split at e
 · rename_i s₁ hr₁
   split at e
   ·rename_i s₂ hc
    split at e
    ·rename_i s₃ hr₂
     exact arun_reach n₁ hr₁ (.here ⟨s₂,xCall_some hc,arun_reach n₂ hr₂ (.here ⟨s',goS_someM e hw,k⟩)⟩)
    ·cases e
   ·cases e
 · cases e
noncomputable section
def killS(vb tv:Nat)(l0:List Int)(lf:List Nat)(s:AS):Option AS:=match s.h.look vb with
 | some B=>match B.obj with
   | .cells c _ _=>if beqV 3 (s.fr.tmps.getD tv undef) (.pointer (some ⟨vb,0,none⟩)) && beqV 9 (.agg c) (.agg (iv l0)) && B.fam.isNone && !B.ro && ((s.h.fams.get s.h.n).getD []).isEmpty && notDrawn s.fr then some ⟨s.fr,s.cs,(s.h.kill vb).forget lf⟩ else none
   |_=>none
 | none=>none
def waitM(P:Program)(pl:Plan)(L:WgLink)(gb n vb:Nat)(v:List Int)(l:List Nat)(s:AS):Option AS:=match waitS P pl L gb n s with
 | some s₁=>bif notDrawn s₁.fr && (s₁.h.look vb).isNone then some ⟨s₁.fr,s₁.cs,((s₁.h.tell vb (iv v)).forget l).unshared⟩ else none
 | none=>none
end
def WaitedM(vb:Nat)(v:List Int)(l:List Nat)(s' s₁:AS):Prop:=notDrawn s₁.fr=true∧s₁.h.look vb=none∧s' = ⟨s₁.fr,s₁.cs,((s₁.h.tell vb (iv v)).forget l).unshared⟩
theorem spawnM_last{V:Vals→Prop}{fn:Nat→Vals→Vals}{k:Nat}(e:waitM P pl L gb k vb v l s=some s'):ASpawnsM P pl L M gb mb vb V fn locks n (WaitedM vb v l s') 0 s:=by
 unfold waitM waitS at e
 split at e
 · rename_i s₁ hs
   split at hs
   ·rename_i s₂ hr
    cases hb:notDrawn s₁.fr && (s₁.h.look vb).isNone with
    |false=>rw [hb] at e;cases e
    |true=>
     rw [hb] at e
     cases e
     rw [Bool.and_eq_true,Option.isNone_iff_eq_none] at hb
     exact arun_reach k hr (.here ⟨s₁,xCall_some hs,hb.1,hb.2,rfl⟩)
   ·cases hs
 · cases e
theorem StandM.phase[Zeros P](H:MxLib P M)(HL:Waits P L)(hn:n < 63){tv:Nat}{lf:List Nat}(ek:killS vb tv l0 lf s=some s₁)(ef:foldB n locks f Vs l0 v=true)(k:ASpawnsM P pl L M gb mb vb (VIn Vs) (fnOf n locks f) locks n (WaitedM vb v l s') n s₁)(S:StandM P L M base F w₀ mb (some gb) s m t) :
   Leads P FinP (Stand P L base F w₀ .idle s') m t:=by
 obtain ⟨W,U,Z,N,ρ,g,w,S,mu,h1,h2,h3,h4,wg,q1,q2,q3,q4,q5⟩:=S
 obtain ⟨f1,f2,f3⟩:=foldB_all ef
 unfold killS at ek
 split at ek
 · rename_i B hB
   split at ek
   ·rename_i c e fz ho
    split at ek
    ·rename_i hc
     cases ek
     simp only [Bool.and_eq_true,Option.isNone_iff_eq_none,Bool.not_eq_true',List.isEmpty_iff] at hc
     obtain ⟨⟨⟨⟨⟨c0,c1⟩,c2⟩,c3⟩,c4⟩,c5⟩:=hc
     have hc0:=beqV_eq _ _ _ c1
     cases hc0
     have hvb:ρ.born vb:=by
      obtain ⟨⟨lo,f,cs,_,_,hf,_⟩,_⟩:=S.st.sim
      have hf0:=hf.f0 fun ops l k e=>by unfold notDrawn at c5;rw [e] at c5;cases c5
      have:=vr_getD hf0.tmps tv
      rw [ptr_eq c0] at this
      generalize f.tmps.getD tv undef=y at this
      cases this with
      |ptr h=>exact h
     refine (S.phaseM H HL q1 h1 q2 ⟨q3,q4⟩ ⟨h2,h3⟩ q5 h4 hvb hB ho c2 c3 c4 c5 hn (fun v ⟨l,_,e⟩=>e ▸ iv_plain l) f2 f1 f3 (fun s' h=>⟨h.1,h.2.1⟩) k).mono ?_
     rintro m t ⟨σ,s₂,g',w',W',Z',N',⟨k1,k2,rfl⟩,k4,k5⟩
     exact ⟨_,_,_,_,_,_,_,(k5.forget l k1).unshare k1,trivial⟩
    ·cases ek
   ·cases ek
 · cases ek
noncomputable section
def muS(P:Program)(pl:Plan)(L:WgLink)(M:MxLink)(a b vb tv:Nat)(l0:List Int)(lf:List Nat)(s:AS):Option (Nat×Nat×AS):=match arun P pl a s with
 | some (.go s₀)=>match xMutex P M s₀ with
   |some s₁=>match arun P pl b s₁ with
    |some (.go s₂)=>match xGroup P L s₂ with
     |some s₃=>match killS vb tv l0 lf s₃ with
      |some s₄=>some (s₀.h.n,s₂.h.n,s₄)
      |none=>none
     |none=>none
    |_=>none
   |none=>none
 | _=>none
end
theorem Stand.underM[Zeros P](H:MxLib P M)(HL:Waits P L){a b tv:Nat}{l' lf:List Nat}(hn:n < 63)(e:muS P pl L M a b vb tv l0 lf s=some (mb,gb,s₁))(ef:foldB n locks f Vs l0 v=true)(ks:ASpawnsM P pl L M gb mb vb (VIn Vs) (fnOf n locks f) locks n (WaitedM vb v l' s') n s₁)(S:Stand P L base F w₀ .idle s m t) :
   Leads P FinP (Stand P L base F w₀ .idle s') m t:=by
 unfold muS at e
 split at e
 · rename_i s₀ h₀
   split at e
   ·rename_i s₂ h₂
    split at e
    ·rename_i s₃ h₃
     split at e
     ·rename_i s₄ h₄
      split at e
      ·rename_i s₅ h₅
       cases e
       refine Leads.bind (K:=Stand P L base F w₀ .idle s₀) ?_ fun m t S₁=>?_
       ·obtain ⟨W,U,Z,N,ρ,g,w,S,hp⟩:=S
        refine (S.reach (arun_reach a h₀ (.here rfl))).mono ?_
        rintro m t ⟨σ,s',g',w',rfl,k2,k3,k4⟩
        exact ⟨_,_,_,_,_,_,_,k3,trivial⟩
       ·refine (Stand.mutex h₂ S₁).bind fun m t S₂=>(S₂.reach (arun_reach b h₃ (.here rfl))).bind ?_
        rintro m t ⟨s',rfl,S₃⟩
        exact (StandM.group h₄ S₃).bind fun m t S₄=>S₄.phase H HL hn h₅ ef ks
      ·cases e
     ·cases e
    ·cases e
   ·cases e
 · cases e
end
end Go.Am
namespace Go.Am
open Go.Conc (born QuitsD G scase rcase Good)
open Go.Conc.Lib
open Go.ConcR (WgAt)
open Go.Ren (grow EvO Guar Rely Wk WkD Idle IdleD X0 At Leads Keep full Tm)
section
variable{P:Program}{ρ σ:Env}{F W U Z Z':Nat→Prop}{N:Nat}{h h':AH}{w w' w₀:World}{base:List Frame}{s s' s₀:AS}{pl:Plan}{g g':Goroutine}{L:WgLink}{FinP:Machine→Outcome→World→Trace→Prop}{m:Machine}{t:Trace}{c:AFr}{cs:List AFr}{fid:FuncId}{v:Value}{args:Array Value}
def xCallV(P:Program)(fid:FuncId)(v:Value)(s:AS):Option AS:=match opAt s with
 | some o=>match o.op with
   | .call c=>match c.callee with
    | .value (.func f)=>if f == fid && s.fr.round.isNone && c.args.size == 0 then xFin P s s.h v else none
    |_=>none
   |_=>none
 | none=>none
theorem xCallV_some(h:xCallV P fid v s=some s'):ACallV P fid v s s' :=by
 unfold xCallV at h
 split at h
 · rename_i o ho
   obtain ⟨h1,ops,i,l,k,h2,h3,h4,h5⟩:=opAt_some ho
   split at h
   ·rename_i c hop
    split at h
    ·rename_i f hf
     split at h
     ·rename_i hc
      simp only [Bool.and_eq_true,beq_iff_eq,Option.isNone_iff_eq_none] at hc
      obtain ⟨⟨rfl,hr⟩,ha⟩:=hc
      obtain ⟨a',h6,h7⟩:=xFin_some h
      obtain ⟨callee,as,ats⟩:=c
      dsimp only at hf ha
      subst hf
      have:as = #[]:=Array.eq_empty_of_size_eq_zero ha
      subst this
      exact ⟨h1,hr,ops,i,l,k,o,ats,a',h2,h3,h4,h5,hop,h6,h7⟩
     ·cases h
    ·cases h
   ·cases h
 · cases h
theorem Sd.callO[Zeros P](hp:plainFn P fid=true)(hv:Plain v)(orc:∀ {b:Frame} {bs:List Frame} {F:Nat→Prop} {w₀:World} {m:Machine} {t:Trace},Stand P L (b :: bs) F w₀ .idle ⟨AFr.enter P fid #[],[],h0⟩ m t→Leads P FinP (Back P b bs F w₀ v) m t)(S:Sd P base F w₀ W U Z N ρ s g w m t)(k:ACallV P fid v s s') :
   Leads P FinP (fun m t=>∃(W' U' Z':Nat→Prop) (N':Nat) (σ:Env) (g':Goroutine) (w':World),ρ.Le σ∧Sd P base F w₀ W' U' Z' N' σ s' g' w' m t) m t:=by
 obtain ⟨hrun,hround,ops,i,l,kk,o,ats,a',t1,t2,t3,t4,t5,t6,t7⟩:=k
 refine (S.atop (c:=[]) hrun t1).bind ?_
 rintro m t ⟨σ,lo,f,cs,w',hle,A,hat,hk,hkF,hlt⟩
 obtain ⟨hargs,sr,kr,hfat,hst⟩:=call_step (m:=true) (base:=base) hp A hround t2 t3 t4 t5
 have hargs':(#[]:Array Operand).map f.eval = #[]:=by simp
 rw [hargs'] at hst
 have hwk:Wk P true (fun _=>True) X0 (fun _=>False) (fun O' g' w''=>g' = gor (Frame.enter P fid #[] .normal) (f :: (cs ++ base))∧Rely (full Z w') (fun _=>False) w' w'') (full Z w') (gor f (cs ++ base)) w' :=
   Wk.mk rfl fun w₁ hr _=>⟨_,w₁,#[],hst w₁,.none w₁,.stop ⟨rfl,hr⟩⟩
 refine (Go.Ren.At.wk2 hwk hlt rfl hat).bind ?_
 rintro m t ⟨g₁,w₁,hat₁,⟨rfl,hrely⟩,hk₁⟩
 have hsz:w'.heap.size≤w₁.heap.size:=hrely.size
 have A₁:=A.rely hrely
 have St₁:Stand P L (f :: (cs ++ base)) (fun b=>full Z w' b∨F b) w₁ .idle ⟨AFr.enter P fid #[],[],h0⟩ m t:=by
   refine ⟨W,U,fun b=>b < w₁.heap.size,N,env0,_,w₁,⟨⟨hat₁.drop fun b hb=>Nat.lt_of_lt_of_le (hlt b hb) hsz,sim_enter0 _ _ _ _,fun b hb=>hb⟩,fun b hb=>Nat.lt_of_lt_of_le (hlt b (S.wu b hb)) hsz,fun b hb=>?_,fun b hb=>?_,.refl⟩,trivial⟩
   ·rcases hb with hb|hb
    ·exact Nat.lt_of_lt_of_le hb.1 hsz
    ·exact Nat.lt_of_lt_of_le (hlt b (S.fz b hb)) hsz
   ·rcases hb with hb|hb
    ·exact fun x=>hb.2 (S.wu b x)
    ·exact S.fwu b hb
 refine (orc St₁).mono ?_
 rintro m t ⟨W',U',Z₁,N',w₂,hat₂,hwu,hfz,hfwu,hkeep,hlt₂⟩
 have hsub:∀b,full Z w' b→full (fun b=>Z₁ b∧¬full Z w' b) w₂ b:=fun b hb=>⟨Nat.lt_of_lt_of_le hb.1 (Nat.le_trans hsz hkeep.2.1),fun x=>x.2 hb⟩
 have hrel:Rel σ (full (fun b=>Z₁ b∧¬full Z w' b) w₂) (fun _=>False) s.h w₂:=by
   have r1:Rel σ (full Z w') (fun _=>False) s.h { w₁ with heap:=w₂.heap }:=A₁.rel.rely ⟨hkeep.2.1,fun b hb=>hkeep.1 b (.inl hb),fun b hb=>hb.elim,.rfl,rfl,rfl⟩
   have r2:Rel σ (full Z w') (fun _=>False) s.h w₂:=⟨r1.cells,r1.obj,r1.own,r1.sep,r1.fresh,r1.low,r1.slack,r1.row,r1.mem⟩
   exact r2.mono hsub
 have A₂:AtOp P σ lo s ops i f cs (full (fun b=>Z₁ b∧¬full Z w' b) w₂) (fun _=>False) w₂:=⟨A₁.bound,A₁.fs,A₁.run,A₁.todo,A₁.ops_r,A₁.wanted,A₁.stk,hrel⟩
 subst t7
 refine ⟨W',U',fun b=>Z₁ b∧¬full Z w' b,N',σ,_,w₂,hle,⟨hat₂.alone.drop fun b hb=>⟨hwu b hb,fun hf=>hfwu b (.inl hf) hb⟩,?_,fun b hb=>hlt₂ b hb.1⟩,fun b hb=>⟨hwu b hb,fun hf=>hfwu b (.inl hf) hb⟩,fun b hb=>⟨hfz b (.inr hb),fun hf=>hf.2 (S.fz b hb)⟩,fun b hb=>hfwu b (.inr hb),hkF.trans ?_⟩
 · exact A₂.finish (.refl σ) (fun x _ hx=>hx) (Nat.le_refl _) (hv.vr σ) hrel t6
 · refine ⟨fun b hb=>?_,Nat.le_trans hsz hkeep.2.1,hrely.os.trans hkeep.2.2.1,hkeep.2.2.2.trans hrely.output⟩
   rw [hkeep.1 b (.inr hb)]
   exact hk₁.1 b (S.fz b hb)
theorem Sd.ends{Post:Value→World→Prop}{K:Machine→Trace→Prop}{fd:Func}{h₁:AH}(S:Sd P [] F w₀ W U Z N ρ s g w m t)(hcs:s.cs=[])(hnd:notDrawn s.fr=true)(hret:s.fr.ret=true)(hdf:s.fr.defers=[])(hdk:s.fr.dk=false)(hfd:P.funcs[s.fr.fn]? = some fd)(hx:(results fd s.fr.tmps).ar P none s.h=some (v,h₁))(hin:P.inits.idxOf? s.fr.fn=none)(hv:Plain v)
   (hP:∀w',Keep F w₀ w' → Post v w'):Leads P (Good P Post) K m t:=by
 obtain ⟨⟨lo,f,cs,hlo,rfl,hf,hcs'⟩,rel⟩:=S.st.sim
 rw [hcs] at hcs'
 cases hcs'
 have key:∀d₁,∃v' w' es,stepG P true (gor f ([] ++ [])) (w.at d₁) = .ended (.done v') w' es∧Guar X0 (full Z w) (fun _=>False) (w.at d₁) w' es∧Post v' w' :=fun d₁=>by
   obtain ⟨⟨lo',f',cs'',hlo',hg,hf',hcs''⟩,rel'⟩:=S.st.sim.at d₁
   have hb:f' = f∧cs'' = []:=by
    rw [hcs] at hcs''
    cases hcs''
    exact ⟨by injection hg with e1 _;exact e1.symm,rfl⟩
   obtain ⟨rfl,rfl⟩:=hb
   have hf0:F0 ρ s.fr f' :=hf'.f0 fun ops l k e=>by unfold notDrawn at hnd;rw [e] at hnd;cases hnd
   have hmode0:f'.mode = .returning:=by
    have:=hf0.mode
    rw [hret] at this
    exact this
   have hdef:=hf0.defers
   rw [hdf] at hdef
   have hkind:=hf0.toFB.normal hdk
   have hfn:f'.fn=s.fr.fn:=hf0.fn
   obtain ⟨τ,v',w',es,h1,h2,h3,h4,h5,h8,h9⟩:=out_of (X:=X0) ((sr_results fd hf0.tmps).sim0 rel' hx) f'.fn
   have hvv:=hv.eq h4
   subst hvv
   refine ⟨v',w',seen P f'.fn es,?_,h2,hP w' (S.keep.trans ⟨fun b hb=>?_,h2.size,.of h2.os,h2.output⟩)⟩
   ·obtain ⟨fn,tmps,todo,defers,mode,kind,ro⟩:=f'
    dsimp only at hmode0 hkind hfn hdef h1
    subst hmode0 hkind hfn
    cases hdef
    rw [stepG_ret rfl]
    simp only [unwind,hfd]
    rw [h1]
    simp [doReturn,hin,GStep.after,List.append_nil]
   ·have hlt:=S.st.lt b (S.fz b hb)
    exact h2.heap b hlt fun x=>x.2 (S.fz b hb)
 exact Go.Ren.At.ends rfl S.st.at_ key
end
end Go.Am
namespace Go.Ren
section
variable{P:Program}{O O' D D' A F:Nat→Prop}{w w₁ w₂ w':World}{g g':Goroutine}{X:Event→Prop}{I:World→Prop}{m:Bool}
theorem EvO.lessD{B:Nat}{e:Event}(h:EvO X B O D' e)(hD:∀b,D' b→O b∨D b):EvO X B O D e:=by
 rcases h with h|h
 · exact .inl h
 · right
   revert h
   cases e.loc with
   |cell a=>exact fun h=>h.elim .inl fun x=>(hD _ x.1).imp id fun y=>⟨y,x.2⟩
   |obj r=>exact fun h=>h.elim .inl fun x=>(hD _ x.1).imp id fun y=>⟨y,x.2⟩
   |_=>exact id
theorem Wk.lessD{S:(Nat→Prop)→Goroutine→World→Prop}(h:Wk P m I X D' S O g w):(∀b,D' b→O b∨D b)→Wk P m I X D S O g w:=by
 induction h with
 | stop h=>intro _;exact .stop h
 | @step O g w hs f u es h k ih=>
   intro hD
   have less:∀w₁,Rely O D w w₁→Rely O D' w w₁:=fun w₁ r=>⟨r.size,r.own,fun b hb=>(hD b hb).elim (r.own b) (r.ro b),r.os,r.output,r.tape⟩
   refine .step hs f u es (fun w₁ hr hi=>?_) fun w₁ hr hi=>ih w₁ (less w₁ hr) hi fun b hb=>(hD b hb).imp .inl id
   obtain ⟨h1,h2⟩:=h w₁ (less w₁ hr) hi
   exact ⟨h1,h2.size,h2.heap,h2.os,h2.output,h2.tape,fun e he=>(h2.ev e he).lessD fun b hb=>(hD b hb).imp .inl id⟩
theorem Wk.bnd{S:(Nat→Prop)→Goroutine→World→Prop}(h:Wk P m I X D S O g w):(∀b,O b→b < w.heap.size)→(∀b,D b→b < w.heap.size) →
   Wk P m I X D (fun O' g' w'=>S O' g' w' ∧ (∀b,O' b→b < w'.heap.size)∧(∀b,D b→b < w'.heap.size)∧∀b,O b→O' b) O g w:=by
 induction h with
 | stop h=>intro hO hD;exact .stop ⟨h,hO,hD,fun _=>id⟩
 | @step O g w hs f u es h k ih=>
   intro hO hD
   refine .step hs f u es h fun w₁ hr hi=>?_
   obtain ⟨_,h2⟩:=h w₁ hr hi
   refine (ih w₁ hr hi (fun b hb=>?_) fun b hb=>Nat.lt_of_lt_of_le (hD b hb) (Nat.le_trans hr.size h2.size)).mono fun O' g' w' z=>⟨z.1,z.2.1,z.2.2.1,fun b hb=>z.2.2.2 b (.inl hb)⟩
   rcases hb with hb|hb
   ·exact Nat.lt_of_lt_of_le (hO b hb) (Nat.le_trans hr.size h2.size)
   ·exact hb.2
theorem Wk.apart{S:(Nat→Prop)→Goroutine→World→Prop}(h:Wk P m I X D S O g w):(∀b,A b→b < w.heap.size∧¬O b) →
   Wk P m I X D (fun O' g' w'=>S O' g' w' ∧ ∀b,A b→b < w'.heap.size∧¬O' b) O g w:=by
 induction h with
 | stop h=>intro hA;exact .stop ⟨h,hA⟩
 | @step O g w hs f u es h k ih=>
   intro hA
   refine .step hs f u es h fun w₁ hr hi=>ih w₁ hr hi fun b hb=>?_
   obtain ⟨_,h2⟩:=h w₁ hr hi
   have h3:=h2.size
   have h4:=hr.size
   have h5:=(hA b hb).1
   exact ⟨by omega,fun x=>x.elim (hA b hb).2 fun y=>by omega⟩
theorem Wk.read{S:(Nat→Prop)→Goroutine→World→Prop}(h:Wk P m I X A S O g w)(hA:∀b,A b→b < w.heap.size∧¬O b) :
   Wk P m I X (fun _=>False) (fun O' g' w'=>∃O₁,S O₁ g' w' ∧ (O' = fun b=>O₁ b∨A b)∧(∀b,A b→¬O₁ b)∧Rely A A w w') (fun b=>O b∨A b) g w:=by
 refine (((h.apart hA).frame hA hA).lessD (D:=fun _=>False) fun b hb=>.inl (.inr hb)).mono ?_
 rintro O' g' w' ⟨O₁,⟨h1,h2⟩,rfl,h3⟩
 exact ⟨O₁,h1,rfl,fun b hb=>(h2 b hb).2,h3⟩
end
end Go.Ren
namespace Go.Am
open Go.Ren (grow EvO Guar Rely Wk X0)
section
variable{P:Program}{ρ σ τ:Env}{O O' D D':Nat→Prop}{h h' hA:AH}{w w':World}{base:List Frame}{pl:Plan}{s s':AS}{K L:AS→Prop}{Q R:Value→AH→Prop}{c:AFr}{cs:List AFr}{f:FuncId}{args:Array Value}{g:Goroutine}
structure Runs(P:Program)(K:AS→Prop)(s:AS):Prop where
 go:∀ {ρ:Env} {O D:Nat→Prop} {base:List Frame} {g:Goroutine} {w:World},(∀b,O b→b < w.heap.size)→(∀b,D b→b < w.heap.size)→Sim P ρ O D base s g w →
 Wk P true (fun _=>True) X0 D (fun O' g' w'=>∃(σ:Env) (s':AS),K s' ∧ ρ.Le σ∧Sim P σ O' D base s' g' w') O g w
structure Rets(P:Program)(Q:Value→AH→Prop)(s:AS):Prop where
 go:∀ {ρ:Env} {O D:Nat→Prop} {b:Frame} {bs:List Frame} {g:Goroutine} {w:World},(∀b,O b→b < w.heap.size)→(∀b,D b→b < w.heap.size)→Sim P ρ O D (b :: bs) s g w →
 Wk P true (fun _=>True) X0 D (fun O' g' w'=>∃(σ:Env) (v:Value) (h:AH) (v':Value),Q v h∧ρ.Le σ∧VR σ v v' ∧ g' = gor (b.finish v') bs∧Rel σ O' D h w') O g w
theorem AReach.runs[Zeros P](k:AReach P pl K s):Runs P K s:=⟨fun _ _ S=>areach_wk k S⟩
theorem AAll.rets[Zeros P](k:AAll P pl Q s):Rets P Q s:=⟨fun _ _ S=>aall_wk k S⟩
theorem Runs.here(h:K s):Runs P K s:=⟨fun _ _ S=>.stop ⟨_,_,h,.refl _,S⟩⟩
theorem Runs.bind(k:Runs P K s)(l:∀s,K s→Runs P L s):Runs P L s:=by
 refine ⟨fun hO hD S=>?_⟩
 refine ((k.go hO hD S).bnd hO hD).bind ?_
 rintro O₁ g₁ w₁ ⟨⟨σ,s₁,h1,h2,h3⟩,h4,h5,_⟩
 refine ((l s₁ h1).go h4 h5 h3).mono ?_
 rintro O₂ g₂ w₂ ⟨τ,s₂,k1,k2,k3⟩
 exact ⟨τ,s₂,k1,h2.trans k2,k3⟩
theorem Runs.mono(k:Runs P K s)(l:∀s,K s→L s):Runs P L s:=k.bind fun s h=>Runs.here (l s h)
theorem Runs.rets(k:Runs P K s)(l:∀s,K s→Rets P Q s):Rets P Q s:=by
 refine ⟨fun hO hD S=>?_⟩
 refine ((k.go hO hD S).bnd hO hD).bind ?_
 rintro O₁ g₁ w₁ ⟨⟨σ,s₁,h1,h2,h3⟩,h4,h5,_⟩
 refine ((l s₁ h1).go h4 h5 h3).mono ?_
 rintro O₂ g₂ w₂ ⟨τ,v,h,v',k1,k2,k3⟩
 exact ⟨τ,v,h,v',k1,h2.trans k2,k3⟩
theorem Rets.mono(k:Rets P Q s)(l:∀v h,Q v h→R v h):Rets P R s:=by
 refine ⟨fun hO hD S=>?_⟩
 refine (k.go hO hD S).mono ?_
 rintro O₂ g₂ w₂ ⟨τ,v,h,v',k1,k2⟩
 exact ⟨τ,v,h,v',l v h k1,k2⟩
end
end Go.Am
namespace Go.Am
open Go.Ren (grow EvO Guar Rely Wk X0)
def OkF(p:Nat→Prop):Fn→Prop
 | .yield l=>p l
 | _=>True
inductive OkV(p:Nat→Prop):Value→Prop
 | bool (b:Bool):OkV p (.bool b)
 | int (k:IntKind) (n:Int):OkV p (.int k n)
 | string (s:ByteArray):OkV p (.string s)
 | nilptr:OkV p (.pointer none)
 | ptr {a:Addr} (h:p a.block):OkV p (.pointer (some a))
 | nilslice (n c:Nat):OkV p (.slice none n c)
 | slice {a:Addr} {n c:Nat} (h:p a.block):OkV p (.slice (some a) n c)
 | nilmap:OkV p (.map none)
 | map {r:Nat} (h:p r):OkV p (.map (some r))
 | nilchan:OkV p (.chan none)
 | chan {r:Nat} (h:p r):OkV p (.chan (some r))
 | nilFunc:OkV p .nilFunc
 | func {f:Fn} {a b:Array Value} (hf:OkF p f) (h:∀x∈a,OkV p x) (k:∀x∈b,OkV p x):OkV p (.func f a b)
 | nilIface:OkV p .nilIface
 | iface {t:TypeId} {v:Value} (h:OkV p v):OkV p (.iface t v)
 | agg {a:Array Value} (h:∀x∈a,OkV p x):OkV p (.agg a)
 | tuple {a:Array Value} (h:∀x∈a,OkV p x):OkV p (.tuple a)
theorem related_of_mem{ρ:Env}{a a':Array Value}(hs:a.size=a'.size){x:Value}(hx:x∈a):∃(i:Nat) (y:Value),a[i]? = some x∧a'[i]? = some y:=by
 obtain ⟨i,hi,rfl⟩:=Array.mem_iff_getElem.1 hx
 exact ⟨i,a'[i]'(hs ▸ hi),by simp [hi],by simp [hs ▸ hi]⟩
theorem VR.ok{ρ:Env}{q:Nat→Prop}{v v':Value}(k:VR ρ v v'):OkV q v→OkV (fun b=>ρ.born b∧q b) v:=by
 induction k with
 | bool b=>intro _;exact .bool b
 | int k n=>intro _;exact .int k n
 | string s=>intro _;exact .string s
 | nilptr=>intro _;exact .nilptr
 | ptr h=>intro k;cases k with|ptr k=>exact .ptr ⟨h,k⟩
 | nilslice n c=>intro _;exact .nilslice n c
 | slice h _=>intro k;cases k with|slice k=>exact .slice ⟨h,k⟩
 | nilmap=>intro _;exact .nilmap
 | map h=>intro k;cases k with|map k=>exact .map ⟨h.1,k⟩
 | nilchan=>intro _;exact .nilchan
 | chan h=>intro k;cases k with|chan k=>exact .chan ⟨h.1,k⟩
 | nilFunc=>intro _;exact .nilFunc
 | @func f f' a a' b b' hf hs _ ks _ ih ik=>
   intro k
   cases k with
   |func k1 k2 k3=>
    refine .func ?_ (fun x hx=>?_) fun x hx=>?_
    ·cases hf with
     |yield h=>exact ⟨h.1,k1⟩
     |_=>trivial
    ·obtain ⟨i,y,h1,h2⟩:=related_of_mem (ρ:=ρ) hs hx
     exact ih i x y h1 h2 (k2 x hx)
    ·obtain ⟨i,y,h1,h2⟩:=related_of_mem (ρ:=ρ) ks hx
     exact ik i x y h1 h2 (k3 x hx)
 | nilIface=>intro _;exact .nilIface
 | iface _ ih=>intro k;cases k with|iface k=>exact .iface (ih k)
 | agg hs _ ih=>
   intro k
   cases k with
   |agg k=>
    refine .agg fun x hx=>?_
    obtain ⟨i,y,h1,h2⟩:=related_of_mem (ρ:=ρ) hs hx
    exact ih i x y h1 h2 (k x hx)
 | tuple hs _ ih=>
   intro k
   cases k with
   |tuple k=>
    refine .tuple fun x hx=>?_
    obtain ⟨i,y,h1,h2⟩:=related_of_mem (ρ:=ρ) hs hx
    exact ih i x y h1 h2 (k x hx)
structure Env.Ag(ρ τ:Env)(b:Nat):Prop where
 born:τ.born b
 to:τ.to b=ρ.to b
 slack:ρ.slack b→τ.slack b
 u:τ.u b=ρ.u b
 ext:τ.ext b=ρ.ext b
theorem VR.carry{ρ τ:Env}{p:Nat→Prop}{v v':Value}(k:VR ρ v v')(hp:∀b,p b→ρ.born b→ρ.Ag τ b):OkV p v→VR τ v v' :=by
 have had:∀a:Addr,ρ.Ag τ a.block→τ.addr a=ρ.addr a:=fun a h=>by unfold Env.addr;rw [h.to]
 have hob:∀r r',p r→ρ.ob r r' → τ.ob r r' :=fun r r' h k=>⟨(hp r h k.1).born,(hp r h k.1).to.trans k.2⟩
 induction k with
 | bool b=>intro _;exact .bool b
 | int k n=>intro _;exact .int k n
 | string s=>intro _;exact .string s
 | nilptr=>intro _;exact .nilptr
 | ptr h=>intro k;cases k with|ptr k=>rw [←had _ (hp _ k h)];exact .ptr (hp _ k h).born
 | nilslice n c=>intro _;exact .nilslice n c
 | slice h hc=>
   intro k
   cases k with
   |slice k=>
    have e:=hp _ k h
    rw [←had _ e]
    refine .slice e.born (hc.imp id fun ⟨x,y,z⟩=>⟨e.slack x,y,?_⟩)
    rw [e.u,e.ext];exact z
 | nilmap=>intro _;exact .nilmap
 | map h=>intro k;cases k with|map k=>exact .map (hob _ _ k h)
 | nilchan=>intro _;exact .nilchan
 | chan h=>intro k;cases k with|chan k=>exact .chan (hob _ _ k h)
 | nilFunc=>intro _;exact .nilFunc
 | @func f f' a a' b b' hf hs _ ks _ ih ik=>
   intro k
   cases k with
   |func k1 k2 k3=>
    refine .func ?_ hs (fun i x y hx hy=>ih i x y hx hy (k2 x (Array.mem_of_getElem? hx))) ks fun i x y hx hy=>ik i x y hx hy (k3 x (Array.mem_of_getElem? hx))
    cases hf with
    |yield h=>exact .yield (hob _ _ k1 h)
    |func f=>exact .func f
    |method n=>exact .method n
    |methodOf t n=>exact .methodOf t n
    |via t p f x=>exact .via t p f x
 | nilIface=>intro _;exact .nilIface
 | iface _ ih=>intro k;cases k with|iface k=>exact .iface (ih k)
 | agg hs _ ih=>intro k;cases k with|agg k=>exact .agg hs fun i x y hx hy=>ih i x y hx hy (k x (Array.mem_of_getElem? hx))
 | tuple hs _ ih=>intro k;cases k with|tuple k=>exact .tuple hs fun i x y hx hy=>ih i x y hx hy (k x (Array.mem_of_getElem? hx))
def Env.cut(ρ:Env)(n:Nat):Env:={ ρ with born:=fun b=>ρ.born b∧b < n }
structure AH.Sub(hA h:AH):Prop where
 look:∀b B,hA.look b=some B→∃B₀,h.look b=some B₀∧B.obj=B₀.obj∧B.fam=B₀.fam∧B.u=B₀.u∧B.ro=true
 cells:∀b B,hA.look b=some B→∃c e f,B.obj = .cells c e f∧∀x∈c,OkV (· < hA.n) x
 tr:∀b B,hA.tr.get b=some B→∃B₀,h.tr.get b=some B₀∧B.obj=B₀.obj
 fams:∀f l,hA.fams.get f=some l→∃l',h.fams.get f=some l' ∧ l.Sublist l'
 mem:∀f l b,hA.fams.get f=some l→b∈l→b < hA.n∧∃B,hA.tr.get b=some B∧B.fam=some f
section
variable{P:Program}{ρ σ τ:Env}{O O' D D':Nat→Prop}{h h' hA:AH}{w w':World}{base:List Frame}{pl:Plan}{s s':AS}{K L:AS→Prop}{Q R:Value→AH→Prop}{c:AFr}{cs:List AFr}{f:FuncId}{args:Array Value}{g:Goroutine}
theorem Env.cut_ag{n b:Nat}(hb:b < n)(k:ρ.born b):ρ.Ag (ρ.cut n) b:=⟨⟨k,hb⟩,rfl,id,rfl,rfl⟩
theorem Rel.view(r:Rel ρ O D h w)(k:hA.Sub h):Rel (ρ.cut hA.n) (fun _=>False) (fun b=>O b∨D b) hA w:=by
 have up:∀b n,hA.upTo (ρ.cut hA.n) b n→h.upTo ρ b n:=by
   rintro b n ⟨B',c,e,f,h1,h2,h3⟩
   obtain ⟨B,k1,k2⟩:=k.tr b B' h1
   exact ⟨B,c,e,f,k1,k2 ▸ h2,h3⟩
 refine ⟨fun b B c e f hb hk ho=>?_,fun b B hb hk ho=>?_,fun b B hb hk=>?_,fun b b' B B' hb hb' hk hk' hne hs=>?_,fun b hb=>hb.2,fun b hb=>r.low b hb.1,fun b B hb hk=>?_,fun f l hfl=>?_,fun f l hfl b hb=>k.mem f l b hfl hb⟩
 · obtain ⟨B₀,k1,k2,k7,k8,k9⟩:=k.look b B hk
   obtain ⟨c',e',f',k3,k4⟩:=k.cells b B hk
   rw [ho] at k3
   cases k3
   obtain ⟨C,E,g,c1,c2,c3,c4,c5⟩:=r.cells b B₀ c e f hb.1 k1 (k2 ▸ ho)
   refine ⟨C,E,g,c1,c2,c3,fun hn=>c4 fun hp=>hn ⟨k7.trans hp.1,k9,k8.trans hp.2.2⟩,fun i v hv=>?_⟩
   obtain ⟨v',p1,p2⟩:=c5 i v hv
   exact ⟨v',p1,p2.carry (fun b hb hb'=>Env.cut_ag hb hb') (k4 v (Array.mem_of_getElem? hv))⟩
 · obtain ⟨c',e',f',k3,_⟩:=k.cells b B hk
   exact absurd k3 (ho _ _ _)
 · obtain ⟨B₀,k1,_,_,_,k5⟩:=k.look b B hk
   exact ⟨fun z=>absurd (k5.symm.trans z) (by decide),.inr (r.own b B₀ hb.1 k1).2⟩
 · obtain ⟨B₀,k1,_,k3,k4,k5⟩:=k.look b B hk
   obtain ⟨B₁,j1,_,j3,j4,j5⟩:=k.look b' B' hk'
   rcases r.sep b b' B₀ B₁ hb.1 hb'.1 k1 j1 hne hs with ⟨f,g1,g2⟩|⟨⟨g1,_,g3⟩,i1,_,i3⟩
   ·exact .inl ⟨f,k3.trans g1,j3.trans g2⟩
   ·exact .inr ⟨⟨k3.trans g1,k5,k4.trans g3⟩,j3.trans i1,j5,j4.trans i3⟩
 · obtain ⟨B₀,k1,_,k3,k4,_⟩:=k.look b B hk
   obtain ⟨s1,s2⟩:=r.slack b B₀ hb.1 k1
   exact ⟨s1.trans (by rw [k3]),fun z=>(s2 (k3 ▸ z)).trans k4.symm⟩
 · obtain ⟨l',g1,g2⟩:=k.fams f l hfl
   exact ((r.row f l' g1).sublist g2).imp fun hp b1 b2 hs n n' u1 u2=>hp b1.1 b2.1 hs n n' (up _ _ u1) (up _ _ u2)
theorem Runs.call[Zeros P](k:Rets P Q ⟨AFr.enter P f args,[],hA⟩)(hs:hA.Sub h)(ha:∀x∈args,OkV (· < hA.n) x)(hq:∀p:Nat→Prop,(∀x∈args,OkV p x)→∀v h',Q v h' → OkV p v)(hfin:∀v h',Q v h' → ∃a',afinish P c h v=some a') :
   Runs P (fun s'=>∃v h' a',Q v h' ∧ afinish P c h v=some a' ∧ s' = ⟨a',cs,h⟩) ⟨AFr.enter P f args,c :: cs,h⟩:=by
 refine ⟨?_⟩
 intro ρ O D base g w hO hD S
 obtain ⟨⟨lo,fr,cs',hlo,rfl,hf,hcs⟩,rel⟩:=S
 cases hcs with
 | @cons lo' _ _ fc _ fcs hlo' hfc hfcs=>
   have hf0:F0 ρ (AFr.enter P f args) fr:=by
    cases hf with
    |plain hf=>exact hf
    |ahead kk _=>
     obtain ⟨k1,k2,t1,_⟩:=kk.todo
     cases t1
   have eT:(AFr.enter P f args).tmps=args ++ Array.replicate (((P.funcs[f]?).map (·.ntmps)).getD 0 - args.size) undef:=rfl
   have S0:Sim P (ρ.cut hA.n) (fun _=>False) (fun b=>O b∨D b) (fc :: (fcs ++ base)) ⟨AFr.enter P f args,[],hA⟩ (gor fr ([] ++ fc :: (fcs ++ base))) w:=by
    refine ⟨⟨0,fr,[],Nat.zero_le _,rfl,.plain ?_,.nil⟩,rel.view hs⟩
    refine ⟨⟨hf0.fn,?_,hf0.mode,hf0.kind,?_⟩,?_,?_⟩
    ·have:=hf0.defers
     generalize fr.defers=d at this
     cases this
     exact .nil
    ·have:=hf0.round
     generalize fr.roundOf=r at this
     cases this
     exact .none
    ·refine ⟨hf0.tmps.1,fun i x y hx hy=>?_⟩
     have hxy:=hf0.tmps.2 i x y hx hy
     rw [eT] at hx
     by_cases hi:i < args.size
     ·rw [Array.getElem?_append_left hi] at hx
      exact hxy.carry (fun b hb hb'=>Env.cut_ag hb hb') (ha x (Array.mem_of_getElem? hx))
     ·rw [Array.getElem?_append_right (by omega),Array.getElem?_replicate] at hx
      split at hx
      ·cases hx
       exact hxy.carry (p:=fun _=>False) (fun b hb _=>hb.elim) (.tuple fun x hx=>by simp [undef] at hx)
      ·cases hx
    ·have:=hf0.todo
     generalize fr.todo=d at this
     cases this with
     |cons hi hl=>
      cases hl
      cases hi
      exact .cons (.code _) .nil
   have hargs:∀x∈args,OkV (fun b=>ρ.born b∧b < hA.n) x:=fun x hx=>by
    obtain ⟨i,hi,rfl⟩:=Array.mem_iff_getElem.1 hx
    have h1:(AFr.enter P f args).tmps[i]? = some args[i]:=by rw [eT,Array.getElem?_append_left hi];simp [hi]
    have h2:i < fr.tmps.size:=by rw [←hf0.tmps.1];exact (Array.getElem?_eq_some_iff.1 h1).1
    exact (hf0.tmps.2 i _ _ h1 (Array.getElem?_eq_getElem h2)).ok (ha _ hx)
   have W:=((k.go (fun b hb=>hb.elim) (fun b hb=>hb.elim (hO b) (hD b)) S0).frame (F:=O) (fun b hb=>⟨hO b hb,id⟩) (fun b hb=>⟨hb.elim (hO b) (hD b),id⟩)).lessD (D:=D) fun b hb=>hb.imp .inr id
   have e1:(fun b=>False∨O b)=O:=by funext b;simp
   rw [e1] at W
   refine W.mono fun O' g' w' hz=>?_
   obtain ⟨O₁,⟨τ,v,h₁,v',q1,q2,q3,q4,q5⟩,rfl,hrely⟩:=hz
   obtain ⟨a',ha'⟩:=hfin v h₁ q1
   have hv:VR ρ v v' :=q3.carry (fun b hb hb'=>⟨hb.1,(q2.to b hb).symm,(q2.slack b hb).1,(q2.u b hb).symm,(q2.ext b hb).symm⟩) (hq _ hargs v h₁ q1)
   have hrely':Rely O D w w' :=⟨hrely.size,hrely.own,fun b hb=>hrely.ro b (.inr hb),hrely.os,hrely.output,hrely.tape⟩
   exact ⟨ρ,_,⟨v,h₁,a',q1,ha',rfl⟩,.refl ρ,⟨lo',_,fcs,Nat.le_trans hlo' hlo,q4,finish_S hfc hlo hv ha',hfcs⟩,(rel.rely hrely').mono fun b hb=>.inr hb⟩
end
end Go.Am
namespace Go.Am
open Go.Conc (born QuitsD G scase rcase Good)
open Go.Conc.Lib
open Go.ConcR (WgAt)
open Go.Ren (grow EvO Guar Rely Wk X0 At Leads Keep full Tm)
structure Sr(P:Program)(base:List Frame)(F:Nat→Prop)(w₀:World)(W U Z:Nat→Prop)(N:Nat)(ρ:Env)(s:AS)(g:Goroutine)(w:World)(m:Machine)(t:Trace):Prop where
 at_:At P W U (fun b=>Z b∧¬F b) N 0 g w m t
 sim:Sim P ρ (full Z w) F base s g w
 lt:∀b,Z b→b < w.heap.size
 wu:∀b,W b∨U b→Z b
 fz:∀b,F b→Z b
 fwu:∀b,F b→¬(W b∨U b)
 keep:Keep F w₀ w
section
variable{P:Program}{ρ σ τ:Env}{O O' D D' F W U Z:Nat→Prop}{N:Nat}{h h' hA:AH}{w w' w₀:World}{base:List Frame}{pl:Plan}{s s':AS}{K L:AS→Prop}{Q R:Value→AH→Prop}{c:AFr}{cs:List AFr}{f:FuncId}{args:Array Value}{g:Goroutine}{m:Machine}{t:Trace}{FinP:Machine→Outcome→World→Trace→Prop}
theorem Sr.runs(k:Runs P K s)(S:Sr P base F w₀ W U Z N ρ s g w m t) :
   Leads P FinP (fun m t=>∃(σ:Env) (s':AS) (g':Goroutine) (w':World),K s' ∧ ρ.Le σ∧Sr P base F w₀ W U Z N σ s' g' w' m t) m t:=by
 have hF:∀b,F b→b < w.heap.size∧¬full Z w b:=fun b hb=>⟨S.lt b (S.fz b hb),fun x=>x.2 (S.fz b hb)⟩
 have e:(fun b=>full Z w b∨F b)=full (fun b=>Z b∧¬F b) w:=by
   funext b
   apply propext
   constructor
   ·rintro (hb|hb)
    ·exact ⟨hb.1,fun x=>hb.2 x.1⟩
    ·exact ⟨(hF b hb).1,fun x=>x.2 hb⟩
   ·rintro ⟨h1,h2⟩
    by_cases hb:F b
    ·exact .inr hb
    ·exact .inl ⟨h1,fun x=>h2 ⟨x,hb⟩⟩
 have hlt0:∀b,(Z b∧¬F b)→b < w.heap.size:=fun b hb=>S.lt b hb.1
 refine (Go.Ren.At.wk2 ((k.go (fun b hb=>hb.1) (fun b hb=>(hF b hb).1) S.sim).read hF) hlt0 e S.at_).mono ?_
 rintro m t ⟨g',w',hat,⟨O₁,⟨σ,s',h1,h2,h3⟩,h4,h5,h6⟩,hk⟩
 have hlt':∀b,Z b→b < w'.heap.size:=fun b hb=>Nat.lt_of_lt_of_le (S.lt b hb) h6.size
 have e1:O₁=full Z w' :=by
   funext b
   apply propext
   have hb:=congrFun h4 b
   constructor
   ·intro ho
    have:full (fun b=>Z b∧¬F b) w' b:=by rw [hb];exact .inl ho
    exact ⟨this.1,fun x=>this.2 ⟨x,fun y=>h5 b y ho⟩⟩
   ·rintro ⟨x1,x2⟩
    have:full (fun b=>Z b∧¬F b) w' b:=⟨x1,fun y=>x2 y.1⟩
    rw [hb] at this
    exact this.resolve_right fun y=>x2 (S.fz b y)
 subst e1
 exact ⟨σ,s',g',w',h1,h2,hat,h3,hlt',S.wu,S.fz,S.fwu,S.keep.trans ⟨h6.own,h6.size,h6.os,h6.output⟩⟩
theorem Sr.sd(S:Sr P base F w₀ W U Z N ρ s g w m t)(hd:notDrawn s.fr=true):Sd P base F w₀ W U Z N ρ ⟨s.fr,s.cs,⟨s.h.n,.nil,.nil⟩⟩ g w m t:=by
 have S' :=S.sim.forget [] hd
 have e:s.h.forget []=⟨s.h.n,.nil,.nil⟩:=rfl
 rw [e] at S'
 have nl:∀b B,(⟨s.h.n,.nil,.nil⟩:AH).look b=some B→False:=fun b B h=>by cases h
 refine ⟨⟨S.at_.drop fun b hb=>hb.1,⟨S'.run,?_⟩,S.lt⟩,S.wu,S.fz,S.fwu,S.keep⟩
 have r:=S'.rel
 exact ⟨fun b B _ _ _ _ hl=>(nl b B hl).elim,fun b B _ hl=>(nl b B hl).elim,fun b B _ hl=>(nl b B hl).elim,fun b _ B _ _ _ hl=>(nl b B hl).elim,r.fresh,r.low,fun b B _ hl=>(nl b B hl).elim,fun f l hf=>(by cases hf),fun f l hf=>(by cases hf)⟩
def envP(to:Nat→Nat×Nat)(hA:AH):Env:={ to:=to,born:=fun b=>b < hA.n,slack:=fun _=>False,u:=fun _=>0,ext:=fun b=>match hA.look b with|some B=>sizeO B.obj|none=>0 }
theorem rel_pins{W:World}{to:Nat→Nat×Nat}(hl:∀b B,hA.look b=some B→B.Pin∧∃c e f C E,B.obj = .cells c e f∧(∃g,W.heap[(to b).1]? = some (.cells C E g))∧(to b).2+c.size≤C.size∧∀(i:Nat) v,c[i]? = some v→C[(to b).2+i]? = some v∧Plain v)
   (hf:hA.fams = .nil) (hlow:∀b,b < hA.n→(to b).1 < W.heap.size):Rel (envP to hA) (fun _=>False) (fun b=>b < W.heap.size) hA W:=by
 refine ⟨fun b B c e f hb hk ho=>?_,fun b B hb hk ho=>?_,fun b B hb hk=>?_,fun b b' B B' hb hb' hk hk' hne hs=>?_,fun b hb=>hb,fun b hb=>hlow b hb,fun b B hb hk=>?_,fun f l hfl=>?_,fun f l hfl b hb=>?_⟩
 · obtain ⟨hp,c',e',f',C,E,h1,⟨g,h2⟩,h3,h4⟩:=hl b B hk
   rw [ho] at h1
   cases h1
   have hext:(envP to hA).ext b=c.size:=by
    show (match hA.look b with|some B=>sizeO B.obj|none=>0)=c.size
    rw [hk]
    show sizeO B.obj=c.size
    rw [ho]
    rfl
   refine ⟨C,E,g,h2,by rw [hext];exact h3,Nat.le_of_eq hext.symm,fun hn=>absurd hp hn,fun i v hv=>?_⟩
   obtain ⟨k1,k2⟩:=h4 i v hv
   exact ⟨v,k1,k2.vr _⟩
 · obtain ⟨_,c',e',f',C,E,h1,_⟩:=hl b B hk
   exact absurd h1 (ho _ _ _)
 · exact ⟨fun z=>absurd ((hl b B hk).1.2.1.symm.trans z) (by decide),.inr (hlow b hb)⟩
 · exact .inr ⟨(hl b B hk).1,(hl b' B' hk').1⟩
 · obtain ⟨⟨h1,_⟩,_⟩:=hl b B hk
   exact ⟨⟨fun z=>z.elim,fun z=>z h1⟩,fun z=>absurd h1 z⟩
 · rw [hf] at hfl;cases hfl
 · rw [hf] at hfl;cases hfl
theorem Sr.start{W:World}{f:FuncId}{args':Array Value}(hr:Rel ρ (fun _=>False) (fun b=>b < W.heap.size) hA W)(ha:AR (VR ρ) args args') :
   Sr P [] (fun b=>b < W.heap.size) W (fun _=>False) (fun _=>False) (fun b=>b < W.heap.size) 1 ρ ⟨AFr.enter P f args,[],hA⟩ (gor (Frame.enter P f args' .normal) []) W (Go.Conc.solo (G (Frame.enter P f args' .normal) []) W) #[]:=
 ⟨(Go.Ren.at_start _ W).drop fun b hb=>hb.elim,⟨⟨0,_,[],Nat.zero_le _,rfl,.plain (enter_r f ha),.nil⟩,hr.mono fun b hb=>hb.elim⟩,fun b hb=>hb,fun b hb=>(hb.elim id id:False).elim,fun b hb=>hb,fun b _ hb=>(hb.elim id id:False),.refl⟩
end
end Go.Am
namespace Go.Am
section
variable{P:Program}{pl:Plan}{s s' s₁ s₂:AS}{K:AS→Prop}{ob:List (Value×Value)}{v:Value}{h:AH}{n:Nat}{Q:Value→AH→Prop}
theorem Runs.forget(l:List Nat)(hd:notDrawn s.fr=true):Runs P (· = ⟨s.fr,s.cs,s.h.forget l⟩) s:=⟨fun hO hD S=>.stop ⟨_,_,rfl,.refl _,S.forget l hd⟩⟩
end
theorem wr_id{x:Int}(h1 : -9223372036854775808≤x)(h2:x≤9223372036854775807):IntKind.i64.wrap x=x:=by
 simp [IntKind.wrap,IntKind.min,IntKind.max,IntKind.signed,IntKind.bits]<;>(try split)<;>omega
end Go.Am
namespace Go.Am
theorem VR.okV{ρ:Env}{q:Nat→Prop}{v v':Value}(k:VR ρ v v')(hp:∀b,ρ.born b→q b):OkV q v:=by
 induction k with
 | bool b=>exact .bool b
 | int k n=>exact .int k n
 | string s=>exact .string s
 | nilptr=>exact .nilptr
 | ptr h=>exact .ptr (hp _ h)
 | nilslice n c=>exact .nilslice n c
 | slice h _=>exact .slice (hp _ h)
 | nilmap=>exact .nilmap
 | map h=>exact .map (hp _ h.1)
 | nilchan=>exact .nilchan
 | chan h=>exact .chan (hp _ h.1)
 | nilFunc=>exact .nilFunc
 | @func f f' a a' b b' hf hs _ ks _ ih ik=>
   refine .func ?_ (fun x hx=>?_) fun x hx=>?_
   ·cases hf with
    |yield h=>exact hp _ h.1
    |_=>trivial
   ·obtain ⟨i,y,h1,h2⟩:=related_of_mem (ρ:=ρ) hs hx
    exact ih i x y h1 h2
   ·obtain ⟨i,y,h1,h2⟩:=related_of_mem (ρ:=ρ) ks hx
    exact ik i x y h1 h2
 | nilIface=>exact .nilIface
 | iface _ ih=>exact .iface ih
 | agg hs _ ih=>
   refine .agg fun x hx=>?_
   obtain ⟨i,y,h1,h2⟩:=related_of_mem (ρ:=ρ) hs hx
   exact ih i x y h1 h2
 | tuple hs _ ih=>
   refine .tuple fun x hx=>?_
   obtain ⟨i,y,h1,h2⟩:=related_of_mem (ρ:=ρ) hs hx
   exact ih i x y h1 h2
theorem Plain.okV{p:Nat→Prop}{v:Value}(h:Plain v):OkV p v:=VR.okV (ρ:=env0) h fun b hb=>hb.elim
section
variable{P:Program}{Q:Value→AH→Prop}{R:Value→Prop}{c:AFr}{cs:List AFr}{f:FuncId}{args:Array Value}{h hA:AH}{nA:Nat}
theorem trL_get:∀(l:List (Nat×Blk)) {b:Nat} {B:Blk},(trL l).get b=some B→(b,B)∈l
 | [],b,B,e=>by cases e
 | (c,C) :: l,b,B,e=>by
   unfold trL at e
   rw [Tr.get_set] at e
   split at e
   ·rename_i hb;subst hb;cases e;exact .head _
   ·exact .tail _ (trL_get l e)
end
end Go.Am
namespace Go.Am
def effects(ops:Array Oper):List Nat:=(List.range ops.size).filter fun i=>kindAt ops i == .effect
def lastEff(ops:Array Oper)(t:List Nat)(i:Nat):Option Nat:=((effects ops).filter fun e=>Nat.testBit (maskAt t ops.size i) e).getLast?
def asap(ops:Array Oper)(t:List Nat):List Nat:=
 let ls:=(List.range ops.size).filter fun i=>kindAt ops i != .effect
 (ls.filter fun i=>lastEff ops t i == none) ++ (effects ops).flatMap fun e=>e :: (ls.filter fun i=>lastEff ops t i == some e)
def again(ops:Array Oper)(t:List Nat)(i:Nat)(rest:List Nat):List Nat:=
 if kindAt ops i == .light then [] else
   let es:=(effects ops).filter fun e=> !rest.contains e
   (List.range ops.size).filter fun j=> !rest.contains j && kindAt ops j != .effect && !es.any fun e=>Nat.testBit (maskAt t ops.size e) j
def withAgain(ops:Array Oper)(t:List Nat):List Nat→List (Nat×List Nat)
 | []=>[]
 | i :: l=>(i,again ops t i l) :: withAgain ops t l
def plan:Plan:=fun _ ops=>withAgain ops (depMask ops ops.size) (asap ops (depMask ops ops.size))
end Go.Am
