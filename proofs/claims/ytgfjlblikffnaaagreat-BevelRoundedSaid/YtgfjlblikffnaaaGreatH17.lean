import Derived.Test.YtgfjlblikffnaaaGreatH16
set_option linter.unusedVariables false
set_option linter.unusedSectionVars false
set_option linter.unusedSimpArgs false
namespace Go.Am
open Go.Conc (born QuitsD G scase rcase)
open Go.Conc.Lib
open Go.ConcR (WgAt)
open Go.Ren (grow fM aO az Wk fH Idle ag X0 XS XM Lv jh fQ rF je hearing lH uT iJ M1 Anch Spawns kV At aA Keep full Own jv Fr uV)
def opAt(s:AS):Option Oper:=
 match s.fr.ret,s.fr.todo with
 | false,.region ops (i :: _) :: _=>match ops[i]? with
   |some o=>if Region.wanted o (yielded ops s.fr.tmps) && bf o then some o else none
   |none=>none
 | _,_=>none
def tK(P:Program)(s:AS)(h:AH)(v:Value):Option AS:=match au P s.fr h v with
 | some a=>some ⟨a,s.cs,h⟩
 | none=>none
def LK(P:Program)(s:AS):Option (Nat×AS):=match opAt s with
 | some o=>match o.op with
   | .makeChan t sz=>match af s.fr.tmps sz,P.underlying t with
    | .int _ n,some (.chan _ elem)=>match P.info? elem with
     |some inf=>if decide (0≤n∧n≤IntKind.i64.max∧inf.bytes * n≤2 ^ 48 - 112) && (s.h.look s.h.n).isNone then match tK P s s.h.blank (.chan (some s.h.n)) with
       |some s'=>some (n.toNat,s')
       |none=>none
      else none
     |none=>none
    |_,_=>none
   |_=>none
 | none=>none
def CB(P:Program)(L:WgLink)(s:AS):Option AS:=match opAt s with
 | some o=>match o.op with
   | .alloc t=>match zeroOf P t with
    |some z=>if t == L.tWg && (s.h.look s.h.n).isNone && jB 3 (.agg z.cells) (.agg #[.int .u64 0,.int .u32 0]) then tK P s s.h.blank (.pointer (some ⟨s.h.n,0,none⟩)) else none
    |none=>none
   |_=>none
 | none=>none
def AV(P:Program)(fid:FuncId)(args:Array Value)(s:AS):Option AS:=match opAt s with
 | some o=>match o.op with
   | .call c=>match c.callee with
    | .value (.func f)=>if f == fid && s.fr.round.isNone && jB 3 (.tuple (c.args.map (af s.fr.tmps))) (.tuple args) then tK P s s.h (.tuple #[]) else none
    |_=>none
   |_=>none
 | none=>none
def xZ(P:Program)(L:WgLink)(gb:Nat)(a:aF):Bool:=
 a.ret && a.dk && a.round.isNone && (match P.funcs[a.fn]? with|some fn=>fn.results.size == 0|none=>false) && match a.defers with
   | [⟨.fn (.func f) cap,args⟩]=>f == L.done && cap.size == 0 && jB 3 (.tuple args) (.tuple #[.pointer (some ⟨gb,0,none⟩)])
   |_=>false
def xy(P:Program)(L:WgLink)(gb nt:Nat)(a:aF):Bool:=match nJ nt a with
 | some a'=>xZ P L gb a'
 | none=>false
def Iy(P:Program)(L:WgLink)(gb cb nt:Nat)(s:AS):Option (Option Value):=match s.cs with
 | []=>match opAt s with
   |some o=>match o.op with
    | .send c x=>match af s.fr.tmps c with
     | .chan (some b)=>if b == cb && s.fr.round.isNone && fD 9 (af s.fr.tmps x) then match au P s.fr s.h undef with
       |some a=>if xy P L gb nt a then some (some (af s.fr.tmps x)) else none
       |none=>none
      else none
     |_=>none
    |_=>none
   |none=>match s.fr.todo with
    | .drawn .. :: _=>none
    |_=>if xy P L gb nt s.fr then some none else none
 | _=>none
def CE(P:Program)(s:AS):Option AS:=match opAt s with
 | some o=>match o.op with
   | .defer c=>match c.callee with
    | .value x=>match af s.fr.tmps x with
     | .func fn first cap=>if s.fr.round.isNone then match au P { s.fr with defers:={ target:=.fn fn cap,args:=first ++ c.args.map (af s.fr.tmps) } :: s.fr.defers } s.h undef with
       |some a=>some ⟨a,s.cs,s.h⟩
       |none=>none
      else none
     |_=>none
    |_=>none
   |_=>none
 | none=>none
def Q4(P:Program)(pl:bz)(L:WgLink)(gb cb rH nw nt:Nat)(s:AS):Option (Option Value):=match jG P pl rH s with
 | some (.go s₁)=>match CE P s₁ with
   |some s₂=>match jG P pl nw s₂ with
    |some (.go s₃)=>Iy P L gb cb nt s₃
    |_=>none
   |none=>none
 | _=>none
def xGo(P:Program)(pl:bz)(L:WgLink)(gb cb rH nw nt:Nat)(s:AS):Option (Option Value×AS):=match opAt s with
 | some o=>match o.op with
   | .go c=>match c.callee with
    | .value x=>match af s.fr.tmps x with
     | .func (.func fid) first cap=>if bV P fid && s.fr.round.isNone then
       match Q4 P pl L gb cb rH nw nt ⟨{ aF.enter P fid ((first ++ c.args.map (af s.fr.tmps)) ++ cap) with dk:=true },[],s.h.shared⟩ with
       |some v=>match tK P s s.h.shared undef with
        |some s'=>some (v,s')
        |none=>none
       |none=>none
      else none
     |_=>none
    |_=>none
   |_=>none
 | none=>none
def qO(P:Program)(pl:bz)(L:WgLink)(gb cb Q5:Nat):List (Nat×Nat×Nat×Nat×Nat)→AS→Option (List (Option Value)×AS)
 | [],s=>match jG P pl Q5 s with
   |some (.go s₁)=>match AV P L.wait #[.pointer (some ⟨gb,0,none⟩)] s₁ with
    |some s'=>some ([],s')
    |none=>none
   |_=>none
 | (n₁,n₂,rH,nw,nt) :: hs,s=>match jG P pl n₁ s with
   |some (.go s₁)=>match AV P L.add #[.pointer (some ⟨gb,0,none⟩),.int .i64 1] s₁ with
    |some s₂=>match jG P pl n₂ s₂ with
     |some (.go s₃)=>match xGo P pl L gb cb rH nw nt s₃ with
      |some (v,s₄)=>match qO P pl L gb cb Q5 hs s₄ with
       |some (vs,s')=>some (v :: vs,s')
       |none=>none
      |none=>none
     |_=>none
    |none=>none
   |_=>none
def CG(P:Program)(cb:Nat)(s:AS):Option AS:=match opAt s with
 | some o=>match o.op with
   | .call c=>match c.callee,c.args.toList with
    | .builtin .close,[x]=>match af s.fr.tmps x with
     | .chan (some b)=>if b == cb && !(P.funcs[s.fr.fn]?).any (·.norace) then tK P s s.h (.tuple #[]) else none
     |_=>none
    |_,_=>none
   |_=>none
 | none=>none
def yc(P:Program)(cb:Nat)(v:Option Value)(s:AS):Option AS:=match opAt s with
 | some o=>match o.op with
   | .recv ty x true=>match af s.fr.tmps x,P.underlying ty with
    | .chan (some b),some (.chan _ elem)=>match zeroOf P elem with
     |some z=>if b == cb && fD 9 z then match v with
       |some v=>if fD 9 v then tK P s s.h (.tuple #[v,.bool true]) else none
       |none=>tK P s s.h (.tuple #[z,.bool false])
      else none
     |none=>none
    |_,_=>none
   |_=>none
 | none=>none
section
variable{P:Program}{s s':AS}{o:Oper}{L:WgLink}{cap cb gb nt nw rH:Nat}{pl:bz}{a a':aF}{v:Option Value}
theorem fF(h:opAt s=some o):s.fr.ret=false∧∃ops i l k,s.fr.todo = .region ops (i :: l) :: k∧ops[i]? = some o∧Region.wanted o (yielded ops s.fr.tmps)=true∧bf o=true:=by
 unfold opAt at h
 split at h
 · rename_i ops i l k hr ht
   split at h
   ·rename_i o' ho
    split at h
    ·rename_i hc
     cases h
     rw [Bool.and_eq_true] at hc
     exact ⟨hr,ops,i,l,k,ht,ho,hc.1,hc.2⟩
    ·cases h
   ·cases h
 · cases h
theorem gB{h:AH}{v:Value}(e:tK P s h v=some s'):∃a',au P s.fr h v=some a' ∧ s' = ⟨a',s.cs,h⟩:=by
 unfold tK at e
 split at e
 · rename_i a ha;cases e;exact ⟨a,ha,rfl⟩
 · cases e
theorem Iz{a b:Array Value}(h:jB 3 (.tuple a) (.tuple b)=true):a=b:=by
 have:=iq _ _ _ h
 cases this
 rfl
theorem aaj{a b:Array Value}(h:jB 3 (.agg a) (.agg b)=true):a=b:=by
 have:=iq _ _ _ h
 cases this
 rfl
theorem JS(h:LK P s=some (cap,s')):QZ P cap s s' :=by
 unfold LK at h
 split at h
 · rename_i o ho
   obtain ⟨h1,ops,i,l,k,h2,h3,h4,h5⟩:=fF ho
   split at h
   ·rename_i t sz hop
    split at h
    ·rename_i kd n dir elem he hu
     split at h
     ·rename_i inf hi
      split at h
      ·rename_i hc
       simp only [Bool.and_eq_true,decide_eq_true_eq,Option.isNone_iff_eq_none] at hc
       split at h
       ·rename_i s₁ hf
        cases h
        obtain ⟨a',h6,h7⟩:=gB hf
        exact ⟨h1,ops,i,l,k,o,t,sz,kd,n,dir,elem,inf,a',h2,h3,h4,h5,hop,he,hu,hi,hc.1,rfl,hc.2,h6,h7⟩
       ·cases h
      ·cases h
     ·cases h
    ·cases h
   ·cases h
 · cases h
theorem IA(h:CB P L s=some s'):JR P L s s' :=by
 unfold CB at h
 split at h
 · rename_i o ho
   obtain ⟨h1,ops,i,l,k,h2,h3,h4,h5⟩:=fF ho
   split at h
   ·rename_i t hop
    split at h
    ·rename_i z hz
     split at h
     ·rename_i hc
      simp only [Bool.and_eq_true,beq_iff_eq,Option.isNone_iff_eq_none] at hc
      obtain ⟨⟨rfl,hl⟩,hcells⟩:=hc
      obtain ⟨a',h6,h7⟩:=gB h
      exact ⟨h1,ops,i,l,k,o,z,a',h2,h3,h4,hop,hz,aaj hcells,hl,h6,h7⟩
     ·cases h
    ·cases h
   ·cases h
 · cases h
theorem nK{fid:FuncId}{args:Array Value}(h:AV P fid args s=some s'):Ip P fid args s s' :=by
 unfold AV at h
 split at h
 · rename_i o ho
   obtain ⟨h1,ops,i,l,k,h2,h3,h4,h5⟩:=fF ho
   split at h
   ·rename_i c hop
    split at h
    ·rename_i f hf
     split at h
     ·rename_i hc
      simp only [Bool.and_eq_true,beq_iff_eq,Option.isNone_iff_eq_none] at hc
      obtain ⟨⟨rfl,hr⟩,ha⟩:=hc
      obtain ⟨a',h6,h7⟩:=gB h
      obtain ⟨callee,as,ats⟩:=c
      dsimp only at hf
      subst hf
      exact ⟨h1,hr,ops,i,l,k,o,as,ats,a',h2,h3,h4,h5,hop,Iz ha,h6,h7⟩
     ·cases h
    ·cases h
   ·cases h
 · cases h
theorem zW{gb:Nat}(h:xZ P L gb a=true):lX P L gb a∧a.round=none:=by
 unfold xZ at h
 simp only [Bool.and_eq_true,Option.isNone_iff_eq_none] at h
 obtain ⟨⟨⟨⟨h1,h2⟩,h3⟩,h4⟩,h5⟩:=h
 refine ⟨⟨h1,h2,?_,?_⟩,h3⟩
 · split at h4
   ·rename_i fn hfn
    exact ⟨fn,hfn,Array.eq_empty_of_size_eq_zero (by simpa using h4)⟩
   ·cases h4
 · split at h5
   ·rename_i f cap args hd
    simp only [Bool.and_eq_true,beq_iff_eq] at h5
    obtain ⟨⟨rfl,hc⟩,ha⟩:=h5
    rw [hd,Iz ha,Array.eq_empty_of_size_eq_zero hc]
   ·cases h5
theorem tN{gb:Nat}(h:xy P L gb nt a=true):∃a',nJ nt a=some a' ∧ lX P L gb a' ∧ a'.round=none:=by
 unfold xy at h
 split at h
 · rename_i a' ha
   obtain ⟨h1,h2⟩:=zW h
   exact ⟨a',ha,h1,h2⟩
 · cases h
theorem yf{gb cb:Nat}(h:Iy P L gb cb nt s=some v):Au P L gb cb v s:=by
 unfold Iy at h
 split at h
 · rename_i hcs
   split at h
   ·rename_i o ho
    obtain ⟨h1,ops,i,l,k,h2,h3,h4,h5⟩:=fF ho
    split at h
    ·rename_i c x hop
     split at h
     ·rename_i b hb
      split at h
      ·rename_i hc
       simp only [Bool.and_eq_true,beq_iff_eq,Option.isNone_iff_eq_none] at hc
       obtain ⟨⟨rfl,hr⟩,hp⟩:=hc
       split at h
       ·rename_i a ha
        split at h
        ·rename_i hq
         cases h
         obtain ⟨a'',q1,q2,q3⟩:=tN hq
         exact ⟨hcs,h1,hr,dG hp,ops,i,l,k,o,c,x,a,nt,a'',h2,h3,h4,h5,hop,hb,rfl,ha,q1,q2,q3⟩
        ·cases h
       ·cases h
      ·cases h
     ·cases h
    ·cases h
   ·split at h
    ·cases h
    ·rename_i hnd
     split at h
     ·rename_i hq
      cases h
      obtain ⟨a'',q1,q2,q3⟩:=tN hq
      exact ⟨hcs,fun ops l k e=>hnd ops l k e,nt,a'',q1,q2,q3⟩
     ·cases h
 · cases h
theorem wz(h:CE P s=some s'):JL P s s' :=by
 unfold CE at h
 split at h
 · rename_i o ho
   obtain ⟨h1,ops,i,l,k,h2,h3,h4,h5⟩:=fF ho
   split at h
   ·rename_i c hop
    split at h
    ·rename_i x hx
     split at h
     ·rename_i fn first cap hf
      split at h
      ·rename_i hr
       split at h
       ·rename_i a ha
        cases h
        exact ⟨h1,by simpa using hr,ops,i,l,k,o,c,x,fn,first,cap,a,h2,h3,h4,h5,hop,hx,hf,ha,rfl⟩
       ·cases h
      ·cases h
     ·cases h
    ·cases h
   ·cases h
 · cases h
theorem JU{gb cb:Nat}(h:Q4 P pl L gb cb rH nw nt s=some v):AA P pl L gb cb v s:=by
 unfold Q4 at h
 split at h
 · rename_i s₁ h₁
   split at h
   ·rename_i s₂ h₂
    split at h
    ·rename_i s₃ h₃
     exact bZ rH h₁ (.here (.inr ⟨s₂,wz h₂,bZ nw h₃ (.here (yf h))⟩))
    ·cases h
   ·cases h
 · cases h
theorem Q7{gb cb:Nat}(h:xGo P pl L gb cb rH nw nt s=some (v,s')):AGo P pl L gb cb v s s' :=by
 unfold xGo at h
 split at h
 · rename_i o ho
   obtain ⟨h1,ops,i,l,k,h2,h3,h4,h5⟩:=fF ho
   split at h
   ·rename_i c hop
    split at h
    ·rename_i x hx
     split at h
     ·rename_i fid first cap hf
      split at h
      ·rename_i hc
       simp only [Bool.and_eq_true,Option.isNone_iff_eq_none] at hc
       split at h
       ·rename_i v' hv
        split at h
        ·rename_i s₂ hfin
         cases h
         obtain ⟨a',h6,h7⟩:=gB hfin
         exact ⟨h1,hc.2,ops,i,l,k,o,c,x,fid,first,cap,a',h2,h3,h4,h5,hop,hx,hf,hc.1,JU hv,h6,h7⟩
        ·cases h
       ·cases h
      ·cases h
     ·cases h
    ·cases h
   ·cases h
 · cases h
theorem tV{gb cb Q5:Nat}:∀(hs:List (Nat×Nat×Nat×Nat×Nat)) {s:AS} {vs:List (Option Value)} {s':AS},qO P pl L gb cb Q5 hs s=some (vs,s')→kX P pl L gb cb (· = s') vs s
 | [],s,vs,s',h=>by
   unfold qO at h
   split at h
   ·rename_i s₁ hr
    split at h
    ·rename_i s₂ hc
     cases h
     exact bZ Q5 hr (.here ⟨s',nK hc,rfl⟩)
    ·cases h
   ·cases h
 | (n₁,n₂,rH,nw,nt) :: hs,s,vs,s',h=>by
   unfold qO at h
   split at h
   ·rename_i s₁ Q8
    split at h
    ·rename_i s₂ hc
     split at h
     ·rename_i s₃ hr₂
      split at h
      ·rename_i v s₄ hg
       split at h
       ·rename_i vs' s'' hx
        cases h
        exact bZ n₁ Q8 (.here ⟨s₂,nK hc,bZ n₂ hr₂ (.here ⟨s₄,Q7 hg,tV hs hx⟩)⟩)
       ·cases h
      ·cases h
     ·cases h
    ·cases h
   ·cases h
theorem IB{cb:Nat}(h:CG P cb s=some s'):Q3 P cb s s' :=by
 unfold CG at h
 split at h
 · rename_i o ho
   obtain ⟨h1,ops,i,l,k,h2,h3,h4,h5⟩:=fF ho
   split at h
   ·rename_i c hop
    split at h
    ·rename_i x UR hargs
     split at h
     ·rename_i b hb
      split at h
      ·rename_i hc
       simp only [Bool.and_eq_true,beq_iff_eq,Bool.not_eq_true'] at hc
       obtain ⟨rfl,hq⟩:=hc
       obtain ⟨a',h6,h7⟩:=gB h
       obtain ⟨callee,as,ats⟩:=c
       dsimp only at UR hargs
       subst UR
       have has:as = #[x]:=by
        apply Array.ext'
        exact hargs
       subst has
       exact ⟨h1,ops,i,l,k,o,x,ats,a',h2,h3,h4,h5,hop,hb,hq,h6,h7⟩
      ·cases h
     ·cases h
    ·cases h
   ·cases h
 · cases h
theorem yg{cb:Nat}(h:yc P cb v s=some s'):∃u,Zn P cb u v.isSome s s' ∧ ∀x,v=some x→u=x:=by
 unfold yc at h
 split at h
 · rename_i o ho
   obtain ⟨h1,ops,i,l,k,h2,h3,h4,h5⟩:=fF ho
   split at h
   ·rename_i ty x hop
    split at h
    ·rename_i b dir elem hb hu
     split at h
     ·rename_i z hz
      split at h
      ·rename_i hc
       simp only [Bool.and_eq_true,beq_iff_eq] at hc
       obtain ⟨rfl,hp⟩:=hc
       split at h
       ·rename_i v
        split at h
        ·rename_i hv
         obtain ⟨a',h6,h7⟩:=gB h
         exact ⟨v,⟨h1,ops,i,l,k,o,x,ty,dir,elem,z,a',h2,h3,h4,h5,hop,hb,hu,hz,dG hp,(fun e=>by cases e),dG hv,h6,h7⟩,fun x e=>by cases e;rfl⟩
        ·cases h
       ·obtain ⟨a',h6,h7⟩:=gB h
        exact ⟨z,⟨h1,ops,i,l,k,o,x,ty,dir,elem,z,a',h2,h3,h4,h5,hop,hb,hu,hz,dG hp,fun _=>rfl,dG hp,h6,h7⟩,fun x e=>by cases e⟩
      ·cases h
     ·cases h
    ·cases h
   ·cases h
 · cases h
end
end Go.Am
namespace Go.Am
open Go.Conc (born QuitsD G scase rcase)
open Go.Conc.Lib
open Go.ConcR (WgAt)
open Go.Ren (grow fM aO az Wk fH Idle ag X0 XS XM Lv jh fQ rF je hearing lH uT iJ M1 Anch Spawns kV At aA Keep full Own jv Fr uV)
def eH(h:AH):List Nat→Tr bg
 | []=>.nil
 | b :: l=>match h.look b with
   |some B=>(eH h l).set b B
   |none=>eH h l
def Q9(t:Tr bg)(f b:Nat):Bool:=match t.get b with
 | some B=>B.dQ == some f
 | none=>false
def dU(h:AH)(t:Tr bg):List Nat→Tr (List Nat)
 | []=>.nil
 | b :: l=>match h.look b with
   |some B=>match B.dQ with
    |some f=>match h.dH.get f with
     |some bl=>(dU h t l).set f (bl.filter (Q9 t f))
     |none=>dU h t l
    |none=>dU h t l
   |none=>dU h t l
def AH.forget(l:List Nat)(h:AH):AH:=⟨h.n,eH h l,dU h (eH h l) l⟩
theorem gG{h:AH}:∀(l:List Nat) {b:Nat} {B:bg},(eH h l).get b=some B→h.look b=some B
 | [],b,B,e=>by cases e
 | c :: l,b,B,e=>by
   unfold eH at e
   split at e
   ·rename_i C hC
    rw [Tr.dN] at e
    split at e
    ·rename_i hb;subst hb;cases e;exact hC
    ·exact gG l e
   ·exact gG l e
theorem eP{h:AH}{t:Tr bg}:∀(l:List Nat) {f:Nat} {m:List Nat},(dU h t l).get f=some m→∃bl,h.dH.get f=some bl∧m=bl.filter (Q9 t f)
 | [],f,m,e=>by cases e
 | c :: l,f,m,e=>by
   unfold dU at e
   split at e
   ·split at e
    ·split at e
     ·rename_i bl hbl
      rw [Tr.dN] at e
      split at e
      ·rename_i hb;subst hb;cases e;exact ⟨bl,hbl,rfl⟩
      ·exact eP l e
     ·exact eP l e
    ·exact eP l e
   ·exact eP l e
section
variable{P:Program}{ρ σ:Env}{O O' D:Nat→Prop}{F W U Z Z':Nat→Prop}{N:Nat}{h h':AH}{w w' w₀:World}{mm:Bool}{base cs:List Frame}{a a':aF}{f:Frame}{lo hi:Nat}{ops:Array Oper}{i:Nat}{o:Oper}{s s' s₀:AS}{pl:bz}{g g':Goroutine}
 {L:WgLink} {wg ch gb cb j cap:Nat} {buf:List Value} {cl:Bool} {R:AS→Prop} {bJ:Machine→Outcome→World→Trace→Prop} {m:Machine} {t:Trace}
theorem IC{l:List Nat}{b:Nat}{B:bg}(e:(h.forget l).look b=some B):h.look b=some B:=gG l (fB e)
theorem Rel.forget(l:List Nat)(r:Rel ρ O D h w):Rel ρ O D (h.forget l) w:=by
 refine r.sub (Nat.le_refl _) (fun b B e=>⟨B,IC e,rfl,rfl,rfl,fun x=>⟨x,id⟩,id⟩) (fun b B e=>⟨B,fB (gG l e),rfl⟩) (fun f m e=>?_) fun f m b e hb=>?_
 · obtain ⟨bl,h1,rfl⟩:=eP l e
   exact ⟨bl,h1,List.filter_sublist⟩
 · obtain ⟨bl,h1,rfl⟩:=eP l e
   have:=(List.mem_filter.1 hb).2
   unfold Q9 at this
   split at this
   ·rename_i B hB
    exact ⟨B,hB,by simpa using this⟩
   ·cases this
def aX(a:aF):Bool:=match a.todo with
 | .drawn .. :: _=>false
 | _=>true
theorem lV.forget{D:Nat→Prop}(l:List Nat)(S:lV P ρ O D base s g w)(hd:aX s.fr=true):lV P ρ O D base ⟨s.fr,s.cs,s.h.forget l⟩ g w:=by
 obtain ⟨⟨lo,f,cs,h1,h2,h3,h4⟩,rel⟩:=S
 refine ⟨⟨lo,f,cs,h1,h2,.plain (h3.f0 fun ops l k e=>?_),h4⟩,rel.forget l⟩
 unfold aX at hd
 rw [e] at hd
 cases hd
theorem Sd.forget(l:List Nat)(S:Sd P base F w₀ W U Z N ρ s g w m t)(hd:aX s.fr=true):Sd P base F w₀ W U Z N ρ ⟨s.fr,s.cs,s.h.forget l⟩ g w m t:=
 ⟨⟨S.st.at_,S.st.QJ.forget l hd,S.st.lt⟩,S.wu,S.fz,S.JD,S.keep⟩
def Rf(a b:MapEntry):Bool:=jB 9 a.key b.key && jB 9 a.val b.val && a.born == b.born
def xA:List MapEntry→List MapEntry→Bool
 | [],[]=>true
 | a :: l,b :: m=>Rf a b && xA l m
 | _,_=>false
def CJ:Obj→Obj→Bool
 | .cells c e f,.cells c' e' f'=>jB 9 (.agg c) (.agg c') && e == e' && f == f'
 | .map es k,.map es' k'=>xA es.toList es'.toList && k == k'
 | _,_=>false
def CO:Option bg→Option bg→Bool
 | none,none=>true
 | some A,some B=>CJ A.obj B.obj && A.dQ == B.dQ && A.ro == B.ro && A.u == B.u
 | _,_=>false
def agree(h h':AH):List Nat→Bool
 | []=>h.n == h'.n
 | b :: l=>CO (h.look b) (h'.look b) && (match h.look b with
   |some B=>match B.dQ with
    |some f=>h.dH.get f == h'.dH.get f
    |none=>true
   |none=>true) && agree h h' l
theorem yh:∀ {l m:List MapEntry},xA l m=true→l=m
 | [],[],_=>rfl
 | a :: l,b :: m,h=>by
   unfold xA at h
   rw [Bool.and_eq_true] at h
   obtain ⟨h1,h2⟩:=h
   unfold Rf at h1
   simp only [Bool.and_eq_true,beq_iff_eq] at h1
   obtain ⟨⟨k1,k2⟩,k3⟩:=h1
   obtain ⟨ak,av,ab⟩:=a
   obtain ⟨bk,bv,bb⟩:=b
   rw [yh h2]
   have e1:=iq _ _ _ k1
   have e2:=iq _ _ _ k2
   dsimp only at e1 e2 k3
   subst e1 e2 k3
   rfl
 | [],_ :: _,h=>by cases h
 | _ :: _,[],h=>by cases h
theorem AX{a b:Obj}(h:CJ a b=true):a=b:=by
 unfold CJ at h
 split at h
 · simp only [Bool.and_eq_true,beq_iff_eq] at h
   obtain ⟨⟨h1,rfl⟩,rfl⟩:=h
   have:=iq _ _ _ h1
   cases this
   rfl
 · simp only [Bool.and_eq_true,beq_iff_eq] at h
   obtain ⟨h1,rfl⟩:=h
   rw [Array.ext' (yh h1)]
 · cases h
theorem yj{a b:Option bg}(h:CO a b=true):a=b:=by
 unfold CO at h
 split at h
 · rfl
 · rename_i A B
   simp only [Bool.and_eq_true,beq_iff_eq] at h
   obtain ⟨⟨⟨h1,h2⟩,h3⟩,h4⟩:=h
   obtain ⟨a1,a2,a3,a4⟩:=A
   obtain ⟨b1,b2,b3,b4⟩:=B
   have:=AX h1
   dsimp only at this h2 h3 h4
   subst this h2 h3 h4
   rfl
 · cases h
theorem xB:∀ {l:List Nat},agree h h' l=true→h.n=h'.n
 | [],e=>by unfold agree at e;simpa using e
 | b :: l,e=>by unfold agree at e;simp only [Bool.and_eq_true] at e;exact xB e.2
theorem IE:∀ {l:List Nat},agree h h' l=true→eH h l=eH h' l
 | [],e=>rfl
 | b :: l,e=>by
   unfold agree at e
   simp only [Bool.and_eq_true] at e
   unfold eH
   rw [yj e.1.1,IE e.2]
theorem nM{t:Tr bg}:∀ {l:List Nat},agree h h' l=true→dU h t l=dU h' t l
 | [],e=>rfl
 | b :: l,e=>by
   unfold agree at e
   simp only [Bool.and_eq_true] at e
   obtain ⟨⟨e1,e2⟩,e3⟩:=e
   have e4:=yj e1
   unfold dU
   rw [←e4]
   cases hb:h.look b with
   |none=>exact nM e3
   |some B=>
    rw [hb] at e2
    dsimp only at e2 ⊢
    cases hf:B.dQ with
    |none=>exact nM e3
    |some f=>
     rw [hf] at e2
     dsimp only at e2 ⊢
     rw [beq_iff_eq] at e2
     rw [e2,nM e3]
theorem tX{l:List Nat}(e:agree h h' l=true):h.forget l=h'.forget l:=by
 unfold AH.forget
 rw [xB e,IE e,nM e]
def inserts{α:Type}(x:α):List α→List (List α)
 | []=>[[x]]
 | y :: l=>(x :: y :: l) :: (inserts x l).map (y :: ·)
def perms{α:Type}:List α→List (List α)
 | []=>[[]]
 | x :: l=>(perms l).flatMap (inserts x)
theorem wB{α:Type}(x:α):∀(a b:List α),(a ++ x :: b)∈inserts x (a ++ b)
 | [],[]=>by simp [inserts]
 | [],y :: b=>by simp [inserts]
 | y :: a,b=>by
   simp only [List.cons_append,inserts,List.mem_cons,List.mem_map]
   exact .inr ⟨_,wB x a b,rfl⟩
theorem AY{α:Type}:∀ {l b:List α},b.Perm l→b∈perms l
 | [],b,h=>by simp [perms,h.eq_nil]
 | x :: l,b,h=>by
   obtain ⟨p,q,rfl⟩:=List.append_of_mem (h.symm.subset (List.mem_cons_self))
   have h':(p ++ q).Perm l:=by
    have:=(List.perm_middle (a:=x) (l₁:=p) (l₂:=q)).symm.trans h
    exact (List.perm_cons x).1 this
   simp only [perms,List.mem_flatMap]
   exact ⟨_,AY h',wB x p q⟩
def wide(X:List aF)(s:AS):AS:=⟨s.fr,s.cs ++ X,s.h⟩
variable{c:aF}{cs':List aF}
theorem lI:∀(n:Nat) {s s':AS},jG P pl n s=some (.go s')→jG P pl n (wide (c :: cs') s)=some (.go (wide (c :: cs') s'))
 | 0,s,s',e=>by cases e;rfl
 | n+1,s,s',e=>by
   unfold jG at e ⊢
   have hu:ax P pl none (wide (c :: cs') s)=(ax P pl none s).bind (Go.Am.under P c cs'):=oZ
   rw [hu]
   split at e
   ·rename_i s₁ h₁
    rw [h₁]
    exact lI n e
   ·rename_i hr
    exact absurd e (hr s')
theorem o7{v:Value}(ha:au P c h v=some a):∀(n:Nat) {s:AS},jG P pl n s=some (.ret v h)→bn P pl (· = ⟨a,cs',h⟩) (wide (c :: cs') s)
 | 0,s,e=>by cases e
 | n+1,s,e=>by
   unfold jG at e
   have hu:ax P pl none (wide (c :: cs') s)=(ax P pl none s).bind (Go.Am.under P c cs'):=oZ
   split at e
   ·rename_i s₁ h₁
    rw [h₁] at hu
    exact .one hu (o7 ha n e)
   ·rw [e] at hu
    have:ax P pl none (wide (c :: cs') s)=some (.go ⟨a,cs',h⟩):=by rw [hu];simp [Option.bind,Go.Am.under,ha]
    exact .one this (.here rfl)
theorem wC{v:Option Value}{X:List aF}(e:yc P cb v s=some s'):yc P cb v (wide X s)=some (wide X s'):=by
 have hf:∀u,tK P (wide X s) (wide X s).h u=(tK P s s.h u).map (wide X):=fun u=>by
   unfold tK wide
   dsimp only
   cases au P s.fr s.h u<;>rfl
 have ho:opAt (wide X s)=opAt s:=rfl
 unfold yc at e ⊢
 rw [ho]
 cases h1:opAt s with
 | none=>rw [h1] at e;cases e
 | some o=>
   rw [h1] at e
   dsimp only at e ⊢
   split at e
   ·rename_i ty x hop
    rw [show (wide X s).fr=s.fr from rfl]
    split at e
    ·rename_i b dir elem hb hu
     split at e
     ·rename_i z hz
      split at e
      ·rename_i hc
       first|rw [if_pos hc] | skip
       split at e
       ·split at e
        ·rename_i hv
         first|rw [if_pos hv] | skip
         rw [hf,e];rfl
        ·cases e
       ·rw [hf,e];rfl
      ·cases e
     ·cases e
    ·cases e
   ·cases e
end
end Go.Am
namespace Go.Am
open Go.Conc (born QuitsD G scase rcase)
open Go.Conc.Lib
open Go.ConcR (WgAt)
open Go.Ren (grow fM aO az Wk fH Idle ag X0 XS XM Lv jh fQ rF je hearing lH uT iJ M1 Anch Spawns kV At aA Keep full Own jv Fr uV)
inductive Ph where
 | idle
 | chan (cb cap:Nat)
 | ready (cb cap gb:Nat)
 | joined (cb cap:Nat) (vs:List Value)
 | closed (cb cap:Nat) (vs:List Value)
inductive In where
 | run (n:Nat)
 | make
 | group
 | spawns (Q5:Nat) (hs:List (Nat×Nat×Nat×Nat×Nat))
 | close
 | drain (hs:List (List Nat)) (l:List Nat)
 | forget (l:List Nat)
def drain(P:Program)(pl:bz)(cb:Nat):List Nat→List Value→AS→Option (Value×AH)
 | n :: ns,v :: buf,s=>match jG P pl n s with
   |some (.go s₁)=>match yc P cb (some v) s₁ with
    |some s₂=>drain P pl cb ns buf s₂
    |none=>none
   |_=>none
 | n :: ns,[],s=>match jG P pl n s with
   |some (.go s₁)=>match yc P cb none s₁ with
    |some s₂=>match jG P pl (ns.headD 0) s₂ with
     |some (.ret v h)=>some (v,h)
     |_=>none
    |none=>none
   |_=>none
 | [],_,_=>none
def drains(P:Program)(pl:bz)(cb:Nat)(s:AS):List (List Nat)→List (List Value)→Option (List (Value×AH))
 | [],[]=>some []
 | h :: hs,b :: bs=>match drain P pl cb h b s with
   |some x=>match drains P pl cb s hs bs with
    |some l=>some (x :: l)
    |none=>none
   |none=>none
 | _,_=>none
def merge(P:Program)(c:aF)(cs:List aF)(l:List Nat):List (Value×AH)→Option AS
 | []=>none
 | (v,h) :: r=>match au P c h v with
   |some a=>if aX a && aX c && r.all (fun x=>jB 9 x.1 v && agree h x.2 l) then some ⟨a,cs,h.forget l⟩ else none
   |none=>none
def Zo(P:Program)(pl:bz)(L:WgLink):In→Ph→AS→Option (Ph×AS)
 | .run n,ph,s=>match jG P pl n s with
   |some (.go s')=>some (ph,s')
   |_=>none
 | .make,.idle,s=>match LK P s with
   |some (cap,s')=>some (.chan s.h.n cap,s')
   |none=>none
 | .group,.chan cb cap,s=>match CB P L s with
   |some s'=>some (.ready cb cap s.h.n,s')
   |none=>none
 | .spawns Q5 hs,.ready cb cap gb,s=>match qO P pl L gb cb Q5 hs s with
   |some (all,s')=>if decide (all.length≤cap∧all.length < 2147483647) then some (.joined cb cap (all.filterMap id),s') else none
   |none=>none
 | .close,.joined cb cap vs,s=>match CG P cb s with
   |some s'=>some (.closed cb cap vs,s')
   |none=>none
 | .drain hs l,.closed cb cap vs,s=>match s.cs with
   |c :: cs=>match drains P pl cb ⟨s.fr,[],s.h⟩ hs (perms vs) with
    |some r=>match merge P c cs l r with
     |some s'=>some (.idle,s')
     |none=>none
    |none=>none
   | []=>none
 | .forget l,ph,s=>if aX s.fr then some (ph,⟨s.fr,s.cs,s.h.forget l⟩) else none
 | _,_,_=>none
def uX(P:Program)(pl:bz)(L:WgLink):List In→Ph→AS→Option (Ph×AS)
 | [],ph,s=>some (ph,s)
 | i :: is,ph,s=>match Zo P pl L i ph s with
   |some (CP,s')=>uX P pl L is CP s'
   |none=>none
section
variable{P:Program}{ρ σ:Env}{O O' D:Nat→Prop}{F W U Z Z':Nat→Prop}{N:Nat}{h h':AH}{w w' w₀:World}{mm:Bool}{base cs:List Frame}{a a':aF}{f:Frame}{lo hi:Nat}{ops:Array Oper}{i:Nat}{o:Oper}{s s' s₀:AS}{pl:bz}{g g':Goroutine}
 {L:WgLink} {wg ch gb cb j cap:Nat} {buf:List Value} {cl:Bool} {R:AS→Prop} {bJ:Machine→Outcome→World→Trace→Prop} {m:Machine} {t:Trace} {c:aF} {cs':List aF}
def Ph.Holds(L:WgLink)(F W U Z:Nat→Prop)(ρ:Env)(w:World):Ph→Prop
 | .idle=>True
 | .chan cb cap=>∃ch,U ch∧JE F W Z ρ w cb cap [] false ch
 | .ready cb cap gb=>∃ch wg,U ch∧U wg∧wg≠ch∧Z wg∧ρ.born gb∧ρ.to gb=(wg,0)∧WgAt L.tWg wg w 0 0∧JE F W Z ρ w cb cap [] false ch
 | .joined cb cap vs=>(U=fun _=>False)∧∃ch buf,buf.Perm vs∧JE F W Z ρ w cb cap buf false ch
 | .closed cb cap vs=>(U=fun _=>False)∧∃ch buf,buf.Perm vs∧JE F W Z ρ w cb cap buf true ch
theorem Ph.Holds.step{ph:Ph}(k:ph.Holds L F W U Z ρ w)(hle:ρ.Le σ)(hk:Keep Z w w'):ph.Holds L F W U Z σ w' :=by
 cases ph with
 | idle=>trivial
 | chan cb cap=>obtain ⟨ch,h1,h2⟩:=k;exact ⟨ch,h1,h2.step hle hk fun b hb=>hb⟩
 | ready cb cap gb=>
   obtain ⟨ch,wg,h1,h2,h3,h4,h5,h6,h7,h8⟩:=k
   exact ⟨ch,wg,h1,h2,h3,h4,hle.born _ h5,(hle.to _ h5).trans h6,(hk.1 wg h4).trans h7,h8.step hle hk fun b hb=>hb⟩
 | joined cb cap vs=>obtain ⟨h0,ch,buf,h1,h2⟩:=k;exact ⟨h0,ch,buf,h1,h2.step hle hk fun b hb=>hb⟩
 | closed cb cap vs=>obtain ⟨h0,ch,buf,h1,h2⟩:=k;exact ⟨h0,ch,buf,h1,h2.step hle hk fun b hb=>hb⟩
def aJ(P:Program)(L:WgLink)(base:List Frame)(F:Nat→Prop)(w₀:World)(ph:Ph)(s:AS)(m:Machine)(t:Trace):Prop:=
 ∃(W U Z:Nat→Prop) (N:Nat) (ρ:Env) (g:Goroutine) (w:World),Sd P base F w₀ W U Z N ρ s g w m t∧ph.Holds L F W U Z ρ w
theorem aJ.reach[aI P]{ph:Ph}(S:aJ P L base F w₀ ph s m t)(k:bn P pl (· = s') s):aA P bJ (aJ P L base F w₀ ph s') m t:=by
 obtain ⟨W,U,Z,N,ρ,g,w,S,hp⟩:=S
 refine (S.reach k).mono ?_
 rintro m t ⟨σ,s₁,g',w',rfl,h1,h2,h3⟩
 exact ⟨W,U,Z,N,σ,g',w',h2,hp.step h1 h3⟩
theorem aJ.forget(l:List Nat){ph:Ph}(S:aJ P L base F w₀ ph s m t)(hd:aX s.fr=true):aJ P L base F w₀ ph ⟨s.fr,s.cs,s.h.forget l⟩ m t:=by
 obtain ⟨W,U,Z,N,ρ,g,w,S,hp⟩:=S
 exact ⟨W,U,Z,N,ρ,g,w,S.forget l hd,hp⟩
theorem wE[aI P]:∀(ns:List Nat) {buf:List Value} {s:AS} {v:Value} {h:AH} {W Z:Nat→Prop} {N:Nat} {ρ:Env} {g:Goroutine} {w:World} {m:Machine} {t:Trace},drain P pl cb ns buf s=some (v,h)→au P c h v=some a →
   Sd P base F w₀ W (fun _=>False) Z N ρ (wide (c :: cs') s) g w m t→JE F W Z ρ w cb cap buf true ch→aA P bJ (aJ P L base F w₀ .idle ⟨a,cs',h⟩) m t
 | n :: ns,u :: buf,s,v,h,W,Z,N,ρ,g,w,m,t,e,ha,S,hc=>by
   unfold drain at e
   split at e
   ·rename_i s₁ h₁
    split at e
    ·rename_i s₂ h₂
     refine (S.reach (bZ n (lI (cs' :=cs') n h₁) (.here rfl))).bind ?_
     rintro m t ⟨σ,s₃,g',w',rfl,k1,k2,k3⟩
     obtain ⟨u',hr,hu⟩:=yg (wC (X:=c :: cs') h₂)
     have:=hu u rfl
     subst this
     refine (k2.recv (buf' :=buf) (hc.step k1 k3 fun b hb=>hb) (.inl ⟨rfl,rfl⟩) hr).bind ?_
     rintro m t ⟨τ,g'',w'',j1,j2,j3⟩
     exact wE ns e ha j2 j3
    ·cases e
   ·cases e
 | n :: ns,[],s,v,h,W,Z,N,ρ,g,w,m,t,e,ha,S,hc=>by
   unfold drain at e
   split at e
   ·rename_i s₁ h₁
    split at e
    ·rename_i s₂ h₂
     split at e
     ·rename_i v' h' h₃
      cases e
      refine (S.reach (bZ n (lI (cs' :=cs') n h₁) (.here rfl))).bind ?_
      rintro m t ⟨σ,s₃,g',w',rfl,k1,k2,k3⟩
      obtain ⟨u',hr,hu⟩:=yg (wC (X:=c :: cs') h₂)
      refine (k2.recv (buf' :=[]) (hc.step k1 k3 fun b hb=>hb) (.inr ⟨rfl,rfl,rfl,rfl⟩) hr).bind ?_
      rintro m t ⟨τ,g'',w'',j1,j2,j3⟩
      refine (j2.reach (o7 ha _ h₃)).mono ?_
      rintro m t ⟨υ,s₄,g₃,w₃,rfl,q1,q2,q3⟩
      exact ⟨_,_,_,_,_,_,_,q2,trivial⟩
     ·cases e
    ·cases e
   ·cases e
 | [],_,_,_,_,_,_,_,_,_,_,_,_,e,_,_,_=>by unfold drain at e;cases e
theorem wF:∀ {hs:List (List Nat)} {bs:List (List Value)} {r:List (Value×AH)},drains P pl cb s hs bs=some r→∀b∈bs,∃ns x,x∈r∧drain P pl cb ns b s=some x
 | [],[],r,e,b,hb=>by cases hb
 | h :: hs,b :: bs,r,e,b',hb=>by
   unfold drains at e
   split at e
   ·rename_i x hx
    split at e
    ·rename_i l hl
     cases e
     rcases List.mem_cons.1 hb with rfl|hb
     ·exact ⟨h,x,List.mem_cons_self,hx⟩
     ·obtain ⟨ns,y,h1,h2⟩:=wF hl b' hb
      exact ⟨ns,y,List.mem_cons_of_mem _ h1,h2⟩
    ·cases e
   ·cases e
 | [],_ :: _,_,e,_,_=>by unfold drains at e;cases e
 | _ :: _,[],_,e,_,_=>by unfold drains at e;cases e
theorem zX{h h':AH}{v:Value}(hd:aX c=true):au P c h v=au P c h' v:=by
 unfold aX at hd
 unfold au
 split at hd
 · cases hd
 · rename_i hn
   split<;>first|rfl|skip
   rename_i ht
   exact absurd ht (hn _ _ _)
theorem rY{l:List Nat}{r:List (Value×AH)}(e:merge P c cs' l r=some s'):∀x∈r,∃a,au P c x.2 x.1=some a∧aX a=true∧s' = ⟨a,cs',x.2.forget l⟩:=by
 cases r with
 | nil=>cases e
 | cons y r=>
   obtain ⟨v,h⟩:=y
   unfold merge at e
   dsimp only at e
   split at e
   ·rename_i a ha
    split at e
    ·rename_i hc
     cases e
     simp only [Bool.and_eq_true,List.all_eq_true] at hc
     obtain ⟨⟨h1,h2⟩,h3⟩:=hc
     intro x hx
     rcases List.mem_cons.1 hx with rfl|hx
     ·exact ⟨a,ha,h1,rfl⟩
     ·obtain ⟨e1,e2⟩:=h3 x hx
      have e3:=iq _ _ _ e1
      refine ⟨a,?_,h1,?_⟩
      ·rw [e3,zX (h' :=h) h2]
       exact ha
      ·rw [tX e2]
    ·cases e
   ·cases e
theorem IG[aI P](H:xY P L){x:In}{ph CP:Ph}(e:Zo P pl L x ph s=some (CP,s'))(S:aJ P L base F w₀ ph s m t):aA P bJ (aJ P L base F w₀ CP s') m t:=by
 cases x with
 | run n=>
   replace e:(match jG P pl n s with
    |some (.go s')=>some (ph,s')
    |_=>none)=some (CP,s'):=by cases ph<;>exact e
   split at e
   ·rename_i s₁ h₁
    cases e
    exact S.reach (bZ n h₁ (.here rfl))
   ·cases e
 | make=>
   cases ph with
   |idle=>
    replace e:(match LK P s with
     |some (cap,s')=>some (Ph.chan s.h.n cap,s')
     |none=>none)=some (CP,s'):=e
    split at e
    ·rename_i cap s₁ h₁
     cases e
     obtain ⟨W,U,Z,N,ρ,g,w,S,hp⟩:=S
     refine (S.make (JS h₁)).mono ?_
     rintro m t ⟨σ,g',w',ch,k1,k2,k3,k4⟩
     exact ⟨_,_,_,_,_,_,_,k2,ch,.inr rfl,k4⟩
    ·cases e
   |_=>cases e
 | group=>
   cases ph with
   |chan cb cap=>
    replace e:(match CB P L s with
     |some s'=>some (Ph.ready cb cap s.h.n,s')
     |none=>none)=some (CP,s'):=e
    split at e
    ·rename_i s₁ h₁
     cases e
     obtain ⟨W,U,Z,N,ρ,g,w,S,ch,hU,hc⟩:=S
     refine (S.group (IA h₁)).mono ?_
     rintro m t ⟨σ,g',w',wg,k1,k2,k3,k4,k5,k6,k7⟩
     exact ⟨_,_,_,_,_,_,_,k2,ch,wg,.inl hU,.inr rfl,fun e=>k7 ch hc.z e.symm,.inr rfl,k4,k5,k6,hc.step k1 k3 fun b hb=>.inl hb⟩
    ·cases e
   |_=>cases e
 | spawns Q5 hs=>
   cases ph with
   |ready cb cap gb=>
    replace e:(match qO P pl L gb cb Q5 hs s with
     |some (all,s')=>if decide (all.length≤cap∧all.length < 2147483647) then some (Ph.joined cb cap (all.filterMap id),s') else none
     |none=>none)=some (CP,s'):=e
    split at e
    ·rename_i all s₁ h₁
     split at e
     ·rename_i hc
      cases e
      simp only [decide_eq_true_eq] at hc
      obtain ⟨W,U,Z,N,ρ,g,w,S,ch,wg,h1,h2,h3,h4,h5,h6,h7,h8⟩:=S
      refine (S.phase H h1 h2 h3 ⟨h5,h6⟩ h7 h8 hc.1 hc.2 (tV hs h₁)).mono ?_
      rintro m t ⟨σ,s₂,g',w',W',Z',N',buf,rfl,k1,k2,k3,k4⟩
      exact ⟨_,_,_,_,_,_,_,k2,rfl,ch,buf,k3,k4⟩
     ·cases e
    ·cases e
   |_=>cases e
 | close=>
   cases ph with
   |joined cb cap vs=>
    replace e:(match CG P cb s with
     |some s'=>some (Ph.closed cb cap vs,s')
     |none=>none)=some (CP,s'):=e
    split at e
    ·rename_i s₁ h₁
     cases e
     obtain ⟨W,U,Z,N,ρ,g,w,S,rfl,ch,buf,hb,hc⟩:=S
     refine (S.close hc (IB h₁)).mono ?_
     rintro m t ⟨σ,g',w',k1,k2,k3⟩
     exact ⟨_,_,_,_,_,_,_,k2,rfl,ch,buf,hb,k3⟩
    ·cases e
   |_=>cases e
 | drain hs l=>
   cases ph with
   |closed cb cap vs=>
    replace e:(match s.cs with
     |c :: cs=>match drains P pl cb ⟨s.fr,[],s.h⟩ hs (perms vs) with
      |some r=>match merge P c cs l r with
       |some s'=>some (Ph.idle,s')
       |none=>none
      |none=>none
     | []=>none)=some (CP,s'):=e
    split at e
    ·rename_i c cs' hcs
     split at e
     ·rename_i r hr
      split at e
      ·rename_i s₁ hm
       cases e
       obtain ⟨W,U,Z,N,ρ,g,w,S,rfl,ch,buf,hb,hc⟩:=S
       obtain ⟨ns,x,hx,hd⟩:=wF hr buf (AY hb)
       obtain ⟨a,h1,h2,h3⟩:=rY hm x hx
       subst h3
       have S':Sd P base F w₀ W (fun _=>False) Z N ρ (wide (c :: cs') ⟨s.fr,[],s.h⟩) g w m t:=by
        obtain ⟨fr,ss,hh⟩:=s
        dsimp only at hcs
        subst hcs
        exact S
       refine (wE (L:=L) ns hd h1 S' hc).mono ?_
       intro m t st
       exact st.forget l h2
      ·cases e
     ·cases e
    ·cases e
   |_=>cases e
 | forget l=>
   replace e:(if aX s.fr then some (ph,(⟨s.fr,s.cs,s.h.forget l⟩:AS)) else none)=some (CP,s'):=by cases ph<;>exact e
   split at e
   ·rename_i hd
    cases e
    exact .here (S.forget l hd)
   ·cases e
theorem yl[aI P](H:xY P L):∀(is:List In) {ph CP:Ph} {s s':AS} {m:Machine} {t:Trace},uX P pl L is ph s=some (CP,s')→aJ P L base F w₀ ph s m t→aA P bJ (aJ P L base F w₀ CP s') m t
 | [],ph,CP,s,s',m,t,e,S=>by cases e;exact .here S
 | i :: is,ph,CP,s,s',m,t,e,S=>by
   unfold uX at e
   split at e
   ·rename_i afZ s₁ h₁
    exact (IG H h₁ S).bind fun m t S'=>yl H is e S'
   ·cases e
def Back(P:Program)(b:Frame)(bs:List Frame)(F:Nat→Prop)(w₀:World)(v:Value)(m:Machine)(t:Trace):Prop:=
 ∃(W U Z:Nat→Prop) (N:Nat) (w:World),At P W U Z N 0 (cO (b.finish v) bs) w m t∧(∀x,W x∨U x→Z x)∧(∀x,F x→Z x)∧(∀x,F x→¬(W x∨U x))∧Keep F w₀ w∧∀x,Z x→x < w.heap.size
end
end Go.Am
namespace Go.Am
open Go.Conc (born QuitsD G scase rcase)
open Go.Conc.Lib
open Go.ConcR (WgAt)
open Go.Ren (grow fM aO az Wk fH Idle ag X0 XS XM Lv jh fQ rF je hearing lH uT iJ M1 Anch Spawns kV At aA Keep full Own jv Fr uV)
section
variable{P:Program}{ρ σ:Env}{O O' D:Nat→Prop}{F W U Z Z':Nat→Prop}{N:Nat}{h h':AH}{w w' w₀:World}{mm:Bool}{base cs:List Frame}{a a':aF}{f:Frame}{lo hi:Nat}{ops:Array Oper}{i:Nat}{o:Oper}{s s' s₀:AS}{pl:bz}{g g':Goroutine}
 {L:WgLink} {wg ch gb cb j cap:Nat} {buf:List Value} {cl:Bool} {R:AS→Prop} {bJ:Machine→Outcome→World→Trace→Prop} {m:Machine} {t:Trace} {c:aF} {cs':List aF} {fid:FuncId} {v:Value}
structure Rh(P:Program)(fid:FuncId)(v:Value)(s s':AS):Prop where
 run:s.fr.ret=false
 round:s.fr.round=none
 at_:∃ops i l k o ats a',s.fr.todo = .region ops (i :: l) :: k∧ops[i]? = some o∧Region.wanted o (yielded ops s.fr.tmps)=true∧bf o=true∧o.op = .call { callee:=.value (.func fid),args:=#[],argTypes:=ats } ∧
   au P s.fr s.h v=some a' ∧ s' = ⟨a',s.cs,s.h⟩
theorem JV(O D:Nat→Prop)(base:List Frame)(w:World):lV P zT O D base ⟨aF.enter P fid #[],[],h0⟩ (cO (Frame.enter P fid #[] .normal) base) w:=
 ⟨⟨0,_,[],Nat.le_refl _,rfl,.plain (xw fid ⟨rfl,fun i u v hu hv=>by simp at hu⟩),.nil⟩,aak _ _ _⟩
end
end Go.Am
namespace Go.Am
noncomputable section
def nth{α:Type}:List α→Nat→Option α:=fun l=>List.rec (fun _=>none) (fun x _ ih n=>Nat.rec (some x) (fun n _=>ih n) n) l
def rep(v:Value)(n:Nat):List Value:=Nat.rec [] (fun _ ih=>v :: ih) n
def app(l m:List Value):List Value:=List.rec m (fun x _ ih=>x :: ih) l
structure Ctx where
 fn:FuncId
 defers:List Deferred
 round:Option Nat
 dk:Bool
 cs:List aF
def mk(todo:List aK)(c:Ctx)(tmps:List Value)(h:AH):AS:=⟨⟨c.fn,⟨tmps⟩,todo,c.defers,false,c.round,c.dk⟩,c.cs,h⟩
abbrev K:=Ctx→List Value→AH→Option AS
def kGo(todo:List aK):K:=fun c tmps h=>some (mk todo c tmps h)
def LM:K:=fun _ _ _=>none
def Ri(P:Program)(f:FuncId)(args:List Value)(fn:Func)(c:Ctx)(todo:List aK)(tmps:List Value)(h:AH):Option AS:=
 some ⟨⟨f,⟨app args (rep undef (fn.ntmps - args.length))⟩,[.code (fn.body.getD (.refuse "unsupported: a function without a Go body is entered"))],[],false,none,false⟩,⟨c.fn,⟨tmps⟩,todo,c.defers,false,c.round,c.dk⟩ :: c.cs,h⟩
def CQ(P:Program)(f:FuncId)(args:Array Value)(c:Ctx)(todo:List aK)(tmps:List Value)(h:AH):Option AS:=
 Option.rec none (fun fn=>Ri P f args.toList fn c todo tmps h) P.funcs[f]?
def Rj(a b:K)(x:Operand):K:=fun c tmps h=>match x with
 | .tmp t=>match nth tmps t with
   |some (.bool v)=>Bool.rec (b c tmps h) (a c tmps h) v
   |_=>none
 | _=>none
def LP(P:Program)(pl:bz)(s:AS)(ih:AS→Option uY):Option uY:=match ax P pl none s with
 | some (.go s)=>ih s
 | r=>r
end
end Go.Am
namespace Go.Am
section
variable{P:Program}{h h':AH}
theorem UT{α β:Type}(s:Sem α)(f:α→Sem β):∀(h:AH) {x:α} {h':AH},s.ar P none h=some (x,h')→(s.bind f).ar P none h=(f x).ar P none h' :=by
 induction s with
 | pure a=>intro h x h' e;cases e;rfl
 | load m a k ih=>
   intro h x h' e
   simp only [Sem.bind]
   rw [Sem.ar.eq_def] at e
   conv=>lhs;rw [Sem.ar.eq_def]
   dsimp only at e ⊢
   generalize h.cell a=q at e ⊢
   cases q with
   |none=>cases e
   |some v=>
    cases m with
    |plain=>exact ih v _ e
    |atomic=>cases e
 | store m a v k ih=>
   intro h x h' e
   cases v<;>cases m<;>simp only [Sem.bind,Sem.ar] at e ⊢<;>first|(cases e;done)|skip
   all_goals
    split at e
    ·exact ih _ e
    ·cases e
 | new o k ih=>
   intro h x h' e
   simp only [Sem.bind,Sem.ar] at e ⊢
   split at e<;>first|(cases e;done)|exact ih _ _ e
 | shape r k ih=>
   intro h x h' e
   simp only [Sem.bind,Sem.ar] at e ⊢
   split at e<;>first|(cases e;done)|exact ih _ _ e
 | getObj r k ih=>
   intro h x h' e
   simp only [Sem.bind,Sem.ar] at e ⊢
   split at e<;>first|(cases e;done)|exact ih _ _ e
 | setObj r o k ih=>
   intro h x h' e
   simp only [Sem.bind,Sem.ar] at e ⊢
   split at e
   ·cases e
   ·cases e
   ·rename_i B _ hnc hq
    split at e
    ·cases e
    ·rename_i hro
     rw [if_neg hro]
     exact ih _ e
   ·cases e
 | choose q k ih=>
   intro h x h' e
   rw [Sem.ar.eq_def] at e
   simp only [Sem.bind]
   conv=>lhs;rw [Sem.ar.eq_def]
   dsimp only at e ⊢
   split at e
   ·rename_i hq;rw [if_pos hq];exact ih _ _ e
   ·cases q<;>cases e
 | program k ih=>intro h x h' e;simp only [Sem.bind,Sem.ar] at e ⊢;exact ih _ _ e
 | _=>intro h x h' e;cases e
theorem jH{α β:Type}{s:Sem α}{f:α→Sem β}{x:α}(e:s.ar P none h=some (x,h')):(s >>= f).ar P none h=(f x).ar P none h' :=UT s f h e
theorem Rk{α:Type}(a:α):(pure a:Sem α).ar P none h=some (a,h):=rfl
theorem LQ{t:TypeId}{d:TypeInfo}(e:P.info? t=some d):(typeInfo t).ar P none h=some (d,h):=by
 show (match P.info? t with|some d=>_|none=>_:Sem TypeInfo).ar P none h=_
 rw [e]
 rfl
theorem UU{t:TypeId}{d:TypeInfo}(e:P.info? t=some d):(sizeOf t).ar P none h=some (d.size,h):=by
 unfold sizeOf
 rw [jH (LQ e)]
 rfl
theorem UW{t:TypeId}{z:Value}(e:zeroOf P t=some z):(zeroValue t).ar P none h=some (z,h):=by
 unfold zeroOf at e
 cases hi:P.info? t with
 | none=>rw [hi] at e;cases e
 | some i=>
   rw [hi] at e
   have e':i.zero=some z:=e
   unfold zeroValue
   rw [jH (LQ hi),e']
   rfl
theorem UX{α β:Type}(s:Sem α)(f:α→Sem β):∀ {x:α},s.fC P h=some x→(s.bind f).fC P h=(f x).fC P h:=by
 induction s with
 | pure a=>intro x e;cases e;rfl
 | load m a k ih=>
   intro x e
   simp only [Sem.bind]
   rw [Sem.fC.eq_def] at e
   conv=>lhs;rw [Sem.fC.eq_def]
   dsimp only at e ⊢
   generalize h.cell a=q at e ⊢
   cases q with
   |none=>cases e
   |some v=>
    cases m with
    |plain=>exact ih v e
    |atomic=>cases e
 | shape r k ih=>
   intro x e
   simp only [Sem.bind,Sem.fC] at e ⊢
   split at e<;>first|(cases e;done)|exact ih _ e
 | getObj r k ih=>
   intro x e
   simp only [Sem.bind,Sem.fC] at e ⊢
   split at e<;>first|(cases e;done)|exact ih _ e
 | choose q k ih=>
   intro x e
   simp only [Sem.bind,Sem.fC] at e ⊢
   split at e
   ·rename_i hq;rw [if_pos hq];exact ih _ e
   ·cases e
 | program k ih=>intro x e;simp only [Sem.bind,Sem.fC] at e ⊢;exact ih _ e
 | _=>intro x e;cases e
theorem aV{α β:Type}{s:Sem α}{f:α→Sem β}{x:α}(e:s.fC P h=some x):(s >>= f).fC P h=(f x).fC P h:=UX s f e
theorem l7{α:Type}(a:α):(pure a:Sem α).fC P h=some a:=rfl
theorem fV{t:TypeId}{d:TypeDesc}(e:P.underlying t=some d):(underlying t).fC P h=some d:=by
 show (match P.underlying t with|some d=>_|none=>_:Sem TypeDesc).fC P h=_
 rw [e]
 rfl
theorem LU{t:TypeId}{d:TypeInfo}(e:P.info? t=some d):(typeInfo t).fC P h=some d:=by
 show (match P.info? t with|some d=>_|none=>_:Sem TypeInfo).fC P h=_
 rw [e]
 rfl
theorem qP{t:TypeId}{d:TypeInfo}(e:P.info? t=some d):(sizeOf t).fC P h=some d.size:=by
 unfold sizeOf
 rw [aV (LU e)]
 rfl
theorem UY{t:TypeId}{z:Value}(e:zeroOf P t=some z):(zeroValue t).fC P h=some z:=by
 unfold zeroOf at e
 cases hi:P.info? t with
 | none=>rw [hi] at e;cases e
 | some i=>
   rw [hi] at e
   have e':i.zero=some z:=e
   unfold zeroValue
   rw [aV (LU hi),e']
   rfl
end
end Go.Am
namespace Go.Am
structure TI where
 size:Nat
 und:TypeDesc
 zero:Option Value
 places:List (Nat×Nat)
noncomputable section
def Rl(T:Tr TI)(h:AH)(t:Nat):Option (Value×AH):=match T.get t with
 | some ⟨_,_,some z,_⟩=>some (.pointer (some ⟨h.n,0,none⟩),h.new (.cells z.cells t (0,0)))
 | _=>none
def ack(h:AH)(t:Nat)(x:Option Value):Option (Value×AH):=match x with
 | some v=>some (.pointer (some ⟨h.n,0,none⟩),h.new (.cells v.cells t (0,0)))
 | none=>none
def sV(tmps:List Value)(x:Operand):Option Value:=match x with
 | .tmp t=>nth tmps t
 | .const v=>bif fD 9 v then some v else none
 | .func f=>some (.func (.func f) #[] #[])
 | .global _=>none
def uZ(d:TypeDesc):Bool:=match d with
 | .struct _ | .array _ _=>true
 | _=>false
def LV:Nat→List Value→Option (List Value):=fun n=>Nat.rec (fun _=>some []) (fun _ ih l=>match l with
 | x :: l=>match ih l with
   |some m=>some (x :: m)
   |none=>none
 | []=>none) n
def Rn:Nat→List Value→List Value:=fun n=>Nat.rec (fun l=>l) (fun _ ih l=>ih l.tail) n
def LW(tmps:List Value)(h:AH)(x:Operand):Option Value:=match sV tmps x with
 | some v=>some v
 | none=>none
def Ro(T:Tr TI)(h:AH)(s f:Nat)(v:Option Value):Option Value:=match v with
 | some (.pointer (some a))=>match T.get s with
   |some ⟨_,.struct fields,_,_⟩=>match nth fields.toList f with
    |some fd=>match T.get fd.type with
     |some ⟨sz,_,_,_⟩=>bif Nat.beq sz 0 then none else some (.pointer (some (a.add fd.offset)))
     |none=>none
    |none=>none
   |_=>none
 | _=>none
def LX(h:AH)(a:Addr):Option Value:=match a,h.look a.block with
 | ⟨_,off,none⟩,some ⟨.cells c _ _,_,_,_⟩=>nth c.toList off
 | _,_=>none
def aal(h:AH)(a:Addr)(n:Nat):Option Value:=match a,h.look a.block with
 | ⟨_,off,none⟩,some ⟨.cells c _ _,_,_,_⟩=>match LV n (Rn off c.toList) with
   |some l=>some (.agg ⟨l⟩)
   |none=>none
 | _,_=>none
def Zq(T:Tr TI)(h:AH)(t:Nat)(v:Option Value):Option Value:=match v with
 | some (.pointer (some a))=>match T.get t with
   |some ⟨sz,d,_,_⟩=>match bif uZ d then aal h a sz else LX h a with
    |some v=>some v
    |none=>none
   |none=>none
 | _=>none
def acm(op:BinOp)(k:IntKind)(a b:Int):Option Value:=match op with
 | .add=>some (.int k (k.wrap (a+b)))
 | .sub=>some (.int k (k.wrap (a - b)))
 | .eql=>some (.bool (decide (a=b)))
 | .neq=>some (.bool (decide (a≠b)))
 | .lss=>some (.bool (decide (a < b)))
 | .leq=>some (.bool (decide (a≤b)))
 | .gtr=>some (.bool (decide (a > b)))
 | .geq=>some (.bool (decide (a≥b)))
 | _=>none
def acn(h:AH)(op:BinOp)(x y:Option Value):Option Value:=match x,y with
 | some (.int k a),some (.int k' b)=>if k=k' then match acm op k a b with
   |some v=>some v
   |none=>none else none
 | _,_=>none
def aco(h:AH)(x:Option Value):Option Value:=match x with
 | some (.bool b)=>some (.bool (!b))
 | _=>none
def II(h:AH)(i:Nat)(x:Option Value):Option Value:=match x with
 | some (.tuple vs)=>match nth vs.toList i with
   |some v=>some v
   |none=>none
 | _=>none
def Zr(h:AH)(c a b:Option Value):Option Value:=match c with
 | some (.bool t)=>match a,b with
   |some u,some v=>some (bif t then u else v)
   |_,_=>none
 | _=>none
def Rq(T:Tr TI)(h:AH)(t:Nat)(x i:Option Value):Option Value:=match x,i with
 | some (.slice (some a) len _),some (.int k n)=>match T.get t with
   |some ⟨_,.slice e,_,_⟩=>match T.get e with
    |some ⟨sz,_,_,_⟩=>if 0≤n∧n < len then some (.pointer (some (a.add (n.toNat * sz)))) else none
    |none=>none
   |_=>none
 | some (.pointer (some a)),some (.int k n)=>match T.get t with
   |some ⟨_,.array len e,_,_⟩=>match T.get e with
    |some ⟨sz,_,_,_⟩=>if 0≤n∧n < len then some (.pointer (some (a.add (n.toNat * sz)))) else none
    |none=>none
   |_=>none
 | _,_=>none
def acp(h:AH)(x:Option Value):Option Value:=match x with
 | some (.slice _ n _)=>some (.int .i64 n)
 | _=>none
def oM{β:Type}(v:Value)(l:List Value):Nat→(List Value→β)→β:=
 List.rec (fun _ k=>k []) (fun x l ih n k=>Nat.rec (k (v :: l)) (fun n _=>ih n fun l'=>k (x :: l')) n) l
def rZ(v:Value):List Value:=match v with
 | .agg c=>c.toList
 | v=>[v]
def UZ{β:Type}(vs:List Value):Nat→List Value→(List Value→β)→β:=
 List.rec (fun _ cells k=>k cells) (fun v _ ih off cells k=>oM v cells off fun cells=>ih (off+1) cells k) vs
def Rt(pl:List (Nat×Nat))(tmps:List Value)(ps:List (Nat×Operand)):List Value→Option Value:=
 List.rec (fun cells=>some (.agg ⟨cells⟩)) (fun p _ ih cells=>match sV tmps p.2 with
   |some v=>match nth pl p.1 with
    |some q=>bif Nat.beq (rZ v).length q.2 && Nat.ble (q.1+q.2) cells.length then UZ (rZ v) q.1 cells ih else none
    |none=>none
   |none=>none) ps
def Ru(T:Tr TI)(tmps:List Value)(t:Nat)(ps:List (Nat×Operand)):Option Value:=match T.get t with
 | some ⟨_,.struct _,some z,pl⟩=>Rt pl tmps ps z.cells.toList
 | _=>none
def fast(T:Tr TI)(tmps:List Value)(h:AH)(op:Op):Option Value:=match op with
 | .move x=>LW tmps h x
 | .assign x=>LW tmps h x
 | .fieldAddr s x f=>Ro T h s f (sV tmps x)
 | .load t x=>Zq T h t (sV tmps x)
 | .binOp op _ x y _=>acn h op (sV tmps x) (sV tmps y)
 | .unOp .not _ x=>aco h (sV tmps x)
 | .extract x i=>II h i (sV tmps x)
 | .pick c a b=>Zr h (sV tmps c) (sV tmps a) (sV tmps b)
 | .indexAddr t x i=>Rq T h t (sV tmps x) (sV tmps i)
 | .build t ps=>Ru T tmps t ps.toList
 | .call ⟨.builtin .len,args,ats⟩=>match args.toList with
   | [x]=>match ats.toList with
    |t :: _=>match T.get t with
     |some ⟨_,.slice _,_,_⟩=>acp h (sV tmps x)
     |_=>none
    | []=>none
   |_=>none
 | _=>none
end
structure dA(P:Program)(T:Tr TI):Prop where
 get:∀t i,T.get t=some i→P.underlying t=some i.und∧(∃d,P.info? t=some d∧d.size=i.size)∧zeroOf P t=i.zero∧∀fields,i.und = .struct fields→fields.toList.map (fun f=>(f.offset,P.cellsOf f.type))=i.places∧∀f∈fields.toList,∃d,P.info? f.type=some d
section
variable{P:Program}{T:Tr TI}{tmps:List Value}{h h':AH}{o:Oper}{v:Value}{x:Operand}
theorem gU{α:Type}:∀(l:List α) (n:Nat),nth l n=l[n]?
 | [],n=>by simp [nth]
 | x :: l,0=>rfl
 | x :: l,n+1=>by
   have:=gU l n
   show nth l n=_
   simp [this]
theorem jP{α:Type}(l:List α)(n:Nat):nth l n=(Array.mk l)[n]? :=by rw [gU];simp
theorem yu(l:List Value)(t:Nat)(e:nth l t=some v):(Array.mk l).getD t undef=v:=by
 rw [jP] at e
 simp [Array.getD_eq_getD_getElem?,e]
def okX(x:Operand):Bool:=match x with
 | .const v=>fD 9 v
 | .global _=>false
 | _=>true
theorem jC(e:sV tmps x=some v):af ⟨tmps⟩ x=v∧okX x=true:=by
 unfold sV at e
 cases x with
 | tmp t=>exact ⟨yu _ _ e,rfl⟩
 | const u=>
   dsimp only at e
   cases hp:fD 9 u with
   |false=>rw [hp] at e;cases e
   |true=>rw [hp] at e;cases e;exact ⟨rfl,hp⟩
 | func f=>cases e;exact ⟨rfl,rfl⟩
 | global g=>cases e
theorem qQ(hx:∀x∈o.op.operands,okX x=true):bf o=true:=by
 unfold bf
 rw [List.all_eq_true]
 intro x hm
 have:=hx x (Array.mem_toList_iff.1 hm)
 cases x<;>exact this
theorem fE{s:Sem Value}(hop:∀x∈o.op.operands,okX x=true)(hok:kD P h (af ⟨tmps⟩) o=true)(hs:execOp (af ⟨tmps⟩) o=(s >>= fun v=>Pure.pure (Next.value v)))(hr:s.fC P h=some v) :
   (bf o && kD P h (af ⟨tmps⟩) o)=true∧(execOp (af ⟨tmps⟩) o).fC P h=some (.value v):=by
 refine ⟨by rw [qQ hop,hok];rfl,?_⟩
 rw [hs,aV hr]
 rfl
theorem IJ{s:Sem Value}(hap:bP o=false)(hop:∀x∈o.op.operands,okX x=true)(hok:kD P h (af ⟨tmps⟩) o=true)(hs:execOp (af ⟨tmps⟩) o=(s >>= fun v=>Pure.pure (Next.value v)))(hr:s.ar P none h=some (v,h')) :
   bC P none h ⟨tmps⟩ o=some (.value v,h'):=by
 unfold bC
 rw [hap,qQ hop,hok,hs]
 simp only [Bool.false_eq_true,if_false,Bool.and_self,if_true]
 rw [jH hr]
 rfl
theorem Rw(hap:bP o=false)(hr:(bf o && kD P h (af ⟨tmps⟩) o)=true∧(execOp (af ⟨tmps⟩) o).fC P h=some (.value v)):bC P none h ⟨tmps⟩ o=some (.value v,h):=by
 unfold bC
 rw [hap,hr.1]
 simp only [Bool.false_eq_true,if_false,if_true]
 exact yw _ hr.2
theorem wG(hr:(bf o && kD P h (af ⟨tmps⟩) o)=true∧(execOp (af ⟨tmps⟩) o).fC P h=some (.value v)):fZ P h ⟨tmps⟩ o=some v:=by
 unfold fZ
 rw [hr.1,hr.2]
 rfl
end
end Go.Am
