import Derived.Test.YtghfookpaompmaaGreatH5
set_option linter.unusedVariables false
set_option linter.unusedSectionVars false
set_option linter.unusedSimpArgs false
namespace Go.Am
open Go.Ren (grow EvO Guar Rely)
section
variable{P:Program}{ρ σ:Env}{O D:Nat→Prop}{h h':AH}{w w':World}{X:Event→Prop}{m:Bool}{base:List Frame}
theorem stepG_run{f:Frame}{cs:List Frame}(hm:f.mode = .run):stepG P m (gor f cs) w=stepG.exec P m true f cs none w:=by
 unfold stepG gor
 dsimp only
 rw [hm]
theorem stepG_ret{f:Frame}{cs:List Frame}(hm:f.mode = .returning):stepG P m (gor f cs) w=unwind P m f cs none w:=by
 unfold stepG gor
 dsimp only
 rw [hm]
theorem out_of{α β:Type}{R:Env→α→β→Prop}{s':Sem β}{x:α}(k:Out P X D R ρ O h w s' x h')(fn:FuncId):∃(τ:Env) (y:β) (w':World) (es:Array Event),s'.runT P w #[]=(.ok y w',es)∧Guar X O D w w' (seen P fn es)∧ρ.Le τ∧R τ x y∧Rel τ (grow O w w') D h' w' ∧ h.n≤h'.n∧∀x,x < h.n→τ.born x→ρ.born x:=by
 obtain ⟨τ,y,w',es,h1,h2,h3,h4,h5,h6,h7⟩:=k
 exact ⟨τ,y,w',es,by have:=h1 #[];simpa using this,h5.less (seen_sub fn es),h2,h3,h4,h6,fun x hx hx'=>((h7 x).1 hx').elim id fun y=>by omega⟩
theorem after_go(es:Array Event)(g:Goroutine)(w:World):GStep.after es (.go g w) = .go g w es:=by simp [GStep.after]
theorem leave_sim{s:AS}{f:Frame}{cs:List Frame}{jump:Option Code}{r:Res}{lo:Nat}(hf:F0 ρ s.fr f)(hlo:lo≤s.h.n)(hcs:Stk ρ lo s.cs cs)(rel:Rel ρ O D s.h w)
   (hst:stepG.exec P m true f (cs ++ base) none w=(match f.roundOf with
    |none=>if jump matches none|some .ret then .go (gor { f with mode:=.returning } (cs ++ base)) w else .ended (.stuck "exit, goto: no such block or label" (f.pos P)) w
    |some l=>let (r,es):=(Instr.endRound l jump).runT P w #[]
     GStep.after (seen P f.fn es) (match r with
     | .ok v w=>doReturn P m f (cs ++ base) none v w
     | .halt _ w=>.ended (.stuck "range over a function: no such loop" (f.pos P)) w))) (hb:Has base r) (e:aleave P s jump=some r) (hm:f.mode = .run) :
   Steps1 P m X ρ O D base (gor f (cs ++ base)) w r:=by
 unfold aleave at e
 have hr:=hf.round
 obtain ⟨fn,tmps,todo,defers,mode,kind,ro⟩:=f
 cases har:s.fr.round with
 | none=>
   rw [har] at e hr
   cases ro with
   |some l=>cases hr
   |none=>
    dsimp only at e hst
    have key:(jump=none∨jump=some .ret)→stepG P m (gor ⟨fn,tmps,todo,defers,mode,kind,none⟩ (cs ++ base)) w = .go (gor ⟨fn,tmps,todo,defers,.returning,kind,none⟩ (cs ++ base)) w #[]:=by
     intro hj
     rw [stepG_run hm,hst]
     rcases hj with rfl|rfl<;>rfl
    have fin:(jump=none∨jump=some .ret)→r = .go { s with fr:={ s.fr with ret:=true } }→Steps1 P m X ρ O D base (gor ⟨fn,tmps,todo,defers,mode,kind,none⟩ (cs ++ base)) w r:=by
     intro hj hr'
     subst hr'
     exact ⟨ρ,_,w,#[],key hj,.none w,.refl ρ,⟨⟨lo,_,cs,hlo,rfl,.plain ⟨⟨hf.fn,hf.defers,rfl,hf.kind,by simp only [har];exact .none⟩,hf.tmps,hf.todo⟩,hcs⟩,rel.grow⟩⟩
    split at e
    ·exact fin (.inl rfl) (by cases e;rfl)
    ·exact fin (.inr rfl) (by cases e;rfl)
    ·cases e
 | some l=>
   rw [har] at e hr
   cases hr with
   | @some _ l' hl=>
    dsimp only at e hst
    split at e
    ·rename_i v h₁ har'
     obtain ⟨τ,v',w',es,h1,h2,h3,h4,h5,h8,h9⟩:=out_of (X:=X) ((sr_endRound jump hl).sim0 rel har') fn
     rw [h1] at hst
     dsimp only at hst
     obtain ⟨hdk,e⟩:=aret_dk e
     obtain ⟨g',h6,h7⟩:=doReturn_r (P:=P) (m:=m) (base:=base) (f:=⟨fn,tmps,todo,defers,mode,kind,some l'⟩) (hf.normal hdk) (Nat.le_trans hlo h8) (hcs.mono h3 (fun x hx=>h9 x (by omega)) (Nat.le_refl _)) h4 h5 hb e
     rw [h6,after_go] at hst
     exact ⟨τ,g',w',_,by rw [stepG_run hm,hst],h2,h3,h7⟩
    ·cases e
theorem to_sim{s:AS}{f:Frame}{cs:List Frame}{k:List AItem}{k':List Item}{r:Res}{lo:Nat}(hf:F0 ρ s.fr f)(hlo:lo≤s.h.n)(hcs:Stk ρ lo s.cs cs)(rel:Rel ρ O D s.h w)(hm:f.mode = .run)(e:ato s k=some r)(hk:LR (ItR ρ) k k')
   (hst:stepG.exec P m true f (cs ++ base) none w = .go (gor { f with todo:=k' } (cs ++ base)) w #[]):Steps1 P m X ρ O D base (gor f (cs ++ base)) w r:=by
 simp only [ato,Option.some.injEq] at e
 subst e
 exact ctl (by rw [stepG_run hm,hst]) (hf.withTodo hk) hlo hcs rel
theorem LR.append{α β:Type}{R:α→β→Prop}{l m:List α}{l' m':List β}(h:LR R l l')(k:LR R m m'):LR R (l ++ m) (l' ++ m'):=by
 induction h with
 | nil=>exact k
 | cons h _ ih=>exact .cons h ih
theorem ar_bind_pure{α β:Type}(s:Sem α)(y:β):∀(c:Option Nat) (h:AH) {x:α} {h':AH},s.ar P c h=some (x,h')→(s.bind fun _=>Sem.pure y).ar P c h=some (y,h'):=by
 induction s with
 | pure a=>intro c h x h' e;simp only [Sem.ar,Option.some.injEq,Prod.mk.injEq] at e;obtain ⟨_,rfl⟩:=e;rfl
 | load m a k ih=>
   intro c h x h' e
   simp only [Sem.bind]
   rw [Sem.ar.eq_def] at e ⊢
   dsimp only at e ⊢
   split at e
   ·exact ih _ _ _ e
   ·cases e
 | store m a v k ih=>
   intro c h x h' e
   simp only [Sem.bind]
   cases v<;>cases m<;>simp only [Sem.ar] at e ⊢<;>first|(cases e;done)|skip
   all_goals
    split at e
    ·exact ih _ _ e
    ·cases e
 | new o k ih=>
   intro c h x h' e
   simp only [Sem.bind]
   simp only [Sem.ar] at e ⊢
   split at e<;>first|exact ih _ _ _ e|cases e
 | shape r k ih=>
   intro c h x h' e
   simp only [Sem.bind]
   simp only [Sem.ar] at e ⊢
   split at e
   ·exact ih _ _ _ e
   ·exact ih _ _ _ e
   ·cases e
 | getObj r k ih=>
   intro c h x h' e
   simp only [Sem.bind]
   simp only [Sem.ar] at e ⊢
   split at e
   ·cases e
   ·exact ih _ _ _ e
   ·cases e
 | setObj r o k ih=>
   intro c h x h' e
   simp only [Sem.bind]
   simp only [Sem.ar] at e ⊢
   split at e
   ·cases e
   ·cases e
   ·split at e
    ·cases e
    ·rename_i hro;rw [if_neg hro];exact ih _ _ e
   ·cases e
 | choose q k ih=>
   intro c h x h' e
   simp only [Sem.bind]
   rw [Sem.ar.eq_def] at e ⊢
   dsimp only at e ⊢
   split at e
   ·rename_i hq;first|exact ih _ _ _ e|(rw [if_pos hq];exact ih _ _ _ e)
   ·rename_i hq
    try rw [if_neg hq]
    split at e
    ·exact ih _ _ _ e
    ·cases e
 | program k ih=>intro c h x h' e;exact ih _ _ _ e
 | _=>intro c h x h' e;cases e
theorem ResR.mono{O':Nat→Prop}{r:Res}{g:Goroutine}(k:ResR P ρ O D base r g w)(hO:∀x,O x→O' x):ResR P ρ O' D base r g w:=by
 cases r with
 | go s=>exact ⟨k.run,k.rel.mono hO⟩
 | ret v h=>obtain ⟨b,bs,v',h0,h1,h2,h3⟩:=k;exact ⟨b,bs,v',h0,h1,h2,h3.mono hO⟩
theorem start_fd{ops:Array Oper}{l:List (Nat×List Nat)}{a:AFr}{f:Frame}{lo:Nat}{k:List AItem}{k':List Item}(hp:okPlan ops l=true)(hrun:a.ret=false)(hf:FB ρ a f)(ht:AR (VR ρ) a.tmps f.tmps)(hl:LR (ItR ρ) k k')(t:Nat) :
   FT P ρ lo h { a with todo:=.drawn ops l :: k } { f with todo:=.inRegion ops (Region.schedule true ops t) :: k' }:=by
 unfold okPlan at hp
 simp only [Bool.and_eq_true] at hp
 obtain ⟨⟨h1,h2⟩,h3⟩:=hp
 have hall:∀i,i < ops.size→i∈ix l:=fun i hi=>mem_ix_contains.1 (List.all_eq_true.1 h2 i (by simpa using hi))
 obtain ⟨s1,s2⟩:=schedule_lin (okDrawn_back h1) t
 have hnone:∀i∈Region.schedule true ops t,i∉ix l→False:=fun i hi hn=>hn (hall i ((s2 i).1 hi))
 refine .ahead (ops:=ops) (l:=l) (s:=Region.schedule true ops t) ⟨⟨hf.fn,hf.defers,hf.mode,hf.kind,hf.round⟩,hrun,⟨k,k',rfl,rfl,hl⟩,h1,h3,s1,fun i j hi hn=>absurd ((s2 i).2 hi) hn,fun i hi=>(s2 i).1 hi,fun i hi=>(s2 i).2 (ord_lt h3 i hi),fun i hi hn=>absurd (hall i hi) hn,fun i hi hn=>(hnone i hi hn).elim,ht.1,fun t _=>ht.get t,fun i hi hn=>(hnone i hi hn).elim,fun i hi hn=>(hnone i hi hn).elim⟩ fun i hi hn=>(hnone i hi hn).elim
theorem step_plain[Zeros P]{pl:Plan}{s:AS}{f:Frame}{cs:List Frame}{lo:Nat}(hlo:lo≤s.h.n)(hf:F0 ρ s.fr f)(hcs:Stk ρ lo s.cs cs)(rel:Rel ρ O D s.h w):∃c:Nat,∀r,astep P pl (some c) s=some r→Has base r→Steps1 P m X ρ O D base (gor f (cs ++ base)) w r:=by
 obtain ⟨o,ho⟩:∃o:Option Oper,∀ops i l k,s.fr.todo = .region ops (i :: l) :: k→o=ops[i]? :=by
   by_cases h:∃ops i l k,s.fr.todo = .region ops (i :: l) :: k
   ·obtain ⟨ops,i,l,k,h⟩:=h
    exact ⟨ops[i]?,fun ops' i' l' k' h'=>by rw [h] at h';cases h';rfl⟩
   ·exact ⟨none,fun ops i l k h'=>absurd ⟨ops,i,l,k,h'⟩ h⟩
 obtain ⟨c,hc⟩:∃c:Nat,∀o',o=some o' → ∀ {n:Next} {h':AH},aexec P (some c) s.h s.fr.tmps o' = some (n,h')→Out P X D NR ρ O s.h w (execOp f.eval o') n h' :=by
   cases o with
   |none=>exact ⟨0,fun o' h=>by cases h⟩
   |some o=>
    obtain ⟨c,k⟩:=aexec_out (X:=X) (P:=P) rel (o:=o) (fun hk=>eval_of hf.tmps hk)
    refine ⟨c,fun o' h'=>?_⟩
    cases h'
    intro n h' e
    exact k e
 refine ⟨c,fun r e hb=>?_⟩
 generalize hc₀:c=c₀ at e
 subst hc₀
 unfold astep at e
 have hmode:=hf.mode
 have hround:=hf.round
 have htodo:=hf.todo
 cases hret:s.fr.ret with
 | true=>
   rw [hret] at e hmode
   have hm:f.mode = .returning:=hmode
   dsimp only at e
   unfold aunwind at e
   have hd:=hf.defers
   obtain ⟨fn,tmps,todo,defers,mode,kind,ro⟩:=f
   dsimp only at hd hm
   subst hm
   split at e
   ·rename_i lb args ds hdef
    rw [hdef] at hd
    cases hd with
    | @cons _ d' _ ds' hdd hds=>
     obtain ⟨ht,ha⟩:=hdd
     obtain ⟨tg,args'⟩:=d'
     dsimp only at ht ha
     cases ht with
     | @collected _ lb' hlb=>
      split at e
      ·rename_i calls h₁ hx
       cases e
       obtain ⟨τ,calls',w',es,h1,h2,h3,h4,h5,h8,h9⟩:=out_of (X:=X) ((sr_takeDeferred hlb).sim0 rel hx) fn
       refine ⟨τ,gor ⟨fn,tmps,todo,calls' ++ ds',.returning,kind,ro⟩ (cs ++ base),w',seen P fn es,?_,h2,h3,⟨⟨lo,_,cs,Nat.le_trans hlo h8,rfl,.plain ?_,hcs.mono h3 (fun x hx=>h9 x (by omega)) (Nat.le_refl _)⟩,h5⟩⟩
       ·rw [stepG_ret rfl]
        simp only [unwind,h1]
        rw [after_go]
        rfl
       ·have hf' :=hf.mono h3
        exact ⟨⟨hf'.fn,h4.append (hds.mono fun _ _ x=>x.mono h3),hf'.mode,hf'.kind,hf'.round⟩,hf'.tmps,hf'.todo⟩
      ·cases e
   ·cases e
   ·rename_i hdef
    rw [hdef] at hd
    cases hd
    split at e
    ·cases e
    ·rename_i fd hfd
     split at e
     ·rename_i v h₁ hx
      obtain ⟨τ,v',w',es,h1,h2,h3,h4,h5,h8,h9⟩:=out_of (X:=X) ((sr_results fd hf.tmps).sim0 rel hx) fn
      obtain ⟨hdk,e⟩:=aret_dk e
      obtain ⟨g',h6,h7⟩:=doReturn_r (P:=P) (m:=m) (base:=base) (f:=⟨fn,tmps,todo,[],.returning,kind,ro⟩) (hf.normal hdk) (Nat.le_trans hlo h8) (hcs.mono h3 (fun x hx=>h9 x (by omega)) (Nat.le_refl _)) h4 h5 hb e
      refine ⟨τ,g',w',seen P fn es,?_,h2,h3,h7⟩
      have hfn:fn=s.fr.fn:=hf.fn
      rw [stepG_ret rfl]
      simp only [unwind,hfn,hfd]
      dsimp only at h1
      rw [h1]
      dsimp only
      rw [hfn] at h6
      rw [h6,after_go]
     ·cases e
 | false=>
   rw [hret] at e hmode
   have hm:f.mode = .run:=hmode
   dsimp only at e
   obtain ⟨fn,tmps,todo,defers,mode,kind,ro⟩:=f
   dsimp only at htodo hround hm
   subst hm
   cases ht:s.fr.todo with
   |nil=>
    rw [ht] at e htodo
    cases htodo
    exact leave_sim hf hlo hcs rel (hb:=hb) (by simp only [stepG.exec];cases ro<;>rfl) e rfl
   |cons it k=>
    rw [ht] at e htodo
    cases htodo with
    | @cons _ it' _ k' hi hl=>
     cases hi with
     |inBlock id=>exact to_sim hf hlo hcs rel rfl e hl (by simp only [stepG.exec];rfl)
     |inScope x=>exact to_sim hf hlo hcs rel rfl e hl (by simp only [stepG.exec];rfl)
     |inLoop x=>exact to_sim hf hlo hcs rel rfl e (.cons (.code _) (.cons (.inLoop _) hl)) (by simp only [stepG.exec];rfl)
     |code x=>
      cases x with
      |ret=>exact leave_sim hf hlo hcs rel (hb:=hb) (by simp only [stepG.exec];cases ro<;>rfl) e rfl
      |skip=>exact to_sim hf hlo hcs rel rfl e hl (by simp only [stepG.exec];rfl)
      |label l=>exact to_sim hf hlo hcs rel rfl e hl (by simp only [stepG.exec];rfl)
      |seq x y=>exact to_sim hf hlo hcs rel rfl e (.cons (.code _) (.cons (.code _) hl)) (by simp only [stepG.exec];rfl)
      |block id x=>exact to_sim hf hlo hcs rel rfl e (.cons (.code _) (.cons (.inBlock _) hl)) (by simp only [stepG.exec];rfl)
      |loop x=>exact to_sim hf hlo hcs rel rfl e (.cons (.code _) (.cons (.inLoop _) hl)) (by simp only [stepG.exec];rfl)
      |scope x=>exact to_sim hf hlo hcs rel rfl e (.cons (.code _) (.cons (.inScope _) hl)) (by simp only [stepG.exec];rfl)
      |cond x a b'=>
       dsimp only at e
       split at e
       ·rename_i hk
        have hv:=cond_r hf.tmps hk
        split at e
        ·rename_i t hx
         rw [hx] at hv
         refine to_sim hf hlo hcs rel rfl e (.cons (.code _) hl) ?_
         simp only [stepG.exec]
         generalize Frame.eval _ x=v at hv
         cases hv
         rfl
        ·cases e
       ·cases e
      |exit id=>
       have hx:=exitTo_r hl id
       dsimp only at e
       split at e
       ·rename_i k₁ h₁
        rw [h₁] at hx
        generalize h₂:exitTo id k' = z at hx
        cases hx with
        |some hx=>exact to_sim hf hlo hcs rel rfl e hx (by simp only [stepG.exec,h₂];rfl)
       ·rename_i h₁
        rw [h₁] at hx
        generalize h₂:exitTo id k' = z at hx
        cases hx
        exact leave_sim hf hlo hcs rel (hb:=hb) (by simp only [stepG.exec,h₂];cases ro<;>rfl) e rfl
      |goto l=>
       have hx:=gotoIn_r hl l
       dsimp only at e
       split at e
       ·rename_i k₁ h₁
        rw [h₁] at hx
        generalize h₂:gotoIn l k' = z at hx
        cases hx with
        |some hx=>exact to_sim hf hlo hcs rel rfl e hx (by simp only [stepG.exec,h₂];rfl)
       ·rename_i h₁
        rw [h₁] at hx
        generalize h₂:gotoIn l k' = z at hx
        cases hx
        exact leave_sim hf hlo hcs rel (hb:=hb) (by simp only [stepG.exec,h₂];cases ro<;>rfl) e rfl
      |region id ops d=>
       cases d with
       |true=>
        dsimp only at e
        split at e
        ·rename_i hp
         simp only [Bool.and_eq_true] at hp
         simp only [ato,Option.some.injEq] at e
         subst e
         have hst:stepG P m (gor ⟨fn,tmps,.code (.region id ops true) :: k',defers,.run,kind,ro⟩ (cs ++ base)) w = .go (gor ⟨fn,tmps,.inRegion ops (Region.schedule true ops (w.tape w.drawn (.order fn id))) :: k',defers,.run,kind,ro⟩ (cs ++ base)) { w with drawn:=w.drawn+1 } #[]:=by
          rw [stepG_run rfl]
          simp only [stepG.exec,hp.2]
          rfl
         refine ⟨ρ,_,_,#[],hst,guar_drawn _,.refl ρ,⟨⟨lo,_,cs,hlo,rfl,?_,hcs⟩,(rel.drawn _).mono fun _=>.inl⟩⟩
         exact start_fd ((okPlanF_eq _ _).symm.trans hp.1) hret (f:=⟨fn,tmps,.code (.region id ops true) :: k',defers,.run,kind,ro⟩) (a:=s.fr) ⟨hf.fn,hf.defers,hf.mode,hf.kind,hf.round⟩ hf.tmps hl _
        ·cases e
       |false=>exact to_sim hf hlo hcs rel rfl e (.cons (.region _ _) hl) (by simp only [stepG.exec];rfl)
      |rangeFunc x params assign body=>
       dsimp only at e
       split at e
       ·rename_i hk
        have hv:=cond_r hf.tmps hk
        split at e
        ·rename_i gf first captured hx
         split at e
         ·rename_i lp mark h₁ hen
          obtain ⟨τ,y,w₁,es,h1,h2,h3,h4,h5,h8,h9⟩:=out_of (X:=X) ((sr_enterLoop s.fr.fn hf.tmps params assign body hround).sim0 rel hen) fn
          obtain ⟨lp',mark'⟩:=y
          obtain ⟨hlp,hmark⟩:=h4
          dsimp only at hlp hmark
          have hf' :=hf.mono h3
          have hcs':Stk τ lo s.cs cs:=hcs.mono h3 (fun x hx=>h9 x (by omega)) (Nat.le_refl _)
          have hfF:F0 τ { s.fr with todo:=.inRangeFunc lp :: k,defers:=mark ++ s.fr.defers } ⟨fn,tmps,.inRangeFunc lp' :: k',mark' ++ defers,.run,kind,ro⟩:=
           ⟨⟨hf'.fn,hmark.append hf'.defers,hf'.mode,hf'.kind,hf'.round⟩,hf'.tmps,.cons (.inRangeFunc hlp) (hl.mono fun _ _ z=>z.mono h3)⟩
          rw [hx] at hv
          have hst:stepG P m (gor ⟨fn,tmps,.code (.rangeFunc x params assign body) :: k',defers,.run,kind,ro⟩ (cs ++ base)) w=GStep.after (seen P fn es) (stepG.apply P true ⟨fn,tmps,.inRangeFunc lp' :: k',mark' ++ defers,.run,kind,ro⟩ (cs ++ base) none (do let d ←resolve (Frame.eval ⟨fn,tmps,.code (.rangeFunc x params assign body) :: k',defers,.run,kind,ro⟩) { callee:=.value x,args:=#[.const (.func (.yield lp') #[] #[])],argTypes:=#[] } 0;invoke d.target d.args) w₁):=by
           rw [stepG_run rfl]
           have hfn:s.fr.fn=fn:=hf.fn.symm
           rw [hfn] at h1
           dsimp only at h1
           simp only [stepG.exec,h1]
           rfl
          generalize hfe:Frame.eval ⟨fn,tmps,.code (.rangeFunc x params assign body) :: k',defers,.run,kind,ro⟩ x=v at hv
          cases hv with
          | @func _ _ a₁ a₂ b₁ b₂ hfn hs1 hv1 hs2 hv2=>
           cases hfn
           have hres:(do let d ←resolve (Frame.eval ⟨fn,tmps,.code (.rangeFunc x params assign body) :: k',defers,.run,kind,ro⟩) { callee:=.value x,args:=#[.const (.func (.yield lp') #[] #[])],argTypes:=#[] } 0;invoke d.target d.args:Sem Next)=callFunc gf ((a₂ ++ #[.func (.yield lp') #[] #[]]) ++ b₂):=by
             unfold resolve
             dsimp only
             rw [hfe]
             simp only [List.map_toArray,List.map_cons,List.map_nil]
             rfl
           rw [hres] at hst
           cases har:(callFunc gf ((first ++ #[.func (.yield lp) #[] #[]]) ++ captured)).ar P none h₁ with
           | none=>rw [har] at e;cases e
           | some p=>
             obtain ⟨n,h'⟩:=p
             rw [har] at e
             have hargs:AR (VR τ) ((first ++ #[.func (.yield lp) #[] #[]]) ++ captured) ((a₂ ++ #[.func (.yield lp') #[] #[]]) ++ b₂):=by
              refine AR.append (AR.append ⟨hs1,fun i u v hu hv=>(hv1 i u v hu hv).mono h3⟩ ?_) ⟨hs2,fun i u v hu hv=>(hv2 i u v hu hv).mono h3⟩
              exact AR.empty.push (.func (.yield hlp) rfl (fun i x y h=>by simp at h) rfl (fun i x y h=>by simp at h))
             have k₂:=(sr_callFunc (P:=P) gf hargs).sim0 (X:=X) h5 har
             obtain ⟨υ,g',w',es',i1,i2,i3,i4⟩:=apply_r (base:=base) (.plain hfF) (Nat.le_trans hlo h8) hcs' e k₂
             refine ⟨υ,g',w',seen P fn es ++ es',?_,h2.trans i2,h3.trans i3,i4.mono fun z hz=>Go.Ren.grow_trans hz h2.size i2.size⟩
             rw [hst,i1]
             rfl
         ·cases e
        ·cases e
       ·cases e
      |refuse why=>cases e
     |region ops l=>
      cases l with
      |nil=>exact to_sim hf hlo hcs rel rfl e hl (by simp only [stepG.exec];rfl)
      |cons i l=>
       dsimp only at e
       have ho' :=ho ops i l k ht
       split at e
       ·rename_i o' hoi
        have hoo:o=some o' :=by rw [ho',hoi]
        have hy:=yielded_r (ops:=ops) hf.tmps
        dsimp only at hy
        split at e
        ·rename_i hw
         have hst:stepG P m (gor ⟨fn,tmps,.inRegion ops (i :: l) :: k',defers,.run,kind,ro⟩ (cs ++ base)) w=stepG.apply P true ⟨fn,tmps,.inRegion ops (i :: l) :: k',defers,.run,kind,ro⟩ (cs ++ base) none (execOp (Frame.eval ⟨fn,tmps,.inRegion ops (i :: l) :: k',defers,.run,kind,ro⟩) o') w:=by
          rw [stepG_run rfl]
          simp only [stepG.exec,hoi,Option.map_some,Option.getD_some]
          rw [hy,if_pos hw]
          simp only [stepG.oper,Frame.oper?,hoi]
          have hnd:∀q,o'.op ≠ .defer q:=by
           cases hx:aexec P (some c) s.h s.fr.tmps o' with
           | none=>rw [hx] at e;simp [aapply] at e
           | some p=>exact aexec_nd hx
          split
          ·rename_i hdf;exact absurd hdf (hnd _)
          ·rfl
         cases hx:aexec P (some c) s.h s.fr.tmps o' with
         |none=>rw [hx] at e;simp [aapply] at e
         |some p=>
          obtain ⟨n,h'⟩:=p
          rw [hx] at e
          have k:=hc o' hoo hx
          obtain ⟨τ,g',w',es,h1,h2,h3,h4⟩:=apply_r (X:=X) (.plain hf) hlo hcs e k
          exact ⟨τ,g',w',es,by rw [hst,h1],h2,h3,h4⟩
        ·rename_i hw
         simp only [Option.map_eq_some_iff] at e
         obtain ⟨a',e1,rfl⟩:=e
         refine ctl ?_ (afinish_r hf vr_undef e1) hlo hcs rel
         rw [stepG_run rfl]
         simp only [stepG.exec,hoi,Option.map_some,Option.getD_some]
         rw [hy,if_neg hw]
         rfl
       ·cases e
     |inRangeFunc hl'=>cases e
     | @endRangeFunc lp lp' hlp=>
      dsimp only at e
      split at e
      ·rename_i jump h₁ hx
       cases e
       obtain ⟨τ,j',w',es,h1,h2,h3,h4,h5,h8,h9⟩:=out_of (X:=X) ((sr_endLoop hlp).sim0 rel hx) fn
       cases h4
       have hst:stepG P m (gor ⟨fn,tmps,.endRangeFunc lp' :: k',defers,.run,kind,ro⟩ (cs ++ base)) w = .go (gor ⟨fn,tmps,(jump.map Item.code).toList ++ k',defers,.run,kind,ro⟩ (cs ++ base)) w' (seen P fn es):=by
        rw [stepG_run rfl]
        simp only [stepG.exec,h1]
        rw [after_go]
        rfl
       refine ⟨τ,_,w',_,hst,h2,h3,⟨⟨lo,_,cs,Nat.le_trans hlo h8,rfl,.plain ((hf.mono h3).withTodo ?_),hcs.mono h3 (fun x hx=>h9 x (by omega)) (Nat.le_refl _)⟩,h5⟩⟩
       have hl' :=hl.mono fun _ _ (x:ItR ρ _ _)=>x.mono h3
       cases jump with
       |none=>exact hl'
       |some c=>exact .cons (.code c) hl'
      ·cases e
     |beginRound=>
      dsimp only at e
      cases har:s.fr.round with
      |none=>rw [har] at e;cases e
      |some lp=>
       rw [har] at e hround
       cases hround with
       | @some _ lp' hlp=>
        dsimp only at e
        split at e
        ·rename_i u h₁ hx
         cases e
         rw [←har]
         have hout:Out P X D NR ρ O s.h w ((some lp').elim (Go.stuck "beginRound: no round") Instr.beginRound >>= fun _=>Pure.pure Next.skip) Next.skip h₁:=by
          refine (SR.unit (sr_beginRound hlp)).sim0 rel ?_
          show ((Instr.beginRound lp).bind fun _=>Sem.pure Next.skip).ar P none s.h=_
          exact ar_bind_pure _ _ _ _ hx
         have e':aapply P s.fr s.cs (some (Next.skip,h₁))=some (Res.go { s with fr:={ s.fr with todo:=k },h:=h₁ }):=by
          simp only [aapply,afinish,ht,Option.map_some]
         obtain ⟨τ,g',w',es,h1,h2,h3,h4⟩:=apply_r (X:=X) (.plain hf) hlo hcs e' hout
         refine ⟨τ,g',w',es,?_,h2,h3,h4⟩
         rw [stepG_run rfl]
         simp only [stepG.exec]
         exact h1
        ·cases e
end
end Go.Am
namespace Go.Am
open Go.Ren (grow EvO Guar Rely Wk)
section
variable{P:Program}{ρ σ:Env}{O D:Nat→Prop}{h h':AH}{w w':World}{X:Event→Prop}{m:Bool}{base cs:List Frame}{I:World→Prop}
 {lo hi i:Nat} {ops:Array Oper} {l:List (Nat×List Nat)} {s:List Nat} {a:AFr} {f:Frame} {o:Oper}
theorem region_wanted{k':List Item}(hm:f.mode = .run)(ht:f.todo = .inRegion ops (i :: s) :: k')(ho:ops[i]? = some o)(hw:Region.wanted o (yielded ops f.tmps)=true)(hnd:∀q,o.op ≠ .defer q) :
   stepG P m (gor f cs) w=stepG.apply P true f cs none (execOp f.eval o) w:=by
 rw [stepG_run hm]
 obtain ⟨g,tmps,todo,defers,mode,kind,ro⟩:=f
 dsimp only at ht hw hm
 subst ht
 simp only [stepG.exec,ho,Option.map_some,Option.getD_some]
 rw [hw,if_pos rfl]
 simp only [stepG.oper,Frame.oper?,ho]
 split
 · rename_i hdf;exact absurd hdf (hnd _)
 · rfl
theorem region_unwanted{k':List Item}(hm:f.mode = .run)(ht:f.todo = .inRegion ops (i :: s) :: k')(ho:ops[i]? = some o)(hw:Region.wanted o (yielded ops f.tmps)=false) :
   stepG P m (gor f cs) w = .go (gor (f.finish undef) cs) w #[]:=by
 rw [stepG_run hm]
 obtain ⟨g,tmps,todo,defers,mode,kind,ro⟩:=f
 dsimp only at ht hw hm
 subst ht
 simp only [stepG.exec,ho,Option.map_some,Option.getD_some]
 rw [hw,if_neg (by simp)]
 rfl
theorem run_alloc{e:Operand→Value}{t:TypeId}{z:Value}(hop:o.op = .alloc t)(hz:zeroOf P t=some z) :
   ∀es₀,(execOp e o).runT P w es₀=(.ok (.value (.pointer (some ⟨w.heap.size,0,none⟩))) { w with heap:=w.heap.push (.cells z.cells t (0,0)) },es₀ ++ #[]):=by
 intro es₀
 unfold zeroOf at hz
 cases hi:P.info? t with
 | none=>rw [hi] at hz;cases hz
 | some inf=>
   rw [hi] at hz
   have hz':inf.zero=some z:=hz
   simp [execOp,hop,Instr.alloc,zeroValue,typeInfo,newVar,newRow,newObj,hi,hz']
   exact ⟨rfl,rfl⟩
theorem run_built{e:Operand→Value}{t elem:TypeId}{n:Nat}{ps:Array (Nat×Operand)}{cells:Array Value}(hop:o.op = .buildSlice t n ps)(hb:builtOf P e t n ps=some (elem,cells)) :
   ∀es₀,(execOp e o).runT P w es₀=(.ok (.value (.slice (some ⟨w.heap.size,0,none⟩) n n)) { w with heap:=w.heap.push (.cells cells elem (0,0)) },es₀ ++ #[]):=by
 intro es₀
 unfold builtOf at hb
 split at hb
 rotate_left
 · cases hb
 rename_i el hu
 split at hb
 rotate_left
 · cases hb
 rename_i i hi
 split at hb
 · cases hb
 rename_i hsz
 split at hb
 rotate_left
 · cases hb
 rename_i z hz
 split at hb
 rotate_left
 · cases hb
 rename_i c hf
 cases hb
 have hzz:∀zero:Array Value,(n * i.size=0∨zero=z.cells)→((Array.range (n * i.size)).map fun j=>zero[j % zero.size]!)=(Array.range (n * i.size)).map fun j=>z.cells[j % z.cells.size]! :=by
   rintro zero (h0|rfl)
   ·rw [h0];simp
   ·rfl
 have hex:execOp e o=(Instr.buildSlice t n (ps.map fun p=>(p.1,e p.2))).bind fun v=>Sem.pure (.value v):=by
   unfold execOp
   rw [hop]
   rfl
 rw [hex,Sem.runT_bind']
 have:(Instr.buildSlice t n (ps.map fun p=>(p.1,e p.2))).runT P w es₀=(.ok (.slice (some ⟨w.heap.size,0,none⟩) n n) { w with heap:=w.heap.push (.cells cells elem (0,0)) },es₀ ++ #[]):=by
   unfold Instr.buildSlice
   rw [(pu_under hu).run]
   dsimp only
   rw [(pu_size hi).run]
   rw [if_neg hsz]
   by_cases h0:n * i.size=0
   ·rw [if_pos h0,(Pu.pur _).run,hzz _ (.inl h0),hf]
    simp [newRow,newObj,-Sem.runT_eq,Sem.runT,bind,pure,Sem.bind]
   ·rw [if_neg h0,(pu_zero hi hz).run,(Pu.pur _).run,hzz _ (.inr rfl),hf]
    simp [newRow,newObj,-Sem.runT_eq,Sem.runT,bind,pure,Sem.bind]
 rw [this]
 simp only [Sem.runT]
theorem built_r[Zeros P]{e e':Operand→Value}{t elem:TypeId}{n:Nat}{ps:Array (Nat×Operand)}{cells:Array Value}(hv:∀x∈ps,VR ρ (e x.2) (e' x.2))(hb:builtOf P e t n ps=some (elem,cells)):∃cells',builtOf P e' t n ps=some (elem,cells')∧AR (VR ρ) cells cells' :=by
 unfold builtOf at hb ⊢
 split at hb
 rotate_left
 · cases hb
 rename_i el hu
 split at hb
 rotate_left
 · cases hb
 rename_i i hi
 split at hb
 · cases hb
 rename_i hsz
 split at hb
 rotate_left
 · cases hb
 rename_i z hz
 split at hb
 rotate_left
 · cases hb
 rename_i c hf
 cases hb
 rw [if_neg hsz]
 have hp:=sr_fill (fun j=>some (j * i.size,i.size)) (parts_lr hv) (zeros_ar (ρ:=ρ) (fun τ=>Zeros.zero _ i z hi hz τ) (n * i.size) fun j=>j % z.cells.size)
 replace hp:OptR (AR (VR ρ)) (Instr.fill (fun j=>some (j * i.size,i.size)) ((Array.range (n * i.size)).map fun j=>z.cells[j % z.cells.size]!) (ps.map fun p=>(p.1,e p.2)).toList) (Instr.fill (fun j=>some (j * i.size,i.size)) ((Array.range (n * i.size)).map fun j=>z.cells[j % z.cells.size]!) (ps.map fun p=>(p.1,e' p.2)).toList):=hp
 rw [hf] at hp
 generalize Instr.fill _ _ (ps.map fun p=>(p.1,e' p.2)).toList=q at hp ⊢
 cases hp with
 | some k=>exact ⟨_,rfl,k⟩
theorem lag_step[Zeros P](rel:Rel ρ O D h w)(k:FD ρ lo h.n ops l (i :: s) a f)(hn:i∉ix l)(e:EqAt P h ops a.tmps i) :
   ∃(τ:Env) (f':Frame) (w':World) (es:Array Event),stepG P m (gor f cs) w = .go (gor f' cs) w' es∧Guar X O D w w' es∧ρ.Le τ∧(∀x,τ.born x→ρ.born x∨allocAt ops a.tmps i x)∧FD τ lo h.n ops l s a f' ∧ Rel τ (grow O w w') D h w' :=by
 obtain ⟨k1,k2,t1,t2,hl⟩:=k.todo
 have hm:f.mode = .run:=by have:=k.base.mode;rw [k.run] at this;exact this
 have hkind:=k.base.ne
 cases e with
 | @unwanted o d ho hw hd hv=>
   have hw' :=k.wanted_r ho
   rw [hw] at hw'
   refine ⟨ρ,f.finish undef,w,#[],region_unwanted hm t2 ho hw',.none w,.refl ρ,fun x hx=>.inl hx,?_,rel.grow⟩
   exact k.lag hn (by unfold dstAt;rw [ho];exact hd) hv vr_undef (.refl ρ) fun x hx=>.inl hx
 | @light o d v ho hw hk hd hv hlv=>
   have hw' :=k.wanted_r ho
   rw [hw] at hw'
   unfold lightVal at hlv
   split at hlv
   ·rename_i hok
    simp only [Bool.and_eq_true] at hok
    split at hlv
    ·rename_i v' har
     cases hlv
     obtain ⟨τ,n',w',es,h1,h2,h3,h4,h5,h6,h7⟩:=(sr_exec rel o (k.ops_r ho hok.1) hok.2).sim0 (X:=X) rel (aro_ar _ har)
     cases h3 with
     | @value _ v' hvr=>
      have hb:∀x,τ.born x→ρ.born x∨allocAt ops a.tmps i x:=fun x hx=>((h7 x).1 hx).elim .inl fun y=>by omega
      refine ⟨τ,f.finish v',w',_,?_,h5.less (seen_sub (P:=P) f.fn es),h2,hb,?_,h4⟩
      ·rw [region_wanted hm t2 ho hw' (fun q hq=>by unfold kindOf at hk;rw [hq] at hk;cases hk)]
       exact apply_value hkind h1
      ·exact k.lag hn (by unfold dstAt;rw [ho];exact hd) hv hvr h2 hb
    ·cases hlv
   ·cases hlv
 | @alloc o d t c z ho hw hd hop hz hv hlk=>
   have hw' :=k.wanted_r ho
   rw [hw] at hw'
   have hdst:dstAt ops i=some d:=by unfold dstAt;rw [ho];exact hd
   have hal:allocAt ops a.tmps i c:=⟨kindAt_alloc ho (by first|exact .inl ⟨_,hop⟩|exact .inr ⟨_,_,_,hop⟩),by unfold wantedAt;rw [ho];exact hw,d,hdst,by rw [hv];rfl⟩
   obtain ⟨b1,b2,b3⟩:=k.bd i (by simp) hn c hal
   have hnew:NewR ρ (.cells z.cells t (0,0)) (.cells z.cells t (0,0)):=by
    refine .cells (vr_cells ?_)
    unfold zeroOf at hz
    cases hi:P.info? t with
    |none=>rw [hi] at hz;cases hz
    |some inf=>rw [hi] at hz;exact Zeros.zero t inf z hi hz ρ
   have hr:=rel.birth (o' :=.cells z.cells t (0,0)) b3 b2 hlk hnew
   have hle:ρ.Le (ρ.add c (w.heap.size,0) False 1 (sizeO (.cells z.cells t (0,0)))):=Env.add_le b3
   refine ⟨_,f.finish (.pointer (some ⟨w.heap.size,0,none⟩)),_,_,?_,(guar_push _).less (seen_sub (P:=P) f.fn #[]),hle,fun x hx=>hx.elim (fun e=>.inr (e ▸ hal)) .inl,?_,hr⟩
   ·rw [region_wanted hm t2 ho hw' (fun q hq=>by rw [hq] at hop;cases hop)]
    exact apply_value hkind (run_alloc hop hz)
   ·refine k.lag hn hdst hv ?_ hle fun x hx=>hx.elim (fun e=>.inr (e ▸ hal)) .inl
    have:(Value.pointer (some ⟨w.heap.size,0,none⟩)) = .pointer (some ((ρ.add c (w.heap.size,0) False 1 (sizeO (.cells z.cells t (0,0)))).addr ⟨c,0,none⟩)):=by
     simp only [Env.addr,add_to]
    rw [this]
    exact .ptr (.inl rfl)
 | @built o d t n ps c elem cells ho hw hd hop hok hb hv hlk=>
   have hw' :=k.wanted_r ho
   rw [hw] at hw'
   have hdst:dstAt ops i=some d:=by unfold dstAt;rw [ho];exact hd
   have hal:allocAt ops a.tmps i c:=⟨kindAt_alloc ho (by first|exact .inl ⟨_,hop⟩|exact .inr ⟨_,_,_,hop⟩),by unfold wantedAt;rw [ho];exact hw,d,hdst,by rw [hv];rfl⟩
   obtain ⟨b1,b2,b3⟩:=k.bd i (by simp) hn c hal
   obtain ⟨cells',hb',hcr⟩:=built_r (fun x hx=>k.ops_r ho hok x.2 (by rw [hop];simp only [Op.operands,List.mem_toArray,List.mem_map];exact ⟨x,by simpa using hx,rfl⟩)) hb
   have hr:=rel.birth (o' :=.cells cells' elem (0,0)) b3 b2 hlk (.cells hcr)
   have hle:ρ.Le (ρ.add c (w.heap.size,0) False 1 (sizeO (.cells cells elem (0,0)))):=Env.add_le b3
   refine ⟨_,f.finish (.slice (some ⟨w.heap.size,0,none⟩) n n),_,_,?_,(guar_push _).less (seen_sub (P:=P) f.fn #[]),hle,fun x hx=>hx.elim (fun e=>.inr (e ▸ hal)) .inl,?_,hr⟩
   ·rw [region_wanted hm t2 ho hw' (fun q hq=>by rw [hq] at hop;cases hop)]
    exact apply_value hkind (run_built hop hb')
   ·refine k.lag hn hdst hv ?_ hle fun x hx=>hx.elim (fun e=>.inr (e ▸ hal)) .inl
    have:(Value.slice (some ⟨w.heap.size,0,none⟩) n n) = .slice (some ((ρ.add c (w.heap.size,0) False 1 (sizeO (.cells cells elem (0,0)))).addr ⟨c,0,none⟩)) n n:=by
     simp only [Env.addr,add_to]
    rw [this]
    exact .slice (.inl rfl) (.inl rfl)
end
end Go.Am
namespace Go.Am
open Go.Ren (grow EvO Guar Rely Wk)
section
variable{P:Program}{ρ σ:Env}{O D:Nat→Prop}{h h':AH}{w w':World}{X:Event→Prop}{m:Bool}{base cs:List Frame}{I:World→Prop}{pl:Plan}
 {lo hi i:Nat} {ops:Array Oper} {l:List (Nat×List Nat)} {s:List Nat} {a:AFr} {f:Frame} {o:Oper} {d:Tmp} {v:Value} {c:List Nat}
theorem region_end{k':List Item}(hm:f.mode = .run)(ht:f.todo = .inRegion ops [] :: k'):stepG P m (gor f cs) w = .go (gor { f with todo:=k' } cs) w #[]:=by
 rw [stepG_run hm]
 obtain ⟨g,tmps,todo,defers,mode,kind,ro⟩:=f
 dsimp only at ht hm
 subst ht
 simp only [stepG.exec]
 rfl
theorem kind_alloc(k:kindOf o = .alloc):(∃t,o.op = .alloc t)∨∃t n ps,o.op = .buildSlice t n ps:=by
 unfold kindOf at k
 split at k<;>first|exact .inl ⟨_,by assumption⟩|exact .inr ⟨_,_,_,by assumption⟩|cases k
theorem not_self(hok:okDrawn ops=true)(hi:i < ops.size):dep ops ops.size i i=false:=by
 cases h:dep ops ops.size i i with
 | false=>rfl
 | true=>exact absurd (edge_lt hok hi h) (Nat.lt_irrefl _)
theorem FD.mode(k:FD ρ lo hi ops l s a f):f.mode = .run:=by have:=k.base.mode;rw [k.run] at this;exact this
theorem Eqs.ahead(k:FD ρ lo hi ops ((i,c) :: l) s a f)(hk:kindAt ops i ≠ .effect)(e:Eqs P h ops ((i,c) :: l) s a.tmps)(hd:dstAt ops i=some d)(hi:EqAt P h ops (a.tmps.setIfInBounds d v) i):Eqs P h ops l s (a.tmps.setIfInBounds d v):=by
 intro j hj hn
 by_cases e':j=i
 · subst e';exact hi
 · have old:j∉ix ((i,c) :: l):=fun h3=>(List.mem_cons.1 h3).elim e' hn
   exact (e j hj old).set k.ok (k.lt j hj) (ord_cons k.ord).1 hd (k.done j (k.lt j hj) old i (by simp [ix_cons])) e' (.inl hk)
theorem ahead_step[Zeros P]{s₀:AS}(k:FD ρ lo s₀.h.n ops ((i,c) :: l) s s₀.fr f)(hk:kindAt ops i ≠ .effect)(e:Eqs P s₀.h ops ((i,c) :: l) s s₀.fr.tmps)(hlo:lo≤s₀.h.n)(hcs:Stk ρ lo s₀.cs cs)(rel:Rel ρ O D s₀.h w)
   {n:Nat} {r:Res} (hr:astep P pl (some n) s₀=some r):ResR P ρ O D base r (gor f (cs ++ base)) w:=by
 obtain ⟨k1,k2,t1,t2,hl⟩:=k.todo
 obtain ⟨o1,o2,o3,o4,o5,o6⟩:=ord_cons k.ord
 unfold astep at hr
 rw [k.run,t1] at hr
 dsimp only at hr
 have hoi:ops[i]? = some ops[i]:=at_some o1
 generalize hoo:ops[i]=o at hoi
 rw [hoi] at hr
 dsimp only at hr
 have hke':kindAt ops i=kindOf o:=kindAt_ne hoi hk
 have hkk:kindOf o ≠ .effect:=by rw [←hke'];exact hk
 split at hr
 · rename_i hke;exact absurd hke hk
 split at hr
 · cases hr
 rename_i d hd
 have hdst:dstAt ops i=some d:=by unfold dstAt;rw [hoi];exact hd
 split at hr
 rotate_left
 · cases hr
 rename_i hsz
 have self:∀v:Value,Region.wanted o (yielded ops (s₀.fr.tmps.setIfInBounds d v))=Region.wanted o (yielded ops s₀.fr.tmps):=fun v=>by
   have:=wantedAt_set (v:=v) (tm:=s₀.fr.tmps) k.ok o1 o1 hdst (not_self k.ok o1)
   unfold wantedAt at this
   rw [hoi] at this
   exact this
 have got:∀v:Value,(s₀.fr.tmps.setIfInBounds d v)[d]? = some v:=fun v=>by rw [Array.getElem?_setIfInBounds,if_pos rfl,if_pos hsz]
 split at hr
 · rename_i hw
   split at hr
   ·rename_i t hop
    split at hr
    ·rename_i z hz
     split at hr
     ·rename_i hre
      cases hr
      have k' :=k.ahead (v:=.pointer (some ⟨s₀.h.n,0,none⟩)) (hi' :=s₀.h.n+1) t1 hk hdst (Nat.le_succ _) hlo (fun x hx=>by
       obtain ⟨_,_,d',hd',hv'⟩:=hx
       rw [hdst] at hd'
       cases hd'
       rw [got] at hv'
       replace hv':some s₀.h.n=some x:=hv'
       cases hv'
       exact ⟨Nat.le_refl _,Nat.lt_succ_self _,fun hb=>Nat.lt_irrefl _ (rel.fresh _ hb)⟩)
      refine ⟨⟨lo,f,cs,Nat.le_succ_of_le hlo,rfl,.ahead (h:=s₀.h.new (.cells z.cells t (0,0))) k' ?_,hcs⟩,rel.push _⟩
      exact k'.eqs k.ord (by rw [kindAt_alloc hoi (by first|exact .inl ⟨_,hop⟩|exact .inr ⟨_,_,_,hop⟩)];exact fun x=>by cases x) hre
     ·cases hr
    ·cases hr
   ·rename_i t n ps hop
    split at hr
    ·rename_i elem cells hb
     split at hr
     ·rename_i hre
      simp only [Bool.and_eq_true] at hre
      cases hr
      have k' :=k.ahead (v:=.slice (some ⟨s₀.h.n,0,none⟩) n n) (hi' :=s₀.h.n+1) t1 hk hdst (Nat.le_succ _) hlo (fun x hx=>by
       obtain ⟨_,_,d',hd',hv'⟩:=hx
       rw [hdst] at hd'
       cases hd'
       rw [got] at hv'
       replace hv':some s₀.h.n=some x:=hv'
       cases hv'
       exact ⟨Nat.le_refl _,Nat.lt_succ_self _,fun hb=>Nat.lt_irrefl _ (rel.fresh _ hb)⟩)
      refine ⟨⟨lo,f,cs,Nat.le_succ_of_le hlo,rfl,.ahead (h:=s₀.h.new (.cells cells elem (0,0))) k' ?_,hcs⟩,rel.push _⟩
      exact k'.eqs k.ord (by rw [kindAt_alloc hoi (by first|exact .inl ⟨_,hop⟩|exact .inr ⟨_,_,_,hop⟩)];exact fun x=>by cases x) hre.2
     ·cases hr
    ·cases hr
   ·rename_i hop hop2
    split at hr
    ·rename_i v hlv
     cases hr
     have hkl:kindOf o = .light:=by
      cases hkd:kindOf o with
      |light=>rfl
      |effect=>exact absurd hkd hkk
      |alloc=>
       rcases kind_alloc hkd with ⟨t,ht⟩|⟨t,n,ps,ht⟩
       ·exact absurd ht (hop t)
       ·exact absurd ht (hop2 t n ps)
     have k' :=k.ahead (v:=v) (hi' :=s₀.h.n) t1 hk hdst (Nat.le_refl _) hlo (fun x hx=>by
      have:=hx.1
      rw [hke',hkl] at this
      cases this)
     refine ⟨⟨lo,f,cs,hlo,rfl,.ahead k' (Eqs.ahead k hk e hdst ?_),hcs⟩,rel⟩
     refine .light hoi (by rw [self];exact hw) hkl hd (got v) ?_
     rw [lightVal_congr hkl fun x hx=>aeval_set fun hxd=>?_]
     ·exact hlv
     ·subst hxd
      have:=dep_of_dst k.ok hoi o1 hx hdst hk
      rw [not_self k.ok o1] at this
      cases this
    ·cases hr
 · rename_i hw
   have hw':Region.wanted o (yielded ops s₀.fr.tmps)=false:=by simpa using hw
   cases hr
   have k' :=k.ahead (v:=undef) (hi' :=s₀.h.n) t1 hk hdst (Nat.le_refl _) hlo (fun x hx=>by
    have:=hx.2.1
    unfold wantedAt at this
    rw [hoi] at this
    dsimp only at this
    rw [self,hw'] at this
    cases this)
   refine ⟨⟨lo,f,cs,hlo,rfl,.ahead k' (Eqs.ahead k hk e hdst ?_),hcs⟩,rel⟩
   exact .unwanted hoi (by rw [self];exact hw') hd (got undef)
theorem effect_step[Zeros P]{s₀:AS}(k:FD ρ lo s₀.h.n ops ((i,c) :: l) (i :: s) s₀.fr f)(hk:kindAt ops i = .effect)(hlo:lo≤s₀.h.n)(hcs:Stk ρ lo s₀.cs cs)(rel:Rel ρ O D s₀.h w) :
   ∃n:Nat,∀r,astep P pl (some n) s₀=some r→Has base r→Steps1 P m X ρ O D base (gor f (cs ++ base)) w r:=by
 obtain ⟨k1,k2,t1,t2,hl⟩:=k.todo
 obtain ⟨o1,o2,o3,o4,o5,o6⟩:=ord_cons k.ord
 have hoi:ops[i]? = some ops[i]:=at_some o1
 generalize hoo:ops[i]=o at hoi
 have step:∀n:Nat,astep P pl (some n) s₀=if Region.wanted o (yielded ops s₀.fr.tmps) then aapply P s₀.fr s₀.cs (aexec P (some n) s₀.h s₀.fr.tmps o) else (afinish P s₀.fr s₀.h undef).map fun f=>.go { s₀ with fr:=f }:=by
   intro n
   unfold astep
   rw [k.run,t1]
   dsimp only
   rw [hoi]
   dsimp only
   rw [hk]
 have hS:FSt ρ lo s₀.h.n s₀.fr f:=.ahead k hk
 cases hw:Region.wanted o (yielded ops s₀.fr.tmps) with
 | false=>
   refine ⟨0,fun r hr _=>?_⟩
   rw [step,hw,if_neg (by simp)] at hr
   simp only [Option.map_eq_some_iff] at hr
   obtain ⟨a',e1,rfl⟩:=hr
   have hw' :=k.wanted_r hoi
   rw [hw] at hw'
   exact ⟨ρ,_,w,#[],region_unwanted k.mode t2 hoi hw',.none w,.refl ρ,⟨⟨lo,_,cs,hlo,rfl,finish_S hS (Nat.le_refl _) vr_undef e1,hcs⟩,rel.grow⟩⟩
 | true=>
   have hw' :=k.wanted_r hoi
   rw [hw] at hw'
   obtain ⟨n,kk⟩:=aexec_out (X:=X) (P:=P) rel (o:=o) (k.ops_r hoi)
   refine ⟨n,fun r hr _=>?_⟩
   rw [step,hw,if_pos rfl] at hr
   cases hx:aexec P (some n) s₀.h s₀.fr.tmps o with
   |none=>rw [hx] at hr;simp [aapply] at hr
   |some p=>
    obtain ⟨nx,h'⟩:=p
    rw [hx] at hr
    obtain ⟨τ,g',w',es,h1,h2,h3,h4⟩:=apply_r (X:=X) (base:=base) hS hlo hcs hr (kk hx)
    refine ⟨τ,g',w',es,?_,h2,h3,h4⟩
    rw [region_wanted k.mode t2 hoi hw' (aexec_nd hx)]
    exact h1
def Done1(P:Program)(pl:Plan)(ρ:Env)(D:Nat→Prop)(base:List Frame)(s:AS)(O:Nat→Prop)(g:Goroutine)(w:World):Prop:=
 ∃(n:Nat) (r:Res) (σ:Env),astep P pl (some n) s=some r∧ρ.Le σ∧ResR P σ O D base r g w
theorem Done1.le(h:ρ.Le σ){s:AS}{g:Goroutine}(k:Done1 P pl σ D base s O g w):Done1 P pl ρ D base s O g w:=by
 obtain ⟨n,r,τ,h1,h2,h3⟩:=k
 exact ⟨n,r,τ,h1,h.trans h2,h3⟩
theorem wk_of{s₀:AS}{g:Goroutine}(hs:g.status = .running)(hne:∀n:Nat,∃r,astep P pl (some n) s₀=some r∧Has base r)(h:∀w₁,Rely O D w w₁→∃n:Nat,∀r,astep P pl (some n) s₀=some r→Has base r→Steps1 P m X ρ O D base g w₁ r):Wk P m I X D (Done1 P pl ρ D base s₀) O g w:=by
 refine Wk.mk hs fun w₁ hr _=>?_
 obtain ⟨n,hn⟩:=h w₁ hr
 obtain ⟨r,hr',hb⟩:=hne n
 obtain ⟨σ,g',w',es,h1,h2,h3,h4⟩:=hn r hr' hb
 exact ⟨g',w',es,h1,h2,.stop ⟨n,r,σ,hr',h3,h4⟩⟩
theorem ahead_wk[Zeros P]{s₀:AS}(hne:∀n:Nat,∃r,astep P pl (some n) s₀=some r∧Has base r)(hlo:lo≤s₀.h.n):∀(s:List Nat) {ρ:Env} {f:Frame} {O:Nat→Prop} {w:World},FD ρ lo s₀.h.n ops l s s₀.fr f→Eqs P s₀.h ops l s s₀.fr.tmps→Stk ρ lo s₀.cs cs→Rel ρ O D s₀.h w →
   Wk P m I X D (Done1 P pl ρ D base s₀) O (gor f (cs ++ base)) w:=by
 intro s
 induction s with
 | nil=>
   intro ρ f O w k e hcs rel
   obtain ⟨k1,k2,t1,t2,hl⟩:=k.todo
   cases l with
   |cons p l=>exact absurd (k.sub p.1 (by simp [ix])) (by simp)
   |nil=>
    refine wk_of rfl hne fun w₁ hr=>⟨0,fun r hr' _=>?_⟩
    unfold astep at hr'
    rw [k.run,t1] at hr'
    dsimp only at hr'
    simp only [ato,Option.some.injEq] at hr'
    subst hr'
    refine ctl (a' :={ s₀.fr with todo:=k1 }) (region_end k.mode t2) ⟨⟨k.base.fn,k.base.defers,k.base.mode,k.base.kind,k.base.round⟩,⟨k.size,fun t x y hx hy=>?_⟩,hl⟩ hlo hcs (rel.rely hr)
    have:=k.tmps t fun j hj=>absurd hj (by simp)
    rw [hx] at this
    have hy':f.tmps[t]? = some y:=hy
    rw [hy'] at this
    cases this with
    |some h=>exact h
 | cons i s ih=>
   intro ρ f O w k e hcs rel
   have lag:i∉ix l→Wk P m I X D (Done1 P pl ρ D base s₀) O (gor f (cs ++ base)) w:=by
    intro hn
    refine Wk.mk rfl fun w₁ hr _=>?_
    obtain ⟨τ,f',w',es,h1,h2,h3,h4,h5,h6⟩:=lag_step (X:=X) (m:=m) (cs:=cs ++ base) (rel.rely hr) k hn (e i (by simp) hn)
    refine ⟨gor f' (cs ++ base),w',es,h1,h2,(ih h5 (fun j hj=>e j (List.mem_cons_of_mem _ hj)) (hcs.mono h3 (fun x hx hb=>(h4 x hb).elim id fun hal=>?_) (Nat.le_refl _)) h6).mono fun _ _ _ z=>z.le h3⟩
    have:=(k.bd i (by simp) hn x hal).1
    omega
   cases l with
   |nil=>exact lag (by simp [ix])
   |cons p l=>
    obtain ⟨i₀,c⟩:=p
    obtain ⟨o1,o2,o3,o4,o5,o6⟩:=ord_cons k.ord
    by_cases hk:kindAt ops i₀ = .effect
    ·by_cases hi:i=i₀
     ·subst hi
      exact wk_of rfl hne fun w₁ hr=>effect_step k hk hlo hcs (rel.rely hr)
     ·refine lag fun hm=>?_
      have hm':i∈ix l:=(List.mem_cons.1 hm).resolve_left hi
      exact k.head_r (o4 hk i hm') (k.sub i₀ (by simp [ix_cons]))
    ·obtain ⟨r,hr,_⟩:=hne 0
     exact .stop ⟨0,r,ρ,hr,.refl ρ,ahead_step k hk e hlo hcs rel hr⟩
theorem step_wk[Zeros P]{s:AS}{g:Goroutine}(S:Sim P ρ O D base s g w)(hne:∀n:Nat,∃r,astep P pl (some n) s=some r∧Has base r):Wk P m I X D (Done1 P pl ρ D base s) O g w:=by
 obtain ⟨⟨lo,f,cs,hlo,rfl,hf,hcs⟩,rel⟩:=S
 cases hf with
 | plain hf=>exact wk_of rfl hne fun w₁ hr=>step_plain hlo hf hcs (rel.rely hr)
 | @ahead ops l s' k e=>exact ahead_wk hne hlo s' k e hcs rel
end
end Go.Am
namespace Go.Am
open Go.Ren (grow EvO Guar Rely Wk)
theorem ar_free{P:Program}{α:Type}(s:Sem α):∀(h:AH) {x:α×AH},s.ar P none h=some x→∀c,s.ar P c h=some x:=by
 induction s with
 | pure a=>intro h x e c;exact e
 | load m a k ih=>
   intro h x e c
   rw [Sem.ar.eq_def] at e ⊢
   dsimp only at e ⊢
   generalize h.cell a=q at e ⊢
   cases q with
   |none=>cases e
   |some v=>
    cases m with
    |plain=>exact ih v _ e c
    |atomic=>cases e
 | store m a v k ih=>
   intro h x e c
   cases v<;>cases m<;>simp only [Sem.ar] at e ⊢<;>first|(cases e;done)|skip
   all_goals
    generalize h.setCell a _=q at e ⊢
    cases q with
    |none=>cases e
    |some h=>exact ih _ e c
 | new o k ih=>
   intro h x e c
   simp only [Sem.ar] at e ⊢
   split at e<;>first|(cases e;done)|exact ih _ _ e c
 | shape r k ih=>
   intro h x e c
   simp only [Sem.ar] at e ⊢
   generalize h.look r=q at e ⊢
   cases q with
   |none=>cases e
   |some B=>
    obtain ⟨o,f,ro,u⟩:=B
    cases o<;>exact ih _ _ e c
 | getObj r k ih=>
   intro h x e c
   simp only [Sem.ar] at e ⊢
   generalize h.look r=q at e ⊢
   cases q with
   |none=>cases e
   |some B=>
    obtain ⟨o,f,ro,u⟩:=B
    cases o<;>first|(cases e;done)|exact ih _ _ e c
 | setObj r o k ih=>
   intro h x e c
   simp only [Sem.ar] at e ⊢
   generalize h.look r=q at e ⊢
   split at e
   ·cases e
   ·cases e
   ·rename_i B hnc hq
    split at e
    ·cases e
    ·rename_i hro
     rw [if_neg hro]
     exact ih _ e c
   ·cases e
 | choose q k ih=>
   intro h x e c
   rw [Sem.ar.eq_def] at e ⊢
   dsimp only at e ⊢
   split at e
   ·rename_i hq;rw [if_pos hq];exact ih _ _ e c
   ·cases q<;>cases e
 | program k ih=>intro h x e c;exact ih _ _ e c
 | _=>intro h x e c;cases e
section
variable{P:Program}{ρ σ:Env}{O D:Nat→Prop}{h h':AH}{w w':World}{X:Event→Prop}{m:Bool}{b:Frame}{bs:List Frame}{I:World→Prop}{pl:Plan}
theorem aexec_none{tmps:Array Value}{o:Oper}{x:Next×AH}(e:aexec P none h tmps o=some x)(c:Option Nat):aexec P c h tmps o=some x:=by
 unfold aexec at e ⊢
 split
 · rename_i ha;rw [if_pos ha] at e;exact e
 · rename_i ha
   rw [if_neg ha] at e
   split
   ·rename_i hk;rw [if_pos hk] at e;exact ar_free _ _ e c
   ·rename_i hk;rw [if_neg hk] at e;cases e
theorem aapply_none{fr:AFr}{cs:List AFr}{tmps:Array Value}{o:Oper}{r:Res}(e:aapply P fr cs (aexec P none h tmps o)=some r)(c:Option Nat):aapply P fr cs (aexec P c h tmps o)=some r:=by
 cases hx:aexec P none h tmps o with
 | none=>rw [hx] at e;simp [aapply] at e
 | some x=>rw [aexec_none hx c,←hx];exact e
theorem astep_none{s:AS}{r:Res}(e:astep P pl none s=some r)(c:Option Nat):astep P pl c s=some r:=by
 unfold astep at e ⊢
 cases hr:s.fr.ret with
 | true=>rw [hr] at e;exact e
 | false=>
   rw [hr] at e
   dsimp only at e ⊢
   cases ht:s.fr.todo with
   |nil=>rw [ht] at e;exact e
   |cons it k=>
    rw [ht] at e
    cases it with
    |region ops l=>
     cases l with
     |nil=>exact e
     |cons i l=>
      dsimp only at e ⊢
      cases ho:ops[i]? with
      |none=>rw [ho] at e;cases e
      |some o=>
       rw [ho] at e
       dsimp only at e ⊢
       split
       ·rename_i hw;rw [if_pos hw] at e;exact aapply_none e c
       ·rename_i hw;rw [if_neg hw] at e;exact e
    |drawn ops l=>
     cases l with
     |nil=>exact e
     |cons p l=>
      obtain ⟨i,again⟩:=p
      dsimp only at e ⊢
      cases ho:ops[i]? with
      |none=>rw [ho] at e;cases e
      |some o=>
       rw [ho] at e
       dsimp only at e ⊢
       cases hk:kindAt ops i with
       |effect=>
        rw [hk] at e
        dsimp only at e ⊢
        split
        ·rename_i hw;rw [if_pos hw] at e;exact aapply_none e c
        ·rename_i hw;rw [if_neg hw] at e;exact e
       |light=>rw [hk] at e;exact e
       |alloc=>rw [hk] at e;exact e
    |code x=>exact e
    |inBlock x=>exact e
    |inLoop x=>exact e
    |inScope x=>exact e
    |inRangeFunc x=>exact e
    |endRangeFunc x=>exact e
    |beginRound=>exact e
inductive AAll(P:Program)(pl:Plan)(Q:Value→AH→Prop):AS→Prop
 | step {s:AS} (hne:∀c:Nat,∃r,astep P pl (some c) s=some r) (hgo:∀(c:Nat) s',astep P pl (some c) s=some (.go s')→AAll P pl Q s') (hret:∀(c:Nat) v h,astep P pl (some c) s=some (.ret v h)→Q v h):AAll P pl Q s
theorem AAll.one{Q:Value→AH→Prop}{s s':AS}(e:astep P pl none s=some (.go s'))(k:AAll P pl Q s'):AAll P pl Q s:=
 .step (fun c=>⟨_,astep_none e (some c)⟩) (fun c t ht=>by rw [astep_none e (some c)] at ht;cases ht;exact k) (fun c v h ht=>by rw [astep_none e (some c)] at ht;cases ht)
theorem AAll.ret{Q:Value→AH→Prop}{s:AS}{v:Value}{h:AH}(e:astep P pl none s=some (.ret v h))(k:Q v h):AAll P pl Q s:=
 .step (fun c=>⟨_,astep_none e (some c)⟩) (fun c t ht=>by rw [astep_none e (some c)] at ht;cases ht) (fun c v' h' ht=>by rw [astep_none e (some c)] at ht;cases ht;exact k)
theorem AAll.mono{Q R:Value→AH→Prop}{s:AS}(k:AAll P pl Q s)(hQ:∀v h,Q v h→R v h):AAll P pl R s:=by
 induction k with
 | step hne _ hret ih=>exact .step hne ih fun c v h e=>hQ v h (hret c v h e)
theorem aall_wk[Zeros P]{Q:Value→AH→Prop}{s:AS}(k:AAll P pl Q s):∀ {ρ:Env} {O:Nat→Prop} {g:Goroutine} {w:World},Sim P ρ O D (b :: bs) s g w →
   Wk P m I X D (fun O' g' w'=>∃(σ:Env) (v:Value) (h:AH) (v':Value),Q v h∧ρ.Le σ∧VR σ v v' ∧ g' = gor (b.finish v') bs∧Rel σ O' D h w') O g w:=by
 induction k with
 | step hne _ hret ih=>
   intro ρ O g w S
   refine (step_wk S fun n=>(hne n).imp fun r hr=>⟨hr,fun _=>by simp⟩).bind fun O' g' w' hd=>?_
   obtain ⟨n,r,σ,h1,h2,h3⟩:=hd
   cases r with
   |ret v h=>
    obtain ⟨b',bs',v',k0,k1,k2,k3⟩:=h3
    cases k0
    exact .stop ⟨σ,v,h,v',hret n v h h1,h2,k1,k2,k3⟩
   |go s'=>
    refine (ih n s' h1 h3).mono fun O'' g'' w'' hs=>?_
    obtain ⟨τ,v,h,v',k1,k2,k3⟩:=hs
    exact ⟨τ,v,h,v',k1,h2.trans k2,k3⟩
inductive AReach(P:Program)(pl:Plan)(K:AS→Prop):AS→Prop
 | here {s:AS} (h:K s):AReach P pl K s
 | step {s:AS} (hne:∀c:Nat,∃s',astep P pl (some c) s=some (.go s')) (hgo:∀(c:Nat) s',astep P pl (some c) s=some (.go s')→AReach P pl K s'):AReach P pl K s
theorem AReach.one{K:AS→Prop}{s s':AS}(e:astep P pl none s=some (.go s'))(k:AReach P pl K s'):AReach P pl K s:=
 .step (fun c=>⟨_,astep_none e (some c)⟩) fun c t ht=>by rw [astep_none e (some c)] at ht;cases ht;exact k
theorem AReach.bind{K L:AS→Prop}{s:AS}(h:AReach P pl K s)(k:∀s,K s→AReach P pl L s):AReach P pl L s:=by
 induction h with
 | here h=>exact k _ h
 | step hne _ ih=>exact .step hne ih
theorem areach_wk[Zeros P]{K:AS→Prop}{s:AS}{base:List Frame}(k:AReach P pl K s):∀ {ρ:Env} {O:Nat→Prop} {g:Goroutine} {w:World},Sim P ρ O D base s g w →
   Wk P m I X D (fun O' g' w'=>∃(σ:Env) (s':AS),K s' ∧ ρ.Le σ∧Sim P σ O' D base s' g' w') O g w:=by
 induction k with
 | here h=>intro ρ O g w S;exact .stop ⟨ρ,_,h,.refl ρ,S⟩
 | @step s hne hgo ih=>
   intro ρ O g w S
   refine (step_wk (pl:=pl) S fun n=>(hne n).elim fun s' hs'=>⟨_,hs',fun ⟨v,h,e⟩=>by cases e⟩).bind fun O' g' w' hd=>?_
   obtain ⟨n,r,σ,h1,h2,h3⟩:=hd
   obtain ⟨s',hs'⟩:=hne n
   rw [hs'] at h1
   cases h1
   refine (ih n s' hs' h3).mono fun O'' g'' w'' hz=>?_
   obtain ⟨τ,t,k1,k2,k3⟩:=hz
   exact ⟨τ,t,k1,h2.trans k2,k3⟩
def arun(P:Program)(pl:Plan):Nat→AS→Option Res
 | 0,s=>some (.go s)
 | n+1,s=>match astep P pl none s with
   |some (.go s)=>arun P pl n s
   |r=>r
theorem arun_all{Q:Value→AH→Prop}:∀(n:Nat) {s:AS} {v:Value} {h:AH},arun P pl n s=some (.ret v h)→Q v h→AAll P pl Q s
 | 0,s,v,h,e,_=>by cases e
 | n+1,s,v,h,e,k=>by
   unfold arun at e
   split at e
   ·rename_i s' hs;exact .one hs (arun_all n e k)
   ·exact .ret e k
theorem arun_reach{K:AS→Prop}:∀(n:Nat) {s s':AS},arun P pl n s=some (.go s')→AReach P pl K s' → AReach P pl K s
 | 0,s,s',e,k=>by cases e;exact k
 | n+1,s,s',e,k=>by
   unfold arun at e
   split at e
   ·rename_i s'' hs;exact .one hs (arun_reach n e k)
   ·rename_i hr;exact absurd e (hr s')
end
end Go.Am
namespace Go.Am
section
variable{P:Program}{pl:Plan}{n:Option Nat}{c fr:AFr}{cs cs₁:List AFr}{h:AH}
def under(P:Program)(c:AFr)(cs:List AFr):Res→Option Res
 | .go s=>some (.go ⟨s.fr,s.cs ++ c :: cs,s.h⟩)
 | .ret v h=>(afinish P c h v).map fun f=>.go ⟨f,cs,h⟩
theorem aret_under{dk:Bool}(v:Value):aret P dk (cs₁ ++ c :: cs) v h=(aret P dk cs₁ v h).bind (under P c cs):=by
 cases dk with
 | true=>rfl
 | false=>
 cases cs₁ with
 | nil=>rfl
 | cons x cs₁=>
   simp only [List.cons_append,aret,Bool.false_eq_true,if_false]
   cases afinish P x h v<;>rfl
theorem aapply_under(x:Option (Next×AH)):aapply P fr (cs₁ ++ c :: cs) x=(aapply P fr cs₁ x).bind (under P c cs):=by
 cases x with
 | none=>rfl
 | some p=>
   obtain ⟨nx,h⟩:=p
   cases nx<;>simp only [aapply]<;>first|rfl|skip
   all_goals cases afinish P fr h _<;>rfl
theorem aleave_under(j:Option Code):aleave P ⟨fr,cs₁ ++ c :: cs,h⟩ j=(aleave P ⟨fr,cs₁,h⟩ j).bind (under P c cs):=by
 unfold aleave
 dsimp only
 cases fr.round with
 | none=>
   dsimp only
   split<;>rfl
 | some l=>
   dsimp only
   cases (Instr.endRound l j).ar P none h with
   |none=>rfl
   |some p=>exact aret_under p.1
theorem aunwind_under:aunwind P ⟨fr,cs₁ ++ c :: cs,h⟩=(aunwind P ⟨fr,cs₁,h⟩).bind (under P c cs):=by
 unfold aunwind
 dsimp only
 split
 · rename_i b args ds hd
   cases (Instr.takeDeferred b).ar P none h<;>rfl
 · rfl
 · cases P.funcs[fr.fn]? with
   |none=>rfl
   |some fn=>
    dsimp only
    cases (results fn fr.tmps).ar P none h with
    |none=>rfl
    |some p=>exact aret_under p.1
theorem astep_under:astep P pl n ⟨fr,cs₁ ++ c :: cs,h⟩=(astep P pl n ⟨fr,cs₁,h⟩).bind (under P c cs):=by
 unfold astep
 dsimp only
 cases fr.ret with
 | true=>exact aunwind_under
 | false=>
   dsimp only
   cases fr.todo with
   |nil=>exact aleave_under none
   |cons it k=>
    cases it with
    |inBlock x=>rfl
    |inLoop x=>rfl
    |inScope x=>rfl
    |inRangeFunc x=>rfl
    |beginRound=>
     dsimp only
     cases fr.round with
     |none=>rfl
     |some l=>
      dsimp only
      cases (Instr.beginRound l).ar P none h<;>rfl
    |endRangeFunc l=>
     dsimp only
     cases (Instr.endLoop l).ar P none h<;>rfl
    |region ops l=>
     cases l with
     |nil=>rfl
     |cons i l=>
      dsimp only
      cases ops[i]? with
      |none=>rfl
      |some o=>
       dsimp only
       split
       ·exact aapply_under _
       ·cases afinish P fr h undef<;>rfl
    |drawn ops l=>
     cases l with
     |nil=>rfl
     |cons p l=>
      dsimp only
      cases ops[p.1]? with
      |none=>rfl
      |some o=>
       dsimp only
       cases kindAt ops p.1 with
       |effect=>
        dsimp only
        split
        ·exact aapply_under _
        ·cases afinish P fr h undef<;>rfl
       |_=>
        dsimp only
        (repeat' split)<;>rfl
    |code x=>
     cases x with
     |ret=>exact aleave_under _
     |skip=>rfl
     |label l=>rfl
     |seq x y=>rfl
     |block id x=>rfl
     |loop x=>rfl
     |scope x=>rfl
     |cond x a b=>
      dsimp only
      (repeat' split)<;>rfl
     |exit id=>
      dsimp only
      cases aexitTo id k with
      |none=>exact aleave_under _
      |some k=>rfl
     |goto l=>
      dsimp only
      cases agotoIn l k with
      |none=>exact aleave_under _
      |some k=>rfl
     |region id ops d=>
      cases d with
      |false=>rfl
      |true=>
       dsimp only
       split<;>rfl
     |rangeFunc f params assign body=>
      dsimp only
      split
      ·split
       ·split
        ·exact aapply_under _
        ·rfl
       ·rfl
      ·rfl
     |refuse why=>rfl
theorem AAll.under{Q:Value→AH→Prop}{K:AS→Prop}{s:AS}(k:AAll P pl Q s)(hQ:∀v h,Q v h→∃c',afinish P c h v=some c' ∧ AReach P pl K ⟨c',cs,h⟩):AReach P pl K ⟨s.fr,s.cs ++ c :: cs,s.h⟩:=by
 induction k with
 | @step s hne hgo hret ih=>
   have key:∀n:Nat,astep P pl (some n) ⟨s.fr,s.cs ++ c :: cs,s.h⟩=(astep P pl (some n) s).bind (Go.Am.under P c cs):=fun n=>astep_under
   refine .step (fun n=>?_) fun n s' hs'=>?_
   ·obtain ⟨r,hr⟩:=hne n
    rw [key,hr]
    cases r with
    |go s'=>exact ⟨_,rfl⟩
    |ret v h=>
     obtain ⟨c',h1,_⟩:=hQ v h (hret n v h hr)
     exact ⟨⟨c',cs,h⟩,by simp [Go.Am.under,h1]⟩
   ·obtain ⟨r,hr⟩:=hne n
    rw [key,hr] at hs'
    cases r with
    |go s''=>
     cases hs'
     exact ih n s'' hr
    |ret v h=>
     obtain ⟨c',h1,h2⟩:=hQ v h (hret n v h hr)
     simp only [Option.bind_some,Go.Am.under,h1,Option.map_some,Option.some.injEq,Res.go.injEq] at hs'
     subst hs'
     exact h2
end
end Go.Am
namespace Go.Am
open Go.Ren (grow EvO Guar Rely)
def Tr.map{α β:Type}(f:α→β):Tr α→Tr β
 | .nil=>.nil
 | .node l v r=>.node (l.map f) (v.map f) (r.map f)
theorem Tr.get_map{α β:Type}(f:α→β):∀(t:Tr α) (n:Nat),(t.map f).get n=(t.get n).map f
 | .nil,n=>rfl
 | .node l v r,0=>rfl
 | .node l v r,n+1=>by
   simp only [Tr.map,Tr.get_succ,Tr.left,Tr.right]
   split
   ·exact Tr.get_map f l _
   ·exact Tr.get_map f r _
def AH.shared(h:AH):AH:={ h with tr:=h.tr.map fun B=>{ B with ro:=true } }
section
variable{P:Program}{ρ σ:Env}{O O' D D':Nat→Prop}{h h':AH}{w w':World}
theorem Rel.sub(r:Rel ρ O D h w)(hn:h.n≤h'.n)
   (hl:∀b B',h'.look b=some B' → ∃B,h.look b=some B∧B'.obj=B.obj∧B'.fam=B.fam∧B'.u=B.u∧(B'.ro=false→B.ro=false∧(O (ρ.to b).1→O' (ρ.to b).1))∧(O (ρ.to b).1∨D (ρ.to b).1→O' (ρ.to b).1∨D' (ρ.to b).1))
   (ht:∀b B',h'.tr.get b=some B' → ∃B,h.tr.get b=some B∧B'.obj=B.obj)
   (hf:∀f l,h'.fams.get f=some l→∃l',h.fams.get f=some l' ∧ l.Sublist l') (hm:∀f l b,h'.fams.get f=some l→b∈l→∃B,h'.tr.get b=some B∧B.fam=some f):Rel ρ O' D' h' w:=by
 have up:∀b n,h'.upTo ρ b n→h.upTo ρ b n:=by
   rintro b n ⟨B',c,e,f,h1,h2,h3⟩
   obtain ⟨B,k1,k2⟩:=ht b B' h1
   exact ⟨B,c,e,f,k1,k2 ▸ h2,h3⟩
 refine ⟨fun b B c e f hb hk ho=>?_,fun b B hb hk ho=>?_,fun b B hb hk=>?_,fun b b' B B' hb hb' hk hk' hne hs=>?_,fun b hb=>Nat.lt_of_lt_of_le (r.fresh b hb) hn,r.low,fun b B hb hk=>?_,fun f l hfl=>?_,fun f l hfl b hb=>?_⟩
 · obtain ⟨B₀,k1,k2,k3,k4,k5,k6⟩:=hl b B hk
   obtain ⟨C,E,g,c1,c2,c3,c4,c5⟩:=r.cells b B₀ c e f hb k1 (k2 ▸ ho)
   refine ⟨C,E,g,c1,c2,c3,fun hn=>c4 fun hp=>hn ⟨k3.trans hp.1,?_,k4.trans hp.2.2⟩,c5⟩
   cases hr:B.ro with
   |true=>rfl
   |false=>exact absurd hp.2.1 (by rw [(k5 hr).1];decide)
 · obtain ⟨B₀,k1,k2,k3,k4,k5,k6⟩:=hl b B hk
   obtain ⟨o1,o',o2,o3⟩:=r.obj b B₀ hb k1 (k2 ▸ ho)
   exact ⟨o1,o',o2,by rw [k2];exact o3⟩
 · obtain ⟨B₀,k1,k2,k3,k4,k5,k6⟩:=hl b B hk
   obtain ⟨o1,o2⟩:=r.own b B₀ hb k1
   exact ⟨fun z=>(k5 z).2 (o1 (k5 z).1),k6 o2⟩
 · obtain ⟨B₀,k1,_,k3,k4,k5,_⟩:=hl b B hk
   obtain ⟨B₁,j1,_,j3,j4,j5,_⟩:=hl b' B' hk'
   rcases r.sep b b' B₀ B₁ hb hb' k1 j1 hne hs with ⟨f,g1,g2⟩|⟨⟨g1,g2,g3⟩,i1,i2,i3⟩
   ·exact .inl ⟨f,k3.trans g1,j3.trans g2⟩
   ·refine .inr ⟨⟨k3.trans g1,?_,k4.trans g3⟩,j3.trans i1,?_,j4.trans i3⟩
    ·cases e:B.ro with
     |true=>rfl
     |false=>rw [(k5 e).1] at g2;cases g2
    ·cases e:B'.ro with
     |true=>rfl
     |false=>rw [(j5 e).1] at i2;cases i2
 · obtain ⟨B₀,k1,_,k3,k4,_⟩:=hl b B hk
   obtain ⟨s1,s2⟩:=r.slack b B₀ hb k1
   exact ⟨s1.trans (by rw [k3]),fun z=>(s2 (k3 ▸ z)).trans k4.symm⟩
 · obtain ⟨l',g1,g2⟩:=hf f l hfl
   exact ((r.row f l' g1).sublist g2).imp fun hp b1 b2 hs n n' u1 u2=>hp b1 b2 hs n n' (up _ _ u1) (up _ _ u2)
 · obtain ⟨l',g1,g2⟩:=hf f l hfl
   exact ⟨Nat.lt_of_lt_of_le (r.mem f l' g1 b (g2.subset hb)).1 hn,hm f l b hfl hb⟩
theorem shared_tr(b:Nat):h.shared.tr.get b=(h.tr.get b).map fun B=>{ B with ro:=true }:=Tr.get_map _ _ _
theorem look_shared{b:Nat}:h.shared.look b=(h.look b).map fun B=>{ B with ro:=true }:=by
 unfold AH.look
 rw [shared_tr]
 cases h.tr.get b with
 | none=>rfl
 | some B=>
   obtain ⟨o,fam,ro,u⟩:=B
   cases fam with
   |none=>rfl
   |some f=>
    simp only [Option.map_some]
    show (if ((h.fams.get f).getD []).contains b then _ else _)=_
    split<;>rfl
theorem Rel.share(r:Rel ρ O D h w)(hD:∀b,O b∨D b→O' b∨D' b):Rel ρ O' D' h.shared w:=by
 refine r.sub (Nat.le_refl _) (fun b B' hk=>?_) (fun b B' hk=>?_) (fun f l hfl=>⟨l,hfl,List.Sublist.refl _⟩) (fun f l b hfl hb=>?_)
 · rw [look_shared] at hk
   simp only [Option.map_eq_some_iff] at hk
   obtain ⟨B,k1,rfl⟩:=hk
   exact ⟨B,k1,rfl,rfl,rfl,fun z=>(by cases z),hD _⟩
 · rw [shared_tr] at hk
   simp only [Option.map_eq_some_iff] at hk
   obtain ⟨B,k1,rfl⟩:=hk
   exact ⟨B,k1,rfl⟩
 · obtain ⟨m1,B,m2,m3⟩:=r.mem f l hfl b hb
   exact ⟨{ B with ro:=true },by rw [shared_tr,m2];rfl,m3⟩
end
end Go.Am
namespace Go.Am
open Go.Ren (grow EvO Guar Rely Wk)
section
variable{P:Program}{ρ σ:Env}{O D:Nat→Prop}{h h':AH}{w w':World}{X:Event→Prop}{m:Bool}{base cs:List Frame}{I:World→Prop}{pl:Plan}
 {lo:Nat} {ops:Array Oper} {c:List Nat} {i:Nat} {l:List (Nat×List Nat)}
structure AtOp(P:Program)(ρ:Env)(lo:Nat)(s₀:AS)(ops:Array Oper)(i:Nat)(f:Frame)(cs:List Frame)(O D:Nat→Prop)(w:World):Prop where
 bound:lo≤s₀.h.n
 fs:FSt ρ lo s₀.h.n s₀.fr f
 run:f.mode = .run
 todo:∃s' k',f.todo = .inRegion ops (i :: s') :: k'
 ops_r:∀o,ops[i]? = some o→operOk o=true→∀x∈o.op.operands,VR ρ (aeval s₀.fr.tmps x) (f.eval x)
 wanted:∀o,ops[i]? = some o→Region.wanted o (yielded ops f.tmps)=Region.wanted o (yielded ops s₀.fr.tmps)
 stk:Stk ρ lo s₀.cs cs
 rel:Rel ρ O D s₀.h w
theorem catch_wk[Zeros P]{s₀:AS}(hk:kindAt ops i = .effect)(hlo:lo≤s₀.h.n):∀(s:List Nat) {ρ:Env} {f:Frame} {O:Nat→Prop} {w:World},FD ρ lo s₀.h.n ops ((i,c) :: l) s s₀.fr f→Eqs P s₀.h ops ((i,c) :: l) s s₀.fr.tmps→Stk ρ lo s₀.cs cs→Rel ρ O D s₀.h w →
   Wk P m I X D (fun O' g' w'=>∃(σ:Env) (f':Frame),ρ.Le σ∧g' = gor f' (cs ++ base)∧AtOp P σ lo s₀ ops i f' cs O' D w') O (gor f (cs ++ base)) w:=by
 intro s
 induction s with
 | nil=>intro ρ f O w k e hcs rel;exact absurd (k.sub i (by simp [ix_cons])) (by simp)
 | cons j s ih=>
   intro ρ f O w k e hcs rel
   obtain ⟨o1,o2,o3,o4,o5,o6⟩:=ord_cons k.ord
   by_cases hj:j=i
   ·subst hj
    obtain ⟨k1,k2,t1,t2,hl⟩:=k.todo
    exact .stop ⟨ρ,f,.refl ρ,rfl,hlo,.ahead k hk,k.mode,⟨s,k2,t2⟩,fun o ho hok=>k.ops_r ho hok,fun o ho=>k.wanted_r ho,hcs,rel⟩
   ·have hn:j∉ix ((i,c) :: l):=fun hm=>by
     have hm':j∈ix l:=(List.mem_cons.1 hm).resolve_left hj
     exact k.head_r (o4 hk j hm') (k.sub i (by simp [ix_cons]))
    refine Wk.mk rfl fun w₁ hr _=>?_
    obtain ⟨τ,f',w',es,h1,h2,h3,h4,h5,h6⟩:=lag_step (X:=X) (m:=m) (cs:=cs ++ base) (rel.rely hr) k hn (e j (by simp) hn)
    refine ⟨gor f' (cs ++ base),w',es,h1,h2,(ih h5 (fun j' hj'=>e j' (List.mem_cons_of_mem _ hj')) (hcs.mono h3 (fun x hx hb=>(h4 x hb).elim id fun hal=>?_) (Nat.le_refl _)) h6).mono fun _ _ _ z=>?_⟩
    ·have:=(k.bd j (by simp) hn x hal).1
     omega
    ·obtain ⟨σ,f'',z1,z2,z3⟩:=z
     exact ⟨σ,f'',h3.trans z1,z2,z3⟩
theorem atop_wk[Zeros P]{s₀:AS}{g:Goroutine}(S:Sim P ρ O D base s₀ g w)(hrun:s₀.fr.ret=false)(ht:(∃k,s₀.fr.todo = .drawn ops ((i,c) :: l) :: k∧kindAt ops i = .effect)∨∃l k,s₀.fr.todo = .region ops (i :: l) :: k) :
   Wk P m I X D (fun O' g' w'=>∃(σ:Env) (lo:Nat) (f':Frame) (cs:List Frame),ρ.Le σ∧g' = gor f' (cs ++ base)∧AtOp P σ lo s₀ ops i f' cs O' D w') O g w:=by
 obtain ⟨⟨lo,f,cs,hlo,rfl,hf,hcs⟩,rel⟩:=S
 cases hf with
 | plain hf=>
   rcases ht with ⟨k,ht,_⟩|⟨l,k,ht⟩
   ·have:=hf.todo
    rw [ht] at this
    generalize f.todo=z at this
    cases this with
    |cons hi _=>cases hi
   ·have htd:=hf.todo
    rw [ht] at htd
    obtain ⟨s',k',htf⟩:∃s' k',f.todo = .inRegion ops (i :: s') :: k' :=by
     generalize f.todo=z at htd
     cases htd with
     | @cons _ y _ ys hi hl=>
      cases hi
      exact ⟨l,ys,rfl⟩
    have hmode:f.mode = .run:=by have:=hf.mode;rw [hrun] at this;exact this
    exact .stop ⟨ρ,lo,f,cs,.refl ρ,rfl,hlo,.plain hf,hmode,⟨s',k',htf⟩,fun o ho hok=>eval_of hf.tmps hok,fun o ho=>by rw [yielded_r hf.tmps],hcs,rel⟩
 | @ahead ops' l' s' k e=>
   obtain ⟨k1,k2,t1,t2,hl⟩:=k.todo
   rcases ht with ⟨kk,ht,hk⟩|⟨l,kk,ht⟩
   ·rw [t1] at ht
    cases ht
    refine (catch_wk (base:=base) hk hlo s' k e hcs rel).mono fun O' g' w' hz=>?_
    obtain ⟨σ,f',z1,z2,z3⟩:=hz
    exact ⟨σ,lo,f',cs,z1,z2,z3⟩
   ·rw [t1] at ht
    cases ht
theorem AtOp.finish{s₀:AS}{f:Frame}(k:AtOp P ρ lo s₀ ops i f cs O D w){v v':Value}{O':Nat→Prop}(hle:ρ.Le σ)(hb:∀x,x < s₀.h.n→σ.born x→ρ.born x)(hn:s₀.h.n≤h'.n)(hv:VR σ v v')(hr:Rel σ O' D h' w'){a':AFr}(e:afinish P s₀.fr h' v=some a') :
   Sim P σ O' D base ⟨a',s₀.cs,h'⟩ (gor (f.finish v') (cs ++ base)) w' :=
 ⟨⟨lo,_,cs,Nat.le_trans k.bound hn,rfl,finish_S (k.fs.mono hle hb hn) (Nat.le_refl _) hv e,k.stk.mono hle (fun x hx=>hb x (Nat.lt_of_lt_of_le hx k.bound)) (Nat.le_refl _)⟩,hr⟩
end
end Go.Am
