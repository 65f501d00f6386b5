import Derived.Test.YtgfjlblikffnaaaGreatH5
set_option linter.unusedVariables false
set_option linter.unusedSectionVars false
set_option linter.unusedSimpArgs false
namespace Go.Am
open Go.Ren (grow fM aO az)
section
variable{P:Program}{ρ σ:Env}{O D:Nat→Prop}{h h':AH}{w w':World}{X:Event→Prop}{m:Bool}{base:List Frame}
theorem dm{f:Frame}{cs:List Frame}(hm:f.mode = .run):stepG P m (cO f cs) w=stepG.exec P m true f cs none w:=by
 unfold stepG cO
 dsimp only
 rw [hm]
theorem stepG_ret{f:Frame}{cs:List Frame}(hm:f.mode = .returning):stepG P m (cO f cs) w=unwind P m f cs none w:=by
 unfold stepG cO
 dsimp only
 rw [hm]
theorem vk{α β:Type}{R:Env→α→β→Prop}{s':Sem β}{x:α}(k:Out P X D R ρ O h w s' x h')(fn:FuncId):∃(τ:Env) (y:β) (w':World) (es:Array Event),s'.runT P w #[]=(.ok y w',es)∧aO X O D w w' (seen P fn es)∧ρ.Le τ∧R τ x y∧Rel τ (grow O w w') D h' w' ∧ h.n≤h'.n∧∀x,x < h.n→τ.born x→ρ.born x:=by
 obtain ⟨τ,y,w',es,h1,h2,h3,h4,h5,h6,h7⟩:=k
 exact ⟨τ,y,w',es,by have:=h1 #[];simpa using this,h5.less (qx fn es),h2,h3,h4,h6,fun x hx hx'=>((h7 x).1 hx').elim id fun y=>by omega⟩
theorem uJ(es:Array Event)(g:Goroutine)(w:World):GStep.after es (.go g w) = .go g w es:=by simp [GStep.after]
theorem rq{s:AS}{f:Frame}{cs:List Frame}{jump:Option Code}{r:uY}{lo:Nat}(hf:F0 ρ s.fr f)(hlo:lo≤s.h.n)(hcs:Cb ρ lo s.cs cs)(rel:Rel ρ O D s.h w)
   (hst:stepG.exec P m true f (cs ++ base) none w=(match f.roundOf with
    |none=>if jump matches none|some .ret then .go (cO { f with mode:=.returning } (cs ++ base)) w else .ended (.stuck "exit, goto: no such block or label" (f.pos P)) w
    |some l=>let (r,es):=(Instr.endRound l jump).runT P w #[]
     GStep.after (seen P f.fn es) (match r with
     | .ok v w=>doReturn P m f (cs ++ base) none v w
     | .halt _ w=>.ended (.stuck "range over a function: no such loop" (f.pos P)) w))) (hb:Has base r) (e:lJ P s jump=some r) (hm:f.mode = .run) :
   sQ P m X ρ O D base (cO f (cs ++ base)) w r:=by
 unfold lJ at e
 have hr:=hf.round
 obtain ⟨fn,tmps,todo,defers,mode,kind,ro⟩:=f
 cases har:s.fr.round with
 | none=>
   rw [har] at e hr
   cases ro with
   |some l=>cases hr
   |none=>
    dsimp only at e hst
    have key:(jump=none∨jump=some .ret)→stepG P m (cO ⟨fn,tmps,todo,defers,mode,kind,none⟩ (cs ++ base)) w = .go (cO ⟨fn,tmps,todo,defers,.returning,kind,none⟩ (cs ++ base)) w #[]:=by
     intro hj
     rw [dm hm,hst]
     rcases hj with rfl|rfl<;>rfl
    have fin:(jump=none∨jump=some .ret)→r = .go { s with fr:={ s.fr with ret:=true } }→sQ P m X ρ O D base (cO ⟨fn,tmps,todo,defers,mode,kind,none⟩ (cs ++ base)) w r:=by
     intro hj hr'
     subst hr'
     exact ⟨ρ,_,w,#[],key hj,.none w,.refl ρ,⟨⟨lo,_,cs,hlo,rfl,.plain ⟨⟨hf.fn,hf.defers,rfl,hf.kind,by simp only [har];exact .none⟩,hf.tmps,hf.todo⟩,hcs⟩,rel.grow⟩⟩
    split at e
    ·exact fin (.inl rfl) (by cases e;rfl)
    ·exact fin (.inr rfl) (by cases e;rfl)
    ·cases e
 | some l=>
   rw [har] at e hr
   cases hr with
   | @some _ l' hl=>
    dsimp only at e hst
    split at e
    ·rename_i v h₁ har'
     obtain ⟨τ,v',w',es,h1,h2,h3,h4,h5,h8,h9⟩:=vk (X:=X) ((Jp jump hl).uQ rel har') fn
     rw [h1] at hst
     dsimp only at hst
     obtain ⟨hdk,e⟩:=OM e
     obtain ⟨g',h6,h7⟩:=zF (P:=P) (m:=m) (base:=base) (f:=⟨fn,tmps,todo,defers,mode,kind,some l'⟩) (hf.normal hdk) (Nat.le_trans hlo h8) (hcs.mono h3 (fun x hx=>h9 x (by omega)) (Nat.le_refl _)) h4 h5 hb e
     rw [h6,uJ] at hst
     exact ⟨τ,g',w',_,by rw [dm hm,hst],h2,h3,h7⟩
    ·cases e
theorem ja{s:AS}{f:Frame}{cs:List Frame}{k:List aK}{k':List Item}{r:uY}{lo:Nat}(hf:F0 ρ s.fr f)(hlo:lo≤s.h.n)(hcs:Cb ρ lo s.cs cs)(rel:Rel ρ O D s.h w)(hm:f.mode = .run)(e:BZ s k=some r)(hk:LR (xR ρ) k k')
   (hst:stepG.exec P m true f (cs ++ base) none w = .go (cO { f with todo:=k' } (cs ++ base)) w #[]):sQ P m X ρ O D base (cO f (cs ++ base)) w r:=by
 simp only [BZ,Option.some.injEq] at e
 subst e
 exact ctl (by rw [dm hm,hst]) (hf.Jn hk) hlo hcs rel
theorem LR.append{α β:Type}{R:α→β→Prop}{l m:List α}{l' m':List β}(h:LR R l l')(k:LR R m m'):LR R (l ++ m) (l' ++ m'):=by
 induction h with
 | nil=>exact k
 | cons h _ ih=>exact .cons h ih
theorem Hz{α β:Type}(s:Sem α)(y:β):∀(c:Option Nat) (h:AH) {x:α} {h':AH},s.ar P c h=some (x,h')→(s.bind fun _=>Sem.pure y).ar P c h=some (y,h'):=by
 induction s with
 | pure a=>intro c h x h' e;simp only [Sem.ar,Option.some.injEq,Prod.mk.injEq] at e;obtain ⟨_,rfl⟩:=e;rfl
 | load m a k ih=>
   intro c h x h' e
   simp only [Sem.bind]
   rw [Sem.ar.eq_def] at e ⊢
   dsimp only at e ⊢
   split at e
   ·exact ih _ _ _ e
   ·cases e
 | store m a v k ih=>
   intro c h x h' e
   simp only [Sem.bind]
   cases v<;>cases m<;>simp only [Sem.ar] at e ⊢<;>first|(cases e;done)|skip
   all_goals
    split at e
    ·exact ih _ _ e
    ·cases e
 | new o k ih=>
   intro c h x h' e
   simp only [Sem.bind]
   simp only [Sem.ar] at e ⊢
   split at e<;>first|exact ih _ _ _ e|cases e
 | shape r k ih=>
   intro c h x h' e
   simp only [Sem.bind]
   simp only [Sem.ar] at e ⊢
   split at e
   ·exact ih _ _ _ e
   ·exact ih _ _ _ e
   ·cases e
 | getObj r k ih=>
   intro c h x h' e
   simp only [Sem.bind]
   simp only [Sem.ar] at e ⊢
   split at e
   ·cases e
   ·exact ih _ _ _ e
   ·cases e
 | setObj r o k ih=>
   intro c h x h' e
   simp only [Sem.bind]
   simp only [Sem.ar] at e ⊢
   split at e
   ·cases e
   ·cases e
   ·split at e
    ·cases e
    ·rename_i hro;rw [if_neg hro];exact ih _ _ e
   ·cases e
 | choose q k ih=>
   intro c h x h' e
   simp only [Sem.bind]
   rw [Sem.ar.eq_def] at e ⊢
   dsimp only at e ⊢
   split at e
   ·rename_i hq;first|exact ih _ _ _ e|(rw [if_pos hq];exact ih _ _ _ e)
   ·rename_i hq
    try rw [if_neg hq]
    split at e
    ·exact ih _ _ _ e
    ·cases e
 | program k ih=>intro c h x h' e;exact ih _ _ _ e
 | _=>intro c h x h' e;cases e
theorem Jm.mono{O':Nat→Prop}{r:uY}{g:Goroutine}(k:Jm P ρ O D base r g w)(hO:∀x,O x→O' x):Jm P ρ O' D base r g w:=by
 cases r with
 | go s=>exact ⟨k.run,k.rel.mono hO⟩
 | ret v h=>obtain ⟨b,bs,v',h0,h1,h2,h3⟩:=k;exact ⟨b,bs,v',h0,h1,h2,h3.mono hO⟩
theorem Um{ops:Array Oper}{l:List (Nat×List Nat)}{a:aF}{f:Frame}{lo:Nat}{k:List aK}{k':List Item}(hp:Ho ops l=true)(hrun:a.ret=false)(hf:FB ρ a f)(ht:AR (VR ρ) a.tmps f.tmps)(hl:LR (xR ρ) k k')(t:Nat) :
   FT P ρ lo h { a with todo:=.drawn ops l :: k } { f with todo:=.inRegion ops (Region.schedule true ops t) :: k' }:=by
 unfold Ho at hp
 simp only [Bool.and_eq_true] at hp
 obtain ⟨⟨h1,h2⟩,h3⟩:=hp
 have hall:∀i,i < ops.size→i∈ix l:=fun i hi=>iy.1 (List.all_eq_true.1 h2 i (by simpa using hi))
 obtain ⟨s1,s2⟩:=Hf (jV h1) t
 have hnone:∀i∈Region.schedule true ops t,i∉ix l→False:=fun i hi hn=>hn (hall i ((s2 i).1 hi))
 refine .ahead (ops:=ops) (l:=l) (s:=Region.schedule true ops t) ⟨⟨hf.fn,hf.defers,hf.mode,hf.kind,hf.round⟩,hrun,⟨k,k',rfl,rfl,hl⟩,h1,h3,s1,fun i j hi hn=>absurd ((s2 i).2 hi) hn,fun i hi=>(s2 i).1 hi,fun i hi=>(s2 i).2 (Uj h3 i hi),fun i hi hn=>absurd (hall i hi) hn,fun i hi hn=>(hnone i hi hn).elim,ht.1,fun t _=>ht.get t,fun i hi hn=>(hnone i hi hn).elim,fun i hi hn=>(hnone i hi hn).elim⟩ fun i hi hn=>(hnone i hi hn).elim
theorem step_plain[aI P]{pl:bz}{s:AS}{f:Frame}{cs:List Frame}{lo:Nat}(hlo:lo≤s.h.n)(hf:F0 ρ s.fr f)(hcs:Cb ρ lo s.cs cs)(rel:Rel ρ O D s.h w):∃c:Nat,∀r,ax P pl (some c) s=some r→Has base r→sQ P m X ρ O D base (cO f (cs ++ base)) w r:=by
 obtain ⟨o,ho⟩:∃o:Option Oper,∀ops i l k,s.fr.todo = .region ops (i :: l) :: k→o=ops[i]? :=by
   by_cases h:∃ops i l k,s.fr.todo = .region ops (i :: l) :: k
   ·obtain ⟨ops,i,l,k,h⟩:=h
    exact ⟨ops[i]?,fun ops' i' l' k' h'=>by rw [h] at h';cases h';rfl⟩
   ·exact ⟨none,fun ops i l k h'=>absurd ⟨ops,i,l,k,h'⟩ h⟩
 obtain ⟨c,hc⟩:∃c:Nat,∀o',o=some o' → ∀ {n:Next} {h':AH},bC P (some c) s.h s.fr.tmps o' = some (n,h')→Out P X D NR ρ O s.h w (execOp f.eval o') n h' :=by
   cases o with
   |none=>exact ⟨0,fun o' h=>by cases h⟩
   |some o=>
    obtain ⟨c,k⟩:=Ce (X:=X) (P:=P) rel (o:=o) (fun hk=>OL hf.tmps hk)
    refine ⟨c,fun o' h'=>?_⟩
    cases h'
    intro n h' e
    exact k e
 refine ⟨c,fun r e hb=>?_⟩
 generalize hc₀:c=c₀ at e
 subst hc₀
 unfold ax at e
 have hmode:=hf.mode
 have fJ:=hf.round
 have htodo:=hf.todo
 cases hret:s.fr.ret with
 | true=>
   rw [hret] at e hmode
   have hm:f.mode = .returning:=hmode
   dsimp only at e
   unfold kZ at e
   have hd:=hf.defers
   obtain ⟨fn,tmps,todo,defers,mode,kind,ro⟩:=f
   dsimp only at hd hm
   subst hm
   split at e
   ·rename_i lb args ds hdef
    rw [hdef] at hd
    cases hd with
    | @cons _ d' _ ds' hdd hds=>
     obtain ⟨ht,ha⟩:=hdd
     obtain ⟨tg,args'⟩:=d'
     dsimp only at ht ha
     cases ht with
     | @collected _ lb' hlb=>
      split at e
      ·rename_i calls h₁ hx
       cases e
       obtain ⟨τ,calls',w',es,h1,h2,h3,h4,h5,h8,h9⟩:=vk (X:=X) ((xq hlb).uQ rel hx) fn
       refine ⟨τ,cO ⟨fn,tmps,todo,calls' ++ ds',.returning,kind,ro⟩ (cs ++ base),w',seen P fn es,?_,h2,h3,⟨⟨lo,_,cs,Nat.le_trans hlo h8,rfl,.plain ?_,hcs.mono h3 (fun x hx=>h9 x (by omega)) (Nat.le_refl _)⟩,h5⟩⟩
       ·rw [stepG_ret rfl]
        simp only [unwind,h1]
        rw [uJ]
        rfl
       ·have hf' :=hf.mono h3
        exact ⟨⟨hf'.fn,h4.append (hds.mono fun _ _ x=>x.mono h3),hf'.mode,hf'.kind,hf'.round⟩,hf'.tmps,hf'.todo⟩
      ·cases e
   ·cases e
   ·rename_i hdef
    rw [hdef] at hd
    cases hd
    split at e
    ·cases e
    ·rename_i fd hfd
     split at e
     ·rename_i v h₁ hx
      obtain ⟨τ,v',w',es,h1,h2,h3,h4,h5,h8,h9⟩:=vk (X:=X) ((yM fd hf.tmps).uQ rel hx) fn
      obtain ⟨hdk,e⟩:=OM e
      obtain ⟨g',h6,h7⟩:=zF (P:=P) (m:=m) (base:=base) (f:=⟨fn,tmps,todo,[],.returning,kind,ro⟩) (hf.normal hdk) (Nat.le_trans hlo h8) (hcs.mono h3 (fun x hx=>h9 x (by omega)) (Nat.le_refl _)) h4 h5 hb e
      refine ⟨τ,g',w',seen P fn es,?_,h2,h3,h7⟩
      have hfn:fn=s.fr.fn:=hf.fn
      rw [stepG_ret rfl]
      simp only [unwind,hfn,hfd]
      dsimp only at h1
      rw [h1]
      dsimp only
      rw [hfn] at h6
      rw [h6,uJ]
     ·cases e
 | false=>
   rw [hret] at e hmode
   have hm:f.mode = .run:=hmode
   dsimp only at e
   obtain ⟨fn,tmps,todo,defers,mode,kind,ro⟩:=f
   dsimp only at htodo fJ hm
   subst hm
   cases ht:s.fr.todo with
   |nil=>
    rw [ht] at e htodo
    cases htodo
    exact rq hf hlo hcs rel (hb:=hb) (by simp only [stepG.exec];cases ro<;>rfl) e rfl
   |cons it k=>
    rw [ht] at e htodo
    cases htodo with
    | @cons _ it' _ k' hi hl=>
     cases hi with
     |inBlock id=>exact ja hf hlo hcs rel rfl e hl (by simp only [stepG.exec];rfl)
     |inScope x=>exact ja hf hlo hcs rel rfl e hl (by simp only [stepG.exec];rfl)
     |inLoop x=>exact ja hf hlo hcs rel rfl e (.cons (.code _) (.cons (.inLoop _) hl)) (by simp only [stepG.exec];rfl)
     |code x=>
      cases x with
      |ret=>exact rq hf hlo hcs rel (hb:=hb) (by simp only [stepG.exec];cases ro<;>rfl) e rfl
      |skip=>exact ja hf hlo hcs rel rfl e hl (by simp only [stepG.exec];rfl)
      |label l=>exact ja hf hlo hcs rel rfl e hl (by simp only [stepG.exec];rfl)
      |seq x y=>exact ja hf hlo hcs rel rfl e (.cons (.code _) (.cons (.code _) hl)) (by simp only [stepG.exec];rfl)
      |block id x=>exact ja hf hlo hcs rel rfl e (.cons (.code _) (.cons (.inBlock _) hl)) (by simp only [stepG.exec];rfl)
      |loop x=>exact ja hf hlo hcs rel rfl e (.cons (.code _) (.cons (.inLoop _) hl)) (by simp only [stepG.exec];rfl)
      |scope x=>exact ja hf hlo hcs rel rfl e (.cons (.code _) (.cons (.inScope _) hl)) (by simp only [stepG.exec];rfl)
      |cond x a b'=>
       dsimp only at e
       split at e
       ·rename_i hk
        have hv:=Ul hf.tmps hk
        split at e
        ·rename_i t hx
         rw [hx] at hv
         refine ja hf hlo hcs rel rfl e (.cons (.code _) hl) ?_
         simp only [stepG.exec]
         generalize Frame.eval _ x=v at hv
         cases hv
         rfl
        ·cases e
       ·cases e
      |exit id=>
       have hx:=TT hl id
       dsimp only at e
       split at e
       ·rename_i k₁ h₁
        rw [h₁] at hx
        generalize h₂:exitTo id k' = z at hx
        cases hx with
        |some hx=>exact ja hf hlo hcs rel rfl e hx (by simp only [stepG.exec,h₂];rfl)
       ·rename_i h₁
        rw [h₁] at hx
        generalize h₂:exitTo id k' = z at hx
        cases hx
        exact rq hf hlo hcs rel (hb:=hb) (by simp only [stepG.exec,h₂];cases ro<;>rfl) e rfl
      |goto l=>
       have hx:=TU hl l
       dsimp only at e
       split at e
       ·rename_i k₁ h₁
        rw [h₁] at hx
        generalize h₂:gotoIn l k' = z at hx
        cases hx with
        |some hx=>exact ja hf hlo hcs rel rfl e hx (by simp only [stepG.exec,h₂];rfl)
       ·rename_i h₁
        rw [h₁] at hx
        generalize h₂:gotoIn l k' = z at hx
        cases hx
        exact rq hf hlo hcs rel (hb:=hb) (by simp only [stepG.exec,h₂];cases ro<;>rfl) e rfl
      |region id ops d=>
       cases d with
       |true=>
        dsimp only at e
        split at e
        ·rename_i hp
         simp only [Bool.and_eq_true] at hp
         simp only [BZ,Option.some.injEq] at e
         subst e
         have hst:stepG P m (cO ⟨fn,tmps,.code (.region id ops true) :: k',defers,.run,kind,ro⟩ (cs ++ base)) w = .go (cO ⟨fn,tmps,.inRegion ops (Region.schedule true ops (w.tape w.drawn (.order fn id))) :: k',defers,.run,kind,ro⟩ (cs ++ base)) { w with drawn:=w.drawn+1 } #[]:=by
          rw [dm rfl]
          simp only [stepG.exec,hp.2]
          rfl
         refine ⟨ρ,_,_,#[],hst,rV _,.refl ρ,⟨⟨lo,_,cs,hlo,rfl,?_,hcs⟩,(rel.drawn _).mono fun _=>.inl⟩⟩
         exact Um ((KX _ _).symm.trans hp.1) hret (f:=⟨fn,tmps,.code (.region id ops true) :: k',defers,.run,kind,ro⟩) (a:=s.fr) ⟨hf.fn,hf.defers,hf.mode,hf.kind,hf.round⟩ hf.tmps hl _
        ·cases e
       |false=>exact ja hf hlo hcs rel rfl e (.cons (.region _ _) hl) (by simp only [stepG.exec];rfl)
      |rangeFunc x params assign body=>
       dsimp only at e
       split at e
       ·rename_i hk
        have hv:=Ul hf.tmps hk
        split at e
        ·rename_i gf first captured hx
         split at e
         ·rename_i lp mark h₁ hen
          obtain ⟨τ,y,w₁,es,h1,h2,h3,h4,h5,h8,h9⟩:=vk (X:=X) ((Hy s.fr.fn hf.tmps params assign body fJ).uQ rel hen) fn
          obtain ⟨UF,mark'⟩:=y
          obtain ⟨hlp,ZZ⟩:=h4
          dsimp only at hlp ZZ
          have hf' :=hf.mono h3
          have hcs':Cb τ lo s.cs cs:=hcs.mono h3 (fun x hx=>h9 x (by omega)) (Nat.le_refl _)
          have hfF:F0 τ { s.fr with todo:=.inRangeFunc lp :: k,defers:=mark ++ s.fr.defers } ⟨fn,tmps,.inRangeFunc UF :: k',mark' ++ defers,.run,kind,ro⟩:=
           ⟨⟨hf'.fn,ZZ.append hf'.defers,hf'.mode,hf'.kind,hf'.round⟩,hf'.tmps,.cons (.inRangeFunc hlp) (hl.mono fun _ _ z=>z.mono h3)⟩
          rw [hx] at hv
          have hst:stepG P m (cO ⟨fn,tmps,.code (.rangeFunc x params assign body) :: k',defers,.run,kind,ro⟩ (cs ++ base)) w=GStep.after (seen P fn es) (stepG.apply P true ⟨fn,tmps,.inRangeFunc UF :: k',mark' ++ defers,.run,kind,ro⟩ (cs ++ base) none (do let d ←resolve (Frame.eval ⟨fn,tmps,.code (.rangeFunc x params assign body) :: k',defers,.run,kind,ro⟩) { callee:=.value x,args:=#[.const (.func (.yield UF) #[] #[])],argTypes:=#[] } 0;invoke d.target d.args) w₁):=by
           rw [dm rfl]
           have hfn:s.fr.fn=fn:=hf.fn.symm
           rw [hfn] at h1
           dsimp only at h1
           simp only [stepG.exec,h1]
           rfl
          generalize hfe:Frame.eval ⟨fn,tmps,.code (.rangeFunc x params assign body) :: k',defers,.run,kind,ro⟩ x=v at hv
          cases hv with
          | @func _ _ a₁ a₂ b₁ b₂ hfn hs1 hv1 hs2 hv2=>
           cases hfn
           have hres:(do let d ←resolve (Frame.eval ⟨fn,tmps,.code (.rangeFunc x params assign body) :: k',defers,.run,kind,ro⟩) { callee:=.value x,args:=#[.const (.func (.yield UF) #[] #[])],argTypes:=#[] } 0;invoke d.target d.args:Sem Next)=callFunc gf ((a₂ ++ #[.func (.yield UF) #[] #[]]) ++ b₂):=by
             unfold resolve
             dsimp only
             rw [hfe]
             simp only [List.map_toArray,List.map_cons,List.map_nil]
             rfl
           rw [hres] at hst
           cases har:(callFunc gf ((first ++ #[.func (.yield lp) #[] #[]]) ++ captured)).ar P none h₁ with
           | none=>rw [har] at e;cases e
           | some p=>
             obtain ⟨n,h'⟩:=p
             rw [har] at e
             have hargs:AR (VR τ) ((first ++ #[.func (.yield lp) #[] #[]]) ++ captured) ((a₂ ++ #[.func (.yield UF) #[] #[]]) ++ b₂):=by
              refine AR.append (AR.append ⟨hs1,fun i u v hu hv=>(hv1 i u v hu hv).mono h3⟩ ?_) ⟨hs2,fun i u v hu hv=>(hv2 i u v hu hv).mono h3⟩
              exact AR.empty.push (.func (.yield hlp) rfl (fun i x y h=>by simp at h) rfl (fun i x y h=>by simp at h))
             have k₂:=(lD (P:=P) gf hargs).uQ (X:=X) h5 har
             obtain ⟨υ,g',w',es',i1,i2,i3,i4⟩:=xJ (base:=base) (.plain hfF) (Nat.le_trans hlo h8) hcs' e k₂
             refine ⟨υ,g',w',seen P fn es ++ es',?_,h2.trans i2,h3.trans i3,i4.mono fun z hz=>Go.Ren.rU hz h2.size i2.size⟩
             rw [hst,i1]
             rfl
         ·cases e
        ·cases e
       ·cases e
      |refuse why=>cases e
     |region ops l=>
      cases l with
      |nil=>exact ja hf hlo hcs rel rfl e hl (by simp only [stepG.exec];rfl)
      |cons i l=>
       dsimp only at e
       have ho' :=ho ops i l k ht
       split at e
       ·rename_i o' hoi
        have Zc:o=some o' :=by rw [ho',hoi]
        have hy:=Cc (ops:=ops) hf.tmps
        dsimp only at hy
        split at e
        ·rename_i hw
         have hst:stepG P m (cO ⟨fn,tmps,.inRegion ops (i :: l) :: k',defers,.run,kind,ro⟩ (cs ++ base)) w=stepG.apply P true ⟨fn,tmps,.inRegion ops (i :: l) :: k',defers,.run,kind,ro⟩ (cs ++ base) none (execOp (Frame.eval ⟨fn,tmps,.inRegion ops (i :: l) :: k',defers,.run,kind,ro⟩) o') w:=by
          rw [dm rfl]
          simp only [stepG.exec,hoi,Option.map_some,Option.getD_some]
          rw [hy,if_pos hw]
          simp only [stepG.oper,Frame.oper?,hoi]
          have hnd:∀q,o'.op ≠ .defer q:=by
           cases hx:bC P (some c) s.h s.fr.tmps o' with
           | none=>rw [hx] at e;simp [bK] at e
           | some p=>exact Jq hx
          split
          ·rename_i hdf;exact absurd hdf (hnd _)
          ·rfl
         cases hx:bC P (some c) s.h s.fr.tmps o' with
         |none=>rw [hx] at e;simp [bK] at e
         |some p=>
          obtain ⟨n,h'⟩:=p
          rw [hx] at e
          have k:=hc o' Zc hx
          obtain ⟨τ,g',w',es,h1,h2,h3,h4⟩:=xJ (X:=X) (.plain hf) hlo hcs e k
          exact ⟨τ,g',w',es,by rw [hst,h1],h2,h3,h4⟩
        ·rename_i hw
         simp only [Option.map_eq_some_iff] at e
         obtain ⟨a',e1,rfl⟩:=e
         refine ctl ?_ (uS hf gV e1) hlo hcs rel
         rw [dm rfl]
         simp only [stepG.exec,hoi,Option.map_some,Option.getD_some]
         rw [hy,if_neg hw]
         rfl
       ·cases e
     |inRangeFunc hl'=>cases e
     | @endRangeFunc lp UF hlp=>
      dsimp only at e
      split at e
      ·rename_i jump h₁ hx
       cases e
       obtain ⟨τ,j',w',es,h1,h2,h3,h4,h5,h8,h9⟩:=vk (X:=X) ((Ld hlp).uQ rel hx) fn
       cases h4
       have hst:stepG P m (cO ⟨fn,tmps,.endRangeFunc UF :: k',defers,.run,kind,ro⟩ (cs ++ base)) w = .go (cO ⟨fn,tmps,(jump.map Item.code).toList ++ k',defers,.run,kind,ro⟩ (cs ++ base)) w' (seen P fn es):=by
        rw [dm rfl]
        simp only [stepG.exec,h1]
        rw [uJ]
        rfl
       refine ⟨τ,_,w',_,hst,h2,h3,⟨⟨lo,_,cs,Nat.le_trans hlo h8,rfl,.plain ((hf.mono h3).Jn ?_),hcs.mono h3 (fun x hx=>h9 x (by omega)) (Nat.le_refl _)⟩,h5⟩⟩
       have hl' :=hl.mono fun _ _ (x:xR ρ _ _)=>x.mono h3
       cases jump with
       |none=>exact hl'
       |some c=>exact .cons (.code c) hl'
      ·cases e
     |beginRound=>
      dsimp only at e
      cases har:s.fr.round with
      |none=>rw [har] at e;cases e
      |some lp=>
       rw [har] at e fJ
       cases fJ with
       | @some _ UF hlp=>
        dsimp only at e
        split at e
        ·rename_i u h₁ hx
         cases e
         rw [←har]
         have hout:Out P X D NR ρ O s.h w ((some UF).elim (Go.stuck "beginRound: no round") Instr.beginRound >>= fun _=>Pure.pure Next.skip) Next.skip h₁:=by
          refine (SR.unit (Aq hlp)).uQ rel ?_
          show ((Instr.beginRound lp).bind fun _=>Sem.pure Next.skip).ar P none s.h=_
          exact Hz _ _ _ _ hx
         have e':bK P s.fr s.cs (some (Next.skip,h₁))=some (uY.go { s with fr:={ s.fr with todo:=k },h:=h₁ }):=by
          simp only [bK,au,ht,Option.map_some]
         obtain ⟨τ,g',w',es,h1,h2,h3,h4⟩:=xJ (X:=X) (.plain hf) hlo hcs e' hout
         refine ⟨τ,g',w',es,?_,h2,h3,h4⟩
         rw [dm rfl]
         simp only [stepG.exec]
         exact h1
        ·cases e
end
end Go.Am
namespace Go.Am
open Go.Ren (grow fM aO az Wk)
section
variable{P:Program}{ρ σ:Env}{O D:Nat→Prop}{h h':AH}{w w':World}{X:Event→Prop}{m:Bool}{base cs:List Frame}{I:World→Prop}
 {lo hi i:Nat} {ops:Array Oper} {l:List (Nat×List Nat)} {s:List Nat} {a:aF} {f:Frame} {o:Oper}
theorem bT{k':List Item}(hm:f.mode = .run)(ht:f.todo = .inRegion ops (i :: s) :: k')(ho:ops[i]? = some o)(hw:Region.wanted o (yielded ops f.tmps)=true)(hnd:∀q,o.op ≠ .defer q) :
   stepG P m (cO f cs) w=stepG.apply P true f cs none (execOp f.eval o) w:=by
 rw [dm hm]
 obtain ⟨g,tmps,todo,defers,mode,kind,ro⟩:=f
 dsimp only at ht hw hm
 subst ht
 simp only [stepG.exec,ho,Option.map_some,Option.getD_some]
 rw [hw,if_pos rfl]
 simp only [stepG.oper,Frame.oper?,ho]
 split
 · rename_i hdf;exact absurd hdf (hnd _)
 · rfl
theorem oJ{k':List Item}(hm:f.mode = .run)(ht:f.todo = .inRegion ops (i :: s) :: k')(ho:ops[i]? = some o)(hw:Region.wanted o (yielded ops f.tmps)=false) :
   stepG P m (cO f cs) w = .go (cO (f.finish undef) cs) w #[]:=by
 rw [dm hm]
 obtain ⟨g,tmps,todo,defers,mode,kind,ro⟩:=f
 dsimp only at ht hw hm
 subst ht
 simp only [stepG.exec,ho,Option.map_some,Option.getD_some]
 rw [hw,if_neg (by simp)]
 rfl
theorem AL{e:Operand→Value}{t:TypeId}{z:Value}(hop:o.op = .alloc t)(hz:zeroOf P t=some z) :
   ∀ah,(execOp e o).runT P w ah=(.ok (.value (.pointer (some ⟨w.heap.size,0,none⟩))) { w with heap:=w.heap.push (.cells z.cells t (0,0)) },ah ++ #[]):=by
 intro ah
 unfold zeroOf at hz
 cases hi:P.info? t with
 | none=>rw [hi] at hz;cases hz
 | some inf=>
   rw [hi] at hz
   have hz':inf.zero=some z:=hz
   simp [execOp,hop,Instr.alloc,zeroValue,typeInfo,newVar,newRow,newObj,hi,hz']
   exact ⟨rfl,rfl⟩
theorem QB{e:Operand→Value}{t elem:TypeId}{n:Nat}{ps:Array (Nat×Operand)}{cells:Array Value}(hop:o.op = .buildSlice t n ps)(hb:iw P e t n ps=some (elem,cells)) :
   ∀ah,(execOp e o).runT P w ah=(.ok (.value (.slice (some ⟨w.heap.size,0,none⟩) n n)) { w with heap:=w.heap.push (.cells cells elem (0,0)) },ah ++ #[]):=by
 intro ah
 unfold iw at hb
 split at hb
 rotate_left
 · cases hb
 rename_i el hu
 split at hb
 rotate_left
 · cases hb
 rename_i i hi
 split at hb
 · cases hb
 rename_i hsz
 split at hb
 rotate_left
 · cases hb
 rename_i z hz
 split at hb
 rotate_left
 · cases hb
 rename_i c hf
 cases hb
 have hzz:∀zero:Array Value,(n * i.size=0∨zero=z.cells)→((Array.range (n * i.size)).map fun j=>zero[j % zero.size]!)=(Array.range (n * i.size)).map fun j=>z.cells[j % z.cells.size]! :=by
   rintro zero (h0|rfl)
   ·rw [h0];simp
   ·rfl
 have hex:execOp e o=(Instr.buildSlice t n (ps.map fun p=>(p.1,e p.2))).bind fun v=>Sem.pure (.value v):=by
   unfold execOp
   rw [hop]
   rfl
 rw [hex,Sem.runT_bind']
 have:(Instr.buildSlice t n (ps.map fun p=>(p.1,e p.2))).runT P w ah=(.ok (.slice (some ⟨w.heap.size,0,none⟩) n n) { w with heap:=w.heap.push (.cells cells elem (0,0)) },ah ++ #[]):=by
   unfold Instr.buildSlice
   rw [(oW hu).run]
   dsimp only
   rw [(OI hi).run]
   rw [if_neg hsz]
   by_cases h0:n * i.size=0
   ·rw [if_pos h0,(Pu.aN _).run,hzz _ (.inl h0),hf]
    simp [newRow,newObj,-Sem.runT_eq,Sem.runT,bind,pure,Sem.bind]
   ·rw [if_neg h0,(xx hi hz).run,(Pu.aN _).run,hzz _ (.inr rfl),hf]
    simp [newRow,newObj,-Sem.runT_eq,Sem.runT,bind,pure,Sem.bind]
 rw [this]
 simp only [Sem.runT]
theorem Zd[aI P]{e e':Operand→Value}{t elem:TypeId}{n:Nat}{ps:Array (Nat×Operand)}{cells:Array Value}(hv:∀x∈ps,VR ρ (e x.2) (e' x.2))(hb:iw P e t n ps=some (elem,cells)):∃cells',iw P e' t n ps=some (elem,cells')∧AR (VR ρ) cells cells' :=by
 unfold iw at hb ⊢
 split at hb
 rotate_left
 · cases hb
 rename_i el hu
 split at hb
 rotate_left
 · cases hb
 rename_i i hi
 split at hb
 · cases hb
 rename_i hsz
 split at hb
 rotate_left
 · cases hb
 rename_i z hz
 split at hb
 rotate_left
 · cases hb
 rename_i c hf
 cases hb
 rw [if_neg hsz]
 have hp:=xC (fun j=>some (j * i.size,i.size)) (zu hv) (pG (ρ:=ρ) (fun τ=>aI.zero _ i z hi hz τ) (n * i.size) fun j=>j % z.cells.size)
 replace hp:eF (AR (VR ρ)) (Instr.fill (fun j=>some (j * i.size,i.size)) ((Array.range (n * i.size)).map fun j=>z.cells[j % z.cells.size]!) (ps.map fun p=>(p.1,e p.2)).toList) (Instr.fill (fun j=>some (j * i.size,i.size)) ((Array.range (n * i.size)).map fun j=>z.cells[j % z.cells.size]!) (ps.map fun p=>(p.1,e' p.2)).toList):=hp
 rw [hf] at hp
 generalize Instr.fill _ _ (ps.map fun p=>(p.1,e' p.2)).toList=q at hp ⊢
 cases hp with
 | some k=>exact ⟨_,rfl,k⟩
theorem Jr[aI P](rel:Rel ρ O D h w)(k:FD ρ lo h.n ops l (i :: s) a f)(hn:i∉ix l)(e:EqAt P h ops a.tmps i) :
   ∃(τ:Env) (f':Frame) (w':World) (es:Array Event),stepG P m (cO f cs) w = .go (cO f' cs) w' es∧aO X O D w w' es∧ρ.Le τ∧(∀x,τ.born x→ρ.born x∨dZ ops a.tmps i x)∧FD τ lo h.n ops l s a f' ∧ Rel τ (grow O w w') D h w' :=by
 obtain ⟨k1,k2,t1,t2,hl⟩:=k.todo
 have hm:f.mode = .run:=by have:=k.base.mode;rw [k.run] at this;exact this
 have hkind:=k.base.ne
 cases e with
 | @unwanted o d ho hw hd hv=>
   have hw' :=k.kP ho
   rw [hw] at hw'
   refine ⟨ρ,f.finish undef,w,#[],oJ hm t2 ho hw',.none w,.refl ρ,fun x hx=>.inl hx,?_,rel.grow⟩
   exact k.lag hn (by unfold bG;rw [ho];exact hd) hv gV (.refl ρ) fun x hx=>.inl hx
 | @dS o d v ho hw hk hd hv hlv=>
   have hw' :=k.kP ho
   rw [hw] at hw'
   unfold fZ at hlv
   split at hlv
   ·rename_i hok
    simp only [Bool.and_eq_true] at hok
    split at hlv
    ·rename_i v' har
     cases hlv
     obtain ⟨τ,n',w',es,h1,h2,h3,h4,h5,h6,h7⟩:=(OC rel o (k.kW ho hok.1) hok.2).uQ (X:=X) rel (yw _ har)
     cases h3 with
     | @value _ v' hvr=>
      have hb:∀x,τ.born x→ρ.born x∨dZ ops a.tmps i x:=fun x hx=>((h7 x).1 hx).elim .inl fun y=>by omega
      refine ⟨τ,f.finish v',w',_,?_,h5.less (qx (P:=P) f.fn es),h2,hb,?_,h4⟩
      ·rw [bT hm t2 ho hw' (fun q hq=>by unfold kindOf at hk;rw [hq] at hk;cases hk)]
       exact iK hkind h1
      ·exact k.lag hn (by unfold bG;rw [ho];exact hd) hv hvr h2 hb
    ·cases hlv
   ·cases hlv
 | @alloc o d t c z ho hw hd hop hz hv hlk=>
   have hw' :=k.kP ho
   rw [hw] at hw'
   have hdst:bG ops i=some d:=by unfold bG;rw [ho];exact hd
   have hal:dZ ops a.tmps i c:=⟨jU ho (by first|exact .inl ⟨_,hop⟩|exact .inr ⟨_,_,_,hop⟩),by unfold wantedAt;rw [ho];exact hw,d,hdst,by rw [hv];rfl⟩
   obtain ⟨b1,b2,b3⟩:=k.bd i (by simp) hn c hal
   have hnew:QL ρ (.cells z.cells t (0,0)) (.cells z.cells t (0,0)):=by
    refine .cells (kG ?_)
    unfold zeroOf at hz
    cases hi:P.info? t with
    |none=>rw [hi] at hz;cases hz
    |some inf=>rw [hi] at hz;exact aI.zero t inf z hi hz ρ
   have hr:=rel.birth (o' :=.cells z.cells t (0,0)) b3 b2 hlk hnew
   have hle:ρ.Le (ρ.add c (w.heap.size,0) False 1 (oQ (.cells z.cells t (0,0)))):=Env.iC b3
   refine ⟨_,f.finish (.pointer (some ⟨w.heap.size,0,none⟩)),_,_,?_,(lU _).less (qx (P:=P) f.fn #[]),hle,fun x hx=>hx.elim (fun e=>.inr (e ▸ hal)) .inl,?_,hr⟩
   ·rw [bT hm t2 ho hw' (fun q hq=>by rw [hq] at hop;cases hop)]
    exact iK hkind (AL hop hz)
   ·refine k.lag hn hdst hv ?_ hle fun x hx=>hx.elim (fun e=>.inr (e ▸ hal)) .inl
    have:(Value.pointer (some ⟨w.heap.size,0,none⟩)) = .pointer (some ((ρ.add c (w.heap.size,0) False 1 (oQ (.cells z.cells t (0,0)))).addr ⟨c,0,none⟩)):=by
     simp only [Env.addr,bU]
    rw [this]
    exact .ptr (.inl rfl)
 | @built o d t n ps c elem cells ho hw hd hop hok hb hv hlk=>
   have hw' :=k.kP ho
   rw [hw] at hw'
   have hdst:bG ops i=some d:=by unfold bG;rw [ho];exact hd
   have hal:dZ ops a.tmps i c:=⟨jU ho (by first|exact .inl ⟨_,hop⟩|exact .inr ⟨_,_,_,hop⟩),by unfold wantedAt;rw [ho];exact hw,d,hdst,by rw [hv];rfl⟩
   obtain ⟨b1,b2,b3⟩:=k.bd i (by simp) hn c hal
   obtain ⟨cells',hb',hcr⟩:=Zd (fun x hx=>k.kW ho hok x.2 (by rw [hop];simp only [Op.operands,List.mem_toArray,List.mem_map];exact ⟨x,by simpa using hx,rfl⟩)) hb
   have hr:=rel.birth (o' :=.cells cells' elem (0,0)) b3 b2 hlk (.cells hcr)
   have hle:ρ.Le (ρ.add c (w.heap.size,0) False 1 (oQ (.cells cells elem (0,0)))):=Env.iC b3
   refine ⟨_,f.finish (.slice (some ⟨w.heap.size,0,none⟩) n n),_,_,?_,(lU _).less (qx (P:=P) f.fn #[]),hle,fun x hx=>hx.elim (fun e=>.inr (e ▸ hal)) .inl,?_,hr⟩
   ·rw [bT hm t2 ho hw' (fun q hq=>by rw [hq] at hop;cases hop)]
    exact iK hkind (QB hop hb')
   ·refine k.lag hn hdst hv ?_ hle fun x hx=>hx.elim (fun e=>.inr (e ▸ hal)) .inl
    have:(Value.slice (some ⟨w.heap.size,0,none⟩) n n) = .slice (some ((ρ.add c (w.heap.size,0) False 1 (oQ (.cells cells elem (0,0)))).addr ⟨c,0,none⟩)) n n:=by
     simp only [Env.addr,bU]
    rw [this]
    exact .slice (.inl rfl) (.inl rfl)
end
end Go.Am
namespace Go.Am
open Go.Ren (grow fM aO az Wk)
section
variable{P:Program}{ρ σ:Env}{O D:Nat→Prop}{h h':AH}{w w':World}{X:Event→Prop}{m:Bool}{base cs:List Frame}{I:World→Prop}{pl:bz}
 {lo hi i:Nat} {ops:Array Oper} {l:List (Nat×List Nat)} {s:List Nat} {a:aF} {f:Frame} {o:Oper} {d:Tmp} {v:Value} {c:List Nat}
theorem Lh{k':List Item}(hm:f.mode = .run)(ht:f.todo = .inRegion ops [] :: k'):stepG P m (cO f cs) w = .go (cO { f with todo:=k' } cs) w #[]:=by
 rw [dm hm]
 obtain ⟨g,tmps,todo,defers,mode,kind,ro⟩:=f
 dsimp only at ht hm
 subst ht
 simp only [stepG.exec]
 rfl
theorem Lj(k:kindOf o = .alloc):(∃t,o.op = .alloc t)∨∃t n ps,o.op = .buildSlice t n ps:=by
 unfold kindOf at k
 split at k<;>first|exact .inl ⟨_,by assumption⟩|exact .inr ⟨_,_,_,by assumption⟩|cases k
theorem Js(hok:gJ ops=true)(hi:i < ops.size):dep ops ops.size i i=false:=by
 cases h:dep ops ops.size i i with
 | false=>rfl
 | true=>exact absurd (xH hok hi h) (Nat.lt_irrefl _)
theorem FD.mode(k:FD ρ lo hi ops l s a f):f.mode = .run:=by have:=k.base.mode;rw [k.run] at this;exact this
theorem UE.ahead(k:FD ρ lo hi ops ((i,c) :: l) s a f)(hk:aH ops i ≠ .effect)(e:UE P h ops ((i,c) :: l) s a.tmps)(hd:bG ops i=some d)(hi:EqAt P h ops (a.tmps.setIfInBounds d v) i):UE P h ops l s (a.tmps.setIfInBounds d v):=by
 intro j hj hn
 by_cases e':j=i
 · subst e';exact hi
 · have old:j∉ix ((i,c) :: l):=fun h3=>(List.mem_cons.1 h3).elim e' hn
   exact (e j hj old).set k.ok (k.lt j hj) (iZ k.ord).1 hd (k.done j (k.lt j hj) old i (by simp [gK])) e' (.inl hk)
theorem Ll[aI P]{s₀:AS}(k:FD ρ lo s₀.h.n ops ((i,c) :: l) s s₀.fr f)(hk:aH ops i ≠ .effect)(e:UE P s₀.h ops ((i,c) :: l) s s₀.fr.tmps)(hlo:lo≤s₀.h.n)(hcs:Cb ρ lo s₀.cs cs)(rel:Rel ρ O D s₀.h w)
   {n:Nat} {r:uY} (hr:ax P pl (some n) s₀=some r):Jm P ρ O D base r (cO f (cs ++ base)) w:=by
 obtain ⟨k1,k2,t1,t2,hl⟩:=k.todo
 obtain ⟨o1,o2,o3,o4,o5,o6⟩:=iZ k.ord
 unfold ax at hr
 rw [k.run,t1] at hr
 dsimp only at hr
 have hoi:ops[i]? = some ops[i]:=uD o1
 generalize Zc:ops[i]=o at hoi
 rw [hoi] at hr
 dsimp only at hr
 have adM:aH ops i=kindOf o:=Bz hoi hk
 have hkk:kindOf o ≠ .effect:=by rw [←adM];exact hk
 split at hr
 · rename_i hke;exact absurd hke hk
 split at hr
 · cases hr
 rename_i d hd
 have hdst:bG ops i=some d:=by unfold bG;rw [hoi];exact hd
 split at hr
 rotate_left
 · cases hr
 rename_i hsz
 have self:∀v:Value,Region.wanted o (yielded ops (s₀.fr.tmps.setIfInBounds d v))=Region.wanted o (yielded ops s₀.fr.tmps):=fun v=>by
   have:=uF (v:=v) (tm:=s₀.fr.tmps) k.ok o1 o1 hdst (Js k.ok o1)
   unfold wantedAt at this
   rw [hoi] at this
   exact this
 have got:∀v:Value,(s₀.fr.tmps.setIfInBounds d v)[d]? = some v:=fun v=>by rw [Array.getElem?_setIfInBounds,if_pos rfl,if_pos hsz]
 split at hr
 · rename_i hw
   split at hr
   ·rename_i t hop
    split at hr
    ·rename_i z hz
     split at hr
     ·rename_i hre
      cases hr
      have k' :=k.ahead (v:=.pointer (some ⟨s₀.h.n,0,none⟩)) (hi' :=s₀.h.n+1) t1 hk hdst (Nat.le_succ _) hlo (fun x hx=>by
       obtain ⟨_,_,d',hd',hv'⟩:=hx
       rw [hdst] at hd'
       cases hd'
       rw [got] at hv'
       replace hv':some s₀.h.n=some x:=hv'
       cases hv'
       exact ⟨Nat.le_refl _,Nat.lt_succ_self _,fun hb=>Nat.lt_irrefl _ (rel.fresh _ hb)⟩)
      refine ⟨⟨lo,f,cs,Nat.le_succ_of_le hlo,rfl,.ahead (h:=s₀.h.new (.cells z.cells t (0,0))) k' ?_,hcs⟩,rel.push _⟩
      exact k'.eqs k.ord (by rw [jU hoi (by first|exact .inl ⟨_,hop⟩|exact .inr ⟨_,_,_,hop⟩)];exact fun x=>by cases x) hre
     ·cases hr
    ·cases hr
   ·rename_i t n ps hop
    split at hr
    ·rename_i elem cells hb
     split at hr
     ·rename_i hre
      simp only [Bool.and_eq_true] at hre
      cases hr
      have k' :=k.ahead (v:=.slice (some ⟨s₀.h.n,0,none⟩) n n) (hi' :=s₀.h.n+1) t1 hk hdst (Nat.le_succ _) hlo (fun x hx=>by
       obtain ⟨_,_,d',hd',hv'⟩:=hx
       rw [hdst] at hd'
       cases hd'
       rw [got] at hv'
       replace hv':some s₀.h.n=some x:=hv'
       cases hv'
       exact ⟨Nat.le_refl _,Nat.lt_succ_self _,fun hb=>Nat.lt_irrefl _ (rel.fresh _ hb)⟩)
      refine ⟨⟨lo,f,cs,Nat.le_succ_of_le hlo,rfl,.ahead (h:=s₀.h.new (.cells cells elem (0,0))) k' ?_,hcs⟩,rel.push _⟩
      exact k'.eqs k.ord (by rw [jU hoi (by first|exact .inl ⟨_,hop⟩|exact .inr ⟨_,_,_,hop⟩)];exact fun x=>by cases x) hre.2
     ·cases hr
    ·cases hr
   ·rename_i hop afO
    split at hr
    ·rename_i v hlv
     cases hr
     have hkl:kindOf o = .dS:=by
      cases hkd:kindOf o with
      |dS=>rfl
      |effect=>exact absurd hkd hkk
      |alloc=>
       rcases Lj hkd with ⟨t,ht⟩|⟨t,n,ps,ht⟩
       ·exact absurd ht (hop t)
       ·exact absurd ht (afO t n ps)
     have k' :=k.ahead (v:=v) (hi' :=s₀.h.n) t1 hk hdst (Nat.le_refl _) hlo (fun x hx=>by
      have:=hx.1
      rw [adM,hkl] at this
      cases this)
     refine ⟨⟨lo,f,cs,hlo,rfl,.ahead k' (UE.ahead k hk e hdst ?_),hcs⟩,rel⟩
     refine .dS hoi (by rw [self];exact hw) hkl hd (got v) ?_
     rw [qC hkl fun x hx=>BU fun hxd=>?_]
     ·exact hlv
     ·subst hxd
      have:=zB k.ok hoi o1 hx hdst hk
      rw [Js k.ok o1] at this
      cases this
    ·cases hr
 · rename_i hw
   have hw':Region.wanted o (yielded ops s₀.fr.tmps)=false:=by simpa using hw
   cases hr
   have k' :=k.ahead (v:=undef) (hi' :=s₀.h.n) t1 hk hdst (Nat.le_refl _) hlo (fun x hx=>by
    have:=hx.2.1
    unfold wantedAt at this
    rw [hoi] at this
    dsimp only at this
    rw [self,hw'] at this
    cases this)
   refine ⟨⟨lo,f,cs,hlo,rfl,.ahead k' (UE.ahead k hk e hdst ?_),hcs⟩,rel⟩
   exact .unwanted hoi (by rw [self];exact hw') hd (got undef)
theorem Jt[aI P]{s₀:AS}(k:FD ρ lo s₀.h.n ops ((i,c) :: l) (i :: s) s₀.fr f)(hk:aH ops i = .effect)(hlo:lo≤s₀.h.n)(hcs:Cb ρ lo s₀.cs cs)(rel:Rel ρ O D s₀.h w) :
   ∃n:Nat,∀r,ax P pl (some n) s₀=some r→Has base r→sQ P m X ρ O D base (cO f (cs ++ base)) w r:=by
 obtain ⟨k1,k2,t1,t2,hl⟩:=k.todo
 obtain ⟨o1,o2,o3,o4,o5,o6⟩:=iZ k.ord
 have hoi:ops[i]? = some ops[i]:=uD o1
 generalize Zc:ops[i]=o at hoi
 have step:∀n:Nat,ax P pl (some n) s₀=if Region.wanted o (yielded ops s₀.fr.tmps) then bK P s₀.fr s₀.cs (bC P (some n) s₀.h s₀.fr.tmps o) else (au P s₀.fr s₀.h undef).map fun f=>.go { s₀ with fr:=f }:=by
   intro n
   unfold ax
   rw [k.run,t1]
   dsimp only
   rw [hoi]
   dsimp only
   rw [hk]
 have hS:Io ρ lo s₀.h.n s₀.fr f:=.ahead k hk
 cases hw:Region.wanted o (yielded ops s₀.fr.tmps) with
 | false=>
   refine ⟨0,fun r hr _=>?_⟩
   rw [step,hw,if_neg (by simp)] at hr
   simp only [Option.map_eq_some_iff] at hr
   obtain ⟨a',e1,rfl⟩:=hr
   have hw' :=k.kP hoi
   rw [hw] at hw'
   exact ⟨ρ,_,w,#[],oJ k.mode t2 hoi hw',.none w,.refl ρ,⟨⟨lo,_,cs,hlo,rfl,jA hS (Nat.le_refl _) gV e1,hcs⟩,rel.grow⟩⟩
 | true=>
   have hw' :=k.kP hoi
   rw [hw] at hw'
   obtain ⟨n,kk⟩:=Ce (X:=X) (P:=P) rel (o:=o) (k.kW hoi)
   refine ⟨n,fun r hr _=>?_⟩
   rw [step,hw,if_pos rfl] at hr
   cases hx:bC P (some n) s₀.h s₀.fr.tmps o with
   |none=>rw [hx] at hr;simp [bK] at hr
   |some p=>
    obtain ⟨nx,h'⟩:=p
    rw [hx] at hr
    obtain ⟨τ,g',w',es,h1,h2,h3,h4⟩:=xJ (X:=X) (base:=base) hS hlo hcs hr (kk hx)
    refine ⟨τ,g',w',es,?_,h2,h3,h4⟩
    rw [bT k.mode t2 hoi hw' (Jq hx)]
    exact h1
def zG(P:Program)(pl:bz)(ρ:Env)(D:Nat→Prop)(base:List Frame)(s:AS)(O:Nat→Prop)(g:Goroutine)(w:World):Prop:=
 ∃(n:Nat) (r:uY) (σ:Env),ax P pl (some n) s=some r∧ρ.Le σ∧Jm P σ O D base r g w
theorem zG.le(h:ρ.Le σ){s:AS}{g:Goroutine}(k:zG P pl σ D base s O g w):zG P pl ρ D base s O g w:=by
 obtain ⟨n,r,τ,h1,h2,h3⟩:=k
 exact ⟨n,r,τ,h1,h.trans h2,h3⟩
theorem Un{s₀:AS}{g:Goroutine}(hs:g.status = .running)(hne:∀n:Nat,∃r,ax P pl (some n) s₀=some r∧Has base r)(h:∀w₁,az O D w w₁→∃n:Nat,∀r,ax P pl (some n) s₀=some r→Has base r→sQ P m X ρ O D base g w₁ r):Wk P m I X D (zG P pl ρ D base s₀) O g w:=by
 refine Wk.mk hs fun w₁ hr _=>?_
 obtain ⟨n,hn⟩:=h w₁ hr
 obtain ⟨r,hr',hb⟩:=hne n
 obtain ⟨σ,g',w',es,h1,h2,h3,h4⟩:=hn r hr' hb
 exact ⟨g',w',es,h1,h2,.stop ⟨n,r,σ,hr',h3,h4⟩⟩
theorem Uo[aI P]{s₀:AS}(hne:∀n:Nat,∃r,ax P pl (some n) s₀=some r∧Has base r)(hlo:lo≤s₀.h.n):∀(s:List Nat) {ρ:Env} {f:Frame} {O:Nat→Prop} {w:World},FD ρ lo s₀.h.n ops l s s₀.fr f→UE P s₀.h ops l s s₀.fr.tmps→Cb ρ lo s₀.cs cs→Rel ρ O D s₀.h w →
   Wk P m I X D (zG P pl ρ D base s₀) O (cO f (cs ++ base)) w:=by
 intro s
 induction s with
 | nil=>
   intro ρ f O w k e hcs rel
   obtain ⟨k1,k2,t1,t2,hl⟩:=k.todo
   cases l with
   |cons p l=>exact absurd (k.sub p.1 (by simp [ix])) (by simp)
   |nil=>
    refine Un rfl hne fun w₁ hr=>⟨0,fun r hr' _=>?_⟩
    unfold ax at hr'
    rw [k.run,t1] at hr'
    dsimp only at hr'
    simp only [BZ,Option.some.injEq] at hr'
    subst hr'
    refine ctl (a' :={ s₀.fr with todo:=k1 }) (Lh k.mode t2) ⟨⟨k.base.fn,k.base.defers,k.base.mode,k.base.kind,k.base.round⟩,⟨k.size,fun t x y hx hy=>?_⟩,hl⟩ hlo hcs (rel.rely hr)
    have:=k.tmps t fun j hj=>absurd hj (by simp)
    rw [hx] at this
    have hy':f.tmps[t]? = some y:=hy
    rw [hy'] at this
    cases this with
    |some h=>exact h
 | cons i s ih=>
   intro ρ f O w k e hcs rel
   have lag:i∉ix l→Wk P m I X D (zG P pl ρ D base s₀) O (cO f (cs ++ base)) w:=by
    intro hn
    refine Wk.mk rfl fun w₁ hr _=>?_
    obtain ⟨τ,f',w',es,h1,h2,h3,h4,h5,h6⟩:=Jr (X:=X) (m:=m) (cs:=cs ++ base) (rel.rely hr) k hn (e i (by simp) hn)
    refine ⟨cO f' (cs ++ base),w',es,h1,h2,(ih h5 (fun j hj=>e j (List.mem_cons_of_mem _ hj)) (hcs.mono h3 (fun x hx hb=>(h4 x hb).elim id fun hal=>?_) (Nat.le_refl _)) h6).mono fun _ _ _ z=>z.le h3⟩
    have:=(k.bd i (by simp) hn x hal).1
    omega
   cases l with
   |nil=>exact lag (by simp [ix])
   |cons p l=>
    obtain ⟨i₀,c⟩:=p
    obtain ⟨o1,o2,o3,o4,o5,o6⟩:=iZ k.ord
    by_cases hk:aH ops i₀ = .effect
    ·by_cases hi:i=i₀
     ·subst hi
      exact Un rfl hne fun w₁ hr=>Jt k hk hlo hcs (rel.rely hr)
     ·refine lag fun hm=>?_
      have hm':i∈ix l:=(List.mem_cons.1 hm).resolve_left hi
      exact k.Ht (o4 hk i hm') (k.sub i₀ (by simp [gK]))
    ·obtain ⟨r,hr,_⟩:=hne 0
     exact .stop ⟨0,r,ρ,hr,.refl ρ,Ll k hk e hlo hcs rel hr⟩
theorem OQ[aI P]{s:AS}{g:Goroutine}(S:lV P ρ O D base s g w)(hne:∀n:Nat,∃r,ax P pl (some n) s=some r∧Has base r):Wk P m I X D (zG P pl ρ D base s) O g w:=by
 obtain ⟨⟨lo,f,cs,hlo,rfl,hf,hcs⟩,rel⟩:=S
 cases hf with
 | plain hf=>exact Un rfl hne fun w₁ hr=>step_plain hlo hf hcs (rel.rely hr)
 | @ahead ops l s' k e=>exact Uo hne hlo s' k e hcs rel
end
end Go.Am
namespace Go.Am
open Go.Ren (grow fM aO az Wk)
theorem Ze{P:Program}{α:Type}(s:Sem α):∀(h:AH) {x:α×AH},s.ar P none h=some x→∀c,s.ar P c h=some x:=by
 induction s with
 | pure a=>intro h x e c;exact e
 | load m a k ih=>
   intro h x e c
   rw [Sem.ar.eq_def] at e ⊢
   dsimp only at e ⊢
   generalize h.cell a=q at e ⊢
   cases q with
   |none=>cases e
   |some v=>
    cases m with
    |plain=>exact ih v _ e c
    |atomic=>cases e
 | store m a v k ih=>
   intro h x e c
   cases v<;>cases m<;>simp only [Sem.ar] at e ⊢<;>first|(cases e;done)|skip
   all_goals
    generalize h.setCell a _=q at e ⊢
    cases q with
    |none=>cases e
    |some h=>exact ih _ e c
 | new o k ih=>
   intro h x e c
   simp only [Sem.ar] at e ⊢
   split at e<;>first|(cases e;done)|exact ih _ _ e c
 | shape r k ih=>
   intro h x e c
   simp only [Sem.ar] at e ⊢
   generalize h.look r=q at e ⊢
   cases q with
   |none=>cases e
   |some B=>
    obtain ⟨o,f,ro,u⟩:=B
    cases o<;>exact ih _ _ e c
 | getObj r k ih=>
   intro h x e c
   simp only [Sem.ar] at e ⊢
   generalize h.look r=q at e ⊢
   cases q with
   |none=>cases e
   |some B=>
    obtain ⟨o,f,ro,u⟩:=B
    cases o<;>first|(cases e;done)|exact ih _ _ e c
 | setObj r o k ih=>
   intro h x e c
   simp only [Sem.ar] at e ⊢
   generalize h.look r=q at e ⊢
   split at e
   ·cases e
   ·cases e
   ·rename_i B hnc hq
    split at e
    ·cases e
    ·rename_i hro
     rw [if_neg hro]
     exact ih _ e c
   ·cases e
 | choose q k ih=>
   intro h x e c
   rw [Sem.ar.eq_def] at e ⊢
   dsimp only at e ⊢
   split at e
   ·rename_i hq;rw [if_pos hq];exact ih _ _ e c
   ·cases q<;>cases e
 | program k ih=>intro h x e c;exact ih _ _ e c
 | _=>intro h x e c;cases e
section
variable{P:Program}{ρ σ:Env}{O D:Nat→Prop}{h h':AH}{w w':World}{X:Event→Prop}{m:Bool}{b:Frame}{bs:List Frame}{I:World→Prop}{pl:bz}
theorem Lm{tmps:Array Value}{o:Oper}{x:Next×AH}(e:bC P none h tmps o=some x)(c:Option Nat):bC P c h tmps o=some x:=by
 unfold bC at e ⊢
 split
 · rename_i ha;rw [if_pos ha] at e;exact e
 · rename_i ha
   rw [if_neg ha] at e
   split
   ·rename_i hk;rw [if_pos hk] at e;exact Ze _ _ e c
   ·rename_i hk;rw [if_neg hk] at e;cases e
theorem xm{fr:aF}{cs:List aF}{tmps:Array Value}{o:Oper}{r:uY}(e:bK P fr cs (bC P none h tmps o)=some r)(c:Option Nat):bK P fr cs (bC P c h tmps o)=some r:=by
 cases hx:bC P none h tmps o with
 | none=>rw [hx] at e;simp [bK] at e
 | some x=>rw [Lm hx c,←hx];exact e
theorem gy{s:AS}{r:uY}(e:ax P pl none s=some r)(c:Option Nat):ax P pl c s=some r:=by
 unfold ax at e ⊢
 cases hr:s.fr.ret with
 | true=>rw [hr] at e;exact e
 | false=>
   rw [hr] at e
   dsimp only at e ⊢
   cases ht:s.fr.todo with
   |nil=>rw [ht] at e;exact e
   |cons it k=>
    rw [ht] at e
    cases it with
    |region ops l=>
     cases l with
     |nil=>exact e
     |cons i l=>
      dsimp only at e ⊢
      cases ho:ops[i]? with
      |none=>rw [ho] at e;cases e
      |some o=>
       rw [ho] at e
       dsimp only at e ⊢
       split
       ·rename_i hw;rw [if_pos hw] at e;exact xm e c
       ·rename_i hw;rw [if_neg hw] at e;exact e
    |drawn ops l=>
     cases l with
     |nil=>exact e
     |cons p l=>
      obtain ⟨i,again⟩:=p
      dsimp only at e ⊢
      cases ho:ops[i]? with
      |none=>rw [ho] at e;cases e
      |some o=>
       rw [ho] at e
       dsimp only at e ⊢
       cases hk:aH ops i with
       |effect=>
        rw [hk] at e
        dsimp only at e ⊢
        split
        ·rename_i hw;rw [if_pos hw] at e;exact xm e c
        ·rename_i hw;rw [if_neg hw] at e;exact e
       |dS=>rw [hk] at e;exact e
       |alloc=>rw [hk] at e;exact e
    |code x=>exact e
    |inBlock x=>exact e
    |inLoop x=>exact e
    |inScope x=>exact e
    |inRangeFunc x=>exact e
    |endRangeFunc x=>exact e
    |beginRound=>exact e
inductive gW(P:Program)(pl:bz)(Q:Value→AH→Prop):AS→Prop
 | step {s:AS} (hne:∀c:Nat,∃r,ax P pl (some c) s=some r) (hgo:∀(c:Nat) s',ax P pl (some c) s=some (.go s')→gW P pl Q s') (hret:∀(c:Nat) v h,ax P pl (some c) s=some (.ret v h)→Q v h):gW P pl Q s
theorem gW.one{Q:Value→AH→Prop}{s s':AS}(e:ax P pl none s=some (.go s'))(k:gW P pl Q s'):gW P pl Q s:=
 .step (fun c=>⟨_,gy e (some c)⟩) (fun c t ht=>by rw [gy e (some c)] at ht;cases ht;exact k) (fun c v h ht=>by rw [gy e (some c)] at ht;cases ht)
theorem gW.ret{Q:Value→AH→Prop}{s:AS}{v:Value}{h:AH}(e:ax P pl none s=some (.ret v h))(k:Q v h):gW P pl Q s:=
 .step (fun c=>⟨_,gy e (some c)⟩) (fun c t ht=>by rw [gy e (some c)] at ht;cases ht) (fun c v' h' ht=>by rw [gy e (some c)] at ht;cases ht;exact k)
theorem gW.mono{Q R:Value→AH→Prop}{s:AS}(k:gW P pl Q s)(hQ:∀v h,Q v h→R v h):gW P pl R s:=by
 induction k with
 | step hne _ hret ih=>exact .step hne ih fun c v h e=>hQ v h (hret c v h e)
theorem L6[aI P]{Q:Value→AH→Prop}{s:AS}(k:gW P pl Q s):∀ {ρ:Env} {O:Nat→Prop} {g:Goroutine} {w:World},lV P ρ O D (b :: bs) s g w →
   Wk P m I X D (fun O' g' w'=>∃(σ:Env) (v:Value) (h:AH) (v':Value),Q v h∧ρ.Le σ∧VR σ v v' ∧ g' = cO (b.finish v') bs∧Rel σ O' D h w') O g w:=by
 induction k with
 | step hne _ hret ih=>
   intro ρ O g w S
   refine (OQ S fun n=>(hne n).imp fun r hr=>⟨hr,fun _=>by simp⟩).bind fun O' g' w' hd=>?_
   obtain ⟨n,r,σ,h1,h2,h3⟩:=hd
   cases r with
   |ret v h=>
    obtain ⟨b',bs',v',k0,k1,k2,k3⟩:=h3
    cases k0
    exact .stop ⟨σ,v,h,v',hret n v h h1,h2,k1,k2,k3⟩
   |go s'=>
    refine (ih n s' h1 h3).mono fun O'' g'' w'' hs=>?_
    obtain ⟨τ,v,h,v',k1,k2,k3⟩:=hs
    exact ⟨τ,v,h,v',k1,h2.trans k2,k3⟩
inductive bn(P:Program)(pl:bz)(K:AS→Prop):AS→Prop
 | here {s:AS} (h:K s):bn P pl K s
 | step {s:AS} (hne:∀c:Nat,∃s',ax P pl (some c) s=some (.go s')) (hgo:∀(c:Nat) s',ax P pl (some c) s=some (.go s')→bn P pl K s'):bn P pl K s
theorem bn.one{K:AS→Prop}{s s':AS}(e:ax P pl none s=some (.go s'))(k:bn P pl K s'):bn P pl K s:=
 .step (fun c=>⟨_,gy e (some c)⟩) fun c t ht=>by rw [gy e (some c)] at ht;cases ht;exact k
theorem bn.bind{K L:AS→Prop}{s:AS}(h:bn P pl K s)(k:∀s,K s→bn P pl L s):bn P pl L s:=by
 induction h with
 | here h=>exact k _ h
 | step hne _ ih=>exact .step hne ih
theorem jg[aI P]{K:AS→Prop}{s:AS}{base:List Frame}(k:bn P pl K s):∀ {ρ:Env} {O:Nat→Prop} {g:Goroutine} {w:World},lV P ρ O D base s g w →
   Wk P m I X D (fun O' g' w'=>∃(σ:Env) (s':AS),K s' ∧ ρ.Le σ∧lV P σ O' D base s' g' w') O g w:=by
 induction k with
 | here h=>intro ρ O g w S;exact .stop ⟨ρ,_,h,.refl ρ,S⟩
 | @step s hne hgo ih=>
   intro ρ O g w S
   refine (OQ (pl:=pl) S fun n=>(hne n).elim fun s' hs'=>⟨_,hs',fun ⟨v,h,e⟩=>by cases e⟩).bind fun O' g' w' hd=>?_
   obtain ⟨n,r,σ,h1,h2,h3⟩:=hd
   obtain ⟨s',hs'⟩:=hne n
   rw [hs'] at h1
   cases h1
   refine (ih n s' hs' h3).mono fun O'' g'' w'' hz=>?_
   obtain ⟨τ,t,k1,k2,k3⟩:=hz
   exact ⟨τ,t,k1,h2.trans k2,k3⟩
def jG(P:Program)(pl:bz):Nat→AS→Option uY
 | 0,s=>some (.go s)
 | n+1,s=>match ax P pl none s with
   |some (.go s)=>jG P pl n s
   |r=>r
theorem Jb{Q:Value→AH→Prop}:∀(n:Nat) {s:AS} {v:Value} {h:AH},jG P pl n s=some (.ret v h)→Q v h→gW P pl Q s
 | 0,s,v,h,e,_=>by cases e
 | n+1,s,v,h,e,k=>by
   unfold jG at e
   split at e
   ·rename_i s' hs;exact .one hs (Jb n e k)
   ·exact .ret e k
theorem bZ{K:AS→Prop}:∀(n:Nat) {s s':AS},jG P pl n s=some (.go s')→bn P pl K s' → bn P pl K s
 | 0,s,s',e,k=>by cases e;exact k
 | n+1,s,s',e,k=>by
   unfold jG at e
   split at e
   ·rename_i s'' hs;exact .one hs (bZ n e k)
   ·rename_i hr;exact absurd e (hr s')
end
end Go.Am
namespace Go.Am
section
variable{P:Program}{pl:bz}{n:Option Nat}{c fr:aF}{cs cs₁:List aF}{h:AH}
def under(P:Program)(c:aF)(cs:List aF):uY→Option uY
 | .go s=>some (.go ⟨s.fr,s.cs ++ c :: cs,s.h⟩)
 | .ret v h=>(au P c h v).map fun f=>.go ⟨f,cs,h⟩
theorem zH{dk:Bool}(v:Value):rE P dk (cs₁ ++ c :: cs) v h=(rE P dk cs₁ v h).bind (under P c cs):=by
 cases dk with
 | true=>rfl
 | false=>
 cases cs₁ with
 | nil=>rfl
 | cons x cs₁=>
   simp only [List.cons_append,rE,Bool.false_eq_true,if_false]
   cases au P x h v<;>rfl
theorem oz(x:Option (Next×AH)):bK P fr (cs₁ ++ c :: cs) x=(bK P fr cs₁ x).bind (under P c cs):=by
 cases x with
 | none=>rfl
 | some p=>
   obtain ⟨nx,h⟩:=p
   cases nx<;>simp only [bK]<;>first|rfl|skip
   all_goals cases au P fr h _<;>rfl
theorem jW(j:Option Code):lJ P ⟨fr,cs₁ ++ c :: cs,h⟩ j=(lJ P ⟨fr,cs₁,h⟩ j).bind (under P c cs):=by
 unfold lJ
 dsimp only
 cases fr.round with
 | none=>
   dsimp only
   split<;>rfl
 | some l=>
   dsimp only
   cases (Instr.endRound l j).ar P none h with
   |none=>rfl
   |some p=>exact zH p.1
theorem Ar:kZ P ⟨fr,cs₁ ++ c :: cs,h⟩=(kZ P ⟨fr,cs₁,h⟩).bind (under P c cs):=by
 unfold kZ
 dsimp only
 split
 · rename_i b args ds hd
   cases (Instr.takeDeferred b).ar P none h<;>rfl
 · rfl
 · cases P.funcs[fr.fn]? with
   |none=>rfl
   |some fn=>
    dsimp only
    cases (results fn fr.tmps).ar P none h with
    |none=>rfl
    |some p=>exact zH p.1
theorem oZ:ax P pl n ⟨fr,cs₁ ++ c :: cs,h⟩=(ax P pl n ⟨fr,cs₁,h⟩).bind (under P c cs):=by
 unfold ax
 dsimp only
 cases fr.ret with
 | true=>exact Ar
 | false=>
   dsimp only
   cases fr.todo with
   |nil=>exact jW none
   |cons it k=>
    cases it with
    |inBlock x=>rfl
    |inLoop x=>rfl
    |inScope x=>rfl
    |inRangeFunc x=>rfl
    |beginRound=>
     dsimp only
     cases fr.round with
     |none=>rfl
     |some l=>
      dsimp only
      cases (Instr.beginRound l).ar P none h<;>rfl
    |endRangeFunc l=>
     dsimp only
     cases (Instr.endLoop l).ar P none h<;>rfl
    |region ops l=>
     cases l with
     |nil=>rfl
     |cons i l=>
      dsimp only
      cases ops[i]? with
      |none=>rfl
      |some o=>
       dsimp only
       split
       ·exact oz _
       ·cases au P fr h undef<;>rfl
    |drawn ops l=>
     cases l with
     |nil=>rfl
     |cons p l=>
      dsimp only
      cases ops[p.1]? with
      |none=>rfl
      |some o=>
       dsimp only
       cases aH ops p.1 with
       |effect=>
        dsimp only
        split
        ·exact oz _
        ·cases au P fr h undef<;>rfl
       |_=>
        dsimp only
        (repeat' split)<;>rfl
    |code x=>
     cases x with
     |ret=>exact jW _
     |skip=>rfl
     |label l=>rfl
     |seq x y=>rfl
     |block id x=>rfl
     |loop x=>rfl
     |scope x=>rfl
     |cond x a b=>
      dsimp only
      (repeat' split)<;>rfl
     |exit id=>
      dsimp only
      cases nN id k with
      |none=>exact jW _
      |some k=>rfl
     |goto l=>
      dsimp only
      cases qY l k with
      |none=>exact jW _
      |some k=>rfl
     |region id ops d=>
      cases d with
      |false=>rfl
      |true=>
       dsimp only
       split<;>rfl
     |rangeFunc f params assign body=>
      dsimp only
      split
      ·split
       ·split
        ·exact oz _
        ·rfl
       ·rfl
      ·rfl
     |refuse why=>rfl
theorem gW.under{Q:Value→AH→Prop}{K:AS→Prop}{s:AS}(k:gW P pl Q s)(hQ:∀v h,Q v h→∃c',au P c h v=some c' ∧ bn P pl K ⟨c',cs,h⟩):bn P pl K ⟨s.fr,s.cs ++ c :: cs,s.h⟩:=by
 induction k with
 | @step s hne hgo hret ih=>
   have key:∀n:Nat,ax P pl (some n) ⟨s.fr,s.cs ++ c :: cs,s.h⟩=(ax P pl (some n) s).bind (Go.Am.under P c cs):=fun n=>oZ
   refine .step (fun n=>?_) fun n s' hs'=>?_
   ·obtain ⟨r,hr⟩:=hne n
    rw [key,hr]
    cases r with
    |go s'=>exact ⟨_,rfl⟩
    |ret v h=>
     obtain ⟨c',h1,_⟩:=hQ v h (hret n v h hr)
     exact ⟨⟨c',cs,h⟩,by simp [Go.Am.under,h1]⟩
   ·obtain ⟨r,hr⟩:=hne n
    rw [key,hr] at hs'
    cases r with
    |go s''=>
     cases hs'
     exact ih n s'' hr
    |ret v h=>
     obtain ⟨c',h1,h2⟩:=hQ v h (hret n v h hr)
     simp only [Option.bind_some,Go.Am.under,h1,Option.map_some,Option.some.injEq,uY.go.injEq] at hs'
     subst hs'
     exact h2
end
end Go.Am
namespace Go.Am
open Go.Ren (grow fM aO az)
def Tr.map{α β:Type}(f:α→β):Tr α→Tr β
 | .nil=>.nil
 | .node l v r=>.node (l.map f) (v.map f) (r.map f)
theorem Tr.get_map{α β:Type}(f:α→β):∀(t:Tr α) (n:Nat),(t.map f).get n=(t.get n).map f
 | .nil,n=>rfl
 | .node l v r,0=>rfl
 | .node l v r,n+1=>by
   simp only [Tr.map,Tr.kz,Tr.left,Tr.right]
   split
   ·exact Tr.get_map f l _
   ·exact Tr.get_map f r _
def AH.shared(h:AH):AH:={ h with tr:=h.tr.map fun B=>{ B with ro:=true } }
section
variable{P:Program}{ρ σ:Env}{O O' D D':Nat→Prop}{h h':AH}{w w':World}
theorem Rel.sub(r:Rel ρ O D h w)(hn:h.n≤h'.n)
   (hl:∀b B',h'.look b=some B' → ∃B,h.look b=some B∧B'.obj=B.obj∧B'.dQ=B.dQ∧B'.u=B.u∧(B'.ro=false→B.ro=false∧(O (ρ.to b).1→O' (ρ.to b).1))∧(O (ρ.to b).1∨D (ρ.to b).1→O' (ρ.to b).1∨D' (ρ.to b).1))
   (ht:∀b B',h'.tr.get b=some B' → ∃B,h.tr.get b=some B∧B'.obj=B.obj)
   (hf:∀f l,h'.dH.get f=some l→∃l',h.dH.get f=some l' ∧ l.Sublist l') (hm:∀f l b,h'.dH.get f=some l→b∈l→∃B,h'.tr.get b=some B∧B.dQ=some f):Rel ρ O' D' h' w:=by
 have up:∀b n,h'.upTo ρ b n→h.upTo ρ b n:=by
   rintro b n ⟨B',c,e,f,h1,h2,h3⟩
   obtain ⟨B,k1,k2⟩:=ht b B' h1
   exact ⟨B,c,e,f,k1,k2 ▸ h2,h3⟩
 refine ⟨fun b B c e f hb hk ho=>?_,fun b B hb hk ho=>?_,fun b B hb hk=>?_,fun b b' B B' hb hb' hk hk' hne hs=>?_,fun b hb=>Nat.lt_of_lt_of_le (r.fresh b hb) hn,r.low,fun b B hb hk=>?_,fun f l hfl=>?_,fun f l hfl b hb=>?_⟩
 · obtain ⟨bQ,k1,k2,k3,k4,k5,k6⟩:=hl b B hk
   obtain ⟨C,E,g,c1,c2,c3,c4,c5⟩:=r.cells b bQ c e f hb k1 (k2 ▸ ho)
   refine ⟨C,E,g,c1,c2,c3,fun hn=>c4 fun hp=>hn ⟨k3.trans hp.1,?_,k4.trans hp.2.2⟩,c5⟩
   cases hr:B.ro with
   |true=>rfl
   |false=>exact absurd hp.2.1 (by rw [(k5 hr).1];decide)
 · obtain ⟨bQ,k1,k2,k3,k4,k5,k6⟩:=hl b B hk
   obtain ⟨o1,o',o2,o3⟩:=r.obj b bQ hb k1 (k2 ▸ ho)
   exact ⟨o1,o',o2,by rw [k2];exact o3⟩
 · obtain ⟨bQ,k1,k2,k3,k4,k5,k6⟩:=hl b B hk
   obtain ⟨o1,o2⟩:=r.own b bQ hb k1
   exact ⟨fun z=>(k5 z).2 (o1 (k5 z).1),k6 o2⟩
 · obtain ⟨bQ,k1,_,k3,k4,k5,_⟩:=hl b B hk
   obtain ⟨Ci,j1,_,j3,j4,j5,_⟩:=hl b' B' hk'
   rcases r.sep b b' bQ Ci hb hb' k1 j1 hne hs with ⟨f,g1,g2⟩|⟨⟨g1,g2,g3⟩,i1,i2,i3⟩
   ·exact .inl ⟨f,k3.trans g1,j3.trans g2⟩
   ·refine .inr ⟨⟨k3.trans g1,?_,k4.trans g3⟩,j3.trans i1,?_,j4.trans i3⟩
    ·cases e:B.ro with
     |true=>rfl
     |false=>rw [(k5 e).1] at g2;cases g2
    ·cases e:B'.ro with
     |true=>rfl
     |false=>rw [(j5 e).1] at i2;cases i2
 · obtain ⟨bQ,k1,_,k3,k4,_⟩:=hl b B hk
   obtain ⟨s1,s2⟩:=r.bD b bQ hb k1
   exact ⟨s1.trans (by rw [k3]),fun z=>(s2 (k3 ▸ z)).trans k4.symm⟩
 · obtain ⟨l',g1,g2⟩:=hf f l hfl
   exact ((r.row f l' g1).sublist g2).imp fun hp b1 b2 hs n n' u1 u2=>hp b1 b2 hs n n' (up _ _ u1) (up _ _ u2)
 · obtain ⟨l',g1,g2⟩:=hf f l hfl
   exact ⟨Nat.lt_of_lt_of_le (r.mem f l' g1 b (g2.subset hb)).1 hn,hm f l b hfl hb⟩
theorem vT(b:Nat):h.shared.tr.get b=(h.tr.get b).map fun B=>{ B with ro:=true }:=Tr.get_map _ _ _
theorem Ju{b:Nat}:h.shared.look b=(h.look b).map fun B=>{ B with ro:=true }:=by
 unfold AH.look
 rw [vT]
 cases h.tr.get b with
 | none=>rfl
 | some B=>
   obtain ⟨o,dQ,ro,u⟩:=B
   cases dQ with
   |none=>rfl
   |some f=>
    simp only [Option.map_some]
    show (if ((h.dH.get f).getD []).contains b then _ else _)=_
    split<;>rfl
theorem Rel.share(r:Rel ρ O D h w)(hD:∀b,O b∨D b→O' b∨D' b):Rel ρ O' D' h.shared w:=by
 refine r.sub (Nat.le_refl _) (fun b B' hk=>?_) (fun b B' hk=>?_) (fun f l hfl=>⟨l,hfl,List.Sublist.refl _⟩) (fun f l b hfl hb=>?_)
 · rw [Ju] at hk
   simp only [Option.map_eq_some_iff] at hk
   obtain ⟨B,k1,rfl⟩:=hk
   exact ⟨B,k1,rfl,rfl,rfl,fun z=>(by cases z),hD _⟩
 · rw [vT] at hk
   simp only [Option.map_eq_some_iff] at hk
   obtain ⟨B,k1,rfl⟩:=hk
   exact ⟨B,k1,rfl⟩
 · obtain ⟨m1,B,m2,m3⟩:=r.mem f l hfl b hb
   exact ⟨{ B with ro:=true },by rw [vT,m2];rfl,m3⟩
end
end Go.Am
namespace Go.Am
open Go.Ren (grow fM aO az Wk)
section
variable{P:Program}{ρ σ:Env}{O D:Nat→Prop}{h h':AH}{w w':World}{X:Event→Prop}{m:Bool}{base cs:List Frame}{I:World→Prop}{pl:bz}
 {lo:Nat} {ops:Array Oper} {c:List Nat} {i:Nat} {l:List (Nat×List Nat)}
structure tH(P:Program)(ρ:Env)(lo:Nat)(s₀:AS)(ops:Array Oper)(i:Nat)(f:Frame)(cs:List Frame)(O D:Nat→Prop)(w:World):Prop where
 bound:lo≤s₀.h.n
 fs:Io ρ lo s₀.h.n s₀.fr f
 run:f.mode = .run
 todo:∃s' k',f.todo = .inRegion ops (i :: s') :: k'
 kW:∀o,ops[i]? = some o→bf o=true→∀x∈o.op.operands,VR ρ (af s₀.fr.tmps x) (f.eval x)
 wanted:∀o,ops[i]? = some o→Region.wanted o (yielded ops f.tmps)=Region.wanted o (yielded ops s₀.fr.tmps)
 stk:Cb ρ lo s₀.cs cs
 rel:Rel ρ O D s₀.h w
theorem Ur[aI P]{s₀:AS}(hk:aH ops i = .effect)(hlo:lo≤s₀.h.n):∀(s:List Nat) {ρ:Env} {f:Frame} {O:Nat→Prop} {w:World},FD ρ lo s₀.h.n ops ((i,c) :: l) s s₀.fr f→UE P s₀.h ops ((i,c) :: l) s s₀.fr.tmps→Cb ρ lo s₀.cs cs→Rel ρ O D s₀.h w →
   Wk P m I X D (fun O' g' w'=>∃(σ:Env) (f':Frame),ρ.Le σ∧g' = cO f' (cs ++ base)∧tH P σ lo s₀ ops i f' cs O' D w') O (cO f (cs ++ base)) w:=by
 intro s
 induction s with
 | nil=>intro ρ f O w k e hcs rel;exact absurd (k.sub i (by simp [gK])) (by simp)
 | cons j s ih=>
   intro ρ f O w k e hcs rel
   obtain ⟨o1,o2,o3,o4,o5,o6⟩:=iZ k.ord
   by_cases hj:j=i
   ·subst hj
    obtain ⟨k1,k2,t1,t2,hl⟩:=k.todo
    exact .stop ⟨ρ,f,.refl ρ,rfl,hlo,.ahead k hk,k.mode,⟨s,k2,t2⟩,fun o ho hok=>k.kW ho hok,fun o ho=>k.kP ho,hcs,rel⟩
   ·have hn:j∉ix ((i,c) :: l):=fun hm=>by
     have hm':j∈ix l:=(List.mem_cons.1 hm).resolve_left hj
     exact k.Ht (o4 hk j hm') (k.sub i (by simp [gK]))
    refine Wk.mk rfl fun w₁ hr _=>?_
    obtain ⟨τ,f',w',es,h1,h2,h3,h4,h5,h6⟩:=Jr (X:=X) (m:=m) (cs:=cs ++ base) (rel.rely hr) k hn (e j (by simp) hn)
    refine ⟨cO f' (cs ++ base),w',es,h1,h2,(ih h5 (fun j' hj'=>e j' (List.mem_cons_of_mem _ hj')) (hcs.mono h3 (fun x hx hb=>(h4 x hb).elim id fun hal=>?_) (Nat.le_refl _)) h6).mono fun _ _ _ z=>?_⟩
    ·have:=(k.bd j (by simp) hn x hal).1
     omega
    ·obtain ⟨σ,f'',z1,z2,z3⟩:=z
     exact ⟨σ,f'',h3.trans z1,z2,z3⟩
theorem qN[aI P]{s₀:AS}{g:Goroutine}(S:lV P ρ O D base s₀ g w)(hrun:s₀.fr.ret=false)(ht:(∃k,s₀.fr.todo = .drawn ops ((i,c) :: l) :: k∧aH ops i = .effect)∨∃l k,s₀.fr.todo = .region ops (i :: l) :: k) :
   Wk P m I X D (fun O' g' w'=>∃(σ:Env) (lo:Nat) (f':Frame) (cs:List Frame),ρ.Le σ∧g' = cO f' (cs ++ base)∧tH P σ lo s₀ ops i f' cs O' D w') O g w:=by
 obtain ⟨⟨lo,f,cs,hlo,rfl,hf,hcs⟩,rel⟩:=S
 cases hf with
 | plain hf=>
   rcases ht with ⟨k,ht,_⟩|⟨l,k,ht⟩
   ·have:=hf.todo
    rw [ht] at this
    generalize f.todo=z at this
    cases this with
    |cons hi _=>cases hi
   ·have htd:=hf.todo
    rw [ht] at htd
    obtain ⟨s',k',htf⟩:∃s' k',f.todo = .inRegion ops (i :: s') :: k' :=by
     generalize f.todo=z at htd
     cases htd with
     | @cons _ y _ ys hi hl=>
      cases hi
      exact ⟨l,ys,rfl⟩
    have hmode:f.mode = .run:=by have:=hf.mode;rw [hrun] at this;exact this
    exact .stop ⟨ρ,lo,f,cs,.refl ρ,rfl,hlo,.plain hf,hmode,⟨s',k',htf⟩,fun o ho hok=>OL hf.tmps hok,fun o ho=>by rw [Cc hf.tmps],hcs,rel⟩
 | @ahead ops' l' s' k e=>
   obtain ⟨k1,k2,t1,t2,hl⟩:=k.todo
   rcases ht with ⟨kk,ht,hk⟩|⟨l,kk,ht⟩
   ·rw [t1] at ht
    cases ht
    refine (Ur (base:=base) hk hlo s' k e hcs rel).mono fun O' g' w' hz=>?_
    obtain ⟨σ,f',z1,z2,z3⟩:=hz
    exact ⟨σ,lo,f',cs,z1,z2,z3⟩
   ·rw [t1] at ht
    cases ht
theorem tH.finish{s₀:AS}{f:Frame}(k:tH P ρ lo s₀ ops i f cs O D w){v v':Value}{O':Nat→Prop}(hle:ρ.Le σ)(hb:∀x,x < s₀.h.n→σ.born x→ρ.born x)(hn:s₀.h.n≤h'.n)(hv:VR σ v v')(hr:Rel σ O' D h' w'){a':aF}(e:au P s₀.fr h' v=some a') :
   lV P σ O' D base ⟨a',s₀.cs,h'⟩ (cO (f.finish v') (cs ++ base)) w' :=
 ⟨⟨lo,_,cs,Nat.le_trans k.bound hn,rfl,jA (k.fs.mono hle hb hn) (Nat.le_refl _) hv e,k.stk.mono hle (fun x hx=>hb x (Nat.lt_of_lt_of_le hx k.bound)) (Nat.le_refl _)⟩,hr⟩
end
end Go.Am
