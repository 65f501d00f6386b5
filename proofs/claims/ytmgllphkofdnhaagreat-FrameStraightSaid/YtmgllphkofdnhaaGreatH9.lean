import Derived.Test.YtmgllphkofdnhaaGreatH8
set_option linter.unusedVariables false
set_option linter.unusedSectionVars false
set_option linter.unusedSimpArgs false
namespace Go.Am
open Go.Ren (grow EvO Guar Rely)
section
variable{P:Program}{ρ σ:Env}{O D:Nat→Prop}{h h':AH}{w w':World}{X:Event→Prop}{m:Bool}{base:List Frame}
theorem run_of{α:Type}{s:Sem α}{r:Result α}{es:Array Event}(hr:∀es₀,s.runT P w es₀=(r,es₀ ++ es)):s.run P w=r∧s.events P w #[]=es:=by
 have:=hr #[]
 rw [Sem.runT_eq] at this
 simp only [Prod.mk.injEq] at this
 exact ⟨this.1,by simpa using this.2⟩
theorem not_early{k:CallKind}(h:k ≠ .early):(k == CallKind.early)=false:=by cases k<;>first|rfl|exact absurd rfl h
theorem apply_value{fr:Frame}{cs:List Frame}{s:Sem Next}{v:Value}{es:Array Event}(hk:fr.kind ≠ .early)(hr:∀es₀,s.runT P w es₀=(.ok (.value v) w',es₀ ++ es)):stepG.apply P true fr cs none s w = .go (gor (fr.finish v) cs) w' (seen P fr.fn es):=by
 obtain ⟨h1,h2⟩:=run_of hr
 have hb:=not_early hk
 simp [stepG.apply,h1,h2,hb,GStep.after,gor]
theorem apply_skip{fr:Frame}{cs:List Frame}{s:Sem Next}{es:Array Event}(hk:fr.kind ≠ .early)(hr:∀es₀,s.runT P w es₀=(.ok .skip w',es₀ ++ es)):stepG.apply P true fr cs none s w = .go (gor (fr.finish undef) cs) w' (seen P fr.fn es):=by
 obtain ⟨h1,h2⟩:=run_of hr
 have hb:=not_early hk
 simp [stepG.apply,h1,h2,hb,GStep.after,gor]
theorem apply_enter{fr:Frame}{cs:List Frame}{s:Sem Next}{f:FuncId}{args:Array Value}{es:Array Event}(hk:fr.kind ≠ .early)(ht:∀d x y k,fr.todo ≠ .call d true x y :: k)(hr:∀es₀,s.runT P w es₀=(.ok (.enter f args) w',es₀ ++ es)) :
  stepG.apply P true fr cs none s w = .go (gor (Frame.enter P f args .normal) (fr :: cs)) w' (seen P fr.fn es):=by
 obtain ⟨h1,h2⟩:=run_of hr
 have:(match fr.todo with | .call _ true _ _ :: _=>CallKind.wrapped|_=>.normal) = .normal:=by
  split
  ·rename_i he;exact absurd he (ht _ _ _ _)
  ·rfl
 simp [stepG.apply,h1,h2,hk,GStep.after,gor]
theorem apply_round{fr:Frame}{cs:List Frame}{s:Sem Next}{l:Nat}{f:FuncId}{t:Array Value}{x y:Code}{es:Array Event}(hk:fr.kind ≠ .early)(hr:∀es₀,s.runT P w es₀=(.ok (.round l f t x y) w',es₀ ++ es)) :
  stepG.apply P true fr cs none s w = .go (gor (Frame.round l f t x y .normal) (fr :: cs)) w' (seen P fr.fn es):=by
 obtain ⟨h1,h2⟩:=run_of hr
 have hb:=not_early hk
 simp [stepG.apply,h1,h2,hb,GStep.after,gor]
theorem not_call{k:List AItem}{k':List Item}(h:LR (ItR ρ) k k'):∀d x y z k₁,k' ≠ .call d x y z :: k₁:=by
 intro d x y z k₁ e
 subst e
 cases h with
 |cons h _=>cases h
theorem FSt.not_call{lo hi:Nat}{a:AFr}{f:Frame}(h:FSt ρ lo hi a f):∀d x y z k₁,f.todo ≠ .call d x y z :: k₁:=by
 cases h with
 |plain h=>exact Go.Am.not_call h.todo
 |ahead k _=>
  obtain ⟨_,_,_,t2,_⟩:=k.todo
  intro d x y z k₁ e
  rw [t2] at e
  cases e
theorem apply_r{a:AFr}{f:Frame}{cs:List AFr}{cs':List Frame}{s':Sem Next}{lo:Nat}(hf:FSt ρ lo h.n a f)(hlo:lo≤h.n)(hcs:Stk ρ lo cs cs'){n:Next}{r:Res}(e:aapply P a cs (some (n,h'))=some r)
  (k:Out P X D NR ρ O h w s' n h'):∃(τ:Env) (g':Goroutine) (w':World) (es:Array Event),stepG.apply P true f (cs' ++ base) none s' w = .go g' w' es∧Guar X O D w w' es∧ρ.Le τ∧ResR P τ (grow O w w') D base r g' w' :=by
 obtain ⟨τ,n',w',es,h1,h2,h3,h4,h5,h6,h7⟩:=k
 have hb:∀x,x < h.n→τ.born x→ρ.born x:=fun x hx hx'=>((h7 x).1 hx').elim id fun y=>by omega
 have hG:Guar X O D w w' (seen P f.fn es):=h5.less (seen_sub f.fn es)
 have hf' :=hf.mono h2 hb h6
 have hcs':Stk τ lo cs cs' :=hcs.mono h2 (fun x hx=>hb x (by omega)) (Nat.le_refl _)
 have hlo':lo≤h'.n:=Nat.le_trans hlo h6
 have hkind:=hf.base.ne
 cases h3 with
 | @value v v' hv=>
  simp only [aapply,Option.map_eq_some_iff] at e
  obtain ⟨a',e1,rfl⟩:=e
  exact ⟨τ,_,w',_,apply_value hkind h1,hG,h2,⟨⟨lo,_,cs',hlo',rfl,finish_S hf' (Nat.le_refl _) hv e1,hcs'⟩,h4⟩⟩
 |skip=>
  simp only [aapply,Option.map_eq_some_iff] at e
  obtain ⟨a',e1,rfl⟩:=e
  exact ⟨τ,_,w',_,apply_skip hkind h1,hG,h2,⟨⟨lo,_,cs',hlo',rfl,finish_S hf' (Nat.le_refl _) vr_undef e1,hcs'⟩,h4⟩⟩
 | @enter g x x' hx=>
  simp only [aapply,Option.some.injEq] at e
  subst e
  exact ⟨τ,_,w',_,apply_enter hkind (fun d x y k=>hf.not_call d true x y k) h1,hG,h2,⟨⟨h'.n,_,f :: cs',Nat.le_refl _,rfl,.plain (enter_r g hx),.cons hlo' hf' hcs'⟩,h4⟩⟩
 | @round l l' g t t' x y hl ht=>
  simp only [aapply,Option.some.injEq] at e
  subst e
  exact ⟨τ,_,w',_,apply_round hkind h1,hG,h2,⟨⟨h'.n,_,f :: cs',Nat.le_refl _,rfl,.plain (round_r hl g ht x y),.cons hlo' hf' hcs'⟩,h4⟩⟩
 |odd=>simp only [aapply] at e;cases e
theorem eval_of{a:AFr}{f:Frame}(hf:AR (VR ρ) a.tmps f.tmps){o:Oper}(hk:operOk o=true):∀x∈o.op.operands,VR ρ (aeval a.tmps x) (f.eval x):=eval_r hk hf (frame_eval f)
theorem cond_r{a:AFr}{f:Frame}(hf:AR (VR ρ) a.tmps f.tmps){x:Operand}(hk:condOk x=true):VR ρ (aeval a.tmps x) (f.eval x):=by
 cases x with
 |tmp t=>exact vr_getD hf t
 |const v=>exact (plain_of hk).vr ρ
 |_=>cases hk
theorem aret_dk{dk:Bool}{cs:List AFr}{v:Value}{r:Res}(e:aret P dk cs v h=some r):dk=false∧aret P false cs v h=some r:=by
 cases dk with
 |true=>simp [aret] at e
 |false=>exact ⟨rfl,e⟩
theorem doReturn_r{f:Frame}{cs:List AFr}{cs':List Frame}{v v':Value}{r:Res}{lo:Nat}(hk:f.kind = .normal)(hlo:lo≤h.n)(hcs:Stk ρ lo cs cs')(hv:VR ρ v v')(rel:Rel ρ O D h w)(hb:Has base r)(e:aret P false cs v h=some r):∃g',doReturn P m f (cs' ++ base) none v' w = .go g' w #[]∧ResR P ρ O D base r g' w:=by
 cases hcs with
 |nil=>
  simp only [aret,Bool.false_eq_true,if_false,Option.some.injEq] at e
  subst e
  cases base with
  |nil=>exact absurd rfl (hb ⟨_,_,rfl⟩)
  |cons b bs=>
   refine ⟨gor (b.finish v') bs,?_,b,bs,v',rfl,hv,rfl,rel⟩
   simp [doReturn,hk,gor]
 | @cons lo' _ c c' cs cs' hlo' hc hcs=>
  simp only [aret,Bool.false_eq_true,if_false,Option.map_eq_some_iff] at e
  obtain ⟨a',e1,rfl⟩:=e
  refine ⟨gor (c'.finish v') (cs' ++ base),?_,⟨⟨lo',_,cs',Nat.le_trans hlo' hlo,rfl,finish_S hc hlo hv e1,hcs⟩,rel⟩⟩
  simp [doReturn,hk,gor]
theorem sr_endRound{l l':Nat}(j:Option Code)(hl:ρ.ob l l'):SR P VR ρ (Instr.endRound l j) (Instr.endRound l' j):=by
 unfold Instr.endRound
 refine (sr_getLoop hl).bnd fun σ hσ r r' hr=>?_
 exact .setObj (hσ.ob hl) (.loop ⟨rfl,rfl,hr.fn,hr.tmps,hr.params,hr.assign,hr.body,hr.defers⟩) (.pure (.bool _))
theorem sr_beginRound{l l':Nat}(hl:ρ.ob l l'):SR P Same ρ (Instr.beginRound l) (Instr.beginRound l'):=by
 unfold Instr.beginRound
 refine (sr_getLoop hl).bnd fun σ hσ r r' hr=>?_
 refine .setObj (hσ.ob hl) (.loop ⟨rfl,hr.pending,hr.fn,hr.tmps,hr.params,hr.assign,hr.body,hr.defers⟩) ?_
 rw [hr.state]
 cases r.state with
 |ready=>exact .pure rfl
 |_=>exact (show SR P Same σ (runtimePanic (.error _):Sem Unit) (runtimePanic (.error _)) from .rpanic)
theorem sr_endLoop{l l':Nat}(hl:ρ.ob l l'):SR P Same ρ (Instr.endLoop l) (Instr.endLoop l'):=by
 unfold Instr.endLoop
 refine (sr_getLoop hl).bnd fun σ hσ r r' hr=>?_
 rw [hr.state,hr.pending]
 dsimp only
 split
 ·exact .dead (dead_left _ (dead_rpanic _))
 ·exact .setObj (hσ.ob hl) (.loop ⟨rfl,rfl,hr.fn,hr.tmps,hr.params,hr.assign,hr.body,hr.defers⟩) (.pure rfl)
theorem sr_takeDeferred{l l':Nat}(hl:ρ.ob l l'):SR P (fun σ=>LR (DR σ)) ρ (Instr.takeDeferred l) (Instr.takeDeferred l'):=by
 unfold Instr.takeDeferred
 refine .getObj hl fun o o' ho=>?_
 cases ho with
 |deferred h=>exact .setObj hl .taken (.pure h)
 |_=>exact .dead fun _ _=>rfl
theorem sr_enterLoop(fn:FuncId){t t':Array Value}(ht:AR (VR ρ) t t')(params:Array Tmp)(x y:Code){r r':Option Nat}(hr:OptR ρ.ob r r'):SR P (fun σ p q=>σ.ob p.1 q.1∧LR (DR σ) p.2 q.2) ρ (Instr.enterLoop fn t params x y r) (Instr.enterLoop fn t' params x y r'):=by
 unfold Instr.enterLoop
 have fin:∀(σ:Env) (d d':Nat) (k k':List Deferred),ρ.Le σ→σ.ob d d' → LR (DR σ) k k' → SR P (fun σ p q=>σ.ob p.1 q.1∧LR (DR σ) p.2 q.2) σ
   (do pure (←newObj (.loop { state:=.ready,pending:=none,fn,tmps:=t,params,assign:=x,body:=y,defers:=d }),k):Sem (Nat×List Deferred)) (do pure (←newObj (.loop { state:=.ready,pending:=none,fn,tmps:=t',params,assign:=x,body:=y,defers:=d' }),k'):Sem (Nat×List Deferred)):=by
  intro σ d d' k k' hσ hd hk
  refine .new (.obj (.loop ⟨rfl,rfl,rfl,ht.mono fun _ _ z=>z.mono hσ,rfl,rfl,rfl,hd⟩)) fun τ hτ r r' hr=>.pure ⟨hr,hk.mono fun _ _ z=>z.mono hτ⟩
 cases hr with
 |none=>
  dsimp only
  refine .new (.obj (.deferred .nil)) fun σ hσ d d' hd=>?_
  exact fin σ d d' _ _ hσ hd (.cons ⟨.collected hd,.empty⟩ .nil)
 |some h=>
  dsimp only
  refine (sr_getLoop h).bnd fun σ hσ l l' hl=>?_
  exact fin σ _ _ _ _ hσ hl.defers .nil
theorem sr_results(fn:Func){t t':Array Value}(ht:AR (VR ρ) t t'):SR P VR ρ (results fn t) (results fn t'):=by
 unfold results
 refine SR.bnd (R:=fun σ=>AR (VR σ)) ?_ fun σ hσ a b hab=>.pur ?_
 ·rw [Array.mapM_eq_mapM_toList,Array.mapM_eq_mapM_toList]
  refine SR.bnd (R:=fun σ=>LR (VR σ)) ?_ fun σ hσ a b hab=>.pur hab.arr
  have:∀(l:List ResultVar) (ρ:Env),AR (VR ρ) t t' → SR P (fun σ=>LR (VR σ)) ρ (l.mapM fun | .tmp x=>Pure.pure (t.getD x undef) | .cell a u=>do loadVar u (←asAddr (t.getD a undef))) (l.mapM fun | .tmp x=>Pure.pure (t'.getD x undef) | .cell a u=>do loadVar u (←asAddr (t'.getD a undef))):=by
   intro l
   induction l with
   |nil=>intro ρ _;exact .pur .nil
   |cons x l ih=>
    intro ρ ht
    rw [List.mapM_cons,List.mapM_cons]
    refine SR.bnd (R:=VR) ?_ fun σ hσ v v' hv=>?_
    ·cases x with
     |tmp x=>exact .pur (vr_getD ht x)
     |cell a u=>exact (sr_asAddr (vr_getD ht a)).bnd fun σ _ a a' h=>by obtain ⟨h1,rfl⟩:=h;exact sr_loadVar u h1
    ·exact (ih σ (ht.mono fun _ _ z=>z.mono hσ)).bnd fun τ hτ l l' hl=>.pur (.cons (hv.mono hτ) hl)
  exact this _ _ ht
 ·by_cases h1:a.size=1
  ·have h2:b.size=1:=hab.1 ▸ h1
   rw [dif_pos h1,dif_pos h2]
   exact hab.2 0 _ _ (by simp [h1]) (by simp [h2])
  ·have h2:¬b.size=1:=hab.1 ▸ h1
   rw [dif_neg h1,dif_neg h2]
   exact vr_tuple hab
end
end Go.Am
namespace Go.Am
open Go.Ren (grow EvO Guar Rely)
section
variable{P:Program}{ρ σ:Env}{O D:Nat→Prop}{h h':AH}{w w':World}{X:Event→Prop}
theorem aappo_out[Zeros P](rel:Rel ρ O D h w){tmps:Array Value}{e':Operand→Value}{o:Oper}(hv:operOk o=true→∀x∈o.op.operands,VR ρ (aeval tmps x) (e' x))(ha:isAppend o=true){n:Next}(e:aappo P h tmps o=some (n,h')) :
  Out P X D NR ρ O h w (execOp e' o) n h' :=by
 unfold aappo at e
 split at e
 rotate_left
 ·cases e
 rename_i c hop
 split at e
 rotate_left
 ·cases e
 rename_i p q hpq
 split at e
 rotate_left
 ·cases e
 rename_i hok
 simp only [Option.map_eq_some_iff] at e
 obtain ⟨⟨v,h₁⟩,e1,e2⟩:=e
 cases e2
 have hv' :=hv hok
 have hcal:c.callee = .builtin .append:=by
  unfold isAppend at ha
  rw [hop] at ha
  obtain ⟨callee,args,types⟩:=c
  dsimp only at ha ⊢
  split at ha
  ·rename_i hh;cases hh;rfl
  ·cases ha
 have hargs:c.args = #[p,q]:=by
  have:=congrArg List.toArray hpq
  simpa using this
 have hp:VR ρ (aeval tmps p) (e' p):=hv' p (by rw [hop];simp [Op.operands,Call.operands,hargs])
 have hq:VR ρ (aeval tmps q) (e' q):=hv' q (by rw [hop];simp [Op.operands,Call.operands,hargs])
 have hex:execOp e' o=(Builtin.append_ c.argTypes o.type #[e' p,e' q]).bind fun v=>Sem.pure (.value v):=by
  unfold execOp
  rw [hop]
  dsimp only
  unfold resolve
  rw [hcal]
  dsimp only
  rw [hargs]
  simp only [List.map_toArray,List.map_cons,List.map_nil]
  rfl
 rw [hex]
 exact (append_out rel hp hq e1).bindR fun σ v' w₁ hle hvr rel₁=>.pureR rel₁ (.value hvr)
theorem aexec_out[Zeros P](rel:Rel ρ O D h w){tmps:Array Value}{e':Operand→Value}{o:Oper}(hv:operOk o=true→∀x∈o.op.operands,VR ρ (aeval tmps x) (e' x)) :
  ∃c:Nat,∀ {n:Next} {h':AH},aexec P (some c) h tmps o=some (n,h')→Out P X D NR ρ O h w (execOp e' o) n h' :=by
 by_cases ha:isAppend o=true
 ·refine ⟨0,fun e=>?_⟩
  unfold aexec at e
  rw [if_pos ha] at e
  exact aappo_out rel hv ha e
 ·by_cases hk:(operOk o && opOk P h (aeval tmps) o)=true
  ·have hk' :=hk
   simp only [Bool.and_eq_true] at hk'
   obtain ⟨c,k⟩:=(sr_exec rel o (hv hk'.1) hk'.2).sim1 (X:=X) rel
   refine ⟨c,fun e=>?_⟩
   unfold aexec at e
   rw [if_neg ha,if_pos hk] at e
   exact k e
  ·refine ⟨0,fun e=>?_⟩
   unfold aexec at e
   rw [if_neg ha,if_neg hk] at e
   cases e
theorem aexec_nd{c:Option Nat}{tmps:Array Value}{o:Oper}{r:Next×AH}(e:aexec P c h tmps o=some r):∀q,o.op ≠ .defer q:=by
 intro q hq
 unfold aexec at e
 split at e
 ·unfold aappo at e
  rw [hq] at e
  cases e
 ·split at e
  ·rename_i hk
   simp only [Bool.and_eq_true] at hk
   have:=hk.2
   unfold opOk at this
   rw [hq] at this
   cases this
  ·cases e
end
end Go.Am
namespace Go.Am
open Go.Ren (grow EvO Guar Rely)
section
variable{P:Program}{ρ σ:Env}{O D:Nat→Prop}{h h':AH}{w w':World}{X:Event→Prop}{m:Bool}{base:List Frame}
theorem stepG_run{f:Frame}{cs:List Frame}(hm:f.mode = .run):stepG P m (gor f cs) w=stepG.exec P m true f cs none w:=by
 unfold stepG gor
 dsimp only
 rw [hm]
theorem stepG_ret{f:Frame}{cs:List Frame}(hm:f.mode = .returning):stepG P m (gor f cs) w=unwind P m f cs none w:=by
 unfold stepG gor
 dsimp only
 rw [hm]
theorem out_of{α β:Type}{R:Env→α→β→Prop}{s':Sem β}{x:α}(k:Out P X D R ρ O h w s' x h')(fn:FuncId):∃(τ:Env) (y:β) (w':World) (es:Array Event),s'.runT P w #[]=(.ok y w',es)∧Guar X O D w w' (seen P fn es)∧ρ.Le τ∧R τ x y∧Rel τ (grow O w w') D h' w' ∧ h.n≤h'.n∧∀x,x < h.n→τ.born x→ρ.born x:=by
 obtain ⟨τ,y,w',es,h1,h2,h3,h4,h5,h6,h7⟩:=k
 exact ⟨τ,y,w',es,by have:=h1 #[];simpa using this,h5.less (seen_sub fn es),h2,h3,h4,h6,fun x hx hx'=>((h7 x).1 hx').elim id fun y=>by omega⟩
theorem after_go(es:Array Event)(g:Goroutine)(w:World):GStep.after es (.go g w) = .go g w es:=by simp [GStep.after]
theorem leave_sim{s:AS}{f:Frame}{cs:List Frame}{jump:Option Code}{r:Res}{lo:Nat}(hf:F0 ρ s.fr f)(hlo:lo≤s.h.n)(hcs:Stk ρ lo s.cs cs)(rel:Rel ρ O D s.h w)
  (hst:stepG.exec P m true f (cs ++ base) none w=(match f.roundOf with
   |none=>if jump matches none|some .ret then .go (gor { f with mode:=.returning } (cs ++ base)) w else .ended (.stuck "exit, goto: no such block or label" (f.pos P)) w
   |some l=>let (r,es):=(Instr.endRound l jump).runT P w #[]
    GStep.after (seen P f.fn es) (match r with
    | .ok v w=>doReturn P m f (cs ++ base) none v w
    | .halt _ w=>.ended (.stuck "range over a function: no such loop" (f.pos P)) w))) (hb:Has base r) (e:aleave P s jump=some r) (hm:f.mode = .run) :
  Steps1 P m X ρ O D base (gor f (cs ++ base)) w r:=by
 unfold aleave at e
 have hr:=hf.round
 obtain ⟨fn,tmps,todo,defers,mode,kind,ro⟩:=f
 cases har:s.fr.round with
 |none=>
  rw [har] at e hr
  cases ro with
  |some l=>cases hr
  |none=>
   dsimp only at e hst
   have key:(jump=none∨jump=some .ret)→stepG P m (gor ⟨fn,tmps,todo,defers,mode,kind,none⟩ (cs ++ base)) w = .go (gor ⟨fn,tmps,todo,defers,.returning,kind,none⟩ (cs ++ base)) w #[]:=by
    intro hj
    rw [stepG_run hm,hst]
    rcases hj with rfl|rfl<;>rfl
   have fin:(jump=none∨jump=some .ret)→r = .go { s with fr:={ s.fr with ret:=true } }→Steps1 P m X ρ O D base (gor ⟨fn,tmps,todo,defers,mode,kind,none⟩ (cs ++ base)) w r:=by
    intro hj hr'
    subst hr'
    exact ⟨ρ,_,w,#[],key hj,.none w,.refl ρ,⟨⟨lo,_,cs,hlo,rfl,.plain ⟨⟨hf.fn,hf.defers,rfl,hf.kind,by simp only [har];exact .none⟩,hf.tmps,hf.todo⟩,hcs⟩,rel.grow⟩⟩
   split at e
   ·exact fin (.inl rfl) (by cases e;rfl)
   ·exact fin (.inr rfl) (by cases e;rfl)
   ·cases e
 |some l=>
  rw [har] at e hr
  cases hr with
  | @some _ l' hl=>
   dsimp only at e hst
   split at e
   ·rename_i v h₁ har'
    obtain ⟨τ,v',w',es,h1,h2,h3,h4,h5,h8,h9⟩:=out_of (X:=X) ((sr_endRound jump hl).sim0 rel har') fn
    rw [h1] at hst
    dsimp only at hst
    obtain ⟨hdk,e⟩:=aret_dk e
    obtain ⟨g',h6,h7⟩:=doReturn_r (P:=P) (m:=m) (base:=base) (f:=⟨fn,tmps,todo,defers,mode,kind,some l'⟩) (hf.normal hdk) (Nat.le_trans hlo h8) (hcs.mono h3 (fun x hx=>h9 x (by omega)) (Nat.le_refl _)) h4 h5 hb e
    rw [h6,after_go] at hst
    exact ⟨τ,g',w',_,by rw [stepG_run hm,hst],h2,h3,h7⟩
   ·cases e
theorem to_sim{s:AS}{f:Frame}{cs:List Frame}{k:List AItem}{k':List Item}{r:Res}{lo:Nat}(hf:F0 ρ s.fr f)(hlo:lo≤s.h.n)(hcs:Stk ρ lo s.cs cs)(rel:Rel ρ O D s.h w)(hm:f.mode = .run)(e:ato s k=some r)(hk:LR (ItR ρ) k k')
  (hst:stepG.exec P m true f (cs ++ base) none w = .go (gor { f with todo:=k' } (cs ++ base)) w #[]):Steps1 P m X ρ O D base (gor f (cs ++ base)) w r:=by
 simp only [ato,Option.some.injEq] at e
 subst e
 exact ctl (by rw [stepG_run hm,hst]) (hf.withTodo hk) hlo hcs rel
theorem LR.append{α β:Type}{R:α→β→Prop}{l m:List α}{l' m':List β}(h:LR R l l')(k:LR R m m'):LR R (l ++ m) (l' ++ m'):=by
 induction h with
 |nil=>exact k
 |cons h _ ih=>exact .cons h ih
theorem ar_bind_pure{α β:Type}(s:Sem α)(y:β):∀(c:Option Nat) (h:AH) {x:α} {h':AH},s.ar P c h=some (x,h')→(s.bind fun _=>Sem.pure y).ar P c h=some (y,h'):=by
 induction s with
 |pure a=>intro c h x h' e;simp only [Sem.ar,Option.some.injEq,Prod.mk.injEq] at e;obtain ⟨_,rfl⟩:=e;rfl
 |load m a k ih=>
  intro c h x h' e
  simp only [Sem.bind]
  rw [Sem.ar.eq_def] at e ⊢
  dsimp only at e ⊢
  split at e
  ·exact ih _ _ _ e
  ·cases e
 |store m a v k ih=>
  intro c h x h' e
  simp only [Sem.bind]
  cases v<;>cases m<;>simp only [Sem.ar] at e ⊢<;>first|(cases e;done)|skip
  all_goals
   split at e
   ·exact ih _ _ e
   ·cases e
 |new o k ih=>
  intro c h x h' e
  simp only [Sem.bind]
  simp only [Sem.ar] at e ⊢
  split at e<;>first|exact ih _ _ _ e|cases e
 |shape r k ih=>
  intro c h x h' e
  simp only [Sem.bind]
  simp only [Sem.ar] at e ⊢
  split at e
  ·exact ih _ _ _ e
  ·exact ih _ _ _ e
  ·cases e
 |getObj r k ih=>
  intro c h x h' e
  simp only [Sem.bind]
  simp only [Sem.ar] at e ⊢
  split at e
  ·cases e
  ·exact ih _ _ _ e
  ·cases e
 |setObj r o k ih=>
  intro c h x h' e
  simp only [Sem.bind]
  simp only [Sem.ar] at e ⊢
  split at e
  ·cases e
  ·cases e
  ·split at e
   ·cases e
   ·rename_i hro;rw [if_neg hro];exact ih _ _ e
  ·cases e
 |choose q k ih=>
  intro c h x h' e
  simp only [Sem.bind]
  rw [Sem.ar.eq_def] at e ⊢
  dsimp only at e ⊢
  split at e
  ·rename_i hq;first|exact ih _ _ _ e|(rw [if_pos hq];exact ih _ _ _ e)
  ·rename_i hq
   try rw [if_neg hq]
   split at e
   ·exact ih _ _ _ e
   ·cases e
 |program k ih=>intro c h x h' e;exact ih _ _ _ e
 |_=>intro c h x h' e;cases e
theorem ResR.mono{O':Nat→Prop}{r:Res}{g:Goroutine}(k:ResR P ρ O D base r g w)(hO:∀x,O x→O' x):ResR P ρ O' D base r g w:=by
 cases r with
 |go s=>exact ⟨k.run,k.rel.mono hO⟩
 |ret v h=>obtain ⟨b,bs,v',h0,h1,h2,h3⟩:=k;exact ⟨b,bs,v',h0,h1,h2,h3.mono hO⟩
theorem start_fd{ops:Array Oper}{l:List (Nat×List Nat)}{a:AFr}{f:Frame}{lo:Nat}{k:List AItem}{k':List Item}(hp:okPlan ops l=true)(hrun:a.ret=false)(hf:FB ρ a f)(ht:AR (VR ρ) a.tmps f.tmps)(hl:LR (ItR ρ) k k')(t:Nat) :
  FT P ρ lo h { a with todo:=.drawn ops l :: k } { f with todo:=.inRegion ops (Region.schedule true ops t) :: k' }:=by
 unfold okPlan at hp
 simp only [Bool.and_eq_true] at hp
 obtain ⟨⟨h1,h2⟩,h3⟩:=hp
 have hall:∀i,i < ops.size→i∈ix l:=fun i hi=>mem_ix_contains.1 (List.all_eq_true.1 h2 i (by simpa using hi))
 obtain ⟨s1,s2⟩:=schedule_lin (okDrawn_back h1) t
 have hnone:∀i∈Region.schedule true ops t,i∉ix l→False:=fun i hi hn=>hn (hall i ((s2 i).1 hi))
 refine .ahead (ops:=ops) (l:=l) (s:=Region.schedule true ops t) ⟨⟨hf.fn,hf.defers,hf.mode,hf.kind,hf.round⟩,hrun,⟨k,k',rfl,rfl,hl⟩,h1,h3,s1,fun i j hi hn=>absurd ((s2 i).2 hi) hn,fun i hi=>(s2 i).1 hi,fun i hi=>(s2 i).2 (ord_lt h3 i hi),fun i hi hn=>absurd (hall i hi) hn,fun i hi hn=>(hnone i hi hn).elim,ht.1,fun t _=>ht.get t,fun i hi hn=>(hnone i hi hn).elim,fun i hi hn=>(hnone i hi hn).elim⟩ fun i hi hn=>(hnone i hi hn).elim
theorem step_plain[Zeros P]{pl:Plan}{s:AS}{f:Frame}{cs:List Frame}{lo:Nat}(hlo:lo≤s.h.n)(hf:F0 ρ s.fr f)(hcs:Stk ρ lo s.cs cs)(rel:Rel ρ O D s.h w):∃c:Nat,∀r,astep P pl (some c) s=some r→Has base r→Steps1 P m X ρ O D base (gor f (cs ++ base)) w r:=by
 obtain ⟨o,ho⟩:∃o:Option Oper,∀ops i l k,s.fr.todo = .region ops (i :: l) :: k→o=ops[i]? :=by
  by_cases h:∃ops i l k,s.fr.todo = .region ops (i :: l) :: k
  ·obtain ⟨ops,i,l,k,h⟩:=h
   exact ⟨ops[i]?,fun ops' i' l' k' h'=>by rw [h] at h';cases h';rfl⟩
  ·exact ⟨none,fun ops i l k h'=>absurd ⟨ops,i,l,k,h'⟩ h⟩
 obtain ⟨c,hc⟩:∃c:Nat,∀o',o=some o' → ∀ {n:Next} {h':AH},aexec P (some c) s.h s.fr.tmps o' = some (n,h')→Out P X D NR ρ O s.h w (execOp f.eval o') n h' :=by
  cases o with
  |none=>exact ⟨0,fun o' h=>by cases h⟩
  |some o=>
   obtain ⟨c,k⟩:=aexec_out (X:=X) (P:=P) rel (o:=o) (fun hk=>eval_of hf.tmps hk)
   refine ⟨c,fun o' h'=>?_⟩
   cases h'
   intro n h' e
   exact k e
 refine ⟨c,fun r e hb=>?_⟩
 generalize hc₀:c=c₀ at e
 subst hc₀
 unfold astep at e
 have hmode:=hf.mode
 have hround:=hf.round
 have htodo:=hf.todo
 cases hret:s.fr.ret with
 |true=>
  rw [hret] at e hmode
  have hm:f.mode = .returning:=hmode
  dsimp only at e
  unfold aunwind at e
  have hd:=hf.defers
  obtain ⟨fn,tmps,todo,defers,mode,kind,ro⟩:=f
  dsimp only at hd hm
  subst hm
  split at e
  ·rename_i lb args ds hdef
   rw [hdef] at hd
   cases hd with
   | @cons _ d' _ ds' hdd hds=>
    obtain ⟨ht,ha⟩:=hdd
    obtain ⟨tg,args'⟩:=d'
    dsimp only at ht ha
    cases ht with
    | @collected _ lb' hlb=>
     split at e
     ·rename_i calls h₁ hx
      cases e
      obtain ⟨τ,calls',w',es,h1,h2,h3,h4,h5,h8,h9⟩:=out_of (X:=X) ((sr_takeDeferred hlb).sim0 rel hx) fn
      refine ⟨τ,gor ⟨fn,tmps,todo,calls' ++ ds',.returning,kind,ro⟩ (cs ++ base),w',seen P fn es,?_,h2,h3,⟨⟨lo,_,cs,Nat.le_trans hlo h8,rfl,.plain ?_,hcs.mono h3 (fun x hx=>h9 x (by omega)) (Nat.le_refl _)⟩,h5⟩⟩
      ·rw [stepG_ret rfl]
       simp only [unwind,h1]
       rw [after_go]
       rfl
      ·have hf' :=hf.mono h3
       exact ⟨⟨hf'.fn,h4.append (hds.mono fun _ _ x=>x.mono h3),hf'.mode,hf'.kind,hf'.round⟩,hf'.tmps,hf'.todo⟩
     ·cases e
  ·cases e
  ·rename_i hdef
   rw [hdef] at hd
   cases hd
   split at e
   ·cases e
   ·rename_i fd hfd
    split at e
    ·rename_i v h₁ hx
     obtain ⟨τ,v',w',es,h1,h2,h3,h4,h5,h8,h9⟩:=out_of (X:=X) ((sr_results fd hf.tmps).sim0 rel hx) fn
     obtain ⟨hdk,e⟩:=aret_dk e
     obtain ⟨g',h6,h7⟩:=doReturn_r (P:=P) (m:=m) (base:=base) (f:=⟨fn,tmps,todo,[],.returning,kind,ro⟩) (hf.normal hdk) (Nat.le_trans hlo h8) (hcs.mono h3 (fun x hx=>h9 x (by omega)) (Nat.le_refl _)) h4 h5 hb e
     refine ⟨τ,g',w',seen P fn es,?_,h2,h3,h7⟩
     have hfn:fn=s.fr.fn:=hf.fn
     rw [stepG_ret rfl]
     simp only [unwind,hfn,hfd]
     dsimp only at h1
     rw [h1]
     dsimp only
     rw [hfn] at h6
     rw [h6,after_go]
    ·cases e
 |false=>
  rw [hret] at e hmode
  have hm:f.mode = .run:=hmode
  dsimp only at e
  obtain ⟨fn,tmps,todo,defers,mode,kind,ro⟩:=f
  dsimp only at htodo hround hm
  subst hm
  cases ht:s.fr.todo with
  |nil=>
   rw [ht] at e htodo
   cases htodo
   exact leave_sim hf hlo hcs rel (hb:=hb) (by simp only [stepG.exec];cases ro<;>rfl) e rfl
  |cons it k=>
   rw [ht] at e htodo
   cases htodo with
   | @cons _ it' _ k' hi hl=>
    cases hi with
    |inBlock id=>exact to_sim hf hlo hcs rel rfl e hl (by simp only [stepG.exec];rfl)
    |inScope x=>exact to_sim hf hlo hcs rel rfl e hl (by simp only [stepG.exec];rfl)
    |inLoop x=>exact to_sim hf hlo hcs rel rfl e (.cons (.code _) (.cons (.inLoop _) hl)) (by simp only [stepG.exec];rfl)
    |code x=>
     cases x with
     |ret=>exact leave_sim hf hlo hcs rel (hb:=hb) (by simp only [stepG.exec];cases ro<;>rfl) e rfl
     |skip=>exact to_sim hf hlo hcs rel rfl e hl (by simp only [stepG.exec];rfl)
     |label l=>exact to_sim hf hlo hcs rel rfl e hl (by simp only [stepG.exec];rfl)
     |seq x y=>exact to_sim hf hlo hcs rel rfl e (.cons (.code _) (.cons (.code _) hl)) (by simp only [stepG.exec];rfl)
     |block id x=>exact to_sim hf hlo hcs rel rfl e (.cons (.code _) (.cons (.inBlock _) hl)) (by simp only [stepG.exec];rfl)
     |loop x=>exact to_sim hf hlo hcs rel rfl e (.cons (.code _) (.cons (.inLoop _) hl)) (by simp only [stepG.exec];rfl)
     |scope x=>exact to_sim hf hlo hcs rel rfl e (.cons (.code _) (.cons (.inScope _) hl)) (by simp only [stepG.exec];rfl)
     |cond x a b'=>
      dsimp only at e
      split at e
      ·rename_i hk
       have hv:=cond_r hf.tmps hk
       split at e
       ·rename_i t hx
        rw [hx] at hv
        refine to_sim hf hlo hcs rel rfl e (.cons (.code _) hl) ?_
        simp only [stepG.exec]
        generalize Frame.eval _ x=v at hv
        cases hv
        rfl
       ·cases e
      ·cases e
     |exit id=>
      have hx:=exitTo_r hl id
      dsimp only at e
      split at e
      ·rename_i k₁ h₁
       rw [h₁] at hx
       generalize h₂:exitTo id k' = z at hx
       cases hx with
       |some hx=>exact to_sim hf hlo hcs rel rfl e hx (by simp only [stepG.exec,h₂];rfl)
      ·rename_i h₁
       rw [h₁] at hx
       generalize h₂:exitTo id k' = z at hx
       cases hx
       exact leave_sim hf hlo hcs rel (hb:=hb) (by simp only [stepG.exec,h₂];cases ro<;>rfl) e rfl
     |goto l=>
      have hx:=gotoIn_r hl l
      dsimp only at e
      split at e
      ·rename_i k₁ h₁
       rw [h₁] at hx
       generalize h₂:gotoIn l k' = z at hx
       cases hx with
       |some hx=>exact to_sim hf hlo hcs rel rfl e hx (by simp only [stepG.exec,h₂];rfl)
      ·rename_i h₁
       rw [h₁] at hx
       generalize h₂:gotoIn l k' = z at hx
       cases hx
       exact leave_sim hf hlo hcs rel (hb:=hb) (by simp only [stepG.exec,h₂];cases ro<;>rfl) e rfl
     |region id ops d=>
      cases d with
      |true=>
       dsimp only at e
       split at e
       ·rename_i hp
        simp only [Bool.and_eq_true] at hp
        simp only [ato,Option.some.injEq] at e
        subst e
        have hst:stepG P m (gor ⟨fn,tmps,.code (.region id ops true) :: k',defers,.run,kind,ro⟩ (cs ++ base)) w = .go (gor ⟨fn,tmps,.inRegion ops (Region.schedule true ops (w.tape w.drawn (.order fn id))) :: k',defers,.run,kind,ro⟩ (cs ++ base)) { w with drawn:=w.drawn+1 } #[]:=by
         rw [stepG_run rfl]
         simp only [stepG.exec,hp.2]
         rfl
        refine ⟨ρ,_,_,#[],hst,guar_drawn _,.refl ρ,⟨⟨lo,_,cs,hlo,rfl,?_,hcs⟩,(rel.drawn _).mono fun _=>.inl⟩⟩
        exact start_fd ((okPlanF_eq _ _).symm.trans hp.1) hret (f:=⟨fn,tmps,.code (.region id ops true) :: k',defers,.run,kind,ro⟩) (a:=s.fr) ⟨hf.fn,hf.defers,hf.mode,hf.kind,hf.round⟩ hf.tmps hl _
       ·cases e
      |false=>exact to_sim hf hlo hcs rel rfl e (.cons (.region _ _) hl) (by simp only [stepG.exec];rfl)
     |rangeFunc x params assign body=>
      dsimp only at e
      split at e
      ·rename_i hk
       have hv:=cond_r hf.tmps hk
       split at e
       ·rename_i gf first captured hx
        split at e
        ·rename_i lp mark h₁ hen
         obtain ⟨τ,y,w₁,es,h1,h2,h3,h4,h5,h8,h9⟩:=out_of (X:=X) ((sr_enterLoop s.fr.fn hf.tmps params assign body hround).sim0 rel hen) fn
         obtain ⟨lp',mark'⟩:=y
         obtain ⟨hlp,hmark⟩:=h4
         dsimp only at hlp hmark
         have hf' :=hf.mono h3
         have hcs':Stk τ lo s.cs cs:=hcs.mono h3 (fun x hx=>h9 x (by omega)) (Nat.le_refl _)
         have hfF:F0 τ { s.fr with todo:=.inRangeFunc lp :: k,defers:=mark ++ s.fr.defers } ⟨fn,tmps,.inRangeFunc lp' :: k',mark' ++ defers,.run,kind,ro⟩:=
          ⟨⟨hf'.fn,hmark.append hf'.defers,hf'.mode,hf'.kind,hf'.round⟩,hf'.tmps,.cons (.inRangeFunc hlp) (hl.mono fun _ _ z=>z.mono h3)⟩
         rw [hx] at hv
         have hst:stepG P m (gor ⟨fn,tmps,.code (.rangeFunc x params assign body) :: k',defers,.run,kind,ro⟩ (cs ++ base)) w=GStep.after (seen P fn es) (stepG.apply P true ⟨fn,tmps,.inRangeFunc lp' :: k',mark' ++ defers,.run,kind,ro⟩ (cs ++ base) none (do let d ←resolve (Frame.eval ⟨fn,tmps,.code (.rangeFunc x params assign body) :: k',defers,.run,kind,ro⟩) { callee:=.value x,args:=#[.const (.func (.yield lp') #[] #[])],argTypes:=#[] } 0;invoke d.target d.args) w₁):=by
          rw [stepG_run rfl]
          have hfn:s.fr.fn=fn:=hf.fn.symm
          rw [hfn] at h1
          dsimp only at h1
          simp only [stepG.exec,h1]
          rfl
         generalize hfe:Frame.eval ⟨fn,tmps,.code (.rangeFunc x params assign body) :: k',defers,.run,kind,ro⟩ x=v at hv
         cases hv with
         | @func _ _ a₁ a₂ b₁ b₂ hfn hs1 hv1 hs2 hv2=>
          cases hfn
          have hres:(do let d ←resolve (Frame.eval ⟨fn,tmps,.code (.rangeFunc x params assign body) :: k',defers,.run,kind,ro⟩) { callee:=.value x,args:=#[.const (.func (.yield lp') #[] #[])],argTypes:=#[] } 0;invoke d.target d.args:Sem Next)=callFunc gf ((a₂ ++ #[.func (.yield lp') #[] #[]]) ++ b₂):=by
            unfold resolve
            dsimp only
            rw [hfe]
            simp only [List.map_toArray,List.map_cons,List.map_nil]
            rfl
          rw [hres] at hst
          cases har:(callFunc gf ((first ++ #[.func (.yield lp) #[] #[]]) ++ captured)).ar P none h₁ with
          | none=>rw [har] at e;cases e
          | some p=>
            obtain ⟨n,h'⟩:=p
            rw [har] at e
            have hargs:AR (VR τ) ((first ++ #[.func (.yield lp) #[] #[]]) ++ captured) ((a₂ ++ #[.func (.yield lp') #[] #[]]) ++ b₂):=by
             refine AR.append (AR.append ⟨hs1,fun i u v hu hv=>(hv1 i u v hu hv).mono h3⟩ ?_) ⟨hs2,fun i u v hu hv=>(hv2 i u v hu hv).mono h3⟩
             exact AR.empty.push (.func (.yield hlp) rfl (fun i x y h=>by simp at h) rfl (fun i x y h=>by simp at h))
            have k₂:=(sr_callFunc (P:=P) gf hargs).sim0 (X:=X) h5 har
            obtain ⟨υ,g',w',es',i1,i2,i3,i4⟩:=apply_r (base:=base) (.plain hfF) (Nat.le_trans hlo h8) hcs' e k₂
            refine ⟨υ,g',w',seen P fn es ++ es',?_,h2.trans i2,h3.trans i3,i4.mono fun z hz=>Go.Ren.grow_trans hz h2.size i2.size⟩
            rw [hst,i1]
            rfl
        ·cases e
       ·cases e
      ·cases e
     |refuse why=>cases e
    |region ops l=>
     cases l with
     |nil=>exact to_sim hf hlo hcs rel rfl e hl (by simp only [stepG.exec];rfl)
     |cons i l=>
      dsimp only at e
      have ho' :=ho ops i l k ht
      split at e
      ·rename_i o' hoi
       have hoo:o=some o' :=by rw [ho',hoi]
       have hy:=yielded_r (ops:=ops) hf.tmps
       dsimp only at hy
       split at e
       ·rename_i hw
        have hst:stepG P m (gor ⟨fn,tmps,.inRegion ops (i :: l) :: k',defers,.run,kind,ro⟩ (cs ++ base)) w=stepG.apply P true ⟨fn,tmps,.inRegion ops (i :: l) :: k',defers,.run,kind,ro⟩ (cs ++ base) none (execOp (Frame.eval ⟨fn,tmps,.inRegion ops (i :: l) :: k',defers,.run,kind,ro⟩) o') w:=by
         rw [stepG_run rfl]
         simp only [stepG.exec,hoi,Option.map_some,Option.getD_some]
         rw [hy,if_pos hw]
         simp only [stepG.oper,Frame.oper?,hoi]
         have hnd:∀q,o'.op ≠ .defer q:=by
          cases hx:aexec P (some c) s.h s.fr.tmps o' with
          | none=>rw [hx] at e;simp [aapply] at e
          | some p=>exact aexec_nd hx
         split
         ·rename_i hdf;exact absurd hdf (hnd _)
         ·rfl
        cases hx:aexec P (some c) s.h s.fr.tmps o' with
        |none=>rw [hx] at e;simp [aapply] at e
        |some p=>
         obtain ⟨n,h'⟩:=p
         rw [hx] at e
         have k:=hc o' hoo hx
         obtain ⟨τ,g',w',es,h1,h2,h3,h4⟩:=apply_r (X:=X) (.plain hf) hlo hcs e k
         exact ⟨τ,g',w',es,by rw [hst,h1],h2,h3,h4⟩
       ·rename_i hw
        simp only [Option.map_eq_some_iff] at e
        obtain ⟨a',e1,rfl⟩:=e
        refine ctl ?_ (afinish_r hf vr_undef e1) hlo hcs rel
        rw [stepG_run rfl]
        simp only [stepG.exec,hoi,Option.map_some,Option.getD_some]
        rw [hy,if_neg hw]
        rfl
      ·cases e
    |inRangeFunc hl'=>cases e
    | @endRangeFunc lp lp' hlp=>
     dsimp only at e
     split at e
     ·rename_i jump h₁ hx
      cases e
      obtain ⟨τ,j',w',es,h1,h2,h3,h4,h5,h8,h9⟩:=out_of (X:=X) ((sr_endLoop hlp).sim0 rel hx) fn
      cases h4
      have hst:stepG P m (gor ⟨fn,tmps,.endRangeFunc lp' :: k',defers,.run,kind,ro⟩ (cs ++ base)) w = .go (gor ⟨fn,tmps,(jump.map Item.code).toList ++ k',defers,.run,kind,ro⟩ (cs ++ base)) w' (seen P fn es):=by
       rw [stepG_run rfl]
       simp only [stepG.exec,h1]
       rw [after_go]
       rfl
      refine ⟨τ,_,w',_,hst,h2,h3,⟨⟨lo,_,cs,Nat.le_trans hlo h8,rfl,.plain ((hf.mono h3).withTodo ?_),hcs.mono h3 (fun x hx=>h9 x (by omega)) (Nat.le_refl _)⟩,h5⟩⟩
      have hl' :=hl.mono fun _ _ (x:ItR ρ _ _)=>x.mono h3
      cases jump with
      |none=>exact hl'
      |some c=>exact .cons (.code c) hl'
     ·cases e
    |beginRound=>
     dsimp only at e
     cases har:s.fr.round with
     |none=>rw [har] at e;cases e
     |some lp=>
      rw [har] at e hround
      cases hround with
      | @some _ lp' hlp=>
       dsimp only at e
       split at e
       ·rename_i u h₁ hx
        cases e
        rw [←har]
        have hout:Out P X D NR ρ O s.h w ((some lp').elim (Go.stuck "beginRound: no round") Instr.beginRound >>= fun _=>Pure.pure Next.skip) Next.skip h₁:=by
         refine (SR.unit (sr_beginRound hlp)).sim0 rel ?_
         show ((Instr.beginRound lp).bind fun _=>Sem.pure Next.skip).ar P none s.h=_
         exact ar_bind_pure _ _ _ _ hx
        have e':aapply P s.fr s.cs (some (Next.skip,h₁))=some (Res.go { s with fr:={ s.fr with todo:=k },h:=h₁ }):=by
         simp only [aapply,afinish,ht,Option.map_some]
        obtain ⟨τ,g',w',es,h1,h2,h3,h4⟩:=apply_r (X:=X) (.plain hf) hlo hcs e' hout
        refine ⟨τ,g',w',es,?_,h2,h3,h4⟩
        rw [stepG_run rfl]
        simp only [stepG.exec]
        exact h1
       ·cases e
end
end Go.Am
