import Derived.Conc.AtomicLaws2
import Derived.Conc.ClockLaws
import Derived.Conc.MarkLaws
import Derived.Conc.SmallLaws
import Derived.Conc.Listed
import Derived.Test.YtmgllphkofdnhaaGreatH25
import Derived.Test.YtmgllphkofdnhaaGreatH26
set_option linter.unusedVariables false
set_option linter.unusedSectionVars false
set_option linter.unusedSimpArgs false
namespace Go.Sy
open Go.Ren
open Go.Conc hiding Goes
section
variable{P:Program}{tI:TypeId}{ν:Nat→Value}{T:Tab}{e:Env}{A:Array Value}{o:Oper}
theorem yields_pure{α:Type}(v:α):Yields P (pure v:Sem α) v:=fun w=>⟨by simp [go_sem],fun es=>by simp [go_sem]⟩
theorem yields_map{α β:Type}{f:Sem α}{v:α}(g:α→β)(h:Yields P f v):Yields P (do pure (g (←f))) (g v):=fun w=>by
 obtain ⟨h1,h2⟩:=h w
 exact ⟨by simp [go_sem,h1],fun es=>by simp [go_sem,h1,h2]⟩
theorem look_ok(h:TabOk P tI ν T){k:Key}{z:E}(hl:look T k=some z):KeyOk P tI ν k z:=by
 induction T with
 | nil=>cases hl
 | cons p T ih=>
   obtain ⟨j,x⟩:=p
   unfold look at hl
   split at hl
   ·rename_i e;subst e;cases hl;exact h _ (List.mem_cons_self ..)
   ·exact ih (fun q hq=>h q (List.mem_cons_of_mem _ hq)) hl
theorem opE_ok(h:Agree ν e A){ds:List Deferred}{x:Operand}{z:E}(hx:opE e x=some z):Act.eval ⟨A,ds⟩ x=z.den ν:=by
 unfold opE at hx
 split at hx
 · rename_i t
   have:=h t z hx
   simp [Act.eval,Array.getD_eq_getD_getElem?,this]
 · cases hx;rfl
 · cases hx;rfl
 · cases hx
theorem Agree.put(h:Agree ν e A){d:Option Nat}{x:Option E}{y:Value}(hy:∀z,x=some z→y=z.den ν)(hd:∀k,d=some k→k < A.size):Agree ν (put e d x) ((Act.put ⟨A,[]⟩ d y).tmps):=by
 intro k z hz
 unfold Act.put
 cases d with
 | none=>exact h k z hz
 | some d=>
   have hlt:=hd d rfl
   simp only [Go.Sy.put,get] at hz
   dsimp only
   split at hz
   ·rename_i e1
    have:d=k:=by simpa using e1
    subst this
    rw [Array.getElem?_setIfInBounds_self_of_lt hlt,hy z hz]
   ·rename_i e1
    have:d≠k:=by simpa using e1
    rw [Array.getElem?_setIfInBounds_ne this]
    exact h k z hz
theorem opv_ok(hT:TabOk P tI ν T)(h:Agree ν e A){ds:List Deferred}{z:E}{l:List TypeId}(hv:opv T e o=some (z,l))(hl:∀t∈l,t=tI):Yields P (execOp (Act.eval ⟨A,ds⟩) o) (.value (z.den ν)):=by
 unfold opv at hv
 unfold execOp
 split at hv
 · rename_i x he
   rw [he]
   cases hx:opE e x with
   |none=>rw [hx] at hv;cases hv
   |some y=>rw [hx] at hv;simp only [Option.map_some,Option.some.injEq,Prod.mk.injEq] at hv;obtain ⟨rfl,rfl⟩:=hv;dsimp only;rw [opE_ok h hx];exact yields_pure _
 · rename_i x he
   rw [he]
   cases hx:opE e x with
   |none=>rw [hx] at hv;cases hv
   |some y=>rw [hx] at hv;simp only [Option.map_some,Option.some.injEq,Prod.mk.injEq] at hv;obtain ⟨rfl,rfl⟩:=hv;dsimp only;rw [opE_ok h hx];exact yields_pure _
 · rename_i c a b he
   rw [he]
   dsimp only
   split at hv
   ·rename_i hc
    rw [opE_ok h hc]
    cases hx:opE e a with
    |none=>rw [hx] at hv;cases hv
    |some y=>rw [hx] at hv;simp only [Option.map_some,Option.some.injEq,Prod.mk.injEq] at hv;obtain ⟨rfl,rfl⟩:=hv;rw [opE_ok h hx];exact fun w=>⟨by simp [go_sem,E.den,asBool],fun es=>by simp [go_sem,E.den,asBool]⟩
   ·rename_i hc
    rw [opE_ok h hc]
    cases hx:opE e b with
    |none=>rw [hx] at hv;cases hv
    |some y=>rw [hx] at hv;simp only [Option.map_some,Option.some.injEq,Prod.mk.injEq] at hv;obtain ⟨rfl,rfl⟩:=hv;rw [opE_ok h hx];exact fun w=>⟨by simp [go_sem,E.den,asBool],fun es=>by simp [go_sem,E.den,asBool]⟩
   ·cases hv
 · rename_i x he
   rw [he]
   dsimp only
   cases hx:opE e x with
   |none=>rw [hx] at hv;cases hv
   |some y=>
    rw [hx] at hv
    simp only [Option.bind_some] at hv
    cases hk:look T (.nil y) with
    |none=>rw [hk] at hv;cases hv
    |some z'=>
     rw [hk] at hv;simp only [Option.map_some,Option.some.injEq,Prod.mk.injEq] at hv;obtain ⟨rfl,rfl⟩:=hv
     obtain ⟨rfl,q,hq⟩:=look_ok hT hk
     rw [opE_ok h hx,hq]
     exact yields_pure _
 · rename_i op ty x y r he
   rw [he]
   dsimp only
   split at hv
   ·rename_i a b ha hb
    cases hk:look T (.bin op a b) with
    |none=>rw [hk] at hv;cases hv
    |some z'=>
     rw [hk] at hv;simp only [Option.map_some,Option.some.injEq,Prod.mk.injEq] at hv;obtain ⟨rfl,rfl⟩:=hv
     rw [opE_ok h ha,opE_ok h hb]
     exact yields_map Next.value (look_ok hT hk ty x y)
   ·cases hv
 · rename_i ty x he
   rw [he]
   dsimp only
   split at hv
   ·rename_i t ht
    simp only [Option.some.injEq,Prod.mk.injEq] at hv
    obtain ⟨rfl,rfl⟩:=hv
    rw [opE_ok h ht]
    exact yields_map Next.value (yields_pure _)
   ·cases hv
 · rename_i s x f he
   rw [he]
   dsimp only
   cases hx:opE e x with
   |none=>rw [hx] at hv;cases hv
   |some y=>
    rw [hx] at hv
    simp only [Option.bind_some] at hv
    cases hk:look T (.fld y f) with
    |none=>rw [hk] at hv;cases hv
    |some z'=>
     rw [hk] at hv;simp only [Option.map_some,Option.some.injEq,Prod.mk.injEq] at hv;obtain ⟨rfl,rfl⟩:=hv
     obtain rfl:=hl s (List.mem_cons_self ..)
     rw [opE_ok h hx]
     exact yields_map Next.value (look_ok hT hk)
 · cases hv
theorem wanted_ok(h:Agree ν e A){ops:Array Oper}{b:Bool}(hw:isWanted ops e o=some b):Region.wanted o (yielded ops A)=b:=by
 unfold isWanted at hw
 unfold Region.wanted
 split at hw
 · rename_i hg;rw [hg];cases hw;rfl
 · rename_i g c hg
   rw [hg]
   dsimp only
   split at hw
   ·rename_i d hd
    split at hw
    ·rename_i t ht
     cases hw
     have:=h d _ ht
     simp only [yielded,hd,Option.bind_some,this,E.den]
     cases t<;>cases c<;>rfl
    ·cases hw
   ·cases hw
end
end Go.Sy
namespace Go.Sy
open Go.Ren
open Go.Conc hiding Goes
section
variable{P:Program}{tI:TypeId}{ν:Nat→Value}{T:Tab}{A:Array Value}{sz:Nat}{m:Bool}{b:Frame}{ds:List Deferred}{cs:List Frame}{s s':S}
theorem dst_lt{o:Oper}(h:¬dstOk sz o=false)(hz:A.size=sz):∀k,o.dst=some k→k < A.size:=by
 intro k hk
 unfold dstOk at h
 rw [hk] at h
 dsimp only at h
 rw [hz]
 simpa using h
theorem step_ok(hT:TabOk P tI ν T)(hk:b.kind ≠ .early)(hz:A.size=sz)(h:Agree ν s.env A)(hs:step sz T s=some s')(hl:∀t∈s'.log,t=tI) :
   (∀t∈s.log,t∈s'.log)∧∃A':Array Value,A'.size=sz∧Agree ν s'.env A' ∧ ∀w,stepG P m (G (b.at ⟨A,ds⟩ s.todo) cs) w = .go (G (b.at ⟨A',ds⟩ s'.todo) cs) w #[]:=by
 obtain ⟨e,todo,log⟩:=s
 unfold step at hs
 dsimp only at hs h ⊢
 split at hs
 · cases hs;exact ⟨fun _ x=>x,A,hz,h,fun w=>stepG_skip⟩
 · cases hs;exact ⟨fun _ x=>x,A,hz,h,fun w=>stepG_seq⟩
 · split at hs
   ·rename_i t ht
    cases hs
    exact ⟨fun _ x=>x,A,hz,h,fun w=>stepG_cond (opE_ok h ht)⟩
   ·cases hs
 · cases hs;exact ⟨fun _ x=>x,A,hz,h,fun w=>stepG_block⟩
 · cases hs;exact ⟨fun _ x=>x,A,hz,h,fun w=>stepG_loop⟩
 · cases hs;exact ⟨fun _ x=>x,A,hz,h,fun w=>stepG_inLoop⟩
 · cases hs;exact ⟨fun _ x=>x,A,hz,h,fun w=>stepG_inBlock⟩
 · rename_i id k
   cases hx:exitTo id k with
   |none=>rw [hx] at hs;cases hs
   |some k'=>rw [hx] at hs;cases hs;exact ⟨fun _ x=>x,A,hz,h,fun w=>stepG_exit hx⟩
 · cases hs;exact ⟨fun _ x=>x,A,hz,h,fun w=>stepG_region⟩
 · cases hs;exact ⟨fun _ x=>x,A,hz,h,fun w=>stepG_region_end⟩
 · rename_i ops i rest k
   split at hs
   ·rename_i o ho
    split at hs
    ·cases hs
    ·rename_i hd
     have hlt:=dst_lt hd hz
     split at hs
     ·rename_i hw
      split at hs
      ·rename_i x l hv
       cases hs
       have hy:=opv_ok (ds:=ds) hT h hv fun t ht=>hl t (List.mem_append_left _ ht)
       refine ⟨fun t ht=>List.mem_append_right _ ht,(Act.put ⟨A,[]⟩ o.dst (x.den ν)).tmps,?_,h.put (fun z hz=>by cases hz;rfl) hlt,fun w=>?_⟩
       ·unfold Act.put;split<;>simp [hz]
       ·have h1:=stepG_value (P:=P) (main:=m) (cs:=cs) (b:=b) (a:=⟨A,ds⟩) (k:=k) (rest:=rest) ho (wanted_ok h hw) hk (hy w).1
        rw [h1]
        unfold listed
        rw [(hy w).2,seen_none]
        unfold Act.put
        cases o.dst<;>rfl
      ·cases hs
     ·rename_i hw
      cases hs
      refine ⟨fun _ x=>x,(Act.put ⟨A,[]⟩ o.dst undef).tmps,?_,h.put (fun z hz=>by cases hz) hlt,fun w=>?_⟩
      ·unfold Act.put;split<;>simp [hz]
      ·rw [stepG_unwanted ho (wanted_ok h hw)]
       unfold Act.put
       cases o.dst<;>rfl
     ·cases hs
   ·cases hs
 · cases hs
theorem run_log(hs:∀ {s s':S},step sz T s=some s' → ∀t∈s.log,t∈s'.log):∀(n:Nat) (s:S),∀t∈s.log,t∈(run sz T n s).log
 | 0,s,t,ht=>ht
 | n+1,s,t,ht=>by
   unfold run
   split
   ·rename_i s' h;exact run_log hs n s' t (hs h t ht)
   ·exact ht
theorem step_log{s s':S}(h:step sz T s=some s'):∀t∈s.log,t∈s'.log:=by
 obtain ⟨e,todo,log⟩:=s
 intro t ht
 unfold step at h
 dsimp only at h
 split at h
 · cases h;exact ht
 · cases h;exact ht
 · split at h
   ·cases h;exact ht
   ·cases h
 · cases h;exact ht
 · cases h;exact ht
 · cases h;exact ht
 · cases h;exact ht
 · rename_i id k
   cases hx:exitTo id k with
   |none=>rw [hx] at h;cases h
   |some k'=>rw [hx] at h;cases h;exact ht
 · cases h;exact ht
 · cases h;exact ht
 · split at h
   ·split at h
    ·cases h
    ·split at h
     ·split at h
      ·cases h;exact List.mem_append_right _ ht
      ·cases h
     ·cases h;exact ht
     ·cases h
   ·cases h
 · cases h
theorem run_ok{I:World→Prop}{X:Event→Prop}{Q:Nat→Goroutine→Prop}{d:Nat}(hT:TabOk P tI ν T)(hk:b.kind ≠ .early):∀(n:Nat) (s:S) (A:Array Value),A.size=sz→Agree ν s.env A→(∀t∈(run sz T n s).log,t=tI) →
   (∀A':Array Value,A'.size=sz→Agree ν (run sz T n s).env A' → IdleD P m I X Q d (G (b.at ⟨A',ds⟩ (run sz T n s).todo) cs))→IdleD P m I X Q d (G (b.at ⟨A,ds⟩ s.todo) cs)
 | 0,s,A,hz,h,hl,k=>k A hz h
 | n+1,s,A,hz,h,hl,k=>by
   unfold run at hl k
   split at hl
   ·rename_i s' hs
    rw [hs] at k
    obtain ⟨_,A',hz',h',hg⟩:=step_ok (m:=m) (ds:=ds) (cs:=cs) hT hk hz h hs fun t ht=>hl t (run_log step_log n s' t ht)
    refine .step rfl (fun _=>G (b.at ⟨A',ds⟩ s'.todo) cs) (fun _=>#[]) (fun w _=>⟨hg w,by simp⟩) fun w _=>?_
    exact run_ok hT hk n s' A' hz' h' hl k
   ·rename_i hs
    rw [hs] at k
    exact k A hz h
end
end Go.Sy
namespace Go.Sy
open Go.Ren
open Go.Conc hiding Goes
def opAt(sz:Nat)(s:S):Option Oper:=match s.todo with
 | .inRegion ops (i :: _) :: _=>match ops[i]? with
   |some o=>if isWanted ops s.env o=some true then (if dstOk sz o then some o else none) else none
   |none=>none
 | _=>none
def callAt(sz:Nat)(s:S):Option (FuncId×List (Option E)):=match opAt sz s with
 | some o=>match o.op with
   | .call c=>match c.callee with
    | .value (.func f)=>some (f,c.args.toList.map (opE s.env))
    |_=>none
   |_=>none
 | none=>none
def loadAt(sz:Nat)(s:S):Option (TypeId×Option E):=match opAt sz s with
 | some o=>match o.op with
   | .load t x=>some (t,opE s.env x)
   |_=>none
 | none=>none
def next(s:S)(x:Option E):S:=match s.todo with
 | .inRegion ops (i :: rest) :: k=>⟨put s.env ((ops[i]?).bind (·.dst)) x,.inRegion ops rest :: k,s.log⟩
 | _=>s
section
variable{P:Program}{ν:Nat→Value}{A:Array Value}{sz:Nat}{m:Bool}{b:Frame}{ds:List Deferred}{cs:List Frame}{s:S}{o:Oper}
theorem opAt_ok(ho:opAt sz s=some o)(hz:A.size=sz)(h:Agree ν s.env A):∃(ops:Array Oper) (i:Nat) (rest:List Nat) (k:List Item),s.todo = .inRegion ops (i :: rest) :: k∧ops[i]? = some o∧Region.wanted o (yielded ops A)=true∧(∀x,(next s x).todo = .inRegion ops rest :: k) ∧
   (∀(x:Option E) (y:Value),(∀z,x=some z→y=z.den ν)→(Act.put ⟨A,ds⟩ o.dst y).tmps.size=sz∧(Act.put ⟨A,ds⟩ o.dst y)=⟨(Act.put ⟨A,ds⟩ o.dst y).tmps,ds⟩∧Agree ν (next s x).env (Act.put ⟨A,ds⟩ o.dst y).tmps):=by
 obtain ⟨e,todo,log⟩:=s
 unfold opAt at ho
 dsimp only at ho h ⊢
 split at ho
 · rename_i ops i rest k
   split at ho
   ·rename_i o' ho'
    split at ho
    ·rename_i hw
     split at ho
     ·rename_i hd
      cases ho
      refine ⟨ops,i,rest,k,rfl,ho',wanted_ok h hw,fun x=>rfl,fun x y hy=>⟨?_,?_,?_⟩⟩
      ·unfold Act.put;split<;>simp [hz]
      ·unfold Act.put;split<;>rfl
      ·unfold next
       dsimp only
       rw [ho',Option.bind_some]
       have:=h.put (d:=o.dst) hy (dst_lt (by rw [hd];simp) hz)
       unfold Act.put at this ⊢
       cases hod:o.dst<;>rw [hod] at this<;>exact this
     ·cases ho
    ·cases ho
   ·cases ho
 · cases ho
theorem callAt_op{f:FuncId}{xs:List (Option E)}(h:callAt sz s=some (f,xs)):∃(o:Oper) (args:Array Operand) (ats:Array TypeId),opAt sz s=some o∧o.op = .call { callee:=.value (.func f),args:=args,argTypes:=ats }∧args.toList.map (opE s.env)=xs:=by
 unfold callAt at h
 split at h
 · rename_i o ho
   split at h
   ·rename_i c hc
    split at h
    ·rename_i f' hf
     cases h
     obtain ⟨cl,as,ats⟩:=c
     dsimp only at hf
     subst hf
     exact ⟨o,as,ats,ho,hc,rfl⟩
    ·cases h
   ·cases h
 · cases h
theorem loadAt_op{t:TypeId}{x:Option E}(h:loadAt sz s=some (t,x)):∃(o:Oper) (y:Operand),opAt sz s=some o∧o.op = .load t y∧opE s.env y=x:=by
 unfold loadAt at h
 split at h
 · rename_i o ho
   split at h
   ·rename_i t' y hc
    cases h
    exact ⟨o,y,ho,hc,rfl⟩
   ·cases h
 · cases h
def Behind(ν:Nat→Value)(sz:Nat)(b:Frame)(ds:List Deferred)(cs:List Frame)(s:S)(g:Goroutine):Prop:=∃A:Array Value,A.size=sz∧Agree ν s.env A∧g=G (b.at ⟨A,ds⟩ s.todo) cs
variable{fn:Func}{f:FuncId}{w:World}
theorem cas_hit{p q r:E}(hc:callAt sz s=some (f,[some p,some q,some r]))(hz:A.size=sz)(h:Agree ν s.env A)(hk:b.kind ≠ .early)(hf:P.funcs[f]? = some fn)(hname:(fn.name == "runtime.NumGoroutine")=false)(hb:fn.body.isNone=true)(hn:Extern.findNext fn=none)
   (he:Extern.find fn=some (Extern.Atomic.casT (.int .i32))) {ad:Addr} {v n:Int} (hp:p.den ν = .pointer (some ad)) (hq:q.den ν = .int .i32 v) (hr:r.den ν = .int .i32 n) :
   ∃g',Behind ν sz b ds cs (next s (some (.b true))) g' ∧ ∀w:World,w.cell? ad=some (.int .i32 v)→w.frozen? ad=false→stepG P m (G (b.at ⟨A,ds⟩ s.todo) cs) w = .go g' (w.setCell ad (.int .i32 n)) #[⟨.cell ad,false,true⟩,⟨.cell ad,true,true⟩]:=by
 obtain ⟨o,args,ats,ho,hop,ha⟩:=callAt_op hc
 obtain ⟨ops,i,rest,k,h1,h2,h3,h4,h5⟩:=opAt_ok (ds:=ds) ho hz h
 obtain ⟨k1,k2,k3⟩:=h5 (some (.b true)) (.bool true) (fun z hz=>by cases hz;rfl)
 obtain ⟨args⟩:=args
 rcases args with _|⟨x,_|⟨y,_|⟨z,_|⟨u,args⟩⟩⟩⟩<;>simp only [List.map_cons,List.map_nil,List.cons.injEq,and_true,reduceCtorEq,and_false] at ha
 obtain ⟨a1,a2,a3⟩:=ha
 refine ⟨G (b.at (Act.put ⟨A,ds⟩ o.dst (.bool true)) (.inRegion ops rest :: k)) cs,⟨_,k1,k3,by rw [h4,←k2]⟩,fun w hcell hfr=>?_⟩
 rw [h1]
 exact stepG_cas_hit h2 h3 hk hop hf hname hb hn .i32 he ((opE_ok h a1).trans hp) ((opE_ok h a2).trans hq) ((opE_ok h a3).trans hr) hcell hfr
theorem cas_miss{p q r:E}(hc:callAt sz s=some (f,[some p,some q,some r]))(hz:A.size=sz)(h:Agree ν s.env A)(hk:b.kind ≠ .early)(hf:P.funcs[f]? = some fn)(hname:(fn.name == "runtime.NumGoroutine")=false)(hb:fn.body.isNone=true)(hn:Extern.findNext fn=none)
   (he:Extern.find fn=some (Extern.Atomic.casT (.int .i32))) {ad:Addr} {v n:Int} (hp:p.den ν = .pointer (some ad)) (hq:q.den ν = .int .i32 v) (hr:r.den ν = .int .i32 n) :
   ∃g',Behind ν sz b ds cs (next s (some (.b false))) g' ∧ ∀(w:World) (u:Int),w.cell? ad=some (.int .i32 u)→w.frozen? ad=false→¬u=v→stepG P m (G (b.at ⟨A,ds⟩ s.todo) cs) w = .go g' w #[⟨.cell ad,false,true⟩]:=by
 obtain ⟨o,args,ats,ho,hop,ha⟩:=callAt_op hc
 obtain ⟨ops,i,rest,k,h1,h2,h3,h4,h5⟩:=opAt_ok (ds:=ds) ho hz h
 obtain ⟨k1,k2,k3⟩:=h5 (some (.b false)) (.bool false) (fun z hz=>by cases hz;rfl)
 obtain ⟨args⟩:=args
 rcases args with _|⟨x,_|⟨y,_|⟨z,_|⟨u,args⟩⟩⟩⟩<;>simp only [List.map_cons,List.map_nil,List.cons.injEq,and_true,reduceCtorEq,and_false] at ha
 obtain ⟨a1,a2,a3⟩:=ha
 refine ⟨G (b.at (Act.put ⟨A,ds⟩ o.dst (.bool false)) (.inRegion ops rest :: k)) cs,⟨_,k1,k3,by rw [h4,←k2]⟩,fun w u hcell hfr hne=>?_⟩
 rw [h1]
 exact stepG_cas_miss h2 h3 hk hop hf hname hb hn .i32 he ((opE_ok h a1).trans hp) ((opE_ok h a2).trans hq) ((opE_ok h a3).trans hr) hcell hfr hne
theorem add_at{p q:E}(hc:callAt sz s=some (f,[some p,some q]))(hz:A.size=sz)(h:Agree ν s.env A)(hk:b.kind ≠ .early)(hf:P.funcs[f]? = some fn)(hname:(fn.name == "runtime.NumGoroutine")=false)(hb:fn.body.isNone=true)(hn:Extern.findNext fn=none)
   (he:Extern.find fn=some (Extern.Atomic.update (Op.intArith .add) .i32 true)) {ad:Addr} {v d:Int} {z:Option E} (hp:p.den ν = .pointer (some ad)) (hq:q.den ν = .int .i32 d) (hv:∀y,z=some y→Value.int .i32 (IntKind.i32.wrap (v+d))=y.den ν) :
   ∃g',Behind ν sz b ds cs (next s z) g' ∧ ∀w:World,w.cell? ad=some (.int .i32 v)→w.frozen? ad=false→stepG P m (G (b.at ⟨A,ds⟩ s.todo) cs) w = .go g' (w.setCell ad (.int .i32 (IntKind.i32.wrap (v+d)))) #[⟨.cell ad,false,true⟩,⟨.cell ad,true,true⟩]:=by
 obtain ⟨o,args,ats,ho,hop,ha⟩:=callAt_op hc
 obtain ⟨ops,i,rest,k,h1,h2,h3,h4,h5⟩:=opAt_ok (ds:=ds) ho hz h
 obtain ⟨k1,k2,k3⟩:=h5 z (.int .i32 (IntKind.i32.wrap (v+d))) hv
 obtain ⟨args⟩:=args
 rcases args with _|⟨x,_|⟨y,_|⟨u,args⟩⟩⟩<;>simp only [List.map_cons,List.map_nil,List.cons.injEq,and_true,reduceCtorEq,and_false] at ha
 obtain ⟨a1,a2⟩:=ha
 refine ⟨G (b.at (Act.put ⟨A,ds⟩ o.dst (.int .i32 (IntKind.i32.wrap (v+d)))) (.inRegion ops rest :: k)) cs,⟨_,k1,k3,by rw [h4,←k2]⟩,fun w hcell hfr=>?_⟩
 rw [h1]
 exact stepG_add_atomic h2 h3 hk hop hf hname hb hn .i32 he ((opE_ok h a1).trans hp) ((opE_ok h a2).trans hq) hcell hfr
theorem callAt_ok{xs:List (Option E)}(hc:callAt sz s=some (f,xs))(hz:A.size=sz)(h:Agree ν s.env A)(b:Frame)(ds:List Deferred)(cs:List Frame):∃(ops:Array Oper) (i:Nat) (rest:List Nat) (k:List Item) (o:Oper) (args:Array Operand) (ats:Array TypeId),
   s.todo = .inRegion ops (i :: rest) :: k∧ops[i]? = some o∧Region.wanted o (yielded ops A)=true∧o.op = .call { callee:=.value (.func f),args:=args,argTypes:=ats }∧(∀(n:Nat) (x:E),xs[n]? = some (some x)→(args.map (Act.eval ⟨A,ds⟩))[n]? = some (x.den ν))∧args.size=xs.length ∧
   (∀(z:Option E) (y:Value),(∀u,z=some u→y=u.den ν)→Behind ν sz b ds cs (next s z) (G (b.at (Act.put ⟨A,ds⟩ o.dst y) (.inRegion ops rest :: k)) cs)):=by
 obtain ⟨o,args,ats,ho,hop,ha⟩:=callAt_op hc
 obtain ⟨ops,i,rest,k,h1,h2,h3,h4,h5⟩:=opAt_ok (ds:=ds) ho hz h
 refine ⟨ops,i,rest,k,o,args,ats,h1,h2,h3,hop,fun n x hx=>?_,by rw [←ha];simp,fun z y hy=>?_⟩
 · rw [←ha,List.getElem?_map] at hx
   rw [Array.getElem?_map]
   cases hn:args[n]? with
   |none=>
    have e:args.toList[n]? = none:=by rw [←hn];simp
    rw [e] at hx;cases hx
   |some y=>
    have e:args.toList[n]? = some y:=by rw [←hn];simp
    rw [e] at hx
    simp only [Option.map_some,Option.some.injEq] at hx ⊢
    exact opE_ok h hx
 · obtain ⟨k1,k2,k3⟩:=h5 z y hy
   exact ⟨_,k1,k3,by rw [h4,←k2]⟩
theorem mark0_at(mk:Mark)(hm:∀g,mk ≠ .extern g){z:Option E}(hzn:z=none){xs:List (Option E)}(hc:callAt sz s=some (f,xs))(hz:A.size=sz)(h:Agree ν s.env A)(hk:b.kind ≠ .early)(hf:P.funcs[f]? = some fn)(hname:(fn.name == "runtime.NumGoroutine")=false)(hb:fn.body.isNone=true)(hn:Extern.findNext fn=none)
   (he:Extern.find fn=some (fun _=>do mark mk;pure Extern.Race.none_)):∃g',Behind ν sz b ds cs (next s z) g' ∧ ∀w,stepG P m (G (b.at ⟨A,ds⟩ s.todo) cs) w = .go g' w #[⟨.mark mk,false,true⟩]:=by
 obtain ⟨ops,i,rest,k,o,args,ats,h1,h2,h3,h4,h5,h6,h7⟩:=callAt_ok hc hz h b ds cs
 refine ⟨_,h7 z (.tuple #[]) (fun u hu=>by rw [hzn] at hu;cases hu),fun w=>?_⟩
 rw [h1]
 exact stepG_mark0 mk hm h2 h3 hk h4 hf hname hb hn he
theorem markAt_at(mk:Addr→Mark)(hm:∀ad g,mk ad ≠ .extern g){z:Option E}(hzn:z=none){q:E}{xs:List (Option E)}(hc:callAt sz s=some (f,some q :: xs))(hz:A.size=sz)(h:Agree ν s.env A)(hk:b.kind ≠ .early)(hf:P.funcs[f]? = some fn)(hname:(fn.name == "runtime.NumGoroutine")=false)(hb:fn.body.isNone=true)(hn:Extern.findNext fn=none)
   (he:Extern.find fn=some (Extern.Race.marked mk)) {ad:Addr} (hq:q.den ν = .pointer (some ad)):∃g',Behind ν sz b ds cs (next s z) g' ∧ ∀w,stepG P m (G (b.at ⟨A,ds⟩ s.todo) cs) w = .go g' w #[⟨.mark (mk ad),false,true⟩]:=by
 obtain ⟨ops,i,rest,k,o,args,ats,h1,h2,h3,h4,h5,h6,h7⟩:=callAt_ok hc hz h b ds cs
 refine ⟨_,h7 z (.tuple #[]) (fun u hu=>by rw [hzn] at hu;cases hu),fun w=>?_⟩
 rw [h1]
 exact stepG_markAt mk hm h2 h3 hk h4 hf hname hb hn he ((h5 0 q rfl).trans (by rw [hq]))
theorem semacq_at{z:Option E}(hzn:z=none){q:E}{xs:List (Option E)}(hc:callAt sz s=some (f,some q :: xs))(hz:A.size=sz)(h:Agree ν s.env A)(hk:b.kind ≠ .early)(hf:P.funcs[f]? = some fn)(hname:(fn.name == "runtime.NumGoroutine")=false)(hb:fn.body.isNone=true)(hn:Extern.findNext fn=none)
   (he:Extern.find fn=some Extern.Sync.semacquire) {ad:Addr} (hq:q.den ν = .pointer (some ad)):∃g',Behind ν sz b ds cs (next s z) g' ∧ (∀(w:World) (n:Int),w.cell? ad=some (.int .u32 n)→n≠0→w.frozen? ad=false→stepG P m (G (b.at ⟨A,ds⟩ s.todo) cs) w = .go g' (w.setCell ad (.int .u32 (n - 1))) (semEvents ad)) ∧
    ∀w:World,w.cell? ad=some (.int .u32 0)→stepG P m (G (b.at ⟨A,ds⟩ s.todo) cs) w = .go { G (b.at ⟨A,ds⟩ s.todo) cs with status:=.blocked } w #[]:=by
 obtain ⟨ops,i,rest,k,o,args,ats,h1,h2,h3,h4,h5,h6,h7⟩:=callAt_ok hc hz h b ds cs
 refine ⟨_,h7 z (.tuple #[]) (fun u hu=>by rw [hzn] at hu;cases hu),fun w n hcell hn0 hfr=>?_,fun w hcell=>?_⟩
 · rw [h1]
   exact stepG_semacquire h2 h3 hk h4 hf hname hb hn he ((h5 0 q rfl).trans (by rw [hq])) hcell hn0 hfr
 · rw [h1]
   exact stepG_semacquire_wait h2 h3 h4 hf hname hb hn he ((h5 0 q rfl).trans (by rw [hq])) hcell
theorem semrel_at{z:Option E}(hzn:z=none){q:E}{xs:List (Option E)}(hc:callAt sz s=some (f,some q :: xs))(hz:A.size=sz)(h:Agree ν s.env A)(hk:b.kind ≠ .early)(hf:P.funcs[f]? = some fn)(hname:(fn.name == "runtime.NumGoroutine")=false)(hb:fn.body.isNone=true)(hn:Extern.findNext fn=none)
   (he:Extern.find fn=some Extern.Sync.semrelease) {ad:Addr} (hq:q.den ν = .pointer (some ad)):∃g',Behind ν sz b ds cs (next s z) g' ∧ (∀(w:World) (n:Int),w.cell? ad=some (.int .u32 n)→w.frozen? ad=false→stepG P m (G (b.at ⟨A,ds⟩ s.todo) cs) w = .go g' (w.setCell ad (.int .u32 (IntKind.u32.wrap (n+1)))) (semEvents ad)):=by
 obtain ⟨ops,i,rest,k,o,args,ats,h1,h2,h3,h4,h5,h6,h7⟩:=callAt_ok hc hz h b ds cs
 refine ⟨_,h7 z (.tuple #[]) (fun u hu=>by rw [hzn] at hu;cases hu),fun w n hcell hfr=>?_⟩
 rw [h1]
 exact stepG_semrelease h2 h3 hk h4 hf hname hb hn he ((h5 0 q rfl).trans (by rw [hq])) hcell hfr
theorem canSpin_at{q:E}(hc:callAt sz s=some (f,[some q]))(hz:A.size=sz)(h:Agree ν s.env A)(hk:b.kind ≠ .early)(hf:P.funcs[f]? = some fn)(hname:(fn.name == "runtime.NumGoroutine")=false)(hb:fn.body.isNone=true)(hn:Extern.findNext fn=none)
   (he:Extern.find fn=some Extern.Sync.canSpin) {k:IntKind} {n:Int} (hq:q.den ν = .int k n) (c:Bool):∃g',Behind ν sz b ds cs (next s (some (.b c))) g' ∧ ∀w:World,(n < 4→w.spins=c→stepG P m (G (b.at ⟨A,ds⟩ s.todo) cs) w = .go g' w.asked #[])∧(4≤n→c=false→stepG P m (G (b.at ⟨A,ds⟩ s.todo) cs) w = .go g' w #[]):=by
 obtain ⟨ops,i,rest,k',o,args,ats,h1,h2,h3,h4,h5,h6,h7⟩:=callAt_ok hc hz h b ds cs
 have hx:args.map (Act.eval ⟨A,ds⟩) = #[.int k n]:=by
   apply Array.ext_getElem?
   intro j
   rcases j with _|j
   ·rw [h5 0 q rfl,hq];rfl
   ·rw [Array.getElem?_eq_none (by simp [h6]),Array.getElem?_eq_none (by simp)]
 refine ⟨_,h7 (some (.b c)) (.bool c) (fun u hu=>by cases hu;rfl),fun w=>⟨fun h4' hs=>?_,fun h4' hs=>?_⟩⟩
 · rw [h1,stepG_canSpin_ask h2 h3 hk h4 hf hname hb hn he hx h4',hs]
 · rw [h1,stepG_canSpin_no h2 h3 hk h4 hf hname hb hn he hx h4',hs]
theorem nano_at{z:Option E}{xs:List (Option E)}(hc:callAt sz s=some (f,xs))(hz:A.size=sz)(h:Agree ν s.env A)(hk:b.kind ≠ .early)(hf:P.funcs[f]? = some fn)(hname:(fn.name == "runtime.NumGoroutine")=false)(hb:fn.body.isNone=true)(hn:Extern.findNext fn=none)
   (he:Extern.find fn=some Extern.OsHooks.nano) (hq:fn.norace=true) (tv:Int) (hv:∀u,z=some u→Value.int .i64 tv=u.den ν):∃g',Behind ν sz b ds cs (next s z) g' ∧ ∀w:World,((w.os.mono+w.tick:Nat):Int)=tv→stepG P m (G (b.at ⟨A,ds⟩ s.todo) cs) w = .go g' w.later #[]:=by
 obtain ⟨ops,i,rest,k,o,args,ats,h1,h2,h3,h4,h5,h6,h7⟩:=callAt_ok hc hz h b ds cs
 refine ⟨_,h7 z (.int .i64 tv) hv,fun w hw=>?_⟩
 rw [h1,stepG_nanotime h2 h3 hk h4 hf hname hb hn he hq,hw]
theorem pure_at(v:Value){z:Option E}(hv:∀u,z=some u→v=u.den ν){xs:List (Option E)}(hc:callAt sz s=some (f,xs))(hz:A.size=sz)(h:Agree ν s.env A)(hk:b.kind ≠ .early)(hf:P.funcs[f]? = some fn)(hname:(fn.name == "runtime.NumGoroutine")=false)(hb:fn.body.isNone=true)(hn:Extern.findNext fn=none)
   (he:Extern.find fn=some (fun _=>pure v)):∃g',Behind ν sz b ds cs (next s z) g' ∧ ∀w,stepG P m (G (b.at ⟨A,ds⟩ s.todo) cs) w = .go g' w #[]:=by
 obtain ⟨ops,i,rest,k,o,args,ats,h1,h2,h3,h4,h5,h6,h7⟩:=callAt_ok hc hz h b ds cs
 refine ⟨_,h7 z v hv,fun w=>?_⟩
 rw [h1]
 exact stepG_entry_pure v h2 h3 hk h4 hf hname hb hn he
theorem load_at{q:E}{ty:TypeId}(hty:∀w,Sem.run P (underlying ty) w = .ok (.int .i32) w)(hsz:∀w,Sem.run P (Go.sizeOf ty) w = .ok 1 w)(hag:∀w,Sem.run P (isAgg ty) w = .ok false w){z:Option E}(hc:loadAt sz s=some (ty,some q))(hz:A.size=sz)(h:Agree ν s.env A)(hk:b.kind ≠ .early)(hq:(P.funcs[b.fn]?).any (·.norace)=true)
   {ad:Addr} (hp:q.den ν = .pointer (some ad)) {v:Int} (hv:∀u,z=some u→Value.int .i32 v=u.den ν) :
   ∃g',Behind ν sz b ds cs (next s z) g' ∧ ∀w:World,w.cell? ad=some (.int .i32 v)→stepG P m (G (b.at ⟨A,ds⟩ s.todo) cs) w = .go g' w #[]:=by
 obtain ⟨o,y,ho,hop,hy⟩:=loadAt_op hc
 obtain ⟨ops,i,rest,k,h1,h2,h3,h4,h5⟩:=opAt_ok (ds:=ds) ho hz h
 obtain ⟨k1,k2,k3⟩:=h5 z (.int .i32 v) hv
 have hx:=(opE_ok (ds:=ds) h hy).trans hp
 refine ⟨G (b.at (Act.put ⟨A,ds⟩ o.dst (.int .i32 v)) (.inRegion ops rest :: k)) cs,⟨_,k1,k3,by rw [h4,←k2]⟩,fun w hcell=>?_⟩
 rw [h1]
 have hr:(execOp (Act.eval ⟨A,ds⟩) o).run P w = .ok (.value (.int .i32 v)) w:=by
   unfold execOp
   simp only [hop,hx]
   simp [go_sem,hcell,hsz,hag]
 have he:(execOp (Act.eval ⟨A,ds⟩) o).events P w #[] = #[⟨.cell ad,false,false⟩]:=by
   unfold execOp
   simp only [hop,hx]
   simp [go_sem,hcell,hsz,hag]
 rw [stepG_value h2 h3 hk hr]
 unfold listed
 rw [he,seen_def,hq]
 simp [seenStep]
end
end Go.Sy
namespace Go.Mx
open Go.Ren Go.Sy
def bn(b:Bool)(k:Int):Int:=if b then k else 0
def tab(l w s n0 n1 z late:Bool):Tab:=
 [(.nil (.v 0),.v 0),(.fld (.v 0) 0,.v 1),(.fld (.v 0) 1,.v 2),
  (.bin .and (.v 4) (.i .i32 5),.i .i32 (bn l 1+bn s 4)),(.bin .and (.v 4) (.i .i32 1),.i .i32 (bn l 1)),(.bin .and (.v 4) (.i .i32 4),.i .i32 (bn s 4)),(.bin .and (.v 4) (.i .i32 2),.i .i32 (bn w 2)),
  (.bin .and (.v 4) (.i .i32 3),.i .i32 (bn l 1+bn w 2)),(.bin .shr (.v 4) (.i .u64 3),.v 8),
  (.bin .eql (.i .i32 0) (.i .i32 0),.b true),(.bin .eql (.i .i32 1) (.i .i32 0),.b false),(.bin .eql (.i .i32 2) (.i .i32 0),.b false),(.bin .eql (.i .i32 3) (.i .i32 0),.b false),(.bin .eql (.i .i32 4) (.i .i32 0),.b false),(.bin .eql (.i .i32 5) (.i .i32 0),.b false),
  (.bin .eql (.i .i32 0) (.i .i32 1),.b false),(.bin .eql (.i .i32 1) (.i .i32 1),.b true),(.bin .eql (.i .i32 4) (.i .i32 1),.b false),(.bin .eql (.i .i32 5) (.i .i32 1),.b false),
  (.bin .neq (.i .i32 0) (.i .i32 0),.b false),(.bin .neq (.i .i32 1) (.i .i32 0),.b true),(.bin .neq (.i .i32 2) (.i .i32 0),.b true),(.bin .neq (.i .i32 3) (.i .i32 0),.b true),(.bin .neq (.i .i32 4) (.i .i32 0),.b true),(.bin .neq (.i .i32 5) (.i .i32 0),.b true),
  (.bin .neq (.v 8) (.i .i32 0),.b !n0),(.bin .eql (.v 8) (.i .i32 0),.b n0),(.bin .eql (.v 8) (.i .i32 1),.b n1),
  (.bin .or (.v 4) (.i .i32 1),.v 10),(.bin .add (.v 4) (.i .i32 8),.v 11),(.bin .add (.v 10) (.i .i32 8),.v 18),(.bin .or (.v 18) (.i .i32 4),.v 12),(.bin .or (.v 4) (.i .i32 2),.v 14),
  (.bin .and (.v 10) (.i .i32 2),.i .i32 (bn w 2)),(.bin .and (.v 18) (.i .i32 2),.i .i32 (bn w 2)),(.bin .and (.v 12) (.i .i32 2),.i .i32 (bn w 2)),
  (.bin .andNot (.v 10) (.i .i32 2),.v 15),(.bin .andNot (.v 18) (.i .i32 2),.v 16),(.bin .andNot (.v 12) (.i .i32 2),.v 17),
  (.bin .add (.v 5) (.i .i64 1),.v 6),(.bin .neq (.v 3) (.i .i64 0),.b !z),(.bin .eql (.v 3) (.i .i64 0),.b z),
  (.bin .sub (.i .i32 (-7)) (.i .i32 4),.i .i32 (-11)),(.bin .sub (.v 20) (.v 3),.v 21),(.bin .gtr (.v 21) (.i .i64 1000000),.b late)]
def env0(aw sv:Bool):Env:=[(0,some (.v 0)),(2,some (.v 3)),(3,some (.b sv)),(4,some (.b aw)),(5,some (.v 5)),(6,some (.v 4))]
def head(L:MxLink)(aw sv:Bool):S:=⟨env0 aw sv,[.code (lsLoop L),.inLoop (lsLoop L),.inBlock 0,.code (lsRest L)],[]⟩
end Go.Mx
namespace Go.Mx
open Go.Ren Go.Sy
open Go.Conc hiding Goes
def band(a b:Int):Int:=IntKind.i32.wrap ((BitVec.ofInt 32 a &&& BitVec.ofInt 32 b).toNat:Int)
def bor(a b:Int):Int:=IntKind.i32.wrap ((BitVec.ofInt 32 a ||| BitVec.ofInt 32 b).toNat:Int)
def bandn(a b:Int):Int:=IntKind.i32.wrap ((BitVec.ofInt 32 a &&& ~~~BitVec.ofInt 32 b).toNat:Int)
def W4(l w s:Bool)(n:Nat):Int:=bn l 1+bn w 2+bn s 4+8 * (n:Int)
theorem w_and:∀n,n < 64→∀l w s:Bool,band (W4 l w s n) 5=bn l 1+bn s 4∧band (W4 l w s n) 1=bn l 1∧band (W4 l w s n) 4=bn s 4∧band (W4 l w s n) 2=bn w 2∧band (W4 l w s n) 3=bn l 1+bn w 2∧band (W4 l w s n) 7=bn l 1+bn w 2+bn s 4:=by decide +kernel
theorem w_or:∀n,n < 64→∀l w s:Bool,bor (W4 l w s n) 1=W4 true w s n∧bor (W4 l w s n) 2=W4 l true s n∧bor (W4 l w s n) 4=W4 l w true n∧bandn (W4 l w s n) 2=W4 l false s n:=by decide +kernel
theorem w_shr:∀n,n < 64→∀l w s:Bool,(W4 l w s n).fdiv 8=(n:Int)∧IntKind.i32.wrap (W4 l w s n)=W4 l w s n:=by decide +kernel
theorem w_add{l w s:Bool}{n:Nat}:W4 l w s n+8=W4 l w s (n+1):=by unfold W4;omega
def fl(k:Nat):Bool:=k == 1
theorem num_w4{m:Wd}(h:m.Bits):(m.num:Int)=W4 (fl m.L) (fl m.W) (fl m.S) m.n:=by
 obtain ⟨L,W,S,n⟩:=m
 obtain ⟨h1,h2,h3⟩:=h
 simp only at h1 h2 h3
 have e1:L=0∨L=1:=by omega
 have e2:W=0∨W=1:=by omega
 have e3:S=0∨S=1:=by omega
 rcases e1 with rfl|rfl<;>rcases e2 with rfl|rfl<;>rcases e3 with rfl|rfl<;>simp [Wd.num,W4,fl,bn]<;>omega
section
variable{P:Program}
theorem y_and(ty:TypeId)(xo yo:Operand)(a b:Int):Go.Sy.Yields P (do eqGuard .and ty xo yo (.int .i32 a) (.int .i32 b);binOp .and ty (.int .i32 a) (.int .i32 b)) (.int .i32 (band a b)):=fun w=>by
 have e:Op.intBits .and .i32 a b=pure (.int .i32 (band a b)):=rfl
 exact ⟨by simp [eqGuard,binOp,go_sem,e],fun es=>by simp [eqGuard,binOp,go_sem,e]⟩
theorem y_or(ty:TypeId)(xo yo:Operand)(a b:Int):Go.Sy.Yields P (do eqGuard .or ty xo yo (.int .i32 a) (.int .i32 b);binOp .or ty (.int .i32 a) (.int .i32 b)) (.int .i32 (bor a b)):=fun w=>by
 have e:Op.intBits .or .i32 a b=pure (.int .i32 (bor a b)):=rfl
 exact ⟨by simp [eqGuard,binOp,go_sem,e],fun es=>by simp [eqGuard,binOp,go_sem,e]⟩
theorem y_andn(ty:TypeId)(xo yo:Operand)(a b:Int):Go.Sy.Yields P (do eqGuard .andNot ty xo yo (.int .i32 a) (.int .i32 b);binOp .andNot ty (.int .i32 a) (.int .i32 b)) (.int .i32 (bandn a b)):=fun w=>by
 have e:Op.intBits .andNot .i32 a b=pure (.int .i32 (bandn a b)):=rfl
 exact ⟨by simp [eqGuard,binOp,go_sem,e],fun es=>by simp [eqGuard,binOp,go_sem,e]⟩
theorem y_add(k:IntKind)(ty:TypeId)(xo yo:Operand)(a b:Int):Go.Sy.Yields P (do eqGuard .add ty xo yo (.int k a) (.int k b);binOp .add ty (.int k a) (.int k b)) (.int k (k.wrap (a+b))):=fun w=>⟨by simp [eqGuard,binOp,Op.intArith,go_sem],fun es=>by simp [eqGuard,binOp,Op.intArith,go_sem]⟩
theorem y_sub(k:IntKind)(ty:TypeId)(xo yo:Operand)(a b:Int):Go.Sy.Yields P (do eqGuard .sub ty xo yo (.int k a) (.int k b);binOp .sub ty (.int k a) (.int k b)) (.int k (k.wrap (a - b))):=fun w=>⟨by simp [eqGuard,binOp,Op.intArith,go_sem],fun es=>by simp [eqGuard,binOp,Op.intArith,go_sem]⟩
theorem y_shr(ty:TypeId)(xo yo:Operand)(a:Int):Go.Sy.Yields P (do eqGuard .shr ty xo yo (.int .i32 a) (.int .u64 3);binOp .shr ty (.int .i32 a) (.int .u64 3)) (.int .i32 (a.fdiv 8)):=fun w=>⟨by simp [eqGuard,binOp,Op.shift,go_sem,IntKind.bits],fun es=>by simp [eqGuard,binOp,Op.shift,go_sem]⟩
theorem y_eql(k:IntKind)(ty:TypeId)(xo yo:Operand)(a b:Int):Go.Sy.Yields P (do eqGuard .eql ty xo yo (.int k a) (.int k b);binOp .eql ty (.int k a) (.int k b)) (.bool (a == b)):=fun w=>⟨by simp [eqGuard,binOp,Op.intCmp,go_sem],fun es=>by simp [eqGuard,binOp,Op.intCmp,go_sem]⟩
theorem y_neq(k:IntKind)(ty:TypeId)(xo yo:Operand)(a b:Int):Go.Sy.Yields P (do eqGuard .neq ty xo yo (.int k a) (.int k b);binOp .neq ty (.int k a) (.int k b)) (.bool (a != b)):=fun w=>⟨by simp [eqGuard,binOp,Op.intCmp,go_sem],fun es=>by simp [eqGuard,binOp,Op.intCmp,go_sem]⟩
theorem y_gtr(k:IntKind)(ty:TypeId)(xo yo:Operand)(a b:Int):Go.Sy.Yields P (do eqGuard .gtr ty xo yo (.int k a) (.int k b);binOp .gtr ty (.int k a) (.int k b)) (.bool (decide (a > b))):=fun w=>⟨by simp [eqGuard,binOp,Op.intCmp,go_sem],fun es=>by simp [eqGuard,binOp,Op.intCmp,go_sem]⟩
end
end Go.Mx
