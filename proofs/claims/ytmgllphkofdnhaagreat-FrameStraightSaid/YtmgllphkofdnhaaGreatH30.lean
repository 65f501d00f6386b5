import Derived.Laws.LoneSync
import Derived.Conc.Own4
import Derived.Test.YtmgllphkofdnhaaGreatH27
import Derived.Test.YtmgllphkofdnhaaGreatH29
set_option linter.unusedVariables false
set_option linter.unusedSectionVars false
set_option linter.unusedSimpArgs false
namespace Go.Sy
open Go.Ren
open Go.Conc hiding Goes
def convAt(sz:Nat)(s:S):Option (TypeId×TypeId×Option E):=match opAt sz s with
 |some o=>match o.op with
  | .convert a b x=>some (a,b,opE s.env x)
  |_=>none
 |none=>none
theorem convAt_op{sz:Nat}{s:S}{t u:TypeId}{x:Option E}(h:convAt sz s=some (t,u,x)):∃(o:Oper) (y:Operand),opAt sz s=some o∧o.op = .convert t u y∧opE s.env y=x:=by
 unfold convAt at h
 split at h
 ·rename_i o ho
  split at h
  ·rename_i a b y hc
   cases h
   exact ⟨o,y,ho,hc,rfl⟩
  ·cases h
 ·cases h
theorem conv_at{P:Program}{ν:Nat→Value}{A:Array Value}{sz:Nat}{m:Bool}{b:Frame}{ds:List Deferred}{cs:List Frame}{s:S}{src dst t:TypeId}{q:E}(hc:convAt sz s=some (src,dst,some q))(hz:A.size=sz)(h:Agree ν s.env A)(hk:b.kind ≠ .early)
  (hs:P.underlying src=some (.pointer t)) (hd:P.underlying dst=some .unsafePointer) (hsz:(P.info? t).map (fun i=>decide (i.size=0))=some false) {ad:Addr} (hq:q.den ν = .pointer (some ad)) :
  ∃g',Behind ν sz b ds cs (next s (some q)) g' ∧ ∀(w:World) (v:Value),w.cell? ad=some v→stepG P m (G (b.at ⟨A,ds⟩ s.todo) cs) w = .go g' w #[]:=by
 obtain ⟨o,y,ho,hop,hy⟩:=convAt_op hc
 obtain ⟨ops,i,rest,k,h1,h2,h3,h4,h5⟩:=opAt_ok (ds:=ds) ho hz h
 obtain ⟨k1,k2,k3⟩:=h5 (some q) (.pointer (some ad)) (fun z hz=>by cases hz;exact hq.symm)
 have hx:=(opE_ok (ds:=ds) h hy).trans hq
 refine ⟨G (b.at (Act.put ⟨A,ds⟩ o.dst (.pointer (some ad))) (.inRegion ops rest :: k)) cs,⟨_,k1,k3,by rw [h4,←k2]⟩,fun w v hcell=>?_⟩
 rw [h1]
 have r1:=run_convert_to_unsafe (P:=P) hs hd hsz hcell
 have r2:=fun es=>events_convert_to_unsafe (P:=P) hs hd hsz hcell es
 have hr:(execOp (Act.eval ⟨A,ds⟩) o).run P w = .ok (.value (.pointer (some ad))) w:=by
  unfold execOp
  simp only [hop,hx]
  simp [go_sem,r1]
 have he:(execOp (Act.eval ⟨A,ds⟩) o).events P w #[] = #[]:=by
  unfold execOp
  simp only [hop,hx]
  simp [go_sem,r1,r2]
 rw [stepG_value h2 h3 hk hr]
 unfold listed
 rw [he,seen_none]
end Go.Sy
namespace Go.Mx
open Go.Ren Go.Sy
open Go.Conc hiding Goes
open Go.Conc.Locks
open Go.ConcR (stA smA)
section
variable{P:Program}{L:MxLink}{I:World→Prop}{tM:TypeId}{Mu B:Nat}{cs:List Frame}{d:Nat}{g:Goroutine}{wst it tv:Int}{o:Wd}{nw:Int}{T:Goroutine→Prop}
theorem e_en_n(L:MxLink):((enableFn L.mu).name == "runtime.NumGoroutine")=false:=by kernel_rfl
theorem e_en_b(L:MxLink):(enableFn L.mu).body.isNone=true:=by kernel_rfl
theorem e_en_x(L:MxLink):Extern.findNext (enableFn L.mu)=none:=by kernel_rfl
theorem e_en_f(L:MxLink):Extern.find (enableFn L.mu)=some (fun _=>do mark .enable;pure Extern.Race.none_):=by kernel_rfl
theorem e_dis_n(L:MxLink):((disableFn L.mu).name == "runtime.NumGoroutine")=false:=by kernel_rfl
theorem e_dis_b(L:MxLink):(disableFn L.mu).body.isNone=true:=by kernel_rfl
theorem e_dis_x(L:MxLink):Extern.findNext (disableFn L.mu)=none:=by kernel_rfl
theorem e_dis_f(L:MxLink):Extern.find (disableFn L.mu)=some (fun _=>do mark .disable;pure Extern.Race.none_):=by kernel_rfl
theorem e_aq_n(L:MxLink):((acquireFn L.mu).name == "runtime.NumGoroutine")=false:=by kernel_rfl
theorem e_aq_b(L:MxLink):(acquireFn L.mu).body.isNone=true:=by kernel_rfl
theorem e_aq_x(L:MxLink):Extern.findNext (acquireFn L.mu)=none:=by kernel_rfl
theorem e_aq_f(L:MxLink):Extern.find (acquireFn L.mu)=some (Extern.Race.marked .acquire):=by kernel_rfl
theorem e_rm_n(L:MxLink):((relMergeFn L.mu).name == "runtime.NumGoroutine")=false:=by kernel_rfl
theorem e_rm_b(L:MxLink):(relMergeFn L.mu).body.isNone=true:=by kernel_rfl
theorem e_rm_x(L:MxLink):Extern.findNext (relMergeFn L.mu)=none:=by kernel_rfl
theorem e_rm_f(L:MxLink):Extern.find (relMergeFn L.mu)=some (Extern.Race.marked .releaseMerge):=by kernel_rfl
def Sees(I:World→Prop)(Mu:Nat):Prop:=∀w,I w→∃v,w.cell? (mA Mu)=some v
theorem tail_go(H:MxLib P L)(hI:Sees I Mu){sz n1 n2:Nat}{b:Frame}{sE sC sQ:S}{T0:Tab}{ν:Nat→Value}{ρ:List (E×E)}(hk:b.kind ≠ .early)(hν:ν 0 = .pointer (some (mA Mu)))(hT:TabOk P L.mu.tIMutex ν T0)(hρ:∀p∈ρ,p.1.den ν=p.2.den ν)
  (hE:callAt sz sE=some (L.mu.enable,[])) (h1:To L.mu.tIMutex sz T0 n1 0 (next sE none) sC ρ) (hC:convAt sz sC=some (L.mu.tPIMutex,L.mu.tUP,some (.v 0))) (h2:To L.mu.tIMutex sz T0 n2 0 (next sC (some (.v 0))) sQ ρ) (hQ:callAt sz sQ=some (L.mu.acquire,[some (.v 0)]))
  (k:∀g,Behind ν sz b [] cs (next sQ none) g→T g) (hg:Behind ν sz b [] cs sE g) :
  Says P false I #[Go.ConcR.mk .enable] (IdleD P false I X0 (fun d g=>d=0∧Says P false I #[Go.ConcR.mk (.acquire (stA Mu))] T g) 0) g:=by
 obtain ⟨A,hz,ha,rfl⟩:=hg
 obtain ⟨g1,b1,s1⟩:=mark0_at (P:=P) (m:=false) (b:=b) (ds:=[]) (cs:=cs) .enable (by simp) (z:=none) rfl hE hz ha hk H.lib.f_enable (e_en_n L) (e_en_b L) (e_en_x L) (e_en_f L)
 refine ⟨rfl,g1,fun w _=>s1 w,?_⟩
 refine h1.walk hT hρ hk b1 fun g2 b2=>?_
 obtain ⟨A2,hz2,ha2,rfl⟩:=b2
 obtain ⟨g3,b3,s3⟩:=conv_at (P:=P) (m:=false) (b:=b) (ds:=[]) (cs:=cs) hC hz2 ha2 hk H.lib.underlying_tPIMutex H.lib.underlying_tUP H.lib.room_tIMutex (ad:=mA Mu) hν
 refine .step rfl (fun _=>g3) (fun _=>#[]) (fun w hw=>⟨?_,by simp⟩) fun w _=>?_
 ·obtain ⟨v,hv⟩:=hI w hw
  exact s3 w v hv
 ·show IdleD P false I X0 _ 0 g3
  refine h2.walk hT hρ hk b3 fun g4 b4=>.stop ⟨rfl,?_⟩
  obtain ⟨A4,hz4,ha4,rfl⟩:=b4
  obtain ⟨g5,b5,s5⟩:=markAt_at (P:=P) (m:=false) (b:=b) (ds:=[]) (cs:=cs) .acquire (by simp) (z:=none) rfl hQ hz4 ha4 hk H.lib.f_acquire (e_aq_n L) (e_aq_b L) (e_aq_x L) (e_aq_f L) (ad:=mA Mu) hν
  exact ⟨rfl,g5,fun w _=>s5 w,k _ b5⟩
def cvS(L:MxLink):S:=fresh [(0,some (.v 0)),(136,some (.v 0))] (run 139 T0 5 (next (exS L) none)).todo
def aqS(L:MxLink):S:=fresh [(137,some (.v 0))] (run 139 T0 0 (next (cvS L) (some (.v 0)))).todo
def rq:List (E×E):=[(.v 0,.v 0)]
theorem ck_ex(l w s n0 n1 z late:Bool):To L.mu.tIMutex 139 (tab l w s n0 n1 z late) 5 0 (next (exS L) none) (cvS L) rq:=⟨by kernel_rfl,by kernel_rfl,by kernel_rfl⟩
theorem ck_cv(l w s n0 n1 z late:Bool):To L.mu.tIMutex 139 (tab l w s n0 n1 z late) 0 0 (next (cvS L) (some (.v 0))) (aqS L) rq:=⟨by kernel_rfl,by kernel_rfl,by kernel_rfl⟩
theorem at_cv:convAt 139 (cvS L)=some (L.mu.tPIMutex,L.mu.tUP,some (.v 0)):=by kernel_rfl
theorem at_aq:callAt 139 (aqS L)=some (L.mu.acquire,[some (.v 0)]):=by kernel_rfl
theorem rq_ok:∀p∈rq,p.1.den (nu Mu wst it tv o nw)=p.2.den (nu Mu wst it tv o nw):=by
 intro p hp
 simp only [rq,List.mem_cons,List.not_mem_nil,or_false] at hp
 subst hp;rfl
end
end Go.Mx
namespace Go.Sy
open Go.Ren
open Go.Conc hiding Goes
def envOf:Nat→List (Option E)→Env
 |_,[]=>[]
 |j,x :: xs=>(j,x) :: envOf (j+1) xs
theorem get_envOf:∀(xs:List (Option E)) (j k:Nat) (x:E),get (envOf j xs) k=some x→j≤k∧xs[k - j]? = some (some x)
 | [],j,k,x,h=>by cases h
 |y :: xs,j,k,x,h=>by
  unfold envOf get at h
  split at h
  ·rename_i e
   have:j=k:=by simpa using e
   subst this
   subst h
   exact ⟨Nat.le_refl _,by simp⟩
  ·rename_i e
   have hne:j≠k:=by simpa using e
   obtain ⟨h1,h2⟩:=get_envOf xs (j+1) k x h
   refine ⟨by omega,?_⟩
   obtain ⟨i,hi⟩:∃i,k - j=i+1:=⟨k - j - 1,by omega⟩
   rw [hi,List.getElem?_cons_succ]
   have:i=k - (j+1):=by omega
   rw [this];exact h2
section
variable{P:Program}{ν:Nat→Value}{sz:Nat}{m:Bool}{b:Frame}{ds:List Deferred}{cs:List Frame}{s:S}{I:World→Prop}{X:Event→Prop}{Q:Nat→Goroutine→Prop}{d:Nat}{A:Array Value}
theorem enter_go{f:FuncId}{xs:List (Option E)}{fn:Func}{c:Code}(hc:callAt sz s=some (f,xs))(hz:A.size=sz)(h:Agree ν s.env A)(hk:b.kind ≠ .early)(hf:P.funcs[f]? = some fn)(hname:(fn.name == "runtime.NumGoroutine")=false)(hb:fn.body=some c)(hn:xs.length≤fn.ntmps)
  (k:∀g,Behind ν fn.ntmps (base f) [] (b.at ⟨A,ds⟩ s.todo :: cs) ⟨envOf 0 xs,[.code c],[]⟩ g→IdleD P m I X Q d g):IdleD P m I X Q d (G (b.at ⟨A,ds⟩ s.todo) cs):=by
 obtain ⟨ops,i,rest,kk,o,args,ats,h1,h2,h3,h4,h5,h6,h7⟩:=callAt_ok hc hz h b ds cs
 have hb':fn.body.isNone=false:=by rw [hb];rfl
 have hstep:∀w,stepG P m (G (b.at ⟨A,ds⟩ s.todo) cs) w = .go (G ((base f).at ⟨args.map (Act.eval ⟨A,ds⟩) ++ Array.replicate (fn.ntmps - (args.map (Act.eval ⟨A,ds⟩)).size) undef,[]⟩ [.code c]) (b.at ⟨A,ds⟩ s.todo :: cs)) w #[]:=by
  intro w
  rw [h1,stepG_enter h2 h3 hk (run_call_body h4 hf hname hb'),enter_at _ hf hb]
  have:listed P b.fn ⟨A,ds⟩ o w = #[]:=by unfold listed;rw [events_call_body h4 hf hname hb'];exact seen_none P _
  rw [this]
 refine .step rfl (fun _=>_) (fun _=>#[]) (fun w _=>⟨hstep w,by simp⟩) fun w _=>?_
 refine k _ ⟨_,?_,fun j x hx=>?_,rfl⟩
 ·simp [h6];omega
 ·obtain ⟨_,hj⟩:=get_envOf xs 0 j x hx
  rw [Nat.sub_zero] at hj
  have:=h5 j x hj
  have hlt:j < (args.map (Act.eval ⟨A,ds⟩)).size:=(Array.getElem?_eq_some_iff.1 this).1
  rw [Array.getElem?_append_left hlt]
  exact this
theorem leave_back{f:FuncId}{xs:List (Option E)}{fn:Func}{t:List Item}{A':Array Value}(hc:callAt sz s=some (f,xs))(hz:A.size=sz)(h:Agree ν s.env A)(hf:P.funcs[f]? = some fn)(hr:fn.results = #[])(ht:t=[]∨∃k,t = .code .ret :: k)
  (k:IdleD P m I X Q d (G ((b.at ⟨A,ds⟩ s.todo).finish (.tuple #[])) cs)):IdleD P m I X Q d (G ((base f).at ⟨A',[]⟩ t) (b.at ⟨A,ds⟩ s.todo :: cs)):=by
 obtain ⟨ops,i,rest,kk,o,args,ats,h1,h2,h3,h4,h5,h6,h7⟩:=callAt_ok hc hz h b ds cs
 have e1:∀w,stepG P m (G ((base f).at ⟨A',[]⟩ t) (b.at ⟨A,ds⟩ s.todo :: cs)) w = .go (G { (base f).at ⟨A',[]⟩ t with mode:=.returning } (b.at ⟨A,ds⟩ s.todo :: cs)) w #[]:=by
  intro w
  rcases ht with rfl|⟨kx,rfl⟩
  ·exact stepG_end
  ·exact stepG_ret'
 refine .step rfl (fun _=>_) (fun _=>#[]) (fun w _=>⟨e1 w,by simp⟩) fun w _=>?_
 have e2:∀w,stepG P m (G { (base f).at ⟨A',[]⟩ t with mode:=.returning } (b.at ⟨A,ds⟩ s.todo :: cs)) w = .go (G ((b.at ⟨A,ds⟩ s.todo).finish (.tuple #[])) cs) w #[]:=by
  intro w
  rw [h1,stepG_leave (b:=base f) (a:=⟨A',[]⟩) rfl rfl hf (results_none hr _ P w) (events_results_none hr _ _)]
 exact .step rfl (fun _=>_) (fun _=>#[]) (fun w _=>⟨e2 w,by simp⟩) fun w _=>k
theorem leave_go{f:FuncId}{xs:List (Option E)}{fn:Func}{t:List Item}{A':Array Value}(hc:callAt sz s=some (f,xs))(hz:A.size=sz)(h:Agree ν s.env A)(hf:P.funcs[f]? = some fn)(hr:fn.results = #[])(ht:t=[]∨∃k,t = .code .ret :: k)
  (k:∀g,Behind ν sz b ds cs (next s none) g→IdleD P m I X Q d g):IdleD P m I X Q d (G ((base f).at ⟨A',[]⟩ t) (b.at ⟨A,ds⟩ s.todo :: cs)):=by
 obtain ⟨ops,i,rest,kk,o,args,ats,h1,h2,h3,h4,h5,h6,h7⟩:=callAt_ok hc hz h b ds cs
 have e1:∀w,stepG P m (G ((base f).at ⟨A',[]⟩ t) (b.at ⟨A,ds⟩ s.todo :: cs)) w = .go (G { (base f).at ⟨A',[]⟩ t with mode:=.returning } (b.at ⟨A,ds⟩ s.todo :: cs)) w #[]:=by
  intro w
  rcases ht with rfl|⟨kx,rfl⟩
  ·exact stepG_end
  ·exact stepG_ret'
 refine .step rfl (fun _=>_) (fun _=>#[]) (fun w _=>⟨e1 w,by simp⟩) fun w _=>?_
 have e2:∀w,stepG P m (G { (base f).at ⟨A',[]⟩ t with mode:=.returning } (b.at ⟨A,ds⟩ s.todo :: cs)) w = .go (G (b.at (Act.put ⟨A,ds⟩ o.dst (.tuple #[])) (.inRegion ops rest :: kk)) cs) w #[]:=by
  intro w
  rw [h1,stepG_leave (b:=base f) (a:=⟨A',[]⟩) rfl rfl hf (results_none hr _ P w) (events_results_none hr _ _),Frame.finish_at,h2]
  rfl
 refine .step rfl (fun _=>_) (fun _=>#[]) (fun w _=>⟨e2 w,by simp⟩) fun w _=>?_
 exact k _ (h7 none (.tuple #[]) (fun u hu=>by cases hu))
end
end Go.Sy
namespace Go.Mx
open Go.Ren Go.Sy
open Go.Conc hiding Goes
open Go.Conc.Locks
open Go.ConcR (stA smA)
def lkBody(L:MxLink):Code:=(lockFn L.mu).body.getD .skip
def ilBody(L:MxLink):Code:=(ilockFn L.mu).body.getD .skip
def tabM:Tab:=[(.nil (.v 0),.v 0),(.fld (.v 0) 1,.v 1)]
def lkE(L:MxLink):S:=⟨envOf 0 [some (.v 0)],[.code (lkBody L)],[]⟩
def lkS(L:MxLink):S:=fresh [(4,some (.v 1))] (run 6 tabM 200 (lkE L)).todo
def ilE(L:MxLink):S:=⟨envOf 0 [some (.v 1)],[.code (ilBody L)],[]⟩
def idS(L:MxLink):S:=fresh [(0,some (.v 0))] (run 13 T0 200 (ilE L)).todo
def icS(L:MxLink):S:=fresh [(0,some (.v 0)),(5,some (.v 1))] (run 13 T0 200 (next (idS L) none)).todo
def ieS(L:MxLink):S:=fresh [(0,some (.v 0))] (run 13 T0 200 (next (icS L) (some (.b true)))).todo
def ivS(L:MxLink):S:=fresh [(0,some (.v 0)),(8,some (.v 0))] (run 13 T0 200 (next (ieS L) none)).todo
def iaS(L:MxLink):S:=fresh [(9,some (.v 0))] (run 13 T0 200 (next (ivS L) (some (.v 0)))).todo
def irS(L:MxLink):S:=fresh [] (run 13 T0 200 (next (iaS L) none)).todo
def isS(L:MxLink):S:=fresh [(0,some (.v 0)),(11,some (.v 0))] (run 13 T0 200 (next (icS L) (some (.b false)))).todo
def nilS:S:=fresh [] []
def rp:List (E×E):=[(.v 0,.v 0),(.v 1,.v 1),(.v 1,.v 0)]
section
variable(L:MxLink)
theorem il_l:To L.mu.tMutex 6 tabM 200 1 (lkE L) (lkS L) rp:=⟨by kernel_rfl,by kernel_rfl,by kernel_rfl⟩
theorem il_r:To L.mu.tMutex 6 tabM 200 0 (next (lkS L) none) nilS rp:=⟨by kernel_rfl,by kernel_rfl,by kernel_rfl⟩
theorem il_at:callAt 6 (lkS L)=some (L.mu.ilock,[some (.v 1)]):=by kernel_rfl
section
variable(l w s n0 n1 z late:Bool)
theorem il_e:To L.mu.tIMutex 13 (tab l w s n0 n1 z late) 200 0 (ilE L) (idS L) rp:=⟨by kernel_rfl,by kernel_rfl,by kernel_rfl⟩
theorem il_c:To L.mu.tIMutex 13 (tab l w s n0 n1 z late) 200 1 (next (idS L) none) (icS L) rp:=⟨by kernel_rfl,by kernel_rfl,by kernel_rfl⟩
theorem il_y:To L.mu.tIMutex 13 (tab l w s n0 n1 z late) 200 0 (next (icS L) (some (.b true))) (ieS L) rp:=⟨by kernel_rfl,by kernel_rfl,by kernel_rfl⟩
theorem il_v:To L.mu.tIMutex 13 (tab l w s n0 n1 z late) 200 0 (next (ieS L) none) (ivS L) rp:=⟨by kernel_rfl,by kernel_rfl,by kernel_rfl⟩
theorem il_a:To L.mu.tIMutex 13 (tab l w s n0 n1 z late) 200 0 (next (ivS L) (some (.v 0))) (iaS L) rp:=⟨by kernel_rfl,by kernel_rfl,by kernel_rfl⟩
theorem il_ar:To L.mu.tIMutex 13 (tab l w s n0 n1 z late) 200 0 (next (iaS L) none) (irS L) rp:=⟨by kernel_rfl,by kernel_rfl,by kernel_rfl⟩
theorem il_n:To L.mu.tIMutex 13 (tab l w s n0 n1 z late) 200 0 (next (icS L) (some (.b false))) (isS L) rp:=⟨by kernel_rfl,by kernel_rfl,by kernel_rfl⟩
theorem il_s:To L.mu.tIMutex 13 (tab l w s n0 n1 z late) 200 0 (next (isS L) none) nilS rp:=⟨by kernel_rfl,by kernel_rfl,by kernel_rfl⟩
theorem ls_r:To L.mu.tIMutex 139 (tab l w s n0 n1 z late) 200 0 (next (aqS L) none) nilS rp:=⟨by kernel_rfl,by kernel_rfl,by kernel_rfl⟩
end
theorem at_id:callAt 13 (idS L)=some (L.mu.disable,[]):=by kernel_rfl
theorem at_ic:callAt 13 (icS L)=some (L.mu.cas32,[some (.v 1),some (.i .i32 0),some (.i .i32 1)]):=by kernel_rfl
theorem at_ie:callAt 13 (ieS L)=some (L.mu.enable,[]):=by kernel_rfl
theorem at_iv:convAt 13 (ivS L)=some (L.mu.tPIMutex,L.mu.tUP,some (.v 0)):=by kernel_rfl
theorem at_ia:callAt 13 (iaS L)=some (L.mu.acquire,[some (.v 0)]):=by kernel_rfl
theorem at_is:callAt 13 (isS L)=some (L.mu.lockSlow,[some (.v 0)]):=by kernel_rfl
theorem ret_i:isRet (irS L).todo=true:=by kernel_rfl
end
end Go.Mx
namespace Go.Mx
open Go.Ren Go.Sy
open Go.Conc hiding Goes
open Go.Conc.Locks
open Go.ConcR (stA smA)
theorem isRet_or{t:List Item}(h:isRet t=true):t=[]∨∃k,t = .code .ret :: k:=by
 unfold isRet at h
 split at h
 ·exact .inl rfl
 ·exact .inr ⟨_,rfl⟩
 ·cases h
def o0:Wd:=⟨0,0,0,0⟩
def n0(Mu:Nat):Nat→Value:=nu Mu 0 0 0 o0 0
theorem sm0:Small o0:=⟨⟨Nat.zero_le _,Nat.zero_le _,Nat.zero_le _⟩,by decide⟩
section
variable{P:Program}{L:MxLink}{I:World→Prop}{tM:TypeId}{Mu B:Nat}{T:Goroutine→Prop}
def AcQ(P:Program)(I:World→Prop)(Mu:Nat)(T:Goroutine→Prop)(d:Nat)(g:Goroutine):Prop:=d=0∧Says P false I #[Go.ConcR.mk (.acquire (stA Mu))] T g
def EnQ(P:Program)(I:World→Prop)(Mu:Nat)(T:Goroutine→Prop)(d:Nat)(g:Goroutine):Prop:=d=1∧Says P false I #[Go.ConcR.mk .enable] (IdleD P false I X0 (AcQ P I Mu T) 0) g
theorem LSeat.pre{E:Nat→Goroutine→Prop}{x:Lk}{d:Nat}{g:Goroutine}(h:IdleD P false I X0 (fun d g=>LSeat P I tM Mu B E x d g) d g):LSeat P I tM Mu B E x d g:=LSeat.idle (h.bind fun d g k=>k.out)
theorem rp_ok:∀p∈rp,p.1.den (n0 Mu)=p.2.den (n0 Mu):=by
 intro p hp
 simp only [rp,List.mem_cons,List.not_mem_nil,or_false] at hp
 rcases hp with rfl|rfl|rfl
 ·rfl
 ·rfl
 ·exact nu_1.trans nu_0.symm
theorem tabM_ok(H:MxLib P L):TabOk P L.mu.tMutex (n0 Mu) tabM:=by
 unfold TabOk tabM
 simp only [List.forall_mem_cons]
 refine ⟨⟨rfl,_,nu_0⟩,?_,fun p hp=>absurd hp (List.not_mem_nil)⟩
 show Go.Sy.Yields P (Instr.fieldAt L.mu.tMutex (n0 Mu 0) 1) (n0 Mu 1)
 rw [show n0 Mu 0 = .pointer (some ⟨Mu,0,none⟩) from nu_0,show n0 Mu 1 = .pointer (some ⟨Mu,0,none⟩) from nu_1]
 have hu:=H.lib.runUnderlying_tMutex
 have h2:=H.lib.sizeOf_tIMutex
 exact fun w=>⟨by simp [go_sem,hu,h2],fun es=>by simp [go_sem,hu,h2]⟩
theorem agree_ex{wst it:Int}{o:Wd}{A:Array Value}(h:Agree (nu Mu wst it 0 o 0) (exS L).env A):Agree (n0 Mu) (exS L).env A:=by
 refine agree_sub (ρ:=[(.v 0,.v 0)]) h (by kernel_rfl) fun p hp=>?_
 simp only [List.mem_cons,List.not_mem_nil,or_false] at hp
 subst hp
 exact nu_0.trans nu_0.symm
theorem lk_b(L:MxLink):(lockFn L.mu).body=some (lkBody L):=by kernel_rfl
theorem il_b(L:MxLink):(ilockFn L.mu).body=some (ilBody L):=by kernel_rfl
theorem ls_b(L:MxLink):(lockSlowFn L).body=some (lsBody L):=by kernel_rfl
theorem lk_n(L:MxLink):((lockFn L.mu).name == "runtime.NumGoroutine")=false:=by kernel_rfl
theorem il_nm(L:MxLink):((ilockFn L.mu).name == "runtime.NumGoroutine")=false:=by kernel_rfl
theorem ls_n(L:MxLink):((lockSlowFn L).name == "runtime.NumGoroutine")=false:=by kernel_rfl
theorem lk_r(L:MxLink):(lockFn L.mu).results = #[]:=by kernel_rfl
theorem il_rs(L:MxLink):(ilockFn L.mu).results = #[]:=by kernel_rfl
theorem ls_rs(L:MxLink):(lockSlowFn L).results = #[]:=by kernel_rfl
theorem lock_go(H:MxLib P L)(hB:B < 63)(hI:Sees I Mu){sz:Nat}{b:Frame}{ds:List Deferred}{cs:List Frame}{s:S}{A:Array Value}(hc:callAt sz s=some (L.mu.lock,[some (.v 0)]))(hz:A.size=sz)(ha:Agree (n0 Mu) s.env A)(hk:b.kind ≠ .early)
  (hT:∀g,IdleD P false I X0 (fun d g=>d=0∧g=G ((b.at ⟨A,ds⟩ s.todo).finish (.tuple #[])) cs) 0 g→T g) :
  IdleD P false I X0 (fun d g=>d=0∧Says P false I #[Go.ConcR.mk .disable] (LSeat P I tM Mu B (IdleD P false I X0 (EnQ P I Mu T)) .l0 1) g) 0 (G (b.at ⟨A,ds⟩ s.todo) cs):=by
 have hTT:=tab_ok H (Mu:=Mu) (wst:=0) (it:=0) (tv:=0) (nw:=0) sm0.1 sm0.2
 have hTM:=tabM_ok (Mu:=Mu) H
 have k1:(base L.mu.lock).kind ≠ .early:=by simp [base]
 have k2:(base L.mu.ilock).kind ≠ .early:=by simp [base]
 refine enter_go hc hz ha hk H.lib.f_lock (lk_n L) (lk_b L) (by show 1≤6;omega) fun g1 b1=>?_
 refine (il_l L).walk hTM rp_ok k1 (s:=lkE L) b1 fun g2 b2=>?_
 obtain ⟨A2,hz2,ha2,rfl⟩:=b2
 have back1:∀g,Behind (n0 Mu) 6 (base L.mu.lock) [] (b.at ⟨A,ds⟩ s.todo :: cs) (next (lkS L) none) g→IdleD P false I X0 (fun d g=>d=0∧g=G ((b.at ⟨A,ds⟩ s.todo).finish (.tuple #[])) cs) 0 g:=fun g hg=>by
  refine (il_r L).walk hTM rp_ok k1 hg fun g' hg'=>?_
  obtain ⟨A',_,_,rfl⟩:=hg'
  exact leave_back hc hz ha H.lib.f_lock (lk_r L) (.inl rfl) (.stop ⟨rfl,rfl⟩)
 refine enter_go (il_at L) hz2 ha2 k1 H.lib.f_ilock (il_nm L) (il_b L) (by show 1≤13;omega) fun g3 b3=>?_
 refine (il_e L _ _ _ _ _ _ _).walk hTT rp_ok k2 (s:=ilE L) b3 fun g4 b4=>.stop ⟨rfl,?_⟩
 obtain ⟨A4,hz4,ha4,rfl⟩:=b4
 obtain ⟨g5,b5,s5⟩:=mark0_at (P:=P) (m:=false) (b:=base L.mu.ilock) (ds:=[]) (cs:=(base L.mu.lock).at ⟨A2,[]⟩ (lkS L).todo :: b.at ⟨A,ds⟩ s.todo :: cs) .disable (by simp) (z:=none) rfl (at_id L) hz4 ha4 k2 H.lib.f_disable (e_dis_n L) (e_dis_b L) (e_dis_x L) (e_dis_f L)
 refine ⟨rfl,g5,fun w _=>s5 w,LSeat.idle ?_⟩
 refine (il_c L _ _ _ _ _ _ _).walk hTT rp_ok k2 b5 fun g6 b6=>.stop ?_
 obtain ⟨A6,hz6,ha6,rfl⟩:=b6
 refine ⟨rfl,rfl,rfl,fun e=>(by cases e),fun w m q hw hm hf=>.inr ?_⟩
 have hbits:=hf.1
 by_cases hm0:m=o0
 ·obtain ⟨g',hb,hst⟩:=cas_hit (P:=P) (m:=false) (b:=base L.mu.ilock) (ds:=[]) (cs:=(base L.mu.lock).at ⟨A2,[]⟩ (lkS L).todo :: b.at ⟨A,ds⟩ s.todo :: cs) (at_ic L) hz6 ha6 k2 H.lib.f_cas32 (e_cas_n L) (e_cas_b L) (e_cas_x L) (e_cas_f L) (ad:=mA Mu) nu_1 nu_z nu_z
  have hcell:w.cell? (mA Mu)=some (.int .i32 0):=by rw [hm.state,hm0];rfl
  refine ⟨.own,⟨1,0,0,0⟩,q,g',_,_,.l0f hm0,hst w hcell (hm.thaw 0),hm.setState rfl,eff_m _,ev_2,fun e=>(by cases e),?_⟩
  rw [df_2]
  show IdleD P false I X0 (EnQ P I Mu T) 1 g'
  refine (il_y L _ _ _ _ _ _ _).walk hTT rp_ok k2 hb fun g7 b7=>.stop ⟨rfl,?_⟩
  refine tail_go H hI k2 (by exact nu_0) hTT rp_ok (at_ie L) (il_v L _ _ _ _ _ _ _) (at_iv L) (il_a L _ _ _ _ _ _ _) (at_ia L) (fun g hg=>hT g ?_) b7
  refine (il_ar L _ _ _ _ _ _ _).walk hTT rp_ok k2 hg fun g' hg'=>?_
  obtain ⟨A',_,_,rfl⟩:=hg'
  exact leave_go (il_at L) hz2 ha2 H.lib.f_ilock (il_rs L) (isRet_or (ret_i L)) back1
 ·obtain ⟨g',hb,hst⟩:=cas_miss (P:=P) (m:=false) (b:=base L.mu.ilock) (ds:=[]) (cs:=(base L.mu.lock).at ⟨A2,[]⟩ (lkS L).todo :: b.at ⟨A,ds⟩ s.todo :: cs) (at_ic L) hz6 ha6 k2 H.lib.f_cas32 (e_cas_n L) (e_cas_b L) (e_cas_x L) (e_cas_f L) (ad:=mA Mu) nu_1 nu_z nu_z
  have hne:¬((m.num:Int)=0):=fun e=>hm0 (Wd.inj hbits sm0.1 (by rw [show m.num=0 by omega];rfl))
  refine ⟨.rd false false 0,m,q,g',_,_,.l0s hm0,hst w _ hm.state (hm.thaw 0) hne,hm,eff_refl,ev_1,fun e=>(by cases e),?_⟩
  rw [df_1]
  show LSeat P I tM Mu B _ (.rd false false 0) 1 g'
  refine LSeat.pre ?_
  refine (il_n L _ _ _ _ _ _ _).walk hTT rp_ok k2 hb fun g7 b7=>?_
  obtain ⟨A7,hz7,ha7,rfl⟩:=b7
  refine enter_go (at_is L) hz7 ha7 k2 H.f_lockSlow (ls_n L) (ls_b L) (by show 1≤139;omega) fun g8 b8=>.stop ?_
  obtain ⟨A8,hz8,ha8,rfl⟩:=b8
  refine ls_seat H hB (fun wst it o g hg=>.stop ⟨rfl,?_⟩) hz8 ((ha8 0 (.v 0) rfl).trans (congrArg some nu_0))
  have hg0:Behind (n0 Mu) 139 (base L.mu.lockSlow) [] ((base L.mu.ilock).at ⟨A7,[]⟩ (isS L).todo :: (base L.mu.lock).at ⟨A2,[]⟩ (lkS L).todo :: b.at ⟨A,ds⟩ s.todo :: cs) (exS L) g:=by
   obtain ⟨A9,hz9,ha9,rfl⟩:=hg
   exact ⟨A9,hz9,agree_ex ha9,rfl⟩
  refine tail_go H hI kb (by exact nu_0) hTT rq_ok (at_ex L) (ck_ex _ _ _ _ _ _ _) at_cv (ck_cv _ _ _ _ _ _ _) at_aq (fun g hg=>hT g ?_) hg0
  refine (ls_r L _ _ _ _ _ _ _).walk hTT rp_ok kb hg fun g' hg'=>?_
  obtain ⟨A',_,_,rfl⟩:=hg'
  refine leave_go (at_is L) hz7 ha7 H.f_lockSlow (ls_rs L) (.inl rfl) fun g'' hg''=>?_
  refine (il_s L _ _ _ _ _ _ _).walk hTT rp_ok k2 hg'' fun g' hg'=>?_
  obtain ⟨A',_,_,rfl⟩:=hg'
  exact leave_go (il_at L) hz2 ha2 H.lib.f_ilock (il_rs L) (.inl rfl) back1
end
end Go.Mx
namespace Go.Mx
open Go.Ren Go.Sy
open Go.Conc hiding Goes
open Go.Conc.Locks
open Go.ConcR (stA smA)
def ulBody(L:MxLink):Code:=(unlockFn L.mu).body.getD .skip
def iuBody(L:MxLink):Code:=(iunlockFn L.mu).body.getD .skip
def tabV(nz l w s n0 n1:Bool):Tab:=(.bin .neq (.v 4) (.i .i32 0),.b nz) :: tabU l w s n0 n1
def TV:Tab:=tabV true false false false false false
def ulE(L:MxLink):S:=fresh [(0,some (.v 0))] [.code (ulBody L)]
def ulS(L:MxLink):S:=fresh [(4,some (.v 1))] (run 6 tabM 200 (ulE L)).todo
def iuE(L:MxLink):S:=fresh [(0,some (.v 0))] [.code (iuBody L)]
def ulL(L:MxLink):S:=fresh [(0,some (.v 0)),(5,some (.v 1))] (run 21 TV 200 (iuE L)).todo
def ulV(L:MxLink):S:=fresh [(0,some (.v 0)),(7,some (.v 0))] (run 21 TV 200 (next (ulL L) none)).todo
def ulR(L:MxLink):S:=fresh [(0,some (.v 0)),(8,some (.v 0))] (run 21 TV 200 (next (ulV L) (some (.v 0)))).todo
def ulD(L:MxLink):S:=fresh [(0,some (.v 0))] (run 21 TV 200 (next (ulR L) none)).todo
def ulA(L:MxLink):S:=fresh [(0,some (.v 0)),(13,some (.v 1))] (run 21 TV 200 (next (ulD L) none)).todo
def ulU(L:MxLink):S:=fresh [(0,some (.v 0)),(17,some (.v 0)),(18,some (.v 4))] (run 21 TV 200 (next (ulA L) (some (.v 4)))).todo
def ulN(L:MxLink):S:=fresh [(0,some (.v 0))] (run 21 TV 200 (next (ulU L) none)).todo
def ra:List (E×E):=[(.v 0,.v 0),(.v 1,.v 1),(.v 1,.v 0),(.v 4,.v 4)]
section
variable(L:MxLink)
theorem ul_e:To L.mu.tMutex 6 tabM 200 1 (ulE L) (ulS L) rp:=⟨by kernel_rfl,by kernel_rfl,by kernel_rfl⟩
theorem ul_r:To L.mu.tMutex 6 tabM 200 0 (next (ulS L) none) nilS rp:=⟨by kernel_rfl,by kernel_rfl,by kernel_rfl⟩
theorem ul_at:callAt 6 (ulS L)=some (L.mu.iunlock,[some (.v 1)]):=by kernel_rfl
section
variable(nz l w s n0 n1:Bool)
theorem uk_l:To L.mu.tIMutex 21 (tabV nz l w s n0 n1) 200 1 (iuE L) (ulL L) ra:=⟨by kernel_rfl,by kernel_rfl,by kernel_rfl⟩
theorem uk_v:To L.mu.tIMutex 21 (tabV nz l w s n0 n1) 200 0 (next (ulL L) none) (ulV L) ra:=⟨by kernel_rfl,by kernel_rfl,by kernel_rfl⟩
theorem uk_r:To L.mu.tIMutex 21 (tabV nz l w s n0 n1) 200 0 (next (ulV L) (some (.v 0))) (ulR L) ra:=⟨by kernel_rfl,by kernel_rfl,by kernel_rfl⟩
theorem uk_d:To L.mu.tIMutex 21 (tabV nz l w s n0 n1) 200 0 (next (ulR L) none) (ulD L) ra:=⟨by kernel_rfl,by kernel_rfl,by kernel_rfl⟩
theorem uk_a:To L.mu.tIMutex 21 (tabV nz l w s n0 n1) 200 1 (next (ulD L) none) (ulA L) ra:=⟨by kernel_rfl,by kernel_rfl,by kernel_rfl⟩
theorem uk_u:To L.mu.tIMutex 21 (tabV true l w s n0 n1) 200 0 (next (ulA L) (some (.v 4))) (ulU L) ra:=⟨by kernel_rfl,by kernel_rfl,by kernel_rfl⟩
theorem uk_0:To L.mu.tIMutex 21 (tabV false l w s n0 n1) 200 0 (next (ulA L) (some (.v 4))) (ulN L) ra:=⟨by kernel_rfl,by kernel_rfl,by kernel_rfl⟩
theorem uk_n:To L.mu.tIMutex 21 (tabV nz l w s n0 n1) 200 0 (next (ulU L) none) (ulN L) ra:=⟨by kernel_rfl,by kernel_rfl,by kernel_rfl⟩
theorem uk_x:To L.mu.tIMutex 21 (tabV nz l w s n0 n1) 200 0 (next (ulN L) none) nilS ra:=⟨by kernel_rfl,by kernel_rfl,by kernel_rfl⟩
end
theorem at_uL:loadAt 21 (ulL L)=some (21,some (.v 1)):=by kernel_rfl
theorem at_uV:convAt 21 (ulV L)=some (L.mu.tPIMutex,L.mu.tUP,some (.v 0)):=by kernel_rfl
theorem at_uR:callAt 21 (ulR L)=some (L.mu.relMerge,[some (.v 0)]):=by kernel_rfl
theorem at_uD:callAt 21 (ulD L)=some (L.mu.disable,[]):=by kernel_rfl
theorem at_uA:callAt 21 (ulA L)=some (L.mu.add32,[some (.v 1),some (.i .i32 (-1))]):=by kernel_rfl
theorem at_uU:callAt 21 (ulU L)=some (L.mu.unlockSlow,[some (.v 0),some (.v 4)]):=by kernel_rfl
theorem at_uN:callAt 21 (ulN L)=some (L.mu.enable,[]):=by kernel_rfl
theorem ul_b:(unlockFn L.mu).body=some (ulBody L):=by kernel_rfl
theorem iu_b:(iunlockFn L.mu).body=some (iuBody L):=by kernel_rfl
theorem us_b:(unlockSlowFn L).body=some (usBody L):=by kernel_rfl
theorem iu_n:((iunlockFn L.mu).name == "runtime.NumGoroutine")=false:=by kernel_rfl
theorem us_n:((unlockSlowFn L).name == "runtime.NumGoroutine")=false:=by kernel_rfl
theorem iu_rs:(iunlockFn L.mu).results = #[]:=by kernel_rfl
theorem us_rs:(unlockSlowFn L).results = #[]:=by kernel_rfl
theorem iu_norace:(some (iunlockFn L.mu)).any (·.norace)=true:=by kernel_rfl
end
end Go.Mx
namespace Go.Mx
open Go.Ren Go.Sy
open Go.Conc hiding Goes
open Go.Conc.Locks
open Go.ConcR (stA smA)
section
variable{P:Program}{L:MxLink}{I I':World→Prop}{tM:TypeId}{Mu B:Nat}{X:Goroutine→Prop}{o:Wd}
def UeQ(P:Program)(I:World→Prop)(X:Goroutine→Prop)(d:Nat)(g:Goroutine):Prop:=d=1∧Says P false I #[Go.ConcR.mk .enable] X g
def DsQ(P:Program)(I:World→Prop)(tM:TypeId)(Mu B:Nat)(X:Goroutine→Prop)(d:Nat)(g:Goroutine):Prop:=d=0∧Says P false I #[Go.ConcR.mk .disable] (LSeat P I tM Mu B (IdleD P false I X0 (UeQ P I X)) .own 1) g
def RlQ(P:Program)(I:World→Prop)(tM:TypeId)(Mu B:Nat)(X:Goroutine→Prop)(d:Nat)(g:Goroutine):Prop:=d=0∧Says P false I #[Go.ConcR.mk (.releaseMerge (stA Mu))] (IdleD P false I X0 (DsQ P I tM Mu B X) 0) g
def Reads(I:World→Prop)(Mu:Nat):Prop:=∀w,I w→∃v:Int,w.cell? (mA Mu)=some (.int .i32 v)
theorem ra_ok:∀p∈ra,p.1.den (nu Mu 0 0 0 o 0)=p.2.den (nu Mu 0 0 0 o 0):=by
 intro p hp
 simp only [ra,List.mem_cons,List.not_mem_nil,or_false] at hp
 rcases hp with rfl|rfl|rfl|rfl
 ·rfl
 ·rfl
 ·exact nu_1.trans nu_0.symm
 ·rfl
theorem tabV_ok(H:MxLib P L)(ho:Small o):TabOk P L.mu.tIMutex (nu Mu 0 0 0 o 0) (tabV (o.num != 0) (fl o.L) (fl o.W) (fl o.S) (o.n == 0) (o.n == 1)):=by
 unfold TabOk tabV
 simp only [List.forall_mem_cons]
 refine ⟨k_neq (a:=(o.num:Int)) (b:=0) nu_4 rfl ?_,tabU_ok H ho.1 ho.2⟩
 show Value.bool (o.num != 0)=Value.bool ((o.num:Int) != ((0:Nat):Int))
 have:=nat_beq o.num 0
 unfold bne
 rw [this]
theorem to_o{b:Frame}{ds:List Deferred}{cs:List Frame}{sz:Nat}{o':Wd}{s:S}{g:Goroutine}(hs:(Go.Sy.sub s.env s.env).all (okPair r4)=true)(h:Behind (nu Mu 0 0 0 o 0) sz b ds cs s g):Behind (nu Mu 0 0 0 o' 0) sz b ds cs s g:=by
 obtain ⟨A,hz,ha,rfl⟩:=h
 exact ⟨A,hz,agree_v r4 hs r4_ok ha,rfl⟩
theorem ulN_env(L:MxLink):(Go.Sy.sub (ulN L).env (ulN L).env).all (okPair r4)=true:=by kernel_rfl
theorem ulA_env(L:MxLink):(Go.Sy.sub (ulA L).env (ulA L).env).all (okPair r4)=true:=by kernel_rfl
theorem m1_is{m:Wd}(hm:m.Bits)(hn:m.n < 63)(hL:m.L=1):IntKind.i32.wrap ((m.num:Int) + -1)=((⟨0,m.W,m.S,m.n⟩:Wd).num:Nat):=by
 have e:(m.num:Int) + -1=((⟨0,m.W,m.S,m.n⟩:Wd).num:Nat):=by unfold Wd.num;dsimp only;omega
 rw [e]
 exact wrap_w ⟨Nat.zero_le _,hm.W,hm.S⟩ (by dsimp only;omega)
theorem unlock_go(H:MxLib P L)(hB:B < 63)(hI:Reads I Mu){b:Frame}{cs:List Frame}(hk:b.kind ≠ .early)(hX:∀g,IdleD P false I' X0 (fun d g=>d=0∧Behind (n0 Mu) 6 b [] cs nilS g) 0 g→X g){g:Goroutine}(hg:Behind (n0 Mu) 6 b [] cs (ulE L) g) :
  IdleD P false I X0 (RlQ P I tM Mu B X) 0 g:=by
 have hTT:=tabV_ok (Mu:=Mu) H sm0
 have hTM:=tabM_ok (Mu:=Mu) H
 have k2:(base L.mu.iunlock).kind ≠ .early:=by simp [base]
 refine (ul_e L).walk hTM rp_ok hk hg fun g2 b2=>?_
 obtain ⟨A2,hz2,ha2,rfl⟩:=b2
 refine enter_go (ul_at L) hz2 ha2 hk H.lib.f_iunlock (iu_n L) (iu_b L) (by show 1≤21;omega) fun g3 b3=>?_
 have b3':Behind (n0 Mu) 21 (base L.mu.iunlock) [] (b.at ⟨A2,[]⟩ (ulS L).todo :: cs) (iuE L) g3:=by
  obtain ⟨A,hz,ha,rfl⟩:=b3
  exact ⟨A,hz,agree_sub (ρ:=rp) ha (by kernel_rfl) rp_ok,rfl⟩
 refine (uk_l L _ _ _ _ _ _).walk hTT ra_ok k2 b3' fun g4 b4=>?_
 obtain ⟨A4,hz4,ha4,rfl⟩:=b4
 have ld:=fun v:Int=>load_at (P:=P) (m:=false) (b:=base L.mu.iunlock) (ds:=[]) (cs:=b.at ⟨A2,[]⟩ (ulS L).todo :: cs) (z:=none) H.lib.runUnderlying_t21 H.lib.sizeOf_t21 H.lib.isAgg_t21 (at_uL L) hz4 ha4 k2 (by show (P.funcs[L.mu.iunlock]?).any (·.norace)=true;rw [H.lib.f_iunlock];exact iu_norace L) (ad:=mA Mu) nu_1 (v:=v) (fun u hu=>by cases hu)
 have hw:∀w:World,∃g',I w→Behind (n0 Mu) 21 (base L.mu.iunlock) [] (b.at ⟨A2,[]⟩ (ulS L).todo :: cs) (next (ulL L) none) g' ∧ stepG P false (G ((base L.mu.iunlock).at ⟨A4,[]⟩ (ulL L).todo) (b.at ⟨A2,[]⟩ (ulS L).todo :: cs)) w = .go g' w #[]:=fun w=>by
  by_cases hw:I w
  ·obtain ⟨v,hv⟩:=hI w hw
   obtain ⟨g',h1,h2⟩:=ld v
   exact ⟨g',fun _=>⟨h1,h2 w hv⟩⟩
  ·exact ⟨G (base 0) [],fun h=>absurd h hw⟩
 refine .step rfl (fun w=>Classical.choose (hw w)) (fun _=>#[]) (fun w hi=>⟨(Classical.choose_spec (hw w) hi).2,by simp⟩) fun w hi=>?_
 have b5:=(Classical.choose_spec (hw w) hi).1
 generalize Classical.choose (hw w)=g5 at b5
 show IdleD P false I X0 _ 0 g5
 refine (uk_v L _ _ _ _ _ _).walk hTT ra_ok k2 b5 fun g6 b6=>?_
 obtain ⟨A6,hz6,ha6,rfl⟩:=b6
 obtain ⟨g7,b7,s7⟩:=conv_at (P:=P) (m:=false) (b:=base L.mu.iunlock) (ds:=[]) (cs:=b.at ⟨A2,[]⟩ (ulS L).todo :: cs) (at_uV L) hz6 ha6 k2 H.lib.underlying_tPIMutex H.lib.underlying_tUP H.lib.room_tIMutex (ad:=mA Mu) nu_0
 refine .step rfl (fun _=>g7) (fun _=>#[]) (fun w hi=>⟨?_,by simp⟩) fun w _=>?_
 ·obtain ⟨v,hv⟩:=hI w hi
  exact s7 w _ hv
 show IdleD P false I X0 _ 0 g7
 refine (uk_r L _ _ _ _ _ _).walk hTT ra_ok k2 b7 fun g8 b8=>.stop ⟨rfl,?_⟩
 obtain ⟨A8,hz8,ha8,rfl⟩:=b8
 obtain ⟨g9,b9,s9⟩:=markAt_at (P:=P) (m:=false) (b:=base L.mu.iunlock) (ds:=[]) (cs:=b.at ⟨A2,[]⟩ (ulS L).todo :: cs) .releaseMerge (by simp) (z:=none) rfl (at_uR L) hz8 ha8 k2 H.lib.f_relMerge (e_rm_n L) (e_rm_b L) (e_rm_x L) (e_rm_f L) (ad:=mA Mu) nu_0
 refine ⟨rfl,g9,fun w _=>s9 w,?_⟩
 refine (uk_d L _ _ _ _ _ _).walk hTT ra_ok k2 b9 fun g10 b10=>.stop ⟨rfl,?_⟩
 obtain ⟨A10,hz10,ha10,rfl⟩:=b10
 obtain ⟨g11,b11,s11⟩:=mark0_at (P:=P) (m:=false) (b:=base L.mu.iunlock) (ds:=[]) (cs:=b.at ⟨A2,[]⟩ (ulS L).todo :: cs) .disable (by simp) (z:=none) rfl (at_uD L) hz10 ha10 k2 H.lib.f_disable (e_dis_n L) (e_dis_b L) (e_dis_x L) (e_dis_f L)
 refine ⟨rfl,g11,fun w _=>s11 w,LSeat.idle ?_⟩
 refine (uk_a L _ _ _ _ _ _).walk hTT ra_ok k2 b11 fun g12 b12=>.stop ?_
 obtain ⟨A12,hz12,ha12,rfl⟩:=b12
 have fin:∀ {o:Wd} {g},Behind (nu Mu 0 0 0 o 0) 21 (base L.mu.iunlock) [] (b.at ⟨A2,[]⟩ (ulS L).todo :: cs) (ulN L) g→IdleD P false I X0 (UeQ P I X) 1 g:=fun {o} {g} hg=>by
  have hg:=to_o (o' :=o0) (ulN_env L) hg
  obtain ⟨A,hz,ha,rfl⟩:=hg
  obtain ⟨g',hb,hst⟩:=mark0_at (P:=P) (m:=false) (b:=base L.mu.iunlock) (ds:=[]) (cs:=b.at ⟨A2,[]⟩ (ulS L).todo :: cs) .enable (by simp) (z:=none) rfl (at_uN L) hz ha k2 H.lib.f_enable (e_en_n L) (e_en_b L) (e_en_x L) (e_en_f L)
  refine .stop ⟨rfl,rfl,g',fun w _=>hst w,hX _ ?_⟩
  refine (uk_x L _ _ _ _ _ _).walk hTT ra_ok k2 hb fun g1 b1=>?_
  obtain ⟨A',_,_,rfl⟩:=b1
  refine leave_go (ul_at L) hz2 ha2 H.lib.f_iunlock (iu_rs L) (.inl rfl) fun g1 b1=>?_
  exact (ul_r L).walk hTM rp_ok hk b1 fun g2 b2=>.stop ⟨rfl,b2⟩
 refine ⟨rfl,rfl,rfl,fun e=>(by cases e),fun w m q hw hm hf=>.inr ?_⟩
 obtain ⟨hbits,hnB,hq1,hwf,hL⟩:=hf
 obtain ⟨v,hv⟩:∃v:Wd,v=⟨0,m.W,m.S,m.n⟩:=⟨_,rfl⟩
 have hvs:Small v:=by rw [hv];exact ⟨⟨Nat.zero_le _,hbits.W,hbits.S⟩,by dsimp only;omega⟩
 have hTv:=tabV_ok (Mu:=Mu) H hvs
 have hTu:=tabU_ok H (Mu:=Mu) (nw:=0) hvs.1 hvs.2
 have ha12':Agree (nu Mu 0 0 0 v 0) (ulA L).env A12:=agree_v r4 (ulA_env L) r4_ok ha12
 have hval:Value.int .i32 (IntKind.i32.wrap ((m.num:Int) + -1))=(E.v 4).den (nu Mu 0 0 0 v 0):=by
  rw [m1_is hbits (by omega) hL,←hv];exact nu_4.symm
 obtain ⟨g',hb,hst⟩:=add_at (P:=P) (m:=false) (b:=base L.mu.iunlock) (ds:=[]) (cs:=b.at ⟨A2,[]⟩ (ulS L).todo :: cs) (z:=some (.v 4)) (v:=(m.num:Int)) (at_uA L) hz12 ha12' k2 H.lib.f_add32 (e_add_n L) (e_add_b L) (e_add_x L) (e_add_f L) (ad:=mA Mu) nu_1 nu_z (fun y hy=>by cases hy;exact hval)
 have hgo:=hst w hm.state (hm.thaw 0)
 have hset:=hm.setState (m' :=v) (v:=IntKind.i32.wrap ((m.num:Int) + -1)) (by rw [m1_is hbits (by omega) hL,hv])
 have hS:=hbits.S
 have hW:=hbits.W
 have slow:∀ {E:Nat→Goroutine→Prop},v.num≠0→(∀g,(∃csx,(∀g,AtR L csx 1 g→IdleD P false I X0 (UeQ P I X) 1 g)∧BhU L csx (nu Mu 0 0 0 v 0) (uEn L) g)→IdleD P false I X0 E 1 g)→IdleD P false I X0 E 1 g' :=fun {E} hnz kk=>by
  have e1:(v.num != 0)=true:=by simpa using hnz
  rw [e1] at hTv
  refine (uk_u L _ _ _ _ _).walk hTv ra_ok k2 hb fun g1 b1=>?_
  obtain ⟨A1,hz1,ha1,rfl⟩:=b1
  refine enter_go (at_uU L) hz1 ha1 k2 H.f_unlockSlow (us_n L) (us_b L) (by show 2≤43;omega) fun g2 b2=>kk _ ⟨_,fun g hg=>?_,b2⟩
  obtain ⟨_,A',t,ht,rfl⟩:=hg
  refine leave_go (at_uU L) hz1 ha1 H.f_unlockSlow (us_rs L) (isRet_or ht) fun g3 b3=>?_
  exact (uk_n L _ _ _ _ _ _).walk hTv ra_ok k2 b3 fun g4 b4=>fin b4
 by_cases h1:m.S=0∧(m.W=1∨m.n=0)
 ·refine ⟨.done,v,q,g',_,_,by rw [hv];exact .u0d h1,hgo,hset,eff_m _,ev_2,fun e=>(by cases e),?_⟩
  rw [df_2]
  show IdleD P false I X0 (UeQ P I X) 1 g'
  by_cases hz:v.num=0
  ·have e1:(v.num != 0)=false:=by simpa using hz
   rw [e1] at hTv
   exact (uk_0 L _ _ _ _ _).walk hTv ra_ok k2 hb fun g1 b1=>fin b1
  ·refine slow hz fun g ⟨csx,hx,hbx⟩=>?_
   have vL:v.L=0:=by rw [hv]
   have vS:v.S=0:=by rw [hv];exact h1.1
   by_cases hw1:m.W=1
   ·have vW:v.W=1:=by rw [hv];exact hw1
    have hT' :=hTu
    rw [tabU_of (n1:=false) (fl0 vL) (fl1 vW) (fl0 vS) rfl] at hT'
    refine (cu_w L _ _).walk (ν' :=nu Mu 0 0 0 v 0) hT' r5_ok kU hbx fun g1 b1=>?_
    obtain ⟨A',_,_,rfl⟩:=b1
    exact hx _ ⟨rfl,A',_,ret_0 L,rfl⟩
   ·have vn:v.n=0:=by rw [hv];exact h1.2.resolve_left hw1
    have hT' :=hTu
    rw [tabU_of (n1:=false) (fl0 vL) rfl (fl0 vS) (show (v.n == 0)=true from by simpa using vn)] at hT'
    refine (cu_n L _ _).walk (ν' :=nu Mu 0 0 0 v 0) hT' r5_ok kU hbx fun g1 b1=>?_
    obtain ⟨A',_,_,rfl⟩:=b1
    exact hx _ ⟨rfl,A',_,ret_0 L,rfl⟩
 ·have hlseat:∀ {y:Lk},(∀csx g,BhU L csx (nu Mu 0 0 0 v 0) (uEn L) g→IdleD P false I X0 (AtU L Mu csx y) 1 g)→v.num≠0→LSeat P I tM Mu B (IdleD P false I X0 (UeQ P I X)) y 1 g' :=fun {y} hy hnz=>by
   refine LSeat.pre (slow hnz fun g ⟨csx,hx,hbx⟩=>.stop ?_)
   exact ⟨RU P L I Mu csx,fun y d g hr=>hr.mono fun d g k=>law_usl H hB hx k,hy csx g hbx⟩
  have vL:v.L=0:=by rw [hv]
  by_cases hs1:m.S=1
  ·have vS:v.S=1:=by rw [hv];exact hs1
   have hnz:v.num≠0:=by unfold Wd.num;omega
   refine ⟨.us,v,q,g',_,_,by rw [hv];exact .u0s hs1,hgo,hset,eff_m _,ev_2,fun e=>(by cases e),?_⟩
   rw [df_2]
   refine hlseat (y:=.us) (fun csx g hbx=>?_) hnz
   have hT' :=hTu
   rw [tabU_of (n1:=false) (fl0 vL) rfl (fl1 vS) rfl] at hT'
   exact (cu_s L _ _ _).walk (ν' :=nu Mu 0 0 0 v 0) hT' r5_ok kU hbx fun g1 b1=>.stop ⟨rfl,v,hvs,.inr b1⟩
  ·have hs0:m.S=0:=by omega
   have hw0:m.W=0∧0 < m.n:=by
    refine ⟨?_,?_⟩
    ·have:¬m.W=1:=fun e=>h1 ⟨hs0,.inl e⟩
     omega
    ·have:¬m.n=0:=fun e=>h1 ⟨hs0,.inr e⟩
     omega
   have vS:v.S=0:=by rw [hv];exact hs0
   have vW:v.W=0:=by rw [hv];exact hw0.1
   have vn:0 < v.n:=by rw [hv];exact hw0.2
   have hnz:v.num≠0:=by unfold Wd.num;omega
   refine ⟨.uc v,v,q,g',_,_,by rw [hv];exact .u0c ⟨hs0,hw0⟩,hgo,hset,eff_m _,ev_2,fun e=>(by cases e),?_⟩
   rw [df_2]
   refine hlseat (y:=.uc v) (fun csx g hbx=>?_) hnz
   have hT' :=hTu
   rw [tabU_of (n1:=false) (fl0 vL) (fl0 vW) (fl0 vS) (show (v.n == 0)=false from by simp;omega)] at hT'
   exact (cu_c L _).walk (ν' :=nu Mu 0 0 0 v 0) hT' r5_ok kU hbx fun g1 b1=>.stop ⟨rfl,hvs,b1⟩
end
end Go.Mx
