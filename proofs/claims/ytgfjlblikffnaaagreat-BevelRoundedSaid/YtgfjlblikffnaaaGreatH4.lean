import Derived.Conc.Events
import Derived.Test.YtgfjlblikffnaaaGreatH3
set_option linter.unusedVariables false
set_option linter.unusedSectionVars false
set_option linter.unusedSimpArgs false
namespace Go.Am
open Go.Ren (grow fM aO az)
def _root_.Go.Sem.fC{α:Type}(P:Program):Sem α→AH→Option α
 | .pure a,_=>some a
 | .load m a k,h=>match h.cell a,m with
  |some v,.plain=>(k v).fC P h
  |_,_=>none
 | .shape r k,h=>match h.look r with
  |some { obj:=.cells l e _,.. }=>(k (some (e,l.size))).fC P h
  |some _=>(k none).fC P h
  |none=>none
 | .getObj r k,h=>match h.look r with
  |some { obj:=.cells _ _ _,.. }=>none
  |some B=>(k B.obj).fC P h
  |none=>none
 | .choose q k,h=>if q.forced then (k 0).fC P h else none
 | .program k,h=>(k P).fC P h
 |_,_=>none
theorem yw{P:Program}{α:Type}(s:Sem α):∀ {h:AH} {a:α},s.fC P h=some a→s.ar P none h=some (a,h):=by
 induction s with
 |pure x=>intro h a e;simp only [Sem.fC,Option.some.injEq] at e;subst e;rfl
 |load m ad k ih=>
  intro h a e
  rw [Sem.fC.eq_def] at e
  rw [Sem.ar.eq_def]
  dsimp only at e ⊢
  generalize h.cell ad=q at e ⊢
  cases q with
  |none=>cases e
  |some v=>
   cases m with
   | plain=>exact ih _ e
   | atomic=>cases e
 |shape r k ih=>
  intro h a e
  simp only [Sem.fC] at e
  simp only [Sem.ar]
  generalize hq:h.look r=q at e ⊢
  cases q with
  |none=>cases e
  |some B=>
   obtain ⟨o,f,ro,u⟩:=B
   cases o<;>exact ih _ e
 |getObj r k ih=>
  intro h a e
  simp only [Sem.fC] at e
  simp only [Sem.ar]
  generalize hq:h.look r=q at e ⊢
  cases q with
  |none=>cases e
  |some B=>
   obtain ⟨o,f,ro,u⟩:=B
   cases o<;>first|(cases e;done)|exact ih _ e
 |choose q k ih=>
  intro h a e
  simp only [Sem.fC] at e
  simp only [Sem.ar]
  split at e
  ·rename_i hq;rw [if_pos hq];exact ih _ e
  ·cases e
 |program k ih=>intro h a e;exact ih _ e
 |_=>intro h a e;cases e
inductive Kind where
 |dS|alloc|effect
 deriving DecidableEq
def kindOf(o:Oper):Kind:=match o.op with
 | .alloc _ | .buildSlice .. =>.alloc
 | .move _ | .assign _ | .pick .. | .build .. | .load .. | .nilCheck _ | .binOp .. | .unOp .. | .convert .. | .makeInterface .. | .makeFunc .. | .slice .. | .fieldAddr .. | .field .. | .indexAddr .. | .index .. | .lookup .. | .extract .. =>.dS
 | .call { callee:=.builtin .len,.. } | .call { callee:=.builtin .min,.. } | .call { callee:=.builtin .max,.. }=>.dS
 |_=>.effect
def over(ops:Array Oper)(i:Nat)(o:Oper):Bool:=match o.op with
 | .assign _=>(match o.dst with
  |some d=>(ops.toList.take i).any fun p=>p.op.operands.toList.any fun
   | .tmp t=>t == d
   | _=>false
  |none=>false)
 |_=>false
def aH(ops:Array Oper)(i:Nat):Kind:=match ops[i]? with
 |some o=>cond (over ops i o) .effect (kindOf o)
 |none=>.dS
theorem Bz{ops:Array Oper}{i:Nat}{o:Oper}(ho:ops[i]? = some o)(hk:aH ops i ≠ .effect):aH ops i=kindOf o:=by
 unfold aH at hk ⊢
 rw [ho] at hk ⊢
 dsimp only at hk ⊢
 cases h:over ops i o with
 |true=>rw [h] at hk;exact absurd rfl hk
 |false=>rfl
theorem jU{ops:Array Oper}{i:Nat}{o:Oper}(ho:ops[i]? = some o)(hk:(∃t,o.op = .alloc t)∨∃t n ps,o.op = .buildSlice t n ps):aH ops i = .alloc:=by
 unfold aH
 rw [ho]
 dsimp only
 rcases hk with ⟨t,e⟩|⟨t,n,ps,e⟩
 ·unfold over kindOf;rw [e];rfl
 ·unfold over kindOf;rw [e];rfl
def bG(ops:Array Oper)(i:Nat):Option Tmp:=(ops[i]?).bind (·.dst)
def wantedAt(ops:Array Oper)(tmps:Array Value)(i:Nat):Bool:=match ops[i]? with
 |some o=>Region.wanted o (yielded ops tmps)
 |none=>false
def ix(l:List (Nat×List Nat)):List Nat:=l.map (·.1)
def gJ(ops:Array Oper):Bool:=
 backOk ops && (List.range ops.size).all fun i=>match ops[i]? with
  |none=>true
  |some o=>
   ((List.range ops.size).all fun j=>(i == j || bG ops i == none || bG ops i != bG ops j) &&
     o.op.operands.toList.all fun
      | .tmp t=>bG ops j != some t || dep ops ops.size i j || (aH ops j == .effect && dep ops ops.size j i)
      |_=>true) &&
   match o.guard with
   | none=>true
   | some (j,_)=>dep ops ops.size i j
def rP(ops:Array Oper):List (Nat×List Nat)→Bool
 | []=>true
 |(i,c) :: l=>decide (i < ops.size) && !(ix l).contains i && ((ix l).all fun j=> !dep ops ops.size i j) &&
  (aH ops i != .effect || (ix l).all fun j=>dep ops ops.size j i) &&
  (aH ops i == .dS || (List.range ops.size).all fun j=>(ix l).contains j || aH ops j == .effect || c.contains j ||
   (List.range ops.size).any fun e=>aH ops e == .effect && !(ix l).contains e && dep ops ops.size e j) && rP ops l
def Ho(ops:Array Oper)(l:List (Nat×List Nat)):Bool:=gJ ops && ((List.range ops.size).all fun i=>(ix l).contains i) && rP ops l
def Qx(T:List Nat)(n i j:Nat):Bool:=Nat.testBit (maskAt T n i) j
def Ui(T:List Nat)(ops:Array Oper):Bool:=
 backOk ops && (List.range ops.size).all fun i=>match ops[i]? with
  |none=>true
  |some o=>
   ((List.range ops.size).all fun j=>(i == j || bG ops i == none || bG ops i != bG ops j) &&
     o.op.operands.toList.all fun
      | .tmp t=>bG ops j != some t || Qx T ops.size i j || (aH ops j == .effect && Qx T ops.size j i)
      |_=>true) &&
   match o.guard with
   | none=>true
   | some (j,_)=>Qx T ops.size i j
def Hq(T:List Nat)(ops:Array Oper):List (Nat×List Nat)→Bool
 | []=>true
 |(i,c) :: l=>decide (i < ops.size) && !(ix l).contains i && ((ix l).all fun j=> !Qx T ops.size i j) &&
  (aH ops i != .effect || (ix l).all fun j=>Qx T ops.size j i) &&
  (aH ops i == .dS || (List.range ops.size).all fun j=>(ix l).contains j || aH ops j == .effect || c.contains j ||
   (List.range ops.size).any fun e=>aH ops e == .effect && !(ix l).contains e && Qx T ops.size e j) && Hq T ops l
def OH(T:List Nat)(ops:Array Oper)(l:List (Nat×List Nat)):Bool:=Ui T ops && ((List.range ops.size).all fun i=>(ix l).contains i) && Hq T ops l
def Hr(ops:Array Oper)(l:List (Nat×List Nat)):Bool:=OH (iY ops ops.size) ops l
theorem BQ(ops:Array Oper):∀l,Hq (iY ops ops.size) ops l=rP ops l
 | []=>rfl
 |(i,c) :: l=>by
  simp only [Hq,rP,BQ ops l]
  rfl
theorem KX(ops:Array Oper)(l:List (Nat×List Nat)):Hr ops l=Ho ops l:=by
 unfold Hr OH Ho
 rw [BQ]
 rfl
section
variable{P:Program}{ρ σ:Env}{ops:Array Oper}
theorem iy{l:List (Nat×List Nat)}{i:Nat}:(ix l).contains i=true↔i∈ix l:=by simp
theorem uD{i:Nat}(h:i < ops.size):ops[i]? = some ops[i]:=by simp [h]
theorem jV(h:gJ ops=true):backOk ops=true:=by unfold gJ at h;simp only [Bool.and_eq_true] at h;exact h.1
theorem jr(h:gJ ops=true){i:Nat}{o:Oper}(ho:ops[i]? = some o) :
  (∀j,j < ops.size→(i=j∨bG ops i=none∨bG ops i≠bG ops j)∧∀t,.tmp t∈o.op.operands→bG ops j=some t→dep ops ops.size i j=true∨(aH ops j = .effect∧dep ops ops.size j i=true))∧∀j b,o.guard=some (j,b)→dep ops ops.size i j=true:=by
 have hi:i < ops.size:=(Array.getElem?_eq_some_iff.1 ho).1
 unfold gJ at h
 simp only [Bool.and_eq_true] at h
 have h2:=List.all_eq_true.1 h.2 i (by simpa using hi)
 rw [ho] at h2
 dsimp only at h2
 simp only [Bool.and_eq_true] at h2
 obtain ⟨h2,h3⟩:=h2
 refine ⟨fun j hj=>?_,fun j b hg=>?_⟩
 ·have:=List.all_eq_true.1 h2 j (by simpa using hj)
  simp only [Bool.and_eq_true,Bool.or_eq_true,beq_iff_eq,bne_iff_ne,ne_eq] at this
  obtain ⟨k1,k2⟩:=this
  refine ⟨?_,fun t ht hd=>?_⟩
  ·rcases k1 with (k1|k1)|k1
   · exact .inl k1
   · exact .inr (.inl k1)
   · exact .inr (.inr k1)
  ·have:=List.all_eq_true.1 k2 (.tmp t) (by simpa using ht)
   simp only [Bool.or_eq_true,bne_iff_ne,ne_eq,Bool.and_eq_true,beq_iff_eq] at this
   rcases this with (x|x)|x
   · exact absurd hd x
   · exact .inl x
   · exact .inr x
 ·rw [hg] at h3
  exact h3
theorem qB(h:gJ ops=true){i j:Nat}{d:Tmp}(hi:i < ops.size)(hj:j < ops.size)(h1:bG ops i=some d)(h2:bG ops j=some d):i=j:=by
 rcases ((jr h (uD hi)).1 j hj).1 with k|k|k
 ·exact k
 ·rw [h1] at k;cases k
 ·rw [h1,h2] at k;exact absurd rfl k
theorem xH{i j:Nat}(h:gJ ops=true)(hi:i < ops.size)(k:dep ops ops.size i j=true):j < i:=by
 have ha:=Hg _ _ _ k
 have hb:=jV h
 clear k
 induction ha with
 |one e=>exact qZ hb hi e
 |more e t ih=>exact Nat.lt_trans (ih (Nat.lt_trans (qZ hb hi e) hi)) (qZ hb hi e)
theorem iZ{i:Nat}{c:List Nat}{l:List (Nat×List Nat)}(h:rP ops ((i,c) :: l)=true) :
  i < ops.size∧i∉ix l∧(∀j∈ix l,dep ops ops.size i j=false)∧(aH ops i = .effect→∀j∈ix l,dep ops ops.size j i=true) ∧
  (aH ops i ≠ .dS→∀j,j < ops.size→j∉ix l→aH ops j ≠ .effect→j∈c∨∃e,e < ops.size∧aH ops e = .effect∧e∉ix l∧dep ops ops.size e j=true)∧rP ops l=true:=by
 unfold rP at h
 simp only [Bool.and_eq_true,decide_eq_true_eq] at h
 obtain ⟨⟨⟨⟨⟨h1,h2⟩,h3⟩,h4⟩,h5⟩,h6⟩:=h
 refine ⟨h1,fun hm=>?_,fun j hj=>?_,fun hk j hj=>?_,fun hk j hj hn he=>?_,h6⟩
 ·rw [iy.2 hm] at h2;cases h2
 ·have:=List.all_eq_true.1 h3 j hj
  simpa using this
 ·simp only [Bool.or_eq_true,bne_iff_ne,ne_eq] at h4
  exact List.all_eq_true.1 (h4.resolve_left fun x=>x hk) j hj
 ·simp only [Bool.or_eq_true,beq_iff_eq] at h5
  have:=List.all_eq_true.1 (h5.resolve_left hk) j (by simpa using hj)
  simp only [Bool.or_eq_true,beq_iff_eq] at this
  rcases this with ((x|x)|x)|x
  ·exact absurd (iy.1 x) hn
  ·exact absurd x he
  ·exact .inl (by simpa using x)
  ·obtain ⟨e,e1,e2⟩:=List.any_eq_true.1 x
   simp only [Bool.and_eq_true,beq_iff_eq,Bool.not_eq_true'] at e2
   obtain ⟨⟨e2,e3⟩,e4⟩:=e2
   refine .inr ⟨e,by simpa using e1,e2,fun hm=>?_,e4⟩
   rw [iy.2 hm] at e3
   cases e3
theorem Uj:∀ {l:List (Nat×List Nat)},rP ops l=true→∀i∈ix l,i < ops.size
 | [],_,i,h=>by cases h
 |(j,c) :: l,h,i,hi=>by
  obtain ⟨o1,_,_,_,_,o6⟩:=iZ h
  rcases List.mem_cons.1 hi with rfl|hi
  ·exact o1
  ·exact Uj o6 i hi
def fZ(P:Program)(h:AH)(tmps:Array Value)(o:Oper):Option Value:=
 if bf o && kD P h (af tmps) o then match (execOp (af tmps) o).fC P h with
  |some (.value v)=>some v
  |_=>none
 else none
def zeroOf(P:Program)(t:TypeId):Option Value:=(P.info? t).bind (·.zero)
def iw(P:Program)(e:Operand→Value)(t:TypeId)(len:Nat)(ps:Array (Nat×Operand)):Option (TypeId×Array Value):=
 match P.underlying t with
 |some (.slice elem)=>match P.info? elem with
  |some i=>if len * i.size > 2 ^ 24 then none else match i.zero with
   | some z=>match Instr.fill (fun j=>some (j * i.size,i.size)) ((Array.range (len * i.size)).map fun j=>z.cells[j % z.cells.size]!) (ps.map fun p=>(p.1,e p.2)).toList with
     |some cells=>some (elem,cells)
     |none=>none
   | none=>none
  |none=>none
 |_=>none
theorem Ap{e e':Operand→Value}{t:TypeId}{len:Nat}{ps:Array (Nat×Operand)}(hv:∀x∈ps,e x.2=e' x.2):iw P e t len ps=iw P e' t len ps:=by
 have:(ps.map fun p=>(p.1,e p.2))=ps.map fun p=>(p.1,e' p.2):=Array.map_congr_left fun x hx=>by rw [hv _ hx]
 unfold iw
 rw [this]
inductive EqAt(P:Program)(h:AH)(ops:Array Oper)(tmps:Array Value)(i:Nat):Prop
 |unwanted {o:Oper} {d:Tmp} (ho:ops[i]? = some o) (hw:Region.wanted o (yielded ops tmps)=false) (hd:o.dst=some d) (hv:tmps[d]? = some undef)
 |dS {o:Oper} {d:Tmp} {v:Value} (ho:ops[i]? = some o) (hw:Region.wanted o (yielded ops tmps)=true) (hk:kindOf o = .dS) (hd:o.dst=some d) (hv:tmps[d]? = some v) (hl:fZ P h tmps o=some v)
 |alloc {o:Oper} {d:Tmp} {t:TypeId} {b:Nat} {z:Value} (ho:ops[i]? = some o) (hw:Region.wanted o (yielded ops tmps)=true) (hd:o.dst=some d) (hop:o.op = .alloc t) (hz:zeroOf P t=some z)
   (hv:tmps[d]? = some (.pointer (some ⟨b,0,none⟩))) (hl:h.look b=some ⟨.cells z.cells t (0,0),none,false,0⟩)
 |built {o:Oper} {d:Tmp} {t:TypeId} {n:Nat} {ps:Array (Nat×Operand)} {b:Nat} {elem:TypeId} {cells:Array Value} (ho:ops[i]? = some o) (hw:Region.wanted o (yielded ops tmps)=true) (hd:o.dst=some d) (hop:o.op = .buildSlice t n ps) (hk:bf o=true)
   (hb:iw P (af tmps) t n ps=some (elem,cells)) (hv:tmps[d]? = some (.slice (some ⟨b,0,none⟩) n n)) (hl:h.look b=some ⟨.cells cells elem (0,0),none,false,0⟩)
theorem BU{tmps:Array Value}{d:Tmp}{v:Value}{x:Operand}(h:x ≠ .tmp d):af (tmps.setIfInBounds d v) x=af tmps x:=by
 cases x with
 |tmp t=>
  show (tmps.setIfInBounds d v).getD t undef=tmps.getD t undef
  rw [Array.getD_eq_getD_getElem?,Array.getD_eq_getD_getElem?,Array.getElem?_setIfInBounds,if_neg (fun e=>h (by rw [e]))]
 |_=>rfl
theorem KY{h:AH}{e e':Operand→Value}{o:Oper}(hv:∀x∈o.op.operands,e x=e' x):kD P h e o=kD P h e' o:=by
 unfold kD
 cases hop:o.op with
 |nilCheck x=>rw [hop] at hv;dsimp only;rw [hv x (by simp [Op.operands])]
 |binOp op t x y s=>rw [hop] at hv;dsimp only;rw [hv x (by simp [Op.operands]),hv y (by simp [Op.operands])]
 |convert s d x=>rw [hop] at hv;dsimp only;rw [hv x (by simp [Op.operands])]
 |lookup t x k c=>rw [hop] at hv;dsimp only;rw [hv k (by simp [Op.operands])]
 |mapUpdate t x k v=>rw [hop] at hv;dsimp only;rw [hv k (by simp [Op.operands])]
 |insert t x k v=>rw [hop] at hv;dsimp only;rw [hv k (by simp [Op.operands])]
 |mapEntry t x k=>rw [hop] at hv;dsimp only;rw [hv k (by simp [Op.operands])]
 |next it s=>rw [hop] at hv;dsimp only;rw [hv it (by simp [Op.operands])]
 |entry it=>rw [hop] at hv;dsimp only;rw [hv it (by simp [Op.operands])]
 |slice t x lo hi mx=>
  rw [hop] at hv
  dsimp only
  cases lo<;>cases hi<;>cases mx<;>simp_all [Op.operands]
 |call c=>
  rw [hop] at hv
  dsimp only
  cases hc:c.callee with
  |value f=>dsimp only;rw [hv f (by simp [Op.operands,Call.operands,hc])]
  |builtin b=>
   cases b with
   | cap=>
     have hv':∀x∈c.args.toList,e x=e' x:=fun x hx=>hv x (by simp only [Op.operands,Call.operands];exact Array.mem_append.2 (.inr (Array.mem_toList_iff.1 hx)))
     dsimp only
     generalize c.args.toList=l at hv'
     match l,hv' with
     | [],_=>rfl
     | [x],hv'=>dsimp only;rw [hv' x (by simp)]
     |_ :: _ :: _,_=>rfl
   | clear=>
     have hv':∀x∈c.args.toList,e x=e' x:=fun x hx=>hv x (by simp only [Op.operands,Call.operands];exact Array.mem_append.2 (.inr (Array.mem_toList_iff.1 hx)))
     dsimp only
     generalize c.args.toList=l at hv'
     match l,hv' with
     | [],_=>rfl
     | [x],hv'=>dsimp only;rw [hv' x (by simp)]
     |_ :: _ :: _,_=>rfl
   | _=>rfl
  |_=>rfl
 |_=>rfl
theorem qC{h:AH}{t t':Array Value}{o:Oper}(hk:kindOf o = .dS)(hv:∀x∈o.op.operands,af t x=af t' x):fZ P h t o=fZ P h t' o:=by
 have hs:∀cs b,o.op ≠ .select cs b:=fun cs b e=>by unfold kindOf at hk;rw [e] at hk;cases hk
 unfold fZ
 rw [KY hv,execOp_congr o hs hv]
theorem EqAt.set{h:AH}{tmps:Array Value}{i j:Nat}{d:Tmp}{v:Value}(hok:gJ ops=true)(k:EqAt P h ops tmps i)(hi:i < ops.size)(hj:j < ops.size)(hd:bG ops j=some d)(hij:dep ops ops.size i j=false)(hne:i≠j)(hk:aH ops j ≠ .effect∨dep ops ops.size j i=false):EqAt P h ops (tmps.setIfInBounds d v) i:=by
 have hops:∀o,ops[i]? = some o→∀x∈o.op.operands,af (tmps.setIfInBounds d v) x=af tmps x:=fun o ho x hx=>BU fun e=>by
  subst e
  rcases ((jr hok ho).1 j hj).2 d hx hd with this|⟨k1,k2⟩
  ·rw [hij] at this
   cases this
  ·rcases hk with hk|hk
   · exact hk k1
   · rw [hk] at k2;cases k2
 have hdst:∀o t,ops[i]? = some o→o.dst=some t→(tmps.setIfInBounds d v)[t]? = tmps[t]? :=fun o t ho ht=>by
  rw [Array.getElem?_setIfInBounds,if_neg]
  intro e
  subst e
  exact hne (qB hok hi hj (by unfold bG;rw [ho];exact ht) hd)
 have hw:∀o,ops[i]? = some o→Region.wanted o (yielded ops (tmps.setIfInBounds d v))=Region.wanted o (yielded ops tmps):=fun o ho=>by
  unfold Region.wanted
  cases hg:o.guard with
  |none=>rfl
  |some p=>
   obtain ⟨g,b⟩:=p
   dsimp only
   have hig:=(jr hok ho).2 g b hg
   have:yielded ops (tmps.setIfInBounds d v) g=yielded ops tmps g:=by
     unfold yielded
     cases hgd:(ops[g]?).bind (·.dst) with
     |none=>rfl
     |some t=>
      simp only [Option.bind_some]
      rw [Array.getElem?_setIfInBounds,if_neg]
      intro e
      subst e
      have hgn:g < ops.size:=Nat.lt_trans (xH hok hi hig) hi
      have:=qB hok hgn hj hgd hd
      subst this
      rw [hij] at hig
      cases hig
   rw [this]
 cases k with
 | @unwanted o t ho hw' ht hv=>exact .unwanted ho (by rw [hw o ho];exact hw') ht (by rw [hdst o t ho ht];exact hv)
 | @dS o t u ho hw' hk ht hv hl=>exact .dS ho (by rw [hw o ho];exact hw') hk ht (by rw [hdst o t ho ht];exact hv) (by rw [qC hk (hops o ho)];exact hl)
 | @alloc o t ty b z ho hw' ht hop hz hv hl=>exact .alloc ho (by rw [hw o ho];exact hw') ht hop hz (by rw [hdst o t ho ht];exact hv) hl
 | @built o t ty n ps b elem cells ho hw' ht hop hk hb hv hl=>
  refine .built ho (by rw [hw o ho];exact hw') ht hop hk ?_ (by rw [hdst o t ho ht];exact hv) hl
  rw [Ap fun x hx=>hops o ho x.2 ?_]
  ·exact hb
  ·rw [hop]
   simp only [Op.operands,List.mem_toArray,List.mem_map]
   exact ⟨x,by simpa using hx,rfl⟩
end
end Go.Am
namespace Go.Am
open Go.Ren (grow fM aO az)
def jB:Nat→Value→Value→Bool
 |0,_,_=>false
 |n+1,a,b=>match a,b with
  | .bool x,.bool y=>decide (x=y)
  | .int k x,.int l y=>decide (k=l) && decide (x=y)
  | .string x,.string y=>decide (x.data.toList=y.data.toList)
  | .pointer x,.pointer y=>decide (x=y)
  | .slice x a b,.slice y c d=>decide (x=y) && decide (a=c) && decide (b=d)
  | .map x,.map y=>decide (x=y)
  | .func f a b,.func g c d=>decide (f=g) && decide (a.toList.length=c.toList.length) && (a.toList.zip c.toList).all (fun p=>jB n p.1 p.2) && decide (b.toList.length=d.toList.length) && (b.toList.zip d.toList).all (fun p=>jB n p.1 p.2)
  | .nilFunc,.nilFunc | .nilIface,.nilIface=>true
  | .iface t x,.iface u y=>decide (t=u) && jB n x y
  | .agg x,.agg y | .tuple x,.tuple y=>decide (x.toList.length=y.toList.length) && (x.toList.zip y.toList).all (fun p=>jB n p.1 p.2)
  |_,_=>false
theorem zA{n:Nat}(ih:∀a b,jB n a b=true→a=b):∀l m:List Value,l.length=m.length→(l.zip m).all (fun p=>jB n p.1 p.2)=true→l=m
 | [],[],_,_=>rfl
 | [],_ :: _,h,_=>by simp at h
 |_ :: _,[],h,_=>by simp at h
 |x :: l,y :: m,h,k=>by
  simp only [List.zip_cons_cons,List.all_cons,Bool.and_eq_true] at k
  rw [ih x y k.1,zA ih l m (by simpa using h) k.2]
theorem xI{a b:Array Value}(h:a.toList=b.toList):a=b:=by cases a;cases b;simp at h;rw [h]
theorem iq:∀(n:Nat) (a b:Value),jB n a b=true→a=b:=by
 intro n
 induction n with
 |zero=>intro a b h;cases h
 |succ n ih=>
  intro a b h
  unfold jB at h
  split at h
  ·rw [of_decide_eq_true h]
  ·simp only [Bool.and_eq_true,decide_eq_true_eq] at h;rw [h.1,h.2]
  ·rename_i x y
   have:=of_decide_eq_true h
   obtain ⟨x⟩:=x
   obtain ⟨y⟩:=y
   congr 2
   exact Array.toList_inj.1 this
  ·rw [of_decide_eq_true h]
  ·simp only [Bool.and_eq_true,decide_eq_true_eq] at h;rw [h.1.1,h.1.2,h.2]
  ·rw [of_decide_eq_true h]
  ·simp only [Bool.and_eq_true,decide_eq_true_eq] at h
   obtain ⟨⟨⟨⟨h1,h2⟩,h3⟩,h4⟩,h5⟩:=h
   rw [h1,xI (zA ih _ _ h2 h3),xI (zA ih _ _ h4 h5)]
  ·rfl
  ·rfl
  ·simp only [Bool.and_eq_true,decide_eq_true_eq] at h;rw [h.1,ih _ _ h.2]
  ·simp only [Bool.and_eq_true,decide_eq_true_eq] at h;rw [xI (zA ih _ _ h.1 h.2)]
  ·simp only [Bool.and_eq_true,decide_eq_true_eq] at h;rw [xI (zA ih _ _ h.1 h.2)]
  ·cases h
def eqB(P:Program)(h:AH)(ops:Array Oper)(tmps:Array Value)(i:Nat):Bool:=match ops[i]? with
 |none=>false
 |some o=>match o.dst with
  |none=>false
  |some d=>match tmps[d]? with
   | none=>false
   | some v=>match Region.wanted o (yielded ops tmps) with
     |false=>jB 1 undef v
     |true=>match o.op with
      | .alloc t=>match zeroOf P t,v with
       |some z,.pointer (some ⟨b,0,none⟩)=>match h.look b with
        | some ⟨.cells c t' (0,0),none,false,0⟩=>decide (t' = t) && jB 9 (.agg c) (.agg z.cells)
        | _=>false
       |_,_=>false
      | .buildSlice t n ps=>bf o && match iw P (af tmps) t n ps,v with
       |some (elem,cells),.slice (some ⟨b,0,none⟩) n₁ n₂=>decide (n₁=n∧n₂=n) && match h.look b with
        | some ⟨.cells c t' (0,0),none,false,0⟩=>decide (t' = elem) && jB 9 (.agg c) (.agg cells)
        | _=>false
       |_,_=>false
      |_=>decide (kindOf o = .dS) && match fZ P h tmps o with
       |some v'=>jB 9 v v'
       |none=>false
theorem abE{P:Program}{h:AH}{ops:Array Oper}{tmps:Array Value}{i:Nat}(k:eqB P h ops tmps i=true):EqAt P h ops tmps i:=by
 unfold eqB at k
 split at k
 ·cases k
 rename_i o ho
 split at k
 ·cases k
 rename_i d hd
 split at k
 ·cases k
 rename_i v hv
 split at k
 ·rename_i hw
  have:=iq _ _ _ k
  subst this
  exact .unwanted ho hw hd hv
 rename_i hw
 split at k
 ·rename_i t hop
  split at k
  ·rename_i z b hz
   split at k
   · rename_i c t' hl
     simp only [Bool.and_eq_true,decide_eq_true_eq] at k
     obtain ⟨rfl,k2⟩:=k
     have:=iq _ _ _ k2
     simp only [Value.agg.injEq] at this
     subst this
     exact .alloc ho hw hd hop hz hv hl
   · cases k
  ·cases k
 ·rename_i t n ps hop
  simp only [Bool.and_eq_true] at k
  obtain ⟨hok,k⟩:=k
  split at k
  ·rename_i elem cells b n₁ n₂ hb
   simp only [Bool.and_eq_true,decide_eq_true_eq] at k
   obtain ⟨⟨rfl,rfl⟩,k⟩:=k
   split at k
   · rename_i c t' hl
     simp only [Bool.and_eq_true,decide_eq_true_eq] at k
     obtain ⟨rfl,k2⟩:=k
     have:=iq _ _ _ k2
     simp only [Value.agg.injEq] at this
     subst this
     exact .built ho hw hd hop hok hb hv hl
   · cases k
  ·cases k
 ·simp only [Bool.and_eq_true,decide_eq_true_eq] at k
  obtain ⟨hk,k⟩:=k
  split at k
  ·rename_i v' hl
   have:=iq _ _ _ k
   subst this
   exact .dS ho hw hk hd hv hl
  ·cases k
def recheck(P:Program)(ops:Array Oper)(c:List Nat)(tmps:Array Value)(h:AH):Bool:=c.all (eqB P h ops tmps)
def adt:Value→Option Nat
 | .pointer (some ⟨b,0,none⟩)=>some b
 | .slice (some ⟨b,0,none⟩) _ _=>some b
 |_=>none
def dZ(ops:Array Oper)(tmps:Array Value)(i b:Nat):Prop:=aH ops i = .alloc∧wantedAt ops tmps i=true∧∃d:Tmp,bG ops i=some d∧(tmps[d]?).bind adt=some b
structure FD(ρ:Env)(lo hi:Nat)(ops:Array Oper)(l:List (Nat×List Nat))(s:List Nat)(a:aF)(f:Frame):Prop where
 base:FB ρ a f
 run:a.ret=false
 todo:∃k k',a.todo = .drawn ops l :: k∧f.todo = .inRegion ops s :: k' ∧ LR (xR ρ) k k'
 ok:gJ ops=true
 ord:rP ops l=true
 ZW:Qk ops s
 down:Down ops s
 lt:∀i∈s,i < ops.size
 sub:∀i∈ix l,i∈s
 done:∀i,i < ops.size→i∉ix l→∀j∈ix l,dep ops ops.size i j=false
 eff:∀i∈s,i∉ix l→aH ops i ≠ .effect
 size:a.tmps.size=f.tmps.size
 tmps:∀t:Tmp,(∀i∈s,i∉ix l→bG ops i≠some t)→eF (VR ρ) a.tmps[t]? f.tmps[t]?
 bd:∀i∈s,i∉ix l→∀b,dZ ops a.tmps i b→lo≤b∧b < hi∧¬ρ.born b
 Qy:∀i∈s,i∉ix l→∀j∈s,j∉ix l→∀b,dZ ops a.tmps i b→dZ ops a.tmps j b→i=j
def UE(P:Program)(h:AH)(ops:Array Oper)(l:List (Nat×List Nat))(s:List Nat)(tmps:Array Value):Prop:=∀i∈s,i∉ix l→EqAt P h ops tmps i
section
variable{P:Program}{ρ σ:Env}{lo hi hi' i:Nat}{ops:Array Oper}{l:List (Nat×List Nat)}{s:List Nat}{a:aF}{f:Frame}{h:AH}{c:List Nat}{o:Oper}{d:Tmp}{v v':Value}
theorem FD.mono(k:FD ρ lo hi ops l s a f)(hle:ρ.Le σ)(hb:∀x,x < hi→σ.born x→ρ.born x)(hh:hi≤hi'):FD σ lo hi' ops l s a f:=by
 obtain ⟨k1,k2,t1,t2,hl⟩:=k.todo
 refine ⟨k.base.mono hle,k.run,⟨k1,k2,t1,t2,hl.mono fun _ _ x=>x.mono hle⟩,k.ok,k.ord,k.ZW,k.down,k.lt,k.sub,k.done,k.eff,k.size,fun t ht=>?_,fun i hi hn b hal=>?_,k.Qy⟩
 ·have:=k.tmps t ht
  revert this
  generalize a.tmps[t]? = x
  generalize f.tmps[t]? = y
  intro this
  cases this with
  |none=>exact .none
  |some x=>exact .some (x.mono hle)
 ·obtain ⟨b1,b2,b3⟩:=k.bd i hi hn b hal
  exact ⟨b1,Nat.lt_of_lt_of_le b2 hh,fun x=>b3 (hb b b2 x)⟩
theorem abG{x y:Array Value}{t:Nat}(k:eF (VR ρ) x[t]? y[t]?):VR ρ (x.getD t undef) (y.getD t undef):=by
 rw [Array.getD_eq_getD_getElem?,Array.getD_eq_getD_getElem?]
 revert k
 generalize x[t]? = u
 generalize y[t]? = w
 intro k
 cases k with
 |none=>exact gV
 |some h=>exact h
theorem zB(hok:gJ ops=true){j:Nat}{t:Tmp}(ho:ops[i]? = some o)(hj:j < ops.size)(ht: .tmp t∈o.op.operands)(hd:bG ops j=some t)(hk:aH ops j ≠ .effect):dep ops ops.size i j=true:=(((jr hok ho).1 j hj).2 t ht hd).resolve_right fun x=>hk x.1
theorem FD.Ht(k:FD ρ lo hi ops l (i :: s) a f){j:Nat}(hd:dep ops ops.size i j=true):j∉i :: s:=
 k.ZW.head k.down (jV k.ok) (k.lt i (by simp)) (Hg _ _ _ hd)
theorem FD.kW(k:FD ρ lo hi ops l (i :: s) a f)(ho:ops[i]? = some o)(hk:bf o=true):∀x∈o.op.operands,VR ρ (af a.tmps x) (f.eval x):=by
 intro x hx
 have:=List.all_eq_true.1 hk x (by simpa using hx)
 cases x with
 |tmp t=>exact abG (k.tmps t fun j hj hn hd=>k.Ht (zB k.ok ho (k.lt j hj) hx hd (k.eff j hj hn)) hj)
 |const v=>exact (dG this).vr ρ
 |global g=>cases this
 |func f=>exact .func (.func f) rfl (fun i x y h=>by simp at h) rfl (fun i x y h=>by simp at h)
theorem FD.kP(k:FD ρ lo hi ops l (i :: s) a f)(ho:ops[i]? = some o):Region.wanted o (yielded ops f.tmps)=Region.wanted o (yielded ops a.tmps):=by
 unfold Region.wanted
 cases hg:o.guard with
 |none=>rfl
 |some p=>
  obtain ⟨g,b⟩:=p
  dsimp only
  have hig:=(jr k.ok ho).2 g b hg
  have hgn:g < ops.size:=Nat.lt_trans (xH k.ok (k.lt i (by simp)) hig) (k.lt i (by simp))
  have:yielded ops f.tmps g=yielded ops a.tmps g:=by
   unfold yielded
   cases hgd:(ops[g]?).bind (·.dst) with
   | none=>rfl
   | some t=>
     simp only [Option.bind_some]
     have:=k.tmps t fun j hj hn hd=>by
      have:=qB k.ok (k.lt j hj) hgn hd hgd
      subst this
      exact k.Ht hig hj
     revert this
     generalize a.tmps[t]? = x
     generalize f.tmps[t]? = y
     intro this
     cases this with
     |none=>rfl
     |some h=>cases h<;>rfl
  rw [this]
theorem xh{k':List Item}(ht:f.todo = .inRegion ops (i :: s) :: k')(v:Value):f.finish v={ f with tmps:=cZ f.tmps (bG ops i) v,todo:=.inRegion ops s :: k' }:=by
 obtain ⟨g,tmps,todo,defers,mode,kind,ro⟩:=f
 dsimp only at ht
 subst ht
 rfl
theorem Jj(h:Qk ops (i :: s)):i∉s∧Qk ops s:=by cases h with|cons _ hn k=>exact ⟨hn,k⟩
theorem FD.lag(k:FD ρ lo hi ops l (i :: s) a f)(hn:i∉ix l)(hd:bG ops i=some d)(hv:a.tmps[d]? = some v)(hvr:VR σ v v')(hle:ρ.Le σ)(hb:∀x,σ.born x→ρ.born x∨dZ ops a.tmps i x) :
  FD σ lo hi ops l s a (f.finish v'):=by
 obtain ⟨k1,k2,t1,t2,hl⟩:=k.todo
 rw [xh t2]
 obtain ⟨hns,hlin⟩:=Jj k.ZW
 have kb:=k.base.mono hle
 refine ⟨⟨kb.fn,kb.defers,kb.mode,kb.kind,kb.round⟩,k.run,⟨k1,k2,t1,rfl,hl.mono fun _ _ x=>x.mono hle⟩,k.ok,k.ord,hlin,k.ZW.down k.down,fun j hj=>k.lt j (List.mem_cons_of_mem _ hj),fun j hj=>?_,k.done,fun j hj hj'=>k.eff j (List.mem_cons_of_mem _ hj) hj',?_,fun t ht=>?_,fun j hj hj' b hal=>?_,fun j hj hj' j' hk hk'=>k.Qy j (List.mem_cons_of_mem _ hj) hj' j' (List.mem_cons_of_mem _ hk) hk'⟩
 ·exact (List.mem_cons.1 (k.sub j hj)).resolve_left fun e=>hn (e ▸ hj)
 ·rw [hd];simpa [cZ] using k.size
 ·rw [hd]
  show eF (VR σ) a.tmps[t]? (f.tmps.setIfInBounds d v')[t]?
  rw [Array.getElem?_setIfInBounds]
  by_cases e:d=t
  ·subst e
   have hlt:d < f.tmps.size:=by rw [←k.size];exact (Array.getElem?_eq_some_iff.1 hv).1
   rw [if_pos rfl,if_pos hlt,hv]
   exact .some hvr
  ·rw [if_neg e]
   have:=k.tmps t fun j hj hj' hdj=>by
     rcases List.mem_cons.1 hj with rfl|hj
     ·rw [hd] at hdj;cases hdj;exact e rfl
     ·exact ht j hj hj' hdj
   revert this
   generalize a.tmps[t]? = x
   generalize f.tmps[t]? = y
   intro this
   cases this with
   | none=>exact .none
   | some x=>exact .some (x.mono hle)
 ·obtain ⟨b1,b2,b3⟩:=k.bd j (List.mem_cons_of_mem _ hj) hj' b hal
  refine ⟨b1,b2,fun x=>(hb b x).elim b3 fun y=>?_⟩
  have:=k.Qy i (by simp) hn j (List.mem_cons_of_mem _ hj) hj' b y hal
  subst this
  exact hns hj
theorem uF{j:Nat}(hok:gJ ops=true){tm:Array Value}(hj:j < ops.size)(hi:i < ops.size)(hd:bG ops i=some d)(hji:dep ops ops.size j i=false):wantedAt ops (tm.setIfInBounds d v) j=wantedAt ops tm j:=by
 unfold wantedAt
 rw [uD hj]
 dsimp only
 unfold Region.wanted
 cases hg:ops[j].guard with
 |none=>rfl
 |some p=>
  obtain ⟨g,b⟩:=p
  dsimp only
  have hig:=(jr hok (uD hj)).2 g b hg
  have hgn:g < ops.size:=Nat.lt_trans (xH hok hj hig) hj
  have:yielded ops (tm.setIfInBounds d v) g=yielded ops tm g:=by
   unfold yielded
   cases hgd:(ops[g]?).bind (·.dst) with
   | none=>rfl
   | some t=>
     simp only [Option.bind_some]
     rw [Array.getElem?_setIfInBounds,if_neg]
     intro e
     subst e
     have:=qB hok hgn hi hgd hd
     subst this
     rw [hji] at hig
     cases hig
  rw [this]
theorem xk{j b:Nat}(hok:gJ ops=true){tm:Array Value}(hj:j < ops.size)(hi:i < ops.size)(hd:bG ops i=some d)(hji:dep ops ops.size j i=false)(hne:j≠i)(k:dZ ops (tm.setIfInBounds d v) j b):dZ ops tm j b:=by
 obtain ⟨k1,k2,t,k3,k4⟩:=k
 refine ⟨k1,by rw [uF hok hj hi hd hji] at k2;exact k2,t,k3,?_⟩
 rw [Array.getElem?_setIfInBounds,if_neg] at k4
 ·exact k4
 ·intro e
  subst e
  exact hne (qB hok hj hi k3 hd)
theorem gK:ix ((i,c) :: l)=i :: ix l:=rfl
theorem FD.ahead(k:FD ρ lo hi ops ((i,c) :: l) s a f){kk:List aK}(hk:a.todo = .drawn ops ((i,c) :: l) :: kk)(hne:aH ops i ≠ .effect)(hd:bG ops i=some d)(hh:hi≤hi')(hlo:lo≤hi)
  (hal:∀b,dZ ops (a.tmps.setIfInBounds d v) i b→hi≤b∧b < hi' ∧ ¬ρ.born b):FD ρ lo hi' ops l s { a with tmps:=a.tmps.setIfInBounds d v,todo:=.drawn ops l :: kk } f:=by
 obtain ⟨k1,k2,t1,t2,hl⟩:=k.todo
 rw [hk] at t1
 cases t1
 obtain ⟨o1,o2,o3,o4,o5,o6⟩:=iZ k.ord
 have old:∀j,j∉ix l→j≠i→j∉ix ((i,c) :: l):=fun j h1 h2 h3=>(List.mem_cons.1 h3).elim h2 h1
 have ne:∀j∈s,j∉ix l→∀b,dZ ops (a.tmps.setIfInBounds d v) j b→j≠i→dZ ops a.tmps j b:=fun j hj hn b hal' hji=>
  xk k.ok (k.lt j hj) o1 hd (k.done j (k.lt j hj) (old j hn hji) i (by simp [gK])) hji hal'
 have bound:∀j∈s,j∉ix l→∀b,dZ ops (a.tmps.setIfInBounds d v) j b→j≠i→lo≤b∧b < hi∧¬ρ.born b:=fun j hj hn b hal' hji=>k.bd j hj (old j hn hji) b (ne j hj hn b hal' hji)
 refine ⟨⟨k.base.fn,k.base.defers,k.base.mode,k.base.kind,k.base.round⟩,k.run,⟨kk,k2,rfl,t2,hl⟩,k.ok,o6,k.ZW,k.down,k.lt,fun j hj=>k.sub j (by rw [gK];exact List.mem_cons_of_mem _ hj),fun j hj hn m hm=>?_,fun j hj hn=>?_,by simpa using k.size,fun t ht=>?_,fun j hj hn b hal'=>?_,fun j hj hn m hm hm' b h1 h2=>?_⟩
 ·by_cases e:j=i
  ·subst e;exact o3 m hm
  ·exact k.done j hj (old j hn e) m (by rw [gK];exact List.mem_cons_of_mem _ hm)
 ·by_cases e:j=i
  ·subst e;exact hne
  ·exact k.eff j hj (old j hn e)
 ·show eF (VR ρ) (a.tmps.setIfInBounds d v)[t]? f.tmps[t]?
  rw [Array.getElem?_setIfInBounds,if_neg (fun (e:d=t)=>ht i (k.sub i (by simp [gK])) o2 (e ▸ hd))]
  exact k.tmps t fun j hj hn=>ht j hj fun hm=>hn (by rw [gK];exact List.mem_cons_of_mem _ hm)
 ·by_cases e:j=i
  ·subst e
   obtain ⟨b1,b2,b3⟩:=hal b hal'
   exact ⟨Nat.le_trans hlo b1,b2,b3⟩
  ·obtain ⟨b1,b2,b3⟩:=bound j hj hn b hal' e
   exact ⟨b1,Nat.lt_of_lt_of_le b2 hh,b3⟩
 ·by_cases e1:j=i
  ·by_cases e2:m=i
   · rw [e1,e2]
   · subst e1
     have:=(hal b h1).1
     have:=(bound m hm hm' b h2 e2).2.1
     omega
  ·by_cases e2:m=i
   · subst e2
     have:=(hal b h2).1
     have:=(bound j hj hn b h1 e1).2.1
     omega
   · exact k.Qy j hj (old j hn e1) m hm (old m hm' e2) b (ne j hj hn b h1 e1) (ne m hm hm' b h2 e2)
theorem FD.effect(k:FD ρ lo hi ops ((i,c) :: l) (i :: s) a f){kk:List aK}(hk:a.todo = .drawn ops ((i,c) :: l) :: kk)(hv:VR ρ v v') :
  FD ρ lo hi ops l s { a with tmps:=cZ a.tmps (bG ops i) v,todo:=.drawn ops l :: kk } (f.finish v'):=by
 obtain ⟨k1,k2,t1,t2,hl⟩:=k.todo
 rw [hk] at t1
 cases t1
 rw [xh t2]
 obtain ⟨hns,hlin⟩:=Jj k.ZW
 obtain ⟨o1,o2,o3,o4,o5,o6⟩:=iZ k.ord
 have old:∀j∈s,j∉ix l→j≠i∧j∉ix ((i,c) :: l):=fun j h0 h1=>⟨fun e=>hns (e ▸ h0),fun h3=>(List.mem_cons.1 h3).elim (fun (e:j=i)=>hns (e ▸ h0)) h1⟩
 have ne:∀j∈s,j∉ix l→∀b,dZ ops (cZ a.tmps (bG ops i) v) j b→dZ ops a.tmps j b:=fun j hj hn b hal=>by
  cases hd:bG ops i with
  |none=>rw [hd] at hal;exact hal
  |some d=>
   rw [hd] at hal
   exact xk k.ok (k.lt j (List.mem_cons_of_mem _ hj)) o1 hd (k.done j (k.lt j (List.mem_cons_of_mem _ hj)) (old j hj hn).2 i (by simp [gK])) (old j hj hn).1 hal
 refine ⟨⟨k.base.fn,k.base.defers,k.base.mode,k.base.kind,k.base.round⟩,k.run,⟨kk,k2,rfl,rfl,hl⟩,k.ok,o6,hlin,k.ZW.down k.down,fun j hj=>k.lt j (List.mem_cons_of_mem _ hj),fun j hj=>?_,fun j hj hn m hm=>?_,fun j hj hn=>?_,?_,fun t ht=>?_,fun j hj hn b hal'=>?_,fun j hj hn m hm hm' b h1 h2=>?_⟩
 ·exact (List.mem_cons.1 (k.sub j (by rw [gK];exact List.mem_cons_of_mem _ hj))).resolve_left fun e=>o2 (e ▸ hj)
 ·by_cases e:j=i
  ·subst e;exact o3 m hm
  ·exact k.done j hj (fun h3=>(List.mem_cons.1 h3).elim e hn) m (by rw [gK];exact List.mem_cons_of_mem _ hm)
 ·exact k.eff j (List.mem_cons_of_mem _ hj) (old j hj hn).2
 ·cases bG ops i with
  |none=>exact k.size
  |some d=>simpa [cZ] using k.size
 ·have hold:(∀d,bG ops i=some d→d≠t)→eF (VR ρ) a.tmps[t]? f.tmps[t]? :=fun hdt=>k.tmps t fun j hj hn hdj=>by
   rcases List.mem_cons.1 hj with rfl|hj
   · exact hdt t hdj rfl
   · exact ht j hj (fun hm=>hn (by rw [gK];exact List.mem_cons_of_mem _ hm)) hdj
  cases hd:bG ops i with
  |none=>exact hold fun d h=>by rw [hd] at h;cases h
  |some d=>
   show eF (VR ρ) (a.tmps.setIfInBounds d v)[t]? (f.tmps.setIfInBounds d v')[t]?
   rw [Array.getElem?_setIfInBounds,Array.getElem?_setIfInBounds]
   by_cases e:d=t
   · subst e
     rw [if_pos rfl,if_pos rfl,←k.size]
     split
     ·exact .some hv
     ·exact .none
   · rw [if_neg e,if_neg e]
     exact hold fun d' h=>by rw [hd] at h;cases h;exact e
 ·exact k.bd j (List.mem_cons_of_mem _ hj) (old j hj hn).2 b (ne j hj hn b hal')
 ·exact k.Qy j (List.mem_cons_of_mem _ hj) (old j hj hn).2 m (List.mem_cons_of_mem _ hm) (old m hm hm').2 b (ne j hj hn b h1) (ne m hm hm' b h2)
theorem FD.eqs(hord:rP ops ((i,c) :: l)=true)(hk:aH ops i ≠ .dS)(k:FD ρ lo hi ops l s a f)(hr:recheck P ops c a.tmps h=true):UE P h ops l s a.tmps:=by
 intro j hj hn
 obtain ⟨o1,o2,o3,o4,o5,o6⟩:=iZ hord
 rcases o5 hk j (k.lt j hj) hn (k.eff j hj hn) with hm|⟨e,e1,e2,e3,e4⟩
 ·exact abE (List.all_eq_true.1 hr j hm)
 ·have hes:e∉s:=fun hm=>k.eff e hm e3 e2
  exact absurd hj (k.down.anc (jV k.ok) (Hg _ _ _ e4) e1 hes)
end
end Go.Am
namespace Go.Am
open Go.Ren (grow fM aO az)
section
variable{P:Program}{ρ σ:Env}{O O' D:Nat→Prop}{h h' h₁:AH}{w w' w₁:World}{X:Event→Prop}{α β γ δ:Type}
theorem Out.BV{R:Env→α→β→Prop}{Q:Env→γ→δ→Prop}{s':Sem β}{k':β→Sem δ}{a:α}{c:γ}(hs:Out P X D R ρ O h w s' a h₁)
  (hk:∀(σ:Env) (b:β) (w₁:World),ρ.Le σ→R σ a b→Rel σ (grow O w w₁) D h₁ w₁→Out P X D Q σ (grow O w w₁) h₁ w₁ (k' b) c h'):Out P X D Q ρ O h w (s'.bind k') c h' :=by
 obtain ⟨σ,b,w₁,es,h1,h2,h3,h4,h5,h6,h7⟩:=hs
 refine Out.then (h₁:=h₁) (s₁:=k' b) (es₁:=es) (fun ah=>?_) h2 h5 h6 h7 (hk σ b w₁ h2 h3 h4)
 rw [Sem.runT_bind',h1]
theorem Out.same{R:Env→α→β→Prop}{s' s₁:Sem β}{a:α}(hrun:∀w es,s'.runT P w es=s₁.runT P w es)(k:Out P X D R ρ O h w s₁ a h'):Out P X D R ρ O h w s' a h' :=by
 obtain ⟨σ,b,w₁,es,h1,h2⟩:=k
 exact ⟨σ,b,w₁,es,fun ah=>by rw [hrun,h1],h2⟩
theorem Out.Jk{R:Env→α→β→Prop}{a:α}{b:β}(r:Rel ρ O D h w)(hR:R ρ a b):Out P X D R ρ O h w (.pure b) a h:=
 ⟨ρ,b,w,#[],fun ah=>by simp only [Sem.runT,Array.append_empty],.refl ρ,hR,r.mono fun _=>.inl,.none w,Nat.le_refl _,fun x=>⟨.inl,fun h=>h.elim id fun x=>absurd x.1 (by omega)⟩⟩
def Pu(P:Program)(x:Sem α)(a:α):Prop:=∀w es,x.runT P w es=(.ok a w,es)
theorem Pu.pure(a:α):Pu P (Sem.pure a) a:=fun w es=>by simp only [Sem.runT]
theorem Pu.aN(a:α):Pu P (Pure.pure a:Sem α) a:=Pu.pure a
theorem Pu.run{x:Sem α}{a:α}(h:Pu P x a)(f:α→Sem β)(w:World)(es:Array Event):(x >>= f).runT P w es=(f a).runT P w es:=by
 show (x.bind f).runT P w es=_
 rw [Sem.runT_bind',h]
theorem Pu.bind{x:Sem α}{a:α}{f:α→Sem β}{b:β}(h:Pu P x a)(k:Pu P (f a) b):Pu P (x >>= f) b:=fun w es=>by rw [h.run,k]
theorem zC:Pu P program P:=fun w es=>rfl
theorem ou{t:TypeId}{i:TypeInfo}(h:P.info? t=some i):Pu P (typeInfo t) i:=by
 unfold typeInfo
 refine zC.bind ?_
 rw [h]
 exact .aN i
theorem oW{t:TypeId}{u:TypeDesc}(h:P.underlying t=some u):Pu P (underlying t) u:=by
 unfold underlying
 refine zC.bind ?_
 rw [h]
 exact .aN u
theorem OI{t:TypeId}{i:TypeInfo}(h:P.info? t=some i):Pu P (sizeOf t) i.size:=by
 unfold sizeOf
 exact (ou h).bind (.aN _)
theorem xx{t:TypeId}{i:TypeInfo}{z:Value}(h:P.info? t=some i)(hz:i.zero=some z):Pu P (zeroValue t) z:=by
 unfold zeroValue
 refine (ou h).bind ?_
 rw [hz]
 exact .aN z
def flat:Value→Bool
 | .agg _ | .tuple _=>false
 |_=>true
theorem abH{v v':Value}(h:VR ρ v v')(k:flat v=true):flat v' = true:=by cases h<;>first|rfl|cases k
theorem qE{T off:Nat}:∀(vs:List Value) (i:Nat) {w:World} {C:Array Value} {E:TypeId},w.heap[T]? = some (.cells C E (0,0))→off+i+vs.length≤C.size→(∀v∈vs,flat v=true) →
  ∃(w':World) (es:Array Event) (C':Array Value),(∀ah,(storeCells ⟨T,off,none⟩ vs i).runT P w ah=(.ok () w',ah ++ es))∧w'.heap[T]? = some (.cells C' E (0,0))∧C'.size=C.size ∧
   (∀j,C'[j]? = if off+i≤j∧j < off+i+vs.length then vs[j - (off+i)]? else C[j]?)∧(∀c,c≠T→w'.heap[c]? = w.heap[c]?)∧w'.heap.size=w.heap.size∧w'.os=w.os∧w'.output=w.output∧w'.tape=w.tape ∧
   ∀e∈es,∃o,e.loc = .cell ⟨T,o,none⟩
 | [],i,w,C,E,hT,hle,hf=>⟨w,#[],C,fun ah=>by simp [storeCells,pure,Sem.runT,-Sem.runT_eq],hT,rfl,fun j=>by rw [if_neg (fun hh=>by have h1:=hh.1;have h2:=hh.2;simp only [List.length_nil] at h2;omega)],fun _ _=>rfl,rfl,rfl,rfl,rfl,fun e he=>by simp at he⟩
 |v :: vs,i,w,C,E,hT,hle,hf=>by
  simp only [List.length_cons] at hle
  have hadd:(⟨T,off,none⟩:Addr).add i=⟨T,off+i,none⟩:=by
   unfold Addr.add
   split
   · rename_i h0;subst h0;rfl
   · rfl
  have hcell:w.cell? ⟨T,off+i,none⟩=some C[off+i]:=by
   unfold World.cell?
   dsimp only
   rw [hT]
   simp
  have hfro:w.frozen? ⟨T,off+i,none⟩=false:=by
   unfold World.frozen?
   dsimp only
   rw [hT]
   simp
  have hheap:(w.setCell ⟨T,off+i,none⟩ v).heap[T]? = some (.cells (C.setIfInBounds (off+i) v) E (0,0)):=by
   unfold World.setCell
   dsimp only
   rw [Array.getElem?_modify,if_pos rfl,hT]
   simp
  obtain ⟨w',es,C',h1,h2,h3,h4,h5,h6,h7,h8,h9,h10⟩:=qE (off:=off) vs (i+1) hheap (by simp;omega) (fun x hx=>hf x (by simp [hx]))
  have hfv:=hf v (by simp)
  refine ⟨w',#[⟨.cell ⟨T,off+i,none⟩,true,Mode.plain == Mode.atomic⟩] ++ es,C',fun ah=>?_,h2,by rw [h3];simp,fun j=>?_,fun c hc=>?_,by rw [h6];simp [World.setCell],h7,h8,h9,fun e he=>?_⟩
  ·have:storeCells ⟨T,off,none⟩ (v :: vs) i=(store ((⟨T,off,none⟩:Addr).add i) v).bind fun _=>storeCells ⟨T,off,none⟩ vs (i+1):=rfl
   rw [this,hadd,Sem.runT_bind']
   have hst:(store ⟨T,off+i,none⟩ v).runT P w ah=(.ok () (w.setCell ⟨T,off+i,none⟩ v),ah.push ⟨.cell ⟨T,off+i,none⟩,true,Mode.plain == Mode.atomic⟩):=by
     unfold store
     cases v<;>first|(cases hfv;done)|simp only [Sem.runT,hcell,hfro]<;>rfl
   rw [hst]
   dsimp only
   rw [h1,←Array.append_assoc]
   simp
  ·rw [h4,Array.getElem?_setIfInBounds]
   by_cases e1:j=off+i
   · subst e1
     rw [if_neg (by omega),if_pos rfl,if_pos (by omega),if_pos (by simp)]
     simp
   · by_cases e2:off+(i+1)≤j∧j < off+(i+1)+vs.length
     ·rw [if_pos e2,if_pos (by simp;omega)]
      have:j - (off+i)=(j - (off+(i+1)))+1:=by omega
      rw [this,List.getElem?_cons_succ]
     ·rw [if_neg e2,if_neg (by omega),if_neg (by simp;omega)]
  ·rw [h5 c hc]
   unfold World.setCell
   dsimp only
   rw [Array.getElem?_modify,if_neg (fun e=>hc e.symm)]
  ·rcases Array.mem_append.1 he with he|he
   · simp only [List.mem_toArray,List.mem_singleton] at he
     subst he
     exact ⟨_,rfl⟩
   · exact h10 e he
def AH.join(h:AH)(f:Nat)(l:List Nat)(o:Obj)(u:Nat):AH:={ n:=h.n+1,tr:=h.tr.set h.n ⟨o,some f,false,u⟩,dH:=h.dH.set f (l ++ [h.n]) }
theorem uG{f:Nat}{l:List Nat}{o:Obj}{u x:Nat}:(h.join f l o u).tr.get x=if x=h.n then some ⟨o,some f,false,u⟩ else h.tr.get x:=by simp only [AH.join,Tr.dN]
theorem mW{f g:Nat}{l:List Nat}{o:Obj}{u:Nat}:(h.join f l o u).dH.get g=if g=f then some (l ++ [h.n]) else h.dH.get g:=by simp only [AH.join,Tr.dN]
theorem Qz{f:Nat}{l:List Nat}{o:Obj}{u:Nat}:(h.join f l o u).look h.n=some ⟨o,some f,false,u⟩:=by
 unfold AH.look
 rw [uG,if_pos rfl]
 dsimp only
 rw [mW,if_pos rfl]
 simp
theorem Hu{f:Nat}{l:List Nat}{o:Obj}{u x:Nat}{B:bg}(hx:x≠h.n)(hl:∀y∈l,y∈(h.dH.get f).getD [])(k:(h.join f l o u).look x=some B):h.look x=some B∧(B.dQ=some f→x∈l):=by
 have ht:=fB k
 rw [uG,if_neg hx] at ht
 have hm:∀g,B.dQ=some g→g=f→x∈l:=fun g hg e=>by
  have:=oP k hg
  rw [mW,if_pos e] at this
  simp only [Option.getD_some,List.mem_append,List.mem_singleton] at this
  exact this.resolve_right hx
 refine ⟨?_,fun hf=>hm f hf rfl⟩
 unfold AH.look
 rw [ht]
 dsimp only
 cases hf:B.dQ with
 |none=>rfl
 |some g=>
  dsimp only
  by_cases e:g=f
  ·subst e
   rw [if_pos (by simpa using hl x (hm g hf rfl))]
  ·have:=oP k hf
   rw [mW,if_neg e] at this
   rw [if_pos (by simpa using this)]
theorem Rel.join(r:Rel ρ O D h w){f:Nat}{l:List Nat}{cs:Array Value}{e:TypeId}{u T off ext:Nat}
  (hsub:l.Sublist ((h.dH.get f).getD [])) (hO:∀b,O b→O' b) (hOT:O' T) (hsize:w.heap.size≤w'.heap.size) (hother:∀c,c≠T→c < w.heap.size→w'.heap[c]? = w.heap[c]?)
  (hT:∃C E,w'.heap[T]? = some (.cells C E (0,0))∧off+ext≤C.size∧cs.size≤ext∧∀(i:Nat) v,cs[i]? = some v→∃v',C[off+i]? = some v' ∧ VR ρ v v')
  (YB:∀x B,ρ.born x→h.look x=some B→(ρ.to x).1=T→B.dQ=some f∧∃c e' g,B.obj = .cells c e' g)
  (hend:∀x∈l,ρ.born x→(ρ.to x).1=T→∀n,h.upTo ρ x n→n≤off+cs.size)
  (hkeep:∀x B c e' g,ρ.born x→h.look x=some B→x∈l→(ρ.to x).1=T→B.obj = .cells c e' g→∃C E g',w'.heap[T]? = some (.cells C E g')∧(ρ.to x).2+ρ.ext x≤C.size∧c.size≤ρ.ext x∧(¬B.UA→g' = (0,0))∧∀(i:Nat) v,c[i]? = some v→∃v',C[(ρ.to x).2+i]? = some v' ∧ VR ρ v v') :
  Rel (ρ.add h.n (T,off) True u ext) O' D (h.join f l (.cells cs e (0,0)) u) w' :=by
 have hnb:¬ρ.born h.n:=fun hb=>Nat.lt_irrefl _ (r.fresh _ hb)
 have hle:ρ.Le (ρ.add h.n (T,off) True u ext):=Env.iC hnb
 have hin:∀y∈l,y∈(h.dH.get f).getD []:=fun y hy=>hsub.subset hy
 have hlT:∀y∈l,y < h.n∧∃B,h.tr.get y=some B∧B.dQ=some f:=fun y hy=>by
  have:=hin y hy
  cases hg:h.dH.get f with
  |none=>rw [hg] at this;simp at this
  |some l'=>rw [hg] at this;exact r.mem f l' hg y this
 have old:∀x,x≠h.n→(ρ.add h.n (T,off) True u ext).born x→ρ.born x:=fun x hx hb=>hb.resolve_left hx
 have lk:∀x B,x≠h.n→(h.join f l (.cells cs e (0,0)) u).look x=some B→h.look x=some B∧(B.dQ=some f→x∈l):=fun x B hx=>Hu hx hin
 have lkn:∀B,(h.join f l (.cells cs e (0,0)) u).look h.n=some B→B=⟨.cells cs e (0,0),some f,false,u⟩:=fun B hB=>by rw [Qz] at hB;cases hB;rfl
 have upTo:∀x n,x≠h.n→(h.join f l (.cells cs e (0,0)) u).upTo (ρ.add h.n (T,off) True u ext) x n→h.upTo ρ x n:=by
  rintro x n hx ⟨B,c,e',g,h1,h2,h3⟩
  rw [uG,if_neg hx] at h1
  rw [ai hx] at h3
  exact ⟨B,c,e',g,h1,h2,h3⟩
 refine ⟨fun x B c e' g hx hk iM=>?_,fun x B hx hk iM=>?_,fun x B hx hk=>?_,fun x y B B' hx hy hk hk' hne hs=>?_,fun x hx=>?_,fun x hx=>?_,fun x B hx hk=>?_,fun g l' hf=>?_,fun g l' hf x hm=>?_⟩
 ·by_cases ex:x=h.n
  ·subst ex
   have:=lkn B hk
   subst this
   cases iM
   rw [bU,qL]
   obtain ⟨C,E,h1,h2,h3,h4⟩:=hT
   exact ⟨C,E,(0,0),h1,h2,h3,fun _=>rfl,fun i v hv=>by obtain ⟨v',k1,k2⟩:=h4 i v hv;exact ⟨v',k1,k2.mono hle⟩⟩
  ·obtain ⟨k1,k2⟩:=lk x B ex hk
   have hb:=old x ex hx
   rw [ai ex,nG ex]
   have fin:(∃C E g',w'.heap[(ρ.to x).1]? = some (.cells C E g')∧(ρ.to x).2+ρ.ext x≤C.size∧c.size≤ρ.ext x∧(¬B.UA→g' = (0,0))∧∀(i:Nat) v,c[i]? = some v→∃v',C[(ρ.to x).2+i]? = some v' ∧ VR ρ v v'):=by
     by_cases et:(ρ.to x).1=T
     ·rw [et]
      exact hkeep x B c e' g hb k1 (k2 (YB x B hb k1 et).1) et iM
     ·rw [hother _ et (r.low x hb)]
      exact r.cells x B c e' g hb k1 iM
   obtain ⟨C,E,g',f1,f2,f3,f4,f5⟩:=fin
   exact ⟨C,E,g',f1,f2,f3,f4,fun i v hv=>by obtain ⟨v',k1,k2⟩:=f5 i v hv;exact ⟨v',k1,k2.mono hle⟩⟩
 ·by_cases ex:x=h.n
  ·subst ex
   have:=lkn B hk
   subst this
   exact absurd rfl (iM _ _ _)
  ·obtain ⟨k1,k2⟩:=lk x B ex hk
   have hb:=old x ex hx
   rw [ai ex]
   have et:(ρ.to x).1≠T:=fun et=>by
     obtain ⟨_,c,e',g,hc⟩:=YB x B hb k1 et
     exact iM _ _ _ hc
   rw [hother _ et (r.low x hb)]
   obtain ⟨o1,o',o2,o3⟩:=r.obj x B hb k1 iM
   exact ⟨o1,o',o2,o3.mono hle⟩
 ·by_cases ex:x=h.n
  ·subst ex
   rw [bU]
   exact ⟨fun _=>hOT,.inl hOT⟩
  ·obtain ⟨k1,k2⟩:=lk x B ex hk
   rw [ai ex]
   have:=r.own x B (old x ex hx) k1
   exact ⟨fun z=>hO _ (this.1 z),this.2.imp (hO _) id⟩
 ·by_cases ex:x=h.n
  ·subst ex
   have:=lkn B hk
   subst this
   have ey:y≠h.n:=fun e=>hne e.symm
   obtain ⟨k1,k2⟩:=lk y B' ey hk'
   rw [bU,ai ey] at hs
   exact .inl ⟨f,rfl,(YB y B' (old y ey hy) k1 hs.symm).1⟩
  ·obtain ⟨k1,k2⟩:=lk x B ex hk
   by_cases ey:y=h.n
   · subst ey
     have:=lkn B' hk'
     subst this
     rw [bU,ai ex] at hs
     exact .inl ⟨f,(YB x B (old x ex hx) k1 hs).1,rfl⟩
   · obtain ⟨j1,j2⟩:=lk y B' ey hk'
     rw [ai ex,ai ey] at hs
     exact r.sep x y B B' (old x ex hx) (old y ey hy) k1 j1 hne hs
 ·rcases hx with rfl|hx
  ·exact Nat.lt_succ_self _
  ·exact Nat.lt_succ_of_lt (r.fresh x hx)
 ·by_cases ex:x=h.n
  ·subst ex
   rw [bU]
   obtain ⟨C,E,h1,_⟩:=hT
   exact (Array.getElem?_eq_some_iff.1 h1).1
  ·rw [ai ex]
   exact Nat.lt_of_lt_of_le (r.low x (old x ex hx)) hsize
 ·by_cases ex:x=h.n
  ·subst ex
   have:=lkn B hk
   subst this
   exact ⟨jX.trans ⟨fun _=>by simp,fun _=>trivial⟩,fun _=>Ii⟩
  ·obtain ⟨k1,k2⟩:=lk x B ex hk
   have:=r.bD x B (old x ex hx) k1
   exact ⟨(jO ex).trans this.1,fun z=>(tu ex).trans (this.2 z)⟩
 ·rw [mW] at hf
  have pairs:∀(l':List Nat),(∀y∈l',y≠h.n)→(l'.Pairwise fun b b'=>ρ.born b→ρ.born b' → (ρ.to b).1=(ρ.to b').1→∀n n',h.upTo ρ b n→h.upTo ρ b' n' → n≤n') →
     l'.Pairwise fun b b'=>(ρ.add h.n (T,off) True u ext).born b→(ρ.add h.n (T,off) True u ext).born b' → ((ρ.add h.n (T,off) True u ext).to b).1=((ρ.add h.n (T,off) True u ext).to b').1→∀n n',(h.join f l (.cells cs e (0,0)) u).upTo (ρ.add h.n (T,off) True u ext) b n→(h.join f l (.cells cs e (0,0)) u).upTo (ρ.add h.n (T,off) True u ext) b' n' → n≤n' :=by
   intro l' hne hp
   refine List.Pairwise.imp_of_mem (fun {x y} hx hy hp b1 b2 hs n n' u1 u2=>?_) hp
   have ex:=hne x hx
   have ey:=hne y hy
   rw [ai ex,ai ey] at hs
   exact hp (old x ex b1) (old y ey b2) hs n n' (upTo x n ex u1) (upTo y n' ey u2)
  by_cases eg:g=f
  ·subst eg
   rw [if_pos rfl] at hf
   cases hf
   have hne:∀y∈l,y≠h.n:=fun y hy e=>by have:=(hlT y hy).1;omega
   refine List.pairwise_append.2 ⟨pairs l hne ?_,List.pairwise_singleton _ _,fun x hx y hy=>?_⟩
   · cases hg:h.dH.get g with
     |none=>rw [hg] at hsub;simp at hsub;subst hsub;exact List.Pairwise.nil
     |some l'=>rw [hg] at hsub;exact (r.row g l' hg).sublist hsub
   · simp only [List.mem_singleton] at hy
     subst hy
     intro b1 b2 hs n n' u1 u2
     have ex:=hne x hx
     rw [bU,ai ex] at hs
     have:=hend x hx (old x ex b1) hs n (upTo x n ex u1)
     obtain ⟨B,c,e',g',k1,k2,k3⟩:=u2
     rw [uG,if_pos rfl] at k1
     cases k1
     cases k2
     rw [bU] at k3
     dsimp only at k3
     omega
  ·rw [if_neg eg] at hf
   exact pairs l' (fun y hy e=>by have:=(r.mem g l' hf y hy).1;omega) (r.row g l' hf)
 ·rw [mW] at hf
  rw [uG]
  by_cases eg:g=f
  ·subst eg
   rw [if_pos rfl] at hf
   cases hf
   simp only [List.mem_append,List.mem_singleton] at hm
   rcases hm with hm|rfl
   · obtain ⟨m1,B,m2,m3⟩:=hlT x hm
     exact ⟨Nat.lt_succ_of_lt m1,B,by rw [if_neg (by omega)];exact m2,m3⟩
   · exact ⟨Nat.lt_succ_self _,_,if_pos rfl,rfl⟩
  ·rw [if_neg eg] at hf
   obtain ⟨m1,B,m2,m3⟩:=r.mem g l' hf x hm
   exact ⟨Nat.lt_succ_of_lt m1,B,by rw [if_neg (by omega)];exact m2,m3⟩
end
end Go.Am
