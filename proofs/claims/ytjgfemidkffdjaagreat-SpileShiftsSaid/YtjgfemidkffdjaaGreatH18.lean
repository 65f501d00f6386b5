import Derived.Conc.AtomicLaws2
import Derived.Conc.ClockLaws
import Derived.Conc.MarkLaws
import Derived.Conc.SmallLaws
import Derived.Conc.Listed
import Derived.Test.YtjgfemidkffdjaaGreatH8
import Derived.Test.YtjgfemidkffdjaaGreatH17
set_option linter.all false
namespace Go.Sy
open Go.Ren
open Go.Conc hiding Goes
def opAt(b:Nat)(s:S):Option Oper:=match s.todo with
 | .inRegion a (i::_)::_=>match a[i]? with
   |some o=>if tu a s.env o=some true then(if GI b o then some o else none)else none
   |none=>none
 | _=>none
def aX(a:Nat)(s:S):Option (FuncId×List (Option E)):=match opAt a s with
 | some o=>match o.op with
   | .call c=>match c.callee with
    | .value (.func f)=>some (f,c.args.toList.map (Ba s.env))
    |_=>none
   |_=>none
 | none=>none
def loadAt(a:Nat)(s:S):Option (TypeId×Option E):=match opAt a s with
 | some o=>match o.op with
   | .load t x=>some (t,Ba s.env x)
   |_=>none
 | none=>none
def next(s:S)(x:Option E):S:=match s.todo with
 | .inRegion a (i::rest)::k=>⟨put s.env ((a[i]?).bind (·.dst)) x,.inRegion a rest::k,s.log⟩
 | _=>s
section
variable{P:Program}{a:Nat->Value}{A:Array Value}{l:Nat}{m:Bool}{b:Frame}{ds:List Deferred}{cs:List Frame}{s:S}{o:Oper}
theorem uI(f:opAt l s=some o)(n:A.size=l)(h:Agree a s.env A):∃(c:Array Oper) (i:Nat) (rest:List Nat) (k:List Item),s.todo=.inRegion c (i::rest)::k/\c[i]?=some o/\Region.wanted o (yielded c A)=true/\(∀x,(next s x).todo=.inRegion c rest::k)/\
   (∀(x:Option E) (y:Value),(∀z,x=some z->y=z.den a)->(Act.put ⟨A,ds⟩ o.dst y).tmps.size=l/\(Act.put ⟨A,ds⟩ o.dst y)=⟨(Act.put ⟨A,ds⟩ o.dst y).tmps,ds⟩/\Agree a (next s x).env (Act.put ⟨A,ds⟩ o.dst y).tmps):=by
 obtain⟨e,p,log⟩:=s
 unfold opAt at f;dsimp only at f h⊢;split at f
 · rename_i c i rest k;split at f
   ·rename_i t g;split at f
    ·rename_i q;split at f
     ·rename_i hd;cases f;refine⟨c,i,rest,k,rfl,g,yL h q,fun x=>rfl,fun x y r=>⟨?_,?_,?_⟩⟩
      ·unfold Act.put;split<;>simp[n]
      ·unfold Act.put;split<;>rfl
      ·unfold next;dsimp only
       rw[g,Option.bind_some];have:=h.put (d:=o.dst) r (XZ (by rw[hd];simp) n)
       unfold Act.put at this⊢;cases j:o.dst<;>rw[j]at this<;>exact this
     ·cases f
    ·cases f
   ·cases f
 · cases f
theorem qi{f:FuncId}{xs:List (Option E)}(h:aX l s=some (f,xs)):∃(o:Oper) (args:Array Operand) (d:Array TypeId),opAt l s=some o/\o.op=.call {callee:=.value (.func f),args:=args,argTypes:=d}/\args.toList.map (Ba s.env)=xs:=by
 unfold aX at h;split at h
 · rename_i o g;split at h
   ·rename_i c i;split at h
    ·rename_i j e;cases h;obtain⟨k,as,d⟩:=c
     dsimp only at e;subst e;exact⟨o,as,d,g,i,rfl⟩
    ·cases h
   ·cases h
 · cases h
theorem UO{t:TypeId}{x:Option E}(h:loadAt l s=some (t,x)):∃(o:Oper) (y:Operand),opAt l s=some o/\o.op=.load t y/\Ba s.env y=x:=by
 unfold loadAt at h;split at h
 · rename_i o c;split at h
   ·rename_i e y d;cases h;exact⟨o,y,c,d,rfl⟩
   ·cases h
 · cases h
def Behind(a:Nat->Value)(l:Nat)(b:Frame)(ds:List Deferred)(cs:List Frame)(s:S)(g:Goroutine):Prop:=∃A:Array Value,A.size=l/\Agree a s.env A/\g=G (b.at ⟨A,ds⟩ s.todo) cs
variable{fn:Func}{f:FuncId}{w:World}
theorem BB{p q r:E}(D:aX l s=some (f,[some p,some q,some r]))(e:A.size=l)(h:Agree a s.env A)(F:b.kind≠.early)(H:P.funcs[f]?=some fn)(c:(fn.name== "runtime.NumGoroutine")=false)(J:fn.body.isNone=true)(L:Extern.findNext fn=none)
   (M:Extern.find fn=some (Extern.Atomic.casT (.int .i32))) {ad:Addr} {v n:Int} (N:p.den a=.pointer (some ad)) (O:q.den a=.int .i32 v) (Q:r.den a=.int .i32 n):
   ∃B,Behind a l b ds cs (next s (some (.b true))) B/\∀w:World,w.cell? ad=some (.int .i32 v)->w.frozen? ad=false->stepG P m (G (b.at ⟨A,ds⟩ s.todo) cs) w=.go B (w.setCell ad (.int .i32 n)) #[⟨.cell ad,false,true⟩,⟨.cell ad,true,true⟩]:=by
 obtain⟨o,args,R,T,g,C⟩:=qi D
 obtain⟨j,i,rest,k,U,V,W,X,Y⟩:=uI (ds:=ds) T e h
 obtain⟨Z,k2,k3⟩:=Y (some (.b true)) (.bool true) (fun z e=>by cases e;rfl)
 obtain⟨args⟩:=args
 rcases args with _|⟨x,_|⟨y,_|⟨z,_|⟨u,args⟩⟩⟩⟩<;>simp only[List.map_cons,List.map_nil,List.cons.injEq,and_true,reduceCtorEq,and_false]at C
 obtain⟨a1,a2,a3⟩:=C
 refine⟨G (b.at (Act.put ⟨A,ds⟩ o.dst (.bool true)) (.inRegion j rest::k)) cs,⟨_,Z,k3,by rw[X,←k2]⟩,fun w d t=>?_⟩;rw[U];exact stepG_cas_hit V W F g H c J L .i32 M ((fE h a1).trans N) ((fE h a2).trans O) ((fE h a3).trans Q) d t
theorem xC{p q r:E}(F:aX l s=some (f,[some p,some q,some r]))(e:A.size=l)(h:Agree a s.env A)(H:b.kind≠.early)(J:P.funcs[f]?=some fn)(c:(fn.name== "runtime.NumGoroutine")=false)(L:fn.body.isNone=true)(M:Extern.findNext fn=none)
   (N:Extern.find fn=some (Extern.Atomic.casT (.int .i32))) {ad:Addr} {v n:Int} (O:p.den a=.pointer (some ad)) (Q:q.den a=.int .i32 v) (R:r.den a=.int .i32 n):
   ∃C,Behind a l b ds cs (next s (some (.b false))) C/\∀(w:World) (u:Int),w.cell? ad=some (.int .i32 u)->w.frozen? ad=false->¬u=v->stepG P m (G (b.at ⟨A,ds⟩ s.todo) cs) w=.go C w #[⟨.cell ad,false,true⟩]:=by
 obtain⟨o,args,T,U,g,D⟩:=qi F
 obtain⟨j,i,rest,k,V,W,X,Y,Z⟩:=uI (ds:=ds) U e h
 obtain⟨k1,k2,k3⟩:=Z (some (.b false)) (.bool false) (fun z e=>by cases e;rfl)
 obtain⟨args⟩:=args
 rcases args with _|⟨x,_|⟨y,_|⟨z,_|⟨u,args⟩⟩⟩⟩<;>simp only[List.map_cons,List.map_nil,List.cons.injEq,and_true,reduceCtorEq,and_false]at D
 obtain⟨a1,a2,a3⟩:=D
 refine⟨G (b.at (Act.put ⟨A,ds⟩ o.dst (.bool false)) (.inRegion j rest::k)) cs,⟨_,k1,k3,by rw[Y,←k2]⟩,fun w u d t B=>?_⟩;rw[V];exact stepG_cas_miss W X H g J c L M .i32 N ((fE h a1).trans O) ((fE h a2).trans Q) ((fE h a3).trans R) d t B
theorem X5{p q:E}(B:aX l s=some (f,[some p,some q]))(C:A.size=l)(h:Agree a s.env A)(D:b.kind≠.early)(F:P.funcs[f]?=some fn)(c:(fn.name== "runtime.NumGoroutine")=false)(H:fn.body.isNone=true)(J:Extern.findNext fn=none)
   (L:Extern.find fn=some (Extern.Atomic.update (Op.intArith .add) .i32 true)) {ad:Addr} {v d:Int} {z:Option E} (M:p.den a=.pointer (some ad)) (N:q.den a=.int .i32 d) (O:∀y,z=some y->Value.int .i32 (IntKind.i32.wrap (v+d))=y.den a):
   ∃r,Behind a l b ds cs (next s z) r/\∀w:World,w.cell? ad=some (.int .i32 v)->w.frozen? ad=false->stepG P m (G (b.at ⟨A,ds⟩ s.todo) cs) w=.go r (w.setCell ad (.int .i32 (IntKind.i32.wrap (v+d)))) #[⟨.cell ad,false,true⟩,⟨.cell ad,true,true⟩]:=by
 obtain⟨o,args,Q,R,g,t⟩:=qi B
 obtain⟨j,i,rest,k,T,U,V,W,X⟩:=uI (ds:=ds) R C h
 obtain⟨Y,Z,k3⟩:=X z (.int .i32 (IntKind.i32.wrap (v+d))) O
 obtain⟨args⟩:=args
 rcases args with _|⟨x,_|⟨y,_|⟨u,args⟩⟩⟩<;>simp only[List.map_cons,List.map_nil,List.cons.injEq,and_true,reduceCtorEq,and_false]at t
 obtain⟨a1,a2⟩:=t
 refine⟨G (b.at (Act.put ⟨A,ds⟩ o.dst (.int .i32 (IntKind.i32.wrap (v+d)))) (.inRegion j rest::k)) cs,⟨_,Y,k3,by rw[W,←Z]⟩,fun w e n=>?_⟩;rw[T];exact stepG_add_atomic U V D g F c H J .i32 L ((fE h a1).trans M) ((fE h a2).trans N) e n
theorem iM{xs:List (Option E)}(r:aX l s=some (f,xs))(t:A.size=l)(h:Agree a s.env A)(b:Frame)(ds:List Deferred)(cs:List Frame):∃(c:Array Oper) (i:Nat) (rest:List Nat) (k:List Item) (o:Oper) (args:Array Operand) (d:Array TypeId),
   s.todo=.inRegion c (i::rest)::k/\c[i]?=some o/\Region.wanted o (yielded c A)=true/\o.op=.call {callee:=.value (.func f),args:=args,argTypes:=d}/\(∀(n:Nat) (x:E),xs[n]?=some (some x)->(args.map (Act.eval ⟨A,ds⟩))[n]?=some (x.den a))/\args.size=xs.length/\
   (∀(z:Option E) (y:Value),(∀u,z=some u->y=u.den a)->Behind a l b ds cs (next s z) (G (b.at (Act.put ⟨A,ds⟩ o.dst y) (.inRegion c rest::k)) cs)):=by
 obtain⟨o,args,d,v,j,p⟩:=qi r
 obtain⟨c,i,rest,k,B,C,D,F,H⟩:=uI (ds:=ds) v t h
 refine⟨c,i,rest,k,o,args,d,B,C,D,j,fun n x g=>?_,by rw[←p];simp,fun z y J=>?_⟩
 · rw[←p,List.getElem?_map]at g;rw[Array.getElem?_map];cases q:args[n]? with
   |none=>
    have e:args.toList[n]?=none:=by rw[←q];simp
    rw[e]at g;cases g
   |some y=>
    have e:args.toList[n]?=some y:=by rw[←q];simp
    rw[e]at g;simp only[Option.map_some,Option.some.injEq]at g⊢;exact fE h g
 · obtain⟨L,M,N⟩:=H z y J
   exact⟨_,L,N,by rw[F,←M]⟩
theorem xE(mk:Mark)(n:∀g,mk≠.extern g){z:Option E}(d:z=none){xs:List (Option E)}(p:aX l s=some (f,xs))(q:A.size=l)(h:Agree a s.env A)(r:b.kind≠.early)(t:P.funcs[f]?=some fn)(c:(fn.name== "runtime.NumGoroutine")=false)(v:fn.body.isNone=true)(x:Extern.findNext fn=none)
   (y:Extern.find fn=some (fun _=>do mark mk;pure Extern.Race.none_)):∃e,Behind a l b ds cs (next s z) e/\∀w,stepG P m (G (b.at ⟨A,ds⟩ s.todo) cs) w=.go e w #[⟨.mark mk,false,true⟩]:=by
 obtain⟨B,i,rest,k,o,args,C,D,F,H,J,M,N,L⟩:=iM p q h b ds cs
 refine⟨_,L z (.tuple #[]) (fun u j=>by rw[d]at j;cases j),fun w=>?_⟩;rw[D];exact stepG_mark0 mk n F H r J t c v x y
theorem GK(mk:Addr->Mark)(n:∀ad g,mk ad≠.extern g){z:Option E}(d:z=none){q:E}{xs:List (Option E)}(p:aX l s=some (f,some q::xs))(r:A.size=l)(h:Agree a s.env A)(t:b.kind≠.early)(v:P.funcs[f]?=some fn)(c:(fn.name== "runtime.NumGoroutine")=false)(x:fn.body.isNone=true)(y:Extern.findNext fn=none)
   (B:Extern.find fn=some (Extern.Race.marked mk)) {ad:Addr} (C:q.den a=.pointer (some ad)):∃e,Behind a l b ds cs (next s z) e/\∀w,stepG P m (G (b.at ⟨A,ds⟩ s.todo) cs) w=.go e w #[⟨.mark (mk ad),false,true⟩]:=by
 obtain⟨D,i,rest,k,o,args,F,H,J,L,M,N,Q,O⟩:=iM p r h b ds cs
 refine⟨_,O z (.tuple #[]) (fun u j=>by rw[d]at j;cases j),fun w=>?_⟩;rw[H];exact stepG_markAt mk n J L t M v c x y B ((N 0 q rfl).trans (by rw[C]))
theorem UQ{z:Option E}(e:z=none){q:E}{xs:List (Option E)}(L:aX l s=some (f,some q::xs))(M:A.size=l)(h:Agree a s.env A)(N:b.kind≠.early)(p:P.funcs[f]?=some fn)(d:(fn.name== "runtime.NumGoroutine")=false)(r:fn.body.isNone=true)(t:Extern.findNext fn=none)
   (v:Extern.find fn=some Extern.Sync.semacquire) {ad:Addr} (x:q.den a=.pointer (some ad)):∃y,Behind a l b ds cs (next s z) y/\(∀(w:World) (n:Int),w.cell? ad=some (.int .u32 n)->n≠0->w.frozen? ad=false->stepG P m (G (b.at ⟨A,ds⟩ s.todo) cs) w=.go y (w.setCell ad (.int .u32 (n-1))) (semEvents ad))/\
    ∀w:World,w.cell? ad=some (.int .u32 0)->stepG P m (G (b.at ⟨A,ds⟩ s.todo) cs) w=.go {G (b.at ⟨A,ds⟩ s.todo) cs with status:=.blocked} w #[]:=by
 obtain⟨O,i,rest,k,o,args,Q,B,C,D,F,H,T,R⟩:=iM L M h b ds cs
 refine⟨_,R z (.tuple #[]) (fun u J=>by rw[e]at J;cases J),fun w n c g j=>?_,fun w c=>?_⟩
 · rw[B];exact stepG_semacquire C D N F p d r t v ((H 0 q rfl).trans (by rw[x])) c g j
 · rw[B];exact stepG_semacquire_wait C D F p d r t v ((H 0 q rfl).trans (by rw[x])) c
theorem GL{z:Option E}(e:z=none){q:E}{xs:List (Option E)}(r:aX l s=some (f,some q::xs))(t:A.size=l)(h:Agree a s.env A)(v:b.kind≠.early)(x:P.funcs[f]?=some fn)(c:(fn.name== "runtime.NumGoroutine")=false)(y:fn.body.isNone=true)(B:Extern.findNext fn=none)
   (C:Extern.find fn=some Extern.Sync.semrelease) {ad:Addr} (D:q.den a=.pointer (some ad)):∃j,Behind a l b ds cs (next s z) j/\(∀(w:World) (n:Int),w.cell? ad=some (.int .u32 n)->w.frozen? ad=false->stepG P m (G (b.at ⟨A,ds⟩ s.todo) cs) w=.go j (w.setCell ad (.int .u32 (IntKind.u32.wrap (n+1)))) (semEvents ad)):=by
 obtain⟨F,i,rest,k,o,args,H,J,L,M,N,O,R,Q⟩:=iM r t h b ds cs
 refine⟨_,Q z (.tuple #[]) (fun u p=>by rw[e]at p;cases p),fun w n d g=>?_⟩;rw[J];exact stepG_semrelease L M v N x c y B C ((O 0 q rfl).trans (by rw[D])) d g
theorem Dk{q:E}(H:aX l s=some (f,[some q]))(J:A.size=l)(h:Agree a s.env A)(r:b.kind≠.early)(t:P.funcs[f]?=some fn)(d:(fn.name== "runtime.NumGoroutine")=false)(v:fn.body.isNone=true)(x:Extern.findNext fn=none)
   (y:Extern.find fn=some Extern.Sync.canSpin) {k:IntKind} {n:Int} (L:q.den a=.int k n) (c:Bool):∃g,Behind a l b ds cs (next s (some (.b c))) g/\∀w:World,(n<4->w.spins=c->stepG P m (G (b.at ⟨A,ds⟩ s.todo) cs) w=.go g w.asked #[])/\(4<=n->c=false->stepG P m (G (b.at ⟨A,ds⟩ s.todo) cs) w=.go g w #[]):=by
 obtain⟨M,i,rest,U,o,args,N,z,B,C,D,O,Q,R⟩:=iM H J h b ds cs
 have F:args.map (Act.eval ⟨A,ds⟩)=#[.int k n]:=by
   apply Array.ext_getElem?;intro j;rcases j with _|j
   ·rw[O 0 q rfl,L];rfl
   ·rw[Array.getElem?_eq_none (by simp[Q]),Array.getElem?_eq_none (by simp)]
 refine⟨_,R (some (.b c)) (.bool c) (fun u T=>by cases T;rfl),fun w=>⟨fun e p=>?_,fun e p=>?_⟩⟩
 · rw[z,stepG_canSpin_ask B C r D t d v x y F e,p]
 · rw[z,stepG_canSpin_no B C r D t d v x y F e,p]
theorem SB{z:Option E}{xs:List (Option E)}(e:aX l s=some (f,xs))(g:A.size=l)(h:Agree a s.env A)(j:b.kind≠.early)(n:P.funcs[f]?=some fn)(c:(fn.name== "runtime.NumGoroutine")=false)(p:fn.body.isNone=true)(q:Extern.findNext fn=none)
   (r:Extern.find fn=some Extern.OsHooks.nano) (t:fn.norace=true) (tv:Int) (v:∀u,z=some u->Value.int .i64 tv=u.den a):∃d,Behind a l b ds cs (next s z) d/\∀w:World,((w.os.mono+w.tick:Nat):Int)=tv->stepG P m (G (b.at ⟨A,ds⟩ s.todo) cs) w=.go d w.later #[]:=by
 obtain⟨x,i,rest,k,o,args,y,B,C,D,F,L,M,H⟩:=iM e g h b ds cs
 refine⟨_,H z (.int .i64 tv) v,fun w J=>?_⟩;rw[B,stepG_nanotime C D j F n c p q r t,J]
theorem abv(v:Value){z:Option E}(e:∀u,z=some u->v=u.den a){xs:List (Option E)}(g:aX l s=some (f,xs))(j:A.size=l)(h:Agree a s.env A)(n:b.kind≠.early)(p:P.funcs[f]?=some fn)(c:(fn.name== "runtime.NumGoroutine")=false)(q:fn.body.isNone=true)(r:Extern.findNext fn=none)
   (t:Extern.find fn=some (fun _=>pure v)):∃d,Behind a l b ds cs (next s z) d/\∀w,stepG P m (G (b.at ⟨A,ds⟩ s.todo) cs) w=.go d w #[]:=by
 obtain⟨x,i,rest,k,o,args,y,B,C,D,F,J,L,H⟩:=iM g j h b ds cs
 refine⟨_,H z v e,fun w=>?_⟩;rw[B];exact stepG_entry_pure v C D n F p c q r t
theorem BC{q:E}{j:TypeId}(t:∀w,Sem.run P (underlying j) w=.ok (.int .i32) w)(d:∀w,Sem.run P (Go.sizeOf j) w=.ok 1 w)(e:∀w,Sem.run P (isAgg j) w=.ok false w){z:Option E}(x:loadAt l s=some (j,some q))(B:A.size=l)(h:Agree a s.env A)(C:b.kind≠.early)(D:(P.funcs[b.fn]?).any (·.norace)=true)
   {ad:Addr} (F:q.den a=.pointer (some ad)) {v:Int} (H:∀u,z=some u->Value.int .i32 v=u.den a):
   ∃p,Behind a l b ds cs (next s z) p/\∀w:World,w.cell? ad=some (.int .i32 v)->stepG P m (G (b.at ⟨A,ds⟩ s.todo) cs) w=.go p w #[]:=by
 obtain⟨o,y,J,g,L⟩:=UO x
 obtain⟨n,i,rest,k,M,N,O,Q,R⟩:=uI (ds:=ds) J B h
 obtain⟨T,U,V⟩:=R z (.int .i32 v) H
 have r:=(fE (ds:=ds) h L).trans F;refine⟨G (b.at (Act.put ⟨A,ds⟩ o.dst (.int .i32 v)) (.inRegion n rest::k)) cs,⟨_,T,V,by rw[Q,←U]⟩,fun w c=>?_⟩;rw[M];have W:(execOp (Act.eval ⟨A,ds⟩) o).run P w=.ok (.value (.int .i32 v)) w:=by
   unfold execOp;simp only[g,r]
   simp[go_sem,c,d,e]
 have X:(execOp (Act.eval ⟨A,ds⟩) o).events P w #[]=#[⟨.cell ad,false,false⟩]:=by
   unfold execOp;simp only[g,r]
   simp[go_sem,c,d,e]
 rw[stepG_value N O C W];unfold listed;rw[X,seen_def,D];simp[seenStep]
end
end Go.Sy
namespace Go.Mx
open Go.Ren Go.Sy
def bn(b:Bool)(k:Int):Int:=if b then k else 0
def tab(l w s n0 c z a:Bool):Tab:=
 [(.nil (.v 0),.v 0),(.fld (.v 0) 0,.v 1),(.fld (.v 0) 1,.v 2),
  (.bin .and (.v 4) (.i .i32 5),.i .i32 (bn l 1+bn s 4)),(.bin .and (.v 4) (.i .i32 1),.i .i32 (bn l 1)),(.bin .and (.v 4) (.i .i32 4),.i .i32 (bn s 4)),(.bin .and (.v 4) (.i .i32 2),.i .i32 (bn w 2)),
  (.bin .and (.v 4) (.i .i32 3),.i .i32 (bn l 1+bn w 2)),(.bin .shr (.v 4) (.i .u64 3),.v 8),
  (.bin .eql (.i .i32 0) (.i .i32 0),.b true),(.bin .eql (.i .i32 1) (.i .i32 0),.b false),(.bin .eql (.i .i32 2) (.i .i32 0),.b false),(.bin .eql (.i .i32 3) (.i .i32 0),.b false),(.bin .eql (.i .i32 4) (.i .i32 0),.b false),(.bin .eql (.i .i32 5) (.i .i32 0),.b false),
  (.bin .eql (.i .i32 0) (.i .i32 1),.b false),(.bin .eql (.i .i32 1) (.i .i32 1),.b true),(.bin .eql (.i .i32 4) (.i .i32 1),.b false),(.bin .eql (.i .i32 5) (.i .i32 1),.b false),
  (.bin .neq (.i .i32 0) (.i .i32 0),.b false),(.bin .neq (.i .i32 1) (.i .i32 0),.b true),(.bin .neq (.i .i32 2) (.i .i32 0),.b true),(.bin .neq (.i .i32 3) (.i .i32 0),.b true),(.bin .neq (.i .i32 4) (.i .i32 0),.b true),(.bin .neq (.i .i32 5) (.i .i32 0),.b true),
  (.bin .neq (.v 8) (.i .i32 0),.b !n0),(.bin .eql (.v 8) (.i .i32 0),.b n0),(.bin .eql (.v 8) (.i .i32 1),.b c),
  (.bin .or (.v 4) (.i .i32 1),.v 10),(.bin .add (.v 4) (.i .i32 8),.v 11),(.bin .add (.v 10) (.i .i32 8),.v 18),(.bin .or (.v 18) (.i .i32 4),.v 12),(.bin .or (.v 4) (.i .i32 2),.v 14),
  (.bin .and (.v 10) (.i .i32 2),.i .i32 (bn w 2)),(.bin .and (.v 18) (.i .i32 2),.i .i32 (bn w 2)),(.bin .and (.v 12) (.i .i32 2),.i .i32 (bn w 2)),
  (.bin .andNot (.v 10) (.i .i32 2),.v 15),(.bin .andNot (.v 18) (.i .i32 2),.v 16),(.bin .andNot (.v 12) (.i .i32 2),.v 17),
  (.bin .add (.v 5) (.i .i64 1),.v 6),(.bin .neq (.v 3) (.i .i64 0),.b !z),(.bin .eql (.v 3) (.i .i64 0),.b z),
  (.bin .sub (.i .i32 (-7)) (.i .i32 4),.i .i32 (-11)),(.bin .sub (.v 20) (.v 3),.v 21),(.bin .gtr (.v 21) (.i .i64 1000000),.b a)]
def vO(a c:Bool):Env:=[(0,some (.v 0)),(2,some (.v 3)),(3,some (.b c)),(4,some (.b a)),(5,some (.v 5)),(6,some (.v 4))]
def head(L:ag)(a b:Bool):S:=⟨vO a b,[.code (XX L),.inLoop (XX L),.inBlock 0,.code (XY L)],[]⟩
end Go.Mx
namespace Go.Mx
open Go.Ren Go.Sy
open Go.Conc hiding Goes
def band(a b:Int):Int:=IntKind.i32.wrap ((BitVec.ofInt 32 a&&&BitVec.ofInt 32 b).toNat:Int)
def uJ(a b:Int):Int:=IntKind.i32.wrap ((BitVec.ofInt 32 a|||BitVec.ofInt 32 b).toNat:Int)
def qj(a b:Int):Int:=IntKind.i32.wrap ((BitVec.ofInt 32 a&&&~~~BitVec.ofInt 32 b).toNat:Int)
def W4(l w s:Bool)(n:Nat):Int:=bn l 1+bn w 2+bn s 4+8*(n:Int)
theorem SC:∀n,n<64->∀l w s:Bool,band (W4 l w s n) 5=bn l 1+bn s 4/\band (W4 l w s n) 1=bn l 1/\band (W4 l w s n) 4=bn s 4/\band (W4 l w s n) 2=bn w 2/\band (W4 l w s n) 3=bn l 1+bn w 2/\band (W4 l w s n) 7=bn l 1+bn w 2+bn s 4:=by decide+kernel
theorem KU:∀n,n<64->∀l w s:Bool,uJ (W4 l w s n) 1=W4 true w s n/\uJ (W4 l w s n) 2=W4 l true s n/\uJ (W4 l w s n) 4=W4 l w true n/\qj (W4 l w s n) 2=W4 l false s n:=by decide+kernel
theorem SE:∀n,n<64->∀l w s:Bool,(W4 l w s n).fdiv 8=(n:Int)/\IntKind.i32.wrap (W4 l w s n)=W4 l w s n:=by decide+kernel
theorem adu{l w s:Bool}{n:Nat}:W4 l w s n+8=W4 l w s (n+1):=by unfold W4;omega
def fl(k:Nat):Bool:=k==1
theorem iq{m:Wd}(h:m.Bits):(m.num:Int)=W4 (fl m.L) (fl m.W) (fl m.S) m.n:=by
 obtain⟨L,W,S,n⟩:=m
 obtain⟨a,b,c⟩:=h
 simp only at a b c;have d:L=0∨L=1:=by omega
 have e:W=0∨W=1:=by omega
 have f:S=0∨S=1:=by omega
 rcases d with rfl|rfl<;>rcases e with rfl|rfl<;>rcases f with rfl|rfl<;>simp[Wd.num,W4,fl,bn]<;>omega
section
variable{P:Program}
theorem ag2(c:TypeId)(d f:Operand)(a b:Int):Go.Sy.Yields P (do eqGuard .and c d f (.int .i32 a) (.int .i32 b);binOp .and c (.int .i32 a) (.int .i32 b)) (.int .i32 (band a b)):=fun w=>by
 have e:Op.intBits .and .i32 a b=pure (.int .i32 (band a b)):=rfl
 exact⟨by simp[eqGuard,binOp,go_sem,e],fun g=>by simp[eqGuard,binOp,go_sem,e]⟩
theorem ajI(c:TypeId)(d f:Operand)(a b:Int):Go.Sy.Yields P (do eqGuard .or c d f (.int .i32 a) (.int .i32 b);binOp .or c (.int .i32 a) (.int .i32 b)) (.int .i32 (uJ a b)):=fun w=>by
 have e:Op.intBits .or .i32 a b=pure (.int .i32 (uJ a b)):=rfl
 exact⟨by simp[eqGuard,binOp,go_sem,e],fun g=>by simp[eqGuard,binOp,go_sem,e]⟩
theorem aez(c:TypeId)(d f:Operand)(a b:Int):Go.Sy.Yields P (do eqGuard .andNot c d f (.int .i32 a) (.int .i32 b);binOp .andNot c (.int .i32 a) (.int .i32 b)) (.int .i32 (qj a b)):=fun w=>by
 have e:Op.intBits .andNot .i32 a b=pure (.int .i32 (qj a b)):=rfl
 exact⟨by simp[eqGuard,binOp,go_sem,e],fun g=>by simp[eqGuard,binOp,go_sem,e]⟩
theorem ag3(k:IntKind)(c:TypeId)(d e:Operand)(a b:Int):Go.Sy.Yields P (do eqGuard .add c d e (.int k a) (.int k b);binOp .add c (.int k a) (.int k b)) (.int k (k.wrap (a+b))):=fun w=>⟨by simp[eqGuard,binOp,Op.intArith,go_sem],fun f=>by simp[eqGuard,binOp,Op.intArith,go_sem]⟩
theorem ag4(k:IntKind)(c:TypeId)(d e:Operand)(a b:Int):Go.Sy.Yields P (do eqGuard .sub c d e (.int k a) (.int k b);binOp .sub c (.int k a) (.int k b)) (.int k (k.wrap (a-b))):=fun w=>⟨by simp[eqGuard,binOp,Op.intArith,go_sem],fun f=>by simp[eqGuard,binOp,Op.intArith,go_sem]⟩
theorem ag5(b:TypeId)(c d:Operand)(a:Int):Go.Sy.Yields P (do eqGuard .shr b c d (.int .i32 a) (.int .u64 3);binOp .shr b (.int .i32 a) (.int .u64 3)) (.int .i32 (a.fdiv 8)):=fun w=>⟨by simp[eqGuard,binOp,Op.shift,go_sem,IntKind.bits],fun e=>by simp[eqGuard,binOp,Op.shift,go_sem]⟩
theorem ag6(k:IntKind)(c:TypeId)(d e:Operand)(a b:Int):Go.Sy.Yields P (do eqGuard .eql c d e (.int k a) (.int k b);binOp .eql c (.int k a) (.int k b)) (.bool (a==b)):=fun w=>⟨by simp[eqGuard,binOp,Op.intCmp,go_sem],fun f=>by simp[eqGuard,binOp,Op.intCmp,go_sem]⟩
theorem ag7(k:IntKind)(c:TypeId)(d e:Operand)(a b:Int):Go.Sy.Yields P (do eqGuard .neq c d e (.int k a) (.int k b);binOp .neq c (.int k a) (.int k b)) (.bool (a !=b)):=fun w=>⟨by simp[eqGuard,binOp,Op.intCmp,go_sem],fun f=>by simp[eqGuard,binOp,Op.intCmp,go_sem]⟩
theorem ag8(k:IntKind)(c:TypeId)(d e:Operand)(a b:Int):Go.Sy.Yields P (do eqGuard .gtr c d e (.int k a) (.int k b);binOp .gtr c (.int k a) (.int k b)) (.bool (decide (a>b))):=fun w=>⟨by simp[eqGuard,binOp,Op.intCmp,go_sem],fun f=>by simp[eqGuard,binOp,Op.intCmp,go_sem]⟩
end
end Go.Mx
namespace Go.Mx
open Go.Ren Go.Sy
open Go.Conc hiding Goes
def nu(Mu:Nat)(wst it tv:Int)(o:Wd)(nw:Int):Nat->Value
 | 0|1=>.pointer (some ⟨Mu,0,none⟩)
 | 2=>.pointer (some ⟨Mu,1,none⟩)
 | 3=>.int .i64 wst
 | 4=>.int .i32 (o.num:Int)
 | 5=>.int .i64 it
 | 6=>.int .i64 (IntKind.i64.wrap (it+1))
 | 8=>.int .i32 ((o.num:Int).fdiv 8)
 | 10=>.int .i32 (uJ (o.num:Int) 1)
 | 11=>.int .i32 (IntKind.i32.wrap ((o.num:Int)+8))
 | 12=>.int .i32 (uJ (IntKind.i32.wrap (uJ (o.num:Int) 1+8)) 4)
 | 18=>.int .i32 (IntKind.i32.wrap (uJ (o.num:Int) 1+8))
 | 14=>.int .i32 (uJ (o.num:Int) 2)
 | 15=>.int .i32 (qj (uJ (o.num:Int) 1) 2)
 | 16=>.int .i32 (qj (IntKind.i32.wrap (uJ (o.num:Int) 1+8)) 2)
 | 17=>.int .i32 (qj (uJ (IntKind.i32.wrap (uJ (o.num:Int) 1+8)) 4) 2)
 | 20=>.int .i64 tv
 | 21=>.int .i64 (IntKind.i64.wrap (tv-wst))
 | 30=>.int .i32 nw
 | 40=>.int .i32 (IntKind.i32.wrap ((o.num:Int)+1))
 | 41=>.int .i32 (IntKind.i32.wrap ((o.num:Int)-8))
 | 42=>.int .i32 (uJ (IntKind.i32.wrap ((o.num:Int)-8)) 2)
 | _=>undef
def yG(wst tv:Int)(o:Wd):Tab:=tab (fl o.L) (fl o.W) (fl o.S) (o.n==0) (o.n==1) (wst==0) (decide (IntKind.i64.wrap (tv-wst)>1000000))
section
variable{P:Program}{d:TypeId}{c:Nat->Value}{x y z:E}{a b:Int}{k:IntKind}
theorem vG(e:x.den c=.int .i32 a)(f:y.den c=.int .i32 b)(g:z.den c=.int .i32 (band a b)):tC P d c (.bin .and x y) z:=fun h i j=>by rw[e,f,g];exact ag2 h i j a b
theorem abw(e:x.den c=.int .i32 a)(f:y.den c=.int .i32 b)(g:z.den c=.int .i32 (uJ a b)):tC P d c (.bin .or x y) z:=fun h i j=>by rw[e,f,g];exact ajI h i j a b
theorem NJ(e:x.den c=.int .i32 a)(f:y.den c=.int .i32 b)(g:z.den c=.int .i32 (qj a b)):tC P d c (.bin .andNot x y) z:=fun h i j=>by rw[e,f,g];exact aez h i j a b
theorem SG(e:x.den c=.int k a)(f:y.den c=.int k b)(g:z.den c=.int k (k.wrap (a+b))):tC P d c (.bin .add x y) z:=fun h i j=>by rw[e,f,g];exact ag3 k h i j a b
theorem X6(e:x.den c=.int k a)(f:y.den c=.int k b)(g:z.den c=.int k (k.wrap (a-b))):tC P d c (.bin .sub x y) z:=fun h i j=>by rw[e,f,g];exact ag4 k h i j a b
theorem ag9(e:x.den c=.int .i32 a)(f:z.den c=.int .i32 (a.fdiv 8)):tC P d c (.bin .shr x (.i .u64 3)) z:=fun g h j=>by rw[e,f];exact ag5 g h j a
theorem ql(e:x.den c=.int k a)(f:y.den c=.int k b)(g:z.den c=.bool (a==b)):tC P d c (.bin .eql x y) z:=fun h i j=>by rw[e,f,g];exact ag6 k h i j a b
theorem tH(e:x.den c=.int k a)(f:y.den c=.int k b)(g:z.den c=.bool (a !=b)):tC P d c (.bin .neq x y) z:=fun h i j=>by rw[e,f,g];exact ag7 k h i j a b
theorem aha(e:x.den c=.int k a)(f:y.den c=.int k b)(g:z.den c=.bool (decide (a>b))):tC P d c (.bin .gtr x y) z:=fun h i j=>by rw[e,f,g];exact ag8 k h i j a b
end
theorem ET{z:E}{c:Nat->Value}{a b:Int}(h:z=.i .i32 b)(e:a=b):z.den c=.int .i32 a:=by rw[h,e];rfl
theorem X7{o:Wd}(a:o.Bits)(b:o.n<64):band (o.num:Int) 5=bn (fl o.L) 1+bn (fl o.S) 4/\band (o.num:Int) 1=bn (fl o.L) 1/\band (o.num:Int) 4=bn (fl o.S) 4/\band (o.num:Int) 2=bn (fl o.W) 2/\band (o.num:Int) 3=bn (fl o.L) 1+bn (fl o.W) 2/\band (o.num:Int) 7=bn (fl o.L) 1+bn (fl o.W) 2+bn (fl o.S) 4:=by
 rw[iq a];exact SC _ b _ _ _
theorem ahb{o:Wd}(a:o.Bits)(b:o.n<64):(o.num:Int).fdiv 8=o.n:=by rw[iq a];exact(SE _ b _ _ _).1
theorem X8{o:Wd}(a:o.Bits)(b:o.n<64):IntKind.i32.wrap (o.num:Int)=o.num:=by rw[iq a];exact(SE _ b _ _ _).2
theorem ahc{o:Wd}(a:o.Bits)(b:o.n<63):IntKind.i32.wrap ((o.num:Int)+8)=W4 (fl o.L) (fl o.W) (fl o.S) (o.n+1):=by rw[iq a,adu];exact(SE _ (by omega) _ _ _).2
theorem BD(a b:Nat):((a:Int)==(b:Int))=(a==b):=by
 rw[Bool.eq_iff_iff];simp only[beq_iff_eq];constructor<;>intro h<;>omega
theorem kC{P:Program}{L:ag}(H:fC P L){Mu:Nat}{wst it tv:Int}{o:Wd}{nw:Int}(e:o.Bits)(A:o.n<63):aZ P L.mu.tIMutex (nu Mu wst it tv o nw) (yG wst tv o):=by
 obtain⟨l,m,q,r,s,_⟩:=X7 e (by omega)
 have f:=ahb e (by omega)
 have h:=(KU o.n (by omega) (fl o.L) (fl o.W) (fl o.S)).1;have t:=(SC o.n (by omega) true (fl o.W) (fl o.S)).2.2.2.1;have u:=(SC (o.n+1) (by omega) true (fl o.W) (fl o.S)).2.2.2.1;have v:=(KU (o.n+1) (by omega) true (fl o.W) (fl o.S)).2.2.1;have x:=(SC (o.n+1) (by omega) true (fl o.W) true).2.2.2.1;have j:=iq e
 have k:IntKind.i32.wrap (uJ (o.num:Int) 1+8)=W4 true (fl o.W) (fl o.S) (o.n+1):=by rw[j,h,adu];exact(SE _ (by omega) _ _ _).2
 unfold aZ yG tab;simp only[List.forall_mem_cons]
 have b:∀i:Nat,i<2->Go.Sy.Yields P (Instr.fieldAt L.mu.tIMutex (.pointer (some ⟨Mu,0,none⟩)) i) (.pointer (some ⟨Mu,i,none⟩)):=by
   intro i B;have c:=H.lib.runUnderlying_tIMutex
   have a:=H.lib.sizeOf_t21
   have d:=H.sizeOf_tU32
   have g:i=0∨i=1:=by omega
   rcases g with rfl|rfl
   ·exact fun w=>⟨by simp[go_sem,c,a,d],fun y=>by simp[go_sem,c,a,d]⟩
   ·exact fun w=>⟨by simp[go_sem,c,a,d],fun y=>by simp[go_sem,c,a,d]⟩
 refine⟨⟨rfl,_,rfl⟩,b 0 (by omega),b 1 (by omega),vG rfl rfl (ET rfl l),vG rfl rfl (ET rfl m),vG rfl rfl (ET rfl q),vG rfl rfl (ET rfl r),vG rfl rfl (ET rfl s),ag9 rfl rfl,
   ql rfl rfl rfl,ql rfl rfl rfl,ql rfl rfl rfl,ql rfl rfl rfl,ql rfl rfl rfl,ql rfl rfl rfl,ql rfl rfl rfl,ql rfl rfl rfl,ql rfl rfl rfl,ql rfl rfl rfl,
   tH rfl rfl rfl,tH rfl rfl rfl,tH rfl rfl rfl,tH rfl rfl rfl,tH rfl rfl rfl,tH rfl rfl rfl,
   tH rfl rfl ?_,ql rfl rfl ?_,ql rfl rfl ?_,abw rfl rfl rfl,SG rfl rfl rfl,SG rfl rfl rfl,abw rfl rfl rfl,abw rfl rfl rfl,vG rfl rfl (ET rfl ?_),vG rfl rfl (ET rfl ?_),vG rfl rfl (ET rfl ?_),NJ rfl rfl rfl,NJ rfl rfl rfl,NJ rfl rfl rfl,
   SG rfl rfl rfl,tH rfl rfl rfl,ql rfl rfl rfl,X6 rfl rfl rfl,X6 rfl rfl rfl,aha rfl rfl rfl,fun p z=>absurd z (List.not_mem_nil)⟩
 · rw[f];have:=BD o.n 0
   show Value.bool (!(o.n==0))=Value.bool (!((o.n:Int)==((0:Nat):Int)))
   rw[this]
 · rw[f];show Value.bool (o.n==0)=Value.bool ((o.n:Int)==((0:Nat):Int))
   rw[BD]
 · rw[f];show Value.bool (o.n==1)=Value.bool ((o.n:Int)==((1:Nat):Int))
   rw[BD]
 · rw[j,h];exact t
 · rw[k];exact u
 · rw[k,v];exact x
section
variable{Mu:Nat}{wst it tv:Int}{o:Wd}{nw:Int}
theorem jW:nu Mu wst it tv o nw 0=.pointer (some ⟨Mu,0,none⟩):=rfl
theorem kD:nu Mu wst it tv o nw 1=.pointer (some ⟨Mu,0,none⟩):=rfl
theorem yM:nu Mu wst it tv o nw 2=.pointer (some ⟨Mu,1,none⟩):=rfl
theorem Bc:nu Mu wst it tv o nw 3=.int .i64 wst:=rfl
theorem tJ:nu Mu wst it tv o nw 4=.int .i32 (o.num:Int):=rfl
theorem IK:nu Mu wst it tv o nw 5=.int .i64 it:=rfl
theorem ajJ:nu Mu wst it tv o nw 6=.int .i64 (IntKind.i64.wrap (it+1)):=rfl
theorem ahd:nu Mu wst it tv o nw 10=.int .i32 (uJ (o.num:Int) 1):=rfl
theorem ahe:nu Mu wst it tv o nw 11=.int .i32 (IntKind.i32.wrap ((o.num:Int)+8)):=rfl
theorem SH:nu Mu wst it tv o nw 14=.int .i32 (uJ (o.num:Int) 2):=rfl
theorem ahf:nu Mu wst it tv o nw 15=.int .i32 (qj (uJ (o.num:Int) 1) 2):=rfl
theorem ahg:nu Mu wst it tv o nw 16=.int .i32 (qj (IntKind.i32.wrap (uJ (o.num:Int) 1+8)) 2):=rfl
theorem ahh:nu Mu wst it tv o nw 17=.int .i32 (qj (uJ (IntKind.i32.wrap (uJ (o.num:Int) 1+8)) 4) 2):=rfl
theorem ahi:nu Mu wst it tv o nw 18=.int .i32 (IntKind.i32.wrap (uJ (o.num:Int) 1+8)):=rfl
theorem X9:nu Mu wst it tv o nw 20=.int .i64 tv:=rfl
theorem Ya:nu Mu wst it tv o nw 30=.int .i32 nw:=rfl
theorem SI:nu Mu wst it tv o nw 42=.int .i32 (uJ (IntKind.i32.wrap ((o.num:Int)-8)) 2):=rfl
end
def pM(l w s n0 a:Bool):Tab:=(.bin .add (.v 4) (.i .i32 1),.v 40)::(.bin .and (.v 40) (.i .i32 1),.i .i32 (bn (!l) 1))::(.bin .and (.v 4) (.i .i32 7),.i .i32 (bn l 1+bn w 2+bn s 4))::(.bin .neq (.i .i32 6) (.i .i32 0),.b true)::(.bin .neq (.i .i32 7) (.i .i32 0),.b true)::(.bin .sub (.v 4) (.i .i32 8),.v 41)::(.bin .or (.v 41) (.i .i32 2),.v 42)::tab l w s n0 a true false
theorem ajK:∀n,n<64->∀l w s:Bool,band (IntKind.i32.wrap (W4 l w s n+1)) 1=bn (!l) 1:=by decide+kernel
theorem ajL:∀n,n<63->uJ (IntKind.i32.wrap (W4 false false false (n+1)-8)) 2=W4 false true false n:=by decide+kernel
theorem xG{P:Program}{L:ag}(H:fC P L){Mu:Nat}{o:Wd}{nw:Int}(a:o.Bits)(c:o.n<63):aZ P L.mu.tIMutex (nu Mu 0 0 0 o nw) (pM (fl o.L) (fl o.W) (fl o.S) (o.n==0) (o.n==1)):=by
 have b:=kC H (Mu:=Mu) (wst:=0) (it:=0) (tv:=0) (nw:=nw) a c
 have e:yG 0 0 o=tab (fl o.L) (fl o.W) (fl o.S) (o.n==0) (o.n==1) true false:=by
   unfold yG;have f:decide (IntKind.i64.wrap ((0:Int)-0)>1000000)=false:=by decide+kernel
   rw[f];rfl
 rw[e]at b;obtain⟨_,_,_,_,_,g⟩:=X7 a (by omega:o.n<64)
 unfold aZ pM;simp only[List.forall_mem_cons]
 refine⟨SG rfl rfl rfl,vG rfl rfl (ET rfl ?_),vG rfl rfl (ET rfl g),tH rfl rfl rfl,tH rfl rfl rfl,X6 rfl rfl rfl,abw rfl rfl rfl,b⟩;rw[iq a];exact ajK _ (by omega) _ _ _
attribute [irreducible] nu
end Go.Mx
namespace Go.Sy
open Go.Ren
open Go.Conc hiding Goes
def sub(s t:Env):List (Option E×Option E):=t.map fun p=>(get s p.1,p.2)
def lit:E->Bool
 | .v _=>false
 | _=>true
def mO(a:List (E×E))(p:Option E×Option E):Bool:=match p.2 with
 | none=>true
 | some x=>match p.1 with
   |none=>false
   |some y=>(decide (y=x)&&lit y)||a.contains (y,x)
theorem uK{g BF:Nat->Value}{s t:Env}{A:Array Value}{ρ:List (E×E)}(h:Agree g s A)(c:(sub s t).all (mO ρ)=true)(d:∀p∈ρ,p.1.den g=p.2.den BF):Agree BF t A:=by
 intro k x b;have i:(k,some x)∈t:=by
   induction t with
   |nil=>cases b
   |cons p t l=>
    obtain⟨j,y⟩:=p
    unfold get at b;split at b
    ·rename_i e;have:j=k:=by simpa using e
     subst this;subst b;exact List.mem_cons_self ..
    ·exact List.mem_cons_of_mem _ (l (by unfold sub at c;simp only[List.map_cons,List.all_cons,Bool.and_eq_true]at c;exact c.2) b)
 have a:=List.all_eq_true.1 c (get s k,some x) (List.mem_map.2 ⟨_,i,rfl⟩);unfold mO at a;dsimp only at a;cases f:get s k with
 | none=>rw[f]at a;cases a
 | some y=>
   rw[f]at a;dsimp only at a;rw[h k y f];simp only[Bool.or_eq_true,Bool.and_eq_true,decide_eq_true_eq,List.contains_iff_mem]at a;rcases a with⟨rfl,m⟩|a
   ·cases y<;>first|rfl|cases m
   ·exact congrArg some (d _ a)
structure To(tI:TypeId)(sz:Nat)(T:Tab)(n k:Nat)(s t:S)(ρ:List (E×E)):Prop where
 todo:(run sz T n s).todo=t.todo
 log:(run sz T n s).log=List.replicate k tI
 env:(sub (run sz T n s).env t.env).all (mO ρ)=true
theorem To.walk{P:Program}{j:TypeId}{a n k:Nat}{T:Tab}{s t:S}{ρ:List (E×E)}(h:To j a T n k s t ρ){c BF:Nat->Value}(r:aZ P j c T)(e:∀p∈ρ,p.1.den c=p.2.den BF){b:Frame}{ds:List Deferred}{cs:List Frame}(u:b.kind≠.early){m:Bool}{I:World->Prop}{X:Event->Prop}{Q:Nat->Goroutine->Prop}{d:Nat}{g:Goroutine}
   (v:Behind c a b ds cs s g) (q:∀l,Behind BF a b ds cs t l->af P m I X Q d l):af P m I X Q d g:=by
 obtain⟨A,w,y,rfl⟩:=v
 refine X4 r u n s A w y (fun x o=>?_) fun z f i=>?_
 · rw[h.log]at o;exact List.eq_of_mem_replicate o
 · rw[h.todo];exact q _ ⟨z,f,uK i h.env e,rfl⟩
end Go.Sy
namespace Go.Mx
open Go.Ren Go.Sy
open Go.Conc hiding Goes
def T0:Tab:=tab true false false false false true false
def fresh(e:Env)(t:List Item):S:=⟨e,t,[]⟩
def enS(L:ag):S:=fresh [(0,some (.v 0))] [.code (Dj L)]
def sqR(L:ag):S:=run 139 T0 9 (head L false false)
def c1R(L:ag):S:=run 139 T0 25 (next (sqR L) (some (.b true)))
def dsR(L:ag):S:=run 139 T0 8 (next (c1R L) (some (.b true)))
def rBR(L:ag):S:=run 139 T0 12 (next (dsR L) none)
def c2R(L:ag):S:=run 139 T0 61 (next (sqR L) (some (.b false)))
def rCR(L:ag):S:=run 139 T0 6 (next (c2R L) (some (.b false)))
def t1R(L:ag):S:=run 139 T0 25 (next (c2R L) (some (.b true)))
def s1R(L:ag):S:=run 139 T0 8 (next (t1R L) (some (.v 3)))
def t2R(L:ag):S:=run 139 T0 5 (next (s1R L) none)
def r2R(L:ag):S:=run 139 ((.bin .sub (.v 20) (.v 3),.v 21)::T0) 40 (next (t2R L) (some (.v 20)))
def a1R(L:ag):S:=run 139 (tab false false true false false true false) 200 (next (r2R L) (some (.v 4)))
inductive Pl where|a|b|c
def rdT(L:ag):Pl->List Item
 | .a=>(run 139 T0 21 (enS L)).todo
 | .b=>(rBR L).todo
 | .c=>(rCR L).todo
def rdA:Pl->Nat
 | .a=>12
 | .b=>47
 | .c=>133
def loc(a c:Bool):Env:=[(0,some (.v 0)),(2,some (.v 3)),(3,some (.b c)),(4,some (.b a)),(5,some (.v 5))]
def WZ(L:ag)(a:Pl)(b c:Bool):S:=fresh ((rdA a,some (.v 1))::loc b c) (rdT L a)
def sqS(L:ag)(a c:Bool):S:=fresh ((17,some (.b true))::(18,some (.v 5))::vO a c) (sqR L).todo
def c1S(L:ag)(a:Bool):S:=fresh ((33,some (.b true))::(36,some (.v 1))::(37,some (.v 4))::(39,some (.v 14))::vO false a) (c1R L).todo
def dsS(L:ag)(a b:Bool):S:=fresh (loc a b) (dsR L).todo
def SK(L:ag)(a b:Bool):S:=fresh ((77,some (.v 1))::(78,some (.v 4))::(79,some (.v 30))::vO a b) (c2R L).todo
def t1S(L:ag)(c a:Bool):S:=fresh [(0,some (.v 0)),(3,some (.b c)),(8,some (.b a))] (t1R L).todo
def s1S(L:ag)(c a:Bool):S:=fresh [(0,some (.v 0)),(2,some (.v 3)),(3,some (.b c)),(91,some (.v 2)),(92,some (.b a))] (s1R L).todo
def t2S(L:ag):S:=fresh [(0,some (.v 0)),(2,some (.v 3)),(3,some (.b false)),(95,some (.b false))] (t2R L).todo
def Yb(L:ag)(a:Bool):S:=fresh [(0,some (.v 0)),(2,some (.v 3)),(3,some (.b a)),(103,some (.v 1))] (r2R L).todo
def a1S(L:ag)(a:Int):S:=fresh [(0,some (.v 0)),(128,some (.v 1)),(129,some (.i .i32 a))] (a1R L).todo
def W9(L:ag):S:=fresh [(0,some (.v 0))] (run 139 T0 20 (fresh [(0,some (.v 0))] [.code (XY L)])).todo
def ri:List (E×E):=[(.v 0,.v 0),(.v 1,.v 1),(.v 2,.v 2),(.v 3,.v 3),(.v 4,.v 4),(.v 5,.v 5),(.v 14,.v 14)]
def r0:List (E×E):=[(.v 0,.v 0),(.v 1,.v 1),(.i .i64 0,.v 3),(.i .i64 0,.v 5)]
def rN(k:Nat):List (E×E):=(.v k,.v 30)::ri
section
variable(L:ag)
theorem ahk(l w s n0 c z b:Bool):To L.mu.tIMutex 139 (tab l w s n0 c z b) 21 1 (enS L) (WZ L .a false false) r0:=⟨by kernel_rfl,by kernel_rfl,by kernel_rfl⟩
theorem ahl(T:Tab)(d e:Bool):To L.mu.tIMutex 139 T 5 0 (next (WZ L .a d e) (some (.v 4))) (head L d e) ri/\To L.mu.tIMutex 139 T 4 0 (next (WZ L .b d e) (some (.v 4))) (head L d e) ri/\To L.mu.tIMutex 139 T 4 0 (next (WZ L .c d e) (some (.v 4))) (head L d e) ri:=by
 cases d<;>cases e<;>exact⟨⟨by kernel_rfl,by kernel_rfl,by kernel_rfl⟩,⟨by kernel_rfl,by kernel_rfl,by kernel_rfl⟩,⟨by kernel_rfl,by kernel_rfl,by kernel_rfl⟩⟩
section
variable(w n0 c z a:Bool)
theorem ahm(b d:Bool):To L.mu.tIMutex 139 (tab true w false n0 c z a) 9 0 (head L b d) (sqS L b d) ri:=by
 cases b<;>cases d<;>exact⟨by kernel_rfl,by kernel_rfl,by kernel_rfl⟩
theorem aeC:To L.mu.tIMutex 139 (tab false w false n0 c z a) 200 1 (head L false false) (SK L false false) (rN 10):=⟨by kernel_rfl,by kernel_rfl,by kernel_rfl⟩
theorem abx(b:Bool):To L.mu.tIMutex 139 (tab false true false n0 c z a) 200 1 (head L true b) (SK L true b) (rN 15):=by
 cases b<;>exact⟨by kernel_rfl,by kernel_rfl,by kernel_rfl⟩
theorem ahn(l:Bool):To L.mu.tIMutex 139 (tab l w true n0 c z a) 200 1 (head L false false) (SK L false false) (rN 11):=by
 cases l<;>exact⟨by kernel_rfl,by kernel_rfl,by kernel_rfl⟩
theorem aho:To L.mu.tIMutex 139 (tab true w false n0 c z a) 200 1 (next (sqS L false false) (some (.b false))) (SK L false false) (rN 18):=⟨by kernel_rfl,by kernel_rfl,by kernel_rfl⟩
theorem ahp:To L.mu.tIMutex 139 (tab true true false n0 c z a) 200 1 (next (sqS L true false) (some (.b false))) (SK L true false) (rN 16):=⟨by kernel_rfl,by kernel_rfl,by kernel_rfl⟩
theorem ahq:To L.mu.tIMutex 139 (tab true true false n0 c z a) 200 1 (next (sqS L true true) (some (.b false))) (SK L true true) (rN 17):=⟨by kernel_rfl,by kernel_rfl,by kernel_rfl⟩
theorem ahr(d:Bool):To L.mu.tIMutex 139 (tab true false false false c z a) 25 1 (next (sqS L false d) (some (.b true))) (c1S L d) ri:=by
 cases d<;>exact⟨by kernel_rfl,by kernel_rfl,by kernel_rfl⟩
theorem ahs(d:Bool):To L.mu.tIMutex 139 (tab true w false n0 c z a) 200 0 (next (sqS L true d) (some (.b true))) (dsS L true d) ri:=by
 cases d<;>exact⟨by kernel_rfl,by kernel_rfl,by kernel_rfl⟩
theorem aht(d:Bool):To L.mu.tIMutex 139 (tab true true false n0 c z a) 200 0 (next (sqS L false d) (some (.b true))) (dsS L false d) ri:=by
 cases d<;>exact⟨by kernel_rfl,by kernel_rfl,by kernel_rfl⟩
theorem ahu(d:Bool):To L.mu.tIMutex 139 (tab true false false true c z a) 200 0 (next (sqS L false d) (some (.b true))) (dsS L false d) ri:=by
 cases d<;>exact⟨by kernel_rfl,by kernel_rfl,by kernel_rfl⟩
end
section
variable(l w s n0 d z a:Bool)
theorem aeD(c:Bool):To L.mu.tIMutex 139 (tab l w s n0 d z a) 8 0 (next (c1S L c) (some (.b true))) (dsS L true c) ri:=by
 cases c<;>exact⟨by kernel_rfl,by kernel_rfl,by kernel_rfl⟩
theorem aeE(c:Bool):To L.mu.tIMutex 139 (tab l w s n0 d z a) 200 0 (next (c1S L c) (some (.b false))) (dsS L false c) ri:=by
 cases c<;>exact⟨by kernel_rfl,by kernel_rfl,by kernel_rfl⟩
theorem ahv(c e:Bool):To L.mu.tIMutex 139 (tab l w s n0 d z a) 12 1 (next (dsS L c e) none) (WZ L .b c e) [(.v 0,.v 0),(.v 1,.v 1),(.v 3,.v 3),(.v 6,.v 5)]:=by
 cases c<;>cases e<;>exact⟨by kernel_rfl,by kernel_rfl,by kernel_rfl⟩
theorem aeF(e f:Bool):To L.mu.tIMutex 139 (tab l w s n0 d z a) 6 1 (next (SK L e f) (some (.b false))) (WZ L .c e f) ri:=by
 cases e<;>cases f<;>exact⟨by kernel_rfl,by kernel_rfl,by kernel_rfl⟩
theorem aeG(c e:Bool):To L.mu.tIMutex 139 (tab false w false n0 d z a) 200 0 (next (SK L c e) (some (.b true))) (W9 L) ri:=by
 cases c<;>cases e<;>exact⟨by kernel_rfl,by kernel_rfl,by kernel_rfl⟩
theorem Yc(e c:Bool):To L.mu.tIMutex 139 (tab true w s n0 d true a) 200 0 (next (SK L e c) (some (.b true))) (t1S L c false) ri/\To L.mu.tIMutex 139 (tab false w true n0 d true a) 200 0 (next (SK L e c) (some (.b true))) (t1S L c false) ri:=by
 cases s<;>cases e<;>cases c<;>exact⟨⟨by kernel_rfl,by kernel_rfl,by kernel_rfl⟩,⟨by kernel_rfl,by kernel_rfl,by kernel_rfl⟩⟩
theorem Yd(e c:Bool):To L.mu.tIMutex 139 (tab true w s n0 d false a) 200 1 (next (SK L e c) (some (.b true))) (s1S L c true) ri/\To L.mu.tIMutex 139 (tab false w true n0 d false a) 200 1 (next (SK L e c) (some (.b true))) (s1S L c true) ri:=by
 cases s<;>cases e<;>cases c<;>exact⟨⟨by kernel_rfl,by kernel_rfl,by kernel_rfl⟩,⟨by kernel_rfl,by kernel_rfl,by kernel_rfl⟩⟩
theorem ahw(c b:Bool):To L.mu.tIMutex 139 (tab l w s n0 d z a) 200 1 (next (t1S L c b) (some (.v 20))) (s1S L c b) [(.v 0,.v 0),(.v 2,.v 2),(.v 20,.v 3)]:=by
 cases c<;>cases b<;>exact⟨by kernel_rfl,by kernel_rfl,by kernel_rfl⟩
theorem aeH(b:Bool):To L.mu.tIMutex 139 (tab l w s n0 d z a) 5 0 (next (s1S L false b) none) (t2S L) ri:=⟨by kernel_rfl,by kernel_rfl,by kernel_rfl⟩
theorem aeI(b:Bool):To L.mu.tIMutex 139 (tab l w s n0 d z a) 200 1 (next (s1S L true b) none) (Yb L true) ri:=⟨by kernel_rfl,by kernel_rfl,by kernel_rfl⟩
theorem ahx:To L.mu.tIMutex 139 (tab l w s n0 d z a) 200 1 (next (t2S L) (some (.v 20))) (Yb L a) ri:=by
 cases a<;>exact⟨by kernel_rfl,by kernel_rfl,by kernel_rfl⟩
theorem aeJ(b:Bool):To L.mu.tIMutex 139 (tab l w false n0 d z a) 20 0 (next (Yb L b) (some (.v 4))) (head L true b) [(.v 0,.v 0),(.v 3,.v 3),(.v 4,.v 4),(.i .i64 0,.v 5)]:=by
 cases b<;>exact⟨by kernel_rfl,by kernel_rfl,by kernel_rfl⟩
theorem aeK:To L.mu.tIMutex 139 (tab false false true false d z a) 200 1 (next (Yb L false) (some (.v 4))) (a1S L (-11)) ri/\To L.mu.tIMutex 139 (tab false false true false true z a) 200 1 (next (Yb L true) (some (.v 4))) (a1S L (-11)) ri/\To L.mu.tIMutex 139 (tab false false true false false z a) 200 1 (next (Yb L true) (some (.v 4))) (a1S L (-7)) ri:=⟨⟨by kernel_rfl,by kernel_rfl,by kernel_rfl⟩,⟨by kernel_rfl,by kernel_rfl,by kernel_rfl⟩,⟨by kernel_rfl,by kernel_rfl,by kernel_rfl⟩⟩
theorem ahy(b:Int)(T:Tab):To L.mu.tIMutex 139 T 200 0 (next (a1S L b) none) (W9 L) ri:=⟨by kernel_rfl,by kernel_rfl,by kernel_rfl⟩
end
theorem ahz(a:Pl)(b c:Bool):loadAt 139 (WZ L a b c)=some (21,some (.v 1)):=by cases a<;>cases b<;>cases c<;>kernel_rfl
theorem adx(a b:Bool):aX 139 (sqS L a b)=some (L.canSpin,[some (.v 5)]):=by cases a<;>cases b<;>kernel_rfl
theorem ady(a:Bool):aX 139 (c1S L a)=some (L.mu.cas32,[some (.v 1),some (.v 4),some (.v 14)]):=by cases a<;>kernel_rfl
theorem ahA(a b:Bool):aX 139 (dsS L a b)=some (L.IE,[]):=by cases a<;>cases b<;>kernel_rfl
theorem adz(a b:Bool):aX 139 (SK L a b)=some (L.mu.cas32,[some (.v 1),some (.v 4),some (.v 30)]):=by cases a<;>cases b<;>kernel_rfl
theorem ahB(b a:Bool):aX 139 (t1S L b a)=some (L.nano,[]):=by cases b<;>cases a<;>kernel_rfl
theorem ahC(c a:Bool):aX 139 (s1S L c a)=some (L.IG,[some (.v 2),some (.b a),some (.i .i64 2)]):=by cases c<;>cases a<;>kernel_rfl
theorem ahD:aX 139 (t2S L)=some (L.nano,[]):=by kernel_rfl
theorem ahE(a:Bool):loadAt 139 (Yb L a)=some (21,some (.v 1)):=by cases a<;>kernel_rfl
theorem ahF:aX 139 (W9 L)=some (L.mu.enable,[]):=by kernel_rfl
theorem ahG(a:Int):aX 139 (a1S L a)=some (L.mu.add32,[some (.v 1),some (.i .i32 a)]):=by kernel_rfl
end
end Go.Mx
namespace Go.Mx
open Go.Ren Go.Sy
open Go.Conc hiding Goes
open Go.Conc.Locks
open Go.ConcR (stA smA)
section
variable(L:ag)
theorem pg:((cas32Fn L.mu).name== "runtime.NumGoroutine")=false:=by kernel_rfl
theorem pq:(cas32Fn L.mu).body.isNone=true:=by kernel_rfl
theorem pz:Extern.findNext (cas32Fn L.mu)=none:=by kernel_rfl
theorem pF:Extern.find (cas32Fn L.mu)=some (Extern.Atomic.casT (.int .i32)):=by kernel_rfl
theorem SL:((add32Fn L.mu).name== "runtime.NumGoroutine")=false:=by kernel_rfl
theorem SN:(add32Fn L.mu).body.isNone=true:=by kernel_rfl
theorem SQ:Extern.findNext (add32Fn L.mu)=none:=by kernel_rfl
theorem SS:Extern.find (add32Fn L.mu)=some (Extern.Atomic.update (Op.intArith .add) .i32 true):=by kernel_rfl
theorem SV:((qh L).name== "runtime.NumGoroutine")=false:=by kernel_rfl
theorem SX:(qh L).body.isNone=true:=by kernel_rfl
theorem SY:Extern.findNext (qh L)=none:=by kernel_rfl
theorem S9:Extern.find (qh L)=some Extern.Sync.canSpin:=by kernel_rfl
theorem aeL:((sV L).name== "runtime.NumGoroutine")=false:=by kernel_rfl
theorem aeM:(sV L).body.isNone=true:=by kernel_rfl
theorem aeN:Extern.findNext (sV L)=none:=by kernel_rfl
theorem aeO:Extern.find (sV L)=some (fun _=>pure (.tuple #[])):=by kernel_rfl
theorem KW:((yK L).name== "runtime.NumGoroutine")=false:=by kernel_rfl
theorem KX:(yK L).body.isNone=true:=by kernel_rfl
theorem KY:Extern.findNext (yK L)=none:=by kernel_rfl
theorem KZ:Extern.find (yK L)=some Extern.OsHooks.nano:=by kernel_rfl
theorem La:(yK L).norace=true:=by kernel_rfl
theorem aby:((sW L).name== "runtime.NumGoroutine")=false:=by kernel_rfl
theorem abz:(sW L).body.isNone=true:=by kernel_rfl
theorem abA:Extern.findNext (sW L)=none:=by kernel_rfl
theorem abB:Extern.find (sW L)=some Extern.Sync.semacquire:=by kernel_rfl
theorem Tc:((sZ L).name== "runtime.NumGoroutine")=false:=by kernel_rfl
theorem BG:(sZ L).body.isNone=true:=by kernel_rfl
theorem Td:Extern.findNext (sZ L)=none:=by kernel_rfl
theorem Tf:Extern.find (sZ L)=some Extern.Sync.semrelease:=by kernel_rfl
end
section
variable{tM:TypeId}{Mu:Nat}{w:World}{m m':Wd}{q:Nat}
def mA(Mu:Nat):Addr:=⟨Mu,0,none⟩
def sA(Mu:Nat):Addr:=⟨Mu,1,none⟩
theorem MuAt.state(h:MuAt tM Mu w m q):w.cell? (mA Mu)=some (.int .i32 m.num):=by unfold MuAt at h;simp[World.cell?,mA,h]
theorem MuAt.sema(h:MuAt tM Mu w m q):w.cell? (sA Mu)=some (.int .u32 q):=by unfold MuAt at h;simp[World.cell?,sA,h]
theorem MuAt.thaw(h:MuAt tM Mu w m q)(a:Nat):w.frozen? ⟨Mu,a,none⟩=false:=by unfold MuAt at h;simp[World.frozen?,h]
theorem Aq{a:Type}{A:Array a}{i:Nat}{f:a->a}{x:a}(h:A[i]?=some x):(A.modify i f)[i]?=some (f x):=by
 rw[Array.getElem?_modify,if_pos rfl,h];rfl
theorem MuAt.setState(h:MuAt tM Mu w m q){v:Int}(a:v=m'.num):MuAt tM Mu (w.setCell (mA Mu) (.int .i32 v)) m' q:=by
 unfold MuAt at h⊢;unfold World.setCell mA;dsimp only
 rw[Aq h];simp[a]
theorem MuAt.IL(h:MuAt tM Mu w m q){v:Int}{a:Nat}(b:v=a):MuAt tM Mu (w.setCell (sA Mu) (.int .u32 v)) m a:=by
 unfold MuAt at h⊢;unfold World.setCell sA;dsimp only
 rw[Aq h];simp[b]
theorem Ti{a:Addr}(c:a.block=Mu)(v:Value):tq Mu w (w.setCell a v):=⟨by simp,fun b d=>eY (by rw[c];exact d),.rfl,rfl,rfl⟩
theorem yN:tq Mu w w.asked:=⟨rfl,fun _ _=>rfl,.rfl,rfl,rfl⟩
theorem GM:tq Mu w w.later:=⟨rfl,fun _ _=>rfl,⟨w.tick,rfl⟩,rfl,rfl⟩
theorem abC{b:Bool}:∀e∈#[(⟨.cell (mA Mu),b,true⟩:Event)],jw Mu e:=by
 intro e a;rw[Array.mem_singleton]at a;subst a;exact .inr (.inr (.inr (.inr ⟨_,_,rfl,rfl⟩)))
theorem EU:∀e∈#[(⟨.cell (mA Mu),false,true⟩:Event),⟨.cell (mA Mu),true,true⟩],jw Mu e:=by
 intro e a;simp at a;rcases a with rfl|rfl<;>exact .inr (.inr (.inr (.inr ⟨_,_,rfl,rfl⟩)))
theorem aeP:∀e∈semEvents (sA Mu),jw Mu e:=by
 intro e a;simp[semEvents]at a;rcases a with rfl|rfl|rfl|rfl
 · exact .inl rfl
 · exact .inr (.inr (.inr (.inr ⟨_,_,rfl,rfl⟩)))
 · exact .inr (.inr (.inr (.inr ⟨_,_,rfl,rfl⟩)))
 · exact .inr (.inl rfl)
theorem abD{b:Bool}:deafBehind 1 #[(⟨.cell (mA Mu),b,true⟩:Event)]=1:=by simp[deafBehind]
theorem EW:deafBehind 1 #[(⟨.cell (mA Mu),false,true⟩:Event),⟨.cell (mA Mu),true,true⟩]=1:=by simp[deafBehind]
theorem aeQ:deafBehind 1 (semEvents (sA Mu))=1:=by simp[semEvents,deafBehind]
end
end Go.Mx
namespace Go.Mx
open Go.Ren Go.Sy
open Go.Conc hiding Goes
open Go.Conc.Locks
open Go.ConcR (stA smA)
def qQ(T:Lo):Wd:=if T.old.L=0/\T.old.S=0 then⟨1,if T.aw then 0 else T.old.W,0,T.old.n⟩else⟨T.old.L,if T.aw then 0 else T.old.W,if T.sv=true/\T.old.L=1 then 1 else T.old.S,T.old.n+1⟩
def Bh(L:ag)(cs:List Frame)(a:Nat->Value)(s:S)(g:Goroutine):Prop:=Behind a 139 (base L.mu.lockSlow) [] cs s g
def Small(o:Wd):Prop:=o.Bits/\o.n<63
def UR(L:ag)(Mu:Nat)(cs:List Frame)(y:Lk)(d:Nat)(g:Goroutine):Prop:=d=1/\match y with
 | .rd e c it=>∃a o f,Bh L cs (nu Mu a it 0 o 0) (WZ L f e c) g
 | .sq T=>∃a,Bh L cs (nu Mu a T.it 0 T.old 0) (sqS L T.aw T.sv) g
 | .c1 T=>T.aw=false/\∃a,Bh L cs (nu Mu a T.it 0 T.old 0) (c1S L T.sv) g
 | .c2 T=>∃a,Bh L cs (nu Mu a T.it 0 T.old (qQ T).num) (SK L T.aw T.sv) g
 | .t1 c=>∃a it o b,Small o/\Bh L cs (nu Mu a it 0 o 0) (t1S L c b) g
 | .s1 c=>∃a it o b,Small o/\Bh L cs (nu Mu a it 0 o 0) (s1S L c b) g
 | .t2=>∃a it o,Small o/\Bh L cs (nu Mu a it 0 o 0) (t2S L) g
 | .r2 c=>∃a it o,Small o/\Bh L cs (nu Mu a it 0 o 0) (Yb L c) g
 | .a1 c h=>∃a it o,Small o/\Bh L cs (nu Mu a it 0 o 0) (a1S L (if h then-11 else-7)) g
 | _=>False
section
variable{P:Program}{L:ag}{I:World->Prop}{tM:TypeId}{Mu B:Nat}{cs:List Frame}{d:Nat}{g:Goroutine}{wst it tv:Int}{o:Wd}{nw:Int}
theorem kb:(base L.mu.lockSlow).kind≠.early:=by simp[base]
theorem jy{a nw':Int}:∀p∈ri,p.1.den (nu Mu wst it tv o nw)=p.2.den (nu Mu wst it a o nw'):=by
 intro p b;simp only[ri,List.mem_cons,List.not_mem_nil,or_false]at b;rcases b with rfl|rfl|rfl|rfl|rfl|rfl|rfl
 · exact jW.trans jW.symm
 · exact kD.trans kD.symm
 · exact yM.trans yM.symm
 · exact Bc.trans Bc.symm
 · exact tJ.trans tJ.symm
 · exact IK.trans IK.symm
 · exact SH.trans SH.symm
theorem GN{b:Int}{k:Nat}{nw':Int}(h:nu Mu wst it tv o nw k=.int .i32 nw'):∀p∈rN k,p.1.den (nu Mu wst it tv o nw)=p.2.den (nu Mu wst it b o nw'):=by
 intro p a;simp only[rN,List.mem_cons]at a;rcases a with rfl|a
 · exact h.trans Ya.symm
 · exact jy p a
theorem fQ{l w s:Bool}(a:fl o.L=l)(b:fl o.W=w)(c:fl o.S=s):yG wst tv o=tab l w s (o.n==0) (o.n==1) (wst==0) (decide (IntKind.i64.wrap (tv-wst)>1000000)):=by unfold yG;rw[a,b,c]
theorem EX{k:Nat}(h:k=1):fl k=true:=by rw[h];rfl
theorem wC{k:Nat}(h:k=0):fl k=false:=by rw[h];rfl
theorem NK(a:o.Bits)(c:o.n<63):uJ (o.num:Int) 1=((⟨1,o.W,o.S,o.n⟩:Wd).num:Nat):=by
 have b:=iq (m:=⟨1,o.W,o.S,o.n⟩) ⟨Nat.le_refl _,a.W,a.S⟩
 rw[iq a,b];exact(KU _ (by omega) _ _ _).1
theorem aeR(a:o.Bits)(b:o.n<63):qj (uJ (o.num:Int) 1) 2=((⟨1,0,o.S,o.n⟩:Wd).num:Nat):=by
 have c:=iq (m:=⟨1,o.W,o.S,o.n⟩) ⟨Nat.le_refl _,a.W,a.S⟩
 have e:=iq (m:=⟨1,0,o.S,o.n⟩) ⟨Nat.le_refl _,Nat.zero_le _,a.S⟩
 rw[NK a b,c,e];exact(KU _ (by dsimp only;omega) _ _ _).2.2.2
theorem Ye(a:o.Bits)(b:o.n<63):IntKind.i32.wrap ((o.num:Int)+8)=((⟨o.L,o.W,o.S,o.n+1⟩:Wd).num:Nat):=by
 have c:=iq (m:=⟨o.L,o.W,o.S,o.n+1⟩) ⟨a.L,a.W,a.S⟩
 rw[ahc a b,c]
theorem NL(a:o.Bits)(b:o.n<63):IntKind.i32.wrap (uJ (o.num:Int) 1+8)=((⟨1,o.W,o.S,o.n+1⟩:Wd).num:Nat):=by
 rw[NK a b];exact Ye (o:=⟨1,o.W,o.S,o.n⟩) ⟨Nat.le_refl _,a.W,a.S⟩ b
theorem aeS(a:o.Bits)(b:o.n<63):qj (IntKind.i32.wrap (uJ (o.num:Int) 1+8)) 2=((⟨1,0,o.S,o.n+1⟩:Wd).num:Nat):=by
 have c:=iq (m:=⟨1,o.W,o.S,o.n+1⟩) ⟨Nat.le_refl _,a.W,a.S⟩
 have e:=iq (m:=⟨1,0,o.S,o.n+1⟩) ⟨Nat.le_refl _,Nat.zero_le _,a.S⟩
 rw[NL a b,c,e];exact(KU _ (by dsimp only;omega) _ _ _).2.2.2
theorem aeT(a:o.Bits)(b:o.n<63):qj (uJ (IntKind.i32.wrap (uJ (o.num:Int) 1+8)) 4) 2=((⟨1,0,1,o.n+1⟩:Wd).num:Nat):=by
 have c:=iq (m:=⟨1,o.W,o.S,o.n+1⟩) ⟨Nat.le_refl _,a.W,a.S⟩
 have e:=iq (m:=⟨1,0,1,o.n+1⟩) ⟨Nat.le_refl _,Nat.zero_le _,Nat.le_refl _⟩
 rw[NL a b,c,e,(KU _ (by dsimp only;omega) _ _ _).2.2.1];exact(KU _ (by dsimp only;omega) _ _ _).2.2.2
theorem aeU(a:o.Bits)(c:o.n<63):uJ (o.num:Int) 2=((⟨o.L,1,o.S,o.n⟩:Wd).num:Nat):=by
 have b:=iq (m:=⟨o.L,1,o.S,o.n⟩) ⟨a.L,Nat.le_refl _,a.S⟩
 rw[iq a,b];exact(KU _ (by omega) _ _ _).2.1
theorem Tj(H:fC P L)(ho:o.Bits)(hn:o.n<63){aw sv:Bool}{it:Nat}(hw:aw=true->o.W=1/\o.S=0)(hs:sv=true->aw=true)(hg:Bh L cs (nu Mu wst it 0 o 0) (head L aw sv) g):af P false I X0 (UR L Mu cs (hd ⟨o,aw,sv,it⟩)) 1 g:=by
 have hT:=kC H (Mu:=Mu) (wst:=wst) (it:=it) (tv:=0) (nw:=0) ho hn
 have hL:=ho.L
 have hS:=ho.S
 have hW:=ho.W
 by_cases hq:o.L=1/\o.S=0
 · have e:hd ⟨o,aw,sv,it⟩=.sq ⟨o,aw,sv,it⟩:=by unfold hd;rw[if_pos hq]
   rw[e];rw[fQ (EX hq.1) rfl (wC hq.2)]at hT;exact(ahm L _ _ _ _ _ aw sv).walk hT jy kb hg fun g' hb=>.stop ⟨rfl,wst,hb⟩
 · have e:hd ⟨o,aw,sv,it⟩=.c2 ⟨o,aw,sv,it⟩:=by unfold hd;rw[if_neg hq]
   rw[e];by_cases h0:o.S=0
   ·have hl0:o.L=0:=by omega
    cases ha:aw with
    |false=>
     have hsv:sv=false:=by cases h:sv with|false=>rfl|true=>exact absurd (hs h) (by rw[ha];simp)
     subst ha hsv;rw[fQ (wC hl0) rfl (wC h0)]at hT;refine(aeC L _ _ _ _ _).walk hT (GN (nw':=((qQ ⟨o,false,false,it⟩).num:Nat)) ?_) kb hg fun g' hb=>.stop ⟨rfl,wst,hb⟩;rw[ahd,NK ho hn];unfold qQ;rw[if_pos ⟨hl0,h0⟩];simp[h0]
    |true=>subst ha;have hw1:=(hw rfl).1;rw[fQ (wC hl0) (EX hw1) (wC h0)]at hT;refine(abx L _ _ _ _ sv).walk hT (GN (nw':=((qQ ⟨o,true,sv,it⟩).num:Nat)) ?_) kb hg fun g' hb=>.stop ⟨rfl,wst,hb⟩;rw[ahf,aeR ho hn];unfold qQ;rw[if_pos ⟨hl0,h0⟩];simp[h0]
   ·have hs1:o.S=1:=by omega
    have ha:aw=false:=by cases h:aw with|false=>rfl|true=>exact absurd (hw h).2 h0
    have hsv:sv=false:=by cases h:sv with|false=>rfl|true=>exact absurd (hs h) (by rw[ha];simp)
    subst ha hsv;rw[fQ rfl rfl (EX hs1)]at hT;refine(ahn L _ _ _ _ _ _).walk hT (GN (nw':=((qQ ⟨o,false,false,it⟩).num:Nat)) ?_) kb hg fun g' hb=>.stop ⟨rfl,wst,hb⟩;rw[ahe,Ye ho hn];unfold qQ;rw[if_neg (by intro x;exact h0 x.2)];simp
end
end Go.Mx
namespace Go.Mx
open Go.Ren Go.Sy
open Go.Conc hiding Goes
open Go.Conc.Locks
open Go.ConcR (stA smA)
section
variable{P:Program}{L:ag}{I:World->Prop}{tM:TypeId}{Mu B:Nat}{cs:List Frame}{d:Nat}{g:Goroutine}{wst it tv:Int}{o:Wd}{nw:Int}{Q:Nat->Goroutine->Prop}
theorem abE{it:Nat}(h:it<=4):IntKind.i64.wrap ((it:Int)+1)=((it+1:Nat):Int):=by
 have:it=0∨it=1∨it=2∨it=3∨it=4:=by omega
 rcases this with rfl|rfl|rfl|rfl|rfl<;>decide+kernel
def RL(P:Program)(L:ag)(I:World->Prop)(Mu:Nat)(cs:List Frame)(y:Lk)(d:Nat)(g:Goroutine):Prop:=af P false I X0 (UR L Mu cs y) d g
theorem ahH{R:Lk->Nat->Goroutine->Prop}{E:Nat->Goroutine->Prop}{y:Lk}(a:isL y)(h:R y d g):Nx R E y d g:=by
 cases y<;>first|exact h|exact a.elim
theorem NM{a b:Wd}(c:a.Bits)(f:b.Bits)(h:a≠b):¬((a.num:Int)=b.num):=fun e=>h (Wd.inj c f (Int.ofNat_inj.1 e))
theorem qR{a b c f:Int}{o':Wd}{e:Env}{A:Array Value}(ρ:List (E×E))(j:(Go.Sy.sub e e).all (mO ρ)=true)(i:∀p∈ρ,p.1.den (nu Mu wst it tv o nw)=p.2.den (nu Mu a b c o' f))(h:Agree (nu Mu wst it tv o nw) e A):Agree (nu Mu a b c o' f) e A:=uK h j i
def rv:List (E×E):=[(.v 0,.v 0),(.v 1,.v 1),(.v 2,.v 2),(.v 3,.v 3),(.v 5,.v 5)]
theorem ahI{a b:Int}{e:Wd}:∀p∈rv,p.1.den (nu Mu wst it tv o nw)=p.2.den (nu Mu wst it a e b):=by
 intro p c;simp only[rv,List.mem_cons,List.not_mem_nil,or_false]at c;rcases c with rfl|rfl|rfl|rfl|rfl
 · exact jW.trans jW.symm
 · exact kD.trans kD.symm
 · exact yM.trans yM.symm
 · exact Bc.trans Bc.symm
 · exact IK.trans IK.symm
theorem aeV(L:ag)(a:Pl)(b c:Bool):(Go.Sy.sub (WZ L a b c).env (WZ L a b c).env).all (mO rv)=true:=by cases a<;>cases b<;>cases c<;>kernel_rfl
theorem aeW(T:Tab)(c:Pl)(a b:Bool):∃n,To L.mu.tIMutex 139 T n 0 (next (WZ L c a b) (some (.v 4))) (head L a b) ri:=by
 obtain⟨e,f,h⟩:=ahl L T a b
 cases c
 · exact⟨_,e⟩
 · exact⟨_,f⟩
 · exact⟨_,h⟩
theorem UT(L:ag):(some (kS L)).any (·.norace)=true:=by kernel_rfl
theorem Lc(H:fC P L):(P.funcs[(base L.mu.lockSlow).fn]?).any (·.norace)=true:=by
 show(P.funcs[L.mu.lockSlow]?).any (·.norace)=true
 rw[H.wo];exact UT L
variable(H:fC P L)(hB:B<63)
include H hB
theorem aeX{E:Nat->Goroutine->Prop}{c f:Bool}{it:Nat}(h:UR L Mu cs (.rd c f it) d g):EN P I tM Mu B (Nx (RL P L I Mu cs) E) (.rd c f it) d g:=by
 obtain⟨rfl,wst,o,j,A,y,C,rfl⟩:=h
 refine⟨rfl,rfl,rfl,fun e=>(by cases e),fun w m q T t D=>.inr ?_⟩;obtain⟨a,F,J,k,l⟩:=D
 have p:Agree (nu Mu wst it 0 m 0) (WZ L j c f).env A:=qR rv (aeV L j c f) ahI C
 obtain⟨x,M,i⟩:=BC (P:=P) (m:=false) (b:=base L.mu.lockSlow) (ds:=[]) (cs:=cs) (z:=some (.v 4)) H.lib.runUnderlying_t21 H.lib.sizeOf_t21 H.lib.isAgg_t21 (ahz L j c f) y p kb (Lc H) (ad:=mA Mu) kD (v:=(m.num:Int)) (fun u N=>by cases N;exact tJ.symm)
 refine⟨hd ⟨m,c,f,it⟩,m,q,x,w,#[],.rd,i w t.state,t,⟨rfl,fun _ _=>rfl,.rfl,rfl,rfl⟩,by simp,fun e=>(by cases e),ahH (NH _) ?_⟩;show af P false I X0 _ 1 x;have O:=kC H (Mu:=Mu) (wst:=wst) (it:=it) (tv:=0) (nw:=0) a (by omega:m.n<63)
 obtain⟨n,r⟩:=aeW (L:=L) (yG wst 0 m) j c f
 exact r.walk O jy kb M fun R s=>Tj H a (by omega) l k.1 s
theorem Ld{aw sv:Bool}{it:Nat}(hs:Small o)(hit:it<=4)(hb:Bh L cs (nu Mu wst it 0 o 0) (dsS L aw sv) g):af P false I X0 (UR L Mu cs (.rd aw sv (it+1))) 1 g:=by
 obtain⟨A,hz,ha,rfl⟩:=hb
 obtain⟨g',hb,hstep⟩:=abv (P:=P) (m:=false) (b:=base L.mu.lockSlow) (ds:=[]) (cs:=cs) (.tuple #[]) (z:=none) (fun u hu=>by cases hu) (ahA L aw sv) hz ha kb H.XQ (aeL L) (aeM L) (aeN L) (aeO L)
 refine .step rfl (fun _=>g') (fun _=>#[]) (fun w _=>⟨hstep w,by simp⟩) fun w _=>?_
 show af P false I X0 _ 1 g';have hT:=kC H (Mu:=Mu) (wst:=wst) (it:=it) (tv:=0) (nw:=0) hs.1 hs.2;refine(ahv L _ _ _ _ _ _ _ aw sv).walk (BF:=nu Mu wst ((it+1:Nat):Int) 0 o 0) hT (fun p hp=>?_) kb hb fun g'' hb'=>.stop ⟨rfl,wst,o,.b,hb'⟩;simp only[List.mem_cons,List.not_mem_nil,or_false]at hp;rcases hp with rfl|rfl|rfl|rfl
 · exact jW.trans jW.symm
 · exact kD.trans kD.symm
 · exact Bc.trans Bc.symm
 · refine(ajJ (Mu:=Mu)).trans ?_;rw[abE hit];exact IK.symm
theorem aeY{E:Nat->Goroutine->Prop}{T:Lo}(h:UR L Mu cs (.sq T) d g):EN P I tM Mu B (Nx (RL P L I Mu cs) E) (.sq T) d g:=by
 obtain⟨rfl,wst,A,hz,ha,rfl⟩:=h
 refine⟨rfl,rfl,rfl,fun e=>(by cases e),fun w m q hw hm hf=>.inr ?_⟩;obtain⟨gY,hnB,hq1,⟨⟨ob,on,osv,oaw,oit⟩,oL,oS⟩,_⟩:=hf
 obtain⟨old,aw,sv,it⟩:=T
 dsimp only at ha ob on osv oaw oit oL oS⊢;have hsm:Small old:=⟨ob,by omega⟩
 have hT:=kC H (Mu:=Mu) (wst:=wst) (it:=it) (tv:=0) (nw:=0) hsm.1 hsm.2;obtain⟨gt,hbt,hst⟩:=Dk (P:=P) (m:=false) (b:=base L.mu.lockSlow) (ds:=[]) (cs:=cs) (adx L aw sv) hz ha kb H.GG (SV L) (SX L) (SY L) (S9 L) (k:=.i64) (n:=(it:Int)) IK true
 obtain⟨gf,hbf,hsf⟩:=Dk (P:=P) (m:=false) (b:=base L.mu.lockSlow) (ds:=[]) (cs:=cs) (adx L aw sv) hz ha kb H.GG (SV L) (SX L) (SY L) (S9 L) (k:=.i64) (n:=(it:Int)) IK false
 by_cases h4:it<4/\w.spins=true
 · have hgo:=(hst w).1 (by omega) h4.2;by_cases hc:aw=false/\old.W=0/\old.n≠0
   ·refine⟨.c1 ⟨old,aw,sv,it⟩,m,q,gt,w.asked,#[],.sqc h4.1 hc,hgo,hm,yN,by simp,fun e=>(by cases e),?_⟩;obtain⟨rfl,hw0,hn0⟩:=hc
    rw[fQ (EX oL) (wC hw0) (wC oS),show(old.n==0)=false from by simpa using hn0]at hT;exact(ahr L _ _ _ sv).walk hT jy kb hbt fun g'' hb'=>.stop ⟨rfl,rfl,wst,hb'⟩
   ·refine⟨.rd aw sv (it+1),m,q,gt,w.asked,#[],.sqr h4.1 hc,hgo,hm,yN,by simp,fun e=>(by cases e),?_⟩;show af P false I X0 _ 1 gt;cases haw:aw with
    |true=>subst haw;rw[fQ (EX oL) rfl (wC oS)]at hT;exact(ahs L _ _ _ _ _ sv).walk hT jy kb hbt fun g'' hb'=>Ld H hB hsm oit hb'
    |false=>
     subst haw;by_cases hw0:old.W=0
     ·have hn0:old.n=0:=by apply Classical.byContradiction;intro hn;exact hc ⟨rfl,hw0,hn⟩
      rw[fQ (EX oL) (wC hw0) (wC oS),show(old.n==0)=true from by simpa using hn0]at hT;exact(ahu L _ _ _ sv).walk hT jy kb hbt fun g'' hb'=>Ld H hB hsm oit hb'
     ·have hw1:old.W=1:=by have:=ob.W;omega
      rw[fQ (EX oL) (EX hw1) (wC oS)]at hT;exact(aht L _ _ _ _ sv).walk hT jy kb hbt fun g'' hb'=>Ld H hB hsm oit hb'
 · have key:RL P L I Mu cs (.c2 ⟨old,aw,sv,it⟩) 1 gf:=by
    show af P false I X0 _ 1 gf;have hnw:qQ ⟨old,aw,sv,it⟩=⟨1,if aw then 0 else old.W,if sv=true then 1 else 0,old.n+1⟩:=by unfold qQ;rw[if_neg (by intro x;have:=x.1;dsimp only at this;omega)];simp[oL,oS]
    cases haw:aw with
    |false=>
     have hsv:sv=false:=by cases h:sv with|false=>rfl|true=>exact absurd (osv h) (by rw[haw];simp)
     subst haw hsv;rw[fQ (EX oL) rfl (wC oS)]at hT;refine(aho L _ _ _ _ _).walk hT (GN (nw':=((qQ ⟨old,false,false,it⟩).num:Nat)) ?_) kb hbf fun g' hb=>.stop ⟨rfl,wst,hb⟩;rw[ahi,NL hsm.1 hsm.2,hnw];simp[oS]
    |true=>
     have hw1:=(oaw haw).1;subst haw;rw[fQ (EX oL) (EX hw1) (wC oS)]at hT;cases hsv:sv with
     |false=>subst hsv;refine(ahp L _ _ _ _).walk hT (GN (nw':=((qQ ⟨old,true,false,it⟩).num:Nat)) ?_) kb hbf fun g' hb=>.stop ⟨rfl,wst,hb⟩;rw[ahg,aeS hsm.1 hsm.2,hnw];simp[oS]
     |true=>subst hsv;refine(ahq L _ _ _ _).walk hT (GN (nw':=((qQ ⟨old,true,true,it⟩).num:Nat)) ?_) kb hbf fun g' hb=>.stop ⟨rfl,wst,hb⟩;rw[ahh,aeT hsm.1 hsm.2,hnw];simp
   by_cases h4':it<4
   ·have hsp:w.spins=false:=by cases h:w.spins with|false=>rfl|true=>exact absurd ⟨h4',h⟩ h4
    exact⟨.c2 ⟨old,aw,sv,it⟩,m,q,gf,w.asked,#[],.sqn,(hsf w).1 (by omega) hsp,hm,yN,by simp,fun e=>(by cases e),key⟩
   ·exact⟨.c2 ⟨old,aw,sv,it⟩,m,q,gf,w,#[],.sqn,(hsf w).2 (by omega) rfl,hm,⟨rfl,fun _ _=>rfl,.rfl,rfl,rfl⟩,by simp,fun e=>(by cases e),key⟩
end
end Go.Mx
