import Derived.Conc.EventLaws
import Derived.Test.YtjgfemidkffdjaaGreatH11
import Derived.Test.YtjgfemidkffdjaaGreatH12
import Derived.Test.YtjgfemidkffdjaaGreatH13
set_option linter.all false
namespace Go.Am
open Go.Conc (born QuitsD G scase rcase)
open Go.Conc.Lib
open Go.Ren (grow gU aT aB Wk dY Idle af X0 XS XM Lv iP nT xg oV hearing oU yA iR M1 Anch)
section
variable{P:Program}{B E:Env}{O F D D':Nat->Prop}{h h':AH}{w w':World}{X:Event->Prop}{m:Bool}{base cs:List Frame}{I:World->Prop}{a a':aN}{f:Frame}{C hi:Nat}{b:Array Oper}{i:Nat}{o:Oper}{s p:AS}{pl:bI}{g:Goroutine}
theorem mJ.rely(S:mJ P B O D base s g w)(r:aB O D w w'):mJ P B O D base s g w':=⟨S.run,S.rel.rely r⟩
theorem vT.rely(A:vT P B C p b i f cs O D w)(r:aB O D w w'):vT P B C p b i f cs O D w':=⟨A.bound,A.fs,A.run,A.todo,A.sH,A.wanted,A.stk,A.rel.rely r⟩
structure Ii(P:Program)(s s':AS):Prop where
 run:s.fr.ret=false
 round:s.fr.round=none
 at_:∃b i l k o c x fn first cap a',s.fr.todo=.region b (i::l)::k/\b[i]?=some o/\Region.wanted o (yielded b s.fr.tmps)=true/\bC o=true/\o.op=.defer c/\c.callee=.value x/\ay s.fr.tmps x=.func fn first cap/\
   aA P {s.fr with defers:={target:=.fn fn cap,args:=first++c.args.map (ay s.fr.tmps)}::s.fr.defers} s.h undef=some a'/\s'=⟨a',s.cs,s.h⟩
theorem Kt[aO P]{m:Bool}(k:Ii P s p)(S:mJ P B O D base s g w):Wk P m I X D (fun F n w'=>∃E,B.Le E/\mJ P E F D base p n w') O g w:=by
 obtain⟨j,d,b,i,l,v,o,c,x,Z,first,y,a',z,H,J,L,M,N,Q,R,T⟩:=k
 refine(qG (c:=[]) (l:=[]) S j (.inr ⟨l,v,z⟩)).bind ?_;rintro r t u ⟨U,C,f,cs,q,rfl,A⟩;refine Wk.mk rfl fun e V _=>?_
 obtain⟨n,W,Y⟩:=(A.rely V).defer (m:=m) (base:=base) H J L M N Q d R;refine⟨n,e,#[],W,.none e,.stop ⟨U,q,?_⟩⟩;rw[Go.Ren.jS];subst T;exact Y
theorem Xh(c:f.mode=.run)(d:f.roundOf=none):f.at ⟨f.tmps,f.defers⟩ f.todo=f:=by
 obtain⟨k,e,j,defers,mode,kind,l⟩:=f
 dsimp only at c d;subst c d;rfl
theorem FB.RI(h:FB B a f)(c:a.round=none):f.roundOf=none:=by
 have:=h.round
 rw[c]at this;generalize f.roundOf=z at this
 cases this;rfl
structure Ku(P:Program)(fid:FuncId)(args:Array Value)(s s':AS):Prop where
 run:s.fr.ret=false
 round:s.fr.round=none
 at_:∃b i l k o as ats a',s.fr.todo=.region b (i::l)::k/\b[i]?=some o/\Region.wanted o (yielded b s.fr.tmps)=true/\bC o=true/\o.op=.call {callee:=.value (.func fid),args:=as,argTypes:=ats}/\as.map (ay s.fr.tmps)=args/\
   aA P s.fr s.h (.tuple #[])=some a'/\s'=⟨a',s.cs,s.h⟩
theorem Xi{as:Array Operand}{t:Array Value}{e:Operand->Value}(h:∀x∈as,VR B (ay t x) (e x)):AR (VR B) (as.map (ay t)) (as.map e):=by
 refine⟨by simp,fun j u v c d=>?_⟩;rw[Array.getElem?_map]at c d;cases k:as[j]? with
 | none=>rw[k]at c;cases c
 | some z=>rw[k]at c d;cases c;cases d;exact h z (Array.mem_of_getElem? k)
theorem uF{fid:FuncId}{as:Array Operand}{r:Array TypeId}(M:cu P fid=true)(A:vT P B C p b i f cs O D w)(j:p.fr.round=none)(t:b[i]?=some o)(N:Region.wanted o (yielded b p.fr.tmps)=true)(u:bC o=true)(l:o.op=.call {callee:=.value (.func fid),args:=as,argTypes:=r}):
   AR (VR B) (as.map (ay p.fr.tmps)) (as.map f.eval)/\∃v z,f=f.at ⟨f.tmps,f.defers⟩ (.inRegion b (i::v)::z)/\∀c,stepG P m (dZ f (cs++base)) c=.go (dZ (Frame.enter P fid (as.map f.eval) .normal) (f::(cs++base))) c #[]:=by
 obtain⟨v,z,J⟩:=A.todo
 have n:=A.wanted o t
 rw[N]at n;refine⟨Xi fun x Q=>A.sH o t u x (by rw[l];simp[Op.operands,Call.operands,Q]),v,z,?_,fun c=>?_⟩
 · have:=Xh A.run (A.fs.base.RI j)
   rw[J]at this;exact this.symm
 · rw[fU A.run J t n (fun q L=>by rw[l]at L;cases L)];have H:∀e,(execOp f.eval o).runT P c e=(.ok (.enter fid (as.map f.eval)) c,e++#[]):=by
    intro e;have:execOp f.eval o=callFunc fid ((#[]++as.map f.eval)++#[]):=by
     unfold execOp;rw[l];rfl
    rw[this,qF M];simp
   have:=zZ (cs:=cs++base) A.fs.base.ne (fun d x y k=>A.fs.xh d true x y k) H
   rw[this];rfl
theorem args1{as:Array Value}{d Wg:Nat}(j:B.to d=(Wg,0))(h:AR (VR B) #[.pointer (some ⟨d,0,none⟩)] as):as=#[.pointer (some ⟨Wg,0,none⟩)]:=by
 obtain⟨e,c⟩:=h
 have k:as.size=1:=by simpa using e.symm
 obtain⟨v,rfl⟩:∃v,as=#[v]:=by refine⟨as[0],?_⟩;apply Array.ext (by simp[k]);intro i e c;simp at c;subst c;rfl
 have:=c 0 _ v rfl rfl
 cases this with
 | ptr n=>simp[Env.addr,j]
theorem args2{as:Array Value}{d Wg:Nat}{k:IntKind}{n:Int}(j:B.to d=(Wg,0))(h:AR (VR B) #[.pointer (some ⟨d,0,none⟩),.int k n] as):as=#[.pointer (some ⟨Wg,0,none⟩),.int k n]:=by
 obtain⟨e,c⟩:=h
 have l:as.size=2:=by simpa using e.symm
 obtain⟨u,v,rfl⟩:∃u v,as=#[u,v]:=by
   refine⟨as[0],as[1],?_⟩;apply Array.ext (by simp[l]);intro i e c;simp at c;match i,c with
   |0,_=>rfl
   |1,_=>rfl
 have q:=c 0 _ u rfl rfl
 have r:=c 1 _ v rfl rfl
 cases q with
 | ptr x=>cases r;simp[Env.addr,j]
end
end Go.Am
namespace Go.Am
open Go.Conc (born QuitsD G scase rcase)
open Go.Conc.Lib
open Go.Ren (grow gU aT aB Wk dY Idle af X0 XS XM Lv iP nT xg oV hearing oU yA iR M1 Anch)
section
variable{P:Program}{p q:Env}{O r D D':Nat->Prop}{h h':AH}{w n:World}{X:Event->Prop}{m:Bool}{base cs:List Frame}{I:World->Prop}{a t:aN}{f:Frame}{lo u:Nat}{b:Array Oper}{i:Nat}{o:Oper}{s s₀:AS}{pl:bI}{g:Goroutine}
 {L:WgLink} {Wg Ch gb cb j:Nat} {R:AS->Prop}
theorem Xj[aO P]{Fin:(Nat->Prop)->(Nat->Prop)->Goroutine->World->Prop}(H:WgLib P L)(hp:cu P L.wait=true)(u:∃w,Lv L Wg w)
   (k:bJ P pl (fun M=>∃W,Ku P L.wait #[.pointer (some ⟨gb,0,none⟩)] M W/\R W) s) (S:mJ P p O D base s g w) (a0:p.born gb) (hg:p.to gb=(Wg,0))
   (b0:∀W q r g' n,R W->p.Le q->mJ P q r D base W g' n->Fin D r g' n):
   dY P true I (XM Wg) D (iR P L Wg Fin D) 0 O g w:=by
 have hW:Wk P true I X0 D (fun r g' n=>iR P L Wg Fin D 0 r g' n) O g w:=by
   refine(jk k S).bind ?_;rintro b1 b2 b3 ⟨q,M,⟨W,⟨a1,E,b,i,l,kk,o,as,b7,t,t1,t2,t3,t4,t5,t6,t7,t8⟩,hR⟩,Q,a2⟩;have U:q.to gb=(Wg,0):=(Q.to _ a0).trans hg;refine(qG (c:=[]) (l:=[]) a2 a1 (.inr ⟨l,kk,t1⟩)).bind ?_;rintro b4 b5 b6 ⟨τ,lo,f,cs,z,rfl,A⟩;have V:τ.to gb=(Wg,0):=(z.to _ (Q.born _ a0)).trans U;obtain⟨B,Y,Z,a3,a4⟩:=uF (m:=true) (base:=base) hp A E t2 t3 t4 t5
   rw[t6]at B;have F:=args1 V B
   rw[F]at a4;refine Wk.mk rfl fun N hr _=>⟨_,_,_,a4 N,.none N,?_⟩
   rw[Go.Ren.jS];have e0:=Go.Ren.Nl (P:=P) (m:=true) (X:=XS Wg) (L:=L) (Wg:=Wg) H u (b₀:=f) (a₀:=⟨f.tmps,f.defers⟩) (ops₀:=b) (i₀:=i) (rest₀:=Y) (k₀:=Z) (cs:=cs++base)
   have e1:=fun{g} (hA:Go.Ren.sG L Wg (f.at ⟨f.tmps,f.defers⟩ (.inRegion b (i::Y)::Z)) (cs++base) g)=>Go.Ren.Nk (P:=P) (m:=true) (X:=XS Wg) (L:=L) (Wg:=Wg) (T:=(· =G ((f.at ⟨f.tmps,f.defers⟩ (.inRegion b (i::Y)::Z)).finish (.tuple #[])) (cs++base))) H u (fun a ha=>⟨a,ha,.inr rfl⟩)
    (b₀:=f) (a₀:=⟨f.tmps,f.defers⟩) (ops₀:=b) (i₀:=i) (rest₀:=Y) (k₀:=Z) (cs:=cs++base) (by rw[Frame.finish_at]) (g:=g) hA
   have v:=Go.Ren.abf (P:=P) (L:=L) (Wg:=Wg) (gT:=G ((f.at ⟨f.tmps,f.defers⟩ (.inRegion b (i::Y)::Z)).finish (.tuple #[])) (cs++base)) (A:=Go.Ren.sG L Wg (f.at ⟨f.tmps,f.defers⟩ (.inRegion b (i::Y)::Z)) (cs++base)) (fun g hA=>e1 hA)
   rw[←a3]at e0 v;refine .stop ⟨G (f.finish (.tuple #[])) (cs++base),_,v,?_,fun n a9=>?_⟩
   ·refine(Idle.deaf (fun e=>Go.Ren.jJ) (fun e=>Go.Ren.Ci) 0 e0).bind fun d g ⟨e,hs⟩=>?_
    subst e;refine hs.deaf (fun w _=>Go.Ren.sJ (.inl rfl)) fun g' hg=>?_
    refine(Idle.deaf (fun e=>Go.Ren.jJ) (fun e=>Go.Ren.Ci) 1 hg).bind ?_;rintro d g ⟨rfl,hA⟩;exact v g hA
   ·subst t8;refine b0 _ τ _ _ n hR (Q.trans z) ?_;exact(A.rely hr|>.rely a9).finish (.refl τ) (fun x _ hx=>hx) (Nat.le_refl _) (.tuple rfl fun i x y hx=>by simp at hx) (A.rely hr|>.rely a9).rel t7
 refine(Go.Ren.Wk.deaf (fun e x=>x.elim) (fun e x=>x.elim) 0 hW).mono ?_;rintro d O g w ⟨rfl,h⟩;exact h
theorem Xk(c:FuncId){a t:Array Value}(h:AR (VR p) a t):F0 p {aN.enter P c a with dk:=true} (Frame.enter P c t .deferred):=by
 have k:=Bv (P:=P) c h
 exact⟨⟨k.fn,k.defers,k.mode,rfl,k.round⟩,k.tmps,k.todo⟩
end
end Go.Am
namespace Go.Am
open Go.Conc (born QuitsD G scase rcase)
open Go.Conc.Lib
open Go.ConcR (WgAt)
open Go.Ren (grow gU aT aB Wk dY Idle af X0 XS XM Lv iP nT xg oV hearing oU yA iR M1 Anch Spawns JY)
section
variable{P:Program}{ρ b:Env}{O O' D D':Nat->Prop}{h h':AH}{w w':World}{X:Event->Prop}{m:Bool}{base cs:List Frame}{I:World->Prop}{a a':aN}{f:Frame}{lo hi:Nat}{ops:Array Oper}{i:Nat}{o:Oper}{s s₀:AS}{pl:bI}{g:Goroutine}
 {L:WgLink} {Wg Ch gb cb j:Nat} {R:AS->Prop}
def Xl(P:Program)(Kv:Env)(base:List Frame)(Fin:AS->Prop):(Nat->Prop)->(Nat->Prop)->Goroutine->World->Prop:=fun D O g w=>∃b c,Fin c/\Kv.Le b/\mJ P b O D base c g w
structure xk(P:Program)(L:WgLink):Prop extends WgLib P L where
 add:cu P L.add=true
 done:cu P L.done=true
 wait:cu P L.wait=true
end
end Go.Am
namespace Go.Am
open Go.Conc (born QuitsD G scase rcase)
open Go.Conc.Lib
open Go.ConcR (WgAt)
open Go.Ren (grow gU aT aB Wk dY Idle af X0 XS XM Lv iP nT xg oV hearing oU yA iR M1 Anch Spawns JY At aH Keep full)
structure St(P:Program)(base:List Frame)(W U Z:Nat->Prop)(N:Nat)(ρ:Env)(s:AS)(g:Goroutine)(w:World)(m:Machine)(t:Trace):Prop where
 at_:At P W U Z N 0 g w m t
 Na:mJ P ρ (full Z w) (fun _=>False) base s g w
 lt:∀b,Z b->b<w.heap.size
section
variable{P:Program}{ρ r:Env}{W U Z:Nat->Prop}{N:Nat}{h h':AH}{w w':World}{mm:Bool}{base cs:List Frame}{a a':aN}{f:Frame}{u hi:Nat}{ops:Array Oper}{i:Nat}{o:Oper}{s p:AS}{pl:bI}{g:Goroutine}
 {L:WgLink} {Wg Ch gb cb j:Nat} {R:AS->Prop} {dU:Machine->Outcome->World->Trace->Prop} {m:Machine} {t:Trace}
theorem St.reach[aO P]{K:AS->Prop}(S:St P base W U Z N ρ s g w m t)(k:bJ P pl K s):
   aH P dU (fun m t=>∃(r:Env) (b:AS) (c:Goroutine) (w':World),K b/\ρ.Le r/\St P base W U Z N r b c w' m t/\Keep Z w w') m t:=by
 refine(Np S.lt k S.Na S.at_).mono ?_;rintro m t ⟨r,b,c,w',e,l,n,q,d⟩;exact⟨r,b,c,w',e,l,⟨q,n,d.lt S.lt⟩,d⟩
theorem St.agP[aO P]{c:List Nat}(S:St P base W U Z N ρ s g w m t)(b:s.fr.ret=false){l:List Nat}{k:List aV}(e:s.fr.todo=.region ops (i::l)::k):
   aH P dU (fun m t=>∃(r:Env) (u:Nat) (f:Frame) (cs:List Frame) (w':World),ρ.Le r/\vT P r u s ops i f cs (full Z w') (fun _=>False) w'/\At P W U Z N 0 (dZ f (cs++base)) w' m t/\Keep Z w w') m t:=by
 refine(Go.Ren.At.wk2 (qG (X:=X0) (I:=fun _=>True) (m:=true) (c:=[]) (l:=[]) S.Na b (.inr ⟨l,k,e⟩)) S.lt rfl S.at_).mono ?_;rintro m t ⟨y,w',d,⟨r,u,n,cs,q,rfl,v⟩,x⟩;exact⟨r,u,n,cs,w',q,v,d,x⟩
theorem mJ.at(S:mJ P ρ (full Z w) (fun _=>False) base s g w)(d:Nat):mJ P ρ (full Z w) (fun _=>False) base s g (w.at d):=S.rely ⟨Nat.le_refl _,fun _ _=>rfl,fun _ _=>rfl,.rfl,rfl,rfl⟩
theorem Kw{v v':Value}{obj:Obj}(A:vT P ρ u p ops i f cs (full Z w) (fun _=>False) w)(D:At P W U Z N 0 (dZ f (cs++base)) w m t)(E:∀b,Z b->b<w.heap.size)(M:ops[i]?=some o)(O:Region.wanted o (yielded ops p.fr.tmps)=true)(F:∀q,o.op≠.defer q)
   (l:∀c d,(execOp f.eval o).runT P (w.at c) d=(.ok (.value v') ((w.at c).alloc obj),d++#[])) (Q:p.h.look p.h.n=none) (T:aA P p.fr p.h.blank v=some a') (V:VR (ρ.add p.h.n (w.heap.size,0) False 0 0) v v'):
   aH P dU (fun m t=>ρ.Le (ρ.add p.h.n (w.heap.size,0) False 0 0)/\(ρ.add p.h.n (w.heap.size,0) False 0 0).born p.h.n/\(ρ.add p.h.n (w.heap.size,0) False 0 0).to p.h.n=(w.heap.size,0)/\
    St P base W (fun b=>U b∨b=w.heap.size) (fun b=>Z b∨b=w.heap.size) N (ρ.add p.h.n (w.heap.size,0) False 0 0) ⟨a',p.cs,p.h.blank⟩ (dZ (f.finish v') (cs++base)) (w.alloc obj) m t) m t:=by
 obtain⟨s',k',X⟩:=A.todo
 have y:=A.wanted o M
 rw[O]at y;have H:∀c,stepG P true (dZ f (cs++base)) (w.at c)=.go (dZ (f.finish v') (cs++base)) ((w.at c).alloc obj) #[]:=by
   intro c;rw[fU A.run X M y F];have:=lW (cs:=cs++base) A.fs.base.ne (l c)
   rw[this];rfl
 have z:¬ρ.born p.h.n:=fun k=>Nat.lt_irrefl _ (A.rel.fresh _ k)
 refine(D.fresh rfl H).mono ?_;intro m t B;refine⟨Env.jA z,.inl rfl,dA,B,?_,fun b k=>?_⟩
 · have e:full Z w=full (fun b=>Z b∨b=w.heap.size) (w.alloc obj):=by
    funext b;apply propext;unfold full;have J:(w.alloc obj).heap.size=w.heap.size+1:=by simp
    rw[J];constructor
    ·rintro⟨Y,C⟩;exact⟨by omega,fun h=>h.elim C (by omega)⟩
    ·rintro⟨Y,C⟩;have:b≠w.heap.size:=fun e=>C (.inr e)
     exact⟨by omega,fun h=>C (.inl h)⟩
   rw[←e];exact A.finish (Env.jA z) (fun x hx k=>k.resolve_left (by omega)) (Nat.le_succ _) V (A.rel.blank _ Q) T
 · have J:(w.alloc obj).heap.size=w.heap.size+1:=by simp
   rw[J];rcases k with k|rfl
   ·exact Nat.lt_succ_of_lt (E b k)
   ·exact Nat.lt_succ_self _
structure Nq(P:Program)(L:WgLink)(s s':AS):Prop where
 run:s.fr.ret=false
 at_:∃ops i l k o z a',s.fr.todo=.region ops (i::l)::k/\ops[i]?=some o/\Region.wanted o (yielded ops s.fr.tmps)=true/\o.op=.alloc L.tWg/\zeroOf P L.tWg=some z/\z.cells=#[.int .u64 0,.int .u32 0]/\
   s.h.look s.h.n=none/\aA P s.fr s.h.blank (.pointer (some ⟨s.h.n,0,none⟩))=some a'/\s'=⟨a',s.cs,s.h.blank⟩
theorem St.group[aO P]{O:AS}(S:St P base W U Z N ρ s g w m t)(k:Nq P L s O):
   aH P dU (fun m t=>∃(r:Env) (X:Goroutine) (w':World) (x:Nat),ρ.Le r/\St P base W (fun b=>U b∨b=x) (fun b=>Z b∨b=x) N r O X w' m t/\Keep Z w w'/\r.born s.h.n/\r.to s.h.n=(x,0)/\WgAt L.tWg x w' 0 0/\∀b,Z b->b≠x) m t:=by
 obtain⟨y,ops,i,l,k,o,z,a',Y,t2,t3,Q,t6,t7,D,E,F⟩:=k
 refine(S.agP (c:=[]) y Y).bind ?_;rintro m t ⟨r,u,f,cs,w',H,A,J,C⟩;have a0:¬r.born s.h.n:=fun B=>Nat.lt_irrefl _ (A.rel.fresh _ B)
 have M:VR (r.add s.h.n (w'.heap.size,0) False 0 0) (.pointer (some ⟨s.h.n,0,none⟩)) (.pointer (some ⟨w'.heap.size,0,none⟩)):=by
   have e:(Value.pointer (some ⟨w'.heap.size,0,none⟩))=.pointer (some ((r.add s.h.n (w'.heap.size,0) False 0 0).addr ⟨s.h.n,0,none⟩)):=by simp only[Env.addr,dA]
   rw[e];exact .ptr (.inl rfl)
 refine(Kw (v:=.pointer (some ⟨s.h.n,0,none⟩)) (v':=.pointer (some ⟨w'.heap.size,0,none⟩)) (obj:=.cells #[.int .u64 0,.int .u32 0] L.tWg (0,0)) A J (C.lt S.lt) t2 t3 (fun q T=>by rw[Q]at T;cases T) (fun V d=>?_) D E M).mono ?_
 · rw[←t7];exact yC Q t6 d
 · rintro m t ⟨h1,h2,h3,h4⟩;subst F;refine⟨_,_,_,w'.heap.size,H.trans h1,h4,C.trans ⟨fun b B=>?_,by simp,.rfl,rfl⟩,h2,h3,?_,fun b B=>?_⟩
   ·have:=C.lt S.lt b B
    simp only[World.alloc]
    rw[Array.getElem?_push,if_neg (by omega)]
   ·show(w'.heap.push _)[w'.heap.size]?=_
    simp[Go.ConcR.wgBlock]
   ·have:=C.lt S.lt b B
    omega
end
end Go.Am
namespace Go.Am
open Go.Conc (born QuitsD G scase rcase)
open Go.Conc.Lib
open Go.ConcR (WgAt)
open Go.Ren (grow gU aT aB Wk dY Idle af X0 XS XM Lv iP nT xg oV hearing oU yA iR M1 Anch Spawns JY At aH Keep full Own)
section
variable{P:Program}{c σ:Env}{O d D:Nat->Prop}{W U Z:Nat->Prop}{N:Nat}{h h':AH}{w w':World}{mm:Bool}{base cs:List Frame}{a a':aN}{f:Frame}{lo hi:Nat}{ops:Array Oper}{i:Nat}{o:Oper}{s s₀:AS}{pl:bI}{g:Goroutine}
 {L:WgLink} {wg ch gb cb j:Nat} {R:AS->Prop} {dU:Machine->Outcome->World->Trace->Prop} {m:Machine} {t:Trace}
theorem Rel.all(r:Rel c O D h w)(p:∀b,O b∨D b->d b):Rel c d (fun _=>False) h w:=by
 refine r.sub (Nat.le_refl _) (fun b B k=>⟨B,k,rfl,rfl,rfl,fun e=>⟨e,fun x=>p _ (.inl x)⟩,fun x=>.inl (p _ x)⟩) (fun b B k=>⟨B,k,rfl⟩) (fun f l n=>⟨l,n,List.Sublist.refl _⟩) fun f l b n k=>(r.mem f l n b k).2
theorem At.N1(h:At P W U Z N j g w m t):1<=N:=by
 obtain⟨k,l,e,n,rfl,b⟩:=h
 exact b.hN
end
end Go.Am
namespace Go.Ren
open Go.Conc hiding Goes mem_ofEvents Deaf
open Go.ConcN (WgLive)
open Go.Conc.Lib (WgLink)
open Go.ConcR (KK WgAt stA smA rd wr mk)
section
variable{P:Program}{m:Bool}{I:World->Prop}{X:Event->Prop}{D F O O':Nat->Prop}{d:Nat}{g:Goroutine}{w w' a:World}{L:WgLink}{Wg Ch n r i:Nat}
structure Fr(F D O:Nat->Prop)(a w:World):Prop where
 f:∀b,F b->b<w.heap.size/\¬O b
 d:∀b,D b->b<w.heap.size/\¬O b
 o:∀b,O b->b<w.heap.size
 keep:∀b,F b->w.heap[b]?=a.heap[b]?
 size:a.heap.size<=w.heap.size
 os:Tm a.os w.os
 output:w.output=a.output
theorem Fr.rely(h:Fr F D O a w)(r:aB (fun b=>O b∨F b) D w w'):Fr F D O a w':=
 ⟨fun b c=>⟨Nat.lt_of_lt_of_le (h.f b c).1 r.size,(h.f b c).2⟩,fun b c=>⟨Nat.lt_of_lt_of_le (h.d b c).1 r.size,(h.d b c).2⟩,fun b c=>Nat.lt_of_lt_of_le (h.o b c) r.size,fun b c=>(r.own b (.inr c)).trans (h.keep b c),Nat.le_trans h.size r.size,h.os.trans r.os,r.output.trans h.output⟩
theorem Fr.less(h:Fr F D O a w):∀{w₁},aB (fun b=>O b∨F b) D w w₁->aB O D w w₁:=fun r=>⟨r.size,fun b c=>r.own b (.inl c),r.ro,r.os,r.output,r.tape⟩
theorem Fr.guar{p:Array Event}(h:Fr F D O a w)(k:aT X O D w w' p):aT X (fun b=>O b∨F b) D w w' p/\Fr F D (grow O w w') a w':=by
 have l:∀b,b<w.heap.size/\¬O b->b<w'.heap.size/\¬grow O w w' b:=fun b j=>by
   have u:=k.size
   exact⟨by omega,fun x=>x.elim j.2 fun y=>by omega⟩
 refine⟨⟨k.size,fun c q s=>k.heap c q fun x=>s (.inl x),k.os,k.output,k.tape,fun e t=>(k.ev e t).mono (Nat.le_refl _) fun b j=>j.imp .inl id⟩,fun b j=>l b (h.f b j),fun b j=>l b (h.d b j),fun b j=>?_,fun b j=>?_,Nat.le_trans h.size k.size,h.os.trans (.of k.os),k.output.trans h.output⟩
 · rcases j with j|j
   ·exact Nat.lt_of_lt_of_le (h.o b j) k.size
   ·exact j.2
 · rw[k.heap b (h.f b j).1 (h.f b j).2];exact h.keep b j
theorem abg(O F:Nat->Prop)(w w':World):grow (fun b=>O b∨F b) w w'=fun b=>grow O w w' b∨F b:=by
 funext b;apply propext;unfold grow;constructor
 · rintro((x|x)|x)
   ·exact .inl (.inl x)
   ·exact .inr x
   ·exact .inl (.inr x)
 · rintro((x|x)|x)
   ·exact .inl (.inl x)
   ·exact .inr x
   ·exact .inl (.inr x)
theorem dY.frame{S:Nat->(Nat->Prop)->Goroutine->World->Prop}(h:dY P m I X D S d O g w):Fr F D O a w->
   dY P m I X D (fun d O' g' w'=>∃e,S d e g' w'/\(O'=fun b=>e b∨F b)/\Fr F D e a w') d (fun b=>O b∨F b) g w:=by
 induction h with
 | stop h=>intro j;exact .stop ⟨_,h,rfl,j⟩
 | @step d O g w q f u s h k t=>
   intro j;refine .step q f u s (fun c l o=>?_) fun c l o=>?_
   ·obtain⟨v,p⟩:=h c (j.less l) o
    exact⟨v,((j.rely l).guar p).1⟩
   ·obtain⟨_,p⟩:=h c (j.less l) o
    have:=t c (j.less l) o ((j.rely l).guar p).2;rw[abg];exact this
variable{Sent:Nat->(Nat->Prop)->(Nat->Prop)->Option Value->World->Prop}{Fin:(Nat->Prop)->(Nat->Prop)->Goroutine->World->Prop}{Nx Nx':(Nat->Prop)->(Nat->Prop)->Goroutine->World->Prop}
def Ij(F:Nat->Prop)(a:World)(Fin:(Nat->Prop)->(Nat->Prop)->Goroutine->World->Prop)(D O:Nat->Prop)(g:Goroutine)(w:World):Prop:=∃c,Fin D c g w/\(O=fun b=>c b∨F b)/\Fr F D c a w
end
end Go.Ren
namespace Go.Am
open Go.Conc (born QuitsD G scase rcase)
open Go.Conc.Lib
open Go.ConcR (WgAt)
open Go.Ren (grow gU aT aB Wk dY Idle af X0 XS XM Lv iP nT xg oV hearing oU yA iR M1 Anch Spawns JY At aH Keep full Own Fr Ij)
structure Sd(P:Program)(base:List Frame)(F:Nat->Prop)(w₀:World)(W U Z:Nat->Prop)(N:Nat)(ρ:Env)(s:AS)(g:Goroutine)(w:World)(m:Machine)(t:Trace):Prop where
 st:St P base W U Z N ρ s g w m t
 wu:∀b,W b∨U b->Z b
 fz:∀b,F b->Z b
 UC:∀b,F b->¬(W b∨U b)
 keep:Keep F w₀ w
structure Chn(F W Z:Nat->Prop)(ρ:Env)(w:World)(cb cap:Nat)(buf:List Value)(closed:Bool)(ch:Nat):Prop where
 nat:ρ.born cb
 to:ρ.to cb=(ch,0)
 heap:∃sn rc tm,w.heap[ch]?=some (.chan cap buf.toArray closed sn rc tm)
 z:Z ch
 f:¬F ch
 w:¬W ch
section
variable{P:Program}{ρ l:Env}{O O' D:Nat->Prop}{F W U Z Z':Nat->Prop}{N:Nat}{h h':AH}{w w' d:World}{mm:Bool}{base cs:List Frame}{a a':aN}{f:Frame}{lo hi:Nat}{ops:Array Oper}{i:Nat}{o:Oper}{s s' s₀:AS}{pl:bI}{g p:Goroutine}
 {L:WgLink} {q v gb cb j cap:Nat} {u:List Value} {cl:Bool} {R:AS->Prop} {r:Machine->Outcome->World->Trace->Prop} {m:Machine} {t:Trace}
theorem Chn.step(c:Chn F W Z ρ w cb cap u cl v)(k:ρ.Le l)(n:Keep Z w w')(x:∀b,Z b->Z' b):Chn F W Z' l w' cb cap u cl v:=
 ⟨k.born _ c.nat,(k.to _ c.nat).trans c.to,let⟨y,A,B,e⟩:=c.heap;⟨y,A,B,(n.1 v c.z).trans e⟩,x _ c.z,c.f,c.w⟩
theorem Sd.Ky(S:Sd P base F d W U Z N ρ s g w m t)(b:Keep Z w w'):Keep F d w':=S.keep.trans (b.mono S.fz)
theorem Sd.reach[aO P]{K:AS->Prop}(S:Sd P base F d W U Z N ρ s g w m t)(k:bJ P pl K s):
   aH P r (fun m t=>∃(l:Env) (s':AS) (p:Goroutine) (w':World),K s'/\ρ.Le l/\Sd P base F d W U Z N l s' p w' m t/\Keep Z w w') m t:=by
 refine(S.st.reach k).mono ?_;rintro m t ⟨l,s',p,w',c,e,n,b⟩;exact⟨l,s',p,w',c,e,⟨n,S.wu,S.fz,S.UC,S.Ky b⟩,b⟩
theorem Sd.group[aO P]{s':AS}(S:Sd P base F d W U Z N ρ s g w m t)(k:Nq P L s s'):
   aH P r (fun m t=>∃(l:Env) (p:Goroutine) (w':World) (q:Nat),ρ.Le l/\Sd P base F d W (fun b=>U b∨b=q) (fun b=>Z b∨b=q) N l s' p w' m t/\Keep Z w w'/\l.born s.h.n/\l.to s.h.n=(q,0)/\WgAt L.tWg q w' 0 0/\∀b,Z b->b≠q) m t:=by
 refine(S.st.group k).mono ?_;rintro m t ⟨l,p,w',q,z,A,x,B,C,E,y⟩;refine⟨l,p,w',q,z,⟨A,?_,fun b c=>.inl (S.fz b c),?_,S.Ky x⟩,x,B,C,E,y⟩
 · rintro b (c|c|c)
   ·exact .inl (S.wu b (.inl c))
   ·exact .inl (S.wu b (.inr c))
   ·exact .inr c
 · rintro b e (c|c|c)
   ·exact S.UC b e (.inl c)
   ·exact S.UC b e (.inr c)
   ·exact y b (S.fz b e) c
theorem RJ(k:∀b,F b->Z b)(c:∀b,Z b->b<w.heap.size):full (fun b=>Z b/\¬F b) w=fun b=>full Z w b∨F b:=by
 funext b;apply propext;unfold full;constructor
 · rintro⟨n,y⟩;by_cases e:F b
   ·exact .inr e
   ·exact .inl ⟨n,fun z=>y ⟨z,e⟩⟩
 · rintro(h|h)
   ·exact⟨h.1,fun x=>h.2 x.1⟩
   ·exact⟨c b (k b h),fun x=>x.2 h⟩
end
end Go.Am
namespace Go.Am
open Go.Conc (born QuitsD G scase rcase)
open Go.Conc.Lib
open Go.ConcR (WgAt)
open Go.Ren (grow gU aT aB Wk dY Idle af X0 XS XM Lv iP nT xg oV hearing oU yA iR M1 Anch Spawns JY At aH Keep full Own Fr Ij)
def opAt(s:AS):Option Oper:=
 match s.fr.ret,s.fr.todo with
 | false,.region a (i::_)::_=>match a[i]? with
   |some o=>if Region.wanted o (yielded a s.fr.tmps)&&bC o then some o else none
   |none=>none
 | _,_=>none
def Nr(P:Program)(s:AS)(h:AH)(v:Value):Option AS:=match aA P s.fr h v with
 | some a=>some ⟨a,s.cs,h⟩
 | none=>none
def Cj(P:Program)(L:WgLink)(s:AS):Option AS:=match opAt s with
 | some o=>match o.op with
   | .alloc t=>match zeroOf P t with
    |some z=>if t==L.tWg&&(s.h.look s.h.n).isNone&&jl 3 (.agg z.cells) (.agg #[.int .u64 0,.int .u32 0])then Nr P s s.h.blank (.pointer (some ⟨s.h.n,0,none⟩))else none
    |none=>none
   |_=>none
 | none=>none
def RN(P:Program)(a:FuncId)(args:Array Value)(s:AS):Option AS:=match opAt s with
 | some o=>match o.op with
   | .call c=>match c.callee with
    | .value (.func f)=>if f==a&&s.fr.round.isNone&&jl 3 (.tuple (c.args.map (ay s.fr.tmps))) (.tuple args)then Nr P s s.h (.tuple #[])else none
    |_=>none
   |_=>none
 | none=>none
def Cm(P:Program)(L:WgLink)(c:Nat)(a:aN):Bool:=
 a.ret&&a.dk&&a.round.isNone&&(match P.funcs[a.fn]? with|some d=>d.results.size==0|none=>false)&&match a.defers with
   | [⟨.fn (.func f) b,args⟩]=>f==L.done&&b.size==0&&jl 3 (.tuple args) (.tuple #[.pointer (some ⟨c,0,none⟩)])
   |_=>false
def Ik(P:Program)(L:WgLink)(b c:Nat)(a:aN):Bool:=match pJ c a with
 | some d=>Cm P L b d
 | none=>false
def Il(P:Program)(s:AS):Option AS:=match opAt s with
 | some o=>match o.op with
   | .defer c=>match c.callee with
    | .value x=>match ay s.fr.tmps x with
     | .func d first b=>if s.fr.round.isNone then match aA P {s.fr with defers:={target:=.fn d b,args:=first++c.args.map (ay s.fr.tmps)}::s.fr.defers} s.h undef with
       |some a=>some ⟨a,s.cs,s.h⟩
       |none=>none
      else none
     |_=>none
    |_=>none
   |_=>none
 | none=>none
section
variable{P:Program}{s g:AS}{o:Oper}{L:WgLink}{cap cb j nt nw ale:Nat}{pl:bI}{a d:aN}{v:Option Value}
theorem nN(h:opAt s=some o):s.fr.ret=false/\∃b i l k,s.fr.todo=.region b (i::l)::k/\b[i]?=some o/\Region.wanted o (yielded b s.fr.tmps)=true/\bC o=true:=by
 unfold opAt at h;split at h
 · rename_i b i l k e f;split at h
   ·rename_i n m;split at h
    ·rename_i c;cases h;rw[Bool.and_eq_true]at c;exact⟨e,b,i,l,k,f,m,c.1,c.2⟩
    ·cases h
   ·cases h
 · cases h
theorem qc{h:AH}{v:Value}(e:Nr P s h v=some g):∃d,aA P s.fr h v=some d/\g=⟨d,s.cs,h⟩:=by
 unfold Nr at e;split at e
 · rename_i a b;cases e;exact⟨a,b,rfl⟩
 · cases e
theorem xm{a b:Array Value}(h:jl 3 (.tuple a) (.tuple b)=true):a=b:=by
 have:=iT _ _ _ h
 cases this;rfl
theorem Xm{a b:Array Value}(h:jl 3 (.agg a) (.agg b)=true):a=b:=by
 have:=iT _ _ _ h
 cases this;rfl
theorem Kz(h:Cj P L s=some g):Nq P L s g:=by
 unfold Cj at h;split at h
 · rename_i o m;obtain⟨n,c,i,l,k,p,q,r,A⟩:=nN m
   split at h
   ·rename_i t e;split at h
    ·rename_i z u;split at h
     ·rename_i f;simp only[Bool.and_eq_true,beq_iff_eq,Option.isNone_iff_eq_none]at f;obtain⟨⟨rfl,w⟩,b⟩:=f
      obtain⟨d,x,y⟩:=qc h
      exact⟨n,c,i,l,k,o,z,d,p,q,r,e,u,Xm b,w,x,y⟩
     ·cases h
    ·cases h
   ·cases h
 · cases h
theorem CB{b:FuncId}{args:Array Value}(h:RN P b args s=some g):Ku P b args s g:=by
 unfold RN at h;split at h
 · rename_i o r;obtain⟨t,e,i,l,k,u,w,x,y⟩:=nN r
   split at h
   ·rename_i c m;split at h
    ·rename_i f p;split at h
     ·rename_i q;simp only[Bool.and_eq_true,beq_iff_eq,Option.isNone_iff_eq_none]at q;obtain⟨⟨rfl,z⟩,A⟩:=q
      obtain⟨d,B,C⟩:=qc h
      obtain⟨callee,as,n⟩:=c
      dsimp only at p;subst p;exact⟨t,z,e,i,l,k,o,as,n,d,u,w,x,y,m,xm A,B,C⟩
     ·cases h
    ·cases h
   ·cases h
 · cases h
theorem EO{j:Nat}(h:Cm P L j a=true):sF P L j a/\a.round=none:=by
 unfold Cm at h;simp only[Bool.and_eq_true,Option.isNone_iff_eq_none]at h;obtain⟨⟨⟨⟨i,k⟩,l⟩,c⟩,b⟩:=h
 refine⟨⟨i,k,?_,?_⟩,l⟩
 · split at c
   ·rename_i m e;exact⟨m,e,Array.eq_empty_of_size_eq_zero (by simpa using c)⟩
   ·cases c
 · split at b
   ·rename_i f cap args hd;simp only[Bool.and_eq_true,beq_iff_eq]at b;obtain⟨⟨rfl,n⟩,p⟩:=b
    rw[hd,xm p,Array.eq_empty_of_size_eq_zero n]
   ·cases b
theorem Io{j:Nat}(h:Ik P L j nt a=true):∃d,pJ nt a=some d/\sF P L j d/\d.round=none:=by
 unfold Ik at h;split at h
 · rename_i d b;obtain⟨c,e⟩:=EO h
   exact⟨d,b,c,e⟩
 · cases h
theorem Aa(h:Il P s=some g):Ii P s g:=by
 unfold Il at h;split at h
 · rename_i o f;obtain⟨m,b,i,l,k,n,p,q,r⟩:=nN f
   split at h
   ·rename_i c e;split at h
    ·rename_i x t;split at h
     ·rename_i u first cap w
      split at h
      ·rename_i y;split at h
       ·rename_i a z;cases h;exact⟨m,by simpa using y,b,i,l,k,o,c,x,u,first,cap,a,n,p,q,r,e,t,w,z,rfl⟩
       ·cases h
      ·cases h
     ·cases h
    ·cases h
   ·cases h
 · cases h
end
end Go.Am
namespace Go.Am
open Go.Conc (born QuitsD G scase rcase)
open Go.Conc.Lib
open Go.ConcR (WgAt)
open Go.Ren (grow gU aT aB Wk dY Idle af X0 XS XM Lv iP nT xg oV hearing oU yA iR M1 Anch Spawns JY At aH Keep full Own Fr Ij)
def gI(h:AH):List Nat->Tr cZ
 | []=>.nil
 | b::l=>match h.look b with
   |some B=>(gI h l).set b B
   |none=>gI h l
def Xn(t:Tr cZ)(f b:Nat):Bool:=match t.get b with
 | some B=>B.gB==some f
 | none=>false
def fV(h:AH)(t:Tr cZ):List Nat->Tr (List Nat)
 | []=>.nil
 | b::l=>match h.look b with
   |some B=>match B.gB with
    |some f=>match h.dn.get f with
     |some bl=>(fV h t l).set f (bl.filter (Xn t f))
     |none=>fV h t l
    |none=>fV h t l
   |none=>fV h t l
def AH.forget(l:List Nat)(h:AH):AH:=⟨h.n,gI h l,fV h (gI h l) l⟩
theorem jm{h:AH}:∀(l:List Nat) {b:Nat} {B:cZ},(gI h l).get b=some B->h.look b=some B
 | [],b,B,e=>by cases e
 | c::l,b,B,e=>by
   unfold gI at e;split at e
   ·rename_i C a;rw[Tr.dW]at e;split at e
    ·rename_i d;subst d;cases e;exact a
    ·exact jm l e
   ·exact jm l e
theorem gJ{h:AH}{t:Tr cZ}:∀(l:List Nat) {f:Nat} {m:List Nat},(fV h t l).get f=some m->∃bl,h.dn.get f=some bl/\m=bl.filter (Xn t f)
 | [],f,m,e=>by cases e
 | c::l,f,m,e=>by
   unfold fV at e;split at e
   ·split at e
    ·split at e
     ·rename_i bl a;rw[Tr.dW]at e;split at e
      ·rename_i b;subst b;cases e;exact⟨bl,a,rfl⟩
      ·exact gJ l e
     ·exact gJ l e
    ·exact gJ l e
   ·exact gJ l e
section
variable{P:Program}{p σ:Env}{O O' D:Nat->Prop}{F W U Z Z':Nat->Prop}{N:Nat}{h h':AH}{w w' d:World}{mm:Bool}{base cs:List Frame}{a a':aN}{f:Frame}{v hi:Nat}{q:Array Oper}{i:Nat}{o:Oper}{s s' s₀:AS}{pl:bI}{g g':Goroutine}
 {L:WgLink} {wg ch gb cb j cap:Nat} {buf:List Value} {cl:Bool} {R:AS->Prop} {dU:Machine->Outcome->World->Trace->Prop} {m:Machine} {t:Trace}
theorem KA{l:List Nat}{b:Nat}{B:cZ}(e:(h.forget l).look b=some B):h.look b=some B:=jm l (gy e)
theorem Rel.forget(l:List Nat)(r:Rel p O D h w):Rel p O D (h.forget l) w:=by
 refine r.sub (Nat.le_refl _) (fun b B e=>⟨B,KA e,rfl,rfl,rfl,fun x=>⟨x,id⟩,id⟩) (fun b B e=>⟨B,gy (jm l e),rfl⟩) (fun f m e=>?_) fun f m b e k=>?_
 · obtain⟨bl,c,rfl⟩:=gJ l e
   exact⟨bl,c,List.filter_sublist⟩
 · obtain⟨bl,c,rfl⟩:=gJ l e
   have:=(List.mem_filter.1 k).2;unfold Xn at this;split at this
   ·rename_i B n;exact⟨B,n,by simpa using this⟩
   ·cases this
def aP(a:aN):Bool:=match a.todo with
 | .drawn ..::_=>false
 | _=>true
theorem mJ.forget{D:Nat->Prop}(l:List Nat)(S:mJ P p O D base s g w)(hd:aP s.fr=true):mJ P p O D base ⟨s.fr,s.cs,s.h.forget l⟩ g w:=by
 obtain⟨⟨v,f,cs,c,n,r,u⟩,b⟩:=S
 refine⟨⟨v,f,cs,c,n,.plain (r.f0 fun q l k e=>?_),u⟩,b.forget l⟩;unfold aP at hd;rw[e]at hd;cases hd
theorem Sd.forget(l:List Nat)(S:Sd P base F d W U Z N p s g w m t)(hd:aP s.fr=true):Sd P base F d W U Z N p ⟨s.fr,s.cs,s.h.forget l⟩ g w m t:=
 ⟨⟨S.st.at_,S.st.Na.forget l hd,S.st.lt⟩,S.wu,S.fz,S.UC,S.keep⟩
def Xo(a b:MapEntry):Bool:=jl 9 a.key b.key&&jl 9 a.val b.val&&a.born==b.born
def Bz:List MapEntry->List MapEntry->Bool
 | [],[]=>true
 | a::l,b::m=>Xo a b&&Bz l m
 | _,_=>false
def Ip:Obj->Obj->Bool
 | .cells c e f,.cells l n r=>jl 9 (.agg c) (.agg l)&&e==n&&f==r
 | .map u k,.map b x=>Bz u.toList b.toList&&k==x
 | _,_=>false
def Iq:Option cZ->Option cZ->Bool
 | none,none=>true
 | some A,some B=>Ip A.obj B.obj&&A.gB==B.gB&&A.ro==B.ro&&A.u==B.u
 | _,_=>false
def agree(h h':AH):List Nat->Bool
 | []=>h.n==h'.n
 | b::l=>Iq (h.look b) (h'.look b)&&(match h.look b with
   |some B=>match B.gB with
    |some f=>h.dn.get f==h'.dn.get f
    |none=>true
   |none=>true)&&agree h h' l
theorem CE:∀{l m:List MapEntry},Bz l m=true->l=m
 | [],[],_=>rfl
 | a::l,b::m,h=>by
   unfold Bz at h;rw[Bool.and_eq_true]at h;obtain⟨c,r⟩:=h
   unfold Xo at c;simp only[Bool.and_eq_true,beq_iff_eq]at c;obtain⟨⟨u,x⟩,e⟩:=c
   obtain⟨y,z,ab⟩:=a
   obtain⟨bk,A,B⟩:=b
   rw[CE r];have k:=iT _ _ _ u
   have n:=iT _ _ _ x
   dsimp only at k n e;subst k n e;rfl
 | [],_::_,h=>by cases h
 | _::_,[],h=>by cases h
theorem Gs{a b:Obj}(h:Ip a b=true):a=b:=by
 unfold Ip at h;split at h
 · simp only[Bool.and_eq_true,beq_iff_eq]at h;obtain⟨⟨c,rfl⟩,rfl⟩:=h
   have:=iT _ _ _ c
   cases this;rfl
 · simp only[Bool.and_eq_true,beq_iff_eq]at h;obtain⟨c,rfl⟩:=h
   rw[Array.ext' (CE c)]
 · cases h
theorem CG{a b:Option cZ}(h:Iq a b=true):a=b:=by
 unfold Iq at h;split at h
 · rfl
 · rename_i A B;simp only[Bool.and_eq_true,beq_iff_eq]at h;obtain⟨⟨⟨l,c⟩,e⟩,k⟩:=h
   obtain⟨n,r,u,x⟩:=A
   obtain⟨y,z,C,E⟩:=B
   have:=Gs l
   dsimp only at this c e k;subst this c e k;rfl
 · cases h
theorem BA:∀{l:List Nat},agree h h' l=true->h.n=h'.n
 | [],e=>by unfold agree at e;simpa using e
 | b::l,e=>by unfold agree at e;simp only[Bool.and_eq_true]at e;exact BA e.2
theorem KC:∀{l:List Nat},agree h h' l=true->gI h l=gI h' l
 | [],e=>rfl
 | b::l,e=>by
   unfold agree at e;simp only[Bool.and_eq_true]at e;unfold gI;rw[CG e.1.1,KC e.2]
theorem qH{t:Tr cZ}:∀{l:List Nat},agree h h' l=true->fV h t l=fV h' t l
 | [],e=>rfl
 | b::l,e=>by
   unfold agree at e;simp only[Bool.and_eq_true]at e;obtain⟨⟨n,c⟩,k⟩:=e
   have r:=CG n
   unfold fV;rw[←r];cases u:h.look b with
   |none=>exact qH k
   |some B=>
    rw[u]at c;dsimp only at c⊢;cases x:B.gB with
    |none=>exact qH k
    |some f=>rw[x]at c;dsimp only at c⊢;rw[beq_iff_eq]at c;rw[c,qH k]
theorem xq{l:List Nat}(e:agree h h' l=true):h.forget l=h'.forget l:=by
 unfold AH.forget;rw[BA e,KC e,qH e]
end
end Go.Am
namespace Go.Am
open Go.Conc (born QuitsD G scase rcase)
open Go.Conc.Lib
open Go.ConcR (WgAt)
open Go.Ren (grow gU aT aB Wk dY Idle af X0 XS XM Lv iP nT xg oV hearing oU yA iR M1 Anch Spawns JY At aH Keep full Own Fr Ij)
inductive Ph where
 | idle
 | chan (cb cap:Nat)
 | ready (cb cap gb:Nat)
 | joined (cb cap:Nat) (vs:List Value)
 | closed (cb cap:Nat) (vs:List Value)
def merge(P:Program)(c:aN)(cs:List aN)(l:List Nat):List (Value×AH)->Option AS
 | []=>none
 | (v,h)::r=>match aA P c h v with
   |some a=>if aP a&&aP c&&r.all (fun x=>jl 9 x.1 v&&agree h x.2 l)then some ⟨a,cs,h.forget l⟩else none
   |none=>none
section
variable{P:Program}{ρ B:Env}{O O' D:Nat->Prop}{F W U Z Z':Nat->Prop}{N:Nat}{h h':AH}{w w' d:World}{mm:Bool}{base cs:List Frame}{a a':aN}{f:Frame}{lo hi:Nat}{ops:Array Oper}{i:Nat}{o:Oper}{s s' s₀:AS}{pl:bI}{g g':Goroutine}
 {L:WgLink} {u p gb q j cap:Nat} {n:List Value} {cl:Bool} {R:AS->Prop} {z:Machine->Outcome->World->Trace->Prop} {m:Machine} {t:Trace} {c:aN} {A:List aN}
def Ph.Holds(L:WgLink)(F W U Z:Nat->Prop)(ρ:Env)(w:World):Ph->Prop
 | .idle=>True
 | .chan q cap=>∃p,U p/\Chn F W Z ρ w q cap [] false p
 | .ready q cap gb=>∃p u,U p/\U u/\u≠p/\Z u/\ρ.born gb/\ρ.to gb=(u,0)/\WgAt L.tWg u w 0 0/\Chn F W Z ρ w q cap [] false p
 | .joined q cap vs=>(U=fun _=>False)/\∃p n,n.Perm vs/\Chn F W Z ρ w q cap n false p
 | .closed q cap vs=>(U=fun _=>False)/\∃p n,n.Perm vs/\Chn F W Z ρ w q cap n true p
theorem Ph.Holds.step{ph:Ph}(k:ph.Holds L F W U Z ρ w)(e:ρ.Le B)(x:Keep Z w w'):ph.Holds L F W U Z B w':=by
 cases ph with
 | idle=>trivial
 | chan q cap=>obtain⟨p,l,r⟩:=k;exact⟨p,l,r.step e x fun b v=>v⟩
 | ready q cap gb=>
   obtain⟨p,u,l,r,J,E,H,M,Q,T⟩:=k
   exact⟨p,u,l,r,J,E,e.born _ H,(e.to _ H).trans M,(x.1 u E).trans Q,T.step e x fun b v=>v⟩
 | joined q cap vs=>obtain⟨h0,p,n,l,r⟩:=k;exact⟨h0,p,n,l,r.step e x fun b v=>v⟩
 | closed q cap vs=>obtain⟨h0,p,n,l,r⟩:=k;exact⟨h0,p,n,l,r.step e x fun b v=>v⟩
def bK(P:Program)(L:WgLink)(base:List Frame)(F:Nat->Prop)(d:World)(ph:Ph)(s:AS)(m:Machine)(t:Trace):Prop:=
 ∃(W U Z:Nat->Prop) (N:Nat) (ρ:Env) (g:Goroutine) (w:World),Sd P base F d W U Z N ρ s g w m t/\ph.Holds L F W U Z ρ w
theorem bK.reach[aO P]{ph:Ph}(S:bK P L base F d ph s m t)(k:bJ P pl (· =s') s):aH P z (bK P L base F d ph s') m t:=by
 obtain⟨W,U,Z,N,ρ,g,w,S,e⟩:=S
 refine(S.reach k).mono ?_;rintro m t ⟨B,b,g',w',rfl,l,r,v⟩;exact⟨W,U,Z,N,B,g',w',r,e.step l v⟩
theorem bK.forget(l:List Nat){ph:Ph}(S:bK P L base F d ph s m t)(hd:aP s.fr=true):bK P L base F d ph ⟨s.fr,s.cs,s.h.forget l⟩ m t:=by
 obtain⟨W,U,Z,N,ρ,g,w,S,b⟩:=S
 exact⟨W,U,Z,N,ρ,g,w,S.forget l hd,b⟩
theorem EP{h h':AH}{v:Value}(hd:aP c=true):aA P c h v=aA P c h' v:=by
 unfold aP at hd;unfold aA;split at hd
 · cases hd
 · rename_i b;split<;>first|rfl|skip
   rename_i e;exact absurd e (b _ _ _)
theorem CJ{l:List Nat}{r:List (Value×AH)}(e:merge P c A l r=some s'):∀x∈r,∃a,aA P c x.2 x.1=some a/\aP a=true/\s'=⟨a,A,x.2.forget l⟩:=by
 cases r with
 | nil=>cases e
 | cons y r=>
   obtain⟨v,h⟩:=y
   unfold merge at e;dsimp only at e;split at e
   ·rename_i a k;split at e
    ·rename_i C;cases e;simp only[Bool.and_eq_true,List.all_eq_true]at C;obtain⟨⟨E,H⟩,J⟩:=C
     intro x b;rcases List.mem_cons.1 b with rfl|b
     ·exact⟨a,k,E,rfl⟩
     ·obtain⟨M,Q⟩:=J x b
      have T:=iT _ _ _ M
      refine⟨a,?_,E,?_⟩
      ·rw[T,EP (h':=h) H];exact k
      ·rw[xq Q]
    ·cases e
   ·cases e
def Back(P:Program)(b:Frame)(e:List Frame)(F:Nat->Prop)(d:World)(v:Value)(m:Machine)(t:Trace):Prop:=
 ∃(W U Z:Nat->Prop) (N:Nat) (w:World),At P W U Z N 0 (dZ (b.finish v) e) w m t/\(∀x,W x∨U x->Z x)/\(∀x,F x->Z x)/\(∀x,F x->¬(W x∨U x))/\Keep F d w/\∀x,Z x->x<w.heap.size
end
end Go.Am
namespace Go.Am
open Go.Conc (born QuitsD G scase rcase)
open Go.Conc.Lib
open Go.ConcR (WgAt)
open Go.Ren (grow gU aT aB Wk dY Idle af X0 XS XM Lv iP nT xg oV hearing oU yA iR M1 Anch Spawns JY At aH Keep full Own Fr Ij)
section
variable{P:Program}{ρ σ:Env}{O O' D:Nat->Prop}{F W U Z Z':Nat->Prop}{N:Nat}{h h':AH}{w w' w₀:World}{mm:Bool}{base cs:List Frame}{a a':aN}{f:Frame}{lo hi:Nat}{ops:Array Oper}{i:Nat}{o:Oper}{s s' s₀:AS}{pl:bI}{g g':Goroutine}
 {L:WgLink} {wg ch gb cb j cap:Nat} {buf:List Value} {cl:Bool} {R:AS->Prop} {dU:Machine->Outcome->World->Trace->Prop} {m:Machine} {t:Trace} {c:aN} {cs':List aN} {b:FuncId} {v:Value}
theorem Ns(O D:Nat->Prop)(base:List Frame)(w:World):mJ P vO O D base ⟨aN.enter P b #[],[],h0⟩ (dZ (Frame.enter P b #[] .normal) base) w:=
 ⟨⟨0,_,[],Nat.le_refl _,rfl,.plain (Bv b ⟨rfl,fun i u v d e=>by simp at d⟩),.nil⟩,aen _ _ _⟩
end
end Go.Am
namespace Go.Am
noncomputable section
def nth{a:Type}:List a->Nat->Option a:=fun l=>List.rec (fun _=>none) (fun x _ b n=>Nat.rec (some x) (fun n _=>b n) n) l
def rep(v:Value)(n:Nat):List Value:=Nat.rec [] (fun _ a=>v::a) n
def app(l m:List Value):List Value:=List.rec m (fun x _ a=>x::a) l
structure Ctx where
 fn:FuncId
 defers:List Deferred
 round:Option Nat
 dk:Bool
 cs:List aN
def mk(a:List aV)(c:Ctx)(tmps:List Value)(h:AH):AS:=⟨⟨c.fn,⟨tmps⟩,a,c.defers,false,c.round,c.dk⟩,c.cs,h⟩
abbrev K:=Ctx->List Value->AH->Option AS
def kGo(a:List aV):K:=fun c b h=>some (mk a c b h)
def RP:K:=fun _ _ _=>none
def Xp(P:Program)(f:FuncId)(args:List Value)(d:Func)(c:Ctx)(a:List aV)(b:List Value)(h:AH):Option AS:=
 some ⟨⟨f,⟨app args (rep undef (d.ntmps-args.length))⟩,[.code (d.body.getD (.refuse "unsupported: a function without a Go body is entered"))],[],false,none,false⟩,⟨c.fn,⟨b⟩,a,c.defers,false,c.round,c.dk⟩::c.cs,h⟩
def Ir(P:Program)(f:FuncId)(args:Array Value)(c:Ctx)(a:List aV)(b:List Value)(h:AH):Option AS:=
 Option.rec none (fun d=>Xp P f args.toList d c a b h) P.funcs[f]?
def Xq(a b:K)(x:Operand):K:=fun c d h=>match x with
 | .tmp t=>match nth d t with
   |some (.bool v)=>Bool.rec (b c d h) (a c d h) v
   |_=>none
 | _=>none
def RQ(P:Program)(a:bI)(s:AS)(b:AS->Option yD):Option yD:=match aI P a none s with
 | some (.go s)=>b s
 | r=>r
end
end Go.Am
namespace Go.Am
section
variable{P:Program}{h b:AH}
theorem abh{d j:Type}(s:Sem d)(f:d->Sem j):∀(h:AH) {x:d} {b:AH},s.ar P none h=some (x,b)->(s.bind f).ar P none h=(f x).ar P none b:=by
 induction s with
 | pure a=>intro h x b e;cases e;rfl
 | load m a k c=>
   intro h x b e;simp only[Sem.bind]
   rw[Sem.ar.eq_def]at e;conv=>lhs;rw[Sem.ar.eq_def]
   dsimp only at e⊢;generalize h.cell a=q at e⊢;cases q with
   |none=>cases e
   |some v=>
    cases m with
    |plain=>exact c v _ e
    |atomic=>cases e
 | store m a v k c=>
   intro h x b e;cases v<;>cases m<;>simp only[Sem.bind,Sem.ar]at e⊢<;>first|(cases e;done)|skip
   all_goals
    split at e
    ·exact c _ e
    ·cases e
 | new o k c=>intro h x b e;simp only[Sem.bind,Sem.ar]at e⊢;split at e<;>first|(cases e;done)|exact c _ _ e
 | shape r k c=>intro h x b e;simp only[Sem.bind,Sem.ar]at e⊢;split at e<;>first|(cases e;done)|exact c _ _ e
 | getObj r k c=>intro h x b e;simp only[Sem.bind,Sem.ar]at e⊢;split at e<;>first|(cases e;done)|exact c _ _ e
 | setObj r o k c=>
   intro h x b e;simp only[Sem.bind,Sem.ar]at e⊢;split at e
   ·cases e
   ·cases e
   ·rename_i B _ l i;split at e
    ·cases e
    ·rename_i g;rw[if_neg g];exact c _ e
   ·cases e
 | choose q k c=>
   intro h x b e;rw[Sem.ar.eq_def]at e;simp only[Sem.bind]
   conv=>lhs;rw[Sem.ar.eq_def]
   dsimp only at e⊢;split at e
   ·rename_i i;rw[if_pos i];exact c _ _ e
   ·cases q<;>cases e
 | program k c=>intro h x b e;simp only[Sem.bind,Sem.ar]at e⊢;exact c _ _ e
 | _=>intro h x b e;cases e
theorem mM{a c:Type}{s:Sem a}{f:a->Sem c}{x:a}(e:s.ar P none h=some (x,b)):(s>>=f).ar P none h=(f x).ar P none b:=abh s f h e
theorem Xr{c:Type}(a:c):(pure a:Sem c).ar P none h=some (a,h):=rfl
theorem RS{t:TypeId}{d:TypeInfo}(e:P.info? t=some d):(typeInfo t).ar P none h=some (d,h):=by
 show(match P.info? t with|some d=>_|none=>_:Sem TypeInfo).ar P none h=_
 rw[e];rfl
theorem abj{t:TypeId}{d:TypeInfo}(e:P.info? t=some d):(sizeOf t).ar P none h=some (d.size,h):=by
 unfold sizeOf;rw[mM (RS e)];rfl
theorem abk{t:TypeId}{z:Value}(e:zeroOf P t=some z):(zeroValue t).ar P none h=some (z,h):=by
 unfold zeroOf at e;cases a:P.info? t with
 | none=>rw[a]at e;cases e
 | some i=>
   rw[a]at e;have c:i.zero=some z:=e
   unfold zeroValue;rw[mM (RS a),c];rfl
theorem abl{d g:Type}(s:Sem d)(f:d->Sem g):∀{x:d},s.fJ P h=some x->(s.bind f).fJ P h=(f x).fJ P h:=by
 induction s with
 | pure a=>intro x e;cases e;rfl
 | load m a k c=>
   intro x e;simp only[Sem.bind]
   rw[Sem.fJ.eq_def]at e;conv=>lhs;rw[Sem.fJ.eq_def]
   dsimp only at e⊢;generalize h.cell a=q at e⊢;cases q with
   |none=>cases e
   |some v=>
    cases m with
    |plain=>exact c v e
    |atomic=>cases e
 | shape r k c=>intro x e;simp only[Sem.bind,Sem.fJ]at e⊢;split at e<;>first|(cases e;done)|exact c _ e
 | getObj r k c=>intro x e;simp only[Sem.bind,Sem.fJ]at e⊢;split at e<;>first|(cases e;done)|exact c _ e
 | choose q k c=>
   intro x e;simp only[Sem.bind,Sem.fJ]at e⊢;split at e
   ·rename_i i;rw[if_pos i];exact c _ e
   ·cases e
 | program k c=>intro x e;simp only[Sem.bind,Sem.fJ]at e⊢;exact c _ e
 | _=>intro x e;cases e
theorem aC{a c:Type}{s:Sem a}{f:a->Sem c}{x:a}(e:s.fJ P h=some x):(s>>=f).fJ P h=(f x).fJ P h:=abl s f e
theorem iZ{c:Type}(a:c):(pure a:Sem c).fJ P h=some a:=rfl
theorem eu{t:TypeId}{d:TypeDesc}(e:P.underlying t=some d):(underlying t).fJ P h=some d:=by
 show(match P.underlying t with|some d=>_|none=>_:Sem TypeDesc).fJ P h=_
 rw[e];rfl
theorem RV{t:TypeId}{d:TypeInfo}(e:P.info? t=some d):(typeInfo t).fJ P h=some d:=by
 show(match P.info? t with|some d=>_|none=>_:Sem TypeInfo).fJ P h=_
 rw[e];rfl
theorem qI{t:TypeId}{d:TypeInfo}(e:P.info? t=some d):(sizeOf t).fJ P h=some d.size:=by
 unfold sizeOf;rw[aC (RV e)];rfl
theorem abm{t:TypeId}{z:Value}(e:zeroOf P t=some z):(zeroValue t).fJ P h=some z:=by
 unfold zeroOf at e;cases a:P.info? t with
 | none=>rw[a]at e;cases e
 | some i=>
   rw[a]at e;have c:i.zero=some z:=e
   unfold zeroValue;rw[aC (RV a),c];rfl
end
end Go.Am
namespace Go.Am
structure TI where
 size:Nat
 und:TypeDesc
 zero:Option Value
 places:List (Nat×Nat)
noncomputable section
def Xt(T:Tr TI)(h:AH)(t:Nat):Option (Value×AH):=match T.get t with
 | some ⟨_,_,some z,_⟩=>some (.pointer (some ⟨h.n,0,none⟩),h.new (.cells z.cells t (0,0)))
 | _=>none
def agQ(h:AH)(t:Nat)(x:Option Value):Option (Value×AH):=match x with
 | some v=>some (.pointer (some ⟨h.n,0,none⟩),h.new (.cells v.cells t (0,0)))
 | none=>none
def vk(tmps:List Value)(x:Operand):Option Value:=match x with
 | .tmp t=>nth tmps t
 | .const v=>bif iQ 9 v then some v else none
 | .func f=>some (.func (.func f) #[] #[])
 | .global _=>none
def yE(d:TypeDesc):Bool:=match d with
 | .struct _|.array _ _=>true
 | _=>false
def RX:Nat->List Value->Option (List Value):=fun n=>Nat.rec (fun _=>some []) (fun _ a l=>match l with
 | x::l=>match a l with
   |some m=>some (x::m)
   |none=>none
 | []=>none) n
def Xu:Nat->List Value->List Value:=fun n=>Nat.rec (fun l=>l) (fun _ a l=>a l.tail) n
def RY(a:List Value)(h:AH)(x:Operand):Option Value:=match vk a x with
 | some v=>some v
 | none=>none
def Xv(T:Tr TI)(h:AH)(s f:Nat)(v:Option Value):Option Value:=match v with
 | some (.pointer (some a))=>match T.get s with
   |some ⟨_,.struct fields,_,_⟩=>match nth fields.toList f with
    |some b=>match T.get b.type with
     |some ⟨c,_,_,_⟩=>bif Nat.beq c 0 then none else some (.pointer (some (a.add b.offset)))
     |none=>none
    |none=>none
   |_=>none
 | _=>none
def RZ(h:AH)(a:Addr):Option Value:=match a,h.look a.block with
 | ⟨_,b,none⟩,some ⟨.cells c _ _,_,_,_⟩=>nth c.toList b
 | _,_=>none
def aeo(h:AH)(a:Addr)(n:Nat):Option Value:=match a,h.look a.block with
 | ⟨_,b,none⟩,some ⟨.cells c _ _,_,_,_⟩=>match RX n (Xu b c.toList)with
   |some l=>some (.agg ⟨l⟩)
   |none=>none
 | _,_=>none
def adh(T:Tr TI)(h:AH)(t:Nat)(v:Option Value):Option Value:=match v with
 | some (.pointer (some a))=>match T.get t with
   |some ⟨b,d,_,_⟩=>match bif yE d then aeo h a b else RZ h a with
    |some v=>some v
    |none=>none
   |none=>none
 | _=>none
def agR(op:BinOp)(k:IntKind)(a b:Int):Option Value:=match op with
 | .add=>some (.int k (k.wrap (a+b)))
 | .sub=>some (.int k (k.wrap (a-b)))
 | .eql=>some (.bool (decide (a=b)))
 | .neq=>some (.bool (decide (a≠b)))
 | .lss=>some (.bool (decide (a<b)))
 | .leq=>some (.bool (decide (a<=b)))
 | .gtr=>some (.bool (decide (a>b)))
 | .geq=>some (.bool (decide (a>=b)))
 | _=>none
def agS(h:AH)(op:BinOp)(x y:Option Value):Option Value:=match x,y with
 | some (.int k a),some (.int c b)=>if k=c then match agR op k a b with
   |some v=>some v
   |none=>none else none
 | _,_=>none
def agT(h:AH)(x:Option Value):Option Value:=match x with
 | some (.bool b)=>some (.bool (!b))
 | _=>none
def KD(h:AH)(i:Nat)(x:Option Value):Option Value:=match x with
 | some (.tuple vs)=>match nth vs.toList i with
   |some v=>some v
   |none=>none
 | _=>none
def adi(h:AH)(c a b:Option Value):Option Value:=match c with
 | some (.bool t)=>match a,b with
   |some u,some v=>some (bif t then u else v)
   |_,_=>none
 | _=>none
def Xw(T:Tr TI)(h:AH)(t:Nat)(x i:Option Value):Option Value:=match x,i with
 | some (.slice (some a) b _),some (.int k n)=>match T.get t with
   |some ⟨_,.slice e,_,_⟩=>match T.get e with
    |some ⟨c,_,_,_⟩=>if 0<=n/\n<b then some (.pointer (some (a.add (n.toNat*c))))else none
    |none=>none
   |_=>none
 | some (.pointer (some a)),some (.int k n)=>match T.get t with
   |some ⟨_,.array b e,_,_⟩=>match T.get e with
    |some ⟨c,_,_,_⟩=>if 0<=n/\n<b then some (.pointer (some (a.add (n.toNat*c))))else none
    |none=>none
   |_=>none
 | _,_=>none
def agU(h:AH)(x:Option Value):Option Value:=match x with
 | some (.slice _ n _)=>some (.int .i64 n)
 | _=>none
def rY{a:Type}(v:Value)(l:List Value):Nat->(List Value->a)->a:=
 List.rec (fun _ k=>k []) (fun x l b n k=>Nat.rec (k (v::l)) (fun n _=>b n fun c=>k (x::c)) n) l
def vU(v:Value):List Value:=match v with
 | .agg c=>c.toList
 | v=>[v]
def abn{b:Type}(vs:List Value):Nat->List Value->(List Value->b)->b:=
 List.rec (fun _ cells k=>k cells) (fun v _ c a cells k=>rY v cells a fun cells=>c (a+1) cells k) vs
def Xx(b:List (Nat×Nat))(a:List Value)(c:List (Nat×Operand)):List Value->Option Value:=
 List.rec (fun cells=>some (.agg ⟨cells⟩)) (fun p _ d cells=>match vk a p.2 with
   |some v=>match nth b p.1 with
    |some q=>bif Nat.beq (vU v).length q.2&&Nat.ble (q.1+q.2) cells.length then abn (vU v) q.1 cells d else none
    |none=>none
   |none=>none) c
def Xy(T:Tr TI)(a:List Value)(t:Nat)(b:List (Nat×Operand)):Option Value:=match T.get t with
 | some ⟨_,.struct _,some z,c⟩=>Xx c a b z.cells.toList
 | _=>none
def fast(T:Tr TI)(d:List Value)(h:AH)(op:Op):Option Value:=match op with
 | .move x=>RY d h x
 | .assign x=>RY d h x
 | .fieldAddr s x f=>Xv T h s f (vk d x)
 | .load t x=>adh T h t (vk d x)
 | .binOp op _ x y _=>agS h op (vk d x) (vk d y)
 | .unOp .not _ x=>agT h (vk d x)
 | .extract x i=>KD h i (vk d x)
 | .pick c a b=>adi h (vk d c) (vk d a) (vk d b)
 | .indexAddr t x i=>Xw T h t (vk d x) (vk d i)
 | .build t g=>Xy T d t g.toList
 | .call ⟨.builtin .len,args,e⟩=>match args.toList with
   | [x]=>match e.toList with
    |t::_=>match T.get t with
     |some ⟨_,.slice _,_,_⟩=>agU h (vk d x)
     |_=>none
    | []=>none
   |_=>none
 | _=>none
end
structure aZ(P:Program)(T:Tr TI):Prop where
 get:∀t i,T.get t=some i->P.underlying t=some i.und/\(∃d,P.info? t=some d/\d.size=i.size)/\zeroOf P t=i.zero/\∀fields,i.und=.struct fields->fields.toList.map (fun f=>(f.offset,P.cellsOf f.type))=i.places/\∀f∈fields.toList,∃d,P.info? f.type=some d
section
variable{P:Program}{T:Tr TI}{tmps:List Value}{h a:AH}{o:Oper}{v:Value}{x:Operand}
theorem ja{b:Type}:∀(l:List b) (n:Nat),nth l n=l[n]?
 | [],n=>by simp[nth]
 | x::l,0=>rfl
 | x::l,n+1=>by
   have:=ja l n
   show nth l n=_
   simp[this]
theorem jY{b:Type}(l:List b)(n:Nat):nth l n=(Array.mk l)[n]?:=by rw[ja];simp
theorem CO(l:List Value)(t:Nat)(e:nth l t=some v):(Array.mk l).getD t undef=v:=by
 rw[jY]at e;simp[Array.getD_eq_getD_getElem?,e]
def okX(x:Operand):Bool:=match x with
 | .const v=>iQ 9 v
 | .global _=>false
 | _=>true
theorem jZ(e:vk tmps x=some v):ay ⟨tmps⟩ x=v/\okX x=true:=by
 unfold vk at e;cases x with
 | tmp t=>exact⟨CO _ _ e,rfl⟩
 | const u=>
   dsimp only at e;cases b:iQ 9 u with
   |false=>rw[b]at e;cases e
   |true=>rw[b]at e;cases e;exact⟨rfl,b⟩
 | func f=>cases e;exact⟨rfl,rfl⟩
 | global g=>cases e
theorem uG(b:∀x∈o.op.operands,okX x=true):bC o=true:=by
 unfold bC;rw[List.all_eq_true];intro x c;have:=b x (Array.mem_toList_iff.1 c)
 cases x<;>exact this
theorem iF{s:Sem Value}(b:∀x∈o.op.operands,okX x=true)(c:lX P h (ay ⟨tmps⟩) o=true)(d:execOp (ay ⟨tmps⟩) o=(s>>=fun v=>Pure.pure (Next.value v)))(e:s.fJ P h=some v):
   (bC o&&lX P h (ay ⟨tmps⟩) o)=true/\(execOp (ay ⟨tmps⟩) o).fJ P h=some (.value v):=by
 refine⟨by rw[uG b,c];rfl,?_⟩;rw[d,aC e];rfl
theorem KE{s:Sem Value}(b:bM o=false)(c:∀x∈o.op.operands,okX x=true)(d:lX P h (ay ⟨tmps⟩) o=true)(e:execOp (ay ⟨tmps⟩) o=(s>>=fun v=>Pure.pure (Next.value v)))(f:s.ar P none h=some (v,a)):
   bP P none h ⟨tmps⟩ o=some (.value v,a):=by
 unfold bP;rw[b,uG c,d,e];simp only[Bool.false_eq_true,if_false,Bool.and_self,if_true]
 rw[mM f];rfl
theorem Xz(b:bM o=false)(c:(bC o&&lX P h (ay ⟨tmps⟩) o)=true/\(execOp (ay ⟨tmps⟩) o).fJ P h=some (.value v)):bP P none h ⟨tmps⟩ o=some (.value v,h):=by
 unfold bP;rw[b,c.1];simp only[Bool.false_eq_true,if_false,if_true]
 exact CP _ c.2
theorem Ac(b:(bC o&&lX P h (ay ⟨tmps⟩) o)=true/\(execOp (ay ⟨tmps⟩) o).fJ P h=some (.value v)):gK P h ⟨tmps⟩ o=some v:=by
 unfold gK;rw[b.1,b.2];rfl
end
end Go.Am
