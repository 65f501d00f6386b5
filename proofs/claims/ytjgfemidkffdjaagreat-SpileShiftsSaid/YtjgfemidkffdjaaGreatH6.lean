import Derived.Test.YtjgfemidkffdjaaGreatH5
set_option linter.all false
namespace Go.Am
open Go.Ren (grow gU aT aB)
section
variable{P:Program}{ρ σ:Env}{O D:Nat->Prop}{h A:AH}{w w':World}{X:Event->Prop}{m:Bool}{base:List Frame}
theorem dX{f:Frame}{a:List Frame}(b:f.mode=.run):stepG P m (dZ f a) w=stepG.exec P m true f a none w:=by
 unfold stepG dZ;dsimp only
 rw[b]
theorem stepG_ret{f:Frame}{cs:List Frame}(a:f.mode=.returning):stepG P m (dZ f cs) w=unwind P m f cs none w:=by
 unfold stepG dZ;dsimp only
 rw[a]
theorem y8{e c:Type}{R:Env->e->c->Prop}{f:Sem c}{x:e}(k:Out P X D R ρ O h w f x A)(g:FuncId):∃(a:Env) (y:c) (w':World) (b:Array Event),f.runT P w #[]=(.ok y w',b)/\aT X O D w w' (seen P g b)/\ρ.Le a/\R a x y/\Rel a (grow O w w') D A w'/\h.n<=A.n/\∀x,x<h.n->a.born x->ρ.born x:=by
 obtain⟨a,y,w',b,i,j,l,o,p,q,r⟩:=k
 exact⟨a,y,w',b,by have:=i #[];simpa using this,p.less (um g b),j,l,o,q,fun x s d=>((r x).1 d).elim id fun y=>by omega⟩
theorem yw(a:Array Event)(g:Goroutine)(w:World):GStep.after a (.go g w)=.go g w a:=by simp[GStep.after]
theorem uZ{s:AS}{f:Frame}{g:List Frame}{a:Option Code}{r:yD}{z:Nat}(i:F0 ρ s.fr f)(k:z<=s.h.n)(o:Ic ρ z s.cs g)(p:Rel ρ O D s.h w)
   (b:stepG.exec P m true f (g++base) none w=(match f.roundOf with
    |none=>if a matches none|some .ret then .go (dZ {f with mode:=.returning} (g++base)) w else .ended (.stuck "exit, goto: no such block or label" (f.pos P)) w
    |some l=>let(r,H):=(Instr.endRound l a).runT P w #[]
     GStep.after (seen P f.fn H) (match r with
     | .ok v w=>doReturn P m f (g++base) none v w
     | .halt _ w=>.ended (.stuck "range over a function: no such loop" (f.pos P)) w))) (hb:Has base r) (e:pK P s a=some r) (J:f.mode=.run):
   wU P m X ρ O D base (dZ f (g++base)) w r:=by
 unfold pK at e;have y:=i.round
 obtain⟨q,c,d,defers,mode,kind,N⟩:=f
 cases j:s.fr.round with
 | none=>
   rw[j]at e y;cases N with
   |some l=>cases y
   |none=>
    dsimp only at e b;have B:(a=none∨a=some .ret)->stepG P m (dZ ⟨q,c,d,defers,mode,kind,none⟩ (g++base)) w=.go (dZ ⟨q,c,d,defers,.returning,kind,none⟩ (g++base)) w #[]:=by
     intro C;rw[dX J,b];rcases C with rfl|rfl<;>rfl
    have t:(a=none∨a=some .ret)->r=.go {s with fr:={s.fr with ret:=true}}->wU P m X ρ O D base (dZ ⟨q,c,d,defers,mode,kind,none⟩ (g++base)) w r:=by intro C E;subst E;exact⟨ρ,_,w,#[],B C,.none w,.refl ρ,⟨⟨z,_,g,k,rfl,.plain ⟨⟨i.fn,i.defers,rfl,i.kind,by simp only[j];exact .none⟩,i.tmps,i.todo⟩,o⟩,p.grow⟩⟩
    split at e
    ·exact t (.inl rfl) (by cases e;rfl)
    ·exact t (.inr rfl) (by cases e;rfl)
    ·cases e
 | some l=>
   rw[j]at e y;cases y with
   | @some _ R T=>
    dsimp only at e b;split at e
    ·rename_i v L u;obtain⟨U,v',w',H,V,W,M,Y,Z,h8,h9⟩:=y8 (X:=X) ((MN a T).yB p u) q
     rw[V]at b;dsimp only at b;obtain⟨F,e⟩:=Ux e
     obtain⟨g',h6,h7⟩:=EK (P:=P) (m:=m) (base:=base) (f:=⟨q,c,d,defers,mode,kind,some R⟩) (i.normal F) (Nat.le_trans k h8) (o.mono M (fun x hx=>h9 x (by omega)) (Nat.le_refl _)) Y Z hb e
     rw[h6,yw]at b;exact⟨U,g',w',_,by rw[dX J,b],W,M,h7⟩
    ·cases e
theorem kM{s:AS}{f:Frame}{a:List Frame}{k:List aV}{i:List Item}{r:yD}{j:Nat}(o:F0 ρ s.fr f)(b:j<=s.h.n)(c:Ic ρ j s.cs a)(d:Rel ρ O D s.h w)(p:f.mode=.run)(e:Ib s k=some r)(q:LR (Cf ρ) k i)
   (g:stepG.exec P m true f (a++base) none w=.go (dZ {f with todo:=i} (a++base)) w #[]):wU P m X ρ O D base (dZ f (a++base)) w r:=by
 simp only[Ib,Option.some.injEq]at e;subst e;exact ctl (by rw[dX p,g]) (o.ML q) b c d
theorem LR.append{a b:Type}{R:a->b->Prop}{l m:List a}{c d:List b}(h:LR R l c)(k:LR R m d):LR R (l++m) (c++d):=by
 induction h with
 | nil=>exact k
 | cons h _ e=>exact .cons h e
theorem JW{g i:Type}(s:Sem g)(y:i):∀(c:Option Nat) (h:AH) {x:g} {A:AH},s.ar P c h=some (x,A)->(s.bind fun _=>Sem.pure y).ar P c h=some (y,A):=by
 induction s with
 | pure a=>intro c h x A e;simp only[Sem.ar,Option.some.injEq,Prod.mk.injEq]at e;obtain⟨_,rfl⟩:=e;rfl
 | load m a k b=>
   intro c h x A e;simp only[Sem.bind]
   rw[Sem.ar.eq_def]at e⊢;dsimp only at e⊢;split at e
   ·exact b _ _ _ e
   ·cases e
 | store m a v k b=>
   intro c h x A e;simp only[Sem.bind]
   cases v<;>cases m<;>simp only[Sem.ar]at e⊢<;>first|(cases e;done)|skip
   all_goals
    split at e
    ·exact b _ _ e
    ·cases e
 | new o k b=>
   intro c h x A e;simp only[Sem.bind]
   simp only[Sem.ar]at e⊢;split at e<;>first|exact b _ _ _ e|cases e
 | shape r k b=>
   intro c h x A e;simp only[Sem.bind]
   simp only[Sem.ar]at e⊢;split at e
   ·exact b _ _ _ e
   ·exact b _ _ _ e
   ·cases e
 | getObj r k b=>
   intro c h x A e;simp only[Sem.bind]
   simp only[Sem.ar]at e⊢;split at e
   ·cases e
   ·exact b _ _ _ e
   ·cases e
 | setObj r o k b=>
   intro c h x A e;simp only[Sem.bind]
   simp only[Sem.ar]at e⊢;split at e
   ·cases e
   ·cases e
   ·split at e
    ·cases e
    ·rename_i d;rw[if_neg d];exact b _ _ e
   ·cases e
 | choose q k b=>
   intro c h x A e;simp only[Sem.bind]
   rw[Sem.ar.eq_def]at e⊢;dsimp only at e⊢;split at e
   ·rename_i f;first|exact b _ _ _ e|(rw[if_pos f];exact b _ _ _ e)
   ·rename_i f;try rw[if_neg f]
    split at e
    ·exact b _ _ _ e
    ·cases e
 | program k b=>intro c h x A e;exact b _ _ _ e
 | _=>intro c h x A e;cases e
theorem MK.mono{a:Nat->Prop}{r:yD}{g:Goroutine}(k:MK P ρ O D base r g w)(c:∀x,O x->a x):MK P ρ a D base r g w:=by
 cases r with
 | go s=>exact⟨k.run,k.rel.mono c⟩
 | ret v h=>obtain⟨b,e,f,h0,i,j,l⟩:=k;exact⟨b,e,f,h0,i,j,l.mono c⟩
theorem aaZ{ops:Array Oper}{l:List (Nat×List Nat)}{a:aN}{f:Frame}{y:Nat}{k:List aV}{q:List Item}(r:JI ops l=true)(g:a.ret=false)(n:FB ρ a f)(u:AR (VR ρ) a.tmps f.tmps)(z:LR (Cf ρ) k q)(t:Nat):
   FT P ρ y h {a with todo:=.drawn ops l::k} {f with todo:=.inRegion ops (Region.schedule true ops t)::q}:=by
 unfold JI at r;simp only[Bool.and_eq_true]at r;obtain⟨⟨v,B⟩,x⟩:=r
 have e:∀i,i<ops.size->i∈ix l:=fun i b=>jI.1 (List.all_eq_true.1 B i (by simpa using b));obtain⟨C,p⟩:=Js (nJ v) t
 have c:∀i∈Region.schedule true ops t,i∉ix l->False:=fun i b d=>d (e i ((p i).1 b))
 refine .ahead (ops:=ops) (l:=l) (s:=Region.schedule true ops t) ⟨⟨n.fn,n.defers,n.mode,n.kind,n.round⟩,g,⟨k,q,rfl,rfl,z⟩,v,x,C,fun i j b d=>absurd ((p i).2 b) d,fun i b=>(p i).1 b,fun i b=>(p i).2 (aaF x i b),fun i b d=>absurd (e i b) d,fun i b d=>(c i b d).elim,u.1,fun t _=>u.get t,fun i b d=>(c i b d).elim,fun i b d=>(c i b d).elim⟩ fun i b d=>(c i b d).elim
theorem step_plain[aO P]{pl:bI}{s:AS}{f:Frame}{cs:List Frame}{lo:Nat}(b:lo<=s.h.n)(E:F0 ρ s.fr f)(g:Ic ρ lo s.cs cs)(j:Rel ρ O D s.h w):∃c:Nat,∀r,aI P pl (some c) s=some r->Has base r->wU P m X ρ O D base (dZ f (cs++base)) w r:=by
 obtain⟨o,ho⟩:∃o:Option Oper,∀F i l k,s.fr.todo=.region F (i::l)::k->o=F[i]?:=by
   by_cases h:∃F i l k,s.fr.todo=.region F (i::l)::k
   ·obtain⟨F,i,l,k,h⟩:=h
    exact⟨F[i]?,fun e5 i' l' V A=>by rw[h]at A;cases A;rfl⟩
   ·exact⟨none,fun F i l k A=>absurd ⟨F,i,l,k,A⟩ h⟩
 obtain⟨c,hc⟩:∃c:Nat,∀o',o=some o'->∀{n:Next} {A:AH},bP P (some c) s.h s.fr.tmps o'=some (n,A)->Out P X D NR ρ O s.h w (execOp f.eval o') n A:=by
   cases o with
   |none=>exact⟨0,fun o' h=>by cases h⟩
   |some o=>
    obtain⟨c,k⟩:=Ih (X:=X) (P:=P) j (o:=o) (fun hk=>Uw E.tmps hk)
    refine⟨c,fun o' A=>?_⟩;cases A;intro n A e;exact k e
 refine⟨c,fun r e hb=>?_⟩;generalize b4:c=e6 at e
 subst b4;unfold aI at e;have W:=E.mode
 have M:=E.round
 have N:=E.todo
 cases a5:s.fr.ret with
 | true=>
   rw[a5]at e W;have hm:f.mode=.returning:=W
   dsimp only at e;unfold o7 at e;have hd:=E.defers
   obtain⟨J,B,Y,defers,mode,kind,T⟩:=f
   dsimp only at hd hm;subst hm;split at e
   ·rename_i lb args ds a6;rw[a6]at hd;cases hd with
    | @cons _ d' _ c3 c4 c5=>
     obtain⟨ht,ha⟩:=c4
     obtain⟨tg,c6⟩:=d'
     dsimp only at ht ha;cases ht with
     | @collected _ f3 c7=>
      split at e
      ·rename_i calls C H;cases e;obtain⟨τ,a9,w',es,h1,h2,Q,h4,h5,h8,h9⟩:=y8 (X:=X) ((Bo c7).yB j H) J
       refine⟨τ,dZ ⟨J,B,Y,a9++c3,.returning,kind,T⟩ (cs++base),w',seen P J es,?_,h2,Q,⟨⟨lo,_,cs,Nat.le_trans b h8,rfl,.plain ?_,g.mono Q (fun x H=>h9 x (by omega)) (Nat.le_refl _)⟩,h5⟩⟩
       ·rw[stepG_ret rfl];simp only[unwind,h1]
        rw[yw];rfl
       ·have L:=E.mono Q
        exact⟨⟨L.fn,h4.append (c5.mono fun _ _ x=>x.mono Q),L.mode,L.kind,L.round⟩,L.tmps,L.todo⟩
      ·cases e
   ·cases e
   ·rename_i a6;rw[a6]at hd;cases hd;split at e
    ·cases e
    ·rename_i fd c8;split at e
     ·rename_i v C H;obtain⟨τ,v',w',es,h1,h2,Q,h4,h5,h8,h9⟩:=y8 (X:=X) ((DU fd E.tmps).yB j H) J
      obtain⟨c9,e⟩:=Ux e
      obtain⟨g',h6,h7⟩:=EK (P:=P) (m:=m) (base:=base) (f:=⟨J,B,Y,[],.returning,kind,T⟩) (E.normal c9) (Nat.le_trans b h8) (g.mono Q (fun x H=>h9 x (by omega)) (Nat.le_refl _)) h4 h5 hb e
      refine⟨τ,g',w',seen P J es,?_,h2,Q,h7⟩;have a4:J=s.fr.fn:=E.fn
      rw[stepG_ret rfl];simp only[unwind,a4,c8]
      dsimp only at h1;rw[h1];dsimp only
      rw[a4]at h6;rw[h6,yw]
     ·cases e
 | false=>
   rw[a5]at e W;have hm:f.mode=.run:=W
   dsimp only at e;obtain⟨J,B,Y,defers,mode,kind,T⟩:=f
   dsimp only at N M hm;subst hm;cases ht:s.fr.todo with
   |nil=>rw[ht]at e N;cases N;exact uZ E b g j (hb:=hb) (by simp only[stepG.exec];cases T<;>rfl) e rfl
   |cons it k=>
    rw[ht]at e N;cases N with
    | @cons _ f4 _ V hi Z=>
     cases hi with
     |inBlock id=>exact kM E b g j rfl e Z (by simp only[stepG.exec];rfl)
     |inScope x=>exact kM E b g j rfl e Z (by simp only[stepG.exec];rfl)
     |inLoop x=>exact kM E b g j rfl e (.cons (.code _) (.cons (.inLoop _) Z)) (by simp only[stepG.exec];rfl)
     |code x=>
      cases x with
      |ret=>exact uZ E b g j (hb:=hb) (by simp only[stepG.exec];cases T<;>rfl) e rfl
      |skip=>exact kM E b g j rfl e Z (by simp only[stepG.exec];rfl)
      |label l=>exact kM E b g j rfl e Z (by simp only[stepG.exec];rfl)
      |seq x y=>exact kM E b g j rfl e (.cons (.code _) (.cons (.code _) Z)) (by simp only[stepG.exec];rfl)
      |block id x=>exact kM E b g j rfl e (.cons (.code _) (.cons (.inBlock _) Z)) (by simp only[stepG.exec];rfl)
      |loop x=>exact kM E b g j rfl e (.cons (.code _) (.cons (.inLoop _) Z)) (by simp only[stepG.exec];rfl)
      |scope x=>exact kM E b g j rfl e (.cons (.code _) (.cons (.inScope _) Z)) (by simp only[stepG.exec];rfl)
      |cond x a b'=>
       dsimp only at e;split at e
       ·rename_i hk;have hv:=aaY E.tmps hk
        split at e
        ·rename_i t H;rw[H]at hv;refine kM E b g j rfl e (.cons (.code _) Z) ?_;simp only[stepG.exec]
         generalize Frame.eval _ x=v at hv
         cases hv;rfl
        ·cases e
       ·cases e
      |exit id=>
       have H:=ZX Z id
       dsimp only at e;split at e
       ·rename_i b7 C;rw[C]at H;generalize R:exitTo id V=z at H
        cases H with
        |some H=>exact kM E b g j rfl e H (by simp only[stepG.exec,R];rfl)
       ·rename_i C;rw[C]at H;generalize R:exitTo id V=z at H
        cases H;exact uZ E b g j (hb:=hb) (by simp only[stepG.exec,R];cases T<;>rfl) e rfl
      |goto l=>
       have H:=ZY Z l
       dsimp only at e;split at e
       ·rename_i b7 C;rw[C]at H;generalize R:gotoIn l V=z at H
        cases H with
        |some H=>exact kM E b g j rfl e H (by simp only[stepG.exec,R];rfl)
       ·rename_i C;rw[C]at H;generalize R:gotoIn l V=z at H
        cases H;exact uZ E b g j (hb:=hb) (by simp only[stepG.exec,R];cases T<;>rfl) e rfl
      |region id F d=>
       cases d with
       |true=>
        dsimp only at e;split at e
        ·rename_i hp;simp only[Bool.and_eq_true]at hp;simp only[Ib,Option.some.injEq]at e;subst e;have a0:stepG P m (dZ ⟨J,B,.code (.region id F true)::V,defers,.run,kind,T⟩ (cs++base)) w=.go (dZ ⟨J,B,.inRegion F (Region.schedule true F (w.tape w.drawn (.order J id)))::V,defers,.run,kind,T⟩ (cs++base)) {w with drawn:=w.drawn+1} #[]:=by
          rw[dX rfl];simp only[stepG.exec,hp.2]
          rfl
         refine⟨ρ,_,_,#[],a0,vP _,.refl ρ,⟨⟨lo,_,cs,b,rfl,?_,g⟩,(j.drawn _).mono fun _=>.inl⟩⟩;exact aaZ ((PS _ _).symm.trans hp.1) a5 (f:=⟨J,B,.code (.region id F true)::V,defers,.run,kind,T⟩) (a:=s.fr) ⟨E.fn,E.defers,E.mode,E.kind,E.round⟩ E.tmps Z _
        ·cases e
       |false=>exact kM E b g j rfl e (.cons (.region _ _) Z) (by simp only[stepG.exec];rfl)
      |rangeFunc x params assign a1=>
       dsimp only at e;split at e
       ·rename_i hk;have hv:=aaY E.tmps hk
        split at e
        ·rename_i gf first captured H
         split at e
         ·rename_i lp mark C d0;obtain⟨τ,y,b8,es,h1,h2,Q,h4,h5,h8,h9⟩:=y8 (X:=X) ((JV s.fr.fn E.tmps params assign a1 M).yB j d0) J
          obtain⟨U,a7⟩:=y
          obtain⟨a2,a8⟩:=h4
          dsimp only at a2 a8;have L:=E.mono Q
          have b9:Ic τ lo s.cs cs:=g.mono Q (fun x H=>h9 x (by omega)) (Nat.le_refl _)
          have d1:F0 τ {s.fr with todo:=.inRangeFunc lp::k,defers:=mark++s.fr.defers} ⟨J,B,.inRangeFunc U::V,a7++defers,.run,kind,T⟩:=
           ⟨⟨L.fn,a8.append L.defers,L.mode,L.kind,L.round⟩,L.tmps,.cons (.inRangeFunc a2) (Z.mono fun _ _ z=>z.mono Q)⟩
          rw[H]at hv;have a0:stepG P m (dZ ⟨J,B,.code (.rangeFunc x params assign a1)::V,defers,.run,kind,T⟩ (cs++base)) w=GStep.after (seen P J es) (stepG.apply P true ⟨J,B,.inRangeFunc U::V,a7++defers,.run,kind,T⟩ (cs++base) none (do let d←resolve (Frame.eval ⟨J,B,.code (.rangeFunc x params assign a1)::V,defers,.run,kind,T⟩) {callee:=.value x,args:=#[.const (.func (.yield U) #[] #[])],argTypes:=#[]} 0;invoke d.target d.args) b8):=by
           rw[dX rfl];have a4:s.fr.fn=J:=E.fn.symm
           rw[a4]at h1;dsimp only at h1;simp only[stepG.exec,h1]
           rfl
          generalize d4:Frame.eval ⟨J,B,.code (.rangeFunc x params assign a1)::V,defers,.run,kind,T⟩ x=v at hv
          cases hv with
          | @func _ _ f1 b1 f2 b2 a4 d5 d6 d7 d8=>
           cases a4;have c0:(do let d←resolve (Frame.eval ⟨J,B,.code (.rangeFunc x params assign a1)::V,defers,.run,kind,T⟩) {callee:=.value x,args:=#[.const (.func (.yield U) #[] #[])],argTypes:=#[]} 0;invoke d.target d.args:Sem Next)=callFunc gf ((b1++#[.func (.yield U) #[] #[]])++b2):=by
             unfold resolve;dsimp only
             rw[d4];simp only[List.map_toArray,List.map_cons,List.map_nil]
             rfl
           rw[c0]at a0;cases a3:(callFunc gf ((first++#[.func (.yield lp) #[] #[]])++captured)).ar P none C with
           | none=>rw[a3]at e;cases e
           | some p=>
             obtain⟨n,A⟩:=p
             rw[a3]at e;have b5:AR (VR τ) ((first++#[.func (.yield lp) #[] #[]])++captured) ((b1++#[.func (.yield U) #[] #[]])++b2):=by refine AR.append (AR.append ⟨d5,fun i u v hu hv=>(d6 i u v hu hv).mono Q⟩ ?_) ⟨d7,fun i u v hu hv=>(d8 i u v hu hv).mono Q⟩;exact AR.empty.push (.func (.yield a2) rfl (fun i x y h=>by simp at h) rfl (fun i x y h=>by simp at h))
             have c1:=(pI (P:=P) gf b5).yB (X:=X) h5 a3;obtain⟨υ,g',w',d9,i1,i2,i3,i4⟩:=BV (base:=base) (.plain d1) (Nat.le_trans b h8) b9 e c1
             refine⟨υ,g',w',seen P J es++d9,?_,h2.trans i2,Q.trans i3,i4.mono fun z hz=>Go.Ren.vN hz h2.size i2.size⟩;rw[a0,i1];rfl
         ·cases e
        ·cases e
       ·cases e
      |refuse f6=>cases e
     |region F l=>
      cases l with
      |nil=>exact kM E b g j rfl e Z (by simp only[stepG.exec];rfl)
      |cons i l=>
       dsimp only at e;have e0:=ho F i l k ht
       split at e
       ·rename_i o' b0;have e2:o=some o':=by rw[e0,b0]
        have hy:=Ig (ops:=F) E.tmps
        dsimp only at hy;split at e
        ·rename_i hw;have a0:stepG P m (dZ ⟨J,B,.inRegion F (i::l)::V,defers,.run,kind,T⟩ (cs++base)) w=stepG.apply P true ⟨J,B,.inRegion F (i::l)::V,defers,.run,kind,T⟩ (cs++base) none (execOp (Frame.eval ⟨J,B,.inRegion F (i::l)::V,defers,.run,kind,T⟩) o') w:=by
          rw[dX rfl];simp only[stepG.exec,b0,Option.map_some,Option.getD_some]
          rw[hy,if_pos hw];simp only[stepG.oper,Frame.oper?,b0]
          have e3:∀q,o'.op≠.defer q:=by
           cases H:bP P (some c) s.h s.fr.tmps o' with
           | none=>rw[H]at e;simp[bZ]at e
           | some p=>exact MO H
          split
          ·rename_i e4;exact absurd e4 (e3 _)
          ·rfl
         cases H:bP P (some c) s.h s.fr.tmps o' with
         |none=>rw[H]at e;simp[bZ]at e
         |some p=>
          obtain⟨n,A⟩:=p
          rw[H]at e;have k:=hc o' e2 H
          obtain⟨τ,g',w',es,h1,h2,Q,h4⟩:=BV (X:=X) (.plain E) b g e k
          exact⟨τ,g',w',es,by rw[a0,h1],h2,Q,h4⟩
        ·rename_i hw;simp only[Option.map_eq_some_iff]at e;obtain⟨a',e1,rfl⟩:=e
         refine ctl ?_ (Ie E kE e1) b g j;rw[dX rfl];simp only[stepG.exec,b0,Option.map_some,Option.getD_some]
         rw[hy,if_neg hw];rfl
       ·cases e
     |inRangeFunc b6=>cases e
     | @endRangeFunc lp U a2=>
      dsimp only at e;split at e
      ·rename_i b3 C H;cases e;obtain⟨τ,j',w',es,h1,h2,Q,h4,h5,h8,h9⟩:=y8 (X:=X) ((Rx a2).yB j H) J
       cases h4;have a0:stepG P m (dZ ⟨J,B,.endRangeFunc U::V,defers,.run,kind,T⟩ (cs++base)) w=.go (dZ ⟨J,B,(b3.map Item.code).toList++V,defers,.run,kind,T⟩ (cs++base)) w' (seen P J es):=by
        rw[dX rfl];simp only[stepG.exec,h1]
        rw[yw];rfl
       refine⟨τ,_,w',_,a0,h2,Q,⟨⟨lo,_,cs,Nat.le_trans b h8,rfl,.plain ((E.mono Q).ML ?_),g.mono Q (fun x H=>h9 x (by omega)) (Nat.le_refl _)⟩,h5⟩⟩;have b6:=Z.mono fun _ _ (x:Cf ρ _ _)=>x.mono Q
       cases b3 with
       |none=>exact b6
       |some c=>exact .cons (.code c) b6
      ·cases e
     |beginRound=>
      dsimp only at e;cases a3:s.fr.round with
      |none=>rw[a3]at e;cases e
      |some lp=>
       rw[a3]at e M;cases M with
       | @some _ U a2=>
        dsimp only at e;split at e
        ·rename_i u C H;cases e;rw[←a3];have c2:Out P X D NR ρ O s.h w ((some U).elim (Go.stuck "beginRound: no round") Instr.beginRound>>=fun _=>Pure.pure Next.skip) Next.skip C:=by
          refine(SR.unit (Gn a2)).yB j ?_;show((Instr.beginRound lp).bind fun _=>Sem.pure Next.skip).ar P none s.h=_
          exact JW _ _ _ _ H
         have e':bZ P s.fr s.cs (some (Next.skip,C))=some (yD.go {s with fr:={s.fr with todo:=k},h:=C}):=by simp only[bZ,aA,ht,Option.map_some]
         obtain⟨τ,g',w',es,h1,h2,Q,h4⟩:=BV (X:=X) (.plain E) b g e' c2
         refine⟨τ,g',w',es,?_,h2,Q,h4⟩;rw[dX rfl];simp only[stepG.exec]
         exact h1
        ·cases e
end
end Go.Am
namespace Go.Am
open Go.Ren (grow gU aT aB Wk)
section
variable{P:Program}{ρ σ:Env}{O D:Nat->Prop}{h h':AH}{w u:World}{X:Event->Prop}{m:Bool}{base cs:List Frame}{I:World->Prop}
 {A r i:Nat} {b:Array Oper} {l:List (Nat×List Nat)} {s:List Nat} {a:aN} {f:Frame} {o:Oper}
theorem fU{v:List Item}(e:f.mode=.run)(j:f.todo=.inRegion b (i::s)::v)(k:b[i]?=some o)(n:Region.wanted o (yielded b f.tmps)=true)(c:∀q,o.op≠.defer q):
   stepG P m (dZ f cs) w=stepG.apply P true f cs none (execOp f.eval o) w:=by
 rw[dX e];obtain⟨g,p,t,defers,mode,kind,x⟩:=f
 dsimp only at j n e;subst j;simp only[stepG.exec,k,Option.map_some,Option.getD_some]
 rw[n,if_pos rfl];simp only[stepG.oper,Frame.oper?,k]
 split
 · rename_i d;exact absurd d (c _)
 · rfl
theorem rX{n:List Item}(c:f.mode=.run)(d:f.todo=.inRegion b (i::s)::n)(p:b[i]?=some o)(e:Region.wanted o (yielded b f.tmps)=false):
   stepG P m (dZ f cs) w=.go (dZ (f.finish undef) cs) w #[]:=by
 rw[dX c];obtain⟨g,j,k,defers,mode,kind,q⟩:=f
 dsimp only at d e c;subst d;simp only[stepG.exec,p,Option.map_some,Option.getD_some]
 rw[e,if_neg (by simp)];rfl
theorem yC{e:Operand->Value}{t:TypeId}{z:Value}(g:o.op=.alloc t)(d:zeroOf P t=some z):
   ∀c,(execOp e o).runT P w c=(.ok (.value (.pointer (some ⟨w.heap.size,0,none⟩))) {w with heap:=w.heap.push (.cells z.cells t (0,0))},c++#[]):=by
 intro c;unfold zeroOf at d;cases r:P.info? t with
 | none=>rw[r]at d;cases d
 | some j=>
   rw[r]at d;have k:j.zero=some z:=d
   simp[execOp,g,Instr.alloc,zeroValue,typeInfo,newVar,newRow,newObj,r,k];exact⟨rfl,rfl⟩
theorem WV{e:Operand->Value}{t k:TypeId}{n:Nat}{y:Array (Nat×Operand)}{cells:Array Value}(B:o.op=.buildSlice t n y)(g:jH P e t n y=some (k,cells)):
   ∀d,(execOp e o).runT P w d=(.ok (.value (.slice (some ⟨w.heap.size,0,none⟩) n n)) {w with heap:=w.heap.push (.cells cells k (0,0))},d++#[]):=by
 intro d;unfold jH at g;split at g;rotate_left
 · cases g
 rename_i L H;split at g;rotate_left
 · cases g
 rename_i i r;split at g
 · cases g
 rename_i C;split at g;rotate_left
 · cases g
 rename_i z J;split at g;rotate_left
 · cases g
 rename_i c F;cases g;have x:∀zero:Array Value,(n*i.size=0∨zero=z.cells)->((Array.range (n*i.size)).map fun j=>zero[j%zero.size]!)=(Array.range (n*i.size)).map fun j=>z.cells[j%z.cells.size]!:=by
   rintro zero (h0|rfl)
   ·rw[h0];simp
   ·rfl
 have E:execOp e o=(Instr.buildSlice t n (y.map fun p=>(p.1,e p.2))).bind fun v=>Sem.pure (.value v):=by unfold execOp;rw[B];rfl
 rw[E,Sem.runT_bind'];have:(Instr.buildSlice t n (y.map fun p=>(p.1,e p.2))).runT P w d=(.ok (.slice (some ⟨w.heap.size,0,none⟩) n n) {w with heap:=w.heap.push (.cells cells k (0,0))},d++#[]):=by
   unfold Instr.buildSlice;rw[(EI H).run];dsimp only
   rw[(Ut r).run];rw[if_neg C];by_cases h0:n*i.size=0
   ·rw[if_pos h0,(Pu.aU _).run,x _ (.inl h0),F];simp[newRow,newObj,-Sem.runT_eq,Sem.runT,bind,pure,Sem.bind]
   ·rw[if_neg h0,(JM r J).run,(Pu.aU _).run,x _ (.inr rfl),F];simp[newRow,newObj,-Sem.runT_eq,Sem.runT,bind,pure,Sem.bind]
 rw[this];simp only[Sem.runT]
theorem ac9[aO P]{e C:Operand->Value}{t v:TypeId}{n:Nat}{y:Array (Nat×Operand)}{cells:Array Value}(F:∀x∈y,VR ρ (e x.2) (C x.2))(g:jH P e t n y=some (v,cells)):∃d,jH P C t n y=some (v,d)/\AR (VR ρ) cells d:=by
 unfold jH at g⊢;split at g;rotate_left
 · cases g
 rename_i M N;split at g;rotate_left
 · cases g
 rename_i i r;split at g
 · cases g
 rename_i E;split at g;rotate_left
 · cases g
 rename_i z H;split at g;rotate_left
 · cases g
 rename_i c J;cases g;rw[if_neg E];have B:=BH (fun j=>some (j*i.size,i.size)) (Ed F) (tV (ρ:=ρ) (fun L=>aO.zero _ i z r H L) (n*i.size) fun j=>j%z.cells.size)
 replace B:gu (AR (VR ρ)) (Instr.fill (fun j=>some (j*i.size,i.size)) ((Array.range (n*i.size)).map fun j=>z.cells[j%z.cells.size]!) (y.map fun p=>(p.1,e p.2)).toList) (Instr.fill (fun j=>some (j*i.size,i.size)) ((Array.range (n*i.size)).map fun j=>z.cells[j%z.cells.size]!) (y.map fun p=>(p.1,C p.2)).toList):=B
 rw[J]at B;generalize Instr.fill _ _ (y.map fun p=>(p.1,C p.2)).toList=q at B⊢;cases B with
 | some k=>exact⟨_,rfl,k⟩
theorem MP[aO P](J:Rel ρ O D h w)(k:FD ρ A h.n b l (i::s) a f)(W:i∉ix l)(e:EqAt P h b a.tmps i):
   ∃(U:Env) (f':Frame) (u:World) (es:Array Event),stepG P m (dZ f cs) w=.go (dZ f' cs) u es/\aT X O D w u es/\ρ.Le U/\(∀x,U.born x->ρ.born x∨gz b a.tmps i x)/\FD U A h.n b l s a f'/\Rel U (grow O w u) D h u:=by
 obtain⟨k1,k2,t1,t2,hl⟩:=k.todo
 have hm:f.mode=.run:=by have:=k.base.mode;rw[k.run]at this;exact this
 have C:=k.base.ne
 cases e with
 | @unwanted o d p Q hd R=>
   have j:=k.oO p
   rw[Q]at j;refine⟨ρ,f.finish undef,w,#[],rX hm t2 p j,.none w,.refl ρ,fun x E=>.inl E,?_,J.grow⟩;exact k.lag W (by unfold bT;rw[p];exact hd) R kE (.refl ρ) fun x E=>.inl E
 | @fO o d v p Q hk hd R H=>
   have j:=k.oO p
   rw[Q]at j;unfold gK at H;split at H
   ·rename_i L;simp only[Bool.and_eq_true]at L;split at H
    ·rename_i v' a1;cases H;obtain⟨U,n',u,es,h1,h2,h3,h4,h5,h6,h7⟩:=(Uf J o (k.sH p L.1) L.2).yB (X:=X) J (CP _ a1);cases h3 with
     | @value _ v' a2=>
      have hb:∀x,U.born x->ρ.born x∨gz b a.tmps i x:=fun x E=>((h7 x).1 E).elim .inl fun y=>by omega
      refine⟨U,f.finish v',u,_,?_,h5.less (um (P:=P) f.fn es),h2,hb,?_,h4⟩
      ·rw[fU hm t2 p j (fun q Z=>by unfold kindOf at hk;rw[Z]at hk;cases hk)];exact lW C h1
      ·exact k.lag W (by unfold bT;rw[p];exact hd) R a2 h2 hb
    ·cases H
   ·cases H
 | @alloc o d t c z p Q hd g Y R V=>
   have j:=k.oO p
   rw[Q]at j;have B:bT b i=some d:=by unfold bT;rw[p];exact hd
   have F:gz b a.tmps i c:=⟨nI p (by first|exact .inl ⟨_,g⟩|exact .inr ⟨_,_,_,g⟩),by unfold wantedAt;rw[p];exact Q,d,B,by rw[R];rfl⟩
   obtain⟨b1,b2,b3⟩:=k.bd i (by simp) W c F
   have a0:Xd ρ (.cells z.cells t (0,0)) (.cells z.cells t (0,0)):=by
    refine .cells (nX ?_);unfold zeroOf at Y;cases r:P.info? t with
    |none=>rw[r]at Y;cases Y
    |some a3=>rw[r]at Y;exact aO.zero t a3 z r Y ρ
   have hr:=J.birth (o':=.cells z.cells t (0,0)) b3 b2 V a0
   have M:ρ.Le (ρ.add c (w.heap.size,0) False 1 (su (.cells z.cells t (0,0)))):=Env.jA b3
   refine⟨_,f.finish (.pointer (some ⟨w.heap.size,0,none⟩)),_,_,?_,(pX _).less (um (P:=P) f.fn #[]),M,fun x E=>E.elim (fun e=>.inr (e▸F)) .inl,?_,hr⟩
   ·rw[fU hm t2 p j (fun q Z=>by rw[Z]at g;cases g)];exact lW C (yC g Y)
   ·refine k.lag W B R ?_ M fun x E=>E.elim (fun e=>.inr (e▸F)) .inl;have:(Value.pointer (some ⟨w.heap.size,0,none⟩))=.pointer (some ((ρ.add c (w.heap.size,0) False 1 (su (.cells z.cells t (0,0)))).addr ⟨c,0,none⟩)):=by
     simp only[Env.addr,dA]
    rw[this];exact .ptr (.inl rfl)
 | @built o d t n ps c N cells p Q hd g L hb R V=>
   have j:=k.oO p
   rw[Q]at j;have B:bT b i=some d:=by unfold bT;rw[p];exact hd
   have F:gz b a.tmps i c:=⟨nI p (by first|exact .inl ⟨_,g⟩|exact .inr ⟨_,_,_,g⟩),by unfold wantedAt;rw[p];exact Q,d,B,by rw[R];rfl⟩
   obtain⟨b1,b2,b3⟩:=k.bd i (by simp) W c F
   obtain⟨T,a4,a5⟩:=ac9 (fun x E=>k.sH p L x.2 (by rw[g];simp only[Op.operands,List.mem_toArray,List.mem_map];exact⟨x,by simpa using E,rfl⟩)) hb
   have hr:=J.birth (o':=.cells T N (0,0)) b3 b2 V (.cells a5)
   have M:ρ.Le (ρ.add c (w.heap.size,0) False 1 (su (.cells cells N (0,0)))):=Env.jA b3
   refine⟨_,f.finish (.slice (some ⟨w.heap.size,0,none⟩) n n),_,_,?_,(pX _).less (um (P:=P) f.fn #[]),M,fun x E=>E.elim (fun e=>.inr (e▸F)) .inl,?_,hr⟩
   ·rw[fU hm t2 p j (fun q Z=>by rw[Z]at g;cases g)];exact lW C (WV g a4)
   ·refine k.lag W B R ?_ M fun x E=>E.elim (fun e=>.inr (e▸F)) .inl;have:(Value.slice (some ⟨w.heap.size,0,none⟩) n n)=.slice (some ((ρ.add c (w.heap.size,0) False 1 (su (.cells cells N (0,0)))).addr ⟨c,0,none⟩)) n n:=by
     simp only[Env.addr,dA]
    rw[this];exact .slice (.inl rfl) (.inl rfl)
end
end Go.Am
namespace Go.Am
open Go.Ren (grow gU aT aB Wk)
section
variable{P:Program}{b A:Env}{O D:Nat->Prop}{h C:AH}{w B:World}{X:Event->Prop}{m:Bool}{base cs:List Frame}{I:World->Prop}{pl:bI}
 {q u i:Nat} {ops:Array Oper} {l:List (Nat×List Nat)} {s:List Nat} {a:aN} {f:Frame} {o:Oper} {d:Tmp} {v:Value} {c:List Nat}
theorem Ry{j:List Item}(k:f.mode=.run)(n:f.todo=.inRegion ops []::j):stepG P m (dZ f cs) w=.go (dZ {f with todo:=j} cs) w #[]:=by
 rw[dX k];obtain⟨g,p,e,defers,mode,kind,r⟩:=f
 dsimp only at n k;subst n;simp only[stepG.exec]
 rfl
theorem Rz(k:kindOf o=.alloc):(∃t,o.op=.alloc t)∨∃t n e,o.op=.buildSlice t n e:=by
 unfold kindOf at k;split at k<;>first|exact .inl ⟨_,by assumption⟩|exact .inr ⟨_,_,_,by assumption⟩|cases k
theorem MQ(e:jr ops=true)(u:i<ops.size):dep ops ops.size i i=false:=by
 cases h:dep ops ops.size i i with
 | false=>rfl
 | true=>exact absurd (BQ e u h) (Nat.lt_irrefl _)
theorem FD.mode(k:FD b q u ops l s a f):f.mode=.run:=by have:=k.base.mode;rw[k.run]at this;exact this
theorem Eqs.ahead(k:FD b q u ops ((i,c)::l) s a f)(r:aK ops i≠.effect)(e:Eqs P h ops ((i,c)::l) s a.tmps)(hd:bT ops i=some d)(u:EqAt P h ops (a.tmps.setIfInBounds d v) i):Eqs P h ops l s (a.tmps.setIfInBounds d v):=by
 intro j n t;by_cases p:j=i
 · subst p;exact u
 · have g:j∉ix ((i,c)::l):=fun x=>(List.mem_cons.1 x).elim p t;exact(e j n g).set k.ok (k.lt j n) (kL k.ord).1 hd (k.done j (k.lt j n) g i (by simp[jv])) p (.inl r)
theorem RD[aO P]{g:AS}(k:FD b q g.h.n ops ((i,c)::l) s g.fr f)(M:aK ops i≠.effect)(e:Eqs P g.h ops ((i,c)::l) s g.fr.tmps)(F:q<=g.h.n)(N:Ic b q g.cs cs)(J:Rel b O D g.h w)
   {n:Nat} {r:yD} (p:aI P pl (some n) g=some r):MK P b O D base r (dZ f (cs++base)) w:=by
 obtain⟨k1,k2,Z,t2,hl⟩:=k.todo
 obtain⟨Y,o2,o3,o4,o5,o6⟩:=kL k.ord
 unfold aI at p;rw[k.run,Z]at p;dsimp only at p;have y:ops[i]?=some ops[i]:=yh Y
 generalize a9:ops[i]=o at y
 rw[y]at p;dsimp only at p;have U:aK ops i=kindOf o:=Hq y M
 have a4:kindOf o≠.effect:=by rw[←U];exact M
 split at p
 · rename_i a5;exact absurd a5 M
 split at p
 · cases p
 rename_i d hd;have j:bT ops i=some d:=by unfold bT;rw[y];exact hd
 split at p;rotate_left
 · cases p
 rename_i a6;have self:∀v:Value,Region.wanted o (yielded ops (g.fr.tmps.setIfInBounds d v))=Region.wanted o (yielded ops g.fr.tmps):=fun v=>by
   have:=yj (v:=v) (tm:=g.fr.tmps) k.ok Y Y j (MQ k.ok Y)
   unfold wantedAt at this;rw[y]at this;exact this
 have got:∀v:Value,(g.fr.tmps.setIfInBounds d v)[d]?=some v:=fun v=>by rw[Array.getElem?_setIfInBounds,if_pos rfl,if_pos a6]
 split at p
 · rename_i hw;split at p
   ·rename_i t H;split at p
    ·rename_i z hz;split at p
     ·rename_i Q;cases p;have R:=k.ahead (v:=.pointer (some ⟨g.h.n,0,none⟩)) (hi':=g.h.n+1) Z M j (Nat.le_succ _) F (fun x T=>by
       obtain⟨_,_,d',L,E⟩:=T
       rw[j]at L;cases L;rw[got]at E;replace E:some g.h.n=some x:=E
       cases E;exact⟨Nat.le_refl _,Nat.lt_succ_self _,fun hb=>Nat.lt_irrefl _ (J.fresh _ hb)⟩)
      refine⟨⟨q,f,cs,Nat.le_succ_of_le F,rfl,.ahead (h:=g.h.new (.cells z.cells t (0,0))) R ?_,N⟩,J.push _⟩;exact R.eqs k.ord (by rw[nI y (by first|exact .inl ⟨_,H⟩|exact .inr ⟨_,_,_,H⟩)];exact fun x=>by cases x) Q
     ·cases p
    ·cases p
   ·rename_i t n ps H;split at p
    ·rename_i a0 cells hb;split at p
     ·rename_i Q;simp only[Bool.and_eq_true]at Q;cases p;have R:=k.ahead (v:=.slice (some ⟨g.h.n,0,none⟩) n n) (hi':=g.h.n+1) Z M j (Nat.le_succ _) F (fun x T=>by
       obtain⟨_,_,d',L,E⟩:=T
       rw[j]at L;cases L;rw[got]at E;replace E:some g.h.n=some x:=E
       cases E;exact⟨Nat.le_refl _,Nat.lt_succ_self _,fun hb=>Nat.lt_irrefl _ (J.fresh _ hb)⟩)
      refine⟨⟨q,f,cs,Nat.le_succ_of_le F,rfl,.ahead (h:=g.h.new (.cells cells a0 (0,0))) R ?_,N⟩,J.push _⟩;exact R.eqs k.ord (by rw[nI y (by first|exact .inl ⟨_,H⟩|exact .inr ⟨_,_,_,H⟩)];exact fun x=>by cases x) Q.2
     ·cases p
    ·cases p
   ·rename_i H a1;split at p
    ·rename_i v a7;cases p;have W:kindOf o=.fO:=by
      cases a2:kindOf o with
      |fO=>rfl
      |effect=>exact absurd a2 a4
      |alloc=>
       rcases Rz a2 with⟨t,ht⟩|⟨t,n,ps,ht⟩
       ·exact absurd ht (H t)
       ·exact absurd ht (a1 t n ps)
     have R:=k.ahead (v:=v) (hi':=g.h.n) Z M j (Nat.le_refl _) F (fun x T=>by
      have:=T.1;rw[U,W]at this;cases this)
     refine⟨⟨q,f,cs,F,rfl,.ahead R (Eqs.ahead k M e j ?_),N⟩,J⟩;refine .fO y (by rw[self];exact hw) W hd (got v) ?_;rw[uz W fun x T=>H8 fun a8=>?_]
     ·exact a7
     ·subst a8;have:=EG k.ok y Y T j M
      rw[MQ k.ok Y]at this;cases this
    ·cases p
 · rename_i hw;have a3:Region.wanted o (yielded ops g.fr.tmps)=false:=by simpa using hw
   cases p;have R:=k.ahead (v:=undef) (hi':=g.h.n) Z M j (Nat.le_refl _) F (fun x T=>by
    have:=T.2.1;unfold wantedAt at this;rw[y]at this;dsimp only at this;rw[self,a3]at this;cases this)
   refine⟨⟨q,f,cs,F,rfl,.ahead R (Eqs.ahead k M e j ?_),N⟩,J⟩;exact .unwanted y (by rw[self];exact a3) hd (got undef)
theorem MR[aO P]{e:AS}(k:FD b q e.h.n ops ((i,c)::l) (i::s) e.fr f)(H:aK ops i=.effect)(x:q<=e.h.n)(y:Ic b q e.cs cs)(z:Rel b O D e.h w):
   ∃n:Nat,∀r,aI P pl (some n) e=some r->Has base r->wU P m X b O D base (dZ f (cs++base)) w r:=by
 obtain⟨k1,k2,M,J,hl⟩:=k.todo
 obtain⟨N,o2,o3,o4,o5,o6⟩:=kL k.ord
 have g:ops[i]?=some ops[i]:=yh N
 generalize Q:ops[i]=o at g
 have step:∀n:Nat,aI P pl (some n) e=if Region.wanted o (yielded ops e.fr.tmps)then bZ P e.fr e.cs (bP P (some n) e.h e.fr.tmps o)else(aA P e.fr e.h undef).map fun f=>.go {e with fr:=f}:=by
   intro n;unfold aI;rw[k.run,M];dsimp only
   rw[g];dsimp only
   rw[H]
 have L:Kr b q e.h.n e.fr f:=.ahead k H;cases E:Region.wanted o (yielded ops e.fr.tmps)with
 | false=>
   refine⟨0,fun r t _=>?_⟩;rw[step,E,if_neg (by simp)]at t;simp only[Option.map_eq_some_iff]at t;obtain⟨a',R,rfl⟩:=t
   have j:=k.oO g
   rw[E]at j;exact⟨b,_,w,#[],rX k.mode J g j,.none w,.refl b,⟨⟨q,_,cs,x,rfl,l9 L (Nat.le_refl _) kE R,y⟩,z.grow⟩⟩
 | true=>
   have j:=k.oO g
   rw[E]at j;obtain⟨n,T⟩:=Ih (X:=X) (P:=P) z (o:=o) (k.sH g)
   refine⟨n,fun r t _=>?_⟩;rw[step,E,if_pos rfl]at t;cases F:bP P (some n) e.h e.fr.tmps o with
   |none=>rw[F]at t;simp[bZ]at t
   |some p=>
    obtain⟨nx,C⟩:=p
    rw[F]at t;obtain⟨U,V,B,W,Y,Z,h3,h4⟩:=BV (X:=X) (base:=base) L x y t (T F)
    refine⟨U,V,B,W,?_,Z,h3,h4⟩;rw[fU k.mode J g j (MO F)];exact Y
def EL(P:Program)(pl:bI)(b:Env)(D:Nat->Prop)(base:List Frame)(s:AS)(O:Nat->Prop)(g:Goroutine)(w:World):Prop:=
 ∃(n:Nat) (r:yD) (A:Env),aI P pl (some n) s=some r/\b.Le A/\MK P A O D base r g w
theorem EL.le(h:b.Le A){s:AS}{g:Goroutine}(k:EL P pl A D base s O g w):EL P pl b D base s O g w:=by
 obtain⟨n,r,e,j,p,t⟩:=k
 exact⟨n,r,e,j,h.trans p,t⟩
theorem aa0{j:AS}{g:Goroutine}(t:g.status=.running)(p:∀n:Nat,∃r,aI P pl (some n) j=some r/\Has base r)(h:∀e,aB O D w e->∃n:Nat,∀r,aI P pl (some n) j=some r->Has base r->wU P m X b O D base g e r):Wk P m I X D (EL P pl b D base j) O g w:=by
 refine Wk.mk t fun e x _=>?_
 obtain⟨n,y⟩:=h e x
 obtain⟨r,k,z⟩:=p n
 obtain⟨A,E,B,F,H,J,L,M⟩:=y r k z
 exact⟨E,B,F,H,J,.stop ⟨n,r,A,k,L,M⟩⟩
theorem aa1[aO P]{g:AS}(N:∀n:Nat,∃r,aI P pl (some n) g=some r/\Has base r)(Q:q<=g.h.n):∀(s:List Nat) {b:Env} {f:Frame} {O:Nat->Prop} {w:World},FD b q g.h.n ops l s g.fr f->Eqs P g.h ops l s g.fr.tmps->Ic b q g.cs cs->Rel b O D g.h w->
   Wk P m I X D (EL P pl b D base g) O (dZ f (cs++base)) w:=by
 intro s;induction s with
 | nil=>
   intro b f O w k e E F;obtain⟨k1,k2,t1,t2,hl⟩:=k.todo
   cases l with
   |cons p l=>exact absurd (k.sub p.1 (by simp[ix])) (by simp)
   |nil=>
    refine aa0 rfl N fun L M=>⟨0,fun r H _=>?_⟩
    unfold aI at H;rw[k.run,t1]at H;dsimp only at H;simp only[Ib,Option.some.injEq]at H;subst H;refine ctl (a':={g.fr with todo:=k1}) (Ry k.mode t2) ⟨⟨k.base.fn,k.base.defers,k.base.mode,k.base.kind,k.base.round⟩,⟨k.size,fun t x y hx hy=>?_⟩,hl⟩ Q E (F.rely M);have:=k.tmps t fun j T=>absurd T (by simp)
    rw[hx]at this;have U:f.tmps[t]?=some y:=hy
    rw[U]at this;cases this with
    |some h=>exact h
 | cons i s ih=>
   intro b f O w k e E F;have R:i∉ix l->Wk P m I X D (EL P pl b D base g) O (dZ f (cs++base)) w:=by
    intro V;refine Wk.mk rfl fun L M _=>?_
    obtain⟨τ,f',B,es,h1,h2,h3,h4,h5,h6⟩:=MP (X:=X) (m:=m) (cs:=cs++base) (F.rely M) k V (e i (by simp) V)
    refine⟨dZ f' (cs++base),B,es,h1,h2,(ih h5 (fun j T=>e j (List.mem_cons_of_mem _ T)) (E.mono h3 (fun x hx hb=>(h4 x hb).elim id fun W=>?_) (Nat.le_refl _)) h6).mono fun _ _ _ z=>z.le h3⟩;have:=(k.bd i (by simp) V x W).1;omega
   cases l with
   |nil=>exact R (by simp[ix])
   |cons p l=>
    obtain⟨J,c⟩:=p
    obtain⟨o1,o2,o3,o4,o5,o6⟩:=kL k.ord
    by_cases Y:aK ops J=.effect
    ·by_cases u:i=J
     ·subst u;exact aa0 rfl N fun L M=>MR k Y Q E (F.rely M)
     ·refine R fun hm=>?_
      have Z:i∈ix l:=(List.mem_cons.1 hm).resolve_left u;exact k.JL (o4 Y i Z) (k.sub J (by simp[jv]))
    ·obtain⟨r,M,_⟩:=N 0
     exact .stop ⟨0,r,b,M,.refl b,RD k Y e Q E F M⟩
theorem Uy[aO P]{s:AS}{g:Goroutine}(S:mJ P b O D base s g w)(j:∀n:Nat,∃r,aI P pl (some n) s=some r/\Has base r):Wk P m I X D (EL P pl b D base s) O g w:=by
 obtain⟨⟨q,f,cs,p,rfl,y,t⟩,x⟩:=S
 cases y with
 | plain y=>exact aa0 rfl j fun z E=>step_plain p y t (x.rely E)
 | @ahead ops l F k e=>exact aa1 j p F k e t x
end
end Go.Am
namespace Go.Am
open Go.Ren (grow gU aT aB Wk)
theorem ada{P:Program}{g:Type}(s:Sem g):∀(h:AH) {x:g×AH},s.ar P none h=some x->∀c,s.ar P c h=some x:=by
 induction s with
 | pure a=>intro h x e c;exact e
 | load m a k b=>
   intro h x e c;rw[Sem.ar.eq_def]at e⊢;dsimp only at e⊢;generalize h.cell a=q at e⊢;cases q with
   |none=>cases e
   |some v=>
    cases m with
    |plain=>exact b v _ e c
    |atomic=>cases e
 | store m a v k b=>
   intro h x e c;cases v<;>cases m<;>simp only[Sem.ar]at e⊢<;>first|(cases e;done)|skip
   all_goals
    generalize h.setCell a _=q at e⊢;cases q with
    |none=>cases e
    |some h=>exact b _ e c
 | new o k b=>intro h x e c;simp only[Sem.ar]at e⊢;split at e<;>first|(cases e;done)|exact b _ _ e c
 | shape r k b=>
   intro h x e c;simp only[Sem.ar]at e⊢;generalize h.look r=q at e⊢;cases q with
   |none=>cases e
   |some B=>
    obtain⟨o,f,j,u⟩:=B
    cases o<;>exact b _ _ e c
 | getObj r k b=>
   intro h x e c;simp only[Sem.ar]at e⊢;generalize h.look r=q at e⊢;cases q with
   |none=>cases e
   |some B=>
    obtain⟨o,f,j,u⟩:=B
    cases o<;>first|(cases e;done)|exact b _ _ e c
 | setObj r o k b=>
   intro h x e c;simp only[Sem.ar]at e⊢;generalize h.look r=q at e⊢;split at e
   ·cases e
   ·cases e
   ·rename_i B l i;split at e
    ·cases e
    ·rename_i d;rw[if_neg d];exact b _ e c
   ·cases e
 | choose q k b=>
   intro h x e c;rw[Sem.ar.eq_def]at e⊢;dsimp only at e⊢;split at e
   ·rename_i i;rw[if_pos i];exact b _ _ e c
   ·cases q<;>cases e
 | program k b=>intro h x e c;exact b _ _ e c
 | _=>intro h x e c;cases e
section
variable{P:Program}{ρ a:Env}{O D:Nat->Prop}{h h':AH}{w w':World}{X:Event->Prop}{m:Bool}{b:Frame}{d:List Frame}{I:World->Prop}{pl:bI}
theorem RF{f:Array Value}{o:Oper}{x:Next×AH}(e:bP P none h f o=some x)(c:Option Nat):bP P c h f o=some x:=by
 unfold bP at e⊢;split
 · rename_i g;rw[if_pos g]at e;exact e
 · rename_i g;rw[if_neg g]at e;split
   ·rename_i i;rw[if_pos i]at e;exact ada _ _ e c
   ·rename_i i;rw[if_neg i]at e;cases e
theorem AY{i:aN}{j:List aN}{f:Array Value}{o:Oper}{r:yD}(e:bZ P i j (bP P none h f o)=some r)(c:Option Nat):bZ P i j (bP P c h f o)=some r:=by
 cases g:bP P none h f o with
 | none=>rw[g]at e;simp[bZ]at e
 | some x=>rw[RF g c,←g];exact e
theorem jh{s:AS}{r:yD}(e:aI P pl none s=some r)(c:Option Nat):aI P pl c s=some r:=by
 unfold aI at e⊢;cases q:s.fr.ret with
 | true=>rw[q]at e;exact e
 | false=>
   rw[q]at e;dsimp only at e⊢;cases t:s.fr.todo with
   |nil=>rw[t]at e;exact e
   |cons it k=>
    rw[t]at e;cases it with
    |region f l=>
     cases l with
     |nil=>exact e
     |cons i l=>
      dsimp only at e⊢;cases j:f[i]? with
      |none=>rw[j]at e;cases e
      |some o=>
       rw[j]at e;dsimp only at e⊢;split
       ·rename_i g;rw[if_pos g]at e;exact AY e c
       ·rename_i g;rw[if_neg g]at e;exact e
    |drawn f l=>
     cases l with
     |nil=>exact e
     |cons p l=>
      obtain⟨i,again⟩:=p
      dsimp only at e⊢;cases j:f[i]? with
      |none=>rw[j]at e;cases e
      |some o=>
       rw[j]at e;dsimp only at e⊢;cases n:aK f i with
       |effect=>
        rw[n]at e;dsimp only at e⊢;split
        ·rename_i g;rw[if_pos g]at e;exact AY e c
        ·rename_i g;rw[if_neg g]at e;exact e
       |fO=>rw[n]at e;exact e
       |alloc=>rw[n]at e;exact e
    |code x=>exact e
    |inBlock x=>exact e
    |inLoop x=>exact e
    |inScope x=>exact e
    |inRangeFunc x=>exact e
    |endRangeFunc x=>exact e
    |beginRound=>exact e
inductive jC(P:Program)(pl:bI)(Q:Value->AH->Prop):AS->Prop
 | step {s:AS} (hne:∀c:Nat,∃r,aI P pl (some c) s=some r) (hgo:∀(c:Nat) s',aI P pl (some c) s=some (.go s')->jC P pl Q s') (hret:∀(c:Nat) v h,aI P pl (some c) s=some (.ret v h)->Q v h):jC P pl Q s
theorem jC.one{Q:Value->AH->Prop}{s s':AS}(e:aI P pl none s=some (.go s'))(k:jC P pl Q s'):jC P pl Q s:=
 .step (fun c=>⟨_,jh e (some c)⟩) (fun c t f=>by rw[jh e (some c)]at f;cases f;exact k) (fun c v h f=>by rw[jh e (some c)]at f;cases f)
theorem jC.ret{Q:Value->AH->Prop}{s:AS}{v:Value}{h:AH}(e:aI P pl none s=some (.ret v h))(k:Q v h):jC P pl Q s:=
 .step (fun c=>⟨_,jh e (some c)⟩) (fun c t f=>by rw[jh e (some c)]at f;cases f) (fun c g h' f=>by rw[jh e (some c)]at f;cases f;exact k)
theorem jC.mono{Q R:Value->AH->Prop}{s:AS}(k:jC P pl Q s)(i:∀v h,Q v h->R v h):jC P pl R s:=by
 induction k with
 | step g _ f j=>exact .step g j fun c v h e=>i v h (f c v h e)
theorem Su[aO P]{Q:Value->AH->Prop}{s:AS}(k:jC P pl Q s):∀{ρ:Env} {O:Nat->Prop} {g:Goroutine} {w:World},mJ P ρ O D (b::d) s g w->
   Wk P m I X D (fun o p w'=>∃(a:Env) (v:Value) (h:AH) (c:Value),Q v h/\ρ.Le a/\VR a v c/\p=dZ (b.finish c) d/\Rel a o D h w') O g w:=by
 induction k with
 | step f _ e x=>
   intro ρ O g w S;refine(Uy S fun n=>(f n).imp fun r y=>⟨y,fun _=>by simp⟩).bind fun o p w' hd=>?_
   obtain⟨n,r,a,q,t,u⟩:=hd
   cases r with
   |ret v h=>
    obtain⟨M,A,c,B,i,j,l⟩:=u
    cases B;exact .stop ⟨a,v,h,c,e n v h q,t,i,j,l⟩
   |go C=>
    refine(x n C q u).mono fun E F H J=>?_
    obtain⟨L,v,h,c,i,j,l⟩:=J
    exact⟨L,v,h,c,i,t.trans j,l⟩
inductive bJ(P:Program)(pl:bI)(K:AS->Prop):AS->Prop
 | here {s:AS} (h:K s):bJ P pl K s
 | step {s:AS} (hne:∀c:Nat,∃s',aI P pl (some c) s=some (.go s')) (hgo:∀(c:Nat) s',aI P pl (some c) s=some (.go s')->bJ P pl K s'):bJ P pl K s
theorem bJ.one{K:AS->Prop}{s s':AS}(e:aI P pl none s=some (.go s'))(k:bJ P pl K s'):bJ P pl K s:=
 .step (fun c=>⟨_,jh e (some c)⟩) fun c t f=>by rw[jh e (some c)]at f;cases f;exact k
theorem bJ.bind{K L:AS->Prop}{s:AS}(h:bJ P pl K s)(k:∀s,K s->bJ P pl L s):bJ P pl L s:=by
 induction h with
 | here h=>exact k _ h
 | step c _ e=>exact .step c e
theorem jk[aO P]{K:AS->Prop}{s:AS}{base:List Frame}(k:bJ P pl K s):∀{ρ:Env} {O:Nat->Prop} {g:Goroutine} {w:World},mJ P ρ O D base s g w->
   Wk P m I X D (fun j l w'=>∃(a:Env) (f:AS),K f/\ρ.Le a/\mJ P a j D base f l w') O g w:=by
 induction k with
 | here h=>intro ρ O g w S;exact .stop ⟨ρ,_,h,.refl ρ,S⟩
 | @step s i p q=>
   intro ρ O g w S;refine(Uy (pl:=pl) S fun n=>(i n).elim fun f c=>⟨_,c,fun⟨v,h,e⟩=>by cases e⟩).bind fun j l w' hd=>?_
   obtain⟨n,r,a,o,u,x⟩:=hd
   obtain⟨f,c⟩:=i n
   rw[c]at o;cases o;refine(q n f c x).mono fun y z A B=>?_
   obtain⟨C,t,E,F,H⟩:=B
   exact⟨C,t,E,u.trans F,H⟩
def vZ(P:Program)(pl:bI):Nat->AS->Option yD
 | 0,s=>some (.go s)
 | n+1,s=>match aI P pl none s with
   |some (.go s)=>vZ P pl n s
   |r=>r
theorem LQ{Q:Value->AH->Prop}:∀(n:Nat) {s:AS} {v:Value} {h:AH},vZ P pl n s=some (.ret v h)->Q v h->jC P pl Q s
 | 0,s,v,h,e,_=>by cases e
 | n+1,s,v,h,e,k=>by
   unfold vZ at e;split at e
   ·rename_i f c;exact .one c (LQ n e k)
   ·exact .ret e k
theorem jg{K:AS->Prop}:∀(n:Nat) {s c:AS},vZ P pl n s=some (.go c)->bJ P pl K c->bJ P pl K s
 | 0,s,c,e,k=>by cases e;exact k
 | n+1,s,c,e,k=>by
   unfold vZ at e;split at e
   ·rename_i f g;exact .one g (jg n e k)
   ·rename_i i;exact absurd e (i c)
end
end Go.Am
namespace Go.Am
section
variable{P:Program}{m:bI}{n:Option Nat}{c g:aN}{cs e:List aN}{h:AH}
def under(P:Program)(c:aN)(cs:List aN):yD->Option yD
 | .go s=>some (.go ⟨s.fr,s.cs++c::cs,s.h⟩)
 | .ret v h=>(aA P c h v).map fun f=>.go ⟨f,cs,h⟩
theorem EM{a:Bool}(v:Value):vg P a (e++c::cs) v h=(vg P a e v h).bind (under P c cs):=by
 cases a with
 | true=>rfl
 | false=>
 cases e with
 | nil=>rfl
 | cons x e=>
   simp only[List.cons_append,vg,Bool.false_eq_true,if_false]
   cases aA P x h v<;>rfl
theorem rP(x:Option (Next×AH)):bZ P g (e++c::cs) x=(bZ P g e x).bind (under P c cs):=by
 cases x with
 | none=>rfl
 | some p=>
   obtain⟨a,h⟩:=p
   cases a<;>simp only[bZ]<;>first|rfl|skip
   all_goals cases aA P g h _<;>rfl
theorem nK(j:Option Code):pK P ⟨g,e++c::cs,h⟩ j=(pK P ⟨g,e,h⟩ j).bind (under P c cs):=by
 unfold pK;dsimp only
 cases g.round with
 | none=>
   dsimp only
   split<;>rfl
 | some l=>
   dsimp only
   cases (Instr.endRound l j).ar P none h with
   |none=>rfl
   |some p=>exact EM p.1
theorem Gp:o7 P ⟨g,e++c::cs,h⟩=(o7 P ⟨g,e,h⟩).bind (under P c cs):=by
 unfold o7;dsimp only
 split
 · rename_i b args d hd;cases (Instr.takeDeferred b).ar P none h<;>rfl
 · rfl
 · cases P.funcs[g.fn]? with
   |none=>rfl
   |some a=>
    dsimp only
    cases (results a g.tmps).ar P none h with
    |none=>rfl
    |some p=>exact EM p.1
theorem MS:aI P m n ⟨g,e++c::cs,h⟩=(aI P m n ⟨g,e,h⟩).bind (under P c cs):=by
 unfold aI;dsimp only
 cases g.ret with
 | true=>exact Gp
 | false=>
   dsimp only
   cases g.todo with
   |nil=>exact nK none
   |cons it k=>
    cases it with
    |inBlock x=>rfl
    |inLoop x=>rfl
    |inScope x=>rfl
    |inRangeFunc x=>rfl
    |beginRound=>
     dsimp only
     cases g.round with
     |none=>rfl
     |some l=>
      dsimp only
      cases (Instr.beginRound l).ar P none h<;>rfl
    |endRangeFunc l=>
     dsimp only
     cases (Instr.endLoop l).ar P none h<;>rfl
    |region j l=>
     cases l with
     |nil=>rfl
     |cons i l=>
      dsimp only
      cases j[i]? with
      |none=>rfl
      |some o=>
       dsimp only
       split
       ·exact rP _
       ·cases aA P g h undef<;>rfl
    |drawn j l=>
     cases l with
     |nil=>rfl
     |cons p l=>
      dsimp only
      cases j[p.1]? with
      |none=>rfl
      |some o=>
       dsimp only
       cases aK j p.1 with
       |effect=>
        dsimp only
        split
        ·exact rP _
        ·cases aA P g h undef<;>rfl
       |_=>
        dsimp only
        (repeat' split)<;>rfl
    |code x=>
     cases x with
     |ret=>exact nK _
     |skip=>rfl
     |label l=>rfl
     |seq x y=>rfl
     |block id x=>rfl
     |loop x=>rfl
     |scope x=>rfl
     |cond x a b=>
      dsimp only
      (repeat' split)<;>rfl
     |exit id=>
      dsimp only
      cases qJ id k with
      |none=>exact nK _
      |some k=>rfl
     |goto l=>
      dsimp only
      cases uU l k with
      |none=>exact nK _
      |some k=>rfl
     |region id j d=>
      cases d with
      |false=>rfl
      |true=>
       dsimp only
       split<;>rfl
     |rangeFunc f params assign t=>
      dsimp only
      split
      ·split
       ·split
        ·exact rP _
        ·rfl
       ·rfl
      ·rfl
     |refuse v=>rfl
theorem jC.under{Q:Value->AH->Prop}{K:AS->Prop}{s:AS}(k:jC P m Q s)(q:∀v h,Q v h->∃f,aA P c h v=some f/\bJ P m K ⟨f,cs,h⟩):bJ P m K ⟨s.fr,s.cs++c::cs,s.h⟩:=by
 induction k with
 | @step s i t b u=>
   have j:∀n:Nat,aI P m (some n) ⟨s.fr,s.cs++c::cs,s.h⟩=(aI P m (some n) s).bind (Go.Am.under P c cs):=fun n=>MS
   refine .step (fun n=>?_) fun n w a=>?_
   ·obtain⟨r,d⟩:=i n
    rw[j,d];cases r with
    |go w=>exact⟨_,rfl⟩
    |ret v h=>
     obtain⟨f,o,_⟩:=q v h (b n v h d)
     exact⟨⟨f,cs,h⟩,by simp[Go.Am.under,o]⟩
   ·obtain⟨r,d⟩:=i n
    rw[j,d]at a;cases r with
    |go p=>cases a;exact u n p d
    |ret v h=>
     obtain⟨f,o,y⟩:=q v h (b n v h d)
     simp only[Option.bind_some,Go.Am.under,o,Option.map_some,Option.some.injEq,yD.go.injEq]at a;subst a;exact y
end
end Go.Am
namespace Go.Am
open Go.Ren (grow gU aT aB)
def Tr.map{a b:Type}(f:a->b):Tr a->Tr b
 | .nil=>.nil
 | .node l v r=>.node (l.map f) (v.map f) (r.map f)
theorem Tr.get_map{a b:Type}(f:a->b):∀(t:Tr a) (n:Nat),(t.map f).get n=(t.get n).map f
 | .nil,n=>rfl
 | .node l v r,0=>rfl
 | .node l v r,n+1=>by
   simp only[Tr.map,Tr.nS,Tr.left,Tr.right]
   split
   ·exact Tr.get_map f l _
   ·exact Tr.get_map f r _
def AH.shared(h:AH):AH:={h with tr:=h.tr.map fun B=>{B with ro:=true}}
section
variable{P:Program}{a σ:Env}{O i D j:Nat->Prop}{h d:AH}{w w':World}
theorem Rel.sub(r:Rel a O D h w)(N:h.n<=d.n)
   (H:∀b o,d.look b=some o->∃B,h.look b=some B/\o.obj=B.obj/\o.gB=B.gB/\o.u=B.u/\(o.ro=false->B.ro=false/\(O (a.to b).1->i (a.to b).1))/\(O (a.to b).1∨D (a.to b).1->i (a.to b).1∨j (a.to b).1))
   (ht:∀b o,d.tr.get b=some o->∃B,h.tr.get b=some B/\o.obj=B.obj)
   (Z:∀f l,d.dn.get f=some l->∃J,h.dn.get f=some J/\l.Sublist J) (hm:∀f l b,d.dn.get f=some l->b∈l->∃B,d.tr.get b=some B/\B.gB=some f):Rel a i j d w:=by
 have up:∀b n,d.upTo a b n->h.upTo a b n:=by
   rintro b n ⟨o,c,e,f,h1,h2,h3⟩;obtain⟨B,p,x⟩:=ht b o h1
   exact⟨B,c,e,f,p,x▸h2,h3⟩
 refine⟨fun b B c e f m q Q=>?_,fun b B m q Q=>?_,fun b B m q=>?_,fun b b' B o m R q T U V=>?_,fun b m=>Nat.lt_of_lt_of_le (r.fresh b m) N,r.low,fun b B m q=>?_,fun f l s=>?_,fun f l s b m=>?_⟩
 · obtain⟨k,p,x,t,y,A,W⟩:=H b B q
   obtain⟨C,E,g,c1,c2,c3,c4,c5⟩:=r.cells b k c e f m p (x▸Q)
   refine⟨C,E,g,c1,c2,c3,fun N=>c4 fun L=>N ⟨t.trans L.1,?_,y.trans L.2.2⟩,c5⟩;cases hr:B.ro with
   |true=>rfl
   |false=>exact absurd L.2.1 (by rw[(A hr).1];decide)
 · obtain⟨k,p,x,t,y,A,W⟩:=H b B q
   obtain⟨X,o',Y,o3⟩:=r.obj b k m p (x▸Q)
   exact⟨X,o',Y,by rw[x];exact o3⟩
 · obtain⟨k,p,x,t,y,A,W⟩:=H b B q
   obtain⟨X,Y⟩:=r.own b k m p
   exact⟨fun z=>(A z).2 (X (A z).1),W Y⟩
 · obtain⟨k,p,_,t,y,A,_⟩:=H b B q
   obtain⟨M,j1,_,j3,j4,j5,_⟩:=H b' o T
   rcases r.sep b b' k M m R p j1 U V with⟨f,F,v⟩|⟨⟨F,v,g3⟩,i1,i2,i3⟩
   ·exact .inl ⟨f,t.trans F,j3.trans v⟩
   ·refine .inr ⟨⟨t.trans F,?_,y.trans g3⟩,j3.trans i1,?_,j4.trans i3⟩
    ·cases e:B.ro with
     |true=>rfl
     |false=>rw[(A e).1]at v;cases v
    ·cases e:o.ro with
     |true=>rfl
     |false=>rw[(j5 e).1]at i2;cases i2
 · obtain⟨k,p,_,t,y,_⟩:=H b B q
   obtain⟨s1,s2⟩:=r.bg b k m p
   exact⟨s1.trans (by rw[t]),fun z=>(s2 (t▸z)).trans y.symm⟩
 · obtain⟨J,F,v⟩:=Z f l s
   exact((r.row f J F).sublist v).imp fun L b1 b2 V n n' u1 u2=>L b1 b2 V n n' (up _ _ u1) (up _ _ u2)
 · obtain⟨J,F,v⟩:=Z f l s
   exact⟨Nat.lt_of_lt_of_le (r.mem f J F b (v.subset m)).1 N,hm f l b s m⟩
theorem zW(b:Nat):h.shared.tr.get b=(h.tr.get b).map fun B=>{B with ro:=true}:=Tr.get_map _ _ _
theorem MV{b:Nat}:h.shared.look b=(h.look b).map fun B=>{B with ro:=true}:=by
 unfold AH.look;rw[zW];cases h.tr.get b with
 | none=>rfl
 | some B=>
   obtain⟨o,c,e,u⟩:=B
   cases c with
   |none=>rfl
   |some f=>
    simp only[Option.map_some]
    show(if((h.dn.get f).getD []).contains b then _ else _)=_
    split<;>rfl
theorem Rel.share(r:Rel a O D h w)(k:∀b,O b∨D b->i b∨j b):Rel a i j h.shared w:=by
 refine r.sub (Nat.le_refl _) (fun b m c=>?_) (fun b m c=>?_) (fun f l e=>⟨l,e,List.Sublist.refl _⟩) (fun f l b e n=>?_)
 · rw[MV]at c;simp only[Option.map_eq_some_iff]at c;obtain⟨B,g,rfl⟩:=c
   exact⟨B,g,rfl,rfl,rfl,fun z=>(by cases z),k _⟩
 · rw[zW]at c;simp only[Option.map_eq_some_iff]at c;obtain⟨B,g,rfl⟩:=c
   exact⟨B,g,rfl⟩
 · obtain⟨q,B,o,p⟩:=r.mem f l e b n
   exact⟨{B with ro:=true},by rw[zW,o];rfl,p⟩
end
end Go.Am
namespace Go.Am
open Go.Ren (grow gU aT aB Wk)
section
variable{P:Program}{b d:Env}{O D:Nat->Prop}{h r:AH}{w q:World}{X:Event->Prop}{m:Bool}{base cs:List Frame}{I:World->Prop}{pl:bI}
 {p:Nat} {a:Array Oper} {c:List Nat} {i:Nat} {l:List (Nat×List Nat)}
structure vT(P:Program)(b:Env)(p:Nat)(s₀:AS)(a:Array Oper)(i:Nat)(f:Frame)(cs:List Frame)(O D:Nat->Prop)(w:World):Prop where
 bound:p<=s₀.h.n
 fs:Kr b p s₀.h.n s₀.fr f
 run:f.mode=.run
 todo:∃s' k',f.todo=.inRegion a (i::s')::k'
 sH:∀o,a[i]?=some o->bC o=true->∀x∈o.op.operands,VR b (ay s₀.fr.tmps x) (f.eval x)
 wanted:∀o,a[i]?=some o->Region.wanted o (yielded a f.tmps)=Region.wanted o (yielded a s₀.fr.tmps)
 stk:Ic b p s₀.cs cs
 rel:Rel b O D s₀.h w
theorem aa2[aO P]{g:AS}(L:aK a i=.effect)(y:p<=g.h.n):∀(s:List Nat) {b:Env} {f:Frame} {O:Nat->Prop} {w:World},FD b p g.h.n a ((i,c)::l) s g.fr f->Eqs P g.h a ((i,c)::l) s g.fr.tmps->Ic b p g.cs cs->Rel b O D g.h w->
   Wk P m I X D (fun R T q=>∃(d:Env) (v:Frame),b.Le d/\T=dZ v (cs++base)/\vT P d p g a i v cs R D q) O (dZ f (cs++base)) w:=by
 intro s;induction s with
 | nil=>intro b f O w k e t u;exact absurd (k.sub i (by simp[jv])) (by simp)
 | cons j s U=>
   intro b f O w k e t u;obtain⟨o1,o2,o3,V,o5,o6⟩:=kL k.ord
   by_cases M:j=i
   ·subst M;obtain⟨k1,W,t1,Y,hl⟩:=k.todo
    exact .stop ⟨b,f,.refl b,rfl,y,.ahead k L,k.mode,⟨s,W,Y⟩,fun o A B=>k.sH A B,fun o A=>k.oO A,t,u⟩
   ·have C:j∉ix ((i,c)::l):=fun Z=>by have E:j∈ix l:=(List.mem_cons.1 Z).resolve_left M;exact k.JL (V L j E) (k.sub i (by simp[jv]))
    refine Wk.mk rfl fun N hr _=>?_
    obtain⟨τ,v,q,es,h1,h2,Q,h4,h5,h6⟩:=MP (X:=X) (m:=m) (cs:=cs++base) (u.rely hr) k C (e j (by simp) C)
    refine⟨dZ v (cs++base),q,es,h1,h2,(U h5 (fun j' F=>e j' (List.mem_cons_of_mem _ F)) (t.mono Q (fun x hx hb=>(h4 x hb).elim id fun H=>?_) (Nat.le_refl _)) h6).mono fun _ _ _ z=>?_⟩
    ·have:=(k.bd j (by simp) C x H).1;omega
    ·obtain⟨d,J,z1,z2,z3⟩:=z
     exact⟨d,J,Q.trans z1,z2,z3⟩
theorem qG[aO P]{j:AS}{g:Goroutine}(S:mJ P b O D base j g w)(v:j.fr.ret=false)(n:(∃k,j.fr.todo=.drawn a ((i,c)::l)::k/\aK a i=.effect)∨∃l k,j.fr.todo=.region a (i::l)::k):
   Wk P m I X D (fun M N q=>∃(d:Env) (p:Nat) (E:Frame) (cs:List Frame),b.Le d/\N=dZ E (cs++base)/\vT P d p j a i E cs M D q) O g w:=by
 obtain⟨⟨p,f,cs,x,rfl,s,A⟩,B⟩:=S
 cases s with
 | plain s=>
   rcases n with⟨k,n,_⟩|⟨l,k,n⟩
   ·have:=s.todo
    rw[n]at this;generalize f.todo=z at this
    cases this with
    |cons F _=>cases F
   ·have t:=s.todo
    rw[n]at t;obtain⟨C,H,J⟩:∃C H,f.todo=.inRegion a (i::C)::H:=by
     generalize f.todo=z at t
     cases t with
     | @cons _ y _ T F U=>cases F;exact⟨l,T,rfl⟩
    have u:f.mode=.run:=by have:=s.mode;rw[v]at this;exact this
    exact .stop ⟨b,p,f,cs,.refl b,rfl,x,.plain s,u,⟨C,H,J⟩,fun o V L=>Uw s.tmps L,fun o V=>by rw[Ig s.tmps],A,B⟩
 | @ahead Q l' C k e=>
   obtain⟨k1,k2,R,t2,U⟩:=k.todo
   rcases n with⟨W,n,Y⟩|⟨l,W,n⟩
   ·rw[R]at n;cases n;refine(aa2 (base:=base) Y x C k e A B).mono fun M N q Z=>?_
    obtain⟨d,E,z1,z2,z3⟩:=Z
    exact⟨d,p,E,cs,z1,z2,z3⟩
   ·rw[R]at n;cases n
theorem vT.finish{g:AS}{f:Frame}(k:vT P b p g a i f cs O D w){v v':Value}{o:Nat->Prop}(j:b.Le d)(s:∀x,x<g.h.n->d.born x->b.born x)(t:g.h.n<=r.n)(y:VR d v v')(z:Rel d o D r q){u:aN}(e:aA P g.fr r v=some u):
   mJ P d o D base ⟨u,g.cs,r⟩ (dZ (f.finish v') (cs++base)) q:=
 ⟨⟨p,_,cs,Nat.le_trans k.bound t,rfl,l9 (k.fs.mono j s t) (Nat.le_refl _) y e,k.stk.mono j (fun x A=>s x (Nat.lt_of_lt_of_le A k.bound)) (Nat.le_refl _)⟩,z⟩
end
end Go.Am
