import Derived.Test.YtjgfemidkffdjaaGreatH7
set_option linter.all false
namespace Go.Ren
open Go.Conc hiding Goes
open Go.Conc.Lib Go.ConcR.Gen Go.RowKit Go.ConcN Go.ConcN.Gen
open Go.ConcR (KK wgBlock WgAt stA smA rd wr mk DC0)
section
variable{P:Program}{L:WgLink}{Wg:Nat}{S T:Goroutine->Prop}
theorem pY(d:Nat){m:Bool}{X:Event->Prop}{S:Nat->Goroutine->Prop}{g:Goroutine}(h:Idle P m (Lv L Wg) X0 (S d) g):af P m (Lv L Wg) X S d g:=
 (Idle.deaf (fun e x=>x.elim) (fun e x=>x.elim) d h).mono fun a g ⟨e,x⟩=>e▸x
theorem rQ{P:Program}{q d:Nat}{g:Goroutine}(k:Nat)(h:QuitsD P q d g):QuitsD P (q+k) d g:=by
 have one:∀{q d:Nat} {g:Goroutine},QuitsD P q d g->QuitsD P (q+1) d g:=by
  intro q;induction q with
  |zero=>intro d g h;exact .inl h
  |succ q b=>
   intro d g h;rcases h with h|⟨c,e,f,i,j,l⟩
   ·exact .inl h
   ·exact .inr ⟨c,e,f,i,j,b l⟩
 induction k with
 |zero=>exact h
 |succ k b=>exact one b
theorem BZ{P:Program}{b:Frame}{a:Act}{k:List Item}{e:List Frame}{n d:Nat}{c:Array Oper}{i:Nat}{rest:List Nat}{o:Oper}(f:c[i]?=some o)(g:Region.wanted o (yielded c a.tmps)=true)(j:b.kind≠.early)
  (h:∃v:Value,(∀w,(execOp a.eval o).run P w=.ok (.value v) w)/\(∀w,(execOp a.eval o).events P w #[]=#[])/\QuitsD P n d (G (b.at (a.put o.dst v) (.inRegion c rest::k)) e)):QuitsD P (n+1) d (G (b.at a (.inRegion c (i::rest)::k)) e):=
 let⟨v,l,m,p⟩:=h
 .value v f g j l m p
theorem aa3{g:Goroutine}(h:Idle P false (Lv L Wg) X0 (fun g=>Says P false (Lv L Wg) #[Go.ConcR.mk .disable] (Idle P false (Lv L Wg) X0 (AZ P L Wg 1)) g) g):af P false (Lv L Wg) XD (AZ P L Wg) 0 g:=
 (pY (S:=fun d g=>d=0/\Says P false (Lv L Wg) #[Go.ConcR.mk .disable] (Idle P false (Lv L Wg) X0 (AZ P L Wg 1)) g) 0 (h.mono fun g x=>⟨rfl,x⟩)).bind (fun d g ⟨e,a⟩=>by
  subst e;exact a.deaf (fun w _=>sJ rfl) fun c b=>pY 1 b)
set_option maxRecDepth 100000 in
set_option maxHeartbeats 8000000 in
theorem add_neg(H:WgLib P L)(hi:∃w,Lv L Wg w){b₀:Frame}{a₀:Act}{ops₀:Array Oper}{i₀:Nat}{rest₀:List Nat}{k₀:List Item}{cs:List Frame}{qt:Nat}
  (hT:QuitsD P qt 0 (G (b₀.at (a₀.put ((ops₀[i₀]?).bind (·.dst)) (.tuple #[])) (.inRegion ops₀ rest₀::k₀)) cs)):
  Idle P false (Lv L Wg) X0 (iP P L Wg 0) (G (Frame.enter P L.add #[.pointer (some ⟨Wg,0,none⟩),.int .i64 (-1)] .normal) (b₀.at a₀ (.inRegion ops₀ (i₀::rest₀)::k₀)::cs)):=by
 lib_facts
 rw[enter_at _ H.f_add rfl];walk_nrmf addFn
 refine aW 30 (fun w hF=>?_) hi;repeat (first
   |(with_reducible (show Go.Conc.Goes _ _ _ _ _ _ (G (Frame.at _ _ _) _) _)
     first
     | u_c stepG_seq (fun _ h=>h) hF
     | u_c stepG_skip (fun _ h=>h) hF
     | u_c stepG_region_end (fun _ h=>h) hF
     | u_c stepG_ret' (fun _ h=>h) hF
     | u_reg (fun _ h=>h) hF
     | u_cond true (fun _ h=>h) hF
     | u_cond false (fun _ h=>h) hF
     | u_skip (fun _ h=>h) hF
     | (with_reducible (show Go.Conc.Goes _ _ _ _ _ _ (G (Frame.at _ _ (Item.inRegion _ (_::_)::_)) _) _));u_op (fun _ h=>h) hF
     | (with_reducible (show Go.Conc.Goes _ _ _ _ _ _ (G (Frame.at _ _ (Item.inRegion _ (_::_)::_)) _) _));u_conv H.underlying_tWgP H.room_tWg (WgLive.cell0 hF).choose_spec (fun _ h=>h) hF)
   |fail)
 refine Goes.stop (fun w₁ h₁=>?_);clear h₁ hF;refine⟨rfl,rfl,_,fun _ _=>stepG_markAt .releaseMerge (by simp) rfl rfl (by k_ne) rfl H.f_relMerge (x_relMerge_n L) (x_relMerge_b L) (x_relMerge_x L) (x_relMerge_f L) (by simp[Act.eval,stA]),?_⟩;clear w₁ w;walk_nrm
 refine aa3 ?_;refine aW 10 (fun w hF=>?_) hi;repeat (first
   |(with_reducible (show Go.Conc.Goes _ _ _ _ _ _ (G (Frame.at _ _ _) _) _)
     first
     | u_c stepG_seq (fun _ h=>h) hF
     | u_c stepG_skip (fun _ h=>h) hF
     | u_c stepG_region_end (fun _ h=>h) hF
     | u_c stepG_ret' (fun _ h=>h) hF
     | u_reg (fun _ h=>h) hF
     | u_cond true (fun _ h=>h) hF
     | u_cond false (fun _ h=>h) hF
     | u_skip (fun _ h=>h) hF
     | (with_reducible (show Go.Conc.Goes _ _ _ _ _ _ (G (Frame.at _ _ (Item.inRegion _ (_::_)::_)) _) _));u_op (fun _ h=>h) hF)
   |fail)
 refine Goes.stop (fun w₁ h₁=>?_);clear h₁ hF;refine⟨rfl,_,fun _ _=>stepG_mark0 .disable (by simp) rfl rfl (by k_ne) rfl H.f_disable (x_disable_n L) (x_disable_b L) (x_disable_x L) (x_disable_f L),?_⟩;clear w₁ w;walk_nrm
 refine aW 60 (fun w hF=>?_) hi;repeat (first
   |(with_reducible (show Go.Conc.Goes _ _ _ _ _ _ (G (Frame.at _ _ _) _) _)
     first
     | u_c stepG_seq (fun _ h=>h) hF
     | u_c stepG_skip (fun _ h=>h) hF
     | u_c stepG_region_end (fun _ h=>h) hF
     | u_c stepG_ret' (fun _ h=>h) hF
     | u_reg (fun _ h=>h) hF
     | u_cond true (fun _ h=>h) hF
     | u_cond false (fun _ h=>h) hF
     | u_skip (fun _ h=>h) hF
     | u_call H.f_uAdd (nm_uAdd L) uAddFn (fun _ h=>h) hF
     | u_defer (fun _ h=>h) hF
     | u_bub (fun _ h=>h) hF
     | (with_reducible (show Go.Conc.Goes _ _ _ _ _ _ (G (Frame.at _ _ (Item.inRegion _ (_::_)::_)) _) _));u_op (fun _ h=>h) hF)
   |fail)
 refine Goes.stop (fun w₁ h₁=>?_);clear h₁ hF;refine⟨rfl,rfl,fun v wt hwt hv=>?_⟩;have e0:IntKind.u64.wrap (KK+18446744069414584320)=0:=by decide
 have e1:IntKind.u64.wrap (KK+1+18446744069414584320)=1:=by decide
 rcases Nat.eq_zero_or_pos v with rfl|hvp<;>(obtain rfl|rfl:wt=0∨wt=1:=by omega)
 ·have z:((0:Nat):Int)*KK+((0:Nat):Int)=0:=by simp
  have z':(((0:Nat):Int)+1)*KK+((0:Nat):Int)=KK:=by simp
  rw[z,z'];refine⟨_,fun w _ hw=>(stepG_add_atomic rfl rfl (by k_ne) rfl H.f_addU64 (x_addU64_n L) (x_addU64_b L) (x_addU64_x L) .u64 (x_addU64_f L) rfl rfl hw.cellSt (hw.thaw 0)).trans (by rw[e0];rfl),fun hl=>absurd hl.2 (by decide),fun _=>?_⟩;clear w₁ w;refine⟨qt+250,?_⟩;walk_nrm
  repeat (first
    | (with_reducible (show QuitsD _ _ _ (G (Frame.at _ _ _) _))
       first
       | (with_reducible (show QuitsD _ _ _ (G (Frame.at _ _ (Item.code (Code.seq _ _)::_)) _)));q_c stepG_seq
       | (with_reducible (show QuitsD _ _ _ (G (Frame.at _ _ (Item.code Code.skip::_)) _)));q_c stepG_skip
       | (with_reducible (show QuitsD _ _ _ (G (Frame.at _ _ (Item.inRegion _ []::_)) _)));q_c stepG_region_end
       | (with_reducible (show QuitsD _ _ _ (G (Frame.at _ _ (Item.code (Code.region _ _ _)::_)) _)));q_reg
       | (with_reducible (show QuitsD _ _ _ (G (Frame.at _ _ (Item.inBlock _::_)) _)));q_c stepG_inBlock
       | (with_reducible (show QuitsD _ _ _ (G (Frame.at _ _ (Item.inLoop _::_)) _)));q_c stepG_inLoop
       | (with_reducible (show QuitsD _ _ _ (G (Frame.at _ _ (Item.code (Code.block _ _)::_)) _)));q_c stepG_block
       | (with_reducible (show QuitsD _ _ _ (G (Frame.at _ _ (Item.code (Code.loop _)::_)) _)));q_c stepG_loop
       | (with_reducible (show QuitsD _ _ _ (G (Frame.at _ _ (Item.code (Code.exit _)::_)) _)));q_exit
       | (with_reducible (show QuitsD _ _ _ (G (Frame.at _ _ (Item.code (Code.cond _ _ _)::_)) _)));(q_c (stepG_cond (t:=true) (by first|rfl|(simp[Act.eval];omega))));(simp only[if_true,if_false,Bool.false_eq_true,↓reduceIte])
       | (with_reducible (show QuitsD _ _ _ (G (Frame.at _ _ (Item.code (Code.cond _ _ _)::_)) _)));(q_c (stepG_cond (t:=false) (by first|rfl|(simp[Act.eval];omega))));(simp only[if_true,if_false,Bool.false_eq_true,↓reduceIte])
       | (with_reducible (show QuitsD _ _ _ (G (Frame.at _ _ (Item.inRegion _ (_::_)::_)) _)));(first|(q_skip)|((refine BZ rfl rfl (by k_ne) ?_;apply Exists.intro;refine And.intro (fun _=>?_) (And.intro (fun _=>?_) ?_);(go_simp;first|rfl|(w_num;rfl));(simp[go_sem, *]);walk_nrm;try w_num)))
       | (with_reducible (show QuitsD _ _ _ (G (Frame.at _ _ []) _)));q_c stepG_end
       | q_c stepG_ret')
    | q_leave1 H.f_uAdd)
  q_enable
  q_leave0 H.f_add
  exact rQ _ hT
 ·have z:((0:Nat):Int)*KK+((1:Nat):Int)=1:=by simp
  have z':(((0:Nat):Int)+1)*KK+((1:Nat):Int)=KK+1:=by simp
  rw[z,z'];refine⟨_,fun w _ hw=>(stepG_add_atomic rfl rfl (by k_ne) rfl H.f_addU64 (x_addU64_n L) (x_addU64_b L) (x_addU64_x L) .u64 (x_addU64_f L) rfl rfl hw.cellSt (hw.thaw 0)).trans (by rw[e1];rfl),fun _=>pY 1 ?_,fun hl=>absurd ⟨rfl,rfl⟩ hl⟩;clear w₁ w;walk_nrm
  refine aW 120 (fun w hF=>?_) hi;repeat (first
    | (with_reducible (show Go.Conc.Goes _ _ _ _ _ _ (G (Frame.at _ _ _) _) _)
       first
       | u_c stepG_seq (fun _ h=>h) hF
       | u_c stepG_skip (fun _ h=>h) hF
       | u_c stepG_region_end (fun _ h=>h) hF
       | u_c stepG_ret' (fun _ h=>h) hF
       | u_reg (fun _ h=>h) hF
       | u_cond true (fun _ h=>h) hF
       | u_cond false (fun _ h=>h) hF
       | u_skip (fun _ h=>h) hF
       | u_call H.f_uLoad (nm_uLoad L) uLoadFn (fun _ h=>h) hF
       | u_cnd true (fun _ h=>h) hF
       | u_cnd false (fun _ h=>h) hF
       | (with_reducible (show Go.Conc.Goes _ _ _ _ _ _ (G (Frame.at _ _ (Item.inRegion _ (_::_)::_)) _) _));u_op (fun _ h=>h) hF)
    | u_leave1 H.f_uAdd (fun _ h=>h) hF)
  refine Goes.stop (fun w₁ h₁=>?_);clear h₁ hF;refine⟨rfl,rfl,_,fun w _ hw=>stepG_load_atomic (v:=1) rfl rfl (by k_ne) rfl H.f_loadU64 (x_loadU64_n L) (x_loadU64_b L) (x_loadU64_x L) .u64 (x_loadU64_f L) rfl hw.cellSt,pY 1 ?_⟩;clear w₁ w;walk_nrm
  refine aW 60 (fun w hF=>?_) hi;repeat (first
    | (with_reducible (show Go.Conc.Goes _ _ _ _ _ _ (G (Frame.at _ _ _) _) _)
       first
       | u_c stepG_seq (fun _ h=>h) hF
       | u_c stepG_skip (fun _ h=>h) hF
       | u_c stepG_region_end (fun _ h=>h) hF
       | u_c stepG_ret' (fun _ h=>h) hF
       | u_reg (fun _ h=>h) hF
       | u_cond true (fun _ h=>h) hF
       | u_cond false (fun _ h=>h) hF
       | u_skip (fun _ h=>h) hF
       | u_call H.f_uStore (nm_uStore L) uStoreFn (fun _ h=>h) hF
       | u_cnd true (fun _ h=>h) hF
       | u_cnd false (fun _ h=>h) hF
       | (with_reducible (show Go.Conc.Goes _ _ _ _ _ _ (G (Frame.at _ _ (Item.inRegion _ (_::_)::_)) _) _));u_op (fun _ h=>h) hF)
    | u_leave1 H.f_uLoad (fun _ h=>h) hF)
  refine Goes.stop (fun w₁ h₁=>?_);clear h₁ hF;refine⟨rfl,rfl,_,fun w _ hw=>stepG_store_atomic rfl rfl (by k_ne) rfl H.f_storeU64 (x_storeU64_n L) (x_storeU64_b L) (x_storeU64_x L) (x_storeU64_f L) rfl rfl hw.cellSt (hw.thaw 0),pY 1 ?_⟩;clear w₁ w;walk_nrm
  refine aW 60 (fun w hF=>?_) hi;repeat (first
    | (with_reducible (show Go.Conc.Goes _ _ _ _ _ _ (G (Frame.at _ _ _) _) _)
       first
       | u_c stepG_seq (fun _ h=>h) hF
       | u_c stepG_skip (fun _ h=>h) hF
       | u_c stepG_region_end (fun _ h=>h) hF
       | u_c stepG_ret' (fun _ h=>h) hF
       | u_reg (fun _ h=>h) hF
       | u_cond true (fun _ h=>h) hF
       | u_cond false (fun _ h=>h) hF
       | u_skip (fun _ h=>h) hF
       | u_cnd true (fun _ h=>h) hF
       | u_cnd false (fun _ h=>h) hF
       | u_c stepG_end (fun _ h=>h) hF
       | u_c stepG_block (fun _ h=>h) hF
       | u_c stepG_loop (fun _ h=>h) hF
       | (with_reducible (show Go.Conc.Goes _ _ _ _ _ _ (G (Frame.at _ _ (Item.inRegion _ (_::_)::_)) _) _));u_op (fun _ h=>h) hF)
    | u_leave1 H.f_uLoad (fun _ h=>h) hF
    | u_leave0 H.f_uStore (fun _ h=>h) hF)
  refine Goes.stop (fun w₁ h₁=>?_);clear h₁ hF;refine⟨rfl,rfl,mayWake_entry rfl rfl H.f_semrelease (x_semrelease_b L),_,fun w _ hw=>(stepG_semrelease rfl rfl (by k_ne) rfl H.f_semrelease (x_semrelease_n L) (x_semrelease_b L) (x_semrelease_x L) (x_semrelease_f L) (by simp[Act.eval,smA]) hw.cellSm (hw.thaw 1)).trans (by rfl),?_⟩;clear w₁ w;refine⟨qt+250,?_⟩;walk_nrm
  repeat (first
    | (with_reducible (show QuitsD _ _ _ (G (Frame.at _ _ _) _))
       first
       | (with_reducible (show QuitsD _ _ _ (G (Frame.at _ _ (Item.code (Code.seq _ _)::_)) _)));q_c stepG_seq
       | (with_reducible (show QuitsD _ _ _ (G (Frame.at _ _ (Item.code Code.skip::_)) _)));q_c stepG_skip
       | (with_reducible (show QuitsD _ _ _ (G (Frame.at _ _ (Item.inRegion _ []::_)) _)));q_c stepG_region_end
       | (with_reducible (show QuitsD _ _ _ (G (Frame.at _ _ (Item.code (Code.region _ _ _)::_)) _)));q_reg
       | (with_reducible (show QuitsD _ _ _ (G (Frame.at _ _ (Item.inBlock _::_)) _)));q_c stepG_inBlock
       | (with_reducible (show QuitsD _ _ _ (G (Frame.at _ _ (Item.inLoop _::_)) _)));q_c stepG_inLoop
       | (with_reducible (show QuitsD _ _ _ (G (Frame.at _ _ (Item.code (Code.block _ _)::_)) _)));q_c stepG_block
       | (with_reducible (show QuitsD _ _ _ (G (Frame.at _ _ (Item.code (Code.loop _)::_)) _)));q_c stepG_loop
       | (with_reducible (show QuitsD _ _ _ (G (Frame.at _ _ (Item.code (Code.exit _)::_)) _)));q_exit
       | (with_reducible (show QuitsD _ _ _ (G (Frame.at _ _ (Item.code (Code.cond _ _ _)::_)) _)));(q_c (stepG_cond (t:=true) (by first|rfl|(simp[Act.eval];omega))));(simp only[if_true,if_false,Bool.false_eq_true,↓reduceIte])
       | (with_reducible (show QuitsD _ _ _ (G (Frame.at _ _ (Item.code (Code.cond _ _ _)::_)) _)));(q_c (stepG_cond (t:=false) (by first|rfl|(simp[Act.eval];omega))));(simp only[if_true,if_false,Bool.false_eq_true,↓reduceIte])
       | (with_reducible (show QuitsD _ _ _ (G (Frame.at _ _ (Item.inRegion _ (_::_)::_)) _)));(first|(q_skip)|((refine BZ rfl rfl (by k_ne) ?_;apply Exists.intro;refine And.intro (fun _=>?_) (And.intro (fun _=>?_) ?_);(go_simp;first|rfl|(w_num;rfl));(simp[go_sem, *]);walk_nrm;try w_num)))
       | (with_reducible (show QuitsD _ _ _ (G (Frame.at _ _ []) _)));q_c stepG_end
       | q_c stepG_ret')
    | q_leave1 H.f_uAdd)
  q_enable
  q_leave0 H.f_add
  exact rQ _ hT
 ·obtain⟨V,hV⟩:∃V:Int,V=(v:Int):=⟨_,rfl⟩
  obtain⟨N,hN⟩:∃N:Int,N=V*KK+0:=⟨_,rfl⟩
  have eN:IntKind.u64.wrap (((v:Int)+1)*KK+0+18446744069414584320)=N:=by rw[IntKind.wrap_u64,hN,hV];simp only[KK];omega
  have z:((v:Nat):Int)*KK+((0:Nat):Int)=N:=by rw[hN,hV];simp
  have z':(((v:Nat):Int)+1)*KK+((0:Nat):Int)=((v:Int)+1)*KK+0:=by simp
  have a1:N/4294967296=V:=by rw[hN];simp only[KK];omega
  have b1:bits .and .u64 N 2147483648=0:=by rw[hN,hV];have:=st_flag v 0 (by omega) (by omega);simpa [KK]using this
  have b2:bits .and .u64 N 2147483647=0:=by rw[hN,hV];have:=st_waiters v 0 (by omega) (by omega);simpa [KK]using this
  have c1:IntKind.i32.wrap V=V:=by rw[IntKind.wrap_i32];omega
  have hV1:0<V:=by omega
  have hV2:V<2147483648:=by omega
  have q2:decide (V=-1)=false:=decide_eq_false (by omega)
  have q1:(V==-1)=false:=by simp;omega
  have q3:decide (V<0)=false:=decide_eq_false (by omega)
  have q4:decide (0<V)=true:=decide_eq_true (by omega)
  have q5:(V==0)=false:=by simp;omega
  have q6:decide (V=0)=false:=decide_eq_false (by omega)
  rw[z,z'];refine⟨_,fun w _ hw=>(stepG_add_atomic rfl rfl (by k_ne) rfl H.f_addU64 (x_addU64_n L) (x_addU64_b L) (x_addU64_x L) .u64 (x_addU64_f L) rfl rfl hw.cellSt (hw.thaw 0)).trans (by rw[eN];rfl),fun hl=>absurd hl.1 (by omega),fun _=>?_⟩;clear hV hN eN z z' w₁ w;refine⟨qt+250,?_⟩;walk_nrm
  repeat (first
    | (with_reducible (show QuitsD _ _ _ (G (Frame.at _ _ _) _))
       first
       | (with_reducible (show QuitsD _ _ _ (G (Frame.at _ _ (Item.code (Code.seq _ _)::_)) _)));q_c stepG_seq
       | (with_reducible (show QuitsD _ _ _ (G (Frame.at _ _ (Item.code Code.skip::_)) _)));q_c stepG_skip
       | (with_reducible (show QuitsD _ _ _ (G (Frame.at _ _ (Item.inRegion _ []::_)) _)));q_c stepG_region_end
       | (with_reducible (show QuitsD _ _ _ (G (Frame.at _ _ (Item.code (Code.region _ _ _)::_)) _)));q_reg
       | (with_reducible (show QuitsD _ _ _ (G (Frame.at _ _ (Item.inBlock _::_)) _)));q_c stepG_inBlock
       | (with_reducible (show QuitsD _ _ _ (G (Frame.at _ _ (Item.inLoop _::_)) _)));q_c stepG_inLoop
       | (with_reducible (show QuitsD _ _ _ (G (Frame.at _ _ (Item.code (Code.block _ _)::_)) _)));q_c stepG_block
       | (with_reducible (show QuitsD _ _ _ (G (Frame.at _ _ (Item.code (Code.loop _)::_)) _)));q_c stepG_loop
       | (with_reducible (show QuitsD _ _ _ (G (Frame.at _ _ (Item.code (Code.exit _)::_)) _)));q_exit
       | (with_reducible (show QuitsD _ _ _ (G (Frame.at _ _ (Item.code (Code.cond _ _ _)::_)) _)));(q_c (stepG_cond (t:=true) (by first|rfl|(simp[Act.eval];omega))));(simp only[if_true,if_false,Bool.false_eq_true,↓reduceIte])
       | (with_reducible (show QuitsD _ _ _ (G (Frame.at _ _ (Item.code (Code.cond _ _ _)::_)) _)));(q_c (stepG_cond (t:=false) (by first|rfl|(simp[Act.eval];omega))));(simp only[if_true,if_false,Bool.false_eq_true,↓reduceIte])
       | (with_reducible (show QuitsD _ _ _ (G (Frame.at _ _ (Item.inRegion _ (_::_)::_)) _)));(first|(q_skip)|((refine BZ rfl rfl (by k_ne) ?_;apply Exists.intro;refine And.intro (fun _=>?_) (And.intro (fun _=>?_) ?_);(go_simp;first|rfl|(w_num;rfl));(simp[go_sem, *]);walk_nrm;try w_num)))
       | (with_reducible (show QuitsD _ _ _ (G (Frame.at _ _ []) _)));q_c stepG_end
       | q_c stepG_ret')
    | q_leave1 H.f_uAdd)
  q_enable
  q_leave0 H.f_add
  exact rQ _ hT
 ·obtain⟨V,hV⟩:∃V:Int,V=(v:Int):=⟨_,rfl⟩
  obtain⟨N,hN⟩:∃N:Int,N=V*KK+1:=⟨_,rfl⟩
  have eN:IntKind.u64.wrap (((v:Int)+1)*KK+1+18446744069414584320)=N:=by rw[IntKind.wrap_u64,hN,hV];simp only[KK];omega
  have z:((v:Nat):Int)*KK+((1:Nat):Int)=N:=by rw[hN,hV];simp
  have z':(((v:Nat):Int)+1)*KK+((1:Nat):Int)=((v:Int)+1)*KK+1:=by simp
  have a1:N/4294967296=V:=by rw[hN];simp only[KK];omega
  have b1:bits .and .u64 N 2147483648=0:=by rw[hN,hV];have:=st_flag v 1 (by omega) (by omega);simpa [KK]using this
  have b2:bits .and .u64 N 2147483647=1:=by rw[hN,hV];have:=st_waiters v 1 (by omega) (by omega);simpa [KK]using this
  have c1:IntKind.i32.wrap V=V:=by rw[IntKind.wrap_i32];omega
  have hV1:0<V:=by omega
  have hV2:V<2147483648:=by omega
  have q2:decide (V=-1)=false:=decide_eq_false (by omega)
  have q1:(V==-1)=false:=by simp;omega
  have q3:decide (V<0)=false:=decide_eq_false (by omega)
  have q4:decide (0<V)=true:=decide_eq_true (by omega)
  have q5:(V==0)=false:=by simp;omega
  have q6:decide (V=0)=false:=decide_eq_false (by omega)
  rw[z,z'];refine⟨_,fun w _ hw=>(stepG_add_atomic rfl rfl (by k_ne) rfl H.f_addU64 (x_addU64_n L) (x_addU64_b L) (x_addU64_x L) .u64 (x_addU64_f L) rfl rfl hw.cellSt (hw.thaw 0)).trans (by rw[eN];rfl),fun hl=>absurd hl.1 (by omega),fun _=>?_⟩;clear hV hN eN z z' w₁ w;refine⟨qt+250,?_⟩;walk_nrm
  repeat (first
    | (with_reducible (show QuitsD _ _ _ (G (Frame.at _ _ _) _))
       first
       | (with_reducible (show QuitsD _ _ _ (G (Frame.at _ _ (Item.code (Code.seq _ _)::_)) _)));q_c stepG_seq
       | (with_reducible (show QuitsD _ _ _ (G (Frame.at _ _ (Item.code Code.skip::_)) _)));q_c stepG_skip
       | (with_reducible (show QuitsD _ _ _ (G (Frame.at _ _ (Item.inRegion _ []::_)) _)));q_c stepG_region_end
       | (with_reducible (show QuitsD _ _ _ (G (Frame.at _ _ (Item.code (Code.region _ _ _)::_)) _)));q_reg
       | (with_reducible (show QuitsD _ _ _ (G (Frame.at _ _ (Item.inBlock _::_)) _)));q_c stepG_inBlock
       | (with_reducible (show QuitsD _ _ _ (G (Frame.at _ _ (Item.inLoop _::_)) _)));q_c stepG_inLoop
       | (with_reducible (show QuitsD _ _ _ (G (Frame.at _ _ (Item.code (Code.block _ _)::_)) _)));q_c stepG_block
       | (with_reducible (show QuitsD _ _ _ (G (Frame.at _ _ (Item.code (Code.loop _)::_)) _)));q_c stepG_loop
       | (with_reducible (show QuitsD _ _ _ (G (Frame.at _ _ (Item.code (Code.exit _)::_)) _)));q_exit
       | (with_reducible (show QuitsD _ _ _ (G (Frame.at _ _ (Item.code (Code.cond _ _ _)::_)) _)));(q_c (stepG_cond (t:=true) (by first|rfl|(simp[Act.eval];omega))));(simp only[if_true,if_false,Bool.false_eq_true,↓reduceIte])
       | (with_reducible (show QuitsD _ _ _ (G (Frame.at _ _ (Item.code (Code.cond _ _ _)::_)) _)));(q_c (stepG_cond (t:=false) (by first|rfl|(simp[Act.eval];omega))));(simp only[if_true,if_false,Bool.false_eq_true,↓reduceIte])
       | (with_reducible (show QuitsD _ _ _ (G (Frame.at _ _ (Item.inRegion _ (_::_)::_)) _)));(first|(q_skip)|((refine BZ rfl rfl (by k_ne) ?_;apply Exists.intro;refine And.intro (fun _=>?_) (And.intro (fun _=>?_) ?_);(go_simp;first|rfl|(w_num;rfl));(simp[go_sem, *]);walk_nrm;try w_num)))
       | (with_reducible (show QuitsD _ _ _ (G (Frame.at _ _ []) _)));q_c stepG_end
       | q_c stepG_ret')
    | q_leave1 H.f_uAdd)
  q_enable
  q_leave0 H.f_add
  exact rQ _ hT
end
end Go.Ren
