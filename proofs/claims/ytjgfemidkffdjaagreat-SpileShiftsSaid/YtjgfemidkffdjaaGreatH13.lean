import Derived.Test.YtjgfemidkffdjaaGreatH7
set_option linter.all false
namespace Go.Ren
open Go.Conc hiding Goes
open Go.Conc.Lib Go.ConcR.Gen Go.RowKit Go.ConcN Go.ConcN.Gen
open Go.ConcR (KK wgBlock WgAt stA smA rd wr mk DC0)
section
variable{P:Program}{m:Bool}{X:Event->Prop}{L:WgLink}{Wg:Nat}{S T:Goroutine->Prop}
set_option maxRecDepth 100000 in
set_option maxHeartbeats 8000000 in
theorem Nk(H:WgLib P L)(hi:∃w,Lv L Wg w)(hX:∀a:Addr,a.block=Wg->X ⟨.mark (.write a),false,true⟩)
  {b₀:Frame} {a₀:Act} {ops₀:Array Oper} {i₀:Nat} {rest₀:List Nat} {k₀:List Item} {cs:List Frame}
  (hT:T (G (b₀.at (a₀.put ((ops₀[i₀]?).bind (·.dst)) (.tuple #[])) (.inRegion ops₀ rest₀::k₀)) cs)) {g:Goroutine} (h:sG L Wg (b₀.at a₀ (.inRegion ops₀ (i₀::rest₀)::k₀)) cs g):
  Idle P m (Lv L Wg) X (adg P m X L Wg T (sG L Wg (b₀.at a₀ (.inRegion ops₀ (i₀::rest₀)::k₀)) cs)) g:=by
 lib_facts
 obtain⟨A,rfl,hA,t0⟩:=h
 obtain⟨v0,v1,v2,v3,v4,v5,v6,v7,v8,v9,v10,v11,v12,v13,v14,v15,v16,v17,v18,v19,v20,v21,v22,v23,v24,v25,v26,v27,v28,v29,v30,v31,v32,v33,v34,v35,v36,v37,v38,v39,v40,v41,v42,v43,v44,v45,v46,v47,v48,v49,v50,v51,v52,v53,v54,v55,v56,v57,v58,v59,v60,v61,v62,v63,v64,v65,v66,v67,v68,v69,v70,v71,v72,v73,v74,v75,v76,v77,v78,v79,v80,v81,v82,v83,rfl⟩:=array84 A hA
 simp only[List.getElem?_toArray,List.getElem?_cons_zero,Option.some.injEq]at t0;subst t0;simp only[L7,body_wait,waitFn,Option.getD_some]
 refine aW 40 (fun w hF=>?_) hi;repeat (first
   |(with_reducible (show Go.Conc.Goes _ _ _ _ _ _ (G (Frame.at _ _ _) _) _)
     first
     | u_c stepG_seq (fun _ h=>h) hF
     | u_c stepG_skip (fun _ h=>h) hF
     | u_c stepG_region_end (fun _ h=>h) hF
     | u_c stepG_ret' (fun _ h=>h) hF
     | u_reg (fun _ h=>h) hF
     | u_cond true (fun _ h=>h) hF
     | u_cond false (fun _ h=>h) hF
     | u_skip (fun _ h=>h) hF
     | u_call H.f_uLoad (nm_uLoad L) uLoadFn (fun _ h=>h) hF
     | u_c stepG_block (fun _ h=>h) hF
     | (with_reducible (show Go.Conc.Goes _ _ _ _ _ _ (G (Frame.at _ _ (Item.inRegion _ (_::_)::_)) _) _));u_op (fun _ h=>h) hF)
   |fail)
 refine Goes.stop (fun w₁ h₁=>?_);clear h₁ hF;refine⟨rfl,fun v hv=>?_⟩;rcases Nat.eq_zero_or_pos v with rfl|hvp
 ·have z0:((0:Nat):Int)*KK=0:=by simp
  rw[z0];refine⟨_,fun w _ hw=>stepG_load_atomic (v:=0) rfl rfl (by k_ne) rfl H.f_loadU64 (x_loadU64_n L) (x_loadU64_b L) (x_loadU64_x L) .u64 (x_loadU64_f L) rfl hw.cellSt,fun _=>?_,fun h=>absurd rfl h⟩;clear w₁ w;walk_nrm
  refine aW 80 (fun w hF=>?_) hi;repeat (first
    | (with_reducible (show Go.Conc.Goes _ _ _ _ _ _ (G (Frame.at _ _ _) _) _)
       first
       | u_c stepG_seq (fun _ h=>h) hF
       | u_c stepG_skip (fun _ h=>h) hF
       | u_c stepG_region_end (fun _ h=>h) hF
       | u_c stepG_ret' (fun _ h=>h) hF
       | u_reg (fun _ h=>h) hF
       | u_cond true (fun _ h=>h) hF
       | u_cond false (fun _ h=>h) hF
       | u_skip (fun _ h=>h) hF
       | (with_reducible (show Go.Conc.Goes _ _ _ _ _ _ (G (Frame.at _ _ (Item.inRegion _ (_::_)::_)) _) _));u_op (fun _ h=>h) hF)
    | u_leave1 H.f_uLoad (fun _ h=>h) hF
    | u_leave1 H.f_uCas (fun _ h=>h) hF)
  refine Goes.stop (fun w₁ h₁=>?_);clear h₁ hF;refine⟨rfl,_,fun _ _=>stepG_mark0 .enable (by simp) rfl rfl (by k_ne) rfl H.f_enable (x_enable_n L) (x_enable_b L) (x_enable_x L) (x_enable_f L),?_⟩;clear w₁ w;walk_nrm
  refine aW 40 (fun w hF=>?_) hi;repeat (first
    | (with_reducible (show Go.Conc.Goes _ _ _ _ _ _ (G (Frame.at _ _ _) _) _)
       first
       | u_c stepG_seq (fun _ h=>h) hF
       | u_c stepG_skip (fun _ h=>h) hF
       | u_c stepG_region_end (fun _ h=>h) hF
       | u_c stepG_ret' (fun _ h=>h) hF
       | u_reg (fun _ h=>h) hF
       | u_cond true (fun _ h=>h) hF
       | u_cond false (fun _ h=>h) hF
       | u_skip (fun _ h=>h) hF
       | (with_reducible (show Go.Conc.Goes _ _ _ _ _ _ (G (Frame.at _ _ (Item.inRegion _ (_::_)::_)) _) _));u_op (fun _ h=>h) hF
       | (with_reducible (show Go.Conc.Goes _ _ _ _ _ _ (G (Frame.at _ _ (Item.inRegion _ (_::_)::_)) _) _));u_conv H.underlying_tWgP H.room_tWg (WgLive.cell0 hF).choose_spec (fun _ h=>h) hF)
    | fail)
  refine Goes.stop (fun w₁ h₁=>?_);clear h₁ hF;refine⟨rfl,_,fun _ _=>stepG_markAt .acquire (by simp) rfl rfl (by k_ne) rfl H.f_acquire (x_acquire_n L) (x_acquire_b L) (x_acquire_x L) (x_acquire_f L) (by simp[Act.eval,stA]),?_⟩;clear w₁ w;walk_nrm
  refine aW 60 (fun w hF=>?_) hi;repeat (first
    | (with_reducible (show Go.Conc.Goes _ _ _ _ _ _ (G (Frame.at _ _ _) _) _)
       first
       | u_c stepG_seq (fun _ h=>h) hF
       | u_c stepG_skip (fun _ h=>h) hF
       | u_c stepG_region_end (fun _ h=>h) hF
       | u_c stepG_ret' (fun _ h=>h) hF
       | u_reg (fun _ h=>h) hF
       | u_cond true (fun _ h=>h) hF
       | u_cond false (fun _ h=>h) hF
       | u_skip (fun _ h=>h) hF
       | (with_reducible (show Go.Conc.Goes _ _ _ _ _ _ (G (Frame.at _ _ (Item.inRegion _ (_::_)::_)) _) _));u_op (fun _ h=>h) hF)
    | fail)
  u_leave0 H.f_wait (fun _ h=>h) hF
  exact Goes.stop (fun _ _=>hT)
 ·obtain⟨N,hN⟩:∃N:Int,(v:Int)*KK=N:=⟨_,rfl⟩
  have a1:N/4294967296=(v:Int):=by rw[←hN];simp only[KK];omega
  have b1:bits .and .u64 N 2147483648=0:=by rw[←hN];have:=st_flag v 0 (by omega) (by omega);simpa [KK]using this
  have b2:bits .and .u64 N 2147483647=0:=by rw[←hN];have:=st_waiters v 0 (by omega) (by omega);simpa [KK]using this
  have c1:IntKind.i32.wrap (v:Int)=(v:Int):=by rw[IntKind.wrap_i32];omega
  have w1:IntKind.u64.wrap (N+1)=N+1:=by rw[IntKind.wrap_u64,←hN];simp only[KK];omega
  have q3:decide ((v:Int)<0)=false:=decide_eq_false (by omega)
  have q4:decide (0<(v:Int))=true:=decide_eq_true (by omega)
  have q5:((v:Int)==0)=false:=by simp;omega
  have q6:decide ((v:Int)=0)=false:=decide_eq_false (by omega)
  rw[hN];refine⟨_,fun w _ hw=>stepG_load_atomic (v:=N) rfl rfl (by k_ne) rfl H.f_loadU64 (x_loadU64_n L) (x_loadU64_b L) (x_loadU64_x L) .u64 (x_loadU64_f L) rfl hw.cellSt,fun h0=>absurd h0 (by omega),fun _=>?_⟩;clear w₁ w;walk_nrm
  refine aW 120 (fun w hF=>?_) hi;repeat (first
    | (with_reducible (show Go.Conc.Goes _ _ _ _ _ _ (G (Frame.at _ _ _) _) _)
       first
       | u_c stepG_seq (fun _ h=>h) hF
       | u_c stepG_skip (fun _ h=>h) hF
       | u_c stepG_region_end (fun _ h=>h) hF
       | u_c stepG_ret' (fun _ h=>h) hF
       | u_reg (fun _ h=>h) hF
       | u_cond true (fun _ h=>h) hF
       | u_cond false (fun _ h=>h) hF
       | u_skip (fun _ h=>h) hF
       | u_call H.f_uCas (nm_uCas L) uCasFn (fun _ h=>h) hF
       | u_cnd true (fun _ h=>h) hF
       | u_cnd false (fun _ h=>h) hF
       | (with_reducible (show Go.Conc.Goes _ _ _ _ _ _ (G (Frame.at _ _ (Item.inRegion _ (_::_)::_)) _) _));u_op (fun _ h=>h) hF)
    | u_leave1 H.f_uLoad (fun _ h=>h) hF
    | u_leave1 H.f_uCas (fun _ h=>h) hF)
  refine Goes.stop (fun w₁ h₁=>?_);clear h₁ hF;refine⟨rfl,fun v' hv'=>⟨fun e=>?_,fun e=>?_⟩⟩
  ·subst e;rw[hN];refine⟨_,fun w _ hw=>(stepG_cas_hit (v:=N) (n:=N+1) rfl rfl (by k_ne) rfl H.f_casU64 (x_casU64_n L) (x_casU64_b L) (x_casU64_x L) .u64 (x_casU64_f L) rfl rfl rfl hw.cellSt (hw.thaw 0)).trans (by rfl),?_⟩;clear w₁ w;walk_nrm
   refine Idle.bind (S:=Says P m (Lv L Wg) #[⟨.mark (.write ⟨Wg,1,none⟩),false,true⟩] (Idle P m (Lv L Wg) X (Xg P m X L Wg T))) ?_
    (fun g ⟨hs,g',hg,hk⟩=>Idle.says hs hg (fun w hw e he=>by rw[Array.mem_singleton]at he;subst he;exact⟨hX _ rfl,RH hw⟩) hk)
   refine aW 60 (fun w hF=>?_) hi;repeat (first
      | (with_reducible (show Go.Conc.Goes _ _ _ _ _ _ (G (Frame.at _ _ _) _) _)
         first
         | u_c stepG_seq (fun _ h=>h) hF
         | u_c stepG_skip (fun _ h=>h) hF
         | u_c stepG_region_end (fun _ h=>h) hF
         | u_c stepG_ret' (fun _ h=>h) hF
         | u_reg (fun _ h=>h) hF
         | u_cond true (fun _ h=>h) hF
         | u_cond false (fun _ h=>h) hF
         | u_skip (fun _ h=>h) hF
         | (with_reducible (show Go.Conc.Goes _ _ _ _ _ _ (G (Frame.at _ _ (Item.inRegion _ (_::_)::_)) _) _));u_op (fun _ h=>h) hF
         | (with_reducible (show Go.Conc.Goes _ _ _ _ _ _ (G (Frame.at _ _ (Item.inRegion _ (_::_)::_)) _) _));u_conv H.underlying_tPU32 H.room_tU32 (WgLive.cell1 hF).choose_spec (fun _ h=>h) hF)
      | u_leave1 H.f_uLoad (fun _ h=>h) hF
      | u_leave1 H.f_uCas (fun _ h=>h) hF)
   refine Goes.stop (fun w₁ h₁=>?_);clear h₁ hF;refine⟨rfl,_,fun _ _=>stepG_markAt .write (by simp) rfl rfl (by k_ne) rfl H.f_raceWrite (x_raceWrite_n L) (x_raceWrite_b L) (x_raceWrite_x L) (x_raceWrite_f L) (ad:=⟨Wg,1,none⟩) (by simp[Act.eval]<;>rfl),?_⟩;clear w₁ w;walk_nrm
   refine aW 80 (fun w hF=>?_) hi;repeat (first
      | (with_reducible (show Go.Conc.Goes _ _ _ _ _ _ (G (Frame.at _ _ _) _) _)
         first
         | u_c stepG_seq (fun _ h=>h) hF
         | u_c stepG_skip (fun _ h=>h) hF
         | u_c stepG_region_end (fun _ h=>h) hF
         | u_c stepG_ret' (fun _ h=>h) hF
         | u_reg (fun _ h=>h) hF
         | u_cond true (fun _ h=>h) hF
         | u_cond false (fun _ h=>h) hF
         | u_skip (fun _ h=>h) hF
         | (with_reducible (show Go.Conc.Goes _ _ _ _ _ _ (G (Frame.at _ _ (Item.inRegion _ (_::_)::_)) _) _));u_op (fun _ h=>h) hF)
      | fail)
   refine Goes.stop (fun w₁ h₁=>?_);clear h₁ hF;refine⟨rfl,rfl,fun w st hw=>stepG_semacquire_wait rfl rfl rfl H.f_semacquire (x_semacquire_n L) (x_semacquire_b L) (x_semacquire_x L) (x_semacquire_f L) (by simp[Act.eval,smA]) hw.cellSm,?_⟩;refine⟨_,fun w _ hf=>(stepG_semacquire (n:=1) rfl rfl (by k_ne) rfl H.f_semacquire (x_semacquire_n L) (x_semacquire_b L) (x_semacquire_x L) (x_semacquire_f L) (by simp[Act.eval,smA]) hf.cellSm (by k_ne) (hf.thaw 1)).trans (by rfl),?_⟩;clear w₁ w;walk_nrm
   refine aW 60 (fun w hF=>?_) hi;repeat (first
      | (with_reducible (show Go.Conc.Goes _ _ _ _ _ _ (G (Frame.at _ _ _) _) _)
         first
         | u_c stepG_seq (fun _ h=>h) hF
         | u_c stepG_skip (fun _ h=>h) hF
         | u_c stepG_region_end (fun _ h=>h) hF
         | u_c stepG_ret' (fun _ h=>h) hF
         | u_reg (fun _ h=>h) hF
         | u_cond true (fun _ h=>h) hF
         | u_cond false (fun _ h=>h) hF
         | u_skip (fun _ h=>h) hF
         | u_call H.f_uLoad (nm_uLoad L) uLoadFn (fun _ h=>h) hF
         | (with_reducible (show Go.Conc.Goes _ _ _ _ _ _ (G (Frame.at _ _ (Item.inRegion _ (_::_)::_)) _) _));u_op (fun _ h=>h) hF)
      | fail)
   refine Goes.stop (fun w₁ h₁=>?_);clear h₁ hF;refine⟨rfl,_,fun w _ hw=>stepG_load_atomic (v:=0) rfl rfl (by k_ne) rfl H.f_loadU64 (x_loadU64_n L) (x_loadU64_b L) (x_loadU64_x L) .u64 (x_loadU64_f L) rfl hw.cellSt,?_⟩;clear w₁ w;walk_nrm
   refine aW 60 (fun w hF=>?_) hi;repeat (first
      | (with_reducible (show Go.Conc.Goes _ _ _ _ _ _ (G (Frame.at _ _ _) _) _)
         first
         | u_c stepG_seq (fun _ h=>h) hF
         | u_c stepG_skip (fun _ h=>h) hF
         | u_c stepG_region_end (fun _ h=>h) hF
         | u_c stepG_ret' (fun _ h=>h) hF
         | u_reg (fun _ h=>h) hF
         | u_cond true (fun _ h=>h) hF
         | u_cond false (fun _ h=>h) hF
         | u_skip (fun _ h=>h) hF
         | (with_reducible (show Go.Conc.Goes _ _ _ _ _ _ (G (Frame.at _ _ (Item.inRegion _ (_::_)::_)) _) _));u_op (fun _ h=>h) hF)
      | u_leave1 H.f_uLoad (fun _ h=>h) hF
      | u_leave1 H.f_uCas (fun _ h=>h) hF)
   refine Goes.stop (fun w₁ h₁=>?_);clear h₁ hF;refine⟨rfl,_,fun _ _=>stepG_mark0 .enable (by simp) rfl rfl (by k_ne) rfl H.f_enable (x_enable_n L) (x_enable_b L) (x_enable_x L) (x_enable_f L),?_⟩;clear w₁ w;walk_nrm
   refine aW 40 (fun w hF=>?_) hi;repeat (first
      | (with_reducible (show Go.Conc.Goes _ _ _ _ _ _ (G (Frame.at _ _ _) _) _)
         first
         | u_c stepG_seq (fun _ h=>h) hF
         | u_c stepG_skip (fun _ h=>h) hF
         | u_c stepG_region_end (fun _ h=>h) hF
         | u_c stepG_ret' (fun _ h=>h) hF
         | u_reg (fun _ h=>h) hF
         | u_cond true (fun _ h=>h) hF
         | u_cond false (fun _ h=>h) hF
         | u_skip (fun _ h=>h) hF
         | (with_reducible (show Go.Conc.Goes _ _ _ _ _ _ (G (Frame.at _ _ (Item.inRegion _ (_::_)::_)) _) _));u_op (fun _ h=>h) hF
         | (with_reducible (show Go.Conc.Goes _ _ _ _ _ _ (G (Frame.at _ _ (Item.inRegion _ (_::_)::_)) _) _));u_conv H.underlying_tWgP H.room_tWg (WgLive.cell0 hF).choose_spec (fun _ h=>h) hF)
      | fail)
   refine Goes.stop (fun w₁ h₁=>?_);clear h₁ hF;refine⟨rfl,_,fun _ _=>stepG_markAt .acquire (by simp) rfl rfl (by k_ne) rfl H.f_acquire (x_acquire_n L) (x_acquire_b L) (x_acquire_x L) (x_acquire_f L) (by simp[Act.eval,stA]),?_⟩;clear w₁ w;walk_nrm
   refine aW 60 (fun w hF=>?_) hi;repeat (first
      | (with_reducible (show Go.Conc.Goes _ _ _ _ _ _ (G (Frame.at _ _ _) _) _)
         first
         | u_c stepG_seq (fun _ h=>h) hF
         | u_c stepG_skip (fun _ h=>h) hF
         | u_c stepG_region_end (fun _ h=>h) hF
         | u_c stepG_ret' (fun _ h=>h) hF
         | u_reg (fun _ h=>h) hF
         | u_cond true (fun _ h=>h) hF
         | u_cond false (fun _ h=>h) hF
         | u_skip (fun _ h=>h) hF
         | (with_reducible (show Go.Conc.Goes _ _ _ _ _ _ (G (Frame.at _ _ (Item.inRegion _ (_::_)::_)) _) _));u_op (fun _ h=>h) hF)
      | fail)
   u_leave0 H.f_wait (fun _ h=>h) hF
   exact Goes.stop (fun _ _=>hT)
  ·refine⟨_,fun w _ hw=>stepG_cas_miss (v:=(v':Int)*KK) (old:=N) (n:=N+1) rfl rfl (by k_ne) rfl H.f_casU64 (x_casU64_n L) (x_casU64_b L) (x_casU64_x L) .u64 (x_casU64_f L) rfl rfl rfl hw.cellSt (hw.thaw 0) (by rw[←hN];simp only[KK];omega),?_⟩;clear w₁ w;walk_nrm
   refine aW 40 (fun w hF=>?_) hi;repeat (first
      | (with_reducible (show Go.Conc.Goes _ _ _ _ _ _ (G (Frame.at _ _ _) _) _)
         first
         | u_c stepG_seq (fun _ h=>h) hF
         | u_c stepG_skip (fun _ h=>h) hF
         | u_c stepG_region_end (fun _ h=>h) hF
         | u_c stepG_ret' (fun _ h=>h) hF
         | u_reg (fun _ h=>h) hF
         | u_cond true (fun _ h=>h) hF
         | u_cond false (fun _ h=>h) hF
         | u_skip (fun _ h=>h) hF
         | u_c stepG_inBlock (fun _ h=>h) hF
         | u_c stepG_inLoop (fun _ h=>h) hF
         | (with_reducible (show Go.Conc.Goes _ _ _ _ _ _ (G (Frame.at _ _ (Item.inRegion _ (_::_)::_)) _) _));u_op (fun _ h=>h) hF)
      | u_leave1 H.f_uLoad (fun _ h=>h) hF
      | u_leave1 H.f_uCas (fun _ h=>h) hF)
   refine Goes.stop (fun w₁ h₁=>?_);exact⟨_,rfl,by simp,by simp⟩
set_option maxRecDepth 100000 in
set_option maxHeartbeats 8000000 in
theorem Nl(H:WgLib P L)(hi:∃w,Lv L Wg w){b₀:Frame}{a₀:Act}{ops₀:Array Oper}{i₀:Nat}{rest₀:List Nat}{k₀:List Item}{cs:List Frame}:
  Idle P m (Lv L Wg) X (Says P m (Lv L Wg) #[mk .disable] (Idle P m (Lv L Wg) X (sG L Wg (b₀.at a₀ (.inRegion ops₀ (i₀::rest₀)::k₀)) cs)))
   (G (Frame.enter P L.wait #[.pointer (some ⟨Wg,0,none⟩)] .normal) (b₀.at a₀ (.inRegion ops₀ (i₀::rest₀)::k₀)::cs)):=by
 lib_facts
 rw[enter_at _ H.f_wait rfl];walk_nrmf waitFn
 refine aW 20 (fun w hF=>?_) hi;repeat (first
   |(with_reducible (show Go.Conc.Goes _ _ _ _ _ _ (G (Frame.at _ _ _) _) _)
     first
     | u_c stepG_seq (fun _ h=>h) hF
     | u_c stepG_skip (fun _ h=>h) hF
     | u_c stepG_region_end (fun _ h=>h) hF
     | u_c stepG_ret' (fun _ h=>h) hF
     | u_reg (fun _ h=>h) hF
     | u_cond true (fun _ h=>h) hF
     | u_cond false (fun _ h=>h) hF
     | u_skip (fun _ h=>h) hF
     | (with_reducible (show Go.Conc.Goes _ _ _ _ _ _ (G (Frame.at _ _ (Item.inRegion _ (_::_)::_)) _) _));u_op (fun _ h=>h) hF)
   |fail)
 refine Goes.stop (fun w₁ h₁=>?_);clear h₁ hF;refine⟨rfl,_,fun _ _=>stepG_mark0 .disable (by simp) rfl rfl (by k_ne) rfl H.f_disable (x_disable_n L) (x_disable_b L) (x_disable_x L) (x_disable_f L),?_⟩;clear w₁ w;walk_nrm
 refine aW 10 (fun w hF=>?_) hi;u_c stepG_region_end (fun _ h=>h) hF
 u_c stepG_block (fun _ h=>h) hF
 u_c stepG_loop (fun _ h=>h) hF
 exact Goes.stop (fun w₂ h₂=>⟨_,rfl,by simp,by simp⟩)
end
end Go.Ren
