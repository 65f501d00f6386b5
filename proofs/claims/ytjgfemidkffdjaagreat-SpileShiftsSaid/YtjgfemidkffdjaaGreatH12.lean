import Derived.Test.YtjgfemidkffdjaaGreatH7
set_option linter.all false
namespace Go.Ren
open Go.Conc hiding Goes
open Go.Conc.Lib Go.ConcR.Gen Go.RowKit Go.ConcN Go.ConcN.Gen
open Go.ConcR (KK wgBlock WgAt stA smA rd wr mk DC0)
section
variable{P:Program}{m:Bool}{X:Event->Prop}{L:WgLink}{Wg:Nat}{S T:Goroutine->Prop}
set_option maxRecDepth 100000 in
set_option maxHeartbeats 8000000 in
theorem add_pos(H:WgLib P L)(hi:∃w,Lv L Wg w)(hX:∀a:Addr,a.block=Wg->X ⟨.mark (.read a),false,true⟩)
  {b₀:Frame} {a₀:Act} {ops₀:Array Oper} {i₀:Nat} {rest₀:List Nat} {k₀:List Item} {cs:List Frame}
  (hT:T (G (b₀.at (a₀.put ((ops₀[i₀]?).bind (·.dst)) (.tuple #[])) (.inRegion ops₀ rest₀::k₀)) cs)):
  Xf P m X L Wg T (G (Frame.enter P L.add #[.pointer (some ⟨Wg,0,none⟩),.int .i64 1] .normal) (b₀.at a₀ (.inRegion ops₀ (i₀::rest₀)::k₀)::cs)):=by
 lib_facts
 rw[enter_at _ H.f_add rfl];unfold Xf;walk_nrmf addFn
 refine aW 30 (fun w hF=>?_) hi;repeat (first
   |(with_reducible (show Go.Conc.Goes _ _ _ _ _ _ (G (Frame.at _ _ _) _) _)
     first
     | u_c stepG_seq (fun _ h=>h) hF
     | u_c stepG_skip (fun _ h=>h) hF
     | u_c stepG_region_end (fun _ h=>h) hF
     | u_c stepG_ret' (fun _ h=>h) hF
     | u_reg (fun _ h=>h) hF
     | u_cond true (fun _ h=>h) hF
     | u_cond false (fun _ h=>h) hF
     | u_skip (fun _ h=>h) hF
     | (with_reducible (show Go.Conc.Goes _ _ _ _ _ _ (G (Frame.at _ _ (Item.inRegion _ (_::_)::_)) _) _));u_op (fun _ h=>h) hF)
   |fail)
 refine Goes.stop (fun w₁ h₁=>?_);clear h₁ hF;refine⟨rfl,_,fun _ _=>stepG_mark0 .disable (by simp) rfl rfl (by k_ne) rfl H.f_disable (x_disable_n L) (x_disable_b L) (x_disable_x L) (x_disable_f L),?_⟩;clear w₁ w;walk_nrm
 refine aW 60 (fun w hF=>?_) hi;repeat (first
   |(with_reducible (show Go.Conc.Goes _ _ _ _ _ _ (G (Frame.at _ _ _) _) _)
     first
     | u_c stepG_seq (fun _ h=>h) hF
     | u_c stepG_skip (fun _ h=>h) hF
     | u_c stepG_region_end (fun _ h=>h) hF
     | u_c stepG_ret' (fun _ h=>h) hF
     | u_reg (fun _ h=>h) hF
     | u_cond true (fun _ h=>h) hF
     | u_cond false (fun _ h=>h) hF
     | u_skip (fun _ h=>h) hF
     | u_call H.f_uAdd (nm_uAdd L) uAddFn (fun _ h=>h) hF
     | u_defer (fun _ h=>h) hF
     | u_bub (fun _ h=>h) hF
     | (with_reducible (show Go.Conc.Goes _ _ _ _ _ _ (G (Frame.at _ _ (Item.inRegion _ (_::_)::_)) _) _));u_op (fun _ h=>h) hF)
   |fail)
 refine Goes.stop (fun w₁ h₁=>?_);clear h₁ hF;refine⟨rfl,fun v hv=>?_⟩;rcases Nat.eq_zero_or_pos v with rfl|hvp
 ·have z:(((0:Nat):Int)+1)*KK=KK:=by simp
  have z0:((0:Nat):Int)*KK=0:=by simp
  rw[z,z0];have e0:IntKind.u64.wrap (0+4294967296)=KK:=by decide
  refine⟨_,fun w _ hw=>(stepG_add_atomic rfl rfl (by k_ne) rfl H.f_addU64 (x_addU64_n L) (x_addU64_b L) (x_addU64_x L) .u64 (x_addU64_f L) rfl rfl hw.cellSt (hw.thaw 0)).trans (by rw[e0];rfl),?_⟩;clear w₁ w;simp only[KK]
  walk_nrm
  refine Idle.bind (S:=Says P m (Lv L Wg) #[⟨.mark (.read ⟨Wg,1,none⟩),false,true⟩] (Idle P m (Lv L Wg) X (Says P m (Lv L Wg) #[mk .enable] (Idle P m (Lv L Wg) X T)))) ?_
   (fun g ⟨hs,g',hg,hk⟩=>Idle.says hs hg (fun w hw e he=>by rw[Array.mem_singleton]at he;subst he;exact⟨hX _ rfl,RH hw⟩) hk)
  refine aW 90 (fun w hF=>?_) hi;repeat (first
    | (with_reducible (show Go.Conc.Goes _ _ _ _ _ _ (G (Frame.at _ _ _) _) _)
       first
       | u_c stepG_seq (fun _ h=>h) hF
       | u_c stepG_skip (fun _ h=>h) hF
       | u_c stepG_region_end (fun _ h=>h) hF
       | u_c stepG_ret' (fun _ h=>h) hF
       | u_reg (fun _ h=>h) hF
       | u_cond true (fun _ h=>h) hF
       | u_cond false (fun _ h=>h) hF
       | u_skip (fun _ h=>h) hF
       | (with_reducible (show Go.Conc.Goes _ _ _ _ _ _ (G (Frame.at _ _ (Item.inRegion _ (_::_)::_)) _) _));u_op (fun _ h=>h) hF
       | (with_reducible (show Go.Conc.Goes _ _ _ _ _ _ (G (Frame.at _ _ (Item.inRegion _ (_::_)::_)) _) _));u_conv H.underlying_tPU32 H.room_tU32 (WgLive.cell1 hF).choose_spec (fun _ h=>h) hF)
    | u_leave1 H.f_uAdd (fun _ h=>h) hF)
  refine Goes.stop (fun w₁ h₁=>?_);clear h₁ hF;refine⟨rfl,_,fun _ _=>stepG_markAt .read (by simp) rfl rfl (by k_ne) rfl H.f_raceRead (x_raceRead_n L) (x_raceRead_b L) (x_raceRead_x L) (x_raceRead_f L) (ad:=⟨Wg,1,none⟩) (by simp[Act.eval]),?_⟩;clear w₁ w;walk_nrm
  refine aW 90 (fun w hF=>?_) hi;repeat (first
    | (with_reducible (show Go.Conc.Goes _ _ _ _ _ _ (G (Frame.at _ _ _) _) _)
       first
       | u_c stepG_seq (fun _ h=>h) hF
       | u_c stepG_skip (fun _ h=>h) hF
       | u_c stepG_region_end (fun _ h=>h) hF
       | u_c stepG_ret' (fun _ h=>h) hF
       | u_reg (fun _ h=>h) hF
       | u_cond true (fun _ h=>h) hF
       | u_cond false (fun _ h=>h) hF
       | u_skip (fun _ h=>h) hF
       | (with_reducible (show Go.Conc.Goes _ _ _ _ _ _ (G (Frame.at _ _ (Item.inRegion _ (_::_)::_)) _) _));u_op (fun _ h=>h) hF)
    | fail)
  refine Goes.stop (fun w₁ h₁=>?_);clear h₁ hF;refine⟨rfl,_,fun _ _=>stepG_unwind_entry (v:=.tuple #[]) (evs:=#[mk .enable]) rfl H.f_enable (x_enable_n L) (x_enable_b L) (x_enable_x L) (x_enable_f L) (by simp[Extern.Race.none_]) (by simp[mk]) (by simp[mk]),?_⟩;clear w₁ w;refine aW 2 (fun w hF=>?_) hi;u_leave0 H.f_add (fun _ h=>h) hF
  exact Goes.stop (fun _ _=>hT)
 ·obtain⟨V,hV⟩:∃V:Int,V=(v:Int)+1:=⟨_,rfl⟩
  obtain⟨N,hN⟩:∃N:Int,N=V*KK:=⟨_,rfl⟩
  have eN:IntKind.u64.wrap ((v:Int)*KK+4294967296)=N:=by rw[IntKind.wrap_u64,hN,hV];simp only[KK];omega
  rw[←hV,←hN];have a1:N/4294967296=V:=by rw[hN];simp only[KK];omega
  have b1:bits .and .u64 N 2147483648=0:=by rw[hN,hV];have:=st_flag (v+1) 0 (by omega) (by omega);simpa [KK]using this
  have b2:bits .and .u64 N 2147483647=0:=by rw[hN,hV];have:=st_waiters (v+1) 0 (by omega) (by omega);simpa [KK]using this
  have c1:IntKind.i32.wrap V=V:=by rw[IntKind.wrap_i32];omega
  have hV1:1<V:=by omega
  have hV2:V<2147483648:=by omega
  have q1:(V==1)=false:=by simp;omega
  have q2:decide (V=1)=false:=decide_eq_false (by omega)
  have q3:decide (V<0)=false:=decide_eq_false (by omega)
  have q4:decide (0<V)=true:=decide_eq_true (by omega)
  have q5:(V==0)=false:=by simp;omega
  have q6:decide (V=0)=false:=decide_eq_false (by omega)
  refine⟨_,fun w _ hw=>(stepG_add_atomic rfl rfl (by k_ne) rfl H.f_addU64 (x_addU64_n L) (x_addU64_b L) (x_addU64_x L) .u64 (x_addU64_f L) rfl rfl hw.cellSt (hw.thaw 0)).trans (by rw[eN];rfl),?_⟩;clear hV hN eN w₁ w;walk_nrm
  refine aW 120 (fun w hF=>?_) hi;repeat (first
    | (with_reducible (show Go.Conc.Goes _ _ _ _ _ _ (G (Frame.at _ _ _) _) _)
       first
       | u_c stepG_seq (fun _ h=>h) hF
       | u_c stepG_skip (fun _ h=>h) hF
       | u_c stepG_region_end (fun _ h=>h) hF
       | u_c stepG_ret' (fun _ h=>h) hF
       | u_reg (fun _ h=>h) hF
       | u_cond true (fun _ h=>h) hF
       | u_cond false (fun _ h=>h) hF
       | u_skip (fun _ h=>h) hF
       | u_cnd true (fun _ h=>h) hF
       | u_cnd false (fun _ h=>h) hF
       | (with_reducible (show Go.Conc.Goes _ _ _ _ _ _ (G (Frame.at _ _ (Item.inRegion _ (_::_)::_)) _) _));u_op (fun _ h=>h) hF)
    | u_leave1 H.f_uAdd (fun _ h=>h) hF)
  refine Goes.stop (fun w₁ h₁=>?_);clear h₁ hF;refine⟨rfl,_,fun _ _=>stepG_unwind_entry (v:=.tuple #[]) (evs:=#[mk .enable]) rfl H.f_enable (x_enable_n L) (x_enable_b L) (x_enable_x L) (x_enable_f L) (by simp[Extern.Race.none_]) (by simp[mk]) (by simp[mk]),?_⟩;clear w₁ w;refine aW 2 (fun w hF=>?_) hi;u_leave0 H.f_add (fun _ h=>h) hF
  exact Goes.stop (fun _ _=>hT)
end
end Go.Ren
