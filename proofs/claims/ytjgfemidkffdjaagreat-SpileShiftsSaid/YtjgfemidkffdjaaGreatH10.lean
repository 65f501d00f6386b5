import Derived.Test.YtjgfemidkffdjaaGreatH9
set_option linter.all false
namespace Go.Ren
open Go.Conc hiding Goes
open Go.Conc.Lib Go.ConcR.Gen Go.RowKit Go.ConcN Go.ConcN.Gen
open Go.ConcR (KK wgBlock WgAt stA smA rd wr mk DC0)
section
variable{P:Program}{L:WgLink}{Wg:Nat}{S T:Goroutine->Prop}
set_option maxRecDepth 100000 in
set_option maxHeartbeats 8000000 in
theorem done_walk(H:WgLib P L)(hi:∃w,Lv L Wg w){c:Frame}{cs:List Frame}{qt:Nat}(hcm:c.mode=.returning)(hT:QuitsD P qt 0 (G c cs)):
  Idle P false (Lv L Wg) X0 (iP P L Wg 0) (G (Frame.enter P L.done #[.pointer (some ⟨Wg,0,none⟩)] .deferred) (c::cs)):=by
 lib_facts
 rw[enter_atD _ H.f_done rfl];walk_nrmf doneFn
 have hA:=@add_neg P L Wg H hi;simp only[enter_at #[Value.pointer (some (Addr.mk Wg 0 none)),Value.int .i64 (-1)] H.f_add rfl]at hA;simp only[addFn,Act.put,Act.eval,List.map_toArray,List.map_cons,List.map_nil,Array.getD_eq_getD_getElem?,List.getElem?_toArray,List.getElem?_cons_succ,List.getElem?_cons_zero,Option.getD_some,Option.bind_some,List.size_toArray,List.length_cons,List.length_nil,Nat.reduceAdd,Nat.reduceSub,Array.replicate_succ,Array.replicate_zero,List.push_toArray,List.append_toArray,List.nil_append,List.cons_append,List.setIfInBounds_toArray,List.set_cons_succ,List.set_cons_zero,List.getElem_toArray,List.getElem_cons_succ,List.getElem_cons_zero]at hA;refine Idle.go rfl (fun _ _=>stepG_region) ?_;simp only[List.size_toArray,List.length_cons,List.length_nil,Nat.reduceAdd,Nat.zero_add,List.range,List.range.loop]
 refine Idle.mk rfl (fun w hw=>?_);refine goes_oper_k rfl rfl (by k_ne) (fun K hK=>?_);go_simp
 refine hK _ _ ⟨rfl,quiet_of ?_,?_⟩
 ·intro e he;have hm:=mem_listed he
  simp[go_sem, *]at hm
 clear hK K hw w;refine Idle.mk rfl (fun w hw=>?_);refine goes_call rfl rfl (by k_ne) rfl H.f_add (nm_add L) rfl ⟨rfl,quiet,?_⟩;clear hw w;walk_nrmf addFn
 refine hA (qt:=qt+3) ?_;clear hA;walk_nrm
 q_c stepG_region_end
 q_c stepG_end
 exact QuitsD.leaveD rfl rfl H.f_done rfl hcm hT
end
end Go.Ren
