import Derived.Test.YtmgllphkofdnhaaGreatH13
import Derived.Test.YtmgllphkofdnhaaGreatH26
import Derived.Test.YtmgllphkofdnhaaGreatH27
set_option linter.unusedVariables false
set_option linter.unusedSectionVars false
set_option linter.unusedSimpArgs false
namespace Go.Mx
open Go.Ren Go.Sy
open Go.Conc hiding Goes
def nu(Mu:Nat)(wst it tv:Int)(o:Wd)(nw:Int):Nat→Value
 |0|1=>.pointer (some ⟨Mu,0,none⟩)
 |2=>.pointer (some ⟨Mu,1,none⟩)
 |3=>.int .i64 wst
 |4=>.int .i32 (o.num:Int)
 |5=>.int .i64 it
 |6=>.int .i64 (IntKind.i64.wrap (it+1))
 |8=>.int .i32 ((o.num:Int).fdiv 8)
 |10=>.int .i32 (bor (o.num:Int) 1)
 |11=>.int .i32 (IntKind.i32.wrap ((o.num:Int)+8))
 |12=>.int .i32 (bor (IntKind.i32.wrap (bor (o.num:Int) 1+8)) 4)
 |18=>.int .i32 (IntKind.i32.wrap (bor (o.num:Int) 1+8))
 |14=>.int .i32 (bor (o.num:Int) 2)
 |15=>.int .i32 (bandn (bor (o.num:Int) 1) 2)
 |16=>.int .i32 (bandn (IntKind.i32.wrap (bor (o.num:Int) 1+8)) 2)
 |17=>.int .i32 (bandn (bor (IntKind.i32.wrap (bor (o.num:Int) 1+8)) 4) 2)
 |20=>.int .i64 tv
 |21=>.int .i64 (IntKind.i64.wrap (tv - wst))
 |30=>.int .i32 nw
 |40=>.int .i32 (IntKind.i32.wrap ((o.num:Int)+1))
 |41=>.int .i32 (IntKind.i32.wrap ((o.num:Int) - 8))
 |42=>.int .i32 (bor (IntKind.i32.wrap ((o.num:Int) - 8)) 2)
 |_=>undef
def tabF(wst tv:Int)(o:Wd):Tab:=tab (fl o.L) (fl o.W) (fl o.S) (o.n == 0) (o.n == 1) (wst == 0) (decide (IntKind.i64.wrap (tv - wst) > 1000000))
section
variable{P:Program}{tI:TypeId}{ν:Nat→Value}{x y z:E}{a b:Int}{k:IntKind}
theorem k_and(hx:x.den ν = .int .i32 a)(hy:y.den ν = .int .i32 b)(hz:z.den ν = .int .i32 (band a b)):KeyOk P tI ν (.bin .and x y) z:=fun ty xo yo=>by rw [hx,hy,hz];exact y_and ty xo yo a b
theorem k_or(hx:x.den ν = .int .i32 a)(hy:y.den ν = .int .i32 b)(hz:z.den ν = .int .i32 (bor a b)):KeyOk P tI ν (.bin .or x y) z:=fun ty xo yo=>by rw [hx,hy,hz];exact y_or ty xo yo a b
theorem k_andn(hx:x.den ν = .int .i32 a)(hy:y.den ν = .int .i32 b)(hz:z.den ν = .int .i32 (bandn a b)):KeyOk P tI ν (.bin .andNot x y) z:=fun ty xo yo=>by rw [hx,hy,hz];exact y_andn ty xo yo a b
theorem k_add(hx:x.den ν = .int k a)(hy:y.den ν = .int k b)(hz:z.den ν = .int k (k.wrap (a+b))):KeyOk P tI ν (.bin .add x y) z:=fun ty xo yo=>by rw [hx,hy,hz];exact y_add k ty xo yo a b
theorem k_sub(hx:x.den ν = .int k a)(hy:y.den ν = .int k b)(hz:z.den ν = .int k (k.wrap (a - b))):KeyOk P tI ν (.bin .sub x y) z:=fun ty xo yo=>by rw [hx,hy,hz];exact y_sub k ty xo yo a b
theorem k_shr(hx:x.den ν = .int .i32 a)(hz:z.den ν = .int .i32 (a.fdiv 8)):KeyOk P tI ν (.bin .shr x (.i .u64 3)) z:=fun ty xo yo=>by rw [hx,hz];exact y_shr ty xo yo a
theorem k_eql(hx:x.den ν = .int k a)(hy:y.den ν = .int k b)(hz:z.den ν = .bool (a == b)):KeyOk P tI ν (.bin .eql x y) z:=fun ty xo yo=>by rw [hx,hy,hz];exact y_eql k ty xo yo a b
theorem k_neq(hx:x.den ν = .int k a)(hy:y.den ν = .int k b)(hz:z.den ν = .bool (a != b)):KeyOk P tI ν (.bin .neq x y) z:=fun ty xo yo=>by rw [hx,hy,hz];exact y_neq k ty xo yo a b
theorem k_gtr(hx:x.den ν = .int k a)(hy:y.den ν = .int k b)(hz:z.den ν = .bool (decide (a > b))):KeyOk P tI ν (.bin .gtr x y) z:=fun ty xo yo=>by rw [hx,hy,hz];exact y_gtr k ty xo yo a b
end
theorem bint{z:E}{ν:Nat→Value}{a b:Int}(h:z = .i .i32 b)(e:a=b):z.den ν = .int .i32 a:=by rw [h,e];rfl
theorem band_w{o:Wd}(ho:o.Bits)(hn:o.n < 64):band (o.num:Int) 5=bn (fl o.L) 1+bn (fl o.S) 4∧band (o.num:Int) 1=bn (fl o.L) 1∧band (o.num:Int) 4=bn (fl o.S) 4∧band (o.num:Int) 2=bn (fl o.W) 2∧band (o.num:Int) 3=bn (fl o.L) 1+bn (fl o.W) 2∧band (o.num:Int) 7=bn (fl o.L) 1+bn (fl o.W) 2+bn (fl o.S) 4:=by
 rw [num_w4 ho];exact w_and _ hn _ _ _
theorem shr_w{o:Wd}(ho:o.Bits)(hn:o.n < 64):(o.num:Int).fdiv 8=o.n:=by rw [num_w4 ho];exact (w_shr _ hn _ _ _).1
theorem wrap_w{o:Wd}(ho:o.Bits)(hn:o.n < 64):IntKind.i32.wrap (o.num:Int)=o.num:=by rw [num_w4 ho];exact (w_shr _ hn _ _ _).2
theorem plus8{o:Wd}(ho:o.Bits)(hn:o.n < 63):IntKind.i32.wrap ((o.num:Int)+8)=W4 (fl o.L) (fl o.W) (fl o.S) (o.n+1):=by rw [num_w4 ho,w_add];exact (w_shr _ (by omega) _ _ _).2
theorem nat_beq(a b:Nat):((a:Int) == (b:Int))=(a == b):=by
 rw [Bool.eq_iff_iff];simp only [beq_iff_eq];constructor<;>intro h<;>omega
theorem tab_ok{P:Program}{L:MxLink}(H:MxLib P L){Mu:Nat}{wst it tv:Int}{o:Wd}{nw:Int}(ho:o.Bits)(hn:o.n < 63):TabOk P L.mu.tIMutex (nu Mu wst it tv o nw) (tabF wst tv o):=by
 obtain ⟨b5,b1,b4,b2,b3,_⟩:=band_w ho (by omega)
 have hs:=shr_w ho (by omega)
 have o1:=(w_or o.n (by omega) (fl o.L) (fl o.W) (fl o.S)).1
 have a1:=(w_and o.n (by omega) true (fl o.W) (fl o.S)).2.2.2.1
 have a2:=(w_and (o.n+1) (by omega) true (fl o.W) (fl o.S)).2.2.2.1
 have o2:=(w_or (o.n+1) (by omega) true (fl o.W) (fl o.S)).2.2.1
 have a3:=(w_and (o.n+1) (by omega) true (fl o.W) true).2.2.2.1
 have n4:=num_w4 ho
 have p8:IntKind.i32.wrap (bor (o.num:Int) 1+8)=W4 true (fl o.W) (fl o.S) (o.n+1):=by
  rw [n4,o1,w_add];exact (w_shr _ (by omega) _ _ _).2
 unfold TabOk tabF tab
 simp only [List.forall_mem_cons]
 have fld:∀i:Nat,i < 2→Go.Sy.Yields P (Instr.fieldAt L.mu.tIMutex (.pointer (some ⟨Mu,0,none⟩)) i) (.pointer (some ⟨Mu,i,none⟩)):=by
  intro i hi
  have hu:=H.lib.runUnderlying_tIMutex
  have h21:=H.lib.sizeOf_t21
  have hU:=H.sizeOf_tU32
  have hi':i=0∨i=1:=by omega
  rcases hi' with rfl|rfl
  ·exact fun w=>⟨by simp [go_sem,hu,h21,hU],fun es=>by simp [go_sem,hu,h21,hU]⟩
  ·exact fun w=>⟨by simp [go_sem,hu,h21,hU],fun es=>by simp [go_sem,hu,h21,hU]⟩
 refine ⟨⟨rfl,_,rfl⟩,fld 0 (by omega),fld 1 (by omega),k_and rfl rfl (bint rfl b5),k_and rfl rfl (bint rfl b1),k_and rfl rfl (bint rfl b4),k_and rfl rfl (bint rfl b2),k_and rfl rfl (bint rfl b3),k_shr rfl rfl,
  k_eql rfl rfl rfl,k_eql rfl rfl rfl,k_eql rfl rfl rfl,k_eql rfl rfl rfl,k_eql rfl rfl rfl,k_eql rfl rfl rfl,k_eql rfl rfl rfl,k_eql rfl rfl rfl,k_eql rfl rfl rfl,k_eql rfl rfl rfl,
  k_neq rfl rfl rfl,k_neq rfl rfl rfl,k_neq rfl rfl rfl,k_neq rfl rfl rfl,k_neq rfl rfl rfl,k_neq rfl rfl rfl,
  k_neq rfl rfl ?_,k_eql rfl rfl ?_,k_eql rfl rfl ?_,k_or rfl rfl rfl,k_add rfl rfl rfl,k_add rfl rfl rfl,k_or rfl rfl rfl,k_or rfl rfl rfl,k_and rfl rfl (bint rfl ?_),k_and rfl rfl (bint rfl ?_),k_and rfl rfl (bint rfl ?_),k_andn rfl rfl rfl,k_andn rfl rfl rfl,k_andn rfl rfl rfl,
  k_add rfl rfl rfl,k_neq rfl rfl rfl,k_eql rfl rfl rfl,k_sub rfl rfl rfl,k_sub rfl rfl rfl,k_gtr rfl rfl rfl,fun p hp=>absurd hp (List.not_mem_nil)⟩
 ·rw [hs]
  have:=nat_beq o.n 0
  show Value.bool (!(o.n == 0))=Value.bool (!((o.n:Int) == ((0:Nat):Int)))
  rw [this]
 ·rw [hs]
  show Value.bool (o.n == 0)=Value.bool ((o.n:Int) == ((0:Nat):Int))
  rw [nat_beq]
 ·rw [hs]
  show Value.bool (o.n == 1)=Value.bool ((o.n:Int) == ((1:Nat):Int))
  rw [nat_beq]
 ·rw [n4,o1];exact a1
 ·rw [p8];exact a2
 ·rw [p8,o2];exact a3
section
variable{Mu:Nat}{wst it tv:Int}{o:Wd}{nw:Int}
theorem nu_0:nu Mu wst it tv o nw 0 = .pointer (some ⟨Mu,0,none⟩):=rfl
theorem nu_1:nu Mu wst it tv o nw 1 = .pointer (some ⟨Mu,0,none⟩):=rfl
theorem nu_2:nu Mu wst it tv o nw 2 = .pointer (some ⟨Mu,1,none⟩):=rfl
theorem nu_3:nu Mu wst it tv o nw 3 = .int .i64 wst:=rfl
theorem nu_4:nu Mu wst it tv o nw 4 = .int .i32 (o.num:Int):=rfl
theorem nu_5:nu Mu wst it tv o nw 5 = .int .i64 it:=rfl
theorem nu_6:nu Mu wst it tv o nw 6 = .int .i64 (IntKind.i64.wrap (it+1)):=rfl
theorem nu_10:nu Mu wst it tv o nw 10 = .int .i32 (bor (o.num:Int) 1):=rfl
theorem nu_11:nu Mu wst it tv o nw 11 = .int .i32 (IntKind.i32.wrap ((o.num:Int)+8)):=rfl
theorem nu_14:nu Mu wst it tv o nw 14 = .int .i32 (bor (o.num:Int) 2):=rfl
theorem nu_15:nu Mu wst it tv o nw 15 = .int .i32 (bandn (bor (o.num:Int) 1) 2):=rfl
theorem nu_16:nu Mu wst it tv o nw 16 = .int .i32 (bandn (IntKind.i32.wrap (bor (o.num:Int) 1+8)) 2):=rfl
theorem nu_17:nu Mu wst it tv o nw 17 = .int .i32 (bandn (bor (IntKind.i32.wrap (bor (o.num:Int) 1+8)) 4) 2):=rfl
theorem nu_18:nu Mu wst it tv o nw 18 = .int .i32 (IntKind.i32.wrap (bor (o.num:Int) 1+8)):=rfl
theorem nu_20:nu Mu wst it tv o nw 20 = .int .i64 tv:=rfl
theorem nu_30:nu Mu wst it tv o nw 30 = .int .i32 nw:=rfl
theorem nu_42:nu Mu wst it tv o nw 42 = .int .i32 (bor (IntKind.i32.wrap ((o.num:Int) - 8)) 2):=rfl
end
def tabU(l w s n0 n1:Bool):Tab:=(.bin .add (.v 4) (.i .i32 1),.v 40) :: (.bin .and (.v 40) (.i .i32 1),.i .i32 (bn (!l) 1)) :: (.bin .and (.v 4) (.i .i32 7),.i .i32 (bn l 1+bn w 2+bn s 4)) :: (.bin .neq (.i .i32 6) (.i .i32 0),.b true) :: (.bin .neq (.i .i32 7) (.i .i32 0),.b true) :: (.bin .sub (.v 4) (.i .i32 8),.v 41) :: (.bin .or (.v 41) (.i .i32 2),.v 42) :: tab l w s n0 n1 true false
theorem w_p1:∀n,n < 64→∀l w s:Bool,band (IntKind.i32.wrap (W4 l w s n+1)) 1=bn (!l) 1:=by decide +kernel
theorem w_m8:∀n,n < 63→bor (IntKind.i32.wrap (W4 false false false (n+1) - 8)) 2=W4 false true false n:=by decide +kernel
theorem tabU_ok{P:Program}{L:MxLink}(H:MxLib P L){Mu:Nat}{o:Wd}{nw:Int}(ho:o.Bits)(hn:o.n < 63):TabOk P L.mu.tIMutex (nu Mu 0 0 0 o nw) (tabU (fl o.L) (fl o.W) (fl o.S) (o.n == 0) (o.n == 1)):=by
 have hT:=tab_ok H (Mu:=Mu) (wst:=0) (it:=0) (tv:=0) (nw:=nw) ho hn
 have e:tabF 0 0 o=tab (fl o.L) (fl o.W) (fl o.S) (o.n == 0) (o.n == 1) true false:=by
  unfold tabF
  have h2:decide (IntKind.i64.wrap ((0:Int) - 0) > 1000000)=false:=by decide +kernel
  rw [h2];rfl
 rw [e] at hT
 obtain ⟨_,_,_,_,_,b7⟩:=band_w ho (by omega:o.n < 64)
 unfold TabOk tabU
 simp only [List.forall_mem_cons]
 refine ⟨k_add rfl rfl rfl,k_and rfl rfl (bint rfl ?_),k_and rfl rfl (bint rfl b7),k_neq rfl rfl rfl,k_neq rfl rfl rfl,k_sub rfl rfl rfl,k_or rfl rfl rfl,hT⟩
 rw [num_w4 ho]
 exact w_p1 _ (by omega) _ _ _
attribute [irreducible] nu
end Go.Mx
namespace Go.Sy
open Go.Ren
open Go.Conc hiding Goes
def sub(s t:Env):List (Option E×Option E):=t.map fun p=>(get s p.1,p.2)
def lit:E→Bool
 | .v _=>false
 |_=>true
def okPair(ρ:List (E×E))(p:Option E×Option E):Bool:=match p.2 with
 |none=>true
 |some x=>match p.1 with
  |none=>false
  |some y=>(decide (y=x) && lit y) || ρ.contains (y,x)
theorem agree_sub{ν ν':Nat→Value}{s t:Env}{A:Array Value}{ρ:List (E×E)}(h:Agree ν s A)(hp:(sub s t).all (okPair ρ)=true)(hρ:∀p∈ρ,p.1.den ν=p.2.den ν'):Agree ν' t A:=by
 intro k x hx
 have hm:(k,some x)∈t:=by
  induction t with
  |nil=>cases hx
  |cons p t ih=>
   obtain ⟨j,y⟩:=p
   unfold get at hx
   split at hx
   ·rename_i e
    have:j=k:=by simpa using e
    subst this;subst hx
    exact List.mem_cons_self ..
   ·exact List.mem_cons_of_mem _ (ih (by unfold sub at hp;simp only [List.map_cons,List.all_cons,Bool.and_eq_true] at hp;exact hp.2) hx)
 have h1:=List.all_eq_true.1 hp (get s k,some x) (List.mem_map.2 ⟨_,hm,rfl⟩)
 unfold okPair at h1
 dsimp only at h1
 cases hg:get s k with
 |none=>rw [hg] at h1;cases h1
 |some y=>
  rw [hg] at h1
  dsimp only at h1
  rw [h k y hg]
  simp only [Bool.or_eq_true,Bool.and_eq_true,decide_eq_true_eq,List.contains_iff_mem] at h1
  rcases h1 with ⟨rfl,hl⟩|h1
  ·cases y<;>first|rfl|cases hl
  ·exact congrArg some (hρ _ h1)
structure To(tI:TypeId)(sz:Nat)(T:Tab)(n k:Nat)(s t:S)(ρ:List (E×E)):Prop where
 todo:(run sz T n s).todo=t.todo
 log:(run sz T n s).log=List.replicate k tI
 env:(sub (run sz T n s).env t.env).all (okPair ρ)=true
theorem To.walk{P:Program}{tI:TypeId}{sz n k:Nat}{T:Tab}{s t:S}{ρ:List (E×E)}(h:To tI sz T n k s t ρ){ν ν':Nat→Value}(hT:TabOk P tI ν T)(hρ:∀p∈ρ,p.1.den ν=p.2.den ν'){b:Frame}{ds:List Deferred}{cs:List Frame}(hk:b.kind ≠ .early){m:Bool}{I:World→Prop}{X:Event→Prop}{Q:Nat→Goroutine→Prop}{d:Nat}{g:Goroutine}
  (hg:Behind ν sz b ds cs s g) (q:∀g',Behind ν' sz b ds cs t g' → IdleD P m I X Q d g'):IdleD P m I X Q d g:=by
 obtain ⟨A,hz,ha,rfl⟩:=hg
 refine run_ok hT hk n s A hz ha (fun x hx=>?_) fun A' hz' ha'=>?_
 ·rw [h.log] at hx;exact List.eq_of_mem_replicate hx
 ·rw [h.todo]
  exact q _ ⟨A',hz',agree_sub ha' h.env hρ,rfl⟩
end Go.Sy
namespace Go.Mx
open Go.Ren Go.Sy
open Go.Conc hiding Goes
def T0:Tab:=tab true false false false false true false
def fresh(e:Env)(t:List Item):S:=⟨e,t,[]⟩
def enS(L:MxLink):S:=fresh [(0,some (.v 0))] [.code (lsBody L)]
def sqR(L:MxLink):S:=run 139 T0 9 (head L false false)
def c1R(L:MxLink):S:=run 139 T0 25 (next (sqR L) (some (.b true)))
def dsR(L:MxLink):S:=run 139 T0 8 (next (c1R L) (some (.b true)))
def rBR(L:MxLink):S:=run 139 T0 12 (next (dsR L) none)
def c2R(L:MxLink):S:=run 139 T0 61 (next (sqR L) (some (.b false)))
def rCR(L:MxLink):S:=run 139 T0 6 (next (c2R L) (some (.b false)))
def t1R(L:MxLink):S:=run 139 T0 25 (next (c2R L) (some (.b true)))
def s1R(L:MxLink):S:=run 139 T0 8 (next (t1R L) (some (.v 3)))
def t2R(L:MxLink):S:=run 139 T0 5 (next (s1R L) none)
def r2R(L:MxLink):S:=run 139 ((.bin .sub (.v 20) (.v 3),.v 21) :: T0) 40 (next (t2R L) (some (.v 20)))
def a1R(L:MxLink):S:=run 139 (tab false false true false false true false) 200 (next (r2R L) (some (.v 4)))
inductive Pl where|a|b|c
def rdT(L:MxLink):Pl→List Item
 | .a=>(run 139 T0 21 (enS L)).todo
 | .b=>(rBR L).todo
 | .c=>(rCR L).todo
def rdA:Pl→Nat
 | .a=>12
 | .b=>47
 | .c=>133
def loc(aw sv:Bool):Env:=[(0,some (.v 0)),(2,some (.v 3)),(3,some (.b sv)),(4,some (.b aw)),(5,some (.v 5))]
def rdS(L:MxLink)(pl:Pl)(aw sv:Bool):S:=fresh ((rdA pl,some (.v 1)) :: loc aw sv) (rdT L pl)
def sqS(L:MxLink)(aw sv:Bool):S:=fresh ((17,some (.b true)) :: (18,some (.v 5)) :: env0 aw sv) (sqR L).todo
def c1S(L:MxLink)(sv:Bool):S:=fresh ((33,some (.b true)) :: (36,some (.v 1)) :: (37,some (.v 4)) :: (39,some (.v 14)) :: env0 false sv) (c1R L).todo
def dsS(L:MxLink)(aw sv:Bool):S:=fresh (loc aw sv) (dsR L).todo
def c2S(L:MxLink)(aw sv:Bool):S:=fresh ((77,some (.v 1)) :: (78,some (.v 4)) :: (79,some (.v 30)) :: env0 aw sv) (c2R L).todo
def t1S(L:MxLink)(sv lifo:Bool):S:=fresh [(0,some (.v 0)),(3,some (.b sv)),(8,some (.b lifo))] (t1R L).todo
def s1S(L:MxLink)(sv lifo:Bool):S:=fresh [(0,some (.v 0)),(2,some (.v 3)),(3,some (.b sv)),(91,some (.v 2)),(92,some (.b lifo))] (s1R L).todo
def t2S(L:MxLink):S:=fresh [(0,some (.v 0)),(2,some (.v 3)),(3,some (.b false)),(95,some (.b false))] (t2R L).todo
def r2S(L:MxLink)(sv:Bool):S:=fresh [(0,some (.v 0)),(2,some (.v 3)),(3,some (.b sv)),(103,some (.v 1))] (r2R L).todo
def a1S(L:MxLink)(dl:Int):S:=fresh [(0,some (.v 0)),(128,some (.v 1)),(129,some (.i .i32 dl))] (a1R L).todo
def exS(L:MxLink):S:=fresh [(0,some (.v 0))] (run 139 T0 20 (fresh [(0,some (.v 0))] [.code (lsRest L)])).todo
def ri:List (E×E):=[(.v 0,.v 0),(.v 1,.v 1),(.v 2,.v 2),(.v 3,.v 3),(.v 4,.v 4),(.v 5,.v 5),(.v 14,.v 14)]
def r0:List (E×E):=[(.v 0,.v 0),(.v 1,.v 1),(.i .i64 0,.v 3),(.i .i64 0,.v 5)]
def rN(k:Nat):List (E×E):=(.v k,.v 30) :: ri
section
variable(L:MxLink)
theorem ck_en(l w s n0 n1 z late:Bool):To L.mu.tIMutex 139 (tab l w s n0 n1 z late) 21 1 (enS L) (rdS L .a false false) r0:=⟨by kernel_rfl,by kernel_rfl,by kernel_rfl⟩
theorem ck_rd(T:Tab)(aw sv:Bool):To L.mu.tIMutex 139 T 5 0 (next (rdS L .a aw sv) (some (.v 4))) (head L aw sv) ri∧To L.mu.tIMutex 139 T 4 0 (next (rdS L .b aw sv) (some (.v 4))) (head L aw sv) ri∧To L.mu.tIMutex 139 T 4 0 (next (rdS L .c aw sv) (some (.v 4))) (head L aw sv) ri:=by
 cases aw<;>cases sv<;>exact ⟨⟨by kernel_rfl,by kernel_rfl,by kernel_rfl⟩,⟨by kernel_rfl,by kernel_rfl,by kernel_rfl⟩,⟨by kernel_rfl,by kernel_rfl,by kernel_rfl⟩⟩
section
variable(w n0 n1 z late:Bool)
theorem ck_sq(aw sv:Bool):To L.mu.tIMutex 139 (tab true w false n0 n1 z late) 9 0 (head L aw sv) (sqS L aw sv) ri:=by
 cases aw<;>cases sv<;>exact ⟨by kernel_rfl,by kernel_rfl,by kernel_rfl⟩
theorem ck_c00:To L.mu.tIMutex 139 (tab false w false n0 n1 z late) 200 1 (head L false false) (c2S L false false) (rN 10):=⟨by kernel_rfl,by kernel_rfl,by kernel_rfl⟩
theorem ck_c00a(sv:Bool):To L.mu.tIMutex 139 (tab false true false n0 n1 z late) 200 1 (head L true sv) (c2S L true sv) (rN 15):=by
 cases sv<;>exact ⟨by kernel_rfl,by kernel_rfl,by kernel_rfl⟩
theorem ck_c1(l:Bool):To L.mu.tIMutex 139 (tab l w true n0 n1 z late) 200 1 (head L false false) (c2S L false false) (rN 11):=by
 cases l<;>exact ⟨by kernel_rfl,by kernel_rfl,by kernel_rfl⟩
theorem ck_q0:To L.mu.tIMutex 139 (tab true w false n0 n1 z late) 200 1 (next (sqS L false false) (some (.b false))) (c2S L false false) (rN 18):=⟨by kernel_rfl,by kernel_rfl,by kernel_rfl⟩
theorem ck_q1:To L.mu.tIMutex 139 (tab true true false n0 n1 z late) 200 1 (next (sqS L true false) (some (.b false))) (c2S L true false) (rN 16):=⟨by kernel_rfl,by kernel_rfl,by kernel_rfl⟩
theorem ck_q2:To L.mu.tIMutex 139 (tab true true false n0 n1 z late) 200 1 (next (sqS L true true) (some (.b false))) (c2S L true true) (rN 17):=⟨by kernel_rfl,by kernel_rfl,by kernel_rfl⟩
theorem ck_s0(sv:Bool):To L.mu.tIMutex 139 (tab true false false false n1 z late) 25 1 (next (sqS L false sv) (some (.b true))) (c1S L sv) ri:=by
 cases sv<;>exact ⟨by kernel_rfl,by kernel_rfl,by kernel_rfl⟩
theorem ck_s1(sv:Bool):To L.mu.tIMutex 139 (tab true w false n0 n1 z late) 200 0 (next (sqS L true sv) (some (.b true))) (dsS L true sv) ri:=by
 cases sv<;>exact ⟨by kernel_rfl,by kernel_rfl,by kernel_rfl⟩
theorem ck_s2(sv:Bool):To L.mu.tIMutex 139 (tab true true false n0 n1 z late) 200 0 (next (sqS L false sv) (some (.b true))) (dsS L false sv) ri:=by
 cases sv<;>exact ⟨by kernel_rfl,by kernel_rfl,by kernel_rfl⟩
theorem ck_s3(sv:Bool):To L.mu.tIMutex 139 (tab true false false true n1 z late) 200 0 (next (sqS L false sv) (some (.b true))) (dsS L false sv) ri:=by
 cases sv<;>exact ⟨by kernel_rfl,by kernel_rfl,by kernel_rfl⟩
end
section
variable(l w s n0 n1 z late:Bool)
theorem ck_c1y(sv:Bool):To L.mu.tIMutex 139 (tab l w s n0 n1 z late) 8 0 (next (c1S L sv) (some (.b true))) (dsS L true sv) ri:=by
 cases sv<;>exact ⟨by kernel_rfl,by kernel_rfl,by kernel_rfl⟩
theorem ck_c1n(sv:Bool):To L.mu.tIMutex 139 (tab l w s n0 n1 z late) 200 0 (next (c1S L sv) (some (.b false))) (dsS L false sv) ri:=by
 cases sv<;>exact ⟨by kernel_rfl,by kernel_rfl,by kernel_rfl⟩
theorem ck_ds(aw sv:Bool):To L.mu.tIMutex 139 (tab l w s n0 n1 z late) 12 1 (next (dsS L aw sv) none) (rdS L .b aw sv) [(.v 0,.v 0),(.v 1,.v 1),(.v 3,.v 3),(.v 6,.v 5)]:=by
 cases aw<;>cases sv<;>exact ⟨by kernel_rfl,by kernel_rfl,by kernel_rfl⟩
theorem ck_c2n(aw sv:Bool):To L.mu.tIMutex 139 (tab l w s n0 n1 z late) 6 1 (next (c2S L aw sv) (some (.b false))) (rdS L .c aw sv) ri:=by
 cases aw<;>cases sv<;>exact ⟨by kernel_rfl,by kernel_rfl,by kernel_rfl⟩
theorem ck_c2l(aw sv:Bool):To L.mu.tIMutex 139 (tab false w false n0 n1 z late) 200 0 (next (c2S L aw sv) (some (.b true))) (exS L) ri:=by
 cases aw<;>cases sv<;>exact ⟨by kernel_rfl,by kernel_rfl,by kernel_rfl⟩
theorem ck_c2t(aw sv:Bool):To L.mu.tIMutex 139 (tab true w s n0 n1 true late) 200 0 (next (c2S L aw sv) (some (.b true))) (t1S L sv false) ri∧To L.mu.tIMutex 139 (tab false w true n0 n1 true late) 200 0 (next (c2S L aw sv) (some (.b true))) (t1S L sv false) ri:=by
 cases s<;>cases aw<;>cases sv<;>exact ⟨⟨by kernel_rfl,by kernel_rfl,by kernel_rfl⟩,⟨by kernel_rfl,by kernel_rfl,by kernel_rfl⟩⟩
theorem ck_c2s(aw sv:Bool):To L.mu.tIMutex 139 (tab true w s n0 n1 false late) 200 1 (next (c2S L aw sv) (some (.b true))) (s1S L sv true) ri∧To L.mu.tIMutex 139 (tab false w true n0 n1 false late) 200 1 (next (c2S L aw sv) (some (.b true))) (s1S L sv true) ri:=by
 cases s<;>cases aw<;>cases sv<;>exact ⟨⟨by kernel_rfl,by kernel_rfl,by kernel_rfl⟩,⟨by kernel_rfl,by kernel_rfl,by kernel_rfl⟩⟩
theorem ck_t1(sv lifo:Bool):To L.mu.tIMutex 139 (tab l w s n0 n1 z late) 200 1 (next (t1S L sv lifo) (some (.v 20))) (s1S L sv lifo) [(.v 0,.v 0),(.v 2,.v 2),(.v 20,.v 3)]:=by
 cases sv<;>cases lifo<;>exact ⟨by kernel_rfl,by kernel_rfl,by kernel_rfl⟩
theorem ck_s1f(lifo:Bool):To L.mu.tIMutex 139 (tab l w s n0 n1 z late) 5 0 (next (s1S L false lifo) none) (t2S L) ri:=⟨by kernel_rfl,by kernel_rfl,by kernel_rfl⟩
theorem ck_s1t(lifo:Bool):To L.mu.tIMutex 139 (tab l w s n0 n1 z late) 200 1 (next (s1S L true lifo) none) (r2S L true) ri:=⟨by kernel_rfl,by kernel_rfl,by kernel_rfl⟩
theorem ck_t2:To L.mu.tIMutex 139 (tab l w s n0 n1 z late) 200 1 (next (t2S L) (some (.v 20))) (r2S L late) ri:=by
 cases late<;>exact ⟨by kernel_rfl,by kernel_rfl,by kernel_rfl⟩
theorem ck_r2n(sv:Bool):To L.mu.tIMutex 139 (tab l w false n0 n1 z late) 20 0 (next (r2S L sv) (some (.v 4))) (head L true sv) [(.v 0,.v 0),(.v 3,.v 3),(.v 4,.v 4),(.i .i64 0,.v 5)]:=by
 cases sv<;>exact ⟨by kernel_rfl,by kernel_rfl,by kernel_rfl⟩
theorem ck_r2s:To L.mu.tIMutex 139 (tab false false true false n1 z late) 200 1 (next (r2S L false) (some (.v 4))) (a1S L (-11)) ri∧To L.mu.tIMutex 139 (tab false false true false true z late) 200 1 (next (r2S L true) (some (.v 4))) (a1S L (-11)) ri∧To L.mu.tIMutex 139 (tab false false true false false z late) 200 1 (next (r2S L true) (some (.v 4))) (a1S L (-7)) ri:=⟨⟨by kernel_rfl,by kernel_rfl,by kernel_rfl⟩,⟨by kernel_rfl,by kernel_rfl,by kernel_rfl⟩,⟨by kernel_rfl,by kernel_rfl,by kernel_rfl⟩⟩
theorem ck_a1(dl:Int)(T:Tab):To L.mu.tIMutex 139 T 200 0 (next (a1S L dl) none) (exS L) ri:=⟨by kernel_rfl,by kernel_rfl,by kernel_rfl⟩
end
theorem at_rd(pl:Pl)(aw sv:Bool):loadAt 139 (rdS L pl aw sv)=some (21,some (.v 1)):=by cases pl<;>cases aw<;>cases sv<;>kernel_rfl
theorem at_sq(aw sv:Bool):callAt 139 (sqS L aw sv)=some (L.canSpin,[some (.v 5)]):=by cases aw<;>cases sv<;>kernel_rfl
theorem at_c1(sv:Bool):callAt 139 (c1S L sv)=some (L.mu.cas32,[some (.v 1),some (.v 4),some (.v 14)]):=by cases sv<;>kernel_rfl
theorem at_ds(aw sv:Bool):callAt 139 (dsS L aw sv)=some (L.doSpin,[]):=by cases aw<;>cases sv<;>kernel_rfl
theorem at_c2(aw sv:Bool):callAt 139 (c2S L aw sv)=some (L.mu.cas32,[some (.v 1),some (.v 4),some (.v 30)]):=by cases aw<;>cases sv<;>kernel_rfl
theorem at_t1(sv lifo:Bool):callAt 139 (t1S L sv lifo)=some (L.nano,[]):=by cases sv<;>cases lifo<;>kernel_rfl
theorem at_s1(sv lifo:Bool):callAt 139 (s1S L sv lifo)=some (L.semacq,[some (.v 2),some (.b lifo),some (.i .i64 2)]):=by cases sv<;>cases lifo<;>kernel_rfl
theorem at_t2:callAt 139 (t2S L)=some (L.nano,[]):=by kernel_rfl
theorem at_r2(sv:Bool):loadAt 139 (r2S L sv)=some (21,some (.v 1)):=by cases sv<;>kernel_rfl
theorem at_ex:callAt 139 (exS L)=some (L.mu.enable,[]):=by kernel_rfl
theorem at_a1(dl:Int):callAt 139 (a1S L dl)=some (L.mu.add32,[some (.v 1),some (.i .i32 dl)]):=by kernel_rfl
end
end Go.Mx
namespace Go.Mx
open Go.Ren Go.Sy
open Go.Conc hiding Goes
open Go.Conc.Locks
open Go.ConcR (stA smA)
section
variable(L:MxLink)
theorem e_cas_n:((cas32Fn L.mu).name == "runtime.NumGoroutine")=false:=by kernel_rfl
theorem e_cas_b:(cas32Fn L.mu).body.isNone=true:=by kernel_rfl
theorem e_cas_x:Extern.findNext (cas32Fn L.mu)=none:=by kernel_rfl
theorem e_cas_f:Extern.find (cas32Fn L.mu)=some (Extern.Atomic.casT (.int .i32)):=by kernel_rfl
theorem e_add_n:((add32Fn L.mu).name == "runtime.NumGoroutine")=false:=by kernel_rfl
theorem e_add_b:(add32Fn L.mu).body.isNone=true:=by kernel_rfl
theorem e_add_x:Extern.findNext (add32Fn L.mu)=none:=by kernel_rfl
theorem e_add_f:Extern.find (add32Fn L.mu)=some (Extern.Atomic.update (Op.intArith .add) .i32 true):=by kernel_rfl
theorem e_can_n:((canSpinFn L).name == "runtime.NumGoroutine")=false:=by kernel_rfl
theorem e_can_b:(canSpinFn L).body.isNone=true:=by kernel_rfl
theorem e_can_x:Extern.findNext (canSpinFn L)=none:=by kernel_rfl
theorem e_can_f:Extern.find (canSpinFn L)=some Extern.Sync.canSpin:=by kernel_rfl
theorem e_do_n:((doSpinFn L).name == "runtime.NumGoroutine")=false:=by kernel_rfl
theorem e_do_b:(doSpinFn L).body.isNone=true:=by kernel_rfl
theorem e_do_x:Extern.findNext (doSpinFn L)=none:=by kernel_rfl
theorem e_do_f:Extern.find (doSpinFn L)=some (fun _=>pure (.tuple #[])):=by kernel_rfl
theorem e_nano_n:((nanoFn L).name == "runtime.NumGoroutine")=false:=by kernel_rfl
theorem e_nano_b:(nanoFn L).body.isNone=true:=by kernel_rfl
theorem e_nano_x:Extern.findNext (nanoFn L)=none:=by kernel_rfl
theorem e_nano_f:Extern.find (nanoFn L)=some Extern.OsHooks.nano:=by kernel_rfl
theorem e_nano_q:(nanoFn L).norace=true:=by kernel_rfl
theorem e_acq_n:((semacqFn L).name == "runtime.NumGoroutine")=false:=by kernel_rfl
theorem e_acq_b:(semacqFn L).body.isNone=true:=by kernel_rfl
theorem e_acq_x:Extern.findNext (semacqFn L)=none:=by kernel_rfl
theorem e_acq_f:Extern.find (semacqFn L)=some Extern.Sync.semacquire:=by kernel_rfl
theorem e_rel_n:((semrelFn L).name == "runtime.NumGoroutine")=false:=by kernel_rfl
theorem e_rel_b:(semrelFn L).body.isNone=true:=by kernel_rfl
theorem e_rel_x:Extern.findNext (semrelFn L)=none:=by kernel_rfl
theorem e_rel_f:Extern.find (semrelFn L)=some Extern.Sync.semrelease:=by kernel_rfl
end
section
variable{tM:TypeId}{Mu:Nat}{w:World}{m m':Wd}{q:Nat}
def mA(Mu:Nat):Addr:=⟨Mu,0,none⟩
def sA(Mu:Nat):Addr:=⟨Mu,1,none⟩
theorem MuAt.state(h:MuAt tM Mu w m q):w.cell? (mA Mu)=some (.int .i32 m.num):=by unfold MuAt at h;simp [World.cell?,mA,h]
theorem MuAt.sema(h:MuAt tM Mu w m q):w.cell? (sA Mu)=some (.int .u32 q):=by unfold MuAt at h;simp [World.cell?,sA,h]
theorem MuAt.thaw(h:MuAt tM Mu w m q)(off:Nat):w.frozen? ⟨Mu,off,none⟩=false:=by unfold MuAt at h;simp [World.frozen?,h]
theorem modify_self{α:Type}{A:Array α}{i:Nat}{f:α→α}{x:α}(h:A[i]? = some x):(A.modify i f)[i]? = some (f x):=by
 rw [Array.getElem?_modify,if_pos rfl,h];rfl
theorem MuAt.setState(h:MuAt tM Mu w m q){v:Int}(hv:v=m'.num):MuAt tM Mu (w.setCell (mA Mu) (.int .i32 v)) m' q:=by
 unfold MuAt at h ⊢
 unfold World.setCell mA
 dsimp only
 rw [modify_self h]
 simp [hv]
theorem MuAt.setSema(h:MuAt tM Mu w m q){v:Int}{q':Nat}(hv:v=q'):MuAt tM Mu (w.setCell (sA Mu) (.int .u32 v)) m q' :=by
 unfold MuAt at h ⊢
 unfold World.setCell sA
 dsimp only
 rw [modify_self h]
 simp [hv]
theorem eff_set{a:Addr}(ha:a.block=Mu)(v:Value):EffM Mu w (w.setCell a v):=⟨by simp,fun b hb=>setCell_other (by rw [ha];exact hb),.rfl,rfl,rfl⟩
theorem eff_asked:EffM Mu w w.asked:=⟨rfl,fun _ _=>rfl,.rfl,rfl,rfl⟩
theorem eff_later:EffM Mu w w.later:=⟨rfl,fun _ _=>rfl,⟨w.tick,rfl⟩,rfl,rfl⟩
theorem ev_1{b:Bool}:∀e ∈ #[(⟨.cell (mA Mu),b,true⟩:Event)],LibEv Mu e:=by
 intro e he;rw [Array.mem_singleton] at he;subst he;exact .inr (.inr (.inr (.inr ⟨_,_,rfl,rfl⟩)))
theorem ev_2:∀e ∈ #[(⟨.cell (mA Mu),false,true⟩:Event),⟨.cell (mA Mu),true,true⟩],LibEv Mu e:=by
 intro e he
 simp at he
 rcases he with rfl|rfl<;>exact .inr (.inr (.inr (.inr ⟨_,_,rfl,rfl⟩)))
theorem ev_s:∀e∈semEvents (sA Mu),LibEv Mu e:=by
 intro e he
 simp [semEvents] at he
 rcases he with rfl|rfl|rfl|rfl
 ·exact .inl rfl
 ·exact .inr (.inr (.inr (.inr ⟨_,_,rfl,rfl⟩)))
 ·exact .inr (.inr (.inr (.inr ⟨_,_,rfl,rfl⟩)))
 ·exact .inr (.inl rfl)
theorem df_1{b:Bool}:deafBehind 1 #[(⟨.cell (mA Mu),b,true⟩:Event)]=1:=by simp [deafBehind]
theorem df_2:deafBehind 1 #[(⟨.cell (mA Mu),false,true⟩:Event),⟨.cell (mA Mu),true,true⟩]=1:=by simp [deafBehind]
theorem df_s:deafBehind 1 (semEvents (sA Mu))=1:=by simp [semEvents,deafBehind]
end
end Go.Mx
namespace Go.Mx
open Go.Ren Go.Sy
open Go.Conc hiding Goes
open Go.Conc.Locks
open Go.ConcR (stA smA)
def newW(T:Lo):Wd:=if T.old.L=0∧T.old.S=0 then ⟨1,if T.aw then 0 else T.old.W,0,T.old.n⟩ else ⟨T.old.L,if T.aw then 0 else T.old.W,if T.sv=true∧T.old.L=1 then 1 else T.old.S,T.old.n+1⟩
def Bh(L:MxLink)(cs:List Frame)(ν:Nat→Value)(s:S)(g:Goroutine):Prop:=Behind ν 139 (base L.mu.lockSlow) [] cs s g
def Small(o:Wd):Prop:=o.Bits∧o.n < 63
def AtL(L:MxLink)(Mu:Nat)(cs:List Frame)(y:Lk)(d:Nat)(g:Goroutine):Prop:=d=1∧match y with
 | .rd aw sv it=>∃wst o pl,Bh L cs (nu Mu wst it 0 o 0) (rdS L pl aw sv) g
 | .sq T=>∃wst,Bh L cs (nu Mu wst T.it 0 T.old 0) (sqS L T.aw T.sv) g
 | .c1 T=>T.aw=false∧∃wst,Bh L cs (nu Mu wst T.it 0 T.old 0) (c1S L T.sv) g
 | .c2 T=>∃wst,Bh L cs (nu Mu wst T.it 0 T.old (newW T).num) (c2S L T.aw T.sv) g
 | .t1 sv=>∃wst it o lifo,Small o∧Bh L cs (nu Mu wst it 0 o 0) (t1S L sv lifo) g
 | .s1 sv=>∃wst it o lifo,Small o∧Bh L cs (nu Mu wst it 0 o 0) (s1S L sv lifo) g
 | .t2=>∃wst it o,Small o∧Bh L cs (nu Mu wst it 0 o 0) (t2S L) g
 | .r2 sv=>∃wst it o,Small o∧Bh L cs (nu Mu wst it 0 o 0) (r2S L sv) g
 | .a1 sv cl=>∃wst it o,Small o∧Bh L cs (nu Mu wst it 0 o 0) (a1S L (if cl then -11 else -7)) g
 |_=>False
section
variable{P:Program}{L:MxLink}{I:World→Prop}{tM:TypeId}{Mu B:Nat}{cs:List Frame}{d:Nat}{g:Goroutine}{wst it tv:Int}{o:Wd}{nw:Int}
theorem kb:(base L.mu.lockSlow).kind ≠ .early:=by simp [base]
theorem ri_ok{tv' nw':Int}:∀p∈ri,p.1.den (nu Mu wst it tv o nw)=p.2.den (nu Mu wst it tv' o nw'):=by
 intro p hp
 simp only [ri,List.mem_cons,List.not_mem_nil,or_false] at hp
 rcases hp with rfl|rfl|rfl|rfl|rfl|rfl|rfl
 ·exact nu_0.trans nu_0.symm
 ·exact nu_1.trans nu_1.symm
 ·exact nu_2.trans nu_2.symm
 ·exact nu_3.trans nu_3.symm
 ·exact nu_4.trans nu_4.symm
 ·exact nu_5.trans nu_5.symm
 ·exact nu_14.trans nu_14.symm
theorem rN_ok{tv':Int}{k:Nat}{nw':Int}(h:nu Mu wst it tv o nw k = .int .i32 nw'):∀p∈rN k,p.1.den (nu Mu wst it tv o nw)=p.2.den (nu Mu wst it tv' o nw'):=by
 intro p hp
 simp only [rN,List.mem_cons] at hp
 rcases hp with rfl|hp
 ·exact h.trans nu_30.symm
 ·exact ri_ok p hp
theorem tabF_of{l w s:Bool}(hl:fl o.L=l)(hw:fl o.W=w)(hs:fl o.S=s):tabF wst tv o=tab l w s (o.n == 0) (o.n == 1) (wst == 0) (decide (IntKind.i64.wrap (tv - wst) > 1000000)):=by unfold tabF;rw [hl,hw,hs]
theorem fl1{k:Nat}(h:k=1):fl k=true:=by rw [h];rfl
theorem fl0{k:Nat}(h:k=0):fl k=false:=by rw [h];rfl
theorem v10_is(ho:o.Bits)(hn:o.n < 63):bor (o.num:Int) 1=((⟨1,o.W,o.S,o.n⟩:Wd).num:Nat):=by
 have h1:=num_w4 (m:=⟨1,o.W,o.S,o.n⟩) ⟨Nat.le_refl _,ho.W,ho.S⟩
 rw [num_w4 ho,h1]
 exact (w_or _ (by omega) _ _ _).1
theorem v15_is(ho:o.Bits)(hn:o.n < 63):bandn (bor (o.num:Int) 1) 2=((⟨1,0,o.S,o.n⟩:Wd).num:Nat):=by
 have h1:=num_w4 (m:=⟨1,o.W,o.S,o.n⟩) ⟨Nat.le_refl _,ho.W,ho.S⟩
 have h2:=num_w4 (m:=⟨1,0,o.S,o.n⟩) ⟨Nat.le_refl _,Nat.zero_le _,ho.S⟩
 rw [v10_is ho hn,h1,h2]
 exact (w_or _ (by dsimp only;omega) _ _ _).2.2.2
theorem v11_is(ho:o.Bits)(hn:o.n < 63):IntKind.i32.wrap ((o.num:Int)+8)=((⟨o.L,o.W,o.S,o.n+1⟩:Wd).num:Nat):=by
 have h2:=num_w4 (m:=⟨o.L,o.W,o.S,o.n+1⟩) ⟨ho.L,ho.W,ho.S⟩
 rw [plus8 ho hn,h2]
theorem v18_is(ho:o.Bits)(hn:o.n < 63):IntKind.i32.wrap (bor (o.num:Int) 1+8)=((⟨1,o.W,o.S,o.n+1⟩:Wd).num:Nat):=by
 rw [v10_is ho hn]
 exact v11_is (o:=⟨1,o.W,o.S,o.n⟩) ⟨Nat.le_refl _,ho.W,ho.S⟩ hn
theorem v16_is(ho:o.Bits)(hn:o.n < 63):bandn (IntKind.i32.wrap (bor (o.num:Int) 1+8)) 2=((⟨1,0,o.S,o.n+1⟩:Wd).num:Nat):=by
 have h1:=num_w4 (m:=⟨1,o.W,o.S,o.n+1⟩) ⟨Nat.le_refl _,ho.W,ho.S⟩
 have h2:=num_w4 (m:=⟨1,0,o.S,o.n+1⟩) ⟨Nat.le_refl _,Nat.zero_le _,ho.S⟩
 rw [v18_is ho hn,h1,h2]
 exact (w_or _ (by dsimp only;omega) _ _ _).2.2.2
theorem v17_is(ho:o.Bits)(hn:o.n < 63):bandn (bor (IntKind.i32.wrap (bor (o.num:Int) 1+8)) 4) 2=((⟨1,0,1,o.n+1⟩:Wd).num:Nat):=by
 have h1:=num_w4 (m:=⟨1,o.W,o.S,o.n+1⟩) ⟨Nat.le_refl _,ho.W,ho.S⟩
 have h2:=num_w4 (m:=⟨1,0,1,o.n+1⟩) ⟨Nat.le_refl _,Nat.zero_le _,Nat.le_refl _⟩
 rw [v18_is ho hn,h1,h2,(w_or _ (by dsimp only;omega) _ _ _).2.2.1]
 exact (w_or _ (by dsimp only;omega) _ _ _).2.2.2
theorem v14_is(ho:o.Bits)(hn:o.n < 63):bor (o.num:Int) 2=((⟨o.L,1,o.S,o.n⟩:Wd).num:Nat):=by
 have h1:=num_w4 (m:=⟨o.L,1,o.S,o.n⟩) ⟨ho.L,Nat.le_refl _,ho.S⟩
 rw [num_w4 ho,h1]
 exact (w_or _ (by omega) _ _ _).2.1
theorem head_go(H:MxLib P L)(ho:o.Bits)(hn:o.n < 63){aw sv:Bool}{it:Nat}(hw:aw=true→o.W=1∧o.S=0)(hs:sv=true→aw=true)(hg:Bh L cs (nu Mu wst it 0 o 0) (head L aw sv) g):IdleD P false I X0 (AtL L Mu cs (hd ⟨o,aw,sv,it⟩)) 1 g:=by
 have hT:=tab_ok H (Mu:=Mu) (wst:=wst) (it:=it) (tv:=0) (nw:=0) ho hn
 have hL:=ho.L
 have hS:=ho.S
 have hW:=ho.W
 by_cases hq:o.L=1∧o.S=0
 ·have e:hd ⟨o,aw,sv,it⟩ = .sq ⟨o,aw,sv,it⟩:=by unfold hd;rw [if_pos hq]
  rw [e]
  rw [tabF_of (fl1 hq.1) rfl (fl0 hq.2)] at hT
  exact (ck_sq L _ _ _ _ _ aw sv).walk hT ri_ok kb hg fun g' hb=>.stop ⟨rfl,wst,hb⟩
 ·have e:hd ⟨o,aw,sv,it⟩ = .c2 ⟨o,aw,sv,it⟩:=by unfold hd;rw [if_neg hq]
  rw [e]
  by_cases h0:o.S=0
  ·have hl0:o.L=0:=by omega
   cases ha:aw with
   |false=>
    have hsv:sv=false:=by cases h:sv with|false=>rfl|true=>exact absurd (hs h) (by rw [ha];simp)
    subst ha hsv
    rw [tabF_of (fl0 hl0) rfl (fl0 h0)] at hT
    refine (ck_c00 L _ _ _ _ _).walk hT (rN_ok (nw' :=((newW ⟨o,false,false,it⟩).num:Nat)) ?_) kb hg fun g' hb=>.stop ⟨rfl,wst,hb⟩
    rw [nu_10,v10_is ho hn]
    unfold newW
    rw [if_pos ⟨hl0,h0⟩]
    simp [h0]
   |true=>
    subst ha
    have hw1:=(hw rfl).1
    rw [tabF_of (fl0 hl0) (fl1 hw1) (fl0 h0)] at hT
    refine (ck_c00a L _ _ _ _ sv).walk hT (rN_ok (nw' :=((newW ⟨o,true,sv,it⟩).num:Nat)) ?_) kb hg fun g' hb=>.stop ⟨rfl,wst,hb⟩
    rw [nu_15,v15_is ho hn]
    unfold newW
    rw [if_pos ⟨hl0,h0⟩]
    simp [h0]
  ·have hs1:o.S=1:=by omega
   have ha:aw=false:=by cases h:aw with|false=>rfl|true=>exact absurd (hw h).2 h0
   have hsv:sv=false:=by cases h:sv with|false=>rfl|true=>exact absurd (hs h) (by rw [ha];simp)
   subst ha hsv
   rw [tabF_of rfl rfl (fl1 hs1)] at hT
   refine (ck_c1 L _ _ _ _ _ _).walk hT (rN_ok (nw' :=((newW ⟨o,false,false,it⟩).num:Nat)) ?_) kb hg fun g' hb=>.stop ⟨rfl,wst,hb⟩
   rw [nu_11,v11_is ho hn]
   unfold newW
   rw [if_neg (by intro x;exact h0 x.2)]
   simp
end
end Go.Mx
