import Derived.Test.YtoiennkfdjnkbaaGreatDoorPk24
import Derived.Test.YtoiennkfdjnkbaaGreatDoorPk25
import Derived.Laws.BitsAllLaws
import Derived.Maps.RangeWalk
import Derived.Maps.Ext
set_option maxRecDepth 100000
set_option maxHeartbeats 8000000
namespace Go.Proofs.YtoiennkfdjnkbaaGreatDoor
section
set_option maxRecDepth 100000
open Go.RowKit Go.Maps Go.Sort Go.Shelf
variable {Z:Nat→Prop}
theorem st_keep_2 {w:World} {s m:Nat} {a:Option Addr} {n c:Nat} {l:List Sp} {X:List (Int×Value)} (h:Stm Z w s m a n c l X) {t f:Int} {ba:Option Addr} {bl bc:Nat} (hat:2≤atS l t) :
  Calls Tryz.prog 197 #[.pointer (some ⟨s,0,none⟩),.agg #[.int .i64 t,.int .u32 f,.slice ba bl bc]] w fun e w'=>e=.returned (.tuple #[])∧Below w.heap.size w w':=by
 obtain ⟨W1,HW1⟩:∃ W1,Hid (W1=w.alloc (.cells #[.int .i64 t,.int .u32 f,.slice ba bl bc] 51)):=⟨_,rfl⟩
 have HX1:Hid (Below w.heap.size w W1):=by (show Below _ _ _);rw [HW1.out];exact below_alloc w _
 have HK1:Hid (Bk W1 w.heap.size #[.int .i64 t,.int .u32 f,.slice ba bl bc] 51):=by (show Bk _ _ _ _);rw [HW1.out];exact Bk.new w _ _
 have HS1:Hid (Stm Z W1 s m a n c l X):=h.stay HX1.out
 have c0:W1.drew.cell? ⟨s,0,none⟩=some (.slice a n c):=HS1.out.blk.cell 0 rfl
 have g0:W1.drew.cell? ⟨w.heap.size,0,none⟩=some (.int .i64 t):=HK1.out.cell 0 rfl
 have HAT:Hid (∀ W,Below W1.heap.size W1 W→Calls Tryz.prog 260 #[.slice a n c,.int .i64 t] W fun e w'=>e=.returned (.int .i64 (atS l t))∧Below W.heap.size W w'):=fun W hW=>span_At a n c l t W (HS1.out.ok.rd.below hW) HS1.out.ok.len
 have k0:((atS l t) == 0)=false:=by rw [beq_eq_false_iff_ne];omega
 have k1:((atS l t) == 1)=false:=by rw [beq_eq_false_iff_ne];omega
 clear h
 go_enter Tryz.func197,Tryz.ntmps197
 go_upto_region 1 with fail
 rw [← HW1.out]
 have HB0:Hid (Below W1.heap.size W1 W1.drew):=(Below.refl _ _).drew
 go_region_law (first
  | (go_simp;go_at_call 260;refine (HAT.out _ HB0.out).mono ?_;rintro e w2 ⟨rfl,hb2⟩;have HB2:Hid (Below W1.heap.size W1 w2):=HB0.out.trans (hb2.mono HB0.out.size);clear hb2))
 all_goals (
  go_wp2
  exact ⟨rfl,_,results_none rfl _ _ _,rfl,HX1.out.trans (HB2.out.mono HX1.out.size)⟩)
def Kept1 (Z:Nat→Prop) (s m:Nat) (a:Option Addr) (n c:Nat) (l:List Sp) (X:List (Int×Value)) (t:Int) (v:Value) (w w':World):Prop:=Stm Z w' s m a n c l (putX X t v)∧Two s m w w'
theorem st_keep_1 {w:World} {s m:Nat} {a:Option Addr} {n c:Nat} {l:List Sp} {X:List (Int×Value)} (h:Stm Z w s m a n c l X) (hX:X.length≤1000000) {t f:Int} {ba:Option Addr} {bl bc:Nat} (ht:1≤t∧t≤1099511627776) (hat:atS l t=1) {t0 f0:Int} {da:Option Addr} {dl dc:Nat} (hg:getX X t=some (.agg #[.int .i64 t0,.int .u32 f0,.slice da dl dc])) :
  Calls Tryz.prog 197 #[.pointer (some ⟨s,0,none⟩),.agg #[.int .i64 t,.int .u32 f,.slice ba bl bc]] w fun e w'=>e=.returned (.tuple #[])∧Kept1 Z s m a n c l X t (.agg #[.int .i64 t0,.int .u32 (bits .or .u32 f0 f),.slice da dl dc]) w w':=by
 have hsl:=h.blk.lt
 have hml:=h.items.lt
 obtain ⟨W1,HW1⟩:∃ W1,Hid (W1=w.alloc (.cells #[.int .i64 t,.int .u32 f,.slice ba bl bc] 51)):=⟨_,rfl⟩
 have HX1:Hid (Below w.heap.size w W1):=by (show Below _ _ _);rw [HW1.out];exact below_alloc w _
 have HK1:Hid (Bk W1 w.heap.size #[.int .i64 t,.int .u32 f,.slice ba bl bc] 51):=by (show Bk _ _ _ _);rw [HW1.out];exact Bk.new w _ _
 have HS1:Hid (Stm Z W1 s m a n c l X):=h.stay HX1.out
 have c0:W1.drew.cell? ⟨s,0,none⟩=some (.slice a n c):=HS1.out.blk.cell 0 rfl
 have g0:W1.drew.cell? ⟨w.heap.size,0,none⟩=some (.int .i64 t):=HK1.out.cell 0 rfl
 have HAT:Hid (∀ W,Below W1.heap.size W1 W→Calls Tryz.prog 260 #[.slice a n c,.int .i64 t] W fun e w'=>e=.returned (.int .i64 1)∧Below W.heap.size W w'):=fun W hW=>by
  have:=span_At a n c l t W (HS1.out.ok.rd.below hW) HS1.out.ok.len
  rw [hat] at this
  exact this
 clear h
 go_enter Tryz.func197,Tryz.ntmps197
 go_upto_region 1 with fail
 rw [← HW1.out]
 have HB0:Hid (Below W1.heap.size W1 W1.drew):=(Below.refl _ _).drew
 go_cut [11] from 5 (fun v11 wx=>v11=.int .i64 1∧Hid (Below W1.heap.size W1 wx))
 case first =>
  rename_i hJ hM
  go_region_law (first
   | (go_simp;go_at_call 260;refine (HAT.out _ HB0.out).mono ?_;rintro e w2 ⟨rfl,hb2⟩;have HB2:Hid (Below W1.heap.size W1 w2):=HB0.out.trans (hb2.mono HB0.out.size);clear hb2))
  all_goals (
   refine hM _ _ ?_
   go_meet
   exact ⟨rfl,HB2⟩)
 case rest =>
 obtain ⟨hv,HB2⟩:=hcut
 obtain ⟨w2,hwp⟩:∃ W,W=wc:=⟨_,rfl⟩
 subst hwp
 subst hv
 have HS2:Hid (Stm Z w2 s m a n c l X):=HS1.out.stay HB2.out
 have HK2:Hid (Bk w2 w.heap.size #[.int .i64 t,.int .u32 f,.slice ba bl bc] 51):=HK1.out.stay HB2.out
 have HX2:Hid (Below w.heap.size w w2):=HX1.out.trans (HB2.out.mono HX1.out.size)
 clear c0 g0 HAT HB0 HB2 HS1 HK1 HX1 HW1
 have c1:w2.drew.cell? ⟨s,1,none⟩=some (.map (some m)):=HS2.out.blk.cell 1 rfl
 have g0:w2.drew.cell? ⟨w.heap.size,0,none⟩=some (.int .i64 t):=HK2.out.cell 0 rfl
 have hlk:(Instr.lookup 182 (.map (some m)) (.int .i64 t) false).run Tryz.prog w2.drew=.ok (.agg #[.int .i64 t0,.int .u32 f0,.slice da dl dc]) w2.drew:=by
  have:=(HS2.out.stay (Below.refl _ _).drew).look (t:=t) (by omega)
  rw [hg] at this
  exact this
 have c1b:(w2.alloc (.cells #[.int .i64 0,.int .u32 0,.slice none 0 0] 51)).drew.cell? ⟨s,1,none⟩=some (.map (some m)):=(HS2.out.stay (below_alloc w2 _).drew).blk.cell 1 rfl
 have g0b:(w2.alloc (.cells #[.int .i64 0,.int .u32 0,.slice none 0 0] 51)).drew.cell? ⟨w.heap.size,0,none⟩=some (.int .i64 t):=(HK2.out.stay (below_alloc w2 _).drew).cell 0 rfl
 have hlkb:(Instr.lookup 182 (.map (some m)) (.int .i64 t) false).run Tryz.prog (w2.alloc (.cells #[.int .i64 0,.int .u32 0,.slice none 0 0] 51)).drew=.ok (.agg #[.int .i64 t0,.int .u32 f0,.slice da dl dc]) (w2.alloc (.cells #[.int .i64 0,.int .u32 0,.slice none 0 0] 51)).drew:=by
  have:=(HS2.out.stay (below_alloc w2 (.cells #[.int .i64 0,.int .u32 0,.slice none 0 0] 51)).drew).look (t:=t) (by omega)
  rw [hg] at this
  exact this
 go_upto_region 6 with fail
 go_cut [4] from 41 (fun v4 wx=>v4=.pointer (some ⟨w2.heap.size,0,none⟩)∧wx=(w2.alloc (.cells #[.int .i64 t0,.int .u32 f0,.slice da dl dc] 51)).drew)
 case first =>
  rename_i hJ hM
  go_region
  all_goals (
   refine hM _ _ ?_
   go_meet
   exact ⟨rfl,rfl⟩)
 case rest =>
 obtain ⟨rfl,rfl⟩:=hcut
 clear c1 g0 hlk c1b g0b hlkb
 have HB3:Hid (Below w2.heap.size w2 (w2.alloc (.cells #[.int .i64 t0,.int .u32 f0,.slice da dl dc] 51)).drew):=(below_alloc w2 _).drew
 have g1:(w2.alloc (.cells #[.int .i64 t0,.int .u32 f0,.slice da dl dc] 51)).drew.cell? ⟨w.heap.size,1,none⟩=some (.int .u32 f):=(HK2.out.stay HB3.out).cell 1 rfl
 generalize hF:bits BinOp.or IntKind.u32 f0 f=F at *
 have HF:Hid (bits BinOp.or IntKind.u32 f0 f=F):=hF
 clear hF
 obtain ⟨W3,HW3⟩:∃ W3,Hid (W3=(w2.alloc (.cells #[.int .i64 t0,.int .u32 F,.slice da dl dc] 51)).drew):=⟨_,rfl⟩
 have HBW3:Hid (Below w2.heap.size w2 W3):=by (show Below _ _ _);rw [HW3.out];exact (below_alloc w2 _).drew
 have HS3:Hid (Stm Z W3 s m a n c l X):=HS2.out.stay HBW3.out
 have HKI3:Hid (Bk W3 w2.heap.size #[.int .i64 t0,.int .u32 F,.slice da dl dc] 51):=by (show Bk _ _ _ _);rw [HW3.out];exact Bk.new w2 _ _
 have c1:W3.drew.cell? ⟨s,1,none⟩=some (.map (some m)):=HS3.out.blk.cell 1 rfl
 have g0:W3.drew.cell? ⟨w.heap.size,0,none⟩=some (.int .i64 t):=(HK2.out.stay HBW3.out).cell 0 rfl
 have i0:W3.drew.cell? ⟨w2.heap.size,0,none⟩=some (.int .i64 t0):=HKI3.out.cell 0 rfl
 have i1:W3.drew.cell? ⟨w2.heap.size,1,none⟩=some (.int .u32 F):=HKI3.out.cell 1 rfl
 have i2:W3.drew.cell? ⟨w2.heap.size,2,none⟩=some (.slice da dl dc):=HKI3.out.cell 2 rfl
 have HSD:Hid (Stm Z W3.drew s m a n c l X):=HS3.out.stay (Below.refl _ _).drew
 obtain ⟨w4,hput,HS4,HT4⟩:=HSD.out.put hX (tkey_of (t:=t) (by omega)) (.agg #[.int .i64 t0,.int .u32 F,.slice da dl dc])
 have HBF:Hid (Two s m w w4):=((Two.of_below s m HX2.out).trans ((Two.of_below s m HBW3.out).trans (Two.of_below s m (Below.refl W3.heap.size W3).drew))).trans (Two.turned HT4.out)
 go_upto_region 8 with fail
 rw [HF.out,← HW3.out]
 go_region
 all_goals (
  go_wp2
  refine ⟨rfl,_,results_none rfl _ _ _,rfl,?_,HBF.out⟩
  rw [HF.out]
  exact HS4.out)
end
section
set_option maxRecDepth 100000
open Go.RowKit Go.Maps Go.Sort Go.Shelf
variable {Z:Nat→Prop}
def orI (a b:Int):Int:=((a.toNat ||| b.toNat:Nat):Int)
theorem orI_range {a b:Int} (ha:0≤a∧a≤4294967295) (hb:0≤b∧b≤4294967295):0≤orI a b∧orI a b≤4294967295:=by
 have h:a.toNat ||| b.toNat<2 ^ 32:=Nat.or_lt_two_pow (by omega) (by omega)
 unfold orI
 omega
theorem bits_or {a b:Int} (ha:0≤a∧a≤4294967295) (hb:0≤b∧b≤4294967295):bits .or .u32 a b=orI a b:=by
 obtain ⟨A,rfl⟩:=Int.eq_ofNat_of_zero_le ha.1
 obtain ⟨B,rfl⟩:=Int.eq_ofNat_of_zero_le hb.1
 have hx:A ||| B<2 ^ 32:=Nat.or_lt_two_pow (by omega) (by omega)
 have e:∀ n:Nat,n<2 ^ 32→(BitVec.ofInt 32 (n:Int)).toNat=n:=fun n hn=>by
  rw [BitVec.ofInt_natCast,BitVec.toNat_ofNat]
  exact Nat.mod_eq_of_lt hn
 show IntKind.u32.wrap ((BitVec.ofInt 32 (A:Int) ||| BitVec.ofInt 32 (B:Int)).toNat:Int)=((A ||| B:Nat):Int)
 rw [BitVec.toNat_or,e A (by omega),e B (by omega),IntKind.wrap_u32']
 omega
theorem Own.blockLe {w:World} {B:Nat} {a:Option Addr} {n c:Nat} {bs:List Nat} (h:Own w B a n c bs):∀ ad,a=some ad→B≤ad.block:=by
 intro ad e
 subst e
 rcases h.row.2 with ⟨hv,_⟩ | ⟨g,c',cur,hv,hbg,_⟩
 ·cases hv
 ·simp only [Value.slice.injEq,Option.some.injEq] at hv
  rw [hv.1]
  exact hbg
def ItAt (Z:Nat→Prop) (w:World) (X:List (Int×Value)) (t:Int):Option It→Prop
 | none=>getX X t=none
 | some q=>q.tick=t∧(0≤q.for_∧q.for_≤4294967295)∧q.body.length≤400∧∃ ba bc,getX X t=some (.agg #[.int .i64 t,.int .u32 q.for_,.slice ba q.body.length bc])∧Rd w ba q.body.length q.body∧∀ ad,ba=some ad→q.body=[] ∨ Z ad.block
structure Strm (Z:Nat→Prop) (w:World) (s m:Nat) (l:List Sp) (I:Int→Option It) (a:Option Addr) (n c:Nat) (X:List (Int×Value)):Prop where
 stm:Stm Z w s m a n c l X
 its:∀ t,ItAt Z w X t (I t)
 data:∀ t,atS l t=1↔(I t).isSome=true
def Str (Z:Nat→Prop) (w:World) (s m:Nat) (l:List Sp) (I:Int→Option It):Prop:=∃ a n c X,Strm Z w s m l I a n c X
theorem ItAt.two {w w':World} {s m:Nat} {a:Option Addr} {n c:Nat} {l:List Sp} {X:List (Int×Value)} (h:Stm Z w s m a n c l X) {t:Int} {o:Option It} (hi:ItAt Z w X t o) (ht:Two s m w w'):ItAt Z w' X t o:=by
 cases o with
 | none=>exact hi
 | some q =>
  obtain ⟨h1,h2,h3,ba,bc,h4,h5,h6⟩:=hi
  exact ⟨h1,h2,h3,ba,bc,h4,Rd.two h h5 ht,h6⟩
theorem ItAt.of_get {w:World} {X X':List (Int×Value)} {t:Int} {o:Option It} (h:ItAt Z w X t o) (e:getX X' t=getX X t):ItAt Z w X' t o:=by
 cases o with
 | none=>exact e.trans h
 | some q =>
  obtain ⟨h1,h2,h3,ba,bc,h4,h5⟩:=h
  exact ⟨h1,h2,h3,ba,bc,e.trans h4,h5⟩
theorem ItAt.below {w w':World} {X:List (Int×Value)} {t:Int} {o:Option It} (h:ItAt Z w X t o) (hb:Below w.heap.size w w'):ItAt Z w' X t o:=by
 cases o with
 | none=>exact h
 | some q =>
  obtain ⟨h1,h2,h3,ba,bc,h4,h5,h6⟩:=h
  exact ⟨h1,h2,h3,ba,bc,h4,h5.below hb,h6⟩
theorem Strm.stay {w w':World} {s m:Nat} {l:List Sp} {I:Int→Option It} {a:Option Addr} {n c:Nat} {X:List (Int×Value)} (h:Strm Z w s m l I a n c X) (hb:Below w.heap.size w w'):Strm Z w' s m l I a n c X:=⟨h.stm.stay hb,fun t=>(h.its t).below hb,h.data⟩
theorem Str.stay {w w':World} {s m:Nat} {l:List Sp} {I:Int→Option It} (h:Str Z w s m l I) (hb:Below w.heap.size w w'):Str Z w' s m l I:=by
 obtain ⟨a,n,c,X,h⟩:=h
 exact ⟨a,n,c,X,h.stay hb⟩
theorem len_sub {α:Type} [DecidableEq α] : ∀ (l T:List α),l.Nodup→(∀ x∈l,x∈T)→l.length≤T.length
 | [],_,_,_=>Nat.zero_le _
 | x :: l,T,hn,hs=>by
  obtain ⟨h1,h2⟩:=List.nodup_cons.1 hn
  have hx:=hs x (List.mem_cons_self ..)
  have:=len_sub l (T.erase x) h2 fun y hy=>(List.mem_erase_of_ne (by rintro rfl;exact h1 hy)).2 (hs y (List.mem_cons_of_mem _ hy))
  rw [List.length_erase_of_mem hx] at this
  have:=List.length_pos_of_mem hx
  rw [List.length_cons]
  omega
theorem Strm.few {w:World} {s m:Nat} {l:List Sp} {I:Int→Option It} {a:Option Addr} {n c:Nat} {X:List (Int×Value)} (h:Strm Z w s m l I a n c X) {T:List Int} (hT:∀ t,(I t).isSome=true→t∈T):X.length≤T.length:=by
 have hn:(X.map Prod.fst).Nodup:=by
  rw [List.nodup_iff_pairwise_ne,List.pairwise_map]
  exact List.Pairwise.imp (fun hh=>by omega) h.stm.rise
 have:=len_sub (X.map Prod.fst) T hn fun t ht=>by
  obtain ⟨p,hp,rfl⟩:=List.mem_map.1 ht
  refine hT _ ?_
  have hg:=mem_get h.stm.rise hp
  have hi:=h.its p.1
  cases ho:I p.1 with
  | none =>
   rw [ho] at hi
   have hi:getX X p.1=none:=hi
   rw [hg] at hi
   cases hi
  | some q=>rfl
 rwa [List.length_map] at this
def keepI (K:Int→Int) (I:Int→Option It) (q:It) (u:Int):Option It :=
 if u=q.tick then (if K u=0 then some q else (I u).map fun r=>⟨r.tick,orI r.for_ q.for_,r.body⟩) else I u
def keepK (K:Int→Int) (q:It) (u:Int):Int:=if u=q.tick then max (K u) 1 else K u
theorem keepI_other {K:Int→Int} {I:Int→Option It} {q:It} {u:Int} (h:u≠q.tick):keepI K I q u=I u:=if_neg h
theorem keepI_new {K:Int→Int} {I:Int→Option It} {q:It} (h:K q.tick=0):keepI K I q q.tick=some q:=by unfold keepI;rw [if_pos rfl,if_pos h]
theorem keepI_old {K:Int→Int} {I:Int→Option It} {q:It} (h:K q.tick≠0):keepI K I q q.tick=(I q.tick).map fun r=>⟨r.tick,orI r.for_ q.for_,r.body⟩:=by unfold keepI;rw [if_pos rfl,if_neg h]
theorem st_keep {w:World} {s m:Nat} {l:List Sp} {I:Int→Option It} (h:Str Z w s m l I) {T:List Int} (hT:∀ t,(I t).isSome=true→t∈T) (hTl:T.length≤1000) {q:It} {ba:Option Addr} {bl bc:Nat} (ht:1≤q.tick∧q.tick≤1099511627776) (hf:0≤q.for_∧q.for_≤4294967295) (hq:q.body.length≤400) (hb:Rd w ba bl q.body) :
  Calls Tryz.prog 197 #[.pointer (some ⟨s,0,none⟩),.agg #[.int .i64 q.tick,.int .u32 q.for_,.slice ba bl bc]] w fun e w'=>e=.returned (.tuple #[])∧(∃ l',Str Z w' s m l' (keepI (atS l) I q)∧∀ u,atS l' u=keepK (atS l) q u)∧Two s m w w':=by
 obtain ⟨a,n,c,X,hs⟩:=h
 have hX:=hs.few hT
 have hbl:q.body.length=bl:=hb.size
 have hrg:=atS_range hs.stm.ok.right q.tick
 rcases (show atS l q.tick=0∨atS l q.tick=1∨2≤atS l q.tick by omega) with hat | hat | hat
 ·refine (st_keep_0 hs.stm (by omega) ht hb (by omega) hat).mono ?_
  rintro e w' ⟨rfl,a',n',c',l',ba',bc',k1,k2,k3,k4⟩
  refine ⟨rfl,⟨l',⟨a',n',c',_,k1,fun u => ?_,fun u => ?_⟩,fun u => ?_⟩,k4⟩
  ·by_cases hu:u=q.tick
   ·subst hu
    rw [keepI_new hat]
    exact ⟨rfl,hf,hq,ba',bc',by rw [getX_put,if_pos rfl,hbl],by rw [hbl];exact k2.rd,fun ad e=>.inr (hs.stm.zz _ (k2.blockLe ad e))⟩
   ·rw [keepI_other hu]
    exact ((hs.its u).two hs.stm k4).of_get (by rw [getX_put,if_neg hu])
  ·rw [k3 u]
   by_cases hu:u=q.tick
   ·subst hu
    rw [if_pos rfl,keepI_new hat]
    simp
   ·rw [if_neg hu,keepI_other hu]
    exact hs.data u
  ·rw [k3 u]
   unfold keepK
   by_cases hu:u=q.tick
   ·rw [if_pos hu,if_pos hu,hu,hat];rfl
   ·rw [if_neg hu,if_neg hu]
 ·have hsome:=(hs.data q.tick).1 hat
  obtain ⟨r,hr⟩:=Option.isSome_iff_exists.1 hsome
  have hi:=hs.its q.tick
  rw [hr] at hi
  obtain ⟨h1,h2,h3,da,dc,h4,h5,h6⟩:=hi
  refine (st_keep_1 hs.stm (by omega) ht hat h4).mono ?_
  rintro e w' ⟨rfl,k1,k2⟩
  rw [bits_or h2 hf] at k1
  refine ⟨rfl,⟨l,⟨a,n,c,_,k1,fun u => ?_,fun u => ?_⟩,fun u => ?_⟩,k2⟩
  ·by_cases hu:u=q.tick
   ·subst hu
    rw [keepI_old (by omega),hr]
    exact ⟨h1,orI_range h2 hf,h3,da,dc,by rw [getX_put,if_pos rfl],Rd.two hs.stm h5 k2,h6⟩
   ·rw [keepI_other hu]
    exact ((hs.its u).two hs.stm k2).of_get (by rw [getX_put,if_neg hu])
  ·by_cases hu:u=q.tick
   ·subst hu
    rw [keepI_old (by omega),hr,hat]
    simp
   ·rw [keepI_other hu]
    exact hs.data u
  ·unfold keepK
   by_cases hu:u=q.tick
   ·rw [if_pos hu,hu,hat];rfl
   ·rw [if_neg hu]
 ·refine (st_keep_2 hs.stm hat).mono ?_
  rintro e w' ⟨rfl,hb'⟩
  have hnone:I q.tick=none:=by
   cases ho:I q.tick with
   | none=>rfl
   | some r =>
    have:=(hs.data q.tick).2 (by rw [ho];rfl)
    omega
  have hI:keepI (atS l) I q=I:=funext fun u=>by
   by_cases hu:u=q.tick
   ·subst hu
    rw [keepI_old (by omega),hnone];rfl
   ·exact keepI_other hu
  rw [hI]
  refine ⟨rfl,⟨l,⟨a,n,c,X,hs.stay hb'⟩,fun u => ?_⟩,Two.of_below s m hb'⟩
  unfold keepK
  by_cases hu:u=q.tick
  ·rw [if_pos hu,hu];exact (Int.max_eq_left (by omega)).symm
  ·rw [if_neg hu]
end
section
set_option maxRecDepth 100000
open Go.RowKit Go.Maps Go.Sort Go.Shelf
open Go.WideElems (Fit rg pl)
def mkIt (y:Int×Int×Option Addr×Nat×Nat):Value:=.agg #[.int .i64 y.1,.int .u32 y.2.1,.slice y.2.2.1 y.2.2.2.1 y.2.2.2.2]
def itemR (v:Value):Option (DataW Value×List MemPlace):=match v with
 | .agg ⟨[.int .i64 _,.int .u32 _,.slice _ _ _]⟩=>some (.held v,[])
 | _=>none
theorem itemR_mk (y:Int×Int×Option Addr×Nat×Nat):itemR (mkIt y)=some (.held (mkIt y),[]):=rfl
theorem itemR_inv {v:Value} {z:DataW Value×List MemPlace} (h:itemR v=some z):(∃ y,v=mkIt y)∧z=(.held v,[]):=by
 unfold itemR at h
 split at h
 ·rename_i a b c d e
  simp only [Option.some.injEq] at h
  exact ⟨⟨(a,b,c,d,e),rfl⟩,h.symm⟩
 ·cases h
theorem owns_items {w:World} {b n:Nat} {X:List (Int×Value)} (h:w.ownsMap Tryz.prog 3 heldV b n (mapD X)) (hX:∀ p∈X,∃ y,p.2=mkIt y):w.ownsMap Tryz.prog 3 itemR b n (mapD X):=by
 obtain ⟨es,clock,hb,F,hs,hD⟩:=h
 have hall:∀ x∈es.toList,∀ z,heldV x.val=some z→itemR x.val=some z:=by
  intro x hx z hz
  have h1:rg Tryz.prog 3 heldV x∈(es.toList.map (rg Tryz.prog 3 heldV)).foldr DataW.insert []:=(WideShapes.sorted_perm _).mem_iff.2 (List.mem_map_of_mem hx)
  unfold mapD at hD
  simp only [DataW.map.injEq] at hD
  rw [← hD] at h1
  obtain ⟨p,hp,he⟩:=List.mem_map.1 h1
  obtain ⟨y,hy⟩:=hX p hp
  obtain ⟨u,hu⟩:=F.reads x hx
  rw [WideElems.rg_of hu] at he
  have hv:u.2=.held x.val:=by
   unfold WideElems.rd at hu
   cases hk:keyOf Tryz.prog 3 x.key with
   | none=>rw [hk] at hu;cases hu
   | some key=>rw [hk] at hu;cases hu;rfl
  have he2:(DataW.held p.2:DataW Value)=u.2:=congrArg Prod.snd he
  rw [hv] at he2
  have he3:p.2=x.val:=by simpa using he2
  rw [← he3,hy] at hz ⊢
  rw [itemR_mk]
  exact hz
 obtain ⟨F1,hmap,_⟩:=F.stay hall
 exact ⟨es,clock,hb,F1,hs,by rw [hmap];exact hD⟩
def forV:Value→Int
 | .agg ⟨[_,.int .u32 f,_]⟩=>f
 | _=>0
def SameX (X1 X2:List (Int×Value)):Prop:=X1.length=X2.length∧∀ t v,getX X1 t=some v→∃ v2,getX X2 t=some v2∧forV v=forV v2
theorem st_alike (y z:Int×Int×Option Addr×Nat×Nat) (w:World):Calls Tryz.prog 262 #[mkIt y,mkIt z] w fun e w'=>e=.returned (.bool (y.2.1 == z.2.1))∧Below w.heap.size w w':=by
 obtain ⟨y1,y2,y3,y4,y5⟩:=y
 obtain ⟨z1,z2,z3,z4,z5⟩:=z
 unfold mkIt
 simp only
 go_enter Tryz.func262,Tryz.ntmps262
 go_wp2
 go_ret
 exact ⟨rfl,(below_alloc w _).alloc (by simp) _⟩
theorem look_item {W:World} {b n:Nat} {X:List (Int×Value)} (h:W.ownsMap Tryz.prog 3 itemR b n (mapD X)) {t:Int} {kl:Lit} (hk:keyOf Tryz.prog 3 (.int .i64 t)=some kl) (hkl:kl=tkey t):(Instr.lookup 182 (.map (some b)) (.int .i64 t) true).run Tryz.prog W=.ok (.tuple #[(getX X t).getD (mkIt (0,0,none,0,0)),.bool (getX X t).isSome]) W:=by
 obtain ⟨v,ps,hrun,hv⟩:=h.look_ok tkeyed Tryz.underlying182 (z:=mkIt (0,0,none,0,0)) (Tryz.zeroValue51 W) (zd:=.held (mkIt (0,0,none,0,0))) (zp:=[]) rfl hk
 subst hkl
 rw [mapD_at] at hv
 rw [hrun,mapD_has]
 have hz:=(itemR_inv hv).2
 cases hg:getX X t with
 | none =>
  rw [hg] at hz
  have:=congrArg Prod.fst hz
  simp only [DataW.held.injEq] at this
  rw [← this]
  rfl
 | some x =>
  rw [hg] at hz
  have:=congrArg Prod.fst hz
  simp only [DataW.held.injEq] at this
  rw [← this]
  rfl
theorem get_of_at {X:List (Int×Value)} {t:Int} {v:Value} (h:∀ zd,(mapD X).atKey (tkey t) zd=.held v):getX X t=some v:=by
 have:=h .nil
 rw [mapD_at] at this
 cases hg:getX X t with
 | none=>rw [hg] at this;cases this
 | some x =>
  rw [hg] at this
  simp only [DataW.held.injEq] at this
  rw [this]
def MetX (X1 X2:List (Int×Value)) (left:Lit→Bool):Prop:=∀ t v,getX X1 t=some v→left (tkey t)=false→∃ v2,getX X2 t=some v2∧forV v=forV v2
theorem st_eqFunc {w:World} {b1 b2:Nat} {X1 X2:List (Int×Value)} (h1:w.ownsMap Tryz.prog 3 heldV b1 X1.length (mapD X1)) (h2:w.ownsMap Tryz.prog 3 heldV b2 X2.length (mapD X2)) (hX1:∀ p∈X1,∃ y,p.2=mkIt y) (hX2:∀ p∈X2,∃ y,p.2=mkIt y) :
  Calls Tryz.prog 264 #[.map (some b1),.map (some b2),.func (.func 262) #[] #[]] w fun e w'=>∃ b:Bool,e=.returned (.bool b)∧(b=true↔SameX X1 X2)∧Below w.heap.size w w':=by
 have i1:=owns_items h1 hX1
 have i2:=owns_items h2 hX2
 have l1:=fun ty=>i1.len (t:=182) Tryz.underlying182 ty
 have l2:=fun ty=>i2.len (t:=182) Tryz.underlying182 ty
 rw [mapD_size] at l1 l2
 have hb1:=i1.lt
 have hb2:=i2.lt
 by_cases hsz:X1.length=X2.length
 ·have HSZ:Hid (X1.length=X2.length):=hsz
  have k0:((X1.length:Int) != (X2.length:Int))=false:=by rw [hsz];simp
  have I1:Hid (w.ownsMap Tryz.prog 3 itemR b1 X1.length (mapD X1)):=i1
  have I2:Hid (w.ownsMap Tryz.prog 3 itemR b2 X2.length (mapD X2)):=i2
  clear h1 h2 hsz i1 i2
  go_enter Tryz.func264,Tryz.ntmps264
  go_wp2_with (at_range;refine wpList_range_own _ rfl _ 182 rfl 3 51 tkeyed Tryz.underlying182 itemR b1 X1.length _ rfl I1.out ?_;intro w0 hrg0 hg0 hs0)
  have HR0:Hid (w0.ranges Tryz.prog 3 itemR b1 w.heap.size X1.length (mapD X1) (has (mapD X1)) (size (mapD X1))):=hrg0
  have HO0:Hid (w0.ownsMap Tryz.prog 3 itemR b2 X2.length (mapD X2)):=I2.out.kept hg0 (by simp)
  have HB0:Hid (Below w.heap.size w w0):=(Below.refl w.heap.size w).grown hg0 (Nat.le_refl _) (fun k hk=>by cases hk)
  have HM0:Hid (MetX X1 X2 (has (mapD X1))):=fun t v hg hl=>by
   rw [mapD_has,hg] at hl
   cases hl
  clear hrg0 hg0 hs0 I1 I2 l1 l2 k0
  go_frame
  go_loopw [18] (fun _ wr=>∃ (left:Lit→Bool) (cnt:Nat),Hid (wr.ranges Tryz.prog 3 itemR b1 w.heap.size X1.length (mapD X1) left cnt)∧Hid (wr.ownsMap Tryz.prog 3 itemR b2 X2.length (mapD X2))∧Hid (Below w.heap.size w wr)∧Hid (MetX X1 X2 left)) (fun _ wr=>wr.rangeLeft b1 w.heap.size)
  case atStart=>exact ⟨_,_,HR0,HO0,HB0,HM0⟩
  case round =>
   obtain ⟨left,cnt,HRG,HOW,HB,HME⟩:=hrel
   clear HR0 HO0 HB0 HM0
   go_wp2_with (at_next;refine wpList_next_ranges _ rfl _ rfl 3 tkeyed itemR encZ mkIt (fun key kl hk=>by obtain ⟨x,hx,_⟩:=Maps.keyOf_i64 Tryz.underlying3 hk;exact ⟨x,hx⟩) (fun v y hv=>(itemR_inv hv).1) b1 w.heap.size X1.length _ _ _ rfl HRG.out ?_ ?_)
   ·intro _ hl0
    have HSX:Hid (SameX X1 X2):=⟨HSZ.out,fun t v hg=>HME.out t v hg (hl0 _)⟩
    go_wp2
    go_ret
    exact ⟨true,rfl,⟨fun _=>HSX.out,fun _=>rfl⟩,HB.out⟩
   ·intro x q1 q2 q3 q4 q5 kl yd yp w1 cnt1 hkey hlx hv hat hrg1 hlt hg1 hs1 hen
    obtain ⟨x',ex,hkl,hwf⟩:=Maps.keyOf_i64 Tryz.underlying3 hkey
    obtain rfl:=encZ_inj ex
    have hkl:kl=tkey x:=hkl
    subst hkl
    have hy:=(itemR_inv hv).2
    have hy1:yd=.held (mkIt (q1,q2,q3,q4,q5)):=congrArg Prod.fst hy
    have HGX:Hid (getX X1 x=some (mkIt (q1,q2,q3,q4,q5))):=get_of_at fun zd=>(hat zd).trans hy1
    have HB1:Hid (Below w.heap.size w w1):=HB.out.grown hg1 HB.out.size (fun k hk=>by cases hk;exact Nat.le_refl _)
    have HO1:Hid (w1.ownsMap Tryz.prog 3 itemR b2 X2.length (mapD X2)):=HOW.out.kept hg1 (by intro e;have:=Option.some.inj e;omega)
    have HR1:Hid (w1.ranges Tryz.prog 3 itemR b1 w.heap.size X1.length (mapD X1) (fun z=>left z && !z.sameKey (tkey x)) cnt1):=hrg1
    have HLT:Hid (cnt1<cnt):=hlt
    have HKY:Hid (keyOf Tryz.prog 3 (.int .i64 x)=some (tkey x)):=hkey
    clear hkey hv hat hy hy1 hrg1 hg1 hs1 hwf hlx hlt HOW HB
    clear ex hkl
    have hen2:(Instr.entry (.pointer (some ⟨w.heap.size,0,none⟩))).run Tryz.prog w1=.ok (.tuple #[.int .i64 x,.agg #[.int .i64 q1,.int .u32 q2,.slice q3 q4 q5]]) w1:=hen
    clear hen
    have HO2:Hid ((w1.alloc (.cells #[.int .i64 q1,.int .u32 q2,.slice q3 q4 q5] 51)).ownsMap Tryz.prog 3 itemR b2 X2.length (mapD X2)):=HO1.out.alloc _
    have HB2:Hid (Below w.heap.size w (w1.alloc (.cells #[.int .i64 q1,.int .u32 q2,.slice q3 q4 q5] 51))):=HB1.out.alloc HB1.out.size _
    cases hg2:getX X2 x with
    | none =>
     have hlk:(Instr.lookup 182 (.map (some b2)) (.int .i64 x) true).run Tryz.prog (w1.alloc (.cells #[.int .i64 q1,.int .u32 q2,.slice q3 q4 q5] 51))=.ok (.tuple #[.agg #[.int .i64 0,.int .u32 0,.slice none 0 0],.bool false]) (w1.alloc (.cells #[.int .i64 q1,.int .u32 q2,.slice q3 q4 q5] 51)):=by
      have:=look_item HO2.out HKY.out rfl
      rw [hg2] at this
      exact this
     have HNS:Hid (¬ SameX X1 X2):=fun h=>by
      obtain ⟨v2,k1,_⟩:=h.2 x _ HGX.out
      rw [hg2] at k1
      cases k1
     have HB3:Hid (Below w.heap.size w ((w1.alloc (.cells #[.int .i64 q1,.int .u32 q2,.slice q3 q4 q5] 51)).alloc (.cells #[.int .i64 0,.int .u32 0,.slice none 0 0] 51))):=HB2.out.alloc HB2.out.size _
     clear HO1 HO2 HR1 HLT hg2
     go_wp2
     go_ret
     exact ⟨false,rfl,⟨fun h=>(by cases h),fun h=>absurd h HNS.out⟩,HB3.out⟩
    | some v2 =>
     obtain ⟨z,hz⟩:=hX2 (x,v2) (get_mem hg2)
     obtain ⟨z1,z2,z3,z4,z5⟩:=z
     have hz:v2=mkIt (z1,z2,z3,z4,z5):=hz
     subst hz
     have hlk:(Instr.lookup 182 (.map (some b2)) (.int .i64 x) true).run Tryz.prog (w1.alloc (.cells #[.int .i64 q1,.int .u32 q2,.slice q3 q4 q5] 51))=.ok (.tuple #[.agg #[.int .i64 z1,.int .u32 z2,.slice z3 z4 z5],.bool true]) (w1.alloc (.cells #[.int .i64 q1,.int .u32 q2,.slice q3 q4 q5] 51)):=by
      have:=look_item HO2.out HKY.out rfl
      rw [hg2] at this
      exact this
     obtain ⟨W3,HW3⟩:∃ W3,Hid (W3=(w1.alloc (.cells #[.int .i64 q1,.int .u32 q2,.slice q3 q4 q5] 51)).alloc (.cells #[.int .i64 z1,.int .u32 z2,.slice z3 z4 z5] 51)):=⟨_,rfl⟩
     have HBW:Hid (Below w1.heap.size w1 W3):=by (show Below _ _ _);rw [HW3.out];exact (below_alloc w1 _).alloc (by simp) _
     have HAL:Hid (Calls Tryz.prog 262 #[.agg #[.int .i64 q1,.int .u32 q2,.slice q3 q4 q5],.agg #[.int .i64 z1,.int .u32 z2,.slice z3 z4 z5]] W3 fun e w'=>e=.returned (.bool (q2 == z2))∧Below W3.heap.size W3 w'):=st_alike (q1,q2,q3,q4,q5) (z1,z2,z3,z4,z5) W3
     have HG2:Hid (getX X2 x=some (mkIt (z1,z2,z3,z4,z5))):=hg2
     clear HO2 hg2
     have e1:(w1.alloc (.cells #[.int .i64 q1,.int .u32 q2,.slice q3 q4 q5] 51)).heap.size=w1.heap.size+1:=by simp
     have hkq:Bk W3 w1.heap.size #[.int .i64 q1,.int .u32 q2,.slice q3 q4 q5] 51:=by rw [HW3.out];exact (Bk.new w1 _ _).stay (below_alloc _ _)
     have hkz:Bk W3 (w1.heap.size+1) #[.int .i64 z1,.int .u32 z2,.slice z3 z4 z5] 51:=by rw [HW3.out,← e1];exact Bk.new _ _ _
     have m0:W3.cell? ⟨w1.heap.size,0,none⟩=some (.int .i64 q1):=hkq.cell 0 rfl
     have m1:W3.cell? ⟨w1.heap.size,1,none⟩=some (.int .u32 q2):=hkq.cell 1 rfl
     have m2:W3.cell? ⟨w1.heap.size,2,none⟩=some (.slice q3 q4 q5):=hkq.cell 2 rfl
     have n0:W3.cell? ⟨w1.heap.size+1,0,none⟩=some (.int .i64 z1):=hkz.cell 0 rfl
     have n1:W3.cell? ⟨w1.heap.size+1,1,none⟩=some (.int .u32 z2):=hkz.cell 1 rfl
     have n2:W3.cell? ⟨w1.heap.size+1,2,none⟩=some (.slice z3 z4 z5):=hkz.cell 2 rfl
     have HB3:Hid (Below w.heap.size w W3):=HB1.out.trans (HBW.out.mono HB1.out.size)
     clear hkq hkz e1
     go_upto_region 7 with fail
     rw [← HW3.out]
     clear hlk hen2
     by_cases heq:q2=z2
     ·have kq:(q2 == z2)=true:=by rw [heq];simp
      rw [kq] at HAL
      have HME2:Hid (MetX X1 X2 (fun z=>left z && !z.sameKey (tkey x))):=fun t v hg hl=>by
       by_cases ht:t=x
       ·subst ht
        rw [HGX.out] at hg
        cases hg
        exact ⟨_,HG2.out,heq⟩
       ·refine HME.out t v hg ?_
        have hs:(tkey t).sameKey (tkey x)=false:=by rw [sameKey_tkey];exact decide_eq_false ht
        simpa [hs] using hl
      clear kq heq
      go_wp2_with fail
      refine HAL.out.mono ?_
      rintro e w4 ⟨rfl,hb4⟩
      have HB4:Hid (Below w.heap.size w w4):=HB3.out.trans (hb4.mono HB3.out.size)
      have hb14:Below w1.heap.size w1 w4:=HBW.out.trans (hb4.mono HBW.out.size)
      have hg14:w1.grownBy w4 none:=⟨hb14.os,hb14.tape,hb14.output,hb14.size,fun k hk _=>hb14.block k hk⟩
      have HR4:Hid (w4.ranges Tryz.prog 3 itemR b1 w.heap.size X1.length (mapD X1) (fun z=>left z && !z.sameKey (tkey x)) cnt1):=HR1.out.kept hg14 (by simp) (by simp)
      have HO4:Hid (w4.ownsMap Tryz.prog 3 itemR b2 X2.length (mapD X2)):=HO1.out.kept hg14 (by simp)
      clear hb4 hb14 hg14 m0 m1 m2 n0 n1 n2
      go_wp2
      go_roundw
      case rel=>exact ⟨_,cnt1,HR4,HO4,HB4,HME2⟩
      case measure=>rw [HR4.out.left_eq,HRG.out.left_eq];exact HLT.out
     ·have kq:(q2 == z2)=false:=by rw [beq_eq_false_iff_ne];exact heq
      rw [kq] at HAL
      have HNS:Hid (¬ SameX X1 X2):=fun h=>by
       obtain ⟨v2,k1,k2⟩:=h.2 x _ HGX.out
       rw [HG2.out] at k1
       cases k1
       exact heq k2
      clear kq heq
      go_wp2_with fail
      refine HAL.out.mono ?_
      rintro e w4 ⟨rfl,hb4⟩
      have HB4:Hid (Below w.heap.size w w4):=HB3.out.trans (hb4.mono HB3.out.size)
      clear hb4
      go_wp2
      go_ret
      exact ⟨false,rfl,⟨fun h=>(by cases h),fun h=>absurd h HNS.out⟩,HB4.out⟩
 ·have k0:((X1.length:Int) != (X2.length:Int))=true:=by rw [bne_iff_ne];omega
  clear h1 h2 i1 i2
  go_enter Tryz.func264,Tryz.ntmps264
  go_wp2
  go_ret
  exact ⟨false,rfl,⟨fun h=>(by cases h),fun h=>absurd h.1 hsz⟩,Below.refl _ _⟩
end
end Go.Proofs.YtoiennkfdjnkbaaGreatDoor
