import Derived.Test.YtoiennkfdjnkbaaGreatDoorSm4
import Derived.Test.YtoiennkfdjnkbaaGreatDoorPk32
import Derived.Test.YtoiennkfdjnkbaaGreatDoorPk34
import Derived.Test.YtoiennkfdjnkbaaGreatDoorPk19
import Derived.BigQuiet
set_option maxRecDepth 100000
set_option maxHeartbeats 8000000
namespace Go.Proofs.YtoiennkfdjnkbaaGreatDoor
section
set_option maxRecDepth 100000
open Go.RowKit
variable {Z:Nat→Prop}
def HasInt (w:World) (k:Nat):Prop:=(∃ o kd z,w.cell? ⟨k,o,none⟩=some (.int kd z))∨∃ cs m,w.heap[k]? = some (.cells cs 5 m)
structure BdT (Z:Nat→Prop) (w:World) (b:Bd) (bs:List Nat):Prop where
 rd:Rd w b.1 b.2.1 bs
 nil_:b.1=none→b.2.2=0
 lc:b.2.1≤b.2.2
 cm:b.2.2≤9223372036854775807
 z:∀ ad,b.1=some ad→Z ad.block
 ty:∀ ad,b.1=some ad→∃ cs m,w.heap[ad.block]? = some (.cells cs 5 m)
 open_:∀ ad,b.1=some ad→∃ cs,w.heap[ad.block]? = some (.cells cs 5 (0,0))
theorem Rd.frame {w w':World} {a:Option Addr} {n:Nat} {bs:List Nat} (h:Rd w a n bs) (hs:w.heap.size≤w'.heap.size) (hk:∀ ad,a=some ad→ad.block<w.heap.size→w'.heap[ad.block]? = w.heap[ad.block]?):Rd w' a n bs:=by
 refine ⟨h.size,h.byte,?_⟩
 rcases h.cells with h0 | ⟨g,o,ha,hg,hc⟩
 ·exact .inl h0
 ·exact .inr ⟨g,o,ha,Nat.lt_of_lt_of_le hg hs,fun i hi=>(cell_same (hk _ ha hg) _).trans (hc i hi)⟩
theorem BdT.frame {w w':World} {b:Bd} {bs:List Nat} (h:BdT Z w b bs) (hs:w.heap.size≤w'.heap.size) (hk:∀ k,k<w.heap.size→Z k→HasInt w k→w'.heap[k]? = w.heap[k]?):BdT Z w' b bs:=by
 have e:∀ ad,b.1=some ad→ad.block<w.heap.size→w'.heap[ad.block]? = w.heap[ad.block]?:=fun ad ha hlt=>hk _ hlt (h.z ad ha) (.inr (h.ty ad ha))
 refine ⟨h.rd.frame hs e,h.nil_,h.lc,h.cm,h.z,fun ad ha => ?_,fun ad ha => ?_⟩
 ·obtain ⟨cs,m,hc⟩:=h.ty ad ha
  exact ⟨cs,m,(e ad ha (Array.getElem?_eq_some_iff.1 hc).1).trans hc⟩
 ·obtain ⟨cs,hc⟩:=h.open_ ad ha
  exact ⟨cs,(e ad ha (Array.getElem?_eq_some_iff.1 hc).1).trans hc⟩
theorem BdT.of_own {w:World} {B:Nat} {a:Option Addr} {n c:Nat} {bs:List Nat} (h:Own w B a n c bs) (hz:∀ k,B≤k→Z k):BdT Z w (a,n,c) bs:=by
 have hcl:=h.cap_le
 unfold maxLen at hcl
 refine ⟨h.rd,h.nil_cap',hcl.1,by have:=hcl.2;show c≤_;omega,fun ad e=>hz _ (h.blockLe ad e),fun ad e => ?_,fun ad e => ?_⟩
 all_goals (
  have e:a=some ad:=e
  subst e
  rcases h.row.2 with ⟨hv,_⟩ | ⟨g,c',cur,hv,hbg,hg,_⟩
  ·cases hv
  ·simp only [Value.slice.injEq,Option.some.injEq] at hv
   rw [hv.1]
   first | exact ⟨_,hg⟩ | exact ⟨_,_,hg⟩)
def ItIn (q:It):Prop:=((-9223372036854775808:Int)≤q.tick∧q.tick≤9223372036854775807)∧(0≤q.for_∧q.for_≤4294967295)
structure Rit (Z:Nat→Prop) (w:World) (a:Option Addr) (n:Nat) (R:List (It×Bd)):Prop where
 size:R.length=n
 cells:R=[] ∨ ∃ g o,a=some ⟨g,o,none⟩∧g<w.heap.size∧Z g∧∀ (i:Nat) x,R[i]? = some x→w.cell? ⟨g,o+i * 3,none⟩=some (.int .i64 x.1.tick)∧w.cell? ⟨g,o+i * 3+1,none⟩=some (.int .u32 x.1.for_)∧w.cell? ⟨g,o+i * 3+2,none⟩=some (.slice x.2.1 x.2.2.1 x.2.2.2)
 bod:∀ x∈R,BdT Z w x.2 x.1.body
 each:∀ x∈R,ItIn x.1
theorem Rit.frame {w w':World} {a:Option Addr} {n:Nat} {R:List (It×Bd)} (h:Rit Z w a n R) (hs:w.heap.size≤w'.heap.size) (hk:∀ k,k<w.heap.size→Z k→HasInt w k→w'.heap[k]? = w.heap[k]?):Rit Z w' a n R:=by
 refine ⟨h.size,?_,fun x hx=>(h.bod x hx).frame hs hk,h.each⟩
 rcases h.cells with h0 | ⟨g,o,ha,hg,hz,hc⟩
 ·exact .inl h0
 ·by_cases hR:R=[]
  ·exact .inl hR
  ·obtain ⟨x0,hx0⟩:∃ x,R[0]? = some x:=by
    cases R with
    | nil=>exact absurd rfl hR
    | cons x r=>exact ⟨x,rfl⟩
   have e:=hk g hg hz (.inl ⟨_,_,_,(hc 0 x0 hx0).1⟩)
   refine .inr ⟨g,o,ha,Nat.lt_of_lt_of_le hg hs,hz,fun i x hi => ?_⟩
   rw [cell_same e,cell_same e,cell_same e]
   exact hc i x hi
theorem Rit.below {w w':World} {a:Option Addr} {n:Nat} {R:List (It×Bd)} (h:Rit Z w a n R) (hb:Below w.heap.size w w'):Rit Z w' a n R:=h.frame hb.size fun k hk _ _=>hb.block k hk
theorem Rit.rd {w:World} {a:Option Addr} {n:Nat} {R:List (It×Bd)} (h:Rit Z w a n R):ItsRd w a n (R.map Prod.fst):=by
 refine ⟨by rw [List.length_map];exact h.size,?_,fun q hq => ?_⟩
 ·rcases h.cells with h0 | ⟨g,o,ha,hg,hz,hc⟩
  ·left;rw [h0];rfl
  ·refine .inr ⟨g,o,ha,hg,fun i q hi => ?_⟩
   rw [List.getElem?_map] at hi
   obtain ⟨x,hx,rfl⟩:=Option.map_eq_some_iff.1 hi
   obtain ⟨c0,c1,c2⟩:=hc i x hx
   have hb:=h.bod x (List.mem_of_getElem? hx)
   exact ⟨c0,c1,x.2.1,x.2.2.1,x.2.2.2,c2,hb.rd,hb.nil_,hb.lc,hb.cm⟩
 ·obtain ⟨x,hx,rfl⟩:=List.mem_map.1 hq
  exact h.each x hx
theorem Rit.at_ {w:World} {a:Option Addr} {n:Nat} {R:List (It×Bd)} (h:Rit Z w a n R) (i:Nat) (hi:i<n):∃ g o,a=some ⟨g,o,none⟩∧g<w.heap.size∧∃ x,R[i]? = some x∧w.cell? ⟨g,o+i * 3,none⟩=some (.int .i64 x.1.tick)∧w.cell? ⟨g,o+i * 3+1,none⟩=some (.int .u32 x.1.for_)∧w.cell? ⟨g,o+i * 3+2,none⟩=some (.slice x.2.1 x.2.2.1 x.2.2.2):=by
 have hl:i<R.length:=by rw [h.size];exact hi
 rcases h.cells with rfl | ⟨g,o,ha,hg,_,hc⟩
 ·simp at hl
 ·exact ⟨g,o,ha,hg,R[i],List.getElem?_eq_getElem hl,hc i R[i] (List.getElem?_eq_getElem hl)⟩
theorem Rit.nil_ (w:World) (a:Option Addr):Rit Z w a 0 []:=⟨rfl,.inl rfl,fun _ h=>(by cases h),fun _ h=>(by cases h)⟩
theorem Rit.part {w:World} {g o n:Nat} {R:List (It×Bd)} (h:Rit Z w (some ⟨g,o,none⟩) n R) (i j:Nat) (hij:i≤j) (hj:j≤n):Rit Z w (some ⟨g,o+i * 3,none⟩) (j - i) ((R.drop i).take (j - i)):=by
 have hl:=h.size
 refine ⟨by rw [List.length_take,List.length_drop];omega,?_,fun x hx=>h.bod x (List.mem_of_mem_drop (List.mem_of_mem_take hx)),fun x hx=>h.each x (List.mem_of_mem_drop (List.mem_of_mem_take hx))⟩
 rcases h.cells with rfl | ⟨g',o',ha,hg,hz,hc⟩
 ·left;simp
 ·simp only [Option.some.injEq,Addr.mk.injEq,and_true] at ha
  obtain ⟨rfl,rfl⟩:=ha
  refine .inr ⟨g,o+i * 3,rfl,hg,hz,fun k x hk => ?_⟩
  have hkl:k<j - i:=by have:=(List.getElem?_eq_some_iff.1 hk).1;rw [List.length_take] at this;omega
  rw [List.getElem?_take_of_lt hkl,List.getElem?_drop] at hk
  have:=hc (i+k) x hk
  rw [show o+(i+k) * 3=o+i * 3+k * 3 from by omega] at this
  exact this
structure Ros (Z:Nat→Prop) (w:World) (base:Nat) (v:Value) (R:List (It×Bd)):Prop where
 row:w.ownsRow base 51 3 v R.length (irow R)
 bod:∀ x∈R,BdT Z w x.2 x.1.body
 each:∀ x∈R,ItIn x.1
theorem Ros.empty (w:World):Ros Z (w.alloc (.cells #[] 51)) w.heap.size (.slice (some ⟨w.heap.size,0,none⟩) 0 0) [] :=
 ⟨World.ownsRow_lit (base:=w.heap.size) (e:=51) (size:=3) w #[] 0 (Nat.le_refl _) (Nat.zero_le _) rfl,fun _ h=>(by cases h),fun _ h=>(by cases h)⟩
theorem Ros.nil_ (w:World) (base:Nat):Ros Z w base (.slice none 0 0) []:=⟨⟨rfl,.inl ⟨rfl,rfl⟩⟩,fun _ h=>(by cases h),fun _ h=>(by cases h)⟩
theorem Ros.form {w:World} {base:Nat} {v:Value} {R:List (It×Bd)} (h:Ros Z w base v R):∃ a c,v=.slice a R.length c∧R.length≤c∧c≤maxLen∧(a=none→c=0)∧∀ ad,a=some ad→base≤ad.block∧ad.block<w.heap.size:=by
 rcases h.row.2 with ⟨hv,hn⟩ | ⟨g,c,cur,hv,hb,hg,hc,hm,_⟩
 ·exact ⟨none,0,by rw [hv,hn],by omega,by omega,fun _=>rfl,fun _ e=>(by cases e)⟩
 ·exact ⟨_,c,hv,hc,hm,fun e=>(by cases e),fun ad e=>by cases e;exact ⟨hb,(Array.getElem?_eq_some_iff.1 hg).1⟩⟩
theorem Ros.lower {w:World} {base base':Nat} {v:Value} {R:List (It×Bd)} (h:Ros Z w base v R) (hb:base'≤base):Ros Z w base' v R:=by
 refine ⟨⟨h.row.1,?_⟩,h.bod,h.each⟩
 rcases h.row.2 with hn | ⟨g,c,cur,hv,hbg,r⟩
 ·exact .inl hn
 ·exact .inr ⟨g,c,cur,hv,Nat.le_trans hb hbg,r⟩
theorem Ros.below {w w':World} {base:Nat} {v:Value} {R:List (It×Bd)} (h:Ros Z w base v R) (hb:Below w.heap.size w w'):Ros Z w' base v R:=by
 refine ⟨⟨h.row.1,?_⟩,fun x hx=>(h.bod x hx).frame hb.size fun k hk _ _=>hb.block k hk,h.each⟩
 rcases h.row.2 with hn | ⟨g,c,cur,hv,hbg,hg,r⟩
 ·exact .inl hn
 ·exact .inr ⟨g,c,cur,hv,hbg,(hb.block g (Array.getElem?_eq_some_iff.1 hg).1).trans hg,r⟩
theorem Ros.rit {w:World} {base:Nat} {a:Option Addr} {n c:Nat} {R:List (It×Bd)} (h:Ros Z w base (.slice a n c) R) (hz:∀ k,base≤k→Z k):Rit Z w a n R:=by
 rcases h.row.2 with ⟨hv,hn⟩ | ⟨g,c',cur,hv,hbb,hg,hlc,hm,hs,ht⟩
 ·simp only [Value.slice.injEq] at hv
  have:R=[]:=List.length_eq_zero_iff.1 hn
  subst this
  exact ⟨by simp;omega,.inl rfl,fun _ h=>(by cases h),fun _ h=>(by cases h)⟩
 ·simp only [Value.slice.injEq] at hv
  obtain ⟨rfl,rfl,rfl⟩:=hv
  refine ⟨rfl,.inr ⟨g,0,rfl,(Array.getElem?_eq_some_iff.1 hg).1,hz g hbb,fun i x hx => ?_⟩,h.bod,h.each⟩
  have hil:i<R.length:=(List.getElem?_eq_some_iff.1 hx).1
  have key:∀ j,j<3→w.cell? ⟨g,0+i * 3+j,none⟩=(icells x.1 x.2)[j]?:=by
   intro j hj
   have h1:=irow_at R i x hx j hj
   rw [← ht,List.getElem?_take_of_lt (by omega),Array.getElem?_toList] at h1
   rw [cell_of_row w g _ cur _ _ hg,Nat.zero_add,h1]
  exact ⟨key 0 (by omega),key 1 (by omega),key 2 (by omega)⟩
theorem bods_grown {w w':World} {base n:Nat} {v:Value} {cs:List Value} (hrow:w.ownsRow base 51 3 v n cs) (hg:w.grownBy w' v.ownBlock) {b:Bd} {bs:List Nat} (h:BdT Z w b bs):BdT Z w' b bs:=by
 have e:∀ ad,b.1=some ad→w'.heap[ad.block]? = w.heap[ad.block]?:=fun ad ha=>by
  obtain ⟨cs',m,hc⟩:=h.ty ad ha
  refine hg.block _ (Array.getElem?_eq_some_iff.1 hc).1 fun e => ?_
  rcases hrow.2 with ⟨h3,_⟩ | ⟨g,c',cur,h3,_,h4,_⟩
  ·rw [h3] at e;cases e
  ·rw [h3] at e
   simp only [Value.ownBlock,Option.some.injEq] at e
   rw [e,h4] at hc
   simp only [Option.some.injEq,Obj.cells.injEq] at hc
   exact absurd hc.2.1 (by decide)
 refine ⟨h.rd.frame hg.size fun ad ha _=>e ad ha,h.nil_,h.lc,h.cm,h.z,fun ad ha => ?_,fun ad ha => ?_⟩
 ·obtain ⟨cs,m,hc⟩:=h.ty ad ha
  exact ⟨cs,m,(e ad ha).trans hc⟩
 ·obtain ⟨cs,hc⟩:=h.open_ ad ha
  exact ⟨cs,(e ad ha).trans hc⟩
theorem run_append_ro (w:World) (ty:TypeId) (base:Nat) (v:Value) (R:List (It×Bd)) (hown:Ros Z w base v R) (ad:Addr) (c:Nat) (x:It×Bd) (hnews:∀ j u,(icells x.1 x.2)[j]? = some u→w.cell? (ad.add j)=some u) (hb:BdT Z w x.2 x.1.body) (hx:ItIn x.1) (hl:R.length≤1000000000000) (hbase:base≤w.heap.size) :
  ∃ v' w',(Builtin.append_ #[114,114] ty #[v,.slice (some ad) 1 c]).run Tryz.prog w=.ok v' w'∧Ros Z w' base v' (R++[x])∧w.grownBy w' v.ownBlock∧Below base w w'∧(v≠.slice none 0 0→v'≠.slice none 0 0):=by
 obtain ⟨i0,hi,hz0,hz1,hz2⟩:=info_parts infoItem
 obtain ⟨v',w',hrun,h1,h2,hnn⟩:=run_append_own (P:=Tryz.prog) w base 114 ty 51 i0 (.agg #[.int .i64 0,.int .u32 0,.slice none 0 0]) 3 40 Tryz.underlying114 hi hz0 hz1 hz2 (by rfl) (by decide) v R.length (irow R) hown.row ad 1 c (icells x.1 x.2) (by rfl) hnews (icells_one x.1 x.2) (by unfold maxLen;omega) (by omega) hbase
 refine ⟨v',w',hrun,⟨?_,?_,?_⟩,h2,(Below.refl _ _).grown h2 hbase (fun k hk=>(hown.row.lt k hk).1),fun hv hv'=>hv (hnn.1 hv').1⟩
 ·rw [List.length_append,irow_snoc]
  simpa using h1
 ·intro y hy
  rcases List.mem_append.1 hy with hy | hy
  ·exact bods_grown hown.row h2 (hown.bod y hy)
  ·obtain rfl:=List.mem_singleton.1 hy
   exact bods_grown hown.row h2 hb
 ·intro y hy
  rcases List.mem_append.1 hy with hy | hy
  ·exact hown.each y hy
  ·obtain rfl:=List.mem_singleton.1 hy
   exact hx
theorem irow_len:∀ (l:List (It×Bd)),(irow l).length=l.length * 3
 | [] => rfl
 | x :: l=>by rw [irow,List.length_append,irow_len l,List.length_cons];simp [icells];omega
theorem Rit.news {w:World} {ad:Addr} {n:Nat} {R:List (It×Bd)} (h:Rit Z w (some ad) n R):∀ j u,(irow R)[j]? = some u→w.cell? (ad.add j)=some u:=by
 intro j u hj
 have hjl:j<R.length * 3:=by rw [← irow_len];exact (List.getElem?_eq_some_iff.1 hj).1
 have hi:j / 3<R.length:=by omega
 rcases h.cells with h0 | ⟨g,o,ha,hg,_,hc⟩
 ·subst h0;simp at hi
 ·simp only [Option.some.injEq] at ha
  subst ha
  obtain ⟨c0,c1,c2⟩:=hc (j / 3) R[j / 3] (List.getElem?_eq_getElem hi)
  have hf:=irow_at R (j / 3) R[j / 3] (List.getElem?_eq_getElem hi) (j % 3) (by omega)
  rw [show j / 3 * 3+j % 3=j from by omega,hj] at hf
  have e:∀ k,(⟨g,o,none⟩:Addr).add k=⟨g,o+k,none⟩:=fun k=>by unfold Addr.add;split <;> simp_all
  rw [e]
  have hm:j % 3=0∨j % 3=1∨j % 3=2:=by omega
  rcases hm with hm | hm | hm
  ·rw [hm] at hf
   rw [show o+j=o+j / 3 * 3 from by omega,c0]
   simpa [icells] using hf.symm
  ·rw [hm] at hf
   rw [show o+j=o+j / 3 * 3+1 from by omega,c1]
   simpa [icells] using hf.symm
  ·rw [hm] at hf
   rw [show o+j=o+j / 3 * 3+2 from by omega,c2]
   simpa [icells] using hf.symm
theorem SpsRd.frame {w w':World} {a:Option Addr} {n:Nat} {l:List Sp} (h:SpsRd w a n l) (hz:∀ ad,a=some ad→Z ad.block) (hs:w.heap.size≤w'.heap.size) (hk:∀ k,k<w.heap.size→Z k→HasInt w k→w'.heap[k]? = w.heap[k]?):SpsRd w' a n l:=by
 by_cases hl:l=[]
 ·exact ⟨h.size,.inl hl⟩
 ·obtain ⟨q,hq⟩:∃ q,l[0]? = some q:=by
   cases l with
   | nil=>exact absurd rfl hl
   | cons q r=>exact ⟨q,rfl⟩
  refine h.same hs fun ad e hlt=>hk _ hlt (hz ad e) (.inl ?_)
  rcases h.cells with h0 | ⟨g,o,ha,hg,hc⟩
  ·exact absurd h0 hl
  ·rw [ha] at e
   cases e
   exact ⟨_,_,_,(hc 0 q hq).1⟩
theorem Two.ints {y:Nat} {w w':World} (ht:Two y y w w') (hy:¬ HasInt w y):∀ k,k<w.heap.size→HasInt w k→w'.heap[k]? = w.heap[k]?:=fun k hk hi=>ht.block k hk (by rintro rfl;exact hy hi) (by rintro rfl;exact hy hi)
theorem Rit.away {y:Nat} {w w':World} {a:Option Addr} {n:Nat} {R:List (It×Bd)} (h:Rit Z w a n R) (ht:Two y y w w') (hy:¬ HasInt w y):Rit Z w' a n R:=h.frame ht.size fun k hk _ hi=>ht.ints hy k hk hi
theorem SpsRd.away {y:Nat} {w w':World} {a:Option Addr} {n:Nat} {l:List Sp} (h:SpsRd w a n l) (ht:Two y y w w') (hy:¬ HasInt w y):SpsRd w' a n l:=h.frame (Z:=fun _=>True) (fun _ _=>trivial) ht.size fun k hk _ hi=>ht.ints hy k hk hi
theorem MapOk.away {y:Nat} {w w':World} {a:Option Addr} {n c:Nat} {l:List Sp} (h:MapOk w a n c l) (ht:Two y y w w') (hy:¬ HasInt w y):MapOk w' a n c l:=⟨h.rd.away ht hy,h.lc,h.cm,h.right⟩
theorem Rd.away {y:Nat} {w w':World} {a:Option Addr} {n:Nat} {bs:List Nat} (h:Rd w a n bs) (ht:Two y y w w') (hy:¬ HasInt w y):Rd w' a n bs:=by
 by_cases hn:n=0
 ·exact ⟨h.size,h.byte,.inl hn⟩
 ·refine h.frame ht.size fun ad e hlt=>ht.ints hy _ hlt (.inl ?_)
  rcases h.cells with h0 | ⟨g,o,ha,hg,hc⟩
  ·exact absurd h0 hn
  ·rw [ha] at e
   cases e
   exact ⟨_,_,_,hc 0 (by omega)⟩
theorem ItsRd.away {y:Nat} {w w':World} {a:Option Addr} {n:Nat} {l:List It} (h:ItsRd w a n l) (ht:Two y y w w') (hy:¬ HasInt w y):ItsRd w' a n l:=by
 refine ⟨h.size,?_,h.each⟩
 rcases h.cells with h0 | ⟨g,o,ha,hg,hc⟩
 ·exact .inl h0
 ·cases l with
  | nil=>exact .inl rfl
  | cons q0 r0 =>
   have e:=ht.ints hy g hg (.inl ⟨_,_,_,(hc 0 q0 rfl).1⟩)
   refine .inr ⟨g,o,ha,Nat.lt_of_lt_of_le hg ht.size,fun i q hi => ?_⟩
   obtain ⟨k1,k2,ba,bl,bc,k3,k4,k5⟩:=hc i q hi
   exact ⟨(cell_same e _).trans k1,(cell_same e _).trans k2,ba,bl,bc,(cell_same e _).trans k3,k4.away ht hy,k5⟩
end
section
set_option maxRecDepth 100000
open Go.RowKit Go.Maps Go.Sort Go.Shelf
variable {Z:Nat→Prop}
abbrev Pb:=Pce×Bd
def pcel (x:Pb):List Value:=[.int .i64 x.1.1.fr,.int .i64 x.1.1.to,.int .i64 x.1.1.is,.int .i64 x.1.2.tick,.int .u32 x.1.2.for_,.slice x.2.1 x.2.2.1 x.2.2.2]
structure Pcw (w:World) (base:Nat) (v:Value) (P:List Pb):Prop where
 row:w.ownsRow base 400 6 v P.length (P.flatMap pcel)
theorem Pcw.nil_ (w:World) (base:Nat):Pcw w base (.slice none 0 0) []:=⟨⟨rfl,.inl ⟨rfl,rfl⟩⟩⟩
theorem Pcw.below {w w':World} {base:Nat} {v:Value} {P:List Pb} (h:Pcw w base v P) (hb:Below w.heap.size w w'):Pcw w' base v P:=by
 refine ⟨⟨h.row.1,?_⟩⟩
 rcases h.row.2 with hn | ⟨g,c,cur,hv,hbg,hg,r⟩
 ·exact .inl hn
 ·exact .inr ⟨g,c,cur,hv,hbg,by rw [hb.block g (Array.getElem?_eq_some_iff.1 hg).1];exact hg,r⟩
theorem Pcw.lower {w:World} {base base':Nat} {v:Value} {P:List Pb} (h:Pcw w base v P) (hb:base'≤base):Pcw w base' v P:=by
 refine ⟨⟨h.row.1,?_⟩⟩
 rcases h.row.2 with hn | ⟨g,c,cur,hv,hbg,r⟩
 ·exact .inl hn
 ·exact .inr ⟨g,c,cur,hv,Nat.le_trans hb hbg,r⟩
theorem Pcw.form {w:World} {base:Nat} {v:Value} {P:List Pb} (h:Pcw w base v P):∃ a c,v=.slice a P.length c∧P.length≤c∧c≤maxLen:=by
 rcases h.row.2 with ⟨hv,hn⟩ | ⟨g,c,cur,hv,hb,hg,hc,hm,_⟩
 ·exact ⟨none,0,by rw [hv,hn],by omega,by omega⟩
 ·exact ⟨_,c,hv,hc,hm⟩
theorem pcel_len:∀ P:List Pb,(P.flatMap pcel).length=P.length * 6
 | [] => rfl
 | x :: P=>by rw [List.flatMap_cons,List.length_append,pcel_len P,List.length_cons];show 6+_=_;omega
theorem pcel_at:∀ (P:List Pb) (i:Nat) (x:Pb),P[i]? = some x→∀ j,j<6→(P.flatMap pcel)[i * 6+j]? = (pcel x)[j]?
 | [],_,_,h,_,_=>by cases h
 | y :: P,0,x,h,j,hj=>by
  simp only [List.getElem?_cons_zero,Option.some.injEq] at h
  subst h
  rw [List.flatMap_cons,List.getElem?_append_left (by show _<6;omega),Nat.zero_mul,Nat.zero_add]
 | y :: P,i+1,x,h,j,hj=>by
  rw [List.getElem?_cons_succ] at h
  rw [List.flatMap_cons,List.getElem?_append_right (by show 6≤_;omega),show (i+1) * 6+j - (pcel y).length=i * 6+j from by show _ - 6=_;omega]
  exact pcel_at P i x h j hj
theorem Pcw.at_ {w:World} {base:Nat} {a:Option Addr} {n c:Nat} {P:List Pb} (h:Pcw w base (.slice a n c) P) {i:Nat} {x:Pb} (hx:P[i]? = some x):∃ g,a=some ⟨g,0,none⟩∧base≤g∧g<w.heap.size∧w.cell? ⟨g,i * 6,none⟩=some (.int .i64 x.1.1.fr)∧w.cell? ⟨g,i * 6+1,none⟩=some (.int .i64 x.1.1.to)∧w.cell? ⟨g,i * 6+2,none⟩=some (.int .i64 x.1.1.is)∧w.cell? ⟨g,i * 6+3,none⟩=some (.int .i64 x.1.2.tick)∧w.cell? ⟨g,i * 6+4,none⟩=some (.int .u32 x.1.2.for_)∧w.cell? ⟨g,i * 6+5,none⟩=some (.slice x.2.1 x.2.2.1 x.2.2.2):=by
 have hil:=(List.getElem?_eq_some_iff.1 hx).1
 rcases h.row.2 with ⟨hv,hn⟩ | ⟨g,c',cur,hv,hb,hg,hlc,hmx,hs,ht⟩
 ·omega
 ·simp only [Value.slice.injEq] at hv
  obtain ⟨rfl,rfl,rfl⟩:=hv
  have key:∀ j,j<6→w.cell? ⟨g,i * 6+j,none⟩=(pcel x)[j]?:=by
   intro j hj
   have h1:=pcel_at P i x hx j hj
   rw [← ht,List.getElem?_take_of_lt (by omega),Array.getElem?_toList] at h1
   rw [cell_of_row w g _ cur _ _ hg,h1]
  exact ⟨g,rfl,hb,(Array.getElem?_eq_some_iff.1 hg).1,key 0 (by omega),key 1 (by omega),key 2 (by omega),key 3 (by omega),key 4 (by omega),key 5 (by omega)⟩
theorem Pcw.free {w:World} {base g n c:Nat} {P:List Pb} (h:Pcw w base (.slice (some ⟨g,0,none⟩) n c) P) (j:Nat):w.frozen? ⟨g,j,none⟩=false∧base≤g:=by
 rcases h.row.2 with ⟨hv,_⟩ | ⟨g',c',cur,hv,hb,hg,_⟩
 ·cases hv
 ·simp only [Value.slice.injEq,Option.some.injEq,Addr.mk.injEq,and_true] at hv
  obtain ⟨rfl,_⟩:=hv
  exact ⟨frozen_of_row w g j cur _ hg,hb⟩
theorem Pcw.setTo {w:World} {base g n c:Nat} {i:List Pb} {d:Pb} (h:Pcw w base (.slice (some ⟨g,0,none⟩) n c) (i++[d])) (x:Int):Pcw (w.setCell ⟨g,i.length * 6+1,none⟩ (.int .i64 x)) base (.slice (some ⟨g,0,none⟩) n c) (i++[((⟨d.1.1.fr,x,d.1.1.is⟩,d.1.2),d.2)]):=by
 have hr:=h.row
 have hn:n=(i++[d]).length:=by
  rcases hr.2 with ⟨hv,_⟩ | ⟨g',c',cur,hv,_⟩
  ·cases hv
  ·simp only [Value.slice.injEq] at hv
   exact hv.2.1
 subst hn
 have h2:=hr.stored (i.length * 6+1) (.int .i64 x)
 refine ⟨?_⟩
 have e2:((i++[d]).flatMap pcel).set (i.length * 6+1) (.int .i64 x)=(i++[(((⟨d.1.1.fr,x,d.1.1.is⟩:Sp),d.1.2),d.2)]).flatMap pcel:=by
  rw [List.flatMap_append,List.flatMap_append,List.set_append_right _ _ (by rw [pcel_len];omega),pcel_len]
  simp [pcel]
 rw [← e2,show (i++[(((⟨d.1.1.fr,x,d.1.1.is⟩:Sp),d.1.2),d.2)]).length=(i++[d]).length from by simp]
 exact h2.1
theorem infoPiece:(Tryz.prog.info? 400).map (fun i=>(i.zero,i.size,i.bytes))=some (some (.agg #[.int .i64 0,.int .i64 0,.int .i64 0,.int .i64 0,.int .u32 0,.slice none 0 0]),6,64):=by kernel_rfl
theorem pcel_one (x:Pb):∀ u∈pcel x,u.oneCell'=true:=by
 intro u hu
 simp only [pcel,List.mem_cons,List.not_mem_nil,or_false] at hu
 rcases hu with rfl | rfl | rfl | rfl | rfl | rfl <;> rfl
theorem wpList_append_pw {w:World} {ops:Array Oper} {rest:List Oper} {o:Oper} {act:Act} {Q:Exit→Act→World→Prop} (hgd:o.guard=none) (s x:Operand)
  (ho:o.op=.call { callee:=.builtin .append,args:=#[s,x],argTypes:=#[353,353] })
  (base:Nat) (v:Value) (P:List Pb) (hs:act.eval s=v) (hown:Pcw w base v P) (ad:Addr) (c:Nat) (q:Pb) (hx:act.eval x=.slice (some ad) 1 c) (hnews:∀ j u,(pcel q)[j]? = some u→w.cell? (ad.add j)=some u)
  (hl:P.length≤2000000000000) (hbase:base≤w.heap.size)
  (h:∀ v' w',Pcw w' base v' (P++[q])→w.grownBy w' v.ownBlock→Below base w w'→wpList Tryz.prog ops Q rest (act.put o.dst v') w'):wpList Tryz.prog ops Q (o :: rest) act w:=by
 obtain ⟨i0,hi,hz0,hz1,hz2⟩:=info_parts infoPiece
 refine wpList_plain hgd fun K hK => ?_
 refine wp_append_own w s x 353 ho base 400 i0 (.agg #[.int .i64 0,.int .i64 0,.int .i64 0,.int .i64 0,.int .u32 0,.slice none 0 0]) 6 64 Tryz.underlying353 hi hz0 hz1 hz2 (by rfl) (by decide) v P.length (P.flatMap pcel) hs hown.row ad 1 c (pcel q) hx (by rfl) hnews (pcel_one q) (by unfold maxLen;omega) (by omega) hbase fun v' w' h1 h2 _ => ?_
 have hbel:Below base w w':=(Below.refl _ _).grown h2 hbase (fun k hk=>(hown.row.lt k hk).1)
 refine hK _ _ (h v' w' ⟨?_⟩ h2 hbel)
 rw [List.length_append,List.flatMap_append]
 simpa using h1
theorem pw_told {w:World} {g:Nat} {q:Pb} {t:TypeId} (h:Bk w g (pcel q).toArray t):∀ j u,(pcel q)[j]? = some u→w.cell? ((⟨g,0,none⟩:Addr).add j)=some u:=by
 intro j u hj
 have hk:(pcel q).toArray[j]? = some u:=by rw [List.getElem?_toArray];exact hj
 have:=h.cell j hk
 have hz:(⟨g,0,none⟩:Addr).add j=⟨g,j,none⟩:=by unfold Addr.add;split <;> simp_all
 rw [hz]
 exact this
def pval (x:Pb):Value:=.agg #[.int .i64 x.1.1.fr,.int .i64 x.1.1.to,.int .i64 x.1.1.is,.int .i64 x.1.2.tick,.int .u32 x.1.2.for_,.slice x.2.1 x.2.2.1 x.2.2.2]
end
end Go.Proofs.YtoiennkfdjnkbaaGreatDoor
