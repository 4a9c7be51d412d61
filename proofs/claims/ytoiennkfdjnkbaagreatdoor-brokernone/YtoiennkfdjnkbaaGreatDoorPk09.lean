import Derived.Test.YtoiennkfdjnkbaaGreatDoorPk08
import Derived.Deep.RegionLaw
import Derived.BigRegion
set_option maxRecDepth 100000
set_option maxHeartbeats 8000000
namespace Go.Proofs.YtoiennkfdjnkbaaGreatDoor
section
open Go.RowKit
def BdE (w:World) (B:Nat) (a:Option Addr) (n:Nat) (bs:List Nat):Prop:=Rd w a n bs∧(n=0∨∃ g off cs fr,a=some ⟨g,off,none⟩∧(B≤g∧n≤4096)∧w.heap[g]? = some (.cells cs 5 fr))
def nextF (D:Dk) (at_ en hi:Nat):Option (Nat×List Nat×Nat) :=
 match gatherL D at_ (16 - en) en 2 [] with
 | none=>none
 | some (all,e)=>if (KeyM.take all 0).2.2≠0∨(KeyM.take all 0).1≤(hi:Int)∨1099511627776<(KeyM.take all 0).1 then none else some ((KeyM.take all 0).1.toNat,all.drop 8,e)
def NextTold (w:World) (B:Nat) (e:Ending) (r:Option (Nat×List Nat×Nat)):Prop :=
 (r=none∧e=.returned (.tuple #[.agg #[.int .i64 0,.slice none 0 0],.int .i64 0,.bool false]))∨∃ v bs en a n c,r=some (v,bs,en)∧e=.returned (.tuple #[.agg #[.int .i64 ((v:Nat):Int),.slice a n c],.int .i64 ((en:Nat):Int),.bool true])∧BdE w B a n bs∧n≤936∧en≤16
theorem infoRec:(Tryz.prog.info? 178).map (·.size)=some 2:=by kernel_rfl
theorem results_nextE {w:World} {tmps:Array Value} {g:Nat} {cs:List Value} {v v2:Value} (h2:tmps[4]?.getD undef=.pointer (some ⟨g,0,none⟩)) (h3:tmps[5]?.getD undef=v) (h4:tmps[6]?.getD undef=v2) (k:Blk w g cs.toArray 178) (hl:cs.length=2):(results Tryz.f292 tmps).run Tryz.prog w=.ok (.tuple #[.agg cs.toArray,v,v2]) w:=by
 have hr:=run_loadVar_mid (P:=Tryz.prog) w g 0 178 cs _ (k.range 0 cs (fun j v hj=>by simpa using hj)) Tryz.underlying178 rfl (by rw [hl];exact infoRec)
 simp [results,Tryz.results292,h2,h3,h4,hr,asAddr]
theorem evl_next (w:World) (base g gs:Nat) (wv:Value) (D:Dk) (gl gc b m ag hi rel:Nat) (uv rv:Value) (at_ en:Nat) (num shi:Int) (hd:Disk w base g gs wv D) (h:Lc w gl g gc b m ag uv hi rel rv) (hat:at_≤100000) (hen:en≤16) (hhi:hi≤1099511627776) :
  Calls Tryz.prog 292 #[.pointer (some ⟨gl,0,none⟩),.agg #[.int .i64 (at_:Int),.int .i64 num,.int .i64 shi,.int .i64 (en:Int)]] w fun e w'=>Hid (NextTold w' w.heap.size e (nextF D at_ en hi))∧Below w.heap.size w w':=by
 obtain ⟨R,HR⟩:∃ R,Hid (R=nextF D at_ en hi):=⟨_,rfl⟩
 rw [← HR.out]
 obtain ⟨W1,HW1⟩:∃ W1,Hid (W1=(w.alloc (.cells #[.int .i64 (at_:Int),.int .i64 num,.int .i64 shi,.int .i64 (en:Int)] 169)).alloc (.cells #[.int .i64 0,.slice none 0 0] 178)):=⟨_,rfl⟩
 have HB1:Hid (Below w.heap.size w W1):=by (show Below _ _ _);rw [HW1.out];exact (below_alloc _ _).trans ((below_alloc _ _).mono (below_alloc _ _).size)
 have HK1:Hid (Blk W1 (w.heap.size+1) #[.int .i64 0,.slice none 0 0] 178):=by
  (show Blk _ _ _ _);rw [HW1.out]
  have:=Blk.new (w.alloc (.cells #[.int .i64 (at_:Int),.int .i64 num,.int .i64 shi,.int .i64 (en:Int)] 169)) #[.int .i64 0,.slice none 0 0] 178
  simpa using this
 have HD1:Hid (Disk W1 base g gs wv D):=hd.stay HB1.out
 have HL1:Hid (Lc W1 gl g gc b m ag uv hi rel rv):=h.stay HB1.out
 have HSZ:Hid (w.heap.size+2≤W1.heap.size):=HK1.out.lt
 have HG:Hid (∀ W,Disk W base g gs wv D→Lc W gl g gc b m ag uv hi rel rv→Calls Tryz.prog 328 #[.pointer (some ⟨gl,0,none⟩),.agg #[.int .i64 (at_:Int),.int .i64 num,.int .i64 shi,.int .i64 (en:Int)]] W fun e w'=>Hid (GatherTold w' W.heap.size e (gatherL D at_ (16 - en) en 2 []))∧Below W.heap.size W w'):=fun W h1 h2=>evl_gather W base g gs wv D gl gc b m ag hi rel uv rv at_ en num shi h1 h2 hat hen
 clear hd h
 go_enter Tryz.func292,Tryz.ntmps292
 go_wp2_with fail
 rw [← HW1.out]
 refine (HG.out W1 HD1.out HL1.out).mono ?_
 rintro e w1 ⟨ht1,hb1⟩
 have HB2:Hid (Below W1.heap.size W1 w1):=hb1
 have HL2:Hid (Lc w1 gl g gc b m ag uv hi rel rv):=HL1.out.stay hb1
 have HK2:Hid (Blk w1 (w.heap.size+1) #[.int .i64 0,.slice none 0 0] 178):=HK1.out.stay hb1
 have HBF:Hid (Below w.heap.size w w1):=HB1.out.trans (HB2.out.mono HB1.out.size)
 have c6:w1.cell? ⟨gl,6,none⟩=some (.int .i64 (hi:Int)):=Blk.cell HL2.out 6 rfl
 have k0:w1.cell? ⟨w.heap.size+1,0,none⟩=some (.int .i64 0):=HK2.out.cell 0 rfl
 have k1:w1.cell? ⟨w.heap.size+1,1,none⟩=some (.slice none 0 0):=HK2.out.cell 1 rfl
 have f0:=HK2.out.free 0
 have f1:=HK2.out.free 1
 rcases ht1.out with ⟨hn,rfl⟩ | ⟨all,en2,a1,n1,c1,hs,rfl,ho1,hn1,hen2⟩
 ·have HX:Hid (R=none):=by (show _=_);rw [HR.out,nextF,hn]
  clear ht1 hb1 hn HG
  go_wp2_with fail
  refine (octet_TakeKey none 0 0 [] 0 w1 (Own.none0 _ 0).rd (Nat.le_refl _) (by omega) (by omega)).mono ?_
  rw [show KeyM.take [] 0=(0,0,3) from rfl]
  rintro e w3 ⟨he,hw3⟩
  rw [toldK] at he
  subst he
  rw [hw3]
  clear hw3 w3
  go_wp2
  refine bodyPost_ret (results_nextE (cs:=[.int .i64 0,.slice none 0 0]) (by rfl) (by rfl) (by rfl) ((HK2.out.set 0 _).set 1 _) rfl) rfl ?_
  exact ⟨.inl ⟨HX.out,rfl⟩,(HBF.out.setCell (Nat.le_succ _) _).setCell (Nat.le_succ _) _⟩
 ·obtain ⟨⟨v,p,r⟩,HT⟩:∃ r,Hid (r=KeyM.take all 0):=⟨_,rfl⟩
  have HO:Hid (Own w1 W1.heap.size a1 n1 c1 all):=ho1
  have HN:Hid (n1≤944∧en2≤16):=⟨hn1,hen2⟩
  have HX:Hid (R=if r≠0∨v≤(hi:Int)∨1099511627776<v then none else some (v.toNat,all.drop 8,en2)):=by
   (show _=_)
   rw [HR.out,nextF,hs]
   simp only
   rw [← HT.out]
  clear ht1 hb1 hs ho1 HG
  go_wp2_with fail
  refine (octet_TakeKey a1 n1 c1 all 0 w1 HO.out.rd HO.out.cap_ok (by omega) (by omega)).mono ?_
  rw [← HT.out]
  rintro e w3 ⟨he,hw3⟩
  rw [toldK] at he
  subst he
  rw [hw3]
  clear hw3 w3
  by_cases d1:r=0
  ·subst d1
   by_cases d2:v≤(hi:Int)
   ·have HF:Hid (R=none):=by (show _=_);rw [HX.out,if_pos (.inr (.inl d2))]
    go_wp2
    refine bodyPost_ret (results_nextE (cs:=[.int .i64 0,.slice none 0 0]) (by rfl) (by rfl) (by rfl) ((HK2.out.set 0 _).set 1 _) rfl) rfl ?_
    exact ⟨.inl ⟨HF.out,rfl⟩,(HBF.out.setCell (Nat.le_succ _) _).setCell (Nat.le_succ _) _⟩
   ·by_cases d3:1099511627776<v
    ·have HF:Hid (R=none):=by (show _=_);rw [HX.out,if_pos (.inr (.inr d3))]
     go_wp2
     refine bodyPost_ret (results_nextE (cs:=[.int .i64 0,.slice none 0 0]) (by rfl) (by rfl) (by rfl) ((HK2.out.set 0 _).set 1 _) rfl) rfl ?_
     exact ⟨.inl ⟨HF.out,rfl⟩,(HBF.out.setCell (Nat.le_succ _) _).setCell (Nat.le_succ _) _⟩
    ·have HF:Hid (R=some (v.toNat,all.drop 8,en2)):=by (show _=_);rw [HX.out,if_neg (by omega)]
     have HP:Hid (p=8∧8≤n1):=by
      have h1:=HT.out
      have h2:=HO.out.size
      unfold KeyM.take at h1
      split at h1
      ·cases h1
      ·split at h1
       ·cases h1
       ·cases h1
        exact ⟨rfl,by omega⟩
     have hp1:=HP.out.1
     have hp2:=HP.out.2
     have hcap:=HO.out.cap_ok
     subst hp1
     obtain ⟨gg,cc,HA⟩:∃ gg cc,Hid (a1=some ⟨gg,0,none⟩∧W1.heap.size≤gg∧Blk w1 gg cc 5∧gg≠w.heap.size+1):=by
      rcases HO.out.row.2 with ⟨_,h0⟩ | ⟨gg,cp,cur,hv,hbg,hgg,_⟩
      ·omega
      ·cases hv
       exact ⟨gg,cur,rfl,hbg,hgg,by have:=HSZ.out;omega⟩
     have ha:=HA.out.1
     subst ha
     have e1:(0:Int)≤8:=by omega
     have e2:(8:Int)≤(n1:Int):=by omega
     have e3:(n1:Int)≤(c1:Int):=by omega
     have HV:Hid ((v.toNat:Nat)=v):=by (show _=_);omega
     have HRD:Hid (Rd w1 (some ⟨gg,0,none⟩) n1 all):=HO.out.rd
     have HLA:Hid (all.length=n1):=HO.out.size
     go_wp2
     case inl =>
      refine bodyPost_ret (results_nextE (cs:=[.int .i64 v,.slice (some ⟨gg,0,none⟩) (n1 - 8) 0]) (by rfl) (by rfl) (by rfl) ((HK2.out.set 0 _).set 1 _) rfl) rfl ?_
      refine ⟨.inr ⟨v.toNat,all.drop 8,en2,some ⟨gg,0,none⟩,n1 - 8,0,HF.out,by rw [HV.out];rfl,⟨⟨?_,?_,.inl (by omega)⟩,.inl (by omega)⟩,by have:=HN.out;omega,HN.out.2⟩,(HBF.out.setCell (Nat.le_succ _) _).setCell (Nat.le_succ _) _⟩
      ·rw [List.length_drop,HLA.out]
      ·exact fun x hx=>HRD.out.byte x (List.mem_of_mem_drop hx)
     case inr =>
      refine bodyPost_ret (results_nextE (cs:=[.int .i64 v,.slice (some ⟨gg,8,none⟩) (n1 - 8) (c1 - 8)]) (by rfl) (by rfl) (by rfl) ((HK2.out.set 0 _).set 1 _) rfl) rfl ?_
      have hp:Rd w1 (some ⟨gg,0+8,none⟩) (n1 - 8) ((all.drop 8).take (n1 - 8)):=HRD.out.part 8 (n1 - 8) (by omega)
      rw [List.take_of_length_le (by rw [List.length_drop,HLA.out];exact Nat.le_refl _)] at hp
      have hne:gg≠w.heap.size+1:=HA.out.2.2.2
      have hk:Blk ((w1.setCell ⟨w.heap.size+1,0,none⟩ (.int .i64 v)).setCell ⟨w.heap.size+1,1,none⟩ (.slice (some ⟨gg,8,none⟩) (n1 - 8) (c1 - 8))) gg cc 5:=(HA.out.2.2.1.other _ _ hne).other _ _ hne
      refine ⟨.inr ⟨v.toNat,all.drop 8,en2,some ⟨gg,8,none⟩,n1 - 8,c1 - 8,HF.out,by rw [HV.out];rfl,⟨(hp.far ?_).far ?_,.inr ⟨gg,8,cc,_,rfl,?_,hk⟩⟩,by have:=HN.out;omega,HN.out.2⟩,(HBF.out.setCell (Nat.le_succ _) _).setCell (Nat.le_succ _) _⟩
      ·intro x hx;cases hx;exact hne
      ·intro x hx;cases hx;exact hne
      ·have:=HA.out.2.1;have:=HSZ.out;have:=HN.out;omega
  ·have d1':((r:Int) != 0)=true:=by rw [bne_iff_ne];omega
   have d1'':((r:Int) == 0)=false:=by rw [beq_eq_false_iff_ne];omega
   have HF:Hid (R=none):=by (show _=_);rw [HX.out,if_pos (.inl d1)]
   go_wp2
   refine bodyPost_ret (results_nextE (cs:=[.int .i64 0,.slice none 0 0]) (by rfl) (by rfl) (by rfl) ((HK2.out.set 0 _).set 1 _) rfl) rfl ?_
   exact ⟨.inl ⟨HF.out,rfl⟩,(HBF.out.setCell (Nat.le_succ _) _).setCell (Nat.le_succ _) _⟩
end
section
open Go.RowKit
theorem sg_ins1 (w:World) (a:Option Addr) (n c:Nat) (cv:Value) (hn:n≤1):Calls Tryz.prog 349 #[.slice a n c,.int .i64 0,.int .i64 (n:Int),cv] w fun e w'=>e=.returned (.tuple #[])∧w'=w:=by
 have h1:¬ (1:Int)<(n:Int):=by omega
 clear hn
 go_enter Tryz.func349,Tryz.ntmps349
 go_wp2_with fail
 refine wp_loop_rounds 1 ?_
 rw [rounds_succ]
 go_wp2_with fail
 go_returns
 exact ⟨rfl,rfl⟩
theorem sg_stable1 (w:World) (a:Option Addr) (n c:Nat) (cv:Value) (hn:n≤1):Calls Tryz.prog 326 #[.slice a n c,.int .i64 (n:Int),cv] w fun e w'=>e=.returned (.tuple #[])∧w'=w:=by
 have h1:¬ (20:Int)≤(n:Int):=by omega
 have h2:¬ (20:Int)<(n:Int):=by omega
 have hi:=sg_ins1 w a n c cv hn
 clear hn
 go_enter Tryz.func326,Tryz.ntmps326
 go_wp2_with fail
 refine wp_loop_rounds 1 ?_
 rw [rounds_succ]
 go_wp2_with fail
 refine hi.mono ?_
 rintro e w' ⟨rfl,rfl⟩
 clear hi
 go_wp2_with fail
 refine wp_loop_rounds 1 ?_
 rw [rounds_succ]
 go_wp2_with fail
 go_returns
 exact ⟨rfl,rfl⟩
theorem sg_sort1 (w:World) (a:Option Addr) (n c:Nat) (cv:Value) (hn:n≤1):Calls Tryz.prog 289 #[.slice a n c,cv] w fun e w'=>e=.returned (.tuple #[])∧w'=w:=by
 have hi:=sg_stable1 w a n c cv hn
 clear hn
 go_enter Tryz.func289,Tryz.ntmps289
 go_wp2_with fail
 refine hi.mono ?_
 rintro e w' ⟨rfl,rfl⟩
 clear hi
 go_wp2_with fail
 go_returns
 exact ⟨rfl,rfl⟩
structure Sg where
 at_:Nat
 num:Nat
 high:Nat
 en:Nat
def sgc (s:Sg):List Value:=[.int .i64 (s.at_:Int),.int .i64 (s.num:Int),.int .i64 (s.high:Int),.int .i64 (s.en:Int)]
theorem sgc_one (s:Sg):∀ u∈sgc s,u.oneCell'=true:=by
 intro u hu
 simp only [sgc,List.mem_cons,List.not_mem_nil,or_false] at hu
 rcases hu with rfl | rfl | rfl | rfl <;> rfl
def Sgs (w:World) (base:Nat) (v:Value) (L:List Sg):Prop:=w.ownsRow base 169 4 v L.length (L.flatMap sgc)
def headAt (D:Dk) (b i:Nat):List Sg:=if (headE (tellE D (b+2+i * 16))).2.2=true then [⟨b+2+i * 16,(headE (tellE D (b+2+i * 16))).1.toNat,(headE (tellE D (b+2+i * 16))).2.1.toNat,1⟩] else []
def headsF (D:Dk) (b:Nat):Nat→List Sg
 | 0=>[]
 | n+1=>headsF D b n++headAt D b n
theorem headE_ok (s:List Nat) (h:(headE s).2.2=true):1≤(headE s).1∧(headE s).1≤4611686018427387904∧0≤(headE s).2.1∧(headE s).2.1≤1099511627776:=by
 unfold headE headP at h ⊢
 split at h
 ·split at h
  ·cases h
  ·split at h
   ·cases h
   ·rename_i h1 h2 h3
    rw [if_pos h1,if_neg h2,if_neg h3]
    simp only
    omega
 ·cases h
theorem infoSg:(Tryz.prog.info? 169).map (fun i=>(i.zero,i.size,i.bytes))=some (some (.agg #[.int .i64 0,.int .i64 0,.int .i64 0,.int .i64 0]),4,32):=by kernel_rfl
theorem wpList_append_sg {w:World} {ops:Array Oper} {rest:List Oper} {o:Oper} {act:Act} {Q:Exit→Act→World→Prop} (hgd:o.guard=none) (s x:Operand)
  (ho:o.op=.call { callee:=.builtin .append,args:=#[s,x],argTypes:=#[161,161] })
  (base:Nat) (v:Value) (L:List Sg) (hs:act.eval s=v) (hown:Sgs w base v L) (k c:Nat) (p:Sg) (hx:act.eval x=.slice (some ⟨k,0,none⟩) 1 c)
  (hb:Blk w k (sgc p).toArray 169) (hl:L.length≤1000000) (hbase:base≤w.heap.size)
  (h:∀ v' w',Sgs w' base v' (L++[p])→w.grownBy w' v.ownBlock→Below base w w'→wpList Tryz.prog ops Q rest (act.put o.dst v') w'):wpList Tryz.prog ops Q (o :: rest) act w:=by
 obtain ⟨i0,hi,hz0,hz1,hz2⟩:=info_parts infoSg
 refine wpList_plain hgd fun K hK => ?_
 refine wp_append_own w s x 161 ho base 169 i0 (.agg #[.int .i64 0,.int .i64 0,.int .i64 0,.int .i64 0]) 4 32 Tryz.underlying161 hi hz0 hz1 hz2 (by rfl) (by decide) v L.length (L.flatMap sgc) hs hown ⟨k,0,none⟩ 1 c (sgc p) hx (by rfl) (fun j u hj => ?_) (sgc_one p) (by unfold maxLen;omega) (by omega) hbase fun v' w' h1 h2 _ => ?_
 ·have e:(⟨k,0,none⟩:Addr).add j=⟨k,0+j,none⟩:=by unfold Addr.add;split <;> simp_all
  rw [e,Nat.zero_add]
  exact hb.cell j (by simpa using hj)
 ·refine hK _ _ (h v' w' ?_ h2 ((Below.refl _ _).grown h2 hbase (fun k hk=>(hown.lt k hk).1)))
  unfold Sgs
  rw [List.length_append,List.flatMap_append]
  simpa using h1
theorem Sgs.nil (w:World) (base:Nat):Sgs w base (.slice none 0 0) []:=World.ownsRow_nil _ _ _ _
theorem Sgs.below {w w':World} {base:Nat} {v:Value} {L:List Sg} (h:Sgs w base v L) (hb:Below w.heap.size w w'):Sgs w' base v L:=by
 refine ⟨h.1,?_⟩
 rcases h.2 with h1 | ⟨g,cp,cur,a1,a2,a3,r⟩
 ·exact .inl h1
 ·exact .inr ⟨g,cp,cur,a1,a2,by rw [hb.block g (heap_lt a3)];exact a3,r⟩
theorem Sgs.val {w:World} {base:Nat} {v:Value} {L:List Sg} (h:Sgs w base v L):∃ a c,v=.slice a L.length c:=by
 rcases h.2 with ⟨h1,h2⟩ | ⟨g,cp,cur,a1,_⟩
 ·exact ⟨none,0,by rw [h1,h2]⟩
 ·exact ⟨_,cp,a1⟩
theorem headAt_len (D:Dk) (b i:Nat):(headAt D b i).length≤1:=by unfold headAt;split <;> simp
theorem headsF_len (D:Dk) (b:Nat):∀ n,(headsF D b n).length≤n
 | 0=>Nat.le_refl _
 | n+1=>by rw [headsF,List.length_append];have:=headsF_len D b n;have:=headAt_len D b n;omega
def HeadsTold (w:World) (B:Nat) (e:Ending) (L:List Sg):Prop:=∃ a c,e=.returned (.slice a L.length c)∧Sgs w B (.slice a L.length c) L
theorem evl_heads (w:World) (base g gs:Nat) (wv:Value) (D:Dk) (gl gc b m ag hi rel:Nat) (uv rv:Value) (hd:Disk w base g gs wv D) (h:Lc w gl g gc b m ag uv hi rel rv) (hb:b≤1000) (hm:m≤1000) (hone:(headsF D b m).length≤1) :
  Calls Tryz.prog 240 #[.pointer (some ⟨gl,0,none⟩)] w fun e w'=>Hid (HeadsTold w' w.heap.size e (headsF D b m))∧Below w.heap.size w w':=by
 have HD:Hid (Disk w base g gs wv D):=hd
 have HL:Hid (Lc w gl g gc b m ag uv hi rel rv):=h
 have c3:w.cell? ⟨gl,3,none⟩=some (.int .i64 (m:Int)):=Blk.cell h 3 rfl
 obtain ⟨R,HR⟩:∃ R,Hid (R=headsF D b m):=⟨_,rfl⟩
 rw [← HR.out] at hone ⊢
 clear hd h
 go_enter Tryz.func240,Tryz.ntmps240
 go_wp2
 clear c3
 go_loopw [3,15] (fun t3 t15 wr=>∃ (i:Nat) (a3:Option Addr) (n3 c3:Nat) (L3:List Sg),i≤m∧t3=.slice a3 n3 c3∧t15=.int .i64 (i:Int)∧Hid (L3=headsF D b i)∧Hid (Sgs wr w.heap.size (.slice a3 n3 c3) L3)∧Hid (Below w.heap.size w wr)) (fun _ t15 _=>m - (intOf t15).toNat)
 case atStart=>exact ⟨0,none,0,0,[],Nat.zero_le _,rfl,rfl,rfl,Sgs.nil _ _,Below.refl _ _⟩
 case round =>
  obtain ⟨i,a3,n3,c3,L3,hi1,rfl,rfl,HL3,HS3,HB⟩:=hrel
  by_cases hlt:i<m
  ·have hlt':(i:Int)<(m:Int):=by omega
   have HLr:Hid (Lc wr gl g gc b m ag uv hi rel rv):=HL.out.stay HB.out
   have HDr:Hid (Disk wr base g gs wv D):=HD.out.stay HB.out
   obtain ⟨P,HP⟩:∃ P,Hid (P=b+2+i * 16):=⟨_,rfl⟩
   have s0:wr.cell? ⟨gl,0,none⟩=some (.pointer (some ⟨g,0,none⟩)):=Blk.cell HLr.out 0 rfl
   obtain ⟨S,HS⟩:∃ S,Hid (S=tellE D P):=⟨_,rfl⟩
   obtain ⟨er,HER⟩:∃ er,Hid (er=readE D (P:Int)):=⟨_,rfl⟩
   go_wp2_with fail
   refine (evl_place wr gl g gc b m ag hi rel uv rv i HLr.out hb (by omega)).mono ?_
   rw [← HP.out]
   rintro e w2 ⟨rfl,hw2⟩
   rw [hw2]
   clear hw2 w2
   go_wp2_with fail
   refine (disk_Read wr base g gs wv D (P:Int) HDr.out).mono ?_
   rintro e w2 ⟨ht2,hb2⟩
   obtain ⟨a2,l2,c2,rfl,h1,h2,h3⟩:=ht2.out.uniE
   rw [← HER.out]
   have HR2:Hid (Rd w2 a2 l2 S):=by
    (show Rd _ _ _ _)
    rw [HS.out]
    unfold tellE
    rw [Int.toNat_natCast] at h1
    exact h1
   have HB2:Hid (Below wr.heap.size wr w2):=hb2
   clear ht2 h1 hb2 s0
   go_wp2_with fail
   refine (evl_takeHead a2 l2 c2 S w2 HR2.out h2 (by omega)).mono ?_
   obtain ⟨⟨v1,v2,ok⟩,HT⟩:∃ r,Hid (r=headE S):=⟨_,rfl⟩
   rw [← HT.out,toldH]
   rintro e w4 ⟨rfl,hb4⟩
   have HB4:Hid (Below w.heap.size w w4):=(HB.out.trans (HB2.out.mono HB.out.size)).trans (hb4.mono (Nat.le_trans HB.out.size HB2.out.size))
   have HS4:Hid (Sgs w4 w.heap.size (.slice a3 n3 c3) L3):=(HS3.out.below HB2.out).below hb4
   clear h2 h3 hb4
   have HAT:Hid (headAt D b i=if ok=true then [⟨P,v1.toNat,v2.toNat,1⟩] else []):=by
    (show _=_)
    unfold headAt
    rw [← HP.out,← HS.out,← HT.out]
   cases ok with
   | false =>
    have HL4:Hid (L3=headsF D b (i+1)):=by (show _=_);rw [headsF,HAT.out,← HL3.out];simp
    go_wp2
    go_roundw
    case rel=>exact ⟨i+1,a3,n3,c3,L3,by omega,rfl,by go_num,HL4,HS4,HB4⟩
    case measure=>(simp [intOf];omega)
   | true =>
    have hv:=headE_ok S (by rw [← HT.out])
    rw [← HT.out] at hv
    simp only at hv
    have HL4:Hid (L3++[⟨P,v1.toNat,v2.toNat,1⟩] = headsF D b (i+1)):=by (show _=_);rw [headsF,HAT.out,← HL3.out];simp
    have HLN:Hid (L3.length≤1000):=by (show _≤_);rw [HL3.out];have:=headsF_len D b i;omega
    have HEQ:Hid (#[Value.int .i64 (P:Int),.int .i64 v1,.int .i64 v2,.int .i64 1] = (sgc ⟨P,v1.toNat,v2.toNat,1⟩).toArray):=by
     (show _=_)
     unfold sgc
     simp only
     rw [Int.toNat_of_nonneg (by omega),Int.toNat_of_nonneg (by omega)]
     rfl
    have HBK:Hid (Blk (w4.alloc (.cells #[Value.int .i64 (P:Int),.int .i64 v1,.int .i64 v2,.int .i64 1] 169)) w4.heap.size (sgc ⟨P,v1.toNat,v2.toNat,1⟩).toArray 169):=by
     (show Blk _ _ _ _)
     rw [← HEQ.out]
     exact Blk.new _ _ _
    have HBL:Hid (Below w4.heap.size w4 (w4.alloc (.cells #[Value.int .i64 (P:Int),.int .i64 v1,.int .i64 v2,.int .i64 1] 169))):=below_alloc _ _
    clear hv
    go_wp2_with (guard_target =~ wpList _ _ _ (Oper.mk (some 43) _ _ _ _ _ :: _) _ _;refine wpList_append_sg rfl (.tmp 37) (.tmp 42) rfl w.heap.size _ L3 rfl (HS4.out.below HBL.out) w4.heap.size 1 ⟨P,v1.toNat,v2.toNat,1⟩ rfl HBK.out (by have:=HLN.out;omega) (Nat.le_trans HB4.out.size HBL.out.size) ?_)
    intro v5 w5 hs5 _ hb5
    have HB5:Hid (Below w.heap.size w w5):=HB4.out.trans ((HBL.out.mono HB4.out.size).trans hb5)
    have HS5:Hid (Sgs w5 w.heap.size v5 (L3++[⟨P,v1.toNat,v2.toNat,1⟩])):=hs5
    obtain ⟨a5,c5,rfl⟩:=HS5.out.val
    clear hs5 hb5
    go_wp2
    go_roundw
    case rel=>exact ⟨i+1,a5,_,c5,_,by omega,rfl,by go_num,HL4,HS5,HB5⟩
    case measure=>(simp [intOf];omega)
  ·obtain rfl:i=m:=by omega
   have hlt':¬ (i:Int)<(i:Int):=by omega
   have HE:Hid (L3=R):=by (show _=_);rw [HL3.out,HR.out]
   have HN:Hid (n3=R.length):=by
    (show _=_)
    obtain ⟨a,c,e⟩:=HS3.out.val
    cases e
    rw [HE.out]
   go_wp2_with fail
   refine (sg_sort1 wr a3 n3 c3 _ (by have:=HN.out;omega)).mono ?_
   rintro e w2 ⟨rfl,hw2⟩
   rw [hw2]
   clear hw2 w2
   go_wp2
   go_returns
   refine ⟨⟨a3,c3,by rw [HN.out];rfl,?_⟩,HB.out⟩
   rw [← HN.out,← HE.out]
   exact HS3.out
end
section
open Go.RowKit
structure Rc where
 tick:Nat
 a:Option Addr
 n:Nat
 c:Nat
 bs:List Nat
def rcc (r:Rc):List Value:=[.int .i64 (r.tick:Int),.slice r.a r.n r.c]
theorem rcc_one (r:Rc):∀ u∈rcc r,u.oneCell'=true:=by
 intro u hu
 simp only [rcc,List.mem_cons,List.not_mem_nil,or_false] at hu
 rcases hu with rfl | rfl <;> rfl
structure Rcs (w:World) (base:Nat) (v:Value) (L:List Rc):Prop where
 row:w.ownsRow base 178 2 v L.length (L.flatMap rcc)
 bd:∀ r∈L,BdE w base r.a r.n r.bs
structure Kt (w w':World):Prop where
 size:w.heap.size≤w'.heap.size
 block:∀ (k:Nat) (cs:Array Value) (t:TypeId) (fr:Nat×Nat),w.heap[k]? = some (.cells cs t fr)→t≠164→t≠169→t≠178→w'.heap[k]? = some (.cells cs t fr)
 other:∀ (k:Nat) (o:Obj),w.heap[k]? = some o→NoC o→w'.heap[k]? = some o
theorem Kt.refl (w:World):Kt w w:=⟨Nat.le_refl _,fun _ _ _ _ h _ _ _=>h,fun _ _ h _=>h⟩
theorem Kt.trans {w w1 w2:World} (h:Kt w w1) (h2:Kt w1 w2):Kt w w2:=⟨Nat.le_trans h.size h2.size,fun k cs t fr h0 h1 h3 h4=>h2.block k cs t fr (h.block k cs t fr h0 h1 h3 h4) h1 h3 h4,fun k o h0 h1=>h2.other k o (h.other k o h0 h1) h1⟩
theorem Kt.of_below {w w':World} (h:Below w.heap.size w w'):Kt w w':=⟨h.size,fun k _ _ _ h0 _ _ _=>by rw [h.block k (heap_lt h0)];exact h0,fun k _ h0 _=>by rw [h.block k (heap_lt h0)];exact h0⟩
theorem Kt.keep {w w':World} {k:Nat} {cs:Array Value} {t:TypeId} (h:Kt w w') (hb:Blk w k cs t) (h1:t≠164) (h2:t≠169) (h3:t≠178):Blk w' k cs t:=h.block k cs t _ hb h1 h2 h3
theorem Kt.set {w w':World} {k:Nat} {cs:Array Value} {t:TypeId} (h:Kt w w') (hb:Blk w' k cs t) (ht:t=164∨t=169∨t=178) (i:Nat) (v:Value):Kt w (w'.setCell ⟨k,i,none⟩ v) :=
 ⟨by rw [World.size_setCell];exact h.size,fun j cs' t' fr h0 h1 h2 h3=>by
  have h4:=h.block j cs' t' fr h0 h1 h2 h3
  by_cases hj:j=k
  ·subst hj
   unfold Blk at hb
   rw [hb] at h4
   cases h4
   rcases ht with rfl | rfl | rfl
   ·exact absurd rfl h1
   ·exact absurd rfl h2
   ·exact absurd rfl h3
  ·rw [heap_setCell_other w' ⟨k,i,none⟩ j v hj]
   exact h4,fun j o h0 h1=>by
  have h4:=h.other j o h0 h1
  have hj:j≠k:=by
   rintro rfl
   unfold Blk at hb
   rw [hb] at h4
   exact h1 _ _ _ (Option.some.inj h4).symm
  rw [heap_setCell_other w' ⟨k,i,none⟩ j v hj]
  exact h4⟩
theorem Kt.grown {w w' w2:World} {base size n:Nat} {e:TypeId} {v:Value} {xs:List Value} (h:Kt w w') (ho:w'.ownsRow base e size v n xs) (he:e=164∨e=169∨e=178) (hg:w'.grownBy w2 v.ownBlock):Kt w w2 :=
 ⟨Nat.le_trans h.size hg.size,fun j cs' t' fr h0 h1 h2 h3=>by
  have h4:=h.block j cs' t' fr h0 h1 h2 h3
  rw [hg.block j (heap_lt h4) (fun hj => ?_)]
  ·exact h4
  ·rcases ho.2 with ⟨a1,_⟩ | ⟨g,cp,cur,a1,_,a3,_⟩
   ·rw [a1] at hj;cases hj
   ·rw [a1] at hj
    simp only [Value.ownBlock,Option.some.injEq] at hj
    subst hj
    rw [a3] at h4
    cases h4
    rcases he with rfl | rfl | rfl
    ·exact absurd rfl h1
    ·exact absurd rfl h2
    ·exact absurd rfl h3,fun j o h0 h1=>by
  have h4:=h.other j o h0 h1
  rw [hg.block j (heap_lt h4) (own_noc ho h4 h1)]
  exact h4⟩
structure Ft (w w':World):Prop where
 size:w.heap.size≤w'.heap.size
 block:∀ (k:Nat) (cs:Array Value) (t:TypeId) (fr:Nat×Nat),w.heap[k]? = some (.cells cs t fr)→t≠70→t≠244→t≠246→t≠164→t≠169→t≠178→w'.heap[k]? = some (.cells cs t fr)
 other:∀ (k:Nat) (o:Obj),w.heap[k]? = some o→NoC o→w'.heap[k]? = some o
theorem Ft.trans {w w1 w2:World} (h:Ft w w1) (h2:Ft w1 w2):Ft w w2:=⟨Nat.le_trans h.size h2.size,fun k cs t fr h0 a b c d e f=>h2.block k cs t fr (h.block k cs t fr h0 a b c d e f) a b c d e f,fun k o h0 h1=>h2.other k o (h.other k o h0 h1) h1⟩
theorem Ft.of_below {w w':World} (h:Below w.heap.size w w'):Ft w w':=⟨h.size,fun k _ _ _ h0 _ _ _ _ _ _=>by rw [h.block k (heap_lt h0)];exact h0,fun k _ h0 _=>by rw [h.block k (heap_lt h0)];exact h0⟩
theorem Ft.of_kt {w w':World} (h:Kt w w'):Ft w w':=⟨h.size,fun k cs t fr h0 _ _ _ d e f=>h.block k cs t fr h0 d e f,h.other⟩
theorem Ft.of_mv {w w':World} {base b2 g gs:Nat} {wv:Value} {D:Dk} (hd:Disk w base g gs wv D) (h:Mv w w' b2 g gs):Ft w w':=⟨h.low.size,fun k cs t fr h0 a b c _ _ _=>by
  refine h.block k cs t fr ?_ ?_ h0 c
  ·rintro rfl
   have e:=h0.symm.trans hd.blk
   cases e
   exact a rfl
  ·rintro rfl
   have e:=h0.symm.trans hd.srow
   cases e
   exact b rfl,fun k o h0 h1=>by
  refine h.other k o ?_ ?_ h0 h1
  ·rintro rfl
   have e:=h0.symm.trans hd.blk
   exact h1 _ _ _ (Option.some.inj e)
  ·rintro rfl
   have e:=h0.symm.trans hd.srow
   exact h1 _ _ _ (Option.some.inj e)⟩
theorem Ft.keep {w w':World} {k:Nat} {cs:Array Value} {t:TypeId} (h:Ft w w') (hb:Blk w k cs t) (a:t≠70) (b:t≠244) (c:t≠246) (d:t≠164) (e:t≠169) (f:t≠178):Blk w' k cs t:=h.block k cs t _ hb a b c d e f
theorem BdE.kt {w w':World} {B n:Nat} {a:Option Addr} {bs:List Nat} (h:BdE w B a n bs) (hk:Kt w w'):BdE w' B a n bs:=by
 rcases h.2 with h0 | ⟨g,off,cs,fr,rfl,hB,hb⟩
 ·exact ⟨⟨h.1.size,h.1.byte,.inl h0⟩,.inl h0⟩
 ·have hb':=hk.block g cs _ fr hb (by decide) (by decide) (by decide)
  refine ⟨⟨h.1.size,h.1.byte,?_⟩,.inr ⟨g,off,cs,fr,rfl,hB,hb'⟩⟩
  rcases h.1.cells with h0 | ⟨g',o,e,hg,hc⟩
  ·exact .inl h0
  ·cases e
   refine .inr ⟨g,off,rfl,heap_lt hb',fun i hi => ?_⟩
   have:=hc i hi
   rw [cell_of_row w g (off+i) cs _ _ hb] at this
   rw [cell_of_row w' g (off+i) cs _ _ hb']
   exact this
theorem Disk.kt {w w':World} {base g gs:Nat} {wv:Value} {D:Dk} (h:Disk w base g gs wv D) (hk:Kt w w'):Disk w' base g gs wv D:=by
 refine ⟨hk.keep h.blk (by decide) (by decide) (by decide),hk.keep h.srow (by decide) (by decide) (by decide),⟨h.wrow.1,?_⟩,h.bg,h.bs,h.sz,h.sec,h.wts,h.tr,h.ag,h.wl⟩
 rcases h.wrow.2 with h1 | ⟨g',c,cur,a1,a2,a3,r⟩
 ·exact .inl h1
 ·exact .inr ⟨g',c,cur,a1,a2,hk.block g' cur _ _ a3 (by decide) (by decide) (by decide),r⟩
theorem BdE.lower {w:World} {B B' n:Nat} {a:Option Addr} {bs:List Nat} (h:BdE w B a n bs) (hb:B'≤B):BdE w B' a n bs:=by
 rcases h.2 with h0 | ⟨g,off,cs,fr,e,hB,r⟩
 ·exact ⟨h.1,.inl h0⟩
 ·exact ⟨h.1,.inr ⟨g,off,cs,fr,e,⟨Nat.le_trans hb hB.1,hB.2⟩,r⟩⟩
theorem row_set {w:World} {base size n k i:Nat} {e:TypeId} {v u:Value} {xs:List Value} (h:w.ownsRow base e size v n xs) (hk:some k≠v.ownBlock):(w.setCell ⟨k,i,none⟩ u).ownsRow base e size v n xs :=
 own_stay h (fun j hj=>heap_setCell_other w ⟨k,i,none⟩ j u (fun e=>hk (by have e':j=k:=e;rw [← e'];exact hj.symm)))
theorem Rcs.set {w:World} {base k i:Nat} {v u:Value} {L:List Rc} {cs:Array Value} {t:TypeId} (h:Rcs w base v L) (hb:Blk w k cs t) (ht:t=164∨t=169):Rcs (w.setCell ⟨k,i,none⟩ u) base v L :=
 ⟨row_set h.row (own_ne h.row hb (by rcases ht with rfl | rfl <;> decide)),fun r hr=>(h.bd r hr).kt ((Kt.refl w).set hb (by rcases ht with h | h;exact .inl h;exact .inr (.inl h)) i u)⟩
theorem Rcs.below {w w':World} {base:Nat} {v:Value} {L:List Rc} (h:Rcs w base v L) (hb:Below w.heap.size w w'):Rcs w' base v L :=
 ⟨own_stay h.row (fun k hk=>hb.block k (h.row.lt k hk).2),fun r hr=>(h.bd r hr).kt (Kt.of_below hb)⟩
def readF (D:Dk) (at_:Nat):Nat→Nat→Nat→List (Nat×List Nat)→Nat×Nat×List (Nat×List Nat)
 | 0,hi,en,acc=>(hi,en,acc)
 | f+1,hi,en,acc=>match nextF D at_ en hi with
  | none=>(hi,en,acc)
  | some (v,bs,e)=>readF D at_ f v e (acc++[(v,bs)])
theorem gather_gt (D:Dk) (at_:Nat):∀ (cnt i kd:Nat) (all al:List Nat) (e:Nat),gatherL D at_ cnt i kd all=some (al,e)→i<e∧e≤i+cnt
 | 0,i,kd,all,al,e,h=>by cases h
 | cnt+1,i,kd,all,al,e,h=>by
  rw [gatherL] at h
  split at h
  ·split at h
   ·simp only [Option.some.injEq,Prod.mk.injEq] at h
    omega
   ·have:=gather_gt D at_ cnt (i+1) 3 _ al e h
    omega
  ·cases h
theorem next_gt (D:Dk) (at_ en hi v e:Nat) (bs:List Nat) (hen:en≤16) (h:nextF D at_ en hi=some (v,bs,e)):en<e∧e≤16∧hi<v∧v≤1099511627776:=by
 unfold nextF at h
 split at h
 ·cases h
 ·rename_i all e' hg
  split at h
  ·cases h
  ·rename_i hc
   simp only [Option.some.injEq,Prod.mk.injEq] at h
   obtain ⟨h1,h2,h3⟩:=h
   have:=gather_gt D at_ _ _ _ _ _ _ hg
   omega
end
end Go.Proofs.YtoiennkfdjnkbaaGreatDoor
