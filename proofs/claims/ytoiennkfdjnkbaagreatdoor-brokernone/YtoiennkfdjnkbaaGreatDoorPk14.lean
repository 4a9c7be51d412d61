import Derived.Test.YtoiennkfdjnkbaaGreatDoorPk13
set_option maxRecDepth 100000
set_option maxHeartbeats 8000000
namespace Go.Proofs.YtoiennkfdjnkbaaGreatDoor
section
open Go.RowKit
def Row1 (w:World) (g:Nat) (e:TypeId) (cs:List Value):Prop:=∃ cur,Blk w g cur e∧cur.toList.take cs.length=cs
theorem Row1.of {w:World} {g:Nat} {e:TypeId} {cs:List Value} (h:Blk w g cs.toArray e):Row1 w g e cs:=⟨_,h,by simp⟩
theorem Row1.get {cur:Array Value} {cs:List Value} (h:cur.toList.take cs.length=cs) {i:Nat} {v:Value} (hv:cs[i]? = some v):cur.toList[i]? = some v:=by
 have hi:i<cs.length:=(List.getElem?_eq_some_iff.1 hv).1
 rw [← h,List.getElem?_take_of_lt hi] at hv
 exact hv
theorem Row1.cell {w:World} {g:Nat} {e:TypeId} {cs:List Value} (h:Row1 w g e cs) (i:Nat) {v:Value} (hv:cs[i]? = some v):w.cell? ⟨g,i,none⟩=some v:=by
 obtain ⟨cur,hb,ht⟩:=h
 exact hb.cell i (by simpa using Row1.get ht hv)
theorem Row1.free {w:World} {g:Nat} {e:TypeId} {cs:List Value} (h:Row1 w g e cs) (i:Nat):w.frozen? ⟨g,i,none⟩=false:=by
 obtain ⟨cur,hb,_⟩:=h
 exact hb.free i
theorem Row1.lt {w:World} {g:Nat} {e:TypeId} {cs:List Value} (h:Row1 w g e cs):g<w.heap.size:=by
 obtain ⟨cur,hb,_⟩:=h
 exact hb.lt
theorem Row1.stay {w w':World} {g:Nat} {e:TypeId} {cs:List Value} (h:Row1 w g e cs) (hb:Below w.heap.size w w'):Row1 w' g e cs:=by
 obtain ⟨cur,h1,h2⟩:=h
 exact ⟨cur,h1.stay hb,h2⟩
theorem Row1.set {w:World} {g:Nat} {e:TypeId} {cs:List Value} (h:Row1 w g e cs) (i:Nat) (v:Value):Row1 (w.setCell ⟨g,i,none⟩ v) g e (cs.set i v):=by
 obtain ⟨cur,h1,h2⟩:=h
 refine ⟨_,h1.set i v,?_⟩
 rw [List.length_set,Array.toList_setIfInBounds,List.take_set,h2]
theorem Row1.other {w:World} {g:Nat} {e:TypeId} {cs:List Value} (h:Row1 w g e cs) {g' i:Nat} {v:Value} (hne:g≠g'):Row1 (w.setCell ⟨g',i,none⟩ v) g e cs:=by
 obtain ⟨cur,h1,h2⟩:=h
 exact ⟨cur,Blk.other h1 _ _ hne,h2⟩
theorem Row1.range {w:World} {g:Nat} {e:TypeId} {cs:List Value} (h:Row1 w g e cs):w.rangeAt g 0 cs:=fun j v hj=>by
 rw [Nat.zero_add]
 exact h.cell j hj
theorem Row1.of_own {w:World} {B size n:Nat} {e:TypeId} {v:Value} {xs:List Value} (hn:0<n) (hx:xs.length=n * size) (h:w.ownsRow B e size v n xs):∃ g c,v=.slice (some ⟨g,0,none⟩) n c∧n≤c∧B≤g∧Row1 w g e xs:=by
 rcases h.2 with ⟨_,h0⟩ | ⟨g,cp,cur,hv,hb,hg,h4,h5,h6,h7⟩
 ·omega
 ·exact ⟨g,cp,hv,h4,hb,cur,hg,by rw [hx];exact h7⟩
theorem infoBrInt:(Tryz.prog.info? 3).map (fun i=>(i.zero,i.size,i.bytes))=some (some (.int .i64 0),1,8):=by kernel_rfl
theorem br_CloneInt (g n c:Nat) (cs:List Value) (w:World) (hr:Row1 w g 3 cs) (hl:cs.length=n * 1) (h1:∀ u∈cs,u.oneCell'=true) (hn:0<n) (hn2:n≤1000) :
  Calls Tryz.prog 71 #[.slice (some ⟨g,0,none⟩) n c] w fun e w'=>(∃ g' c',e=.returned (.slice (some ⟨g',0,none⟩) n c')∧n≤c'∧w.heap.size≤g'∧Row1 w' g' 3 cs)∧Below w.heap.size w w':=by
 have HR:Hid (Row1 w g 3 cs):=hr
 have HL:Hid (cs.length=n * 1∧∀ u∈cs,u.oneCell'=true):=⟨hl,h1⟩
 obtain ⟨i0,hi,hz0,hz1,hz2⟩:=info_parts infoBrInt
 have HI:Hid (Tryz.prog.info? 3=some i0∧i0.zero=some (.int .i64 0)∧i0.size=1∧i0.bytes=8):=⟨hi,hz0,hz1,hz2⟩
 have HW:Hid ((w.alloc (.cells #[] 3)).ownsRow w.heap.size 3 1 (.slice (some ⟨w.heap.size,0,none⟩) 0 0) 0 []):=World.ownsRow_lit w #[] 0 (Nat.le_refl _) (Nat.zero_le _) (by simp)
 have HC:Hid (∀ j u,cs[j]? = some u→(w.alloc (.cells #[] 3)).cell? ((⟨g,0,none⟩:Addr).add j)=some u):=fun j u hj=>by
  have e:(⟨g,0,none⟩:Addr).add j=⟨g,0+j,none⟩:=by unfold Addr.add;split <;> simp_all
  rw [e,Nat.zero_add]
  exact (HR.out.stay (below_alloc _ _)).cell j hj
 have hq:∀ W:World,(binOp .eql 32 (.slice (some ⟨g,0,none⟩) n c) (.slice none 0 0)).run Tryz.prog W=.ok (.bool false) W:=fun W=>by
  simp only [binOp]
  rw [Sem.run_bind,run_equal_slice_nil W _ _ _ _ _ Tryz.underlying32]
  rfl
 clear hr hl h1 hi hz0 hz1 hz2
 go_enter Tryz.func71,Tryz.ntmps71
 go_wp2_with (at_builtin;refine wpList_append_own _ rfl (.tmp 5) (.tmp 6) 32 rfl w.heap.size 3 i0 (.int .i64 0) 1 8 Tryz.underlying32 HI.out.1 HI.out.2.1 HI.out.2.2.1 HI.out.2.2.2 (by rfl) (by decide) _ 0 [] rfl HW.out ⟨g,0,none⟩ n c cs rfl HL.out.1 HC.out HL.out.2 (by unfold maxLen;omega) (by omega) (by simp) ?_)
 intro v5 w5 ho5 hg5 _
 obtain ⟨g5,c5,hv,hc5,hB5,hR5⟩:=Row1.of_own hn HL.out.1 ho5
 subst hv
 have HF:Hid (Row1 w5 g5 3 cs∧n≤c5∧w.heap.size≤g5):=⟨hR5,hc5,hB5⟩
 have HB:Hid (Below w.heap.size w w5):=(below_alloc w _).grown hg5 (by simp) (fun j hj=>by simp only [Value.ownBlock,Option.some.injEq] at hj;omega)
 clear ho5 hg5 hc5 hB5 hR5
 go_wp2
 go_ret
 exact ⟨⟨g5,c5,rfl,HF.out.2.1,HF.out.2.2,HF.out.1⟩,HB.out⟩
theorem infoBrSub:(Tryz.prog.info? 36).map (fun i=>(i.zero,i.size,i.bytes))=some (some (.agg #[.int .i64 0,.int .i64 0,.slice none 0 0]),3,40):=by kernel_rfl
theorem br_CloneSub (g n c:Nat) (cs:List Value) (w:World) (hr:Row1 w g 36 cs) (hl:cs.length=n * 3) (h1:∀ u∈cs,u.oneCell'=true) (hn:0<n) (hn2:n≤1000) :
  Calls Tryz.prog 72 #[.slice (some ⟨g,0,none⟩) n c] w fun e w'=>(∃ g' c',e=.returned (.slice (some ⟨g',0,none⟩) n c')∧n≤c'∧w.heap.size≤g'∧Row1 w' g' 36 cs)∧Below w.heap.size w w':=by
 have HR:Hid (Row1 w g 36 cs):=hr
 have HL:Hid (cs.length=n * 3∧∀ u∈cs,u.oneCell'=true):=⟨hl,h1⟩
 obtain ⟨i0,hi,hz0,hz1,hz2⟩:=info_parts infoBrSub
 have HI:Hid (Tryz.prog.info? 36=some i0∧i0.zero=some (.agg #[.int .i64 0,.int .i64 0,.slice none 0 0])∧i0.size=3∧i0.bytes=40):=⟨hi,hz0,hz1,hz2⟩
 have HW:Hid ((w.alloc (.cells #[] 36)).ownsRow w.heap.size 36 3 (.slice (some ⟨w.heap.size,0,none⟩) 0 0) 0 []):=World.ownsRow_lit w #[] 0 (Nat.le_refl _) (Nat.zero_le _) (by simp)
 have HC:Hid (∀ j u,cs[j]? = some u→(w.alloc (.cells #[] 36)).cell? ((⟨g,0,none⟩:Addr).add j)=some u):=fun j u hj=>by
  have e:(⟨g,0,none⟩:Addr).add j=⟨g,0+j,none⟩:=by unfold Addr.add;split <;> simp_all
  rw [e,Nat.zero_add]
  exact (HR.out.stay (below_alloc _ _)).cell j hj
 have hq:∀ W:World,(binOp .eql 37 (.slice (some ⟨g,0,none⟩) n c) (.slice none 0 0)).run Tryz.prog W=.ok (.bool false) W:=fun W=>by
  simp only [binOp]
  rw [Sem.run_bind,run_equal_slice_nil W _ _ _ _ _ Tryz.underlying37]
  rfl
 clear hr hl h1 hi hz0 hz1 hz2
 go_enter Tryz.func72,Tryz.ntmps72
 go_wp2_with (at_builtin;refine wpList_append_own _ rfl (.tmp 5) (.tmp 6) 37 rfl w.heap.size 36 i0 (.agg #[.int .i64 0,.int .i64 0,.slice none 0 0]) 3 40 Tryz.underlying37 HI.out.1 HI.out.2.1 HI.out.2.2.1 HI.out.2.2.2 (by rfl) (by decide) _ 0 [] rfl HW.out ⟨g,0,none⟩ n c cs rfl HL.out.1 HC.out HL.out.2 (by unfold maxLen;omega) (by omega) (by simp) ?_)
 intro v5 w5 ho5 hg5 _
 obtain ⟨g5,c5,hv,hc5,hB5,hR5⟩:=Row1.of_own hn HL.out.1 ho5
 subst hv
 have HF:Hid (Row1 w5 g5 36 cs∧n≤c5∧w.heap.size≤g5):=⟨hR5,hc5,hB5⟩
 have HB:Hid (Below w.heap.size w w5):=(below_alloc w _).grown hg5 (by simp) (fun j hj=>by simp only [Value.ownBlock,Option.some.injEq] at hj;omega)
 clear ho5 hg5 hc5 hB5 hR5
 go_wp2
 go_ret
 exact ⟨⟨g5,c5,rfl,HF.out.2.1,HF.out.2.2,HF.out.1⟩,HB.out⟩
theorem infoBrTerm:(Tryz.prog.info? 88).map (fun i=>(i.zero,i.size,i.bytes))=some (some (.agg #[.int .i64 0,.string ⟨#[]⟩,.int .i64 0,.int .i64 0,.int .i64 0,.string ⟨#[]⟩,.bool false,.complex .f64 0 0,.int .i64 0]),9,96):=by kernel_rfl
theorem br_CloneTerm (g n c:Nat) (cs:List Value) (w:World) (hr:Row1 w g 88 cs) (hl:cs.length=n * 9) (h1:∀ u∈cs,u.oneCell'=true) (hn:0<n) (hn2:n≤1000) :
  Calls Tryz.prog 74 #[.slice (some ⟨g,0,none⟩) n c] w fun e w'=>(∃ g' c',e=.returned (.slice (some ⟨g',0,none⟩) n c')∧n≤c'∧w.heap.size≤g'∧Row1 w' g' 88 cs)∧Below w.heap.size w w':=by
 have HR:Hid (Row1 w g 88 cs):=hr
 have HL:Hid (cs.length=n * 9∧∀ u∈cs,u.oneCell'=true):=⟨hl,h1⟩
 obtain ⟨i0,hi,hz0,hz1,hz2⟩:=info_parts infoBrTerm
 have HI:Hid (Tryz.prog.info? 88=some i0∧i0.zero=some (.agg #[.int .i64 0,.string ⟨#[]⟩,.int .i64 0,.int .i64 0,.int .i64 0,.string ⟨#[]⟩,.bool false,.complex .f64 0 0,.int .i64 0])∧i0.size=9∧i0.bytes=96):=⟨hi,hz0,hz1,hz2⟩
 have HW:Hid ((w.alloc (.cells #[] 88)).ownsRow w.heap.size 88 9 (.slice (some ⟨w.heap.size,0,none⟩) 0 0) 0 []):=World.ownsRow_lit w #[] 0 (Nat.le_refl _) (Nat.zero_le _) (by simp)
 have HC:Hid (∀ j u,cs[j]? = some u→(w.alloc (.cells #[] 88)).cell? ((⟨g,0,none⟩:Addr).add j)=some u):=fun j u hj=>by
  have e:(⟨g,0,none⟩:Addr).add j=⟨g,0+j,none⟩:=by unfold Addr.add;split <;> simp_all
  rw [e,Nat.zero_add]
  exact (HR.out.stay (below_alloc _ _)).cell j hj
 have hq:∀ W:World,(binOp .eql 33 (.slice (some ⟨g,0,none⟩) n c) (.slice none 0 0)).run Tryz.prog W=.ok (.bool false) W:=fun W=>by
  simp only [binOp]
  rw [Sem.run_bind,run_equal_slice_nil W _ _ _ _ _ Tryz.underlying33]
  rfl
 clear hr hl h1 hi hz0 hz1 hz2
 go_enter Tryz.func74,Tryz.ntmps74
 go_wp2_with (at_builtin;refine wpList_append_own _ rfl (.tmp 5) (.tmp 6) 33 rfl w.heap.size 88 i0 (.agg #[.int .i64 0,.string ⟨#[]⟩,.int .i64 0,.int .i64 0,.int .i64 0,.string ⟨#[]⟩,.bool false,.complex .f64 0 0,.int .i64 0]) 9 96 Tryz.underlying33 HI.out.1 HI.out.2.1 HI.out.2.2.1 HI.out.2.2.2 (by rfl) (by decide) _ 0 [] rfl HW.out ⟨g,0,none⟩ n c cs rfl HL.out.1 HC.out HL.out.2 (by unfold maxLen;omega) (by omega) (by simp) ?_)
 intro v5 w5 ho5 hg5 _
 obtain ⟨g5,c5,hv,hc5,hB5,hR5⟩:=Row1.of_own hn HL.out.1 ho5
 subst hv
 have HF:Hid (Row1 w5 g5 88 cs∧n≤c5∧w.heap.size≤g5):=⟨hR5,hc5,hB5⟩
 have HB:Hid (Below w.heap.size w w5):=(below_alloc w _).grown hg5 (by simp) (fun j hj=>by simp only [Value.ownBlock,Option.some.injEq] at hj;omega)
 clear ho5 hg5 hc5 hB5 hR5
 go_wp2
 go_ret
 exact ⟨⟨g5,c5,rfl,HF.out.2.1,HF.out.2.2,HF.out.1⟩,HB.out⟩
theorem br_CloneNilLines (w:World):Calls Tryz.prog 70 #[.slice none 0 0] w fun e w'=>e=.returned (.slice none 0 0)∧w'=w:=by
 have hq:∀ W:World,(binOp .eql 31 (.slice none 0 0) (.slice none 0 0)).run Tryz.prog W=.ok (.bool true) W:=fun W=>by
  simp only [binOp]
  rw [Sem.run_bind,run_equal_slice_nil W _ _ _ _ _ Tryz.underlying31]
  rfl
 go_enter Tryz.func70,Tryz.ntmps70
 go_wp2
 go_ret
 exact ⟨rfl,rfl⟩
theorem br_CloneNilField (w:World):Calls Tryz.prog 73 #[.slice none 0 0] w fun e w'=>e=.returned (.slice none 0 0)∧w'=w:=by
 have hq:∀ W:World,(binOp .eql 38 (.slice none 0 0) (.slice none 0 0)).run Tryz.prog W=.ok (.bool true) W:=fun W=>by
  simp only [binOp]
  rw [Sem.run_bind,run_equal_slice_nil W _ _ _ _ _ Tryz.underlying38]
  rfl
 go_enter Tryz.func73,Tryz.ntmps73
 go_wp2
 go_ret
 exact ⟨rfl,rfl⟩
end
section
open Go.RowKit
def yesC:List Value:=[.int .i64 1,.string ⟨#[]⟩,.int .i64 0,.int .i64 0,.int .i64 0,.string ⟨#[]⟩,.bool false,.complex .f64 0 0,.int .i64 0]
def tpV (gp cp gs cs:Nat):Value:=.agg #[.int .i64 1,.slice none 0 0,.slice (some ⟨gp,0,none⟩) 1 cp,.slice (some ⟨gs,0,none⟩) 1 cs,.slice none 0 0]
structure Tpo (w:World) (gp cp gs cs gt ct:Nat):Prop where
 pubs:Row1 w gp 3 [.int .i64 0]
 subs:Row1 w gs 36 [.int .i64 0,.int .i64 0,.slice (some ⟨gt,0,none⟩) 1 ct]
 terms:Row1 w gt 88 yesC
 cp1:1≤cp
 cs1:1≤cs
 ct1:1≤ct
theorem Tpo.stay {w w':World} {gp cp gs cs gt ct:Nat} (h:Tpo w gp cp gs cs gt ct) (hb:Below w.heap.size w w'):Tpo w' gp cp gs cs gt ct:=⟨h.pubs.stay hb,h.subs.stay hb,h.terms.stay hb,h.cp1,h.cs1,h.ct1⟩
theorem br_Index_in (g c:Nat) (x:Int) (w:World) (h:w.cell? ⟨g,0,none⟩=some (.int .i64 x)):Calls Tryz.prog 161 #[.slice (some ⟨g,0,none⟩) 1 c,.int .i64 x] w fun e w'=>e=.returned (.int .i64 0)∧w'=w:=by
 go_enter Tryz.func161,Tryz.ntmps161
 go_wp2_with fail
 refine wp_loop_rounds 1 ?_
 rw [rounds_succ]
 go_wp2
 go_returns
 exact ⟨rfl,rfl⟩
theorem br_Contains_in (g c:Nat) (x:Int) (w:World) (h:w.cell? ⟨g,0,none⟩=some (.int .i64 x)):Calls Tryz.prog 113 #[.slice (some ⟨g,0,none⟩) 1 c,.int .i64 x] w fun e w'=>e=.returned (.bool true)∧w'=w:=by
 have HI:=br_Index_in g c x w h
 go_enter Tryz.func113,Tryz.ntmps113
 go_wp2_with fail
 refine HI.mono ?_
 rintro e w0 ⟨rfl,hw⟩
 rw [hw]
 clear hw w0 HI
 go_wp2
 go_returns
 exact ⟨rfl,rfl⟩
theorem br_schema0 (w:World):Calls Tryz.prog 65 #[.slice none 0 0] w fun e w'=>e=.returned (.int .i64 0)∧w'=w:=by
 go_enter Tryz.func65,Tryz.ntmps65
 go_wp2_with fail
 refine wp_loop_rounds 1 ?_
 rw [rounds_succ]
 go_wp2
 go_returns
 exact ⟨rfl,rfl⟩
theorem br_far0 (gp cp gs cs gt ct:Nat) (w:World) (h:Tpo w gp cp gs cs gt ct):Calls Tryz.prog 69 #[tpV gp cp gs cs,.int .i64 0,.int .i64 0] w fun e w'=>e=.returned (.int .i64 0)∧Below w.heap.size w w':=by
 have HT:Hid (Tpo w gp cp gs cs gt ct):=h
 obtain ⟨W1,HW1⟩:∃ W1,Hid (W1=w.alloc (.cells #[.int .i64 1,.slice none 0 0,.slice (some ⟨gp,0,none⟩) 1 cp,.slice (some ⟨gs,0,none⟩) 1 cs,.slice none 0 0] 40)):=⟨_,rfl⟩
 have HB1:Hid (Below w.heap.size w W1):=by (show Below _ _ _);rw [HW1.out];exact below_alloc _ _
 have HK1:Hid (Blk W1 w.heap.size #[.int .i64 1,.slice none 0 0,.slice (some ⟨gp,0,none⟩) 1 cp,.slice (some ⟨gs,0,none⟩) 1 cs,.slice none 0 0] 40):=by (show Blk _ _ _ _);rw [HW1.out];exact Blk.new _ _ _
 obtain ⟨W2,HW2⟩:∃ W2,Hid (W2=W1.alloc (.cells #[.int .i64 0] 3)):=⟨_,rfl⟩
 have HB2:Hid (Below W1.heap.size W1 W2):=by (show Below _ _ _);rw [HW2.out];exact below_alloc _ _
 have HK2:Hid (Row1 W2 W1.heap.size 3 [.int .i64 0]):=by (show Row1 _ _ _ _);rw [HW2.out];exact Row1.of (Blk.new _ _ _)
 have HX2:Hid (Below w.heap.size w W2):=HB1.out.trans (HB2.out.mono HB1.out.size)
 have c2:W1.cell? ⟨w.heap.size,2,none⟩=some (.slice (some ⟨gp,0,none⟩) 1 cp):=HK1.out.cell 2 rfl
 have p0:W1.cell? ⟨gp,0,none⟩=some (.int .i64 0):=(HT.out.stay HB1.out).pubs.cell 0 rfl
 have HCL:=br_CloneInt W1.heap.size 1 1 [.int .i64 0] W2 HK2.out rfl (by simp [Value.oneCell']) (by decide) (by decide)
 clear h
 unfold tpV
 go_enter Tryz.func69,Tryz.ntmps69
 go_upto_region 1 with fail
 rw [← HW1.out]
 go_upto_region 2 with fail
 rw [← HW2.out]
 clear c2 p0
 go_wp2_with fail
 refine HCL.mono ?_
 rintro e w3 ⟨⟨g3,c3,rfl,hc3,hg3,hr3⟩,hb3⟩
 have HX3:Hid (Below w.heap.size w w3):=HX2.out.trans (hb3.mono HX2.out.size)
 have HCN:=br_Contains_in W1.heap.size 1 0 w3 ((HK2.out.stay hb3).cell 0 rfl)
 clear hc3 hg3 hr3 hb3 HCL
 go_wp2_with fail
 refine wp_loop_rounds 1 ?_
 rw [rounds_succ]
 go_wp2_with fail
 refine HCN.mono ?_
 rintro e w0 ⟨rfl,hw⟩
 rw [hw]
 clear hw w0 HCN
 go_wp2
 go_returns
 exact ⟨rfl,HX3.out⟩
end
section
open Go.RowKit
theorem br_growthY (w:World):Calls Tryz.prog 223 #[.int .i64 1] w fun e w'=>e=.returned (.int .i64 1)∧w'=w:=by
 go_enter Tryz.func223,Tryz.ntmps223
 go_wp2
 go_returns
 exact ⟨rfl,rfl⟩
theorem br_checkTermY (w:World):Calls Tryz.prog 222 #[.agg #[.int .i64 1,.string ⟨#[]⟩,.int .i64 0,.int .i64 0,.int .i64 0,.string ⟨#[]⟩,.bool false,.complex .f64 0 0,.int .i64 0],.int .i64 0] w fun e w'=>e=.returned (.int .i64 0)∧Below w.heap.size w w':=by
 obtain ⟨W1,HW1⟩:∃ W,Hid (W=w.alloc (.cells #[.int .i64 1,.string ⟨#[]⟩,.int .i64 0,.int .i64 0,.int .i64 0,.string ⟨#[]⟩,.bool false,.complex .f64 0 0,.int .i64 0] 88)):=⟨_,rfl⟩
 have HY1:Hid (Below w.heap.size w W1):=by (show Below _ _ _);rw [HW1.out];exact below_alloc _ _
 have HK1:Hid (Row1 W1 w.heap.size 88 [.int .i64 1,.string ⟨#[]⟩,.int .i64 0,.int .i64 0,.int .i64 0,.string ⟨#[]⟩,.bool false,.complex .f64 0 0,.int .i64 0]):=by (show Row1 _ _ _ _);rw [HW1.out];exact Row1.of (Blk.new _ _ _)
 have c0:W1.cell? ⟨w.heap.size,0,none⟩=some (.int .i64 1):=HK1.out.cell 0 rfl
 go_enter Tryz.func222,Tryz.ntmps222
 go_upto_region 1 with fail
 rw [← HW1.out]
 go_wp2
 go_returns
 exact ⟨rfl,HY1.out⟩
theorem br_predCheckY (gt ct:Nat) (w:World) (hg:Row1 w gt 88 [.int .i64 1,.string ⟨#[]⟩,.int .i64 0,.int .i64 0,.int .i64 0,.string ⟨#[]⟩,.bool false,.complex .f64 0 0,.int .i64 0]):Calls Tryz.prog 171 #[.slice (some ⟨gt,0,none⟩) 1 ct] w fun e w'=>e=.returned (.int .i64 0)∧Below w.heap.size w w':=by
 have HG:Hid (Row1 w gt 88 [.int .i64 1,.string ⟨#[]⟩,.int .i64 0,.int .i64 0,.int .i64 0,.string ⟨#[]⟩,.bool false,.complex .f64 0 0,.int .i64 0]):=hg
 have hcx:∀ (a:Addr) (m:Mode) (W:World) (x y:Nat),(store a (.complex .f64 x y) m).run Tryz.prog W=stored Tryz.prog W a (.complex .f64 x y) m:=fun a m W x y=>run_store _ _ _ _ _ rfl
 clear hg
 obtain ⟨W1,HW1⟩:∃ W,Hid (W=w.alloc (.cells #[.int .i64 1,.string ⟨#[]⟩,.int .i64 0,.int .i64 0,.int .i64 0,.string ⟨#[]⟩,.bool false,.complex .f64 0 0,.int .i64 0] 88)):=⟨_,rfl⟩
 have HY1:Hid (Below w.heap.size w W1):=by (show Below _ _ _);rw [HW1.out];exact below_alloc _ _
 have HK1:Hid (Row1 W1 w.heap.size 88 [.int .i64 1,.string ⟨#[]⟩,.int .i64 0,.int .i64 0,.int .i64 0,.string ⟨#[]⟩,.bool false,.complex .f64 0 0,.int .i64 0]):=by (show Row1 _ _ _ _);rw [HW1.out];exact Row1.of (Blk.new _ _ _)
 have HC:=br_checkTermY W1
 go_enter Tryz.func171,Tryz.ntmps171
 go_wp2_with fail
 refine wp_loop_rounds 2 ?_
 rw [rounds_succ]
 go_upto_region 7 with (guard_target =~ wpList _ _ _ (Oper.mk (some 15) _ _ _ _ _ :: _) _ _;refine wpList_load_mid rfl 88 (.tmp 14) rfl gt 0 rfl [.int .i64 1,.string ⟨#[]⟩,.int .i64 0,.int .i64 0,.int .i64 0,.string ⟨#[]⟩,.bool false,.complex .f64 0 0,.int .i64 0] _ HG.out.range Tryz.underlying88 rfl (by rfl) ?_)
 rw [← HW1.out]
 clear hcx
 go_wp2_with (guard_target =~ wpList _ _ _ (Oper.mk (some 16) _ _ _ _ _ :: _) _ _;refine wpList_load_mid rfl 88 (.tmp 5) rfl w.heap.size 0 rfl [.int .i64 1,.string ⟨#[]⟩,.int .i64 0,.int .i64 0,.int .i64 0,.string ⟨#[]⟩,.bool false,.complex .f64 0 0,.int .i64 0] _ HK1.out.range Tryz.underlying88 rfl (by rfl) ?_)
 refine HC.mono ?_
 rintro e w2 ⟨rfl,hb2⟩
 have HB2:Hid (Below w.heap.size w w2):=HY1.out.trans (hb2.mono HY1.out.size)
 have d0:w2.cell? ⟨w.heap.size,0,none⟩=some (.int .i64 1):=(HK1.out.stay hb2).cell 0 rfl
 clear hb2 HC
 have HG2:=br_growthY w2
 go_wp2_with fail
 refine HG2.mono ?_
 rintro e w0 ⟨rfl,hw⟩
 rw [hw]
 clear hw w0 HG2 d0
 go_wp2_with fail
 rw [rounds_succ]
 go_wp2
 go_returns
 exact ⟨rfl,HB2.out⟩
theorem br_FitsY (gt ct:Nat) (w:World) (hg:Row1 w gt 88 [.int .i64 1,.string ⟨#[]⟩,.int .i64 0,.int .i64 0,.int .i64 0,.string ⟨#[]⟩,.bool false,.complex .f64 0 0,.int .i64 0]):Calls Tryz.prog 129 #[.slice none 0 0,.slice (some ⟨gt,0,none⟩) 1 ct] w fun e w'=>e=.returned (.int .i64 0)∧Below w.heap.size w w':=by
 have HG:Hid (Row1 w gt 88 [.int .i64 1,.string ⟨#[]⟩,.int .i64 0,.int .i64 0,.int .i64 0,.string ⟨#[]⟩,.bool false,.complex .f64 0 0,.int .i64 0]):=hg
 have hcx:∀ (a:Addr) (m:Mode) (W:World) (x y:Nat),(store a (.complex .f64 x y) m).run Tryz.prog W=stored Tryz.prog W a (.complex .f64 x y) m:=fun a m W x y=>run_store _ _ _ _ _ rfl
 have HS:=br_schema0 w
 have HC:=br_predCheckY gt ct w hg
 clear hg
 go_enter Tryz.func129,Tryz.ntmps129
 go_wp2_with fail
 refine HS.mono ?_
 rintro e w0 ⟨rfl,hw⟩
 rw [hw]
 clear hw w0 HS
 go_wp2_with fail
 refine HC.mono ?_
 rintro e w1 ⟨rfl,hb1⟩
 have HX1:Hid (Below w.heap.size w w1):=hb1
 have HG1:Hid (Row1 w1 gt 88 [.int .i64 1,.string ⟨#[]⟩,.int .i64 0,.int .i64 0,.int .i64 0,.string ⟨#[]⟩,.bool false,.complex .f64 0 0,.int .i64 0]):=HG.out.stay hb1
 clear hb1 HC
 obtain ⟨W2,HW2⟩:∃ W,Hid (W=w1.alloc (.cells #[.int .i64 1,.string ⟨#[]⟩,.int .i64 0,.int .i64 0,.int .i64 0,.string ⟨#[]⟩,.bool false,.complex .f64 0 0,.int .i64 0] 88)):=⟨_,rfl⟩
 have HY2:Hid (Below w1.heap.size w1 W2):=by (show Below _ _ _);rw [HW2.out];exact below_alloc _ _
 have HK2:Hid (Row1 W2 w1.heap.size 88 [.int .i64 1,.string ⟨#[]⟩,.int .i64 0,.int .i64 0,.int .i64 0,.string ⟨#[]⟩,.bool false,.complex .f64 0 0,.int .i64 0]):=by (show Row1 _ _ _ _);rw [HW2.out];exact Row1.of (Blk.new _ _ _)
 have HX2:Hid (Below w.heap.size w W2):=HX1.out.trans (HY2.out.mono HX1.out.size)
 have c0:W2.cell? ⟨w1.heap.size,0,none⟩=some (.int .i64 1):=HK2.out.cell 0 rfl
 go_wp2_with fail
 refine wp_loop_rounds 2 ?_
 rw [rounds_succ]
 go_upto_region 10 with (guard_target =~ wpList _ _ _ (Oper.mk (some 25) _ _ _ _ _ :: _) _ _;refine wpList_load_mid rfl 88 (.tmp 24) rfl gt 0 rfl [.int .i64 1,.string ⟨#[]⟩,.int .i64 0,.int .i64 0,.int .i64 0,.string ⟨#[]⟩,.bool false,.complex .f64 0 0,.int .i64 0] _ HG1.out.range Tryz.underlying88 rfl (by rfl) ?_)
 rw [← HW2.out]
 clear hcx
 go_wp2_with fail
 rw [rounds_succ]
 go_wp2
 go_returns
 exact ⟨rfl,HX2.out⟩
theorem infoBrTr:(Tryz.prog.info? 226).map (fun i=>(i.zero,i.size,i.bytes))=some (some (.agg #[.slice none 0 0,.slice none 0 0]),2,48):=by kernel_rfl
def TruY (w:World) (v:Value):Prop:=∃ gq cq ga,v=.slice (some ⟨gq,0,none⟩) 1 cq∧Row1 w gq 226 [.slice (some ⟨ga,0,none⟩) 1 1,.slice none 0 0] ∧ Row1 w ga 280 [.slice none 0 0]
theorem br_doneY (w:World):Calls Tryz.prog 130 #[.slice none 0 0,.agg #[.int .i64 1,.string ⟨#[]⟩,.int .i64 0,.int .i64 0,.int .i64 0,.string ⟨#[]⟩,.bool false,.complex .f64 0 0,.int .i64 0],.slice none 0 0] w fun e w'=>Hid (∃ v,e=.returned v∧TruY w' v)∧Below w.heap.size w w':=by
 obtain ⟨W1,HW1⟩:∃ W,Hid (W=w.alloc (.cells #[.int .i64 1,.string ⟨#[]⟩,.int .i64 0,.int .i64 0,.int .i64 0,.string ⟨#[]⟩,.bool false,.complex .f64 0 0,.int .i64 0] 88)):=⟨_,rfl⟩
 have HY1:Hid (Below w.heap.size w W1):=by (show Below _ _ _);rw [HW1.out];exact below_alloc _ _
 have HK1:Hid (Row1 W1 w.heap.size 88 [.int .i64 1,.string ⟨#[]⟩,.int .i64 0,.int .i64 0,.int .i64 0,.string ⟨#[]⟩,.bool false,.complex .f64 0 0,.int .i64 0]):=by (show Row1 _ _ _ _);rw [HW1.out];exact Row1.of (Blk.new _ _ _)
 have c0:W1.cell? ⟨w.heap.size,0,none⟩=some (.int .i64 1):=HK1.out.cell 0 rfl
 obtain ⟨W2,HW2⟩:∃ W,Hid (W=W1.alloc (.cells #[.slice none 0 0] 280)):=⟨_,rfl⟩
 have HY2:Hid (Below W1.heap.size W1 W2):=by (show Below _ _ _);rw [HW2.out];exact below_alloc _ _
 have HK2:Hid (Row1 W2 W1.heap.size 280 [.slice none 0 0]):=by (show Row1 _ _ _ _);rw [HW2.out];exact Row1.of (Blk.new _ _ _)
 obtain ⟨W3,HW3⟩:∃ W,Hid (W=W2.alloc (.cells #[.slice (some ⟨W1.heap.size,0,none⟩) 1 1,.slice none 0 0] 226)):=⟨_,rfl⟩
 have HY3:Hid (Below W2.heap.size W2 W3):=by (show Below _ _ _);rw [HW3.out];exact below_alloc _ _
 have HK3:Hid (Row1 W3 W2.heap.size 226 [.slice (some ⟨W1.heap.size,0,none⟩) 1 1,.slice none 0 0]):=by (show Row1 _ _ _ _);rw [HW3.out];exact Row1.of (Blk.new _ _ _)
 have HX3:Hid (Below w.heap.size w W3):=(HY1.out.trans (HY2.out.mono HY1.out.size)).trans (HY3.out.mono (Nat.le_trans HY1.out.size HY2.out.size))
 obtain ⟨i0,hi,hz0,hz1,hz2⟩:=info_parts infoBrTr
 have HI:Hid (Tryz.prog.info? 226=some i0∧i0.zero=some (.agg #[.slice none 0 0,.slice none 0 0])∧i0.size=2∧i0.bytes=48):=⟨hi,hz0,hz1,hz2⟩
 have HC:Hid (∀ (j:Nat) (u:Value),[Value.slice (some ⟨W1.heap.size,0,none⟩) 1 1,.slice none 0 0][j]? = some u→W3.cell? ((⟨W1.heap.size+1,0,none⟩:Addr).add j)=some u):=fun j u hj=>by
  have e:(⟨W1.heap.size+1,0,none⟩:Addr).add j=⟨W1.heap.size+1,0+j,none⟩:=by unfold Addr.add;split <;> simp_all
  have e2:W2.heap.size=W1.heap.size+1:=by rw [HW2.out];simp
  rw [e,Nat.zero_add,← e2]
  exact HK3.out.cell j hj
 clear hi hz0 hz1 hz2
 go_enter Tryz.func130,Tryz.ntmps130
 go_upto_region 1 with fail
 rw [← HW1.out]
 go_wp2_with (at_builtin;guard_target =~ wpList _ _ _ (Oper.mk (some 19) _ _ _ _ _ :: _) _ _;rw [← HW2.out,← HW3.out];refine wpList_append_own _ rfl (.tmp 15) (.tmp 18) 222 rfl W3.heap.size 226 i0 (.agg #[.slice none 0 0,.slice none 0 0]) 2 48 Tryz.underlying222 HI.out.1 HI.out.2.1 HI.out.2.2.1 HI.out.2.2.2 (by rfl) (by decide) _ 0 [] rfl (World.ownsRow_nil _ _ _ _) ⟨W1.heap.size+1,0,none⟩ 1 1 [.slice (some ⟨W1.heap.size,0,none⟩) 1 1,.slice none 0 0] rfl rfl HC.out (by simp [Value.oneCell']) (by decide) (by decide) (Nat.le_refl _) ?_)
 intro v5 w5 ho5 hg5 _
 obtain ⟨g5,c5,hv,hc5,hB5,hR5⟩:=Row1.of_own (n:=1) (by decide) rfl ho5
 subst hv
 have HB5:Hid (Below W3.heap.size W3 w5):=(Below.refl _ _).grown hg5 (Nat.le_refl _) (fun j hj=>by cases hj)
 have HF:Hid (TruY w5 (.slice (some ⟨g5,0,none⟩) 1 c5)):=⟨g5,c5,_,rfl,hR5,(HK2.out.stay HY3.out).stay HB5.out⟩
 clear ho5 hg5 hc5 hB5 hR5 c0
 go_wp2
 go_returns
 exact ⟨⟨_,rfl,HF.out⟩,HX3.out.trans (HB5.out.mono HX3.out.size)⟩
end
end Go.Proofs.YtoiennkfdjnkbaaGreatDoor
