import Derived.Test.YtoiennkfdjnkbaaGreatDoorPk32
set_option maxRecDepth 100000
set_option maxHeartbeats 8000000
namespace Go.Proofs.YtoiennkfdjnkbaaGreatDoor
set_option maxRecDepth 100000
open Go.RowKit Go.Maps Go.Sort Go.Shelf
variable {Z:Nat→Prop}
theorem take_putH {P:Program} {ops:Array Oper} {Q:Exit→Act→World→Prop} {S:World→Prop} {md:Region.Mode} {i:Nat} {oi:Oper} {v:Value} {fuel:Nat} {listed:Array Bool} {a:Act} {w:World} (d:Option Nat) (hi:ops[i]? = some oi) (hd:oi.dst=d)
  (hs:Region.noSelect ops=true) (hf:Region.free md ops listed i=true) (hr:(Region.ready md ops listed).contains i=true)
  (hQ:∀ c a w,Q (.panic c) (a.put d v) w→Q (.panic c) a w) (hy:YieldsIf P ops S oi v a) (hS:S w)
  (h:wpAnyH P md ops Q S fuel (listed.setIfInBounds i true) (a.put d v) w):wpAnyH P md ops Q S (fuel+1) listed a w:=by
 subst hd
 exact wpAnyH_take hi hs hf hr hQ hy hS h
def passU (K:Int→Int) (I:Int→Option It) (lk u:Int):Prop:=K u=2∨(K u=1∧noHit I lk u)
def NextIs (K:Int→Int) (I:Int→Option It) (lk t is fr to_:Int) (q:It):Prop :=
 ∃ u,t<u∧(∀ v,t<v→v<u→passU K I lk v)∧((is=1∧fr=u∧to_=u∧q.tick=u∧K u=1∧I u=some q∧bits .and .u32 q.for_ lk≠0)∨(is=3∧fr=u∧K u=3∧u≤to_∧(∀ v,u≤v→v≤to_→K v=3)∧K (to_+1)≠3∧q=⟨0,0,[]⟩)∨(is=0∧fr=0∧to_=u - 1∧K u=0∧q=⟨0,0,[]⟩))
theorem NextIs.uniq {K:Int→Int} {I:Int→Option It} {lk t is fr to_ is' fr' to':Int} {q q':It} (h:NextIs K I lk t is fr to_ q) (h':NextIs K I lk t is' fr' to' q'):is=is'∧fr=fr'∧to_=to'∧q=q':=by
 obtain ⟨u,h1,h2,h3⟩:=h
 obtain ⟨u',g1,g2,g3⟩:=h'
 have np:¬ passU K I lk u:=by
  rintro (hp | ⟨hp,hn⟩)
  ·rcases h3 with ⟨_,_,_,_,k,_⟩ | ⟨_,_,k,_⟩ | ⟨_,_,_,k,_⟩ <;> omega
  ·rcases h3 with ⟨_,_,_,_,k,k2,k3⟩ | ⟨_,_,k,_⟩ | ⟨_,_,_,k,_⟩
   ·exact k3 (hn q k2)
   ·omega
   ·omega
 have np':¬ passU K I lk u':=by
  rintro (hp | ⟨hp,hn⟩)
  ·rcases g3 with ⟨_,_,_,_,k,_⟩ | ⟨_,_,k,_⟩ | ⟨_,_,_,k,_⟩ <;> omega
  ·rcases g3 with ⟨_,_,_,_,k,k2,k3⟩ | ⟨_,_,k,_⟩ | ⟨_,_,_,k,_⟩
   ·exact k3 (hn q' k2)
   ·omega
   ·omega
 have e:u=u':=by
  rcases Int.lt_trichotomy u u' with hl | hl | hl
  ·exact absurd (g2 u h1 hl) np
  ·exact hl
  ·exact absurd (h2 u' g1 hl) np'
 subst e
 rcases h3 with ⟨a1,a2,a3,a4,a5,a6,a7⟩ | ⟨a1,a2,a3,a4,a5,a6,a7⟩ | ⟨a1,a2,a3,a4,a5⟩ <;> rcases g3 with ⟨b1,b2,b3,b4,b5,b6,b7⟩ | ⟨b1,b2,b3,b4,b5,b6,b7⟩ | ⟨b1,b2,b3,b4,b5⟩ <;> try omega
 ·rw [a6] at b6
  cases b6
  exact ⟨by omega,by omega,by omega,rfl⟩
 ·refine ⟨by omega,by omega,?_,by rw [a7,b7]⟩
  rcases Int.lt_trichotomy to_ to' with hl | hl | hl
  ·exact absurd (b5 (to_+1) (by omega) (by omega)) a6
  ·exact hl
  ·exact absurd (a5 (to'+1) (by omega) (by omega)) b6
 ·exact ⟨by omega,by omega,by omega,by rw [a5,b5]⟩
structure BdOk (w:World) (ba:Option Addr) (n c:Nat) (bs:List Nat):Prop where
 rd:Rd w ba n bs
 nil_:ba=none→c=0
 lc:n≤c
 cm:c≤9223372036854775807
theorem BdOk.none_ (w:World):BdOk w none 0 0 []:=⟨⟨rfl,fun _ h=>(by cases h),.inl rfl⟩,fun _=>rfl,Nat.le_refl _,Nat.zero_le _⟩
theorem BdOk.of_own {w:World} {B:Nat} {a:Option Addr} {n c:Nat} {bs:List Nat} (h:Own w B a n c bs):BdOk w a n c bs:=by
 have hcl:=h.cap_le
 unfold maxLen at hcl
 exact ⟨h.rd,h.nil_cap',hcl.1,by have:=hcl.2;omega⟩
def StepTold (K:Int→Int) (I:Int→Option It) (lk t:Int) (B:Nat) (w:World) (e:Ending) (w':World):Prop :=
 (∃ (is fr to_:Int) (q:It) (ba:Option Addr) (bc:Nat),e=.returned (.tuple #[.agg #[.int .i64 is,.int .i64 fr,.int .i64 to_,.int .i64 q.tick,.int .u32 q.for_,.slice ba q.body.length bc],.int .i64 0])∧NextIs K I lk t is fr to_ q∧BdOk w' ba q.body.length bc q.body)∧Below B w w'
structure Upto (K:Int→Int) (I:Int→Option It) (lk t next:Int) (r:List Sp) (p:Sp):Prop where
 ahead:t<next
 pass:∀ v,t<v→v<next→passU K I lk v
 at_:∀ v,next≤v→K v=atS r v
 right:RightS p r
theorem st_Next {w:World} {s m:Nat} {l:List Sp} {I:Int→Option It} {a:Option Addr} {n c:Nat} {X:List (Int×Value)} (h:Strm Z w s m l I a n c X) {t id lk:Int} (ht:0≤t∧t≤1099511627776) (hid:1≤id∧id≤32) (hsh:∀ W,(Op.shift BinOp.shl IntKind.u32 1 IntKind.i64 (IntKind.i64.wrap (id - 1))).run Tryz.prog W=.ok (.int .u32 lk) W) :
  Calls Tryz.prog 43 #[.pointer (some ⟨s,0,none⟩),.int .i64 t,.int .i64 id] w fun e w'=>StepTold (atS l) I lk t w.heap.size w e w':=by
 obtain ⟨W1,HW1⟩:∃ W1,Hid (W1=w.alloc (.cells #[.int .i64 0,.int .i64 0,.int .i64 0,.int .i64 0,.int .u32 0,.slice none 0 0] 53)):=⟨_,rfl⟩
 have HX1:Hid (Below w.heap.size w W1):=by (show Below _ _ _);rw [HW1.out];exact below_alloc w _
 have HK1:Hid (Bk W1 w.heap.size #[.int .i64 0,.int .i64 0,.int .i64 0,.int .i64 0,.int .u32 0,.slice none 0 0] 53):=by (show Bk _ _ _ _);rw [HW1.out];exact Bk.new w _ _
 have HS:Hid (Strm Z w s m l I a n c X):=h
 have HS1:Hid (Strm Z W1 s m l I a n c X):=h.stay HX1.out
 have c0:W1.cell? ⟨s,0,none⟩=some (.slice a n c):=HS1.out.stm.blk.cell 0 rfl
 have HNL:Hid (l.length=n):=h.stm.ok.rd.size
 have hn:n≤9223372036854775807:=Nat.le_trans h.stm.ok.lc h.stm.ok.cm
 have HU0:Hid (Upto (atS l) I lk t (t+1) l Sp.zr):=⟨by omega,fun v h1 h2=>by omega,fun v _=>rfl,h.stm.ok.right⟩
 obtain ⟨POST,HPO⟩:∃ P:Ending→World→Prop,Hid (P=fun e w'=>StepTold (atS l) I lk t w.heap.size w e w'):=⟨_,rfl⟩
 have hpost:(fun e w'=>StepTold (atS l) I lk t w.heap.size w e w')=fun e w'=>POST e w':=HPO.out.symm
 rw [hpost]
 obtain ⟨t0,t1⟩:=ht
 obtain ⟨i0,i1⟩:=hid
 have g1:¬ t<0:=by omega
 have g2:¬ (1099511627776:Int)<t:=by omega
 have g3:¬ id<1:=by omega
 have g4:¬ (32:Int)<id:=by omega
 clear hpost h
 go_enter Tryz.func43,Tryz.ntmps43
 go_upto_region 1 with fail
 rw [← HW1.out]
 refine wp_scope_straight ?_
 go_wp2
 refine wp_label ?_
 go_wp2
 go_loopw [8,38] (fun t8 t38 wr=>∃ (i:Nat) (next:Int) (p:Sp),t8=.int .i64 next∧t38=.int .i64 (i:Int)∧i≤n∧1≤next∧next≤1099511627777∧Hid (Upto (atS l) I lk t next (l.drop i) p)∧Hid (Below W1.heap.size W1 wr)) (fun _ t38 _=>n - (intOf t38).toNat)
 case atStart=>exact ⟨0,t+1,Sp.zr,rfl,rfl,Nat.zero_le _,by omega,by omega,HU0,Below.refl _ _⟩
 case round =>
  obtain ⟨i,next,p,rfl,rfl,hi,hn1,hn2,HU,HB⟩:=hrel
  clear c0
  have HBW:Hid (Below w.heap.size w wr):=HX1.out.trans (HB.out.mono HX1.out.size)
  have HSR:Hid (Strm Z wr s m l I a n c X):=HS.out.stay HBW.out
  by_cases hlt:i<n
  ·have hlt':(i:Int)<(n:Int):=by omega
   have gi:(0:Int)≤(i:Int):=by omega
   obtain ⟨g,o,rfl,hg,q,hq,d0,d1,d2⟩:=HSR.out.stm.ok.rd.at_ i hlt
   have HD:Hid (l.drop i=q :: l.drop (i+1)):=drop_at hq
   obtain ⟨qf,qt,qi⟩:=q
   simp only at d0 d1 d2
   have HUD:Hid (Upto (atS l) I lk t next (⟨qf,qt,qi⟩ :: l.drop (i+1)) p):=by (show Upto _ _ _ _ _ _ _);rw [← HD.out];exact HU.out
   obtain ⟨a1,a2,a3,a4,a5,a6,a7⟩:=HUD.out.right
   simp only at a1 a2 a3 a4 a5
   have HR7:Hid (RightS ⟨qf,qt,qi⟩ (l.drop (i+1))):=a7
   clear a6 a7 hq hg
   obtain ⟨W5,HW5⟩:∃ W5,Hid (W5=wr.alloc (.cells #[.int .i64 qf,.int .i64 qt,.int .i64 qi] 186)):=⟨_,rfl⟩
   have HBR5:Hid (Below wr.heap.size wr W5):=by (show Below _ _ _);rw [HW5.out];exact below_alloc wr _
   have HB5:Hid (Below W1.heap.size W1 W5):=HB.out.trans (HBR5.out.mono HB.out.size)
   have HBW5:Hid (Below w.heap.size w W5):=HBW.out.trans (HBR5.out.mono HBW.out.size)
   have HK5:Hid (Bk W5 wr.heap.size #[.int .i64 qf,.int .i64 qt,.int .i64 qi] 186):=by (show Bk _ _ _ _);rw [HW5.out];exact Bk.new wr _ _
   have HKS:Hid (Bk W5 w.heap.size #[.int .i64 0,.int .i64 0,.int .i64 0,.int .i64 0,.int .u32 0,.slice none 0 0] 53):=HK1.out.stay HB5.out
   have k0:W5.cell? ⟨wr.heap.size,0,none⟩=some (.int .i64 qf):=HK5.out.cell 0 rfl
   have k1:W5.cell? ⟨wr.heap.size,1,none⟩=some (.int .i64 qt):=HK5.out.cell 1 rfl
   have k2:W5.cell? ⟨wr.heap.size,2,none⟩=some (.int .i64 qi):=HK5.out.cell 2 rfl
   go_upto_region 9 with fail
   rw [← HW5.out]
   clear d0 d1 d2
   by_cases hto:qt<next
   ·have HUN:Hid (Upto (atS l) I lk t next (l.drop (i+1)) ⟨qf,qt,qi⟩):=⟨HUD.out.ahead,HUD.out.pass,fun v hv=>by rw [HUD.out.at_ v hv,atS_out (by show ¬ (qf≤v∧v≤qt);omega)],HR7.out⟩
    go_wp2
    go_roundw
    case rel=>exact ⟨i+1,next,⟨qf,qt,qi⟩,rfl,by go_num,by omega,by omega,by omega,HUN,HB5⟩
    case measure=>simp [intOf];omega
   ·by_cases hfr:next<qf
    ·have HNX:Hid (NextIs (atS l) I lk t 0 0 (next - 1) ⟨0,0,[]⟩):=⟨next,HUD.out.ahead,HUD.out.pass,.inr (.inr ⟨rfl,rfl,rfl,by rw [HUD.out.at_ next (Int.le_refl _),atS_out (by show ¬ (qf≤next∧next≤qt);omega)];exact atS_low HR7.out (by show next≤qt;omega),rfl⟩)⟩
     have hgn:Bk W5 w.heap.size #[.int .i64 0,.int .i64 0,.int .i64 0,.int .i64 0,.int .u32 0,.slice none 0 0] 53:=HKS.out
     have n0:W5.cell? ⟨w.heap.size,0,none⟩=some (.int .i64 0):=hgn.cell 0 rfl
     have n1:W5.cell? ⟨w.heap.size,1,none⟩=some (.int .i64 0):=hgn.cell 1 rfl
     have n2:W5.cell? ⟨w.heap.size,2,none⟩=some (.int .i64 0):=hgn.cell 2 rfl
     have n3:W5.cell? ⟨w.heap.size,3,none⟩=some (.int .i64 0):=hgn.cell 3 rfl
     have n4:W5.cell? ⟨w.heap.size,4,none⟩=some (.int .u32 0):=hgn.cell 4 rfl
     have n5:W5.cell? ⟨w.heap.size,5,none⟩=some (.slice none 0 0):=hgn.cell 5 rfl
     have nf0:=hgn.free 0
     have nf1:=hgn.free 1
     have nf2:=hgn.free 2
     have nf3:=hgn.free 3
     have nf4:=hgn.free 4
     have nf5:=hgn.free 5
     have HGZ:Hid (Bk ((((((W5.setCell ⟨w.heap.size,0,none⟩ (.int .i64 0)).setCell ⟨w.heap.size,1,none⟩ (.int .i64 0)).setCell ⟨w.heap.size,2,none⟩ (.int .i64 (next - 1))).setCell ⟨w.heap.size,3,none⟩ (.int .i64 0)).setCell ⟨w.heap.size,4,none⟩ (.int .u32 0)).setCell ⟨w.heap.size,5,none⟩ (.slice none 0 0)) w.heap.size #[.int .i64 0,.int .i64 0,.int .i64 (next - 1),.int .i64 0,.int .u32 0,.slice none 0 0] 53):=(((((hgn.set 0 _).set 1 _).set 2 _).set 3 _).set 4 _).set 5 _
     have HBZ:Hid (Below w.heap.size w ((((((W5.setCell ⟨w.heap.size,0,none⟩ (.int .i64 0)).setCell ⟨w.heap.size,1,none⟩ (.int .i64 0)).setCell ⟨w.heap.size,2,none⟩ (.int .i64 (next - 1))).setCell ⟨w.heap.size,3,none⟩ (.int .i64 0)).setCell ⟨w.heap.size,4,none⟩ (.int .u32 0)).setCell ⟨w.heap.size,5,none⟩ (.slice none 0 0))):=(((((HBW5.out.setCell (Nat.le_refl _) _).setCell (Nat.le_refl _) _).setCell (Nat.le_refl _) _).setCell (Nat.le_refl _) _).setCell (Nat.le_refl _) _).setCell (Nat.le_refl _) _
     clear hgn
     go_wp2
     refine bodyPost_ret (results_next (by rfl) (by rfl) HGZ.out) rfl ?_
     rw [HPO.out]
     exact ⟨⟨0,0,next - 1,⟨0,0,[]⟩,none,0,rfl,HNX.out,BdOk.none_ _⟩,HBZ.out⟩
    ·by_cases h3:qi=3
     ·subst h3
      have HNX:Hid (NextIs (atS l) I lk t 3 next qt ⟨0,0,[]⟩):=⟨next,HUD.out.ahead,HUD.out.pass,.inr (.inl ⟨rfl,rfl,by rw [HUD.out.at_ next (Int.le_refl _)];exact atS_in (by show qf≤next;omega) (by show next≤qt;omega),by omega,fun v h1 h2=>by rw [HUD.out.at_ v h1];exact atS_in (by show qf≤v;omega) h2,by rw [HUD.out.at_ (qt+1) (by omega),atS_out (by show ¬ (qf≤qt+1∧qt+1≤qt);omega)];exact atS_next HR7.out (by show (3:Int)≠0;decide),rfl⟩)⟩
      have hgn:Bk W5 w.heap.size #[.int .i64 0,.int .i64 0,.int .i64 0,.int .i64 0,.int .u32 0,.slice none 0 0] 53:=HKS.out
      have n0:W5.cell? ⟨w.heap.size,0,none⟩=some (.int .i64 0):=hgn.cell 0 rfl
      have n1:W5.cell? ⟨w.heap.size,1,none⟩=some (.int .i64 0):=hgn.cell 1 rfl
      have n2:W5.cell? ⟨w.heap.size,2,none⟩=some (.int .i64 0):=hgn.cell 2 rfl
      have n3:W5.cell? ⟨w.heap.size,3,none⟩=some (.int .i64 0):=hgn.cell 3 rfl
      have n4:W5.cell? ⟨w.heap.size,4,none⟩=some (.int .u32 0):=hgn.cell 4 rfl
      have n5:W5.cell? ⟨w.heap.size,5,none⟩=some (.slice none 0 0):=hgn.cell 5 rfl
      have nf0:=hgn.free 0
      have nf1:=hgn.free 1
      have nf2:=hgn.free 2
      have nf3:=hgn.free 3
      have nf4:=hgn.free 4
      have nf5:=hgn.free 5
      have HGZ:Hid (Bk ((((((W5.setCell ⟨w.heap.size,0,none⟩ (.int .i64 3)).setCell ⟨w.heap.size,1,none⟩ (.int .i64 next)).setCell ⟨w.heap.size,2,none⟩ (.int .i64 qt)).setCell ⟨w.heap.size,3,none⟩ (.int .i64 0)).setCell ⟨w.heap.size,4,none⟩ (.int .u32 0)).setCell ⟨w.heap.size,5,none⟩ (.slice none 0 0)) w.heap.size #[.int .i64 3,.int .i64 next,.int .i64 qt,.int .i64 0,.int .u32 0,.slice none 0 0] 53):=(((((hgn.set 0 _).set 1 _).set 2 _).set 3 _).set 4 _).set 5 _
      have HBZ:Hid (Below w.heap.size w ((((((W5.setCell ⟨w.heap.size,0,none⟩ (.int .i64 3)).setCell ⟨w.heap.size,1,none⟩ (.int .i64 next)).setCell ⟨w.heap.size,2,none⟩ (.int .i64 qt)).setCell ⟨w.heap.size,3,none⟩ (.int .i64 0)).setCell ⟨w.heap.size,4,none⟩ (.int .u32 0)).setCell ⟨w.heap.size,5,none⟩ (.slice none 0 0))):=(((((HBW5.out.setCell (Nat.le_refl _) _).setCell (Nat.le_refl _) _).setCell (Nat.le_refl _) _).setCell (Nat.le_refl _) _).setCell (Nat.le_refl _) _).setCell (Nat.le_refl _) _
      clear hgn
      go_wp2
      refine bodyPost_ret (results_next (by rfl) (by rfl) HGZ.out) rfl ?_
      rw [HPO.out]
      exact ⟨⟨3,next,qt,⟨0,0,[]⟩,none,0,rfl,HNX.out,BdOk.none_ _⟩,HBZ.out⟩
     ·by_cases h1:qi=1
      ·subst h1
       have HDT:Hid (∀ v,next≤v→v≤qt→atS l v=1):=fun v h1 h2=>by rw [HUD.out.at_ v h1];exact atS_in (by show qf≤v;omega) h2
       have HFS:Hid (∀ W,Below w.heap.size w W→Calls Tryz.prog 104 #[.pointer (some ⟨s,0,none⟩),.int .i64 next,.int .i64 qt,.int .u32 lk] W fun e w'=>(∃ (x0 x1:Int) (xa:Option Addr) (xn xc:Nat) (bb:Bool),e=.returned (.tuple #[.agg #[.int .i64 x0,.int .u32 x1,.slice xa xn xc],.bool bb])∧Hid (FirstIs I next qt lk w x0 x1 xa xn bb))∧Below W.heap.size W w'):=fun W hW=>(st_first HS.out hW ⟨by omega,by omega,by omega⟩ HDT.out).mono fun e w' h=>⟨h.1.one,h.2⟩
       have x1:W5.drew.cell? ⟨wr.heap.size,1,none⟩=some (.int .i64 qt):=HK5.out.cell 1 rfl
       have hbz:=(below_alloc W5 (.cells #[.int .i64 0,.int .u32 0,.slice none 0 0] 51)).drew
       have x1b:(W5.alloc (.cells #[.int .i64 0,.int .u32 0,.slice none 0 0] 51)).drew.cell? ⟨wr.heap.size,1,none⟩=some (.int .i64 qt):=(HK5.out.stay hbz).cell 1 rfl
       have HBZ:Hid (Below W5.heap.size W5 (W5.alloc (.cells #[.int .i64 0,.int .u32 0,.slice none 0 0] 51)).drew):=hbz
       have HZK:Hid (Bk (W5.alloc (.cells #[.int .i64 0,.int .u32 0,.slice none 0 0] 51)).drew W5.heap.size #[.int .i64 0,.int .u32 0,.slice none 0 0] 51):=Bk.new W5 _ _
       clear hbz
       go_upto_region 14 with fail
       go_cut [11,12] from 39 to 86 (fun v11 v12 wx=>∃ (q11:Nat) (x0 x1:Int) (xa:Option Addr) (xn xc:Nat) (bb:Bool),v11=.pointer (some ⟨q11,0,none⟩)∧v12=.bool bb∧Hid (Bk wx q11 #[.int .i64 x0,.int .u32 x1,.slice xa xn xc] 51)∧Hid (W5.heap.size≤q11)∧Hid (FirstIs I next qt lk w x0 x1 xa xn bb)∧Hid (Below W5.heap.size W5 wx))
       case first =>
        rename_i hJ hM
        go_region_law (first
         | (go_simp;go_at_call 104;first
           | (refine (HFS.out W5.drew (HBW5.out.trans ((Below.refl _ _).drew.mono HBW5.out.size))).mono ?_;rintro e w6 ⟨⟨y0,y1,ya,yn,yc,bb,rfl,HFI⟩,hb6⟩;have HB6:Hid (Below W5.heap.size W5 w6):=(Below.refl W5.heap.size W5).drew.trans hb6;clear hb6)
           | (refine (HFS.out (W5.alloc (.cells #[.int .i64 0,.int .u32 0,.slice none 0 0] 51)).drew (HBW5.out.trans (HBZ.out.mono HBW5.out.size))).mono ?_;rintro e w6 ⟨⟨y0,y1,ya,yn,yc,bb,rfl,HFI⟩,hb6⟩;have HB6:Hid (Below W5.heap.size W5 w6):=HBZ.out.trans (hb6.mono HBZ.out.size);have hk6:=HZK.out.stay hb6;have v0:w6.cell? ⟨W5.heap.size,0,none⟩=some (.int .i64 0):=hk6.cell 0 rfl;have v1:w6.cell? ⟨W5.heap.size,1,none⟩=some (.int .u32 0):=hk6.cell 1 rfl;have v2:w6.cell? ⟨W5.heap.size,2,none⟩=some (.slice none 0 0):=hk6.cell 2 rfl;have z0:=hk6.free 0;have z1:=hk6.free 1;have z2:=hk6.free 2;have HKZ:Hid (Bk (((w6.setCell ⟨W5.heap.size,0,none⟩ (.int .i64 y0)).setCell ⟨W5.heap.size,1,none⟩ (.int .u32 y1)).setCell ⟨W5.heap.size,2,none⟩ (.slice ya yn yc)) W5.heap.size #[.int .i64 y0,.int .u32 y1,.slice ya yn yc] 51):=((hk6.set 0 (.int .i64 y0)).set 1 (.int .u32 y1)).set 2 (.slice ya yn yc);clear hb6 hk6)))
        all_goals (
         refine hM _ _ ?_
         go_meet
         first
          | exact ⟨w6.heap.size,y0,y1,ya,yn,yc,bb,rfl,rfl,Bk.new w6 _ _,HB6.out.size,HFI,HB6.out.alloc HB6.out.size _⟩
          | exact ⟨W5.heap.size,y0,y1,ya,yn,yc,bb,rfl,rfl,HKZ,Nat.le_refl _,HFI,((HB6.out.setCell (Nat.le_refl _) _).setCell (Nat.le_refl _) _).setCell (Nat.le_refl _) _⟩)
       case rest =>
       obtain ⟨q11,y0,y1,ya,yn,yc,bb,hv11,hv12,HK6,HQ6,HFI,HB6⟩:=hcut
       obtain ⟨w6,hwp⟩:∃ W,W=wc:=⟨_,rfl⟩
       subst hwp
       subst hv11 hv12
       clear x1 x1b k0 k1 k2
       have HBW6:Hid (Below W1.heap.size W1 w6):=HB5.out.trans (HB6.out.mono HB5.out.size)
       have HBZ6:Hid (Below w.heap.size w w6):=HBW5.out.trans (HB6.out.mono HBW5.out.size)
       cases bb with
       | true =>
        obtain ⟨qq,e0,e1,e2,hq1,hq2,hq3,hq4,hq5,hq6⟩:∃ q:It,y0=q.tick∧y1=q.for_∧yn=q.body.length∧I q.tick=some q∧(next≤q.tick∧q.tick≤qt)∧bits .and .u32 q.for_ lk≠0∧q.body.length≤400∧(∀ u,next≤u→u<q.tick→noHit I lk u)∧Rd w ya q.body.length q.body:=by
         rcases HFI.out with ⟨_,h⟩ | ⟨h,_⟩
         ·exact h
         ·cases h
        have HNX:Hid (NextIs (atS l) I lk t 1 y0 y0 qq):=⟨y0,by rw [e0];have:=HUD.out.ahead;omega,fun v v1 v2=>by
         by_cases hv:v<next
         ·exact HUD.out.pass v v1 hv
         ·exact .inr ⟨HDT.out v (by omega) (by omega),hq5 v (by omega) (by omega)⟩,.inl ⟨rfl,rfl,rfl,e0.symm,HDT.out y0 (by omega) (by omega),by rw [e0];exact hq1,hq3⟩⟩
        have HEQ:Hid (y0=qq.tick∧y1=qq.for_∧yn=qq.body.length):=⟨e0,e1,e2⟩
        have hyn:yn≤400:=by omega
        have HR6:Hid (Rd w6.drew ya yn qq.body):=by (show Rd _ _ _ _);rw [e2];exact hq6.below (HBZ6.out.trans ((Below.refl _ _).drew.mono HBZ6.out.size))
        have HG6:Hid (Bk w6 w.heap.size #[.int .i64 0,.int .i64 0,.int .i64 0,.int .i64 0,.int .u32 0,.slice none 0 0] 53):=HK1.out.stay HBW6.out
        have hsz6:w.heap.size≤w6.heap.size:=HBZ6.out.size
        clear e0 e1 e2 hq1 hq2 hq3 hq4 hq5 hq6
        have HNQ:Hid (q11≠w.heap.size):=by (show _≠_);have h1:=HQ6.out;have h2:=HK1.out.lt;have h3:=HB5.out.size;omega
        have j0:w6.cell? ⟨q11,0,none⟩=some (.int .i64 y0):=HK6.out.cell 0 rfl
        have j1:w6.cell? ⟨q11,1,none⟩=some (.int .u32 y1):=HK6.out.cell 1 rfl
        have j2:w6.cell? ⟨q11,2,none⟩=some (.slice ya yn yc):=HK6.out.cell 2 rfl
        go_upto_region 16 with fail
        refine wp_region_held_drew (S:=fun w'=>w'.cell? ⟨q11,0,none⟩=some (.int .i64 y0)∧w'.cell? ⟨q11,1,none⟩=some (.int .u32 y1)∧w'.cell? ⟨q11,2,none⟩=some (.slice ya yn yc)) (by kernel_rfl) (⟨j0,j1,j2⟩) (fun hHeld => ?_)
        clear j0 j1 j2
        refine take_putH (i:=0) (v:=?_) (some 76) rfl (by kernel_rfl) (by kernel_rfl) (by kernel_rfl) (by kernel_rfl) (fun _ _ _ h=>h) (Or.inl ⟨by rfl,?_⟩) hHeld ?_
        rotate_left
        ·(intro wS hSw;obtain ⟨z0,z1,z2⟩:=hSw;go_simp;try with_reducible rfl)
        try simp only [Act.put,List.setIfInBounds_toArray,List.set_cons_zero,List.set_cons_succ]
        refine take_putH (i:=1) (v:=?_) (some 77) rfl (by kernel_rfl) (by kernel_rfl) (by kernel_rfl) (by kernel_rfl) (fun _ _ _ h=>h) (Or.inl ⟨by rfl,?_⟩) hHeld ?_
        rotate_left
        ·(intro wS hSw;obtain ⟨z0,z1,z2⟩:=hSw;go_simp;try with_reducible rfl)
        try simp only [Act.put,List.setIfInBounds_toArray,List.set_cons_zero,List.set_cons_succ]
        refine take_putH (i:=2) (v:=?_) (some 78) rfl (by kernel_rfl) (by kernel_rfl) (by kernel_rfl) (by kernel_rfl) (fun _ _ _ h=>h) (Or.inl ⟨by rfl,?_⟩) hHeld ?_
        rotate_left
        ·(intro wS hSw;obtain ⟨z0,z1,z2⟩:=hSw;go_simp;try with_reducible rfl)
        try simp only [Act.put,List.setIfInBounds_toArray,List.set_cons_zero,List.set_cons_succ]
        refine take_putH (i:=3) (v:=?_) (some 79) rfl (by kernel_rfl) (by kernel_rfl) (by kernel_rfl) (by kernel_rfl) (fun _ _ _ h=>h) (Or.inl ⟨by rfl,?_⟩) hHeld ?_
        rotate_left
        ·(intro wS hSw;obtain ⟨z0,z1,z2⟩:=hSw;go_simp;try with_reducible rfl)
        try simp only [Act.put,List.setIfInBounds_toArray,List.set_cons_zero,List.set_cons_succ]
        refine take_putH (i:=4) (v:=?_) (some 80) rfl (by kernel_rfl) (by kernel_rfl) (by kernel_rfl) (by kernel_rfl) (fun _ _ _ h=>h) (Or.inl ⟨by rfl,?_⟩) hHeld ?_
        rotate_left
        ·(intro wS hSw;obtain ⟨z0,z1,z2⟩:=hSw;go_simp;try with_reducible rfl)
        try simp only [Act.put,List.setIfInBounds_toArray,List.set_cons_zero,List.set_cons_succ]
        refine wpAnyH_ready (rs:=[5]) (by kernel_rfl) (by simp) ?_
        refine AllReadyH.cons rfl (fun K hK => ?_) AllReadyH.nil
        go_simp
        refine (st_cloned y0 y1 ya yn yc qq.body w6.drew HR6.out (by omega)).mono ?_
        rintro e w7 ⟨ba',bc',rfl,ho7,hb7⟩
        have HO7:Hid (Own w7 w6.heap.size ba' yn bc' qq.body):=ho7
        have HB7:Hid (Below w6.heap.size w6 w7):=(Below.refl w6.heap.size w6).drew.trans hb7
        have hk7:=HK6.out.stay HB7.out
        have hH7:Hid (w7.cell? ⟨q11,0,none⟩=some (.int .i64 y0)∧w7.cell? ⟨q11,1,none⟩=some (.int .u32 y1)∧w7.cell? ⟨q11,2,none⟩=some (.slice ya yn yc)):=⟨hk7.cell 0 rfl,hk7.cell 1 rfl,hk7.cell 2 rfl⟩
        have HG7:Hid (Bk w7 w.heap.size #[.int .i64 0,.int .i64 0,.int .i64 0,.int .i64 0,.int .u32 0,.slice none 0 0] 53):=HG6.out.stay HB7.out
        have HKZ:Hid (Bk w7 q11 #[.int .i64 y0,.int .u32 y1,.slice ya yn yc] 51):=hk7
        clear ho7 hb7 hk7 hHeld
        refine hK.out _ _ hH7.out (fun _ => ?_)
        clear hK K
        try simp only [Act.put,List.getElem_toArray,List.getElem_cons_succ,List.getElem_cons_zero,List.setIfInBounds_toArray,List.set_cons_zero,List.set_cons_succ]
        refine take_putH (i:=6) (v:=?_) (some 82) rfl (by kernel_rfl) (by kernel_rfl) (by kernel_rfl) (by kernel_rfl) (fun _ _ _ h=>h) (Or.inl ⟨by rfl,?_⟩) hH7.out ?_
        rotate_left
        ·(intro wS hSw;obtain ⟨z0,z1,z2⟩:=hSw;go_simp;try with_reducible rfl)
        try simp only [Act.put,List.setIfInBounds_toArray,List.set_cons_zero,List.set_cons_succ]
        have n0:w7.cell? ⟨w.heap.size,0,none⟩=some (.int .i64 0):=HG7.out.cell 0 rfl
        have n1:w7.cell? ⟨w.heap.size,1,none⟩=some (.int .i64 0):=HG7.out.cell 1 rfl
        have n2:w7.cell? ⟨w.heap.size,2,none⟩=some (.int .i64 0):=HG7.out.cell 2 rfl
        have n3:w7.cell? ⟨w.heap.size,3,none⟩=some (.int .i64 0):=HG7.out.cell 3 rfl
        have n4:w7.cell? ⟨w.heap.size,4,none⟩=some (.int .u32 0):=HG7.out.cell 4 rfl
        have n5:w7.cell? ⟨w.heap.size,5,none⟩=some (.slice none 0 0):=HG7.out.cell 5 rfl
        have nf0:=HG7.out.free 0
        have nf1:=HG7.out.free 1
        have nf2:=HG7.out.free 2
        have nf3:=HG7.out.free 3
        have nf4:=HG7.out.free 4
        have nf5:=HG7.out.free 5
        obtain ⟨w8,HW8⟩:∃ W,Hid (W=((((((w7.setCell ⟨w.heap.size,0,none⟩ (.int .i64 1)).setCell ⟨w.heap.size,1,none⟩ (.int .i64 y0)).setCell ⟨w.heap.size,2,none⟩ (.int .i64 y0)).setCell ⟨w.heap.size,3,none⟩ (.int .i64 y0)).setCell ⟨w.heap.size,4,none⟩ (.int .u32 y1)).setCell ⟨w.heap.size,5,none⟩ (.slice ba' yn bc'))):=⟨_,rfl⟩
        have HGZ:Hid (Bk w8 w.heap.size #[.int .i64 1,.int .i64 y0,.int .i64 y0,.int .i64 y0,.int .u32 y1,.slice ba' yn bc'] 53):=by (show Bk _ _ _ _);rw [HW8.out];exact (((((HG7.out.set 0 _).set 1 _).set 2 _).set 3 _).set 4 _).set 5 _
        have hkz:Bk w8 q11 #[.int .i64 y0,.int .u32 y1,.slice ya yn yc] 51:=by rw [HW8.out];exact (((((HKZ.out.other _ _ HNQ.out).other _ _ HNQ.out).other _ _ HNQ.out).other _ _ HNQ.out).other _ _ HNQ.out).other _ _ HNQ.out
        have hH8:Hid (w8.cell? ⟨q11,0,none⟩=some (.int .i64 y0)∧w8.cell? ⟨q11,1,none⟩=some (.int .u32 y1)∧w8.cell? ⟨q11,2,none⟩=some (.slice ya yn yc)):=⟨hkz.cell 0 rfl,hkz.cell 1 rfl,hkz.cell 2 rfl⟩
        clear hkz
        refine wpAnyH_ready (rs:=[7]) (by kernel_rfl) (by simp) ?_
        refine AllReadyH.cons rfl (fun K hK => ?_) AllReadyH.nil
        go_simp
        rw [← HW8.out]
        refine hK.out _ _ hH8.out (fun _ => ?_)
        clear hK K
        try simp only [Act.put,List.getElem_toArray,List.getElem_cons_succ,List.getElem_cons_zero,List.setIfInBounds_toArray,List.set_cons_zero,List.set_cons_succ]
        clear n0 n1 n2 n3 n4 n5 nf0 nf1 nf2 nf3 nf4 nf5
        refine take_putH (i:=8) (v:=?_) (some 7) rfl (by kernel_rfl) (by kernel_rfl) (by kernel_rfl) (by kernel_rfl) (fun _ _ _ h=>h) (Or.inl ⟨by rfl,?_⟩) hH8.out ?_
        rotate_left
        ·(intro wS hSw;obtain ⟨z0,z1,z2⟩:=hSw;go_simp;try with_reducible rfl)
        try simp only [Act.put,List.setIfInBounds_toArray,List.set_cons_zero,List.set_cons_succ]
        refine wpAnyH_done (by kernel_rfl) ?_ _
        go_wp2
        try simp only [Exit.noGoto]
        refine bodyPost_ret (results_next (by rfl) (by rfl) HGZ.out) rfl ?_
        rw [HPO.out]
        have hb7:Below w.heap.size w w7:=HBZ6.out.trans (HB7.out.mono HBZ6.out.size)
        obtain ⟨e0,e1,e2⟩:=HEQ.out
        have hlt:w.heap.size<w6.heap.size:=HG6.out.lt
        have hown:Own w8 w6.heap.size ba' yn bc' qq.body:=by rw [HW8.out];exact ⟨ownsRow_setCell_below (ownsRow_setCell_below (ownsRow_setCell_below (ownsRow_setCell_below (ownsRow_setCell_below (ownsRow_setCell_below HO7.out.row (a:=⟨w.heap.size,0,none⟩) hlt _) (a:=⟨w.heap.size,1,none⟩) hlt _) (a:=⟨w.heap.size,2,none⟩) hlt _) (a:=⟨w.heap.size,3,none⟩) hlt _) (a:=⟨w.heap.size,4,none⟩) hlt _) (a:=⟨w.heap.size,5,none⟩) hlt _,HO7.out.byte⟩
        refine ⟨⟨1,y0,y0,qq,ba',bc',?_,HNX.out,?_⟩,by rw [HW8.out];exact (((((hb7.setCell (Nat.le_refl _) _).setCell (Nat.le_refl _) _).setCell (Nat.le_refl _) _).setCell (Nat.le_refl _) _).setCell (Nat.le_refl _) _).setCell (Nat.le_refl _) _⟩
        ·rw [← e0,← e1,← e2]
         rfl
        ·rw [← e2]
         exact BdOk.of_own hown
       | false =>
        have HNO:Hid (∀ u,next≤u→u≤qt→noHit I lk u):=by
         rcases HFI.out with ⟨h,_⟩ | ⟨_,h⟩
         ·cases h
         ·exact h
        have HUN:Hid (Upto (atS l) I lk t (qt+1) (l.drop (i+1)) ⟨qf,qt,1⟩):=⟨by have:=HUD.out.ahead;omega,fun v v1 v2=>by
         by_cases hv:v<next
         ·exact HUD.out.pass v v1 hv
         ·exact .inr ⟨HDT.out v (by omega) (by omega),HNO.out v (by omega) (by omega)⟩,fun v hv=>by rw [HUD.out.at_ v (by omega),atS_out (by show ¬ (qf≤v∧v≤qt);omega)],HR7.out⟩
        have m1:w6.cell? ⟨wr.heap.size,1,none⟩=some (.int .i64 qt):=(HK5.out.stay HB6.out).cell 1 rfl
        go_wp2
        go_roundw
        case rel=>exact ⟨i+1,qt+1,⟨qf,qt,1⟩,rfl,by go_num,by omega,by omega,by omega,HUN,HBW6⟩
        case measure=>simp [intOf];omega
      ·have h2:qi=2:=by omega
       subst h2
       have HUN:Hid (Upto (atS l) I lk t (qt+1) (l.drop (i+1)) ⟨qf,qt,2⟩):=⟨by have:=HUD.out.ahead;omega,fun v v1 v2=>by
        by_cases hv:v<next
        ·exact HUD.out.pass v v1 hv
        ·left
         rw [HUD.out.at_ v (by omega)]
         exact atS_in (by show qf≤v;omega) (by show v≤qt;omega),fun v hv=>by rw [HUD.out.at_ v (by omega),atS_out (by show ¬ (qf≤v∧v≤qt);omega)],HR7.out⟩
       go_wp2
       go_roundw
       case rel=>exact ⟨i+1,qt+1,⟨qf,qt,2⟩,rfl,by go_num,by omega,by omega,by omega,HUN,HB5⟩
       case measure=>simp [intOf];omega
  ·have hnl:¬ (i:Int)<(n:Int):=by omega
   have HKS:Hid (Bk wr w.heap.size #[.int .i64 0,.int .i64 0,.int .i64 0,.int .i64 0,.int .u32 0,.slice none 0 0] 53):=HK1.out.stay HB.out
   have HNX:Hid (NextIs (atS l) I lk t 0 0 (next - 1) ⟨0,0,[]⟩):=⟨next,HU.out.ahead,HU.out.pass,.inr (.inr ⟨rfl,rfl,rfl,by rw [HU.out.at_ next (Int.le_refl _),List.drop_of_length_le (by rw [HNL.out];omega)];rfl,rfl⟩)⟩
   have hgn:Bk wr w.heap.size #[.int .i64 0,.int .i64 0,.int .i64 0,.int .i64 0,.int .u32 0,.slice none 0 0] 53:=HKS.out
   have n0:wr.cell? ⟨w.heap.size,0,none⟩=some (.int .i64 0):=hgn.cell 0 rfl
   have n1:wr.cell? ⟨w.heap.size,1,none⟩=some (.int .i64 0):=hgn.cell 1 rfl
   have n2:wr.cell? ⟨w.heap.size,2,none⟩=some (.int .i64 0):=hgn.cell 2 rfl
   have n3:wr.cell? ⟨w.heap.size,3,none⟩=some (.int .i64 0):=hgn.cell 3 rfl
   have n4:wr.cell? ⟨w.heap.size,4,none⟩=some (.int .u32 0):=hgn.cell 4 rfl
   have n5:wr.cell? ⟨w.heap.size,5,none⟩=some (.slice none 0 0):=hgn.cell 5 rfl
   have nf0:=hgn.free 0
   have nf1:=hgn.free 1
   have nf2:=hgn.free 2
   have nf3:=hgn.free 3
   have nf4:=hgn.free 4
   have nf5:=hgn.free 5
   have HGZ:Hid (Bk ((((((wr.setCell ⟨w.heap.size,0,none⟩ (.int .i64 0)).setCell ⟨w.heap.size,1,none⟩ (.int .i64 0)).setCell ⟨w.heap.size,2,none⟩ (.int .i64 (next - 1))).setCell ⟨w.heap.size,3,none⟩ (.int .i64 0)).setCell ⟨w.heap.size,4,none⟩ (.int .u32 0)).setCell ⟨w.heap.size,5,none⟩ (.slice none 0 0)) w.heap.size #[.int .i64 0,.int .i64 0,.int .i64 (next - 1),.int .i64 0,.int .u32 0,.slice none 0 0] 53):=(((((hgn.set 0 _).set 1 _).set 2 _).set 3 _).set 4 _).set 5 _
   have HBZ:Hid (Below w.heap.size w ((((((wr.setCell ⟨w.heap.size,0,none⟩ (.int .i64 0)).setCell ⟨w.heap.size,1,none⟩ (.int .i64 0)).setCell ⟨w.heap.size,2,none⟩ (.int .i64 (next - 1))).setCell ⟨w.heap.size,3,none⟩ (.int .i64 0)).setCell ⟨w.heap.size,4,none⟩ (.int .u32 0)).setCell ⟨w.heap.size,5,none⟩ (.slice none 0 0))):=(((((HBW.out.setCell (Nat.le_refl _) _).setCell (Nat.le_refl _) _).setCell (Nat.le_refl _) _).setCell (Nat.le_refl _) _).setCell (Nat.le_refl _) _).setCell (Nat.le_refl _) _
   clear hgn
   go_wp2
   refine bodyPost_ret (results_next (by rfl) (by rfl) HGZ.out) rfl ?_
   rw [HPO.out]
   exact ⟨⟨0,0,next - 1,⟨0,0,[]⟩,none,0,rfl,HNX.out,BdOk.none_ _⟩,HBZ.out⟩
end Go.Proofs.YtoiennkfdjnkbaaGreatDoor
