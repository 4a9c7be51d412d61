import Derived.Test.YtoiennkfdjnkbaaGreatDoorPk31
import Derived.Test.YtoiennkfdjnkbaaGreatDoorPk25
import Derived.Deep.RegionLaw
import Derived.Deep.CutRange
import Derived.Scope
import Derived.ScopeJumps
import Derived.WalkMore
import Derived.Handy
import Derived.WalkKit
import Derived.Test.YtoiennkfdjnkbaaGreatDoorPk00
import Derived.Test.YtoiennkfdjnkbaaGreatDoorPk27
import Derived.Test.YtoiennkfdjnkbaaGreatDoorPk23
set_option maxRecDepth 100000
set_option maxHeartbeats 8000000
namespace Go.Proofs.YtoiennkfdjnkbaaGreatDoor
section
set_option maxRecDepth 100000
open Go.RowKit Go.Maps Go.Sort Go.Shelf
variable {Z:Nat→Prop}
def noHit (I:Int→Option It) (lk u:Int):Prop:=∀ q,I u=some q→bits .and .u32 q.for_ lk=0
def FirstTold (I:Int→Option It) (fr to_ lk:Int) (w:World) (e:Ending):Prop :=
 (∃ (q:It) (ba:Option Addr) (bc:Nat),e=.returned (.tuple #[.agg #[.int .i64 q.tick,.int .u32 q.for_,.slice ba q.body.length bc],.bool true])∧I q.tick=some q∧(fr≤q.tick∧q.tick≤to_)∧bits .and .u32 q.for_ lk≠0∧q.body.length≤400∧(∀ u,fr≤u→u<q.tick→noHit I lk u)∧Rd w ba q.body.length q.body) ∨
 (e=.returned (.tuple #[itemZ,.bool false])∧∀ u,fr≤u→u≤to_→noHit I lk u)
theorem st_first {w0 w:World} {s m:Nat} {l:List Sp} {I:Int→Option It} {a:Option Addr} {n c:Nat} {X:List (Int×Value)} (h:Strm Z w0 s m l I a n c X) (hb0:Below w0.heap.size w0 w) {fr to_ lk:Int} (hr:1≤fr∧fr≤to_+1∧to_≤1099511627776) (hd:∀ u,fr≤u→u≤to_→atS l u=1) :
  Calls Tryz.prog 104 #[.pointer (some ⟨s,0,none⟩),.int .i64 fr,.int .i64 to_,.int .u32 lk] w fun e w'=>FirstTold I fr to_ lk w0 e∧Below w.heap.size w w':=by
 obtain ⟨W1,HW1⟩:∃ W1,Hid (W1=w.alloc (.cells #[.int .i64 0,.int .u32 0,.slice none 0 0] 51)):=⟨_,rfl⟩
 have HX1:Hid (Below w.heap.size w W1):=by (show Below _ _ _);rw [HW1.out];exact below_alloc w _
 have HK1:Hid (Bk W1 w.heap.size #[.int .i64 0,.int .u32 0,.slice none 0 0] 51):=by (show Bk _ _ _ _);rw [HW1.out];exact Bk.new w _ _
 have HS0:Hid (Strm Z w0 s m l I a n c X):=h
 have HS:Hid (Strm Z w s m l I a n c X):=h.stay hb0
 have HD:Hid (∀ u,fr≤u→u≤to_→(I u).isSome=true):=fun u h1 h2=>(h.data u).1 (hd u h1 h2)
 obtain ⟨POST,HPO⟩:∃ P:Ending→World→Prop,Hid (P=fun e w'=>FirstTold I fr to_ lk w0 e∧Below w.heap.size w w'):=⟨_,rfl⟩
 have hpost:(fun e w'=>FirstTold I fr to_ lk w0 e∧Below w.heap.size w w')=fun e w'=>POST e w':=HPO.out.symm
 rw [hpost]
 obtain ⟨r1,r2,r3⟩:=hr
 clear hpost h hd
 go_enter Tryz.func104,Tryz.ntmps104
 go_upto_region 1 with fail
 rw [← HW1.out]
 go_wp2
 go_loopw [10] (fun t10 wr=>∃ k:Int,t10=.int .i64 k∧fr≤k∧k≤to_+1∧Hid (∀ u,fr≤u→u<k→noHit I lk u)∧Hid (Below W1.heap.size W1 wr)) (fun t10 _=>(to_+1 - intOf t10).toNat)
 case atStart=>exact ⟨fr,rfl,Int.le_refl _,by omega,fun u h1 h2=>by omega,Below.refl _ _⟩
 case round =>
  obtain ⟨k,rfl,k1,k2,HN,HB⟩:=hrel
  have HBW:Hid (Below w.heap.size w wr):=HX1.out.trans (HB.out.mono HX1.out.size)
  have HKR:Hid (Bk wr w.heap.size #[.int .i64 0,.int .u32 0,.slice none 0 0] 51):=HK1.out.stay HB.out
  by_cases hlt:k≤to_
  ·obtain ⟨q,hq⟩:=Option.isSome_iff_exists.1 (HD.out k k1 hlt)
   have hi:=HS0.out.its k
   rw [hq] at hi
   obtain ⟨h1,h2,h3,da,dc,h4,h5,_⟩:=hi
   have HQ:Hid (I k=some q):=hq
   have HRD:Hid (Rd w0 da q.body.length q.body):=h5
   have H400:Hid (q.body.length≤400):=h3
   have hst:Stm Z wr s m a n c l X:=HS.out.stm.stay HBW.out
   have c1:wr.cell? ⟨s,1,none⟩=some (.map (some m)):=hst.blk.cell 1 rfl
   have hlk:=hst.look (t:=k) (by omega)
   rw [h4] at hlk
   obtain ⟨qt,qf,qb⟩:=q
   simp only at h1 h2 h3 h4 hlk HRD H400
   obtain ⟨N,HNE⟩:∃ N,Hid (qb.length=N):=⟨_,rfl⟩
   rw [HNE.out] at hlk HRD H400
   have h1:k=qt:=h1.symm
   subst h1
   have hlk:(Instr.lookup 182 (.map (some m)) (.int .i64 k) false).run Tryz.prog wr=.ok (.agg #[.int .i64 k,.int .u32 qf,.slice da N dc]) wr:=hlk
   obtain ⟨F,hF⟩:∃ F,bits BinOp.and IntKind.u32 qf lk=F:=⟨_,rfl⟩
   have HF:Hid (bits BinOp.and IntKind.u32 qf lk=F):=hF
   obtain ⟨W2,HW2⟩:∃ W2,Hid (W2=wr.alloc (.cells #[.int .i64 k,.int .u32 qf,.slice da N dc] 51)):=⟨_,rfl⟩
   have hb2:Below wr.heap.size wr W2:=by rw [HW2.out];exact below_alloc wr _
   have HB2:Hid (Below W1.heap.size W1 W2):=HB.out.trans (hb2.mono HB.out.size)
   have HBW2:Hid (Below w.heap.size w W2):=HBW.out.trans (hb2.mono HBW.out.size)
   have hk2:Bk W2 wr.heap.size #[.int .i64 k,.int .u32 qf,.slice da N dc] 51:=by rw [HW2.out];exact Bk.new wr _ _
   have i0:W2.cell? ⟨wr.heap.size,0,none⟩=some (.int .i64 k):=hk2.cell 0 rfl
   have i1:W2.cell? ⟨wr.heap.size,1,none⟩=some (.int .u32 qf):=hk2.cell 1 rfl
   have i2:W2.cell? ⟨wr.heap.size,2,none⟩=some (.slice da N dc):=hk2.cell 2 rfl
   have HK2:Hid (Bk W2 w.heap.size #[.int .i64 0,.int .u32 0,.slice none 0 0] 51):=HKR.out.stay hb2
   clear hst h2 h3 h4 h5 hq hk2 hb2
   go_upto_region 5 with fail
   rw [← HW2.out]
   by_cases hz:F=0
   ·have HNN:Hid (∀ u,fr≤u→u<k+1→noHit I lk u):=by
     intro u u1 u2
     by_cases e:u=k
     ·rw [e]
      intro q hq
      rw [HQ.out] at hq
      cases hq
      show bits BinOp.and IntKind.u32 qf lk=0
      rw [HF.out,hz]
     ·exact HN.out u u1 (by omega)
    subst hz
    clear c1 hlk
    go_wp2
    go_roundw
    case rel=>exact ⟨k+1,by go_num,by omega,by omega,HNN,HB2⟩
    case measure=>simp [intOf];omega
   ·have d0:W2.cell? ⟨w.heap.size,0,none⟩=some (.int .i64 0):=HK2.out.cell 0 rfl
    have d1:W2.cell? ⟨w.heap.size,1,none⟩=some (.int .u32 0):=HK2.out.cell 1 rfl
    have d2:W2.cell? ⟨w.heap.size,2,none⟩=some (.slice none 0 0):=HK2.out.cell 2 rfl
    have f0:=HK2.out.free 0
    have f1:=HK2.out.free 1
    have f2:=HK2.out.free 2
    have HM:Hid (Bk (((W2.setCell ⟨w.heap.size,0,none⟩ (.int .i64 k)).setCell ⟨w.heap.size,1,none⟩ (.int .u32 qf)).setCell ⟨w.heap.size,2,none⟩ (.slice da N dc)) w.heap.size #[.int .i64 k,.int .u32 qf,.slice da N dc] 51):=((HK2.out.set 0 (.int .i64 k)).set 1 (.int .u32 qf)).set 2 (.slice da N dc)
    clear c1 hlk
    go_wp2
    refine bodyPost_ret (results_first (by rfl) (by rfl) HM.out) rfl ?_
    rw [HPO.out]
    refine ⟨.inl ⟨⟨k,qf,qb⟩,da,dc,(by (show _=Ending.returned (.tuple #[.agg #[.int .i64 k,.int .u32 qf,.slice da qb.length dc],.bool true]));rw [HNE.out];rfl),HQ.out,⟨k1,hlt⟩,by (show bits BinOp.and IntKind.u32 qf lk≠0);rw [HF.out];exact hz,by (show qb.length≤400);rw [HNE.out];exact H400.out,HN.out,by (show Rd w0 da qb.length qb);rw [HNE.out];exact HRD.out⟩,((HBW2.out.setCell (Nat.le_refl _) _).setCell (Nat.le_refl _) _).setCell (Nat.le_refl _) _⟩
  ·have d0:wr.cell? ⟨w.heap.size,0,none⟩=some (.int .i64 0):=HKR.out.cell 0 rfl
   have d1:wr.cell? ⟨w.heap.size,1,none⟩=some (.int .u32 0):=HKR.out.cell 1 rfl
   have d2:wr.cell? ⟨w.heap.size,2,none⟩=some (.slice none 0 0):=HKR.out.cell 2 rfl
   have f0:=HKR.out.free 0
   have f1:=HKR.out.free 1
   have f2:=HKR.out.free 2
   have HM:Hid (Bk (((wr.setCell ⟨w.heap.size,0,none⟩ (.int .i64 0)).setCell ⟨w.heap.size,1,none⟩ (.int .u32 0)).setCell ⟨w.heap.size,2,none⟩ (.slice none 0 0)) w.heap.size #[.int .i64 0,.int .u32 0,.slice none 0 0] 51):=((HKR.out.set 0 (.int .i64 0)).set 1 (.int .u32 0)).set 2 (.slice none 0 0)
   go_wp2
   refine bodyPost_ret (results_first (by rfl) (by rfl) HM.out) rfl ?_
   rw [HPO.out]
   exact ⟨.inr ⟨rfl,fun u u1 u2=>HN.out u u1 (by omega)⟩,((HBW.out.setCell (Nat.le_refl _) _).setCell (Nat.le_refl _) _).setCell (Nat.le_refl _) _⟩
def FirstIs (I:Int→Option It) (fr to_ lk:Int) (w:World) (x0 x1:Int) (xa:Option Addr) (xn:Nat) (bb:Bool):Prop :=
 (bb=true∧∃ q:It,x0=q.tick∧x1=q.for_∧xn=q.body.length∧I q.tick=some q∧(fr≤q.tick∧q.tick≤to_)∧bits .and .u32 q.for_ lk≠0∧q.body.length≤400∧(∀ u,fr≤u→u<q.tick→noHit I lk u)∧Rd w xa q.body.length q.body) ∨
 (bb=false∧∀ u,fr≤u→u≤to_→noHit I lk u)
theorem FirstTold.one {I:Int→Option It} {fr to_ lk:Int} {w:World} {e:Ending} (h:FirstTold I fr to_ lk w e):∃ (x0 x1:Int) (xa:Option Addr) (xn xc:Nat) (bb:Bool),e=.returned (.tuple #[.agg #[.int .i64 x0,.int .u32 x1,.slice xa xn xc],.bool bb])∧Hid (FirstIs I fr to_ lk w x0 x1 xa xn bb):=by
 rcases h with ⟨q,ba,bc,rfl,h⟩ | ⟨rfl,h⟩
 ·exact ⟨q.tick,q.for_,ba,q.body.length,bc,true,rfl,.inl ⟨rfl,q,rfl,rfl,rfl,h⟩⟩
 ·exact ⟨0,0,none,0,0,false,rfl,.inr ⟨rfl,h⟩⟩
end
section
set_option maxRecDepth 100000
open Go.RowKit Go.Maps Go.Sort Go.Shelf
variable {Z:Nat→Prop}
theorem results_next {w:World} {tmps:Array Value} {g:Nat} {c0 c1 c2 c3 c4 c5 b:Value} (h6:tmps[6]?.getD undef=.pointer (some ⟨g,0,none⟩)) (h7:tmps[7]?.getD undef=b) (k:Bk w g #[c0,c1,c2,c3,c4,c5] 53):(results Tryz.f43 tmps).run Tryz.prog w=.ok (.tuple #[.agg #[c0,c1,c2,c3,c4,c5],b]) w:=by
 have k0:w.cell? ⟨g,0,none⟩=some c0:=k.cell 0 rfl
 have k1:w.cell? ⟨g,1,none⟩=some c1:=k.cell 1 rfl
 have k2:w.cell? ⟨g,2,none⟩=some c2:=k.cell 2 rfl
 have k3:w.cell? ⟨g,3,none⟩=some c3:=k.cell 3 rfl
 have k4:w.cell? ⟨g,4,none⟩=some c4:=k.cell 4 rfl
 have k5:w.cell? ⟨g,5,none⟩=some c5:=k.cell 5 rfl
 simp [results,Tryz.results43,go_sem,h6,h7,k0,k1,k2,k3,k4,k5]
end
end Go.Proofs.YtoiennkfdjnkbaaGreatDoor
namespace Go.Proofs.YtoiennkfdjnkbaaGreatDoor.Leb
def put:Nat→Nat→List Nat
 | 0,n=>[n]
 | j+1,n=>if n<128 then [n] else (128+n % 128) :: put j (n / 128)
def leb (n:Nat):List Nat:=put 9 n
theorem put_small (j n:Nat) (h:n<128):put j n=[n]:=by cases j <;> simp [put,h]
theorem put_big (j n:Nat) (h:128≤n):put (j+1) n=(128+n % 128) :: put j (n / 128):=by simp [put,Nat.not_lt.2 h]
def tk:Nat→Nat→List Nat→Nat×Nat×Nat
 | _,_,[] => (0,0,3)
 | i,n,c :: r =>
  if i=9∧1<c then (0,0,6)
  else if c<128 then (if c=0∧0<i then (0,0,4) else (n+c * 128 ^ i,i+1,0))
  else tk (i+1) (n+c % 128 * 128 ^ i) r
theorem tk_limit (i n c:Nat) (r:List Nat) (hi:i=9) (hc:1<c):tk i n (c :: r)=(0,0,6):=by simp [tk,hi,hc]
theorem tk_form (i n c:Nat) (r:List Nat) (h:¬ (i=9∧1<c)) (h0:c=0) (hi:0<i):tk i n (c :: r)=(0,0,4):=by subst h0;simp [tk,hi]
theorem tk_end (i n c:Nat) (r:List Nat) (h:¬ (i=9∧1<c)) (hc:c<128) (h0:¬ (c=0∧0<i)):tk i n (c :: r)=(n+c * 128 ^ i,i+1,0):=by
 unfold tk;rw [if_neg h,if_pos hc,if_neg h0]
theorem tk_more (i n c:Nat) (r:List Nat) (h:¬ (i=9∧1<c)) (hc:128≤c):tk i n (c :: r)=tk (i+1) (n+c % 128 * 128 ^ i) r:=by
 conv=>lhs;unfold tk
 rw [if_neg h,if_neg (by omega)]
def fin (p:Nat) (r:Nat×Nat×Nat):Nat×Nat×Nat:=(r.1,if r.2.2=0 then p+r.2.1 else 0,r.2.2)
def take (bs:List Nat) (x:Int):Nat×Nat×Nat:=if x<0∨(bs.length:Int)<x then (0,0,2) else fin x.toNat (tk 0 0 (bs.drop x.toNat))
end Go.Proofs.YtoiennkfdjnkbaaGreatDoor.Leb
namespace Go.Proofs.YtoiennkfdjnkbaaGreatDoor
section
theorem jump_mono {l:Nat} {J J':Act→World→Prop} {Q:Exit→Act→World→Prop} (h:∀ a w,J a w→J' a w):∀ (e:Exit) (a:Act) (w:World),Exit.jump l J Q e a w→Exit.jump l J' Q e a w:=fun e a w hq=>by
 cases e <;> first | exact hq | exact ⟨hq.1,h _ _ hq.2⟩
theorem wp_scope_via {P:Program} {a:Act} {w:World} {Q:Exit→Act→World→Prop} {c rest:Code} (l:Nat) (J:Act→World→Prop) (μ:Act→World→Nat) (hf:findLabel c l=some (Code.skip.seq rest))
  (pass:∀ a w,J a w→rest.wp P (Exit.jump l (fun a' w'=>J a' w'∧μ a' w'<μ a w) Q) a w)
  (first:(∀ a w,J a w→rest.wp P (Exit.jump l J Q) a w)→c.wp P (Exit.jump l J Q) a w):(Code.scope c).wp P Q a w :=
 wp_scope_jumps l J μ hf (first fun a w h=>Code.wp_mono (jump_mono fun _ _ h=>h.1) (pass a w h)) fun a w h=>wp_seq (wp_skip (pass a w h))
end
section
open Go.RowKit
theorem Own.nil (w:World) (base:Nat):Own w base none 0 0 []:=⟨World.ownsRow_nil _ _ _ _,by simp⟩
theorem Own.some {w:World} {base:Nat} {a:Option Addr} {len cap:Nat} {bs:List Nat} (h:Own w base a len cap bs) (hl:0<len):a≠none:=by
 rintro rfl
 rcases h.rd.cells with h0 | ⟨_,_,h,_⟩
 ·omega
 ·cases h
theorem rd_one (w:World) (v:Int) (c:Nat) (hv:v=(c:Int)) (hc:c<256) (m:Nat×Nat):Rd (w.alloc (.cells #[.int .u8 v] 5 m)) (some ⟨w.heap.size,0,none⟩) 1 [c] :=
 Rd.new w _ _ _ [c] (by simpa using hc) (fun i hi=>by
  subst hv
  have:i=0:=by simp at hi;omega
  subst this;rfl)
theorem nat_or128 (x:Nat) (h:x<256):x ||| 128=128+x % 128:=by
 have:∀ x,x<256→x ||| 128=128+x % 128:=by decide +kernel
 exact this x h
theorem octet_putUint (n:Nat) (hn:n<18446744073709551616) (base:Nat) (a:Option Addr) (len cap:Nat) (xs:List Nat) (w:World) (ho:Own w base a len cap xs) (hB:base≤w.heap.size) (hl:len≤140737488355000) :
  Calls Tryz.prog 140 #[.slice a len cap,.int .u64 (n:Int)] w fun e w'=>∃ a' cap',e=.returned (.slice a' (len+(Leb.leb n).length) cap')∧a'≠none∧Own w' base a' (len+(Leb.leb n).length) cap' (xs++Leb.leb n)∧Below base w w':=by
 have HO':Hid (Own w base a len cap xs):=ho
 have HN:Hid (n<2 * 128 ^ 9):=by simpa [Hid] using hn
 clear ho
 go_enter Tryz.func140,Tryz.ntmps140
 go_wp2
 refine wp_scope_via 0 (fun a' w'=>∃ (j m:Nat) (b:Option Addr) (lb cb:Nat) (ys:List Nat) (u5 u6 u7 u8 u9 u10 u11 u12 u13 u14:Value),a'={ tmps:=#[.slice b lb cb,.int .u64 (m:Int),undef,undef,.slice none 0 0,u5,u6,u7,u8,u9,u10,u11,u12,u13,u14,undef,undef,undef,undef,undef],defers:=[] }∧j≤9∧m<18446744073709551616∧Hid (m<2 * 128 ^ j)∧lb+j≤len+9∧Hid (xs++Leb.leb n=ys++Leb.put j m)∧Hid (Own w' base b lb cb ys)∧Hid (Below base w w')) (fun a' _=>(intOf (a'.tmps.getD 1 undef)).toNat) rfl ?_ ?_
 ·rintro a' wr ⟨j,m,b,lb,cb,ys,u5,u6,u7,u8,u9,u10,u11,u12,u13,u14,rfl,hj,hm,HM,hlj,HX,HO,HB⟩
  have hbs:=HB.out.size
  go_hide hQ
  have HQ:Hid _:=hQ
  clear hQ
  by_cases hbig:128≤m
  ·have eor:bits BinOp.or IntKind.u8 ((m:Int) % 256) 128=((128+m % 128:Nat):Int):=by
    rw [show ((m:Int) % 256)=((m % 256:Nat):Int) from rfl,show (128:Int)=((128:Nat):Int) from rfl,u8_or_nat _ 128 (by omega) (by omega)]
    congr 1
    have h:=nat_or128 (m % 256) (by omega)
    rw [h]
    omega
   go_wp2_with (at_builtin;refine wpList_append_rd (by rfl) (.tmp 7) (.tmp 11) (by rfl) base b lb cb ys (by rfl) (HO.out.below (below_alloc wr _)) (some ⟨wr.heap.size,0,none⟩) 1 1 [128+m % 128] (by rfl) (rd_one wr _ (128+m % 128) (by omega) (by omega) _) (fun h=>by cases h) (by omega) (by simp;omega) ?_;intro a1 c1 w1 hown1 hgrow1 hbel1;have HO1:Hid (Own w1 base a1 (lb+1) c1 (ys++[128+m % 128])):=hown1;have HB1:Hid (Below base w w1):=(HB.out.trans ((below_alloc wr _).mono (by omega))).trans hbel1;clear hown1 hgrow1 hbel1)
   obtain ⟨i,rfl⟩:∃ i,j=i+1:=by
    cases j with
    | zero=>have:=HM.out;simp at this;omega
    | succ i=>exact ⟨i,rfl⟩
   have hm':=HM.out
   rw [Nat.pow_succ] at hm'
   go_step3
   rw [← HQ.out]
   refine ⟨rfl,⟨i,m / 128,a1,lb+1,c1,ys++[128+m % 128],_,_,_,_,_,_,_,_,_,_,rfl,by omega,by omega,(by show m / 128<2 * 128 ^ i;omega),by omega,(by show _=_;rw [HX.out,Leb.put_big i m (by omega)];simp),HO1,HB1⟩,?_⟩
   simp [intOf]
   omega
  ·go_wp2_with (at_builtin;refine wpList_append_rd (by rfl) (.tmp 15) (.tmp 18) (by rfl) base b lb cb ys (by rfl) (HO.out.below (below_alloc wr _)) (some ⟨wr.heap.size,0,none⟩) 1 1 [m] (by rfl) (rd_one wr _ m (by omega) (by omega) _) (fun h=>by cases h) (by omega) (by simp;omega) ?_;intro a1 c1 w1 hown1 hgrow1 hbel1;have HO1:Hid (Own w1 base a1 (lb+1) c1 (ys++[m])):=hown1;have HB1:Hid (Below base w w1):=(HB.out.trans ((below_alloc wr _).mono (by omega))).trans hbel1;clear hown1 hgrow1 hbel1)
   have e:xs++Leb.leb n=ys++[m]:=by rw [HX.out,Leb.put_small j m (by omega)]
   have el:len+(Leb.leb n).length=lb+1:=by
    have:=congrArg List.length e
    rw [List.length_append,List.length_append,HO'.out.size,HO.out.size] at this
    exact this
   rw [← HQ.out]
   simp only [Exit.jump]
   go_ret
   rw [el,e]
   exact ⟨a1,c1,rfl,HO1.out.some (by omega),HO1.out,HB1.out⟩
 ·intro hrest
  exact wp_seq (wp_label (hrest _ _ ⟨9,n,a,len,cap,xs,undef,undef,undef,undef,undef,undef,undef,undef,undef,undef,rfl,Nat.le_refl _,hn,HN,Nat.le_refl _,rfl,HO',Below.refl _ _⟩))
theorem octet_Uint (n:Nat) (hn:n<18446744073709551616) (w:World) :
  Calls Tryz.prog 86 #[.int .u64 (n:Int)] w fun e w'=>∃ a cap,e=.returned (.slice a (Leb.leb n).length cap)∧a≠none∧Own w' w.heap.size a (Leb.leb n).length cap (Leb.leb n)∧Below w.heap.size w w':=by
 go_enter Tryz.func86,Tryz.ntmps86
 go_wp2_with fail
 refine (octet_putUint n hn w.heap.size none 0 0 [] w (Own.nil _ _) (Nat.le_refl _) (by omega)).mono ?_
 rintro e w' ⟨a',cap',rfl,h1,h2,h3⟩
 simp only [Nat.zero_add,List.nil_append] at h2
 have H1:Hid (a'≠none):=h1
 have H2:Hid (Own w' w.heap.size a' (Leb.leb n).length cap' (Leb.leb n)):=h2
 have H3:Hid (Below w.heap.size w w'):=h3
 clear h1 h2 h3
 go_wp2
 go_ret
 exact ⟨a',cap',rfl,H1.out,H2.out,H3.out⟩
end
section
open Go.RowKit
theorem Own.nil_cap' {w:World} {base:Nat} {a:Option Addr} {len cap:Nat} {bs:List Nat} (h:Own w base a len cap bs):a=none→cap=0:=by
 rcases h.row.2 with ⟨hn,_⟩ | ⟨g,c,cur,hv,_⟩
 ·intro _;simp only [Value.slice.injEq] at hn;exact hn.2.2
 ·intro he;rw [he] at hv;simp at hv
theorem Own.none_ (w:World) (base:Nat):Own w base none 0 0 []:=⟨⟨rfl,.inl ⟨rfl,rfl⟩⟩,by simp⟩
theorem Own.under {w:World} {base base':Nat} {a:Option Addr} {len cap:Nat} {bs:List Nat} (h:Own w base a len cap bs) (hb:base'≤base):Own w base' a len cap bs:=by
 refine ⟨⟨h.row.1,?_⟩,h.byte⟩
 rcases h.row.2 with hn | ⟨g,c,cur,hv,hbg,r⟩
 ·exact .inl hn
 ·exact .inr ⟨g,c,cur,hv,Nat.le_trans hb hbg,r⟩
theorem Own.ne {w w0:World} {base g:Nat} {a:Option Addr} {len cap:Nat} {bs:List Nat} (h:Own w base a len cap bs) (hw:w.heap.size≤w0.heap.size) (hg:w0.heap.size≤g):Option.some g≠Value.ownBlock (.slice a len cap):=fun e=>by
 have:=(h.row.lt g e.symm).2
 omega
end
section
open Go.RowKit
structure Kb (base:Nat) (w w':World):Prop where
 below:Below base w w'
 other:∀ (k:Nat) (cs:Array Value) (t:TypeId) (m:Nat×Nat),w.heap[k]? = some (.cells cs t m)→t≠5→w'.heap[k]? = some (.cells cs t m)
theorem Kb.refl (base:Nat) (w:World):Kb base w w:=⟨Below.refl _ _,fun _ _ _ _ h _=>h⟩
theorem Kb.trans {base:Nat} {w w1 w2:World} (h:Kb base w w1) (h2:Kb base w1 w2):Kb base w w2:=⟨h.below.trans h2.below,fun k cs t m hk ht=>h2.other k cs t m (h.other k cs t m hk ht) ht⟩
theorem Kb.of {base:Nat} {w w':World} (h:Below w.heap.size w w') (hb:base≤w.heap.size):Kb base w w':=⟨h.mono hb,fun k cs t m hk _=>by rw [h.block k (Array.getElem?_eq_some_iff.1 hk).1];exact hk⟩
theorem Kb.mono {base base':Nat} {w w':World} (h:Kb base w w') (hb:base'≤base):Kb base' w w':=⟨h.below.mono hb,h.other⟩
theorem Kb.grown {base:Nat} {w w':World} {a:Option Addr} {len cap:Nat} {xs:List Nat} (ho:Own w base a len cap xs) (hb:Below base w w') (hg:w.grownBy w' (Value.ownBlock (.slice a len cap))):Kb base w w':=by
 refine ⟨hb,fun k cs t m hk ht => ?_⟩
 rw [hg.block k (Array.getElem?_eq_some_iff.1 hk).1 (fun e => ?_)]
 ·exact hk
 ·rcases ho.row.2 with ⟨h1,_⟩ | ⟨g5,c5',cur,h1,_,h3,_⟩
  ·simp only [Value.slice.injEq] at h1
   rw [h1.1] at e
   cases e
  ·simp only [Value.slice.injEq] at h1
   rw [h1.1] at e
   simp only [Value.ownBlock,Option.some.injEq] at e
   rw [e,h3] at hk
   simp only [Option.some.injEq,Obj.cells.injEq] at hk
   exact ht hk.2.1.symm
theorem Bk.kept {base:Nat} {w w':World} {g:Nat} {cs:Array Value} {t:TypeId} (h:Bk w g cs t) (hk:Kb base w w') (ht:t≠5):Bk w' g cs t:=hk.other g cs t (0,0) h ht
end
section
open Go.RowKit
abbrev Bd:=Option Addr×Nat×Nat
def icells (q:It) (b:Bd):List Value:=[.int .i64 q.tick,.int .u32 q.for_,.slice b.1 b.2.1 b.2.2]
def irow:List (It×Bd)→List Value
 | [] => []
 | x :: l=>icells x.1 x.2++irow l
theorem irow_snoc:∀ (l:List (It×Bd)) (x:It×Bd),irow (l++[x])=irow l++icells x.1 x.2
 | [],x=>by simp [irow]
 | y :: l,x=>by rw [List.cons_append,irow,irow,irow_snoc l x,List.append_assoc]
structure Its (w:World) (base:Nat) (v:Value) (l:List (It×Bd)):Prop where
 row:w.ownsRow base 51 3 v l.length (irow l)
 bod:∀ x∈l,Own w base x.2.1 x.2.2.1 x.2.2.2 x.1.body
theorem Its.nil_ (w:World) (base:Nat):Its w base (.slice none 0 0) []:=⟨⟨rfl,.inl ⟨rfl,rfl⟩⟩,fun _ h=>by cases h⟩
theorem own_frame {w w':World} {base:Nat} {a:Option Addr} {n c:Nat} {bs:List Nat} (h:Own w base a n c bs) (hf:∀ k cs m,base≤k→w.heap[k]? = some (.cells cs 5 m)→w'.heap[k]? = some (.cells cs 5 m)):Own w' base a n c bs:=by
 refine ⟨⟨h.row.1,?_⟩,h.byte⟩
 rcases h.row.2 with hn | ⟨g,c,cur,hv,hbg,hg,r⟩
 ·exact .inl hn
 ·exact .inr ⟨g,c,cur,hv,hbg,hf g _ _ hbg hg,r⟩
theorem Its.frame {w w':World} {base:Nat} {v:Value} {l:List (It×Bd)} (h:Its w base v l) (hf:∀ k,base≤k→k<w.heap.size→w'.heap[k]? = w.heap[k]?):Its w' base v l:=by
 refine ⟨⟨h.row.1,?_⟩,fun x hx=>own_frame (h.bod x hx) fun k cs m hb hk=>by rw [hf k hb (Array.getElem?_eq_some_iff.1 hk).1];exact hk⟩
 rcases h.row.2 with hn | ⟨g,c,cur,hv,hbg,hg,r⟩
 ·exact .inl hn
 ·exact .inr ⟨g,c,cur,hv,hbg,by rw [hf g hbg (Array.getElem?_eq_some_iff.1 hg).1];exact hg,r⟩
theorem Its.grown {w w':World} {base R:Nat} {v:Value} {l:List (It×Bd)} (h:Its w base v l) (hR:R<base) (hg:w.grownBy w' (some R)):Its w' base v l :=
 h.frame fun k hb hk=>hg.block k hk (fun e=>by simp only [Option.some.injEq] at e;omega)
theorem Its.below {w w':World} {base:Nat} {v:Value} {l:List (It×Bd)} (h:Its w base v l) (hb:Below w.heap.size w w'):Its w' base v l:=h.frame fun k _ hk=>hb.block k hk
theorem Its.under {w:World} {base:Nat} {v:Value} {l:List (It×Bd)} (h:Its w base v l) (p:Addr) (u:Value) (hp:p.block<base):Its (w.setCell p u) base v l :=
 h.frame fun k hb _=>heap_setCell_other w p k u (fun e=>by omega)
theorem Its.form {w:World} {base:Nat} {v:Value} {l:List (It×Bd)} (h:Its w base v l):∃ a c,v=.slice a l.length c∧l.length≤c∧c≤maxLen:=by
 rcases h.row.2 with ⟨hv,hn⟩ | ⟨g,c,cur,hv,_,_,hc,hm,_⟩
 ·exact ⟨none,0,by rw [hv,hn],by omega,by omega⟩
 ·exact ⟨_,c,hv,hc,hm⟩
theorem infoItem:(Tryz.prog.info? 51).map (fun i=>(i.zero,i.size,i.bytes))=some (some (.agg #[.int .i64 0,.int .u32 0,.slice none 0 0]),3,40):=by kernel_rfl
theorem icells_one (q:It) (b:Bd):∀ u∈icells q b,u.oneCell'=true:=by
 intro u hu
 simp only [icells,List.mem_cons,List.not_mem_nil,or_false] at hu
 rcases hu with rfl | rfl | rfl <;> rfl
theorem item_told {w:World} {g:Nat} {q:It} {b:Bd} {t:TypeId} (h:Bk w g (icells q b).toArray t):∀ j u,(icells q b)[j]? = some u→w.cell? ((⟨g,0,none⟩:Addr).add j)=some u:=by
 intro j u hj
 have:=h.cell j (v:=u) (by simpa using hj)
 by_cases h0:j=0
 ·subst h0
  simpa [Addr.add] using this
 ·simpa [Addr.add,h0] using this
theorem irow_at:∀ (l:List (It×Bd)) (i:Nat) (x:It×Bd),l[i]? = some x→∀ j,j<3→(irow l)[i * 3+j]? = (icells x.1 x.2)[j]?
 | [],i,x,h,j,hj=>by simp at h
 | y :: l,0,x,h,j,hj=>by
  simp only [List.getElem?_cons_zero,Option.some.injEq] at h
  subst h
  rw [irow,Nat.zero_mul,Nat.zero_add,List.getElem?_append_left (by simp [icells];omega)]
 | y :: l,i+1,x,h,j,hj=>by
  rw [List.getElem?_cons_succ] at h
  have e:(icells y.1 y.2).length=3:=rfl
  rw [irow,List.getElem?_append_right (by omega),e,show (i+1) * 3+j - 3=i * 3+j from by omega]
  exact irow_at l i x h j hj
theorem Own.cap_le {w:World} {base:Nat} {a:Option Addr} {n c:Nat} {bs:List Nat} (h:Own w base a n c bs):n≤c∧c≤maxLen:=by
 rcases h.row.2 with ⟨hv,h0⟩ | ⟨g,c',cur,hv,_,_,hc,hm,_⟩
 ·simp only [Value.slice.injEq] at hv
  omega
 ·simp only [Value.slice.injEq] at hv
  obtain ⟨_,_,rfl⟩:=hv
  exact ⟨hc,hm⟩
theorem Its.rd {w:World} {base:Nat} {a:Option Addr} {n c:Nat} {L:List (It×Bd)} (h:Its w base (.slice a n c) L) (hb:∀ q∈L.map Prod.fst,((-9223372036854775808:Int)≤q.tick∧q.tick≤9223372036854775807)∧(0≤q.for_∧q.for_≤4294967295)):ItsRd w a n (L.map Prod.fst):=by
 rcases h.row.2 with ⟨hv,hn⟩ | ⟨g,c',cur,hv,hbb,hg,hlc,hm,hs,ht⟩
 ·simp only [Value.slice.injEq] at hv
  have:L=[]:=List.length_eq_zero_iff.1 hn
  subst this
  exact ⟨by simp;omega,.inl rfl,hb⟩
 ·simp only [Value.slice.injEq] at hv
  obtain ⟨rfl,rfl,rfl⟩:=hv
  refine ⟨by simp,.inr ⟨g,0,rfl,(Array.getElem?_eq_some_iff.1 hg).1,fun i q hi => ?_⟩,hb⟩
  rw [List.getElem?_map] at hi
  obtain ⟨x,hx,rfl⟩:=Option.map_eq_some_iff.1 hi
  have hil:i<L.length:=(List.getElem?_eq_some_iff.1 hx).1
  have key:∀ j,j<3→w.cell? ⟨g,0+i * 3+j,none⟩=(icells x.1 x.2)[j]?:=by
   intro j hj
   have h1:=irow_at L i x hx j hj
   rw [← ht,List.getElem?_take_of_lt (by omega),Array.getElem?_toList] at h1
   rw [cell_of_row w g _ cur _ _ hg,Nat.zero_add,h1]
  have ho:=h.bod x (List.mem_of_getElem? hx)
  have hcl:=ho.cap_le
  unfold maxLen at hcl
  exact ⟨key 0 (by omega),key 1 (by omega),x.2.1,x.2.2.1,x.2.2.2,key 2 (by omega),ho.rd,ho.nil_cap',hcl.1,by omega⟩
theorem Sps.frame {w w':World} {base:Nat} {v:Value} {l:List Sp} (h:Sps w base v l) (hf:∀ k,base≤k→k<w.heap.size→w'.heap[k]? = w.heap[k]?):Sps w' base v l:=by
 refine ⟨⟨h.row.1,?_⟩⟩
 rcases h.row.2 with hn | ⟨g,c,cur,hv,hbg,hg,r⟩
 ·exact .inl hn
 ·exact .inr ⟨g,c,cur,hv,hbg,by rw [hf g hbg (Array.getElem?_eq_some_iff.1 hg).1];exact hg,r⟩
theorem Its.lower {w:World} {base base':Nat} {v:Value} {l:List (It×Bd)} (h:Its w base v l) (hb:base'≤base):Its w base' v l:=by
 refine ⟨⟨h.row.1,?_⟩,fun x hx=>(h.bod x hx).under hb⟩
 rcases h.row.2 with hn | ⟨g,c,cur,hv,hbg,r⟩
 ·exact .inl hn
 ·exact .inr ⟨g,c,cur,hv,Nat.le_trans hb hbg,r⟩
theorem bk_step {w:World} {g:Nat} {t:TypeId} {cs cs':Array Value} (h:Bk w g cs t) (i:Nat) (v:Value) (hc:cs.setIfInBounds i v=cs'):Bk (w.setCell ⟨g,i,none⟩ v) g cs' t:=hc ▸ h.set i v
def set8 (w:World) (g:Nat) (v0 v1 v2 v3 v4 v5 v6 v7:Value):World:=((((((((w.setCell ⟨g,0,none⟩ v0).setCell ⟨g,1,none⟩ v1).setCell ⟨g,2,none⟩ v2).setCell ⟨g,3,none⟩ v3).setCell ⟨g,4,none⟩ v4).setCell ⟨g,5,none⟩ v5).setCell ⟨g,6,none⟩ v6).setCell ⟨g,7,none⟩ v7)
theorem Bk.set8 {w:World} {g:Nat} {t:TypeId} {u0 u1 u2 u3 u4 u5 u6 u7:Value} (h:Bk w g #[u0,u1,u2,u3,u4,u5,u6,u7] t) (v0 v1 v2 v3 v4 v5 v6 v7:Value):Bk (Go.Proofs.YtoiennkfdjnkbaaGreatDoor.set8 w g v0 v1 v2 v3 v4 v5 v6 v7) g #[v0,v1,v2,v3,v4,v5,v6,v7] t:=by
 unfold Go.Proofs.YtoiennkfdjnkbaaGreatDoor.set8
 have h1:Bk (w.setCell ⟨g,0,none⟩ v0) g #[v0,u1,u2,u3,u4,u5,u6,u7] t:=bk_step h 0 v0 rfl
 generalize w.setCell ⟨g,0,none⟩ v0=w1 at h1 ⊢
 have h2:Bk (w1.setCell ⟨g,1,none⟩ v1) g #[v0,v1,u2,u3,u4,u5,u6,u7] t:=bk_step h1 1 v1 rfl
 generalize w1.setCell ⟨g,1,none⟩ v1=w2 at h2 ⊢
 have h3:Bk (w2.setCell ⟨g,2,none⟩ v2) g #[v0,v1,v2,u3,u4,u5,u6,u7] t:=bk_step h2 2 v2 rfl
 generalize w2.setCell ⟨g,2,none⟩ v2=w3 at h3 ⊢
 have h4:Bk (w3.setCell ⟨g,3,none⟩ v3) g #[v0,v1,v2,v3,u4,u5,u6,u7] t:=bk_step h3 3 v3 rfl
 generalize w3.setCell ⟨g,3,none⟩ v3=w4 at h4 ⊢
 have h5:Bk (w4.setCell ⟨g,4,none⟩ v4) g #[v0,v1,v2,v3,v4,u5,u6,u7] t:=bk_step h4 4 v4 rfl
 generalize w4.setCell ⟨g,4,none⟩ v4=w5 at h5 ⊢
 have h6:Bk (w5.setCell ⟨g,5,none⟩ v5) g #[v0,v1,v2,v3,v4,v5,u6,u7] t:=bk_step h5 5 v5 rfl
 generalize w5.setCell ⟨g,5,none⟩ v5=w6 at h6 ⊢
 have h7:Bk (w6.setCell ⟨g,6,none⟩ v6) g #[v0,v1,v2,v3,v4,v5,v6,u7] t:=bk_step h6 6 v6 rfl
 generalize w6.setCell ⟨g,6,none⟩ v6=w7 at h7 ⊢
 have h8:Bk (w7.setCell ⟨g,7,none⟩ v7) g #[v0,v1,v2,v3,v4,v5,v6,v7] t:=bk_step h7 7 v7 rfl
 exact h8
theorem set8_other (w:World) (g:Nat) (v0 v1 v2 v3 v4 v5 v6 v7:Value) (k:Nat) (hk:k≠g):(set8 w g v0 v1 v2 v3 v4 v5 v6 v7).heap[k]? = w.heap[k]?:=by
 unfold set8
 rw [heap_setCell_other _ _ _ _ hk,heap_setCell_other _ _ _ _ hk,heap_setCell_other _ _ _ _ hk,heap_setCell_other _ _ _ _ hk,heap_setCell_other _ _ _ _ hk,heap_setCell_other _ _ _ _ hk,heap_setCell_other _ _ _ _ hk,heap_setCell_other _ _ _ _ hk]
theorem set8_below {B:Nat} {w w':World} (h:Below B w w') (g:Nat) (hg:B≤g) (v0 v1 v2 v3 v4 v5 v6 v7:Value):Below B w (set8 w' g v0 v1 v2 v3 v4 v5 v6 v7):=by
 unfold set8
 exact (((((((h.setCell hg _).setCell hg _).setCell hg _).setCell hg _).setCell hg _).setCell hg _).setCell hg _).setCell hg _
end
end Go.Proofs.YtoiennkfdjnkbaaGreatDoor
