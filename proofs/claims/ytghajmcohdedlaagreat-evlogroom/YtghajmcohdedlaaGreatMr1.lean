import Derived.Test.YtghajmcohdedlaaGreatPk25
import Derived.Test.YtghajmcohdedlaaGreatPk07
import Derived.Test.YtghajmcohdedlaaGreatPk28
namespace Go.Proofs.YtghajmcohdedlaaGreat
open Go.RowKit
theorem Rd.atB {w : World} {a : Option Addr} {n : Nat} {s : List Nat} (h : Rd w a n s) (hn : 0 < n) : ∃ b off,a = some ⟨b,off,none⟩ ∧ ∀ i,i < n → w.cell? ⟨b,off + i,none⟩ = some (.int .u8 ((s.getD i 0 : Nat) : Int)):=by
 rcases h.cells with h0 | ⟨b,off,h1,_,h3⟩
 ·omega
 ·exact ⟨b,off,h1,h3⟩
set_option maxRecDepth 100000 in
set_option maxHeartbeats 4000000 in
theorem ref_Whole (w : World) (a : Option Addr) (l c : Nat) (X : List Nat) (hr : Rd w a l X) (hlc : l ≤ c) (hx : X = [] ∨ Sec X) :
  Calls Tryz.prog 100 #[.slice a l c] w fun e w' => e = .returned (.tuple #[.int .i64 (wholeB X).1,.int .i64 (wholeB X).2,.bool (decide (0 < (wholeB X).1))]) ∧ Below w.heap.size w w':=by
 obtain ⟨R,HR⟩ : ∃ R,Hid (R = wholeB X):=⟨_,rfl⟩
 rw [← HR.out]
 rcases hx with rfl | hs
 ·have hl : l = 0:=hr.size.symm
  subst hl
  have HX : Hid (R = (0,0)):=by show _ = _;rw [HR.out];rfl
  clear hr HR
  go_enter Tryz.func100,Tryz.ntmps100
  go_wp2
  have d1 : decide ((0 : Int) = 64) = false:=by decide
  go_quiet (fail)
  generalize hnq : w.drewN _ = w3
  have HB3 : Hid (Below w.heap.size w w3):=by show Below _ _ _;rw [← hnq];exact below_drews (Below.refl _ _) _
  clear hnq
  go_wp2
  go_returns
  exact ⟨by rw [HX.out];rfl,HB3.out⟩
 ·have hl : l = 64:=by rw [← hr.size];exact hs.len
  subst hl
  have HS : Hid (Sec X):=hs
  have HRd : Hid (Rd w a 64 X):=hr
  obtain ⟨b,off,rfl,hc⟩:=hr.atB (by omega)
  have HC : Hid (∀ i,i < 64 → w.cell? ⟨b,off + i,none⟩ = some (.int .u8 ((X.getD i 0 : Nat) : Int))):=hc
  obtain ⟨x,hx⟩ : ∃ x,x = X.getD 0 0:=⟨_,rfl⟩
  obtain ⟨y,hy⟩ : ∃ y,y = X.getD 63 0:=⟨_,rfl⟩
  have c0 : w.cell? ⟨b,off,none⟩ = some (.int .u8 (x : Int)):=by have:=hc 0 (by omega);rw [hx];exact this
  have c63 : w.cell? ⟨b,off + 63,none⟩ = some (.int .u8 (y : Int)):=by rw [hy];exact hc 63 (by omega)
  obtain ⟨⟨n,p1,q1⟩,HT1⟩ : ∃ r,Hid (r = KeyM.take X 1):=⟨_,rfl⟩
  obtain ⟨⟨v,p9,q9⟩,HT9⟩ : ∃ r,Hid (r = KeyM.take X 9):=⟨_,rfl⟩
  have HRT : Hid (((1 ≤ n ∧ n ≤ 4611686018427387904) ∧ (0 ≤ v ∧ v ≤ 1099511627776)) → x = y → (∀ j,17 ≤ j → j < 63 → X.getD j 0 = 0) → R = (n,v)):=by
   intro h1 h2 h3
   rw [HR.out,wholeB,if_pos hs.len,readB]
   have hw:=whole_iff X hs
   rw [← HT1.out,← HT9.out,← hx,← hy] at hw
   rw [← HT1.out,← HT9.out,← hx,if_pos ⟨h1.1,h1.2,hw.2 ⟨h2,h3⟩⟩]
  have HRF : Hid (¬ (((1 ≤ n ∧ n ≤ 4611686018427387904) ∧ (0 ≤ v ∧ v ≤ 1099511627776)) ∧ x = y ∧ ∀ j,17 ≤ j → j < 63 → X.getD j 0 = 0) → R = (0,0)):=by
   intro hq
   rw [HR.out,wholeB,if_pos hs.len,readB]
   have hw:=whole_iff X hs
   rw [← HT1.out,← HT9.out,← hx,← hy] at hw
   rw [← HT1.out,← HT9.out,← hx,if_neg (fun hh => hq ⟨⟨hh.1,hh.2.1⟩,hw.1 hh.2.2⟩)]
  clear hr hs hc hx hy HR
  by_cases hxy : x = y
  ·subst hxy
   have d1 : decide ((x : Int) = (x : Int)) = true:=by simp
   go_enter Tryz.func100,Tryz.ntmps100
   go_wp2
   go_quiet (fail)
   generalize hnq : w.drewN _ = w3
   have HB3 : Hid (Below w.heap.size w w3):=by show Below _ _ _;rw [← hnq];exact below_drews (Below.refl _ _) _
   clear hnq c0 c63 d1
   have HR3 : Hid (Rd w3 (some ⟨b,off,none⟩) 64 X):=HRd.out.below HB3.out
   go_wp2_with fail
   refine (ref_TakeKey (some ⟨b,off,none⟩) 64 c X 1 _ HR3.out hlc (by omega) (by omega)).mono ?_
   rw [← HT1.out]
   rintro e w1 ⟨he,hw⟩
   rw [toldK] at he
   subst he hw
   go_wp2_with fail
   refine (ref_TakeKey (some ⟨b,off,none⟩) 64 c X 9 _ HR3.out hlc (by omega) (by omega)).mono ?_
   rw [← HT9.out]
   rintro e w1 ⟨he,hw⟩
   rw [toldK] at he
   subst he hw
   have HC3 : Hid (∀ i,i < 64 → w1.cell? ⟨b,off + i,none⟩ = some (.int .u8 ((X.getD i 0 : Nat) : Int))):=fun i hi => by
    obtain ⟨b',off',h1,h2⟩:=HR3.out.atB (by omega)
    simp only [Option.some.injEq,Addr.mk.injEq,and_true] at h1
    obtain ⟨rfl,rfl⟩:=h1
    exact h2 i hi
   have hsplit : ((1 ≤ n ∧ n ≤ 4611686018427387904) ∧ (0 ≤ v ∧ v ≤ 1099511627776)) ∨ (¬ 1 ≤ n) ∨ (1 ≤ n ∧ ¬ n ≤ 4611686018427387904) ∨ (1 ≤ n ∧ n ≤ 4611686018427387904 ∧ ¬ 0 ≤ v) ∨ (1 ≤ n ∧ n ≤ 4611686018427387904 ∧ 0 ≤ v ∧ ¬ v ≤ 1099511627776):=by omega
   rcases hsplit with ⟨⟨r1,r2⟩,r3,r4⟩ | r1 | ⟨r1,r2⟩ | ⟨r1,r2,r3⟩ | ⟨r1,r2,r3,r4⟩ <;>
   (go_wp2
    go_loopw [11,12] (fun t11 t12 wr => ∃ (i : Nat) (ok : Bool),17 ≤ i ∧ i ≤ 63 ∧ t12 = .int .i64 (i : Int) ∧ t11 = .bool ok ∧ Hid (ok = true ↔ (((1 ≤ n ∧ n ≤ 4611686018427387904) ∧ (0 ≤ v ∧ v ≤ 1099511627776)) ∧ ∀ j,17 ≤ j → j < i → X.getD j 0 = 0)) ∧ wr = w1) (fun _ t12 _ => 63 - (intOf t12).toNat)
    case atStart => exact ⟨17,_,by omega,by omega,rfl,rfl,⟨fun h => ⟨(by first | omega | (have:=of_decide_eq_true h;omega) | (cases h)),fun j h1 h2 => (by omega)⟩,fun h => (by first | rfl | (have:=h.1;omega))⟩,rfl⟩
    case round =>
     obtain ⟨i,ok,hi1,hi2,rfl,rfl,HI,rfl⟩:=hrel
     by_cases hlt : i < 63
     ·have hlt' : (i : Int) < 63:=by omega
      have hlt2 : (i : Int) < 64:=by omega
      have hi0 : (0 : Int) ≤ (i : Int):=by omega
      obtain ⟨z,hz⟩ : ∃ z,z = X.getD i 0:=⟨_,rfl⟩
      have ci : wr.cell? ⟨b,off + i,none⟩ = some (.int .u8 (z : Int)):=by rw [hz];exact HC3.out i (by omega)
      have HZ : Hid (z = X.getD i 0):=hz
      clear hz
      cases ok with
      | false =>
       have HN : Hid (false = true ↔ (((1 ≤ n ∧ n ≤ 4611686018427387904) ∧ (0 ≤ v ∧ v ≤ 1099511627776)) ∧ ∀ j,17 ≤ j → j < i + 1 → X.getD j 0 = 0)):=⟨fun h => (by cases h),fun h => HI.out.2 ⟨h.1,fun j h1 h2 => h.2 j h1 (by omega)⟩⟩
       clear ci HI
       go_wp2
       go_roundw
       case rel => exact ⟨i + 1,false,by omega,by omega,by go_num,rfl,HN,by trivial⟩
       case measure => simp [intOf];omega
      | true =>
       by_cases hz0 : z = 0
       ·subst hz0
        have HN : Hid (true = true ↔ (((1 ≤ n ∧ n ≤ 4611686018427387904) ∧ (0 ≤ v ∧ v ≤ 1099511627776)) ∧ ∀ j,17 ≤ j → j < i + 1 → X.getD j 0 = 0)):=⟨fun _ => ⟨(HI.out.1 rfl).1,fun j h1 h2 => by
         by_cases hj : j = i
         ·rw [hj];exact HZ.out.symm
         ·exact (HI.out.1 rfl).2 j h1 (by omega)⟩,fun _ => rfl⟩
        clear HI
        go_wp2
        go_roundw
        case rel => exact ⟨i + 1,true,by omega,by omega,by go_num,rfl,HN,by trivial⟩
        case measure => simp [intOf];omega
       ·have hz1 : ¬ (z : Int) = 0:=by omega
        have hz2 : ((z : Int) == 0) = false:=by rw [beq_eq_false_iff_ne];exact hz1
        have HN : Hid (false = true ↔ (((1 ≤ n ∧ n ≤ 4611686018427387904) ∧ (0 ≤ v ∧ v ≤ 1099511627776)) ∧ ∀ j,17 ≤ j → j < i + 1 → X.getD j 0 = 0)):=⟨fun h => (by cases h),fun h => absurd (HZ.out.trans (h.2 i hi1 (by omega))) hz0⟩
        clear HI
        go_wp2
        go_roundw
        case rel => exact ⟨i + 1,false,by omega,by omega,by go_num,rfl,HN,by trivial⟩
        case measure => simp [intOf];omega
     ·obtain rfl : i = 63:=by omega
      cases ok with
      | false =>
       have HX : Hid (R = (0,0)):=HRF.out (fun h => by have:=HI.out.2 ⟨h.1,h.2.2⟩;cases this)
       clear HI
       go_wp2
       go_returns
       exact ⟨by rw [HX.out];rfl,HB3.out⟩
      | true =>
       have HX : Hid (R = (n,v)):=HRT.out (HI.out.1 rfl).1 trivial (HI.out.1 rfl).2
       have HP : Hid (decide (0 < n) = true):=decide_eq_true (by have:=(HI.out.1 rfl).1;omega)
       have HE : Hid (Ending.returned (.tuple #[.int .i64 n,.int .i64 v,.bool true]) = Ending.returned (.tuple #[.int .i64 R.1,.int .i64 R.2,.bool (decide (0 < R.1))])):=by
        show _ = _
        rw [HX.out]
        show _ = Ending.returned (.tuple #[.int .i64 n,.int .i64 v,.bool (decide (0 < n))])
        rw [HP.out]
       clear HI
       go_wp2
       go_returns
       exact ⟨HE.out,HB3.out⟩ )
  ·have HX : Hid (R = (0,0)):=HRF.out (fun h => hxy h.2.1)
   have h1 : ¬ (x : Int) = (y : Int):=by omega
   have h2 : ((x : Int) == (y : Int)) = false:=by rw [beq_eq_false_iff_ne];exact h1
   have d1 : decide ((x : Int) = (y : Int)) = false:=decide_eq_false h1
   go_enter Tryz.func100,Tryz.ntmps100
   go_wp2
   go_quiet (fail)
   generalize hnq : w.drewN _ = w3
   have HB3 : Hid (Below w.heap.size w w3):=by show Below _ _ _;rw [← hnq];exact below_drews (Below.refl _ _) _
   clear hnq
   go_wp2
   go_returns
   exact ⟨by rw [HX.out];rfl,HB3.out⟩
def Cr (w : World) (gc r b m : Nat) : Prop:=Blk w gc #[.pointer (some ⟨r,0,none⟩),.int .i64 (b : Int),.int .i64 (m : Int)] 132
theorem Cr.stay {w w' : World} {gc r b m : Nat} (h : Cr w gc r b m) (hb : Below w.heap.size w w') : Cr w' gc r b m:=Blk.stay h hb
def cntB (D : Dk) (b i : Nat) : Int × Int × Int :=
 if ¬ (lookB D ((b : Int) + 2 * (i : Int) + 0)).1 = 0 ∧ ((lookB D ((b : Int) + 2 * (i : Int) + 1)).1 = 0 ∨ (lookB D ((b : Int) + 2 * (i : Int) + 1)).1 ≤ (lookB D ((b : Int) + 2 * (i : Int) + 0)).1) then (0,lookB D ((b : Int) + 2 * (i : Int) + 0))
 else if ¬ (lookB D ((b : Int) + 2 * (i : Int) + 1)).1 = 0 then (1,lookB D ((b : Int) + 2 * (i : Int) + 1)) else (2,0,0)
theorem look_zero (D : Dk) (p : Int) (h : (lookB D p).1 = 0) : lookB D p = (0,0):=by
 unfold lookB at *
 split
 ·rename_i h0
  rw [if_pos h0] at h
  unfold readB at *
  split
  ·rename_i hc
   rw [if_pos hc] at h
   simp only at h
   omega
  ·rfl
 ·rfl
theorem cnt_stand (D : Dk) (b i : Nat) : (cntB D b i).2 = (standB D b i).2 ∧ ((cntB D b i).1 = 0 ∧ (standB D b i).1 = 0 ∨ ¬ (cntB D b i).1 = 0 ∧ (standB D b i).1 = 1) ∧ decide ((cntB D b i).1 < 2) = decide (0 < (standB D b i).2.1) ∧ 0 ≤ (cntB D b i).1 ∧ (cntB D b i).1 ≤ 2:=by
 have rf:=look_range D ((b : Int) + 2 * (i : Int) + 0)
 have rs:=look_range D ((b : Int) + 2 * (i : Int) + 1)
 have zf:=look_zero D ((b : Int) + 2 * (i : Int) + 0)
 have zs:=look_zero D ((b : Int) + 2 * (i : Int) + 1)
 unfold cntB standB
 generalize lookB D ((b : Int) + 2 * (i : Int) + 0) = f at *
 generalize lookB D ((b : Int) + 2 * (i : Int) + 1) = s at *
 by_cases h1 : ¬ f.1 = 0 ∧ (s.1 = 0 ∨ s.1 ≤ f.1)
 ·rw [if_pos h1,if_neg (by omega)]
  refine ⟨rfl,.inl ⟨rfl,rfl⟩,?_,by simp,by simp⟩
  rw [decide_eq_true (by simp),decide_eq_true (by show 0 < f.1;omega)]
 ·have h3 : f.1 = 0 ∨ f.1 < s.1:=by omega
  by_cases h2 : ¬ s.1 = 0
  ·rw [if_neg h1,if_pos h2,if_pos h3]
   refine ⟨rfl,.inr ⟨by simp,rfl⟩,?_,by simp,by simp⟩
   rw [decide_eq_true (by simp),decide_eq_true (by show 0 < s.1;omega)]
  ·rw [if_neg h1,if_neg h2,if_pos h3]
   have hs:=zs (by omega)
   refine ⟨by rw [hs],.inr ⟨by simp,rfl⟩,?_,by simp,by simp⟩
   rw [decide_eq_false (by simp),decide_eq_false (by show ¬ 0 < s.1;omega)]
set_option maxRecDepth 100000 in
set_option maxHeartbeats 4000000 in
theorem ref_counts (w : World) (base r q : Nat) (sv rv : Value) (SV WV : List Value) (D : Dk) (gc b m i : Nat) (h : Rk w base r q sv rv SV WV D) (hc : Cr w gc r b m) (hb : b ≤ 1000) (hi : i ≤ 1000) :
  Calls Tryz.prog 86 #[.pointer (some ⟨gc,0,none⟩),.int .i64 (i : Int)] w fun e w' => e = .returned (.tuple #[.int .i64 (cntB D b i).1,.int .i64 (cntB D b i).2.1,.int .i64 (cntB D b i).2.2]) ∧ Below w.heap.size w w':=by
 obtain ⟨R,HR⟩ : ∃ R,Hid (R = cntB D b i):=⟨_,rfl⟩
 rw [← HR.out]
 obtain ⟨p,hp⟩ : ∃ p : Int,p = (b : Int) + 2 * (i : Int):=⟨_,rfl⟩
 obtain ⟨p2,hp2⟩ : ∃ p2 : Int,p2 = p + 1:=⟨_,rfl⟩
 obtain ⟨f,HF⟩ : ∃ f,Hid (f = lookB D p):=⟨_,rfl⟩
 obtain ⟨s,HS⟩ : ∃ s,Hid (s = lookB D p2):=⟨_,rfl⟩
 have HRV : Hid (R = if ¬ f.1 = 0 ∧ (s.1 = 0 ∨ s.1 ≤ f.1) then (0,f) else if ¬ s.1 = 0 then (1,s) else (2,0,0)):=by
  show _ = _
  rw [HR.out,cntB,HF.out,HS.out,hp2,hp,Int.add_zero]
 have HRF : Hid (0 ≤ f.1):=by show _ ≤ _;rw [HF.out];exact (look_range D p).1
 have HRS : Hid (0 ≤ s.1):=by show _ ≤ _;rw [HS.out];exact (look_range D p2).1
 have HFW : Hid (∀ er,er = readE D p → (er = 0 → Sec (nowB D p.toNat)) → wholeB (tellB er (nowB D p.toNat)) = f):=fun er he hs => by rw [tellB,whole_tell er _ hs,HF.out,lookB,he]
 have HSW : Hid (∀ er,er = readE D p2 → (er = 0 → Sec (nowB D p2.toNat)) → wholeB (tellB er (nowB D p2.toNat)) = s):=fun er he hs => by rw [tellB,whole_tell er _ hs,HS.out,lookB,he]
 have HRk : Hid (∀ w',Below w.heap.size w w' → Rk w' base r q sv rv SV WV D):=fun w' hb => h.stay hb
 have HCr : Hid (∀ w',Below w.heap.size w w' → Cr w' gc r b m):=fun w' hb => hc.stay hb
 have HBd : Hid (Below w.heap.size w w.drew):=(Below.refl _ _).drew
 have c0 : w.drew.cell? ⟨gc,0,none⟩ = some (.pointer (some ⟨r,0,none⟩)):=Blk.cell (HCr.out _ HBd.out) 0 rfl
 have c1 : w.drew.cell? ⟨gc,1,none⟩ = some (.int .i64 (b : Int)):=Blk.cell (HCr.out _ HBd.out) 1 rfl
 have y1 : IntKind.i64.wrap (2 * (i : Int)) = 2 * (i : Int):=by rw [IntKind.wrap_i64];omega
 have y2 : IntKind.i64.wrap ((b : Int) + 2 * (i : Int)) = p:=by rw [IntKind.wrap_i64,hp];omega
 have y3 : IntKind.i64.wrap (p + 1) = p2:=by rw [IntKind.wrap_i64,hp2,hp];omega
 clear h hc hp hp2 HR
 go_enter Tryz.func86,Tryz.ntmps86
 go_wp2
 go_region_held3 (fun w' => w'.cell? ⟨gc,0,none⟩ = some (.pointer (some ⟨r,0,none⟩)) ∧ w'.cell? ⟨gc,1,none⟩ = some (.int .i64 (b : Int))) (first | exact ⟨c0,c1⟩ | exact ⟨d0,d1⟩ | fail)
  (first | (go_at_call 41;refine (ref_Read _ base r q sv rv SV WV D p (HRk.out _ HBd.out)).mono ?_;rintro e w1 ⟨ht1,hb1⟩;obtain ⟨a1,l1,k1,rfl,hr1,hlc1,hx1,hs1⟩:=ht1.out.uni2;have HB1 : Hid (Below w.heap.size w w1):=HBd.out.trans hb1;have d0 : w1.cell? ⟨gc,0,none⟩ = some (.pointer (some ⟨r,0,none⟩)):=Blk.cell (HCr.out _ HB1.out) 0 rfl;have d1 : w1.cell? ⟨gc,1,none⟩ = some (.int .i64 (b : Int)):=Blk.cell (HCr.out _ HB1.out) 1 rfl))
 obtain ⟨X,hX⟩ : ∃ X,X = tellB (readE D p) (nowB D p.toNat):=⟨_,rfl⟩
 have HX : Hid (wholeB X = f):=by show _ = _;rw [hX];exact HFW.out _ rfl hs1
 rw [← hX] at hr1 hx1
 have HRd1 : Hid (Rd w1 a1 l1 X):=hr1
 have HX1 : Hid (X = [] ∨ Sec X):=hx1
 have hl1 : l1 ≤ k1:=hlc1
 obtain ⟨E1,hE1⟩ : ∃ E1,E1 = readE D p:=⟨_,rfl⟩
 rw [← hE1]
 clear ht1 hb1 hr1 hx1 hs1 hlc1 hX hE1 c0 c1 d0 d1 HFW
 have HB1d : Hid (Below w.heap.size w w1.drew):=HB1.out.drew
 have HBd1 : Hid (Below w1.heap.size w1 w1.drew):=(Below.refl _ _).drew
 have c0 : w1.drew.cell? ⟨gc,0,none⟩ = some (.pointer (some ⟨r,0,none⟩)):=Blk.cell (HCr.out _ HB1d.out) 0 rfl
 have c1 : w1.drew.cell? ⟨gc,1,none⟩ = some (.int .i64 (b : Int)):=Blk.cell (HCr.out _ HB1d.out) 1 rfl
 go_wp2
 go_region_held3 (fun w' => w'.cell? ⟨gc,0,none⟩ = some (.pointer (some ⟨r,0,none⟩)) ∧ w'.cell? ⟨gc,1,none⟩ = some (.int .i64 (b : Int))) (first | exact ⟨c0,c1⟩ | exact ⟨d0,d1⟩ | fail)
  (first | (go_at_call 41;refine (ref_Read _ base r q sv rv SV WV D p2 (HRk.out _ HB1d.out)).mono ?_;rintro e w2 ⟨ht2,hb2⟩;obtain ⟨a2,l2,k2,rfl,hr2,hlc2,hx2,hs2⟩:=ht2.out.uni2;have HB2 : Hid (Below w.heap.size w w2):=HB1d.out.trans (hb2.mono HB1d.out.size);have d0 : w2.cell? ⟨gc,0,none⟩ = some (.pointer (some ⟨r,0,none⟩)):=Blk.cell (HCr.out _ HB2.out) 0 rfl;have d1 : w2.cell? ⟨gc,1,none⟩ = some (.int .i64 (b : Int)):=Blk.cell (HCr.out _ HB2.out) 1 rfl))
 obtain ⟨Y,hY⟩ : ∃ Y,Y = tellB (readE D p2) (nowB D p2.toNat):=⟨_,rfl⟩
 have HY : Hid (wholeB Y = s):=by show _ = _;rw [hY];exact HSW.out _ rfl hs2
 rw [← hY] at hr2 hx2
 have HRd2 : Hid (Rd w2 a2 l2 Y):=hr2
 have HY2 : Hid (Y = [] ∨ Sec Y):=hx2
 have hl2 : l2 ≤ k2:=hlc2
 have HRd12 : Hid (Rd w2 a1 l1 X):=HRd1.out.below (HBd1.out.trans hb2)
 obtain ⟨E2,hE2⟩ : ∃ E2,E2 = readE D p2:=⟨_,rfl⟩
 rw [← hE2]
 clear ht2 hb2 hr2 hx2 hs2 hlc2 hY hE2 c0 c1 d0 d1 HSW
 go_wp2_with fail
 refine (ref_Whole w2 a1 l1 k1 X HRd12.out hl1 HX1.out).mono ?_
 rw [HX.out]
 rintro e w3 ⟨rfl,hb3⟩
 have HB3 : Hid (Below w.heap.size w w3):=HB2.out.trans (hb3.mono HB2.out.size)
 have HRd3 : Hid (Rd w3 a2 l2 Y):=HRd2.out.below hb3
 clear hb3
 go_wp2_with fail
 refine (ref_Whole w3 a2 l2 k2 Y HRd3.out hl2 HY2.out).mono ?_
 rw [HY.out]
 rintro e w4 ⟨rfl,hb4⟩
 have HB4 : Hid (Below w.heap.size w w4):=HB3.out.trans (hb4.mono HB3.out.size)
 clear hb4
 obtain ⟨fn,fv⟩:=f
 obtain ⟨sn,sw⟩:=s
 have h0f : 0 ≤ fn:=HRF.out
 have h0s : 0 ≤ sn:=HRS.out
 have HRV2 : Hid (R = if ¬ fn = 0 ∧ (sn = 0 ∨ sn ≤ fn) then (0,fn,fv) else if ¬ sn = 0 then (1,sn,sw) else (2,0,0)):=HRV.out
 by_cases z1 : fn = 0
 ·have t1 : decide (0 < fn) = false:=decide_eq_false (by omega)
  by_cases z2 : sn = 0
  ·have t2 : decide (0 < sn) = false:=decide_eq_false (by omega)
   have HE : Hid (R = (2,0,0)):=by show _ = _;rw [HRV2.out,if_neg (by omega),if_neg (by omega)]
   rw [t1,t2]
   clear z1 z2 t1 t2
   go_wp2
   go_returns
   exact ⟨by rw [HE.out];rfl,HB4.out⟩
  ·have t2 : decide (0 < sn) = true:=decide_eq_true (by omega)
   have HE : Hid (R = (1,sn,sw)):=by show _ = _;rw [HRV2.out,if_neg (by omega),if_pos z2]
   rw [t1,t2]
   clear z1 z2 t1 t2
   go_wp2
   go_returns
   exact ⟨by rw [HE.out];rfl,HB4.out⟩
 ·have t1 : decide (0 < fn) = true:=decide_eq_true (by omega)
  by_cases z2 : sn = 0
  ·have t2 : decide (0 < sn) = false:=decide_eq_false (by omega)
   have HE : Hid (R = (0,fn,fv)):=by show _ = _;rw [HRV2.out,if_pos (by omega)]
   rw [t1,t2]
   clear z1 z2 t1 t2
   go_wp2
   go_returns
   exact ⟨by rw [HE.out];rfl,HB4.out⟩
  ·have t2 : decide (0 < sn) = true:=decide_eq_true (by omega)
   by_cases z3 : sn ≤ fn
   ·have HE : Hid (R = (0,fn,fv)):=by show _ = _;rw [HRV2.out,if_pos ⟨z1,.inr z3⟩]
    rw [t1,t2]
    clear z1 z2 t1 t2
    go_wp2
    go_returns
    exact ⟨by rw [HE.out];rfl,HB4.out⟩
   ·have HE : Hid (R = (1,sn,sw)):=by show _ = _;rw [HRV2.out,if_neg (by omega),if_pos z2]
    rw [t1,t2]
    clear z1 z2 t1 t2
    go_wp2
    go_returns
    exact ⟨by rw [HE.out];rfl,HB4.out⟩
set_option maxRecDepth 100000 in
set_option maxHeartbeats 1000000 in
theorem ref_Get (w : World) (base r q : Nat) (sv rv : Value) (SV WV : List Value) (D : Dk) (gc b m : Nat) (i : Int) (h : Rk w base r q sv rv SV WV D) (hc : Cr w gc r b m) (hb : b ≤ 1000) (hm : m ≤ 1000) :
  Calls Tryz.prog 98 #[.pointer (some ⟨gc,0,none⟩),.int .i64 i] w fun e w' => e = .returned (.tuple #[.int .i64 (getB D b m i).1,.bool (getB D b m i).2]) ∧ Below w.heap.size w w':=by
 obtain ⟨R,HR⟩ : ∃ R,Hid (R = getB D b m i):=⟨_,rfl⟩
 rw [← HR.out]
 have HD : Hid (Rk w base r q sv rv SV WV D):=h
 have HC : Hid (Cr w gc r b m):=hc
 have c2 : w.cell? ⟨gc,2,none⟩ = some (.int .i64 (m : Int)):=Blk.cell hc 2 rfl
 clear h hc
 by_cases h0 : 0 ≤ i
 ·by_cases h1 : i < (m : Int)
  ·obtain ⟨j,rfl⟩:=Int.eq_ofNat_of_zero_le h0
   obtain ⟨⟨x,y,z⟩,HS⟩ : ∃ S,Hid (S = cntB D b j):=⟨_,rfl⟩
   have HX : Hid (R = (z,decide (x < 2))):=by
    show _ = _
    obtain ⟨g1,_,g3,_⟩:=cnt_stand D b j
    rw [← HS.out] at g1 g3
    simp only at g1 g3
    rw [HR.out,getB,if_pos ⟨h0,h1⟩,Int.toNat_natCast,g3,← g1]
   go_enter Tryz.func98,Tryz.ntmps98
   go_wp2_with fail
   refine (ref_counts w base r q sv rv SV WV D gc b m j HD.out HC.out hb (by omega)).mono ?_
   rw [← HS.out]
   rintro e w2 ⟨rfl,hb2⟩
   have HB2 : Hid (Below w.heap.size w w2):=hb2
   clear hb2 c2
   go_wp2
   go_returns
   exact ⟨by rw [HX.out];rfl,HB2.out⟩
  ·have HX : Hid (R = (0,false)):=by show _ = _;rw [HR.out,getB,if_neg (by omega)]
   go_enter Tryz.func98,Tryz.ntmps98
   go_wp2
   go_returns
   exact ⟨by rw [HX.out];rfl,Below.refl _ _⟩
 ·have HX : Hid (R = (0,false)):=by show _ = _;rw [HR.out,getB,if_neg (by omega)]
  go_enter Tryz.func98,Tryz.ntmps98
  go_wp2
  go_returns
  exact ⟨by rw [HX.out];rfl,Below.refl _ _⟩
end Go.Proofs.YtghajmcohdedlaaGreat
