import Derived.Test.YtghajmcohdedlaaGreatPk47
import Derived.Laws.BitsAllLaws
namespace Go.Proofs.YtghajmcohdedlaaGreat
open Go.RowKit
set_option maxRecDepth 100000 in
set_option maxHeartbeats 8000000 in
theorem e_do0 (w : World) (base gp g gs r N : Nat) (s : Se) (d : Dq) (h : Evs w base gp g gs r N s) (hk : d.kind = 0) (hdq : ∀ w',Below base w w' → DqOk w' d) (hw : s.D.waits.length ≤ 700000000) (hN : N ≤ 10000) :
  Calls Tryz.prog 9 #[.pointer (some ⟨gp,0,none⟩),.agg (boxE d)] w fun e w' => e = .returned (.bool true) ∧ Hid (Evs w' base gp g gs r (N + 1) (appE s d.at_ d.bs).2) ∧ Below base w w':=by
 obtain ⟨D,V,hi,rel,ag,P⟩:=s
 obtain ⟨gl,gc,gy,q,wv,sv,rv,SV,WV,uc,ur,L,L2,vc,vr,h,hP,hO⟩:=h
 obtain ⟨dk,di,ba,bl,bc,bs,fa,fl,fc,F⟩:=d
 simp only [boxE] at hk hdq hw hP hO h ⊢
 subst hk
 have HDQ0 : Hid (∀ w',Below base w w' → DqOk w' ⟨0,di,ba,bl,bc,bs,fa,fl,fc,F⟩):=hdq
 obtain ⟨W1,HW1⟩ : ∃ W1,Hid (W1 = w.alloc (.cells #[.int .i64 0,.int .i64 di,.slice ba bl bc,.slice fa fl fc] 30)):=⟨_,rfl⟩
 have HB1 : Hid (Below w.heap.size w W1):=by show Below _ _ _;rw [HW1.out];exact below_alloc _ _
 have HKX : Hid (Blk W1 w.heap.size #[.int .i64 0,.int .i64 di,.slice ba bl bc,.slice fa fl fc] 30):=by show Blk _ _ _ _;rw [HW1.out];exact Blk.new _ _ _
 have HE : Hid (Evp W1 base gp g gs gl gc r gy q ag wv sv rv SV WV D V uc ur hi rel L L2 vc vr):=h.stay HB1.out
 have HBS : Hid (base ≤ w.heap.size):=h.base
 have HB1b : Hid (Below base w W1):=HB1.out.mono HBS.out
 have HDQ : Hid (∀ w',Below base W1 w' → DqOk w' ⟨0,di,ba,bl,bc,bs,fa,fl,fc,F⟩):=fun w' hb => HDQ0.out w' (HB1b.out.trans hb)
 have HOK:=HDQ.out W1 (Below.refl _ _)
 have HNC : Hid (ba = none → bc = 0):=HOK.nc
 have HBL : Hid (bl ≤ 140737488351232 ∧ bs.length = bl):=⟨HOK.bb,HOK.rd.size⟩
 have HPO : Hid (L.map plR = P ∧ L2.map plR = P ∧ Okp N D V hi rel P ∧ D.waits.length ≤ 800000000 ∧ N ≤ 10000):=⟨hP,by rw [← h.same];exact hP,hO,by omega,hN⟩
 have HKD : Hid (∀ (k : Nat) (cs : Array Value) (w' : World),Blk w' k cs 30 → Blk w' k cs 30):=fun _ _ _ h => h
 obtain ⟨R,HR⟩ : ∃ R,Hid (appE ⟨D,V,hi,rel,ag,P⟩ di bs = R):=⟨_,rfl⟩
 have HRO : Hid (R.2.ag = ag ∧ Oke (N + 1) R.2):=by (show _ ∧ _);rw [← HR.out];exact ⟨rfl,(append_ok hO ag di bs).2.1⟩
 show Calls _ _ _ _ fun e w' => e = .returned (.bool true) ∧ Hid (Evs w' base gp g gs r (N + 1) (appE ⟨D,V,hi,rel,ag,P⟩ di bs).2) ∧ Below base w w'
 rw [HR.out]
 obtain ⟨E,S⟩:=R
 have HW2 : Hid (Below W1.heap.size W1 (W1.alloc (.cells #[] 5))):=below_alloc _ _
 have HZW : W1.heap.size = w.heap.size + 1:=by rw [HW1.out];simp
 have HOE : Hid (Own (W1.alloc (.cells #[] 5)) W1.heap.size (some ⟨w.heap.size + 1,0,none⟩) 0 0 []):=by (show Own _ _ _ _ _ _);rw [← HZW];exact Own.empty _
 have HRB : Hid (Rd (W1.alloc (.cells #[] 5)) ba bl bs):=(HDQ.out _ (HW2.out.mono (Nat.le_trans HBS.out HB1.out.size))).rd
 have cb2 : (W1.alloc (.cells #[] 5)).cell? ⟨w.heap.size,2,none⟩ = some (.slice ba bl bc):=(HKX.out.stay HW2.out).cell 2 rfl
 clear h hdq hP hO hw hN HOK HKD HZW
 go_enter Tryz.func9,Tryz.ntmps9
 rw [HW1.out] at cb2
 go_wp2_with (at_builtin;rw [← HW1.out];refine wpList_append_rd (by rfl) (.tmp 31) (.tmp 33) (by rfl) W1.heap.size (some ⟨w.heap.size + 1,0,none⟩) 0 0 [] (by rfl) HOE.out ba bl bc bs (by rfl) HRB.out HNC.out (by have:=HBL.out.1;omega) HW2.out.size ?_)
 intro ao co w3 hown hgrow hbel
 have HON : Hid (Own w3 W1.heap.size ao bl co bs):=hown
 have HB3 : Hid (Below W1.heap.size W1 w3):=HW2.out.trans hbel
 obtain ⟨q',HQ'⟩ : ∃ q',Hid ((q' = q ∨ W1.heap.size ≤ q') ∧ q' < w3.heap.size ∧ ∀ k,some k = (Value.slice ao bl co).ownBlock → k = q'):=by
  cases ho : (Value.slice ao bl co).ownBlock with
  | none => exact ⟨q,.inl rfl,Nat.lt_of_lt_of_le HE.out.qq HB3.out.size,fun k hk => by cases hk⟩
  | some k0 => exact ⟨k0,.inr (HON.out.row.lt k0 ho).1,(HON.out.row.lt k0 ho).2,fun k hk => by simpa using hk⟩
 have HSK : Hid (∀ k,some k = (Value.slice ao bl co).ownBlock → W1.heap.size ≤ k ∧ k < w3.heap.size):=fun k hk => HON.out.row.lt k hk.symm
 have HE3 : Hid (Evp w3 base gp g gs gl gc r gy q' ag wv sv rv SV WV D V uc ur hi rel L L2 vc vr):=HE.out.requ HB3.out HQ'.out.1 HQ'.out.2.1
 have HK3 : Hid (Blk w3 w.heap.size #[.int .i64 0,.int .i64 di,.slice ba bl bc,.slice fa fl fc] 30):=HKX.out.stay HB3.out
 have HBB : Hid (Below base W1 w3):=HB3.out.mono (Nat.le_trans HBS.out HB1.out.size)
 have c1 : w3.cell? ⟨gp,1,none⟩ = some (.pointer (some ⟨gl,0,none⟩)):=Blk.cell HE3.out.pr 1 rfl
 clear hown hgrow hbel cb2
 go_wp2_with fail
 clear c1
 refine (app_code HE3.out.lc HPO.out.1 HPO.out.2.2.1 HPO.out.2.2.2.2 HPO.out.2.2.2.1 di ao bl co bs W1.heap.size HBL.out.2 (fun h4 => .inl (HON.out.bd (by omega))) HON.out.nil_cap).mono ?_
 rw [HR.out]
 intro e w4 hc4
 have he4:=hc4.1
 subst he4
 have HC4 : Hid (CodeDid w3 base g gs gl gc ag uc vc L (E,S) (.returned (.int .i64 E)) w4.drew):=hc4.below (Below.refl _ _).drew (Nat.le_trans HE3.out.base hc4.2.2.out.low.size)
 have HM4:=HE3.out.mid HC4.out.2.2.out
 have HK4 : Hid (Blk w4.drew w.heap.size #[.int .i64 0,.int .i64 di,.slice ba bl bc,.slice fa fl fc] 30):=HE3.out.lc.left HC4.out.2.2.out HK3.out (by decide) (by decide) (by decide) (by decide) (by decide) (.inl (by decide))
 have HON4 : Hid (Own w4.drew W1.heap.size ao bl co bs):=HON.out.typ (fun k cs hk => HE3.out.lc.left HC4.out.2.2.out hk (by decide) (by decide) (by decide) (by decide) (by decide) (.inl (by decide)))
 have HRD4 : Hid (∀ w',Below base w4.drew w' → Rd w' ba bl bs):=fun w' hb => (HDQ.out w' ((HBB.out.trans HC4.out.2.2.out.low).trans hb)).rd
 have s4 : w4.drew.cell? ⟨gp,3,none⟩ = some (.pointer (some ⟨gy,0,none⟩)) ∧ w4.drew.cell? ⟨w.heap.size,2,none⟩ = some (.slice ba bl bc):=⟨Blk.cell HM4.2.2 3 rfl,HK4.out.cell 2 rfl⟩
 clear hc4
 go_wp2
 go_region_held3 (fun w' => w'.cell? ⟨gp,3,none⟩ = some (.pointer (some ⟨gy,0,none⟩)) ∧ w'.cell? ⟨w.heap.size,2,none⟩ = some (.slice ba bl bc)) (first | exact s4 | exact s5 | fail)
  (first
   | (go_at_call 29;refine (app_ref HM4.1 HM4.2.1 HPO.out.2.1 HPO.out.2.2.1 HPO.out.2.2.2.2 HPO.out.2.2.2.1 di ba bl bc bs HBL.out.2 HRD4.out HNC.out).mono ?_;rw [HR.out];intro e w5 hc5;have he5:=hc5.1;subst he5;have s5 : w5.cell? ⟨gp,3,none⟩ = some (.pointer (some ⟨gy,0,none⟩)) ∧ w5.cell? ⟨w.heap.size,2,none⟩ = some (.slice ba bl bc):=⟨Blk.cell (show Pr11 w5 gp g gl r gy from HM4.1.left hc5.2.2.out HM4.2.2 (by decide) (by decide) (by decide) (by decide) (by decide) (.inl (by decide))) 3 rfl,(show Blk w5 w.heap.size _ 30 from HM4.1.left hc5.2.2.out HK4.out (by decide) (by decide) (by decide) (by decide) (by decide) (.inl (by decide))).cell 2 rfl⟩))
 have HX5 : Hid (Evx (fun k => some k = (Value.slice ao bl co).ownBlock) w5 base gp g gs r (N + 1) S):=HE.out.didx HE3.out HC4.out hc5 HRO.out.1 HRO.out.2 HSK.out HQ'.out.2.2
 have HON5 : Hid (Own w5 W1.heap.size ao bl co bs):=HON4.out.typ (fun k cs hk => HM4.1.left hc5.2.2.out hk (by decide) (by decide) (by decide) (by decide) (by decide) (.inl (by decide)))
 have HBW5 : Hid (Below base w w5):=((HB1b.out.trans HBB.out).trans HC4.out.2.2.out.low).trans hc5.2.2.out.low
 have HSB : Hid (base ≤ W1.heap.size):=Nat.le_trans HBS.out HB1.out.size
 clear s4 s5 hc5 HM4
 go_wp2
 go_loopw [9] (fun t9 wr => ∃ (i : Nat) (X : List Nat),i ≤ bl ∧ t9 = .int .i64 (i : Int) ∧ Hid (Own wr W1.heap.size ao bl co X) ∧ Hid (Frm (fun k => some k = (Value.slice ao bl co).ownBlock) w5 wr)) (fun t9 _ => bl - (intOf t9).toNat)
 case atStart => exact ⟨0,bs,by omega,rfl,HON5,Frm.refl _ _⟩
 case round =>
  obtain ⟨i,X,hi0,rfl,HO,HF⟩:=hrel
  by_cases hlt : i < bl
  ·have hlt' : (i : Int) < (bl : Int):=by omega
   have hblb : bl ≤ 140737488351232:=HBL.out.1
   obtain ⟨g2,hg2,_,_⟩:=HO.out.form (by omega)
   subst hg2
   obtain ⟨c,HC⟩ : ∃ c,Hid (c = X.getD i 0):=⟨_,rfl⟩
   have hcx : wr.cell? ⟨g2,i,none⟩ = some (.int .u8 (c : Int)):=by rw [HC.out];exact HO.out.cell i hlt
   have hfr : wr.frozen? ⟨g2,i,none⟩ = false:=HO.out.free _
   have hc : c < 256:=by rw [HC.out];exact getD_lt HO.out.byte _
   obtain ⟨z,HZ⟩ : ∃ z,Hid (z = c ^^^ 65):=⟨_,rfl⟩
   have ez : bits BinOp.xor IntKind.u8 (c : Int) 65 = (z : Int):=by rw [HZ.out];exact u8_xor_nat c 65 hc (by omega)
   have hz8 : z < 256:=by rw [HZ.out];exact Nat.xor_lt_two_pow (n:=8) hc (by omega)
   have HO' : Hid (Own (wr.setCell ⟨g2,i,none⟩ (.int .u8 (z : Int))) W1.heap.size (some ⟨g2,0,none⟩) bl co (X.set i z)):=HO.out.set i z hz8
   have HF' : Hid (Frm (fun k => some k = (Value.slice (some ⟨g2,0,none⟩) bl co).ownBlock) w5 (wr.setCell ⟨g2,i,none⟩ (.int .u8 (z : Int)))):=HF.out.set rfl i _
   go_wp2
   go_roundw
   case rel => exact ⟨i + 1,X.set i z,by omega,by go_num,HO',HF'⟩
   case measure => simp [intOf];omega
  ·have hnl : ¬ (i : Int) < (bl : Int):=by omega
   have HFE : Hid (Evs wr base gp g gs r (N + 1) S):=HX5.out.poke HF.out (fun k cs t fr hk hb => HON5.out.tyb k cs t fr hk hb)
   have HBE : Hid (Below base w wr):=HBW5.out.trans (HF.out.below (Nat.le_trans HBS.out (HBW5.out.size)) (fun k hk => Nat.le_trans HSB.out (HSK.out k hk).1))
   go_wp2
   go_ret
   exact ⟨by simp,HFE,HBE.out⟩
end Go.Proofs.YtghajmcohdedlaaGreat

namespace Go.Proofs.YtghajmcohdedlaaGreat
open Go.RowKit
set_option maxRecDepth 100000 in
set_option maxHeartbeats 8000000 in
theorem e_do6 (w : World) (base gp g gs r N : Nat) (s : Se) (d : Dq) (h : Evs w base gp g gs r N s) (hk : d.kind = 6) (hdq : ∀ w',Below base w w' → DqOk w' d) (hw : s.D.waits.length ≤ 700000000) (hN : N ≤ 10000) :
  Calls Tryz.prog 9 #[.pointer (some ⟨gp,0,none⟩),.agg (boxE d)] w fun e w' => e = .returned (.bool true) ∧ Hid (Evs w' base gp g gs r (N + 1) (appE s (aboveF s.hi d.at_) d.bs).2) ∧ Below base w w':=by
 obtain ⟨D,V,hi,rel,ag,P⟩:=s
 obtain ⟨gl,gc,gy,q,wv,sv,rv,SV,WV,uc,ur,L,L2,vc,vr,h,hP,hO⟩:=h
 obtain ⟨dk,di,ba,bl,bc,bs,fa,fl,fc,F⟩:=d
 simp only [boxE] at hk hdq hw hP hO h ⊢
 subst hk
 have HDQ0 : Hid (∀ w',Below base w w' → DqOk w' ⟨6,di,ba,bl,bc,bs,fa,fl,fc,F⟩):=hdq
 obtain ⟨W1,HW1⟩ : ∃ W1,Hid (W1 = w.alloc (.cells #[.int .i64 6,.int .i64 di,.slice ba bl bc,.slice fa fl fc] 30)):=⟨_,rfl⟩
 obtain ⟨Wd,HWD⟩ : ∃ Wd,Hid (Wd = W1.drew):=⟨_,rfl⟩
 have HB1 : Hid (Below w.heap.size w Wd):=by show Below _ _ _;rw [HWD.out,HW1.out];exact (below_alloc _ _).drew
 have HKX : Hid (Blk Wd w.heap.size #[.int .i64 6,.int .i64 di,.slice ba bl bc,.slice fa fl fc] 30):=by show Blk _ _ _ _;rw [HWD.out,HW1.out];exact Blk.new _ _ _
 have HE : Hid (Evp Wd base gp g gs gl gc r gy q ag wv sv rv SV WV D V uc ur hi rel L L2 vc vr):=h.stay HB1.out
 have HBS : Hid (base ≤ w.heap.size):=h.base
 have HB1b : Hid (Below base w Wd):=HB1.out.mono HBS.out
 have HDQ : Hid (∀ w',Below base Wd w' → DqOk w' ⟨6,di,ba,bl,bc,bs,fa,fl,fc,F⟩):=fun w' hb => HDQ0.out w' (HB1b.out.trans hb)
 have HOK:=HDQ.out Wd (Below.refl _ _)
 have HNC : Hid (ba = none → bc = 0):=HOK.nc
 have HBL : Hid (bl ≤ 140737488351232 ∧ bs.length = bl):=⟨HOK.bb,HOK.rd.size⟩
 have HPO : Hid (L.map plR = P ∧ L2.map plR = P ∧ Okp N D V hi rel P ∧ D.waits.length ≤ 800000000 ∧ N ≤ 10000):=⟨hP,by rw [← h.same];exact hP,hO,by omega,hN⟩
 have HKD : Hid (∀ (k : Nat) (cs : Array Value) (w' : World),Blk w' k cs 30 → Blk w' k cs 30):=fun _ _ _ h => h
 obtain ⟨R,HR⟩ : ∃ R,Hid (appE ⟨D,V,hi,rel,ag,P⟩ (aboveF hi di) bs = R):=⟨_,rfl⟩
 have HRO : Hid (R.2.ag = ag ∧ Oke (N + 1) R.2):=by (show _ ∧ _);rw [← HR.out];exact ⟨rfl,(append_ok hO ag (aboveF hi di) bs).2.1⟩
 show Calls _ _ _ _ fun e w' => e = .returned (.bool true) ∧ Hid (Evs w' base gp g gs r (N + 1) (appE ⟨D,V,hi,rel,ag,P⟩ (aboveF hi di) bs).2) ∧ Below base w w'
 rw [HR.out]
 obtain ⟨E,S⟩:=R
 obtain ⟨t,HT⟩ : ∃ t,Hid (aboveF hi di = t):=⟨_,rfl⟩
 rw [HT.out] at HR
 have HHI : Hid (hi ≤ 1099511627776):=hO.hh
 have s1 : W1.drew.cell? ⟨gp,3,none⟩ = some (.pointer (some ⟨gy,0,none⟩)) ∧ W1.drew.cell? ⟨gy,4,none⟩ = some (.int .i64 (hi : Int)) ∧ W1.drew.cell? ⟨w.heap.size,1,none⟩ = some (.int .i64 di):=by rw [← HWD.out];exact ⟨Blk.cell HE.out.pr 3 rfl,Blk.cell HE.out.lr.log 4 rfl,HKX.out.cell 1 rfl⟩
 have HW2 : Hid (Below Wd.heap.size Wd (Wd.alloc (.cells #[] 5))):=below_alloc _ _
 have HZW : Wd.heap.size = Wd.heap.size:=by rfl
 have HOE : Hid (Own (Wd.alloc (.cells #[] 5)) Wd.heap.size (some ⟨Wd.heap.size,0,none⟩) 0 0 []):=by (show Own _ _ _ _ _ _);rw [← HZW];exact Own.empty _
 have HRB : Hid (Rd (Wd.alloc (.cells #[] 5)) ba bl bs):=(HDQ.out _ (HW2.out.mono (Nat.le_trans HBS.out HB1.out.size))).rd
 have cb2 : (Wd.alloc (.cells #[] 5)).cell? ⟨w.heap.size,2,none⟩ = some (.slice ba bl bc):=(HKX.out.stay HW2.out).cell 2 rfl
 clear h hdq hP hO hw hN HOK HKD HZW
 go_enter Tryz.func9,Tryz.ntmps9
 go_wp2_with fail
 rw [← HW1.out]
 go_region_held3 (fun w' => w'.cell? ⟨gp,3,none⟩ = some (.pointer (some ⟨gy,0,none⟩)) ∧ w'.cell? ⟨gy,4,none⟩ = some (.int .i64 (hi : Int)) ∧ w'.cell? ⟨w.heap.size,1,none⟩ = some (.int .i64 di)) (exact s1)
  (first
   | (go_at_call 28;refine (law_above hi di HHI.out _).mono ?_;rw [HT.out];rintro e w2 ⟨rfl,rfl⟩))
 clear s1
 rw [← HWD.out]
 go_wp2_with (at_builtin;refine wpList_append_rd (by rfl) (.tmp 31) (.tmp 33) (by rfl) Wd.heap.size (some ⟨Wd.heap.size,0,none⟩) 0 0 [] (by rfl) HOE.out ba bl bc bs (by rfl) HRB.out HNC.out (by have:=HBL.out.1;omega) HW2.out.size ?_)
 intro ao co w3 hown hgrow hbel
 have HON : Hid (Own w3 Wd.heap.size ao bl co bs):=hown
 have HB3 : Hid (Below Wd.heap.size Wd w3):=HW2.out.trans hbel
 obtain ⟨q',HQ'⟩ : ∃ q',Hid ((q' = q ∨ Wd.heap.size ≤ q') ∧ q' < w3.heap.size ∧ ∀ k,some k = (Value.slice ao bl co).ownBlock → k = q'):=by
  cases ho : (Value.slice ao bl co).ownBlock with
  | none => exact ⟨q,.inl rfl,Nat.lt_of_lt_of_le HE.out.qq HB3.out.size,fun k hk => by cases hk⟩
  | some k0 => exact ⟨k0,.inr (HON.out.row.lt k0 ho).1,(HON.out.row.lt k0 ho).2,fun k hk => by simpa using hk⟩
 have HSK : Hid (∀ k,some k = (Value.slice ao bl co).ownBlock → Wd.heap.size ≤ k ∧ k < w3.heap.size):=fun k hk => HON.out.row.lt k hk.symm
 have HE3 : Hid (Evp w3 base gp g gs gl gc r gy q' ag wv sv rv SV WV D V uc ur hi rel L L2 vc vr):=HE.out.requ HB3.out HQ'.out.1 HQ'.out.2.1
 have HK3 : Hid (Blk w3 w.heap.size #[.int .i64 6,.int .i64 di,.slice ba bl bc,.slice fa fl fc] 30):=HKX.out.stay HB3.out
 have HBB : Hid (Below base Wd w3):=HB3.out.mono (Nat.le_trans HBS.out HB1.out.size)
 have c1 : w3.cell? ⟨gp,1,none⟩ = some (.pointer (some ⟨gl,0,none⟩)):=Blk.cell HE3.out.pr 1 rfl
 clear hown hgrow hbel cb2
 go_wp2_with fail
 clear c1
 refine (app_code HE3.out.lc HPO.out.1 HPO.out.2.2.1 HPO.out.2.2.2.2 HPO.out.2.2.2.1 t ao bl co bs Wd.heap.size HBL.out.2 (fun h4 => .inl (HON.out.bd (by omega))) HON.out.nil_cap).mono ?_
 rw [HR.out]
 intro e w4 hc4
 have he4:=hc4.1
 subst he4
 have HC4 : Hid (CodeDid w3 base g gs gl gc ag uc vc L (E,S) (.returned (.int .i64 E)) w4.drew):=hc4.below (Below.refl _ _).drew (Nat.le_trans HE3.out.base hc4.2.2.out.low.size)
 have HM4:=HE3.out.mid HC4.out.2.2.out
 have HK4 : Hid (Blk w4.drew w.heap.size #[.int .i64 6,.int .i64 di,.slice ba bl bc,.slice fa fl fc] 30):=HE3.out.lc.left HC4.out.2.2.out HK3.out (by decide) (by decide) (by decide) (by decide) (by decide) (.inl (by decide))
 have HON4 : Hid (Own w4.drew Wd.heap.size ao bl co bs):=HON.out.typ (fun k cs hk => HE3.out.lc.left HC4.out.2.2.out hk (by decide) (by decide) (by decide) (by decide) (by decide) (.inl (by decide)))
 have HRD4 : Hid (∀ w',Below base w4.drew w' → Rd w' ba bl bs):=fun w' hb => (HDQ.out w' ((HBB.out.trans HC4.out.2.2.out.low).trans hb)).rd
 have s4 : w4.drew.cell? ⟨gp,3,none⟩ = some (.pointer (some ⟨gy,0,none⟩)) ∧ w4.drew.cell? ⟨w.heap.size,2,none⟩ = some (.slice ba bl bc):=⟨Blk.cell HM4.2.2 3 rfl,HK4.out.cell 2 rfl⟩
 clear hc4
 go_wp2
 go_region_held3 (fun w' => w'.cell? ⟨gp,3,none⟩ = some (.pointer (some ⟨gy,0,none⟩)) ∧ w'.cell? ⟨w.heap.size,2,none⟩ = some (.slice ba bl bc)) (first | exact s4 | exact s5 | fail)
  (first
   | (go_at_call 29;refine (app_ref HM4.1 HM4.2.1 HPO.out.2.1 HPO.out.2.2.1 HPO.out.2.2.2.2 HPO.out.2.2.2.1 t ba bl bc bs HBL.out.2 HRD4.out HNC.out).mono ?_;rw [HR.out];intro e w5 hc5;have he5:=hc5.1;subst he5;have s5 : w5.cell? ⟨gp,3,none⟩ = some (.pointer (some ⟨gy,0,none⟩)) ∧ w5.cell? ⟨w.heap.size,2,none⟩ = some (.slice ba bl bc):=⟨Blk.cell (show Pr11 w5 gp g gl r gy from HM4.1.left hc5.2.2.out HM4.2.2 (by decide) (by decide) (by decide) (by decide) (by decide) (.inl (by decide))) 3 rfl,(show Blk w5 w.heap.size _ 30 from HM4.1.left hc5.2.2.out HK4.out (by decide) (by decide) (by decide) (by decide) (by decide) (.inl (by decide))).cell 2 rfl⟩))
 have HX5 : Hid (Evx (fun k => some k = (Value.slice ao bl co).ownBlock) w5 base gp g gs r (N + 1) S):=HE.out.didx HE3.out HC4.out hc5 HRO.out.1 HRO.out.2 HSK.out HQ'.out.2.2
 have HON5 : Hid (Own w5 Wd.heap.size ao bl co bs):=HON4.out.typ (fun k cs hk => HM4.1.left hc5.2.2.out hk (by decide) (by decide) (by decide) (by decide) (by decide) (.inl (by decide)))
 have HBW5 : Hid (Below base w w5):=((HB1b.out.trans HBB.out).trans HC4.out.2.2.out.low).trans hc5.2.2.out.low
 have HSB : Hid (base ≤ Wd.heap.size):=Nat.le_trans HBS.out HB1.out.size
 clear s4 s5 hc5 HM4
 go_wp2
 go_loopw [9] (fun t9 wr => ∃ (i : Nat) (X : List Nat),i ≤ bl ∧ t9 = .int .i64 (i : Int) ∧ Hid (Own wr Wd.heap.size ao bl co X) ∧ Hid (Frm (fun k => some k = (Value.slice ao bl co).ownBlock) w5 wr)) (fun t9 _ => bl - (intOf t9).toNat)
 case atStart => exact ⟨0,bs,by omega,rfl,HON5,Frm.refl _ _⟩
 case round =>
  obtain ⟨i,X,hi0,rfl,HO,HF⟩:=hrel
  by_cases hlt : i < bl
  ·have hlt' : (i : Int) < (bl : Int):=by omega
   have hblb : bl ≤ 140737488351232:=HBL.out.1
   obtain ⟨g2,hg2,_,_⟩:=HO.out.form (by omega)
   subst hg2
   obtain ⟨c,HC⟩ : ∃ c,Hid (c = X.getD i 0):=⟨_,rfl⟩
   have hcx : wr.cell? ⟨g2,i,none⟩ = some (.int .u8 (c : Int)):=by rw [HC.out];exact HO.out.cell i hlt
   have hfr : wr.frozen? ⟨g2,i,none⟩ = false:=HO.out.free _
   have hc : c < 256:=by rw [HC.out];exact getD_lt HO.out.byte _
   obtain ⟨z,HZ⟩ : ∃ z,Hid (z = c ^^^ 65):=⟨_,rfl⟩
   have ez : bits BinOp.xor IntKind.u8 (c : Int) 65 = (z : Int):=by rw [HZ.out];exact u8_xor_nat c 65 hc (by omega)
   have hz8 : z < 256:=by rw [HZ.out];exact Nat.xor_lt_two_pow (n:=8) hc (by omega)
   have HO' : Hid (Own (wr.setCell ⟨g2,i,none⟩ (.int .u8 (z : Int))) Wd.heap.size (some ⟨g2,0,none⟩) bl co (X.set i z)):=HO.out.set i z hz8
   have HF' : Hid (Frm (fun k => some k = (Value.slice (some ⟨g2,0,none⟩) bl co).ownBlock) w5 (wr.setCell ⟨g2,i,none⟩ (.int .u8 (z : Int)))):=HF.out.set rfl i _
   go_wp2
   go_roundw
   case rel => exact ⟨i + 1,X.set i z,by omega,by go_num,HO',HF'⟩
   case measure => simp [intOf];omega
  ·have hnl : ¬ (i : Int) < (bl : Int):=by omega
   have HFE : Hid (Evs wr base gp g gs r (N + 1) S):=HX5.out.poke HF.out (fun k cs t fr hk hb => HON5.out.tyb k cs t fr hk hb)
   have HBE : Hid (Below base w wr):=HBW5.out.trans (HF.out.below (Nat.le_trans HBS.out (HBW5.out.size)) (fun k hk => Nat.le_trans HSB.out (HSK.out k hk).1))
   go_wp2
   go_ret
   exact ⟨by simp,HFE,HBE.out⟩
end Go.Proofs.YtghajmcohdedlaaGreat

namespace Go.Proofs.YtghajmcohdedlaaGreat
open Go.RowKit
def stepA (s : Se) (d : Dq) : Se:=if d.kind = 0 then (appE s d.at_ d.bs).2 else if d.kind = 6 then (appE s (aboveF s.hi d.at_) d.bs).2 else if d.kind = 4 then opE (crashD s.D d.F) else stepE s d
theorem Evs.mono {w : World} {base gp g gs r N N' : Nat} {s : Se} (h : Evs w base gp g gs r N s) (hn : N ≤ N') : Evs w base gp g gs r N' s:=Ev.mono h hn
theorem Evs.ok {w : World} {base gp g gs r N : Nat} {s : Se} (h : Evs w base gp g gs r N s) : Oke N s:=by
 obtain ⟨gl,gc,gy,q,wv,sv,rv,SV,WV,uc,ur,L,L2,vc,vr,h1,h2,h3⟩:=h
 exact h3
theorem step_gr {N : Nat} {s : Se} (h : Oke N s) (d : Dq) : (stepA s d).D.waits.length ≤ s.D.waits.length + 40 ∧ (stepA s d).D.age ≤ s.D.age + 1:=by
 have of : ∀ {E : Dk},Gr 40 s.D E → E.waits.length ≤ s.D.waits.length + 40 ∧ E.age ≤ s.D.age + 1:=fun g => ⟨g.wl,by have:=g.ag;omega⟩
 have og : ∀ {E : Dk},Grew s.D E → E.waits.length ≤ s.D.waits.length + 40 ∧ E.age ≤ s.D.age + 1:=fun g => ⟨by have:=g.wl;omega,g.ag⟩
 unfold stepA
 split
 ·exact of (append_ok h s.ag _ _).1
 split
 ·exact of (append_ok h s.ag _ _).1
 split
 ·have hc:=crash_grew s.D d.F
  have h2:=(op_ok (D:=crashD s.D d.F) (by rw [hc.sl];exact h.sl) (crash_calm s.D d.F)).2.2
  have e1 : (crashD s.D d.F).waits.length = 0:=rfl
  have e2 : (crashD s.D d.F).age = s.D.age + 1:=rfl
  exact ⟨by show (opD _).waits.length ≤ _;have:=h2.wl;omega,by show (opD _).age ≤ _;have:=h2.ag;omega⟩
 unfold stepE
 split
 ·exact of (syn_gr s)
 split
 ·exact of (chop_ok h s.ag _).1
 split
 ·exact og (trip_grew s.D _)
 split
 ·exact og (write_grew s.D _ _)
 ·exact ⟨by omega,by omega⟩
theorem e_do (w : World) (base gp g gs r N : Nat) (s : Se) (d : Dq) (h : Evs w base gp g gs r N s) (hdq : ∀ w',Below base w w' → DqOk w' d) (hw : s.D.waits.length ≤ 700000000) (ha : s.D.age < 1000000000) (h60 : 60 ≤ N) (hN : N ≤ 10000) :
  Calls Tryz.prog 9 #[.pointer (some ⟨gp,0,none⟩),.agg (boxE d)] w fun e w' => e = .returned (.bool true) ∧ Hid (Evs w' base gp g gs r (N + 1) (stepA s d)) ∧ Below base w w':=by
 have up : ∀ {S : Se} {e : Ending} {w' : World},(e = .returned (.bool true) ∧ Hid (Evs w' base gp g gs r N S) ∧ Below base w w') → e = .returned (.bool true) ∧ Hid (Evs w' base gp g gs r (N + 1) S) ∧ Below base w w':=fun h => ⟨h.1,h.2.1.out.mono (Nat.le_succ N),h.2.2⟩
 unfold stepA
 by_cases h0 : d.kind = 0
 ·rw [if_pos h0];exact e_do0 w base gp g gs r N s d h h0 hdq hw hN
 rw [if_neg h0]
 by_cases h6 : d.kind = 6
 ·rw [if_pos h6];exact e_do6 w base gp g gs r N s d h h6 hdq hw hN
 rw [if_neg h6]
 by_cases h4 : d.kind = 4
 ·rw [if_pos h4];exact (e_do4 w base gp g gs r N s d h h4 hdq h60 ha).mono fun _ _ h => up h
 rw [if_neg h4]
 unfold stepE
 by_cases h1 : d.kind = 1
 ·rw [if_pos h1];exact (e_do1 w base gp g gs r N s d h h1 hdq hw hN).mono fun _ _ h => up h
 rw [if_neg h1]
 by_cases h2 : d.kind = 2
 ·rw [if_pos h2];exact (e_do2 w base gp g gs r N s d h h2 hdq hw hN).mono fun _ _ h => up h
 rw [if_neg h2]
 by_cases h3 : d.kind = 3
 ·rw [if_pos h3];exact (e_do3 w base gp g gs r N s d h h3 hdq hw hN).mono fun _ _ h => up h
 rw [if_neg h3]
 by_cases h5 : d.kind = 5
 ·rw [if_pos h5];exact (e_do5 w base gp g gs r N s d h h5 hdq hw hN).mono fun _ _ h => up h
 rw [if_neg h5]
 exact (e_doN w base gp g gs r N s d h h0 h1 h2 h3 h4 h5 h6).mono fun _ _ h => up h
theorem calm_writeA {D : Dk} (h : Calm D) (i : Int) (bs : List Nat) : Calm (writeD D i bs):=by
 have ht:=calm_trips h
 unfold writeD
 split
 ·exact h
 split
 ·exact h
 split
 ·exact h
 split
 ·exact ht.2
 ·exact ht.2
def rawD (l : List Dq) : Dk:=l.foldl (fun D q => writeD D q.at_ q.bs) (newD 52)
theorem rawD_snoc (l : List Dq) (q : Dq) : rawD (l ++ [q]) = writeD (rawD l) q.at_ q.bs:=by unfold rawD;rw [List.foldl_append];rfl
theorem rawD_ok (l : List Dq) : Calm (rawD l) ∧ (rawD l).sure.length = 52 ∧ (rawD l).waits.length ≤ l.length ∧ (rawD l).age = 0:=by
 suffices h : ∀ (l : List Dq) (D : Dk),Calm D → D.sure.length = 52 → Calm (l.foldl (fun D q => writeD D q.at_ q.bs) D) ∧ (l.foldl (fun D q => writeD D q.at_ q.bs) D).sure.length = 52 ∧ (l.foldl (fun D q => writeD D q.at_ q.bs) D).waits.length ≤ D.waits.length + l.length ∧ (l.foldl (fun D q => writeD D q.at_ q.bs) D).age = D.age by
  have:=h l (newD 52) ⟨rfl,rfl⟩ (by simp [newD])
  refine ⟨this.1,this.2.1,?_,this.2.2.2⟩
  have h0 : (newD 52).waits.length = 0:=rfl
  unfold rawD
  omega
 intro l
 induction l with
 | nil => exact fun D h1 h2 => ⟨h1,h2,Nat.le_refl _,rfl⟩
 | cons q l ih =>
  intro D h1 h2
  have g:=write_gr D q.at_ q.bs
  have:=ih (writeD D q.at_ q.bs) (calm_writeA h1 _ _) (g.sl.trans h2)
  refine ⟨this.1,this.2.1,?_,this.2.2.2.trans g.ag⟩
  have h3:=this.2.2.1
  have h4:=g.wl
  rw [List.foldl_cons,List.length_cons]
  omega
end Go.Proofs.YtghajmcohdedlaaGreat

namespace Go.Proofs.YtghajmcohdedlaaGreat
open Go.RowKit
def StartTold (w w' : World) (l : List Dq) (e : Ending) : Prop:=∃ gp g gs r,e = .returned (.tuple #[.pointer (some ⟨gp,0,none⟩),.bool true]) ∧ Evs w' w.heap.size gp g gs r 60 (opE (rawD (l.take 200)))
set_option maxRecDepth 100000 in
set_option maxHeartbeats 8000000 in
theorem e_start (w : World) (a : Option Addr) (n c : Nat) (l : List Dq) (hl : DqsRd w a n l) (hn : n ≤ 9223372036854775807) : Calls Tryz.prog 8 #[.slice a n c] w fun e w' => Hid (StartTold w w' l e) ∧ Below w.heap.size w w':=by
 obtain ⟨W1,HW1⟩ : ∃ W1,Hid (W1 = w.alloc (.cells #[.pointer none,.pointer none,.pointer none,.pointer none] 39)):=⟨_,rfl⟩
 have HB1 : Hid (Below w.heap.size w W1):=by show Below _ _ _;rw [HW1.out];exact below_alloc _ _
 have HP1 : Hid (Blk W1 w.heap.size #[.pointer none,.pointer none,.pointer none,.pointer none] 39):=by show Blk _ _ _ _;rw [HW1.out];exact Blk.new _ _ _
 have HZ1 : Hid (W1.heap.size = w.heap.size + 1):=by show _ = _;rw [HW1.out];simp
 have HL : Hid (DqsRd w a n l):=hl
 clear hl
 go_enter Tryz.func8,Tryz.ntmps8
 go_wp2_with fail
 rw [← HW1.out]
 refine (sector_New 52 W1).mono ?_
 rintro e w2 ⟨ht,hb2⟩
 rcases ht.out with ⟨h0,_⟩ | ⟨_,g,rfl,hd⟩
 ·exact absurd ⟨by decide,by decide⟩ h0
 have HD2 : Hid (Disk w2 W1.heap.size g W1.heap.size (.slice none 0 0) (newD 52)):=hd
 have HB2 : Hid (Below W1.heap.size W1 w2):=hb2
 have HP2 : Hid (Blk w2 w.heap.size #[.pointer none,.pointer none,.pointer none,.pointer none] 39):=HP1.out.stay hb2
 have f2:=HP2.out.free 0
 have d2 : w2.cell? ⟨w.heap.size,0,none⟩ = some (.pointer none):=HP2.out.cell 0 rfl
 obtain ⟨W3,HW3⟩ : ∃ W3,Hid (W3 = w2.setCell ⟨w.heap.size,0,none⟩ (.pointer (some ⟨g,0,none⟩))):=⟨_,rfl⟩
 have HG3 : Hid (w2.grownBy W3 (some w.heap.size)):=by show World.grownBy _ _ _;rw [HW3.out];exact grown_cell _ _ _ _
 have HP3 : Hid (Blk W3 w.heap.size #[.pointer (some ⟨g,0,none⟩),.pointer none,.pointer none,.pointer none] 39):=by show Blk _ _ _ _;rw [HW3.out];exact HP2.out.set 0 _
 have HD3 : Hid (Disk W3 W1.heap.size g W1.heap.size (.slice none 0 0) (newD 52)):=by
  have h:=HD2.out
  have hne : ∀ k,k ≠ w.heap.size → k < w2.heap.size → W3.heap[k]? = w2.heap[k]?:=fun k h1 h2 => HG3.out.block k h2 (by simpa using h1)
  refine ⟨h.blk.grown HG3.out (by have:=h.bg;have:=HZ1.out;simp;omega),h.srow.grown HG3.out (by have:=HZ1.out;simp;omega),World.ownsRow_nil _ _ _ _,h.bg,h.bs,h.sz,h.sec,h.wts,h.tr,h.ag,h.wl⟩
 have HB3 : Hid (Below w.heap.size w W3):=(HB1.out.trans (HB2.out.mono HB1.out.size)).trans ((Below.refl _ _).grown HG3.out (Nat.le_trans HB1.out.size HB2.out.size) (fun j hj => by simp only [Option.some.injEq] at hj;omega))
 clear ht hd hb2
 go_wp2_with fail
 clear f2 d2
 rw [← HW3.out]
 refine (ref_New 52 (by omega) (by omega) g W3 HD3.out.blk.lt).mono ?_
 rintro e w4 ⟨r,rfl,hr,hb4⟩
 obtain ⟨sv,SV,hr⟩:=hr.out
 have HR4 : Hid (Rk w4 w.heap.size r g sv (.slice none 0 0) SV [] (newD 52)):=hr.lower HB3.out.size
 have HB4 : Hid (Below W3.heap.size W3 w4):=hb4
 have HD4 : Hid (Disk w4 w.heap.size g W1.heap.size (.slice none 0 0) (newD 52)):=(HD3.out.stay hb4).lower HB1.out.size
 have HP4 : Hid (Blk w4 w.heap.size #[.pointer (some ⟨g,0,none⟩),.pointer none,.pointer none,.pointer none] 39):=HP3.out.stay hb4
 have f4:=HP4.out.free 2
 have d4 : w4.cell? ⟨w.heap.size,2,none⟩ = some (.pointer none):=HP4.out.cell 2 rfl
 have d40 : w4.cell? ⟨w.heap.size,0,none⟩ = some (.pointer (some ⟨g,0,none⟩)):=HP4.out.cell 0 rfl
 obtain ⟨W5,HW5⟩ : ∃ W5,Hid (W5 = w4.setCell ⟨w.heap.size,2,none⟩ (.pointer (some ⟨r,0,none⟩))):=⟨_,rfl⟩
 have HG5 : Hid (w4.grownBy W5 (some w.heap.size)):=by show World.grownBy _ _ _;rw [HW5.out];exact grown_cell _ _ _ _
 have HP5 : Hid (Blk W5 w.heap.size #[.pointer (some ⟨g,0,none⟩),.pointer none,.pointer (some ⟨r,0,none⟩),.pointer none] 39):=by show Blk _ _ _ _;rw [HW5.out];exact HP4.out.set 2 _
 have HNP : Hid (∀ (k : Nat) (cs : Array Value) (t : TypeId),Blk w4 k cs t → t ≠ 39 → Blk W5 k cs t):=fun k cs t h1 h2 => h1.grown HG5.out (by have:=blk_ne h1 HP4.out h2;simpa using this)
 have HD5 : Hid (Disk W5 w.heap.size g W1.heap.size (.slice none 0 0) (newD 52)):=by
  have h:=HD4.out
  exact ⟨HNP.out _ _ _ h.blk (by decide),HNP.out _ _ _ h.srow (by decide),own_type h.wrow (fun k cs hk => HNP.out k cs _ hk (by decide)),h.bg,h.bs,h.sz,h.sec,h.wts,h.tr,h.ag,h.wl⟩
 have HR5 : Hid (Rk W5 w.heap.size r g sv (.slice none 0 0) SV [] (newD 52)):=HR4.out.move (fun k cs t fr h1 h2 => by
  rw [HG5.out.block k (heap_lt h1) (fun e => ?_)]
  ·exact h1
  ·simp only [Option.some.injEq] at e
   subst e
   have h3:=HP4.out
   unfold Blk at h3
   rw [h1] at h3
   simp only [Option.some.injEq,Obj.cells.injEq] at h3
   have h4:=h3.2.1
   rcases h2 with rfl | rfl | rfl | ⟨rfl,_⟩ <;> exact absurd h4 (by decide))
 have HB5 : Hid (Below w.heap.size w W5):=(HB3.out.trans (HB4.out.mono HB3.out.size)).trans ((Below.refl _ _).grown HG5.out (Nat.le_trans HB3.out.size HB4.out.size) (fun j hj => by simp only [Option.some.injEq] at hj;omega))
 have HL5 : Hid (g < W5.heap.size):=HD5.out.blk.lt
 have x1 : (w4.setCell ⟨w.heap.size,2,none⟩ (.pointer (some ⟨r,0,none⟩))).cell? ⟨w.heap.size,0,none⟩ = some (.pointer (some ⟨g,0,none⟩)):=by rw [← HW5.out];exact HP5.out.cell 0 rfl
 have HNN : Hid (n ≤ 9223372036854775807 ∧ l.length = n):=⟨hn,HL.out.size⟩
 clear hr hb4
 go_wp2_with fail
 rw [← HW5.out]
 clear x1 f4 d4 d40
 go_loopw [7] (fun t7 wr => ∃ (i : Nat) (wv sv rv : Value) (SV WV : List Value),i ≤ n ∧ i ≤ 200 ∧ t7 = .int .i64 (i : Int) ∧ Hid (Disk wr w.heap.size g W1.heap.size wv (rawD (l.take i))) ∧ Hid (Rk wr w.heap.size r g sv rv SV WV (rawD (l.take i))) ∧ Hid (Blk wr w.heap.size #[.pointer (some ⟨g,0,none⟩),.pointer none,.pointer (some ⟨r,0,none⟩),.pointer none] 39) ∧ Hid (Below w.heap.size w wr) ∧ Hid (g < wr.heap.size)) (fun t7 _ => n - (intOf t7).toNat)
 case atStart => exact ⟨0,_,sv,_,SV,[],by omega,by omega,rfl,HD5,HR5,HP5,HB5,HL5⟩
 case round =>
  obtain ⟨i,wv,sv,rv,SV,WV,hi,hi2,rfl,HDr,HRr,HPr,HBr,HLr⟩:=hrel
  clear HD5 HR5 HP5 HB5 HL5
  obtain ⟨D,HDD⟩ : ∃ D,Hid (D = rawD (l.take i)):=⟨_,rfl⟩
  rw [← HDD.out] at HDr HRr
  have HDO : Hid (Calm D ∧ D.sure.length = 52 ∧ D.waits.length ≤ i ∧ D.age = 0):=by (show _ ∧ _ ∧ _ ∧ _);rw [HDD.out];have h1:=rawD_ok (l.take i);exact ⟨h1.1,h1.2.1,Nat.le_trans h1.2.2.1 (by rw [List.length_take];omega),h1.2.2.2⟩
  by_cases hgo : i < n ∧ i < 200
  ·obtain ⟨hlt,h200⟩:=hgo
   have hlt' : (i : Int) < (n : Int):=by omega
   have h200' : (i : Int) < 200:=by omega
   have hi0 : (0 : Int) ≤ (i : Int):=by omega
   have hnn : n ≤ 9223372036854775807:=HNN.out.1
   obtain ⟨ga,o,rfl,hga,d,hd,hok,e0,e1,e2,e3⟩:=HL.out.spot i hlt
   obtain ⟨dk,di,ba,bl,bc,bs,fa,fl,fc,F⟩:=d
   simp only at e1 e2
   have HLd : Hid (l[i]? = some ⟨dk,di,ba,bl,bc,bs,fa,fl,fc,F⟩):=hd
   have HOK : Hid (∀ w',Below w.heap.size w w' → DqOk w' ⟨dk,di,ba,bl,bc,bs,fa,fl,fc,F⟩):=fun w' hb => hok.below hb
   have HC : Hid (∀ w',Below w.heap.size w w' → w'.cell? ⟨ga,o + i * 4 + 1,none⟩ = some (.int .i64 di) ∧ w'.cell? ⟨ga,o + i * 4 + 2,none⟩ = some (.slice ba bl bc)):=fun w' hb => ⟨by rw [hb.cell (p:=⟨ga,o + i * 4 + 1,none⟩) hga];exact e1,by rw [hb.cell (p:=⟨ga,o + i * 4 + 2,none⟩) hga];exact e2⟩
   have HDd : Hid (Disk wr.drew w.heap.size g W1.heap.size wv D):=HDr.out.stay (Below.refl _ _).drew
   have HRd : Hid (Rk wr.drew w.heap.size r g sv rv SV WV D):=HRr.out.stay (Below.refl _ _).drew
   have HPd : Hid (Blk wr.drew w.heap.size #[.pointer (some ⟨g,0,none⟩),.pointer none,.pointer (some ⟨r,0,none⟩),.pointer none] 39):=HPr.out.stay (Below.refl _ _).drew
   have HBd : Hid (Below w.heap.size w wr.drew):=HBr.out.drew
   have HNE : Hid (w.heap.size ≠ g ∧ w.heap.size ≠ W1.heap.size):=⟨blk_ne HPd.out HDd.out.blk (by decide),blk_ne HPd.out HDd.out.srow (by decide)⟩
   have HBL : Hid (bl ≤ 9223372036854775807 ∧ (ba = none → bc = 0)):=by have h1:=hok.bb;simp only at h1;exact ⟨by omega,hok.nc⟩
   obtain ⟨E,HEE⟩ : ∃ E,Hid (E = writeE D di bs):=⟨_,rfl⟩
   obtain ⟨D',HDE⟩ : ∃ D',Hid (D' = writeD D di bs):=⟨_,rfl⟩
   have s1 : wr.drew.cell? ⟨w.heap.size,0,none⟩ = some (.pointer (some ⟨g,0,none⟩)) ∧ wr.drew.cell? ⟨w.heap.size,2,none⟩ = some (.pointer (some ⟨r,0,none⟩)) ∧ wr.drew.cell? ⟨ga,o + i * 4 + 1,none⟩ = some (.int .i64 di) ∧ wr.drew.cell? ⟨ga,o + i * 4 + 2,none⟩ = some (.slice ba bl bc):=⟨HPd.out.cell 0 rfl,HPd.out.cell 2 rfl,HC.out _ HBd.out⟩
   clear e0 e1 e2 e3 hok hd
   go_wp2
   go_region_held3 (fun w' => w'.cell? ⟨w.heap.size,0,none⟩ = some (.pointer (some ⟨g,0,none⟩)) ∧ w'.cell? ⟨w.heap.size,2,none⟩ = some (.pointer (some ⟨r,0,none⟩)) ∧ w'.cell? ⟨ga,o + i * 4 + 1,none⟩ = some (.int .i64 di) ∧ w'.cell? ⟨ga,o + i * 4 + 2,none⟩ = some (.slice ba bl bc)) (first | exact s1 | exact s2 | exact s3 | fail)
    (first
     | (go_at_call 25;refine (disk_Write _ w.heap.size g W1.heap.size wv D di ba bl bc bs HDd.out (fun w' hm => (HOK.out w' (HBd.out.trans hm.low)).rd) HBL.out.1 (by have:=HDO.out.2.2.1;omega)).mono ?_;rw [← HEE.out,← HDE.out];rintro e w2 ⟨rfl,hd2,hm2⟩;have k2:=hm2.keep HPd.out HNE.out.1 HNE.out.2 (by decide);have b2:=HBd.out.trans hm2.low;have s2 : w2.cell? ⟨w.heap.size,0,none⟩ = some (.pointer (some ⟨g,0,none⟩)) ∧ w2.cell? ⟨w.heap.size,2,none⟩ = some (.pointer (some ⟨r,0,none⟩)) ∧ w2.cell? ⟨ga,o + i * 4 + 1,none⟩ = some (.int .i64 di) ∧ w2.cell? ⟨ga,o + i * 4 + 2,none⟩ = some (.slice ba bl bc):=⟨k2.cell 0 rfl,k2.cell 2 rfl,HC.out _ b2⟩)
     | (go_at_call 26;refine (ref_Write _ w.heap.size r g sv rv SV WV D di ba bl bc bs (HRd.out.move (Keep.of_mv HDd.out hm2 g)) (Nat.lt_of_lt_of_le HLr.out hm2.low.size) (fun w' hm => (HOK.out w' (b2.trans hm.low)).rd) HBL.out.2 HBL.out.1 (by have:=HDO.out.2.2.1;omega)).mono ?_;rw [← HEE.out,← HDE.out];rintro e w3 ⟨rfl,hr3,hm3⟩;have k3:=hm3.keep k2 (by decide) (by decide) (by decide);have b3:=b2.trans hm3.low;have s3 : w3.cell? ⟨w.heap.size,0,none⟩ = some (.pointer (some ⟨g,0,none⟩)) ∧ w3.cell? ⟨w.heap.size,2,none⟩ = some (.pointer (some ⟨r,0,none⟩)) ∧ w3.cell? ⟨ga,o + i * 4 + 1,none⟩ = some (.int .i64 di) ∧ w3.cell? ⟨ga,o + i * 4 + 2,none⟩ = some (.slice ba bl bc):=⟨k3.cell 0 rfl,k3.cell 2 rfl,HC.out _ b3⟩))
   obtain ⟨wv2,hd2⟩:=hd2.out
   obtain ⟨rv3,WV3,hr3⟩:=hr3.out
   have HDN : Hid (D' = rawD (l.take (i + 1))):=by (show _ = _);rw [HDE.out,HDD.out,List.take_add_one,HLd.out];exact (rawD_snoc (l.take i) ⟨dk,di,ba,bl,bc,bs,fa,fl,fc,F⟩).symm
   rw [HDN.out] at hd2 hr3
   have HD3 : Hid (Disk w3 w.heap.size g W1.heap.size wv2 (rawD (l.take (i + 1)))):=hd2.stayR hm3
   have HR3 : Hid (Rk w3 w.heap.size r g sv rv3 SV WV3 (rawD (l.take (i + 1)))):=hr3
   have HP3' : Hid (Blk w3 w.heap.size #[.pointer (some ⟨g,0,none⟩),.pointer none,.pointer (some ⟨r,0,none⟩),.pointer none] 39):=k3
   have HB3' : Hid (Below w.heap.size w w3):=b3
   have HL3 : Hid (g < w3.heap.size):=Nat.lt_of_lt_of_le (Nat.lt_of_lt_of_le HLr.out hm2.low.size) hm3.low.size
   clear hd2 hm2 k2 b2 s1 s2 hr3 hm3 k3 b3 s3
   go_wp2
   go_roundw
   case rel => exact ⟨i + 1,wv2,sv,rv3,SV,WV3,by omega,by omega,by go_num,HD3,HR3,HP3',HB3',HL3⟩
   case measure => simp [intOf];omega
  ·have hcase : (¬ (i : Int) < (n : Int)) ∨ ((i : Int) < (n : Int) ∧ ¬ (i : Int) < 200):=by omega
   have HTK : Hid (l.take i = l.take 200):=by
    (show _ = _)
    have h1:=HNN.out.2
    rcases Nat.lt_or_ge i n with h2 | h2
    ·rw [show i = 200 by omega]
    ·rw [List.take_of_length_le (by omega),List.take_of_length_le (by omega)]
   have HOP:=e_open wr w.heap.size w.heap.size g W1.heap.size r g wv sv rv SV WV D none none HDr.out HRr.out HLr.out HPr.out (Nat.le_refl _) HDO.out.2.1 HDO.out.1 (by have:=HDO.out.2.2.1;omega)
   clear hgo
   have y0 : True:=trivial
   rcases hcase with hc | ⟨hc,hc2⟩ <;>
   (go_wp2_with fail
    refine HOP.mono ?_
    rintro e w6 ⟨rfl,hf6,hm6⟩
    have HF6 : Hid (Evs w6 w.heap.size w.heap.size g W1.heap.size r 60 (opE D)):=hf6
    have HB6 : Hid (Below w.heap.size w w6):=HBr.out.trans hm6.out.low
    have hx:=hf6.out
    obtain ⟨gl,gc,gy,q,wv',sv',rv',SV',WV',uc,ur,L,L2,vc,vr,hx,_⟩:=hx
    have c1 : w6.cell? ⟨w.heap.size,1,none⟩ = some (.pointer (some ⟨gl,0,none⟩)):=Blk.cell hx.pr 1 rfl
    clear hf6 hm6 hx HOP
    go_wp2_with fail
    refine (e_told w6 w.heap.size w.heap.size g W1.heap.size r 60 _ _ _ _ _ _ HF6.out (by omega)).mono ?_
    rintro e w7 ⟨rfl,hb7⟩
    have HF7 : Hid (Evs w7 w.heap.size w.heap.size g W1.heap.size r 60 (opE (rawD (l.take 200)))):=by (show Evs _ _ _ _ _ _ _ _);rw [← HTK.out,← HDD.out];exact HF6.out.stay hb7
    have HB7 : Hid (Below w.heap.size w w7):=HB6.out.trans (hb7.mono HB6.out.size)
    clear hb7
    go_wp2
    go_returns
    exact ⟨⟨w.heap.size,g,W1.heap.size,r,rfl,HF7.out⟩,HB7.out⟩ )
end Go.Proofs.YtghajmcohdedlaaGreat
