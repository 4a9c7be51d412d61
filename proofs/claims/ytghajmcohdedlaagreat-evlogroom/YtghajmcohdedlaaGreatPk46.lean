import Derived.Test.YtghajmcohdedlaaGreatPk45
import Derived.Deep.RegionHeld3
import Derived.Test.YtghajmcohdedlaaGreatPk31
import Derived.Test.YtghajmcohdedlaaGreatPk28
namespace Go.Proofs.YtghajmcohdedlaaGreat
open Go.RowKit
def boxE (d : Dq) : Array Value:=#[.int .i64 d.kind,.int .i64 d.at_,.slice d.ba d.bl d.bc,.slice d.fa d.fl d.fc]
def stepE (s : Se) (d : Dq) : Se:=if d.kind = 1 then (synE s).2 else if d.kind = 2 then (chpE s d.at_).2 else if d.kind = 3 then ⟨tripD s.D d.at_,s.V,s.hi,s.rel,s.ag,s.P⟩ else if d.kind = 5 then ⟨writeD s.D d.at_ d.bs,s.V,s.hi,s.rel,s.ag,s.P⟩ else s
theorem syn_ok {N : Nat} {s : Se} (h : Oke N s) : Oke N (synE s).2:=by
 unfold synE syncF
 split
 ·exact h
 ·exact h.disk (sync_gr _).sl
theorem syn_gr (s : Se) : Gr 40 s.D (synE s).2.D:=by
 unfold synE syncF
 split
 ·exact Gr.refl 40 _
 ·exact (sync_gr _).mono (by omega)
theorem Evp.disks {w w2 w3 : World} {base gp g gs gl gc r gy q ag N : Nat} {wv sv rv : Value} {SV WV : List Value} {D D' : Dk} {V : List Sg} {uc ur : Value} {hi rel : Nat} {L L2 : List Rc} {vc vr : Value} {P : List (Nat × List Nat)} (h : Evp w base gp g gs gl gc r gy q ag wv sv rv SV WV D V uc ur hi rel L L2 vc vr) (hP : L.map plR = P) (hO : Okp N D' V hi rel P) {wv2 : Value} (hm : Mv w w2 base g gs) (hd : Disk w2 base g gs wv2 D') (hr : Mr w2 w3 base) {sv3 rv3 : Value} {SV3 WV3 : List Value} (hk : Rk w3 base r q sv3 rv3 SV3 WV3 D') : Ev w3 base gp g gs r N D' V hi rel ag P :=
 ⟨gl,gc,gy,q,wv2,sv3,rv3,SV3,WV3,uc,ur,L,L2,vc,vr,h.both (Mvx.of_mv hm) (h.lc.mv hm hd) (Oon.refl _ _) (Mrx.of_mr hr) ((h.mid (Mvx.of_mv hm)).1.mr hr hk) (Oon.refl _ _) h.same,hP,hO⟩
set_option maxRecDepth 100000 in
set_option maxHeartbeats 4000000 in
theorem e_do1 (w : World) (base gp g gs r N : Nat) (s : Se) (d : Dq) (h : Evs w base gp g gs r N s) (hk : d.kind = 1) (hdq : ∀ w',Below base w w' → DqOk w' d) (hw : s.D.waits.length ≤ 700000000) (hN : N ≤ 10000) :
  Calls Tryz.prog 9 #[.pointer (some ⟨gp,0,none⟩),.agg (boxE d)] w fun e w' => e = .returned (.bool true) ∧ Hid (Evs w' base gp g gs r N (synE s).2) ∧ Below base w w':=by
 obtain ⟨D,V,hi,rel,ag,P⟩:=s
 obtain ⟨gl,gc,gy,q,wv,sv,rv,SV,WV,uc,ur,L,L2,vc,vr,h,hP,hO⟩:=h
 obtain ⟨dk,di,ba,bl,bc,bs,fa,fl,fc,F⟩:=d
 simp only [boxE] at hk hdq hw hP hO h ⊢
 subst hk
 have HDQ0 : Hid (∀ w',Below base w w' → DqOk w' ⟨1,di,ba,bl,bc,bs,fa,fl,fc,F⟩):=hdq
 obtain ⟨W1,HW1⟩ : ∃ W1,Hid (W1 = w.alloc (.cells #[.int .i64 1,.int .i64 di,.slice ba bl bc,.slice fa fl fc] 30)):=⟨_,rfl⟩
 have HB1 : Hid (Below w.heap.size w W1.drew):=by show Below _ _ _;rw [HW1.out];exact (below_alloc _ _).drew
 have HKX : Hid (Blk W1.drew w.heap.size #[.int .i64 1,.int .i64 di,.slice ba bl bc,.slice fa fl fc] 30):=by show Blk _ _ _ _;rw [HW1.out];exact Blk.new _ _ _
 have HE : Hid (Evp W1.drew base gp g gs gl gc r gy q ag wv sv rv SV WV D V uc ur hi rel L L2 vc vr):=h.stay HB1.out
 have HBS : Hid (base ≤ w.heap.size):=h.base
 have HB1b : Hid (Below base w W1.drew):=HB1.out.mono HBS.out
 have HDQ : Hid (∀ w',Below base W1.drew w' → DqOk w' ⟨1,di,ba,bl,bc,bs,fa,fl,fc,F⟩):=fun w' hb => HDQ0.out w' (HB1b.out.trans hb)
 have HOK:=HDQ.out W1.drew (Below.refl _ _)
 have HPO : Hid (L.map plR = P ∧ Okp N D V hi rel P ∧ D.waits.length ≤ 700000000 ∧ N ≤ 10000):=⟨hP,hO,hw,hN⟩
 obtain ⟨R,HR⟩ : ∃ R,Hid (synE ⟨D,V,hi,rel,ag,P⟩ = R):=⟨_,rfl⟩
 have HRO : Hid (R.2.ag = ag ∧ Oke N R.2):=by (show _ ∧ _);rw [← HR.out];exact ⟨rfl,syn_ok HPO.out.2.1⟩
 have HCC : Hid (Calls Tryz.prog 30 #[.pointer (some ⟨gl,0,none⟩)] W1.drew fun e w2 => CodeDid W1.drew base g gs gl gc ag uc vc L R e w2):=by (show Calls _ _ _ _ _);rw [← HR.out];exact sync_code HE.out.lc HPO.out.1
 have HCR : Hid (∀ w2,LrG w2 base r q sv rv SV WV D gy 1 3 ag V ur hi rel L2 vr → q < w2.heap.size → Calls Tryz.prog 31 #[.pointer (some ⟨gy,0,none⟩)] w2 fun e w3 => RefDid w2 base r q gy ag ur vr L2 R e w3):=fun w2 a1 a2 => by rw [← HR.out];exact sync_ref a1 a2 (HE.out.same ▸ HPO.out.1)
 have s1 : W1.drew.cell? ⟨gp,1,none⟩ = some (.pointer (some ⟨gl,0,none⟩)) ∧ W1.drew.cell? ⟨gp,3,none⟩ = some (.pointer (some ⟨gy,0,none⟩)):=⟨Blk.cell HE.out.pr 1 rfl,Blk.cell HE.out.pr 3 rfl⟩
 show Calls _ _ _ _ fun e w' => e = .returned (.bool true) ∧ Hid (Evs w' base gp g gs r N (synE ⟨D,V,hi,rel,ag,P⟩).2) ∧ Below base w w'
 rw [HR.out]
 obtain ⟨E,S⟩:=R
 clear h hdq hP hO hw hN
 go_enter Tryz.func9,Tryz.ntmps9
 go_wp2
 rw [← HW1.out]
 go_region_held3 (fun w' => w'.cell? ⟨gp,1,none⟩ = some (.pointer (some ⟨gl,0,none⟩)) ∧ w'.cell? ⟨gp,3,none⟩ = some (.pointer (some ⟨gy,0,none⟩))) (first | exact s1 | exact s2 | exact s3 | fail)
  (first
   | (go_at_call 30;refine HCC.out.mono ?_;rintro e w2 hc2;have he2:=hc2.1;subst he2;have m2:=HE.out.mid hc2.2.2.out;have s2 : w2.cell? ⟨gp,1,none⟩ = some (.pointer (some ⟨gl,0,none⟩)) ∧ w2.cell? ⟨gp,3,none⟩ = some (.pointer (some ⟨gy,0,none⟩)):=⟨Blk.cell m2.2.2 1 rfl,Blk.cell m2.2.2 3 rfl⟩)
   | (go_at_call 31;refine (HCR.out w2 m2.1 m2.2.1).mono ?_;rintro e w3 hc3;have he3:=hc3.1;subst he3;have pr3 : Pr11 w3 gp g gl r gy:=m2.1.left hc3.2.2.out m2.2.2 (by decide) (by decide) (by decide) (by decide) (by decide) (.inl (by decide));have s3 : w3.cell? ⟨gp,1,none⟩ = some (.pointer (some ⟨gl,0,none⟩)) ∧ w3.cell? ⟨gp,3,none⟩ = some (.pointer (some ⟨gy,0,none⟩)):=⟨Blk.cell pr3 1 rfl,Blk.cell pr3 3 rfl⟩))
 have HF : Hid (Evs w3 base gp g gs r N S):=HE.out.did hc2 hc3 HRO.out.1 HRO.out.2
 have HB3 : Hid (Below base w w3):=(HB1b.out.trans hc2.2.2.out.low).trans hc3.2.2.out.low
 clear hc2 hc3 m2 s1 s2 s3 pr3 HOK
 go_wp2
 go_ret
 exact ⟨by simp,HF,HB3.out⟩
set_option maxRecDepth 100000 in
set_option maxHeartbeats 4000000 in
theorem e_do2 (w : World) (base gp g gs r N : Nat) (s : Se) (d : Dq) (h : Evs w base gp g gs r N s) (hk : d.kind = 2) (hdq : ∀ w',Below base w w' → DqOk w' d) (hw : s.D.waits.length ≤ 700000000) (hN : N ≤ 10000) :
  Calls Tryz.prog 9 #[.pointer (some ⟨gp,0,none⟩),.agg (boxE d)] w fun e w' => e = .returned (.bool true) ∧ Hid (Evs w' base gp g gs r N (chpE s d.at_).2) ∧ Below base w w':=by
 obtain ⟨D,V,hi,rel,ag,P⟩:=s
 obtain ⟨gl,gc,gy,q,wv,sv,rv,SV,WV,uc,ur,L,L2,vc,vr,h,hP,hO⟩:=h
 obtain ⟨dk,di,ba,bl,bc,bs,fa,fl,fc,F⟩:=d
 simp only [boxE] at hk hdq hw hP hO h ⊢
 subst hk
 have HDQ0 : Hid (∀ w',Below base w w' → DqOk w' ⟨2,di,ba,bl,bc,bs,fa,fl,fc,F⟩):=hdq
 obtain ⟨W1,HW1⟩ : ∃ W1,Hid (W1 = w.alloc (.cells #[.int .i64 2,.int .i64 di,.slice ba bl bc,.slice fa fl fc] 30)):=⟨_,rfl⟩
 have HB1 : Hid (Below w.heap.size w W1.drew):=by show Below _ _ _;rw [HW1.out];exact (below_alloc _ _).drew
 have HKX : Hid (Blk W1.drew w.heap.size #[.int .i64 2,.int .i64 di,.slice ba bl bc,.slice fa fl fc] 30):=by show Blk _ _ _ _;rw [HW1.out];exact Blk.new _ _ _
 have HE : Hid (Evp W1.drew base gp g gs gl gc r gy q ag wv sv rv SV WV D V uc ur hi rel L L2 vc vr):=h.stay HB1.out
 have HBS : Hid (base ≤ w.heap.size):=h.base
 have HB1b : Hid (Below base w W1.drew):=HB1.out.mono HBS.out
 have HDQ : Hid (∀ w',Below base W1.drew w' → DqOk w' ⟨2,di,ba,bl,bc,bs,fa,fl,fc,F⟩):=fun w' hb => HDQ0.out w' (HB1b.out.trans hb)
 have HOK:=HDQ.out W1.drew (Below.refl _ _)
 have HPO : Hid (L.map plR = P ∧ Okp N D V hi rel P ∧ D.waits.length ≤ 700000000 ∧ N ≤ 10000):=⟨hP,hO,hw,hN⟩
 obtain ⟨R,HR⟩ : ∃ R,Hid (chpE ⟨D,V,hi,rel,ag,P⟩ di = R):=⟨_,rfl⟩
 have HRO : Hid (R.2.ag = ag ∧ Oke N R.2):=by (show _ ∧ _);rw [← HR.out];exact ⟨rfl,(chop_ok HPO.out.2.1 ag di).2.1⟩
 have HCC : Hid (Calls Tryz.prog 17 #[.pointer (some ⟨gl,0,none⟩),.int .i64 di] W1.drew fun e w2 => CodeDid W1.drew base g gs gl gc ag uc vc L R e w2):=by (show Calls _ _ _ _ _);rw [← HR.out];exact chop_code HE.out.lc HPO.out.1 HPO.out.2.1 HPO.out.2.2.2 (by have:=HPO.out.2.2.1;omega) di
 have HCR : Hid (∀ w2,LrG w2 base r q sv rv SV WV D gy 1 3 ag V ur hi rel L2 vr → q < w2.heap.size → Calls Tryz.prog 32 #[.pointer (some ⟨gy,0,none⟩),.int .i64 di] w2 fun e w3 => RefDid w2 base r q gy ag ur vr L2 R e w3):=fun w2 a1 a2 => by rw [← HR.out];exact chop_ref a1 a2 (HE.out.same ▸ HPO.out.1) HPO.out.2.1 HPO.out.2.2.2 (by have:=HPO.out.2.2.1;omega) di
 have s1 : W1.drew.cell? ⟨gp,1,none⟩ = some (.pointer (some ⟨gl,0,none⟩)) ∧ W1.drew.cell? ⟨gp,3,none⟩ = some (.pointer (some ⟨gy,0,none⟩)):=⟨Blk.cell HE.out.pr 1 rfl,Blk.cell HE.out.pr 3 rfl⟩
 show Calls _ _ _ _ fun e w' => e = .returned (.bool true) ∧ Hid (Evs w' base gp g gs r N (chpE ⟨D,V,hi,rel,ag,P⟩ di).2) ∧ Below base w w'
 rw [HR.out]
 obtain ⟨E,S⟩:=R
 clear h hdq hP hO hw hN
 go_enter Tryz.func9,Tryz.ntmps9
 go_wp2
 rw [← HW1.out]
 go_region_held3 (fun w' => w'.cell? ⟨gp,1,none⟩ = some (.pointer (some ⟨gl,0,none⟩)) ∧ w'.cell? ⟨gp,3,none⟩ = some (.pointer (some ⟨gy,0,none⟩))) (first | exact s1 | exact s2 | exact s3 | fail)
  (first
   | (go_at_call 17;refine HCC.out.mono ?_;rintro e w2 hc2;have he2:=hc2.1;subst he2;have m2:=HE.out.mid hc2.2.2.out;have s2 : w2.cell? ⟨gp,1,none⟩ = some (.pointer (some ⟨gl,0,none⟩)) ∧ w2.cell? ⟨gp,3,none⟩ = some (.pointer (some ⟨gy,0,none⟩)):=⟨Blk.cell m2.2.2 1 rfl,Blk.cell m2.2.2 3 rfl⟩)
   | (go_at_call 32;refine (HCR.out w2 m2.1 m2.2.1).mono ?_;rintro e w3 hc3;have he3:=hc3.1;subst he3;have pr3 : Pr11 w3 gp g gl r gy:=m2.1.left hc3.2.2.out m2.2.2 (by decide) (by decide) (by decide) (by decide) (by decide) (.inl (by decide));have s3 : w3.cell? ⟨gp,1,none⟩ = some (.pointer (some ⟨gl,0,none⟩)) ∧ w3.cell? ⟨gp,3,none⟩ = some (.pointer (some ⟨gy,0,none⟩)):=⟨Blk.cell pr3 1 rfl,Blk.cell pr3 3 rfl⟩))
 have HF : Hid (Evs w3 base gp g gs r N S):=HE.out.did hc2 hc3 HRO.out.1 HRO.out.2
 have HB3 : Hid (Below base w w3):=(HB1b.out.trans hc2.2.2.out.low).trans hc3.2.2.out.low
 clear hc2 hc3 m2 s1 s2 s3 pr3 HOK
 go_wp2
 go_ret
 exact ⟨by simp,HF,HB3.out⟩
set_option maxRecDepth 100000 in
set_option maxHeartbeats 4000000 in
theorem e_do3 (w : World) (base gp g gs r N : Nat) (s : Se) (d : Dq) (h : Evs w base gp g gs r N s) (hk : d.kind = 3) (hdq : ∀ w',Below base w w' → DqOk w' d) (hw : s.D.waits.length ≤ 700000000) (hN : N ≤ 10000) :
  Calls Tryz.prog 9 #[.pointer (some ⟨gp,0,none⟩),.agg (boxE d)] w fun e w' => e = .returned (.bool true) ∧ Hid (Evs w' base gp g gs r N ⟨tripD s.D d.at_,s.V,s.hi,s.rel,s.ag,s.P⟩) ∧ Below base w w':=by
 obtain ⟨D,V,hi,rel,ag,P⟩:=s
 obtain ⟨gl,gc,gy,q,wv,sv,rv,SV,WV,uc,ur,L,L2,vc,vr,h,hP,hO⟩:=h
 obtain ⟨dk,di,ba,bl,bc,bs,fa,fl,fc,F⟩:=d
 simp only [boxE] at hk hdq hw hP hO h ⊢
 subst hk
 have HDQ0 : Hid (∀ w',Below base w w' → DqOk w' ⟨3,di,ba,bl,bc,bs,fa,fl,fc,F⟩):=hdq
 obtain ⟨W1,HW1⟩ : ∃ W1,Hid (W1 = w.alloc (.cells #[.int .i64 3,.int .i64 di,.slice ba bl bc,.slice fa fl fc] 30)):=⟨_,rfl⟩
 have HB1 : Hid (Below w.heap.size w W1.drew):=by show Below _ _ _;rw [HW1.out];exact (below_alloc _ _).drew
 have HKX : Hid (Blk W1.drew w.heap.size #[.int .i64 3,.int .i64 di,.slice ba bl bc,.slice fa fl fc] 30):=by show Blk _ _ _ _;rw [HW1.out];exact Blk.new _ _ _
 have HE : Hid (Evp W1.drew base gp g gs gl gc r gy q ag wv sv rv SV WV D V uc ur hi rel L L2 vc vr):=h.stay HB1.out
 have HBS : Hid (base ≤ w.heap.size):=h.base
 have HB1b : Hid (Below base w W1.drew):=HB1.out.mono HBS.out
 have HDQ : Hid (∀ w',Below base W1.drew w' → DqOk w' ⟨3,di,ba,bl,bc,bs,fa,fl,fc,F⟩):=fun w' hb => HDQ0.out w' (HB1b.out.trans hb)
 have HOK:=HDQ.out W1.drew (Below.refl _ _)
 have HPO : Hid (L.map plR = P ∧ Okp N D V hi rel P ∧ D.waits.length ≤ 700000000 ∧ N ≤ 10000):=⟨hP,hO,hw,hN⟩
 have HNE : Hid (w.heap.size ≠ g ∧ w.heap.size ≠ gs):=⟨blk_ne HKX.out HE.out.lc.disk.blk (by decide),blk_ne HKX.out HE.out.lc.disk.srow (by decide)⟩
 obtain ⟨E,HEE⟩ : ∃ E,Hid (E = tripE D di):=⟨_,rfl⟩
 obtain ⟨D',HDE⟩ : ∃ D',Hid (D' = tripD D di):=⟨_,rfl⟩
 have HO' : Hid (Okp N D' V hi rel P):=by (show Okp _ _ _ _ _ _);rw [HDE.out];exact hO.disk (trip_grew D di).sl
 show Calls _ _ _ _ fun e w' => e = .returned (.bool true) ∧ Hid (Ev w' base gp g gs r N (tripD D di) V hi rel ag P) ∧ Below base w w'
 rw [← HDE.out]
 have HBL : Hid (bl ≤ 9223372036854775807 ∧ di ≤ 9223372036854775807):=by (show _ ∧ _);have h1:=HOK.bb;have h2:=HOK.at1;simp only at h1 h2;omega
 have HNC : Hid (ba = none → bc = 0):=HOK.nc
 have s1 : W1.drew.cell? ⟨gp,0,none⟩ = some (.pointer (some ⟨g,0,none⟩)) ∧ W1.drew.cell? ⟨gp,2,none⟩ = some (.pointer (some ⟨r,0,none⟩)):=⟨Blk.cell HE.out.pr 0 rfl,Blk.cell HE.out.pr 2 rfl⟩
 clear h hdq hP hO hw hN
 go_enter Tryz.func9,Tryz.ntmps9
 go_wp2
 rw [← HW1.out]
 go_region_held3 (fun w' => w'.cell? ⟨gp,0,none⟩ = some (.pointer (some ⟨g,0,none⟩)) ∧ w'.cell? ⟨gp,2,none⟩ = some (.pointer (some ⟨r,0,none⟩))) (first | exact s1 | exact s2 | exact s3 | fail)
  (first
   | (go_at_call 19;refine (disk_Trip _ base g gs wv D di HE.out.lc.disk HBL.out.2).mono ?_;rw [← HEE.out,← HDE.out];rintro e w2 ⟨rfl,hd2,hm2⟩;have k2:=hm2.keep HKX.out HNE.out.1 HNE.out.2 (by decide);have m2:=HE.out.mid (Mvx.of_mv hm2);have s2 : w2.cell? ⟨gp,0,none⟩ = some (.pointer (some ⟨g,0,none⟩)) ∧ w2.cell? ⟨gp,2,none⟩ = some (.pointer (some ⟨r,0,none⟩)):=⟨Blk.cell m2.2.2 0 rfl,Blk.cell m2.2.2 2 rfl⟩)
   | (go_at_call 33;refine (ref_Trip _ base r q sv rv SV WV D di m2.1.disk HBL.out.2).mono ?_;rw [← HEE.out,← HDE.out];rintro e w3 ⟨rfl,hr3,hm3⟩;have k3:=hm3.keep k2 (by decide) (by decide) (by decide);have pr3 : Pr11 w3 gp g gl r gy:=hm3.keep m2.2.2 (by decide) (by decide) (by decide);have s3 : w3.cell? ⟨gp,0,none⟩ = some (.pointer (some ⟨g,0,none⟩)) ∧ w3.cell? ⟨gp,2,none⟩ = some (.pointer (some ⟨r,0,none⟩)):=⟨Blk.cell pr3 0 rfl,Blk.cell pr3 2 rfl⟩))
 replace hd2:=hd2.out
 replace hr3:=hr3.out
 have HF : Hid (Ev w3 base gp g gs r N D' V hi rel ag P):=HE.out.disks HPO.out.1 HO'.out hm2 hd2 hm3 hr3
 have HB3 : Hid (Below base w w3):=(HB1b.out.trans hm2.low).trans hm3.low
 clear hd2 hm2 k2 m2 s1 s2 hr3 hm3 k3 pr3 s3 HOK
 go_wp2
 go_ret
 exact ⟨by simp,HF,HB3.out⟩
set_option maxRecDepth 100000 in
set_option maxHeartbeats 4000000 in
theorem e_do5 (w : World) (base gp g gs r N : Nat) (s : Se) (d : Dq) (h : Evs w base gp g gs r N s) (hk : d.kind = 5) (hdq : ∀ w',Below base w w' → DqOk w' d) (hw : s.D.waits.length ≤ 700000000) (hN : N ≤ 10000) :
  Calls Tryz.prog 9 #[.pointer (some ⟨gp,0,none⟩),.agg (boxE d)] w fun e w' => e = .returned (.bool true) ∧ Hid (Evs w' base gp g gs r N ⟨writeD s.D d.at_ d.bs,s.V,s.hi,s.rel,s.ag,s.P⟩) ∧ Below base w w':=by
 obtain ⟨D,V,hi,rel,ag,P⟩:=s
 obtain ⟨gl,gc,gy,q,wv,sv,rv,SV,WV,uc,ur,L,L2,vc,vr,h,hP,hO⟩:=h
 obtain ⟨dk,di,ba,bl,bc,bs,fa,fl,fc,F⟩:=d
 simp only [boxE] at hk hdq hw hP hO h ⊢
 subst hk
 have HDQ0 : Hid (∀ w',Below base w w' → DqOk w' ⟨5,di,ba,bl,bc,bs,fa,fl,fc,F⟩):=hdq
 obtain ⟨W1,HW1⟩ : ∃ W1,Hid (W1 = w.alloc (.cells #[.int .i64 5,.int .i64 di,.slice ba bl bc,.slice fa fl fc] 30)):=⟨_,rfl⟩
 have HB1 : Hid (Below w.heap.size w W1.drew):=by show Below _ _ _;rw [HW1.out];exact (below_alloc _ _).drew
 have HKX : Hid (Blk W1.drew w.heap.size #[.int .i64 5,.int .i64 di,.slice ba bl bc,.slice fa fl fc] 30):=by show Blk _ _ _ _;rw [HW1.out];exact Blk.new _ _ _
 have HE : Hid (Evp W1.drew base gp g gs gl gc r gy q ag wv sv rv SV WV D V uc ur hi rel L L2 vc vr):=h.stay HB1.out
 have HBS : Hid (base ≤ w.heap.size):=h.base
 have HB1b : Hid (Below base w W1.drew):=HB1.out.mono HBS.out
 have HDQ : Hid (∀ w',Below base W1.drew w' → DqOk w' ⟨5,di,ba,bl,bc,bs,fa,fl,fc,F⟩):=fun w' hb => HDQ0.out w' (HB1b.out.trans hb)
 have HOK:=HDQ.out W1.drew (Below.refl _ _)
 have HPO : Hid (L.map plR = P ∧ Okp N D V hi rel P ∧ D.waits.length ≤ 700000000 ∧ N ≤ 10000):=⟨hP,hO,hw,hN⟩
 have HNE : Hid (w.heap.size ≠ g ∧ w.heap.size ≠ gs):=⟨blk_ne HKX.out HE.out.lc.disk.blk (by decide),blk_ne HKX.out HE.out.lc.disk.srow (by decide)⟩
 obtain ⟨E,HEE⟩ : ∃ E,Hid (E = writeE D di bs):=⟨_,rfl⟩
 obtain ⟨D',HDE⟩ : ∃ D',Hid (D' = writeD D di bs):=⟨_,rfl⟩
 have HO' : Hid (Okp N D' V hi rel P):=by (show Okp _ _ _ _ _ _);rw [HDE.out];exact hO.disk (write_gr D di bs).sl
 show Calls _ _ _ _ fun e w' => e = .returned (.bool true) ∧ Hid (Ev w' base gp g gs r N (writeD D di bs) V hi rel ag P) ∧ Below base w w'
 rw [← HDE.out]
 have HBL : Hid (bl ≤ 9223372036854775807 ∧ di ≤ 9223372036854775807):=by (show _ ∧ _);have h1:=HOK.bb;have h2:=HOK.at1;simp only at h1 h2;omega
 have HNC : Hid (ba = none → bc = 0):=HOK.nc
 have s1 : W1.drew.cell? ⟨gp,0,none⟩ = some (.pointer (some ⟨g,0,none⟩)) ∧ W1.drew.cell? ⟨gp,2,none⟩ = some (.pointer (some ⟨r,0,none⟩)) ∧ W1.drew.cell? ⟨w.heap.size,2,none⟩ = some (.slice ba bl bc):=⟨Blk.cell HE.out.pr 0 rfl,Blk.cell HE.out.pr 2 rfl,HKX.out.cell 2 rfl⟩
 clear h hdq hP hO hw hN
 go_enter Tryz.func9,Tryz.ntmps9
 go_wp2
 rw [← HW1.out]
 go_region_held3 (fun w' => w'.cell? ⟨gp,0,none⟩ = some (.pointer (some ⟨g,0,none⟩)) ∧ w'.cell? ⟨gp,2,none⟩ = some (.pointer (some ⟨r,0,none⟩)) ∧ w'.cell? ⟨w.heap.size,2,none⟩ = some (.slice ba bl bc)) (first | exact s1 | exact s2 | exact s3 | fail)
  (first
   | (go_at_call 25;refine (disk_Write _ base g gs wv D di ba bl bc bs HE.out.lc.disk (fun w' hm => (HDQ.out w' hm.low).rd) HBL.out.1 (by have:=HPO.out.2.2.1;omega)).mono ?_;rw [← HEE.out,← HDE.out];rintro e w2 ⟨rfl,hd2,hm2⟩;have k2:=hm2.keep HKX.out HNE.out.1 HNE.out.2 (by decide);have m2:=HE.out.mid (Mvx.of_mv hm2);have s2 : w2.cell? ⟨gp,0,none⟩ = some (.pointer (some ⟨g,0,none⟩)) ∧ w2.cell? ⟨gp,2,none⟩ = some (.pointer (some ⟨r,0,none⟩)) ∧ w2.cell? ⟨w.heap.size,2,none⟩ = some (.slice ba bl bc):=⟨Blk.cell m2.2.2 0 rfl,Blk.cell m2.2.2 2 rfl,k2.cell 2 rfl⟩)
   | (go_at_call 26;refine (ref_Write _ base r q sv rv SV WV D di ba bl bc bs m2.1.disk m2.2.1 (fun w' hm => (HDQ.out w' (hm2.low.trans hm.low)).rd) HNC.out HBL.out.1 (by have:=HPO.out.2.2.1;omega)).mono ?_;rw [← HEE.out,← HDE.out];rintro e w3 ⟨rfl,hr3,hm3⟩;have k3:=hm3.keep k2 (by decide) (by decide) (by decide);have pr3 : Pr11 w3 gp g gl r gy:=hm3.keep m2.2.2 (by decide) (by decide) (by decide);have s3 : w3.cell? ⟨gp,0,none⟩ = some (.pointer (some ⟨g,0,none⟩)) ∧ w3.cell? ⟨gp,2,none⟩ = some (.pointer (some ⟨r,0,none⟩)) ∧ w3.cell? ⟨w.heap.size,2,none⟩ = some (.slice ba bl bc):=⟨Blk.cell pr3 0 rfl,Blk.cell pr3 2 rfl,k3.cell 2 rfl⟩))
 obtain ⟨wv2,hd2⟩:=hd2.out
 obtain ⟨rv3,WV3,hr3⟩:=hr3.out
 have HF : Hid (Ev w3 base gp g gs r N D' V hi rel ag P):=HE.out.disks HPO.out.1 HO'.out hm2 hd2 hm3 hr3
 have HB3 : Hid (Below base w w3):=(HB1b.out.trans hm2.low).trans hm3.low
 clear hd2 hm2 k2 m2 s1 s2 hr3 hm3 k3 pr3 s3 HOK
 go_wp2
 go_ret
 exact ⟨by simp,HF,HB3.out⟩
set_option maxRecDepth 100000 in
set_option maxHeartbeats 4000000 in
theorem e_doN (w : World) (base gp g gs r N : Nat) (s : Se) (d : Dq) (h : Evs w base gp g gs r N s) (h0 : ¬ d.kind = 0) (h1 : ¬ d.kind = 1) (h2 : ¬ d.kind = 2) (h3 : ¬ d.kind = 3) (h4 : ¬ d.kind = 4) (h5 : ¬ d.kind = 5) (h6 : ¬ d.kind = 6) :
  Calls Tryz.prog 9 #[.pointer (some ⟨gp,0,none⟩),.agg (boxE d)] w fun e w' => e = .returned (.bool true) ∧ Hid (Evs w' base gp g gs r N s) ∧ Below base w w':=by
 obtain ⟨D,V,hi,rel,ag,P⟩:=s
 have HV0 : Hid (Ev w base gp g gs r N D V hi rel ag P):=h
 obtain ⟨gl,gc,gy,q,wv,sv,rv,SV,WV,uc,ur,L,L2,vc,vr,h,hP,hO⟩:=h
 obtain ⟨dk,di,ba,bl,bc,bs,fa,fl,fc,F⟩:=d
 simp only [boxE] at h0 h1 h2 h3 h4 h5 h6 h ⊢
 obtain ⟨W1,HW1⟩ : ∃ W1,Hid (W1 = w.alloc (.cells #[.int .i64 dk,.int .i64 di,.slice ba bl bc,.slice fa fl fc] 30)):=⟨_,rfl⟩
 have HB1 : Hid (Below w.heap.size w W1.drew):=by show Below _ _ _;rw [HW1.out];exact (below_alloc _ _).drew
 have HE : Hid (Evp W1.drew base gp g gs gl gc r gy q ag wv sv rv SV WV D V uc ur hi rel L L2 vc vr):=h.stay HB1.out
 have HBS : Hid (base ≤ w.heap.size):=h.base
 obtain ⟨aw,cw,hrv,_⟩:=HE.out.lr.disk.wform
 subst hrv
 obtain ⟨nw,HNW⟩ : ∃ nw,Hid (nw = D.waits.length):=⟨_,rfl⟩
 rw [← HNW.out] at HE
 have s1 : W1.drew.cell? ⟨gp,0,none⟩ = some (.pointer (some ⟨g,0,none⟩)) ∧ W1.drew.cell? ⟨gp,2,none⟩ = some (.pointer (some ⟨r,0,none⟩)) ∧ W1.drew.cell? ⟨r,1,none⟩ = some (.slice aw nw cw):=⟨Blk.cell HE.out.pr 0 rfl,Blk.cell HE.out.pr 2 rfl,HE.out.lr.disk.blk.cell 1 rfl⟩
 have HNB : Hid (nw ≤ 1000000000):=by (show _ ≤ _);rw [HNW.out];exact HE.out.lr.disk.wl
 clear h hP hO
 go_enter Tryz.func9,Tryz.ntmps9
 go_wp2
 rw [← HW1.out]
 go_region_held3 (fun w' => w'.cell? ⟨gp,0,none⟩ = some (.pointer (some ⟨g,0,none⟩)) ∧ w'.cell? ⟨gp,2,none⟩ = some (.pointer (some ⟨r,0,none⟩)) ∧ w'.cell? ⟨r,1,none⟩ = some (.slice aw nw cw)) (exact s1)
  (first
   | (go_at_call 36;refine (disk_Waits _ base g gs wv D HE.out.lc.disk).mono ?_;rw [← HNW.out];rintro e w2 ⟨rfl,rfl⟩))
 clear s1
 go_wp2
 go_ret
 exact ⟨by simp,HV0.out.stay HB1.out,HB1.out.mono HBS.out⟩
end Go.Proofs.YtghajmcohdedlaaGreat

namespace Go.Proofs.YtghajmcohdedlaaGreat
open Go.RowKit
def Tld (w' : World) (gp g gl r k : Nat) (hi rel : Nat) (ur vr : Value) (dn : Bool) : Prop:=w'.cell? ⟨gp,0,none⟩ = some (.pointer (some ⟨g,0,none⟩)) ∧ w'.cell? ⟨gp,1,none⟩ = some (.pointer (some ⟨gl,0,none⟩)) ∧ w'.cell? ⟨gp,2,none⟩ = some (.pointer (some ⟨r,0,none⟩)) ∧ w'.cell? ⟨k,0,none⟩ = some (.int .i64 (hi : Int)) ∧ w'.cell? ⟨k,1,none⟩ = some (.int .i64 (rel : Int)) ∧ w'.cell? ⟨k,2,none⟩ = some ur ∧ w'.cell? ⟨k,3,none⟩ = some vr ∧ w'.cell? ⟨r,3,none⟩ = some (.bool dn)
theorem evF_all {hi rel N : Nat} {D : Dk} {V : List Sg} {P : List (Nat × List Nat)} (h : Okp N D V hi rel P) : evF 0 1099511627776 P = P:=List.filter_eq_self.2 fun p hp => by
 have h1:=(h.ps p hp).2
 have h2:=h.hh
 simp only [Bool.and_eq_true,decide_eq_true_eq]
 omega
theorem Evp.tld {w : World} {base gp g gs gl gc r gy q ag : Nat} {wv sv rv : Value} {SV WV : List Value} {D : Dk} {V : List Sg} {uc ur : Value} {hi rel : Nat} {L L2 : List Rc} {vc vr : Value} (h : Evp w base gp g gs gl gc r gy q ag wv sv rv SV WV D V uc ur hi rel L L2 vc vr) {k : Nat} (hk : Blk w k #[.int .i64 (hi : Int),.int .i64 (rel : Int),ur,vr] 58) {dn : Bool} (hd : D.down = dn) : Tld w gp g gl r k hi rel ur vr dn:=hd ▸
 ⟨Blk.cell h.pr 0 rfl,Blk.cell h.pr 1 rfl,Blk.cell h.pr 2 rfl,hk.cell 0 rfl,hk.cell 1 rfl,hk.cell 2 rfl,hk.cell 3 rfl,h.lr.disk.blk.cell 3 rfl⟩
set_option maxRecDepth 100000 in
set_option maxHeartbeats 8000000 in
theorem e_told (w : World) (base gp g gs r N : Nat) (D : Dk) (V : List Sg) (hi rel ag : Nat) (P : List (Nat × List Nat)) (h : Ev w base gp g gs r N D V hi rel ag P) (hN : N ≤ 10000) :
  Calls Tryz.prog 10 #[.pointer (some ⟨gp,0,none⟩)] w fun e w' => e = .returned (.bool true) ∧ Below w.heap.size w w':=by
 obtain ⟨gl,gc,gy,q,wv,sv,rv,SV,WV,uc,ur,L,L2,vc,vr,h,hP,hO⟩:=h
 have c3 : w.cell? ⟨gp,3,none⟩ = some (.pointer (some ⟨gy,0,none⟩)):=Blk.cell h.pr 3 rfl
 have y4 : w.cell? ⟨gy,4,none⟩ = some (.int .i64 (hi : Int)):=Blk.cell h.lr.log 4 rfl
 have y5 : w.cell? ⟨gy,5,none⟩ = some (.int .i64 (rel : Int)):=Blk.cell h.lr.log 5 rfl
 have y6 : w.cell? ⟨gy,6,none⟩ = some ur:=Blk.cell h.lr.log 6 rfl
 have y7 : w.cell? ⟨gy,7,none⟩ = some vr:=Blk.cell h.lr.log 7 rfl
 obtain ⟨au,cu,hur⟩:=h.lr.used.val
 obtain ⟨ar,cr,hvr⟩:=h.lr.recs.val
 obtain ⟨ac,cc,huc⟩:=Sgs.val h.lc.used
 rw [List.length_map] at huc
 obtain ⟨n2,HN2⟩ : ∃ n,Hid (n = L2.length):=⟨_,rfl⟩
 obtain ⟨un,HUN⟩ : ∃ n,Hid (n = V.length):=⟨_,rfl⟩
 rw [← HN2.out] at hvr
 rw [← HUN.out] at hur huc
 subst hur hvr huc
 obtain ⟨W1,HW1⟩ : ∃ W1,Hid (W1 = w.alloc (.cells #[.int .i64 (hi : Int),.int .i64 (rel : Int),.slice au un cu,.slice ar n2 cr] 58)):=⟨_,rfl⟩
 have HB1 : Hid (Below w.heap.size w W1.drew):=by show Below _ _ _;rw [HW1.out];exact (below_alloc _ _).drew
 have HK1 : Hid (Blk W1.drew w.heap.size #[.int .i64 (hi : Int),.int .i64 (rel : Int),.slice au un cu,.slice ar n2 cr] 58):=by show Blk _ _ _ _;rw [HW1.out];exact Blk.new _ _ _
 have HE1 : Hid (Evp W1.drew base gp g gs gl gc r gy q ag wv sv rv SV WV D V (.slice ac un cc) (.slice au un cu) hi rel L L2 vc (.slice ar n2 cr)):=h.stay HB1.out
 have HLN : Hid (L.length ≤ 10000 ∧ L2.length ≤ 10000):=by (show _ ∧ _);subst hP;have:=h.plen hO;omega
 have HEV : Hid (evF 0 1099511627776 (L.map plR) = L.map plR):=by (show _ = _);rw [hP];exact evF_all hO
 have HSM : Hid (L.map plR = L2.map plR):=h.same
 obtain ⟨dn,HDN⟩ : ∃ dn,Hid (D.down = dn):=⟨_,rfl⟩
 have s1 : Tld W1.drew gp g gl r w.heap.size hi rel (.slice au un cu) (.slice ar n2 cr) dn:=HE1.out.tld HK1.out HDN.out
 clear h hP hO
 go_enter Tryz.func10,Tryz.ntmps10
 go_upto_region 2 with fail
 clear c3 y4 y5 y6 y7
 rw [← HW1.out]
 unfold Tld at s1
 go_region_held3 (fun w' => w'.cell? ⟨gp,0,none⟩ = some (.pointer (some ⟨g,0,none⟩)) ∧ w'.cell? ⟨gp,1,none⟩ = some (.pointer (some ⟨gl,0,none⟩)) ∧ w'.cell? ⟨gp,2,none⟩ = some (.pointer (some ⟨r,0,none⟩)) ∧ w'.cell? ⟨w.heap.size,0,none⟩ = some (.int .i64 (hi : Int)) ∧ w'.cell? ⟨w.heap.size,1,none⟩ = some (.int .i64 (rel : Int)) ∧ w'.cell? ⟨w.heap.size,2,none⟩ = some (.slice au un cu) ∧ w'.cell? ⟨w.heap.size,3,none⟩ = some (.slice ar n2 cr) ∧ w'.cell? ⟨r,3,none⟩ = some (.bool dn)) (first | exact s1 | exact s2 | exact s3 | exact s4 | exact s5 | exact s6 | exact s7 | fail)
  (first
   | (go_at_call 13;refine (evl_High W1.drew gl g gc 1 3 ag hi rel _ vc HE1.out.lc.log).mono ?_;rintro e w2 ⟨rfl,hw2⟩;subst hw2;have s2:=s1)
   | (go_at_call 14;refine (evl_Rel W1.drew gl g gc 1 3 ag hi rel _ vc HE1.out.lc.log).mono ?_;rintro e w3 ⟨rfl,hw3⟩;subst hw3;have s3:=s1)
   | (go_at_call 18;refine (evl_Used W1.drew gl g gc 1 3 ag hi rel ac un cc vc HE1.out.lc.log).mono ?_;rintro e w4 ⟨rfl,hw4⟩;subst hw4;have s4:=s1)
   | (go_at_call 16;refine (disk_Down w6 base g gs wv D he6.lc.disk).mono ?_;rw [HDN.out];rintro e w7 ⟨rfl,hw7⟩;have s7:=s6)
   | (go_at_call 15;refine (evl_Events W1.drew base gl g gc 1 3 ag hi rel _ vc L 0 1099511627776 HE1.out.lc.log HE1.out.lc.recs (by have:=HLN.out.1;omega)).mono ?_;rintro e w5 ⟨ht5,hb5⟩;obtain ⟨ve,Le,rfl,hLe,hRe⟩:=ht5.out;have he5:=HE1.out.stay hb5;have s5 : Tld w5 gp g gl r w.heap.size hi rel (.slice au un cu) (.slice ar n2 cr) dn:=he5.tld (HK1.out.stay hb5) HDN.out;unfold Tld at s5)
   | (go_at_call 21;refine (ref_Same11 w5 _ base ve _ Le L2 hRe he5.lr.recs (by rw [hLe,HEV.out,HSM.out]) (by have e1:=congrArg List.length hLe;rw [HEV.out,List.length_map,List.length_map] at e1;have:=HLN.out.1;omega)).mono ?_;rintro e w6 ⟨rfl,hb6⟩;have he6:=he5.stay hb6;have s6 : Tld w6 gp g gl r w.heap.size hi rel (.slice au un cu) (.slice ar n2 cr) dn:=he6.tld ((HK1.out.stay hb5).stay hb6) HDN.out;unfold Tld at s6))
 subst hw7
 have HB6 : Hid (Below w.heap.size w w7):=(HB1.out.trans (hb5.mono HB1.out.size)).trans (hb6.mono (Nat.le_trans HB1.out.size hb5.size))
 clear s1 s2 s3 s4 s5 s6 s7 he5 he6 hb5 hb6 ht5 hLe hRe
 go_wp2
 go_ret
 exact ⟨by simp,HB6.out⟩
end Go.Proofs.YtghajmcohdedlaaGreat

namespace Go.Proofs.YtghajmcohdedlaaGreat
open Go.RowKit
set_option maxRecDepth 100000 in
set_option maxHeartbeats 4000000 in
theorem e_disks (w : World) (base gp g gs r N : Nat) (D : Dk) (V : List Sg) (hi rel ag : Nat) (P : List (Nat × List Nat)) (h : Ev w base gp g gs r N D V hi rel ag P) :
  Calls Tryz.prog 12 #[.pointer (some ⟨gp,0,none⟩)] w fun e w' => e = .returned (.bool true) ∧ Below w.heap.size w w':=by
 obtain ⟨gl,gc,gy,q,wv,sv,rv,SV,WV,uc,ur,L,L2,vc,vr,h,hP,hO⟩:=h
 have HD : Hid (Disk w base g gs wv D):=h.lc.disk
 have HR : Hid (Rk w base r q sv rv SV WV D):=h.lr.disk
 have HP : Hid (Pr11 w gp g gl r gy):=h.pr
 clear h hP hO
 go_enter Tryz.func12,Tryz.ntmps12
 go_wp2
 go_loopw [3] (fun t5 wr => ∃ (i : Int),0 ≤ i ∧ i ≤ 52 ∧ t5 = .int .i64 i ∧ Hid (Below w.heap.size w wr)) (fun t5 _ => (52 - intOf t5).toNat)
 case atStart => exact ⟨0,by omega,by omega,rfl,Below.refl _ _⟩
 case round =>
  obtain ⟨i,hi1,hi2,rfl,HB⟩:=hrel
  have HDr : Hid (Disk wr base g gs wv D):=HD.out.stay HB.out
  have HRr : Hid (Rk wr base r q sv rv SV WV D):=HR.out.stay HB.out
  have HPr : Hid (Pr11 wr gp g gl r gy):=Blk.stay HP.out HB.out
  have d0 : wr.cell? ⟨gp,0,none⟩ = some (.pointer (some ⟨g,0,none⟩)):=Blk.cell HPr.out 0 rfl
  by_cases hlt : i < 52
  ·obtain ⟨E,HE⟩ : ∃ E,Hid (E = readE D i):=⟨_,rfl⟩
   obtain ⟨X,HX⟩ : ∃ X,Hid (X = tellB (readE D i) (nowB D i.toNat)):=⟨_,rfl⟩
   obtain ⟨E2,HE2⟩ : ∃ E2,Hid (E2 = sureE D i):=⟨_,rfl⟩
   obtain ⟨Y,HY⟩ : ∃ Y,Hid (Y = tellB (sureE D i) (D.sure.getD i.toNat [])):=⟨_,rfl⟩
   go_wp2_with fail
   refine (disk_Sure wr base g gs wv D i HDr.out).mono ?_
   rintro e w1 ⟨ht1,hb1⟩
   obtain ⟨a1,l1,k1,rfl,hr1⟩:=ht1.out.uni
   rw [← HY.out] at hr1
   rw [← HE2.out]
   have HR1 : Hid (Rd w1 a1 l1 Y):=hr1
   have HB1 : Hid (Below wr.heap.size wr w1):=hb1
   have d1 : w1.cell? ⟨gp,2,none⟩ = some (.pointer (some ⟨r,0,none⟩)):=Blk.cell (Blk.stay HPr.out HB1.out) 2 rfl
   clear ht1 hr1 hb1 d0
   go_wp2_with fail
   refine (ref_Sure w1 base r q _ _ SV WV D i (HRr.out.stay HB1.out)).mono ?_
   rintro e w2 ⟨ht2,hb2⟩
   obtain ⟨a2,l2,k2,rfl,hr2⟩:=ht2.out.uni
   rw [← HY.out] at hr2
   rw [← HE2.out]
   have HR2 : Hid (Rd w2 a2 l2 Y):=hr2
   have HB2 : Hid (Below w1.heap.size w1 w2):=hb2
   have HB02 : Hid (Below wr.heap.size wr w2):=HB1.out.trans (hb2.mono HB1.out.size)
   have d2 : w2.cell? ⟨gp,0,none⟩ = some (.pointer (some ⟨g,0,none⟩)):=Blk.cell (Blk.stay HPr.out HB02.out) 0 rfl
   clear ht2 hr2 hb2 d1
   go_wp2_with fail
   refine (disk_Read w2 base g gs wv D i (HDr.out.stay HB02.out)).mono ?_
   rintro e w3 ⟨ht3,hb3⟩
   obtain ⟨a3,l3,k3,rfl,hr3⟩:=ht3.out.uni
   rw [← HX.out] at hr3
   rw [← HE.out]
   have HR3 : Hid (Rd w3 a3 l3 X):=hr3
   have HB3 : Hid (Below w2.heap.size w2 w3):=hb3
   have HB03 : Hid (Below wr.heap.size wr w3):=HB02.out.trans (hb3.mono HB02.out.size)
   have d3 : w3.cell? ⟨gp,2,none⟩ = some (.pointer (some ⟨r,0,none⟩)):=Blk.cell (Blk.stay HPr.out HB03.out) 2 rfl
   clear ht3 hr3 hb3 d2
   go_wp2_with fail
   refine (ref_Read w3 base r q _ _ SV WV D i (HRr.out.stay HB03.out)).mono ?_
   rintro e w4 ⟨ht4,hb4⟩
   obtain ⟨a4,l4,k4,rfl,hr4⟩:=ht4.out.uni
   rw [← HX.out] at hr4
   rw [← HE.out]
   have v1 : (convert 27 9 (.slice a1 l1 k1)).run Tryz.prog w4 = .ok (.string (str Y)) w4:=conv_rd (((HR1.out.below HB2.out).below HB3.out).below hb4) k1
   have v2 : (convert 27 9 (.slice a2 l2 k2)).run Tryz.prog w4 = .ok (.string (str Y)) w4:=conv_rd ((HR2.out.below HB3.out).below hb4) k2
   have v3 : (convert 27 9 (.slice a3 l3 k3)).run Tryz.prog w4 = .ok (.string (str X)) w4:=conv_rd (HR3.out.below hb4) k3
   have v4 : (convert 27 9 (.slice a4 l4 k4)).run Tryz.prog w4 = .ok (.string (str X)) w4:=conv_rd hr4 k4
   have HB4 : Hid (Below w.heap.size w w4):=HB.out.trans ((HB03.out.trans (hb4.mono HB03.out.size)).mono HB.out.size)
   clear ht4 hr4 hb4 HR1 HR2 HR3 d3
   go_wp2
   go_roundw
   case rel => exact ⟨i + 1,by omega,by omega,by go_num,HB4⟩
   case measure => simp [intOf];omega
  ·have HB0 : Hid (Below w.heap.size w wr):=HB
   clear d0
   go_wp2
   go_ret
   exact ⟨rfl,HB0.out⟩
end Go.Proofs.YtghajmcohdedlaaGreat
