import Derived.Test.YtghajmcohdedlaaGreatPk30
import Derived.Lib.SlBytesConst
import Derived.Test.YtghajmcohdedlaaGreatEvB6
namespace Go.Proofs.YtghajmcohdedlaaGreat
open Go.RowKit
theorem Rcs.one {w : World} {k : Nat} {r : Rc} {B : Nat} (hb : Blk w k (rcc r).toArray 44) (hB : B ≤ k) (hd : Bd w B r.a r.n r.bs) : Rcs w B (.slice (some ⟨k,0,none⟩) 1 1) [r] :=
 ⟨⟨rfl,.inr ⟨k,1,(rcc r).toArray,rfl,hB,hb,Nat.le_refl _,by unfold maxLen;omega,rfl,by simp [rcc]⟩⟩,fun q hq => by rw [List.mem_singleton.1 hq];exact hd⟩
set_option maxRecDepth 100000 in
set_option maxHeartbeats 4000000 in
theorem law_live11 (w : World) : Calls Tryz.prog 11 #[] w fun e w' => e = .returned (.bool true) ∧ Below w.heap.size w w':=by
 obtain ⟨f1,f2,f3,f4,f5,f6,f7,f8,f9,f10,f11,f12,f13,f14⟩:=live11_d
 obtain ⟨D0,HD0⟩ : ∃ D,Hid (D = live0):=⟨_,rfl⟩
 obtain ⟨D2,HD2⟩ : ∃ D,Hid (D = live2):=⟨_,rfl⟩
 obtain ⟨D3,HD3⟩ : ∃ D,Hid (D = live3):=⟨_,rfl⟩
 obtain ⟨D5,HD5⟩ : ∃ D,Hid (D = live5):=⟨_,rfl⟩
 have HE2 : Hid (D2 = writeD (syncD D0) ((1 + 2 : Nat) : Int) (headL 1 0)):=by (show _ = _);rw [HD2.out,HD0.out];rfl
 have HE3 : Hid (writeD D2 ((1 + 3 : Nat) : Int) (layE 2 true (KeyM.key (KeyM.up ((5 : Nat) : Int)) ++ [97,98])) = D3):=by (show _ = _);rw [HD2.out,HD3.out];rfl
 have HE5 : Hid (crashD (syncD D3) [] = D5):=by (show _ = _);rw [HD3.out,HD5.out];rfl
 have HS0 : Hid (D0.down = false ∧ D0.sure.length = 52 ∧ D0.waits.length = 0):=by (show _ ∧ _ ∧ _);rw [HD0.out];exact ⟨rfl,by kernel_rfl,rfl⟩
 have HA0 : Hid ((getB D0 1 1 0).1 = ((0 : Nat) : Int) ∧ headsF D0 1 3 = []):=by (show _ ∧ _);rw [HD0.out];exact ⟨live11_a,live11_b⟩
 have HA5 : Hid ((getB D5 1 1 0).1 = ((0 : Nat) : Int) ∧ headsF D5 1 3 = [⟨3,1,0,1⟩] ∧ readAllF D5 [⟨3,1,0,1⟩] 0 [] = ([⟨3,1,5,2⟩],5,[(5,[97,98])]) ∧ wipeL D5 14 5 false = (D5,false,0)):=by (show _ ∧ _ ∧ _ ∧ _);rw [HD5.out];exact ⟨live11_e,live11_f,live11_g,live11_h⟩
 have HW0 : Hid (wipeL D0 16 (1 + 2) false = (D0,false,0) ∧ syncE D0 = 0 ∧ (syncD D0).waits.length < 1000000000 ∧ writeE (syncD D0) ((1 + 2 : Nat) : Int) (headL 1 0) = 0 ∧ D2.waits.length < 1000000000 ∧ writeE D2 ((1 + 3 : Nat) : Int) (layE 2 true (KeyM.key (KeyM.up ((5 : Nat) : Int)) ++ [97,98])) = 0 ∧ shutE D0 D0.age = 0):=by
  (show _ ∧ _ ∧ _ ∧ _ ∧ _ ∧ _ ∧ _)
  rw [HD0.out,HD2.out,f7]
  exact ⟨live11_c,f1,f3,f2,f4,f5,f6⟩
 have HAG : Hid (D0.age = D3.age ∧ syncE D3 = 0 ∧ (syncD D3).age < 1000000000):=by (show _ ∧ _ ∧ _);rw [HD0.out,HD3.out];exact ⟨by rw [f7,f8],f9,f10⟩
 have HS5 : Hid (D5.down = false ∧ D5.sure.length = 52 ∧ D5.waits.length = 0):=by (show _ ∧ _ ∧ _);rw [HD5.out];exact ⟨f11,f12,f13⟩
 clear f1 f2 f3 f4 f5 f6 f7 f8 f9 f10 f11 f12 f13 f14
 go_enter Tryz.func11,Tryz.ntmps11
 go_wp2_with fail
 refine (sector_New 52 w).mono ?_
 rintro e w1 ⟨ht,hb1⟩
 rcases ht.out with ⟨h0,_⟩ | ⟨_,g,rfl,hd⟩
 ·exact absurd ⟨by decide,by decide⟩ h0
 have HDk : Hid (Disk w1 w.heap.size g w.heap.size (.slice none 0 0) D0):=by (show Disk _ _ _ _ _ _);rw [HD0.out];exact hd
 have HB1 : Hid (Below w.heap.size w w1):=hb1
 clear ht hd hb1
 have HOP:=evl_Open w1 w.heap.size g w.heap.size (.slice none 0 0) D0 1 3 0 HDk.out HS0.out.1 (by omega) (by omega) (by rw [HS0.out.2.1];omega) (by rw [HS0.out.2.2];omega) HA0.out.1 (by rw [HA0.out.2];exact Nat.zero_le _) (by rw [HA0.out.2];intro p hp;cases hp) (by rw [HA0.out.2];exact .inl rfl)
 rw [HA0.out.2] at HOP
 go_wp2_with fail
 refine HOP.mono ?_
 rintro e w2 ⟨ht2,hb2⟩
 obtain ⟨gl,gc,wv2,uv2,rv2,L2,rfl,hgl,hL2,hg2⟩:=ht2.out
 have HG2 : Hid (Lg w2 w.heap.size g w.heap.size wv2 D0 gl gc 1 3 D0.age [] uv2 0 0 L2 rv2):=hg2
 have HL2 : Hid (L2.map plR = []):=hL2
 have HB2 : Hid (Below w.heap.size w w2):=HB1.out.trans hb2
 clear ht2 hb2 hL2 hg2 hgl HOP
 obtain ⟨W3,HW3⟩ : ∃ W3,Hid (W3 = w2.alloc (.cells #[.int .u8 97,.int .u8 98] 5 (2,3))):=⟨_,rfl⟩
 have HX3 : Hid (Below w2.heap.size w2 W3):=by (show Below _ _ _);rw [HW3.out];exact below_alloc _ _
 have HK3 : Hid (W3.heap[w2.heap.size]? = some (.cells (vb [97,98]).toArray 5 (2,3))):=by (show _ = _);rw [HW3.out];exact heap_alloc_new w2 _
 have HO3 : Hid (Bd W3 w.heap.size (some ⟨w2.heap.size,0,none⟩) 2 [97,98]):=⟨Rd.of_row HK3.out (by decide),.inr ⟨_,0,_,_,rfl,⟨HB2.out.size,by decide⟩,HK3.out⟩⟩
 have hcv : (convert 27 27 (.slice (some ⟨w2.heap.size,0,none⟩) 2 2)).run Tryz.prog (w2.alloc (.cells #[.int .u8 97,.int .u8 98] 5)) = .ok (.slice (some ⟨w2.heap.size,0,none⟩) 2 2) (w2.alloc (.cells #[.int .u8 97,.int .u8 98] 5 (2,3))):=Go.Lib.run_convert_bytes_const w2 27 5 _ 2 2 Tryz.underlying27 Tryz.underlying5
 have HG3 : Hid (Lg W3 w.heap.size g w.heap.size wv2 D0 gl gc 1 3 D0.age [] uv2 0 0 L2 rv2):=HG2.out.below HX3.out
 have HB3 : Hid (Below w.heap.size w W3):=HB2.out.trans (HX3.out.mono HB2.out.size)
 have HAP:=evl_Append0 W3 w.heap.size g w.heap.size wv2 D0 gl gc 1 3 D0.age uv2 0 0 L2 rv2 D0 D2 false 5 (some ⟨w2.heap.size,0,none⟩) 2 2 [97,98] HG3.out HW0.out.2.2.2.2.2.2 (by omega) (by omega) (by omega) (by omega) (by rw [HS0.out.2.2];omega) HW0.out.1 HW0.out.2.1 HW0.out.2.2.1 HW0.out.2.2.2.1 HE2.out HW0.out.2.2.2.2.1 HW0.out.2.2.2.2.2.1 HO3.out (by omega) (by omega) (fun e => by cases e) (by have h:=congrArg List.length HL2.out;rw [List.length_map] at h;rw [h];exact Nat.zero_le _)
 rw [HE3.out] at HAP
 go_wp2_with fail
 clear hcv
 rw [← HW3.out]
 refine HAP.mono ?_
 rintro e w4 ⟨rfl,ht4,hb4⟩
 obtain ⟨wv4,uv4,rv4,L4,_,hg4⟩:=ht4.out
 have HG4 : Hid (Lg w4 w.heap.size g w.heap.size wv4 D3 gl gc 1 3 D3.age [⟨1 + 2,1,5,2⟩] uv4 5 0 L4 rv4):=by (show Lg _ _ _ _ _ _ _ _ _ _ _ _ _ _ _ _ _);rw [← HAG.out.1];exact hg4
 have HB4 : Hid (Below w.heap.size w w4):=HB3.out.trans hb4
 clear ht4 hg4 hb4 HAP
 have HSY:=evl_Sync w4 w.heap.size g w.heap.size wv4 D3 gl gc 1 3 _ uv4 5 0 L4 rv4 HG4.out
 rw [HAG.out.2.1] at HSY
 go_wp2_with fail
 refine HSY.mono ?_
 rintro e w5 ⟨rfl,ht5,hb5⟩
 obtain ⟨wv5,hg5⟩:=ht5.out
 have HD5' : Hid (Disk w5 w.heap.size g w.heap.size wv5 (syncD D3)):=hg5.disk
 have HB5 : Hid (Below w.heap.size w w5):=HB4.out.trans hb5
 clear ht5 hg5 hb5 HSY
 go_wp2_with fail
 refine (disk_Crash w5 w.heap.size g w.heap.size wv5 (syncD D3) none 0 0 [] HD5'.out (fun _ _ => ⟨rfl,.inl rfl⟩) (by simp) (by omega) HAG.out.2.2).mono ?_
 rw [HE5.out]
 rintro e w6 ⟨rfl,hd6,hm6⟩
 have HD6 : Hid (Disk w6 w.heap.size g w.heap.size (.slice none 0 0) D5):=hd6.out
 have HB6 : Hid (Below w.heap.size w w6):=HB5.out.trans hm6.low
 clear hd6 hm6
 have HOP:=evl_Open w6 w.heap.size g w.heap.size (.slice none 0 0) D5 1 3 0 HD6.out HS5.out.1 (by omega) (by omega) (by rw [HS5.out.2.1];omega) (by rw [HS5.out.2.2];omega) HA5.out.1 (by rw [HA5.out.2.1];exact Nat.le_refl _) (by rw [HA5.out.2.1,HA5.out.2.2.1];intro p hp;rw [List.mem_singleton.1 hp];decide) (by rw [HA5.out.2.1,HA5.out.2.2.1];exact .inr ⟨_,rfl,by decide,by decide,HA5.out.2.2.2⟩)
 rw [HA5.out.2.1,HA5.out.2.2.1] at HOP
 go_wp2_with fail
 refine HOP.mono ?_
 rintro e w7 ⟨ht7,hb7⟩
 obtain ⟨g7,gc7,wv7,uv7,rv7,L7,rfl,_,hL7,hg7⟩:=ht7.out
 have HL7 : Hid (L7.map plR = [(5,[97,98])]):=hL7
 have HG7 : Hid (Lg w7 w.heap.size g w.heap.size wv7 D5 g7 gc7 1 3 D5.age [⟨3,1,5,2⟩] uv7 5 0 L7 rv7):=hg7
 have HB7 : Hid (Below w.heap.size w w7):=HB6.out.trans hb7
 have HLN : Hid (L7.length ≤ 100000):=by (show _ ≤ _);have h:=congrArg List.length HL7.out;rw [List.length_map] at h;rw [h];decide
 clear ht7 hL7 hg7 hb7 HOP
 go_wp2_with fail
 refine (evl_High w7 g7 g gc7 1 3 D5.age 5 0 uv7 rv7 HG7.out.log).mono ?_
 rintro e w0 ⟨rfl,hw⟩
 subst w0
 go_wp2_with fail
 refine (evl_Events w7 w.heap.size g7 g gc7 1 3 D5.age 5 0 uv7 rv7 L7 0 9 HG7.out.log HG7.out.recs HLN.out).mono ?_
 rintro e w8 ⟨ht8,hb8⟩
 obtain ⟨v8,L8,rfl,hL8,hr8⟩:=ht8.out
 have HL8 : Hid (L8.map plR = [(5,[97,98])]):=by (show _ = _);rw [hL8,HL7.out];rfl
 have HR8 : Hid (Rcs w8 w7.heap.size v8 L8):=hr8
 have HB8 : Hid (Below w.heap.size w w8):=HB7.out.trans (hb8.mono HB7.out.size)
 clear ht8 hL8 hr8 hb8
 obtain ⟨W9,HW9⟩ : ∃ W9,Hid (W9 = w8.alloc (.cells #[.int .u8 97,.int .u8 98] 5 (2,3))):=⟨_,rfl⟩
 have HX9 : Hid (Below w8.heap.size w8 W9):=by (show Below _ _ _);rw [HW9.out];exact below_alloc _ _
 have HK9 : Hid (W9.heap[w8.heap.size]? = some (.cells (vb [97,98]).toArray 5 (2,3))):=by (show _ = _);rw [HW9.out];exact heap_alloc_new w8 _
 have HO9 : Hid (Bd W9 w8.heap.size (some ⟨w8.heap.size,0,none⟩) 2 [97,98]):=⟨Rd.of_row HK9.out (by decide),.inr ⟨_,0,_,_,rfl,⟨Nat.le_refl _,by decide⟩,HK9.out⟩⟩
 have hcv : (convert 27 27 (.slice (some ⟨w8.heap.size,0,none⟩) 2 2)).run Tryz.prog (w8.alloc (.cells #[.int .u8 97,.int .u8 98] 5)) = .ok (.slice (some ⟨w8.heap.size,0,none⟩) 2 2) (w8.alloc (.cells #[.int .u8 97,.int .u8 98] 5 (2,3))):=Go.Lib.run_convert_bytes_const w8 27 5 _ 2 2 Tryz.underlying27 Tryz.underlying5
 obtain ⟨WA,HWA⟩ : ∃ WA,Hid (WA = W9.alloc (.cells #[.int .i64 5,.slice (some ⟨w8.heap.size,0,none⟩) 2 2] 44)):=⟨_,rfl⟩
 have HXA : Hid (Below W9.heap.size W9 WA):=by (show Below _ _ _);rw [HWA.out];exact below_alloc _ _
 have HKA : Hid (Blk WA W9.heap.size #[.int .i64 5,.slice (some ⟨w8.heap.size,0,none⟩) 2 2] 44):=by (show Blk _ _ _ _);rw [HWA.out];exact Blk.new _ _ _
 have HRA : Hid (Rcs WA w8.heap.size (.slice (some ⟨W9.heap.size,0,none⟩) 1 1) [⟨5,some ⟨w8.heap.size,0,none⟩,2,2,[97,98]⟩]):=Rcs.one HKA.out HX9.out.size (HO9.out.kt (Kt.of_below HXA.out))
 have HX8A : Hid (Below w8.heap.size w8 WA):=HX9.out.trans (HXA.out.mono HX9.out.size)
 have HBA : Hid (Below w.heap.size w WA):=HB8.out.trans (HX8A.out.mono HB8.out.size)
 have HSM:=ref_Same11 WA w7.heap.size w8.heap.size v8 (.slice (some ⟨W9.heap.size,0,none⟩) 1 1) L8 [⟨5,some ⟨w8.heap.size,0,none⟩,2,2,[97,98]⟩] (HR8.out.below HX8A.out) HRA.out (by rw [HL8.out];rfl) (by have h:=congrArg List.length HL8.out;rw [List.length_map] at h;rw [h];decide)
 go_wp2_with fail
 clear hcv
 have HSZ9 : W9.heap.size = w8.heap.size + 1:=by rw [HW9.out];simp
 rw [HSZ9] at HSM
 rw [← HW9.out,← HWA.out]
 refine HSM.mono ?_
 rintro e w10 ⟨rfl,hb10⟩
 have HB10 : Hid (Below w.heap.size w w10):=HBA.out.trans (hb10.mono HBA.out.size)
 clear hb10 HSM
 go_wp2
 go_ret
 exact ⟨rfl,HB10.out⟩
end Go.Proofs.YtghajmcohdedlaaGreat

namespace Go.Proofs.YtghajmcohdedlaaGreat
open Go.RowKit
def mayE (n : Nat) (b m : Int) : Prop:=(2 ≤ m ∧ m ≤ 16) ∧ 0 ≤ b ∧ b ≤ (n : Int) - 2 - m * 16
theorem evl_Used (w : World) (gl g gc b m ag hi rel : Nat) (a : Option Addr) (n c : Nat) (rv : Value) (h : Lc w gl g gc b m ag (.slice a n c) hi rel rv) : Calls Tryz.prog 18 #[.pointer (some ⟨gl,0,none⟩)] w fun e w' => e = .returned (.int .i64 (n : Int)) ∧ w' = w:=by
 have c5 : w.cell? ⟨gl,5,none⟩ = some (.slice a n c):=Blk.cell h 5 rfl
 clear h
 go_enter Tryz.func18,Tryz.ntmps18
 go_wp2
 go_returns
 exact ⟨rfl,rfl⟩
end Go.Proofs.YtghajmcohdedlaaGreat

namespace Go.Proofs.YtghajmcohdedlaaGreat
open Go.RowKit
set_option maxRecDepth 100000
def sliceLen : Value → Nat
 | .slice _ n _ => n
 | _ => 0
theorem own_setB {w : World} {base g n c : Nat} {bs : List Nat} (h : Own w base (some ⟨g,0,none⟩) n c bs) {i x : Nat} (hi : i < n) (hx : x < 256) : Own (w.setCell ⟨g,i,none⟩ (.int .u8 (x : Int))) base (some ⟨g,0,none⟩) n c (bs.set i x) ∧ w.frozen? ⟨g,i,none⟩ = false ∧ base ≤ g ∧ w.cell? ⟨g,i,none⟩ = some (.int .u8 ((bs.getD i 0 : Nat) : Int)):=by
 have hr:=(World.ownsRow.stored h.row i (.int .u8 (x : Int))).1
 have hv : (vb bs).set i (.int .u8 (x : Int)) = vb (bs.set i x):=by unfold vb;rw [List.map_set]
 rw [hv] at hr
 have hc : w.cell? ⟨g,i,none⟩ = some (.int .u8 ((bs.getD i 0 : Nat) : Int)):=by
  have:=h.rd.at_ hi
  rwa [Nat.zero_add] at this
 have hcm:=hi
 rcases h.row.2 with ⟨h1,_⟩ | ⟨k,c',cur,h1,hb,h3,_⟩
 ·cases h1
 ·simp only [Value.slice.injEq,Option.some.injEq,Addr.mk.injEq,and_true] at h1
  obtain ⟨rfl,_⟩:=h1
  refine ⟨⟨hr,fun y hy => ?_⟩,frozen_of_row w g i cur _ h3,hb,hc⟩
  rcases List.mem_or_eq_of_mem_set hy with hy | rfl
  ·exact h.byte y hy
  ·exact hx
set_option maxHeartbeats 4000000 in
theorem ref_Laid (w : World) (k : Nat) (a : Option Addr) (n c : Nat) (p : List Nat) (last : Bool) (hk : k < 256) (hn : n ≤ 59) (hr : Rd w a n p) (hnn : a = none → c = 0) :
  Calls Tryz.prog 62 #[.int .i64 (k : Int),.slice a n c,.bool last] w fun e w' => Hid (∃ g c',e = .returned (.slice (some ⟨g,0,none⟩) 64 c') ∧ Own w' w.heap.size (some ⟨g,0,none⟩) 64 c' (layE k last p)) ∧ Below w.heap.size w w':=by
 have HP : Hid (p.length = n ∧ ∀ x ∈ p,x < 256):=⟨hr.size,hr.byte⟩
 have q1 : IntKind.u8.wrap (k : Int) = (k : Int):=by rw [IntKind.wrap_u8];omega
 have q2 : IntKind.u8.wrap (n : Int) = (n : Int):=by rw [IntKind.wrap_u8];omega
 obtain ⟨LB,HLB⟩ : ∃ LB,Hid (layE k last p = LB):=⟨_,rfl⟩
 rw [HLB.out]
 have HB1 : Hid (Below w.heap.size w (w.alloc (.cells #[.int .u8 231,.int .u8 (k : Int),.int .u8 (n : Int),.int .u8 0] 5))):=below_alloc _ _
 have HO1 : Hid (Own (w.alloc (.cells #[.int .u8 231,.int .u8 (k : Int),.int .u8 (n : Int),.int .u8 0] 5)) w.heap.size (some ⟨w.heap.size,0,none⟩) 4 4 [231,k,n,0]):=Own.new w w.heap.size #[.int .u8 231,.int .u8 (k : Int),.int .u8 (n : Int),.int .u8 0] [231,k,n,0] (by intro x hx;simp only [List.mem_cons,List.not_mem_nil,or_false] at hx;rcases hx with rfl | rfl | rfl | rfl <;> omega) rfl (Nat.le_refl _) (by simp [maxLen])
 have HR1 : Hid (Rd (w.alloc (.cells #[.int .u8 231,.int .u8 (k : Int),.int .u8 (n : Int),.int .u8 0] 5)) a n p):=hr.below HB1.out
 clear hr
 go_enter Tryz.func62,Tryz.ntmps62
 go_wp2_with (guard_target =~ wpList _ _ _ (Oper.mk (some 15) _ _ _ _ _ :: _) _ _;refine wpList_append_rd rfl (.tmp 13) (.tmp 14) rfl w.heap.size (some ⟨w.heap.size,0,none⟩) 4 4 [231,k,n,0] rfl HO1.out a n c p rfl HR1.out hnn (by omega) HB1.out.size ?_)
 intro a2 c2 w2 ho2 hg2 hb2
 obtain ⟨m0,HM0⟩ : ∃ m0,Hid (4 + n = m0):=⟨_,rfl⟩
 rw [HM0.out] at ho2 ⊢
 obtain ⟨g,rfl⟩ : ∃ g,a2 = some ⟨g,0,none⟩:=by
  rcases ho2.row.2 with ⟨h1,h0⟩ | ⟨gg,cp,cur,hv,_⟩
  ·have:=HM0.out;omega
  ·cases hv;exact ⟨gg,rfl⟩
 have HO2 : Hid (Own w2 w.heap.size (some ⟨g,0,none⟩) m0 c2 ([231,k,n,0] ++ p)):=ho2
 have HB2 : Hid (Below w.heap.size w w2):=HB1.out.trans hb2
 clear ho2 hg2 hb2
 obtain ⟨HD,HHD⟩ : ∃ HD,Hid (HD = [231,k,n,(if last = true then 1 else 0)] ++ p):=⟨_,rfl⟩
 have HHL : Hid (HD.length = m0):=by (show _ = _);rw [HHD.out,← HM0.out];simp [HP.out.1];omega
 have HFIN : Hid ((HD ++ List.replicate (63 - m0) 0) ++ [231] = LB):=by
  (show _ = _)
  rw [← HLB.out,HHD.out,← HM0.out]
  unfold layE
  rw [HP.out.1,show 63 - (4 + n) = 59 - n from by omega]
  simp
 cases last with
 | true =>
  obtain ⟨h3,f3,hg3,c3⟩:=own_setB HO2.out (i:=3) (x:=1) (show 3 < m0 by have:=HM0.out;omega) (by omega)
  obtain ⟨W3,HW3⟩ : ∃ W3,Hid (W3 = w2.setCell ⟨g,3,none⟩ (.int .u8 1)):=⟨_,rfl⟩
  have HO3 : Hid (Own W3 w.heap.size (some ⟨g,0,none⟩) m0 c2 HD):=by (show Own _ _ _ _ _ _);rw [HW3.out,HHD.out];exact h3
  have HB3 : Hid (Below w.heap.size w W3):=by (show Below _ _ _);rw [HW3.out];exact HB2.out.setCell hg3 _
  have hm3 : (3 : Int) < (m0 : Int):=by have:=HM0.out;omega
  clear h3 hg3
  go_wp2
  rw [← HW3.out]
  clear f3 c3
  go_loopw [7] (fun t7 wr => ∃ (m g c : Nat),(m0 ≤ m ∧ m ≤ 63) ∧ t7 = .slice (some ⟨g,0,none⟩) m c ∧ Hid (Own wr w.heap.size (some ⟨g,0,none⟩) m c (HD ++ List.replicate (m - m0) 0)) ∧ Hid (Below w.heap.size w wr)) (fun t7 _ => 63 - (sliceLen t7))
  case atStart => exact ⟨m0,g,c2,⟨Nat.le_refl _,by have:=HM0.out;omega⟩,rfl,by (show Own _ _ _ _ _ _);rw [Nat.sub_self];simpa using HO3.out,HB3⟩
  case round =>
   obtain ⟨m,g,c,⟨hm1,hm2⟩,rfl,HO,HB⟩:=hrel
   obtain ⟨w3,rfl⟩ : ∃ w3,w3 = wr:=⟨wr,rfl⟩
   by_cases hlt : m < 63
   ·have hlt' : (m : Int) < 63:=by omega
    have HBA : Hid (Below w3.heap.size w3 (w3.alloc (.cells #[.int .u8 0] 5))):=below_alloc _ _
    have HRA : Hid (Rd (w3.alloc (.cells #[.int .u8 0] 5)) (some ⟨w3.heap.size,0,none⟩) 1 [0]):=(Own.new w3 w3.heap.size #[.int .u8 0] [0] (by intro x hx;simp only [List.mem_cons,List.not_mem_nil,or_false] at hx;omega) rfl (Nat.le_refl _) (by simp [maxLen])).rd
    go_wp2_with (guard_target =~ wpList _ _ _ (Oper.mk (some 24) _ _ _ _ _ :: _) _ _;refine wpList_append_rd rfl (.tmp 22) (.tmp 23) rfl w.heap.size (some ⟨g,0,none⟩) m c _ rfl (HO.out.below HBA.out) (some ⟨w3.heap.size,0,none⟩) 1 1 [0] rfl HRA.out (fun h => by cases h) (by omega) (Nat.le_trans HB.out.size HBA.out.size) ?_)
    intro a5 c5 w5 ho5 hg5 hb5
    obtain ⟨g5,rfl⟩ : ∃ g,a5 = some ⟨g,0,none⟩:=by
     rcases ho5.row.2 with ⟨h1,h0⟩ | ⟨gg,cp,cur,hv,_⟩
     ·omega
     ·cases hv;exact ⟨gg,rfl⟩
    have HO5 : Hid (Own w5 w.heap.size (some ⟨g5,0,none⟩) (m + 1) c5 (HD ++ List.replicate (m + 1 - m0) 0)):=by
     (show Own _ _ _ _ _ _)
     rw [show m + 1 - m0 = (m - m0) + 1 from by omega,List.replicate_succ']
     exact ho5
    have HB5 : Hid (Below w.heap.size w w5):=(HB.out.trans (HBA.out.mono HB.out.size)).trans hb5
    clear ho5 hg5 hb5
    go_wp2
    go_roundw
    case rel => exact ⟨m + 1,g5,c5,⟨by omega,by omega⟩,rfl,HO5,HB5⟩
    case measure => simp [sliceLen];omega
   ·obtain rfl : m = 63:=by omega
    have HBA : Hid (Below w3.heap.size w3 (w3.alloc (.cells #[.int .u8 231] 5))):=below_alloc _ _
    have HRA : Hid (Rd (w3.alloc (.cells #[.int .u8 231] 5)) (some ⟨w3.heap.size,0,none⟩) 1 [231]):=(Own.new w3 w3.heap.size #[.int .u8 231] [231] (by intro x hx;simp only [List.mem_cons,List.not_mem_nil,or_false] at hx;omega) rfl (Nat.le_refl _) (by simp [maxLen])).rd
    go_wp2_with (guard_target =~ wpList _ _ _ (Oper.mk (some 27) _ _ _ _ _ :: _) _ _;refine wpList_append_rd rfl (.tmp 25) (.tmp 26) rfl w.heap.size (some ⟨g,0,none⟩) 63 c _ rfl (HO.out.below HBA.out) (some ⟨w3.heap.size,0,none⟩) 1 1 [231] rfl HRA.out (fun h => by cases h) (by omega) (Nat.le_trans HB.out.size HBA.out.size) ?_)
    intro a5 c5 w5 ho5 hg5 hb5
    obtain ⟨g5,rfl⟩ : ∃ g,a5 = some ⟨g,0,none⟩:=by
     rcases ho5.row.2 with ⟨h1,h0⟩ | ⟨gg,cp,cur,hv,_⟩
     ·omega
     ·cases hv;exact ⟨gg,rfl⟩
    have HO5 : Hid (Own w5 w.heap.size (some ⟨g5,0,none⟩) 64 c5 LB):=by (show Own _ _ _ _ _ _);rw [← HFIN.out,List.append_assoc];exact ho5
    have HB5 : Hid (Below w.heap.size w w5):=(HB.out.trans (HBA.out.mono HB.out.size)).trans hb5
    clear ho5 hg5 hb5
    go_wp2
    go_returns
    exact ⟨⟨g5,c5,rfl,HO5.out⟩,HB5.out⟩
 | false =>
  have HO3 : Hid (Own w2 w.heap.size (some ⟨g,0,none⟩) m0 c2 HD):=by (show Own _ _ _ _ _ _);rw [HHD.out];exact HO2.out
  go_wp2
  go_loopw [7] (fun t7 wr => ∃ (m g c : Nat),(m0 ≤ m ∧ m ≤ 63) ∧ t7 = .slice (some ⟨g,0,none⟩) m c ∧ Hid (Own wr w.heap.size (some ⟨g,0,none⟩) m c (HD ++ List.replicate (m - m0) 0)) ∧ Hid (Below w.heap.size w wr)) (fun t7 _ => 63 - (sliceLen t7))
  case atStart => exact ⟨m0,g,c2,⟨Nat.le_refl _,by have:=HM0.out;omega⟩,rfl,by (show Own _ _ _ _ _ _);rw [Nat.sub_self];simpa using HO3.out,HB2⟩
  case round =>
   obtain ⟨m,g,c,⟨hm1,hm2⟩,rfl,HO,HB⟩:=hrel
   obtain ⟨w3,rfl⟩ : ∃ w3,w3 = wr:=⟨wr,rfl⟩
   by_cases hlt : m < 63
   ·have hlt' : (m : Int) < 63:=by omega
    have HBA : Hid (Below w3.heap.size w3 (w3.alloc (.cells #[.int .u8 0] 5))):=below_alloc _ _
    have HRA : Hid (Rd (w3.alloc (.cells #[.int .u8 0] 5)) (some ⟨w3.heap.size,0,none⟩) 1 [0]):=(Own.new w3 w3.heap.size #[.int .u8 0] [0] (by intro x hx;simp only [List.mem_cons,List.not_mem_nil,or_false] at hx;omega) rfl (Nat.le_refl _) (by simp [maxLen])).rd
    go_wp2_with (guard_target =~ wpList _ _ _ (Oper.mk (some 24) _ _ _ _ _ :: _) _ _;refine wpList_append_rd rfl (.tmp 22) (.tmp 23) rfl w.heap.size (some ⟨g,0,none⟩) m c _ rfl (HO.out.below HBA.out) (some ⟨w3.heap.size,0,none⟩) 1 1 [0] rfl HRA.out (fun h => by cases h) (by omega) (Nat.le_trans HB.out.size HBA.out.size) ?_)
    intro a5 c5 w5 ho5 hg5 hb5
    obtain ⟨g5,rfl⟩ : ∃ g,a5 = some ⟨g,0,none⟩:=by
     rcases ho5.row.2 with ⟨h1,h0⟩ | ⟨gg,cp,cur,hv,_⟩
     ·omega
     ·cases hv;exact ⟨gg,rfl⟩
    have HO5 : Hid (Own w5 w.heap.size (some ⟨g5,0,none⟩) (m + 1) c5 (HD ++ List.replicate (m + 1 - m0) 0)):=by
     (show Own _ _ _ _ _ _)
     rw [show m + 1 - m0 = (m - m0) + 1 from by omega,List.replicate_succ']
     exact ho5
    have HB5 : Hid (Below w.heap.size w w5):=(HB.out.trans (HBA.out.mono HB.out.size)).trans hb5
    clear ho5 hg5 hb5
    go_wp2
    go_roundw
    case rel => exact ⟨m + 1,g5,c5,⟨by omega,by omega⟩,rfl,HO5,HB5⟩
    case measure => simp [sliceLen];omega
   ·obtain rfl : m = 63:=by omega
    have HBA : Hid (Below w3.heap.size w3 (w3.alloc (.cells #[.int .u8 231] 5))):=below_alloc _ _
    have HRA : Hid (Rd (w3.alloc (.cells #[.int .u8 231] 5)) (some ⟨w3.heap.size,0,none⟩) 1 [231]):=(Own.new w3 w3.heap.size #[.int .u8 231] [231] (by intro x hx;simp only [List.mem_cons,List.not_mem_nil,or_false] at hx;omega) rfl (Nat.le_refl _) (by simp [maxLen])).rd
    go_wp2_with (guard_target =~ wpList _ _ _ (Oper.mk (some 27) _ _ _ _ _ :: _) _ _;refine wpList_append_rd rfl (.tmp 25) (.tmp 26) rfl w.heap.size (some ⟨g,0,none⟩) 63 c _ rfl (HO.out.below HBA.out) (some ⟨w3.heap.size,0,none⟩) 1 1 [231] rfl HRA.out (fun h => by cases h) (by omega) (Nat.le_trans HB.out.size HBA.out.size) ?_)
    intro a5 c5 w5 ho5 hg5 hb5
    obtain ⟨g5,rfl⟩ : ∃ g,a5 = some ⟨g,0,none⟩:=by
     rcases ho5.row.2 with ⟨h1,h0⟩ | ⟨gg,cp,cur,hv,_⟩
     ·omega
     ·cases hv;exact ⟨gg,rfl⟩
    have HO5 : Hid (Own w5 w.heap.size (some ⟨g5,0,none⟩) 64 c5 LB):=by (show Own _ _ _ _ _ _);rw [← HFIN.out,List.append_assoc];exact ho5
    have HB5 : Hid (Below w.heap.size w w5):=(HB.out.trans (HBA.out.mono HB.out.size)).trans hb5
    clear ho5 hg5 hb5
    go_wp2
    go_returns
    exact ⟨⟨g5,c5,rfl,HO5.out⟩,HB5.out⟩
end Go.Proofs.YtghajmcohdedlaaGreat
