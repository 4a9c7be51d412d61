import Derived.Test.YtghajmcohdedlaaGreatPk46
import Derived.Test.YtghajmcohdedlaaGreatPk00
namespace Go.Proofs.YtghajmcohdedlaaGreat
open Go.RowKit
def opE (E : Dk) : Se:=⟨opD E,opV E,opH E,rrOf E,E.age,opP E⟩
theorem Ev.mono {w : World} {base gp g gs r N N' : Nat} {D : Dk} {V : List Sg} {hi rel ag : Nat} {P : List (Nat × List Nat)} (h : Ev w base gp g gs r N D V hi rel ag P) (hn : N ≤ N') : Ev w base gp g gs r N' D V hi rel ag P:=by
 obtain ⟨gl,gc,gy,q,wv,sv,rv,SV,WV,uc,ur,L,L2,vc,vr,h1,h2,h3⟩:=h
 exact ⟨gl,gc,gy,q,wv,sv,rv,SV,WV,uc,ur,L,L2,vc,vr,h1,h2,h3.mono hn⟩
theorem crash_calm (D : Dk) (F : List Int) : Calm (crashD D F):=⟨rfl,rfl⟩
set_option maxRecDepth 100000 in
set_option maxHeartbeats 4000000 in
theorem e_do4 (w : World) (base gp g gs r N : Nat) (s : Se) (d : Dq) (h : Evs w base gp g gs r N s) (hk : d.kind = 4) (hdq : ∀ w',Below base w w' → DqOk w' d) (hN : 60 ≤ N) (ha : s.D.age < 1000000000) :
  Calls Tryz.prog 9 #[.pointer (some ⟨gp,0,none⟩),.agg (boxE d)] w fun e w' => e = .returned (.bool true) ∧ Hid (Evs w' base gp g gs r N (opE (crashD s.D d.F))) ∧ Below base w w':=by
 obtain ⟨D,V,hi,rel,ag,P⟩:=s
 obtain ⟨gl,gc,gy,q,wv,sv,rv,SV,WV,uc,ur,L,L2,vc,vr,h,hP,hO⟩:=h
 obtain ⟨dk,di,ba,bl,bc,bs,fa,fl,fc,F⟩:=d
 simp only [boxE] at hk hdq ha hP hO h ⊢
 subst hk
 have HDQ0 : Hid (∀ w',Below base w w' → DqOk w' ⟨4,di,ba,bl,bc,bs,fa,fl,fc,F⟩):=hdq
 obtain ⟨W1,HW1⟩ : ∃ W1,Hid (W1 = w.alloc (.cells #[.int .i64 4,.int .i64 di,.slice ba bl bc,.slice fa fl fc] 30)):=⟨_,rfl⟩
 have HB1 : Hid (Below w.heap.size w W1.drew):=by show Below _ _ _;rw [HW1.out];exact (below_alloc _ _).drew
 have HKX : Hid (Blk W1.drew w.heap.size #[.int .i64 4,.int .i64 di,.slice ba bl bc,.slice fa fl fc] 30):=by show Blk _ _ _ _;rw [HW1.out];exact Blk.new _ _ _
 have HE : Hid (Evp W1.drew base gp g gs gl gc r gy q ag wv sv rv SV WV D V uc ur hi rel L L2 vc vr):=h.stay HB1.out
 have HBS : Hid (base ≤ w.heap.size):=h.base
 have HB1b : Hid (Below base w W1.drew):=HB1.out.mono HBS.out
 have HDQ : Hid (∀ w',Below base W1.drew w' → DqOk w' ⟨4,di,ba,bl,bc,bs,fa,fl,fc,F⟩):=fun w' hb => HDQ0.out w' (HB1b.out.trans hb)
 have HOK:=HDQ.out W1.drew (Below.refl _ _)
 have HFL : Hid (fl ≤ 9223372036854775000):=HOK.fb
 have HNE : Hid (w.heap.size ≠ g ∧ w.heap.size ≠ gs):=⟨blk_ne HKX.out HE.out.lc.disk.blk (by decide),blk_ne HKX.out HE.out.lc.disk.srow (by decide)⟩
 have HNG : Hid (w.heap.size ≠ gp):=blk_ne HKX.out HE.out.pr (by decide)
 have HFB : Hid (∀ b off,fa = some ⟨b,off,none⟩ → 0 < fl → b ≠ gs):=by
  intro b off e h0 e2
  have hft:=(HDQ0.out w (Below.refl _ _)).ft
  rcases hft.cells with h1 | ⟨b',off',h1,h2⟩
  ·simp only at h1;omega
  ·simp only at h1 h2
   rw [e] at h1
   simp only [Option.some.injEq,Addr.mk.injEq,and_true] at h1
   obtain ⟨rfl,rfl⟩:=h1
   have h3:=h2 0 h0
   have h4:=h.lc.disk.srow
   rw [← e2] at h4
   unfold Blk at h4
   rw [cell_of_row w b _ _ _ _ h4] at h3
   rw [List.getElem?_toArray] at h3
   have h5:=List.mem_of_getElem? h3
   rw [scells,List.mem_flatMap] at h5
   obtain ⟨s,_,h6⟩:=h5
   obtain ⟨x,_,h7⟩:=List.mem_map.1 h6
   cases h7
 have s1 : W1.drew.cell? ⟨gp,0,none⟩ = some (.pointer (some ⟨g,0,none⟩)) ∧ W1.drew.cell? ⟨gp,2,none⟩ = some (.pointer (some ⟨r,0,none⟩)) ∧ W1.drew.cell? ⟨w.heap.size,3,none⟩ = some (.slice fa fl fc):=⟨Blk.cell HE.out.pr 0 rfl,Blk.cell HE.out.pr 2 rfl,HKX.out.cell 3 rfl⟩
 have HAG : Hid (D.age < 1000000000 ∧ 60 ≤ N):=⟨ha,hN⟩
 obtain ⟨D',HDE⟩ : ∃ D',Hid (D' = crashD D F):=⟨_,rfl⟩
 have H52 : Hid (D'.sure.length = 52):=by show _ = _;rw [HDE.out,(crash_grew D F).sl];exact hO.sl
 have HCM : Hid (Calm D' ∧ D'.waits.length ≤ 800000000):=by (show _ ∧ _);rw [HDE.out];exact ⟨crash_calm D F,Nat.zero_le _⟩
 show Calls _ _ _ _ fun e w' => e = .returned (.bool true) ∧ Hid (Evs w' base gp g gs r N (opE (crashD D F))) ∧ Below base w w'
 rw [← HDE.out]
 clear h hdq ha HOK hP hO hN
 go_enter Tryz.func9,Tryz.ntmps9
 go_wp2
 rw [← HW1.out]
 go_region_held3 (fun w' => w'.cell? ⟨gp,0,none⟩ = some (.pointer (some ⟨g,0,none⟩)) ∧ w'.cell? ⟨gp,2,none⟩ = some (.pointer (some ⟨r,0,none⟩)) ∧ w'.cell? ⟨w.heap.size,3,none⟩ = some (.slice fa fl fc)) (first | exact s1 | exact s2 | exact s3 | exact s4 | fail)
  (first
   | (go_at_call 34;refine (disk_CrashC _ base g gs wv D fa fl fc F HE.out.lc.disk (fun w' hm => (HDQ.out w' hm.low).ft) HFB.out HFL.out HAG.out.1).mono ?_;rw [← HDE.out];rintro e w2 ⟨rfl,hd2,hm2c⟩;have hm2:=hm2c.mv;have k2:=hm2.keep HKX.out HNE.out.1 HNE.out.2 (by decide);have m2:=HE.out.mid (Mvx.of_mv hm2);have s2 : w2.cell? ⟨gp,0,none⟩ = some (.pointer (some ⟨g,0,none⟩)) ∧ w2.cell? ⟨gp,2,none⟩ = some (.pointer (some ⟨r,0,none⟩)) ∧ w2.cell? ⟨w.heap.size,3,none⟩ = some (.slice fa fl fc):=⟨Blk.cell m2.2.2 0 rfl,Blk.cell m2.2.2 2 rfl,k2.cell 3 rfl⟩)
   | (go_at_call 35;refine (ref_Crash _ base r q sv rv SV WV D fa fl fc F m2.1.disk m2.2.1 (fun w' hm => (HDQ.out w' (hm2.low.trans hm.low)).ft) HFL.out HAG.out.1).mono ?_;rw [← HDE.out];rintro e w3 ⟨rfl,hr3,hm3⟩;have k3:=hm3.keep k2 (by decide) (by decide) (by decide);have pr3 : Pr11 w3 gp g gl r gy:=hm3.keep m2.2.2 (by decide) (by decide) (by decide);have s3 : w3.cell? ⟨gp,0,none⟩ = some (.pointer (some ⟨g,0,none⟩)) ∧ w3.cell? ⟨gp,2,none⟩ = some (.pointer (some ⟨r,0,none⟩)) ∧ w3.cell? ⟨w.heap.size,3,none⟩ = some (.slice fa fl fc):=⟨Blk.cell pr3 0 rfl,Blk.cell pr3 2 rfl,k3.cell 3 rfl⟩;obtain ⟨SV3,hr3⟩:=hr3.out)
   | (go_at_call 27;refine (e_open w3 base gp g gs r q _ sv _ SV3 [] D' (some ⟨gl,0,none⟩) (some ⟨gy,0,none⟩) (hd2.out.stayR hm3) hr3 (Nat.lt_of_lt_of_le m2.2.1 hm3.low.size) pr3 HE.out.bp H52.out HCM.out.1 HCM.out.2).mono ?_;rintro e w4 ⟨rfl,hf4,hm4⟩;have k4 : Blk w4 w.heap.size _ 30:=hm4.out.block _ _ _ _ HNE.out.1 HNE.out.2 HNG.out k3 (by decide) (by decide) (by decide) (by decide);have s4 : w4.cell? ⟨gp,0,none⟩ = some (.pointer (some ⟨g,0,none⟩)) ∧ w4.cell? ⟨gp,2,none⟩ = some (.pointer (some ⟨r,0,none⟩)) ∧ w4.cell? ⟨w.heap.size,3,none⟩ = some (.slice fa fl fc):=by (obtain ⟨_,_,_,_,_,_,_,_,_,_,_,_,_,_,_,hq4,_⟩:=hf4.out);exact ⟨Blk.cell hq4.pr 0 rfl,Blk.cell hq4.pr 2 rfl,k4.cell 3 rfl⟩))
 have HF : Hid (Evs w4 base gp g gs r N (opE D')):=Ev.mono hf4.out HAG.out.2
 have HB4 : Hid (Below base w w4):=((HB1b.out.trans hm2.low).trans hm3.low).trans hm4.out.low
 clear hd2 hm2 hm2c k2 m2 s1 s2 hr3 hm3 k3 pr3 s3 hf4 hm4 k4 s4
 go_wp2
 go_ret
 exact ⟨by simp,HF,HB4.out⟩
def aboveF (hi : Nat) (n : Int) : Int:=(hi : Int) + 1 + (((n % 18446744073709551616).toNat % 1000 : Nat) : Int)
set_option maxRecDepth 100000 in
theorem law_above (hi : Nat) (n : Int) (hh : hi ≤ 1099511627776) (w : World) : Calls Tryz.prog 28 #[.int .i64 (hi : Int),.int .i64 n] w fun e w' => e = .returned (.int .i64 (aboveF hi n)) ∧ w' = w:=by
 obtain ⟨u,hu⟩ : ∃ u : Nat,u = (n % 18446744073709551616).toNat:=⟨_,rfl⟩
 have y1 : IntKind.u64.wrap n = (u : Int):=by rw [IntKind.wrap_u64,hu];omega
 obtain ⟨v,hv⟩ : ∃ v : Nat,v = u % 1000:=⟨_,rfl⟩
 have y2 : (u : Int) % 1000 = (v : Int):=by omega
 have hv8 : v < 1000:=by omega
 have y3 : IntKind.i64.wrap (v : Int) = (v : Int):=by rw [IntKind.wrap_i64];omega
 have HS : Hid (aboveF hi n = (hi : Int) + 1 + (v : Int)):=by show _ = _;rw [aboveF,← hu,← hv]
 have hul : u < 18446744073709551616:=by omega
 clear hu hv
 go_enter Tryz.func28,Tryz.ntmps28
 go_wp2
 go_ret
 exact ⟨ret_int (by rw [HS.out]),rfl⟩
end Go.Proofs.YtghajmcohdedlaaGreat

namespace Go.Proofs.YtghajmcohdedlaaGreat
open Go.RowKit
theorem Own.form {w : World} {base : Nat} {a : Option Addr} {len cap : Nat} {bs : List Nat} (h : Own w base a len cap bs) (hl : 0 < len) : ∃ g,a = some ⟨g,0,Option.none⟩ ∧ base ≤ g ∧ g < w.heap.size:=by
 rcases h.row.2 with ⟨_,h0⟩ | ⟨g,c,cur,hv,hb,hg,_⟩
 ·omega
 ·simp only [Value.slice.injEq] at hv
  exact ⟨g,hv.1,hb,(Array.getElem?_eq_some_iff.1 hg).1⟩
theorem vb_set (bs : List Nat) (j v : Nat) : (vb bs).set j (.int .u8 (v : Int)) = vb (bs.set j v):=by
 unfold vb
 rw [List.map_set]
theorem Own.set {w : World} {base g len cap : Nat} {bs : List Nat} (h : Own w base (some ⟨g,0,Option.none⟩) len cap bs) (j v : Nat) (hv : v < 256) : Own (w.setCell ⟨g,j,Option.none⟩ (.int .u8 (v : Int))) base (some ⟨g,0,Option.none⟩) len cap (bs.set j v):=by
 refine ⟨?_,?_⟩
 ·have:=(h.row.stored j (.int .u8 (v : Int))).1
  rw [vb_set] at this
  exact this
 ·intro x hx
  rcases List.mem_or_eq_of_mem_set hx with hx | rfl
  ·exact h.byte x hx
  ·exact hv
theorem Own.cell {w : World} {base g len cap : Nat} {bs : List Nat} (h : Own w base (some ⟨g,0,Option.none⟩) len cap bs) (j : Nat) (hj : j < len) : w.cell? ⟨g,j,Option.none⟩ = some (.int .u8 ((bs.getD j 0 : Nat) : Int)):=by
 rw [h.row.cellAt j (by omega)]
 exact vb_at (by rw [h.size];exact hj)
theorem Own.free {w : World} {base g len cap : Nat} {bs : List Nat} (h : Own w base (some ⟨g,0,Option.none⟩) len cap bs) (j : Nat) : w.frozen? ⟨g,j,Option.none⟩ = false:=h.row.frozenAt j
end Go.Proofs.YtghajmcohdedlaaGreat

namespace Go.Proofs.YtghajmcohdedlaaGreat
open Go.RowKit
theorem CodeDid.below {w w2 w2' : World} {base g gs gl gc ag : Nat} {uc vc : Value} {L : List Rc} {R : Int × Se} {e : Ending} (h : CodeDid w base g gs gl gc ag uc vc L R e w2) (hb : Below w2.heap.size w2 w2') (hB : base ≤ w2.heap.size) : CodeDid w base g gs gl gc ag uc vc L R e w2':=by
 obtain ⟨wv2,uc2,L',vc2,c1,c2,c3,c4⟩:=h.2.1.out
 refine ⟨h.1,⟨wv2,uc2,L',vc2,c1.below hb,c2,c3,fun x hx => (c4 x hx).imp id fun hd => hd.stays fun k cs fr hk => by rw [hb.block k (heap_lt hk)];exact hk⟩,⟨h.2.2.out.low.trans (hb.mono hB),fun k cs t fr a1 a2 a3 a4 a5 => by
  have:=h.2.2.out.block k cs t fr a1 a2 a3 a4 a5
  rw [hb.block k (heap_lt this)];exact this⟩⟩
theorem Evp.requ {w w' : World} {base gp g gs gl gc r gy q ag : Nat} {wv sv rv : Value} {SV WV : List Value} {D : Dk} {V : List Sg} {uc ur : Value} {hi rel : Nat} {L L2 : List Rc} {vc vr : Value} (h : Evp w base gp g gs gl gc r gy q ag wv sv rv SV WV D V uc ur hi rel L L2 vc vr) (hb : Below w.heap.size w w') {q' : Nat} (hq : q' = q ∨ w.heap.size ≤ q') (hl : q' < w'.heap.size) : Evp w' base gp g gs gl gc r gy q' ag wv sv rv SV WV D V uc ur hi rel L L2 vc vr:=by
 rcases hq with rfl | hq
 ·exact h.stay hb
 ·have h1 : LrG w base r q' sv rv SV WV D gy 1 3 ag V ur hi rel L2 vr:=⟨h.lr.disk.fresh hq,h.lr.log,h.lr.used,h.lr.recs,h.lr.bl⟩
  exact ⟨h.lc.below hb,h1.below hb,hl,Blk.stay h.pr hb,h.bp,h.same,h.off⟩
def Awy (S : Nat → Prop) (x : Rc) : Prop:=x.n = 0 ∨ ∃ g' off,x.a = some ⟨g',off,none⟩ ∧ ¬ S g'
theorem Bd.awy {S : Nat → Prop} {w w' : World} {B : Nat} {x : Rc} (h : Bd w B x.a x.n x.bs) (ha : Awy S x) (hf : Frm S w w') : Bd w' B x.a x.n x.bs:=by
 rcases ha with h0 | ⟨g',off,e,hn⟩
 ·exact ⟨⟨h.1.size,h.1.byte,.inl h0⟩,.inl h0⟩
 ·rcases h.2 with h0 | ⟨g2,off2,cs,fr,e2,hB,hk⟩
  ·exact ⟨⟨h.1.size,h.1.byte,.inl h0⟩,.inl h0⟩
  ·rw [e] at e2
   simp only [Option.some.injEq,Addr.mk.injEq,and_true] at e2
   obtain ⟨rfl,rfl⟩:=e2
   have hk' : w'.heap[g']? = some (.cells cs 5 fr):=by rw [hf.block g' (heap_lt hk) hn];exact hk
   refine ⟨⟨h.1.size,h.1.byte,?_⟩,.inr ⟨g',off,cs,fr,e,hB,hk'⟩⟩
   rcases h.1.cells with h0 | ⟨g2,o,e3,hg,hc⟩
   ·exact .inl h0
   ·rw [e] at e3
    simp only [Option.some.injEq,Addr.mk.injEq,and_true] at e3
    obtain ⟨rfl,rfl⟩:=e3
    refine .inr ⟨g',off,e,heap_lt hk',fun i hi => ?_⟩
    have:=hc i hi
    rw [cell_of_row w g' (off + i) cs _ _ hk] at this
    rw [cell_of_row w' g' (off + i) cs _ _ hk']
    exact this
theorem Bd.awy_old {S : Nat → Prop} {w : World} {B : Nat} {x : Rc} (h : Bd w B x.a x.n x.bs) (hs : ∀ k,S k → w.heap.size ≤ k) : Awy S x:=by
 rcases h.2 with h0 | ⟨g2,off2,cs,fr,e2,hB,hk⟩
 ·exact .inl h0
 ·exact .inr ⟨g2,off2,e2,fun h1 => by have:=hs _ h1;have:=heap_lt hk;omega⟩
theorem Bd.awy_new {S : Nat → Prop} {w : World} {B : Nat} {x : Rc} (h : Bd w B x.a x.n x.bs) (hs : ∀ k,S k → k < B) : Awy S x:=by
 rcases h.2 with h0 | ⟨g2,off2,cs,fr,e2,hB,hk⟩
 ·exact .inl h0
 ·exact .inr ⟨g2,off2,e2,fun h1 => by have:=hs _ h1;omega⟩
def Evx (S : Nat → Prop) (w : World) (base gp g gs r N : Nat) (s : Se) : Prop :=
 ∃ gl gc gy q wv sv rv SV WV uc ur L L2 vc vr,Evp w base gp g gs gl gc r gy q s.ag wv sv rv SV WV s.D s.V uc ur s.hi s.rel L L2 vc vr ∧ L.map plR = s.P ∧ Okp N s.D s.V s.hi s.rel s.P ∧ (∀ x ∈ L,Awy S x) ∧ (∀ x ∈ L2,Awy S x) ∧ ∀ k,S k → k = q
theorem Evx.poke {S : Nat → Prop} {w w' : World} {base gp g gs r N : Nat} {s : Se} (h : Evx S w base gp g gs r N s) (hf : Frm S w w') (hs : ∀ (k : Nat) cs t fr,S k → w.heap[k]? = some (.cells cs t fr) → t = 5) : Evs w' base gp g gs r N s:=by
 obtain ⟨gl,gc,gy,q,wv,sv,rv,SV,WV,uc,ur,L,L2,vc,vr,h1,h2,h3,h4,h5,h6⟩:=h
 have ho : Other S w:=fun k cs t fr hk hh => .inr (hs k cs t fr hk hh)
 exact ⟨gl,gc,gy,q,wv,sv,rv,SV,WV,uc,ur,L,L2,vc,vr,⟨h1.lc.frm hf ho (fun x hx => (h1.lc.recs.bd x hx).awy (h4 x hx) hf),h1.lr.frm hf ho (fun k _ _ hk _ => h6 k hk) (fun x hx => (h1.lr.recs.bd x hx).awy (h5 x hx) hf),Nat.lt_of_lt_of_le h1.qq hf.size,by
  have h7 : w.heap[gp]? = some (.cells _ 39 (0,0)):=h1.pr
  show w'.heap[gp]? = _
  rw [hf.block gp (heap_lt h7) (fun e => absurd (hs gp _ _ _ e h7) (by decide))]
  exact h7,h1.bp,h1.same,h1.off⟩,h2,h3⟩
theorem Evp.didx {S : Nat → Prop} {w0 w w2 w3 : World} {base gp g gs gl gc r gy q ag N : Nat} {wv sv rv : Value} {SV WV : List Value} {D : Dk} {V : List Sg} {uc ur : Value} {hi rel : Nat} {L L2 : List Rc} {vc vr : Value} {q0 : Nat} {wv0 sv0 rv0 : Value} {SV0 WV0 : List Value} (h0 : Evp w0 base gp g gs gl gc r gy q0 ag wv0 sv0 rv0 SV0 WV0 D V uc ur hi rel L L2 vc vr) (h : Evp w base gp g gs gl gc r gy q ag wv sv rv SV WV D V uc ur hi rel L L2 vc vr) {R : Int × Se} {e e' : Ending} (hc : CodeDid w base g gs gl gc ag uc vc L R e w2) (hr : RefDid w2 base r q gy ag ur vr L2 R e' w3) (hg : R.2.ag = ag) (hO : Oke N R.2) (hs : ∀ k,S k → w0.heap.size ≤ k ∧ k < w.heap.size) (hq : ∀ k,S k → k = q) : Evx S w3 base gp g gs r N R.2:=by
 obtain ⟨wv2,uc2,L',vc2,c1,c2,c3,c4⟩:=hc.2.1.out
 obtain ⟨sv3,rv3,SV3,WV3,ur3,L4,vr3,d1,d2,d3,d4⟩:=hr.2.1.out
 have hb:=h.both hc.2.2.out c1 c3 hr.2.2.out d1 d3 (by rw [c2,d2])
 unfold Evx
 rw [hg]
 refine ⟨gl,gc,gy,q,wv2,sv3,rv3,SV3,WV3,uc2,ur3,L',L4,vc2,vr3,hb,c2,hO,fun x hx => ?_,fun x hx => ?_,hq⟩
 ·rcases c4 x hx with h1 | h1
  ·exact (h0.lc.recs.bd x h1).awy_old (fun k hk => (hs k hk).1)
  ·exact h1.awy_new (fun k hk => (hs k hk).2)
 ·rcases d4 x hx with h1 | h1
  ·exact (h0.lr.recs.bd x h1).awy_old (fun k hk => (hs k hk).1)
  ·exact h1.awy_new (fun k hk => Nat.lt_of_lt_of_le (hs k hk).2 hc.2.2.out.low.size)
theorem Own.nil_cap {w : World} {base : Nat} {a : Option Addr} {len cap : Nat} {bs : List Nat} (h : Own w base a len cap bs) : a = Option.none → cap = 0:=fun e => by
 subst e
 rcases h.row.2 with ⟨hv,_⟩ | ⟨g,c,cur,hv,_⟩
 ·simp only [Value.slice.injEq] at hv
  exact hv.2.2
 ·simp at hv
theorem Own.typ {w w' : World} {base : Nat} {a : Option Addr} {len cap : Nat} {bs : List Nat} (h : Own w base a len cap bs) (hk : ∀ (k : Nat) cs,w.heap[k]? = some (.cells cs 5 (0,0)) → w'.heap[k]? = some (.cells cs 5 (0,0))) : Own w' base a len cap bs:=⟨own_type h.row hk,h.byte⟩
theorem Own.tyb {w : World} {base : Nat} {a : Option Addr} {len cap : Nat} {bs : List Nat} (h : Own w base a len cap bs) (k : Nat) (cs : Array Value) (t : TypeId) (fr : Nat × Nat) (hk : some k = (Value.slice a len cap).ownBlock) (hb : w.heap[k]? = some (.cells cs t fr)) : t = 5:=own_typ h.row hk hb
end Go.Proofs.YtghajmcohdedlaaGreat
