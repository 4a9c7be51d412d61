/- evlog: begin, where no segment is used. -/
import Derived.Test.YtghajmcohdedlaaEvP1
namespace Go.Proofs.Ytghajmcohdedlaa
open Go.RowKit

theorem infoSg4 : (Try.prog.info? 85).map (·.size) = some 4 := by kernel_rfl
theorem results_beginE {w : World} {tmps : Array Value} {g : Nat} {cs : List Value} {v : Value} (h2 : tmps[2]?.getD undef = .pointer (some ⟨g, 0, none⟩)) (h3 : tmps[3]?.getD undef = v) (k : Blk w g cs.toArray 85) (hl : cs.length = 4) : (results Try.f74 tmps).run Try.prog w = .ok (.tuple #[.agg cs.toArray, v]) w := by
  have hr := run_loadVar_mid (P := Try.prog) w g 0 85 cs _ (k.range 0 cs (fun j v hj => by simpa using hj)) Try.underlying85 rfl (by rw [hl]; exact infoSg4)
  simp [results, Try.results74, h2, h3, hr, asAddr]
theorem Mv.fresh {w w' : World} {base g gs : Nat} (h : Mv w w' base g gs) (hb : base ≤ w.heap.size) (i : Nat) (v : Value) : Mv w (w'.setCell ⟨w.heap.size, i, none⟩ v) base g gs :=
  ⟨h.low.setCell hb _, fun k cs t fr h1 h2 h3 h4 => by
    rw [heap_setCell_other w' ⟨w.heap.size, i, none⟩ k v (fun e => by have e' : k = w.heap.size := e; have := heap_lt h3; omega)]
    exact h.block k cs t fr h1 h2 h3 h4⟩
/-- A segment aside of those that are used is written. -/
theorem Lg.aside {w : World} {base g gs : Nat} {wv : Value} {D : Dk} {gl gc b m ag : Nat} {U : List Sg} {uv : Value} {hi rel : Nat} {L : List Rc} {rv : Value} {k : Nat} {cs : Array Value} (h : Lg w base g gs wv D gl gc b m ag U uv hi rel L rv) (hb : Blk w k cs 85) (hne : some k ≠ uv.ownBlock) (i : Nat) (v : Value) : Lg (w.setCell ⟨k, i, none⟩ v) base g gs wv D gl gc b m ag U uv hi rel L rv :=
  have hk : Kt w (w.setCell ⟨k, i, none⟩ v) := (Kt.refl w).set hb (.inr (.inl rfl)) i v
  ⟨h.disk.kt hk, Blk.other h.log _ _ (blk_ne h.log hb (by decide)), hk.keep h.cells (by decide) (by decide) (by decide), row_set h.used hne, h.recs.set hb (.inr rfl), h.bl⟩
/-- A segment's head as it is laid. -/
def headL (num hi : Nat) : List Nat := layE 1 true (KeyM.key (KeyM.up (num : Int)) ++ KeyM.key (KeyM.up (hi : Int)))
set_option maxRecDepth 100000 in
set_option maxHeartbeats 8000000 in
theorem evl_begin0 (w : World) (base g gs : Nat) (wv : Value) (D : Dk) (gl gc b m ag : Nat) (uv : Value) (hi rel : Nat) (L : List Rc) (rv : Value) (D1 : Dk) (wb : Bool) (h : Lg w base g gs wv D gl gc b m ag [] uv hi rel L rv) (hb : b ≤ 1000) (hm1 : 1 ≤ m) (hhi : hi ≤ 1099511627776) (hw : D.waits.length ≤ 900000000) (hwp : wipeL D 16 (b + 2) false = (D1, wb, 0)) (hsy : syncE D1 = 0) (hws : (syncD D1).waits.length < 1000000000) (hwr : writeE (syncD D1) ((b + 2 : Nat) : Int) (headL 1 hi) = 0) :
    Calls Try.prog 74 #[.pointer (some ⟨gl, 0, none⟩)] w fun e w' => e = .returned (.tuple #[.agg (sgc ⟨b + 2, 1, hi, 1⟩).toArray, .int .i64 0]) ∧ Hid (∃ wv', Lg w' base g gs wv' (writeD (syncD D1) ((b + 2 : Nat) : Int) (headL 1 hi)) gl gc b m ag [] uv hi rel L rv) ∧ Mv w w' base g gs := by
  obtain ⟨au, cu, hv⟩ := h.used.val
  have hv' : uv = .slice au 0 cu := hv
  subst hv'
  have HBS : Hid (base ≤ w.heap.size) := h.sz
  have HNE : Hid (some w.heap.size ≠ (Value.slice au 0 cu).ownBlock) := fun e => by have := (h.used.lt _ e.symm).2; omega
  obtain ⟨P, hP⟩ : ∃ P, P = b + 2 := ⟨_, rfl⟩
  rw [← hP] at hwp hwr ⊢
  obtain ⟨W1, HW1⟩ : ∃ W1, Hid (W1 = w.alloc (.cells #[.int .i64 0, .int .i64 0, .int .i64 0, .int .i64 0] 85)) := ⟨_, rfl⟩
  have HB1 : Hid (Below w.heap.size w W1) := by (show Below _ _ _); rw [HW1.out]; exact below_alloc _ _
  have HK1 : Hid (Blk W1 w.heap.size #[.int .i64 0, .int .i64 0, .int .i64 0, .int .i64 0] 85) := by (show Blk _ _ _ _); rw [HW1.out]; exact Blk.new _ _ _
  have HG1 : Hid (Lg W1 base g gs wv D gl gc b m ag [] (.slice au 0 cu) hi rel L rv) := h.below HB1.out
  have HBB : Hid (Mv w W1 base g gs) := Mv.of_below g gs HB1.out h.sz
  have HUN := evl_unused0 W1 gl g gc b m ag hi rel au cu rv HG1.out.log hb hm1
  rw [← hP] at HUN
  obtain ⟨Q, hQ⟩ : ∃ Q, Q = P + 16 := ⟨_, rfl⟩
  have q1 : (P : Int) + 16 = (Q : Int) := by omega
  have q2 : IntKind.i64.wrap (Q : Int) = (Q : Int) := by rw [IntKind.wrap_i64]; omega
  have HPQ : Hid (P ≤ Q ∧ Q ≤ 100000 ∧ Q - P = 16) := by (show _ ∧ _ ∧ _); omega
  have HWP : Hid (wipeL D 16 P false = (D1, wb, 0)) := hwp
  have HSY : Hid (syncE D1 = 0) := hsy
  have HWR : Hid (writeE (syncD D1) (P : Int) (headL 1 hi) = 0) := hwr
  have HWS : Hid ((syncD D1).waits.length < 1000000000) := hws
  have HWW : Hid (D.waits.length ≤ 900000000) := hw
  clear h hv hwp hsy hwr hws hw hP hQ
  go_enter Try.func74, Try.ntmps74
  go_upto_region 1 with fail
  rw [← HW1.out]
  go_wp2_with fail
  refine HUN.mono ?_
  rintro e w2 ⟨rfl, hb2⟩
  have HG2 : Hid (Lg w2 base g gs wv D gl gc b m ag [] (.slice au 0 cu) hi rel L rv) := HG1.out.below hb2
  have HK2 : Hid (Blk w2 w.heap.size #[.int .i64 0, .int .i64 0, .int .i64 0, .int .i64 0] 85) := HK1.out.stay hb2
  have HB2 : Hid (Mv w w2 base g gs) := HBB.out.trans (Mv.of_below g gs hb2 HG1.out.sz)
  have c5 : w2.cell? ⟨gl, 5, none⟩ = some (.slice au 0 cu) := Blk.cell HG2.out.log 5 rfl
  have HWI := evl_wipe w2 base g gs wv D gl gc b m ag hi rel (.slice au 0 cu) rv P Q HG2.out.disk HG2.out.log HPQ.out.1 HPQ.out.2.1 (by have := HPQ.out; have := HWW.out; omega)
  rw [HPQ.out.2.2, HWP.out] at HWI
  simp only at HWI
  clear hb2 HUN
  go_wp2_with fail
  refine HWI.mono ?_
  rintro e w3 ⟨rfl, hd3, hm3⟩
  obtain ⟨wv3, hd3⟩ := hd3.out
  have HG3 : Hid (Lg w3 base g gs wv3 D1 gl gc b m ag [] (.slice au 0 cu) hi rel L rv) := HG2.out.mv hm3 hd3
  have HK3 : Hid (Blk w3 w.heap.size #[.int .i64 0, .int .i64 0, .int .i64 0, .int .i64 0] 85) := hm3.keep HK2.out (HG2.out.disk.off HK2.out (by decide) (by decide)).1 (HG2.out.disk.off HK2.out (by decide) (by decide)).2 (by decide)
  have HB3 : Hid (Mv w w3 base g gs) := HB2.out.trans hm3
  have c0 : w3.cell? ⟨gl, 0, none⟩ = some (.pointer (some ⟨g, 0, none⟩)) := Blk.cell HG3.out.log 0 rfl
  have HSN := disk_Sync w3 base g gs wv3 D1 HG3.out.disk
  rw [HSY.out] at HSN
  clear hd3 hm3 HWI c5
  go_wp2_with fail
  refine HSN.mono ?_
  rintro e w4 ⟨rfl, hd4, hm4⟩
  obtain ⟨wv4, hd4⟩ := hd4.out
  have HG4 : Hid (Lg w4 base g gs wv4 (syncD D1) gl gc b m ag [] (.slice au 0 cu) hi rel L rv) := HG3.out.mv hm4 hd4
  have HK4 : Hid (Blk w4 w.heap.size #[.int .i64 0, .int .i64 0, .int .i64 0, .int .i64 0] 85) := hm4.keep HK3.out (HG3.out.disk.off HK3.out (by decide) (by decide)).1 (HG3.out.disk.off HK3.out (by decide) (by decide)).2 (by decide)
  have HB4 : Hid (Mv w w4 base g gs) := HB3.out.trans hm4
  have c0 : w4.cell? ⟨gl, 0, none⟩ = some (.pointer (some ⟨g, 0, none⟩)) := Blk.cell HG4.out.log 0 rfl
  have c6 : w4.cell? ⟨gl, 6, none⟩ = some (.int .i64 (hi : Int)) := Blk.cell HG4.out.log 6 rfl
  have HBD : Hid (Below w4.heap.size w4 w4.drew) := (Below.refl _ _).drew
  have HG5 : Hid (Lg w4.drew base g gs wv4 (syncD D1) gl gc b m ag [] (.slice au 0 cu) hi rel L rv) := HG4.out.below HBD.out
  have HHI : Hid (hi ≤ 1099511627776) := hhi
  have HRW : Hid (∀ (W W' : World) (q : Nat) (v : Value) (E : Dk), Disk W base g gs v E → Blk W q (vb (headL 1 hi)).toArray 69 → Mv W W' base g gs → Rd W' (some ⟨q, 0, none⟩) 64 (headL 1 hi)) := fun W W' q v E hd hq hM => by
    have hsec : Sec (headL 1 hi) := layE_sec (by omega) (by simp [KeyM.key]) (fun x hx => by
      rcases List.mem_append.1 hx with hx | hx
      · exact KeyM.key_byte _ x hx
      · exact KeyM.key_byte _ x hx)
    have hb' := hM.keep hq (hd.off hq (by decide) (by decide)).1 (hd.off hq (by decide) (by decide)).2 (by decide)
    have := Rd.of_blk hb' hsec.byte
    rw [hsec.len] at this
    exact this
  clear hd4 hm4 HSN q1 q2
  go_wp2_with fail
  go_region_held3 (fun w' => w'.cell? ⟨gl, 0, none⟩ = some (.pointer (some ⟨g, 0, none⟩)) ∧ w'.cell? ⟨gl, 6, none⟩ = some (.int .i64 (hi : Int))) (first | exact ⟨c0, c6⟩ | exact s6 | exact s7 | exact s8 | fail)
    (first
      | (go_at_call 89; refine (evl_head w4.drew 1 (hi : Int) (by omega) (by have := HHI.out; omega)).mono ?_; rintro e w6 ⟨ht6, hb6⟩; obtain ⟨a6, c6', rfl, ho6⟩ := ht6.out; have HG6 : Hid (Lg w6 base g gs wv4 (syncD D1) gl gc b m ag [] (.slice au 0 cu) hi rel L rv) := HG5.out.below hb6; have HR6 : Hid (Rd w6 a6 16 (KeyM.key (KeyM.up 1) ++ KeyM.key (KeyM.up (hi : Int)))) := ho6.rd; have HB6 : Hid (Below w4.heap.size w4 w6) := HBD.out.trans hb6; have s6 : w6.cell? ⟨gl, 0, none⟩ = some (.pointer (some ⟨g, 0, none⟩)) ∧ w6.cell? ⟨gl, 6, none⟩ = some (.int .i64 (hi : Int)) := ⟨Blk.cell HG6.out.log 0 rfl, Blk.cell HG6.out.log 6 rfl⟩; clear ht6 ho6 hb6)
      | (go_at_call 53; refine (evl_lay 1 true a6 16 c6' _ w6 HR6.out (by omega)).mono ?_; rintro e w7 ⟨q7, rfl, hq7, hk7, hb7⟩; have HG7 : Hid (Lg w7 base g gs wv4 (syncD D1) gl gc b m ag [] (.slice au 0 cu) hi rel L rv) := HG6.out.below hb7; have HQ7 : Hid (Blk w7 q7 (vb (headL 1 hi)).toArray 69) := hk7; have HB7 : Hid (Below w4.heap.size w4 w7) := HB6.out.trans (hb7.mono HB6.out.size); have s7 : w7.cell? ⟨gl, 0, none⟩ = some (.pointer (some ⟨g, 0, none⟩)) ∧ w7.cell? ⟨gl, 6, none⟩ = some (.int .i64 (hi : Int)) := ⟨Blk.cell HG7.out.log 0 rfl, Blk.cell HG7.out.log 6 rfl⟩; clear hq7 hk7 hb7)
      | (go_at_call 52; refine (disk_Write w7 base g gs wv4 (syncD D1) (P : Int) (some ⟨q7, 0, none⟩) 64 64 (headL 1 hi) HG7.out.disk (fun W' hM => HRW.out w7 W' q7 wv4 (syncD D1) HG7.out.disk HQ7.out hM) (by omega) HWS.out).mono ?_; rw [HWR.out]; rintro e w8 ⟨rfl, hd8, hm8⟩; have HD8 : Hid (∃ wv', Lg w8 base g gs wv' (writeD (syncD D1) (P : Int) (headL 1 hi)) gl gc b m ag [] (.slice au 0 cu) hi rel L rv) := hd8.out.elim fun wv8 hq8 => ⟨wv8, HG7.out.mv hm8 hq8⟩; have HM8 : Hid (Mv w7 w8 base g gs) := hm8; have s8 : w8.cell? ⟨gl, 0, none⟩ = some (.pointer (some ⟨g, 0, none⟩)) ∧ w8.cell? ⟨gl, 6, none⟩ = some (.int .i64 (hi : Int)) := HD8.out.elim fun wv8 hl8 => ⟨Blk.cell hl8.log 0 rfl, Blk.cell hl8.log 6 rfl⟩; clear hd8 hm8))
  have HK8 : Hid (Blk w8 w.heap.size #[.int .i64 0, .int .i64 0, .int .i64 0, .int .i64 0] 85) := by
    have hk7 := HK4.out.stay HB7.out
    exact HM8.out.keep hk7 (HG7.out.disk.off hk7 (by decide) (by decide)).1 (HG7.out.disk.off hk7 (by decide) (by decide)).2 (by decide)
  have HB8 : Hid (Mv w w8 base g gs) := (HB4.out.trans (Mv.of_below g gs HB7.out HG4.out.sz)).trans HM8.out
  have d6 : w8.cell? ⟨gl, 6, none⟩ = some (.int .i64 (hi : Int)) := s8.2
  have k0 : w8.cell? ⟨w.heap.size, 0, none⟩ = some (.int .i64 0) := HK8.out.cell 0 rfl
  have k1 : w8.cell? ⟨w.heap.size, 1, none⟩ = some (.int .i64 0) := HK8.out.cell 1 rfl
  have k2 : w8.cell? ⟨w.heap.size, 2, none⟩ = some (.int .i64 0) := HK8.out.cell 2 rfl
  have k3 : w8.cell? ⟨w.heap.size, 3, none⟩ = some (.int .i64 0) := HK8.out.cell 3 rfl
  have f0 := HK8.out.free 0
  have f1 := HK8.out.free 1
  have f2 := HK8.out.free 2
  have f3 := HK8.out.free 3
  clear s6 s7 s8 c0 c6
  go_wp2
  refine bodyPost_ret (results_beginE (cs := [.int .i64 (P : Int), .int .i64 1, .int .i64 (hi : Int), .int .i64 1]) (by rfl) (by rfl) ((((HK8.out.set 0 _).set 1 _).set 2 _).set 3 _) rfl) rfl ?_
  obtain ⟨wv8, hl8⟩ := HD8.out
  have k1' := HK8.out.set 0 (.int .i64 (P : Int))
  have k2' := k1'.set 1 (.int .i64 1)
  have k3' := k2'.set 2 (.int .i64 (hi : Int))
  exact ⟨rfl, ⟨wv8, (((hl8.aside HK8.out HNE.out 0 _).aside k1' HNE.out 1 _).aside k2' HNE.out 2 _).aside k3' HNE.out 3 _⟩, (((HB8.out.fresh HBS.out 0 _).fresh HBS.out 1 _).fresh HBS.out 2 _).fresh HBS.out 3 _⟩
end Go.Proofs.Ytghajmcohdedlaa
