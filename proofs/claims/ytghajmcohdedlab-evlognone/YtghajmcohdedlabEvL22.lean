/- evlog: segmentFor, where no segment is used. -/
import Derived.Test.YtghajmcohdedlabEvL21
namespace Go.Proofs.Ytghajmcohdedlab
open Go.RowKit

theorem results_segForE {w : World} {tmps : Array Value} {g : Nat} {cs : List Value} {v : Value} (h2 : tmps[4]?.getD undef = .pointer (some ⟨g, 0, none⟩)) (h3 : tmps[5]?.getD undef = v) (k : Blk w g cs.toArray 52) (hl : cs.length = 4) : (results Try.f25 tmps).run Try.prog w = .ok (.tuple #[.agg cs.toArray, v]) w := by
  have hr := run_loadVar_mid (P := Try.prog) w g 0 52 cs _ (k.range 0 cs (fun j v hj => by simpa using hj)) Try.underlying52 rfl (by rw [hl]; exact infoSg4)
  simp [results, Try.results25, h2, h3, hr, asAddr]
set_option maxRecDepth 100000 in
set_option maxHeartbeats 8000000 in
theorem evl_segFor0 (w : World) (base g gs : Nat) (wv : Value) (D : Dk) (gl gc b m ag : Nat) (uv : Value) (hi rel : Nat) (L : List Rc) (rv : Value) (D1 : Dk) (wb : Bool) (n : Int) (h : Lg w base g gs wv D gl gc b m ag [] uv hi rel L rv) (hb : b ≤ 1000) (hm1 : 1 ≤ m) (hhi : hi ≤ 1099511627776) (hw : D.waits.length ≤ 900000000) (hwp : wipeL D 16 (b + 2) false = (D1, wb, 0)) (hsy : syncE D1 = 0) (hws : (syncD D1).waits.length < 1000000000) (hwr : writeE (syncD D1) ((b + 2 : Nat) : Int) (headL 1 hi) = 0) :
    Calls Try.prog 25 #[.pointer (some ⟨gl, 0, none⟩), .int .i64 n] w fun e w' => e = .returned (.tuple #[.agg (sgc ⟨b + 2, 1, hi, 1⟩).toArray, .int .i64 0]) ∧ Hid (∃ wv', Lg w' base g gs wv' (writeD (syncD D1) ((b + 2 : Nat) : Int) (headL 1 hi)) gl gc b m ag [] uv hi rel L rv) ∧ Mv w w' base g gs := by
  obtain ⟨au, cu, hv⟩ := h.used.val
  have hv' : uv = .slice au 0 cu := hv
  subst hv'
  have HBS : Hid (base ≤ w.heap.size) := h.sz
  have HNE : Hid (some w.heap.size ≠ (Value.slice au 0 cu).ownBlock) := fun e => by have := (h.used.lt _ e.symm).2; omega
  obtain ⟨W1, HW1⟩ : ∃ W1, Hid (W1 = w.alloc (.cells #[.int .i64 0, .int .i64 0, .int .i64 0, .int .i64 0] 52)) := ⟨_, rfl⟩
  have HB1 : Hid (Below w.heap.size w W1) := by (show Below _ _ _); rw [HW1.out]; exact below_alloc _ _
  have HK1 : Hid (Blk W1 w.heap.size #[.int .i64 0, .int .i64 0, .int .i64 0, .int .i64 0] 52) := by (show Blk _ _ _ _); rw [HW1.out]; exact Blk.new _ _ _
  have HG1 : Hid (Lg W1 base g gs wv D gl gc b m ag [] (.slice au 0 cu) hi rel L rv) := h.below HB1.out
  have HBB : Hid (Mv w W1 base g gs) := Mv.of_below g gs HB1.out h.sz
  have HBG := evl_begin0 W1 base g gs wv D gl gc b m ag (.slice au 0 cu) hi rel L rv D1 wb HG1.out hb hm1 hhi hw hwp hsy hws hwr
  have c5 : W1.cell? ⟨gl, 5, none⟩ = some (.slice au 0 cu) := Blk.cell HG1.out.log 5 rfl
  clear h hv hwp hsy hws hwr
  go_enter Try.func25, Try.ntmps25
  go_upto_region 1 with fail
  rw [← HW1.out]
  go_wp2_with fail
  refine HBG.mono ?_
  rintro e w2 ⟨rfl, hg2, hm2⟩
  have HD2 : Hid (∃ wv', Lg w2 base g gs wv' (writeD (syncD D1) ((b + 2 : Nat) : Int) (headL 1 hi)) gl gc b m ag [] (.slice au 0 cu) hi rel L rv) := hg2
  have HK2 : Hid (Blk w2 w.heap.size #[.int .i64 0, .int .i64 0, .int .i64 0, .int .i64 0] 52) := hm2.keep HK1.out (HG1.out.disk.off HK1.out (by decide) (by decide)).1 (HG1.out.disk.off HK1.out (by decide) (by decide)).2 (by decide)
  have HM2 : Hid (Mv w w2 base g gs) := HBB.out.trans hm2
  obtain ⟨P, HP⟩ : ∃ P, Hid (P = b + 2) := ⟨_, rfl⟩
  have hsg : sgc ⟨b + 2, 1, hi, 1⟩ = [.int .i64 (P : Int), .int .i64 1, .int .i64 (hi : Int), .int .i64 1] := by rw [HP.out]; rfl
  rw [hsg]
  have k0 : w2.cell? ⟨w.heap.size, 0, none⟩ = some (.int .i64 0) := HK2.out.cell 0 rfl
  have k1 : w2.cell? ⟨w.heap.size, 1, none⟩ = some (.int .i64 0) := HK2.out.cell 1 rfl
  have k2 : w2.cell? ⟨w.heap.size, 2, none⟩ = some (.int .i64 0) := HK2.out.cell 2 rfl
  have k3 : w2.cell? ⟨w.heap.size, 3, none⟩ = some (.int .i64 0) := HK2.out.cell 3 rfl
  have f0 := HK2.out.free 0
  have f1 := HK2.out.free 1
  have f2 := HK2.out.free 2
  have f3 := HK2.out.free 3
  clear hg2 hm2 hsg HBG c5
  go_wp2
  refine bodyPost_ret (results_segForE (cs := [.int .i64 (P : Int), .int .i64 1, .int .i64 (hi : Int), .int .i64 1]) (by rfl) (by rfl) ((((HK2.out.set 0 _).set 1 _).set 2 _).set 3 _) rfl) rfl ?_
  obtain ⟨wv8, hl8⟩ := HD2.out
  have k1' := HK2.out.set 0 (.int .i64 (P : Int))
  have k2' := k1'.set 1 (.int .i64 1)
  have k3' := k2'.set 2 (.int .i64 (hi : Int))
  exact ⟨by have hp : P = b + 2 := HP.out; subst hp; rfl, ⟨wv8, (((hl8.aside HK2.out HNE.out 0 _).aside k1' HNE.out 1 _).aside k2' HNE.out 2 _).aside k3' HNE.out 3 _⟩, (((HM2.out.fresh HBS.out 0 _).fresh HBS.out 1 _).fresh HBS.out 2 _).fresh HBS.out 3 _⟩
end Go.Proofs.Ytghajmcohdedlab
