/- The reference's Same of one list of terms, twice. -/
import Derived.Test.YteoopoabemeanaaGreatDoorPrChk
import Derived.Laws.StructEq
import Derived.BigQuiet
namespace Go.Proofs.YteoopoabemeanaaGreatDoor
set_option maxRecDepth 100000
open Go.RowKit

theorem equalIn_complexT {P : Program} (w : World) (d : Nat) (t : TypeId) (k k' : FloatKind) (a b : Nat) (h : P.underlying t = some (.complex k')) (h1 : k.format.order a a = some .eq) (h2 : k.format.order b b = some .eq) : (Op.equalIn (d + 1) t (.complex k a b) (.complex k a b)).run P w = .ok true w := by
  simp [Op.equalIn, run_underlying h, Op.floatEq, h1, h2]
theorem below_drewT (w : World) (n : Nat) : Below w.heap.size w (w.drewN n) := ⟨rfl, rfl, rfl, Nat.le_refl _, fun _ _ => rfl⟩

set_option maxHeartbeats 4000000 in
theorem ref_Same5 (a1 a2 : Option Addr) (n c1 c2 : Nat) (l : List Tm) (w : World) (h1 : TmsRd w a1 l) (h2 : TmsRd w a2 l) (hn : l.length = n) (hn48 : n ≤ 48) (hv : ∀ q ∈ l, Ieee.double.order q.val.re q.val.re = some .eq ∧ Ieee.double.order q.val.im q.val.im = some .eq) :
    Calls Tryz.prog 9 #[.slice a1 n c1, .slice a2 n c2] w fun e w' => e = .returned (.bool true) ∧ Below w.heap.size w w' := by
  have H1 : Hid (TmsRd w a1 l) := h1
  have H2 : Hid (TmsRd w a2 l) := h2
  have HN : Hid (l.length = n) := hn
  have HV : Hid (∀ q ∈ l, Ieee.double.order q.val.re q.val.re = some .eq ∧ Ieee.double.order q.val.im q.val.im = some .eq) := hv
  clear h1 h2 hn hv
  go_enter Tryz.func9, Tryz.ntmps9
  go_wp2
  go_loopw [5] (fun t5 wr => ∃ i : Nat, i ≤ n ∧ t5 = .int .i64 (i : Int) ∧ Hid (Below w.heap.size w wr)) (fun t5 _ => n - (intOf t5).toNat)
  case atStart => exact ⟨0, by omega, rfl, Below.refl _ _⟩
  case round =>
    obtain ⟨i, hi, rfl, HB⟩ := hrel
    by_cases hlt : i < n
    · have hlt' : (i : Int) < (n : Int) := by omega
      have h0' : (0 : Int) ≤ (i : Int) := by omega
      have hil : i < l.length := by rw [HN.out]; exact hlt
      obtain ⟨g1, rfl, hg1, hq1⟩ := (H1.out.below HB.out).at_ i hil
      obtain ⟨g2, rfl, hg2, hq2⟩ := (H2.out.below HB.out).at_ i hil
      have ho := HV.out l[i] (List.getElem_mem hil)
      generalize l[i] = q at *
      obtain ⟨op, nm, cm, ⟨vk, vw, vs, vt, vx, vy⟩, r⟩ := q
      have hq : ∀ W : World, (Op.equalIn 9998 38 (.complex .f64 vx vy) (.complex .f64 vx vy)).run Tryz.prog W = .ok true W := fun W => equalIn_complexT W 9997 38 .f64 .f64 vx vy Tryz.underlying38 ho.1 ho.2
      have p0 : wr.cell? ⟨g1, i * 9, none⟩ = some (.int .i64 (op : Int)) := hq1 0 _ rfl
      have p1 : wr.cell? ⟨g1, i * 9 + 1, none⟩ = some (.string nm) := hq1 1 _ rfl
      have p2 : wr.cell? ⟨g1, i * 9 + 2, none⟩ = some (.int .i64 (cm : Int)) := hq1 2 _ rfl
      have p3 : wr.cell? ⟨g1, i * 9 + 3, none⟩ = some (.int .i64 vk) := hq1 3 _ rfl
      have p4 : wr.cell? ⟨g1, i * 9 + 4, none⟩ = some (.int .i64 vw) := hq1 4 _ rfl
      have p5 : wr.cell? ⟨g1, i * 9 + 5, none⟩ = some (.string vs) := hq1 5 _ rfl
      have p6 : wr.cell? ⟨g1, i * 9 + 6, none⟩ = some (.bool vt) := hq1 6 _ rfl
      have p7 : wr.cell? ⟨g1, i * 9 + 7, none⟩ = some (.complex .f64 vx vy) := hq1 7 _ rfl
      have p8 : wr.cell? ⟨g1, i * 9 + 8, none⟩ = some (.int .i64 (r : Int)) := hq1 8 _ rfl
      have s0 : wr.cell? ⟨g2, i * 9, none⟩ = some (.int .i64 (op : Int)) := hq2 0 _ rfl
      have s1 : wr.cell? ⟨g2, i * 9 + 1, none⟩ = some (.string nm) := hq2 1 _ rfl
      have s2 : wr.cell? ⟨g2, i * 9 + 2, none⟩ = some (.int .i64 (cm : Int)) := hq2 2 _ rfl
      have s3 : wr.cell? ⟨g2, i * 9 + 3, none⟩ = some (.int .i64 vk) := hq2 3 _ rfl
      have s4 : wr.cell? ⟨g2, i * 9 + 4, none⟩ = some (.int .i64 vw) := hq2 4 _ rfl
      have s5 : wr.cell? ⟨g2, i * 9 + 5, none⟩ = some (.string vs) := hq2 5 _ rfl
      have s6 : wr.cell? ⟨g2, i * 9 + 6, none⟩ = some (.bool vt) := hq2 6 _ rfl
      have s7 : wr.cell? ⟨g2, i * 9 + 7, none⟩ = some (.complex .f64 vx vy) := hq2 7 _ rfl
      have s8 : wr.cell? ⟨g2, i * 9 + 8, none⟩ = some (.int .i64 (r : Int)) := hq2 8 _ rfl
      have b1 : (nm.toList == nm.toList) = true := by simp
      have b2 : (vs.toList == vs.toList) = true := by simp
      clear hq1 hq2 ho
      go_wp2
      go_quiet (fail)
      have HB4 : Hid (Below w.heap.size w (wr.drewN nq)) := HB.out.trans ((below_drewT wr nq).mono HB.out.size)
      clear p0 p1 p2 p3 p4 p5 p6 p7 p8 s0 s1 s2 s3 s4 s5 s6 s7 s8
      go_wp2
      go_roundw
      case rel => exact ⟨i + 1, by omega, by go_num, HB4⟩
      case measure => simp [intOf]; omega
    · have hnl : ¬ (i : Int) < (n : Int) := by omega
      go_wp2
      go_ret
      exact ⟨rfl, HB.out⟩
end Go.Proofs.YteoopoabemeanaaGreatDoor
