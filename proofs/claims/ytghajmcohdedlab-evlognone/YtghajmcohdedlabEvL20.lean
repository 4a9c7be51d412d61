/- evlog: keep, where no segment is used. -/
import Derived.Test.YtghajmcohdedlabEvL19
namespace Go.Proofs.Ytghajmcohdedlab
open Go.RowKit

set_option maxRecDepth 100000 in
set_option maxHeartbeats 4000000 in
theorem evl_keep0 (w : World) (base g gs : Nat) (wv : Value) (D : Dk) (gl gc b m ag : Nat) (uv : Value) (hi rel : Nat) (L : List Rc) (rv : Value) (s : Sg) (h : Lg w base g gs wv D gl gc b m ag [] uv hi rel L rv) :
    Calls Try.prog 28 #[.pointer (some ⟨gl, 0, none⟩), .agg (sgc s).toArray] w fun e w' => e = .returned (.tuple #[]) ∧ Hid (∃ uv', Lg w' base g gs wv D gl gc b m ag [s] uv' hi rel L rv) ∧ Hid (Kt w w') ∧ Below base w w' := by
  obtain ⟨au, cu, hv⟩ := h.used.val
  have hv' : uv = .slice au 0 cu := hv
  subst hv'
  have HBS : Hid (base ≤ w.heap.size) := h.sz
  obtain ⟨at_, num, sh, en⟩ := s
  have hsg : sgc ⟨at_, num, sh, en⟩ = [.int .i64 (at_ : Int), .int .i64 (num : Int), .int .i64 (sh : Int), .int .i64 (en : Int)] := rfl
  rw [hsg]
  obtain ⟨W1, HW1⟩ : ∃ W1, Hid (W1 = w.alloc (.cells #[.int .i64 (at_ : Int), .int .i64 (num : Int), .int .i64 (sh : Int), .int .i64 (en : Int)] 52)) := ⟨_, rfl⟩
  have HB1 : Hid (Below w.heap.size w W1) := by (show Below _ _ _); rw [HW1.out]; exact below_alloc _ _
  have HK1 : Hid (Blk W1 w.heap.size #[.int .i64 (at_ : Int), .int .i64 (num : Int), .int .i64 (sh : Int), .int .i64 (en : Int)] 52) := by (show Blk _ _ _ _); rw [HW1.out]; exact Blk.new _ _ _
  have HG1 : Hid (Lg W1 base g gs wv D gl gc b m ag [] (.slice au 0 cu) hi rel L rv) := h.below HB1.out
  have HBB : Hid (Below base w W1) := HB1.out.mono h.sz
  have c5 : W1.cell? ⟨gl, 5, none⟩ = some (.slice au 0 cu) := Blk.cell HG1.out.log 5 rfl
  have k0 : W1.cell? ⟨w.heap.size, 0, none⟩ = some (.int .i64 (at_ : Int)) := HK1.out.cell 0 rfl
  have k1 : W1.cell? ⟨w.heap.size, 1, none⟩ = some (.int .i64 (num : Int)) := HK1.out.cell 1 rfl
  have k2 : W1.cell? ⟨w.heap.size, 2, none⟩ = some (.int .i64 (sh : Int)) := HK1.out.cell 2 rfl
  have k3 : W1.cell? ⟨w.heap.size, 3, none⟩ = some (.int .i64 (en : Int)) := HK1.out.cell 3 rfl
  clear h hv hsg
  go_enter Try.func28, Try.ntmps28
  go_upto_region 1 with fail
  rw [← HW1.out]
  go_wp2_with fail
  go_region
  all_goals
    obtain ⟨W2, HW2⟩ : ∃ W2, Hid (W2 = W1.drew) := ⟨_, rfl⟩
    have HBD : Hid (Below W1.heap.size W1 W2) := by (show Below _ _ _); rw [HW2.out]; exact (Below.refl _ _).drew
    have HG2 : Hid (Lg W2 base g gs wv D gl gc b m ag [] (.slice au 0 cu) hi rel L rv) := HG1.out.below HBD.out
    have HK2 : Hid (Blk W2 w.heap.size #[.int .i64 (at_ : Int), .int .i64 (num : Int), .int .i64 (sh : Int), .int .i64 (en : Int)] 52) := HK1.out.stay HBD.out
    have HB2 : Hid (Below base w W2) := HBB.out.trans (HBD.out.mono HG1.out.sz)
    rw [← HW2.out]
    clear c5 k0 k1 k2 k3
    have c5 : W2.cell? ⟨gl, 5, none⟩ = some (.slice au 0 cu) := Blk.cell HG2.out.log 5 rfl
    have c5b : (W2.alloc (.cells #[.int .i64 (at_ : Int), .int .i64 (num : Int), .int .i64 (sh : Int), .int .i64 (en : Int)] 52)).cell? ⟨gl, 5, none⟩ = some (.slice au 0 cu) := Blk.cell (HG2.out.log.stay (below_alloc _ _)) 5 rfl
    have k0 : W2.cell? ⟨w.heap.size, 0, none⟩ = some (.int .i64 (at_ : Int)) := HK2.out.cell 0 rfl
    have k1 : W2.cell? ⟨w.heap.size, 1, none⟩ = some (.int .i64 (num : Int)) := HK2.out.cell 1 rfl
    have k2 : W2.cell? ⟨w.heap.size, 2, none⟩ = some (.int .i64 (sh : Int)) := HK2.out.cell 2 rfl
    have k3 : W2.cell? ⟨w.heap.size, 3, none⟩ = some (.int .i64 (en : Int)) := HK2.out.cell 3 rfl
    obtain ⟨W4, HW4⟩ : ∃ W4, Hid (W4 = (W2.alloc (.cells #[.int .i64 (at_ : Int), .int .i64 (num : Int), .int .i64 (sh : Int), .int .i64 (en : Int)] 52)).drew) := ⟨_, rfl⟩
    have HBW4 : Hid (Below W2.heap.size W2 W4) := by (show Below _ _ _); rw [HW4.out]; exact (below_alloc _ _).drew
    have HG4 : Hid (Lg W4 base g gs wv D gl gc b m ag [] (.slice au 0 cu) hi rel L rv) := HG2.out.below HBW4.out
    have HKN : Hid (Blk W4 W2.heap.size #[.int .i64 (at_ : Int), .int .i64 (num : Int), .int .i64 (sh : Int), .int .i64 (en : Int)] 52) := by (show Blk _ _ _ _); rw [HW4.out]; exact (Blk.new W2 _ _).stay (Below.refl _ _).drew
    have HS4 : Hid (base ≤ W4.heap.size) := HG4.out.sz
    have HKW : Hid (Kt w W4) := ((Kt.of_below HB1.out).trans (Kt.of_below HBD.out)).trans (Kt.of_below HBW4.out)
    have HB4 : Hid (Below base w W4) := HB2.out.trans (HBW4.out.mono HG2.out.sz)
    go_wp2_with fail
    go_region_law (refine step_append_sg rfl (.tmp 37) (.tmp 39) rfl base _ [] rfl (by rw [← HW4.out]; exact HG4.out.used) W2.heap.size 1 ⟨at_, num, sh, en⟩ rfl (by rw [← HW4.out]; exact HKN.out) (Nat.zero_le _) (by rw [← HW4.out]; exact HS4.out) ?_; rw [← HW4.out]; intro v5 w5 hs5 hg5 hb5; obtain ⟨hG5, hB5, hL5, hK5⟩ := HG4.out.more hs5 hg5; have d5 : w5.cell? ⟨gl, 5, none⟩ = some (.slice au 0 cu) := Blk.cell hL5 5 rfl; have f5 : w5.frozen? ⟨gl, 5, none⟩ = false := Blk.free hL5 5; have HG5 : Hid (Lg (w5.setCell ⟨gl, 5, none⟩ v5) base g gs wv D gl gc b m ag [⟨at_, num, sh, en⟩] v5 hi rel L rv) := hG5; have HB5 : Hid (Below base w (w5.setCell ⟨gl, 5, none⟩ v5)) := (HB4.out.trans hb5).trans hB5; have HK5 : Hid (Kt w (w5.setCell ⟨gl, 5, none⟩ v5)) := HKW.out.trans hK5; obtain ⟨a5, c5', hv5⟩ := hs5.val; have hv5' : v5 = .slice a5 1 c5' := hv5; subst hv5'; clear hs5 hg5 hb5 hG5 hB5 hL5 hK5 hv5)
    all_goals
      go_returns
      exact ⟨rfl, ⟨_, HG5.out⟩, HK5, HB5.out⟩
end Go.Proofs.Ytghajmcohdedlab
