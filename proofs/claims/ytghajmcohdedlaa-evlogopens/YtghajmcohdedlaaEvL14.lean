/- evlog: free, where one segment is used. -/
import Derived.Test.YtghajmcohdedlaaEvL13
namespace Go.Proofs.Ytghajmcohdedlaa
open Go.RowKit

set_option maxRecDepth 100000 in
set_option maxHeartbeats 4000000 in
theorem evl_free1 (w : World) (base g gs : Nat) (wv : Value) (D : Dk) (gl gc b m ag : Nat) (s : Sg) (uv : Value) (hi rel : Nat) (L : List Rc) (rv : Value) (t : Int) (h : Lg w base g gs wv D gl gc b m ag [s] uv hi rel L rv) :
    Calls Try.prog 37 #[.pointer (some ⟨gl, 0, none⟩), .int .i64 t] w fun e w' => Hid (∃ a c, e = .returned (.tuple #[.slice a 1 c, .int .i64 0]) ∧ Sgs w' w.heap.size (.slice a 1 c) [s]) ∧ Below w.heap.size w w' := by
  obtain ⟨gu, c, spare, hv, hbu, hblk, hx⟩ := Sgs.cut (done := []) (rest := []) h.used
  have hv' : uv = .slice (some ⟨gu, 0, none⟩) 1 c := hv
  subst hv'
  obtain ⟨at_, num, sh, en⟩ := s
  have c5 : w.cell? ⟨gl, 5, none⟩ = some (.slice (some ⟨gu, 0, none⟩) 1 c) := Blk.cell h.log 5 rfl
  have HRG : Hid (w.rangeAt gu 0 (sgc ⟨at_, num, sh, en⟩)) := fun q v hq => hblk.cell _ (rowS_at [] _ _ q v hq)
  obtain ⟨W1, HW1⟩ : ∃ W1, Hid (W1 = w.alloc (.cells #[.int .i64 (at_ : Int), .int .i64 (num : Int), .int .i64 (sh : Int), .int .i64 (en : Int)] 85)) := ⟨_, rfl⟩
  have HBW : Hid (Below w.heap.size w W1) := by (show Below _ _ _); rw [HW1.out]; exact below_alloc _ _
  have HX1 : Hid (Blk W1 w.heap.size (sgc ⟨at_, num, sh, en⟩).toArray 85) := by (show Blk _ _ _ _); rw [HW1.out]; exact Blk.new _ _ _
  have d5 : W1.cell? ⟨gl, 5, none⟩ = some (.slice (some ⟨gu, 0, none⟩) 1 c) := Blk.cell (h.log.stay HBW.out) 5 rfl
  have x0 : W1.cell? ⟨w.heap.size, 0, none⟩ = some (.int .i64 (at_ : Int)) := HX1.out.cell 0 rfl
  have x1 : W1.cell? ⟨w.heap.size, 1, none⟩ = some (.int .i64 (num : Int)) := HX1.out.cell 1 rfl
  have x2 : W1.cell? ⟨w.heap.size, 2, none⟩ = some (.int .i64 (sh : Int)) := HX1.out.cell 2 rfl
  have x3 : W1.cell? ⟨w.heap.size, 3, none⟩ = some (.int .i64 (en : Int)) := HX1.out.cell 3 rfl
  have HX2 : Hid (Blk (W1.alloc (.cells #[.int .i64 (at_ : Int), .int .i64 (num : Int), .int .i64 (sh : Int), .int .i64 (en : Int)] 85)) W1.heap.size (sgc ⟨at_, num, sh, en⟩).toArray 85) := Blk.new _ _ _
  have HB2 : Hid (Below w.heap.size w (W1.alloc (.cells #[.int .i64 (at_ : Int), .int .i64 (num : Int), .int .i64 (sh : Int), .int .i64 (en : Int)] 85))) := HBW.out.trans ((below_alloc _ _).mono HBW.out.size)
  clear h hv hbu hblk hx
  go_enter Try.func37, Try.ntmps37
  go_wp2_with fail
  refine wp_loop_rounds 2 ?_
  rw [rounds_succ]
  go_upto_region 5 with (guard_target =~ wpList _ _ _ (Oper.mk (some 19) _ _ _ _ _ :: _) _ _; refine wpList_load_mid rfl 85 (.tmp 18) rfl gu 0 rfl [.int .i64 (at_ : Int), .int .i64 (num : Int), .int .i64 (sh : Int), .int .i64 (en : Int)] _ HRG.out Try.underlying85 rfl (by rfl) ?_)
  rw [← HW1.out]
  go_wp2_with (guard_target =~ wpList _ _ _ (Oper.mk (some 37) _ _ _ _ _ :: _) _ _; refine wpList_append_sg rfl (.tmp 34) (.tmp 36) rfl w.heap.size _ [] rfl (Sgs.nil _ _) W1.heap.size 1 ⟨at_, num, sh, en⟩ rfl HX2.out (Nat.zero_le _) HB2.out.size ?_)
  intro v5 w5 hs5 _ hb5
  have HB5 : Hid (Below w.heap.size w w5) := HB2.out.trans hb5
  obtain ⟨a5, c5', hv5⟩ := hs5.val
  have hv5' : v5 = .slice a5 1 c5' := hv5
  subst hv5'
  have HS5 : Hid (Sgs w5 w.heap.size (.slice a5 1 c5') [⟨at_, num, sh, en⟩]) := hs5
  clear hs5 hb5 hv5
  go_wp2_with fail
  rw [rounds_succ]
  go_wp2
  go_returns
  exact ⟨⟨a5, c5', rfl, HS5.out⟩, HB5.out⟩
end Go.Proofs.Ytghajmcohdedlaa
