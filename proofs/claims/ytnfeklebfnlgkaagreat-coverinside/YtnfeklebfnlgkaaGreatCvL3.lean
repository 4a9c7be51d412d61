/- cover: boxesOf of one side. -/
import Derived.Test.YtnfeklebfnlgkaaGreatCvL2
namespace Go.Proofs.YtnfeklebfnlgkaaGreat
open Go.RowKit

/-- A list of one box of one side. -/
def Box1 (w : World) (B : Nat) (v : Value) (cs : List Value) : Prop := ∃ gb cb gx cur, v = .slice (some ⟨gb, 0, none⟩) 1 cb ∧ 1 ≤ cb ∧ B ≤ gb ∧ Blk w gb cur 22 ∧ cur.toList.take 1 = [.slice (some ⟨gx, 0, none⟩) 1 1] ∧ Blk w gx cs.toArray 40
theorem Box1.below {w w' : World} {B : Nat} {v : Value} {cs : List Value} (h : Box1 w B v cs) (hb : Below w.heap.size w w') : Box1 w' B v cs := by
  obtain ⟨gb, cb, gx, cur, h1, h2, h3, h4, h5, h6⟩ := h
  exact ⟨gb, cb, gx, cur, h1, h2, h3, h4.stay hb, h5, h6.stay hb⟩
theorem Box1.lower {w : World} {B B' : Nat} {v : Value} {cs : List Value} (h : Box1 w B v cs) (hb : B' ≤ B) : Box1 w B' v cs := by
  obtain ⟨gb, cb, gx, cur, h1, h2, h3, h4, h5, h6⟩ := h
  exact ⟨gb, cb, gx, cur, h1, h2, Nat.le_trans hb h3, h4, h5, h6⟩
theorem Box1.form {w : World} {B : Nat} {v : Value} {cs : List Value} (h : Box1 w B v cs) : ∃ g c, v = .slice (some ⟨g, 0, none⟩) 1 c := by
  obtain ⟨gb, cb, gx, cur, h1, _⟩ := h
  exact ⟨gb, cb, h1⟩
theorem infoBx : (Tryz.prog.info? 22).map (fun i => (i.zero, i.size, i.bytes)) = some (some (.slice none 0 0), 1, 24) := by kernel_rfl
theorem wpList_append_bx {w : World} {ops : Array Oper} {rest : List Oper} {o : Oper} {act : Act} {Q : Exit → Act → World → Prop} (hgd : o.guard = none) (s x : Operand)
    (ho : o.op = .call { callee := .builtin .append, args := #[s, x], argTypes := #[46, 46] })
    (base : Nat) (hs : act.eval s = .slice none 0 0) (k c : Nat) (u : Value) (hu : u.oneCell' = true) (hx : act.eval x = .slice (some ⟨k, 0, none⟩) 1 c)
    (hb : Blk w k [u].toArray 22) (hbase : base ≤ w.heap.size)
    (h : ∀ v' w', w'.ownsRow base 22 1 v' 1 [u] → Below base w w' → wpList Tryz.prog ops Q rest (act.put o.dst v') w') : wpList Tryz.prog ops Q (o :: rest) act w := by
  obtain ⟨i0, hi, hz0, hz1, hz2⟩ := info_parts infoBx
  refine wpList_plain hgd fun K hK => ?_
  refine wp_append_own w s x 46 ho base 22 i0 (.slice none 0 0) 1 24 Tryz.underlying46 hi hz0 hz1 hz2 (by rfl) (by decide) (.slice none 0 0) 0 [] hs (World.ownsRow_nil _ _ _ _) ⟨k, 0, none⟩ 1 c [u] hx (by rfl) (fun j v hj => ?_) (by intro v hv; rw [List.mem_singleton.1 hv]; exact hu) (by unfold maxLen; omega) (by omega) hbase fun v' w' h1 h2 _ => ?_
  · have e : (⟨k, 0, none⟩ : Addr).add j = ⟨k, 0 + j, none⟩ := by unfold Addr.add; split <;> simp_all
    rw [e, Nat.zero_add]
    exact hb.cell j (by simpa using hj)
  · exact hK _ _ (h v' w' (by simpa using h1) ((Below.refl _ _).grown h2 hbase (fun k hk => by cases hk)))
set_option maxRecDepth 100000 in
set_option maxHeartbeats 4000000 in
theorem cv_boxes1 (nm : ByteArray) (ab : Bool) (lo hi : Int) (fr to : ByteArray) (op : Bool) (tr : Int) (no : Bool) (ia : Option Addr) (il ic : Nat) (oa : Option Addr) (ol oc : Nat) (hlh : lo ≤ hi) (gs cs : Nat) (w : World) (hg : Blk w gs [.string nm, .int .i64 1, .bool ab, .int .i64 lo, .int .i64 hi, .string fr, .string to, .bool op, .int .u8 tr, .bool no, .slice ia il ic, .slice oa ol oc].toArray 40) : Calls Tryz.prog 64 #[.slice (some ⟨gs, 0, none⟩) 1 cs] w fun e w' => Hid (∃ v, e = .returned v ∧ Box1 w' w.heap.size v [.string nm, .int .i64 1, .bool ab, .int .i64 lo, .int .i64 hi, .string fr, .string to, .bool op, .int .u8 tr, .bool no, .slice ia il ic, .slice oa ol oc]) ∧ Below w.heap.size w w' := by
  have HG : Hid (Blk w gs [.string nm, .int .i64 1, .bool ab, .int .i64 lo, .int .i64 hi, .string fr, .string to, .bool op, .int .u8 tr, .bool no, .slice ia il ic, .slice oa ol oc].toArray 40) := hg
  obtain ⟨W1, HW1⟩ : ∃ W1, Hid (W1 = w.alloc (.cells #[.string nm, .int .i64 1, .bool ab, .int .i64 lo, .int .i64 hi, .string fr, .string to, .bool op, .int .u8 tr, .bool no, .slice ia il ic, .slice oa ol oc] 40)) := ⟨_, rfl⟩
  have HX1 : Hid (Below w.heap.size w W1) := by (show Below _ _ _); rw [HW1.out]; exact below_alloc _ _
  have HK1 : Hid (Blk W1 w.heap.size [.string nm, .int .i64 1, .bool ab, .int .i64 lo, .int .i64 hi, .string fr, .string to, .bool op, .int .u8 tr, .bool no, .slice ia il ic, .slice oa ol oc].toArray 40) := by (show Blk _ _ _ _); rw [HW1.out]; exact Blk.new _ _ _
  clear hg
  go_enter Tryz.func64, Tryz.ntmps64
  go_wp2_with fail
  refine wp_loop_rounds 2 ?_
  rw [rounds_succ]
  go_upto_region 5 with (guard_target =~ wpList _ _ _ (Oper.mk (some 11) _ _ _ _ _ :: _) _ _; refine wpList_load_mid rfl 40 (.tmp 10) rfl gs 0 rfl [.string nm, .int .i64 1, .bool ab, .int .i64 lo, .int .i64 hi, .string fr, .string to, .bool op, .int .u8 tr, .bool no, .slice ia il ic, .slice oa ol oc] _ HG.out.all Tryz.underlying40 rfl (by rfl) ?_)
  rw [← HW1.out]
  go_wp2_with (guard_target =~ wpList _ _ _ (Oper.mk (some 12) _ _ _ _ _ :: _) _ _; refine wpList_load_mid rfl 40 (.tmp 5) rfl w.heap.size 0 rfl [.string nm, .int .i64 1, .bool ab, .int .i64 lo, .int .i64 hi, .string fr, .string to, .bool op, .int .u8 tr, .bool no, .slice ia il ic, .slice oa ol oc] _ HK1.out.all Tryz.underlying40 rfl (by rfl) ?_)
  refine (cv_letsW nm ab lo hi fr to op tr no ia il ic oa ol oc hlh W1).mono ?_
  rintro e w2 ⟨rfl, hb2⟩
  have HX2 : Hid (Below w.heap.size w w2) := HX1.out.trans (hb2.mono HX1.out.size)
  have HK2 : Hid (Blk w2 w.heap.size [.string nm, .int .i64 1, .bool ab, .int .i64 lo, .int .i64 hi, .string fr, .string to, .bool op, .int .u8 tr, .bool no, .slice ia il ic, .slice oa ol oc].toArray 40) := HK1.out.stay hb2
  clear hb2
  go_wp2_with (guard_target =~ wpList _ _ _ (Oper.mk (some 16) _ _ _ _ _ :: _) _ _; refine wpList_load_mid rfl 40 (.tmp 5) rfl w.heap.size 0 rfl [.string nm, .int .i64 1, .bool ab, .int .i64 lo, .int .i64 hi, .string fr, .string to, .bool op, .int .u8 tr, .bool no, .slice ia il ic, .slice oa ol oc] _ HK2.out.all Tryz.underlying40 rfl (by rfl) ?_)
  refine (cv_toldW nm ab lo hi fr to op tr no ia il ic oa ol oc hlh w2).mono ?_
  rintro e w3 ⟨rfl, hb3⟩
  have HX3 : Hid (Below w.heap.size w w3) := HX2.out.trans (hb3.mono HX2.out.size)
  clear hb3
  obtain ⟨W4, HW4⟩ : ∃ W4, Hid (W4 = (w3.alloc (.cells #[.string nm, .int .i64 1, .bool ab, .int .i64 lo, .int .i64 hi, .string fr, .string to, .bool op, .int .u8 tr, .bool no, .slice ia il ic, .slice oa ol oc] 40)).alloc (.cells #[.slice (some ⟨w3.heap.size, 0, none⟩) 1 1] 22)) := ⟨_, rfl⟩
  have hb4 := below_alloc w3 (.cells #[.string nm, .int .i64 1, .bool ab, .int .i64 lo, .int .i64 hi, .string fr, .string to, .bool op, .int .u8 tr, .bool no, .slice ia il ic, .slice oa ol oc] 40)
  have hb5 := below_alloc (w3.alloc (.cells #[.string nm, .int .i64 1, .bool ab, .int .i64 lo, .int .i64 hi, .string fr, .string to, .bool op, .int .u8 tr, .bool no, .slice ia il ic, .slice oa ol oc] 40)) (.cells #[.slice (some ⟨w3.heap.size, 0, none⟩) 1 1] 22)
  have HX4 : Hid (Below w.heap.size w W4) := by (show Below _ _ _); rw [HW4.out]; exact HX3.out.trans ((hb4.trans (hb5.mono hb4.size)).mono HX3.out.size)
  have HK4 : Hid (Blk W4 w3.heap.size [.string nm, .int .i64 1, .bool ab, .int .i64 lo, .int .i64 hi, .string fr, .string to, .bool op, .int .u8 tr, .bool no, .slice ia il ic, .slice oa ol oc].toArray 40) := by (show Blk _ _ _ _); rw [HW4.out]; exact (Blk.new w3 _ _).stay hb5
  have HK5 : Hid (Blk W4 (w3.heap.size + 1) [.slice (some ⟨w3.heap.size, 0, none⟩) 1 1].toArray 22) := by
    (show Blk _ _ _ _); rw [HW4.out]
    have := Blk.new (w3.alloc (.cells #[.string nm, .int .i64 1, .bool ab, .int .i64 lo, .int .i64 hi, .string fr, .string to, .bool op, .int .u8 tr, .bool no, .slice ia il ic, .slice oa ol oc] 40)) #[.slice (some ⟨w3.heap.size, 0, none⟩) 1 1] 22
    simpa using this
  have HSZ : Hid (w3.heap.size + 1 < W4.heap.size) := HK5.out.lt
  clear hb4 hb5
  go_wp2_with (guard_target =~ wpList _ _ _ (Oper.mk (some 20) _ _ _ _ _ :: _) _ _; rw [← HW4.out]; refine wpList_append_bx rfl (.tmp 15) (.tmp 19) rfl W4.heap.size rfl (w3.heap.size + 1) 1 (.slice (some ⟨w3.heap.size, 0, none⟩) 1 1) rfl rfl HK5.out (Nat.le_refl _) ?_; intro v6 w6 ho6 hb6; have HO6 : Hid (w6.ownsRow W4.heap.size 22 1 v6 1 [.slice (some ⟨w3.heap.size, 0, none⟩) 1 1]) := ho6; have HX6 : Hid (Below W4.heap.size W4 w6) := hb6; clear ho6 hb6)
  rw [rounds_succ]
  go_wp2
  go_returns
  have hbx : Box1 w6 w.heap.size v6 [.string nm, .int .i64 1, .bool ab, .int .i64 lo, .int .i64 hi, .string fr, .string to, .bool op, .int .u8 tr, .bool no, .slice ia il ic, .slice oa ol oc] := by
    rcases HO6.out.2 with ⟨_, h0⟩ | ⟨gb, cb, cur, hv, hB, hgb, hlc, _, _, hx⟩
    · cases h0
    · exact ⟨gb, cb, w3.heap.size, cur, hv, hlc, Nat.le_trans HX4.out.size hB, hgb, by rw [Nat.one_mul] at hx; exact hx, HK4.out.stay HX6.out⟩
  exact ⟨⟨v6, rfl, hbx⟩, HX4.out.trans (HX6.out.mono HX4.out.size)⟩
end Go.Proofs.YtnfeklebfnlgkaaGreat
