/- evlog: cut, where one part is enough. -/
import Derived.Test.YtghajmcohdedlabEvL22
namespace Go.Proofs.Ytghajmcohdedlab
open Go.RowKit

theorem infoPartB : (Try.prog.info? 56).map (fun i => (i.zero, i.size, i.bytes)) = some (some (.agg #[.int .u8 0, .bool false, .slice none 0 0]), 3, 32) := by kernel_rfl
theorem wpList_append_pt {w : World} {ops : Array Oper} {rest : List Oper} {o : Oper} {act : Act} {Q : Exit → Act → World → Prop} (hgd : o.guard = none) (s x : Operand)
    (ho : o.op = .call { callee := .builtin .append, args := #[s, x], argTypes := #[48, 48] })
    (base : Nat) (v : Value) (hs : act.eval s = v) (hown : w.ownsRow base 56 3 v 0 []) (k c : Nat) (p : List Value) (hp : p.length = 3) (h1 : ∀ u ∈ p, u.oneCell' = true) (hx : act.eval x = .slice (some ⟨k, 0, none⟩) 1 c)
    (hb : Blk w k p.toArray 56) (hbase : base ≤ w.heap.size)
    (h : ∀ v' w', w'.ownsRow base 56 3 v' 1 p → Below base w w' → wpList Try.prog ops Q rest (act.put o.dst v') w') : wpList Try.prog ops Q (o :: rest) act w := by
  obtain ⟨i0, hi, hz0, hz1, hz2⟩ := info_parts infoPartB
  refine wpList_plain hgd fun K hK => ?_
  refine wp_append_own w s x 48 ho base 56 i0 (.agg #[.int .u8 0, .bool false, .slice none 0 0]) 3 32 Try.underlying48 hi hz0 hz1 hz2 (by rfl) (by decide) v 0 [] hs hown ⟨k, 0, none⟩ 1 c p hx (by rw [hp]) (fun j u hj => ?_) h1 (by unfold maxLen; omega) (by omega) hbase fun v' w' h1 h2 _ => ?_
  · have e : (⟨k, 0, none⟩ : Addr).add j = ⟨k, 0 + j, none⟩ := by unfold Addr.add; split <;> simp_all
    rw [e, Nat.zero_add]
    exact hb.cell j (by simpa using hj)
  · exact hK _ _ (h v' w' (by simpa using h1) ((Below.refl _ _).grown h2 hbase (fun k hk => (hown.lt k hk).1)))
set_option maxRecDepth 100000 in
set_option maxHeartbeats 4000000 in
theorem evl_cut1 (w : World) (g0 off n c : Nat) (hn1 : 1 ≤ n) (hn : n ≤ 59) (hc : n ≤ c) :
    Calls Try.prog 23 #[.slice (some ⟨g0, off, none⟩) n c] w fun e w' => Hid (∃ v, e = .returned v ∧ w'.ownsRow w.heap.size 56 3 v 1 [.int .u8 2, .bool true, .slice (some ⟨g0, off, none⟩) n n]) ∧ Below w.heap.size w w' := by
  have a1 : (0 : Int) < (n : Int) := by omega
  have a2 : ¬ (59 : Int) < (n : Int) := by omega
  have a3 : (n : Int) ≤ (c : Int) := by omega
  have a4 : (0 : Int) ≤ (n : Int) := by omega
  have a5 : ¬ n = 0 := by omega
  have e1 : ((n : Int) == (n : Int)) = true := by simp
  have e2 : (if (n : Int) < 59 then (n : Int) else 59) = (n : Int) := by split <;> omega
  have HBK : Hid (Blk (w.alloc (.cells #[.int .u8 2, .bool true, .slice (some ⟨g0, off, none⟩) n n] 56)) w.heap.size [.int .u8 2, .bool true, .slice (some ⟨g0, off, none⟩) n n].toArray 56) := Blk.new _ _ _
  have HB : Hid (Below w.heap.size w (w.alloc (.cells #[.int .u8 2, .bool true, .slice (some ⟨g0, off, none⟩) n n] 56))) := below_alloc _ _
  go_enter Try.func23, Try.ntmps23
  go_wp2_with fail
  refine wp_loop_rounds 2 ?_
  rw [rounds_succ]
  go_wp2_with (guard_target =~ wpList _ _ _ (Oper.mk (some 31) _ _ _ _ _ :: _) _ _; refine wpList_append_pt rfl (.tmp 18) (.tmp 30) rfl w.heap.size _ rfl (World.ownsRow_nil _ _ _ _) w.heap.size 1 [.int .u8 2, .bool true, .slice (some ⟨g0, off, none⟩) n n] rfl (by intro u hu; simp only [List.mem_cons, List.not_mem_nil, or_false] at hu; rcases hu with rfl | rfl | rfl <;> rfl) rfl HBK.out HB.out.size ?_)
  intro v5 w5 ho5 hb5
  have HO5 : Hid (w5.ownsRow w.heap.size 56 3 v5 1 [.int .u8 2, .bool true, .slice (some ⟨g0, off, none⟩) n n]) := ho5
  have HB5 : Hid (Below w.heap.size w w5) := HB.out.trans hb5
  clear ho5 hb5
  go_wp2_with fail
  rw [rounds_succ]
  go_wp2
  go_returns
  exact ⟨⟨v5, rfl, HO5.out⟩, HB5.out⟩
end Go.Proofs.Ytghajmcohdedlab
