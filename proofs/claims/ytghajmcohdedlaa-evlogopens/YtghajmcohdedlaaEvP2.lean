/- A pack of texts: EvL22 EvL23 EvL24. -/
import Derived.Test.YtghajmcohdedlaaEvL21
/- evlog: segmentFor, where no segment is used. -/
namespace Go.Proofs.Ytghajmcohdedlaa
open Go.RowKit

theorem results_segForE {w : World} {tmps : Array Value} {g : Nat} {cs : List Value} {v : Value} (h2 : tmps[4]?.getD undef = .pointer (some ⟨g, 0, none⟩)) (h3 : tmps[5]?.getD undef = v) (k : Blk w g cs.toArray 85) (hl : cs.length = 4) : (results Try.f51 tmps).run Try.prog w = .ok (.tuple #[.agg cs.toArray, v]) w := by
  have hr := run_loadVar_mid (P := Try.prog) w g 0 85 cs _ (k.range 0 cs (fun j v hj => by simpa using hj)) Try.underlying85 rfl (by rw [hl]; exact infoSg4)
  simp [results, Try.results51, h2, h3, hr, asAddr]
set_option maxRecDepth 100000 in
set_option maxHeartbeats 8000000 in
theorem evl_segFor0 (w : World) (base g gs : Nat) (wv : Value) (D : Dk) (gl gc b m ag : Nat) (uv : Value) (hi rel : Nat) (L : List Rc) (rv : Value) (D1 : Dk) (wb : Bool) (n : Int) (h : Lg w base g gs wv D gl gc b m ag [] uv hi rel L rv) (hb : b ≤ 1000) (hm1 : 1 ≤ m) (hhi : hi ≤ 1099511627776) (hw : D.waits.length ≤ 900000000) (hwp : wipeL D 16 (b + 2) false = (D1, wb, 0)) (hsy : syncE D1 = 0) (hws : (syncD D1).waits.length < 1000000000) (hwr : writeE (syncD D1) ((b + 2 : Nat) : Int) (headL 1 hi) = 0) :
    Calls Try.prog 51 #[.pointer (some ⟨gl, 0, none⟩), .int .i64 n] w fun e w' => e = .returned (.tuple #[.agg (sgc ⟨b + 2, 1, hi, 1⟩).toArray, .int .i64 0]) ∧ Hid (∃ wv', Lg w' base g gs wv' (writeD (syncD D1) ((b + 2 : Nat) : Int) (headL 1 hi)) gl gc b m ag [] uv hi rel L rv) ∧ Mv w w' base g gs := by
  obtain ⟨au, cu, hv⟩ := h.used.val
  have hv' : uv = .slice au 0 cu := hv
  subst hv'
  have HBS : Hid (base ≤ w.heap.size) := h.sz
  have HNE : Hid (some w.heap.size ≠ (Value.slice au 0 cu).ownBlock) := fun e => by have := (h.used.lt _ e.symm).2; omega
  obtain ⟨W1, HW1⟩ : ∃ W1, Hid (W1 = w.alloc (.cells #[.int .i64 0, .int .i64 0, .int .i64 0, .int .i64 0] 85)) := ⟨_, rfl⟩
  have HB1 : Hid (Below w.heap.size w W1) := by (show Below _ _ _); rw [HW1.out]; exact below_alloc _ _
  have HK1 : Hid (Blk W1 w.heap.size #[.int .i64 0, .int .i64 0, .int .i64 0, .int .i64 0] 85) := by (show Blk _ _ _ _); rw [HW1.out]; exact Blk.new _ _ _
  have HG1 : Hid (Lg W1 base g gs wv D gl gc b m ag [] (.slice au 0 cu) hi rel L rv) := h.below HB1.out
  have HBB : Hid (Mv w W1 base g gs) := Mv.of_below g gs HB1.out h.sz
  have HBG := evl_begin0 W1 base g gs wv D gl gc b m ag (.slice au 0 cu) hi rel L rv D1 wb HG1.out hb hm1 hhi hw hwp hsy hws hwr
  have c5 : W1.cell? ⟨gl, 5, none⟩ = some (.slice au 0 cu) := Blk.cell HG1.out.log 5 rfl
  clear h hv hwp hsy hws hwr
  go_enter Try.func51, Try.ntmps51
  go_upto_region 1 with fail
  rw [← HW1.out]
  go_wp2_with fail
  refine HBG.mono ?_
  rintro e w2 ⟨rfl, hg2, hm2⟩
  have HD2 : Hid (∃ wv', Lg w2 base g gs wv' (writeD (syncD D1) ((b + 2 : Nat) : Int) (headL 1 hi)) gl gc b m ag [] (.slice au 0 cu) hi rel L rv) := hg2
  have HK2 : Hid (Blk w2 w.heap.size #[.int .i64 0, .int .i64 0, .int .i64 0, .int .i64 0] 85) := hm2.keep HK1.out (HG1.out.disk.off HK1.out (by decide) (by decide)).1 (HG1.out.disk.off HK1.out (by decide) (by decide)).2 (by decide)
  have HM2 : Hid (Mv w w2 base g gs) := HBB.out.trans hm2
  obtain ⟨P, HP⟩ : ∃ P, Hid (P = b + 2) := ⟨_, rfl⟩
  have hsg : sgc ⟨b + 2, 1, hi, 1⟩ = [.int .i64 (P : Int), .int .i64 1, .int .i64 (hi : Int), .int .i64 1] := by rw [HP.out]; rfl
  rw [hsg]
  have k0 : w2.cell? ⟨w.heap.size, 0, none⟩ = some (.int .i64 0) := HK2.out.cell 0 rfl
  have k1 : w2.cell? ⟨w.heap.size, 1, none⟩ = some (.int .i64 0) := HK2.out.cell 1 rfl
  have k2 : w2.cell? ⟨w.heap.size, 2, none⟩ = some (.int .i64 0) := HK2.out.cell 2 rfl
  have k3 : w2.cell? ⟨w.heap.size, 3, none⟩ = some (.int .i64 0) := HK2.out.cell 3 rfl
  have f0 := HK2.out.free 0
  have f1 := HK2.out.free 1
  have f2 := HK2.out.free 2
  have f3 := HK2.out.free 3
  clear hg2 hm2 hsg HBG c5
  go_wp2
  refine bodyPost_ret (results_segForE (cs := [.int .i64 (P : Int), .int .i64 1, .int .i64 (hi : Int), .int .i64 1]) (by rfl) (by rfl) ((((HK2.out.set 0 _).set 1 _).set 2 _).set 3 _) rfl) rfl ?_
  obtain ⟨wv8, hl8⟩ := HD2.out
  have k1' := HK2.out.set 0 (.int .i64 (P : Int))
  have k2' := k1'.set 1 (.int .i64 1)
  have k3' := k2'.set 2 (.int .i64 (hi : Int))
  exact ⟨by have hp : P = b + 2 := HP.out; subst hp; rfl, ⟨wv8, (((hl8.aside HK2.out HNE.out 0 _).aside k1' HNE.out 1 _).aside k2' HNE.out 2 _).aside k3' HNE.out 3 _⟩, (((HM2.out.fresh HBS.out 0 _).fresh HBS.out 1 _).fresh HBS.out 2 _).fresh HBS.out 3 _⟩
end Go.Proofs.Ytghajmcohdedlaa
/- evlog: cut, where one part is enough. -/
namespace Go.Proofs.Ytghajmcohdedlaa
open Go.RowKit

theorem infoPartB : (Try.prog.info? 110).map (fun i => (i.zero, i.size, i.bytes)) = some (some (.agg #[.int .u8 0, .bool false, .slice none 0 0]), 3, 32) := by kernel_rfl
theorem wpList_append_pt {w : World} {ops : Array Oper} {rest : List Oper} {o : Oper} {act : Act} {Q : Exit → Act → World → Prop} (hgd : o.guard = none) (s x : Operand)
    (ho : o.op = .call { callee := .builtin .append, args := #[s, x], argTypes := #[104, 104] })
    (base : Nat) (v : Value) (hs : act.eval s = v) (hown : w.ownsRow base 110 3 v 0 []) (k c : Nat) (p : List Value) (hp : p.length = 3) (h1 : ∀ u ∈ p, u.oneCell' = true) (hx : act.eval x = .slice (some ⟨k, 0, none⟩) 1 c)
    (hb : Blk w k p.toArray 110) (hbase : base ≤ w.heap.size)
    (h : ∀ v' w', w'.ownsRow base 110 3 v' 1 p → Below base w w' → wpList Try.prog ops Q rest (act.put o.dst v') w') : wpList Try.prog ops Q (o :: rest) act w := by
  obtain ⟨i0, hi, hz0, hz1, hz2⟩ := info_parts infoPartB
  refine wpList_plain hgd fun K hK => ?_
  refine wp_append_own w s x 104 ho base 110 i0 (.agg #[.int .u8 0, .bool false, .slice none 0 0]) 3 32 Try.underlying104 hi hz0 hz1 hz2 (by rfl) (by decide) v 0 [] hs hown ⟨k, 0, none⟩ 1 c p hx (by rw [hp]) (fun j u hj => ?_) h1 (by unfold maxLen; omega) (by omega) hbase fun v' w' h1 h2 _ => ?_
  · have e : (⟨k, 0, none⟩ : Addr).add j = ⟨k, 0 + j, none⟩ := by unfold Addr.add; split <;> simp_all
    rw [e, Nat.zero_add]
    exact hb.cell j (by simpa using hj)
  · exact hK _ _ (h v' w' (by simpa using h1) ((Below.refl _ _).grown h2 hbase (fun k hk => (hown.lt k hk).1)))
set_option maxRecDepth 100000 in
set_option maxHeartbeats 4000000 in
theorem evl_cut1 (w : World) (g0 off n c : Nat) (hn1 : 1 ≤ n) (hn : n ≤ 59) (hc : n ≤ c) :
    Calls Try.prog 49 #[.slice (some ⟨g0, off, none⟩) n c] w fun e w' => Hid (∃ v, e = .returned v ∧ w'.ownsRow w.heap.size 110 3 v 1 [.int .u8 2, .bool true, .slice (some ⟨g0, off, none⟩) n n]) ∧ Below w.heap.size w w' := by
  have a1 : (0 : Int) < (n : Int) := by omega
  have a2 : ¬ (59 : Int) < (n : Int) := by omega
  have a3 : (n : Int) ≤ (c : Int) := by omega
  have a4 : (0 : Int) ≤ (n : Int) := by omega
  have a5 : ¬ n = 0 := by omega
  have e1 : ((n : Int) == (n : Int)) = true := by simp
  have e2 : (if (n : Int) < 59 then (n : Int) else 59) = (n : Int) := by split <;> omega
  have HBK : Hid (Blk (w.alloc (.cells #[.int .u8 2, .bool true, .slice (some ⟨g0, off, none⟩) n n] 110)) w.heap.size [.int .u8 2, .bool true, .slice (some ⟨g0, off, none⟩) n n].toArray 110) := Blk.new _ _ _
  have HB : Hid (Below w.heap.size w (w.alloc (.cells #[.int .u8 2, .bool true, .slice (some ⟨g0, off, none⟩) n n] 110))) := below_alloc _ _
  go_enter Try.func49, Try.ntmps49
  go_wp2_with fail
  refine wp_loop_rounds 2 ?_
  rw [rounds_succ]
  go_wp2_with (guard_target =~ wpList _ _ _ (Oper.mk (some 31) _ _ _ _ _ :: _) _ _; refine wpList_append_pt rfl (.tmp 18) (.tmp 30) rfl w.heap.size _ rfl (World.ownsRow_nil _ _ _ _) w.heap.size 1 [.int .u8 2, .bool true, .slice (some ⟨g0, off, none⟩) n n] rfl (by intro u hu; simp only [List.mem_cons, List.not_mem_nil, or_false] at hu; rcases hu with rfl | rfl | rfl <;> rfl) rfl HBK.out HB.out.size ?_)
  intro v5 w5 ho5 hb5
  have HO5 : Hid (w5.ownsRow w.heap.size 110 3 v5 1 [.int .u8 2, .bool true, .slice (some ⟨g0, off, none⟩) n n]) := ho5
  have HB5 : Hid (Below w.heap.size w w5) := HB.out.trans hb5
  clear ho5 hb5
  go_wp2_with fail
  rw [rounds_succ]
  go_wp2
  go_returns
  exact ⟨⟨v5, rfl, HO5.out⟩, HB5.out⟩
end Go.Proofs.Ytghajmcohdedlaa
/- bytes.Clone. -/
namespace Go.Proofs.Ytghajmcohdedlaa
open Go.RowKit

set_option maxRecDepth 100000 in
theorem bytes_Clone (a : Option Addr) (n c : Nat) (bs : List Nat) (w : World) (hr : Rd w a n bs) (hl : n ≤ 140737488351232) :
    Calls Try.prog 55 #[.slice a n c] w fun e w' => ∃ a' c', e = .returned (.slice a' n c') ∧ Own w' w.heap.size a' n c' bs ∧ Below w.heap.size w w' := by
  have HR : Hid (Rd w a n bs) := hr
  cases a with
  | none =>
    have hz : n = 0 := by
      rcases hr.cells with h0 | ⟨_, _, h, _⟩
      · exact h0
      · cases h
    have HB : Hid (bs = []) := List.eq_nil_of_length_eq_zero (by rw [hr.size]; exact hz)
    subst hz
    have hq : ∀ W : World, (binOp .eql 49 (.slice none 0 c) (.slice none 0 0)).run Try.prog W = .ok (.bool true) W := fun W => by
      simp only [binOp]
      rw [Sem.run_bind, run_equal_slice_nil W _ _ _ _ _ Try.underlying49]
      rfl
    clear hr
    go_enter Try.func55, Try.ntmps55
    go_wp2
    go_ret
    rw [HB.out]
    exact ⟨none, 0, rfl, Own.none _ _, Below.refl _ _⟩
  | some ad =>
    have hq : ∀ W : World, (binOp .eql 49 (.slice (some ad) n c) (.slice none 0 0)).run Try.prog W = .ok (.bool false) W := fun W => by
      simp only [binOp]
      rw [Sem.run_bind, run_equal_slice_nil W _ _ _ _ _ Try.underlying49]
      rfl
    clear hr
    go_enter Try.func55, Try.ntmps55
    go_wp2_with (at_builtin; refine wpList_append_rd rfl (.tmp 5) (.tmp 6) rfl w.heap.size (some ⟨w.heap.size, 0, none⟩) 0 0 [] rfl (Own.empty w) (some ad) n c bs rfl (HR.out.below (below_alloc _ _)) (by simp) (by omega) (by simp) ?_)
    intro a5 c5 w5 ho5 hg5 hb5
    have HO5 : Hid (Own w5 w.heap.size a5 n c5 bs) := by
      show Own _ _ _ _ _ _
      simpa using ho5
    have HB5 : Hid (Below w.heap.size w w5) := (below_alloc w (.cells #[] 5)).trans hb5
    clear ho5 hg5 hb5
    go_wp2
    go_ret
    refine ⟨a5, c5, ?_, HO5.out, HB5.out⟩
    simp
end Go.Proofs.Ytghajmcohdedlaa
