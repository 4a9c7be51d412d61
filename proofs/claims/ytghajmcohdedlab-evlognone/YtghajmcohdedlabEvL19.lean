/- evlog: Sync; keep, where no segment is used. -/
import Derived.Test.YtghajmcohdedlabEvL18
namespace Go.Proofs.Ytghajmcohdedlab
open Go.RowKit

set_option maxRecDepth 100000 in
set_option maxHeartbeats 4000000 in
theorem evl_Sync (w : World) (base g gs : Nat) (wv : Value) (D : Dk) (gl gc b m : Nat) (U : List Sg) (uv : Value) (hi rel : Nat) (L : List Rc) (rv : Value) (h : Lg w base g gs wv D gl gc b m D.age U uv hi rel L rv) :
    Calls Try.prog 7 #[.pointer (some ⟨gl, 0, none⟩)] w fun e w' => e = .returned (.int .i64 (syncE D)) ∧ Hid (∃ wv', Lg w' base g gs wv' (syncD D) gl gc b m D.age U uv hi rel L rv) ∧ Below base w w' := by
  have HG : Hid (Lg w base g gs wv D gl gc b m D.age U uv hi rel L rv) := h
  have HST := evl_stale w base g gs wv D gl gc b m D.age hi rel uv rv h.disk h.log
  rw [show staleE D D.age = 0 from if_pos rfl] at HST
  obtain ⟨R, HR⟩ : ∃ R, Hid (R = syncE D) := ⟨_, rfl⟩
  rw [← HR.out]
  clear h
  go_enter Try.func7, Try.ntmps7
  go_wp2_with fail
  refine HST.mono ?_
  rintro e w1 ⟨rfl, n, hw1⟩
  have hb1 : Below w.heap.size w w1 := by rw [hw1]; exact below_drewN (Below.refl _ _) _
  clear hw1
  have HG1 : Hid (Lg w1 base g gs wv D gl gc b m D.age U uv hi rel L rv) := HG.out.below hb1
  have HB1 : Hid (Below base w w1) := hb1.mono HG.out.sz
  have c0 : w1.cell? ⟨gl, 0, none⟩ = some (.pointer (some ⟨g, 0, none⟩)) := Blk.cell HG1.out.log 0 rfl
  clear hb1 HST
  go_wp2_with fail
  refine (disk_Sync w1 base g gs wv D HG1.out.disk).mono ?_
  rw [← HR.out]
  rintro e w2 ⟨rfl, hd2, hm2⟩
  obtain ⟨wv2, hd2⟩ := hd2.out
  have HG2 : Hid (Lg w2 base g gs wv2 (syncD D) gl gc b m D.age U uv hi rel L rv) := HG1.out.mv hm2 hd2
  have HB2 : Hid (Below base w w2) := HB1.out.trans hm2.low
  clear hd2 hm2
  go_wp2
  go_returns
  exact ⟨rfl, ⟨wv2, HG2.out⟩, HB2.out⟩

theorem step_append_sg {w : World} {ops : Array Oper} {o : Oper} {act : Act} {K : Act → World → Prop} {Q : Exit → Act → World → Prop} {E : Prop} (hgd : o.guard = none) (s x : Operand)
    (ho : o.op = .call { callee := .builtin .append, args := #[s, x], argTypes := #[39, 39] })
    (base : Nat) (v : Value) (L : List Sg) (hs : act.eval s = v) (hown : Sgs w base v L) (k c : Nat) (p : Sg) (hx : act.eval x = .slice (some ⟨k, 0, none⟩) 1 c)
    (hb : Blk w k (sgc p).toArray 52) (hl : L.length ≤ 1000000) (hbase : base ≤ w.heap.size)
    (h : ∀ v' w', Sgs w' base v' (L ++ [p]) → w.grownBy w' v.ownBlock → Below base w w' → K (act.put o.dst v') w') : if Region.wanted o (yielded ops act.tmps) = true then Oper.wp Try.prog o act w K Q else E := by
  rw [if_pos (by simp [Region.wanted, hgd])]
  obtain ⟨i0, hi, hz0, hz1, hz2⟩ := info_parts infoSg
  refine wp_append_own w s x 39 ho base 52 i0 (.agg #[.int .i64 0, .int .i64 0, .int .i64 0, .int .i64 0]) 4 32 Try.underlying39 hi hz0 hz1 hz2 (by rfl) (by decide) v L.length (L.flatMap sgc) hs hown ⟨k, 0, none⟩ 1 c (sgc p) hx (by rfl) (fun j u hj => ?_) (sgc_one p) (by unfold maxLen; omega) (by omega) hbase fun v' w' h1 h2 _ => ?_
  · have e : (⟨k, 0, none⟩ : Addr).add j = ⟨k, 0 + j, none⟩ := by unfold Addr.add; split <;> simp_all
    rw [e, Nat.zero_add]
    exact hb.cell j (by simpa using hj)
  · refine h v' w' ?_ h2 ((Below.refl _ _).grown h2 hbase (fun k hk => (hown.lt k hk).1))
    unfold Sgs
    rw [List.length_append, List.flatMap_append]
    simpa using h1
/-- A segment more. -/
theorem Lg.more {w w5 : World} {base g gs : Nat} {wv : Value} {D : Dk} {gl gc b m ag : Nat} {U U5 : List Sg} {uv v5 : Value} {hi rel : Nat} {L : List Rc} {rv : Value} (h : Lg w base g gs wv D gl gc b m ag U uv hi rel L rv) (hs : Sgs w5 base v5 U5) (hg : w.grownBy w5 uv.ownBlock) : Lg (w5.setCell ⟨gl, 5, none⟩ v5) base g gs wv D gl gc b m ag U5 v5 hi rel L rv ∧ Below base w5 (w5.setCell ⟨gl, 5, none⟩ v5) ∧ Lc w5 gl g gc b m ag uv hi rel rv ∧ Kt w (w5.setCell ⟨gl, 5, none⟩ v5) :=
  have hk : Kt w w5 := (Kt.refl w).grown h.used (.inr (.inl rfl)) hg
  have hl : Lc w5 gl g gc b m ag uv hi rel rv := Blk.grown h.log hg (own_ne h.used h.log (by decide))
  have hk' : Kt w5 (w5.setCell ⟨gl, 5, none⟩ v5) := (Kt.refl w5).set hl (.inl rfl) 5 _
  have hr : Rcs w5 base rv L := ⟨own_stay h.recs.row (fun k hk2 => by
    have hlt := (h.recs.row.lt k hk2).2
    refine hg.block k hlt (fun e => ?_)
    rcases h.recs.row.2 with ⟨a1, _⟩ | ⟨gr, cp, cur, a1, _, a3, _⟩
    · rw [a1] at hk2; cases hk2
    · rw [a1] at hk2
      simp only [Value.ownBlock, Option.some.injEq] at hk2
      subst hk2
      exact own_ne h.used (show Blk w gr cur 47 from a3) (by decide) e), fun r hr => (h.recs.bd r hr).kt hk⟩
  ⟨⟨(h.disk.kt hk).kt hk', Blk.set hl 5 _, hk'.keep (hk.keep h.cells (by decide) (by decide) (by decide)) (by decide) (by decide) (by decide), row_set hs (own_ne hs hl (by decide)), hr.set hl (.inl rfl), h.bl⟩, (Below.refl _ _).setCell h.bl _, hl, hk.trans hk'⟩
end Go.Proofs.Ytghajmcohdedlab
