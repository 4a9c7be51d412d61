/- span.lay. -/
import Derived.Test.YtidihfhgnjkmaaaSpBeh
import Derived.Deep.RegionHeld3
namespace Go.Proofs.Ytidihfhgnjkmaaa
open Go.RowKit

/-- The world has grown by what is new, and by one's own list. -/
theorem Sps.grown {w w' : World} {base : Nat} {v : Value} {l : List Sp} (h : Sps w base v l) (hb : base ≤ w.heap.size) (hg : w.grownBy w' v.ownBlock) : Below base w w' :=
  ⟨hg.os, hg.tape, hg.output, hg.size, fun k hk => hg.block k (by omega) fun e => by have := h.at_ e.symm; omega⟩
theorem grown_after {w w1 w' : World} {row : Option Nat} (hb : Below w.heap.size w w1) (hg : w1.grownBy w' row) : w.grownBy w' row :=
  ⟨hg.os.trans hb.os, hg.tape.trans hb.tape, hg.output.trans hb.output, Nat.le_trans hb.size hg.size, fun k hk hn => (hg.block k (Nat.lt_of_lt_of_le hk hb.size) hn).trans (hb.block k hk)⟩
theorem grown_below {w w' : World} {row : Option Nat} (hb : Below w.heap.size w w') : w.grownBy w' row := ⟨hb.os, hb.tape, hb.output, hb.size, fun k hk _ => hb.block k hk⟩
theorem grown_set {w w' : World} {a : Addr} {v : Value} (hb : Below w.heap.size w w') : w.grownBy (w'.setCell a v) (some a.block) := by
  have h0 : Below 0 w (w'.setCell a v) := (hb.mono (Nat.zero_le _)).setCell (Nat.zero_le _) v
  refine ⟨h0.os, h0.tape, h0.output, h0.size, fun k hk hn => ?_⟩
  rw [heap_setCell_other w' a k v (fun e => hn (by rw [e]))]
  exact hb.block k hk
/-- Where the last span of one's own list lies. -/
theorem Sps.spot {w : World} {base : Nat} {v : Value} {i : List Sp} {q : Sp} (h : Sps w base v (i ++ [q])) : ∃ g c, v = .slice (some ⟨g, 0, none⟩) (i.length + 1) c ∧ base ≤ g ∧ g < w.heap.size ∧ i.length + 1 ≤ c ∧ w.cell? ⟨g, i.length * 3, none⟩ = some (.int .i64 q.fr) ∧ w.cell? ⟨g, i.length * 3 + 1, none⟩ = some (.int .i64 q.to) ∧ w.cell? ⟨g, i.length * 3 + 2, none⟩ = some (.int .i64 q.is) ∧ w.frozen? ⟨g, i.length * 3 + 1, none⟩ = false := by
  obtain ⟨a, c, hv, hc⟩ := h.form
  rw [hv] at h
  have hr := h.rd
  obtain ⟨g, o, ha, hg, q', hq, c0, c1, c2⟩ := hr.at_ i.length (by simp)
  rw [List.getElem?_append_right (Nat.le_refl _), Nat.sub_self] at hq
  simp only [List.getElem?_cons_zero, Option.some.injEq] at hq
  subst hq
  rcases h.row.2 with ⟨h1, _⟩ | ⟨g', c', cur, h1, h2, h3, h4, h5, h6, h7⟩
  · simp only [Value.slice.injEq] at h1
    rw [h1.1] at ha
    cases ha
  · simp only [Value.slice.injEq] at h1
    obtain ⟨e1, _, e3⟩ := h1
    rw [e1] at ha
    simp only [Option.some.injEq, Addr.mk.injEq] at ha
    obtain ⟨rfl, rfl, _⟩ := ha
    simp only [Nat.zero_add] at c0 c1 c2
    refine ⟨g', c, by rw [hv, e1]; simp, h2, hg, by simpa using hc, c0, c1, c2, frozen_of_row w g' _ cur _ h3⟩

theorem Bk.new2 (w : World) (o : Obj) (m : Nat) (c : Array Value) (t : TypeId) : Bk (((w.alloc o).drewN m).alloc (.cells c t)) (w.heap.size + 1) c t := by
  have h := Bk.new ((w.alloc o).drewN m) c t
  rwa [show ((w.alloc o).drewN m).heap.size = w.heap.size + 1 from by simp [World.drewN]] at h

set_option maxRecDepth 100000 in
theorem span_lay (B : Nat) (v : Value) (l : List Sp) (sf st si : Int) (w : World) (hv : Sps w B v l) (hB : B ≤ w.heap.size) (hl : l.length ≤ 2000000000000) (hs : ∀ i q, l = i ++ [q] → -9223372036854775808 ≤ q.to ∧ q.to < 9223372036854775807) :
    Calls Try.prog 47 #[v, .agg #[.int .i64 sf, .int .i64 st, .int .i64 si]] w fun e w' => (∃ v' l', e = .returned v' ∧ Hid (Sps w' B v' l') ∧ Hid (layS l ⟨sf, st, si⟩ l')) ∧ w.grownBy w' v.ownBlock := by
  have HB0 : Hid (Below w.heap.size w (w.alloc (.cells #[.int .i64 sf, .int .i64 st, .int .i64 si] 38))) := below_new _ _
  by_cases h0 : si = 0
  · obtain ⟨a, c, rfl, hlc⟩ := hv.form
    have HV : Hid (Sps w B (.slice a l.length c) l) := hv
    subst h0
    clear hv
    go_enter Try.func47, Try.ntmps47
    go_wp2
    go_ret
    exact ⟨⟨_, l, rfl, HV.out.below (below_new _ _), .inl ⟨rfl, rfl⟩⟩, grown_below HB0.out⟩
  · rcases snocS l with rfl | ⟨i, q, rfl⟩
    · obtain ⟨a, c, rfl, hlc⟩ := hv.form
      have HV : Hid (Sps w B (.slice a 0 c) []) := hv
      clear hv
      go_enter Try.func47, Try.ntmps47
      go_wp2
      go_quiet (fail)
      have HBX : ∀ m o', Hid (Below w.heap.size w (((w.alloc (.cells #[.int .i64 sf, .int .i64 st, .int .i64 si] 38)).drewN m).alloc o')) := fun m o' => (below_drews (below_new w _) m).alloc (by simp [World.drewN]) _
      go_wp2_with (at_builtin; refine wpList_append_sp rfl (.tmp 30) (.tmp 32) rfl B _ [] rfl (HV.out.below (HBX _ _).out) ⟨w.heap.size + 1, 0, none⟩ 1 ⟨sf, st, si⟩ rfl (Sp.told (q := ⟨sf, st, si⟩) (Bk.new2 _ _ _ _ _)) (by simp) (Nat.le_trans hB (HBX _ _).out.size) ?_)
      intro v' w' ho hg
      have HO : Hid (Sps w' B v' [⟨sf, st, si⟩]) := ho
      have HG := grown_after (HBX _ _).out hg
      have HG : Hid (w.grownBy w' _) := HG
      clear ho hg
      go_wp2
      go_ret
      exact ⟨⟨v', _, rfl, HO, .inr (.inr ⟨h0, fun i q e => by simp at e, rfl⟩)⟩, HG.out⟩
    · obtain ⟨g, c, rfl, hBg, hgl, hc, c0, c1, c2, fz⟩ := hv.spot
      have HV : Hid (Sps w B (.slice (some ⟨g, 0, none⟩) (i.length + 1) c) (i ++ [q])) := hv
      have hk : i.length ≤ 2000000000000 := by simp at hl; omega
      obtain ⟨z1, z2⟩ := hs i q rfl
      obtain ⟨k, hki⟩ : ∃ k, k = i.length := ⟨_, rfl⟩
      have HK : Hid (k = i.length) := hki
      rw [← hki] at hc c0 c1 c2 fz HV hk ⊢
      obtain ⟨qf, qt, qi⟩ := q
      simp only at c0 c1 c2 z1 z2
      clear hv hl hs hki
      obtain ⟨W0, HW0⟩ : ∃ W0, Hid (W0 = w.alloc (.cells #[.int .i64 sf, .int .i64 st, .int .i64 si] 38)) := ⟨_, rfl⟩
      have HSK : Hid (∀ w', Below W0.heap.size W0 w' → (w'.cell? ⟨g, k * 3, none⟩ = some (.int .i64 qf) ∧ w'.cell? ⟨g, k * 3 + 1, none⟩ = some (.int .i64 qt) ∧ w'.cell? ⟨g, k * 3 + 2, none⟩ = some (.int .i64 qi) ∧ w'.cell? ⟨w.heap.size, 0, none⟩ = some (.int .i64 sf) ∧ w'.cell? ⟨w.heap.size, 1, none⟩ = some (.int .i64 st) ∧ w'.cell? ⟨w.heap.size, 2, none⟩ = some (.int .i64 si))) := by
        intro w' hb
        rw [HW0.out] at hb
        have k2 := (Bk.new w #[.int .i64 sf, .int .i64 st, .int .i64 si] 38).stay hb
        have hbb := (below_new w _).trans (hb.mono (by simp))
        exact ⟨(hbb.cell (p := ⟨g, k * 3, none⟩) hgl).trans c0, (hbb.cell (p := ⟨g, k * 3 + 1, none⟩) hgl).trans c1, (hbb.cell (p := ⟨g, k * 3 + 2, none⟩) hgl).trans c2, k2.cell 0 rfl, k2.cell 1 rfl, k2.cell 2 rfl⟩
      have HFZ : Hid (∀ w', Below W0.heap.size W0 w' → w'.frozen? ⟨g, k * 3 + 1, none⟩ = false) := by
        intro w' hb
        rw [HW0.out] at hb
        have hbb := (below_new w _).trans (hb.mono (by simp))
        rw [World.frozen?_of_block (a := ⟨g, k * 3 + 1, none⟩) (hbb.block g hgl)]
        exact fz
      have HBW : Hid (Below w.heap.size w W0) := by show Below _ _ _; rw [HW0.out]; exact HB0.out
      have HV0 : Hid (Sps W0 B (.slice (some ⟨g, 0, none⟩) (k + 1) c) (i ++ [⟨qf, qt, qi⟩])) := by show Sps _ _ _ _; rw [HW0.out]; exact HV.out.below (below_new _ _)
      have HGW : Hid (g < W0.heap.size ∧ B ≤ W0.heap.size) := by rw [HW0.out]; constructor <;> simp <;> omega
      clear c0 c1 c2 fz HB0 HV
      have hkk : ((k : Int) + 1 - 1) = k := by omega
      have hk0 : ¬ ((k : Int) < 0) := by omega
      have hk2 : (k : Int) < (k : Int) + 1 := by omega
      go_enter Try.func47, Try.ntmps47
      go_wp2
      rw [← HW0.out]
      have HB : Hid (Below W0.heap.size W0 W0.drew) := (Below.refl _ _).drew
      go_region_held3 (fun w' => w'.cell? ⟨g, k * 3, none⟩ = some (.int .i64 qf) ∧ w'.cell? ⟨g, k * 3 + 1, none⟩ = some (.int .i64 qt) ∧ w'.cell? ⟨g, k * 3 + 2, none⟩ = some (.int .i64 qi) ∧ w'.cell? ⟨w.heap.size, 0, none⟩ = some (.int .i64 sf) ∧ w'.cell? ⟨w.heap.size, 1, none⟩ = some (.int .i64 st) ∧ w'.cell? ⟨w.heap.size, 2, none⟩ = some (.int .i64 si)) (first | exact HSK.out _ HB.out | exact HSK.out _ (Below.refl _ _).drew | exact HSK.out _ (Below.refl _ _) | fail)
        (first | (go_at_call 53; refine (span_goesOn qf qt qi sf st si z1 z2 _).mono ?_; rintro e w3 ⟨rfl, hb3⟩; have HB' : Hid (Below W0.heap.size W0 w3) := HB.out.trans (hb3.mono HB.out.size); clear hb3 HB; have HB := HB'; clear HB'))
      cases hgo : goesB ⟨qf, qt, qi⟩ ⟨sf, st, si⟩ with
      | true =>
        have HGO : Hid (sf = qt + 1 ∧ si = qi) := (goesB_iff _ _).1 hgo
        clear hgo
        have HRES : Hid (Sps (w3.setCell ⟨g, k * 3 + 1, none⟩ (.int .i64 st)) B (.slice (some ⟨g, 0, none⟩) (k + 1) c) (i ++ [⟨qf, st, qi⟩])) := by
          have := (HV0.out.below HB.out).setTo st
          rw [← HK.out] at this
          exact this
        have HBR : Hid (w.grownBy (w3.setCell ⟨g, k * 3 + 1, none⟩ (.int .i64 st)) (some g)) := grown_set (a := ⟨g, k * 3 + 1, none⟩) (HBW.out.trans (HB.out.mono HBW.out.size))
        have fz := HFZ.out w3 HB.out
        go_wp2
        go_ret
        exact ⟨⟨_, _, rfl, HRES, .inr (.inl ⟨h0, i, ⟨qf, qt, qi⟩, rfl, HGO.out.1, HGO.out.2, rfl⟩)⟩, HBR.out⟩
      | false =>
        have HGO : Hid (¬ (sf = qt + 1 ∧ si = qi)) := (goesB_not _ _).1 hgo
        clear hgo
        have HB4 : Hid (Below W0.heap.size W0 (w3.alloc (.cells #[.int .i64 sf, .int .i64 st, .int .i64 si] 38))) := HB.out.alloc HB.out.size _
        have HS4 : Hid (B ≤ (w3.alloc (.cells #[.int .i64 sf, .int .i64 st, .int .i64 si] 38)).heap.size) := Nat.le_trans HGW.out.2 HB4.out.size
        have HV4 : Hid (Sps (w3.alloc (.cells #[.int .i64 sf, .int .i64 st, .int .i64 si] 38)) B (.slice (some ⟨g, 0, none⟩) (k + 1) c) (i ++ [⟨qf, qt, qi⟩])) := HV0.out.below HB4.out
        have HT4 : Hid (∀ j u, (Sp.cells ⟨sf, st, si⟩).toList[j]? = some u → (w3.alloc (.cells #[.int .i64 sf, .int .i64 st, .int .i64 si] 38)).cell? ((⟨w3.heap.size, 0, none⟩ : Addr).add j) = some u) := Sp.told (Bk.new w3 _ _)
        have HL : Hid ((i ++ [(⟨qf, qt, qi⟩ : Sp)]).length ≤ 3000000000000) := by show _ ≤ _; rw [List.length_append, ← HK.out]; simp; omega
        go_wp2_with (at_builtin; refine wpList_append_sp rfl (.tmp 30) (.tmp 32) rfl B (.slice (some ⟨g, 0, none⟩) (k + 1) c) (i ++ [⟨qf, qt, qi⟩]) rfl HV4.out ⟨w3.heap.size, 0, none⟩ 1 ⟨sf, st, si⟩ rfl HT4.out HL.out HS4.out ?_)
        intro v' w' ho hg
        have HO : Hid (Sps w' B v' (i ++ [⟨qf, qt, qi⟩] ++ [⟨sf, st, si⟩])) := by show Sps _ _ _ _; simpa using ho
        have HG : Hid (w.grownBy w' (some g)) := grown_after (HBW.out.trans (HB4.out.mono HBW.out.size)) hg
        clear ho hg
        go_wp2
        go_ret
        exact ⟨⟨v', _, rfl, HO, .inr (.inr ⟨h0, fun j q e => by
          obtain ⟨rfl, e2⟩ := List.append_inj' e rfl
          simp only [List.cons.injEq, and_true] at e2
          subst e2
          exact HGO.out, rfl⟩)⟩, HG.out⟩
end Go.Proofs.Ytidihfhgnjkmaaa
