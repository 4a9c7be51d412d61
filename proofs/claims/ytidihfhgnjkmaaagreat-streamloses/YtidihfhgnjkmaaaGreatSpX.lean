/- A pack of texts: SpLay SpJoin SpOk0 SpHor SpPartM SpPart SpMadeM SpIns SpEdge SpMade SpRefJ SpOk1. -/
import Derived.Test.YtidihfhgnjkmaaaGreatSpY
import Derived.Deep.RegionHeld3
/- span.lay. -/
namespace Go.Proofs.YtidihfhgnjkmaaaGreat
open Go.RowKit

/-- The world has grown by what is new, and by one's own list. -/
theorem Sps.grown {w w' : World} {base : Nat} {v : Value} {l : List Sp} (h : Sps w base v l) (hb : base ≤ w.heap.size) (hg : w.grownBy w' v.ownBlock) : Below base w w' :=
  ⟨hg.os, hg.tape, hg.output, hg.size, fun k hk => hg.block k (by omega) fun e => by have := h.at_ e.symm; omega⟩
theorem grown_after {w w1 w' : World} {row : Option Nat} (hb : Below w.heap.size w w1) (hg : w1.grownBy w' row) : w.grownBy w' row :=
  ⟨hg.os.trans hb.os, hg.tape.trans hb.tape, hg.output.trans hb.output, Nat.le_trans hb.size hg.size, fun k hk hn => (hg.block k (Nat.lt_of_lt_of_le hk hb.size) hn).trans (hb.block k hk)⟩
theorem grown_below {w w' : World} {row : Option Nat} (hb : Below w.heap.size w w') : w.grownBy w' row := ⟨hb.os, hb.tape, hb.output, hb.size, fun k hk _ => hb.block k hk⟩
theorem grown_set {w w' : World} {a : Addr} {v : Value} (hb : Below w.heap.size w w') : w.grownBy (w'.setCell a v) (some a.block) := by
  have h0 : Below 0 w (w'.setCell a v) := (hb.mono (Nat.zero_le _)).setCell (Nat.zero_le _) v
  refine ⟨h0.os, h0.tape, h0.output, h0.size, fun k hk hn => ?_⟩
  rw [heap_setCell_other w' a k v (fun e => hn (by rw [e]))]
  exact hb.block k hk
/-- Where the last span of one's own list lies. -/
theorem Sps.spot {w : World} {base : Nat} {v : Value} {i : List Sp} {q : Sp} (h : Sps w base v (i ++ [q])) : ∃ g c, v = .slice (some ⟨g, 0, none⟩) (i.length + 1) c ∧ base ≤ g ∧ g < w.heap.size ∧ i.length + 1 ≤ c ∧ w.cell? ⟨g, i.length * 3, none⟩ = some (.int .i64 q.fr) ∧ w.cell? ⟨g, i.length * 3 + 1, none⟩ = some (.int .i64 q.to) ∧ w.cell? ⟨g, i.length * 3 + 2, none⟩ = some (.int .i64 q.is) ∧ w.frozen? ⟨g, i.length * 3 + 1, none⟩ = false := by
  obtain ⟨a, c, hv, hc⟩ := h.form
  rw [hv] at h
  have hr := h.rd
  obtain ⟨g, o, ha, hg, q', hq, c0, c1, c2⟩ := hr.at_ i.length (by simp)
  rw [List.getElem?_append_right (Nat.le_refl _), Nat.sub_self] at hq
  simp only [List.getElem?_cons_zero, Option.some.injEq] at hq
  subst hq
  rcases h.row.2 with ⟨h1, _⟩ | ⟨g', c', cur, h1, h2, h3, h4, h5, h6, h7⟩
  · simp only [Value.slice.injEq] at h1
    rw [h1.1] at ha
    cases ha
  · simp only [Value.slice.injEq] at h1
    obtain ⟨e1, _, e3⟩ := h1
    rw [e1] at ha
    simp only [Option.some.injEq, Addr.mk.injEq] at ha
    obtain ⟨rfl, rfl, _⟩ := ha
    simp only [Nat.zero_add] at c0 c1 c2
    refine ⟨g', c, by rw [hv, e1]; simp, h2, hg, by simpa using hc, c0, c1, c2, frozen_of_row w g' _ cur _ h3⟩

theorem Bk.new2 (w : World) (o : Obj) (m : Nat) (c : Array Value) (t : TypeId) : Bk (((w.alloc o).drewN m).alloc (.cells c t)) (w.heap.size + 1) c t := by
  have h := Bk.new ((w.alloc o).drewN m) c t
  rwa [show ((w.alloc o).drewN m).heap.size = w.heap.size + 1 from by simp [World.drewN]] at h

set_option maxRecDepth 100000 in
theorem span_lay (B : Nat) (v : Value) (l : List Sp) (sf st si : Int) (w : World) (hv : Sps w B v l) (hB : B ≤ w.heap.size) (hl : l.length ≤ 2000000000000) (hs : ∀ i q, l = i ++ [q] → -9223372036854775808 ≤ q.to ∧ q.to < 9223372036854775807) :
    Calls Tryz.prog 82 #[v, .agg #[.int .i64 sf, .int .i64 st, .int .i64 si]] w fun e w' => (∃ v' l', e = .returned v' ∧ Hid (Sps w' B v' l') ∧ Hid (layS l ⟨sf, st, si⟩ l')) ∧ w.grownBy w' v.ownBlock := by
  have HB0 : Hid (Below w.heap.size w (w.alloc (.cells #[.int .i64 sf, .int .i64 st, .int .i64 si] 62))) := below_new _ _
  by_cases h0 : si = 0
  · obtain ⟨a, c, rfl, hlc⟩ := hv.form
    have HV : Hid (Sps w B (.slice a l.length c) l) := hv
    subst h0
    clear hv
    go_enter Tryz.func82, Tryz.ntmps82
    go_wp2
    go_ret
    exact ⟨⟨_, l, rfl, HV.out.below (below_new _ _), .inl ⟨rfl, rfl⟩⟩, grown_below HB0.out⟩
  · rcases snocS l with rfl | ⟨i, q, rfl⟩
    · obtain ⟨a, c, rfl, hlc⟩ := hv.form
      have HV : Hid (Sps w B (.slice a 0 c) []) := hv
      clear hv
      go_enter Tryz.func82, Tryz.ntmps82
      go_wp2
      go_quiet (fail)
      have HBX : ∀ m o', Hid (Below w.heap.size w (((w.alloc (.cells #[.int .i64 sf, .int .i64 st, .int .i64 si] 62)).drewN m).alloc o')) := fun m o' => (below_drews (below_new w _) m).alloc (by simp [World.drewN]) _
      go_wp2_with (at_builtin; refine wpList_append_sp rfl (.tmp 30) (.tmp 32) rfl B _ [] rfl (HV.out.below (HBX _ _).out) ⟨w.heap.size + 1, 0, none⟩ 1 ⟨sf, st, si⟩ rfl (Sp.told (q := ⟨sf, st, si⟩) (Bk.new2 _ _ _ _ _)) (by simp) (Nat.le_trans hB (HBX _ _).out.size) ?_)
      intro v' w' ho hg
      have HO : Hid (Sps w' B v' [⟨sf, st, si⟩]) := ho
      have HG := grown_after (HBX _ _).out hg
      have HG : Hid (w.grownBy w' _) := HG
      clear ho hg
      go_wp2
      go_ret
      exact ⟨⟨v', _, rfl, HO, .inr (.inr ⟨h0, fun i q e => by simp at e, rfl⟩)⟩, HG.out⟩
    · obtain ⟨g, c, rfl, hBg, hgl, hc, c0, c1, c2, fz⟩ := hv.spot
      have HV : Hid (Sps w B (.slice (some ⟨g, 0, none⟩) (i.length + 1) c) (i ++ [q])) := hv
      have hk : i.length ≤ 2000000000000 := by simp at hl; omega
      obtain ⟨z1, z2⟩ := hs i q rfl
      obtain ⟨k, hki⟩ : ∃ k, k = i.length := ⟨_, rfl⟩
      have HK : Hid (k = i.length) := hki
      rw [← hki] at hc c0 c1 c2 fz HV hk ⊢
      obtain ⟨qf, qt, qi⟩ := q
      simp only at c0 c1 c2 z1 z2
      clear hv hl hs hki
      obtain ⟨W0, HW0⟩ : ∃ W0, Hid (W0 = w.alloc (.cells #[.int .i64 sf, .int .i64 st, .int .i64 si] 62)) := ⟨_, rfl⟩
      have HSK : Hid (∀ w', Below W0.heap.size W0 w' → (w'.cell? ⟨g, k * 3, none⟩ = some (.int .i64 qf) ∧ w'.cell? ⟨g, k * 3 + 1, none⟩ = some (.int .i64 qt) ∧ w'.cell? ⟨g, k * 3 + 2, none⟩ = some (.int .i64 qi) ∧ w'.cell? ⟨w.heap.size, 0, none⟩ = some (.int .i64 sf) ∧ w'.cell? ⟨w.heap.size, 1, none⟩ = some (.int .i64 st) ∧ w'.cell? ⟨w.heap.size, 2, none⟩ = some (.int .i64 si))) := by
        intro w' hb
        rw [HW0.out] at hb
        have k2 := (Bk.new w #[.int .i64 sf, .int .i64 st, .int .i64 si] 62).stay hb
        have hbb := (below_new w _).trans (hb.mono (by simp))
        exact ⟨(hbb.cell (p := ⟨g, k * 3, none⟩) hgl).trans c0, (hbb.cell (p := ⟨g, k * 3 + 1, none⟩) hgl).trans c1, (hbb.cell (p := ⟨g, k * 3 + 2, none⟩) hgl).trans c2, k2.cell 0 rfl, k2.cell 1 rfl, k2.cell 2 rfl⟩
      have HFZ : Hid (∀ w', Below W0.heap.size W0 w' → w'.frozen? ⟨g, k * 3 + 1, none⟩ = false) := by
        intro w' hb
        rw [HW0.out] at hb
        have hbb := (below_new w _).trans (hb.mono (by simp))
        rw [World.frozen?_of_block (a := ⟨g, k * 3 + 1, none⟩) (hbb.block g hgl)]
        exact fz
      have HBW : Hid (Below w.heap.size w W0) := by show Below _ _ _; rw [HW0.out]; exact HB0.out
      have HV0 : Hid (Sps W0 B (.slice (some ⟨g, 0, none⟩) (k + 1) c) (i ++ [⟨qf, qt, qi⟩])) := by show Sps _ _ _ _; rw [HW0.out]; exact HV.out.below (below_new _ _)
      have HGW : Hid (g < W0.heap.size ∧ B ≤ W0.heap.size) := by rw [HW0.out]; constructor <;> simp <;> omega
      clear c0 c1 c2 fz HB0 HV
      have hkk : ((k : Int) + 1 - 1) = k := by omega
      have hk0 : ¬ ((k : Int) < 0) := by omega
      have hk2 : (k : Int) < (k : Int) + 1 := by omega
      go_enter Tryz.func82, Tryz.ntmps82
      go_wp2
      rw [← HW0.out]
      have HB : Hid (Below W0.heap.size W0 W0.drew) := (Below.refl _ _).drew
      go_region_held3 (fun w' => w'.cell? ⟨g, k * 3, none⟩ = some (.int .i64 qf) ∧ w'.cell? ⟨g, k * 3 + 1, none⟩ = some (.int .i64 qt) ∧ w'.cell? ⟨g, k * 3 + 2, none⟩ = some (.int .i64 qi) ∧ w'.cell? ⟨w.heap.size, 0, none⟩ = some (.int .i64 sf) ∧ w'.cell? ⟨w.heap.size, 1, none⟩ = some (.int .i64 st) ∧ w'.cell? ⟨w.heap.size, 2, none⟩ = some (.int .i64 si)) (first | exact HSK.out _ HB.out | exact HSK.out _ (Below.refl _ _).drew | exact HSK.out _ (Below.refl _ _) | fail)
        (first | (go_at_call 86; refine (span_goesOn qf qt qi sf st si z1 z2 _).mono ?_; rintro e w3 ⟨rfl, hb3⟩; have HB' : Hid (Below W0.heap.size W0 w3) := HB.out.trans (hb3.mono HB.out.size); clear hb3 HB; have HB := HB'; clear HB'))
      cases hgo : goesB ⟨qf, qt, qi⟩ ⟨sf, st, si⟩ with
      | true =>
        have HGO : Hid (sf = qt + 1 ∧ si = qi) := (goesB_iff _ _).1 hgo
        clear hgo
        have HRES : Hid (Sps (w3.setCell ⟨g, k * 3 + 1, none⟩ (.int .i64 st)) B (.slice (some ⟨g, 0, none⟩) (k + 1) c) (i ++ [⟨qf, st, qi⟩])) := by
          have := (HV0.out.below HB.out).setTo st
          rw [← HK.out] at this
          exact this
        have HBR : Hid (w.grownBy (w3.setCell ⟨g, k * 3 + 1, none⟩ (.int .i64 st)) (some g)) := grown_set (a := ⟨g, k * 3 + 1, none⟩) (HBW.out.trans (HB.out.mono HBW.out.size))
        have fz := HFZ.out w3 HB.out
        go_wp2
        go_ret
        exact ⟨⟨_, _, rfl, HRES, .inr (.inl ⟨h0, i, ⟨qf, qt, qi⟩, rfl, HGO.out.1, HGO.out.2, rfl⟩)⟩, HBR.out⟩
      | false =>
        have HGO : Hid (¬ (sf = qt + 1 ∧ si = qi)) := (goesB_not _ _).1 hgo
        clear hgo
        have HB4 : Hid (Below W0.heap.size W0 (w3.alloc (.cells #[.int .i64 sf, .int .i64 st, .int .i64 si] 62))) := HB.out.alloc HB.out.size _
        have HS4 : Hid (B ≤ (w3.alloc (.cells #[.int .i64 sf, .int .i64 st, .int .i64 si] 62)).heap.size) := Nat.le_trans HGW.out.2 HB4.out.size
        have HV4 : Hid (Sps (w3.alloc (.cells #[.int .i64 sf, .int .i64 st, .int .i64 si] 62)) B (.slice (some ⟨g, 0, none⟩) (k + 1) c) (i ++ [⟨qf, qt, qi⟩])) := HV0.out.below HB4.out
        have HT4 : Hid (∀ j u, (Sp.cells ⟨sf, st, si⟩).toList[j]? = some u → (w3.alloc (.cells #[.int .i64 sf, .int .i64 st, .int .i64 si] 62)).cell? ((⟨w3.heap.size, 0, none⟩ : Addr).add j) = some u) := Sp.told (Bk.new w3 _ _)
        have HL : Hid ((i ++ [(⟨qf, qt, qi⟩ : Sp)]).length ≤ 3000000000000) := by show _ ≤ _; rw [List.length_append, ← HK.out]; simp; omega
        go_wp2_with (at_builtin; refine wpList_append_sp rfl (.tmp 30) (.tmp 32) rfl B (.slice (some ⟨g, 0, none⟩) (k + 1) c) (i ++ [⟨qf, qt, qi⟩]) rfl HV4.out ⟨w3.heap.size, 0, none⟩ 1 ⟨sf, st, si⟩ rfl HT4.out HL.out HS4.out ?_)
        intro v' w' ho hg
        have HO : Hid (Sps w' B v' (i ++ [⟨qf, qt, qi⟩] ++ [⟨sf, st, si⟩])) := by show Sps _ _ _ _; simpa using ho
        have HG : Hid (w.grownBy w' (some g)) := grown_after (HBW.out.trans (HB4.out.mono HBW.out.size)) hg
        clear ho hg
        go_wp2
        go_ret
        exact ⟨⟨v', _, rfl, HO, .inr (.inr ⟨h0, fun j q e => by
          obtain ⟨rfl, e2⟩ := List.append_inj' e rfl
          simp only [List.cons.injEq, and_true] at e2
          subst e2
          exact HGO.out, rfl⟩)⟩, HG.out⟩
end Go.Proofs.YtidihfhgnjkmaaaGreat
/- span.Join: the right map in which of each tick the greater one is known. -/
namespace Go.Proofs.YtidihfhgnjkmaaaGreat
open Go.RowKit

theorem RightS_fits : ∀ (l : List Sp) (p : Sp), 0 ≤ p.to → RightS p l → ∀ q ∈ l, 1 ≤ q.fr ∧ q.fr ≤ 1099511627776 ∧ q.fr ≤ q.to ∧ q.to ≤ 1099511627776 ∧ 1 ≤ q.is ∧ q.is ≤ 3
  | [], _, _, _, q, hq => by cases hq
  | s :: l, p, hp, ⟨h1, h2, h3, h4, h5, h6, h7⟩, q, hq => by
    rcases List.mem_cons.1 hq with rfl | hq
    · exact ⟨by omega, by omega, h2, h3, h4, h5⟩
    · exact RightS_fits l s (by omega) h7 q hq
theorem behindS_sub : ∀ (l : List Sp) (t : Int), ∀ q ∈ behindS l t, q ∈ l
  | [], _, _, h => h
  | s :: l, t, q, h => by
    rw [behindS] at h
    split at h
    · exact List.mem_cons_of_mem _ (behindS_sub l t q h)
    · exact h
/-- What a join tells: ErrArg, unless both are right. -/
def JoinTold (w : World) (B : Nat) (a b : List Sp) (e : Ending) : Prop :=
  ((rightB Sp.zr a = false ∨ rightB Sp.zr b = false) ∧ e = .returned (.tuple #[.slice none 0 0, .int .i64 2])) ∨
  (RightS Sp.zr a ∧ RightS Sp.zr b ∧ ∃ v l, e = .returned (.tuple #[v, .int .i64 0]) ∧ Sps w B v l ∧ RightS Sp.zr l ∧ ∀ t, atS l t = max (atS a t) (atS b t))

theorem run_min_i (w : World) (ts : Array TypeId) (t : TypeId) (x y : Int) : (Builtin.min_ ts t #[.int .i64 x, .int .i64 y]).run Tryz.prog w = .ok (.int .i64 (min x y)) w := by
  by_cases h : y < x
  · rw [show min x y = y from by omega]
    simp [Builtin.min_, Builtin.min2, go_sem]
    omega
  · rw [show min x y = x from by omega]
    simp [Builtin.min_, Builtin.min2, go_sem]
    omega
theorem run_max_i (w : World) (ts : Array TypeId) (t : TypeId) (x y : Int) : (Builtin.max_ ts t #[.int .i64 x, .int .i64 y]).run Tryz.prog w = .ok (.int .i64 (max x y)) w := by
  by_cases h : x < y
  · rw [show max x y = y from by omega]
    simp [Builtin.max_, Builtin.max2, go_sem]
    omega
  · rw [show max x y = x from by omega]
    simp [Builtin.max_, Builtin.max2, go_sem]
    omega

set_option maxRecDepth 100000 in
set_option maxHeartbeats 1000000 in
theorem span_Join (a b : Option Addr) (na ca nb cb : Nat) (la lb : List Sp) (w : World) (ha : SpsRd w a na la) (hb : SpsRd w b nb lb) (hca : na ≤ ca) (hcma : ca ≤ maxLen) (hcb : nb ≤ cb) (hcmb : cb ≤ maxLen) :
    Calls Tryz.prog 62 #[.slice a na ca, .slice b nb cb] w fun e w' => Hid (JoinTold w' w.heap.size la lb e) ∧ Below w.heap.size w w' := by
  have HA : Hid (SpsRd w a na la) := ha
  have HBB : Hid (SpsRd w b nb lb) := hb
  have HCA : Hid (na ≤ ca ∧ ca ≤ maxLen) := ⟨hca, hcma⟩
  have HCB : Hid (nb ≤ cb ∧ cb ≤ maxLen) := ⟨hcb, hcmb⟩
  clear ha hb hca hcma hcb hcmb
  go_enter Tryz.func62, Tryz.ntmps62
  go_wp2_with fail
  refine (span_Right a na ca la w HA.out (Nat.le_trans HCA.out.1 HCA.out.2)).mono ?_
  rintro e w1 ⟨rfl, hb1⟩
  have HB1 : Hid (Below w.heap.size w w1) := hb1
  clear hb1
  cases hra : rightB Sp.zr la with
  | false =>
    have HX : Hid (rightB Sp.zr la = false) := hra
    clear hra
    go_wp2
    go_returns
    exact ⟨.inl ⟨.inl HX.out, rfl⟩, HB1.out⟩
  | true =>
    have HXA : Hid (RightS Sp.zr la) := (rightB_iff _ _).1 hra
    clear hra
    go_wp2_with fail
    refine (span_Right b nb cb lb w1 (HBB.out.below HB1.out) (Nat.le_trans HCB.out.1 HCB.out.2)).mono ?_
    rintro e w2 ⟨rfl, hb2⟩
    have HB2 : Hid (Below w.heap.size w w2) := HB1.out.trans (hb2.mono HB1.out.size)
    clear hb2
    cases hrb : rightB Sp.zr lb with
    | false =>
      have HX : Hid (rightB Sp.zr lb = false) := hrb
      clear hrb
      go_wp2
      go_returns
      exact ⟨.inl ⟨.inr HX.out, rfl⟩, HB2.out⟩
    | true =>
      have HXB : Hid (RightS Sp.zr lb) := (rightB_iff _ _).1 hrb
      clear hrb
      go_wp2
      go_loopw [0, 1, 6, 7] (fun t0 t1 t6 t7 wr => ∃ (a' b' : Option Addr) (na' ca' nb' cb' : Nat) (la' lb' out : List Sp) (av : Option Addr) (nv cv : Nat) (t : Int), t0 = .slice a' na' ca' ∧ t1 = .slice b' nb' cb' ∧ t6 = .slice av nv cv ∧ t7 = .int .i64 t ∧
          Hid (JoinS la lb t la' lb' out) ∧ Hid (Sps wr w.heap.size (.slice av nv cv) out) ∧ Hid (SpsRd w a' na' la') ∧ Hid (SpsRd w b' nb' lb') ∧ Hid (na' ≤ ca' ∧ ca' ≤ maxLen) ∧ Hid (nb' ≤ cb' ∧ cb' ≤ maxLen) ∧ Hid ((∀ q ∈ la', q ∈ la) ∧ ∀ q ∈ lb', q ∈ lb) ∧ Hid (Below w.heap.size w wr)) (fun _ _ _ t7 _ => (1099511627777 - intOf t7).toNat)
      case atStart => exact ⟨a, b, na, ca, nb, cb, la, lb, [], none, 0, 0, 1, rfl, rfl, rfl, rfl, JoinS.start HXA.out HXB.out, Sps.nil_ _ _, HA, HBB, HCA, HCB, ⟨fun _ h => h, fun _ h => h⟩, HB2⟩
      case round =>
        obtain ⟨a', b', na', ca', nb', cb', la', lb', out, av, nv, cv, t, rfl, rfl, rfl, rfl, HJ, HV, HRA, HRB, HCA', HCB', HSUB, HB⟩ := hrel
        have hlo := HJ.out.lo
        have hhi := HJ.out.hi
        by_cases ht : t ≤ 1099511627776
        · go_wp2_with fail
          refine (span_behind a' na' ca' la' t wr w (HRA.out.below HB.out) HRA.out HCA'.out.1 HCA'.out.2).mono ?_
          rintro e w3 ⟨⟨a2, na2, ca2, rfl, HRA2, HRA3, HCA2⟩, rfl⟩
          go_wp2_with fail
          refine (span_behind b' nb' cb' lb' t w3 w (HRB.out.below HB.out) HRB.out HCB'.out.1 HCB'.out.2).mono ?_
          rintro e w4 ⟨⟨b2, nb2, cb2, rfl, HRB2, HRB3, HCB2⟩, rfl⟩
          go_wp2_with fail
          refine (span_run a2 na2 ca2 (behindS la' t) t w4 HRA2.out (Nat.le_trans HCA2.out.1 HCA2.out.2) (fun q hq => by have := RightS_fits la Sp.zr (by decide) HXA.out q (HSUB.out.1 q (behindS_sub _ _ q hq)); exact ⟨this.1, this.2.1⟩)).mono ?_
          rintro e w5 ⟨⟨⟨raf, rat, rai⟩, rfl, HRUA⟩, hb5⟩
          simp only
          have HB5 : Hid (Below w4.heap.size w4 w5) := hb5
          clear hb5
          go_wp2_with fail
          refine (span_run b2 nb2 cb2 (behindS lb' t) t w5 (HRB2.out.below HB5.out) (Nat.le_trans HCB2.out.1 HCB2.out.2) (fun q hq => by have := RightS_fits lb Sp.zr (by decide) HXB.out q (HSUB.out.2 q (behindS_sub _ _ q hq)); exact ⟨this.1, this.2.1⟩)).mono ?_
          rintro e w6 ⟨⟨⟨rbf, rbt, rbi⟩, rfl, HRUB⟩, hb6⟩
          simp only
          obtain ⟨mn, HMN⟩ : ∃ m, Hid (m = min rat rbt) := ⟨_, rfl⟩
          obtain ⟨mx, HMX⟩ : ∃ m, Hid (m = max rai rbi) := ⟨_, rfl⟩
          have r1 : ∀ w', (Builtin.min_ #[3, 3] 3 #[.int .i64 rat, .int .i64 rbt]).run Tryz.prog w' = .ok (.int .i64 mn) w' := fun w' => by rw [HMN.out]; exact run_min_i _ _ _ _ _
          have r2 : ∀ w', (Builtin.max_ #[60, 60] 60 #[.int .i64 rai, .int .i64 rbi]).run Tryz.prog w' = .ok (.int .i64 mx) w' := fun w' => by rw [HMX.out]; exact run_max_i _ _ _ _ _
          have HS : Hid ((⟨t, mn, mx⟩ : Sp) = bothS (behindS la' t) (behindS lb' t) t) := by
            show _ = _
            rw [HMN.out, HMX.out, bothS, ← HRUA.out, ← HRUB.out]
          have HB6 : Hid (Below w4.heap.size w4 w6) := HB5.out.trans (hb6.mono HB5.out.size)
          clear hb6
          have HX9 : ∀ c1 c2 c3, Hid (Below w4.heap.size w4 (((w6.alloc (.cells c1 62)).alloc (.cells c2 62)).alloc (.cells c3 62))) := fun c1 c2 c3 => ((HB6.out.alloc HB6.out.size _).alloc (by have := HB6.out.size; simp; omega) _).alloc (by have := HB6.out.size; simp; omega) _
          have HLN : Hid (out.length ≤ 2000000000000) := by
            show _ ≤ _
            have h1 := RightS_len out Sp.zr HJ.out.ro
            by_cases h0 : out = []
            · rw [h0]; simp
            · have h2 := h1.2 h0
              have h3 := h1.1
              simp only [Sp.zr] at h2 h3
              omega
          have HLT : Hid (∀ i q, out = i ++ [q] → -9223372036854775808 ≤ q.to ∧ q.to < 9223372036854775807) := by
            intro i q e
            have := RightS_fits out Sp.zr (by decide) HJ.out.ro q (by rw [e]; simp)
            omega
          go_wp2_with fail
          refine (span_lay w.heap.size (.slice av nv cv) out t mn mx _ (HV.out.below (HX9 _ _ _).out) (Nat.le_trans HB.out.size (HX9 _ _ _).out.size) HLN.out HLT.out).mono ?_
          rintro e w7 ⟨⟨v', out', rfl, HV', HLAY⟩, hb7⟩
          have HN7 : Hid (Bk w7 (w6.heap.size + 1 + 1) #[.int .i64 t, .int .i64 mn, .int .i64 mx] 62) := by
            have hnew := Bk.new ((w6.alloc (.cells #[.int .i64 t, .int .i64 rat, .int .i64 rai] 62)).alloc (.cells #[.int .i64 t, .int .i64 rbt, .int .i64 rbi] 62)) #[.int .i64 t, .int .i64 mn, .int .i64 mx] 62
            have hz : ((w6.alloc (.cells #[.int .i64 t, .int .i64 rat, .int .i64 rai] 62)).alloc (.cells #[.int .i64 t, .int .i64 rbt, .int .i64 rbi] 62)).heap.size = w6.heap.size + 1 + 1 := by simp
            rw [hz] at hnew
            refine hnew.grown hb7 (fun e => ?_)
            have h1 := (HV.out.row.lt _ e.symm).2
            have h2 := HB6.out.size
            omega
          have HB7 : Hid (Below w.heap.size w w7) := (HB.out.trans ((HX9 _ _ _).out.mono HB.out.size)).trans ((HV.out.below (HX9 _ _ _).out).grown (Nat.le_trans HB.out.size (HX9 _ _ _).out.size) hb7)
          clear hb7 HX9
          have d1 : w7.cell? ⟨w6.heap.size + 1 + 1, 1, none⟩ = some (.int .i64 mn) := HN7.out.cell 1 rfl
          obtain ⟨HJ', hj1, hj2⟩ := HJ.out.step ht (by rw [← HS.out]; exact HLAY.out)
          rw [← HS.out] at HJ' hj1 hj2
          simp only at HJ' hj1 hj2
          have HJ2 : Hid (JoinS la lb (mn + 1) (behindS la' t) (behindS lb' t) out') := HJ'
          obtain ⟨av', cv', rfl, _⟩ := HV'.out.form
          have HSUB2 : Hid ((∀ q ∈ behindS la' t, q ∈ la) ∧ ∀ q ∈ behindS lb' t, q ∈ lb) := ⟨fun q hq => HSUB.out.1 q (behindS_sub _ _ q hq), fun q hq => HSUB.out.2 q (behindS_sub _ _ q hq)⟩
          clear HJ' HJ HLAY HS r1 r2 HMN HMX HSUB
          go_wp2
          go_roundw
          case rel => exact ⟨a2, b2, na2, ca2, nb2, cb2, _, _, out', av', _, cv', mn + 1, rfl, rfl, rfl, by go_num, HJ2, HV', HRA3, HRB3, HCA2, HCB2, HSUB2, HB7⟩
          case measure => simp [intOf]; omega
        · go_wp2
          go_returns
          obtain ⟨z1, z2⟩ := HJ.out.done (by omega) HXA.out HXB.out
          exact ⟨.inr ⟨HXA.out, HXB.out, .slice av nv cv, out, rfl, HV.out, z1, z2⟩, HB.out⟩
end Go.Proofs.YtidihfhgnjkmaaaGreat
/- Right maps in memory, and their join. -/
namespace Go.Proofs.YtidihfhgnjkmaaaGreat
open Go.RowKit

/-- A right map. -/
structure MapOk (w : World) (a : Option Addr) (n c : Nat) (l : List Sp) : Prop where
  rd : SpsRd w a n l
  lc : n ≤ c
  cm : c ≤ maxLen
  right : RightS Sp.zr l
theorem MapOk.below {w w' : World} {a : Option Addr} {n c : Nat} {l : List Sp} (h : MapOk w a n c l) (hb : Below w.heap.size w w') : MapOk w' a n c l := ⟨h.rd.below hb, h.lc, h.cm, h.right⟩
theorem MapOk.len {w : World} {a : Option Addr} {n c : Nat} {l : List Sp} (h : MapOk w a n c l) : n ≤ maxLen := Nat.le_trans h.lc h.cm
theorem Sps.big {w : World} {B : Nat} {a : Option Addr} {n c : Nat} {l : List Sp} (h : Sps w B (.slice a n c) l) : n ≤ c ∧ c ≤ maxLen := by
  rcases h.row.2 with ⟨h1, _⟩ | ⟨g', c', cur, h1, _, _, h4, h5, _⟩
  · simp only [Value.slice.injEq] at h1
    obtain ⟨_, rfl, rfl⟩ := h1
    exact ⟨Nat.le_refl _, Nat.zero_le _⟩
  · simp only [Value.slice.injEq] at h1
    obtain ⟨_, rfl, rfl⟩ := h1
    exact ⟨h4, h5⟩
theorem Sps.ok {w : World} {B : Nat} {v : Value} {l : List Sp} (h : Sps w B v l) (hr : RightS Sp.zr l) : ∃ a n c, v = .slice a n c ∧ MapOk w a n c l := by
  obtain ⟨a, c, rfl, _⟩ := h.form
  exact ⟨a, l.length, c, rfl, h.rd, h.big.1, h.big.2, hr⟩
theorem span_Join_ok {a b : Option Addr} {na ca nb cb : Nat} {la lb : List Sp} {w : World} (ha : MapOk w a na ca la) (hb : MapOk w b nb cb lb) :
    Calls Tryz.prog 62 #[.slice a na ca, .slice b nb cb] w fun e w' => (∃ av nv cv l, e = .returned (.tuple #[.slice av nv cv, .int .i64 0]) ∧ Hid (MapOk w' av nv cv l) ∧ Hid (∀ t, atS l t = max (atS la t) (atS lb t))) ∧ Below w.heap.size w w' := by
  refine (span_Join a b na ca nb cb la lb w ha.rd hb.rd ha.lc ha.cm hb.lc hb.cm).mono ?_
  rintro e w1 ⟨hj, hb1⟩
  refine ⟨?_, hb1⟩
  rcases hj.out with ⟨hbad, _⟩ | ⟨_, _, v, l, rfl, hv, hr, ht⟩
  · exfalso
    have h1 := (rightB_iff _ _).2 ha.right
    have h2 := (rightB_iff _ _).2 hb.right
    rcases hbad with h | h
    · rw [h1] at h; cases h
    · rw [h2] at h; cases h
  · obtain ⟨av, nv, cv, rfl, hm⟩ := hv.ok hr
    exact ⟨av, nv, cv, l, rfl, hm, ht⟩
/-- The join, in a row of its own. -/
theorem span_Join_new {a b : Option Addr} {na ca nb cb : Nat} {la lb : List Sp} {w : World} (ha : MapOk w a na ca la) (hb : MapOk w b nb cb lb) :
    Calls Tryz.prog 62 #[.slice a na ca, .slice b nb cb] w fun e w' => (∃ av nv cv l, e = .returned (.tuple #[.slice av nv cv, .int .i64 0]) ∧ Hid (MapOk w' av nv cv l) ∧ Hid (∀ ad, av = some ad → w.heap.size ≤ ad.block ∧ ad.block < w'.heap.size) ∧ Hid (∀ t, atS l t = max (atS la t) (atS lb t))) ∧ Below w.heap.size w w' := by
  refine (span_Join a b na ca nb cb la lb w ha.rd hb.rd ha.lc ha.cm hb.lc hb.cm).mono ?_
  rintro e w1 ⟨hj, hb1⟩
  refine ⟨?_, hb1⟩
  rcases hj.out with ⟨hbad, _⟩ | ⟨_, _, v, l, rfl, hv, hr, ht⟩
  · exfalso
    have h1 := (rightB_iff _ _).2 ha.right
    have h2 := (rightB_iff _ _).2 hb.right
    rcases hbad with h | h
    · rw [h1] at h; cases h
    · rw [h2] at h; cases h
  · obtain ⟨av, nv, cv, rfl, hm⟩ := hv.ok hr
    refine ⟨av, nv, cv, l, rfl, hm, fun ad had => ?_, ht⟩
    subst had
    rcases hv.row.2 with ⟨h1, _⟩ | ⟨g', c', cur, h1, h2, h3, _⟩
    · simp at h1
    · simp only [Value.slice.injEq, Option.some.injEq] at h1
      rw [h1.1]
      exact ⟨h2, (Array.getElem?_eq_some_iff.1 h3).1⟩
end Go.Proofs.YtidihfhgnjkmaaaGreat
/- span.mayBe, span.Horizon, and what the laws ask first. -/
namespace Go.Proofs.YtidihfhgnjkmaaaGreat
open Go.RowKit

def mayB (f t : Int) : Bool := decide (1 ≤ f ∧ f ≤ t ∧ t ≤ 1099511627776)
theorem mayB_iff (f t : Int) : mayB f t = true ↔ 1 ≤ f ∧ f ≤ t ∧ t ≤ 1099511627776 := by simp [mayB]
theorem mayB_not (f t : Int) : mayB f t = false ↔ ¬ (1 ≤ f ∧ f ≤ t ∧ t ≤ 1099511627776) := by simp [mayB]
theorem span_mayBe (f t : Int) (w : World) : Calls Tryz.prog 78 #[.int .i64 f, .int .i64 t] w fun e w' => e = .returned (.bool (mayB f t)) ∧ w' = w := by
  go_enter Tryz.func78, Tryz.ntmps78
  by_cases h1 : 1 ≤ f
  · by_cases h2 : f ≤ t
    · by_cases h3 : t ≤ 1099511627776
      · have HK : Hid (mayB f t = true) := (mayB_iff _ _).2 ⟨h1, h2, h3⟩
        go_wp2
        go_ret
        exact ⟨by rw [HK.out]; rfl, rfl⟩
      · have HK : Hid (mayB f t = false) := (mayB_not _ _).2 (by omega)
        go_wp2
        go_ret
        exact ⟨by rw [HK.out]; rfl, rfl⟩
    · have HK : Hid (mayB f t = false) := (mayB_not _ _).2 (by omega)
      go_wp2
      go_ret
      exact ⟨by rw [HK.out]; rfl, rfl⟩
  · have HK : Hid (mayB f t = false) := (mayB_not _ _).2 (by omega)
    go_wp2
    go_ret
    exact ⟨by rw [HK.out]; rfl, rfl⟩

/-- The tick behind those that are known, from one on. -/
def horS : List Sp → Int → Int
  | [], n => n
  | s :: l, n => if n < s.fr then n else horS l (s.to + 1)
def horB (l : List Sp) (f : Int) : Bool := rightB Sp.zr l && mayB f 1099511627776
def horN (l : List Sp) (f : Int) : Int := if horB l f = true then horS (behindS l f) f - 1 else 0
def horE (l : List Sp) (f : Int) : Int := if horB l f = true then 0 else 2
theorem hor_bad {l : List Sp} {f : Int} (h : horB l f = false) : horN l f = 0 ∧ horE l f = 2 := by
  unfold horN horE
  rw [h]
  exact ⟨rfl, rfl⟩
theorem hor_ok {l : List Sp} {f : Int} (h : horB l f = true) : horN l f = horS (behindS l f) f - 1 ∧ horE l f = 0 := by
  unfold horN horE
  rw [h]
  exact ⟨rfl, rfl⟩

theorem live_math {l : List Sp} (h : RightS Sp.zr l) (ha : ∀ t, atS l t = max (atS [⟨1, 5, 1⟩] t) (atS [⟨3, 9, 2⟩] t)) : l = [⟨1, 2, 1⟩, ⟨3, 9, 2⟩] := by
  refine canonS _ _ Sp.zr Sp.zr h (by simp [RightS, Sp.zr]) fun t => ?_
  rw [ha t]
  simp only [atS]
  (repeat' split) <;> omega
theorem live_hor : horN [⟨1, 2, 1⟩, ⟨3, 9, 2⟩] 1 = 9 ∧ horE [⟨1, 2, 1⟩, ⟨3, 9, 2⟩] 1 = 0 := by decide

theorem Bk.second (w : World) (o : Obj) (c : Array Value) (t : TypeId) : Bk ((w.alloc o).alloc (.cells c t)) (w.heap.size + 1) c t := by
  have h := Bk.new (w.alloc o) c t
  rwa [show (w.alloc o).heap.size = w.heap.size + 1 from by simp] at h

end Go.Proofs.YtidihfhgnjkmaaaGreat
/- What lies in a range, what lies outside it, what is not known: as lists. -/
namespace Go.Proofs.YtidihfhgnjkmaaaGreat

def partS (s : Sp) (f t : Int) : List Sp := if min s.to t < max s.fr f then [] else [⟨max s.fr f, min s.to t, s.is⟩]
theorem partS_none {s : Sp} {f t : Int} (h : min s.to t < max s.fr f) : partS s f t = [] := if_pos h
theorem partS_some {s : Sp} {f t : Int} (h : ¬ min s.to t < max s.fr f) : partS s f t = [⟨max s.fr f, min s.to t, s.is⟩] := if_neg h
def keepS : List Sp → Int → Int → List Sp
  | [], _, _ => []
  | s :: l, f, t => partS s f t ++ keepS l f t
def forgetS : List Sp → Int → Int → List Sp
  | [], _, _ => []
  | s :: l, f, t => partS s 1 (f - 1) ++ (partS s (t + 1) 1099511627776 ++ forgetS l f t)
def gapsS : Int → List Sp → Int → Int → List Sp
  | z, [], f, t => partS ⟨z, 1099511627776, 0⟩ f t
  | z, s :: l, f, t => partS ⟨z, s.fr - 1, 0⟩ f t ++ gapsS (s.to + 1) l f t

theorem keep_right : ∀ (l : List Sp) (p p' : Sp) (f t : Int), RightS p l → p'.to ≤ p.to → (p'.to = p.to → p'.is = p.is) → RightS p' (keepS l f t)
  | [], _, _, _, _, _, _, _ => trivial
  | s :: l, p, p', f, t, ⟨h1, h2, h3, h4, h5, h6, h7⟩, a, b => by
    rw [keepS]
    by_cases h : min s.to t < max s.fr f
    · rw [partS_none h]
      exact keep_right l s p' f t h7 (by omega) (fun e => by omega)
    · rw [partS_some h]
      refine ⟨by simp only; omega, by simp only; omega, by simp only; omega, h4, h5, ?_, keep_right l s _ f t h7 (by simp only; omega) (fun _ => rfl)⟩
      rintro ⟨e1, e2⟩
      simp only at e1 e2
      have : p'.to = p.to := by omega
      exact h6 ⟨by omega, by rw [e2, b this]⟩
theorem keep_at : ∀ (l : List Sp) (f t u : Int), atS (keepS l f t) u = if f ≤ u ∧ u ≤ t then atS l u else 0
  | [], f, t, u => by simp [keepS, atS]
  | s :: l, f, t, u => by
    rw [keepS]
    by_cases h : min s.to t < max s.fr f
    · rw [partS_none h, List.nil_append, keep_at l f t u, atS]
      split <;> rename_i h1
      · rw [if_neg (by omega)]
      · rfl
    · rw [partS_some h, List.cons_append, List.nil_append, atS, keep_at l f t u, atS]
      simp only
      by_cases h1 : f ≤ u ∧ u ≤ t
      · rw [if_pos h1, if_pos h1]
        by_cases h2 : s.fr ≤ u ∧ u ≤ s.to
        · rw [if_pos h2, if_pos (by omega)]
        · rw [if_neg h2, if_neg (by omega)]
      · rw [if_neg h1, if_neg h1, if_neg (by omega)]
theorem forget_right : ∀ (l : List Sp) (p p' : Sp) (f t : Int), f ≤ t → RightS p l → p'.to ≤ p.to → (p'.to = p.to → p'.is = p.is) → RightS p' (forgetS l f t)
  | [], _, _, _, _, _, _, _, _ => trivial
  | s :: l, p, p', f, t, hft, ⟨h1, h2, h3, h4, h5, h6, h7⟩, a, b => by
    rw [forgetS]
    by_cases h : min s.to (f - 1) < max s.fr 1
    · rw [partS_none h, List.nil_append]
      by_cases h' : min s.to 1099511627776 < max s.fr (t + 1)
      · rw [partS_none h', List.nil_append]
        exact forget_right l s p' f t hft h7 (by omega) (fun e => by omega)
      · rw [partS_some h', List.cons_append, List.nil_append]
        refine ⟨by simp only; omega, by simp only; omega, by simp only; omega, h4, h5, ?_, forget_right l s _ f t hft h7 (by simp only; omega) (fun _ => rfl)⟩
        rintro ⟨e1, e2⟩
        simp only at e1 e2
        have : p'.to = p.to := by omega
        exact h6 ⟨by omega, by rw [e2, b this]⟩
    · rw [partS_some h, List.cons_append, List.nil_append]
      refine ⟨by simp only; omega, by simp only; omega, by simp only; omega, h4, h5, ?_, ?_⟩
      · rintro ⟨e1, e2⟩
        simp only at e1 e2
        have : p'.to = p.to := by omega
        exact h6 ⟨by omega, by rw [e2, b this]⟩
      · by_cases h' : min s.to 1099511627776 < max s.fr (t + 1)
        · rw [partS_none h', List.nil_append]
          exact forget_right l s _ f t hft h7 (by simp only; omega) (fun _ => rfl)
        · rw [partS_some h', List.cons_append, List.nil_append]
          refine ⟨by simp only; omega, by simp only; omega, by simp only; omega, h4, h5, ?_, forget_right l s _ f t hft h7 (by simp only; omega) (fun _ => rfl)⟩
          rintro ⟨e1, e2⟩
          simp only at e1
          omega
theorem forget_at : ∀ (l : List Sp) (p : Sp) (f t u : Int), f ≤ t → 0 ≤ p.to → RightS p l → atS (forgetS l f t) u = if f ≤ u ∧ u ≤ t then 0 else atS l u
  | [], _, f, t, u, _, _, _ => by simp [forgetS, atS]
  | s :: l, p, f, t, u, hft, hp, ⟨h1, h2, h3, h4, h5, h6, h7⟩ => by
    have ih := forget_at l s f t u hft (by omega) h7
    rw [forgetS]
    by_cases hin : s.fr ≤ u ∧ u ≤ s.to
    · have hlow : atS l u = 0 := atS_low h7 (by omega)
      rw [hlow] at ih
      have ih0 : atS (forgetS l f t) u = 0 := by rw [ih]; split <;> rfl
      have e : atS (s :: l) u = s.is := by rw [atS, if_pos hin]
      rw [e]
      by_cases h : min s.to (f - 1) < max s.fr 1
      · rw [partS_none h, List.nil_append]
        by_cases h' : min s.to 1099511627776 < max s.fr (t + 1)
        · rw [partS_none h', List.nil_append, ih0, if_pos (by omega)]
        · rw [partS_some h', List.cons_append, List.nil_append, atS, ih0]
          simp only
          by_cases h9 : f ≤ u ∧ u ≤ t
          · rw [if_pos h9, if_neg (by omega)]
          · rw [if_neg h9, if_pos (by omega)]
      · rw [partS_some h, List.cons_append, List.nil_append, atS]
        simp only
        by_cases h8 : max s.fr 1 ≤ u ∧ u ≤ min s.to (f - 1)
        · rw [if_pos h8, if_neg (by omega)]
        · rw [if_neg h8]
          by_cases h' : min s.to 1099511627776 < max s.fr (t + 1)
          · rw [partS_none h', List.nil_append, ih0, if_pos (by omega)]
          · rw [partS_some h', List.cons_append, List.nil_append, atS, ih0]
            simp only
            by_cases h9 : f ≤ u ∧ u ≤ t
            · rw [if_pos h9, if_neg (by omega)]
            · rw [if_neg h9, if_pos (by omega)]
    · have e : atS (s :: l) u = atS l u := by rw [atS, if_neg hin]
      rw [e, ← ih]
      by_cases h : min s.to (f - 1) < max s.fr 1
      · rw [partS_none h, List.nil_append]
        by_cases h' : min s.to 1099511627776 < max s.fr (t + 1)
        · rw [partS_none h', List.nil_append]
        · rw [partS_some h', List.cons_append, List.nil_append, atS, if_neg (by simp only; omega)]
      · rw [partS_some h, List.cons_append, List.nil_append, atS, if_neg (by simp only; omega)]
        by_cases h' : min s.to 1099511627776 < max s.fr (t + 1)
        · rw [partS_none h', List.nil_append]
        · rw [partS_some h', List.cons_append, List.nil_append, atS, if_neg (by simp only; omega)]
theorem count_append : ∀ (l m : List Sp) (x : Int), countS (l ++ m) x = countS l x + countS m x
  | [], m, x => by simp [countS]
  | s :: l, m, x => by rw [List.cons_append, countS, countS, count_append l m x]; omega
theorem count_part (s : Sp) (f t x : Int) : countS (partS s f t) x = if s.is = x ∧ ¬ min s.to t < max s.fr f then min s.to t - max s.fr f + 1 else 0 := by
  by_cases h : min s.to t < max s.fr f
  · rw [partS_none h, if_neg (fun hh => hh.2 h)]; rfl
  · rw [partS_some h, countS, countS]
    simp only
    by_cases hx : s.is = x
    · rw [if_pos hx, if_pos ⟨hx, h⟩]; omega
    · rw [if_neg hx, if_neg (fun hh => hx hh.1)]; omega
theorem count_parts : ∀ (l : List Sp) (p : Sp) (f t x : Int), 1 ≤ f → f ≤ t → t ≤ 1099511627776 → 0 ≤ p.to → RightS p l → countS (keepS l f t) x + countS (forgetS l f t) x = countS l x
  | [], _, _, _, _, _, _, _, _, _ => by simp [keepS, forgetS, countS]
  | s :: l, p, f, t, x, hf, hft, ht, hp, ⟨h1, h2, h3, h4, h5, h6, h7⟩ => by
    have ih := count_parts l s f t x hf hft ht (by omega) h7
    rw [keepS, forgetS, count_append, count_append, count_append, count_part, count_part, count_part, countS]
    by_cases hx : s.is = x
    · rw [if_pos hx]
      simp only [hx, true_and]
      split <;> split <;> split <;> omega
    · rw [if_neg hx]
      simp only [hx, false_and, if_false]
      omega
theorem count_bound : ∀ (l : List Sp) (p : Sp) (x : Int), p.to ≤ 1099511627776 → RightS p l → 0 ≤ countS l x ∧ countS l x ≤ 1099511627776 - p.to
  | [], _, _, h, _ => by simp only [countS]; omega
  | s :: l, p, x, _, ⟨h1, h2, h3, h4, h5, h6, h7⟩ => by
    have ih := count_bound l s x h3 h7
    rw [countS]
    split <;> omega

/-- What gaps are: not known at both ends, and known just ahead of all but the first. -/
def GapsT (l0 : List Sp) : List Sp → Prop
  | [] => True
  | g :: r => (atS l0 g.fr = 0 ∧ atS l0 g.to = 0 ∧ 1 ≤ g.fr ∧ g.fr ≤ 1099511627776) ∧ atS l0 (g.fr - 1) ≠ 0 ∧ GapsT l0 r
def GapsF (l0 : List Sp) : List Sp → Prop
  | [] => True
  | g :: r => (atS l0 g.fr = 0 ∧ atS l0 g.to = 0 ∧ 1 ≤ g.fr ∧ g.fr ≤ 1099511627776) ∧ GapsT l0 r
theorem gaps_T (l0 : List Sp) (f : Int) : ∀ (l : List Sp) (p : Sp), RightS p l → 1 ≤ f → f ≤ p.to → atS l0 p.to ≠ 0 → (∀ u, p.to < u → atS l0 u = atS l u) → GapsT l0 (gapsS (p.to + 1) l f 1099511627776)
  | [], p, _, h1f, hf, hk, hu => by
    rw [gapsS]
    by_cases h : min (1099511627776 : Int) 1099511627776 < max (p.to + 1) f
    · rw [partS_none (by simpa using h)]; trivial
    · rw [partS_some (by simpa using h)]
      simp only
      refine ⟨⟨?_, ?_, by simp only; omega, by simp only; omega⟩, ?_, trivial⟩
      · simp only; rw [hu _ (by omega)]; rfl
      · simp only; rw [hu _ (by omega)]; rfl
      · simp only; rw [show max (p.to + 1) f - 1 = p.to from by omega]; exact hk
  | s :: l, p, ⟨h1, h2, h3, h4, h5, h6, h7⟩, h1f, hf, hk, hu => by
    have ht : GapsT l0 (gapsS (s.to + 1) l f 1099511627776) := gaps_T l0 f l s h7 h1f (by omega) (by rw [hu _ (by omega), atS, if_pos (by omega)]; omega) (fun u hh => by rw [hu u (by omega), atS, if_neg (by omega)])
    rw [gapsS]
    by_cases h : min (s.fr - 1) 1099511627776 < max (p.to + 1) f
    · rw [partS_none (by simpa using h)]; exact ht
    · rw [partS_some (by simpa using h)]
      simp only
      refine ⟨⟨?_, ?_, by simp only; omega, by simp only; omega⟩, ?_, ht⟩
      · simp only; rw [hu _ (by omega), atS, if_neg (by omega), atS_low h7 (by omega)]
      · simp only; rw [hu _ (by omega), atS, if_neg (by omega), atS_low h7 (by omega)]
      · simp only; rw [show max (p.to + 1) f - 1 = p.to from by omega]; exact hk
theorem gaps_F (l0 : List Sp) (f : Int) (hf1 : 1 ≤ f) (hf2 : f ≤ 1099511627776) : ∀ (l : List Sp) (p : Sp), RightS p l → 0 ≤ p.to → (∀ u, p.to < u → atS l0 u = atS l u) → GapsF l0 (gapsS (p.to + 1) l f 1099511627776)
  | [], p, _, hp, hu => by
    rw [gapsS]
    by_cases h : min (1099511627776 : Int) 1099511627776 < max (p.to + 1) f
    · rw [partS_none (by simpa using h)]; trivial
    · rw [partS_some (by simpa using h)]
      simp only
      refine ⟨⟨?_, ?_, by simp only; omega, by simp only; omega⟩, trivial⟩
      · simp only; rw [hu _ (by omega)]; rfl
      · simp only; rw [hu _ (by omega)]; rfl
  | s :: l, p, ⟨h1, h2, h3, h4, h5, h6, h7⟩, hp, hu => by
    have hs : ∀ u, s.to < u → atS l0 u = atS l u := fun u hh => by rw [hu u (by omega), atS, if_neg (by omega)]
    rw [gapsS]
    by_cases h : min (s.fr - 1) 1099511627776 < max (p.to + 1) f
    · rw [partS_none (by simpa using h)]
      exact gaps_F l0 f hf1 hf2 l s h7 (by omega) hs
    · rw [partS_some (by simpa using h)]
      simp only
      refine ⟨⟨?_, ?_, by simp only; omega, by simp only; omega⟩, gaps_T l0 f l s h7 hf1 (by omega) (by rw [hu _ (by omega), atS, if_pos (by omega)]; omega) hs⟩
      · simp only; rw [hu _ (by omega), atS, if_neg (by omega), atS_low h7 (by omega)]
      · simp only; rw [hu _ (by omega), atS, if_neg (by omega), atS_low h7 (by omega)]
/-- The tick of the first gap, or the one behind all. -/
def firstS : List Sp → Int
  | [] => 1099511627777
  | g :: _ => g.fr
theorem first_A (f : Int) : ∀ (l : List Sp) (p : Sp), RightS p l → f ≤ p.to + 1 → p.to ≤ 1099511627776 → horS l (p.to + 1) = firstS (gapsS (p.to + 1) l f 1099511627776)
  | [], p, _, hf, hm => by
    rw [gapsS, horS]
    by_cases h : min (1099511627776 : Int) 1099511627776 < max (p.to + 1) f
    · rw [partS_none (by simpa using h), firstS]; omega
    · rw [partS_some (by simpa using h), firstS]; simp only; omega
  | s :: l, p, ⟨h1, h2, h3, h4, h5, h6, h7⟩, hf, hm => by
    rw [gapsS, horS]
    by_cases h : min (s.fr - 1) 1099511627776 < max (p.to + 1) f
    · rw [partS_none (by simpa using h), List.nil_append, if_neg (by omega), first_A f l s h7 (by omega) h3]
    · rw [partS_some (by simpa using h), List.cons_append, firstS, if_pos (by omega)]; simp only; omega
theorem first_B (f : Int) (hf2 : f ≤ 1099511627776) : ∀ (l : List Sp) (p : Sp), RightS p l → p.to < f → horS (behindS l f) f = firstS (gapsS (p.to + 1) l f 1099511627776)
  | [], p, _, hf => by
    rw [gapsS, behindS, horS, partS_some (by simp only; omega), firstS]
    simp only; omega
  | s :: l, p, ⟨h1, h2, h3, h4, h5, h6, h7⟩, hf => by
    rw [gapsS, behindS]
    by_cases hs : s.to < f
    · rw [if_pos hs, partS_none (by simp only; omega), List.nil_append]
      exact first_B f hf2 l s h7 hs
    · rw [if_neg hs, horS]
      by_cases hh : f < s.fr
      · rw [if_pos hh, partS_some (by simp only; omega), List.cons_append, firstS]; simp only; omega
      · rw [if_neg hh, partS_none (by simp only; omega), List.nil_append]
        exact first_A f l s h7 (by omega) h3
end Go.Proofs.YtidihfhgnjkmaaaGreat
/- span.layPart, span.Keep, span.Forget, span.Gaps. -/
namespace Go.Proofs.YtidihfhgnjkmaaaGreat
open Go.RowKit

set_option maxRecDepth 100000 in
set_option maxHeartbeats 1000000 in
theorem span_layPart (B : Nat) (v : Value) (l : List Sp) (sf st si f t : Int) (w : World) (hv : Sps w B v l) (hB : B ≤ w.heap.size) (hl : l.length ≤ 2000000000000) :
    Calls Tryz.prog 79 #[v, .agg #[.int .i64 sf, .int .i64 st, .int .i64 si], .int .i64 f, .int .i64 t] w fun e w' => (∃ v', e = .returned v' ∧ Hid (Sps w' B v' (l ++ partS ⟨sf, st, si⟩ f t))) ∧ w.grownBy w' v.ownBlock := by
  obtain ⟨a, c, rfl, hlc⟩ := hv.form
  have HV : Hid (Sps w B (.slice a l.length c) l) := hv
  obtain ⟨n, hn⟩ : ∃ n, n = l.length := ⟨_, rfl⟩
  rw [← hn] at HV ⊢
  have HL : Hid (l.length ≤ 3000000000000) := by show _ ≤ _; omega
  clear hv hn hl hlc
  obtain ⟨mx, HMX⟩ : ∃ m, Hid (m = max sf f) := ⟨_, rfl⟩
  obtain ⟨mn, HMN⟩ : ∃ m, Hid (m = min st t) := ⟨_, rfl⟩
  have r1 : ∀ w', (Builtin.min_ #[3, 3] 3 #[.int .i64 st, .int .i64 t]).run Tryz.prog w' = .ok (.int .i64 mn) w' := fun w' => by rw [HMN.out]; exact run_min_i _ _ _ _ _
  have r2 : ∀ w', (Builtin.max_ #[3, 3] 3 #[.int .i64 sf, .int .i64 f]).run Tryz.prog w' = .ok (.int .i64 mx) w' := fun w' => by rw [HMX.out]; exact run_max_i _ _ _ _ _
  have HB1 : Hid (Below w.heap.size w (w.alloc (.cells #[.int .i64 mx, .int .i64 mn, .int .i64 si] 62))) := below_new _ _
  by_cases h : mn < mx
  · have HX : Hid (partS ⟨sf, st, si⟩ f t = []) := partS_none (by simp only; rw [← HMX.out, ← HMN.out]; exact h)
    go_enter Tryz.func79, Tryz.ntmps79
    go_wp2
    go_ret
    exact ⟨⟨_, rfl, by show Sps _ _ _ _; rw [HX.out, List.append_nil]; exact HV.out.below HB1.out⟩, grown_below HB1.out⟩
  · have HX : Hid (partS ⟨sf, st, si⟩ f t = [⟨mx, mn, si⟩]) := by
      have := partS_some (s := ⟨sf, st, si⟩) (f := f) (t := t) (by simp only; rw [← HMX.out, ← HMN.out]; exact h)
      simp only at this
      rw [← HMX.out, ← HMN.out] at this
      exact this
    have HB2 : Hid (Below w.heap.size w ((w.alloc (.cells #[.int .i64 mx, .int .i64 mn, .int .i64 si] 62)).alloc (.cells #[.int .i64 mx, .int .i64 mn, .int .i64 si] 62))) := HB1.out.alloc (by simp) _
    have HV2 : Hid (Sps ((w.alloc (.cells #[.int .i64 mx, .int .i64 mn, .int .i64 si] 62)).alloc (.cells #[.int .i64 mx, .int .i64 mn, .int .i64 si] 62)) B (.slice a n c) l) := HV.out.below HB2.out
    have HT2 : Hid (∀ j u, (Sp.cells ⟨mx, mn, si⟩).toList[j]? = some u → ((w.alloc (.cells #[.int .i64 mx, .int .i64 mn, .int .i64 si] 62)).alloc (.cells #[.int .i64 mx, .int .i64 mn, .int .i64 si] 62)).cell? ((⟨w.heap.size + 1, 0, none⟩ : Addr).add j) = some u) := Sp.told (q := ⟨mx, mn, si⟩) (Bk.second w _ _ _)
    have HS2 : Hid (B ≤ ((w.alloc (.cells #[.int .i64 mx, .int .i64 mn, .int .i64 si] 62)).alloc (.cells #[.int .i64 mx, .int .i64 mn, .int .i64 si] 62)).heap.size) := Nat.le_trans hB HB2.out.size
    go_enter Tryz.func79, Tryz.ntmps79
    go_wp2_with (at_builtin; refine wpList_append_sp rfl (.tmp 25) (.tmp 27) rfl B (.slice a n c) l rfl HV2.out ⟨w.heap.size + 1, 0, none⟩ 1 ⟨mx, mn, si⟩ rfl HT2.out HL.out HS2.out ?_)
    intro v' w' ho hg
    have HO : Hid (Sps w' B v' (l ++ [⟨mx, mn, si⟩])) := ho
    have HG := grown_after HB2.out hg
    have HG : Hid (w.grownBy w' _) := HG
    clear ho hg
    go_wp2
    go_ret
    exact ⟨⟨v', rfl, by show Sps _ _ _ _; rw [HX.out]; exact HO.out⟩, HG.out⟩

/-- What a call of a range tells: ErrArg, unless the map is right and the range may be. -/
def RangeTold (w : World) (B : Nat) (ok : Bool) (out : List Sp) (e : Ending) : Prop :=
  (ok = false ∧ e = .returned (.tuple #[.slice none 0 0, .int .i64 2])) ∨ (ok = true ∧ ∃ v, e = .returned (.tuple #[v, .int .i64 0]) ∧ Sps w B v out)
theorem right_short {l : List Sp} (h : RightS Sp.zr l) : l.length ≤ 1099511627776 := by
  have h1 := RightS_len l Sp.zr h
  by_cases h0 : l = []
  · rw [h0]; simp
  · have h2 := h1.2 h0
    have h3 := h1.1
    simp only [Sp.zr] at h2 h3
    omega

set_option maxRecDepth 100000 in
set_option maxHeartbeats 1000000 in
theorem span_Keep (a : Option Addr) (n cap : Nat) (l : List Sp) (f t : Int) (w : World) (hr : SpsRd w a n l) (hc : n ≤ cap) (hcm : cap ≤ maxLen) :
    Calls Tryz.prog 58 #[.slice a n cap, .int .i64 f, .int .i64 t] w fun e w' => Hid (RangeTold w' w.heap.size (rightB Sp.zr l && mayB f t) (keepS l f t) e) ∧ Below w.heap.size w w' := by
  have HR : Hid (SpsRd w a n l) := hr
  have HC : Hid (n ≤ cap ∧ cap ≤ maxLen) := ⟨hc, hcm⟩
  have hn : n ≤ 2 ^ 63 - 1 := Nat.le_trans hc hcm
  clear hr hc hcm
  go_enter Tryz.func58, Tryz.ntmps58
  go_wp2_with fail
  refine (span_Right a n cap l w HR.out (Nat.le_trans HC.out.1 HC.out.2)).mono ?_
  rintro e w1 ⟨rfl, hb1⟩
  have HB1 : Hid (Below w.heap.size w w1) := hb1
  clear hb1
  cases hrl : rightB Sp.zr l with
  | false =>
    have HOK : Hid ((rightB Sp.zr l && mayB f t) = false) := by show _ = _; rw [hrl]; rfl
    clear hrl
    go_wp2
    go_returns
    exact ⟨.inl ⟨HOK.out, rfl⟩, HB1.out⟩
  | true =>
    have HRS : Hid (RightS Sp.zr l) := (rightB_iff _ _).1 hrl
    go_wp2_with fail
    refine (span_mayBe f t w1).mono ?_
    rintro e w2 ⟨rfl, rfl⟩
    cases hmb : mayB f t with
    | false =>
      have HOK : Hid ((rightB Sp.zr l && mayB f t) = false) := by show _ = _; rw [hrl, hmb]; rfl
      clear hmb hrl
      go_wp2
      go_returns
      exact ⟨.inl ⟨HOK.out, rfl⟩, HB1.out⟩
    | true =>
      have HOK : Hid ((rightB Sp.zr l && mayB f t) = true) := by show _ = _; rw [hrl, hmb]; rfl
      have HMB : Hid (1 ≤ f ∧ f ≤ t ∧ t ≤ 1099511627776) := (mayB_iff _ _).1 hmb
      obtain ⟨hm1, hm2, hm3⟩ := HMB.out
      have HSH : Hid ((keepS l f t).length ≤ 1099511627776) := right_short (keep_right l Sp.zr Sp.zr f t HRS.out (Int.le_refl _) (fun _ => rfl))
      clear hmb hrl
      go_wp2
      go_loopw [8, 22] (fun t8 t22 wr => ∃ (k : Nat) (av : Option Addr) (nv cv : Nat) (out : List Sp), k ≤ n ∧ t22 = .int .i64 (k : Int) ∧ t8 = .slice av nv cv ∧ Hid (Sps wr w.heap.size (.slice av nv cv) out) ∧ Hid (out ++ keepS (l.drop k) f t = keepS l f t) ∧ Hid (Below w.heap.size w wr)) (fun _ t22 _ => n - (intOf t22).toNat)
      case atStart => exact ⟨0, none, 0, 0, [], by omega, rfl, rfl, Sps.nil_ _ _, rfl, HB1⟩
      case round =>
        obtain ⟨k, av, nv, cv, out, hk, rfl, rfl, HV, HE, HB⟩ := hrel
        by_cases hlt : k < n
        · have hlt' : (k : Int) < (n : Int) := by omega
          obtain ⟨g, o, rfl, hg, q, hq, c0, c1, c2⟩ := (HR.out.below HB.out).at_ k hlt
          have HD : Hid (l.drop k = q :: l.drop (k + 1)) := drop_at hq
          clear hq hg
          obtain ⟨qf, qt, qi⟩ := q
          simp only at c0 c1 c2
          have HB3 : Hid (Below wr.heap.size wr (wr.alloc (.cells #[.int .i64 qf, .int .i64 qt, .int .i64 qi] 62))) := below_new _ _
          have HSZ : Hid (out.length ≤ 2000000000000) := by
            show _ ≤ _
            have h1 := HSH.out
            rw [← HE.out, List.length_append] at h1
            omega
          go_wp2_with fail
          refine (span_layPart w.heap.size (.slice av nv cv) out qf qt qi f t _ (HV.out.below HB3.out) (Nat.le_trans HB.out.size HB3.out.size) HSZ.out).mono ?_
          rintro e w4 ⟨⟨v', rfl, HV'⟩, hb4⟩
          have HB4 : Hid (Below w.heap.size w w4) := (HB.out.trans (HB3.out.mono HB.out.size)).trans ((HV.out.below HB3.out).grown (Nat.le_trans HB.out.size HB3.out.size) hb4)
          have HE2 : Hid (out ++ partS ⟨qf, qt, qi⟩ f t ++ keepS (l.drop (k + 1)) f t = keepS l f t) := by
            show _ = _
            rw [← HE.out, HD.out, keepS, List.append_assoc]
          obtain ⟨out2, ho2⟩ : ∃ o, o = out ++ partS ⟨qf, qt, qi⟩ f t := ⟨_, rfl⟩
          rw [← ho2] at HV' HE2
          clear ho2
          obtain ⟨av', cv', rfl, _⟩ := HV'.out.form
          clear hb4 c0 c1 c2 HE HB3
          go_wp2
          go_roundw
          case rel => exact ⟨k + 1, av', _, cv', _, by omega, by go_num, rfl, HV', HE2, HB4⟩
          case measure => simp [intOf]; omega
        · have hnl : ¬ (k : Int) < (n : Int) := by omega
          have HX : Hid (Sps wr w.heap.size (.slice av nv cv) (keepS l f t)) := by
            have h1 := HE.out
            rw [List.drop_of_length_le (by rw [HR.out.size]; omega), keepS, List.append_nil] at h1
            show Sps _ _ _ _
            rw [← h1]
            exact HV.out
          clear HE
          go_wp2
          go_returns
          exact ⟨.inr ⟨HOK.out, _, rfl, HX.out⟩, HB.out⟩

set_option maxRecDepth 100000 in
set_option maxHeartbeats 1000000 in
theorem span_Forget (a : Option Addr) (n cap : Nat) (l : List Sp) (f t : Int) (w : World) (hr : SpsRd w a n l) (hc : n ≤ cap) (hcm : cap ≤ maxLen) :
    Calls Tryz.prog 65 #[.slice a n cap, .int .i64 f, .int .i64 t] w fun e w' => Hid (RangeTold w' w.heap.size (rightB Sp.zr l && mayB f t) (forgetS l f t) e) ∧ Below w.heap.size w w' := by
  have HR : Hid (SpsRd w a n l) := hr
  have HC : Hid (n ≤ cap ∧ cap ≤ maxLen) := ⟨hc, hcm⟩
  have hn : n ≤ 2 ^ 63 - 1 := Nat.le_trans hc hcm
  clear hr hc hcm
  go_enter Tryz.func65, Tryz.ntmps65
  go_wp2_with fail
  refine (span_Right a n cap l w HR.out (Nat.le_trans HC.out.1 HC.out.2)).mono ?_
  rintro e w1 ⟨rfl, hb1⟩
  have HB1 : Hid (Below w.heap.size w w1) := hb1
  clear hb1
  cases hrl : rightB Sp.zr l with
  | false =>
    have HOK : Hid ((rightB Sp.zr l && mayB f t) = false) := by show _ = _; rw [hrl]; rfl
    clear hrl
    go_wp2
    go_returns
    exact ⟨.inl ⟨HOK.out, rfl⟩, HB1.out⟩
  | true =>
    have HRS : Hid (RightS Sp.zr l) := (rightB_iff _ _).1 hrl
    go_wp2_with fail
    refine (span_mayBe f t w1).mono ?_
    rintro e w2 ⟨rfl, rfl⟩
    cases hmb : mayB f t with
    | false =>
      have HOK : Hid ((rightB Sp.zr l && mayB f t) = false) := by show _ = _; rw [hrl, hmb]; rfl
      clear hmb hrl
      go_wp2
      go_returns
      exact ⟨.inl ⟨HOK.out, rfl⟩, HB1.out⟩
    | true =>
      have HOK : Hid ((rightB Sp.zr l && mayB f t) = true) := by show _ = _; rw [hrl, hmb]; rfl
      have HMB : Hid (1 ≤ f ∧ f ≤ t ∧ t ≤ 1099511627776) := (mayB_iff _ _).1 hmb
      obtain ⟨hm1, hm2, hm3⟩ := HMB.out
      have HSH : Hid ((forgetS l f t).length ≤ 1099511627776) := right_short (forget_right l Sp.zr Sp.zr f t hm2 HRS.out (Int.le_refl _) (fun _ => rfl))
      clear hmb hrl
      go_wp2
      go_loopw [8, 22] (fun t8 t22 wr => ∃ (k : Nat) (av : Option Addr) (nv cv : Nat) (out : List Sp), k ≤ n ∧ t22 = .int .i64 (k : Int) ∧ t8 = .slice av nv cv ∧ Hid (Sps wr w.heap.size (.slice av nv cv) out) ∧ Hid (out ++ forgetS (l.drop k) f t = forgetS l f t) ∧ Hid (Below w.heap.size w wr)) (fun _ t22 _ => n - (intOf t22).toNat)
      case atStart => exact ⟨0, none, 0, 0, [], by omega, rfl, rfl, Sps.nil_ _ _, rfl, HB1⟩
      case round =>
        obtain ⟨k, av, nv, cv, out, hk, rfl, rfl, HV, HE, HB⟩ := hrel
        by_cases hlt : k < n
        · have hlt' : (k : Int) < (n : Int) := by omega
          obtain ⟨g, o, rfl, hg, q, hq, c0, c1, c2⟩ := (HR.out.below HB.out).at_ k hlt
          have HD : Hid (l.drop k = q :: l.drop (k + 1)) := drop_at hq
          clear hq hg
          obtain ⟨qf, qt, qi⟩ := q
          simp only at c0 c1 c2
          have HB3 : Hid (Below wr.heap.size wr (wr.alloc (.cells #[.int .i64 qf, .int .i64 qt, .int .i64 qi] 62))) := below_new _ _
          have HSZ : Hid (out.length ≤ 2000000000000) := by
            show _ ≤ _
            have h1 := HSH.out
            rw [← HE.out, List.length_append] at h1
            omega
          have hf1 : (-9223372036854775808 : Int) ≤ f - 1 := by omega
          go_wp2_with fail
          refine (span_layPart w.heap.size (.slice av nv cv) out qf qt qi 1 (f - 1) _ (HV.out.below HB3.out) (Nat.le_trans HB.out.size HB3.out.size) HSZ.out).mono ?_
          rintro e w4 ⟨⟨v', rfl, HV'⟩, hb4⟩
          have HB4 : Hid (Below w.heap.size w w4) := (HB.out.trans (HB3.out.mono HB.out.size)).trans ((HV.out.below HB3.out).grown (Nat.le_trans HB.out.size HB3.out.size) hb4)
          have HN4 : Hid (Bk w4 wr.heap.size #[.int .i64 qf, .int .i64 qt, .int .i64 qi] 62) := by
            refine (Bk.new wr #[.int .i64 qf, .int .i64 qt, .int .i64 qi] 62).grown hb4 (fun e => ?_)
            have h1 := (HV.out.row.lt _ e.symm).2
            omega
          have HE1 : Hid (out ++ partS ⟨qf, qt, qi⟩ 1 (f - 1) ++ (partS ⟨qf, qt, qi⟩ (t + 1) 1099511627776 ++ forgetS (l.drop (k + 1)) f t) = forgetS l f t) := by
            show _ = _
            rw [← HE.out, HD.out, forgetS, List.append_assoc]
          obtain ⟨out1, ho1⟩ : ∃ o, o = out ++ partS ⟨qf, qt, qi⟩ 1 (f - 1) := ⟨_, rfl⟩
          rw [← ho1] at HV' HE1
          clear ho1
          obtain ⟨av1, cv1, rfl, _⟩ := HV'.out.form
          obtain ⟨nv1, hnv1⟩ : ∃ n, n = out1.length := ⟨_, rfl⟩
          rw [← hnv1] at HV'
          have HSZ1 : Hid (out1.length ≤ 2000000000000) := by
            show _ ≤ _
            have h1 := HSH.out
            rw [← HE1.out, List.length_append] at h1
            omega
          rw [← hnv1]
          clear hnv1
          have d0 : w4.cell? ⟨wr.heap.size, 0, none⟩ = some (.int .i64 qf) := HN4.out.cell 0 rfl
          have d1 : w4.cell? ⟨wr.heap.size, 1, none⟩ = some (.int .i64 qt) := HN4.out.cell 1 rfl
          have d2 : w4.cell? ⟨wr.heap.size, 2, none⟩ = some (.int .i64 qi) := HN4.out.cell 2 rfl
          clear hb4 c0 c1 c2
          go_wp2_with fail
          refine (span_layPart w.heap.size (.slice av1 nv1 cv1) out1 qf qt qi (t + 1) 1099511627776 _ HV'.out HB4.out.size HSZ1.out).mono ?_
          rintro e w5 ⟨⟨v5, rfl, HV5⟩, hb5⟩
          have HB5 : Hid (Below w.heap.size w w5) := HB4.out.trans (HV'.out.grown HB4.out.size hb5)
          have HE2 : Hid (out1 ++ partS ⟨qf, qt, qi⟩ (t + 1) 1099511627776 ++ forgetS (l.drop (k + 1)) f t = forgetS l f t) := by
            show _ = _
            rw [List.append_assoc]
            exact HE1.out
          obtain ⟨out2, ho2⟩ : ∃ o, o = out1 ++ partS ⟨qf, qt, qi⟩ (t + 1) 1099511627776 := ⟨_, rfl⟩
          rw [← ho2] at HV5 HE2
          clear ho2
          obtain ⟨av', cv', rfl, _⟩ := HV5.out.form
          clear hb5 d0 d1 d2 HE HB3 HE1
          go_wp2
          go_roundw
          case rel => exact ⟨k + 1, av', _, cv', _, by omega, by go_num, rfl, HV5, HE2, HB5⟩
          case measure => simp [intOf]; omega
        · have hnl : ¬ (k : Int) < (n : Int) := by omega
          have HX : Hid (Sps wr w.heap.size (.slice av nv cv) (forgetS l f t)) := by
            have h1 := HE.out
            rw [List.drop_of_length_le (by rw [HR.out.size]; omega), forgetS, List.append_nil] at h1
            show Sps _ _ _ _
            rw [← h1]
            exact HV.out
          clear HE
          go_wp2
          go_returns
          exact ⟨.inr ⟨HOK.out, _, rfl, HX.out⟩, HB.out⟩
end Go.Proofs.YtidihfhgnjkmaaaGreat
/- The reference's map of two, tick by tick: numbers that rise, at which something may begin; between two of them all is known alike. -/
namespace Go.Proofs.YtidihfhgnjkmaaaGreat

/-- A list of numbers that rises above another one, up to the last tick. -/
def RiseI (p : Int) : List Int → Prop
  | [] => True
  | x :: l => p < x ∧ x ≤ 1099511627776 ∧ RiseI x l
/-- The first number of a list, or the one behind all ticks. -/
def nextI : List Int → Int
  | [] => 1099511627777
  | x :: _ => x
/-- A number more in a list that rises, once. -/
def insI : List Int → Int → List Int
  | [], n => [n]
  | x :: l, n => if n ≤ x then (if n < x then n :: x :: l else x :: l) else x :: insI l n
def putI (l : List Int) (n : Int) : List Int := if 1099511627776 < n then l else insI l n
theorem insI_mem : ∀ (l : List Int) (n x : Int), x ∈ insI l n ↔ x = n ∨ x ∈ l
  | [], n, x => by simp [insI]
  | y :: l, n, x => by
    rw [insI]
    split
    · split
      · simp
      · have : n = y := by omega
        subst this
        simp
    · simp only [List.mem_cons, insI_mem l n x]
      constructor
      · rintro (h | h | h)
        · exact .inr (.inl h)
        · exact .inl h
        · exact .inr (.inr h)
      · rintro (h | h | h)
        · exact .inr (.inl h)
        · exact .inl h
        · exact .inr (.inr h)
theorem insI_len : ∀ (l : List Int) (n : Int), (insI l n).length ≤ l.length + 1
  | [], n => by simp [insI]
  | y :: l, n => by
    rw [insI]
    split
    · split <;> simp
    · simp only [List.length_cons]
      have := insI_len l n
      omega
theorem insI_rise : ∀ (l : List Int) (p n : Int), RiseI p l → p < n → n ≤ 1099511627776 → RiseI p (insI l n)
  | [], p, n, _, h1, h2 => ⟨h1, h2, trivial⟩
  | y :: l, p, n, ⟨a1, a2, a3⟩, h1, h2 => by
    rw [insI]
    split
    · split
      · exact ⟨h1, h2, by omega, a2, a3⟩
      · exact ⟨a1, a2, a3⟩
    · exact ⟨a1, a2, insI_rise l y n a3 (by omega) h2⟩
theorem riseI_low : ∀ (l : List Int) (p x : Int), RiseI p l → x ∈ l → p < x ∧ x ≤ 1099511627776
  | y :: l, p, x, ⟨a1, a2, a3⟩, h => by
    rcases List.mem_cons.1 h with rfl | h
    · exact ⟨a1, a2⟩
    · have := riseI_low l y x a3 h
      omega
/-- The ticks at which something may begin. -/
structure EdgeI (E : List Int) : Prop where
  one : ∃ r, E = 1 :: r ∧ RiseI 1 r
theorem EdgeI.put {E : List Int} (h : EdgeI E) {n : Int} (hn : 1 ≤ n) : EdgeI (putI E n) := by
  obtain ⟨r, rfl, hr⟩ := h.one
  unfold putI
  split
  · exact ⟨r, rfl, hr⟩
  · rw [insI]
    split
    · rw [if_neg (by omega)]
      exact ⟨r, rfl, hr⟩
    · exact ⟨_, rfl, insI_rise r 1 n hr (by omega) (by omega)⟩
theorem EdgeI.rise {E : List Int} (h : EdgeI E) : RiseI 0 E := by
  obtain ⟨r, rfl, hr⟩ := h.one
  exact ⟨by omega, by omega, hr⟩
theorem putI_mem {l : List Int} {n x : Int} (h : x ∈ l) : x ∈ putI l n := by
  unfold putI
  split
  · exact h
  · exact (insI_mem l n x).2 (.inr h)
theorem putI_new (l : List Int) (n : Int) : n ∈ putI l n ∨ 1099511627776 < n := by
  unfold putI
  split
  · rename_i h; exact .inr h
  · exact .inl ((insI_mem l n n).2 (.inl rfl))
theorem putI_len (l : List Int) (n : Int) : (putI l n).length ≤ l.length + 1 := by
  unfold putI
  split
  · omega
  · exact insI_len l n
/-- Each span begins at one of them, and what is behind it does. -/
def CovS (E : List Int) (l : List Sp) : Prop := ∀ s ∈ l, s.fr ∈ E ∧ (s.to + 1 ∈ E ∨ 1099511627776 < s.to + 1)
theorem CovS.put {E : List Int} {l : List Sp} (h : CovS E l) (n : Int) : CovS (putI E n) l := fun s hs => ⟨putI_mem (h s hs).1, (h s hs).2.imp putI_mem id⟩
theorem CovS.snoc {E : List Int} {l : List Sp} (h : CovS E l) (s : Sp) (hs : s.fr ≤ 1099511627776) : CovS (putI (putI E s.fr) (s.to + 1)) (l ++ [s]) := by
  intro q hq
  rcases List.mem_append.1 hq with hq | hq
  · exact (h.put _).put _ q hq
  · obtain rfl : q = s := by simpa using hq
    refine ⟨putI_mem ((putI_new E q.fr).resolve_right (by omega)), putI_new _ _⟩
theorem riseI_gap : ∀ (E : List Int) (p : Int) (i : Nat) (t : Int) (r : List Int), RiseI p E → E.drop i = t :: r → p < t ∧ t ≤ 1099511627776 ∧ RiseI t r ∧ ∀ x ∈ E, x ≤ t ∨ nextI r ≤ x
  | [], p, i, t, r, _, h => by simp at h
  | y :: l, p, 0, t, r, ⟨a1, a2, a3⟩, h => by
    simp only [List.drop_zero, List.cons.injEq] at h
    obtain ⟨rfl, rfl⟩ := h
    refine ⟨a1, a2, a3, fun x hx => ?_⟩
    rcases List.mem_cons.1 hx with rfl | hx
    · exact .inl (Int.le_refl _)
    · right
      cases l with
      | nil => cases hx
      | cons z l =>
        rcases List.mem_cons.1 hx with rfl | hx
        · exact Int.le_refl _
        · have := riseI_low l z x a3.2.2 hx
          show z ≤ x
          omega
  | y :: l, p, i + 1, t, r, ⟨a1, a2, a3⟩, h => by
    rw [List.drop_succ_cons] at h
    obtain ⟨b1, b2, b3, b4⟩ := riseI_gap l y i t r a3 h
    refine ⟨by omega, b2, b3, fun x hx => ?_⟩
    rcases List.mem_cons.1 hx with rfl | hx
    · left; omega
    · exact b4 x hx
theorem nextI_le {r : List Int} {t : Int} (h : RiseI t r) (ht : t ≤ 1099511627776) : t < nextI r ∧ nextI r ≤ 1099511627777 := by
  cases r with
  | nil => exact ⟨by show t < 1099511627777; omega, Int.le_refl _⟩
  | cons x r => exact ⟨h.1, by show x ≤ 1099511627777; have := h.2.1; omega⟩
/-- Between two of them a map knows the same. -/
theorem flatS {E : List Int} {t : Int} {r : List Int} (hg : ∀ x ∈ E, x ≤ t ∨ nextI r ≤ x) (hn : nextI r ≤ 1099511627777) : ∀ (l : List Sp), CovS E l → ∀ u, t ≤ u → u < nextI r → atS l u = atS l t
  | [], _, _, _, _ => rfl
  | s :: l, hc, u, h1, h2 => by
    obtain ⟨c1, c2⟩ := hc s (by simp)
    have d1 := hg _ c1
    have d2 : s.to + 1 ≤ t ∨ nextI r ≤ s.to + 1 := by
      rcases c2 with c2 | c2
      · exact hg _ c2
      · right; omega
    rw [atS, atS]
    by_cases h : s.fr ≤ t ∧ t ≤ s.to
    · rw [if_pos h, if_pos (by omega)]
    · rw [if_neg h, if_neg (by omega)]
      exact flatS hg hn l (fun q hq => hc q (by simp [hq])) u h1 h2
/-- What a tick has of two maps. -/
def tellF (how : Int) (x y : Int) : Int :=
  if how = 0 then max x y else if how = 1 then (if y = 0 then 0 else x) else if how = 2 then (if y = 0 then x else 0) else (if y = 0 ∨ x ≠ 0 then 0 else 1)
theorem tellF_zero (how : Int) : tellF how 0 0 = 0 := by
  unfold tellF
  split
  · rfl
  · split
    · rfl
    · split
      · rfl
      · rfl
theorem tellF_range {how x y : Int} (hx : 0 ≤ x ∧ x ≤ 3) (hy : 0 ≤ y ∧ y ≤ 3) : 0 ≤ tellF how x y ∧ tellF how x y ≤ 3 := by
  unfold tellF
  split
  · omega
  · split
    · split <;> omega
    · split
      · split <;> omega
      · split <;> omega
/-- How far the map of two is made: up to a tick. -/
structure MadeS (F : Int → Int) (t : Int) (out : List Sp) : Prop where
  ro : RightS Sp.zr out
  lt : (lastS Sp.zr out).to < t
  eo : ∀ u, u < t → atS out u = F u
theorem MadeS.step {a b : List Sp} {how : Int} {E : List Int} {i : Nat} {t : Int} {r : List Int} {out out' : List Sp} (ha : RightS Sp.zr a) (hb : RightS Sp.zr b) (hE : EdgeI E) (ca : CovS E a) (cb : CovS E b)
    (h : MadeS (fun u => tellF how (atS a u) (atS b u)) t out) (hd : E.drop i = t :: r) (hl : layS out ⟨t, nextI r - 1, tellF how (atS a t) (atS b t)⟩ out') :
    MadeS (fun u => tellF how (atS a u) (atS b u)) (nextI r) out' := by
  obtain ⟨g1, g2, g3, g4⟩ := riseI_gap E 0 i t r hE.rise hd
  obtain ⟨n1, n2⟩ := nextI_le g3 g2
  obtain ⟨z1, z2, z3⟩ := layS_ok h.ro (by simpa using h.lt) (by simp only; omega) (by simp only; omega) (by simpa using tellF_range (atS_range ha t) (atS_range hb t)) hl
  simp only at z2 z3
  refine ⟨z1, by omega, fun u hu => ?_⟩
  rw [z3 u]
  split
  · rename_i hh
    show _ = tellF how (atS a u) (atS b u)
    rw [flatS g4 n2 a ca u hh.1 (by omega), flatS g4 n2 b cb u hh.1 (by omega)]
  · exact h.eo u (by omega)
theorem MadeS.start {a b : List Sp} {how : Int} (ha : RightS Sp.zr a) (hb : RightS Sp.zr b) : MadeS (fun u => tellF how (atS a u) (atS b u)) 1 [] :=
  ⟨trivial, by simp [lastS, Sp.zr], fun u hu => by
    have : u ≤ Sp.zr.to := by simp [Sp.zr]; omega
    show _ = tellF how (atS a u) (atS b u)
    rw [atS_low ha this, atS_low hb this, tellF_zero]; rfl⟩
theorem MadeS.done {a b : List Sp} {how : Int} {out : List Sp} (ha : RightS Sp.zr a) (hb : RightS Sp.zr b) (h : MadeS (fun u => tellF how (atS a u) (atS b u)) 1099511627777 out) : RightS Sp.zr out ∧ ∀ u, atS out u = tellF how (atS a u) (atS b u) := by
  refine ⟨h.ro, fun u => ?_⟩
  by_cases hu : u < 1099511627777
  · exact h.eo u hu
  · rw [(atS_last _ _ h.ro u (by have := h.lt; omega)).2, atS_high ha (by omega), atS_high hb (by omega), tellF_zero]
/-- The map of a range. -/
def rangeS (f t : Int) : List Sp := [⟨f, t, 1⟩]
theorem rangeS_right {f t : Int} (h1 : 1 ≤ f) (h2 : f ≤ t) (h3 : t ≤ 1099511627776) : RightS Sp.zr (rangeS f t) := ⟨by simp [Sp.zr]; omega, h2, h3, by simp, by simp, by simp [Sp.zr], trivial⟩
theorem rangeS_at (f t u : Int) : atS (rangeS f t) u = if f ≤ u ∧ u ≤ t then 1 else 0 := rfl
/-- A span of the same ticks, with something else known. -/
def Sp.as (k : Int) (s : Sp) : Sp := ⟨s.fr, s.to, k⟩
theorem gaps_right : ∀ (l : List Sp) (p q : Sp) (f t : Int), RightS p l → 0 ≤ p.to → p.to ≤ 1099511627776 → (q.to < p.to ∨ (q.to = p.to ∧ q.is = 0)) → RightS q ((gapsS (p.to + 1) l f t).map (Sp.as 1))
  | [], p, q, f, t, _, hp, hp2, hq => by
    rw [gapsS]
    by_cases h : min (1099511627776 : Int) t < max (p.to + 1) f
    · rw [partS_none (by simpa using h)]; trivial
    · rw [partS_some (by simpa using h)]
      refine ⟨?_, ?_, ?_, by simp [Sp.as], by simp [Sp.as], ?_, trivial⟩
      · simp only [Sp.as]; omega
      · simp only [Sp.as]; omega
      · simp only [Sp.as]; omega
      · simp only [Sp.as]; omega
  | s :: l, p, q, f, t, ⟨h1, h2, h3, h4, h5, h6, h7⟩, hp, hp2, hq => by
    rw [gapsS]
    by_cases h : min (s.fr - 1) t < max (p.to + 1) f
    · rw [partS_none (by simpa using h), List.nil_append]
      exact gaps_right l s q f t h7 (by omega) h3 (by omega)
    · rw [partS_some (by simpa using h), List.singleton_append, List.map_cons]
      refine ⟨?_, ?_, ?_, by simp [Sp.as], by simp [Sp.as], ?_, gaps_right l s _ f t h7 (by omega) h3 (.inl (by simp only [Sp.as]; omega))⟩
      · simp only [Sp.as]; omega
      · simp only [Sp.as]; omega
      · simp only [Sp.as]; omega
      · simp only [Sp.as]; omega
theorem atS_cons (f t k : Int) (l : List Sp) (u : Int) : atS (⟨f, t, k⟩ :: l) u = if f ≤ u ∧ u ≤ t then k else atS l u := rfl
theorem gaps_at : ∀ (l : List Sp) (p : Sp) (f t u : Int), RightS p l → atS ((gapsS (p.to + 1) l f t).map (Sp.as 1)) u = if (f ≤ u ∧ u ≤ t) ∧ p.to < u ∧ u ≤ 1099511627776 ∧ atS l u = 0 then 1 else 0
  | [], p, f, t, u, _ => by
    rw [gapsS]
    by_cases h : min (1099511627776 : Int) t < max (p.to + 1) f
    · rw [partS_none (by simpa using h), List.map_nil, atS, if_neg (by omega)]
    · rw [partS_some (by simpa using h), List.map_cons, List.map_nil]
      show atS [⟨max (p.to + 1) f, min 1099511627776 t, 1⟩] u = _
      have hz : atS [] u = 0 := rfl
      rw [atS_cons]
      by_cases hh : max (p.to + 1) f ≤ u ∧ u ≤ min 1099511627776 t
      · rw [if_pos hh, if_pos ⟨by omega, by omega, by omega, hz⟩]
      · rw [if_neg hh, if_neg (by omega), hz]
  | s :: l, p, f, t, u, ⟨h1, h2, h3, h4, h5, h6, h7⟩ => by
    have ih := gaps_at l s f t u h7
    have hat : atS (s :: l) u = if s.fr ≤ u ∧ u ≤ s.to then s.is else atS l u := rfl
    have hz : u ≤ s.to → atS l u = 0 := fun h => atS_low h7 h
    rw [gapsS]
    by_cases h : min (s.fr - 1) t < max (p.to + 1) f
    · rw [partS_none (by simpa using h), List.nil_append, ih, hat]
      by_cases hu : s.to < u
      · rw [if_neg (by omega : ¬ (s.fr ≤ u ∧ u ≤ s.to))]
        by_cases hh : (f ≤ u ∧ u ≤ t) ∧ s.to < u ∧ u ≤ 1099511627776 ∧ atS l u = 0
        · rw [if_pos hh, if_pos ⟨hh.1, by omega, hh.2.2⟩]
        · rw [if_neg hh, if_neg (fun g => hh ⟨g.1, hu, g.2.2⟩)]
      · rw [if_neg (fun g => hu g.2.1)]
        by_cases hv : s.fr ≤ u
        · rw [if_pos (⟨hv, by omega⟩ : s.fr ≤ u ∧ u ≤ s.to), if_neg (by omega)]
        · rw [if_neg (by omega : ¬ (s.fr ≤ u ∧ u ≤ s.to)), if_neg (by omega)]
    · rw [partS_some (by simpa using h), List.singleton_append, List.map_cons]
      show atS (⟨max (p.to + 1) f, min (s.fr - 1) t, 1⟩ :: _) u = _
      rw [atS_cons, ih, hat]
      by_cases hin : max (p.to + 1) f ≤ u ∧ u ≤ min (s.fr - 1) t
      · rw [if_pos hin, if_neg (by omega : ¬ (s.fr ≤ u ∧ u ≤ s.to)), hz (by omega), if_pos (by omega)]
      · rw [if_neg hin]
        by_cases hu : s.to < u
        · rw [if_neg (by omega : ¬ (s.fr ≤ u ∧ u ≤ s.to))]
          by_cases hh : (f ≤ u ∧ u ≤ t) ∧ s.to < u ∧ u ≤ 1099511627776 ∧ atS l u = 0
          · rw [if_pos hh, if_pos ⟨hh.1, by omega, hh.2.2⟩]
          · rw [if_neg hh, if_neg (fun g => hh ⟨g.1, hu, g.2.2⟩)]
        · rw [if_neg (fun g => hu g.2.1)]
          by_cases hv : s.fr ≤ u
          · rw [if_pos (⟨hv, by omega⟩ : s.fr ≤ u ∧ u ≤ s.to), if_neg (by omega)]
          · rw [if_neg (by omega : ¬ (s.fr ≤ u ∧ u ≤ s.to)), if_neg (by omega)]
theorem part_as (s : Sp) (f t : Int) (h : s.is = 0) : (partS s f t).map (Sp.as 0) = partS s f t := by
  unfold partS
  split
  · rfl
  · simp [Sp.as, h]
theorem gaps_as : ∀ (l : List Sp) (z f t : Int), (gapsS z l f t).map (Sp.as 0) = gapsS z l f t
  | [], z, f, t => part_as _ _ _ rfl
  | s :: l, z, f, t => by rw [gapsS, List.map_append, part_as _ _ _ rfl, gaps_as l]
theorem as_as (k : Int) (l : List Sp) : (l.map (Sp.as 1)).map (Sp.as k) = l.map (Sp.as k) := by
  rw [List.map_map]; rfl
/-- What is not known of a range, by the map of two. -/
theorem gaps_made {l m : List Sp} {f t : Int} (hl : RightS Sp.zr l) (h1 : 1 ≤ f) (h2 : f ≤ t) (h3 : t ≤ 1099511627776) (hm : RightS Sp.zr m) (ht : ∀ u, atS m u = tellF 3 (atS l u) (atS (rangeS f t) u)) : m.map (Sp.as 0) = gapsS 1 l f t := by
  have e : m = (gapsS 1 l f t).map (Sp.as 1) := by
    refine canonS _ _ _ Sp.zr hm (gaps_right l Sp.zr Sp.zr f t hl (by decide) (by decide) (.inr ⟨rfl, rfl⟩)) fun u => ?_
    have hg := gaps_at l Sp.zr f t u hl
    rw [show Sp.zr.to + 1 = (1 : Int) from rfl] at hg
    rw [ht u, rangeS_at, hg]
    unfold tellF
    rw [if_neg (by decide), if_neg (by decide), if_neg (by decide)]
    have hzt : Sp.zr.to = 0 := rfl
    by_cases hh : f ≤ u ∧ u ≤ t
    · rw [if_pos hh]
      by_cases hz : atS l u = 0
      · rw [if_neg (by simp [hz]), if_pos ⟨hh, by omega, by omega, hz⟩]
      · rw [if_pos (.inr hz), if_neg (fun g => hz g.2.2.2)]
    · rw [if_neg hh, if_pos (.inl rfl), if_neg (fun g => hh g.1)]
  rw [e, as_as, gaps_as]
end Go.Proofs.YtidihfhgnjkmaaaGreat
/- Numbers in memory: a list of ints of one's own; grapevineref08.put. -/
namespace Go.Proofs.YtidihfhgnjkmaaaGreat
open Go.RowKit

/-- A slice reads as those numbers. -/
structure InsRd (w : World) (a : Option Addr) (n : Nat) (l : List Int) : Prop where
  size : l.length = n
  cells : l = [] ∨ ∃ g, a = some ⟨g, 0, none⟩ ∧ g < w.heap.size ∧ ∀ (i : Nat) (x : Int), l[i]? = some x → w.cell? ⟨g, i, none⟩ = some (.int .i64 x)
theorem InsRd.below {w w' : World} {a : Option Addr} {n : Nat} {l : List Int} (h : InsRd w a n l) (hb : Below w.heap.size w w') : InsRd w' a n l := by
  refine ⟨h.size, ?_⟩
  rcases h.cells with h0 | ⟨g, ha, hg, hc⟩
  · exact .inl h0
  · refine .inr ⟨g, ha, Nat.lt_of_lt_of_le hg hb.size, fun i x hi => ?_⟩
    rw [hb.cell (p := ⟨g, i, none⟩) hg]
    exact hc i x hi
theorem InsRd.at_ {w : World} {a : Option Addr} {n : Nat} {l : List Int} (h : InsRd w a n l) (i : Nat) (hi : i < n) : ∃ g, a = some ⟨g, 0, none⟩ ∧ g < w.heap.size ∧ ∃ x, l[i]? = some x ∧ w.cell? ⟨g, i, none⟩ = some (.int .i64 x) := by
  have hl : i < l.length := by rw [h.size]; exact hi
  rcases h.cells with rfl | ⟨g, ha, hg, hc⟩
  · simp at hl
  · exact ⟨g, ha, hg, l[i], List.getElem?_eq_getElem hl, hc i l[i] (List.getElem?_eq_getElem hl)⟩
/-- A list of numbers of one's own. -/
structure Ins (w : World) (base : Nat) (v : Value) (l : List Int) : Prop where
  row : w.ownsRow base 3 1 v l.length (l.map (Value.int .i64))
theorem Ins.below {w w' : World} {base : Nat} {v : Value} {l : List Int} (h : Ins w base v l) (hb : Below w.heap.size w w') : Ins w' base v l := by
  refine ⟨⟨h.row.1, ?_⟩⟩
  rcases h.row.2 with hn | ⟨g, c, cur, hv, hbg, hg, r⟩
  · exact .inl hn
  · exact .inr ⟨g, c, cur, hv, hbg, by rw [hb.block g (Array.getElem?_eq_some_iff.1 hg).1]; exact hg, r⟩
theorem Ins.lower {w : World} {base base' : Nat} {v : Value} {l : List Int} (h : Ins w base v l) (hb : base' ≤ base) : Ins w base' v l := by
  refine ⟨⟨h.row.1, ?_⟩⟩
  rcases h.row.2 with hn | ⟨g, c, cur, hv, hbg, r⟩
  · exact .inl hn
  · exact .inr ⟨g, c, cur, hv, Nat.le_trans hb hbg, r⟩
theorem Ins.form {w : World} {base : Nat} {v : Value} {l : List Int} (h : Ins w base v l) : ∃ a c, v = .slice a l.length c ∧ l.length ≤ c := by
  rcases h.row.2 with ⟨hv, hn⟩ | ⟨g, c, cur, hv, _, _, hc, _⟩
  · exact ⟨none, 0, by rw [hv, hn], by omega⟩
  · exact ⟨_, c, hv, hc⟩
theorem Ins.rd {w : World} {base : Nat} {a : Option Addr} {n c : Nat} {l : List Int} (h : Ins w base (.slice a n c) l) : InsRd w a n l := by
  rcases h.row.2 with ⟨hv, hn⟩ | ⟨g, c', cur, hv, hb, hg, hlc, hm, hs, ht⟩
  · simp only [Value.slice.injEq] at hv
    exact ⟨by omega, .inl (List.length_eq_zero_iff.1 hn)⟩
  · have hr := h.row
    simp only [Value.slice.injEq] at hv
    obtain ⟨rfl, rfl, rfl⟩ := hv
    refine ⟨rfl, .inr ⟨g, rfl, (Array.getElem?_eq_some_iff.1 hg).1, fun i x hi => ?_⟩⟩
    have hil : i < l.length := (List.getElem?_eq_some_iff.1 hi).1
    rw [hr.cellAt i (by omega), List.getElem?_map, hi]
    rfl
/-- The world has grown by what is new, and by one's own list. -/
theorem Ins.grown {w w' : World} {base : Nat} {v : Value} {l : List Int} (h : Ins w base v l) (hb : base ≤ w.heap.size) (hg : w.grownBy w' v.ownBlock) : Below base w w' :=
  ⟨hg.os, hg.tape, hg.output, hg.size, fun k hk => hg.block k (by omega) fun e => by have := (h.row.lt k e.symm).1; omega⟩
theorem Ins.lit (w : World) (base : Nat) (l : List Int) (cs : Array Value) (hcs : cs.toList = l.map (Value.int .i64)) (hb : base ≤ w.heap.size) (hm : l.length ≤ maxLen) : Ins (w.alloc (.cells cs 3)) base (.slice (some ⟨w.heap.size, 0, none⟩) l.length l.length) l := by
  refine ⟨?_⟩
  rw [← hcs]
  exact World.ownsRow_lit w cs l.length hb hm (by rw [← Array.length_toList, hcs, List.length_map, Nat.mul_one])
theorem infoInt : (Tryz.prog.info? 3).map (fun i => (i.zero, i.size, i.bytes)) = some (some (.int .i64 0), 1, 8) := by kernel_rfl

/-- A number behind a list of one's own. -/
theorem wpList_append_in {w : World} {ops : Array Oper} {rest : List Oper} {o : Oper} {act : Act} {Q : Exit → Act → World → Prop} (hgd : o.guard = none) (s x : Operand)
    (ho : o.op = .call { callee := .builtin .append, args := #[s, x], argTypes := #[109, 109] })
    (base : Nat) (v : Value) (l : List Int) (hs : act.eval s = v) (hown : Ins w base v l) (g : Nat) (c : Nat) (y : Int) (hx : act.eval x = .slice (some ⟨g, 0, none⟩) 1 c) (hnew : w.cell? ⟨g, 0, none⟩ = some (.int .i64 y))
    (hl : l.length ≤ 6000000000000) (hbase : base ≤ w.heap.size)
    (h : ∀ v' w', Ins w' base v' (l ++ [y]) → w.grownBy w' v.ownBlock → wpList Tryz.prog ops Q rest (act.put o.dst v') w') : wpList Tryz.prog ops Q (o :: rest) act w := by
  refine wpList_plain hgd fun _ hK => ?_
  obtain ⟨i0, hi, hz0, hz1, hz2⟩ := info_parts infoInt
  exact wp_append_own w s x 109 ho base 3 i0 (.int .i64 0) 1 8 Tryz.underlying109 hi hz0 hz1 hz2 (by rfl) (by decide) v l.length (l.map (Value.int .i64)) hs hown.row ⟨g, 0, none⟩ 1 c [.int .i64 y] hx (by rfl)
    (fun j u hj => by
      cases j with
      | zero => simp only [List.getElem?_cons_zero, Option.some.injEq] at hj; subst hj; exact hnew
      | succ j => simp at hj)
    (fun u hu => by simp only [List.mem_singleton] at hu; subst hu; rfl) (by unfold maxLen; omega) (by omega) hbase fun v' w' h1 h2 _ => hK _ _ (h v' w' ⟨by simpa using h1⟩ h2)

/-- What is left to be put. -/
def leftI (d : Bool) (l : List Int) (n : Int) : List Int := if d = true then l else insI l n
theorem leftI_start (l : List Int) (n : Int) : leftI (decide (1099511627776 < n)) l n = putI l n := by
  unfold leftI putI
  by_cases h : 1099511627776 < n
  · rw [if_pos h, decide_eq_true h, if_pos rfl]
  · rw [if_neg h, decide_eq_false h, if_neg (by simp)]
theorem drop_atI {l : List Int} {i : Nat} {x : Int} (h : l[i]? = some x) : l.drop i = x :: l.drop (i + 1) := by
  have hl : i < l.length := (List.getElem?_eq_some_iff.1 h).1
  rw [List.drop_eq_getElem_cons hl]
  congr 1
  exact (List.getElem?_eq_some_iff.1 h).2

set_option maxRecDepth 100000 in
set_option maxHeartbeats 1000000 in
theorem ref_put (a : Option Addr) (m cap : Nat) (l : List Int) (n : Int) (w : World) (hr : InsRd w a m l) (hm : m ≤ 5000000000000) :
    Calls Tryz.prog 95 #[.slice a m cap, .int .i64 n] w fun e w' => (∃ av nv cv, e = .returned (.slice av nv cv) ∧ Hid (Ins w' w.heap.size (.slice av nv cv) (putI l n))) ∧ Below w.heap.size w w' := by
  have HR : Hid (InsRd w a m l) := hr
  obtain ⟨R, HX⟩ : ∃ R, Hid (R = putI l n) := ⟨_, rfl⟩
  have HRL : Hid (R.length ≤ 5000000000001) := by
    show _ ≤ _
    rw [HX.out]
    have h1 := putI_len l n
    have h2 := hr.size
    omega
  rw [← HX.out]
  clear hr
  go_enter Tryz.func95, Tryz.ntmps95
  go_wp2
  go_loopw [5, 6, 7] (fun t5 t6 t7 wr => ∃ (k : Nat) (d : Bool) (av : Option Addr) (nv cv : Nat) (out : List Int), k ≤ m ∧ t7 = .int .i64 (k : Int) ∧ t6 = .bool d ∧ t5 = .slice av nv cv ∧ Hid (out ++ leftI d (l.drop k) n = R) ∧ Hid (Ins wr w.heap.size (.slice av nv cv) out) ∧ Hid (Below w.heap.size w wr)) (fun _ _ t7 _ => m - (intOf t7).toNat)
  case atStart => exact ⟨0, _, _, _, _, [], by omega, rfl, rfl, rfl, by show _ = _; rw [HX.out, List.nil_append, List.drop_zero, leftI_start], Ins.lit w w.heap.size [] #[] rfl (Nat.le_refl _) (Nat.zero_le _), below_new _ _⟩
  case round =>
    obtain ⟨k, d, av, nv, cv, out, hk, rfl, rfl, rfl, HE, HV, HB⟩ := hrel
    have HOL : Hid (out.length ≤ 5000000000001) := by
      show _ ≤ _
      have h1 := HRL.out
      rw [← HE.out, List.length_append] at h1
      omega
    by_cases hlt : k < m
    · have hlt' : (k : Int) < (m : Int) := by omega
      obtain ⟨g, rfl, hg, x, hx, c0⟩ := (HR.out.below HB.out).at_ k hlt
      have HD : Hid (l.drop k = x :: l.drop (k + 1)) := drop_atI hx
      have HG : Hid (g < wr.heap.size) := hg
      clear hx hg
      cases d with
      | true =>
        have HE2 : Hid (out ++ [x] ++ leftI true (l.drop (k + 1)) n = R) := by
          show _ = _
          have h1 := HE.out
          rw [HD.out, leftI, if_pos rfl] at h1
          rw [leftI, if_pos rfl, ← h1]
          simp
        have HS1 : Hid (w.heap.size ≤ (wr.alloc (.cells #[.int .i64 x] 3)).heap.size) := Nat.le_trans HB.out.size (below_new _ _).size
        have HC1 : Hid ((wr.alloc (.cells #[.int .i64 x] 3)).cell? ⟨wr.heap.size, 0, none⟩ = some (.int .i64 x)) := (Bk.new wr #[.int .i64 x] 3).cell 0 rfl
        have HV1 : Hid (Ins (wr.alloc (.cells #[.int .i64 x] 3)) w.heap.size (.slice av nv cv) out) := HV.out.below (below_new _ _)
        have HL1 : Hid (out.length ≤ 6000000000000) := by show _ ≤ _; have := HOL.out; omega
        go_wp2_with (at_builtin; refine wpList_append_in rfl (.tmp 37) (.tmp 42) rfl w.heap.size (.slice av nv cv) out rfl HV1.out wr.heap.size 1 x rfl HC1.out HL1.out HS1.out ?_)
        intro v' w' ho hgr
        have HO : Hid (Ins w' w.heap.size v' (out ++ [x])) := ho
        have HB2 : Hid (Below w.heap.size w w') := (HB.out.trans ((below_new wr _).mono HB.out.size)).trans (HV1.out.grown HS1.out hgr)
        obtain ⟨av', cv', rfl, _⟩ := HO.out.form
        clear ho hgr HE HV1 HC1 HS1 HL1 c0
        go_wp2
        go_roundw
        case rel => exact ⟨k + 1, true, av', _, cv', _, by omega, by go_num, rfl, rfl, HE2, HO, HB2⟩
        case measure => simp [intOf]; omega
      | false =>
        by_cases h1 : n ≤ x
        · have h1' : decide (n ≤ x) = true := decide_eq_true h1
          by_cases h2 : n < x
          · have h2' : decide (n < x) = true := decide_eq_true h2
            have HE2 : Hid (out ++ [n] ++ [x] ++ leftI true (l.drop (k + 1)) n = R) := by
              show _ = _
              have h3 := HE.out
              rw [HD.out, leftI, if_neg (by simp), insI, if_pos h1, if_pos h2] at h3
              rw [leftI, if_pos rfl, ← h3]
              simp
            have HS1 : Hid (w.heap.size ≤ (wr.alloc (.cells #[.int .i64 n] 3)).heap.size) := Nat.le_trans HB.out.size (below_new _ _).size
            have HC1 : Hid ((wr.alloc (.cells #[.int .i64 n] 3)).cell? ⟨wr.heap.size, 0, none⟩ = some (.int .i64 n)) := (Bk.new wr #[.int .i64 n] 3).cell 0 rfl
            have HV1 : Hid (Ins (wr.alloc (.cells #[.int .i64 n] 3)) w.heap.size (.slice av nv cv) out) := HV.out.below (below_new _ _)
            have HL1 : Hid (out.length ≤ 6000000000000) := by show _ ≤ _; have := HOL.out; omega
            go_wp2_with (at_builtin; refine wpList_append_in rfl (.tmp 33) (.tmp 35) rfl w.heap.size (.slice av nv cv) out rfl HV1.out wr.heap.size 1 n rfl HC1.out HL1.out HS1.out ?_)
            intro v' w' ho hgr
            have HO : Hid (Ins w' w.heap.size v' (out ++ [n])) := ho
            have HB2 : Hid (Below w.heap.size w w') := (HB.out.trans ((below_new wr _).mono HB.out.size)).trans (HV1.out.grown HS1.out hgr)
            obtain ⟨av', cv', rfl, _⟩ := HO.out.form
            have c1 : w'.cell? ⟨g, k, none⟩ = some (.int .i64 x) := by
              obtain ⟨g', hga, _, x', hx', c'⟩ := (HR.out.below HB2.out).at_ k hlt
              simp only [Option.some.injEq, Addr.mk.injEq, and_true] at hga
              subst hga
              have h9 := HD.out
              rw [drop_atI hx'] at h9
              simp only [List.cons.injEq, and_true] at h9
              rw [← h9]
              exact c'
            clear ho hgr HE HV1 HC1 HS1 HL1 c0
            have HOL2 : Hid ((out ++ [n]).length ≤ 5000000000002) := by show _ ≤ _; have := HOL.out; rw [List.length_append, List.length_singleton]; omega
            obtain ⟨out2, ho2⟩ : ∃ o, o = out ++ [n] := ⟨_, rfl⟩
            rw [← ho2] at HO HE2 HOL2 ⊢
            obtain ⟨nv2, hnv2⟩ : ∃ o, o = out2.length := ⟨_, rfl⟩
            rw [← hnv2] at HO ⊢
            clear ho2 hnv2
            have HS1 : Hid (w.heap.size ≤ (w'.alloc (.cells #[.int .i64 x] 3)).heap.size) := Nat.le_trans HB2.out.size (below_new _ _).size
            have HC1 : Hid ((w'.alloc (.cells #[.int .i64 x] 3)).cell? ⟨w'.heap.size, 0, none⟩ = some (.int .i64 x)) := (Bk.new w' #[.int .i64 x] 3).cell 0 rfl
            have HV1 : Hid (Ins (w'.alloc (.cells #[.int .i64 x] 3)) w.heap.size (.slice av' nv2 cv') out2) := HO.out.below (below_new _ _)
            have HL1 : Hid (out2.length ≤ 6000000000000) := by show _ ≤ _; have := HOL2.out; omega
            go_wp2_with (at_builtin; refine wpList_append_in rfl (.tmp 37) (.tmp 42) rfl w.heap.size (.slice av' nv2 cv') out2 rfl HV1.out w'.heap.size 1 x rfl HC1.out HL1.out HS1.out ?_)
            intro v'' w'' ho hgr
            have HO2 : Hid (Ins w'' w.heap.size v'' (out2 ++ [x])) := ho
            have HB3 : Hid (Below w.heap.size w w'') := (HB2.out.trans ((below_new w' _).mono HB2.out.size)).trans (HV1.out.grown HS1.out hgr)
            obtain ⟨av2, cv2, rfl, _⟩ := HO2.out.form
            clear ho hgr HV1 HC1 HS1 HL1 c1
            go_wp2
            go_roundw
            case rel => exact ⟨k + 1, true, av2, _, cv2, _, by omega, by go_num, rfl, rfl, HE2, HO2, HB3⟩
            case measure => simp [intOf]; omega
          · have h2' : decide (n < x) = false := decide_eq_false h2
            have HE2 : Hid (out ++ [x] ++ leftI true (l.drop (k + 1)) n = R) := by
              show _ = _
              have h3 := HE.out
              rw [HD.out, leftI, if_neg (by simp), insI, if_pos h1, if_neg h2] at h3
              rw [leftI, if_pos rfl, ← h3]
              simp
            have HS1 : Hid (w.heap.size ≤ (wr.alloc (.cells #[.int .i64 x] 3)).heap.size) := Nat.le_trans HB.out.size (below_new _ _).size
            have HC1 : Hid ((wr.alloc (.cells #[.int .i64 x] 3)).cell? ⟨wr.heap.size, 0, none⟩ = some (.int .i64 x)) := (Bk.new wr #[.int .i64 x] 3).cell 0 rfl
            have HV1 : Hid (Ins (wr.alloc (.cells #[.int .i64 x] 3)) w.heap.size (.slice av nv cv) out) := HV.out.below (below_new _ _)
            have HL1 : Hid (out.length ≤ 6000000000000) := by show _ ≤ _; have := HOL.out; omega
            go_wp2_with (at_builtin; refine wpList_append_in rfl (.tmp 37) (.tmp 42) rfl w.heap.size (.slice av nv cv) out rfl HV1.out wr.heap.size 1 x rfl HC1.out HL1.out HS1.out ?_)
            intro v' w' ho hgr
            have HO : Hid (Ins w' w.heap.size v' (out ++ [x])) := ho
            have HB2 : Hid (Below w.heap.size w w') := (HB.out.trans ((below_new wr _).mono HB.out.size)).trans (HV1.out.grown HS1.out hgr)
            obtain ⟨av', cv', rfl, _⟩ := HO.out.form
            clear ho hgr HE HV1 HC1 HS1 HL1 c0
            go_wp2
            go_roundw
            case rel => exact ⟨k + 1, true, av', _, cv', _, by omega, by go_num, rfl, rfl, HE2, HO, HB2⟩
            case measure => simp [intOf]; omega
        · have h1' : decide (n ≤ x) = false := decide_eq_false h1
          have HE2 : Hid (out ++ [x] ++ leftI false (l.drop (k + 1)) n = R) := by
            show _ = _
            have h3 := HE.out
            rw [HD.out, leftI, if_neg (by simp), insI, if_neg h1] at h3
            rw [leftI, if_neg (by simp), ← h3]
            simp
          have HS1 : Hid (w.heap.size ≤ (wr.alloc (.cells #[.int .i64 x] 3)).heap.size) := Nat.le_trans HB.out.size (below_new _ _).size
          have HC1 : Hid ((wr.alloc (.cells #[.int .i64 x] 3)).cell? ⟨wr.heap.size, 0, none⟩ = some (.int .i64 x)) := (Bk.new wr #[.int .i64 x] 3).cell 0 rfl
          have HV1 : Hid (Ins (wr.alloc (.cells #[.int .i64 x] 3)) w.heap.size (.slice av nv cv) out) := HV.out.below (below_new _ _)
          have HL1 : Hid (out.length ≤ 6000000000000) := by show _ ≤ _; have := HOL.out; omega
          go_wp2_with (at_builtin; refine wpList_append_in rfl (.tmp 37) (.tmp 42) rfl w.heap.size (.slice av nv cv) out rfl HV1.out wr.heap.size 1 x rfl HC1.out HL1.out HS1.out ?_)
          intro v' w' ho hgr
          have HO : Hid (Ins w' w.heap.size v' (out ++ [x])) := ho
          have HB2 : Hid (Below w.heap.size w w') := (HB.out.trans ((below_new wr _).mono HB.out.size)).trans (HV1.out.grown HS1.out hgr)
          obtain ⟨av', cv', rfl, _⟩ := HO.out.form
          clear ho hgr HE HV1 HC1 HS1 HL1 c0
          go_wp2
          go_roundw
          case rel => exact ⟨k + 1, false, av', _, cv', _, by omega, by go_num, rfl, rfl, HE2, HO, HB2⟩
          case measure => simp [intOf]; omega
    · have hnl : ¬ (k : Int) < (m : Int) := by omega
      have hdk : l.drop k = [] := List.drop_of_length_le (by rw [HR.out.size]; omega)
      cases d with
      | true =>
        have HX2 : Hid (Ins wr w.heap.size (.slice av nv cv) R) := by
          have h1 := HE.out
          rw [hdk, leftI, if_pos rfl, List.append_nil] at h1
          show Ins _ _ _ _
          rw [← h1]
          exact HV.out
        clear HE hdk
        go_wp2
        go_ret
        exact ⟨⟨av, nv, cv, rfl, HX2⟩, HB.out⟩
      | false =>
        have HE2 : Hid (out ++ [n] = R) := by
          have h1 := HE.out
          rw [hdk, leftI, if_neg (by simp), insI] at h1
          exact h1
        have HS1 : Hid (w.heap.size ≤ (wr.alloc (.cells #[.int .i64 n] 3)).heap.size) := Nat.le_trans HB.out.size (below_new _ _).size
        have HC1 : Hid ((wr.alloc (.cells #[.int .i64 n] 3)).cell? ⟨wr.heap.size, 0, none⟩ = some (.int .i64 n)) := (Bk.new wr #[.int .i64 n] 3).cell 0 rfl
        have HV1 : Hid (Ins (wr.alloc (.cells #[.int .i64 n] 3)) w.heap.size (.slice av nv cv) out) := HV.out.below (below_new _ _)
        have HL1 : Hid (out.length ≤ 6000000000000) := by show _ ≤ _; have := HOL.out; omega
        clear HE hdk
        go_wp2_with (at_builtin; refine wpList_append_in rfl (.tmp 46) (.tmp 48) rfl w.heap.size (.slice av nv cv) out rfl HV1.out wr.heap.size 1 n rfl HC1.out HL1.out HS1.out ?_)
        intro v' w' ho hgr
        have HO : Hid (Ins w' w.heap.size v' R) := by show Ins _ _ _ _; rw [← HE2.out]; exact ho
        have HB2 : Hid (Below w.heap.size w w') := (HB.out.trans ((below_new wr _).mono HB.out.size)).trans (HV1.out.grown HS1.out hgr)
        obtain ⟨av', cv', rfl, _⟩ := HO.out.form
        clear ho hgr HV1 HC1 HS1 HL1
        go_wp2
        go_ret
        exact ⟨⟨av', _, cv', rfl, HO⟩, HB2.out⟩
end Go.Proofs.YtidihfhgnjkmaaaGreat
/- grapevineref08.edges: where something may begin. -/
namespace Go.Proofs.YtidihfhgnjkmaaaGreat
open Go.RowKit

/-- How many of two maps are gone through. -/
def CovI (i : Nat) (E : List Int) (la lb : List Sp) : Prop := (1 ≤ i → CovS E la) ∧ (2 ≤ i → CovS E lb)
theorem CovI.put {i : Nat} {E : List Int} {la lb : List Sp} (h : CovI i E la lb) (n : Int) : CovI i (putI E n) la lb := ⟨fun g => (h.1 g).put n, fun g => (h.2 g).put n⟩

set_option maxRecDepth 100000 in
set_option maxHeartbeats 2000000 in
theorem ref_edges (g : Nat) (a b : Option Addr) (na ca nb cb : Nat) (la lb : List Sp) (w : World) (hg : Bk w g #[.slice a na ca, .slice b nb cb] 30) (ha : SpsRd w a na la) (hb : SpsRd w b nb lb) (hna : na ≤ 1099511627776) (hnb : nb ≤ 1099511627776) (ra : RightS Sp.zr la) (rb : RightS Sp.zr lb) :
    Calls Tryz.prog 87 #[.slice (some ⟨g, 0, none⟩) 2 2] w fun e w' => (∃ av nv cv E, e = .returned (.slice av nv cv) ∧ Hid (Ins w' w.heap.size (.slice av nv cv) E) ∧ Hid (EdgeI E ∧ CovS E la ∧ CovS E lb ∧ E.length ≤ 4398046511105)) ∧ Below w.heap.size w w' := by
  have HG : Hid (Bk w g #[.slice a na ca, .slice b nb cb] 30) := hg
  have HA : Hid (SpsRd w a na la) := ha
  have HBB : Hid (SpsRd w b nb lb) := hb
  have HRA : Hid (RightS Sp.zr la) := ra
  have HRB : Hid (RightS Sp.zr lb) := rb
  have HNN : Hid (na ≤ 1099511627776 ∧ nb ≤ 1099511627776) := ⟨hna, hnb⟩
  clear hg ha hb ra rb hna hnb
  go_enter Tryz.func87, Tryz.ntmps87
  go_wp2
  go_loopw [3, 4] (fun t3 t4 wr => ∃ (i : Nat) (av : Option Addr) (nv cv : Nat) (E : List Int), i ≤ 2 ∧ t4 = .int .i64 (i : Int) ∧ t3 = .slice av nv cv ∧ Hid (Ins wr w.heap.size (.slice av nv cv) E) ∧ Hid (EdgeI E) ∧ Hid (CovI i E la lb) ∧ Hid (E.length ≤ 1 + 2199023255552 * i) ∧ Hid (Below w.heap.size w wr)) (fun _ t4 _ => 2 - (intOf t4).toNat)
  case atStart => exact ⟨0, _, _, _, [1], by omega, rfl, rfl, Ins.lit w w.heap.size [1] #[.int .i64 1] rfl (Nat.le_refl _) (by unfold maxLen; simp), ⟨[], rfl, trivial⟩, ⟨fun h => by omega, fun h => by omega⟩, by show _ ≤ _; simp, below_new _ _⟩
  case round =>
    obtain ⟨i, av, nv, cv, E, hi, rfl, rfl, HV, HED, HCOV, HLEN, HB⟩ := hrel
    by_cases hlt : i < 2
    · have hlt' : (i : Int) < 2 := by omega
      obtain ⟨x, nx, cx, lx, HCELL, HX, HNX, HRX, HNEXT⟩ : ∃ (x : Option Addr) (nx cx : Nat) (lx : List Sp), Hid (∀ w', Below w.heap.size w w' → w'.cell? ⟨g, i, none⟩ = some (.slice x nx cx)) ∧ Hid (SpsRd w x nx lx) ∧ Hid (nx ≤ 1099511627776) ∧ Hid (RightS Sp.zr lx) ∧ Hid (∀ E, CovS E lx → CovI i E la lb → CovI (i + 1) E la lb) := by
        by_cases h0 : i = 0
        · subst h0
          exact ⟨a, na, ca, la, fun w' hb' => (HG.out.stay hb').cell 0 rfl, HA, HNN.out.1, HRA, fun E h1 h2 => ⟨fun _ => h1, fun h => by omega⟩⟩
        · obtain rfl : i = 1 := by omega
          exact ⟨b, nb, cb, lb, fun w' hb' => (HG.out.stay hb').cell 1 rfl, HBB, HNN.out.2, HRB, fun E h1 h2 => ⟨fun _ => h2.1 (by omega), fun _ => h1⟩⟩
      have hnx := HNX.out
      go_wp2
      go_loopw [3, 5] (fun t3 t5 w2 => ∃ (k : Nat) (av2 : Option Addr) (nv2 cv2 : Nat) (E2 : List Int), k ≤ nx ∧ t5 = .int .i64 (k : Int) ∧ t3 = .slice av2 nv2 cv2 ∧ Hid (Ins w2 w.heap.size (.slice av2 nv2 cv2) E2) ∧ Hid (EdgeI E2) ∧ Hid (CovI i E2 la lb) ∧ Hid (CovS E2 (lx.take k)) ∧ Hid (E2.length ≤ 1 + 2199023255552 * i + 2 * k) ∧ Hid (Below w.heap.size w w2)) (fun _ t5 _ => nx - (intOf t5).toNat)
      case atStart => exact ⟨0, av, nv, cv, E, by omega, rfl, rfl, HV, HED, HCOV, fun s hs => by simp at hs, HLEN, HB⟩
      case round =>
        obtain ⟨k, av2, nv2, cv2, E2, hk, rfl, rfl, HV2, HED2, HCOV2, HCX, HLEN2, HB2⟩ := hrel
        have e1 := HCELL.out _ HB2.out
        by_cases hltk : k < nx
        · have hltk' : (k : Int) < (nx : Int) := by omega
          obtain ⟨g3, o3, rfl, hg3, q, hq, c0, c1, c2⟩ := (HX.out.below HB2.out).at_ k hltk
          have hfit := RightS_fits lx Sp.zr (by decide) HRX.out q (List.mem_of_getElem? hq)
          have HQ : Hid (lx.take (k + 1) = lx.take k ++ [q]) := by show _ = _; rw [List.take_add_one, hq]; rfl
          have HQ2 : Hid (lx[k]? = some q) := hq
          clear hq hg3 c2
          obtain ⟨qf, qt, qi⟩ := q
          simp only at c0 c1 hfit
          obtain ⟨f1, f2, f3, f4, f5, f6⟩ := hfit
          have hE2 : nv2 ≤ 5000000000000 := by
            have h1 := HV2.out.rd.size
            have h2 := HLEN2.out
            omega
          go_wp2_with fail
          refine (ref_put av2 nv2 cv2 E2 qf _ HV2.out.rd hE2).mono ?_
          rintro e w3 ⟨⟨av3, nv3, cv3, rfl, HV3⟩, hb3⟩
          have HB3 : Hid (Below w.heap.size w w3) := HB2.out.trans (hb3.mono HB2.out.size)
          have HLEN3 : Hid ((putI E2 qf).length ≤ 1 + 2199023255552 * i + 2 * k + 1) := by
            show _ ≤ _
            have h1 := putI_len E2 qf
            have h2 := HLEN2.out
            omega
          have HED3 : Hid (EdgeI (putI E2 qf)) := HED2.out.put f1
          have e3 := HCELL.out _ HB3.out
          have d1 : w3.cell? ⟨g3, o3 + k * 3 + 1, none⟩ = some (.int .i64 qt) := by
            obtain ⟨g', o', hga, _, q', hq', _, c', _⟩ := (HX.out.below HB3.out).at_ k hltk
            simp only [Option.some.injEq, Addr.mk.injEq, and_true] at hga
            obtain ⟨rfl, rfl⟩ := hga
            rw [HQ2.out] at hq'
            simp only [Option.some.injEq] at hq'
            subst hq'
            exact c'
          have hE3 : nv3 ≤ 5000000000000 := by
            have h1 := HV3.out.rd.size
            have h2 := HLEN3.out
            omega
          clear hb3 c0 c1 e1
          go_wp2_with fail
          refine (ref_put av3 nv3 cv3 (putI E2 qf) (qt + 1) w3 HV3.out.rd hE3).mono ?_
          rintro e w4 ⟨⟨av4, nv4, cv4, rfl, HV4⟩, hb4⟩
          have HB4 : Hid (Below w.heap.size w w4) := HB3.out.trans (hb4.mono HB3.out.size)
          have HLEN4 : Hid ((putI (putI E2 qf) (qt + 1)).length ≤ 1 + 2199023255552 * i + 2 * (k + 1)) := by
            show _ ≤ _
            have h1 := putI_len (putI E2 qf) (qt + 1)
            have h2 := HLEN3.out
            omega
          have HED4 : Hid (EdgeI (putI (putI E2 qf) (qt + 1))) := HED3.out.put (by omega)
          have HCX4 : Hid (CovS (putI (putI E2 qf) (qt + 1)) (lx.take (k + 1))) := by
            show CovS _ _
            rw [HQ.out]
            exact HCX.out.snoc ⟨qf, qt, qi⟩ f2
          have HCOV4 : Hid (CovI i (putI (putI E2 qf) (qt + 1)) la lb) := (HCOV2.out.put _).put _
          have HV5 : Hid (Ins w4 w.heap.size (.slice av4 nv4 cv4) (putI (putI E2 qf) (qt + 1))) := HV4.out.lower HB3.out.size
          generalize putI (putI E2 qf) (qt + 1) = E4 at *
          clear hb4 d1 e3
          go_wp2
          go_roundw
          case rel => exact ⟨k + 1, av4, nv4, cv4, E4, by omega, by go_num, rfl, HV5, HED4, HCOV4, HCX4, HLEN4, HB4⟩
          case measure => simp [intOf]; omega
        · have hnl : ¬ (k : Int) < (nx : Int) := by omega
          have HCX2 : Hid (CovI (i + 1) E2 la lb) := by
            have h1 := HCX.out
            rw [List.take_of_length_le (by rw [HX.out.size]; omega)] at h1
            exact HNEXT.out E2 h1 HCOV2.out
          have HLEN3 : Hid (E2.length ≤ 1 + 2199023255552 * (i + 1)) := by
            show _ ≤ _
            have := HLEN2.out
            omega
          go_wp2
          go_roundw
          case rel => exact ⟨i + 1, av2, nv2, cv2, E2, by omega, by go_num, rfl, HV2, HED2, HCX2, HLEN3, HB2⟩
          case measure => simp [intOf]; omega
    · obtain rfl : i = 2 := by omega
      go_wp2
      go_ret
      exact ⟨⟨av, nv, cv, E, rfl, HV, HED.out, HCOV.out.1 (by omega), HCOV.out.2 (by omega), by have := HLEN.out; omega⟩, HB.out⟩
end Go.Proofs.YtidihfhgnjkmaaaGreat
/- grapevineref08: told, made. -/
namespace Go.Proofs.YtidihfhgnjkmaaaGreat
open Go.RowKit

theorem tellF_0 (x y : Int) : tellF 0 x y = max x y := rfl
theorem tellF_1 (x y : Int) : tellF 1 x y = if y = 0 then 0 else x := rfl
theorem tellF_2 (x y : Int) : tellF 2 x y = if y = 0 then x else 0 := rfl
theorem tellF_3 (x y : Int) : tellF 3 x y = if y = 0 ∨ x ≠ 0 then 0 else 1 := rfl

set_option maxRecDepth 100000 in
set_option maxHeartbeats 1000000 in
theorem ref_told (a b : Option Addr) (na ca nb cb : Nat) (la lb : List Sp) (t how : Int) (w : World) (ha : SpsRd w a na la) (hb : SpsRd w b nb lb) (hna : na ≤ 1099511627776) (hnb : nb ≤ 1099511627776) (hh : how = 0 ∨ how = 1 ∨ how = 2 ∨ how = 3) :
    Calls Tryz.prog 88 #[.slice a na ca, .slice b nb cb, .int .i64 t, .int .i64 how] w fun e w' => e = .returned (.int .i64 (tellF how (atS la t) (atS lb t))) ∧ w' = w := by
  have HA : Hid (SpsRd w a na la) := ha
  have HBB : Hid (SpsRd w b nb lb) := hb
  obtain ⟨R, HR⟩ : ∃ R, Hid (R = tellF how (atS la t) (atS lb t)) := ⟨_, rfl⟩
  obtain ⟨x, HX⟩ : ∃ x, Hid (x = atS la t) := ⟨_, rfl⟩
  obtain ⟨y, HY⟩ : ∃ y, Hid (y = atS lb t) := ⟨_, rfl⟩
  rw [← HR.out]
  have HF : Hid (R = tellF how x y) := by show _ = _; rw [HR.out, HX.out, HY.out]
  clear ha hb
  go_enter Tryz.func88, Tryz.ntmps88
  go_wp2_with fail
  refine (ref_At a na ca la t w HA.out (by unfold maxLen; omega)).mono ?_
  rw [← HX.out]
  rintro e w1 ⟨rfl, rfl⟩
  go_wp2_with fail
  refine (ref_At b nb cb lb t w1 HBB.out (by unfold maxLen; omega)).mono ?_
  rw [← HY.out]
  rintro e w2 ⟨rfl, rfl⟩
  clear HX HY HR
  rcases hh with rfl | rfl | rfl | rfl
  · by_cases h : x < y
    · have HZ : Hid (R = y) := by show _ = _; rw [HF.out, tellF_0]; omega
      clear HF
      go_wp2
      go_ret
      exact ⟨by rw [HZ.out]; rfl, rfl⟩
    · have HZ : Hid (R = x) := by show _ = _; rw [HF.out, tellF_0]; omega
      clear HF
      go_wp2
      go_ret
      exact ⟨by rw [HZ.out]; rfl, rfl⟩
  · by_cases h : y = 0
    · have HZ : Hid (R = 0) := by show _ = _; rw [HF.out, tellF_1, if_pos h]
      clear HF
      subst h
      go_wp2
      go_ret
      exact ⟨by rw [HZ.out]; rfl, rfl⟩
    · have HZ : Hid (R = x) := by show _ = _; rw [HF.out, tellF_1, if_neg h]
      have h' : (y == 0) = false := by simpa using h
      clear HF
      go_wp2
      go_ret
      exact ⟨by rw [HZ.out]; rfl, rfl⟩
  · by_cases h : y = 0
    · have HZ : Hid (R = x) := by show _ = _; rw [HF.out, tellF_2, if_pos h]
      clear HF
      subst h
      go_wp2
      go_ret
      exact ⟨by rw [HZ.out]; rfl, rfl⟩
    · have HZ : Hid (R = 0) := by show _ = _; rw [HF.out, tellF_2, if_neg h]
      have h' : (y == 0) = false := by simpa using h
      clear HF
      go_wp2
      go_ret
      exact ⟨by rw [HZ.out]; rfl, rfl⟩
  · by_cases h : y = 0
    · have HZ : Hid (R = 0) := by show _ = _; rw [HF.out, tellF_3, if_pos (.inl h)]
      clear HF
      subst h
      go_wp2
      go_ret
      exact ⟨by rw [HZ.out]; rfl, rfl⟩
    · have h' : (y == 0) = false := by simpa using h
      by_cases h2 : x = 0
      · have HZ : Hid (R = 1) := by show _ = _; rw [HF.out, tellF_3, if_neg (by omega)]
        clear HF
        subst h2
        go_wp2
        go_ret
        exact ⟨by rw [HZ.out]; rfl, rfl⟩
      · have HZ : Hid (R = 0) := by show _ = _; rw [HF.out, tellF_3, if_pos (.inr h2)]
        have h2' : (x == 0) = false := by simpa using h2
        clear HF
        go_wp2
        go_ret
        exact ⟨by rw [HZ.out]; rfl, rfl⟩

/-- A list of numbers is no list of spans: one's own list of spans may grow. -/
theorem Ins.away {w w' : World} {base base2 : Nat} {v v2 : Value} {l : List Int} {m : List Sp} (h : Ins w base v l) (h2 : Sps w base2 v2 m) (hg : w.grownBy w' v2.ownBlock) : Ins w' base v l := by
  refine ⟨⟨h.row.1, ?_⟩⟩
  rcases h.row.2 with hn | ⟨g, c, cur, hv, hbg, hgg, r⟩
  · exact .inl hn
  · refine .inr ⟨g, c, cur, hv, hbg, ?_, r⟩
    rw [hg.block g (Array.getElem?_eq_some_iff.1 hgg).1 (fun e => ?_)]
    · exact hgg
    · rcases h2.row.2 with ⟨h1, _⟩ | ⟨g2, c2, cur2, h1, _, h3, _⟩
      · rw [h1] at e; cases e
      · rw [h1] at e
        simp only [Value.ownBlock, Option.some.injEq] at e
        rw [← e, hgg] at h3
        simp only [Option.some.injEq, Obj.cells.injEq] at h3
        exact absurd h3.2.1 (by decide)

set_option maxRecDepth 100000 in
set_option maxHeartbeats 4000000 in
theorem ref_made (a b : Option Addr) (na ca nb cb : Nat) (la lb : List Sp) (how : Int) (w : World) (ha : SpsRd w a na la) (hb : SpsRd w b nb lb) (hna : na ≤ 1099511627776) (hnb : nb ≤ 1099511627776) (ra : RightS Sp.zr la) (rb : RightS Sp.zr lb) (hh : how = 0 ∨ how = 1 ∨ how = 2 ∨ how = 3) :
    Calls Tryz.prog 70 #[.slice a na ca, .slice b nb cb, .int .i64 how] w fun e w' => (∃ av nv cv l, e = .returned (.slice av nv cv) ∧ Hid (Sps w' w.heap.size (.slice av nv cv) l) ∧ Hid (RightS Sp.zr l ∧ ∀ u, atS l u = tellF how (atS la u) (atS lb u))) ∧ Below w.heap.size w w' := by
  have HA : Hid (SpsRd w a na la) := ha
  have HBB : Hid (SpsRd w b nb lb) := hb
  have HRA : Hid (RightS Sp.zr la) := ra
  have HRB : Hid (RightS Sp.zr lb) := rb
  have HNN : Hid (na ≤ 1099511627776 ∧ nb ≤ 1099511627776) := ⟨hna, hnb⟩
  have HHH : Hid (how = 0 ∨ how = 1 ∨ how = 2 ∨ how = 3) := hh
  clear ha hb ra rb hna hnb hh
  obtain ⟨W0, HW0⟩ : ∃ W0, Hid (W0 = w.alloc (.cells #[] 62)) := ⟨_, rfl⟩
  obtain ⟨W1, HW1⟩ : ∃ W1, Hid (W1 = W0.alloc (.cells #[.slice a na ca, .slice b nb cb] 30)) := ⟨_, rfl⟩
  have HBW0 : Hid (Below w.heap.size w W0) := by show Below _ _ _; rw [HW0.out]; exact below_new _ _
  have HBW1 : Hid (Below w.heap.size w W1) := by show Below _ _ _; rw [HW1.out]; exact HBW0.out.alloc HBW0.out.size _
  have HS0 : Hid (W0.heap.size = w.heap.size + 1) := by show _ = _; rw [HW0.out]; simp
  have HG1 : Hid (Bk W1 (w.heap.size + 1) #[.slice a na ca, .slice b nb cb] 30) := by
    show Bk _ _ _ _
    rw [HW1.out, ← HS0.out]
    exact Bk.new _ _ _
  have HV0 : Hid (Sps W1 w.heap.size (.slice (some ⟨w.heap.size, 0, none⟩) 0 0) []) := by
    show Sps _ _ _ _
    have h1 : Sps W0 w.heap.size (.slice (some ⟨w.heap.size, 0, none⟩) 0 0) [] := ⟨by
      have h2 := World.ownsRow_lit (base := w.heap.size) (e := 62) (size := 3) w #[] 0 (Nat.le_refl _) (Nat.zero_le _) rfl
      rw [HW0.out]
      exact h2⟩
    rw [HW1.out]
    exact h1.below (below_new _ _)
  go_enter Tryz.func70, Tryz.ntmps70
  go_wp2_with fail
  rw [← HW0.out, ← HW1.out]
  refine (ref_edges (w.heap.size + 1) a b na ca nb cb la lb W1 HG1.out (HA.out.below HBW1.out) (HBB.out.below HBW1.out) HNN.out.1 HNN.out.2 HRA.out HRB.out).mono ?_
  rintro e w2 ⟨⟨ae, ne, ce, E, rfl, HIE, HEE⟩, hb2⟩
  have HB2 : Hid (Below w.heap.size w w2) := HBW1.out.trans (hb2.mono HBW1.out.size)
  have HV2 : Hid (Sps w2 w.heap.size (.slice (some ⟨w.heap.size, 0, none⟩) 0 0) []) := HV0.out.below hb2
  have HIR : Hid (InsRd w2 ae ne E) := HIE.out.rd
  have hne : ne ≤ 4398046511105 := by
    have h1 := HIR.out.size
    have h2 := HEE.out.2.2.2
    omega
  have HIL : Hid (Ins w2 w.heap.size (.slice ae ne ce) E) := HIE.out.lower (by have := HS0.out; rw [HW1.out]; simp; omega)
  clear hb2 HIE HV0 HG1 HBW1 HBW0 HIR
  go_wp2
  go_loopw [7, 9] (fun t7 t9 wr => ∃ (i : Nat) (av : Option Addr) (nv cv : Nat) (out : List Sp), i ≤ ne ∧ t9 = .int .i64 (i : Int) ∧ t7 = .slice av nv cv ∧ Hid (Sps wr w.heap.size (.slice av nv cv) out) ∧ Hid (MadeS (fun u => tellF how (atS la u) (atS lb u)) (nextI (E.drop i)) out) ∧ Hid (Ins wr w.heap.size (.slice ae ne ce) E) ∧ Hid (Below w.heap.size w wr)) (fun _ t9 _ => ne - (intOf t9).toNat)
  case atStart =>
    refine ⟨0, _, _, _, [], by omega, rfl, rfl, HV2, ?_, HIL, HB2⟩
    obtain ⟨r, hr, _⟩ := HEE.out.1.one
    show MadeS _ _ _
    rw [hr]
    exact MadeS.start HRA.out HRB.out
  case round =>
    obtain ⟨i, av, nv, cv, out, hi, rfl, rfl, HV, HM, HI, HB⟩ := hrel
    by_cases hlt : i < ne
    · have hlt' : (i : Int) < (ne : Int) := by omega
      obtain ⟨ge, rfl, hge, t, ht, c0⟩ := HI.out.rd.at_ i hlt
      have HGE : Hid (ge < wr.heap.size) := hge
      have HD : Hid (E.drop i = t :: E.drop (i + 1)) := drop_atI ht
      obtain ⟨g1, g2, g3, g4⟩ := riseI_gap E 0 i t _ HEE.out.1.rise HD.out
      obtain ⟨n1, n2⟩ := nextI_le g3 g2
      obtain ⟨en, hen⟩ : ∃ en, en = nextI (E.drop (i + 1)) - 1 := ⟨_, rfl⟩
      have HEN : Hid (en = nextI (E.drop (i + 1)) - 1) := hen
      have hen1 : t ≤ en := by omega
      have hen2 : en ≤ 1099511627776 := by omega
      have HM1 : Hid (MadeS (fun u => tellF how (atS la u) (atS lb u)) t out) := by
        have := HM.out
        rw [HD.out] at this
        exact this
      obtain ⟨K, HK⟩ : ∃ K, Hid (K = tellF how (atS la t) (atS lb t)) := ⟨_, rfl⟩
      have HSTEP : Hid (∀ out', layS out ⟨t, en, K⟩ out' → MadeS (fun u => tellF how (atS la u) (atS lb u)) (nextI (E.drop (i + 1))) out') := fun out' hl => MadeS.step HRA.out HRB.out HEE.out.1 HEE.out.2.1 HEE.out.2.2.1 HM1.out HD.out (by rw [← HK.out, ← hen]; exact hl)
      have HNX : Hid ((i + 1 < ne ∧ ∃ y, wr.cell? ⟨ge, i + 1, none⟩ = some (.int .i64 y) ∧ en = y - 1) ∨ (¬ i + 1 < ne ∧ en = 1099511627776)) := by
        by_cases h : i + 1 < ne
        · left
          refine ⟨h, ?_⟩
          obtain ⟨g', hg', _, y, hy, cy⟩ := HI.out.rd.at_ (i + 1) h
          simp only [Option.some.injEq, Addr.mk.injEq, and_true] at hg'
          subst hg'
          refine ⟨y, cy, ?_⟩
          rw [hen, drop_atI hy]
          rfl
        · right
          refine ⟨h, ?_⟩
          rw [hen, List.drop_of_length_le (by rw [HI.out.rd.size]; omega)]
          rfl
      clear g3 g4 n1 n2 hen HM hge ht
      rcases HNX.out with ⟨hnx, y, cy, hey⟩ | ⟨hnx, hey⟩
      · have hnx' : (i : Int) + 1 < (ne : Int) := by omega
        have hyb : y = en + 1 := by omega
        subst hyb
        clear hey HNX
        go_wp2_with fail
        refine (ref_told a b na ca nb cb la lb t how wr (HA.out.below HB.out) (HBB.out.below HB.out) HNN.out.1 HNN.out.2 HHH.out).mono ?_
        rw [← HK.out]
        rintro e w3 ⟨he, hw3⟩
        subst he
        rw [hw3]
        clear hw3 w3 cy
        by_cases hK0 : K = 0
        · have HMN : Hid (MadeS (fun u => tellF how (atS la u) (atS lb u)) (nextI (E.drop (i + 1))) out) := HSTEP.out out (.inl ⟨hK0, rfl⟩)
          subst hK0
          go_wp2
          go_roundw
          case rel => exact ⟨i + 1, av, nv, cv, out, by omega, by go_num, rfl, HV, HMN, HI, HB⟩
          case measure => simp [intOf]; omega
        · have hK' : (K == 0) = false := by simpa using hK0
          rcases snocS out with rfl | ⟨ini, q, rfl⟩
          · have hnv : nv = 0 := by have := HV.out.rd.size; simpa using this.symm
            subst hnv
            have HMN : Hid (MadeS (fun u => tellF how (atS la u) (atS lb u)) (nextI (E.drop (i + 1))) [⟨t, en, K⟩]) := HSTEP.out _ (.inr (.inr ⟨hK0, fun j q e => by simp at e, rfl⟩))
            go_wp2
            go_quiet (fail)
            generalize hnq : wr.drewN _ = w4
            have hbw : Below wr.heap.size wr w4 := by rw [← hnq]; exact below_drews (Below.refl _ _) _
            have HB4 : Hid (Below w.heap.size w w4) := HB.out.trans (hbw.mono HB.out.size)
            have HV4 : Hid (Sps w4 w.heap.size (.slice av 0 cv) []) := HV.out.below hbw
            have HI4 : Hid (Ins w4 w.heap.size (.slice (some ⟨ge, 0, none⟩) ne ce) E) := HI.out.below hbw
            have d0 : w4.cell? ⟨ge, i, none⟩ = some (.int .i64 t) := (hbw.cell (p := ⟨ge, i, none⟩) HGE.out).trans c0
            clear hnq hbw c0
            have HV5 : Hid (Sps (w4.alloc (.cells #[.int .i64 t, .int .i64 en, .int .i64 K] 62)) w.heap.size (.slice av 0 cv) []) := HV4.out.below (below_new _ _)
            have HT5 : Hid (∀ j u, (Sp.cells ⟨t, en, K⟩).toList[j]? = some u → (w4.alloc (.cells #[.int .i64 t, .int .i64 en, .int .i64 K] 62)).cell? ((⟨w4.heap.size, 0, none⟩ : Addr).add j) = some u) := Sp.told (Bk.new w4 _ _)
            have HS5 : Hid (w.heap.size ≤ (w4.alloc (.cells #[.int .i64 t, .int .i64 en, .int .i64 K] 62)).heap.size) := Nat.le_trans HB4.out.size (below_new _ _).size
            go_wp2_with (at_builtin; refine wpList_append_sp rfl (.tmp 79) (.tmp 87) rfl w.heap.size (.slice av 0 cv) [] rfl HV5.out ⟨w4.heap.size, 0, none⟩ 1 ⟨t, en, K⟩ rfl HT5.out (by simp) HS5.out ?_)
            intro v' w' ho hg
            have HO : Hid (Sps w' w.heap.size v' [⟨t, en, K⟩]) := ho
            have HI5 : Hid (Ins w' w.heap.size (.slice (some ⟨ge, 0, none⟩) ne ce) E) := (HI4.out.below (below_new _ _)).away HV5.out hg
            have HB5 : Hid (Below w.heap.size w w') := (HB4.out.trans ((below_new w4 _).mono HB4.out.size)).trans (HV5.out.grown HS5.out hg)
            obtain ⟨av', cv', rfl, _⟩ := HO.out.form
            clear ho hg HV5 HT5 HS5 d0
            go_wp2
            go_roundw
            case rel => exact ⟨i + 1, av', _, cv', _, by omega, by go_num, rfl, HO, HMN, HI5, HB5⟩
            case measure => simp [intOf]; omega
          · obtain ⟨g, c, hv, hBg, hgl, hc, k0, k1, k2, fz⟩ := HV.out.spot
            simp only [Value.slice.injEq] at hv
            obtain ⟨rfl, rfl, rfl⟩ := hv
            have HLN := right_short HM1.out.ro
            rw [List.length_append, List.length_singleton] at HLN
            obtain ⟨k, hki⟩ : ∃ k, k = ini.length := ⟨_, rfl⟩
            have HKI : Hid (k = ini.length) := hki
            rw [← hki] at hc k1 k2 fz HV HLN ⊢
            obtain ⟨qf, qt, qi⟩ := q
            simp only at k1 k2
            have HGL : Hid (g < wr.heap.size) := hgl
            clear k0 hki hgl
            have hkk : ((k : Int) + 1 - 1) = k := by omega
            have hk0 : ¬ ((k : Int) < 0) := by omega
            have hk2 : (k : Int) < (k : Int) + 1 := by omega
            have hk3 : decide ((0 : Int) < (k : Int) + 1) = true := decide_eq_true (by omega)
            by_cases hA : qt = t - 1 ∧ qi = K
            · obtain ⟨rfl, rfl⟩ := hA
              have HMN : Hid (MadeS (fun u => tellF how (atS la u) (atS lb u)) (nextI (E.drop (i + 1))) (ini ++ [⟨qf, en, qi⟩])) := HSTEP.out _ (.inr (.inl ⟨hK0, ini, ⟨qf, t - 1, qi⟩, rfl, by simp only; omega, rfl, rfl⟩))
              go_wp2
              go_quiet (fail)
              generalize hnq : wr.drewN _ = w4
              have hbw : Below wr.heap.size wr w4 := by rw [← hnq]; exact below_drews (Below.refl _ _) _
              have HB4 : Hid (Below w.heap.size w w4) := HB.out.trans (hbw.mono HB.out.size)
              have HV4 : Hid (Sps w4 w.heap.size (.slice (some ⟨g, 0, none⟩) (k + 1) cv) (ini ++ [⟨qf, t - 1, qi⟩])) := HV.out.below hbw
              have HI4 : Hid (Ins w4 w.heap.size (.slice (some ⟨ge, 0, none⟩) ne ce) E) := HI.out.below hbw
              have d1 : w4.cell? ⟨g, k * 3 + 1, none⟩ = some (.int .i64 (t - 1)) := (hbw.cell (p := ⟨g, k * 3 + 1, none⟩) HGL.out).trans k1
              have fz4 : w4.frozen? ⟨g, k * 3 + 1, none⟩ = false := by
                rw [World.frozen?_of_block (a := ⟨g, k * 3 + 1, none⟩) (hbw.block g HGL.out)]
                exact fz
              have HO : Hid (Sps (w4.setCell ⟨g, k * 3 + 1, none⟩ (.int .i64 en)) w.heap.size (.slice (some ⟨g, 0, none⟩) (k + 1) cv) (ini ++ [⟨qf, en, qi⟩])) := by
                have := HV4.out.setTo en
                rw [← HKI.out] at this
                exact this
              have HI5 : Hid (Ins (w4.setCell ⟨g, k * 3 + 1, none⟩ (.int .i64 en)) w.heap.size (.slice (some ⟨ge, 0, none⟩) ne ce) E) := HI4.out.away HV4.out (grown_set (a := ⟨g, k * 3 + 1, none⟩) (Below.refl _ _))
              have HB5 : Hid (Below w.heap.size w (w4.setCell ⟨g, k * 3 + 1, none⟩ (.int .i64 en))) := HB4.out.setCell (by simpa using hBg) _
              clear hnq hbw c0 k1 k2 fz
              go_wp2
              go_roundw
              case rel => exact ⟨i + 1, _, _, _, _, by omega, by go_num, rfl, HO, HMN, HI5, HB5⟩
              case measure => simp [intOf]; omega
            · have HMN : Hid (MadeS (fun u => tellF how (atS la u) (atS lb u)) (nextI (E.drop (i + 1))) (ini ++ [⟨qf, qt, qi⟩] ++ [⟨t, en, K⟩])) := HSTEP.out _ (.inr (.inr ⟨hK0, fun j q e => by
                obtain ⟨rfl, e2⟩ := List.append_inj' e rfl
                simp only [List.cons.injEq, and_true] at e2
                subst e2
                rintro ⟨h1, h2⟩
                simp only at h1 h2
                exact hA ⟨by omega, h2.symm⟩, rfl⟩))
              have HLO : Hid ((ini ++ [(⟨qf, qt, qi⟩ : Sp)]).length ≤ 3000000000000) := by show _ ≤ _; have h1 := right_short HMN.out.ro; rw [List.length_append] at h1; omega
              obtain ⟨out2, ho2⟩ : ∃ o, o = ini ++ [(⟨qf, qt, qi⟩ : Sp)] := ⟨_, rfl⟩
              rw [← ho2] at HMN HLO HV
              clear ho2
              have rest : (qt == t - 1) = false ∨ ((qt == t - 1) = true ∧ (qi == K) = false) := by
                by_cases h1 : qt = t - 1
                · right
                  exact ⟨by simpa using h1, by simpa using fun h2 => hA ⟨h1, h2⟩⟩
                · left
                  simpa using h1
              clear hA
              rcases rest with r1 | ⟨r1, r2⟩
              · go_wp2
                go_quiet (fail)
                generalize hnq : wr.drewN _ = w4
                have hbw : Below wr.heap.size wr w4 := by rw [← hnq]; exact below_drews (Below.refl _ _) _
                have HB4 : Hid (Below w.heap.size w w4) := HB.out.trans (hbw.mono HB.out.size)
                have HV4 : Hid (Sps w4 w.heap.size (.slice (some ⟨g, 0, none⟩) (k + 1) cv) out2) := HV.out.below hbw
                have HI4 : Hid (Ins w4 w.heap.size (.slice (some ⟨ge, 0, none⟩) ne ce) E) := HI.out.below hbw
                have d0 : w4.cell? ⟨ge, i, none⟩ = some (.int .i64 t) := (hbw.cell (p := ⟨ge, i, none⟩) HGE.out).trans c0
                clear hnq hbw c0 k1 k2 fz
                have HV5 : Hid (Sps (w4.alloc (.cells #[.int .i64 t, .int .i64 en, .int .i64 K] 62)) w.heap.size (.slice (some ⟨g, 0, none⟩) (k + 1) cv) out2) := HV4.out.below (below_new _ _)
                have HT5 : Hid (∀ j u, (Sp.cells ⟨t, en, K⟩).toList[j]? = some u → (w4.alloc (.cells #[.int .i64 t, .int .i64 en, .int .i64 K] 62)).cell? ((⟨w4.heap.size, 0, none⟩ : Addr).add j) = some u) := Sp.told (Bk.new w4 _ _)
                have HS5 : Hid (w.heap.size ≤ (w4.alloc (.cells #[.int .i64 t, .int .i64 en, .int .i64 K] 62)).heap.size) := Nat.le_trans HB4.out.size (below_new _ _).size
                go_wp2_with (at_builtin; refine wpList_append_sp rfl (.tmp 79) (.tmp 87) rfl w.heap.size (.slice (some ⟨g, 0, none⟩) (k + 1) cv) out2 rfl HV5.out ⟨w4.heap.size, 0, none⟩ 1 ⟨t, en, K⟩ rfl HT5.out HLO.out HS5.out ?_)
                intro v' w' ho hg
                have HO : Hid (Sps w' w.heap.size v' (out2 ++ [⟨t, en, K⟩])) := ho
                have HI5 : Hid (Ins w' w.heap.size (.slice (some ⟨ge, 0, none⟩) ne ce) E) := (HI4.out.below (below_new _ _)).away HV5.out hg
                have HB5 : Hid (Below w.heap.size w w') := (HB4.out.trans ((below_new w4 _).mono HB4.out.size)).trans (HV5.out.grown HS5.out hg)
                obtain ⟨av', cv', rfl, _⟩ := HO.out.form
                clear ho hg HV5 HT5 HS5 d0
                go_wp2
                go_roundw
                case rel => exact ⟨i + 1, av', _, cv', _, by omega, by go_num, rfl, HO, HMN, HI5, HB5⟩
                case measure => simp [intOf]; omega
              · go_wp2
                go_quiet (fail)
                generalize hnq : wr.drewN _ = w4
                have hbw : Below wr.heap.size wr w4 := by rw [← hnq]; exact below_drews (Below.refl _ _) _
                have HB4 : Hid (Below w.heap.size w w4) := HB.out.trans (hbw.mono HB.out.size)
                have HV4 : Hid (Sps w4 w.heap.size (.slice (some ⟨g, 0, none⟩) (k + 1) cv) out2) := HV.out.below hbw
                have HI4 : Hid (Ins w4 w.heap.size (.slice (some ⟨ge, 0, none⟩) ne ce) E) := HI.out.below hbw
                have d0 : w4.cell? ⟨ge, i, none⟩ = some (.int .i64 t) := (hbw.cell (p := ⟨ge, i, none⟩) HGE.out).trans c0
                clear hnq hbw c0 k1 k2 fz
                have HV5 : Hid (Sps (w4.alloc (.cells #[.int .i64 t, .int .i64 en, .int .i64 K] 62)) w.heap.size (.slice (some ⟨g, 0, none⟩) (k + 1) cv) out2) := HV4.out.below (below_new _ _)
                have HT5 : Hid (∀ j u, (Sp.cells ⟨t, en, K⟩).toList[j]? = some u → (w4.alloc (.cells #[.int .i64 t, .int .i64 en, .int .i64 K] 62)).cell? ((⟨w4.heap.size, 0, none⟩ : Addr).add j) = some u) := Sp.told (Bk.new w4 _ _)
                have HS5 : Hid (w.heap.size ≤ (w4.alloc (.cells #[.int .i64 t, .int .i64 en, .int .i64 K] 62)).heap.size) := Nat.le_trans HB4.out.size (below_new _ _).size
                go_wp2_with (at_builtin; refine wpList_append_sp rfl (.tmp 79) (.tmp 87) rfl w.heap.size (.slice (some ⟨g, 0, none⟩) (k + 1) cv) out2 rfl HV5.out ⟨w4.heap.size, 0, none⟩ 1 ⟨t, en, K⟩ rfl HT5.out HLO.out HS5.out ?_)
                intro v' w' ho hg
                have HO : Hid (Sps w' w.heap.size v' (out2 ++ [⟨t, en, K⟩])) := ho
                have HI5 : Hid (Ins w' w.heap.size (.slice (some ⟨ge, 0, none⟩) ne ce) E) := (HI4.out.below (below_new _ _)).away HV5.out hg
                have HB5 : Hid (Below w.heap.size w w') := (HB4.out.trans ((below_new w4 _).mono HB4.out.size)).trans (HV5.out.grown HS5.out hg)
                obtain ⟨av', cv', rfl, _⟩ := HO.out.form
                clear ho hg HV5 HT5 HS5 d0
                go_wp2
                go_roundw
                case rel => exact ⟨i + 1, av', _, cv', _, by omega, by go_num, rfl, HO, HMN, HI5, HB5⟩
                case measure => simp [intOf]; omega
      · have hnx' : ¬ (i : Int) + 1 < (ne : Int) := by omega
        subst hey
        clear HNX
        go_wp2_with fail
        refine (ref_told a b na ca nb cb la lb t how wr (HA.out.below HB.out) (HBB.out.below HB.out) HNN.out.1 HNN.out.2 HHH.out).mono ?_
        rw [← HK.out]
        rintro e w3 ⟨he, hw3⟩
        subst he
        rw [hw3]
        clear hw3 w3 
        by_cases hK0 : K = 0
        · have HMN : Hid (MadeS (fun u => tellF how (atS la u) (atS lb u)) (nextI (E.drop (i + 1))) out) := HSTEP.out out (.inl ⟨hK0, rfl⟩)
          subst hK0
          go_wp2
          go_roundw
          case rel => exact ⟨i + 1, av, nv, cv, out, by omega, by go_num, rfl, HV, HMN, HI, HB⟩
          case measure => simp [intOf]; omega
        · have hK' : (K == 0) = false := by simpa using hK0
          rcases snocS out with rfl | ⟨ini, q, rfl⟩
          · have hnv : nv = 0 := by have := HV.out.rd.size; simpa using this.symm
            subst hnv
            have HMN : Hid (MadeS (fun u => tellF how (atS la u) (atS lb u)) (nextI (E.drop (i + 1))) [⟨t, 1099511627776, K⟩]) := HSTEP.out _ (.inr (.inr ⟨hK0, fun j q e => by simp at e, rfl⟩))
            go_wp2
            go_quiet (fail)
            generalize hnq : wr.drewN _ = w4
            have hbw : Below wr.heap.size wr w4 := by rw [← hnq]; exact below_drews (Below.refl _ _) _
            have HB4 : Hid (Below w.heap.size w w4) := HB.out.trans (hbw.mono HB.out.size)
            have HV4 : Hid (Sps w4 w.heap.size (.slice av 0 cv) []) := HV.out.below hbw
            have HI4 : Hid (Ins w4 w.heap.size (.slice (some ⟨ge, 0, none⟩) ne ce) E) := HI.out.below hbw
            have d0 : w4.cell? ⟨ge, i, none⟩ = some (.int .i64 t) := (hbw.cell (p := ⟨ge, i, none⟩) HGE.out).trans c0
            clear hnq hbw c0
            have HV5 : Hid (Sps (w4.alloc (.cells #[.int .i64 t, .int .i64 1099511627776, .int .i64 K] 62)) w.heap.size (.slice av 0 cv) []) := HV4.out.below (below_new _ _)
            have HT5 : Hid (∀ j u, (Sp.cells ⟨t, 1099511627776, K⟩).toList[j]? = some u → (w4.alloc (.cells #[.int .i64 t, .int .i64 1099511627776, .int .i64 K] 62)).cell? ((⟨w4.heap.size, 0, none⟩ : Addr).add j) = some u) := Sp.told (Bk.new w4 _ _)
            have HS5 : Hid (w.heap.size ≤ (w4.alloc (.cells #[.int .i64 t, .int .i64 1099511627776, .int .i64 K] 62)).heap.size) := Nat.le_trans HB4.out.size (below_new _ _).size
            go_wp2_with (at_builtin; refine wpList_append_sp rfl (.tmp 79) (.tmp 87) rfl w.heap.size (.slice av 0 cv) [] rfl HV5.out ⟨w4.heap.size, 0, none⟩ 1 ⟨t, 1099511627776, K⟩ rfl HT5.out (by simp) HS5.out ?_)
            intro v' w' ho hg
            have HO : Hid (Sps w' w.heap.size v' [⟨t, 1099511627776, K⟩]) := ho
            have HI5 : Hid (Ins w' w.heap.size (.slice (some ⟨ge, 0, none⟩) ne ce) E) := (HI4.out.below (below_new _ _)).away HV5.out hg
            have HB5 : Hid (Below w.heap.size w w') := (HB4.out.trans ((below_new w4 _).mono HB4.out.size)).trans (HV5.out.grown HS5.out hg)
            obtain ⟨av', cv', rfl, _⟩ := HO.out.form
            clear ho hg HV5 HT5 HS5 d0
            go_wp2
            go_roundw
            case rel => exact ⟨i + 1, av', _, cv', _, by omega, by go_num, rfl, HO, HMN, HI5, HB5⟩
            case measure => simp [intOf]; omega
          · obtain ⟨g, c, hv, hBg, hgl, hc, k0, k1, k2, fz⟩ := HV.out.spot
            simp only [Value.slice.injEq] at hv
            obtain ⟨rfl, rfl, rfl⟩ := hv
            have HLN := right_short HM1.out.ro
            rw [List.length_append, List.length_singleton] at HLN
            obtain ⟨k, hki⟩ : ∃ k, k = ini.length := ⟨_, rfl⟩
            have HKI : Hid (k = ini.length) := hki
            rw [← hki] at hc k1 k2 fz HV HLN ⊢
            obtain ⟨qf, qt, qi⟩ := q
            simp only at k1 k2
            have HGL : Hid (g < wr.heap.size) := hgl
            clear k0 hki hgl
            have hkk : ((k : Int) + 1 - 1) = k := by omega
            have hk0 : ¬ ((k : Int) < 0) := by omega
            have hk2 : (k : Int) < (k : Int) + 1 := by omega
            have hk3 : decide ((0 : Int) < (k : Int) + 1) = true := decide_eq_true (by omega)
            by_cases hA : qt = t - 1 ∧ qi = K
            · obtain ⟨rfl, rfl⟩ := hA
              have HMN : Hid (MadeS (fun u => tellF how (atS la u) (atS lb u)) (nextI (E.drop (i + 1))) (ini ++ [⟨qf, 1099511627776, qi⟩])) := HSTEP.out _ (.inr (.inl ⟨hK0, ini, ⟨qf, t - 1, qi⟩, rfl, by simp only; omega, rfl, rfl⟩))
              go_wp2
              go_quiet (fail)
              generalize hnq : wr.drewN _ = w4
              have hbw : Below wr.heap.size wr w4 := by rw [← hnq]; exact below_drews (Below.refl _ _) _
              have HB4 : Hid (Below w.heap.size w w4) := HB.out.trans (hbw.mono HB.out.size)
              have HV4 : Hid (Sps w4 w.heap.size (.slice (some ⟨g, 0, none⟩) (k + 1) cv) (ini ++ [⟨qf, t - 1, qi⟩])) := HV.out.below hbw
              have HI4 : Hid (Ins w4 w.heap.size (.slice (some ⟨ge, 0, none⟩) ne ce) E) := HI.out.below hbw
              have d1 : w4.cell? ⟨g, k * 3 + 1, none⟩ = some (.int .i64 (t - 1)) := (hbw.cell (p := ⟨g, k * 3 + 1, none⟩) HGL.out).trans k1
              have fz4 : w4.frozen? ⟨g, k * 3 + 1, none⟩ = false := by
                rw [World.frozen?_of_block (a := ⟨g, k * 3 + 1, none⟩) (hbw.block g HGL.out)]
                exact fz
              have HO : Hid (Sps (w4.setCell ⟨g, k * 3 + 1, none⟩ (.int .i64 1099511627776)) w.heap.size (.slice (some ⟨g, 0, none⟩) (k + 1) cv) (ini ++ [⟨qf, 1099511627776, qi⟩])) := by
                have := HV4.out.setTo 1099511627776
                rw [← HKI.out] at this
                exact this
              have HI5 : Hid (Ins (w4.setCell ⟨g, k * 3 + 1, none⟩ (.int .i64 1099511627776)) w.heap.size (.slice (some ⟨ge, 0, none⟩) ne ce) E) := HI4.out.away HV4.out (grown_set (a := ⟨g, k * 3 + 1, none⟩) (Below.refl _ _))
              have HB5 : Hid (Below w.heap.size w (w4.setCell ⟨g, k * 3 + 1, none⟩ (.int .i64 1099511627776))) := HB4.out.setCell (by simpa using hBg) _
              clear hnq hbw c0 k1 k2 fz
              go_wp2
              go_roundw
              case rel => exact ⟨i + 1, _, _, _, _, by omega, by go_num, rfl, HO, HMN, HI5, HB5⟩
              case measure => simp [intOf]; omega
            · have HMN : Hid (MadeS (fun u => tellF how (atS la u) (atS lb u)) (nextI (E.drop (i + 1))) (ini ++ [⟨qf, qt, qi⟩] ++ [⟨t, 1099511627776, K⟩])) := HSTEP.out _ (.inr (.inr ⟨hK0, fun j q e => by
                obtain ⟨rfl, e2⟩ := List.append_inj' e rfl
                simp only [List.cons.injEq, and_true] at e2
                subst e2
                rintro ⟨h1, h2⟩
                simp only at h1 h2
                exact hA ⟨by omega, h2.symm⟩, rfl⟩))
              have HLO : Hid ((ini ++ [(⟨qf, qt, qi⟩ : Sp)]).length ≤ 3000000000000) := by show _ ≤ _; have h1 := right_short HMN.out.ro; rw [List.length_append] at h1; omega
              obtain ⟨out2, ho2⟩ : ∃ o, o = ini ++ [(⟨qf, qt, qi⟩ : Sp)] := ⟨_, rfl⟩
              rw [← ho2] at HMN HLO HV
              clear ho2
              have rest : (qt == t - 1) = false ∨ ((qt == t - 1) = true ∧ (qi == K) = false) := by
                by_cases h1 : qt = t - 1
                · right
                  exact ⟨by simpa using h1, by simpa using fun h2 => hA ⟨h1, h2⟩⟩
                · left
                  simpa using h1
              clear hA
              rcases rest with r1 | ⟨r1, r2⟩
              · go_wp2
                go_quiet (fail)
                generalize hnq : wr.drewN _ = w4
                have hbw : Below wr.heap.size wr w4 := by rw [← hnq]; exact below_drews (Below.refl _ _) _
                have HB4 : Hid (Below w.heap.size w w4) := HB.out.trans (hbw.mono HB.out.size)
                have HV4 : Hid (Sps w4 w.heap.size (.slice (some ⟨g, 0, none⟩) (k + 1) cv) out2) := HV.out.below hbw
                have HI4 : Hid (Ins w4 w.heap.size (.slice (some ⟨ge, 0, none⟩) ne ce) E) := HI.out.below hbw
                have d0 : w4.cell? ⟨ge, i, none⟩ = some (.int .i64 t) := (hbw.cell (p := ⟨ge, i, none⟩) HGE.out).trans c0
                clear hnq hbw c0 k1 k2 fz
                have HV5 : Hid (Sps (w4.alloc (.cells #[.int .i64 t, .int .i64 1099511627776, .int .i64 K] 62)) w.heap.size (.slice (some ⟨g, 0, none⟩) (k + 1) cv) out2) := HV4.out.below (below_new _ _)
                have HT5 : Hid (∀ j u, (Sp.cells ⟨t, 1099511627776, K⟩).toList[j]? = some u → (w4.alloc (.cells #[.int .i64 t, .int .i64 1099511627776, .int .i64 K] 62)).cell? ((⟨w4.heap.size, 0, none⟩ : Addr).add j) = some u) := Sp.told (Bk.new w4 _ _)
                have HS5 : Hid (w.heap.size ≤ (w4.alloc (.cells #[.int .i64 t, .int .i64 1099511627776, .int .i64 K] 62)).heap.size) := Nat.le_trans HB4.out.size (below_new _ _).size
                go_wp2_with (at_builtin; refine wpList_append_sp rfl (.tmp 79) (.tmp 87) rfl w.heap.size (.slice (some ⟨g, 0, none⟩) (k + 1) cv) out2 rfl HV5.out ⟨w4.heap.size, 0, none⟩ 1 ⟨t, 1099511627776, K⟩ rfl HT5.out HLO.out HS5.out ?_)
                intro v' w' ho hg
                have HO : Hid (Sps w' w.heap.size v' (out2 ++ [⟨t, 1099511627776, K⟩])) := ho
                have HI5 : Hid (Ins w' w.heap.size (.slice (some ⟨ge, 0, none⟩) ne ce) E) := (HI4.out.below (below_new _ _)).away HV5.out hg
                have HB5 : Hid (Below w.heap.size w w') := (HB4.out.trans ((below_new w4 _).mono HB4.out.size)).trans (HV5.out.grown HS5.out hg)
                obtain ⟨av', cv', rfl, _⟩ := HO.out.form
                clear ho hg HV5 HT5 HS5 d0
                go_wp2
                go_roundw
                case rel => exact ⟨i + 1, av', _, cv', _, by omega, by go_num, rfl, HO, HMN, HI5, HB5⟩
                case measure => simp [intOf]; omega
              · go_wp2
                go_quiet (fail)
                generalize hnq : wr.drewN _ = w4
                have hbw : Below wr.heap.size wr w4 := by rw [← hnq]; exact below_drews (Below.refl _ _) _
                have HB4 : Hid (Below w.heap.size w w4) := HB.out.trans (hbw.mono HB.out.size)
                have HV4 : Hid (Sps w4 w.heap.size (.slice (some ⟨g, 0, none⟩) (k + 1) cv) out2) := HV.out.below hbw
                have HI4 : Hid (Ins w4 w.heap.size (.slice (some ⟨ge, 0, none⟩) ne ce) E) := HI.out.below hbw
                have d0 : w4.cell? ⟨ge, i, none⟩ = some (.int .i64 t) := (hbw.cell (p := ⟨ge, i, none⟩) HGE.out).trans c0
                clear hnq hbw c0 k1 k2 fz
                have HV5 : Hid (Sps (w4.alloc (.cells #[.int .i64 t, .int .i64 1099511627776, .int .i64 K] 62)) w.heap.size (.slice (some ⟨g, 0, none⟩) (k + 1) cv) out2) := HV4.out.below (below_new _ _)
                have HT5 : Hid (∀ j u, (Sp.cells ⟨t, 1099511627776, K⟩).toList[j]? = some u → (w4.alloc (.cells #[.int .i64 t, .int .i64 1099511627776, .int .i64 K] 62)).cell? ((⟨w4.heap.size, 0, none⟩ : Addr).add j) = some u) := Sp.told (Bk.new w4 _ _)
                have HS5 : Hid (w.heap.size ≤ (w4.alloc (.cells #[.int .i64 t, .int .i64 1099511627776, .int .i64 K] 62)).heap.size) := Nat.le_trans HB4.out.size (below_new _ _).size
                go_wp2_with (at_builtin; refine wpList_append_sp rfl (.tmp 79) (.tmp 87) rfl w.heap.size (.slice (some ⟨g, 0, none⟩) (k + 1) cv) out2 rfl HV5.out ⟨w4.heap.size, 0, none⟩ 1 ⟨t, 1099511627776, K⟩ rfl HT5.out HLO.out HS5.out ?_)
                intro v' w' ho hg
                have HO : Hid (Sps w' w.heap.size v' (out2 ++ [⟨t, 1099511627776, K⟩])) := ho
                have HI5 : Hid (Ins w' w.heap.size (.slice (some ⟨ge, 0, none⟩) ne ce) E) := (HI4.out.below (below_new _ _)).away HV5.out hg
                have HB5 : Hid (Below w.heap.size w w') := (HB4.out.trans ((below_new w4 _).mono HB4.out.size)).trans (HV5.out.grown HS5.out hg)
                obtain ⟨av', cv', rfl, _⟩ := HO.out.form
                clear ho hg HV5 HT5 HS5 d0
                go_wp2
                go_roundw
                case rel => exact ⟨i + 1, av', _, cv', _, by omega, by go_num, rfl, HO, HMN, HI5, HB5⟩
                case measure => simp [intOf]; omega
    · obtain rfl : i = ne := by omega
      have HX : Hid (RightS Sp.zr out ∧ ∀ u, atS out u = tellF how (atS la u) (atS lb u)) := by
        have h1 := HM.out
        rw [List.drop_of_length_le (by rw [HI.out.rd.size]; omega)] at h1
        exact MadeS.done HRA.out HRB.out h1
      clear HM
      go_wp2
      go_ret
      exact ⟨⟨av, nv, cv, out, rfl, HV, HX⟩, HB.out⟩
end Go.Proofs.YtidihfhgnjkmaaaGreat
/- grapevineref08: Join, ranged, Keep, Forget, Gaps. -/
namespace Go.Proofs.YtidihfhgnjkmaaaGreat
open Go.RowKit

set_option maxRecDepth 100000 in
set_option maxHeartbeats 1000000 in
theorem ref_Join (a b : Option Addr) (na ca nb cb : Nat) (la lb : List Sp) (w : World) (ha : SpsRd w a na la) (hb : SpsRd w b nb lb) (hna : na ≤ 1099511627776) (hnb : nb ≤ 1099511627776) :
    Calls Tryz.prog 42 #[.slice a na ca, .slice b nb cb] w fun e w' => Hid (JoinTold w' w.heap.size la lb e) ∧ Below w.heap.size w w' := by
  have HA : Hid (SpsRd w a na la) := ha
  have HBB : Hid (SpsRd w b nb lb) := hb
  have HNN : Hid (na ≤ 1099511627776 ∧ nb ≤ 1099511627776) := ⟨hna, hnb⟩
  clear ha hb hna hnb
  go_enter Tryz.func42, Tryz.ntmps42
  go_wp2_with fail
  refine (ref_Right a na ca la w HA.out (by have := HNN.out; unfold maxLen; omega)).mono ?_
  rintro e w1 ⟨rfl, hb1⟩
  have HB1 : Hid (Below w.heap.size w w1) := hb1
  clear hb1
  cases hra : rightB Sp.zr la with
  | false =>
    have HX : Hid (rightB Sp.zr la = false) := hra
    clear hra
    go_wp2
    go_returns
    exact ⟨.inl ⟨.inl HX.out, rfl⟩, HB1.out⟩
  | true =>
    have HXA : Hid (RightS Sp.zr la) := (rightB_iff _ _).1 hra
    clear hra
    go_wp2_with fail
    refine (ref_Right b nb cb lb w1 (HBB.out.below HB1.out) (by have := HNN.out; unfold maxLen; omega)).mono ?_
    rintro e w2 ⟨rfl, hb2⟩
    have HB2 : Hid (Below w.heap.size w w2) := HB1.out.trans (hb2.mono HB1.out.size)
    clear hb2
    cases hrb : rightB Sp.zr lb with
    | false =>
      have HX : Hid (rightB Sp.zr lb = false) := hrb
      clear hrb
      go_wp2
      go_returns
      exact ⟨.inl ⟨.inr HX.out, rfl⟩, HB2.out⟩
    | true =>
      have HXB : Hid (RightS Sp.zr lb) := (rightB_iff _ _).1 hrb
      clear hrb
      go_wp2_with fail
      refine (ref_made a b na ca nb cb la lb 0 w2 (HA.out.below HB2.out) (HBB.out.below HB2.out) HNN.out.1 HNN.out.2 HXA.out HXB.out (.inl rfl)).mono ?_
      rintro e w3 ⟨⟨av, nv, cv, l, rfl, HV, HL⟩, hb3⟩
      have HB3 : Hid (Below w.heap.size w w3) := HB2.out.trans (hb3.mono HB2.out.size)
      have HV3 : Hid (Sps w3 w.heap.size (.slice av nv cv) l) := HV.out.lower HB2.out.size
      clear hb3
      go_wp2
      go_returns
      exact ⟨.inr ⟨HXA.out, HXB.out, .slice av nv cv, l, rfl, HV3.out, HL.out.1, HL.out.2⟩, HB3.out⟩

/-- What the map of a map and a range tells. -/
def RangedTold (w : World) (B : Nat) (ok : Bool) (how : Int) (l : List Sp) (f t : Int) (e : Ending) : Prop :=
  (ok = false ∧ e = .returned (.tuple #[.slice none 0 0, .int .i64 2])) ∨ (ok = true ∧ ∃ v m, e = .returned (.tuple #[v, .int .i64 0]) ∧ Sps w B v m ∧ RightS Sp.zr m ∧ ∀ u, atS m u = tellF how (atS l u) (atS (rangeS f t) u))

set_option maxRecDepth 100000 in
set_option maxHeartbeats 1000000 in
theorem ref_ranged8 (a : Option Addr) (n c : Nat) (l : List Sp) (f t how : Int) (w : World) (ha : SpsRd w a n l) (hn : n ≤ 1099511627776) (hh : how = 0 ∨ how = 1 ∨ how = 2 ∨ how = 3) :
    Calls Tryz.prog 43 #[.slice a n c, .int .i64 f, .int .i64 t, .int .i64 how] w fun e w' => Hid (RangedTold w' w.heap.size (rightB Sp.zr l && mayB f t) how l f t e) ∧ Below w.heap.size w w' := by
  have HA : Hid (SpsRd w a n l) := ha
  have HN : Hid (n ≤ 1099511627776) := hn
  have HH : Hid (how = 0 ∨ how = 1 ∨ how = 2 ∨ how = 3) := hh
  clear ha hn hh
  obtain ⟨ok, HD⟩ : ∃ ok, Hid (ok = (rightB Sp.zr l && mayB f t)) := ⟨_, rfl⟩
  rw [← HD.out]
  go_enter Tryz.func43, Tryz.ntmps43
  go_wp2_with fail
  refine (ref_Right a n c l w HA.out (by have := HN.out; unfold maxLen; omega)).mono ?_
  rintro e w1 ⟨rfl, hb1⟩
  have HB1 : Hid (Below w.heap.size w w1) := hb1
  clear hb1
  cases hra : rightB Sp.zr l with
  | false =>
    have HM : Hid (ok = false) := by show _ = _; rw [HD.out, hra]; rfl
    clear hra
    go_wp2
    go_returns
    exact ⟨.inl ⟨HM.out, rfl⟩, HB1.out⟩
  | true =>
    have HXA : Hid (RightS Sp.zr l) := (rightB_iff _ _).1 hra
    have HXB : Hid (rightB Sp.zr l = true) := hra
    clear hra
    by_cases h1 : f < 1
    · have HM : Hid (ok = false) := by show _ = _; rw [HD.out, HXB.out, (mayB_not f t).2 (by omega)]; rfl
      go_wp2
      go_returns
      exact ⟨.inl ⟨HM.out, rfl⟩, HB1.out⟩
    by_cases h2 : t < f
    · have HM : Hid (ok = false) := by show _ = _; rw [HD.out, HXB.out, (mayB_not f t).2 (by omega)]; rfl
      go_wp2
      go_returns
      exact ⟨.inl ⟨HM.out, rfl⟩, HB1.out⟩
    by_cases h3 : 1099511627776 < t
    · have HM : Hid (ok = false) := by show _ = _; rw [HD.out, HXB.out, (mayB_not f t).2 (by omega)]; rfl
      go_wp2
      go_returns
      exact ⟨.inl ⟨HM.out, rfl⟩, HB1.out⟩
    have HM : Hid (ok = true) := by show _ = _; rw [HD.out, HXB.out, (mayB_iff _ _).2 ⟨by omega, by omega, by omega⟩]; rfl
    have HRB : Hid (RightS Sp.zr (rangeS f t)) := rangeS_right (by omega) (by omega) (by omega)
    have HX : Hid (Below w1.heap.size w1 (w1.alloc (.cells #[.int .i64 f, .int .i64 t, .int .i64 1] 62))) := below_new _ _
    have HRG : Hid (SpsRd (w1.alloc (.cells #[.int .i64 f, .int .i64 t, .int .i64 1] 62)) (some ⟨w1.heap.size, 0, none⟩) 1 (rangeS f t)) := (Sps.one (base := w1.heap.size) (q := ⟨f, t, 1⟩) (Bk.new w1 _ _) (Nat.le_refl _)).rd
    go_wp2_with fail
    refine (ref_made a (some ⟨w1.heap.size, 0, none⟩) n c 1 1 l (rangeS f t) how _ ((HA.out.below HB1.out).below HX.out) HRG.out HN.out (by omega) HXA.out HRB.out HH.out).mono ?_
    rintro e w3 ⟨⟨av, nv, cv, m, rfl, HV, HL⟩, hb3⟩
    have HB2 : Hid (Below w.heap.size w (w1.alloc (.cells #[.int .i64 f, .int .i64 t, .int .i64 1] 62))) := HB1.out.trans (HX.out.mono HB1.out.size)
    have HB3 : Hid (Below w.heap.size w w3) := HB2.out.trans (hb3.mono HB2.out.size)
    have HV3 : Hid (Sps w3 w.heap.size (.slice av nv cv) m) := HV.out.lower HB2.out.size
    clear hb3
    go_wp2
    go_returns
    exact ⟨.inr ⟨HM.out, .slice av nv cv, m, rfl, HV3.out, HL.out.1, HL.out.2⟩, HB3.out⟩

set_option maxRecDepth 100000 in
theorem ref_Keep (a : Option Addr) (n c : Nat) (l : List Sp) (f t : Int) (w : World) (ha : SpsRd w a n l) (hn : n ≤ 1099511627776) :
    Calls Tryz.prog 15 #[.slice a n c, .int .i64 f, .int .i64 t] w fun e w' => Hid (RangeTold w' w.heap.size (rightB Sp.zr l && mayB f t) (keepS l f t) e) ∧ Below w.heap.size w w' := by
  have HA : Hid (SpsRd w a n l) := ha
  clear ha
  go_enter Tryz.func15, Tryz.ntmps15
  go_wp2_with fail
  refine (ref_ranged8 a n c l f t 1 w HA.out hn (.inr (.inl rfl))).mono ?_
  rintro e w1 ⟨ht, hb1⟩
  have HB1 : Hid (Below w.heap.size w w1) := hb1
  clear hb1
  rcases ht.out with ⟨hok, rfl⟩ | ⟨hok, v, m, rfl, hv, hr, hu⟩
  · have HOK : Hid ((rightB Sp.zr l && mayB f t) = false) := hok
    clear hok ht
    go_wp2
    go_returns
    exact ⟨.inl ⟨HOK.out, rfl⟩, HB1.out⟩
  · have HOK : Hid ((rightB Sp.zr l && mayB f t) = true) := hok
    rw [Bool.and_eq_true] at hok
    have hrl := (rightB_iff _ _).1 hok.1
    have hm := (mayB_iff _ _).1 hok.2
    have e : m = keepS l f t := canonS _ _ _ _ hr (keep_right l Sp.zr Sp.zr f t hrl (Int.le_refl _) (fun _ => rfl)) fun u => by
      rw [hu, keep_at, tellF_1, rangeS_at]
      by_cases h : f ≤ u ∧ u ≤ t
      · rw [if_pos h, if_neg (by omega), if_pos h]
      · rw [if_neg h, if_pos rfl, if_neg h]
    have HV : Hid (Sps w1 w.heap.size v (keepS l f t)) := by show Sps _ _ _ _; rw [← e]; exact hv
    obtain ⟨av, cv, rfl, _⟩ := hv.form
    clear ht hok hrl hm e hv hr hu
    go_wp2
    go_returns
    exact ⟨.inr ⟨HOK.out, _, rfl, HV.out⟩, HB1.out⟩

set_option maxRecDepth 100000 in
theorem ref_Forget (a : Option Addr) (n c : Nat) (l : List Sp) (f t : Int) (w : World) (ha : SpsRd w a n l) (hn : n ≤ 1099511627776) :
    Calls Tryz.prog 76 #[.slice a n c, .int .i64 f, .int .i64 t] w fun e w' => Hid (RangeTold w' w.heap.size (rightB Sp.zr l && mayB f t) (forgetS l f t) e) ∧ Below w.heap.size w w' := by
  have HA : Hid (SpsRd w a n l) := ha
  clear ha
  go_enter Tryz.func76, Tryz.ntmps76
  go_wp2_with fail
  refine (ref_ranged8 a n c l f t 2 w HA.out hn (.inr (.inr (.inl rfl)))).mono ?_
  rintro e w1 ⟨ht, hb1⟩
  have HB1 : Hid (Below w.heap.size w w1) := hb1
  clear hb1
  rcases ht.out with ⟨hok, rfl⟩ | ⟨hok, v, m, rfl, hv, hr, hu⟩
  · have HOK : Hid ((rightB Sp.zr l && mayB f t) = false) := hok
    clear hok ht
    go_wp2
    go_returns
    exact ⟨.inl ⟨HOK.out, rfl⟩, HB1.out⟩
  · have HOK : Hid ((rightB Sp.zr l && mayB f t) = true) := hok
    rw [Bool.and_eq_true] at hok
    have hrl := (rightB_iff _ _).1 hok.1
    have hm := (mayB_iff _ _).1 hok.2
    have e : m = forgetS l f t := canonS _ _ _ _ hr (forget_right l Sp.zr Sp.zr f t hm.2.1 hrl (Int.le_refl _) (fun _ => rfl)) fun u => by
      rw [hu, forget_at l Sp.zr f t u hm.2.1 (by decide) hrl, tellF_2, rangeS_at]
      by_cases h : f ≤ u ∧ u ≤ t
      · rw [if_pos h, if_neg (by omega), if_pos h]
      · rw [if_neg h, if_pos rfl, if_neg h]
    have HV : Hid (Sps w1 w.heap.size v (forgetS l f t)) := by show Sps _ _ _ _; rw [← e]; exact hv
    obtain ⟨av, cv, rfl, _⟩ := hv.form
    clear ht hok hrl hm e hv hr hu
    go_wp2
    go_returns
    exact ⟨.inr ⟨HOK.out, _, rfl, HV.out⟩, HB1.out⟩

end Go.Proofs.YtidihfhgnjkmaaaGreat
/- Right maps in memory, and whether they are the same. -/
namespace Go.Proofs.YtidihfhgnjkmaaaGreat
open Go.RowKit

theorem ref_Same_ok {a b : Option Addr} {na ca nb cb : Nat} {la lb : List Sp} {w : World} (ha : MapOk w a na ca la) (hb : MapOk w b nb cb lb) (h : ∀ t, atS la t = atS lb t) :
    Calls Tryz.prog 17 #[.slice a na ca, .slice b nb cb] w fun e w' => e = .returned (.bool true) ∧ Below w.heap.size w w' := by
  have e := canonS la lb _ _ ha.right hb.right h
  refine (ref_Same a b na ca nb cb la lb w ha.rd hb.rd ha.len).mono ?_
  rw [(sameB_iff la lb).2 e]
  exact fun _ _ h => h
theorem i64_in (x : Int) (h : (-9223372036854775808 : Int) ≤ x ∧ x ≤ 9223372036854775807) : IntKind.i64.wrap x = x := by rw [IntKind.wrap_i64]; omega
end Go.Proofs.YtidihfhgnjkmaaaGreat
