/- event.takeAttrs: the attributes at a place. -/
import Derived.Test.YtigmlhieibejoadEvTake
import Derived.Test.YtigmlhieibejoadValOnceM
namespace Go.Proofs.Ytigmlhieibejoad
open Go.RowKit

/-- A list of attributes of one's own. -/
structure Ats (w : World) (base : Nat) (v : Value) (l : List At) : Prop where
  row : w.ownsRow base 51 6 v l.length (l.flatMap fun q => q.cells.toList)
theorem Ats.nil_ (w : World) (base : Nat) : Ats w base (.slice none 0 0) [] := ⟨⟨rfl, .inl ⟨rfl, rfl⟩⟩⟩
theorem Ats.below {w w' : World} {base : Nat} {v : Value} {l : List At} (h : Ats w base v l) (hb : Below w.heap.size w w') : Ats w' base v l := by
  refine ⟨⟨h.row.1, ?_⟩⟩
  rcases h.row.2 with hn | ⟨g, c, cur, hv, hbg, hg, r⟩
  · exact .inl hn
  · exact .inr ⟨g, c, cur, hv, hbg, by rw [hb.block g (Array.getElem?_eq_some_iff.1 hg).1]; exact hg, r⟩
theorem Ats.lower {w : World} {base base' : Nat} {v : Value} {l : List At} (h : Ats w base v l) (hb : base' ≤ base) : Ats w base' v l := by
  refine ⟨⟨h.row.1, ?_⟩⟩
  rcases h.row.2 with hn | ⟨g, c, cur, hv, hbg, r⟩
  · exact .inl hn
  · exact .inr ⟨g, c, cur, hv, Nat.le_trans hb hbg, r⟩
theorem Ats.snoc {w' : World} {base : Nat} {v' : Value} {l : List At} (q : At) (hrow : w'.ownsRow base 51 6 v' (l.length + 1) ((l.flatMap fun q => q.cells.toList) ++ q.cells.toList)) : Ats w' base v' (l ++ [q]) := by
  refine ⟨?_⟩
  rw [List.length_append, List.flatMap_append]
  simpa using hrow
theorem At.one (q : At) : ∀ u ∈ q.cells.toList, u.oneCell' = true := by
  intro u hu
  simp only [At.cells, List.mem_cons, List.not_mem_nil, or_false] at hu
  rcases hu with rfl | rfl | rfl | rfl | rfl | rfl <;> rfl
theorem Ats.at_ {w : World} {base : Nat} {v : Value} {l : List At} (h : Ats w base v l) {k : Nat} (hk : v.ownBlock = some k) : base ≤ k := (h.row.lt k hk).1
/-- It is a slice of just so many. -/
theorem Ats.form {w : World} {base : Nat} {v : Value} {l : List At} (h : Ats w base v l) : ∃ a c, v = .slice a l.length c := by
  rcases h.row.2 with ⟨hv, hn⟩ | ⟨g, c, cur, hv, _⟩
  · exact ⟨none, 0, by rw [hv, hn]⟩
  · exact ⟨_, c, hv⟩

theorem infoAttr : (Try.prog.info? 51).map (fun i => (i.zero, i.size, i.bytes)) = some (some (.agg #[.string ⟨#[]⟩, .int .i64 0, .int .i64 0, .string ⟨#[]⟩, .bool false, .complex .f64 0 0]), 6, 72) := by kernel_rfl

set_option maxRecDepth 100000 in
set_option maxHeartbeats 2000000 in
theorem event_takeAttrs (a : Option Addr) (len cap : Nat) (bs : List Nat) (x : Int) (w : World) (hr : Rd w a len bs) (hlc : len ≤ cap) (hl : len ≤ 9223372036854775000) (hx : (-9223372036854775808 : Int) ≤ x ∧ x ≤ 9223372036854775807) (L : List At) (K F : Nat) (hS : attrsAt bs x = (L, K, F)) :
    Calls Try.prog 10 #[.slice a len cap, .int .i64 x] w fun e w' => ∃ v, e = .returned (.tuple #[v, .int .i64 (K : Int), .int .i64 (F : Int)]) ∧ Ats w' w.heap.size v L ∧ Below w.heap.size w w' := by
  have hcx : ∀ (a : Addr) (m : Mode) (W : World) (x y : Nat), (store a (.complex .f64 x y) m).run Try.prog W = stored Try.prog W a (.complex .f64 x y) m := fun a m W x y => run_store _ _ _ _ _ rfl
  have HR : Hid (Rd w a len bs) := hr
  have HX : Hid ((-9223372036854775808 : Int) ≤ x ∧ x ≤ 9223372036854775807) := hx
  have HBL : Hid (bs.length = len) := hr.size
  have hsm := take_small bs x hr.byte
  obtain ⟨n, k, f, hT⟩ : ∃ n k f, Leb.take bs x = (n, k, f) := ⟨_, _, _, rfl⟩
  rw [hT] at hsm
  have HT : Hid (Leb.take bs x = (n, k, f)) := hT
  have HS : Hid (attrsAt bs x = (L, K, F)) := hS
  obtain ⟨i0, hi, hz0, hz1, hz2⟩ := info_parts infoAttr
  clear hr hx hT hS
  by_cases hf : f = 0
  · subst hf
    by_cases h8 : 8 < n
    · have HE : Hid (L = [] ∧ K = 0 ∧ F = 6) := by
        have := HS.out
        rw [attrsAt_limit HT.out h8] at this
        simp only [Prod.mk.injEq] at this
        exact ⟨this.1.symm, this.2.1.symm, this.2.2.symm⟩
      have h8' : (8 : Int) < (n : Int) := by omega
      go_enter Try.func10, Try.ntmps10
      go_wp2_with fail
      refine (octet_TakeUint a len cap bs x w HR.out hl HX.out).mono ?_
      rw [HT.out, told]
      rintro e w1 ⟨rfl, rfl⟩
      go_wp2
      go_ret3
      obtain ⟨rfl, rfl, rfl⟩ := HE.out
      exact ⟨_, rfl, Ats.nil_ _ _, Below.refl _ _⟩
    · have HG : Hid (goAt bs n k ⟨#[]⟩ [] = (L, K, F)) := by show _ = _; rw [← attrsAt_go HT.out h8]; exact HS.out
      have hkl : k ≤ bs.length := by
        obtain ⟨_, _, _, h, _, _, _⟩ := Leb.take_once bs x HR.out.byte n k HT.out
        exact h
      rw [HBL.out] at hkl
      have h8' : ¬ (8 : Int) < (n : Int) := by omega
      clear hsm HS
      go_enter Try.func10, Try.ntmps10
      go_wp2_with fail
      refine (octet_TakeUint a len cap bs x w HR.out hl HX.out).mono ?_
      rw [HT.out, told]
      rintro e w1 ⟨rfl, rfl⟩
      go_wp2
      go_loopw [8, 10, 11, 28] (fun t8 t10 t11 t28 wr => ∃ (i m p : Nat) (t : ByteArray) (acc : List At), i + m = n ∧ p ≤ len ∧ acc.length = i ∧ t8 = .int .i64 (p : Int) ∧ t11 = .string t ∧ t28 = .int .u64 (i : Int) ∧ Hid (Ats wr w1.heap.size t10 acc) ∧ Hid (Below w1.heap.size w1 wr) ∧ Hid (goAt bs m p t acc = (L, K, F))) (fun _ _ _ t28 _ => n - (intOf t28).toNat)
      case atStart => exact ⟨0, n, k, ⟨#[]⟩, [], by omega, hkl, rfl, rfl, rfl, rfl, Ats.nil_ _ _, Below.refl _ _, HG⟩
      case round =>
        obtain ⟨i, m, p, t, acc, him, hp, hal, rfl, rfl, rfl, HF, HB, HGO⟩ := hrel
        by_cases hlt : i < n
        · have hlt' : (i : Int) < (n : Int) := by omega
          obtain ⟨m, rfl⟩ : ∃ m', m = m' + 1 := ⟨m - 1, by omega⟩
          rcases hq : attrAt bs p t with ⟨q, k1, f1⟩
          have HQ : Hid (attrAt bs p t = (q, k1, f1)) := hq
          clear hq
          by_cases hf1 : f1 = 0
          · subst hf1
            have HGO' : Hid (goAt bs m k1 q.1 (acc ++ [q]) = (L, K, F)) := by show _ = _; rw [← goAt_ok HQ.out]; exact HGO.out
            have hk1 : k1 ≤ len := by
              rcases attrAt_cases bs p t with ⟨g, h1, h2⟩ | ⟨l, k, v, j, h1, h2, h3, h4, h5⟩
              · rw [HQ.out] at h1
                simp only [Prod.mk.injEq] at h1
                exact absurd h1.2.2.symm h2
              · rw [HQ.out] at h5
                simp only [Prod.mk.injEq] at h5
                obtain ⟨_, _, h6, _⟩ := valAt_once HR.out.byte h4
                rw [HBL.out] at h6
                omega
            clear HGO
            go_wp2_with fail
            refine (event_takeAttr a len cap bs p t wr (HR.out.below HB.out) hlc hl hp).mono ?_
            rw [HQ.out]
            rintro e w2 ⟨rfl, hb2⟩
            obtain ⟨qn, vk, vw, vs, vt, vx, vy⟩ := q
            simp only [toldA, At.cells]
            have HB2 : Hid (Below w1.heap.size w1 w2) := HB.out.trans (hb2.mono HB.out.size)
            have HF2 : Hid (Ats w2 w1.heap.size u10 acc) := HF.out.below hb2
            clear hb2
            have HA1 : Hid (Below w2.heap.size w2 ((w2.alloc (.cells #[.string qn, .int .i64 vk, .int .i64 vw, .string vs, .bool vt, .complex .f64 vx vy] 51)).alloc (.cells #[.string qn, .int .i64 vk, .int .i64 vw, .string vs, .bool vt, .complex .f64 vx vy] 51))) := ((Below.refl _ _).alloc (Nat.le_refl _) _).alloc (by simp) _
            go_wp2_with (at_builtin; refine wpList_append_own _ (by rfl) (.tmp 41) (.tmp 43) 23 (by rfl) w1.heap.size 51 i0 (.agg #[.string ⟨#[]⟩, .int .i64 0, .int .i64 0, .string ⟨#[]⟩, .bool false, .complex .f64 0 0]) 6 72 Try.underlying23 hi hz0 hz1 hz2 (by rfl) (by decide) u10 acc.length (acc.flatMap fun q => q.cells.toList) (by rfl) (HF2.out.below HA1.out).row ⟨w2.heap.size + 1, 0, none⟩ 1 1 (At.cells (qn, ⟨vk, vw, vs, vt, vx, vy⟩)).toList (by rfl) (by rfl) ?_ ?_ (by unfold maxLen; omega) (by omega) (Nat.le_trans HB2.out.size HA1.out.size) ?_)
            · intro j u hj
              match j with
              | 0 => simp [At.cells] at hj; subst hj; simp
              | 1 => simp [At.cells] at hj; subst hj; simp
              | 2 => simp [At.cells] at hj; subst hj; simp
              | 3 => simp [At.cells] at hj; subst hj; simp
              | 4 => simp [At.cells] at hj; subst hj; simp
              | 5 => simp [At.cells] at hj; subst hj; simp
              | j + 6 => simp [At.cells] at hj
            · intro u hu
              exact At.one _ u (by simpa using hu)
            intro v' w3 hrow hgrow _
            have HF3 : Hid (Ats w3 w1.heap.size v' (acc ++ [(qn, ⟨vk, vw, vs, vt, vx, vy⟩)])) := by rw [← hal] at hrow; exact Ats.snoc _ hrow
            have HBL3 : Below w1.heap.size w1 w3 := (HB2.out.trans (HA1.out.mono HB2.out.size)).trans ((Below.refl _ _).grown hgrow (Nat.le_trans HB2.out.size HA1.out.size) (fun k hk => Ats.at_ (HF2.out.below HA1.out) hk))
            have HB3 : Hid (Below w1.heap.size w1 w3) := HBL3
            have c0 : w3.cell? ⟨w2.heap.size, 0, none⟩ = some (.string qn) := by
              refine hgrow.cell (by simp) ?_
              intro he
              have := (HF2.out.row.lt _ he.symm).2
              simp at this
            clear hrow hgrow HBL3
            go_wp2
            go_roundw
            case rel => exact ⟨i + 1, m, k1, qn, acc ++ [(qn, ⟨vk, vw, vs, vt, vx, vy⟩)], by omega, hk1, by simp; omega, rfl, rfl, by go_num, HF3, HB3, HGO'⟩
            case measure => simp [intOf]; omega
          · have hf1' : (f1 : Int) ≠ 0 := by omega
            have HE : Hid (L = [] ∧ K = 0 ∧ F = f1) := by
              have := HGO.out
              rw [goAt_err HQ.out hf1] at this
              simp only [Prod.mk.injEq] at this
              exact ⟨this.1.symm, this.2.1.symm, this.2.2.symm⟩
            clear HGO
            go_wp2_with fail
            refine (event_takeAttr a len cap bs p t wr (HR.out.below HB.out) hlc hl hp).mono ?_
            rw [HQ.out]
            rintro e w2 ⟨rfl, hb2⟩
            obtain ⟨qn, vk, vw, vs, vt, vx, vy⟩ := q
            simp only [toldA, At.cells]
            have HB2 : Hid (Below w1.heap.size w1 w2) := HB.out.trans (hb2.mono HB.out.size)
            clear hb2
            go_wp2
            go_ret3
            obtain ⟨rfl, rfl, rfl⟩ := HE.out
            exact ⟨_, rfl, Ats.nil_ _ _, HB2.out.alloc HB2.out.size _⟩
        · have hnl : ¬ (i : Int) < (n : Int) := by omega
          obtain rfl : m = 0 := by omega
          have HE : Hid (acc = L ∧ p = K ∧ 0 = F) := by
            have := HGO.out
            rw [goAt] at this
            simp only [Prod.mk.injEq] at this
            exact this
          go_wp2
          go_ret3
          obtain ⟨rfl, rfl, rfl⟩ := HE.out
          exact ⟨_, rfl, HF.out, HB.out⟩
  · have hf' : (f : Int) ≠ 0 := by omega
    have HE : Hid (L = [] ∧ K = 0 ∧ F = f) := by
      have := HS.out
      rw [attrsAt_err HT.out hf] at this
      simp only [Prod.mk.injEq] at this
      exact ⟨this.1.symm, this.2.1.symm, this.2.2.symm⟩
    go_enter Try.func10, Try.ntmps10
    go_wp2_with fail
    refine (octet_TakeUint a len cap bs x w HR.out hl HX.out).mono ?_
    rw [HT.out, told]
    rintro e w1 ⟨rfl, rfl⟩
    go_wp2
    go_ret3
    obtain ⟨rfl, rfl, rfl⟩ := HE.out
    exact ⟨_, rfl, Ats.nil_ _ _, Below.refl _ _⟩
end Go.Proofs.Ytigmlhieibejoad
