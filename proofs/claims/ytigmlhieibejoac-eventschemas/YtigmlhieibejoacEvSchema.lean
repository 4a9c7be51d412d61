/- event.CheckSchema: what is wrong with a schema, for every one. -/
import Derived.Test.YtigmlhieibejoacEvCheck
import Derived.Deep.SlicePairs
import Derived.Deep.QuietTactic
import Derived.BigQuiet
import Derived.Test.YtigmlhieibejoacFrame
namespace Go.Proofs.Ytigmlhieibejoac
open Go.RowKit

/-- A slice of fields reads as those names and kinds. -/
structure Flds (w : World) (a : Option Addr) (n : Nat) (ps : List (ByteArray × Int)) : Prop where
  size : ps.length = n
  cells : n = 0 ∨ ∃ b off, a = some ⟨b, off, none⟩ ∧ b < w.heap.size ∧ ∀ i p, ps[i]? = some p → w.cell? ⟨b, off + i * 2, none⟩ = some (.string p.1) ∧ w.cell? ⟨b, off + i * 2 + 1, none⟩ = some (.int .i64 p.2)
  small : ∀ p ∈ ps, p.1.size ≤ maxLen ∧ (-9223372036854775808 : Int) ≤ p.2 ∧ p.2 ≤ 9223372036854775807

theorem Flds.below {w w' : World} {a : Option Addr} {n : Nat} {ps : List (ByteArray × Int)} (h : Flds w a n ps) (hb : Below w.heap.size w w') : Flds w' a n ps := by
  refine ⟨h.size, ?_, h.small⟩
  rcases h.cells with h0 | ⟨b, off, ha, hlt, hc⟩
  · exact .inl h0
  · refine .inr ⟨b, off, ha, Nat.lt_of_lt_of_le hlt hb.size, fun i p hp => ?_⟩
    rw [hb.cell (p := ⟨b, off + i * 2, none⟩) hlt, hb.cell (p := ⟨b, off + i * 2 + 1, none⟩) hlt]
    exact hc i p hp

/-- What is wrong with fields behind a name. -/
def schErr : List (ByteArray × Int) → ByteArray → Int
  | [], _ => 0
  | p :: r, t => if nameB p.1 = false then 11 else if leB p.1 t = true then 4 else if p.2 < 1 ∨ 4 < p.2 then 12 else schErr r p.1

theorem schErr_name {p : ByteArray × Int} {r : List (ByteArray × Int)} {t : ByteArray} (h : ¬ nameOk p.1) : schErr (p :: r) t = 11 := by
  rw [schErr, if_pos (Bool.eq_false_iff.2 fun h2 => h ((nameB_iff _).1 h2))]
theorem schErr_form {p : ByteArray × Int} {r : List (ByteArray × Int)} {t : ByteArray} (h : nameOk p.1) (h2 : leB p.1 t = true) : schErr (p :: r) t = 4 := by
  rw [schErr, if_neg (by rw [(nameB_iff _).2 h]; simp), if_pos h2]
theorem schErr_type {p : ByteArray × Int} {r : List (ByteArray × Int)} {t : ByteArray} (h : nameOk p.1) (h2 : leB p.1 t = false) (h3 : p.2 < 1 ∨ 4 < p.2) : schErr (p :: r) t = 12 := by
  rw [schErr, if_neg (by rw [(nameB_iff _).2 h]; simp), if_neg (by rw [h2]; simp), if_pos h3]
theorem schErr_ok {p : ByteArray × Int} {r : List (ByteArray × Int)} {t : ByteArray} (h : nameOk p.1) (h2 : leB p.1 t = false) (h3 : ¬ (p.2 < 1 ∨ 4 < p.2)) : schErr (p :: r) t = schErr r p.1 := by
  rw [schErr, if_neg (by rw [(nameB_iff _).2 h]; simp), if_neg (by rw [h2]; simp), if_neg h3]

theorem event_CheckSchema_long (a : Option Addr) (n cap : Nat) (w : World) (h8 : 8 < n) (hn : n ≤ maxLen) : Calls Try.prog 8 #[.slice a n cap] w fun e w' => e = .returned (.int .i64 6) ∧ w' = w := by
  unfold maxLen at hn
  go_enter Try.func8, Try.ntmps8
  go_wp2
  go_ret
  exact ⟨rfl, rfl⟩

set_option maxRecDepth 100000 in
set_option maxHeartbeats 1000000 in
theorem event_CheckSchema (a : Option Addr) (n cap : Nat) (ps : List (ByteArray × Int)) (w : World) (hf : Flds w a n ps) (h8 : n ≤ 8) : Calls Try.prog 8 #[.slice a n cap] w fun e w' => e = .returned (.int .i64 (schErr ps ⟨#[]⟩)) ∧ Below w.heap.size w w' := by
  have HF : Hid (Flds w a n ps) := hf
  clear hf
  obtain ⟨f, HFF⟩ : ∃ f, Hid (f = schErr ps ⟨#[]⟩) := ⟨_, rfl⟩
  rw [← HFF.out]
  go_enter Try.func8, Try.ntmps8
  have h8' : ¬ 8 < (n : Int) := by omega
  go_wp2
  clear h8'
  go_loopw [3, 12] (fun t3 t12 wr => ∃ (k : Nat) (t : ByteArray), k ≤ n ∧ t3 = .string t ∧ t12 = .int .i64 (k : Int) ∧ Hid (schErr (ps.drop k) t = f) ∧ Hid (Below w.heap.size w wr)) (fun _ t12 _ => n - (intOf t12).toNat)
  case atStart => exact ⟨0, ⟨#[]⟩, by omega, rfl, rfl, HFF.out.symm, Below.refl _ _⟩
  case round =>
    obtain ⟨k, t, hk, rfl, rfl, HE, HB⟩ := hrel
    by_cases hlt : k < n
    · have hlt' : (k : Int) < (n : Int) := by omega
      obtain ⟨b, off, rfl, hbl, hc⟩ : ∃ b off, a = some ⟨b, off, none⟩ ∧ b < w.heap.size ∧ ∀ i p, ps[i]? = some p → w.cell? ⟨b, off + i * 2, none⟩ = some (.string p.1) ∧ w.cell? ⟨b, off + i * 2 + 1, none⟩ = some (.int .i64 p.2) := by
        rcases HF.out.cells with h0 | h0
        · omega
        · exact h0
      have hps : k < ps.length := by rw [HF.out.size]; exact hlt
      obtain ⟨s, q, hsq⟩ : ∃ s q, ps[k] = (s, q) := ⟨_, _, rfl⟩
      obtain ⟨e0, e1⟩ := hc k (s, q) (by rw [List.getElem?_eq_getElem hps, hsq])
      obtain ⟨hsm, hq1, hq2⟩ := HF.out.small (s, q) (by rw [← hsq]; exact List.getElem_mem hps)
      have HSM : Hid (s.size ≤ maxLen) := hsm
      have HD : Hid (ps.drop k = (s, q) :: ps.drop (k + 1)) := by show _ = _; rw [List.drop_eq_getElem_cons hps, hsq]
      have c0 : wr.cell? ⟨b, off + k * 2, none⟩ = some (.string s) := (HB.out.cell (p := ⟨b, off + k * 2, none⟩) hbl).trans e0
      have c1 : wr.cell? ⟨b, off + k * 2 + 1, none⟩ = some (.int .i64 q) := (HB.out.cell (p := ⟨b, off + k * 2 + 1, none⟩) hbl).trans e1
      clear hc e0 e1 hsm hps hsq
      have HB' : Hid (Below w.heap.size w (wr.alloc (.cells #[.string s, .int .i64 q] 42))) := HB.out.alloc HB.out.size _
      go_wp2_with fail
      refine (event_checkName s t HSM.out _).mono ?_
      rintro e w1 ⟨⟨g, rfl, hg⟩, rfl⟩
      rcases hg with ⟨hn, rfl⟩ | ⟨hn, hle, rfl⟩ | ⟨hn, hle, rfl⟩
      · have HR : Hid (f = 11) := by show _ = _; rw [← HE.out, HD.out, schErr_name hn]
        clear hn
        go_wp2
        go_ret
        exact ⟨by rw [HR.out]; rfl, HB'.out⟩
      · have HR : Hid (f = 4) := by show _ = _; rw [← HE.out, HD.out, schErr_form hn hle]
        clear hn hle
        go_wp2
        go_ret
        exact ⟨by rw [HR.out]; rfl, HB'.out⟩
      · have HN : Hid (nameOk s) := hn
        have HL : Hid (leB s t = false) := hle
        clear hn hle
        by_cases hk1 : q < 1
        · have HR : Hid (f = 12) := by show _ = _; rw [← HE.out, HD.out, schErr_type HN.out HL.out (.inl hk1)]
          go_wp2
          go_ret
          exact ⟨by rw [HR.out]; rfl, HB'.out⟩
        · by_cases hk4 : 4 < q
          · have HR : Hid (f = 12) := by show _ = _; rw [← HE.out, HD.out, schErr_type HN.out HL.out (.inr hk4)]
            go_wp2
            go_ret
            exact ⟨by rw [HR.out]; rfl, HB'.out⟩
          · have HR : Hid (schErr (ps.drop (k + 1)) s = f) := by show _ = _; rw [← HE.out, HD.out, schErr_ok HN.out HL.out (by omega)]
            go_wp2
            go_round
            case rel => exact ⟨k + 1, s, by omega, rfl, by go_num, HR.out, HB'.out⟩
            case measure => simp [intOf]; omega
    · have hnl : ¬ (k : Int) < (n : Int) := by omega
      have HR : Hid (f = 0) := by
        show _ = _
        rw [← HE.out, List.drop_of_length_le (by rw [HF.out.size]; omega)]
        rfl
      go_wp2
      go_ret
      exact ⟨by rw [HR.out]; rfl, HB.out⟩

theorem below_drewN (w : World) (n : Nat) : Below w.heap.size w (w.drewN n) := ⟨rfl, rfl, rfl, Nat.le_refl _, fun _ _ => rfl⟩

theorem leB_empty {s : ByteArray} (h : nameOk s) : leB s ⟨#[]⟩ = false := by
  have h1 := h.1
  have e : s.data.toList ≠ [] := by
    intro he
    have : s.data.toList.length = 0 := by rw [he]; rfl
    rw [Array.length_toList] at this
    have h2 : s.size = s.data.size := rfl
    omega
  have e2 : s.data ≠ #[] := fun h3 => e (by rw [h3])
  simp [leB, Lib.toList_data, Proofs.bytesLess_eq, e2]

/-- The name ahead of a place. -/
def prevName (ps : List (ByteArray × Int)) : Nat → ByteArray
  | 0 => ⟨#[]⟩
  | k + 1 => (ps.getD k (⟨#[]⟩, 0)).1
theorem prevName_succ (ps : List (ByteArray × Int)) (k : Nat) (h : k < ps.length) : prevName ps (k + 1) = ps[k].1 := by
  rw [prevName, List.getD_eq_getElem?_getD, List.getElem?_eq_getElem h]; rfl

theorem ref_CheckSchema_long (a : Option Addr) (n cap : Nat) (w : World) (h8 : 8 < n) (hn : n ≤ maxLen) : Calls Try.prog 9 #[.slice a n cap] w fun e w' => e = .returned (.int .i64 6) ∧ w' = w := by
  unfold maxLen at hn
  go_enter Try.func9, Try.ntmps9
  go_wp2
  go_ret
  exact ⟨rfl, rfl⟩

set_option maxRecDepth 100000 in
set_option maxHeartbeats 1000000 in
theorem ref_CheckSchema (a : Option Addr) (n cap : Nat) (ps : List (ByteArray × Int)) (w : World) (hf : Flds w a n ps) (h8 : n ≤ 8) : Calls Try.prog 9 #[.slice a n cap] w fun e w' => e = .returned (.int .i64 (schErr ps ⟨#[]⟩)) ∧ Below w.heap.size w w' := by
  have HF : Hid (Flds w a n ps) := hf
  clear hf
  obtain ⟨f, HFF⟩ : ∃ f, Hid (f = schErr ps ⟨#[]⟩) := ⟨_, rfl⟩
  rw [← HFF.out]
  go_enter Try.func9, Try.ntmps9
  have h8' : ¬ 8 < (n : Int) := by omega
  go_wp2
  clear h8'
  go_loopw [3] (fun t3 wr => ∃ (k : Nat), k ≤ n ∧ t3 = .int .i64 (k : Int) ∧ Hid (schErr (ps.drop k) (prevName ps k) = f) ∧ Hid (Below w.heap.size w wr)) (fun t3 _ => n - (intOf t3).toNat)
  case atStart => exact ⟨0, by omega, rfl, HFF.out.symm, Below.refl _ _⟩
  case round =>
    obtain ⟨k, hk, rfl, HE, HB⟩ := hrel
    by_cases hlt : k < n
    · have hlt' : (k : Int) < (n : Int) := by omega
      obtain ⟨b, off, rfl, hbl, hc⟩ : ∃ b off, a = some ⟨b, off, none⟩ ∧ b < w.heap.size ∧ ∀ i p, ps[i]? = some p → w.cell? ⟨b, off + i * 2, none⟩ = some (.string p.1) ∧ w.cell? ⟨b, off + i * 2 + 1, none⟩ = some (.int .i64 p.2) := by
        rcases HF.out.cells with h0 | h0
        · omega
        · exact h0
      have hps : k < ps.length := by rw [HF.out.size]; exact hlt
      obtain ⟨s, q, hsq⟩ : ∃ s q, ps[k] = (s, q) := ⟨_, _, rfl⟩
      obtain ⟨e0, e1⟩ := hc k (s, q) (by rw [List.getElem?_eq_getElem hps, hsq])
      obtain ⟨hsm, hq1, hq2⟩ := HF.out.small (s, q) (by rw [← hsq]; exact List.getElem_mem hps)
      have HSM : Hid (s.size ≤ maxLen) := hsm
      have HD : Hid (ps.drop k = (s, q) :: ps.drop (k + 1)) := by show _ = _; rw [List.drop_eq_getElem_cons hps, hsq]
      have HP : Hid (prevName ps (k + 1) = s) := by show _ = _; rw [prevName_succ ps k hps, hsq]
      have c0 : wr.cell? ⟨b, off + k * 2, none⟩ = some (.string s) := (HB.out.cell (p := ⟨b, off + k * 2, none⟩) hbl).trans e0
      have c1 : wr.cell? ⟨b, off + k * 2 + 1, none⟩ = some (.int .i64 q) := (HB.out.cell (p := ⟨b, off + k * 2 + 1, none⟩) hbl).trans e1
      have HPV : Hid (∀ j, k = j + 1 → wr.cell? ⟨b, off + j * 2, none⟩ = some (.string (prevName ps k))) := by
        intro j hj
        subst hj
        have hjs : j < ps.length := by omega
        rw [HB.out.cell (p := ⟨b, off + j * 2, none⟩) hbl, prevName_succ ps j hjs]
        exact (hc j ps[j] (List.getElem?_eq_getElem hjs)).1
      clear hc e0 e1 hsm hps hsq
      obtain ⟨t, HT⟩ : ∃ t, Hid (prevName ps k = t) := ⟨_, rfl⟩
      rw [HT.out] at HE HPV
      go_wp2_with fail
      refine (ref_Name s HSM.out _).mono ?_
      rintro e w1 ⟨⟨b1, rfl, hb1⟩, rfl⟩
      cases b1 with
      | false =>
        have HR : Hid (f = 11) := by show _ = _; rw [← HE.out, HD.out, schErr_name (fun h => by cases hb1.2 h)]
        clear hb1
        go_wp2
        go_ret
        exact ⟨by rw [HR.out]; rfl, HB.out⟩
      | true =>
        have HN : Hid (nameOk s) := hb1.1 rfl
        clear hb1
        by_cases hk0 : k = 0
        · subst hk0
          simp only [Nat.zero_mul, Nat.add_zero, Int.cast_ofNat_Int] at c0 c1 ⊢
          have HLF : Hid (leB s t = false) := by
            show _ = _
            rw [← HT.out]
            exact leB_empty HN.out
          go_wp2
          go_quiet (fail)
          generalize hnq : w1.drewN _ = w2
          have HB2 : Hid (Below w.heap.size w w2) := by rw [← hnq]; exact HB.out.trans ((below_drewN w1 _).mono HB.out.size)
          have d1 : w2.cell? ⟨b, off + 1, none⟩ = some (.int .i64 q) := by rw [← hnq]; exact ((below_drewN w1 _).cell (p := ⟨b, off + 1, none⟩) (World.block_lt_of_cell? w1 _ c1)).trans c1
          clear hnq c0 c1
          by_cases hk1 : q < 1
          · have HR : Hid (f = 12) := by show _ = _; rw [← HE.out, HD.out, schErr_type HN.out HLF.out (.inl hk1)]
            go_wp2
            go_ret
            exact ⟨by rw [HR.out]; rfl, HB2.out⟩
          · by_cases hk4 : 4 < q
            · have HR : Hid (f = 12) := by show _ = _; rw [← HE.out, HD.out, schErr_type HN.out HLF.out (.inr hk4)]
              go_wp2
              go_ret
              exact ⟨by rw [HR.out]; rfl, HB2.out⟩
            · have HR : Hid (schErr (ps.drop (0 + 1)) (prevName ps (0 + 1)) = f) := by show _ = _; rw [HP.out, ← HE.out, HD.out, schErr_ok HN.out HLF.out (by omega)]
              go_wp2
              go_roundw
              case rel => exact ⟨0 + 1, by omega, rfl, HR.out, HB2.out⟩
              case measure => simp [intOf]; omega
        · obtain ⟨j, rfl⟩ : ∃ j, k = j + 1 := ⟨k - 1, by omega⟩
          have hz : (0 : Int) < ((j + 1 : Nat) : Int) := by omega
          have p0 := HPV.out j rfl
          go_wp2
          go_quiet (fail)
          have HL : Hid ((Op.bytesLess s.toList t.toList || s.toList == t.toList) = leB s t) := rfl
          rw [HL.out]
          generalize hnq : w1.drewN _ = w2
          have HB2 : Hid (Below w.heap.size w w2) := by rw [← hnq]; exact HB.out.trans ((below_drewN w1 _).mono HB.out.size)
          have d1 : w2.cell? ⟨b, off + (j + 1) * 2 + 1, none⟩ = some (.int .i64 q) := by rw [← hnq]; exact ((below_drewN w1 _).cell (p := ⟨b, off + (j + 1) * 2 + 1, none⟩) (World.block_lt_of_cell? w1 _ c1)).trans c1
          clear hnq c0 c1 p0
          cases hle : leB s t with
          | true =>
            have HR : Hid (f = 4) := by show _ = _; rw [← HE.out, HD.out, schErr_form HN.out hle]
            clear hle
            go_wp2
            go_ret
            exact ⟨by rw [HR.out]; rfl, HB2.out⟩
          | false =>
            have HLF : Hid (leB s t = false) := hle
            clear hle
            by_cases hk1 : q < 1
            · have HR : Hid (f = 12) := by show _ = _; rw [← HE.out, HD.out, schErr_type HN.out HLF.out (.inl hk1)]
              go_wp2
              go_ret
              exact ⟨by rw [HR.out]; rfl, HB2.out⟩
            · by_cases hk4 : 4 < q
              · have HR : Hid (f = 12) := by show _ = _; rw [← HE.out, HD.out, schErr_type HN.out HLF.out (.inr hk4)]
                go_wp2
                go_ret
                exact ⟨by rw [HR.out]; rfl, HB2.out⟩
              · have HR : Hid (schErr (ps.drop (j + 1 + 1)) (prevName ps (j + 1 + 1)) = f) := by show _ = _; rw [HP.out, ← HE.out, HD.out, schErr_ok HN.out HLF.out (by omega)]
                go_wp2
                go_roundw
                case rel => exact ⟨j + 1 + 1, by omega, by go_num, HR.out, HB2.out⟩
                case measure => simp [intOf]; omega
    · have hnl : ¬ (k : Int) < (n : Int) := by omega
      have HR : Hid (f = 0) := by
        show _ = _
        rw [← HE.out, List.drop_of_length_le (by rw [HF.out.size]; omega)]
        rfl
      go_wp2
      go_ret
      exact ⟨by rw [HR.out]; rfl, HB.out⟩
end Go.Proofs.Ytigmlhieibejoac
