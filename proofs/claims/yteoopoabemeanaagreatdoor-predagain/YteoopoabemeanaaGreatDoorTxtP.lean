/- A pack of texts: PrT3 PrT4. -/
import Derived.Test.YteoopoabemeanaaGreatDoorPrT2
import Derived.Test.YteoopoabemeanaaGreatDoorCharP
import Derived.Lib.LaidTab
import Derived.FnData
/- pred.stringText. -/
namespace Go.Proofs.YteoopoabemeanaaGreatDoor
set_option maxRecDepth 100000
open Go.RowKit

theorem quoB_take {l : List Nat} {i : Nat} (h : i < l.length) : (l.take (i + 1)).flatMap quoB = (l.take i).flatMap quoB ++ quoB l[i] := by
  rw [List.take_succ_eq_append_getElem h, List.flatMap_append, List.flatMap_singleton]
theorem quo_len (l : List Nat) : (l.flatMap quoB).length ≤ 4 * l.length := by
  induction l with
  | nil => simp
  | cons c l ih =>
    rw [List.flatMap_cons, List.length_append, List.length_cons]
    have : (quoB c).length ≤ 4 := by
      unfold quoB
      split
      · simp
      · split <;> simp
    omega
theorem hex_dig_fin : ∀ k : Fin 16, ((⟨#[48, 49, 50, 51, 52, 53, 54, 55, 56, 57, 97, 98, 99, 100, 101, 102]⟩ : ByteArray)[k.val]'k.isLt).toNat = if k.val < 10 then 48 + k.val else 87 + k.val := by decide +kernel
theorem hex_dig (k : Nat) (h : k < 16) : ((⟨#[48, 49, 50, 51, 52, 53, 54, 55, 56, 57, 97, 98, 99, 100, 101, 102]⟩ : ByteArray)[k]'h).toNat = if k < 10 then 48 + k else 87 + k := hex_dig_fin ⟨k, h⟩
theorem bui_string {w : World} {B b cap : Nat} {a : Option Addr} {bs : List Nat} (h : Bui w B b (.pointer (some ⟨b, 0, none⟩)) a cap bs) (hB : B ≤ w.heap.size) : Calls Tryz.prog 74 #[.pointer (some ⟨b, 0, none⟩)] w fun e w' => e = .returned (.string (str bs)) ∧ Below B w w' := by
  have hcells : Lib.byteCells (bs.map fun n => UInt8.ofNat n) = vb bs := by
    unfold Lib.byteCells vb
    rw [List.map_map]
    apply List.map_congr_left
    intro x hx
    have := h.own.byte x hx
    simp only [Function.comp_apply]
    congr 1
    rw [UInt8.toNat_ofNat']
    omega
  refine (Tryz.Builder_String_any B b (bs.map fun n => UInt8.ofNat n) w (.inr ⟨h.on, _, h.blk, ?_, h.ne⟩) hB).mono ?_
  · rw [hcells, vb_length]; exact h.own.row
  · rintro e w' ⟨rfl, hb⟩
    exact ⟨rfl, hb⟩
set_option maxHeartbeats 4000000 in
theorem string_text (t : ByteArray) (ht : t.size ≤ 200) (w : World) : Calls Tryz.prog 54 #[.string t] w fun e w' => e = .returned (.string (str (quoT (nameL t)))) ∧ Below w.heap.size w w' := by
  obtain ⟨l, HL⟩ : ∃ l, Hid (nameL t = l) := ⟨_, rfl⟩
  have hlen : l.length = t.size := by rw [← HL.out, nameL_length]
  rw [HL.out]
  have HQL : Hid (∀ i, ((l.take i).flatMap quoB).length ≤ 800) := fun i => by have h := quo_len (l.take i); rw [List.length_take] at h; omega
  have HBY : Hid (∀ i (h : i < t.size), ∃ h' : i < l.length, l[i] = t[i].toNat) := by
    (show ∀ _, _)
    intro i h
    refine ⟨by omega, ?_⟩
    have e : l = t.data.toList.map fun c => c.toNat := HL.out.symm
    subst e
    rw [List.getElem_map]
    rfl
  obtain ⟨n, HN⟩ : ∃ n, Hid (t.size = n) := ⟨_, rfl⟩
  go_enter Tryz.func54, Tryz.ntmps54
  go_wp2_with fail
  refine (write_byte (Bui.fresh w) (.inl rfl) (by simp) (by simp) 34 (by omega)).mono ?_
  rintro e w1 ⟨rfl, ⟨a1, cap1, h1⟩, hb1⟩
  have HB1 : Hid (Below w.heap.size w w1) := (below_alloc w _).trans hb1
  have HU1 : Hid (Bui w1 w.heap.size w.heap.size (.pointer (some ⟨w.heap.size, 0, none⟩)) a1 cap1 (34 :: (l.take 0).flatMap quoB)) := h1
  clear h1 hb1
  go_wp2
  go_loopw [9] (fun t9 wr => ∃ (i : Nat) (a : Option Addr) (cap : Nat), t9 = .int .i64 (i : Int) ∧ i ≤ t.size ∧ Hid (Bui wr w.heap.size w.heap.size (.pointer (some ⟨w.heap.size, 0, none⟩)) a cap (34 :: (l.take i).flatMap quoB)) ∧ Hid (Below w.heap.size w wr)) (fun t9 _ => t.size - (intOf t9).toNat)
  case atStart => exact ⟨0, a1, cap1, rfl, by omega, HU1, HB1⟩
  case round =>
    obtain ⟨i, a, cap, rfl, hi, HU, HB⟩ := hrel
    clear HU1 HB1
    by_cases hlt : i < t.size
    · have hlt' : (i : Int) < (t.size : Int) := by omega
      have h0 : (0 : Int) ≤ (i : Int) := by omega
      obtain ⟨hil, hib⟩ := HBY.out i hlt
      have hc256 : t[i].toNat < 256 := t[i].toNat_lt
      obtain ⟨c, hc⟩ : ∃ c, t[i].toNat = c := ⟨_, rfl⟩
      have HX : Hid (34 :: (l.take (i + 1)).flatMap quoB = (34 :: (l.take i).flatMap quoB) ++ quoB c) := by (show _ = _); rw [quoB_take hil, hib, hc]; rfl
      have HLE : Hid ((34 :: (l.take i).flatMap quoB).length ≤ 801) := by (show _ ≤ _); have := HQL.out i; rw [List.length_cons]; omega
      obtain ⟨P, HP⟩ : ∃ P, Hid (34 :: (l.take i).flatMap quoB = P) := ⟨_, rfl⟩
      rw [HP.out] at HX HLE HU
      rw [hc] at hc256
      clear hil hib
      by_cases hcc : c = 34
      · subst hcc
        have HQ : Hid (quoB 34 = [92, 34]) := rfl
        rw [HQ.out] at HX
        go_wp2_with fail
        refine (write_byte HU.out (.inr rfl) HB.out.size (by have := HLE.out; omega) 92 (by omega)).mono ?_
        rintro e w2 ⟨rfl, ⟨a2, cap2, h2⟩, hb2⟩
        have HU2 : Hid (Bui w2 w.heap.size w.heap.size (.pointer (some ⟨w.heap.size, 0, none⟩)) a2 cap2 (P ++ [92])) := h2
        have HB2 : Hid (Below w.heap.size w w2) := HB.out.trans hb2
        have HL2 : Hid ((P ++ [92]).length ≤ 900) := by (show _ ≤ _); have := HLE.out; rw [List.length_append, List.length_singleton]; omega
        clear h2 hb2 HU HB
        go_wp2_with fail
        refine (write_byte HU2.out (.inr rfl) HB2.out.size (by have := HL2.out; omega) 34 (by omega)).mono ?_
        rintro e w3 ⟨rfl, ⟨a3, cap3, h3⟩, hb3⟩
        have HU3 : Hid (Bui w3 w.heap.size w.heap.size (.pointer (some ⟨w.heap.size, 0, none⟩)) a3 cap3 (34 :: (l.take (i + 1)).flatMap quoB)) := by (show Bui _ _ _ _ _ _ _); rw [HX.out]; simpa using h3
        have HB3 : Hid (Below w.heap.size w w3) := HB2.out.trans hb3
        clear h3 hb3 HU2 HB2
        go_wp2
        go_roundw
        case rel => exact ⟨i + 1, a3, cap3, by simp, by omega, HU3, HB3⟩
        case measure => simp [intOf]; omega
      · by_cases hcc2 : c = 92
        · have hcc := hcc2
          clear hcc2
          subst hcc
          have HQ : Hid (quoB 92 = [92, 92]) := rfl
          rw [HQ.out] at HX
          go_wp2_with fail
          refine (write_byte HU.out (.inr rfl) HB.out.size (by have := HLE.out; omega) 92 (by omega)).mono ?_
          rintro e w2 ⟨rfl, ⟨a2, cap2, h2⟩, hb2⟩
          have HU2 : Hid (Bui w2 w.heap.size w.heap.size (.pointer (some ⟨w.heap.size, 0, none⟩)) a2 cap2 (P ++ [92])) := h2
          have HB2 : Hid (Below w.heap.size w w2) := HB.out.trans hb2
          have HL2 : Hid ((P ++ [92]).length ≤ 900) := by (show _ ≤ _); have := HLE.out; rw [List.length_append, List.length_singleton]; omega
          clear h2 hb2 HU HB
          go_wp2_with fail
          refine (write_byte HU2.out (.inr rfl) HB2.out.size (by have := HL2.out; omega) 92 (by omega)).mono ?_
          rintro e w3 ⟨rfl, ⟨a3, cap3, h3⟩, hb3⟩
          have HU3 : Hid (Bui w3 w.heap.size w.heap.size (.pointer (some ⟨w.heap.size, 0, none⟩)) a3 cap3 (34 :: (l.take (i + 1)).flatMap quoB)) := by (show Bui _ _ _ _ _ _ _); rw [HX.out]; simpa using h3
          have HB3 : Hid (Below w.heap.size w w3) := HB2.out.trans hb3
          clear h3 hb3 HU2 HB2
          go_wp2
          go_roundw
          case rel => exact ⟨i + 1, a3, cap3, by simp, by omega, HU3, HB3⟩
          case measure => simp [intOf]; omega
        · have k34 : ((c : Int) == 34) = false := by rw [beq_eq_false_iff_ne]; omega
          have k92 : ((c : Int) == 92) = false := by rw [beq_eq_false_iff_ne]; omega
          by_cases hpl : plainB c = true
          · have HQ : Hid (quoB c = [c]) := by (show _ = _); unfold quoB; unfold plainB at hpl; simp only [Bool.and_eq_true, decide_eq_true_eq] at hpl; rw [if_neg (by omega), if_pos hpl]
            rw [HQ.out] at HX
            go_wp2_with fail
            refine (is_plain c _).mono ?_
            rw [hpl]
            rintro e w2 ⟨rfl, rfl⟩
            go_wp2_with fail
            refine (write_byte HU.out (.inr rfl) HB.out.size (by have := HLE.out; omega) c hc256).mono ?_
            rintro e w3 ⟨rfl, ⟨a3, cap3, h3⟩, hb3⟩
            have HU3 : Hid (Bui w3 w.heap.size w.heap.size (.pointer (some ⟨w.heap.size, 0, none⟩)) a3 cap3 (34 :: (l.take (i + 1)).flatMap quoB)) := by (show Bui _ _ _ _ _ _ _); rw [HX.out]; exact h3
            have HB3 : Hid (Below w.heap.size w w3) := HB.out.trans hb3
            clear h3 hb3 HU HB
            go_wp2
            go_roundw
            case rel => exact ⟨i + 1, a3, cap3, by simp, by omega, HU3, HB3⟩
            case measure => simp [intOf]; omega
          · have hpf : plainB c = false := by simpa using hpl
            go_wp2_with fail
            refine (is_plain c _).mono ?_
            rw [hpf]
            rintro e w2 ⟨rfl, rfl⟩
            go_wp2_with fail
            refine (write_string HU.out (.inr rfl) HB.out.size (by have := HLE.out; omega) ⟨#[92, 120]⟩ (by decide)).mono ?_
            rintro e w3 ⟨rfl, ⟨a3, cap3, h3⟩, hb3⟩
            have HU3 : Hid (Bui w3 w.heap.size w.heap.size (.pointer (some ⟨w.heap.size, 0, none⟩)) a3 cap3 (P ++ [92, 120])) := h3
            have HB3 : Hid (Below w.heap.size w w3) := HB.out.trans hb3
            clear h3 hb3 HU HB
            have HQ : Hid (quoB c = [92, 120, (if c / 16 < 10 then 48 + c / 16 else 87 + c / 16), (if c % 16 < 10 then 48 + c % 16 else 87 + c % 16)]) := by (show _ = _); unfold quoB; unfold plainB at hpf; simp only [Bool.and_eq_false_iff, decide_eq_false_iff_not] at hpf; rw [if_neg (by omega), if_neg (by omega)]
            rw [HQ.out] at HX
            go_wp2_with fail
            refine (write_byte HU3.out (.inr rfl) HB3.out.size (by have := HLE.out; rw [List.length_append]; simp; omega) _ (UInt8.toNat_lt _)).mono ?_
            rintro e w4 ⟨rfl, ⟨a4, cap4, h4⟩, hb4⟩
            have HU4 : Hid (Bui w4 w.heap.size w.heap.size (.pointer (some ⟨w.heap.size, 0, none⟩)) a4 cap4 (P ++ [92, 120] ++ [if c / 16 < 10 then 48 + c / 16 else 87 + c / 16])) := by (show Bui _ _ _ _ _ _ _); rw [← hex_dig (c / 16) (by omega)]; exact h4
            have HB4 : Hid (Below w.heap.size w w4) := HB3.out.trans hb4
            clear h4 hb4 HU3 HB3
            go_wp2_with fail
            refine (write_byte HU4.out (.inr rfl) HB4.out.size (by have := HLE.out; rw [List.length_append, List.length_append]; simp; omega) _ (UInt8.toNat_lt _)).mono ?_
            rintro e w5 ⟨rfl, ⟨a5, cap5, h5⟩, hb5⟩
            have HU5 : Hid (Bui w5 w.heap.size w.heap.size (.pointer (some ⟨w.heap.size, 0, none⟩)) a5 cap5 (34 :: (l.take (i + 1)).flatMap quoB)) := by (show Bui _ _ _ _ _ _ _); rw [HX.out, ← hex_dig (c % 16) (by omega)]; simpa using h5
            have HB5 : Hid (Below w.heap.size w w5) := HB4.out.trans hb5
            clear h5 hb5 HU4 HB4
            go_wp2
            go_roundw
            case rel => exact ⟨i + 1, a5, cap5, by simp, by omega, HU5, HB5⟩
            case measure => simp [intOf]; omega
    · have hin : i = t.size := by omega
      subst hin
      have HXE : Hid (34 :: (l.take t.size).flatMap quoB ++ [34] = quoT l) := by (show _ = _); rw [← hlen, List.take_length]; rfl
      have HLE : Hid ((34 :: (l.take t.size).flatMap quoB).length ≤ 801) := by (show _ ≤ _); have := HQL.out t.size; rw [List.length_cons]; omega
      go_wp2_with fail
      refine (write_byte HU.out (.inr rfl) HB.out.size (by have := HLE.out; omega) 34 (by omega)).mono ?_
      rintro e w3 ⟨rfl, ⟨a3, cap3, h3⟩, hb3⟩
      have HU3 : Hid (Bui w3 w.heap.size w.heap.size (.pointer (some ⟨w.heap.size, 0, none⟩)) a3 cap3 (quoT l)) := by (show Bui _ _ _ _ _ _ _); rw [← HXE.out]; exact h3
      have HB3 : Hid (Below w.heap.size w w3) := HB.out.trans hb3
      clear h3 hb3 HU HB
      go_wp2_with fail
      refine (bui_string HU3.out HB3.out.size).mono ?_
      rintro e w4 ⟨rfl, hb4⟩
      have HB4 : Hid (Below w.heap.size w w4) := HB3.out.trans hb4
      clear hb4
      go_wp2
      go_ret
      exact ⟨rfl, HB4.out⟩
end Go.Proofs.YteoopoabemeanaaGreatDoor
/- pred.partText, pred.valueText. -/
namespace Go.Proofs.YteoopoabemeanaaGreatDoor
set_option maxRecDepth 100000
open Go.RowKit

/-- The library's table of powers of ten. -/
def Tb (w : World) : Prop := Lib.TabIs Tryz.prog w "internal/strconv.uint64pow10" .u64 Lib.pow10Tab
theorem tb_glob : Tryz.prog.globalNamed "internal/strconv.uint64pow10" = some 1 := by kernel_rfl
theorem Tb.lt {w : World} (h : Tb w) : 1 < w.heap.size := by
  have := Lib.TabIs.cell h tb_glob 0 (by rw [Lib.pow10Tab_length]; omega)
  exact World.block_lt_of_cell? w _ this
theorem Tb.stay {w w' : World} (h : Tb w) (hb : Below w.heap.size w w') : Tb w' := by
  have hl := h.lt
  unfold Tb Lib.TabIs at h ⊢
  rw [← h]
  simp only [World.var?, tb_glob, Option.bind_some]
  rw [hb.block 1 hl]
theorem below_grow (w : World) (k : Nat) (os : Array Obj) : Below w.heap.size w (Go.Sort.grow (w.drewN k) os) := by
  refine ⟨rfl, rfl, rfl, ?_, ?_⟩
  · show w.heap.size ≤ (w.heap ++ os).size
    rw [Array.size_append]; omega
  · intro i hi
    show (w.heap ++ os)[i]? = w.heap[i]?
    rw [Array.getElem?_append_left hi]
theorem format_int (n : Int) (hn : -9223372036854775808 ≤ n ∧ n ≤ 9223372036854775807) (w : World) (ht : Tb w) : Calls Tryz.prog 53 #[.int .i64 n, .int .i64 10] w fun e w' => e = .returned (.string (str (decT n))) ∧ Below w.heap.size w w' := by
  refine (Tryz.strconv_FormatInt_10 n hn.1 hn.2 w ht).mono ?_
  rintro e w' ⟨rfl, k, os, rfl⟩
  refine ⟨?_, below_grow w k os⟩
  unfold decT
  rw [str_map]
theorem itoa_w (n : Int) (hn : -9223372036854775808 ≤ n ∧ n ≤ 9223372036854775807) (w : World) (ht : Tb w) : Calls Tryz.prog 37 #[.int .i64 n] w fun e w' => e = .returned (.string (str (decT n))) ∧ Below w.heap.size w w' := by
  refine (Tryz.strconv_Itoa n hn.1 hn.2 w ht).mono ?_
  rintro e w' ⟨rfl, k, os, rfl⟩
  refine ⟨?_, below_grow w k os⟩
  unfold decT
  rw [str_map]
theorem part_text (n : Int) (hn : -1048576 ≤ n ∧ n ≤ 1048576) (w : World) (ht : Tb w) : Calls Tryz.prog 55 #[.float .f64 (floatOfInt .f64 n)] w fun e w' => e = .returned (.string (str (decT n))) ∧ Below w.heap.size w w' := by
  have cx : ∀ W, (convert 91 2 (.float .f64 (floatOfInt .f64 n))).run Tryz.prog W = .ok (.int .i64 n) W := fun W => run_convert_float_int W _ _ _ _ _ _ (by kernel_rfl) Tryz.underlying2 (Flt.toInt_whole n (by omega))
  have HF : Hid (Calls Tryz.prog 53 #[.int .i64 n, .int .i64 10] w fun e w' => e = .returned (.string (str (decT n))) ∧ Below w.heap.size w w') := format_int n (by omega) w ht
  go_enter Tryz.func55, Tryz.ntmps55
  go_wp2_with fail
  refine HF.out.mono ?_
  rintro e w1 ⟨rfl, hb⟩
  go_wp2
  go_ret
  exact ⟨rfl, hb⟩
theorem dec_len {n : Int} (hn : -9223372036854775808 ≤ n ∧ n ≤ 9223372036854775807) : (decT n).length ≤ 30 := by
  have h1 : ∀ (k u : Nat), u < 10 ^ (k + 1) → (Lib.decDigits u).length ≤ k + 1 := by
    intro k
    induction k with
    | zero => intro u hu; rw [Lib.decDigits, dif_pos (by omega)]; simp
    | succ k ih =>
      intro u hu
      by_cases h : u < 10
      · rw [Lib.decDigits, dif_pos h]; simp
      · rw [Lib.decDigits, dif_neg h, List.length_append, List.length_singleton]
        have := ih (u / 10) (by rw [Nat.pow_succ] at hu; omega)
        omega
  unfold decT Lib.itoa
  split
  · have := h1 19 n.natAbs (by omega)
    simp only [List.map_cons, List.length_cons, List.length_map]
    omega
  · have := h1 19 n.toNat (by omega)
    rw [List.length_map]
    omega
def OutV (v : Val) (w : World) (y : List Nat) : Prop := Calls Tryz.prog 36 #[.agg v.cells] w fun e w' => e = .returned (.string (str y)) ∧ Below w.heap.size w w'
set_option maxHeartbeats 4000000 in
theorem point_text (x y : Int) (hx : -1048576 ≤ x ∧ x ≤ 1048576) (hy : -1048576 ≤ y ∧ y ≤ 1048576) (w : World) (htb : Tb w) : OutV (pointV x y) w (40 :: (decT x ++ 44 :: (decT y ++ [41]))) := by
  have l1 := dec_len (n := x) (by omega)
  have l2 := dec_len (n := y) (by omega)
  obtain ⟨A, HA⟩ : ∃ A, Hid (str (decT x) = A) := ⟨_, rfl⟩
  obtain ⟨B, HB⟩ : ∃ B, Hid (str (decT y) = B) := ⟨_, rfl⟩
  have hA : A.size ≤ 30 := by rw [← HA.out]; show ((decT x).map _).toArray.size ≤ 30; rw [List.size_toArray, List.length_map]; exact l1
  have hB : B.size ≤ 30 := by rw [← HB.out]; show ((decT y).map _).toArray.size ≤ 30; rw [List.size_toArray, List.length_map]; exact l2
  have HS : Hid (str (40 :: (decT x ++ 44 :: (decT y ++ [41]))) = ⟨#[40]⟩ ++ A ++ ⟨#[44]⟩ ++ B ++ ⟨#[41]⟩) := by
    (show _ = _)
    rw [← HA.out, ← HB.out]
    apply ByteArray.ext
    simp only [ByteArray.data_append, str]
    simp
  have HPX : Hid (∀ W, Tb W → Calls Tryz.prog 55 #[.float .f64 (floatOfInt .f64 x)] W fun e w' => e = .returned (.string A) ∧ Below W.heap.size W w') := fun W h => by rw [← HA.out]; exact part_text x hx W h
  have HPY : Hid (∀ W, Tb W → Calls Tryz.prog 55 #[.float .f64 (floatOfInt .f64 y)] W fun e w' => e = .returned (.string B) ∧ Below W.heap.size W w') := fun W h => by rw [← HB.out]; exact part_text y hy W h
  unfold OutV pointV Val.cells
  rw [HS.out]
  simp only
  obtain ⟨FX, HFX⟩ : ∃ F, Hid (floatOfInt .f64 x = F) := ⟨_, rfl⟩
  obtain ⟨FY, HFY⟩ : ∃ F, Hid (floatOfInt .f64 y = F) := ⟨_, rfl⟩
  rw [HFX.out] at HPX ⊢
  rw [HFY.out] at HPY ⊢
  have HPK : ∃ pk : Nat → ByteArray, pk FX = A ∧ pk FY = B ∧ ∀ F, (F = FX ∨ F = FY) → ∀ W, Tb W → Calls Tryz.prog 55 #[.float .f64 F] W fun e w' => e = .returned (.string (pk F)) ∧ Below W.heap.size W w' := by
    by_cases hxy : FX = FY
    · have hAB : A = B := by
        have h := Flt.order_whole x y (by omega) (by omega)
        have h2 := Flt.order_self x (by omega)
        rw [HFX.out, HFY.out, ← hxy] at h
        rw [HFX.out] at h2
        rw [h2] at h
        have h3 : compare x y = .eq := (Option.some.inj h).symm
        have h4 : x = y := Int.compare_eq_eq.1 h3
        rw [← HA.out, ← HB.out, h4]
      refine ⟨fun _ => A, rfl, hAB, fun F hF W hW => ?_⟩
      have : F = FX := by rcases hF with h | h <;> omega
      rw [this]
      exact HPX.out W hW
    · refine ⟨fun F => if F = FX then A else B, by simp, by simp only; rw [if_neg (Ne.symm hxy)], fun F hF W hW => ?_⟩
      rcases hF with rfl | rfl
      · simp only [if_true]; exact HPX.out W hW
      · simp only; rw [if_neg (Ne.symm hxy)]; exact HPY.out W hW
  obtain ⟨pk, rfl, rfl, hpk⟩ := HPK
  have HP : Hid (∀ F, (F = FX ∨ F = FY) → ∀ W, Tb W → Calls Tryz.prog 55 #[.float .f64 F] W fun e w' => e = .returned (.string (pk F)) ∧ Below W.heap.size W w') := hpk
  clear hpk HPX HPY
  have z1 : (⟨#[40]⟩ : ByteArray).size = 1 := rfl
  have z2 : (⟨#[44]⟩ : ByteArray).size = 1 := rfl
  have z3 : (⟨#[41]⟩ : ByteArray).size = 1 := rfl
  have c1 : ¬ (9223372036854775807 < (⟨#[40]⟩ : ByteArray).size + (pk FX).size) := by omega
  have c2 : ¬ (9223372036854775807 < (⟨#[40]⟩ ++ pk FX).size + (⟨#[44]⟩ : ByteArray).size) := by rw [ByteArray.size_append]; omega
  have c3 : ¬ (9223372036854775807 < (⟨#[40]⟩ ++ pk FX ++ ⟨#[44]⟩).size + (pk FY).size) := by rw [ByteArray.size_append, ByteArray.size_append]; omega
  have c4 : ¬ (9223372036854775807 < (⟨#[40]⟩ ++ pk FX ++ ⟨#[44]⟩ ++ pk FY).size + (⟨#[41]⟩ : ByteArray).size) := by rw [ByteArray.size_append, ByteArray.size_append, ByteArray.size_append]; omega
  have d1 : ¬ (9223372036854775807 < 1 + (pk FX).size) := by omega
  have d2 : ¬ (9223372036854775807 < 1 + (pk FX).size + 1) := by omega
  have d3 : ¬ (9223372036854775807 < 1 + (pk FX).size + 1 + (pk FY).size) := by omega
  have d4 : ¬ (9223372036854775807 < 1 + (pk FX).size + 1 + (pk FY).size + 1) := by omega
  obtain ⟨W1, HW1⟩ : ∃ W1, Hid (W1 = w.alloc (.cells #[.int .i64 4, .int .i64 0, .string ⟨#[]⟩, .bool false, .complex .f64 FX FY] 40)) := ⟨_, rfl⟩
  have HX1 : Hid (Below w.heap.size w W1) := by (show Below _ _ _); rw [HW1.out]; exact below_alloc w _
  have HK0 : Hid (Blk W1 w.heap.size #[.int .i64 4, .int .i64 0, .string ⟨#[]⟩, .bool false, .complex .f64 FX FY] 40) := by (show Blk _ _ _ _); rw [HW1.out]; exact Blk.new w _ _
  have HSK : Hid (∀ w', Below W1.heap.size W1 w' → w'.cell? ⟨w.heap.size, 4, none⟩ = some (.complex .f64 FX FY)) := fun w' hb => (HK0.out.stay hb).cell 4 rfl
  have HTB : Hid (∀ w', Below W1.heap.size W1 w' → Tb w') := fun w' hb => (htb.stay HX1.out).stay hb
  clear htb HK0 l1 l2 hx hy HS HA HB HFX HFY
  go_enter Tryz.func36, Tryz.ntmps36
  go_upto_region 10 with fail
  rw [← HW1.out]
  have HB0 : Hid (Below W1.heap.size W1 W1.drew) := (Below.refl _ _).drew
  go_region_held3 (fun w' => w'.cell? ⟨w.heap.size, 4, none⟩ = some (.complex .f64 FX FY)) (first | with_reducible exact HSK.out _ HB0.out | with_reducible exact HSK.out _ (Below.refl _ _).drew | with_reducible exact HSK.out _ (Below.refl _ _) | fail)
    (first
      | (go_at_call 55; refine (HP.out _ (by first | exact .inl rfl | exact .inr rfl) _ (HTB.out _ HB0.out)).mono ?_; rintro e w3 ⟨rfl, hb3⟩; have HB' : Hid (Below W1.heap.size W1 w3) := HB0.out.trans (hb3.mono HB0.out.size); clear hb3 HB0; have HB0 := HB'; clear HB'))
  all_goals (
    have HX4 : Hid (Below w.heap.size w w3) := HX1.out.trans (HB0.out.mono HX1.out.size)
    go_wp2
    go_returns
    exact ⟨rfl, HX4.out⟩)
set_option maxHeartbeats 2000000 in
theorem value_text (v : Val) (hv : ValStd v) : ∃ y u, ValTxt v y u ∧ y.length ≤ 810 ∧ ∀ w, Tb w → OutV v w y := by
  rcases hv with (⟨n, rfl, hn⟩ | ⟨t, rfl, ht⟩) | ⟨b, rfl⟩ | ⟨x, y, rfl, hx, hy⟩
  · refine ⟨decT n, [nuW n], .inl ⟨n, rfl, hn, rfl, rfl⟩, by have := dec_len hn; omega, fun w htb => ?_⟩
    have HT : Hid (Tb w) := htb
    unfold OutV wholeV Val.cells
    simp only
    go_enter Tryz.func36, Tryz.ntmps36
    go_wp2_with fail
    refine (format_int n hn _ (HT.out.stay (below_alloc w _))).mono ?_
    rintro e w1 ⟨rfl, hb⟩
    have HB : Hid (Below w.heap.size w w1) := (below_alloc w _).trans (hb.mono (below_alloc w _).size)
    clear hb
    go_wp2
    go_ret
    exact ⟨rfl, HB.out⟩
  · refine ⟨quoT (nameL t), [stW t], .inr (.inl ⟨t, rfl, ht, rfl, rfl⟩), ?_, fun w htb => ?_⟩
    · have := quo_len (nameL t)
      rw [nameL_length] at this
      unfold quoT
      simp only [List.length_cons, List.length_append, List.length_nil]
      omega
    · unfold OutV wordsV Val.cells
      simp only
      go_enter Tryz.func36, Tryz.ntmps36
      go_wp2_with fail
      refine (string_text t ht _).mono ?_
      rintro e w1 ⟨rfl, hb⟩
      have HB : Hid (Below w.heap.size w w1) := (below_alloc w _).trans (hb.mono (below_alloc w _).size)
      clear hb
      go_wp2
      go_ret
      exact ⟨rfl, HB.out⟩
  · cases b with
    | true =>
      refine ⟨[121, 101, 115], [nmW yesT], .inr (.inr (.inl ⟨rfl, rfl, rfl⟩)), by decide, fun w htb => ?_⟩
      unfold OutV truthV Val.cells
      simp only
      go_enter Tryz.func36, Tryz.ntmps36
      go_wp2
      go_ret
      exact ⟨rfl, below_alloc w _⟩
    | false =>
      refine ⟨[110, 111], [nmW noT], .inr (.inr (.inr (.inl ⟨rfl, rfl, rfl⟩))), by decide, fun w htb => ?_⟩
      unfold OutV truthV Val.cells
      simp only
      go_enter Tryz.func36, Tryz.ntmps36
      go_wp2
      go_ret
      exact ⟨rfl, below_alloc w _⟩
  · refine ⟨40 :: (decT x ++ 44 :: (decT y ++ [41])), _, .inr (.inr (.inr (.inr ⟨x, y, rfl, hx, hy, rfl, rfl⟩))), ?_, fun w htb => ?_⟩
    · have h1 := dec_len (n := x) (by omega)
      have h2 := dec_len (n := y) (by omega)
      simp only [List.length_cons, List.length_append, List.length_nil]
      omega
    · have HTX := point_text x y hx hy w htb
      exact HTX
end Go.Proofs.YteoopoabemeanaaGreatDoor
