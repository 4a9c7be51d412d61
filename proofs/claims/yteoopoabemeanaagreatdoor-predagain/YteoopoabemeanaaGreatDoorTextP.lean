/- A pack of texts: PrT5 PrT6 PrT7 PrT8 PrT9. -/
import Derived.Test.YteoopoabemeanaaGreatDoorTxtP
/- pred.atomText. -/
namespace Go.Proofs.YteoopoabemeanaaGreatDoor
set_option maxRecDepth 100000
open Go.RowKit

theorem str_app (a b : List Nat) : str (a ++ b) = str a ++ str b := by
  apply ByteArray.ext
  rw [ByteArray.data_append]
  simp [str]
theorem str_size (a : List Nat) : (str a).size = a.length := by show (a.map _).toArray.size = _; rw [List.size_toArray, List.length_map]
def OutA (q : Tm) (w : World) (x : List Nat) : Prop := Calls Tryz.prog 21 #[.agg q.cells] w fun e w' => e = .returned (.string (str x)) ∧ Below w.heap.size w w'
theorem has_text (nm : ByteArray) (h : nm.size ≤ 16) (v : Val) (r : Nat) (w : World) : OutA ⟨3, nm, 1, v, r⟩ w (63 :: nameL nm) := by
  obtain ⟨vk, vn, vt, vb, vx, vy⟩ := v
  have HS : Hid (str (63 :: nameL nm) = ⟨#[63]⟩ ++ nm) := by (show _ = _); rw [show (63 :: nameL nm) = [63] ++ nameL nm from rfl, str_app, str_nameL]; rfl
  unfold OutA Tm.cells
  rw [HS.out]
  simp only
  go_enter Tryz.func21, Tryz.ntmps21
  go_wp2
  go_ret
  exact ⟨rfl, below_alloc w _⟩
theorem is_text (nm : ByteArray) (v : Val) (r : Nat) (w : World) : OutA ⟨3, nm, 2, v, r⟩ w (nameL nm) := by
  obtain ⟨vk, vn, vt, vb, vx, vy⟩ := v
  unfold OutA Tm.cells
  rw [str_nameL]
  simp only
  go_enter Tryz.func21, Tryz.ntmps21
  go_wp2
  go_ret
  exact ⟨rfl, below_alloc w _⟩
set_option maxHeartbeats 4000000 in
theorem cmp_text (nm : ByteArray) (h : nm.size ≤ 16) (c : Nat) (hc : 3 ≤ c ∧ c ≤ 9) (v : Val) (r : Nat) (y : List Nat) (hy : y.length ≤ 810) (hv : ∀ w, Tb w → OutV v w y) (w : World) (htb : Tb w) : OutA ⟨3, nm, c, v, r⟩ w (nameL nm ++ (nameL (cmpText c) ++ y)) := by
  obtain ⟨vk, vn, vt, vb, vx, vy⟩ := v
  obtain ⟨Y, HY⟩ : ∃ Y, Hid (str y = Y) := ⟨_, rfl⟩
  have hY : Y.size ≤ 810 := by rw [← HY.out, str_size]; exact hy
  have hC : (cmpText c).size ≤ 2 := by
    rcases (show c = 3 ∨ c = 4 ∨ c = 5 ∨ c = 6 ∨ c = 7 ∨ c = 8 ∨ c = 9 by omega) with rfl | rfl | rfl | rfl | rfl | rfl | rfl <;> decide
  have HCS : Hid (∀ W, Calls Tryz.prog 35 #[.int .i64 (c : Int)] W fun e w' => e = .returned (.string (cmpText c)) ∧ w' = W) := cmp_sign c (by omega)
  obtain ⟨C, HC⟩ : ∃ C, Hid (cmpText c = C) := ⟨_, rfl⟩
  have HS : Hid (str (nameL nm ++ (nameL (cmpText c) ++ y)) = nm ++ C ++ Y) := by (show _ = _); rw [str_app, str_app, str_nameL, str_nameL, HY.out, HC.out, ByteArray.append_assoc]
  rw [HC.out] at hC HCS
  have HVT : Hid (∀ W, Tb W → Calls Tryz.prog 36 #[.agg #[.int .i64 vk, .int .i64 vn, .string vt, .bool vb, .complex .f64 vx vy]] W fun e w' => e = .returned (.string Y) ∧ Below W.heap.size W w') := by rw [← HY.out]; exact hv
  unfold OutA Tm.cells
  rw [HS.out]
  simp only
  have n1 : ((c : Int) == 1) = false := by rw [beq_eq_false_iff_ne]; omega
  have n2 : ((c : Int) == 2) = false := by rw [beq_eq_false_iff_ne]; omega
  have n3 : ((c : Int) == 10) = false := by rw [beq_eq_false_iff_ne]; omega
  have c1 : ¬ (9223372036854775807 < nm.size + C.size) := by omega
  have c2 : ¬ (9223372036854775807 < (nm ++ C).size + Y.size) := by rw [ByteArray.size_append]; omega
  have c3 : ¬ (9223372036854775807 < nm.size + C.size + Y.size) := by omega
  obtain ⟨W1, HW1⟩ : ∃ W1, Hid (W1 = w.alloc (.cells #[.int .i64 3, .string nm, .int .i64 (c : Int), .int .i64 vk, .int .i64 vn, .string vt, .bool vb, .complex .f64 vx vy, .int .i64 (r : Int)] 52)) := ⟨_, rfl⟩
  have HX1 : Hid (Below w.heap.size w W1) := by (show Below _ _ _); rw [HW1.out]; exact below_alloc w _
  have HK0 : Hid (Blk W1 w.heap.size #[.int .i64 3, .string nm, .int .i64 (c : Int), .int .i64 vk, .int .i64 vn, .string vt, .bool vb, .complex .f64 vx vy, .int .i64 (r : Int)] 52) := by (show Blk _ _ _ _); rw [HW1.out]; exact Blk.new w _ _
  have HSK : Hid (∀ w', Below W1.heap.size W1 w' → w'.cell? ⟨w.heap.size, 1, none⟩ = some (.string nm) ∧ w'.cell? ⟨w.heap.size, 2, none⟩ = some (.int .i64 (c : Int)) ∧ w'.cell? ⟨w.heap.size, 3, none⟩ = some (.int .i64 vk) ∧ w'.cell? ⟨w.heap.size, 4, none⟩ = some (.int .i64 vn) ∧ w'.cell? ⟨w.heap.size, 5, none⟩ = some (.string vt) ∧ w'.cell? ⟨w.heap.size, 6, none⟩ = some (.bool vb) ∧ w'.cell? ⟨w.heap.size, 7, none⟩ = some (.complex .f64 vx vy) ∧ w'.cell? ⟨w.heap.size, 8, none⟩ = some (.int .i64 (r : Int))) := fun w' hb => by
    have k := HK0.out.stay hb
    exact ⟨k.cell 1 rfl, k.cell 2 rfl, k.cell 3 rfl, k.cell 4 rfl, k.cell 5 rfl, k.cell 6 rfl, k.cell 7 rfl, k.cell 8 rfl⟩
  have HTB : Hid (∀ w', Below W1.heap.size W1 w' → Tb w') := fun w' hb => (htb.stay HX1.out).stay hb
  clear htb HK0 HS HY HC hv hc
  go_enter Tryz.func21, Tryz.ntmps21
  go_upto_region 8 with fail
  rw [← HW1.out]
  have HB0 : Hid (Below W1.heap.size W1 W1.drew) := (Below.refl _ _).drew
  go_region_held3 (fun w' => w'.cell? ⟨w.heap.size, 1, none⟩ = some (.string nm) ∧ w'.cell? ⟨w.heap.size, 2, none⟩ = some (.int .i64 (c : Int)) ∧ w'.cell? ⟨w.heap.size, 3, none⟩ = some (.int .i64 vk) ∧ w'.cell? ⟨w.heap.size, 4, none⟩ = some (.int .i64 vn) ∧ w'.cell? ⟨w.heap.size, 5, none⟩ = some (.string vt) ∧ w'.cell? ⟨w.heap.size, 6, none⟩ = some (.bool vb) ∧ w'.cell? ⟨w.heap.size, 7, none⟩ = some (.complex .f64 vx vy) ∧ w'.cell? ⟨w.heap.size, 8, none⟩ = some (.int .i64 (r : Int))) (first | with_reducible exact HSK.out _ HB0.out | with_reducible exact HSK.out _ (Below.refl _ _).drew | with_reducible exact HSK.out _ (Below.refl _ _) | fail)
    (first
      | (go_at_call 35; refine (HCS.out _).mono ?_; rintro e w9 ⟨rfl, h9⟩; rw [h9]; clear h9 w9)
      | (go_at_call 36; refine (HVT.out _ (HTB.out _ HB0.out)).mono ?_; rintro e w3 ⟨rfl, hb3⟩; have HB' : Hid (Below W1.heap.size W1 w3) := HB0.out.trans (hb3.mono HB0.out.size); clear hb3 HB0; have HB0 := HB'; clear HB'))
  all_goals (
    have HX4 : Hid (Below w.heap.size w w3) := HX1.out.trans (HB0.out.mono HX1.out.size)
    go_wp2
    go_returns
    exact ⟨rfl, HX4.out⟩)
set_option maxHeartbeats 4000000 in
theorem near_text (nm : ByteArray) (h : nm.size ≤ 16) (v : Val) (r : Nat) (hr : r ≤ 1048576) (y : List Nat) (hy : y.length ≤ 810) (hv : ∀ w, Tb w → OutV v w y) (w : World) (htb : Tb w) : OutA ⟨3, nm, 10, v, r⟩ w (nameL nm ++ (126 :: (y ++ 47 :: decT r))) := by
  obtain ⟨vk, vn, vt, vb, vx, vy⟩ := v
  obtain ⟨Y, HY⟩ : ∃ Y, Hid (str y = Y) := ⟨_, rfl⟩
  have hY : Y.size ≤ 810 := by rw [← HY.out, str_size]; exact hy
  obtain ⟨R, HR⟩ : ∃ R, Hid (str (decT r) = R) := ⟨_, rfl⟩
  have hR : R.size ≤ 30 := by rw [← HR.out, str_size]; exact dec_len (by omega)
  have HIT : Hid (∀ W, Tb W → Calls Tryz.prog 37 #[.int .i64 (r : Int)] W fun e w' => e = .returned (.string R) ∧ Below W.heap.size W w') := fun W hW => by rw [← HR.out]; exact itoa_w (r : Int) (by omega) W hW
  have hC : (cmpText 10).size ≤ 2 := by decide
  have HCS : Hid (∀ W, Calls Tryz.prog 35 #[.int .i64 10] W fun e w' => e = .returned (.string (cmpText 10)) ∧ w' = W) := cmp_sign 10 (by omega)
  obtain ⟨C, HC⟩ : ∃ C, Hid (cmpText 10 = C) := ⟨_, rfl⟩
  have HS : Hid (str (nameL nm ++ (126 :: (y ++ 47 :: decT r))) = nm ++ C ++ Y ++ ⟨#[47]⟩ ++ R) := by
    (show _ = _)
    rw [show (126 :: (y ++ 47 :: decT r)) = nameL (cmpText 10) ++ (y ++ ([47] ++ decT r)) from rfl, str_app, str_app, str_app, str_app, str_nameL, str_nameL, HY.out, HC.out, HR.out, show str [47] = ⟨#[47]⟩ from rfl, ByteArray.append_assoc, ByteArray.append_assoc, ByteArray.append_assoc]
  rw [HC.out] at hC HCS
  have HVT : Hid (∀ W, Tb W → Calls Tryz.prog 36 #[.agg #[.int .i64 vk, .int .i64 vn, .string vt, .bool vb, .complex .f64 vx vy]] W fun e w' => e = .returned (.string Y) ∧ Below W.heap.size W w') := by rw [← HY.out]; exact hv
  unfold OutA Tm.cells
  rw [HS.out]
  simp only
  have z1 : (⟨#[47]⟩ : ByteArray).size = 1 := rfl
  have c4 : ¬ (9223372036854775807 < (nm ++ C ++ Y).size + (⟨#[47]⟩ : ByteArray).size) := by rw [ByteArray.size_append, ByteArray.size_append]; omega
  have c5 : ¬ (9223372036854775807 < (nm ++ C ++ Y ++ ⟨#[47]⟩).size + R.size) := by rw [ByteArray.size_append, ByteArray.size_append, ByteArray.size_append]; omega
  have c6 : ¬ (9223372036854775807 < nm.size + C.size + Y.size + 1) := by omega
  have c7 : ¬ (9223372036854775807 < nm.size + C.size + Y.size + 1 + R.size) := by omega
  have c1 : ¬ (9223372036854775807 < nm.size + C.size) := by omega
  have c2 : ¬ (9223372036854775807 < (nm ++ C).size + Y.size) := by rw [ByteArray.size_append]; omega
  have c3 : ¬ (9223372036854775807 < nm.size + C.size + Y.size) := by omega
  obtain ⟨W1, HW1⟩ : ∃ W1, Hid (W1 = w.alloc (.cells #[.int .i64 3, .string nm, .int .i64 10, .int .i64 vk, .int .i64 vn, .string vt, .bool vb, .complex .f64 vx vy, .int .i64 (r : Int)] 52)) := ⟨_, rfl⟩
  have HX1 : Hid (Below w.heap.size w W1) := by (show Below _ _ _); rw [HW1.out]; exact below_alloc w _
  have HK0 : Hid (Blk W1 w.heap.size #[.int .i64 3, .string nm, .int .i64 10, .int .i64 vk, .int .i64 vn, .string vt, .bool vb, .complex .f64 vx vy, .int .i64 (r : Int)] 52) := by (show Blk _ _ _ _); rw [HW1.out]; exact Blk.new w _ _
  have HSK : Hid (∀ w', Below W1.heap.size W1 w' → w'.cell? ⟨w.heap.size, 1, none⟩ = some (.string nm) ∧ w'.cell? ⟨w.heap.size, 2, none⟩ = some (.int .i64 10) ∧ w'.cell? ⟨w.heap.size, 3, none⟩ = some (.int .i64 vk) ∧ w'.cell? ⟨w.heap.size, 4, none⟩ = some (.int .i64 vn) ∧ w'.cell? ⟨w.heap.size, 5, none⟩ = some (.string vt) ∧ w'.cell? ⟨w.heap.size, 6, none⟩ = some (.bool vb) ∧ w'.cell? ⟨w.heap.size, 7, none⟩ = some (.complex .f64 vx vy) ∧ w'.cell? ⟨w.heap.size, 8, none⟩ = some (.int .i64 (r : Int))) := fun w' hb => by
    have k := HK0.out.stay hb
    exact ⟨k.cell 1 rfl, k.cell 2 rfl, k.cell 3 rfl, k.cell 4 rfl, k.cell 5 rfl, k.cell 6 rfl, k.cell 7 rfl, k.cell 8 rfl⟩
  have HTB : Hid (∀ w', Below W1.heap.size W1 w' → Tb w') := fun w' hb => (htb.stay HX1.out).stay hb
  clear htb HK0 HS HY HC HR hv
  go_enter Tryz.func21, Tryz.ntmps21
  go_upto_region 7 with fail
  rw [← HW1.out]
  have HB0 : Hid (Below W1.heap.size W1 W1.drew) := (Below.refl _ _).drew
  go_region_held3 (fun w' => w'.cell? ⟨w.heap.size, 1, none⟩ = some (.string nm) ∧ w'.cell? ⟨w.heap.size, 2, none⟩ = some (.int .i64 10) ∧ w'.cell? ⟨w.heap.size, 3, none⟩ = some (.int .i64 vk) ∧ w'.cell? ⟨w.heap.size, 4, none⟩ = some (.int .i64 vn) ∧ w'.cell? ⟨w.heap.size, 5, none⟩ = some (.string vt) ∧ w'.cell? ⟨w.heap.size, 6, none⟩ = some (.bool vb) ∧ w'.cell? ⟨w.heap.size, 7, none⟩ = some (.complex .f64 vx vy) ∧ w'.cell? ⟨w.heap.size, 8, none⟩ = some (.int .i64 (r : Int))) (first | with_reducible exact HSK.out _ HB0.out | with_reducible exact HSK.out _ (Below.refl _ _).drew | with_reducible exact HSK.out _ (Below.refl _ _) | fail)
    (first
      | (go_at_call 35; refine (HCS.out _).mono ?_; rintro e w9 ⟨rfl, h9⟩; rw [h9]; clear h9 w9)
      | (go_at_call 37; refine (HIT.out _ (HTB.out _ HB0.out)).mono ?_; rintro e w3 ⟨rfl, hb3⟩; have HB' : Hid (Below W1.heap.size W1 w3) := HB0.out.trans (hb3.mono HB0.out.size); clear hb3 HB0; have HB0 := HB'; clear HB')
      | (go_at_call 36; refine (HVT.out _ (HTB.out _ HB0.out)).mono ?_; rintro e w3 ⟨rfl, hb3⟩; have HB' : Hid (Below W1.heap.size W1 w3) := HB0.out.trans (hb3.mono HB0.out.size); clear hb3 HB0; have HB0 := HB'; clear HB'))
  all_goals (
    have HX4 : Hid (Below w.heap.size w w3) := HX1.out.trans (HB0.out.mono HX1.out.size)
    go_wp2
    go_returns
    exact ⟨rfl, HX4.out⟩)
theorem atom_text {q : Tm} (hq : AtomStd q) : ∃ x u, AtomTxt q x u ∧ x.length ≤ 900 ∧ ∀ w, Tb w → OutA q w x := by
  obtain ⟨op, nm, c, v, r⟩ := q
  obtain ⟨h3, hn, hq⟩ := hq
  simp only at h3 hn hq
  subst h3
  have h16 := hn.2.1
  have hl := nameL_length nm
  have hcl : ∀ c, 3 ≤ c ∧ c ≤ 9 → (nameL (cmpText c)).length ≤ 2 := by
    intro c hc
    rcases (show c = 3 ∨ c = 4 ∨ c = 5 ∨ c = 6 ∨ c = 7 ∨ c = 8 ∨ c = 9 by omega) with rfl | rfl | rfl | rfl | rfl | rfl | rfl <;> decide
  have hmid : ∀ (c : Nat) (v : Val), 3 ≤ c ∧ c ≤ 9 → ValStd v → ∃ x u, AtomTxt ⟨3, nm, c, v, r⟩ x u ∧ x.length ≤ 900 ∧ ∀ w, Tb w → OutA ⟨3, nm, c, v, r⟩ w x := by
    intro c v hc hv
    obtain ⟨y, u, hvt, hyl, hout⟩ := value_text v hv
    refine ⟨_, _, .inr (.inr (.inl ⟨hc, y, u, hvt, rfl, rfl⟩)), ?_, fun w hw => cmp_text nm h16 c hc v r y hyl hout w hw⟩
    have := hcl c hc
    simp only [List.length_append]
    omega
  rcases hq with ⟨h | h, hz, hr0⟩ | ⟨h, hv, hr0⟩ | ⟨h, ho, hr0⟩ | ⟨h, ho, hr0⟩ | ⟨h, ho, hrad⟩
  · subst h
    refine ⟨63 :: nameL nm, _, .inl ⟨rfl, rfl, rfl⟩, by rw [List.length_cons]; omega, fun w _ => has_text nm h16 v r w⟩
  · subst h
    exact ⟨nameL nm, _, .inr (.inl ⟨rfl, rfl, rfl⟩), by omega, fun w _ => is_text nm v r w⟩
  · exact hmid c v (by omega) hv
  · exact hmid c v (by omega) (.inl ho)
  · exact hmid c v (by omega) (.inl (.inr ho))
  · subst h
    obtain ⟨y, u, hvt, hyl, hout⟩ := value_text v (.inr (.inr ho))
    refine ⟨_, _, .inr (.inr (.inr ⟨rfl, y, u, hvt, rfl, rfl⟩)), ?_, fun w hw => near_text nm h16 v r hrad y hyl hout w hw⟩
    have := dec_len (n := (r : Int)) (by omega)
    simp only [List.length_append, List.length_cons]
    omega
end Go.Proofs.YteoopoabemeanaaGreatDoor
/- Rows of pieces of one's own; pred.printed of Yes, No, Atom. -/
namespace Go.Proofs.YteoopoabemeanaaGreatDoor
set_option maxRecDepth 100000
open Go.RowKit

/-- A piece: its text, and how firmly it binds. -/
def pcc (q : ByteArray × Int) : Array Value := #[.string q.1, .int .i64 q.2]
structure Pcs (w : World) (base : Nat) (v : Value) (l : List (ByteArray × Int)) : Prop where
  row : w.ownsRow base 57 2 v l.length (l.flatMap fun q => (pcc q).toList)
theorem Pcs.nil_ (w : World) (base : Nat) : Pcs w base (.slice none 0 0) [] := ⟨⟨rfl, .inl ⟨rfl, rfl⟩⟩⟩
theorem Pcs.below {w w' : World} {base : Nat} {v : Value} {l : List (ByteArray × Int)} (h : Pcs w base v l) (hb : Below w.heap.size w w') : Pcs w' base v l := by
  refine ⟨⟨h.row.1, ?_⟩⟩
  rcases h.row.2 with hn | ⟨g, c, cur, hv, hbg, hg, r⟩
  · exact .inl hn
  · exact .inr ⟨g, c, cur, hv, hbg, by rw [hb.block g (Array.getElem?_eq_some_iff.1 hg).1]; exact hg, r⟩
theorem Pcs.form {w : World} {base : Nat} {v : Value} {l : List (ByteArray × Int)} (h : Pcs w base v l) : ∃ a c, v = .slice a l.length c := by
  rcases h.row.2 with ⟨hv, hn⟩ | ⟨g, c, cur, hv, _⟩
  · exact ⟨none, 0, by rw [hv, hn]⟩
  · exact ⟨_, c, hv⟩
theorem Pcs.snoc {w' : World} {base : Nat} {v' : Value} {l : List (ByteArray × Int)} (q : ByteArray × Int) (hrow : w'.ownsRow base 57 2 v' (l.length + 1) ((l.flatMap fun q => (pcc q).toList) ++ (pcc q).toList)) : Pcs w' base v' (l ++ [q]) := by
  refine ⟨?_⟩
  rw [List.length_append, List.flatMap_append]
  simpa using hrow
theorem pcc_one (q : ByteArray × Int) : ∀ u ∈ (pcc q).toList, u.oneCell' = true := by
  intro u hu
  simp only [pcc, List.mem_cons, List.not_mem_nil, or_false] at hu
  rcases hu with rfl | rfl <;> rfl
theorem flat2 : ∀ (l : List (ByteArray × Int)) (i : Nat) (q : ByteArray × Int), l[i]? = some q → ∀ j, j < 2 → (l.flatMap fun q => (pcc q).toList)[i * 2 + j]? = (pcc q).toList[j]?
  | [], i, q, h, j, hj => by simp at h
  | p :: l, 0, q, h, j, hj => by
    simp only [List.getElem?_cons_zero, Option.some.injEq] at h
    subst h
    rw [List.flatMap_cons, Nat.zero_mul, Nat.zero_add, List.getElem?_append_left (by simp [pcc]; omega)]
  | p :: l, i + 1, q, h, j, hj => by
    rw [List.getElem?_cons_succ] at h
    have e : (pcc p).toList.length = 2 := rfl
    rw [List.flatMap_cons, List.getElem?_append_right (by omega), e, show (i + 1) * 2 + j - 2 = i * 2 + j from by omega]
    exact flat2 l i q h j hj
theorem flat2_len (l : List (ByteArray × Int)) : (l.flatMap fun q => (pcc q).toList).length = l.length * 2 := by
  induction l with
  | nil => rfl
  | cons p l ih => rw [List.flatMap_cons, List.length_append, ih, List.length_cons]; show 2 + _ = _; omega
/-- One of the pieces, cell by cell. -/
theorem Pcs.at_ {w : World} {base : Nat} {a : Option Addr} {n c : Nat} {l : List (ByteArray × Int)} (h : Pcs w base (.slice a n c) l) (i : Nat) (hi : i < l.length) : ∃ g, a = some ⟨g, 0, none⟩ ∧ base ≤ g ∧ g < w.heap.size ∧ w.cell? ⟨g, i * 2, none⟩ = some (.string l[i].1) ∧ w.cell? ⟨g, i * 2 + 1, none⟩ = some (.int .i64 l[i].2) := by
  rcases h.row.2 with ⟨hv, hn⟩ | ⟨g, c', cur, hv, hb, hg, hlc, hm, hs, ht⟩
  · omega
  · simp only [Value.slice.injEq] at hv
    obtain ⟨rfl, rfl, rfl⟩ := hv
    have hq : l[i]? = some l[i] := List.getElem?_eq_getElem hi
    refine ⟨g, rfl, hb, (Array.getElem?_eq_some_iff.1 hg).1, ?_, ?_⟩
    · rw [cell_of_row w g _ cur _ _ hg]
      have h1 := flat2 l i _ hq 0 (by omega)
      rw [← ht, List.getElem?_take_of_lt (by omega), Array.getElem?_toList] at h1
      exact h1
    · rw [cell_of_row w g _ cur _ _ hg]
      have h1 := flat2 l i _ hq 1 (by omega)
      rw [← ht, List.getElem?_take_of_lt (by omega), Array.getElem?_toList] at h1
      exact h1
/-- The first of them. -/
theorem Pcs.cut {w : World} {base : Nat} {a : Option Addr} {n c : Nat} {l : List (ByteArray × Int)} (h : Pcs w base (.slice a n c) l) (m : Nat) (hm : m ≤ l.length) (ha : a ≠ none) : Pcs w base (.slice a m c) (l.take m) := by
  refine ⟨⟨?_, ?_⟩⟩
  · rw [flat2_len]
  · rcases h.row.2 with ⟨hv, hn⟩ | ⟨g, c', cur, hv, hb, hg, hlc, hmx, hs, ht⟩
    · simp only [Value.slice.injEq] at hv
      exact absurd hv.1 ha
    · simp only [Value.slice.injEq] at hv
      obtain ⟨rfl, rfl, rfl⟩ := hv
      have hl : (l.take m).length = m := by rw [List.length_take]; omega
      refine .inr ⟨g, _, cur, by rw [hl], hb, hg, by omega, hmx, hs, ?_⟩
      rw [hl]
      have e : l.flatMap (fun q => (pcc q).toList) = (l.take m).flatMap (fun q => (pcc q).toList) ++ (l.drop m).flatMap (fun q => (pcc q).toList) := by rw [← List.flatMap_append, List.take_append_drop]
      rw [e] at ht
      have h2 := congrArg (List.take (m * 2)) ht
      rw [List.take_take, Nat.min_eq_left (by omega)] at h2
      rw [h2, List.take_left' (by rw [flat2_len, hl])]
theorem infoPiece : (Tryz.prog.info? 57).map (fun i => (i.zero, i.size, i.bytes)) = some (some (.agg #[.string ⟨#[]⟩, .int .i64 0]), 2, 24) := by kernel_rfl
/-- A piece behind a row of one's own: in a region that draws its order, and in one that does not. -/
theorem wp_append_pc {w : World} {o : Oper} {act : Act} {K : Act → World → Prop} {Q : Exit → Act → World → Prop} (s x : Operand)
    (ho : o.op = .call { callee := .builtin .append, args := #[s, x], argTypes := #[53, 53] })
    (base : Nat) (v : Value) (l : List (ByteArray × Int)) (hs : act.eval s = v) (hown : Pcs w base v l) (ad : Addr) (c : Nat) (q : ByteArray × Int) (hx : act.eval x = .slice (some ad) 1 c) (hnews : ∀ j u, (pcc q).toList[j]? = some u → w.cell? (ad.add j) = some u)
    (hl : l.length ≤ 100000) (hbase : base ≤ w.heap.size)
    (h : ∀ v' w', Pcs w' base v' (l ++ [q]) → w.grownBy w' v.ownBlock → K (act.put o.dst v') w') : o.wp Tryz.prog act w K Q := by
  obtain ⟨i0, hi, hz0, hz1, hz2⟩ := info_parts infoPiece
  exact wp_append_own w s x 53 ho base 57 i0 (.agg #[.string ⟨#[]⟩, .int .i64 0]) 2 24 Tryz.underlying53 hi hz0 hz1 hz2 (by rfl) (by decide) v l.length (l.flatMap fun q => (pcc q).toList) hs hown.row ad 1 c (pcc q).toList hx (by rfl) hnews (pcc_one q) (by unfold maxLen; omega) (by omega) hbase fun v' w' h1 h2 _ => h v' w' (Pcs.snoc q h1) h2
theorem step_append_pc {w : World} {ops : Array Oper} {o : Oper} {act : Act} {K : Act → World → Prop} {Q : Exit → Act → World → Prop} {E : Prop} (hgd : o.guard = none) (s x : Operand)
    (ho : o.op = .call { callee := .builtin .append, args := #[s, x], argTypes := #[53, 53] })
    (base : Nat) (v : Value) (l : List (ByteArray × Int)) (hs : act.eval s = v) (hown : Pcs w base v l) (ad : Addr) (c : Nat) (q : ByteArray × Int) (hx : act.eval x = .slice (some ad) 1 c) (hnews : ∀ j u, (pcc q).toList[j]? = some u → w.cell? (ad.add j) = some u)
    (hl : l.length ≤ 100000) (hbase : base ≤ w.heap.size)
    (h : ∀ v' w', Pcs w' base v' (l ++ [q]) → w.grownBy w' v.ownBlock → K (act.put o.dst v') w') : if Region.wanted o (yielded ops act.tmps) = true then Oper.wp Tryz.prog o act w K Q else E := by
  rw [if_pos (by simp [Region.wanted, hgd])]
  exact wp_append_pc s x ho base v l hs hown ad c q hx hnews hl hbase h
theorem wpList_append_pc {w : World} {ops : Array Oper} {rest : List Oper} {o : Oper} {act : Act} {Q : Exit → Act → World → Prop} (hgd : o.guard = none) (s x : Operand)
    (ho : o.op = .call { callee := .builtin .append, args := #[s, x], argTypes := #[53, 53] })
    (base : Nat) (v : Value) (l : List (ByteArray × Int)) (hs : act.eval s = v) (hown : Pcs w base v l) (ad : Addr) (c : Nat) (q : ByteArray × Int) (hx : act.eval x = .slice (some ad) 1 c) (hnews : ∀ j u, (pcc q).toList[j]? = some u → w.cell? (ad.add j) = some u)
    (hl : l.length ≤ 100000) (hbase : base ≤ w.heap.size)
    (h : ∀ v' w', Pcs w' base v' (l ++ [q]) → w.grownBy w' v.ownBlock → wpList Tryz.prog ops Q rest (act.put o.dst v') w') : wpList Tryz.prog ops Q (o :: rest) act w :=
  wpList_plain hgd fun _ hK => wp_append_pc s x ho base v l hs hown ad c q hx hnews hl hbase fun v' w' h1 h2 => hK _ _ (h v' w' h1 h2)
end Go.Proofs.YteoopoabemeanaaGreatDoor
/- pred.printed. -/
namespace Go.Proofs.YteoopoabemeanaaGreatDoor
set_option maxRecDepth 100000
open Go.RowKit

/-- What printed leaves. -/
def OutP (w : World) (B : Nat) (v : Value) (q : Tm) (l' : List (ByteArray × Int)) : Prop := Calls Tryz.prog 12 #[v, .agg q.cells] w fun e w' => ∃ v', e = .returned v' ∧ Pcs w' B v' l' ∧ Below B w w'
theorem Pcs.len {w : World} {B : Nat} {a : Option Addr} {n c : Nat} {l : List (ByteArray × Int)} (h : Pcs w B (.slice a n c) l) : n = l.length := by
  obtain ⟨a', c', e⟩ := h.form
  simp only [Value.slice.injEq] at e
  exact e.2.1
set_option maxHeartbeats 2000000 in
theorem pr_yes {w : World} {B : Nat} {v : Value} {l : List (ByteArray × Int)} (h : Pcs w B v l) (hB : B ≤ w.heap.size) (hl : l.length ≤ 1000) : OutP w B v (Tm.plain 1) (l ++ [(⟨#[42]⟩, 2)]) := by
  have hcx : ∀ (a : Addr) (m : Mode) (W : World) (x y : Nat), (store a (.complex .f64 x y) m).run Tryz.prog W = stored Tryz.prog W a (.complex .f64 x y) m := fun a m W x y => run_store _ _ _ _ _ rfl
  obtain ⟨a, c, rfl⟩ := h.form
  have HP : Hid (Pcs w B (.slice a l.length c) l) := h
  obtain ⟨n, HN⟩ : ∃ n, Hid (l.length = n) := ⟨_, rfl⟩
  rw [HN.out] at HP hl ⊢
  have HW : Hid (Below w.heap.size w ((w.alloc (.cells #[.int .i64 1, .string ⟨#[]⟩, .int .i64 0, .int .i64 0, .int .i64 0, .string ⟨#[]⟩, .bool false, .complex .f64 0 0, .int .i64 0] 52)).alloc (.cells #[.string ⟨#[42]⟩, .int .i64 2] 57))) := (below_alloc w _).alloc (by simp) _
  have HK : Hid (Blk ((w.alloc (.cells #[.int .i64 1, .string ⟨#[]⟩, .int .i64 0, .int .i64 0, .int .i64 0, .string ⟨#[]⟩, .bool false, .complex .f64 0 0, .int .i64 0] 52)).alloc (.cells #[.string ⟨#[42]⟩, .int .i64 2] 57)) (w.heap.size + 1) #[.string ⟨#[42]⟩, .int .i64 2] 57) := by
    have e1 : (w.alloc (.cells #[.int .i64 1, .string ⟨#[]⟩, .int .i64 0, .int .i64 0, .int .i64 0, .string ⟨#[]⟩, .bool false, .complex .f64 0 0, .int .i64 0] 52)).heap.size = w.heap.size + 1 := by simp
    (show Blk _ _ _ _)
    rw [← e1]
    exact Blk.new _ _ _
  have HPA : Hid (Pcs ((w.alloc (.cells #[.int .i64 1, .string ⟨#[]⟩, .int .i64 0, .int .i64 0, .int .i64 0, .string ⟨#[]⟩, .bool false, .complex .f64 0 0, .int .i64 0] 52)).alloc (.cells #[.string ⟨#[42]⟩, .int .i64 2] 57)) B (.slice a n c) l) := HP.out.below HW.out
  clear h
  unfold OutP Tm.plain Tm.cells Val.zero
  simp only
  go_enter Tryz.func12, Tryz.ntmps12
  go_wp2_with (at_builtin; refine wpList_append_pc rfl (.tmp 13) (.tmp 15) rfl B (.slice a n c) l rfl HPA.out ⟨w.heap.size + 1, 0, none⟩ 1 (⟨#[42]⟩, 2) rfl (fun j u hj => by
    match j, hj with
    | 0, hj => cases hj; exact HK.out.cell 0 rfl
    | 1, hj => cases hj; exact HK.out.cell 1 rfl) (by rw [HN.out]; omega) (Nat.le_trans hB HW.out.size) ?_)
  intro v' w5 hp hg
  have HX : Hid (Below B w w5) := (HW.out.mono hB).trans ((Below.refl _ _).grown hg (Nat.le_trans hB HW.out.size) (fun k hk => (HPA.out.row.lt k hk).1))
  have HP5 : Hid (Pcs w5 B v' (l ++ [(⟨#[42]⟩, 2)])) := hp
  clear hp hg HPA HK HW
  obtain ⟨a5, c5, rfl⟩ := HP5.out.form
  go_wp2
  go_ret
  exact ⟨_, rfl, HP5.out, HX.out⟩
set_option maxHeartbeats 2000000 in
theorem pr_no {w : World} {B : Nat} {v : Value} {l : List (ByteArray × Int)} (h : Pcs w B v l) (hB : B ≤ w.heap.size) (hl : l.length ≤ 1000) : OutP w B v (Tm.plain 2) (l ++ [(⟨#[35]⟩, 2)]) := by
  have hcx : ∀ (a : Addr) (m : Mode) (W : World) (x y : Nat), (store a (.complex .f64 x y) m).run Tryz.prog W = stored Tryz.prog W a (.complex .f64 x y) m := fun a m W x y => run_store _ _ _ _ _ rfl
  obtain ⟨a, c, rfl⟩ := h.form
  have HP : Hid (Pcs w B (.slice a l.length c) l) := h
  obtain ⟨n, HN⟩ : ∃ n, Hid (l.length = n) := ⟨_, rfl⟩
  rw [HN.out] at HP hl ⊢
  have HW : Hid (Below w.heap.size w ((w.alloc (.cells #[.int .i64 2, .string ⟨#[]⟩, .int .i64 0, .int .i64 0, .int .i64 0, .string ⟨#[]⟩, .bool false, .complex .f64 0 0, .int .i64 0] 52)).alloc (.cells #[.string ⟨#[35]⟩, .int .i64 2] 57))) := (below_alloc w _).alloc (by simp) _
  have HK : Hid (Blk ((w.alloc (.cells #[.int .i64 2, .string ⟨#[]⟩, .int .i64 0, .int .i64 0, .int .i64 0, .string ⟨#[]⟩, .bool false, .complex .f64 0 0, .int .i64 0] 52)).alloc (.cells #[.string ⟨#[35]⟩, .int .i64 2] 57)) (w.heap.size + 1) #[.string ⟨#[35]⟩, .int .i64 2] 57) := by
    have e1 : (w.alloc (.cells #[.int .i64 2, .string ⟨#[]⟩, .int .i64 0, .int .i64 0, .int .i64 0, .string ⟨#[]⟩, .bool false, .complex .f64 0 0, .int .i64 0] 52)).heap.size = w.heap.size + 1 := by simp
    (show Blk _ _ _ _)
    rw [← e1]
    exact Blk.new _ _ _
  have HPA : Hid (Pcs ((w.alloc (.cells #[.int .i64 2, .string ⟨#[]⟩, .int .i64 0, .int .i64 0, .int .i64 0, .string ⟨#[]⟩, .bool false, .complex .f64 0 0, .int .i64 0] 52)).alloc (.cells #[.string ⟨#[35]⟩, .int .i64 2] 57)) B (.slice a n c) l) := HP.out.below HW.out
  clear h
  unfold OutP Tm.plain Tm.cells Val.zero
  simp only
  go_enter Tryz.func12, Tryz.ntmps12
  go_wp2_with (at_builtin; refine wpList_append_pc rfl (.tmp 19) (.tmp 21) rfl B (.slice a n c) l rfl HPA.out ⟨w.heap.size + 1, 0, none⟩ 1 (⟨#[35]⟩, 2) rfl (fun j u hj => by
    match j, hj with
    | 0, hj => cases hj; exact HK.out.cell 0 rfl
    | 1, hj => cases hj; exact HK.out.cell 1 rfl) (by rw [HN.out]; omega) (Nat.le_trans hB HW.out.size) ?_)
  intro v' w5 hp hg
  have HX : Hid (Below B w w5) := (HW.out.mono hB).trans ((Below.refl _ _).grown hg (Nat.le_trans hB HW.out.size) (fun k hk => (HPA.out.row.lt k hk).1))
  have HP5 : Hid (Pcs w5 B v' (l ++ [(⟨#[35]⟩, 2)])) := hp
  clear hp hg HPA HK HW
  obtain ⟨a5, c5, rfl⟩ := HP5.out.form
  go_wp2
  go_ret
  exact ⟨_, rfl, HP5.out, HX.out⟩
set_option maxHeartbeats 2000000 in
theorem pr_atom {w : World} {B : Nat} {v : Value} {l : List (ByteArray × Int)} (h : Pcs w B v l) (hB : B ≤ w.heap.size) (hl : l.length ≤ 1000) (htb : Tb w) {q : Tm} (hq : q.op = 3) {x : List Nat} (hx : ∀ w, Tb w → OutA q w x) : OutP w B v q (l ++ [(str x, 2)]) := by
  have hcx : ∀ (a : Addr) (m : Mode) (W : World) (x y : Nat), (store a (.complex .f64 x y) m).run Tryz.prog W = stored Tryz.prog W a (.complex .f64 x y) m := fun a m W x y => run_store _ _ _ _ _ rfl
  obtain ⟨op, nm, cm, ⟨vk, vn, vt, vb, vx, vy⟩, r⟩ := q
  simp only at hq
  subst hq
  obtain ⟨a, c, rfl⟩ := h.form
  have HP : Hid (Pcs w B (.slice a l.length c) l) := h
  obtain ⟨n, HN⟩ : ∃ n, Hid (l.length = n) := ⟨_, rfl⟩
  rw [HN.out] at HP hl ⊢
  obtain ⟨X, HXX⟩ : ∃ X, Hid (str x = X) := ⟨_, rfl⟩
  have HA : Hid (∀ W, Tb W → Calls Tryz.prog 21 #[.agg #[.int .i64 3, .string nm, .int .i64 (cm : Int), .int .i64 vk, .int .i64 vn, .string vt, .bool vb, .complex .f64 vx vy, .int .i64 (r : Int)]] W fun e w' => e = .returned (.string X) ∧ Below W.heap.size W w') := by rw [← HXX.out]; exact hx
  rw [HXX.out]
  have HT : Hid (Tb w) := htb
  clear h hx htb
  unfold OutP Tm.cells
  simp only
  go_enter Tryz.func12, Tryz.ntmps12
  go_wp2_with fail
  refine (HA.out _ (HT.out.stay (below_alloc w _))).mono ?_
  rintro e w3 ⟨rfl, hb3⟩
  have HB3 : Hid (Below w.heap.size w w3) := (below_alloc w _).trans (hb3.mono (below_alloc w _).size)
  clear hb3
  have HW : Hid (Below w.heap.size w (w3.alloc (.cells #[.string X, .int .i64 2] 57))) := HB3.out.alloc HB3.out.size _
  have HK : Hid (Blk (w3.alloc (.cells #[.string X, .int .i64 2] 57)) w3.heap.size #[.string X, .int .i64 2] 57) := Blk.new _ _ _
  have HPA : Hid (Pcs (w3.alloc (.cells #[.string X, .int .i64 2] 57)) B (.slice a n c) l) := HP.out.below HW.out
  go_wp2_with (at_builtin; refine wpList_append_pc rfl (.tmp 25) (.tmp 29) rfl B (.slice a n c) l rfl HPA.out ⟨w3.heap.size, 0, none⟩ 1 (X, 2) rfl (fun j u hj => by
    match j, hj with
    | 0, hj => cases hj; exact HK.out.cell 0 rfl
    | 1, hj => cases hj; exact HK.out.cell 1 rfl) (by rw [HN.out]; omega) (Nat.le_trans hB HW.out.size) ?_)
  intro v' w5 hp hg
  have HX : Hid (Below B w w5) := (HW.out.mono hB).trans ((Below.refl _ _).grown hg (Nat.le_trans hB HW.out.size) (fun k hk => (HPA.out.row.lt k hk).1))
  have HP5 : Hid (Pcs w5 B v' (l ++ [(X, 2)])) := hp
  clear hp hg HPA HK HW
  obtain ⟨a5, c5, rfl⟩ := HP5.out.form
  go_wp2
  go_ret
  exact ⟨_, rfl, HP5.out, HX.out⟩
end Go.Proofs.YteoopoabemeanaaGreatDoor
/- Rows of pieces: their room, and what a new piece's cells tell. -/
namespace Go.Proofs.YteoopoabemeanaaGreatDoor
set_option maxRecDepth 100000
open Go.RowKit

theorem Pcs.cap {w : World} {B : Nat} {a : Addr} {n c : Nat} {l : List (ByteArray × Int)} (h : Pcs w B (.slice (some a) n c) l) : n ≤ c := by
  rcases h.row.2 with ⟨hv, hn⟩ | ⟨g, c', cur, hv, hb, hg, hlc, hm, hs, ht⟩
  · simp only [Value.slice.injEq] at hv; exact absurd hv.1 (by simp)
  · simp only [Value.slice.injEq] at hv
    obtain ⟨_, rfl, rfl⟩ := hv
    exact hlc
theorem pcc_told {w : World} {g : Nat} {t : TypeId} {x : ByteArray} {k : Int} (h : Blk w g #[.string x, .int .i64 k] t) : ∀ j u, (pcc (x, k)).toList[j]? = some u → w.cell? (Addr.add ⟨g, 0, none⟩ j) = some u := fun j u hj => by
  match j, hj with
  | 0, hj => cases hj; exact h.cell 0 rfl
  | 1, hj => cases hj; exact h.cell 1 rfl
end Go.Proofs.YteoopoabemeanaaGreatDoor
/- pred.printed of Not. -/
namespace Go.Proofs.YteoopoabemeanaaGreatDoor
set_option maxRecDepth 100000
open Go.RowKit

set_option maxHeartbeats 4000000 in
theorem pr_not {w : World} {B : Nat} {v : Value} {l : List (ByteArray × Int)} {t : ByteArray} {b : Int} (h : Pcs w B v (l ++ [(t, b)])) (hB : B ≤ w.heap.size) (hl : l.length ≤ 1000) (ht : t.size ≤ 1000000) : OutP w B v (Tm.plain 4) (l ++ [(⟨#[33]⟩ ++ heldB t b 2, 2)]) := by
  have hcx : ∀ (a : Addr) (m : Mode) (W : World) (x y : Nat), (store a (.complex .f64 x y) m).run Tryz.prog W = stored Tryz.prog W a (.complex .f64 x y) m := fun a m W x y => run_store _ _ _ _ _ rfl
  obtain ⟨a, c, rfl⟩ := h.form
  obtain ⟨n, HN⟩ : ∃ n, Hid (l.length = n) := ⟨_, rfl⟩
  have hlen : (l ++ [(t, b)]).length = n + 1 := by rw [List.length_append, HN.out]; rfl
  rw [hlen] at h ⊢
  rw [HN.out] at hl
  obtain ⟨g, rfl, hg, hgl, k0, k1⟩ := h.at_ n (by omega)
  have hq : (l ++ [(t, b)])[n]'(by omega) = (t, b) := by rw [List.getElem_append_right (by rw [HN.out]; omega)]; simp [HN.out]
  rw [hq] at k0 k1
  have HCUT : Hid (Pcs w B (.slice (some ⟨g, 0, none⟩) n c) l) := by
    have := h.cut n (by omega) (by simp)
    rwa [List.take_left' HN.out] at this
  have hs1 := held_size (t := t) (b := b) (k := 2)
  have z1 : (⟨#[33]⟩ : ByteArray).size = 1 := rfl
  have c1 : ¬ (9223372036854775807 < (⟨#[33]⟩ : ByteArray).size + (heldB t b 2).size) := by omega
  have c2 : ¬ (9223372036854775807 < 1 + (heldB t b 2).size) := by omega
  have hcap := h.cap
  have g1 : (0 : Int) ≤ (n : Int) := by omega
  have g2 : (n : Int) < (n : Int) + 1 := by omega
  have g3 : (n : Int) ≤ (c : Int) := by omega
  have g5 : (n : Int) < ((n + 1 : Nat) : Int) := by omega
  clear hcap
  obtain ⟨W1, HW1⟩ : ∃ W1, Hid (W1 = w.alloc (.cells #[.int .i64 4, .string ⟨#[]⟩, .int .i64 0, .int .i64 0, .int .i64 0, .string ⟨#[]⟩, .bool false, .complex .f64 0 0, .int .i64 0] 52)) := ⟨_, rfl⟩
  have HX1 : Hid (Below w.heap.size w W1) := by (show Below _ _ _); rw [HW1.out]; exact below_alloc w _
  have HGL : Hid (g < W1.heap.size) := Nat.lt_of_lt_of_le hgl HX1.out.size
  rw [← HX1.out.cell (p := ⟨g, n * 2, none⟩) hgl] at k0
  rw [← HX1.out.cell (p := ⟨g, n * 2 + 1, none⟩) hgl] at k1
  clear h hlen hq
  unfold OutP Tm.plain Tm.cells Val.zero
  simp only
  go_enter Tryz.func12, Tryz.ntmps12
  go_upto_region 10 with fail
  rw [← HW1.out]
  have HB0 : Hid (Below W1.heap.size W1 W1.drew) := (Below.refl _ _).drew
  have m0 : W1.drew.cell? ⟨g, n * 2, none⟩ = some (.string t) := (HB0.out.cell (p := ⟨g, n * 2, none⟩) HGL.out).trans k0
  have m1 : W1.drew.cell? ⟨g, n * 2 + 1, none⟩ = some (.int .i64 b) := (HB0.out.cell (p := ⟨g, n * 2 + 1, none⟩) HGL.out).trans k1
  have HL9 : Hid ((l ++ [((⟨#[33]⟩ ++ heldB t b 2, 2) : ByteArray × Int)]).length = n + 1) := by (show _ = _); rw [List.length_append, HN.out]; rfl
  go_region_law (first
    | (refine step_append_pc rfl (.tmp 35) (.tmp 43) rfl B (.slice (some ⟨g, 0, none⟩) n c) l rfl HPA.out ⟨w5.heap.size, 0, none⟩ 1 (⟨#[33]⟩ ++ heldB t b 2, 2) rfl HNW.out HLN.out HSZ.out ?_; intro v' w9 hp hgr; have HX9 : Hid (Below B w w9) := (HW.out.mono hB).trans ((Below.refl _ _).grown hgr HSZ.out (fun k hk => (HPA.out.row.lt k hk).1)); have HP9 : Hid (Pcs w9 B v' (l ++ [(⟨#[33]⟩ ++ heldB t b 2, 2)])) := hp; clear hp hgr; obtain ⟨a9, c9, e9⟩ := HP9.out.form; rw [HL9.out] at e9; subst e9)
    | (go_simp; go_at_call 22; refine (held_w t ht b 2 _).mono ?_; rintro e w5 ⟨rfl, hb5⟩; have HB5 : Hid (Below w.heap.size w w5) := HX1.out.trans ((HB0.out.trans (hb5.mono HB0.out.size)).mono HX1.out.size); clear hb5; have HW : Hid (Below w.heap.size w (w5.alloc (.cells #[.string (⟨#[33]⟩ ++ heldB t b 2), .int .i64 2] 57))) := HB5.out.alloc HB5.out.size _; have HPA : Hid (Pcs (w5.alloc (.cells #[.string (⟨#[33]⟩ ++ heldB t b 2), .int .i64 2] 57)) B (.slice (some ⟨g, 0, none⟩) n c) l) := HCUT.out.below HW.out; have HNW : Hid (∀ j u, (pcc (⟨#[33]⟩ ++ heldB t b 2, 2)).toList[j]? = some u → (w5.alloc (.cells #[.string (⟨#[33]⟩ ++ heldB t b 2), .int .i64 2] 57)).cell? (Addr.add ⟨w5.heap.size, 0, none⟩ j) = some u) := pcc_told (Blk.new w5 _ _); have HLN : Hid (l.length ≤ 100000) := (by (show _ ≤ _); rw [HN.out]; omega); have HSZ : Hid (B ≤ (w5.alloc (.cells #[.string (⟨#[33]⟩ ++ heldB t b 2), .int .i64 2] 57)).heap.size) := Nat.le_trans hB HW.out.size))
  all_goals (
    go_wp2
    go_ret
    exact ⟨_, rfl, HP9.out, HX9.out⟩)
end Go.Proofs.YteoopoabemeanaaGreatDoor
