/- Texts are put and taken: octet.Text, takeRange, TakeText, for every text, row of bytes and place. -/
import Derived.Test.YtfmpfjpcigdeoabGreatDoorPut
import Derived.Test.YtfmpfjpcigdeoabGreatDoorTake
import Derived.Test.YtfmpfjpcigdeoabGreatDoorLebBack
import Derived.Lib.AppendStr
namespace Go.Proofs.YtfmpfjpcigdeoabGreatDoor
set_option maxRecDepth 100000
open Go.RowKit

/-- A text's bytes. -/
def bytesOf (s : ByteArray) : List Nat := s.data.toList.map fun u => u.toNat

theorem bytesOf_byte (s : ByteArray) : ∀ x ∈ bytesOf s, x < 256 := by
  intro x hx
  obtain ⟨u, _, rfl⟩ := List.mem_map.1 hx
  exact u.toNat_lt
theorem bytesOf_length (s : ByteArray) : (bytesOf s).length = s.size := by
  rw [bytesOf, List.length_map, Array.length_toList]; rfl
theorem str_bytesOf (s : ByteArray) : str (bytesOf s) = s := by
  apply ByteArray.ext
  apply Array.toList_inj.1
  simp only [str, bytesOf, List.map_map]
  conv => rhs; rw [← List.map_id s.data.toList]
  apply List.map_congr_left
  intro u _
  simp
theorem vb_bytesOf (s : ByteArray) : Lib.strCells s = vb (bytesOf s) := by
  simp only [Lib.strCells, vb, bytesOf, List.map_map]
  rfl

theorem octet_Text_long (s : ByteArray) (hs : 200 < s.size) (hm : s.size ≤ maxLen) (w : World) :
    Calls Tryz.prog 45 #[.string s] w fun e w' => e = .returned (.tuple #[.slice none 0 0, .int .i64 6]) ∧ w' = w := by
  unfold maxLen at hm
  go_enter Tryz.func45, Tryz.ntmps45
  go_wp2
  go_ret2
  exact ⟨rfl, rfl⟩

set_option maxHeartbeats 400000 in
theorem octet_Text (s : ByteArray) (hs : s.size ≤ 200) (w : World) :
    Calls Tryz.prog 45 #[.string s] w fun e w' => ∃ a cap, e = .returned (.tuple #[.slice a ((Leb.leb s.size).length + s.size) cap, .int .i64 0]) ∧ a ≠ none ∧ Own w' w.heap.size a ((Leb.leb s.size).length + s.size) cap (Leb.leb s.size ++ bytesOf s) ∧ Below w.heap.size w w' := by
  have hll := Leb.leb_length s.size
  obtain ⟨i0, hi, hz0, hz1, hz2⟩ := info_parts infoByte
  go_enter Tryz.func45, Tryz.ntmps45
  go_wp2_with fail
  refine (octet_Uint s.size (by omega) w).mono ?_
  rintro e w1 ⟨a1, c1, rfl, hne, ho1, hb1⟩
  have HO1 : Hid (Own w1 w.heap.size a1 (Leb.leb s.size).length c1 (Leb.leb s.size)) := ho1
  have HB1 : Hid (Below w.heap.size w w1) := hb1
  clear ho1 hb1
  obtain ⟨m, HM⟩ : ∃ m, Hid (m = (Leb.leb s.size).length) := ⟨_, rfl⟩
  rw [← HM.out] at HO1 hll
  rw [← HM.out]
  go_wp2_with (at_builtin; refine Lib.wpList_append_own_string w1 (by rfl) (.tmp 10) (.tmp 11) 33 9 (by rfl) w.heap.size 5 i0 Tryz.underlying33 Tryz.underlying9 hi hz0 hz1 hz2 (.slice a1 m c1) m (vb (Leb.leb s.size)) (by rfl) HO1.out.row s (by rfl) (by unfold maxLen; omega) (by omega) HB1.out.size ?_; intro v' w2 hrow hgrow _)
  rw [vb_bytesOf, ← vb_append] at hrow
  have hbel : Below w.heap.size w w2 := HB1.out.trans ((Below.refl _ _).grown hgrow HB1.out.size (fun k hk => (HO1.out.row.lt k hk).1))
  obtain ⟨g, cap, hv, _⟩ := hrow.form (by omega)
  subst hv
  have HO2 : Hid (Own w2 w.heap.size (some ⟨g, 0, none⟩) (m + s.size) cap (Leb.leb s.size ++ bytesOf s)) := ⟨hrow, fun x hx => (List.mem_append.1 hx).elim (HO1.out.byte x) (bytesOf_byte s x)⟩
  have HB2 : Hid (Below w.heap.size w w2) := hbel
  clear hrow hgrow hbel
  go_wp2
  go_ret2
  exact ⟨some ⟨g, 0, none⟩, cap, by rw [← HM.out]; rfl, by simp, by rw [← HM.out]; exact HO2.out, HB2.out⟩

/-- What a length says at a place: where its bytes begin and end, or the error. -/
def rng (limit len : Nat) : Nat × Nat × Nat → Nat × Nat × Nat
  | (n, k, 0) => if limit < n then (0, 0, 6) else if len - k < n then (0, 0, 3) else (k, k + n, 0)
  | (_, _, f) => (0, 0, f)
/-- Where bytes begin and end that stand behind their length at a place; and the error. -/
def range (bs : List Nat) (x : Int) (limit : Nat) : Nat × Nat × Nat := rng limit bs.length (Leb.take bs x)
theorem range_def (bs : List Nat) (x : Int) (limit : Nat) : range bs x limit = rng limit bs.length (Leb.take bs x) := rfl
theorem rng_err (limit len n k f : Nat) (h : ¬ f = 0) : rng limit len (n, k, f) = (0, 0, f) := by
  cases f with
  | zero => exact absurd rfl h
  | succ f => rfl
def toldR (r : Nat × Nat × Nat) : Ending := .returned (.tuple #[.int .i64 (r.1 : Int), .int .i64 (r.2.1 : Int), .int .i64 (r.2.2 : Int)])

set_option maxHeartbeats 400000 in
theorem octet_takeRange (a : Option Addr) (len cap : Nat) (bs : List Nat) (x : Int) (limit : Nat) (hlim : limit ≤ 100000) (w : World) (hr : Rd w a len bs) (hl : len ≤ 9223372036854775000) (hx : (-9223372036854775808 : Int) ≤ x ∧ x ≤ 9223372036854775807) :
    Calls Tryz.prog 87 #[.slice a len cap, .int .i64 x, .int .i64 (limit : Int)] w fun e w' => e = toldR (range bs x limit) ∧ w' = w := by
  have HR : Hid (Rd w a len bs) := hr
  have HX : Hid ((-9223372036854775808 : Int) ≤ x ∧ x ≤ 9223372036854775807) := hx
  obtain ⟨n, k, f, hT⟩ : ∃ n k f, Leb.take bs x = (n, k, f) := ⟨_, _, _, rfl⟩
  have HT : Hid (Leb.take bs x = (n, k, f)) := hT
  have HL : Hid (bs.length = len) := hr.size
  by_cases hf : f = 0
  · obtain ⟨hkl, hn⟩ : k ≤ bs.length ∧ n < 18446744073709551616 := by
      obtain ⟨p, _, _, hkl, hn, _⟩ := Leb.take_once bs x hr.byte n k (by rw [hT, hf])
      exact ⟨hkl, hn⟩
    rw [HL.out] at hkl
    have hf' : ((f : Int) != 0) = false := by simp [hf]
    by_cases h1 : limit < n
    · have HF : Hid (range bs x limit = (0, 0, 6)) := by
        show _ = _
        rw [range_def, hT, hf]; exact if_pos h1
      clear hr hx hT hf
      rw [HF.out]
      go_enter Tryz.func87, Tryz.ntmps87
      go_wp2_with fail
      refine (octet_TakeUint a len cap bs x w HR.out hl HX.out).mono ?_
      rw [HT.out]
      rintro e w1 ⟨rfl, rfl⟩
      unfold told
      go_wp2
      go_ret3
      exact ⟨rfl, rfl⟩
    · by_cases h2 : len - k < n
      · have HF : Hid (range bs x limit = (0, 0, 3)) := by
          show _ = _
          rw [range_def, hT, hf, HL.out]; exact (if_neg h1).trans (if_pos h2)
        have h2' : (len : Int) - (k : Int) < (n : Int) := by omega
        clear hr hx hT hf
        rw [HF.out]
        go_enter Tryz.func87, Tryz.ntmps87
        go_wp2_with fail
        refine (octet_TakeUint a len cap bs x w HR.out hl HX.out).mono ?_
        rw [HT.out]
        rintro e w1 ⟨rfl, rfl⟩
        unfold told
        go_wp2
        go_ret3
        exact ⟨rfl, rfl⟩
      · have HF : Hid (range bs x limit = (k, k + n, 0)) := by
          show _ = _
          rw [range_def, hT, hf, HL.out]; exact (if_neg h1).trans (if_neg h2)
        have h2' : ¬ (len : Int) - (k : Int) < (n : Int) := by omega
        clear hr hx hT hf
        rw [HF.out]
        go_enter Tryz.func87, Tryz.ntmps87
        go_wp2_with fail
        refine (octet_TakeUint a len cap bs x w HR.out hl HX.out).mono ?_
        rw [HT.out]
        rintro e w1 ⟨rfl, rfl⟩
        unfold told
        go_wp2
        go_ret3
        exact ⟨rfl, rfl⟩
  · have HF : Hid (range bs x limit = (0, 0, f)) := by
      show _ = _
      rw [range_def, hT]; exact rng_err _ _ _ _ _ hf
    have hf' : ((f : Int) != 0) = true := by simp [hf]
    clear hr hx hT hf
    rw [HF.out]
    go_enter Tryz.func87, Tryz.ntmps87
    go_wp2_with fail
    refine (octet_TakeUint a len cap bs x w HR.out hl HX.out).mono ?_
    rw [HT.out]
    rintro e w1 ⟨rfl, rfl⟩
    unfold told
    go_wp2
    go_ret3
    exact ⟨rfl, rfl⟩

/-- What TakeText tells. -/
def textAt (bs : List Nat) (x : Int) : List Nat × Nat × Nat :=
  match range bs x 200 with
  | (p, q, 0) => ((bs.drop p).take (q - p), q, 0)
  | (_, _, f) => ([], 0, f)
def toldT (r : List Nat × Nat × Nat) : Ending := .returned (.tuple #[.string (str r.1), .int .i64 (r.2.1 : Int), .int .i64 (r.2.2 : Int)])

theorem range_ok (bs : List Nat) (x : Int) (limit p q : Nat) (hb : ∀ y ∈ bs, y < 256) (h : range bs x limit = (p, q, 0)) : 0 < p ∧ p ≤ q ∧ q ≤ bs.length ∧ q - p ≤ limit := by
  rw [range_def] at h
  rcases hT : Leb.take bs x with ⟨n, k, f⟩
  rw [hT] at h
  cases f with
  | zero =>
    obtain ⟨p', _, hpk, hkl, hn, _⟩ := Leb.take_once bs x hb n k hT
    simp only [rng] at h
    split at h
    · simp at h
    · split at h
      · simp at h
      · simp only [Prod.mk.injEq, and_true] at h
        omega
  | succ f => simp [rng] at h

set_option maxHeartbeats 400000 in
theorem octet_TakeText (a : Option Addr) (len cap : Nat) (bs : List Nat) (x : Int) (w : World) (hr : Rd w a len bs) (hlc : len ≤ cap) (hl : len ≤ 9223372036854775000) (hx : (-9223372036854775808 : Int) ≤ x ∧ x ≤ 9223372036854775807) :
    Calls Tryz.prog 63 #[.slice a len cap, .int .i64 x] w fun e w' => e = toldT (textAt bs x) ∧ w' = w := by
  have HR : Hid (Rd w a len bs) := hr
  have HX : Hid ((-9223372036854775808 : Int) ≤ x ∧ x ≤ 9223372036854775807) := hx
  obtain ⟨p, q, f, hT⟩ : ∃ p q f, range bs x 200 = (p, q, f) := ⟨_, _, _, rfl⟩
  have HT : Hid (range bs x 200 = (p, q, f)) := hT
  have HC : Calls Tryz.prog 87 #[.slice a len cap, .int .i64 x, .int .i64 200] w fun e w' => e = toldR (p, q, f) ∧ w' = w := by
    rw [← hT]
    exact octet_takeRange a len cap bs x 200 (by omega) w hr hl hx
  have HCC : Hid (Calls Tryz.prog 87 #[.slice a len cap, .int .i64 x, .int .i64 200] w fun e w' => e = toldR (p, q, f) ∧ w' = w) := HC
  by_cases hf : f = 0
  · subst hf
    obtain ⟨hp0, hpq, hql, _⟩ := range_ok bs x 200 p q hr.byte hT
    rw [hr.size] at hql
    obtain ⟨b, off, rfl, hblt, hc⟩ : ∃ b off, a = some ⟨b, off, none⟩ ∧ b < w.heap.size ∧ ∀ i, i < len → w.cell? ⟨b, off + i, none⟩ = some (.int .u8 ((bs.getD i 0 : Nat) : Int)) := by
      rcases hr.cells with h0 | h
      · omega
      · exact h
    have HF : Hid (textAt bs x = ((bs.drop p).take (q - p), q, 0)) := by show _ = _; unfold textAt; rw [hT]; rfl
    have hsub : ∀ off', (q - p = 0 ∨ off' = off + p) → Rd w (some ⟨b, off', none⟩) (q - p) ((bs.drop p).take (q - p)) := by
      intro off' ho
      refine ⟨by rw [List.length_take, List.length_drop, hr.size]; omega, fun y hy => hr.byte y (List.mem_of_mem_drop (List.mem_of_mem_take hy)), ?_⟩
      rcases ho with h0 | rfl
      · exact .inl h0
      · refine .inr ⟨b, off + p, rfl, hblt, fun i hi => ?_⟩
        rw [Nat.add_assoc, hc (p + i) (by omega)]
        simp only [List.getD_eq_getElem?_getD, List.getElem?_take_of_lt hi, List.getElem?_drop]
    rw [HF.out]
    have g1 : (0 : Int) ≤ (p : Int) := by omega
    have g2 : (p : Int) ≤ (q : Int) := by omega
    have g3 : (q : Int) ≤ (cap : Int) := by omega
    by_cases hcp : cap = p
    · have k1 := fun c => conv_rd (hsub off (.inl (by omega))) c
      have K1 : Hid _ := k1
      clear hr hx hT HC hc hsub k1
      subst hcp
      go_enter Tryz.func63, Tryz.ntmps63
      go_wp2_with fail
      refine HCC.out.mono ?_
      rintro e w1 ⟨rfl, rfl⟩
      unfold toldR
      have k1 := K1.out
      go_wp2
      go_ret3
      exact ⟨rfl, rfl⟩
    · have k1 := fun c => conv_rd (hsub (off + p) (.inr rfl)) c
      have K1 : Hid _ := k1
      clear hr hx hT HC hc hsub k1
      go_enter Tryz.func63, Tryz.ntmps63
      go_wp2_with fail
      refine HCC.out.mono ?_
      rintro e w1 ⟨rfl, rfl⟩
      unfold toldR
      have k1 := K1.out
      go_wp2
      go_ret3
      exact ⟨rfl, rfl⟩
  · have HF : Hid (textAt bs x = ([], 0, f)) := by
      show _ = _
      unfold textAt
      rw [hT]
      cases f with
      | zero => exact absurd rfl hf
      | succ f => rfl
    have hf' : ((f : Int) != 0) = true := by simp [hf]
    rw [HF.out]
    clear hr hx hT HC hf
    go_enter Tryz.func63, Tryz.ntmps63
    go_wp2_with fail
    refine HCC.out.mono ?_
    rintro e w1 ⟨rfl, rfl⟩
    unfold toldR
    go_wp2
    go_ret3
    exact ⟨rfl, rfl⟩

end Go.Proofs.YtfmpfjpcigdeoabGreatDoor
