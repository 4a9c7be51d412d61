/- octet.Text: a text behind its length. -/
import Derived.Test.YtigmlhieibejoacPut
import Derived.Lib.AppendStr
namespace Go.Proofs.Ytigmlhieibejoac
open Go.RowKit

/-- A text's bytes. -/
def bytesOf (s : ByteArray) : List Nat := s.data.toList.map fun u => u.toNat

theorem bytesOf_byte (s : ByteArray) : ∀ x ∈ bytesOf s, x < 256 := by
  intro x hx
  obtain ⟨u, _, rfl⟩ := List.mem_map.1 hx
  exact u.toNat_lt
theorem bytesOf_length (s : ByteArray) : (bytesOf s).length = s.size := by
  rw [bytesOf, List.length_map, Array.length_toList]; rfl
theorem str_bytesOf (s : ByteArray) : str (bytesOf s) = s := by
  apply ByteArray.ext
  apply Array.toList_inj.1
  simp only [str, bytesOf, List.map_map]
  conv => rhs; rw [← List.map_id s.data.toList]
  apply List.map_congr_left
  intro u _
  simp
theorem vb_bytesOf (s : ByteArray) : Lib.strCells s = vb (bytesOf s) := by
  simp only [Lib.strCells, vb, bytesOf, List.map_map]
  rfl

theorem octet_Text_long (s : ByteArray) (hs : 200 < s.size) (hm : s.size ≤ maxLen) (w : World) :
    Calls Try.prog 16 #[.string s] w fun e w' => e = .returned (.tuple #[.slice none 0 0, .int .i64 6]) ∧ w' = w := by
  unfold maxLen at hm
  go_enter Try.func16, Try.ntmps16
  go_wp2
  go_ret2
  exact ⟨rfl, rfl⟩

set_option maxHeartbeats 400000 in
theorem octet_Text (s : ByteArray) (hs : s.size ≤ 200) (w : World) :
    Calls Try.prog 16 #[.string s] w fun e w' => ∃ a cap, e = .returned (.tuple #[.slice a ((Leb.leb s.size).length + s.size) cap, .int .i64 0]) ∧ a ≠ none ∧ Own w' w.heap.size a ((Leb.leb s.size).length + s.size) cap (Leb.leb s.size ++ bytesOf s) ∧ Below w.heap.size w w' := by
  have hll := Leb.leb_length s.size
  obtain ⟨i0, hi, hz0, hz1, hz2⟩ := info_parts infoByte
  go_enter Try.func16, Try.ntmps16
  go_wp2_with fail
  refine (octet_Uint s.size (by omega) w).mono ?_
  rintro e w1 ⟨a1, c1, rfl, hne, ho1, hb1⟩
  have HO1 : Hid (Own w1 w.heap.size a1 (Leb.leb s.size).length c1 (Leb.leb s.size)) := ho1
  have HB1 : Hid (Below w.heap.size w w1) := hb1
  clear ho1 hb1
  obtain ⟨m, HM⟩ : ∃ m, Hid (m = (Leb.leb s.size).length) := ⟨_, rfl⟩
  rw [← HM.out] at HO1 hll
  rw [← HM.out]
  go_wp2_with (at_builtin; refine Lib.wpList_append_own_string w1 (by rfl) (.tmp 10) (.tmp 11) 28 9 (by rfl) w.heap.size 5 i0 Try.underlying28 Try.underlying9 hi hz0 hz1 hz2 (.slice a1 m c1) m (vb (Leb.leb s.size)) (by rfl) HO1.out.row s (by rfl) (by unfold maxLen; omega) (by omega) HB1.out.size ?_; intro v' w2 hrow hgrow _)
  rw [vb_bytesOf, ← vb_append] at hrow
  have hbel : Below w.heap.size w w2 := HB1.out.trans ((Below.refl _ _).grown hgrow HB1.out.size (fun k hk => (HO1.out.row.lt k hk).1))
  obtain ⟨g, cap, hv, _⟩ := hrow.form (by omega)
  subst hv
  have HO2 : Hid (Own w2 w.heap.size (some ⟨g, 0, none⟩) (m + s.size) cap (Leb.leb s.size ++ bytesOf s)) := ⟨hrow, fun x hx => (List.mem_append.1 hx).elim (HO1.out.byte x) (bytesOf_byte s x)⟩
  have HB2 : Hid (Below w.heap.size w w2) := hbel
  clear hrow hgrow hbel
  go_wp2
  go_ret2
  exact ⟨some ⟨g, 0, none⟩, cap, by rw [← HM.out]; rfl, by simp, by rw [← HM.out]; exact HO2.out, HB2.out⟩

end Go.Proofs.Ytigmlhieibejoac
