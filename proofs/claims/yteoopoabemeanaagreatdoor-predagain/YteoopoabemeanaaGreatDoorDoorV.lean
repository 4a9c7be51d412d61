/- What the listed variables give: the library's two errors are there. -/
import Derived.Test.YteoopoabemeanaaGreatDoorDoorP
import Derived.Test.YteoopoabemeanaaGreatDoorRdrP
import Derived.FnData
namespace Go.Proofs.YteoopoabemeanaaGreatDoor
open Go.ChangeShapes Go.WideShapes Go.ChangeAt Go.RowKit

theorem var_err {W : World} {n : String} {g : Nat} {d : DataW Unit} {t : TypeId} {ms : Array (String × TypeId)} (hg : Tryz.prog.globalNamed n = some g) (hty : (Tryz.prog.globals[g]?).map (·.type) = some t) (ht : Tryz.prog.underlying t = some (.interface ms))
    (h : ∃ g t cs fuel p, Tryz.prog.globalNamed n = some g ∧ (Tryz.prog.globals[g]?).map (·.type) = some t ∧ W.var? Tryz.prog n = some cs ∧ DataW.trod (fun _ => ()) Tryz.prog W 0 (fun _ => true) false fuel t cs.toList = some (d, p)) :
    ∃ v, W.cell? ⟨g, 0, none⟩ = some v ∧ (v = .nilIface ∨ ∃ t p, v = .iface t p) := by
  obtain ⟨g', t', cs, fuel, p, hg', ht', hvar, hd⟩ := h
  obtain rfl := Option.some.inj (hg.symm.trans hg')
  obtain rfl := Option.some.inj (hty.symm.trans ht')
  rw [World.var?_cell hg hvar 0]
  cases fuel with
  | zero => simp [DataW.trod] at hd
  | succ fuel =>
    rcases cs with ⟨l⟩
    rcases l with _ | ⟨a, _ | ⟨b, l⟩⟩
    · simp [DataW.trod, ht] at hd
    · refine ⟨a, rfl, ?_⟩
      cases a with
      | nilIface => exact .inl rfl
      | iface t p => exact .inr ⟨t, p, rfl⟩
      | _ => simp [DataW.trod, ht] at hd
    · simp [DataW.trod, ht] at hd
theorem vars_of {W : World} (h : laidMetH Tryz.prog [("math/bits.deBruijn32tab", Rows.laid_math_bits_deBruijn32tab), ("math/bits.deBruijn64tab", Rows.laid_math_bits_deBruijn64tab), ("internal/strconv.uint64pow10", Rows.laid_internal_strconv_uint64pow10), ("strconv.ErrRange", Rows.laid_strconv_ErrRange), ("strconv.ErrSyntax", Rows.laid_strconv_ErrSyntax)] W) : Vars W := by
  have h' : laidMet Tryz.prog [("math/bits.deBruijn32tab", Rows.laid_math_bits_deBruijn32tab), ("math/bits.deBruijn64tab", Rows.laid_math_bits_deBruijn64tab), ("internal/strconv.uint64pow10", Rows.laid_internal_strconv_uint64pow10), ("strconv.ErrRange", Rows.laid_strconv_ErrRange), ("strconv.ErrSyntax", Rows.laid_strconv_ErrSyntax)] W := h
  obtain ⟨_, ⟨_, _, _, _, _, _, _, _, _, _, ⟨_, _, _, _, _, _, _, _, _, _, ⟨_, _, _, _, _, _, _, _, _, _, ⟨g1, t1, c1, f1, p1, q1, a1, a2, a3, a4, ⟨g2, t2, c2, f2, p2, q2, b1, b2, b3, b4, _, _⟩, _⟩, _⟩, _⟩, _⟩, _⟩ := h'
  have hr := var_err (show Tryz.prog.globalNamed "strconv.ErrRange" = some 3 by kernel_rfl) (show (Tryz.prog.globals[3]?).map (·.type) = some 102 by kernel_rfl) Tryz.underlying102 ⟨g1, t1, c1, f1, p1, a1, a2, a3, a4⟩
  have hs := var_err (show Tryz.prog.globalNamed "strconv.ErrSyntax" = some 2 by kernel_rfl) (show (Tryz.prog.globals[2]?).map (·.type) = some 102 by kernel_rfl) Tryz.underlying102 ⟨g2, t2, c2, f2, p2, b1, b2, b3, b4⟩
  exact ⟨hs, hr⟩
end Go.Proofs.YteoopoabemeanaaGreatDoor
