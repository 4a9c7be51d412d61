/- Proved: for every number and whatever stands around its key, of bulk at most 1048576 together, grapevinelaw02.OctetKeyBack answers true and leaves its arguments as they were. Its condition: that bound. -/
import Derived.Test.YtpkhkhoajaobkadKeys
import Derived.Test.YtpkhkhoajaobkadLay
import Derived.Test.YtpkhkhoajaobkadAround
import Derived.Deep.RegionHeld3
namespace Go.Proofs.Ytpkhkhoajaobkad
open Go.ChangeShapes Go.WideShapes Go.ChangeAt Go.RowKit
namespace octetKeyBack

set_option maxHeartbeats 1000000 in
theorem walk (n : Int) (hn : (-9223372036854775808 : Int) ≤ n ∧ n ≤ 9223372036854775807) (a1 : Option Addr) (l1 c1 : Nat) (xs : List Nat) (a2 : Option Addr) (l2 c2 : Nat) (zs : List Nat) (w : World)
    (h1 : Rd w a1 l1 xs) (n1 : a1 = none → c1 = 0) (h2 : Rd w a2 l2 zs) (n2 : a2 = none → c2 = 0) (hl : l1 + l2 ≤ 1048576) :
    Calls Try.prog 7 #[.int .i64 n, .agg #[.slice a1 l1 c1, .slice a2 l2 c2]] w fun e w' => e = .returned (.bool true) ∧ Below w.heap.size w w' := by
  have H1 : Hid (Rd w a1 l1 xs) := h1
  have H2 : Hid (Rd w a2 l2 zs) := h2
  have HN : Hid ((-9223372036854775808 : Int) ≤ n ∧ n ≤ 9223372036854775807) := hn
  have HT : Hid (KeyM.take (xs ++ KeyM.key (KeyM.up n) ++ zs) (l1 : Int) = (n, l1 + 8, 0)) := by
    have := KeyM.take_key n hn xs zs
    rw [h1.size] at this
    exact this
  clear h1 h2 hn
  go_enter Try.func7, Try.ntmps7
  go_wp2
  have k0 : (w.alloc (.cells #[.slice a1 l1 c1, .slice a2 l2 c2] 32)).cell? ⟨w.heap.size, 0, none⟩ = some (.slice a1 l1 c1) := by simp
  have k1 : (w.alloc (.cells #[.slice a1 l1 c1, .slice a2 l2 c2] 32)).cell? ⟨w.heap.size, 1, none⟩ = some (.slice a2 l2 c2) := by simp
  go_region_held3 (fun w' => w'.cell? ⟨w.heap.size, 0, none⟩ = some (.slice a1 l1 c1) ∧ w'.cell? ⟨w.heap.size, 1, none⟩ = some (.slice a2 l2 c2)) (go_keep)
    (first
      | (go_at_call 17; refine (octet_Key n HN.out _).mono ?_; rintro e w1 ⟨b, rfl, hob, hbb⟩; have k10 := hbb.cell (p := ⟨w.heap.size, 0, none⟩) (by simp); have k11 := hbb.cell (p := ⟨w.heap.size, 1, none⟩) (by simp); have HO1 : Hid (Rd w1 (some b) 8 (KeyM.key (KeyM.up n))) := hob.rd; have HB1 : Hid (Below w.heap.size w w1) := (below_alloc w _).drew.trans (hbb.mono (by simp)); have hsz : w.heap.size < w1.heap.size := Nat.lt_of_lt_of_le (by simp) hbb.size; clear hob hbb)
      | (go_at_call 14; refine (around_lay a1 l1 c1 xs a2 l2 c2 zs (some b) 8 8 (KeyM.key (KeyM.up n)) _ (H1.out.below HB1.out) n1 (H2.out.below HB1.out) n2 HO1.out (fun h => by cases h) (by omega)).mono ?_; rintro e w2 ⟨a3, c3, rfl, ho3, hb3⟩; have k20 := hb3.cell (p := ⟨w.heap.size, 0, none⟩) hsz; have k21 := hb3.cell (p := ⟨w.heap.size, 1, none⟩) hsz; have hc3 := ho3.cap_ok; have HO3 : Hid (Rd w2 a3 (l1 + 8 + l2) (xs ++ KeyM.key (KeyM.up n) ++ zs)) := ho3.rd; have HB2 : Hid (Below w.heap.size w w2) := HB1.out.trans (hb3.mono (Nat.le_of_lt hsz)); clear ho3 hb3)
      | (go_at_call 15; refine (octet_TakeKey a3 (l1 + 8 + l2) c3 (xs ++ KeyM.key (KeyM.up n) ++ zs) (l1 : Int) _ HO3.out hc3 (by omega) (by omega)).mono ?_; rw [HT.out]; rintro e w3 ⟨rfl, hw3⟩; subst hw3; unfold toldK))
  go_wp2
  go_ret
  exact ⟨rfl, HB2.out⟩

theorem contract (H : Type) (enc : TypeId × Value → H) (W : World) (base : Nat) (args : Array Value) (ds gs : List (DataW H)) (before : List MemPlace)
    (hval : ∀ (j : Nat) t v, Try.f7.params[j]? = some t → args[j]? = some v → Value.okWide Try.prog W .any base t v)
    (hW : DataW.Whole enc Try.prog Try.f7.params.toList Rows.octetKeyBackSpec.vars false W args.toList ds gs before) (hk : Rows.uptoSmall H (ds ++ gs) = true) :
    Calls Try.prog 7 args W fun e W' => ∃ v, e = .returned v ∧ Rows.octetKeyBackSpec.post enc Try.prog Try.f7 false true false false W args v W' := by
  have hW' := hW
  obtain ⟨p, q, hA0, hV, rfl, hfz, hnd⟩ := hW
  have hA : DataW.TrodAll enc Try.prog W 0 (fun _ => true) true Try.f7.params.toList args.toList ds p := hA0
  have hK := hA
  rw [Try.params7] at hA hval
  obtain ⟨v0, vs0, d0, ds0, p0, q0, hargs, rfl, rfl, h0, r0⟩ := trodAll_cons hA
  obtain ⟨v1, vs1, d1, ds1, p1, q1, rfl, rfl, rfl, h1, r1⟩ := trodAll_cons r0
  obtain ⟨rfl, rfl, rfl⟩ := trodAll_nil r1
  obtain rfl : args = #[v0, v1] := by cases args; simp_all
  obtain ⟨rfl, rfl⟩ := trodVars_none hV
  have hbulk := bulk_bound hk
  simp only [List.cons_append, List.nil_append, Rows.uptoBulkAll] at hbulk
  obtain ⟨x0, rfl, rfl, rfl, w0⟩ := open_int Try.underlying2 (hval 0 2 v0 rfl rfl) h0
  have b0 : (-9223372036854775808 : Int) ≤ x0 ∧ x0 ≤ 9223372036854775807 := by simpa [Lit.wf, IntKind.min, IntKind.max, IntKind.signed, IntKind.bits] using w0
  obtain ⟨aa1, la1, ca1, xa1, ab1, lb1, cb1, xb1, rfl, ra1, na1, rb1, nb1, bk1⟩ := open_around (hval 1 32 v1 rfl rfl) h1
  refine (walk x0 b0 aa1 la1 ca1 xa1 ab1 lb1 cb1 xb1 W ra1 na1 rb1 nb1 (by omega)).mono fun e W' ⟨he, bel⟩ => ?_
  subst he
  exact ⟨_, rfl, _, _, _, [], _, [], hW', trodAll_mk1 (shut_bool Try.underlying4 _), trodAll_below laidOut bel _ _ _ _ (by kernel_rfl) hK, rfl, bel.frame _, fun h => by cases h⟩

set_option maxRecDepth 100000 in
theorem lifted (os : Os) (started : os.Started) (H : Type) (enc : TypeId × Value → H) (F : Stop.Interp) :
    ReturnsInHanded {} Try.checked os 7 .any ((Rows.OpenSpec.upto Rows.octetKeyBackSpec).pre6 enc Try.prog Try.f7 Rows.octetKeyBackUptoRow.domain false) (((Rows.OpenSpec.upto Rows.octetKeyBackSpec).at F).post enc Try.prog Try.f7 false true false false) := by
  refine returnsInHanded_of_cond (C := Try.checked) (s := Rows.OpenSpec.upto Rows.octetKeyBackSpec) (k := Rows.uptoSmall) rfl own started (by kernel_rfl) Try.func7
    (OpenSpec.witness (enc := enc) (C := Try.checked) (s := Rows.OpenSpec.upto Rows.octetKeyBackSpec) (k := Rows.uptoSmall) rfl false ⟨#[], #[.int .i64 0, .agg #[.slice none 0 0, .slice none 0 0]], []⟩ 8 (by kernel_rfl) (by kernel_rfl) (by kernel_rfl)
      (x := ([.lit (.int .i64 0), .agg [.nil, .nil]], [], [])) (by kernel_rfl) rfl (by kernel_rfl)) ?_
  intro W base args ds gs before hval hW _ hk _
  exact contract H enc W base args ds gs before hval hW hk

theorem said : Rows.OctetKeyBackUptoSaid :=
  OpenClaim.holds_of_cond 7 Try.f7 rfl rfl rfl rfl rfl rfl rfl ⟨rfl, rfl, rfl, rfl, rfl⟩ rfl rfl rfl rfl rfl (by kernel_rfl) Try.func7 (by kernel_rfl)
    (of_decide_eq_true (by kernel_rfl)) (by unfold Func.isWrapper; first | (rw [if_pos (by decide +kernel)]; kernel_rfl) | (rw [if_neg (by decide +kernel)]; exact ⟨rfl, rfl⟩))
    (fun os started H enc _ F => lifted os started H enc F)
end octetKeyBack

theorem octetKeyBackUpto_holds : Rows.OctetKeyBackUptoSaid := octetKeyBack.said
end Go.Proofs.Ytpkhkhoajaobkad

