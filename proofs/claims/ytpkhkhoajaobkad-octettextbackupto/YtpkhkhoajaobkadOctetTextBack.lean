/- Proved: for every text and whatever stands around it, of bulk at most 1048576 together, grapevinelaw02.OctetTextBack answers true and leaves its arguments as they were. Its condition: that bound. -/
import Derived.Test.YtpkhkhoajaobkadTexts
import Derived.Test.YtpkhkhoajaobkadKeys
import Derived.Test.YtpkhkhoajaobkadLay
import Derived.Test.YtpkhkhoajaobkadAround
import Derived.Deep.RegionHeld3
namespace Go.Proofs.Ytpkhkhoajaobkad
open Go.ChangeShapes Go.WideShapes Go.ChangeAt Go.RowKit
open Go.ChangeMaps (open_string shut_string)
namespace octetTextBack

theorem text_back (s : ByteArray) (hs : s.size ≤ 200) (xs zs : List Nat) : textAt (xs ++ (Leb.leb s.size ++ bytesOf s) ++ zs) (xs.length : Int) = (bytesOf s, xs.length + ((Leb.leb s.size).length + s.size), 0) := by
  have e : xs ++ (Leb.leb s.size ++ bytesOf s) ++ zs = xs ++ Leb.leb s.size ++ (bytesOf s ++ zs) := by simp
  have hbl := bytesOf_length s
  have ht := Leb.take_put s.size (by omega) xs (bytesOf s ++ zs)
  have hr : range (xs ++ Leb.leb s.size ++ (bytesOf s ++ zs)) (xs.length : Int) 200 = (xs.length + (Leb.leb s.size).length, xs.length + (Leb.leb s.size).length + s.size, 0) := by
    rw [range_def, ht]
    simp only [rng]
    rw [if_neg (by omega), if_neg (by simp only [List.length_append, hbl]; omega)]
  unfold textAt
  rw [e, hr]
  simp only
  refine Prod.ext ?_ (Prod.ext ?_ rfl)
  · show List.take _ (List.drop _ _) = bytesOf s
    have hd : (xs ++ Leb.leb s.size ++ (bytesOf s ++ zs)).drop (xs.length + (Leb.leb s.size).length) = bytesOf s ++ zs := by
      rw [← List.length_append, List.drop_left]
    rw [hd, show xs.length + (Leb.leb s.size).length + s.size - (xs.length + (Leb.leb s.size).length) = (bytesOf s).length from by omega, List.take_left]
  · show xs.length + (Leb.leb s.size).length + s.size = xs.length + ((Leb.leb s.size).length + s.size)
    omega

theorem leb128 : (Leb.leb 128).length = 2 := by decide

set_option maxHeartbeats 1000000 in
theorem walk (s : ByteArray) (hs : s.size ≤ 1048576) (a1 : Option Addr) (l1 c1 : Nat) (xs : List Nat) (a2 : Option Addr) (l2 c2 : Nat) (zs : List Nat) (w : World)
    (h1 : Rd w a1 l1 xs) (n1 : a1 = none → c1 = 0) (h2 : Rd w a2 l2 zs) (n2 : a2 = none → c2 = 0) (hl : l1 + l2 ≤ 1048576) :
    Calls Try.prog 4 #[.string s, .agg #[.slice a1 l1 c1, .slice a2 l2 c2]] w fun e w' => e = .returned (.bool true) ∧ Below w.heap.size w w' := by
  have H1 : Hid (Rd w a1 l1 xs) := h1
  have H2 : Hid (Rd w a2 l2 zs) := h2
  by_cases hlong : 200 < s.size
  · clear h1 h2
    go_enter Try.func4, Try.ntmps4
    go_wp2_with fail
    refine (octet_Text_long s hlong (by unfold maxLen; omega) _).mono ?_
    rintro e w1 ⟨rfl, hw1⟩
    subst hw1
    go_wp2_with fail
    refine (octet_Uint 128 (by omega) _).mono ?_
    rw [leb128]
    rintro e w2 ⟨a3, c3, rfl, _, _, hb2⟩
    have HB2 : Hid (Below w.heap.size w w2) := (below_alloc w _).trans (hb2.mono (by simp))
    clear hb2
    go_wp2
    go_ret
    exact ⟨rfl, HB2.out⟩
  · have hll := Leb.leb_length s.size
    obtain ⟨m, HM⟩ : ∃ m, Hid (m = (Leb.leb s.size).length + s.size) := ⟨_, rfl⟩
    have hm : m ≤ 210 := by rw [HM.out]; omega
    have HT : Hid (textAt (xs ++ (Leb.leb s.size ++ bytesOf s) ++ zs) (l1 : Int) = (bytesOf s, l1 + m, 0)) := by
      have := text_back s (by omega) xs zs
      rw [h1.size, ← HM.out] at this
      exact this
    clear h1 h2 hll
    go_enter Try.func4, Try.ntmps4
    go_wp2_with fail
    refine (octet_Text s (by omega) _).mono ?_
    rw [← HM.out]
    rintro e w1 ⟨b, cb, rfl, hnb, hob, hbb⟩
    have hbox : ∀ j, w1.cell? ⟨w.heap.size, j, none⟩ = (w.alloc (.cells #[.slice a1 l1 c1, .slice a2 l2 c2] 32)).cell? ⟨w.heap.size, j, none⟩ := fun j => hbb.cell (p := ⟨w.heap.size, j, none⟩) (by simp)
    have k0 : w1.cell? ⟨w.heap.size, 0, none⟩ = some (.slice a1 l1 c1) := by rw [hbox]; simp
    have k1 : w1.cell? ⟨w.heap.size, 1, none⟩ = some (.slice a2 l2 c2) := by rw [hbox]; simp
    have HB1 : Hid (Below w.heap.size w w1) := (below_alloc w _).trans (hbb.mono (by simp))
    have HO1 : Hid (Rd w1 b m (Leb.leb s.size ++ bytesOf s)) := hob.rd
    have hsz : w.heap.size < w1.heap.size := Nat.lt_of_lt_of_le (by simp) hbb.size
    clear hob hbb hbox
    go_wp2
    go_region_held3 (fun w' => w'.cell? ⟨w.heap.size, 0, none⟩ = some (.slice a1 l1 c1) ∧ w'.cell? ⟨w.heap.size, 1, none⟩ = some (.slice a2 l2 c2)) (go_keep)
      (first
        | (go_at_call 14; refine (around_lay a1 l1 c1 xs a2 l2 c2 zs b m cb (Leb.leb s.size ++ bytesOf s) _ (H1.out.below HB1.out.drew) n1 (H2.out.below HB1.out.drew) n2 (HO1.out.below (Below.refl _ _).drew) (fun h => absurd h hnb) (by omega)).mono ?_; rintro e w2 ⟨a3, c3, rfl, ho3, hb3⟩; have k20 := hb3.cell (p := ⟨w.heap.size, 0, none⟩) (by simpa using hsz); have k21 := hb3.cell (p := ⟨w.heap.size, 1, none⟩) (by simpa using hsz); have hc3 := ho3.cap_ok; have HO3 : Hid (Rd w2 a3 (l1 + m + l2) (xs ++ (Leb.leb s.size ++ bytesOf s) ++ zs)) := ho3.rd; have HB2 : Hid (Below w.heap.size w w2) := HB1.out.drew.trans (hb3.mono (Nat.le_of_lt hsz)); clear ho3 hb3)
        | (go_at_call 11; refine (octet_TakeText a3 (l1 + m + l2) c3 (xs ++ (Leb.leb s.size ++ bytesOf s) ++ zs) (l1 : Int) _ HO3.out hc3 (by omega) (by omega)).mono ?_; rw [HT.out, show toldT (bytesOf s, l1 + m, 0) = .returned (.tuple #[.string (str (bytesOf s)), .int .i64 ((l1 + m : Nat) : Int), .int .i64 0]) from rfl, str_bytesOf]; rintro e w3 ⟨rfl, hw3⟩; subst hw3))
    go_wp2
    go_ret
    exact ⟨rfl, HB2.out⟩

theorem contract (H : Type) (enc : TypeId × Value → H) (W : World) (base : Nat) (args : Array Value) (ds gs : List (DataW H)) (before : List MemPlace)
    (hval : ∀ (j : Nat) t v, Try.f4.params[j]? = some t → args[j]? = some v → Value.okWide Try.prog W .any base t v)
    (hW : DataW.Whole enc Try.prog Try.f4.params.toList Rows.octetTextBackSpec.vars false W args.toList ds gs before) (hk : Rows.uptoSmall H (ds ++ gs) = true) :
    Calls Try.prog 4 args W fun e W' => ∃ v, e = .returned v ∧ Rows.octetTextBackSpec.post enc Try.prog Try.f4 false true false false W args v W' := by
  have hW' := hW
  obtain ⟨p, q, hA0, hV, rfl, hfz, hnd⟩ := hW
  have hA : DataW.TrodAll enc Try.prog W 0 (fun _ => true) true Try.f4.params.toList args.toList ds p := hA0
  have hK := hA
  rw [Try.params4] at hA hval
  obtain ⟨v0, vs0, d0, ds0, p0, q0, hargs, rfl, rfl, h0, r0⟩ := trodAll_cons hA
  obtain ⟨v1, vs1, d1, ds1, p1, q1, rfl, rfl, rfl, h1, r1⟩ := trodAll_cons r0
  obtain ⟨rfl, rfl, rfl⟩ := trodAll_nil r1
  obtain rfl : args = #[v0, v1] := by cases args; simp_all
  obtain ⟨rfl, rfl⟩ := trodVars_none hV
  have hbulk := bulk_bound hk
  simp only [List.cons_append, List.nil_append, Rows.uptoBulkAll] at hbulk
  obtain ⟨s0, rfl, rfl, rfl, hs0⟩ := open_string Try.underlying9 (hval 0 9 v0 rfl rfl) h0
  obtain ⟨aa1, la1, ca1, xa1, ab1, lb1, cb1, xb1, rfl, ra1, na1, rb1, nb1, bk1⟩ := open_around (hval 1 32 v1 rfl rfl) h1
  simp only [Rows.uptoBulk] at hbulk
  have es0 : s0.data.toList.length = s0.size := by rw [Array.length_toList]; rfl
  refine (walk s0 (by omega) aa1 la1 ca1 xa1 ab1 lb1 cb1 xb1 W ra1 na1 rb1 nb1 (by omega)).mono fun e W' ⟨he, bel⟩ => ?_
  subst he
  exact ⟨_, rfl, _, _, _, [], _, [], hW', trodAll_mk1 (shut_bool Try.underlying4 _), trodAll_below laidOut bel _ _ _ _ (by kernel_rfl) hK, rfl, bel.frame _, fun h => by cases h⟩

set_option maxRecDepth 100000 in
theorem lifted (os : Os) (started : os.Started) (H : Type) (enc : TypeId × Value → H) (F : Stop.Interp) :
    ReturnsInHanded {} Try.checked os 4 .any ((Rows.OpenSpec.upto Rows.octetTextBackSpec).pre6 enc Try.prog Try.f4 Rows.octetTextBackUptoRow.domain false) (((Rows.OpenSpec.upto Rows.octetTextBackSpec).at F).post enc Try.prog Try.f4 false true false false) := by
  refine returnsInHanded_of_cond (C := Try.checked) (s := Rows.OpenSpec.upto Rows.octetTextBackSpec) (k := Rows.uptoSmall) rfl own started (by kernel_rfl) Try.func4
    (OpenSpec.witness (enc := enc) (C := Try.checked) (s := Rows.OpenSpec.upto Rows.octetTextBackSpec) (k := Rows.uptoSmall) rfl false ⟨#[], #[.string .empty, .agg #[.slice none 0 0, .slice none 0 0]], []⟩ 8 (by kernel_rfl) (by kernel_rfl) (by kernel_rfl)
      (x := ([.lit (.string []), .agg [.nil, .nil]], [], [])) (by kernel_rfl) rfl (by kernel_rfl)) ?_
  intro W base args ds gs before hval hW _ hk _
  exact contract H enc W base args ds gs before hval hW hk

theorem said : Rows.OctetTextBackUptoSaid :=
  OpenClaim.holds_of_cond 4 Try.f4 rfl rfl rfl rfl rfl rfl rfl ⟨rfl, rfl, rfl, rfl, rfl⟩ rfl rfl rfl rfl rfl (by kernel_rfl) Try.func4 (by kernel_rfl)
    (of_decide_eq_true (by kernel_rfl)) (by unfold Func.isWrapper; first | (rw [if_pos (by decide +kernel)]; kernel_rfl) | (rw [if_neg (by decide +kernel)]; exact ⟨rfl, rfl⟩))
    (fun os started H enc _ F => lifted os started H enc F)
end octetTextBack

theorem octetTextBackUpto_holds : Rows.OctetTextBackUptoSaid := octetTextBack.said
end Go.Proofs.Ytpkhkhoajaobkad

