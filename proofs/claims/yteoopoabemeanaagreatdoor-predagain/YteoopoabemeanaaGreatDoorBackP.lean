/- A pack of texts: PrT13 PrT14. -/
import Derived.Test.YteoopoabemeanaaGreatDoorPrT12
import Derived.Test.YteoopoabemeanaaGreatDoorPrChk
import Derived.Test.YteoopoabemeanaaGreatDoorPaAll
import Derived.Test.YteoopoabemeanaaGreatDoorDoorV
/- pred.Print of the terms of a tree. -/
namespace Go.Proofs.YteoopoabemeanaaGreatDoor
set_option maxRecDepth 100000
open Go.RowKit

def PrintTold (l : List Tm) (w : World) (e : Ending) (w' : World) : Prop := ∃ (e0 : Ex) (x : List Nat) (u : List Wd), e0.std ∧ e0.post = l ∧ Txt e0 x u ∧ ((x.length ≤ 300 ∧ e = .returned (.tuple #[.string (str x), .int .i64 0])) ∨ (300 < x.length ∧ e = .returned (.tuple #[.string ⟨#[]⟩, .int .i64 6]))) ∧ Below w.heap.size w w'
/-- The pieces behind the first terms. -/
def PiecesAt (l : List Tm) (i : Nat) (B : Nat) (v : Value) (w : World) : Prop := ∃ es : List (Ex × List Nat), Pcs w B v (pcs es) ∧ (∀ p ∈ es, PcOk p) ∧ flatE es = l.take i ∧ es.length ≤ 16 ∧ checkGo es.length (l.drop i) = 0
theorem PiecesAt.next {l : List Tm} {i : Nat} {B : Nat} {v : Value} {w w1 : World} (h : PiecesAt l i B v w) (hb : Below w.heap.size w w1) (hB : B ≤ w1.heap.size) (htb : Tb w1) (hl : l.length ≤ 48) (hi : i < l.length) (hq : TStd l[i]) : Calls Tryz.prog 12 #[v, .agg l[i].cells] w1 fun e w' => ∃ v', e = .returned v' ∧ PiecesAt l (i + 1) B v' w' ∧ Below B w1 w' := by
  obtain ⟨es, h1, h2, h3, h4, h5⟩ := h
  rw [List.drop_eq_getElem_cons hi] at h5
  obtain ⟨es', k1, k2, k3, k4, k5⟩ := printed_step (h1.below hb) hB htb h2 (by rw [h3, List.length_take]; omega) h4 hq h5
  refine k5.mono ?_
  rintro e w' ⟨v', rfl, m1, m2⟩
  exact ⟨v', rfl, ⟨es', m1, k1, by rw [k2, h3, List.take_succ_eq_append_getElem hi], k3, k4⟩, m2⟩
theorem PiecesAt.done {l : List Tm} {B : Nat} {v : Value} {w : World} (h : PiecesAt l l.length B v w) : ∃ (e0 : Ex) (x : List Nat) (u : List Wd) (g c : Nat), e0.std ∧ e0.post = l ∧ Txt e0 x u ∧ x.length ≤ 1000 * l.length ∧ v = .slice (some ⟨g, 0, none⟩) 1 c ∧ w.cell? ⟨g, 0, none⟩ = some (.string (str x)) := by
  obtain ⟨es, h1, h2, h3, h4, h5⟩ := h
  rw [List.drop_length, checkGo] at h5
  by_cases h6 : es.length = 1
  · obtain ⟨p, rfl⟩ : ∃ p, es = [p] := List.length_eq_one_iff.1 h6
    have hp := h2 p (List.mem_singleton.2 rfl)
    rw [List.take_length] at h3
    have h3 : p.1.post = l := by rw [← h3]; unfold flatE; simp
    obtain ⟨a, c, rfl⟩ := h1.form
    obtain ⟨g, rfl, _, _, k0, _⟩ := h1.at_ 0 (Nat.lt_of_lt_of_eq Nat.zero_lt_one (pcs_length [p]).symm)
    obtain ⟨u, hu⟩ := hp.txt
    refine ⟨p.1, p.2, u, g, c, hp.std, h3, hu, by rw [← h3]; exact hp.len, rfl, ?_⟩
    rw [Nat.zero_mul] at k0
    exact k0
  · rw [if_neg h6] at h5; cases h5
set_option maxHeartbeats 4000000 in
theorem pred_Print (l : List Tm) (hs : ∀ q ∈ l, TStd q) (hr : ∀ q ∈ l, TmRight q) (hc : checkT l = 0) (a : Option Addr) (n cap : Nat) (w : World) (hrd : TmsRd w a l) (hn : l.length = n) (htb : Tb w) :
    Calls Tryz.prog 7 #[.slice a n cap] w fun e w' => PrintTold l w e w' := by
  have hcx : ∀ (a : Addr) (m : Mode) (W : World) (x y : Nat), (store a (.complex .f64 x y) m).run Tryz.prog W = stored Tryz.prog W a (.complex .f64 x y) m := fun a m W x y => run_store _ _ _ _ _ rfl
  have HR : Hid (TmsRd w a l) := hrd
  have HN : Hid (l.length = n) := hn
  have HT : Hid (Tb w) := htb
  have HS : Hid (∀ q ∈ l, TStd q) := hs
  have h48 : n ≤ 48 := by
    rw [← hn]
    unfold checkT at hc
    by_cases h : 48 < l.length
    · rw [if_pos h] at hc; cases hc
    · omega
  have HG0 : Hid (checkGo 0 l = 0) := by
    (show _ = _)
    unfold checkT at hc
    rw [if_neg (by omega)] at hc
    exact hc
  have HCK : Hid (∀ W, TmsRd W a l → Calls Tryz.prog 8 #[.slice a n cap] W fun e w' => e = .returned (.int .i64 0) ∧ Below W.heap.size W w') := fun W hW => by
    have := pred_Check a n cap l W hW hn (by omega) hr
    rw [hc] at this
    exact this
  clear hrd hn htb hs hr hc
  go_enter Tryz.func7, Tryz.ntmps7
  go_wp2_with fail
  refine (HCK.out _ HR.out).mono ?_
  rintro e w1 ⟨rfl, hb1⟩
  have HB1 : Hid (Below w.heap.size w w1) := hb1
  clear hb1 HCK
  have HP0 : Hid (PiecesAt l 0 w.heap.size (.slice none 0 0) w1) := ⟨[], Pcs.nil_ _ _, fun p hp => (by cases hp), rfl, by decide, HG0.out⟩
  go_wp2
  go_loopw [5, 16] (fun t5 t16 wr => ∃ (i : Nat) (v : Value), v = t5 ∧ t16 = .int .i64 (i : Int) ∧ i ≤ n ∧ Hid (PiecesAt l i w.heap.size v wr) ∧ Hid (Below w.heap.size w wr)) (fun _ t16 _ => n - (intOf t16).toNat)
  case atStart => exact ⟨0, _, rfl, rfl, by omega, HP0, HB1⟩
  case round =>
    obtain ⟨i, v, rfl, rfl, hi, HP, HB⟩ := hrel
    by_cases hlt : i < n
    · have hlt' : (i : Int) < (n : Int) := by omega
      have hil : i < l.length := by rw [HN.out]; exact hlt
      obtain ⟨g, rfl, hg, hc⟩ := (HR.out.below HB.out).at_ i hil
      have HNX : Hid (∀ W, Below wr.heap.size wr W → Tb W → Calls Tryz.prog 12 #[v, .agg l[i].cells] W fun e w' => ∃ v', e = .returned v' ∧ PiecesAt l (i + 1) w.heap.size v' w' ∧ Below w.heap.size W w') := fun W hW hT => HP.out.next hW (Nat.le_trans HB.out.size hW.size) hT (by rw [HN.out]; omega) hil (HS.out _ (List.getElem_mem hil))
      clear HP
      generalize l[i] = q at *
      obtain ⟨op, nm, c, ⟨vk, vw, vs, vt, vx, vy⟩, r⟩ := q
      have c0 : wr.cell? ⟨g, i * 9, none⟩ = some (.int .i64 (op : Int)) := hc 0 _ rfl
      have c1 : wr.cell? ⟨g, i * 9 + 1, none⟩ = some (.string nm) := hc 1 _ rfl
      have c2 : wr.cell? ⟨g, i * 9 + 2, none⟩ = some (.int .i64 (c : Int)) := hc 2 _ rfl
      have c3 : wr.cell? ⟨g, i * 9 + 3, none⟩ = some (.int .i64 vk) := hc 3 _ rfl
      have c4 : wr.cell? ⟨g, i * 9 + 4, none⟩ = some (.int .i64 vw) := hc 4 _ rfl
      have c5 : wr.cell? ⟨g, i * 9 + 5, none⟩ = some (.string vs) := hc 5 _ rfl
      have c6 : wr.cell? ⟨g, i * 9 + 6, none⟩ = some (.bool vt) := hc 6 _ rfl
      have c7 : wr.cell? ⟨g, i * 9 + 7, none⟩ = some (.complex .f64 vx vy) := hc 7 _ rfl
      have c8 : wr.cell? ⟨g, i * 9 + 8, none⟩ = some (.int .i64 (r : Int)) := hc 8 _ rfl
      simp only [Tm.cells] at *
      clear hc
      go_wp2_with fail
      refine (HNX.out _ (below_alloc wr _) (HT.out.stay (HB.out.alloc HB.out.size _))).mono ?_
      rintro e w2 ⟨v', rfl, hp2, hb2⟩
      have HP2 : Hid (PiecesAt l (i + 1) w.heap.size v' w2) := hp2
      have HB2 : Hid (Below w.heap.size w w2) := (HB.out.alloc HB.out.size _).trans hb2
      clear hp2 hb2 c0 c1 c2 c3 c4 c5 c6 c7 c8 HB HNX
      go_wp2
      go_roundw
      case rel => exact ⟨i + 1, v', rfl, by go_num, by omega, HP2, HB2⟩
      case measure => simp [intOf]; omega
    · have hnl : ¬ (i : Int) < (n : Int) := by omega
      obtain rfl : i = n := by omega
      have hd := HP.out
      rw [← HN.out] at hd
      obtain ⟨e0, x, u, g, c, k1, k2, k3, k4, rfl, k5⟩ := hd.done
      have HE : Hid (e0.std ∧ e0.post = l ∧ Txt e0 x u) := ⟨k1, k2, k3⟩
      obtain ⟨X, HX⟩ : ∃ X, Hid (str x = X) := ⟨_, rfl⟩
      have HZ : Hid (X.size = x.length) := by (show _ = _); rw [← HX.out, str_size]
      rw [HX.out] at k5
      rw [HN.out] at k4
      clear k1 k2 k3 HP hd
      by_cases h3 : 300 < x.length
      · have z1 : (300 : Int) < (X.size : Int) := by rw [HZ.out]; omega
        go_wp2
        go_ret2
        exact ⟨e0, x, u, HE.out.1, HE.out.2.1, HE.out.2.2, .inr ⟨h3, rfl⟩, HB.out⟩
      · have z1 : ¬ (300 : Int) < (X.size : Int) := by rw [HZ.out]; omega
        go_wp2
        go_ret2
        exact ⟨e0, x, u, HE.out.1, HE.out.2.1, HE.out.2.2, .inl ⟨by omega, by rw [HX.out]; rfl⟩, HB.out⟩
end Go.Proofs.YteoopoabemeanaaGreatDoor
/- What Print makes is bytes; Parse of a text that is too long; the library's table. -/
namespace Go.Proofs.YteoopoabemeanaaGreatDoor
set_option maxRecDepth 100000
open Go.ChangeShapes Go.WideShapes Go.ChangeAt Go.RowKit

theorem bytesOf_str {x : List Nat} (h : ∀ c ∈ x, c < 256) : bytesOf (str x) = x := by
  show ((x.map UInt8.ofNat).toArray.toList.map fun c => c.toNat) = x
  rw [List.map_map]
  refine (List.map_congr_left fun c hc => ?_).trans (List.map_id x)
  show (UInt8.ofNat c).toNat = c
  rw [UInt8.toNat_ofNat']
  exact Nat.mod_eq_of_lt (h c hc)
theorem dec_byte (n : Int) : ∀ c ∈ decT n, c < 256 := by
  intro c hc
  obtain ⟨d, _, rfl⟩ := List.mem_map.1 hc
  exact d.toNat_lt
theorem name_byte (t : ByteArray) : ∀ c ∈ nameL t, c < 256 := by
  intro c hc
  obtain ⟨d, _, rfl⟩ := List.mem_map.1 hc
  exact d.toNat_lt
theorem quo_byte {c : Nat} (hc : c < 256) : ∀ d ∈ quoB c, d < 256 := by
  intro d hd
  unfold quoB at hd
  split at hd
  · simp only [List.mem_cons, List.not_mem_nil, or_false] at hd
    omega
  · split at hd
    · simp only [List.mem_cons, List.not_mem_nil, or_false] at hd
      omega
    · simp only [List.mem_cons, List.not_mem_nil, or_false] at hd
      rcases hd with rfl | rfl | rfl | rfl
      · omega
      · omega
      · split <;> omega
      · split <;> omega
theorem quoT_byte {l : List Nat} (hl : ∀ c ∈ l, c < 256) : ∀ d ∈ quoT l, d < 256 := by
  intro d hd
  unfold quoT at hd
  rcases List.mem_cons.1 hd with rfl | hd
  · omega
  · rcases List.mem_append.1 hd with hd | hd
    · obtain ⟨c, h1, h2⟩ := List.mem_flatMap.1 hd
      exact quo_byte (hl c h1) d h2
    · rw [List.mem_singleton.1 hd]; omega
theorem app_byte {a b : List Nat} (ha : ∀ c ∈ a, c < 256) (hb : ∀ c ∈ b, c < 256) : ∀ c ∈ a ++ b, c < 256 := fun c hc => (List.mem_append.1 hc).elim (ha c) (hb c)
theorem cons_byte {a : Nat} {b : List Nat} (ha : a < 256) (hb : ∀ c ∈ b, c < 256) : ∀ c ∈ a :: b, c < 256 := fun c hc => (List.mem_cons.1 hc).elim (fun e => e ▸ ha) (hb c)
theorem nil_byte : ∀ c ∈ ([] : List Nat), c < 256 := fun c hc => by cases hc
theorem val_byte {v : Val} {x : List Nat} {u : List Wd} (h : ValTxt v x u) : ∀ c ∈ x, c < 256 := by
  rcases h with ⟨n, _, _, rfl, _⟩ | ⟨t, _, _, rfl, _⟩ | ⟨_, rfl, _⟩ | ⟨_, rfl, _⟩ | ⟨a, b, _, _, _, rfl, _⟩
  · exact dec_byte n
  · exact quoT_byte (name_byte t)
  · decide
  · decide
  · exact cons_byte (by omega) (app_byte (dec_byte a) (cons_byte (by omega) (app_byte (dec_byte b) (cons_byte (by omega) nil_byte))))
theorem atom_byte {q : Tm} {x : List Nat} {u : List Wd} (h : AtomTxt q x u) : ∀ c ∈ x, c < 256 := by
  rcases h with ⟨_, rfl, _⟩ | ⟨_, rfl, _⟩ | ⟨_, y, v, hv, rfl, _⟩ | ⟨_, y, v, hv, rfl, _⟩
  · exact cons_byte (by omega) (name_byte _)
  · exact name_byte _
  · exact app_byte (name_byte _) (app_byte (name_byte _) (val_byte hv))
  · exact app_byte (name_byte _) (cons_byte (by omega) (app_byte (val_byte hv) (cons_byte (by omega) (dec_byte _))))
theorem held_byte {P : List Nat → List Wd → Prop} {b k : Nat} (hP : ∀ x u, P x u → ∀ c ∈ x, c < 256) {x : List Nat} {u : List Wd} (h : HeldP P b k x u) : ∀ c ∈ x, c < 256 := by
  rcases h with ⟨_, h⟩ | ⟨_, x', u', h, rfl, rfl⟩
  · exact hP x u h
  · exact cons_byte (by omega) (app_byte (hP x' u' h) (cons_byte (by omega) nil_byte))
theorem txt_byte (e : Ex) (he : e.std) : ∀ x u, Txt e x u → ∀ c ∈ x, c < 256 := by
  refine Ex.ind (P := fun e => ∀ x u, Txt e x u → ∀ c ∈ x, c < 256) ?_ ?_ ?_ ?_ ?_ ?_ e he
  · rintro x u ⟨rfl, _⟩; decide
  · rintro x u ⟨rfl, _⟩; decide
  · exact fun q _ x u h => atom_byte h
  · rintro e _ ih x u ⟨y, v, hh, rfl, _⟩
    exact cons_byte (by omega) (held_byte ih hh)
  · rintro a b _ _ iha ihb x u ⟨y, v, z, s, ha, hb, rfl, _⟩
    exact app_byte (held_byte iha ha) (cons_byte (by omega) (cons_byte (by omega) (cons_byte (by omega) (held_byte ihb hb))))
  · rintro a b _ _ iha ihb x u ⟨y, v, z, s, ha, hb, rfl, _⟩
    exact app_byte (held_byte iha ha) (cons_byte (by omega) (cons_byte (by omega) (cons_byte (by omega) (held_byte ihb hb))))
/-- What was printed is parsed as the tree it was printed of. -/
theorem print_back {e : Ex} (he : e.std) {x : List Nat} {u : List Wd} (h : Txt e x u) : ∃ N, ∀ n, N ≤ n → ∃ s, parseM (lexT (str x)) n = .ok s ∧ s.terms = e.post := text_back (T := str x) he (u := u) (by rw [bytesOf_str (txt_byte e he x u h)]; exact h)
theorem Parse_long (T : ByteArray) (hT : 300 < T.size) (w : World) : Calls Tryz.prog 5 #[.string T] w fun e w' => AfterQ w ([], 0, 6) e w' := by
  have g2 : (300 : Int) < (T.size : Int) := by omega
  go_enter Tryz.func5, Tryz.ntmps5
  go_wp2
  go_ret3
  exact ⟨none, 0, rfl, Tms.nil_ _ _, Below.refl _ _⟩
theorem tb_of {W : World} (h : laidMetH Tryz.prog [("math/bits.deBruijn32tab", Rows.laid_math_bits_deBruijn32tab), ("math/bits.deBruijn64tab", Rows.laid_math_bits_deBruijn64tab), ("internal/strconv.uint64pow10", Rows.laid_internal_strconv_uint64pow10), ("strconv.ErrRange", Rows.laid_strconv_ErrRange), ("strconv.ErrSyntax", Rows.laid_strconv_ErrSyntax)] W) : Tb W := by
  have h' : laidMet Tryz.prog [("math/bits.deBruijn32tab", Rows.laid_math_bits_deBruijn32tab), ("math/bits.deBruijn64tab", Rows.laid_math_bits_deBruijn64tab), ("internal/strconv.uint64pow10", Rows.laid_internal_strconv_uint64pow10), ("strconv.ErrRange", Rows.laid_strconv_ErrRange), ("strconv.ErrSyntax", Rows.laid_strconv_ErrSyntax)] W := h
  obtain ⟨_, ⟨_, _, _, _, _, _, _, _, _, _, ⟨_, _, _, _, _, _, _, _, _, _, ⟨g1, t1, c1, f1, p1, q1, a1, a2, a3, a4, _, _⟩, _⟩, _⟩, _⟩ := h'
  have hg : Tryz.prog.globalNamed "internal/strconv.uint64pow10" = some 1 := tb_glob
  obtain rfl := Option.some.inj (hg.symm.trans a1)
  have hty : (Tryz.prog.globals[1]?).map (·.type) = some 146 := by kernel_rfl
  obtain rfl := Option.some.inj (hty.symm.trans a2)
  have a4' : DataW.trod (fun _ => ()) Tryz.prog W 0 (fun _ => true) false f1 146 c1.toList = some (Lib.tabData .u64 Lib.pow10Tab, p1) := a4
  unfold Tb Lib.TabIs
  rw [a3, ← Lib.cells_of_tab Tryz.underlying146 Tryz.underlying129 (by kernel_rfl) (by kernel_rfl) a4']
end Go.Proofs.YteoopoabemeanaaGreatDoor
