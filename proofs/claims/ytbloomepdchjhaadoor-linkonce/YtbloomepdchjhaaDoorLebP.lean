/- A pack of texts: Leb Jump Put SpPutM Pp1. -/
import Derived.WalkKit
import Derived.ScopeJumps
import Derived.WalkMore
import Derived.Test.YtbloomepdchjhaaDoorBase
import Derived.Test.YtbloomepdchjhaaDoorSpanP
/- The plain mathematics of numbers as bytes, seven bits a byte: what is put, what is taken. It speaks of no program. -/
namespace Go.Proofs.YtbloomepdchjhaaDoor.Leb

/-- A number's bytes, at most so many behind the first one. -/
def put : Nat → Nat → List Nat
  | 0, n => [n]
  | j + 1, n => if n < 128 then [n] else (128 + n % 128) :: put j (n / 128)
/-- A number's bytes. -/
def leb (n : Nat) : List Nat := put 9 n

theorem put_small (j n : Nat) (h : n < 128) : put j n = [n] := by cases j <;> simp [put, h]
theorem put_big (j n : Nat) (h : 128 ≤ n) : put (j + 1) n = (128 + n % 128) :: put j (n / 128) := by simp [put, Nat.not_lt.2 h]

theorem put_length : ∀ (j n : Nat), 1 ≤ (put j n).length ∧ (put j n).length ≤ j + 1
  | 0, n => by simp [put]
  | j + 1, n => by
    by_cases h : n < 128
    · rw [put_small _ _ h]; simp
    · rw [put_big j n (by omega)]
      have := put_length j (n / 128)
      simp only [List.length_cons]
      omega

theorem put_byte : ∀ (j n : Nat), n < 2 * 128 ^ j → ∀ x ∈ put j n, x < 256
  | 0, n, hn, x, hx => by simp [put] at hx; omega
  | j + 1, n, hn, x, hx => by
    by_cases h : n < 128
    · rw [put_small _ _ h] at hx; simp at hx; omega
    · rw [put_big j n (by omega)] at hx
      rcases List.mem_cons.1 hx with rfl | hx
      · omega
      · refine put_byte j (n / 128) ?_ x hx
        rw [Nat.pow_succ] at hn
        omega

theorem leb_length (n : Nat) : 1 ≤ (leb n).length ∧ (leb n).length ≤ 10 := put_length 9 n
theorem leb_byte (n : Nat) (h : n < 18446744073709551616) : ∀ x ∈ leb n, x < 256 := put_byte 9 n (by simpa using h)

/-- What is taken at a place: the number, how many bytes it has, and the error (0: none). -/
def tk : Nat → Nat → List Nat → Nat × Nat × Nat
  | _, _, [] => (0, 0, 3)
  | i, n, c :: r =>
    if i = 9 ∧ 1 < c then (0, 0, 6)
    else if c < 128 then (if c = 0 ∧ 0 < i then (0, 0, 4) else (n + c * 128 ^ i, i + 1, 0))
    else tk (i + 1) (n + c % 128 * 128 ^ i) r

theorem tk_limit (i n c : Nat) (r : List Nat) (hi : i = 9) (hc : 1 < c) : tk i n (c :: r) = (0, 0, 6) := by simp [tk, hi, hc]
theorem tk_form (i n c : Nat) (r : List Nat) (h : ¬ (i = 9 ∧ 1 < c)) (h0 : c = 0) (hi : 0 < i) : tk i n (c :: r) = (0, 0, 4) := by subst h0; simp [tk, hi]
theorem tk_end (i n c : Nat) (r : List Nat) (h : ¬ (i = 9 ∧ 1 < c)) (hc : c < 128) (h0 : ¬ (c = 0 ∧ 0 < i)) : tk i n (c :: r) = (n + c * 128 ^ i, i + 1, 0) := by
  unfold tk; rw [if_neg h, if_pos hc, if_neg h0]
theorem tk_more (i n c : Nat) (r : List Nat) (h : ¬ (i = 9 ∧ 1 < c)) (hc : 128 ≤ c) : tk i n (c :: r) = tk (i + 1) (n + c % 128 * 128 ^ i) r := by
  conv => lhs; unfold tk
  rw [if_neg h, if_neg (by omega)]

/-- What was taken, with the place behind it. -/
def fin (p : Nat) (r : Nat × Nat × Nat) : Nat × Nat × Nat := (r.1, if r.2.2 = 0 then p + r.2.1 else 0, r.2.2)
/-- The number at a place, the place behind it, and the error. -/
def take (bs : List Nat) (x : Int) : Nat × Nat × Nat := if x < 0 ∨ (bs.length : Int) < x then (0, 0, 2) else fin x.toNat (tk 0 0 (bs.drop x.toNat))

end Go.Proofs.YtbloomepdchjhaaDoor.Leb
/- A scope that is jumped back in: its head once, and what lies behind the label by one law. -/
namespace Go.Proofs.YtbloomepdchjhaaDoor

theorem jump_mono {l : Nat} {J J' : Act → World → Prop} {Q : Exit → Act → World → Prop} (h : ∀ a w, J a w → J' a w) : ∀ (e : Exit) (a : Act) (w : World), Exit.jump l J Q e a w → Exit.jump l J' Q e a w := fun e a w hq => by
  cases e <;> first | exact hq | exact ⟨hq.1, h _ _ hq.2⟩

/-- What holds at the label is shown once; the way to the label may use it. -/
theorem wp_scope_via {P : Program} {a : Act} {w : World} {Q : Exit → Act → World → Prop} {c rest : Code} (l : Nat) (J : Act → World → Prop) (μ : Act → World → Nat) (hf : findLabel c l = some (Code.skip.seq rest))
    (pass : ∀ a w, J a w → rest.wp P (Exit.jump l (fun a' w' => J a' w' ∧ μ a' w' < μ a w) Q) a w)
    (first : (∀ a w, J a w → rest.wp P (Exit.jump l J Q) a w) → c.wp P (Exit.jump l J Q) a w) : (Code.scope c).wp P Q a w :=
  wp_scope_jumps l J μ hf (first fun a w h => Code.wp_mono (jump_mono fun _ _ h => h.1) (pass a w h)) fun a w h => wp_seq (wp_skip (pass a w h))

end Go.Proofs.YtbloomepdchjhaaDoor
/- Numbers are put: octet.putUint, octet.Uint and the reference's Uint, for every number. -/
namespace Go.Proofs.YtbloomepdchjhaaDoor
open Go.RowKit

theorem Own.nil (w : World) (base : Nat) : Own w base none 0 0 [] := ⟨World.ownsRow_nil _ _ _ _, by simp⟩

theorem Own.some {w : World} {base : Nat} {a : Option Addr} {len cap : Nat} {bs : List Nat} (h : Own w base a len cap bs) (hl : 0 < len) : a ≠ none := by
  rintro rfl
  rcases h.rd.cells with h0 | ⟨_, _, h, _⟩
  · omega
  · cases h

/-- One byte that was just laid, for an append. -/
theorem rd_one (w : World) (v : Int) (c : Nat) (hv : v = (c : Int)) (hc : c < 256) (m : Nat × Nat) : Rd (w.alloc (.cells #[.int .u8 v] 5 m)) (some ⟨w.heap.size, 0, none⟩) 1 [c] :=
  Rd.new w _ _ _ [c] (by simpa using hc) (fun i hi => by
    subst hv
    have : i = 0 := by simp at hi; omega
    subst this; rfl)

theorem nat_or128 (x : Nat) (h : x < 256) : x ||| 128 = 128 + x % 128 := by
  have : ∀ x, x < 256 → x ||| 128 = 128 + x % 128 := by decide +kernel
  exact this x h

set_option maxHeartbeats 400000 in
theorem ref_Uint (n : Nat) (hn : n < 18446744073709551616) (w : World) :
    Calls Tryd.prog 40 #[.int .u64 (n : Int)] w fun e w' => ∃ a cap, e = .returned (.slice a (Leb.leb n).length cap) ∧ a ≠ none ∧ Own w' w.heap.size a (Leb.leb n).length cap (Leb.leb n) ∧ Below w.heap.size w w' := by
  go_enter Tryd.func40, Tryd.ntmps40
  go_wp2
  go_loopw [0, 3] (fun t0 t3 wr => ∃ (j m : Nat) (a : Option Addr) (len cap : Nat) (xs : List Nat), t0 = .int .u64 (m : Int) ∧ t3 = .slice a len cap ∧ j ≤ 9 ∧ m < 18446744073709551616 ∧ Hid (m < 2 * 128 ^ j) ∧ len + j ≤ 9 ∧ Hid (Leb.leb n = xs ++ Leb.put j m) ∧ Hid (Own wr w.heap.size a len cap xs) ∧ Hid (Below w.heap.size w wr)) (fun t0 _ _ => (intOf t0).toNat)
  case atStart => exact ⟨9, n, _, 0, 0, [], rfl, rfl, Nat.le_refl _, hn, by simpa [Hid] using hn, Nat.le_refl _, rfl, Own.empty w, below_alloc w _⟩
  case round =>
    obtain ⟨j, m, a, len, cap, xs, rfl, rfl, hj, hm, HM, hlj, HX, HO, HB⟩ := hrel
    by_cases hbig : 127 < m
    · have hbs := HB.out.size
      go_wp2_with (at_builtin; refine wpList_append_rd (by rfl) (.tmp 7) (.tmp 12) (by rfl) w.heap.size a len cap xs (by rfl) (HO.out.below (below_alloc wr _)) (some ⟨wr.heap.size, 0, none⟩) 1 1 [128 + m % 128] (by rfl) (rd_one wr _ (128 + m % 128) (by omega) (by omega) _) (fun h => by cases h) (by omega) (by simp; omega) ?_; intro a1 c1 w1 hown1 hgrow1 hbel1; have HO1 : Hid (Own w1 w.heap.size a1 (len + 1) c1 (xs ++ [128 + m % 128])) := hown1; have HB1 : Hid (Below w.heap.size w w1) := (HB.out.trans ((below_alloc wr _).mono hbs)).trans hbel1; clear hown1 hgrow1 hbel1)
      obtain ⟨i, rfl⟩ : ∃ i, j = i + 1 := by
        cases j with
        | zero => have := HM.out; simp at this; omega
        | succ i => exact ⟨i, rfl⟩
      have hm' := HM.out
      rw [Nat.pow_succ] at hm'
      go_roundw
      case rel => exact ⟨i, m / 128, a1, len + 1, c1, xs ++ [128 + m % 128], rfl, rfl, by omega, by omega, (by show m / 128 < 2 * 128 ^ i; omega), by omega, (by show _ = _; rw [HX.out, Leb.put_big i m (by omega)]; simp), HO1, HB1⟩
      case measure => simp [intOf]; omega
    · have hbs := HB.out.size
      go_wp2_with (at_builtin; refine wpList_append_rd (by rfl) (.tmp 16) (.tmp 19) (by rfl) w.heap.size a len cap xs (by rfl) (HO.out.below (below_alloc wr _)) (some ⟨wr.heap.size, 0, none⟩) 1 1 [m] (by rfl) (rd_one wr _ m (by omega) (by omega) _) (fun h => by cases h) (by omega) (by simp; omega) ?_; intro a1 c1 w1 hown1 hgrow1 hbel1; have HO1 : Hid (Own w1 w.heap.size a1 (len + 1) c1 (xs ++ [m])) := hown1; have HB1 : Hid (Below w.heap.size w w1) := (HB.out.trans ((below_alloc wr _).mono hbs)).trans hbel1; clear hown1 hgrow1 hbel1)
      have e : Leb.leb n = xs ++ [m] := by rw [HX.out, Leb.put_small j m (by omega)]
      have el : (Leb.leb n).length = len + 1 := by rw [e, List.length_append, HO.out.size]; rfl
      go_ret
      rw [el, e]
      exact ⟨a1, c1, rfl, HO1.out.some (by omega), HO1.out, HB1.out⟩

set_option maxRecDepth 100000 in
set_option maxHeartbeats 400000 in
theorem octet_putUint (n : Nat) (hn : n < 18446744073709551616) (base : Nat) (a : Option Addr) (len cap : Nat) (xs : List Nat) (w : World) (ho : Own w base a len cap xs) (hB : base ≤ w.heap.size) (hl : len ≤ 140737488355000) :
    Calls Tryd.prog 49 #[.slice a len cap, .int .u64 (n : Int)] w fun e w' => ∃ a' cap', e = .returned (.slice a' (len + (Leb.leb n).length) cap') ∧ a' ≠ none ∧ Own w' base a' (len + (Leb.leb n).length) cap' (xs ++ Leb.leb n) ∧ Below base w w' := by
  have HO' : Hid (Own w base a len cap xs) := ho
  have HN : Hid (n < 2 * 128 ^ 9) := by simpa [Hid] using hn
  clear ho
  go_enter Tryd.func49, Tryd.ntmps49
  go_wp2
  refine wp_scope_via 0 (fun a' w' => ∃ (j m : Nat) (b : Option Addr) (lb cb : Nat) (ys : List Nat) (u5 u6 u7 u8 u9 u10 u11 u12 u13 u14 : Value), a' = { tmps := #[.slice b lb cb, .int .u64 (m : Int), undef, undef, .slice none 0 0, u5, u6, u7, u8, u9, u10, u11, u12, u13, u14, undef, undef, undef, undef, undef], defers := [] } ∧ j ≤ 9 ∧ m < 18446744073709551616 ∧ Hid (m < 2 * 128 ^ j) ∧ lb + j ≤ len + 9 ∧ Hid (xs ++ Leb.leb n = ys ++ Leb.put j m) ∧ Hid (Own w' base b lb cb ys) ∧ Hid (Below base w w')) (fun a' _ => (intOf (a'.tmps.getD 1 undef)).toNat) rfl ?_ ?_
  · rintro a' wr ⟨j, m, b, lb, cb, ys, u5, u6, u7, u8, u9, u10, u11, u12, u13, u14, rfl, hj, hm, HM, hlj, HX, HO, HB⟩
    have hbs := HB.out.size
    go_hide hQ
    have HQ : Hid _ := hQ
    clear hQ
    by_cases hbig : 128 ≤ m
    · have eor : bits BinOp.or IntKind.u8 ((m : Int) % 256) 128 = ((128 + m % 128 : Nat) : Int) := by
        rw [show ((m : Int) % 256) = ((m % 256 : Nat) : Int) from rfl, show (128 : Int) = ((128 : Nat) : Int) from rfl, u8_or_nat _ 128 (by omega) (by omega)]
        congr 1
        have h := nat_or128 (m % 256) (by omega)
        rw [h]
        omega
      go_wp2_with (at_builtin; refine wpList_append_rd (by rfl) (.tmp 7) (.tmp 11) (by rfl) base b lb cb ys (by rfl) (HO.out.below (below_alloc wr _)) (some ⟨wr.heap.size, 0, none⟩) 1 1 [128 + m % 128] (by rfl) (rd_one wr _ (128 + m % 128) (by omega) (by omega) _) (fun h => by cases h) (by omega) (by simp; omega) ?_; intro a1 c1 w1 hown1 hgrow1 hbel1; have HO1 : Hid (Own w1 base a1 (lb + 1) c1 (ys ++ [128 + m % 128])) := hown1; have HB1 : Hid (Below base w w1) := (HB.out.trans ((below_alloc wr _).mono (by omega))).trans hbel1; clear hown1 hgrow1 hbel1)
      obtain ⟨i, rfl⟩ : ∃ i, j = i + 1 := by
        cases j with
        | zero => have := HM.out; simp at this; omega
        | succ i => exact ⟨i, rfl⟩
      have hm' := HM.out
      rw [Nat.pow_succ] at hm'
      go_step3
      rw [← HQ.out]
      refine ⟨rfl, ⟨i, m / 128, a1, lb + 1, c1, ys ++ [128 + m % 128], _, _, _, _, _, _, _, _, _, _, rfl, by omega, by omega, (by show m / 128 < 2 * 128 ^ i; omega), by omega, (by show _ = _; rw [HX.out, Leb.put_big i m (by omega)]; simp), HO1, HB1⟩, ?_⟩
      simp [intOf]
      omega
    · go_wp2_with (at_builtin; refine wpList_append_rd (by rfl) (.tmp 15) (.tmp 18) (by rfl) base b lb cb ys (by rfl) (HO.out.below (below_alloc wr _)) (some ⟨wr.heap.size, 0, none⟩) 1 1 [m] (by rfl) (rd_one wr _ m (by omega) (by omega) _) (fun h => by cases h) (by omega) (by simp; omega) ?_; intro a1 c1 w1 hown1 hgrow1 hbel1; have HO1 : Hid (Own w1 base a1 (lb + 1) c1 (ys ++ [m])) := hown1; have HB1 : Hid (Below base w w1) := (HB.out.trans ((below_alloc wr _).mono (by omega))).trans hbel1; clear hown1 hgrow1 hbel1)
      have e : xs ++ Leb.leb n = ys ++ [m] := by rw [HX.out, Leb.put_small j m (by omega)]
      have el : len + (Leb.leb n).length = lb + 1 := by
        have := congrArg List.length e
        rw [List.length_append, List.length_append, HO'.out.size, HO.out.size] at this
        exact this
      rw [← HQ.out]
      simp only [Exit.jump]
      go_ret
      rw [el, e]
      exact ⟨a1, c1, rfl, HO1.out.some (by omega), HO1.out, HB1.out⟩
  · intro hrest
    exact wp_seq (wp_label (hrest _ _ ⟨9, n, a, len, cap, xs, undef, undef, undef, undef, undef, undef, undef, undef, undef, undef, rfl, Nat.le_refl _, hn, HN, Nat.le_refl _, rfl, HO', Below.refl _ _⟩))

theorem octet_Uint (n : Nat) (hn : n < 18446744073709551616) (w : World) :
    Calls Tryd.prog 33 #[.int .u64 (n : Int)] w fun e w' => ∃ a cap, e = .returned (.slice a (Leb.leb n).length cap) ∧ a ≠ none ∧ Own w' w.heap.size a (Leb.leb n).length cap (Leb.leb n) ∧ Below w.heap.size w w' := by
  go_enter Tryd.func33, Tryd.ntmps33
  go_wp2_with fail
  refine (octet_putUint n hn w.heap.size none 0 0 [] w (Own.nil _ _) (Nat.le_refl _) (by omega)).mono ?_
  rintro e w' ⟨a', cap', rfl, h1, h2, h3⟩
  simp only [Nat.zero_add, List.nil_append] at h2
  have H1 : Hid (a' ≠ none) := h1
  have H2 : Hid (Own w' w.heap.size a' (Leb.leb n).length cap' (Leb.leb n)) := h2
  have H3 : Hid (Below w.heap.size w w') := h3
  clear h1 h2 h3
  go_wp2
  go_ret
  exact ⟨a', cap', rfl, H1.out, H2.out, H3.out⟩
end Go.Proofs.YtbloomepdchjhaaDoor
/- A map's bytes. -/
namespace Go.Proofs.YtbloomepdchjhaaDoor
open Go.RowKit

def oneS (e : Int) (s : Sp) : List Nat := Leb.leb (s.fr - e - 1).toNat ++ Leb.leb (s.to - s.fr).toNat ++ [s.is.toNat]
def putS : Int → List Sp → List Nat
  | _, [] => []
  | e, s :: l => oneS e s ++ putS s.to l
def putE (l : List Sp) : Int := if rightB Sp.zr l = true then (if 256 < l.length then 6 else 0) else 2
def putT (l : List Sp) : List Nat := if rightB Sp.zr l = true then (if 256 < l.length then [] else Leb.leb l.length ++ putS 0 l) else []
theorem put_bad {l : List Sp} (h : rightB Sp.zr l = false) : putE l = 2 ∧ putT l = [] := by
  unfold putE putT
  rw [h]
  exact ⟨rfl, rfl⟩
theorem put_long {l : List Sp} (h : rightB Sp.zr l = true) (h2 : 256 < l.length) : putE l = 6 ∧ putT l = [] := by
  unfold putE putT
  rw [if_pos h, if_pos h2, if_pos h, if_pos h2]
  exact ⟨rfl, rfl⟩
theorem put_ok {l : List Sp} (h : rightB Sp.zr l = true) (h2 : ¬ 256 < l.length) : putE l = 0 ∧ putT l = Leb.leb l.length ++ putS 0 l := by
  unfold putE putT
  rw [if_pos h, if_neg h2, if_pos h, if_neg h2]
  exact ⟨rfl, rfl⟩
theorem oneS_len (e : Int) (s : Sp) : 3 ≤ (oneS e s).length ∧ (oneS e s).length ≤ 21 := by
  unfold oneS
  have h1 := Leb.leb_length (s.fr - e - 1).toNat
  have h2 := Leb.leb_length (s.to - s.fr).toNat
  simp only [List.length_append, List.length_cons, List.length_nil]
  omega
theorem putS_len : ∀ (l : List Sp) (e : Int), (putS e l).length ≤ 21 * l.length
  | [], _ => by simp [putS]
  | s :: l, e => by
    rw [putS, List.length_append, List.length_cons]
    have h1 := oneS_len e s
    have h2 := putS_len l s.to
    omega
theorem Own.nil_cap' {w : World} {base : Nat} {a : Option Addr} {len cap : Nat} {bs : List Nat} (h : Own w base a len cap bs) : a = none → cap = 0 := by
  rcases h.row.2 with ⟨hn, _⟩ | ⟨g, c, cur, hv, _⟩
  · intro _; simp only [Value.slice.injEq] at hn; exact hn.2.2
  · intro he; rw [he] at hv; simp at hv
theorem Own.none_ (w : World) (base : Nat) : Own w base none 0 0 [] := ⟨⟨rfl, .inl ⟨rfl, rfl⟩⟩, by simp⟩
theorem Own.under {w : World} {base base' : Nat} {a : Option Addr} {len cap : Nat} {bs : List Nat} (h : Own w base a len cap bs) (hb : base' ≤ base) : Own w base' a len cap bs := by
  refine ⟨⟨h.row.1, ?_⟩, h.byte⟩
  rcases h.row.2 with hn | ⟨g, c, cur, hv, hbg, r⟩
  · exact .inl hn
  · exact .inr ⟨g, c, cur, hv, Nat.le_trans hb hbg, r⟩
theorem Own.ne {w w0 : World} {base g : Nat} {a : Option Addr} {len cap : Nat} {bs : List Nat} (h : Own w base a len cap bs) (hw : w.heap.size ≤ w0.heap.size) (hg : w0.heap.size ≤ g) : Option.some g ≠ Value.ownBlock (.slice a len cap) := fun e => by
  have := (h.row.lt g e.symm).2
  omega

set_option maxRecDepth 100000 in
set_option maxHeartbeats 1000000 in
theorem span_Put (a : Option Addr) (n cap : Nat) (l : List Sp) (w : World) (hr : SpsRd w a n l) (hn : n ≤ maxLen) :
    Calls Tryd.prog 48 #[.slice a n cap] w fun e w' => (∃ b m c, e = .returned (.tuple #[.slice b m c, .int .i64 (putE l)]) ∧ Hid (Own w' w.heap.size b m c (putT l))) ∧ Below w.heap.size w w' := by
  have HR : Hid (SpsRd w a n l) := hr
  have HN : Hid (n ≤ maxLen) := hn
  obtain ⟨y, HXE⟩ : ∃ x, Hid (x = putE l) := ⟨_, rfl⟩
  obtain ⟨T, HXT⟩ : ∃ x, Hid (x = putT l) := ⟨_, rfl⟩
  rw [← HXE.out, ← HXT.out]
  unfold maxLen at hn
  clear hr
  go_enter Tryd.func48, Tryd.ntmps48
  go_wp2_with fail
  refine (span_Right a n cap l w HR.out HN.out).mono ?_
  rintro e w1 ⟨rfl, hb1⟩
  have HB1 : Hid (Below w.heap.size w w1) := hb1
  clear hb1
  cases hrl : rightB Sp.zr l with
  | false =>
    have HX : Hid (y = 2 ∧ T = []) := ⟨HXE.out.trans (put_bad hrl).1, HXT.out.trans (put_bad hrl).2⟩
    clear hrl
    go_wp2
    go_returns
    exact ⟨⟨none, 0, 0, by rw [HX.out.1]; rfl, by show Own _ _ _ _ _ _; rw [HX.out.2]; exact Own.none_ _ _⟩, HB1.out⟩
  | true =>
    by_cases h256 : 256 < n
    · have HX : Hid (y = 6 ∧ T = []) := by
        have h2 : 256 < l.length := by rw [HR.out.size]; exact h256
        exact ⟨HXE.out.trans (put_long hrl h2).1, HXT.out.trans (put_long hrl h2).2⟩
      have h256' : (256 : Int) < (n : Int) := by omega
      clear hrl
      go_wp2
      go_returns
      exact ⟨⟨none, 0, 0, by rw [HX.out.1]; rfl, by show Own _ _ _ _ _ _; rw [HX.out.2]; exact Own.none_ _ _⟩, HB1.out⟩
    · have HX : Hid (y = 0 ∧ T = Leb.leb n ++ putS 0 l) := by
        have h2 : ¬ 256 < l.length := by rw [HR.out.size]; exact h256
        have := put_ok hrl h2
        rw [HR.out.size] at this
        exact ⟨HXE.out.trans this.1, HXT.out.trans this.2⟩
      have h256' : ¬ (256 : Int) < (n : Int) := by omega
      have HRS : Hid (RightS Sp.zr l) := (rightB_iff _ _).1 hrl
      have HTL : Hid (T.length ≤ 6000) := by
        show _ ≤ _
        rw [HX.out.2, List.length_append]
        have h1 := Leb.leb_length n
        have h2 := putS_len l 0
        rw [HR.out.size] at h2
        omega
      clear hrl
      go_wp2_with fail
      refine (octet_Uint n (by omega) w1).mono ?_
      rintro e w2 ⟨a2, c2, rfl, _, ho2, hb2⟩
      have HB2 : Hid (Below w.heap.size w w2) := HB1.out.trans (hb2.mono HB1.out.size)
      have HO2 : Hid (Own w2 w.heap.size a2 (Leb.leb n).length c2 (Leb.leb n)) := ho2.under HB1.out.size
      clear ho2 hb2
      obtain ⟨y2, hy2⟩ : ∃ y, y = (Leb.leb n).length := ⟨_, rfl⟩
      rw [← hy2] at HO2 ⊢
      clear hy2
      go_wp2
      go_loopw [4, 5, 20] (fun t4 t5 t20 wr => ∃ (k : Nat) (z : Int) (ax : Option Addr) (x cx : Nat) (X : List Nat) (p : Sp), k ≤ n ∧ t20 = .int .i64 (k : Int) ∧ t5 = .int .i64 z ∧ t4 = .slice ax x cx ∧ Hid (Own wr w.heap.size ax x cx X) ∧ Hid (X ++ putS z (l.drop k) = T) ∧ Hid (p.to = z ∧ RightS p (l.drop k)) ∧ Hid (0 ≤ z ∧ z ≤ 1099511627776) ∧ Hid (Below w.heap.size w wr)) (fun _ _ t20 _ => n - (intOf t20).toNat)
      case atStart => exact ⟨0, 0, a2, y2, c2, _, Sp.zr, by omega, rfl, rfl, rfl, HO2, HX.out.2.symm, ⟨rfl, HRS.out⟩, ⟨by omega, by omega⟩, HB2⟩
      case round =>
        obtain ⟨k, z, ax, x, cx, X, p, hk, rfl, rfl, rfl, HO, HE, HQ, HZ, HB⟩ := hrel
        have HXL : Hid (X.length = x ∧ x ≤ 6000) := by
          have h1 := HTL.out
          rw [← HE.out, List.length_append] at h1
          have h2 := HO.out.size
          exact ⟨h2, by omega⟩
        have hx6 := HXL.out.2
        by_cases hlt : k < n
        · have hlt' : (k : Int) < (n : Int) := by omega
          obtain ⟨g, o, rfl, hg, q, hq, c0, c1, c2⟩ := (HR.out.below HB.out).at_ k hlt
          have hd : l.drop k = q :: l.drop (k + 1) := drop_at hq
          have HQ' := HQ.out.2
          rw [hd] at HQ'
          obtain ⟨q1, q2, q3, q4, q5, q6, q7⟩ := HQ'
          have hpz := HQ.out.1
          rw [hpz] at q1
          obtain ⟨z1, z2⟩ := HZ.out
          have HQ7 : Hid (RightS q (l.drop (k + 1))) := q7
          have HE1 : Hid (X ++ (oneS z q ++ putS q.to (l.drop (k + 1))) = T) := by
            show _ = _
            rw [← HE.out, hd, putS]
          clear hq hg q6 q7 HQ hd HE hpz HZ
          obtain ⟨qf, qt, qi⟩ := q
          simp only at c0 c1 c2 q1 q2 q3 q4 q5 HE1
          obtain ⟨n1, hn1⟩ : ∃ n1 : Nat, qf - z - 1 = (n1 : Int) := ⟨(qf - z - 1).toNat, by omega⟩
          obtain ⟨n2, hn2⟩ : ∃ n2 : Nat, qt - qf = (n2 : Int) := ⟨(qt - qf).toNat, by omega⟩
          obtain ⟨n3, hn3⟩ : ∃ n3 : Nat, qi = (n3 : Int) := ⟨qi.toNat, by omega⟩
          have HE2 : Hid (X ++ (Leb.leb n1 ++ Leb.leb n2 ++ [n3] ++ putS qt (l.drop (k + 1))) = T) := by
            have h1 := HE1.out
            unfold oneS at h1
            simp only at h1
            rw [hn1, hn2, hn3] at h1
            exact h1
          have hb1 : n1 < 18446744073709551616 := by omega
          have hb2 : n2 < 18446744073709551616 := by omega
          have hb3 : n3 < 256 := by omega
          subst hn3
          clear HE1
          have HBk0 : Hid (Bk (wr.alloc (.cells #[.int .i64 qf, .int .i64 qt, .int .i64 (n3 : Int)] 105)) wr.heap.size #[.int .i64 qf, .int .i64 qt, .int .i64 (n3 : Int)] 105) := Bk.new _ _ _
          go_wp2_with fail
          refine (octet_Uint n1 hb1 _).mono ?_
          rintro e w3 ⟨a3, c3, rfl, _, ho3, hb3'⟩
          have HBW : Hid (Below wr.heap.size wr w3) := (below_new wr _).trans (hb3'.mono (by simp))
          have HK3 : Hid (Bk w3 wr.heap.size #[.int .i64 qf, .int .i64 qt, .int .i64 (n3 : Int)] 105) := HBk0.out.stay hb3'
          have hm1 := Leb.leb_length n1
          have hm2 := Leb.leb_length n2
          obtain ⟨m1, hm1e⟩ : ∃ m, m = (Leb.leb n1).length := ⟨_, rfl⟩
          rw [← hm1e] at ho3 hm1 ⊢
          have HO3 : Hid (Own w3 wr.heap.size a3 m1 c3 (Leb.leb n1)) := ho3.under (by simp)
          clear ho3 hb3' hm1e c0 c1 c2 HBk0
          have HOX : Hid (Own w3 w.heap.size ax x cx X) := HO.out.below HBW.out
          have HS3 : Hid (w.heap.size ≤ w3.heap.size) := Nat.le_trans HB.out.size HBW.out.size
          go_wp2_with (at_builtin; refine wpList_append_rd rfl (.tmp 24) (.tmp 31) rfl w.heap.size ax x cx X rfl HOX.out a3 m1 c3 (Leb.leb n1) rfl HO3.out.rd HO3.out.nil_cap' (by omega) HS3.out ?_)
          intro a5 c5 w5 ho5 hg5 hb5
          have HO5 : Hid (Own w5 w.heap.size a5 (x + m1) c5 (X ++ Leb.leb n1)) := ho5
          have HK5 : Hid (Bk w5 wr.heap.size #[.int .i64 qf, .int .i64 qt, .int .i64 (n3 : Int)] 105) := HK3.out.grown hg5 (HO.out.ne (Nat.le_refl _) (Nat.le_refl _))
          have HB5 : Hid (Below w.heap.size w w5) := (HB.out.trans (HBW.out.mono HB.out.size)).trans hb5
          clear ho5 hg5 hb5 HO3 HK3 HOX HS3 HBW
          have d0 : w5.cell? ⟨wr.heap.size, 0, none⟩ = some (.int .i64 qf) := HK5.out.cell 0 rfl
          have d1 : w5.cell? ⟨wr.heap.size, 1, none⟩ = some (.int .i64 qt) := HK5.out.cell 1 rfl
          go_wp2_with fail
          refine (octet_Uint n2 hb2 _).mono ?_
          rintro e w6 ⟨a6, c6, rfl, _, ho6, hb6⟩
          obtain ⟨m2, hm2e⟩ : ∃ m, m = (Leb.leb n2).length := ⟨_, rfl⟩
          rw [← hm2e] at ho6 hm2 ⊢
          have HB6 : Hid (Below w.heap.size w w6) := HB5.out.trans (hb6.mono HB5.out.size)
          have HO6 : Hid (Own w6 w5.heap.size a6 m2 c6 (Leb.leb n2)) := ho6
          have HO56 : Hid (Own w6 w.heap.size a5 (x + m1) c5 (X ++ Leb.leb n1)) := HO5.out.below hb6
          have HK6 : Hid (Bk w6 wr.heap.size #[.int .i64 qf, .int .i64 qt, .int .i64 (n3 : Int)] 105) := HK5.out.stay hb6
          have HNE : Hid (some wr.heap.size ≠ Value.ownBlock (.slice a5 (x + m1) c5)) := by
            intro e
            rcases HO5.out.row.2 with ⟨h1, _⟩ | ⟨g5, c5', cur, h1, _, h3, _⟩
            · simp only [Value.slice.injEq] at h1
              rw [h1.1] at e
              cases e
            · simp only [Value.slice.injEq] at h1
              rw [h1.1] at e
              simp only [Value.ownBlock, Option.some.injEq] at e
              have h5 := HK5.out
              unfold Bk at h5
              rw [e, h3] at h5
              simp only [Option.some.injEq, Obj.cells.injEq] at h5
              exact absurd h5.2.1 (by decide)
          clear ho6 hb6 hm2e d0 d1 HK5 HO5
          go_wp2_with (at_builtin; refine wpList_append_rd rfl (.tmp 33) (.tmp 40) rfl w.heap.size a5 (x + m1) c5 (X ++ Leb.leb n1) rfl HO56.out a6 m2 c6 (Leb.leb n2) rfl HO6.out.rd HO6.out.nil_cap' (by omega) HB6.out.size ?_)
          intro a7 c7 w7 ho7 hg7 hb7
          have HO7 : Hid (Own w7 w.heap.size a7 (x + m1 + m2) c7 (X ++ Leb.leb n1 ++ Leb.leb n2)) := by show Own _ _ _ _ _ _; rw [List.append_assoc]; exact ho7
          have HK7 : Hid (Bk w7 wr.heap.size #[.int .i64 qf, .int .i64 qt, .int .i64 (n3 : Int)] 105) := HK6.out.grown hg7 HNE.out
          have HB7 : Hid (Below w.heap.size w w7) := HB6.out.trans hb7
          clear ho7 hg7 hb7 HO6 HO56 HK6 HNE
          have d2 : w7.cell? ⟨wr.heap.size, 2, none⟩ = some (.int .i64 (n3 : Int)) := HK7.out.cell 2 rfl
          have HO8 : Hid (Own (w7.alloc (.cells #[.int .u8 (n3 : Int)] 5)) w7.heap.size (some ⟨w7.heap.size, 0, none⟩) 1 1 [n3]) := Own.new w7 w7.heap.size #[.int .u8 (n3 : Int)] [n3] (by simpa using hb3) rfl (Nat.le_refl _) (by unfold maxLen; simp)
          have HB8 : Hid (Below w.heap.size w (w7.alloc (.cells #[.int .u8 (n3 : Int)] 5))) := HB7.out.alloc HB7.out.size _
          have HO78 : Hid (Own (w7.alloc (.cells #[.int .u8 (n3 : Int)] 5)) w.heap.size a7 (x + m1 + m2) c7 (X ++ Leb.leb n1 ++ Leb.leb n2)) := HO7.out.below (below_new _ _)
          have HK8 : Hid (Bk (w7.alloc (.cells #[.int .u8 (n3 : Int)] 5)) wr.heap.size #[.int .i64 qf, .int .i64 qt, .int .i64 (n3 : Int)] 105) := HK7.out.stay (below_new _ _)
          have HNE7 : Hid (some wr.heap.size ≠ Value.ownBlock (.slice a7 (x + m1 + m2) c7)) := by
            intro e
            rcases HO7.out.row.2 with ⟨h1, _⟩ | ⟨g5, c5', cur, h1, _, h3, _⟩
            · simp only [Value.slice.injEq] at h1
              rw [h1.1] at e
              cases e
            · simp only [Value.slice.injEq] at h1
              rw [h1.1] at e
              simp only [Value.ownBlock, Option.some.injEq] at e
              have h5 := HK7.out
              unfold Bk at h5
              rw [e, h3] at h5
              simp only [Option.some.injEq, Obj.cells.injEq] at h5
              exact absurd h5.2.1 (by decide)
          go_wp2_with (at_builtin; refine wpList_append_rd rfl (.tmp 42) (.tmp 46) rfl w.heap.size a7 (x + m1 + m2) c7 (X ++ Leb.leb n1 ++ Leb.leb n2) rfl HO78.out (some ⟨w7.heap.size, 0, none⟩) 1 1 [n3] rfl HO8.out.rd (by simp) (by omega) HB8.out.size ?_)
          intro a9 c9 w9 ho9 hg9 hb9
          have HO9 : Hid (Own w9 w.heap.size a9 (x + m1 + m2 + 1) c9 (X ++ Leb.leb n1 ++ Leb.leb n2 ++ [n3])) := by show Own _ _ _ _ _ _; simpa only [List.append_assoc] using ho9
          have HB9 : Hid (Below w.heap.size w w9) := HB8.out.trans hb9
          have HK9 : Hid (Bk w9 wr.heap.size #[.int .i64 qf, .int .i64 qt, .int .i64 (n3 : Int)] 105) := HK8.out.grown hg9 HNE7.out
          have HE9 : Hid (X ++ Leb.leb n1 ++ Leb.leb n2 ++ [n3] ++ putS qt (l.drop (k + 1)) = T) := by
            show _ = _
            rw [← HE2.out]
            simp only [List.append_assoc]
          clear ho9 hg9 hb9 HO8 HO78 HK8 HNE7 d2 HK7 HO7 HE2
          have d1 : w9.cell? ⟨wr.heap.size, 1, none⟩ = some (.int .i64 qt) := HK9.out.cell 1 rfl
          go_wp2
          go_roundw
          case rel => exact ⟨k + 1, qt, a9, _, c9, _, ⟨qf, qt, n3⟩, by omega, by go_num, rfl, rfl, HO9, HE9, ⟨rfl, HQ7.out⟩, ⟨by omega, by omega⟩, HB9⟩
          case measure => simp [intOf]; omega
        · have hnl : ¬ (k : Int) < (n : Int) := by omega
          have HX2 : Hid (Own wr w.heap.size ax x cx T) := by
            have h1 := HE.out
            rw [List.drop_of_length_le (by rw [HR.out.size]; omega), putS, List.append_nil] at h1
            show Own _ _ _ _ _ _
            rw [← h1]
            exact HO.out
          clear HE
          go_wp2
          go_returns
          exact ⟨⟨ax, x, cx, by rw [HX.out.1]; rfl, HX2⟩, HB.out⟩
end Go.Proofs.YtbloomepdchjhaaDoor
/- parcel.putNumbers; a frame by types: all blocks but those of bytes stay. -/
namespace Go.Proofs.YtbloomepdchjhaaDoor
open Go.RowKit

/-- Nothing below base has turned, nor a block that is none of bytes. -/
structure Kb (base : Nat) (w w' : World) : Prop where
  below : Below base w w'
  other : ∀ (k : Nat) (cs : Array Value) (t : TypeId) (m : Nat × Nat), w.heap[k]? = some (.cells cs t m) → t ≠ 5 → w'.heap[k]? = some (.cells cs t m)
theorem Kb.refl (base : Nat) (w : World) : Kb base w w := ⟨Below.refl _ _, fun _ _ _ _ h _ => h⟩
theorem Kb.trans {base : Nat} {w w1 w2 : World} (h : Kb base w w1) (h2 : Kb base w1 w2) : Kb base w w2 := ⟨h.below.trans h2.below, fun k cs t m hk ht => h2.other k cs t m (h.other k cs t m hk ht) ht⟩
theorem Kb.of {base : Nat} {w w' : World} (h : Below w.heap.size w w') (hb : base ≤ w.heap.size) : Kb base w w' := ⟨h.mono hb, fun k cs t m hk _ => by rw [h.block k (Array.getElem?_eq_some_iff.1 hk).1]; exact hk⟩
theorem Kb.mono {base base' : Nat} {w w' : World} (h : Kb base w w') (hb : base' ≤ base) : Kb base' w w' := ⟨h.below.mono hb, h.other⟩
theorem Kb.grown {base : Nat} {w w' : World} {a : Option Addr} {len cap : Nat} {xs : List Nat} (ho : Own w base a len cap xs) (hb : Below base w w') (hg : w.grownBy w' (Value.ownBlock (.slice a len cap))) : Kb base w w' := by
  refine ⟨hb, fun k cs t m hk ht => ?_⟩
  rw [hg.block k (Array.getElem?_eq_some_iff.1 hk).1 (fun e => ?_)]
  · exact hk
  · rcases ho.row.2 with ⟨h1, _⟩ | ⟨g5, c5', cur, h1, _, h3, _⟩
    · simp only [Value.slice.injEq] at h1
      rw [h1.1] at e
      cases e
    · simp only [Value.slice.injEq] at h1
      rw [h1.1] at e
      simp only [Value.ownBlock, Option.some.injEq] at e
      rw [e, h3] at hk
      simp only [Option.some.injEq, Obj.cells.injEq] at hk
      exact ht hk.2.1.symm
theorem Bk.kept {base : Nat} {w w' : World} {g : Nat} {cs : Array Value} {t : TypeId} (h : Bk w g cs t) (hk : Kb base w w') (ht : t ≠ 5) : Bk w' g cs t := hk.other g cs t (0, 0) h ht

/-- Numbers, one behind the other. -/
def lebs (ns : List Nat) : List Nat := ns.flatMap Leb.leb
theorem lebs_nil : lebs [] = [] := rfl
theorem lebs_cons (n : Nat) (ns : List Nat) : lebs (n :: ns) = Leb.leb n ++ lebs ns := rfl
def nvs (ns : List Nat) : Array Value := (ns.map fun (n : Nat) => Value.int .i64 (n : Int)).toArray
theorem nvs_at {ns : List Nat} {k : Nat} {n : Nat} (h : ns[k]? = some n) : (nvs ns)[k]? = some (.int .i64 (n : Int)) := by
  simp [nvs, h]
theorem lebs_len : ∀ ns : List Nat, (lebs ns).length ≤ 10 * ns.length
  | [] => by simp [lebs]
  | n :: ns => by
    rw [lebs_cons, List.length_append, List.length_cons]
    have h1 := Leb.leb_length n
    have h2 := lebs_len ns
    omega

set_option maxRecDepth 100000 in
set_option maxHeartbeats 4000000 in
theorem pc_putNumbers (base : Nat) (a : Option Addr) (len cap : Nat) (xs : List Nat) (g : Nat) (ns : List Nat) (w : World) (ho : Own w base a len cap xs) (hB : base ≤ w.heap.size) (hl : len ≤ 1000000) (hg : Bk w g (nvs ns) 3) (hn : ∀ n ∈ ns, n < 9223372036854775808) (hnl : ns.length ≤ 10) :
    Calls Tryd.prog 31 #[.slice a len cap, .slice (some ⟨g, 0, none⟩) ns.length ns.length] w fun e w' => (∃ a' cap', e = .returned (.slice a' (len + (lebs ns).length) cap') ∧ Hid (Own w' base a' (len + (lebs ns).length) cap' (xs ++ lebs ns))) ∧ Kb base w w' := by
  have HO : Hid (Own w base a len cap xs) := ho
  have HBS : Hid (base ≤ w.heap.size) := hB
  have HG : Hid (Bk w g (nvs ns) 3) := hg
  have HN : Hid (∀ n ∈ ns, n < 9223372036854775808) := hn
  have HT : Hid ((lebs ns).length ≤ 100) := by have := lebs_len ns; show _ ≤ _; omega
  obtain ⟨T, HTE⟩ : ∃ T, Hid (T = lebs ns) := ⟨_, rfl⟩
  obtain ⟨N, hN⟩ : ∃ N, N = ns.length := ⟨_, rfl⟩
  have HNE : Hid (N = ns.length) := hN
  rw [← HTE.out] at HT ⊢
  rw [← hN] at hnl ⊢
  clear ho hB hg hn hN
  go_enter Tryd.func31, Tryd.ntmps31
  go_wp2
  go_loopw [0, 9] (fun t0 t9 wr => ∃ (k : Nat) (ax : Option Addr) (x cx : Nat) (X : List Nat), k ≤ N ∧ t9 = .int .i64 (k : Int) ∧ t0 = .slice ax x cx ∧ Hid (Own wr base ax x cx (xs ++ X)) ∧ Hid (X ++ lebs (ns.drop k) = T) ∧ Hid (Kb base w wr)) (fun _ t9 _ => N - (intOf t9).toNat)
  case atStart => exact ⟨0, a, len, cap, [], by omega, rfl, rfl, by show Own _ _ _ _ _ _; rw [List.append_nil]; exact HO.out, by show _ = _; rw [HTE.out]; rfl, Kb.refl _ _⟩
  case round =>
    obtain ⟨k, ax, x, cx, X, hk, rfl, rfl, HOX, HE, HK⟩ := hrel
    have HXL : Hid (x = len + X.length ∧ X.length ≤ 100) := by
      have h1 := HT.out
      rw [← HE.out, List.length_append] at h1
      have h2 := HOX.out.size
      have h3 := HO.out.size
      rw [List.length_append] at h2
      exact ⟨by omega, by omega⟩
    have hx6 : x ≤ 1000100 := by have := HXL.out; omega
    by_cases hlt : k < N
    · have hlt' : (k : Int) < (N : Int) := by omega
      obtain ⟨n, hn⟩ : ∃ n, ns[k]? = some n := ⟨_, List.getElem?_eq_getElem (by rw [← HNE.out]; exact hlt)⟩
      have hnb : n < 9223372036854775808 := HN.out n (List.mem_of_getElem? hn)
      have HD : Hid (ns.drop k = n :: ns.drop (k + 1)) := by
        show _ = _
        obtain ⟨h1, h2⟩ := List.getElem?_eq_some_iff.1 hn
        rw [List.drop_eq_getElem_cons h1, h2]
      have c0 : wr.cell? ⟨g, k, none⟩ = some (.int .i64 (n : Int)) := (HG.out.kept HK.out (by decide)).cell k (nvs_at hn)
      clear hn
      go_wp2_with fail
      refine (octet_Uint n (by omega) _).mono ?_
      rintro e w3 ⟨a3, c3, rfl, _, ho3, hb3⟩
      have hm1 := Leb.leb_length n
      obtain ⟨m1, hm1e⟩ : ∃ m, m = (Leb.leb n).length := ⟨_, rfl⟩
      have HM1 : Hid (m1 = (Leb.leb n).length) := hm1e
      rw [← hm1e] at ho3 hm1 ⊢
      have HO3 : Hid (Own w3 wr.heap.size a3 m1 c3 (Leb.leb n)) := ho3
      have HOX3 : Hid (Own w3 base ax x cx (xs ++ X)) := HOX.out.below hb3
      have HS : Hid (base ≤ wr.heap.size) := Nat.le_trans HBS.out HK.out.below.size
      have HK3 : Hid (Kb base w w3) := HK.out.trans (Kb.of hb3 HS.out)
      have HS3 : Hid (base ≤ w3.heap.size) := Nat.le_trans HBS.out HK3.out.below.size
      clear ho3 hb3 hm1e c0 HOX
      go_wp2_with (at_builtin; refine wpList_append_rd rfl (.tmp 13) (.tmp 16) rfl base ax x cx (xs ++ X) rfl HOX3.out a3 m1 c3 (Leb.leb n) rfl HO3.out.rd HO3.out.nil_cap' (by omega) HS3.out ?_)
      intro a5 c5 w5 ho5 hg5 hb5
      have HO5 : Hid (Own w5 base a5 (x + m1) c5 (xs ++ (X ++ Leb.leb n))) := ho5
      have HK5 : Hid (Kb base w w5) := HK3.out.trans (Kb.grown HOX3.out hb5 hg5)
      have HE5 : Hid ((X ++ Leb.leb n) ++ lebs (ns.drop (k + 1)) = T) := by show _ = _; rw [← HE.out, HD.out, lebs_cons, List.append_assoc]
      clear ho5 hg5 hb5 HOX3 HO3 HE HK HK3
      go_wp2
      go_roundw
      case rel => exact ⟨k + 1, a5, x + m1, c5, _, by omega, by go_num, rfl, HO5, HE5, HK5⟩
      case measure => simp [intOf]; omega
    · have hnl' : ¬ (k : Int) < (N : Int) := by omega
      have HX : Hid (X = T) := by
        show _ = _
        rw [← HE.out, List.drop_of_length_le (by rw [← HNE.out]; omega), lebs_nil, List.append_nil]
      have HXL2 : Hid (x = len + T.length) := by show _ = _; rw [← HX.out]; exact HXL.out.1
      clear HE
      go_wp2
      go_ret
      refine ⟨⟨ax, cx, by rw [← HXL2.out]; rfl, ?_⟩, HK.out⟩
      show Own _ _ _ _ _ _
      rw [← HXL2.out, ← HX.out]
      exact HOX.out
end Go.Proofs.YtbloomepdchjhaaDoor
