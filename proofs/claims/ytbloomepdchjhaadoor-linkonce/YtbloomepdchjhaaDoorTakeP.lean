/- A pack of texts: Take LebBack. -/
import Derived.Test.YtbloomepdchjhaaDoorBase
import Derived.Test.YtbloomepdchjhaaDoorLebP
/- Numbers are taken: octet.TakeUint and the reference's TakeUint, for every row of bytes and every place. -/
namespace Go.Proofs.YtbloomepdchjhaaDoor
open Go.RowKit

/-- Three numbers as a Go function tells them. -/
def told (r : Nat × Nat × Nat) : Ending := .returned (.tuple #[.int .u64 (r.1 : Int), .int .i64 (r.2.1 : Int), .int .i64 (r.2.2 : Int)])

theorem rd_at {w : World} {a : Option Addr} {len : Nat} {bs : List Nat} (h : Rd w a len bs) : ∀ i, i < len → ∃ b off, a = some ⟨b, off, none⟩ ∧ w.cell? ⟨b, off + i, none⟩ = some (.int .u8 ((bs.getD i 0 : Nat) : Int)) := by
  intro i hi
  rcases h.cells with h0 | ⟨b, off, ha, _, hc⟩
  · omega
  · exact ⟨b, off, ha, hc i hi⟩

theorem told_eq {r s : Nat × Nat × Nat} (h : r = s) {x y z : Int} (h1 : x = (s.1 : Int)) (h2 : y = (s.2.1 : Int)) (h3 : z = (s.2.2 : Int)) : Ending.returned (.tuple #[.int .u64 x, .int .i64 y, .int .i64 z]) = told r := by
  subst h h1 h2 h3; rfl

theorem drop_cons {bs : List Nat} {k : Nat} (h : k < bs.length) : bs.drop k = bs.getD k 0 :: bs.drop (k + 1) := by
  rw [List.drop_eq_getElem_cons h, List.getD_eq_getElem?_getD, List.getElem?_eq_getElem h]; rfl

theorem nat_and128 (c : Nat) (h : c < 256) : c &&& 128 = if 128 ≤ c then 128 else 0 := by
  have : ∀ c, c < 256 → c &&& 128 = if 128 ≤ c then 128 else 0 := by decide +kernel
  exact this c h
theorem u8_and128_yes (c : Nat) (h : c < 256) (hc : 128 ≤ c) : bits BinOp.and IntKind.u8 (c : Int) 128 = 128 := by
  rw [show (128 : Int) = ((128 : Nat) : Int) from rfl, u8_and_nat c 128 h (by omega), nat_and128 c h, if_pos hc]
theorem u8_and128_no (c : Nat) (h : c < 256) (hc : c < 128) : bits BinOp.and IntKind.u8 (c : Int) 128 = 0 := by
  rw [show (128 : Int) = ((128 : Nat) : Int) from rfl, u8_and_nat c 128 h (by omega), nat_and128 c h, if_neg (by omega)]; rfl
theorem u8_low7 (c : Nat) (h : c < 256) : bits BinOp.andNot IntKind.u8 (c : Int) 128 = ((c % 128 : Nat) : Int) := by
  rw [show (128 : Int) = ((128 : Nat) : Int) from rfl, u8_andNot_nat c 128 h (by omega)]
  congr 1
  exact nat_mask7 c

set_option maxRecDepth 100000 in
set_option maxHeartbeats 2000000 in
theorem octet_TakeUint (a : Option Addr) (len cap : Nat) (bs : List Nat) (x : Int) (w : World) (hr : Rd w a len bs) (hl : len ≤ 9223372036854775000) (hx : (-9223372036854775808 : Int) ≤ x ∧ x ≤ 9223372036854775807) :
    Calls Tryd.prog 54 #[.slice a len cap, .int .i64 x] w fun e w' => e = told (Leb.take bs x) ∧ w' = w := by
  have HL : Hid (bs.length = len) := hr.size
  have HBY : Hid (∀ k, bs.getD k 0 < 256) := getD_lt hr.byte
  have HC : Hid (∀ i, i < len → ∃ b off, a = some ⟨b, off, none⟩ ∧ w.cell? ⟨b, off + i, none⟩ = some (.int .u8 ((bs.getD i 0 : Nat) : Int))) := rd_at hr
  clear hr
  by_cases hneg : x < 0
  · have HF : Hid (Leb.take bs x = (0, 0, 2)) := by show _ = _; unfold Leb.take; rw [if_pos (.inl hneg)]
    go_enter Tryd.func54, Tryd.ntmps54
    go_wp2
    go_step3
    go_hide hQ
    have HQQ : Hid _ := hQ
    clear hQ
    go_wp2
    rw [← HQQ.out, Exit.noGoto_ret]
    go_ret3
    exact ⟨told_eq HF.out rfl rfl rfl, rfl⟩
  by_cases hbig : (len : Int) < x
  · have HF : Hid (Leb.take bs x = (0, 0, 2)) := by show _ = _; unfold Leb.take; rw [if_pos (.inr (by rw [HL.out]; exact hbig))]
    go_enter Tryd.func54, Tryd.ntmps54
    go_wp2
    go_step3
    go_hide hQ
    have HQQ : Hid _ := hQ
    clear hQ
    go_wp2
    rw [← HQQ.out, Exit.noGoto_ret]
    go_ret3
    exact ⟨told_eq HF.out rfl rfl rfl, rfl⟩
  obtain ⟨p, rfl⟩ := Int.eq_ofNat_of_zero_le (show 0 ≤ x by omega)
  have hp : p ≤ len := by omega
  have HT : Hid (Leb.take bs (p : Int) = Leb.fin p (Leb.tk 0 0 (bs.drop p))) := by show _ = _; unfold Leb.take; rw [if_neg (by rw [HL.out]; omega)]; simp
  clear hneg hbig hx
  go_enter Tryd.func54, Tryd.ntmps54
  go_wp2
  refine wp_scope_via 0 (fun a' w' => w' = w ∧ ∃ (i n q : Nat) (u4 u5 u6 u9 u10 u11 u12 u13 u14 u15 u16 u17 u18 u19 u20 u21 u22 u23 u24 u25 u26 u27 u28 u29 u30 u31 u32 u33 u34 u35 u36 u37 u38 u39 u40 u41 u42 u43 u44 u45 u46 u47 u48 u49 u50 u51 u52 u53 u54 u55 u56 u57 u58 : Value), a' = { tmps := #[.slice a len cap, .int .i64 (p : Int), undef, undef, u4, u5, u6, .int .u64 (n : Int), .int .i64 (i : Int), u9, u10, u11, u12, u13, u14, u15, u16, u17, u18, u19, u20, u21, u22, u23, u24, u25, u26, u27, u28, u29, u30, u31, u32, u33, u34, u35, u36, u37, u38, u39, u40, u41, u42, u43, u44, u45, u46, u47, u48, u49, u50, u51, u52, u53, u54, u55, u56, u57, u58], defers := [] } ∧ i ≤ 9 ∧ q ≤ 9223372036854775808 ∧ n < q ∧ p + i ≤ len ∧ Hid (q = 128 ^ i) ∧ Hid (Leb.tk 0 0 (bs.drop p) = Leb.tk i n (bs.drop (p + i)))) (fun a' _ => 10 - (intOf (a'.tmps.getD 8 undef)).toNat) rfl ?_ ?_
  · rintro a' wr ⟨rfl, i, n, q, u4, u5, u6, u9, u10, u11, u12, u13, u14, u15, u16, u17, u18, u19, u20, u21, u22, u23, u24, u25, u26, u27, u28, u29, u30, u31, u32, u33, u34, u35, u36, u37, u38, u39, u40, u41, u42, u43, u44, u45, u46, u47, u48, u49, u50, u51, u52, u53, u54, u55, u56, u57, u58, rfl, hi, hq, hn, hpi, HQ, HK⟩
    go_hide hQ
    have HQQ : Hid _ := hQ
    clear hQ
    by_cases hs : p + i < len
    · obtain ⟨b, off, rfl, hcx⟩ := HC.out (p + i) hs
      have hs' : ((p : Int) + (i : Int) == (len : Int)) = false := by rw [beq_eq_false_iff_ne]; omega
      obtain ⟨c, HCE⟩ : ∃ c, Hid (c = bs.getD (p + i) 0) := ⟨_, rfl⟩
      rw [← HCE.out] at hcx
      have hc : c < 256 := by rw [HCE.out]; exact HBY.out _
      have HD : Hid (bs.drop (p + i) = c :: bs.drop (p + (i + 1))) := by
        show _ = _
        rw [drop_cons (by rw [HL.out]; exact hs), ← HCE.out, Nat.add_assoc]
      obtain ⟨l, HLL⟩ : ∃ l, Hid (l = c % 128) := ⟨_, rfl⟩
      have hl7 : l < 128 := by rw [HLL.out]; omega
      have e0 : bits BinOp.andNot IntKind.u8 (c : Int) 128 = (l : Int) := by rw [HLL.out]; exact u8_low7 c hc
      obtain ⟨y, HY⟩ : ∃ y, Hid (y = c % 128 * q) := ⟨_, rfl⟩
      have hyq : y ≤ 127 * q := by rw [HY.out]; exact Nat.mul_le_mul_right q (by omega)
      have HOR : Hid (y < 18446744073709551616 → bits BinOp.or IntKind.u64 (n : Int) (IntKind.u64.wrap ((l : Int) * 2 ^ (7 * i))) = ((n + y : Nat) : Int)) := by
        intro hy64
        have ep : (2 : Nat) ^ (7 * i) = q := by rw [HQ.out, show (128 : Nat) = 2 ^ 7 from rfl, ← Nat.pow_mul]
        have e3 : (l : Int) * 2 ^ (7 * i) = ((y : Nat) : Int) := by
          rw [HY.out, ← HLL.out, ← ep, Int.natCast_mul, Int.natCast_pow]
          rfl
        rw [e3, IntKind.wrap_u64, show ((y : Int) % 18446744073709551616) = (y : Int) from by omega, u64_or_nat n y (by omega) hy64]
        congr 1
        rw [Nat.or_comm, Nat.add_comm]
        refine nat_join (7 * i) y n ?_ (by rw [ep]; exact hn)
        rw [HY.out, ep]
        exact Nat.mul_mod_left _ _
      by_cases h9 : i = 9
      · subst h9
        have h9' : ((9 : Nat) : Int) = 9 := rfl
        have hq9 : q = 9223372036854775808 := by rw [HQ.out]
        by_cases h1 : 1 < c
        · have HF : Hid (Leb.take bs (p : Int) = (0, 0, 6)) := by show _ = _; rw [HT.out, HK.out, HD.out, Leb.tk_limit 9 n c _ rfl h1]; rfl
          clear hq9
          go_wp2
          rw [← HQQ.out]
          simp only [Exit.jump]
          go_ret3
          exact ⟨told_eq HF.out rfl rfl rfl, rfl⟩
        · have hy1 : y ≤ 9223372036854775808 := by
            rw [HY.out, hq9]
            have : c % 128 ≤ 1 := by omega
            omega
          have hc1 : c < 128 := by omega
          have hny : n + y < 18446744073709551616 := by omega
          have e1 := HOR.out (by omega)
          rw [show (2 : Int) ^ (7 * 9) = 9223372036854775808 from by decide] at e1
          have e2 := u8_and128_no c hc hc1
          clear hq9
          by_cases h0 : c = 0
          · have HF : Hid (Leb.take bs (p : Int) = (0, 0, 4)) := by show _ = _; rw [HT.out, HK.out, HD.out, Leb.tk_form 9 n c _ (by omega) h0 (by omega)]; rfl
            have h0' : ((c : Int) == 0) = true := by rw [beq_iff_eq]; omega
            have h1' : ¬ (1 : Int) < (c : Int) := by omega
            clear h0 h1
            go_wp2
            rw [← HQQ.out]
            simp only [Exit.jump]
            go_ret3
            exact ⟨told_eq HF.out rfl rfl rfl, rfl⟩
          · have HF : Hid (Leb.take bs (p : Int) = (n + y, p + 10, 0)) := by show _ = _; rw [HT.out, HK.out, HD.out, Leb.tk_end 9 n c _ (by omega) hc1 (by omega), HY.out, HQ.out, Nat.mod_eq_of_lt hc1]; rfl
            have h0' : ((c : Int) == 0) = false := by rw [beq_eq_false_iff_ne]; omega
            go_wp2
            rw [← HQQ.out]
            simp only [Exit.jump]
            go_ret3
            exact ⟨told_eq HF.out rfl (by first | (simp; done) | (simp; omega)) rfl, rfl⟩
      · have hq8 : q ≤ 72057594037927936 := by
          rw [HQ.out]
          exact Nat.pow_le_pow_right (n := 128) (by omega) (show i ≤ 8 by omega)
        have e1 := HOR.out (by omega)
        have h9' : ((i : Int) == 9) = false := by rw [beq_eq_false_iff_ne]; omega
        have hi8 : i ≤ 8 := by omega
        by_cases hc1 : c < 128
        · have e2 := u8_and128_no c hc hc1
          by_cases h0 : c = 0 ∧ 0 < i
          · have HF : Hid (Leb.take bs (p : Int) = (0, 0, 4)) := by show _ = _; rw [HT.out, HK.out, HD.out, Leb.tk_form i n c _ (by omega) h0.1 h0.2]; rfl
            have h0' : ((c : Int) == 0) = true := by rw [beq_iff_eq]; omega
            have hi0 : 0 < i := h0.2
            clear h0
            go_wp2
            rw [← HQQ.out]
            simp only [Exit.jump]
            go_ret3
            exact ⟨told_eq HF.out rfl rfl rfl, rfl⟩
          · have HF : Hid (Leb.take bs (p : Int) = (n + y, p + (i + 1), 0)) := by show _ = _; rw [HT.out, HK.out, HD.out, Leb.tk_end i n c _ (by omega) hc1 h0, HY.out, HQ.out, Nat.mod_eq_of_lt hc1]; rfl
            by_cases hz : c = 0
            · have h0' : ((c : Int) == 0) = true := by rw [beq_iff_eq]; omega
              have hi0 : ¬ 0 < i := fun h => h0 ⟨hz, h⟩
              clear h0 hz
              go_wp2
              rw [← HQQ.out]
              simp only [Exit.jump]
              go_ret3
              exact ⟨told_eq HF.out rfl (by first | (simp; done) | (simp; omega)) rfl, rfl⟩
            · have h0' : ((c : Int) == 0) = false := by rw [beq_eq_false_iff_ne]; omega
              clear h0
              go_wp2
              rw [← HQQ.out]
              simp only [Exit.jump]
              go_ret3
              exact ⟨told_eq HF.out rfl (by first | (simp; done) | (simp; omega)) rfl, rfl⟩
        · have HF : Hid (Leb.tk 0 0 (bs.drop p) = Leb.tk (i + 1) (n + y) (bs.drop (p + (i + 1)))) := by show _ = _; rw [HK.out, HD.out, Leb.tk_more i n c _ (by omega) (by omega), HY.out, HQ.out]
          have hnq : n + y < q * 128 := by omega
          have HQ' : Hid (q * 128 = 128 ^ (i + 1)) := by show _ = _; rw [HQ.out, Nat.pow_succ]
          have e2 := u8_and128_yes c hc (by omega)
          go_wp2
          go_step3
          rw [← HQQ.out]
          refine ⟨rfl, ⟨rfl, i + 1, n + y, q * 128, _, _, _, _, _, _, _, _, _, _, _, _, _, _, _, _, _, _, _, _, _, _, _, _, _, _, _, _, _, _, _, _, _, _, _, _, _, _, _, _, _, _, _, _, _, _, _, _, _, _, _, _, _, rfl, by omega, by omega, hnq, by omega, HQ', HF⟩, ?_⟩
          simp [intOf]
          omega
    · have HF : Hid (Leb.take bs (p : Int) = (0, 0, 3)) := by show _ = _; rw [HT.out, HK.out, List.drop_eq_nil_of_le (by rw [HL.out]; omega)]; rfl
      have hs' : ((p : Int) + (i : Int) == (len : Int)) = true := by rw [beq_iff_eq]; omega
      go_wp2
      rw [← HQQ.out]
      simp only [Exit.jump]
      go_ret3
      exact ⟨told_eq HF.out rfl rfl rfl, rfl⟩
  · intro hrest
    go_hide hQ
    have HQQ : Hid _ := hQ
    clear hQ
    go_wp2
    refine wp_label ?_
    rename_i hk
    refine hk _ _ ?_
    have hQ := HQQ.out
    subst hQ
    exact hrest _ _ ⟨rfl, 0, 0, 1, _, _, _, _, _, _, _, _, _, _, _, _, _, _, _, _, _, _, _, _, _, _, _, _, _, _, _, _, _, _, _, _, _, _, _, _, _, _, _, _, _, _, _, _, _, _, _, _, _, _, _, _, _, rfl, by omega, by omega, by omega, by omega, rfl, rfl⟩
end Go.Proofs.YtbloomepdchjhaaDoor
/- What is put is taken, and what is taken is what is put: plain mathematics. -/
namespace Go.Proofs.YtbloomepdchjhaaDoor.Leb

theorem tk_put : ∀ (j i acc m : Nat) (r : List Nat), i + j = 9 → m < 2 * 128 ^ j → (i = 0 ∨ 0 < m) → tk i acc (put j m ++ r) = (acc + m * 128 ^ i, i + (put j m).length, 0)
  | j, i, acc, m, r, hij, hm, h0 => by
    by_cases hs : m < 128
    · rw [put_small j m hs, List.singleton_append, tk_end i acc m r ?_ hs ?_]
      · rfl
      · rintro ⟨hi, h1⟩
        have : j = 0 := by omega
        subst this
        simp at hm
        omega
      · rintro ⟨hz, hi⟩
        omega
    · cases j with
      | zero => simp at hm; omega
      | succ j =>
        have hmod : (128 + m % 128) % 128 = m % 128 := by omega
        rw [put_big j m (by omega), List.cons_append, tk_more i acc (128 + m % 128) _ (by omega) (by omega), hmod,
          tk_put j (i + 1) (acc + m % 128 * 128 ^ i) (m / 128) r (by omega) (by rw [Nat.pow_succ] at hm; omega) (.inr (by omega))]
        have e : m * 128 ^ i = m % 128 * 128 ^ i + m / 128 * 128 ^ (i + 1) := by
          rw [Nat.pow_succ]
          conv => lhs; rw [show m = m % 128 + 128 * (m / 128) from by omega, Nat.add_mul]
          rw [Nat.mul_comm 128 (m / 128), Nat.mul_assoc, Nat.mul_comm 128 (128 ^ i)]
        simp only [List.length_cons]
        refine Prod.ext ?_ (Prod.ext ?_ rfl)
        · show _ = acc + m * 128 ^ i
          rw [e]
          omega
        · show i + 1 + _ = i + (_ + 1)
          omega

/-- What was put at a place is taken there as it was. -/
theorem take_put (n : Nat) (hn : n < 18446744073709551616) (xs zs : List Nat) : take (xs ++ leb n ++ zs) (xs.length : Int) = (n, xs.length + (leb n).length, 0) := by
  unfold take
  rw [if_neg (by simp; omega)]
  have hd : (xs ++ leb n ++ zs).drop ((xs.length : Int)).toNat = leb n ++ zs := by simp
  rw [hd]
  unfold leb
  rw [tk_put 9 0 0 n zs rfl (by simpa using hn) (.inl rfl)]
  simp [fin]

theorem tk_once : ∀ (l : List Nat) (i acc n k : Nat), i ≤ 9 → (∀ x ∈ l, x < 256) → tk i acc l = (n, k, 0) →
    ∃ m, n = acc + m * 128 ^ i ∧ m < 2 * 128 ^ (9 - i) ∧ i + (put (9 - i) m).length = k ∧ l.take (k - i) = put (9 - i) m ∧ k - i ≤ l.length ∧ (i = 0 ∨ 0 < m)
  | [], i, acc, n, k, _, _, h => by simp [tk] at h
  | c :: r, i, acc, n, k, hi, hb, h => by
    have hc : c < 256 := hb c (by simp)
    by_cases hlim : i = 9 ∧ 1 < c
    · rw [tk_limit i acc c r hlim.1 hlim.2] at h; simp at h
    · by_cases hs : c < 128
      · by_cases hz : c = 0 ∧ 0 < i
        · rw [tk_form i acc c r hlim hz.1 hz.2] at h; simp at h
        · rw [tk_end i acc c r hlim hs hz] at h
          simp only [Prod.mk.injEq] at h
          obtain ⟨rfl, rfl, _⟩ := h
          have hp := put_small (9 - i) c hs
          refine ⟨c, rfl, ?_, by rw [hp]; rfl, ?_, ?_, by omega⟩
          · by_cases h9 : i = 9
            · subst h9; show c < 2 * 128 ^ 0; omega
            · have : 128 ^ 1 ≤ 128 ^ (9 - i) := Nat.pow_le_pow_right (by omega) (by omega)
              omega
          · rw [hp, show i + 1 - i = 1 from by omega]; rfl
          · simp only [List.length_cons]; omega
      · rw [tk_more i acc c r hlim (by omega)] at h
        obtain ⟨m, h1, h2, h3, h4, h5, h6⟩ := tk_once r (i + 1) _ n k (by omega) (fun x hx => hb x (by simp [hx])) h
        have h9 : 9 - i = (9 - (i + 1)) + 1 := by omega
        have hpos : 0 < m := by omega
        refine ⟨c % 128 + 128 * m, ?_, ?_, ?_, ?_, ?_, .inr (by omega)⟩
        · rw [h1, Nat.pow_succ, Nat.add_mul, Nat.mul_comm 128 m, Nat.mul_assoc, Nat.mul_comm 128 (128 ^ i)]
          omega
        · rw [h9, Nat.pow_succ]; omega
        · rw [h9, put_big _ _ (by omega), show (c % 128 + 128 * m) / 128 = m from by omega]
          simp only [List.length_cons]
          omega
        · rw [h9, put_big _ _ (by omega), show (c % 128 + 128 * m) / 128 = m from by omega, show (c % 128 + 128 * m) % 128 = c % 128 from by omega, ← h4]
          have hk : k - i = (k - (i + 1)) + 1 := by omega
          rw [hk, List.take_succ_cons, show 128 + c % 128 = c from by omega]
        · simp only [List.length_cons]; omega

/-- Bytes that are taken for a number are just its bytes. -/
theorem take_once (bs : List Nat) (x : Int) (hb : ∀ y ∈ bs, y < 256) (n k : Nat) (h : take bs x = (n, k, 0)) :
    ∃ p : Nat, x = (p : Int) ∧ p < k ∧ k ≤ bs.length ∧ n < 18446744073709551616 ∧ (bs.drop p).take (k - p) = leb n ∧ k = p + (leb n).length := by
  unfold take at h
  by_cases hx : x < 0 ∨ (bs.length : Int) < x
  · rw [if_pos hx] at h; simp at h
  · rw [if_neg hx] at h
    obtain ⟨p, rfl⟩ := Int.eq_ofNat_of_zero_le (show 0 ≤ x by omega)
    simp only [Int.toNat_natCast] at h
    obtain ⟨a, u, e⟩ : ∃ a u, tk 0 0 (bs.drop p) = (a, u, 0) := by
      rcases htk : tk 0 0 (bs.drop p) with ⟨a, u, e⟩
      rw [htk] at h
      simp only [fin, Prod.mk.injEq] at h
      exact ⟨a, u, by rw [h.2.2]⟩
    rw [e] at h
    simp only [fin, Prod.mk.injEq, if_true, and_true] at h
    obtain ⟨rfl, rfl⟩ := h
    obtain ⟨m, h1, h2, h3, h4, h5, _⟩ := tk_once (bs.drop p) 0 0 a u (by omega) (fun y hy => hb y (List.mem_of_mem_drop hy)) e
    have em : a = m := by simpa using h1
    subst em
    have hl := leb_length a
    simp only [Nat.zero_add, Nat.sub_zero] at h3 h4 h5 h2
    refine ⟨p, rfl, ?_, ?_, by simpa using h2, ?_, ?_⟩
    · have : (leb a).length = u := h3
      omega
    · simp only [List.length_drop] at h5
      have : (leb a).length = u := h3
      omega
    · rw [show p + u - p = u from by omega]; exact h4
    · show p + u = p + (leb a).length
      have : (leb a).length = u := h3
      omega

/-- With an error nothing is told. -/
theorem tk_zero : ∀ (l : List Nat) (i acc : Nat), (tk i acc l).2.2 ≠ 0 → (tk i acc l).1 = 0
  | [], _, _, _ => rfl
  | c :: r, i, acc, h => by
    by_cases hlim : i = 9 ∧ 1 < c
    · rw [tk_limit i acc c r hlim.1 hlim.2]
    · by_cases hs : c < 128
      · by_cases hz : c = 0 ∧ 0 < i
        · rw [tk_form i acc c r hlim hz.1 hz.2]
        · rw [tk_end i acc c r hlim hs hz] at h; exact absurd rfl h
      · rw [tk_more i acc c r hlim (by omega)] at h ⊢
        exact tk_zero r _ _ h

end Go.Proofs.YtbloomepdchjhaaDoor.Leb
