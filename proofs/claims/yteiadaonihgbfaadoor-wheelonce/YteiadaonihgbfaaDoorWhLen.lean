/- bits.Len64's last step. Plain mathematics. -/
import Derived.Test.YteiadaonihgbfaaDoorWhM
namespace Go.Proofs.YteiadaonihgbfaaDoor
open Go.RowKit

theorem wrap_two (k b : Nat) (hk : k ≤ 56) (hb : b ≤ 8) : wrap64 ((k : Int) + wrap64 (b : Int)) = ((k + b : Nat) : Int) := by
  unfold wrap64
  omega
theorem tab_at (a n : Nat) (h : a < Lib.len8tab.size) (hn : n < 256) (e : a = n) : (((Lib.len8tab[a]'h).toNat : Nat) : Int) = (Lib.bitLen n : Int) := by
  subst e
  have e : Lib.len8 ((a : Nat) : Int) = (Lib.bitLen a : Int) := Lib.len8_eq ⟨a, hn⟩
  have e2 : Lib.len8tab[a]? = some (Lib.len8tab[a]'h) := getElem?_pos Lib.len8tab a h
  have e3 : Lib.len8 ((a : Nat) : Int) = (((Lib.len8tab[a]'h).toNat : Nat) : Int) := by
    have : Lib.len8 ((a : Nat) : Int) = ((Lib.len8tab[((a : Nat) : Int).toNat]?).getD 0).toNat := rfl
    rw [this, Int.toNat_natCast, e2, Option.getD_some]
  rw [← e3, e]
/-- The last step of bits.Len64. -/
theorem len_fin (y : Int) (h : y.toNat < Lib.len8tab.size) (k K X : Nat) (hk : k ≤ 56) (hK : K = 2 ^ k) (hy : y.toNat = X / K) (hlt : X / K < 256) (hX : k = 0 ∨ K ≤ X) (hX2 : X < 18446744073709551616) :
    wrap64 ((k : Int) + wrap64 (((Lib.len8tab[y.toNat]'h).toNat : Nat) : Int)) = (Lib.bitLen X : Int) := by
  have hb : Lib.bitLen (X / K) ≤ 8 := Lib.bitLen_le8 ⟨X / K, hlt⟩
  rw [tab_at y.toNat (X / K) h hlt hy, wrap_two k _ hk hb]
  rcases hX with rfl | hX
  · rw [hK, Nat.pow_zero, Nat.div_one, Nat.zero_add]
  · rw [hK] at hX ⊢
    rw [← Lib.bitLen_shift k X hX hX2]
theorem len56 (x : Int) (h0 : 0 ≤ x) (h1 : x ≤ 18446744073709551615) (h2 : 72057594037927936 ≤ x) (_h3 : x / 4294967296 / 65536 / 256 < 256) (h : (x / 4294967296 / 65536 / 256).toNat < Lib.len8tab.size) : wrap64 (56 + wrap64 (((Lib.len8tab[(x / 4294967296 / 65536 / 256).toNat]'h).toNat : Nat) : Int)) = (Lib.bitLen x.toNat : Int) :=
  len_fin _ h 56 72057594037927936 x.toNat (by omega) (by decide) (by omega) (by omega) (.inr (by omega)) (by omega)
theorem len48 (x : Int) (h0 : 0 ≤ x) (h1 : x ≤ 18446744073709551615) (h2 : 281474976710656 ≤ x) (h3 : x / 4294967296 / 65536 < 256) (h : (x / 4294967296 / 65536).toNat < Lib.len8tab.size) : wrap64 (48 + wrap64 (((Lib.len8tab[(x / 4294967296 / 65536).toNat]'h).toNat : Nat) : Int)) = (Lib.bitLen x.toNat : Int) :=
  len_fin _ h 48 281474976710656 x.toNat (by omega) (by decide) (by omega) (by omega) (.inr (by omega)) (by omega)
theorem len40 (x : Int) (h0 : 0 ≤ x) (h1 : x ≤ 18446744073709551615) (h2 : 1099511627776 ≤ x) (h3 : x / 4294967296 / 256 < 256) (h : (x / 4294967296 / 256).toNat < Lib.len8tab.size) : wrap64 (40 + wrap64 (((Lib.len8tab[(x / 4294967296 / 256).toNat]'h).toNat : Nat) : Int)) = (Lib.bitLen x.toNat : Int) :=
  len_fin _ h 40 1099511627776 x.toNat (by omega) (by decide) (by omega) (by omega) (.inr (by omega)) (by omega)
theorem len32 (x : Int) (h0 : 0 ≤ x) (h1 : x ≤ 18446744073709551615) (h2 : 4294967296 ≤ x) (h3 : x / 4294967296 < 256) (h : (x / 4294967296).toNat < Lib.len8tab.size) : wrap64 (32 + wrap64 (((Lib.len8tab[(x / 4294967296).toNat]'h).toNat : Nat) : Int)) = (Lib.bitLen x.toNat : Int) :=
  len_fin _ h 32 4294967296 x.toNat (by omega) (by decide) (by omega) (by omega) (.inr (by omega)) (by omega)
theorem len24 (x : Int) (h0 : 0 ≤ x) (h1 : x ≤ 18446744073709551615) (h2 : 16777216 ≤ x) (h3 : x / 65536 / 256 < 256) (h : (x / 65536 / 256).toNat < Lib.len8tab.size) : wrap64 (24 + wrap64 (((Lib.len8tab[(x / 65536 / 256).toNat]'h).toNat : Nat) : Int)) = (Lib.bitLen x.toNat : Int) :=
  len_fin _ h 24 16777216 x.toNat (by omega) (by decide) (by omega) (by omega) (.inr (by omega)) (by omega)
theorem len16 (x : Int) (h0 : 0 ≤ x) (h1 : x ≤ 18446744073709551615) (h2 : 65536 ≤ x) (h3 : x / 65536 < 256) (h : (x / 65536).toNat < Lib.len8tab.size) : wrap64 (16 + wrap64 (((Lib.len8tab[(x / 65536).toNat]'h).toNat : Nat) : Int)) = (Lib.bitLen x.toNat : Int) :=
  len_fin _ h 16 65536 x.toNat (by omega) (by decide) (by omega) (by omega) (.inr (by omega)) (by omega)
theorem len8 (x : Int) (h0 : 0 ≤ x) (h1 : x ≤ 18446744073709551615) (h2 : 256 ≤ x) (h3 : x / 256 < 256) (h : (x / 256).toNat < Lib.len8tab.size) : wrap64 (8 + wrap64 (((Lib.len8tab[(x / 256).toNat]'h).toNat : Nat) : Int)) = (Lib.bitLen x.toNat : Int) :=
  len_fin _ h 8 256 x.toNat (by omega) (by decide) (by omega) (by omega) (.inr (by omega)) (by omega)
theorem len0 (x : Int) (h0 : 0 ≤ x) (h3 : x < 256) (h : x.toNat < Lib.len8tab.size) : wrap64 (wrap64 (((Lib.len8tab[x.toNat]'h).toNat : Nat) : Int)) = (Lib.bitLen x.toNat : Int) := by
  have := len_fin x h 0 1 x.toNat (by omega) (by decide) (by omega) (by omega) (.inl rfl) (by omega)
  rw [← this]
  congr 1
  omega

end Go.Proofs.YteiadaonihgbfaaDoor
