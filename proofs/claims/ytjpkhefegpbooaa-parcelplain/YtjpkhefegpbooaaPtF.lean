/- parcel's reader: bytes that are taken are just those that are put. -/
import Derived.Test.YtjpkhefegpbooaaPt3
import Derived.Test.YtjpkhefegpbooaaSpOnceM
namespace Go.Proofs.Ytjpkhefegpbooaa
open Go.RowKit

theorem numF_le (bs : List Nat) (lim : Nat) (s : Rs) : (numF bs lim s).1 ≤ lim := by
  by_cases h : s.ft = 0
  · obtain ⟨n, k, e, ht⟩ : ∃ n k e, Leb.take bs s.at_ = (n, k, e) := ⟨_, _, _, rfl⟩
    by_cases he : e = 0
    · subst he
      by_cases hn : lim < n
      · rw [numF_lim h ht hn]; exact Nat.zero_le _
      · rw [numF_ok h ht hn]; exact Nat.le_of_not_lt hn
    · rw [numF_bad h ht he]; exact Nat.zero_le _
  · rw [numF_no h]; exact Nat.zero_le _
theorem numF_once {bs : List Nat} {lim : Nat} {s : Rs} (hb : ∀ z ∈ bs, z < 256) (h : (numF bs lim s).2.ft = 0) :
    ∃ p k : Nat, s = ⟨(p : Int), 0⟩ ∧ (numF bs lim s).2 = ⟨(k : Int), 0⟩ ∧ p < k ∧ k ≤ bs.length ∧ cutB bs p k = Leb.leb (numF bs lim s).1 := by
  by_cases h0 : s.ft = 0
  · obtain ⟨n, k, e, ht⟩ : ∃ n k e, Leb.take bs s.at_ = (n, k, e) := ⟨_, _, _, rfl⟩
    by_cases he : e = 0
    · subst he
      by_cases hn : lim < n
      · rw [numF_lim h0 ht hn] at h; simp at h
      · obtain ⟨p, h1, h2, h3, _, h5, _⟩ := Leb.take_once bs _ hb n k ht
        rw [numF_ok h0 ht hn]
        obtain ⟨x, t⟩ := s
        simp only at h0 h1
        subst h0 h1
        exact ⟨p, k, rfl, rfl, h2, h3, h5⟩
    · rw [numF_bad h0 ht he] at h
      simp only at h
      omega
  · rw [numF_no h0] at h
    exact absurd h h0
theorem numF_fine {bs : List Nat} {lim : Nat} {s : Rs} (hb : ∀ z ∈ bs, z < 256) : (numF bs lim s).2.fine bs := fun h => by
  obtain ⟨p, k, _, h2, h3, h4, _⟩ := numF_once hb h
  rw [h2]
  exact ⟨by simp, by simpa using h4⟩
theorem byF_once {bs : List Nat} {c : Nat} {s : Rs} (hx : s.fine bs) (h : (byF bs c s).2.ft = 0) :
    ∃ p : Nat, s = ⟨(p : Int), 0⟩ ∧ (byF bs c s).2 = ⟨((p + c : Nat) : Int), 0⟩ ∧ p + c ≤ bs.length ∧ (byF bs c s).1 = cutB bs p (p + c) ∧ (byF bs c s).1.length = c := by
  by_cases h0 : s.ft = 0
  · obtain ⟨h1, h2⟩ := hx h0
    by_cases hs : (bs.length : Int) - s.at_ < c
    · rw [byF_short h0 hs] at h; simp at h
    · rw [byF_ok h0 hs]
      obtain ⟨x, t⟩ := s
      simp only at h0 h1 h2 hs
      subst h0
      obtain ⟨p, rfl⟩ := Int.eq_ofNat_of_zero_le h1
      refine ⟨p, rfl, by simp, by omega, ?_, ?_⟩
      · simp [cutB]
      · simp
        omega
  · rw [byF_no h0] at h
    exact absurd h h0
theorem byF_fine {bs : List Nat} {c : Nat} {s : Rs} (hx : s.fine bs) : (byF bs c s).2.fine bs := fun h => by
  obtain ⟨p, _, h2, h3, _⟩ := byF_once hx h
  rw [h2]
  exact ⟨by simp; omega, by simp only; omega⟩
theorem byF_len {bs : List Nat} {c : Nat} {s : Rs} : (byF bs c s).1.length ≤ c := by
  by_cases h0 : s.ft = 0
  · by_cases hs : (bs.length : Int) - s.at_ < c
    · rw [byF_short h0 hs]; simp
    · rw [byF_ok h0 hs]; simp; omega
  · rw [byF_no h0]; simp
theorem takeM_from (bs : List Nat) (hb : ∀ z ∈ bs, z < 256) {p : Nat} {l : List Sp} {z : Int} (h : takeM bs (p : Int) = (l, z, 0)) : ∃ zn : Nat, z = (zn : Int) ∧ p ≤ zn ∧ zn ≤ bs.length ∧ rightB Sp.zr l = true ∧ ¬ 256 < l.length ∧ putT l = cutB bs p zn := by
  obtain ⟨n, k, e, h1⟩ : ∃ n k e, Leb.take bs (p : Int) = (n, k, e) := ⟨_, _, _, rfl⟩
  by_cases he : e = 0
  · subst he
    by_cases hn : 256 < n
    · rw [takeM_2 h1 hn] at h; simp at h
    · rw [takeM_3 h1 hn] at h
      obtain ⟨q, h2, h3, h4, _, h6, h7⟩ := Leb.take_once bs _ hb n k h1
      have hq : q = p := by omega
      subst hq
      obtain ⟨m, zn, hl, h8, h9, rfl, h10, h11, h12⟩ := takeL_once bs hb n k Sp.zr [] l z (by decide) h4 h
      rw [List.nil_append] at hl
      subst hl
      have hr : rightB Sp.zr l = true := (rightB_iff _ _).2 h9
      refine ⟨zn, rfl, by omega, h11, hr, by omega, ?_⟩
      have h13 := (put_ok hr (by omega)).2
      rw [h13, h8]
      have e1 : cutB bs q k = Leb.leb n := h6
      rw [← e1]
      rw [show putS 0 l = cutB bs k zn from h12.symm]
      exact cutB_join bs (by omega) h10
  · rw [takeM_1 h1 he] at h
    simp only [Prod.mk.injEq] at h
    omega
theorem spF_once {bs : List Nat} {s : Rs} (hb : ∀ z ∈ bs, z < 256) (hx : s.fine bs) (h : (spF bs s).2.ft = 0) :
    ∃ p k : Nat, s = ⟨(p : Int), 0⟩ ∧ (spF bs s).2 = ⟨(k : Int), 0⟩ ∧ p ≤ k ∧ k ≤ bs.length ∧ rightB Sp.zr (spF bs s).1 = true ∧ ¬ 256 < (spF bs s).1.length ∧ putT (spF bs s).1 = cutB bs p k := by
  by_cases h0 : s.ft = 0
  · obtain ⟨h1, h2⟩ := hx h0
    rw [spF_ok h0] at h ⊢
    obtain ⟨x, t⟩ := s
    simp only at h0 h1 h2 h ⊢
    subst h0
    obtain ⟨p, rfl⟩ := Int.eq_ofNat_of_zero_le h1
    obtain ⟨l, z, f, hT⟩ : ∃ l z f, takeM bs (p : Int) = (l, z, f) := ⟨_, _, _, rfl⟩
    rw [hT] at h ⊢
    simp only at h ⊢
    subst h
    obtain ⟨zn, rfl, h3, h4, h5, h6, h7⟩ := takeM_from bs hb hT
    exact ⟨p, zn, rfl, rfl, h3, h4, h5, h6, h7⟩
  · rw [spF_no h0] at h
    exact absurd h h0
theorem spF_fine {bs : List Nat} {s : Rs} (hb : ∀ z ∈ bs, z < 256) (hx : s.fine bs) : (spF bs s).2.fine bs := fun h => by
  obtain ⟨p, k, _, h2, _, h4, _⟩ := spF_once hb hx h
  rw [h2]
  exact ⟨by simp, by simpa using h4⟩
theorem itF_fine {bs : List Nat} {s : Rs} (hb : ∀ z ∈ bs, z < 256) : (itF bs s).2.fine bs := byF_fine (numF_fine hb)
end Go.Proofs.Ytjpkhefegpbooaa
