/- The calls of one link, for LinkBounds. -/
import Derived.Test.YtbloomepdchjhaaDoorLbP
import Derived.Test.YtbloomepdchjhaaDoorLbQ
namespace Go.Proofs.YtbloomepdchjhaaDoor
open Go.RowKit

/-- A link of a queue of n, with what waits in it. -/
def LbS (w : World) (B g la : Nat) (n : Int) (L : List (Wt × Bd)) : Prop := ∃ v l ot gr, LkIn w B g v L l ∧ Nums l ot gr ∧ ot ≤ 1073741824 ∧ l.last = (la : Int) ∧ l.life = 1 ∧ l.queue = n ∧ (L.length : Int) ≤ n ∧ ∀ x ∈ L, x.1.rest.length ≤ 3831
theorem LbS.below {w w' : World} {B g la : Nat} {n : Int} {L : List (Wt × Bd)} (h : LbS w B g la n L) (hb : Below w.heap.size w w') : LbS w' B g la n L := by
  obtain ⟨v, l, ot, gr, h1, h2⟩ := h
  exact ⟨v, l, ot, gr, h1.below hb, h2⟩
theorem lb_fr {w w' : World} {B g : Nat} {v : Value} {L : List (Wt × Bd)} {l : Lk} (h : LkIn w B g v L l) (hg : B ≤ g) (hf : Fr w w' g v) : Below B w w' := hf.below hg (fun k hk => (h.row.lt k hk).1) h.bg
theorem lb_send {w : World} {B g : Nat} {n : Int} {L : List (Wt × Bd)} (h : LbS w B g 0 n L) (hg : B ≤ g) (hn : n ≤ 32) (p : Pc) (sa : Option Addr) (sn sc : Nat) (ia : Option Addr) (im ic : Nat) (hp : PcRd w p sa sn sc ia im ic) :
    Calls Tryd.prog 7 #[.pointer (some ⟨g, 0, none⟩), p.val sa sn sc ia im ic] w fun e w' => (∃ r : Int, e = .returned (.int .i64 r) ∧ ((r = 0 ∧ (L.length : Int) < n ∧ Hid (∃ L', L'.length = L.length + 1 ∧ LbS w' B g 0 n L')) ∨ (r ≠ 0 ∧ Hid (LbS w' B g 0 n L)))) ∧ Hid (Below B w w') := by
  obtain ⟨v, l, ot, gr, h1, h2, h3, h4, h5, h6, h7, h8⟩ := h
  by_cases hc : chk p = 0
  · by_cases hl : (L.length : Int) < n
    · refine (lk_Send_ok w B g v L l h1 p sa sn sc ia im ic hp hc (by rw [h6]; exact hl) (by omega)).mono ?_
      rintro e w' ⟨rfl, H, hf⟩
      obtain ⟨v', b, h9⟩ := H.out
      refine ⟨⟨0, rfl, .inl ⟨rfl, hl, ⟨_, by simp, v', l, ot, gr, h9, h2, h3, h4, h5, h6, by simp; omega, fun x hx => ?_⟩⟩⟩, lb_fr h1 hg hf⟩
      rcases List.mem_append.1 hx with hx | hx
      · exact h8 x hx
      · rw [List.mem_singleton.1 hx]
        exact putD_short hp.items.each
    · refine (lk_Send_full w B g v L l h1 p sa sn sc ia im ic hp hc (by omega)).mono ?_
      rintro e w' ⟨rfl, hb⟩
      exact ⟨⟨9, rfl, .inr ⟨by decide, ⟨v, l, ot, gr, h1.below hb, h2, h3, h4, h5, h6, h7, h8⟩⟩⟩, hb.mono h1.bg⟩
  · refine (lk_Send_bad w B g v L l h1 p sa sn sc ia im ic hp hc).mono ?_
    rintro e w' ⟨rfl, hb⟩
    exact ⟨⟨chk p, rfl, .inr ⟨hc, ⟨v, l, ot, gr, h1.below hb, h2, h3, h4, h5, h6, h7, h8⟩⟩⟩, hb.mono h1.bg⟩
theorem lb_probe {w : World} {B g : Nat} {n : Int} {L : List (Wt × Bd)} (h : LbS w B g 0 n L) (hg : B ≤ g) (hn : n ≤ 32) :
    Calls Tryd.prog 14 #[.pointer (some ⟨g, 0, none⟩)] w fun e w' => (∃ x, e = .returned x) ∧ Hid (∃ L', LbS w' B g 0 n L') ∧ Hid (Below B w w') := by
  obtain ⟨v, l, ot, gr, h1, h2, h3, h4, h5, h6, h7, h8⟩ := h
  by_cases hl : (L.length : Int) < n
  · refine (lk_Probe_ok w B g v L l h1 (by rw [h6]; exact hl) (by omega)).mono ?_
    rintro e w' ⟨rfl, H, hf⟩
    obtain ⟨v', h9⟩ := H.out
    refine ⟨⟨_, rfl⟩, ⟨_, v', l, ot, gr, h9, h2, h3, h4, h5, h6, by simp; omega, fun x hx => ?_⟩, lb_fr h1 hg hf⟩
    rcases List.mem_append.1 hx with hx | hx
    · exact h8 x hx
    · rw [List.mem_singleton.1 hx]; simp
  · refine (lk_Probe_full w B g v L l h1 (by omega)).mono ?_
    rintro e w' ⟨h9, hb⟩
    exact ⟨h9, ⟨L, v, l, ot, gr, h1.below hb, h2, h3, h4, h5, h6, h7, h8⟩, hb.mono h1.bg⟩
theorem lb_take {w : World} {B g : Nat} {n : Int} {L : List (Wt × Bd)} (h : LbS w B g 0 n L) (hg : B ≤ g) (hn : n ≤ 32) (ht : Tab w) (h0 : 0 < w.heap.size) (k u0 u1 u2 : Nat) (hk : k < 256) (hu : u0 < 18446744073709551616 ∧ u1 < 18446744073709551616 ∧ u2 < 18446744073709551616) (p : Pc) (he : ∀ q ∈ p.items, ((-9223372036854775808 : Int) ≤ q.tick ∧ q.tick ≤ 9223372036854775807) ∧ (0 ≤ q.for_ ∧ q.for_ ≤ 4294967295))
    (a : Option Addr) (m c : Nat) (hr : Rd w a m (SealM.sealed k (lebs [u0, u1, u2] ++ rest14 k p))) (hnc : m ≤ c) :
    Calls Tryd.prog 10 #[.pointer (some ⟨g, 0, none⟩), .slice a m c, .int .i64 3] w fun e w' => (∃ x, e = .returned x) ∧ Hid (∃ L', LbS w' B g 0 n L') ∧ Hid (Below B w w') := by
  obtain ⟨v, l, ot, gr, h1, h2, h3, h4, h5, h6, h7, h8⟩ := h
  refine (on_frame h1 h2 h3 (by omega) ht h0 k u0 u1 u2 hk hu p he a m c hr hnc).mono ?_
  rintro e w' ⟨hx, H, hf⟩
  obtain ⟨v', L', l', ot', gr', k1, k2, k3, k4, k5, k6, k7⟩ := H.out
  refine ⟨hx, ⟨L', v', l', ot', gr', k1, k2, k3, k4.trans h4, k5.trans h5, k6.trans h6, ?_, fun x hx => ?_⟩, lb_fr h1 hg hf.out⟩
  · rcases k7 with rfl | ⟨rfl, k8⟩
    · exact h7
    · simp; omega
  · rcases k7 with rfl | ⟨rfl, k8⟩
    · exact h8 x hx
    · rcases List.mem_append.1 hx with hx | hx
      · exact h8 x hx
      · rw [List.mem_singleton.1 hx]; simp
theorem lb_waits {w : World} {B g la : Nat} {n : Int} {L : List (Wt × Bd)} (h : LbS w B g la n L) : Calls Tryd.prog 13 #[.pointer (some ⟨g, 0, none⟩)] w fun e w' => e = .returned (.int .i64 (L.length : Int)) ∧ w' = w := by
  obtain ⟨v, l, ot, gr, h1, _⟩ := h
  exact lk_Waits w B g v L l h1
theorem lb_pull {w : World} {B g la : Nat} {n : Int} {x : Wt × Bd} {T : List (Wt × Bd)} (h : LbS w B g la n (x :: T)) (hg : B ≤ g) (hla : la ≤ 1000) (ht : Tab w) (hb0 : 0 < B) :
    Calls Tryd.prog 9 #[.pointer (some ⟨g, 0, none⟩)] w fun e w' => ∃ (ba : Option Addr) (bn bc : Nat), e = .returned (.tuple #[.slice ba bn bc, .bool true]) ∧ 8 ≤ bn ∧ Hid (LbS w' B g (la + 1) n T) ∧ Hid (Below B w w') := by
  obtain ⟨v, l, ot, gr, h1, h2, h3, h4, h5, h6, h7, h8⟩ := h
  obtain ⟨gv, c, hv, _⟩ := h1.form (m := T.length) rfl
  subst hv
  have h30 : (lebs [1, ot, la + 1]).length ≤ 30 := by have h5 := lebs_len [1, ot, la + 1]; simpa using h5
  have hx := h8 x List.mem_cons_self
  refine (lk_Pull_ok2 w B g gv T.length c x T l h1 rfl 1 ot la h5 h2.o h4 (by omega) (by omega) (by omega) (by omega) ht (Nat.lt_of_lt_of_le hb0 h1.bg) hb0 (Nat.lt_of_lt_of_le hb0 hg)).mono ?_
  rintro e w' ⟨⟨gf, he, _⟩, HL, hf⟩
  refine ⟨_, _, _, he, by omega, ⟨_, _, ot, gr, HL.out, ⟨h2.o, h2.g, h2.gb, h2.b⟩, h3, by simp, h5, h6, by simp at h7; omega, fun y hy => h8 y (List.mem_cons_of_mem _ hy)⟩, lb_fr h1 hg hf⟩
theorem lb_pull_none {w : World} {B g la : Nat} {n : Int} (h : LbS w B g la n []) : Calls Tryd.prog 9 #[.pointer (some ⟨g, 0, none⟩)] w fun e w' => e = .returned (.tuple #[.slice none 0 0, .bool false]) ∧ w' = w := by
  obtain ⟨v, l, ot, gr, h1, _⟩ := h
  exact lk_Pull_none w B g v l h1
end Go.Proofs.YtbloomepdchjhaaDoor
