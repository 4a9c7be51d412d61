/- Parts are joined: octet.Join, for every parts. -/
import Derived.Test.YtbhljlafijdodabPut
import Derived.Test.YtbhljlafijdodabTexts
namespace Go.Proofs.Ytbhljlafijdodab
open Go.RowKit

/-- A part: where it lies, and what it is. -/
structure Pt where
  a : Option Addr
  l : Nat
  c : Nat
  bs : List Nat
/-- A slice of slices of bytes, by its address and length. -/
structure Parts (w : World) (a : Option Addr) (n : Nat) (ps : List Pt) : Prop where
  size : ps.length = n
  cells : n = 0 ∨ ∃ b off, a = some ⟨b, off, none⟩ ∧ b < w.heap.size ∧ ∀ i p, ps[i]? = some p → w.cell? ⟨b, off + i, none⟩ = some (.slice p.a p.l p.c)
  body : ∀ p ∈ ps, Rd w p.a p.l p.bs ∧ (p.a = none → p.c = 0)

theorem Parts.below {w w' : World} {a : Option Addr} {n : Nat} {ps : List Pt} (h : Parts w a n ps) (hb : Below w.heap.size w w') : Parts w' a n ps := by
  refine ⟨h.size, ?_, fun p hp => ⟨(h.body p hp).1.below hb, (h.body p hp).2⟩⟩
  rcases h.cells with h0 | ⟨b, off, ha, hlt, hc⟩
  · exact .inl h0
  · refine .inr ⟨b, off, ha, Nat.lt_of_lt_of_le hlt hb.size, fun i p hi => ?_⟩
    rw [hb.cell (p := ⟨b, off + i, none⟩) hlt]
    exact hc i p hi

namespace JoinM
def one (bs : List Nat) : List Nat := Leb.leb bs.length ++ bs
def body (l : List (List Nat)) : List Nat := l.flatMap one
/-- Parts, one behind the other, each behind its length. -/
def join (l : List (List Nat)) : List Nat := Leb.leb l.length ++ body l
theorem body_snoc (l : List (List Nat)) (b : List Nat) : body (l ++ [b]) = body l ++ one b := by simp [body]
theorem one_length (b : List Nat) (h : b.length ≤ 4096) : 1 ≤ (one b).length ∧ (one b).length ≤ 4106 := by
  have := Leb.leb_length b.length
  simp only [one, List.length_append]
  omega
theorem one_byte (b : List Nat) (h : b.length ≤ 4096) (hb : ∀ x ∈ b, x < 256) : ∀ x ∈ one b, x < 256 := by
  intro x hx
  rcases List.mem_append.1 hx with hx | hx
  · exact Leb.leb_byte _ (by omega) x hx
  · exact hb x hx
end JoinM

def Pt.dat (p : Pt) : List Nat := p.bs

theorem octet_Join_many (a : Option Addr) (n cap : Nat) (w : World) (hn : 64 < n) (hm : n ≤ 9223372036854775807) :
    Calls Try.prog 6 #[.slice a n cap] w fun e w' => e = .returned (.tuple #[.slice none 0 0, .int .i64 6]) ∧ w' = w := by
  go_enter Try.func6, Try.ntmps6
  go_wp2
  go_ret2
  exact ⟨rfl, rfl⟩

set_option maxHeartbeats 1000000 in
theorem octet_Join_long (a : Option Addr) (n cap : Nat) (ps : List Pt) (w : World) (hp : Parts w a n ps) (hn : n ≤ 64) (hlen : ∀ p ∈ ps, p.l ≤ 9223372036854775807) (hlong : ∃ p ∈ ps, 4096 < p.l) :
    Calls Try.prog 6 #[.slice a n cap] w fun e w' => e = .returned (.tuple #[.slice none 0 0, .int .i64 6]) ∧ w' = w := by
  obtain ⟨p0, hp0, hl0⟩ := hlong
  have hn0 : n ≠ 0 := by
    intro h
    have := hp.size
    rw [h] at this
    rw [List.eq_nil_of_length_eq_zero this] at hp0
    cases hp0
  obtain ⟨b, off, rfl, hb, hc⟩ : ∃ b off, a = some ⟨b, off, none⟩ ∧ b < w.heap.size ∧ ∀ i p, ps[i]? = some p → w.cell? ⟨b, off + i, none⟩ = some (.slice p.a p.l p.c) := by
    rcases hp.cells with h | h
    · exact absurd h hn0
    · exact h
  have HC : Hid (∀ i p, ps[i]? = some p → w.cell? ⟨b, off + i, none⟩ = some (.slice p.a p.l p.c)) := hc
  have HL : Hid (ps.length = n) := hp.size
  have HLN : Hid (∀ p ∈ ps, p.l ≤ 9223372036854775807) := hlen
  have HEX : Hid (∃ p ∈ ps, 4096 < p.l) := ⟨p0, hp0, hl0⟩
  clear hc hp hlen hp0 hl0 hn0
  go_enter Try.func6, Try.ntmps6
  go_wp2
  go_loop [14] (fun t14 => ∃ k : Nat, k ≤ n ∧ t14 = .int .i64 (k : Int) ∧ Hid (∀ i p, i < k → ps[i]? = some p → p.l ≤ 4096)) (fun t14 => n - (intOf t14).toNat)
  case atStart => exact ⟨0, by omega, rfl, fun i p hi => by omega⟩
  case round =>
    obtain ⟨k, hk, rfl, HK⟩ := hrel
    by_cases hlt : k < n
    · have hlt' : (k : Int) < (n : Int) := by omega
      obtain ⟨p, hp⟩ : ∃ p, ps[k]? = some p := ⟨_, List.getElem?_eq_getElem (by rw [HL.out]; exact hlt)⟩
      have hcx := HC.out k p hp
      have hpl := HLN.out p (List.mem_of_getElem? hp)
      have HK' : Hid (p.l ≤ 4096 → ∀ i q, i < k + 1 → ps[i]? = some q → q.l ≤ 4096) := by
        intro hple i q hi hq
        by_cases he : i = k
        · subst he
          rw [hp] at hq
          cases hq
          exact hple
        · exact HK.out i q (by omega) hq
      obtain ⟨pa, pl, pc, pb⟩ := p
      simp only at hcx hpl HK'
      clear hp
      by_cases hple : pl ≤ 4096
      · have hx : ¬ 4096 < (pl : Int) := by omega
        go_wp2
        go_round
        case rel => exact ⟨k + 1, by omega, by go_num, HK'.out hple⟩
        case measure => simp [intOf]; omega
      · have hx : 4096 < (pl : Int) := by omega
        go_wp2
        go_ret2
        exact ⟨rfl, rfl⟩
    · obtain ⟨p, hp, hpl⟩ := HEX.out
      obtain ⟨i, hi, rfl⟩ := List.getElem_of_mem hp
      have := HK.out i ps[i] (by rw [HL.out] at hi; omega) (List.getElem?_eq_getElem hi)
      omega

set_option maxRecDepth 100000 in
set_option maxHeartbeats 1000000 in
theorem octet_Join (a : Option Addr) (n cap : Nat) (ps : List Pt) (w : World) (hp : Parts w a n ps) (hn : n ≤ 64) (hlen : ∀ p ∈ ps, p.l ≤ 4096) :
    Calls Try.prog 6 #[.slice a n cap] w fun e w' => ∃ a' m c', e = .returned (.tuple #[.slice a' m c', .int .i64 0]) ∧ a' ≠ none ∧ Own w' w.heap.size a' m c' (JoinM.join (ps.map Pt.dat)) ∧ m ≤ 10 + n * 4106 ∧ Below w.heap.size w w' := by
  have HP : Hid (Parts w a n ps) := hp
  have HL : Hid (ps.length = n) := hp.size
  have HLN : Hid (∀ p ∈ ps, p.l ≤ 4096) := hlen
  by_cases hn0 : n = 0
  · subst hn0
    have hnil : ps = [] := List.eq_nil_of_length_eq_zero hp.size
    subst hnil
    clear hp hlen
    go_enter Try.func6, Try.ntmps6
    go_wp2
    refine wp_loop_rounds 1 ?_
    rw [rounds_succ]
    go_wp2_with fail
    refine (octet_Uint 0 (by omega) w).mono ?_
    rintro e w1 ⟨a1, c1, rfl, hne, ho1, hb1⟩
    have HO1 : Hid (Own w1 w.heap.size a1 (Leb.leb 0).length c1 (Leb.leb 0)) := ho1
    have HB1 : Hid (Below w.heap.size w w1) := hb1
    clear ho1 hb1
    go_wp2
    refine wp_loop_rounds 1 ?_
    rw [rounds_succ]
    go_wp2
    go_ret2
    exact ⟨a1, _, c1, rfl, hne, by simpa [JoinM.join, JoinM.body] using HO1.out, by have := Leb.leb_length 0; omega, HB1.out⟩
  · obtain ⟨b, off, rfl, hb, hc⟩ : ∃ b off, a = some ⟨b, off, none⟩ ∧ b < w.heap.size ∧ ∀ i p, ps[i]? = some p → w.cell? ⟨b, off + i, none⟩ = some (.slice p.a p.l p.c) := by
      rcases hp.cells with h | h
      · exact absurd h hn0
      · exact h
    have HC : Hid (∀ i p, ps[i]? = some p → w.cell? ⟨b, off + i, none⟩ = some (.slice p.a p.l p.c)) := hc
    clear hc hp hlen
    go_enter Try.func6, Try.ntmps6
    go_wp2
    go_loop [14] (fun t14 => ∃ k : Nat, k ≤ n ∧ t14 = .int .i64 (k : Int)) (fun t14 => n - (intOf t14).toNat)
    case atStart => exact ⟨0, by omega, rfl⟩
    case round =>
      obtain ⟨k, hk, rfl⟩ := hrel
      by_cases hlt : k < n
      · have hlt' : (k : Int) < (n : Int) := by omega
        obtain ⟨p, hp⟩ : ∃ p, ps[k]? = some p := ⟨_, List.getElem?_eq_getElem (by rw [HL.out]; exact hlt)⟩
        have hcx := HC.out k p hp
        have hpl := HLN.out p (List.mem_of_getElem? hp)
        obtain ⟨pa, pl, pc, pb⟩ := p
        simp only at hcx hpl
        clear hp
        have hx : ¬ 4096 < (pl : Int) := by omega
        go_wp2
        go_round
        case rel => exact ⟨k + 1, by omega, by go_num⟩
        case measure => simp [intOf]; omega
      · have hnl : ¬ (k : Int) < (n : Int) := by omega
        go_wp2_with fail
        refine (octet_Uint n (by omega) w).mono ?_
        rintro e w1 ⟨a1, c1, rfl, hne, ho1, hb1⟩
        have HO1 : Hid (Own w1 w.heap.size a1 (Leb.leb n).length c1 (Leb.leb n)) := ho1
        have HB1 : Hid (Below w.heap.size w w1) := hb1
        have hll := Leb.leb_length n
        obtain ⟨m1, HM1⟩ : ∃ m1, Hid (m1 = (Leb.leb n).length) := ⟨_, rfl⟩
        rw [← HM1.out] at HO1 hll
        rw [← HM1.out]
        clear ho1 hb1
        go_wp2
        go_loopw [6, 28] (fun t6 t28 wr => ∃ (j m c : Nat) (x : Option Addr), j ≤ n ∧ t28 = .int .i64 (j : Int) ∧ t6 = .slice x m c ∧ x ≠ none ∧ m ≤ 10 + j * 4106 ∧ Hid (Own wr w.heap.size x m c (Leb.leb n ++ JoinM.body ((ps.take j).map Pt.dat))) ∧ Hid (Below w.heap.size w wr)) (fun _ t28 _ => n - (intOf t28).toNat)
        case atStart => exact ⟨0, m1, c1, a1, by omega, rfl, rfl, hne, by omega, (by show Own _ _ _ _ _ _; simpa [JoinM.body] using HO1.out), HB1⟩
        case round =>
          obtain ⟨j, m, c, x, hj, rfl, rfl, hxn, hm, HO, HB⟩ := hrel
          by_cases hjl : j < n
          · have hjl' : (j : Int) < (n : Int) := by omega
            obtain ⟨p, hp⟩ : ∃ p, ps[j]? = some p := ⟨_, List.getElem?_eq_getElem (by rw [HL.out]; exact hjl)⟩
            have hcx : wr.cell? ⟨b, off + j, none⟩ = some (.slice p.a p.l p.c) := (HB.out.cell (p := ⟨b, off + j, none⟩) hb).trans (HC.out j p hp)
            have hpl := HLN.out p (List.mem_of_getElem? hp)
            have HRP : Hid (Rd w p.a p.l p.bs) := (HP.out.body p (List.mem_of_getElem? hp)).1
            have hpn := (HP.out.body p (List.mem_of_getElem? hp)).2
            have HTK : Hid (ps.take (j + 1) = ps.take j ++ [p]) := by
              show _ = _
              rw [List.take_add_one, hp]
              rfl
            obtain ⟨pa, pl, pc, pb⟩ := p
            simp only at hcx hpl HRP hpn
            have HPB : Hid (pb.length = pl) := HRP.out.size
            clear hp
            go_wp2_with fail
            refine (octet_putUint pl (by omega) w.heap.size x m c _ wr HO.out HB.out.size (by have : j * 4106 ≤ 64 * 4106 := Nat.mul_le_mul_right _ (by omega); omega)).mono ?_
            rintro e w2 ⟨a2, c2, rfl, hn2, ho2, hb2⟩
            have hll2 := Leb.leb_length pl
            obtain ⟨m2, HM2⟩ : ∃ m2, Hid (m2 = (Leb.leb pl).length) := ⟨_, rfl⟩
            rw [← HM2.out] at ho2 hll2
            rw [← HM2.out]
            have HO2 : Hid (Own w2 w.heap.size a2 (m + m2) c2 (Leb.leb n ++ JoinM.body ((ps.take j).map Pt.dat) ++ Leb.leb pl)) := ho2
            have HB2 : Hid (Below w.heap.size w w2) := HB.out.trans hb2
            clear ho2 hb2
            have hjm : j * 4106 ≤ 64 * 4106 := Nat.mul_le_mul_right _ (by omega)
            go_wp2_with (at_builtin; refine wpList_append_rd (by rfl) (.tmp 37) (.tmp 38) (by rfl) w.heap.size a2 (m + m2) c2 _ (by rfl) HO2.out pa pl pc pb (by rfl) (HRP.out.below HB2.out) hpn (by omega) HB2.out.size ?_)
            intro a3 c3 w3 hown3 hgrow3 hbel3
            have HO3 : Hid (Own w3 w.heap.size a3 (m + m2 + pl) c3 (Leb.leb n ++ JoinM.body ((ps.take (j + 1)).map Pt.dat))) := by
              have h : Own w3 w.heap.size a3 (m + m2 + pl) c3 (Leb.leb n ++ JoinM.body ((ps.take j).map Pt.dat) ++ Leb.leb pl ++ pb) := by simpa using hown3
              show Own _ _ _ _ _ _
              rw [HTK.out, List.map_append, List.map_singleton, JoinM.body_snoc]
              have e : Leb.leb n ++ JoinM.body ((ps.take j).map Pt.dat) ++ Leb.leb pl ++ pb = Leb.leb n ++ (JoinM.body ((ps.take j).map Pt.dat) ++ JoinM.one (Pt.dat ⟨pa, pl, pc, pb⟩)) := by
                show _ = Leb.leb n ++ (JoinM.body ((ps.take j).map Pt.dat) ++ (Leb.leb pb.length ++ pb))
                rw [HPB.out]
                simp
              rw [← e]
              exact h
            have HB3 : Hid (Below w.heap.size w w3) := HB2.out.trans hbel3
            have hn3 : a3 ≠ none := HO3.out.some (by omega)
            clear hown3 hgrow3 hbel3
            go_wp2
            go_roundw
            case rel => exact ⟨j + 1, m + m2 + pl, c3, a3, by omega, by go_num, rfl, hn3, by rw [Nat.add_mul]; omega, HO3, HB3⟩
            case measure => simp [intOf]; omega
          · have hjn : ¬ (j : Int) < (n : Int) := by omega
            go_wp2
            go_ret2
            have ej : ps.take j = ps := List.take_of_length_le (by rw [HL.out]; omega)
            have h := HO.out
            rw [ej] at h
            refine ⟨x, m, c, rfl, hxn, ?_, Nat.le_trans hm (Nat.add_le_add_left (Nat.mul_le_mul_right _ hj) _), HB.out⟩
            have e : JoinM.join (ps.map Pt.dat) = Leb.leb n ++ JoinM.body (ps.map Pt.dat) := by unfold JoinM.join; rw [List.length_map, HL.out]
            rw [e]
            exact h
end Go.Proofs.Ytbhljlafijdodab
