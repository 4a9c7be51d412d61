/- How many bytes a right parcel has. -/
import Derived.Test.YtjpkhefegpbooaaPtB2
namespace Go.Proofs.Ytjpkhefegpbooaa

theorem leb_short : ∀ (k j n : Nat), n < 128 ^ (k + 1) → (Leb.put j n).length ≤ k + 1
  | 0, j, n, h => by
    rw [Leb.put_small j n (by simpa using h)]
    simp
  | k + 1, j, n, h => by
    by_cases h2 : n < 128
    · rw [Leb.put_small j n h2]
      simp
    · cases j with
      | zero =>
        have := (Leb.put_length 0 n).2
        omega
      | succ j =>
        rw [Leb.put_big j n (by omega), List.length_cons]
        have := leb_short k j (n / 128) (by rw [Nat.pow_succ] at h; omega)
        omega
theorem leb_6 {n : Nat} (h : n ≤ 1099511627776) : (Leb.leb n).length ≤ 6 := leb_short 5 9 n (by omega)
theorem leb_5 {n : Nat} (h : n ≤ 4294967295) : (Leb.leb n).length ≤ 5 := leb_short 4 9 n (by omega)
theorem leb_2 {n : Nat} (h : n ≤ 400) : (Leb.leb n).length ≤ 2 := leb_short 1 9 n (by omega)
theorem lebs_6 {n : Nat} (h : n ≤ 1099511627776) : (lebs [n]).length ≤ 6 := by rw [show lebs [n] = Leb.leb n from by simp [lebs]]; exact leb_6 h
theorem putS_13 : ∀ (l : List Sp) (p : Sp), RightS p l → 0 ≤ p.to → (putS p.to l).length ≤ 13 * l.length
  | [], _, _, _ => by simp [putS]
  | s :: l, p, h, h0 => by
    obtain ⟨h1, h2, h3, h4, h5, _, h7⟩ := h
    have h8 := putS_13 l s h7 (by omega)
    have a := leb_6 (n := (s.fr - p.to - 1).toNat) (by omega)
    have b := leb_6 (n := (s.to - s.fr).toNat) (by omega)
    rw [putS, List.length_append, oneS, List.length_append, List.length_append, List.length_cons]
    simp only [List.length_cons, List.length_nil]
    omega
theorem putI_413 {q : It} (h : ItFit q) : (putI q).length ≤ 413 := by
  have a := leb_6 (n := q.tick.toNat) (by have := h.1; omega)
  have b := leb_5 (n := q.for_.toNat) (by have := h.2.1; omega)
  have c := leb_2 h.2.2
  have e : (putI q).length = (Leb.leb q.tick.toNat).length + (Leb.leb q.for_.toNat).length + (Leb.leb q.body.length).length + q.body.length := by simp [putI, lebs]; omega
  have := h.2.2
  omega
theorem putIs_413 : ∀ (l : List It), (∀ q ∈ l, ItFit q) → (putIs l).length ≤ 413 * l.length
  | [], _ => by simp [putIs]
  | q :: l, h => by
    rw [putIs_cons', List.length_append, List.length_cons]
    have h1 := putI_413 (h q (by simp))
    have h2 := putIs_413 l fun x hx => h x (by simp [hx])
    omega
theorem putP_len {p : Pc} (h : chk p = 0) (hi : newsB p.kind = true → ∀ q ∈ p.items, ItFit q) : (putP p).length ≤ 4096 := by
  obtain ⟨h1, ha, hb, hd, he⟩ := chk_facts h
  have hz := (chk_zero h).2.2
  have e : putP p = [p.kind.toNat] ++ (lebs [p.pub.toNat] ++ ((if subB p.kind = true then lebs [p.sub.toNat] ++ lebs [p.n_.toNat] else []) ++ ((if fromB p.kind = true then lebs [p.fr.toNat] else []) ++ ((if toB p.kind = true then lebs [p.to_.toNat] else []) ++ (if newsB p.kind = true then putT p.spans ++ (lebs [p.items.length] ++ putIs p.items) else []))))) := by
    unfold putP
    cases subB p.kind <;> simp [lebs]
  have k1 := lebs_6 (n := p.pub.toNat) (by omega)
  have k2 : (if subB p.kind = true then lebs [p.sub.toNat] ++ lebs [p.n_.toNat] else []).length ≤ 12 := by
    split
    · rename_i hx
      have a := lebs_6 (n := p.sub.toNat) (by have := (hb hx).1; omega)
      have b := lebs_6 (n := p.n_.toNat) (by have := (hb hx).2; omega)
      rw [List.length_append]
      omega
    · simp
  have k3 : (if fromB p.kind = true then lebs [p.fr.toNat] else []).length ≤ 6 := by
    split
    · rename_i hx
      exact lebs_6 (by have := hd hx; omega)
    · simp
  have k4 : (if toB p.kind = true then lebs [p.to_.toNat] else []).length ≤ 6 := by
    split
    · rename_i hx
      exact lebs_6 (by have := he hx; omega)
    · simp
  have k5 : (if newsB p.kind = true then putT p.spans ++ (lebs [p.items.length] ++ putIs p.items) else []).length ≤ 3800 := by
    split
    · rename_i hx
      obtain ⟨z1, z2, _⟩ := hz hx
      have hr : rightB Sp.zr p.spans = true := by
        unfold spB at z2
        exact (Bool.and_eq_true _ _ ▸ z2).2
      have t1 := (put_ok hr (by omega)).2
      have t2 := putS_13 p.spans Sp.zr ((rightB_iff _ _).1 hr) (by decide)
      have t3 := leb_2 (n := p.spans.length) (by omega)
      have t4 := lebs_6 (n := p.items.length) (by omega)
      have t5 := putIs_413 p.items (hi hx)
      rw [t1, List.length_append, List.length_append, List.length_append]
      have t6 : (putS 0 p.spans).length ≤ 13 * p.spans.length := t2
      omega
    · simp
  rw [e]
  simp only [List.length_append, List.length_cons, List.length_nil] at k2 ⊢
  omega
end Go.Proofs.Ytjpkhefegpbooaa
