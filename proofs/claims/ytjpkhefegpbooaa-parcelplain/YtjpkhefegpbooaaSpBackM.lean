/- A map's bytes are taken as the map, whatever stands around. -/
import Derived.Test.YtjpkhefegpbooaaSpTakeL
import Derived.Test.YtjpkhefegpbooaaSpPutM
namespace Go.Proofs.Ytjpkhefegpbooaa

theorem takeL_put : ∀ (l : List Sp) (p : Sp) (acc : List Sp) (xs zs : List Nat), RightS p l → 0 ≤ p.to → takeL (xs ++ putS p.to l ++ zs) l.length (xs.length : Int) p acc = (acc ++ l, ((xs.length + (putS p.to l).length : Nat) : Int), 0)
  | [], p, acc, xs, zs, _, _ => by simp [takeL, putS]
  | ⟨sf, st, si⟩ :: l, p, acc, xs, zs, ⟨h1, h2, h3, h4, h5, h6, h7⟩, hp => by
    simp only at h1 h2 h3 h4 h5 h6
    obtain ⟨n1, hn1⟩ : ∃ n1 : Nat, sf - p.to - 1 = (n1 : Int) := ⟨(sf - p.to - 1).toNat, by omega⟩
    obtain ⟨n2, hn2⟩ : ∃ n2 : Nat, st - sf = (n2 : Int) := ⟨(st - sf).toNat, by omega⟩
    obtain ⟨n3, hn3⟩ : ∃ n3 : Nat, si = (n3 : Int) := ⟨si.toNat, by omega⟩
    have e : putS p.to (⟨sf, st, si⟩ :: l) = Leb.leb n1 ++ Leb.leb n2 ++ [n3] ++ putS st l := by
      rw [putS, oneS]
      simp only
      rw [hn1, hn2, hn3]
      rfl
    obtain ⟨BS, hBS⟩ : ∃ BS, BS = xs ++ putS p.to (⟨sf, st, si⟩ :: l) ++ zs := ⟨_, rfl⟩
    rw [← hBS]
    have e0 : BS = xs ++ Leb.leb n1 ++ (Leb.leb n2 ++ [n3] ++ putS st l ++ zs) := by rw [hBS, e]; simp only [List.append_assoc]
    have e1 : BS = (xs ++ Leb.leb n1) ++ Leb.leb n2 ++ ([n3] ++ putS st l ++ zs) := by rw [hBS, e]; simp only [List.append_assoc]
    have e2 : BS = (xs ++ Leb.leb n1 ++ Leb.leb n2) ++ n3 :: (putS st l ++ zs) := by rw [hBS, e]; simp only [List.append_assoc, List.singleton_append]; rfl
    have e3 : BS = (xs ++ (Leb.leb n1 ++ Leb.leb n2 ++ [n3])) ++ putS st l ++ zs := by rw [hBS, e]; simp only [List.append_assoc]
    have t1 : Leb.take BS (xs.length : Int) = (n1, xs.length + (Leb.leb n1).length, 0) := by
      rw [e0]
      exact Leb.take_put n1 (by omega) xs _
    have t2 : Leb.take BS ((xs.length + (Leb.leb n1).length : Nat) : Int) = (n2, xs.length + (Leb.leb n1).length + (Leb.leb n2).length, 0) := by
      rw [e1]
      have h := Leb.take_put n2 (by omega) (xs ++ Leb.leb n1) ([n3] ++ putS st l ++ zs)
      rw [List.length_append] at h
      exact h
    have hlen : BS.length = xs.length + (Leb.leb n1).length + (Leb.leb n2).length + (1 + (putS st l ++ zs).length) := by
      rw [e2]
      simp only [List.length_append, List.length_cons]
      omega
    have t3 : BS.getD (xs.length + (Leb.leb n1).length + (Leb.leb n2).length) 0 = n3 := by
      rw [e2, List.getD_eq_getElem?_getD, List.getElem?_append_right (by simp only [List.length_append]; omega)]
      simp only [List.length_append, Nat.sub_self, List.getElem?_cons_zero, Option.getD_some]
    have t4 : takeOne BS (xs.length : Int) p = (⟨sf, st, si⟩, ((xs.length + (Leb.leb n1).length + (Leb.leb n2).length + 1 : Nat) : Int), 0) := by
      rw [one_ok t1 t2 (by omega) ⟨by omega, by rw [t3]; omega, by rw [t3]; rintro ⟨g1, g2⟩; exact h6 ⟨by omega, by omega⟩⟩, t3]
      have es : (⟨p.to + 1 + (n1 : Int), p.to + 1 + n1 + n2, (n3 : Int)⟩ : Sp) = ⟨sf, st, si⟩ := by
        rw [Sp.mk.injEq]
        omega
      rw [es, show ((xs.length + (Leb.leb n1).length + (Leb.leb n2).length : Nat) : Int) + 1 = ((xs.length + (Leb.leb n1).length + (Leb.leb n2).length + 1 : Nat) : Int) from by omega]
    rw [List.length_cons, takeL_ok t4]
    have ih := takeL_put l ⟨sf, st, si⟩ (acc ++ [⟨sf, st, si⟩]) (xs ++ (Leb.leb n1 ++ Leb.leb n2 ++ [n3])) zs h7 (by simp only; omega)
    simp only at ih
    rw [← e3] at ih
    have hx : (xs ++ (Leb.leb n1 ++ Leb.leb n2 ++ [n3])).length = xs.length + (Leb.leb n1).length + (Leb.leb n2).length + 1 := by
      simp only [List.length_append, List.length_cons, List.length_nil]
      omega
    rw [hx] at ih
    rw [ih, e]
    refine Prod.ext (by simp) (Prod.ext ?_ rfl)
    simp only [List.length_append, List.length_cons, List.length_nil]
    omega
theorem takeM_put {l : List Sp} (xs zs : List Nat) (h : rightB Sp.zr l = true) (hl : ¬ 256 < l.length) : takeM (xs ++ putT l ++ zs) (xs.length : Int) = (l, ((xs.length + (putT l).length : Nat) : Int), 0) := by
  have e : putT l = Leb.leb l.length ++ putS 0 l := (put_ok h hl).2
  have e0 : xs ++ putT l ++ zs = xs ++ Leb.leb l.length ++ (putS 0 l ++ zs) := by rw [e]; simp only [List.append_assoc]
  have e1 : xs ++ putT l ++ zs = (xs ++ Leb.leb l.length) ++ putS 0 l ++ zs := by rw [e]; simp only [List.append_assoc]
  have t1 : Leb.take (xs ++ putT l ++ zs) (xs.length : Int) = (l.length, xs.length + (Leb.leb l.length).length, 0) := by
    rw [e0]
    exact Leb.take_put l.length (by omega) xs _
  rw [takeM_3 t1 hl, e1]
  have h2 := takeL_put l Sp.zr [] (xs ++ Leb.leb l.length) zs ((rightB_iff _ _).1 h) (by decide)
  rw [List.length_append] at h2
  rw [show (0 : Int) = Sp.zr.to from rfl, h2, e, List.length_append, show Sp.zr.to = (0 : Int) from rfl]
  refine Prod.ext (by simp) (Prod.ext ?_ rfl)
  simp only
  omega
end Go.Proofs.Ytjpkhefegpbooaa
