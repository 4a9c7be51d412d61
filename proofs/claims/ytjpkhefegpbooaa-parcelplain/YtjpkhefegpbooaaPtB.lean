/- Take of put: what a parcel's bytes tell is the parcel, plain. -/
import Derived.Test.YtjpkhefegpbooaaPtO
import Derived.Test.YtjpkhefegpbooaaSpBackM
import Derived.Test.YtjpkhefegpbooaaPp4
namespace Go.Proofs.Ytjpkhefegpbooaa

theorem numF_put {n lim : Nat} (hn : n ≤ lim) (hl : lim ≤ 1099511627776) (xs zs : List Nat) : numF (xs ++ lebs [n] ++ zs) lim ⟨(xs.length : Int), 0⟩ = (n, ⟨((xs ++ lebs [n]).length : Int), 0⟩) := by
  have h := Leb.take_put n (by omega) xs zs
  have e : lebs [n] = Leb.leb n := by simp [lebs]
  rw [e, numF_ok rfl h (by omega), List.length_append]
theorem byF_put (b xs zs : List Nat) : byF (xs ++ b ++ zs) b.length ⟨(xs.length : Int), 0⟩ = (b, ⟨((xs ++ b).length : Int), 0⟩) := by
  rw [byF_ok rfl (by simp only [List.length_append]; omega)]
  simp
theorem spF_put {l : List Sp} (h : rightB Sp.zr l = true) (hl : ¬ 256 < l.length) (xs zs : List Nat) : spF (xs ++ putT l ++ zs) ⟨(xs.length : Int), 0⟩ = (l, ⟨((xs ++ putT l).length : Int), 0⟩) := by
  rw [spF_ok rfl]
  simp only
  rw [takeM_put xs zs h hl]
  simp
theorem itF_put {q : It} (h : ItFit q) (xs zs : List Nat) : itF (xs ++ putI q ++ zs) ⟨(xs.length : Int), 0⟩ = (q, ⟨((xs ++ putI q).length : Int), 0⟩) := by
  obtain ⟨t, f, b⟩ := q
  obtain ⟨⟨h1, h2⟩, ⟨h3, h4⟩, h5⟩ := h
  simp only at h1 h2 h3 h4 h5
  obtain ⟨tn, rfl⟩ := Int.eq_ofNat_of_zero_le h1
  obtain ⟨fn, rfl⟩ := Int.eq_ofNat_of_zero_le h3
  have e : putI ⟨(tn : Int), (fn : Int), b⟩ = lebs [tn] ++ lebs [fn] ++ lebs [b.length] ++ b := by simp [putI, lebs]
  have a1 := numF_put (n := tn) (lim := 1099511627776) (by omega) (by omega) xs (lebs [fn] ++ lebs [b.length] ++ b ++ zs)
  have a2 := numF_put (n := fn) (lim := 4294967295) (by omega) (by omega) (xs ++ lebs [tn]) (lebs [b.length] ++ b ++ zs)
  have a3 := numF_put (n := b.length) (lim := 400) (by omega) (by omega) (xs ++ lebs [tn] ++ lebs [fn]) (b ++ zs)
  have a4 := byF_put b (xs ++ lebs [tn] ++ lebs [fn] ++ lebs [b.length]) zs
  simp only [List.append_assoc] at a1 a2 a3 a4
  simp only [itF, e, List.append_assoc, a1, a2, a3, a4]
theorem itsF_put : ∀ (l : List It) (acc : List It) (xs zs : List Nat), (∀ q ∈ l, ItFit q) → itsF (xs ++ putIs l ++ zs) l.length acc ⟨(xs.length : Int), 0⟩ = (acc ++ l, ⟨((xs ++ putIs l).length : Int), 0⟩)
  | [], acc, xs, zs, _ => by simp [itsF, putIs]
  | q :: l, acc, xs, zs, h => by
    have h1 := itF_put (h q (by simp)) xs (putIs l ++ zs)
    have h2 := itsF_put l (acc ++ [q]) (xs ++ putI q) zs (fun x hx => h x (by simp [hx]))
    rw [putIs_cons', List.length_cons, itsF]
    simp only [List.append_assoc] at h1 h2 ⊢
    rw [h1]
    simp only
    rw [h2]
    simp
theorem itemsF_put {l : List It} (hl : l.length ≤ 8) (h : ∀ q ∈ l, ItFit q) (xs zs : List Nat) : itemsF (xs ++ (lebs [l.length] ++ putIs l) ++ zs) ⟨(xs.length : Int), 0⟩ = (l, ⟨((xs ++ (lebs [l.length] ++ putIs l)).length : Int), 0⟩) := by
  have h1 := numF_put (n := l.length) (lim := 8) hl (by omega) xs (putIs l ++ zs)
  have h2 := itsF_put l [] (xs ++ lebs [l.length]) zs h
  unfold itemsF
  simp only [List.append_assoc, List.nil_append] at h1 h2 ⊢
  rw [h1]
  simp only
  rw [h2]
end Go.Proofs.Ytjpkhefegpbooaa
