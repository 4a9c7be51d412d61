/- Take of put: the whole parcel. -/
import Derived.Test.YtjpkhefegpbooaaPtB
import Derived.Test.YtjpkhefegpbooaaPlM
namespace Go.Proofs.Ytjpkhefegpbooaa

theorem optF_put {b : Bool} {n : Nat} (hn : b = true → n ≤ 1099511627776) (xs zs : List Nat) : optF b (xs ++ (if b = true then lebs [n] else []) ++ zs) ⟨(xs.length : Int), 0⟩ = (if b = true then n else 0, ⟨((xs ++ (if b = true then lebs [n] else [])).length : Int), 0⟩) := by
  cases b with
  | true => exact numF_put (hn rfl) (by omega) xs zs
  | false => simp [optF]
theorem toNat_in {x : Int} {l : Nat} (h0 : 0 ≤ x) (h1 : x ≤ l) : x.toNat ≤ l ∧ ((x.toNat : Nat) : Int) = x := by omega
theorem news_put {b : Bool} {l : List Sp} {m : List It} (h1 : b = true → rightB Sp.zr l = true) (h2 : b = true → ¬ 256 < l.length) (h3 : b = true → m.length ≤ 8) (h4 : b = true → ∀ q ∈ m, ItFit q) (xs : List Nat) :
    (if b = true then spF (xs ++ (if b = true then putT l ++ (lebs [m.length] ++ putIs m) else [])) ⟨(xs.length : Int), 0⟩ else ([], ⟨(xs.length : Int), 0⟩)).1 = (if b = true then l else []) ∧
    (if b = true then itemsF (xs ++ (if b = true then putT l ++ (lebs [m.length] ++ putIs m) else [])) (if b = true then spF (xs ++ (if b = true then putT l ++ (lebs [m.length] ++ putIs m) else [])) ⟨(xs.length : Int), 0⟩ else ([], ⟨(xs.length : Int), 0⟩)).2 else ([], (if b = true then spF (xs ++ (if b = true then putT l ++ (lebs [m.length] ++ putIs m) else [])) ⟨(xs.length : Int), 0⟩ else ([], ⟨(xs.length : Int), 0⟩)).2)) = (if b = true then m else [], ⟨((xs ++ (if b = true then putT l ++ (lebs [m.length] ++ putIs m) else [])).length : Int), 0⟩) := by
  cases b with
  | false => simp
  | true =>
    have a1 := spF_put (h1 rfl) (h2 rfl) xs (lebs [m.length] ++ putIs m)
    have a2 := itemsF_put (h3 rfl) (h4 rfl) (xs ++ putT l) []
    simp only [if_true, List.append_assoc, List.append_nil] at a1 a2 ⊢
    rw [a1]
    simp only
    rw [a2]
    exact ⟨trivial, rfl⟩
theorem chk_facts {p : Pc} (h : chk p = 0) : isB p.kind = true ∧ (0 ≤ p.pub ∧ p.pub ≤ 1099511627776) ∧ (subB p.kind = true → (0 ≤ p.sub ∧ p.sub ≤ 1099511627776) ∧ (0 ≤ p.n_ ∧ p.n_ ≤ 1099511627776)) ∧ (fromB p.kind = true → 0 ≤ p.fr ∧ p.fr ≤ 1099511627776) ∧ (toB p.kind = true → 0 ≤ p.to_ ∧ p.to_ ≤ 1099511627776) := by
  obtain ⟨h1, h2, _⟩ := chk_zero h
  refine ⟨h1, ?_⟩
  obtain ⟨pk, pp, ps, pn, pf, pt, pl, pi⟩ := p
  simp only at h1 h2 ⊢
  rcases kinds h1 with rfl | rfl | rfl | rfl | rfl | rfl <;> simp [numB, pubB, namB, rngB, froB, subB, fromB, toB] at h2 ⊢ <;> omega
theorem parF_put {p : Pc} (h : chk p = 0) (hi : newsB p.kind = true → ∀ q ∈ p.items, ItFit q) : parF (putP p) p.kind ⟨1, 0⟩ = (plainP p, ⟨((putP p).length : Int), 0⟩) := by
  obtain ⟨h1, ⟨ha, ha'⟩, hb, hd, he⟩ := chk_facts h
  have hz := (chk_zero h).2.2
  obtain ⟨pa, pa'⟩ := toNat_in (l := 1099511627776) ha ha'
  have e : putP p = [p.kind.toNat] ++ (lebs [p.pub.toNat] ++ ((if subB p.kind = true then lebs [p.sub.toNat] else []) ++ ((if subB p.kind = true then lebs [p.n_.toNat] else []) ++ ((if fromB p.kind = true then lebs [p.fr.toNat] else []) ++ ((if toB p.kind = true then lebs [p.to_.toNat] else []) ++ (if newsB p.kind = true then putT p.spans ++ (lebs [p.items.length] ++ putIs p.items) else [])))))) := by
    unfold putP
    cases subB p.kind <;> simp [lebs]
  obtain ⟨A, hA⟩ : ∃ A, A = lebs [p.pub.toNat] := ⟨_, rfl⟩
  obtain ⟨S1, hS1⟩ : ∃ A, A = if subB p.kind = true then lebs [p.sub.toNat] else [] := ⟨_, rfl⟩
  obtain ⟨S2, hS2⟩ : ∃ A, A = if subB p.kind = true then lebs [p.n_.toNat] else [] := ⟨_, rfl⟩
  obtain ⟨S3, hS3⟩ : ∃ A, A = if fromB p.kind = true then lebs [p.fr.toNat] else [] := ⟨_, rfl⟩
  obtain ⟨S4, hS4⟩ : ∃ A, A = if toB p.kind = true then lebs [p.to_.toNat] else [] := ⟨_, rfl⟩
  obtain ⟨S5, hS5⟩ : ∃ A, A = if newsB p.kind = true then putT p.spans ++ (lebs [p.items.length] ++ putIs p.items) else [] := ⟨_, rfl⟩
  have a1 := numF_put (n := p.pub.toNat) (lim := 1099511627776) (by omega) (by omega) [p.kind.toNat] (S1 ++ (S2 ++ (S3 ++ (S4 ++ S5))))
  have a2 := optF_put (b := subB p.kind) (n := p.sub.toNat) (fun hx => by have := (hb hx).1; omega) ([p.kind.toNat] ++ A) (S2 ++ (S3 ++ (S4 ++ S5)))
  have a3 := optF_put (b := subB p.kind) (n := p.n_.toNat) (fun hx => by have := (hb hx).2; omega) ([p.kind.toNat] ++ A ++ S1) (S3 ++ (S4 ++ S5))
  have a4 := optF_put (b := fromB p.kind) (n := p.fr.toNat) (fun hx => by have := hd hx; omega) ([p.kind.toNat] ++ A ++ S1 ++ S2) (S4 ++ S5)
  have a5 := optF_put (b := toB p.kind) (n := p.to_.toNat) (fun hx => by have := he hx; omega) ([p.kind.toNat] ++ A ++ S1 ++ S2 ++ S3) S5
  have hsp : newsB p.kind = true → rightB Sp.zr p.spans = true := fun hx => by
    have h2 := (hz hx).2.1
    unfold spB at h2
    exact (Bool.and_eq_true _ _ ▸ h2).2
  obtain ⟨a6, a7⟩ := news_put (b := newsB p.kind) (l := p.spans) (m := p.items) hsp (fun hx => by have := (hz hx).1; omega) (fun hx => by have := (hz hx).1; omega) hi ([p.kind.toNat] ++ A ++ S1 ++ S2 ++ S3 ++ S4)
  rw [← hA] at a1
  rw [← hS1] at a2
  rw [← hS2] at a3
  rw [← hS3] at a4
  rw [← hS4] at a5
  rw [← hS5] at a6 a7
  rw [← hA, ← hS1, ← hS2, ← hS3, ← hS4, ← hS5] at e
  have l1 : (([p.kind.toNat].length : Nat) : Int) = 1 := rfl
  rw [l1] at a1
  simp only [List.append_assoc] at a1 a2 a3 a4 a5 a6 a7
  rw [e]
  have q2 : subB p.kind = true → ((p.sub.toNat : Nat) : Int) = p.sub := fun hx => by have := (hb hx).1; omega
  have q3 : subB p.kind = true → ((p.n_.toNat : Nat) : Int) = p.n_ := fun hx => by have := (hb hx).2; omega
  have q4 : fromB p.kind = true → ((p.fr.toNat : Nat) : Int) = p.fr := fun hx => by have := hd hx; omega
  have q5 : toB p.kind = true → ((p.to_.toNat : Nat) : Int) = p.to_ := fun hx => by have := he hx; omega
  simp only [parF]
  rw [a1]
  simp only
  rw [a2]
  simp only
  rw [a3]
  simp only
  rw [a4]
  simp only
  rw [a5]
  simp only
  rw [a6, a7]
  simp only [plainP, pa', Prod.mk.injEq, Pc.mk.injEq, true_and, and_true]
  refine ⟨?_, ?_, ?_, ?_⟩
  · split <;> simp_all
  · split <;> simp_all
  · split <;> simp_all
  · split <;> simp_all
theorem chk_plainP {p : Pc} (h : chk p = 0) : chk (plainP p) = 0 := by
  obtain ⟨h1, h2, h3⟩ := chk_zero h
  obtain ⟨pk, pp, ps, pn, pf, pt, pl, pi⟩ := p
  simp only at h1 h2 h3
  rcases kinds h1 with rfl | rfl | rfl | rfl | rfl | rfl
  · have e : plainP ⟨1, pp, ps, pn, pf, pt, pl, pi⟩ = ⟨1, pp, 0, 0, pf, pt, pl, pi⟩ := by simp [plainP, subB, fromB, toB, newsB]
    rw [e]
    obtain ⟨h4, h5, h6⟩ := h3 rfl
    have n1 : numB ⟨1, pp, 0, 0, pf, pt, pl, pi⟩ (subB 1) (fromB 1) (toB 1) = true := by
      simp [numB, pubB, namB, rngB, subB, toB] at h2 ⊢
      exact h2
    have s1 : spB ⟨1, pp, 0, 0, pf, pt, pl, pi⟩ = true := by
      have e2 : inB ⟨1, pp, 0, 0, pf, pt, pl, pi⟩ = inB ⟨1, pp, ps, pn, pf, pt, pl, pi⟩ := by funext s; rfl
      unfold spB at h5 ⊢
      rw [e2]
      exact h5
    rw [chk_items rfl n1 rfl h4 s1]
    have e3 : ∀ (l : List It) (le : Int), itE ⟨1, pp, 0, 0, pf, pt, pl, pi⟩ le l = itE ⟨1, pp, ps, pn, pf, pt, pl, pi⟩ le l := by
      intro l
      induction l with
      | nil => intro le; rfl
      | cons q l ih => intro le; simp only [itE, ih]
    rw [e3]
    exact h6
  all_goals
    refine chk_plain rfl ?_ rfl
    simp [plainP, numB, pubB, namB, rngB, froB, subB, fromB, toB] at h2 ⊢
    exact h2
theorem takeP_put {p : Pc} (h : chk p = 0) (hi : newsB p.kind = true → ∀ q ∈ p.items, ItFit q) : takeP (putD p) = (plainP p, 0) := by
  have h1 := parF_put h hi
  have hk := (chk_zero h).1
  have e : putD p = putP p := if_pos h
  rw [e]
  have hg : (putP p).getD 0 0 = p.kind.toNat := by simp [putP]
  have hk2 : ((p.kind.toNat : Nat) : Int) = p.kind := by
    have := kinds hk
    omega
  have hl : ¬ (putP p).length = 0 := by simp [putP]
  rw [takeP_ok (r := (plainP p, ⟨((putP p).length : Int), 0⟩)) hl (by rw [hg, hk2]; exact hk) (by rw [hg, hk2]; exact h1.symm) (by rw [endE, if_neg (by simp)]) (chk_plainP h)]
end Go.Proofs.Ytjpkhefegpbooaa
