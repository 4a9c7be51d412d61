/- A pack of texts: PtO SpBackM PtB. -/
import Derived.Test.YtbloomepdchjhaaDoorPtR
import Derived.Test.YtbloomepdchjhaaDoorPp2
import Derived.Test.YtbloomepdchjhaaDoorSpT
import Derived.Test.YtbloomepdchjhaaDoorLebP
import Derived.Test.YtbloomepdchjhaaDoorPpP
/- Bytes that are taken for a parcel are just its bytes. -/
namespace Go.Proofs.YtbloomepdchjhaaDoor

theorem putIs_cons' (q : It) (l : List It) : putIs (q :: l) = putI q ++ putIs l := rfl
/-- What lies between two places of a reader. -/
def OnceR (bs : List Nat) (s s' : Rs) (l : List Nat) : Prop := s'.ft = 0 → ∃ p k : Nat, s = ⟨(p : Int), 0⟩ ∧ s' = ⟨(k : Int), 0⟩ ∧ p ≤ k ∧ k ≤ bs.length ∧ cutB bs p k = l
theorem OnceR.trans {bs : List Nat} {s s1 s2 : Rs} {l1 l2 : List Nat} (h : OnceR bs s s1 l1) (h2 : OnceR bs s1 s2 l2) : OnceR bs s s2 (l1 ++ l2) := fun hf => by
  obtain ⟨p, k, h3, h4, h5, h6, h7⟩ := h2 hf
  obtain ⟨p', k', h8, h9, h10, h11, h12⟩ := h (by rw [h3])
  rw [h3] at h9
  simp only [Rs.mk.injEq, and_true] at h9
  have : k' = p := by omega
  subst this
  exact ⟨p', k, h8, h4, by omega, h6, by rw [← h7, ← h12]; exact (cutB_join bs h10 h5).symm⟩
theorem OnceR.refl {bs : List Nat} {s : Rs} (hx : s.fine bs) : OnceR bs s s [] := fun hf => by
  obtain ⟨h1, h2⟩ := hx hf
  obtain ⟨x, t⟩ := s
  simp only at hf h1 h2
  subst hf
  obtain ⟨p, rfl⟩ := Int.eq_ofNat_of_zero_le h1
  exact ⟨p, p, rfl, rfl, Nat.le_refl _, by omega, by simp [cutB]⟩
theorem numF_onceR {bs : List Nat} {lim : Nat} {s : Rs} (hb : ∀ z ∈ bs, z < 256) : OnceR bs s (numF bs lim s).2 (lebs [(numF bs lim s).1]) := fun hf => by
  obtain ⟨p, k, h1, h2, h3, h4, h5⟩ := numF_once hb hf
  exact ⟨p, k, h1, h2, by omega, h4, by rw [h5]; simp [lebs]⟩
theorem optF_onceR {bs : List Nat} {b : Bool} {s : Rs} (hb : ∀ z ∈ bs, z < 256) (hx : s.fine bs) : OnceR bs s (optF b bs s).2 (if b = true then lebs [(optF b bs s).1] else []) := by
  cases b with
  | true => exact numF_onceR hb
  | false => exact OnceR.refl hx
theorem optF_fine {bs : List Nat} {b : Bool} {s : Rs} (hb : ∀ z ∈ bs, z < 256) (hx : s.fine bs) : (optF b bs s).2.fine bs := by
  cases b with
  | true => exact numF_fine hb
  | false => exact hx
theorem byF_onceR {bs : List Nat} {c : Nat} {s : Rs} (hx : s.fine bs) : OnceR bs s (byF bs c s).2 (byF bs c s).1 := fun hf => by
  obtain ⟨p, h1, h2, h3, h4, _⟩ := byF_once hx hf
  exact ⟨p, p + c, h1, h2, by omega, h3, h4.symm⟩
theorem spF_onceR {bs : List Nat} {s : Rs} (hb : ∀ z ∈ bs, z < 256) (hx : s.fine bs) : OnceR bs s (spF bs s).2 (putT (spF bs s).1) := fun hf => by
  obtain ⟨p, k, h1, h2, h3, h4, _, _, h7⟩ := spF_once hb hx hf
  exact ⟨p, k, h1, h2, h3, h4, h7.symm⟩
theorem itF_onceR {bs : List Nat} {s : Rs} (hb : ∀ z ∈ bs, z < 256) : OnceR bs s (itF bs s).2 (putI (itF bs s).1) := fun hf => by
  have h1 := numF_onceR (bs := bs) (lim := 1099511627776) (s := s) hb
  have h2 := h1.trans (numF_onceR (lim := 4294967295) hb)
  have h3 := h2.trans (numF_onceR (lim := 400) hb)
  have h4 := h3.trans (byF_onceR (c := (numF bs 400 (numF bs 4294967295 (numF bs 1099511627776 s).2).2).1) (numF_fine hb))
  have h5 := (byF_once (c := (numF bs 400 (numF bs 4294967295 (numF bs 1099511627776 s).2).2).1) (s := (numF bs 400 (numF bs 4294967295 (numF bs 1099511627776 s).2).2).2) (numF_fine hb) hf).choose_spec.2.2.2.2
  have e : putI (itF bs s).1 = lebs [(numF bs 1099511627776 s).1] ++ lebs [(numF bs 4294967295 (numF bs 1099511627776 s).2).1] ++ lebs [(numF bs 400 (numF bs 4294967295 (numF bs 1099511627776 s).2).2).1] ++ (byF bs (numF bs 400 (numF bs 4294967295 (numF bs 1099511627776 s).2).2).1 (numF bs 400 (numF bs 4294967295 (numF bs 1099511627776 s).2).2).2).1 := by
    simp only [putI, itF, h5]
    simp [lebs]
  rw [e]
  exact h4 hf
theorem itsF_onceR {bs : List Nat} (hb : ∀ z ∈ bs, z < 256) : ∀ (k : Nat) (acc : List It) (s : Rs), s.fine bs → ∃ m, (itsF bs k acc s).1 = acc ++ m ∧ m.length = k ∧ OnceR bs s (itsF bs k acc s).2 (putIs m)
  | 0, acc, s, hx => ⟨[], by simp [itsF], rfl, OnceR.refl hx⟩
  | k + 1, acc, s, hx => by
    obtain ⟨m, h1, h2, h3⟩ := itsF_onceR hb k (acc ++ [(itF bs s).1]) (itF bs s).2 (itF_fine hb)
    refine ⟨(itF bs s).1 :: m, ?_, by simp [h2], ?_⟩
    · rw [itsF, h1]; simp
    · rw [itsF, putIs_cons']
      exact (itF_onceR hb).trans h3
theorem itemsF_onceR {bs : List Nat} {s : Rs} (hb : ∀ z ∈ bs, z < 256) : OnceR bs s (itemsF bs s).2 (lebs [(itemsF bs s).1.length] ++ putIs (itemsF bs s).1) := by
  obtain ⟨m, h1, h2, h3⟩ := itsF_onceR hb (numF bs 8 s).1 [] (numF bs 8 s).2 (numF_fine hb)
  have e : (itemsF bs s).1 = m := by rw [itemsF, h1]; rfl
  rw [e, h2]
  exact (numF_onceR hb).trans h3
theorem parF_onceR {bs : List Nat} {k : Int} {s : Rs} (hb : ∀ z ∈ bs, z < 256) : OnceR bs s (parF bs k s).2 ((putP (parF bs k s).1).drop 1) := by
  have ha := numF_onceR (bs := bs) (lim := 1099511627776) (s := s) hb
  have fa := numF_fine (bs := bs) (lim := 1099511627776) (s := s) hb
  have hb1 := ha.trans (optF_onceR (b := subB k) hb fa)
  have fb := optF_fine (b := subB k) hb fa
  have hc1 := hb1.trans (optF_onceR (b := subB k) hb fb)
  have fc := optF_fine (b := subB k) hb fb
  have hd1 := hc1.trans (optF_onceR (b := fromB k) hb fc)
  have fd := optF_fine (b := fromB k) hb fc
  have he1 := hd1.trans (optF_onceR (b := toB k) hb fd)
  have fe := optF_fine (b := toB k) hb fd
  cases hn : newsB k with
  | false =>
    have e : (parF bs k s).2 = (optF (toB k) bs (optF (fromB k) bs (optF (subB k) bs (optF (subB k) bs (numF bs 1099511627776 s).2).2).2).2).2 := by simp [parF, hn]
    rw [e]
    have e2 : (putP (parF bs k s).1).drop 1 = lebs [(numF bs 1099511627776 s).1] ++ (if subB k = true then lebs [(optF (subB k) bs (numF bs 1099511627776 s).2).1] else []) ++ (if subB k = true then lebs [(optF (subB k) bs (optF (subB k) bs (numF bs 1099511627776 s).2).2).1] else []) ++ (if fromB k = true then lebs [(optF (fromB k) bs (optF (subB k) bs (optF (subB k) bs (numF bs 1099511627776 s).2).2).2).1] else []) ++ (if toB k = true then lebs [(optF (toB k) bs (optF (fromB k) bs (optF (subB k) bs (optF (subB k) bs (numF bs 1099511627776 s).2).2).2).2).1] else []) := by
      simp only [putP, parF, hn]
      cases subB k <;> cases fromB k <;> cases toB k <;> simp [lebs]
    rw [e2]
    exact he1
  | true =>
    have hf1 := he1.trans (spF_onceR hb fe)
    have ff := spF_fine hb fe
    have hg1 := hf1.trans (itemsF_onceR (s := (spF bs (optF (toB k) bs (optF (fromB k) bs (optF (subB k) bs (optF (subB k) bs (numF bs 1099511627776 s).2).2).2).2).2).2) hb)
    have e : (parF bs k s).2 = (itemsF bs (spF bs (optF (toB k) bs (optF (fromB k) bs (optF (subB k) bs (optF (subB k) bs (numF bs 1099511627776 s).2).2).2).2).2).2).2 := by simp [parF, hn]
    rw [e]
    have e2 : (putP (parF bs k s).1).drop 1 = lebs [(numF bs 1099511627776 s).1] ++ (if subB k = true then lebs [(optF (subB k) bs (numF bs 1099511627776 s).2).1] else []) ++ (if subB k = true then lebs [(optF (subB k) bs (optF (subB k) bs (numF bs 1099511627776 s).2).2).1] else []) ++ (if fromB k = true then lebs [(optF (fromB k) bs (optF (subB k) bs (optF (subB k) bs (numF bs 1099511627776 s).2).2).2).1] else []) ++ (if toB k = true then lebs [(optF (toB k) bs (optF (fromB k) bs (optF (subB k) bs (optF (subB k) bs (numF bs 1099511627776 s).2).2).2).2).1] else []) ++ putT (spF bs (optF (toB k) bs (optF (fromB k) bs (optF (subB k) bs (optF (subB k) bs (numF bs 1099511627776 s).2).2).2).2).2).1 ++ (lebs [(itemsF bs (spF bs (optF (toB k) bs (optF (fromB k) bs (optF (subB k) bs (optF (subB k) bs (numF bs 1099511627776 s).2).2).2).2).2).2).1.length] ++ putIs (itemsF bs (spF bs (optF (toB k) bs (optF (fromB k) bs (optF (subB k) bs (optF (subB k) bs (numF bs 1099511627776 s).2).2).2).2).2).2).1) := by
      simp only [putP, parF, hn]
      cases subB k <;> cases fromB k <;> cases toB k <;> simp [lebs]
    rw [e2]
    exact hg1
/-- What is taken is right, and its bytes are just these. -/
theorem takeP_once {bs : List Nat} {p : Pc} (hb : ∀ z ∈ bs, z < 256) (h : takeP bs = (p, 0)) : chk p = 0 ∧ putD p = bs ∧ 0 < bs.length ∧ isB (bs.getD 0 0 : Nat) = true ∧ p = (parF bs (bs.getD 0 0 : Nat) ⟨1, 0⟩).1 ∧ (parF bs (bs.getD 0 0 : Nat) ⟨1, 0⟩).2 = ⟨(bs.length : Int), 0⟩ := by
  by_cases h0 : bs.length = 0
  · rw [takeP_none h0] at h; simp at h
  cases h1 : isB (bs.getD 0 0 : Nat) with
  | false => rw [takeP_type h0 h1] at h; simp at h
  | true =>
    by_cases h2 : endE bs (parF bs (bs.getD 0 0 : Nat) ⟨1, 0⟩).2 = 0
    · by_cases h3 : chk (parF bs (bs.getD 0 0 : Nat) ⟨1, 0⟩).1 = 0
      · rw [takeP_ok h0 h1 rfl h2 h3] at h
        simp only [Prod.mk.injEq, and_true] at h
        subst h
        unfold endE at h2
        split at h2
        · cases h2
        · rename_i h4
          have h5 : (parF bs (bs.getD 0 0 : Nat) ⟨1, 0⟩).2.at_ = bs.length := Classical.byContradiction fun h6 => h4 ⟨h2, h6⟩
          obtain ⟨q, k, h7, h8, h9, h10, h11⟩ := parF_onceR (k := (bs.getD 0 0 : Nat)) (s := ⟨1, 0⟩) hb h2
          simp only [Rs.mk.injEq, and_true] at h7
          have hq : q = 1 := by omega
          subst hq
          rw [h8] at h5
          simp only at h5
          have hk : k = bs.length := by omega
          subst hk
          refine ⟨h3, ?_, by omega, rfl, rfl, h8⟩
          rw [putD, if_pos h3]
          have e : putP (parF bs (bs.getD 0 0 : Nat) ⟨1, 0⟩).1 = [bs.getD 0 0] ++ (putP (parF bs (bs.getD 0 0 : Nat) ⟨1, 0⟩).1).drop 1 := by
            simp [putP, parF_kind]
          rw [e, ← h11, ← cutB_one bs (by omega), cutB_join bs (by omega) h9]
          simp [cutB]
      · rw [takeP_chk h0 h1 rfl h2 h3] at h
        simp only [Prod.mk.injEq] at h
        exact absurd h.2 h3
    · rw [takeP_end h0 h1 rfl h2] at h
      simp only [Prod.mk.injEq] at h
      exact absurd h.2 h2
end Go.Proofs.YtbloomepdchjhaaDoor
/- A map's bytes are taken as the map, whatever stands around. -/
namespace Go.Proofs.YtbloomepdchjhaaDoor

theorem takeL_put : ∀ (l : List Sp) (p : Sp) (acc : List Sp) (xs zs : List Nat), RightS p l → 0 ≤ p.to → takeL (xs ++ putS p.to l ++ zs) l.length (xs.length : Int) p acc = (acc ++ l, ((xs.length + (putS p.to l).length : Nat) : Int), 0)
  | [], p, acc, xs, zs, _, _ => by simp [takeL, putS]
  | ⟨sf, st, si⟩ :: l, p, acc, xs, zs, ⟨h1, h2, h3, h4, h5, h6, h7⟩, hp => by
    simp only at h1 h2 h3 h4 h5 h6
    obtain ⟨n1, hn1⟩ : ∃ n1 : Nat, sf - p.to - 1 = (n1 : Int) := ⟨(sf - p.to - 1).toNat, by omega⟩
    obtain ⟨n2, hn2⟩ : ∃ n2 : Nat, st - sf = (n2 : Int) := ⟨(st - sf).toNat, by omega⟩
    obtain ⟨n3, hn3⟩ : ∃ n3 : Nat, si = (n3 : Int) := ⟨si.toNat, by omega⟩
    have e : putS p.to (⟨sf, st, si⟩ :: l) = Leb.leb n1 ++ Leb.leb n2 ++ [n3] ++ putS st l := by
      rw [putS, oneS]
      simp only
      rw [hn1, hn2, hn3]
      rfl
    obtain ⟨BS, hBS⟩ : ∃ BS, BS = xs ++ putS p.to (⟨sf, st, si⟩ :: l) ++ zs := ⟨_, rfl⟩
    rw [← hBS]
    have e0 : BS = xs ++ Leb.leb n1 ++ (Leb.leb n2 ++ [n3] ++ putS st l ++ zs) := by rw [hBS, e]; simp only [List.append_assoc]
    have e1 : BS = (xs ++ Leb.leb n1) ++ Leb.leb n2 ++ ([n3] ++ putS st l ++ zs) := by rw [hBS, e]; simp only [List.append_assoc]
    have e2 : BS = (xs ++ Leb.leb n1 ++ Leb.leb n2) ++ n3 :: (putS st l ++ zs) := by rw [hBS, e]; simp only [List.append_assoc, List.singleton_append]; rfl
    have e3 : BS = (xs ++ (Leb.leb n1 ++ Leb.leb n2 ++ [n3])) ++ putS st l ++ zs := by rw [hBS, e]; simp only [List.append_assoc]
    have t1 : Leb.take BS (xs.length : Int) = (n1, xs.length + (Leb.leb n1).length, 0) := by
      rw [e0]
      exact Leb.take_put n1 (by omega) xs _
    have t2 : Leb.take BS ((xs.length + (Leb.leb n1).length : Nat) : Int) = (n2, xs.length + (Leb.leb n1).length + (Leb.leb n2).length, 0) := by
      rw [e1]
      have h := Leb.take_put n2 (by omega) (xs ++ Leb.leb n1) ([n3] ++ putS st l ++ zs)
      rw [List.length_append] at h
      exact h
    have hlen : BS.length = xs.length + (Leb.leb n1).length + (Leb.leb n2).length + (1 + (putS st l ++ zs).length) := by
      rw [e2]
      simp only [List.length_append, List.length_cons]
      omega
    have t3 : BS.getD (xs.length + (Leb.leb n1).length + (Leb.leb n2).length) 0 = n3 := by
      rw [e2, List.getD_eq_getElem?_getD, List.getElem?_append_right (by simp only [List.length_append]; omega)]
      simp only [List.length_append, Nat.sub_self, List.getElem?_cons_zero, Option.getD_some]
    have t4 : takeOne BS (xs.length : Int) p = (⟨sf, st, si⟩, ((xs.length + (Leb.leb n1).length + (Leb.leb n2).length + 1 : Nat) : Int), 0) := by
      rw [one_ok t1 t2 (by omega) ⟨by omega, by rw [t3]; omega, by rw [t3]; rintro ⟨g1, g2⟩; exact h6 ⟨by omega, by omega⟩⟩, t3]
      have es : (⟨p.to + 1 + (n1 : Int), p.to + 1 + n1 + n2, (n3 : Int)⟩ : Sp) = ⟨sf, st, si⟩ := by
        rw [Sp.mk.injEq]
        omega
      rw [es, show ((xs.length + (Leb.leb n1).length + (Leb.leb n2).length : Nat) : Int) + 1 = ((xs.length + (Leb.leb n1).length + (Leb.leb n2).length + 1 : Nat) : Int) from by omega]
    rw [List.length_cons, takeL_ok t4]
    have ih := takeL_put l ⟨sf, st, si⟩ (acc ++ [⟨sf, st, si⟩]) (xs ++ (Leb.leb n1 ++ Leb.leb n2 ++ [n3])) zs h7 (by simp only; omega)
    simp only at ih
    rw [← e3] at ih
    have hx : (xs ++ (Leb.leb n1 ++ Leb.leb n2 ++ [n3])).length = xs.length + (Leb.leb n1).length + (Leb.leb n2).length + 1 := by
      simp only [List.length_append, List.length_cons, List.length_nil]
      omega
    rw [hx] at ih
    rw [ih, e]
    refine Prod.ext (by simp) (Prod.ext ?_ rfl)
    simp only [List.length_append, List.length_cons, List.length_nil]
    omega
theorem takeM_put {l : List Sp} (xs zs : List Nat) (h : rightB Sp.zr l = true) (hl : ¬ 256 < l.length) : takeM (xs ++ putT l ++ zs) (xs.length : Int) = (l, ((xs.length + (putT l).length : Nat) : Int), 0) := by
  have e : putT l = Leb.leb l.length ++ putS 0 l := (put_ok h hl).2
  have e0 : xs ++ putT l ++ zs = xs ++ Leb.leb l.length ++ (putS 0 l ++ zs) := by rw [e]; simp only [List.append_assoc]
  have e1 : xs ++ putT l ++ zs = (xs ++ Leb.leb l.length) ++ putS 0 l ++ zs := by rw [e]; simp only [List.append_assoc]
  have t1 : Leb.take (xs ++ putT l ++ zs) (xs.length : Int) = (l.length, xs.length + (Leb.leb l.length).length, 0) := by
    rw [e0]
    exact Leb.take_put l.length (by omega) xs _
  rw [takeM_3 t1 hl, e1]
  have h2 := takeL_put l Sp.zr [] (xs ++ Leb.leb l.length) zs ((rightB_iff _ _).1 h) (by decide)
  rw [List.length_append] at h2
  rw [show (0 : Int) = Sp.zr.to from rfl, h2, e, List.length_append, show Sp.zr.to = (0 : Int) from rfl]
  refine Prod.ext (by simp) (Prod.ext ?_ rfl)
  simp only
  omega
end Go.Proofs.YtbloomepdchjhaaDoor
/- Take of put: what a parcel's bytes tell is the parcel, plain. -/
namespace Go.Proofs.YtbloomepdchjhaaDoor

theorem numF_put {n lim : Nat} (hn : n ≤ lim) (hl : lim ≤ 1099511627776) (xs zs : List Nat) : numF (xs ++ lebs [n] ++ zs) lim ⟨(xs.length : Int), 0⟩ = (n, ⟨((xs ++ lebs [n]).length : Int), 0⟩) := by
  have h := Leb.take_put n (by omega) xs zs
  have e : lebs [n] = Leb.leb n := by simp [lebs]
  rw [e, numF_ok rfl h (by omega), List.length_append]
theorem byF_put (b xs zs : List Nat) : byF (xs ++ b ++ zs) b.length ⟨(xs.length : Int), 0⟩ = (b, ⟨((xs ++ b).length : Int), 0⟩) := by
  rw [byF_ok rfl (by simp only [List.length_append]; omega)]
  simp
theorem spF_put {l : List Sp} (h : rightB Sp.zr l = true) (hl : ¬ 256 < l.length) (xs zs : List Nat) : spF (xs ++ putT l ++ zs) ⟨(xs.length : Int), 0⟩ = (l, ⟨((xs ++ putT l).length : Int), 0⟩) := by
  rw [spF_ok rfl]
  simp only
  rw [takeM_put xs zs h hl]
  simp
theorem itF_put {q : It} (h : ItFit q) (xs zs : List Nat) : itF (xs ++ putI q ++ zs) ⟨(xs.length : Int), 0⟩ = (q, ⟨((xs ++ putI q).length : Int), 0⟩) := by
  obtain ⟨t, f, b⟩ := q
  obtain ⟨⟨h1, h2⟩, ⟨h3, h4⟩, h5⟩ := h
  simp only at h1 h2 h3 h4 h5
  obtain ⟨tn, rfl⟩ := Int.eq_ofNat_of_zero_le h1
  obtain ⟨fn, rfl⟩ := Int.eq_ofNat_of_zero_le h3
  have e : putI ⟨(tn : Int), (fn : Int), b⟩ = lebs [tn] ++ lebs [fn] ++ lebs [b.length] ++ b := by simp [putI, lebs]
  have a1 := numF_put (n := tn) (lim := 1099511627776) (by omega) (by omega) xs (lebs [fn] ++ lebs [b.length] ++ b ++ zs)
  have a2 := numF_put (n := fn) (lim := 4294967295) (by omega) (by omega) (xs ++ lebs [tn]) (lebs [b.length] ++ b ++ zs)
  have a3 := numF_put (n := b.length) (lim := 400) (by omega) (by omega) (xs ++ lebs [tn] ++ lebs [fn]) (b ++ zs)
  have a4 := byF_put b (xs ++ lebs [tn] ++ lebs [fn] ++ lebs [b.length]) zs
  simp only [List.append_assoc] at a1 a2 a3 a4
  simp only [itF, e, List.append_assoc, a1, a2, a3, a4]
theorem itsF_put : ∀ (l : List It) (acc : List It) (xs zs : List Nat), (∀ q ∈ l, ItFit q) → itsF (xs ++ putIs l ++ zs) l.length acc ⟨(xs.length : Int), 0⟩ = (acc ++ l, ⟨((xs ++ putIs l).length : Int), 0⟩)
  | [], acc, xs, zs, _ => by simp [itsF, putIs]
  | q :: l, acc, xs, zs, h => by
    have h1 := itF_put (h q (by simp)) xs (putIs l ++ zs)
    have h2 := itsF_put l (acc ++ [q]) (xs ++ putI q) zs (fun x hx => h x (by simp [hx]))
    rw [putIs_cons', List.length_cons, itsF]
    simp only [List.append_assoc] at h1 h2 ⊢
    rw [h1]
    simp only
    rw [h2]
    simp
theorem itemsF_put {l : List It} (hl : l.length ≤ 8) (h : ∀ q ∈ l, ItFit q) (xs zs : List Nat) : itemsF (xs ++ (lebs [l.length] ++ putIs l) ++ zs) ⟨(xs.length : Int), 0⟩ = (l, ⟨((xs ++ (lebs [l.length] ++ putIs l)).length : Int), 0⟩) := by
  have h1 := numF_put (n := l.length) (lim := 8) hl (by omega) xs (putIs l ++ zs)
  have h2 := itsF_put l [] (xs ++ lebs [l.length]) zs h
  unfold itemsF
  simp only [List.append_assoc, List.nil_append] at h1 h2 ⊢
  rw [h1]
  simp only
  rw [h2]
end Go.Proofs.YtbloomepdchjhaaDoor
