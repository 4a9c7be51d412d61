/- A parcel's bytes cut short are ErrShort. -/
import Derived.Test.YtmpljoljpgbamaaPtC
namespace Go.Proofs.Ytmpljoljpgbamaa

theorem Stg.unit {α : Type} {bs : List Nat} {k : Nat} {s : Rs} {r r' : α × Rs} (h : Stg bs k s r r') : Stg bs k s ((), r.2) ((), r'.2) := fun hf => by
  obtain ⟨p, e, h1, h2, h3, h4, h5⟩ := h hf
  exact ⟨p, e, h1, h2, h3, h4, fun hpk => ⟨fun he => by rw [(h5 hpk).1 he], (h5 hpk).2⟩⟩
theorem itF_stg {bs : List Nat} (hb : ∀ z ∈ bs, z < 256) (k : Nat) (s : Rs) : Stg bs k s ((), (itF bs s).2) ((), (itF (bs.take k) s).2) := by
  have h1 := numF_stg hb k 1099511627776 s
  have h2 : Stg bs k s (numF bs 4294967295 (numF bs 1099511627776 s).2) (numF (bs.take k) 4294967295 (numF (bs.take k) 1099511627776 s).2) :=
    h1.then (fun x e1 e2 => by rw [e1, e2]; exact numF_stg hb k _ _) ⟨_, numF_stg hb k _ _⟩ (numF_three _ _)
  have h3 : Stg bs k s (numF bs 400 (numF bs 4294967295 (numF bs 1099511627776 s).2).2) (numF (bs.take k) 400 (numF (bs.take k) 4294967295 (numF (bs.take k) 1099511627776 s).2).2) :=
    h2.then (fun x e1 e2 => by rw [e1, e2]; exact numF_stg hb k _ _) ⟨_, numF_stg hb k _ _⟩ (numF_three _ _)
  have h4 : Stg bs k s (byF bs (numF bs 400 (numF bs 4294967295 (numF bs 1099511627776 s).2).2).1 (numF bs 400 (numF bs 4294967295 (numF bs 1099511627776 s).2).2).2) (byF (bs.take k) (numF (bs.take k) 400 (numF (bs.take k) 4294967295 (numF (bs.take k) 1099511627776 s).2).2).1 (numF (bs.take k) 400 (numF (bs.take k) 4294967295 (numF (bs.take k) 1099511627776 s).2).2).2) :=
    h3.then (fun x e1 e2 => by
      have hx : x.2.fine bs := by rw [← e2]; exact numF_fine hb
      rw [e1, e2]; exact byF_stg k _ _ hx) ⟨_, byF_stg k _ _ (numF_fine hb)⟩ (byF_three _ _)
  exact h4.unit
theorem itsF_stg {bs : List Nat} (hb : ∀ z ∈ bs, z < 256) (k : Nat) : ∀ (n : Nat) (acc acc' : List It) (s : Rs), s.fine bs → Stg bs k s ((), (itsF bs n acc s).2) ((), (itsF (bs.take k) n acc' s).2)
  | 0, acc, acc', s, hx => fun hf => by
    obtain ⟨p, e, h1, h2, h3, h4, _⟩ := OnceR.refl hx hf
    exact ⟨p, e, h1, h2, h3, h4, fun hpk => ⟨fun _ => rfl, fun h => by
      rw [h1] at h2
      simp only [Rs.mk.injEq, and_true] at h2
      omega⟩⟩
  | n + 1, acc, acc', s, hx => by
    have h1 := itF_stg hb k s
    have h2 : ∀ a a', Stg bs k (itF bs s).2 ((), (itsF bs n a (itF bs s).2).2) ((), (itsF (bs.take k) n a' (itF bs s).2).2) := fun a a' => itsF_stg hb k n a a' _ (itF_fine hb)
    rw [itsF, itsF]
    exact h1.then (fun x e1 e2 => by
      have e3 : (itF (bs.take k) s).2 = (itF bs s).2 := by have := e1.trans e2.symm; simpa using this
      rw [e3]
      exact h2 _ _) ⟨_, h2 _ []⟩ (fun h => itsF_three _ _ _ h)
theorem itemsF_stg {bs : List Nat} (hb : ∀ z ∈ bs, z < 256) (k : Nat) (s : Rs) : Stg bs k s ((), (itemsF bs s).2) ((), (itemsF (bs.take k) s).2) := by
  have h1 := numF_stg hb k 8 s
  unfold itemsF
  exact h1.then (fun x e1 e2 => by
    have hx : x.2.fine bs := by rw [← e2]; exact numF_fine hb
    rw [e1, e2]; exact itsF_stg hb k _ _ _ _ hx) ⟨_, itsF_stg hb k _ _ [] _ (numF_fine hb)⟩ (fun h => itsF_three _ _ _ h)
theorem parF_stg {bs : List Nat} (hb : ∀ z ∈ bs, z < 256) (k : Nat) (kd : Int) (s : Rs) : Stg bs k s ((), (parF bs kd s).2) ((), (parF (bs.take k) kd s).2) := by
  have ha := numF_stg hb k 1099511627776 s
  have fa := numF_fine (bs := bs) (lim := 1099511627776) (s := s) hb
  have hb1 : Stg bs k s (optF (subB kd) bs (numF bs 1099511627776 s).2) (optF (subB kd) (bs.take k) (numF (bs.take k) 1099511627776 s).2) :=
    ha.then (fun x e1 e2 => by have hx : x.2.fine bs := (by rw [← e2]; exact fa); rw [e1, e2]; exact optF_stg hb k _ _ hx) ⟨_, optF_stg hb k _ _ fa⟩ (optF_three _ _)
  have fb := optF_fine (b := subB kd) hb fa
  have hc1 : Stg bs k s (optF (subB kd) bs (optF (subB kd) bs (numF bs 1099511627776 s).2).2) (optF (subB kd) (bs.take k) (optF (subB kd) (bs.take k) (numF (bs.take k) 1099511627776 s).2).2) :=
    hb1.then (fun x e1 e2 => by have hx : x.2.fine bs := (by rw [← e2]; exact fb); rw [e1, e2]; exact optF_stg hb k _ _ hx) ⟨_, optF_stg hb k _ _ fb⟩ (optF_three _ _)
  have fc := optF_fine (b := subB kd) hb fb
  have hd1 : Stg bs k s (optF (fromB kd) bs (optF (subB kd) bs (optF (subB kd) bs (numF bs 1099511627776 s).2).2).2) (optF (fromB kd) (bs.take k) (optF (subB kd) (bs.take k) (optF (subB kd) (bs.take k) (numF (bs.take k) 1099511627776 s).2).2).2) :=
    hc1.then (fun x e1 e2 => by have hx : x.2.fine bs := (by rw [← e2]; exact fc); rw [e1, e2]; exact optF_stg hb k _ _ hx) ⟨_, optF_stg hb k _ _ fc⟩ (optF_three _ _)
  have fd := optF_fine (b := fromB kd) hb fc
  have he1 : Stg bs k s (optF (toB kd) bs (optF (fromB kd) bs (optF (subB kd) bs (optF (subB kd) bs (numF bs 1099511627776 s).2).2).2).2) (optF (toB kd) (bs.take k) (optF (fromB kd) (bs.take k) (optF (subB kd) (bs.take k) (optF (subB kd) (bs.take k) (numF (bs.take k) 1099511627776 s).2).2).2).2) :=
    hd1.then (fun x e1 e2 => by have hx : x.2.fine bs := (by rw [← e2]; exact fd); rw [e1, e2]; exact optF_stg hb k _ _ hx) ⟨_, optF_stg hb k _ _ fd⟩ (optF_three _ _)
  have fe := optF_fine (b := toB kd) hb fd
  cases hn : newsB kd with
  | false =>
    have e : ∀ bs', (parF bs' kd s).2 = (optF (toB kd) bs' (optF (fromB kd) bs' (optF (subB kd) bs' (optF (subB kd) bs' (numF bs' 1099511627776 s).2).2).2).2).2 := fun bs' => by simp [parF, hn]
    rw [e, e]
    exact he1.unit
  | true =>
    have e : ∀ bs', (parF bs' kd s).2 = (itemsF bs' (spF bs' (optF (toB kd) bs' (optF (fromB kd) bs' (optF (subB kd) bs' (optF (subB kd) bs' (numF bs' 1099511627776 s).2).2).2).2).2).2).2 := fun bs' => by simp [parF, hn]
    rw [e, e]
    have hf1 : Stg bs k s (spF bs (optF (toB kd) bs (optF (fromB kd) bs (optF (subB kd) bs (optF (subB kd) bs (numF bs 1099511627776 s).2).2).2).2).2) (spF (bs.take k) (optF (toB kd) (bs.take k) (optF (fromB kd) (bs.take k) (optF (subB kd) (bs.take k) (optF (subB kd) (bs.take k) (numF (bs.take k) 1099511627776 s).2).2).2).2).2) :=
      he1.then (fun x e1 e2 => by have hx : x.2.fine bs := (by rw [← e2]; exact fe); rw [e1, e2]; exact spF_stg hb k _ hx) ⟨_, spF_stg hb k _ fe⟩ (spF_three _)
    exact hf1.then (fun x e1 e2 => by rw [e1, e2]; exact itemsF_stg hb k _) ⟨_, itemsF_stg hb k _⟩ (itemsF_three _)
theorem takeP_cut {bs : List Nat} {p : Pc} (hb : ∀ z ∈ bs, z < 256) (h : takeP bs = (p, 0)) {k : Nat} (hk : k < bs.length) : takeP (bs.take k) = (Pc.zero, 3) := by
  obtain ⟨_, _, h0, h1, _, h2⟩ := takeP_once hb h
  by_cases hk0 : k = 0
  · subst hk0
    exact takeP_none (by simp)
  have hl : (bs.take k).length = k := by rw [List.length_take]; omega
  have hg : (bs.take k).getD 0 0 = bs.getD 0 0 := by simp only [List.getD_eq_getElem?_getD, List.getElem?_take_of_lt (show 0 < k from by omega)]
  obtain ⟨q, e, h3, h4, h5, h6, h7⟩ := parF_stg hb k (bs.getD 0 0 : Nat) ⟨1, 0⟩ (by simp only; rw [h2])
  simp only [Rs.mk.injEq, and_true] at h3
  simp only at h4
  rw [h2] at h4
  simp only [Rs.mk.injEq, and_true] at h4
  have h8 := (h7 (by omega)).2 (by omega)
  simp only at h8
  have h9 : endE (bs.take k) (parF (bs.take k) ((bs.take k).getD 0 0 : Nat) ⟨1, 0⟩).2 = 3 := by
    rw [hg, endE, if_neg (fun h => by rw [h8] at h; exact absurd h.1 (by decide)), h8]
  rw [takeP_end (by omega) (by rw [hg]; exact h1) rfl (by rw [h9]; decide), h9]
end Go.Proofs.Ytmpljoljpgbamaa
