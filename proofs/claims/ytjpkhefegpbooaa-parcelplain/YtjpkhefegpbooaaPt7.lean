/- parcel.Take. -/
import Derived.Test.YtjpkhefegpbooaaPt6
import Derived.Test.YtjpkhefegpbooaaPc4
namespace Go.Proofs.Ytjpkhefegpbooaa
open Go.RowKit

def ItFit (q : It) : Prop := (0 ≤ q.tick ∧ q.tick ≤ 1099511627776) ∧ (0 ≤ q.for_ ∧ q.for_ ≤ 4294967295) ∧ q.body.length ≤ 400
theorem itF_fit (bs : List Nat) (s : Rs) : ItFit (itF bs s).1 := by
  refine ⟨⟨by simp [itF], ?_⟩, ⟨by simp [itF], ?_⟩, ?_⟩
  · have := numF_le bs 1099511627776 s
    simp only [itF]
    omega
  · have := numF_le bs 4294967295 (numF bs 1099511627776 s).2
    simp only [itF]
    omega
  · have h1 := numF_le bs 400 (numF bs 4294967295 (numF bs 1099511627776 s).2).2
    have h2 := byF_len (bs := bs) (c := (numF bs 400 (numF bs 4294967295 (numF bs 1099511627776 s).2).2).1) (s := (numF bs 400 (numF bs 4294967295 (numF bs 1099511627776 s).2).2).2)
    simp only [itF]
    omega
theorem itsF_fit (bs : List Nat) : ∀ (k : Nat) (acc : List It) (s : Rs), (∀ q ∈ acc, ItFit q) → ∀ q ∈ (itsF bs k acc s).1, ItFit q
  | 0, acc, s, h => h
  | k + 1, acc, s, h => by
    rw [itsF]
    refine itsF_fit bs k _ _ fun q hq => ?_
    rcases List.mem_append.1 hq with hq | hq
    · exact h q hq
    · rw [List.mem_singleton.1 hq]
      exact itF_fit bs s
theorem parF_fit (bs : List Nat) (k : Int) (s : Rs) : ∀ q ∈ (parF bs k s).1.items, ItFit q := by
  intro q hq
  simp only [parF] at hq
  split at hq
  · exact itsF_fit bs _ _ _ (fun q hq => by cases hq) q hq
  · cases hq
theorem ItFit.wide {q : It} (h : ItFit q) : ((-9223372036854775808 : Int) ≤ q.tick ∧ q.tick ≤ 9223372036854775807) ∧ (0 ≤ q.for_ ∧ q.for_ ≤ 4294967295) := ⟨⟨by have := h.1; omega, by have := h.1; omega⟩, h.2.1⟩
theorem parF_kind (bs : List Nat) (k : Int) (s : Rs) : (parF bs k s).1.kind = k := rfl

def Pc.zero : Pc := ⟨0, 0, 0, 0, 0, 0, [], []⟩
/-- The parcel whose bytes they are, and the error. -/
def endE (bs : List Nat) (s : Rs) : Int := if s.ft = 0 ∧ s.at_ ≠ bs.length then 4 else s.ft
def takeP (bs : List Nat) : Pc × Int :=
  if bs.length = 0 then (Pc.zero, 3) else if isB (bs.getD 0 0 : Nat) = true then
    (if endE bs (parF bs (bs.getD 0 0 : Nat) ⟨1, 0⟩).2 = 0 then
      (if chk (parF bs (bs.getD 0 0 : Nat) ⟨1, 0⟩).1 = 0 then ((parF bs (bs.getD 0 0 : Nat) ⟨1, 0⟩).1, 0) else (Pc.zero, chk (parF bs (bs.getD 0 0 : Nat) ⟨1, 0⟩).1))
      else (Pc.zero, endE bs (parF bs (bs.getD 0 0 : Nat) ⟨1, 0⟩).2)) else (Pc.zero, 12)
theorem takeP_none {bs : List Nat} (h : bs.length = 0) : takeP bs = (Pc.zero, 3) := if_pos h
theorem takeP_type {bs : List Nat} (h : ¬ bs.length = 0) (h2 : isB (bs.getD 0 0 : Nat) = false) : takeP bs = (Pc.zero, 12) := by rw [takeP, if_neg h, h2]; rfl
theorem takeP_end {bs : List Nat} {r : Pc × Rs} (h : ¬ bs.length = 0) (h2 : isB (bs.getD 0 0 : Nat) = true) (hr : r = parF bs (bs.getD 0 0 : Nat) ⟨1, 0⟩) (h3 : endE bs r.2 ≠ 0) : takeP bs = (Pc.zero, endE bs r.2) := by
  subst hr
  rw [takeP, if_neg h, if_pos h2, if_neg h3]
theorem takeP_chk {bs : List Nat} {r : Pc × Rs} (h : ¬ bs.length = 0) (h2 : isB (bs.getD 0 0 : Nat) = true) (hr : r = parF bs (bs.getD 0 0 : Nat) ⟨1, 0⟩) (h3 : endE bs r.2 = 0) (h4 : chk r.1 ≠ 0) : takeP bs = (Pc.zero, chk r.1) := by
  subst hr
  rw [takeP, if_neg h, if_pos h2, if_pos h3, if_neg h4]
theorem takeP_ok {bs : List Nat} {r : Pc × Rs} (h : ¬ bs.length = 0) (h2 : isB (bs.getD 0 0 : Nat) = true) (hr : r = parF bs (bs.getD 0 0 : Nat) ⟨1, 0⟩) (h3 : endE bs r.2 = 0) (h4 : chk r.1 = 0) : takeP bs = (r.1, 0) := by
  subst hr
  rw [takeP, if_neg h, if_pos h2, if_pos h3, if_pos h4]

theorem rd_parcel (k : Int) (hk0 : isB k = true) (R P g o len cap : Nat) (bs : List Nat) (s : Rs) (w : World) (hk : Rdr w R (some ⟨g, o, none⟩) len cap s) (hp : Bk w P #[.int .i64 k, .int .i64 0, .int .i64 0, .int .i64 0, .int .i64 0, .int .i64 0, .slice none 0 0, .slice none 0 0] 26) (hne : P ≠ R) (hr : Rd w (some ⟨g, o, none⟩) len bs) (hlc : len ≤ cap) (hl : len ≤ 140737488351232) (hx : s.fine bs) :
    Calls Try.prog 36 #[.pointer (some ⟨R, 0, none⟩), .pointer (some ⟨P, 0, none⟩), .agg #[.bool (subB k), .bool (fromB k), .bool (toB k), .bool (newsB k)]] w fun e w' => e = .returned (.tuple #[]) ∧ Hid (ParTold w w' R P g o len cap (parF bs k s)) := by
  rcases kinds hk0 with rfl | rfl | rfl | rfl | rfl | rfl
  · exact rd_parcel_tell 1 rfl R P g o len cap bs s w hk hp hne hr hlc hl hx
  · exact rd_parcel_want 2 rfl R P g o len cap bs s w hk hp hne hr hlc hl hx
  · exact rd_parcel_ack 3 (.inl rfl) R P g o len cap bs s w hk hp hne hr hlc hl hx
  · exact rd_parcel_join 4 (.inl rfl) R P g o len cap bs s w hk hp hne hr hlc hl hx
  · exact rd_parcel_ack 5 (.inr rfl) R P g o len cap bs s w hk hp hne hr hlc hl hx
  · exact rd_parcel_join 6 (.inr rfl) R P g o len cap bs s w hk hp hne hr hlc hl hx

theorem results_parcel {f : Func} {w : World} {tmps : Array Value} {g : Nat} {t : TypeId} {v0 v1 v2 v3 v4 v5 v6 v7 e : Value} (hf : f.results = #[.cell 2 26, .tmp 3]) (h4 : tmps[2]?.getD undef = .pointer (some ⟨g, 0, none⟩)) (h5 : tmps[3]?.getD undef = e)
    (k : Bk w g #[v0, v1, v2, v3, v4, v5, v6, v7] t) : (results f tmps).run Try.prog w = .ok (.tuple #[.agg #[v0, v1, v2, v3, v4, v5, v6, v7], e]) w := by
  have k0 := k.cell 0 rfl
  have k1 := k.cell 1 rfl
  have k2 := k.cell 2 rfl
  have k3 := k.cell 3 rfl
  have k4 := k.cell 4 rfl
  have k5 := k.cell 5 rfl
  have k6 := k.cell 6 rfl
  have k7 := k.cell 7 rfl
  simp [results, hf, go_sem, h4, h5, k0, k1, k2, k3, k4, k5, k6, k7]
def TakeP13 (w w' : World) (r : Pc × Int) (e : Ending) : Prop := ∃ sa sn sc ia im ic L, e = .returned (.tuple #[r.1.val sa sn sc ia im ic, .int .i64 r.2]) ∧ Sps w' w.heap.size (.slice sa sn sc) r.1.spans ∧ Its w' w.heap.size (.slice ia im ic) L ∧ L.map Prod.fst = r.1.items
theorem TakeP13.bad (w w' : World) (f : Int) : TakeP13 w w' (Pc.zero, f) (.returned (.tuple #[Pc.zero.val none 0 0 none 0 0, .int .i64 f])) := ⟨none, 0, 0, none, 0, 0, [], rfl, Sps.nil_ _ _, Its.nil_ _ _, rfl⟩
end Go.Proofs.Ytjpkhefegpbooaa
