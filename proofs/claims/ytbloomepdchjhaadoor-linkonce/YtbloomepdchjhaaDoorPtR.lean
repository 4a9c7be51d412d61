/- A pack of texts: Pt7 Pt8. -/
import Derived.Test.YtbloomepdchjhaaDoorPt6
import Derived.Test.YtbloomepdchjhaaDoorPcP
/- parcel.Take. -/
namespace Go.Proofs.YtbloomepdchjhaaDoor
open Go.RowKit

def ItFit (q : It) : Prop := (0 ≤ q.tick ∧ q.tick ≤ 1099511627776) ∧ (0 ≤ q.for_ ∧ q.for_ ≤ 4294967295) ∧ q.body.length ≤ 400
theorem itF_fit (bs : List Nat) (s : Rs) : ItFit (itF bs s).1 := by
  refine ⟨⟨by simp [itF], ?_⟩, ⟨by simp [itF], ?_⟩, ?_⟩
  · have := numF_le bs 1099511627776 s
    simp only [itF]
    omega
  · have := numF_le bs 4294967295 (numF bs 1099511627776 s).2
    simp only [itF]
    omega
  · have h1 := numF_le bs 400 (numF bs 4294967295 (numF bs 1099511627776 s).2).2
    have h2 := byF_len (bs := bs) (c := (numF bs 400 (numF bs 4294967295 (numF bs 1099511627776 s).2).2).1) (s := (numF bs 400 (numF bs 4294967295 (numF bs 1099511627776 s).2).2).2)
    simp only [itF]
    omega
theorem itsF_fit (bs : List Nat) : ∀ (k : Nat) (acc : List It) (s : Rs), (∀ q ∈ acc, ItFit q) → ∀ q ∈ (itsF bs k acc s).1, ItFit q
  | 0, acc, s, h => h
  | k + 1, acc, s, h => by
    rw [itsF]
    refine itsF_fit bs k _ _ fun q hq => ?_
    rcases List.mem_append.1 hq with hq | hq
    · exact h q hq
    · rw [List.mem_singleton.1 hq]
      exact itF_fit bs s
theorem parF_fit (bs : List Nat) (k : Int) (s : Rs) : ∀ q ∈ (parF bs k s).1.items, ItFit q := by
  intro q hq
  simp only [parF] at hq
  split at hq
  · exact itsF_fit bs _ _ _ (fun q hq => by cases hq) q hq
  · cases hq
theorem ItFit.wide {q : It} (h : ItFit q) : ((-9223372036854775808 : Int) ≤ q.tick ∧ q.tick ≤ 9223372036854775807) ∧ (0 ≤ q.for_ ∧ q.for_ ≤ 4294967295) := ⟨⟨by have := h.1; omega, by have := h.1; omega⟩, h.2.1⟩
theorem parF_kind (bs : List Nat) (k : Int) (s : Rs) : (parF bs k s).1.kind = k := rfl

def Pc.zero : Pc := ⟨0, 0, 0, 0, 0, 0, [], []⟩
/-- The parcel whose bytes they are, and the error. -/
def endE (bs : List Nat) (s : Rs) : Int := if s.ft = 0 ∧ s.at_ ≠ bs.length then 4 else s.ft
def takeP (bs : List Nat) : Pc × Int :=
  if bs.length = 0 then (Pc.zero, 3) else if isB (bs.getD 0 0 : Nat) = true then
    (if endE bs (parF bs (bs.getD 0 0 : Nat) ⟨1, 0⟩).2 = 0 then
      (if chk (parF bs (bs.getD 0 0 : Nat) ⟨1, 0⟩).1 = 0 then ((parF bs (bs.getD 0 0 : Nat) ⟨1, 0⟩).1, 0) else (Pc.zero, chk (parF bs (bs.getD 0 0 : Nat) ⟨1, 0⟩).1))
      else (Pc.zero, endE bs (parF bs (bs.getD 0 0 : Nat) ⟨1, 0⟩).2)) else (Pc.zero, 12)
theorem takeP_none {bs : List Nat} (h : bs.length = 0) : takeP bs = (Pc.zero, 3) := if_pos h
theorem takeP_type {bs : List Nat} (h : ¬ bs.length = 0) (h2 : isB (bs.getD 0 0 : Nat) = false) : takeP bs = (Pc.zero, 12) := by rw [takeP, if_neg h, h2]; rfl
theorem takeP_end {bs : List Nat} {r : Pc × Rs} (h : ¬ bs.length = 0) (h2 : isB (bs.getD 0 0 : Nat) = true) (hr : r = parF bs (bs.getD 0 0 : Nat) ⟨1, 0⟩) (h3 : endE bs r.2 ≠ 0) : takeP bs = (Pc.zero, endE bs r.2) := by
  subst hr
  rw [takeP, if_neg h, if_pos h2, if_neg h3]
theorem takeP_chk {bs : List Nat} {r : Pc × Rs} (h : ¬ bs.length = 0) (h2 : isB (bs.getD 0 0 : Nat) = true) (hr : r = parF bs (bs.getD 0 0 : Nat) ⟨1, 0⟩) (h3 : endE bs r.2 = 0) (h4 : chk r.1 ≠ 0) : takeP bs = (Pc.zero, chk r.1) := by
  subst hr
  rw [takeP, if_neg h, if_pos h2, if_pos h3, if_neg h4]
theorem takeP_ok {bs : List Nat} {r : Pc × Rs} (h : ¬ bs.length = 0) (h2 : isB (bs.getD 0 0 : Nat) = true) (hr : r = parF bs (bs.getD 0 0 : Nat) ⟨1, 0⟩) (h3 : endE bs r.2 = 0) (h4 : chk r.1 = 0) : takeP bs = (r.1, 0) := by
  subst hr
  rw [takeP, if_neg h, if_pos h2, if_pos h3, if_pos h4]

theorem rd_parcel (k : Int) (hk0 : isB k = true) (R P g o len cap : Nat) (bs : List Nat) (s : Rs) (w : World) (hk : Rdr w R (some ⟨g, o, none⟩) len cap s) (hp : Bk w P #[.int .i64 k, .int .i64 0, .int .i64 0, .int .i64 0, .int .i64 0, .int .i64 0, .slice none 0 0, .slice none 0 0] 37) (hne : P ≠ R) (hr : Rd w (some ⟨g, o, none⟩) len bs) (hlc : len ≤ cap) (hl : len ≤ 140737488351232) (hx : s.fine bs) :
    Calls Tryd.prog 55 #[.pointer (some ⟨R, 0, none⟩), .pointer (some ⟨P, 0, none⟩), .agg #[.bool (subB k), .bool (fromB k), .bool (toB k), .bool (newsB k)]] w fun e w' => e = .returned (.tuple #[]) ∧ Hid (ParTold w w' R P g o len cap (parF bs k s)) := by
  rcases kinds hk0 with rfl | rfl | rfl | rfl | rfl | rfl
  · exact rd_parcel_tell 1 rfl R P g o len cap bs s w hk hp hne hr hlc hl hx
  · exact rd_parcel_want 2 rfl R P g o len cap bs s w hk hp hne hr hlc hl hx
  · exact rd_parcel_ack 3 (.inl rfl) R P g o len cap bs s w hk hp hne hr hlc hl hx
  · exact rd_parcel_join 4 (.inl rfl) R P g o len cap bs s w hk hp hne hr hlc hl hx
  · exact rd_parcel_ack 5 (.inr rfl) R P g o len cap bs s w hk hp hne hr hlc hl hx
  · exact rd_parcel_join 6 (.inr rfl) R P g o len cap bs s w hk hp hne hr hlc hl hx

theorem results_parcel {f : Func} {w : World} {tmps : Array Value} {g : Nat} {t : TypeId} {v0 v1 v2 v3 v4 v5 v6 v7 e : Value} (hf : f.results = #[.cell 2 37, .tmp 3]) (h4 : tmps[2]?.getD undef = .pointer (some ⟨g, 0, none⟩)) (h5 : tmps[3]?.getD undef = e)
    (k : Bk w g #[v0, v1, v2, v3, v4, v5, v6, v7] t) : (results f tmps).run Tryd.prog w = .ok (.tuple #[.agg #[v0, v1, v2, v3, v4, v5, v6, v7], e]) w := by
  have k0 := k.cell 0 rfl
  have k1 := k.cell 1 rfl
  have k2 := k.cell 2 rfl
  have k3 := k.cell 3 rfl
  have k4 := k.cell 4 rfl
  have k5 := k.cell 5 rfl
  have k6 := k.cell 6 rfl
  have k7 := k.cell 7 rfl
  simp [results, hf, go_sem, h4, h5, k0, k1, k2, k3, k4, k5, k6, k7]
def TakeP13 (w w' : World) (r : Pc × Int) (e : Ending) : Prop := ∃ sa sn sc ia im ic L, e = .returned (.tuple #[r.1.val sa sn sc ia im ic, .int .i64 r.2]) ∧ Sps w' w.heap.size (.slice sa sn sc) r.1.spans ∧ Its w' w.heap.size (.slice ia im ic) L ∧ L.map Prod.fst = r.1.items
theorem TakeP13.bad (w w' : World) (f : Int) : TakeP13 w w' (Pc.zero, f) (.returned (.tuple #[Pc.zero.val none 0 0 none 0 0, .int .i64 f])) := ⟨none, 0, 0, none, 0, 0, [], rfl, Sps.nil_ _ _, Its.nil_ _ _, rfl⟩
end Go.Proofs.YtbloomepdchjhaaDoor
/- parcel.Take: the walk. -/
namespace Go.Proofs.YtbloomepdchjhaaDoor
open Go.RowKit

set_option maxRecDepth 100000 in
set_option maxHeartbeats 1000000 in
theorem pc_Take (a : Option Addr) (len cap : Nat) (bs : List Nat) (w : World) (hr : Rd w a len bs) (hlc : len ≤ cap) (hl : len ≤ 140737488351232) :
    Calls Tryd.prog 37 #[.slice a len cap] w fun e w' => Hid (TakeP13 w w' (takeP bs) e) ∧ Below w.heap.size w w' := by
  have HR : Hid (Rd w a len bs) := hr
  have HSZ : Hid (bs.length = len) := hr.size
  have HBX0 : Hid (Below w.heap.size w (w.alloc (.cells #[.int .i64 0, .int .i64 0, .int .i64 0, .int .i64 0, .int .i64 0, .int .i64 0, .slice none 0 0, .slice none 0 0] 37))) := below_new _ _
  have HKX0 : Hid (Bk (w.alloc (.cells #[.int .i64 0, .int .i64 0, .int .i64 0, .int .i64 0, .int .i64 0, .int .i64 0, .slice none 0 0, .slice none 0 0] 37)) w.heap.size #[.int .i64 0, .int .i64 0, .int .i64 0, .int .i64 0, .int .i64 0, .int .i64 0, .slice none 0 0, .slice none 0 0] 37) := Bk.new _ _ _
  obtain ⟨T, HT⟩ : ∃ T, Hid (T = takeP bs) := ⟨_, rfl⟩
  rw [← HT.out]
  clear hr
  by_cases h0 : len = 0
  · have HTE : Hid (T = (Pc.zero, 3)) := HT.out.trans (takeP_none (by rw [HSZ.out]; exact h0))
    subst h0
    clear HT
    go_enter Tryd.func37, Tryd.ntmps37
    go_wp2
    go_returns
    rw [HTE.out]
    exact ⟨TakeP13.bad _ _ _, HBX0.out⟩
  · obtain ⟨g, o, rfl, hc0⟩ : ∃ g o, a = some ⟨g, o, none⟩ ∧ w.cell? ⟨g, o, none⟩ = some (.int .u8 ((bs.getD 0 0 : Nat) : Int)) := by
      rcases HR.out.cells with h1 | ⟨g, o, h1, _, hc⟩
      · exact absurd h1 h0
      · exact ⟨g, o, h1, hc 0 (by omega)⟩
    have HN0 : Hid (¬ bs.length = 0) := by show ¬ _; rw [HSZ.out]; exact h0
    have hb0 : bs.getD 0 0 < 256 := getD_lt HR.out.byte 0
    obtain ⟨b0, hb0e⟩ : ∃ b0, b0 = bs.getD 0 0 := ⟨_, rfl⟩
    have HB0 : Hid (b0 = bs.getD 0 0) := hb0e
    rw [← hb0e] at hc0 hb0
    have hlen : (0 : Int) < (len : Int) := by omega
    have hlen1 : ¬ (len : Int) = 0 := by omega
    have hc1 : (w.alloc (.cells #[.int .i64 0, .int .i64 0, .int .i64 0, .int .i64 0, .int .i64 0, .int .i64 0, .slice none 0 0, .slice none 0 0] 37)).cell? ⟨g, o, none⟩ = some (.int .u8 (b0 : Int)) := (HBX0.out.cell (p := ⟨g, o, none⟩) (World.block_lt_of_cell? w _ hc0)).trans hc0
    have HBX1 : Hid (Below w.heap.size w ((w.alloc (.cells #[.int .i64 0, .int .i64 0, .int .i64 0, .int .i64 0, .int .i64 0, .int .i64 0, .slice none 0 0, .slice none 0 0] 37)).alloc (.cells #[.int .i64 (b0 : Int), .int .i64 0, .int .i64 0, .int .i64 0, .int .i64 0, .int .i64 0, .slice none 0 0, .slice none 0 0] 37))) := HBX0.out.alloc HBX0.out.size _
    have HKX1 : Hid (Bk ((w.alloc (.cells #[.int .i64 0, .int .i64 0, .int .i64 0, .int .i64 0, .int .i64 0, .int .i64 0, .slice none 0 0, .slice none 0 0] 37)).alloc (.cells #[.int .i64 (b0 : Int), .int .i64 0, .int .i64 0, .int .i64 0, .int .i64 0, .int .i64 0, .slice none 0 0, .slice none 0 0] 37)) w.heap.size #[.int .i64 0, .int .i64 0, .int .i64 0, .int .i64 0, .int .i64 0, .int .i64 0, .slice none 0 0, .slice none 0 0] 37) := HKX0.out.stay (below_new _ _)
    have HPX1 : Hid (Bk ((w.alloc (.cells #[.int .i64 0, .int .i64 0, .int .i64 0, .int .i64 0, .int .i64 0, .int .i64 0, .slice none 0 0, .slice none 0 0] 37)).alloc (.cells #[.int .i64 (b0 : Int), .int .i64 0, .int .i64 0, .int .i64 0, .int .i64 0, .int .i64 0, .slice none 0 0, .slice none 0 0] 37)) (w.heap.size + 1) #[.int .i64 (b0 : Int), .int .i64 0, .int .i64 0, .int .i64 0, .int .i64 0, .int .i64 0, .slice none 0 0, .slice none 0 0] 37) := by
      have h := Bk.new (w.alloc (.cells #[.int .i64 0, .int .i64 0, .int .i64 0, .int .i64 0, .int .i64 0, .int .i64 0, .slice none 0 0, .slice none 0 0] 37)) #[.int .i64 (b0 : Int), .int .i64 0, .int .i64 0, .int .i64 0, .int .i64 0, .int .i64 0, .slice none 0 0, .slice none 0 0] 37
      rwa [show (w.alloc (.cells #[.int .i64 0, .int .i64 0, .int .i64 0, .int .i64 0, .int .i64 0, .int .i64 0, .slice none 0 0, .slice none 0 0] 37)).heap.size = w.heap.size + 1 from by simp] at h
    clear hb0e
    go_enter Tryd.func37, Tryd.ntmps37
    go_wp2_with fail
    refine (pc_usedBy (b0 : Int) _).mono ?_
    rintro e w1 ⟨rfl, hb1⟩
    have HB1 : Hid (Below w.heap.size w w1) := HBX1.out.trans (hb1.mono HBX1.out.size)
    have HK1 : Hid (Bk w1 w.heap.size #[.int .i64 0, .int .i64 0, .int .i64 0, .int .i64 0, .int .i64 0, .int .i64 0, .slice none 0 0, .slice none 0 0] 37) := HKX1.out.stay hb1
    have HP1 : Hid (Bk w1 (w.heap.size + 1) #[.int .i64 (b0 : Int), .int .i64 0, .int .i64 0, .int .i64 0, .int .i64 0, .int .i64 0, .slice none 0 0, .slice none 0 0] 37) := HPX1.out.stay hb1
    clear hb1 HBX1 HKX1 HPX1 HBX0 HKX0 hc0 hc1
    obtain ⟨su, hsu⟩ : ∃ x, x = subB (b0 : Int) := ⟨_, rfl⟩
    obtain ⟨fr, hfr⟩ : ∃ x, x = fromB (b0 : Int) := ⟨_, rfl⟩
    obtain ⟨to_, hto⟩ : ∃ x, x = toB (b0 : Int) := ⟨_, rfl⟩
    obtain ⟨nw, hnw⟩ : ∃ x, x = newsB (b0 : Int) := ⟨_, rfl⟩
    have HUS : Hid (su = subB (b0 : Int) ∧ fr = fromB (b0 : Int) ∧ to_ = toB (b0 : Int) ∧ nw = newsB (b0 : Int)) := ⟨hsu, hfr, hto, hnw⟩
    rw [← hsu, ← hfr, ← hto, ← hnw]
    clear hsu hfr hto hnw
    have HB2 : Hid (Below w.heap.size w (w1.alloc (.cells #[.bool su, .bool fr, .bool to_, .bool nw] 86))) := HB1.out.alloc HB1.out.size _
    have HK2 : Hid (Bk (w1.alloc (.cells #[.bool su, .bool fr, .bool to_, .bool nw] 86)) w.heap.size #[.int .i64 0, .int .i64 0, .int .i64 0, .int .i64 0, .int .i64 0, .int .i64 0, .slice none 0 0, .slice none 0 0] 37) := HK1.out.stay (below_new _ _)
    have HSZ1 : Hid (w.heap.size + 1 < w1.heap.size) := HP1.out.lt
    cases his : isB (b0 : Int) with
    | false =>
      have HTE : Hid (T = (Pc.zero, 12)) := HT.out.trans (takeP_type HN0.out (by rw [← HB0.out]; exact his))
      have z0 : (w1.alloc (.cells #[.bool su, .bool fr, .bool to_, .bool nw] 86)).cell? ⟨w.heap.size, 0, none⟩ = some (.int .i64 0) := HK2.out.cell 0 rfl
      have z1 : (w1.alloc (.cells #[.bool su, .bool fr, .bool to_, .bool nw] 86)).cell? ⟨w.heap.size, 1, none⟩ = some (.int .i64 0) := HK2.out.cell 1 rfl
      have z2 : (w1.alloc (.cells #[.bool su, .bool fr, .bool to_, .bool nw] 86)).cell? ⟨w.heap.size, 2, none⟩ = some (.int .i64 0) := HK2.out.cell 2 rfl
      have z3 : (w1.alloc (.cells #[.bool su, .bool fr, .bool to_, .bool nw] 86)).cell? ⟨w.heap.size, 3, none⟩ = some (.int .i64 0) := HK2.out.cell 3 rfl
      have z4 : (w1.alloc (.cells #[.bool su, .bool fr, .bool to_, .bool nw] 86)).cell? ⟨w.heap.size, 4, none⟩ = some (.int .i64 0) := HK2.out.cell 4 rfl
      have z5 : (w1.alloc (.cells #[.bool su, .bool fr, .bool to_, .bool nw] 86)).cell? ⟨w.heap.size, 5, none⟩ = some (.int .i64 0) := HK2.out.cell 5 rfl
      have z6 : (w1.alloc (.cells #[.bool su, .bool fr, .bool to_, .bool nw] 86)).cell? ⟨w.heap.size, 6, none⟩ = some (.slice none 0 0) := HK2.out.cell 6 rfl
      have z7 : (w1.alloc (.cells #[.bool su, .bool fr, .bool to_, .bool nw] 86)).cell? ⟨w.heap.size, 7, none⟩ = some (.slice none 0 0) := HK2.out.cell 7 rfl
      have f0 : ∀ i, (w1.alloc (.cells #[.bool su, .bool fr, .bool to_, .bool nw] 86)).frozen? ⟨w.heap.size, i, none⟩ = false := fun i => HK2.out.free i
      clear HT his
      go_wp2
      try simp only [Exit.inBlock, Exit.then]
      change bodyPost _ _ _ _ _ (set8 _ w.heap.size (.int .i64 0) (.int .i64 0) (.int .i64 0) (.int .i64 0) (.int .i64 0) (.int .i64 0) (.slice none 0 0) (.slice none 0 0))
      refine bodyPost_ret (results_parcel rfl (by rfl) (by rfl) (HK2.out.set8 (.int .i64 0) (.int .i64 0) (.int .i64 0) (.int .i64 0) (.int .i64 0) (.int .i64 0) (.slice none 0 0) (.slice none 0 0))) rfl ?_
      rw [HTE.out]
      exact ⟨TakeP13.bad _ _ _, set8_below HB2.out _ (Nat.le_refl _) (.int .i64 0) (.int .i64 0) (.int .i64 0) (.int .i64 0) (.int .i64 0) (.int .i64 0) (.slice none 0 0) (.slice none 0 0)⟩
    | true =>
      obtain ⟨r, hr0⟩ : ∃ r, r = parF bs (b0 : Int) ⟨1, 0⟩ := ⟨_, rfl⟩
      have HRE : Hid (r = parF bs (b0 : Int) ⟨1, 0⟩) := hr0
      have HRB : Hid (r = parF bs (bs.getD 0 0 : Nat) ⟨1, 0⟩) := by rw [← HB0.out]; exact hr0
      have HIS : Hid (isB (bs.getD 0 0 : Nat) = true) := by rw [← HB0.out]; exact his
      have HIS0 : Hid (isB (b0 : Int) = true) := his
      clear hr0 his
      obtain ⟨w3, HW3⟩ : ∃ w3, Hid (w3 = (w1.alloc (.cells #[.bool su, .bool fr, .bool to_, .bool nw] 86)).alloc (.cells #[.slice (some ⟨g, o, none⟩) len cap, .int .i64 1, .int .i64 0] 121)) := ⟨_, rfl⟩
      have HS12 : Hid ((w1.alloc (.cells #[.bool su, .bool fr, .bool to_, .bool nw] 86)).heap.size = w1.heap.size + 1) := by show _ = _; simp
      have HB3 : Hid (Below w.heap.size w w3) := by rw [HW3.out]; exact HB2.out.alloc HB2.out.size _
      have HK3 : Hid (Bk w3 w.heap.size #[.int .i64 0, .int .i64 0, .int .i64 0, .int .i64 0, .int .i64 0, .int .i64 0, .slice none 0 0, .slice none 0 0] 37) := by rw [HW3.out]; exact HK2.out.stay (below_new _ _)
      have HP3 : Hid (Bk w3 (w.heap.size + 1) #[.int .i64 (b0 : Int), .int .i64 0, .int .i64 0, .int .i64 0, .int .i64 0, .int .i64 0, .slice none 0 0, .slice none 0 0] 37) := by rw [HW3.out]; exact (HP1.out.stay (below_new _ _)).stay (below_new _ _)
      have HU3 : Hid (Bk ((w1.alloc (.cells #[.bool su, .bool fr, .bool to_, .bool nw] 86)).alloc (.cells #[.slice (some ⟨g, o, none⟩) len cap, .int .i64 1, .int .i64 0] 121)) w1.heap.size #[.bool su, .bool fr, .bool to_, .bool nw] 86) := (Bk.new w1 _ _).stay (below_new _ _)
      have HD3 : Hid (Rdr w3 (w1.heap.size + 1) (some ⟨g, o, none⟩) len cap ⟨1, 0⟩) := by
        rw [HW3.out, ← HS12.out]
        exact Bk.new _ _ _
      have HR3 : Hid (Rd w3 (some ⟨g, o, none⟩) len bs) := HR.out.below HB3.out
      have HFN : Hid (Rs.fine ⟨1, 0⟩ bs) := fun _ => ⟨by decide, by show (1 : Int) ≤ bs.length; rw [HSZ.out]; omega⟩
      have HLC : Hid (len ≤ cap ∧ len ≤ 140737488351232) := ⟨hlc, hl⟩
      clear hlc hl HB1 HK1 HP1 HB2 HK2
      have hcp := rd_parcel (b0 : Int) HIS0.out (w1.heap.size + 1) (w.heap.size + 1) g o len cap bs ⟨1, 0⟩ w3 HD3.out HP3.out (by have := HSZ1.out; omega) HR3.out HLC.out.1 HLC.out.2 HFN.out
      rw [← HRE.out, ← HUS.out.1, ← HUS.out.2.1, ← HUS.out.2.2.1, ← HUS.out.2.2.2] at hcp
      have HCP : Hid (Calls Tryd.prog 55 #[.pointer (some ⟨w1.heap.size + 1, 0, none⟩), .pointer (some ⟨w.heap.size + 1, 0, none⟩), .agg #[.bool su, .bool fr, .bool to_, .bool nw]] w3 fun e w' => e = .returned (.tuple #[]) ∧ Hid (ParTold w3 w' (w1.heap.size + 1) (w.heap.size + 1) g o len cap r)) := hcp
      clear hcp
      have u0 := HU3.out.cell 0 rfl
      go_wp2_with fail
      rw [← HW3.out]
      refine HCP.out.mono ?_
      rintro e w4 ⟨he, hpt⟩
      subst he
      obtain ⟨sv, iv, LI, hp4, hs4, hi4, hm4, hk4, hg4⟩ := hpt.out
      obtain ⟨sa, sc, rfl, hsc⟩ := hs4.form
      obtain ⟨ia, ic, rfl, hic, hicm⟩ := hi4.form
      have HFT : Hid (∀ q ∈ r.1.items, ItFit q) := by rw [HRE.out]; exact parF_fit _ _ _
      have hspl : r.1.spans.length = r.1.spans.length := rfl
      have HSM : Hid (r.1.spans.length ≤ sc ∧ sc ≤ maxLen) := by
        rcases hs4.row.2 with ⟨h1, h2⟩ | ⟨g', c', cur, h1, _, _, h4, h5, _⟩
        · simp only [Value.slice.injEq] at h1
          exact ⟨by omega, by omega⟩
        · simp only [Value.slice.injEq] at h1
          obtain ⟨_, _, rfl⟩ := h1
          exact ⟨h4, h5⟩
      have HIM : Hid (LI.length ≤ ic ∧ ic ≤ maxLen) := ⟨hic, hicm⟩
      obtain ⟨rp, rs⟩ := r
      obtain ⟨pk, pp, ps, pn, pf, pt, pl, pi⟩ := rp
      simp only at hp4 hs4 hi4 hm4 hk4 HFT HSM
      obtain ⟨sn, hsn⟩ : ∃ sn, sn = pl.length := ⟨_, rfl⟩
      obtain ⟨im, him⟩ : ∃ im, im = LI.length := ⟨_, rfl⟩
      have HSN : Hid (sn = pl.length ∧ im = LI.length) := ⟨hsn, him⟩
      rw [← hsn, ← him] at hp4
      rw [← hsn] at hs4
      rw [← him] at hi4
      clear hsn him
      have HG34 : Hid (Below w.heap.size w3 w4) := ⟨hg4.all.os, hg4.all.tape, hg4.all.output, hg4.all.size, fun k hk => hg4.blk k (Nat.lt_of_lt_of_le hk HB3.out.size) (by have := HSZ1.out; omega) (by omega)⟩
      have HB4 : Hid (Below w.heap.size w w4) := HB3.out.trans HG34.out
      have HK4 : Hid (Bk w4 w.heap.size #[.int .i64 0, .int .i64 0, .int .i64 0, .int .i64 0, .int .i64 0, .int .i64 0, .slice none 0 0, .slice none 0 0] 37) := HK3.out.g2 hg4 (by have := HSZ1.out; omega) (by omega)
      have HP4 : Hid (Bk w4 (w.heap.size + 1) #[.int .i64 pk, .int .i64 pp, .int .i64 ps, .int .i64 pn, .int .i64 pf, .int .i64 pt, .slice sa sn sc, .slice ia im ic] 37) := hp4
      have HSP4 : Hid (Sps w4 w3.heap.size (.slice sa sn sc) pl) := hs4
      have HIT4 : Hid (Its w4 w3.heap.size (.slice ia im ic) LI) := hi4
      have HML : Hid (LI.map Prod.fst = pi) := hm4
      have HD4 : Hid (Rdr w4 (w1.heap.size + 1) (some ⟨g, o, none⟩) len cap rs) := hk4
      have HS3 : Hid (w.heap.size + 1 < w3.heap.size) := HP3.out.lt
      clear hpt hp4 hs4 hi4 hm4 hk4 hg4 hsc hic hicm hspl HCP u0 HU3 HD3 HR3 HFN HB3 HK3 HP3 HG34 HW3
      have hce := rd_end (w1.heap.size + 1) (some ⟨g, o, none⟩) len cap bs rs w4 HD4.out (HR.out.below HB4.out)
      obtain ⟨E, hE⟩ : ∃ E, E = endE bs rs := ⟨_, rfl⟩
      have HEE : Hid (E = endE bs rs) := hE
      rw [show (if rs.ft = 0 ∧ rs.at_ ≠ bs.length then (4 : Int) else rs.ft) = E from hE.symm] at hce
      have HCE : Hid (Calls Tryd.prog 56 #[.pointer (some ⟨w1.heap.size + 1, 0, none⟩)] w4 fun e w' => e = .returned (.int .i64 E) ∧ ∃ m, w' = w4.drewN m) := hce
      clear hce hE
      go_wp2_with fail
      refine HCE.out.mono ?_
      rintro e w5 ⟨he, m5, hm5⟩
      subst he
      have hb5 : Below w4.heap.size w4 w5 := by rw [hm5]; exact below_drews (Below.refl _ _) _
      have HB5 : Hid (Below w.heap.size w w5) := HB4.out.trans (hb5.mono HB4.out.size)
      have HK5 : Hid (Bk w5 w.heap.size #[.int .i64 0, .int .i64 0, .int .i64 0, .int .i64 0, .int .i64 0, .int .i64 0, .slice none 0 0, .slice none 0 0] 37) := HK4.out.stay hb5
      have HP5 : Hid (Bk w5 (w.heap.size + 1) #[.int .i64 pk, .int .i64 pp, .int .i64 ps, .int .i64 pn, .int .i64 pf, .int .i64 pt, .slice sa sn sc, .slice ia im ic] 37) := HP4.out.stay hb5
      have HSP5 : Hid (Sps w5 w3.heap.size (.slice sa sn sc) pl) := HSP4.out.below hb5
      have HIT5 : Hid (Its w5 w3.heap.size (.slice ia im ic) LI) := HIT4.out.below hb5
      clear hm5 hb5 HK4 HP4 HSP4 HIT4 HD4 HB4 HCE
      by_cases hE0 : E = 0
      · subst hE0
        have HPR : Hid (PcRd w5 ⟨pk, pp, ps, pn, pf, pt, pl, pi⟩ sa sn sc ia im ic) := by
          refine ⟨HSP5.out.rd, ?_, ?_, HSM.out.2, ?_, HIM.out.2⟩
          · have h := HIT5.out.rd (fun q hq => (HFT.out q (by rw [← HML.out]; exact hq)).wide)
            rw [HML.out] at h
            exact h
          · rw [HSN.out.1]; exact HSM.out.1
          · rw [HSN.out.2]; exact HIM.out.1
        obtain ⟨C, hC⟩ : ∃ C, C = chk ⟨pk, pp, ps, pn, pf, pt, pl, pi⟩ := ⟨_, rfl⟩
        have HCC : Hid (C = chk ⟨pk, pp, ps, pn, pf, pt, pl, pi⟩) := hC
        have hcc := pc_Check ⟨pk, pp, ps, pn, pf, pt, pl, pi⟩ sa sn sc ia im ic w5 HPR.out
        rw [← hC] at hcc
        have HCK : Hid (Calls Tryd.prog 29 #[Pc.val ⟨pk, pp, ps, pn, pf, pt, pl, pi⟩ sa sn sc ia im ic] w5 fun e w' => e = .returned (.int .i64 C) ∧ Below w5.heap.size w5 w') := hcc
        clear hC hcc
        have p0 : w5.cell? ⟨w.heap.size + 1, 0, none⟩ = some (.int .i64 pk) := HP5.out.cell 0 rfl
        have p1 : w5.cell? ⟨w.heap.size + 1, 1, none⟩ = some (.int .i64 pp) := HP5.out.cell 1 rfl
        have p2 : w5.cell? ⟨w.heap.size + 1, 2, none⟩ = some (.int .i64 ps) := HP5.out.cell 2 rfl
        have p3 : w5.cell? ⟨w.heap.size + 1, 3, none⟩ = some (.int .i64 pn) := HP5.out.cell 3 rfl
        have p4 : w5.cell? ⟨w.heap.size + 1, 4, none⟩ = some (.int .i64 pf) := HP5.out.cell 4 rfl
        have p5 : w5.cell? ⟨w.heap.size + 1, 5, none⟩ = some (.int .i64 pt) := HP5.out.cell 5 rfl
        have p6 : w5.cell? ⟨w.heap.size + 1, 6, none⟩ = some (.slice sa sn sc) := HP5.out.cell 6 rfl
        have p7 : w5.cell? ⟨w.heap.size + 1, 7, none⟩ = some (.slice ia im ic) := HP5.out.cell 7 rfl
        go_wp2_with fail
        refine HCK.out.mono ?_
        rintro e w6 ⟨he, hb6⟩
        subst he
        have HB6 : Hid (Below w.heap.size w w6) := HB5.out.trans (hb6.mono HB5.out.size)
        have HK6 : Hid (Bk w6 w.heap.size #[.int .i64 0, .int .i64 0, .int .i64 0, .int .i64 0, .int .i64 0, .int .i64 0, .slice none 0 0, .slice none 0 0] 37) := HK5.out.stay hb6
        have HP6 : Hid (Bk w6 (w.heap.size + 1) #[.int .i64 pk, .int .i64 pp, .int .i64 ps, .int .i64 pn, .int .i64 pf, .int .i64 pt, .slice sa sn sc, .slice ia im ic] 37) := HP5.out.stay hb6
        have HSP6 : Hid (Sps w6 w3.heap.size (.slice sa sn sc) pl) := HSP5.out.below hb6
        have HIT6 : Hid (Its w6 w3.heap.size (.slice ia im ic) LI) := HIT5.out.below hb6
        clear hb6 HK5 HP5 HSP5 HIT5 HB5 HCK HPR p0 p1 p2 p3 p4 p5 p6 p7
        have z0 : w6.cell? ⟨w.heap.size, 0, none⟩ = some (.int .i64 0) := HK6.out.cell 0 rfl
        have z1 : w6.cell? ⟨w.heap.size, 1, none⟩ = some (.int .i64 0) := HK6.out.cell 1 rfl
        have z2 : w6.cell? ⟨w.heap.size, 2, none⟩ = some (.int .i64 0) := HK6.out.cell 2 rfl
        have z3 : w6.cell? ⟨w.heap.size, 3, none⟩ = some (.int .i64 0) := HK6.out.cell 3 rfl
        have z4 : w6.cell? ⟨w.heap.size, 4, none⟩ = some (.int .i64 0) := HK6.out.cell 4 rfl
        have z5 : w6.cell? ⟨w.heap.size, 5, none⟩ = some (.int .i64 0) := HK6.out.cell 5 rfl
        have z6 : w6.cell? ⟨w.heap.size, 6, none⟩ = some (.slice none 0 0) := HK6.out.cell 6 rfl
        have z7 : w6.cell? ⟨w.heap.size, 7, none⟩ = some (.slice none 0 0) := HK6.out.cell 7 rfl
        have fz : ∀ i, w6.frozen? ⟨w.heap.size, i, none⟩ = false := fun i => HK6.out.free i
        by_cases hC0 : C = 0
        · have HTE : Hid (T = (⟨pk, pp, ps, pn, pf, pt, pl, pi⟩, 0)) := HT.out.trans (takeP_ok HN0.out HIS.out HRB.out HEE.out.symm (by rw [← HCC.out]; exact hC0))
          subst hC0
          have p0 : w6.cell? ⟨w.heap.size + 1, 0, none⟩ = some (.int .i64 pk) := HP6.out.cell 0 rfl
          have p1 : w6.cell? ⟨w.heap.size + 1, 1, none⟩ = some (.int .i64 pp) := HP6.out.cell 1 rfl
          have p2 : w6.cell? ⟨w.heap.size + 1, 2, none⟩ = some (.int .i64 ps) := HP6.out.cell 2 rfl
          have p3 : w6.cell? ⟨w.heap.size + 1, 3, none⟩ = some (.int .i64 pn) := HP6.out.cell 3 rfl
          have p4 : w6.cell? ⟨w.heap.size + 1, 4, none⟩ = some (.int .i64 pf) := HP6.out.cell 4 rfl
          have p5 : w6.cell? ⟨w.heap.size + 1, 5, none⟩ = some (.int .i64 pt) := HP6.out.cell 5 rfl
          have p6 : w6.cell? ⟨w.heap.size + 1, 6, none⟩ = some (.slice sa sn sc) := HP6.out.cell 6 rfl
          have p7 : w6.cell? ⟨w.heap.size + 1, 7, none⟩ = some (.slice ia im ic) := HP6.out.cell 7 rfl
          clear HT
          go_wp2
          try simp only [Exit.inBlock, Exit.then]
          change bodyPost _ _ _ _ _ (set8 _ w.heap.size (.int .i64 pk) (.int .i64 pp) (.int .i64 ps) (.int .i64 pn) (.int .i64 pf) (.int .i64 pt) (.slice sa sn sc) (.slice ia im ic))
          refine bodyPost_ret (results_parcel rfl (by rfl) (by rfl) (HK6.out.set8 (.int .i64 pk) (.int .i64 pp) (.int .i64 ps) (.int .i64 pn) (.int .i64 pf) (.int .i64 pt) (.slice sa sn sc) (.slice ia im ic))) rfl ?_
          rw [HTE.out]
          refine ⟨⟨sa, sn, sc, ia, im, ic, LI, rfl, ?_, ?_, HML.out⟩, set8_below HB6.out _ (Nat.le_refl _) (.int .i64 pk) (.int .i64 pp) (.int .i64 ps) (.int .i64 pn) (.int .i64 pf) (.int .i64 pt) (.slice sa sn sc) (.slice ia im ic)⟩
          · exact (HSP6.out.frame fun k hb hk => set8_other _ _ _ _ _ _ _ _ _ _ k (by have := HS3.out; omega)).lower (by have := HS3.out; omega)
          · exact (HIT6.out.frame fun k hb hk => set8_other _ _ _ _ _ _ _ _ _ _ k (by have := HS3.out; omega)).lower (by have := HS3.out; omega)
        · have HTE : Hid (T = (Pc.zero, C)) := by
            have h := HT.out.trans (takeP_chk HN0.out HIS.out HRB.out HEE.out.symm (by rw [← HCC.out]; exact hC0))
            rw [← HCC.out] at h
            exact h
          have hC1 : (C == 0) = false := by simpa using hC0
          clear HT
          go_wp2
          try simp only [Exit.inBlock, Exit.then]
          change bodyPost _ _ _ _ _ (set8 _ w.heap.size (.int .i64 0) (.int .i64 0) (.int .i64 0) (.int .i64 0) (.int .i64 0) (.int .i64 0) (.slice none 0 0) (.slice none 0 0))
          refine bodyPost_ret (results_parcel rfl (by rfl) (by rfl) (HK6.out.set8 (.int .i64 0) (.int .i64 0) (.int .i64 0) (.int .i64 0) (.int .i64 0) (.int .i64 0) (.slice none 0 0) (.slice none 0 0))) rfl ?_
          rw [HTE.out]
          exact ⟨TakeP13.bad _ _ _, set8_below HB6.out _ (Nat.le_refl _) (.int .i64 0) (.int .i64 0) (.int .i64 0) (.int .i64 0) (.int .i64 0) (.int .i64 0) (.slice none 0 0) (.slice none 0 0)⟩
      · have HTE : Hid (T = (Pc.zero, E)) := by
          have h := HT.out.trans (takeP_end HN0.out HIS.out HRB.out (by rw [← HEE.out]; exact hE0))
          rw [← HEE.out] at h
          exact h
        have hE1 : (E == 0) = false := by simpa using hE0
        have z0 : w5.cell? ⟨w.heap.size, 0, none⟩ = some (.int .i64 0) := HK5.out.cell 0 rfl
        have z1 : w5.cell? ⟨w.heap.size, 1, none⟩ = some (.int .i64 0) := HK5.out.cell 1 rfl
        have z2 : w5.cell? ⟨w.heap.size, 2, none⟩ = some (.int .i64 0) := HK5.out.cell 2 rfl
        have z3 : w5.cell? ⟨w.heap.size, 3, none⟩ = some (.int .i64 0) := HK5.out.cell 3 rfl
        have z4 : w5.cell? ⟨w.heap.size, 4, none⟩ = some (.int .i64 0) := HK5.out.cell 4 rfl
        have z5 : w5.cell? ⟨w.heap.size, 5, none⟩ = some (.int .i64 0) := HK5.out.cell 5 rfl
        have z6 : w5.cell? ⟨w.heap.size, 6, none⟩ = some (.slice none 0 0) := HK5.out.cell 6 rfl
        have z7 : w5.cell? ⟨w.heap.size, 7, none⟩ = some (.slice none 0 0) := HK5.out.cell 7 rfl
        have fz : ∀ i, w5.frozen? ⟨w.heap.size, i, none⟩ = false := fun i => HK5.out.free i
        clear HT
        go_wp2
        try simp only [Exit.inBlock, Exit.then]
        change bodyPost _ _ _ _ _ (set8 _ w.heap.size (.int .i64 0) (.int .i64 0) (.int .i64 0) (.int .i64 0) (.int .i64 0) (.int .i64 0) (.slice none 0 0) (.slice none 0 0))
        refine bodyPost_ret (results_parcel rfl (by rfl) (by rfl) (HK5.out.set8 (.int .i64 0) (.int .i64 0) (.int .i64 0) (.int .i64 0) (.int .i64 0) (.int .i64 0) (.slice none 0 0) (.slice none 0 0))) rfl ?_
        rw [HTE.out]
        exact ⟨TakeP13.bad _ _ _, set8_below HB5.out _ (Nat.le_refl _) (.int .i64 0) (.int .i64 0) (.int .i64 0) (.int .i64 0) (.int .i64 0) (.int .i64 0) (.slice none 0 0) (.slice none 0 0)⟩
end Go.Proofs.YtbloomepdchjhaaDoor
