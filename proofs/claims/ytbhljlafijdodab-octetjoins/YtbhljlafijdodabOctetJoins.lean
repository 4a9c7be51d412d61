/- Proved: for every parts, bytes and place grapevinelaw02.OctetJoins answers true and leaves its arguments as they were. -/
import Derived.Test.YtbhljlafijdodabRefJoin
namespace Go.Proofs.Ytbhljlafijdodab
open Go.ChangeShapes Go.WideShapes Go.ChangeAt Go.RowKit
namespace octetJoins

/-- The error that joining parts is told with. -/
def jerr (l : List (List Nat)) : Nat := if 64 < l.length ∨ ∃ b ∈ l, 4096 < b.length then 6 else 0
def jbytes (l : List (List Nat)) : List Nat := if 64 < l.length ∨ ∃ b ∈ l, 4096 < b.length then [] else JoinM.join l

theorem long_iff {w : World} {a : Option Addr} {n : Nat} {ps : List Pt} (hp : Parts w a n ps) : (∃ p ∈ ps, 4096 < p.l) ↔ ∃ b ∈ ps.map Pt.dat, 4096 < b.length := by
  constructor
  · rintro ⟨p, h1, h2⟩
    exact ⟨p.bs, List.mem_map.2 ⟨p, h1, rfl⟩, by rw [(hp.body p h1).1.size]; exact h2⟩
  · rintro ⟨b, h1, h2⟩
    obtain ⟨p, h3, rfl⟩ := List.mem_map.1 h1
    refine ⟨p, h3, ?_⟩
    have : (Pt.dat p).length = p.l := (hp.body p h3).1.size
    omega

theorem octet_Join_any (a : Option Addr) (n cap : Nat) (ps : List Pt) (w : World) (hp : Parts w a n ps) (hm : n ≤ 9223372036854775807) (hlen : ∀ p ∈ ps, p.l ≤ 9223372036854775807) :
    Calls Try.prog 6 #[.slice a n cap] w fun e w' => ∃ a' m c', e = .returned (.tuple #[.slice a' m c', .int .i64 ((jerr (ps.map Pt.dat) : Nat) : Int)]) ∧ Rd w' a' m (jbytes (ps.map Pt.dat)) ∧ Below w.heap.size w w' := by
  have hl : (ps.map Pt.dat).length = n := by rw [List.length_map, hp.size]
  have hli := long_iff hp
  by_cases hbad : 64 < (ps.map Pt.dat).length ∨ ∃ b ∈ ps.map Pt.dat, 4096 < b.length
  · have e1 : jerr (ps.map Pt.dat) = 6 := by unfold jerr; rw [if_pos hbad]
    have e2 : jbytes (ps.map Pt.dat) = [] := by unfold jbytes; rw [if_pos hbad]
    rw [e1, e2]
    by_cases h64 : 64 < n
    · refine (octet_Join_many a n cap w h64 hm).mono ?_
      rintro e w' ⟨rfl, rfl⟩
      exact ⟨none, 0, 0, rfl, ⟨rfl, by simp, .inl rfl⟩, Below.refl _ _⟩
    · refine (octet_Join_long a n cap ps w hp (by omega) hlen (hli.2 (hbad.resolve_left (by omega)))).mono ?_
      rintro e w' ⟨rfl, rfl⟩
      exact ⟨none, 0, 0, rfl, ⟨rfl, by simp, .inl rfl⟩, Below.refl _ _⟩
  · have e1 : jerr (ps.map Pt.dat) = 0 := by unfold jerr; rw [if_neg hbad]
    have e2 : jbytes (ps.map Pt.dat) = JoinM.join (ps.map Pt.dat) := by unfold jbytes; rw [if_neg hbad]
    rw [e1, e2]
    have hno : ∀ p ∈ ps, p.l ≤ 4096 := fun p h => by
      by_cases hh : p.l ≤ 4096
      · exact hh
      · exact absurd (.inr (hli.1 ⟨p, h, by omega⟩)) hbad
    refine (octet_Join a n cap ps w hp (by omega) hno).mono ?_
    rintro e w' ⟨a', m, c', rfl, _, ho, _, hb⟩
    exact ⟨a', m, c', rfl, ho.rd, hb⟩

theorem ref_Join_any (a : Option Addr) (n cap : Nat) (ps : List Pt) (w : World) (hp : Parts w a n ps) (hm : n ≤ 9223372036854775807) (hlen : ∀ p ∈ ps, p.l ≤ 9223372036854775807) :
    Calls Try.prog 7 #[.slice a n cap] w fun e w' => ∃ a' m c', e = .returned (.tuple #[.slice a' m c', .int .i64 ((jerr (ps.map Pt.dat) : Nat) : Int)]) ∧ Rd w' a' m (jbytes (ps.map Pt.dat)) ∧ Below w.heap.size w w' := by
  have hl : (ps.map Pt.dat).length = n := by rw [List.length_map, hp.size]
  have hli := long_iff hp
  by_cases h64 : 64 < n
  · have hbad : 64 < (ps.map Pt.dat).length ∨ ∃ b ∈ ps.map Pt.dat, 4096 < b.length := .inl (by omega)
    have e1 : jerr (ps.map Pt.dat) = 6 := by unfold jerr; rw [if_pos hbad]
    have e2 : jbytes (ps.map Pt.dat) = [] := by unfold jbytes; rw [if_pos hbad]
    rw [e1, e2]
    refine (ref_Join_many a n cap w h64 hm).mono ?_
    rintro e w' ⟨rfl, rfl⟩
    exact ⟨none, 0, 0, rfl, ⟨rfl, by simp, .inl rfl⟩, Below.refl _ _⟩
  · refine (ref_Join a n cap ps w hp (by omega) hlen).mono ?_
    rintro e w' ⟨hb, hor⟩
    rcases hor with ⟨hlong, rfl⟩ | ⟨hno, a', m, c', rfl, ho⟩
    · have hbad : 64 < (ps.map Pt.dat).length ∨ ∃ b ∈ ps.map Pt.dat, 4096 < b.length := .inr (hli.1 hlong)
      have e1 : jerr (ps.map Pt.dat) = 6 := by unfold jerr; rw [if_pos hbad]
      have e2 : jbytes (ps.map Pt.dat) = [] := by unfold jbytes; rw [if_pos hbad]
      rw [e1, e2]
      exact ⟨none, 0, 0, rfl, ⟨rfl, by simp, .inl rfl⟩, hb⟩
    · have hbad : ¬ (64 < (ps.map Pt.dat).length ∨ ∃ b ∈ ps.map Pt.dat, 4096 < b.length) := by
        rintro (h | h)
        · omega
        · obtain ⟨p, h1, h2⟩ := hli.2 h
          have := hno p h1
          omega
      have e1 : jerr (ps.map Pt.dat) = 0 := by unfold jerr; rw [if_neg hbad]
      have e2 : jbytes (ps.map Pt.dat) = JoinM.join (ps.map Pt.dat) := by unfold jbytes; rw [if_neg hbad]
      rw [e1, e2]
      exact ⟨a', m, c', rfl, ho.rd, hb⟩

theorem take_lt (bs : List Nat) (x : Int) (hb : ∀ y ∈ bs, y < 256) : (Leb.take bs x).1 < 18446744073709551616 := by
  rcases h : Leb.take bs x with ⟨n, k, e⟩
  by_cases he : e = 0
  · subst he
    obtain ⟨_, _, _, _, hn, _⟩ := Leb.take_once bs x hb n k h
    exact hn
  · have hz : n = 0 := by
      unfold Leb.take at h
      split at h
      · simp only [Prod.mk.injEq] at h; exact h.1.symm
      · unfold Leb.fin at h
        simp only [Prod.mk.injEq] at h
        have := Leb.tk_zero (bs.drop x.toNat) 0 0 (by rw [h.2.2]; exact he)
        rw [← h.1]; exact this
    show n < _
    omega
theorem take_bad {bs : List Nat} {x : Int} {n k f : Nat} (hT : Leb.take bs x = (n, k, f)) (hbad : f ≠ 0 ∨ 64 < n) : JoinM.take bs x = ([], 0, if f = 0 then 6 else f) := by
  unfold JoinM.take
  rw [hT]
  cases f with
  | zero =>
    show (if 64 < n then _ else _) = _
    rw [if_pos (by omega)]
    rfl
  | succ f => rfl
theorem take_good {bs : List Nat} {x : Int} {n k : Nat} (hT : Leb.take bs x = (n, k, 0)) (h : n ≤ 64) : JoinM.take bs x = JoinM.takes bs n k := by
  unfold JoinM.take
  rw [hT]
  show (if 64 < n then _ else _) = _
  rw [if_neg (by omega)]

theorem takes_length (bs : List Nat) : ∀ (n p : Nat), (JoinM.takes bs n p).1.length ≤ n
  | 0, _ => by simp [JoinM.takes]
  | n + 1, p => by
    rcases h : range bs (p : Int) 4096 with ⟨u, v, f⟩
    by_cases hf : f = 0
    · subst hf
      rw [JoinM.takes_ok bs n p u v h]
      have := takes_length bs n v
      unfold JoinM.comb
      split
      · simp only [List.length_append, List.length_singleton]; omega
      · simp
    · rw [JoinM.takes_bad bs n p u v f h hf]
      simp
theorem take_le {bs : List Nat} {x : Int} {r : List (List Nat) × Nat × Nat} (h : JoinM.take bs x = r) : r.1.length ≤ 64 := by
  rcases hT : Leb.take bs x with ⟨n, k, f⟩
  by_cases hbad : f ≠ 0 ∨ 64 < n
  · rw [take_bad hT hbad] at h
    subst h
    simp
  · have hf : f = 0 := by omega
    subst hf
    rw [take_good hT (by omega)] at h
    subst h
    exact Nat.le_trans (takes_length bs n k) (by omega)

theorem octet_TakeJoin_any (a : Option Addr) (len cap : Nat) (bs : List Nat) (x : Int) (w : World) (hr : Rd w a len bs) (hlc : len ≤ cap) (hl : len ≤ 9223372036854775000) (hx : (-9223372036854775808 : Int) ≤ x ∧ x ≤ 9223372036854775807) (r : List (List Nat) × Nat × Nat) (hR : JoinM.take bs x = r) :
    Calls Try.prog 8 #[.slice a len cap, .int .i64 x] w fun e w' => ∃ a' c' ps, e = .returned (.tuple #[.slice a' r.1.length c', .int .i64 (r.2.1 : Int), .int .i64 (r.2.2 : Int)]) ∧ Parts w' a' r.1.length ps ∧ ps.map Pt.dat = r.1 ∧ Below w.heap.size w w' := by
  rcases hT : Leb.take bs x with ⟨n, k, f⟩
  have hnn : n < 18446744073709551616 := by
    have := (take_lt bs x hr.byte)
    rw [hT] at this
    exact this
  by_cases hbad : f ≠ 0 ∨ 64 < n
  · rw [take_bad hT hbad] at hR
    subst hR
    refine (octet_TakeJoin_head a len cap bs x w hr hl hx n k f hT hbad hnn).mono ?_
    rintro e w' ⟨rfl, rfl⟩
    exact ⟨none, 0, [], rfl, ⟨rfl, .inl rfl, fun p hp => by cases hp⟩, rfl, Below.refl _ _⟩
  · have hf : f = 0 := by omega
    subst hf
    rw [take_good hT (by omega)] at hR
    obtain ⟨b, off, rfl⟩ : ∃ b off, a = some ⟨b, off, none⟩ := by
      obtain ⟨p, hp, hpk, hkl, _, _⟩ := Leb.take_once bs x hr.byte n k hT
      rw [hr.size] at hkl
      rcases hr.cells with h | ⟨b, off, h, _⟩
      · omega
      · exact ⟨b, off, h⟩
    refine (octet_TakeJoin_body b off len cap bs x w hr hlc hl hx n k hT (by omega)).mono ?_
    rintro e w' ⟨hb, hor⟩
    rcases hor with ⟨f, _, hf, rfl⟩ | ⟨g, ps, q, hf, rfl, ho⟩
    · rw [hR] at hf
      subst hf
      exact ⟨none, 0, [], rfl, ⟨rfl, .inl rfl, fun p hp => by cases hp⟩, rfl, hb⟩
    · rw [hR] at hf
      subst hf
      have hl : (ps.map Pt.dat).length = n := by rw [List.length_map]; exact ho.size
      refine ⟨some ⟨g, 0, none⟩, n, ps, ?_, ?_, rfl, hb⟩
      · show _ = Ending.returned (.tuple #[.slice _ (ps.map Pt.dat).length _, _, _])
        rw [hl]
        rfl
      · show Parts _ _ (ps.map Pt.dat).length _
        rw [hl]
        exact ho.parts

theorem ref_TakeJoin_any (a : Option Addr) (len cap : Nat) (bs : List Nat) (x : Int) (w : World) (hr : Rd w a len bs) (hlc : len ≤ cap) (hl : len ≤ 9223372036854775000) (hx : (-9223372036854775808 : Int) ≤ x ∧ x ≤ 9223372036854775807) (r : List (List Nat) × Nat × Nat) (hR : JoinM.take bs x = r) :
    Calls Try.prog 9 #[.slice a len cap, .int .i64 x] w fun e w' => ∃ a' c' ps, e = .returned (.tuple #[.slice a' r.1.length c', .int .i64 (r.2.1 : Int), .int .i64 (r.2.2 : Int)]) ∧ Parts w' a' r.1.length ps ∧ ps.map Pt.dat = r.1 ∧ Below w.heap.size w w' := by
  rcases hT : Leb.take bs x with ⟨n, k, f⟩
  have hnn : n < 18446744073709551616 := by
    have := (take_lt bs x hr.byte)
    rw [hT] at this
    exact this
  by_cases hbad : f ≠ 0 ∨ 64 < n
  · rw [take_bad hT hbad] at hR
    subst hR
    refine (ref_TakeJoin_head a len cap bs x w hr hl hx n k f hT hbad hnn).mono ?_
    rintro e w' ⟨rfl, rfl⟩
    exact ⟨none, 0, [], rfl, ⟨rfl, .inl rfl, fun p hp => by cases hp⟩, rfl, Below.refl _ _⟩
  · have hf : f = 0 := by omega
    subst hf
    rw [take_good hT (by omega)] at hR
    refine (ref_TakeJoin_body a len cap bs x w hr hlc hl hx n k hT (by omega)).mono ?_
    rintro e w' ⟨hb, hor⟩
    rcases hor with ⟨f, _, hf, rfl⟩ | ⟨v, ps, q, hf, hpn, rfl, ho⟩
    · rw [hR] at hf
      subst hf
      exact ⟨none, 0, [], rfl, ⟨rfl, .inl rfl, fun p hp => by cases hp⟩, rfl, hb⟩
    · rw [hR] at hf
      subst hf
      obtain ⟨a', c', rfl, hpp⟩ := ho.parts
      have hl : (ps.map Pt.dat).length = ps.length := List.length_map ..
      refine ⟨a', c', ps, ?_, ?_, rfl, hb⟩
      · show _ = Ending.returned (.tuple #[.slice _ (ps.map Pt.dat).length _, _, _])
        rw [hl]
        rfl
      · show Parts _ _ (ps.map Pt.dat).length _
        rw [hl]
        exact hpp

theorem leb1 : (Leb.leb 1).length = 1 := by decide

set_option maxRecDepth 100000 in
set_option maxHeartbeats 4000000 in
theorem walk (a : Option Addr) (n cap : Nat) (ps : List Pt) (b : Option Addr) (len c : Nat) (bs : List Nat) (x : Int) (w : World)
    (hp : Parts w a n ps) (hn : n ≤ 5864062014635) (hpl : ∀ p ∈ ps, p.l ≤ 140737488351232) (hr : Rd w b len bs) (hlc : len ≤ c) (hl : len ≤ 9223372036854775000) (hx : (-9223372036854775808 : Int) ≤ x ∧ x ≤ 9223372036854775807) :
    Calls Try.prog 3 #[.slice a n cap, .slice b len c, .int .i64 x] w fun e w' => e = .returned (.bool true) ∧ Below w.heap.size w w' := by
  have HP : Hid (Parts w a n ps) := hp
  have HPS : Hid (ps.length = n) := hp.size
  have HR : Hid (Rd w b len bs) := hr
  have HX : Hid ((-9223372036854775808 : Int) ≤ x ∧ x ≤ 9223372036854775807) := hx
  have HPL : Hid (∀ p ∈ ps, p.l ≤ 140737488351232) := hpl
  have hcells : n = 0 ∨ ∃ b off, a = some ⟨b, off, none⟩ ∧ b < w.heap.size ∧ ∀ i p, ps[i]? = some p → w.cell? ⟨b, off + i, none⟩ = some (.slice p.a p.l p.c) := hp.cells
  have HCE : Hid (n = 0 ∨ ∃ b off, a = some ⟨b, off, none⟩ ∧ b < w.heap.size ∧ ∀ i p, ps[i]? = some p → w.cell? ⟨b, off + i, none⟩ = some (.slice p.a p.l p.c)) := hcells
  obtain ⟨r, HRR⟩ : ∃ r, Hid (JoinM.take bs x = r) := ⟨_, rfl⟩
  obtain ⟨je, HJE⟩ : ∃ je, Hid (je = jerr (ps.map Pt.dat)) := ⟨_, rfl⟩
  obtain ⟨jb, HJB⟩ : ∃ jb, Hid (jb = jbytes (ps.map Pt.dat)) := ⟨_, rfl⟩
  obtain ⟨i1, hi1, hy0, hy1, hy2⟩ := info_parts infoRows
  clear hp hr hx hpl hcells
  go_enter Try.func3, Try.ntmps3
  go_wp2_with (at_make; refine wpList_make_full w (by rfl) (.tmp 20) (.tmp 20) 22 (by rfl) w.heap.size 23 i1 (.slice none 0 0) 1 Try.underlying22 hi1 hy0 hy1 .i64 .i64 (n : Int) (n : Int) n (by rfl) (by rfl) rfl rfl (by rw [hy2]; omega) (by unfold maxLen; omega) (Nat.le_refl _) ?_)
  intro w2 hown2 hgrow2
  rw [made_rows] at hown2
  have HO2 : Hid (OwnParts w2 w.heap.size w.heap.size n (List.replicate n nilPt)) := ⟨hown2, fun p hp => by rw [List.eq_of_mem_replicate hp]; exact Own.nil _ _⟩
  have HB2 : Hid (Below w.heap.size w w2) := (Below.refl _ _).grown hgrow2 (Nat.le_refl _) (fun k hk => by cases hk)
  clear hown2 hgrow2
  go_wp2
  go_loopw [8] (fun t8 wr => ∃ (i : Nat) (qs : List Pt), i ≤ n ∧ t8 = .int .i64 (i : Int) ∧ Hid (OwnParts wr w.heap.size w.heap.size n (qs ++ List.replicate (n - i) nilPt)) ∧ Hid (qs.length = i) ∧ Hid (qs.map Pt.dat = (ps.take i).map Pt.dat) ∧ Hid (∀ q ∈ qs, q.l ≤ 140737488351232) ∧ Hid (Below w.heap.size w wr)) (fun t8 _ => n - (intOf t8).toNat)
  case atStart => exact ⟨0, [], by omega, rfl, (by show OwnParts _ _ _ _ _; simpa using HO2.out), rfl, rfl, (fun q hq => by cases hq), HB2⟩
  case round =>
    obtain ⟨i, qs, hi, rfl, HO, HQL, HQD, HQM, HB⟩ := hrel
    by_cases hlt : i < n
    · have hlt' : (i : Int) < (n : Int) := by omega
      obtain ⟨pb, off, rfl, hpb, hc⟩ := HCE.out.resolve_left (by omega)
      obtain ⟨p, hp⟩ : ∃ p, ps[i]? = some p := ⟨_, List.getElem?_eq_getElem (by rw [HPS.out]; exact hlt)⟩
      have hcx0 : w.cell? ⟨pb, off + i, none⟩ = some (.slice p.a p.l p.c) := hc i p hp
      have hplm := HPL.out p (List.mem_of_getElem? hp)
      have HRP : Hid (Rd w p.a p.l p.bs) := (HP.out.body p (List.mem_of_getElem? hp)).1
      have hpn := (HP.out.body p (List.mem_of_getElem? hp)).2
      have HTK : Hid (ps.take (i + 1) = ps.take i ++ [p]) := by
        show _ = _
        rw [List.take_add_one, hp]
        rfl
      obtain ⟨pa, pl, pc, pbs⟩ := p
      simp only at hcx0 hplm HRP hpn
      have HA : Hid (Below wr.heap.size wr (wr.alloc (.cells #[] 5))) := below_alloc wr _
      have HBA : Hid (Below w.heap.size w (wr.alloc (.cells #[] 5))) := HB.out.trans (HA.out.mono HB.out.size)
      have hcx : (wr.alloc (.cells #[] 5)).cell? ⟨pb, off + i, none⟩ = some (.slice pa pl pc) := (HBA.out.cell (p := ⟨pb, off + i, none⟩) hpb).trans hcx0
      have hcxr : wr.cell? ⟨pb, off + i, none⟩ = some (.slice pa pl pc) := (HB.out.cell (p := ⟨pb, off + i, none⟩) hpb).trans hcx0
      have eni : n - i = (n - (i + 1)) + 1 := by omega
      clear hp hc hcx0
      go_wp2_with (at_builtin; refine wpList_append_rd (by rfl) (.tmp 30) (.tmp 34) (by rfl) wr.heap.size (some ⟨wr.heap.size, 0, none⟩) 0 0 [] (by rfl) (Own.empty wr) pa pl pc pbs (by rfl) (HRP.out.below HBA.out) hpn (by omega) (by simp) ?_)
      intro a3 c3 w3 hown3 hgrow3 hbel3
      have HO3 : Hid (Own w3 wr.heap.size a3 pl c3 pbs) := by
        show Own _ _ _ _ _ _
        simpa using hown3
      have HB3 : Hid (Below wr.heap.size wr w3) := HA.out.trans hbel3
      have HP3 : Hid (OwnParts w3 w.heap.size w.heap.size n (qs ++ List.replicate (n - i) nilPt)) := HO.out.below HB3.out
      have hco : w3.cell? ⟨w.heap.size, i, none⟩ = some (.slice none 0 0) := HP3.out.cell i nilPt (by rw [List.getElem?_append_right (by rw [HQL.out]; omega), HQL.out, List.getElem?_replicate, if_pos (by omega)])
      have hfo : w3.frozen? ⟨w.heap.size, i, none⟩ = false := HP3.out.free i
      have HP4 : Hid (OwnParts (w3.setCell ⟨w.heap.size, i, none⟩ (.slice a3 pl c3)) w.heap.size w.heap.size n ((qs ++ [⟨a3, pl, c3, pbs⟩]) ++ List.replicate (n - (i + 1)) nilPt)) := by
        have h := HP3.out.set i ⟨a3, pl, c3, pbs⟩ (HO3.out.lower HB.out.size)
        rw [List.set_append_right _ _ (by rw [HQL.out]; omega), HQL.out, Nat.sub_self, eni, List.replicate_succ, List.set_cons_zero] at h
        show OwnParts _ _ _ _ _
        rw [List.append_assoc]
        exact h
      have HB4 : Hid (Below w.heap.size w (w3.setCell ⟨w.heap.size, i, none⟩ (.slice a3 pl c3))) := (HB.out.trans (HB3.out.mono HB.out.size)).setCell (Nat.le_refl _) _
      clear hown3 hgrow3 hbel3
      go_wp2
      go_roundw
      case rel => exact ⟨i + 1, qs ++ [⟨a3, pl, c3, pbs⟩], by omega, by go_num, HP4, (by show _ = _; rw [List.length_append, HQL.out]; rfl), (by show _ = _; rw [HTK.out, List.map_append, List.map_append, HQD.out]; rfl), (fun q hq => (List.mem_append.1 hq).elim (HQM.out q) (fun h => by rw [List.mem_singleton] at h; subst h; exact hplm)), HB4⟩
      case measure => simp [intOf]; omega
    · have hnl : ¬ (i : Int) < (n : Int) := by omega
      have ei : n - i = 0 := by omega
      have HOW : Hid (OwnParts wr w.heap.size w.heap.size n qs) := by
        have h := HO.out
        rw [ei, List.replicate_zero, List.append_nil] at h
        exact h
      have HQD' : Hid (qs.map Pt.dat = ps.map Pt.dat) := by
        have h := HQD.out
        rw [List.take_of_length_le (by rw [HPS.out]; omega)] at h
        exact h
      clear HO HQD
      go_wp2_with fail
      refine (octet_Join_any (some ⟨w.heap.size, 0, none⟩) n n qs wr HOW.out.parts (by omega) (fun q hq => by have := HQM.out q hq; omega)).mono ?_
      rw [HQD'.out, ← HJE.out, ← HJB.out]
      rintro e w3 ⟨a3, m3, c3, rfl, hr3, hb3⟩
      have HR3 : Hid (Rd w3 a3 m3 jb) := hr3
      have HOW3 : Hid (OwnParts w3 w.heap.size w.heap.size n qs) := HOW.out.below hb3
      have HB3 : Hid (Below w.heap.size w w3) := HB.out.trans (hb3.mono HB.out.size)
      clear hr3 hb3
      go_wp2_with fail
      refine (ref_Join_any a n cap ps w3 (HP.out.below HB3.out) (by omega) (fun q hq => by have := HPL.out q hq; omega)).mono ?_
      rw [← HJE.out, ← HJB.out]
      rintro e w4 ⟨a4, m4, c4, rfl, hr4, hb4⟩
      have HR4 : Hid (Rd w4 a4 m4 jb) := hr4
      have HR34 : Hid (Rd w4 a3 m3 jb) := HR3.out.below hb4
      have HOW4 : Hid (OwnParts w4 w.heap.size w.heap.size n qs) := HOW3.out.below hb4
      have HB4 : Hid (Below w.heap.size w w4) := HB3.out.trans (hb4.mono HB3.out.size)
      clear hr4 hb4
      go_wp2_with fail
      refine (octet_TakeJoin_any b len c bs x w4 (HR.out.below HB4.out) hlc hl HX.out r HRR.out).mono ?_
      rintro e w5 ⟨a5, c5, xs, rfl, hp5, hd5, hb5⟩
      have HP5 : Hid (Parts w5 a5 r.1.length xs) := hp5
      have HR45 : Hid (Rd w5 a4 m4 jb) := HR4.out.below hb5
      have HR35 : Hid (Rd w5 a3 m3 jb) := HR34.out.below hb5
      have HOW5 : Hid (OwnParts w5 w.heap.size w.heap.size n qs) := HOW4.out.below hb5
      have HB5 : Hid (Below w.heap.size w w5) := HB4.out.trans (hb5.mono HB4.out.size)
      have HD5 : Hid (xs.map Pt.dat = r.1) := hd5
      clear hp5 hd5 hb5
      go_wp2_with fail
      refine (ref_TakeJoin_any b len c bs x w5 (HR.out.below HB5.out) hlc hl HX.out r HRR.out).mono ?_
      rintro e w6 ⟨a6, c6, ys, rfl, hp6, hd6, hb6⟩
      have HP6 : Hid (Parts w6 a6 r.1.length ys) := hp6
      have HP56 : Hid (Parts w6 a5 r.1.length xs) := HP5.out.below hb6
      have HOW6 : Hid (OwnParts w6 w.heap.size w.heap.size n qs) := HOW5.out.below hb6
      have HB6 : Hid (Below w.heap.size w w6) := HB5.out.trans (hb6.mono HB5.out.size)
      have HD6 : Hid (xs.map Pt.dat = ys.map Pt.dat) := HD5.out.trans hd6.symm
      have k1 := conv_rd (HR35.out.below hb6) c3
      have k2 := conv_rd (HR45.out.below hb6) c4
      obtain ⟨S, HS⟩ : ∃ S, Hid (S = str jb) := ⟨_, rfl⟩
      rw [← HS.out] at k1 k2
      have HRL : Hid (r.1.length ≤ 64) := take_le HRR.out
      obtain ⟨rl, HRLL⟩ : ∃ rl, Hid (rl = r.1.length) := ⟨_, rfl⟩
      rw [← HRLL.out] at HP6 HP56 HRL
      rw [← HRLL.out]
      clear hp6 hd6 hb6
      go_wp2_with fail
      refine (ref_SameRows a5 c5 a6 c6 rl xs ys w6 HP56.out HP6.out HD6.out (by have := HRL.out; omega)).mono ?_
      rintro e w7 ⟨rfl, hb7⟩
      have HOW7 : Hid (OwnParts w7 w.heap.size w.heap.size n qs) := HOW6.out.below hb7
      have HB7 : Hid (Below w.heap.size w w7) := HB6.out.trans (hb7.mono HB6.out.size)
      clear hb7
      go_wp2_with fail
      refine (ref_SameRows (some ⟨w.heap.size, 0, none⟩) n a cap n qs ps w7 HOW7.out.parts (HP.out.below HB7.out) HQD'.out (by omega)).mono ?_
      rintro e w8 ⟨rfl, hb8⟩
      have HB8 : Hid (Below w.heap.size w w8) := HB7.out.trans (hb8.mono HB7.out.size)
      clear hb8
      go_wp2_with fail
      refine (octet_Uint 1 (by omega) w8).mono ?_
      rw [leb1]
      rintro e w9 ⟨a9, c9, rfl, _, _, hb9⟩
      have HB9 : Hid (Below w.heap.size w w9) := HB8.out.trans (hb9.mono HB8.out.size)
      clear hb9
      go_wp2
      go_ret
      exact ⟨by simp, HB9.out⟩

theorem bytesSlice : Try.prog.bytesOf 23 = 24 := by kernel_rfl
theorem weights_in {H : Type} (P : Program) (e : TypeId) : ∀ (l : List (DataW H)) (d : DataW H) (y : Nat), d ∈ l → y ∈ DataW.weights P e d → y ∈ DataW.weightsAll P e l
  | x :: l, d, y, hd, hy => by
    simp only [DataW.weightsAll, List.mem_append]
    rcases List.mem_cons.1 hd with rfl | hd
    · exact .inl hy
    · exact .inr (weights_in P e l d y hd hy)

/-- Parts that came in, and how great they can be. -/
theorem open_parts_sized {H : Type} {enc : TypeId × Value → H} {W : World} {a : Option Addr} {n cap : Nat} {d : DataW H} {p : List MemPlace}
    (h : DataW.Trod enc Try.prog W 0 (fun _ => true) true 22 (.slice a n cap) d p) (hw : ∀ y ∈ DataW.weights Try.prog 22 d, y ≤ reachBytes) : ∃ ps, Parts W a n ps ∧ n ≤ 5864062014635 ∧ ∀ p ∈ ps, p.l ≤ 140737488351232 := by
  obtain ⟨fuel, hf⟩ := h
  rcases Go.Deep.open_slice1 Try.underlying22 cellsSlice hf with ⟨hcs, hx⟩ | ⟨x, l, c, m, n', V, D, Pl, hcs, hb, hl, hm, hmm, hx, hr⟩
  · simp [Value.cells] at hcs
    obtain ⟨rfl, rfl, rfl⟩ := hcs
    exact ⟨[], ⟨rfl, .inl rfl, fun p hp => by cases hp⟩, by omega, fun p hp => by cases hp⟩
  · simp [Value.cells] at hcs
    obtain ⟨rfl, rfl, rfl⟩ := hcs
    simp only [if_true] at hmm
    subst hmm
    simp only [Prod.mk.injEq] at hx
    obtain ⟨rfl, _⟩ := hx
    have hw2 : ∀ y ∈ ((n + (m - n)) * 24 :: (DataW.weightsAll Try.prog 23 ((List.range n).map D) ++ DataW.weightsAll Try.prog 23 ((List.range (m - n)).map fun j => D (n + j)))), y ≤ reachBytes := by
      intro y hy
      refine hw y ?_
      simp only [DataW.weights, Try.underlying22, bytesSlice, List.length_map, List.length_range]
      exact hy
    have hn := hw2 _ (List.mem_cons_self ..)
    have each : ∀ r, r < m → ∃ y : Pt, V r = .slice y.a y.l y.c ∧ Rd W y.a y.l y.bs ∧ (y.a = none → y.c = 0) ∧ (r < n → y.l ≤ 140737488351232) := by
      intro r hrc
      obtain ⟨ya, yl, yc, yb, e1, e2, e3, e4, _, e6, e7⟩ := rd_cell (hr r hrc).2
      refine ⟨⟨ya, yl, yc, yb⟩, e1, e2, e6, fun hrn => ?_⟩
      show yl ≤ _
      rcases e7 with ⟨_, h1, _⟩ | ⟨els, sp, h1, h2, h3⟩
      · omega
      · have h4 := hw2 ((els.length + sp.length) * 1) (List.mem_cons_of_mem _ (List.mem_append_left _ (weights_in _ _ _ (D r) _ (List.mem_map.2 ⟨r, List.mem_range.2 hrn, rfl⟩) (by
          have h5 : D r = .slice els sp := h1
          rw [h5]
          simp [DataW.weights, Try.underlying23, bytesByte]))))
        simp only [reachBytes] at h4
        omega
    haveI : Inhabited Pt := ⟨nilPt⟩
    obtain ⟨y, hy⟩ := Go.Deep.choose_lt each
    simp only [reachBytes] at hn
    refine ⟨(List.range n).map y, ⟨by simp, ?_, ?_⟩, by omega, ?_⟩
    · by_cases hn0 : n = 0
      · exact .inl hn0
      · right
        obtain ⟨b, off, spot⟩ := x
        have hc := (hr 0 (by omega)).1
        have hspot : spot = none := by simpa [Addr.add] using World.cell?_spot hc
        subst hspot
        refine ⟨b, off, rfl, World.block_lt_of_cell? W _ hc, fun i q hi => ?_⟩
        have hin : i < n := by
          have := (List.getElem?_eq_some_iff.1 hi).1
          simpa using this
        have hq : q = y i := by
          rw [List.getElem?_map, List.getElem?_range hin] at hi
          simpa using hi.symm
        subst hq
        have e : (⟨b, off, none⟩ : Addr).add i = ⟨b, off + i, none⟩ := by unfold Addr.add; split <;> simp_all
        have h2 := (hr i (by omega)).1
        rw [e] at h2
        rw [h2, (hy i (by omega)).1]
    · intro q hq
      obtain ⟨i, hi, rfl⟩ := List.mem_map.1 hq
      have hin := List.mem_range.1 hi
      exact ⟨(hy i (by omega)).2.1, (hy i (by omega)).2.2.1⟩
    · intro q hq
      obtain ⟨i, hi, rfl⟩ := List.mem_map.1 hq
      have hin := List.mem_range.1 hi
      exact (hy i (by omega)).2.2.2 hin

theorem contract (H : Type) (enc : TypeId × Value → H) (W : World) (base : Nat) (args : Array Value) (ds gs : List (DataW H)) (before : List MemPlace)
    (hval : ∀ (j : Nat) t v, Try.f3.params[j]? = some t → args[j]? = some v → Value.okWide Try.prog W .any base t v)
    (hW : DataW.Whole enc Try.prog Try.f3.params.toList Rows.octetJoinsSpec.vars false W args.toList ds gs before) (hsz0 : (DataW.weightsEach Try.prog (Try.f3.params.toList ++ Rows.octetJoinsSpec.plain.varTypes Try.prog) (ds ++ gs)).all (· ≤ reachBytes) = true) :
    Calls Try.prog 3 args W fun e W' => ∃ v, e = .returned v ∧ Rows.octetJoinsSpec.post enc Try.prog Try.f3 false true false false W args v W' := by
  have hW' := hW
  obtain ⟨p, q, hA0, hV, rfl, hfz, hnd⟩ := hW
  have hA : DataW.TrodAll enc Try.prog W 0 (fun _ => true) true Try.f3.params.toList args.toList ds p := hA0
  have hK := hA
  have hsz := hsz0
  rw [Try.params3] at hA hval hsz
  obtain ⟨v0, vs0, d0, ds0, p0, q0, hargs, rfl, rfl, h0, r0⟩ := trodAll_cons hA
  obtain ⟨v1, vs1, d1, ds1, p1, q1, rfl, rfl, rfl, h1, r1⟩ := trodAll_cons r0
  obtain ⟨v2, vs2, d2, ds2, p2, q2, rfl, rfl, rfl, h2, r2⟩ := trodAll_cons r1
  obtain ⟨rfl, rfl, rfl⟩ := trodAll_nil r2
  obtain rfl : args = #[v0, v1, v2] := by cases args; simp_all
  obtain ⟨rfl, rfl⟩ := trodVars_none hV
  obtain ⟨a1, len1, cap1, rfl⟩ := okWide_slice Try.underlying23 (hval 1 23 v1 rfl rfl)
  obtain ⟨bs1, rd1, lc1, cm1, bk1, nc1, fm1⟩ := rd_of h1
  have sz1 := reach_of hsz (j := 1) fm1 rfl rfl
  obtain ⟨x2, rfl, rfl, rfl, w2⟩ := open_int Try.underlying3 (hval 2 3 v2 rfl rfl) h2
  have b2 : (-9223372036854775808 : Int) ≤ x2 ∧ x2 ≤ 9223372036854775807 := by simpa [Lit.wf, IntKind.min, IntKind.max, IntKind.signed, IntKind.bits] using w2
  have hw0 : ∀ y ∈ DataW.weights Try.prog 22 d0, y ≤ reachBytes := fun y hy => by have := List.all_eq_true.1 hsz _ (DataW.weights_mem_each (j := 0) rfl rfl y hy); simpa using this
  obtain ⟨a0, len0, cap0, rfl⟩ := okWide_slice Try.underlying22 (hval 0 22 v0 rfl rfl)
  obtain ⟨ps0, pt0, pn0, pl0⟩ := open_parts_sized h0 hw0
  refine (walk a0 len0 cap0 ps0 a1 len1 cap1 bs1 x2 W pt0 pn0 pl0 rd1 lc1 (by omega) b2).mono fun e W' ⟨he, bel⟩ => ?_
  subst he
  exact ⟨_, rfl, _, _, _, [], _, [], hW', trodAll_mk1 (shut_bool Try.underlying4 _), trodAll_below laidOut bel _ _ _ _ (by kernel_rfl) hK, rfl, bel.frame _, fun h => by cases h⟩

set_option maxRecDepth 100000 in
theorem lifted (os : Os) (started : os.Started) (H : Type) (enc : TypeId × Value → H) :
    ReturnsInHanded {} Try.checked os 3 .any (Rows.octetJoinsSpec.pre6 enc Try.prog Try.f3 Rows.octetJoinsRow.domain false) (Rows.octetJoinsSpec.post enc Try.prog Try.f3 false true false false) := by
  refine returnsInHanded_of_change_sized (C := Try.checked) own started (by kernel_rfl) Try.func3
    (ChangeSpec.witness6 (enc := enc) (C := Try.checked) false ⟨#[], #[.slice none 0 0, .slice none 0 0, .int .i64 0], []⟩ 8 (by kernel_rfl) (by kernel_rfl) (by kernel_rfl) (by kernel_rfl)) ?_
  intro W base args ds gs before hval hW _ hsz _
  exact contract H enc W base args ds gs before hval hW hsz

theorem said : Rows.OctetJoinsSaid :=
  OpenClaim.holds_of_wide 3 Try.f3 rfl rfl rfl rfl rfl rfl rfl ⟨rfl, rfl, rfl, rfl, rfl⟩ rfl rfl rfl rfl rfl (by kernel_rfl) Try.func3 (by kernel_rfl)
    (of_decide_eq_true (by kernel_rfl)) (by unfold Func.isWrapper; first | (rw [if_pos (by decide +kernel)]; kernel_rfl) | (rw [if_neg (by decide +kernel)]; exact ⟨rfl, rfl⟩))
    (fun os started H enc _ => lifted os started H enc)
end octetJoins

theorem octetJoins_holds : Rows.OctetJoinsSaid := octetJoins.said
end Go.Proofs.Ytbhljlafijdodab

