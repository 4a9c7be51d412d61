/- evlog: next. -/
import Derived.Test.YtghajmcohdedlaaEvL5
namespace Go.Proofs.Ytghajmcohdedlaa
open Go.RowKit

/-- A record's bytes: as they are read, in a block of bytes at B or behind it. -/
def Bd (w : World) (B : Nat) (a : Option Addr) (n : Nat) (bs : List Nat) : Prop := Rd w a n bs ∧ (n = 0 ∨ ∃ g off cs fr, a = some ⟨g, off, none⟩ ∧ (B ≤ g ∧ n ≤ 4096) ∧ w.heap[g]? = some (.cells cs 5 fr))
/-- The record at a segment's end: tick, bytes, the end behind it. -/
def nextF (D : Dk) (at_ en hi : Nat) : Option (Nat × List Nat × Nat) :=
  match gatherL D at_ (16 - en) en 2 [] with
  | none => none
  | some (all, e) => if (KeyM.take all 0).2.2 ≠ 0 ∨ (KeyM.take all 0).1 ≤ (hi : Int) ∨ 1099511627776 < (KeyM.take all 0).1 then none else some ((KeyM.take all 0).1.toNat, all.drop 8, e)
def NextTold (w : World) (B : Nat) (e : Ending) (r : Option (Nat × List Nat × Nat)) : Prop :=
  (r = none ∧ e = .returned (.tuple #[.agg #[.int .i64 0, .slice none 0 0], .int .i64 0, .bool false])) ∨ ∃ v bs en a n c, r = some (v, bs, en) ∧ e = .returned (.tuple #[.agg #[.int .i64 ((v : Nat) : Int), .slice a n c], .int .i64 ((en : Nat) : Int), .bool true]) ∧ Bd w B a n bs ∧ n ≤ 936 ∧ en ≤ 16

theorem infoRec : (Try.prog.info? 78).map (·.size) = some 2 := by kernel_rfl
theorem results_nextE {w : World} {tmps : Array Value} {g : Nat} {cs : List Value} {v v2 : Value} (h2 : tmps[4]?.getD undef = .pointer (some ⟨g, 0, none⟩)) (h3 : tmps[5]?.getD undef = v) (h4 : tmps[6]?.getD undef = v2) (k : Blk w g cs.toArray 78) (hl : cs.length = 2) : (results Try.f63 tmps).run Try.prog w = .ok (.tuple #[.agg cs.toArray, v, v2]) w := by
  have hr := run_loadVar_mid (P := Try.prog) w g 0 78 cs _ (k.range 0 cs (fun j v hj => by simpa using hj)) Try.underlying78 rfl (by rw [hl]; exact infoRec)
  simp [results, Try.results63, h2, h3, h4, hr, asAddr]

set_option maxRecDepth 100000 in
set_option maxHeartbeats 8000000 in
theorem evl_next (w : World) (base g gs : Nat) (wv : Value) (D : Dk) (gl gc b m ag hi rel : Nat) (uv rv : Value) (at_ en : Nat) (num shi : Int) (hd : Disk w base g gs wv D) (h : Lc w gl g gc b m ag uv hi rel rv) (hat : at_ ≤ 100000) (hen : en ≤ 16) (hhi : hi ≤ 1099511627776) :
    Calls Try.prog 63 #[.pointer (some ⟨gl, 0, none⟩), .agg #[.int .i64 (at_ : Int), .int .i64 num, .int .i64 shi, .int .i64 (en : Int)]] w fun e w' => Hid (NextTold w' w.heap.size e (nextF D at_ en hi)) ∧ Below w.heap.size w w' := by
  obtain ⟨R, HR⟩ : ∃ R, Hid (R = nextF D at_ en hi) := ⟨_, rfl⟩
  rw [← HR.out]
  obtain ⟨W1, HW1⟩ : ∃ W1, Hid (W1 = (w.alloc (.cells #[.int .i64 (at_ : Int), .int .i64 num, .int .i64 shi, .int .i64 (en : Int)] 85)).alloc (.cells #[.int .i64 0, .slice none 0 0] 78)) := ⟨_, rfl⟩
  have HB1 : Hid (Below w.heap.size w W1) := by (show Below _ _ _); rw [HW1.out]; exact (below_alloc _ _).trans ((below_alloc _ _).mono (below_alloc _ _).size)
  have HK1 : Hid (Blk W1 (w.heap.size + 1) #[.int .i64 0, .slice none 0 0] 78) := by
    (show Blk _ _ _ _); rw [HW1.out]
    have := Blk.new (w.alloc (.cells #[.int .i64 (at_ : Int), .int .i64 num, .int .i64 shi, .int .i64 (en : Int)] 85)) #[.int .i64 0, .slice none 0 0] 78
    simpa using this
  have HD1 : Hid (Disk W1 base g gs wv D) := hd.stay HB1.out
  have HL1 : Hid (Lc W1 gl g gc b m ag uv hi rel rv) := h.stay HB1.out
  have HSZ : Hid (w.heap.size + 2 ≤ W1.heap.size) := HK1.out.lt
  have HG : Hid (∀ W, Disk W base g gs wv D → Lc W gl g gc b m ag uv hi rel rv → Calls Try.prog 81 #[.pointer (some ⟨gl, 0, none⟩), .agg #[.int .i64 (at_ : Int), .int .i64 num, .int .i64 shi, .int .i64 (en : Int)]] W fun e w' => Hid (GatherTold w' W.heap.size e (gatherL D at_ (16 - en) en 2 [])) ∧ Below W.heap.size W w') := fun W h1 h2 => evl_gather W base g gs wv D gl gc b m ag hi rel uv rv at_ en num shi h1 h2 hat hen
  clear hd h
  go_enter Try.func63, Try.ntmps63
  go_wp2_with fail
  rw [← HW1.out]
  refine (HG.out W1 HD1.out HL1.out).mono ?_
  rintro e w1 ⟨ht1, hb1⟩
  have HB2 : Hid (Below W1.heap.size W1 w1) := hb1
  have HL2 : Hid (Lc w1 gl g gc b m ag uv hi rel rv) := HL1.out.stay hb1
  have HK2 : Hid (Blk w1 (w.heap.size + 1) #[.int .i64 0, .slice none 0 0] 78) := HK1.out.stay hb1
  have HBF : Hid (Below w.heap.size w w1) := HB1.out.trans (HB2.out.mono HB1.out.size)
  have c6 : w1.cell? ⟨gl, 6, none⟩ = some (.int .i64 (hi : Int)) := Blk.cell HL2.out 6 rfl
  have k0 : w1.cell? ⟨w.heap.size + 1, 0, none⟩ = some (.int .i64 0) := HK2.out.cell 0 rfl
  have k1 : w1.cell? ⟨w.heap.size + 1, 1, none⟩ = some (.slice none 0 0) := HK2.out.cell 1 rfl
  have f0 := HK2.out.free 0
  have f1 := HK2.out.free 1
  rcases ht1.out with ⟨hn, rfl⟩ | ⟨all, en2, a1, n1, c1, hs, rfl, ho1, hn1, hen2⟩
  · have HX : Hid (R = none) := by (show _ = _); rw [HR.out, nextF, hn]
    clear ht1 hb1 hn HG
    go_wp2_with fail
    refine (octet_TakeKey none 0 0 [] 0 w1 (Own.none _ 0).rd (Nat.le_refl _) (by omega) (by omega)).mono ?_
    rw [show KeyM.take [] 0 = (0, 0, 3) from rfl]
    rintro e w3 ⟨he, hw3⟩
    rw [toldK] at he
    subst he
    rw [hw3]
    clear hw3 w3
    go_wp2
    refine bodyPost_ret (results_nextE (cs := [.int .i64 0, .slice none 0 0]) (by rfl) (by rfl) (by rfl) ((HK2.out.set 0 _).set 1 _) rfl) rfl ?_
    exact ⟨.inl ⟨HX.out, rfl⟩, (HBF.out.setCell (Nat.le_succ _) _).setCell (Nat.le_succ _) _⟩
  · obtain ⟨⟨v, p, r⟩, HT⟩ : ∃ r, Hid (r = KeyM.take all 0) := ⟨_, rfl⟩
    have HO : Hid (Own w1 W1.heap.size a1 n1 c1 all) := ho1
    have HN : Hid (n1 ≤ 944 ∧ en2 ≤ 16) := ⟨hn1, hen2⟩
    have HX : Hid (R = if r ≠ 0 ∨ v ≤ (hi : Int) ∨ 1099511627776 < v then none else some (v.toNat, all.drop 8, en2)) := by
      (show _ = _)
      rw [HR.out, nextF, hs]
      simp only
      rw [← HT.out]
    clear ht1 hb1 hs ho1 HG
    go_wp2_with fail
    refine (octet_TakeKey a1 n1 c1 all 0 w1 HO.out.rd HO.out.cap_ok (by omega) (by omega)).mono ?_
    rw [← HT.out]
    rintro e w3 ⟨he, hw3⟩
    rw [toldK] at he
    subst he
    rw [hw3]
    clear hw3 w3
    by_cases d1 : r = 0
    · subst d1
      by_cases d2 : v ≤ (hi : Int)
      · have HF : Hid (R = none) := by (show _ = _); rw [HX.out, if_pos (.inr (.inl d2))]
        go_wp2
        refine bodyPost_ret (results_nextE (cs := [.int .i64 0, .slice none 0 0]) (by rfl) (by rfl) (by rfl) ((HK2.out.set 0 _).set 1 _) rfl) rfl ?_
        exact ⟨.inl ⟨HF.out, rfl⟩, (HBF.out.setCell (Nat.le_succ _) _).setCell (Nat.le_succ _) _⟩
      · by_cases d3 : 1099511627776 < v
        · have HF : Hid (R = none) := by (show _ = _); rw [HX.out, if_pos (.inr (.inr d3))]
          go_wp2
          refine bodyPost_ret (results_nextE (cs := [.int .i64 0, .slice none 0 0]) (by rfl) (by rfl) (by rfl) ((HK2.out.set 0 _).set 1 _) rfl) rfl ?_
          exact ⟨.inl ⟨HF.out, rfl⟩, (HBF.out.setCell (Nat.le_succ _) _).setCell (Nat.le_succ _) _⟩
        · have HF : Hid (R = some (v.toNat, all.drop 8, en2)) := by (show _ = _); rw [HX.out, if_neg (by omega)]
          have HP : Hid (p = 8 ∧ 8 ≤ n1) := by
            have h1 := HT.out
            have h2 := HO.out.size
            unfold KeyM.take at h1
            split at h1
            · cases h1
            · split at h1
              · cases h1
              · cases h1
                exact ⟨rfl, by omega⟩
          have hp1 := HP.out.1
          have hp2 := HP.out.2
          have hcap := HO.out.cap_ok
          subst hp1
          obtain ⟨gg, cc, HA⟩ : ∃ gg cc, Hid (a1 = some ⟨gg, 0, none⟩ ∧ W1.heap.size ≤ gg ∧ Blk w1 gg cc 5 ∧ gg ≠ w.heap.size + 1) := by
            rcases HO.out.row.2 with ⟨_, h0⟩ | ⟨gg, cp, cur, hv, hbg, hgg, _⟩
            · omega
            · cases hv
              exact ⟨gg, cur, rfl, hbg, hgg, by have := HSZ.out; omega⟩
          have ha := HA.out.1
          subst ha
          have e1 : (0 : Int) ≤ 8 := by omega
          have e2 : (8 : Int) ≤ (n1 : Int) := by omega
          have e3 : (n1 : Int) ≤ (c1 : Int) := by omega
          have HV : Hid ((v.toNat : Nat) = v) := by (show _ = _); omega
          have HRD : Hid (Rd w1 (some ⟨gg, 0, none⟩) n1 all) := HO.out.rd
          have HLA : Hid (all.length = n1) := HO.out.size
          go_wp2
          case inl =>
            refine bodyPost_ret (results_nextE (cs := [.int .i64 v, .slice (some ⟨gg, 0, none⟩) (n1 - 8) 0]) (by rfl) (by rfl) (by rfl) ((HK2.out.set 0 _).set 1 _) rfl) rfl ?_
            refine ⟨.inr ⟨v.toNat, all.drop 8, en2, some ⟨gg, 0, none⟩, n1 - 8, 0, HF.out, by rw [HV.out]; rfl, ⟨⟨?_, ?_, .inl (by omega)⟩, .inl (by omega)⟩, by have := HN.out; omega, HN.out.2⟩, (HBF.out.setCell (Nat.le_succ _) _).setCell (Nat.le_succ _) _⟩
            · rw [List.length_drop, HLA.out]
            · exact fun x hx => HRD.out.byte x (List.mem_of_mem_drop hx)
          case inr =>
            refine bodyPost_ret (results_nextE (cs := [.int .i64 v, .slice (some ⟨gg, 8, none⟩) (n1 - 8) (c1 - 8)]) (by rfl) (by rfl) (by rfl) ((HK2.out.set 0 _).set 1 _) rfl) rfl ?_
            have hp : Rd w1 (some ⟨gg, 0 + 8, none⟩) (n1 - 8) ((all.drop 8).take (n1 - 8)) := HRD.out.part 8 (n1 - 8) (by omega)
            rw [List.take_of_length_le (by rw [List.length_drop, HLA.out]; exact Nat.le_refl _)] at hp
            have hne : gg ≠ w.heap.size + 1 := HA.out.2.2.2
            have hk : Blk ((w1.setCell ⟨w.heap.size + 1, 0, none⟩ (.int .i64 v)).setCell ⟨w.heap.size + 1, 1, none⟩ (.slice (some ⟨gg, 8, none⟩) (n1 - 8) (c1 - 8))) gg cc 5 := (HA.out.2.2.1.other _ _ hne).other _ _ hne
            refine ⟨.inr ⟨v.toNat, all.drop 8, en2, some ⟨gg, 8, none⟩, n1 - 8, c1 - 8, HF.out, by rw [HV.out]; rfl, ⟨(hp.far ?_).far ?_, .inr ⟨gg, 8, cc, _, rfl, ?_, hk⟩⟩, by have := HN.out; omega, HN.out.2⟩, (HBF.out.setCell (Nat.le_succ _) _).setCell (Nat.le_succ _) _⟩
            · intro x hx; cases hx; exact hne
            · intro x hx; cases hx; exact hne
            · have := HA.out.2.1; have := HSZ.out; have := HN.out; omega
    · have d1' : ((r : Int) != 0) = true := by rw [bne_iff_ne]; omega
      have d1'' : ((r : Int) == 0) = false := by rw [beq_eq_false_iff_ne]; omega
      have HF : Hid (R = none) := by (show _ = _); rw [HX.out, if_pos (.inl d1)]
      go_wp2
      refine bodyPost_ret (results_nextE (cs := [.int .i64 0, .slice none 0 0]) (by rfl) (by rfl) (by rfl) ((HK2.out.set 0 _).set 1 _) rfl) rfl ?_
      exact ⟨.inl ⟨HF.out, rfl⟩, (HBF.out.setCell (Nat.le_succ _) _).setCell (Nat.le_succ _) _⟩
end Go.Proofs.Ytghajmcohdedlaa
