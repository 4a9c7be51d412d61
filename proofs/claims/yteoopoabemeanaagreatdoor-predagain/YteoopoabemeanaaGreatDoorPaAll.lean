/- pred.Parse of any text that is not too long. -/
import Derived.Test.YteoopoabemeanaaGreatDoorPaLex
import Derived.Test.YteoopoabemeanaaGreatDoorPaLive
namespace Go.Proofs.YteoopoabemeanaaGreatDoor
set_option maxRecDepth 100000
open Go.RowKit

/-- What Parse tells: terms, place, error. -/
def tellM (N : Nat) : Res → List Tm × Nat × Nat
  | .error m => ([], m.1, m.2)
  | .ok s => if checkT s.terms = 6 then ([], N, 6) else (s.terms, 0, 0)
theorem checkT_len {l : List Tm} (h : checkT l ≠ 6) : l.length ≤ 48 := by
  unfold checkT at h
  by_cases h1 : 48 < l.length
  · rw [if_pos h1] at h; exact absurd rfl h
  · omega
theorem tellM_fit {N : Nat} {R : Res} (hR : Good.ResOk N R) : (∀ q ∈ (tellM N R).1, Good.Sound q.val) ∧ (tellM N R).1.length ≤ 48 := by
  cases R with
  | error m => exact ⟨fun q h => (by cases h), Nat.zero_le _⟩
  | ok s =>
    unfold tellM
    simp only
    by_cases h : checkT s.terms = 6
    · rw [if_pos h]; exact ⟨fun q h => (by cases h), Nat.zero_le _⟩
    · rw [if_neg h]; exact ⟨fun q hq => (hR.tms q hq).2, checkT_len h⟩
theorem parsed_ok (T : ByteArray) (nf : Nat) (hnf : fuel T ≤ nf) : Good.ResOk T.size (parseM (lexT T) nf) := Good.parse_g (good_T T) nf hnf
theorem needM_terms {F : Lex} {k : Nat} {s s' : St} (h : needM F k s = .ok s') : s'.terms = s.terms := by
  unfold needM passM adv at h
  split at h
  · split at h
    · split at h
      · cases h; rfl
      · cases h
    · cases h
  · cases h
theorem parsed_len (T : ByteArray) (nf : Nat) {s : St} (h : parseM (lexT T) nf = .ok s) : s.terms.length ≤ T.size := by
  have hF := (good_T T).ok
  unfold parseM at h
  cases h1 : adv (lexT T) start with
  | error m => rw [h1] at h; cases h
  | ok s1 =>
    rw [h1] at h
    have h : andThen (runM (lexT T) nf 0 s1) (fun s1 => needM (lexT T) 0 s1) = .ok s := h
    obtain ⟨a1, a2, a3⟩ := adv_dn hF (Nat.zero_le _) h1
    cases h2 : runM (lexT T) nf 0 s1 with
    | error m => rw [h2] at h; cases h
    | ok s2 =>
      rw [h2] at h
      have h : needM (lexT T) 0 s2 = .ok s := h
      have hd := (runM_dn hF nf 0 a1 h2).terms
      have ht := needM_terms h
      have a3 : s1.terms = [] := a3
      rw [ht]
      rw [a3] at hd
      have a2 : left T.size s1 ≤ T.size - 0 := a2
      simp only [List.length_nil] at hd
      omega
/-- What Parse has told. -/
def AfterQ (w : World) (r : List Tm × Nat × Nat) (e : Ending) (w' : World) : Prop := ∃ a c, e = .returned (.tuple #[.slice a r.1.length c, .int .i64 (r.2.1 : Int), .int .i64 (r.2.2 : Int)]) ∧ Tms w' w.heap.size (.slice a r.1.length c) r.1 ∧ Below w.heap.size w w'
set_option maxHeartbeats 4000000 in
theorem Parse_any (T : ByteArray) (hT : T.size ≤ 300) (nf : Nat) (hnf : fuel T ≤ nf) (w : World) (hv : Vars w) :
    Calls Tryz.prog 5 #[.string T] w fun e w' => AfterQ w (tellM T.size (parseM (lexT T) nf)) e w' := by
  have HV : Hid (Vars w) := hv
  clear hv
  have g1 : (T.size : Int) ≤ 300 := by omega
  have g2 : ¬ (300 : Int) < (T.size : Int) := by omega
  have HP : Hid (Calls Tryz.prog 10 #[.string T] w fun e w' => AfterP w (parseM (lexT T) nf) e w') := parse_any (words_T T hT) (good_T T).ok hT nf hnf w HV.out
  have HG : Hid (Good.ResOk T.size (parseM (lexT T) nf)) := parsed_ok T nf hnf
  have HL : Hid (∀ s, parseM (lexT T) nf = .ok s → s.terms.length ≤ 1000000) := fun s h => by have := parsed_len T nf h; omega
  generalize parseM (lexT T) nf = R at *
  cases R with
  | error m =>
    obtain ⟨p, c⟩ := m
    have hc : c ≠ 0 := HG.out
    have k1 : ((c : Int) != 0) = true := by rw [bne_iff_ne]; omega
    have k2 : ((c : Int) == 0) = false := by rw [beq_eq_false_iff_ne]; omega
    clear hc HG HL
    go_enter Tryz.func5, Tryz.ntmps5
    go_wp2_with fail
    refine HP.out.mono ?_
    rintro e w1 ⟨rfl, hb1⟩
    have HB1 : Hid (Below w.heap.size w w1) := hb1
    clear hb1
    have HBK : Hid (Blk (w1.alloc (.cells #[.int .i64 (p : Int), .int .i64 (c : Int)] 34)) w1.heap.size #[.int .i64 (p : Int), .int .i64 (c : Int)] 34) := Blk.new w1 _ _
    have HSK : Hid (∀ w', Below (w1.alloc (.cells #[.int .i64 (p : Int), .int .i64 (c : Int)] 34)).heap.size (w1.alloc (.cells #[.int .i64 (p : Int), .int .i64 (c : Int)] 34)) w' → w'.cell? ⟨w1.heap.size, 0, none⟩ = some (.int .i64 (p : Int)) ∧ w'.cell? ⟨w1.heap.size, 1, none⟩ = some (.int .i64 (c : Int))) := by
      (show ∀ _, _)
      intro w' hb
      exact ⟨(HBK.out.stay hb).cell 0 rfl, (HBK.out.stay hb).cell 1 rfl⟩
    go_wp2
    go_region_held3 (fun w' => w'.cell? ⟨w1.heap.size, 0, none⟩ = some (.int .i64 (p : Int)) ∧ w'.cell? ⟨w1.heap.size, 1, none⟩ = some (.int .i64 (c : Int))) (first | exact HSK.out _ (Below.refl _ _) | exact HSK.out _ (Below.refl _ _).drew | fail) (fail)
    go_wp2
    go_ret3
    exact ⟨none, 0, rfl, Tms.nil_ _ _, HB1.out.trans ((below_alloc w1 _).mono HB1.out.size).drew⟩
  | ok s =>
    obtain ⟨L, hL⟩ : ∃ L, s.terms = L := ⟨_, rfl⟩
    have HR : Hid (∀ q ∈ L, TmRight q) := by (show ∀ q ∈ L, TmRight q); rw [← hL]; exact fun q hq => (HG.out.tms q hq).1
    have HN : Hid (L.length ≤ 1000000) := by (show L.length ≤ _); rw [← hL]; exact HL.out s rfl
    have HQ : Hid (∀ w, AfterP w (.ok s) = fun e w' => ∃ v, e = .returned (.tuple #[v, .agg #[.int .i64 0, .int .i64 0]]) ∧ Tms w' w.heap.size v L ∧ Below w.heap.size w w') := by
      (show ∀ _, _ = _)
      intro w
      rw [← hL]
      rfl
    have HTell : Hid (tellM T.size (.ok s) = if checkT L = 6 then ([], T.size, 6) else (L, 0, 0)) := by (show _ = _); rw [← hL]; rfl
    rw [HTell.out]
    rw [HQ.out] at HP
    clear hL HG HL HTell HQ
    obtain ⟨K, HK⟩ : ∃ K, Hid (K = checkT L) := ⟨_, rfl⟩
    rw [← HK.out]
    by_cases h6 : K = 6
    · rw [if_pos h6]
      have k1 : ((K : Int) == 6) = true := by rw [h6]; rfl
      clear h6
      go_enter Tryz.func5, Tryz.ntmps5
      go_wp2_with fail
      refine HP.out.mono ?_
      rintro e w1 ⟨v, rfl, ht, hb1⟩
      obtain ⟨a, c, rfl⟩ := ht.form
      have HT : Hid (Tms w1 w.heap.size (.slice a L.length c) L) := ht
      have HB1 : Hid (Below w.heap.size w w1) := hb1
      clear ht hb1
      obtain ⟨n, HLn⟩ : ∃ n, Hid (L.length = n) := ⟨_, rfl⟩
      rw [HLn.out] at HT HN ⊢
      go_wp2_with fail
      refine (pred_Check a n c L _ (HT.out.rd.2.below (below_alloc w1 _)) HLn.out HN.out HR.out).mono ?_
      rw [← HK.out]
      rintro e w2 ⟨rfl, hb2⟩
      have HB2 : Hid (Below w1.heap.size w1 w2) := (below_alloc w1 _).trans (hb2.mono (by simp))
      clear hb2
      go_wp2
      go_ret3
      exact ⟨none, 0, rfl, Tms.nil_ _ _, HB1.out.trans (HB2.out.mono HB1.out.size)⟩
    · rw [if_neg h6]
      have k1 : ((K : Int) == 6) = false := by rw [beq_eq_false_iff_ne]; omega
      clear h6
      go_enter Tryz.func5, Tryz.ntmps5
      go_wp2_with fail
      refine HP.out.mono ?_
      rintro e w1 ⟨v, rfl, ht, hb1⟩
      obtain ⟨a, c, rfl⟩ := ht.form
      have HT : Hid (Tms w1 w.heap.size (.slice a L.length c) L) := ht
      have HB1 : Hid (Below w.heap.size w w1) := hb1
      clear ht hb1
      obtain ⟨n, HLn⟩ : ∃ n, Hid (L.length = n) := ⟨_, rfl⟩
      have HT' : Hid (Tms w1 w.heap.size (.slice a n c) L) := by (show Tms _ _ _ _); rw [← HLn.out]; exact HT.out
      rw [HLn.out] at HN ⊢
      clear HT
      go_wp2_with fail
      refine (pred_Check a n c L _ (HT'.out.rd.2.below (below_alloc w1 _)) HLn.out HN.out HR.out).mono ?_
      rw [← HK.out]
      rintro e w2 ⟨rfl, hb2⟩
      have HB2 : Hid (Below w1.heap.size w1 w2) := (below_alloc w1 _).trans (hb2.mono (by simp))
      clear hb2
      go_wp2
      go_ret3
      refine ⟨a, c, ?_, ?_, HB1.out.trans (HB2.out.mono HB1.out.size)⟩
      · show _ = Ending.returned (.tuple #[.slice a L.length c, _, _])
        rw [HLn.out]
        rfl
      · show Tms _ _ (.slice a L.length c) L
        rw [HLn.out]
        exact HT'.out.below HB2.out
end Go.Proofs.YteoopoabemeanaaGreatDoor
