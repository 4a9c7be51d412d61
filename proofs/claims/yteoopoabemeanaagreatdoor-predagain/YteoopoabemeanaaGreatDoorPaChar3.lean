/- The text of a tree is read as its words, and parsed as the tree: plain mathematics. -/
import Derived.Test.YteoopoabemeanaaGreatDoorCharP
import Derived.Test.YteoopoabemeanaaGreatDoorPaSim
namespace Go.Proofs.YteoopoabemeanaaGreatDoor
open Go.RowKit

def SameW (w w' : Wd) : Prop := w'.kind = w.kind ∧ w'.text = w.text ∧ w'.n = w.n ∧ w'.late = w.late
/-- From a place on a text has these words. -/
def Lx (T : ByteArray) : Nat → List Wd → Prop
  | p, [] => p ≤ T.size ∧ runTo T blaB p = T.size
  | p, w :: r => ∃ w' k, lexT T p = .ok (w', k) ∧ SameW w w' ∧ Lx T k r
variable {T : ByteArray} {p : Nat}

theorem lx_one {w w' : Wd} {k : Nat} {ws : List Wd} (h : lexT T p = .ok (w', k)) (hs : SameW w w') (hw : Lx T k ws) : Lx T p (w :: ws) := ⟨w', k, h, hs, hw⟩
theorem lx_blank {r : List Nat} (h : dr T p = 32 :: r) : ∀ {ws : List Wd}, Lx T (p + 1) ws → Lx T p ws
  | [], hw => ⟨Nat.le_of_lt (dr_lt h), by rw [(lex_blank h).1]; exact hw.2⟩
  | w :: ws, ⟨w', k, h1, h2, h3⟩ => ⟨w', k, by rw [(lex_blank h).2]; exact h1, h2, h3⟩
theorem lx_end : Lx T T.size [] := by
  refine ⟨Nat.le_refl _, ?_⟩
  have hd : dr T T.size = [] := List.eq_nil_of_length_eq_zero (by rw [dr_length]; omega)
  rw [runTo_dr, hd]
  rfl
def FolB (r : List Nat) : Prop := r = [] ∨ ∃ c r', r = c :: r' ∧ (c = 32 ∨ c = 41)
def FolV (r : List Nat) : Prop := r = [] ∨ ∃ c r', r = c :: r' ∧ (c = 32 ∨ c = 41 ∨ c = 47)
theorem FolB.v {r : List Nat} (h : FolB r) : FolV r := by
  rcases h with h | ⟨c, r', h, h2⟩
  · exact .inl h
  · exact .inr ⟨c, r', h, by omega⟩
theorem FolV.nam {r : List Nat} (h : FolV r) : r = [] ∨ ∃ c r', r = c :: r' ∧ namB c = false := by
  rcases h with h | ⟨c, r', h, h2⟩
  · exact .inl h
  · exact .inr ⟨c, r', h, by rcases h2 with rfl | rfl | rfl <;> rfl⟩
theorem FolV.dig {r : List Nat} (h : FolV r) : r = [] ∨ ∃ c r', r = c :: r' ∧ digB c = false := by
  rcases h with h | ⟨c, r', h, h2⟩
  · exact .inl h
  · exact .inr ⟨c, r', h, by rcases h2 with rfl | rfl | rfl <;> rfl⟩
theorem lx_sign {c : Nat} {t : ByteArray} {r : List Nat} {ws : List Wd} (h : dr T p = c :: r) (hc : c ∈ [40, 41, 44, 47, 38, 124, 63, 42, 35, 61, 94, 126]) (ht : str [c] = t) (hw : Lx T (p + 1) ws) : Lx T p (sgW t :: ws) :=
  lx_one (lex_sign1 h hc) ⟨rfl, ht, rfl, rfl⟩ hw
theorem lx_num {n : Int} (hn : -9223372036854775808 ≤ n ∧ n ≤ 9223372036854775807) {r : List Nat} {ws : List Wd} (h : dr T p = decT n ++ r) (hr : r = [] ∨ ∃ c r', r = c :: r' ∧ digB c = false) (hw : Lx T (p + (decT n).length) ws) : Lx T p (nuW n :: ws) :=
  lx_one (lex_num hn h hr) ⟨rfl, rfl, rfl, rfl⟩ hw
theorem lx_name {t : ByteArray} (ht : nameOk t) {r : List Nat} {ws : List Wd} (h : dr T p = nameL t ++ r) (hr : r = [] ∨ ∃ c r', r = c :: r' ∧ namB c = false) (hw : Lx T (p + (nameL t).length) ws) : Lx T p (nmW t :: ws) :=
  lx_one (lex_name ht h hr) ⟨rfl, rfl, rfl, rfl⟩ hw
theorem lx_val {v : Val} {x : List Nat} {u : List Wd} (hv : ValTxt v x u) {r : List Nat} {ws : List Wd} (h : dr T p = x ++ r) (hr : FolV r) (hw : Lx T (p + x.length) ws) : Lx T p (u ++ ws) := by
  rcases hv with ⟨n, _, hn, rfl, rfl⟩ | ⟨t, _, ht, rfl, rfl⟩ | ⟨_, rfl, rfl⟩ | ⟨_, rfl, rfl⟩ | ⟨a, b, _, ha, hb, rfl, rfl⟩
  · exact lx_num hn h hr.dig hw
  · exact lx_one (lex_str ht h) ⟨rfl, rfl, rfl, rfl⟩ hw
  · exact lx_name (t := yesT) ((nameB_iff _).1 (by decide)) h hr.nam hw
  · exact lx_name (t := noT) ((nameB_iff _).1 (by decide)) h hr.nam hw
  · rw [List.cons_append, List.append_assoc, List.cons_append, List.append_assoc] at h
    have h1 := dr_next h
    have h2 := dr_tail h1
    have h3 := dr_next h2
    have h4 := dr_tail h3
    simp only [List.cons_append, List.nil_append]
    refine lx_sign h (by decide) rfl (lx_num (by omega) h1 (.inr ⟨_, _, rfl, rfl⟩) (lx_sign h2 (by decide) rfl (lx_num (by omega) h3 (.inr ⟨_, _, rfl, rfl⟩) (lx_sign h4 (by decide) rfl ?_))))
    rw [show p + 1 + (decT a).length + 1 + (decT b).length + 1 = p + (40 :: (decT a ++ 44 :: (decT b ++ [41]))).length from by simp only [List.length_cons, List.length_append, List.length_nil]; omega]
    exact hw
theorem dec_first (n : Int) : ∃ d y, decT n = d :: y ∧ d ≠ 61 := by
  unfold decT Lib.itoa
  split
  · exact ⟨45, _, rfl, by decide⟩
  · obtain ⟨c, l, ec, _⟩ := dec_head _ n.toNat (Nat.le_refl _)
    have hc := dec_dig _ n.toNat (Nat.le_refl _) c (by rw [ec]; exact List.mem_cons_self)
    rw [ec]
    exact ⟨c.toNat, l.map fun c => c.toNat, rfl, by omega⟩
theorem val_first {v : Val} {x : List Nat} {u : List Wd} (hv : ValTxt v x u) : ∃ d y, x = d :: y ∧ d ≠ 61 := by
  rcases hv with ⟨n, _, hn, rfl, rfl⟩ | ⟨t, _, ht, rfl, rfl⟩ | ⟨_, rfl, rfl⟩ | ⟨_, rfl, rfl⟩ | ⟨a, b, _, ha, hb, rfl, rfl⟩
  · exact dec_first n
  · exact ⟨34, _, rfl, by decide⟩
  · exact ⟨121, _, rfl, by decide⟩
  · exact ⟨110, _, rfl, by decide⟩
  · exact ⟨40, _, rfl, by decide⟩
theorem lx_cmp {c : Nat} (hc : 3 ≤ c ∧ c ≤ 10) {r : List Nat} {ws : List Wd} (h : dr T p = nameL (cmpText c) ++ r) (hr : ∃ d r', r = d :: r' ∧ d ≠ 61) (hw : Lx T (p + (nameL (cmpText c)).length) ws) : Lx T p (sgW (cmpText c) :: ws) := by
  rcases (show c = 3 ∨ c = 4 ∨ c = 5 ∨ c = 6 ∨ c = 7 ∨ c = 8 ∨ c = 9 ∨ c = 10 by omega) with rfl | rfl | rfl | rfl | rfl | rfl | rfl | rfl
  · exact lx_sign (c := 61) h (by decide) rfl hw
  · exact lx_one (lex_signB (c := 33) h (by decide)) ⟨rfl, rfl, rfl, rfl⟩ hw
  · exact lx_one (lex_signA (c := 60) h (by decide) hr) ⟨rfl, rfl, rfl, rfl⟩ hw
  · exact lx_one (lex_signB (c := 60) h (by decide)) ⟨rfl, rfl, rfl, rfl⟩ hw
  · exact lx_one (lex_signA (c := 62) h (by decide) hr) ⟨rfl, rfl, rfl, rfl⟩ hw
  · exact lx_one (lex_signB (c := 62) h (by decide)) ⟨rfl, rfl, rfl, rfl⟩ hw
  · exact lx_sign (c := 94) h (by decide) rfl hw
  · exact lx_sign (c := 126) h (by decide) rfl hw
theorem cmp_first {c : Nat} (hc : 3 ≤ c ∧ c ≤ 10) (r : List Nat) : ∃ d r', nameL (cmpText c) ++ r = d :: r' ∧ namB d = false := by
  rcases (show c = 3 ∨ c = 4 ∨ c = 5 ∨ c = 6 ∨ c = 7 ∨ c = 8 ∨ c = 9 ∨ c = 10 by omega) with rfl | rfl | rfl | rfl | rfl | rfl | rfl | rfl
  all_goals exact ⟨_, _, rfl, rfl⟩
def Part (x : List Nat) (u : List Wd) : Prop := ∀ (T : ByteArray) (p : Nat) (r : List Nat) (ws : List Wd), dr T p = x ++ r → FolB r → Lx T (p + x.length) ws → Lx T p (u ++ ws)
theorem part_atom {q : Tm} (hq : AtomStd q) {x : List Nat} {u : List Wd} (hx : AtomTxt q x u) : Part x u := by
  intro T p r ws h hr hw
  have hn := hq.2.1
  rcases hx with ⟨_, rfl, rfl⟩ | ⟨_, rfl, rfl⟩ | ⟨hc, y, v, hv, rfl, rfl⟩ | ⟨hc, y, v, hv, rfl, rfl⟩
  · rw [List.cons_append] at h
    simp only [List.cons_append, List.nil_append]
    refine lx_sign h (by decide) rfl (lx_name hn (dr_next h) hr.v.nam ?_)
    rw [show p + 1 + (nameL q.name).length = p + (63 :: nameL q.name).length from by rw [List.length_cons]; omega]
    exact hw
  · exact lx_name hn h hr.v.nam hw
  · rw [List.append_assoc, List.append_assoc] at h
    have h1 := dr_tail h
    have h2 := dr_tail h1
    simp only [List.cons_append]
    obtain ⟨d, r', e, hd⟩ := cmp_first (c := q.cmp) (by omega) (y ++ r)
    obtain ⟨d2, y', e2, hd2⟩ := val_first hv
    refine lx_name hn h (.inr ⟨d, r', e, hd⟩) (lx_cmp (by omega) h1 ⟨d2, y' ++ r, by rw [e2]; rfl, hd2⟩ (lx_val hv h2 hr.v ?_))
    rw [show p + (nameL q.name).length + (nameL (cmpText q.cmp)).length + y.length = p + (nameL q.name ++ (nameL (cmpText q.cmp) ++ y)).length from by simp only [List.length_append]; omega]
    exact hw
  · rw [List.append_assoc, List.cons_append, List.append_assoc, List.cons_append] at h
    have h1 := dr_tail h
    have h2 := dr_next h1
    have h3 := dr_tail h2
    have h4 := dr_next h3
    simp only [List.cons_append, List.append_assoc, List.nil_append]
    have hrad : q.radius ≤ 1048576 := by
      rcases hq.2.2 with ⟨h, _⟩ | ⟨h, _, hr0⟩ | ⟨h, _, hr0⟩ | ⟨h, _, hr0⟩ | ⟨_, _, hrad⟩
      · omega
      · omega
      · omega
      · omega
      · exact hrad
    refine lx_name hn h (.inr ⟨_, _, rfl, rfl⟩) (lx_sign h1 (by decide) rfl (lx_val hv h2 (.inr ⟨_, _, rfl, by omega⟩) (lx_sign h3 (by decide) rfl (lx_num (by omega) h4 hr.v.dig ?_))))
    rw [show p + (nameL q.name).length + 1 + y.length + 1 + (decT q.radius).length = p + (nameL q.name ++ (126 :: (y ++ 47 :: decT q.radius))).length from by simp only [List.length_append, List.length_cons]; omega]
    exact hw
theorem held_part {P : List Nat → List Wd → Prop} {b k : Nat} (hP : ∀ x u, P x u → Part x u) {x : List Nat} {u : List Wd} (h : HeldP P b k x u) : Part x u := by
  rcases h with ⟨_, h⟩ | ⟨_, x', u', h, rfl, rfl⟩
  · exact hP x u h
  · intro T p r ws hd hr hw
    rw [List.cons_append, List.append_assoc, List.singleton_append] at hd
    rw [List.cons_append, List.append_assoc, List.singleton_append]
    refine lx_sign hd (by decide) rfl (hP x' u' h T (p + 1) _ _ (dr_next hd) (.inr ⟨_, _, rfl, .inr rfl⟩) (lx_sign (dr_tail (dr_next hd)) (by decide) rfl ?_))
    rw [show p + 1 + x'.length + 1 = p + (40 :: (x' ++ [41])).length from by simp only [List.length_cons, List.length_append, List.length_nil]; omega]
    exact hw
theorem held_first {P : List Nat → List Wd → Prop} {b k : Nat} (hP : ∀ x u, P x u → ∃ d y, x = d :: y ∧ d ≠ 61) {x : List Nat} {u : List Wd} (h : HeldP P b k x u) : ∃ d y, x = d :: y ∧ d ≠ 61 := by
  rcases h with ⟨_, h⟩ | ⟨_, x', u', h, rfl, rfl⟩
  · exact hP x u h
  · exact ⟨40, _, rfl, by decide⟩
theorem txt_first (e : Ex) (he : e.std) : ∀ x u, Txt e x u → ∃ d y, x = d :: y ∧ d ≠ 61 := by
  refine Ex.ind (P := fun e => ∀ x u, Txt e x u → ∃ d y, x = d :: y ∧ d ≠ 61) ?_ ?_ ?_ ?_ ?_ ?_ e he
  · exact fun x u h => ⟨42, [], h.1, by decide⟩
  · exact fun x u h => ⟨35, [], h.1, by decide⟩
  · intro q hq x u h
    obtain ⟨c, r, e, hl, _⟩ := name_bytes hq.2.1
    have hc : c ≠ 61 := by rintro rfl; exact absurd hl (by decide)
    rcases h with ⟨_, rfl, _⟩ | ⟨_, rfl, _⟩ | ⟨_, y, v, _, rfl, _⟩ | ⟨_, y, v, _, rfl, _⟩
    · exact ⟨63, _, rfl, by decide⟩
    · exact ⟨c, r, e, hc⟩
    · exact ⟨c, _, by rw [e]; rfl, hc⟩
    · exact ⟨c, _, by rw [e]; rfl, hc⟩
  · intro e _ ih x u h
    obtain ⟨y, v, _, rfl, _⟩ := h
    exact ⟨33, y, rfl, by decide⟩
  · intro a b _ _ iha ihb x u h
    obtain ⟨y, v, z, s, ha, _, rfl, _⟩ := h
    obtain ⟨d, y', rfl, hd⟩ := held_first iha ha
    exact ⟨d, _, rfl, hd⟩
  · intro a b _ _ iha ihb x u h
    obtain ⟨y, v, z, s, ha, _, rfl, _⟩ := h
    obtain ⟨d, y', rfl, hd⟩ := held_first iha ha
    exact ⟨d, _, rfl, hd⟩
theorem part_two {y z : List Nat} {v s : List Wd} {c : Nat} {t : ByteArray} (hc : c ∈ [40, 41, 44, 47, 38, 124, 63, 42, 35, 61, 94, 126]) (ht : str [c] = t) (h1 : Part y v) (h2 : Part z s) : Part (y ++ (32 :: c :: 32 :: z)) (v ++ sgW t :: s) := by
  intro T p r ws h hr hw
  rw [List.append_assoc] at h
  have a1 := dr_tail h
  have a2 := dr_next a1
  have a3 := dr_next a2
  have a4 := dr_next a3
  rw [List.append_assoc]
  refine h1 T p _ _ h (.inr ⟨_, _, rfl, .inl rfl⟩) (lx_blank a1 (lx_sign a2 hc ht (lx_blank a3 (h2 T _ r ws a4 hr ?_))))
  rw [show p + y.length + 1 + 1 + 1 + z.length = p + (y ++ (32 :: c :: 32 :: z)).length from by simp only [List.length_append, List.length_cons]; omega]
  exact hw
theorem part_tree (e : Ex) (he : e.std) : ∀ x u, Txt e x u → Part x u := by
  refine Ex.ind (P := fun e => ∀ x u, Txt e x u → Part x u) ?_ ?_ ?_ ?_ ?_ ?_ e he
  · intro x u h
    obtain ⟨rfl, rfl⟩ := h
    intro T p r ws h hr hw
    exact lx_sign h (by decide) rfl hw
  · intro x u h
    obtain ⟨rfl, rfl⟩ := h
    intro T p r ws h hr hw
    exact lx_sign h (by decide) rfl hw
  · exact fun q hq x u h => part_atom hq h
  · intro e he ih x u h
    obtain ⟨y, v, hh, rfl, rfl⟩ := h
    have hp := held_part ih hh
    obtain ⟨d, y', e1, hd⟩ := held_first (txt_first e he) hh
    intro T p r ws h hr hw
    rw [List.cons_append] at h
    refine lx_one (lex_signA h (by decide) ⟨d, y' ++ r, by rw [e1]; rfl, hd⟩) ⟨rfl, rfl, rfl, rfl⟩ (hp T (p + 1) r ws (dr_next h) hr ?_)
    rw [show p + 1 + y.length = p + (33 :: y).length from by rw [List.length_cons]; omega]
    exact hw
  · intro a b _ _ iha ihb x u h
    obtain ⟨y, v, z, s, ha, hb, rfl, rfl⟩ := h
    exact part_two (by decide) rfl (held_part iha ha) (held_part ihb hb)
  · intro a b _ _ iha ihb x u h
    obtain ⟨y, v, z, s, ha, hb, rfl, rfl⟩ := h
    exact part_two (by decide) rfl (held_part iha ha) (held_part ihb hb)
/-! The reader of the words, and the reader of the text, side by side. -/
def textP (T : ByteArray) (W : List Wd) : Sim.Par where
  Hp p p2 := Lx T p2 (W.drop p)
  Pl _ _ := True
  C _ _ := True
  free _ _ _ := trivial
  said _ _ _ _ := trivial
  dry := trivial
theorem text_at {W : List Wd} {p p2 : Nat} (h : Lx T p2 (W.drop p)) : match listF W p with
    | .ok (w, e) => ∃ w2 e2, lexT T p2 = .ok (w2, e2) ∧ Sim.Wr (textP T W) w w2 ∧ (textP T W).Hp e e2
    | .error m => (textP T W).C m (Sim.errOf (lexT T p2)) := by
  unfold listF
  cases hd : W.drop p with
  | nil =>
    rw [hd] at h
    have he : lexT T p2 = .ok (⟨0, T.size, ⟨#[]⟩, 0, 0⟩, T.size) := by rw [lex_eq, if_pos h.2]
    refine ⟨_, _, he, ⟨rfl, rfl, rfl, rfl, trivial⟩, ?_⟩
    show Lx T T.size (W.drop p)
    rw [hd]
    exact lx_end
  | cons w r =>
    rw [hd] at h
    obtain ⟨w', k, h1, h2, h3⟩ := h
    refine ⟨w', k, h1, ⟨h2.1, h2.2.1, h2.2.2.1, h2.2.2.2, trivial⟩, ?_⟩
    show Lx T k (W.drop (p + 1))
    rw [← List.drop_drop, hd]
    exact h3
/-- The text of a tree is parsed as the tree. -/
theorem text_back {e : Ex} (he : e.std) {u : List Wd} (h : Txt e (bytesOf T) u) : ∃ N, ∀ n, N ≤ n → ∃ s, parseM (lexT T) n = .ok s ∧ s.terms = e.post := by
  obtain ⟨N, hN⟩ := Tok.parse_l he h
  have hx : Lx T 0 u := by
    have := part_tree e he _ u h T 0 [] [] (by rw [List.append_nil]; rfl) (.inl rfl) (by rw [Nat.zero_add, bytesOf_length]; exact lx_end)
    rwa [List.append_nil] at this
  refine ⟨N, fun n hn => ?_⟩
  obtain ⟨s, hs, ht⟩ := hN n hn
  have hsim : Sim.Rr (textP T u) (parseM (listF u) n) (parseM (lexT T) n) := by
    refine Sim.parse_r (fun p p2 hp => text_at hp) n ?_
    have h0 := text_at (T := T) (W := u) (p := 0) (p2 := 0) hx
    unfold adv
    show Sim.Rr _ (match listF u 0 with | .ok (w, k) => _ | .error m => _) (match lexT T 0 with | .ok (w, k) => _ | .error m => _)
    revert h0
    generalize listF u 0 = r
    generalize lexT T 0 = r2
    intro h0
    cases r with
    | ok x =>
      obtain ⟨w2, e2, rfl, h1, h2⟩ := h0
      exact ⟨_, rfl, h2, h1, rfl⟩
    | error m => trivial
  rw [hs] at hsim
  obtain ⟨s2, h1, h2⟩ := hsim
  exact ⟨s2, h1, by rw [h2.2.2, ht]⟩
end Go.Proofs.YteoopoabemeanaaGreatDoor
