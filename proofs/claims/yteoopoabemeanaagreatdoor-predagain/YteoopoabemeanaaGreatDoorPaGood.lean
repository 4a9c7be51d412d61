/- What is parsed is right; what is wrong has an error: plain mathematics. -/
import Derived.Test.YteoopoabemeanaaGreatDoorPaLeft
import Derived.Test.YteoopoabemeanaaGreatDoorPrM
import Derived.Test.YteoopoabemeanaaGreatDoorFlt
namespace Go.Proofs.YteoopoabemeanaaGreatDoor
namespace Good

/-- A value that is equal to itself. -/
def Sound (v : Val) : Prop := Ieee.double.order v.re v.re = some .eq ∧ Ieee.double.order v.im v.im = some .eq
theorem zero_s : Ieee.double.order 0 0 = some .eq := by kernel_rfl
theorem point_s {a b : Int} (ha : -1048576 ≤ a ∧ a ≤ 1048576) (hb : -1048576 ≤ b ∧ b ≤ 1048576) : Sound (pointV a b) := ⟨Flt.order_self a (by omega), Flt.order_self b (by omega)⟩
/-- What is known of a word. -/
structure TokOk (w : Wd) : Prop where
  name : w.kind = 2 → w.late = 0 → nameOk w.text
  num : w.kind = 3 → (-9223372036854775808 : Int) ≤ w.n ∧ w.n ≤ 9223372036854775807
  str : w.kind = 4 → w.late = 0 → w.text.size ≤ 200
structure LexGood (F : Lex) (N : Nat) : Prop where
  ok : LexOk F N
  tok : ∀ p w k, F p = .ok (w, k) → TokOk w
  err : ∀ p m, F p = .error m → m.2 ≠ 0
structure StOk (N : Nat) (s : St) : Prop where
  here : s.here ≤ N
  tok : TokOk s.next
  tms : ∀ q ∈ s.terms, TmRight q ∧ Sound q.val
def ResOk (N : Nat) (r : Res) : Prop := match r with
  | .ok s => StOk N s
  | .error m => m.2 ≠ 0
def ResVOk (N : Nat) (P : Val → Prop) (r : ResV Val) : Prop := match r with
  | .ok (v, s) => StOk N s ∧ P v
  | .error m => m.2 ≠ 0
variable {F : Lex} {N : Nat}

theorem ResOk.andThen {r : Res} {f : St → Res} (h : ResOk N r) (hf : ∀ s, r = .ok s → StOk N s → ResOk N (f s)) : ResOk N (andThen r f) := by
  cases r with
  | ok s => exact hf s rfl h
  | error m => exact h
theorem ResOk.thenS {P : Val → Prop} {r : Res} {f : St → ResV Val} (h : ResOk N r) (hf : ∀ s, r = .ok s → StOk N s → ResVOk N P (f s)) : ResVOk N P (thenS r f) := by
  cases r with
  | ok s => exact hf s rfl h
  | error m => exact h
theorem ResOk.withV {P : Val → Prop} {r : Res} {v : Val} (h : ResOk N r) (hv : (∃ s, r = .ok s) → P v) : ResVOk N P (withV v r) := by
  cases r with
  | ok s => exact ⟨h, hv ⟨s, rfl⟩⟩
  | error m => exact h
theorem adv_g (hF : LexGood F N) {s : St} (h : StOk N s) : ResOk N (adv F s) := by
  unfold adv
  cases hx : F s.here with
  | ok x =>
    obtain ⟨w, k⟩ := x
    exact ⟨(hF.ok.on _ _ _ h.here hx).2.1, hF.tok _ _ _ hx, h.tms⟩
  | error m => exact hF.err _ _ hx
theorem pass_g (hF : LexGood F N) {s : St} (h : StOk N s) : ResOk N (passM F s) := by
  unfold passM
  by_cases h0 : s.next.late = 0
  · rw [if_pos h0]; exact adv_g hF h
  · rw [if_neg h0]; exact h0
theorem pass_late {s s' : St} (h : passM F s = .ok s') : s.next.late = 0 := by
  unfold passM at h
  by_cases h0 : s.next.late = 0
  · exact h0
  · rw [if_neg h0] at h; cases h
theorem need_g (hF : LexGood F N) (k : Nat) {s : St} (h : StOk N s) : ResOk N (needM F k s) := by
  unfold needM
  by_cases h0 : s.next.kind = k
  · rw [if_pos h0]; exact pass_g hF h
  · rw [if_neg h0]; show 4 ≠ 0; omega
theorem need_kind {k : Nat} {s s' : St} (h : needM F k s = .ok s') : s.next.kind = k ∧ s.next.late = 0 := by
  unfold needM at h
  by_cases h0 : s.next.kind = k
  · rw [if_pos h0] at h; exact ⟨h0, pass_late h⟩
  · rw [if_neg h0] at h; cases h
theorem needS_g (hF : LexGood F N) (t : ByteArray) {s : St} (h : StOk N s) : ResOk N (needS F t s) := by
  unfold needS
  by_cases h0 : isS t s = true
  · rw [if_pos h0]; exact pass_g hF h
  · rw [if_neg h0]; show 4 ≠ 0; omega
theorem num_g (hF : LexGood F N) (lo hi : Int) {s : St} (h : StOk N s) : ResOk N (numM F lo hi s) := by
  unfold numM
  by_cases h0 : s.next.kind = 3 ∧ (s.next.n < lo ∨ hi < s.next.n)
  · rw [if_pos h0]; show 6 ≠ 0; omega
  · rw [if_neg h0]; exact need_g hF 3 h
theorem num_in {lo hi : Int} {s s' : St} (h : numM F lo hi s = .ok s') : s.next.kind = 3 ∧ lo ≤ s.next.n ∧ s.next.n ≤ hi := by
  unfold numM at h
  by_cases h0 : s.next.kind = 3 ∧ (s.next.n < lo ∨ hi < s.next.n)
  · rw [if_pos h0] at h; cases h
  · rw [if_neg h0] at h
    have := (need_kind h).1
    exact ⟨this, by omega, by omega⟩
theorem add_g (q : Tm) {s : St} (h : StOk N s) (hq : TmRight q ∧ Sound q.val) : StOk N (addM q s) := ⟨h.here, h.tok, fun x hx => by
  rcases List.mem_append.1 hx with hx | hx
  · exact h.tms x hx
  · rw [List.mem_singleton.1 hx]; exact hq⟩
theorem plain_g {op : Nat} (h : 1 ≤ op ∧ op ≤ 6) (h3 : op ≠ 3) : TmRight (Tm.plain op) ∧ Sound (Tm.plain op).val := ⟨⟨h, fun e => absurd e h3⟩, zero_s, zero_s⟩
theorem cmpFrom_g (hF : LexGood F N) {s : St} (h : StOk N s) : ∀ k, k ≤ 8 → match cmpFrom F s k with
    | .ok (c, s') => StOk N s' ∧ 2 ≤ c ∧ c ≤ 10
    | .error m => m.2 ≠ 0
  | 0, _ => ⟨h, by omega, by omega⟩
  | k + 1, hk => by
    unfold cmpFrom
    by_cases h0 : isS (cmpText (10 - k)) s = true
    · rw [if_pos h0]
      have hp := pass_g hF h
      revert hp
      generalize passM F s = r
      intro hp
      cases r with
      | ok s' => exact ⟨hp, by omega, by omega⟩
      | error m => exact hp
    · rw [if_neg h0]; exact cmpFrom_g hF h k (by omega)
/-- A value that may stand behind < and its like. -/
def Ord (v : Val) : Prop := (v.Right ∧ Sound v) ∧ (v.kind = 1 ∨ v.kind = 2)
theorem ordered_g (hF : LexGood F N) {s : St} (h : StOk N s) : ResVOk N Ord (orderedM F s) := by
  unfold orderedM
  by_cases h0 : s.next.kind = 4
  · rw [if_pos h0]
    refine (pass_g hF h).withV fun ⟨s', hs⟩ => ⟨⟨.words _ _ _ _ _ (h.tok.str h0 (pass_late hs)), zero_s, zero_s⟩, .inr rfl⟩
  · rw [if_neg h0]
    refine (num_g hF _ _ h).withV fun ⟨s', hs⟩ => ⟨⟨.whole _ _ _ _ _ (h.tok.num (num_in hs).1), zero_s, zero_s⟩, .inl rfl⟩
def Pnt (v : Val) : Prop := (v.Right ∧ Sound v) ∧ v.kind = 4
theorem point_g (hF : LexGood F N) {s : St} (h : StOk N s) : ResVOk N Pnt (pointM F s) := by
  unfold pointM partM
  refine (needS_g hF _ h).thenS fun s1 e1 h1 => ?_
  refine (num_g hF _ _ h1).thenS fun s2 e2 h2 => ?_
  refine (needS_g hF _ h2).thenS fun s3 e3 h3 => ?_
  refine (num_g hF _ _ h3).thenS fun s4 e4 h4 => ?_
  refine (needS_g hF _ h4).thenS fun s5 e5 h5 => ?_
  exact ⟨h5, ⟨.point _ _ _ _ _ (num_in e2).2 (num_in e4).2, point_s (num_in e2).2 (num_in e4).2⟩, rfl⟩
theorem value_g (hF : LexGood F N) {s : St} (h : StOk N s) : ResVOk N (fun v => v.Right ∧ Sound v) (valueM F s) := by
  unfold valueM
  by_cases h0 : isS ⟨#[40]⟩ s = true
  · rw [if_pos h0]
    have hp := point_g hF h
    revert hp
    generalize pointM F s = r
    intro hp
    cases r with
    | ok x => obtain ⟨v, s'⟩ := x; exact ⟨hp.1, hp.2.1⟩
    | error m => exact hp
  · rw [if_neg h0]
    by_cases h1 : s.next.kind = 2 ∧ (s.next.text = yesT ∨ s.next.text = noT)
    · rw [if_pos h1]
      exact (pass_g hF h).withV fun _ => ⟨.truth _ _ _ _ _, zero_s, zero_s⟩
    · rw [if_neg h1]
      have hp := ordered_g hF h
      revert hp
      generalize orderedM F s = r
      intro hp
      cases r with
      | ok x => obtain ⟨v, s'⟩ := x; exact ⟨hp.1, hp.2.1⟩
      | error m => exact hp
theorem begins_g (hF : LexGood F N) {s : St} (h : StOk N s) : ResVOk N (fun v => (v.Right ∧ Sound v) ∧ v.kind = 2) (beginsM F s) := by
  unfold beginsM
  exact (need_g hF 4 h).withV fun ⟨s', hs⟩ => ⟨⟨.words _ _ _ _ _ (h.tok.str (need_kind hs).1 (need_kind hs).2), zero_s, zero_s⟩, rfl⟩
theorem tm_g {nm : ByteArray} {c : Nat} {v : Val} {r : Nat} (hn : nameOk nm) (hc : 1 ≤ c ∧ c ≤ 10) (hv : 3 ≤ c → v.Right ∧ mayB c v.kind = true ∧ (c = 10 → r ≤ 1048576)) (hs : Sound v) : TmRight ⟨3, nm, c, v, r⟩ ∧ Sound v := ⟨⟨⟨by show 1 ≤ 3; omega, by show 3 ≤ 6; omega⟩, fun _ => ⟨hn, hc, hv⟩⟩, hs⟩
theorem rest_g (hF : LexGood F N) {nm : ByteArray} (hn : nameOk nm) {c : Nat} (hc : 2 ≤ c ∧ c ≤ 10) {s : St} (h : StOk N s) : ResOk N (restM F nm c s) := by
  unfold restM
  by_cases h2 : c = 2
  · rw [if_pos h2]; exact add_g _ h (tm_g hn (by omega) (fun h => by omega) ⟨zero_s, zero_s⟩)
  · rw [if_neg h2]
    by_cases h3 : c = 3 ∨ c = 4
    · rw [if_pos h3]
      have hp := value_g hF h
      revert hp
      generalize valueM F s = r
      intro hp
      cases r with
      | ok x =>
        obtain ⟨v, s'⟩ := x
        refine add_g _ hp.1 (tm_g hn (by omega) (fun _ => ⟨hp.2.1, ?_, fun h => by omega⟩) hp.2.2)
        rw [mayB, if_neg (by omega), if_neg (by omega), if_neg (by omega)]
      | error m => exact hp
    · rw [if_neg h3]
      by_cases h9 : c = 9
      · rw [if_pos h9]
        have hp := begins_g hF h
        revert hp
        generalize beginsM F s = r
        intro hp
        cases r with
        | ok x =>
          obtain ⟨v, s'⟩ := x
          refine add_g _ hp.1 (tm_g hn (by omega) (fun _ => ⟨hp.2.1.1, ?_, fun h => by omega⟩) hp.2.1.2)
          rw [mayB, if_neg (by omega), if_pos h9, hp.2.2]; rfl
        | error m => exact hp
      · rw [if_neg h9]
        by_cases h10 : c = 10
        · rw [if_pos h10]
          have hp := point_g hF h
          revert hp
          generalize pointM F s = r
          intro hp
          cases r with
          | ok x =>
            obtain ⟨v, s'⟩ := x
            refine (needS_g hF _ hp.1).andThen fun s1 e1 h1 => ?_
            refine (num_g hF _ _ h1).andThen fun s2 e2 h2 => ?_
            refine add_g _ h2 (tm_g hn (by omega) (fun _ => ⟨hp.2.1.1, ?_, fun _ => by have := (num_in e2).2; omega⟩) hp.2.1.2)
            rw [mayB, if_neg (by omega), if_neg (by omega), if_pos h10, hp.2.2]; rfl
          | error m => exact hp
        · rw [if_neg h10]
          have hp := ordered_g hF h
          revert hp
          generalize orderedM F s = r
          intro hp
          cases r with
          | ok x =>
            obtain ⟨v, s'⟩ := x
            refine add_g _ hp.1 (tm_g hn (by omega) (fun _ => ⟨hp.2.1.1, ?_, fun h => by omega⟩) hp.2.1.2)
            rw [mayB, if_pos (by omega)]
            rcases hp.2.2 with hk | hk <;> rw [hk] <;> rfl
          | error m => exact hp
theorem atom_g (hF : LexGood F N) {s : St} (h : StOk N s) : ResOk N (atomM F s) := by
  unfold atomM
  refine (need_g hF 2 h).andThen fun s1 e1 h1 => ?_
  have hn : nameOk s.next.text := h.tok.name (need_kind e1).1 (need_kind e1).2
  have hp := cmpFrom_g hF h1 8 (Nat.le_refl _)
  revert hp
  show (match cmpM F s1 with | .ok (c, s') => StOk N s' ∧ 2 ≤ c ∧ c ≤ 10 | .error m => m.2 ≠ 0) → _
  generalize cmpM F s1 = r
  intro hp
  cases r with
  | ok x =>
    obtain ⟨c, s'⟩ := x
    exact rest_g hF hn hp.2 hp.1
  | error m => exact hp
def kc : Nat → Nat
  | 0 => 6
  | 1 => 5
  | 2 => 4
  | 3 => 3
  | _ => 2
theorem run_g (hF : LexGood F N) : ∀ (n c : Nat) {s : St}, StOk N s → 8 * left N s + kc c < n → ResOk N (runM F n c s)
  | 0, c, s, h, hn => by omega
  | n + 1, 0, s, h, hn => by
    simp only [kc] at hn
    unfold runM
    refine (run_g hF n 2 h (by simp only [kc]; omega)).andThen fun s1 e1 h1 => ?_
    have hd := runM_dn hF.ok n 2 h.here e1
    exact run_g hF n 1 h1 (by have := hd.left; simp only [kc]; omega)
  | n + 1, 1, s, h, hn => by
    simp only [kc] at hn
    unfold runM
    by_cases h0 : isS ⟨#[124]⟩ s = true
    · rw [if_pos h0]
      refine (pass_g hF h).andThen fun s1 e1 h1 => ?_
      have hd1 := (passM_dn1 hF.ok h.here (isS_kind h0) e1).2
      refine (run_g hF n 2 h1 (by simp only [kc]; omega)).andThen fun s2 e2 h2 => ?_
      have hd2 := (runM_dn hF.ok n 2 h1.here e2).left
      refine run_g hF n 1 (add_g _ h2 (plain_g (by omega) (by omega))) ?_
      show 8 * left N s2 + kc 1 < n
      simp only [kc]; omega
    · rw [if_neg h0]; exact h
  | n + 1, 2, s, h, hn => by
    simp only [kc] at hn
    unfold runM
    refine (run_g hF n 4 h (by simp only [kc]; omega)).andThen fun s1 e1 h1 => ?_
    have hd := runM_dn hF.ok n 4 h.here e1
    exact run_g hF n 3 h1 (by have := hd.left; simp only [kc]; omega)
  | n + 1, 3, s, h, hn => by
    simp only [kc] at hn
    unfold runM
    by_cases h0 : isS ⟨#[38]⟩ s = true
    · rw [if_pos h0]
      refine (pass_g hF h).andThen fun s1 e1 h1 => ?_
      have hd1 := (passM_dn1 hF.ok h.here (isS_kind h0) e1).2
      refine (run_g hF n 4 h1 (by simp only [kc]; omega)).andThen fun s2 e2 h2 => ?_
      have hd2 := (runM_dn hF.ok n 4 h1.here e2).left
      refine run_g hF n 3 (add_g _ h2 (plain_g (by omega) (by omega))) ?_
      show 8 * left N s2 + kc 3 < n
      simp only [kc]; omega
    · rw [if_neg h0]; exact h
  | n + 1, k + 4, s, h, hn => by
    simp only [kc] at hn
    unfold runM
    by_cases h1 : isS ⟨#[33]⟩ s = true
    · rw [if_pos h1]
      refine (pass_g hF h).andThen fun s1 e1 g1 => ?_
      have hd1 := (passM_dn1 hF.ok h.here (isS_kind h1) e1).2
      refine (run_g hF n 4 g1 (by simp only [kc]; omega)).andThen fun s2 e2 h2 => ?_
      exact add_g _ h2 (plain_g (by omega) (by omega))
    · rw [if_neg h1]
      by_cases h2 : isS ⟨#[40]⟩ s = true
      · rw [if_pos h2]
        refine (pass_g hF h).andThen fun s1 e1 g1 => ?_
        have hd1 := (passM_dn1 hF.ok h.here (isS_kind h2) e1).2
        refine (run_g hF n 0 g1 (by simp only [kc]; omega)).andThen fun s2 e2 g2 => ?_
        exact needS_g hF _ g2
      · rw [if_neg h2]
        by_cases h3 : isS ⟨#[42]⟩ s = true
        · rw [if_pos h3]
          exact (pass_g hF h).andThen fun s1 e1 g1 => add_g _ g1 (plain_g (by omega) (by omega))
        · rw [if_neg h3]
          by_cases h4 : isS ⟨#[35]⟩ s = true
          · rw [if_pos h4]
            exact (pass_g hF h).andThen fun s1 e1 g1 => add_g _ g1 (plain_g (by omega) (by omega))
          · rw [if_neg h4]
            by_cases h5 : isS ⟨#[63]⟩ s = true
            · rw [if_pos h5]
              refine (pass_g hF h).andThen fun s1 e1 g1 => ?_
              refine (need_g hF 2 g1).andThen fun s2 e2 g2 => ?_
              exact add_g _ g2 (tm_g (g1.tok.name (need_kind e2).1 (need_kind e2).2) (by omega) (fun h => by omega) ⟨zero_s, zero_s⟩)
            · rw [if_neg h5]
              exact atom_g hF h
theorem start_g : StOk N start := ⟨Nat.zero_le _, ⟨fun h => (by cases h), fun h => (by cases h), fun h => (by cases h)⟩, fun q hq => (by cases hq)⟩
theorem parse_g (hF : LexGood F N) (n : Nat) (hn : 8 * N + 20 ≤ n) : ResOk N (parseM F n) := by
  unfold parseM
  refine (adv_g hF start_g).andThen fun s e h => ?_
  have hl := (adv_dn hF.ok (Nat.zero_le _) e).2.1
  refine (run_g hF n 0 h (by simp only [kc]; have : left N s ≤ N := hl; omega)).andThen fun s1 e1 h1 => ?_
  exact need_g hF 0 h1
end Good
end Go.Proofs.YteoopoabemeanaaGreatDoor
