/- What stands at a place for an attribute, for attributes, for an event: plain mathematics. -/
import Derived.Test.YtigmlhieibejoadEvCheck
import Derived.Test.YtigmlhieibejoadValWhole
namespace Go.Proofs.Ytigmlhieibejoad

/-- An attribute: its name and its value. -/
abbrev At : Type := ByteArray × Val
def At.zero : At := (⟨#[]⟩, Val.zero)
def At.cells (q : At) : Array Value := #[.string q.1, .int .i64 q.2.kind, .int .i64 q.2.whole, .string q.2.words, .bool q.2.truth, .complex .f64 q.2.re q.2.im]

/-- The attribute at a place behind a name, the place behind it, the error. -/
def attrAt (bs : List Nat) (p : Nat) (t : ByteArray) : At × Nat × Nat :=
  match textAt bs (p : Int) with
  | (l, k, 0) => if nameB (str l) = true then (if leB (str l) t = true then (At.zero, 0, 4) else match valAt bs (k : Int) with
      | (v, j, 0) => ((str l, v), j, 0)
      | (_, _, f) => (At.zero, 0, f)) else (At.zero, 0, 11)
  | (_, _, f) => (At.zero, 0, f)
theorem attrAt_text {bs : List Nat} {p : Nat} {t : ByteArray} {l : List Nat} {k f : Nat} (h : textAt bs (p : Int) = (l, k, f)) (hf : f ≠ 0) : attrAt bs p t = (At.zero, 0, f) := by
  unfold attrAt
  rw [h]
  cases f with
  | zero => exact absurd rfl hf
  | succ f => rfl
theorem attrAt_name {bs : List Nat} {p : Nat} {t : ByteArray} {l : List Nat} {k : Nat} (h : textAt bs (p : Int) = (l, k, 0)) (hn : ¬ nameOk (str l)) : attrAt bs p t = (At.zero, 0, 11) := by
  unfold attrAt
  rw [h]
  exact if_neg fun h => hn ((nameB_iff _).1 h)
theorem attrAt_form {bs : List Nat} {p : Nat} {t : ByteArray} {l : List Nat} {k : Nat} (h : textAt bs (p : Int) = (l, k, 0)) (hn : nameOk (str l)) (hl : leB (str l) t = true) : attrAt bs p t = (At.zero, 0, 4) := by
  unfold attrAt
  rw [h]
  exact (if_pos ((nameB_iff _).2 hn)).trans (if_pos hl)
theorem attrAt_value {bs : List Nat} {p : Nat} {t : ByteArray} {l : List Nat} {k : Nat} {v : Val} {j f : Nat} (h : textAt bs (p : Int) = (l, k, 0)) (hn : nameOk (str l)) (hl : leB (str l) t = false) (hv : valAt bs (k : Int) = (v, j, f)) (hf : f ≠ 0) : attrAt bs p t = (At.zero, 0, f) := by
  unfold attrAt
  rw [h]
  refine (if_pos ((nameB_iff _).2 hn)).trans ((if_neg (by rw [hl]; simp)).trans ?_)
  rw [hv]
  cases f with
  | zero => exact absurd rfl hf
  | succ f => rfl
theorem attrAt_ok {bs : List Nat} {p : Nat} {t : ByteArray} {l : List Nat} {k : Nat} {v : Val} {j : Nat} (h : textAt bs (p : Int) = (l, k, 0)) (hn : nameOk (str l)) (hl : leB (str l) t = false) (hv : valAt bs (k : Int) = (v, j, 0)) : attrAt bs p t = ((str l, v), j, 0) := by
  unfold attrAt
  rw [h]
  refine (if_pos ((nameB_iff _).2 hn)).trans ((if_neg (by rw [hl]; simp)).trans ?_)
  rw [hv]
  rfl
/-- How an attribute comes out. -/
theorem attrAt_cases (bs : List Nat) (p : Nat) (t : ByteArray) : (∃ f, attrAt bs p t = (At.zero, 0, f) ∧ f ≠ 0) ∨ ∃ l k v j, textAt bs (p : Int) = (l, k, 0) ∧ nameOk (str l) ∧ leB (str l) t = false ∧ valAt bs (k : Int) = (v, j, 0) ∧ attrAt bs p t = ((str l, v), j, 0) := by
  rcases h : textAt bs (p : Int) with ⟨l, k, f⟩
  by_cases hf : f = 0
  · subst hf
    by_cases hn : nameOk (str l)
    · cases hl : leB (str l) t with
      | true => exact .inl ⟨4, attrAt_form h hn hl, by decide⟩
      | false =>
        rcases hv : valAt bs (k : Int) with ⟨v, j, g⟩
        by_cases hg : g = 0
        · subst hg
          exact .inr ⟨l, k, v, j, rfl, hn, hl, hv, attrAt_ok h hn hl hv⟩
        · exact .inl ⟨g, attrAt_value h hn hl hv hg, hg⟩
    · exact .inl ⟨11, attrAt_name h hn, by decide⟩
  · exact .inl ⟨f, attrAt_text h hf, hf⟩

/-- Attributes one behind the other, behind those that are there. -/
def goAt (bs : List Nat) : Nat → Nat → ByteArray → List At → List At × Nat × Nat
  | 0, p, _, acc => (acc, p, 0)
  | n + 1, p, t, acc => match attrAt bs p t with
    | (q, k, 0) => goAt bs n k q.1 (acc ++ [q])
    | (_, _, f) => ([], 0, f)
theorem goAt_err {bs : List Nat} {n p : Nat} {t : ByteArray} {acc : List At} {q : At} {k f : Nat} (h : attrAt bs p t = (q, k, f)) (hf : f ≠ 0) : goAt bs (n + 1) p t acc = ([], 0, f) := by
  rw [goAt, h]
  cases f with
  | zero => exact absurd rfl hf
  | succ f => rfl
theorem goAt_ok {bs : List Nat} {n p : Nat} {t : ByteArray} {acc : List At} {q : At} {k : Nat} (h : attrAt bs p t = (q, k, 0)) : goAt bs (n + 1) p t acc = goAt bs n k q.1 (acc ++ [q]) := by
  rw [goAt, h]
  rfl

def attrsAt (bs : List Nat) (x : Int) : List At × Nat × Nat :=
  match Leb.take bs x with
  | (n, k, 0) => if 8 < n then ([], 0, 6) else goAt bs n k ⟨#[]⟩ []
  | (_, _, f) => ([], 0, f)
theorem attrsAt_err {bs : List Nat} {x : Int} {n k f : Nat} (h : Leb.take bs x = (n, k, f)) (hf : f ≠ 0) : attrsAt bs x = ([], 0, f) := by
  unfold attrsAt
  rw [h]
  cases f with
  | zero => exact absurd rfl hf
  | succ f => rfl
theorem attrsAt_limit {bs : List Nat} {x : Int} {n k : Nat} (h : Leb.take bs x = (n, k, 0)) (hn : 8 < n) : attrsAt bs x = ([], 0, 6) := by
  unfold attrsAt
  rw [h]
  exact if_pos hn
theorem attrsAt_go {bs : List Nat} {x : Int} {n k : Nat} (h : Leb.take bs x = (n, k, 0)) (hn : ¬ 8 < n) : attrsAt bs x = goAt bs n k ⟨#[]⟩ [] := by
  unfold attrsAt
  rw [h]
  exact if_neg hn

/-- The event at a place, the place behind it, the error. -/
def evAt (bs : List Nat) (x : Int) : (List At × List Nat) × Nat × Nat :=
  match attrsAt bs x with
  | (l, k, 0) => match textAt bs (k : Int) with
    | (c, j, 0) => ((l, c), j, 0)
    | (_, _, f) => (([], []), 0, f)
  | (_, _, f) => (([], []), 0, f)
theorem evAt_err1 {bs : List Nat} {x : Int} {l : List At} {k f : Nat} (h : attrsAt bs x = (l, k, f)) (hf : f ≠ 0) : evAt bs x = (([], []), 0, f) := by
  unfold evAt
  rw [h]
  cases f with
  | zero => exact absurd rfl hf
  | succ f => rfl
theorem evAt_err2 {bs : List Nat} {x : Int} {l : List At} {k : Nat} {c : List Nat} {j f : Nat} (h : attrsAt bs x = (l, k, 0)) (h2 : textAt bs (k : Int) = (c, j, f)) (hf : f ≠ 0) : evAt bs x = (([], []), 0, f) := by
  unfold evAt
  rw [h]
  simp only [h2]
theorem evAt_ok {bs : List Nat} {x : Int} {l : List At} {k : Nat} {c : List Nat} {j : Nat} (h : attrsAt bs x = (l, k, 0)) (h2 : textAt bs (k : Int) = (c, j, 0)) : evAt bs x = ((l, c), j, 0) := by
  unfold evAt
  rw [h]
  simp only [h2]

theorem textAt_small {bs : List Nat} {x : Int} {l : List Nat} {k : Nat} (hb : ∀ y ∈ bs, y < 256) (h : textAt bs x = (l, k, 0)) : l.length ≤ 200 ∧ k ≤ bs.length := by
  unfold textAt at h
  rcases hR : range bs x 200 with ⟨q, r, f⟩
  rw [hR] at h
  cases f with
  | succ f => simp at h
  | zero =>
    simp only [Prod.mk.injEq, and_true] at h
    obtain ⟨rfl, rfl⟩ := h
    obtain ⟨h1, h2, h3, h4⟩ := range_ok bs _ 200 q r hb hR
    exact ⟨by rw [List.length_take]; omega, h3⟩
theorem strSize (l : List Nat) : (str l).size = l.length := by
  unfold str
  simp [ByteArray.size]
end Go.Proofs.Ytigmlhieibejoad
