/- pred.printed over a row of trees: one term more. -/
import Derived.Test.YteoopoabemeanaaGreatDoorAndP
import Derived.Test.YteoopoabemeanaaGreatDoorPaChar3
namespace Go.Proofs.YteoopoabemeanaaGreatDoor
set_option maxRecDepth 100000
open Go.RowKit

/-- A term as the reader makes it. -/
def TStd (q : Tm) : Prop := q = Tm.plain 1 ∨ q = Tm.plain 2 ∨ AtomStd q ∨ q = Tm.plain 4 ∨ q = Tm.plain 5 ∨ q = Tm.plain 6
theorem Ex.post_std (e : Ex) (he : e.std) : ∀ q ∈ e.post, TStd q := by
  refine Ex.ind (P := fun e => ∀ q ∈ e.post, TStd q) ?_ ?_ ?_ ?_ ?_ ?_ e he
  · intro q hq
    rcases List.mem_singleton.1 (show q ∈ [Tm.plain 1] from hq) with rfl
    exact .inl rfl
  · intro q hq
    rcases List.mem_singleton.1 (show q ∈ [Tm.plain 2] from hq) with rfl
    exact .inr (.inl rfl)
  · intro p hp q hq
    rcases List.mem_singleton.1 (show q ∈ [p] from hq) with rfl
    exact .inr (.inr (.inl hp))
  · intro e _ ih q hq
    rcases List.mem_append.1 (show q ∈ e.post ++ [Tm.plain 4] from hq) with h | h
    · exact ih q h
    · rcases List.mem_singleton.1 h with rfl
      exact .inr (.inr (.inr (.inl rfl)))
  · intro a b _ _ iha ihb q hq
    rcases List.mem_append.1 (show q ∈ a.post ++ b.post ++ [Tm.plain 5] from hq) with h | h
    · rcases List.mem_append.1 h with h | h
      · exact iha q h
      · exact ihb q h
    · rcases List.mem_singleton.1 h with rfl
      exact .inr (.inr (.inr (.inr (.inl rfl))))
  · intro a b _ _ iha ihb q hq
    rcases List.mem_append.1 (show q ∈ a.post ++ b.post ++ [Tm.plain 6] from hq) with h | h
    · rcases List.mem_append.1 h with h | h
      · exact iha q h
      · exact ihb q h
    · rcases List.mem_singleton.1 h with rfl
      exact .inr (.inr (.inr (.inr (.inr rfl))))
/-- The pieces of trees, with their texts. -/
def pcs (es : List (Ex × List Nat)) : List (ByteArray × Int) := es.map fun p => (str p.2, (bindOf p.1 : Int))
def flatE (es : List (Ex × List Nat)) : List Tm := es.flatMap fun p => p.1.post
structure PcOk (p : Ex × List Nat) : Prop where
  std : p.1.std
  txt : ∃ u, Txt p.1 p.2 u
  len : p.2.length ≤ 1000 * p.1.post.length
theorem bind_le (e : Ex) : bindOf e ≤ 2 := by
  unfold bindOf
  split <;> omega
/-- A text held at least so firmly. -/
theorem held_txt {p : Ex × List Nat} (h : PcOk p) (k : Nat) : ∃ y v, HeldP (Txt p.1) (bindOf p.1) k y v ∧ heldB (str p.2) (bindOf p.1 : Int) (k : Int) = str y ∧ y.length ≤ p.2.length + 2 := by
  obtain ⟨u, hu⟩ := h.txt
  by_cases hk : k ≤ bindOf p.1
  · refine ⟨p.2, u, .inl ⟨hk, hu⟩, ?_, by omega⟩
    unfold heldB
    rw [if_neg (by omega)]
  · refine ⟨40 :: (p.2 ++ [41]), _, .inr ⟨by omega, p.2, u, hu, rfl, rfl⟩, ?_, ?_⟩
    · unfold heldB
      rw [if_pos (by omega), show (40 :: (p.2 ++ [41])) = [40] ++ p.2 ++ [41] from rfl, str_app, str_app]
      rfl
    · rw [List.length_cons, List.length_append]; simp
theorem pcok_not {p : Ex × List Nat} (h : PcOk p) : ∃ x, PcOk (.not p.1, x) ∧ (⟨#[33]⟩ : ByteArray) ++ heldB (str p.2) (bindOf p.1 : Int) 2 = str x := by
  obtain ⟨y, v, h1, h2, h3⟩ := held_txt h 2
  refine ⟨33 :: y, ⟨Ex.std_not h.std, ⟨_, y, v, h1, rfl, rfl⟩, ?_⟩, ?_⟩
  · have e : (Ex.not p.1).post.length = p.1.post.length + 1 := by show (p.1.post ++ [Tm.plain 4]).length = _; rw [List.length_append]; rfl
    have := h.len
    show (33 :: y).length ≤ 1000 * (Ex.not p.1).post.length
    rw [e, List.length_cons]
    omega
  · rw [show ((2 : Nat) : Int) = 2 from rfl] at h2
    rw [h2, show (33 :: y) = [33] ++ y from rfl, str_app]
    rfl
theorem pcok_and {p q : Ex × List Nat} (h : PcOk p) (h' : PcOk q) : ∃ x, PcOk (.and p.1 q.1, x) ∧ heldB (str p.2) (bindOf p.1 : Int) 1 ++ (⟨#[32, 38, 32]⟩ : ByteArray) ++ heldB (str q.2) (bindOf q.1 : Int) 2 = str x := by
  obtain ⟨y, v, h1, h2, h3⟩ := held_txt h 1
  obtain ⟨z, s, k1, k2, k3⟩ := held_txt h' 2
  refine ⟨y ++ (32 :: 38 :: 32 :: z), ⟨Ex.std_and h.std h'.std, ⟨_, y, v, z, s, h1, k1, rfl, rfl⟩, ?_⟩, ?_⟩
  · have e : (Ex.and p.1 q.1).post.length = p.1.post.length + q.1.post.length + 1 := by show (p.1.post ++ q.1.post ++ [Tm.plain 5]).length = _; rw [List.length_append, List.length_append]; rfl
    have := h.len
    have := h'.len
    show (y ++ (32 :: 38 :: 32 :: z)).length ≤ 1000 * (Ex.and p.1 q.1).post.length
    rw [e, List.length_append, List.length_cons, List.length_cons, List.length_cons]
    omega
  · rw [show ((1 : Nat) : Int) = 1 from rfl] at h2
    rw [show ((2 : Nat) : Int) = 2 from rfl] at k2
    rw [h2, k2, show y ++ (32 :: 38 :: 32 :: z) = y ++ [32, 38, 32] ++ z from by rw [List.append_assoc]; rfl, str_app, str_app]
    rfl
theorem pcok_or {p q : Ex × List Nat} (h : PcOk p) (h' : PcOk q) : ∃ x, PcOk (.or p.1 q.1, x) ∧ heldB (str p.2) (bindOf p.1 : Int) 0 ++ (⟨#[32, 124, 32]⟩ : ByteArray) ++ heldB (str q.2) (bindOf q.1 : Int) 1 = str x := by
  obtain ⟨y, v, h1, h2, h3⟩ := held_txt h 0
  obtain ⟨z, s, k1, k2, k3⟩ := held_txt h' 1
  refine ⟨y ++ (32 :: 124 :: 32 :: z), ⟨Ex.std_or h.std h'.std, ⟨_, y, v, z, s, h1, k1, rfl, rfl⟩, ?_⟩, ?_⟩
  · have e : (Ex.or p.1 q.1).post.length = p.1.post.length + q.1.post.length + 1 := by show (p.1.post ++ q.1.post ++ [Tm.plain 6]).length = _; rw [List.length_append, List.length_append]; rfl
    have := h.len
    have := h'.len
    show (y ++ (32 :: 124 :: 32 :: z)).length ≤ 1000 * (Ex.or p.1 q.1).post.length
    rw [e, List.length_append, List.length_cons, List.length_cons, List.length_cons]
    omega
  · rw [show ((0 : Nat) : Int) = 0 from rfl] at h2
    rw [show ((1 : Nat) : Int) = 1 from rfl] at k2
    rw [h2, k2, show y ++ (32 :: 124 :: 32 :: z) = y ++ [32, 124, 32] ++ z from by rw [List.append_assoc]; rfl, str_app, str_app]
    rfl
theorem pcs_snoc (es : List (Ex × List Nat)) (p : Ex × List Nat) : pcs (es ++ [p]) = pcs es ++ [(str p.2, (bindOf p.1 : Int))] := by unfold pcs; rw [List.map_append]; rfl
theorem pcs_two (es : List (Ex × List Nat)) (p q : Ex × List Nat) : pcs (es ++ [p, q]) = pcs es ++ [(str p.2, (bindOf p.1 : Int)), (str q.2, (bindOf q.1 : Int))] := by unfold pcs; rw [List.map_append]; rfl
theorem pcs_length (es : List (Ex × List Nat)) : (pcs es).length = es.length := by unfold pcs; rw [List.length_map]
theorem flatE_snoc (es : List (Ex × List Nat)) (p : Ex × List Nat) : flatE (es ++ [p]) = flatE es ++ p.1.post := by unfold flatE; rw [List.flatMap_append]; simp
theorem flatE_two (es : List (Ex × List Nat)) (p q : Ex × List Nat) : flatE (es ++ [p, q]) = flatE es ++ (p.1.post ++ q.1.post) := by unfold flatE; rw [List.flatMap_append]; simp
theorem snoc_of {α : Type} {es : List α} (h : ¬ es.length < 1) : ∃ l p, es = l ++ [p] := ⟨es.dropLast, es.getLast (by intro h0; subst h0; simp at h), (List.dropLast_concat_getLast _).symm⟩
theorem two_of {α : Type} {es : List α} (h : ¬ es.length < 2) : ∃ l p q, es = l ++ [p, q] := by
  obtain ⟨l, q, rfl⟩ := snoc_of (es := es) (by omega)
  rw [List.length_append, List.length_singleton] at h
  obtain ⟨l, p, rfl⟩ := snoc_of (es := l) (by omega)
  exact ⟨l, p, q, by rw [List.append_assoc]; rfl⟩
theorem mem_last {α : Type} {l : List α} {p : α} : p ∈ l ++ [p] := List.mem_append_right _ (List.mem_singleton.2 rfl)
theorem pcok_small {p : Ex × List Nat} (h : PcOk p) (hn : p.1.post.length ≤ 48) : (str p.2).size ≤ 1000000 := by
  have := h.len
  rw [str_size]
  omega
/-- One term more. -/
theorem printed_step {w : World} {B : Nat} {v : Value} {es : List (Ex × List Nat)} (h : Pcs w B v (pcs es)) (hB : B ≤ w.heap.size) (htb : Tb w) (hok : ∀ p ∈ es, PcOk p) (hfl : (flatE es).length ≤ 48) (hes : es.length ≤ 16) {q : Tm} (hq : TStd q) {r : List Tm} (hc : checkGo es.length (q :: r) = 0) :
    ∃ es' : List (Ex × List Nat), (∀ p ∈ es', PcOk p) ∧ flatE es' = flatE es ++ [q] ∧ es'.length ≤ 16 ∧ checkGo es'.length r = 0 ∧ OutP w B v q (pcs es') := by
  have hl : (pcs es).length ≤ 1000 := by rw [pcs_length]; omega
  have hone : ∀ p ∈ es, p.1.post.length ≤ 48 := fun p hp => by
    obtain ⟨a, b, rfl⟩ := List.append_of_mem hp
    unfold flatE at hfl
    rw [List.flatMap_append, List.flatMap_cons, List.length_append, List.length_append] at hfl
    omega
  rcases hq with rfl | rfl | hq | rfl | rfl | rfl
  · rw [checkGo, if_neg (by decide), if_neg (by decide)] at hc
    by_cases h16 : 16 < es.length + 1
    · rw [if_pos h16] at hc; cases hc
    · rw [if_neg h16] at hc
      refine ⟨es ++ [(.yes, [42])], fun p hp => ?_, flatE_snoc _ _, by rw [List.length_append]; simp; omega, by rw [List.length_append]; exact hc, ?_⟩
      · rcases List.mem_append.1 hp with hp | hp
        · exact hok p hp
        · rcases List.mem_singleton.1 hp with rfl
          exact ⟨Ex.std_yes, ⟨_, rfl, rfl⟩, by show 1 ≤ 1000 * 1; omega⟩
      · rw [pcs_snoc]; exact pr_yes h hB hl
  · rw [checkGo, if_neg (by decide), if_neg (by decide)] at hc
    by_cases h16 : 16 < es.length + 1
    · rw [if_pos h16] at hc; cases hc
    · rw [if_neg h16] at hc
      refine ⟨es ++ [(.no, [35])], fun p hp => ?_, flatE_snoc _ _, by rw [List.length_append]; simp; omega, by rw [List.length_append]; exact hc, ?_⟩
      · rcases List.mem_append.1 hp with hp | hp
        · exact hok p hp
        · rcases List.mem_singleton.1 hp with rfl
          exact ⟨Ex.std_no, ⟨_, rfl, rfl⟩, by show 1 ≤ 1000 * 1; omega⟩
      · rw [pcs_snoc]; exact pr_no h hB hl
  · have h3 : q.op = 3 := hq.1
    rw [checkGo, h3, if_neg (by decide), if_neg (by decide)] at hc
    obtain ⟨x, u, hx, hxl, hxo⟩ := atom_text hq
    by_cases h16 : 16 < es.length + 1
    · rw [if_pos h16] at hc; cases hc
    · rw [if_neg h16] at hc
      refine ⟨es ++ [(.atom q, x)], fun p hp => ?_, flatE_snoc _ _, by rw [List.length_append]; simp; omega, by rw [List.length_append]; exact hc, ?_⟩
      · rcases List.mem_append.1 hp with hp | hp
        · exact hok p hp
        · rcases List.mem_singleton.1 hp with rfl
          exact ⟨Ex.std_atom hq, ⟨u, hx⟩, by show x.length ≤ 1000 * 1; omega⟩
      · rw [pcs_snoc]; exact pr_atom h hB hl htb h3 hxo
  · rw [checkGo, if_pos (by rfl)] at hc
    by_cases h1 : es.length < 1
    · rw [if_pos h1] at hc; cases hc
    · rw [if_neg h1] at hc
      obtain ⟨l, p, rfl⟩ := snoc_of h1
      obtain ⟨x, hx, he⟩ := pcok_not (hok p mem_last)
      rw [List.length_append] at hc hes
      refine ⟨l ++ [(.not p.1, x)], fun y hy => ?_, ?_, by rw [List.length_append]; exact hes, by rw [List.length_append]; exact hc, ?_⟩
      · rcases List.mem_append.1 hy with hy | hy
        · exact hok y (List.mem_append_left _ hy)
        · rcases List.mem_singleton.1 hy with rfl
          exact hx
      · rw [flatE_snoc, flatE_snoc, List.append_assoc]; rfl
      · rw [pcs_snoc, ← he]
        rw [pcs_snoc] at h
        exact pr_not h hB (by rw [pcs_length]; simp at hes; omega) (pcok_small (hok p mem_last) (hone p mem_last))
  · rw [checkGo, if_neg (by decide), if_pos (by decide)] at hc
    by_cases h2 : es.length < 2
    · rw [if_pos h2] at hc; cases hc
    · rw [if_neg h2] at hc
      obtain ⟨l, p, q, rfl⟩ := two_of h2
      have mp : p ∈ l ++ [p, q] := List.mem_append_right _ (List.mem_cons_self ..)
      have mq : q ∈ l ++ [p, q] := List.mem_append_right _ (List.mem_cons_of_mem _ (List.mem_singleton.2 rfl))
      obtain ⟨x, hx, he⟩ := pcok_and (hok p mp) (hok q mq)
      have hll : (l ++ [p, q]).length = l.length + 2 := by rw [List.length_append]; rfl
      rw [hll] at hc hes
      refine ⟨l ++ [(.and p.1 q.1, x)], fun y hy => ?_, ?_, by rw [List.length_append, List.length_singleton]; omega, by rw [List.length_append, List.length_singleton]; exact hc, ?_⟩
      · rcases List.mem_append.1 hy with hy | hy
        · exact hok y (List.mem_append_left _ hy)
        · rcases List.mem_singleton.1 hy with rfl
          exact hx
      · rw [flatE_snoc, flatE_two, List.append_assoc]; rfl
      · rw [pcs_snoc, ← he]
        rw [pcs_two] at h
        exact pr_and h hB (by rw [pcs_length]; omega) (pcok_small (hok p mp) (hone p mp)) (pcok_small (hok q mq) (hone q mq))
  · rw [checkGo, if_neg (by decide), if_pos (by decide)] at hc
    by_cases h2 : es.length < 2
    · rw [if_pos h2] at hc; cases hc
    · rw [if_neg h2] at hc
      obtain ⟨l, p, q, rfl⟩ := two_of h2
      have mp : p ∈ l ++ [p, q] := List.mem_append_right _ (List.mem_cons_self ..)
      have mq : q ∈ l ++ [p, q] := List.mem_append_right _ (List.mem_cons_of_mem _ (List.mem_singleton.2 rfl))
      obtain ⟨x, hx, he⟩ := pcok_or (hok p mp) (hok q mq)
      have hll : (l ++ [p, q]).length = l.length + 2 := by rw [List.length_append]; rfl
      rw [hll] at hc hes
      refine ⟨l ++ [(.or p.1 q.1, x)], fun y hy => ?_, ?_, by rw [List.length_append, List.length_singleton]; omega, by rw [List.length_append, List.length_singleton]; exact hc, ?_⟩
      · rcases List.mem_append.1 hy with hy | hy
        · exact hok y (List.mem_append_left _ hy)
        · rcases List.mem_singleton.1 hy with rfl
          exact hx
      · rw [flatE_snoc, flatE_two, List.append_assoc]; rfl
      · rw [pcs_snoc, ← he]
        rw [pcs_two] at h
        exact pr_or h hB (by rw [pcs_length]; omega) (pcok_small (hok p mp) (hone p mp)) (pcok_small (hok q mq) (hone q mq))
end Go.Proofs.YteoopoabemeanaaGreatDoor
