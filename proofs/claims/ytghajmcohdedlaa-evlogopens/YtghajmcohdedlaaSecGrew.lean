/- How a deed turns a disk; what is told of a sector, in one form. -/
import Derived.Test.YtghajmcohdedlaaRk6
namespace Go.Proofs.Ytghajmcohdedlaa
open Go.RowKit

theorem trips_age (D : Dk) : (tripsD D).age = D.age := by unfold tripsD; split <;> rfl
theorem crashL_len : ∀ (S : List (List Nat)) (W : List (Nat × List Nat)) (F : List Int), (crashL S W F).length = S.length
  | _, [], _ => rfl
  | _, _ :: _, [] => rfl
  | S, p :: W, f :: F => by rw [crashL, crashL_len, List.length_set]
theorem syncL_length : ∀ (S : List (List Nat)) (W : List (Nat × List Nat)), (syncL S W).length = S.length
  | _, [] => rfl
  | S, p :: W => by rw [syncL, syncL_length, List.length_set]
/-- How a deed turns what there is. -/
structure Grew (D E : Dk) : Prop where
  wl : E.waits.length ≤ D.waits.length + 1
  ag : E.age ≤ D.age + 1
  sl : E.sure.length = D.sure.length
theorem Grew.same (D : Dk) : Grew D D := ⟨Nat.le_succ _, Nat.le_succ _, rfl⟩
theorem write_grew (D : Dk) (i : Int) (bs : List Nat) : Grew D (writeD D i bs) := by
  unfold writeD
  split
  · exact Grew.same D
  split
  · exact Grew.same D
  split
  · exact Grew.same D
  split
  · exact ⟨by rw [trips_waits]; omega, by rw [trips_age]; omega, by rw [trips_sure]⟩
  · exact ⟨by simp, by simp only [trips_age]; omega, by simp only [trips_sure]⟩
theorem sync_grew (D : Dk) : Grew D (syncD D) := by
  unfold syncD
  split
  · exact Grew.same D
  split
  · exact ⟨by rw [trips_waits]; omega, by rw [trips_age]; omega, by rw [trips_sure]⟩
  · exact ⟨by simp, by simp only [trips_age]; omega, by simp only [syncL_length]⟩
theorem trip_grew (D : Dk) (n : Int) : Grew D (tripD D n) := by
  unfold tripD
  split
  · exact Grew.same D
  split
  · exact Grew.same D
  · exact ⟨by simp, by simp, rfl⟩
theorem crash_grew (D : Dk) (F : List Int) : Grew D (crashD D F) := ⟨by simp [crashD], by simp [crashD], by simp only [crashD, crashL_len]⟩
/-- What is told of a sector. -/
def tellB (er : Int) (s : List Nat) : List Nat := if er = 0 then s else []
theorem ReadTold.uni {w : World} {B : Nat} {e : Ending} {er : Int} {s : List Nat} (h : ReadTold w B e er s) : ∃ a l c, e = .returned (.tuple #[.slice a l c, .int .i64 er]) ∧ Rd w a l (tellB er s) := by
  rcases h with ⟨h1, h2⟩ | ⟨rfl, k, h2, _, h3, h4⟩
  · refine ⟨none, 0, 0, h2, ?_⟩
    rw [tellB, if_neg h1]
    exact ⟨rfl, fun _ h => (by cases h), .inl rfl⟩
  · refine ⟨some ⟨k, 0, none⟩, 64, 64, h2, ?_⟩
    have := Rd.of_blk h3 h4.byte
    rw [h4.len] at this
    exact this
theorem RefTold.uni {w : World} {e : Ending} {er : Int} {s : List Nat} (h : RefTold w e er s) : ∃ a l c, e = .returned (.tuple #[.slice a l c, .int .i64 er]) ∧ Rd w a l (tellB er s) := by
  rcases h with ⟨h1, h2⟩ | ⟨rfl, a, c, h2, h3, _⟩
  · refine ⟨none, 0, 0, h2, ?_⟩
    rw [tellB, if_neg h1]
    exact ⟨rfl, fun _ h => (by cases h), .inl rfl⟩
  · exact ⟨a, 64, c, h2, h3⟩

theorem RefTold.uni2 {w : World} {e : Ending} {er : Int} {s : List Nat} (h : RefTold w e er s) : ∃ a l c, e = .returned (.tuple #[.slice a l c, .int .i64 er]) ∧ Rd w a l (tellB er s) ∧ l ≤ c ∧ (tellB er s = [] ∨ Sec (tellB er s)) ∧ (er = 0 → Sec s) := by
  rcases h with ⟨h1, h2⟩ | ⟨rfl, a, c, h2, h3, h4, h5⟩
  · refine ⟨none, 0, 0, h2, ?_, Nat.le_refl _, .inl (by rw [tellB, if_neg h1]), fun h => absurd h h1⟩
    rw [tellB, if_neg h1]
    exact ⟨rfl, fun _ h => (by cases h), .inl rfl⟩
  · exact ⟨a, 64, c, h2, h3, h5, .inr h4, fun _ => h4⟩
theorem own_lower {w : World} {base base' : Nat} {e : TypeId} {size n : Nat} {v : Value} {xs : List Value} (h : w.ownsRow base e size v n xs) (hb : base' ≤ base) : w.ownsRow base' e size v n xs := by
  refine ⟨h.1, ?_⟩
  rcases h.2 with h1 | ⟨g, c, cur, h1, h2, r⟩
  · exact .inl h1
  · exact .inr ⟨g, c, cur, h1, Nat.le_trans hb h2, r⟩
theorem Rk.lower {w : World} {base base' r q : Nat} {sv wv : Value} {SV WV : List Value} {D : Dk} (h : Rk w base r q sv wv SV WV D) (hb : base' ≤ base) : Rk w base' r q sv wv SV WV D :=
  ⟨h.blk, own_lower h.srow hb, own_lower h.wrow hb, Nat.le_trans hb h.br, h.s1, h.sz, h.each, h.puts, h.tr, h.ag, h.wl⟩

theorem Disk.far {w w' : World} {base g gs : Nat} {wv : Value} {D : Dk} (h : Disk w base g gs wv D) (H : ∀ (k : Nat) cs t fr, w.heap[k]? = some (.cells cs t fr) → t ≠ 5 → w'.heap[k]? = some (.cells cs t fr)) : Disk w' base g gs wv D :=
  ⟨H _ _ _ _ h.blk (by decide), H _ _ _ _ h.srow (by decide), own_type h.wrow (fun k cs hk => H k cs _ _ hk (by decide)), h.bg, h.bs, h.sz, h.sec, h.wts, h.tr, h.ag, h.wl⟩
theorem Own.mv {w w' : World} {base b2 B g gs : Nat} {wv : Value} {D : Dk} {a : Option Addr} {n c : Nat} {bs : List Nat} (h : Own w B a n c bs) (hd : Disk w base g gs wv D) (hm : Mv w w' b2 g gs) : Own w' B a n c bs :=
  ⟨own_type h.row (fun k cs hk => Keep.of_mv hd hm (k + 1) k cs _ _ hk (.inr (.inr (.inr ⟨rfl, by omega⟩)))), h.byte⟩
theorem Own.mr {w w' : World} {base B : Nat} {a : Option Addr} {n c : Nat} {bs : List Nat} (h : Own w B a n c bs) (hm : Mr w w' base) : Own w' B a n c bs :=
  ⟨own_type h.row (fun k cs hk => hm.block k cs _ _ hk (by decide) (by decide) (by decide)), h.byte⟩
theorem Mv.size {w w' : World} {base g gs : Nat} (h : Mv w w' base g gs) : w.heap.size ≤ w'.heap.size := h.low.size
/-- The block of a slice of one's own; some block, if it has none. -/
theorem Own.block {w : World} {B : Nat} {a : Option Addr} {n c : Nat} {bs : List Nat} (h : Own w B a n c bs) : n = 0 ∨ ∃ k, a = some ⟨k, 0, none⟩ ∧ B ≤ k ∧ k < w.heap.size ∧ ∃ cs, w.heap[k]? = some (.cells cs 5 (0, 0)) := by
  rcases h.row.2 with ⟨_, h0⟩ | ⟨g, c', cur, hv, hb, hg, _⟩
  · exact .inl h0
  · simp only [Value.slice.injEq] at hv
    exact .inr ⟨g, hv.1, hb, heap_lt hg, cur, hg⟩
/-- A byte of a slice of one's own is another one. -/
theorem Own.poke {w : World} {B k n c : Nat} {bs : List Nat} (h : Own w B (some ⟨k, 0, none⟩) n c bs) (i x : Nat) (hx : x < 256) : Own (w.setCell ⟨k, i, none⟩ (.int .u8 (x : Int))) B (some ⟨k, 0, none⟩) n c (bs.set i x) := by
  have h1 := (h.row.stored i (.int .u8 (x : Int))).1
  refine ⟨?_, fun y hy => ?_⟩
  · have e : vb (bs.set i x) = (vb bs).set i (.int .u8 (x : Int)) := by simp [vb, List.map_set]
    rw [e]
    exact h1
  · rcases List.mem_or_eq_of_mem_set hy with hy | rfl
    · exact h.byte y hy
    · exact hx

end Go.Proofs.Ytghajmcohdedlaa
