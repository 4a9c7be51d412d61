/- sector: New, Size, Waits, Down, Trip; the law's live. -/
import Derived.Test.YtghajmcohdedlaaSec4
namespace Go.Proofs.Ytghajmcohdedlaa
open Go.RowKit

def newD (n : Nat) : Dk := ⟨List.replicate n (List.replicate 64 0), [], 0, false, 0⟩
theorem infoBlockB : (Try.prog.info? 70).map (fun i => (i.zero, i.size, i.bytes)) = some (some (.agg (List.replicate 64 (Value.int .u8 0)).toArray), 64, 64) := by kernel_rfl
theorem zeros_cells : ∀ n, scells (List.replicate n (List.replicate 64 0)) = List.replicate (n * 64) (Value.int .u8 0)
  | 0 => rfl
  | n + 1 => by
    have e : vb (List.replicate 64 0) = List.replicate 64 (Value.int .u8 0) := by simp [vb]
    rw [List.replicate_succ, scells, List.flatMap_cons, e]
    have := zeros_cells n
    rw [scells] at this
    rw [this, List.replicate_append_replicate]
    congr 1
    omega
theorem made_zeros (m : Nat) : (madeCells (List.replicate 64 (Value.int .u8 0)).toArray m).toList = List.replicate m (Value.int .u8 0) := by
  have hz : ∀ k, (List.replicate 64 (Value.int .u8 0)).toArray[k % 64]! = Value.int .u8 0 := by
    intro k
    have hk : k % 64 < 64 := Nat.mod_lt _ (by omega)
    rw [getElem!_pos _ _ (by simpa using hk)]
    simp only [List.getElem_toArray, List.getElem_replicate]
  simp only [madeCells]
  apply List.ext_getElem
  · simp
  · intro i h1 h2
    rw [List.getElem_replicate]
    have e : (List.replicate 64 (Value.int .u8 0)).toArray.size = 64 := by simp
    simp only [Array.toList_map, List.getElem_map, e, hz]

/-- What New tells. -/
def NewTold (w w' : World) (n : Int) (e : Ending) : Prop :=
  (¬ (1 ≤ n ∧ n ≤ 512) ∧ e = .returned (.tuple #[.pointer none, .int .i64 2])) ∨
  ((1 ≤ n ∧ n ≤ 512) ∧ ∃ g, e = .returned (.tuple #[.pointer (some ⟨g, 0, none⟩), .int .i64 0]) ∧ Disk w' w.heap.size g w.heap.size (.slice none 0 0) (newD n.toNat))

set_option maxRecDepth 100000 in
set_option maxHeartbeats 1000000 in
theorem sector_New (n : Int) (w : World) : Calls Try.prog 4 #[.int .i64 n] w fun e w' => Hid (NewTold w w' n e) ∧ Below w.heap.size w w' := by
  by_cases h1 : n < 1
  · go_enter Try.func4, Try.ntmps4
    go_wp2
    go_returns
    exact ⟨.inl ⟨by omega, rfl⟩, Below.refl _ _⟩
  · by_cases h2 : 512 < n
    · go_enter Try.func4, Try.ntmps4
      go_wp2
      go_returns
      exact ⟨.inl ⟨by omega, rfl⟩, Below.refl _ _⟩
    · obtain ⟨m, rfl⟩ := Int.eq_ofNat_of_zero_le (show 0 ≤ n by omega)
      have hm : m ≤ 512 := by omega
      obtain ⟨i0, hi, hz0, hz1, hz2⟩ := info_parts infoBlockB
      go_enter Try.func4, Try.ntmps4
      go_wp2_with (at_make; refine wpList_make_full w (by rfl) (.tmp 10) (.tmp 10) 41 (by rfl) w.heap.size 70 i0 (.agg (List.replicate 64 (Value.int .u8 0)).toArray) 64 Try.underlying41 hi hz0 hz1 .i64 .i64 (m : Int) (m : Int) m (by rfl) (by rfl) rfl rfl (by rw [hz2]; omega) (by unfold maxLen; omega) (Nat.le_refl _) ?_)
      intro w1 ho1 hg1
      have HB1 : Hid (Below w.heap.size w w1) := (Below.refl _ _).grown hg1 (Nat.le_refl _) (fun k hk => by cases hk)
      have hk1 : Blk w1 w.heap.size (scells (List.replicate m (List.replicate 64 0))).toArray 70 := by
        rcases ho1.2 with ⟨h0, _⟩ | ⟨g', c', cur, h3, _, h5, _, _, h8, h9⟩
        · cases h0
        · simp only [Value.slice.injEq, Option.some.injEq, Addr.mk.injEq, and_true] at h3
          obtain ⟨rfl, _, rfl⟩ := h3
          rw [List.take_of_length_le (by rw [Array.length_toList, h8]; exact Nat.le_refl _)] at h9
          unfold Blk
          rw [h5, zeros_cells, ← made_zeros, ← Array.toArray_toList (xs := cur), h9]
          rfl
      have HK1 : Hid (Blk w1 w.heap.size (scells (List.replicate m (List.replicate 64 0))).toArray 70) := hk1
      have HSE : Hid (∀ s ∈ List.replicate m (List.replicate 64 0), Sec s) := fun s hs => by rw [List.eq_of_mem_replicate hs]; exact ⟨by simp, fun b hb => by rw [List.eq_of_mem_replicate hb]; omega⟩
      clear ho1 hg1 hk1 hi hz0 hz1 hz2
      go_wp2
      go_returns
      refine ⟨.inr ⟨⟨by omega, by omega⟩, w1.heap.size, rfl, ?_⟩, HB1.out.alloc HB1.out.size _⟩
      rw [Int.toNat_natCast]
      have hb2 := below_alloc w1 (.cells #[.slice (some ⟨w.heap.size, 0, none⟩) m m, .slice none 0 0, .int .i64 0, .bool false, .int .i64 0] 44)
      refine ⟨?_, HK1.out.stay hb2, World.ownsRow_nil _ _ _ _, HB1.out.size, Nat.le_refl _, by rw [newD]; simp only [List.length_replicate]; exact hm, HSE.out, (fun p hp => by cases hp), Nat.zero_le _, Nat.zero_le _, Nat.zero_le _⟩
      rw [newD]
      simp only [List.length_replicate]
      exact Blk.new _ _ _

set_option maxRecDepth 100000 in
theorem disk_Size (w : World) (base g gs : Nat) (wv : Value) (D : Dk) (h : Disk w base g gs wv D) : Calls Try.prog 17 #[.pointer (some ⟨g, 0, none⟩)] w fun e w' => e = .returned (.int .i64 (D.sure.length : Int)) ∧ w' = w := by
  have c0 : w.cell? ⟨g, 0, none⟩ = some (.slice (some ⟨gs, 0, none⟩) D.sure.length D.sure.length) := h.blk.cell 0 rfl
  have hsz := h.sz
  obtain ⟨n, hn⟩ : ∃ n, n = D.sure.length := ⟨_, rfl⟩
  rw [← hn] at c0 hsz ⊢
  clear h hn
  go_enter Try.func17, Try.ntmps17
  go_wp2
  go_ret
  exact ⟨rfl, rfl⟩
set_option maxRecDepth 100000 in
theorem disk_Waits (w : World) (base g gs : Nat) (wv : Value) (D : Dk) (h : Disk w base g gs wv D) : Calls Try.prog 8 #[.pointer (some ⟨g, 0, none⟩)] w fun e w' => e = .returned (.int .i64 (D.waits.length : Int)) ∧ w' = w := by
  obtain ⟨aw, nw, cw, rfl⟩ := own_slice h.wrow
  have hnw : nw = D.waits.length := by
    rcases h.form with ⟨h0, a', c', h1⟩ | ⟨gw, c', h1, _⟩
    · simp only [Value.slice.injEq] at h1; rw [h0]; exact h1.2.1
    · simp only [Value.slice.injEq] at h1; exact h1.2.1
  have hwl := h.wl
  rw [← hnw] at hwl ⊢
  have c1 : w.cell? ⟨g, 1, none⟩ = some (.slice aw nw cw) := h.blk.cell 1 rfl
  clear h hnw
  go_enter Try.func8, Try.ntmps8
  go_wp2
  go_ret
  exact ⟨rfl, rfl⟩
set_option maxRecDepth 100000 in
theorem disk_Down (w : World) (base g gs : Nat) (wv : Value) (D : Dk) (h : Disk w base g gs wv D) : Calls Try.prog 16 #[.pointer (some ⟨g, 0, none⟩)] w fun e w' => e = .returned (.bool D.down) ∧ w' = w := by
  have c3 : w.cell? ⟨g, 3, none⟩ = some (.bool D.down) := h.blk.cell 3 rfl
  clear h
  go_enter Try.func16, Try.ntmps16
  go_wp2
  go_ret
  exact ⟨rfl, rfl⟩
theorem Rd.of_blk {w : World} {k : Nat} {bs : List Nat} {t : TypeId} (h : Blk w k (vb bs).toArray t) (hb : ∀ b ∈ bs, b < 256) : Rd w (some ⟨k, 0, none⟩) bs.length bs :=
  ⟨rfl, hb, .inr ⟨k, 0, rfl, h.lt, fun i hi => by rw [Nat.zero_add]; exact h.cell i (by simpa using vb_at hi)⟩⟩
theorem Rd.of_row {w : World} {k : Nat} {bs : List Nat} {t : TypeId} {fr : Nat × Nat} (h : w.heap[k]? = some (.cells (vb bs).toArray t fr)) (hb : ∀ b ∈ bs, b < 256) : Rd w (some ⟨k, 0, none⟩) bs.length bs :=
  ⟨rfl, hb, .inr ⟨k, 0, rfl, heap_lt h, fun i hi => by rw [Nat.zero_add, cell_of_row w k i _ t fr h]; simpa using vb_at hi⟩⟩
def liveD : Dk := crashD (writeD (newD 2) 0 [97, 98]) [5]
theorem live_facts : writeE (newD 2) 0 [97, 98] = 0 ∧ readE liveD 0 = 0 ∧ nowB liveD 0 = 97 :: 0 :: List.replicate 62 0 := by decide

end Go.Proofs.Ytghajmcohdedlaa
