/- value.Put of right values. -/
import Derived.Test.YtfmpfjpcigdeoabGreatDoorValPut
namespace Go.Proofs.YtfmpfjpcigdeoabGreatDoor
set_option maxRecDepth 100000
open Go.RowKit

theorem octet_Int' (n : Int) (h : (-9223372036854775808 : Int) ≤ n ∧ n ≤ 9223372036854775807) (L : List Nat) (m : Nat) (hL : Leb.leb (fold n) = L) (hm : L.length = m) (w : World) :
    Calls Tryz.prog 70 #[.int .i64 n] w fun e w' => ∃ a cap, e = .returned (.slice a m cap) ∧ a ≠ none ∧ Own w' w.heap.size a m cap L ∧ Below w.heap.size w w' := by
  subst hm
  subst hL
  exact octet_Int n h w
theorem octet_Text' (s : ByteArray) (hs : s.size ≤ 200) (L : List Nat) (m : Nat) (hL : Leb.leb s.size ++ bytesOf s = L) (hm : L.length = m) (w : World) :
    Calls Tryz.prog 45 #[.string s] w fun e w' => ∃ a cap, e = .returned (.tuple #[.slice a m cap, .int .i64 0]) ∧ a ≠ none ∧ Own w' w.heap.size a m cap L ∧ Below w.heap.size w w' := by
  subst hm
  subst hL
  have e : (Leb.leb s.size ++ bytesOf s).length = (Leb.leb s.size).length + s.size := by rw [List.length_append, bytesOf_length]
  rw [e]
  exact octet_Text s hs w

theorem value_truthBit (t : Bool) (w : World) : Calls Tryz.prog 71 #[.bool t] w fun e w' => e = .returned (.int .u8 (t.toNat : Int)) ∧ w' = w := by
  cases t
  all_goals
    go_enter Tryz.func71, Tryz.ntmps71
    go_wp2
    go_ret
    exact ⟨rfl, rfl⟩

theorem Own.lower2 {w : World} {base base' : Nat} {a : Option Addr} {len cap : Nat} {bs : List Nat} (h : Own w base a len cap bs) (hb : base' ≤ base) : Own w base' a len cap bs := by
  refine ⟨⟨h.row.1, ?_⟩, h.byte⟩
  rcases h.row.2 with hn | ⟨g, c, cur, hv, hbg, r⟩
  · exact .inl hn
  · exact .inr ⟨g, c, cur, hv, Nat.le_trans hb hbg, r⟩

/-- The cells of a new block stay. -/
theorem kept5 {w w1 : World} {c0 c1 c2 c3 c4 : Value} (h : Below (w.alloc (.cells #[c0, c1, c2, c3, c4] 47)).heap.size (w.alloc (.cells #[c0, c1, c2, c3, c4] 47)) w1) :
    (w1.cell? ⟨w.heap.size, 0, none⟩ = some c0 ∧ w1.cell? ⟨w.heap.size, 1, none⟩ = some c1 ∧ w1.cell? ⟨w.heap.size, 2, none⟩ = some c2 ∧ w1.cell? ⟨w.heap.size, 3, none⟩ = some c3 ∧ w1.cell? ⟨w.heap.size, 4, none⟩ = some c4) ∧ w.heap.size < w1.heap.size := by
  have hs : w.heap.size < (w.alloc (.cells #[c0, c1, c2, c3, c4] 47)).heap.size := by simp
  refine ⟨⟨?_, ?_, ?_, ?_, ?_⟩, Nat.lt_of_lt_of_le hs h.size⟩
  · exact (h.cell (p := ⟨w.heap.size, 0, none⟩) hs).trans (by simp)
  · exact (h.cell (p := ⟨w.heap.size, 1, none⟩) hs).trans (by simp)
  · exact (h.cell (p := ⟨w.heap.size, 2, none⟩) hs).trans (by simp)
  · exact (h.cell (p := ⟨w.heap.size, 3, none⟩) hs).trans (by simp)
  · exact (h.cell (p := ⟨w.heap.size, 4, none⟩) hs).trans (by simp)
theorem keptAt {w w1 : World} {b i : Nat} {c : Value} (hb : Below w.heap.size w w1) (h : w.cell? ⟨b, i, none⟩ = some c) : w1.cell? ⟨b, i, none⟩ = some c :=
  (hb.cell (p := ⟨b, i, none⟩) (World.block_lt_of_cell? w _ h)).trans h

set_option maxRecDepth 100000 in
set_option maxHeartbeats 1000000 in
theorem value_Put_1 (n : Int) (s : ByteArray) (t : Bool) (x y : Nat) (h : (-9223372036854775808 : Int) ≤ n ∧ n ≤ 9223372036854775807) (L : List Nat) (m : Nat) (hL : Leb.leb (fold n) = L) (hm : L.length = m) (hb : m ≤ 1000) (w : World) :
    Calls Tryz.prog 47 #[.agg #[.int .i64 1, .int .i64 n, .string s, .bool t, .complex .f64 x y]] w fun e w' => ∃ a c, e = .returned (.tuple #[.slice a (1 + m) c, .int .i64 0]) ∧ a ≠ none ∧ Own w' w.heap.size a (1 + m) c ([1] ++ L) ∧ Below w.heap.size w w' := by
  have HI : Hid (∀ w, Calls Tryz.prog 70 #[.int .i64 n] w fun e w' => ∃ a cap, e = .returned (.slice a m cap) ∧ a ≠ none ∧ Own w' w.heap.size a m cap L ∧ Below w.heap.size w w') := octet_Int' n h L m hL hm
  clear h hL hm
  go_enter Tryz.func47, Tryz.ntmps47
  go_wp2_with fail
  refine (value_Check_1 n s t x y _).mono ?_
  rintro e w1 ⟨rfl, hb1⟩
  have HB1 : Hid (Below w.heap.size w w1) := (below_alloc w _).trans (hb1.mono (by simp))
  obtain ⟨⟨k0, k1, k2, k3, k4⟩, hs1⟩ := kept5 hb1
  clear hb1
  have HO : Hid (Own (w1.alloc (.cells #[.int .u8 1] 5)) w.heap.size (some ⟨w1.heap.size, 0, none⟩) 1 1 [1]) := Own.new w1 w.heap.size #[.int .u8 1] [1] (by simp) rfl (by omega) (by decide)
  have HBA : Hid (Below w.heap.size w (w1.alloc (.cells #[.int .u8 1] 5))) := HB1.out.alloc HB1.out.size _
  have j0 := keptAt (below_alloc w1 (.cells #[.int .u8 1] 5)) k0
  have j1 := keptAt (below_alloc w1 (.cells #[.int .u8 1] 5)) k1
  clear hs1 k1 k2 k3 k4
  go_wp2_with fail
  refine (HI.out _).mono ?_
  rintro e w2 ⟨a2, c2, rfl, hne, ho2, hb2⟩
  have HN : Hid (a2 = none → c2 = 0) := fun h => absurd h hne
  have HO3 : Hid (Own w2 w.heap.size (some ⟨w1.heap.size, 0, none⟩) 1 1 [1]) := HO.out.below hb2
  have HR3 : Hid (Rd w2 a2 m L) := ho2.rd
  have HB3 : Hid (Below w.heap.size w w2) := HBA.out.trans (hb2.mono HBA.out.size)
  clear hne ho2 hb2 HO HB1 HBA j0 j1 k0
  go_wp2_with (at_builtin; refine wpList_append_rd rfl (.tmp 21) (.tmp 24) rfl w.heap.size (some ⟨w1.heap.size, 0, none⟩) 1 1 [1] rfl HO3.out a2 m c2 L rfl HR3.out HN.out (by omega) HB3.out.size ?_)
  intro a' c' w4 ho hg hb4
  have HO4 : Hid (Own w4 w.heap.size a' (1 + m) c' ([1] ++ L)) := ho
  have HB4 : Hid (Below w.heap.size w w4) := HB3.out.trans hb4
  clear ho hg hb4 HO3 HR3 HB3
  go_wp2
  go_ret2
  exact ⟨a', c', rfl, HO4.out.some (by omega), HO4.out, HB4.out⟩

set_option maxRecDepth 100000 in
set_option maxHeartbeats 1000000 in
theorem value_Put_2 (n : Int) (s : ByteArray) (t : Bool) (x y : Nat) (h : s.size ≤ 200) (L : List Nat) (m : Nat) (hL : Leb.leb s.size ++ bytesOf s = L) (hm : L.length = m) (hb : m ≤ 1000) (w : World) :
    Calls Tryz.prog 47 #[.agg #[.int .i64 2, .int .i64 n, .string s, .bool t, .complex .f64 x y]] w fun e w' => ∃ a c, e = .returned (.tuple #[.slice a (1 + m) c, .int .i64 0]) ∧ a ≠ none ∧ Own w' w.heap.size a (1 + m) c ([2] ++ L) ∧ Below w.heap.size w w' := by
  have HI : Hid (∀ w, Calls Tryz.prog 45 #[.string s] w fun e w' => ∃ a cap, e = .returned (.tuple #[.slice a m cap, .int .i64 0]) ∧ a ≠ none ∧ Own w' w.heap.size a m cap L ∧ Below w.heap.size w w') := octet_Text' s h L m hL hm
  have HC : Hid (s.size ≤ 200) := h
  clear h hL hm
  go_enter Tryz.func47, Tryz.ntmps47
  go_wp2_with fail
  refine (value_Check_2 n s t x y _ HC.out).mono ?_
  rintro e w1 ⟨rfl, hb1⟩
  have HB1 : Hid (Below w.heap.size w w1) := (below_alloc w _).trans (hb1.mono (by simp))
  obtain ⟨⟨k0, k1, k2, k3, k4⟩, hs1⟩ := kept5 hb1
  clear hb1
  have HO : Hid (Own (w1.alloc (.cells #[.int .u8 2] 5)) w.heap.size (some ⟨w1.heap.size, 0, none⟩) 1 1 [2]) := Own.new w1 w.heap.size #[.int .u8 2] [2] (by simp) rfl (by omega) (by decide)
  have HBA : Hid (Below w.heap.size w (w1.alloc (.cells #[.int .u8 2] 5))) := HB1.out.alloc HB1.out.size _
  have j0 := keptAt (below_alloc w1 (.cells #[.int .u8 2] 5)) k0
  have j2 := keptAt (below_alloc w1 (.cells #[.int .u8 2] 5)) k2
  clear hs1 k1 k2 k3 k4
  go_wp2_with fail
  refine (HI.out _).mono ?_
  rintro e w2 ⟨a2, c2, rfl, hne, ho2, hb2⟩
  have HN : Hid (a2 = none → c2 = 0) := fun h => absurd h hne
  have HO3 : Hid (Own w2 w.heap.size (some ⟨w1.heap.size, 0, none⟩) 1 1 [2]) := HO.out.below hb2
  have HR3 : Hid (Rd w2 a2 m L) := ho2.rd
  have HB3 : Hid (Below w.heap.size w w2) := HBA.out.trans (hb2.mono HBA.out.size)
  clear hne ho2 hb2 HO HB1 HBA j0 j2 k0
  go_wp2_with (at_builtin; refine wpList_append_rd rfl (.tmp 34) (.tmp 35) rfl w.heap.size (some ⟨w1.heap.size, 0, none⟩) 1 1 [2] rfl HO3.out a2 m c2 L rfl HR3.out HN.out (by omega) HB3.out.size ?_)
  intro a' c' w4 ho hg hb4
  have HO4 : Hid (Own w4 w.heap.size a' (1 + m) c' ([2] ++ L)) := ho
  have HB4 : Hid (Below w.heap.size w w4) := HB3.out.trans hb4
  clear ho hg hb4 HO3 HR3 HB3
  go_wp2
  go_ret2
  exact ⟨a', c', rfl, HO4.out.some (by omega), HO4.out, HB4.out⟩

set_option maxRecDepth 100000 in
set_option maxHeartbeats 1000000 in
theorem value_Put_3 (n : Int) (s : ByteArray) (t : Bool) (x y : Nat) (w : World) :
    Calls Tryz.prog 47 #[.agg #[.int .i64 3, .int .i64 n, .string s, .bool t, .complex .f64 x y]] w fun e w' => ∃ a c, e = .returned (.tuple #[.slice a 2 c, .int .i64 0]) ∧ a ≠ none ∧ Own w' w.heap.size a 2 c [3, t.toNat] ∧ Below w.heap.size w w' := by
  obtain ⟨tn, htn, HT⟩ : ∃ tn : Nat, tn < 256 ∧ Hid (t.toNat = tn) := ⟨_, by cases t <;> decide, rfl⟩
  rw [HT.out]
  go_enter Tryz.func47, Tryz.ntmps47
  go_wp2_with fail
  refine (value_Check_3 n s t x y _).mono ?_
  rintro e w1 ⟨rfl, hb1⟩
  have HB1 : Hid (Below w.heap.size w w1) := (below_alloc w _).trans (hb1.mono (by simp))
  obtain ⟨⟨k0, k1, k2, k3, k4⟩, hs1⟩ := kept5 hb1
  clear hb1
  have HO : Hid (Own (w1.alloc (.cells #[.int .u8 3] 5)) w.heap.size (some ⟨w1.heap.size, 0, none⟩) 1 1 [3]) := Own.new w1 w.heap.size #[.int .u8 3] [3] (by simp) rfl (by omega) (by decide)
  have HBA : Hid (Below w.heap.size w (w1.alloc (.cells #[.int .u8 3] 5))) := HB1.out.alloc HB1.out.size _
  have j0 := keptAt (below_alloc w1 (.cells #[.int .u8 3] 5)) k0
  have j3 := keptAt (below_alloc w1 (.cells #[.int .u8 3] 5)) k3
  clear hs1 k1 k2 k3 k4
  go_wp2_with fail
  refine (value_truthBit t _).mono ?_
  rw [HT.out]
  rintro e w2 ⟨rfl, hw2⟩
  have HB2 : Hid (Below w.heap.size w w2) := by rw [hw2]; exact HBA.out
  have HO2 : Hid (Own w2 w.heap.size (some ⟨w1.heap.size, 0, none⟩) 1 1 [3]) := by rw [hw2]; exact HO.out
  clear hw2 HO HB1 HBA j0 j3 k0
  have HO3 : Hid (Own (w2.alloc (.cells #[.int .u8 (tn : Int)] 5)) w.heap.size (some ⟨w1.heap.size, 0, none⟩) 1 1 [3]) := HO2.out.below (below_alloc w2 _)
  have HR3 : Hid (Rd (w2.alloc (.cells #[.int .u8 (tn : Int)] 5)) (some ⟨w2.heap.size, 0, none⟩) 1 [tn]) := rd_one w2 (tn : Int) tn rfl htn (0, 0)
  have HB3 : Hid (Below w.heap.size w (w2.alloc (.cells #[.int .u8 (tn : Int)] 5))) := HB2.out.alloc HB2.out.size _
  go_wp2_with (at_builtin; refine wpList_append_rd rfl (.tmp 39) (.tmp 43) rfl w.heap.size (some ⟨w1.heap.size, 0, none⟩) 1 1 [3] rfl HO3.out (some ⟨w2.heap.size, 0, none⟩) 1 1 [tn] rfl HR3.out (by simp) (by decide) HB3.out.size ?_)
  intro a' c' w4 ho hg hb4
  have HO4 : Hid (Own w4 w.heap.size a' 2 c' [3, tn]) := ho
  have HB4 : Hid (Below w.heap.size w w4) := HB3.out.trans hb4
  clear ho hg hb4 HO3 HR3 HB3 HO2 HB2
  go_wp2
  go_ret2
  exact ⟨a', c', rfl, HO4.out.some (by omega), HO4.out, HB4.out⟩

set_option maxRecDepth 100000 in
set_option maxHeartbeats 1000000 in
theorem value_Put_4 (n : Int) (s : ByteArray) (t : Bool) (x y : Int) (hx : near x) (hy : near y) (L K : List Nat) (m k : Nat) (hL : Leb.leb (fold x) = L) (hm : L.length = m) (hb : m ≤ 1000) (hK : Leb.leb (fold y) = K) (hk : K.length = k) (hkb : k ≤ 1000) (w : World) :
    Calls Tryz.prog 47 #[.agg #[.int .i64 4, .int .i64 n, .string s, .bool t, .complex .f64 (floatOfInt .f64 x) (floatOfInt .f64 y)]] w fun e w' => ∃ a c, e = .returned (.tuple #[.slice a ((1 + m) + k) c, .int .i64 0]) ∧ a ≠ none ∧ Own w' w.heap.size a ((1 + m) + k) c (([4] ++ L) ++ K) ∧ Below w.heap.size w w' := by
  have HI : Hid (∀ w, Calls Tryz.prog 70 #[.int .i64 x] w fun e w' => ∃ a cap, e = .returned (.slice a m cap) ∧ a ≠ none ∧ Own w' w.heap.size a m cap L ∧ Below w.heap.size w w') := octet_Int' x (by unfold near at hx; omega) L m hL hm
  have HJ : Hid (∀ w, Calls Tryz.prog 70 #[.int .i64 y] w fun e w' => ∃ a cap, e = .returned (.slice a k cap) ∧ a ≠ none ∧ Own w' w.heap.size a k cap K ∧ Below w.heap.size w w') := octet_Int' y (by unfold near at hy; omega) K k hK hk
  have HC : Hid (∀ w, Calls Tryz.prog 55 #[.agg #[.int .i64 4, .int .i64 n, .string s, .bool t, .complex .f64 (floatOfInt .f64 x) (floatOfInt .f64 y)]] w fun e w' => e = .returned (.int .i64 0) ∧ Below w.heap.size w w') := fun w => value_Check_4 n s t x y w hx hy
  have cx : ∀ W, (convert 116 2 (.float .f64 (floatOfInt .f64 x))).run Tryz.prog W = .ok (.int .i64 x) W := fun W => run_convert_float_int W _ _ _ _ _ _ (by kernel_rfl) Tryz.underlying2 (Flt.toInt_whole x (near_abs hx))
  have cy : ∀ W, (convert 116 2 (.float .f64 (floatOfInt .f64 y))).run Tryz.prog W = .ok (.int .i64 y) W := fun W => run_convert_float_int W _ _ _ _ _ _ (by kernel_rfl) Tryz.underlying2 (Flt.toInt_whole y (near_abs hy))
  generalize floatOfInt .f64 x = X at *
  generalize floatOfInt .f64 y = Y at *
  clear hL hm hK hk hx hy
  go_enter Tryz.func47, Tryz.ntmps47
  go_wp2_with fail
  refine (HC.out _).mono ?_
  rintro e w1 ⟨rfl, hb1⟩
  have HB1 : Hid (Below w.heap.size w w1) := (below_alloc w _).trans (hb1.mono (by simp))
  obtain ⟨⟨k0, k1, k2, k3, k4⟩, hs1⟩ := kept5 hb1
  clear hb1
  have HO : Hid (Own (w1.alloc (.cells #[.int .u8 4] 5)) (w.heap.size + 1) (some ⟨w1.heap.size, 0, none⟩) 1 1 [4]) := Own.new w1 (w.heap.size + 1) #[.int .u8 4] [4] (by simp) rfl (by omega) (by decide)
  have HBA : Hid (Below w.heap.size w (w1.alloc (.cells #[.int .u8 4] 5))) := HB1.out.alloc HB1.out.size _
  have j0 := keptAt (below_alloc w1 (.cells #[.int .u8 4] 5)) k0
  have j4 := keptAt (below_alloc w1 (.cells #[.int .u8 4] 5)) k4
  clear hs1 k1 k2 k3 k4
  go_wp2_with fail
  refine (HI.out _).mono ?_
  rintro e w2 ⟨a2, c2, rfl, hne, ho2, hb2⟩
  have HN : Hid (a2 = none → c2 = 0) := fun h => absurd h hne
  have HO3 : Hid (Own w2 (w.heap.size + 1) (some ⟨w1.heap.size, 0, none⟩) 1 1 [4]) := HO.out.below hb2
  have HR3 : Hid (Rd w2 a2 m L) := ho2.rd
  have HB3 : Hid (Below w.heap.size w w2) := HBA.out.trans (hb2.mono HBA.out.size)
  have i4 := keptAt hb2 j4
  have HS3 : Hid (w.heap.size + 1 ≤ w2.heap.size) := World.block_lt_of_cell? w2 _ i4
  have HI4 : Hid (w2.cell? ⟨w.heap.size, 4, none⟩ = some (.complex .f64 X Y)) := i4
  clear hne ho2 hb2 HO HBA j0 j4 k0 i4
  go_wp2_with (at_builtin; refine wpList_append_rd rfl (.tmp 47) (.tmp 52) rfl (w.heap.size + 1) (some ⟨w1.heap.size, 0, none⟩) 1 1 [4] rfl HO3.out a2 m c2 L rfl HR3.out HN.out (by omega) HS3.out ?_)
  intro a' c' w4 ho hg hb4
  have HO4 : Hid (Own w4 (w.heap.size + 1) a' (1 + m) c' ([4] ++ L)) := ho
  have HB4 : Hid (Below w.heap.size w w4) := HB3.out.trans (hb4.mono (by omega))
  have i4 : w4.cell? ⟨w.heap.size, 4, none⟩ = some (.complex .f64 X Y) := (hb4.cell (p := ⟨w.heap.size, 4, none⟩) (Nat.lt_succ_self _)).trans HI4.out
  clear ho hg hb4 HO3 HR3 HB3 HS3 HI4
  go_wp2_with fail
  refine (HJ.out _).mono ?_
  rintro e w5 ⟨a5, c5, rfl, hne, ho5, hb5⟩
  have HN5 : Hid (a5 = none → c5 = 0) := fun h => absurd h hne
  have HO6 : Hid (Own w5 w.heap.size a' (1 + m) c' ([4] ++ L)) := (HO4.out.below hb5).lower2 (by omega)
  have HR6 : Hid (Rd w5 a5 k K) := ho5.rd
  have HB6 : Hid (Below w.heap.size w w5) := HB4.out.trans (hb5.mono HB4.out.size)
  clear hne ho5 hb5 i4 HO4 HB4
  go_wp2_with (at_builtin; refine wpList_append_rd rfl (.tmp 54) (.tmp 59) rfl w.heap.size a' (1 + m) c' ([4] ++ L) rfl HO6.out a5 k c5 K rfl HR6.out HN5.out (by omega) HB6.out.size ?_)
  intro a'' c'' w7 ho7 hg7 hb7
  have HO7 : Hid (Own w7 w.heap.size a'' ((1 + m) + k) c'' (([4] ++ L) ++ K)) := ho7
  have HB7 : Hid (Below w.heap.size w w7) := HB6.out.trans hb7
  clear ho7 hg7 hb7 HO6 HR6 HB6
  go_wp2
  go_ret2
  exact ⟨a'', c'', rfl, HO7.out.some (by omega), HO7.out, HB7.out⟩
end Go.Proofs.YtfmpfjpcigdeoabGreatDoor
