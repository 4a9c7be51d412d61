/- link.write; grapevineref14.Frame. -/
import Derived.Test.YtoijhlnadaipoaaDoorSealRef
import Derived.Test.YtoijhlnadaipoaaDoorPp1
import Derived.Test.YtoijhlnadaipoaaDoorStep
import Derived.Deep.RegionHeld3
namespace Go.Proofs.YtoijhlnadaipoaaDoor
open Go.RowKit

theorem take_putH {P : Program} {ops : Array Oper} {Q : Exit → Act → World → Prop} {S : World → Prop} {md : Region.Mode} {i : Nat} {oi : Oper} {v : Value} {fuel : Nat} {listed : Array Bool} {a : Act} {w : World} (d : Option Nat) (hi : ops[i]? = some oi) (hd : oi.dst = d)
    (hs : Region.noSelect ops = true) (hf : Region.free md ops listed i = true) (hr : (Region.ready md ops listed).contains i = true)
    (hQ : ∀ c a w, Q (.panic c) (a.put d v) w → Q (.panic c) a w) (hy : YieldsIf P ops S oi v a) (hS : S w)
    (h : wpAnyH P md ops Q S fuel (listed.setIfInBounds i true) (a.put d v) w) : wpAnyH P md ops Q S (fuel + 1) listed a w := by
  subst hd
  exact wpAnyH_take hi hs hf hr hQ hy hS h
set_option maxRecDepth 100000 in
set_option maxHeartbeats 4000000 in
theorem lk_write (k : Nat) (hk : k < 256) (ra : Option Addr) (rn rc : Nat) (rest : List Nat) (g : Nat) (ns : List Nat) (w : World) (hr : Rd w ra rn rest) (hz : ra = none → rc = 0) (hg : Bk w g (nvs ns) 3) (hn : ∀ n ∈ ns, n < 9223372036854775808) (hnl : ns.length ≤ 3) (hlen : (lebs ns).length + rn ≤ 4096) (ht : Tab w) (h0 : 0 < w.heap.size) :
    Calls Tryd.prog 27 #[.agg #[.int .u8 (k : Int), .slice ra rn rc], .slice (some ⟨g, 0, none⟩) ns.length ns.length] w fun e w' => (∃ gf, e = .returned (.slice (some ⟨gf, 0, none⟩) ((lebs ns).length + rn + 8) ((lebs ns).length + rn + 8)) ∧ Hid (Own w' w.heap.size (some ⟨gf, 0, none⟩) ((lebs ns).length + rn + 8) ((lebs ns).length + rn + 8) (SealM.sealed k (lebs ns ++ rest)))) ∧ Below w.heap.size w w' := by
  have HR : Hid (Rd w ra rn rest) := hr
  have HRZ : Hid (ra = none → rc = 0) := hz
  have HN : Hid (∀ n ∈ ns, n < 9223372036854775808) := hn
  have HTB : Hid (Tab w) := ht
  obtain ⟨T, HTE⟩ : ∃ T, Hid (T = lebs ns) := ⟨_, rfl⟩
  obtain ⟨N, hN⟩ : ∃ N, N = ns.length := ⟨_, rfl⟩
  have HNE : Hid (N = ns.length) := hN
  rw [← HTE.out] at hlen ⊢
  rw [← hN] at hnl ⊢
  obtain ⟨W0, HW0⟩ : ∃ W0, Hid (W0 = w.alloc (.cells #[.int .u8 (k : Int), .slice ra rn rc] 78)) := ⟨_, rfl⟩
  have HB0 : Hid (Below w.heap.size w W0) := by rw [HW0.out]; exact below_new _ _
  have HX0 : Hid (Bk W0 w.heap.size #[.int .u8 (k : Int), .slice ra rn rc] 78) := by rw [HW0.out]; exact Bk.new _ _ _
  have HG : Hid (Bk W0 g (nvs ns) 3) := hg.stay HB0.out
  clear hr hz hg hn hN ht
  go_enter Tryd.func27, Tryd.ntmps27
  go_wp2
  rw [← HW0.out]
  go_loopw [5, 12] (fun t5 t12 wr => ∃ (j : Nat) (ax : Option Addr) (x cx : Nat) (X : List Nat), j ≤ N ∧ t12 = .int .i64 (j : Int) ∧ t5 = .slice ax x cx ∧ Hid (Own wr W0.heap.size ax x cx X) ∧ Hid (X ++ lebs (ns.drop j) = T) ∧ Hid (Kb W0.heap.size W0 wr)) (fun _ t12 _ => N - (intOf t12).toNat)
  case atStart => exact ⟨0, none, 0, 0, [], by omega, rfl, rfl, Own.none_ _ _, by show _ = _; rw [HTE.out]; rfl, Kb.refl _ _⟩
  case round =>
    obtain ⟨j, ax, x, cx, X, hj, rfl, rfl, HOX, HE, HK⟩ := hrel
    have HXL : Hid (x = X.length ∧ X.length ≤ T.length) := by
      have h1 := congrArg List.length HE.out
      rw [List.length_append] at h1
      have h2 := HOX.out.size
      exact ⟨by omega, by omega⟩
    have hx6 : x ≤ 4096 := by have := HXL.out; omega
    by_cases hlt : j < N
    · have hlt' : (j : Int) < (N : Int) := by omega
      have h0j : (0 : Int) ≤ (j : Int) := by omega
      obtain ⟨n, hn⟩ : ∃ n, ns[j]? = some n := ⟨_, List.getElem?_eq_getElem (by rw [← HNE.out]; exact hlt)⟩
      have hnb : n < 9223372036854775808 := HN.out n (List.mem_of_getElem? hn)
      have HD : Hid (ns.drop j = n :: ns.drop (j + 1)) := by
        show _ = _
        obtain ⟨h1, h2⟩ := List.getElem?_eq_some_iff.1 hn
        rw [List.drop_eq_getElem_cons h1, h2]
      have c0 : wr.cell? ⟨g, j, none⟩ = some (.int .i64 (n : Int)) := (HG.out.kept HK.out (by decide)).cell j (nvs_at hn)
      clear hn
      go_wp2_with fail
      refine (octet_Uint n (by omega) _).mono ?_
      rintro e w3 ⟨a3, c3, rfl, _, ho3, hb3⟩
      have hm1 := Leb.leb_length n
      obtain ⟨m1, hm1e⟩ : ∃ m, m = (Leb.leb n).length := ⟨_, rfl⟩
      have HM1 : Hid (m1 = (Leb.leb n).length) := hm1e
      rw [← hm1e] at ho3 hm1 ⊢
      have HO3 : Hid (Own w3 wr.heap.size a3 m1 c3 (Leb.leb n)) := ho3
      have HOX3 : Hid (Own w3 W0.heap.size ax x cx X) := HOX.out.below hb3
      have HS : Hid (W0.heap.size ≤ wr.heap.size) := HK.out.below.size
      have HK3 : Hid (Kb W0.heap.size W0 w3) := HK.out.trans (Kb.of hb3 HS.out)
      have HS3 : Hid (W0.heap.size ≤ w3.heap.size) := HK3.out.below.size
      clear ho3 hb3 hm1e c0 HOX
      go_wp2_with (at_builtin; refine wpList_append_rd rfl (.tmp 16) (.tmp 19) rfl W0.heap.size ax x cx X rfl HOX3.out a3 m1 c3 (Leb.leb n) rfl HO3.out.rd HO3.out.nil_cap' (by omega) HS3.out ?_)
      intro a5 c5 w5 ho5 hg5 hb5
      have HO5 : Hid (Own w5 W0.heap.size a5 (x + m1) c5 (X ++ Leb.leb n)) := ho5
      have HK5 : Hid (Kb W0.heap.size W0 w5) := HK3.out.trans (Kb.grown HOX3.out hb5 hg5)
      have HE5 : Hid ((X ++ Leb.leb n) ++ lebs (ns.drop (j + 1)) = T) := by show _ = _; rw [← HE.out, HD.out, lebs_cons, List.append_assoc]
      clear ho5 hg5 hb5 HOX3 HO3 HE HK HK3
      go_wp2
      go_roundw
      case rel => exact ⟨j + 1, a5, x + m1, c5, _, by omega, by go_num, rfl, HO5, HE5, HK5⟩
      case measure => simp [intOf]; omega
    · have hnl' : ¬ (j : Int) < (N : Int) := by omega
      have HXT : Hid (X = T) := by
        show _ = _
        rw [← HE.out, List.drop_of_length_le (by rw [← HNE.out]; omega), lebs_nil, List.append_nil]
      have HTL : Hid (x = X.length) := HXL.out.1
      have hxr : x + rn ≤ 4096 := by have h1 := HXL.out; have h2 := HXT.out; rw [← h2] at hlen; omega
      obtain ⟨wd, HWD⟩ : ∃ wd, Hid (wd = wr.drew) := ⟨_, rfl⟩
      have hbd : Below wr.heap.size wr wd := by rw [HWD.out]; exact below_drew (Below.refl _ _)
      have HXd : Hid (Bk wd w.heap.size #[.int .u8 (k : Int), .slice ra rn rc] 78) := (HX0.out.kept HK.out (by decide)).stay hbd
      have HBr : Hid (Below w.heap.size w wr) := HB0.out.trans (HK.out.below.mono HB0.out.size)
      have HBd : Hid (Below w.heap.size w wd) := HBr.out.trans (hbd.mono HBr.out.size)
      have HOd : Hid (Own wd W0.heap.size ax x cx X) := HOX.out.below hbd
      have HRd : Hid (Rd wd ra rn rest) := HR.out.below HBd.out
      have HSd : Hid (W0.heap.size ≤ wd.heap.size) := Nat.le_trans HK.out.below.size hbd.size
      clear hbd HE HOX HK
      go_wp2
      refine wp_region_held_drew (S := fun w' => w'.cell? ⟨w.heap.size, 0, none⟩ = some (.int .u8 (k : Int)) ∧ w'.cell? ⟨w.heap.size, 1, none⟩ = some (.slice ra rn rc)) (by kernel_rfl) (by rw [← HWD.out]; exact ⟨HXd.out.cell 0 rfl, HXd.out.cell 1 rfl⟩) (fun hHeld => ?_)
      rw [← HWD.out] at hHeld ⊢
      refine take_putH (i := 0) (v := ?_) (some 23) rfl (by kernel_rfl) (by kernel_rfl) (by kernel_rfl) (by kernel_rfl) (fun _ _ _ h => h) (Or.inl ⟨by rfl, ?_⟩) hHeld ?_
      rotate_left
      · (intro w hSw; obtain ⟨z0, z1⟩ := hSw; go_simp; try with_reducible rfl)
      try simp only [Act.put, List.setIfInBounds_toArray, List.set_cons_zero, List.set_cons_succ]
      refine take_putH (i := 1) (v := ?_) (some 24) rfl (by kernel_rfl) (by kernel_rfl) (by kernel_rfl) (by kernel_rfl) (fun _ _ _ h => h) (Or.inl ⟨by rfl, ?_⟩) hHeld ?_
      rotate_left
      · (intro w hSw; obtain ⟨z0, z1⟩ := hSw; go_simp; try with_reducible rfl)
      try simp only [Act.put, List.setIfInBounds_toArray, List.set_cons_zero, List.set_cons_succ]
      refine take_putH (i := 2) (v := ?_) (some 25) rfl (by kernel_rfl) (by kernel_rfl) (by kernel_rfl) (by kernel_rfl) (fun _ _ _ h => h) (Or.inl ⟨by rfl, ?_⟩) hHeld ?_
      rotate_left
      · (intro w hSw; obtain ⟨z0, z1⟩ := hSw; go_simp; try with_reducible rfl)
      try simp only [Act.put, List.setIfInBounds_toArray, List.set_cons_zero, List.set_cons_succ]
      refine take_putH (i := 3) (v := ?_) (some 26) rfl (by kernel_rfl) (by kernel_rfl) (by kernel_rfl) (by kernel_rfl) (fun _ _ _ h => h) (Or.inl ⟨by rfl, ?_⟩) hHeld ?_
      rotate_left
      · (intro w hSw; obtain ⟨z0, z1⟩ := hSw; go_simp; try with_reducible rfl)
      try simp only [Act.put, List.setIfInBounds_toArray, List.set_cons_zero, List.set_cons_succ]
      refine take_putH (i := 4) (v := ?_) (some 27) rfl (by kernel_rfl) (by kernel_rfl) (by kernel_rfl) (by kernel_rfl) (fun _ _ _ h => h) (Or.inl ⟨by rfl, ?_⟩) hHeld ?_
      rotate_left
      · (intro w hSw; obtain ⟨z0, z1⟩ := hSw; go_simp; try with_reducible rfl)
      try simp only [Act.put, List.setIfInBounds_toArray, List.set_cons_zero, List.set_cons_succ]
      refine wpAnyH_ready (rs := [5]) (by kernel_rfl) (by simp) ?_
      refine AllReadyH.cons rfl (fun K hK => ?_) AllReadyH.nil
      refine step_append_rd rfl (.tmp 25) (.tmp 27) rfl W0.heap.size ax x cx X rfl HOd.out ra rn rc rest rfl HRd.out HRZ.out (by omega) HSd.out (x + rn) rfl (X ++ rest) rfl ?_
      intro a5 c5 w5 ho5 hg5 hb5
      have HK5 : Hid (Kb W0.heap.size wd w5) := Kb.grown HOd.out hb5 hg5
      have HO5 : Hid (Own w5 W0.heap.size a5 (x + rn) c5 (X ++ rest)) := ho5
      have h5 : w5.cell? ⟨w.heap.size, 0, none⟩ = some (.int .u8 (k : Int)) ∧ w5.cell? ⟨w.heap.size, 1, none⟩ = some (.slice ra rn rc) := ⟨(HXd.out.kept HK5.out (by decide)).cell 0 rfl, (HXd.out.kept HK5.out (by decide)).cell 1 rfl⟩
      have HB5 : Hid (Below w.heap.size w w5) := HBd.out.trans (HK5.out.below.mono HB0.out.size)
      clear ho5 hg5 hb5
      refine hK.out _ _ h5 (fun _ => ?_)
      clear hK K
      try simp only [Act.put, List.getElem_toArray, List.getElem_cons_succ, List.getElem_cons_zero, List.setIfInBounds_toArray, List.set_cons_zero, List.set_cons_succ]
      refine wpAnyH_ready (rs := [6]) (by kernel_rfl) (by simp) ?_
      refine AllReadyH.cons rfl (fun K hK => ?_) AllReadyH.nil
      go_simp
      refine (seal_Seal k hk a5 (x + rn) c5 (X ++ rest) w5 HO5.out.rd (by omega) (HTB.out.below h0 HB5.out) (Nat.lt_of_lt_of_le h0 HB5.out.size)).mono ?_
      rintro e w6 ⟨gf, he, ho6, hb6⟩
      subst he
      have HB6 : Hid (Below w.heap.size w w6) := HB5.out.trans (hb6.mono HB5.out.size)
      have HO6 : Hid (Own w6 w.heap.size (some ⟨gf, 0, none⟩) (x + rn + 8) (x + rn + 8) (SealM.sealed k (X ++ rest))) := ho6.under HB5.out.size
      have h6 : w6.cell? ⟨w.heap.size, 0, none⟩ = some (.int .u8 (k : Int)) ∧ w6.cell? ⟨w.heap.size, 1, none⟩ = some (.slice ra rn rc) := ⟨((HXd.out.kept HK5.out (by decide)).stay hb6).cell 0 rfl, ((HXd.out.kept HK5.out (by decide)).stay hb6).cell 1 rfl⟩
      clear ho6 hb6
      refine hK.out _ _ h6 (fun _ => ?_)
      clear hK K
      try simp only [Act.put, List.getElem_toArray, List.getElem_cons_succ, List.getElem_cons_zero, List.setIfInBounds_toArray, List.set_cons_zero, List.set_cons_succ]
      refine take_putH (i := 7) (v := ?_) (some 22) rfl (by kernel_rfl) (by kernel_rfl) (by kernel_rfl) (by kernel_rfl) (fun _ _ _ h => h) (Or.inl ⟨by rfl, ?_⟩) h6 ?_
      rotate_left
      · (intro w hSw; obtain ⟨z0, z1⟩ := hSw; go_simp; try with_reducible rfl)
      try simp only [Act.put, List.setIfInBounds_toArray, List.set_cons_zero, List.set_cons_succ]
      refine take_putH (i := 8) (v := ?_) (some 30) rfl (by kernel_rfl) (by kernel_rfl) (by kernel_rfl) (by kernel_rfl) (fun _ _ _ h => h) (Or.inl ⟨by rfl, ?_⟩) h6 ?_
      rotate_left
      · (intro w hSw; obtain ⟨z0, z1⟩ := hSw; go_simp; try with_reducible rfl)
      try simp only [Act.put, List.setIfInBounds_toArray, List.set_cons_zero, List.set_cons_succ]
      refine take_putH (i := 9) (v := ?_) (some 31) rfl (by kernel_rfl) (by kernel_rfl) (by kernel_rfl) (by kernel_rfl) (fun _ _ _ h => h) (Or.inl ⟨by rfl, ?_⟩) h6 ?_
      rotate_left
      · (intro w hSw; obtain ⟨z0, z1⟩ := hSw; go_simp; try with_reducible rfl)
      try simp only [Act.put, List.setIfInBounds_toArray, List.set_cons_zero, List.set_cons_succ]
      refine take_putH (i := 10) (v := ?_) (some 8) rfl (by kernel_rfl) (by kernel_rfl) (by kernel_rfl) (by kernel_rfl) (fun _ _ _ h => h) (Or.inl ⟨by rfl, ?_⟩) h6 ?_
      rotate_left
      · (intro w hSw; obtain ⟨z0, z1⟩ := hSw; go_simp; try with_reducible rfl)
      try simp only [Act.put, List.setIfInBounds_toArray, List.set_cons_zero, List.set_cons_succ]
      refine take_putH (i := 11) (v := ?_) (some 9) rfl (by kernel_rfl) (by kernel_rfl) (by kernel_rfl) (by kernel_rfl) (fun _ _ _ h => h) (Or.inl ⟨by rfl, ?_⟩) h6 ?_
      rotate_left
      · (intro w hSw; obtain ⟨z0, z1⟩ := hSw; go_simp; try with_reducible rfl)
      try simp only [Act.put, List.setIfInBounds_toArray, List.set_cons_zero, List.set_cons_succ]
      refine wpAnyH_done (by kernel_rfl) ?_ _
      clear h5 h6 hHeld
      go_wp2
      go_ret
      rw [← HXT.out, ← HTL.out]
      exact ⟨⟨gf, rfl, HO6.out⟩, HB6.out⟩

set_option maxRecDepth 100000 in
set_option maxHeartbeats 2000000 in
theorem ref_Frame (k own other n : Nat) (hk : k < 256) (h1 : own < 9223372036854775808) (h2 : other < 9223372036854775808) (h3 : n < 9223372036854775808) (ra : Option Addr) (rn rc : Nat) (rest : List Nat) (w : World) (hr : Rd w ra rn rest) (hz : ra = none → rc = 0) (hlen : (lebs [own, other, n]).length + rn ≤ 4096) :
    Calls Tryd.prog 32 #[.int .u8 (k : Int), .int .i64 (own : Int), .int .i64 (other : Int), .int .i64 (n : Int), .slice ra rn rc] w fun e w' => (∃ a c, e = .returned (.slice a ((lebs [own, other, n]).length + rn + 8) c) ∧ Hid (Own w' w.heap.size a ((lebs [own, other, n]).length + rn + 8) c (SealM.sealed k (lebs [own, other, n] ++ rest)))) ∧ Below w.heap.size w w' := by
  have HR : Hid (Rd w ra rn rest) := hr
  have HRZ : Hid (ra = none → rc = 0) := hz
  have e1 : (lebs [own, other, n]).length = (Leb.leb own).length + (Leb.leb other).length + (Leb.leb n).length := by simp [lebs]; omega
  obtain ⟨A, HA⟩ : ∃ A, Hid (A = Leb.leb own) := ⟨_, rfl⟩
  obtain ⟨B, HB⟩ : ∃ A, Hid (A = Leb.leb other) := ⟨_, rfl⟩
  obtain ⟨C, HC⟩ : ∃ A, Hid (A = Leb.leb n) := ⟨_, rfl⟩
  have HT : Hid (lebs [own, other, n] = A ++ B ++ C) := by show _ = _; rw [HA.out, HB.out, HC.out]; simp [lebs]
  rw [HT.out] at hlen ⊢
  have hl2 : A.length + B.length + C.length + rn ≤ 4096 := by simp only [List.length_append] at hlen; omega
  have HU1 : Hid (∀ w0, Calls Tryd.prog 46 #[.int .u64 (own : Int)] w0 fun e w' => ∃ a c, e = .returned (.slice a A.length c) ∧ Own w' w0.heap.size a A.length c A ∧ Below w0.heap.size w0 w') := by
    intro w0
    rw [HA.out]
    refine (ref_Uint own (by omega) w0).mono ?_
    rintro e w' ⟨a, c, h1, _, h2, h3⟩
    exact ⟨a, c, h1, h2, h3⟩
  have HU2 : Hid (∀ w0, Calls Tryd.prog 46 #[.int .u64 (other : Int)] w0 fun e w' => ∃ a c, e = .returned (.slice a B.length c) ∧ Own w' w0.heap.size a B.length c B ∧ Below w0.heap.size w0 w') := by
    intro w0
    rw [HB.out]
    refine (ref_Uint other (by omega) w0).mono ?_
    rintro e w' ⟨a, c, h1, _, h2, h3⟩
    exact ⟨a, c, h1, h2, h3⟩
  have HU3 : Hid (∀ w0, Calls Tryd.prog 46 #[.int .u64 (n : Int)] w0 fun e w' => ∃ a c, e = .returned (.slice a C.length c) ∧ Own w' w0.heap.size a C.length c C ∧ Below w0.heap.size w0 w') := by
    intro w0
    rw [HC.out]
    refine (ref_Uint n (by omega) w0).mono ?_
    rintro e w' ⟨a, c, h1, _, h2, h3⟩
    exact ⟨a, c, h1, h2, h3⟩
  obtain ⟨la, hla⟩ : ∃ la, la = A.length := ⟨_, rfl⟩
  obtain ⟨lb, hlb⟩ : ∃ la, la = B.length := ⟨_, rfl⟩
  obtain ⟨lc, hlc⟩ : ∃ la, la = C.length := ⟨_, rfl⟩
  have HLS : Hid ((A ++ B ++ C).length = la + lb + lc) := by show _ = _; rw [hla, hlb, hlc]; simp only [List.length_append]
  rw [← hla, ← hlb, ← hlc] at hl2
  rw [← hla] at HU1
  rw [← hlb] at HU2
  rw [← hlc] at HU3
  rw [HLS.out]
  clear hr hz hlen e1 HA HB HC HT hla hlb hlc
  go_enter Tryd.func32, Tryd.ntmps32
  go_wp2_with fail
  refine (HU1.out _).mono ?_
  rintro e w1 ⟨a1, c1, rfl, ho1, hb1⟩
  have HO1 : Hid (Own w1 w.heap.size a1 la c1 A) := ho1
  have HB1 : Hid (Below w.heap.size w w1) := hb1
  clear ho1 hb1
  go_wp2_with fail
  refine (HU2.out _).mono ?_
  rintro e w2 ⟨a2, c2, rfl, ho2, hb2⟩
  have HO2 : Hid (Own w2 w1.heap.size a2 lb c2 B) := ho2
  have HO12 : Hid (Own w2 w.heap.size a1 la c1 A) := HO1.out.below hb2
  have HB2 : Hid (Below w.heap.size w w2) := HB1.out.trans (hb2.mono HB1.out.size)
  clear ho2 hb2
  go_wp2_with (at_builtin; refine wpList_append_rd rfl (.tmp 17) (.tmp 20) rfl w.heap.size a1 la c1 A rfl HO12.out a2 lb c2 B rfl HO2.out.rd HO2.out.nil_cap' (by omega) HB2.out.size ?_)
  intro a3 c3 w3 ho3 hg3 hb3
  have HO3 : Hid (Own w3 w.heap.size a3 (la + lb) c3 (A ++ B)) := ho3
  have HB3 : Hid (Below w.heap.size w w3) := HB2.out.trans hb3
  clear ho3 hg3 hb3 HO1 HO2 HO12
  go_wp2_with fail
  refine (HU3.out _).mono ?_
  rintro e w4 ⟨a4, c4, rfl, ho4, hb4⟩
  have HO4 : Hid (Own w4 w3.heap.size a4 lc c4 C) := ho4
  have HO34 : Hid (Own w4 w.heap.size a3 (la + lb) c3 (A ++ B)) := HO3.out.below hb4
  have HB4 : Hid (Below w.heap.size w w4) := HB3.out.trans (hb4.mono HB3.out.size)
  clear ho4 hb4
  go_wp2_with (at_builtin; refine wpList_append_rd rfl (.tmp 22) (.tmp 25) rfl w.heap.size a3 (la + lb) c3 (A ++ B) rfl HO34.out a4 lc c4 C rfl HO4.out.rd HO4.out.nil_cap' (by omega) HB4.out.size ?_)
  intro a5 c5 w5 ho5 hg5 hb5
  have HO5 : Hid (Own w5 w.heap.size a5 (la + lb + lc) c5 (A ++ B ++ C)) := by show Own _ _ _ _ _ _; rw [List.append_assoc]; exact ho5
  have HB5 : Hid (Below w.heap.size w w5) := HB4.out.trans hb5
  have HR5 : Hid (Rd w5 ra rn rest) := HR.out.below HB5.out
  clear ho5 hg5 hb5 HO3 HO4 HO34
  go_wp2_with (at_builtin; refine wpList_append_rd rfl (.tmp 29) (.tmp 30) rfl w.heap.size a5 (la + lb + lc) c5 (A ++ B ++ C) rfl HO5.out ra rn rc rest rfl HR5.out HRZ.out (by omega) HB5.out.size ?_)
  intro a6 c6 w6 ho6 hg6 hb6
  have HO6 : Hid (Own w6 w.heap.size a6 (la + lb + lc + rn) c6 (A ++ B ++ C ++ rest)) := by show Own _ _ _ _ _ _; rw [List.append_assoc, List.append_assoc]; exact ho6
  have HB6 : Hid (Below w.heap.size w w6) := HB5.out.trans hb6
  clear ho6 hg6 hb6 HO5 HR5
  go_wp2_with fail
  refine (ref_Seal k hk a6 (la + lb + lc + rn) c6 (A ++ B ++ C ++ rest) w6 HO6.out.rd HO6.out.nil_cap' (by omega)).mono ?_
  rintro e w7 ⟨a7, c7, rfl, ho7, hb7⟩
  have HO7 : Hid (Own w7 w.heap.size a7 (la + lb + lc + rn + 8) c7 (SealM.sealed k (A ++ B ++ C ++ rest))) := ho7.under HB6.out.size
  have HB7 : Hid (Below w.heap.size w w7) := HB6.out.trans (hb7.mono HB6.out.size)
  clear ho7 hb7
  go_wp2
  go_ret
  exact ⟨⟨a7, c7, rfl, HO7⟩, HB7.out⟩
end Go.Proofs.YtoijhlnadaipoaaDoor
