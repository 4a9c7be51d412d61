/- A pack of texts: Lk1 ItM Lk2 Lk3. -/
import Derived.Test.YtbloomepdchjhaaDoorSealP
import Derived.Test.YtbloomepdchjhaaDoorLebP
import Derived.Deep.RegionHeld3
import Derived.Deep.DeepAppendRoom
import Derived.Lib.SliceRun
/- link.write; grapevineref14.Frame. -/
namespace Go.Proofs.YtbloomepdchjhaaDoor
open Go.RowKit

theorem take_putH {P : Program} {ops : Array Oper} {Q : Exit → Act → World → Prop} {S : World → Prop} {md : Region.Mode} {i : Nat} {oi : Oper} {v : Value} {fuel : Nat} {listed : Array Bool} {a : Act} {w : World} (d : Option Nat) (hi : ops[i]? = some oi) (hd : oi.dst = d)
    (hs : Region.noSelect ops = true) (hf : Region.free md ops listed i = true) (hr : (Region.ready md ops listed).contains i = true)
    (hQ : ∀ c a w, Q (.panic c) (a.put d v) w → Q (.panic c) a w) (hy : YieldsIf P ops S oi v a) (hS : S w)
    (h : wpAnyH P md ops Q S fuel (listed.setIfInBounds i true) (a.put d v) w) : wpAnyH P md ops Q S (fuel + 1) listed a w := by
  subst hd
  exact wpAnyH_take hi hs hf hr hQ hy hS h
set_option maxRecDepth 100000 in
set_option maxHeartbeats 4000000 in
theorem lk_write (k : Nat) (hk : k < 256) (ra : Option Addr) (rn rc : Nat) (rest : List Nat) (g : Nat) (ns : List Nat) (w : World) (hr : Rd w ra rn rest) (hz : ra = none → rc = 0) (hg : Bk w g (nvs ns) 3) (hn : ∀ n ∈ ns, n < 9223372036854775808) (hnl : ns.length ≤ 3) (hlen : (lebs ns).length + rn ≤ 4096) (ht : Tab w) (h0 : 0 < w.heap.size) :
    Calls Tryd.prog 22 #[.agg #[.int .u8 (k : Int), .slice ra rn rc], .slice (some ⟨g, 0, none⟩) ns.length ns.length] w fun e w' => (∃ gf, e = .returned (.slice (some ⟨gf, 0, none⟩) ((lebs ns).length + rn + 8) ((lebs ns).length + rn + 8)) ∧ Hid (Own w' w.heap.size (some ⟨gf, 0, none⟩) ((lebs ns).length + rn + 8) ((lebs ns).length + rn + 8) (SealM.sealed k (lebs ns ++ rest)))) ∧ Below w.heap.size w w' := by
  have HR : Hid (Rd w ra rn rest) := hr
  have HRZ : Hid (ra = none → rc = 0) := hz
  have HN : Hid (∀ n ∈ ns, n < 9223372036854775808) := hn
  have HTB : Hid (Tab w) := ht
  obtain ⟨T, HTE⟩ : ∃ T, Hid (T = lebs ns) := ⟨_, rfl⟩
  obtain ⟨N, hN⟩ : ∃ N, N = ns.length := ⟨_, rfl⟩
  have HNE : Hid (N = ns.length) := hN
  rw [← HTE.out] at hlen ⊢
  rw [← hN] at hnl ⊢
  obtain ⟨W0, HW0⟩ : ∃ W0, Hid (W0 = w.alloc (.cells #[.int .u8 (k : Int), .slice ra rn rc] 70)) := ⟨_, rfl⟩
  have HB0 : Hid (Below w.heap.size w W0) := by rw [HW0.out]; exact below_new _ _
  have HX0 : Hid (Bk W0 w.heap.size #[.int .u8 (k : Int), .slice ra rn rc] 70) := by rw [HW0.out]; exact Bk.new _ _ _
  have HG : Hid (Bk W0 g (nvs ns) 3) := hg.stay HB0.out
  clear hr hz hg hn hN ht
  go_enter Tryd.func22, Tryd.ntmps22
  go_wp2
  rw [← HW0.out]
  go_loopw [5, 12] (fun t5 t12 wr => ∃ (j : Nat) (ax : Option Addr) (x cx : Nat) (X : List Nat), j ≤ N ∧ t12 = .int .i64 (j : Int) ∧ t5 = .slice ax x cx ∧ Hid (Own wr W0.heap.size ax x cx X) ∧ Hid (X ++ lebs (ns.drop j) = T) ∧ Hid (Kb W0.heap.size W0 wr)) (fun _ t12 _ => N - (intOf t12).toNat)
  case atStart => exact ⟨0, none, 0, 0, [], by omega, rfl, rfl, Own.none_ _ _, by show _ = _; rw [HTE.out]; rfl, Kb.refl _ _⟩
  case round =>
    obtain ⟨j, ax, x, cx, X, hj, rfl, rfl, HOX, HE, HK⟩ := hrel
    have HXL : Hid (x = X.length ∧ X.length ≤ T.length) := by
      have h1 := congrArg List.length HE.out
      rw [List.length_append] at h1
      have h2 := HOX.out.size
      exact ⟨by omega, by omega⟩
    have hx6 : x ≤ 4096 := by have := HXL.out; omega
    by_cases hlt : j < N
    · have hlt' : (j : Int) < (N : Int) := by omega
      have h0j : (0 : Int) ≤ (j : Int) := by omega
      obtain ⟨n, hn⟩ : ∃ n, ns[j]? = some n := ⟨_, List.getElem?_eq_getElem (by rw [← HNE.out]; exact hlt)⟩
      have hnb : n < 9223372036854775808 := HN.out n (List.mem_of_getElem? hn)
      have HD : Hid (ns.drop j = n :: ns.drop (j + 1)) := by
        show _ = _
        obtain ⟨h1, h2⟩ := List.getElem?_eq_some_iff.1 hn
        rw [List.drop_eq_getElem_cons h1, h2]
      have c0 : wr.cell? ⟨g, j, none⟩ = some (.int .i64 (n : Int)) := (HG.out.kept HK.out (by decide)).cell j (nvs_at hn)
      clear hn
      go_wp2_with fail
      refine (octet_Uint n (by omega) _).mono ?_
      rintro e w3 ⟨a3, c3, rfl, _, ho3, hb3⟩
      have hm1 := Leb.leb_length n
      obtain ⟨m1, hm1e⟩ : ∃ m, m = (Leb.leb n).length := ⟨_, rfl⟩
      have HM1 : Hid (m1 = (Leb.leb n).length) := hm1e
      rw [← hm1e] at ho3 hm1 ⊢
      have HO3 : Hid (Own w3 wr.heap.size a3 m1 c3 (Leb.leb n)) := ho3
      have HOX3 : Hid (Own w3 W0.heap.size ax x cx X) := HOX.out.below hb3
      have HS : Hid (W0.heap.size ≤ wr.heap.size) := HK.out.below.size
      have HK3 : Hid (Kb W0.heap.size W0 w3) := HK.out.trans (Kb.of hb3 HS.out)
      have HS3 : Hid (W0.heap.size ≤ w3.heap.size) := HK3.out.below.size
      clear ho3 hb3 hm1e c0 HOX
      go_wp2_with (at_builtin; refine wpList_append_rd rfl (.tmp 16) (.tmp 19) rfl W0.heap.size ax x cx X rfl HOX3.out a3 m1 c3 (Leb.leb n) rfl HO3.out.rd HO3.out.nil_cap' (by omega) HS3.out ?_)
      intro a5 c5 w5 ho5 hg5 hb5
      have HO5 : Hid (Own w5 W0.heap.size a5 (x + m1) c5 (X ++ Leb.leb n)) := ho5
      have HK5 : Hid (Kb W0.heap.size W0 w5) := HK3.out.trans (Kb.grown HOX3.out hb5 hg5)
      have HE5 : Hid ((X ++ Leb.leb n) ++ lebs (ns.drop (j + 1)) = T) := by show _ = _; rw [← HE.out, HD.out, lebs_cons, List.append_assoc]
      clear ho5 hg5 hb5 HOX3 HO3 HE HK HK3
      go_wp2
      go_roundw
      case rel => exact ⟨j + 1, a5, x + m1, c5, _, by omega, by go_num, rfl, HO5, HE5, HK5⟩
      case measure => simp [intOf]; omega
    · have hnl' : ¬ (j : Int) < (N : Int) := by omega
      have HXT : Hid (X = T) := by
        show _ = _
        rw [← HE.out, List.drop_of_length_le (by rw [← HNE.out]; omega), lebs_nil, List.append_nil]
      have HTL : Hid (x = X.length) := HXL.out.1
      have hxr : x + rn ≤ 4096 := by have h1 := HXL.out; have h2 := HXT.out; rw [← h2] at hlen; omega
      obtain ⟨wd, HWD⟩ : ∃ wd, Hid (wd = wr.drew) := ⟨_, rfl⟩
      have hbd : Below wr.heap.size wr wd := by rw [HWD.out]; exact below_drew (Below.refl _ _)
      have HXd : Hid (Bk wd w.heap.size #[.int .u8 (k : Int), .slice ra rn rc] 70) := (HX0.out.kept HK.out (by decide)).stay hbd
      have HBr : Hid (Below w.heap.size w wr) := HB0.out.trans (HK.out.below.mono HB0.out.size)
      have HBd : Hid (Below w.heap.size w wd) := HBr.out.trans (hbd.mono HBr.out.size)
      have HOd : Hid (Own wd W0.heap.size ax x cx X) := HOX.out.below hbd
      have HRd : Hid (Rd wd ra rn rest) := HR.out.below HBd.out
      have HSd : Hid (W0.heap.size ≤ wd.heap.size) := Nat.le_trans HK.out.below.size hbd.size
      clear hbd HE HOX HK
      go_wp2
      refine wp_region_held_drew (S := fun w' => w'.cell? ⟨w.heap.size, 0, none⟩ = some (.int .u8 (k : Int)) ∧ w'.cell? ⟨w.heap.size, 1, none⟩ = some (.slice ra rn rc)) (by kernel_rfl) (by rw [← HWD.out]; exact ⟨HXd.out.cell 0 rfl, HXd.out.cell 1 rfl⟩) (fun hHeld => ?_)
      rw [← HWD.out] at hHeld ⊢
      refine take_putH (i := 0) (v := ?_) (some 23) rfl (by kernel_rfl) (by kernel_rfl) (by kernel_rfl) (by kernel_rfl) (fun _ _ _ h => h) (Or.inl ⟨by rfl, ?_⟩) hHeld ?_
      rotate_left
      · (intro w hSw; obtain ⟨z0, z1⟩ := hSw; go_simp; try with_reducible rfl)
      try simp only [Act.put, List.setIfInBounds_toArray, List.set_cons_zero, List.set_cons_succ]
      refine take_putH (i := 1) (v := ?_) (some 24) rfl (by kernel_rfl) (by kernel_rfl) (by kernel_rfl) (by kernel_rfl) (fun _ _ _ h => h) (Or.inl ⟨by rfl, ?_⟩) hHeld ?_
      rotate_left
      · (intro w hSw; obtain ⟨z0, z1⟩ := hSw; go_simp; try with_reducible rfl)
      try simp only [Act.put, List.setIfInBounds_toArray, List.set_cons_zero, List.set_cons_succ]
      refine take_putH (i := 2) (v := ?_) (some 25) rfl (by kernel_rfl) (by kernel_rfl) (by kernel_rfl) (by kernel_rfl) (fun _ _ _ h => h) (Or.inl ⟨by rfl, ?_⟩) hHeld ?_
      rotate_left
      · (intro w hSw; obtain ⟨z0, z1⟩ := hSw; go_simp; try with_reducible rfl)
      try simp only [Act.put, List.setIfInBounds_toArray, List.set_cons_zero, List.set_cons_succ]
      refine take_putH (i := 3) (v := ?_) (some 26) rfl (by kernel_rfl) (by kernel_rfl) (by kernel_rfl) (by kernel_rfl) (fun _ _ _ h => h) (Or.inl ⟨by rfl, ?_⟩) hHeld ?_
      rotate_left
      · (intro w hSw; obtain ⟨z0, z1⟩ := hSw; go_simp; try with_reducible rfl)
      try simp only [Act.put, List.setIfInBounds_toArray, List.set_cons_zero, List.set_cons_succ]
      refine take_putH (i := 4) (v := ?_) (some 27) rfl (by kernel_rfl) (by kernel_rfl) (by kernel_rfl) (by kernel_rfl) (fun _ _ _ h => h) (Or.inl ⟨by rfl, ?_⟩) hHeld ?_
      rotate_left
      · (intro w hSw; obtain ⟨z0, z1⟩ := hSw; go_simp; try with_reducible rfl)
      try simp only [Act.put, List.setIfInBounds_toArray, List.set_cons_zero, List.set_cons_succ]
      refine wpAnyH_ready (rs := [5]) (by kernel_rfl) (by simp) ?_
      refine AllReadyH.cons rfl (fun K hK => ?_) AllReadyH.nil
      refine step_append_rd rfl (.tmp 25) (.tmp 27) rfl W0.heap.size ax x cx X rfl HOd.out ra rn rc rest rfl HRd.out HRZ.out (by omega) HSd.out (x + rn) rfl (X ++ rest) rfl ?_
      intro a5 c5 w5 ho5 hg5 hb5
      have HK5 : Hid (Kb W0.heap.size wd w5) := Kb.grown HOd.out hb5 hg5
      have HO5 : Hid (Own w5 W0.heap.size a5 (x + rn) c5 (X ++ rest)) := ho5
      have h5 : w5.cell? ⟨w.heap.size, 0, none⟩ = some (.int .u8 (k : Int)) ∧ w5.cell? ⟨w.heap.size, 1, none⟩ = some (.slice ra rn rc) := ⟨(HXd.out.kept HK5.out (by decide)).cell 0 rfl, (HXd.out.kept HK5.out (by decide)).cell 1 rfl⟩
      have HB5 : Hid (Below w.heap.size w w5) := HBd.out.trans (HK5.out.below.mono HB0.out.size)
      clear ho5 hg5 hb5
      refine hK.out _ _ h5 (fun _ => ?_)
      clear hK K
      try simp only [Act.put, List.getElem_toArray, List.getElem_cons_succ, List.getElem_cons_zero, List.setIfInBounds_toArray, List.set_cons_zero, List.set_cons_succ]
      refine wpAnyH_ready (rs := [6]) (by kernel_rfl) (by simp) ?_
      refine AllReadyH.cons rfl (fun K hK => ?_) AllReadyH.nil
      go_simp
      refine (seal_Seal k hk a5 (x + rn) c5 (X ++ rest) w5 HO5.out.rd (by omega) (HTB.out.below h0 HB5.out) (Nat.lt_of_lt_of_le h0 HB5.out.size)).mono ?_
      rintro e w6 ⟨gf, he, ho6, hb6⟩
      subst he
      have HB6 : Hid (Below w.heap.size w w6) := HB5.out.trans (hb6.mono HB5.out.size)
      have HO6 : Hid (Own w6 w.heap.size (some ⟨gf, 0, none⟩) (x + rn + 8) (x + rn + 8) (SealM.sealed k (X ++ rest))) := ho6.under HB5.out.size
      have h6 : w6.cell? ⟨w.heap.size, 0, none⟩ = some (.int .u8 (k : Int)) ∧ w6.cell? ⟨w.heap.size, 1, none⟩ = some (.slice ra rn rc) := ⟨((HXd.out.kept HK5.out (by decide)).stay hb6).cell 0 rfl, ((HXd.out.kept HK5.out (by decide)).stay hb6).cell 1 rfl⟩
      clear ho6 hb6
      refine hK.out _ _ h6 (fun _ => ?_)
      clear hK K
      try simp only [Act.put, List.getElem_toArray, List.getElem_cons_succ, List.getElem_cons_zero, List.setIfInBounds_toArray, List.set_cons_zero, List.set_cons_succ]
      refine take_putH (i := 7) (v := ?_) (some 22) rfl (by kernel_rfl) (by kernel_rfl) (by kernel_rfl) (by kernel_rfl) (fun _ _ _ h => h) (Or.inl ⟨by rfl, ?_⟩) h6 ?_
      rotate_left
      · (intro w hSw; obtain ⟨z0, z1⟩ := hSw; go_simp; try with_reducible rfl)
      try simp only [Act.put, List.setIfInBounds_toArray, List.set_cons_zero, List.set_cons_succ]
      refine take_putH (i := 8) (v := ?_) (some 30) rfl (by kernel_rfl) (by kernel_rfl) (by kernel_rfl) (by kernel_rfl) (fun _ _ _ h => h) (Or.inl ⟨by rfl, ?_⟩) h6 ?_
      rotate_left
      · (intro w hSw; obtain ⟨z0, z1⟩ := hSw; go_simp; try with_reducible rfl)
      try simp only [Act.put, List.setIfInBounds_toArray, List.set_cons_zero, List.set_cons_succ]
      refine take_putH (i := 9) (v := ?_) (some 31) rfl (by kernel_rfl) (by kernel_rfl) (by kernel_rfl) (by kernel_rfl) (fun _ _ _ h => h) (Or.inl ⟨by rfl, ?_⟩) h6 ?_
      rotate_left
      · (intro w hSw; obtain ⟨z0, z1⟩ := hSw; go_simp; try with_reducible rfl)
      try simp only [Act.put, List.setIfInBounds_toArray, List.set_cons_zero, List.set_cons_succ]
      refine take_putH (i := 10) (v := ?_) (some 8) rfl (by kernel_rfl) (by kernel_rfl) (by kernel_rfl) (by kernel_rfl) (fun _ _ _ h => h) (Or.inl ⟨by rfl, ?_⟩) h6 ?_
      rotate_left
      · (intro w hSw; obtain ⟨z0, z1⟩ := hSw; go_simp; try with_reducible rfl)
      try simp only [Act.put, List.setIfInBounds_toArray, List.set_cons_zero, List.set_cons_succ]
      refine take_putH (i := 11) (v := ?_) (some 9) rfl (by kernel_rfl) (by kernel_rfl) (by kernel_rfl) (by kernel_rfl) (fun _ _ _ h => h) (Or.inl ⟨by rfl, ?_⟩) h6 ?_
      rotate_left
      · (intro w hSw; obtain ⟨z0, z1⟩ := hSw; go_simp; try with_reducible rfl)
      try simp only [Act.put, List.setIfInBounds_toArray, List.set_cons_zero, List.set_cons_succ]
      refine wpAnyH_done (by kernel_rfl) ?_ _
      clear h5 h6 hHeld
      go_wp2
      go_ret
      rw [← HXT.out, ← HTL.out]
      exact ⟨⟨gf, rfl, HO6.out⟩, HB6.out⟩

set_option maxRecDepth 100000 in
set_option maxHeartbeats 2000000 in
theorem ref_Frame (k own other n : Nat) (hk : k < 256) (h1 : own < 9223372036854775808) (h2 : other < 9223372036854775808) (h3 : n < 9223372036854775808) (ra : Option Addr) (rn rc : Nat) (rest : List Nat) (w : World) (hr : Rd w ra rn rest) (hz : ra = none → rc = 0) (hlen : (lebs [own, other, n]).length + rn ≤ 4096) :
    Calls Tryd.prog 27 #[.int .u8 (k : Int), .int .i64 (own : Int), .int .i64 (other : Int), .int .i64 (n : Int), .slice ra rn rc] w fun e w' => (∃ a c, e = .returned (.slice a ((lebs [own, other, n]).length + rn + 8) c) ∧ Hid (Own w' w.heap.size a ((lebs [own, other, n]).length + rn + 8) c (SealM.sealed k (lebs [own, other, n] ++ rest)))) ∧ Below w.heap.size w w' := by
  have HR : Hid (Rd w ra rn rest) := hr
  have HRZ : Hid (ra = none → rc = 0) := hz
  have e1 : (lebs [own, other, n]).length = (Leb.leb own).length + (Leb.leb other).length + (Leb.leb n).length := by simp [lebs]; omega
  obtain ⟨A, HA⟩ : ∃ A, Hid (A = Leb.leb own) := ⟨_, rfl⟩
  obtain ⟨B, HB⟩ : ∃ A, Hid (A = Leb.leb other) := ⟨_, rfl⟩
  obtain ⟨C, HC⟩ : ∃ A, Hid (A = Leb.leb n) := ⟨_, rfl⟩
  have HT : Hid (lebs [own, other, n] = A ++ B ++ C) := by show _ = _; rw [HA.out, HB.out, HC.out]; simp [lebs]
  rw [HT.out] at hlen ⊢
  have hl2 : A.length + B.length + C.length + rn ≤ 4096 := by simp only [List.length_append] at hlen; omega
  have HU1 : Hid (∀ w0, Calls Tryd.prog 40 #[.int .u64 (own : Int)] w0 fun e w' => ∃ a c, e = .returned (.slice a A.length c) ∧ Own w' w0.heap.size a A.length c A ∧ Below w0.heap.size w0 w') := by
    intro w0
    rw [HA.out]
    refine (ref_Uint own (by omega) w0).mono ?_
    rintro e w' ⟨a, c, h1, _, h2, h3⟩
    exact ⟨a, c, h1, h2, h3⟩
  have HU2 : Hid (∀ w0, Calls Tryd.prog 40 #[.int .u64 (other : Int)] w0 fun e w' => ∃ a c, e = .returned (.slice a B.length c) ∧ Own w' w0.heap.size a B.length c B ∧ Below w0.heap.size w0 w') := by
    intro w0
    rw [HB.out]
    refine (ref_Uint other (by omega) w0).mono ?_
    rintro e w' ⟨a, c, h1, _, h2, h3⟩
    exact ⟨a, c, h1, h2, h3⟩
  have HU3 : Hid (∀ w0, Calls Tryd.prog 40 #[.int .u64 (n : Int)] w0 fun e w' => ∃ a c, e = .returned (.slice a C.length c) ∧ Own w' w0.heap.size a C.length c C ∧ Below w0.heap.size w0 w') := by
    intro w0
    rw [HC.out]
    refine (ref_Uint n (by omega) w0).mono ?_
    rintro e w' ⟨a, c, h1, _, h2, h3⟩
    exact ⟨a, c, h1, h2, h3⟩
  obtain ⟨la, hla⟩ : ∃ la, la = A.length := ⟨_, rfl⟩
  obtain ⟨lb, hlb⟩ : ∃ la, la = B.length := ⟨_, rfl⟩
  obtain ⟨lc, hlc⟩ : ∃ la, la = C.length := ⟨_, rfl⟩
  have HLS : Hid ((A ++ B ++ C).length = la + lb + lc) := by show _ = _; rw [hla, hlb, hlc]; simp only [List.length_append]
  rw [← hla, ← hlb, ← hlc] at hl2
  rw [← hla] at HU1
  rw [← hlb] at HU2
  rw [← hlc] at HU3
  rw [HLS.out]
  clear hr hz hlen e1 HA HB HC HT hla hlb hlc
  go_enter Tryd.func27, Tryd.ntmps27
  go_wp2_with fail
  refine (HU1.out _).mono ?_
  rintro e w1 ⟨a1, c1, rfl, ho1, hb1⟩
  have HO1 : Hid (Own w1 w.heap.size a1 la c1 A) := ho1
  have HB1 : Hid (Below w.heap.size w w1) := hb1
  clear ho1 hb1
  go_wp2_with fail
  refine (HU2.out _).mono ?_
  rintro e w2 ⟨a2, c2, rfl, ho2, hb2⟩
  have HO2 : Hid (Own w2 w1.heap.size a2 lb c2 B) := ho2
  have HO12 : Hid (Own w2 w.heap.size a1 la c1 A) := HO1.out.below hb2
  have HB2 : Hid (Below w.heap.size w w2) := HB1.out.trans (hb2.mono HB1.out.size)
  clear ho2 hb2
  go_wp2_with (at_builtin; refine wpList_append_rd rfl (.tmp 17) (.tmp 20) rfl w.heap.size a1 la c1 A rfl HO12.out a2 lb c2 B rfl HO2.out.rd HO2.out.nil_cap' (by omega) HB2.out.size ?_)
  intro a3 c3 w3 ho3 hg3 hb3
  have HO3 : Hid (Own w3 w.heap.size a3 (la + lb) c3 (A ++ B)) := ho3
  have HB3 : Hid (Below w.heap.size w w3) := HB2.out.trans hb3
  clear ho3 hg3 hb3 HO1 HO2 HO12
  go_wp2_with fail
  refine (HU3.out _).mono ?_
  rintro e w4 ⟨a4, c4, rfl, ho4, hb4⟩
  have HO4 : Hid (Own w4 w3.heap.size a4 lc c4 C) := ho4
  have HO34 : Hid (Own w4 w.heap.size a3 (la + lb) c3 (A ++ B)) := HO3.out.below hb4
  have HB4 : Hid (Below w.heap.size w w4) := HB3.out.trans (hb4.mono HB3.out.size)
  clear ho4 hb4
  go_wp2_with (at_builtin; refine wpList_append_rd rfl (.tmp 22) (.tmp 25) rfl w.heap.size a3 (la + lb) c3 (A ++ B) rfl HO34.out a4 lc c4 C rfl HO4.out.rd HO4.out.nil_cap' (by omega) HB4.out.size ?_)
  intro a5 c5 w5 ho5 hg5 hb5
  have HO5 : Hid (Own w5 w.heap.size a5 (la + lb + lc) c5 (A ++ B ++ C)) := by show Own _ _ _ _ _ _; rw [List.append_assoc]; exact ho5
  have HB5 : Hid (Below w.heap.size w w5) := HB4.out.trans hb5
  have HR5 : Hid (Rd w5 ra rn rest) := HR.out.below HB5.out
  clear ho5 hg5 hb5 HO3 HO4 HO34
  go_wp2_with (at_builtin; refine wpList_append_rd rfl (.tmp 29) (.tmp 30) rfl w.heap.size a5 (la + lb + lc) c5 (A ++ B ++ C) rfl HO5.out ra rn rc rest rfl HR5.out HRZ.out (by omega) HB5.out.size ?_)
  intro a6 c6 w6 ho6 hg6 hb6
  have HO6 : Hid (Own w6 w.heap.size a6 (la + lb + lc + rn) c6 (A ++ B ++ C ++ rest)) := by show Own _ _ _ _ _ _; rw [List.append_assoc, List.append_assoc]; exact ho6
  have HB6 : Hid (Below w.heap.size w w6) := HB5.out.trans hb6
  clear ho6 hg6 hb6 HO5 HR5
  go_wp2_with fail
  refine (ref_Seal k hk a6 (la + lb + lc + rn) c6 (A ++ B ++ C ++ rest) w6 HO6.out.rd HO6.out.nil_cap' (by omega)).mono ?_
  rintro e w7 ⟨a7, c7, rfl, ho7, hb7⟩
  have HO7 : Hid (Own w7 w.heap.size a7 (la + lb + lc + rn + 8) c7 (SealM.sealed k (A ++ B ++ C ++ rest))) := ho7.under HB6.out.size
  have HB7 : Hid (Below w.heap.size w w7) := HB6.out.trans (hb7.mono HB6.out.size)
  clear ho7 hb7
  go_wp2
  go_ret
  exact ⟨⟨a7, c7, rfl, HO7⟩, HB7.out⟩
end Go.Proofs.YtbloomepdchjhaaDoor
/- Items of one's own, and an item behind them; as they are read. -/
namespace Go.Proofs.YtbloomepdchjhaaDoor
open Go.RowKit

abbrev Bd := Option Addr × Nat × Nat
def icells (q : It) (b : Bd) : List Value := [.int .i64 q.tick, .int .u32 q.for_, .slice b.1 b.2.1 b.2.2]
def irow : List (It × Bd) → List Value
  | [] => []
  | x :: l => icells x.1 x.2 ++ irow l
theorem irow_snoc : ∀ (l : List (It × Bd)) (x : It × Bd), irow (l ++ [x]) = irow l ++ icells x.1 x.2
  | [], x => by simp [irow]
  | y :: l, x => by rw [List.cons_append, irow, irow, irow_snoc l x, List.append_assoc]
/-- A list of items of one's own, each with a body of one's own. -/
structure Its (w : World) (base : Nat) (v : Value) (l : List (It × Bd)) : Prop where
  row : w.ownsRow base 74 3 v l.length (irow l)
  bod : ∀ x ∈ l, Own w base x.2.1 x.2.2.1 x.2.2.2 x.1.body
theorem Its.nil_ (w : World) (base : Nat) : Its w base (.slice none 0 0) [] := ⟨⟨rfl, .inl ⟨rfl, rfl⟩⟩, fun _ h => by cases h⟩
theorem own_frame {w w' : World} {base : Nat} {a : Option Addr} {n c : Nat} {bs : List Nat} (h : Own w base a n c bs) (hf : ∀ k cs m, base ≤ k → w.heap[k]? = some (.cells cs 5 m) → w'.heap[k]? = some (.cells cs 5 m)) : Own w' base a n c bs := by
  refine ⟨⟨h.row.1, ?_⟩, h.byte⟩
  rcases h.row.2 with hn | ⟨g, c, cur, hv, hbg, hg, r⟩
  · exact .inl hn
  · exact .inr ⟨g, c, cur, hv, hbg, hf g _ _ hbg hg, r⟩
theorem Its.frame {w w' : World} {base : Nat} {v : Value} {l : List (It × Bd)} (h : Its w base v l) (hf : ∀ k, base ≤ k → k < w.heap.size → w'.heap[k]? = w.heap[k]?) : Its w' base v l := by
  refine ⟨⟨h.row.1, ?_⟩, fun x hx => own_frame (h.bod x hx) fun k cs m hb hk => by rw [hf k hb (Array.getElem?_eq_some_iff.1 hk).1]; exact hk⟩
  rcases h.row.2 with hn | ⟨g, c, cur, hv, hbg, hg, r⟩
  · exact .inl hn
  · exact .inr ⟨g, c, cur, hv, hbg, by rw [hf g hbg (Array.getElem?_eq_some_iff.1 hg).1]; exact hg, r⟩
theorem Its.grown {w w' : World} {base R : Nat} {v : Value} {l : List (It × Bd)} (h : Its w base v l) (hR : R < base) (hg : w.grownBy w' (some R)) : Its w' base v l :=
  h.frame fun k hb hk => hg.block k hk (fun e => by simp only [Option.some.injEq] at e; omega)
theorem Its.below {w w' : World} {base : Nat} {v : Value} {l : List (It × Bd)} (h : Its w base v l) (hb : Below w.heap.size w w') : Its w' base v l := h.frame fun k _ hk => hb.block k hk
theorem Its.under {w : World} {base : Nat} {v : Value} {l : List (It × Bd)} (h : Its w base v l) (p : Addr) (u : Value) (hp : p.block < base) : Its (w.setCell p u) base v l :=
  h.frame fun k hb _ => heap_setCell_other w p k u (fun e => by omega)
theorem Its.form {w : World} {base : Nat} {v : Value} {l : List (It × Bd)} (h : Its w base v l) : ∃ a c, v = .slice a l.length c ∧ l.length ≤ c ∧ c ≤ maxLen := by
  rcases h.row.2 with ⟨hv, hn⟩ | ⟨g, c, cur, hv, _, _, hc, hm, _⟩
  · exact ⟨none, 0, by rw [hv, hn], by omega, by omega⟩
  · exact ⟨_, c, hv, hc, hm⟩
theorem infoItem : (Tryd.prog.info? 74).map (fun i => (i.zero, i.size, i.bytes)) = some (some (.agg #[.int .i64 0, .int .u32 0, .slice none 0 0]), 3, 40) := by kernel_rfl
theorem icells_one (q : It) (b : Bd) : ∀ u ∈ icells q b, u.oneCell' = true := by
  intro u hu
  simp only [icells, List.mem_cons, List.not_mem_nil, or_false] at hu
  rcases hu with rfl | rfl | rfl <;> rfl
theorem item_told {w : World} {g : Nat} {q : It} {b : Bd} {t : TypeId} (h : Bk w g (icells q b).toArray t) : ∀ j u, (icells q b)[j]? = some u → w.cell? ((⟨g, 0, none⟩ : Addr).add j) = some u := by
  intro j u hj
  have := h.cell j (v := u) (by simpa using hj)
  by_cases h0 : j = 0
  · subst h0
    simpa [Addr.add] using this
  · simpa [Addr.add, h0] using this
/-- An item behind a list of one's own. -/
theorem wpList_append_it {w : World} {ops : Array Oper} {rest : List Oper} {o : Oper} {act : Act} {Q : Exit → Act → World → Prop} (hgd : o.guard = none) (s x : Operand)
    (ho : o.op = .call { callee := .builtin .append, args := #[s, x], argTypes := #[35, 35] })
    (base : Nat) (v : Value) (l : List (It × Bd)) (hs : act.eval s = v) (hown : Its w base v l) (ad : Addr) (c : Nat) (q : It) (b : Bd) (hx : act.eval x = .slice (some ad) 1 c) (hnews : ∀ j u, (icells q b)[j]? = some u → w.cell? (ad.add j) = some u) (hb : Own w base b.1 b.2.1 b.2.2 q.body)
    (hl : l.length ≤ 1000000) (hbase : base ≤ w.heap.size)
    (h : ∀ v' w', Its w' base v' (l ++ [(q, b)]) → w.grownBy w' v.ownBlock → Below base w w' → wpList Tryd.prog ops Q rest (act.put o.dst v') w') : wpList Tryd.prog ops Q (o :: rest) act w := by
  obtain ⟨i0, hi, hz0, hz1, hz2⟩ := info_parts infoItem
  refine wpList_plain hgd fun K hK => ?_
  refine wp_append_own w s x 35 ho base 74 i0 (.agg #[.int .i64 0, .int .u32 0, .slice none 0 0]) 3 40 Tryd.underlying35 hi hz0 hz1 hz2 (by rfl) (by decide) v l.length (irow l) hs hown.row ad 1 c (icells q b) hx (by rfl) hnews (icells_one q b) (by unfold maxLen; omega) (by omega) hbase fun v' w' h1 h2 _ => ?_
  have hbel : Below base w w' := (Below.refl _ _).grown h2 hbase (fun k hk => (hown.row.lt k hk).1)
  have hf : ∀ k cs m, base ≤ k → w.heap[k]? = some (.cells cs 5 m) → w'.heap[k]? = some (.cells cs 5 m) := fun k cs m _ hk => by
    rw [h2.block k (Array.getElem?_eq_some_iff.1 hk).1 (fun e => ?_)]
    · exact hk
    · rcases hown.row.2 with ⟨h3, _⟩ | ⟨g, c', cur, h3, _, h4, _⟩
      · rw [h3] at e; cases e
      · rw [h3] at e
        simp only [Value.ownBlock, Option.some.injEq] at e
        rw [e, h4] at hk
        simp only [Option.some.injEq, Obj.cells.injEq] at hk
        exact absurd hk.2.1 (by decide)
  refine hK _ _ (h v' w' ⟨?_, ?_⟩ h2 hbel)
  · rw [List.length_append, irow_snoc]
    simpa using h1
  · intro x hx
    rcases List.mem_append.1 hx with hx | hx
    · exact own_frame (hown.bod x hx) hf
    · obtain rfl := List.mem_singleton.1 hx
      exact own_frame hb hf
/-- Items of one's own, as they are read. -/
theorem irow_at : ∀ (l : List (It × Bd)) (i : Nat) (x : It × Bd), l[i]? = some x → ∀ j, j < 3 → (irow l)[i * 3 + j]? = (icells x.1 x.2)[j]?
  | [], i, x, h, j, hj => by simp at h
  | y :: l, 0, x, h, j, hj => by
    simp only [List.getElem?_cons_zero, Option.some.injEq] at h
    subst h
    rw [irow, Nat.zero_mul, Nat.zero_add, List.getElem?_append_left (by simp [icells]; omega)]
  | y :: l, i + 1, x, h, j, hj => by
    rw [List.getElem?_cons_succ] at h
    have e : (icells y.1 y.2).length = 3 := rfl
    rw [irow, List.getElem?_append_right (by omega), e, show (i + 1) * 3 + j - 3 = i * 3 + j from by omega]
    exact irow_at l i x h j hj
theorem Own.cap_le {w : World} {base : Nat} {a : Option Addr} {n c : Nat} {bs : List Nat} (h : Own w base a n c bs) : n ≤ c ∧ c ≤ maxLen := by
  rcases h.row.2 with ⟨hv, h0⟩ | ⟨g, c', cur, hv, _, _, hc, hm, _⟩
  · simp only [Value.slice.injEq] at hv
    omega
  · simp only [Value.slice.injEq] at hv
    obtain ⟨_, _, rfl⟩ := hv
    exact ⟨hc, hm⟩
theorem Its.rd {w : World} {base : Nat} {a : Option Addr} {n c : Nat} {L : List (It × Bd)} (h : Its w base (.slice a n c) L) (hb : ∀ q ∈ L.map Prod.fst, ((-9223372036854775808 : Int) ≤ q.tick ∧ q.tick ≤ 9223372036854775807) ∧ (0 ≤ q.for_ ∧ q.for_ ≤ 4294967295)) : ItsRd w a n (L.map Prod.fst) := by
  rcases h.row.2 with ⟨hv, hn⟩ | ⟨g, c', cur, hv, hbb, hg, hlc, hm, hs, ht⟩
  · simp only [Value.slice.injEq] at hv
    have : L = [] := List.length_eq_zero_iff.1 hn
    subst this
    exact ⟨by simp; omega, .inl rfl, hb⟩
  · simp only [Value.slice.injEq] at hv
    obtain ⟨rfl, rfl, rfl⟩ := hv
    refine ⟨by simp, .inr ⟨g, 0, rfl, (Array.getElem?_eq_some_iff.1 hg).1, fun i q hi => ?_⟩, hb⟩
    rw [List.getElem?_map] at hi
    obtain ⟨x, hx, rfl⟩ := Option.map_eq_some_iff.1 hi
    have hil : i < L.length := (List.getElem?_eq_some_iff.1 hx).1
    have key : ∀ j, j < 3 → w.cell? ⟨g, 0 + i * 3 + j, none⟩ = (icells x.1 x.2)[j]? := by
      intro j hj
      have h1 := irow_at L i x hx j hj
      rw [← ht, List.getElem?_take_of_lt (by omega), Array.getElem?_toList] at h1
      rw [cell_of_row w g _ cur _ _ hg, Nat.zero_add, h1]
    have ho := h.bod x (List.mem_of_getElem? hx)
    have hcl := ho.cap_le
    unfold maxLen at hcl
    exact ⟨key 0 (by omega), key 1 (by omega), x.2.1, x.2.2.1, x.2.2.2, key 2 (by omega), ho.rd, ho.nil_cap', hcl.1, by omega⟩
theorem Sps.grown_it {w w' : World} {base : Nat} {sv v : Value} {l : List Sp} {L : List (It × Bd)} (h : Sps w base sv l) (hi : Its w base v L) (hg : w.grownBy w' v.ownBlock) : Sps w' base sv l := by
  refine ⟨⟨h.row.1, ?_⟩⟩
  rcases h.row.2 with hn | ⟨g, c, cur, hv, hbg, hgb, r⟩
  · exact .inl hn
  · refine .inr ⟨g, c, cur, hv, hbg, ?_, r⟩
    rw [hg.block g (Array.getElem?_eq_some_iff.1 hgb).1 (fun e => ?_)]
    · exact hgb
    · rcases hi.row.2 with ⟨h3, _⟩ | ⟨g', c', cur', h3, _, h4, _⟩
      · rw [h3] at e; cases e
      · rw [h3] at e
        simp only [Value.ownBlock, Option.some.injEq] at e
        rw [e, h4] at hgb
        simp only [Option.some.injEq, Obj.cells.injEq] at hgb
        exact absurd hgb.2.1 (by decide)

theorem Sps.frame {w w' : World} {base : Nat} {v : Value} {l : List Sp} (h : Sps w base v l) (hf : ∀ k, base ≤ k → k < w.heap.size → w'.heap[k]? = w.heap[k]?) : Sps w' base v l := by
  refine ⟨⟨h.row.1, ?_⟩⟩
  rcases h.row.2 with hn | ⟨g, c, cur, hv, hbg, hg, r⟩
  · exact .inl hn
  · exact .inr ⟨g, c, cur, hv, hbg, by rw [hf g hbg (Array.getElem?_eq_some_iff.1 hg).1]; exact hg, r⟩
theorem Its.lower {w : World} {base base' : Nat} {v : Value} {l : List (It × Bd)} (h : Its w base v l) (hb : base' ≤ base) : Its w base' v l := by
  refine ⟨⟨h.row.1, ?_⟩, fun x hx => (h.bod x hx).under hb⟩
  rcases h.row.2 with hn | ⟨g, c, cur, hv, hbg, r⟩
  · exact .inl hn
  · exact .inr ⟨g, c, cur, hv, Nat.le_trans hb hbg, r⟩
theorem bk_step {w : World} {g : Nat} {t : TypeId} {cs cs' : Array Value} (h : Bk w g cs t) (i : Nat) (v : Value) (hc : cs.setIfInBounds i v = cs') : Bk (w.setCell ⟨g, i, none⟩ v) g cs' t := hc ▸ h.set i v
def set8 (w : World) (g : Nat) (v0 v1 v2 v3 v4 v5 v6 v7 : Value) : World := ((((((((w.setCell ⟨g, 0, none⟩ v0).setCell ⟨g, 1, none⟩ v1).setCell ⟨g, 2, none⟩ v2).setCell ⟨g, 3, none⟩ v3).setCell ⟨g, 4, none⟩ v4).setCell ⟨g, 5, none⟩ v5).setCell ⟨g, 6, none⟩ v6).setCell ⟨g, 7, none⟩ v7)
theorem Bk.set8 {w : World} {g : Nat} {t : TypeId} {u0 u1 u2 u3 u4 u5 u6 u7 : Value} (h : Bk w g #[u0, u1, u2, u3, u4, u5, u6, u7] t) (v0 v1 v2 v3 v4 v5 v6 v7 : Value) : Bk (Go.Proofs.YtbloomepdchjhaaDoor.set8 w g v0 v1 v2 v3 v4 v5 v6 v7) g #[v0, v1, v2, v3, v4, v5, v6, v7] t := by
  unfold Go.Proofs.YtbloomepdchjhaaDoor.set8
  have h1 : Bk (w.setCell ⟨g, 0, none⟩ v0) g #[v0, u1, u2, u3, u4, u5, u6, u7] t := bk_step h 0 v0 rfl
  generalize w.setCell ⟨g, 0, none⟩ v0 = w1 at h1 ⊢
  have h2 : Bk (w1.setCell ⟨g, 1, none⟩ v1) g #[v0, v1, u2, u3, u4, u5, u6, u7] t := bk_step h1 1 v1 rfl
  generalize w1.setCell ⟨g, 1, none⟩ v1 = w2 at h2 ⊢
  have h3 : Bk (w2.setCell ⟨g, 2, none⟩ v2) g #[v0, v1, v2, u3, u4, u5, u6, u7] t := bk_step h2 2 v2 rfl
  generalize w2.setCell ⟨g, 2, none⟩ v2 = w3 at h3 ⊢
  have h4 : Bk (w3.setCell ⟨g, 3, none⟩ v3) g #[v0, v1, v2, v3, u4, u5, u6, u7] t := bk_step h3 3 v3 rfl
  generalize w3.setCell ⟨g, 3, none⟩ v3 = w4 at h4 ⊢
  have h5 : Bk (w4.setCell ⟨g, 4, none⟩ v4) g #[v0, v1, v2, v3, v4, u5, u6, u7] t := bk_step h4 4 v4 rfl
  generalize w4.setCell ⟨g, 4, none⟩ v4 = w5 at h5 ⊢
  have h6 : Bk (w5.setCell ⟨g, 5, none⟩ v5) g #[v0, v1, v2, v3, v4, v5, u6, u7] t := bk_step h5 5 v5 rfl
  generalize w5.setCell ⟨g, 5, none⟩ v5 = w6 at h6 ⊢
  have h7 : Bk (w6.setCell ⟨g, 6, none⟩ v6) g #[v0, v1, v2, v3, v4, v5, v6, u7] t := bk_step h6 6 v6 rfl
  generalize w6.setCell ⟨g, 6, none⟩ v6 = w7 at h7 ⊢
  have h8 : Bk (w7.setCell ⟨g, 7, none⟩ v7) g #[v0, v1, v2, v3, v4, v5, v6, v7] t := bk_step h7 7 v7 rfl
  exact h8
theorem set8_other (w : World) (g : Nat) (v0 v1 v2 v3 v4 v5 v6 v7 : Value) (k : Nat) (hk : k ≠ g) : (set8 w g v0 v1 v2 v3 v4 v5 v6 v7).heap[k]? = w.heap[k]? := by
  unfold set8
  rw [heap_setCell_other _ _ _ _ hk, heap_setCell_other _ _ _ _ hk, heap_setCell_other _ _ _ _ hk, heap_setCell_other _ _ _ _ hk, heap_setCell_other _ _ _ _ hk, heap_setCell_other _ _ _ _ hk, heap_setCell_other _ _ _ _ hk, heap_setCell_other _ _ _ _ hk]
theorem set8_below {B : Nat} {w w' : World} (h : Below B w w') (g : Nat) (hg : B ≤ g) (v0 v1 v2 v3 v4 v5 v6 v7 : Value) : Below B w (set8 w' g v0 v1 v2 v3 v4 v5 v6 v7) := by
  unfold set8
  exact (((((((h.setCell hg _).setCell hg _).setCell hg _).setCell hg _).setCell hg _).setCell hg _).setCell hg _).setCell hg _
/-- An item behind a list of one's own, at a step of a region that draws its order. -/
theorem wp_append_it {w : World} {o : Oper} {act : Act} {K : Act → World → Prop} {Q : Exit → Act → World → Prop} (s x : Operand)
    (ho : o.op = .call { callee := .builtin .append, args := #[s, x], argTypes := #[35, 35] })
    (base : Nat) (v : Value) (l : List (It × Bd)) (hs : act.eval s = v) (hown : Its w base v l) (ad : Addr) (c : Nat) (q : It) (b : Bd) (hx : act.eval x = .slice (some ad) 1 c) (hnews : ∀ j u, (icells q b)[j]? = some u → w.cell? (ad.add j) = some u) (hb : Own w base b.1 b.2.1 b.2.2 q.body)
    (hl : (l.length + 1) * 40 ≤ 140737488355328) (hbase : base ≤ w.heap.size)
    (h : ∀ v' w', Its w' base v' (l ++ [(q, b)]) → w.grownBy w' v.ownBlock → Below base w w' → K (act.put o.dst v') w') : o.wp Tryd.prog act w K Q := by
  obtain ⟨i0, hi, hz0, hz1, hz2⟩ := info_parts infoItem
  refine wp_append_own w s x 35 ho base 74 i0 (.agg #[.int .i64 0, .int .u32 0, .slice none 0 0]) 3 40 Tryd.underlying35 hi hz0 hz1 hz2 (by rfl) (by decide) v l.length (irow l) hs hown.row ad 1 c (icells q b) hx (by rfl) hnews (icells_one q b) (by unfold maxLen; omega) (by omega) hbase fun v' w' h1 h2 _ => ?_
  have hbel : Below base w w' := (Below.refl _ _).grown h2 hbase (fun k hk => (hown.row.lt k hk).1)
  have hf : ∀ k cs m, base ≤ k → w.heap[k]? = some (.cells cs 5 m) → w'.heap[k]? = some (.cells cs 5 m) := fun k cs m _ hk => by
    rw [h2.block k (Array.getElem?_eq_some_iff.1 hk).1 (fun e => ?_)]
    · exact hk
    · rcases hown.row.2 with ⟨h3, _⟩ | ⟨g, c', cur, h3, _, h4, _⟩
      · rw [h3] at e; cases e
      · rw [h3] at e
        simp only [Value.ownBlock, Option.some.injEq] at e
        rw [e, h4] at hk
        simp only [Option.some.injEq, Obj.cells.injEq] at hk
        exact absurd hk.2.1 (by decide)
  refine h v' w' ⟨?_, ?_⟩ h2 hbel
  · rw [List.length_append, irow_snoc]
    simpa using h1
  · intro x hx
    rcases List.mem_append.1 hx with hx | hx
    · exact own_frame (hown.bod x hx) hf
    · obtain rfl := List.mem_singleton.1 hx
      exact own_frame hb hf
theorem step_append_it {w : World} {ops : Array Oper} {o : Oper} {act : Act} {K : Act → World → Prop} {Q : Exit → Act → World → Prop} {E : Prop} (hgd : o.guard = none) (s x : Operand)
    (ho : o.op = .call { callee := .builtin .append, args := #[s, x], argTypes := #[35, 35] })
    (base : Nat) (v : Value) (l : List (It × Bd)) (hs : act.eval s = v) (hown : Its w base v l) (ad : Addr) (c : Nat) (q : It) (b : Bd) (hx : act.eval x = .slice (some ad) 1 c) (hnews : ∀ j u, (icells q b)[j]? = some u → w.cell? (ad.add j) = some u) (hb : Own w base b.1 b.2.1 b.2.2 q.body)
    (hl : (l.length + 1) * 40 ≤ 140737488355328) (hbase : base ≤ w.heap.size)
    (h : ∀ v' w', Its w' base v' (l ++ [(q, b)]) → w.grownBy w' v.ownBlock → Below base w w' → K (act.put o.dst v') w') : if Region.wanted o (yielded ops act.tmps) = true then Oper.wp Tryd.prog o act w K Q else E := by
  rw [if_pos (by simp [Region.wanted, hgd])]
  exact wp_append_it s x ho base v l hs hown ad c q b hx hnews hb hl hbase h
/-- Spans of one's own, copied from spans that are read. -/
theorem flat3_len : ∀ l : List Sp, (l.flatMap fun q => q.cells.toList).length = l.length * 3
  | [] => rfl
  | s :: m => by rw [List.flatMap_cons, List.length_append, flat3_len m, List.length_cons]; simp [Sp.cells]; omega
theorem SpsRd.flat {w : World} {ad : Addr} {n : Nat} {l : List Sp} (h : SpsRd w (some ad) n l) : ∀ j u, (l.flatMap fun q => q.cells.toList)[j]? = some u → w.cell? (ad.add j) = some u := by
  intro j u hj
  rcases h.cells with rfl | ⟨g, o, ha, hg, hc⟩
  · simp at hj
  · simp only [Option.some.injEq] at ha
    subst ha
    have hlen : j < l.length * 3 := by rw [← flat3_len]; exact (List.getElem?_eq_some_iff.1 hj).1
    have hi : j / 3 < l.length := by omega
    have hq : l[j / 3]? = some l[j / 3] := List.getElem?_eq_getElem hi
    have hr : j % 3 < 3 := Nat.mod_lt _ (by decide)
    have e := flat3 l (j / 3) _ hq (j % 3) hr
    rw [show j / 3 * 3 + j % 3 = j from by omega, hj] at e
    obtain ⟨c0, c1, c2⟩ := hc (j / 3) _ hq
    have ea : (⟨g, o, none⟩ : Addr).add j = ⟨g, o + j, none⟩ := by unfold Addr.add; split <;> simp_all
    rw [ea, show o + j = o + j / 3 * 3 + j % 3 from by omega, e]
    rcases (by omega : j % 3 = 0 ∨ j % 3 = 1 ∨ j % 3 = 2) with h0 | h0 | h0 <;> rw [h0]
    · exact c0
    · exact c1
    · exact c2
theorem Sp.ones (l : List Sp) : ∀ u ∈ (l.flatMap fun q => q.cells.toList), u.oneCell' = true := by
  intro u hu
  obtain ⟨q, _, hq⟩ := List.mem_flatMap.1 hu
  exact Sp.one q u hq
theorem wpList_append_spans {w : World} {ops : Array Oper} {rest : List Oper} {o : Oper} {act : Act} {Q : Exit → Act → World → Prop} (hgd : o.guard = none) (s x : Operand)
    (ho : o.op = .call { callee := .builtin .append, args := #[s, x], argTypes := #[34, 34] })
    (base : Nat) (hs : act.eval s = .slice none 0 0) (sa : Option Addr) (sn sc : Nat) (l : List Sp) (hx : act.eval x = .slice sa sn sc) (hr : SpsRd w sa sn l) (hz : sa = none → sc = 0) (hb : sn * 24 ≤ 140737488355328) (hbase : base ≤ w.heap.size)
    (h : ∀ a' c' w', Sps w' base (.slice a' sn c') l → w.grownBy w' none → wpList Tryd.prog ops Q rest (act.put o.dst (.slice a' sn c')) w') : wpList Tryd.prog ops Q (o :: rest) act w := by
  obtain ⟨i0, hi, hz0, hz1, hz2⟩ := info_parts infoSpan
  refine wpList_plain hgd fun K hK => ?_
  cases sa with
  | none =>
    have hn : sn = 0 := by
      rw [← hr.size]
      rcases hr.cells with h0 | ⟨_, _, h0, _⟩
      · rw [h0]; rfl
      · cases h0
    have hc := hz rfl
    subst hn hc
    have hl : l = [] := List.eq_nil_of_length_eq_zero hr.size
    subst hl
    have hrun := run_append_owned_none (P := Tryd.prog) (w := w) base 34 o.type 105 i0 3 Tryd.underlying34 hi (.slice none 0 0) 0 [] (Sps.nil_ w base).row
    unfold Oper.wp execOp
    simp only [ho, resolve, invoke, builtin, Sem.run_bind, Sem.run_pure, Result.andThen_ok, List.map_toArray, List.map_cons, List.map_nil, hs, hx, hrun]
    exact hK _ _ (h none 0 w (Sps.nil_ w base) ⟨rfl, rfl, rfl, Nat.le_refl _, fun _ _ _ => rfl⟩)
  | some ad =>
    refine wp_append_own w s x 34 ho base 105 i0 (.agg #[.int .i64 0, .int .i64 0, .int .i64 0]) 3 24 Tryd.underlying34 hi hz0 hz1 hz2 (by rfl) (by decide) (.slice none 0 0) 0 [] hs (Sps.nil_ w base).row ad sn sc (l.flatMap fun q => q.cells.toList) hx (by rw [flat3_len, hr.size]) hr.flat (Sp.ones l) (by unfold maxLen; omega) (by omega) hbase fun v' w' h1 h2 _ => ?_
    rw [Nat.zero_add, List.nil_append, ← hr.size] at h1
    have hS : Sps w' base v' l := ⟨h1⟩
    obtain ⟨a', c', rfl, _⟩ := hS.form
    rw [hr.size] at hS ⊢
    exact hK _ _ (h a' c' w' hS h2)
end Go.Proofs.YtbloomepdchjhaaDoor
/- A link in memory; wait; slices.Delete of its first content. -/
namespace Go.Proofs.YtbloomepdchjhaaDoor
open Go.RowKit

/-- What waits: a kind, and bytes. -/
structure Wt where
  kind : Nat
  rest : List Nat
def wcell (x : Wt × Bd) : List Value := [.int .u8 (x.1.kind : Int), .slice x.2.1 x.2.2.1 x.2.2.2]
def wrow (L : List (Wt × Bd)) : List Value := L.flatMap wcell
theorem wrow_len : ∀ L : List (Wt × Bd), (wrow L).length = L.length * 2
  | [] => rfl
  | x :: L => by rw [wrow, List.flatMap_cons, List.length_append, List.length_cons]; have := wrow_len L; rw [wrow] at this; rw [this]; simp [wcell]; omega
theorem wcell_one (x : Wt × Bd) : ∀ u ∈ wcell x, u.oneCell' = true := by
  intro u hu
  simp only [wcell, List.mem_cons, List.not_mem_nil, or_false] at hu
  rcases hu with rfl | rfl <;> rfl
theorem wrow_one (L : List (Wt × Bd)) : ∀ u ∈ wrow L, u.oneCell' = true := by
  intro u hu
  obtain ⟨x, _, hx⟩ := List.mem_flatMap.1 hu
  exact wcell_one x u hx
/-- A link: its numbers. -/
structure Lk where
  life : Int
  other : Int
  last : Int
  queue : Int
  great : Int
  bits_ : Nat
  heard : Int
def Lk.cells (l : Lk) (wv : Value) : Array Value := #[.int .i64 l.life, .int .i64 l.other, .int .i64 l.last, .int .i64 l.queue, wv, .int .i64 l.great, .int .u64 (l.bits_ : Int), .int .i64 l.heard]
/-- A link in memory. -/
structure LkIn (w : World) (base g : Nat) (wv : Value) (L : List (Wt × Bd)) (l : Lk) : Prop where
  blk : Bk w g (l.cells wv) 65
  row : w.ownsRow base 70 2 wv L.length (wrow L)
  rest : ∀ x ∈ L, x.1.kind < 256 ∧ Own w base x.2.1 x.2.2.1 x.2.2.2 x.1.rest
  bg : base ≤ w.heap.size
/-- All blocks stay but a link's own and its row. -/
structure Fr (w w' : World) (g : Nat) (v : Value) : Prop where
  all : Below 0 w w'
  blk : ∀ k, k < w.heap.size → k ≠ g → some k ≠ v.ownBlock → w'.heap[k]? = w.heap[k]?
theorem Fr.of {w w' : World} {g : Nat} {v : Value} (h : Below w.heap.size w w') : Fr w w' g v := ⟨h.mono (Nat.zero_le _), fun k hk _ _ => h.block k hk⟩
theorem Fr.grown {w w' : World} {g : Nat} {v : Value} (h : w.grownBy w' v.ownBlock) : Fr w w' g v := ⟨⟨h.os, h.tape, h.output, h.size, fun k hk => absurd hk (Nat.not_lt_zero k)⟩, fun k hk _ h4 => h.block k hk h4⟩
theorem Fr.trans {w w1 w2 : World} {g : Nat} {v : Value} (h : Fr w w1 g v) (h2 : Fr w1 w2 g v) (_ : True) : Fr w w2 g v := ⟨h.all.trans h2.all, fun k hk h3 h4 => (h2.blk k (Nat.lt_of_lt_of_le hk h.all.size) h3 h4).trans (h.blk k hk h3 h4)⟩
theorem Fr.set {w w' : World} {g i : Nat} {v u : Value} (h : Fr w w' g v) : Fr w (w'.setCell ⟨g, i, none⟩ u) g v := ⟨h.all.setCell (Nat.zero_le _) u, fun k hk h3 h4 => (heap_setCell_other w' ⟨g, i, none⟩ k u h3).trans (h.blk k hk h3 h4)⟩
theorem LkIn.below {w w' : World} {base g : Nat} {wv : Value} {L : List (Wt × Bd)} {l : Lk} (h : LkIn w base g wv L l) (hb : Below w.heap.size w w') : LkIn w' base g wv L l := by
  refine ⟨h.blk.stay hb, ⟨h.row.1, ?_⟩, fun x hx => ⟨(h.rest x hx).1, (h.rest x hx).2.below hb⟩, Nat.le_trans h.bg hb.size⟩
  rcases h.row.2 with hn | ⟨g', c, cur, hv, hbg, hg, r⟩
  · exact .inl hn
  · exact .inr ⟨g', c, cur, hv, hbg, by rw [hb.block g' (Array.getElem?_eq_some_iff.1 hg).1]; exact hg, r⟩
theorem row_slice {w : World} {base T s : Nat} {v : Value} {m : Nat} {xs : List Value} (h : w.ownsRow base T s v m xs) : ∃ a n c, v = .slice a n c := by
  rcases h.2 with ⟨hv, _⟩ | ⟨g, c, cur, hv, _⟩
  · exact ⟨_, _, _, hv⟩
  · exact ⟨_, _, _, hv⟩
theorem row_len {w : World} {base T s : Nat} {a : Option Addr} {n c : Nat} {m : Nat} {xs : List Value} (h : w.ownsRow base T s (.slice a n c) m xs) : n = m ∧ m ≤ c ∧ c ≤ maxLen := by
  rcases h.2 with ⟨hv, h0⟩ | ⟨g, c', cur, hv, _, _, h1, h2, _⟩
  · simp only [Value.slice.injEq] at hv; exact ⟨by omega, by omega, by omega⟩
  · simp only [Value.slice.injEq] at hv; exact ⟨by omega, by omega, by omega⟩
theorem row_type {w : World} {base T s : Nat} {v : Value} {m : Nat} {xs : List Value} (h : w.ownsRow base T s v m xs) {k : Nat} {cs : Array Value} {t : TypeId} {mk : Nat × Nat} (hk : w.heap[k]? = some (.cells cs t mk)) (ht : t ≠ T) : some k ≠ v.ownBlock := by
  rcases h.2 with ⟨hv, _⟩ | ⟨g, c, cur, hv, _, hg, _⟩
  · rw [hv]; intro e; cases e
  · rw [hv]
    intro e
    simp only [Value.ownBlock, Option.some.injEq] at e
    rw [e, hg] at hk
    simp only [Option.some.injEq, Obj.cells.injEq] at hk
    exact ht hk.2.1.symm
theorem LkIn.blk_grown {w w' : World} {base g : Nat} {wv : Value} {L : List (Wt × Bd)} {l : Lk} (h : LkIn w base g wv L l) (hg : w.grownBy w' wv.ownBlock) : Bk w' g (l.cells wv) 65 := h.blk.grown hg (row_type h.row h.blk (by decide))
theorem cells_set (l : Lk) (v v' : Value) : (l.cells v).setIfInBounds 4 v' = l.cells v' := rfl
theorem own_kept {w w' : World} {base : Nat} {a : Option Addr} {n c : Nat} {bs : List Nat} (h : Own w base a n c bs) (hf : ∀ (k : Nat) (cs : Array Value) (m : Nat × Nat), w.heap[k]? = some (.cells cs 5 m) → w'.heap[k]? = some (.cells cs 5 m)) : Own w' base a n c bs := own_frame h fun k cs m _ hk => hf k cs m hk
theorem LkIn.grown {w w' : World} {base g : Nat} {wv v' : Value} {L : List (Wt × Bd)} {l : Lk} (h : LkIn w base g wv L l) {x : Wt} {b : Bd} (hk : x.kind < 256) (ho : Own w base b.1 b.2.1 b.2.2 x.rest) (hr : w'.ownsRow base 70 2 v' (L.length + 1) (wrow L ++ wcell (x, b))) (hg : w.grownBy w' wv.ownBlock) : LkIn (w'.setCell ⟨g, 4, none⟩ v') base g v' (L ++ [(x, b)]) l := by
  have hb := h.blk_grown hg
  have hf : ∀ (k : Nat) (cs : Array Value) (m : Nat × Nat), w.heap[k]? = some (.cells cs 5 m) → (w'.setCell ⟨g, 4, none⟩ v').heap[k]? = some (.cells cs 5 m) := fun k cs m hkk => by
    have h1 : w'.heap[k]? = some (.cells cs 5 m) := by
      rw [hg.block k (Array.getElem?_eq_some_iff.1 hkk).1 (row_type h.row hkk (by decide))]
      exact hkk
    rw [heap_setCell_other w' ⟨g, 4, none⟩ k _ (fun e => ?_)]
    · exact h1
    · simp only at e
      subst e
      unfold Bk at hb
      rw [hb] at h1
      simp only [Option.some.injEq, Obj.cells.injEq] at h1
      exact absurd h1.2.1 (by decide)
  refine ⟨?_, ?_, fun y hy => ?_, by simpa using Nat.le_trans h.bg hg.size⟩
  · have := hb.set 4 v'
    rw [cells_set] at this
    exact this
  · have h2 : wrow (L ++ [(x, b)]) = wrow L ++ wcell (x, b) := by simp [wrow]
    rw [h2, List.length_append]
    refine ⟨hr.1, ?_⟩
    rcases hr.2 with hn | ⟨g', c, cur, hv, hbg, hgg, r⟩
    · exact .inl hn
    · refine .inr ⟨g', c, cur, hv, hbg, ?_, r⟩
      rw [heap_setCell_other w' ⟨g, 4, none⟩ g' _ (fun e => ?_)]
      · exact hgg
      · simp only at e
        subst e
        unfold Bk at hb
        rw [hb] at hgg
        simp only [Option.some.injEq, Obj.cells.injEq] at hgg
        exact absurd hgg.2.1 (by decide)
  · rcases List.mem_append.1 hy with hy | hy
    · exact ⟨(h.rest y hy).1, own_kept (h.rest y hy).2 hf⟩
    · obtain rfl := List.mem_singleton.1 hy
      exact ⟨hk, own_kept ho hf⟩
theorem infoContent : (Tryd.prog.info? 70).map (fun i => (i.zero, i.size, i.bytes)) = some (some (.agg #[.int .u8 0, .slice none 0 0]), 2, 32) := by kernel_rfl
theorem wt_told {w : World} {g : Nat} {x : Wt} {b : Bd} (h : Bk w g #[.int .u8 (x.kind : Int), .slice b.1 b.2.1 b.2.2] 70) : ∀ j u, (wcell (x, b))[j]? = some u → w.cell? ((⟨g, 0, none⟩ : Addr).add j) = some u := by
  intro j u hj
  have := h.cell j (v := u) (by simpa [wcell] using hj)
  by_cases h0 : j = 0
  · subst h0
    simpa [Addr.add] using this
  · simpa [Addr.add, h0] using this
theorem step_append_wt {w : World} {ops : Array Oper} {o : Oper} {act : Act} {K : Act → World → Prop} {Q : Exit → Act → World → Prop} {E : Prop} (hgd : o.guard = none) (s x : Operand)
    (ho : o.op = .call { callee := .builtin .append, args := #[s, x], argTypes := #[61, 61] })
    (base : Nat) (v : Value) (L : List (Wt × Bd)) (hs : act.eval s = v) (hown : w.ownsRow base 70 2 v L.length (wrow L)) (ad : Addr) (c : Nat) (q : Wt) (b : Bd) (hx : act.eval x = .slice (some ad) 1 c) (hnews : ∀ j u, (wcell (q, b))[j]? = some u → w.cell? (ad.add j) = some u)
    (hl : L.length ≤ 1000000) (hbase : base ≤ w.heap.size)
    (h : ∀ v' w', w'.ownsRow base 70 2 v' (L.length + 1) (wrow L ++ wcell (q, b)) → w.grownBy w' v.ownBlock → K (act.put o.dst v') w') : if Region.wanted o (yielded ops act.tmps) = true then Oper.wp Tryd.prog o act w K Q else E := by
  rw [if_pos (by simp [Region.wanted, hgd])]
  obtain ⟨i0, hi, hz0, hz1, hz2⟩ := info_parts infoContent
  exact wp_append_own w s x 61 ho base 70 i0 (.agg #[.int .u8 0, .slice none 0 0]) 2 32 Tryd.underlying61 hi hz0 hz1 hz2 (by rfl) (by decide) v L.length (wrow L) hs hown ad 1 c (wcell (q, b)) hx (by rfl) hnews (wcell_one (q, b)) (by unfold maxLen; omega) (by omega) hbase fun v' w' h1 h2 _ => h v' w' h1 h2
theorem cell_far7 (w : World) (g i : Nat) (v : Value) (k j : Nat) (h : k ≠ g) : (w.setCell ⟨g, i, none⟩ v).cell? ⟨k, j, none⟩ = w.cell? ⟨k, j, none⟩ := by
  simp only [World.cell?, heap_setCell_other w ⟨g, i, none⟩ k v h]

set_option maxRecDepth 100000 in
set_option maxHeartbeats 4000000 in
theorem lk_wait_ok (w : World) (base g : Nat) (wv : Value) (L : List (Wt × Bd)) (l : Lk) (h : LkIn w base g wv L l) (kd : Nat) (hkd : kd < 256) (a : Option Addr) (n c : Nat) (rest : List Nat) (ho : Own w base a n c rest) (hq : (L.length : Int) < l.queue) (hl : L.length ≤ 1000) :
    Calls Tryd.prog 17 #[.pointer (some ⟨g, 0, none⟩), .agg #[.int .u8 (kd : Int), .slice a n c]] w fun e w' => e = .returned (.int .i64 0) ∧ Hid (∃ v', LkIn w' base g v' (L ++ [(⟨kd, rest⟩, (a, n, c))]) l) ∧ Fr w w' g wv := by
  obtain ⟨va, vn, vc, rfl⟩ := row_slice h.row
  obtain ⟨hvn, hvc, hvm⟩ := row_len h.row
  unfold maxLen at hvm
  have HL : Hid (LkIn w base g (.slice va vn vc) L l) := h
  obtain ⟨W0, HW0⟩ : ∃ W0, Hid (W0 = w.alloc (.cells #[.int .u8 (kd : Int), .slice a n c] 70)) := ⟨_, rfl⟩
  have hb0 : Below w.heap.size w W0 := by rw [HW0.out]; exact below_new _ _
  have HX0 : Hid (Bk W0 w.heap.size #[.int .u8 (kd : Int), .slice a n c] 70) := by rw [HW0.out]; exact Bk.new _ _ _
  have HL0 : Hid (LkIn W0 base g (.slice va vn vc) L l) := h.below hb0
  have HO0 : Hid (Own W0 base a n c rest) := ho.below hb0
  have HF0 : Hid (Fr w W0 g (.slice va vn vc)) := Fr.of hb0
  have HGX : Hid (w.heap.size ≠ g) := by have := h.blk.lt; show _ ≠ _; omega
  have HRN : Hid (some w.heap.size ≠ Value.ownBlock (.slice va vn vc)) := by
    intro e
    have := (h.row.lt w.heap.size e.symm).2
    omega
  have HBS : Hid (base ≤ w.heap.size) := h.bg
  have hlq : ¬ l.queue ≤ (vn : Int) := by omega
  have hge : decide (l.queue ≤ (vn : Int)) = false := by simpa using hlq
  have hll : L.length ≤ 1000000 := by omega
  have HVN : Hid (vn = L.length) := hvn
  clear h ho hb0 hvn
  go_enter Tryd.func17, Tryd.ntmps17
  go_wp2
  rw [← HW0.out]
  refine wp_region_held_drew (S := fun w' => w'.cell? ⟨g, 4, none⟩ = some (.slice va vn vc) ∧ w'.cell? ⟨g, 3, none⟩ = some (.int .i64 l.queue)) (by kernel_rfl) ⟨HL0.out.blk.cell 4 rfl, HL0.out.blk.cell 3 rfl⟩ (fun hHeld => ?_)
  obtain ⟨wc, HWC⟩ : ∃ wc, Hid (wc = W0.drew) := ⟨_, rfl⟩
  rw [← HWC.out] at hHeld ⊢
  refine take_putH (i := 0) (v := ?_) (some 5) rfl (by kernel_rfl) (by kernel_rfl) (by kernel_rfl) (by kernel_rfl) (fun _ _ _ h => h) (Or.inl ⟨by rfl, ?_⟩) hHeld ?_
  rotate_left
  · (intro w hSw; obtain ⟨z0, z1⟩ := hSw; go_simp; try with_reducible rfl)
  try simp only [Act.put, List.setIfInBounds_toArray, List.set_cons_zero, List.set_cons_succ]
  refine take_putH (i := 1) (v := ?_) (some 6) rfl (by kernel_rfl) (by kernel_rfl) (by kernel_rfl) (by kernel_rfl) (fun _ _ _ h => h) (Or.inl ⟨by rfl, ?_⟩) hHeld ?_
  rotate_left
  · (intro w hSw; obtain ⟨z0, z1⟩ := hSw; go_simp; try with_reducible rfl)
  try simp only [Act.put, List.setIfInBounds_toArray, List.set_cons_zero, List.set_cons_succ]
  refine take_putH (i := 2) (v := ?_) (some 7) rfl (by kernel_rfl) (by kernel_rfl) (by kernel_rfl) (by kernel_rfl) (fun _ _ _ h => h) (Or.inl ⟨by rfl, ?_⟩) hHeld ?_
  rotate_left
  · (intro w hSw; obtain ⟨z0, z1⟩ := hSw; go_simp; try with_reducible rfl)
  try simp only [Act.put, List.setIfInBounds_toArray, List.set_cons_zero, List.set_cons_succ]
  refine take_putH (i := 3) (v := ?_) (some 8) rfl (by kernel_rfl) (by kernel_rfl) (by kernel_rfl) (by kernel_rfl) (fun _ _ _ h => h) (Or.inl ⟨by rfl, ?_⟩) hHeld ?_
  rotate_left
  · (intro w hSw; obtain ⟨z0, z1⟩ := hSw; go_simp; try with_reducible rfl)
  try simp only [Act.put, List.setIfInBounds_toArray, List.set_cons_zero, List.set_cons_succ]
  refine take_putH (i := 4) (v := ?_) (some 9) rfl (by kernel_rfl) (by kernel_rfl) (by kernel_rfl) (by kernel_rfl) (fun _ _ _ h => h) (Or.inl ⟨by rfl, ?_⟩) hHeld ?_
  rotate_left
  · (intro w hSw; obtain ⟨z0, z1⟩ := hSw; go_simp; try with_reducible rfl)
  try simp only [Act.put, List.setIfInBounds_toArray, List.set_cons_zero, List.set_cons_succ]
  refine take_putH (i := 5) (v := ?_) (some 10) rfl (by kernel_rfl) (by kernel_rfl) (by kernel_rfl) (by kernel_rfl) (fun _ _ _ h => h) (Or.inl ⟨by rfl, ?_⟩) hHeld ?_
  rotate_left
  · (intro w hSw; obtain ⟨z0, z1⟩ := hSw; go_simp; try with_reducible rfl)
  try simp only [Act.put, List.setIfInBounds_toArray, List.set_cons_zero, List.set_cons_succ]
  refine take_putH (i := 6) (v := ?_) (some 11) rfl (by kernel_rfl) (by kernel_rfl) (by kernel_rfl) (by kernel_rfl) (fun _ _ _ h => h) (Or.inl ⟨by rfl, ?_⟩) hHeld ?_
  rotate_left
  · (intro w hSw; obtain ⟨z0, z1⟩ := hSw; go_simp; try with_reducible rfl)
  try simp only [Act.put, List.setIfInBounds_toArray, List.set_cons_zero, List.set_cons_succ]
  refine take_putH (i := 7) (v := ?_) (some 12) rfl (by kernel_rfl) (by kernel_rfl) (by kernel_rfl) (by kernel_rfl) (fun _ _ _ h => h) (Or.inl ⟨by rfl, ?_⟩) hHeld ?_
  rotate_left
  · (intro w hSw; obtain ⟨z0, z1⟩ := hSw; go_simp; try with_reducible rfl)
  try simp only [Act.put, List.setIfInBounds_toArray, List.set_cons_zero, List.set_cons_succ]
  refine take_putH (i := 8) (v := ?_) (some 13) rfl (by kernel_rfl) (by kernel_rfl) (by kernel_rfl) (by kernel_rfl) (fun _ _ _ h => h) (Or.inl ⟨by rfl, ?_⟩) hHeld ?_
  rotate_left
  · (intro w hSw; obtain ⟨z0, z1⟩ := hSw; go_simp; try with_reducible rfl)
  try simp only [Act.put, List.setIfInBounds_toArray, List.set_cons_zero, List.set_cons_succ]
  refine take_putH (i := 9) (v := ?_) (some 14) rfl (by kernel_rfl) (by kernel_rfl) (by kernel_rfl) (by kernel_rfl) (fun _ _ _ h => h) (Or.inl ⟨by rfl, ?_⟩) hHeld ?_
  rotate_left
  · (intro w hSw; obtain ⟨z0, z1⟩ := hSw; go_simp; try with_reducible rfl)
  try simp only [Act.put, List.setIfInBounds_toArray, List.set_cons_zero, List.set_cons_succ]
  refine wpAnyH_done (by kernel_rfl) ?_ _
  clear hHeld
  go_wp2
  obtain ⟨wd, HWD⟩ : ∃ wd, Hid (wd = wc.drew) := ⟨_, rfl⟩
  have hbd : Below W0.heap.size W0 wd := by rw [HWD.out, HWC.out]; exact below_drew (below_drew (Below.refl _ _))
  have HXd : Hid (Bk wd w.heap.size #[.int .u8 (kd : Int), .slice a n c] 70) := HX0.out.stay hbd
  have HLd : Hid (LkIn wd base g (.slice va vn vc) L l) := HL0.out.below hbd
  have HOd : Hid (Own wd base a n c rest) := HO0.out.below hbd
  have HFd : Hid (Fr w wd g (.slice va vn vc)) := HF0.out.trans (Fr.of hbd) trivial
  have HSd : Hid True := trivial
  have HBS6 : Hid (∀ w', Below 0 wd w' → base ≤ w'.heap.size) := fun w' hb => Nat.le_trans HBS.out (Nat.le_trans HFd.out.all.size hb.size)
  refine wp_region_held_drew (S := fun w' => w'.cell? ⟨w.heap.size, 0, none⟩ = some (.int .u8 (kd : Int)) ∧ w'.cell? ⟨w.heap.size, 1, none⟩ = some (.slice a n c)) (by kernel_rfl) (by rw [← HWD.out]; exact ⟨HXd.out.cell 0 rfl, HXd.out.cell 1 rfl⟩) (fun hHeld => ?_)
  rw [← HWD.out] at hHeld ⊢
  clear hbd HWD HWC HW0
  refine take_putH (i := 0) (v := ?_) (some 15) rfl (by kernel_rfl) (by kernel_rfl) (by kernel_rfl) (by kernel_rfl) (fun _ _ _ h => h) (Or.inl ⟨by rfl, ?_⟩) hHeld ?_
  rotate_left
  · (intro w hSw; obtain ⟨z0, z1⟩ := hSw; go_simp; try with_reducible rfl)
  try simp only [Act.put, List.setIfInBounds_toArray, List.set_cons_zero, List.set_cons_succ]
  refine take_putH (i := 1) (v := ?_) (some 16) rfl (by kernel_rfl) (by kernel_rfl) (by kernel_rfl) (by kernel_rfl) (fun _ _ _ h => h) (Or.inl ⟨by rfl, ?_⟩) hHeld ?_
  rotate_left
  · (intro w hSw; obtain ⟨z0, z1⟩ := hSw; go_simp; try with_reducible rfl)
  try simp only [Act.put, List.setIfInBounds_toArray, List.set_cons_zero, List.set_cons_succ]
  refine take_putH (i := 2) (v := ?_) (some 17) rfl (by kernel_rfl) (by kernel_rfl) (by kernel_rfl) (by kernel_rfl) (fun _ _ _ h => h) (Or.inl ⟨by rfl, ?_⟩) hHeld ?_
  rotate_left
  · (intro w hSw; obtain ⟨z0, z1⟩ := hSw; go_simp; try with_reducible rfl)
  try simp only [Act.put, List.setIfInBounds_toArray, List.set_cons_zero, List.set_cons_succ]
  refine take_putH (i := 3) (v := ?_) (some 18) rfl (by kernel_rfl) (by kernel_rfl) (by kernel_rfl) (by kernel_rfl) (fun _ _ _ h => h) (Or.inl ⟨by rfl, ?_⟩) hHeld ?_
  rotate_left
  · (intro w hSw; obtain ⟨z0, z1⟩ := hSw; go_simp; try with_reducible rfl)
  try simp only [Act.put, List.setIfInBounds_toArray, List.set_cons_zero, List.set_cons_succ]
  refine take_putH (i := 5) (v := ?_) (some 20) rfl (by kernel_rfl) (by kernel_rfl) (by kernel_rfl) (by kernel_rfl) (fun _ _ _ h => h) (Or.inl ⟨by rfl, ?_⟩) hHeld ?_
  rotate_left
  · (intro w hSw; obtain ⟨z0, z1⟩ := hSw; go_simp; try with_reducible rfl)
  try simp only [Act.put, List.setIfInBounds_toArray, List.set_cons_zero, List.set_cons_succ]
  have hH0 : Hid (wd.cell? ⟨w.heap.size, 0, none⟩ = some (.int .u8 (kd : Int)) ∧ wd.cell? ⟨w.heap.size, 1, none⟩ = some (.slice a n c)) := hHeld
  clear hHeld
  refine wpAnyH_ready (rs := [4, 6]) (by kernel_rfl) (by simp) ?_
  refine AllReadyH.cons rfl (fun K hK => ?_) (AllReadyH.cons rfl (fun K hK => ?_) AllReadyH.nil)
  · have cl : wd.cell? ⟨g, 4, none⟩ = some (.slice va vn vc) := HLd.out.blk.cell 4 rfl
    go_simp
    clear cl
    refine hK.out _ _ hH0.out (fun _ => ?_)
    clear hK K
    try simp only [Act.put, List.getElem_toArray, List.getElem_cons_succ, List.getElem_cons_zero, List.setIfInBounds_toArray, List.set_cons_zero, List.set_cons_succ]
    refine wpAnyH_ready (rs := [6]) (by kernel_rfl) (by simp) ?_
    refine AllReadyH.cons rfl (fun K hK => ?_) AllReadyH.nil
    go_simp
    obtain ⟨w6, HW6⟩ : ∃ w6, Hid (w6 = wd.alloc (.cells #[.int .u8 (kd : Int), .slice a n c] 70)) := ⟨_, rfl⟩
    rw [← HW6.out]
    have hb6 : Below wd.heap.size wd w6 := by rw [HW6.out]; exact below_new _ _
    have HN6 : Hid (Bk w6 wd.heap.size #[.int .u8 (kd : Int), .slice a n c] 70) := by rw [HW6.out]; exact Bk.new _ _ _
    have HL6 : Hid (LkIn w6 base g (.slice va vn vc) L l) := HLd.out.below hb6
    have hH6 : Hid (w6.cell? ⟨w.heap.size, 0, none⟩ = some (.int .u8 (kd : Int)) ∧ w6.cell? ⟨w.heap.size, 1, none⟩ = some (.slice a n c)) := ⟨(HXd.out.stay hb6).cell 0 rfl, (HXd.out.stay hb6).cell 1 rfl⟩
    have HO6 : Hid (Own w6 base a n c rest) := HOd.out.below hb6
    have HX6 : Hid (Bk w6 w.heap.size #[.int .u8 (kd : Int), .slice a n c] 70) := HXd.out.stay hb6
    have HF6 : Hid (Fr w w6 g (.slice va vn vc)) := HFd.out.trans (Fr.of hb6) trivial
    clear hb6
    refine hK.out _ _ hH6.out (fun _ => ?_)
    clear hK K
    try simp only [Act.put, List.getElem_toArray, List.getElem_cons_succ, List.getElem_cons_zero, List.setIfInBounds_toArray, List.set_cons_zero, List.set_cons_succ]
    refine wpAnyH_ready (rs := [7]) (by kernel_rfl) (by simp) ?_
    refine AllReadyH.cons rfl (fun K hK => ?_) AllReadyH.nil
    refine step_append_wt rfl (.tmp 19) (.tmp 21) rfl base (.slice va vn vc) L rfl HL6.out.row ⟨wd.heap.size, 0, none⟩ 1 ⟨kd, rest⟩ (a, n, c) rfl (wt_told HN6.out) (by omega) (HBS6.out _ (by rw [HW6.out]; exact (below_new _ _).mono (Nat.zero_le _))) ?_
    intro v7 w7 hr7 hg7
    obtain ⟨va7, vn7, vc7, rfl⟩ := row_slice hr7
    have HL7 : Hid (LkIn (w7.setCell ⟨g, 4, none⟩ (.slice va7 vn7 vc7)) base g (.slice va7 vn7 vc7) (L ++ [(⟨kd, rest⟩, (a, n, c))]) l) := HL6.out.grown hkd HO6.out hr7 hg7
    have HK7 : Hid (Bk w7 g (l.cells (.slice va vn vc)) 65) := HL6.out.blk_grown hg7
    have HX7 : Hid (Bk w7 w.heap.size #[.int .u8 (kd : Int), .slice a n c] 70) := HX6.out.grown hg7 HRN.out
    have hH7 : Hid (w7.cell? ⟨w.heap.size, 0, none⟩ = some (.int .u8 (kd : Int)) ∧ w7.cell? ⟨w.heap.size, 1, none⟩ = some (.slice a n c)) := ⟨HX7.out.cell 0 rfl, HX7.out.cell 1 rfl⟩
    have HF7 : Hid (Fr w w7 g (.slice va vn vc)) := HF6.out.trans (Fr.grown hg7) trivial
    clear hr7 hg7
    refine hK.out _ _ hH7.out (fun _ => ?_)
    clear hK K
    try simp only [Act.put, List.getElem_toArray, List.getElem_cons_succ, List.getElem_cons_zero, List.setIfInBounds_toArray, List.set_cons_zero, List.set_cons_succ]
    refine take_putH (i := 8) (v := ?_) (some 23) rfl (by kernel_rfl) (by kernel_rfl) (by kernel_rfl) (by kernel_rfl) (fun _ _ _ h => h) (Or.inl ⟨by rfl, ?_⟩) hH7.out ?_
    rotate_left
    · (intro w hSw; obtain ⟨z0, z1⟩ := hSw; go_simp; try with_reducible rfl)
    try simp only [Act.put, List.setIfInBounds_toArray, List.set_cons_zero, List.set_cons_succ]
    refine take_putH (i := 9) (v := ?_) (some 24) rfl (by kernel_rfl) (by kernel_rfl) (by kernel_rfl) (by kernel_rfl) (fun _ _ _ h => h) (Or.inl ⟨by rfl, ?_⟩) hH7.out ?_
    rotate_left
    · (intro w hSw; obtain ⟨z0, z1⟩ := hSw; go_simp; try with_reducible rfl)
    try simp only [Act.put, List.setIfInBounds_toArray, List.set_cons_zero, List.set_cons_succ]
    have b4 : w7.cell? ⟨g, 4, none⟩ = some (.slice va vn vc) := HK7.out.cell 4 rfl
    have f4 : w7.frozen? ⟨g, 4, none⟩ = false := HK7.out.free 4
    have hH8 : Hid ((w7.setCell ⟨g, 4, none⟩ (.slice va7 vn7 vc7)).cell? ⟨w.heap.size, 0, none⟩ = some (.int .u8 (kd : Int)) ∧ (w7.setCell ⟨g, 4, none⟩ (.slice va7 vn7 vc7)).cell? ⟨w.heap.size, 1, none⟩ = some (.slice a n c)) := ⟨(cell_far7 w7 g 4 _ _ 0 HGX.out).trans hH7.out.1, (cell_far7 w7 g 4 _ _ 1 HGX.out).trans hH7.out.2⟩
    refine wpAnyH_ready (rs := [10]) (by kernel_rfl) (by simp) ?_
    refine AllReadyH.cons rfl (fun K hK => ?_) AllReadyH.nil
    go_simp
    refine hK.out _ _ hH8.out (fun _ => ?_)
    clear hK K
    try simp only [Act.put, List.getElem_toArray, List.getElem_cons_succ, List.getElem_cons_zero, List.setIfInBounds_toArray, List.set_cons_zero, List.set_cons_succ]
    refine wpAnyH_done (by kernel_rfl) ?_ _
    clear b4 f4 hH0 hH6 hH7 hH8
    go_wp2
    go_ret
    exact ⟨rfl, ⟨_, HL7.out⟩, HF7.out.set⟩
  · go_simp
    obtain ⟨w6, HW6⟩ : ∃ w6, Hid (w6 = wd.alloc (.cells #[.int .u8 (kd : Int), .slice a n c] 70)) := ⟨_, rfl⟩
    rw [← HW6.out]
    have hb6 : Below wd.heap.size wd w6 := by rw [HW6.out]; exact below_new _ _
    have HN6 : Hid (Bk w6 wd.heap.size #[.int .u8 (kd : Int), .slice a n c] 70) := by rw [HW6.out]; exact Bk.new _ _ _
    have HL6 : Hid (LkIn w6 base g (.slice va vn vc) L l) := HLd.out.below hb6
    have hH6 : Hid (w6.cell? ⟨w.heap.size, 0, none⟩ = some (.int .u8 (kd : Int)) ∧ w6.cell? ⟨w.heap.size, 1, none⟩ = some (.slice a n c)) := ⟨(HXd.out.stay hb6).cell 0 rfl, (HXd.out.stay hb6).cell 1 rfl⟩
    have HO6 : Hid (Own w6 base a n c rest) := HOd.out.below hb6
    have HX6 : Hid (Bk w6 w.heap.size #[.int .u8 (kd : Int), .slice a n c] 70) := HXd.out.stay hb6
    have HF6 : Hid (Fr w w6 g (.slice va vn vc)) := HFd.out.trans (Fr.of hb6) trivial
    clear hb6
    refine hK.out _ _ hH6.out (fun _ => ?_)
    clear hK K
    try simp only [Act.put, List.getElem_toArray, List.getElem_cons_succ, List.getElem_cons_zero, List.setIfInBounds_toArray, List.set_cons_zero, List.set_cons_succ]
    refine wpAnyH_ready (rs := [4]) (by kernel_rfl) (by simp) ?_
    refine AllReadyH.cons rfl (fun K hK => ?_) AllReadyH.nil
    have cl : w6.cell? ⟨g, 4, none⟩ = some (.slice va vn vc) := HL6.out.blk.cell 4 rfl
    go_simp
    clear cl
    refine hK.out _ _ hH6.out (fun _ => ?_)
    clear hK K
    try simp only [Act.put, List.getElem_toArray, List.getElem_cons_succ, List.getElem_cons_zero, List.setIfInBounds_toArray, List.set_cons_zero, List.set_cons_succ]
    refine wpAnyH_ready (rs := [7]) (by kernel_rfl) (by simp) ?_
    refine AllReadyH.cons rfl (fun K hK => ?_) AllReadyH.nil
    refine step_append_wt rfl (.tmp 19) (.tmp 21) rfl base (.slice va vn vc) L rfl HL6.out.row ⟨wd.heap.size, 0, none⟩ 1 ⟨kd, rest⟩ (a, n, c) rfl (wt_told HN6.out) (by omega) (HBS6.out _ (by rw [HW6.out]; exact (below_new _ _).mono (Nat.zero_le _))) ?_
    intro v7 w7 hr7 hg7
    obtain ⟨va7, vn7, vc7, rfl⟩ := row_slice hr7
    have HL7 : Hid (LkIn (w7.setCell ⟨g, 4, none⟩ (.slice va7 vn7 vc7)) base g (.slice va7 vn7 vc7) (L ++ [(⟨kd, rest⟩, (a, n, c))]) l) := HL6.out.grown hkd HO6.out hr7 hg7
    have HK7 : Hid (Bk w7 g (l.cells (.slice va vn vc)) 65) := HL6.out.blk_grown hg7
    have HX7 : Hid (Bk w7 w.heap.size #[.int .u8 (kd : Int), .slice a n c] 70) := HX6.out.grown hg7 HRN.out
    have hH7 : Hid (w7.cell? ⟨w.heap.size, 0, none⟩ = some (.int .u8 (kd : Int)) ∧ w7.cell? ⟨w.heap.size, 1, none⟩ = some (.slice a n c)) := ⟨HX7.out.cell 0 rfl, HX7.out.cell 1 rfl⟩
    have HF7 : Hid (Fr w w7 g (.slice va vn vc)) := HF6.out.trans (Fr.grown hg7) trivial
    clear hr7 hg7
    refine hK.out _ _ hH7.out (fun _ => ?_)
    clear hK K
    try simp only [Act.put, List.getElem_toArray, List.getElem_cons_succ, List.getElem_cons_zero, List.setIfInBounds_toArray, List.set_cons_zero, List.set_cons_succ]
    refine take_putH (i := 8) (v := ?_) (some 23) rfl (by kernel_rfl) (by kernel_rfl) (by kernel_rfl) (by kernel_rfl) (fun _ _ _ h => h) (Or.inl ⟨by rfl, ?_⟩) hH7.out ?_
    rotate_left
    · (intro w hSw; obtain ⟨z0, z1⟩ := hSw; go_simp; try with_reducible rfl)
    try simp only [Act.put, List.setIfInBounds_toArray, List.set_cons_zero, List.set_cons_succ]
    refine take_putH (i := 9) (v := ?_) (some 24) rfl (by kernel_rfl) (by kernel_rfl) (by kernel_rfl) (by kernel_rfl) (fun _ _ _ h => h) (Or.inl ⟨by rfl, ?_⟩) hH7.out ?_
    rotate_left
    · (intro w hSw; obtain ⟨z0, z1⟩ := hSw; go_simp; try with_reducible rfl)
    try simp only [Act.put, List.setIfInBounds_toArray, List.set_cons_zero, List.set_cons_succ]
    have b4 : w7.cell? ⟨g, 4, none⟩ = some (.slice va vn vc) := HK7.out.cell 4 rfl
    have f4 : w7.frozen? ⟨g, 4, none⟩ = false := HK7.out.free 4
    have hH8 : Hid ((w7.setCell ⟨g, 4, none⟩ (.slice va7 vn7 vc7)).cell? ⟨w.heap.size, 0, none⟩ = some (.int .u8 (kd : Int)) ∧ (w7.setCell ⟨g, 4, none⟩ (.slice va7 vn7 vc7)).cell? ⟨w.heap.size, 1, none⟩ = some (.slice a n c)) := ⟨(cell_far7 w7 g 4 _ _ 0 HGX.out).trans hH7.out.1, (cell_far7 w7 g 4 _ _ 1 HGX.out).trans hH7.out.2⟩
    refine wpAnyH_ready (rs := [10]) (by kernel_rfl) (by simp) ?_
    refine AllReadyH.cons rfl (fun K hK => ?_) AllReadyH.nil
    go_simp
    refine hK.out _ _ hH8.out (fun _ => ?_)
    clear hK K
    try simp only [Act.put, List.getElem_toArray, List.getElem_cons_succ, List.getElem_cons_zero, List.setIfInBounds_toArray, List.set_cons_zero, List.set_cons_succ]
    refine wpAnyH_done (by kernel_rfl) ?_ _
    clear b4 f4 hH0 hH6 hH7 hH8
    go_wp2
    go_ret
    exact ⟨rfl, ⟨_, HL7.out⟩, HF7.out.set⟩
end Go.Proofs.YtbloomepdchjhaaDoor
/- slices.Delete of the first content. -/
namespace Go.Proofs.YtbloomepdchjhaaDoor
open Go.RowKit

theorem grown_join {w w1 w2 : World} {r : Option Nat} (h : w.grownBy w1 r) (h2 : w1.grownBy w2 r) : w.grownBy w2 r := ⟨h2.os.trans h.os, h2.tape.trans h.tape, h2.output.trans h.output, Nat.le_trans h.size h2.size, fun k hk hn => (h2.block k (Nat.lt_of_lt_of_le hk h.size) hn).trans (h.block k hk hn)⟩
theorem clear_one (w : World) (g o c : Nat) (hc : ∀ j, j < 2 → (w.cell? ⟨g, o + j, none⟩).isSome = true) (hf : ∀ j, j < 2 → w.frozen? ⟨g, o + j, none⟩ = false) : ∀ ty, (Builtin.clear_ #[61] ty #[.slice (some ⟨g, o, none⟩) 1 c]).run Tryd.prog w = .ok (.tuple #[]) (w.setCells g o [.int .u8 0, .slice none 0 0]) := by
  intro ty
  have hst := run_storeCells_cells (P := Tryd.prog) g o [.int .u8 0, .slice none 0 0] 0 w (by simpa using hc) (by simpa using hf) (by intro v hv; simp only [List.mem_cons, List.not_mem_nil, or_false] at hv; rcases hv with rfl | rfl <;> rfl)
  simp only [Nat.add_zero] at hst
  have hz : (Builtin.zeroCells (Value.agg #[.int .u8 0, .slice none 0 0]).cells 1).toList = [.int .u8 0, .slice none 0 0] := by kernel_rfl
  simp [Builtin.clear_, run_underlying Tryd.underlying61, hz, hst]
theorem row_past {w : World} {base T s g n c : Nat} {xs : List Value} (h : w.ownsRow base T s (.slice (some ⟨g, 0, none⟩) n c) n xs) {i : Nat} (hi : n * s ≤ i) (v : Value) : (w.setCell ⟨g, i, none⟩ v).ownsRow base T s (.slice (some ⟨g, 0, none⟩) n c) n xs := by
  refine ⟨h.1, ?_⟩
  rcases h.2 with ⟨hv, _⟩ | ⟨g', c', cur, hv, hb, hg, h1, h2, h3, h4⟩
  · cases hv
  · have hv' := hv
    simp only [Value.slice.injEq, Option.some.injEq, Addr.mk.injEq] at hv'
    obtain ⟨⟨rfl, _⟩, _, rfl⟩ := hv'
    refine .inr ⟨g, c, cur.setIfInBounds i v, hv, hb, heap_setCell_same w g i cur T v hg, h1, h2, by simpa using h3, ?_⟩
    rw [← h4]
    simp only [Array.toList_setIfInBounds]
    exact List.take_set_of_le hi
theorem row_past2 {w : World} {base g n c : Nat} {xs : List Value} (h : w.ownsRow base 70 2 (.slice (some ⟨g, 0, none⟩) n c) n xs) : (w.setCells g (n * 2) [.int .u8 0, .slice none 0 0]).ownsRow base 70 2 (.slice (some ⟨g, 0, none⟩) n c) n xs := by
  show ((w.setCell ⟨g, n * 2, none⟩ (.int .u8 0)).setCell ⟨g, n * 2 + 1, none⟩ (.slice none 0 0)).ownsRow _ _ _ _ _ _
  exact row_past (row_past h (Nat.le_refl _) _) (by omega) _
theorem grown_two (w : World) (g o : Nat) (u v : Value) : w.grownBy (w.setCells g o [u, v]) (some g) := by
  show w.grownBy ((w.setCell ⟨g, o, none⟩ u).setCell ⟨g, o + 1, none⟩ v) (some g)
  refine ⟨rfl, rfl, rfl, by simp, fun k hk hn => ?_⟩
  have hkg : k ≠ g := fun e => hn (by rw [e])
  rw [heap_setCell_other _ ⟨g, o + 1, none⟩ k v hkg, heap_setCell_other _ ⟨g, o, none⟩ k u hkg]
theorem row_zero {w : World} {base T s g n c : Nat} {xs : List Value} (h : w.ownsRow base T s (.slice (some ⟨g, 0, none⟩) n c) n xs) : w.ownsRow base T s (.slice (some ⟨g, 0, none⟩) 0 c) 0 [] := by
  refine ⟨by simp, ?_⟩
  rcases h.2 with ⟨hv, _⟩ | ⟨g', c', cur, hv, hb, hg, h1, h2, h3, h4⟩
  · cases hv
  · simp only [Value.slice.injEq, Option.some.injEq, Addr.mk.injEq] at hv
    obtain ⟨⟨rfl, _⟩, _, rfl⟩ := hv
    exact .inr ⟨g, c, cur, rfl, hb, hg, Nat.zero_le _, h2, h3, by simp⟩
theorem step_append_spare {w : World} {ops : Array Oper} {o : Oper} {act : Act} {K : Act → World → Prop} {Q : Exit → Act → World → Prop} {E : Prop} (hgd : o.guard = none) (s x : Operand)
    (ho : o.op = .call { callee := .builtin .append, args := #[s, x], argTypes := #[61, 61] })
    (base g n cap : Nat) (xs : List Value) (hs : act.eval s = .slice (some ⟨g, 0, none⟩) n cap) (hown : w.ownsRow base 70 2 (.slice (some ⟨g, 0, none⟩) n cap) n xs)
    (ad : Addr) (m c : Nat) (news : List Value) (hx : act.eval x = .slice (some ad) m c) (hl : news.length = m * 2) (hnews : ∀ j u, news[j]? = some u → w.cell? (ad.add j) = some u) (h1 : ∀ u ∈ news, u.oneCell' = true)
    (hroom : n + m ≤ cap)
    (h : ∀ w', w'.ownsRow base 70 2 (.slice (some ⟨g, 0, none⟩) (n + m) cap) (n + m) (xs ++ news) → w.grownBy w' (some g) → K (act.put o.dst (.slice (some ⟨g, 0, none⟩) (n + m) cap)) w') : if Region.wanted o (yielded ops act.tmps) = true then Oper.wp Tryd.prog o act w K Q else E := by
  rw [if_pos (by simp [Region.wanted, hgd])]
  obtain ⟨i0, hi, hz0, hz1, hz2⟩ := info_parts infoContent
  exact wp_append_own_spare w s x 61 ho base 70 i0 2 Tryd.underlying61 hi hz1 g n cap xs hs hown ad m c news hx hl hnews h1 hroom h

set_option maxRecDepth 100000 in
set_option maxHeartbeats 4000000 in
theorem lk_delete (w : World) (base g m c : Nat) (x : Wt × Bd) (T : List (Wt × Bd)) (hm : T.length = m) (hrow : w.ownsRow base 70 2 (.slice (some ⟨g, 0, none⟩) (m + 1) c) (m + 1) (wrow (x :: T))) :
    Calls Tryd.prog 21 #[.slice (some ⟨g, 0, none⟩) (m + 1) c, .int .i64 0, .int .i64 1] w fun e w' => e = .returned (.slice (some ⟨g, 0, none⟩) m c) ∧ Hid (w'.ownsRow base 70 2 (.slice (some ⟨g, 0, none⟩) m c) m (wrow T)) ∧ w.grownBy w' (some g) := by
  obtain ⟨_, hmc, hcm⟩ := row_len hrow
  unfold maxLen at hcm
  have HRW : Hid (w.ownsRow base 70 2 (.slice (some ⟨g, 0, none⟩) (m + 1) c) (m + 1) (wrow (x :: T))) := hrow
  have HLT : Hid ((wrow T).length = m * 2) := by show _ = _; rw [wrow_len, hm]
  obtain ⟨wd, HWD⟩ : ∃ wd, Hid (wd = w.drew) := ⟨_, rfl⟩
  have hbd : Below w.heap.size w wd := by rw [HWD.out]; exact below_drew (Below.refl _ _)
  have HGD : Hid (w.grownBy wd (some g)) := ⟨hbd.os, hbd.tape, hbd.output, hbd.size, fun k hk _ => hbd.block k hk⟩
  have hrd : wd.ownsRow base 70 2 (.slice (some ⟨g, 0, none⟩) (m + 1) c) (m + 1) (wrow (x :: T)) := by rw [HWD.out]; exact hrow
  have HZR : Hid (wd.ownsRow base 70 2 (.slice (some ⟨g, 0, none⟩) 0 c) 0 []) := row_zero hrd
  have HCL : Hid (∀ (w2 : World), w2.ownsRow base 70 2 (.slice (some ⟨g, 0, none⟩) m c) m (wrow T) → ∀ i, i < (m + 1) * 2 → ∃ u, w2.cell? ⟨g, i, none⟩ = some u) := by
    intro w2 h i hi
    rcases h.2 with ⟨hv, _⟩ | ⟨g', c', cur, hv, hb, hg, h1, h2, h3, h4⟩
    · cases hv
    · simp only [Value.slice.injEq, Option.some.injEq, Addr.mk.injEq] at hv
      obtain ⟨⟨rfl, _⟩, _, rfl⟩ := hv
      have hlt : i < cur.size := by rw [h3]; have := Nat.mul_le_mul_right 2 hmc; omega
      exact ⟨cur[i], by rw [cell_of_row w2 g i cur _ _ hg, Array.getElem?_eq_getElem hlt]⟩
  have q1 : (1 : Int) ≤ ((m + 1 : Nat) : Int) := by omega
  have q2 : ((m + 1 : Nat) : Int) ≤ (c : Int) := by omega
  have q3 : ((m + 1 : Nat) : Int) = (m : Int) + 1 := by omega
  have q4 : ¬ c = m := by omega
  have q5 : (m : Int) ≤ (c : Int) := by omega
  have q6 : (m : Int) + 1 ≤ (c : Int) := by omega
  have q7 : (1 : Int) ≤ (c : Int) := by omega
  have q8 : (0 : Int) ≤ (m : Int) := by omega
  have q9 : (1 : Int) ≤ (m : Int) + 1 := by omega
  clear hrow hbd hm
  by_cases hc1 : c = 1
  · subst hc1
    obtain rfl : m = 0 := by omega
    have hT : T = [] := by
      have h1 := HLT.out
      rw [wrow_len] at h1
      exact List.eq_nil_of_length_eq_zero (by omega)
    have HNW : Hid (∀ j u, (wrow T)[j]? = some u → wd.cell? ((⟨g, 0, none⟩ : Addr).add j) = some u) := by
      intro j u hj
      rw [hT] at hj
      simp [wrow] at hj
    clear hrd hT q1 q2 q3 q5 q6 q7 q8 q9
    go_enter Tryd.func21, Tryd.ntmps21
    go_wp2
    refine wp_region_held_drew (S := fun w' => True) (by kernel_rfl) trivial (fun hHeld => ?_)
    rw [← HWD.out]
    clear hHeld
    refine take_putH (i := 0) (v := ?_) (some 20) rfl (by kernel_rfl) (by kernel_rfl) (by kernel_rfl) (by kernel_rfl) (fun _ _ _ h => h) (Or.inl ⟨by rfl, ?_⟩) trivial ?_
    rotate_left
    · (intro w hSw; go_simp; try with_reducible rfl)
    try simp only [Act.put, List.setIfInBounds_toArray, List.set_cons_zero, List.set_cons_succ]
    refine take_putH (i := 1) (v := ?_) (some 21) rfl (by kernel_rfl) (by kernel_rfl) (by kernel_rfl) (by kernel_rfl) (fun _ _ _ h => h) (Or.inl ⟨by rfl, ?_⟩) trivial ?_
    rotate_left
    · (intro w hSw; go_simp; try with_reducible rfl)
    try simp only [Act.put, List.setIfInBounds_toArray, List.set_cons_zero, List.set_cons_succ]
    refine take_putH (i := 2) (v := ?_) (some 22) rfl (by kernel_rfl) (by kernel_rfl) (by kernel_rfl) (by kernel_rfl) (fun _ _ _ h => h) (Or.inl ⟨by rfl, ?_⟩) trivial ?_
    rotate_left
    · (intro w hSw; go_simp; try with_reducible rfl)
    try simp only [Act.put, List.setIfInBounds_toArray, List.set_cons_zero, List.set_cons_succ]
    refine take_putH (i := 3) (v := ?_) (some 23) rfl (by kernel_rfl) (by kernel_rfl) (by kernel_rfl) (by kernel_rfl) (fun _ _ _ h => h) (Or.inl ⟨by rfl, ?_⟩) trivial ?_
    rotate_left
    · (intro w hSw; go_simp; try with_reducible rfl)
    try simp only [Act.put, List.setIfInBounds_toArray, List.set_cons_zero, List.set_cons_succ]
    refine take_putH (i := 4) (v := ?_) (some 24) rfl (by kernel_rfl) (by kernel_rfl) (by kernel_rfl) (by kernel_rfl) (fun _ _ _ h => h) (Or.inl ⟨by rfl, ?_⟩) trivial ?_
    rotate_left
    · (intro w hSw; go_simp; try with_reducible rfl)
    try simp only [Act.put, List.setIfInBounds_toArray, List.set_cons_zero, List.set_cons_succ]
    refine take_putH (i := 5) (v := ?_) (some 25) rfl (by kernel_rfl) (by kernel_rfl) (by kernel_rfl) (by kernel_rfl) (fun _ _ _ h => h) (Or.inl ⟨by rfl, ?_⟩) trivial ?_
    rotate_left
    · (intro w hSw; go_simp; try with_reducible rfl)
    try simp only [Act.put, List.setIfInBounds_toArray, List.set_cons_zero, List.set_cons_succ]
    refine wpAnyH_ready (rs := [6]) (by kernel_rfl) (by simp) ?_
    refine AllReadyH.cons rfl (fun K hK => ?_) AllReadyH.nil
    refine step_append_spare rfl (.tmp 22) (.tmp 25) rfl base g 0 1 [] rfl HZR.out ⟨g, 0, none⟩ 0 0 (wrow T) rfl HLT.out HNW.out (wrow_one T) (by omega) ?_
    intro w2 hr2 hg2
    simp only [Nat.zero_add, List.nil_append] at hr2
    have HR2 : Hid (w2.ownsRow base 70 2 (.slice (some ⟨g, 0, none⟩) 0 1) 0 (wrow T)) := hr2
    have HG2 : Hid (w.grownBy w2 (some g)) := grown_join HGD.out hg2
    simp only [Nat.zero_add]
    clear hr2 hg2
    refine hK.out _ _ trivial (fun _ => ?_)
    clear hK K
    try simp only [Act.put, List.getElem_toArray, List.getElem_cons_succ, List.getElem_cons_zero, List.setIfInBounds_toArray, List.set_cons_zero, List.set_cons_succ]
    refine take_putH (i := 7) (v := ?_) (some 0) rfl (by kernel_rfl) (by kernel_rfl) (by kernel_rfl) (by kernel_rfl) (fun _ _ _ h => h) (Or.inl ⟨by rfl, ?_⟩) trivial ?_
    rotate_left
    · (intro w hSw; go_simp; try with_reducible rfl)
    try simp only [Act.put, List.setIfInBounds_toArray, List.set_cons_zero]
    refine wpAnyH_done (by kernel_rfl) ?_ _
    have hcl := clear_one w2 g (0 * 2) 1 (fun j hj => by obtain ⟨u, hu⟩ := HCL.out w2 HR2.out (0 * 2 + j) (by omega); rw [hu]; rfl) (fun j hj => HR2.out.frozenAt _)
    go_wp2_with (simp only [hcl])
    go_ret
    exact ⟨rfl, row_past2 HR2.out, grown_join HG2.out (grown_two w2 g (0 * 2) _ _)⟩
  · have HNW : Hid (∀ j u, (wrow T)[j]? = some u → wd.cell? ((⟨g, 2, none⟩ : Addr).add j) = some u) := by
      intro j u hj
      have hjl := (List.getElem?_eq_some_iff.1 hj).1
      rw [HLT.out] at hjl
      have e : (⟨g, 2, none⟩ : Addr).add j = ⟨g, 2 + j, none⟩ := by unfold Addr.add; split <;> simp_all
      rw [e, hrd.cellAt (2 + j) (by omega)]
      have e2 : wrow (x :: T) = wcell x ++ wrow T := by simp [wrow]
      rw [e2, List.getElem?_append_right (by simp [wcell]), show 2 + j - (wcell x).length = j from by simp [wcell]]
      exact hj
    clear hrd
    go_enter Tryd.func21, Tryd.ntmps21
    go_wp2
    refine wp_region_held_drew (S := fun w' => True) (by kernel_rfl) trivial (fun hHeld => ?_)
    rw [← HWD.out]
    clear hHeld
    refine take_putH (i := 0) (v := ?_) (some 20) rfl (by kernel_rfl) (by kernel_rfl) (by kernel_rfl) (by kernel_rfl) (fun _ _ _ h => h) (Or.inl ⟨by rfl, ?_⟩) trivial ?_
    rotate_left
    · (intro w hSw; go_simp; try with_reducible rfl)
    try simp only [Act.put, List.setIfInBounds_toArray, List.set_cons_zero, List.set_cons_succ]
    refine take_putH (i := 1) (v := ?_) (some 21) rfl (by kernel_rfl) (by kernel_rfl) (by kernel_rfl) (by kernel_rfl) (fun _ _ _ h => h) (Or.inl ⟨by rfl, ?_⟩) trivial ?_
    rotate_left
    · (intro w hSw; go_simp; try with_reducible rfl)
    try simp only [Act.put, List.setIfInBounds_toArray, List.set_cons_zero, List.set_cons_succ]
    refine take_putH (i := 2) (v := ?_) (some 22) rfl (by kernel_rfl) (by kernel_rfl) (by kernel_rfl) (by kernel_rfl) (fun _ _ _ h => h) (Or.inl ⟨by rfl, ?_⟩) trivial ?_
    rotate_left
    · (intro w hSw; go_simp; try with_reducible rfl)
    try simp only [Act.put, List.setIfInBounds_toArray, List.set_cons_zero, List.set_cons_succ]
    refine take_putH (i := 3) (v := ?_) (some 23) rfl (by kernel_rfl) (by kernel_rfl) (by kernel_rfl) (by kernel_rfl) (fun _ _ _ h => h) (Or.inl ⟨by rfl, ?_⟩) trivial ?_
    rotate_left
    · (intro w hSw; go_simp; try with_reducible rfl)
    try simp only [Act.put, List.setIfInBounds_toArray, List.set_cons_zero, List.set_cons_succ]
    refine take_putH (i := 4) (v := ?_) (some 24) rfl (by kernel_rfl) (by kernel_rfl) (by kernel_rfl) (by kernel_rfl) (fun _ _ _ h => h) (Or.inl ⟨by rfl, ?_⟩) trivial ?_
    rotate_left
    · (intro w hSw; go_simp; try with_reducible rfl)
    try simp only [Act.put, List.setIfInBounds_toArray, List.set_cons_zero, List.set_cons_succ]
    refine take_putH (i := 5) (v := ?_) (some 25) rfl (by kernel_rfl) (by kernel_rfl) (by kernel_rfl) (by kernel_rfl) (fun _ _ _ h => h) (Or.inl ⟨by rfl, ?_⟩) trivial ?_
    rotate_left
    · (intro w hSw; go_simp; try with_reducible rfl)
    try simp only [Act.put, List.setIfInBounds_toArray, List.set_cons_zero, List.set_cons_succ]
    refine wpAnyH_ready (rs := [6]) (by kernel_rfl) (by simp) ?_
    refine AllReadyH.cons rfl (fun K hK => ?_) AllReadyH.nil
    refine step_append_spare rfl (.tmp 22) (.tmp 25) rfl base g 0 c [] rfl HZR.out ⟨g, 2, none⟩ m (c - 1) (wrow T) rfl HLT.out HNW.out (wrow_one T) (by omega) ?_
    intro w2 hr2 hg2
    simp only [Nat.zero_add, List.nil_append] at hr2
    have HR2 : Hid (w2.ownsRow base 70 2 (.slice (some ⟨g, 0, none⟩) m c) m (wrow T)) := hr2
    have HG2 : Hid (w.grownBy w2 (some g)) := grown_join HGD.out hg2
    simp only [Nat.zero_add]
    clear hr2 hg2
    refine hK.out _ _ trivial (fun _ => ?_)
    clear hK K
    try simp only [Act.put, List.getElem_toArray, List.getElem_cons_succ, List.getElem_cons_zero, List.setIfInBounds_toArray, List.set_cons_zero, List.set_cons_succ]
    refine take_putH (i := 7) (v := ?_) (some 0) rfl (by kernel_rfl) (by kernel_rfl) (by kernel_rfl) (by kernel_rfl) (fun _ _ _ h => h) (Or.inl ⟨by rfl, ?_⟩) trivial ?_
    rotate_left
    · (intro w hSw; go_simp; try with_reducible rfl)
    try simp only [Act.put, List.setIfInBounds_toArray, List.set_cons_zero]
    refine wpAnyH_done (by kernel_rfl) ?_ _
    have hcl := clear_one w2 g (m * 2) (c - m) (fun j hj => by obtain ⟨u, hu⟩ := HCL.out w2 HR2.out (m * 2 + j) (by omega); rw [hu]; rfl) (fun j hj => HR2.out.frozenAt _)
    go_wp2_with (simp only [hcl])
    go_ret
    exact ⟨rfl, row_past2 HR2.out, grown_join HG2.out (grown_two w2 g (m * 2) _ _)⟩
end Go.Proofs.YtbloomepdchjhaaDoor
