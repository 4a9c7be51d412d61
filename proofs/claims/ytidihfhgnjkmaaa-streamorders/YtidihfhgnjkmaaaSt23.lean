/- slices.Equal at spans; Stream.same. -/
import Derived.Test.YtidihfhgnjkmaaaSt22
import Derived.Laws.StructEq
namespace Go.Proofs.Ytidihfhgnjkmaaa
set_option maxRecDepth 100000
open Go.RowKit Go.Maps Go.Sort Go.Shelf
open Go.BigFrame

theorem eq_of_at {l l2 : List Sp} (hl : l.length = l2.length) (h : ∀ j, j < l.length → l[j]? = l2[j]?) : l = l2 := by
  refine List.ext_getElem? fun j => ?_
  by_cases hj : j < l.length
  · exact h j hj
  · rw [List.getElem?_eq_none (by omega), List.getElem?_eq_none (by omega)]
theorem sp_stood : Try.prog.stoodInHeld 38 = false := by kernel_rfl
theorem sp_guard : Try.prog.eqGuardType Try.prog.depth 38 = false := by kernel_rfl
theorem sp_fields : (Try.prog.fieldsOf 38).toList.map (fun f => (f.name, f.type, f.offset)) = [("From", 3, 0), ("To", 3, 1), ("Is", 36, 2)] := by kernel_rfl
theorem sp_under : Try.prog.underlying 38 = some (.struct (Try.prog.fieldsOf 38)) := by kernel_rfl
theorem sp_neq (a b c a2 b2 c2 : Int) (W : World) : (binOp .neq 38 (.agg #[.int .i64 a, .int .i64 b, .int .i64 c]) (.agg #[.int .i64 a2, .int .i64 b2, .int .i64 c2])).run Try.prog W = .ok (.bool (!decide (a = a2 ∧ b = b2 ∧ c = c2))) W := by
  rw [run_neq_struct, run_equalIn_agg W 9999 38 _ _ sp_under sp_stood]
  have hf := sp_fields
  revert hf
  generalize (Try.prog.fieldsOf 38).toList = fs
  intro hf
  obtain ⟨f0, f1, f2, rfl⟩ : ∃ f0 f1 f2, fs = [f0, f1, f2] := by
    have hl : fs.length = 3 := by have := congrArg List.length hf; simpa using this
    match fs, hl with
    | [f0, f1, f2], _ => exact ⟨f0, f1, f2, rfl⟩
  simp only [List.map_cons, List.map_nil, List.cons.injEq, Prod.mk.injEq, and_true] at hf
  obtain ⟨⟨n0, t0, o0⟩, ⟨n1, t1, o1⟩, n2, t2, o2⟩ := hf
  have p0 : ∀ (x y z : Int) (W : World), (part 3 #[.int .i64 x, .int .i64 y, .int .i64 z] 0).run Try.prog W = .ok (.int .i64 x) W := fun _ _ _ _ => rfl
  have p1 : ∀ (x y z : Int) (W : World), (part 3 #[.int .i64 x, .int .i64 y, .int .i64 z] 1).run Try.prog W = .ok (.int .i64 y) W := fun _ _ _ _ => rfl
  have p2 : ∀ (x y z : Int) (W : World), (part 36 #[.int .i64 x, .int .i64 y, .int .i64 z] 2).run Try.prog W = .ok (.int .i64 z) W := fun _ _ _ _ => rfl
  have q0 : ∀ (x y : Int) (W : World), (Op.equalIn 9999 3 (.int .i64 x) (.int .i64 y)).run Try.prog W = .ok (x == y) W := fun x y W => run_equalIn_int W 9998 _ .i64 .i64 x y Try.underlying3
  have q2 : ∀ (x y : Int) (W : World), (Op.equalIn 9999 36 (.int .i64 x) (.int .i64 y)).run Try.prog W = .ok (x == y) W := fun x y W => run_equalIn_int W 9998 _ .i64 .i64 x y Try.underlying36
  simp only [Op.eqFields, n0, n1, n2, t0, t1, t2, o0, o1, o2]
  by_cases ha : a = a2
  · by_cases hb : b = b2
    · by_cases hc : c = c2
      · simp [ha, hb, hc, Sem.run_bind, p0, p1, p2, q0, q2, Result.andThen]
      · simp [ha, hb, hc, Sem.run_bind, p0, p1, p2, q0, q2, Result.andThen]
    · simp [ha, hb, Sem.run_bind, p0, p1, q0, Result.andThen]
  · simp [ha, Sem.run_bind, p0, q0, Result.andThen]
/-- Whether something holds is told. -/
def ToldB (P : Prop) (e : Ending) : Prop := ∃ r : Bool, e = .returned (.bool r) ∧ (r = true ↔ P)
set_option maxHeartbeats 4000000 in
theorem sp_equal (a b : Option Addr) (n c n2 c2 : Nat) (l l2 : List Sp) (w : World) (h1 : SpsRd w a n l) (h2 : SpsRd w b n2 l2) (hn : n ≤ maxLen) : Calls Try.prog 39 #[.slice a n c, .slice b n2 c2] w fun e w' => ToldB (l = l2) e ∧ Below w.heap.size w w' := by
  unfold maxLen at hn
  by_cases hne : n = n2
  · subst hne
    have H1 : Hid (SpsRd w a n l) := h1
    have H2 : Hid (SpsRd w b n l2) := h2
    have HL : Hid (l.length = n ∧ l2.length = n) := ⟨h1.size, h2.size⟩
    have k0 : ((n : Int) != (n : Int)) = false := by simp
    clear h1 h2
    go_enter Try.func39, Try.ntmps39
    go_wp2
    go_loopw [13] (fun t13 wr => ∃ i : Nat, t13 = .int .i64 (i : Int) ∧ i ≤ n ∧ Hid (∀ j, j < i → l[j]? = l2[j]?) ∧ Hid (Below w.heap.size w wr)) (fun t13 _ => n - (intOf t13).toNat)
    case atStart => exact ⟨0, rfl, by omega, fun j hj => by omega, Below.refl _ _⟩
    case round =>
      obtain ⟨i, rfl, hi, HE, HB⟩ := hrel
      by_cases hlt : i < n
      · have hlt' : (i : Int) < (n : Int) := by omega
        have g0 : (0 : Int) ≤ (i : Int) := by omega
        obtain ⟨g, o, rfl, hg, q, hq, d0, d1, d2⟩ := (H1.out.below HB.out).at_ i hlt
        obtain ⟨g2, o2, rfl, hg2, q2, hq2, e0, e1, e2⟩ := (H2.out.below HB.out).at_ i hlt
        obtain ⟨qa, qb, qc⟩ := q
        obtain ⟨ra, rb, rc⟩ := q2
        simp only at d0 d1 d2 e0 e1 e2
        have HQ : Hid (l[i]? = some ⟨qa, qb, qc⟩ ∧ l2[i]? = some ⟨ra, rb, rc⟩) := ⟨hq, hq2⟩
        clear hq hq2
        have hgd : ∀ (W : World) (x y : Operand), (eqGuard .neq 38 x y (.agg #[.int .i64 qa, .int .i64 qb, .int .i64 qc]) (.agg #[.int .i64 ra, .int .i64 rb, .int .i64 rc])).run Try.prog W = .ok () W := fun W x y => run_eqGuard_agg W .neq _ x y _ _ sp_guard
        by_cases hsp : qa = ra ∧ qb = rb ∧ qc = rc
        · have hnq : ∀ W : World, (binOp .neq 38 (.agg #[.int .i64 qa, .int .i64 qb, .int .i64 qc]) (.agg #[.int .i64 ra, .int .i64 rb, .int .i64 rc])).run Try.prog W = .ok (.bool false) W := fun W => by rw [sp_neq, decide_eq_true hsp]; rfl
          have HE2 : Hid (∀ j, j < i + 1 → l[j]? = l2[j]?) := fun j hj => by
            by_cases hji : j = i
            · rw [hji, HQ.out.1, HQ.out.2, hsp.1, hsp.2.1, hsp.2.2]
            · exact HE.out j (by omega)
          clear hsp
          go_upto_region 6 with fail
          go_quiet (fail)
          have HBD : Hid (∀ k, Below w.heap.size w (wr.drewN k)) := fun k => below_drews HB.out k
          go_wp2
          go_roundw
          case rel => exact ⟨i + 1, by go_num, by omega, HE2, HBD.out _⟩
          case measure => simp [intOf]; omega
        · have hnq : ∀ W : World, (binOp .neq 38 (.agg #[.int .i64 qa, .int .i64 qb, .int .i64 qc]) (.agg #[.int .i64 ra, .int .i64 rb, .int .i64 rc])).run Try.prog W = .ok (.bool true) W := fun W => by rw [sp_neq, decide_eq_false hsp]; rfl
          have HNE : Hid (l ≠ l2) := fun h => by
            have h1 := HQ.out.1
            rw [h, HQ.out.2] at h1
            have h2 := Option.some.inj h1
            simp only [Sp.mk.injEq] at h2
            exact hsp ⟨h2.1.symm, h2.2.1.symm, h2.2.2.symm⟩
          clear hsp
          go_upto_region 6 with fail
          go_quiet (fail)
          have HBD : Hid (∀ k, Below w.heap.size w (wr.drewN k)) := fun k => below_drews HB.out k
          go_wp2
          go_ret
          exact ⟨⟨false, rfl, ⟨fun h => (by cases h), fun h => absurd h HNE.out⟩⟩, HBD.out _⟩
      · have hnl : ¬ (i : Int) < (n : Int) := by omega
        obtain rfl : i = n := by omega
        have HEQ : Hid (l = l2) := eq_of_at (HL.out.1.trans HL.out.2.symm) fun j hj => HE.out j (by rw [← HL.out.1]; exact hj)
        go_wp2
        go_ret
        exact ⟨⟨true, rfl, ⟨fun _ => HEQ.out, fun _ => rfl⟩⟩, HB.out⟩
  · refine (sp_equal_len a b n c n2 c2 hne w).mono ?_
    rintro e w' ⟨rfl, rfl⟩
    refine ⟨⟨false, rfl, ⟨fun h => (by cases h), fun h => ?_⟩⟩, Below.refl _ _⟩
    exact absurd (h1.size.symm.trans ((congrArg List.length h).trans h2.size)) hne
/-- A world that is as this one below what was there. -/
structure BlwW (w : World) where
  W : World
  ok : Below w.heap.size w W
theorem wp_region_blw {P : Program} {id : Nat} {Q : Exit → Act → World → Prop} {a : Act} {w : World} {l : List Oper} (hm : P.follows .mixedOrders = true) (hB : Region.lexB .any l.toArray = true)
    (h : wpQuiet P l.toArray (fun w' => ∃ p : BlwW w, w' = p.W) (fun a' => ∀ w', (∃ p : BlwW w, w' = p.W) → Q .normal a' w') l a) : (Code.region id l.toArray true).wp P Q a w :=
  wp_region_quiet (C := fun w' => ∃ p : BlwW w, w' = p.W) hm hB ⟨⟨w.drew, (Below.refl _ _).drew⟩, rfl⟩ (by simpa using h)
theorem Calls.blw_of {P : Program} {f : FuncId} {args : Array Value} {w : World} {p : BlwW w} {v : Value} (h : Calls P f args p.W fun e w' => e = .returned v ∧ Below p.W.heap.size p.W w') : Calls P f args p.W fun e w'' => e = .returned v ∧ ∃ q : BlwW w, w'' = q.W :=
  h.mono fun _ w' ⟨he, hb⟩ => ⟨he, ⟨w', p.ok.trans (hb.mono p.ok.size)⟩, rfl⟩
theorem ToldB.yes {P : Prop} {e : Ending} (h : ToldB P e) (hp : P) : e = .returned (.bool true) := by
  obtain ⟨r, rfl, hr⟩ := h
  rw [hr.2 hp]
theorem ToldB.no {P : Prop} {e : Ending} (h : ToldB P e) (hp : ¬ P) : e = .returned (.bool false) := by
  obtain ⟨r, rfl, hr⟩ := h
  cases r with
  | false => rfl
  | true => exact absurd (hr.1 rfl) hp
set_option maxHeartbeats 4000000 in
theorem st_same {w : World} {s m s2 m2 : Nat} {a a2 : Option Addr} {n c n2 c2 : Nat} {l l2 : List Sp} {X X2 : List (Int × Value)} (h : Stm w s m a n c l X) (h2 : Stm w s2 m2 a2 n2 c2 l2 X2) (hX1 : ∀ p ∈ X, ∃ y, p.2 = mkIt y) (hX2 : ∀ p ∈ X2, ∃ y, p.2 = mkIt y) :
    Calls Try.prog 19 #[.pointer (some ⟨s, 0, none⟩), .pointer (some ⟨s2, 0, none⟩)] w fun e w' => ToldB (l = l2 ∧ SameX X X2) e ∧ Below w.heap.size w w' := by
  have HQ : Hid (∀ q : BlwW w, Calls Try.prog 39 #[.slice a n c, .slice a2 n2 c2] q.W fun e w' => ToldB (l = l2) e ∧ Below q.W.heap.size q.W w') := fun q => sp_equal a a2 n c n2 c2 l l2 q.W (h.ok.rd.below q.ok) (h2.ok.rd.below q.ok) h.ok.len
  have HF : Hid (∀ q : BlwW w, Calls Try.prog 40 #[.map (some m), .map (some m2), .func (.func 38) #[] #[]] q.W fun e w' => ToldB (SameX X X2) e ∧ Below q.W.heap.size q.W w') := fun q => (st_eqFunc (h.stay q.ok).items (h2.stay q.ok).items hX1 hX2).mono fun e w' ⟨b, h1, h2, h3⟩ => ⟨⟨b, h1, h2⟩, h3⟩
  have c0 : ∀ q : BlwW w, q.W.cell? ⟨s, 0, none⟩ = some (.slice a n c) := fun q => (h.stay q.ok).blk.cell 0 rfl
  have d0 : ∀ q : BlwW w, q.W.cell? ⟨s2, 0, none⟩ = some (.slice a2 n2 c2) := fun q => (h2.stay q.ok).blk.cell 0 rfl
  have c1 : ∀ q : BlwW w, q.W.cell? ⟨s, 1, none⟩ = some (.map (some m)) := fun q => (h.stay q.ok).blk.cell 1 rfl
  have d1 : ∀ q : BlwW w, q.W.cell? ⟨s2, 1, none⟩ = some (.map (some m2)) := fun q => (h2.stay q.ok).blk.cell 1 rfl
  have HFA : Hid (SameX X X2 → ∀ q : BlwW w, Calls Try.prog 40 #[.map (some m), .map (some m2), .func (.func 38) #[] #[]] q.W fun e w' => e = .returned (.bool true) ∧ Below q.W.heap.size q.W w') := fun hp q => (HF.out q).mono fun e w' h => ⟨h.1.yes hp, h.2⟩
  have HFB : Hid (¬ SameX X X2 → ∀ q : BlwW w, Calls Try.prog 40 #[.map (some m), .map (some m2), .func (.func 38) #[] #[]] q.W fun e w' => e = .returned (.bool false) ∧ Below q.W.heap.size q.W w') := fun hp q => (HF.out q).mono fun e w' h => ⟨h.1.no hp, h.2⟩
  clear h h2 HF hX1 hX2
  have hne : Nonempty (BlwW w) := ⟨⟨w, Below.refl _ _⟩⟩
  by_cases hl : l = l2
  · have HQ1 : Hid (∀ q : BlwW w, Calls Try.prog 39 #[.slice a n c, .slice a2 n2 c2] q.W fun e w' => e = .returned (.bool true) ∧ Below q.W.heap.size q.W w') := fun q => (HQ.out q).mono fun e w' h => ⟨h.1.yes hl, h.2⟩
    by_cases hx : SameX X X2
    · have HF1 : Hid (∀ q : BlwW w, Calls Try.prog 40 #[.map (some m), .map (some m2), .func (.func 38) #[] #[]] q.W fun e w' => e = .returned (.bool true) ∧ Below q.W.heap.size q.W w') := HFA.out hx
      have HT : Hid (ToldB (l = l2 ∧ SameX X X2) (.returned (.bool true))) := ⟨true, rfl, ⟨fun _ => ⟨hl, hx⟩, fun _ => rfl⟩⟩
      clear HQ HFA HFB hl hx
      go_enter Try.func19, Try.ntmps19
      go_upto_region 2 with fail
      refine wp_region_blw (by kernel_rfl) (by kernel_rfl) ?_
      repeat (go_big_quiet_step (first
        | (go_at_call 39; exact Calls.blw_of (HQ1.out _))
        | (go_at_call 40; exact Calls.blw_of (HF1.out _))))
      refine wpQuiet_nil ?_
      intro _ hw'
      obtain ⟨p, hw''⟩ := hw'
      subst hw''
      go_wp2
      go_ret
      exact ⟨HT.out, p.ok⟩
    · have HF1 : Hid (∀ q : BlwW w, Calls Try.prog 40 #[.map (some m), .map (some m2), .func (.func 38) #[] #[]] q.W fun e w' => e = .returned (.bool false) ∧ Below q.W.heap.size q.W w') := HFB.out hx
      have HT : Hid (ToldB (l = l2 ∧ SameX X X2) (.returned (.bool false))) := ⟨false, rfl, ⟨fun h => (by cases h), fun h => absurd h.2 hx⟩⟩
      clear HQ HFA HFB hl hx
      go_enter Try.func19, Try.ntmps19
      go_upto_region 2 with fail
      refine wp_region_blw (by kernel_rfl) (by kernel_rfl) ?_
      repeat (go_big_quiet_step (first
        | (go_at_call 39; exact Calls.blw_of (HQ1.out _))
        | (go_at_call 40; exact Calls.blw_of (HF1.out _))))
      refine wpQuiet_nil ?_
      intro _ hw'
      obtain ⟨p, hw''⟩ := hw'
      subst hw''
      go_wp2
      go_ret
      exact ⟨HT.out, p.ok⟩
  · have HQ1 : Hid (∀ q : BlwW w, Calls Try.prog 39 #[.slice a n c, .slice a2 n2 c2] q.W fun e w' => e = .returned (.bool false) ∧ Below q.W.heap.size q.W w') := fun q => (HQ.out q).mono fun e w' h => ⟨h.1.no hl, h.2⟩
    have HT : Hid (ToldB (l = l2 ∧ SameX X X2) (.returned (.bool false))) := ⟨false, rfl, ⟨fun h => (by cases h), fun h => absurd h.1 hl⟩⟩
    clear HQ HFA HFB hl
    go_enter Try.func19, Try.ntmps19
    go_upto_region 2 with fail
    refine wp_region_blw (by kernel_rfl) (by kernel_rfl) ?_
    repeat (go_big_quiet_step (first
      | (go_at_call 39; exact Calls.blw_of (HQ1.out _))))
    refine wpQuiet_nil ?_
    intro _ hw'
    obtain ⟨p, hw''⟩ := hw'
    subst hw''
    go_wp2
    go_ret
    exact ⟨HT.out, p.ok⟩
end Go.Proofs.Ytidihfhgnjkmaaa
