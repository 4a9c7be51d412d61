/- A pack of texts: St23 St24 St25 Sm1 St29 St30 St26 St27 St28. -/
import Derived.Test.YtidihfhgnjkmaaaGreatSt22
import Derived.Laws.StructEq
import Derived.Test.YtidihfhgnjkmaaaGreatSpApp
import Derived.Test.YtidihfhgnjkmaaaGreatPcJ
/- slices.Equal at spans; Stream.same. -/
namespace Go.Proofs.YtidihfhgnjkmaaaGreat
set_option maxRecDepth 100000
open Go.RowKit Go.Maps Go.Sort Go.Shelf
variable {Z : Nat → Prop}
open Go.BigFrame

theorem eq_of_at {l l2 : List Sp} (hl : l.length = l2.length) (h : ∀ j, j < l.length → l[j]? = l2[j]?) : l = l2 := by
  refine List.ext_getElem? fun j => ?_
  by_cases hj : j < l.length
  · exact h j hj
  · rw [List.getElem?_eq_none (by omega), List.getElem?_eq_none (by omega)]
theorem sp_stood : Tryz.prog.stoodInHeld 62 = false := by kernel_rfl
theorem sp_guard : Tryz.prog.eqGuardType Tryz.prog.depth 62 = false := by kernel_rfl
theorem sp_fields : (Tryz.prog.fieldsOf 62).toList.map (fun f => (f.name, f.type, f.offset)) = [("From", 3, 0), ("To", 3, 1), ("Is", 60, 2)] := by kernel_rfl
theorem sp_under : Tryz.prog.underlying 62 = some (.struct (Tryz.prog.fieldsOf 62)) := by kernel_rfl
theorem sp_neq (a b c a2 b2 c2 : Int) (W : World) : (binOp .neq 62 (.agg #[.int .i64 a, .int .i64 b, .int .i64 c]) (.agg #[.int .i64 a2, .int .i64 b2, .int .i64 c2])).run Tryz.prog W = .ok (.bool (!decide (a = a2 ∧ b = b2 ∧ c = c2))) W := by
  rw [run_neq_struct, run_equalIn_agg W 9999 62 _ _ sp_under sp_stood]
  have hf := sp_fields
  revert hf
  generalize (Tryz.prog.fieldsOf 62).toList = fs
  intro hf
  obtain ⟨f0, f1, f2, rfl⟩ : ∃ f0 f1 f2, fs = [f0, f1, f2] := by
    have hl : fs.length = 3 := by have := congrArg List.length hf; simpa using this
    match fs, hl with
    | [f0, f1, f2], _ => exact ⟨f0, f1, f2, rfl⟩
  simp only [List.map_cons, List.map_nil, List.cons.injEq, Prod.mk.injEq, and_true] at hf
  obtain ⟨⟨n0, t0, o0⟩, ⟨n1, t1, o1⟩, n2, t2, o2⟩ := hf
  have p0 : ∀ (x y z : Int) (W : World), (part 3 #[.int .i64 x, .int .i64 y, .int .i64 z] 0).run Tryz.prog W = .ok (.int .i64 x) W := fun _ _ _ _ => rfl
  have p1 : ∀ (x y z : Int) (W : World), (part 3 #[.int .i64 x, .int .i64 y, .int .i64 z] 1).run Tryz.prog W = .ok (.int .i64 y) W := fun _ _ _ _ => rfl
  have p2 : ∀ (x y z : Int) (W : World), (part 60 #[.int .i64 x, .int .i64 y, .int .i64 z] 2).run Tryz.prog W = .ok (.int .i64 z) W := fun _ _ _ _ => rfl
  have q0 : ∀ (x y : Int) (W : World), (Op.equalIn 9999 3 (.int .i64 x) (.int .i64 y)).run Tryz.prog W = .ok (x == y) W := fun x y W => run_equalIn_int W 9998 _ .i64 .i64 x y Tryz.underlying3
  have q2 : ∀ (x y : Int) (W : World), (Op.equalIn 9999 60 (.int .i64 x) (.int .i64 y)).run Tryz.prog W = .ok (x == y) W := fun x y W => run_equalIn_int W 9998 _ .i64 .i64 x y Tryz.underlying60
  simp only [Op.eqFields, n0, n1, n2, t0, t1, t2, o0, o1, o2]
  by_cases ha : a = a2
  · by_cases hb : b = b2
    · by_cases hc : c = c2
      · simp [ha, hb, hc, Sem.run_bind, p0, p1, p2, q0, q2, Result.andThen]
      · simp [ha, hb, hc, Sem.run_bind, p0, p1, p2, q0, q2, Result.andThen]
    · simp [ha, hb, Sem.run_bind, p0, p1, q0, Result.andThen]
  · simp [ha, Sem.run_bind, p0, q0, Result.andThen]
/-- Whether something holds is told. -/
def ToldB (P : Prop) (e : Ending) : Prop := ∃ r : Bool, e = .returned (.bool r) ∧ (r = true ↔ P)
set_option maxHeartbeats 4000000 in
theorem sp_equal (a b : Option Addr) (n c n2 c2 : Nat) (l l2 : List Sp) (w : World) (h1 : SpsRd w a n l) (h2 : SpsRd w b n2 l2) (hn : n ≤ maxLen) : Calls Tryz.prog 67 #[.slice a n c, .slice b n2 c2] w fun e w' => ToldB (l = l2) e ∧ Below w.heap.size w w' := by
  unfold maxLen at hn
  by_cases hne : n = n2
  · subst hne
    have H1 : Hid (SpsRd w a n l) := h1
    have H2 : Hid (SpsRd w b n l2) := h2
    have HL : Hid (l.length = n ∧ l2.length = n) := ⟨h1.size, h2.size⟩
    have k0 : ((n : Int) != (n : Int)) = false := by simp
    clear h1 h2
    go_enter Tryz.func67, Tryz.ntmps67
    go_wp2
    go_loopw [13] (fun t13 wr => ∃ i : Nat, t13 = .int .i64 (i : Int) ∧ i ≤ n ∧ Hid (∀ j, j < i → l[j]? = l2[j]?) ∧ Hid (Below w.heap.size w wr)) (fun t13 _ => n - (intOf t13).toNat)
    case atStart => exact ⟨0, rfl, by omega, fun j hj => by omega, Below.refl _ _⟩
    case round =>
      obtain ⟨i, rfl, hi, HE, HB⟩ := hrel
      by_cases hlt : i < n
      · have hlt' : (i : Int) < (n : Int) := by omega
        have g0 : (0 : Int) ≤ (i : Int) := by omega
        obtain ⟨g, o, rfl, hg, q, hq, d0, d1, d2⟩ := (H1.out.below HB.out).at_ i hlt
        obtain ⟨g2, o2, rfl, hg2, q2, hq2, e0, e1, e2⟩ := (H2.out.below HB.out).at_ i hlt
        obtain ⟨qa, qb, qc⟩ := q
        obtain ⟨ra, rb, rc⟩ := q2
        simp only at d0 d1 d2 e0 e1 e2
        have HQ : Hid (l[i]? = some ⟨qa, qb, qc⟩ ∧ l2[i]? = some ⟨ra, rb, rc⟩) := ⟨hq, hq2⟩
        clear hq hq2
        have hgd : ∀ (W : World) (x y : Operand), (eqGuard .neq 62 x y (.agg #[.int .i64 qa, .int .i64 qb, .int .i64 qc]) (.agg #[.int .i64 ra, .int .i64 rb, .int .i64 rc])).run Tryz.prog W = .ok () W := fun W x y => run_eqGuard_agg W .neq _ x y _ _ sp_guard
        by_cases hsp : qa = ra ∧ qb = rb ∧ qc = rc
        · have hnq : ∀ W : World, (binOp .neq 62 (.agg #[.int .i64 qa, .int .i64 qb, .int .i64 qc]) (.agg #[.int .i64 ra, .int .i64 rb, .int .i64 rc])).run Tryz.prog W = .ok (.bool false) W := fun W => by rw [sp_neq, decide_eq_true hsp]; rfl
          have HE2 : Hid (∀ j, j < i + 1 → l[j]? = l2[j]?) := fun j hj => by
            by_cases hji : j = i
            · rw [hji, HQ.out.1, HQ.out.2, hsp.1, hsp.2.1, hsp.2.2]
            · exact HE.out j (by omega)
          clear hsp
          go_upto_region 6 with fail
          go_quiet (fail)
          have HBD : Hid (∀ k, Below w.heap.size w (wr.drewN k)) := fun k => below_drews HB.out k
          go_wp2
          go_roundw
          case rel => exact ⟨i + 1, by go_num, by omega, HE2, HBD.out _⟩
          case measure => simp [intOf]; omega
        · have hnq : ∀ W : World, (binOp .neq 62 (.agg #[.int .i64 qa, .int .i64 qb, .int .i64 qc]) (.agg #[.int .i64 ra, .int .i64 rb, .int .i64 rc])).run Tryz.prog W = .ok (.bool true) W := fun W => by rw [sp_neq, decide_eq_false hsp]; rfl
          have HNE : Hid (l ≠ l2) := fun h => by
            have h1 := HQ.out.1
            rw [h, HQ.out.2] at h1
            have h2 := Option.some.inj h1
            simp only [Sp.mk.injEq] at h2
            exact hsp ⟨h2.1.symm, h2.2.1.symm, h2.2.2.symm⟩
          clear hsp
          go_upto_region 6 with fail
          go_quiet (fail)
          have HBD : Hid (∀ k, Below w.heap.size w (wr.drewN k)) := fun k => below_drews HB.out k
          go_wp2
          go_ret
          exact ⟨⟨false, rfl, ⟨fun h => (by cases h), fun h => absurd h HNE.out⟩⟩, HBD.out _⟩
      · have hnl : ¬ (i : Int) < (n : Int) := by omega
        obtain rfl : i = n := by omega
        have HEQ : Hid (l = l2) := eq_of_at (HL.out.1.trans HL.out.2.symm) fun j hj => HE.out j (by rw [← HL.out.1]; exact hj)
        go_wp2
        go_ret
        exact ⟨⟨true, rfl, ⟨fun _ => HEQ.out, fun _ => rfl⟩⟩, HB.out⟩
  · refine (sp_equal_len a b n c n2 c2 hne w).mono ?_
    rintro e w' ⟨rfl, rfl⟩
    refine ⟨⟨false, rfl, ⟨fun h => (by cases h), fun h => ?_⟩⟩, Below.refl _ _⟩
    exact absurd (h1.size.symm.trans ((congrArg List.length h).trans h2.size)) hne
/-- A world that is as this one below what was there. -/
structure BlwW (w : World) where
  W : World
  ok : Below w.heap.size w W
theorem wp_region_blw {P : Program} {id : Nat} {Q : Exit → Act → World → Prop} {a : Act} {w : World} {l : List Oper} (hm : P.follows .mixedOrders = true) (hB : Region.lexB .any l.toArray = true)
    (h : wpQuiet P l.toArray (fun w' => ∃ p : BlwW w, w' = p.W) (fun a' => ∀ w', (∃ p : BlwW w, w' = p.W) → Q .normal a' w') l a) : (Code.region id l.toArray true).wp P Q a w :=
  wp_region_quiet (C := fun w' => ∃ p : BlwW w, w' = p.W) hm hB ⟨⟨w.drew, (Below.refl _ _).drew⟩, rfl⟩ (by simpa using h)
theorem Calls.blw_of {P : Program} {f : FuncId} {args : Array Value} {w : World} {p : BlwW w} {v : Value} (h : Calls P f args p.W fun e w' => e = .returned v ∧ Below p.W.heap.size p.W w') : Calls P f args p.W fun e w'' => e = .returned v ∧ ∃ q : BlwW w, w'' = q.W :=
  h.mono fun _ w' ⟨he, hb⟩ => ⟨he, ⟨w', p.ok.trans (hb.mono p.ok.size)⟩, rfl⟩
theorem ToldB.yes {P : Prop} {e : Ending} (h : ToldB P e) (hp : P) : e = .returned (.bool true) := by
  obtain ⟨r, rfl, hr⟩ := h
  rw [hr.2 hp]
theorem ToldB.no {P : Prop} {e : Ending} (h : ToldB P e) (hp : ¬ P) : e = .returned (.bool false) := by
  obtain ⟨r, rfl, hr⟩ := h
  cases r with
  | false => rfl
  | true => exact absurd (hr.1 rfl) hp
set_option maxHeartbeats 4000000 in
theorem st_same {w : World} {s m s2 m2 : Nat} {a a2 : Option Addr} {n c n2 c2 : Nat} {l l2 : List Sp} {X X2 : List (Int × Value)} (h : Stm Z w s m a n c l X) (h2 : Stm Z w s2 m2 a2 n2 c2 l2 X2) (hX1 : ∀ p ∈ X, ∃ y, p.2 = mkIt y) (hX2 : ∀ p ∈ X2, ∃ y, p.2 = mkIt y) :
    Calls Tryz.prog 37 #[.pointer (some ⟨s, 0, none⟩), .pointer (some ⟨s2, 0, none⟩)] w fun e w' => ToldB (l = l2 ∧ SameX X X2) e ∧ Below w.heap.size w w' := by
  have HQ : Hid (∀ q : BlwW w, Calls Tryz.prog 67 #[.slice a n c, .slice a2 n2 c2] q.W fun e w' => ToldB (l = l2) e ∧ Below q.W.heap.size q.W w') := fun q => sp_equal a a2 n c n2 c2 l l2 q.W (h.ok.rd.below q.ok) (h2.ok.rd.below q.ok) h.ok.len
  have HF : Hid (∀ q : BlwW w, Calls Tryz.prog 68 #[.map (some m), .map (some m2), .func (.func 66) #[] #[]] q.W fun e w' => ToldB (SameX X X2) e ∧ Below q.W.heap.size q.W w') := fun q => (st_eqFunc (h.stay q.ok).items (h2.stay q.ok).items hX1 hX2).mono fun e w' ⟨b, h1, h2, h3⟩ => ⟨⟨b, h1, h2⟩, h3⟩
  have c0 : ∀ q : BlwW w, q.W.cell? ⟨s, 0, none⟩ = some (.slice a n c) := fun q => (h.stay q.ok).blk.cell 0 rfl
  have d0 : ∀ q : BlwW w, q.W.cell? ⟨s2, 0, none⟩ = some (.slice a2 n2 c2) := fun q => (h2.stay q.ok).blk.cell 0 rfl
  have c1 : ∀ q : BlwW w, q.W.cell? ⟨s, 1, none⟩ = some (.map (some m)) := fun q => (h.stay q.ok).blk.cell 1 rfl
  have d1 : ∀ q : BlwW w, q.W.cell? ⟨s2, 1, none⟩ = some (.map (some m2)) := fun q => (h2.stay q.ok).blk.cell 1 rfl
  have HFA : Hid (SameX X X2 → ∀ q : BlwW w, Calls Tryz.prog 68 #[.map (some m), .map (some m2), .func (.func 66) #[] #[]] q.W fun e w' => e = .returned (.bool true) ∧ Below q.W.heap.size q.W w') := fun hp q => (HF.out q).mono fun e w' h => ⟨h.1.yes hp, h.2⟩
  have HFB : Hid (¬ SameX X X2 → ∀ q : BlwW w, Calls Tryz.prog 68 #[.map (some m), .map (some m2), .func (.func 66) #[] #[]] q.W fun e w' => e = .returned (.bool false) ∧ Below q.W.heap.size q.W w') := fun hp q => (HF.out q).mono fun e w' h => ⟨h.1.no hp, h.2⟩
  clear h h2 HF hX1 hX2
  have hne : Nonempty (BlwW w) := ⟨⟨w, Below.refl _ _⟩⟩
  by_cases hl : l = l2
  · have HQ1 : Hid (∀ q : BlwW w, Calls Tryz.prog 67 #[.slice a n c, .slice a2 n2 c2] q.W fun e w' => e = .returned (.bool true) ∧ Below q.W.heap.size q.W w') := fun q => (HQ.out q).mono fun e w' h => ⟨h.1.yes hl, h.2⟩
    by_cases hx : SameX X X2
    · have HF1 : Hid (∀ q : BlwW w, Calls Tryz.prog 68 #[.map (some m), .map (some m2), .func (.func 66) #[] #[]] q.W fun e w' => e = .returned (.bool true) ∧ Below q.W.heap.size q.W w') := HFA.out hx
      have HT : Hid (ToldB (l = l2 ∧ SameX X X2) (.returned (.bool true))) := ⟨true, rfl, ⟨fun _ => ⟨hl, hx⟩, fun _ => rfl⟩⟩
      clear HQ HFA HFB hl hx
      go_enter Tryz.func37, Tryz.ntmps37
      go_upto_region 2 with fail
      refine wp_region_blw (by kernel_rfl) (by kernel_rfl) ?_
      repeat (go_big_quiet_step (first
        | (go_at_call 67; exact Calls.blw_of (HQ1.out _))
        | (go_at_call 68; exact Calls.blw_of (HF1.out _))))
      refine wpQuiet_nil ?_
      intro _ hw'
      obtain ⟨p, hw''⟩ := hw'
      subst hw''
      go_wp2
      go_ret
      exact ⟨HT.out, p.ok⟩
    · have HF1 : Hid (∀ q : BlwW w, Calls Tryz.prog 68 #[.map (some m), .map (some m2), .func (.func 66) #[] #[]] q.W fun e w' => e = .returned (.bool false) ∧ Below q.W.heap.size q.W w') := HFB.out hx
      have HT : Hid (ToldB (l = l2 ∧ SameX X X2) (.returned (.bool false))) := ⟨false, rfl, ⟨fun h => (by cases h), fun h => absurd h.2 hx⟩⟩
      clear HQ HFA HFB hl hx
      go_enter Tryz.func37, Tryz.ntmps37
      go_upto_region 2 with fail
      refine wp_region_blw (by kernel_rfl) (by kernel_rfl) ?_
      repeat (go_big_quiet_step (first
        | (go_at_call 67; exact Calls.blw_of (HQ1.out _))
        | (go_at_call 68; exact Calls.blw_of (HF1.out _))))
      refine wpQuiet_nil ?_
      intro _ hw'
      obtain ⟨p, hw''⟩ := hw'
      subst hw''
      go_wp2
      go_ret
      exact ⟨HT.out, p.ok⟩
  · have HQ1 : Hid (∀ q : BlwW w, Calls Tryz.prog 67 #[.slice a n c, .slice a2 n2 c2] q.W fun e w' => e = .returned (.bool false) ∧ Below q.W.heap.size q.W w') := fun q => (HQ.out q).mono fun e w' h => ⟨h.1.no hl, h.2⟩
    have HT : Hid (ToldB (l = l2 ∧ SameX X X2) (.returned (.bool false))) := ⟨false, rfl, ⟨fun h => (by cases h), fun h => absurd h.1 hl⟩⟩
    clear HQ HFA HFB hl
    go_enter Tryz.func37, Tryz.ntmps37
    go_upto_region 2 with fail
    refine wp_region_blw (by kernel_rfl) (by kernel_rfl) ?_
    repeat (go_big_quiet_step (first
      | (go_at_call 67; exact Calls.blw_of (HQ1.out _))))
    refine wpQuiet_nil ?_
    intro _ hw'
    obtain ⟨p, hw''⟩ := hw'
    subst hw''
    go_wp2
    go_ret
    exact ⟨HT.out, p.ok⟩
end Go.Proofs.YtidihfhgnjkmaaaGreat
/- join by what is known; items one behind the other; when streams are alike. -/
namespace Go.Proofs.YtidihfhgnjkmaaaGreat
set_option maxRecDepth 100000
open Go.RowKit Go.Maps Go.Sort Go.Shelf
variable {Z : Nat → Prop}

theorem getX_filter (P : Int → Bool) : ∀ (X : List (Int × Value)) (t : Int), getX (X.filter fun p => P p.1) t = if P t = true then getX X t else none
  | [], t => by
    by_cases h : P t = true
    · rw [if_pos h]; rfl
    · rw [if_neg h]; rfl
  | y :: r, t => by
    rw [List.filter_cons]
    by_cases hy : P y.1 = true
    · rw [if_pos hy, getX, getX, getX_filter P r t]
      by_cases ht : y.1 = t
      · rw [if_pos ht, if_pos ht, if_pos (ht ▸ hy)]
      · rw [if_neg ht, if_neg ht]
    · rw [if_neg hy, getX_filter P r t, getX]
      by_cases ht : y.1 = t
      · rw [if_pos ht, if_neg (ht ▸ hy), if_neg (ht ▸ hy)]
      · rw [if_neg ht]
/-- What is kept where no more is known than that there is an item. -/
def onlyI (K : Int → Int) (I : Int → Option It) (t : Int) : Option It := if K t = 1 then I t else none
theorem str_join {w : World} {s m : Nat} {l : List Sp} {I : Int → Option It} (h : Str Z w s m l I) {T : List Int} (hT : ∀ t, (I t).isSome = true → t ∈ T) (hTl : T.length ≤ 1000) {b : Option Addr} {nb cb : Nat} {l2 : List Sp} (h2 : MapOk w b nb cb l2) (hd : ∀ t, atS l2 t ≠ 1) :
    Calls Tryz.prog 34 #[.pointer (some ⟨s, 0, none⟩), .slice b nb cb] w fun e w' => e = .returned (.tuple #[]) ∧ (∃ l', Str Z w' s m l' (onlyI (fun t => max (atS l t) (atS l2 t)) I) ∧ ∀ t, atS l' t = max (atS l t) (atS l2 t)) ∧ Two s m w w' := by
  obtain ⟨a, n, c, X, hs⟩ := h
  have hX := hs.few hT
  refine (st_join hs.stm (by omega) h2).mono ?_
  rintro e w' ⟨rfl, a', n', c', l', k1, k2, k3⟩
  refine ⟨rfl, ⟨l', ⟨a', n', c', _, k1, fun t => ?_, fun t => ?_⟩, k2⟩, k3⟩
  · unfold onlyI
    by_cases h1 : max (atS l t) (atS l2 t) = 1
    · rw [if_pos h1]
      refine ((hs.its t).two hs.stm k3).of_get ?_
      rw [getX_filter (fun u => decide (atS l' u = 1)), if_pos (by rw [k2 t, h1]; rfl)]
    · rw [if_neg h1]
      show getX _ t = none
      rw [getX_filter (fun u => decide (atS l' u = 1)), if_neg (by rw [k2 t]; simpa using h1)]
  · unfold onlyI
    rw [k2 t]
    by_cases h1 : max (atS l t) (atS l2 t) = 1
    · rw [if_pos h1]
      have := hd t
      have hr := (atS_range hs.stm.ok.right t).1
      have hr2 := (atS_range h2.right t).1
      have : atS l t = 1 := by omega
      exact ⟨fun _ => (hs.data t).1 this, fun _ => h1⟩
    · rw [if_neg h1]
      exact ⟨fun h => absurd h h1, fun h => by cases h⟩
/-- Items, one behind the other. -/
def steps (K : Int → Int) (I : Int → Option It) : List It → (Int → Int) × (Int → Option It)
  | [] => (K, I)
  | q :: r => steps (keepK K q) (keepI K I q) r
theorem steps_snoc : ∀ (L : List It) (K : Int → Int) (I : Int → Option It) (q : It), steps K I (L ++ [q]) = (keepK (steps K I L).1 q, keepI (steps K I L).1 (steps K I L).2 q)
  | [], _, _, _ => rfl
  | _ :: L, _, _, q => steps_snoc L _ _ q
theorem keepI_in {K : Int → Int} {I : Int → Option It} {q : It} {T : List Int} (hI : ∀ t, (I t).isSome = true → t ∈ T) (hq : q.tick ∈ T) : ∀ t, (keepI K I q t).isSome = true → t ∈ T := by
  intro t ht
  by_cases h : t = q.tick
  · rw [h]; exact hq
  · rw [keepI_other h] at ht
    exact hI t ht
theorem steps_in {T : List Int} : ∀ (L : List It) (K : Int → Int) (I : Int → Option It), (∀ t, (I t).isSome = true → t ∈ T) → (∀ q ∈ L, q.tick ∈ T) → ∀ t, ((steps K I L).2 t).isSome = true → t ∈ T
  | [], _, _, hI, _ => hI
  | q :: L, _, _, hI, hL => steps_in L _ _ (keepI_in hI (hL q (List.mem_cons_self ..))) fun p hp => hL p (List.mem_cons_of_mem _ hp)
theorem onlyI_in {K : Int → Int} {I : Int → Option It} {T : List Int} (hI : ∀ t, (I t).isSome = true → t ∈ T) : ∀ t, (onlyI K I t).isSome = true → t ∈ T := by
  intro t ht
  unfold onlyI at ht
  split at ht
  · exact hI t ht
  · cases ht
/-- What a parcel makes of a stream. -/
def learnK (K : Int → Int) (I : Int → Option It) (p : Pc) : Int → Int := (steps (fun t => max (K t) (atS p.spans t)) (onlyI (fun t => max (K t) (atS p.spans t)) I) p.items).1
def learnI (K : Int → Int) (I : Int → Option It) (p : Pc) : Int → Option It := (steps (fun t => max (K t) (atS p.spans t)) (onlyI (fun t => max (K t) (atS p.spans t)) I) p.items).2
/-- Each value is an item. -/
theorem Strm.items_ {w : World} {s m : Nat} {l : List Sp} {I : Int → Option It} {a : Option Addr} {n c : Nat} {X : List (Int × Value)} (h : Strm Z w s m l I a n c X) : ∀ p ∈ X, ∃ y, p.2 = mkIt y := by
  intro p hp
  have hg := mem_get h.stm.rise hp
  have hi := h.its p.1
  cases ho : I p.1 with
  | none =>
    rw [ho] at hi
    have hi : getX X p.1 = none := hi
    rw [hg] at hi
    cases hi
  | some q =>
    rw [ho] at hi
    obtain ⟨_, _, _, ba, bc, h4, _⟩ := hi
    rw [hg] at h4
    exact ⟨(p.1, q.for_, ba, q.body.length, bc), Option.some.inj h4⟩
def forI (I : Int → Option It) (t : Int) : Option Int := (I t).map fun q => q.for_
theorem Strm.forV {w : World} {s m : Nat} {l : List Sp} {I : Int → Option It} {a : Option Addr} {n c : Nat} {X : List (Int × Value)} (h : Strm Z w s m l I a n c X) (t : Int) : (getX X t).map Go.Proofs.YtidihfhgnjkmaaaGreat.forV = forI I t := by
  have hi := h.its t
  unfold forI
  cases ho : I t with
  | none =>
    rw [ho] at hi
    have hi : getX X t = none := hi
    rw [hi]; rfl
  | some q =>
    rw [ho] at hi
    obtain ⟨_, _, _, ba, bc, h4, _⟩ := hi
    rw [h4]; rfl
theorem keys_sub {X X2 : List (Int × Value)} (hX : RiseX X) (h : ∀ t v, getX X t = some v → ∃ v2, getX X2 t = some v2) : X.length ≤ X2.length := by
  have hn : (X.map Prod.fst).Nodup := by
    rw [List.nodup_iff_pairwise_ne, List.pairwise_map]
    exact List.Pairwise.imp (fun hh => by omega) hX
  have := len_sub (X.map Prod.fst) (X2.map Prod.fst) hn fun t ht => by
    obtain ⟨p, hp, rfl⟩ := List.mem_map.1 ht
    obtain ⟨v2, hv⟩ := h _ _ (mem_get hX hp)
    exact List.mem_map.2 ⟨_, get_mem hv, rfl⟩
  rwa [List.length_map, List.length_map] at this
/-- Streams whose items are for the same are alike. -/
theorem same_of {w w2 : World} {s m s2 m2 : Nat} {l l2 : List Sp} {I I2 : Int → Option It} {a a2 : Option Addr} {n c n2 c2 : Nat} {X X2 : List (Int × Value)} (h : Strm Z w s m l I a n c X) (h2 : Strm Z w2 s2 m2 l2 I2 a2 n2 c2 X2) (hf : ∀ t, forI I t = forI I2 t) : SameX X X2 := by
  have hx : ∀ t, (getX X t).map Go.Proofs.YtidihfhgnjkmaaaGreat.forV = (getX X2 t).map Go.Proofs.YtidihfhgnjkmaaaGreat.forV := fun t => by rw [h.forV, h2.forV, hf]
  have h1 : ∀ t v, getX X t = some v → ∃ v2, getX X2 t = some v2 ∧ Go.Proofs.YtidihfhgnjkmaaaGreat.forV v = Go.Proofs.YtidihfhgnjkmaaaGreat.forV v2 := fun t v hv => by
    have := hx t
    rw [hv] at this
    cases hg : getX X2 t with
    | none => rw [hg] at this; cases this
    | some v2 => rw [hg] at this; exact ⟨v2, rfl, Option.some.inj this⟩
  have h3 : ∀ t v, getX X2 t = some v → ∃ v2, getX X t = some v2 := fun t v hv => by
    have := hx t
    rw [hv] at this
    cases hg : getX X t with
    | none => rw [hg] at this; cases this
    | some v2 => exact ⟨v2, rfl⟩
  exact ⟨Nat.le_antisymm (keys_sub h.stm.rise fun t v hv => let ⟨v2, k, _⟩ := h1 t v hv; ⟨v2, k⟩) (keys_sub h2.stm.rise h3), h1⟩
end Go.Proofs.YtidihfhgnjkmaaaGreat
/- Stream.Learn of a Tell that may be. -/
namespace Go.Proofs.YtidihfhgnjkmaaaGreat
set_option maxRecDepth 100000
open Go.RowKit Go.Maps Go.Sort Go.Shelf
variable {Z : Nat → Prop}

/-- A Tell that may be: what Check has seen. -/
structure TellOk (p : Pc) : Prop where
  kind : p.kind = 1
  chk : chk p = 0
  right : RightS Sp.zr p.spans
  quiet : ∀ t, atS p.spans t ≠ 1
  each : ∀ q ∈ p.items, (1 ≤ q.tick ∧ q.tick ≤ 1099511627776) ∧ (0 ≤ q.for_ ∧ q.for_ ≤ 4294967295) ∧ q.body.length ≤ 400
/-- What Learn tells. -/
def LearnTold (Z : Nat → Prop) (s m : Nat) (l : List Sp) (I : Int → Option It) (p : Pc) (w : World) (e : Ending) (w' : World) : Prop := (∃ r : Bool, e = .returned (.tuple #[.bool r, .int .i64 0]) ∧ ((∀ t, learnK (atS l) I p t = atS l t) → (∀ t, forI (learnI (atS l) I p) t = forI I t) → r = false)) ∧ (∃ l', Str Z w' s m l' (learnI (atS l) I p) ∧ ∀ t, atS l' t = learnK (atS l) I p t) ∧ Two s m w w'
theorem str_keep {w : World} {s m : Nat} {K : Int → Int} {I : Int → Option It} {l : List Sp} (h : Str Z w s m l I) (hK : ∀ t, atS l t = K t) {T : List Int} (hT : ∀ t, (I t).isSome = true → t ∈ T) (hTl : T.length ≤ 1000) {q : It} {ba : Option Addr} {bl bc : Nat} (ht : 1 ≤ q.tick ∧ q.tick ≤ 1099511627776) (hf : 0 ≤ q.for_ ∧ q.for_ ≤ 4294967295) (hq : q.body.length ≤ 400) (hb : Rd w ba bl q.body) :
    Calls Tryz.prog 35 #[.pointer (some ⟨s, 0, none⟩), .agg #[.int .i64 q.tick, .int .u32 q.for_, .slice ba bl bc]] w fun e w' => e = .returned (.tuple #[]) ∧ (∃ l', Str Z w' s m l' (keepI K I q) ∧ ∀ u, atS l' u = keepK K q u) ∧ Two s m w w' := by
  obtain rfl : atS l = K := funext hK
  exact st_keep h hT hTl ht hf hq hb
set_option maxHeartbeats 8000000 in
theorem st_Learn {w : World} {s m : Nat} {l : List Sp} {I : Int → Option It} (h : Str Z w s m l I) {T : List Int} (hT : ∀ t, (I t).isSome = true → t ∈ T) (hTl : T.length ≤ 64) {p : Pc} (hp : TellOk p) (hpT : ∀ q ∈ p.items, q.tick ∈ T) {sa : Option Addr} {sn sc : Nat} {ia : Option Addr} {im ic : Nat} (hr : PcRd w p sa sn sc ia im ic) :
    Calls Tryz.prog 12 #[.pointer (some ⟨s, 0, none⟩), p.val sa sn sc ia im ic] w fun e w' => LearnTold Z s m l I p w e w' := by
  have HSTR : Hid (Str Z w s m l I) := h
  obtain ⟨a0, n0, c0, X0, hs0⟩ := h
  have hsl := hs0.stm.blk.lt
  have hml := hs0.stm.items.lt
  have HT : Hid (∀ t, (I t).isSome = true → t ∈ T) := hT
  have HTL : Hid (T.length ≤ 64) := hTl
  have HPT : Hid (∀ q ∈ p.items, q.tick ∈ T) := hpT
  have HE : Hid (∀ q ∈ p.items, (1 ≤ q.tick ∧ q.tick ≤ 1099511627776) ∧ (0 ≤ q.for_ ∧ q.for_ ≤ 4294967295) ∧ q.body.length ≤ 400) := hp.each
  have HRT : Hid (RightS Sp.zr p.spans ∧ ∀ t, atS p.spans t ≠ 1) := ⟨hp.right, hp.quiet⟩
  have hkind := hp.kind
  have HCH : Hid (chk p = 0) := hp.chk
  have HLT : Hid (∀ e w', LearnTold Z s m l I p w e w' ↔ LearnTold Z s m l I p w e w') := fun _ _ => Iff.rfl
  obtain ⟨PL, HPL⟩ : ∃ PL, Hid (PL = p) := ⟨_, rfl⟩
  have HPR : Hid (PcRd w p sa sn sc ia im ic) := hr
  clear hT hTl hpT hr hp
  obtain ⟨pk, pp, ps, pn, pf, pt, pl, pi⟩ := p
  simp only at hkind
  subst hkind
  obtain ⟨W1, HW1⟩ : ∃ W1, Hid (W1 = w.alloc (.cells #[.int .i64 1, .int .i64 pp, .int .i64 ps, .int .i64 pn, .int .i64 pf, .int .i64 pt, .slice sa sn sc, .slice ia im ic] 33)) := ⟨_, rfl⟩
  have HX1 : Hid (Below w.heap.size w W1) := by (show Below _ _ _); rw [HW1.out]; exact below_alloc w _
  have HK1 : Hid (Bk W1 w.heap.size #[.int .i64 1, .int .i64 pp, .int .i64 ps, .int .i64 pn, .int .i64 pf, .int .i64 pt, .slice sa sn sc, .slice ia im ic] 33) := by (show Bk _ _ _ _); rw [HW1.out]; exact Bk.new w _ _
  have HS1 : Hid (Strm Z W1 s m l I a0 n0 c0 X0) := hs0.stay HX1.out
  have HP1 : Hid (PcRd W1 ⟨1, pp, ps, pn, pf, pt, pl, pi⟩ sa sn sc ia im ic) := HPR.out.below HX1.out
  have HCK : Hid (Calls Tryz.prog 13 #[.agg #[.int .i64 1, .int .i64 pp, .int .i64 ps, .int .i64 pn, .int .i64 pf, .int .i64 pt, .slice sa sn sc, .slice ia im ic]] W1 fun e w' => e = .returned (.int .i64 0) ∧ Below W1.heap.size W1 w') := by
    have := pc_Check ⟨1, pp, ps, pn, pf, pt, pl, pi⟩ sa sn sc ia im ic W1 HP1.out
    rw [HCH.out] at this
    exact this
  have k0 : W1.cell? ⟨w.heap.size, 0, none⟩ = some (.int .i64 1) := HK1.out.cell 0 rfl
  have k1 : W1.cell? ⟨w.heap.size, 1, none⟩ = some (.int .i64 pp) := HK1.out.cell 1 rfl
  have k2 : W1.cell? ⟨w.heap.size, 2, none⟩ = some (.int .i64 ps) := HK1.out.cell 2 rfl
  have k3 : W1.cell? ⟨w.heap.size, 3, none⟩ = some (.int .i64 pn) := HK1.out.cell 3 rfl
  have k4 : W1.cell? ⟨w.heap.size, 4, none⟩ = some (.int .i64 pf) := HK1.out.cell 4 rfl
  have k5 : W1.cell? ⟨w.heap.size, 5, none⟩ = some (.int .i64 pt) := HK1.out.cell 5 rfl
  have k6 : W1.cell? ⟨w.heap.size, 6, none⟩ = some (.slice sa sn sc) := HK1.out.cell 6 rfl
  have k7 : W1.cell? ⟨w.heap.size, 7, none⟩ = some (.slice ia im ic) := HK1.out.cell 7 rfl
  have himl : im ≤ 9223372036854775807 := Nat.le_trans HPR.out.il (Nat.le_trans HPR.out.im_ (by decide))
  have HIM : Hid (pi.length = im) := HPR.out.items.size
  clear hs0 HPR HSTR
  unfold Pc.val
  simp only
  go_enter Tryz.func12, Tryz.ntmps12
  go_upto_region 3 with fail
  rw [← HW1.out]
  go_wp2_with fail
  refine HCK.out.mono ?_
  rintro e w2 ⟨rfl, hb2⟩
  have HK2 : Hid (Bk w2 w.heap.size #[.int .i64 1, .int .i64 pp, .int .i64 ps, .int .i64 pn, .int .i64 pf, .int .i64 pt, .slice sa sn sc, .slice ia im ic] 33) := HK1.out.stay hb2
  have HS2 : Hid (Strm Z w2 s m l I a0 n0 c0 X0) := HS1.out.stay hb2
  have HP2 : Hid (PcRd w2 ⟨1, pp, ps, pn, pf, pt, pl, pi⟩ sa sn sc ia im ic) := HP1.out.below hb2
  have HX2 : Hid (Below w.heap.size w w2) := HX1.out.trans (hb2.mono HX1.out.size)
  have q0 : w2.cell? ⟨w.heap.size, 0, none⟩ = some (.int .i64 1) := HK2.out.cell 0 rfl
  clear hb2 k0 k1 k2 k3 k4 k5 k6 k7 HK1 HS1 HP1 HX1 HCK HW1
  go_wp2_with fail
  refine (st_Fork HS2.out.stm).mono ?_
  rintro e w3 ⟨s2, m2, rfl, hs3, ⟨z1, z2⟩, hb3⟩
  have hszw := HX2.out.size
  have HF3 : Hid (Stm Z w3 s2 m2 a0 n0 c0 l X0) := hs3
  have HK3 : Hid (Bk w3 w.heap.size #[.int .i64 1, .int .i64 pp, .int .i64 ps, .int .i64 pn, .int .i64 pf, .int .i64 pt, .slice sa sn sc, .slice ia im ic] 33) := HK2.out.stay hb3
  have HS3 : Hid (Strm Z w3 s m l I a0 n0 c0 X0) := HS2.out.stay hb3
  have HP3 : Hid (PcRd w3 ⟨1, pp, ps, pn, pf, pt, pl, pi⟩ sa sn sc ia im ic) := HP2.out.below hb3
  have HX3 : Hid (Below w.heap.size w w3) := HX2.out.trans (hb3.mono HX2.out.size)
  have q6 : w3.cell? ⟨w.heap.size, 6, none⟩ = some (.slice sa sn sc) := HK3.out.cell 6 rfl
  have HAP : Hid (∀ ad, a0 = some ad → ad.block ≠ s ∧ ad.block ≠ m) := fun ad e => ⟨(HS2.out.stm.apart ad e).2.1, (HS2.out.stm.apart ad e).2.2.1⟩
  clear hs3 hb3 HK2 HS2 HP2 HX2 q0
  go_wp2_with fail
  refine (str_join ⟨a0, n0, c0, X0, HS3.out⟩ HT.out (Nat.le_trans HTL.out (by omega)) (b := sa) (nb := sn) (cb := sc) (l2 := pl) ⟨HP3.out.spans, HP3.out.sl, HP3.out.sm, HRT.out.1⟩ HRT.out.2).mono ?_
  rintro e w4 ⟨rfl, ⟨l4, hs4, ht4⟩, hb4⟩
  have HS4 : Hid (Str Z w4 s m l4 (steps (fun t => max (atS l t) (atS pl t)) (onlyI (fun t => max (atS l t) (atS pl t)) I) (pi.take 0)).2) := hs4
  have HL4 : Hid (∀ t, atS l4 t = (steps (fun t => max (atS l t) (atS pl t)) (onlyI (fun t => max (atS l t) (atS pl t)) I) (pi.take 0)).1 t) := ht4
  have HK4 : Hid (Bk w4 w.heap.size #[.int .i64 1, .int .i64 pp, .int .i64 ps, .int .i64 pn, .int .i64 pf, .int .i64 pt, .slice sa sn sc, .slice ia im ic] 33) := Two.bk HK3.out hb4 (by omega) (by omega)
  have HF4 : Hid (Stm Z w4 s2 m2 a0 n0 c0 l X0) := HF3.out.two hb4 (by omega) (by omega) (by omega) (by omega) HAP.out
  have HI4 : Hid (ItsRd w4 ia im pi) := ItsRd.two HS3.out.stm HP3.out.items hb4
  have HT4 : Hid (Two s m w w4) := (Two.of_below s m HX3.out).trans hb4
  have HO3 : Hid (Strm Z w3 s m l I a0 n0 c0 X0) := HS3.out
  have q7 : w4.cell? ⟨w.heap.size, 7, none⟩ = some (.slice ia im ic) := HK4.out.cell 7 rfl
  clear hs4 ht4 hb4 HF3 HK3 HS3 HP3 HX3 q6
  go_wp2
  go_loopw [29] (fun t29 wr => ∃ (i : Nat) (li : List Sp), t29 = .int .i64 (i : Int) ∧ i ≤ im ∧ Hid (Str Z wr s m li (steps (fun t => max (atS l t) (atS pl t)) (onlyI (fun t => max (atS l t) (atS pl t)) I) (pi.take i)).2) ∧ Hid (∀ t, atS li t = (steps (fun t => max (atS l t) (atS pl t)) (onlyI (fun t => max (atS l t) (atS pl t)) I) (pi.take i)).1 t) ∧ Hid (Stm Z wr s2 m2 a0 n0 c0 l X0) ∧ Hid (ItsRd wr ia im pi) ∧ Hid (Two s m w wr)) (fun t29 _ => im - (intOf t29).toNat)
  case atStart => exact ⟨0, l4, rfl, by omega, HS4, HL4, HF4, HI4, HT4⟩
  case round =>
    obtain ⟨i, li, rfl, hi, HSI, HLI, HFI, HII, HTI⟩ := hrel
    clear HS4 HL4 HF4 HI4 HT4 HK4 q7
    by_cases hlt : i < im
    · have hlt' : (i : Int) < (im : Int) := by omega
      have gi : (0 : Int) ≤ (i : Int) := by omega
      obtain ⟨g, o, rfl, hg, q, hq, d0, d1, ba, bl, bc, d2, hrd, hb0, hlc, hcm⟩ := HII.out.at_ i hlt
      have HQ : Hid (pi[i]? = some q) := hq
      have hqm : q ∈ pi := List.mem_of_getElem? hq
      have HEQ := HE.out q hqm
      have HRD : Hid (Rd wr ba bl q.body) := hrd
      have HTK : Hid (pi.take (i + 1) = pi.take i ++ [q]) := by
        (show _ = _)
        have hil : i < pi.length := by rw [HIM.out]; exact hlt
        rw [List.take_succ_eq_append_getElem hil]
        have := List.getElem?_eq_getElem hil
        rw [this] at hq
        rw [Option.some.inj hq]
      have HKP : Hid (∀ W, Below wr.heap.size wr W → Calls Tryz.prog 35 #[.pointer (some ⟨s, 0, none⟩), .agg #[.int .i64 q.tick, .int .u32 q.for_, .slice ba bl bc]] W fun e w' => e = .returned (.tuple #[]) ∧ (∃ l', Str Z w' s m l' (keepI (steps (fun t => max (atS l t) (atS pl t)) (onlyI (fun t => max (atS l t) (atS pl t)) I) (pi.take i)).1 (steps (fun t => max (atS l t) (atS pl t)) (onlyI (fun t => max (atS l t) (atS pl t)) I) (pi.take i)).2 q) ∧ ∀ u, atS l' u = keepK (steps (fun t => max (atS l t) (atS pl t)) (onlyI (fun t => max (atS l t) (atS pl t)) I) (pi.take i)).1 q u) ∧ Two s m W w') := fun W hW => str_keep (HSI.out.stay hW) HLI.out (steps_in _ _ _ (onlyI_in HT.out) (fun x hx => HPT.out x (List.mem_of_mem_take hx))) (Nat.le_trans HTL.out (by omega)) HEQ.1 HEQ.2.1 HEQ.2.2 (HRD.out.below hW)
      obtain ⟨qt, qf, qb⟩ := q
      simp only at d0 d1 HKP
      have HBX : Hid (Below wr.heap.size wr (wr.alloc (.cells #[.int .i64 qt, .int .u32 qf, .slice ba bl bc] 54))) := below_alloc wr _
      clear hrd hb0 hlc hcm hq hqm HEQ HRD
      go_wp2_with fail
      refine (HKP.out _ HBX.out).mono ?_
      rintro e w5 ⟨rfl, ⟨l5, hs5, ht5⟩, hb5⟩
      have HT5 : Hid (Two s m wr w5) := (Two.of_below s m HBX.out).trans hb5
      have HS5 : Hid (Str Z w5 s m l5 (steps (fun t => max (atS l t) (atS pl t)) (onlyI (fun t => max (atS l t) (atS pl t)) I) (pi.take (i + 1))).2) := by (show Str Z _ _ _ _ _); rw [HTK.out, steps_snoc]; exact hs5
      have HL5 : Hid (∀ t, atS l5 t = (steps (fun t => max (atS l t) (atS pl t)) (onlyI (fun t => max (atS l t) (atS pl t)) I) (pi.take (i + 1))).1 t) := by (show ∀ _, _); rw [HTK.out, steps_snoc]; exact ht5
      have HF5 : Hid (Stm Z w5 s2 m2 a0 n0 c0 l X0) := HFI.out.two HT5.out (by omega) (by omega) (by omega) (by omega) HAP.out
      have HI5 : Hid (ItsRd w5 (some ⟨g, o, none⟩) im pi) := by
        obtain ⟨a9, n9, c9, X9, h9⟩ := HSI.out
        exact ItsRd.two h9.stm HII.out HT5.out
      clear hs5 ht5 hb5 d0 d1 d2 HKP
      go_wp2
      go_roundw
      case rel => exact ⟨i + 1, l5, by go_num, by omega, HS5, HL5, HF5, HI5, HTI.out.trans HT5.out⟩
      case measure => simp [intOf]; omega
    · have hnl : ¬ (i : Int) < (im : Int) := by omega
      obtain rfl : i = im := by omega
      have hfin := HSI.out
      have hlfin := HLI.out
      rw [← HIM.out, List.take_length] at hfin hlfin
      obtain ⟨a5, n5, c5, X5, hs5⟩ := hfin
      have HS5 : Hid (Strm Z wr s m li (steps (fun t => max (atS l t) (atS pl t)) (onlyI (fun t => max (atS l t) (atS pl t)) I) pi).2 a5 n5 c5 X5) := hs5
      have HLF : Hid (∀ t, atS li t = (steps (fun t => max (atS l t) (atS pl t)) (onlyI (fun t => max (atS l t) (atS pl t)) I) pi).1 t) := hlfin
      have HX5 : Hid (X5.length ≤ 64) := Nat.le_trans (hs5.few (steps_in _ _ _ (onlyI_in HT.out) HPT.out)) HTL.out
      clear hs5 hlfin HSI HLI HII
      go_wp2_with fail
      refine (st_forget_0 HS5.out.stm HX5.out).mono ?_
      rintro e w6 ⟨rfl, hb6⟩
      have HS6 : Hid (Strm Z w6 s m li (steps (fun t => max (atS l t) (atS pl t)) (onlyI (fun t => max (atS l t) (atS pl t)) I) pi).2 a5 n5 c5 X5) := HS5.out.stay hb6
      have HF6 : Hid (Stm Z w6 s2 m2 a0 n0 c0 l X0) := HFI.out.stay hb6
      have HB6 : Hid (Below wr.heap.size wr w6) := hb6
      clear hb6 HS5 HFI
      go_wp2_with fail
      refine (st_same HS6.out.stm HF6.out HS6.out.items_ HO3.out.items_).mono ?_
      rintro e w7 ⟨⟨r, rfl, hr⟩, hb7⟩
      have HR : Hid (r = true ↔ li = l ∧ SameX X5 X0) := hr
      have HB7 : Hid (Below wr.heap.size wr w7) := HB6.out.trans (hb7.mono HB6.out.size)
      have HS7 : Hid (Strm Z w7 s m li (steps (fun t => max (atS l t) (atS pl t)) (onlyI (fun t => max (atS l t) (atS pl t)) I) pi).2 a5 n5 c5 X5) := HS6.out.stay hb7
      clear hb7 hr HS6
      go_wp2
      go_ret2
      refine ⟨⟨!r, rfl, fun hk hf => ?_⟩, ⟨li, ⟨a5, n5, c5, X5, HS7.out⟩, HLF.out⟩, HTI.out.trans (Two.of_below s m HB7.out)⟩
      have hli : li = l := canonS li l _ _ HS7.out.stm.ok.right HO3.out.stm.ok.right fun t => (HLF.out t).trans (hk t)
      rw [HR.out.2 ⟨hli, same_of HS7.out HO3.out hf⟩]
      rfl
end Go.Proofs.YtidihfhgnjkmaaaGreat
/- Streams as lists: L what is Silence or Lost, X the items by rising ticks. -/
namespace Go.Proofs.YtidihfhgnjkmaaaGreat

def getI : List It → Int → Option It
  | [], _ => none
  | q :: X, t => if q.tick = t then some q else getI X t
def RiseIt (X : List It) : Prop := X.Pairwise fun a b => a.tick < b.tick
theorem getI_tick : ∀ {X : List It} {t : Int} {q : It}, getI X t = some q → q.tick = t ∧ q ∈ X
  | [], _, _, h => by cases h
  | x :: X, t, q, h => by
    rw [getI] at h
    split at h
    · cases h; exact ⟨by assumption, List.mem_cons_self ..⟩
    · have := getI_tick h; exact ⟨this.1, List.mem_cons_of_mem _ this.2⟩
theorem getI_none : ∀ {X : List It} {t : Int}, (∀ q ∈ X, q.tick ≠ t) → getI X t = none
  | [], _, _ => rfl
  | x :: X, t, h => by rw [getI, if_neg (h x (List.mem_cons_self ..))]; exact getI_none fun q hq => h q (List.mem_cons_of_mem _ hq)
theorem getI_mem : ∀ {X : List It}, RiseIt X → ∀ {q : It}, q ∈ X → getI X q.tick = some q
  | [], _, _, h => by cases h
  | x :: X, hr, q, h => by
    obtain ⟨h1, h2⟩ := List.pairwise_cons.1 hr
    rw [getI]
    rcases List.mem_cons.1 h with rfl | h
    · rw [if_pos rfl]
    · rw [if_neg (by have := h1 q h; omega)]; exact getI_mem h2 h
theorem getI_filter (P : Int → Bool) : ∀ (X : List It) (t : Int), getI (X.filter fun q => P q.tick) t = if P t = true then getI X t else none
  | [], t => by simp [getI]
  | q :: X, t => by
    rw [List.filter_cons]
    by_cases hp : P q.tick = true
    · rw [if_pos hp, getI, getI, getI_filter P X t]
      by_cases e : q.tick = t
      · rw [if_pos e, if_pos e, if_pos (e ▸ hp)]
      · rw [if_neg e, if_neg e]
    · rw [if_neg hp, getI_filter P X t, getI]
      by_cases e : q.tick = t
      · rw [if_neg (e ▸ hp), if_neg (e ▸ hp)]
      · rw [if_neg e]
/-- What is known of a tick. -/
def kk (L : List Sp) (X : List It) (t : Int) : Int := if (getI X t).isSome = true then 1 else atS L t
/-- A stream that may be. -/
structure Kn (L : List Sp) (X : List It) : Prop where
  right : RightS Sp.zr L
  quiet : ∀ t, atS L t ≠ 1
  rise : RiseIt X
  off : ∀ q ∈ X, atS L q.tick = 0
  each : ∀ q ∈ X, (1 ≤ q.tick ∧ q.tick ≤ 1099511627776) ∧ (0 ≤ q.for_ ∧ q.for_ ≤ 4294967295) ∧ q.body.length ≤ 400
theorem Kn.nil_ : Kn [] [] := ⟨trivial, fun t => by show (0 : Int) ≠ 1; omega, List.Pairwise.nil, fun _ h => (by cases h), fun _ h => (by cases h)⟩
theorem kk_zero (L : List Sp) (X : List It) (t : Int) : kk L X t = 0 ↔ getI X t = none ∧ atS L t = 0 := by
  unfold kk
  cases hg : getI X t with
  | none => simp
  | some q => simp
theorem Kn.sub {L : List Sp} {X Y : List It} (h : Kn L X) (hs : Y.Sublist X) : Kn L Y := ⟨h.right, h.quiet, h.rise.sublist hs, fun q hq => h.off q (hs.subset hq), fun q hq => h.each q (hs.subset hq)⟩
/-- One item more. -/
def keepX (L : List Sp) (y : It) : List It → List It
  | [] => if atS L y.tick = 0 then [y] else []
  | q :: X => if q.tick < y.tick then q :: keepX L y X else if q.tick = y.tick then ⟨q.tick, orI q.for_ y.for_, q.body⟩ :: X else if atS L y.tick = 0 then y :: q :: X else q :: X
theorem keepX_mem (L : List Sp) (y : It) : ∀ (X : List It), ∀ q ∈ keepX L y X, (q = y ∧ atS L y.tick = 0) ∨ q ∈ X ∨ ∃ x ∈ X, x.tick = y.tick ∧ q = ⟨x.tick, orI x.for_ y.for_, x.body⟩
  | [], q, h => by
    rw [keepX] at h
    split at h
    · exact .inl ⟨List.mem_singleton.1 h, by assumption⟩
    · cases h
  | x :: X, q, h => by
    rw [keepX] at h
    split at h
    · rcases List.mem_cons.1 h with rfl | h
      · exact .inr (.inl (List.mem_cons_self ..))
      · rcases keepX_mem L y X q h with h | h | ⟨z, hz, h⟩
        · exact .inl h
        · exact .inr (.inl (List.mem_cons_of_mem _ h))
        · exact .inr (.inr ⟨z, List.mem_cons_of_mem _ hz, h⟩)
    · split at h
      · rcases List.mem_cons.1 h with rfl | h
        · exact .inr (.inr ⟨x, List.mem_cons_self .., by assumption, rfl⟩)
        · exact .inr (.inl (List.mem_cons_of_mem _ h))
      · split at h
        · rcases List.mem_cons.1 h with rfl | h
          · exact .inl ⟨rfl, by assumption⟩
          · exact .inr (.inl h)
        · exact .inr (.inl h)
theorem keepX_ticks (L : List Sp) (y : It) (X : List It) : ∀ q ∈ keepX L y X, q.tick = y.tick ∨ ∃ x ∈ X, x.tick = q.tick := by
  intro q hq
  rcases keepX_mem L y X q hq with ⟨rfl, _⟩ | h | ⟨x, _, h1, rfl⟩
  · exact .inl rfl
  · exact .inr ⟨q, h, rfl⟩
  · exact .inl h1
theorem keepX_rise (L : List Sp) (y : It) : ∀ (X : List It), RiseIt X → RiseIt (keepX L y X)
  | [], _ => by
    rw [keepX]
    split
    · exact List.pairwise_singleton _ _
    · exact List.Pairwise.nil
  | x :: X, h => by
    obtain ⟨h1, h2⟩ := List.pairwise_cons.1 h
    rw [keepX]
    split
    · refine List.pairwise_cons.2 ⟨fun q hq => ?_, keepX_rise L y X h2⟩
      rcases keepX_ticks L y X q hq with e | ⟨z, hz, e⟩
      · omega
      · have := h1 z hz; omega
    · split
      · exact List.pairwise_cons.2 ⟨h1, h2⟩
      · split
        · refine List.pairwise_cons.2 ⟨fun q hq => ?_, h⟩
          rcases List.mem_cons.1 hq with rfl | hq
          · omega
          · have := h1 q hq; omega
        · exact h
theorem keepX_get (L : List Sp) (y : It) : ∀ (X : List It), RiseIt X → ∀ t, getI (keepX L y X) t = if t = y.tick then (match getI X t with | some r => some ⟨r.tick, orI r.for_ y.for_, r.body⟩ | none => if atS L t = 0 then some y else none) else getI X t
  | [], _, t => by
    rw [keepX]
    by_cases e : t = y.tick
    · subst e
      rw [if_pos rfl]
      show _ = if _ then _ else _
      split
      · rw [getI, if_pos rfl]
      · rfl
    · rw [if_neg e]
      split
      · show (if y.tick = t then some y else getI [] t) = getI [] t
        rw [if_neg (Ne.symm e)]
      · rfl
  | x :: X, h, t => by
    obtain ⟨h1, h2⟩ := List.pairwise_cons.1 h
    rw [keepX]
    by_cases c1 : x.tick < y.tick
    · rw [if_pos c1, getI, getI, keepX_get L y X h2 t]
      by_cases e : x.tick = t
      · rw [if_pos e, if_pos e, if_neg (by omega)]
      · rw [if_neg e, if_neg e]
    · rw [if_neg c1]
      by_cases c2 : x.tick = y.tick
      · rw [if_pos c2, getI, getI]
        by_cases e : x.tick = t
        · rw [if_pos e, if_pos e, if_pos (by omega)]
        · rw [if_neg e, if_neg e, if_neg (by omega)]
      · rw [if_neg c2]
        have hn : getI (x :: X) y.tick = none := getI_none fun q hq => by
          rcases List.mem_cons.1 hq with rfl | hq
          · exact c2
          · have := h1 q hq; omega
        by_cases e : t = y.tick
        · subst e
          rw [if_pos rfl, hn]
          show _ = if _ then _ else _
          split
          · rw [getI, if_pos rfl]
          · exact hn
        · rw [if_neg e]
          split
          · rw [getI, if_neg (Ne.symm e)]
          · rfl
theorem Kn.keep {L : List Sp} {X : List It} (h : Kn L X) {y : It} (hy : (1 ≤ y.tick ∧ y.tick ≤ 1099511627776) ∧ (0 ≤ y.for_ ∧ y.for_ ≤ 4294967295) ∧ y.body.length ≤ 400) : Kn L (keepX L y X) := by
  refine ⟨h.right, h.quiet, keepX_rise L y X h.rise, fun q hq => ?_, fun q hq => ?_⟩
  · rcases keepX_mem L y X q hq with ⟨rfl, h0⟩ | hx | ⟨x, hx, _, rfl⟩
    · exact h0
    · exact h.off q hx
    · exact h.off x hx
  · rcases keepX_mem L y X q hq with ⟨rfl, _⟩ | hx | ⟨x, hx, _, rfl⟩
    · exact hy
    · exact h.each q hx
    · have := h.each x hx
      exact ⟨this.1, orI_range this.2.1 hy.2.1, this.2.2⟩
theorem keep_I {L : List Sp} {X : List It} (h : Kn L X) (y : It) : keepI (kk L X) (getI X) y = getI (keepX L y X) := by
  funext t
  rw [keepX_get L y X h.rise t]
  unfold keepI
  by_cases e : t = y.tick
  · rw [if_pos e, if_pos e]
    cases hg : getI X t with
    | none =>
      have : kk L X t = atS L t := by unfold kk; rw [hg]; rfl
      rw [this]
      rfl
    | some r =>
      have : kk L X t = 1 := by unfold kk; rw [hg]; rfl
      rw [this, if_neg (by decide)]
      rfl
  · rw [if_neg e, if_neg e]
theorem keep_K {L : List Sp} {X : List It} (h : Kn L X) (y : It) : keepK (kk L X) y = kk L (keepX L y X) := by
  funext t
  have hq := h.quiet t
  have hr := atS_range h.right t
  unfold keepK kk
  rw [keepX_get L y X h.rise t]
  by_cases e : t = y.tick
  · rw [if_pos e, if_pos e]
    cases hg : getI X t with
    | none =>
      simp only [Option.isSome_none, Bool.false_eq_true, if_false]
      by_cases h0 : atS L t = 0
      · rw [if_pos h0, h0]; rfl
      · rw [if_neg h0]
        simp only [Option.isSome_none, Bool.false_eq_true, if_false]
        omega
    | some r => simp
  · rw [if_neg e, if_neg e]
/-- Items, one behind the other. -/
def keepsX (L : List Sp) (X : List It) (ys : List It) : List It := ys.foldl (fun X y => keepX L y X) X
theorem keepX_len (L : List Sp) (y : It) : ∀ X : List It, (keepX L y X).length ≤ X.length + 1
  | [] => by
    rw [keepX]
    split <;> simp
  | x :: X => by
    rw [keepX]
    split
    · have := keepX_len L y X; simp only [List.length_cons]; omega
    · split
      · simp
      · split <;> simp
theorem keeps_ok : ∀ (ys : List It) {L : List Sp} {X : List It}, Kn L X → (∀ y ∈ ys, (1 ≤ y.tick ∧ y.tick ≤ 1099511627776) ∧ (0 ≤ y.for_ ∧ y.for_ ≤ 4294967295) ∧ y.body.length ≤ 400) → Kn L (keepsX L X ys) ∧ steps (kk L X) (getI X) ys = (kk L (keepsX L X ys), getI (keepsX L X ys)) ∧ (keepsX L X ys).length ≤ X.length + ys.length
  | [], L, X, h, _ => ⟨h, rfl, Nat.le_refl _⟩
  | y :: ys, L, X, h, hy => by
    have hy0 := hy y (List.mem_cons_self ..)
    obtain ⟨a, b, c⟩ := keeps_ok ys (h.keep hy0) fun z hz => hy z (List.mem_cons_of_mem _ hz)
    refine ⟨a, ?_, ?_⟩
    · rw [steps, keep_K h, keep_I h]
      exact b
    · have := keepX_len L y X
      rw [List.length_cons]
      have e : keepsX L X (y :: ys) = keepsX L (keepX L y X) ys := rfl
      rw [e]
      omega
/-- Items whose ticks are Silence or Lost are gone. -/
def quietX (L : List Sp) (X : List It) : List It := X.filter fun q => decide (atS L q.tick = 0)
/-- A list that knows what two do. -/
structure Joins (L P L1 : List Sp) : Prop where
  right : RightS Sp.zr L1
  at_ : ∀ t, atS L1 t = max (atS L t) (atS P t)
theorem Kn.join {L P L1 : List Sp} {X : List It} (h : Kn L X) (hP : RightS Sp.zr P) (hq : ∀ t, atS P t ≠ 1) (hj : Joins L P L1) : Kn L1 (quietX L1 X) ∧ (fun t => max (kk L X t) (atS P t)) = kk L1 (quietX L1 X) ∧ onlyI (fun t => max (kk L X t) (atS P t)) (getI X) = getI (quietX L1 X) := by
  have hg : ∀ t, getI (quietX L1 X) t = if decide (atS L1 t = 0) = true then getI X t else none := getI_filter (fun t => decide (atS L1 t = 0)) X
  have hoff : ∀ t q, getI X t = some q → atS L t = 0 := fun t q hq => by
    have := getI_tick hq
    rw [← this.1]
    exact h.off q this.2
  refine ⟨⟨hj.right, fun t => ?_, h.rise.filter _, fun q hq => ?_, fun q hq => h.each q (List.mem_filter.1 hq).1⟩, funext fun t => ?_, funext fun t => ?_⟩
  · rw [hj.at_ t]
    have := h.quiet t; have := hq t
    have := atS_range h.right t; have := atS_range hP t
    omega
  · exact of_decide_eq_true (List.mem_filter.1 hq).2
  · have hp := atS_range hP t
    have hp1 := hq t
    have ha := hj.at_ t
    show max (kk L X t) (atS P t) = kk L1 (quietX L1 X) t
    unfold kk
    rw [hg t]
    cases hx : getI X t with
    | none =>
      simp only [ite_self, Option.isSome_none, Bool.false_eq_true, if_false]
      rw [ha]
    | some q =>
      have h0 := hoff t q hx
      rw [h0] at ha
      by_cases hz : atS P t = 0
      · have hz1 : atS L1 t = 0 := by omega
        rw [if_pos (decide_eq_true hz1), hz]
        rfl
      · have hz1 : atS L1 t = atS P t := by omega
        have e : (if decide (atS L1 t = 0) = true then some q else none) = none := if_neg (by simp; omega)
        rw [e]
        show max 1 (atS P t) = atS L1 t
        omega
  · have hp := atS_range hP t
    have hp1 := hq t
    have ha := hj.at_ t
    rw [hg t]
    unfold onlyI kk
    cases hx : getI X t with
    | none => simp
    | some q =>
      have h0 := hoff t q hx
      rw [h0] at ha
      show (if max (if (getI X t).isSome = true then 1 else atS L t) (atS P t) = 1 then some q else none) = _
      rw [hx]
      show (if max 1 (atS P t) = 1 then some q else none) = _
      by_cases hz : atS P t = 0
      · have hz1 : atS L1 t = 0 := by omega
        rw [if_pos (by omega), if_pos (decide_eq_true hz1)]
      · have hz1 : atS L1 t = atS P t := by omega
        rw [if_neg (by omega), if_neg (by simp; omega)]
/-- What a parcel makes of the items. -/
def learnX (L1 : List Sp) (X : List It) (p : Pc) : List It :=
  let Y := keepsX L1 (quietX L1 X) p.items
  Y.drop (Y.length - 64)
end Go.Proofs.YtidihfhgnjkmaaaGreat
/- In which order parcels are learnt plays no part: plain mathematics. -/
namespace Go.Proofs.YtidihfhgnjkmaaaGreat

/-- What an item at a tick makes known. -/
def hasI (L : List It) (t : Int) : Int := if L.any (fun q => decide (q.tick = t)) = true then 1 else 0
/-- For whom the items of a tick are. -/
def forL (L : List It) (t : Int) : Nat := L.foldl (fun a q => if q.tick = t then a ||| q.for_.toNat else a) 0
def kOf (p : Pc) (t : Int) : Int := max (atS p.spans t) (hasI p.items t)
theorem hasI_cons (q : It) (L : List It) (t : Int) : hasI (q :: L) t = if q.tick = t then 1 else hasI L t := by
  unfold hasI
  rw [List.any_cons]
  by_cases h : q.tick = t
  · rw [if_pos h, decide_eq_true h, Bool.true_or, if_pos rfl]
  · rw [if_neg h, decide_eq_false h, Bool.false_or]
theorem hasI_range (L : List It) (t : Int) : 0 ≤ hasI L t ∧ hasI L t ≤ 1 := by
  unfold hasI
  split <;> omega
theorem steps_K : ∀ (L : List It) (K : Int → Int) (I : Int → Option It), (∀ t, 0 ≤ K t) → ∀ t, (steps K I L).1 t = max (K t) (hasI L t)
  | [], K, _, hK, t => by
    show K t = max (K t) 0
    have := hK t
    omega
  | q :: L, K, I, hK, t => by
    have hK' : ∀ u, 0 ≤ keepK K q u := fun u => by
      have := hK u
      unfold keepK
      split <;> omega
    show (steps (keepK K q) (keepI K I q) L).1 t = _
    rw [steps_K L _ _ hK' t, hasI_cons]
    have hr := hasI_range L t
    unfold keepK
    by_cases h : t = q.tick
    · rw [if_pos h, if_pos h.symm]; omega
    · rw [if_neg h, if_neg (Ne.symm h)]
/-- Items, by what is known, for whom they are, and what a tick's item says. -/
structure InvI (bod : Int → List Nat) (K : Int → Int) (I : Int → Option It) (F : Int → Nat) : Prop where
  pos : ∀ t, 0 ≤ K t
  its : ∀ t, I t = if K t = 1 then some ⟨t, (F t : Int), bod t⟩ else none
  zero : ∀ t, K t = 0 → F t = 0
theorem InvI.only {bod : Int → List Nat} {K : Int → Int} {I : Int → Option It} {F : Int → Nat} (h : InvI bod K I F) {S : Int → Int} (hS : ∀ t, S t ≠ 1) : InvI bod (fun t => max (K t) (S t)) (onlyI (fun t => max (K t) (S t)) I) F := by
  refine ⟨fun t => by have := h.pos t; show 0 ≤ max (K t) (S t); omega, fun t => ?_, fun t ht => h.zero t (by have := h.pos t; have ht : max (K t) (S t) = 0 := ht; omega)⟩
  unfold onlyI
  by_cases h1 : max (K t) (S t) = 1
  · have hk : K t = 1 := by have := hS t; have := h.pos t; omega
    rw [if_pos h1, if_pos h1, h.its t, if_pos hk]
  · rw [if_neg h1, if_neg h1]
def keepF (F : Int → Nat) (q : It) (t : Int) : Nat := if q.tick = t then F t ||| q.for_.toNat else F t
theorem InvI.keep {bod : Int → List Nat} {K : Int → Int} {I : Int → Option It} {F : Int → Nat} (h : InvI bod K I F) {q : It} (hb : q.body = bod q.tick) (hf : 0 ≤ q.for_) : InvI bod (keepK K q) (keepI K I q) (keepF F q) := by
  refine ⟨fun t => ?_, fun t => ?_, fun t ht => ?_⟩
  · have := h.pos t
    unfold keepK
    split <;> omega
  · unfold keepK keepI keepF
    by_cases ht : t = q.tick
    · subst ht
      rw [if_pos rfl, if_pos rfl, if_pos rfl]
      have hp := h.pos q.tick
      by_cases h0 : K q.tick = 0
      · rw [if_pos h0, h0, if_pos (by decide), h.zero _ h0, Nat.zero_or]
        obtain ⟨a, b, c⟩ := q
        simp only at hb hf
        rw [← hb]
        simp only [Option.some.injEq, It.mk.injEq, true_and, and_true]
        omega
      · rw [if_neg h0, h.its]
        by_cases h1 : K q.tick = 1
        · rw [if_pos h1, h1, if_pos (by decide)]
          rfl
        · rw [if_neg h1, if_neg (by omega)]
          rfl
    · rw [if_neg ht, if_neg ht, if_neg (Ne.symm ht)]
      exact h.its t
  · unfold keepK at ht
    unfold keepF
    have hp := h.pos t
    by_cases h1 : t = q.tick
    · rw [if_pos h1] at ht
      omega
    · rw [if_neg h1] at ht
      rw [if_neg (Ne.symm h1)]
      exact h.zero t ht
theorem foldF : ∀ (L : List It) (t : Int) (a : Nat), L.foldl (fun a q => if q.tick = t then a ||| q.for_.toNat else a) a = a ||| forL L t
  | [], t, a => by show a = a ||| 0; rw [Nat.or_zero]
  | q :: L, t, a => by
    unfold forL
    rw [List.foldl_cons, List.foldl_cons]
    by_cases h : q.tick = t
    · rw [if_pos h, if_pos h, foldF L t, foldF L t, Nat.zero_or, Nat.or_assoc]
    · rw [if_neg h, if_neg h, foldF L t, foldF L t, Nat.zero_or]
theorem steps_inv {bod : Int → List Nat} : ∀ (L : List It) {K : Int → Int} {I : Int → Option It} {F : Int → Nat}, InvI bod K I F → (∀ q ∈ L, q.body = bod q.tick ∧ 0 ≤ q.for_) → InvI bod (steps K I L).1 (steps K I L).2 (fun t => F t ||| forL L t)
  | [], _, _, F, h, _ => by
    have e : (fun t => F t ||| forL [] t) = F := funext fun t => Nat.or_zero _
    rw [e]
    exact h
  | q :: L, K, I, F, h, hL => by
    have hq := hL q (List.mem_cons_self ..)
    have := steps_inv L (h.keep hq.1 hq.2) fun p hp => hL p (List.mem_cons_of_mem _ hp)
    have e : (fun t => keepF F q t ||| forL L t) = fun t => F t ||| forL (q :: L) t := funext fun t => by
      unfold keepF forL
      rw [List.foldl_cons]
      by_cases h1 : q.tick = t
      · rw [if_pos h1, if_pos h1, foldF L t (0 ||| _), Nat.zero_or, Nat.or_assoc]
        rfl
      · rw [if_neg h1, if_neg h1]
    rw [e] at this
    exact this
/-- A parcel more. -/
theorem learn_inv {bod : Int → List Nat} {K : Int → Int} {I : Int → Option It} {F : Int → Nat} (h : InvI bod K I F) {p : Pc} (hp : TellOk p) (hb : ∀ q ∈ p.items, q.body = bod q.tick) : InvI bod (learnK K I p) (learnI K I p) (fun t => F t ||| forL p.items t) ∧ ∀ t, learnK K I p t = max (K t) (kOf p t) := by
  have h1 := h.only hp.quiet
  refine ⟨steps_inv p.items h1 fun q hq => ⟨hb q hq, (hp.each q hq).2.1.1⟩, fun t => ?_⟩
  unfold learnK kOf
  rw [steps_K _ _ _ h1.pos t]
  omega
/-- What parcels make known, and for whom they have items. -/
def supK : List Pc → Int → Int
  | [], _ => 0
  | p :: r, t => max (kOf p t) (supK r t)
def supF : List Pc → Int → Nat
  | [], _ => 0
  | p :: r, t => forL p.items t ||| supF r t
theorem supK_le : ∀ (P : List Pc) (t k : Int), 0 < k → (k ≤ supK P t ↔ ∃ p ∈ P, k ≤ kOf p t)
  | [], t, k, hk => by
    show k ≤ 0 ↔ _
    simp
    omega
  | p :: r, t, k, hk => by
    show k ≤ max (kOf p t) (supK r t) ↔ _
    have ih := supK_le r t k hk
    constructor
    · intro h
      by_cases h1 : k ≤ kOf p t
      · exact ⟨p, List.mem_cons_self .., h1⟩
      · obtain ⟨q, hq, h2⟩ := ih.1 (by omega)
        exact ⟨q, List.mem_cons_of_mem _ hq, h2⟩
    · rintro ⟨q, hq, h2⟩
      rcases List.mem_cons.1 hq with rfl | hq
      · omega
      · have := ih.2 ⟨q, hq, h2⟩
        omega
theorem supK_pos : ∀ (P : List Pc) (t : Int), 0 ≤ supK P t
  | [], _ => Int.le_refl _
  | p :: r, t => by
    show 0 ≤ max (kOf p t) (supK r t)
    have := supK_pos r t
    omega
theorem supF_bit : ∀ (P : List Pc) (t : Int) (i : Nat), (supF P t).testBit i = true ↔ ∃ p ∈ P, (forL p.items t).testBit i = true
  | [], t, i => by simp [supF]
  | p :: r, t, i => by
    show ((forL p.items t ||| supF r t).testBit i = true) ↔ _
    rw [Nat.testBit_or, Bool.or_eq_true, supF_bit r t i]
    constructor
    · rintro (h | ⟨q, hq, h⟩)
      · exact ⟨p, List.mem_cons_self .., h⟩
      · exact ⟨q, List.mem_cons_of_mem _ hq, h⟩
    · rintro ⟨q, hq, h⟩
      rcases List.mem_cons.1 hq with rfl | hq
      · exact .inl h
      · exact .inr ⟨q, hq, h⟩
/-- Which parcels there are is all. -/
theorem supK_same {P Q : List Pc} (h : ∀ p, p ∈ P ↔ p ∈ Q) (t : Int) : supK P t = supK Q t := by
  have h1 : ∀ k, 0 < k → (k ≤ supK P t ↔ k ≤ supK Q t) := fun k hk => by
    rw [supK_le P t k hk, supK_le Q t k hk]
    exact ⟨fun ⟨p, hp, h2⟩ => ⟨p, (h p).1 hp, h2⟩, fun ⟨p, hp, h2⟩ => ⟨p, (h p).2 hp, h2⟩⟩
  have hp := supK_pos P t
  have hq := supK_pos Q t
  by_cases a : supK P t = 0
  · by_cases b : supK Q t = 0
    · omega
    · have := (h1 (supK Q t) (by omega)).2 (Int.le_refl _)
      omega
  · have c := (h1 (supK P t) (by omega)).1 (Int.le_refl _)
    have d := (h1 (supK Q t) (by omega)).2 (Int.le_refl _)
    omega
theorem supF_same {P Q : List Pc} (h : ∀ p, p ∈ P ↔ p ∈ Q) (t : Int) : supF P t = supF Q t := by
  refine Nat.eq_of_testBit_eq fun i => ?_
  rw [Bool.eq_iff_iff, supF_bit P t i, supF_bit Q t i]
  exact ⟨fun ⟨p, hp, h2⟩ => ⟨p, (h p).1 hp, h2⟩, fun ⟨p, hp, h2⟩ => ⟨p, (h p).2 hp, h2⟩⟩
/-- A stream that has learnt these parcels, in whatever order. -/
structure Learnt (bod : Int → List Nat) (P : List Pc) (K : Int → Int) (I : Int → Option It) : Prop where
  inv : InvI bod K I (supF P)
  know : ∀ t, K t = supK P t
theorem Learnt.none_ (bod : Int → List Nat) : Learnt bod [] (fun _ => 0) (fun _ => none) := ⟨⟨fun _ => Int.le_refl _, fun t => by rw [if_neg (by decide)], fun _ _ => rfl⟩, fun _ => rfl⟩
theorem Learnt.more {bod : Int → List Nat} {P : List Pc} {K : Int → Int} {I : Int → Option It} (h : Learnt bod P K I) {p : Pc} (hp : TellOk p) (hb : ∀ q ∈ p.items, q.body = bod q.tick) : Learnt bod (p :: P) (learnK K I p) (learnI K I p) := by
  obtain ⟨h1, h2⟩ := learn_inv h.inv hp hb
  have e : (fun t => supF P t ||| forL p.items t) = supF (p :: P) := funext fun t => Nat.or_comm _ _
  rw [e] at h1
  refine ⟨h1, fun t => ?_⟩
  rw [h2 t, h.know t]
  show max _ _ = max (kOf p t) (supK P t)
  omega
/-- Two streams that have learnt the same know the same. -/
theorem Learnt.same {bod : Int → List Nat} {P Q : List Pc} {K K2 : Int → Int} {I I2 : Int → Option It} (h : Learnt bod P K I) (h2 : Learnt bod Q K2 I2) (hm : ∀ p, p ∈ P ↔ p ∈ Q) : (∀ t, K t = K2 t) ∧ ∀ t, I t = I2 t := by
  have hk : ∀ t, K t = K2 t := fun t => by rw [h.know, h2.know, supK_same hm]
  refine ⟨hk, fun t => ?_⟩
  rw [h.inv.its, h2.inv.its, hk, supF_same hm]
/-- What has been learnt already changes nothing. -/
theorem Learnt.again {bod : Int → List Nat} {P : List Pc} {K : Int → Int} {I : Int → Option It} (h : Learnt bod P K I) {p : Pc} (hp : TellOk p) (hb : ∀ q ∈ p.items, q.body = bod q.tick) (hm : p ∈ P) : (∀ t, learnK K I p t = K t) ∧ ∀ t, learnI K I p t = I t :=
  (h.more hp hb).same h fun _ => ⟨fun hq => (List.mem_cons.1 hq).elim (fun e => e ▸ hm) id, fun hq => List.mem_cons_of_mem _ hq⟩
end Go.Proofs.YtidihfhgnjkmaaaGreat
/- Tells that may be; their bodies turned. -/
namespace Go.Proofs.YtidihfhgnjkmaaaGreat

theorem atS_no1 : ∀ (l : List Sp), (∀ s ∈ l, s.is ≠ 1) → ∀ t, atS l t ≠ 1
  | [], _, _ => by show (0 : Int) ≠ 1; omega
  | s :: l, h, t => by
    rw [atS]
    split
    · exact h s (List.mem_cons_self ..)
    · exact atS_no1 l (fun x hx => h x (List.mem_cons_of_mem _ hx)) t
theorem itE_each {p : Pc} : ∀ (L : List It) (least : Int), itE p least L = 0 → ∀ q ∈ L, (least ≤ q.tick ∧ q.tick ≤ p.to_) ∧ q.body.length ≤ 400
  | [], _, _, q, hq => by cases hq
  | x :: L, least, h, q, hq => by
    by_cases h1 : x.tick < least ∨ p.to_ < x.tick ∨ atS p.spans x.tick ≠ 0
    · rw [itE_tick h1] at h; cases h
    · by_cases h2 : 400 < x.body.length
      · rw [itE_long h1 h2] at h; cases h
      · rw [itE_next h1 h2] at h
        rcases List.mem_cons.1 hq with rfl | hq
        · exact ⟨⟨by omega, by omega⟩, by omega⟩
        · have := itE_each L (x.tick + 1) h q hq
          exact ⟨⟨by omega, this.1.2⟩, this.2⟩
/-- What a Tell that may be is. -/
theorem chk_tell {p : Pc} (hk : p.kind = 1) (hc : chk p = 0) : numB p false true true = true ∧ ¬ (32 < p.spans.length ∨ 8 < p.items.length) ∧ spB p = true ∧ itE p p.fr p.items = 0 := by
  have h1 : isB p.kind = true := by rw [hk]; rfl
  have e1 : subB p.kind = false := by rw [hk]; rfl
  have e2 : fromB p.kind = true := by rw [hk]; rfl
  have e3 : toB p.kind = true := by rw [hk]; rfl
  have e4 : newsB p.kind = true := by rw [hk]; rfl
  have h2 : numB p (subB p.kind) (fromB p.kind) (toB p.kind) = true := by
    cases hx : numB p (subB p.kind) (fromB p.kind) (toB p.kind) with
    | true => rfl
    | false => rw [chk_arg h1 hx] at hc; cases hc
  have h4 : ¬ (32 < p.spans.length ∨ 8 < p.items.length) := fun h => by rw [chk_many h1 h2 e4 h] at hc; cases hc
  have h5 : spB p = true := by
    cases hx : spB p with
    | true => rfl
    | false => rw [chk_form h1 h2 e4 h4 hx] at hc; cases hc
  rw [chk_items h1 h2 e4 h4 h5] at hc
  rw [e1, e2, e3] at h2
  exact ⟨h2, h4, h5, hc⟩
theorem tellOk_of {p : Pc} (hk : p.kind = 1) (hc : chk p = 0) (hf : ∀ q ∈ p.items, 0 ≤ q.for_ ∧ q.for_ ≤ 4294967295) : TellOk p := by
  obtain ⟨h2, h4, h5, h6⟩ := chk_tell hk hc
  have hr := num_to h2
  unfold rngB at hr
  simp only [decide_eq_true_eq] at hr
  unfold spB at h5
  rw [Bool.and_eq_true] at h5
  refine ⟨hk, hc, (rightB_iff _ _).1 h5.2, atS_no1 _ fun s hs => ?_, fun q hq => ?_⟩
  · have := List.all_eq_true.1 h5.1 s hs
    unfold inB at this
    simp only [decide_eq_true_eq] at this
    omega
  · have := itE_each _ _ h6 q hq
    exact ⟨by omega, hf q hq, this.2⟩
/-- What an item of a tick says. -/
def bod (t : Int) : List Nat := [(t % 256).toNat, (t / 256 % 256).toNat]
def turnI (q : It) : It := ⟨q.tick, q.for_, bod q.tick⟩
def turnP (p : Pc) : Pc := ⟨p.kind, p.pub, p.sub, p.n_, p.fr, p.to_, p.spans, p.items.map turnI⟩
theorem itE_turn {p : Pc} : ∀ (L : List It) (least : Int), itE p least L = 0 → itE (turnP p) least (L.map turnI) = 0
  | [], _, h => h
  | x :: L, least, h => by
    by_cases h1 : x.tick < least ∨ p.to_ < x.tick ∨ atS p.spans x.tick ≠ 0
    · rw [itE_tick h1] at h; cases h
    · by_cases h2 : 400 < x.body.length
      · rw [itE_long h1 h2] at h; cases h
      · rw [itE_next h1 h2] at h
        rw [List.map_cons, itE_next (p := turnP p) (q := turnI x) h1 (by show ¬ 400 < 2; omega)]
        exact itE_turn L (x.tick + 1) h
theorem turn_chk {p : Pc} (hk : p.kind = 1) (hc : chk p = 0) : chk (turnP p) = 0 := by
  obtain ⟨h2, h4, h5, h6⟩ := chk_tell hk hc
  have h1 : isB (turnP p).kind = true := by show isB p.kind = true; rw [hk]; rfl
  have e4 : newsB (turnP p).kind = true := by show newsB p.kind = true; rw [hk]; rfl
  have h2' : numB (turnP p) (subB (turnP p).kind) (fromB (turnP p).kind) (toB (turnP p).kind) = true := by
    show numB p (subB p.kind) (fromB p.kind) (toB p.kind) = true
    rw [hk]
    exact h2
  have h4' : ¬ (32 < (turnP p).spans.length ∨ 8 < (turnP p).items.length) := by
    show ¬ (32 < p.spans.length ∨ 8 < (p.items.map turnI).length)
    rw [List.length_map]
    exact h4
  rw [chk_items h1 h2' e4 h4' h5]
  exact itE_turn p.items p.fr h6
theorem turn_ok {p : Pc} (hk : p.kind = 1) (hc : chk p = 0) (hf : ∀ q ∈ p.items, 0 ≤ q.for_ ∧ q.for_ ≤ 4294967295) : TellOk (turnP p) ∧ ∀ q ∈ (turnP p).items, q.body = bod q.tick := by
  refine ⟨tellOk_of hk (turn_chk hk hc) fun q hq => ?_, fun q hq => ?_⟩
  · obtain ⟨x, hx, rfl⟩ := List.mem_map.1 hq
    exact hf x hx
  · obtain ⟨x, hx, rfl⟩ := List.mem_map.1 hq
    rfl
end Go.Proofs.YtidihfhgnjkmaaaGreat
/- Stream.Map, Stream.Item. -/
namespace Go.Proofs.YtidihfhgnjkmaaaGreat
set_option maxRecDepth 100000
open Go.RowKit Go.Maps Go.Sort Go.Shelf
variable {Z : Nat → Prop}

set_option maxHeartbeats 2000000 in
theorem sp_Clone (a : Option Addr) (n c : Nat) (l : List Sp) (w : World) (h : MapOk w a n c l) (hl : n ≤ 2000000000000) : Calls Tryz.prog 44 #[.slice a n c] w fun e w' => (∃ a' n' c', e = .returned (.slice a' n' c') ∧ MapOk w' a' n' c' l) ∧ Below w.heap.size w w' := by
  have HM : Hid (MapOk w a n c l) := h
  cases a with
  | none =>
    have hz : l = [] := by
      rcases h.rd.cells with h0 | ⟨_, _, h, _⟩
      · exact h0
      · cases h
    have hn : n = 0 := by have := h.rd.size; rw [hz] at this; exact this.symm
    subst hn
    have hq : ∀ W : World, (binOp .eql 30 (.slice none 0 c) (.slice none 0 0)).run Tryz.prog W = .ok (.bool true) W := fun W => by
      simp only [binOp]
      rw [Sem.run_bind, run_equal_slice_nil W _ _ _ _ _ Tryz.underlying30]
      rfl
    have HZ : Hid (l = []) := hz
    clear h hz
    go_enter Tryz.func44, Tryz.ntmps44
    go_wp2
    go_ret
    exact ⟨⟨none, 0, 0, rfl, ⟨⟨by rw [HZ.out]; rfl, .inl HZ.out⟩, Nat.le_refl _, Nat.zero_le _, HM.out.right⟩⟩, Below.refl _ _⟩
  | some ad =>
    have hq : ∀ W : World, (binOp .eql 30 (.slice (some ad) n c) (.slice none 0 0)).run Tryz.prog W = .ok (.bool false) W := fun W => by
      simp only [binOp]
      rw [Sem.run_bind, run_equal_slice_nil W _ _ _ _ _ Tryz.underlying30]
      rfl
    clear h
    go_enter Tryz.func44, Tryz.ntmps44
    go_wp2_with (at_builtin; refine wpList_append_sps rfl (.tmp 5) (.tmp 6) rfl w.heap.size _ [] rfl (Sps.empty w) (some ad) n c l rfl (HM.out.rd.below (below_alloc w _)) (fun h => by cases h) (by simp; omega) (by simp) ?_; intro v5 w5 hs5 hg5)
    have HS5 : Hid (Sps w5 w.heap.size v5 l) := by (show Sps _ _ _ _); simpa using hs5
    have HB5 : Hid (Below w.heap.size w w5) := (below_alloc w (.cells #[] 62)).grown hg5 (by simp) (fun k hk => by cases hk; exact Nat.le_refl _)
    clear hs5 hg5
    obtain ⟨av, nv, cv, rfl, hok⟩ := HS5.out.ok HM.out.right
    have HOK : Hid (MapOk w5 av nv cv l) := hok
    clear hok
    go_wp2
    go_ret
    exact ⟨⟨av, nv, cv, rfl, HOK.out⟩, HB5.out⟩
theorem st_Map {w : World} {s m : Nat} {a : Option Addr} {n c : Nat} {l : List Sp} {X : List (Int × Value)} (h : Stm Z w s m a n c l X) (hn : l.length ≤ 2000000000000) : Calls Tryz.prog 18 #[.pointer (some ⟨s, 0, none⟩)] w fun e w' => (∃ a' n' c', e = .returned (.slice a' n' c') ∧ MapOk w' a' n' c' l) ∧ Below w.heap.size w w' := by
  have HC : Hid (Calls Tryz.prog 44 #[.slice a n c] w fun e w' => (∃ a' n' c', e = .returned (.slice a' n' c') ∧ MapOk w' a' n' c' l) ∧ Below w.heap.size w w') := sp_Clone a n c l w h.ok (by rw [← h.ok.rd.size]; exact hn)
  have c0 : w.cell? ⟨s, 0, none⟩ = some (.slice a n c) := h.blk.cell 0 rfl
  clear h
  go_enter Tryz.func18, Tryz.ntmps18
  go_wp2_with fail
  refine HC.out.mono ?_
  rintro e w1 ⟨⟨a1, n1, c1, rfl, h1⟩, hb1⟩
  have H1 : Hid (MapOk w1 a1 n1 c1 l) := h1
  have HB1 : Hid (Below w.heap.size w w1) := hb1
  clear h1 hb1
  go_wp2
  go_ret
  exact ⟨⟨a1, n1, c1, rfl, H1.out⟩, HB1.out⟩
end Go.Proofs.YtidihfhgnjkmaaaGreat
/- Stream.Item of a tick whose item is kept. -/
namespace Go.Proofs.YtidihfhgnjkmaaaGreat
set_option maxRecDepth 100000
open Go.RowKit Go.Maps Go.Sort Go.Shelf
variable {Z : Nat → Prop}

theorem results_ItemK {w : World} {tmps : Array Value} {g : Nat} {c0 c1 c2 b : Value} (h4 : tmps[4]?.getD undef = .pointer (some ⟨g, 0, none⟩)) (h5 : tmps[5]?.getD undef = b) (k : Bk w g #[c0, c1, c2] 54) : (results Tryz.f19 tmps).run Tryz.prog w = .ok (.tuple #[.agg #[c0, c1, c2], b]) w := by
  have k0 : w.cell? ⟨g, 0, none⟩ = some c0 := k.cell 0 rfl
  have k1 : w.cell? ⟨g, 1, none⟩ = some c1 := k.cell 1 rfl
  have k2 : w.cell? ⟨g, 2, none⟩ = some c2 := k.cell 2 rfl
  simp [results, Tryz.results19, go_sem, h4, h5, k0, k1, k2]
theorem Stm.look_ok {w : World} {s m : Nat} {a : Option Addr} {n c : Nat} {l : List Sp} {X : List (Int × Value)} (h : Stm Z w s m a n c l X) {t : Int} (ht : -9223372036854775808 ≤ t ∧ t ≤ 9223372036854775807) {v : Value} (hg : getX X t = some v) : (Instr.lookup 81 (.map (some m)) (.int .i64 t) true).run Tryz.prog w = .ok (.tuple #[v, .bool true]) w := by
  obtain ⟨v2, ps, hrun, hv⟩ := h.items.look_ok tkeyed Tryz.underlying81 (z := itemZ) (Tryz.zeroValue54 w) (zd := .held itemZ) (zp := []) rfl (tkey_of ht)
  rw [mapD_at, hg] at hv
  rw [hrun, mapD_has, hg]
  have hv : some (DataW.held v2, ([] : List MemPlace)) = _ := hv
  simp only [Option.some.injEq, Prod.mk.injEq, DataW.held.injEq] at hv
  rw [hv.1]
  rfl
set_option maxHeartbeats 4000000 in
theorem st_Item {w : World} {s m : Nat} {l : List Sp} {I : Int → Option It} {a : Option Addr} {n c : Nat} {X : List (Int × Value)} (h : Strm Z w s m l I a n c X) {t : Int} {q : It} (hq : I t = some q) (ht : -9223372036854775808 ≤ t ∧ t ≤ 9223372036854775807) :
    Calls Tryz.prog 19 #[.pointer (some ⟨s, 0, none⟩), .int .i64 t] w fun e w' => ∃ ba bc, e = .returned (.tuple #[.agg #[.int .i64 q.tick, .int .u32 q.for_, .slice ba q.body.length bc], .bool true]) ∧ Own w' w.heap.size ba q.body.length bc q.body ∧ Below w.heap.size w w' := by
  have hi := h.its t
  rw [hq] at hi
  obtain ⟨h1, h2, h3, da, dc, h4, h5, _⟩ := hi
  obtain ⟨qt, qf, qb⟩ := q
  simp only at h1 h2 h3 h4 h5
  subst h1
  obtain ⟨N, HN⟩ : ∃ N, Hid (qb.length = N) := ⟨_, rfl⟩
  simp only
  rw [HN.out] at h3 h4 h5 ⊢
  obtain ⟨W1, HW1⟩ : ∃ W1, Hid (W1 = w.alloc (.cells #[.int .i64 0, .int .u32 0, .slice none 0 0] 54)) := ⟨_, rfl⟩
  have HX1 : Hid (Below w.heap.size w W1) := by (show Below _ _ _); rw [HW1.out]; exact below_alloc w _
  have HK1 : Hid (Bk W1 w.heap.size #[.int .i64 0, .int .u32 0, .slice none 0 0] 54) := by (show Bk _ _ _ _); rw [HW1.out]; exact Bk.new w _ _
  have hst := h.stm.stay HX1.out
  have c1 : W1.cell? ⟨s, 1, none⟩ = some (.map (some m)) := hst.blk.cell 1 rfl
  have hlk : (Instr.lookup 81 (.map (some m)) (.int .i64 qt) true).run Tryz.prog W1 = .ok (.tuple #[.agg #[.int .i64 qt, .int .u32 qf, .slice da N dc], .bool true]) W1 := hst.look_ok ht h4
  obtain ⟨W2, HW2⟩ : ∃ W2, Hid (W2 = W1.alloc (.cells #[.int .i64 qt, .int .u32 qf, .slice da N dc] 54)) := ⟨_, rfl⟩
  have HX2 : Hid (Below W1.heap.size W1 W2) := by (show Below _ _ _); rw [HW2.out]; exact below_alloc W1 _
  have hk2 : Bk W2 W1.heap.size #[.int .i64 qt, .int .u32 qf, .slice da N dc] 54 := by rw [HW2.out]; exact Bk.new W1 _ _
  have HXX : Hid (Below w.heap.size w W2) := HX1.out.trans (HX2.out.mono HX1.out.size)
  have HC : Hid (Calls Tryz.prog 45 #[.agg #[.int .i64 qt, .int .u32 qf, .slice da N dc]] W2 fun e w' => ∃ a' c', e = .returned (.agg #[.int .i64 qt, .int .u32 qf, .slice a' N c']) ∧ Own w' W2.heap.size a' N c' qb ∧ Below W2.heap.size W2 w') := st_cloned qt qf da N dc qb W2 (h5.below HXX.out) (by omega)
  have i0 : W2.cell? ⟨W1.heap.size, 0, none⟩ = some (.int .i64 qt) := hk2.cell 0 rfl
  have i1 : W2.cell? ⟨W1.heap.size, 1, none⟩ = some (.int .u32 qf) := hk2.cell 1 rfl
  have i2 : W2.cell? ⟨W1.heap.size, 2, none⟩ = some (.slice da N dc) := hk2.cell 2 rfl
  have HK2 : Hid (Bk W2 w.heap.size #[.int .i64 0, .int .u32 0, .slice none 0 0] 54) := HK1.out.stay HX2.out
  have hlt2 : w.heap.size < W2.heap.size := HK2.out.lt
  clear h h4 h5 hst hk2 HK1 HX1
  go_enter Tryz.func19, Tryz.ntmps19
  go_upto_region 1 with fail
  rw [← HW1.out]
  go_upto_region 4 with fail
  rw [← HW2.out]
  go_wp2_with fail
  refine HC.out.mono ?_
  rintro e w3 ⟨ba, bc, rfl, ho, hb3⟩
  have hk3 := HK2.out.stay hb3
  have d0 : w3.cell? ⟨w.heap.size, 0, none⟩ = some (.int .i64 0) := hk3.cell 0 rfl
  have d1 : w3.cell? ⟨w.heap.size, 1, none⟩ = some (.int .u32 0) := hk3.cell 1 rfl
  have d2 : w3.cell? ⟨w.heap.size, 2, none⟩ = some (.slice none 0 0) := hk3.cell 2 rfl
  have f0 := hk3.free 0
  have f1 := hk3.free 1
  have f2 := hk3.free 2
  have HO : Hid (Own w3 W2.heap.size ba N bc qb) := ho
  have HB3 : Hid (Below w.heap.size w w3) := HXX.out.trans (hb3.mono HXX.out.size)
  have HM : Hid (Bk (((w3.setCell ⟨w.heap.size, 0, none⟩ (.int .i64 qt)).setCell ⟨w.heap.size, 1, none⟩ (.int .u32 qf)).setCell ⟨w.heap.size, 2, none⟩ (.slice ba N bc)) w.heap.size #[.int .i64 qt, .int .u32 qf, .slice ba N bc] 54) := ((hk3.set 0 (.int .i64 qt)).set 1 (.int .u32 qf)).set 2 (.slice ba N bc)
  clear ho hb3 hk3 HC i0 i1 i2 c1 hlk
  go_wp2
  refine bodyPost_ret (results_ItemK (by rfl) (by rfl) HM.out) rfl ?_
  refine ⟨ba, bc, rfl, ⟨?_, HO.out.byte⟩, ((HB3.out.setCell (Nat.le_refl _) _).setCell (Nat.le_refl _) _).setCell (Nat.le_refl _) _⟩
  exact ownsRow_base_a (base := W2.heap.size) (ownsRow_setCell_below (ownsRow_setCell_below (ownsRow_setCell_below HO.out.row (a := ⟨w.heap.size, 0, none⟩) hlt2 _) (a := ⟨w.heap.size, 1, none⟩) hlt2 _) (a := ⟨w.heap.size, 2, none⟩) hlt2 _) (by omega)
end Go.Proofs.YtidihfhgnjkmaaaGreat
/- grapevinelaw15.owned: a parcel in new memory. -/
namespace Go.Proofs.YtidihfhgnjkmaaaGreat
set_option maxRecDepth 100000
open Go.RowKit Go.Maps Go.Sort Go.Shelf

/-- An item behind a list of one's own, however long it is. -/
theorem wpList_append_itL {w : World} {ops : Array Oper} {rest : List Oper} {o : Oper} {act : Act} {Q : Exit → Act → World → Prop} (hgd : o.guard = none) (s x : Operand)
    (ho : o.op = .call { callee := .builtin .append, args := #[s, x], argTypes := #[31, 31] })
    (base : Nat) (v : Value) (l : List (It × Bd)) (hs : act.eval s = v) (hown : Its w base v l) (ad : Addr) (c : Nat) (q : It) (b : Bd) (hx : act.eval x = .slice (some ad) 1 c) (hnews : ∀ j u, (icells q b)[j]? = some u → w.cell? (ad.add j) = some u) (hb : Own w base b.1 b.2.1 b.2.2 q.body)
    (hl : (l.length + 1) * 40 ≤ 140737488355328) (hbase : base ≤ w.heap.size)
    (h : ∀ v' w', Its w' base v' (l ++ [(q, b)]) → w.grownBy w' v.ownBlock → Below base w w' → wpList Tryz.prog ops Q rest (act.put o.dst v') w') : wpList Tryz.prog ops Q (o :: rest) act w := by
  obtain ⟨i0, hi, hz0, hz1, hz2⟩ := info_parts infoItem
  refine wpList_plain hgd fun K hK => ?_
  refine wp_append_own w s x 31 ho base 54 i0 (.agg #[.int .i64 0, .int .u32 0, .slice none 0 0]) 3 40 Tryz.underlying31 hi hz0 hz1 hz2 (by rfl) (by decide) v l.length (irow l) hs hown.row ad 1 c (icells q b) hx (by rfl) hnews (icells_one q b) (by unfold maxLen; omega) (by omega) hbase fun v' w' h1 h2 _ => ?_
  have hbel : Below base w w' := (Below.refl _ _).grown h2 hbase (fun k hk => (hown.row.lt k hk).1)
  have hf : ∀ k cs m, base ≤ k → w.heap[k]? = some (.cells cs 5 m) → w'.heap[k]? = some (.cells cs 5 m) := fun k cs m _ hk => by
    rw [h2.block k (Array.getElem?_eq_some_iff.1 hk).1 (fun e => ?_)]
    · exact hk
    · rcases hown.row.2 with ⟨h3, _⟩ | ⟨g, c', cur, h3, _, h4, _⟩
      · rw [h3] at e; cases e
      · rw [h3] at e
        simp only [Value.ownBlock, Option.some.injEq] at e
        rw [e, h4] at hk
        simp only [Option.some.injEq, Obj.cells.injEq] at hk
        exact absurd hk.2.1 (by decide)
  refine hK _ _ (h v' w' ⟨?_, ?_⟩ h2 hbel)
  · rw [List.length_append, irow_snoc]
    simpa using h1
  · intro x hx
    rcases List.mem_append.1 hx with hx | hx
    · exact own_frame (hown.bod x hx) hf
    · obtain rfl := List.mem_singleton.1 hx
      exact own_frame hb hf
theorem results_owned {w : World} {tmps : Array Value} {g : Nat} {c0 c1 c2 c3 c4 c5 c6 c7 : Value} (h2 : tmps[2]?.getD undef = .pointer (some ⟨g, 0, none⟩)) (k : Bk w g #[c0, c1, c2, c3, c4, c5, c6, c7] 33) : (results Tryz.f49 tmps).run Tryz.prog w = .ok (.agg #[c0, c1, c2, c3, c4, c5, c6, c7]) w := by
  have k0 : w.cell? ⟨g, 0, none⟩ = some c0 := k.cell 0 rfl
  have k1 : w.cell? ⟨g, 1, none⟩ = some c1 := k.cell 1 rfl
  have k2 : w.cell? ⟨g, 2, none⟩ = some c2 := k.cell 2 rfl
  have k3 : w.cell? ⟨g, 3, none⟩ = some c3 := k.cell 3 rfl
  have k4 : w.cell? ⟨g, 4, none⟩ = some c4 := k.cell 4 rfl
  have k5 : w.cell? ⟨g, 5, none⟩ = some c5 := k.cell 5 rfl
  have k6 : w.cell? ⟨g, 6, none⟩ = some c6 := k.cell 6 rfl
  have k7 : w.cell? ⟨g, 7, none⟩ = some c7 := k.cell 7 rfl
  simp [results, Tryz.results49, go_sem, h2, k0, k1, k2, k3, k4, k5, k6, k7]
/-- A parcel of one's own. -/
structure OwnPc (w : World) (B : Nat) (p : Pc) (ta : Option Addr) (tn tc : Nat) (ja : Option Addr) (jm jc : Nat) : Prop where
  spans : Sps w B (.slice ta tn tc) p.spans
  items : ∃ L : List (It × Bd), Its w B (.slice ja jm jc) L ∧ L.map Prod.fst = p.items
set_option maxHeartbeats 8000000 in
theorem law_owned (p : Pc) (sa : Option Addr) (sn sc : Nat) (ia : Option Addr) (im ic : Nat) (w : World) (hr : PcRd w p sa sn sc ia im ic) (hz : sa = none → sc = 0) (hsn : sn * 24 ≤ 140737488355328) (him : im * 40 ≤ 140737488355328) (hbb : ∀ q ∈ p.items, q.body.length ≤ 140737488351232) :
    Calls Tryz.prog 49 #[p.val sa sn sc ia im ic] w fun e w' => ∃ ta tc ja jc, e = .returned (p.val ta sn tc ja im jc) ∧ OwnPc w' w.heap.size p ta sn tc ja im jc ∧ Below w.heap.size w w' := by
  obtain ⟨pk, pp, ps, pn, pf, pt, pl, pi⟩ := p
  have HR : Hid (PcRd w ⟨pk, pp, ps, pn, pf, pt, pl, pi⟩ sa sn sc ia im ic) := hr
  have HBB : Hid (∀ q ∈ pi, q.body.length ≤ 140737488351232) := hbb
  have HIM : Hid (pi.length = im) := hr.items.size
  clear hr hbb
  obtain ⟨W3, HW3⟩ : ∃ W3, Hid (W3 = ((w.alloc (.cells #[.int .i64 pk, .int .i64 pp, .int .i64 ps, .int .i64 pn, .int .i64 pf, .int .i64 pt, .slice sa sn sc, .slice ia im ic] 33)).alloc (.cells #[.int .i64 0, .int .i64 0, .int .i64 0, .int .i64 0, .int .i64 0, .int .i64 0, .slice none 0 0, .slice none 0 0] 33)).alloc (.cells #[.int .i64 pk, .int .i64 pp, .int .i64 ps, .int .i64 pn, .int .i64 pf, .int .i64 pt, .slice sa sn sc, .slice ia im ic] 33)) := ⟨_, rfl⟩
  have e1 : (w.alloc (.cells #[.int .i64 pk, .int .i64 pp, .int .i64 ps, .int .i64 pn, .int .i64 pf, .int .i64 pt, .slice sa sn sc, .slice ia im ic] 33)).heap.size = w.heap.size + 1 := by simp
  have e2 : ((w.alloc (.cells #[.int .i64 pk, .int .i64 pp, .int .i64 ps, .int .i64 pn, .int .i64 pf, .int .i64 pt, .slice sa sn sc, .slice ia im ic] 33)).alloc (.cells #[.int .i64 0, .int .i64 0, .int .i64 0, .int .i64 0, .int .i64 0, .int .i64 0, .slice none 0 0, .slice none 0 0] 33)).heap.size = w.heap.size + 2 := by simp
  have HSZ3 : Hid (W3.heap.size = w.heap.size + 3) := by (show _ = _); rw [HW3.out]; simp
  have HX3 : Hid (Below w.heap.size w W3) := by (show Below _ _ _); rw [HW3.out]; exact ((below_alloc w _).alloc (by omega) _).alloc (by omega) _
  have HA3 : Hid (Bk W3 w.heap.size #[.int .i64 pk, .int .i64 pp, .int .i64 ps, .int .i64 pn, .int .i64 pf, .int .i64 pt, .slice sa sn sc, .slice ia im ic] 33) := by (show Bk _ _ _ _); rw [HW3.out]; exact ((Bk.new w _ _).stay (below_alloc _ _)).stay (below_alloc _ _)
  have HZ3 : Hid (Bk W3 (w.heap.size + 1) #[.int .i64 0, .int .i64 0, .int .i64 0, .int .i64 0, .int .i64 0, .int .i64 0, .slice none 0 0, .slice none 0 0] 33) := by (show Bk _ _ _ _); rw [HW3.out, ← e1]; exact (Bk.new _ _ _).stay (below_alloc _ _)
  have HQ3 : Hid (Bk W3 (w.heap.size + 1 + 1) #[.int .i64 pk, .int .i64 pp, .int .i64 ps, .int .i64 pn, .int .i64 pf, .int .i64 pt, .slice sa sn sc, .slice ia im ic] 33) := by (show Bk _ _ _ _); rw [HW3.out, ← e2]; exact Bk.new _ _ _
  have a6 : W3.cell? ⟨w.heap.size, 6, none⟩ = some (.slice sa sn sc) := HA3.out.cell 6 rfl
  have a6b : (W3.alloc (.cells #[] 62)).cell? ⟨w.heap.size, 6, none⟩ = some (.slice sa sn sc) := (HA3.out.stay (below_alloc _ _)).cell 6 rfl
  clear e1 e2
  unfold Pc.val
  simp only
  go_enter Tryz.func49, Tryz.ntmps49
  go_upto_region 2 with fail
  rw [← HW3.out]
  go_wp2_with (at_builtin; refine wpList_append_spsL rfl (.tmp 7) (.tmp 9) rfl W3.heap.size _ [] rfl (Sps.empty W3) sa sn sc pl rfl ((HR.out.spans.below HX3.out).below (below_alloc W3 _)) hz (by rw [List.length_nil, Nat.zero_add]; exact hsn) (by simp) ?_)
  intro v4 w4 hs4 hg4
  have HS4 : Hid (Sps w4 W3.heap.size v4 pl) := by (show Sps _ _ _ _); simpa using hs4
  have HB4 : Hid (Below W3.heap.size W3 w4) := (below_alloc W3 (.cells #[] 62)).grown hg4 (by simp) (fun k hk => by cases hk; exact Nat.le_refl _)
  clear hs4 hg4 a6 a6b
  obtain ⟨ta, tc, hv4, _⟩ := HS4.out.form
  have hsl : pl.length = sn := HR.out.spans.size
  rw [hsl] at hv4
  subst hv4
  have hq4 := HQ3.out.stay HB4.out
  have q6 : w4.cell? ⟨w.heap.size + 1 + 1, 6, none⟩ = some (.slice sa sn sc) := hq4.cell 6 rfl
  have q7 : w4.cell? ⟨w.heap.size + 1 + 1, 7, none⟩ = some (.slice ia im ic) := hq4.cell 7 rfl
  have f6 := hq4.free 6
  have f7 := hq4.free 7
  obtain ⟨W5, HW5⟩ : ∃ W5, Hid (W5 = (w4.setCell ⟨w.heap.size + 1 + 1, 6, none⟩ (.slice ta sn tc)).setCell ⟨w.heap.size + 1 + 1, 7, none⟩ (.slice none 0 0)) := ⟨_, rfl⟩
  have HQ5 : Hid (Bk W5 (w.heap.size + 1 + 1) #[.int .i64 pk, .int .i64 pp, .int .i64 ps, .int .i64 pn, .int .i64 pf, .int .i64 pt, .slice ta sn tc, .slice none 0 0] 33) := by (show Bk _ _ _ _); rw [HW5.out]; exact (hq4.set 6 (.slice ta sn tc)).set 7 (.slice none 0 0)
  have HA5 : Hid (Bk W5 w.heap.size #[.int .i64 pk, .int .i64 pp, .int .i64 ps, .int .i64 pn, .int .i64 pf, .int .i64 pt, .slice sa sn sc, .slice ia im ic] 33) := by (show Bk _ _ _ _); rw [HW5.out]; exact ((HA3.out.stay HB4.out).other ⟨w.heap.size + 1 + 1, 6, none⟩ _ (by show w.heap.size ≠ w.heap.size + 1 + 1; omega)).other ⟨w.heap.size + 1 + 1, 7, none⟩ _ (by show w.heap.size ≠ w.heap.size + 1 + 1; omega)
  have HZ5 : Hid (Bk W5 (w.heap.size + 1) #[.int .i64 0, .int .i64 0, .int .i64 0, .int .i64 0, .int .i64 0, .int .i64 0, .slice none 0 0, .slice none 0 0] 33) := by (show Bk _ _ _ _); rw [HW5.out]; exact ((HZ3.out.stay HB4.out).other ⟨w.heap.size + 1 + 1, 6, none⟩ _ (by show w.heap.size + 1 ≠ w.heap.size + 1 + 1; omega)).other ⟨w.heap.size + 1 + 1, 7, none⟩ _ (by show w.heap.size + 1 ≠ w.heap.size + 1 + 1; omega)
  have HX5 : Hid (Below w.heap.size w W5) := by (show Below _ _ _); rw [HW5.out]; exact ((HX3.out.trans (HB4.out.mono HX3.out.size)).setCell (by show w.heap.size ≤ w.heap.size + 1 + 1; omega) _).setCell (by show w.heap.size ≤ w.heap.size + 1 + 1; omega) _
  have HS5 : Hid (Sps W5 W3.heap.size (.slice ta sn tc) pl) := by
    (show Sps _ _ _ _)
    rw [HW5.out]
    exact (HS4.out.under ⟨w.heap.size + 1 + 1, 6, none⟩ _ (by show w.heap.size + 1 + 1 < W3.heap.size; rw [HSZ3.out]; omega)).under ⟨w.heap.size + 1 + 1, 7, none⟩ _ (by show w.heap.size + 1 + 1 < W3.heap.size; rw [HSZ3.out]; omega)
  have HSZ5 : Hid (W3.heap.size ≤ W5.heap.size) := by (show _ ≤ _); rw [HW5.out, World.size_setCell, World.size_setCell]; exact HB4.out.size
  clear hq4 HS4 HA3 HZ3 HQ3 HX3
  go_upto_region 4 with fail
  rw [← HW5.out]
  clear q6 q7 f6 f7
  go_wp2
  go_loopw [4] (fun t4 wr => ∃ (i : Nat) (ja : Option Addr) (jc : Nat) (L : List (It × Bd)), t4 = .int .i64 (i : Int) ∧ i ≤ im ∧ Hid (Its wr W3.heap.size (.slice ja i jc) L ∧ L.map Prod.fst = pi.take i) ∧ Hid (Bk wr (w.heap.size + 1 + 1) #[.int .i64 pk, .int .i64 pp, .int .i64 ps, .int .i64 pn, .int .i64 pf, .int .i64 pt, .slice ta sn tc, .slice ja i jc] 33) ∧ Hid (Bk wr w.heap.size #[.int .i64 pk, .int .i64 pp, .int .i64 ps, .int .i64 pn, .int .i64 pf, .int .i64 pt, .slice sa sn sc, .slice ia im ic] 33) ∧ Hid (Bk wr (w.heap.size + 1) #[.int .i64 0, .int .i64 0, .int .i64 0, .int .i64 0, .int .i64 0, .int .i64 0, .slice none 0 0, .slice none 0 0] 33) ∧ Hid (Sps wr W3.heap.size (.slice ta sn tc) pl) ∧ Hid (Below w.heap.size w wr) ∧ Hid (W3.heap.size ≤ wr.heap.size)) (fun t4 _ => im - (intOf t4).toNat)
  case atStart => exact ⟨0, none, 0, [], rfl, by omega, ⟨Its.nil_ _ _, rfl⟩, HQ5, HA5, HZ5, HS5, HX5, HSZ5⟩
  case round =>
    obtain ⟨i, ja, jc, L, rfl, hi, HI, HQ, HA, HZ, HS, HX, HSZ⟩ := hrel
    have a7 : wr.cell? ⟨w.heap.size, 7, none⟩ = some (.slice ia im ic) := HA.out.cell 7 rfl
    by_cases hlt : i < im
    · have hlt' : (i : Int) < (im : Int) := by omega
      have gi : (0 : Int) ≤ (i : Int) := by omega
      obtain ⟨g, o, rfl, hg, q, hq, d0, d1, ba, bl, bc, d2, hrd, hb0, hlc, hcm⟩ := (HR.out.items.below HX.out).at_ i hlt
      have hqm : q ∈ pi := List.mem_of_getElem? hq
      have hql := HBB.out q hqm
      have HTK : Hid (pi.take (i + 1) = pi.take i ++ [q]) := by
        (show _ = _)
        have hil : i < pi.length := by rw [HIM.out]; exact hlt
        rw [List.take_succ_eq_append_getElem hil]
        have := List.getElem?_eq_getElem hil
        have hq : pi[i]? = some q := hq
        rw [this] at hq
        rw [Option.some.inj hq]
      obtain ⟨qt, qf, qb⟩ := q
      simp only at d0 d1 d2 hrd hql
      have hbl : qb.length = bl := hrd.size
      rw [hbl] at hql
      have HRD : Hid (Rd wr ba bl qb) := hrd
      obtain ⟨W6, HW6⟩ : ∃ W6, Hid (W6 = wr.alloc (.cells #[.int .i64 qt, .int .u32 qf, .slice ba bl bc] 54)) := ⟨_, rfl⟩
      have HB6 : Hid (Below wr.heap.size wr W6) := by (show Below _ _ _); rw [HW6.out]; exact below_alloc wr _
      have HV6 : Hid (Bk W6 wr.heap.size #[.int .i64 qt, .int .u32 qf, .slice ba bl bc] 54) := by (show Bk _ _ _ _); rw [HW6.out]; exact Bk.new wr _ _
      have v2 : W6.cell? ⟨wr.heap.size, 2, none⟩ = some (.slice ba bl bc) := HV6.out.cell 2 rfl
      have v2b : (W6.alloc (.cells #[] 5)).cell? ⟨wr.heap.size, 2, none⟩ = some (.slice ba bl bc) := (HV6.out.stay (below_alloc _ _)).cell 2 rfl
      clear hrd hlc hcm hq hqm hg hbl
      go_upto_region 8 with fail
      rw [← HW6.out]
      go_wp2_with (at_builtin; refine wpList_append_rd rfl (.tmp 25) (.tmp 27) rfl W6.heap.size (some ⟨W6.heap.size, 0, none⟩) 0 0 [] rfl (Own.empty W6) ba bl bc qb rfl ((HRD.out.below HB6.out).below (below_alloc _ _)) hb0 (by omega) (by simp) ?_)
      intro ya yc w7 ho7 hg7 hb7
      have HO7 : Hid (Own w7 W6.heap.size ya bl yc qb) := ho7
      have HB7 : Hid (Below W6.heap.size W6 w7) := (below_alloc W6 (.cells #[] 5)).trans hb7
      have hv7 := HV6.out.stay HB7.out
      have u0 : w7.cell? ⟨wr.heap.size, 0, none⟩ = some (.int .i64 qt) := hv7.cell 0 rfl
      have u2 : w7.cell? ⟨wr.heap.size, 2, none⟩ = some (.slice ba bl bc) := hv7.cell 2 rfl
      have fu2 := hv7.free 2
      obtain ⟨W8, HW8⟩ : ∃ W8, Hid (W8 = w7.setCell ⟨wr.heap.size, 2, none⟩ (.slice ya bl yc)) := ⟨_, rfl⟩
      have HV8 : Hid (Bk W8 wr.heap.size #[.int .i64 qt, .int .u32 qf, .slice ya bl yc] 54) := by (show Bk _ _ _ _); rw [HW8.out]; exact hv7.set 2 (.slice ya bl yc)
      have HB8 : Hid (Below wr.heap.size wr W8) := by (show Below _ _ _); rw [HW8.out]; exact (HB6.out.trans (HB7.out.mono HB6.out.size)).setCell (Nat.le_refl _) _
      have hlt6 : wr.heap.size < W6.heap.size := HV6.out.lt
      have HO8 : Hid (Own W8 W3.heap.size ya bl yc qb) := by
        (show Own _ _ _ _ _ _)
        rw [HW8.out]
        exact ⟨ownsRow_base_a (base := W6.heap.size) (ownsRow_setCell_below HO7.out.row (a := ⟨wr.heap.size, 2, none⟩) hlt6 _) (Nat.le_trans HSZ.out HB6.out.size), HO7.out.byte⟩
      have HI8 : Hid (Its W8 W3.heap.size (.slice ja i jc) L) := HI.out.1.below HB8.out
      have HQ8 : Hid (Bk W8 (w.heap.size + 1 + 1) #[.int .i64 pk, .int .i64 pp, .int .i64 ps, .int .i64 pn, .int .i64 pf, .int .i64 pt, .slice ta sn tc, .slice ja i jc] 33) := HQ.out.stay HB8.out
      have HS8 : Hid (Sps W8 W3.heap.size (.slice ta sn tc) pl) := HS.out.below HB8.out
      have g7 : W8.cell? ⟨w.heap.size + 1 + 1, 7, none⟩ = some (.slice ja i jc) := HQ8.out.cell 7 rfl
      have r0 : W8.cell? ⟨wr.heap.size, 0, none⟩ = some (.int .i64 qt) := HV8.out.cell 0 rfl
      have r1 : W8.cell? ⟨wr.heap.size, 1, none⟩ = some (.int .u32 qf) := HV8.out.cell 1 rfl
      have r2 : W8.cell? ⟨wr.heap.size, 2, none⟩ = some (.slice ya bl yc) := HV8.out.cell 2 rfl
      have hLl : L.length = i := by
        have := congrArg List.length HI.out.2
        rw [List.length_map, List.length_take, HIM.out] at this
        omega
      clear ho7 hg7 hb7 hv7
      go_upto_region 9 with fail
      rw [← HW8.out]
      go_wp2_with (at_builtin; refine wpList_append_itL rfl (.tmp 31) (.tmp 33) rfl W3.heap.size _ L rfl (HI8.out.below (below_alloc _ _)) ⟨W8.heap.size, 0, none⟩ 1 ⟨qt, qf, qb⟩ (ya, bl, yc) rfl (item_told (Bk.new W8 _ _)) (HO8.out.below (below_alloc _ _)) (by omega) (Nat.le_trans HSZ.out (Nat.le_trans HB8.out.size (below_alloc _ _).size)) ?_)
      intro v10 w10 hi10 hg10 hb10
      have HI10 : Hid (Its w10 W3.heap.size v10 (L ++ [(⟨qt, qf, qb⟩, (ya, bl, yc))])) := hi10
      have HS10 : Hid (Sps w10 W3.heap.size (.slice ta sn tc) pl) := (HS8.out.below (below_alloc _ _)).grown_it (HI8.out.below (below_alloc _ _)) hg10
      have HB10 : Hid (Below W3.heap.size W8 w10) := ((below_alloc W8 _).mono (Nat.le_trans HSZ.out HB8.out.size)).trans hb10
      obtain ⟨ja2, jc2, hv10, _⟩ := hi10.form
      rw [List.length_append, List.length_singleton, hLl] at hv10
      subst hv10
      have hlb : w.heap.size + 1 + 1 < W3.heap.size := by rw [HSZ3.out]; omega
      have hq10 := HQ8.out.below HB10.out hlb
      have z7 : w10.cell? ⟨w.heap.size + 1 + 1, 7, none⟩ = some (.slice ja i jc) := hq10.cell 7 rfl
      have fz7 := hq10.free 7
      obtain ⟨W11, HW11⟩ : ∃ W11, Hid (W11 = w10.setCell ⟨w.heap.size + 1 + 1, 7, none⟩ (.slice ja2 (i + 1) jc2)) := ⟨_, rfl⟩
      have HQ11 : Hid (Bk W11 (w.heap.size + 1 + 1) #[.int .i64 pk, .int .i64 pp, .int .i64 ps, .int .i64 pn, .int .i64 pf, .int .i64 pt, .slice ta sn tc, .slice ja2 (i + 1) jc2] 33) := by (show Bk _ _ _ _); rw [HW11.out]; exact hq10.set 7 (.slice ja2 (i + 1) jc2)
      have HA11 : Hid (Bk W11 w.heap.size #[.int .i64 pk, .int .i64 pp, .int .i64 ps, .int .i64 pn, .int .i64 pf, .int .i64 pt, .slice sa sn sc, .slice (some ⟨g, o, none⟩) im ic] 33) := by (show Bk _ _ _ _); rw [HW11.out]; exact ((HA.out.stay HB8.out).below HB10.out (by omega)).other ⟨w.heap.size + 1 + 1, 7, none⟩ _ (by show w.heap.size ≠ w.heap.size + 1 + 1; omega)
      have HZ11 : Hid (Bk W11 (w.heap.size + 1) #[.int .i64 0, .int .i64 0, .int .i64 0, .int .i64 0, .int .i64 0, .int .i64 0, .slice none 0 0, .slice none 0 0] 33) := by (show Bk _ _ _ _); rw [HW11.out]; exact ((HZ.out.stay HB8.out).below HB10.out (by omega)).other ⟨w.heap.size + 1 + 1, 7, none⟩ _ (by show w.heap.size + 1 ≠ w.heap.size + 1 + 1; omega)
      have HI11 : Hid (Its W11 W3.heap.size (.slice ja2 (i + 1) jc2) (L ++ [(⟨qt, qf, qb⟩, (ya, bl, yc))]) ∧ (L ++ [((⟨qt, qf, qb⟩ : It), ((ya, bl, yc) : Bd))]).map Prod.fst = pi.take (i + 1)) := by
        refine ⟨by rw [HW11.out]; exact HI10.out.under ⟨w.heap.size + 1 + 1, 7, none⟩ _ hlb, ?_⟩
        rw [HTK.out, List.map_append, HI.out.2]
        rfl
      have HS11 : Hid (Sps W11 W3.heap.size (.slice ta sn tc) pl) := by (show Sps _ _ _ _); rw [HW11.out]; exact HS10.out.under ⟨w.heap.size + 1 + 1, 7, none⟩ _ hlb
      have hw3 : w.heap.size ≤ W3.heap.size := by rw [HSZ3.out]; omega
      have HX11 : Hid (Below w.heap.size w W11) := by (show Below _ _ _); rw [HW11.out]; exact ((HX.out.trans (HB8.out.mono HX.out.size)).trans (HB10.out.mono hw3)).setCell (by show w.heap.size ≤ w.heap.size + 1 + 1; omega) _
      have HSZ11 : Hid (W3.heap.size ≤ W11.heap.size) := by (show _ ≤ _); rw [HW11.out, World.size_setCell]; exact Nat.le_trans HSZ.out (Nat.le_trans HB8.out.size HB10.out.size)
      clear hi10 hg10 hb10 hq10
      go_wp2
      rw [← HW11.out]
      go_roundw
      case rel => exact ⟨i + 1, ja2, jc2, _, by go_num, by omega, HI11, HQ11, HA11, HZ11, HS11, HX11, HSZ11⟩
      case measure => simp [intOf]; omega
    · have hnl : ¬ (i : Int) < (im : Int) := by omega
      obtain rfl : i = im := by omega
      have q0 : wr.cell? ⟨w.heap.size + 1 + 1, 0, none⟩ = some (.int .i64 pk) := HQ.out.cell 0 rfl
      have q1 : wr.cell? ⟨w.heap.size + 1 + 1, 1, none⟩ = some (.int .i64 pp) := HQ.out.cell 1 rfl
      have q2 : wr.cell? ⟨w.heap.size + 1 + 1, 2, none⟩ = some (.int .i64 ps) := HQ.out.cell 2 rfl
      have q3 : wr.cell? ⟨w.heap.size + 1 + 1, 3, none⟩ = some (.int .i64 pn) := HQ.out.cell 3 rfl
      have q4 : wr.cell? ⟨w.heap.size + 1 + 1, 4, none⟩ = some (.int .i64 pf) := HQ.out.cell 4 rfl
      have q5 : wr.cell? ⟨w.heap.size + 1 + 1, 5, none⟩ = some (.int .i64 pt) := HQ.out.cell 5 rfl
      have q6 : wr.cell? ⟨w.heap.size + 1 + 1, 6, none⟩ = some (.slice ta sn tc) := HQ.out.cell 6 rfl
      have q7 : wr.cell? ⟨w.heap.size + 1 + 1, 7, none⟩ = some (.slice ja i jc) := HQ.out.cell 7 rfl
      have z0 : wr.cell? ⟨w.heap.size + 1, 0, none⟩ = some (.int .i64 0) := HZ.out.cell 0 rfl
      have fz0 := HZ.out.free 0
      have z1 : wr.cell? ⟨w.heap.size + 1, 1, none⟩ = some (.int .i64 0) := HZ.out.cell 1 rfl
      have fz1 := HZ.out.free 1
      have z2 : wr.cell? ⟨w.heap.size + 1, 2, none⟩ = some (.int .i64 0) := HZ.out.cell 2 rfl
      have fz2 := HZ.out.free 2
      have z3 : wr.cell? ⟨w.heap.size + 1, 3, none⟩ = some (.int .i64 0) := HZ.out.cell 3 rfl
      have fz3 := HZ.out.free 3
      have z4 : wr.cell? ⟨w.heap.size + 1, 4, none⟩ = some (.int .i64 0) := HZ.out.cell 4 rfl
      have fz4 := HZ.out.free 4
      have z5 : wr.cell? ⟨w.heap.size + 1, 5, none⟩ = some (.int .i64 0) := HZ.out.cell 5 rfl
      have fz5 := HZ.out.free 5
      have z6 : wr.cell? ⟨w.heap.size + 1, 6, none⟩ = some (.slice none 0 0) := HZ.out.cell 6 rfl
      have fz6 := HZ.out.free 6
      have z7 : wr.cell? ⟨w.heap.size + 1, 7, none⟩ = some (.slice none 0 0) := HZ.out.cell 7 rfl
      have fz7 := HZ.out.free 7
      have HG : Hid (Bk ((((((((wr.setCell ⟨w.heap.size + 1, 0, none⟩ (.int .i64 pk)).setCell ⟨w.heap.size + 1, 1, none⟩ (.int .i64 pp)).setCell ⟨w.heap.size + 1, 2, none⟩ (.int .i64 ps)).setCell ⟨w.heap.size + 1, 3, none⟩ (.int .i64 pn)).setCell ⟨w.heap.size + 1, 4, none⟩ (.int .i64 pf)).setCell ⟨w.heap.size + 1, 5, none⟩ (.int .i64 pt)).setCell ⟨w.heap.size + 1, 6, none⟩ (.slice ta sn tc)).setCell ⟨w.heap.size + 1, 7, none⟩ (.slice ja i jc)) (w.heap.size + 1) #[.int .i64 pk, .int .i64 pp, .int .i64 ps, .int .i64 pn, .int .i64 pf, .int .i64 pt, .slice ta sn tc, .slice ja i jc] 33) := ((((((((HZ.out.set 0 (.int .i64 pk)).set 1 (.int .i64 pp)).set 2 (.int .i64 ps)).set 3 (.int .i64 pn)).set 4 (.int .i64 pf)).set 5 (.int .i64 pt)).set 6 (.slice ta sn tc)).set 7 (.slice ja i jc))
      have hlb : w.heap.size + 1 < W3.heap.size := by rw [HSZ3.out]; omega
      have hle : w.heap.size ≤ w.heap.size + 1 := Nat.le_succ _
      have HIF : Hid (Its ((((((((wr.setCell ⟨w.heap.size + 1, 0, none⟩ (.int .i64 pk)).setCell ⟨w.heap.size + 1, 1, none⟩ (.int .i64 pp)).setCell ⟨w.heap.size + 1, 2, none⟩ (.int .i64 ps)).setCell ⟨w.heap.size + 1, 3, none⟩ (.int .i64 pn)).setCell ⟨w.heap.size + 1, 4, none⟩ (.int .i64 pf)).setCell ⟨w.heap.size + 1, 5, none⟩ (.int .i64 pt)).setCell ⟨w.heap.size + 1, 6, none⟩ (.slice ta sn tc)).setCell ⟨w.heap.size + 1, 7, none⟩ (.slice ja i jc)) W3.heap.size (.slice ja i jc) L) := ((((((((HI.out.1.under ⟨w.heap.size + 1, 0, none⟩ _ hlb).under ⟨w.heap.size + 1, 1, none⟩ _ hlb).under ⟨w.heap.size + 1, 2, none⟩ _ hlb).under ⟨w.heap.size + 1, 3, none⟩ _ hlb).under ⟨w.heap.size + 1, 4, none⟩ _ hlb).under ⟨w.heap.size + 1, 5, none⟩ _ hlb).under ⟨w.heap.size + 1, 6, none⟩ _ hlb).under ⟨w.heap.size + 1, 7, none⟩ _ hlb)
      have HSF : Hid (Sps ((((((((wr.setCell ⟨w.heap.size + 1, 0, none⟩ (.int .i64 pk)).setCell ⟨w.heap.size + 1, 1, none⟩ (.int .i64 pp)).setCell ⟨w.heap.size + 1, 2, none⟩ (.int .i64 ps)).setCell ⟨w.heap.size + 1, 3, none⟩ (.int .i64 pn)).setCell ⟨w.heap.size + 1, 4, none⟩ (.int .i64 pf)).setCell ⟨w.heap.size + 1, 5, none⟩ (.int .i64 pt)).setCell ⟨w.heap.size + 1, 6, none⟩ (.slice ta sn tc)).setCell ⟨w.heap.size + 1, 7, none⟩ (.slice ja i jc)) W3.heap.size (.slice ta sn tc) pl) := ((((((((HS.out.under ⟨w.heap.size + 1, 0, none⟩ _ hlb).under ⟨w.heap.size + 1, 1, none⟩ _ hlb).under ⟨w.heap.size + 1, 2, none⟩ _ hlb).under ⟨w.heap.size + 1, 3, none⟩ _ hlb).under ⟨w.heap.size + 1, 4, none⟩ _ hlb).under ⟨w.heap.size + 1, 5, none⟩ _ hlb).under ⟨w.heap.size + 1, 6, none⟩ _ hlb).under ⟨w.heap.size + 1, 7, none⟩ _ hlb)
      have HXF : Hid (Below w.heap.size w ((((((((wr.setCell ⟨w.heap.size + 1, 0, none⟩ (.int .i64 pk)).setCell ⟨w.heap.size + 1, 1, none⟩ (.int .i64 pp)).setCell ⟨w.heap.size + 1, 2, none⟩ (.int .i64 ps)).setCell ⟨w.heap.size + 1, 3, none⟩ (.int .i64 pn)).setCell ⟨w.heap.size + 1, 4, none⟩ (.int .i64 pf)).setCell ⟨w.heap.size + 1, 5, none⟩ (.int .i64 pt)).setCell ⟨w.heap.size + 1, 6, none⟩ (.slice ta sn tc)).setCell ⟨w.heap.size + 1, 7, none⟩ (.slice ja i jc))) := ((((((((HX.out.setCell (show w.heap.size ≤ (⟨w.heap.size + 1, 0, none⟩ : Addr).block from hle) _).setCell (show w.heap.size ≤ (⟨w.heap.size + 1, 1, none⟩ : Addr).block from hle) _).setCell (show w.heap.size ≤ (⟨w.heap.size + 1, 2, none⟩ : Addr).block from hle) _).setCell (show w.heap.size ≤ (⟨w.heap.size + 1, 3, none⟩ : Addr).block from hle) _).setCell (show w.heap.size ≤ (⟨w.heap.size + 1, 4, none⟩ : Addr).block from hle) _).setCell (show w.heap.size ≤ (⟨w.heap.size + 1, 5, none⟩ : Addr).block from hle) _).setCell (show w.heap.size ≤ (⟨w.heap.size + 1, 6, none⟩ : Addr).block from hle) _).setCell (show w.heap.size ≤ (⟨w.heap.size + 1, 7, none⟩ : Addr).block from hle) _)
      have HLF : Hid (L.map Prod.fst = pi) := by (show _ = _); rw [HI.out.2, ← HIM.out, List.take_length]
      have hw3 : w.heap.size ≤ W3.heap.size := by rw [HSZ3.out]; omega
      go_wp2
      refine bodyPost_ret (results_owned (by rfl) HG.out) rfl ?_
      exact ⟨ta, tc, ja, jc, rfl, ⟨HSF.out.lower hw3, L, HIF.out.lower hw3, HLF.out⟩, HXF.out⟩
end Go.Proofs.YtidihfhgnjkmaaaGreat
