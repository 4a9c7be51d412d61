/- A pack of texts: Sm2 Sm3 Sm4 Sl1 Tq1 Sn1. -/
import Derived.Test.YtidihfhgnjkmaaaGreatStB
import Derived.Test.YtidihfhgnjkmaaaGreatSpX
import Derived.Deep.CutRange
import Derived.Test.YtidihfhgnjkmaaaGreatStA7
/- Stream.forget, whatever is kept. -/
namespace Go.Proofs.YtidihfhgnjkmaaaGreat
set_option maxRecDepth 100000
open Go.RowKit Go.Maps Go.Sort Go.Shelf
variable {Z : Nat → Prop}

theorem Stm.del {w : World} {s m : Nat} {a : Option Addr} {n c : Nat} {l : List Sp} {X : List (Int × Value)} (hS : Stm Z w s m a n c l X) {t : Int} (hkey : keyOf Tryz.prog 3 (.int .i64 t) = some (tkey t)) :
    ∃ w', (∀ ty, (Builtin.delete_ #[81, 3] ty #[.map (some m), .int .i64 t]).run Tryz.prog w = .ok (.tuple #[]) w') ∧ Hid (Stm Z w' s m a n c l (delX X t)) ∧ Hid (w.mapTurned w' m) := by
  obtain ⟨w', hrun, r1, r2⟩ := hS.items.drop tkeyed Tryz.underlying81 hkey 0
  rw [mapD_del] at r1
  exact ⟨w', fun ty => hrun, hS.setItems r2 r1 (rise_del hS.rise t), r2⟩
theorem del_head {X : List (Int × Value)} (hX : RiseX X) {j : Nat} {t : Int} {v : Value} (h : X[j]? = some (t, v)) : delX (X.drop j) t = X.drop (j + 1) := by
  have hj := (List.getElem?_eq_some_iff.1 h).1
  have e : X[j] = (t, v) := (List.getElem?_eq_some_iff.1 h).2
  rw [List.drop_eq_getElem_cons hj, e]
  unfold delX
  rw [List.filter_cons, if_neg (by simp)]
  refine List.filter_eq_self.2 fun p hp => ?_
  have hr : RiseX (X.drop j) := hX.sublist (List.drop_sublist _ _)
  rw [List.drop_eq_getElem_cons hj, e] at hr
  have := (List.pairwise_cons.1 hr).1 p hp
  have : t < p.1 := this
  simp
  omega
/-- What forget leaves. -/
def Forgot (Z : Nat → Prop) (s m : Nat) (l : List Sp) (X : List (Int × Value)) (w w' : World) : Prop := ∃ a' n' c' l', Stm Z w' s m a' n' c' l' (X.drop (X.length - 64)) ∧ (∀ t, atS l' t = if t ∈ (X.take (X.length - 64)).map Prod.fst then 0 else atS l t) ∧ Two s m w w'
set_option maxHeartbeats 8000000 in
theorem st_forget {w : World} {s m : Nat} {a : Option Addr} {n c : Nat} {l : List Sp} {X : List (Int × Value)} (h : Stm Z w s m a n c l X) (hX : X.length ≤ 1000) (hk : ∀ p ∈ X, 1 ≤ p.1 ∧ p.1 ≤ 1099511627776) :
    Calls Tryz.prog 36 #[.pointer (some ⟨s, 0, none⟩)] w fun e w' => e = .returned (.tuple #[]) ∧ Forgot Z s m l X w w' := by
  by_cases h64 : X.length ≤ 64
  · refine (st_forget_0 h h64).mono ?_
    rintro e w' ⟨rfl, hb⟩
    refine ⟨rfl, a, n, c, l, ?_, fun t => ?_, Two.of_below s m hb⟩
    · rw [show X.length - 64 = 0 from by omega]
      exact h.stay hb
    · rw [show X.length - 64 = 0 from by omega]
      simp
  · have HT := st_ticks h (by omega)
    have HS : Hid (Stm Z w s m a n c l X) := h
    have HK : Hid (∀ p ∈ X, 1 ≤ p.1 ∧ p.1 ≤ 1099511627776) := hk
    have HRX : Hid (RiseX X) := h.rise
    have hsl := h.blk.lt
    have hml := h.items.lt
    clear h hk
    go_enter Tryz.func36, Tryz.ntmps36
    go_wp2_with fail
    refine HT.mono ?_
    rintro e w3 ⟨v, rfl, hrow, hb3⟩
    rw [show X.length = (X.map Prod.fst).length from (List.length_map _).symm] at hrow
    obtain ⟨ra, rc, rfl, hrd⟩ := IntsRd.of_row hrow
    rw [List.length_map] at hrd ⊢
    obtain ⟨g, rfl, hgB, hg, hcell⟩ : ∃ g, ra = some ⟨g, 0, none⟩ ∧ w.heap.size ≤ g ∧ g < w3.heap.size ∧ ∀ i t, (X.map Prod.fst)[i]? = some t → w3.cell? ⟨g, i, none⟩ = some (.int .i64 t) := by
      rcases hrd.cells with h0 | h0
      · exfalso
        have : (X.map Prod.fst).length = 0 := by rw [h0]; rfl
        rw [List.length_map] at this
        omega
      · exact h0
    have hrc : X.length ≤ rc ∧ rc ≤ 9223372036854775807 := by
      rcases hrow.2 with ⟨hv, _⟩ | ⟨g', c', cur, hv, _, _, hlc, hmx, _⟩
      · cases hv
      · simp only [Value.slice.injEq] at hv
        obtain ⟨_, _, rfl⟩ := hv
        unfold maxLen at hmx
        rw [List.length_map] at hlc
        omega
    have HI3 : Hid (IntsRd w3 w.heap.size (some ⟨g, 0, none⟩) X.length (X.map Prod.fst)) := hrd
    have HS3 : Hid (Stm Z w3 s m a n c l (X.drop 0)) := HS.out.stay hb3
    have HB3 : Hid (Two s m w w3) := Two.of_below s m hb3
    obtain ⟨N, HNX⟩ : ∃ N, Hid (X.length = N) := ⟨_, rfl⟩
    rw [HNX.out] at HI3 hX hrc h64 ⊢
    clear hrow hrd hb3 hcell HT HS
    go_wp2
    go_loopw [2] (fun t2 wr => ∃ (j : Nat) (aj : Option Addr) (nj cj : Nat) (lj : List Sp), t2 = .slice (some ⟨g, j, none⟩) (N - j) (rc - j) ∧ j + 64 ≤ N ∧ Hid (Stm Z wr s m aj nj cj lj (X.drop j)) ∧ Hid (∀ t, atS lj t = if t ∈ (X.take j).map Prod.fst then 0 else atS l t) ∧ Hid (IntsRd wr w.heap.size (some ⟨g, 0, none⟩) N (X.map Prod.fst)) ∧ Hid (Two s m w wr)) (fun t2 _ => match t2 with | .slice _ k _ => k | _ => 0)
    case atStart => exact ⟨0, a, n, c, l, rfl, by omega, HS3, (fun t => by simp), HI3, HB3⟩
    case round =>
      obtain ⟨j, aj, nj, cj, lj, rfl, hj, HSJ, HLJ, HIJ, HTJ⟩ := hrel
      by_cases hlt : 64 < N - j
      · have hlt' : (64 : Int) < ((N - j : Nat) : Int) := by omega
        have hjl : j < X.length := by rw [HNX.out]; omega
        obtain ⟨t, v, hx⟩ : ∃ t v, X[j]? = some (t, v) := ⟨X[j].1, X[j].2, by rw [List.getElem?_eq_getElem hjl]⟩
        have hxt := HK.out (t, v) (List.mem_of_getElem? hx)
        have hxt : 1 ≤ t ∧ t ≤ 1099511627776 := hxt
        have HDL : Hid (delX (X.drop j) t = X.drop (j + 1)) := del_head HRX.out hx
        have HMB : Hid ((rightB Sp.zr lj && mayB t t) = true) := by
          (show _ = _)
          rw [(rightB_iff _ _).2 HSJ.out.ok.right, (mayB_iff t t).2 ⟨hxt.1, Int.le_refl _, hxt.2⟩]
          rfl
        have HTK : Hid ((X.take (j + 1)).map Prod.fst = (X.take j).map Prod.fst ++ [t]) := by
          (show _ = _)
          have e : X[j] = (t, v) := (List.getElem?_eq_some_iff.1 hx).2
          rw [List.take_succ_eq_append_getElem hjl, List.map_append, e]
          rfl
        obtain ⟨g', hgg, _, hg', hcell⟩ : ∃ g', some (⟨g, 0, none⟩ : Addr) = some ⟨g', 0, none⟩ ∧ w.heap.size ≤ g' ∧ g' < wr.heap.size ∧ ∀ i t, (X.map Prod.fst)[i]? = some t → wr.cell? ⟨g', i, none⟩ = some (.int .i64 t) := by
          rcases HIJ.out.cells with h0 | h0
          · exfalso
            have : (X.map Prod.fst).length = 0 := by rw [h0]; rfl
            rw [List.length_map] at this
            omega
          · exact h0
        cases hgg
        have hkt : (X.map Prod.fst)[j]? = some t := by rw [List.getElem?_map, hx]; rfl
        have r0 : wr.drew.cell? ⟨g, j, none⟩ = some (.int .i64 t) := hcell j t hkt
        have HSD : Hid (Stm Z wr.drew s m aj nj cj lj (X.drop j)) := HSJ.out.stay (Below.refl _ _).drew
        have c1 : wr.drew.cell? ⟨s, 1, none⟩ = some (.map (some m)) := HSD.out.blk.cell 1 rfl
        obtain ⟨w5, hdel, HS5, HT5⟩ := HSD.out.del (tkey_of (t := t) (by omega))
        have HTW5 : Hid (Two s m wr w5) := (Two.of_below s m (Below.refl wr.heap.size wr).drew).trans (Two.turned HT5.out)
        rw [HDL.out] at HS5
        have HIJ5 : Hid (IntsRd w5 w.heap.size (some ⟨g, 0, none⟩) N (X.map Prod.fst)) := HIJ.out.two HTW5.out hsl hml
        clear hcell
        have i0 : (0 : Int) < ((N - j : Nat) : Int) := by omega
        have i1 : 0 < N - j := by omega
        go_upto_region 2 with fail
        go_big_region
        clear hdel c1 r0 HSD
        have HSE : Hid (Stm Z w5.drew s m aj nj cj lj (X.drop (j + 1))) := HS5.out.stay (Below.refl _ _).drew
        have c0 : w5.drew.cell? ⟨s, 0, none⟩ = some (.slice aj nj cj) := HSE.out.blk.cell 0 rfl
        obtain ⟨g', hgg, _, hg', hcell⟩ : ∃ g', some (⟨g, 0, none⟩ : Addr) = some ⟨g', 0, none⟩ ∧ w.heap.size ≤ g' ∧ g' < w5.heap.size ∧ ∀ i t, (X.map Prod.fst)[i]? = some t → w5.cell? ⟨g', i, none⟩ = some (.int .i64 t) := by
          rcases HIJ5.out.cells with h0 | h0
          · exfalso
            have : (X.map Prod.fst).length = 0 := by rw [h0]; rfl
            rw [List.length_map] at this
            omega
          · exact h0
        cases hgg
        have r0 : w5.drew.cell? ⟨g, j, none⟩ = some (.int .i64 t) := hcell j t hkt
        have HFG := span_Forget aj nj cj lj t t w5.drew HSE.out.ok.rd HSE.out.ok.lc HSE.out.ok.cm
        have HSL5 : Hid (s < w5.heap.size ∧ m < w5.heap.size) := ⟨HS5.out.blk.lt, HS5.out.items.lt⟩
        clear hcell
        go_upto_region 3 with fail
        go_cut [] from 5 to 33 (fun wx => ∃ (a6 : Option Addr) (n6 c6 : Nat), Hid (Stm Z wx s m a6 n6 c6 (forgetS lj t t) (X.drop (j + 1))) ∧ Hid (Two s m w5 wx))
        case first =>
          rename_i hJ hM
          go_region_law (first
            | (go_simp; go_at_call 65; refine HFG.mono ?_; rintro e w6 ⟨hr6, hb6⟩; obtain ⟨v6, rfl, hs6⟩ : ∃ v, e = .returned (.tuple #[v, .int .i64 0]) ∧ Sps w6 w5.drew.heap.size v (forgetS lj t t) := by (rcases hr6.out with ⟨h1, _⟩ | ⟨_, h2⟩; (rw [HMB.out] at h1; cases h1); exact h2)
               have HB6 : Hid (Below w5.heap.size w5 w6) := (Below.refl w5.heap.size w5).drew.trans hb6; have d0 : w6.cell? ⟨s, 0, none⟩ = some (.slice aj nj cj) := (HS5.out.stay HB6.out).blk.cell 0 rfl; have f0 := (HS5.out.stay HB6.out).blk.free 0; have HV6 : Hid (Sps w6 w5.heap.size v6 (forgetS lj t t)) := hs6; obtain ⟨a6, n6, c6, rfl⟩ : ∃ a n c, v6 = .slice a n c := (let ⟨a, c, h, _⟩ := hs6.form; ⟨a, _, c, h⟩); clear hb6 hs6 hr6))
          all_goals (
            refine hM _ _ ?_
            go_meet
            have hrt : RightS Sp.zr (forgetS lj t t) := forget_right lj Sp.zr Sp.zr t t (Int.le_refl _) HS5.out.ok.right (Int.le_refl _) (fun _ => rfl)
            obtain ⟨a7, n7, c7, hv7, hm7⟩ := HV6.out.ok hrt
            simp only [Value.slice.injEq] at hv7
            obtain ⟨rfl, rfl, rfl⟩ := hv7
            refine ⟨a6, n6, c6, (HS5.out.stay HB6.out).setKnown hm7 (fun ad e => ?_), ((Two.of_below s m HB6.out).setCell 0 _)⟩
            subst e
            have hlt := HV6.out.row.lt ad.block rfl
            have := HSL5.out
            exact ⟨hlt.2, by omega, by omega, HS5.out.zz _ hlt.1⟩)
        case rest =>
        obtain ⟨a6, n6, c6, HS6, HT6⟩ := hcut
        clear c0 r0 HFG HSE
        have HTW6 : Hid (Two s m wr wc) := HTW5.out.trans HT6.out
        have HIJ6 : Hid (IntsRd wc w.heap.size (some ⟨g, 0, none⟩) N (X.map Prod.fst)) := HIJ.out.two HTW6.out hsl hml
        have q1 : (1 : Int) ≤ ((N - j : Nat) : Int) := by omega
        have q2 : ((N - j : Nat) : Int) ≤ ((rc - j : Nat) : Int) := by omega
        have HLN : Hid (∀ u, atS (forgetS lj t t) u = if u ∈ (X.take (j + 1)).map Prod.fst then 0 else atS l u) := by
          intro u
          rw [forget_at lj Sp.zr t t u (Int.le_refl _) (Int.le_refl _) HSJ.out.ok.right, HLJ.out u, HTK.out]
          by_cases e : u = t
          · rw [if_pos (by omega), if_pos (by rw [e]; simp)]
          · rw [if_neg (by omega)]
            by_cases e2 : u ∈ (X.take j).map Prod.fst
            · rw [if_pos e2, if_pos (List.mem_append_left _ e2)]
            · rw [if_neg e2, if_neg (by rw [List.mem_append, List.mem_singleton]; exact fun h => h.elim e2 e)]
        go_wp2
        go_roundw
        case rel =>
          refine ⟨j + 1, a6, n6, c6, forgetS lj t t, ?_, by omega, HS6, HLN, HIJ6, HTJ.out.trans HTW6.out⟩
          rw [Nat.sub_sub, Nat.sub_sub]
        case measure => simp; omega
      · have hlt' : ¬ (64 : Int) < ((N - j : Nat) : Int) := by omega
        have ej : j = N - 64 := by omega
        have HSF := HSJ.out
        have HLF := HLJ.out
        rw [ej, ← HNX.out] at HSF HLF
        go_wp2
        exact ⟨rfl, _, results_none rfl _ _ _, rfl, aj, nj, cj, lj, HSF, HLF, HTJ.out⟩
end Go.Proofs.YtidihfhgnjkmaaaGreat
/- A stream in memory by its lists; what forget leaves of them. -/
namespace Go.Proofs.YtidihfhgnjkmaaaGreat
set_option maxRecDepth 100000
open Go.RowKit Go.Maps Go.Sort Go.Shelf
variable {Z : Nat → Prop}

/-- A stream in memory that knows L and keeps X. -/
def Imp (Z : Nat → Prop) (w : World) (s m : Nat) (L : List Sp) (X : List It) : Prop := ∃ l, Str Z w s m l (getI X) ∧ ∀ t, atS l t = kk L X t
theorem Imp.stay {w w' : World} {s m : Nat} {L : List Sp} {X : List It} (h : Imp Z w s m L X) (hb : Below w.heap.size w w') : Imp Z w' s m L X := by
  obtain ⟨l, h1, h2⟩ := h
  exact ⟨l, h1.stay hb, h2⟩
theorem rise_ext : ∀ (A B : List Int), A.Pairwise (· < ·) → B.Pairwise (· < ·) → (∀ t, t ∈ A ↔ t ∈ B) → A = B
  | [], [], _, _, _ => rfl
  | [], b :: B, _, _, h => by have := (h b).2 (List.mem_cons_self ..); cases this
  | a :: A, [], _, _, h => by have := (h a).1 (List.mem_cons_self ..); cases this
  | a :: A, b :: B, ha, hb, h => by
    obtain ⟨a1, a2⟩ := List.pairwise_cons.1 ha
    obtain ⟨b1, b2⟩ := List.pairwise_cons.1 hb
    have e : a = b := by
      have h1 := (h a).1 (List.mem_cons_self ..)
      have h2 := (h b).2 (List.mem_cons_self ..)
      rcases List.mem_cons.1 h1 with e | h1
      · exact e
      · rcases List.mem_cons.1 h2 with e | h2
        · exact e.symm
        · have := a1 b h2; have := b1 a h1; omega
    subst e
    rw [rise_ext A B a2 b2 fun t => ?_]
    constructor
    · intro ht
      rcases List.mem_cons.1 ((h t).1 (List.mem_cons_of_mem _ ht)) with rfl | h1
      · have := a1 t ht; omega
      · exact h1
    · intro ht
      rcases List.mem_cons.1 ((h t).2 (List.mem_cons_of_mem _ ht)) with rfl | h1
      · have := b1 t ht; omega
      · exact h1
theorem Strm.keys {w : World} {s m : Nat} {l : List Sp} {Y : List It} {a : Option Addr} {n c : Nat} {X : List (Int × Value)} (h : Strm Z w s m l (getI Y) a n c X) (hY : RiseIt Y) : X.map Prod.fst = Y.map fun q => q.tick := by
  refine rise_ext _ _ (List.pairwise_map.2 h.stm.rise) (List.pairwise_map.2 hY) fun t => ?_
  have hi := h.its t
  constructor
  · intro ht
    obtain ⟨p, hp, rfl⟩ := List.mem_map.1 ht
    have hg := mem_get h.stm.rise hp
    cases ho : getI Y p.1 with
    | none => rw [ho] at hi; have hi : getX X p.1 = none := hi; rw [hg] at hi; cases hi
    | some q => have := getI_tick ho; exact List.mem_map.2 ⟨q, this.2, this.1⟩
  · intro ht
    obtain ⟨q, hq, rfl⟩ := List.mem_map.1 ht
    rw [getI_mem hY hq] at hi
    obtain ⟨_, _, _, ba, bc, hg, _⟩ := hi
    exact List.mem_map.2 ⟨_, get_mem hg, rfl⟩
theorem getX_none {X : List (Int × Value)} {t : Int} (h : ∀ p ∈ X, p.1 ≠ t) : getX X t = none := by
  cases hg : getX X t with
  | none => rfl
  | some v => exact absurd rfl (h _ (get_mem hg))
theorem getX_drop : ∀ (X : List (Int × Value)) (k : Nat) (t : Int), RiseX X → getX (X.drop k) t = if t ∈ (X.take k).map Prod.fst then none else getX X t
  | X, 0, t, _ => by simp
  | [], k + 1, t, _ => by simp
  | p :: X, k + 1, t, h => by
    obtain ⟨h1, h2⟩ := List.pairwise_cons.1 h
    rw [List.drop_succ_cons, List.take_succ_cons, List.map_cons, getX_drop X k t h2]
    by_cases e : p.1 = t
    · have hn : getX X t = none := getX_none fun q hq => by have := h1 q hq; omega
      rw [hn, ite_self, if_pos (by rw [e]; exact List.mem_cons_self ..)]
    · have hc : getX (p :: X) t = getX X t := by
        show (if p.1 = t then some p.2 else getX X t) = _
        rw [if_neg e]
      rw [hc]
      by_cases e2 : t ∈ (X.take k).map Prod.fst
      · rw [if_pos e2, if_pos (List.mem_cons_of_mem _ e2)]
      · rw [if_neg e2, if_neg (fun hm => (List.mem_cons.1 hm).elim (fun e3 => e e3.symm) e2)]
theorem getI_drop : ∀ (X : List It) (k : Nat) (t : Int), RiseIt X → getI (X.drop k) t = if t ∈ (X.take k).map (fun q => q.tick) then none else getI X t
  | X, 0, t, _ => by simp
  | [], k + 1, t, _ => by simp [getI]
  | p :: X, k + 1, t, h => by
    obtain ⟨h1, h2⟩ := List.pairwise_cons.1 h
    rw [List.drop_succ_cons, List.take_succ_cons, List.map_cons, getI_drop X k t h2]
    by_cases e : p.tick = t
    · have hn : getI X t = none := getI_none fun q hq => by have := h1 q hq; omega
      rw [hn, ite_self, if_pos (by rw [e]; exact List.mem_cons_self ..)]
    · have hc : getI (p :: X) t = getI X t := by
        show (if p.tick = t then some p else getI X t) = _
        rw [if_neg e]
      rw [hc]
      by_cases e2 : t ∈ (X.take k).map (fun q => q.tick)
      · rw [if_pos e2, if_pos (List.mem_cons_of_mem _ e2)]
      · rw [if_neg e2, if_neg (fun hm => (List.mem_cons.1 hm).elim (fun e3 => e e3.symm) e2)]
theorem Kn.keysIn {w : World} {s m : Nat} {l L : List Sp} {Y : List It} {a : Option Addr} {n c : Nat} {X : List (Int × Value)} (hK : Kn L Y) (h : Strm Z w s m l (getI Y) a n c X) : ∀ p ∈ X, 1 ≤ p.1 ∧ p.1 ≤ 1099511627776 := by
  intro p hp
  have : p.1 ∈ Y.map fun q => q.tick := by rw [← h.keys hK.rise]; exact List.mem_map.2 ⟨p, hp, rfl⟩
  obtain ⟨q, hq, e⟩ := List.mem_map.1 this
  rw [← e]
  exact (hK.each q hq).1
/-- What is left behind forget. -/
theorem Strm.forgot {w w' : World} {s m : Nat} {l L : List Sp} {Y : List It} {a : Option Addr} {n c : Nat} {X : List (Int × Value)} (hK : Kn L Y) (h : Strm Z w s m l (getI Y) a n c X) (hl : ∀ t, atS l t = kk L Y t) (hf : Forgot Z s m l X w w') : ∃ a' n' c' l' X', Strm Z w' s m l' (getI (Y.drop (Y.length - 64))) a' n' c' X' ∧ (∀ t, atS l' t = kk L (Y.drop (Y.length - 64)) t) ∧ Two s m w w' := by
  obtain ⟨a', n', c', l', hs, ha, ht⟩ := hf
  have hkeys := h.keys hK.rise
  have hlen : X.length = Y.length := by have := congrArg List.length hkeys; simpa using this
  rw [hlen] at hs ha
  have htk : (X.take (Y.length - 64)).map Prod.fst = (Y.take (Y.length - 64)).map fun q => q.tick := by rw [List.map_take, List.map_take, hkeys]
  have hkk : ∀ t, atS l' t = kk L (Y.drop (Y.length - 64)) t := by
    intro t
    rw [ha t, htk, hl t]
    unfold kk
    rw [getI_drop Y _ t hK.rise]
    by_cases e : t ∈ (Y.take (Y.length - 64)).map fun q => q.tick
    · rw [if_pos e, if_pos e]
      obtain ⟨q, hq, rfl⟩ := List.mem_map.1 e
      show (0 : Int) = atS L q.tick
      exact (hK.off q (List.mem_of_mem_take hq)).symm
    · rw [if_neg e, if_neg e]
  refine ⟨a', n', c', l', _, ⟨hs, fun t => ?_, fun t => ?_⟩, hkk, ht⟩
  · rw [getI_drop Y _ t hK.rise, ← htk]
    have hi := ItAt.two h.stm (h.its t) ht
    have hg := getX_drop X (Y.length - 64) t h.stm.rise
    by_cases e : t ∈ (X.take (Y.length - 64)).map Prod.fst
    · rw [if_pos e] at hg ⊢
      exact hg
    · rw [if_neg e] at hg ⊢
      exact hi.of_get hg
  · rw [hkk t]
    unfold kk
    cases hg : getI (Y.drop (Y.length - 64)) t with
    | none =>
      have := (hK.quiet t)
      simp [this]
    | some q => simp
/-- What is compared of items. -/
def tf (X : List It) : List (Int × Int) := X.map fun q => (q.tick, q.for_)
theorem tf_get : ∀ {X Y : List It}, tf X = tf Y → ∀ t, forI (getI X) t = forI (getI Y) t
  | [], [], _, _ => rfl
  | [], _ :: _, h, _ => by cases h
  | _ :: _, [], h, _ => by cases h
  | x :: X, y :: Y, h, t => by
    unfold tf at h
    rw [List.map_cons, List.map_cons, List.cons.injEq, Prod.mk.injEq] at h
    have ih := tf_get (X := X) (Y := Y) h.2 t
    unfold forI at ih ⊢
    rw [getI, getI, h.1.1]
    split
    · exact congrArg some h.1.2
    · exact ih
theorem tf_of_get {X Y : List It} (hX : RiseIt X) (hY : RiseIt Y) (h : ∀ t, forI (getI X) t = forI (getI Y) t) : tf X = tf Y := by
  have hs : ∀ t, (getI X t).isSome = (getI Y t).isSome := fun t => by
    have := h t
    unfold forI at this
    cases h1 : getI X t <;> cases h2 : getI Y t <;> rw [h1, h2] at this <;> first | rfl | cases this
  have hmem : ∀ {Z : List It}, RiseIt Z → ∀ t, t ∈ (Z.map fun q => q.tick) ↔ (getI Z t).isSome = true := by
    intro Z hZ t
    constructor
    · intro ht
      obtain ⟨q, hq, rfl⟩ := List.mem_map.1 ht
      rw [getI_mem hZ hq]
      rfl
    · intro ht
      obtain ⟨q, hq⟩ := Option.isSome_iff_exists.1 ht
      have := getI_tick hq
      exact List.mem_map.2 ⟨q, this.2, this.1⟩
  have hk : X.map (fun q => q.tick) = Y.map fun q => q.tick := rise_ext _ _ (List.pairwise_map.2 hX) (List.pairwise_map.2 hY) fun t => by rw [hmem hX, hmem hY, hs t]
  have hlen : X.length = Y.length := by have := congrArg List.length hk; simpa using this
  unfold tf
  refine List.ext_getElem? fun i => ?_
  rw [List.getElem?_map, List.getElem?_map]
  by_cases hi : i < X.length
  · have hi2 : i < Y.length := by omega
    rw [List.getElem?_eq_getElem hi, List.getElem?_eq_getElem hi2]
    have ht : X[i].tick = Y[i].tick := by
      have := congrArg (fun l => l[i]?) hk
      simp only [List.getElem?_map, List.getElem?_eq_getElem hi, List.getElem?_eq_getElem hi2, Option.map_some, Option.some.injEq] at this
      exact this
    have h1 := getI_mem hX (List.getElem_mem hi)
    have h2 := getI_mem hY (List.getElem_mem hi2)
    have h3 := h X[i].tick
    unfold forI at h3
    rw [h1, ht, h2] at h3
    have h3 : X[i].for_ = Y[i].for_ := Option.some.inj h3
    show some (X[i].tick, X[i].for_) = some (Y[i].tick, Y[i].for_)
    rw [ht, h3]
  · rw [List.getElem?_eq_none (by omega), List.getElem?_eq_none (by omega)]
/-- Whether two streams are alike, by their lists. -/
theorem same_iff {w w2 : World} {s m s2 m2 : Nat} {l l2 : List Sp} {L L2 : List Sp} {Y Y2 : List It} {a a2 : Option Addr} {n c n2 c2 : Nat} {X X2 : List (Int × Value)} (hK : Kn L Y) (hK2 : Kn L2 Y2) (h : Strm Z w s m l (getI Y) a n c X) (h2 : Strm Z w2 s2 m2 l2 (getI Y2) a2 n2 c2 X2) (hl : ∀ t, atS l t = kk L Y t) (hl2 : ∀ t, atS l2 t = kk L2 Y2 t) : (l = l2 ∧ SameX X X2) ↔ (L = L2 ∧ tf Y = tf Y2) := by
  have hoff : ∀ {L : List Sp} {Y : List It}, Kn L Y → ∀ t, (getI Y t).isSome = true → atS L t = 0 := by
    intro L Y hK t ht
    obtain ⟨q, hq⟩ := Option.isSome_iff_exists.1 ht
    have := getI_tick hq
    rw [← this.1]
    exact hK.off q this.2
  constructor
  · rintro ⟨rfl, hS⟩
    have hsup : ∀ t, (getI Y t).isSome = (getI Y2 t).isSome := fun t => by rw [Bool.eq_iff_iff, ← h.data t, ← h2.data t]
    have hf : ∀ t, forI (getI Y) t = forI (getI Y2) t := fun t => by
      rw [← h.forV t, ← h2.forV t]
      cases hg : getX X t with
      | none =>
        have hn : getI Y t = none := by
          have hi := h.its t
          cases ho : getI Y t with
          | none => rfl
          | some q => rw [ho] at hi; obtain ⟨_, _, _, _, _, h4, _⟩ := hi; rw [hg] at h4; cases h4
        have hn2 : getI Y2 t = none := by have := hsup t; rw [hn] at this; cases h3 : getI Y2 t with | none => rfl | some q => rw [h3] at this; cases this
        have hi2 := h2.its t
        rw [hn2] at hi2
        have hi2 : getX X2 t = none := hi2
        rw [hi2]
      | some v =>
        obtain ⟨v2, e1, e2⟩ := hS.2 t v hg
        rw [e1]
        exact congrArg some e2
    refine ⟨canonS L L2 _ _ hK.right hK2.right fun t => ?_, tf_of_get hK.rise hK2.rise hf⟩
    have e := (hl t).symm.trans (hl2 t)
    unfold kk at e
    have hs := hsup t
    cases h1 : (getI Y t).isSome with
    | true => rw [hoff hK t h1, hoff hK2 t (hs ▸ h1)]
    | false =>
      rw [h1] at hs e
      rw [← hs] at e
      simpa using e
  · rintro ⟨rfl, ht⟩
    have hf := tf_get ht
    have hsup : ∀ t, (getI Y t).isSome = (getI Y2 t).isSome := fun t => by
      have := hf t
      unfold forI at this
      cases h1 : getI Y t <;> cases h2 : getI Y2 t <;> rw [h1, h2] at this <;> first | rfl | cases this
    refine ⟨canonS l l2 _ _ h.stm.ok.right h2.stm.ok.right fun t => ?_, same_of h h2 hf⟩
    rw [hl t, hl2 t]
    unfold kk
    rw [hsup t]
end Go.Proofs.YtidihfhgnjkmaaaGreat
/- Stream.Learn of any Tell that may be, by the stream's lists. -/
namespace Go.Proofs.YtidihfhgnjkmaaaGreat
set_option maxRecDepth 100000
open Go.RowKit Go.Maps Go.Sort Go.Shelf
variable {Z : Nat → Prop}

def keptX (L1 : List Sp) (X : List It) (p : Pc) : List It := keepsX L1 (quietX L1 X) p.items
theorem learn_ok {L L1 : List Sp} {X : List It} {p : Pc} (hK : Kn L X) (hp : TellOk p) (hj : Joins L p.spans L1) : Kn L1 (keptX L1 X p) ∧ steps (fun t => max (kk L X t) (atS p.spans t)) (onlyI (fun t => max (kk L X t) (atS p.spans t)) (getI X)) p.items = (kk L1 (keptX L1 X p), getI (keptX L1 X p)) ∧ (keptX L1 X p).length ≤ X.length + p.items.length := by
  obtain ⟨h1, h2, h3⟩ := hK.join hp.right hp.quiet hj
  obtain ⟨a, b, c⟩ := keeps_ok p.items h1 hp.each
  refine ⟨a, ?_, Nat.le_trans c (Nat.add_le_add_right (List.length_filter_le _ _) _)⟩
  rw [h3, h2]
  exact b
theorem learnX_kn {L L1 : List Sp} {X : List It} {p : Pc} (hK : Kn L X) (hp : TellOk p) (hj : Joins L p.spans L1) : Kn L1 (learnX L1 X p) ∧ (learnX L1 X p).length ≤ 64 := by
  refine ⟨(learn_ok hK hp hj).1.sub (List.drop_sublist _ _), ?_⟩
  show ((keptX L1 X p).drop ((keptX L1 X p).length - 64)).length ≤ 64
  rw [List.length_drop]
  omega
/-- What Learn tells. -/
def LearnTo (Z : Nat → Prop) (s m : Nat) (L L1 : List Sp) (X : List It) (p : Pc) (w : World) (e : Ending) (w' : World) : Prop := (∃ r : Bool, e = .returned (.tuple #[.bool r, .int .i64 0]) ∧ (r = true ↔ ¬ (L1 = L ∧ tf (learnX L1 X p) = tf X))) ∧ Imp Z w' s m L1 (learnX L1 X p) ∧ Two s m w w'
set_option maxHeartbeats 8000000 in
theorem st_LearnG {w : World} {s m : Nat} {L L1 : List Sp} {X : List It} (h : Imp Z w s m L X) (hK : Kn L X) (hX : X.length ≤ 64) {p : Pc} (hp : TellOk p) (hj : Joins L p.spans L1) {sa : Option Addr} {sn sc : Nat} {ia : Option Addr} {im ic : Nat} (hr : PcRd w p sa sn sc ia im ic) :
    Calls Tryz.prog 12 #[.pointer (some ⟨s, 0, none⟩), p.val sa sn sc ia im ic] w fun e w' => LearnTo Z s m L L1 X p w e w' := by
  obtain ⟨l, h, hlk⟩ := h
  obtain ⟨I, HIX⟩ : ∃ I, Hid (I = getI X) := ⟨_, rfl⟩
  obtain ⟨hm1, hm2, hm3⟩ := learn_ok hK hp hj
  have h8 := (chk_tell hp.kind hp.chk).2.1
  rw [← HIX.out] at h
  obtain ⟨Y, HYE⟩ : ∃ Y, Hid (Y = keptX L1 X p) := ⟨_, rfl⟩
  have HKY : Hid (Kn L1 Y ∧ Y.length ≤ 1000) := by
    (show _ ∧ _)
    rw [HYE.out]
    exact ⟨hm1, by omega⟩
  have HMM : Hid (steps (fun t => max (atS l t) (atS p.spans t)) (onlyI (fun t => max (atS l t) (atS p.spans t)) I) p.items = (kk L1 Y, getI Y)) := by
    (show _ = _)
    rw [HYE.out, HIX.out, show (fun t => max (atS l t) (atS p.spans t)) = fun t => max (kk L X t) (atS p.spans t) from funext fun t => by rw [hlk t]]
    exact hm2
  have HKX : Hid (Kn L X ∧ ∀ t, atS l t = kk L X t) := ⟨hK, hlk⟩
  obtain ⟨T, HTE⟩ : ∃ T, Hid (T = X.map (fun q => q.tick) ++ p.items.map fun q => q.tick) := ⟨_, rfl⟩
  have hT : ∀ t, (I t).isSome = true → t ∈ T := fun t ht => by
    rw [HIX.out] at ht
    obtain ⟨q, hq⟩ := Option.isSome_iff_exists.1 ht
    have := getI_tick hq
    rw [HTE.out]
    exact List.mem_append_left _ (List.mem_map.2 ⟨q, this.2, this.1⟩)
  have hTl : T.length ≤ 1000 := by rw [HTE.out, List.length_append, List.length_map, List.length_map]; omega
  have hpT : ∀ q ∈ p.items, q.tick ∈ T := fun q hq => by rw [HTE.out]; exact List.mem_append_right _ (List.mem_map.2 ⟨q, hq, rfl⟩)
  have HLTO : Hid (∀ (r : Bool) w', (r = true ↔ ¬ (L1 = L ∧ tf (Y.drop (Y.length - 64)) = tf X)) → Imp Z w' s m L1 (Y.drop (Y.length - 64)) → Two s m w w' → LearnTo Z s m L L1 X p w (.returned (.tuple #[.bool r, .int .i64 0])) w') := by
    intro r w' a b c
    rw [HYE.out] at a b
    exact ⟨⟨r, rfl, a⟩, b, c⟩
  obtain ⟨POST, HPO⟩ : ∃ P : Ending → World → Prop, Hid (P = fun e w' => LearnTo Z s m L L1 X p w e w') := ⟨_, rfl⟩
  have hpost : (fun e w' => LearnTo Z s m L L1 X p w e w') = fun e w' => POST e w' := HPO.out.symm
  rw [hpost]
  clear hpost
  have HLTP : Hid (∀ (r : Bool) w', (r = true ↔ ¬ (L1 = L ∧ tf (Y.drop (Y.length - 64)) = tf X)) → Imp Z w' s m L1 (Y.drop (Y.length - 64)) → Two s m w w' → POST (.returned (.tuple #[.bool r, .int .i64 0])) w') := by rw [HPO.out]; exact HLTO.out
  clear hm1 hm2 hm3 h8 hK hX hlk hj HLTO HPO HYE HTE
  have HSTR : Hid (Str Z w s m l I) := h
  obtain ⟨a0, n0, c0, X0, hs0⟩ := h
  have hsl := hs0.stm.blk.lt
  have hml := hs0.stm.items.lt
  have HT : Hid (∀ t, (I t).isSome = true → t ∈ T) := hT
  have HTL : Hid (T.length ≤ 1000) := hTl
  have HPT : Hid (∀ q ∈ p.items, q.tick ∈ T) := hpT
  have HE : Hid (∀ q ∈ p.items, (1 ≤ q.tick ∧ q.tick ≤ 1099511627776) ∧ (0 ≤ q.for_ ∧ q.for_ ≤ 4294967295) ∧ q.body.length ≤ 400) := hp.each
  have HRT : Hid (RightS Sp.zr p.spans ∧ ∀ t, atS p.spans t ≠ 1) := ⟨hp.right, hp.quiet⟩
  have hkind := hp.kind
  have HCH : Hid (chk p = 0) := hp.chk
  obtain ⟨PL, HPL⟩ : ∃ PL, Hid (PL = p) := ⟨_, rfl⟩
  have HPR : Hid (PcRd w p sa sn sc ia im ic) := hr
  clear hT hTl hpT hr hp
  obtain ⟨pk, pp, ps, pn, pf, pt, pl, pi⟩ := p
  simp only at hkind
  subst hkind
  obtain ⟨W1, HW1⟩ : ∃ W1, Hid (W1 = w.alloc (.cells #[.int .i64 1, .int .i64 pp, .int .i64 ps, .int .i64 pn, .int .i64 pf, .int .i64 pt, .slice sa sn sc, .slice ia im ic] 33)) := ⟨_, rfl⟩
  have HX1 : Hid (Below w.heap.size w W1) := by (show Below _ _ _); rw [HW1.out]; exact below_alloc w _
  have HK1 : Hid (Bk W1 w.heap.size #[.int .i64 1, .int .i64 pp, .int .i64 ps, .int .i64 pn, .int .i64 pf, .int .i64 pt, .slice sa sn sc, .slice ia im ic] 33) := by (show Bk _ _ _ _); rw [HW1.out]; exact Bk.new w _ _
  have HS1 : Hid (Strm Z W1 s m l I a0 n0 c0 X0) := hs0.stay HX1.out
  have HP1 : Hid (PcRd W1 ⟨1, pp, ps, pn, pf, pt, pl, pi⟩ sa sn sc ia im ic) := HPR.out.below HX1.out
  have HCK : Hid (Calls Tryz.prog 13 #[.agg #[.int .i64 1, .int .i64 pp, .int .i64 ps, .int .i64 pn, .int .i64 pf, .int .i64 pt, .slice sa sn sc, .slice ia im ic]] W1 fun e w' => e = .returned (.int .i64 0) ∧ Below W1.heap.size W1 w') := by
    have := pc_Check ⟨1, pp, ps, pn, pf, pt, pl, pi⟩ sa sn sc ia im ic W1 HP1.out
    rw [HCH.out] at this
    exact this
  have k0 : W1.cell? ⟨w.heap.size, 0, none⟩ = some (.int .i64 1) := HK1.out.cell 0 rfl
  have k1 : W1.cell? ⟨w.heap.size, 1, none⟩ = some (.int .i64 pp) := HK1.out.cell 1 rfl
  have k2 : W1.cell? ⟨w.heap.size, 2, none⟩ = some (.int .i64 ps) := HK1.out.cell 2 rfl
  have k3 : W1.cell? ⟨w.heap.size, 3, none⟩ = some (.int .i64 pn) := HK1.out.cell 3 rfl
  have k4 : W1.cell? ⟨w.heap.size, 4, none⟩ = some (.int .i64 pf) := HK1.out.cell 4 rfl
  have k5 : W1.cell? ⟨w.heap.size, 5, none⟩ = some (.int .i64 pt) := HK1.out.cell 5 rfl
  have k6 : W1.cell? ⟨w.heap.size, 6, none⟩ = some (.slice sa sn sc) := HK1.out.cell 6 rfl
  have k7 : W1.cell? ⟨w.heap.size, 7, none⟩ = some (.slice ia im ic) := HK1.out.cell 7 rfl
  have himl : im ≤ 9223372036854775807 := Nat.le_trans HPR.out.il (Nat.le_trans HPR.out.im_ (by decide))
  have HIM : Hid (pi.length = im) := HPR.out.items.size
  clear hs0 HPR HSTR
  unfold Pc.val
  simp only
  go_enter Tryz.func12, Tryz.ntmps12
  go_upto_region 3 with fail
  rw [← HW1.out]
  go_wp2_with fail
  refine HCK.out.mono ?_
  rintro e w2 ⟨rfl, hb2⟩
  have HK2 : Hid (Bk w2 w.heap.size #[.int .i64 1, .int .i64 pp, .int .i64 ps, .int .i64 pn, .int .i64 pf, .int .i64 pt, .slice sa sn sc, .slice ia im ic] 33) := HK1.out.stay hb2
  have HS2 : Hid (Strm Z w2 s m l I a0 n0 c0 X0) := HS1.out.stay hb2
  have HP2 : Hid (PcRd w2 ⟨1, pp, ps, pn, pf, pt, pl, pi⟩ sa sn sc ia im ic) := HP1.out.below hb2
  have HX2 : Hid (Below w.heap.size w w2) := HX1.out.trans (hb2.mono HX1.out.size)
  have q0 : w2.cell? ⟨w.heap.size, 0, none⟩ = some (.int .i64 1) := HK2.out.cell 0 rfl
  clear hb2 k0 k1 k2 k3 k4 k5 k6 k7 HK1 HS1 HP1 HX1 HCK HW1
  go_wp2_with fail
  refine (st_Fork HS2.out.stm).mono ?_
  rintro e w3 ⟨s2, m2, rfl, hs3, ⟨z1, z2⟩, hb3⟩
  have hszw := HX2.out.size
  have HF3 : Hid (Stm Z w3 s2 m2 a0 n0 c0 l X0) := hs3
  have HK3 : Hid (Bk w3 w.heap.size #[.int .i64 1, .int .i64 pp, .int .i64 ps, .int .i64 pn, .int .i64 pf, .int .i64 pt, .slice sa sn sc, .slice ia im ic] 33) := HK2.out.stay hb3
  have HS3 : Hid (Strm Z w3 s m l I a0 n0 c0 X0) := HS2.out.stay hb3
  have HP3 : Hid (PcRd w3 ⟨1, pp, ps, pn, pf, pt, pl, pi⟩ sa sn sc ia im ic) := HP2.out.below hb3
  have HX3 : Hid (Below w.heap.size w w3) := HX2.out.trans (hb3.mono HX2.out.size)
  have q6 : w3.cell? ⟨w.heap.size, 6, none⟩ = some (.slice sa sn sc) := HK3.out.cell 6 rfl
  have HAP : Hid (∀ ad, a0 = some ad → ad.block ≠ s ∧ ad.block ≠ m) := fun ad e => ⟨(HS2.out.stm.apart ad e).2.1, (HS2.out.stm.apart ad e).2.2.1⟩
  clear hs3 hb3 HK2 HS2 HP2 HX2 q0
  go_wp2_with fail
  refine (str_join ⟨a0, n0, c0, X0, HS3.out⟩ HT.out (Nat.le_trans HTL.out (by omega)) (b := sa) (nb := sn) (cb := sc) (l2 := pl) ⟨HP3.out.spans, HP3.out.sl, HP3.out.sm, HRT.out.1⟩ HRT.out.2).mono ?_
  rintro e w4 ⟨rfl, ⟨l4, hs4, ht4⟩, hb4⟩
  have HS4 : Hid (Str Z w4 s m l4 (steps (fun t => max (atS l t) (atS pl t)) (onlyI (fun t => max (atS l t) (atS pl t)) I) (pi.take 0)).2) := hs4
  have HL4 : Hid (∀ t, atS l4 t = (steps (fun t => max (atS l t) (atS pl t)) (onlyI (fun t => max (atS l t) (atS pl t)) I) (pi.take 0)).1 t) := ht4
  have HK4 : Hid (Bk w4 w.heap.size #[.int .i64 1, .int .i64 pp, .int .i64 ps, .int .i64 pn, .int .i64 pf, .int .i64 pt, .slice sa sn sc, .slice ia im ic] 33) := Two.bk HK3.out hb4 (by omega) (by omega)
  have HF4 : Hid (Stm Z w4 s2 m2 a0 n0 c0 l X0) := HF3.out.two hb4 (by omega) (by omega) (by omega) (by omega) HAP.out
  have HI4 : Hid (ItsRd w4 ia im pi) := ItsRd.two HS3.out.stm HP3.out.items hb4
  have HT4 : Hid (Two s m w w4) := (Two.of_below s m HX3.out).trans hb4
  have HO3 : Hid (Strm Z w3 s m l I a0 n0 c0 X0) := HS3.out
  have q7 : w4.cell? ⟨w.heap.size, 7, none⟩ = some (.slice ia im ic) := HK4.out.cell 7 rfl
  clear hs4 ht4 hb4 HF3 HK3 HS3 HP3 HX3 q6
  go_wp2
  go_loopw [29] (fun t29 wr => ∃ (i : Nat) (li : List Sp), t29 = .int .i64 (i : Int) ∧ i ≤ im ∧ Hid (Str Z wr s m li (steps (fun t => max (atS l t) (atS pl t)) (onlyI (fun t => max (atS l t) (atS pl t)) I) (pi.take i)).2) ∧ Hid (∀ t, atS li t = (steps (fun t => max (atS l t) (atS pl t)) (onlyI (fun t => max (atS l t) (atS pl t)) I) (pi.take i)).1 t) ∧ Hid (Stm Z wr s2 m2 a0 n0 c0 l X0) ∧ Hid (ItsRd wr ia im pi) ∧ Hid (Two s m w wr)) (fun t29 _ => im - (intOf t29).toNat)
  case atStart => exact ⟨0, l4, rfl, by omega, HS4, HL4, HF4, HI4, HT4⟩
  case round =>
    obtain ⟨i, li, rfl, hi, HSI, HLI, HFI, HII, HTI⟩ := hrel
    clear HS4 HL4 HF4 HI4 HT4 HK4 q7
    by_cases hlt : i < im
    · have hlt' : (i : Int) < (im : Int) := by omega
      have gi : (0 : Int) ≤ (i : Int) := by omega
      obtain ⟨g, o, rfl, hg, q, hq, d0, d1, ba, bl, bc, d2, hrd, hb0, hlc, hcm⟩ := HII.out.at_ i hlt
      have HQ : Hid (pi[i]? = some q) := hq
      have hqm : q ∈ pi := List.mem_of_getElem? hq
      have HEQ := HE.out q hqm
      have HRD : Hid (Rd wr ba bl q.body) := hrd
      have HTK : Hid (pi.take (i + 1) = pi.take i ++ [q]) := by
        (show _ = _)
        have hil : i < pi.length := by rw [HIM.out]; exact hlt
        rw [List.take_succ_eq_append_getElem hil]
        have := List.getElem?_eq_getElem hil
        rw [this] at hq
        rw [Option.some.inj hq]
      have HKP : Hid (∀ W, Below wr.heap.size wr W → Calls Tryz.prog 35 #[.pointer (some ⟨s, 0, none⟩), .agg #[.int .i64 q.tick, .int .u32 q.for_, .slice ba bl bc]] W fun e w' => e = .returned (.tuple #[]) ∧ (∃ l', Str Z w' s m l' (keepI (steps (fun t => max (atS l t) (atS pl t)) (onlyI (fun t => max (atS l t) (atS pl t)) I) (pi.take i)).1 (steps (fun t => max (atS l t) (atS pl t)) (onlyI (fun t => max (atS l t) (atS pl t)) I) (pi.take i)).2 q) ∧ ∀ u, atS l' u = keepK (steps (fun t => max (atS l t) (atS pl t)) (onlyI (fun t => max (atS l t) (atS pl t)) I) (pi.take i)).1 q u) ∧ Two s m W w') := fun W hW => str_keep (HSI.out.stay hW) HLI.out (steps_in _ _ _ (onlyI_in HT.out) (fun x hx => HPT.out x (List.mem_of_mem_take hx))) (Nat.le_trans HTL.out (by omega)) HEQ.1 HEQ.2.1 HEQ.2.2 (HRD.out.below hW)
      obtain ⟨qt, qf, qb⟩ := q
      simp only at d0 d1 HKP
      have HBX : Hid (Below wr.heap.size wr (wr.alloc (.cells #[.int .i64 qt, .int .u32 qf, .slice ba bl bc] 54))) := below_alloc wr _
      clear hrd hb0 hlc hcm hq hqm HEQ HRD
      go_wp2_with fail
      refine (HKP.out _ HBX.out).mono ?_
      rintro e w5 ⟨rfl, ⟨l5, hs5, ht5⟩, hb5⟩
      have HT5 : Hid (Two s m wr w5) := (Two.of_below s m HBX.out).trans hb5
      have HS5 : Hid (Str Z w5 s m l5 (steps (fun t => max (atS l t) (atS pl t)) (onlyI (fun t => max (atS l t) (atS pl t)) I) (pi.take (i + 1))).2) := by (show Str Z _ _ _ _ _); rw [HTK.out, steps_snoc]; exact hs5
      have HL5 : Hid (∀ t, atS l5 t = (steps (fun t => max (atS l t) (atS pl t)) (onlyI (fun t => max (atS l t) (atS pl t)) I) (pi.take (i + 1))).1 t) := by (show ∀ _, _); rw [HTK.out, steps_snoc]; exact ht5
      have HF5 : Hid (Stm Z w5 s2 m2 a0 n0 c0 l X0) := HFI.out.two HT5.out (by omega) (by omega) (by omega) (by omega) HAP.out
      have HI5 : Hid (ItsRd w5 (some ⟨g, o, none⟩) im pi) := by
        obtain ⟨a9, n9, c9, X9, h9⟩ := HSI.out
        exact ItsRd.two h9.stm HII.out HT5.out
      clear hs5 ht5 hb5 d0 d1 d2 HKP
      go_wp2
      go_roundw
      case rel => exact ⟨i + 1, l5, by go_num, by omega, HS5, HL5, HF5, HI5, HTI.out.trans HT5.out⟩
      case measure => simp [intOf]; omega
    · have hnl : ¬ (i : Int) < (im : Int) := by omega
      obtain rfl : i = im := by omega
      have hfin := HSI.out
      have hlfin := HLI.out
      rw [← HIM.out, List.take_length] at hfin hlfin
      obtain ⟨a5, n5, c5, X5, hs5⟩ := hfin
      have HS5 : Hid (Strm Z wr s m li (steps (fun t => max (atS l t) (atS pl t)) (onlyI (fun t => max (atS l t) (atS pl t)) I) pi).2 a5 n5 c5 X5) := hs5
      have HLF : Hid (∀ t, atS li t = (steps (fun t => max (atS l t) (atS pl t)) (onlyI (fun t => max (atS l t) (atS pl t)) I) pi).1 t) := hlfin
      have HX5 : Hid (X5.length ≤ 1000) := Nat.le_trans (hs5.few (steps_in _ _ _ (onlyI_in HT.out) HPT.out)) HTL.out
      clear hs5 hlfin HSI HLI HII
      have hMM := HMM.out
      rw [hMM] at HS5 HLF
      have HKI : Hid (∀ p ∈ X5, 1 ≤ p.1 ∧ p.1 ≤ 1099511627776) := HKY.out.1.keysIn HS5.out
      clear hMM
      go_wp2_with fail
      refine (st_forget HS5.out.stm HX5.out HKI.out).mono ?_
      rintro e w6 ⟨rfl, hf6⟩
      obtain ⟨a6, n6, c6, l6, X6, hs6, hk6, ht6⟩ := HS5.out.forgot HKY.out.1 HLF.out hf6
      have HS6 : Hid (Strm Z w6 s m l6 (getI (Y.drop (Y.length - 64))) a6 n6 c6 X6) := hs6
      have HK6 : Hid (∀ t, atS l6 t = kk L1 (Y.drop (Y.length - 64)) t) := hk6
      have HF6 : Hid (Stm Z w6 s2 m2 a0 n0 c0 l X0) := HFI.out.two ht6 (by omega) (by omega) (by omega) (by omega) HAP.out
      have HT6 : Hid (Two s m wr w6) := ht6
      clear hf6 hs6 hk6 ht6 HS5 HFI
      go_wp2_with fail
      refine (st_same HS6.out.stm HF6.out HS6.out.items_ HO3.out.items_).mono ?_
      rintro e w7 ⟨⟨r, rfl, hr⟩, hb7⟩
      have HR : Hid (r = true ↔ l6 = l ∧ SameX X6 X0) := hr
      have HT7 : Hid (Two s m wr w7) := HT6.out.trans (Two.of_below s m hb7)
      have HS7 : Hid (Strm Z w7 s m l6 (getI (Y.drop (Y.length - 64))) a6 n6 c6 X6) := HS6.out.stay hb7
      clear hb7 hr HS6
      go_wp2
      show POST (.returned (.tuple #[.bool (!r), .int .i64 0])) w7
      refine HLTP.out (!r) w7 ?_ ⟨l6, ⟨a6, n6, c6, X6, HS7.out⟩, HK6.out⟩ (HTI.out.trans HT7.out)
      have h0 := HO3.out
      rw [HIX.out] at h0
      have hsi := same_iff (HKY.out.1.sub (List.drop_sublist _ _)) HKX.out.1 HS7.out h0 HK6.out HKX.out.2
      rw [← hsi, ← HR.out]
      cases r <;> simp
end Go.Proofs.YtidihfhgnjkmaaaGreat
/- Stream.Lose. -/
namespace Go.Proofs.YtidihfhgnjkmaaaGreat
set_option maxRecDepth 100000
open Go.RowKit Go.Maps Go.Sort Go.Shelf
variable {Z : Nat → Prop}

theorem RightS.same {p p' : Sp} {l : List Sp} (h : RightS p l) (h1 : p'.to = p.to) (h2 : p'.is = p.is) : RightS p' l := by
  cases l with
  | nil => trivial
  | cons s l =>
    obtain ⟨a, b, c, d, e, f, g⟩ := h
    exact ⟨by omega, b, c, d, e, by rw [h1, h2]; exact f, g⟩
/-- Whatever may be known of ticks is known by a right list. -/
theorem right_of (K : Int → Int) (h0 : ∀ u, 0 ≤ K u ∧ K u ≤ 3) (h1 : ∀ u, u < 1 → K u = 0) (h2 : ∀ u, 1099511627776 < u → K u = 0) : ∃ l, RightS Sp.zr l ∧ ∀ u, atS l u = K u := by
  have key : ∀ n : Nat, n ≤ 1099511627776 → ∃ l, (∀ u, atS l u = if 1099511627777 - (n : Int) ≤ u then K u else 0) ∧ (l = [] ∨ ∃ s r, l = s :: r ∧ 1099511627777 - (n : Int) ≤ s.fr ∧ s.fr ≤ s.to ∧ s.to ≤ 1099511627776 ∧ 1 ≤ s.is ∧ s.is ≤ 3 ∧ RightS s r) := by
    intro n
    induction n with
    | zero =>
      intro _
      refine ⟨[], fun u => ?_, .inl rfl⟩
      show (0 : Int) = _
      split
      · exact (h2 u (by omega)).symm
      · rfl
    | succ n ih =>
      intro hn
      obtain ⟨l, ha, hl⟩ := ih (by omega)
      obtain ⟨f, hf⟩ : ∃ f : Int, f = 1099511627777 - ((n + 1 : Nat) : Int) := ⟨_, rfl⟩
      have hf1 : 1099511627777 - (n : Int) = f + 1 := by omega
      rw [hf1] at ha hl
      rw [← hf]
      have hk := h0 f
      by_cases hz : K f = 0
      · refine ⟨l, fun u => ?_, ?_⟩
        · rw [ha u]
          by_cases e : u = f
          · rw [if_neg (by omega), if_pos (by omega), e, hz]
          · by_cases e2 : f ≤ u
            · rw [if_pos (by omega), if_pos e2]
            · rw [if_neg (by omega), if_neg e2]
        · rcases hl with h | ⟨s, r, h, a, b⟩
          · exact .inl h
          · exact .inr ⟨s, r, h, by omega, b⟩
      · have fresh : (∀ s r, l = s :: r → ¬ (s.fr = f + 1 ∧ s.is = K f)) → ∃ l, (∀ u, atS l u = if f ≤ u then K u else 0) ∧ (l = [] ∨ ∃ s r, l = s :: r ∧ f ≤ s.fr ∧ s.fr ≤ s.to ∧ s.to ≤ 1099511627776 ∧ 1 ≤ s.is ∧ s.is ≤ 3 ∧ RightS s r) := by
          intro hno
          refine ⟨⟨f, f, K f⟩ :: l, fun u => ?_, .inr ⟨⟨f, f, K f⟩, l, rfl, Int.le_refl _, Int.le_refl _, by show f ≤ _; omega, by show 1 ≤ K f; omega, hk.2, ?_⟩⟩
          · rw [atS, ha u]
            by_cases e : u = f
            · rw [if_pos ⟨by show f ≤ u; omega, by show u ≤ f; omega⟩, if_pos (by omega), e]
            · have hn : ¬ (f ≤ u ∧ u ≤ f) := by omega
              rw [if_neg hn]
              by_cases e2 : f ≤ u
              · rw [if_pos (by omega), if_pos e2]
              · rw [if_neg (by omega), if_neg e2]
          · rcases hl with h | ⟨s, r, h, a, b, c, d, e, g⟩
            · rw [h]; trivial
            · have := hno s r h
              rw [h]
              exact ⟨by show f < _; omega, b, c, d, e, this, g⟩
        rcases hl with h | ⟨s, r, h, a, b, c, d, e, g⟩
        · exact fresh fun s r h' => by rw [h] at h'; cases h'
        · by_cases hg : s.fr = f + 1 ∧ s.is = K f
          · refine ⟨⟨f, s.to, s.is⟩ :: r, fun u => ?_, .inr ⟨_, _, rfl, Int.le_refl _, by show f ≤ s.to; omega, c, d, e, g.same rfl rfl⟩⟩
            have hu := ha u
            rw [h, atS] at hu
            rw [atS]
            by_cases e1 : u = f
            · rw [if_pos ⟨by show f ≤ u; omega, by show u ≤ s.to; omega⟩, if_pos (by omega), e1]
              exact hg.2
            · by_cases e2 : s.fr ≤ u ∧ u ≤ s.to
              · rw [if_pos e2, if_pos (by omega)] at hu
                rw [if_pos ⟨by show f ≤ u; omega, by show u ≤ s.to; omega⟩, if_pos (by omega)]
                exact hu
              · rw [if_neg e2] at hu
                have hn : ¬ (f ≤ u ∧ u ≤ s.to) := by omega
                rw [if_neg hn, hu]
                by_cases e3 : f ≤ u
                · rw [if_pos (by omega), if_pos e3]
                · rw [if_neg (by omega), if_neg e3]
          · exact fresh fun s' r' h' => by rw [h] at h'; cases h'; exact hg
  obtain ⟨l, ha, hl⟩ := key 1099511627776 (Nat.le_refl _)
  have e1 : 1099511627777 - ((1099511627776 : Nat) : Int) = 1 := by omega
  rw [e1] at ha hl
  refine ⟨l, ?_, fun u => ?_⟩
  · rcases hl with h | ⟨s, r, h, a, b, c, d, e, g⟩
    · rw [h]; trivial
    · rw [h]
      exact ⟨by show (0 : Int) < _; omega, b, c, d, e, fun hh => by have : s.is = 0 := hh.2; omega, g⟩
  · rw [ha u]
    by_cases e : 1 ≤ u
    · rw [if_pos e]
    · rw [if_neg e, h1 u (by omega)]
theorem joins_ex {L P : List Sp} (hL : RightS Sp.zr L) (hP : RightS Sp.zr P) : ∃ L1, Joins L P L1 := by
  obtain ⟨l, a, b⟩ := right_of (fun u => max (atS L u) (atS P u)) (fun u => by have := atS_range hL u; have := atS_range hP u; omega) (fun u hu => by rw [atS_low hL (show u ≤ Sp.zr.to by show u ≤ 0; omega), atS_low hP (show u ≤ Sp.zr.to by show u ≤ 0; omega)]; rfl) (fun u hu => by rw [atS_high hL hu, atS_high hP hu]; rfl)
  exact ⟨l, a, b⟩
def endL (t next : Int) : List Sp := if next ≤ t then [⟨next, t, 3⟩] else []
/-- Ticks that are neither silent nor lost. -/
def loudS (t : Int) : List Sp → Int → List Sp
  | [], next => endL t next
  | k :: l, next => if k.is = 1 then loudS t l next else if t < k.fr then endL t next else (if next < k.fr then [⟨next, k.fr - 1, 3⟩] else []) ++ loudS t l (k.to + 1)
theorem endL_right {t next : Int} {pp : Sp} (h1 : pp.to < next) (h2 : next = pp.to + 1 → pp.is ≠ 3) (ht : t ≤ 1099511627776) : RightS pp (endL t next) := by
  unfold endL
  split
  · exact ⟨h1, by assumption, ht, (by decide : (1 : Int) ≤ 3), Int.le_refl _, fun h => h2 h.1 h.2.symm, trivial⟩
  · trivial
theorem loud_right {t : Int} (ht : t ≤ 1099511627776) : ∀ (l : List Sp) (p pp : Sp) (next : Int), RightS p l → next ≤ p.to + 1 → pp.to < next → (next = pp.to + 1 → pp.is ≠ 3) → RightS pp (loudS t l next)
  | [], _, _, _, _, _, h1, h2 => endL_right h1 h2 ht
  | k :: l, p, pp, next, ⟨a, b, c, d, e, f, g⟩, hn, h1, h2 => by
    rw [loudS]
    by_cases hd : k.is = 1
    · rw [if_pos hd]
      exact loud_right ht l k pp next g (by omega) h1 h2
    · rw [if_neg hd]
      by_cases hf : t < k.fr
      · rw [if_pos hf]
        exact endL_right h1 h2 ht
      · rw [if_neg hf]
        by_cases hg : next < k.fr
        · rw [if_pos hg]
          exact ⟨h1, by show next ≤ k.fr - 1; omega, by show k.fr - 1 ≤ _; omega, (by decide : (1 : Int) ≤ 3), Int.le_refl _, fun h => h2 h.1 h.2.symm, loud_right ht l k _ _ g (Int.le_refl _) (by show k.fr - 1 < k.to + 1; omega) (fun h => by have h : k.to + 1 = k.fr - 1 + 1 := h; omega)⟩
        · rw [if_neg hg]
          exact loud_right ht l k pp _ g (Int.le_refl _) (by omega) (fun h => by omega)
theorem loud_at {t : Int} : ∀ (l : List Sp) (p : Sp) (next u : Int), RightS p l → next ≤ p.to + 1 → atS (loudS t l next) u = if next ≤ u ∧ u ≤ t ∧ (atS l u = 0 ∨ atS l u = 1) then 3 else 0
  | [], _, next, u, _, _ => by
    rw [loudS, endL]
    by_cases h : next ≤ t
    · rw [if_pos h]
      show (if next ≤ u ∧ u ≤ t then (3 : Int) else 0) = _
      by_cases e : next ≤ u ∧ u ≤ t
      · rw [if_pos e, if_pos ⟨e.1, e.2, .inl rfl⟩]
      · rw [if_neg e, if_neg (fun h => e ⟨h.1, h.2.1⟩)]
    · rw [if_neg h, if_neg (by omega)]
      rfl
  | k :: l, p, next, u, ⟨a, b, c, d, e, f, g⟩, hn => by
    have hin : ∀ v, v ≤ k.to → atS l v = 0 := fun v hv => atS_low g hv
    rw [loudS]
    by_cases hd : k.is = 1
    · rw [if_pos hd, loud_at l k next u g (by omega), atS]
      by_cases hu : k.fr ≤ u ∧ u ≤ k.to
      · rw [if_pos hu, hin u hu.2, hd]
        by_cases h3 : next ≤ u ∧ u ≤ t
        · rw [if_pos ⟨h3.1, h3.2, .inl rfl⟩, if_pos ⟨h3.1, h3.2, .inr rfl⟩]
        · rw [if_neg (fun h => h3 ⟨h.1, h.2.1⟩), if_neg (fun h => h3 ⟨h.1, h.2.1⟩)]
      · rw [if_neg hu]
    · rw [if_neg hd]
      by_cases hf : t < k.fr
      · rw [if_pos hf, endL]
        have hz : u ≤ t → atS (k :: l) u = 0 := fun hu => by rw [atS, if_neg (by omega), hin u (by omega)]
        by_cases h : next ≤ t
        · rw [if_pos h]
          show (if next ≤ u ∧ u ≤ t then (3 : Int) else 0) = _
          by_cases e : next ≤ u ∧ u ≤ t
          · rw [if_pos e, if_pos ⟨e.1, e.2, .inl (hz e.2)⟩]
          · rw [if_neg e, if_neg (fun h => e ⟨h.1, h.2.1⟩)]
        · rw [if_neg h, if_neg (by omega)]
          rfl
      · rw [if_neg hf]
        have ih := loud_at (t := t) l k (k.to + 1) u g (Int.le_refl _)
        have hres : atS ((if next < k.fr then [(⟨next, k.fr - 1, 3⟩ : Sp)] else []) ++ loudS t l (k.to + 1)) u = if next ≤ u ∧ u < k.fr then 3 else atS (loudS t l (k.to + 1)) u := by
          by_cases hg : next < k.fr
          · rw [if_pos hg]
            show (if next ≤ u ∧ u ≤ k.fr - 1 then (3 : Int) else atS _ u) = _
            by_cases e : next ≤ u ∧ u < k.fr
            · rw [if_pos e, if_pos (by omega)]
            · rw [if_neg e, if_neg (by omega)]
              rfl
          · rw [if_neg hg, if_neg (by omega)]
            rfl
        rw [hres, ih, atS]
        by_cases h1 : next ≤ u ∧ u < k.fr
        · rw [if_pos h1, if_neg (show ¬ (k.fr ≤ u ∧ u ≤ k.to) by omega), hin u (by omega), if_pos ⟨h1.1, by omega, .inl rfl⟩]
        · rw [if_neg h1]
          by_cases h2 : k.fr ≤ u ∧ u ≤ k.to
          · rw [if_pos h2, if_neg (fun h => by omega), if_neg (fun h => by omega)]
          · rw [if_neg h2]
            by_cases h3 : k.to + 1 ≤ u
            · by_cases h4 : u ≤ t ∧ (atS l u = 0 ∨ atS l u = 1)
              · rw [if_pos ⟨h3, h4⟩, if_pos ⟨by omega, h4⟩]
              · rw [if_neg (fun h => h4 h.2), if_neg (fun h => h4 h.2)]
            · rw [if_neg (fun h => h3 h.1), if_neg (fun h => by omega)]
/-- What is known behind Lose. -/
def loseK (L : List Sp) (t u : Int) : Int := if 1 ≤ u ∧ u ≤ t ∧ atS L u ≠ 2 then 3 else atS L u
structure Lost (L : List Sp) (t : Int) (L1 : List Sp) : Prop where
  right : RightS Sp.zr L1
  at_ : ∀ u, atS L1 u = loseK L t u
theorem lost_ex {L : List Sp} (hL : RightS Sp.zr L) {t : Int} (ht : t ≤ 1099511627776) : ∃ L1, Lost L t L1 := by
  obtain ⟨l, a, b⟩ := right_of (loseK L t) (fun u => by have := atS_range hL u; unfold loseK; split <;> omega) (fun u hu => by unfold loseK; rw [if_neg (by omega)]; exact atS_low hL (show u ≤ 0 by omega)) (fun u hu => by unfold loseK; rw [if_neg (by omega)]; exact atS_high hL hu)
  exact ⟨l, a, b⟩
/-- A list that is lost where nothing is silent. -/
theorem lostP_ex {L : List Sp} {t : Int} (ht : t ≤ 1099511627776) : ∃ P, RightS Sp.zr P ∧ ∀ u, atS P u = if 1 ≤ u ∧ u ≤ t ∧ atS L u ≠ 2 then 3 else 0 :=
  right_of _ (fun u => by split <;> omega) (fun u hu => if_neg (by omega)) (fun u hu => if_neg (by omega))
theorem Kn.lose {L L1 : List Sp} {X : List It} {t : Int} (h : Kn L X) (ht : t ≤ 1099511627776) (hl : Lost L t L1) : Kn L1 (quietX L1 X) ∧ ∀ lo : Int → Int, (∀ u, lo u = if 1 ≤ u ∧ u ≤ t ∧ (kk L X u = 0 ∨ kk L X u = 1) then 3 else 0) → (fun u => max (kk L X u) (lo u)) = kk L1 (quietX L1 X) ∧ onlyI (fun u => max (kk L X u) (lo u)) (getI X) = getI (quietX L1 X) := by
  obtain ⟨P, hP, hat⟩ := lostP_ex (L := L) ht
  have hj : Joins L P L1 := ⟨hl.right, fun u => by
    have hr := atS_range h.right u
    rw [hl.at_ u, hat u]
    unfold loseK
    split
    · omega
    · omega⟩
  obtain ⟨a, b, c⟩ := h.join hP (fun u => by rw [hat u]; split <;> omega) hj
  refine ⟨a, fun lo hlo => ?_⟩
  have e : (fun u => max (kk L X u) (lo u)) = fun u => max (kk L X u) (atS P u) := by
    funext u
    have hr := atS_range h.right u
    have hq := h.quiet u
    rw [hlo u, hat u]
    by_cases hu : 1 ≤ u ∧ u ≤ t
    · cases hg : getI X u with
      | some q =>
        have := getI_tick hg
        have h0 := h.off q this.2
        rw [this.1] at h0
        have hk : kk L X u = 1 := by unfold kk; rw [hg]; rfl
        have h2 : atS L u ≠ 2 := by omega
        rw [hk, if_pos (show 1 ≤ u ∧ u ≤ t ∧ ((1 : Int) = 0 ∨ (1 : Int) = 1) from ⟨hu.1, hu.2, .inr rfl⟩), if_pos (show 1 ≤ u ∧ u ≤ t ∧ atS L u ≠ 2 from ⟨hu.1, hu.2, h2⟩)]
      | none =>
        have hk : kk L X u = atS L u := by unfold kk; rw [hg]; rfl
        rw [hk]
        by_cases h2 : atS L u = 2
        · have n1 : ¬ (1 ≤ u ∧ u ≤ t ∧ (atS L u = 0 ∨ atS L u = 1)) := by omega
          have n2 : ¬ (1 ≤ u ∧ u ≤ t ∧ atS L u ≠ 2) := fun h => h.2.2 h2
          rw [if_neg n1, if_neg n2]
        · have n2 : 1 ≤ u ∧ u ≤ t ∧ atS L u ≠ 2 := ⟨hu.1, hu.2, h2⟩
          rw [if_pos n2]
          by_cases h3 : atS L u = 3
          · have n1 : ¬ (1 ≤ u ∧ u ≤ t ∧ (atS L u = 0 ∨ atS L u = 1)) := by omega
            rw [if_neg n1, h3]; rfl
          · have n1 : 1 ≤ u ∧ u ≤ t ∧ (atS L u = 0 ∨ atS L u = 1) := ⟨hu.1, hu.2, by omega⟩
            rw [if_pos n1]
    · rw [if_neg (fun h => hu ⟨h.1, h.2.1⟩), if_neg (fun h => hu ⟨h.1, h.2.1⟩)]
  rw [e]
  exact ⟨b, c⟩
set_option maxHeartbeats 4000000 in
theorem st_loud {w : World} {s m : Nat} {a : Option Addr} {n c : Nat} {l : List Sp} {X : List (Int × Value)} (h : Stm Z w s m a n c l X) {t : Int} (ht : 0 ≤ t ∧ t ≤ 1099511627776) :
    Calls Tryz.prog 47 #[.pointer (some ⟨s, 0, none⟩), .int .i64 t] w fun e w' => (∃ v, e = .returned v ∧ Sps w' w.heap.size v (loudS t l 1)) ∧ Below w.heap.size w w' := by
  have HS : Hid (Stm Z w s m a n c l X) := h
  have HR : Hid (RightS Sp.zr l) := h.ok.right
  have HRD : Hid (SpsRd w a n l) := h.ok.rd
  have HNL : Hid (l.length = n) := h.ok.rd.size
  have hn : n ≤ 9223372036854775807 := Nat.le_trans h.ok.lc h.ok.cm
  have HSH : Hid ((loudS t l 1).length ≤ 1099511627776) := right_short (loud_right ht.2 l Sp.zr Sp.zr 1 h.ok.right (by decide) (by decide) (fun _ => by decide))
  have c0 : w.cell? ⟨s, 0, none⟩ = some (.slice a n c) := h.blk.cell 0 rfl
  obtain ⟨ht0, ht1⟩ := ht
  clear h
  go_enter Tryz.func47, Tryz.ntmps47
  go_wp2
  clear c0
  go_loopw [5, 6, 14] (fun t5 t6 t14 wr => ∃ (i : Nat) (av : Option Addr) (nv cv : Nat) (out : List Sp) (next : Int) (p : Sp), t14 = .int .i64 (i : Int) ∧ t5 = .slice av nv cv ∧ t6 = .int .i64 next ∧ i ≤ n ∧ 1 ≤ next ∧ next ≤ 1099511627777 ∧ Hid (RightS p (l.drop i) ∧ next ≤ p.to + 1) ∧ Hid (Sps wr w.heap.size (.slice av nv cv) out) ∧ Hid (out ++ loudS t (l.drop i) next = loudS t l 1) ∧ Hid (Below w.heap.size w wr)) (fun _ _ t14 _ => n - (intOf t14).toNat)
  case atStart => exact ⟨0, none, 0, 0, [], 1, Sp.zr, rfl, rfl, rfl, Nat.zero_le _, Int.le_refl _, by omega, ⟨HR.out, by decide⟩, Sps.nil_ _ _, rfl, Below.refl _ _⟩
  case round =>
    obtain ⟨i, av, nv, cv, out, next, p, rfl, rfl, rfl, hi, hn1, hn2, HP, HV, HE, HB⟩ := hrel
    have HLO : Hid (out.length ≤ 2000000000000) := by
      (show _ ≤ _)
      have h1 := HSH.out
      rw [← HE.out, List.length_append] at h1
      omega
    by_cases hlt : i < n
    · have hlt' : (i : Int) < (n : Int) := by omega
      have gi : (0 : Int) ≤ (i : Int) := by omega
      obtain ⟨g, o, rfl, hg, q, hq, d0, d1, d2⟩ := (HRD.out.below HB.out).at_ i hlt
      have HD : Hid (l.drop i = q :: l.drop (i + 1)) := drop_at hq
      obtain ⟨qf, qt, qi⟩ := q
      simp only at d0 d1 d2
      have HPP : Hid (RightS p (⟨qf, qt, qi⟩ :: l.drop (i + 1)) ∧ next ≤ p.to + 1) := by (show _ ∧ _); rw [← HD.out]; exact HP.out
      obtain ⟨a1, a2, a3, a4, a5, a6, a7⟩ := HPP.out.1
      have hpn := HPP.out.2
      simp only at a1 a2 a3 a4 a5 a6 a7
      have HR7 : Hid (RightS ⟨qf, qt, qi⟩ (l.drop (i + 1))) := a7
      clear a6 a7 hq hg
      obtain ⟨W1, HW1⟩ : ∃ W1, Hid (W1 = wr.alloc (.cells #[.int .i64 qf, .int .i64 qt, .int .i64 qi] 62)) := ⟨_, rfl⟩
      have HB1 : Hid (Below wr.heap.size wr W1) := by (show Below _ _ _); rw [HW1.out]; exact below_new wr _
      have HBB : Hid (Below w.heap.size w W1) := HB.out.trans (HB1.out.mono HB.out.size)
      have HV1 : Hid (Sps W1 w.heap.size (.slice av nv cv) out) := HV.out.below HB1.out
      have HK1 : Hid (Bk W1 wr.heap.size #[.int .i64 qf, .int .i64 qt, .int .i64 qi] 62) := by (show Bk _ _ _ _); rw [HW1.out]; exact Bk.new wr _ _
      have k0 : W1.cell? ⟨wr.heap.size, 0, none⟩ = some (.int .i64 qf) := HK1.out.cell 0 rfl
      have k1 : W1.cell? ⟨wr.heap.size, 1, none⟩ = some (.int .i64 qt) := HK1.out.cell 1 rfl
      have k2 : W1.cell? ⟨wr.heap.size, 2, none⟩ = some (.int .i64 qi) := HK1.out.cell 2 rfl
      go_upto_region 6 with fail
      rw [← HW1.out]
      by_cases hd : qi = 1
      · have HEN : Hid (out ++ loudS t (l.drop (i + 1)) next = loudS t l 1) := by
          (show _ = _)
          have he := HE.out
          rw [HD.out, loudS, if_pos hd] at he
          exact he
        clear d0 d1 d2
        go_wp2
        go_roundw
        case rel => exact ⟨i + 1, av, nv, cv, out, next, ⟨qf, qt, qi⟩, by go_num, rfl, rfl, by omega, hn1, hn2, ⟨HR7.out, by show next ≤ qt + 1; omega⟩, HV1, HEN, HBB⟩
        case measure => simp [intOf]; omega
      · by_cases hf : t < qf
        · clear d0 d1 d2
          have HEL : Hid (out ++ endL t next = loudS t l 1) := (by (show _ = _); have he := HE.out; rw [HD.out, loudS, if_neg hd, if_pos hf] at he; exact he)
          by_cases hnt : next ≤ t
          · have HB2 : Hid (Below W1.heap.size W1 (W1.alloc (.cells #[.int .i64 next, .int .i64 t, .int .i64 3] 62))) := below_new _ _
            have HV2 : Hid (Sps (W1.alloc (.cells #[.int .i64 next, .int .i64 t, .int .i64 3] 62)) w.heap.size (.slice av nv cv) out) := HV1.out.below HB2.out
            have HT2 : Hid (∀ j u, (⟨next, t, 3⟩ : Sp).cells.toList[j]? = some u → (W1.alloc (.cells #[.int .i64 next, .int .i64 t, .int .i64 3] 62)).cell? ((⟨W1.heap.size, 0, none⟩ : Addr).add j) = some u) := Sp.told (q := ⟨next, t, 3⟩) (Bk.new _ _ _)
            have HS2 : Hid (w.heap.size ≤ (W1.alloc (.cells #[.int .i64 next, .int .i64 t, .int .i64 3] 62)).heap.size) := Nat.le_trans HBB.out.size HB2.out.size
            go_wp2_with (at_builtin; refine wpList_append_sp rfl (.tmp 44) (.tmp 48) rfl w.heap.size (.slice av nv cv) out rfl HV2.out ⟨W1.heap.size, 0, none⟩ 1 ⟨next, t, 3⟩ rfl HT2.out (Nat.le_trans HLO.out (by decide)) HS2.out ?_)
            intro v' w' ho hg
            have HO : Hid (Sps w' w.heap.size v' (loudS t l 1)) := by
              (show Sps _ _ _ _)
              have he := HEL.out
              rw [endL, if_pos hnt] at he
              rw [← he]
              exact ho
            have HG : Hid (Below w.heap.size w w') := (HBB.out.trans (HB2.out.mono HBB.out.size)).trans (HV2.out.grown HS2.out hg)
            clear ho hg
            go_wp2
            go_ret
            exact ⟨⟨v', rfl, HO.out⟩, HG.out⟩
          · have HO : Hid (Sps W1 w.heap.size (.slice av nv cv) (loudS t l 1)) := by
              (show Sps _ _ _ _)
              have he := HEL.out
              rw [endL, if_neg hnt, List.append_nil] at he
              rw [← he]
              exact HV1.out
            go_wp2
            go_ret
            exact ⟨⟨_, rfl, HO.out⟩, HBB.out⟩

        · have HE2 : Hid (out ++ ((if next < qf then [(⟨next, qf - 1, 3⟩ : Sp)] else []) ++ loudS t (l.drop (i + 1)) (qt + 1)) = loudS t l 1) := by
            (show _ = _)
            have he := HE.out
            rw [HD.out, loudS, if_neg hd, if_neg hf] at he
            exact he
          by_cases hg : next < qf
          · have HB2 : Hid (Below W1.heap.size W1 (W1.alloc (.cells #[.int .i64 next, .int .i64 (qf - 1), .int .i64 3] 62))) := below_new _ _
            have HV2 : Hid (Sps (W1.alloc (.cells #[.int .i64 next, .int .i64 (qf - 1), .int .i64 3] 62)) w.heap.size (.slice av nv cv) out) := HV1.out.below HB2.out
            have HT2 : Hid (∀ j u, (⟨next, qf - 1, 3⟩ : Sp).cells.toList[j]? = some u → (W1.alloc (.cells #[.int .i64 next, .int .i64 (qf - 1), .int .i64 3] 62)).cell? ((⟨W1.heap.size, 0, none⟩ : Addr).add j) = some u) := Sp.told (q := ⟨next, qf - 1, 3⟩) (Bk.new _ _ _)
            have HS2 : Hid (w.heap.size ≤ (W1.alloc (.cells #[.int .i64 next, .int .i64 (qf - 1), .int .i64 3] 62)).heap.size) := Nat.le_trans HBB.out.size HB2.out.size
            clear d0 d1 d2
            go_wp2_with (at_builtin; refine wpList_append_sp rfl (.tmp 29) (.tmp 35) rfl w.heap.size (.slice av nv cv) out rfl HV2.out ⟨W1.heap.size, 0, none⟩ 1 ⟨next, qf - 1, 3⟩ rfl HT2.out (Nat.le_trans HLO.out (by decide)) HS2.out ?_)
            intro v' w' ho hgr
            obtain ⟨av', cv', rfl, _⟩ := ho.form
            have HO : Hid (Sps w' w.heap.size (.slice av' (out ++ [(⟨next, qf - 1, 3⟩ : Sp)]).length cv') (out ++ [(⟨next, qf - 1, 3⟩ : Sp)])) := ho
            have HG : Hid (Below w.heap.size w w') := (HBB.out.trans (HB2.out.mono HBB.out.size)).trans (HV2.out.grown HS2.out hgr)
            have HEN : Hid ((out ++ [(⟨next, qf - 1, 3⟩ : Sp)]) ++ loudS t (l.drop (i + 1)) (qt + 1) = loudS t l 1) := by
              (show _ = _)
              have he := HE2.out
              rw [if_pos hg] at he
              rw [List.append_assoc]
              exact he
            have k1 : w'.cell? ⟨wr.heap.size, 1, none⟩ = some (.int .i64 qt) := by
              have h1 := ((HK1.out.stay HB2.out).grown hgr ?_).cell 1 rfl
              · exact h1
              · intro e
                exact absurd (HV.out.row.lt _ e.symm).2 (Nat.lt_irrefl _)
            generalize (out ++ [(⟨next, qf - 1, 3⟩ : Sp)]) = out2 at HO HEN
            obtain ⟨n2, hn2⟩ : ∃ n2, out2.length = n2 := ⟨_, rfl⟩
            rw [hn2] at HO ⊢
            clear ho hgr hn2
            go_wp2
            go_roundw
            case rel => exact ⟨i + 1, av', n2, cv', out2, qt + 1, ⟨qf, qt, qi⟩, by go_num, rfl, rfl, by omega, by omega, by omega, ⟨HR7.out, Int.le_refl _⟩, HO, HEN, HG⟩
            case measure => simp [intOf]; omega
          · have HEN : Hid (out ++ loudS t (l.drop (i + 1)) (qt + 1) = loudS t l 1) := by
              (show _ = _)
              have he := HE2.out
              rw [if_neg hg] at he
              exact he
            clear d0 d1 d2
            go_wp2
            go_roundw
            case rel => exact ⟨i + 1, av, nv, cv, out, qt + 1, ⟨qf, qt, qi⟩, by go_num, rfl, rfl, by omega, by omega, by omega, ⟨HR7.out, Int.le_refl _⟩, HV1, HEN, HBB⟩
            case measure => simp [intOf]; omega
    · have hnl : ¬ (i : Int) < (n : Int) := by omega
      have HEL : Hid (out ++ endL t next = loudS t l 1) := (by (show _ = _); have he := HE.out; rw [List.drop_of_length_le (by rw [HNL.out]; omega), loudS] at he; exact he)
      by_cases hnt : next ≤ t
      · have HB2 : Hid (Below wr.heap.size wr (wr.alloc (.cells #[.int .i64 next, .int .i64 t, .int .i64 3] 62))) := below_new _ _
        have HV2 : Hid (Sps (wr.alloc (.cells #[.int .i64 next, .int .i64 t, .int .i64 3] 62)) w.heap.size (.slice av nv cv) out) := HV.out.below HB2.out
        have HT2 : Hid (∀ j u, (⟨next, t, 3⟩ : Sp).cells.toList[j]? = some u → (wr.alloc (.cells #[.int .i64 next, .int .i64 t, .int .i64 3] 62)).cell? ((⟨wr.heap.size, 0, none⟩ : Addr).add j) = some u) := Sp.told (q := ⟨next, t, 3⟩) (Bk.new _ _ _)
        have HS2 : Hid (w.heap.size ≤ (wr.alloc (.cells #[.int .i64 next, .int .i64 t, .int .i64 3] 62)).heap.size) := Nat.le_trans HB.out.size HB2.out.size
        go_wp2_with (at_builtin; refine wpList_append_sp rfl (.tmp 44) (.tmp 48) rfl w.heap.size (.slice av nv cv) out rfl HV2.out ⟨wr.heap.size, 0, none⟩ 1 ⟨next, t, 3⟩ rfl HT2.out (Nat.le_trans HLO.out (by decide)) HS2.out ?_)
        intro v' w' ho hg
        have HO : Hid (Sps w' w.heap.size v' (loudS t l 1)) := by
          (show Sps _ _ _ _)
          have he := HEL.out
          rw [endL, if_pos hnt] at he
          rw [← he]
          exact ho
        have HG : Hid (Below w.heap.size w w') := (HB.out.trans (HB2.out.mono HB.out.size)).trans (HV2.out.grown HS2.out hg)
        clear ho hg
        go_wp2
        go_ret
        exact ⟨⟨v', rfl, HO.out⟩, HG.out⟩
      · have HO : Hid (Sps wr w.heap.size (.slice av nv cv) (loudS t l 1)) := by
          (show Sps _ _ _ _)
          have he := HEL.out
          rw [endL, if_neg hnt, List.append_nil] at he
          rw [← he]
          exact HV.out
        go_wp2
        go_ret
        exact ⟨⟨_, rfl, HO.out⟩, HB.out⟩

/-- What Lose tells. -/
def LoseTo (Z : Nat → Prop) (s m : Nat) (L1 : List Sp) (X : List It) (w : World) (e : Ending) (w' : World) : Prop := e = .returned (.int .i64 0) ∧ Imp Z w' s m L1 (quietX L1 X) ∧ Two s m w w'
set_option maxHeartbeats 4000000 in
theorem st_Lose {w : World} {s m : Nat} {L L1 : List Sp} {X : List It} (h : Imp Z w s m L X) (hK : Kn L X) (hX : X.length ≤ 64) {t : Int} (ht : 0 ≤ t ∧ t ≤ 1099511627776) (hl : Lost L t L1) :
    Calls Tryz.prog 23 #[.pointer (some ⟨s, 0, none⟩), .int .i64 t] w fun e w' => LoseTo Z s m L1 X w e w' := by
  obtain ⟨l, hs, hlk⟩ := h
  obtain ⟨a, n, c, Y, hst⟩ := hs
  obtain ⟨_, hm⟩ := hK.lose ht.2 hl
  have hlo : ∀ u, atS (loudS t l 1) u = if 1 ≤ u ∧ u ≤ t ∧ (kk L X u = 0 ∨ kk L X u = 1) then 3 else 0 := fun u => by rw [loud_at l Sp.zr 1 u hst.stm.ok.right (by decide), hlk u]
  obtain ⟨m1, m2⟩ := hm _ hlo
  have HM1 : Hid ((fun u => max (atS l u) (atS (loudS t l 1) u)) = kk L1 (quietX L1 X)) := by
    (show _ = _)
    rw [← m1]
    funext u
    rw [hlk u]
  have HM2 : Hid (onlyI (fun u => max (atS l u) (atS (loudS t l 1) u)) (getI X) = getI (quietX L1 X)) := by
    (show _ = _)
    rw [← m2, HM1.out, m1]
  have HLR : Hid (RightS Sp.zr (loudS t l 1) ∧ ∀ u, atS (loudS t l 1) u ≠ 1) := ⟨loud_right ht.2 l Sp.zr Sp.zr 1 hst.stm.ok.right (by decide) (by decide) (fun _ => by decide), fun u => by rw [hlo u]; split <;> omega⟩
  have HTT : Hid (∀ u, (getI X u).isSome = true → u ∈ X.map fun q => q.tick) := fun u hu => by
    obtain ⟨q, hq⟩ := Option.isSome_iff_exists.1 hu
    have := getI_tick hq
    exact List.mem_map.2 ⟨q, this.2, this.1⟩
  have HTL : Hid ((X.map fun q => q.tick).length ≤ 1000) := by (show _ ≤ _); rw [List.length_map]; omega
  have HST : Hid (Strm Z w s m l (getI X) a n c Y) := hst
  obtain ⟨POST, HPO⟩ : ∃ P : Ending → World → Prop, Hid (P = fun e w' => LoseTo Z s m L1 X w e w') := ⟨_, rfl⟩
  have hpost : (fun e w' => LoseTo Z s m L1 X w e w') = fun e w' => POST e w' := HPO.out.symm
  rw [hpost]
  obtain ⟨ht0, ht1⟩ := ht
  have HT : Hid (0 ≤ t ∧ t ≤ 1099511627776) := ⟨ht0, ht1⟩
  have n0 : ¬ t < 0 := by omega
  have n1 : ¬ (1099511627776 : Int) < t := by omega
  clear hpost hlk hst hm hlo m1 m2 hK hX hl
  go_enter Tryz.func23, Tryz.ntmps23
  go_wp2_with fail
  refine (st_loud HST.out.stm HT.out).mono ?_
  rintro e w1 ⟨⟨v, rfl, hv⟩, hb1⟩
  obtain ⟨va, vn, vc, rfl, hok⟩ := hv.ok HLR.out.1
  have HOK : Hid (MapOk w1 va vn vc (loudS t l 1)) := hok
  have HS1 : Hid (Str Z w1 s m l (getI X)) := ⟨a, n, c, Y, HST.out.stay hb1⟩
  have HB1 : Hid (Below w.heap.size w w1) := hb1
  clear hv hok hb1
  go_wp2_with fail
  refine (str_join HS1.out HTT.out HTL.out HOK.out HLR.out.2).mono ?_
  rintro e w2 ⟨rfl, ⟨l2, hs2, ha2⟩, ht2⟩
  rw [HM2.out] at hs2
  have HI2 : Hid (Imp Z w2 s m L1 (quietX L1 X)) := ⟨l2, hs2, fun u => by rw [ha2 u]; exact congrFun HM1.out u⟩
  have HT2 : Hid (Two s m w w2) := (Two.of_below s m HB1.out).trans ht2
  clear hs2 ha2 ht2
  go_wp2
  rw [HPO.out]
  exact ⟨rfl, HI2.out, HT2.out⟩
theorem st_Lose_bad (w : World) (s : Nat) {t : Int} (ht : ¬ (0 ≤ t ∧ t ≤ 1099511627776)) : Calls Tryz.prog 23 #[.pointer (some ⟨s, 0, none⟩), .int .i64 t] w fun e w' => e = .returned (.int .i64 2) ∧ Below w.heap.size w w' := by
  by_cases h0 : t < 0
  · clear ht
    go_enter Tryz.func23, Tryz.ntmps23
    go_wp2
    go_returns
    exact ⟨rfl, Below.refl _ _⟩
  · have h1 : (1099511627776 : Int) < t := by omega
    clear ht
    go_enter Tryz.func23, Tryz.ntmps23
    go_wp2
    go_returns
    exact ⟨rfl, Below.refl _ _⟩
end Go.Proofs.YtidihfhgnjkmaaaGreat
/- What is told of a range, as pieces: spans and items by rising ticks. -/
namespace Go.Proofs.YtidihfhgnjkmaaaGreat

abbrev Pce := Sp × It
def zIt : It := ⟨0, 0, []⟩
/-- Pieces that rise, as few as can be. -/
def RightP (p : Sp) : List Pce → Prop
  | [] => True
  | c :: r => p.to < c.1.fr ∧ c.1.fr ≤ c.1.to ∧ c.1.to ≤ 1099511627776 ∧ 1 ≤ c.1.is ∧ c.1.is ≤ 3 ∧ ¬ (c.1.fr = p.to + 1 ∧ c.1.is = p.is ∧ c.1.is ≠ 1) ∧ (c.1.is = 1 → c.1.to = c.1.fr ∧ c.2.tick = c.1.fr) ∧ (c.1.is ≠ 1 → c.2 = zIt) ∧ RightP c.1 r
/-- What they say of a tick. -/
def kP : List Pce → Int → Int
  | [], _ => 0
  | c :: r, u => if c.1.fr ≤ u ∧ u ≤ c.1.to then c.1.is else kP r u
def iP : List Pce → Int → It
  | [], _ => zIt
  | c :: r, u => if c.1.fr ≤ u ∧ u ≤ c.1.to then c.2 else iP r u
theorem low_P : ∀ {P : List Pce} {p : Sp}, RightP p P → ∀ {t : Int}, t ≤ p.to → kP P t = 0 ∧ iP P t = zIt
  | [], _, _, _, _ => ⟨rfl, rfl⟩
  | c :: r, p, ⟨a1, a2, a3, a4, a5, a6, a7, a8, a9⟩, t, ht => by
    rw [kP, iP, if_neg (by omega), if_neg (by omega)]
    exact low_P a9 (by omega)
theorem next_P {P : List Pce} {p : Sp} (h : RightP p P) (h0 : p.is ≠ 0) (h1 : p.is ≠ 1) : kP P (p.to + 1) ≠ p.is := by
  cases P with
  | nil => exact Ne.symm h0
  | cons c r =>
    obtain ⟨a1, a2, a3, a4, a5, a6, a7, a8, a9⟩ := h
    rw [kP]
    split
    · rename_i hc
      intro e
      exact a6 ⟨by omega, e, by omega⟩
    · rename_i hc
      rw [(low_P a9 (t := p.to + 1) (by omega)).1]
      exact Ne.symm h0
theorem RightP.any {c : Pce} {r : List Pce} {p : Sp} (h : RightP p (c :: r)) : RightP ⟨0, c.1.fr - 1, 0⟩ (c :: r) := by
  obtain ⟨a1, a2, a3, a4, a5, a6, a7, a8, a9⟩ := h
  exact ⟨by show c.1.fr - 1 < _; omega, a2, a3, a4, a5, fun e => by have : c.1.is = 0 := e.2.1; omega, a7, a8, a9⟩
theorem canonP : ∀ (P Q : List Pce) (p q : Sp), RightP p P → RightP q Q → (∀ t, kP P t = kP Q t) → (∀ t, iP P t = iP Q t) → P = Q
  | [], [], _, _, _, _, _, _ => rfl
  | [], d :: s, _, _, _, ⟨_, b2, _, b4, _⟩, hk, _ => by
    have := hk d.1.fr
    rw [kP, kP, if_pos ⟨Int.le_refl _, b2⟩] at this
    omega
  | c :: r, [], _, _, ⟨_, a2, _, a4, _⟩, _, hk, _ => by
    have := hk c.1.fr
    rw [kP, kP, if_pos ⟨Int.le_refl _, a2⟩] at this
    omega
  | c :: r, d :: s, p, q, hP, hQ, hk, hi => by
    have lc := fun {t} (ht : t < c.1.fr) => low_P hP.any (t := t) (by show t ≤ c.1.fr - 1; omega)
    have ld := fun {t} (ht : t < d.1.fr) => low_P hQ.any (t := t) (by show t ≤ d.1.fr - 1; omega)
    obtain ⟨a1, a2, a3, a4, a5, a6, a7, a8, a9⟩ := hP
    obtain ⟨b1, b2, b3, b4, b5, b6, b7, b8, b9⟩ := hQ
    have kc : ∀ u, c.1.fr ≤ u → u ≤ c.1.to → kP (c :: r) u = c.1.is := fun u h1 h2 => by rw [kP, if_pos ⟨h1, h2⟩]
    have kd : ∀ u, d.1.fr ≤ u → u ≤ d.1.to → kP (d :: s) u = d.1.is := fun u h1 h2 => by rw [kP, if_pos ⟨h1, h2⟩]
    have oc : ∀ u, ¬ (c.1.fr ≤ u ∧ u ≤ c.1.to) → kP (c :: r) u = kP r u ∧ iP (c :: r) u = iP r u := fun u h => ⟨by rw [kP, if_neg h], by rw [iP, if_neg h]⟩
    have od : ∀ u, ¬ (d.1.fr ≤ u ∧ u ≤ d.1.to) → kP (d :: s) u = kP s u ∧ iP (d :: s) u = iP s u := fun u h => ⟨by rw [kP, if_neg h], by rw [iP, if_neg h]⟩
    have hfr : c.1.fr = d.1.fr := by
      rcases Int.lt_trichotomy c.1.fr d.1.fr with h | h | h
      · have h1 := hk c.1.fr
        rw [kc _ (Int.le_refl _) a2, (ld h).1] at h1
        omega
      · exact h
      · have h1 := hk d.1.fr
        rw [kd _ (Int.le_refl _) b2, (lc h).1] at h1
        omega
    have his : c.1.is = d.1.is := by
      have h1 := hk c.1.fr
      rw [kc _ (Int.le_refl _) a2, kd _ (by omega) (by omega)] at h1
      exact h1
    have hto : c.1.to = d.1.to := by
      by_cases e1 : c.1.is = 1
      · rw [(a7 e1).1, (b7 (by omega)).1, hfr]
      · rcases Int.lt_trichotomy c.1.to d.1.to with h | h | h
        · have h1 := hk (c.1.to + 1)
          rw [(oc _ (by omega)).1, kd _ (by omega) (by omega), ← his] at h1
          exact absurd h1 (next_P a9 (by omega) e1)
        · exact h
        · have h1 := hk (d.1.to + 1)
          rw [(od _ (by omega)).1, kc _ (by omega) (by omega), his] at h1
          exact absurd h1.symm (next_P b9 (by omega) (by omega))
    have hit : c.2 = d.2 := by
      have h1 := hi c.1.fr
      rw [iP, iP, if_pos ⟨Int.le_refl _, a2⟩, if_pos ⟨by omega, by omega⟩] at h1
      exact h1
    have hcd : c = d := by
      obtain ⟨⟨cf, ct, ci⟩, cq⟩ := c
      obtain ⟨⟨df, dt, di⟩, dq⟩ := d
      simp only at hfr his hto hit
      rw [hfr, his, hto, hit]
    have hrs : ∀ t, kP r t = kP s t ∧ iP r t = iP s t := by
      intro t
      by_cases ht : t ≤ c.1.to
      · have h1 := low_P a9 ht
        have h2 := low_P b9 (t := t) (by omega)
        rw [h1.1, h1.2, h2.1, h2.2]
        exact ⟨rfl, rfl⟩
      · have h1 := oc t (by omega)
        have h2 := od t (by omega)
        rw [← h1.1, ← h1.2, ← h2.1, ← h2.2]
        exact ⟨hk t, hi t⟩
    rw [hcd, canonP r s c.1 d.1 a9 b9 (fun t => (hrs t).1) (fun t => (hrs t).2)]
theorem RightP_len : ∀ (P : List Pce) (p : Sp), RightP p P → p.to ≤ 1099511627776 → p.to + P.length ≤ 1099511627776
  | [], p, _, h => by simpa using h
  | c :: r, p, ⟨a1, a2, a3, a4, a5, a6, a7, a8, a9⟩, h => by
    have := RightP_len r c.1 a9 a3
    rw [List.length_cons]
    omega
/-- The last one. -/
def lastP (p : Sp) : List Pce → Sp
  | [] => p
  | c :: r => lastP c.1 r
theorem lastP_snoc : ∀ (A : List Pce) (c : Pce) (p : Sp), lastP p (A ++ [c]) = c.1
  | [], _, _ => rfl
  | _ :: A, c, _ => lastP_snoc A c _
/-- A piece more: a span that goes on with the last one is no piece of its own. -/
def layP (A : List Pce) (c : Pce) (A' : List Pce) : Prop :=
  (A = [] ∧ A' = [c]) ∨ ∃ i d, A = i ++ [d] ∧ (((c.1.is = 1 ∨ c.1.is ≠ d.1.is ∨ c.1.fr ≠ d.1.to + 1) ∧ A' = A ++ [c]) ∨ ((c.1.is ≠ 1 ∧ c.1.is = d.1.is ∧ c.1.fr = d.1.to + 1) ∧ A' = i ++ [(⟨d.1.fr, c.1.to, d.1.is⟩, d.2)]))
/-- A piece by itself. -/
structure Well (c : Pce) : Prop where
  wa : c.1.fr ≤ c.1.to
  wb : c.1.to ≤ 1099511627776
  wc : 1 ≤ c.1.is ∧ c.1.is ≤ 3
  wd : c.1.is = 1 → c.1.to = c.1.fr ∧ c.2.tick = c.1.fr
  we : c.1.is ≠ 1 → c.2 = zIt
theorem RightP_snoc : ∀ (A : List Pce) (c : Pce) (p : Sp), RightP p A → RightP (lastP p A) [c] → RightP p (A ++ [c])
  | [], _, _, _, h => h
  | x :: A, c, _, ⟨a1, a2, a3, a4, a5, a6, a7, a8, a9⟩, h => ⟨a1, a2, a3, a4, a5, a6, a7, a8, RightP_snoc A c x.1 a9 h⟩
theorem RightP_init : ∀ (A : List Pce) (c : Pce) (p : Sp), RightP p (A ++ [c]) → RightP p A ∧ RightP (lastP p A) [c]
  | [], _, _, h => ⟨trivial, h⟩
  | x :: A, c, _, ⟨a1, a2, a3, a4, a5, a6, a7, a8, a9⟩ => ⟨⟨a1, a2, a3, a4, a5, a6, a7, a8, (RightP_init A c x.1 a9).1⟩, (RightP_init A c x.1 a9).2⟩
theorem kP_append : ∀ (A : List Pce) (B : List Pce) (u : Int), (kP (A ++ B) u = if ∃ c ∈ A, c.1.fr ≤ u ∧ u ≤ c.1.to then kP A u else kP B u) ∧ (iP (A ++ B) u = if ∃ c ∈ A, c.1.fr ≤ u ∧ u ≤ c.1.to then iP A u else iP B u)
  | [], B, u => by simp
  | x :: A, B, u => by
    obtain ⟨h1, h2⟩ := kP_append A B u
    rw [List.cons_append, kP, kP, iP, iP]
    by_cases hx : x.1.fr ≤ u ∧ u ≤ x.1.to
    · have he : ∃ c ∈ x :: A, c.1.fr ≤ u ∧ u ≤ c.1.to := ⟨x, List.mem_cons_self .., hx⟩
      rw [if_pos hx, if_pos hx, if_pos he, if_pos he, if_pos hx, if_pos hx]
      exact ⟨rfl, rfl⟩
    · rw [if_neg hx, if_neg hx, if_neg hx, if_neg hx, h1, h2]
      by_cases he : ∃ c ∈ A, c.1.fr ≤ u ∧ u ≤ c.1.to
      · have he' : ∃ c ∈ x :: A, c.1.fr ≤ u ∧ u ≤ c.1.to := (let ⟨c, hc, h⟩ := he; ⟨c, List.mem_cons_of_mem _ hc, h⟩)
        rw [if_pos he, if_pos he, if_pos he', if_pos he']
        exact ⟨rfl, rfl⟩
      · have he' : ¬ ∃ c ∈ x :: A, c.1.fr ≤ u ∧ u ≤ c.1.to := fun ⟨c, hc, h⟩ => by
          rcases List.mem_cons.1 hc with rfl | hc
          · exact hx h
          · exact he ⟨c, hc, h⟩
        rw [if_neg he, if_neg he, if_neg he', if_neg he']
        exact ⟨rfl, rfl⟩
theorem RightP_ends : ∀ {A : List Pce} {p : Sp}, RightP p A → ∀ c ∈ A, p.to < c.1.fr ∧ c.1.to ≤ (lastP p A).to
  | x :: A, p, ⟨a1, a2, a3, a4, a5, a6, a7, a8, a9⟩, c, hc => by
    have ih := RightP_ends a9
    have hl : x.1.to ≤ (lastP x.1 A).to := by
      cases A with
      | nil => exact Int.le_refl _
      | cons y A =>
        have := ih y (List.mem_cons_self ..)
        have hy := a9.2.1
        omega
    rcases List.mem_cons.1 hc with rfl | hc
    · exact ⟨a1, hl⟩
    · have := ih c hc
      exact ⟨by omega, this.2⟩
theorem RightP_at {A : List Pce} {p : Sp} (h : RightP p A) {u : Int} (hu : (lastP p A).to < u) : (¬ ∃ c ∈ A, c.1.fr ≤ u ∧ u ≤ c.1.to) ∧ kP A u = 0 ∧ iP A u = zIt := by
  have hn : ¬ ∃ c ∈ A, c.1.fr ≤ u ∧ u ≤ c.1.to := fun ⟨c, hc, h1, h2⟩ => by have := (RightP_ends h c hc).2; omega
  refine ⟨hn, ?_⟩
  have h1 := kP_append A [] u
  rw [if_neg hn, if_neg hn, List.append_nil] at h1
  exact h1
/-- What lay leaves. -/
theorem layP_ok {A A' : List Pce} {c : Pce} (hA : RightP Sp.zr A) (hc : Well c) (hl : (lastP Sp.zr A).to < c.1.fr) (h : layP A c A') : RightP Sp.zr A' ∧ (lastP Sp.zr A').to = c.1.to ∧ (∀ u, kP A' u = if c.1.fr ≤ u ∧ u ≤ c.1.to then c.1.is else kP A u) ∧ (∀ u, iP A' u = if c.1.fr ≤ u ∧ u ≤ c.1.to then c.2 else iP A u) := by
  have hs : ∀ (B : List Pce) (d : Pce), RightP Sp.zr B → (lastP Sp.zr B).to < d.1.fr → ∀ u, (kP (B ++ [d]) u = if d.1.fr ≤ u ∧ u ≤ d.1.to then d.1.is else kP B u) ∧ (iP (B ++ [d]) u = if d.1.fr ≤ u ∧ u ≤ d.1.to then d.2 else iP B u) := by
    intro B d hB hd u
    obtain ⟨h1, h2⟩ := kP_append B [d] u
    rw [h1, h2]
    by_cases hu : d.1.fr ≤ u ∧ u ≤ d.1.to
    · obtain ⟨hn, _⟩ := RightP_at hB (u := u) (by omega)
      rw [if_neg hn, if_neg hn, if_pos hu, if_pos hu, kP, iP, if_pos hu, if_pos hu]
      exact ⟨rfl, rfl⟩
    · rw [if_neg hu, if_neg hu, kP, iP, if_neg hu, if_neg hu]
      by_cases he : ∃ c ∈ B, c.1.fr ≤ u ∧ u ≤ c.1.to
      · rw [if_pos he, if_pos he]
        exact ⟨rfl, rfl⟩
      · have h3 := kP_append B [] u
        rw [if_neg he, if_neg he, List.append_nil] at h3
        rw [if_neg he, if_neg he, h3.1, h3.2]
        exact ⟨rfl, rfl⟩
  rcases h with ⟨rfl, rfl⟩ | ⟨i, d, rfl, ⟨hn, rfl⟩ | ⟨⟨g1, g2, g3⟩, rfl⟩⟩
  · refine ⟨⟨hl, hc.wa, hc.wb, hc.wc.1, hc.wc.2, fun e => by have e2 : c.1.is = 0 := e.2.1; have := hc.wc.1; omega, hc.wd, hc.we, trivial⟩, rfl, fun u => rfl, fun u => rfl⟩
  · refine ⟨RightP_snoc _ _ _ hA ⟨hl, hc.wa, hc.wb, hc.wc.1, hc.wc.2, fun e => ?_, hc.wd, hc.we, trivial⟩, by rw [lastP_snoc], fun u => (hs _ c hA hl u).1, fun u => (hs _ c hA hl u).2⟩
    rw [lastP_snoc] at e
    rcases hn with h | h | h
    · exact e.2.2 h
    · exact h e.2.1
    · exact h e.1
  · obtain ⟨q1, q2⟩ := RightP_init i d Sp.zr hA
    obtain ⟨b1, b2, b3, b4, b5, b6, b7, b8, _⟩ := q2
    have hd1 : d.1.is ≠ 1 := by omega
    have ha := hc.wa
    have hr2 : RightP (lastP Sp.zr i) [((⟨d.1.fr, c.1.to, d.1.is⟩ : Sp), d.2)] := ⟨b1, by show d.1.fr ≤ c.1.to; omega, hc.wb, b4, b5, b6, fun e => absurd e hd1, b8, trivial⟩
    have hz := b8 hd1
    have hcz := hc.we g1
    refine ⟨RightP_snoc _ _ _ q1 hr2, by rw [lastP_snoc], fun u => ?_, fun u => ?_⟩
    · rw [(hs i (⟨d.1.fr, c.1.to, d.1.is⟩, d.2) q1 b1 u).1, (hs i d q1 b1 u).1]
      show (if d.1.fr ≤ u ∧ u ≤ c.1.to then d.1.is else kP i u) = _
      by_cases e1 : c.1.fr ≤ u ∧ u ≤ c.1.to
      · rw [if_pos e1, if_pos (by omega), g2]
      · rw [if_neg e1]
        by_cases e2 : d.1.fr ≤ u ∧ u ≤ d.1.to
        · rw [if_pos e2, if_pos (by omega)]
        · rw [if_neg e2, if_neg (by omega)]
    · rw [(hs i (⟨d.1.fr, c.1.to, d.1.is⟩, d.2) q1 b1 u).2, (hs i d q1 b1 u).2]
      show (if d.1.fr ≤ u ∧ u ≤ c.1.to then d.2 else iP i u) = _
      by_cases e1 : c.1.fr ≤ u ∧ u ≤ c.1.to
      · rw [if_pos e1, if_pos (by omega), hz, hcz]
      · rw [if_neg e1]
        by_cases e2 : d.1.fr ≤ u ∧ u ≤ d.1.to
        · rw [if_pos e2, if_pos (by omega)]
        · rw [if_neg e2, if_neg (by omega)]
end Go.Proofs.YtidihfhgnjkmaaaGreat
/- Stream.first of any ticks that are Data; Stream.Item of a tick without an item. -/
namespace Go.Proofs.YtidihfhgnjkmaaaGreat
set_option maxRecDepth 100000
open Go.RowKit Go.Maps Go.Sort Go.Shelf
variable {Z : Nat → Prop}

/-- The item of a tick is for none of these. -/
def noHit (I : Int → Option It) (lk u : Int) : Prop := ∀ q, I u = some q → bits .and .u32 q.for_ lk = 0
/-- What first tells. -/
def FirstTold (I : Int → Option It) (fr to_ lk : Int) (w : World) (e : Ending) : Prop :=
  (∃ (q : It) (ba : Option Addr) (bc : Nat), e = .returned (.tuple #[.agg #[.int .i64 q.tick, .int .u32 q.for_, .slice ba q.body.length bc], .bool true]) ∧ I q.tick = some q ∧ (fr ≤ q.tick ∧ q.tick ≤ to_) ∧ bits .and .u32 q.for_ lk ≠ 0 ∧ q.body.length ≤ 400 ∧ (∀ u, fr ≤ u → u < q.tick → noHit I lk u) ∧ Rd w ba q.body.length q.body) ∨
  (e = .returned (.tuple #[itemZ, .bool false]) ∧ ∀ u, fr ≤ u → u ≤ to_ → noHit I lk u)
set_option maxHeartbeats 4000000 in
theorem st_first {w0 w : World} {s m : Nat} {l : List Sp} {I : Int → Option It} {a : Option Addr} {n c : Nat} {X : List (Int × Value)} (h : Strm Z w0 s m l I a n c X) (hb0 : Below w0.heap.size w0 w) {fr to_ lk : Int} (hr : 1 ≤ fr ∧ fr ≤ to_ + 1 ∧ to_ ≤ 1099511627776) (hd : ∀ u, fr ≤ u → u ≤ to_ → atS l u = 1) :
    Calls Tryz.prog 46 #[.pointer (some ⟨s, 0, none⟩), .int .i64 fr, .int .i64 to_, .int .u32 lk] w fun e w' => FirstTold I fr to_ lk w0 e ∧ Below w.heap.size w w' := by
  obtain ⟨W1, HW1⟩ : ∃ W1, Hid (W1 = w.alloc (.cells #[.int .i64 0, .int .u32 0, .slice none 0 0] 54)) := ⟨_, rfl⟩
  have HX1 : Hid (Below w.heap.size w W1) := by (show Below _ _ _); rw [HW1.out]; exact below_alloc w _
  have HK1 : Hid (Bk W1 w.heap.size #[.int .i64 0, .int .u32 0, .slice none 0 0] 54) := by (show Bk _ _ _ _); rw [HW1.out]; exact Bk.new w _ _
  have HS0 : Hid (Strm Z w0 s m l I a n c X) := h
  have HS : Hid (Strm Z w s m l I a n c X) := h.stay hb0
  have HD : Hid (∀ u, fr ≤ u → u ≤ to_ → (I u).isSome = true) := fun u h1 h2 => (h.data u).1 (hd u h1 h2)
  obtain ⟨POST, HPO⟩ : ∃ P : Ending → World → Prop, Hid (P = fun e w' => FirstTold I fr to_ lk w0 e ∧ Below w.heap.size w w') := ⟨_, rfl⟩
  have hpost : (fun e w' => FirstTold I fr to_ lk w0 e ∧ Below w.heap.size w w') = fun e w' => POST e w' := HPO.out.symm
  rw [hpost]
  obtain ⟨r1, r2, r3⟩ := hr
  clear hpost h hd
  go_enter Tryz.func46, Tryz.ntmps46
  go_upto_region 1 with fail
  rw [← HW1.out]
  go_wp2
  go_loopw [10] (fun t10 wr => ∃ k : Int, t10 = .int .i64 k ∧ fr ≤ k ∧ k ≤ to_ + 1 ∧ Hid (∀ u, fr ≤ u → u < k → noHit I lk u) ∧ Hid (Below W1.heap.size W1 wr)) (fun t10 _ => (to_ + 1 - intOf t10).toNat)
  case atStart => exact ⟨fr, rfl, Int.le_refl _, by omega, fun u h1 h2 => by omega, Below.refl _ _⟩
  case round =>
    obtain ⟨k, rfl, k1, k2, HN, HB⟩ := hrel
    have HBW : Hid (Below w.heap.size w wr) := HX1.out.trans (HB.out.mono HX1.out.size)
    have HKR : Hid (Bk wr w.heap.size #[.int .i64 0, .int .u32 0, .slice none 0 0] 54) := HK1.out.stay HB.out
    by_cases hlt : k ≤ to_
    · obtain ⟨q, hq⟩ := Option.isSome_iff_exists.1 (HD.out k k1 hlt)
      have hi := HS0.out.its k
      rw [hq] at hi
      obtain ⟨h1, h2, h3, da, dc, h4, h5, _⟩ := hi
      have HQ : Hid (I k = some q) := hq
      have HRD : Hid (Rd w0 da q.body.length q.body) := h5
      have H400 : Hid (q.body.length ≤ 400) := h3
      have hst : Stm Z wr s m a n c l X := HS.out.stm.stay HBW.out
      have c1 : wr.cell? ⟨s, 1, none⟩ = some (.map (some m)) := hst.blk.cell 1 rfl
      have hlk := hst.look (t := k) (by omega)
      rw [h4] at hlk
      obtain ⟨qt, qf, qb⟩ := q
      simp only at h1 h2 h3 h4 hlk HRD H400
      obtain ⟨N, HNE⟩ : ∃ N, Hid (qb.length = N) := ⟨_, rfl⟩
      rw [HNE.out] at hlk HRD H400
      have h1 : k = qt := h1.symm
      subst h1
      have hlk : (Instr.lookup 81 (.map (some m)) (.int .i64 k) false).run Tryz.prog wr = .ok (.agg #[.int .i64 k, .int .u32 qf, .slice da N dc]) wr := hlk
      obtain ⟨F, hF⟩ : ∃ F, bits BinOp.and IntKind.u32 qf lk = F := ⟨_, rfl⟩
      have HF : Hid (bits BinOp.and IntKind.u32 qf lk = F) := hF
      obtain ⟨W2, HW2⟩ : ∃ W2, Hid (W2 = wr.alloc (.cells #[.int .i64 k, .int .u32 qf, .slice da N dc] 54)) := ⟨_, rfl⟩
      have hb2 : Below wr.heap.size wr W2 := by rw [HW2.out]; exact below_alloc wr _
      have HB2 : Hid (Below W1.heap.size W1 W2) := HB.out.trans (hb2.mono HB.out.size)
      have HBW2 : Hid (Below w.heap.size w W2) := HBW.out.trans (hb2.mono HBW.out.size)
      have hk2 : Bk W2 wr.heap.size #[.int .i64 k, .int .u32 qf, .slice da N dc] 54 := by rw [HW2.out]; exact Bk.new wr _ _
      have i0 : W2.cell? ⟨wr.heap.size, 0, none⟩ = some (.int .i64 k) := hk2.cell 0 rfl
      have i1 : W2.cell? ⟨wr.heap.size, 1, none⟩ = some (.int .u32 qf) := hk2.cell 1 rfl
      have i2 : W2.cell? ⟨wr.heap.size, 2, none⟩ = some (.slice da N dc) := hk2.cell 2 rfl
      have HK2 : Hid (Bk W2 w.heap.size #[.int .i64 0, .int .u32 0, .slice none 0 0] 54) := HKR.out.stay hb2
      clear hst h2 h3 h4 h5 hq hk2 hb2
      go_upto_region 5 with fail
      rw [← HW2.out]
      by_cases hz : F = 0
      · have HNN : Hid (∀ u, fr ≤ u → u < k + 1 → noHit I lk u) := by
          intro u u1 u2
          by_cases e : u = k
          · rw [e]
            intro q hq
            rw [HQ.out] at hq
            cases hq
            show bits BinOp.and IntKind.u32 qf lk = 0
            rw [HF.out, hz]
          · exact HN.out u u1 (by omega)
        subst hz
        clear c1 hlk
        go_wp2
        go_roundw
        case rel => exact ⟨k + 1, by go_num, by omega, by omega, HNN, HB2⟩
        case measure => simp [intOf]; omega
      · have d0 : W2.cell? ⟨w.heap.size, 0, none⟩ = some (.int .i64 0) := HK2.out.cell 0 rfl
        have d1 : W2.cell? ⟨w.heap.size, 1, none⟩ = some (.int .u32 0) := HK2.out.cell 1 rfl
        have d2 : W2.cell? ⟨w.heap.size, 2, none⟩ = some (.slice none 0 0) := HK2.out.cell 2 rfl
        have f0 := HK2.out.free 0
        have f1 := HK2.out.free 1
        have f2 := HK2.out.free 2
        have HM : Hid (Bk (((W2.setCell ⟨w.heap.size, 0, none⟩ (.int .i64 k)).setCell ⟨w.heap.size, 1, none⟩ (.int .u32 qf)).setCell ⟨w.heap.size, 2, none⟩ (.slice da N dc)) w.heap.size #[.int .i64 k, .int .u32 qf, .slice da N dc] 54) := ((HK2.out.set 0 (.int .i64 k)).set 1 (.int .u32 qf)).set 2 (.slice da N dc)
        clear c1 hlk
        go_wp2
        refine bodyPost_ret (results_first (by rfl) (by rfl) HM.out) rfl ?_
        rw [HPO.out]
        refine ⟨.inl ⟨⟨k, qf, qb⟩, da, dc, (by (show _ = Ending.returned (.tuple #[.agg #[.int .i64 k, .int .u32 qf, .slice da qb.length dc], .bool true])); rw [HNE.out]; rfl), HQ.out, ⟨k1, hlt⟩, by (show bits BinOp.and IntKind.u32 qf lk ≠ 0); rw [HF.out]; exact hz, by (show qb.length ≤ 400); rw [HNE.out]; exact H400.out, HN.out, by (show Rd w0 da qb.length qb); rw [HNE.out]; exact HRD.out⟩, ((HBW2.out.setCell (Nat.le_refl _) _).setCell (Nat.le_refl _) _).setCell (Nat.le_refl _) _⟩
    · have d0 : wr.cell? ⟨w.heap.size, 0, none⟩ = some (.int .i64 0) := HKR.out.cell 0 rfl
      have d1 : wr.cell? ⟨w.heap.size, 1, none⟩ = some (.int .u32 0) := HKR.out.cell 1 rfl
      have d2 : wr.cell? ⟨w.heap.size, 2, none⟩ = some (.slice none 0 0) := HKR.out.cell 2 rfl
      have f0 := HKR.out.free 0
      have f1 := HKR.out.free 1
      have f2 := HKR.out.free 2
      have HM : Hid (Bk (((wr.setCell ⟨w.heap.size, 0, none⟩ (.int .i64 0)).setCell ⟨w.heap.size, 1, none⟩ (.int .u32 0)).setCell ⟨w.heap.size, 2, none⟩ (.slice none 0 0)) w.heap.size #[.int .i64 0, .int .u32 0, .slice none 0 0] 54) := ((HKR.out.set 0 (.int .i64 0)).set 1 (.int .u32 0)).set 2 (.slice none 0 0)
      go_wp2
      refine bodyPost_ret (results_first (by rfl) (by rfl) HM.out) rfl ?_
      rw [HPO.out]
      exact ⟨.inr ⟨rfl, fun u u1 u2 => HN.out u u1 (by omega)⟩, ((HBW.out.setCell (Nat.le_refl _) _).setCell (Nat.le_refl _) _).setCell (Nat.le_refl _) _⟩
/-- The same, in one form. -/
def FirstIs (I : Int → Option It) (fr to_ lk : Int) (w : World) (x0 x1 : Int) (xa : Option Addr) (xn : Nat) (bb : Bool) : Prop :=
  (bb = true ∧ ∃ q : It, x0 = q.tick ∧ x1 = q.for_ ∧ xn = q.body.length ∧ I q.tick = some q ∧ (fr ≤ q.tick ∧ q.tick ≤ to_) ∧ bits .and .u32 q.for_ lk ≠ 0 ∧ q.body.length ≤ 400 ∧ (∀ u, fr ≤ u → u < q.tick → noHit I lk u) ∧ Rd w xa q.body.length q.body) ∨
  (bb = false ∧ ∀ u, fr ≤ u → u ≤ to_ → noHit I lk u)
theorem FirstTold.one {I : Int → Option It} {fr to_ lk : Int} {w : World} {e : Ending} (h : FirstTold I fr to_ lk w e) : ∃ (x0 x1 : Int) (xa : Option Addr) (xn xc : Nat) (bb : Bool), e = .returned (.tuple #[.agg #[.int .i64 x0, .int .u32 x1, .slice xa xn xc], .bool bb]) ∧ Hid (FirstIs I fr to_ lk w x0 x1 xa xn bb) := by
  rcases h with ⟨q, ba, bc, rfl, h⟩ | ⟨rfl, h⟩
  · exact ⟨q.tick, q.for_, ba, q.body.length, bc, true, rfl, .inl ⟨rfl, q, rfl, rfl, rfl, h⟩⟩
  · exact ⟨0, 0, none, 0, 0, false, rfl, .inr ⟨rfl, h⟩⟩
theorem Stm.look_no {w : World} {s m : Nat} {a : Option Addr} {n c : Nat} {l : List Sp} {X : List (Int × Value)} (h : Stm Z w s m a n c l X) {t : Int} (ht : -9223372036854775808 ≤ t ∧ t ≤ 9223372036854775807) (hg : getX X t = none) : (Instr.lookup 81 (.map (some m)) (.int .i64 t) true).run Tryz.prog w = .ok (.tuple #[itemZ, .bool false]) w := by
  obtain ⟨v2, ps, hrun, hv⟩ := h.items.look_ok tkeyed Tryz.underlying81 (z := itemZ) (Tryz.zeroValue54 w) (zd := .held itemZ) (zp := []) rfl (tkey_of ht)
  rw [mapD_at, hg] at hv
  rw [hrun, mapD_has, hg]
  have hv : some (DataW.held v2, ([] : List MemPlace)) = _ := hv
  simp only [Option.some.injEq, Prod.mk.injEq] at hv
  have := hv.1
  simp only [DataW.held.injEq] at this
  rw [this]
  rfl
set_option maxHeartbeats 4000000 in
theorem st_Item_no {w : World} {s m : Nat} {l : List Sp} {I : Int → Option It} {a : Option Addr} {n c : Nat} {X : List (Int × Value)} (h : Strm Z w s m l I a n c X) {t : Int} (hq : I t = none) (ht : -9223372036854775808 ≤ t ∧ t ≤ 9223372036854775807) :
    Calls Tryz.prog 19 #[.pointer (some ⟨s, 0, none⟩), .int .i64 t] w fun e w' => ∃ ba bc, e = .returned (.tuple #[.agg #[.int .i64 0, .int .u32 0, .slice ba 0 bc], .bool false]) ∧ Own w' w.heap.size ba 0 bc [] ∧ Below w.heap.size w w' := by
  have hi := h.its t
  rw [hq] at hi
  have h4 : getX X t = none := hi
  obtain ⟨W1, HW1⟩ : ∃ W1, Hid (W1 = w.alloc (.cells #[.int .i64 0, .int .u32 0, .slice none 0 0] 54)) := ⟨_, rfl⟩
  have HX1 : Hid (Below w.heap.size w W1) := by (show Below _ _ _); rw [HW1.out]; exact below_alloc w _
  have HK1 : Hid (Bk W1 w.heap.size #[.int .i64 0, .int .u32 0, .slice none 0 0] 54) := by (show Bk _ _ _ _); rw [HW1.out]; exact Bk.new w _ _
  have hst := h.stm.stay HX1.out
  have c1 : W1.cell? ⟨s, 1, none⟩ = some (.map (some m)) := hst.blk.cell 1 rfl
  have hlk : (Instr.lookup 81 (.map (some m)) (.int .i64 t) true).run Tryz.prog W1 = .ok (.tuple #[.agg #[.int .i64 0, .int .u32 0, .slice none 0 0], .bool false]) W1 := hst.look_no ht h4
  obtain ⟨W2, HW2⟩ : ∃ W2, Hid (W2 = W1.alloc (.cells #[.int .i64 0, .int .u32 0, .slice none 0 0] 54)) := ⟨_, rfl⟩
  have HX2 : Hid (Below W1.heap.size W1 W2) := by (show Below _ _ _); rw [HW2.out]; exact below_alloc W1 _
  have hk2 : Bk W2 W1.heap.size #[.int .i64 0, .int .u32 0, .slice none 0 0] 54 := by rw [HW2.out]; exact Bk.new W1 _ _
  have HXX : Hid (Below w.heap.size w W2) := HX1.out.trans (HX2.out.mono HX1.out.size)
  have HC : Hid (Calls Tryz.prog 45 #[.agg #[.int .i64 0, .int .u32 0, .slice none 0 0]] W2 fun e w' => ∃ a' c', e = .returned (.agg #[.int .i64 0, .int .u32 0, .slice a' 0 c']) ∧ Own w' W2.heap.size a' 0 c' [] ∧ Below W2.heap.size W2 w') := st_cloned 0 0 none 0 0 [] W2 ⟨rfl, fun _ h => (by cases h), .inl rfl⟩ (by omega)
  have i0 : W2.cell? ⟨W1.heap.size, 0, none⟩ = some (.int .i64 0) := hk2.cell 0 rfl
  have i1 : W2.cell? ⟨W1.heap.size, 1, none⟩ = some (.int .u32 0) := hk2.cell 1 rfl
  have i2 : W2.cell? ⟨W1.heap.size, 2, none⟩ = some (.slice none 0 0) := hk2.cell 2 rfl
  have HK2 : Hid (Bk W2 w.heap.size #[.int .i64 0, .int .u32 0, .slice none 0 0] 54) := HK1.out.stay HX2.out
  have hlt2 : w.heap.size < W2.heap.size := HK2.out.lt
  clear h h4 hst hk2 HK1 HX1 hi hq
  go_enter Tryz.func19, Tryz.ntmps19
  go_upto_region 1 with fail
  rw [← HW1.out]
  go_upto_region 4 with fail
  rw [← HW2.out]
  go_wp2_with fail
  refine HC.out.mono ?_
  rintro e w3 ⟨ba, bc, rfl, ho, hb3⟩
  have hk3 := HK2.out.stay hb3
  have d0 : w3.cell? ⟨w.heap.size, 0, none⟩ = some (.int .i64 0) := hk3.cell 0 rfl
  have d1 : w3.cell? ⟨w.heap.size, 1, none⟩ = some (.int .u32 0) := hk3.cell 1 rfl
  have d2 : w3.cell? ⟨w.heap.size, 2, none⟩ = some (.slice none 0 0) := hk3.cell 2 rfl
  have f0 := hk3.free 0
  have f1 := hk3.free 1
  have f2 := hk3.free 2
  have HO : Hid (Own w3 W2.heap.size ba 0 bc []) := ho
  have HB3 : Hid (Below w.heap.size w w3) := HXX.out.trans (hb3.mono HXX.out.size)
  have HM : Hid (Bk (((w3.setCell ⟨w.heap.size, 0, none⟩ (.int .i64 0)).setCell ⟨w.heap.size, 1, none⟩ (.int .u32 0)).setCell ⟨w.heap.size, 2, none⟩ (.slice ba 0 bc)) w.heap.size #[.int .i64 0, .int .u32 0, .slice ba 0 bc] 54) := ((hk3.set 0 (.int .i64 0)).set 1 (.int .u32 0)).set 2 (.slice ba 0 bc)
  clear ho hb3 hk3 HC i0 i1 i2 c1 hlk
  go_wp2
  refine bodyPost_ret (results_ItemK (by rfl) (by rfl) HM.out) rfl ?_
  refine ⟨ba, bc, rfl, ⟨?_, HO.out.byte⟩, ((HB3.out.setCell (Nat.le_refl _) _).setCell (Nat.le_refl _) _).setCell (Nat.le_refl _) _⟩
  exact ownsRow_base_a (base := W2.heap.size) (ownsRow_setCell_below (ownsRow_setCell_below (ownsRow_setCell_below HO.out.row (a := ⟨w.heap.size, 0, none⟩) hlt2 _) (a := ⟨w.heap.size, 1, none⟩) hlt2 _) (a := ⟨w.heap.size, 2, none⟩) hlt2 _) (by omega)
end Go.Proofs.YtidihfhgnjkmaaaGreat
