/- What every law's last step shares: arguments that read as they did, and what a slice of bytes that came in reads as. -/
import Derived.Test.YtidihfhgnjkmaaaGreatBaseP
import Derived.ProofKit
import Derived.OpenShut
import Derived.ShutString
import Derived.ChangeOld
import Derived.Below
import Derived.SizedLaws
namespace Go.Proofs.YtidihfhgnjkmaaaGreat
open Go.ChangeShapes Go.WideShapes Go.ChangeAt Go.RowKit

theorem own : ownKnob Tryz.prog.godebug = none := by kernel_rfl
theorem laidOut : laidOutB Tryz.prog = true := by kernel_rfl

theorem trod_lt' {H : Type} {enc : TypeId × Value → H} {P : Program} {W : World} {t : TypeId} {v : Value} {d : DataW H} {ps : List MemPlace} (h : DataW.Trod enc P W 0 (fun _ => true) true t v d ps) :
    ∀ x ∈ ps, x.block < W.heap.size := by
  obtain ⟨m, hm⟩ := h
  exact DataW.trod_lt m _ _ _ hm

/-- All arguments read behind the call as before it, where nothing that was there has turned. -/
theorem trodAll_below {H : Type} {enc : TypeId × Value → H} {P : Program} (hl : laidOutB P = true) {W W' : World} (hb : Below W.heap.size W W') :
    ∀ (ts : List TypeId) (vs : List Value) (ds : List (DataW H)) (ps : List MemPlace), ts.all (fun t => P.readableRec t && decide (t < P.types.size)) = true →
      DataW.TrodAll enc P W 0 (fun _ => true) true ts vs ds ps → DataW.TrodAll enc P W' 0 (fun b => decide (b < W.heap.size)) true ts vs ds ps
  | [], [], [], _, _, h => h
  | [], _ :: _, _, _, _, h => h.elim
  | [], [], _ :: _, _, _, h => h.elim
  | _ :: _, [], _, _, _, h => by cases h
  | _ :: _, _ :: _, [], _, _, h => by cases h
  | t :: ts, v :: vs, d :: ds, ps, hr, ⟨p, q, h1, h2, e⟩ => by
    simp only [List.all_cons, Bool.and_eq_true, decide_eq_true_eq] at hr
    exact ⟨p, q, Below.trod hl hr.1.1 hr.1.2 h1 hb (trod_lt' h1), trodAll_below hl hb ts vs ds q hr.2 h2, e⟩

/-- How a slice's datum looks, by its length and capacity. -/
def Form {H : Type} (d : DataW H) (len cap : Nat) : Prop := (d = .nil ∧ len = 0 ∧ cap = 0) ∨ ∃ elems spare, d = .slice elems spare ∧ elems.length = len ∧ elems.length + spare.length = cap

/-- A slice of bytes that came in. -/
theorem rd_of {H : Type} {enc : TypeId × Value → H} {W : World} {a : Option Addr} {len cap : Nat} {d : DataW H} {p : List MemPlace}
    (h : DataW.Trod enc Tryz.prog W 0 (fun _ => true) true 52 (.slice a len cap) d p) : ∃ bs, Rd W a len bs ∧ len ≤ cap ∧ cap ≤ 9223372036854775807 ∧ len + 1 ≤ Rows.uptoBulk d ∧ (a = none → cap = 0) ∧ Form d len cap := by
  obtain ⟨fuel, hf⟩ := h
  rcases open_ints Tryz.underlying52 Tryz.underlying5 (by kernel_rfl) hf with ⟨hcs, hx⟩ | ⟨x, l, c, zs, hcs, _, hl, hm, hz, hx, hcell, hwz⟩
  · simp [Value.cells] at hcs
    obtain ⟨rfl, rfl, rfl⟩ := hcs
    simp only [Prod.mk.injEq] at hx
    obtain ⟨rfl, rfl⟩ := hx
    exact ⟨[], ⟨rfl, by simp, .inl rfl⟩, Nat.le_refl _, by omega, by simp [Rows.uptoBulk], fun _ => rfl, .inl ⟨rfl, rfl, rfl⟩⟩
  · simp [Value.cells] at hcs
    obtain ⟨rfl, rfl, rfl⟩ := hcs
    simp only [Prod.mk.injEq] at hx
    obtain ⟨rfl, rfl⟩ := hx
    simp only [if_true] at hz
    have hm' := hm
    unfold maxLen at hm'
    have hwf : ∀ n ∈ zs, 0 ≤ n ∧ n ≤ 255 := fun n hn => by simpa [Lit.wf, IntKind.min, IntKind.max, IntKind.signed, IntKind.bits] using hwz n hn
    have bulk : ∀ (k : IntKind) (l : List Int), Rows.uptoBulkAll (lits (H := H) k l) = l.length := by
      intro k l
      induction l with
      | nil => rfl
      | cons x r ih =>
        have e : lits (H := H) k (x :: r) = .lit (.int k x) :: lits k r := rfl
        rw [e]
        simp only [Rows.uptoBulkAll, Rows.uptoBulk, ih, List.length_cons]
        omega
    refine ⟨(zs.take len).map Int.toNat, ⟨by simp; omega, ?_, ?_⟩, hl, hm', ?_, (fun h => by cases h), .inr ⟨_, _, rfl, ?_, ?_⟩⟩
    · intro y hy
      obtain ⟨n, hn, rfl⟩ := List.mem_map.1 hy
      have := hwf n (List.mem_of_mem_take hn)
      omega
    · by_cases h0 : len = 0
      · exact .inl h0
      · right
        obtain ⟨b, off, spot⟩ := x
        have hc := hcell 0 (by omega)
        have hspot : spot = none := by simpa [Addr.add] using World.cell?_spot hc
        subst hspot
        refine ⟨b, off, rfl, World.block_lt_of_cell? W _ hc, fun i hi => ?_⟩
        have hci := hcell i (by omega)
        have e : (⟨b, off, none⟩ : Addr).add i = ⟨b, off + i, none⟩ := by unfold Addr.add; split <;> simp_all
        rw [e] at hci
        rw [hci]
        have hzi : i < zs.length := by omega
        have hge := hwf zs[i] (List.getElem_mem hzi)
        simp only [List.getD_eq_getElem?_getD, List.getElem?_map, List.getElem?_take_of_lt hi, List.getElem?_eq_getElem hzi, Option.map_some, Option.getD_some]
        congr 2
        omega
    · simp only [Rows.uptoBulk, bulk, List.length_take, List.length_drop]
      omega
    · simp only [lits, List.length_map, List.length_take]
      omega
    · simp only [lits, List.length_map, List.length_take, List.length_drop]
      omega

theorem bytesByte : Tryz.prog.bytesOf 5 = 1 := by kernel_rfl

/-- The form's own reach: how great a slice that came in can be. -/
theorem reach_of {H : Type} {ts : List TypeId} {ds : List (DataW H)} (h : (DataW.weightsEach Tryz.prog ts ds).all (· ≤ reachBytes) = true) {j : Nat} {d : DataW H} {len cap : Nat} (hf : Form d len cap) (ht : ts[j]? = some 52) (hd : ds[j]? = some d) : cap ≤ 140737488351232 := by
  rcases hf with ⟨_, _, rfl⟩ | ⟨elems, spare, rfl, _, e⟩
  · omega
  · have := sized_slice h ht hd Tryz.underlying52
    rw [bytesByte] at this
    simp only [reachBytes] at this
    omega

/-- The second form's bound, as the builder hands it over. -/
theorem bulk_bound {H : Type} {l : List (DataW H)} (hk : Rows.uptoSmall H l = true) : Rows.uptoBulkAll l ≤ 1048576 := of_decide_eq_true hk

end Go.Proofs.YtidihfhgnjkmaaaGreat
