/- A pack of texts: Lo1 Lo2 Lo3 Lo4 Lo5 Lo6. -/
import Derived.Test.YtbloomepdchjhaaDoorLk20
import Derived.Test.YtbloomepdchjhaaDoorLbQ
import Derived.Test.YtbloomepdchjhaaDoorPlP
/- Two links, what waits at their ends, and the frames that flew, in memory: how they stand, and what leaves them so. -/
namespace Go.Proofs.YtbloomepdchjhaaDoor
open Go.RowKit

def upd {α : Type} (f : Bool → α) (b : Bool) (x : α) : Bool → α := fun c => if c = b then x else f c
theorem upd_same {α : Type} (f : Bool → α) (b : Bool) (x : α) : upd f b x b = x := if_pos rfl
theorem upd_other {α : Type} (f : Bool → α) {b c : Bool} (x : α) (h : c ≠ b) : upd f b x c = f c := if_neg h
theorem upd_not {α : Type} (f : Bool → α) (b : Bool) (x : α) : upd f b x (!b) = f (!b) := upd_other f x (by cases b <;> decide)
theorem two_set (f : Bool → Value) (b : Bool) (x : Value) : (#[f false, f true] : Array Value).setIfInBounds b.toNat x = #[upd f b x false, upd f b x true] := by cases b <;> rfl
theorem two_at (f : Bool → Value) (b : Bool) : (#[f false, f true] : Array Value)[b.toNat]? = some (f b) := by cases b <;> rfl

/-- A parcel as it waits. -/
structure Pe where
  p : Pc
  sa : Option Addr
  sn : Nat
  sc : Nat
  ia : Option Addr
  im : Nat
  ic : Nat
def pcells (x : Pe) : List Value := [.int .i64 x.p.kind, .int .i64 x.p.pub, .int .i64 x.p.sub, .int .i64 x.p.n_, .int .i64 x.p.fr, .int .i64 x.p.to_, .slice x.sa x.sn x.sc, .slice x.ia x.im x.ic]
/-- Its spans and items are one's own. -/
structure ParM (w : World) (B : Nat) (x : Pe) : Prop where
  spans : Sps w B (.slice x.sa x.sn x.sc) x.p.spans
  items : ∃ M, Its w B (.slice x.ia x.im x.ic) M ∧ M.map Prod.fst = x.p.items
/-- Blocks of bytes, spans and items stay. -/
def Kro (w w' : World) : Prop := ∀ (k : Nat) (cs : Array Value) (t : TypeId) (m : Nat × Nat), w.heap[k]? = some (.cells cs t m) → t = 5 ∨ t = 105 ∨ t = 74 → w'.heap[k]? = some (.cells cs t m)
theorem row_kept {w w' : World} {B T s : Nat} {v : Value} {n : Nat} {xs : List Value} (h : w.ownsRow B T s v n xs) (hf : ∀ (k : Nat) (cs : Array Value), w.heap[k]? = some (.cells cs T (0, 0)) → w'.heap[k]? = some (.cells cs T (0, 0))) : w'.ownsRow B T s v n xs := by
  refine ⟨h.1, ?_⟩
  rcases h.2 with hn | ⟨g, c, cur, hv, hbg, hg, r⟩
  · exact .inl hn
  · exact .inr ⟨g, c, cur, hv, hbg, hf g _ hg, r⟩
theorem row_stay {w w' : World} {B T s : Nat} {v : Value} {n : Nat} {xs : List Value} (h : w.ownsRow B T s v n xs) (hf : ∀ k, v.ownBlock = some k → w'.heap[k]? = w.heap[k]?) : w'.ownsRow B T s v n xs := by
  refine ⟨h.1, ?_⟩
  rcases h.2 with hn | ⟨g, c, cur, hv, hbg, hg, r⟩
  · exact .inl hn
  · exact .inr ⟨g, c, cur, hv, hbg, by rw [hf g (by rw [hv]; rfl)]; exact hg, r⟩
theorem ParM.kept {w w' : World} {B : Nat} {x : Pe} (h : ParM w B x) (hk : Kro w w') : ParM w' B x := by
  refine ⟨⟨row_kept h.spans.row fun k cs hh => hk k cs _ _ hh (.inr (.inl rfl))⟩, ?_⟩
  obtain ⟨M, h1, h2⟩ := h.items
  exact ⟨M, ⟨row_kept h1.row fun k cs hh => hk k cs _ _ hh (.inr (.inr rfl)), fun x hx => own_kept (h1.bod x hx) fun k cs m hh => hk k cs _ m hh (.inl rfl)⟩, h2⟩
theorem ParM.rd {w : World} {B : Nat} {x : Pe} (h : ParM w B x) (hb : ∀ q ∈ x.p.items, ((-9223372036854775808 : Int) ≤ q.tick ∧ q.tick ≤ 9223372036854775807) ∧ (0 ≤ q.for_ ∧ q.for_ ≤ 4294967295)) : PcRd w x.p x.sa x.sn x.sc x.ia x.im x.ic := by
  obtain ⟨M, h1, h2⟩ := h.items
  obtain ⟨e1, e2, e3⟩ := row_len h.spans.row
  obtain ⟨f1, f2, f3⟩ := row_len h1.row
  refine ⟨h.spans.rd, ?_, by omega, e3, by omega, f3⟩
  rw [← h2]
  exact h1.rd (by rw [h2]; exact hb)

/-- What waits at an end: a row of parcels, which may begin within its block. -/
def Wq (w : World) (B : Nat) (v : Value) (n : Nat) (xs : List Value) : Prop :=
  xs.length = n * 8 ∧ ((v = .slice none 0 0 ∧ n = 0) ∨ ∃ q o c cs, v = .slice (some ⟨q, o, none⟩) n c ∧ B ≤ q ∧ Bk w q cs 37 ∧ n ≤ c ∧ c ≤ maxLen ∧ o + c * 8 ≤ cs.size ∧ ∀ (j : Nat) (u : Value), xs[j]? = some u → cs[o + j]? = some u)
theorem Wq.form {w : World} {B : Nat} {v : Value} {n : Nat} {xs : List Value} (h : Wq w B v n xs) : ∃ a c, v = .slice a n c ∧ c ≤ maxLen ∧ n ≤ c := by
  rcases h.2 with ⟨hv, hn⟩ | ⟨q, o, c, cs, hv, _, _, h2, h3, _⟩
  · exact ⟨none, 0, by rw [hv, hn], by omega, by omega⟩
  · exact ⟨_, c, hv, h3, h2⟩
theorem Wq.stay {w w' : World} {B : Nat} {v : Value} {n : Nat} {xs : List Value} (h : Wq w B v n xs) (hf : ∀ k, v.ownBlock = some k → w'.heap[k]? = w.heap[k]?) : Wq w' B v n xs := by
  refine ⟨h.1, ?_⟩
  rcases h.2 with hn | ⟨q, o, c, cs, hv, hbq, hk, r⟩
  · exact .inl hn
  · exact .inr ⟨q, o, c, cs, hv, hbq, by unfold Bk; rw [hf q (by rw [hv]; rfl)]; exact hk, r⟩
theorem Wq.lt {w : World} {B : Nat} {v : Value} {n : Nat} {xs : List Value} (h : Wq w B v n xs) {k : Nat} (hk : v.ownBlock = some k) : B ≤ k ∧ ∃ cs, Bk w k cs 37 := by
  rcases h.2 with ⟨rfl, _⟩ | ⟨q, o, c, cs, rfl, hbq, hb, r⟩
  · cases hk
  · simp only [Value.ownBlock, Option.some.injEq] at hk
    subst hk
    exact ⟨hbq, cs, hb⟩

/-- A frame that flew. -/
structure Fl where
  ba : Option Addr
  bn : Nat
  bc : Nat
  fr : Bool
  life : Nat
  oth : Nat
  num : Nat
  src : Pc
  pe : Pe
  done : Bool
def Fl.bytes (f : Fl) : List Nat := SealM.sealed 1 (lebs [f.life, f.oth, f.num] ++ putD f.src)
def fcells (f : Fl) : List Value := [.slice f.ba f.bn f.bc, .int .i64 (f.fr.toNat : Int), .int .i64 (f.life : Int), .int .i64 f.pe.p.kind, .int .i64 f.pe.p.pub, .int .i64 f.pe.p.sub, .int .i64 f.pe.p.n_, .int .i64 f.pe.p.fr, .int .i64 f.pe.p.to_, .slice f.pe.sa f.pe.sn f.pe.sc, .slice f.pe.ia f.pe.im f.pe.ic, .bool f.done]

/-- All that the law holds. -/
structure Mem where
  bE : Nat
  bV : Nat
  bW : Nat
  bK : Nat
  g : Bool → Nat
  v : Bool → Value
  L : Bool → List (Wt × Bd)
  l : Bool → Lk
  lv : Bool → Nat
  kn : Bool → Nat
  qv : Bool → Value
  Q : Bool → List Pe
  av : Value
  A : List Fl

structure St (w : World) (B : Nat) (m : Mem) : Prop where
  ee : Bk w m.bE #[.pointer (some ⟨m.g false, 0, none⟩), .pointer (some ⟨m.g true, 0, none⟩)] 24
  vv : Bk w m.bV #[.int .i64 (m.lv false : Int), .int .i64 (m.lv true : Int)] 25
  ww : Bk w m.bW #[m.qv false, m.qv true] 27
  kk : Bk w m.bK #[.int .i64 (m.kn false : Int), .int .i64 (m.kn true : Int)] 25
  vk : m.bV ≠ m.bK
  lo : B ≤ m.bE ∧ B ≤ m.bV ∧ B ≤ m.bW ∧ B ≤ m.bK
  gl : ∀ b, B ≤ m.g b
  lk : ∀ b, LkIn w B (m.g b) (m.v b) (m.L b) (m.l b)
  gg : ∀ b, m.g b ≠ m.g (!b)
  vn : ∀ b k, (m.v b).ownBlock = some k → (m.v (!b)).ownBlock ≠ some k
  q : ∀ b, Wq w B (m.qv b) (m.Q b).length ((m.Q b).flatMap pcells)
  qn : ∀ b k, (m.qv b).ownBlock = some k → (m.qv (!b)).ownBlock ≠ some k
  a : w.ownsRow B 46 12 m.av m.A.length (m.A.flatMap fcells)
  qr : ∀ b, ∀ x ∈ m.Q b, ParM w B x
  ar : ∀ f ∈ m.A, ParM w B f.pe ∧ Own w B f.ba f.bn f.bc f.bytes
  tab : Tab w
  b0 : 0 < B
  bs : B ≤ w.heap.size

theorem ne_type {w : World} {k x : Nat} {cs cx : Array Value} {t u : TypeId} {m : Nat × Nat} (h1 : w.heap[k]? = some (.cells cs t m)) (h2 : Bk w x cx u) (h : t ≠ u) : k ≠ x := by
  intro e
  subst e
  unfold Bk at h2
  rw [h2] at h1
  simp only [Option.some.injEq, Obj.cells.injEq] at h1
  exact h h1.2.1.symm
theorem LkIn.kept {w w' : World} {B g : Nat} {v : Value} {L : List (Wt × Bd)} {l : Lk} (h : LkIn w B g v L l) (hs : w.heap.size ≤ w'.heap.size) (hg : w'.heap[g]? = w.heap[g]?) (hv : ∀ k, v.ownBlock = some k → w'.heap[k]? = w.heap[k]?) (hk : Kro w w') : LkIn w' B g v L l :=
  ⟨by unfold Bk; rw [hg]; exact h.blk, row_stay h.row hv, fun x hx => ⟨(h.rest x hx).1, own_kept (h.rest x hx).2 fun k cs m hh => hk k cs _ m hh (.inl rfl)⟩, Nat.le_trans h.bg hs⟩
/-- Where rows lie. -/
theorem row_blk {w : World} {B T s : Nat} {v : Value} {n : Nat} {xs : List Value} (h : w.ownsRow B T s v n xs) {k : Nat} (hk : v.ownBlock = some k) : ∃ cs, Bk w k cs T := by
  rcases h.2 with ⟨rfl, _⟩ | ⟨g, c, cur, rfl, _, hg, _⟩
  · cases hk
  · simp only [Value.ownBlock, Option.some.injEq] at hk
    subst hk
    exact ⟨cur, hg⟩
theorem Kro.of {w w' : World} (h : ∀ k, k < w.heap.size → w'.heap[k]? = w.heap[k]?) : Kro w w' := fun k cs t m hk _ => by rw [h k (Array.getElem?_eq_some_iff.1 hk).1]; exact hk
/-- One block alone changes, of another type than bytes, spans and items. -/
theorem Kro.one {w w' : World} {x : Nat} {cx : Array Value} {u : TypeId} (hx : Bk w x cx u) (hu : u ≠ 5 ∧ u ≠ 105 ∧ u ≠ 74) (h : ∀ k, k < w.heap.size → k ≠ x → w'.heap[k]? = w.heap[k]?) : Kro w w' := fun k cs t m hk ht => by
  rw [h k (Array.getElem?_eq_some_iff.1 hk).1 (ne_type hk hx (by rcases ht with rfl | rfl | rfl <;> simp_all [ne_comm]))]
  exact hk
/-- All blocks stay: new memory alone. -/
theorem St.stay {w w' : World} {B : Nat} {m : Mem} (h : St w B m) (hb : Below w.heap.size w w') : St w' B m := by
  have hk : Kro w w' := Kro.of fun k hk => hb.block k hk
  exact ⟨h.ee.stay hb, h.vv.stay hb, h.ww.stay hb, h.kk.stay hb, h.vk, h.lo, h.gl, fun b => (h.lk b).below hb, h.gg, h.vn, fun b => (h.q b).stay fun k hk => by obtain ⟨_, cs, hc⟩ := (h.q b).lt hk; exact hb.block k hc.lt, h.qn,
    row_stay h.a fun k hk => by obtain ⟨cs, hc⟩ := row_blk h.a hk; exact hb.block k hc.lt, fun b x hx => (h.qr b x hx).kept hk, fun f hf => ⟨(h.ar f hf).1.kept hk, (h.ar f hf).2.below hb⟩, h.tab.below (Nat.lt_of_lt_of_le h.b0 h.bs) hb, h.b0, Nat.le_trans h.bs hb.size⟩
theorem tab_block {w w' : World} (h : Tab w) (h0 : w'.heap[0]? = w.heap[0]?) : Tab w' := fun i hi => by
  rw [World.cell?_of_block (a := ⟨0, i, none⟩) h0]
  exact h i hi
/-- A link's call. -/
theorem St.link {w w' : World} {B : Nat} {m : Mem} (h : St w B m) (b : Bool) {v' : Value} {L' : List (Wt × Bd)} {l' : Lk} (hf : Fr w w' (m.g b) (m.v b)) (hl : LkIn w' B (m.g b) v' L' l') (hsn : Sn w (m.v b) v') :
    St w' B { m with v := upd m.v b v', L := upd m.L b L', l := upd m.l b l' } := by
  have hty : ∀ (k : Nat) (cs : Array Value) (t : TypeId) (mk : Nat × Nat), w.heap[k]? = some (.cells cs t mk) → t ≠ 65 → t ≠ 70 → w'.heap[k]? = some (.cells cs t mk) := fun k cs t mk hk h1 h2 => by
    rw [hf.blk k (Array.getElem?_eq_some_iff.1 hk).1 (ne_type hk (h.lk b).blk h1) (row_type (h.lk b).row hk h2)]
    exact hk
  have hk : Kro w w' := fun k cs t mk hk ht => hty k cs t mk hk (by rcases ht with rfl | rfl | rfl <;> decide) (by rcases ht with rfl | rfl | rfl <;> decide)
  have hz : ∀ k, k < B → w'.heap[k]? = w.heap[k]? := fun k hk => hf.blk k (Nat.lt_of_lt_of_le hk h.bs) (by have := h.gl b; omega) (fun e => by have := ((h.lk b).row.lt k e.symm).1; omega)
  have hlk : ∀ c, LkIn w' B (m.g c) (upd m.v b v' c) (upd m.L b L' c) (upd m.l b l' c) := fun c => by
    by_cases hc : c = b
    · subst hc
      rw [upd_same, upd_same, upd_same]
      exact hl
    · rw [upd_other _ _ hc, upd_other _ _ hc, upd_other _ _ hc]
      have hcb : c = !b := by revert hc; cases b <;> cases c <;> simp
      subst hcb
      exact (h.lk _).beside (h.lk b) (h.gg b).symm (fun k h1 h2 => h.vn b k h2 h1) hf
  have hvn : ∀ c k, (upd m.v b v' c).ownBlock = some k → (upd m.v b v' (!c)).ownBlock ≠ some k := by
    have h1 : ∀ k, v'.ownBlock = some k → (m.v (!b)).ownBlock ≠ some k := fun k hk hk2 => by
      rcases hsn with e | ⟨k', e, hk'⟩
      · exact h.vn b k (e ▸ hk) hk2
      · obtain rfl : k' = k := by simpa [e] using hk
        have := ((h.lk (!b)).row.lt _ hk2).2
        omega
    intro c k
    by_cases hc : c = b
    · subst hc
      rw [upd_same, upd_not]
      exact h1 k
    · have hcb : c = !b := by revert hc; cases b <;> cases c <;> simp
      subst hcb
      rw [upd_not, Bool.not_not, upd_same]
      exact fun e1 e2 => h1 k e2 e1
  exact ⟨hty _ _ _ _ h.ee (by decide) (by decide), hty _ _ _ _ h.vv (by decide) (by decide), hty _ _ _ _ h.ww (by decide) (by decide), hty _ _ _ _ h.kk (by decide) (by decide), h.vk, h.lo, h.gl, hlk, h.gg, hvn,
    fun c => (h.q c).stay fun k hk2 => by obtain ⟨_, cs, hc⟩ := (h.q c).lt hk2; rw [hty k cs _ _ hc (by decide) (by decide)]; exact hc.symm, h.qn,
    row_stay h.a fun k hk2 => by obtain ⟨cs, hc⟩ := row_blk h.a hk2; rw [hty k cs _ _ hc (by decide) (by decide)]; exact hc.symm,
    fun c x hx => (h.qr c x hx).kept hk, fun f hf => ⟨(h.ar f hf).1.kept hk, own_kept (h.ar f hf).2 fun k cs mk hh => hk k cs _ mk hh (.inl rfl)⟩, tab_block h.tab (hz 0 h.b0), h.b0, Nat.le_trans h.bs hf.all.size⟩
end Go.Proofs.YtbloomepdchjhaaDoor
/- What stores and appends leave of all that the law holds. -/
namespace Go.Proofs.YtbloomepdchjhaaDoor
open Go.RowKit

theorem St.arr {w w' : World} {B : Nat} {m : Mem} (h : St w B m) {X : Nat} {cx : Array Value} {u : TypeId} (hX : Bk w X cx u) (hu : u = 24 ∨ u = 25 ∨ u = 27) (hB : B ≤ X) (hs : w.heap.size ≤ w'.heap.size) (hch : ∀ k, k < w.heap.size → k ≠ X → w'.heap[k]? = w.heap[k]?) :
    (∀ b, LkIn w' B (m.g b) (m.v b) (m.L b) (m.l b)) ∧ (∀ b, Wq w' B (m.qv b) (m.Q b).length ((m.Q b).flatMap pcells)) ∧ w'.ownsRow B 46 12 m.av m.A.length (m.A.flatMap fcells) ∧ (∀ b, ∀ x ∈ m.Q b, ParM w' B x) ∧ (∀ f ∈ m.A, ParM w' B f.pe ∧ Own w' B f.ba f.bn f.bc f.bytes) ∧ Tab w' ∧ B ≤ w'.heap.size := by
  have hk : Kro w w' := Kro.one hX (by rcases hu with rfl | rfl | rfl <;> decide) hch
  refine ⟨fun b => (h.lk b).kept hs ?_ ?_ hk, fun b => (h.q b).stay ?_, row_stay h.a ?_, fun b x hx => (h.qr b x hx).kept hk, fun f hf => ⟨(h.ar f hf).1.kept hk, own_kept (h.ar f hf).2 fun k cs mk hh => hk k cs _ mk hh (.inl rfl)⟩, tab_block h.tab (hch 0 (Nat.lt_of_lt_of_le h.b0 h.bs) (by have := h.b0; omega)), Nat.le_trans h.bs hs⟩
  · exact hch _ (h.lk b).blk.lt (ne_type (h.lk b).blk hX (by rcases hu with rfl | rfl | rfl <;> decide))
  · intro k hk2
    obtain ⟨cs, hc⟩ := row_blk (h.lk b).row hk2
    exact hch k hc.lt (ne_type hc hX (by rcases hu with rfl | rfl | rfl <;> decide))
  · intro k hk2
    obtain ⟨_, cs, hc⟩ := (h.q b).lt hk2
    exact hch k hc.lt (ne_type hc hX (by rcases hu with rfl | rfl | rfl <;> decide))
  · intro k hk2
    obtain ⟨cs, hc⟩ := row_blk h.a hk2
    exact hch k hc.lt (ne_type hc hX (by rcases hu with rfl | rfl | rfl <;> decide))
theorem set_far (w : World) (x i : Nat) (u : Value) : ∀ k, k < w.heap.size → k ≠ x → (w.setCell ⟨x, i, none⟩ u).heap[k]? = w.heap[k]? := fun k _ hk => heap_setCell_other w ⟨x, i, none⟩ k u hk
theorem set_size (w : World) (x i : Nat) (u : Value) : w.heap.size ≤ (w.setCell ⟨x, i, none⟩ u).heap.size := by simp
theorem two_setI (f : Bool → Nat) (b : Bool) (x : Nat) : (#[.int .i64 (f false : Int), .int .i64 (f true : Int)] : Array Value).setIfInBounds b.toNat (.int .i64 (x : Int)) = #[.int .i64 ((upd f b x false : Nat) : Int), .int .i64 ((upd f b x true : Nat) : Int)] := by cases b <;> rfl
theorem two_setP (f : Bool → Nat) (b : Bool) (x : Nat) : (#[.pointer (some ⟨f false, 0, none⟩), .pointer (some ⟨f true, 0, none⟩)] : Array Value).setIfInBounds b.toNat (.pointer (some ⟨x, 0, none⟩)) = #[.pointer (some ⟨upd f b x false, 0, none⟩), .pointer (some ⟨upd f b x true, 0, none⟩)] := by cases b <;> rfl
theorem two_setV (f : Bool → Value) (b : Bool) (x : Value) : (#[f false, f true] : Array Value).setIfInBounds b.toNat x = #[upd f b x false, upd f b x true] := by cases b <;> rfl
theorem St.setV {w : World} {B : Nat} {m : Mem} (h : St w B m) (b : Bool) (x : Nat) : St (w.setCell ⟨m.bV, b.toNat, none⟩ (.int .i64 (x : Int))) B { m with lv := upd m.lv b x } := by
  obtain ⟨h1, h2, h3, h4, h5, h6, h7⟩ := h.arr (w' := w.setCell ⟨m.bV, b.toNat, none⟩ (.int .i64 (x : Int))) h.vv (.inr (.inl rfl)) h.lo.2.1 (set_size _ _ _ _) (set_far _ _ _ _)
  have hv := h.vv.set b.toNat (.int .i64 (x : Int))
  rw [two_setI] at hv
  exact ⟨h.ee.other _ _ (ne_type h.ee h.vv (by decide)), hv, h.ww.other _ _ (ne_type h.ww h.vv (by decide)), h.kk.other _ _ h.vk.symm, h.vk, h.lo, h.gl, h1, h.gg, h.vn, h2, h.qn, h3, h4, h5, h6, h.b0, h7⟩
theorem St.setK {w : World} {B : Nat} {m : Mem} (h : St w B m) (b : Bool) (x : Nat) : St (w.setCell ⟨m.bK, b.toNat, none⟩ (.int .i64 (x : Int))) B { m with kn := upd m.kn b x } := by
  obtain ⟨h1, h2, h3, h4, h5, h6, h7⟩ := h.arr (w' := w.setCell ⟨m.bK, b.toNat, none⟩ (.int .i64 (x : Int))) h.kk (.inr (.inl rfl)) h.lo.2.2.2 (set_size _ _ _ _) (set_far _ _ _ _)
  have hv := h.kk.set b.toNat (.int .i64 (x : Int))
  rw [two_setI] at hv
  exact ⟨h.ee.other _ _ (ne_type h.ee h.kk (by decide)), h.vv.other _ _ h.vk, h.ww.other _ _ (ne_type h.ww h.kk (by decide)), hv, h.vk, h.lo, h.gl, h1, h.gg, h.vn, h2, h.qn, h3, h4, h5, h6, h.b0, h7⟩
/-- A new link at an end. -/
theorem St.setE {w : World} {B : Nat} {m : Mem} (h : St w B m) (b : Bool) (x : Nat) (l' : Lk) (hx : LkIn w B x (.slice none 0 0) [] l') (hn : x ≠ m.g (!b)) (hb : B ≤ x) : St (w.setCell ⟨m.bE, b.toNat, none⟩ (.pointer (some ⟨x, 0, none⟩))) B { m with g := upd m.g b x, v := upd m.v b (.slice none 0 0), L := upd m.L b [], l := upd m.l b l' } := by
  obtain ⟨h1, h2, h3, h4, h5, h6, h7⟩ := h.arr (w' := w.setCell ⟨m.bE, b.toNat, none⟩ (.pointer (some ⟨x, 0, none⟩))) h.ee (.inl rfl) h.lo.1 (set_size _ _ _ _) (set_far _ _ _ _)
  have hv := h.ee.set b.toNat (.pointer (some ⟨x, 0, none⟩))
  rw [two_setP] at hv
  have hx2 : LkIn (w.setCell ⟨m.bE, b.toNat, none⟩ (.pointer (some ⟨x, 0, none⟩))) B x (.slice none 0 0) [] l' := hx.kept (set_size _ _ _ _) (set_far _ _ _ _ x hx.blk.lt (ne_type hx.blk h.ee (by decide))) (fun k hk => by cases hk) (Kro.one h.ee (by decide) (set_far _ _ _ _))
  refine ⟨hv, h.vv.other _ _ (ne_type h.vv h.ee (by decide)), h.ww.other _ _ (ne_type h.ww h.ee (by decide)), h.kk.other _ _ (ne_type h.kk h.ee (by decide)), h.vk, h.lo, fun c => ?_, fun c => ?_, fun c => ?_, fun c k => ?_, h2, h.qn, h3, h4, h5, h6, h.b0, h7⟩
  · by_cases hc : c = b
    · subst hc; simp only [upd_same]; exact hb
    · simp only [upd_other _ _ hc]; exact h.gl c
  · by_cases hc : c = b
    · subst hc; simp only [upd_same]; exact hx2
    · simp only [upd_other _ _ hc]; exact h1 c
  · by_cases hc : c = b
    · subst hc; simp only [upd_same, upd_not]; exact hn
    · have hcb : c = !b := by revert hc; cases b <;> cases c <;> simp
      subst hcb
      simp only [upd_not, Bool.not_not, upd_same]
      exact hn.symm
  · by_cases hc : c = b
    · subst hc; simp only [upd_same, upd_not]; intro hk; cases hk
    · have hcb : c = !b := by revert hc; cases b <;> cases c <;> simp
      subst hcb
      simp only [upd_not, Bool.not_not, upd_same]
      intro _ hk
      cases hk
/-- What waits is another row now, which lies in the block it lay in, or in a new one. -/
theorem St.setW {w : World} {B : Nat} {m : Mem} (h : St w B m) (b : Bool) (x : Value) (Q' : List Pe) (hx : Wq w B x Q'.length (Q'.flatMap pcells)) (hn : ∀ k, x.ownBlock = some k → (m.qv (!b)).ownBlock ≠ some k) (hr : ∀ y ∈ Q', ParM w B y) : St (w.setCell ⟨m.bW, b.toNat, none⟩ x) B { m with qv := upd m.qv b x, Q := upd m.Q b Q' } := by
  obtain ⟨h1, h2, h3, h4, h5, h6, h7⟩ := h.arr (w' := w.setCell ⟨m.bW, b.toNat, none⟩ x) h.ww (.inr (.inr rfl)) h.lo.2.2.1 (set_size _ _ _ _) (set_far _ _ _ _)
  have hv := h.ww.set b.toNat x
  rw [two_setV] at hv
  have hk : Kro w (w.setCell ⟨m.bW, b.toNat, none⟩ x) := Kro.one h.ww (by decide) (set_far _ _ _ _)
  have hx2 : Wq (w.setCell ⟨m.bW, b.toNat, none⟩ x) B x Q'.length (Q'.flatMap pcells) := hx.stay fun k hk2 => by
    obtain ⟨_, cs, hc⟩ := hx.lt hk2
    exact set_far _ _ _ _ k hc.lt (ne_type hc h.ww (by decide))
  refine ⟨h.ee.other _ _ (ne_type h.ee h.ww (by decide)), h.vv.other _ _ (ne_type h.vv h.ww (by decide)), hv, h.kk.other _ _ (ne_type h.kk h.ww (by decide)), h.vk, h.lo, h.gl, h1, h.gg, h.vn, fun c => ?_, fun c k => ?_, h3, fun c => ?_, h5, h6, h.b0, h7⟩
  · by_cases hc : c = b
    · subst hc; simp only [upd_same]; exact hx2
    · simp only [upd_other _ _ hc]; exact h2 c
  · by_cases hc : c = b
    · subst hc; simp only [upd_same, upd_not]; exact hn k
    · have hcb : c = !b := by revert hc; cases b <;> cases c <;> simp
      subst hcb
      simp only [upd_not, Bool.not_not, upd_same]
      exact fun e1 e2 => hn k e2 e1
  · by_cases hc : c = b
    · subst hc; simp only [upd_same]; exact fun y hy => (hr y hy).kept hk
    · simp only [upd_other _ _ hc]; exact h4 c
/-- A change of the block of what waits at one end (or of no block): all else stays. -/
theorem St.grownQ {w w' : World} {B : Nat} {m : Mem} (h : St w B m) (b : Bool) (hg : w.grownBy w' (m.qv b).ownBlock) (x : Value) (n : Nat) (xs : List Value) (hx : Wq w' B x n xs) (hsn : Sn w (m.qv b) x) :
    (∀ Q', (Q'.flatMap pcells) = xs → Q'.length = n → (∀ y ∈ Q', ParM w B y) → St (w'.setCell ⟨m.bW, b.toNat, none⟩ x) B { m with qv := upd m.qv b x, Q := upd m.Q b Q' }) ∧ Bk w' m.bW #[m.qv false, m.qv true] 27 := by
  have hty : ∀ (k : Nat) (cs : Array Value) (t : TypeId) (mk : Nat × Nat), w.heap[k]? = some (.cells cs t mk) → t ≠ 37 → w'.heap[k]? = some (.cells cs t mk) := fun k cs t mk hk h1 => by
    rw [hg.block k (Array.getElem?_eq_some_iff.1 hk).1 (fun e => by obtain ⟨_, cs2, hc⟩ := (h.q b).lt e.symm; exact ne_type hk hc h1 rfl)]
    exact hk
  have hst : ∀ (k : Nat) (cs : Array Value) (t : TypeId), Bk w k cs t → t ≠ 37 → w'.heap[k]? = w.heap[k]? := fun k cs t hk h1 => by rw [hty k cs t _ hk h1]; exact hk.symm
  have hk : Kro w w' := fun k cs t mk hk ht => hty k cs t mk hk (by rcases ht with rfl | rfl | rfl <;> decide)
  have hw : Bk w' m.bW #[m.qv false, m.qv true] 27 := hty _ _ _ _ h.ww (by decide)
  refine ⟨fun Q' he hl hr => ?_, hw⟩
  have hn : ∀ k, x.ownBlock = some k → (m.qv (!b)).ownBlock ≠ some k := fun k h1 h2 => by
    rcases hsn with e | ⟨k', e, hk'⟩
    · exact h.qn b k (e ▸ h1) h2
    · obtain rfl : k' = k := by simpa [e] using h1
      obtain ⟨_, cs, hc⟩ := (h.q (!b)).lt h2
      have := hc.lt
      omega
  have hob : ∀ k, (m.qv (!b)).ownBlock = some k → w'.heap[k]? = w.heap[k]? := fun k hk2 => by
    obtain ⟨_, cs, hc⟩ := (h.q (!b)).lt hk2
    exact hg.block k hc.lt (fun e => h.qn b k e.symm hk2)
  have hv := hw.set b.toNat x
  rw [two_setV] at hv
  have hX := set_far w' m.bW b.toNat x
  have hZ := set_size w' m.bW b.toNat x
  have hk2 : Kro w' (w'.setCell ⟨m.bW, b.toNat, none⟩ x) := Kro.one hw (by decide) hX
  have hk3 : Kro w (w'.setCell ⟨m.bW, b.toNat, none⟩ x) := fun k cs t mk h1 h2 => hk2 k cs t mk (hk k cs t mk h1 h2) h2
  have hs3 : ∀ (k : Nat) (cs : Array Value) (t : TypeId), Bk w k cs t → t ≠ 37 → t ≠ 27 → (w'.setCell ⟨m.bW, b.toNat, none⟩ x).heap[k]? = w.heap[k]? := fun k cs t h1 h2 h3 => by
    have h4 : Bk w' k cs t := hty k cs t _ h1 h2
    rw [hX k h4.lt (ne_type h4 hw h3)]
    exact hst k cs t h1 h2
  have hb3 : ∀ (k : Nat) (cs : Array Value) (t : TypeId), Bk w k cs t → t ≠ 37 → t ≠ 27 → Bk (w'.setCell ⟨m.bW, b.toNat, none⟩ x) k cs t := fun k cs t h1 h2 h3 => by unfold Bk; rw [hs3 k cs t h1 h2 h3]; exact h1
  refine ⟨hb3 _ _ _ h.ee (by decide) (by decide), hb3 _ _ _ h.vv (by decide) (by decide), hv, hb3 _ _ _ h.kk (by decide) (by decide), h.vk, h.lo, h.gl, fun c => (h.lk c).kept (Nat.le_trans hg.size hZ) (hs3 _ _ _ (h.lk c).blk (by decide) (by decide)) (fun k hk4 => by obtain ⟨cs, hc⟩ := row_blk (h.lk c).row hk4; exact hs3 _ _ _ hc (by decide) (by decide)) hk3, h.gg, h.vn, fun c => ?_, fun c k => ?_,
    row_stay h.a (fun k hk4 => by obtain ⟨cs, hc⟩ := row_blk h.a hk4; exact hs3 _ _ _ hc (by decide) (by decide)), fun c => ?_, fun f hf => ⟨(h.ar f hf).1.kept hk3, own_kept (h.ar f hf).2 fun k cs mk hh => hk3 k cs _ mk hh (.inl rfl)⟩, ?_, h.b0, Nat.le_trans h.bs (Nat.le_trans hg.size hZ)⟩
  · by_cases hc : c = b
    · subst hc
      simp only [upd_same]
      rw [hl, he]
      exact hx.stay fun k hk4 => by
        obtain ⟨_, cs, hc⟩ := hx.lt hk4
        exact hX k hc.lt (ne_type hc hw (by decide))
    · simp only [upd_other _ _ hc]
      have hcb : c = !b := by revert hc; cases b <;> cases c <;> simp
      subst hcb
      exact (h.q _).stay fun k hk4 => by
        obtain ⟨_, cs, hc⟩ := (h.q _).lt hk4
        rw [hX k (Nat.lt_of_lt_of_le hc.lt hg.size) (ne_type (m := (0, 0)) (by rw [hob k hk4]; exact hc) hw (by decide)), hob k hk4]
  · by_cases hc : c = b
    · subst hc; simp only [upd_same, upd_not]; exact hn k
    · have hcb : c = !b := by revert hc; cases b <;> cases c <;> simp
      subst hcb
      simp only [upd_not, Bool.not_not, upd_same]
      exact fun e1 e2 => hn k e2 e1
  · by_cases hc : c = b
    · subst hc; simp only [upd_same]; exact fun y hy => (hr y hy).kept hk3
    · simp only [upd_other _ _ hc]; exact fun y hy => (h.qr c y hy).kept hk3
  · refine tab_block h.tab ?_
    have h1 := h.b0
    have h2 := h.lo.2.2.1
    rw [hX 0 (by have := h.bs; have := hg.size; omega) (by omega)]
    exact hg.block 0 (by have := h.bs; omega) (fun e => by have := ((h.q b).lt e.symm).1; omega)
/-- A frame more that flew. -/
theorem St.grownA {w w' : World} {B : Nat} {m : Mem} (h : St w B m) (hg : w.grownBy w' m.av.ownBlock) (x : Value) (f : Fl) (hx : w'.ownsRow B 46 12 x (m.A.length + 1) (m.A.flatMap fcells ++ fcells f)) (hf : ParM w B f.pe ∧ Own w B f.ba f.bn f.bc f.bytes) : St w' B { m with av := x, A := m.A ++ [f] } := by
  have hty : ∀ (k : Nat) (cs : Array Value) (t : TypeId) (mk : Nat × Nat), w.heap[k]? = some (.cells cs t mk) → t ≠ 46 → w'.heap[k]? = some (.cells cs t mk) := fun k cs t mk hk h1 => by
    rw [hg.block k (Array.getElem?_eq_some_iff.1 hk).1 (row_type h.a hk h1)]
    exact hk
  have hst : ∀ (k : Nat) (cs : Array Value) (t : TypeId), Bk w k cs t → t ≠ 46 → w'.heap[k]? = w.heap[k]? := fun k cs t hk h1 => by rw [hty k cs t _ hk h1]; exact hk.symm
  have hk : Kro w w' := fun k cs t mk hk ht => hty k cs t mk hk (by rcases ht with rfl | rfl | rfl <;> decide)
  refine ⟨hty _ _ _ _ h.ee (by decide), hty _ _ _ _ h.vv (by decide), hty _ _ _ _ h.ww (by decide), hty _ _ _ _ h.kk (by decide), h.vk, h.lo, h.gl, fun c => (h.lk c).kept hg.size (hst _ _ _ (h.lk c).blk (by decide)) (fun k hk4 => by obtain ⟨cs, hc⟩ := row_blk (h.lk c).row hk4; exact hst _ _ _ hc (by decide)) hk, h.gg, h.vn, fun c => (h.q c).stay (fun k hk4 => by obtain ⟨_, cs, hc⟩ := (h.q c).lt hk4; exact hst _ _ _ hc (by decide)), h.qn, ?_, fun c y hy => (h.qr c y hy).kept hk, fun y hy => ?_, ?_, h.b0, Nat.le_trans h.bs hg.size⟩
  · simp only [List.length_append, List.length_cons, List.length_nil, List.flatMap_append, List.flatMap_cons, List.flatMap_nil, List.append_nil]
    exact hx
  · rcases List.mem_append.1 hy with hy | hy
    · exact ⟨(h.ar y hy).1.kept hk, own_kept (h.ar y hy).2 fun k cs mk hh => hk k cs _ mk hh (.inl rfl)⟩
    · obtain rfl := List.mem_singleton.1 hy
      exact ⟨hf.1.kept hk, own_kept hf.2 fun k cs mk hh => hk k cs _ mk hh (.inl rfl)⟩
  · exact tab_block h.tab (hg.block 0 (by have h1 := h.b0; have h2 := h.bs; omega) (fun e => by have h1 := (h.a.lt 0 e.symm).1; have h2 := h.b0; omega))
end Go.Proofs.YtbloomepdchjhaaDoor
/- The row of frames that flew, cell by cell; the row of what waits: its first one, its rest, one more. -/
namespace Go.Proofs.YtbloomepdchjhaaDoor
open Go.RowKit

theorem flatN {α : Type} {s : Nat} (c : α → List Value) (hc : ∀ x, (c x).length = s) : ∀ (l : List α) (i : Nat) (q : α), l[i]? = some q → ∀ j, j < s → (l.flatMap c)[i * s + j]? = (c q)[j]?
  | [], i, q, h, j, hj => by simp at h
  | p :: l, 0, q, h, j, hj => by
    simp only [List.getElem?_cons_zero, Option.some.injEq] at h
    subst h
    rw [List.flatMap_cons, Nat.zero_mul, Nat.zero_add, List.getElem?_append_left (by rw [hc]; exact hj)]
  | p :: l, i + 1, q, h, j, hj => by
    rw [List.getElem?_cons_succ] at h
    rw [List.flatMap_cons, Nat.add_mul, Nat.one_mul, List.getElem?_append_right (by rw [hc]; omega), hc, show i * s + s + j - s = i * s + j from by omega]
    exact flatN c hc l i q h j hj
theorem flatSet {α : Type} {s : Nat} (c : α → List Value) (hc : ∀ x, (c x).length = s) (r : Nat) (hr : r < s) (u : Value) (q' : α) : ∀ (l : List α) (i : Nat) (q : α), l[i]? = some q → c q' = (c q).set r u → (l.set i q').flatMap c = (l.flatMap c).set (i * s + r) u
  | [], i, q, h, _ => by simp at h
  | p :: l, 0, q, h, he => by
    simp only [List.getElem?_cons_zero, Option.some.injEq] at h
    subst h
    rw [List.set_cons_zero, List.flatMap_cons, List.flatMap_cons, he, Nat.zero_mul, Nat.zero_add, List.set_append_left _ _ (by rw [hc]; exact hr)]
  | p :: l, i + 1, q, h, he => by
    rw [List.getElem?_cons_succ] at h
    rw [List.set_cons_succ, List.flatMap_cons, List.flatMap_cons, flatSet c hc r hr u q' l i q h he, Nat.add_mul, Nat.one_mul, List.set_append_right _ _ (by rw [hc]; omega), hc, show i * s + s + r - s = i * s + r from by omega]
theorem fcells_len (f : Fl) : (fcells f).length = 12 := rfl
theorem pcells_len (x : Pe) : (pcells x).length = 8 := rfl
theorem fcells_one (f : Fl) : ∀ u ∈ fcells f, u.oneCell' = true := by
  intro u hu
  simp only [fcells, List.mem_cons, List.not_mem_nil, or_false] at hu
  rcases hu with rfl | rfl | rfl | rfl | rfl | rfl | rfl | rfl | rfl | rfl | rfl | rfl <;> rfl
theorem pcells_one (x : Pe) : ∀ u ∈ pcells x, u.oneCell' = true := by
  intro u hu
  simp only [pcells, List.mem_cons, List.not_mem_nil, or_false] at hu
  rcases hu with rfl | rfl | rfl | rfl | rfl | rfl | rfl | rfl <;> rfl
theorem addr_add (g o j : Nat) : (⟨g, o, none⟩ : Addr).add j = ⟨g, o + j, none⟩ := by unfold Addr.add; split <;> simp_all
theorem St.aform {w : World} {B : Nat} {m : Mem} (h : St w B m) (hn : 0 < m.A.length) : ∃ ga c, m.av = .slice (some ⟨ga, 0, none⟩) m.A.length c ∧ m.A.length ≤ c ∧ c ≤ maxLen := by
  rcases h.a.2 with ⟨_, h0⟩ | ⟨g, c, cur, hv, _, _, hc, hm, _⟩
  · omega
  · exact ⟨g, c, hv, hc, hm⟩
theorem St.alen {w : World} {B : Nat} {m : Mem} (h : St w B m) : ∃ a c, m.av = .slice a m.A.length c := by
  rcases h.a.2 with ⟨hv, h0⟩ | ⟨g, c, cur, hv, _⟩
  · exact ⟨none, 0, by rw [hv, h0]⟩
  · exact ⟨_, c, hv⟩
theorem St.acell {w : World} {B : Nat} {m : Mem} (h : St w B m) {ga c j : Nat} {f : Fl} (hv : m.av = .slice (some ⟨ga, 0, none⟩) m.A.length c) (hj : m.A[j]? = some f) (r : Nat) {u : Value} (hu : (fcells f)[r]? = some u) : w.cell? ⟨ga, j * 12 + r, none⟩ = some u := by
  have hr : r < 12 := by have := (List.getElem?_eq_some_iff.1 hu).1; rw [fcells_len] at this; exact this
  have h1 := h.a.cells (g := ga) (by rw [hv]; rfl) (j * 12 + r) u (by rw [flatN fcells fcells_len m.A j f hj r hr]; exact hu)
  rw [addr_add, Nat.zero_add] at h1
  exact h1
theorem St.afree {w : World} {B : Nat} {m : Mem} (h : St w B m) {ga c : Nat} (hv : m.av = .slice (some ⟨ga, 0, none⟩) m.A.length c) (i : Nat) : w.frozen? ⟨ga, i, none⟩ = false := by
  obtain ⟨cs, hc⟩ := row_blk h.a (k := ga) (by rw [hv]; rfl)
  exact hc.free i
/-- A flag of a frame that flew. -/
theorem St.done {w : World} {B : Nat} {m : Mem} (h : St w B m) {ga c j : Nat} {f : Fl} (hv : m.av = .slice (some ⟨ga, 0, none⟩) m.A.length c) (hj : m.A[j]? = some f) (x : Bool) : St (w.setCell ⟨ga, j * 12 + 11, none⟩ (.bool x)) B { m with A := m.A.set j { f with done := x } } := by
  obtain ⟨cx, hX⟩ := row_blk h.a (k := ga) (by rw [hv]; rfl)
  have hBg : B ≤ ga := (h.a.lt ga (by rw [hv]; rfl)).1
  have hch := set_far w ga (j * 12 + 11) (.bool x)
  have hz := set_size w ga (j * 12 + 11) (.bool x)
  have hk : Kro w (w.setCell ⟨ga, j * 12 + 11, none⟩ (.bool x)) := Kro.one hX (by decide) hch
  have hst : ∀ (k : Nat) (cs : Array Value) (t : TypeId), Bk w k cs t → t ≠ 46 → (w.setCell ⟨ga, j * 12 + 11, none⟩ (.bool x)).heap[k]? = w.heap[k]? := fun k cs t h1 h2 => hch k h1.lt (ne_type h1 hX h2)
  have hb : ∀ (k : Nat) (cs : Array Value) (t : TypeId), Bk w k cs t → t ≠ 46 → Bk (w.setCell ⟨ga, j * 12 + 11, none⟩ (.bool x)) k cs t := fun k cs t h1 h2 => by unfold Bk; rw [hst k cs t h1 h2]; exact h1
  have hjl := (List.getElem?_eq_some_iff.1 hj).1
  have hmem : f ∈ m.A := List.mem_of_getElem? hj
  refine ⟨hb _ _ _ h.ee (by decide), hb _ _ _ h.vv (by decide), hb _ _ _ h.ww (by decide), hb _ _ _ h.kk (by decide), h.vk, h.lo, h.gl, fun c => (h.lk c).kept hz (hst _ _ _ (h.lk c).blk (by decide)) (fun k hk4 => by obtain ⟨cs, hc⟩ := row_blk (h.lk c).row hk4; exact hst _ _ _ hc (by decide)) hk, h.gg, h.vn, fun c => (h.q c).stay (fun k hk4 => by obtain ⟨_, cs, hc⟩ := (h.q c).lt hk4; exact hst _ _ _ hc (by decide)), h.qn, ?_, fun c y hy => (h.qr c y hy).kept hk, fun y hy => ?_, tab_block h.tab (hch 0 (by have h1 := h.b0; have h2 := h.bs; omega) (by have h1 := h.b0; omega)), h.b0, Nat.le_trans h.bs hz⟩
  · simp only [List.length_set]
    rw [flatSet fcells fcells_len 11 (by omega) (.bool x) _ m.A j f hj rfl]
    refine ⟨by rw [List.length_set]; exact h.a.1, .inr ?_⟩
    rcases h.a.2 with ⟨hv2, _⟩ | ⟨g, c', cur, hv2, hbg, hg, hc1, hc2, hc3, hc4⟩
    · rw [hv] at hv2; cases hv2
    · have hv3 := hv2
      rw [hv] at hv3
      simp only [Value.slice.injEq, Option.some.injEq, Addr.mk.injEq, and_true, true_and] at hv3
      obtain ⟨rfl, rfl⟩ := hv3
      refine ⟨ga, c, _, hv2, hbg, Bk.set (t := 46) hg (j * 12 + 11) (.bool x), hc1, hc2, by simpa using hc3, ?_⟩
      rw [Array.toList_setIfInBounds, List.take_set, hc4]
  · rcases List.mem_or_eq_of_mem_set hy with hy | rfl
    · exact ⟨(h.ar y hy).1.kept hk, own_kept (h.ar y hy).2 fun k cs mk hh => hk k cs _ mk hh (.inl rfl)⟩
    · exact ⟨(h.ar f hmem).1.kept hk, own_kept (h.ar f hmem).2 fun k cs mk hh => hk k cs _ mk hh (.inl rfl)⟩
/-- The first parcel that waits. -/
theorem Wq.first {w : World} {B n : Nat} {v : Value} {x : Pe} {xs : List Value} (h : Wq w B v (n + 1) (pcells x ++ xs)) : ∃ q o c, v = .slice (some ⟨q, o, none⟩) (n + 1) c ∧ n + 1 ≤ c ∧ c ≤ maxLen ∧ (∀ (r : Nat) (u : Value), (pcells x)[r]? = some u → w.cell? ⟨q, o + r, none⟩ = some u) ∧
    (c = 1 → Wq w B (.slice (some ⟨q, o, none⟩) n (c - 1)) n xs) ∧ (c ≠ 1 → Wq w B (.slice (some ⟨q, o + 8, none⟩) n (c - 1)) n xs) := by
  have hl := h.1
  rw [List.length_append, pcells_len] at hl
  rcases h.2 with ⟨_, h0⟩ | ⟨q, o, c, cs, hv, hbq, hk, hnc, hcm, hsz, hcell⟩
  · omega
  · refine ⟨q, o, c, hv, hnc, hcm, fun r u hu => hk.cell (o + r) (hcell r u ?_), fun hc => ⟨by omega, .inr ⟨q, o, c - 1, cs, rfl, hbq, hk, by omega, by omega, by omega, fun j u hu => ?_⟩⟩, fun hc => ⟨by omega, .inr ⟨q, o + 8, c - 1, cs, rfl, hbq, hk, by omega, by omega, by omega, fun j u hu => ?_⟩⟩⟩
    · rw [List.getElem?_append_left (List.getElem?_eq_some_iff.1 hu).1]; exact hu
    · have := (List.getElem?_eq_some_iff.1 hu).1; omega
    · rw [Nat.add_assoc]
      refine hcell (8 + j) u ?_
      rw [List.getElem?_append_right (by rw [pcells_len]; omega), pcells_len, Nat.add_sub_cancel_left]
      exact hu
def setL (cs : Array Value) : Nat → List Value → Array Value
  | _, [] => cs
  | o, v :: vs => setL (cs.setIfInBounds o v) (o + 1) vs
theorem setL_size : ∀ (vs : List Value) (cs : Array Value) (o : Nat), (setL cs o vs).size = cs.size
  | [], _, _ => rfl
  | v :: vs, cs, o => by rw [setL, setL_size vs, Array.size_setIfInBounds]
theorem setL_out : ∀ (vs : List Value) (cs : Array Value) (o j : Nat), j < o → (setL cs o vs)[j]? = cs[j]?
  | [], _, _, _, _ => rfl
  | v :: vs, cs, o, j, h => by rw [setL, setL_out vs _ (o + 1) j (by omega), Array.getElem?_setIfInBounds_ne (by omega)]
theorem setL_in : ∀ (vs : List Value) (cs : Array Value) (o j : Nat), o + vs.length ≤ cs.size → j < vs.length → (setL cs o vs)[o + j]? = vs[j]?
  | v :: vs, cs, o, 0, h, _ => by
    have hl : o < cs.size := by simp at h; omega
    show (setL (cs.setIfInBounds o v) (o + 1) vs)[o]? = some v
    rw [setL_out vs _ (o + 1) o (by omega), Array.getElem?_setIfInBounds_self_of_lt hl]
  | v :: vs, cs, o, j + 1, h, hj => by
    rw [setL, show o + (j + 1) = o + 1 + j from by omega, setL_in vs _ (o + 1) j (by simp at h ⊢; omega) (by simpa using hj)]
    rfl
theorem Bk.setCells {b : Nat} {t : TypeId} : ∀ (vs : List Value) {w : World} {cs : Array Value} (o : Nat), Bk w b cs t → Bk (w.setCells b o vs) b (setL cs o vs) t
  | [], _, _, _, h => h
  | v :: vs, _, _, o, h => Bk.setCells vs (o + 1) (h.set o v)
theorem setCells_grown {b : Nat} : ∀ (vs : List Value) (w : World) (o : Nat), w.grownBy (w.setCells b o vs) (some b)
  | [], w, _ => ⟨rfl, rfl, rfl, Nat.le_refl _, fun _ _ _ => rfl⟩
  | v :: vs, w, o => by
    have h := setCells_grown (b := b) vs (w.setCell ⟨b, o, none⟩ v) (o + 1)
    refine ⟨h.os, h.tape, h.output, ?_, fun k hk hne => ?_⟩
    · have h1 := h.size; simpa [World.setCells] using h1
    · rw [World.setCells, h.block k (by simpa using hk) hne]
      exact heap_setCell_other w ⟨b, o, none⟩ k v (fun e => hne (by rw [e]))
theorem infoParcel14 : (Tryd.prog.info? 37).map (fun i => (i.zero, i.size, i.bytes)) = some (some (.agg #[.int .i64 0, .int .i64 0, .int .i64 0, .int .i64 0, .int .i64 0, .int .i64 0, .slice none 0 0, .slice none 0 0]), 8, 96) := by kernel_rfl
theorem run_append_wq {w : World} {B : Nat} {v : Value} {n : Nat} {xs : List Value} (h : Wq w B v n xs) (ty : TypeId) (a : Addr) (c : Nat) (news : List Value) (hl : news.length = 8) (hnews : ∀ j u, news[j]? = some u → w.cell? (a.add j) = some u) (h1 : ∀ u ∈ news, u.oneCell' = true) (hn : n ≤ 1000) (hB : B ≤ w.heap.size) :
    ∃ v' w', (Builtin.append_ #[26, 26] ty #[v, .slice (some a) 1 c]).run Tryd.prog w = .ok v' w' ∧ Wq w' B v' (n + 1) (xs ++ news) ∧ w.grownBy w' v.ownBlock ∧ Sn w v v' := by
  obtain ⟨i0, hi, hz0, hz1, hz2⟩ := info_parts infoParcel14
  have hlen : (xs ++ news).length = (n + 1) * 8 := by rw [List.length_append, h.1, hl]; omega
  have hsrc : Src Tryd.prog i0.size 26 (.slice (some a) 1 c) 1 news w := by
    rw [hz1]
    exact Src.ofSlice w Tryd.underlying26 a 1 c news (by rw [hl]) hnews h1
  have grown : ∀ (old : Nat) (row : Option Nat), old < n + 1 →
      Wq (w.drew.alloc (.cells ((xs ++ news).toArray ++ Builtin.zeroCells (Value.cells (.agg #[.int .i64 0, .int .i64 0, .int .i64 0, .int .i64 0, .int .i64 0, .int .i64 0, .slice none 0 0, .slice none 0 0])) (grownCap w (n + 1) old 37 - (n + 1))) 37)) B (.slice (some ⟨w.heap.size, 0, none⟩) (n + 1) (grownCap w (n + 1) old 37)) (n + 1) (xs ++ news) ∧
      w.grownBy (w.drew.alloc (.cells ((xs ++ news).toArray ++ Builtin.zeroCells (Value.cells (.agg #[.int .i64 0, .int .i64 0, .int .i64 0, .int .i64 0, .int .i64 0, .int .i64 0, .slice none 0 0, .slice none 0 0])) (grownCap w (n + 1) old 37 - (n + 1))) 37)) row := by
    intro old row ho
    have hge := grownCap_ge w (n + 1) old 37
    have hcm : grownCap w (n + 1) old 37 ≤ maxLen := grownCap_le_maxLen w (n + 1) old _ (by unfold maxLen; omega)
    refine ⟨⟨hlen, .inr ⟨w.heap.size, 0, _, _, rfl, hB, heap_alloc_new w.drew _, hge, hcm, ?_, fun j u hu => ?_⟩⟩, ⟨rfl, rfl, rfl, by simp, fun k hk _ => (below_new w.drew _).block k hk⟩⟩
    · have hzc : (Value.cells (.agg #[.int .i64 0, .int .i64 0, .int .i64 0, .int .i64 0, .int .i64 0, .int .i64 0, .slice none 0 0, .slice none 0 0])).size = 8 := rfl
      rw [Array.size_append, List.size_toArray, size_zeroCells, hlen, hzc]
      omega
    · rw [Nat.zero_add, Array.getElem?_append_left (by rw [List.size_toArray]; exact (List.getElem?_eq_some_iff.1 hu).1)]
      simpa using hu
  rcases h.2 with ⟨rfl, rfl⟩ | ⟨q, o, cap, cs, rfl, hbq, hk, hnc, hcm, hsz, hcell⟩
  · have hx : xs = [] := List.eq_nil_of_length_eq_zero (by simpa using h.1)
    subst hx
    have hr := run_append_grow_src (P := Tryd.prog) w 26 26 ty 37 i0 _ Tryd.underlying26 hi hz0 none 0 0 [] (by exact run_firstCells_none w.drew _ 0 0 0) (.slice (some a) 1 c) 1 news hsrc (by omega) (by omega) (growslice_fits (by omega) (by rw [hz2]; omega))
    obtain ⟨g1, g2⟩ := grown 0 (Value.ownBlock (.slice none 0 0)) (by omega)
    exact ⟨_, _, hr, g1, g2, .inr ⟨_, rfl, Nat.le_refl _⟩⟩
  · by_cases hroom : n + 1 ≤ cap
    · have hr := run_append_room_src (P := Tryd.prog) w 26 26 ty 37 i0 Tryd.underlying26 hi q o n cap (.slice (some a) 1 c) 1 news hsrc hroom
        (fun j hj => by rw [hz1, hk.cell (o + n * 8 + j) (v := cs[o + n * 8 + j]'(by omega)) (Array.getElem?_eq_getElem _)]; rfl) (fun j hj => hk.free _)
      rw [hz1] at hr
      refine ⟨_, _, hr, ⟨hlen, .inr ⟨q, o, cap, _, rfl, hbq, hk.setCells news (o + n * 8), hroom, hcm, by rw [setL_size]; exact hsz, fun j u hu => ?_⟩⟩, setCells_grown news w (o + n * 8), .inl rfl⟩
      by_cases hj : j < n * 8
      · rw [List.getElem?_append_left (by rw [h.1]; exact hj)] at hu
        rw [setL_out _ _ _ _ (by omega)]
        exact hcell j u hu
      · rw [List.getElem?_append_right (by rw [h.1]; omega), h.1] at hu
        have hjl := (List.getElem?_eq_some_iff.1 hu).1
        rw [show o + j = o + n * 8 + (j - n * 8) from by omega, setL_in _ _ _ _ (by omega) hjl]
        exact hu
    · have hold : ∀ j u, xs[j]? = some u → w.drew.cell? ((⟨q, o, none⟩ : Addr).add j) = some u := fun j u hu => by
        rw [addr_add]
        have := hk.cell (o + j) (hcell j u hu)
        simpa using this
      have hr := run_append_grow_src (P := Tryd.prog) w 26 26 ty 37 i0 _ Tryd.underlying26 hi hz0 (some ⟨q, o, none⟩) n cap xs (run_firstCells_some w.drew i0.size n ⟨q, o, none⟩ n cap xs (by rw [hz1]; exact h.1) hold) (.slice (some a) 1 c) 1 news hsrc (by omega) (by omega) (growslice_fits (by omega) (by rw [hz2]; omega))
      obtain ⟨g1, g2⟩ := grown cap (Value.ownBlock (.slice (some ⟨q, o, none⟩) n cap)) (by omega)
      exact ⟨_, _, hr, g1, g2, .inr ⟨_, rfl, Nat.le_refl _⟩⟩
theorem step_append_wq {w : World} {ops : Array Oper} {o : Oper} {act : Act} {K : Act → World → Prop} {Q : Exit → Act → World → Prop} {E : Prop} (hgd : o.guard = none) (s x : Operand)
    (ho : o.op = .call { callee := .builtin .append, args := #[s, x], argTypes := #[26, 26] })
    (B : Nat) (v : Value) (n : Nat) (xs : List Value) (hs : act.eval s = v) (hown : Wq w B v n xs) (ad : Addr) (c : Nat) (news : List Value) (hx : act.eval x = .slice (some ad) 1 c) (hl : news.length = 8) (hnews : ∀ j u, news[j]? = some u → w.cell? (ad.add j) = some u) (h1 : ∀ u ∈ news, u.oneCell' = true)
    (hn : n ≤ 1000) (hB : B ≤ w.heap.size)
    (h : ∀ v' w', Wq w' B v' (n + 1) (xs ++ news) → w.grownBy w' v.ownBlock → Sn w v v' → K (act.put o.dst v') w') : if Region.wanted o (yielded ops act.tmps) = true then Oper.wp Tryd.prog o act w K Q else E := by
  rw [if_pos (by simp [Region.wanted, hgd])]
  obtain ⟨v', w', hr, h2, h3, h4⟩ := run_append_wq hown o.type ad c news hl hnews h1 hn hB
  unfold Oper.wp execOp
  simp only [ho, resolve, invoke, builtin, Sem.run_bind, Sem.run_pure, Result.andThen_ok, List.map_toArray, List.map_cons, List.map_nil, hs, hx, hr]
  exact h v' w' h2 h3 h4
theorem infoFlown : (Tryd.prog.info? 46).map (fun i => (i.zero, i.size, i.bytes)) = some (some (.agg #[.slice none 0 0, .int .i64 0, .int .i64 0, .int .i64 0, .int .i64 0, .int .i64 0, .int .i64 0, .int .i64 0, .int .i64 0, .slice none 0 0, .slice none 0 0, .bool false]), 12, 144) := by kernel_rfl
theorem step_append_fl {w : World} {ops : Array Oper} {o : Oper} {act : Act} {K : Act → World → Prop} {Q : Exit → Act → World → Prop} {E : Prop} (hgd : o.guard = none) (s x : Operand)
    (ho : o.op = .call { callee := .builtin .append, args := #[s, x], argTypes := #[31, 31] })
    (B : Nat) (v : Value) (A : List Fl) (hs : act.eval s = v) (hown : w.ownsRow B 46 12 v A.length (A.flatMap fcells)) (ad : Addr) (c : Nat) (f : Fl) (hx : act.eval x = .slice (some ad) 1 c) (hnews : ∀ j u, (fcells f)[j]? = some u → w.cell? (ad.add j) = some u)
    (hn : A.length ≤ 1000) (hB : B ≤ w.heap.size)
    (h : ∀ v' w', w'.ownsRow B 46 12 v' (A.length + 1) (A.flatMap fcells ++ fcells f) → w.grownBy w' v.ownBlock → K (act.put o.dst v') w') : if Region.wanted o (yielded ops act.tmps) = true then Oper.wp Tryd.prog o act w K Q else E := by
  rw [if_pos (by simp [Region.wanted, hgd])]
  obtain ⟨i0, hi, hz0, hz1, hz2⟩ := info_parts infoFlown
  exact wp_append_own w s x 31 ho B 46 i0 (.agg #[.slice none 0 0, .int .i64 0, .int .i64 0, .int .i64 0, .int .i64 0, .int .i64 0, .int .i64 0, .int .i64 0, .int .i64 0, .slice none 0 0, .slice none 0 0, .bool false]) 12 144 Tryd.underlying31 hi hz0 hz1 hz2 (by rfl) (by decide) v A.length (A.flatMap fcells) hs hown ad 1 c (fcells f) hx (by rfl) hnews (fcells_one f) (by unfold maxLen; omega) (by omega) hB fun v' w' h1 h2 _ => h v' w' h1 h2
end Go.Proofs.YtbloomepdchjhaaDoor
/- How two links and what flew between them stand, as mathematics: what is taken is taken once. -/
namespace Go.Proofs.YtbloomepdchjhaaDoor
open Go.RowKit

/-- A parcel that may be sent. -/
def Ok13 (p : Pc) : Prop := chk p = 0 ∧ (newsB p.kind = true → ∀ q ∈ p.items, ItFit q)
/-- What waits in a link, and what is held against it. -/
def Pair (x : Wt × Bd) (y : Pe) : Prop := x.1.kind = 1 ∧ ∃ p, Ok13 p ∧ x.1.rest = putD p ∧ y.p = plainP p
structure Pairs (L : List (Wt × Bd)) (Q : List Pe) : Prop where
  len : L.length = Q.length
  at_ : ∀ (j : Nat) x y, L[j]? = some x → Q[j]? = some y → Pair x y
theorem Pairs.nil_ : Pairs [] [] := ⟨rfl, fun j x y h => by simp at h⟩
theorem Pairs.snoc {L : List (Wt × Bd)} {Q : List Pe} (h : Pairs L Q) {x : Wt × Bd} {y : Pe} (hp : Pair x y) : Pairs (L ++ [x]) (Q ++ [y]) := by
  refine ⟨by simp [h.len], fun j a c ha hc => ?_⟩
  by_cases hj : j < L.length
  · rw [List.getElem?_append_left hj] at ha
    rw [List.getElem?_append_left (by rw [← h.len]; exact hj)] at hc
    exact h.at_ j a c ha hc
  · rw [List.getElem?_append_right (by omega)] at ha
    rw [List.getElem?_append_right (by rw [← h.len]; omega), ← h.len] at hc
    have h0 : j - L.length = 0 := by
      have := (List.getElem?_eq_some_iff.1 ha).1
      simpa using this
    rw [h0] at ha hc
    simp only [List.getElem?_cons_zero, Option.some.injEq] at ha hc
    subst ha hc
    exact hp
theorem Pairs.tail {x : Wt × Bd} {y : Pe} {L : List (Wt × Bd)} {Q : List Pe} (h : Pairs (x :: L) (y :: Q)) : Pair x y ∧ Pairs L Q :=
  ⟨h.at_ 0 x y rfl rfl, by have := h.len; simpa using this, fun j a c ha hc => h.at_ (j + 1) a c (by simpa using ha) (by simpa using hc)⟩

/-- A frame that flew, as it must be. -/
structure FlOk (kn gr : Bool → Nat) (l : Bool → Lk) (i : Nat) (f : Fl) : Prop where
  life : 1 ≤ f.life ∧ f.life ≤ 1 + i
  oth : f.oth ≤ 1 + i
  num : 1 ≤ f.num ∧ f.num ≤ 1 + i
  ok : Ok13 f.src
  pe : f.pe.p = plainP f.src
  done : f.done = true → Tkn (kn (!f.fr)) (gr (!f.fr)) (l (!f.fr)).bits_ f.life f.num
structure Good (m : Mem) (gr : Bool → Nat) (i : Nat) : Prop where
  nums : ∀ b, Nums (m.l b) (m.kn b) (gr b)
  life : ∀ b, (m.l b).life = (m.lv b : Int)
  lb : ∀ b, 1 ≤ m.lv b ∧ m.lv b ≤ 1 + i
  la : ∀ b, ∃ la : Nat, (m.l b).last = (la : Int) ∧ la ≤ i
  qu : ∀ b, (m.l b).queue = 8
  pair : ∀ b, Pairs (m.L b) (m.Q b)
  len : ∀ b, (m.L b).length ≤ 8
  kb : ∀ b, m.kn b ≤ 1 + i
  al : m.A.length ≤ i
  fl : ∀ f ∈ m.A, FlOk m.kn gr m.l i f
theorem upd_self {α : Type} (f : Bool → α) (b : Bool) : upd f b (f b) = f := by
  funext c
  unfold upd
  split
  · rename_i h; rw [h]
  · rfl
theorem upd_all {α : Type} {P : Bool → α → Prop} {f : Bool → α} {b : Bool} {x : α} (h1 : ∀ c, P c (f c)) (h2 : P b x) : ∀ c, P c (upd f b x c) := fun c => by
  by_cases hc : c = b
  · subst hc; rw [upd_same]; exact h2
  · rw [upd_other _ _ hc]; exact h1 c
theorem FlOk.mono {kn gr : Bool → Nat} {l : Bool → Lk} {i : Nat} {f : Fl} (h : FlOk kn gr l i f) : FlOk kn gr l (i + 1) f := ⟨by have := h.life; omega, by have := h.oth; omega, by have := h.num; omega, h.ok, h.pe, h.done⟩
theorem Good.next {m : Mem} {gr : Bool → Nat} {i : Nat} (h : Good m gr i) : Good m gr (i + 1) :=
  ⟨h.nums, h.life, fun b => by have := h.lb b; omega, fun b => by obtain ⟨la, h1, h2⟩ := h.la b; exact ⟨la, h1, by omega⟩, h.qu, h.pair, h.len, fun b => by have := h.kb b; omega, by have := h.al; omega, fun f hf => (h.fl f hf).mono⟩
theorem Good.send {m : Mem} {gr : Bool → Nat} {i : Nat} (h : Good m gr i) (b : Bool) (x : Wt × Bd) (y : Pe) (hp : Pair x y) (hl : (m.L b).length < 8) (m' : Mem) (e1 : m'.l = m.l) (e2 : m'.lv = m.lv) (e3 : m'.kn = m.kn) (e4 : m'.L = upd m.L b (m.L b ++ [x])) (e5 : m'.Q = upd m.Q b (m.Q b ++ [y])) (e6 : m'.A = m.A) : Good m' gr (i + 1) := by
  have h := h.next
  refine ⟨by rw [e1, e3]; exact h.nums, by rw [e1, e2]; exact h.life, by rw [e2]; exact h.lb, by rw [e1]; exact h.la, by rw [e1]; exact h.qu, fun c => ?_, fun c => ?_, by rw [e3]; exact h.kb, by rw [e6]; exact h.al, by rw [e6, e3, e1]; exact h.fl⟩
  · rw [e4, e5]
    by_cases hc : c = b
    · subst hc; rw [upd_same, upd_same]; exact (h.pair c).snoc hp
    · rw [upd_other _ _ hc, upd_other _ _ hc]; exact h.pair c
  · rw [e4]
    exact upd_all (P := fun _ (l : List (Wt × Bd)) => l.length ≤ 8) h.len (by simp; omega) c
theorem Good.pull {m : Mem} {gr : Bool → Nat} {i : Nat} (h : Good m gr i) (b : Bool) {x : Wt × Bd} {T : List (Wt × Bd)} {y : Pe} {R : List Pe} (hx : m.L b = x :: T) (hy : m.Q b = y :: R) (la : Nat) (hla : la ≤ i) (f : Fl) (src : Pc) (hs : Ok13 src) (hps : y.p = plainP src)
    (f1 : f.life = m.lv b) (f2 : f.oth = m.kn b) (f3 : f.num = la + 1) (f4 : f.src = src) (f5 : f.pe = y) (f6 : f.done = false) (m' : Mem) (e1 : m'.l = upd m.l b { m.l b with last := (la : Int) + 1 }) (e2 : m'.lv = m.lv) (e3 : m'.kn = m.kn) (e4 : m'.L = upd m.L b T) (e5 : m'.Q = upd m.Q b R) (e6 : m'.A = m.A ++ [f]) : Good m' gr (i + 1) := by
  have hb := h.lb b
  have hk := h.kb b
  have hal := h.al
  have h := h.next
  have hT := (show Pairs (x :: T) (y :: R) from by rw [← hx, ← hy]; exact h.pair b).tail
  refine ⟨fun c => ?_, fun c => ?_, by rw [e2]; exact h.lb, fun c => ?_, fun c => ?_, fun c => ?_, fun c => ?_, by rw [e3]; exact h.kb, ?_, fun z hz => ?_⟩
  · rw [e1, e3]
    exact upd_all (P := fun c (l : Lk) => Nums l (m.kn c) (gr c)) (x := { m.l b with last := (la : Int) + 1 }) h.nums ⟨(h.nums b).o, (h.nums b).g, (h.nums b).gb, (h.nums b).b⟩ c
  · rw [e1, e2]
    exact upd_all (P := fun c (l : Lk) => l.life = (m.lv c : Int)) (x := { m.l b with last := (la : Int) + 1 }) h.life (h.life b) c
  · rw [e1]
    exact upd_all (P := fun _ (l : Lk) => ∃ la : Nat, l.last = (la : Int) ∧ la ≤ i + 1) (x := { m.l b with last := (la : Int) + 1 }) h.la ⟨la + 1, by simp, by omega⟩ c
  · rw [e1]
    exact upd_all (P := fun _ (l : Lk) => l.queue = 8) (x := { m.l b with last := (la : Int) + 1 }) h.qu (h.qu b) c
  · rw [e4, e5]
    by_cases hc : c = b
    · subst hc; rw [upd_same, upd_same]; exact hT.2
    · rw [upd_other _ _ hc, upd_other _ _ hc]; exact h.pair c
  · rw [e4]
    exact upd_all (P := fun _ (l : List (Wt × Bd)) => l.length ≤ 8) h.len (by have := h.len b; rw [hx] at this; simp at this; omega) c
  · rw [e6]
    simp
    omega
  · rw [e6] at hz
    have hbit : ∀ c, (m'.l c).bits_ = (m.l c).bits_ := fun c => by
      rw [e1]
      by_cases hc : c = b
      · subst hc; rw [upd_same]
      · rw [upd_other _ _ hc]
    rcases List.mem_append.1 hz with hz | hz
    · have hf := h.fl z hz
      exact ⟨hf.life, hf.oth, hf.num, hf.ok, hf.pe, fun hd => by rw [e3, hbit]; exact hf.done hd⟩
    · obtain rfl := List.mem_singleton.1 hz
      exact ⟨by rw [f1]; omega, by rw [f2]; omega, by rw [f3]; omega, by rw [f4]; exact hs, by rw [f5, f4]; exact hps, fun hd => by rw [f6] at hd; cases hd⟩
/-- A frame is taken, or refused. -/
theorem Good.take {m : Mem} {gr : Bool → Nat} {i : Nat} (h : Good m gr i) (hi : i ≤ 1000) {j : Nat} {f : Fl} (hj : m.A[j]? = some f) (c : Bool) (hc : c = !f.fr) :
    ∃ gr', Nums (accR (m.l c) (m.kn c) (gr c) f.life f.oth f.num).2 (max (m.kn c) f.life) gr' ∧ ((accR (m.l c) (m.kn c) (gr c) f.life f.oth f.num).1 = 0 → f.done = false ∧ ¬ f.life < m.kn c) ∧
      ∀ (l' : Lk) (d : Bool) (m' : Mem), l'.life = (m.l c).life → l'.last = (m.l c).last → l'.queue = (m.l c).queue → Nums l' (max (m.kn c) f.life) gr' → l'.bits_ = (accR (m.l c) (m.kn c) (gr c) f.life f.oth f.num).2.bits_ → (d = true → f.done = true ∨ (accR (m.l c) (m.kn c) (gr c) f.life f.oth f.num).1 = 0) →
        m'.l = upd m.l c l' → m'.lv = m.lv → m'.kn = upd m.kn c (max (m.kn c) f.life) → m'.L = m.L → m'.Q = m.Q → m'.A = m.A.set j { f with done := d } → Good m' (upd gr c gr') (i + 1) := by
  have hf := h.fl f (List.mem_of_getElem? hj)
  obtain ⟨ot', gr', h1, rfl, h3, h4, h5⟩ := accR_law (h.nums c) f.life f.oth f.num (by have := hf.num; omega)
  refine ⟨gr', h1, fun h0 => ⟨?_, ?_⟩, ?_⟩
  · cases hd : f.done with
    | false => rfl
    | true =>
      have := hf.done hd
      rw [← hc] at this
      exact absurd this (h4 h0).2
  · intro hlt
    exact (h4 h0).2 (.inl hlt)
  · intro l' d m' k1 k2 k3 k4 k5 k6 e1 e2 e3 e4 e5 e6
    have hx := hf.life
    have hn := h.next
    refine ⟨fun b => ?_, fun b => ?_, by rw [e2]; exact hn.lb, fun b => ?_, fun b => ?_, by rw [e4, e5]; exact hn.pair, by rw [e4]; exact hn.len, fun b => ?_, by rw [e6, List.length_set]; exact hn.al, fun z hz => ?_⟩
    · rw [e1, e3]
      by_cases hb : b = c
      · subst hb; rw [upd_same, upd_same, upd_same]; exact k4
      · rw [upd_other _ _ hb, upd_other _ _ hb, upd_other _ _ hb]; exact hn.nums b
    · rw [e1, e2]
      exact upd_all (P := fun b (l : Lk) => l.life = (m.lv b : Int)) hn.life (by rw [k1]; exact hn.life c) b
    · rw [e1]
      exact upd_all (P := fun _ (l : Lk) => ∃ la : Nat, l.last = (la : Int) ∧ la ≤ i + 1) hn.la (by rw [k2]; exact hn.la c) b
    · rw [e1]
      exact upd_all (P := fun _ (l : Lk) => l.queue = 8) hn.qu (by rw [k3]; exact hn.qu c) b
    · rw [e3]
      exact upd_all (P := fun _ (k : Nat) => k ≤ 1 + (i + 1)) hn.kb (by have := h.kb c; omega) b
    · rw [e6] at hz
      have key : ∀ y : Fl, (FlOk m.kn gr m.l (i + 1) y) → FlOk m'.kn (upd gr c gr') m'.l (i + 1) y := fun y hy => ⟨hy.life, hy.oth, hy.num, hy.ok, hy.pe, fun hd => by
        rw [e1, e3]
        by_cases hb : (!y.fr) = c
        · rw [hb, upd_same, upd_same, upd_same, k5]
          have := hy.done hd
          rw [hb] at this
          exact h3 _ _ this
        · rw [upd_other _ _ hb, upd_other _ _ hb, upd_other _ _ hb]
          exact hy.done hd⟩
      rcases List.mem_or_eq_of_mem_set hz with hz | rfl
      · exact key z (hn.fl z hz)
      · have hf2 := key f (hn.fl f (List.mem_of_getElem? hj))
        refine ⟨hf2.life, hf2.oth, hf2.num, hf2.ok, hf2.pe, fun hd => ?_⟩
        rcases k6 hd with hd | h0
        · exact hf2.done hd
        · simp only
          rw [e1, e3, ← hc, upd_same, upd_same, upd_same, k5]
          exact (h4 h0).1
def clr (b : Bool) (f : Fl) : Fl := if f.fr = b then f else { f with done := false }
theorem clr_fr (b : Bool) (f : Fl) : (clr b f).fr = f.fr := by unfold clr; split <;> rfl
/-- A new life at an end. -/
theorem Good.fresh {m : Mem} {gr : Bool → Nat} {i : Nat} (h : Good m gr i) (b : Bool) (m' : Mem) (e1 : m'.l = upd m.l b ⟨((m.lv b + 1 : Nat) : Int), 0, 0, 8, 0, 0, -1⟩) (e2 : m'.lv = upd m.lv b (m.lv b + 1)) (e3 : m'.kn = upd m.kn b 0) (e4 : m'.L = upd m.L b []) (e5 : m'.Q = upd m.Q b []) (e6 : m'.A = m.A.map (clr b)) : Good m' (upd gr b 0) (i + 1) := by
  have hb := h.lb b
  have h := h.next
  refine ⟨fun c => ?_, fun c => ?_, fun c => ?_, fun c => ?_, fun c => ?_, fun c => ?_, fun c => ?_, fun c => ?_, by rw [e6, List.length_map]; exact h.al, fun z hz => ?_⟩
  · rw [e1, e3]
    by_cases hc : c = b
    · subst hc; rw [upd_same, upd_same, upd_same]; exact ⟨rfl, rfl, by omega, by simp⟩
    · rw [upd_other _ _ hc, upd_other _ _ hc, upd_other _ _ hc]; exact h.nums c
  · rw [e1, e2]
    by_cases hc : c = b
    · subst hc; rw [upd_same, upd_same]
    · rw [upd_other _ _ hc, upd_other _ _ hc]; exact h.life c
  · rw [e2]
    exact upd_all (P := fun _ (k : Nat) => 1 ≤ k ∧ k ≤ 1 + (i + 1)) h.lb (by omega) c
  · rw [e1]
    exact upd_all (P := fun _ (l : Lk) => ∃ la : Nat, l.last = (la : Int) ∧ la ≤ i + 1) h.la ⟨0, rfl, by omega⟩ c
  · rw [e1]
    exact upd_all (P := fun _ (l : Lk) => l.queue = 8) h.qu rfl c
  · rw [e4, e5]
    by_cases hc : c = b
    · subst hc; rw [upd_same, upd_same]; exact Pairs.nil_
    · rw [upd_other _ _ hc, upd_other _ _ hc]; exact h.pair c
  · rw [e4]
    exact upd_all (P := fun _ (l : List (Wt × Bd)) => l.length ≤ 8) h.len (by simp) c
  · rw [e3]
    exact upd_all (P := fun _ (k : Nat) => k ≤ 1 + (i + 1)) h.kb (by omega) c
  · rw [e6] at hz
    obtain ⟨y, hy, rfl⟩ := List.mem_map.1 hz
    have hf := h.fl y hy
    by_cases hyb : y.fr = b
    · have e : clr b y = y := if_pos hyb
      rw [e]
      refine ⟨hf.life, hf.oth, hf.num, hf.ok, hf.pe, fun hd => ?_⟩
      have hn : (!y.fr) ≠ b := by rw [hyb]; cases b <;> decide
      rw [e1, e3, upd_other _ _ hn, upd_other _ _ hn, upd_other _ _ hn]
      exact hf.done hd
    · have e : clr b y = { y with done := false } := if_neg hyb
      rw [e]
      exact ⟨hf.life, hf.oth, hf.num, hf.ok, hf.pe, fun hd => by cases hd⟩
/-- What is cleared so far. -/
def clrN (b : Bool) (n : Nat) (A : List Fl) : List Fl := (A.take n).map (clr b) ++ A.drop n
theorem clrN_zero (b : Bool) (A : List Fl) : clrN b 0 A = A := rfl
theorem clrN_all (b : Bool) (A : List Fl) : clrN b A.length A = A.map (clr b) := by simp [clrN]
theorem clrN_len (b : Bool) (n : Nat) (A : List Fl) : (clrN b n A).length = A.length := by simp [clrN]; omega
theorem clrN_at {b : Bool} {n : Nat} {A : List Fl} {f : Fl} (h : A[n]? = some f) : (clrN b n A)[n]? = some f ∧ (clrN b n A).set n (clr b f) = clrN b (n + 1) A := by
  obtain ⟨hl, hf⟩ := List.getElem?_eq_some_iff.1 h
  have hk : ((A.take n).map (clr b)).length = n := by simp; omega
  have hd : A.drop n = f :: A.drop (n + 1) := by rw [List.drop_eq_getElem_cons hl, hf]
  refine ⟨?_, ?_⟩
  · rw [clrN, List.getElem?_append_right (by omega), hk, Nat.sub_self, hd]; rfl
  · rw [clrN, clrN, List.set_append_right _ _ (by omega), hk, Nat.sub_self, hd, List.set_cons_zero, List.take_add_one, h]
    simp
end Go.Proofs.YtbloomepdchjhaaDoor
/- The calls of two links, over all that the law holds. -/
namespace Go.Proofs.YtbloomepdchjhaaDoor
open Go.RowKit

theorem itE_fit {p : Pc} : ∀ (l : List It) (least : Int), itE p least l = 0 → ∀ q ∈ l, least ≤ q.tick ∧ q.tick ≤ p.to_ ∧ q.body.length ≤ 400
  | [], _, _, q, hq => by cases hq
  | x :: l, least, h, q, hq => by
    by_cases h1 : x.tick < least ∨ p.to_ < x.tick ∨ atS p.spans x.tick ≠ 0
    · rw [itE_tick h1] at h; cases h
    · by_cases h2 : 400 < x.body.length
      · rw [itE_long h1 h2] at h; cases h
      · rw [itE_next h1 h2] at h
        rcases List.mem_cons.1 hq with rfl | hq
        · omega
        · have h3 := itE_fit l _ h q hq
          omega
theorem chk_fit14 {p : Pc} (h : chk p = 0) (he : ∀ q ∈ p.items, ((-9223372036854775808 : Int) ≤ q.tick ∧ q.tick ≤ 9223372036854775807) ∧ (0 ≤ q.for_ ∧ q.for_ ≤ 4294967295)) : newsB p.kind = true → ∀ q ∈ p.items, ItFit q := by
  intro hn q hq
  obtain ⟨h1, h2, h3⟩ := chk_zero h
  obtain ⟨_, _, h4⟩ := h3 hn
  have hk : p.kind = 1 := by simpa [newsB] using hn
  have hr : rngB p = true := num_to (p := p) (su := subB p.kind) (fr := fromB p.kind) (by rw [show toB p.kind = true from by rw [hk]; rfl] at h2; exact h2)
  simp only [rngB, decide_eq_true_eq] at hr
  obtain ⟨a, b, c⟩ := itE_fit _ _ h4 q hq
  exact ⟨⟨by omega, by omega⟩, (he q hq).2, c⟩
theorem plain_items {p : Pc} (h : Ok13 p) : ∀ q ∈ (plainP p).items, ((-9223372036854775808 : Int) ≤ q.tick ∧ q.tick ≤ 9223372036854775807) ∧ (0 ≤ q.for_ ∧ q.for_ ≤ 4294967295) := by
  intro q hq
  simp only [plainP] at hq
  split at hq
  · rename_i hn
    have := h.2 hn q hq
    unfold ItFit at this
    omega
  · cases hq
theorem sealed_mem {k : Nat} {bs : List Nat} {y : Nat} (h : y ∈ bs) : y ∈ SealM.sealed k bs := by
  unfold SealM.sealed SealM.inner
  simp [h]
theorem St.below_link {w w' : World} {B : Nat} {m : Mem} (h : St w B m) (b : Bool) (hf : Fr w w' (m.g b) (m.v b)) : Below B w w' := hf.below (h.gl b) (fun k hk => ((h.lk b).row.lt k hk).1) h.bs

theorem cE0 {w : World} {B : Nat} {m : Mem} (h : St w B m) (b : Bool) : w.cell? ⟨m.bE, b.toNat, none⟩ = some (.pointer (some ⟨m.g b, 0, none⟩)) := by
  cases b
  · exact h.ee.cell 0 rfl
  · exact h.ee.cell 1 rfl
/-- Send at an end. -/
theorem on_send {w : World} {B : Nat} {m : Mem} {gr : Bool → Nat} {i : Nat} (h : St w B m) (hg : Good m gr i) (b : Bool) (p : Pc) (sa : Option Addr) (sn sc : Nat) (ia : Option Addr) (im ic : Nat) (hp : PcRd w p sa sn sc ia im ic) :
    Calls Tryd.prog 7 #[.pointer (some ⟨m.g b, 0, none⟩), p.val sa sn sc ia im ic] w fun e w' => (∃ r : Int, e = .returned (.int .i64 r) ∧ ((r = 0 ∧ Hid (Ok13 p ∧ (m.L b).length < 8 ∧ ∃ v' bd, St w' B { m with v := upd m.v b v', L := upd m.L b (m.L b ++ [(⟨1, putD p⟩, bd)]) })) ∨ (r ≠ 0 ∧ Hid (St w' B m)))) ∧ Hid (Below B w w') ∧ Hid (w'.cell? ⟨m.bE, b.toNat, none⟩ = some (.pointer (some ⟨m.g b, 0, none⟩))) := by
  have hq := hg.qu b
  by_cases hc : chk p = 0
  · by_cases hl : (m.L b).length < 8
    · refine (lk_Send_ok2 w B (m.g b) (m.v b) (m.L b) (m.l b) (h.lk b) p sa sn sc ia im ic hp hc (by rw [hq]; omega) (by omega)).mono ?_
      rintro e w' ⟨rfl, H, hf⟩
      obtain ⟨v', bd, h1, h2⟩ := H.out
      have h3 := h.link b hf h1 h2
      rw [upd_self m.l b] at h3
      exact ⟨⟨0, rfl, .inl ⟨rfl, ⟨hc, chk_fit14 hc hp.items.each⟩, hl, v', bd, h3⟩⟩, h.below_link b hf, cE0 h3 b⟩
    · refine (lk_Send_full w B (m.g b) (m.v b) (m.L b) (m.l b) (h.lk b) p sa sn sc ia im ic hp hc (by rw [hq]; omega)).mono ?_
      rintro e w' ⟨rfl, hb⟩
      exact ⟨⟨9, rfl, .inr ⟨by decide, h.stay hb⟩⟩, hb.mono h.bs, cE0 (h.stay hb) b⟩
  · refine (lk_Send_bad w B (m.g b) (m.v b) (m.L b) (m.l b) (h.lk b) p sa sn sc ia im ic hp hc).mono ?_
    rintro e w' ⟨rfl, hb⟩
    exact ⟨⟨chk p, rfl, .inr ⟨hc, h.stay hb⟩⟩, hb.mono h.bs, cE0 (h.stay hb) b⟩

/-- Pull at an end at which something waits. -/
theorem on_pull {w : World} {B : Nat} {m : Mem} {gr : Bool → Nat} {i : Nat} (h : St w B m) (hg : Good m gr i) (hi : i ≤ 1000) (b : Bool) {x : Wt × Bd} {T : List (Wt × Bd)} {y : Pe} {R : List Pe} (hx : m.L b = x :: T) (hy : m.Q b = y :: R) :
    Calls Tryd.prog 9 #[.pointer (some ⟨m.g b, 0, none⟩)] w fun e w' => ∃ (ba : Option Addr) (bn bc : Nat), e = .returned (.tuple #[.slice ba bn bc, .bool true]) ∧ Hid (∃ (la : Nat) (src : Pc) (v' : Value), la ≤ i ∧ Ok13 src ∧ y.p = plainP src ∧ Own w' B ba bn bc (SealM.sealed 1 (lebs [m.lv b, m.kn b, la + 1] ++ putD src)) ∧ St w' B { m with v := upd m.v b v', L := upd m.L b T, l := upd m.l b { m.l b with last := (la : Int) + 1 } }) ∧ Hid (Below B w w') := by
  obtain ⟨hk1, src, hok, hrest, hyp⟩ := (show Pairs (x :: T) (y :: R) from by rw [← hx, ← hy]; exact hg.pair b).tail.1
  obtain ⟨la, hla, hlai⟩ := hg.la b
  have hlb := hg.lb b
  have hkb := hg.kb b
  have hL := h.lk b
  rw [hx] at hL
  obtain ⟨gv, c, hv, _⟩ := hL.form (m := T.length) rfl
  rw [hv] at hL
  have hlen := frame_len hok.1 hok.2 (x0 := m.lv b) (x1 := m.kn b) (x2 := la + 1) (by omega) (by omega) (by omega)
  refine (lk_Pull_ok2 w B (m.g b) gv T.length c x T (m.l b) hL rfl (m.lv b) (m.kn b) la (hg.life b) (hg.nums b).o hla (by omega) (by omega) (by omega) (by rw [hrest]; exact hlen) h.tab (Nat.lt_of_lt_of_le h.b0 h.bs) h.b0 (Nat.lt_of_lt_of_le h.b0 (h.gl b))).mono ?_
  rintro e w' ⟨⟨gf, he, HO⟩, HL, hf⟩
  have hO := HO.out
  rw [hk1, hrest] at hO
  rw [hrest] at he
  rw [← hv] at hf
  refine ⟨_, _, _, he, ⟨la, src, .slice (some ⟨gv, 0, none⟩) T.length c, hlai, hok, hyp, hO.under h.bs, h.link b hf HL.out (.inl ?_)⟩, h.below_link b hf⟩
  rw [hv]
  rfl

/-- What a frame that flew tells the end to which it goes. -/
theorem on_take {w : World} {B : Nat} {m : Mem} {gr : Bool → Nat} {i : Nat} (h : St w B m) (hg : Good m gr i) (hi : i ≤ 1000) {j : Nat} {f : Fl} (hj : m.A[j]? = some f) (b : Bool) :
    Calls Tryd.prog 10 #[.pointer (some ⟨m.g b, 0, none⟩), .slice f.ba f.bn f.bc, .int .i64 (i : Int)] w fun e w' => (((accR (m.l b) (m.kn b) (gr b) f.life f.oth f.num).1 = 0 ∧ ∃ sa sn sc ia im ic, e = .returned (.tuple #[(plainP f.src).val sa sn sc ia im ic, .bool true, .int .i64 0]) ∧ Hid (ParM w' B ⟨plainP f.src, sa, sn, sc, ia, im, ic⟩)) ∨
      ((accR (m.l b) (m.kn b) (gr b) f.life f.oth f.num).1 ≠ 0 ∧ e = .returned (.tuple #[Pc.zero.val none 0 0 none 0 0, .bool false, .int .i64 (accR (m.l b) (m.kn b) (gr b) f.life f.oth f.num).1]))) ∧
      Hid (∃ l' : Lk, l'.life = (m.l b).life ∧ l'.last = (m.l b).last ∧ l'.queue = (m.l b).queue ∧ (∀ ot g, Nums (accR (m.l b) (m.kn b) (gr b) f.life f.oth f.num).2 ot g → Nums l' ot g) ∧ l'.bits_ = (accR (m.l b) (m.kn b) (gr b) f.life f.oth f.num).2.bits_ ∧ St w' B { m with l := upd m.l b l' }) ∧ Hid (Below B w w') ∧ Hid (∀ (k : Nat) (cs : Array Value), Bk w k cs 37 → Bk w' k cs 37) := by
  have hf := hg.fl f (List.mem_of_getElem? hj)
  obtain ⟨hpm, hown⟩ := h.ar f (List.mem_of_getElem? hj)
  have h0 : 0 < w.heap.size := Nat.lt_of_lt_of_le h.b0 h.bs
  have hl := hf.life
  have ho := hf.oth
  have hn := hf.num
  have hlen := frame_len hf.ok.1 hf.ok.2 (x0 := f.life) (x1 := f.oth) (x2 := f.num) (by omega) (by omega) (by omega)
  have hrd : ∀ W, Below w.heap.size w W → w.heap.size + 1 ≤ W.heap.size → Calls Tryd.prog 23 #[.slice f.ba f.bn f.bc] W fun e w' => ReadTold 1 f.life f.oth f.num W (Par (w.heap.size + 1) (plainP f.src)) e w' := fun W hB hs =>
    told_1 hB hs f.ba f.bn f.bc f.bytes (putD f.src) f.life f.oth f.num hown.rd rfl hlen (fun y hy => hown.byte y (sealed_mem (List.mem_append_right _ hy))) (row_len hown.row).2.1 (by omega) (by omega) (by omega) h.tab h0 (plainP f.src) (takeP_put hf.ok.1 hf.ok.2)
  have hnm := hg.nums b
  have hrest := accR_rest (m.l b) (m.kn b) (gr b) f.life f.oth f.num
  have hvs : ∀ (w' : World) (l' : Lk), St w' B { m with v := upd m.v b (m.v b), L := upd m.L b (m.L b), l := upd m.l b l' } → St w' B { m with l := upd m.l b l' } := fun w' l' h5 => by
    rw [upd_self m.v b, upd_self m.L b] at h5
    exact h5
  by_cases hz : (accR (m.l b) (m.kn b) (gr b) f.life f.oth f.num).1 = 0
  · refine (lk_Take_yes_1 w B (m.g b) (m.v b) (m.L b) (m.l b) (h.lk b) f.ba f.bn f.bc f.life f.oth f.num i (m.kn b) (gr b) hnm.o hnm.g hnm.gb hnm.b (by omega) (by omega) (Par (w.heap.size + 1) (plainP f.src)) hrd (fun w1 w2 v hh hP => Par.stay w1 w2 v hh hP) hz _ rfl).mono ?_
    rintro e w' ⟨⟨v, he, HP⟩, HL, hfr⟩
    obtain ⟨sa, sn, sc, ia, im, ic, M, hv, h1, h2, h3⟩ := HP.out
    subst hv
    have hpr : ParM w' B ⟨plainP f.src, sa, sn, sc, ia, im, ic⟩ := ⟨h1.lower (Nat.le_succ_of_le h.bs), M, h2.lower (Nat.le_succ_of_le h.bs), h3⟩
    exact ⟨.inl ⟨hz, sa, sn, sc, ia, im, ic, he, hpr⟩, ⟨{ (accR (m.l b) (m.kn b) (gr b) f.life f.oth f.num).2 with heard := max (accR (m.l b) (m.kn b) (gr b) f.life f.oth f.num).2.heard (i : Int) }, hrest.1, hrest.2.1, hrest.2.2.1, fun ot g hh => ⟨hh.o, hh.g, hh.gb, hh.b⟩, rfl, hvs _ _ (h.link b hfr HL.out (.inl rfl))⟩, h.below_link b hfr, fun k cs hk => hk.fr hfr (ne_type hk (h.lk b).blk (by decide)) (row_type (h.lk b).row hk (by decide))⟩
  · refine (lk_Take_no w B (m.g b) (m.v b) (m.L b) (m.l b) (h.lk b) f.ba f.bn f.bc 1 f.life f.oth f.num i (m.kn b) (gr b) hnm.o hnm.g hnm.gb hnm.b (by omega) (by omega) (Par (w.heap.size + 1) (plainP f.src)) hrd hz).mono ?_
    rintro e w' ⟨he, HL, hfr⟩
    exact ⟨.inr ⟨hz, he⟩, ⟨_, hrest.1, hrest.2.1, hrest.2.2.1, fun ot g hh => hh, rfl, hvs _ _ (h.link b hfr HL.out (.inl rfl))⟩, h.below_link b hfr, fun k cs hk => hk.fr hfr (ne_type hk (h.lk b).blk (by decide)) (row_type (h.lk b).row hk (by decide))⟩
end Go.Proofs.YtbloomepdchjhaaDoor
/- Small things for the walk of LinkOnce: the cells of the four arrays, an end's number. -/
namespace Go.Proofs.YtbloomepdchjhaaDoor
open Go.RowKit

/-- A way that several ways meet. -/
theorem viaKey {G : Prop} (h : ∃ T : Prop, (Hid T → G) ∧ T) : G := let ⟨_, a, b⟩ := h; a b
theorem St.cE {w : World} {B : Nat} {m : Mem} (h : St w B m) (b : Bool) : w.cell? ⟨m.bE, b.toNat, none⟩ = some (.pointer (some ⟨m.g b, 0, none⟩)) := by
  cases b
  · exact h.ee.cell 0 rfl
  · exact h.ee.cell 1 rfl
theorem St.cV {w : World} {B : Nat} {m : Mem} (h : St w B m) (b : Bool) : w.cell? ⟨m.bV, b.toNat, none⟩ = some (.int .i64 (m.lv b : Int)) := by
  cases b
  · exact h.vv.cell 0 rfl
  · exact h.vv.cell 1 rfl
theorem St.cW {w : World} {B : Nat} {m : Mem} (h : St w B m) (b : Bool) : w.cell? ⟨m.bW, b.toNat, none⟩ = some (m.qv b) := by
  cases b
  · exact h.ww.cell 0 rfl
  · exact h.ww.cell 1 rfl
theorem St.cK {w : World} {B : Nat} {m : Mem} (h : St w B m) (b : Bool) : w.cell? ⟨m.bK, b.toNat, none⟩ = some (.int .i64 (m.kn b : Int)) := by
  cases b
  · exact h.kk.cell 0 rfl
  · exact h.kk.cell 1 rfl
theorem pair_mk {p : Pc} (h : Ok13 p) (bd : Bd) (sa : Option Addr) (sn sc : Nat) (ia : Option Addr) (im ic : Nat) : Pair (⟨1, putD p⟩, bd) ⟨plainQ p, sa, sn, sc, ia, im, ic⟩ := ⟨rfl, p, h, rfl, plainQ_is (chk_zero h.1).1⟩
theorem pe_told {w : World} {g : Nat} {x : Pe} (h : Bk w g (pcells x).toArray 37) : ∀ j u, (pcells x)[j]? = some u → w.cell? ((⟨g, 0, none⟩ : Addr).add j) = some u := by
  intro j u hj
  have := h.cell j (v := u) (by simpa using hj)
  rw [addr_add, Nat.zero_add]
  exact this
theorem fl_told {w : World} {g : Nat} {x : Fl} (h : Bk w g (fcells x).toArray 46) : ∀ j u, (fcells x)[j]? = some u → w.cell? ((⟨g, 0, none⟩ : Addr).add j) = some u := by
  intro j u hj
  have := h.cell j (v := u) (by simpa using hj)
  rw [addr_add, Nat.zero_add]
  exact this
theorem St.belowQ {w w' : World} {B : Nat} {m : Mem} (h : St w B m) (b : Bool) (hg : w.grownBy w' (m.qv b).ownBlock) : Below B w w' := (Below.refl _ _).grown hg h.bs (fun _ hk => ((h.q b).lt hk).1)
theorem St.belowA {w w' : World} {B : Nat} {m : Mem} (h : St w B m) (hg : w.grownBy w' m.av.ownBlock) : Below B w w' := (Below.refl _ _).grown hg h.bs (fun k hk => (h.a.lt k hk).1)
/-- A block of a parcel that is none of those that wait is changed: all else stays. -/
theorem St.poke {w w' : World} {B : Nat} {m : Mem} (h : St w B m) {X : Nat} {cx : Array Value} (hX : Bk w X cx 37) (hq : ∀ b k, (m.qv b).ownBlock = some k → k ≠ X) (hB : B ≤ X) (hs : w.heap.size ≤ w'.heap.size) (hch : ∀ k, k < w.heap.size → k ≠ X → w'.heap[k]? = w.heap[k]?) : St w' B m := by
  have hk : Kro w w' := Kro.one hX (by decide) hch
  have hst : ∀ (k : Nat) (cs : Array Value) (t : TypeId), Bk w k cs t → t ≠ 37 → w'.heap[k]? = w.heap[k]? := fun k cs t h1 h2 => hch k h1.lt (ne_type h1 hX h2)
  have hb : ∀ (k : Nat) (cs : Array Value) (t : TypeId), Bk w k cs t → t ≠ 37 → Bk w' k cs t := fun k cs t h1 h2 => by unfold Bk; rw [hst k cs t h1 h2]; exact h1
  exact ⟨hb _ _ _ h.ee (by decide), hb _ _ _ h.vv (by decide), hb _ _ _ h.ww (by decide), hb _ _ _ h.kk (by decide), h.vk, h.lo, h.gl, fun c => (h.lk c).kept hs (hst _ _ _ (h.lk c).blk (by decide)) (fun k hk4 => by obtain ⟨cs, hc⟩ := row_blk (h.lk c).row hk4; exact hst _ _ _ hc (by decide)) hk, h.gg, h.vn, fun c => (h.q c).stay (fun k hk4 => by obtain ⟨_, cs, hc⟩ := (h.q c).lt hk4; exact hch k hc.lt (hq c k hk4)), h.qn,
    row_stay h.a (fun k hk4 => by obtain ⟨cs, hc⟩ := row_blk h.a hk4; exact hst _ _ _ hc (by decide)), fun c y hy => (h.qr c y hy).kept hk, fun f hf => ⟨(h.ar f hf).1.kept hk, own_kept (h.ar f hf).2 fun k cs mk hh => hk k cs _ mk hh (.inl rfl)⟩, tab_block h.tab (hch 0 (by have h1 := h.b0; have h2 := h.bs; omega) (by have h1 := h.b0; omega)), h.b0, Nat.le_trans h.bs hs⟩
/-- Take, its answers as one. -/
theorem on_take2 {w : World} {B : Nat} {m : Mem} {gr : Bool → Nat} {i : Nat} (h : St w B m) (hg : Good m gr i) (hi : i ≤ 1000) {j : Nat} {f : Fl} (hj : m.A[j]? = some f) (b : Bool) :
    Calls Tryd.prog 10 #[.pointer (some ⟨m.g b, 0, none⟩), .slice f.ba f.bn f.bc, .int .i64 (i : Int)] w fun e w' => (∃ (z : Pc) (sa : Option Addr) (sn sc : Nat) (ia : Option Addr) (im ic : Nat) (ok : Bool) (r : Int), e = .returned (.tuple #[z.val sa sn sc ia im ic, .bool ok, .int .i64 r]) ∧
        Hid ((ok = true ∧ r = 0 ∧ (accR (m.l b) (m.kn b) (gr b) f.life f.oth f.num).1 = 0 ∧ z = plainP f.src ∧ ParM w' B ⟨z, sa, sn, sc, ia, im, ic⟩) ∨ (ok = false ∧ r ≠ 0 ∧ (accR (m.l b) (m.kn b) (gr b) f.life f.oth f.num).1 ≠ 0))) ∧
      Hid (∃ l' : Lk, l'.life = (m.l b).life ∧ l'.last = (m.l b).last ∧ l'.queue = (m.l b).queue ∧ (∀ ot g, Nums (accR (m.l b) (m.kn b) (gr b) f.life f.oth f.num).2 ot g → Nums l' ot g) ∧ l'.bits_ = (accR (m.l b) (m.kn b) (gr b) f.life f.oth f.num).2.bits_ ∧ St w' B { m with l := upd m.l b l' }) ∧ Hid (Below B w w') ∧ Hid (∀ (k : Nat) (cs : Array Value), Bk w k cs 37 → Bk w' k cs 37) := by
  refine (on_take h hg hi hj b).mono ?_
  rintro e w' ⟨h1, h2, h3, h4⟩
  rcases h1 with ⟨hz, sa, sn, sc, ia, im, ic, he, hp⟩ | ⟨hz, he⟩
  · exact ⟨⟨_, sa, sn, sc, ia, im, ic, true, 0, he, .inl ⟨rfl, rfl, hz, rfl, hp.out⟩⟩, h2, h3, h4⟩
  · exact ⟨⟨Pc.zero, none, 0, 0, none, 0, 0, false, _, he, .inr ⟨rfl, hz, hz⟩⟩, h2, h3, h4⟩
set_option maxRecDepth 100000 in
theorem on_side (b : Bool) (w : World) : Calls Tryd.prog 6 #[.bool b] w fun e w' => e = .returned (.int .i64 (b.toNat : Int)) ∧ w' = w := by
  cases b
  · go_enter Tryd.func6, Tryd.ntmps6
    go_wp2
    go_ret
    exact ⟨rfl, rfl⟩
  · go_enter Tryd.func6, Tryd.ntmps6
    go_wp2
    go_ret
    exact ⟨rfl, rfl⟩
end Go.Proofs.YtbloomepdchjhaaDoor
