/- The code's disk and its cells, as a law holds them. -/
import Derived.Test.YthpjaidgacenoabMkPlay2
import Derived.Test.YthpjaidgacenoabMkStayM
namespace Go.Proofs.Ythpjaidgacenoab
open Go.RowKit

structure Tri (w : World) (base gp g gs gc r gy : Nat) (wv : Value) (D : Dk) : Prop where
  dk : Disk w base g gs wv D
  cs : Cs w gc g 1 3
  pr : Pr w gp g gc r gy
theorem Quad.tri {w : World} {base gp g gs gc r gy q : Nat} {wv sv rv : Value} {SV WV : List Value} {D : Dk} (h : Quad w base gp g gs gc r gy q wv sv rv SV WV D) : Tri w base gp g gs gc r gy wv D := ⟨h.dk, h.cs, h.pr⟩
theorem Tri.stay {w w' : World} {base gp g gs gc r gy : Nat} {wv : Value} {D : Dk} (h : Tri w base gp g gs gc r gy wv D) (hb : Below w.heap.size w w') : Tri w' base gp g gs gc r gy wv D := ⟨h.dk.stay hb, h.cs.stay hb, Blk.stay h.pr hb⟩
theorem Tri.ne {w : World} {base gp g gs gc r gy : Nat} {wv : Value} {D : Dk} (h : Tri w base gp g gs gc r gy wv D) {k : Nat} {cs : Array Value} {t : TypeId} (hk : Blk w k cs t) (h1 : t ≠ 52) (h2 : t ≠ 54) : k ≠ g ∧ k ≠ gs := ⟨blk_ne hk h.dk.blk h1, blk_ne hk h.dk.srow h2⟩
theorem Tri.mv {w w' : World} {base gp g gs gc r gy : Nat} {wv wv' : Value} {D D' : Dk} (h : Tri w base gp g gs gc r gy wv D) (hm : Mv w w' base g gs) (hd : Disk w' base g gs wv' D') : Tri w' base gp g gs gc r gy wv' D' :=
  ⟨hd, hm.keep h.cs (h.ne h.cs (by decide) (by decide)).1 (h.ne h.cs (by decide) (by decide)).2 (by decide), hm.keep h.pr (h.ne h.pr (by decide) (by decide)).1 (h.ne h.pr (by decide) (by decide)).2 (by decide)⟩
theorem Tri.base {w : World} {base gp g gs gc r gy : Nat} {wv : Value} {D : Dk} (h : Tri w base gp g gs gc r gy wv D) : base ≤ w.heap.size := Nat.le_trans h.dk.bg (Nat.le_of_lt h.dk.blk.lt)
theorem FtRd.apart {w : World} {base g gs : Nat} {wv : Value} {D : Dk} (hd : Disk w base g gs wv D) {a : Option Addr} {n : Nat} {F : List Int} {w0 : World} (h : FtRd w0 a n F) (hb : w0.heap.size ≤ base) : ∀ b off, a = some ⟨b, off, none⟩ → 0 < n → b ≠ gs := by
  intro b off e h0 e2
  rcases h.far with h1 | ⟨b', off', h1, h2⟩
  · omega
  · rw [e] at h1
    simp only [Option.some.injEq, Addr.mk.injEq, and_true] at h1
    have := hd.bs
    omega
theorem crashed (D : Dk) : (crashD D []).down = false ∧ (crashD D []).waits = [] ∧ (crashD D []).sure = D.sure ∧ (crashD D []).trip = 0 := ⟨rfl, rfl, crash_none D.sure D.waits, rfl⟩
end Go.Proofs.Ythpjaidgacenoab
