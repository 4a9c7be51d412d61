/- A scope that is jumped back in: its head once, and what lies behind the label by one law. -/
import Derived.ScopeJumps
import Derived.WalkMore
namespace Go.Proofs.YteoopoabemeanaaGreatDoor

theorem jump_mono {l : Nat} {J J' : Act → World → Prop} {Q : Exit → Act → World → Prop} (h : ∀ a w, J a w → J' a w) : ∀ (e : Exit) (a : Act) (w : World), Exit.jump l J Q e a w → Exit.jump l J' Q e a w := fun e a w hq => by
  cases e <;> first | exact hq | exact ⟨hq.1, h _ _ hq.2⟩

/-- What holds at the label is shown once; the way to the label may use it. -/
theorem wp_scope_via {P : Program} {a : Act} {w : World} {Q : Exit → Act → World → Prop} {c rest : Code} (l : Nat) (J : Act → World → Prop) (μ : Act → World → Nat) (hf : findLabel c l = some (Code.skip.seq rest))
    (pass : ∀ a w, J a w → rest.wp P (Exit.jump l (fun a' w' => J a' w' ∧ μ a' w' < μ a w) Q) a w)
    (first : (∀ a w, J a w → rest.wp P (Exit.jump l J Q) a w) → c.wp P (Exit.jump l J Q) a w) : (Code.scope c).wp P Q a w :=
  wp_scope_jumps l J μ hf (first fun a w h => Code.wp_mono (jump_mono fun _ _ h => h.1) (pass a w h)) fun a w h => wp_seq (wp_skip (pass a w h))

end Go.Proofs.YteoopoabemeanaaGreatDoor
