/- evlog: a nil log; High, Rel, Used. -/
import Derived.Test.YtghajmcohdedlabEvL17
namespace Go.Proofs.Ytghajmcohdedlab
open Go.RowKit

theorem nilE_Open (b m : Int) (w : World) : Calls Try.prog 4 #[.pointer none, .int .i64 b, .int .i64 m] w fun e w' => e = .returned (.tuple #[.pointer none, .int .i64 1]) ∧ w' = w := by
  go_enter Try.func4, Try.ntmps4
  go_wp2
  go_returns
  exact ⟨rfl, rfl⟩
theorem nilE_stale (w : World) : Calls Try.prog 30 #[.pointer none] w fun e w' => e = .returned (.int .i64 1) ∧ w' = w := by
  go_enter Try.func30, Try.ntmps30
  go_wp2
  go_returns
  exact ⟨rfl, rfl⟩
theorem nilE_shut (w : World) : Calls Try.prog 22 #[.pointer none] w fun e w' => e = .returned (.int .i64 1) ∧ w' = w := by
  have hs := nilE_stale w
  go_enter Try.func22, Try.ntmps22
  go_wp2_with fail
  refine hs.mono ?_
  rintro e w' ⟨rfl, rfl⟩
  clear hs
  go_wp2
  go_returns
  exact ⟨rfl, rfl⟩
theorem nilE_Append (t : Int) (a : Option Addr) (n c : Nat) (w : World) : Calls Try.prog 6 #[.pointer none, .int .i64 t, .slice a n c] w fun e w' => e = .returned (.int .i64 1) ∧ w' = w := by
  have hs := nilE_shut w
  go_enter Try.func6, Try.ntmps6
  go_wp2_with fail
  refine hs.mono ?_
  rintro e w' ⟨rfl, rfl⟩
  clear hs
  go_wp2
  go_returns
  exact ⟨rfl, rfl⟩
theorem nilE_Sync (w : World) : Calls Try.prog 7 #[.pointer none] w fun e w' => e = .returned (.int .i64 1) ∧ w' = w := by
  have hs := nilE_stale w
  go_enter Try.func7, Try.ntmps7
  go_wp2_with fail
  refine hs.mono ?_
  rintro e w' ⟨rfl, rfl⟩
  clear hs
  go_wp2
  go_returns
  exact ⟨rfl, rfl⟩
theorem nilE_Chop (t : Int) (w : World) : Calls Try.prog 8 #[.pointer none, .int .i64 t] w fun e w' => e = .returned (.int .i64 1) ∧ w' = w := by
  have hs := nilE_shut w
  go_enter Try.func8, Try.ntmps8
  go_wp2_with fail
  refine hs.mono ?_
  rintro e w' ⟨rfl, rfl⟩
  clear hs
  go_wp2
  go_returns
  exact ⟨rfl, rfl⟩
theorem nilE_High (w : World) : Calls Try.prog 9 #[.pointer none] w fun e w' => e = .returned (.int .i64 0) ∧ w' = w := by
  go_enter Try.func9, Try.ntmps9
  go_wp2
  go_returns
  exact ⟨rfl, rfl⟩
theorem nilE_Rel (w : World) : Calls Try.prog 10 #[.pointer none] w fun e w' => e = .returned (.int .i64 0) ∧ w' = w := by
  go_enter Try.func10, Try.ntmps10
  go_wp2
  go_returns
  exact ⟨rfl, rfl⟩
theorem nilE_Used (w : World) : Calls Try.prog 11 #[.pointer none] w fun e w' => e = .returned (.int .i64 0) ∧ w' = w := by
  go_enter Try.func11, Try.ntmps11
  go_wp2
  go_returns
  exact ⟨rfl, rfl⟩
theorem nilE_Events (x y : Int) (w : World) : Calls Try.prog 12 #[.pointer none, .int .i64 x, .int .i64 y] w fun e w' => e = .returned (.slice none 0 0) ∧ w' = w := by
  go_enter Try.func12, Try.ntmps12
  go_wp2
  go_returns
  exact ⟨rfl, rfl⟩
theorem evl_High (w : World) (gl g gc b m ag hi rel : Nat) (uv rv : Value) (h : Lc w gl g gc b m ag uv hi rel rv) : Calls Try.prog 9 #[.pointer (some ⟨gl, 0, none⟩)] w fun e w' => e = .returned (.int .i64 (hi : Int)) ∧ w' = w := by
  have c6 : w.cell? ⟨gl, 6, none⟩ = some (.int .i64 (hi : Int)) := Blk.cell h 6 rfl
  clear h
  go_enter Try.func9, Try.ntmps9
  go_wp2
  go_returns
  exact ⟨rfl, rfl⟩
theorem evl_Rel (w : World) (gl g gc b m ag hi rel : Nat) (uv rv : Value) (h : Lc w gl g gc b m ag uv hi rel rv) : Calls Try.prog 10 #[.pointer (some ⟨gl, 0, none⟩)] w fun e w' => e = .returned (.int .i64 (rel : Int)) ∧ w' = w := by
  have c7 : w.cell? ⟨gl, 7, none⟩ = some (.int .i64 (rel : Int)) := Blk.cell h 7 rfl
  clear h
  go_enter Try.func10, Try.ntmps10
  go_wp2
  go_returns
  exact ⟨rfl, rfl⟩
end Go.Proofs.Ytghajmcohdedlab
