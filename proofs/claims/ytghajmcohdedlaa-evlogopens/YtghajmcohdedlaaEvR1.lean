/- grapevineref11: a log in memory; place, sector, Good and header of a sector of zeros. -/
import Derived.Test.YtghajmcohdedlaaMr2
namespace Go.Proofs.Ytghajmcohdedlaa
open Go.RowKit

/-- The reference's log: its block. -/
def Lr (w : World) (gl r b m ag : Nat) (hi rel : Int) (uv rv : Value) : Prop := Blk w gl #[.pointer (some ⟨r, 0, none⟩), .int .i64 (b : Int), .int .i64 (m : Int), .int .i64 (ag : Int), .int .i64 hi, .int .i64 rel, uv, rv] 61
theorem Lr.stay {w w' : World} {gl r b m ag : Nat} {hi rel : Int} {uv rv : Value} (h : Lr w gl r b m ag hi rel uv rv) (hb : Below w.heap.size w w') : Lr w' gl r b m ag hi rel uv rv := Blk.stay h hb
set_option maxRecDepth 100000 in
theorem ref_place11 (w : World) (gl r b m ag : Nat) (hi rel : Int) (uv rv : Value) (pos i : Nat) (h : Lr w gl r b m ag hi rel uv rv) (hb : b ≤ 1000) (hp : pos ≤ 1000) (hi16 : i ≤ 1000) : Calls Try.prog 44 #[.pointer (some ⟨gl, 0, none⟩), .int .i64 (pos : Int), .int .i64 (i : Int)] w fun e w' => e = .returned (.int .i64 ((b + 2 + 16 * pos + i : Nat) : Int)) ∧ w' = w := by
  have c1 : w.cell? ⟨gl, 1, none⟩ = some (.int .i64 (b : Int)) := Blk.cell h 1 rfl
  clear h
  go_enter Try.func44, Try.ntmps44
  go_wp2
  go_ret
  exact ⟨by go_num, rfl⟩
set_option maxRecDepth 100000 in
set_option maxHeartbeats 2000000 in
theorem ref_sector11 (w : World) (base r q : Nat) (sv wv : Value) (SV WV : List Value) (D : Dk) (gl b m ag : Nat) (hi rel : Int) (uv rv : Value) (pos i : Nat) (hd : Rk w base r q sv wv SV WV D) (h : Lr w gl r b m ag hi rel uv rv) (hb : b ≤ 1000) (hp : pos ≤ 1000) (hi16 : i ≤ 1000) (hre : readE D ((b + 2 + 16 * pos + i : Nat) : Int) = 0) :
    Calls Try.prog 45 #[.pointer (some ⟨gl, 0, none⟩), .int .i64 (pos : Int), .int .i64 (i : Int)] w fun e w' => Hid (∃ a c, e = .returned (.slice a 64 c) ∧ Rd w' a 64 (nowB D (b + 2 + 16 * pos + i)) ∧ 64 ≤ c) ∧ Below w.heap.size w w' := by
  have HD : Hid (Rk w base r q sv wv SV WV D) := hd
  have HL : Hid (Lr w gl r b m ag hi rel uv rv) := h
  have c0 : w.cell? ⟨gl, 0, none⟩ = some (.pointer (some ⟨r, 0, none⟩)) := Blk.cell h 0 rfl
  have HB0 : Hid (Below w.heap.size w w.drew) := (Below.refl _ _).drew
  have HPL := ref_place11 w.drew gl r b m ag hi rel uv rv pos i (HL.out.stay HB0.out) hb hp hi16
  obtain ⟨P, HP⟩ : ∃ P, Hid (P = b + 2 + 16 * pos + i) := ⟨_, rfl⟩
  rw [← HP.out] at HPL hre ⊢
  have HRD := ref_Read w.drew base r q sv wv SV WV D (P : Int) (HD.out.stay HB0.out)
  rw [hre, Int.toNat_natCast] at HRD
  clear hd h hre
  go_enter Try.func45, Try.ntmps45
  go_wp2_with fail
  go_region_held3 (fun w' => w'.cell? ⟨gl, 0, none⟩ = some (.pointer (some ⟨r, 0, none⟩))) (first | exact c0 | exact d0 | fail)
    (first
      | (go_at_call 44; refine HPL.mono ?_; rintro e w2 ⟨rfl, hw2⟩; rw [hw2]; clear hw2 w2)
      | (go_at_call 73; refine HRD.mono ?_; rintro e w2 ⟨ht2, hb2⟩; obtain ⟨a2, c2, rfl, hr2, hc2⟩ : ∃ a c, e = .returned (.tuple #[.slice a 64 c, .int .i64 0]) ∧ Rd w2 a 64 (nowB D P) ∧ 64 ≤ c := (ht2.out.elim (fun h => absurd rfl h.1) (fun h => h.2.elim fun a h2 => h2.elim fun c h3 => ⟨a, c, h3.1, h3.2.1, h3.2.2.2⟩)); have HR2 : Hid (Rd w2 a2 64 (nowB D P) ∧ 64 ≤ c2) := ⟨hr2, hc2⟩; have HB2 : Hid (Below w.heap.size w w2) := HB0.out.trans (hb2.mono HB0.out.size); have d0 : w2.cell? ⟨gl, 0, none⟩ = some (.pointer (some ⟨r, 0, none⟩)) := Blk.cell (HL.out.stay HB2.out) 0 rfl; clear ht2 hb2 hr2 hc2))
  go_wp2
  go_returns
  exact ⟨⟨a2, c2, rfl, HR2.out.1, HR2.out.2⟩, HB2.out⟩
set_option maxRecDepth 100000 in
theorem ref_Good0 (w : World) (a : Option Addr) (c : Nat) (X : List Nat) (hr : Rd w a 64 X) (hx : X.getD 1 0 = 0) :
    Calls Try.prog 69 #[.slice a 64 c] w fun e w' => e = .returned (.tuple #[.int .i64 0, .slice none 0 0, .bool false]) ∧ w' = w := by
  obtain ⟨g, off, rfl, hc1⟩ : ∃ g off, a = some ⟨g, off, none⟩ ∧ w.cell? ⟨g, off + 1, none⟩ = some (.int .u8 0) := by
    rcases hr.cells with h0 | ⟨g, off, e, _, hcl⟩
    · cases h0
    · refine ⟨g, off, e, ?_⟩
      rw [hcl 1 (by omega), hx]
      rfl
  clear hr hx
  go_enter Try.func69, Try.ntmps69
  go_wp2
  go_returns
  exact ⟨rfl, rfl⟩
set_option maxRecDepth 100000 in
set_option maxHeartbeats 2000000 in
theorem ref_header0 (w : World) (base r q : Nat) (sv wv : Value) (SV WV : List Value) (D : Dk) (gl b m ag : Nat) (hi rel : Int) (uv rv : Value) (pos : Nat) (hd : Rk w base r q sv wv SV WV D) (h : Lr w gl r b m ag hi rel uv rv) (hb : b ≤ 1000) (hp : pos ≤ 1000) (hre : readE D ((b + 2 + 16 * pos + 0 : Nat) : Int) = 0) (hz : (nowB D (b + 2 + 16 * pos + 0)).getD 1 0 = 0) :
    Calls Try.prog 39 #[.pointer (some ⟨gl, 0, none⟩), .int .i64 (pos : Int)] w fun e w' => e = .returned (.tuple #[.int .i64 0, .int .i64 0, .bool false]) ∧ Below w.heap.size w w' := by
  have HS := ref_sector11 w base r q sv wv SV WV D gl b m ag hi rel uv rv pos 0 hd h hb hp (by omega) hre
  have HZ : Hid ((nowB D (b + 2 + 16 * pos + 0)).getD 1 0 = 0) := hz
  clear hd h hre hz
  go_enter Try.func39, Try.ntmps39
  go_wp2_with fail
  refine HS.mono ?_
  rintro e w1 ⟨ht1, hb1⟩
  obtain ⟨a1, c1, rfl, hr1, hc1⟩ := ht1.out
  have HG := ref_Good0 w1 a1 c1 _ hr1 HZ.out
  have HB1 : Hid (Below w.heap.size w w1) := hb1
  clear ht1 hr1 hc1 hb1 HS
  go_wp2_with fail
  refine HG.mono ?_
  rintro e w0 ⟨rfl, hw⟩
  subst w0
  clear HG
  go_wp2
  go_returns
  exact ⟨rfl, HB1.out⟩
end Go.Proofs.Ytghajmcohdedlaa
