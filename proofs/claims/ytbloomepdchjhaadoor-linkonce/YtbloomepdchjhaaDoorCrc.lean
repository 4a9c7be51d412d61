/- The plain mathematics of CRC-32C on numbers: a register is stepped bit by bit; half bytes go by a table; steps are linear and one-to-one. It speaks of no program. -/
import Derived.WalkKit
namespace Go.Proofs.YtbloomepdchjhaaDoor.Crc

/-- One bit leaves the register. -/
def bstep (r : Nat) : Nat := if r % 2 = 1 then r / 2 ^^^ 2197175160 else r / 2
/-- So many bits leave it. -/
def bsteps : Nat → Nat → Nat
  | 0, r => r
  | k + 1, r => bsteps k (bstep r)
/-- A byte is taken. -/
def cstep (r c : Nat) : Nat := bsteps 8 (r ^^^ c)
/-- A row of bytes is taken. -/
def reg (r : Nat) (bs : List Nat) : Nat := bs.foldl cstep r
/-- The sum that goes on from another one. -/
def more (s : Nat) (bs : List Nat) : Nat := reg (s ^^^ 4294967295) bs ^^^ 4294967295
def tab : List Nat := [0, 274646895, 549293790, 820201905, 1098587580, 1361435347, 1640403810, 1905808397, 2197175160, 2460548119, 2722870694, 2987750089, 3280807620, 3553878443, 3811616794, 4084100981]
/-- A half byte leaves it, by the table. -/
def nstep (r : Nat) : Nat := r / 16 ^^^ tab.getD (r % 16) 0

theorem bsteps_add : ∀ (j k r : Nat), bsteps (j + k) r = bsteps k (bsteps j r)
  | 0, k, r => by simp [bsteps]
  | j + 1, k, r => by
    rw [show j + 1 + k = (j + k) + 1 from by omega]
    simp only [bsteps]
    exact bsteps_add j k _

theorem xor_lt {a b : Nat} (ha : a < 4294967296) (hb : b < 4294967296) : a ^^^ b < 4294967296 :=
  Nat.xor_lt_two_pow (n := 32) ha hb

theorem bstep_lt {r : Nat} (h : r < 4294967296) : bstep r < 4294967296 := by
  unfold bstep
  split
  · exact xor_lt (by omega) (by omega)
  · omega

theorem bsteps_lt : ∀ (k : Nat) {r : Nat}, r < 4294967296 → bsteps k r < 4294967296
  | 0, _, h => h
  | k + 1, _, h => bsteps_lt k (bstep_lt h)

theorem cstep_lt {r c : Nat} (hr : r < 4294967296) (hc : c < 256) : cstep r c < 4294967296 :=
  bsteps_lt 8 (xor_lt hr (by omega))

theorem reg_lt : ∀ (bs : List Nat) {r : Nat}, r < 4294967296 → (∀ x ∈ bs, x < 256) → reg r bs < 4294967296
  | [], _, h, _ => h
  | c :: bs, r, h, hb => by
    show reg (cstep r c) bs < _
    exact reg_lt bs (cstep_lt h (hb c (by simp))) (fun x hx => hb x (by simp [hx]))

theorem more_lt {s : Nat} {bs : List Nat} (hs : s < 4294967296) (hb : ∀ x ∈ bs, x < 256) : more s bs < 4294967296 :=
  xor_lt (reg_lt bs (xor_lt hs (by omega)) hb) (by omega)

/-- A step is linear. -/
theorem bstep_xor (a b : Nat) : bstep (a ^^^ b) = bstep a ^^^ bstep b := by
  have hd : (a ^^^ b) / 2 = a / 2 ^^^ b / 2 := by
    have := Nat.shiftRight_xor_distrib (a := a) (b := b) (i := 1)
    simpa [Nat.shiftRight_eq_div_pow] using this
  have hm : (a ^^^ b) % 2 = (a % 2 + b % 2) % 2 := by
    have h := Nat.testBit_xor a b 0
    simp only [Nat.testBit_zero] at h
    rcases Nat.mod_two_eq_zero_or_one a with ha | ha <;> rcases Nat.mod_two_eq_zero_or_one b with hb | hb <;> rcases Nat.mod_two_eq_zero_or_one (a ^^^ b) with hab | hab <;> simp_all
  unfold bstep
  rw [hd, hm]
  rcases Nat.mod_two_eq_zero_or_one a with ha | ha <;> rcases Nat.mod_two_eq_zero_or_one b with hb | hb <;> simp only [ha, hb]
  · simp
  · simp [Nat.xor_assoc]
  · have : ∀ x y p : Nat, (x ^^^ y) ^^^ p = (x ^^^ p) ^^^ y := fun x y p => by rw [Nat.xor_assoc, Nat.xor_comm y p, Nat.xor_assoc]
    simpa using this (a / 2) (b / 2) 2197175160
  · have : ∀ x y p : Nat, x ^^^ y = (x ^^^ p) ^^^ (y ^^^ p) := fun x y p => by
      rw [Nat.xor_assoc, ← Nat.xor_assoc p y p, Nat.xor_comm p y, Nat.xor_assoc y p p, Nat.xor_self, Nat.xor_zero]
    simpa using this (a / 2) (b / 2) 2197175160

theorem bsteps_xor : ∀ (k a b : Nat), bsteps k (a ^^^ b) = bsteps k a ^^^ bsteps k b
  | 0, _, _ => rfl
  | k + 1, a, b => by
    simp only [bsteps, bstep_xor]
    exact bsteps_xor k _ _

theorem bsteps_zero : ∀ k, bsteps k 0 = 0
  | 0 => rfl
  | k + 1 => by
    have : bstep 0 = 0 := by simp [bstep]
    simp only [bsteps, this]
    exact bsteps_zero k

/-- Bits that are zero leave without a trace. -/
theorem bsteps_shift : ∀ (k x : Nat), bsteps k (x * 2 ^ k) = x
  | 0, x => by simp [bsteps]
  | k + 1, x => by
    have : bstep (x * 2 ^ (k + 1)) = x * 2 ^ k := by
      have e : x * 2 ^ (k + 1) = (x * 2 ^ k) * 2 := by rw [Nat.pow_succ]; simp [Nat.mul_assoc]
      unfold bstep
      rw [e]
      simp
    simp only [bsteps, this]
    exact bsteps_shift k x

theorem tab_eq : ∀ i, i < 16 → tab.getD i 0 = bsteps 4 i := by decide +kernel

theorem split_xor (k r : Nat) : r = (r / 2 ^ k * 2 ^ k) ^^^ (r % 2 ^ k) := by
  apply Nat.eq_of_testBit_eq
  intro i
  rw [Nat.testBit_xor, Nat.testBit_mul_two_pow, Nat.testBit_mod_two_pow, Nat.testBit_div_two_pow]
  by_cases h : k ≤ i
  · have h2 : ¬ i < k := by omega
    simp [h, h2, show i - k + k = i from by omega]
  · have h2 : i < k := by omega
    simp [h, h2]

/-- The table's step is four bits'. -/
theorem nstep_eq (r : Nat) : nstep r = bsteps 4 r := by
  have h := split_xor 4 r
  unfold nstep
  rw [tab_eq _ (Nat.mod_lt _ (by omega))]
  conv => rhs; rw [h, bsteps_xor, bsteps_shift]

theorem nstep2_eq (r c : Nat) : nstep (nstep (r ^^^ c)) = cstep r c := by
  rw [nstep_eq, nstep_eq]
  unfold cstep
  rw [show (8 : Nat) = 4 + 4 from rfl, bsteps_add]

theorem reg_snoc (r : Nat) (bs : List Nat) (c : Nat) : reg r (bs ++ [c]) = cstep (reg r bs) c := by simp [reg]
theorem reg_append (r : Nat) (as bs : List Nat) : reg r (as ++ bs) = reg (reg r as) bs := by simp [reg]

theorem xor_back (a p : Nat) : (a ^^^ p) ^^^ p = a := by rw [Nat.xor_assoc, Nat.xor_self, Nat.xor_zero]

/-- The sum of two rows, one behind the other. -/
theorem more_append (s : Nat) (as bs : List Nat) : more s (as ++ bs) = more (more s as) bs := by
  unfold more
  rw [reg_append, xor_back]

/-- A step is one-to-one. -/
theorem bstep_inj0 {r : Nat} (h : r < 4294967296) (h0 : bstep r = 0) : r = 0 := by
  unfold bstep at h0
  split at h0
  · have e : r / 2 = 2197175160 := by
      have := congrArg (fun x => x ^^^ 2197175160) h0
      simpa [xor_back] using this
    omega
  · omega
theorem bsteps_inj0 : ∀ (k : Nat) {r : Nat}, r < 4294967296 → bsteps k r = 0 → r = 0
  | 0, _, _, h0 => h0
  | k + 1, _, h, h0 => bstep_inj0 h (bsteps_inj0 k (bstep_lt h) h0)

theorem xor_eq_zero {a b : Nat} : a ^^^ b = 0 ↔ a = b := by
  constructor
  · intro h
    have := congrArg (fun x => x ^^^ b) h
    simpa [xor_back] using this
  · rintro rfl; exact Nat.xor_self _

/-- Bytes as one number, the lowest first. -/
def pack : List Nat → Nat
  | [] => 0
  | c :: cs => c ^^^ pack cs * 256

theorem reg_pack : ∀ (cs : List Nat) (r : Nat), reg r cs = bsteps (8 * cs.length) (r ^^^ pack cs)
  | [], r => by simp [reg, pack, bsteps]
  | c :: cs, r => by
    show reg (cstep r c) cs = _
    rw [reg_pack cs, List.length_cons, show 8 * (cs.length + 1) = 8 + 8 * cs.length from by omega, bsteps_add]
    have e : r ^^^ pack (c :: cs) = (r ^^^ c) ^^^ pack cs * 2 ^ 8 := by
      show r ^^^ (c ^^^ pack cs * 256) = _
      rw [← Nat.xor_assoc]
    rw [e, bsteps_xor 8, bsteps_shift]
    rfl

/-- A number in four bytes, the lowest first. -/
def four (n : Nat) : List Nat := [n % 256, n / 256 % 256, n / 65536 % 256, n / 16777216 % 256]

theorem pack_four (n : Nat) (h : n < 4294967296) : pack (four n) = n := by
  have h1 := split_xor 8 n
  have h2 := split_xor 8 (n / 256)
  have h3 := split_xor 8 (n / 65536)
  have h4 : n / 16777216 % 256 = n / 16777216 := Nat.mod_eq_of_lt (by omega)
  have e2 : n / 256 / 256 = n / 65536 := by omega
  have e3 : n / 65536 / 256 = n / 16777216 := by omega
  simp only [show (2 : Nat) ^ 8 = 256 from rfl, e2, e3] at h1 h2 h3
  simp only [four, pack, h4, Nat.zero_mul, Nat.xor_zero]
  rw [Nat.xor_comm (n / 65536 % 256), ← h3, Nat.xor_comm (n / 256 % 256), ← h2, Nat.xor_comm (n % 256), ← h1]

theorem four_byte (n : Nat) : ∀ x ∈ four n, x < 256 := by
  intro x hx
  simp only [four, List.mem_cons, List.not_mem_nil, or_false] at hx
  rcases hx with rfl | rfl | rfl | rfl <;> omega

/-- The sum of bytes with their own sum behind is one number. -/
theorem rests (bs : List Nat) (hb : ∀ x ∈ bs, x < 256) : more 0 (bs ++ four (more 0 bs)) = 1214729159 := by
  have hlt := more_lt (s := 0) (bs := bs) (by omega) hb
  have hreg : reg (0 ^^^ 4294967295) bs = more 0 bs ^^^ 4294967295 := by unfold more; rw [xor_back]
  rw [show more 0 (bs ++ four (more 0 bs)) = reg (0 ^^^ 4294967295) (bs ++ four (more 0 bs)) ^^^ 4294967295 from rfl, reg_append, hreg, reg_pack, pack_four _ hlt]
  have e : more 0 bs ^^^ 4294967295 ^^^ more 0 bs = 4294967295 := by rw [Nat.xor_comm (more 0 bs), xor_back]
  rw [e, show 8 * (four (more 0 bs)).length = 32 from rfl]
  decide +kernel

end Go.Proofs.YtbloomepdchjhaaDoor.Crc
