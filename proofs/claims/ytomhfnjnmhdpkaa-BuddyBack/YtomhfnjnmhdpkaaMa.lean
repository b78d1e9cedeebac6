/-
  Powers of two, the exclusive or of a start and a size, and what is left without a bit.
-/
import Derived.Laws.BitsLemmas
namespace Go.Proofs.Ytomhfnjnmhdpkaa

theorem wrap63 (n : Int) (h0 : 0 ≤ n) (h1 : n < 2 ^ 63) : IntKind.i64.wrap n = n := by rw [IntKind.wrap_i64]; omega

/-- A power of two? -/
def pw (s : Int) : Bool := (List.range 63).any fun j => s == (2 : Int) ^ j
theorem pw_iff (s : Int) : pw s = true ↔ ∃ j, j < 63 ∧ s = (2 : Int) ^ j := by
  unfold pw
  rw [List.any_eq_true]
  constructor
  · rintro ⟨j, hj, h⟩
    exact ⟨j, List.mem_range.1 hj, by simpa using h⟩
  · rintro ⟨j, hj, h⟩
    exact ⟨j, List.mem_range.2 hj, by simpa using h⟩

theorem nat_pred (n : Nat) (h : 0 < n) : (n &&& (n - 1) = 0) ↔ ∃ j, n = 2 ^ j := by
  constructor
  · intro e
    have h1 : 2 ^ n.log2 ≤ n := Nat.log2_self_le (by omega)
    have h2 : n < 2 ^ (n.log2 + 1) := Nat.lt_log2_self
    refine ⟨n.log2, ?_⟩
    rcases Nat.lt_or_eq_of_le h1 with h3 | h3
    · exfalso
      have b1 : n.testBit n.log2 = true := by
        rw [Nat.testBit_eq_decide_div_mod_eq]
        have hd : n / 2 ^ n.log2 = 1 := by
          refine Nat.div_eq_of_lt_le (by omega) ?_
          rw [Nat.pow_succ] at h2; omega
        rw [hd]; rfl
      have b2 : (n - 1).testBit n.log2 = true := by
        rw [Nat.testBit_eq_decide_div_mod_eq]
        have hd : (n - 1) / 2 ^ n.log2 = 1 := by
          refine Nat.div_eq_of_lt_le (by omega) ?_
          rw [Nat.pow_succ] at h2; omega
        rw [hd]; rfl
      have b3 : (n &&& (n - 1)).testBit n.log2 = true := by rw [Nat.testBit_and, b1, b2]; rfl
      rw [e] at b3
      simp at b3
    · exact h3.symm
  · rintro ⟨j, rfl⟩
    rw [Nat.and_two_pow_sub_one_eq_mod]
    exact Nat.mod_self _

theorem and_pred (s : Int) (h1 : 1 ≤ s) (h2 : s ≤ 9223372036854775807) : (bits .and .i64 s (s - 1) == 0) = pw s := by
  obtain ⟨n, rfl⟩ := Int.eq_ofNat_of_zero_le (by omega : 0 ≤ s)
  have e : ((n : Int) - 1) = ((n - 1 : Nat) : Int) := by omega
  have hb := (bits_nat .i64 63 (by decide) wrap63 n (n - 1) (by omega) (by omega)).1
  rw [e, hb, Bool.eq_iff_iff, pw_iff]
  have hn := nat_pred n (by omega)
  constructor
  · intro h
    obtain ⟨j, hj⟩ := hn.1 (by simpa using h)
    refine ⟨j, ?_, by rw [hj]; simp⟩
    have : 2 ^ j < 2 ^ 63 := by omega
    exact (Nat.pow_lt_pow_iff_right (by decide)).1 this
  · rintro ⟨j, _, hj⟩
    have : n = 2 ^ j := by exact_mod_cast hj
    have := hn.2 ⟨j, this⟩
    simpa using this

theorem xor_one_even (r : Nat) : (2 * r) ^^^ 1 = 2 * r + 1 := by
  have h1 : ((2 * r) ^^^ 1) / 2 = r := by rw [Nat.xor_div_two]; simp
  have h2 : ((2 * r) ^^^ 1) % 2 ^ 1 = 1 := by
    rw [Nat.xor_mod_two_pow]
    have : 2 * r % 2 ^ 1 = 0 := by omega
    rw [this]; rfl
  omega
theorem xor_one_odd (r : Nat) : (2 * r + 1) ^^^ 1 = 2 * r := by
  rw [← xor_one_even, Nat.xor_assoc, Nat.xor_self, Nat.xor_zero]
theorem nat_xor (j q : Nat) : (2 ^ j * q) ^^^ 2 ^ j = if q % 2 = 0 then 2 ^ j * q + 2 ^ j else 2 ^ j * q - 2 ^ j := by
  have e : (2 ^ j * q) ^^^ 2 ^ j = 2 ^ j * (q ^^^ 1) := by
    have := Nat.shiftLeft_xor_distrib (i := j) (a := q) (b := 1)
    rw [Nat.shiftLeft_eq, Nat.shiftLeft_eq, Nat.shiftLeft_eq, Nat.one_mul] at this
    rw [Nat.mul_comm (2 ^ j) q, ← this, Nat.mul_comm]
  rw [e]
  rcases Nat.mod_two_eq_zero_or_one q with h | h
  · rw [if_pos h]
    have : q = 2 * (q / 2) := by omega
    rw [this, xor_one_even, ← this, Nat.mul_add, Nat.mul_one]
  · rw [if_neg (by omega)]
    have : q = 2 * (q / 2) + 1 := by omega
    rw [this, xor_one_odd, ← this, show 2 * (q / 2) = q - 1 by omega, Nat.mul_sub, Nat.mul_one]
theorem nat_and (j q : Nat) : (2 ^ j * q) &&& 2 ^ j = if q % 2 = 0 then 0 else 2 ^ j := by
  have e : (2 ^ j * q) &&& 2 ^ j = 2 ^ j * (q &&& 1) := by
    have := Nat.shiftLeft_and_distrib (i := j) (a := q) (b := 1)
    rw [Nat.shiftLeft_eq, Nat.shiftLeft_eq, Nat.shiftLeft_eq, Nat.one_mul] at this
    rw [Nat.mul_comm (2 ^ j) q, ← this, Nat.mul_comm]
  rw [e, Nat.and_one_is_mod]
  rcases Nat.mod_two_eq_zero_or_one q with h | h
  · rw [if_pos h, h, Nat.mul_zero]
  · rw [if_neg (by omega), h, Nat.mul_one]

theorem toNat64 (a : Nat) (h : a < 2 ^ 63) : (BitVec.ofInt 64 (a : Int)).toNat = a := by
  rw [BitVec.ofInt_natCast, BitVec.toNat_ofNat]; exact Nat.mod_eq_of_lt (by omega)
theorem bits_xor (a b : Nat) (ha : a < 2 ^ 63) (hb : b < 2 ^ 63) : bits .xor .i64 (a : Int) (b : Int) = ((a ^^^ b : Nat) : Int) := by
  have hx : a ^^^ b < 2 ^ 63 := Nat.xor_lt_two_pow ha hb
  show IntKind.i64.wrap ((BitVec.ofInt 64 (a : Int) ^^^ BitVec.ofInt 64 (b : Int)).toNat : Int) = _
  rw [BitVec.toNat_xor, toNat64 a ha, toNat64 b hb]
  exact wrap63 _ (by omega) (by exact_mod_cast hx)
theorem bits_andNot (a b : Nat) (ha : a < 2 ^ 63) (hb : b < 2 ^ 63) : bits .andNot .i64 (a : Int) (b : Int) = ((a ^^^ (a &&& b) : Nat) : Int) := by
  have hx : a ^^^ (a &&& b) < 2 ^ 63 := Nat.xor_lt_two_pow ha (Nat.lt_of_le_of_lt Nat.and_le_left ha)
  have e : BitVec.ofInt 64 (a : Int) &&& ~~~(BitVec.ofInt 64 (b : Int)) = BitVec.ofInt 64 (a : Int) ^^^ (BitVec.ofInt 64 (a : Int) &&& BitVec.ofInt 64 (b : Int)) := by
    generalize BitVec.ofInt 64 (a : Int) = x
    generalize BitVec.ofInt 64 (b : Int) = y
    ext i hi
    simp
    cases x[i] <;> cases y[i] <;> rfl
  show IntKind.i64.wrap ((BitVec.ofInt 64 (a : Int) &&& ~~~(BitVec.ofInt 64 (b : Int))).toNat : Int) = _
  rw [e, BitVec.toNat_xor, BitVec.toNat_and, toNat64 a ha, toNat64 b hb]
  exact wrap63 _ (by omega) (by exact_mod_cast hx)

/-- Is a block the first one of two mates? -/
def evn (a z : Int) : Bool := a / z % 2 == 0
/-- The start of a block's mate. -/
def mateS (a z : Int) : Int := if evn a z then a + z else a - z
/-- The start of a block and its mate. -/
def bothS (a z : Int) : Int := if evn a z then a else a - z

theorem parts {a z : Int} (hp : pw z = true) (h0 : 0 ≤ a) (hm : a % z = 0) : ∃ j q : Nat, j < 63 ∧ z = ((2 ^ j : Nat) : Int) ∧ a = ((2 ^ j * q : Nat) : Int) ∧ (evn a z = true ↔ q % 2 = 0) := by
  obtain ⟨j, hj, rfl⟩ := (pw_iff z).1 hp
  obtain ⟨n, rfl⟩ := Int.eq_ofNat_of_zero_le h0
  have hz : ((2 : Int) ^ j) = ((2 ^ j : Nat) : Int) := by simp
  rw [hz] at hm ⊢
  have hpos : 0 < 2 ^ j := Nat.two_pow_pos j
  have hm' : n % 2 ^ j = 0 := by exact_mod_cast hm
  have hd : 2 ^ j * (n / 2 ^ j) = n := by have := Nat.div_add_mod n (2 ^ j); omega
  refine ⟨j, n / 2 ^ j, hj, rfl, by rw [hd], ?_⟩
  unfold evn
  have : ((n : Int) / ((2 ^ j : Nat) : Int)) = ((n / 2 ^ j : Nat) : Int) := by simp
  rw [this, beq_iff_eq]
  omega
theorem xor_mate {a z : Int} (hp : pw z = true) (h0 : 0 ≤ a) (hm : a % z = 0) (ha : a < 9223372036854775808) : bits .xor .i64 a z = mateS a z := by
  obtain ⟨j, q, hj, rfl, rfl, he⟩ := parts hp h0 hm
  have h1 : 2 ^ j < 2 ^ 63 := (Nat.pow_lt_pow_iff_right (by decide)).2 hj
  rw [bits_xor _ _ (by omega) h1, nat_xor]
  unfold mateS
  by_cases h : q % 2 = 0
  · rw [if_pos h, if_pos (he.2 h)]; omega
  · rw [if_neg h, if_neg (fun e => h (he.1 e))]
    have : 2 ^ j ≤ 2 ^ j * q := Nat.le_mul_of_pos_right _ (by omega)
    omega
theorem andNot_both {a z : Int} (hp : pw z = true) (h0 : 0 ≤ a) (hm : a % z = 0) (ha : a < 9223372036854775808) : bits .andNot .i64 a z = bothS a z := by
  obtain ⟨j, q, hj, rfl, rfl, he⟩ := parts hp h0 hm
  have h1 : 2 ^ j < 2 ^ 63 := (Nat.pow_lt_pow_iff_right (by decide)).2 hj
  rw [bits_andNot _ _ (by omega) h1, nat_and]
  unfold bothS
  by_cases h : q % 2 = 0
  · rw [if_pos h, if_pos (he.2 h), Nat.xor_zero]
  · rw [if_neg h, if_neg (fun e => h (he.1 e)), nat_xor, if_neg h]
    have : 2 ^ j ≤ 2 ^ j * q := Nat.le_mul_of_pos_right _ (by omega)
    omega
theorem pw_pos {z : Int} (h : pw z = true) : 1 ≤ z := by
  obtain ⟨j, _, rfl⟩ := (pw_iff z).1 h
  have : (0 : Int) < 2 ^ j := Int.pow_pos (by decide)
  omega
theorem pw_le {z : Int} (h : pw z = true) : z ≤ 4611686018427387904 := by
  obtain ⟨j, hj, rfl⟩ := (pw_iff z).1 h
  have h1 : 2 ^ j ≤ 2 ^ 62 := Nat.pow_le_pow_right (by decide) (by omega)
  have h2 : ((2 ^ j : Nat) : Int) ≤ ((2 ^ 62 : Nat) : Int) := Int.ofNat_le.2 h1
  rw [Int.natCast_pow, Int.natCast_pow] at h2
  have h3 : ((2 : Nat) : Int) ^ 62 = 4611686018427387904 := by decide +kernel
  rw [h3] at h2
  exact h2
/-- A power of two above 1 is halved. -/
theorem pw_half {z : Int} (h : pw z = true) (h1 : 1 < z) : pw (z / 2) = true ∧ z = 2 * (z / 2) := by
  obtain ⟨j, hj, rfl⟩ := (pw_iff z).1 h
  cases j with
  | zero => simp at h1
  | succ j =>
    have e : (2 : Int) ^ (j + 1) / 2 = 2 ^ j := by rw [Int.pow_succ]; omega
    rw [e]
    exact ⟨(pw_iff _).2 ⟨j, by omega, rfl⟩, by rw [Int.pow_succ]; omega⟩
theorem pw_double {z : Int} (h : pw z = true) (h1 : z ≤ 2305843009213693952) : pw (2 * z) = true := by
  obtain ⟨j, hj, rfl⟩ := (pw_iff z).1 h
  refine (pw_iff _).2 ⟨j + 1, ?_, by rw [Int.pow_succ]; omega⟩
  have h0 : ((2 : Nat) : Int) ^ 61 = 2305843009213693952 := by decide +kernel
  rw [← h0] at h1
  have h3 : ((2 ^ j : Nat) : Int) ≤ ((2 ^ 61 : Nat) : Int) := by rw [Int.natCast_pow, Int.natCast_pow]; exact h1
  have h2 : 2 ^ j ≤ 2 ^ 61 := Int.ofNat_le.1 h3
  have := (Nat.pow_le_pow_iff_right (a := 2) (by decide)).1 h2
  omega
/-- Of two powers of two the smaller one divides the other one. -/
theorem pw_dvd {y z : Int} (hy : pw y = true) (hz : pw z = true) (h : y ≤ z) : y ∣ z := by
  obtain ⟨i, hi, rfl⟩ := (pw_iff y).1 hy
  obtain ⟨j, hj, rfl⟩ := (pw_iff z).1 hz
  have h2 : 2 ^ i ≤ 2 ^ j := by exact_mod_cast h
  have h3 := (Nat.pow_le_pow_iff_right (a := 2) (by decide)).1 h2
  exact ⟨2 ^ (j - i), by rw [← Int.pow_add]; congr 1; omega⟩
theorem pw_two {z : Int} (hz : pw z = true) {y : Int} (hy : pw y = true) (h : y < z) : 2 * y ≤ z := by
  obtain ⟨i, hi, rfl⟩ := (pw_iff y).1 hy
  obtain ⟨j, hj, rfl⟩ := (pw_iff z).1 hz
  have h2 : 2 ^ i < 2 ^ j := by exact_mod_cast h
  have h3 := (Nat.pow_lt_pow_iff_right (a := 2) (by decide)).1 h2
  have h4 : 2 ^ (i + 1) ≤ 2 ^ j := Nat.pow_le_pow_right (by decide) h3
  rw [Nat.pow_succ] at h4
  have : (2 : Int) ^ i * 2 ≤ 2 ^ j := by exact_mod_cast h4
  omega
end Go.Proofs.Ytomhfnjnmhdpkaa
