/-
  Plain facts on int64's bits. Nothing of the program is named here. Conditions: as each theorem states.
-/
import Derived.WalkKit
namespace Go.Proofs.Ytbhdiklhpfackaa
open Go.RowKit

theorem bv_nat (a : Nat) (h : a < 9223372036854775808) : (BitVec.ofInt 64 (a : Int)).toNat = a := by
  rw [BitVec.ofInt_natCast, BitVec.toNat_ofNat]
  exact Nat.mod_eq_of_lt (by omega)

theorem or_nat (a b : Nat) (ha : a < 9223372036854775808) (hb : b < 9223372036854775808) : bits .or .i64 (a : Int) (b : Int) = ((a ||| b : Nat) : Int) := by
  have hx : a ||| b < 2 ^ 63 := Nat.or_lt_two_pow (by omega) (by omega)
  change IntKind.i64.wrap ((BitVec.ofInt 64 (a : Int) ||| BitVec.ofInt 64 (b : Int)).toNat : Int) = _
  rw [BitVec.toNat_or, bv_nat a ha, bv_nat b hb, IntKind.wrap_i64]
  omega

/-- One byte more of a number. -/
theorem or_step (n x i : Nat) (hn : n < 128 ^ i) (hi : i ≤ 8) : bits .or .i64 (n : Int) (wrap64 ((x : Int) % 128 * 2 ^ (i * 7))) = ((n + x % 128 * 128 ^ i : Nat) : Int) := by
  have e1 : (128 : Nat) ^ i = 2 ^ (7 * i) := by rw [Nat.pow_mul]
  have hm : x % 128 < 128 := Nat.mod_lt _ (by omega)
  have hp : (128 : Nat) ^ i ≤ 128 ^ 8 := Nat.pow_le_pow_right (by omega) hi
  have hy : x % 128 * 128 ^ i < 9223372036854775808 := by
    have : x % 128 * 128 ^ i ≤ 127 * 128 ^ 8 := Nat.mul_le_mul (by omega) hp
    omega
  have e2 : ((x : Int) % 128 * 2 ^ (i * 7)) = ((x % 128 * 128 ^ i : Nat) : Int) := by
    rw [e1, Nat.mul_comm 7 i]; simp
  rw [e2, IntWalk.wrap64_in _ ⟨by omega, by omega⟩, or_nat _ _ (by omega) hy]
  congr 1
  rw [e1] at hn ⊢
  rw [Nat.add_comm, Nat.mul_comm (x % 128), Nat.two_pow_add_eq_or_of_lt hn, Nat.or_comm]
end Go.Proofs.Ytbhdiklhpfackaa
