/- Plain facts on numbers of 32 bits. Nothing of the program. -/
import Derived.WalkKit
import Derived.IntWalk
namespace Go.Proofs.Ytljmkkodhnkemaa
open Go.RowKit

/-- The number in -2^31 .. 2^31 - 1 that differs from x by a multiple of 2^32. -/
def W32 (x : Int) : Int := (x + 2147483648) % 4294967296 - 2147483648
theorem W32_lo (x : Int) : -2147483648 ≤ W32 x := by unfold W32; omega
theorem W32_hi (x : Int) : W32 x ≤ 2147483647 := by unfold W32; omega
theorem W32_wrap (x : Int) : wrap32 x = W32 x := by
  unfold W32 wrap32
  omega
theorem W32_wrapK (x : Int) : IntKind.i32.wrap x = W32 x := by
  rw [IntKind.wrap_i32]
  unfold W32; rfl
theorem W32_masked (x : Int) : (if 2147483647 < x % 4294967296 then x % 4294967296 - 4294967296 else x % 4294967296) = W32 x := by unfold W32; split <;> omega
theorem W32_big (x : Int) (h : 2147483647 < x % 4294967296) : x % 4294967296 - 4294967296 = W32 x := by unfold W32; omega
theorem W32_small (x : Int) (h : ¬ 2147483647 < x % 4294967296) : x % 4294967296 = W32 x := by unfold W32; omega
theorem i64_and32 (n : Int) : bits .and .i64 n 4294967295 = n % 4294967296 := by
  have h127 : (BitVec.ofInt 64 4294967295).toNat = 2 ^ 32 - 1 := by decide
  have key : (BitVec.ofInt 64 n &&& BitVec.ofInt 64 4294967295).toNat = (n % ((2 ^ 64 : Nat) : Int)).toNat % 2 ^ 32 := by
    rw [BitVec.toNat_and, BitVec.toNat_ofInt, h127, Nat.and_two_pow_sub_one_eq_mod]
  show IntKind.i64.wrap ((BitVec.ofInt 64 n &&& BitVec.ofInt 64 4294967295).toNat : Nat) = n % 4294967296
  rw [key, IntKind.wrap_i64]
  omega
theorem mod32 (x : Int) : 0 ≤ x % 4294967296 ∧ x % 4294967296 ≤ 4294967295 := ⟨by omega, by omega⟩

/-- The operators, and 0 for any other kind. -/
def appZ (k a b : Int) : Int :=
  if k = 2 then W32 (W32 a + W32 b) else if k = 3 then W32 (W32 a - W32 b) else if k = 4 then W32 (W32 a * W32 b)
  else if k = 5 then (if W32 a < W32 b then 1 else 0) else if k = 6 then (if W32 a = W32 b then 1 else 0) else 0
theorem appZ_add (a b : Int) : appZ 2 a b = W32 (W32 a + W32 b) := rfl
theorem appZ_sub (a b : Int) : appZ 3 a b = W32 (W32 a - W32 b) := rfl
theorem appZ_mul (a b : Int) : appZ 4 a b = W32 (W32 a * W32 b) := rfl
theorem appZ_lt1 (a b : Int) (h : W32 a < W32 b) : appZ 5 a b = 1 := by show (if W32 a < W32 b then _ else _) = _; rw [if_pos h]
theorem appZ_lt0 (a b : Int) (h : ¬ W32 a < W32 b) : appZ 5 a b = 0 := by show (if W32 a < W32 b then _ else _) = _; rw [if_neg h]
theorem appZ_eq1 (a b : Int) (h : W32 a = W32 b) : appZ 6 a b = 1 := by show (if W32 a = W32 b then _ else _) = _; rw [if_pos h]
theorem appZ_eq0 (a b : Int) (h : ¬ W32 a = W32 b) : appZ 6 a b = 0 := by show (if W32 a = W32 b then _ else _) = _; rw [if_neg h]
theorem appZ_other (k a b : Int) (h2 : k ≠ 2) (h3 : k ≠ 3) (h4 : k ≠ 4) (h5 : k ≠ 5) (h6 : k ≠ 6) : appZ k a b = 0 := by
  unfold appZ; rw [if_neg h2, if_neg h3, if_neg h4, if_neg h5, if_neg h6]
theorem mul_bd (a b : Int) : -4611686018427387904 ≤ W32 a * W32 b ∧ W32 a * W32 b ≤ 4611686018427387904 := by
  have h1 := W32_lo a; have h2 := W32_hi a; have h3 := W32_lo b; have h4 := W32_hi b
  have e : (W32 a * W32 b).natAbs ≤ 2147483648 * 2147483648 := by
    rw [Int.natAbs_mul]
    exact Nat.mul_le_mul (by omega) (by omega)
  omega
theorem W32_diff (x : Int) : (W32 x - x).tmod 4294967296 = 0 := by
  have h : W32 x - x = 4294967296 * -((x + 2147483648) / 4294967296) := by unfold W32; omega
  rw [h, Int.mul_tmod_right]
theorem W32_idem (x : Int) : W32 (W32 x) = W32 x := by unfold W32; omega
theorem W32_back (a b : Int) : appZ 3 (appZ 2 a b) b = W32 a := by rw [appZ_sub, appZ_add]; unfold W32; omega
theorem W32_one (a : Int) : appZ 4 a 1 = W32 a := by
  have h : W32 1 = 1 := by unfold W32; omega
  rw [appZ_mul, h, Int.mul_one, W32_idem]
theorem appZ_bit (k a b : Int) (h : k = 5 ∨ k = 6) : 0 ≤ appZ k a b ∧ appZ k a b ≤ 1 := by
  rcases h with rfl | rfl
  · show 0 ≤ (if _ then (1 : Int) else 0) ∧ (if _ then (1 : Int) else 0) ≤ 1; split <;> omega
  · show 0 ≤ (if _ then (1 : Int) else 0) ∧ (if _ then (1 : Int) else 0) ≤ 1; split <;> omega
theorem appZ_one (a b : Int) : appZ 5 a b + appZ 5 b a + appZ 6 a b = 1 := by
  rcases Int.lt_trichotomy (W32 a) (W32 b) with h | h | h
  · rw [appZ_lt1 a b h, appZ_lt0 b a (by omega), appZ_eq0 a b (by omega)]; rfl
  · rw [appZ_lt0 a b (by omega), appZ_lt0 b a (by omega), appZ_eq1 a b h]; rfl
  · rw [appZ_lt0 a b (by omega), appZ_lt1 b a h, appZ_eq0 a b (by omega)]; rfl
/-- All that the law asks. -/
theorem wrapped_all (a b : Int) : (W32 a - a).tmod 4294967296 = 0 ∧ (appZ 3 (appZ 2 a b) b == W32 a) = true ∧ (appZ 4 a 1 == W32 a) = true ∧ (appZ 5 a b + appZ 5 b a + appZ 6 a b == 1) = true :=
  ⟨W32_diff a, by rw [W32_back]; simp, by rw [W32_one]; simp, by rw [appZ_one]; rfl⟩
end Go.Proofs.Ytljmkkodhnkemaa
