/- Bits of bytes and numbers of 7 bits; runes and their bytes. -/
import Derived.Test.YtfemkbdgbpgjgaaVarPlain
import Derived.Laws.RangeAny
namespace Go.Proofs.Ytfemkbdgbpgjgaa
open Go.RowKit Go.Lib

theorem i64_and127 (n : Int) : bits .and .i64 n 127 = n % 128 := by
  have h127 : (BitVec.ofInt 64 127).toNat = 2 ^ 7 - 1 := by decide
  have key : (BitVec.ofInt 64 n &&& BitVec.ofInt 64 127).toNat = (n % ((2 ^ 64 : Nat) : Int)).toNat % 2 ^ 7 := by
    rw [BitVec.toNat_and, BitVec.toNat_ofInt, h127, Nat.and_two_pow_sub_one_eq_mod]
  show IntKind.i64.wrap ((BitVec.ofInt 64 n &&& BitVec.ofInt 64 127).toNat : Nat) = n % 128
  rw [key, IntKind.wrap_i64]
  omega
theorem u8_or128_fin : ∀ b : Fin 256, bits .or .u8 (b.val : Int) 128 = ((b.val % 128 + 128 : Nat) : Int) := by decide +kernel
theorem u8_or128 (n : Int) (h0 : 0 ≤ n) (h1 : n < 256) : bits .or .u8 n 128 = n % 128 + 128 := by
  have h := u8_or128_fin ⟨n.toNat, by omega⟩
  simp only [Int.toNat_of_nonneg h0] at h
  rw [h]
  omega
theorem i64_or128_fin : ∀ b : Fin 128, bits .or .i64 (b.val : Int) 128 = ((b.val + 128 : Nat) : Int) := by decide +kernel
theorem i64_or128 (n : Int) (h0 : 0 ≤ n) (h1 : n < 128) : bits .or .i64 n 128 = n + 128 := by
  have h := i64_or128_fin ⟨n.toNat, by omega⟩
  simp only [Int.toNat_of_nonneg h0] at h
  rw [h]
  omega
theorem u8_not128_fin : ∀ b : Fin 256, bits .andNot .u8 (b.val : Int) 128 = ((b.val % 128 : Nat) : Int) := by decide +kernel
theorem u8_not128 (n : Nat) (h1 : n < 256) : bits .andNot .u8 (n : Int) 128 = ((n % 128 : Nat) : Int) := u8_not128_fin ⟨n, h1⟩
theorem u8_and127_fin : ∀ b : Fin 256, bits .and .u8 (b.val : Int) 127 = ((b.val % 128 : Nat) : Int) := by decide +kernel
theorem u8_and127 (n : Nat) (h1 : n < 256) : bits .and .u8 (n : Int) 127 = ((n % 128 : Nat) : Int) := u8_and127_fin ⟨n, h1⟩

/-- A rune of several bytes lies within the text, and all its bytes are above 127. -/
theorem decode_bytes (s : ByteArray) (pos : Nat) (h : pos < s.size) (ha : 128 ≤ (s[pos]'h).toNat) :
    pos + (Utf8.decode s pos).2 ≤ s.size ∧ ∀ j, (hj : j < s.size) → pos ≤ j → j < pos + (Utf8.decode s pos).2 → 128 ≤ (s[j]'hj).toNat := by
  have hn : ¬ (s[pos]'h).toNat < 128 := by omega
  have key : (Utf8.decode s pos).2 = 1 ∨ ((Utf8.decode s pos).2 = 2 ∧ pos + 1 < s.size ∧ (s.get! (pos + 1)).toNat / 64 = 2) ∨
      ((Utf8.decode s pos).2 = 3 ∧ pos + 1 < s.size ∧ (s.get! (pos + 1)).toNat / 64 = 2 ∧ pos + 2 < s.size ∧ (s.get! (pos + 2)).toNat / 64 = 2) ∨
      ((Utf8.decode s pos).2 = 4 ∧ pos + 1 < s.size ∧ (s.get! (pos + 1)).toNat / 64 = 2 ∧ pos + 2 < s.size ∧ (s.get! (pos + 2)).toNat / 64 = 2 ∧ pos + 3 < s.size ∧ (s.get! (pos + 3)).toNat / 64 = 2) := by
    simp only [Utf8.decode, get_at s pos h, hn, if_false]
    repeat' split
    all_goals simp_all
  have g : ∀ k, (hk : pos + k < s.size) → s.get! (pos + k) = s[pos + k]'hk := fun k hk => get_at s (pos + k) hk
  rcases key with e | ⟨e, a1, b1⟩ | ⟨e, a1, b1, a2, b2⟩ | ⟨e, a1, b1, a2, b2, a3, b3⟩
  · rw [e]
    refine ⟨by omega, fun j hj h1 h2 => ?_⟩
    obtain rfl : j = pos := by omega
    exact ha
  · rw [e]
    rw [g 1 a1] at b1
    refine ⟨by omega, fun j hj h1 h2 => ?_⟩
    rcases (by omega : j = pos ∨ j = pos + 1) with rfl | rfl
    · exact ha
    · omega
  · rw [e]
    rw [g 1 a1] at b1
    rw [g 2 a2] at b2
    refine ⟨by omega, fun j hj h1 h2 => ?_⟩
    rcases (by omega : j = pos ∨ j = pos + 1 ∨ j = pos + 2) with rfl | rfl | rfl
    · exact ha
    · omega
    · omega
  · rw [e]
    rw [g 1 a1] at b1
    rw [g 2 a2] at b2
    rw [g 3 a3] at b3
    refine ⟨by omega, fun j hj h1 h2 => ?_⟩
    rcases (by omega : j = pos ∨ j = pos + 1 ∨ j = pos + 2 ∨ j = pos + 3) with rfl | rfl | rfl | rfl
    · exact ha
    · omega
    · omega
    · omega
/-- Seven bits more. -/
theorem or7w (l : List UInt8) (k : Nat) (h : k < l.length) (hk : k < 6) : bits .or .i64 (valV (l.take k) : Int) (wrap64 ((l[k].toNat : Int) % 128 * 2 ^ (7 * k))) = (valV (l.take (k + 1)) : Int) := by
  have hv : valV (l.take k) < 128 ^ k := by have := valV_lt (l.take k); rwa [List.length_take, show min k l.length = k from by omega] at this
  have h1 := or7 (valV (l.take k)) (l[k].toNat % 128) k hk hv (by omega)
  have e : (l[k].toNat : Int) % 128 = ((l[k].toNat % 128 : Nat) : Int) := rfl
  have hp : (2 : Nat) ^ (7 * k) ≤ 2 ^ 35 := Nat.pow_le_pow_right (by decide) (by omega)
  have h35 : (2 : Nat) ^ 35 = 34359738368 := by decide
  have hpi : ((l[k].toNat % 128 : Nat) : Int) * 2 ^ (7 * k) = ((l[k].toNat % 128 * 2 ^ (7 * k) : Nat) : Int) := by rw [Int.natCast_mul, Int.natCast_pow]; rfl
  have hlt : l[k].toNat % 128 * 2 ^ (7 * k) ≤ 127 * 34359738368 := Nat.mul_le_mul (by omega) (by omega)
  have hw : wrap64 (((l[k].toNat % 128 : Nat) : Int) * 2 ^ (7 * k)) = ((l[k].toNat % 128 : Nat) : Int) * 2 ^ (7 * k) := by
    rw [hpi]
    unfold wrap64
    omega
  rw [e, hw, h1, valV_take l k h]
end Go.Proofs.Ytfemkbdgbpgjgaa
