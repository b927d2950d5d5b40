/- What an instruction's bytes come to, plain: the model's and the program's ways. -/
import Derived.Test.YtljmkkodhnkemaaOpSpec
import Derived.Test.YtljmkkodhnkemaaPlainB
namespace Go.Proofs.Ytljmkkodhnkemaa
open Go.RowKit Go.Lib

/-- What DecodeOp returns. -/
def decV : Option (OpL × Nat) → Value
  | none => .tuple #[.agg #[.int .i64 0, .int .i64 0], .int .i64 0, .bool false]
  | some (x, n) => .tuple #[.agg #[.int .i64 x.code, .int .i64 x.arg], .int .i64 (n : Int), .bool true]
theorem decZ_neg (l : List UInt8) (a : Int) (h : a < 0) : decZ l a = none := by unfold decZ; rw [if_pos h]
theorem decZ_far (l : List UInt8) (a : Int) (h : (l.length : Int) ≤ a) : decZ l a = none := by
  unfold decZ
  rw [if_neg (by omega), List.drop_of_length_le (by omega)]
  rfl
theorem decZ_in (l : List UInt8) (i : Nat) (h : i < l.length) : decZ l (i : Int) =
    if (l[i].toNat : Int) ≤ 17 ∧ widN (l[i].toNat : Int) ≤ (l.drop (i + 1)).length then some (⟨(l[i].toNat : Int), sgnV (l[i].toNat : Int) (valB ((l.drop (i + 1)).take (widN (l[i].toNat : Int))))⟩, 1 + widN (l[i].toNat : Int)) else none := by
  unfold decZ
  rw [if_neg (by omega), Int.toNat_natCast, List.drop_eq_getElem_cons h]
  rfl
theorem sizZ_zero (c : Int) (h0 : 0 ≤ c) : sizZ c = 0 ↔ 17 < c := by
  unfold sizZ codeB
  constructor
  · intro h
    by_cases hc : c ≤ 17
    · rw [decide_eq_true h0, decide_eq_true hc, if_pos (by decide)] at h; omega
    · omega
  · intro h
    rw [decide_eq_false (show ¬ c ≤ 17 by omega), Bool.and_false, if_neg (by simp)]
theorem sizZ_code (c : Int) (h0 : 0 ≤ c) (h1 : c ≤ 17) : sizZ c = 1 + (widN c : Int) := by
  unfold sizZ codeB
  rw [decide_eq_true h0, decide_eq_true h1, if_pos (by decide)]
/-- One byte more of a number: no sum runs over. -/
theorem next_byte (l : List UInt8) (i k : Nat) (hk : k < 4) (h : i + 1 + k < l.length) :
    wrap64 ((l[i + 1 + k].toNat : Int) * 2 ^ (8 * k)) = ((l[i + 1 + k].toNat * 256 ^ k : Nat) : Int) ∧
    wrap64 ((valB ((l.drop (i + 1)).take k) : Int) + ((l[i + 1 + k].toNat * 256 ^ k : Nat) : Int)) = (valB ((l.drop (i + 1)).take (k + 1)) : Int) ∧ valB ((l.drop (i + 1)).take k) < 4294967296 := by
  have e : (2 : Int) ^ (8 * k) = ((256 ^ k : Nat) : Int) := by rw [Int.pow_mul, Int.natCast_pow]; rfl
  have hd : k < (l.drop (i + 1)).length := by rw [List.length_drop]; omega
  have ht := valB_take (l.drop (i + 1)) k hd
  have hg : (l.drop (i + 1))[k] = l[i + 1 + k] := by simp
  rw [hg] at ht
  have hv := valB_lt ((l.drop (i + 1)).take k)
  rw [List.length_take, show min k (l.drop (i + 1)).length = k from by omega] at hv
  have hb := l[i + 1 + k].toNat_lt
  have h4 : 256 ^ k * 256 ≤ 4294967296 := by
    have := Nat.pow_le_pow_right (show 0 < 256 by decide) (show k + 1 ≤ 4 by omega)
    rw [Nat.pow_succ] at this
    exact Nat.le_trans this (by decide)
  have hb2 : l[i + 1 + k].toNat * 256 ^ k ≤ 255 * 256 ^ k := Nat.mul_le_mul_right _ (by omega)
  rw [e, ← Int.natCast_mul]
  obtain ⟨P, hP⟩ : ∃ P, l[i + 1 + k].toNat * 256 ^ k = P := ⟨_, rfl⟩
  rw [hP] at ht hb2 ⊢
  unfold wrap64
  refine ⟨?_, ?_, ?_⟩ <;> omega
end Go.Proofs.Ytljmkkodhnkemaa
