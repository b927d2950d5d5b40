/- The program's bytes of a number, and the number of bytes: an array by value. -/
import Derived.Test.YtcflojdkaddemabOpSpec
import Derived.Deep.WholeRow
import Derived.Deep.Cut
namespace Go.Proofs.Ytcflojdkaddemab
open Go.RowKit Go.Lib

/-- The cells of an array of bytes. -/
def arrC (l : List UInt8) : Array Value := (byteCells l).toArray
def fillB (a : Int) (k : Nat) : List UInt8 := argB a k ++ List.replicate (8 - k) 0
theorem fillB_length (a : Int) (k : Nat) (h : k ≤ 8) : (fillB a k).length = 8 := by unfold fillB; rw [List.length_append, argB_length, List.length_replicate]; omega
theorem fillB_zero (a : Int) : fillB a 0 = List.replicate 8 0 := rfl
theorem fillB_eight (a : Int) : fillB a 8 = argB a 8 := by unfold fillB; simp
theorem arrC_size (l : List UInt8) : (arrC l).size = l.length := by simp [arrC, byteCells]
theorem fillB_set (a : Int) (k : Nat) (h : k < 8) : (arrC (fillB a k)).setIfInBounds k (.int .u8 ((bytA a k).toNat : Int)) = arrC (fillB a (k + 1)) := by
  have e1 : fillB a k = argB a k ++ 0 :: List.replicate (8 - (k + 1)) 0 := by
    unfold fillB
    rw [show 8 - k = (8 - (k + 1)) + 1 from by omega, List.replicate_succ]
  have e2 : fillB a (k + 1) = argB a k ++ bytA a k :: List.replicate (8 - (k + 1)) 0 := by
    unfold fillB
    rw [argB_snoc, List.append_assoc]
    rfl
  unfold arrC
  rw [e1, e2, byteCells_append, byteCells_append]
  apply Array.toList_inj.1
  simp only [Array.toList_setIfInBounds]
  have hl : (byteCells (argB a k)).length = k := by simp [byteCells, argB_length]
  rw [List.set_append, if_neg (by omega), hl, Nat.sub_self]
  rfl
theorem arrC_at (l : List UInt8) (k : Nat) (h : k < l.length) : (arrC l)[k]? = some (.int .u8 (l[k].toNat : Int)) := by
  simp [arrC, byteCells, List.getElem?_eq_getElem h]
/-- A shift and what is kept of it: a byte. -/
theorem shr_byte (a : Int) (k : Nat) (_h : k < 8) : a / 2 ^ (8 * k) % 256 = ((bytA a k).toNat : Int) := by
  have e : (2 : Int) ^ (8 * k) = ((256 ^ k : Nat) : Int) := by rw [Int.pow_mul, Int.natCast_pow]; rfl
  rw [e]
  unfold bytA
  have h1 := Int.emod_nonneg (a / ((256 ^ k : Nat) : Int)) (show (256 : Int) ≠ 0 by decide)
  have h2 := Int.emod_lt_of_pos (a / ((256 ^ k : Nat) : Int)) (show (0 : Int) < 256 by decide)
  rw [byte_of _ h1 h2]
/-- Eight cells, one by one. -/
theorem arr8 (l : List UInt8) (h : l.length = 8) : ∃ x0 x1 x2 x3 x4 x5 x6 x7 : Int, arrC l = #[.int .u8 x0, .int .u8 x1, .int .u8 x2, .int .u8 x3, .int .u8 x4, .int .u8 x5, .int .u8 x6, .int .u8 x7] := by
  match l, h with
  | [a, b, c, d, e, f, g, i], _ => exact ⟨_, _, _, _, _, _, _, _, rfl⟩

theorem toNat_wrap64 (x : Int) : ((BitVec.ofInt 64 (wrap64 x)).toNat : Int) = x % 18446744073709551616 := by
  have e : (2 : Nat) ^ 64 = 18446744073709551616 := by decide
  rw [BitVec.toNat_ofInt, e]
  have : wrap64 x % ((18446744073709551616 : Nat) : Int) = x % 18446744073709551616 := by
    unfold wrap64
    omega
  rw [this]
  omega
/-- One byte more, joined by 'or': the lower bytes and the byte do not meet. -/
theorem or_byte (v b k : Nat) (hk : k < 8) (hv : v < 256 ^ k) (hb : b < 256) : bits .or .i64 (wrap64 (v : Int)) (wrap64 ((b : Int) * 2 ^ (8 * k))) = wrap64 ((v + b * 256 ^ k : Nat) : Int) := by
  have hp : (256 : Nat) ^ k = 2 ^ (8 * k) := by rw [Nat.pow_mul]
  have hpi : ((b : Int) * 2 ^ (8 * k)) = ((b * 2 ^ (8 * k) : Nat) : Int) := by rw [Int.natCast_mul, Int.natCast_pow]; rfl
  rw [hpi, hp]
  rw [hp] at hv
  have h8 : (2 : Nat) ^ (8 * k) * 256 ≤ 2 ^ 64 := by
    rw [show (256 : Nat) = 2 ^ 8 from rfl, ← Nat.pow_add]
    exact Nat.pow_le_pow_right (by decide) (by omega)
  have e64 : (2 : Nat) ^ 64 = 18446744073709551616 := by decide
  rw [e64] at h8
  have hb2 : b * 2 ^ (8 * k) + 2 ^ (8 * k) ≤ 2 ^ (8 * k) * 256 := by
    have : (b + 1) * 2 ^ (8 * k) ≤ 256 * 2 ^ (8 * k) := Nat.mul_le_mul_right _ (by omega)
    rw [Nat.add_mul, Nat.one_mul] at this
    omega
  obtain ⟨P, hP⟩ : ∃ P, (2 : Nat) ^ (8 * k) = P := ⟨_, rfl⟩
  have h1 : (BitVec.ofInt 64 (wrap64 (v : Int))).toNat = v := by
    have := toNat_wrap64 (v : Int)
    omega
  have h2 : (BitVec.ofInt 64 (wrap64 ((b * 2 ^ (8 * k) : Nat) : Int))).toNat = b * 2 ^ (8 * k) := by
    have := toNat_wrap64 ((b * 2 ^ (8 * k) : Nat) : Int)
    omega
  have h3 : v ||| b * 2 ^ (8 * k) = v + b * 2 ^ (8 * k) := by
    rw [← Nat.shiftLeft_eq, Nat.or_comm, ← Nat.shiftLeft_add_eq_or_of_lt hv, Nat.add_comm]
  show IntKind.i64.wrap ((BitVec.ofInt 64 (wrap64 (v : Int)) ||| BitVec.ofInt 64 (wrap64 ((b * 2 ^ (8 * k) : Nat) : Int))).toNat : Int) = _
  rw [BitVec.toNat_or, h1, h2, h3]
  unfold wrap64
  rw [IntKind.wrap_i64]

set_option maxHeartbeats 1000000 in
theorem i_number (l : List UInt8) (w : World) (hl : l.length = 8) :
    Calls Try.prog 55 #[.agg (arrC l)] w fun e w' => e = .returned (.int .i64 (wrap64 (valB l : Int))) ∧ Below w.heap.size w w' := by
  have HL := Lib.hid hl
  clear hl
  have HV := Lib.hid (show wrap64 (valB (l.take 0) : Int) = 0 from by rw [List.take_zero]; show wrap64 ((0 : Nat) : Int) = 0; unfold wrap64; omega)
  go_enter Try.func55, Try.ntmps55
  go_wp2_with fail
  go_loopw [3, 4, 5] (fun n _ x wr => ∃ k : Nat, k ≤ 8 ∧ x = .int .i64 (k : Int) ∧ n = .int .i64 (wrap64 (valB (l.take k) : Int)) ∧ wr = w.alloc (.cells (arrC l) 85))
    (fun _ _ x _ => 8 - (intOf x).toNat)
  case atStart => exact ⟨0, by omega, rfl, by rw [HV.out], rfl⟩
  case round =>
    obtain ⟨k, hk, rfl, rfl, rfl⟩ := hrel
    by_cases hlt : k < 8
    · have hcc := arrC_at l k (by rw [HL.out]; omega)
      have hlk : k < l.length := by rw [HL.out]; omega
      obtain ⟨b, hb⟩ : ∃ b, l[k] = b := ⟨_, rfl⟩
      rw [hb] at hcc
      have HO : Hid (bits .or .i64 (wrap64 (valB (l.take k) : Int)) (wrap64 ((b.toNat : Int) * 2 ^ (8 * k))) = wrap64 (valB (l.take (k + 1)) : Int)) := Lib.hid (by
        have hv : valB (l.take k) < 256 ^ k := by have := valB_lt (l.take k); rwa [List.length_take, show min k l.length = k from by omega] at this
        rw [or_byte _ _ k hlt hv b.toNat_lt, valB_take l k hlk, hb])
      obtain ⟨v, hv⟩ : ∃ v, wrap64 (valB (l.take k) : Int) = v := ⟨_, rfl⟩
      rw [hv] at HO ⊢
      have HVV := Lib.hid hv
      have HB := Lib.hid hb
      clear hv hb
      obtain ⟨F, hF⟩ : ∃ F, arrC l = F := ⟨_, rfl⟩
      rw [hF] at hcc ⊢
      have HF := Lib.hid hF
      clear hF
      have b0 : b.toNat < 256 := b.toNat_lt
      have b1 : (b.toNat : Int) < 256 := by omega
      have k0 : (0 : Int) ≤ (k : Int) := by omega
      have k1 : (k : Int) < 8 := by omega
      go_wp2_with fail
      go_roundw
      case rel => exact ⟨k + 1, by omega, by go_num, by rw [HO.out], trivial⟩
      case measure => simp [intOf]; omega
    · have hk8 : k = 8 := by omega
      have HF : Hid (valB l = valB (l.take k)) := Lib.hid (by rw [hk8, List.take_of_length_le (by rw [HL.out]; omega)])
      have k1 : ¬ (k : Int) < 8 := by omega
      clear hk8
      go_wp2_with fail
      go_ret
      rw [HF.out]
      exact ⟨rfl, (Below.refl _ _).alloc (Nat.le_refl _) _⟩
end Go.Proofs.Ytcflojdkaddemab
