/- What EncodeOp makes, plain facts. -/
import Derived.Test.YtcflojdkaddemaaOpSpec
import Derived.Test.YtcflojdkaddemaaPlainB
import Derived.Deep.RegionHeld3
import Derived.Deep.AppendLies
namespace Go.Proofs.Ytcflojdkaddemaa
open Go.RowKit Go.Lib

theorem info7 : (Try.prog.info? 5).map (fun i => (i.zero, i.size, i.bytes)) = some (some (.int .u8 0), 1, 1) := by kernel_rfl
theorem shr_byte7 (a : Int) (k : Nat) : a / 2 ^ (8 * k) % 256 = ((bytA a k).toNat : Int) := by
  have e : (2 : Int) ^ (8 * k) = ((256 ^ k : Nat) : Int) := by rw [Int.pow_mul, Int.natCast_pow]; rfl
  rw [e]
  unfold bytA
  have h1 := Int.emod_nonneg (a / ((256 ^ k : Nat) : Int)) (show (256 : Int) ≠ 0 by decide)
  have h2 := Int.emod_lt_of_pos (a / ((256 ^ k : Nat) : Int)) (show (0 : Int) < 256 by decide)
  rw [byte_of _ h1 h2]
theorem encL_no (c a : Int) (h : insB ⟨c, a⟩ = false) : encL ⟨c, a⟩ = [] := by unfold encL; rw [h]; rfl
theorem encL_yes (c a : Int) (h : insB ⟨c, a⟩ = true) : encL ⟨c, a⟩ = UInt8.ofNat c.toNat :: argB a (widN c) := by unfold encL; rw [h]; rfl

end Go.Proofs.Ytcflojdkaddemaa
