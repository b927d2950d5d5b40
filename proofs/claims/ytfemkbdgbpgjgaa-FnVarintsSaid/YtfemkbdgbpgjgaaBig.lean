/- The laws' first question: is the row longer than 1048576? -/
import Derived.Test.YtfemkbdgbpgjgaaRows
import Derived.WalkKit
namespace Go.Proofs.Ytfemkbdgbpgjgaa
open Go.RowKit

theorem big_no (a : Option Addr) (len cap : Nat) (w : World) (hl : len ≤ 1048576) : Calls Try.prog 15 #[.slice a len cap] w fun e w' => e = .returned (.bool false) ∧ w = w' := by
  have h : decide ((1048576 : Int) < (len : Int)) = false := by simp; omega
  go_enter Try.func15, Try.ntmps15
  go_wp2
  go_ret
  exact ⟨rfl, rfl⟩
theorem big_yes (a : Option Addr) (len cap : Nat) (w : World) (hl : 1048576 < len) (hm : len ≤ 9223372036854775807) : Calls Try.prog 15 #[.slice a len cap] w fun e w' => e = .returned (.bool true) ∧ w = w' := by
  have h : decide ((1048576 : Int) < (len : Int)) = true := by simp; omega
  go_enter Try.func15, Try.ntmps15
  go_wp2
  go_ret
  exact ⟨rfl, rfl⟩
end Go.Proofs.Ytfemkbdgbpgjgaa
