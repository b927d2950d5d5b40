/- The laws' own functions on one token: its size, and the program's token made of it. -/
import Derived.Test.YtcnnfhcpkbjolaaRows
import Derived.Test.YtcnnfhcpkbjolaaPlainA
import Derived.Outline
import Derived.Lib.Hide
import Derived.Below
namespace Go.Proofs.Ytcnnfhcpkbjolaa
open Go.RowKit Go.Lib

theorem l_szTok (k n : Int) (s : ByteArray) (left : Int) (w : World) (hm : s.size ≤ maxLen) (h0 : 0 ≤ left) (h1 : left ≤ 1048576) (h2 : (s.size : Int) ≤ left) :
    Calls Try.prog 11 #[.agg #[.int .i64 k, .int .i64 n, .string s], .int .i64 left] w fun e w' => e = .returned (.int .i64 (left - (s.size : Int))) ∧ Below w.heap.size w w' := by
  unfold maxLen at hm
  go_enter Try.func11, Try.ntmps11
  go_wp2
  all_goals go_ret
  all_goals exact ⟨rfl, (Below.refl _ _).alloc (Nat.le_refl _) _⟩
theorem l_szTok_big (k n : Int) (s : ByteArray) (left : Int) (w : World) (hm : s.size ≤ maxLen) (h0 : 0 ≤ left) (h1 : left ≤ 1048576) (h2 : left < (s.size : Int)) :
    Calls Try.prog 11 #[.agg #[.int .i64 k, .int .i64 n, .string s], .int .i64 left] w fun e w' => e = .returned (.int .i64 (-1)) ∧ Below w.heap.size w w' := by
  unfold maxLen at hm
  go_enter Try.func11, Try.ntmps11
  go_wp2
  all_goals go_ret
  all_goals exact ⟨rfl, (Below.refl _ _).alloc (Nat.le_refl _) _⟩

theorem l_toTok (k n : Int) (s : ByteArray) (w : World) :
    Calls Try.prog 14 #[.agg #[.int .i64 k, .int .i64 n, .string s]] w fun e w' => e = .returned (.agg #[.int .i64 k, .int .i64 n, .string s]) ∧ Below w.heap.size w w' := by
  go_enter Try.func14, Try.ntmps14
  go_wp2
  refine bodyPost_ret (v := .agg #[.int .i64 k, .int .i64 n, .string s]) (by simp [results, Try.results14, go_sem]) rfl ⟨rfl, ?_⟩
  exact (((Below.refl _ _).alloc (Nat.le_refl _) _).alloc (by simp) _).alloc (by simp; omega) _
end Go.Proofs.Ytcnnfhcpkbjolaa
